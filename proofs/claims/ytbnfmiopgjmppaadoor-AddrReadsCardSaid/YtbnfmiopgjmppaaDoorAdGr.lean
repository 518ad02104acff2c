/-
  The contracts of groups and of longestZeros. Conditions: sixteen bytes; eight groups below 65536.
-/
import Derived.Test.YtbnfmiopgjmppaaDoorAdTx
namespace Go.Proofs.YtbnfmiopgjmppaaDoor
open Go.RowKit

/-- Groups as they lie in slots and in memory. -/
def gv (gs : List Nat) : List Value := gs.map fun v : Nat => Value.int .u16 (v : Int)
theorem gv_len (gs : List Nat) : (gv gs).length = gs.length := by simp [gv]
theorem gv_one (gs : List Nat) : ∀ v ∈ gv gs, v.oneCell' = true := by
  intro v hv
  obtain ⟨x, _, rfl⟩ := List.mem_map.1 hv
  rfl
/-- A block of values. -/
def Bkv (w : World) (b : Nat) (t : TypeId) (vs : List Value) : Prop := w.heap[b]? = some (.cells vs.toArray t (0, 0))
theorem Bkv.new (w : World) (t : TypeId) (vs : List Value) : Bkv (w.alloc (.cells vs.toArray t)) w.heap.size t vs := Blk_new w _ _
theorem Bkv.cell {w : World} {b : Nat} {t : TypeId} {vs : List Value} (h : Bkv w b t vs) {k : Nat} {v : Value} (hv : vs[k]? = some v) : w.cell? ⟨b, k, none⟩ = some v := by
  rw [cell_of_row w b k _ t (0, 0) h]; simpa using hv
theorem Bkv.frozen {w : World} {b : Nat} {t : TypeId} {vs : List Value} (h : Bkv w b t vs) (k : Nat) : w.frozen? ⟨b, k, none⟩ = false := frozen_of_row w b k _ t h
theorem Bkv.range {w : World} {b : Nat} {t : TypeId} {vs : List Value} (h : Bkv w b t vs) : w.rangeAt b 0 vs := fun j v hv => by
  rw [cell_of_row w b (0 + j) _ t (0, 0) h]; simpa using hv
theorem Bkv.there {w : World} {b : Nat} {t : TypeId} {vs : List Value} (h : Bkv w b t vs) {n : Nat} (hn : vs.length = n) : w.there b 0 n := fun j hj => by
  rw [Nat.zero_add, h.cell (v := vs[j]'(by omega)) (List.getElem?_eq_getElem (by omega)), h.frozen]; simp
theorem Bkv.set {w : World} {b : Nat} {t : TypeId} {vs : List Value} (h : Bkv w b t vs) (k : Nat) (z : Value) : Bkv (w.setCell ⟨b, k, none⟩ z) b t (vs.set k z) := by
  show (w.setCell ⟨b, k, none⟩ z).heap[b]? = _
  rw [heap_setCell_same w b k _ t _ h]
  simp
theorem Bkv.drew {w : World} {b : Nat} {t : TypeId} {vs : List Value} (h : Bkv w b t vs) : Bkv w.drew b t vs := h
theorem Bkv.other {w : World} {b : Nat} {t : TypeId} {vs : List Value} (h : Bkv w b t vs) {c : Nat} (hc : b ≠ c) (k : Nat) (z : Value) : Bkv (w.setCell ⟨c, k, none⟩ z) b t vs := by
  show (w.setCell ⟨c, k, none⟩ z).heap[b]? = _
  rw [heap_setCell_other _ _ _ _ hc]; exact h
theorem Bkv.below {w w' : World} {b : Nat} {t : TypeId} {vs : List Value} (h : Bkv w b t vs) (hb : Below w.heap.size w w') : Bkv w' b t vs := by
  show w'.heap[b]? = _
  rw [hb.block b (Array.getElem?_eq_some_iff.1 h).1]; exact h
/-- The first groups are told, the others 0. -/
def pn (gs : List Nat) (k : Nat) : List Nat := gs.take k ++ List.replicate (gs.length - k) 0
theorem pn_zero (gs : List Nat) : pn gs 0 = List.replicate gs.length 0 := by simp [pn]
theorem pn_all (gs : List Nat) (k : Nat) (h : gs.length ≤ k) : pn gs k = gs := by
  unfold pn
  rw [List.take_of_length_le h, show gs.length - k = 0 by omega]
  simp
theorem pn_step (gs : List Nat) (k v : Nat) (h : gs[k]? = some v) : (pn gs k).set k v = pn gs (k + 1) := by
  have hk := (List.getElem?_eq_some_iff.1 h).1
  have hv := (List.getElem?_eq_some_iff.1 h).2
  unfold pn
  rw [List.set_append_right _ _ (by simp; omega), List.take_succ_eq_append_getElem hk, hv]
  have h0 : k - (gs.take k).length = 0 := by simp; omega
  rw [h0, show gs.length - k = (gs.length - (k + 1)) + 1 by omega, List.replicate_succ]
  simp
theorem pn_len (gs : List Nat) (k : Nat) (h : k ≤ gs.length) : (pn gs k).length = gs.length := by simp [pn]; omega
theorem gv_set (gs : List Nat) (k v : Nat) : (gv gs).set k (.int .u16 (v : Int)) = gv (gs.set k v) := by simp [gv, List.map_set]
theorem Bkv.at_ {w : World} {b : Nat} (h : w.heap.size = b) (t : TypeId) (vs : List Value) : Bkv (w.alloc (.cells vs.toArray t)) b t vs := by subst h; exact Bkv.new w t vs
theorem bel1 (w : World) (o : Obj) : Below w.heap.size w (w.alloc o) := (Below.refl _ _).alloc (Nat.le_refl _) _
theorem gz8 : #[Value.int .u16 0, .int .u16 0, .int .u16 0, .int .u16 0, .int .u16 0, .int .u16 0, .int .u16 0, .int .u16 0] = (gv (List.replicate 8 0)).toArray := rfl
theorem join16 {x y : Nat} (hx : x < 256) (hy : y < 256) : bits .or .u16 ((x : Int) * 256) (y : Int) = (x : Int) * 256 + y := by
  have := u16_or_nat (x * 256) y (by omega) (by omega)
  rw [nat_join 8 _ _ (by omega) (by omega)] at this
  simpa using this
theorem infG : (Tryd.prog.info? 66).map (·.size) = some 8 := by kernel_rfl

set_option maxRecDepth 100000 in
set_option maxHeartbeats 4000000 in
theorem aGroups_any (xs : List Int) (w : World) (hl : xs.length = 16) (hb : Byt xs) : Calls Tryd.prog 37 #[.agg (bv xs).toArray] w (Gives w (.agg (gv (gN xs)).toArray)) := by
  have HL := Lib.hid hl
  have HBy := Lib.hid hb
  clear hl hb
  go_enter Tryd.func37, Tryd.ntmps37
  go_wp2_with fail
  rw [gz8]
  go_loopw [5] (fun i wr => ∃ k : Nat, k ≤ 8 ∧ i = .int .i64 k ∧ Hid (Bkv wr w.heap.size 22 (bv xs)) ∧ Hid (Bkv wr (w.heap.size + 1) 66 (gv (List.replicate 8 0))) ∧ Hid (Bkv wr (w.heap.size + 2) 66 (gv (pn (gN xs) k))) ∧ Hid (Below w.heap.size w wr)) (fun i _ => 8 - (intOf i).toNat)
  case atStart =>
    refine ⟨0, by omega, rfl, ?_, ?_, ?_, ?_⟩
    · exact ((Bkv.new w _ _).below (bel1 _ _)).below (bel1 _ _)
    · exact (Bkv.at_ (by simp) _ _).below (bel1 _ _)
    · rw [pn_zero, gN_len]; exact Bkv.at_ (by simp) _ _
    · exact (((Below.refl _ _).alloc (Nat.le_refl _) _).alloc (by simp) _).alloc (by simp; omega) _
  case round =>
    obtain ⟨k, hk, rfl, hx, hz, hg, hbl⟩ := hrel
    by_cases hlt : k < 8
    · obtain ⟨x0, x1⟩ := HBy.out.get (2 * k)
      obtain ⟨y0, y1⟩ := HBy.out.get (2 * k + 1)
      have hcx : wr.cell? ⟨w.heap.size, 2 * k, none⟩ = some (.int .u8 (xs.getD (2 * k) 0)) := hx.out.cell (bv_get xs _ (by rw [HL.out]; omega))
      have hcy : wr.cell? ⟨w.heap.size, 2 * k + 1, none⟩ = some (.int .u8 (xs.getD (2 * k + 1) 0)) := hx.out.cell (bv_get xs _ (by rw [HL.out]; omega))
      have hgk := gN_get xs hlt
      have HGV : Hid (grp xs k = xs.getD (2 * k) 0 * 256 + xs.getD (2 * k + 1) 0) := by show _ = _; rfl
      obtain ⟨x, hxx⟩ : ∃ x : Nat, xs.getD (2 * k) 0 = (x : Int) := ⟨(xs.getD (2 * k) 0).toNat, by omega⟩
      obtain ⟨y, hyy⟩ : ∃ y : Nat, xs.getD (2 * k + 1) 0 = (y : Int) := ⟨(xs.getD (2 * k + 1) 0).toNat, by omega⟩
      rw [hxx] at hcx x0 x1 HGV
      rw [hyy] at hcy y0 y1 HGV
      have hor := join16 (x := x) (y := y) (by omega) (by omega)
      have hw : IntKind.u16.wrap ((x : Int) * 256) = (x : Int) * 256 := by rw [IntKind.wrap_u16]; omega
      have hwx : IntKind.u16.wrap (x : Int) = x := by rw [IntKind.wrap_u16]; omega
      have hwy : IntKind.u16.wrap (y : Int) = y := by rw [IntKind.wrap_u16]; omega
      have hfz := hg.out.frozen k
      have hln : (gv (pn (gN xs) k)).length = 8 := by rw [gv_len, pn_len _ _ (by rw [gN_len]; omega), gN_len]
      obtain ⟨z, hzz⟩ : ∃ z, (gv (pn (gN xs) k))[k]? = some z := ⟨_, List.getElem?_eq_getElem (by omega)⟩
      have hcz := hg.out.cell hzz
      have e : ((grp xs k).toNat : Int) = (x : Int) * 256 + y := by rw [HGV.out]; omega
      have HST : Hid (Bkv (wr.setCell ⟨w.heap.size + 2, k, none⟩ (.int .u16 ((x : Int) * 256 + y))) (w.heap.size + 2) 66 (gv (pn (gN xs) (k + 1)))) := by
        have h := hg.out.set k (.int .u16 ((x : Int) * 256 + y))
        rw [← e, gv_set, pn_step _ _ _ hgk, e] at h
        exact h
      have HX : ∀ z, Hid (Bkv (wr.setCell ⟨w.heap.size + 2, k, none⟩ z) w.heap.size 22 (bv xs)) := fun z => hx.out.other (by omega) _ _
      have HZ : ∀ z, Hid (Bkv (wr.setCell ⟨w.heap.size + 2, k, none⟩ z) (w.heap.size + 1) 66 (gv (List.replicate 8 0))) := fun z => hz.out.other (by omega) _ _
      have HB : ∀ z, Hid (Below w.heap.size w (wr.setCell ⟨w.heap.size + 2, k, none⟩ z).drew) := fun z => (hbl.out.setCell (p := ⟨w.heap.size + 2, k, none⟩) (by simp) z).drew
      have k0 : (k : Int) < 8 := by omega
      have n0 : ((2 : Int) * (k : Int)).toNat = 2 * k := by omega
      have n1 : ((2 : Int) * (k : Int) + 1).toNat = 2 * k + 1 := by omega
      clear hx hz hg hbl hgk hxx hyy hln hzz e HGV
      go_wp2_with fail
      go_region
      go_wp2_with fail
      go_roundw
      case rel => exact ⟨k + 1, by omega, by go_num, HX _, HZ _, HST, HB _⟩
      case measure => simp [intOf]; omega
    · have HP : Hid (Bkv wr (w.heap.size + 2) 66 (gv (gN xs))) := by have h := hg.out; rw [pn_all _ _ (by rw [gN_len]; omega)] at h; exact h
      clear hg
      go_wp2_with (first
        | (refine wpList_load_mid rfl _ _ rfl _ 0 rfl (gv (gN xs)) _ HP.out.range Tryd.underlying66 rfl (by rw [gv_len, gN_len]; exact infG) ?_)
        | (refine stC _ _ _ rfl rfl _ 0 (gv (gN xs)) rfl rfl (by rw [gv_len, gN_len]; exact hz.out.there rfl) (by rw [gv_len, gN_len]; exact infG) (gv_one _) ?_))
      refine bodyPost_ret (v := .agg (gv (gN xs)).toArray) (ret_mid Tryd.results37 _ _ _ _ (gv (gN xs)) _ rfl (World.rangeAt_setCells_same _ _ _ _ ?_) Tryd.underlying66 rfl ?_) rfl ⟨rfl, ?_⟩
      · rw [gv_len, gN_len]; exact hz.out.there rfl
      · rw [gv_len, gN_len]; exact infG
      · exact Below.setCells hbl.out _ (by omega) _ _
end Go.Proofs.YtbnfmiopgjmppaaDoor

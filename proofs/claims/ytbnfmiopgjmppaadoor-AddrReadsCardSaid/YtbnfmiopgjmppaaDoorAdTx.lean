/-
  The contracts of fourText and groupsText: the parts told one by one, with a sign between. Conditions: at most 1000 parts; bytes, or groups below 65536. (Made by gen_adtx.py.)
-/
import Derived.Test.YtbnfmiopgjmppaaDoorAdFm
import Derived.Test.YtbnfmiopgjmppaaDoorAdR14
import Derived.Test.YtbnfmiopgjmppaaDoorAdT4
import Derived.OwnWalk
namespace Go.Proofs.YtbnfmiopgjmppaaDoor
open Go.RowKit

theorem run_mk_txs (w : World) (n : Nat) (hn : n ≤ 1000) : ∃ w', (Instr.makeSlice 76 (.int .i64 (n : Int)) (.int .i64 (n : Int))).run Tryd.prog w = .ok (.slice (some ⟨w.heap.size, 0, none⟩) n n) w' ∧
    OwnT w' w.heap.size (some ⟨w.heap.size, 0, none⟩) n n (List.replicate n []) ∧ Below w.heap.size w w' ∧ w.heap.size < w'.heap.size := by
  obtain ⟨i0, hi, hz0, hz1, hz2⟩ := info_parts str_info
  obtain ⟨w', h1, h2, h3⟩ := run_makeSlice_full (P := Tryd.prog) (w := w) w.heap.size 76 9 i0 (.string ⟨#[]⟩) 1 Tryd.underlying76 hi hz0 hz1 .i64 .i64 n (by omega) (by rw [hz2]; omega) (by simp only [maxLen]; omega) (Nat.le_refl _)
  have ho : OwnT w' w.heap.size (some ⟨w.heap.size, 0, none⟩) n n (List.replicate n []) := by
    unfold OwnT OwnG
    have e : (madeCells (Value.string ⟨#[]⟩).cells (n * 1)).toList = (List.replicate n ([] : Tx)).map sv := by
      rw [Nat.mul_one]
      apply List.ext_getElem
      · simp [madeCells]
      · intro i h1 h2
        simp [madeCells, Value.cells, Nat.mod_one, sv]
    rw [← e]
    exact h2
  exact ⟨w', h1, ho, (Below.refl _ _).grown h3 (Nat.le_refl _) (by simp), (OwnG.blk_ge ho _ rfl).2⟩
theorem join_joinT (c : UInt8) : ∀ ls : List Tx, Lib.join ls [c] = joinT c ls
  | [] => rfl
  | [x] => by simp [Lib.join, joinT, List.intercalate]
  | x :: y :: l => by
    have ih := join_joinT c (y :: l)
    simp only [Lib.join, joinT] at ih ⊢
    rw [List.intercalate_cons_cons]
    rw [ih]
    simp
/-- The first parts told, the others empty. -/
def partT (f : Nat → Tx) (vs : List Nat) (k : Nat) : List Tx := (vs.take k).map f ++ List.replicate (vs.length - k) []
theorem partT_zero (f : Nat → Tx) (vs : List Nat) : partT f vs 0 = List.replicate vs.length [] := by simp [partT]
theorem partT_all (f : Nat → Tx) (vs : List Nat) (k : Nat) (h : vs.length ≤ k) : partT f vs k = vs.map f := by
  unfold partT
  rw [List.take_of_length_le h, show vs.length - k = 0 by omega]
  simp
theorem partT_step (f : Nat → Tx) (vs : List Nat) (k v : Nat) (h : vs[k]? = some v) : (partT f vs k).set k (f v) = partT f vs (k + 1) := by
  have hk := (List.getElem?_eq_some_iff.1 h).1
  have hv := (List.getElem?_eq_some_iff.1 h).2
  unfold partT
  rw [List.set_append_right _ _ (by simp; omega), List.take_succ_eq_append_getElem hk, hv]
  have h0 : k - ((vs.take k).map f).length = 0 := by simp; omega
  rw [h0, show vs.length - k = (vs.length - (k + 1)) + 1 by omega, List.replicate_succ]
  simp
theorem partT_len (f : Nat → Tx) (vs : List Nat) (k : Nat) (h : k ≤ vs.length) : (partT f vs k).length = vs.length := by simp [partT]; omega
theorem joinT_le (c : UInt8) (m : Nat) : ∀ ls : List Tx, (∀ x ∈ ls, x.length ≤ m) → (joinT c ls).length ≤ ls.length * (m + 1)
  | [], _ => by simp [joinT]
  | [x], h => by have := h x (by simp); simp [joinT]; omega
  | x :: y :: l, h => by
    have h1 := h x (by simp)
    have h2 := joinT_le c m (y :: l) (fun z hz => h z (by simp [hz]))
    simp only [joinT, List.length_append, List.length_cons] at h2 ⊢
    rw [Nat.succ_mul]
    omega
/-- Parts joined. -/
theorem join_any (c : UInt8) (g n : Nat) (ls : List Tx) (w : World) (m : Nat) (hm : m ≤ 1000) (hn : ls.length = n) (hn2 : n ≤ 1000) (hls : ∀ x ∈ ls, x.length ≤ m) {base : Nat} (ho : OwnT w base (some ⟨g, 0, none⟩) n n ls) (hg : g < w.heap.size) :
    Calls Tryd.prog 54 #[.slice (some ⟨g, 0, none⟩) n n, .string ⟨#[c]⟩] w (GivesT w (joinT c ls)) := by
  have hj := joinT_le c m ls hls
  have hmul : ls.length * (m + 1) ≤ 1000 * 1001 := Nat.mul_le_mul (by omega) (by omega)
  have he : (ls.map fun x => (⟨x.toArray⟩ : ByteArray)).map (·.data.toList) = ls := by
    rw [List.map_map]
    conv => rhs; rw [← List.map_id ls]
    apply List.map_congr_left
    intro x _
    simp
  have h := Tryd.strings_Join g 0 n (ls.map fun x => (⟨x.toArray⟩ : ByteArray)) ⟨#[c]⟩ w (fun j x hx => by
      rw [List.getElem?_map] at hx
      cases hq : ls[j]? with
      | none => rw [hq] at hx; cases hx
      | some y =>
        rw [hq] at hx
        simp only [Option.map_some, Option.some.injEq] at hx
        subst hx
        obtain ⟨g', e, hc, _⟩ := ho.at_ hq
        simp only [Option.some.injEq, Addr.mk.injEq, and_true] at e
        subst e
        rw [Nat.zero_add]
        exact hc) hg (by simp; omega) (by simp; omega) (by rw [he]; show (Lib.join ls [c]).length ≤ _; rw [join_joinT]; omega)
  rw [he] at h
  have hl : (ls.map fun x => (⟨x.toArray⟩ : ByteArray)).length = n := by simp [hn]
  rw [hl] at h
  refine h.mono ?_
  rintro e w' ⟨rfl, hb⟩
  refine ⟨?_, hb⟩
  show Ending.returned (.string ⟨(Lib.join ls [c]).toArray⟩) = _
  rw [join_joinT]
theorem itoa_any (v : Nat) (hv : v < 256) (w : World) (hg : Gl w) : Calls Tryd.prog 51 #[.int .i64 (v : Int)] w (GivesT w (dg v)) := by
  refine (Tryd.strconv_Itoa v (by omega) (by omega) w hg.pow).mono ?_
  rintro e w2 ⟨rfl, k, os, rfl⟩
  exact ⟨by rw [itoa_dg (by omega)], Lib.below_grow w.heap.size w (Nat.le_refl _) k os⟩
theorem hxT_len (v : Nat) : (hxT v).length ≤ 4 := by
  unfold hxT
  repeat' split
  all_goals simp

set_option maxRecDepth 100000 in
set_option maxHeartbeats 4000000 in
theorem aFourText_any (a : Option Addr) (n c : Nat) (vs : List Nat) (w : World) (hg : Gl w) (hn : vs.length = n) (hn2 : n ≤ 1000) (hv : ∀ v ∈ vs, v < 256) (hr : Rd w a (vs.map fun v : Nat => (v : Int))) :
    Calls Tryd.prog 38 #[.slice a n c] w (GivesT w (joinT 46 (vs.map dg))) := by
  have HG := Lib.hid hg
  have HN := Lib.hid hn
  have HV := Lib.hid hv
  have HR := Lib.hid hr
  obtain ⟨w1, hmk, ho, hb1, hlt⟩ := run_mk_txs w n hn2
  have hsz := Lib.hid (hb1.size)
  have HO := Lib.hid ho
  have HB1 := Lib.hid hb1
  have HLT := Lib.hid hlt
  clear hg hn hv hr ho hb1 hlt
  have n0 : (n : Int) ≤ 1000 := by omega
  go_enter Tryd.func38, Tryd.ntmps38
  obtain ⟨g, hgg⟩ : ∃ g, w.heap.size = g := ⟨_, rfl⟩
  have HGG := Lib.hid hgg
  rw [hgg] at hmk HO
  clear hgg
  go_wp2_with fail
  go_loopw [11] (fun i wr => ∃ k : Nat, k ≤ n ∧ i = .int .i64 k ∧ Hid (OwnT wr g (some ⟨g, 0, none⟩) n n (partT dg vs k)) ∧ Hid (Below w.heap.size w wr)) (fun i _ => n - (intOf i).toNat)
  case atStart => exact ⟨0, Nat.zero_le _, rfl, (by show OwnT _ _ _ _ _ _; rw [partT_zero, HN.out]; exact HO.out), HB1⟩
  case round =>
    obtain ⟨k, hk, rfl, ho, hbl⟩ := hrel
    clear HO HB1 HLT hsz hmk
    by_cases hlt : k < n
    · have hlt2 : (k : Int) < (n : Int) := by omega
      obtain ⟨v, hvk⟩ : ∃ v, vs[k]? = some v := ⟨_, List.getElem?_eq_getElem (by rw [HN.out]; exact hlt)⟩
      have hvl := HV.out v (List.mem_of_getElem? hvk)
      obtain ⟨b, o, rfl, hcell⟩ := (HR.out) (by intro e; have h2 : vs = [] := (by simpa using e); have h := HN.out; rw [h2] at h; simp at h; omega)
      have hc := cell_kept hbl.out (hcell k (by simp [HN.out, hlt]))
      have hgd : (vs.map fun v : Nat => (v : Int)).getD k 0 = (v : Int) := by simp [hvk]
      rw [hgd] at hc
      have HST := Lib.hid (partT_step dg vs k v hvk)
      have v0 : (v : Int) < 256 := by omega
      have e0 : IntKind.i64.wrap (v : Int) = v := by rw [IntKind.wrap_i64]; omega
      clear hcell hgd hvk
      go_wp2_with fail
      refine (itoa_any v hvl _ (HG.out.below hbl.out)).mono ?_
      rintro e w2 ⟨rfl, hb2⟩
      have ho2 : OwnT w2 g (some ⟨g, 0, none⟩) n n (partT dg vs k) := OwnG.below ho.out hb2
      obtain ⟨x, hx⟩ : ∃ x, (partT dg vs k)[k]? = some x := ⟨_, List.getElem?_eq_getElem (by rw [partT_len _ _ _ (by rw [HN.out]; exact hk), HN.out]; exact hlt)⟩
      obtain ⟨g', e, hc2, hf2⟩ := ho2.at_ hx
      simp only [Option.some.injEq, Addr.mk.injEq, and_true] at e
      subst e
      have HO2 : Hid (OwnT (w2.setCell ⟨g, k, none⟩ (sv (dg v))) g (some ⟨g, 0, none⟩) n n (partT dg vs (k + 1))) := by
        have h := ho2.set k (dg v)
        rw [HST.out] at h
        exact h
      have HB2 : Hid (Below w.heap.size w (w2.setCell ⟨g, k, none⟩ (sv (dg v)))) := (hbl.out.trans (hb2.mono hbl.out.size)).setCell (p := ⟨g, k, none⟩) (by rw [HGG.out]; exact Nat.le_refl _) _
      simp only [sv] at HO2 HB2 hc2
      clear ho ho2 hb2 hbl HST hx
      go_wp2_with fail
      go_roundw
      case rel => exact ⟨k + 1, by omega, by go_num, HO2, HB2⟩
      case measure => simp [intOf]; omega
    · have hk2 : k = n := by omega
      subst hk2
      have HO2 : Hid (OwnT wr g (some ⟨g, 0, none⟩) k k (vs.map dg)) := by have h := ho.out; rw [partT_all _ _ _ (by rw [HN.out]; exact Nat.le_refl _)] at h; exact h
      have hg2 : g < wr.heap.size := (OwnG.blk_ge ho.out g rfl).2
      have HG2 := Lib.hid hg2
      have hls : ∀ x ∈ vs.map dg, x.length ≤ 3 := by
        intro x hx
        obtain ⟨v, hv, rfl⟩ := List.mem_map.1 hx
        exact dg_len
      have HLS := Lib.hid hls
      clear ho hg2 hls
      go_wp2_with fail
      refine (join_any 46 g k (vs.map dg) _ 3 (by omega) (by rw [List.length_map]; exact HN.out) hn2 HLS.out HO2.out HG2.out).mono ?_
      rintro e w3 ⟨rfl, hb3⟩
      have HB3 := Lib.hid (hbl.out.trans (hb3.mono hbl.out.size))
      clear hb3
      go_wp2_with fail
      go_ret
      exact ⟨rfl, HB3.out⟩

set_option maxRecDepth 100000 in
set_option maxHeartbeats 4000000 in
theorem aGroupsText_any (a : Option Addr) (n c : Nat) (vs : List Nat) (w : World) (hg : Gl w) (hn : vs.length = n) (hn2 : n ≤ 1000) (hv : ∀ v ∈ vs, v < 65536) (hr : RdK .u16 w a (vs.map fun v : Nat => (v : Int))) :
    Calls Tryd.prog 53 #[.slice a n c] w (GivesT w (joinT 58 (vs.map hxT))) := by
  have HG := Lib.hid hg
  have HN := Lib.hid hn
  have HV := Lib.hid hv
  have HR := Lib.hid hr
  obtain ⟨w1, hmk, ho, hb1, hlt⟩ := run_mk_txs w n hn2
  have hsz := Lib.hid (hb1.size)
  have HO := Lib.hid ho
  have HB1 := Lib.hid hb1
  have HLT := Lib.hid hlt
  clear hg hn hv hr ho hb1 hlt
  have n0 : (n : Int) ≤ 1000 := by omega
  go_enter Tryd.func53, Tryd.ntmps53
  obtain ⟨g, hgg⟩ : ∃ g, w.heap.size = g := ⟨_, rfl⟩
  have HGG := Lib.hid hgg
  rw [hgg] at hmk HO
  clear hgg
  go_wp2_with fail
  go_loopw [11] (fun i wr => ∃ k : Nat, k ≤ n ∧ i = .int .i64 k ∧ Hid (OwnT wr g (some ⟨g, 0, none⟩) n n (partT hxT vs k)) ∧ Hid (Below w.heap.size w wr)) (fun i _ => n - (intOf i).toNat)
  case atStart => exact ⟨0, Nat.zero_le _, rfl, (by show OwnT _ _ _ _ _ _; rw [partT_zero, HN.out]; exact HO.out), HB1⟩
  case round =>
    obtain ⟨k, hk, rfl, ho, hbl⟩ := hrel
    clear HO HB1 HLT hsz hmk
    by_cases hlt : k < n
    · have hlt2 : (k : Int) < (n : Int) := by omega
      obtain ⟨v, hvk⟩ : ∃ v, vs[k]? = some v := ⟨_, List.getElem?_eq_getElem (by rw [HN.out]; exact hlt)⟩
      have hvl := HV.out v (List.mem_of_getElem? hvk)
      obtain ⟨b, o, rfl, hcell⟩ := (HR.out) (by intro e; have h2 : vs = [] := (by simpa using e); have h := HN.out; rw [h2] at h; simp at h; omega)
      have hc := cell_kept hbl.out (hcell k (by simp [HN.out, hlt]))
      have hgd : (vs.map fun v : Nat => (v : Int)).getD k 0 = (v : Int) := by simp [hvk]
      rw [hgd] at hc
      have HST := Lib.hid (partT_step hxT vs k v hvk)
      have v0 : (v : Int) < 65536 := by omega
      have e0 : IntKind.u64.wrap (v : Int) = v := by rw [IntKind.wrap_u64]; omega
      clear hcell hgd hvk
      go_wp2_with fail
      refine (sFmtU_any v hvl _ (HG.out.below hbl.out)).mono ?_
      rintro e w2 ⟨rfl, hb2⟩
      have ho2 : OwnT w2 g (some ⟨g, 0, none⟩) n n (partT hxT vs k) := OwnG.below ho.out hb2
      obtain ⟨x, hx⟩ : ∃ x, (partT hxT vs k)[k]? = some x := ⟨_, List.getElem?_eq_getElem (by rw [partT_len _ _ _ (by rw [HN.out]; exact hk), HN.out]; exact hlt)⟩
      obtain ⟨g', e, hc2, hf2⟩ := ho2.at_ hx
      simp only [Option.some.injEq, Addr.mk.injEq, and_true] at e
      subst e
      have HO2 : Hid (OwnT (w2.setCell ⟨g, k, none⟩ (sv (hxT v))) g (some ⟨g, 0, none⟩) n n (partT hxT vs (k + 1))) := by
        have h := ho2.set k (hxT v)
        rw [HST.out] at h
        exact h
      have HB2 : Hid (Below w.heap.size w (w2.setCell ⟨g, k, none⟩ (sv (hxT v)))) := (hbl.out.trans (hb2.mono hbl.out.size)).setCell (p := ⟨g, k, none⟩) (by rw [HGG.out]; exact Nat.le_refl _) _
      simp only [sv] at HO2 HB2 hc2
      clear ho ho2 hb2 hbl HST hx
      go_wp2_with fail
      go_roundw
      case rel => exact ⟨k + 1, by omega, by go_num, HO2, HB2⟩
      case measure => simp [intOf]; omega
    · have hk2 : k = n := by omega
      subst hk2
      have HO2 : Hid (OwnT wr g (some ⟨g, 0, none⟩) k k (vs.map hxT)) := by have h := ho.out; rw [partT_all _ _ _ (by rw [HN.out]; exact Nat.le_refl _)] at h; exact h
      have hg2 : g < wr.heap.size := (OwnG.blk_ge ho.out g rfl).2
      have HG2 := Lib.hid hg2
      have hls : ∀ x ∈ vs.map hxT, x.length ≤ 4 := by
        intro x hx
        obtain ⟨v, hv, rfl⟩ := List.mem_map.1 hx
        exact hxT_len v
      have HLS := Lib.hid hls
      clear ho hg2 hls
      go_wp2_with fail
      refine (join_any 58 g k (vs.map hxT) _ 4 (by omega) (by rw [List.length_map]; exact HN.out) hn2 HLS.out HO2.out HG2.out).mono ?_
      rintro e w3 ⟨rfl, hb3⟩
      have HB3 := Lib.hid (hbl.out.trans (hb3.mono hbl.out.size))
      clear hb3
      go_wp2_with fail
      go_ret
      exact ⟨rfl, HB3.out⟩

end Go.Proofs.YtbnfmiopgjmppaaDoor

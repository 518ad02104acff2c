/-
  The contracts of New and Sync. Conditions: those that the theorems name. (Made by gen_dksync.py.)
-/
import Derived.Test.YtbghdlgfpfeaeaaDkMem
namespace Go.Proofs.Ytbghdlgfpfeaeaa
open Go.RowKit

def nz (n : Nat) : List Int := List.replicate n 0
theorem nz_byt (n : Nat) : Byt (nz n) := fun x hx => by
  have := List.eq_of_mem_replicate hx
  omega
theorem mk_nz (w : World) (n : Nat) (hn : n ≤ 1000000) : ∃ w', (Instr.makeSlice 31 (.int .i64 (n : Int)) (.int .i64 (n : Int))).run Try.prog w = .ok (.slice (some ⟨w.heap.size, 0, none⟩) n n) w' ∧
    Own w' w.heap.size (some ⟨w.heap.size, 0, none⟩) n n (nz n) ∧ Below w.heap.size w w' ∧ w.heap.size < w'.heap.size := by
  obtain ⟨i0, hi, hz0, hz1, hz2⟩ := info_parts u8_info
  obtain ⟨w', h1, h2, h3⟩ := run_makeSlice_full (P := Try.prog) (w := w) w.heap.size 31 5 i0 (.int .u8 0) 1 Try.underlying31 hi hz0 hz1 .i64 .i64 n (by omega) (by rw [hz2]; omega) (by simp only [maxLen]; omega) (Nat.le_refl _)
  have ho : Own w' w.heap.size (some ⟨w.heap.size, 0, none⟩) n n (nz n) := by
    refine ⟨List.length_replicate, ?_⟩
    have e : (madeCells (Value.int .u8 0).cells (n * 1)).toList = bv (nz n) := by
      rw [Nat.mul_one]
      apply List.ext_getElem
      · simp [madeCells, bv, nz]
      · intro i h1 h2
        simp [madeCells, bv, nz, Value.cells, Nat.mod_one]
    rw [← e]
    exact h2
  exact ⟨w', h1, ho, (Below.refl _ _).grown h3 (Nat.le_refl _) (by simp), (ho.blk_ge _ rfl).2⟩

set_option maxRecDepth 100000 in
set_option maxHeartbeats 1000000 in
theorem dkNew_any (n : Nat) (w : World) (hn : n ≤ 65536) : Calls Try.prog 9 #[.int .i64 n] w fun e w' => ∃ g, e = .returned (.tuple #[.pointer (some ⟨g, 0, none⟩), .int .i64 0]) ∧ w.heap.size ≤ g ∧ (∃ a c, Dm w' w.heap.size g ⟨a, c, nz n, none, 0, []⟩) ∧ Below w.heap.size w w' := by
  obtain ⟨w1, hmk, ho, hb, hs⟩ := mk_nz w n (by omega)
  have h1 : ¬ (n : Int) < 0 := by omega
  have h2 : ¬ 65536 < (n : Int) := by omega
  have HR : Hid (Dm (w1.alloc (.cells (Dk.cs ⟨some ⟨w.heap.size, 0, none⟩, n, nz n, none, 0, []⟩).toArray 53)) w.heap.size w1.heap.size ⟨some ⟨w.heap.size, 0, none⟩, n, nz n, none, 0, []⟩ ∧ Below w.heap.size w (w1.alloc (.cells (Dk.cs ⟨some ⟨w.heap.size, 0, none⟩, n, nz n, none, 0, []⟩).toArray 53))) := by
    have hl : (nz n).length = n := List.length_replicate
    refine ⟨⟨⟨by show (nz n).length ≤ 65536; omega, nz_byt n, fun x hx => (List.not_mem_nil hx).elim, fun x hx => (List.not_mem_nil hx).elim, fun x hx => (List.not_mem_nil hx).elim⟩, Blk_new _ _ _, ?_, ⟨OwnG.nil _ _ _ _, fun x hx => (List.not_mem_nil hx).elim, List.Pairwise.nil⟩, fun x hx => (List.not_mem_nil hx).elim, hb.size⟩, hb.alloc hb.size _⟩
    show Own _ _ _ (nz n).length n (nz n)
    rw [hl]
    exact ho.keep (Kept.alloc (fun _ => False) _ _) (fun _ _ => id)
  have HS : Hid (w.heap.size ≤ w1.heap.size) := hb.size
  have e : Dk.cs ⟨some ⟨w.heap.size, 0, none⟩, n, nz n, none, 0, []⟩ = [.slice (some ⟨w.heap.size, 0, none⟩) n n, .slice none 0 0] := by
    have hl : (nz n).length = n := List.length_replicate
    show [Value.slice _ (nz n).length n, _] = _
    rw [hl]
    rfl
  rw [e] at HR
  clear ho hb hs e
  go_enter Try.func9, Try.ntmps9
  go_wp2_with fail
  go_ret2
  exact ⟨_, rfl, HS.out, ⟨_, _, HR.out.1⟩, HR.out.2⟩

/-- A write's own variable. -/
def Var (w : World) (x : Uw) (w' : World) : Prop := Below w.heap.size w w' ∧ w.heap.size + 1 ≤ w'.heap.size ∧ w'.heap[w.heap.size]? = some (.cells x.cs.toArray 46 (0, 0))
theorem var_th (w : World) (x : Uw) : World.there (w.alloc (.cells #[.int .i64 0, .slice none 0 0] 46)) w.heap.size 0 x.cs.length := fun j hj => by
  have h2 := Blk_new w #[.int .i64 0, .slice none 0 0] 46
  rw [cell_of_row _ _ (0 + j) _ _ (0, 0) h2, frozen_of_row _ _ (0 + j) _ _ h2]
  refine ⟨?_, rfl⟩
  have hj3 : j < 2 := hj
  rw [Nat.zero_add, Array.getElem?_eq_getElem (by simpa using hj3)]
  rfl
theorem var_new (w : World) (x : Uw) : Var w x ((w.alloc (.cells #[.int .i64 0, .slice none 0 0] 46)).setCells w.heap.size 0 x.cs) := by
  have h2 := Blk_new w #[.int .i64 0, .slice none 0 0] 46
  have hb : Below w.heap.size w (w.alloc (.cells #[.int .i64 0, .slice none 0 0] 46)) := (Below.refl _ _).alloc (Nat.le_refl _) _
  have hs : (w.alloc (.cells #[.int .i64 0, .slice none 0 0] 46)).heap.size = w.heap.size + 1 := by simp
  obtain ⟨v, hv⟩ : ∃ z, w.alloc (.cells #[.int .i64 0, .slice none 0 0] 46) = z := ⟨_, rfl⟩
  rw [hv] at h2 hs hb ⊢
  have hk : Kept (fun i => i = w.heap.size) v (v.setCells w.heap.size 0 x.cs) := by
    simp only [Uw.cs, World.setCells]
    exact (Kept.setCell (S := fun i => i = w.heap.size) _ _ _ rfl).trans (Kept.setCell (S := fun i => i = w.heap.size) _ _ _ rfl) (fun _ _ e => e)
  refine ⟨hb.trans (hk.below (by omega) (fun i e => by omega)), by have := hk.size; omega, ?_⟩
  simp only [Uw.cs, World.setCells]
  rw [heap_setCell_same _ _ _ _ _ _ (heap_setCell_same _ _ _ _ _ _ h2)]
  rfl
theorem infWr : (Try.prog.info? 46).map (·.size) = some 2 := by kernel_rfl
/-- All writes laid over the bytes of a disk, one after the other. -/
def lays (d : List Int) (l : List Uw) : List Int := l.foldl (fun d x => layL d x.d x.at_ 0) d
theorem lays_snoc (d : List Int) (l : List Uw) (x : Uw) : lays d (l ++ [x]) = layL (lays d l) x.d x.at_ 0 := by simp [lays]
theorem layL_byt {xs d : List Int} {p f : Int} (h : Byt xs) (k : Byt d) : Byt (layL xs d p f) := ((h.take _).append ((k.drop _).take _)).append (h.drop _)
theorem Dm.laid {w w' : World} {B g : Nat} {k : Dk} (h : Dm w B g k) {x : Uw} (hx : x ∈ k.W) (ho : Own w' B k.a k.d.length k.c (layL k.d x.d x.at_ 0)) (hk : Kept (fun i => blk k.a = some i) w w') : Dm w' B g { k with d := layL k.d x.d x.at_ 0 } := by
  have hl := layL_len k.d x.d x.at_ 0
  have hg : blk k.a ≠ some g := fun e => by
    obtain ⟨b, cur, e2, _, hb, _⟩ := h.dur.cases.resolve_left (by rintro ⟨e2, _⟩; rw [e2] at e; cases e)
    rw [e2] at e
    simp [blk] at e
    subst e
    rw [h.row] at hb
    simp at hb
  refine ⟨⟨by show (layL _ _ _ _).length ≤ _; rw [hl]; exact h.ok.few, layL_byt h.ok.byt (h.ok.wbyt x hx), h.ok.at0, fun y hy => by show _ ≤ ((layL _ _ _ _).length : Int); rw [hl]; exact h.ok.at1 y hy, h.ok.wbyt⟩, ?_, ?_, h.wr.keep hk (fun b hb e => (own_of h.dur).apart h.wr.row (by decide) b e hb) (fun y hy b hb e => h.off y hy b e hb), h.off, h.base⟩
  · show _ = some (Obj.cells (List.toArray [Value.slice k.a (layL k.d x.d x.at_ 0).length k.c, Value.slice k.u k.W.length k.v]) _ _)
    rw [hl]
    exact hk.heap h.row (fun e => hg e)
  · show Own w' B k.a (layL k.d x.d x.at_ 0).length k.c _
    rw [hl]
    exact ho
theorem Dm.nth {w : World} {B g : Nat} {k : Dk} (h : Dm w B g k) {i : Nat} (hi : i < k.W.length) : ∃ x u, k.W[i]? = some x ∧ x ∈ k.W ∧ k.u = some ⟨u, 0, none⟩ ∧ w.cell? ⟨u, i * 2, none⟩ = some (.int .i64 x.at_) ∧ w.cell? ⟨u, i * 2 + 1, none⟩ = some (.slice x.a x.n x.c) := by
  have hx : k.W[i]? = some k.W[i] := List.getElem?_eq_getElem hi
  obtain ⟨u, e, hc⟩ := h.wr.row.cell (by intro e; have := wts_len k.W; rw [e] at this; simp at this; omega)
  have h0 := hc (i * 2 + 0) _ (wts_at hx 0 (by omega))
  have h1 := hc (i * 2 + 1) _ (wts_at hx 1 (by omega))
  rw [Nat.zero_add] at h0 h1
  exact ⟨_, u, hx, List.getElem_mem hi, e, h0, h1⟩
/-- The memory while writes are laid: the first ones of a disk's are done. -/
structure Ly (w : World) (B g : Nat) (k : Dk) (i : Nat) (wr : World) : Prop where
  dm : Dm wr B g { k with d := lays k.d (k.W.take i) }
  kept : Kept (fun b => blk k.a = some b) w wr
theorem lays_len (d : List Int) (l : List Uw) : (lays d l).length = d.length := by
  induction l generalizing d with
  | nil => rfl
  | cons x l ih =>
    show (lays (layL d x.d x.at_ 0) l).length = _
    rw [ih, layL_len]

theorem Var.rng {w w' : World} {x : Uw} (h : Var w x w') : w'.rangeAt w.heap.size 0 x.cs := fun j v hv => by
  rw [cell_of_row w' _ (0 + j) _ _ (0, 0) h.2.2, Nat.zero_add]
  simpa using hv
theorem rng_of {w : World} {x : Uw} {b : Nat} (h : w.heap[b]? = some (.cells x.cs.toArray 46 (0, 0))) : w.rangeAt b 0 x.cs := fun j v hv => by
  rw [cell_of_row w _ (0 + j) _ _ (0, 0) h, Nat.zero_add]
  simpa using hv
theorem Var.drew {w w' : World} {x : Uw} (h : Var w x w') : Var w x w'.drew := ⟨h.1.drew, h.2.1, h.2.2⟩
theorem Ly.c0 {w wr : World} {B g j : Nat} {k : Dk} (h : Ly w B g k j wr) : wr.cell? ⟨g, 0, none⟩ = some (.slice k.a k.d.length k.c) := by
  have := h.dm.c0
  simp only [lays_len] at this
  exact this
theorem Ly.below {w wr w' : World} {B g j : Nat} {k : Dk} (h : Ly w B g k j wr) (hb : Below wr.heap.size wr w') : Ly w B g k j w' :=
  ⟨h.dm.below hb, h.kept.trans (Kept.of_below (S := fun _ => False) hb (fun i hi hi2 => by omega)) (fun _ _ e => e.elim)⟩
theorem Ly.lay {w wr w2 : World} {B g j : Nat} {k : Dk} (h : Ly w B g k j wr) {x : Uw} (hx : k.W[j]? = some x) (ho : Own w2 B k.a k.d.length k.c (layL (lays k.d (k.W.take j)) x.d x.at_ 0)) (hk : Kept (fun i => blk k.a = some i) wr w2) : Ly w B g k (j + 1) w2 := by
  have e : k.W.take (j + 1) = k.W.take j ++ [x] := by rw [List.take_add_one, hx]; rfl
  have hd := h.dm.laid (x := x) (List.mem_of_getElem? hx) (by show Own w2 B k.a (lays k.d (k.W.take j)).length k.c _; rw [lays_len]; exact ho) hk
  refine ⟨?_, h.kept.trans hk (fun _ _ e => e)⟩
  rw [e, lays_snoc]
  exact hd
theorem Ly.dur {w wr : World} {B g j : Nat} {k : Dk} (h : Ly w B g k j wr) : Own wr B k.a k.d.length k.c (lays k.d (k.W.take j)) := by
  have := h.dm.dur
  simp only [lays_len] at this
  exact this
theorem Ly.fin {w wr : World} {B g m : Nat} {k : Dk} (h : Ly w B g k m wr) (hm : k.W.length = m) : Dm (wr.setCell ⟨g, 1, none⟩ (.slice none 0 0)) B g { k with d := lays k.d k.W, u := none, v := 0, W := [] } := by
  have hd := h.dm
  rw [List.take_of_length_le (by omega)] at hd
  refine ⟨⟨hd.ok.few, hd.ok.byt, fun x hx => (List.not_mem_nil hx).elim, fun x hx => (List.not_mem_nil hx).elim, fun x hx => (List.not_mem_nil hx).elim⟩, ?_, hd.dur.keep (Kept.setCell (S := fun i => i = g) _ _ _ rfl) (fun b hb e => ?_), ⟨OwnG.nil _ _ _ _, fun x hx => (List.not_mem_nil hx).elim, List.Pairwise.nil⟩, fun x hx => (List.not_mem_nil hx).elim, hd.base⟩
  · rw [heap_setCell_same _ g 1 _ _ _ hd.row]
    rfl
  · obtain ⟨b', cur, e2, _, hb', _⟩ := hd.dur.cases.resolve_left (by rintro ⟨e2, _⟩; rw [show k.a = none from e2] at hb; cases hb)
    have e3 : k.a = some ⟨b', 0, none⟩ := e2
    rw [e3] at hb
    simp [blk] at hb
    rw [hb, e, hd.row] at hb'
    simp at hb'
set_option maxRecDepth 100000 in
set_option maxHeartbeats 1000000 in
theorem dkSync_any (B g : Nat) (k : Dk) (w : World) (h : Dm w B g k) : Calls Try.prog 10 #[.pointer (some ⟨g, 0, none⟩)] w fun e w' => e = .returned (.int .i64 0) ∧ Dm w' B g { k with d := lays k.d k.W, u := none, v := 0, W := [] } ∧ Kept (fun i => i = g ∨ blk k.a = some i) w w' := by
  have c1 := h.c1
  have HD := Lib.hid h
  obtain ⟨m, hm⟩ : ∃ z, k.W.length = z := ⟨_, rfl⟩
  have HM := Lib.hid hm
  have hmx : m ≤ 9223372036854775807 := by have := h.wr.row.le.1; have := h.wr.row.le.2; simp only [maxLen] at this; omega
  rw [hm] at c1
  clear h hm
  go_enter Try.func10, Try.ntmps10
  go_wp2_with fail
  go_loopw [12] (fun i wr => ∃ j : Nat, j ≤ m ∧ i = .int .i64 j ∧ Hid (Ly w B g k j wr)) (fun i _ => m - (intOf i).toNat)
  case atStart => exact ⟨0, Nat.zero_le _, rfl, HD.out, Kept.refl _ _⟩
  case round =>
    obtain ⟨j, hj, rfl, hl⟩ := hrel
    by_cases hlt : j < m
    · obtain ⟨x, u, hx, hxm, hu, d0, d1⟩ := hl.out.dm.nth (i := j) (by have := HM.out; show j < k.W.length; omega)
      have hu : k.u = some ⟨u, 0, none⟩ := hu
      have hx : k.W[j]? = some x := hx
      have hxm : x ∈ k.W := hxm
      rw [hu]
      have HX : Hid (k.W[j]? = some x ∧ x ∈ k.W) := ⟨hx, hxm⟩
      have HF0 := Lib.hid (var_new wr x)
      have HT := Lib.hid (var_th wr x)
      have hlt2 : (j : Int) < (m : Int) := by omega
      have e1 : IntKind.i64.wrap ((j : Int) + 1) = ((j + 1 : Nat) : Int) := by rw [IntKind.wrap_i64]; omega
      have E1 := Lib.hid e1
      clear hx hxm hu e1
      go_wp2_with (refine stN (fun w' => Hid (Var wr x w')) 46 (.tmp 4) (.tmp 15) rfl rfl wr.heap.size 0 x.cs rfl rfl HT.out infWr x.one HF0 ?_; intro wc HF)
      have HS : Hid (Var wr x wc.drew ∧ Ly w B g k j wc.drew) := ⟨HF.out.drew, hl.out.below HF.out.1.drew⟩
      refine wp_region_held_drew (S := fun w' => w'.heap[wr.heap.size]? = some (.cells x.cs.toArray 46 (0, 0)) ∧ w'.cell? ⟨g, 0, none⟩ = some (.slice k.a k.d.length k.c)) (by kernel_rfl) ⟨HS.out.1.2.2, HS.out.2.c0⟩ (fun hS => ?_)
      refine tk 0 16 (.agg (x.cs).toArray) rfl rfl (by kernel_rfl) (by kernel_rfl) (by kernel_rfl) (fun _ _ _ h => h) (yieldsIf_load_mid (by rfl) _ _ rfl (wr.heap.size) (0) rfl (x.cs) _ (fun w' h' => rng_of h'.1) Try.underlying46 rfl (infWr)) hS ?_
      try simp only [Act.put, List.setIfInBounds_toArray, List.set_cons_zero, List.set_cons_succ]
      refine tk 1 17 (.pointer (some ⟨g, 0, none⟩)) rfl rfl (by kernel_rfl) (by kernel_rfl) (by kernel_rfl) (fun _ _ _ h => h) (Or.inl ⟨by rfl, fun w' h' => ?_⟩) hS ?_
      · go_simp
      try simp only [Act.put, List.setIfInBounds_toArray, List.set_cons_zero, List.set_cons_succ]
      refine tk 2 18 (.pointer (some ⟨g, 0, none⟩)) rfl rfl (by kernel_rfl) (by kernel_rfl) (by kernel_rfl) (fun _ _ _ h => h) (Or.inl ⟨by rfl, fun w' h' => ?_⟩) hS ?_
      · go_simp
      try simp only [Act.put, List.setIfInBounds_toArray, List.set_cons_zero, List.set_cons_succ]
      refine tk 3 19 (.pointer (some ⟨g, 0, none⟩)) rfl rfl (by kernel_rfl) (by kernel_rfl) (by kernel_rfl) (fun _ _ _ h => h) (Or.inl ⟨by rfl, fun w' h' => ?_⟩) hS ?_
      · go_simp
      try simp only [Act.put, List.setIfInBounds_toArray, List.set_cons_zero, List.set_cons_succ]
      refine tk 4 20 (.slice k.a k.d.length k.c) rfl rfl (by kernel_rfl) (by kernel_rfl) (by kernel_rfl) (fun _ _ _ h => h) (Or.inl ⟨by rfl, fun w' h' => ?_⟩) hS ?_
      · have c0 := h'.2
        go_simp
      try simp only [Act.put, List.setIfInBounds_toArray, List.set_cons_zero, List.set_cons_succ]
      refine wpAnyH_ready (rs := [5]) (by kernel_rfl) (by simp) (AllReadyH.cons rfl (fun K hK => ?_) AllReadyH.nil)
      rw [if_pos (by rfl)]
      go_wp2_with fail
      refine (lay_any x k.d.length k.c B k.a (lays k.d (k.W.take j)) 0 wc.drew ?_ ?_ ?_ ?_ ?_ ?_ ?_ ?_).mono ?_
      · exact HS.out.2.dm.lies HX.out.2
      · exact ((HS.out.2.dm.wr.data x HX.out.2).le).1
      · exact ((HS.out.2.dm.wr.data x HX.out.2).le).2
      · exact HD.out.ok.at0 x HX.out.2
      · have h1 := HD.out.ok.at1 x HX.out.2
        have h2 := HD.out.ok.few
        omega
      · omega
      · omega
      · exact HS.out.2.dur
      rintro e w2 ⟨rfl, ho, hk⟩
      have H2 : Hid (Ly w B g k (j + 1) w2) := HS.out.2.lay HX.out.1 ho hk
      have H3 : Hid (w2.heap[wr.heap.size]? = some (.cells x.cs.toArray 46 (0, 0))) := hk.heap HF.out.2.2 (fun e => by have := (hl.out.dur.blk_ge _ e).2; omega)
      clear ho hk
      clear hS
      refine hK.out _ _ (⟨H3.out, H2.out.c0⟩) (fun hS => ?_)
      clear hK K
      refine wpAnyH_done (by kernel_rfl) ?_ _

      go_wp2_with fail
      go_roundw
      case rel => exact ⟨j + 1, by omega, by go_num, H2.out⟩
      case measure => simp [intOf]; omega
    · have hjm : j = m := by omega
      have hlt2 : ¬ (j : Int) < (m : Int) := by omega
      have HE : Hid (Ly w B g k m wr) := by rw [← hjm]; exact hl.out
      have f1 := hl.out.dm.frozen 1
      have c1 := hl.out.dm.c1
      clear hjm
      go_wp2_with fail
      go_ret
      exact ⟨rfl, HE.out.fin HM.out, (HE.out.kept.mono (fun _ _ e => .inr e)).trans (Kept.setCell (S := fun i => i = g ∨ blk k.a = some i) _ _ _ (.inl rfl)) (fun _ _ e => e)⟩
end Go.Proofs.Ytbghdlgfpfeaeaa

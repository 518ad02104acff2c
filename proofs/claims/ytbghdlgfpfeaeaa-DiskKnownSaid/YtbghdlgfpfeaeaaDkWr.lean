/-
  The contracts of a disk's Write, Unsynced and Copy. Conditions: numbers that fit their Go types, writes of at most a million bytes. (Made by gen_dkwr.py.)
-/
import Derived.Test.YtbghdlgfpfeaeaaDkRd
namespace Go.Proofs.Ytbghdlgfpfeaeaa
open Go.RowKit

/-- A write as the document has it. -/
def Uw.pl (x : Uw) : Int × List Int := (x.at_, x.d)
def Dk.ws (k : Dk) : List (Int × List Int) := k.W.map Uw.pl
theorem infWrF : (Try.prog.info? 46).map (fun i => (i.zero, i.size, i.bytes)) = some (some (.agg #[.int .i64 0, .slice none 0 0]), 2, 32) := by kernel_rfl
/-- What a write does. -/
def WrR (w : World) (B g : Nat) (k : Dk) (p : Int) (xs : List Int) (e : Ending) (w' : World) : Prop :=
  e = .returned (.int .i64 0) ∧ ∃ k', Dm w' B g k' ∧ k'.d = k.d ∧ k'.ws = k.ws ++ [(p, xs)] ∧ Kept (fun i => i = g ∨ blk k.u = some i) w w' ∧ ∀ i, k'.foot g i → k.foot g i ∨ w.heap.size ≤ i
theorem Dm.gd {w : World} {B g : Nat} {k : Dk} (h : Dm w B g k) : blk k.a ≠ some g := fun e => by
  obtain ⟨b, cur, e2, _, hb, _⟩ := h.dur.cases.resolve_left (by rintro ⟨e2, _⟩; rw [e2] at e; cases e)
  rw [e2] at e
  simp [blk] at e
  subst e
  rw [h.row] at hb
  simp at hb
theorem Dm.gx {w : World} {B g : Nat} {k : Dk} (h : Dm w B g k) {x : Uw} (hx : x ∈ k.W) : blk x.a ≠ some g := fun e => by
  obtain ⟨b, cur, e2, _, hb, _⟩ := (h.wr.data x hx).cases.resolve_left (by rintro ⟨e2, _⟩; rw [e2] at e; cases e)
  rw [e2] at e
  simp [blk] at e
  subst e
  rw [h.row] at hb
  simp at hb
theorem Dm.wrote {w w3 w4 : World} {B g : Nat} {k : Dk} (h : Dm w B g k) (hb : Below w.heap.size w w3) {y : Uw} (hy : Own w3 w.heap.size y.a y.n y.c y.d) (hyb : Byt y.d) (h0 : 0 ≤ y.at_) (h1 : y.at_ + y.d.length ≤ k.d.length) {g' cap' : Nat}
    (hown : OwnG w4 B 46 2 (some ⟨g', 0, none⟩) (k.W.length + 1) cap' (wts k.W ++ y.cs)) (hk : Kept (fun i => blk k.u = some i) w3 w4) (hfr : blk k.u = some g' ∨ w3.heap.size < g') :
    WrR w B g k y.at_ y.d (.returned (.int .i64 0)) (w4.setCell ⟨g, 1, none⟩ (.slice (some ⟨g', 0, none⟩) (k.W.length + 1) cap')) := by
  have h3 := h.below hb
  have hu : ∀ i, blk k.u = some i → i < w.heap.size := fun i e => (h.wr.row.blk_ge i e).2
  have hgu : blk k.u ≠ some g := fun e => by
    obtain ⟨b, cur, e2, _, hb, _⟩ := h.wr.row.cases.resolve_left (by rintro ⟨e2, _⟩; rw [e2] at e; cases e)
    rw [e2] at e
    simp [blk] at e
    subst e
    rw [h.row] at hb
    simp at hb
  have r4 := hk.heap h3.row (fun e => hgu e)
  obtain ⟨cur', r5⟩ : ∃ cur, w4.heap[g']? = some (.cells cur 46 (0, 0)) := by
    rcases hown.cases with ⟨e, _⟩ | ⟨b, cur, e, _, hb, _⟩
    · cases e
    · simp at e; subst e; exact ⟨cur, hb⟩
  have hgg : g' ≠ g := fun e => by rw [e, r4] at r5; simp at r5
  have hks : Kept (fun i => i = g) w4 (w4.setCell ⟨g, 1, none⟩ (.slice (some ⟨g', 0, none⟩) (k.W.length + 1) cap')) := Kept.setCell (S := fun i => i = g) _ _ _ rfl
  refine ⟨rfl, { k with u := some ⟨g', 0, none⟩, v := cap', W := k.W ++ [y] }, ⟨⟨h.ok.few, h.ok.byt, ?_, ?_, ?_⟩, ?_, ?_, ⟨?_, ?_, ?_⟩, ?_, h.base⟩, rfl, ?_, ?_, ?_⟩
  · intro x hx
    rcases List.mem_append.1 hx with hx | hx
    · exact h.ok.at0 x hx
    · simp at hx; subst hx; exact h0
  · intro x hx
    rcases List.mem_append.1 hx with hx | hx
    · exact h.ok.at1 x hx
    · simp at hx; subst hx; exact h1
  · intro x hx
    rcases List.mem_append.1 hx with hx | hx
    · exact h.ok.wbyt x hx
    · simp at hx; subst hx; exact hyb
  · rw [heap_setCell_same _ g 1 _ _ _ r4]
    simp [Dk.cs]
  · exact (h3.dur.keep hk (fun b hb e => (own_of h3.dur).apart h3.wr.row (by decide) b hb e)).keep hks (fun b hb e => h.gd (by rw [hb, e]))
  · have := hown.keep hks (fun b hb e => by simp [blk] at hb; omega)
    simpa [wts_append, wts] using this
  · intro x hx
    rcases List.mem_append.1 hx with hx | hx
    · exact ((h3.wr.data x hx).keep hk (fun b hb e => (own_of (h3.wr.data x hx)).apart h3.wr.row (by decide) b hb e)).keep hks (fun b hb e => h.gx hx (by rw [hb, e]))
    · simp at hx
      subst hx
      refine ((hy.keep hk (fun b hb e => ?_)).keep hks (fun b hb e => ?_)).mono ?_
      · have := (hy.blk_ge b hb).1; have := hu b e; omega
      · have := (hy.blk_ge b hb).1; have := h.lt; omega
      · have := h.base; have := h.lt; omega
  · rw [List.pairwise_append]
    refine ⟨h.wr.apart, List.pairwise_singleton _ _, ?_⟩
    intro x hx z hz b q1 q2
    simp at hz
    subst hz
    have h3 := (hy.blk_ge b q2).1
    have h4 := ((h.wr.data x hx).blk_ge b q1).2
    omega
  · intro x hx b hb
    rcases List.mem_append.1 hx with hx | hx
    · exact h.off x hx b hb
    · simp at hx
      subst hx
      intro e
      have h3 := (hy.blk_ge b e).1
      have h4 := (h.dur.blk_ge b hb).2
      omega
  · simp [Dk.ws, Uw.pl]
  · exact ((Kept.of_below (S := fun i => i = g ∨ blk k.u = some i) hb (fun i hi hi2 => by omega)).trans hk (fun _ _ e => .inr e)).trans hks (fun _ _ e => .inl e)
  · intro i hi
    rcases hi with e | e | e | ⟨x, hx, e⟩
    · exact .inl (.inl e)
    · exact .inl (.inr (.inl e))
    · simp [blk] at e
      rcases hfr with hf | hf
      · exact .inl (.inr (.inr (.inl (by rw [hf, e]))))
      · have := hb.size; exact .inr (by omega)
    · rcases List.mem_append.1 hx with hx | hx
      · exact .inl (.inr (.inr (.inr ⟨x, hx, e⟩)))
      · simp at hx
        subst hx
        exact .inr ((hy.blk_ge i e).1)
theorem dkWrite_no (B g : Nat) (k : Dk) (p : Int) (b : Option Addr) (n c : Nat) (w : World) (h : Dm w B g k) (hp : I64 p) (hn : rcV k.d p n ≠ 0) : Calls Try.prog 13 #[.pointer (some ⟨g, 0, none⟩), .int .i64 p, .slice b n c] w fun e w' => e = .returned (.int .i64 130) ∧ w' = w := by
  have hv : rcV k.d p n = 130 := by
    unfold rcV at hn ⊢
    split at hn <;> simp_all
  have HC := Lib.hid (dkReaches_any B g k p n w h hp)
  rw [hv] at HC
  clear h hn hv
  go_enter Try.func13, Try.ntmps13
  go_wp2_with fail
  refine HC.out.mono ?_
  rintro e w1 ⟨rfl, rfl⟩
  go_wp2_with fail
  go_ret
  exact ⟨rfl, rfl⟩
theorem dkWrite_none (B g : Nat) (k : Dk) (p : Int) (b : Option Addr) (c : Nat) (w : World) (h : Dm w B g k) (hp : I64 p) (hn : rcV k.d p 0 = 0) : Calls Try.prog 13 #[.pointer (some ⟨g, 0, none⟩), .int .i64 p, .slice b 0 c] w fun e w' => e = .returned (.int .i64 0) ∧ w' = w := by
  have HC := Lib.hid (dkReaches_any B g k p 0 w h hp)
  rw [hn] at HC
  clear h hn
  go_enter Try.func13, Try.ntmps13
  go_wp2_with fail
  refine HC.out.mono ?_
  rintro e w1 ⟨rfl, rfl⟩
  go_wp2_with fail
  go_ret
  exact ⟨rfl, rfl⟩
set_option maxRecDepth 100000 in
set_option maxHeartbeats 2000000 in
theorem dkWrite_any (B g : Nat) (k : Dk) (p : Int) (b : Option Addr) (n c : Nat) (xs : List Int) (w : World) (h : Dm w B g k) (hp : I64 p) (hxl : xs.length = n) (hxr : Rd w b xs) (hxb : Byt xs) (hn0 : 0 < n) (hok : rcV k.d p n = 0) (hW : k.W.length ≤ 1000000) :
    Calls Try.prog 13 #[.pointer (some ⟨g, 0, none⟩), .int .i64 p, .slice b n c] w (WrR w B g k p xs) := by
  have HC := Lib.hid (dkReaches_any B g k p n w h hp)
  rw [hok] at HC
  have HD := Lib.hid h
  have HX : Hid (xs.length = n ∧ Rd w b xs ∧ Byt xs ∧ (0 ≤ p ∧ p + n ≤ k.d.length) ∧ k.W.length ≤ 1000000 ∧ k.d.length ≤ 65536) := ⟨hxl, hxr, hxb, ⟨(rcV_ok hok).1, (rcV_ok hok).2.2⟩, hW, h.ok.few⟩
  have hnI : (0 : Int) < (n : Int) := by omega
  clear h hp hxl hxr hxb hok hW hn0
  go_enter Try.func13, Try.ntmps13
  go_wp2_with fail
  refine HC.out.mono ?_
  rintro e w1 ⟨rfl, hw1⟩
  subst hw1
  clear HC
  go_wp2_with fail
  have HD2 : Hid (Dm w1.drew B g k) := HD.out.below (Below.refl _ _).drew
  have HL : Hid (Uw.lies ⟨p, b, n, c, xs⟩ w1.drew) := ⟨HX.out.1, HX.out.2.1.below (Below.refl _ _).drew, HX.out.2.2.1, by show n ≤ 1000000; have := HX.out.2.2.2.1; have := HX.out.2.2.2.2.2; omega⟩
  have HBD : Hid (Below w1.heap.size w1 w1.drew ∧ w1.drew.heap.size = w1.heap.size) := ⟨(Below.refl _ _).drew, rfl⟩
  obtain ⟨m, hm⟩ : ∃ z, k.W.length = z := ⟨_, rfl⟩
  have HM := Lib.hid hm
  clear hm
  refine wp_region_held_drew (S := fun w' => True) (by kernel_rfl) trivial (fun hS => ?_)
  refine tk 0 19 (.pointer (some ⟨g, 0, none⟩)) rfl rfl (by kernel_rfl) (by kernel_rfl) (by kernel_rfl) (fun _ _ _ h => h) (Or.inl ⟨by rfl, fun w' h' => ?_⟩) hS ?_
  · go_simp
  try simp only [Act.put, List.setIfInBounds_toArray, List.set_cons_zero, List.set_cons_succ]
  refine tk 1 20 (.pointer (some ⟨g, 0, none⟩)) rfl rfl (by kernel_rfl) (by kernel_rfl) (by kernel_rfl) (fun _ _ _ h => h) (Or.inl ⟨by rfl, fun w' h' => ?_⟩) hS ?_
  · go_simp
  try simp only [Act.put, List.setIfInBounds_toArray, List.set_cons_zero, List.set_cons_succ]
  refine tk 2 21 (.pointer (some ⟨g, 0, none⟩)) rfl rfl (by kernel_rfl) (by kernel_rfl) (by kernel_rfl) (fun _ _ _ h => h) (Or.inl ⟨by rfl, fun w' h' => ?_⟩) hS ?_
  · go_simp
  try simp only [Act.put, List.setIfInBounds_toArray, List.set_cons_zero, List.set_cons_succ]
  refine tk 3 22 (.pointer (some ⟨g, 1, none⟩)) rfl rfl (by kernel_rfl) (by kernel_rfl) (by kernel_rfl) (fun _ _ _ h => h) (Or.inl ⟨by rfl, fun w' h' => ?_⟩) hS ?_
  · go_simp
  try simp only [Act.put, List.setIfInBounds_toArray, List.set_cons_zero, List.set_cons_succ]
  refine tk 5 24 (.int .i64 p) rfl rfl (by kernel_rfl) (by kernel_rfl) (by kernel_rfl) (fun _ _ _ h => h) (Or.inl ⟨by rfl, fun w' h' => ?_⟩) hS ?_
  · go_simp
  try simp only [Act.put, List.setIfInBounds_toArray, List.set_cons_zero, List.set_cons_succ]
  refine tk 6 25 (.slice b n c) rfl rfl (by kernel_rfl) (by kernel_rfl) (by kernel_rfl) (fun _ _ _ h => h) (Or.inl ⟨by rfl, fun w' h' => ?_⟩) hS ?_
  · go_simp
  try simp only [Act.put, List.setIfInBounds_toArray, List.set_cons_zero, List.set_cons_succ]
  refine tk 7 26 (.agg #[.int .i64 p, .slice b n c]) rfl rfl (by kernel_rfl) (by kernel_rfl) (by kernel_rfl) (fun _ _ _ h => h) (Or.inl ⟨by rfl, fun w' h' => ?_⟩) hS ?_
  · go_simp
  obtain ⟨wd, hwd⟩ : ∃ z, w1.drew = z := ⟨_, rfl⟩
  rw [hwd] at HD2 HL HBD
  change wpAnyH _ _ _ _ _ _ _ _ w1.drew
  rw [hwd]
  clear hwd hS
  try simp only [Act.put, List.setIfInBounds_toArray, List.set_cons_zero, List.set_cons_succ]
  refine wpAnyH_ready (rs := [4, 8]) (by kernel_rfl) (by simp) (AllReadyH.cons rfl (fun K hK => ?_) (AllReadyH.cons rfl (fun K hK => ?_) AllReadyH.nil))
  · have c1 : (wd).cell? ⟨g, 1, none⟩ = some (.slice k.u m k.v) := by rw [← HM.out]; exact HD2.out.c1
    rw [if_pos (by rfl)]
    go_wp2_with fail
    refine hK.out _ _ trivial (fun _ => ?_)
    clear hK K
    clear c1
    try simp only [Act.put, List.setIfInBounds_toArray, List.set_cons_zero, List.set_cons_succ]
    refine wpAnyH_ready (rs := [8]) (by kernel_rfl) (by simp) (AllReadyH.cons rfl (fun K hK => ?_) AllReadyH.nil)
    rw [if_pos (by rfl)]
    go_wp2_with fail
    refine (copied_any ⟨p, b, n, c, xs⟩ wd HL.out).mono ?_
    rintro e w3 ⟨y, rfl, hty, hby⟩
    obtain ⟨yp, ya, yn, yc, yd⟩ := y
    rw [show (Uw.v ⟨yp, ya, yn, yc, yd⟩) = .agg #[.int .i64 yp, .slice ya yn yc] from rfl]
    have HD3 := Lib.hid (HD2.out.below hby)
    have HB3 : Hid (Below w1.heap.size w1 w3) := HBD.out.1.trans (hby.mono (by have := HBD.out.2; omega))
    have HTY := Lib.hid hty
    clear hty hby
    refine hK.out _ _ trivial (fun _ => ?_)
    clear hK K
    try simp only [Act.put, List.setIfInBounds_toArray, List.set_cons_zero, List.set_cons_succ]
    refine wpAnyH_ready (rs := [9]) (by kernel_rfl) (by simp) (AllReadyH.cons rfl (fun K hK => ?_) AllReadyH.nil)
    rw [if_pos (by rfl)]
    go_wp2_with fail
    refine hK.out _ _ trivial (fun _ => ?_)
    clear hK K
    try simp only [Act.put, List.setIfInBounds_toArray, List.set_cons_zero, List.set_cons_succ]
    refine wpAnyH_ready (rs := [10]) (by kernel_rfl) (by simp) (AllReadyH.cons rfl (fun K hK => ?_) AllReadyH.nil)
    rw [if_pos (by rfl)]
    obtain ⟨g', cap', w4, hrun, hown, hkk, hfr⟩ := run_append_one w3 B 40 40 46 _ 2 32 infWrF Try.underlying40 rfl (by omega) HD3.out.wr.row (Uw.cs ⟨yp, ya, yn, yc, yd⟩) rfl (Uw.one _) (by have := HD3.out.lt; have := HD3.out.base; omega) (by have := HX.out.2.2.2.2.1; omega) (by have := HX.out.2.2.2.2.1; omega)
    rw [HM.out] at hrun
    refine Lib.wp_append_run (w3.alloc (.cells #[.int .i64 yp, .slice ya yn yc] 46)) (.tmp 23) (.tmp 28) 40 40 rfl _ _ rfl rfl _ _ hrun ?_
    change K (Act.put _ (some 29) (.slice (some ⟨g', 0, none⟩) (m + 1) cap')) _
    have HN : Hid (WrR w1 B g k p xs (.returned (.int .i64 0)) (w4.setCell ⟨g, 1, none⟩ (.slice (some ⟨g', 0, none⟩) (m + 1) cap'))) := by
      have ho := HTY.out.own
      rw [HBD.out.2] at ho
      have hx1 := HX.out.1
      have hx2 := HX.out.2.2.2.1
      have e1 : yp = p := HTY.out.at_
      have e2 : yd = xs := HTY.out.d
      subst e1 e2
      have := HD.out.wrote HB3.out (y := ⟨yp, ya, yn, yc, yd⟩) ho HX.out.2.2.1 hx2.1 (by show yp + yd.length ≤ _; omega) hown hkk hfr
      rw [HM.out] at this
      exact this
    have HF : Hid (∃ v, w4.cell? ⟨g, 1, none⟩ = some v) := by
      have hr := hkk.heap HD3.out.row (fun e => by
        rcases HD3.out.wr.row.cases with ⟨e2, _⟩ | ⟨b, cur, e2, _, hb, _⟩
        · rw [e2] at e; cases e
        · rw [e2] at e
          simp [blk] at e
          rw [e, HD3.out.row] at hb
          simp at hb)
      exact ⟨_, by rw [cell_of_row _ _ 1 _ _ (0, 0) hr]; rfl⟩
    have HF2 : Hid (w4.frozen? ⟨g, 1, none⟩ = false) := by
      have hr := hkk.heap HD3.out.row (fun e => by
        rcases HD3.out.wr.row.cases with ⟨e2, _⟩ | ⟨b, cur, e2, _, hb, _⟩
        · rw [e2] at e; cases e
        · rw [e2] at e
          simp [blk] at e
          rw [e, HD3.out.row] at hb
          simp at hb)
      exact frozen_of_row _ _ 1 _ _ hr
    clear hrun hown hkk hfr
    refine hK.out _ _ trivial (fun _ => ?_)
    clear hK K
    obtain ⟨v1, c1⟩ := HF.out
    have f1 := HF2.out
    have hS : True := trivial
    try simp only [Act.put, List.setIfInBounds_toArray, List.set_cons_zero, List.set_cons_succ]
    refine tk 11 30 (.pointer (some ⟨g, 0, none⟩)) rfl rfl (by kernel_rfl) (by kernel_rfl) (by kernel_rfl) (fun _ _ _ h => h) (Or.inl ⟨by rfl, fun w' h' => ?_⟩) hS ?_
    · go_simp
    try simp only [Act.put, List.setIfInBounds_toArray, List.set_cons_zero, List.set_cons_succ]
    refine tk 12 31 (.pointer (some ⟨g, 1, none⟩)) rfl rfl (by kernel_rfl) (by kernel_rfl) (by kernel_rfl) (fun _ _ _ h => h) (Or.inl ⟨by rfl, fun w' h' => ?_⟩) hS ?_
    · go_simp
    clear hS
    try simp only [Act.put, List.setIfInBounds_toArray, List.set_cons_zero, List.set_cons_succ]
    refine wpAnyH_ready (rs := [13]) (by kernel_rfl) (by simp) (AllReadyH.cons rfl (fun K hK => ?_) AllReadyH.nil)
    rw [if_pos (by rfl)]
    go_wp2_with fail
    clear c1 f1
    refine hK.out _ _ trivial (fun _ => ?_)
    clear hK K
    refine wpAnyH_done (by kernel_rfl) ?_ _
    go_wp2_with fail
    go_ret
    exact HN.out
  · rw [if_pos (by rfl)]
    go_wp2_with fail
    refine (copied_any ⟨p, b, n, c, xs⟩ wd HL.out).mono ?_
    rintro e w3 ⟨y, rfl, hty, hby⟩
    obtain ⟨yp, ya, yn, yc, yd⟩ := y
    rw [show (Uw.v ⟨yp, ya, yn, yc, yd⟩) = .agg #[.int .i64 yp, .slice ya yn yc] from rfl]
    have HD3 := Lib.hid (HD2.out.below hby)
    have HB3 : Hid (Below w1.heap.size w1 w3) := HBD.out.1.trans (hby.mono (by have := HBD.out.2; omega))
    have HTY := Lib.hid hty
    clear hty hby
    refine hK.out _ _ trivial (fun _ => ?_)
    clear hK K
    try simp only [Act.put, List.setIfInBounds_toArray, List.set_cons_zero, List.set_cons_succ]
    refine wpAnyH_ready (rs := [4, 9]) (by kernel_rfl) (by simp) (AllReadyH.cons rfl (fun K hK => ?_) (AllReadyH.cons rfl (fun K hK => ?_) AllReadyH.nil))
    · have c1 : (w3).cell? ⟨g, 1, none⟩ = some (.slice k.u m k.v) := by rw [← HM.out]; exact HD3.out.c1
      rw [if_pos (by rfl)]
      go_wp2_with fail
      refine hK.out _ _ trivial (fun _ => ?_)
      clear hK K
      clear c1
      try simp only [Act.put, List.setIfInBounds_toArray, List.set_cons_zero, List.set_cons_succ]
      refine wpAnyH_ready (rs := [9]) (by kernel_rfl) (by simp) (AllReadyH.cons rfl (fun K hK => ?_) AllReadyH.nil)
      rw [if_pos (by rfl)]
      go_wp2_with fail
      refine hK.out _ _ trivial (fun _ => ?_)
      clear hK K
      try simp only [Act.put, List.setIfInBounds_toArray, List.set_cons_zero, List.set_cons_succ]
      refine wpAnyH_ready (rs := [10]) (by kernel_rfl) (by simp) (AllReadyH.cons rfl (fun K hK => ?_) AllReadyH.nil)
      rw [if_pos (by rfl)]
      obtain ⟨g', cap', w4, hrun, hown, hkk, hfr⟩ := run_append_one w3 B 40 40 46 _ 2 32 infWrF Try.underlying40 rfl (by omega) HD3.out.wr.row (Uw.cs ⟨yp, ya, yn, yc, yd⟩) rfl (Uw.one _) (by have := HD3.out.lt; have := HD3.out.base; omega) (by have := HX.out.2.2.2.2.1; omega) (by have := HX.out.2.2.2.2.1; omega)
      rw [HM.out] at hrun
      refine Lib.wp_append_run (w3.alloc (.cells #[.int .i64 yp, .slice ya yn yc] 46)) (.tmp 23) (.tmp 28) 40 40 rfl _ _ rfl rfl _ _ hrun ?_
      change K (Act.put _ (some 29) (.slice (some ⟨g', 0, none⟩) (m + 1) cap')) _
      have HN : Hid (WrR w1 B g k p xs (.returned (.int .i64 0)) (w4.setCell ⟨g, 1, none⟩ (.slice (some ⟨g', 0, none⟩) (m + 1) cap'))) := by
        have ho := HTY.out.own
        rw [HBD.out.2] at ho
        have hx1 := HX.out.1
        have hx2 := HX.out.2.2.2.1
        have e1 : yp = p := HTY.out.at_
        have e2 : yd = xs := HTY.out.d
        subst e1 e2
        have := HD.out.wrote HB3.out (y := ⟨yp, ya, yn, yc, yd⟩) ho HX.out.2.2.1 hx2.1 (by show yp + yd.length ≤ _; omega) hown hkk hfr
        rw [HM.out] at this
        exact this
      have HF : Hid (∃ v, w4.cell? ⟨g, 1, none⟩ = some v) := by
        have hr := hkk.heap HD3.out.row (fun e => by
          rcases HD3.out.wr.row.cases with ⟨e2, _⟩ | ⟨b, cur, e2, _, hb, _⟩
          · rw [e2] at e; cases e
          · rw [e2] at e
            simp [blk] at e
            rw [e, HD3.out.row] at hb
            simp at hb)
        exact ⟨_, by rw [cell_of_row _ _ 1 _ _ (0, 0) hr]; rfl⟩
      have HF2 : Hid (w4.frozen? ⟨g, 1, none⟩ = false) := by
        have hr := hkk.heap HD3.out.row (fun e => by
          rcases HD3.out.wr.row.cases with ⟨e2, _⟩ | ⟨b, cur, e2, _, hb, _⟩
          · rw [e2] at e; cases e
          · rw [e2] at e
            simp [blk] at e
            rw [e, HD3.out.row] at hb
            simp at hb)
        exact frozen_of_row _ _ 1 _ _ hr
      clear hrun hown hkk hfr
      refine hK.out _ _ trivial (fun _ => ?_)
      clear hK K
      obtain ⟨v1, c1⟩ := HF.out
      have f1 := HF2.out
      have hS : True := trivial
      try simp only [Act.put, List.setIfInBounds_toArray, List.set_cons_zero, List.set_cons_succ]
      refine tk 11 30 (.pointer (some ⟨g, 0, none⟩)) rfl rfl (by kernel_rfl) (by kernel_rfl) (by kernel_rfl) (fun _ _ _ h => h) (Or.inl ⟨by rfl, fun w' h' => ?_⟩) hS ?_
      · go_simp
      try simp only [Act.put, List.setIfInBounds_toArray, List.set_cons_zero, List.set_cons_succ]
      refine tk 12 31 (.pointer (some ⟨g, 1, none⟩)) rfl rfl (by kernel_rfl) (by kernel_rfl) (by kernel_rfl) (fun _ _ _ h => h) (Or.inl ⟨by rfl, fun w' h' => ?_⟩) hS ?_
      · go_simp
      clear hS
      try simp only [Act.put, List.setIfInBounds_toArray, List.set_cons_zero, List.set_cons_succ]
      refine wpAnyH_ready (rs := [13]) (by kernel_rfl) (by simp) (AllReadyH.cons rfl (fun K hK => ?_) AllReadyH.nil)
      rw [if_pos (by rfl)]
      go_wp2_with fail
      clear c1 f1
      refine hK.out _ _ trivial (fun _ => ?_)
      clear hK K
      refine wpAnyH_done (by kernel_rfl) ?_ _
      go_wp2_with fail
      go_ret
      exact HN.out
    · rw [if_pos (by rfl)]
      go_wp2_with fail
      refine hK.out _ _ trivial (fun _ => ?_)
      clear hK K
      try simp only [Act.put, List.setIfInBounds_toArray, List.set_cons_zero, List.set_cons_succ]
      refine wpAnyH_ready (rs := [4]) (by kernel_rfl) (by simp) (AllReadyH.cons rfl (fun K hK => ?_) AllReadyH.nil)
      have c1 : (w3.alloc (.cells #[.int .i64 yp, .slice ya yn yc] 46)).cell? ⟨g, 1, none⟩ = some (.slice k.u m k.v) := by rw [← HM.out]; exact (HD3.out.below ((Below.refl _ _).alloc (Nat.le_refl _) _)).c1
      rw [if_pos (by rfl)]
      go_wp2_with fail
      refine hK.out _ _ trivial (fun _ => ?_)
      clear hK K
      clear c1
      try simp only [Act.put, List.setIfInBounds_toArray, List.set_cons_zero, List.set_cons_succ]
      refine wpAnyH_ready (rs := [10]) (by kernel_rfl) (by simp) (AllReadyH.cons rfl (fun K hK => ?_) AllReadyH.nil)
      rw [if_pos (by rfl)]
      obtain ⟨g', cap', w4, hrun, hown, hkk, hfr⟩ := run_append_one w3 B 40 40 46 _ 2 32 infWrF Try.underlying40 rfl (by omega) HD3.out.wr.row (Uw.cs ⟨yp, ya, yn, yc, yd⟩) rfl (Uw.one _) (by have := HD3.out.lt; have := HD3.out.base; omega) (by have := HX.out.2.2.2.2.1; omega) (by have := HX.out.2.2.2.2.1; omega)
      rw [HM.out] at hrun
      refine Lib.wp_append_run (w3.alloc (.cells #[.int .i64 yp, .slice ya yn yc] 46)) (.tmp 23) (.tmp 28) 40 40 rfl _ _ rfl rfl _ _ hrun ?_
      change K (Act.put _ (some 29) (.slice (some ⟨g', 0, none⟩) (m + 1) cap')) _
      have HN : Hid (WrR w1 B g k p xs (.returned (.int .i64 0)) (w4.setCell ⟨g, 1, none⟩ (.slice (some ⟨g', 0, none⟩) (m + 1) cap'))) := by
        have ho := HTY.out.own
        rw [HBD.out.2] at ho
        have hx1 := HX.out.1
        have hx2 := HX.out.2.2.2.1
        have e1 : yp = p := HTY.out.at_
        have e2 : yd = xs := HTY.out.d
        subst e1 e2
        have := HD.out.wrote HB3.out (y := ⟨yp, ya, yn, yc, yd⟩) ho HX.out.2.2.1 hx2.1 (by show yp + yd.length ≤ _; omega) hown hkk hfr
        rw [HM.out] at this
        exact this
      have HF : Hid (∃ v, w4.cell? ⟨g, 1, none⟩ = some v) := by
        have hr := hkk.heap HD3.out.row (fun e => by
          rcases HD3.out.wr.row.cases with ⟨e2, _⟩ | ⟨b, cur, e2, _, hb, _⟩
          · rw [e2] at e; cases e
          · rw [e2] at e
            simp [blk] at e
            rw [e, HD3.out.row] at hb
            simp at hb)
        exact ⟨_, by rw [cell_of_row _ _ 1 _ _ (0, 0) hr]; rfl⟩
      have HF2 : Hid (w4.frozen? ⟨g, 1, none⟩ = false) := by
        have hr := hkk.heap HD3.out.row (fun e => by
          rcases HD3.out.wr.row.cases with ⟨e2, _⟩ | ⟨b, cur, e2, _, hb, _⟩
          · rw [e2] at e; cases e
          · rw [e2] at e
            simp [blk] at e
            rw [e, HD3.out.row] at hb
            simp at hb)
        exact frozen_of_row _ _ 1 _ _ hr
      clear hrun hown hkk hfr
      refine hK.out _ _ trivial (fun _ => ?_)
      clear hK K
      obtain ⟨v1, c1⟩ := HF.out
      have f1 := HF2.out
      have hS : True := trivial
      try simp only [Act.put, List.setIfInBounds_toArray, List.set_cons_zero, List.set_cons_succ]
      refine tk 11 30 (.pointer (some ⟨g, 0, none⟩)) rfl rfl (by kernel_rfl) (by kernel_rfl) (by kernel_rfl) (fun _ _ _ h => h) (Or.inl ⟨by rfl, fun w' h' => ?_⟩) hS ?_
      · go_simp
      try simp only [Act.put, List.setIfInBounds_toArray, List.set_cons_zero, List.set_cons_succ]
      refine tk 12 31 (.pointer (some ⟨g, 1, none⟩)) rfl rfl (by kernel_rfl) (by kernel_rfl) (by kernel_rfl) (fun _ _ _ h => h) (Or.inl ⟨by rfl, fun w' h' => ?_⟩) hS ?_
      · go_simp
      clear hS
      try simp only [Act.put, List.setIfInBounds_toArray, List.set_cons_zero, List.set_cons_succ]
      refine wpAnyH_ready (rs := [13]) (by kernel_rfl) (by simp) (AllReadyH.cons rfl (fun K hK => ?_) AllReadyH.nil)
      rw [if_pos (by rfl)]
      go_wp2_with fail
      clear c1 f1
      refine hK.out _ _ trivial (fun _ => ?_)
      clear hK K
      refine wpAnyH_done (by kernel_rfl) ?_ _
      go_wp2_with fail
      go_ret
      exact HN.out
end Go.Proofs.Ytbghdlgfpfeaeaa

/-
  The contracts of a queue's widen and Push. Conditions: numbers that fit their Go types, items of at most a million bytes. (Made by gen_fipush.py.)
-/
import Derived.Test.YtpigpeehhadkjaaFiWide
import Derived.Deep.RegionWith
namespace Go.Proofs.Ytpigpeehhadkjaa
open Go.RowKit

/-- What widen does. -/
def WideR (w : World) (B g : Nat) (q : Qs) (e : Ending) (w' : World) : Prop :=
  e = .returned (.tuple #[]) ∧ ∃ q', Qu w' B g q' ∧ q'.L = q.L ∧ q'.I = q.I ∧ q'.S = q.S ∧ q'.D = q.D ∧ q.L.length < q'.R.length ∧ Kept (q.foot g) w w' ∧ ∀ k, q'.foot g k → q.foot g k ∨ w.heap.size ≤ k

/-- The parts of a wider ring, put together. -/
theorem wide_fin {w w4 : World} {B g hb M : Nat} {q : Qs} (h : Qu w B g q) (hm : q.L.length = q.R.length) (hM : q.R.length < M) (hI : (M : Int) ≤ q.I) (hB : B ≤ w.heap.size) (hhb : w.heap.size ≤ hb)
    (hr : w4.heap[hb]? = some (.cells (rws (wideR q M)).toArray 40 (0, 0))) (hk : Below w.heap.size w w4) :
    WideR w B g q (.returned (.tuple #[])) ((w4.setCell ⟨g, 2, none⟩ (.slice (some ⟨hb, 0, none⟩) M M)).setCell ⟨g, 3, none⟩ (.int .i64 0)) := by
  have hf : q.f ≤ q.R.length := by
    by_cases hn : q.R = []
    · rw [(h.ok.nil hn).2]; exact Nat.zero_le _
    · exact Nat.le_of_lt (h.ok.fl hn)
  have hl := wideR_len q M hf (by omega)
  have h4 := h.below hk
  have hks : Kept (fun k => k = g) w4 ((w4.setCell ⟨g, 2, none⟩ (.slice (some ⟨hb, 0, none⟩) M M)).setCell ⟨g, 3, none⟩ (.int .i64 0)) := (Kept.setCell (S := fun k => k = g) _ _ _ rfl).trans (Kept.setCell (S := fun k => k = g) _ _ _ rfl) (fun _ _ e => e)
  have hg := h.lt
  have hw := hk.size
  refine ⟨rfl, { q with a := some ⟨hb, 0, none⟩, f := 0, R := wideR q M }, ⟨wide_ok q h.ok M hb hm hM hI, ?_, fun _ => ⟨hb, rfl, by omega, hks.heap hr (by omega)⟩, fun x hx => ⟨(h4.data x hx).1.keep hks (fun b hb' e => ?_), (h4.data x hx).2⟩, h.base⟩, rfl, rfl, rfl, rfl, ?_, ?_, ?_⟩
  · rw [heap_setCell_same _ g 3 _ _ _ (heap_setCell_same w4 g 2 _ _ _ h4.row)]
    simp [Qs.cs, hl]
  · rcases (h4.data x hx).1.cases with ⟨e3, _⟩ | ⟨b', cur, e3, _, hb2, _⟩
    · rw [e3] at hb'; cases hb'
    · rw [e3] at hb'
      simp [blk] at hb'
      rw [hb', e] at hb2
      have := hb2.symm.trans h4.row
      simp at this
  · show q.L.length < (wideR q M).length
    omega
  · exact (Kept.of_below (S := q.foot g) hk (fun i hi hi' => by omega)).trans hks (fun i _ e => .inl e)
  · intro k hk'
    rcases hk' with e | e | ⟨x, hx, e⟩
    · exact .inl (.inl e)
    · simp [blk] at e
      exact .inr (by omega)
    · exact .inl (.inr (.inr ⟨x, hx, e⟩))

set_option maxRecDepth 100000 in
set_option maxHeartbeats 4000000 in
theorem fWiden_any (B g : Nat) (q : Qs) (w : World) (h : Qu w B g q) (hI : (q.L.length : Int) < q.I) (hB : B ≤ w.heap.size) : Calls Try.prog 66 #[.pointer (some ⟨g, 0, none⟩)] w (WideR w B g q) := by
  have c4 := h.c4
  have c2 := h.c2
  have HQ := Lib.hid h
  have HI := Lib.hid hI
  by_cases hlt : q.L.length < q.R.length
  · have d1 : decide ((q.L.length : Int) < (q.R.length : Int)) = true := decide_eq_true (by omega)
    have d2 : (q.L.length : Int) < (q.R.length : Int) := by omega
    clear h hI
    go_enter Try.func66, Try.ntmps66
    go_wp2_with fail
    go_quiet (fail)
    go_wp2_with fail
    refine bodyPost_ret (results_none rfl _ _ _) rfl ?_
    exact ⟨rfl, q, HQ.out.drewN _, rfl, rfl, rfl, rfl, hlt, Kept.drewN _, fun k hk => .inl hk⟩
  have hm : q.L.length = q.R.length := Nat.le_antisymm h.ok.le (by omega)
  have d1 : decide ((q.L.length : Int) < (q.R.length : Int)) = false := decide_eq_false (by omega)
  have d2 : ¬ (q.L.length : Int) < (q.R.length : Int) := by omega
  have HM := Lib.hid hm
  have I0 : 0 ≤ q.I := by omega
  have I1 := h.ok.I1
  have hm2 : ((q.L.length : Nat) : Int) = ((q.R.length : Nat) : Int) := by omega
  obtain ⟨z1, hz1⟩ : ∃ z : Int, z = 2 * (q.L.length : Int) := ⟨_, rfl⟩
  obtain ⟨z2, hz2⟩ : ∃ z : Int, z = z1 + 1 := ⟨_, rfl⟩
  obtain ⟨M, hM⟩ : ∃ M : Nat, (M : Int) = if q.I < z2 then q.I else z2 := by
    refine ⟨(if q.I < z2 then q.I else z2).toNat, Int.toNat_of_nonneg ?_⟩
    split <;> omega
  have hM1 : q.R.length < M ∧ (M : Int) ≤ q.I := by
    split at hM <;> omega
  have e1 : IntKind.i64.wrap (2 * (q.L.length : Int)) = z1 := by rw [IntKind.wrap_i64]; omega
  have e2 : IntKind.i64.wrap (z1 + 1) = z2 := by rw [IntKind.wrap_i64]; omega
  have e3 : (if q.I < z2 then q.I else z2) = (M : Int) := hM.symm
  have HM1 := Lib.hid hM1
  have hMk : M ≤ 1000000 := by omega
  -- the slices of the old ring
  obtain ⟨a1, a2, hsl1, hsl2, hits1, hits2, hnone1, hnone2⟩ : ∃ a1 a2 : Option Addr, (∀ W, (Instr.sliceAt 49 (.slice q.a q.R.length q.R.length) (some (.int .i64 (q.f : Int))) none none).run Try.prog W = .ok (.slice a1 (q.R.length - q.f) (q.R.length - q.f)) W) ∧
      (∀ W, (Instr.sliceAt 49 (.slice q.a q.R.length q.R.length) none (some (.int .i64 (q.f : Int))) none).run Try.prog W = .ok (.slice a2 q.f q.R.length) W) ∧
      (∀ W, Below w.heap.size w W → Its W a1 (q.R.drop q.f)) ∧ (∀ W, Below w.heap.size w W → Its W a2 (q.R.take q.f)) ∧ (a1 = none → q.R.length - q.f = 0) ∧ (a2 = none → q.R.length = 0) := by
    by_cases hn : q.R = []
    · obtain ⟨ha, hf⟩ := h.ok.nil hn
      rw [ha, hf, hn]
      exact ⟨none, none, run_from_none, run_to_none, fun W _ hne => absurd rfl hne, fun W _ hne => absurd rfl hne, fun _ => rfl, fun _ => rfl⟩
    · obtain ⟨r, ha, hb, hr⟩ := h.ring hn
      have hf := h.ok.fl hn
      have hl : q.R.length ≤ 1000000 := by omega
      rw [ha]
      refine ⟨some ⟨r, 0 + q.f * 3, none⟩, some ⟨r, 0, none⟩, fun W => run_from_its W r 0 _ _ hf hl, fun W => run_to_its W r 0 _ _ (Nat.le_of_lt hf) hl, fun W hW => ?_, fun W hW => ?_, (fun e => by cases e), (fun e => by cases e)⟩
      · exact (its_of (by rw [hW.block r (Array.getElem?_eq_some_iff.1 hr).1]; exact hr)).drop _
      · exact (its_of (by rw [hW.block r (Array.getElem?_eq_some_iff.1 hr).1]; exact hr)).take _
  have hf1 : q.f ≤ q.R.length := by
    by_cases hn : q.R = []
    · rw [(h.ok.nil hn).2]; exact Nat.zero_le _
    · exact Nat.le_of_lt (h.ok.fl hn)
  have HF1 := Lib.hid hf1
  have HSL1 := Lib.hid hsl1
  have HSL2 := Lib.hid hsl2
  have HIT1 := Lib.hid hits1
  have HIT2 := Lib.hid hits2
  have HN1 := Lib.hid hnone1
  have HN2 := Lib.hid hnone2
  have E1 := Lib.hid e1
  have E2 := Lib.hid e2
  have E3 := Lib.hid e3
  clear h hI hm hm2 hlt I0 I1 hz1 hz2 hM hM1 e1 e2 e3 hsl1 hsl2 hits1 hits2 hnone1 hnone2 hf1
  go_enter Try.func66, Try.ntmps66
  go_wp2_with fail
  go_quiet (fail)
  have HW : Hid (Qu (w.drewN nq) B g q ∧ Below w.heap.size w (w.drewN nq)) := ⟨HQ.out.drewN _, ⟨rfl, rfl, rfl, Nat.le_refl _, fun _ _ => rfl⟩⟩
  obtain ⟨w1, hw1⟩ : ∃ z, w.drewN nq = z := ⟨_, rfl⟩
  rw [hw1] at HW ⊢
  clear hw1 c4 c2
  go_wp2_with fail
  have HS : Hid (Qu w1.drew B g q ∧ Below w.heap.size w w1.drew) := ⟨HW.out.1.drewN 1, HW.out.2.drew⟩
  refine wp_region_held_drew (S := fun w' => Qu w' B g q ∧ Below w.heap.size w w') (by kernel_rfl) HS.out (fun hS => ?_)
  refine tk 0 14 (.pointer (some ⟨g, 0, none⟩)) rfl rfl (by kernel_rfl) (by kernel_rfl) (by kernel_rfl) (fun _ _ _ h => h) (Or.inl ⟨by rfl, fun w' h' => ?_⟩) hS ?_
  · go_simp
  try simp only [Act.put, List.setIfInBounds_toArray, List.set_cons_zero, List.set_cons_succ]
  refine tk 1 15 (.pointer (some ⟨g, 0, none⟩)) rfl rfl (by kernel_rfl) (by kernel_rfl) (by kernel_rfl) (fun _ _ _ h => h) (Or.inl ⟨by rfl, fun w' h' => ?_⟩) hS ?_
  · go_simp
  try simp only [Act.put, List.setIfInBounds_toArray, List.set_cons_zero, List.set_cons_succ]
  refine tk 2 16 (.pointer (some ⟨g, 4, none⟩)) rfl rfl (by kernel_rfl) (by kernel_rfl) (by kernel_rfl) (fun _ _ _ h => h) (Or.inl ⟨by rfl, fun w' h' => ?_⟩) hS ?_
  · go_simp
  try simp only [Act.put, List.setIfInBounds_toArray, List.set_cons_zero, List.set_cons_succ]
  refine tk 3 17 (.int .i64 (q.L.length : Int)) rfl rfl (by kernel_rfl) (by kernel_rfl) (by kernel_rfl) (fun _ _ _ h => h) (Or.inl ⟨by rfl, fun w' h' => ?_⟩) hS ?_
  · have c4 := h'.1.c4
    go_simp
  try simp only [Act.put, List.setIfInBounds_toArray, List.set_cons_zero, List.set_cons_succ]
  refine tk 4 18 (.int .i64 z1) rfl rfl (by kernel_rfl) (by kernel_rfl) (by kernel_rfl) (fun _ _ _ h => h) (Or.inl ⟨by rfl, fun w' h' => ?_⟩) hS ?_
  · have e1 := E1.out
    go_simp
  try simp only [Act.put, List.setIfInBounds_toArray, List.set_cons_zero, List.set_cons_succ]
  refine tk 5 19 (.int .i64 z2) rfl rfl (by kernel_rfl) (by kernel_rfl) (by kernel_rfl) (fun _ _ _ h => h) (Or.inl ⟨by rfl, fun w' h' => ?_⟩) hS ?_
  · have e2 := E2.out
    go_simp
  try simp only [Act.put, List.setIfInBounds_toArray, List.set_cons_zero, List.set_cons_succ]
  refine tk 6 20 (.pointer (some ⟨g, 0, none⟩)) rfl rfl (by kernel_rfl) (by kernel_rfl) (by kernel_rfl) (fun _ _ _ h => h) (Or.inl ⟨by rfl, fun w' h' => ?_⟩) hS ?_
  · go_simp
  try simp only [Act.put, List.setIfInBounds_toArray, List.set_cons_zero, List.set_cons_succ]
  refine tk 7 21 (.pointer (some ⟨g, 0, none⟩)) rfl rfl (by kernel_rfl) (by kernel_rfl) (by kernel_rfl) (fun _ _ _ h => h) (Or.inl ⟨by rfl, fun w' h' => ?_⟩) hS ?_
  · go_simp
  try simp only [Act.put, List.setIfInBounds_toArray, List.set_cons_zero, List.set_cons_succ]
  refine tk 8 22 (.pointer (some ⟨g, 0, none⟩)) rfl rfl (by kernel_rfl) (by kernel_rfl) (by kernel_rfl) (fun _ _ _ h => h) (Or.inl ⟨by rfl, fun w' h' => ?_⟩) hS ?_
  · go_simp
  try simp only [Act.put, List.setIfInBounds_toArray, List.set_cons_zero, List.set_cons_succ]
  refine tk 9 23 (.int .i64 q.I) rfl rfl (by kernel_rfl) (by kernel_rfl) (by kernel_rfl) (fun _ _ _ h => h) (Or.inl ⟨by rfl, fun w' h' => ?_⟩) hS ?_
  · have c0 := h'.1.c0
    go_simp
  try simp only [Act.put, List.setIfInBounds_toArray, List.set_cons_zero, List.set_cons_succ]
  refine tk 10 24 (.int .i64 (M : Int)) rfl rfl (by kernel_rfl) (by kernel_rfl) (by kernel_rfl) (fun _ _ _ h => h) (Or.inl ⟨by rfl, fun w' h' => ?_⟩) hS ?_
  · have e3 := E3.out
    go_simp
  try simp only [Act.put, List.setIfInBounds_toArray, List.set_cons_zero, List.set_cons_succ]
  refine wpAnyH_ready (rs := [11]) (by kernel_rfl) (by simp) (AllReadyH.cons rfl (fun K hK => ?_) AllReadyH.nil)
  rw [if_pos (by rfl)]
  refine wp_make_run (.tmp 24) (.tmp 24) 49 rfl _ _ rfl rfl (run_make_its _ M hMk) ?_
  have H2 : Hid (Qu (w1.drew.alloc (.cells (rws (List.replicate M pz)).toArray 40)) B g q ∧ Below w.heap.size w (w1.drew.alloc (.cells (rws (List.replicate M pz)).toArray 40)) ∧ (w1.drew.alloc (.cells (rws (List.replicate M pz)).toArray 40)).heap[w1.heap.size]? = some (.cells (rws (List.replicate M pz)).toArray 40 (0, 0)) ∧ w.heap.size ≤ w1.heap.size) :=
    ⟨HS.out.1.below ((Below.refl _ _).alloc (Nat.le_refl _) _), HS.out.2.alloc HS.out.2.size _, Blk_new w1.drew _ _, HW.out.2.size⟩
  obtain ⟨w2, hw2⟩ : ∃ z, w1.drew.alloc (.cells (rws (List.replicate M pz)).toArray 40) = z := ⟨_, rfl⟩
  obtain ⟨hb, hhb⟩ : ∃ z, w1.heap.size = z := ⟨_, rfl⟩
  change K (Act.put _ (some 25) (.slice (some ⟨w1.heap.size, 0, none⟩) M M)) _
  rw [hw2, hhb]
  rw [hw2, hhb] at H2
  clear hw2 hhb HS HW
  clear hS
  refine hK.out _ _ (⟨H2.out.1, H2.out.2.1⟩) (fun hS => ?_)
  clear hK K
  try simp only [Act.put, List.setIfInBounds_toArray, List.set_cons_zero, List.set_cons_succ]
  refine tk 12 2 (.slice (some ⟨hb, 0, none⟩) M M) rfl rfl (by kernel_rfl) (by kernel_rfl) (by kernel_rfl) (fun _ _ _ h => h) (Or.inl ⟨by rfl, fun w' h' => ?_⟩) hS ?_
  · go_simp
  refine wpAnyH_done (by kernel_rfl) ?_ _
  go_wp2_with fail
  have HS : Hid (Qu w2.drew B g q) := H2.out.1.drewN 1
  refine wp_region_held_drew (S := fun w' => Qu w' B g q) (by kernel_rfl) HS.out (fun hS => ?_)
  refine tk 0 26 (.slice (some ⟨hb, 0, none⟩) M M) rfl rfl (by kernel_rfl) (by kernel_rfl) (by kernel_rfl) (fun _ _ _ h => h) (Or.inl ⟨by rfl, fun w' h' => ?_⟩) hS ?_
  · go_simp
  try simp only [Act.put, List.setIfInBounds_toArray, List.set_cons_zero, List.set_cons_succ]
  refine tk 1 27 (.pointer (some ⟨g, 0, none⟩)) rfl rfl (by kernel_rfl) (by kernel_rfl) (by kernel_rfl) (fun _ _ _ h => h) (Or.inl ⟨by rfl, fun w' h' => ?_⟩) hS ?_
  · go_simp
  try simp only [Act.put, List.setIfInBounds_toArray, List.set_cons_zero, List.set_cons_succ]
  refine tk 2 28 (.pointer (some ⟨g, 0, none⟩)) rfl rfl (by kernel_rfl) (by kernel_rfl) (by kernel_rfl) (fun _ _ _ h => h) (Or.inl ⟨by rfl, fun w' h' => ?_⟩) hS ?_
  · go_simp
  try simp only [Act.put, List.setIfInBounds_toArray, List.set_cons_zero, List.set_cons_succ]
  refine tk 3 29 (.pointer (some ⟨g, 2, none⟩)) rfl rfl (by kernel_rfl) (by kernel_rfl) (by kernel_rfl) (fun _ _ _ h => h) (Or.inl ⟨by rfl, fun w' h' => ?_⟩) hS ?_
  · go_simp
  try simp only [Act.put, List.setIfInBounds_toArray, List.set_cons_zero, List.set_cons_succ]
  refine tk 4 30 (.slice q.a q.R.length q.R.length) rfl rfl (by kernel_rfl) (by kernel_rfl) (by kernel_rfl) (fun _ _ _ h => h) (Or.inl ⟨by rfl, fun w' h' => ?_⟩) hS ?_
  · have c2 := h'.c2
    go_simp
  try simp only [Act.put, List.setIfInBounds_toArray, List.set_cons_zero, List.set_cons_succ]
  refine tk 5 31 (.pointer (some ⟨g, 0, none⟩)) rfl rfl (by kernel_rfl) (by kernel_rfl) (by kernel_rfl) (fun _ _ _ h => h) (Or.inl ⟨by rfl, fun w' h' => ?_⟩) hS ?_
  · go_simp
  try simp only [Act.put, List.setIfInBounds_toArray, List.set_cons_zero, List.set_cons_succ]
  refine tk 6 32 (.pointer (some ⟨g, 0, none⟩)) rfl rfl (by kernel_rfl) (by kernel_rfl) (by kernel_rfl) (fun _ _ _ h => h) (Or.inl ⟨by rfl, fun w' h' => ?_⟩) hS ?_
  · go_simp
  try simp only [Act.put, List.setIfInBounds_toArray, List.set_cons_zero, List.set_cons_succ]
  refine tk 7 33 (.pointer (some ⟨g, 3, none⟩)) rfl rfl (by kernel_rfl) (by kernel_rfl) (by kernel_rfl) (fun _ _ _ h => h) (Or.inl ⟨by rfl, fun w' h' => ?_⟩) hS ?_
  · go_simp
  try simp only [Act.put, List.setIfInBounds_toArray, List.set_cons_zero, List.set_cons_succ]
  refine tk 8 34 (.int .i64 (q.f : Int)) rfl rfl (by kernel_rfl) (by kernel_rfl) (by kernel_rfl) (fun _ _ _ h => h) (Or.inl ⟨by rfl, fun w' h' => ?_⟩) hS ?_
  · have c3 := h'.c3
    go_simp
  try simp only [Act.put, List.setIfInBounds_toArray, List.set_cons_zero, List.set_cons_succ]
  refine tk 9 35 (.slice a1 (q.R.length - q.f) (q.R.length - q.f)) rfl rfl (by kernel_rfl) (by kernel_rfl) (by kernel_rfl) (fun _ _ _ h => h) (Or.inl ⟨by rfl, fun w' h' => ?_⟩) hS ?_
  · have hs := HSL1.out w'
    go_simp
  try simp only [Act.put, List.setIfInBounds_toArray, List.set_cons_zero, List.set_cons_succ]
  refine wpAnyH_ready (rs := [10]) (by kernel_rfl) (by simp) (AllReadyH.cons rfl (fun K hK => ?_) AllReadyH.nil)
  rw [if_pos (by rfl)]
  have hcl : (List.replicate M pz).length = M := List.length_replicate
  obtain ⟨w3, hrun, hr3, hk3⟩ := run_copy_its w2.drew hb 0 M 3 (List.replicate M pz) H2.out.2.2.1 a1 (q.R.length - q.f) (q.R.length - q.f) (q.R.drop q.f) (by simp) (HIT1.out _ H2.out.2.1.drew) HN1.out (by rw [hcl]; have := HM1.out; omega)
  rw [hcl, Nat.zero_mul, Nat.sub_zero] at hrun
  refine wp_copy_run (.tmp 26) (.tmp 35) 49 49 rfl _ _ rfl rfl hrun ?_
  have hbl3 : Below w.heap.size w w3 := H2.out.2.1.drew.trans (hk3.below H2.out.2.1.size (fun k e => by have := H2.out.2.2.2; omega))
  have hq3 : Qu w3 B g q := HQ.out.below hbl3
  have H3 : Hid (Qu w3 B g q ∧ Below w.heap.size w w3 ∧ w3.heap[hb]? = some (.cells (rws ((List.replicate M pz).take 0 ++ q.R.drop q.f ++ (List.replicate M pz).drop (0 + (q.R.length - q.f)))).toArray 40 (0, 0)) ∧ w.heap.size ≤ hb) := ⟨hq3, hbl3, hr3, H2.out.2.2.2⟩
  change K (Act.put _ (some 36) (.int .i64 ((q.R.length - q.f : Nat) : Int))) _
  clear hcl hrun hr3 hk3 hbl3 hq3 HS
  clear hS
  refine hK.out _ _ (H3.out.1) (fun hS => ?_)
  clear hK K
  try simp only [Act.put, List.setIfInBounds_toArray, List.set_cons_zero, List.set_cons_succ]
  refine tk 11 3 (.int .i64 ((q.R.length - q.f : Nat) : Int)) rfl rfl (by kernel_rfl) (by kernel_rfl) (by kernel_rfl) (fun _ _ _ h => h) (Or.inl ⟨by rfl, fun w' h' => ?_⟩) hS ?_
  · go_simp
  refine wpAnyH_done (by kernel_rfl) ?_ _
  clear H2
  go_wp2_with fail
  obtain ⟨n1, hn1⟩ : ∃ z, q.R.length - q.f = z := ⟨_, rfl⟩
  have HN : Hid (q.R.length - q.f = n1 ∧ n1 < M) := ⟨hn1, by have := HM1.out; omega⟩
  have hsl3 : ∀ W, (Instr.sliceAt 49 (.slice (some ⟨hb, 0, none⟩) M M) (some (.int .i64 (n1 : Int))) none none).run Try.prog W = .ok (.slice (some ⟨hb, n1 * 3, none⟩) (M - n1) (M - n1)) W := fun W => by
    have := run_from_its W hb 0 M n1 HN.out.2 hMk
    rwa [Nat.zero_add] at this
  have HSL3 := Lib.hid hsl3
  rw [hn1]
  have HS : Hid (Qu w3.drew B g q) := H3.out.1.drewN 1
  clear hn1 hsl3
  refine wp_region_held_drew (S := fun w' => Qu w' B g q) (by kernel_rfl) HS.out (fun hS => ?_)
  refine tk 0 37 (.slice (some ⟨hb, 0, none⟩) M M) rfl rfl (by kernel_rfl) (by kernel_rfl) (by kernel_rfl) (fun _ _ _ h => h) (Or.inl ⟨by rfl, fun w' h' => ?_⟩) hS ?_
  · go_simp
  try simp only [Act.put, List.setIfInBounds_toArray, List.set_cons_zero, List.set_cons_succ]
  refine tk 1 38 (.int .i64 (n1 : Int)) rfl rfl (by kernel_rfl) (by kernel_rfl) (by kernel_rfl) (fun _ _ _ h => h) (Or.inl ⟨by rfl, fun w' h' => ?_⟩) hS ?_
  · go_simp
  try simp only [Act.put, List.setIfInBounds_toArray, List.set_cons_zero, List.set_cons_succ]
  refine tk 2 39 (.slice (some ⟨hb, n1 * 3, none⟩) (M - n1) (M - n1)) rfl rfl (by kernel_rfl) (by kernel_rfl) (by kernel_rfl) (fun _ _ _ h => h) (Or.inl ⟨by rfl, fun w' h' => ?_⟩) hS ?_
  · have hs := HSL3.out w'
    go_simp
  try simp only [Act.put, List.setIfInBounds_toArray, List.set_cons_zero, List.set_cons_succ]
  refine tk 3 40 (.pointer (some ⟨g, 0, none⟩)) rfl rfl (by kernel_rfl) (by kernel_rfl) (by kernel_rfl) (fun _ _ _ h => h) (Or.inl ⟨by rfl, fun w' h' => ?_⟩) hS ?_
  · go_simp
  try simp only [Act.put, List.setIfInBounds_toArray, List.set_cons_zero, List.set_cons_succ]
  refine tk 4 41 (.pointer (some ⟨g, 0, none⟩)) rfl rfl (by kernel_rfl) (by kernel_rfl) (by kernel_rfl) (fun _ _ _ h => h) (Or.inl ⟨by rfl, fun w' h' => ?_⟩) hS ?_
  · go_simp
  try simp only [Act.put, List.setIfInBounds_toArray, List.set_cons_zero, List.set_cons_succ]
  refine tk 5 42 (.pointer (some ⟨g, 2, none⟩)) rfl rfl (by kernel_rfl) (by kernel_rfl) (by kernel_rfl) (fun _ _ _ h => h) (Or.inl ⟨by rfl, fun w' h' => ?_⟩) hS ?_
  · go_simp
  try simp only [Act.put, List.setIfInBounds_toArray, List.set_cons_zero, List.set_cons_succ]
  refine tk 6 43 (.slice q.a q.R.length q.R.length) rfl rfl (by kernel_rfl) (by kernel_rfl) (by kernel_rfl) (fun _ _ _ h => h) (Or.inl ⟨by rfl, fun w' h' => ?_⟩) hS ?_
  · have c2 := h'.c2
    go_simp
  try simp only [Act.put, List.setIfInBounds_toArray, List.set_cons_zero, List.set_cons_succ]
  refine tk 7 44 (.pointer (some ⟨g, 0, none⟩)) rfl rfl (by kernel_rfl) (by kernel_rfl) (by kernel_rfl) (fun _ _ _ h => h) (Or.inl ⟨by rfl, fun w' h' => ?_⟩) hS ?_
  · go_simp
  try simp only [Act.put, List.setIfInBounds_toArray, List.set_cons_zero, List.set_cons_succ]
  refine tk 8 45 (.pointer (some ⟨g, 0, none⟩)) rfl rfl (by kernel_rfl) (by kernel_rfl) (by kernel_rfl) (fun _ _ _ h => h) (Or.inl ⟨by rfl, fun w' h' => ?_⟩) hS ?_
  · go_simp
  try simp only [Act.put, List.setIfInBounds_toArray, List.set_cons_zero, List.set_cons_succ]
  refine tk 9 46 (.pointer (some ⟨g, 3, none⟩)) rfl rfl (by kernel_rfl) (by kernel_rfl) (by kernel_rfl) (fun _ _ _ h => h) (Or.inl ⟨by rfl, fun w' h' => ?_⟩) hS ?_
  · go_simp
  try simp only [Act.put, List.setIfInBounds_toArray, List.set_cons_zero, List.set_cons_succ]
  refine tk 10 47 (.int .i64 (q.f : Int)) rfl rfl (by kernel_rfl) (by kernel_rfl) (by kernel_rfl) (fun _ _ _ h => h) (Or.inl ⟨by rfl, fun w' h' => ?_⟩) hS ?_
  · have c3 := h'.c3
    go_simp
  try simp only [Act.put, List.setIfInBounds_toArray, List.set_cons_zero, List.set_cons_succ]
  refine tk 11 48 (.slice a2 q.f q.R.length) rfl rfl (by kernel_rfl) (by kernel_rfl) (by kernel_rfl) (fun _ _ _ h => h) (Or.inl ⟨by rfl, fun w' h' => ?_⟩) hS ?_
  · have hs := HSL2.out w'
    go_simp
  try simp only [Act.put, List.setIfInBounds_toArray, List.set_cons_zero, List.set_cons_succ]
  refine wpAnyH_ready (rs := [12]) (by kernel_rfl) (by simp) (AllReadyH.cons rfl (fun K hK => ?_) AllReadyH.nil)
  rw [if_pos (by rfl)]
  obtain ⟨cur, hcur⟩ : ∃ z, (List.replicate M pz).take 0 ++ q.R.drop q.f ++ (List.replicate M pz).drop (0 + (q.R.length - q.f)) = z := ⟨_, rfl⟩
  have hcl : cur.length = M := by have := HM1.out; have := HF1.out; rw [← hcur]; simp; omega
  have hr3 := H3.out.2.2.1
  rw [hcur] at hr3
  have hfl : (q.R.take q.f).length = q.f := by have := HF1.out; simp; omega
  obtain ⟨w4, hrun, hr4, hk4⟩ := run_copy_its w3.drew hb n1 (M - n1) 3 cur hr3 a2 q.f q.R.length (q.R.take q.f) hfl (HIT2.out _ H3.out.2.1.drew) HN2.out (by rw [hcl]; have := HM1.out; have := HN.out; have := HF1.out; omega)
  rw [hcl] at hrun
  refine wp_copy_run (.tmp 39) (.tmp 48) 49 49 rfl _ _ rfl rfl hrun ?_
  have hbl4 : Below w.heap.size w w4 := H3.out.2.1.drew.trans (hk4.below H3.out.2.1.size (fun k e => by have := H3.out.2.2.2; omega))
  have hq4 : Qu w4 B g q := HQ.out.below hbl4
  have hw4 : w4.heap[hb]? = some (.cells (rws (wideR q M)).toArray 40 (0, 0)) := by
    rw [hr4, ← hcur, ← HN.out.1, wide_one q M HF1.out (Nat.le_of_lt HM1.out.1)]
  have H4 : Hid (Qu w4 B g q ∧ Below w.heap.size w w4 ∧ w4.heap[hb]? = some (.cells (rws (wideR q M)).toArray 40 (0, 0)) ∧ w.heap.size ≤ hb) := ⟨hq4, hbl4, hw4, H3.out.2.2.2⟩
  change K (Act.put _ (some 49) (.int .i64 (q.f : Int))) _
  clear hcl hrun hr4 hk4 hbl4 hq4 hw4 hr3 hcur HS
  clear hS
  refine hK.out _ _ (H4.out.1) (fun hS => ?_)
  clear hK K
  refine wpAnyH_done (by kernel_rfl) ?_ _
  clear H3
  have c2 := H4.out.1.c2
  have c3 := H4.out.1.c3
  have f2 := H4.out.1.frozen 2
  have f3 := H4.out.1.frozen 3
  go_wp2_with fail
  go_end0
  exact wide_fin HQ.out HM.out HM1.out.1 HM1.out.2 hB H4.out.2.2.2 H4.out.2.2.1 H4.out.2.1
end Go.Proofs.Ytpigpeehhadkjaa

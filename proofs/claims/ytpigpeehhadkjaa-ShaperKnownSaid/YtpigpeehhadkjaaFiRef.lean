/-
  The contracts of the document's Room, Push and Pop of queues. Conditions: numbers in their bounds. (Made by gen_firef.py.)
-/
import Derived.Test.YtpigpeehhadkjaaFiDoc
namespace Go.Proofs.Ytpigpeehhadkjaa
open Go.RowKit

section
variable {w : World} {b : Nat} {t : TypeId} {u0 u1 u2 u3 : Value}
theorem q4_0 (h : w.heap[b]? = some (.cells #[u0, u1, u2, u3] t (0, 0))) : w.cell? ⟨b, 0, none⟩ = some u0 := by rw [cell_of_row w b 0 _ _ (0, 0) h]; rfl
theorem q4_1 (h : w.heap[b]? = some (.cells #[u0, u1, u2, u3] t (0, 0))) : w.cell? ⟨b, 1, none⟩ = some u1 := by rw [cell_of_row w b 1 _ _ (0, 0) h]; rfl
theorem q4_2 (h : w.heap[b]? = some (.cells #[u0, u1, u2, u3] t (0, 0))) : w.cell? ⟨b, 2, none⟩ = some u2 := by rw [cell_of_row w b 2 _ _ (0, 0) h]; rfl
theorem q4_3 (h : w.heap[b]? = some (.cells #[u0, u1, u2, u3] t (0, 0))) : w.cell? ⟨b, 3, none⟩ = some u3 := by rw [cell_of_row w b 3 _ _ (0, 0) h]; rfl
end

set_option maxRecDepth 100000 in
set_option maxHeartbeats 2000000 in
theorem rRoom_any (a : Option Addr) (n c : Nat) (A : Aq) (s : Int) (w : World) (hr : Rt w a n A.l) (ok : A.ok) : Calls Try.prog 59 #[rqv a n c A, .int .i64 s] w (Gives w (.bool (A.room s))) := by
  have HOK := Lib.hid ok
  have HRT : Hid (A.room s = (decide (0 ≤ s) && (decide ((A.l.length : Int) < A.I) && decide (s ≤ A.S - A.size)))) := rfl
  have hlen := hr.len
  have HRR := Lib.hid hr
  have hb : Below w.heap.size w (w.alloc (.cells #[.slice a n c, .int .i64 A.I, .int .i64 A.S, .int .u64 A.D] 96)) := (Below.refl _ _).alloc (Nat.le_refl _) _
  have HB := Lib.hid hb
  have HRB := Lib.hid (hr.below hb)
  have hbx : (w.alloc (.cells #[.slice a n c, .int .i64 A.I, .int .i64 A.S, .int .u64 A.D] 96)).heap[w.heap.size]? = some (.cells #[.slice a n c, .int .i64 A.I, .int .i64 A.S, .int .u64 A.D] 96 (0, 0)) := Blk_new w _ _
  show Calls Try.prog 59 #[.agg #[.slice a n c, .int .i64 A.I, .int .i64 A.S, .int .u64 A.D], .int .i64 s] w _
  rw [hlen] at HRT
  have hn := ok.len
  rw [hlen] at hn
  have hz0 := szs_pos ok.sz
  have hz1 := ok.sum
  have hz2 := ok.S1
  have hz3 : A.size = szs A.l := rfl
  clear hr ok hb
  by_cases h0 : 0 ≤ s
  · by_cases h1 : (n : Int) < A.I
    · have hv : A.room s = decide (s ≤ A.S - A.size) := by rw [HRT.out, decide_eq_true h0, decide_eq_true h1]; rfl
      rw [hv]
      have E1 : Hid (IntKind.i64.wrap (A.S - A.size) = A.S - A.size) := by show _ = _; rw [IntKind.wrap_i64]; omega
      clear HRT hv hlen hz0 hz1 hz2 hz3 hn
      go_enter Try.func59, Try.ntmps59
      go_wp2_with fail
      obtain ⟨w1, hw1⟩ : ∃ z, w.alloc (.cells #[.slice a n c, .int .i64 A.I, .int .i64 A.S, .int .u64 A.D] 96) = z := ⟨_, rfl⟩
      rw [hw1] at HB HRB hbx ⊢
      clear hw1
      have HS : Hid (w1.drew.heap[w.heap.size]? = some (.cells #[.slice a n c, .int .i64 A.I, .int .i64 A.S, .int .u64 A.D] 96 (0, 0))) := hbx
      refine wp_region_held_drew (S := fun w' => w'.heap[w.heap.size]? = some (.cells #[.slice a n c, .int .i64 A.I, .int .i64 A.S, .int .u64 A.D] 96 (0, 0))) (by kernel_rfl) HS.out (fun hS => ?_)
      refine tk 0 5 (.int .i64 s) rfl rfl (by kernel_rfl) (by kernel_rfl) (by kernel_rfl) (fun _ _ _ h => h) (Or.inl ⟨by rfl, fun w' h' => ?_⟩) hS ?_
      · go_simp
      try simp only [Act.put, List.setIfInBounds_toArray, List.set_cons_zero, List.set_cons_succ]
      refine tk 1 6 (.bool true) rfl rfl (by kernel_rfl) (by kernel_rfl) (by kernel_rfl) (fun _ _ _ h => h) (Or.inl ⟨by rfl, fun w' h' => ?_⟩) hS ?_
      · go_simp
      try simp only [Act.put, List.setIfInBounds_toArray, List.set_cons_zero, List.set_cons_succ]
      refine tk 2 7 (.bool true) rfl rfl (by kernel_rfl) (by kernel_rfl) (by kernel_rfl) (fun _ _ _ h => h) (Or.inl ⟨by rfl, fun w' h' => ?_⟩) hS ?_
      · go_simp
      try simp only [Act.put, List.setIfInBounds_toArray, List.set_cons_zero, List.set_cons_succ]
      refine tk 3 8 (.pointer (some ⟨w.heap.size, 0, none⟩)) rfl rfl (by kernel_rfl) (by kernel_rfl) (by kernel_rfl) (fun _ _ _ h => h) (Or.inl ⟨by rfl, fun w' h' => ?_⟩) hS ?_
      · go_simp
      try simp only [Act.put, List.setIfInBounds_toArray, List.set_cons_zero, List.set_cons_succ]
      refine tk 4 9 (.slice a n c) rfl rfl (by kernel_rfl) (by kernel_rfl) (by kernel_rfl) (fun _ _ _ h => h) (Or.inl ⟨by rfl, fun w' h' => ?_⟩) hS ?_
      · have c0 := q4_0 h'
        go_simp
      try simp only [Act.put, List.setIfInBounds_toArray, List.set_cons_zero, List.set_cons_succ]
      refine tk 5 10 (.int .i64 (n : Int)) rfl rfl (by kernel_rfl) (by kernel_rfl) (by kernel_rfl) (fun _ _ _ h => h) (Or.inl ⟨by rfl, fun w' h' => ?_⟩) hS ?_
      · go_simp
      try simp only [Act.put, List.setIfInBounds_toArray, List.set_cons_zero, List.set_cons_succ]
      refine tk 6 11 (.pointer (some ⟨w.heap.size, 1, none⟩)) rfl rfl (by kernel_rfl) (by kernel_rfl) (by kernel_rfl) (fun _ _ _ h => h) (Or.inl ⟨by rfl, fun w' h' => ?_⟩) hS ?_
      · go_simp
      try simp only [Act.put, List.setIfInBounds_toArray, List.set_cons_zero, List.set_cons_succ]
      refine tk 7 12 (.int .i64 A.I) rfl rfl (by kernel_rfl) (by kernel_rfl) (by kernel_rfl) (fun _ _ _ h => h) (Or.inl ⟨by rfl, fun w' h' => ?_⟩) hS ?_
      · have c1 := q4_1 h'
        go_simp
      try simp only [Act.put, List.setIfInBounds_toArray, List.set_cons_zero, List.set_cons_succ]
      refine tk 8 13 (.bool true) rfl rfl (by kernel_rfl) (by kernel_rfl) (by kernel_rfl) (fun _ _ _ h => h) (Or.inl ⟨by rfl, fun w' h' => ?_⟩) hS ?_
      · go_simp
      try simp only [Act.put, List.setIfInBounds_toArray, List.set_cons_zero, List.set_cons_succ]
      refine tk 9 14 (.bool true) rfl rfl (by kernel_rfl) (by kernel_rfl) (by kernel_rfl) (fun _ _ _ h => h) (Or.inl ⟨by rfl, fun w' h' => ?_⟩) hS ?_
      · go_simp
      try simp only [Act.put, List.setIfInBounds_toArray, List.set_cons_zero, List.set_cons_succ]
      refine tk 10 15 (.bool true) rfl rfl (by kernel_rfl) (by kernel_rfl) (by kernel_rfl) (fun _ _ _ h => h) (Or.inl ⟨by rfl, fun w' h' => ?_⟩) hS ?_
      · go_simp
      try simp only [Act.put, List.setIfInBounds_toArray, List.set_cons_zero, List.set_cons_succ]
      refine tk 11 16 (.int .i64 s) rfl rfl (by kernel_rfl) (by kernel_rfl) (by kernel_rfl) (fun _ _ _ h => h) (Or.inl ⟨by rfl, fun w' h' => ?_⟩) hS ?_
      · go_simp
      try simp only [Act.put, List.setIfInBounds_toArray, List.set_cons_zero, List.set_cons_succ]
      refine tk 12 17 (.pointer (some ⟨w.heap.size, 2, none⟩)) rfl rfl (by kernel_rfl) (by kernel_rfl) (by kernel_rfl) (fun _ _ _ h => h) (Or.inl ⟨by rfl, fun w' h' => ?_⟩) hS ?_
      · go_simp
      try simp only [Act.put, List.setIfInBounds_toArray, List.set_cons_zero, List.set_cons_succ]
      refine tk 13 18 (.int .i64 A.S) rfl rfl (by kernel_rfl) (by kernel_rfl) (by kernel_rfl) (fun _ _ _ h => h) (Or.inl ⟨by rfl, fun w' h' => ?_⟩) hS ?_
      · have c2 := q4_2 h'
        go_simp
      try simp only [Act.put, List.setIfInBounds_toArray, List.set_cons_zero, List.set_cons_succ]
      refine tk 14 19 (.agg #[.slice a n c, .int .i64 A.I, .int .i64 A.S, .int .u64 A.D]) rfl rfl (by kernel_rfl) (by kernel_rfl) (by kernel_rfl) (fun _ _ _ h => h) (Or.inl ⟨by rfl, fun w' h' => ?_⟩) hS ?_
      · have c0 := q4_0 h'
        have c1 := q4_1 h'
        have c2 := q4_2 h'
        have c3 := q4_3 h'
        go_simp
      try simp only [Act.put, List.setIfInBounds_toArray, List.set_cons_zero, List.set_cons_succ]
      refine wpAnyH_ready (rs := [15]) (by kernel_rfl) (by simp) (AllReadyH.cons rfl (fun K hK => ?_) AllReadyH.nil)
      rw [if_pos (by rfl)]
      go_wp2_with fail
      refine (rSize_any a n c A _ (HRB.out.keep (Kept.drewN (S := fun _ => False) 1) (fun _ _ _ => id)) HOK.out).mono ?_
      rintro e w2 ⟨rfl, hb2⟩
      have H2 : Hid (Below w.heap.size w w2 ∧ w2.heap[w.heap.size]? = some (.cells #[.slice a n c, .int .i64 A.I, .int .i64 A.S, .int .u64 A.D] 96 (0, 0))) := ⟨HB.out.trans ((show Below w1.heap.size w1 w2 from ⟨hb2.os, hb2.tape, hb2.output, hb2.size, hb2.block⟩).mono HB.out.size), (hb2.block _ (Array.getElem?_eq_some_iff.1 hbx).1).trans HS.out⟩
      clear hb2 HS
      clear hS
      refine hK.out _ _ (H2.out.2) (fun hS => ?_)
      clear hK K
      try simp only [Act.put, List.setIfInBounds_toArray, List.set_cons_zero, List.set_cons_succ]
      refine tk 16 21 (.int .i64 (A.S - A.size)) rfl rfl (by kernel_rfl) (by kernel_rfl) (by kernel_rfl) (fun _ _ _ h => h) (Or.inl ⟨by rfl, fun w' h' => ?_⟩) hS ?_
      · have e1 := E1.out
        go_simp
      try simp only [Act.put, List.setIfInBounds_toArray, List.set_cons_zero, List.set_cons_succ]
      refine tk 17 22 (.bool (decide (s ≤ A.S - A.size))) rfl rfl (by kernel_rfl) (by kernel_rfl) (by kernel_rfl) (fun _ _ _ h => h) (Or.inl ⟨by rfl, fun w' h' => ?_⟩) hS ?_
      · go_simp
      try simp only [Act.put, List.setIfInBounds_toArray, List.set_cons_zero, List.set_cons_succ]
      refine tk 18 23 (.bool (decide (s ≤ A.S - A.size))) rfl rfl (by kernel_rfl) (by kernel_rfl) (by kernel_rfl) (fun _ _ _ h => h) (Or.inl ⟨by rfl, fun w' h' => ?_⟩) hS ?_
      · go_simp
      try simp only [Act.put, List.setIfInBounds_toArray, List.set_cons_zero, List.set_cons_succ]
      refine tk 19 4 (.bool (decide (s ≤ A.S - A.size))) rfl rfl (by kernel_rfl) (by kernel_rfl) (by kernel_rfl) (fun _ _ _ h => h) (Or.inl ⟨by rfl, fun w' h' => ?_⟩) hS ?_
      · go_simp
      refine wpAnyH_done (by kernel_rfl) ?_ _
      go_wp2_with fail
      go_ret
      exact ⟨rfl, H2.out.1⟩
    · have hv : A.room s = false := by rw [HRT.out, decide_eq_true h0, decide_eq_false h1]; rfl
      rw [hv]
      have d1 : decide ((n : Int) < A.I) = false := decide_eq_false h1
      have c0 := q4_0 hbx
      have c1 := q4_1 hbx
      clear HRT hv h1 hlen hz0 hz1 hz2 hz3 hn
      go_enter Try.func59, Try.ntmps59
      go_wp2_with fail
      obtain ⟨w1, hw1⟩ : ∃ z, w.alloc (.cells #[.slice a n c, .int .i64 A.I, .int .i64 A.S, .int .u64 A.D] 96) = z := ⟨_, rfl⟩
      rw [hw1] at HB HRB hbx c0 c1 ⊢
      clear hw1 hbx
      go_quiet (fail)
      go_wp2_with fail
      go_ret
      exact ⟨rfl, ⟨HB.out.os, HB.out.tape, HB.out.output, HB.out.size, HB.out.block⟩⟩
  · have hv : A.room s = false := by rw [HRT.out, decide_eq_false h0]; rfl
    rw [hv]
    have d0 : decide (0 ≤ s) = false := decide_eq_false h0
    clear HRT hv h0 hlen hz0 hz1 hz2 hz3 hn hbx
    go_enter Try.func59, Try.ntmps59
    go_wp2_with fail
    obtain ⟨w1, hw1⟩ : ∃ z, w.alloc (.cells #[.slice a n c, .int .i64 A.I, .int .i64 A.S, .int .u64 A.D] 96) = z := ⟨_, rfl⟩
    rw [hw1] at HB HRB ⊢
    clear hw1
    go_quiet (fail)
    go_wp2_with fail
    go_ret
    exact ⟨rfl, ⟨HB.out.os, HB.out.tape, HB.out.output, HB.out.size, HB.out.block⟩⟩
end Go.Proofs.Ytpigpeehhadkjaa

/-
  ShaperNone's walk. Conditions: an act whose numbers fit their Go types.
-/
import Derived.Test.YtpigpeehhadkjaaSpOpen
namespace Go.Proofs.Ytpigpeehhadkjaa
open Go.RowKit Bkt

set_option maxRecDepth 100000 in
set_option maxHeartbeats 4000000 in
theorem none12_any (y : Ac) (w : World) (hy : y.ok w) : Calls Try.prog 6 #[.agg y.cs.toArray] w (Yes w) := by
  obtain ⟨yd, yc, ⟨no, sz, ya, yn, ycc, ydd⟩, yt⟩ := y
  have HY := Lib.hid hy
  show Calls Try.prog 6 #[.agg #[.int .i64 yd, .int .i64 yc, .int .u64 no, .int .i64 sz, .slice ya yn ycc, .int .u64 yt]] w _
  have hal : Below w.heap.size w (w.alloc (.cells #[.int .i64 yd, .int .i64 yc, .int .u64 no, .int .i64 sz, .slice ya yn ycc, .int .u64 yt] 42)) := (Below.refl _ _).alloc (Nat.le_refl _) _
  have hr0 : (w.alloc (.cells #[.int .i64 yd, .int .i64 yc, .int .u64 no, .int .i64 sz, .slice ya yn ycc, .int .u64 yt] 42)).heap[w.heap.size]? = some (.cells #[.int .i64 yd, .int .i64 yc, .int .u64 no, .int .i64 sz, .slice ya yn ycc, .int .u64 yt] 42 (0, 0)) := Blk_new _ _ _
  obtain ⟨w0, hw0⟩ : ∃ z, w.alloc (.cells #[.int .i64 yd, .int .i64 yc, .int .u64 no, .int .i64 sz, .slice ya yn ycc, .int .u64 yt] 42) = z := ⟨_, rfl⟩
  obtain ⟨b0, hb0⟩ : ∃ z, w.heap.size = z := ⟨_, rfl⟩
  rw [hw0] at hal hr0
  rw [hb0] at hr0
  have cells : ∀ W : World, W.heap[b0]? = some (.cells #[.int .i64 yd, .int .i64 yc, .int .u64 no, .int .i64 sz, .slice ya yn ycc, .int .u64 yt] 42 (0, 0)) →
      W.cell? ⟨b0, 0, none⟩ = some (.int .i64 yd) ∧ W.cell? ⟨b0, 1, none⟩ = some (.int .i64 yc) ∧ W.cell? ⟨b0, 2, none⟩ = some (.int .u64 no) ∧ W.cell? ⟨b0, 3, none⟩ = some (.int .i64 sz) ∧ W.cell? ⟨b0, 4, none⟩ = some (.slice ya yn ycc) ∧ W.cell? ⟨b0, 5, none⟩ = some (.int .u64 yt) := fun W h =>
    ⟨by rw [cell_of_row W b0 0 _ _ (0, 0) h]; rfl, by rw [cell_of_row W b0 1 _ _ (0, 0) h]; rfl, by rw [cell_of_row W b0 2 _ _ (0, 0) h]; rfl, by rw [cell_of_row W b0 3 _ _ (0, 0) h]; rfl, by rw [cell_of_row W b0 4 _ _ (0, 0) h]; rfl, by rw [cell_of_row W b0 5 _ _ (0, 0) h]; rfl⟩
  have HCE := Lib.hid cells
  have hal1 : Below w0.heap.size w0 (w0.alloc (.cells #[.int .i64 yd, .int .i64 yc, .int .u64 no, .int .i64 sz, .slice ya yn ycc, .int .u64 yt] 42)) := (Below.refl _ _).alloc (Nat.le_refl _) _
  have hz0 : w0.heap.size = b0 + 1 := by rw [← hw0, World.size_alloc, hb0]
  have hr1 : (w0.alloc (.cells #[.int .i64 yd, .int .i64 yc, .int .u64 no, .int .i64 sz, .slice ya yn ycc, .int .u64 yt] 42)).heap[b0 + 1]? = some (.cells #[.int .i64 yd, .int .i64 yc, .int .u64 no, .int .i64 sz, .slice ya yn ycc, .int .u64 yt] 42 (0, 0)) := by rw [← hz0]; exact Blk_new _ _ _
  have HR : Hid (Acr (w0.alloc (.cells #[.int .i64 yd, .int .i64 yc, .int .u64 no, .int .i64 sz, .slice ya yn ycc, .int .u64 yt] 42)) (some ⟨b0 + 1, 0, none⟩) 1 [⟨yd, yc, ⟨no, sz, ya, yn, ycc, ydd⟩, yt⟩]) := by
    refine ⟨rfl, fun z hz => ?_, fun _ => ⟨_, 0, rfl, fun i z hz => ?_⟩⟩
    · simp at hz
      subst hz
      exact (HY.out.below hal).below hal1
    · match i, hz with
      | 0, hz =>
        simp at hz
        subst hz
        intro j v hv
        rw [cell_of_row _ _ _ _ _ (0, 0) hr1]
        simpa [Ac.cs] using hv
  have HB : Hid (Below w.heap.size w w0 ∧ Below w0.heap.size w0 (w0.alloc (.cells #[.int .i64 yd, .int .i64 yc, .int .u64 no, .int .i64 sz, .slice ya yn ycc, .int .u64 yt] 42)) ∧ w0.heap[b0]? = some (.cells #[.int .i64 yd, .int .i64 yc, .int .u64 no, .int .i64 sz, .slice ya yn ycc, .int .u64 yt] 42 (0, 0))) := ⟨hal, hal1, hr0⟩
  obtain ⟨c0, c1, c2, c3, c4, c5⟩ := cells w0 hr0
  have HW0 := Lib.hid hw0
  clear hy hal hr0 cells hal1 hr1 hw0 hz0
  go_enter Try.func6, Try.ntmps6
  go_wp2_with fail
  rw [HW0.out]
  refine (few_any _ 1 1 _ _ 1 (by decide) HR.out (by decide)).mono ?_
  rintro e w1 ⟨b, rfl, hb, rfl⟩
  have hbb : Below w.heap.size w (w0.alloc (.cells #[.int .i64 yd, .int .i64 yc, .int .u64 no, .int .i64 sz, .slice ya yn ycc, .int .u64 yt] 42)) := HB.out.1.trans (HB.out.2.1.mono HB.out.1.size)
  have hrb := (HB.out.2.1.block _ (Array.getElem?_eq_some_iff.1 HB.out.2.2).1).trans HB.out.2.2
  obtain ⟨w1, hw1⟩ : ∃ z, w0.alloc (.cells #[.int .i64 yd, .int .i64 yc, .int .u64 no, .int .i64 sz, .slice ya yn ycc, .int .u64 yt] 42) = z := ⟨_, rfl⟩
  rw [hw1] at hbb hrb ⊢
  have H1 : Hid (Below w.heap.size w w1 ∧ w1.heap[b0]? = some (.cells #[.int .i64 yd, .int .i64 yc, .int .u64 no, .int .i64 sz, .slice ya yn ycc, .int .u64 yt] 42 (0, 0))) := ⟨hbb, hrb⟩
  clear hbb hrb hb hw1 HR HB c0 c1 c2 c3 c4 c5
  cases b
  · go_wp2_with fail
    refine (works12_any w1).mono ?_
    rintro e w2 ⟨rfl, hb2⟩
    have HF : Hid (Below w.heap.size w w2) := H1.out.1.trans (hb2.mono H1.out.1.size)
    clear hb2
    go_wp2_with fail
    go_ret
    exact ⟨rfl, HF.out⟩
  · obtain ⟨c0, c1, c2, c3, c4, c5⟩ := HCE.out w1 H1.out.2
    go_wp2_with fail
    refine (sNext_nil w1).mono ?_
    rintro e w2 ⟨rfl, hw2⟩
    rw [hw2]
    go_wp2_with fail
    refine (sOffer_nil yc ⟨no, sz, ya, yn, ycc, ydd⟩ w1).mono ?_
    rintro e w3 ⟨rfl, hb3⟩
    have hr3 := (hb3.block _ (Array.getElem?_eq_some_iff.1 H1.out.2).1).trans H1.out.2
    have H3 : Hid (Below w.heap.size w w3 ∧ w3.heap[b0]? = some (.cells #[.int .i64 yd, .int .i64 yc, .int .u64 no, .int .i64 sz, .slice ya yn ycc, .int .u64 yt] 42 (0, 0))) := ⟨H1.out.1.trans (hb3.mono H1.out.1.size), hr3⟩
    clear hb3 hr3 c0 c1 c2 c3 c4 c5 H1
    obtain ⟨c0, c1, c2, c3, c4, c5⟩ := HCE.out w3 H3.out.2
    go_wp2_with fail
    refine (sRelease_nil yt w3).mono ?_
    rintro e w4 ⟨rfl, hw4⟩
    rw [hw4]
    clear hw4
    go_wp2_with fail
    refine (sTick_nil w3).mono ?_
    rintro e w4 ⟨rfl, hw4⟩
    rw [hw4]
    clear hw4
    go_wp2_with fail
    refine (sStat_zero (.pointer none) yc w3 (fun W => sLane_nil yc W)).mono ?_
    rintro e w4 ⟨rfl, hb4⟩
    rw [show statV 0 0 0 0 = .agg #[.int .u64 0, .int .u64 0, .int .u64 0, .int .u64 0] from rfl]
    have hr4 := (hb4.block _ (Array.getElem?_eq_some_iff.1 H3.out.2).1).trans H3.out.2
    have H4 : Hid (Below w.heap.size w w4 ∧ w4.heap[b0]? = some (.cells #[.int .i64 yd, .int .i64 yc, .int .u64 no, .int .i64 sz, .slice ya yn ycc, .int .u64 yt] 42 (0, 0))) := ⟨H3.out.1.trans (hb4.mono H3.out.1.size), hr4⟩
    clear hb4 hr4 c0 c1 c2 c3 c4 c5 H3
    obtain ⟨c0, c1, c2, c3, c4, c5⟩ := HCE.out w4 H4.out.2
    go_wp2_with fail
    refine (sQueued_nil yc w4).mono ?_
    rintro e w5 ⟨rfl, hw5⟩
    rw [hw5]
    clear hw5
    go_wp2_with fail
    refine (sClear_nil w4).mono ?_
    rintro e w5 ⟨rfl, hw5⟩
    rw [hw5]
    clear hw5
    go_wp2_with fail
    refine (works12_any w4).mono ?_
    rintro e w6 ⟨rfl, hb6⟩
    have HF : Hid (Below w.heap.size w w6) := H4.out.1.trans (hb6.mono H4.out.1.size)
    clear hb6
    go_wp2_with fail
    go_ret
    exact ⟨rfl, HF.out⟩
end Go.Proofs.Ytpigpeehhadkjaa

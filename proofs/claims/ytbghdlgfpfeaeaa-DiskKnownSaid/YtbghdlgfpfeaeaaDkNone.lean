/-
  DiskNone's walk. Conditions: an act whose numbers fit their Go types.
-/
import Derived.Test.YtbghdlgfpfeaeaaDkOpen
namespace Go.Proofs.Ytbghdlgfpfeaeaa
open Go.RowKit

theorem dkSame_nn (w : World) : Calls Try.prog 19 #[.pointer none, .pointer none] w fun e w' => e = .returned (.bool true) ∧ w' = w := by
  go_enter Try.func19, Try.ntmps19
  go_wp2_with fail
  go_ret
  exact ⟨rfl, rfl⟩
theorem dkSame_nx (g : Nat) (w : World) : Calls Try.prog 19 #[.pointer none, .pointer (some ⟨g, 0, none⟩)] w fun e w' => e = .returned (.bool false) ∧ w' = w := by
  have he : (binOp .eql 27 (.pointer none) (.pointer (some ⟨g, 0, none⟩))).run Try.prog w = .ok (.bool false) w := by rfl
  go_enter Try.func19, Try.ntmps19
  go_wp2_with fail
  go_ret
  exact ⟨rfl, rfl⟩
theorem dkSame_xn (g : Nat) (w : World) : Calls Try.prog 19 #[.pointer (some ⟨g, 0, none⟩), .pointer none] w fun e w' => e = .returned (.bool false) ∧ w' = w := by
  go_enter Try.func19, Try.ntmps19
  go_wp2_with fail
  go_ret
  exact ⟨rfl, rfl⟩

set_option maxRecDepth 100000 in
set_option maxHeartbeats 4000000 in
theorem none13_any (y : Ac) (n : Int) (w : World) (hy : y.ok w) (hn : I64 n) : Calls Try.prog 4 #[.agg y.cs.toArray, .int .i64 n] w (Yes w) := by
  obtain ⟨yd, yp, ya, yn, yc, yx, fa, fn, fc, fl⟩ := y
  have HY := Lib.hid hy
  have HN := Lib.hid hn
  show Calls Try.prog 4 #[.agg #[.int .i64 yd, .int .i64 yp, .slice ya yn yc, .slice fa fn fc], .int .i64 n] w _
  have hal : Below w.heap.size w (w.alloc (.cells #[.int .i64 yd, .int .i64 yp, .slice ya yn yc, .slice fa fn fc] 33)) := al _ _
  have hr0 : (w.alloc (.cells #[.int .i64 yd, .int .i64 yp, .slice ya yn yc, .slice fa fn fc] 33)).heap[w.heap.size]? = some (.cells #[.int .i64 yd, .int .i64 yp, .slice ya yn yc, .slice fa fn fc] 33 (0, 0)) := Blk_new _ _ _
  obtain ⟨w0, hw0⟩ : ∃ z, w.alloc (.cells #[.int .i64 yd, .int .i64 yp, .slice ya yn yc, .slice fa fn fc] 33) = z := ⟨_, rfl⟩
  obtain ⟨b0, hb0⟩ : ∃ z, w.heap.size = z := ⟨_, rfl⟩
  rw [hw0] at hal hr0
  rw [hb0] at hr0
  have cells : ∀ W : World, W.heap[b0]? = some (.cells #[.int .i64 yd, .int .i64 yp, .slice ya yn yc, .slice fa fn fc] 33 (0, 0)) →
      W.cell? ⟨b0, 0, none⟩ = some (.int .i64 yd) ∧ W.cell? ⟨b0, 1, none⟩ = some (.int .i64 yp) ∧ W.cell? ⟨b0, 2, none⟩ = some (.slice ya yn yc) ∧ W.cell? ⟨b0, 3, none⟩ = some (.slice fa fn fc) := fun W h =>
    ⟨by rw [cell_of_row W b0 0 _ _ (0, 0) h]; rfl, by rw [cell_of_row W b0 1 _ _ (0, 0) h]; rfl, by rw [cell_of_row W b0 2 _ _ (0, 0) h]; rfl, by rw [cell_of_row W b0 3 _ _ (0, 0) h]; rfl⟩
  have HCE := Lib.hid cells
  have hal1 : Below w0.heap.size w0 (w0.alloc (.cells #[.int .i64 yd, .int .i64 yp, .slice ya yn yc, .slice fa fn fc] 33)) := al _ _
  have hz0 : w0.heap.size = b0 + 1 := by rw [← hw0, World.size_alloc, hb0]
  have hr1 : (w0.alloc (.cells #[.int .i64 yd, .int .i64 yp, .slice ya yn yc, .slice fa fn fc] 33)).heap[b0 + 1]? = some (.cells #[.int .i64 yd, .int .i64 yp, .slice ya yn yc, .slice fa fn fc] 33 (0, 0)) := by rw [← hz0]; exact Blk_new _ _ _
  have HR : Hid (Acr (w0.alloc (.cells #[.int .i64 yd, .int .i64 yp, .slice ya yn yc, .slice fa fn fc] 33)) (some ⟨b0 + 1, 0, none⟩) 1 [⟨yd, yp, ya, yn, yc, yx, fa, fn, fc, fl⟩]) := by
    refine ⟨rfl, fun z hz => ?_, fun _ => ⟨_, 0, rfl, fun i z hz => ?_⟩⟩
    · simp at hz
      subst hz
      exact (HY.out.below hal).below hal1
    · match i, hz with
      | 0, hz =>
        simp at hz
        subst hz
        intro j v hv
        rw [cell_of_row _ _ _ _ _ (0, 0) hr1]
        simpa [Ac.cs] using hv
  have HB : Hid (Below w.heap.size w w0 ∧ Below w0.heap.size w0 (w0.alloc (.cells #[.int .i64 yd, .int .i64 yp, .slice ya yn yc, .slice fa fn fc] 33)) ∧ w0.heap[b0]? = some (.cells #[.int .i64 yd, .int .i64 yp, .slice ya yn yc, .slice fa fn fc] 33 (0, 0))) := ⟨hal, hal1, hr0⟩
  obtain ⟨c0, c1, c2, c3⟩ := cells w0 hr0
  have HW0 := Lib.hid hw0
  unfold I64 at hn
  clear hy hal hr0 cells hal1 hr1 hw0 hz0
  have hwk : ∀ (W W' : World) (Q : Prop), True := fun _ _ _ => trivial
  clear hwk
  go_enter Try.func4, Try.ntmps4
  go_wp2_with fail
  rw [HW0.out]
  refine (few_any _ 1 1 _ _ HR.out (by decide)).mono ?_
  rintro e w1 ⟨b, rfl, hb, rfl⟩
  have hbb : Below w.heap.size w (w0.alloc (.cells #[.int .i64 yd, .int .i64 yp, .slice ya yn yc, .slice fa fn fc] 33)) := HB.out.1.trans (HB.out.2.1.mono HB.out.1.size)
  have hrb := (HB.out.2.1.block _ (Array.getElem?_eq_some_iff.1 HB.out.2.2).1).trans HB.out.2.2
  obtain ⟨w1, hw1⟩ : ∃ z, w0.alloc (.cells #[.int .i64 yd, .int .i64 yp, .slice ya yn yc, .slice fa fn fc] 33) = z := ⟨_, rfl⟩
  rw [hw1] at hbb hrb ⊢
  have H1 : Hid (Below w.heap.size w w1 ∧ w1.heap[b0]? = some (.cells #[.int .i64 yd, .int .i64 yp, .slice ya yn yc, .slice fa fn fc] 33 (0, 0))) := ⟨hbb, hrb⟩
  clear hbb hrb hb hw1 HR HB c0 c1 c2 c3
  have HWK : Hid (∀ W : World, Below w.heap.size w W → Calls Try.prog 8 #[] W fun e w' => e = .returned (.bool true) ∧ Below w.heap.size w w') := fun W hW => (works13_any W).mono fun e w' h => ⟨h.1, hW.trans (h.2.mono hW.size)⟩
  cases b
  · go_wp2_with fail
    refine (HWK.out w1 H1.out.1).mono ?_
    rintro e w2 ⟨rfl, hb2⟩
    have HF := Lib.hid hb2
    clear hb2
    go_wp2_with fail
    go_ret
    exact ⟨rfl, HF.out⟩
  · by_cases hn0 : n < 0
    · go_wp2_with fail
      refine (HWK.out w1 H1.out.1).mono ?_
      rintro e w2 ⟨rfl, hb2⟩
      have HF := Lib.hid hb2
      clear hb2
      go_wp2_with fail
      go_ret
      exact ⟨rfl, HF.out⟩
    · by_cases hn1 : 300 < n
      · go_wp2_with fail
        refine (HWK.out w1 H1.out.1).mono ?_
        rintro e w2 ⟨rfl, hb2⟩
        have HF := Lib.hid hb2
        clear hb2
        go_wp2_with fail
        go_ret
        exact ⟨rfl, HF.out⟩
      · obtain ⟨c0, c1, c2, c3⟩ := HCE.out w1 H1.out.2
        obtain ⟨m, rfl⟩ := Int.eq_ofNat_of_zero_le (show 0 ≤ n by omega)
        have hm : m ≤ 65536 := by omega
        go_wp2_with fail
        refine (dkRead_nil yp 1 w1).mono ?_
        rintro e w2 ⟨rfl, hw2⟩
        rw [hw2]
        clear hw2
        go_wp2_with fail
        refine (dkDurable_nil yp 1 w1).mono ?_
        rintro e w2 ⟨rfl, hw2⟩
        rw [hw2]
        clear hw2
        go_wp2_with fail
        refine (dkNew_any m w1 hm).mono ?_
        rintro e w3 ⟨g, rfl, _, _, hb3⟩
        have hr3 := (hb3.block _ (Array.getElem?_eq_some_iff.1 H1.out.2).1).trans H1.out.2
        have H3 : Hid (Below w.heap.size w w3 ∧ w3.heap[b0]? = some (.cells #[.int .i64 yd, .int .i64 yp, .slice ya yn yc, .slice fa fn fc] 33 (0, 0))) := ⟨H1.out.1.trans (hb3.mono H1.out.1.size), hr3⟩
        clear hb3 hr3 c0 c1 c2 c3 H1
        obtain ⟨c0, c1, c2, c3⟩ := HCE.out w3 H3.out.2
        go_wp2_with fail
        refine (dkSize_nil w3).mono ?_
        rintro e w4 ⟨rfl, hw4⟩
        rw [hw4]
        clear hw4
        go_wp2_with fail
        refine (dkWrite_nil yp ya yn yc w3).mono ?_
        rintro e w4 ⟨rfl, hw4⟩
        rw [hw4]
        clear hw4
        go_wp2_with fail
        refine (dkSync_nil w3).mono ?_
        rintro e w4 ⟨rfl, hw4⟩
        rw [hw4]
        clear hw4
        go_wp2_with fail
        refine (dkUnsynced_nil w3).mono ?_
        rintro e w4 ⟨rfl, hw4⟩
        rw [hw4]
        clear hw4
        go_wp2_with fail
        refine (dkCrash_nil w3 _).mono ?_
        rintro e w4 ⟨rfl, hw4⟩
        rw [hw4]
        clear hw4
        go_wp2_with fail
        refine (dkCopy_nil w3).mono ?_
        rintro e w4 ⟨rfl, hw4⟩
        rw [hw4]
        clear hw4
        go_wp2_with fail
        refine (dkSame_nn w3).mono ?_
        rintro e w4 ⟨rfl, hw4⟩
        rw [hw4]
        clear hw4
        go_wp2_with fail
        refine (dkSame_nx g w3).mono ?_
        rintro e w4 ⟨rfl, hw4⟩
        rw [hw4]
        clear hw4
        go_wp2_with fail
        refine (dkSame_xn g w3).mono ?_
        rintro e w4 ⟨rfl, hw4⟩
        rw [hw4]
        clear hw4
        go_wp2_with fail
        refine (HWK.out w3 H3.out.1).mono ?_
        rintro e w6 ⟨rfl, hb6⟩
        have HF := Lib.hid hb6
        clear hb6
        go_wp2_with fail
        go_ret
        exact ⟨rfl, HF.out⟩
end Go.Proofs.Ytbghdlgfpfeaeaa

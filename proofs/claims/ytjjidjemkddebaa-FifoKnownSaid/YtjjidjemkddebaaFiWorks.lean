/-
  The contracts of the statements' own small test (the chapter's examples) and of FifoNone's walk. Conditions: none.
-/
import Derived.Test.YtjjidjemkddebaaFiRef3
namespace Go.Proofs.Ytjjidjemkddebaa
open Go.RowKit

/-- It returns true, and what was there is as it was. -/
def Yes (w : World) (e : Ending) (w' : World) : Prop := e = .returned (.bool true) ∧ Below w.heap.size w w'
/-- A queue of the call's own, and all that was there at first as it was. -/
structure St (w wr : World) (g : Nat) (q : Qs) : Prop where
  qu : Qu wr w.heap.size g q
  below : Below w.heap.size w wr
theorem St.next {w wr w' : World} {g : Nat} {q q' : Qs} (h : St w wr g q) (hq : Qu w' w.heap.size g q') (hk : Kept (q.foot g) wr w') : St w w' g q' :=
  ⟨hq, h.below.trans (hk.below h.below.size (fun _ e => (h.qu.foot_lt e).1))⟩
theorem St.past {w wr w' : World} {g : Nat} {q : Qs} (h : St w wr g q) (k : Below wr.heap.size wr w') : St w w' g q := ⟨h.qu.below k, h.below.trans (k.mono h.below.size)⟩
/-- An item without data. -/
theorem bare (no sz : Int) (w : World) : Pi.at_ ⟨no, sz, none, 0, 0, []⟩ w := ⟨rfl, Rd.empty _ _, Byt.nil, Nat.zero_le _⟩

set_option maxRecDepth 100000 in
set_option maxHeartbeats 4000000 in
theorem works11_any (w : World) : Calls Try.prog 8 #[] w (Yes w) := by
  go_enter Try.func8, Try.ntmps8
  go_wp2_with fail
  refine (fNew_any 2 10 w (by decide) (by decide) (by decide) (by decide)).mono ?_
  rintro e w1 ⟨g, rfl, ho, hq1, hl1⟩
  have H1 : Hid (St w w1 g ⟨2, 10, none, 0, [], [], 0⟩) := ⟨hq1, hl1⟩
  clear hq1 hl1 ho
  go_wp2_with fail
  refine (fPush_any w.heap.size g ⟨2, 10, none, 0, [], [], 0⟩ ⟨0, 6, none, 0, 0, []⟩ w1 H1.out.qu (bare _ _ _) (fun h => absurd rfl h) H1.out.below.size (by decide) (by decide)).mono ?_
  rintro e w2 ⟨rfl, q2, hq, ha, hk, _⟩
  have H2 : Hid (St w w2 g q2 ∧ q2.abs = ⟨2, 10, [⟨0, 6, []⟩], 0⟩) := ⟨H1.out.next hq hk, ha⟩
  have he : Aq.code (Qs.abs ⟨2, 10, none, 0, [], [], 0⟩) (Pi.it ⟨0, 6, none, 0, 0, []⟩) = 0 := rfl
  rw [he]
  clear hq ha hk he H1
  go_wp2_with fail
  refine (fPush_any w.heap.size g q2 ⟨0, 5, none, 0, 0, []⟩ w2 H2.out.1.qu (bare _ _ _) (fun h => absurd rfl h) H2.out.1.below.size (by decide) (by have := congrArg Aq.D H2.out.2; simp only [Qs.abs] at this; omega)).mono ?_
  rintro e w3 ⟨rfl, q3, hq, ha, hk, _⟩
  have H3 : Hid (St w w3 g q3 ∧ q3.abs = ⟨2, 10, [⟨0, 6, []⟩], 1⟩) := ⟨H2.out.1.next hq hk, by rw [ha, H2.out.2]; rfl⟩
  have he : Aq.code q2.abs (Pi.it ⟨0, 5, none, 0, 0, []⟩) = 110 := by rw [H2.out.2]; rfl
  rw [he]
  clear hq ha hk he H2
  go_wp2_with fail
  refine (fPush_any w.heap.size g q3 ⟨0, 4, none, 0, 0, []⟩ w3 H3.out.1.qu (bare _ _ _) (fun h => absurd rfl h) H3.out.1.below.size (by decide) (by have := congrArg Aq.D H3.out.2; simp only [Qs.abs] at this; omega)).mono ?_
  rintro e w4 ⟨rfl, q4, hq, ha, hk, _⟩
  have H4 : Hid (St w w4 g q4 ∧ q4.abs = ⟨2, 10, [⟨0, 6, []⟩, ⟨0, 4, []⟩], 1⟩) := ⟨H3.out.1.next hq hk, by rw [ha, H3.out.2]; rfl⟩
  have he : Aq.code q3.abs (Pi.it ⟨0, 4, none, 0, 0, []⟩) = 0 := by rw [H3.out.2]; rfl
  rw [he]
  clear hq ha hk he H3
  go_wp2_with fail
  refine (fPush_any w.heap.size g q4 ⟨0, 0, none, 0, 0, []⟩ w4 H4.out.1.qu (bare _ _ _) (fun h => absurd rfl h) H4.out.1.below.size (by decide) (by have := congrArg Aq.D H4.out.2; simp only [Qs.abs] at this; omega)).mono ?_
  rintro e w5 ⟨rfl, q5, hq, ha, hk, _⟩
  have H5 : Hid (St w w5 g q5 ∧ q5.abs = ⟨2, 10, [⟨0, 6, []⟩, ⟨0, 4, []⟩], 2⟩) := ⟨H4.out.1.next hq hk, by rw [ha, H4.out.2]; rfl⟩
  have he : Aq.code q4.abs (Pi.it ⟨0, 0, none, 0, 0, []⟩) = 110 := by rw [H4.out.2]; rfl
  rw [he]
  clear hq ha hk he H4
  go_wp2_with fail
  refine (fDrops_any w.heap.size g q5 w5 H5.out.1.qu).mono ?_
  rintro e w6 ⟨rfl, hw⟩
  subst hw
  have he : q5.D = 2 := congrArg Aq.D H5.out.2
  rw [he]
  clear he
  go_wp2_with fail
  refine (fSize_any w.heap.size g q5 _ H5.out.1.qu).mono ?_
  rintro e w6 ⟨rfl, hw⟩
  subst hw
  have he : sumS q5.L = 10 := by rw [← abs_size, H5.out.2]; rfl
  rw [he]
  clear he
  go_wp2_with fail
  refine (fPop_any w.heap.size g q5 _ H5.out.1.qu).mono ?_
  rintro e w7 (⟨hL, _⟩ | ⟨x, l, y, q7, hL, rfl, hty, hq, ha, hk, _⟩)
  · have := congrArg (fun A => A.l.length) H5.out.2
    simp [Qs.abs, hL] at this
  have hl := congrArg Aq.l H5.out.2
  simp only [Qs.abs, hL, List.map_cons, List.cons.injEq] at hl
  have hs : y.sz = 6 := by rw [hty.sz]; exact congrArg It.sz hl.1
  have h7 : q7.L.length = 1 := by
    have h1 := congrArg (fun A => A.l.length) ha
    simp only [Qs.abs, List.length_map] at h1
    rw [h1, ← List.length_map (f := Pi.it), hl.2]
    rfl
  have H7 : Hid (St w w7 g q7) := H5.out.1.next hq hk
  have HLEN := Lib.hid h7
  clear hL hty hq ha hk hl h7 H5
  obtain ⟨no, sz, ya, yn, yc, yd⟩ := y
  simp only at hs
  subst hs
  rw [show (Pi.v ⟨no, 6, ya, yn, yc, yd⟩) = .agg #[.int .u64 no, .int .i64 6, .slice ya yn yc] from rfl]
  have hal : Below w7.heap.size w7 (w7.alloc (.cells #[.int .u64 no, .int .i64 6, .slice ya yn yc] 37)) := (Below.refl _ _).alloc (Nat.le_refl _) _
  have H8 := Lib.hid (H7.out.past hal)
  clear hal
  go_wp2_with fail
  refine (fLen_any w.heap.size g q7 _ H8.out.qu).mono ?_
  rintro e w9 ⟨rfl, hw⟩
  subst hw
  rw [HLEN.out]
  go_wp2_with fail
  go_ret
  exact ⟨rfl, H8.out.below⟩

set_option maxRecDepth 100000 in
set_option maxHeartbeats 4000000 in
theorem none11_any (x : Pi) (w : World) : Calls Try.prog 5 #[x.v] w (Yes w) := by
  obtain ⟨no, sz, a, n, c, d⟩ := x
  show Calls Try.prog 5 #[.agg #[.int .u64 no, .int .i64 sz, .slice a n c]] w _
  go_enter Try.func5, Try.ntmps5
  go_wp2_with fail
  have hb0 : Below w.heap.size w (w.alloc (.cells #[.int .u64 no, .int .i64 sz, .slice a n c] 37)) := (Below.refl _ _).alloc (Nat.le_refl _) _
  have hr0 : (w.alloc (.cells #[.int .u64 no, .int .i64 sz, .slice a n c] 37)).heap[w.heap.size]? = some (.cells #[.int .u64 no, .int .i64 sz, .slice a n c] 37 (0, 0)) := Blk_new w _ _
  have hz0 : (w.alloc (.cells #[.int .u64 no, .int .i64 sz, .slice a n c] 37)).heap.size = w.heap.size + 1 := by simp
  obtain ⟨w0, hw0⟩ : ∃ z, w.alloc (.cells #[.int .u64 no, .int .i64 sz, .slice a n c] 37) = z := ⟨_, rfl⟩
  rw [hw0] at hb0 hr0 hz0 ⊢
  have H0 : Hid (Below w.heap.size w w0 ∧ w0.heap[w.heap.size]? = some (.cells #[.int .u64 no, .int .i64 sz, .slice a n c] 37 (0, 0))) := ⟨hb0, hr0⟩
  clear hw0 hb0 hr0 hz0
  have step : ∀ {v v' : World}, (Below w.heap.size w v ∧ v.heap[w.heap.size]? = some (.cells #[.int .u64 no, .int .i64 sz, .slice a n c] 37 (0, 0))) → Below v.heap.size v v' → (Below w.heap.size w v' ∧ v'.heap[w.heap.size]? = some (.cells #[.int .u64 no, .int .i64 sz, .slice a n c] 37 (0, 0))) :=
    fun h hb => ⟨h.1.trans (hb.mono h.1.size), (hb.block _ (Array.getElem?_eq_some_iff.1 h.2).1).trans h.2⟩
  refine (fHead_nil w0).mono ?_
  rintro e w1 ⟨hb1, ⟨_, rfl⟩ | ⟨_, _, _, hL, _⟩⟩
  case inr => cases hL
  have H1 := Lib.hid (step H0.out (hb1.alloc hb1.size (.cells #[.int .u64 0, .int .i64 0, .slice none 0 0] 37)))
  clear hb1 H0
  rw [show pz.v = .agg #[.int .u64 0, .int .i64 0, .slice none 0 0] from rfl]
  go_wp2_with fail
  obtain ⟨w2, hw2⟩ : ∃ z, w1.alloc (.cells #[.int .u64 0, .int .i64 0, .slice none 0 0] 37) = z := ⟨_, rfl⟩
  rw [hw2] at H1 ⊢
  clear hw2
  refine (fPop_nil w2).mono ?_
  rintro e w3 ⟨rfl, hb3⟩
  have H3 := Lib.hid (step H1.out (hb3.alloc hb3.size (.cells #[.int .u64 0, .int .i64 0, .slice none 0 0] 37)))
  clear hb3 H1
  rw [show pz.v = .agg #[.int .u64 0, .int .i64 0, .slice none 0 0] from rfl]
  have c0 := q3_0 H3.out.2
  have c1 := q3_1 H3.out.2
  have c2 := q3_2 H3.out.2
  go_wp2_with fail
  obtain ⟨w4, hw4⟩ : ∃ z, w3.alloc (.cells #[.int .u64 0, .int .i64 0, .slice none 0 0] 37) = z := ⟨_, rfl⟩
  rw [hw4] at H3 ⊢
  clear hw4 c0 c1 c2
  refine (fPush_nil ⟨no, sz, a, n, c, d⟩ w4).mono ?_
  rintro e w5 ⟨rfl, hb5⟩
  have H5 := Lib.hid (step H3.out hb5)
  clear hb5 H3
  have c1 := q3_1 H5.out.2
  go_wp2_with fail
  refine (fRoom_nil sz w5).mono ?_
  rintro e w6 ⟨rfl, m, hm⟩
  have H6 := Lib.hid (step H5.out (show Below w5.heap.size w5 w6 by rw [hm]; exact ⟨rfl, rfl, rfl, Nat.le_refl _, fun _ _ => rfl⟩))
  clear hm H5 c1
  go_wp2_with fail
  refine (fLen_nil w6).mono ?_
  rintro e v ⟨rfl, hv⟩
  subst hv
  go_wp2_with fail
  refine (fSize_nil _).mono ?_
  rintro e v ⟨rfl, hv⟩
  subst hv
  go_wp2_with fail
  refine (fDrops_nil _).mono ?_
  rintro e v ⟨rfl, hv⟩
  subst hv
  go_wp2_with fail
  refine (fAll_nil _).mono ?_
  rintro e w7 ⟨hb7, va, vn, vc, ys, rfl, hcp, hm⟩
  have hn0 : vn = 0 := by
    have h1 := congrArg List.length hm
    simp at h1
    have h2 := hcp.len
    rw [h1] at h2
    simpa using h2.symm
  subst hn0
  have H7 := Lib.hid (step H6.out hb7)
  clear hb7 hcp hm H6
  go_wp2_with fail
  refine (fClear_nil w7).mono ?_
  rintro e v ⟨rfl, hv⟩
  subst hv
  go_wp2_with fail
  refine (works11_any _).mono ?_
  rintro e w8 ⟨rfl, hb8⟩
  have H8 := Lib.hid (step H7.out hb8)
  clear hb8 H7
  go_wp2_with fail
  go_ret
  exact ⟨rfl, H8.out.1⟩
end Go.Proofs.Ytjjidjemkddebaa

/-
  Whether a header behind is right, whether it is a later fragment, and its second byte. Conditions: bytes that lie where the slice leads, fewer than a million million.
-/
import Derived.Test.YthipnkaghddbhaaSxLeaf
import Derived.Laws.BitsAllLaws
namespace Go.Proofs.Ythipnkaghddbhaa
open Go.RowKit

theorem nat_and6 (n : Nat) : n &&& 6 = n / 2 % 4 * 2 := by
  have h1 : (n &&& 6) % 2 ^ 3 = (n % 2 ^ 3) &&& (6 % 2 ^ 3) := Nat.and_mod_two_pow
  have h2 : n &&& 6 ≤ 6 := Nat.and_le_right
  have h3 : n % 2 ^ 3 < 8 := Nat.mod_lt _ (by decide)
  have h4 : n / 2 % 4 * 2 = (n % 2 ^ 3) / 2 % 4 * 2 := by omega
  have h5 : ∀ m, m < 8 → m &&& 6 = m / 2 % 4 * 2 := by decide
  rw [h4, ← h5 _ h3]
  have h6 : (6 : Nat) % 2 ^ 3 = 6 := rfl
  rw [h6] at h1
  omega
theorem and6 (x : Int) (h0 : 0 ≤ x) (h1 : x ≤ 65535) : bits .and .u16 x 6 = x / 2 % 4 * 2 := by
  rw [u16_and x 6 h0 (by omega) (by omega) (by omega), show (6 : Int).toNat = 6 from rfl, nat_and6]
  omega
theorem sxSecond_any (x : Ex) (w : World) (h : x.ok w) (hl : x.n ≤ 1099511627776) : Calls Try.prog 39 #[x.val] w (Gives w (.int .u8 (scE x.k x.xs))) := by
  obtain ⟨k, a, n, c, xs⟩ := x
  have hbA : Below w.heap.size w (w.alloc (.cells #[.int .u8 k, .slice a n c] 71)) := (Below.refl _ _).alloc (Nat.le_refl _) _
  have HB := Lib.hid hbA
  have hl' : n ≤ 1099511627776 := hl
  have hxn : xs.length = n := h.len
  by_cases e : k = 44
  · subst e
    clear h hl hbA
    show Calls _ _ #[.agg #[.int .u8 44, .slice a n c]] _ _
    go_enter Try.func39, Try.ntmps39
    go_wp2_with fail
    go_ret
    exact ⟨rfl, HB.out⟩
  · have b0 : (k == 44) = false := by simpa using e
    have HS : Hid (scE k xs = (n : Int) / 8 % 256) := by show _ = _; rw [scE, if_neg e, hxn]; omega
    clear h hl hbA
    show Calls _ _ #[.agg #[.int .u8 k, .slice a n c]] _ _
    go_enter Try.func39, Try.ntmps39
    go_wp2_with fail
    go_ret
    exact ⟨congrArg (fun z => Ending.returned (Value.int .u8 z)) HS.out.symm, HB.out⟩
theorem sxLater_any (x : Ex) (w : World) (h : x.ok w) (hl : x.n ≤ 1099511627776) : Calls Try.prog 43 #[x.val] w (Gives w (.bool (ltE x.k x.xs))) := by
  obtain ⟨k, a, n, c, xs⟩ := x
  have hbA : Below w.heap.size w (w.alloc (.cells #[.int .u8 k, .slice a n c] 71)) := (Below.refl _ _).alloc (Nat.le_refl _) _
  have HB := Lib.hid hbA
  have HX := Lib.hid (h.below hbA)
  have hl' : n ≤ 1099511627776 := hl
  by_cases e : k = 44
  · subst e
    obtain ⟨r0, r1⟩ := wd_range h.byt
    obtain ⟨v, hv⟩ : ∃ v, wd xs = v := ⟨_, rfl⟩
    have HV : Hid (wd (Ex.mk 44 a n c xs).xs = v) := hv
    have r0' : 0 ≤ v := by rw [← hv]; exact r0
    have r1' : v ≤ 65535 := by rw [← hv]; exact r1
    have HL : Hid (ltE (Ex.mk 44 a n c xs).k (Ex.mk 44 a n c xs).xs = decide (0 < v / 8)) := by
      show ltE 44 xs = _
      unfold ltE
      rw [hv]
      by_cases h8 : 8 ≤ v
      · rw [decide_eq_true h8, decide_eq_true (show 0 < v / 8 by omega)]; rfl
      · rw [decide_eq_false h8, decide_eq_false (show ¬ 0 < v / 8 by omega)]; rfl
    clear h hl hbA r0 r1 hv
    show Calls _ _ #[.agg #[.int .u8 44, .slice a n c]] _ _
    go_enter Try.func43, Try.ntmps43
    go_wp2_with fail
    refine (sxOffset_any ⟨44, a, n, c, xs⟩ _ HX.out hl').mono ?_
    rintro e w1 ⟨rfl, hb1⟩
    rw [HV.out]
    have HB1 := Lib.hid (HB.out.trans (hb1.mono HB.out.size))
    clear hb1
    go_wp2_with fail
    go_ret
    exact ⟨by rw [HL.out]; rfl, HB1.out⟩
  · have b0 : (k == 44) = false := by simpa using e
    have HL : Hid (ltE (Ex.mk k a n c xs).k (Ex.mk k a n c xs).xs = false) := by show ltE k xs = false; simp [ltE, e]
    clear h hl hbA
    show Calls _ _ #[.agg #[.int .u8 k, .slice a n c]] _ _
    go_enter Try.func43, Try.ntmps43
    go_wp2_with fail
    go_ret
    exact ⟨by rw [HL.out]; rfl, HB.out⟩
theorem sxExtRight_any (x : Ex) (w : World) (h : x.ok w) (hl : x.n ≤ 1099511627776) : Calls Try.prog 42 #[x.val] w (Gives w (.bool (rtE x.k x.xs))) := by
  obtain ⟨k, a, n, c, xs⟩ := x
  have hbA : Below w.heap.size w (w.alloc (.cells #[.int .u8 k, .slice a n c] 71)) := (Below.refl _ _).alloc (Nat.le_refl _) _
  have HB := Lib.hid hbA
  have HX := Lib.hid (h.below hbA)
  have hl' : n ≤ 1099511627776 := hl
  have hxn : xs.length = n := h.len
  have hk := h.kind
  have hk0 : 0 ≤ k := hk.1
  have hk1 : k < 256 := hk.2
  by_cases e : k = 44
  · subst e
    obtain ⟨r0, r1⟩ := wd_range h.byt
    obtain ⟨v, hv⟩ : ∃ v, wd xs = v := ⟨_, rfl⟩
    have HV : Hid (wd (Ex.mk 44 a n c xs).xs = v) := hv
    have r0' : 0 ≤ v := by rw [← hv]; exact r0
    have r1' : v ≤ 65535 := by rw [← hv]; exact r1
    have HA := and6 v r0' r1'
    have HL : Hid (rtE (Ex.mk 44 a n c xs).k (Ex.mk 44 a n c xs).xs = (decide (n = 6) && decide (v / 2 % 4 = 0))) := by
      show rtE 44 xs = _
      rw [rtE, if_pos rfl, hv, hxn]
    by_cases h6 : n = 6
    · subst h6
      have HQ : Hid ((v / 2 % 4 * 2 == 0) = decide (v / 2 % 4 = 0)) := by
        show _ = _
        rw [Bool.eq_iff_iff]; simp; omega
      obtain ⟨A, hA⟩ : ∃ A, bits .and .u16 v 6 = A := ⟨_, rfl⟩
      rw [hA] at HA
      have HA2 : Hid ((A == 0) = decide (v / 2 % 4 = 0)) := by show _ = _; rw [HA]; exact HQ.out
      have HAA := Lib.hid hA
      clear h hl hbA r0 r1 hv HA hA hk hxn
      show Calls _ _ #[.agg #[.int .u8 44, .slice a 6 c]] _ _
      go_enter Try.func42, Try.ntmps42
      go_wp2_with fail
      refine (sxWord_any ⟨44, a, 6, c, xs⟩ _ HX.out hl').mono ?_
      rintro e w1 ⟨rfl, hb1⟩
      rw [HV.out]
      have HB1 := Lib.hid (HB.out.trans (hb1.mono HB.out.size))
      clear hb1
      go_wp2_with fail
      go_ret
      refine ⟨?_, HB1.out⟩
      rw [HL.out]
      show Ending.returned (Value.bool (bits .and .u16 v 6 == 0)) = _
      rw [HAA.out, HA2.out]
      simp
    · have b6 : ((n : Int) == 6) = false := by simp; omega
      have HL2 : Hid (rtE (Ex.mk 44 a n c xs).k (Ex.mk 44 a n c xs).xs = false) := by show _ = _; rw [HL.out, decide_eq_false h6]; rfl
      clear h hl hbA r0 r1 hv HA hk hxn HL
      show Calls _ _ #[.agg #[.int .u8 44, .slice a n c]] _ _
      go_enter Try.func42, Try.ntmps42
      go_wp2_with fail
      go_ret
      exact ⟨by rw [HL2.out]; rfl, HB.out⟩
  · have b0 : (k == 44) = false := by simpa using e
    cases hkn : knd k with
    | false =>
      have HK := Lib.hid hkn
      have HL : Hid (rtE (Ex.mk k a n c xs).k (Ex.mk k a n c xs).xs = false) := by show rtE k xs = false; rw [rtE, if_neg e, hkn]; rfl
      clear h hl hbA hk hxn hkn
      show Calls _ _ #[.agg #[.int .u8 k, .slice a n c]] _ _
      go_enter Try.func42, Try.ntmps42
      go_wp2_with fail
      refine (sxIsKind_any k _ hk0 hk1).mono ?_
      rintro e w1 ⟨rfl, rfl⟩
      rw [HK.out]
      go_wp2_with fail
      go_ret
      exact ⟨by rw [HL.out]; rfl, HB.out⟩
    | true =>
      have HK := Lib.hid hkn
      by_cases h8 : n % 8 = 6
      · have b8 : ((n : Int) % 8 == 6) = true := by simp; omega
        have HL : Hid (rtE (Ex.mk k a n c xs).k (Ex.mk k a n c xs).xs = decide ((n : Int) ≤ 2046)) := by
          show rtE k xs = _
          rw [rtE, if_neg e, hkn, hxn, decide_eq_true h8]
          simp
          omega
        clear h hl hbA hk hxn hkn
        show Calls _ _ #[.agg #[.int .u8 k, .slice a n c]] _ _
        go_enter Try.func42, Try.ntmps42
        go_wp2_with fail
        refine (sxIsKind_any k _ hk0 hk1).mono ?_
        rintro e w1 ⟨rfl, rfl⟩
        rw [HK.out]
        go_wp2_with fail
        go_ret
        exact ⟨by rw [HL.out]; rfl, HB.out⟩
      · have b8 : ((n : Int) % 8 == 6) = false := by simp; omega
        have HL : Hid (rtE (Ex.mk k a n c xs).k (Ex.mk k a n c xs).xs = false) := by
          show rtE k xs = _
          rw [rtE, if_neg e, hkn, hxn, decide_eq_false h8]
          rfl
        clear h hl hbA hk hxn hkn
        show Calls _ _ #[.agg #[.int .u8 k, .slice a n c]] _ _
        go_enter Try.func42, Try.ntmps42
        go_wp2_with fail
        refine (sxIsKind_any k _ hk0 hk1).mono ?_
        rintro e w1 ⟨rfl, rfl⟩
        rw [HK.out]
        go_wp2_with fail
        go_ret
        exact ⟨by rw [HL.out]; rfl, HB.out⟩
end Go.Proofs.Ythipnkaghddbhaa

/-
  The contract of a kind's bounds, of package trans. Conditions: bytes that lie where the slice leads, fewer than a million million.
-/
import Derived.Test.YtabdejoakecioaaTrKind
namespace Go.Proofs.Ytabdejoakecioaa
open Go.RowKit

/-- A number, where there is no error. -/
def okN (e v : Int) : Int := if e = 0 then v else 0
theorem hdN_pro {p : Int} (h : hdN p ≠ 0) : p = 6 ∨ p = 17 ∨ p = 1 ∨ p = 58 := by
  unfold hdN at h
  split at h
  · exact .inl (by assumption)
  split at h
  · exact .inr (.inl (by assumption))
  split at h
  · exact .inr (.inr (.inl (by assumption)))
  split at h
  · exact .inr (.inr (.inr (by assumption)))
  · exact absurd rfl h
set_option maxRecDepth 100000 in
set_option maxHeartbeats 2000000 in
theorem bounds_T (a : Option Addr) (n cap : Nat) (xs : List Int) (hd : Nat) (ks : List Value) (w w0 : World) (H A E : Int) (hk0 : ks[0]? = some (.int .i64 hd)) (hk7 : ks[7]? = some (.func (.func 58) #[] #[])) (hb : Below w0.heap.size w0 w) (hx : Rd w a xs) (hH : 0 ≤ H ∧ H ≤ 1000000) (hA : 0 ≤ A ∧ A ≤ 1000000) (_hhd : hd ≤ 20) (hn : n ≤ 1099511627776)
    (hends : hd ≤ n → n ≤ 65535 → ∀ w1, Rd w1 a xs → Calls Try.prog 58 #[.slice a n cap] w1 fun e w2 => e = .returned (.tuple #[.int .i64 H, .int .i64 A]) ∧ w1 = w2)
    (hE : E = if (n : Int) < hd then 10 else if 65535 < n then 51 else if H < hd ∨ A < hd then 51 else if n < H ∨ n < A then 10 else 0) :
    Calls Try.prog 42 #[.agg ks.toArray, .slice a n cap] w fun e w' => e = .returned (.tuple #[.int .i64 (okN E H), .int .i64 (okN E A), .int .i64 E]) ∧ Below w0.heap.size w0 w' := by
  obtain ⟨wA, hwA⟩ : ∃ x, w.alloc (.cells ks.toArray 63) = x := ⟨_, rfl⟩
  have hbA : Below w.heap.size w wA := by rw [← hwA]; exact (Below.refl _ _).alloc (Nat.le_refl _) _
  have hrA : wA.rangeAt w.heap.size 0 ks := by rw [← hwA]; exact range_new _ _ _
  have HB : Hid (Below w0.heap.size w0 wA) := hb.trans (hbA.mono hb.size)
  have HX := Lib.hid (hx.below hbA)
  have HE := Lib.hid hends
  have c0 := range_cell hrA (show ks.toArray[0]? = some (.int .i64 hd) by simpa using hk0)
  have c7 := range_cell hrA (show ks.toArray[7]? = some (.func (.func 58) #[] #[]) by simpa using hk7)
  obtain ⟨h0, h1⟩ := hH
  obtain ⟨a0, a1⟩ := hA
  obtain ⟨cs, hcs⟩ : ∃ cs, ks.toArray = cs := ⟨_, rfl⟩
  rw [hcs] at hwA ⊢
  clear hcs hbA hrA hx hb hends hk0 hk7
  by_cases q1 : (n : Int) < hd
  · rw [if_pos q1] at hE
    subst hE
    go_enter Try.func42, Try.ntmps42
    go_wp2_with fail
    go_ret3
    exact ⟨rfl, HB.out⟩
  rw [if_neg q1] at hE
  by_cases q2 : 65535 < n
  · rw [if_pos q2] at hE
    subst hE
    have q2' : (65535 : Int) < n := by omega
    go_enter Try.func42, Try.ntmps42
    go_wp2_with fail
    go_ret3
    exact ⟨rfl, HB.out⟩
  rw [if_neg q2] at hE
  have q2' : ¬ (65535 : Int) < n := by omega
  have HC := Lib.hid (HE.out (by omega) (by omega))
  clear HE
  by_cases q3 : H < hd
  · rw [if_pos (.inl q3)] at hE
    subst hE
    go_enter Try.func42, Try.ntmps42
    go_wp2_with fail
    refine (HC.out _ HX.out).mono ?_
    rintro e w1 ⟨rfl, rfl⟩
    go_wp2_with fail
    go_ret3
    exact ⟨rfl, HB.out⟩
  by_cases q4 : A < hd
  · rw [if_pos (.inr q4)] at hE
    subst hE
    go_enter Try.func42, Try.ntmps42
    go_wp2_with fail
    refine (HC.out _ HX.out).mono ?_
    rintro e w1 ⟨rfl, rfl⟩
    go_wp2_with fail
    go_ret3
    exact ⟨rfl, HB.out⟩
  rw [if_neg (by omega)] at hE
  by_cases q5 : n < H
  · rw [if_pos (.inl q5)] at hE
    subst hE
    go_enter Try.func42, Try.ntmps42
    go_wp2_with fail
    refine (HC.out _ HX.out).mono ?_
    rintro e w1 ⟨rfl, rfl⟩
    go_wp2_with fail
    go_ret3
    exact ⟨rfl, HB.out⟩
  by_cases q6 : n < A
  · rw [if_pos (.inr q6)] at hE
    subst hE
    go_enter Try.func42, Try.ntmps42
    go_wp2_with fail
    refine (HC.out _ HX.out).mono ?_
    rintro e w1 ⟨rfl, rfl⟩
    go_wp2_with fail
    go_ret3
    exact ⟨rfl, HB.out⟩
  rw [if_neg (by omega)] at hE
  subst hE
  go_enter Try.func42, Try.ntmps42
  go_wp2_with fail
  refine (HC.out _ HX.out).mono ?_
  rintro e w1 ⟨rfl, rfl⟩
  go_wp2_with fail
  go_ret3
  exact ⟨rfl, HB.out⟩
set_option maxRecDepth 100000 in
set_option maxHeartbeats 2000000 in
theorem bounds_U (a : Option Addr) (n cap : Nat) (xs : List Int) (hd : Nat) (ks : List Value) (w w0 : World) (H A E : Int) (hk0 : ks[0]? = some (.int .i64 hd)) (hk7 : ks[7]? = some (.func (.func 62) #[] #[])) (hb : Below w0.heap.size w0 w) (hx : Rd w a xs) (hH : 0 ≤ H ∧ H ≤ 1000000) (hA : 0 ≤ A ∧ A ≤ 1000000) (_hhd : hd ≤ 20) (hn : n ≤ 1099511627776)
    (hends : hd ≤ n → n ≤ 65535 → ∀ w1, Rd w1 a xs → Calls Try.prog 62 #[.slice a n cap] w1 fun e w2 => e = .returned (.tuple #[.int .i64 H, .int .i64 A]) ∧ w1 = w2)
    (hE : E = if (n : Int) < hd then 10 else if 65535 < n then 51 else if H < hd ∨ A < hd then 51 else if n < H ∨ n < A then 10 else 0) :
    Calls Try.prog 42 #[.agg ks.toArray, .slice a n cap] w fun e w' => e = .returned (.tuple #[.int .i64 (okN E H), .int .i64 (okN E A), .int .i64 E]) ∧ Below w0.heap.size w0 w' := by
  obtain ⟨wA, hwA⟩ : ∃ x, w.alloc (.cells ks.toArray 63) = x := ⟨_, rfl⟩
  have hbA : Below w.heap.size w wA := by rw [← hwA]; exact (Below.refl _ _).alloc (Nat.le_refl _) _
  have hrA : wA.rangeAt w.heap.size 0 ks := by rw [← hwA]; exact range_new _ _ _
  have HB : Hid (Below w0.heap.size w0 wA) := hb.trans (hbA.mono hb.size)
  have HX := Lib.hid (hx.below hbA)
  have HE := Lib.hid hends
  have c0 := range_cell hrA (show ks.toArray[0]? = some (.int .i64 hd) by simpa using hk0)
  have c7 := range_cell hrA (show ks.toArray[7]? = some (.func (.func 62) #[] #[]) by simpa using hk7)
  obtain ⟨h0, h1⟩ := hH
  obtain ⟨a0, a1⟩ := hA
  obtain ⟨cs, hcs⟩ : ∃ cs, ks.toArray = cs := ⟨_, rfl⟩
  rw [hcs] at hwA ⊢
  clear hcs hbA hrA hx hb hends hk0 hk7
  by_cases q1 : (n : Int) < hd
  · rw [if_pos q1] at hE
    subst hE
    go_enter Try.func42, Try.ntmps42
    go_wp2_with fail
    go_ret3
    exact ⟨rfl, HB.out⟩
  rw [if_neg q1] at hE
  by_cases q2 : 65535 < n
  · rw [if_pos q2] at hE
    subst hE
    have q2' : (65535 : Int) < n := by omega
    go_enter Try.func42, Try.ntmps42
    go_wp2_with fail
    go_ret3
    exact ⟨rfl, HB.out⟩
  rw [if_neg q2] at hE
  have q2' : ¬ (65535 : Int) < n := by omega
  have HC := Lib.hid (HE.out (by omega) (by omega))
  clear HE
  by_cases q3 : H < hd
  · rw [if_pos (.inl q3)] at hE
    subst hE
    go_enter Try.func42, Try.ntmps42
    go_wp2_with fail
    refine (HC.out _ HX.out).mono ?_
    rintro e w1 ⟨rfl, rfl⟩
    go_wp2_with fail
    go_ret3
    exact ⟨rfl, HB.out⟩
  by_cases q4 : A < hd
  · rw [if_pos (.inr q4)] at hE
    subst hE
    go_enter Try.func42, Try.ntmps42
    go_wp2_with fail
    refine (HC.out _ HX.out).mono ?_
    rintro e w1 ⟨rfl, rfl⟩
    go_wp2_with fail
    go_ret3
    exact ⟨rfl, HB.out⟩
  rw [if_neg (by omega)] at hE
  by_cases q5 : n < H
  · rw [if_pos (.inl q5)] at hE
    subst hE
    go_enter Try.func42, Try.ntmps42
    go_wp2_with fail
    refine (HC.out _ HX.out).mono ?_
    rintro e w1 ⟨rfl, rfl⟩
    go_wp2_with fail
    go_ret3
    exact ⟨rfl, HB.out⟩
  by_cases q6 : n < A
  · rw [if_pos (.inr q6)] at hE
    subst hE
    go_enter Try.func42, Try.ntmps42
    go_wp2_with fail
    refine (HC.out _ HX.out).mono ?_
    rintro e w1 ⟨rfl, rfl⟩
    go_wp2_with fail
    go_ret3
    exact ⟨rfl, HB.out⟩
  rw [if_neg (by omega)] at hE
  subst hE
  go_enter Try.func42, Try.ntmps42
  go_wp2_with fail
  refine (HC.out _ HX.out).mono ?_
  rintro e w1 ⟨rfl, rfl⟩
  go_wp2_with fail
  go_ret3
  exact ⟨rfl, HB.out⟩
set_option maxRecDepth 100000 in
set_option maxHeartbeats 2000000 in
theorem bounds_I (a : Option Addr) (n cap : Nat) (xs : List Int) (hd : Nat) (ks : List Value) (w w0 : World) (H A E : Int) (hk0 : ks[0]? = some (.int .i64 hd)) (hk7 : ks[7]? = some (.func (.func 54) #[] #[])) (hb : Below w0.heap.size w0 w) (hx : Rd w a xs) (hH : 0 ≤ H ∧ H ≤ 1000000) (hA : 0 ≤ A ∧ A ≤ 1000000) (_hhd : hd ≤ 20) (hn : n ≤ 1099511627776)
    (hends : hd ≤ n → n ≤ 65535 → ∀ w1, Rd w1 a xs → Calls Try.prog 54 #[.slice a n cap] w1 fun e w2 => e = .returned (.tuple #[.int .i64 H, .int .i64 A]) ∧ w1 = w2)
    (hE : E = if (n : Int) < hd then 10 else if 65535 < n then 51 else if H < hd ∨ A < hd then 51 else if n < H ∨ n < A then 10 else 0) :
    Calls Try.prog 42 #[.agg ks.toArray, .slice a n cap] w fun e w' => e = .returned (.tuple #[.int .i64 (okN E H), .int .i64 (okN E A), .int .i64 E]) ∧ Below w0.heap.size w0 w' := by
  obtain ⟨wA, hwA⟩ : ∃ x, w.alloc (.cells ks.toArray 63) = x := ⟨_, rfl⟩
  have hbA : Below w.heap.size w wA := by rw [← hwA]; exact (Below.refl _ _).alloc (Nat.le_refl _) _
  have hrA : wA.rangeAt w.heap.size 0 ks := by rw [← hwA]; exact range_new _ _ _
  have HB : Hid (Below w0.heap.size w0 wA) := hb.trans (hbA.mono hb.size)
  have HX := Lib.hid (hx.below hbA)
  have HE := Lib.hid hends
  have c0 := range_cell hrA (show ks.toArray[0]? = some (.int .i64 hd) by simpa using hk0)
  have c7 := range_cell hrA (show ks.toArray[7]? = some (.func (.func 54) #[] #[]) by simpa using hk7)
  obtain ⟨h0, h1⟩ := hH
  obtain ⟨a0, a1⟩ := hA
  obtain ⟨cs, hcs⟩ : ∃ cs, ks.toArray = cs := ⟨_, rfl⟩
  rw [hcs] at hwA ⊢
  clear hcs hbA hrA hx hb hends hk0 hk7
  by_cases q1 : (n : Int) < hd
  · rw [if_pos q1] at hE
    subst hE
    go_enter Try.func42, Try.ntmps42
    go_wp2_with fail
    go_ret3
    exact ⟨rfl, HB.out⟩
  rw [if_neg q1] at hE
  by_cases q2 : 65535 < n
  · rw [if_pos q2] at hE
    subst hE
    have q2' : (65535 : Int) < n := by omega
    go_enter Try.func42, Try.ntmps42
    go_wp2_with fail
    go_ret3
    exact ⟨rfl, HB.out⟩
  rw [if_neg q2] at hE
  have q2' : ¬ (65535 : Int) < n := by omega
  have HC := Lib.hid (HE.out (by omega) (by omega))
  clear HE
  by_cases q3 : H < hd
  · rw [if_pos (.inl q3)] at hE
    subst hE
    go_enter Try.func42, Try.ntmps42
    go_wp2_with fail
    refine (HC.out _ HX.out).mono ?_
    rintro e w1 ⟨rfl, rfl⟩
    go_wp2_with fail
    go_ret3
    exact ⟨rfl, HB.out⟩
  by_cases q4 : A < hd
  · rw [if_pos (.inr q4)] at hE
    subst hE
    go_enter Try.func42, Try.ntmps42
    go_wp2_with fail
    refine (HC.out _ HX.out).mono ?_
    rintro e w1 ⟨rfl, rfl⟩
    go_wp2_with fail
    go_ret3
    exact ⟨rfl, HB.out⟩
  rw [if_neg (by omega)] at hE
  by_cases q5 : n < H
  · rw [if_pos (.inl q5)] at hE
    subst hE
    go_enter Try.func42, Try.ntmps42
    go_wp2_with fail
    refine (HC.out _ HX.out).mono ?_
    rintro e w1 ⟨rfl, rfl⟩
    go_wp2_with fail
    go_ret3
    exact ⟨rfl, HB.out⟩
  by_cases q6 : n < A
  · rw [if_pos (.inr q6)] at hE
    subst hE
    go_enter Try.func42, Try.ntmps42
    go_wp2_with fail
    refine (HC.out _ HX.out).mono ?_
    rintro e w1 ⟨rfl, rfl⟩
    go_wp2_with fail
    go_ret3
    exact ⟨rfl, HB.out⟩
  rw [if_neg (by omega)] at hE
  subst hE
  go_enter Try.func42, Try.ntmps42
  go_wp2_with fail
  refine (HC.out _ HX.out).mono ?_
  rintro e w1 ⟨rfl, rfl⟩
  go_wp2_with fail
  go_ret3
  exact ⟨rfl, HB.out⟩
theorem lt_getD {xs : List Int} (hb : Byt xs) : 0 ≤ xs.getD 12 0 / 16 * 4 ∧ xs.getD 12 0 / 16 * 4 ≤ 1000000 := by
  have := hb.get 12; omega
theorem tkBounds_any (p : Int) (a : Option Addr) (n cap : Nat) (xs : List Int) (w w0 : World) (h : hdN p ≠ 0) (hb : Below w0.heap.size w0 w) (hx : Row.ok w ⟨a, n, cap, xs⟩) (hn : n ≤ 1099511627776) :
    Calls Try.prog 42 #[.agg (kdV p).toArray, .slice a n cap] w fun e w' => e = .returned (.tuple #[.int .i64 (okN (bdE p xs) (bdH p xs)), .int .i64 (okN (bdE p xs) (bdA p xs)), .int .i64 (bdE p xs)]) ∧ Below w0.heap.size w0 w' := by
  obtain ⟨hl, hc, _, hr, hy⟩ := hx
  simp only at hl hc hr hy
  have hw := wordAt_range hy 4
  by_cases hbig : 65535 < n
  · have e1 : bdE p xs = 51 := by
      have : hdN p ≤ 20 := by unfold hdN; (repeat' split) <;> omega
      unfold bdE; rw [if_neg (by omega), if_pos (by omega)]
    have hk : ∀ v, okN (bdE p xs) v = okN 51 0 := fun v => by rw [e1]; rfl
    rw [hk, hk, e1]
    have hE : (51 : Int) = if (n : Int) < hdN p then 10 else if 65535 < n then 51 else if (0 : Int) < hdN p ∨ (0 : Int) < hdN p then 51 else if (n : Int) < 0 ∨ (n : Int) < 0 then 10 else 0 := by
      have : hdN p ≤ 20 := by unfold hdN; (repeat' split) <;> omega
      rw [if_neg (by omega), if_pos hbig]
    rcases hdN_pro h with rfl | rfl | rfl | rfl
    · exact bounds_T a n cap xs 20 kT w w0 0 0 51 rfl rfl hb hr (by omega) (by omega) (by omega) hn (fun _ h2 => by omega) hE
    · exact bounds_U a n cap xs 8 kU w w0 0 0 51 rfl rfl hb hr (by omega) (by omega) (by omega) hn (fun _ h2 => by omega) hE
    · exact bounds_I a n cap xs 4 kI w w0 0 0 51 rfl rfl hb hr (by omega) (by omega) (by omega) hn (fun _ h2 => by omega) hE
    · exact bounds_I a n cap xs 4 kJ w w0 0 0 51 rfl rfl hb hr (by omega) (by omega) (by omega) hn (fun _ h2 => by omega) hE
  · have hg := lt_getD hy
    have hE : bdE p xs = if (n : Int) < hdN p then 10 else if 65535 < n then 51 else if bdH p xs < hdN p ∨ bdA p xs < hdN p then 51 else if n < bdH p xs ∨ n < bdA p xs then 10 else 0 := by
      unfold bdE; rw [hl]
    rcases hdN_pro h with rfl | rfl | rfl | rfl
    · have eH : bdH 6 xs = xs.getD 12 0 / 16 * 4 := by unfold bdH; rw [if_pos rfl]
      have eA : bdA 6 xs = n := by unfold bdA; rw [if_neg (by decide), hl]
      refine bounds_T a n cap xs 20 kT w w0 (bdH 6 xs) (bdA 6 xs) _ rfl rfl hb hr (by rw [eH]; exact hg) (by rw [eA]; omega) (by omega) hn (fun h1 _ w1 hr1 => ?_) hE
      rw [eH, eA]
      exact tEndsT_any a n cap xs w1 hl hr1 hy hn (by omega)
    · have eH : bdH 17 xs = 8 := by unfold bdH; rw [if_neg (by decide), if_pos rfl]
      have eA : bdA 17 xs = wordAt xs 4 := by unfold bdA; rw [if_pos rfl]
      refine bounds_U a n cap xs 8 kU w w0 (bdH 17 xs) (bdA 17 xs) _ rfl rfl hb hr (by rw [eH]; omega) (by rw [eA]; omega) (by omega) hn (fun h1 _ w1 hr1 => ?_) hE
      rw [eH, eA]
      exact tEndsU_any a n cap xs w1 hl hr1 hy hn hc (by omega)
    · have eH : bdH 1 xs = 4 := by unfold bdH; rw [if_neg (by decide), if_neg (by decide)]
      have eA : bdA 1 xs = n := by unfold bdA; rw [if_neg (by decide), hl]
      refine bounds_I a n cap xs 4 kI w w0 (bdH 1 xs) (bdA 1 xs) _ rfl rfl hb hr (by rw [eH]; omega) (by rw [eA]; omega) (by omega) hn (fun h1 _ w1 hr1 => ?_) hE
      rw [eH, eA]
      exact tEndsI_any a n cap w1 (by omega)
    · have eH : bdH 58 xs = 4 := by unfold bdH; rw [if_neg (by decide), if_neg (by decide)]
      have eA : bdA 58 xs = n := by unfold bdA; rw [if_neg (by decide), hl]
      refine bounds_I a n cap xs 4 kJ w w0 (bdH 58 xs) (bdA 58 xs) _ rfl rfl hb hr (by rw [eH]; omega) (by rw [eA]; omega) (by omega) hn (fun h1 _ w1 hr1 => ?_) hE
      rw [eH, eA]
      exact tEndsI_any a n cap w1 (by omega)
end Go.Proofs.Ytabdejoakecioaa

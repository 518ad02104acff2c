/-
  Contracts of the small functions of package bits that only reckon: isSize, Least, fits, reaches. Conditions: the numbers fit their Go types.
-/
import Derived.Test.YthipnkaghddbhaaBase
namespace Go.Proofs.Ythipnkaghddbhaa
open Go.RowKit

/-- May a number have that size? -/
def szB (n : Int) : Bool := decide (1 ≤ n) && decide (n ≤ 8)

theorem isSize_any (n : Int) (w : World) : Calls Try.prog 60 #[.int .i64 n] w fun e w' => e = .returned (.bool (szB n)) ∧ w = w' := by
  by_cases h1 : 1 ≤ n
  · by_cases h8 : n ≤ 8
    · go_enter Try.func60, Try.ntmps60
      go_wp2
      go_ret
      exact ⟨by simp [szB, h1, h8], rfl⟩
    · go_enter Try.func60, Try.ntmps60
      go_wp2
      go_ret
      exact ⟨by simp [szB]; omega, rfl⟩
  · go_enter Try.func60, Try.ntmps60
    go_wp2
    go_ret
    exact ⟨by simp [szB]; omega, rfl⟩

set_option maxHeartbeats 400000 in
theorem least_any (v : Int) (w : World) (hv : U64 v) : Calls Try.prog 61 #[.int .u64 v] w fun e w' => e = .returned (.int .i64 (lst v)) ∧ w = w' := by
  go_enter Try.func61, Try.ntmps61
  go_wp2
  go_loop [0, 3] (fun x s => ∃ k : Nat, k ≤ 7 ∧ s = .int .i64 (k + 1) ∧ x = .int .u64 (v / pw k) ∧ Hid (pw k ≤ v ∨ k = 0)) (fun x _ => (intOf x).toNat)
  case atStart => exact ⟨0, by omega, by go_num, by simp [pw_zero], .inr rfl⟩
  case round =>
    obtain ⟨k, hk, rfl, rfl, hq⟩ := hrel
    have h0 : 0 ≤ v / pw k := Int.ediv_nonneg hv.1 (by have := pw_pos k; omega)
    have HV := Lib.hid hv
    have HD := Lib.hid (div_pw_succ v k)
    clear hv
    obtain ⟨x, hx⟩ : ∃ x, v / pw k = x := ⟨_, rfl⟩
    rw [hx] at h0 HD ⊢
    have HX := Lib.hid hx
    clear hx
    by_cases hb : 255 < x
    · go_wp2
      go_round
      case rel => exact ⟨k + 1, by have := div_pw_pos (v := v) (k := k) (by rw [HX.out]; exact hb); have := HV.out.2; have h8 := @pw_mono 8 (k+1); omega, by go_num, by rw [HD.out], .inl (div_pw_pos (by rw [HX.out]; exact hb))⟩
      case measure => simp [intOf]; omega
    · go_wp2
      go_ret
      exact ⟨by rw [lst_of HV.out.2 hk hq.out (by rw [HX.out]; exact hb)]; go_num, rfl⟩

/-- Does a number fit a size? -/
def fitB (v n : Int) : Bool := szB n && decide ((lst v : Int) ≤ n)

theorem fits_any (v n : Int) (w : World) (hv : U64 v) : Calls Try.prog 55 #[.int .u64 v, .int .i64 n] w fun e w' => e = .returned (.bool (fitB v n)) ∧ w = w' := by
  have HV := Lib.hid hv
  clear hv
  cases hs : szB n with
  | false =>
    have HS := Lib.hid hs
    clear hs
    go_enter Try.func55, Try.ntmps55
    go_wp2_with fail
    refine (isSize_any _ _).mono ?_
    rintro e w' ⟨rfl, rfl⟩
    rw [HS.out]
    go_wp2_with fail
    go_ret
    exact ⟨by simp [fitB, HS.out], rfl⟩
  | true =>
    have HS := Lib.hid hs
    clear hs
    go_enter Try.func55, Try.ntmps55
    go_wp2_with fail
    refine (isSize_any _ _).mono ?_
    rintro e w' ⟨rfl, rfl⟩
    rw [HS.out]
    go_wp2_with fail
    refine (least_any _ _ HV.out).mono ?_
    rintro e w' ⟨rfl, rfl⟩
    go_wp2_with fail
    go_ret
    exact ⟨by simp [fitB, HS.out], rfl⟩

theorem fitB_iff {v n : Int} (hv : U64 v) : fitB v n = true ↔ 1 ≤ n ∧ n ≤ 8 ∧ v < pw n.toNat := by
  unfold fitB szB
  simp only [Bool.and_eq_true, decide_eq_true_eq]
  constructor
  · rintro ⟨⟨h1, h8⟩, hl⟩
    exact ⟨h1, h8, (lst_iff hv.2 n.toNat (by omega) (by omega)).1 (by omega)⟩
  · rintro ⟨h1, h8, hp⟩
    have := (lst_iff hv.2 n.toNat (by omega) (by omega)).2 hp
    exact ⟨⟨h1, h8⟩, by omega⟩

theorem reaches_any (a : Option Addr) (len cap : Nat) (x n : Int) (w : World) (hl : len ≤ 9223372036854775807) (hx : 0 ≤ x) (hx' : x ≤ 9223372036854775807) :
    Calls Try.prog 62 #[.slice a len cap, .int .i64 x, .int .i64 n] w fun e w' => e = .returned (.bool (decide (n ≤ (len : Int) - x))) ∧ w = w' := by
  go_enter Try.func62, Try.ntmps62
  go_wp2
  go_ret
  exact ⟨rfl, rfl⟩
end Go.Proofs.Ythipnkaghddbhaa

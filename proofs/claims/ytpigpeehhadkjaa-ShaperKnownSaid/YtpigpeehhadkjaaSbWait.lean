/-
  BucketWaits' walk, and the plain facts behind it. Conditions: numbers that fit their Go types.
-/
import Derived.Test.YtpigpeehhadkjaaSbAll
namespace Go.Proofs.Ytpigpeehhadkjaa.Bkt
open Go.RowKit

theorem fill_low (b : Bu) {t : Int} (h : t ≤ b.T) : b.fill t = b := by rw [Bu.fill, if_pos h]
theorem fill_K {b : Bu} {t : Int} (h : b.T < t) : (b.fill t).K = min b.B (b.K + b.r * (t - b.T)) := by rw [Bu.fill, if_neg (by omega)]
theorem fill_le {b : Bu} (h : b.ok) (t : Int) : (b.fill t).K ≤ b.B := by
  by_cases ht : t ≤ b.T
  · rw [fill_low b ht]; exact h.KB
  · rw [fill_K (by omega)]; omega
theorem wait_no {b : Bu} (h : b.ok) {n : Int} (hn : b.K < n) (hw : whB b n = false) : ¬ n ≤ (b.fill 18446744073709551615).K := by
  have hT := h.T1
  by_cases ht : 18446744073709551615 ≤ b.T
  · rw [fill_low b ht]; omega
  rw [fill_K (by omega)]
  by_cases hB : n ≤ b.B
  · by_cases hr : b.r = 0
    · rw [hr]; omega
    · have h1 : 18446744073709551615 - b.T < wtN b.r (n - b.K) := by
        rw [whB, decide_eq_false (show ¬ n ≤ b.K by omega), decide_eq_true hB, decide_eq_true hr] at hw
        simpa using hw
      rw [wtN] at h1
      have h2 : 18446744073709551615 - b.T ≤ (n - b.K - 1) / b.r := by omega
      have h3 := (Int.le_ediv_iff_mul_le (by have := h.r0; omega)).1 h2
      rw [Int.mul_comm]
      omega
  · omega
theorem wait_yes {b : Bu} (h : b.ok) {n : Int} (hn : b.K < n) (hw : whB b n = true) :
    b.T < whV b n ∧ whV b n ≤ 18446744073709551615 ∧ ¬ n ≤ (b.fill (whV b n - 1)).K ∧ n ≤ (b.fill (whV b n)).K := by
  have hv : whV b n = b.T + wtN b.r (n - b.K) := by rw [whV, if_pos hw, if_neg (by omega)]
  rw [whB, decide_eq_false (show ¬ n ≤ b.K by omega)] at hw
  simp only [Bool.false_or, Bool.and_eq_true, decide_eq_true_eq] at hw
  obtain ⟨hB, hr, hd⟩ := hw
  have hr0 : 0 < b.r := by have := h.r0; omega
  have hq0 : 0 ≤ (n - b.K - 1) / b.r := Int.ediv_nonneg (by omega) (by omega)
  have hlo := Int.ediv_mul_le (n - b.K - 1) (show b.r ≠ 0 from hr)
  have hhi := Int.lt_ediv_add_one_mul_self (n - b.K - 1) hr0
  rw [hv]
  rw [wtN] at hd ⊢
  obtain ⟨q, hq⟩ : ∃ q, (n - b.K - 1) / b.r = q := ⟨_, rfl⟩
  rw [hq] at hd hq0 hlo hhi ⊢
  refine ⟨by omega, by omega, ?_, ?_⟩
  · by_cases h0 : q = 0
    · rw [fill_low b (by omega)]; omega
    · rw [fill_K (by omega), show b.T + (q + 1) - 1 - b.T = q by omega, Int.mul_comm]
      omega
  · rw [fill_K (by omega), show b.T + (q + 1) - b.T = q + 1 by omega, Int.mul_comm]
    omega

theorem wfU {x : Int} (h : (Lit.int .u64 x).wf = true) : 0 ≤ x ∧ x ≤ 18446744073709551615 := by
  have hmin : IntKind.u64.min = 0 := rfl
  have hmax : IntKind.u64.max = 18446744073709551615 := rfl
  simp only [Lit.wf, Bool.and_eq_true, decide_eq_true_eq] at h
  omega

end Go.Proofs.Ytpigpeehhadkjaa.Bkt

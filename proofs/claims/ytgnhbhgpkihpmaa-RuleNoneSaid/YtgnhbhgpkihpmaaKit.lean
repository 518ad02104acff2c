/-
  Contracts of the statements' own kit: Own, SameBytes, Spoil, Pick. Conditions: lengths below 2 to the 46, numbers that fit their Go types.
-/
import Derived.Test.YtgnhbhgpkihpmaaBase
namespace Go.Proofs.Ytgnhbhgpkihpmaa
open Go.RowKit

/- left out: not in this seat -/

/-- A value is handed back; the world has but drawn. -/
def Quiet (w : World) (v : Value) (e : Ending) (w' : World) : Prop := e = .returned v ∧ ∃ m, w' = w.drewN m

theorem take_next {xs ys : List Int} {k : Nat} (h : xs.take k = ys.take k) (hx : k < xs.length) (hy : k < ys.length) (e : xs.getD k 0 = ys.getD k 0) : xs.take (k + 1) = ys.take (k + 1) := by
  rw [take_snoc xs k hx, take_snoc ys k hy, h, e]
theorem take_part {xs ys : List Int} {k : Nat} (e : xs.getD k 0 ≠ ys.getD k 0) : xs ≠ ys := fun h => e (by rw [h])

/- left out: not in this seat -/

/- left out: not in this seat -/

theorem tmod_pos (d n : Int) (hn : 0 < n) : -n < d.tmod n ∧ d.tmod n < n ∧ (d.tmod n + n) % n = d % n := by
  rcases Int.le_total 0 d with h | h
  · rw [Int.tmod_eq_emod_of_nonneg h]
    have h1 := Int.emod_nonneg d (show n ≠ 0 by omega)
    have h2 := Int.emod_lt_of_pos d hn
    exact ⟨by omega, by omega, by rw [Int.add_emod_right, Int.emod_emod_of_dvd _ (Int.dvd_refl _)]⟩
  · obtain ⟨e, rfl⟩ : ∃ e, d = -e := ⟨-d, by omega⟩
    rw [Int.neg_tmod, Int.tmod_eq_emod_of_nonneg (by omega)]
    have h1 := Int.emod_nonneg e (show n ≠ 0 by omega)
    have h2 := Int.emod_lt_of_pos e hn
    refine ⟨by omega, by omega, ?_⟩
    rw [Int.add_emod_right]
    have h3 : -e = -(e % n) + n * (-(e / n)) := by
      have h4 := Int.emod_add_mul_ediv e n
      rw [Int.mul_neg]
      omega
    conv => rhs; rw [h3]
    rw [Int.add_mul_emod_self_left]

theorem kPick_any (d n : Int) (w : World) (hn : 0 < n) (hn2 : n ≤ 4611686018427387903) : Calls Try.prog 10 #[.int .i64 d, .int .i64 n] w fun e w' => e = .returned (.int .i64 (d % n)) ∧ w = w' := by
  obtain ⟨h1, h2, h3⟩ := tmod_pos d n hn
  have HT := Lib.hid h3
  clear h3
  go_enter Try.func10, Try.ntmps10
  go_wp2_with fail
  go_ret
  exact ⟨by rw [← HT.out]; rfl, rfl⟩
end Go.Proofs.Ytgnhbhgpkihpmaa

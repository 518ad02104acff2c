/-
  Contracts of the small functions of package bits that only reckon: isSize, Least, fits, reaches. Conditions: the numbers fit their Go types.
-/
import Derived.Test.YtpbopghnoinlbaaBase
namespace Go.Proofs.Ytpbopghnoinlbaa
open Go.RowKit

/-- May a number have that size? -/
def szB (n : Int) : Bool := decide (1 ≤ n) && decide (n ≤ 8)

theorem isSize_any (n : Int) (w : World) : Calls Try.prog 28 #[.int .i64 n] w fun e w' => e = .returned (.bool (szB n)) ∧ w = w' := by
  by_cases h1 : 1 ≤ n
  · by_cases h8 : n ≤ 8
    · go_enter Try.func28, Try.ntmps28
      go_wp2
      go_ret
      exact ⟨by simp [szB, h1, h8], rfl⟩
    · go_enter Try.func28, Try.ntmps28
      go_wp2
      go_ret
      exact ⟨by simp [szB]; omega, rfl⟩
  · go_enter Try.func28, Try.ntmps28
    go_wp2
    go_ret
    exact ⟨by simp [szB]; omega, rfl⟩

/- left out: not in this seat -/

/-- Does a number fit a size? -/
def fitB (v n : Int) : Bool := szB n && decide ((lst v : Int) ≤ n)

/- left out: not in this seat -/

theorem fitB_iff {v n : Int} (hv : U64 v) : fitB v n = true ↔ 1 ≤ n ∧ n ≤ 8 ∧ v < pw n.toNat := by
  unfold fitB szB
  simp only [Bool.and_eq_true, decide_eq_true_eq]
  constructor
  · rintro ⟨⟨h1, h8⟩, hl⟩
    exact ⟨h1, h8, (lst_iff hv.2 n.toNat (by omega) (by omega)).1 (by omega)⟩
  · rintro ⟨h1, h8, hp⟩
    have := (lst_iff hv.2 n.toNat (by omega) (by omega)).2 hp
    exact ⟨⟨h1, h8⟩, by omega⟩

theorem reaches_any (a : Option Addr) (len cap : Nat) (x n : Int) (w : World) (hl : len ≤ 9223372036854775807) (hx : 0 ≤ x) (hx' : x ≤ 9223372036854775807) :
    Calls Try.prog 29 #[.slice a len cap, .int .i64 x, .int .i64 n] w fun e w' => e = .returned (.bool (decide (n ≤ (len : Int) - x))) ∧ w = w' := by
  go_enter Try.func29, Try.ntmps29
  go_wp2
  go_ret
  exact ⟨rfl, rfl⟩
end Go.Proofs.Ytpbopghnoinlbaa

/-
  Contracts of the small functions of package bits that only reckon: isSize, Least, fits, reaches. Conditions: the numbers fit their Go types.
-/
import Derived.Test.YtbghdlgfpfeaeaaBase
namespace Go.Proofs.Ytbghdlgfpfeaeaa
open Go.RowKit

/-- May a number have that size? -/
def szB (n : Int) : Bool := decide (1 ≤ n) && decide (n ≤ 8)

/- left out: not in this seat -/

/- left out: not in this seat -/

/-- Does a number fit a size? -/
def fitB (v n : Int) : Bool := szB n && decide ((lst v : Int) ≤ n)

/- left out: not in this seat -/

theorem fitB_iff {v n : Int} (hv : U64 v) : fitB v n = true ↔ 1 ≤ n ∧ n ≤ 8 ∧ v < pw n.toNat := by
  unfold fitB szB
  simp only [Bool.and_eq_true, decide_eq_true_eq]
  constructor
  · rintro ⟨⟨h1, h8⟩, hl⟩
    exact ⟨h1, h8, (lst_iff hv.2 n.toNat (by omega) (by omega)).1 (by omega)⟩
  · rintro ⟨h1, h8, hp⟩
    have := (lst_iff hv.2 n.toNat (by omega) (by omega)).2 hp
    exact ⟨⟨h1, h8⟩, by omega⟩

/- left out: not in this seat -/
end Go.Proofs.Ytbghdlgfpfeaeaa

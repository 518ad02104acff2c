/-
  What slices of bytes read as, and the contracts of number and Get of package bits. Conditions: the numbers fit their Go types, the bytes lie where the slice leads.
-/
import Derived.Test.YtbghdlgfpfeaeaaLeaf
namespace Go.Proofs.Ytbghdlgfpfeaeaa
open Go.RowKit

/- left out: not in this seat -/

/-- What Get answers: the number, and the error. -/
def getE (xs : List Int) (p n : Int) : Int := if szB n && decide (0 ≤ p) then (if n ≤ (xs.length : Int) - p then 0 else 10) else 2
def getV (xs : List Int) (p n : Int) : Int := if getE xs p n = 0 then num ((xs.drop p.toNat).take n.toNat) else 0

/- left out: not in this seat -/
end Go.Proofs.Ytbghdlgfpfeaeaa

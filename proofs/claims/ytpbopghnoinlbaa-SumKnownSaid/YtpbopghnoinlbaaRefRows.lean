/-
  Contracts of the document's own Join, Put and Same for layer 1. Conditions: lengths below 2 to the 46, numbers that fit their Go types.
-/
import Derived.Test.YtpbopghnoinlbaaLeaf
namespace Go.Proofs.Ytpbopghnoinlbaa
open Go.RowKit

/- left out: not in this seat -/

/- left out: not in this seat -/

theorem same_any (a b : Option Addr) (n c m d : Nat) (xs ys : List Int) (w : World) (hn : xs.length = n) (hm : ys.length = m) (hx : Rd w a xs) (hy : Rd w b ys) (bx : Byt xs) (by_ : Byt ys) :
    Calls Try.prog 18 #[.slice a n c, .slice b m d] w fun e w' => e = .returned (.bool (decide (xs = ys))) ∧ w = w' := by
  have h1 := run_string_rd w c hn hx bx
  have h2 := run_string_rd w d hm hy by_
  have HI : Hid (ub xs = ub ys → xs = ys) := ub_inj bx by_
  clear hn hm hx hy bx by_
  go_enter Try.func18, Try.ntmps18
  go_wp2
  go_ret
  have he : (ub xs == ub ys) = decide (xs = ys) := by
    rw [Bool.eq_iff_iff, decide_eq_true_eq, beq_iff_eq]
    exact ⟨HI.out, fun h => by rw [h]⟩
  exact ⟨by rw [he]; rfl, rfl⟩
end Go.Proofs.Ytpbopghnoinlbaa

/-
  What a law's pieces are put together with; the kit's Pick. Conditions: those that the theorems name.
-/
import Derived.Test.YtbnfmiopgjmppaaDoorPieces
namespace Go.Proofs.YtbnfmiopgjmppaaDoor
open Go.RowKit

/-- The call returns here. -/
def RetsV (fn : Func) (R : Ending → World → Prop) (e : Exit) (a : Act) (w : World) : Prop := e = .ret ∧ bodyPost Tryd.prog fn R .ret a w
theorem wp_endB {x : Code} {fn : Func} {R : Ending → World → Prop} {a : Act} {w : World} {Q : Exit → Act → World → Prop} (h1 : x.wp Tryd.prog (RetsV fn R) a w) (h2 : ∀ a' w', bodyPost Tryd.prog fn R .ret a' w' → Q .ret a' w') : x.wp Tryd.prog Q a w := by
  refine wp_mono h1 ?_
  rintro e a' w' ⟨rfl, hq⟩
  exact h2 _ _ hq
theorem wp_onT {P : Program} {c A B : Code} {Q : Exit → Act → World → Prop} {a : Act} {w : World} {i : Nat} (hc : c = .cond (.tmp i) A B) (h : sl a i = .bool true) (h1 : A.wp P Q a w) : c.wp P Q a w := by
  subst hc
  exact wp_cond_true (by rw [← h]; rfl) h1
theorem wp_onF {P : Program} {c A B : Code} {Q : Exit → Act → World → Prop} {a : Act} {w : World} {i : Nat} (hc : c = .cond (.tmp i) A B) (h : sl a i = .bool false) (h1 : B.wp P Q a w) : c.wp P Q a w := by
  subst hc
  exact wp_cond_false (by rw [← h]; rfl) h1
theorem wp_skipR {P : Program} {c : Code} {Q : Exit → Act → World → Prop} {a : Act} {w : World} (hc : c = .skip) (h : Q .normal a w) : c.wp P Q a w := by
  subst hc
  exact wp_skip h
theorem wp_sqG {P : Program} {c x y : Code} {Q : Exit → Act → World → Prop} {a : Act} {w : World} (hc : c = .seq x y) (h : x.wp P (Exit.then (y.wp P Q) Q) a w) : c.wp P Q a w := by
  subst hc
  exact wp_seq h
theorem sl_at (xs : Array Value) (m i : Nat) (v : Value) (h : xs[i]? = some v) : sl ⟨xs ++ Array.replicate m undef, []⟩ i = v := by
  have hi := (Array.getElem?_eq_some_iff.1 h).1
  simp [sl, Array.getElem?_append, hi]
  exact (Array.getElem?_eq_some_iff.1 h).2
def numOf : Value → Int
  | .int _ i => i
  | _ => 0
end Go.Proofs.YtbnfmiopgjmppaaDoor

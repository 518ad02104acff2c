/-
  RuleLeaves' walk. Conditions: rules that lie where the slice leads, a key, numbers that fit their Go types. (Made by gen_ruleaves.py.)
-/
import Derived.Test.YtgnhbhgpkihpmaaRuLeavesA
import Derived.Test.YtgnhbhgpkihpmaaRuLeavesB
namespace Go.Proofs.Ytgnhbhgpkihpmaa
open Go.RowKit

theorem leaves9_any (deny : Bool) (cls : Int) (a : Option Addr) (n c : Nat) (l : List Rl) (k : Ky) (att : Int) (w : World) (hl : Rls w a n l) (hnc : a = none → c = 0) (hk : k.ok) :
    Calls Try.prog 3 #[.bool deny, .int .i64 cls, .slice a n c, .agg k.cs.toArray, .int .i64 att] w fun e w' => e = .returned (.bool true) ∧ Below w.heap.size w w' := by
  by_cases h : cle (told (fit k) (othr deny cls) l) = 90
  · exact leaves9_b deny cls a n c l k att w hl hnc hk (by rw [h]; decide)
  · exact leaves9_a deny cls a n c l k att w hl hnc hk h
end Go.Proofs.Ytgnhbhgpkihpmaa

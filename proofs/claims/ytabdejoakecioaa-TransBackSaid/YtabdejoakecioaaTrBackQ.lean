/-
  TransBack, walked, in the lift's form. Conditions: a segment whose numbers fit their Go types and whose rows lie where the slices lead, bytes that lie where the slices lead.
-/
import Derived.Test.YtabdejoakecioaaTrBack
import Derived.Test.YtabdejoakecioaaTrOpen
namespace Go.Proofs.Ytabdejoakecioaa
open Go.RowKit

theorem trback_any (s : Sg) (a1 : Option Addr) (n1 c1 : Nat) (xs : List Int) (a2 : Option Addr) (n2 c2 : Nat) (ys : List Int) (d y : Int) (w : World) (k : s.ok w) (hn1 : xs.length = n1) (hc1 : n1 ≤ c1) (hm1 : c1 ≤ maxLen) (hr1 : Rd w a1 xs) (hb1 : Byt xs) (hn2 : ys.length = n2) (hc2 : n2 ≤ c2) (hm2 : c2 ≤ maxLen) (hr2 : Rd w a2 ys) (hb2 : Byt ys) (y0 : 0 ≤ y) (y1 : y ≤ 255) :
    Calls Try.prog 5 #[.agg s.cs.toArray, .slice a1 n1 c1, .slice a2 n2 c2, .int .i64 d, .int .u8 y] w fun e w' => e = .returned (.bool true) ∧ Below w.heap.size w w' :=
  back7_any s a1 n1 c1 xs a2 n2 c2 ys d y w k ⟨hn1, hc1, hm1, hr1, hb1⟩ ⟨hn2, hc2, hm2, hr2, hb2⟩ y0 (by omega)
end Go.Proofs.Ytabdejoakecioaa

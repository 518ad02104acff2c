/-
  TransPuts, walked, in the lift's form. Conditions: bytes that lie where the slices lead, a number that is a byte; the first segment's data not longer than a machine holds.
-/
import Derived.Test.YtabdejoakecioaaTrPuts
import Derived.Test.YtabdejoakecioaaTrSize
namespace Go.Proofs.Ytabdejoakecioaa
open Go.RowKit

theorem trputs_any (s t : Sg) (a2 : Option Addr) (n2 c2 : Nat) (xs : List Int) (a3 : Option Addr) (n3 c3 : Nat) (ys : List Int) (f : Int) (w : World) (k : s.ok w) (l : t.ok w) (hz : s.dn ≤ reachBytes) (hn2 : xs.length = n2) (hc2 : n2 ≤ c2) (hm2 : c2 ≤ maxLen) (hr2 : Rd w a2 xs) (hb2 : Byt xs) (hn3 : ys.length = n3) (hc3 : n3 ≤ c3) (hm3 : c3 ≤ maxLen) (hr3 : Rd w a3 ys) (hb3 : Byt ys) (f0 : 0 ≤ f) (f1 : f ≤ 255) :
    Calls Try.prog 3 #[.agg s.cs.toArray, .agg t.cs.toArray, .slice a2 n2 c2, .slice a3 n3 c3, .int .u8 f] w fun e w' => e = .returned (.bool true) ∧ Below w.heap.size w w' :=
  puts7_any s t a2 n2 c2 xs a3 n3 c3 ys f w k l ⟨hn2, hc2, hm2, hr2, hb2⟩ ⟨hn3, hc3, hm3, hr3, hb3⟩ f0 (by omega) (by have e : reachBytes = 140737488351232 := rfl; omega)
end Go.Proofs.Ytabdejoakecioaa

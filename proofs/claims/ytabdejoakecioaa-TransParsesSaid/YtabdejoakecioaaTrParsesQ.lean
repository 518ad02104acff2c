/-
  TransParses, walked, in the lift's form. Conditions: a number that is a byte, bytes that lie where the slices lead.
-/
import Derived.Test.YtabdejoakecioaaTrParses
namespace Go.Proofs.Ytabdejoakecioaa
open Go.RowKit

theorem trparses_any (p : Int) (a0 : Option Addr) (n0 c0 : Nat) (zs : List Int) (a1 : Option Addr) (n1 c1 : Nat) (xs : List Int) (a2 : Option Addr) (n2 c2 : Nat) (ys : List Int) (w : World) (p0 : 0 ≤ p) (p1 : p ≤ 255) (hn0 : zs.length = n0) (hc0 : n0 ≤ c0) (hm0 : c0 ≤ maxLen) (hr0 : Rd w a0 zs) (hb0 : Byt zs) (hn1 : xs.length = n1) (hc1 : n1 ≤ c1) (hm1 : c1 ≤ maxLen) (hr1 : Rd w a1 xs) (hb1 : Byt xs) (hn2 : ys.length = n2) (hc2 : n2 ≤ c2) (hm2 : c2 ≤ maxLen) (hr2 : Rd w a2 ys) (hb2 : Byt ys) :
    Calls Try.prog 4 #[.int .u8 p, .slice a0 n0 c0, .slice a1 n1 c1, .slice a2 n2 c2] w fun e w' => e = .returned (.bool true) ∧ Below w.heap.size w w' :=
  parses7_any p a0 n0 c0 zs a1 n1 c1 xs a2 n2 c2 ys w p0 (by omega) ⟨hn0, hc0, hm0, hr0, hb0⟩ ⟨hn1, hc1, hm1, hr1, hb1⟩ ⟨hn2, hc2, hm2, hr2, hb2⟩
end Go.Proofs.Ytabdejoakecioaa

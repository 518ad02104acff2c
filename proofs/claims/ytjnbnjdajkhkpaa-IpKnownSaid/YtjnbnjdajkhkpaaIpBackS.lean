/-
  IpBack, walked, with the contract of Same in its place. Conditions: a header whose numbers fit their Go types, bytes that lie where the slice leads.
-/
import Derived.Test.YtjnbnjdajkhkpaaIpBack
import Derived.Test.YtjnbnjdajkhkpaaIpOpenH
import Derived.Test.YtjnbnjdajkhkpaaIpSame
namespace Go.Proofs.Ytjnbnjdajkhkpaa
open Go.RowKit

theorem ipback_any (h : Hd) (a2 : Option Addr) (n2 cap2 : Nat) (ys : List Int) (d y : Int) (w : World) (k : h.ok w) (hn2 : ys.length = n2) (hc2 : n2 ≤ cap2) (hcm2 : cap2 ≤ maxLen) (hr2 : Rd w a2 ys) (hby2 : Byt ys) (y0 : 0 ≤ y) (y1 : y ≤ 255) :
    Calls Try.prog 6 #[.agg h.cs.toArray, .slice a2 n2 cap2, .int .i64 d, .int .u8 y] w fun e w' => e = .returned (.bool true) ∧ Below w.heap.size w w' :=
  back_any iSame_any h a2 n2 cap2 ys d y w k hn2 hc2 hcm2 hr2 hby2 y0 y1
end Go.Proofs.Ytjnbnjdajkhkpaa

/-
  IpsixChains for every two chains. Conditions: those that the theorem names.
-/
import Derived.Test.YtcohlfifecbfdaaSxChains
import Derived.Test.YtcohlfifecbfdaaSxOpenC
namespace Go.Proofs.Ytcohlfifecbfdaa
open Go.RowKit
theorem ipsixchains_any (a : Option Addr) (n c : Nat) (es : List Ex) (p : Int) (b : Option Addr) (m d : Nat) (fs : List Ex) (q : Int) (w : World) (hx : Ch0 w a n c es) (p0 : 0 ≤ p) (p1 : p < 256) (hy : Ch0 w b m d fs) (q0 : 0 ≤ q) (q1 : q < 256) :
    Calls Try.prog 4 #[.agg #[.slice a n c, .int .u8 p], .agg #[.slice b m d, .int .u8 q]] w fun e w' => e = .returned (.bool true) ∧ Below w.heap.size w w' := chains_any a b n c m d es fs p q w hx hy p0 p1 q0 q1
end Go.Proofs.Ytcohlfifecbfdaa

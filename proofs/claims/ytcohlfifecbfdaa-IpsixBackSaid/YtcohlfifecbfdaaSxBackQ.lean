/-
  IpsixBack for every header, chain, bytes, kind, bytes. Conditions: those that the theorem names.
-/
import Derived.Test.YtcohlfifecbfdaaSxBack
import Derived.Test.YtcohlfifecbfdaaSxOpen
import Derived.Test.YtcohlfifecbfdaaSxOpenC
namespace Go.Proofs.Ytcohlfifecbfdaa
open Go.RowKit
theorem ipsixback_any (h : H6) (a : Option Addr) (n c : Nat) (es : List Ex) (p : Int) (ba : Option Addr) (bn bc : Nat) (ys : List Int) (F : Int) (xa : Option Addr) (xn xc : Nat) (xs : List Int) (w : World) (k : h.ok) (hx : Ch0 w a n c es) (p0 : 0 ≤ p) (p1 : p < 256)
    (hyn : ys.length = bn) (hyr : Rd w ba ys) (hyb : Byt ys) (hw : (Lit.int .u8 F).wf = true) (hxn : xs.length = xn) (hxc0 : xn ≤ xc) (hxr : Rd w xa xs) (hxb : Byt xs) :
    Calls Try.prog 6 #[.agg h.cs.toArray, .agg #[.slice a n c, .int .u8 p], .slice ba bn bc, .int .u8 F, .slice xa xn xc] w fun e w' => e = .returned (.bool true) ∧ Below w.heap.size w w' := by
  have h1 := bounds_u8 hw
  exact back_any h a n c es p ba bn bc ys F xa xn xc xs w k hx p0 p1 hyn hyr hyb h1.1 (by omega) hxn hxc0 hxr hxb
end Go.Proofs.Ytcohlfifecbfdaa

/-
  IpsixParses for every kind and all bytes. Conditions: those that the theorem names.
-/
import Derived.Test.YtcohlfifecbfdaaSxParses
namespace Go.Proofs.Ytcohlfifecbfdaa
open Go.RowKit
theorem ipsixparses_any (F : Int) (a : Option Addr) (n c : Nat) (xs : List Int) (w : World) (hw : (Lit.int .u8 F).wf = true) (hn : xs.length = n) (hc : n ≤ c) (hr : Rd w a xs) (hb : Byt xs) :
    Calls Try.prog 5 #[.int .u8 F, .slice a n c] w fun e w' => e = .returned (.bool true) ∧ Below w.heap.size w w' := by
  have h1 := bounds_u8 hw
  exact parses_any F a n c xs w h1.1 (by omega) hn hc hr hb
end Go.Proofs.Ytcohlfifecbfdaa

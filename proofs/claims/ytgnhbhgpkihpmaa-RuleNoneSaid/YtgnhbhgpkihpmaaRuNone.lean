/-
  RuleNone's walk. Conditions: a key whose numbers fit their Go types.
-/
import Derived.Test.YtgnhbhgpkihpmaaRuWorks
namespace Go.Proofs.Ytgnhbhgpkihpmaa
open Go.RowKit

set_option maxRecDepth 100000 in
set_option maxHeartbeats 2000000 in
theorem none9_any (k : Ky) (w : World) (hk : k.ok) : Calls Try.prog 4 #[.agg k.cs.toArray] w fun e w' => e = .returned (.bool true) ∧ Below w.heap.size w w' := by
  have HR := Lib.hid (range_new w k.cs 28)
  have HB : Hid (Below w.heap.size w (w.alloc (.cells k.cs.toArray 28))) := (Below.refl _ _).alloc (Nat.le_refl _) _
  have HK := Lib.hid hk
  clear hk
  go_enter Try.func4, Try.ntmps4
  go_wp2_with (refine ldK (.tmp 1) rfl rfl _ _ rfl k HK.out (by with_reducible exact HR.out) ?_)
  refine (uClass_nil k _).mono ?_
  rintro e w1 ⟨rfl, hb1⟩
  have HR1 := Lib.hid (range_kept hb1 HR.out)
  have HB1 := Lib.hid (HB.out.trans (hb1.mono HB.out.size))
  clear hb1
  go_wp2_with (refine ldKg (.tmp 1) rfl (by rfl) _ _ rfl k HK.out (by with_reducible exact HR1.out) ?_)
  refine (uWhich_nil k _).mono ?_
  rintro e w2 ⟨rfl, hb2⟩
  have HB2 := Lib.hid (HB1.out.trans (hb2.mono HB1.out.size))
  clear hb2
  go_wp2_with fail
  refine (uHits_nil _).mono ?_
  rintro e w3 ⟨rfl, hb3⟩
  have HB3 := Lib.hid (HB2.out.trans (hb3.mono HB2.out.size))
  clear hb3
  go_wp2_with fail
  refine (uDead_nil _).mono ?_
  rintro e w4 ⟨rfl, hb4⟩
  have HB4 := Lib.hid (HB3.out.trans (hb4.mono HB3.out.size))
  clear hb4
  go_wp2_with fail
  refine (works9_any _).mono ?_
  rintro e w5 ⟨rfl, hb5⟩
  have HB5 := Lib.hid (HB4.out.trans (hb5.mono HB4.out.size))
  clear hb5
  go_wp2_with fail
  go_ret
  exact ⟨rfl, HB5.out⟩
end Go.Proofs.Ytgnhbhgpkihpmaa

/-
  The contract of the statements' small test. Condition: the library's variables hold what they should. (Made by gen_adwk.py.)
-/
import Derived.Test.YtbnfmiopgjmppaaDoorAdPp
namespace Go.Proofs.YtbnfmiopgjmppaaDoor
open Go.RowKit

def X1 : List Int := [10, 0, 0, 255, 0, 0, 0, 0, 0, 0, 0, 0, 0, 0, 0, 0]
def X2 : List Int := [32, 1, 13, 184, 0, 0, 0, 0, 0, 1, 0, 0, 0, 0, 0, 1]
def X3 : List Int := [0, 1, 0, 0, 0, 0, 0, 0, 0, 0, 0, 0, 0, 0, 0, 0]
theorem wk1 : adO [49, 48, 46, 48, 46, 48, 46, 50, 53, 53] = some (false, X1) := by decide +kernel
theorem wk2 : adO [50, 48, 48, 49, 58, 68, 66, 56, 58, 48, 58, 48, 58, 49, 58, 48, 58, 48, 58, 49] = some (true, X2) := by decide +kernel
theorem wk3 : adO [49, 58, 58] = some (true, X3) := by decide +kernel
theorem wk4 : adO [48, 49, 46, 50, 46, 51, 46, 52] = none := by decide +kernel
theorem wk5 : adO [49, 58, 58, 50, 58, 58, 51] = none := by decide +kernel
theorem wk6 : pfO [49, 48, 46, 48, 46, 48, 46, 49, 47, 56] = none := by decide +kernel
theorem wk7 : txP true X2 = [50, 48, 48, 49, 58, 100, 98, 56, 58, 58, 49, 58, 48, 58, 48, 58, 49] := by decide +kernel
theorem bytX2 : Byt X2 := by
  intro x hx
  simp [X2] at hx
  omega
/-- A text that tells an address. -/
theorem par_yes {l : Tx} {s : Bool} {xs : List Int} (h : adO l = some (s, xs)) (w : World) (hg : Gl w) (hl : l.length ≤ 1000000) : Calls Tryd.prog 21 #[.string ⟨l.toArray⟩] w fun e w' => e = .returned (.tuple #[.agg (adl s xs).toArray, .int .i64 0]) ∧ Below w.heap.size w w' := by
  refine (aParse_adO l w hg hl).mono ?_
  rintro e w' ⟨hb, h2⟩
  rcases h2 with ⟨s', xs', h3, rfl⟩ | ⟨h3, _⟩
  · rw [h] at h3
    have := Option.some.inj h3
    simp only [Prod.mk.injEq] at this
    obtain ⟨rfl, rfl⟩ := this
    exact ⟨rfl, hb⟩
  · rw [h] at h3; cases h3
theorem par_no {l : Tx} (h : adO l = none) (w : World) (hg : Gl w) (hl : l.length ≤ 1000000) : Calls Tryd.prog 21 #[.string ⟨l.toArray⟩] w fun e w' => e = .returned (.tuple #[.agg (adl false (zs 16)).toArray, .int .i64 40]) ∧ Below w.heap.size w w' := by
  refine (aParse_adO l w hg hl).mono ?_
  rintro e w' ⟨hb, h2⟩
  rcases h2 with ⟨s', xs', h3, rfl⟩ | ⟨h3, rfl⟩
  · rw [h] at h3; cases h3
  · exact ⟨rfl, hb⟩
theorem pp_no2 {l : Tx} (h : pfO l = none) (w : World) (hg : Gl w) (hl : l.length ≤ 1000000) : Calls Tryd.prog 23 #[.string ⟨l.toArray⟩] w fun e w' => e = .returned (.tuple #[.agg (pfl false (zs 16) 0).toArray, .int .i64 40]) ∧ Below w.heap.size w w' := by
  refine (aParseP_any l w hg hl).mono ?_
  rintro e w' ⟨hb, h2⟩
  rcases h2 with ⟨s', xs', n, h3, _⟩ | ⟨h3, rfl⟩
  · rw [h] at h3; cases h3
  · exact ⟨rfl, hb⟩
theorem ld16g {ops : Array Oper} {rest : List Oper} {op : Oper} {a : Act} {w : World} {Q : Exit → Act → World → Prop} (x : Operand) (ho : op.op = .load 22 x) (hw : Region.wanted op (yielded ops a.tmps) = true) (b off : Nat) (hx : a.eval x = .pointer (some ⟨b, off, none⟩)) (xs : List Int) (hl : xs.length = 16) (hc : w.rangeAt b off (bv xs))
    (h : wpList Tryd.prog ops Q rest (a.put op.dst (.agg (bv xs).toArray)) w) : wpList Tryd.prog ops Q (op :: rest) a w :=
  wpList_step fun K hK => by rw [if_pos hw]; exact wp_load_mid _ x ho b off hx (bv xs) _ hc Tryd.underlying22 rfl (by rw [bv_length, hl]; exact inf16) (hK _ _ h)
set_option maxRecDepth 100000 in
set_option maxHeartbeats 4000000 in
theorem l4works_any (w : World) (hg : Gl w) : Calls Tryd.prog 6 #[] w fun e w' => e = .returned (.bool true) ∧ Below w.heap.size w w' := by
  have HG := Lib.hid hg
  clear hg
  go_enter Tryd.func6, Tryd.ntmps6
  have HB0 : Hid (Below w.heap.size w w) := Below.refl _ _
  go_wp2_with fail
  refine (par_yes wk1 _ (HG.out.below HB0.out) (by decide)).mono ?_
  rintro e v1 ⟨rfl, hb⟩
  have HC1 := Lib.hid (HB0.out.trans (hb.mono HB0.out.size))
  clear hb
  go_wp2_with (refine stNA (fun w' => World.rangeAt w' v1.heap.size 0 (adl false X1) ∧ Below v1.heap.size v1 w') (.tmp 1) (.tmp 15) rfl rfl v1.heap.size 0 false X1 rfl rfl rfl (there_new _ _ _ _ rfl _ rfl) (fresh_a v1 _ rfl false X1 rfl) ?_; rintro u1 ⟨hr, hb⟩)
  have HR1 := Lib.hid hr
  have HB1 := Lib.hid (HC1.out.trans (hb.mono HC1.out.size))
  clear hb hr
  refine (par_yes wk2 _ (HG.out.below HB1.out) (by decide)).mono ?_
  rintro e v2 ⟨rfl, hb⟩
  have HC2 := Lib.hid (HB1.out.trans (hb.mono HB1.out.size))
  have HR1 := Lib.hid (range_kept hb HR1.out)
  clear hb
  go_wp2_with (refine stNA (fun w' => World.rangeAt w' v2.heap.size 0 (adl true X2) ∧ Below v2.heap.size v2 w') (.tmp 3) (.tmp 19) rfl rfl v2.heap.size 0 true X2 rfl rfl rfl (there_new _ _ _ _ rfl _ rfl) (fresh_a v2 _ rfl true X2 rfl) ?_; rintro u2 ⟨hr, hb⟩)
  have HR2 := Lib.hid hr
  have HR1 := Lib.hid (range_kept hb HR1.out)
  have HB2 := Lib.hid (HC2.out.trans (hb.mono HC2.out.size))
  clear hb hr
  refine (par_yes wk3 _ (HG.out.below HB2.out) (by decide)).mono ?_
  rintro e v3 ⟨rfl, hb⟩
  have HC3 := Lib.hid (HB2.out.trans (hb.mono HB2.out.size))
  have HR1 := Lib.hid (range_kept hb HR1.out)
  have HR2 := Lib.hid (range_kept hb HR2.out)
  clear hb
  go_wp2_with (refine stNA (fun w' => World.rangeAt w' v3.heap.size 0 (adl true X3) ∧ Below v3.heap.size v3 w') (.tmp 5) (.tmp 23) rfl rfl v3.heap.size 0 true X3 rfl rfl rfl (there_new _ _ _ _ rfl _ rfl) (fresh_a v3 _ rfl true X3 rfl) ?_; rintro u3 ⟨hr, hb⟩)
  have HR3 := Lib.hid hr
  have HR1 := Lib.hid (range_kept hb HR1.out)
  have HR2 := Lib.hid (range_kept hb HR2.out)
  have HB3 := Lib.hid (HC3.out.trans (hb.mono HC3.out.size))
  clear hb hr
  refine (par_no wk4 _ (HG.out.below HB3.out) (by decide)).mono ?_
  rintro e v4 ⟨rfl, hb⟩
  have HC4 := Lib.hid (HB3.out.trans (hb.mono HB3.out.size))
  have HR1 := Lib.hid (range_kept hb HR1.out)
  have HR2 := Lib.hid (range_kept hb HR2.out)
  have HR3 := Lib.hid (range_kept hb HR3.out)
  clear hb
  go_wp2_with (refine stNA (fun w' => World.rangeAt w' v4.heap.size 0 (adl false (zs 16)) ∧ Below v4.heap.size v4 w') (.tmp 7) (.tmp 27) rfl rfl v4.heap.size 0 false (zs 16) rfl rfl rfl (there_new _ _ _ _ rfl _ rfl) (fresh_a v4 _ rfl false (zs 16) rfl) ?_; rintro u4 ⟨hr, hb⟩)
  have HR4 := Lib.hid hr
  have HR1 := Lib.hid (range_kept hb HR1.out)
  have HR2 := Lib.hid (range_kept hb HR2.out)
  have HR3 := Lib.hid (range_kept hb HR3.out)
  have HB4 := Lib.hid (HC4.out.trans (hb.mono HC4.out.size))
  clear hb hr
  refine (par_no wk5 _ (HG.out.below HB4.out) (by decide)).mono ?_
  rintro e v5 ⟨rfl, hb⟩
  have HC5 := Lib.hid (HB4.out.trans (hb.mono HB4.out.size))
  have HR1 := Lib.hid (range_kept hb HR1.out)
  have HR2 := Lib.hid (range_kept hb HR2.out)
  have HR3 := Lib.hid (range_kept hb HR3.out)
  clear hb
  go_wp2_with (refine stNA (fun w' => World.rangeAt w' v5.heap.size 0 (adl false (zs 16)) ∧ Below v5.heap.size v5 w') (.tmp 9) (.tmp 31) rfl rfl v5.heap.size 0 false (zs 16) rfl rfl rfl (there_new _ _ _ _ rfl _ rfl) (fresh_a v5 _ rfl false (zs 16) rfl) ?_; rintro u5 ⟨hr, hb⟩)
  have HR5 := Lib.hid hr
  have HR1 := Lib.hid (range_kept hb HR1.out)
  have HR2 := Lib.hid (range_kept hb HR2.out)
  have HR3 := Lib.hid (range_kept hb HR3.out)
  have HB5 := Lib.hid (HC5.out.trans (hb.mono HC5.out.size))
  clear hb hr
  refine (pp_no2 wk6 _ (HG.out.below HB5.out) (by decide)).mono ?_
  rintro e v6 ⟨rfl, hb⟩
  have HC6 := Lib.hid (HB5.out.trans (hb.mono HB5.out.size))
  have HR1 := Lib.hid (range_kept hb HR1.out)
  have HR2 := Lib.hid (range_kept hb HR2.out)
  have HR3 := Lib.hid (range_kept hb HR3.out)
  clear hb
  have l3 : ∀ w', (Op.equalIn 10000 22 (.agg (bv X1).toArray) (.agg #[.int .u8 10, .int .u8 0, .int .u8 0, .int .u8 255, .int .u8 0, .int .u8 0, .int .u8 0, .int .u8 0, .int .u8 0, .int .u8 0, .int .u8 0, .int .u8 0, .int .u8 0, .int .u8 0, .int .u8 0, .int .u8 0])).run Tryd.prog w' = .ok true w' := fun w' => eqArr w' 9998 X1 X1 rfl rfl
  have l4 : ∀ w', (Op.equalIn 10000 24 (.agg (adl true X3).toArray) (.agg #[.bool true, .int .u8 0, .int .u8 1, .int .u8 0, .int .u8 0, .int .u8 0, .int .u8 0, .int .u8 0, .int .u8 0, .int .u8 0, .int .u8 0, .int .u8 0, .int .u8 0, .int .u8 0, .int .u8 0, .int .u8 0, .int .u8 0])).run Tryd.prog w' = .ok true w' := fun w' => eqA w' 9997 true true X3 X3 rfl rfl
  go_wp2_with (first
    | (refine stNP (fun w' => Below v6.heap.size v6 w') (.tmp 11) (.tmp 35) rfl rfl v6.heap.size 0 false (zs 16) 0 rfl rfl rfl (there_new _ _ _ _ rfl _ rfl) (fresh_p v6 _ rfl false (zs 16) 0 rfl).2 ?_; rintro u6 hb)
    | (refine ld16g (.tmp 40) rfl (by rfl) v1.heap.size 1 rfl X1 rfl (by with_reducible exact adl_bytes (range_kept hb HR1.out)) ?_)
    | (refine ldAg (.tmp 3) rfl (by rfl) v2.heap.size 0 rfl true X2 rfl (by with_reducible exact range_kept hb HR2.out) ?_))
  have HB6 := Lib.hid (HC6.out.trans (hb.mono HC6.out.size))
  have HR6 := Lib.hid (range_kept hb HR3.out)
  clear hb
  refine (aText_any true X2 _ (HG.out.below HB6.out) rfl bytX2).mono ?_
  rintro e x7 ⟨rfl, hb⟩
  have HB7 := Lib.hid (HB6.out.trans (hb.mono HB6.out.size))
  have HR7 := Lib.hid (range_kept hb HR6.out)
  rw [wk7]
  clear hb
  go_wp2_with (refine ldAg (.tmp 5) rfl (by rfl) v3.heap.size 0 rfl true X3 rfl (by with_reducible exact HR7.out) ?_)
  go_ret
  exact ⟨rfl, HB7.out⟩
end Go.Proofs.YtbnfmiopgjmppaaDoor

/-
  The contracts of parts, and of the two functions that are handed to first, of package rule. Conditions: rules and keys whose numbers fit their Go types. (Made by gen_rufirst.py.)
-/
import Derived.Test.YtgnhbhgpkihpmaaRuParts
import Derived.Great.BuildSlice
namespace Go.Proofs.Ytgnhbhgpkihpmaa
open Go.RowKit

theorem builtPt0 : Try.prog.built 68 [(0, fnv 26), (1, fnv 28), (2, fnv 29), (3, fnv 31)] = some (pt 0).toArray := by kernel_rfl
theorem builtPt1 : Try.prog.built 68 [(0, fnv 32), (1, fnv 33), (2, fnv 34), (3, fnv 35)] = some (pt 1).toArray := by kernel_rfl
theorem builtPt2 : Try.prog.built 68 [(0, fnv 36), (1, fnv 38), (2, fnv 39), (3, fnv 41)] = some (pt 2).toArray := by kernel_rfl
theorem builtPt3 : Try.prog.built 68 [(0, fnv 43), (1, fnv 44), (2, fnv 45), (3, fnv 46)] = some (pt 3).toArray := by kernel_rfl
theorem builtPt4 : Try.prog.built 68 [(0, fnv 47), (1, fnv 48), (2, fnv 49), (3, fnv 52)] = some (pt 4).toArray := by kernel_rfl
theorem builtPt5 : Try.prog.built 68 [(0, fnv 53), (1, fnv 54), (2, fnv 55), (3, fnv 56)] = some (pt 5).toArray := by kernel_rfl
def pts : List Value := pt 0 ++ (pt 1 ++ (pt 2 ++ (pt 3 ++ (pt 4 ++ pt 5))))
theorem infPtZ : (Try.prog.info? 68).map (fun i => (i.zero, i.size)) = some (some (.agg #[.nilFunc, .nilFunc, .nilFunc, .nilFunc]), 4) := by kernel_rfl
/-- The row of parts lies there. -/
def Pts (w : World) (g : Nat) : Prop := w.rangeAt g 0 pts
theorem Pts.at_ {w : World} {g : Nat} (h : Pts w g) : ∀ j, j < 6 → w.rangeAt g (0 + j * 4) (pt j)
  | 0, _ => range_head h
  | 1, _ => range_mid h rfl
  | 2, _ => range_mid (xs := pt 0 ++ pt 1) (ys := pt 2) (zs := pt 3 ++ (pt 4 ++ pt 5)) h rfl
  | 3, _ => range_mid (xs := pt 0 ++ (pt 1 ++ pt 2)) (ys := pt 3) (zs := pt 4 ++ pt 5) h rfl
  | 4, _ => range_mid (xs := pt 0 ++ (pt 1 ++ (pt 2 ++ pt 3))) (ys := pt 4) (zs := pt 5) h rfl
  | 5, _ => range_end (xs := pt 0 ++ (pt 1 ++ (pt 2 ++ (pt 3 ++ pt 4)))) (ys := pt 5) h rfl
set_option maxRecDepth 100000 in
set_option maxHeartbeats 1000000 in
theorem parts_any (w : World) : Calls Try.prog 22 #[] w fun e w' => ∃ g, e = .returned (.slice (some ⟨g, 0, none⟩) 6 6) ∧ Pts w' g ∧ Below w.heap.size w w' := by
  obtain ⟨ie, hie, hz⟩ : ∃ ie, Try.prog.info? 68 = some ie ∧ (ie.zero, ie.size) = (some (.agg #[.nilFunc, .nilFunc, .nilFunc, .nilFunc]), 4) := by
    have := infPtZ
    cases hq : Try.prog.info? 68 with
    | none => simp [hq] at this
    | some i => exact ⟨i, rfl, by simpa [hq] using this⟩
  simp only [Prod.mk.injEq] at hz
  obtain ⟨hz0, hz1⟩ := hz
  have HB := Lib.hid ((Below.refl w.heap.size w).alloc (Nat.le_refl _) (.cells pts.toArray 68))
  have HP : Hid (Pts (w.alloc (.cells pts.toArray 68)) w.heap.size) := range_new w pts _
  go_enter Try.func22, Try.ntmps22
  go_wp2_with (first
    | (refine wpList_build_run (cells := (pt 0).toArray) rfl 68 #[(0, .func 26), (1, .func 28), (2, .func 29), (3, .func 31)] rfl ?_ ?_; · exact builtPt0)
    | (refine wpList_build_run (cells := (pt 1).toArray) rfl 68 #[(0, .func 32), (1, .func 33), (2, .func 34), (3, .func 35)] rfl ?_ ?_; · exact builtPt1)
    | (refine wpList_build_run (cells := (pt 2).toArray) rfl 68 #[(0, .func 36), (1, .func 38), (2, .func 39), (3, .func 41)] rfl ?_ ?_; · exact builtPt2)
    | (refine wpList_build_run (cells := (pt 3).toArray) rfl 68 #[(0, .func 43), (1, .func 44), (2, .func 45), (3, .func 46)] rfl ?_ ?_; · exact builtPt3)
    | (refine wpList_build_run (cells := (pt 4).toArray) rfl 68 #[(0, .func 47), (1, .func 48), (2, .func 49), (3, .func 52)] rfl ?_ ?_; · exact builtPt4)
    | (refine wpList_build_run (cells := (pt 5).toArray) rfl 68 #[(0, .func 53), (1, .func 54), (2, .func 55), (3, .func 56)] rfl ?_ ?_; · exact builtPt5)
    | (refine wpList_buildSlice rfl 64 68 6 _ rfl pts.toArray ie _ Try.underlying64 hie hz0 (by rw [hz1]; decide) (by rw [hz1]; decide) ?_ ?_; · rw [hz1]; kernel_rfl))
  go_ret
  exact ⟨_, rfl, HP.out, HB.out⟩

set_option maxRecDepth 100000 in
set_option maxHeartbeats 1000000 in
theorem fitF0 (r : Rl) (k : Ky) (g : Nat) (w : World) (hr : r.ok) (hk : k.ok) (hc : w.rangeAt g 0 k.cs) : Calls Try.prog 25 #[.agg (pt 0).toArray, .agg r.cs.toArray, .pointer (some ⟨g, 0, none⟩)] w (Gives w (.bool (mts 0 r k))) := by
  have hb : Below w.heap.size w ((w.alloc (.cells (pt 0).toArray 68)).alloc (.cells r.cs.toArray 43)) := ((Below.refl w.heap.size w).alloc (Nat.le_refl _) _).alloc (by simp) _
  have H1 : Hid (((w.alloc (.cells (pt 0).toArray 68)).alloc (.cells r.cs.toArray 43)).rangeAt (w.heap.size + 1) 0 r.cs) := by
    have := range_new (w.alloc (.cells (pt 0).toArray 68)) r.cs 43
    show World.rangeAt _ _ _ _
    simpa using this
  have hf : ((w.alloc (.cells (pt 0).toArray 68)).alloc (.cells r.cs.toArray 43)).cell? ⟨w.heap.size, 2, none⟩ = some (fnv 29) := by
    have := World.rangeAt_alloc (range_new w (pt 0) 68) (.cells r.cs.toArray 43) 2 _ rfl
    simpa using this
  have H2 := Lib.hid (range_kept hb hc)
  have HB := Lib.hid hb
  have HR := Lib.hid hr
  have HK := Lib.hid hk
  unfold fnv at hf
  clear hr hk hb hc
  go_enter Try.func25, Try.ntmps25
  go_wp2_with (first
    | (refine ldU _ rfl rfl _ _ rfl r HR.out H1.out ?_)
    | (refine ldK _ rfl rfl _ _ rfl k HK.out H2.out ?_))
  refine (mts0_any r k _ HR.out HK.out).mono ?_
  rintro e w1 ⟨rfl, hb1⟩
  have HB1 := Lib.hid (HB.out.trans (hb1.mono HB.out.size))
  clear hb1
  go_wp2_with fail
  go_ret
  exact ⟨rfl, HB1.out⟩
set_option maxRecDepth 100000 in
set_option maxHeartbeats 1000000 in
theorem fitF1 (r : Rl) (k : Ky) (g : Nat) (w : World) (hr : r.ok) (hk : k.ok) (hc : w.rangeAt g 0 k.cs) : Calls Try.prog 25 #[.agg (pt 1).toArray, .agg r.cs.toArray, .pointer (some ⟨g, 0, none⟩)] w (Gives w (.bool (mts 1 r k))) := by
  have hb : Below w.heap.size w ((w.alloc (.cells (pt 1).toArray 68)).alloc (.cells r.cs.toArray 43)) := ((Below.refl w.heap.size w).alloc (Nat.le_refl _) _).alloc (by simp) _
  have H1 : Hid (((w.alloc (.cells (pt 1).toArray 68)).alloc (.cells r.cs.toArray 43)).rangeAt (w.heap.size + 1) 0 r.cs) := by
    have := range_new (w.alloc (.cells (pt 1).toArray 68)) r.cs 43
    show World.rangeAt _ _ _ _
    simpa using this
  have hf : ((w.alloc (.cells (pt 1).toArray 68)).alloc (.cells r.cs.toArray 43)).cell? ⟨w.heap.size, 2, none⟩ = some (fnv 34) := by
    have := World.rangeAt_alloc (range_new w (pt 1) 68) (.cells r.cs.toArray 43) 2 _ rfl
    simpa using this
  have H2 := Lib.hid (range_kept hb hc)
  have HB := Lib.hid hb
  have HR := Lib.hid hr
  have HK := Lib.hid hk
  unfold fnv at hf
  clear hr hk hb hc
  go_enter Try.func25, Try.ntmps25
  go_wp2_with (first
    | (refine ldU _ rfl rfl _ _ rfl r HR.out H1.out ?_)
    | (refine ldK _ rfl rfl _ _ rfl k HK.out H2.out ?_))
  refine (mts1_any r k _ HR.out HK.out).mono ?_
  rintro e w1 ⟨rfl, hb1⟩
  have HB1 := Lib.hid (HB.out.trans (hb1.mono HB.out.size))
  clear hb1
  go_wp2_with fail
  go_ret
  exact ⟨rfl, HB1.out⟩
set_option maxRecDepth 100000 in
set_option maxHeartbeats 1000000 in
theorem fitF2 (r : Rl) (k : Ky) (g : Nat) (w : World) (hr : r.ok) (hk : k.ok) (hc : w.rangeAt g 0 k.cs) : Calls Try.prog 25 #[.agg (pt 2).toArray, .agg r.cs.toArray, .pointer (some ⟨g, 0, none⟩)] w (Gives w (.bool (mts 2 r k))) := by
  have hb : Below w.heap.size w ((w.alloc (.cells (pt 2).toArray 68)).alloc (.cells r.cs.toArray 43)) := ((Below.refl w.heap.size w).alloc (Nat.le_refl _) _).alloc (by simp) _
  have H1 : Hid (((w.alloc (.cells (pt 2).toArray 68)).alloc (.cells r.cs.toArray 43)).rangeAt (w.heap.size + 1) 0 r.cs) := by
    have := range_new (w.alloc (.cells (pt 2).toArray 68)) r.cs 43
    show World.rangeAt _ _ _ _
    simpa using this
  have hf : ((w.alloc (.cells (pt 2).toArray 68)).alloc (.cells r.cs.toArray 43)).cell? ⟨w.heap.size, 2, none⟩ = some (fnv 39) := by
    have := World.rangeAt_alloc (range_new w (pt 2) 68) (.cells r.cs.toArray 43) 2 _ rfl
    simpa using this
  have H2 := Lib.hid (range_kept hb hc)
  have HB := Lib.hid hb
  have HR := Lib.hid hr
  have HK := Lib.hid hk
  unfold fnv at hf
  clear hr hk hb hc
  go_enter Try.func25, Try.ntmps25
  go_wp2_with (first
    | (refine ldU _ rfl rfl _ _ rfl r HR.out H1.out ?_)
    | (refine ldK _ rfl rfl _ _ rfl k HK.out H2.out ?_))
  refine (mts2_any r k _ HR.out HK.out).mono ?_
  rintro e w1 ⟨rfl, hb1⟩
  have HB1 := Lib.hid (HB.out.trans (hb1.mono HB.out.size))
  clear hb1
  go_wp2_with fail
  go_ret
  exact ⟨rfl, HB1.out⟩
set_option maxRecDepth 100000 in
set_option maxHeartbeats 1000000 in
theorem fitF3 (r : Rl) (k : Ky) (g : Nat) (w : World) (hr : r.ok) (hk : k.ok) (hc : w.rangeAt g 0 k.cs) : Calls Try.prog 25 #[.agg (pt 3).toArray, .agg r.cs.toArray, .pointer (some ⟨g, 0, none⟩)] w (Gives w (.bool (mts 3 r k))) := by
  have hb : Below w.heap.size w ((w.alloc (.cells (pt 3).toArray 68)).alloc (.cells r.cs.toArray 43)) := ((Below.refl w.heap.size w).alloc (Nat.le_refl _) _).alloc (by simp) _
  have H1 : Hid (((w.alloc (.cells (pt 3).toArray 68)).alloc (.cells r.cs.toArray 43)).rangeAt (w.heap.size + 1) 0 r.cs) := by
    have := range_new (w.alloc (.cells (pt 3).toArray 68)) r.cs 43
    show World.rangeAt _ _ _ _
    simpa using this
  have hf : ((w.alloc (.cells (pt 3).toArray 68)).alloc (.cells r.cs.toArray 43)).cell? ⟨w.heap.size, 2, none⟩ = some (fnv 45) := by
    have := World.rangeAt_alloc (range_new w (pt 3) 68) (.cells r.cs.toArray 43) 2 _ rfl
    simpa using this
  have H2 := Lib.hid (range_kept hb hc)
  have HB := Lib.hid hb
  have HR := Lib.hid hr
  have HK := Lib.hid hk
  unfold fnv at hf
  clear hr hk hb hc
  go_enter Try.func25, Try.ntmps25
  go_wp2_with (first
    | (refine ldU _ rfl rfl _ _ rfl r HR.out H1.out ?_)
    | (refine ldK _ rfl rfl _ _ rfl k HK.out H2.out ?_))
  refine (mts3_any r k _ HR.out HK.out).mono ?_
  rintro e w1 ⟨rfl, hb1⟩
  have HB1 := Lib.hid (HB.out.trans (hb1.mono HB.out.size))
  clear hb1
  go_wp2_with fail
  go_ret
  exact ⟨rfl, HB1.out⟩
set_option maxRecDepth 100000 in
set_option maxHeartbeats 1000000 in
theorem fitF4 (r : Rl) (k : Ky) (g : Nat) (w : World) (hr : r.ok) (hk : k.ok) (hc : w.rangeAt g 0 k.cs) : Calls Try.prog 25 #[.agg (pt 4).toArray, .agg r.cs.toArray, .pointer (some ⟨g, 0, none⟩)] w (Gives w (.bool (mts 4 r k))) := by
  have hb : Below w.heap.size w ((w.alloc (.cells (pt 4).toArray 68)).alloc (.cells r.cs.toArray 43)) := ((Below.refl w.heap.size w).alloc (Nat.le_refl _) _).alloc (by simp) _
  have H1 : Hid (((w.alloc (.cells (pt 4).toArray 68)).alloc (.cells r.cs.toArray 43)).rangeAt (w.heap.size + 1) 0 r.cs) := by
    have := range_new (w.alloc (.cells (pt 4).toArray 68)) r.cs 43
    show World.rangeAt _ _ _ _
    simpa using this
  have hf : ((w.alloc (.cells (pt 4).toArray 68)).alloc (.cells r.cs.toArray 43)).cell? ⟨w.heap.size, 2, none⟩ = some (fnv 49) := by
    have := World.rangeAt_alloc (range_new w (pt 4) 68) (.cells r.cs.toArray 43) 2 _ rfl
    simpa using this
  have H2 := Lib.hid (range_kept hb hc)
  have HB := Lib.hid hb
  have HR := Lib.hid hr
  have HK := Lib.hid hk
  unfold fnv at hf
  clear hr hk hb hc
  go_enter Try.func25, Try.ntmps25
  go_wp2_with (first
    | (refine ldU _ rfl rfl _ _ rfl r HR.out H1.out ?_)
    | (refine ldK _ rfl rfl _ _ rfl k HK.out H2.out ?_))
  refine (mts4_any r k _ HR.out HK.out).mono ?_
  rintro e w1 ⟨rfl, hb1⟩
  have HB1 := Lib.hid (HB.out.trans (hb1.mono HB.out.size))
  clear hb1
  go_wp2_with fail
  go_ret
  exact ⟨rfl, HB1.out⟩
set_option maxRecDepth 100000 in
set_option maxHeartbeats 1000000 in
theorem fitF5 (r : Rl) (k : Ky) (g : Nat) (w : World) (hr : r.ok) (hk : k.ok) (hc : w.rangeAt g 0 k.cs) : Calls Try.prog 25 #[.agg (pt 5).toArray, .agg r.cs.toArray, .pointer (some ⟨g, 0, none⟩)] w (Gives w (.bool (mts 5 r k))) := by
  have hb : Below w.heap.size w ((w.alloc (.cells (pt 5).toArray 68)).alloc (.cells r.cs.toArray 43)) := ((Below.refl w.heap.size w).alloc (Nat.le_refl _) _).alloc (by simp) _
  have H1 : Hid (((w.alloc (.cells (pt 5).toArray 68)).alloc (.cells r.cs.toArray 43)).rangeAt (w.heap.size + 1) 0 r.cs) := by
    have := range_new (w.alloc (.cells (pt 5).toArray 68)) r.cs 43
    show World.rangeAt _ _ _ _
    simpa using this
  have hf : ((w.alloc (.cells (pt 5).toArray 68)).alloc (.cells r.cs.toArray 43)).cell? ⟨w.heap.size, 2, none⟩ = some (fnv 55) := by
    have := World.rangeAt_alloc (range_new w (pt 5) 68) (.cells r.cs.toArray 43) 2 _ rfl
    simpa using this
  have H2 := Lib.hid (range_kept hb hc)
  have HB := Lib.hid hb
  have HR := Lib.hid hr
  have HK := Lib.hid hk
  unfold fnv at hf
  clear hr hk hb hc
  go_enter Try.func25, Try.ntmps25
  go_wp2_with (first
    | (refine ldU _ rfl rfl _ _ rfl r HR.out H1.out ?_)
    | (refine ldK _ rfl rfl _ _ rfl k HK.out H2.out ?_))
  refine (mts5_any r k _ HR.out HK.out).mono ?_
  rintro e w1 ⟨rfl, hb1⟩
  have HB1 := Lib.hid (HB.out.trans (hb1.mono HB.out.size))
  clear hb1
  go_wp2_with fail
  go_ret
  exact ⟨rfl, HB1.out⟩
set_option maxRecDepth 100000 in
set_option maxHeartbeats 1000000 in
theorem holdF0 (r k : Rl) (g : Nat) (w : World) (hr : r.ok) (hk : k.ok) (hc : w.rangeAt g 0 k.cs) : Calls Try.prog 24 #[.agg (pt 0).toArray, .agg r.cs.toArray, .pointer (some ⟨g, 0, none⟩)] w (Gives w (.bool (hld 0 r k))) := by
  have hb : Below w.heap.size w ((w.alloc (.cells (pt 0).toArray 68)).alloc (.cells r.cs.toArray 43)) := ((Below.refl w.heap.size w).alloc (Nat.le_refl _) _).alloc (by simp) _
  have H1 : Hid (((w.alloc (.cells (pt 0).toArray 68)).alloc (.cells r.cs.toArray 43)).rangeAt (w.heap.size + 1) 0 r.cs) := by
    have := range_new (w.alloc (.cells (pt 0).toArray 68)) r.cs 43
    show World.rangeAt _ _ _ _
    simpa using this
  have hf : ((w.alloc (.cells (pt 0).toArray 68)).alloc (.cells r.cs.toArray 43)).cell? ⟨w.heap.size, 3, none⟩ = some (fnv 31) := by
    have := World.rangeAt_alloc (range_new w (pt 0) 68) (.cells r.cs.toArray 43) 3 _ rfl
    simpa using this
  have H2 := Lib.hid (range_kept hb hc)
  have HB := Lib.hid hb
  have HR := Lib.hid hr
  have HK := Lib.hid hk
  unfold fnv at hf
  clear hr hk hb hc
  go_enter Try.func24, Try.ntmps24
  go_wp2_with (first
    | (refine ldU _ rfl rfl _ _ rfl r HR.out H1.out ?_)
    | (refine ldU _ rfl rfl _ _ rfl k HK.out H2.out ?_))
  refine (hld0_any r k _ HR.out HK.out).mono ?_
  rintro e w1 ⟨rfl, hb1⟩
  have HB1 := Lib.hid (HB.out.trans (hb1.mono HB.out.size))
  clear hb1
  go_wp2_with fail
  go_ret
  exact ⟨rfl, HB1.out⟩
set_option maxRecDepth 100000 in
set_option maxHeartbeats 1000000 in
theorem holdF1 (r k : Rl) (g : Nat) (w : World) (hr : r.ok) (hk : k.ok) (hc : w.rangeAt g 0 k.cs) : Calls Try.prog 24 #[.agg (pt 1).toArray, .agg r.cs.toArray, .pointer (some ⟨g, 0, none⟩)] w (Gives w (.bool (hld 1 r k))) := by
  have hb : Below w.heap.size w ((w.alloc (.cells (pt 1).toArray 68)).alloc (.cells r.cs.toArray 43)) := ((Below.refl w.heap.size w).alloc (Nat.le_refl _) _).alloc (by simp) _
  have H1 : Hid (((w.alloc (.cells (pt 1).toArray 68)).alloc (.cells r.cs.toArray 43)).rangeAt (w.heap.size + 1) 0 r.cs) := by
    have := range_new (w.alloc (.cells (pt 1).toArray 68)) r.cs 43
    show World.rangeAt _ _ _ _
    simpa using this
  have hf : ((w.alloc (.cells (pt 1).toArray 68)).alloc (.cells r.cs.toArray 43)).cell? ⟨w.heap.size, 3, none⟩ = some (fnv 35) := by
    have := World.rangeAt_alloc (range_new w (pt 1) 68) (.cells r.cs.toArray 43) 3 _ rfl
    simpa using this
  have H2 := Lib.hid (range_kept hb hc)
  have HB := Lib.hid hb
  have HR := Lib.hid hr
  have HK := Lib.hid hk
  unfold fnv at hf
  clear hr hk hb hc
  go_enter Try.func24, Try.ntmps24
  go_wp2_with (first
    | (refine ldU _ rfl rfl _ _ rfl r HR.out H1.out ?_)
    | (refine ldU _ rfl rfl _ _ rfl k HK.out H2.out ?_))
  refine (hld1_any r k _ HR.out HK.out).mono ?_
  rintro e w1 ⟨rfl, hb1⟩
  have HB1 := Lib.hid (HB.out.trans (hb1.mono HB.out.size))
  clear hb1
  go_wp2_with fail
  go_ret
  exact ⟨rfl, HB1.out⟩
set_option maxRecDepth 100000 in
set_option maxHeartbeats 1000000 in
theorem holdF2 (r k : Rl) (g : Nat) (w : World) (hr : r.ok) (hk : k.ok) (hc : w.rangeAt g 0 k.cs) : Calls Try.prog 24 #[.agg (pt 2).toArray, .agg r.cs.toArray, .pointer (some ⟨g, 0, none⟩)] w (Gives w (.bool (hld 2 r k))) := by
  have hb : Below w.heap.size w ((w.alloc (.cells (pt 2).toArray 68)).alloc (.cells r.cs.toArray 43)) := ((Below.refl w.heap.size w).alloc (Nat.le_refl _) _).alloc (by simp) _
  have H1 : Hid (((w.alloc (.cells (pt 2).toArray 68)).alloc (.cells r.cs.toArray 43)).rangeAt (w.heap.size + 1) 0 r.cs) := by
    have := range_new (w.alloc (.cells (pt 2).toArray 68)) r.cs 43
    show World.rangeAt _ _ _ _
    simpa using this
  have hf : ((w.alloc (.cells (pt 2).toArray 68)).alloc (.cells r.cs.toArray 43)).cell? ⟨w.heap.size, 3, none⟩ = some (fnv 41) := by
    have := World.rangeAt_alloc (range_new w (pt 2) 68) (.cells r.cs.toArray 43) 3 _ rfl
    simpa using this
  have H2 := Lib.hid (range_kept hb hc)
  have HB := Lib.hid hb
  have HR := Lib.hid hr
  have HK := Lib.hid hk
  unfold fnv at hf
  clear hr hk hb hc
  go_enter Try.func24, Try.ntmps24
  go_wp2_with (first
    | (refine ldU _ rfl rfl _ _ rfl r HR.out H1.out ?_)
    | (refine ldU _ rfl rfl _ _ rfl k HK.out H2.out ?_))
  refine (hld2_any r k _ HR.out HK.out).mono ?_
  rintro e w1 ⟨rfl, hb1⟩
  have HB1 := Lib.hid (HB.out.trans (hb1.mono HB.out.size))
  clear hb1
  go_wp2_with fail
  go_ret
  exact ⟨rfl, HB1.out⟩
set_option maxRecDepth 100000 in
set_option maxHeartbeats 1000000 in
theorem holdF3 (r k : Rl) (g : Nat) (w : World) (hr : r.ok) (hk : k.ok) (hc : w.rangeAt g 0 k.cs) : Calls Try.prog 24 #[.agg (pt 3).toArray, .agg r.cs.toArray, .pointer (some ⟨g, 0, none⟩)] w (Gives w (.bool (hld 3 r k))) := by
  have hb : Below w.heap.size w ((w.alloc (.cells (pt 3).toArray 68)).alloc (.cells r.cs.toArray 43)) := ((Below.refl w.heap.size w).alloc (Nat.le_refl _) _).alloc (by simp) _
  have H1 : Hid (((w.alloc (.cells (pt 3).toArray 68)).alloc (.cells r.cs.toArray 43)).rangeAt (w.heap.size + 1) 0 r.cs) := by
    have := range_new (w.alloc (.cells (pt 3).toArray 68)) r.cs 43
    show World.rangeAt _ _ _ _
    simpa using this
  have hf : ((w.alloc (.cells (pt 3).toArray 68)).alloc (.cells r.cs.toArray 43)).cell? ⟨w.heap.size, 3, none⟩ = some (fnv 46) := by
    have := World.rangeAt_alloc (range_new w (pt 3) 68) (.cells r.cs.toArray 43) 3 _ rfl
    simpa using this
  have H2 := Lib.hid (range_kept hb hc)
  have HB := Lib.hid hb
  have HR := Lib.hid hr
  have HK := Lib.hid hk
  unfold fnv at hf
  clear hr hk hb hc
  go_enter Try.func24, Try.ntmps24
  go_wp2_with (first
    | (refine ldU _ rfl rfl _ _ rfl r HR.out H1.out ?_)
    | (refine ldU _ rfl rfl _ _ rfl k HK.out H2.out ?_))
  refine (hld3_any r k _ HR.out HK.out).mono ?_
  rintro e w1 ⟨rfl, hb1⟩
  have HB1 := Lib.hid (HB.out.trans (hb1.mono HB.out.size))
  clear hb1
  go_wp2_with fail
  go_ret
  exact ⟨rfl, HB1.out⟩
set_option maxRecDepth 100000 in
set_option maxHeartbeats 1000000 in
theorem holdF4 (r k : Rl) (g : Nat) (w : World) (hr : r.ok) (hk : k.ok) (hc : w.rangeAt g 0 k.cs) : Calls Try.prog 24 #[.agg (pt 4).toArray, .agg r.cs.toArray, .pointer (some ⟨g, 0, none⟩)] w (Gives w (.bool (hld 4 r k))) := by
  have hb : Below w.heap.size w ((w.alloc (.cells (pt 4).toArray 68)).alloc (.cells r.cs.toArray 43)) := ((Below.refl w.heap.size w).alloc (Nat.le_refl _) _).alloc (by simp) _
  have H1 : Hid (((w.alloc (.cells (pt 4).toArray 68)).alloc (.cells r.cs.toArray 43)).rangeAt (w.heap.size + 1) 0 r.cs) := by
    have := range_new (w.alloc (.cells (pt 4).toArray 68)) r.cs 43
    show World.rangeAt _ _ _ _
    simpa using this
  have hf : ((w.alloc (.cells (pt 4).toArray 68)).alloc (.cells r.cs.toArray 43)).cell? ⟨w.heap.size, 3, none⟩ = some (fnv 52) := by
    have := World.rangeAt_alloc (range_new w (pt 4) 68) (.cells r.cs.toArray 43) 3 _ rfl
    simpa using this
  have H2 := Lib.hid (range_kept hb hc)
  have HB := Lib.hid hb
  have HR := Lib.hid hr
  have HK := Lib.hid hk
  unfold fnv at hf
  clear hr hk hb hc
  go_enter Try.func24, Try.ntmps24
  go_wp2_with (first
    | (refine ldU _ rfl rfl _ _ rfl r HR.out H1.out ?_)
    | (refine ldU _ rfl rfl _ _ rfl k HK.out H2.out ?_))
  refine (hld4_any r k _ HR.out HK.out).mono ?_
  rintro e w1 ⟨rfl, hb1⟩
  have HB1 := Lib.hid (HB.out.trans (hb1.mono HB.out.size))
  clear hb1
  go_wp2_with fail
  go_ret
  exact ⟨rfl, HB1.out⟩
set_option maxRecDepth 100000 in
set_option maxHeartbeats 1000000 in
theorem holdF5 (r k : Rl) (g : Nat) (w : World) (hr : r.ok) (hk : k.ok) (hc : w.rangeAt g 0 k.cs) : Calls Try.prog 24 #[.agg (pt 5).toArray, .agg r.cs.toArray, .pointer (some ⟨g, 0, none⟩)] w (Gives w (.bool (hld 5 r k))) := by
  have hb : Below w.heap.size w ((w.alloc (.cells (pt 5).toArray 68)).alloc (.cells r.cs.toArray 43)) := ((Below.refl w.heap.size w).alloc (Nat.le_refl _) _).alloc (by simp) _
  have H1 : Hid (((w.alloc (.cells (pt 5).toArray 68)).alloc (.cells r.cs.toArray 43)).rangeAt (w.heap.size + 1) 0 r.cs) := by
    have := range_new (w.alloc (.cells (pt 5).toArray 68)) r.cs 43
    show World.rangeAt _ _ _ _
    simpa using this
  have hf : ((w.alloc (.cells (pt 5).toArray 68)).alloc (.cells r.cs.toArray 43)).cell? ⟨w.heap.size, 3, none⟩ = some (fnv 56) := by
    have := World.rangeAt_alloc (range_new w (pt 5) 68) (.cells r.cs.toArray 43) 3 _ rfl
    simpa using this
  have H2 := Lib.hid (range_kept hb hc)
  have HB := Lib.hid hb
  have HR := Lib.hid hr
  have HK := Lib.hid hk
  unfold fnv at hf
  clear hr hk hb hc
  go_enter Try.func24, Try.ntmps24
  go_wp2_with (first
    | (refine ldU _ rfl rfl _ _ rfl r HR.out H1.out ?_)
    | (refine ldU _ rfl rfl _ _ rfl k HK.out H2.out ?_))
  refine (hld5_any r k _ HR.out HK.out).mono ?_
  rintro e w1 ⟨rfl, hb1⟩
  have HB1 := Lib.hid (HB.out.trans (hb1.mono HB.out.size))
  clear hb1
  go_wp2_with fail
  go_ret
  exact ⟨rfl, HB1.out⟩
theorem fitF_any (k : Ky) (g : Nat) (hk : k.ok) : ∀ (j : Nat) (r : Rl) (w : World), j < 6 → r.ok → w.rangeAt g 0 k.cs → Calls Try.prog 25 #[.agg (pt j).toArray, .agg r.cs.toArray, .pointer (some ⟨g, 0, none⟩)] w (Gives w (.bool (mts j r k))) := fun j r w hj hr hc => by
  match j, hj with
  | 0, _ => exact fitF0 r k g w hr hk hc
  | 1, _ => exact fitF1 r k g w hr hk hc
  | 2, _ => exact fitF2 r k g w hr hk hc
  | 3, _ => exact fitF3 r k g w hr hk hc
  | 4, _ => exact fitF4 r k g w hr hk hc
  | 5, _ => exact fitF5 r k g w hr hk hc
theorem holdF_any (k : Rl) (g : Nat) (hk : k.ok) : ∀ (j : Nat) (r : Rl) (w : World), j < 6 → r.ok → w.rangeAt g 0 k.cs → Calls Try.prog 24 #[.agg (pt j).toArray, .agg r.cs.toArray, .pointer (some ⟨g, 0, none⟩)] w (Gives w (.bool (hld j r k))) := fun j r w hj hr hc => by
  match j, hj with
  | 0, _ => exact holdF0 r k g w hr hk hc
  | 1, _ => exact holdF1 r k g w hr hk hc
  | 2, _ => exact holdF2 r k g w hr hk hc
  | 3, _ => exact holdF3 r k g w hr hk hc
  | 4, _ => exact holdF4 r k g w hr hk hc
  | 5, _ => exact holdF5 r k g w hr hk hc
end Go.Proofs.Ytgnhbhgpkihpmaa

/-
  The contracts of the functions of the row of parts of package rule: what each part asks of a rule, of a key, of another rule. Conditions: rules and keys whose numbers fit their Go types. (Made by gen_ruparts.py.)
-/
import Derived.Test.YtgnhbhgpkihpmaaRuSmall
namespace Go.Proofs.Ytgnhbhgpkihpmaa
open Go.RowKit

/-- May a rule ask so? Part by part. -/
def rt : Nat → Rl → Bool
  | 0, r => isV r.v
  | 1, r => decide (-1 ≤ r.p) && decide (r.p ≤ 255)
  | 2, r => ipx r.s6 r.sx r.sn r.v
  | 3, r => ipx r.d6 r.dx r.dn r.v
  | 4, r => decide (r.sl ≤ r.sh)
  | _, r => decide (r.dl ≤ r.dh)
/-- Does it ask for nothing? -/
def idl : Nat → Rl → Bool
  | 0, r => decide (r.v = 0)
  | 1, r => decide (r.p = -1)
  | 2, r => z18 r.s6 r.sx r.sn
  | 3, r => z18 r.d6 r.dx r.dn
  | 4, r => decide (r.sl = 0 ∧ r.sh = 65535)
  | _, r => decide (r.dl = 0 ∧ r.dh = 65535)
/-- Has a key what it asks for? -/
def mts : Nat → Rl → Ky → Bool
  | 0, r, k => decide (r.v = vr k.s6) && decide (r.v = vr k.d6)
  | 1, r, k => decide (r.p = k.pr)
  | 2, r, k => phs r.s6 r.sx r.sn k.s6 k.sx
  | 3, r, k => phs r.d6 r.dx r.dn k.d6 k.dx
  | 4, r, k => hpB k.pr && hldB r.sl r.sh k.sp k.sp
  | _, r, k => hpB k.pr && hldB r.dl r.dh k.dp k.dp
/-- Has each key that has what the other asks for what this one does? -/
def hld : Nat → Rl → Rl → Bool
  | 0, a, b => decide (a.v = b.v)
  | 1, a, b => decide (a.p = b.p)
  | 2, a, b => wthB b.s6 b.sx b.sn a.s6 a.sx a.sn
  | 3, a, b => wthB b.d6 b.dx b.dn a.d6 a.dx a.dn
  | 4, a, b => hldB a.sl a.sh b.sl b.sh
  | _, a, b => hldB a.dl a.dh b.dl b.dh
def fnv (n : Nat) : Value := .func (.func n) #[] #[]
/-- The row of parts. -/
def pt : Nat → List Value
  | 0 => [fnv 26, fnv 28, fnv 29, fnv 31]
  | 1 => [fnv 32, fnv 33, fnv 34, fnv 35]
  | 2 => [fnv 36, fnv 38, fnv 39, fnv 41]
  | 3 => [fnv 43, fnv 44, fnv 45, fnv 46]
  | 4 => [fnv 47, fnv 48, fnv 49, fnv 52]
  | _ => [fnv 53, fnv 54, fnv 55, fnv 56]
theorem pt_len : ∀ j, (pt j).length = 4
  | 0 => rfl | 1 => rfl | 2 => rfl | 3 => rfl | 4 => rfl | _ + 5 => rfl

set_option maxRecDepth 100000 in
set_option maxHeartbeats 1000000 in
theorem rt0_any (r : Rl) (w : World) (hr : r.ok) : Calls Try.prog 26 #[.agg r.cs.toArray] w (Gives w (.bool (rt 0 r))) := by
  have H1 := Lib.hid (range_new w r.cs 43)
  have HB := Lib.hid ((Below.refl w.heap.size w).alloc (Nat.le_refl _) (.cells r.cs.toArray 43))
  have HR := Lib.hid hr
  have h0 := Rl.rv H1.out
  clear hr
  go_enter Try.func26, Try.ntmps26
  go_wp2_with fail
  refine (isVersion_any r.v _).mono ?_
  rintro e w1 ⟨rfl, hb1⟩
  have HB1 := Lib.hid (HB.out.trans (hb1.mono HB.out.size))
  clear hb1
  go_wp2_with fail
  go_ret
  exact ⟨rfl, HB1.out⟩

set_option maxRecDepth 100000 in
set_option maxHeartbeats 1000000 in
theorem idl0_any (r : Rl) (w : World) (hr : r.ok) : Calls Try.prog 28 #[.agg r.cs.toArray] w (Gives w (.bool (idl 0 r))) := by
  have H1 := Lib.hid (range_new w r.cs 43)
  have HB := Lib.hid ((Below.refl w.heap.size w).alloc (Nat.le_refl _) (.cells r.cs.toArray 43))
  have HR := Lib.hid hr
  have h0 := Rl.rv H1.out
  clear hr
  go_enter Try.func28, Try.ntmps28
  go_wp2_with fail
  go_ret
  exact ⟨rfl, HB.out⟩

set_option maxRecDepth 100000 in
set_option maxHeartbeats 1000000 in
theorem hld0_any (r s : Rl) (w : World) (hr : r.ok) (hs : s.ok) : Calls Try.prog 31 #[.agg r.cs.toArray, .agg s.cs.toArray] w (Gives w (.bool (hld 0 r s))) := by
  have H1 : Hid (((w.alloc (.cells r.cs.toArray 43)).alloc (.cells s.cs.toArray 43)).rangeAt w.heap.size 0 r.cs) := World.rangeAt_alloc (range_new w r.cs 43) _
  have H2 : Hid (((w.alloc (.cells r.cs.toArray 43)).alloc (.cells s.cs.toArray 43)).rangeAt (w.heap.size + 1) 0 s.cs) := by
    have := range_new (w.alloc (.cells r.cs.toArray 43)) s.cs 43
    show World.rangeAt _ _ _ _
    simpa using this
  have HB := Lib.hid (((Below.refl w.heap.size w).alloc (Nat.le_refl _) (.cells r.cs.toArray 43)).alloc (by simp) (.cells s.cs.toArray 43))
  have HR := Lib.hid hr
  have HS := Lib.hid hs
  have h0 := Rl.rv H1.out
  have g0 := Rl.rv H2.out
  clear hr hs
  go_enter Try.func31, Try.ntmps31
  go_wp2_with fail
  go_ret
  exact ⟨rfl, HB.out⟩

set_option maxRecDepth 100000 in
set_option maxHeartbeats 1000000 in
theorem rt1_any (r : Rl) (w : World) (hr : r.ok) : Calls Try.prog 32 #[.agg r.cs.toArray] w (Gives w (.bool (rt 1 r))) := by
  have H1 := Lib.hid (range_new w r.cs 43)
  have HB := Lib.hid ((Below.refl w.heap.size w).alloc (Nat.le_refl _) (.cells r.cs.toArray 43))
  have HR := Lib.hid hr
  have h1 := Rl.rp H1.out
  clear hr
  by_cases q0 : -1 ≤ r.p
  · by_cases q1 : r.p ≤ 255
    · have HQ : Hid (rt 1 r = true) := by show rt 1 r = true; simp [rt, q0, q1]
      go_enter Try.func32, Try.ntmps32
      go_wp2_with fail
      go_ret
      exact ⟨by rw [HQ.out]; rfl, HB.out⟩
    · have HQ : Hid (rt 1 r = false) := by show rt 1 r = false; simp [rt]; omega
      go_enter Try.func32, Try.ntmps32
      go_wp2_with fail
      go_ret
      exact ⟨by rw [HQ.out]; rfl, HB.out⟩
  · have HQ : Hid (rt 1 r = false) := by show rt 1 r = false; simp [rt]; omega
    go_enter Try.func32, Try.ntmps32
    go_wp2_with fail
    go_ret
    exact ⟨by rw [HQ.out]; rfl, HB.out⟩

set_option maxRecDepth 100000 in
set_option maxHeartbeats 1000000 in
theorem idl1_any (r : Rl) (w : World) (hr : r.ok) : Calls Try.prog 33 #[.agg r.cs.toArray] w (Gives w (.bool (idl 1 r))) := by
  have H1 := Lib.hid (range_new w r.cs 43)
  have HB := Lib.hid ((Below.refl w.heap.size w).alloc (Nat.le_refl _) (.cells r.cs.toArray 43))
  have HR := Lib.hid hr
  have h1 := Rl.rp H1.out
  clear hr
  go_enter Try.func33, Try.ntmps33
  go_wp2_with fail
  go_ret
  exact ⟨rfl, HB.out⟩

set_option maxRecDepth 100000 in
set_option maxHeartbeats 1000000 in
theorem mts1_any (r : Rl) (s : Ky) (w : World) (hr : r.ok) (hs : s.ok) : Calls Try.prog 34 #[.agg r.cs.toArray, .agg s.cs.toArray] w (Gives w (.bool (mts 1 r s))) := by
  have H1 : Hid (((w.alloc (.cells r.cs.toArray 43)).alloc (.cells s.cs.toArray 28)).rangeAt w.heap.size 0 r.cs) := World.rangeAt_alloc (range_new w r.cs 43) _
  have H2 : Hid (((w.alloc (.cells r.cs.toArray 43)).alloc (.cells s.cs.toArray 28)).rangeAt (w.heap.size + 1) 0 s.cs) := by
    have := range_new (w.alloc (.cells r.cs.toArray 43)) s.cs 28
    show World.rangeAt _ _ _ _
    simpa using this
  have HB := Lib.hid (((Below.refl w.heap.size w).alloc (Nat.le_refl _) (.cells r.cs.toArray 43)).alloc (by simp) (.cells s.cs.toArray 28))
  have HR := Lib.hid hr
  have HS := Lib.hid hs
  have h1 := Rl.rp H1.out
  have g1 := Ky.rpr hs H2.out
  have hw : IntKind.i64.wrap s.pr = s.pr := by rw [IntKind.wrap_i64]; have := hs.pr; omega
  clear hr hs
  go_enter Try.func34, Try.ntmps34
  go_wp2_with fail
  go_ret
  exact ⟨rfl, HB.out⟩

set_option maxRecDepth 100000 in
set_option maxHeartbeats 1000000 in
theorem hld1_any (r s : Rl) (w : World) (hr : r.ok) (hs : s.ok) : Calls Try.prog 35 #[.agg r.cs.toArray, .agg s.cs.toArray] w (Gives w (.bool (hld 1 r s))) := by
  have H1 : Hid (((w.alloc (.cells r.cs.toArray 43)).alloc (.cells s.cs.toArray 43)).rangeAt w.heap.size 0 r.cs) := World.rangeAt_alloc (range_new w r.cs 43) _
  have H2 : Hid (((w.alloc (.cells r.cs.toArray 43)).alloc (.cells s.cs.toArray 43)).rangeAt (w.heap.size + 1) 0 s.cs) := by
    have := range_new (w.alloc (.cells r.cs.toArray 43)) s.cs 43
    show World.rangeAt _ _ _ _
    simpa using this
  have HB := Lib.hid (((Below.refl w.heap.size w).alloc (Nat.le_refl _) (.cells r.cs.toArray 43)).alloc (by simp) (.cells s.cs.toArray 43))
  have HR := Lib.hid hr
  have HS := Lib.hid hs
  have h1 := Rl.rp H1.out
  have g1 := Rl.rp H2.out
  clear hr hs
  go_enter Try.func35, Try.ntmps35
  go_wp2_with fail
  go_ret
  exact ⟨rfl, HB.out⟩

set_option maxRecDepth 100000 in
set_option maxHeartbeats 1000000 in
theorem rt2_any (r : Rl) (w : World) (hr : r.ok) : Calls Try.prog 36 #[.agg r.cs.toArray] w (Gives w (.bool (rt 2 r))) := by
  have H1 := Lib.hid (range_new w r.cs 43)
  have HB := Lib.hid ((Below.refl w.heap.size w).alloc (Nat.le_refl _) (.cells r.cs.toArray 43))
  have HR := Lib.hid hr
  have h0 := Rl.rv H1.out
  clear hr
  go_enter Try.func36, Try.ntmps36
  go_wp2_with (refine ldP _ rfl rfl _ _ rfl r.s6 r.sx r.sn HR.out.sx (Rl.src H1.out) ?_)
  refine (isPrefix_any r.s6 r.sx r.sn r.v _ HR.out.sx HR.out.sb).mono ?_
  rintro e w1 ⟨rfl, hb1⟩
  have HB1 := Lib.hid (HB.out.trans (hb1.mono HB.out.size))
  clear hb1
  go_wp2_with fail
  go_ret
  exact ⟨rfl, HB1.out⟩

set_option maxRecDepth 100000 in
set_option maxHeartbeats 1000000 in
theorem idl2_any (r : Rl) (w : World) (hr : r.ok) : Calls Try.prog 38 #[.agg r.cs.toArray] w (Gives w (.bool (idl 2 r))) := by
  have H1 := Lib.hid (range_new w r.cs 43)
  have HB := Lib.hid ((Below.refl w.heap.size w).alloc (Nat.le_refl _) (.cells r.cs.toArray 43))
  have HR := Lib.hid hr
  clear hr
  obtain ⟨z, hz⟩ : ∃ z, z18 r.s6 r.sx r.sn = z := ⟨_, rfl⟩
  have HZ := Lib.hid hz
  have HQ : Hid (idl 2 r = z) := hz
  clear hz
  go_enter Try.func38, Try.ntmps38
  go_wp2_with (first
    | (refine ldP _ rfl rfl _ _ rfl r.s6 r.sx r.sn HR.out.sx (Rl.src H1.out) ?_)
    | (refine wpList_build_run (cells := (pfl false (zs 16) 0).toArray) rfl 39 _ rfl ?_ ?_; · exact builtP0)
    | (refine eqZ _ _ _ r.s6 r.sx r.sn _ HR.out.sx HZ.out rfl rfl rfl rfl ?_))
  go_ret
  exact ⟨by rw [HQ.out]; rfl, HB.out⟩

set_option maxRecDepth 100000 in
set_option maxHeartbeats 1000000 in
theorem mts2_any (r : Rl) (s : Ky) (w : World) (hr : r.ok) (hs : s.ok) : Calls Try.prog 39 #[.agg r.cs.toArray, .agg s.cs.toArray] w (Gives w (.bool (mts 2 r s))) := by
  have H1 : Hid (((w.alloc (.cells r.cs.toArray 43)).alloc (.cells s.cs.toArray 28)).rangeAt w.heap.size 0 r.cs) := World.rangeAt_alloc (range_new w r.cs 43) _
  have H2 : Hid (((w.alloc (.cells r.cs.toArray 43)).alloc (.cells s.cs.toArray 28)).rangeAt (w.heap.size + 1) 0 s.cs) := by
    have := range_new (w.alloc (.cells r.cs.toArray 43)) s.cs 28
    show World.rangeAt _ _ _ _
    simpa using this
  have HB := Lib.hid (((Below.refl w.heap.size w).alloc (Nat.le_refl _) (.cells r.cs.toArray 43)).alloc (by simp) (.cells s.cs.toArray 28))
  have HR := Lib.hid hr
  have HS := Lib.hid hs
  clear hr hs
  go_enter Try.func39, Try.ntmps39
  go_wp2_with (first
    | (refine ldP _ rfl rfl _ _ rfl r.s6 r.sx r.sn HR.out.sx (Rl.src H1.out) ?_)
    | (refine ldA _ rfl rfl _ _ rfl s.s6 s.sx HS.out.sx (Ky.src H2.out) ?_))
  refine (pHas_any r.s6 r.sx r.sn s.s6 s.sx _ HR.out.sx HS.out.sx HS.out.sb).mono ?_
  rintro e w1 ⟨rfl, hb1⟩
  have HB1 := Lib.hid (HB.out.trans (hb1.mono HB.out.size))
  clear hb1
  go_wp2_with fail
  go_ret
  exact ⟨rfl, HB1.out⟩

set_option maxRecDepth 100000 in
set_option maxHeartbeats 1000000 in
theorem hld2_any (r s : Rl) (w : World) (hr : r.ok) (hs : s.ok) : Calls Try.prog 41 #[.agg r.cs.toArray, .agg s.cs.toArray] w (Gives w (.bool (hld 2 r s))) := by
  have H1 : Hid (((w.alloc (.cells r.cs.toArray 43)).alloc (.cells s.cs.toArray 43)).rangeAt w.heap.size 0 r.cs) := World.rangeAt_alloc (range_new w r.cs 43) _
  have H2 : Hid (((w.alloc (.cells r.cs.toArray 43)).alloc (.cells s.cs.toArray 43)).rangeAt (w.heap.size + 1) 0 s.cs) := by
    have := range_new (w.alloc (.cells r.cs.toArray 43)) s.cs 43
    show World.rangeAt _ _ _ _
    simpa using this
  have HB := Lib.hid (((Below.refl w.heap.size w).alloc (Nat.le_refl _) (.cells r.cs.toArray 43)).alloc (by simp) (.cells s.cs.toArray 43))
  have HR := Lib.hid hr
  have HS := Lib.hid hs
  clear hr hs
  go_enter Try.func41, Try.ntmps41
  go_wp2_with (first
    | (refine ldP _ rfl rfl _ _ rfl r.s6 r.sx r.sn HR.out.sx (Rl.src H1.out) ?_)
    | (refine ldP _ rfl rfl _ _ rfl s.s6 s.sx s.sn HS.out.sx (Rl.src H2.out) ?_))
  refine (within_any s.s6 s.sx s.sn r.s6 r.sx r.sn _ HS.out.sx HS.out.sb HR.out.sx).mono ?_
  rintro e w1 ⟨rfl, hb1⟩
  have HB1 := Lib.hid (HB.out.trans (hb1.mono HB.out.size))
  clear hb1
  go_wp2_with fail
  go_ret
  exact ⟨rfl, HB1.out⟩

set_option maxRecDepth 100000 in
set_option maxHeartbeats 1000000 in
theorem rt3_any (r : Rl) (w : World) (hr : r.ok) : Calls Try.prog 43 #[.agg r.cs.toArray] w (Gives w (.bool (rt 3 r))) := by
  have H1 := Lib.hid (range_new w r.cs 43)
  have HB := Lib.hid ((Below.refl w.heap.size w).alloc (Nat.le_refl _) (.cells r.cs.toArray 43))
  have HR := Lib.hid hr
  have h0 := Rl.rv H1.out
  clear hr
  go_enter Try.func43, Try.ntmps43
  go_wp2_with (refine ldP _ rfl rfl _ _ rfl r.d6 r.dx r.dn HR.out.dx (Rl.dst HR.out H1.out) ?_)
  refine (isPrefix_any r.d6 r.dx r.dn r.v _ HR.out.dx HR.out.db).mono ?_
  rintro e w1 ⟨rfl, hb1⟩
  have HB1 := Lib.hid (HB.out.trans (hb1.mono HB.out.size))
  clear hb1
  go_wp2_with fail
  go_ret
  exact ⟨rfl, HB1.out⟩

set_option maxRecDepth 100000 in
set_option maxHeartbeats 1000000 in
theorem idl3_any (r : Rl) (w : World) (hr : r.ok) : Calls Try.prog 44 #[.agg r.cs.toArray] w (Gives w (.bool (idl 3 r))) := by
  have H1 := Lib.hid (range_new w r.cs 43)
  have HB := Lib.hid ((Below.refl w.heap.size w).alloc (Nat.le_refl _) (.cells r.cs.toArray 43))
  have HR := Lib.hid hr
  clear hr
  obtain ⟨z, hz⟩ : ∃ z, z18 r.d6 r.dx r.dn = z := ⟨_, rfl⟩
  have HZ := Lib.hid hz
  have HQ : Hid (idl 3 r = z) := hz
  clear hz
  go_enter Try.func44, Try.ntmps44
  go_wp2_with (first
    | (refine ldP _ rfl rfl _ _ rfl r.d6 r.dx r.dn HR.out.dx (Rl.dst HR.out H1.out) ?_)
    | (refine wpList_build_run (cells := (pfl false (zs 16) 0).toArray) rfl 39 _ rfl ?_ ?_; · exact builtP0)
    | (refine eqZ _ _ _ r.d6 r.dx r.dn _ HR.out.dx HZ.out rfl rfl rfl rfl ?_))
  go_ret
  exact ⟨by rw [HQ.out]; rfl, HB.out⟩

set_option maxRecDepth 100000 in
set_option maxHeartbeats 1000000 in
theorem mts3_any (r : Rl) (s : Ky) (w : World) (hr : r.ok) (hs : s.ok) : Calls Try.prog 45 #[.agg r.cs.toArray, .agg s.cs.toArray] w (Gives w (.bool (mts 3 r s))) := by
  have H1 : Hid (((w.alloc (.cells r.cs.toArray 43)).alloc (.cells s.cs.toArray 28)).rangeAt w.heap.size 0 r.cs) := World.rangeAt_alloc (range_new w r.cs 43) _
  have H2 : Hid (((w.alloc (.cells r.cs.toArray 43)).alloc (.cells s.cs.toArray 28)).rangeAt (w.heap.size + 1) 0 s.cs) := by
    have := range_new (w.alloc (.cells r.cs.toArray 43)) s.cs 28
    show World.rangeAt _ _ _ _
    simpa using this
  have HB := Lib.hid (((Below.refl w.heap.size w).alloc (Nat.le_refl _) (.cells r.cs.toArray 43)).alloc (by simp) (.cells s.cs.toArray 28))
  have HR := Lib.hid hr
  have HS := Lib.hid hs
  clear hr hs
  go_enter Try.func45, Try.ntmps45
  go_wp2_with (first
    | (refine ldP _ rfl rfl _ _ rfl r.d6 r.dx r.dn HR.out.dx (Rl.dst HR.out H1.out) ?_)
    | (refine ldA _ rfl rfl _ _ rfl s.d6 s.dx HS.out.dx (Ky.dst HS.out H2.out) ?_))
  refine (pHas_any r.d6 r.dx r.dn s.d6 s.dx _ HR.out.dx HS.out.dx HS.out.db).mono ?_
  rintro e w1 ⟨rfl, hb1⟩
  have HB1 := Lib.hid (HB.out.trans (hb1.mono HB.out.size))
  clear hb1
  go_wp2_with fail
  go_ret
  exact ⟨rfl, HB1.out⟩

set_option maxRecDepth 100000 in
set_option maxHeartbeats 1000000 in
theorem hld3_any (r s : Rl) (w : World) (hr : r.ok) (hs : s.ok) : Calls Try.prog 46 #[.agg r.cs.toArray, .agg s.cs.toArray] w (Gives w (.bool (hld 3 r s))) := by
  have H1 : Hid (((w.alloc (.cells r.cs.toArray 43)).alloc (.cells s.cs.toArray 43)).rangeAt w.heap.size 0 r.cs) := World.rangeAt_alloc (range_new w r.cs 43) _
  have H2 : Hid (((w.alloc (.cells r.cs.toArray 43)).alloc (.cells s.cs.toArray 43)).rangeAt (w.heap.size + 1) 0 s.cs) := by
    have := range_new (w.alloc (.cells r.cs.toArray 43)) s.cs 43
    show World.rangeAt _ _ _ _
    simpa using this
  have HB := Lib.hid (((Below.refl w.heap.size w).alloc (Nat.le_refl _) (.cells r.cs.toArray 43)).alloc (by simp) (.cells s.cs.toArray 43))
  have HR := Lib.hid hr
  have HS := Lib.hid hs
  clear hr hs
  go_enter Try.func46, Try.ntmps46
  go_wp2_with (first
    | (refine ldP _ rfl rfl _ _ rfl r.d6 r.dx r.dn HR.out.dx (Rl.dst HR.out H1.out) ?_)
    | (refine ldP _ rfl rfl _ _ rfl s.d6 s.dx s.dn HS.out.dx (Rl.dst HS.out H2.out) ?_))
  refine (within_any s.d6 s.dx s.dn r.d6 r.dx r.dn _ HS.out.dx HS.out.db HR.out.dx).mono ?_
  rintro e w1 ⟨rfl, hb1⟩
  have HB1 := Lib.hid (HB.out.trans (hb1.mono HB.out.size))
  clear hb1
  go_wp2_with fail
  go_ret
  exact ⟨rfl, HB1.out⟩

set_option maxRecDepth 100000 in
set_option maxHeartbeats 1000000 in
theorem rt4_any (r : Rl) (w : World) (hr : r.ok) : Calls Try.prog 47 #[.agg r.cs.toArray] w (Gives w (.bool (rt 4 r))) := by
  have H1 := Lib.hid (range_new w r.cs 43)
  have HB := Lib.hid ((Below.refl w.heap.size w).alloc (Nat.le_refl _) (.cells r.cs.toArray 43))
  have HR := Lib.hid hr
  have hlo := range_at (Rl.sps hr H1.out) 0 rfl
  have hhi := range_at (Rl.sps hr H1.out) 1 rfl
  clear hr
  by_cases q0 : r.sl ≤ r.sh
  · have HQ : Hid (rt 4 r = true) := by show rt 4 r = true; simp [rt, q0]
    go_enter Try.func47, Try.ntmps47
    go_wp2_with fail
    go_ret
    exact ⟨by rw [HQ.out]; rfl, HB.out⟩
  · have HQ : Hid (rt 4 r = false) := by show rt 4 r = false; simp [rt]; omega
    go_enter Try.func47, Try.ntmps47
    go_wp2_with fail
    go_ret
    exact ⟨by rw [HQ.out]; rfl, HB.out⟩

set_option maxRecDepth 100000 in
set_option maxHeartbeats 1000000 in
theorem mts4_any (r : Rl) (s : Ky) (w : World) (hr : r.ok) (hs : s.ok) : Calls Try.prog 49 #[.agg r.cs.toArray, .agg s.cs.toArray] w (Gives w (.bool (mts 4 r s))) := by
  have H1 : Hid (((w.alloc (.cells r.cs.toArray 43)).alloc (.cells s.cs.toArray 28)).rangeAt w.heap.size 0 r.cs) := World.rangeAt_alloc (range_new w r.cs 43) _
  have H2 : Hid (((w.alloc (.cells r.cs.toArray 43)).alloc (.cells s.cs.toArray 28)).rangeAt (w.heap.size + 1) 0 s.cs) := by
    have := range_new (w.alloc (.cells r.cs.toArray 43)) s.cs 28
    show World.rangeAt _ _ _ _
    simpa using this
  have HB := Lib.hid (((Below.refl w.heap.size w).alloc (Nat.le_refl _) (.cells r.cs.toArray 43)).alloc (by simp) (.cells s.cs.toArray 28))
  have HR := Lib.hid hr
  have HS := Lib.hid hs
  have g0 := Ky.rpr hs H2.out
  clear hr hs
  go_enter Try.func49, Try.ntmps49
  go_wp2_with fail
  refine (hasPorts_any s.pr _).mono ?_
  rintro e w1 ⟨rfl, hb1⟩
  have H11 := Lib.hid (range_kept hb1 H1.out)
  have g1 := Ky.rsp HS.out (range_kept hb1 H2.out)
  have HB1 := Lib.hid (HB.out.trans (hb1.mono HB.out.size))
  clear hb1
  cases hp : hpB s.pr with
  | false =>
    have HQ : Hid (mts 4 r s = false) := by show mts 4 r s = false; simp [mts, hp]
    clear hp
    go_wp2_with fail
    go_ret
    exact ⟨by rw [HQ.out]; rfl, HB1.out⟩
  | true =>
    have HQ : Hid (mts 4 r s = hldB r.sl r.sh s.sp s.sp) := by show mts 4 r s = _; simp [mts, hp]
    clear hp
    go_wp2_with (refine ldPog _ rfl (by rfl) _ _ rfl r.sl r.sh (Rl.sps HR.out H11.out) ?_)
    refine (hold_any r.sl r.sh s.sp s.sp _).mono ?_
    rintro e w2 ⟨rfl, hb2⟩
    have HB2 := Lib.hid (HB1.out.trans (hb2.mono HB1.out.size))
    clear hb2
    go_wp2_with fail
    go_ret
    exact ⟨by rw [HQ.out]; rfl, HB2.out⟩

set_option maxRecDepth 100000 in
set_option maxHeartbeats 1000000 in
theorem hld4_any (r s : Rl) (w : World) (hr : r.ok) (hs : s.ok) : Calls Try.prog 52 #[.agg r.cs.toArray, .agg s.cs.toArray] w (Gives w (.bool (hld 4 r s))) := by
  have H1 : Hid (((w.alloc (.cells r.cs.toArray 43)).alloc (.cells s.cs.toArray 43)).rangeAt w.heap.size 0 r.cs) := World.rangeAt_alloc (range_new w r.cs 43) _
  have H2 : Hid (((w.alloc (.cells r.cs.toArray 43)).alloc (.cells s.cs.toArray 43)).rangeAt (w.heap.size + 1) 0 s.cs) := by
    have := range_new (w.alloc (.cells r.cs.toArray 43)) s.cs 43
    show World.rangeAt _ _ _ _
    simpa using this
  have HB := Lib.hid (((Below.refl w.heap.size w).alloc (Nat.le_refl _) (.cells r.cs.toArray 43)).alloc (by simp) (.cells s.cs.toArray 43))
  have HR := Lib.hid hr
  have HS := Lib.hid hs
  have hlo := range_at (Rl.sps hs H2.out) 0 rfl
  have hhi := range_at (Rl.sps hs H2.out) 1 rfl
  clear hr hs
  go_enter Try.func52, Try.ntmps52
  go_wp2_with (refine ldPo _ rfl rfl _ _ rfl r.sl r.sh (Rl.sps HR.out H1.out) ?_)
  refine (hold_any r.sl r.sh s.sl s.sh _).mono ?_
  rintro e w1 ⟨rfl, hb1⟩
  have HB1 := Lib.hid (HB.out.trans (hb1.mono HB.out.size))
  clear hb1
  go_wp2_with fail
  go_ret
  exact ⟨rfl, HB1.out⟩

set_option maxRecDepth 100000 in
set_option maxHeartbeats 1000000 in
theorem rt5_any (r : Rl) (w : World) (hr : r.ok) : Calls Try.prog 53 #[.agg r.cs.toArray] w (Gives w (.bool (rt 5 r))) := by
  have H1 := Lib.hid (range_new w r.cs 43)
  have HB := Lib.hid ((Below.refl w.heap.size w).alloc (Nat.le_refl _) (.cells r.cs.toArray 43))
  have HR := Lib.hid hr
  have hlo := range_at (Rl.dps hr H1.out) 0 rfl
  have hhi := range_at (Rl.dps hr H1.out) 1 rfl
  clear hr
  by_cases q0 : r.dl ≤ r.dh
  · have HQ : Hid (rt 5 r = true) := by show rt 5 r = true; simp [rt, q0]
    go_enter Try.func53, Try.ntmps53
    go_wp2_with fail
    go_ret
    exact ⟨by rw [HQ.out]; rfl, HB.out⟩
  · have HQ : Hid (rt 5 r = false) := by show rt 5 r = false; simp [rt]; omega
    go_enter Try.func53, Try.ntmps53
    go_wp2_with fail
    go_ret
    exact ⟨by rw [HQ.out]; rfl, HB.out⟩

set_option maxRecDepth 100000 in
set_option maxHeartbeats 1000000 in
theorem mts5_any (r : Rl) (s : Ky) (w : World) (hr : r.ok) (hs : s.ok) : Calls Try.prog 55 #[.agg r.cs.toArray, .agg s.cs.toArray] w (Gives w (.bool (mts 5 r s))) := by
  have H1 : Hid (((w.alloc (.cells r.cs.toArray 43)).alloc (.cells s.cs.toArray 28)).rangeAt w.heap.size 0 r.cs) := World.rangeAt_alloc (range_new w r.cs 43) _
  have H2 : Hid (((w.alloc (.cells r.cs.toArray 43)).alloc (.cells s.cs.toArray 28)).rangeAt (w.heap.size + 1) 0 s.cs) := by
    have := range_new (w.alloc (.cells r.cs.toArray 43)) s.cs 28
    show World.rangeAt _ _ _ _
    simpa using this
  have HB := Lib.hid (((Below.refl w.heap.size w).alloc (Nat.le_refl _) (.cells r.cs.toArray 43)).alloc (by simp) (.cells s.cs.toArray 28))
  have HR := Lib.hid hr
  have HS := Lib.hid hs
  have g0 := Ky.rpr hs H2.out
  clear hr hs
  go_enter Try.func55, Try.ntmps55
  go_wp2_with fail
  refine (hasPorts_any s.pr _).mono ?_
  rintro e w1 ⟨rfl, hb1⟩
  have H11 := Lib.hid (range_kept hb1 H1.out)
  have g1 := Ky.rdp HS.out (range_kept hb1 H2.out)
  have HB1 := Lib.hid (HB.out.trans (hb1.mono HB.out.size))
  clear hb1
  cases hp : hpB s.pr with
  | false =>
    have HQ : Hid (mts 5 r s = false) := by show mts 5 r s = false; simp [mts, hp]
    clear hp
    go_wp2_with fail
    go_ret
    exact ⟨by rw [HQ.out]; rfl, HB1.out⟩
  | true =>
    have HQ : Hid (mts 5 r s = hldB r.dl r.dh s.dp s.dp) := by show mts 5 r s = _; simp [mts, hp]
    clear hp
    go_wp2_with (refine ldPog _ rfl (by rfl) _ _ rfl r.dl r.dh (Rl.dps HR.out H11.out) ?_)
    refine (hold_any r.dl r.dh s.dp s.dp _).mono ?_
    rintro e w2 ⟨rfl, hb2⟩
    have HB2 := Lib.hid (HB1.out.trans (hb2.mono HB1.out.size))
    clear hb2
    go_wp2_with fail
    go_ret
    exact ⟨by rw [HQ.out]; rfl, HB2.out⟩

set_option maxRecDepth 100000 in
set_option maxHeartbeats 1000000 in
theorem hld5_any (r s : Rl) (w : World) (hr : r.ok) (hs : s.ok) : Calls Try.prog 56 #[.agg r.cs.toArray, .agg s.cs.toArray] w (Gives w (.bool (hld 5 r s))) := by
  have H1 : Hid (((w.alloc (.cells r.cs.toArray 43)).alloc (.cells s.cs.toArray 43)).rangeAt w.heap.size 0 r.cs) := World.rangeAt_alloc (range_new w r.cs 43) _
  have H2 : Hid (((w.alloc (.cells r.cs.toArray 43)).alloc (.cells s.cs.toArray 43)).rangeAt (w.heap.size + 1) 0 s.cs) := by
    have := range_new (w.alloc (.cells r.cs.toArray 43)) s.cs 43
    show World.rangeAt _ _ _ _
    simpa using this
  have HB := Lib.hid (((Below.refl w.heap.size w).alloc (Nat.le_refl _) (.cells r.cs.toArray 43)).alloc (by simp) (.cells s.cs.toArray 43))
  have HR := Lib.hid hr
  have HS := Lib.hid hs
  have hlo := range_at (Rl.dps hs H2.out) 0 rfl
  have hhi := range_at (Rl.dps hs H2.out) 1 rfl
  clear hr hs
  go_enter Try.func56, Try.ntmps56
  go_wp2_with (refine ldPo _ rfl rfl _ _ rfl r.dl r.dh (Rl.dps HR.out H1.out) ?_)
  refine (hold_any r.dl r.dh s.dl s.dh _).mono ?_
  rintro e w1 ⟨rfl, hb1⟩
  have HB1 := Lib.hid (HB.out.trans (hb1.mono HB.out.size))
  clear hb1
  go_wp2_with fail
  go_ret
  exact ⟨rfl, HB1.out⟩

set_option maxRecDepth 100000 in
set_option maxHeartbeats 1000000 in
theorem idl4_any (r : Rl) (w : World) (hr : r.ok) : Calls Try.prog 48 #[.agg r.cs.toArray] w (Gives w (.bool (idl 4 r))) := by
  have H1 := Lib.hid (range_new w r.cs 43)
  have HB := Lib.hid ((Below.refl w.heap.size w).alloc (Nat.le_refl _) (.cells r.cs.toArray 43))
  have HR := Lib.hid hr
  clear hr
  obtain ⟨z, hz⟩ : ∃ z, decide (r.sl = 0 ∧ r.sh = 65535) = z := ⟨_, rfl⟩
  have hg := guPo
  have l3 : ∀ w', (Op.equalIn 10000 41 (.agg (prl r.sl r.sh).toArray) (.agg (prl 0 65535).toArray)).run Try.prog w' = .ok z w' := fun w' => by rw [← hz]; exact eqPo w' 9996 _ _ _ _
  have HQ : Hid (idl 4 r = z) := hz
  clear hz
  go_enter Try.func48, Try.ntmps48
  go_wp2_with fail
  have hr0 := H1.out
  refine wp_region_held_drew (S := fun w' => World.rangeAt w' w.heap.size 0 r.cs) (by kernel_rfl) hr0 (fun hS => ?_)
  refine tk 0 3 (.pointer (some ⟨w.heap.size, 38, none⟩)) rfl rfl (by kernel_rfl) (by kernel_rfl) (by kernel_rfl) (fun _ _ _ h => h) (Or.inl ⟨by rfl, fun w' h' => ?_⟩) hS ?_
  · go_simp
  try simp only [Act.put, List.setIfInBounds_toArray, List.set_cons_zero, List.set_cons_succ]
  refine tk 1 4 (.agg (prl r.sl r.sh).toArray) rfl rfl (by kernel_rfl) (by kernel_rfl) (by kernel_rfl) (fun _ _ _ h => h) (yieldsIf_load_mid (by rfl) _ _ rfl (w.heap.size) (38) rfl (prl r.sl r.sh) _ (fun w' h' => Rl.sps HR.out h') Try.underlying41 rfl (infPo)) hS ?_
  try simp only [Act.put, List.setIfInBounds_toArray, List.set_cons_zero, List.set_cons_succ]
  refine wpAnyH_ready (rs := [2]) (by kernel_rfl) (by simp) (AllReadyH.cons rfl (fun K hK => ?_) AllReadyH.nil)
  rw [if_pos (by rfl)]
  go_wp2_with fail
  refine (anyPorts_any _).mono ?_
  rintro e wa ⟨rfl, hba'⟩
  have hra := range_kept (undrew hba') hr0
  have HBa := Lib.hid (HB.out.trans ((undrew hba').mono (by simp)))
  clear hba'
  clear hS
  refine hK.out _ _ (hra) (fun hS => ?_)
  clear hK K
  try simp only [Act.put, List.setIfInBounds_toArray, List.set_cons_zero, List.set_cons_succ]
  refine tk 3 6 (.bool z) rfl rfl (by kernel_rfl) (by kernel_rfl) (by kernel_rfl) (fun _ _ _ h => h) (Or.inl ⟨by rfl, fun w' h' => ?_⟩) hS ?_
  · go_simp
  try simp only [Act.put, List.setIfInBounds_toArray, List.set_cons_zero, List.set_cons_succ]
  refine tk 4 2 (.bool z) rfl rfl (by kernel_rfl) (by kernel_rfl) (by kernel_rfl) (fun _ _ _ h => h) (Or.inl ⟨by rfl, fun w' h' => ?_⟩) hS ?_
  · go_simp
  refine wpAnyH_done (by kernel_rfl) ?_ _
  go_wp2_with fail
  go_ret
  exact ⟨by rw [HQ.out]; rfl, HBa.out⟩

set_option maxRecDepth 100000 in
set_option maxHeartbeats 1000000 in
theorem idl5_any (r : Rl) (w : World) (hr : r.ok) : Calls Try.prog 54 #[.agg r.cs.toArray] w (Gives w (.bool (idl 5 r))) := by
  have H1 := Lib.hid (range_new w r.cs 43)
  have HB := Lib.hid ((Below.refl w.heap.size w).alloc (Nat.le_refl _) (.cells r.cs.toArray 43))
  have HR := Lib.hid hr
  clear hr
  obtain ⟨z, hz⟩ : ∃ z, decide (r.dl = 0 ∧ r.dh = 65535) = z := ⟨_, rfl⟩
  have hg := guPo
  have l3 : ∀ w', (Op.equalIn 10000 41 (.agg (prl r.dl r.dh).toArray) (.agg (prl 0 65535).toArray)).run Try.prog w' = .ok z w' := fun w' => by rw [← hz]; exact eqPo w' 9996 _ _ _ _
  have HQ : Hid (idl 5 r = z) := hz
  clear hz
  go_enter Try.func54, Try.ntmps54
  go_wp2_with fail
  have hr0 := H1.out
  refine wp_region_held_drew (S := fun w' => World.rangeAt w' w.heap.size 0 r.cs) (by kernel_rfl) hr0 (fun hS => ?_)
  refine tk 0 3 (.pointer (some ⟨w.heap.size, 40, none⟩)) rfl rfl (by kernel_rfl) (by kernel_rfl) (by kernel_rfl) (fun _ _ _ h => h) (Or.inl ⟨by rfl, fun w' h' => ?_⟩) hS ?_
  · go_simp
  try simp only [Act.put, List.setIfInBounds_toArray, List.set_cons_zero, List.set_cons_succ]
  refine tk 1 4 (.agg (prl r.dl r.dh).toArray) rfl rfl (by kernel_rfl) (by kernel_rfl) (by kernel_rfl) (fun _ _ _ h => h) (yieldsIf_load_mid (by rfl) _ _ rfl (w.heap.size) (40) rfl (prl r.dl r.dh) _ (fun w' h' => Rl.dps HR.out h') Try.underlying41 rfl (infPo)) hS ?_
  try simp only [Act.put, List.setIfInBounds_toArray, List.set_cons_zero, List.set_cons_succ]
  refine wpAnyH_ready (rs := [2]) (by kernel_rfl) (by simp) (AllReadyH.cons rfl (fun K hK => ?_) AllReadyH.nil)
  rw [if_pos (by rfl)]
  go_wp2_with fail
  refine (anyPorts_any _).mono ?_
  rintro e wa ⟨rfl, hba'⟩
  have hra := range_kept (undrew hba') hr0
  have HBa := Lib.hid (HB.out.trans ((undrew hba').mono (by simp)))
  clear hba'
  clear hS
  refine hK.out _ _ (hra) (fun hS => ?_)
  clear hK K
  try simp only [Act.put, List.setIfInBounds_toArray, List.set_cons_zero, List.set_cons_succ]
  refine tk 3 6 (.bool z) rfl rfl (by kernel_rfl) (by kernel_rfl) (by kernel_rfl) (fun _ _ _ h => h) (Or.inl ⟨by rfl, fun w' h' => ?_⟩) hS ?_
  · go_simp
  try simp only [Act.put, List.setIfInBounds_toArray, List.set_cons_zero, List.set_cons_succ]
  refine tk 4 2 (.bool z) rfl rfl (by kernel_rfl) (by kernel_rfl) (by kernel_rfl) (fun _ _ _ h => h) (Or.inl ⟨by rfl, fun w' h' => ?_⟩) hS ?_
  · go_simp
  refine wpAnyH_done (by kernel_rfl) ?_ _
  go_wp2_with fail
  go_ret
  exact ⟨by rw [HQ.out]; rfl, HBa.out⟩

set_option maxRecDepth 100000 in
set_option maxHeartbeats 1000000 in
theorem mts0_any (r : Rl) (s : Ky) (w : World) (hr : r.ok) (hs : s.ok) : Calls Try.prog 29 #[.agg r.cs.toArray, .agg s.cs.toArray] w (Gives w (.bool (mts 0 r s))) := by
  have H1 : Hid (((w.alloc (.cells r.cs.toArray 43)).alloc (.cells s.cs.toArray 28)).rangeAt w.heap.size 0 r.cs) := World.rangeAt_alloc (range_new w r.cs 43) _
  have H2 : Hid (((w.alloc (.cells r.cs.toArray 43)).alloc (.cells s.cs.toArray 28)).rangeAt (w.heap.size + 1) 0 s.cs) := by
    have := range_new (w.alloc (.cells r.cs.toArray 43)) s.cs 28
    show World.rangeAt _ _ _ _
    simpa using this
  have HB := Lib.hid (((Below.refl w.heap.size w).alloc (Nat.le_refl _) (.cells r.cs.toArray 43)).alloc (by simp) (.cells s.cs.toArray 28))
  have HR := Lib.hid hr
  have HS := Lib.hid hs
  clear hr hs
  by_cases q0 : r.v = vr s.s6
  · have HQ : Hid (mts 0 r s = (r.v == vr s.d6)) := by show mts 0 r s = _; simp [mts, q0]; rfl
    have q1 : (r.v == vr s.s6) = true := by simpa using q0
    have HQ0 := Lib.hid q0
    clear q0
    go_enter Try.func29, Try.ntmps29
    go_wp2_with fail
    have hr0 := And.intro H1.out H2.out
    refine wp_region_held_drew (S := fun w' => World.rangeAt w' w.heap.size 0 r.cs ∧ World.rangeAt w' (w.heap.size + 1) 0 s.cs) (by kernel_rfl) hr0 (fun hS => ?_)
    refine tk 0 5 (.pointer (some ⟨w.heap.size, 0, none⟩)) rfl rfl (by kernel_rfl) (by kernel_rfl) (by kernel_rfl) (fun _ _ _ h => h) (Or.inl ⟨by rfl, fun w' h' => ?_⟩) hS ?_
    · go_simp
    try simp only [Act.put, List.setIfInBounds_toArray, List.set_cons_zero, List.set_cons_succ]
    refine tk 1 6 (.int .i64 r.v) rfl rfl (by kernel_rfl) (by kernel_rfl) (by kernel_rfl) (fun _ _ _ h => h) (Or.inl ⟨by rfl, fun w' h' => ?_⟩) hS ?_
    · have hc := Rl.rv h'.1
      go_simp
    try simp only [Act.put, List.setIfInBounds_toArray, List.set_cons_zero, List.set_cons_succ]
    refine tk 2 7 (.pointer (some ⟨w.heap.size + 1, 0, none⟩)) rfl rfl (by kernel_rfl) (by kernel_rfl) (by kernel_rfl) (fun _ _ _ h => h) (Or.inl ⟨by rfl, fun w' h' => ?_⟩) hS ?_
    · go_simp
    try simp only [Act.put, List.setIfInBounds_toArray, List.set_cons_zero, List.set_cons_succ]
    refine tk 3 8 (.agg (adl s.s6 s.sx).toArray) rfl rfl (by kernel_rfl) (by kernel_rfl) (by kernel_rfl) (fun _ _ _ h => h) (yieldsIf_load_mid (by rfl) _ _ rfl (w.heap.size + 1) (0) rfl (adl s.s6 s.sx) _ (fun w' h' => Ky.src h'.2) Try.underlying25 rfl (by rw [adl_len _ _ HS.out.sx]; exact infA)) hS ?_
    try simp only [Act.put, List.setIfInBounds_toArray, List.set_cons_zero, List.set_cons_succ]
    refine wpAnyH_ready (rs := [4]) (by kernel_rfl) (by simp) (AllReadyH.cons rfl (fun K hK => ?_) AllReadyH.nil)
    rw [if_pos (by rfl)]
    go_wp2_with fail
    refine (version_any s.s6 s.sx _).mono ?_
    rintro e wa ⟨rfl, hba'⟩
    have hra := And.intro (range_kept (undrew hba') hr0.1) (range_kept (undrew hba') hr0.2)
    have HBa := Lib.hid (HB.out.trans ((undrew hba').mono (by simp; omega)))
    clear hba'
    clear hS
    refine hK.out _ _ (hra) (fun hS => ?_)
    clear hK K
    try simp only [Act.put, List.setIfInBounds_toArray, List.set_cons_zero, List.set_cons_succ]
    refine tk 5 10 (.bool true) rfl rfl (by kernel_rfl) (by kernel_rfl) (by kernel_rfl) (fun _ _ _ h => h) (Or.inl ⟨by rfl, fun w' h' => ?_⟩) hS ?_
    · go_simp
    try simp only [Act.put, List.setIfInBounds_toArray, List.set_cons_zero, List.set_cons_succ]
    refine tk 6 11 (.bool true) rfl rfl (by kernel_rfl) (by kernel_rfl) (by kernel_rfl) (fun _ _ _ h => h) (Or.inl ⟨by rfl, fun w' h' => ?_⟩) hS ?_
    · go_simp
    try simp only [Act.put, List.setIfInBounds_toArray, List.set_cons_zero, List.set_cons_succ]
    refine tk 7 12 (.pointer (some ⟨w.heap.size, 0, none⟩)) rfl rfl (by kernel_rfl) (by kernel_rfl) (by kernel_rfl) (fun _ _ _ h => h) (Or.inl ⟨by rfl, fun w' h' => ?_⟩) hS ?_
    · go_simp
    try simp only [Act.put, List.setIfInBounds_toArray, List.set_cons_zero, List.set_cons_succ]
    refine tk 8 13 (.int .i64 r.v) rfl rfl (by kernel_rfl) (by kernel_rfl) (by kernel_rfl) (fun _ _ _ h => h) (Or.inl ⟨by rfl, fun w' h' => ?_⟩) hS ?_
    · have hc := Rl.rv h'.1
      go_simp
    try simp only [Act.put, List.setIfInBounds_toArray, List.set_cons_zero, List.set_cons_succ]
    refine tk 9 14 (.pointer (some ⟨w.heap.size + 1, 17, none⟩)) rfl rfl (by kernel_rfl) (by kernel_rfl) (by kernel_rfl) (fun _ _ _ h => h) (Or.inl ⟨by rfl, fun w' h' => ?_⟩) hS ?_
    · go_simp
    try simp only [Act.put, List.setIfInBounds_toArray, List.set_cons_zero, List.set_cons_succ]
    refine tk 10 15 (.agg (adl s.d6 s.dx).toArray) rfl rfl (by kernel_rfl) (by kernel_rfl) (by kernel_rfl) (fun _ _ _ h => h) (yieldsIf_load_mid (by rfl) _ _ rfl (w.heap.size + 1) (17) rfl (adl s.d6 s.dx) _ (fun w' h' => Ky.dst HS.out h'.2) Try.underlying25 rfl (by rw [adl_len _ _ HS.out.dx]; exact infA)) hS ?_
    try simp only [Act.put, List.setIfInBounds_toArray, List.set_cons_zero, List.set_cons_succ]
    refine wpAnyH_ready (rs := [11]) (by kernel_rfl) (by simp) (AllReadyH.cons rfl (fun K hK => ?_) AllReadyH.nil)
    rw [if_pos (by rfl)]
    go_wp2_with fail
    refine (version_any s.d6 s.dx _).mono ?_
    rintro e wb ⟨rfl, hbb⟩
    have hrb := And.intro (range_kept hbb hra.1) (range_kept hbb hra.2)
    have HBb := Lib.hid (HBa.out.trans (hbb.mono HBa.out.size))
    clear hbb
    clear hS
    refine hK.out _ _ (hrb) (fun hS => ?_)
    clear hK K
    try simp only [Act.put, List.setIfInBounds_toArray, List.set_cons_zero, List.set_cons_succ]
    refine tk 12 17 (.bool (r.v == vr s.d6)) rfl rfl (by kernel_rfl) (by kernel_rfl) (by kernel_rfl) (fun _ _ _ h => h) (Or.inl ⟨by rfl, fun w' h' => ?_⟩) hS ?_
    · go_simp
    try simp only [Act.put, List.setIfInBounds_toArray, List.set_cons_zero, List.set_cons_succ]
    refine tk 13 18 (.bool (r.v == vr s.d6)) rfl rfl (by kernel_rfl) (by kernel_rfl) (by kernel_rfl) (fun _ _ _ h => h) (Or.inl ⟨by rfl, fun w' h' => ?_⟩) hS ?_
    · go_simp
    try simp only [Act.put, List.setIfInBounds_toArray, List.set_cons_zero, List.set_cons_succ]
    refine tk 14 4 (.bool (r.v == vr s.d6)) rfl rfl (by kernel_rfl) (by kernel_rfl) (by kernel_rfl) (fun _ _ _ h => h) (Or.inl ⟨by rfl, fun w' h' => ?_⟩) hS ?_
    · go_simp
    refine wpAnyH_done (by kernel_rfl) ?_ _
    go_wp2_with fail
    go_ret
    exact ⟨by rw [HQ.out]; rfl, HBb.out⟩
  · have HQ : Hid (mts 0 r s = false) := by show mts 0 r s = _; simp [mts, q0]
    have q1 : (r.v == vr s.s6) = false := by simpa using q0
    have HQ0 := Lib.hid q0
    clear q0
    go_enter Try.func29, Try.ntmps29
    go_wp2_with fail
    have hr0 := And.intro H1.out H2.out
    refine wp_region_held_drew (S := fun w' => World.rangeAt w' w.heap.size 0 r.cs ∧ World.rangeAt w' (w.heap.size + 1) 0 s.cs) (by kernel_rfl) hr0 (fun hS => ?_)
    refine tk 0 5 (.pointer (some ⟨w.heap.size, 0, none⟩)) rfl rfl (by kernel_rfl) (by kernel_rfl) (by kernel_rfl) (fun _ _ _ h => h) (Or.inl ⟨by rfl, fun w' h' => ?_⟩) hS ?_
    · go_simp
    try simp only [Act.put, List.setIfInBounds_toArray, List.set_cons_zero, List.set_cons_succ]
    refine tk 1 6 (.int .i64 r.v) rfl rfl (by kernel_rfl) (by kernel_rfl) (by kernel_rfl) (fun _ _ _ h => h) (Or.inl ⟨by rfl, fun w' h' => ?_⟩) hS ?_
    · have hc := Rl.rv h'.1
      go_simp
    try simp only [Act.put, List.setIfInBounds_toArray, List.set_cons_zero, List.set_cons_succ]
    refine tk 2 7 (.pointer (some ⟨w.heap.size + 1, 0, none⟩)) rfl rfl (by kernel_rfl) (by kernel_rfl) (by kernel_rfl) (fun _ _ _ h => h) (Or.inl ⟨by rfl, fun w' h' => ?_⟩) hS ?_
    · go_simp
    try simp only [Act.put, List.setIfInBounds_toArray, List.set_cons_zero, List.set_cons_succ]
    refine tk 3 8 (.agg (adl s.s6 s.sx).toArray) rfl rfl (by kernel_rfl) (by kernel_rfl) (by kernel_rfl) (fun _ _ _ h => h) (yieldsIf_load_mid (by rfl) _ _ rfl (w.heap.size + 1) (0) rfl (adl s.s6 s.sx) _ (fun w' h' => Ky.src h'.2) Try.underlying25 rfl (by rw [adl_len _ _ HS.out.sx]; exact infA)) hS ?_
    try simp only [Act.put, List.setIfInBounds_toArray, List.set_cons_zero, List.set_cons_succ]
    refine wpAnyH_ready (rs := [4]) (by kernel_rfl) (by simp) (AllReadyH.cons rfl (fun K hK => ?_) AllReadyH.nil)
    rw [if_pos (by rfl)]
    go_wp2_with fail
    refine (version_any s.s6 s.sx _).mono ?_
    rintro e wa ⟨rfl, hba'⟩
    have hra := And.intro (range_kept (undrew hba') hr0.1) (range_kept (undrew hba') hr0.2)
    have HBa := Lib.hid (HB.out.trans ((undrew hba').mono (by simp; omega)))
    clear hba'
    clear hS
    refine hK.out _ _ (hra) (fun hS => ?_)
    clear hK K
    try simp only [Act.put, List.setIfInBounds_toArray, List.set_cons_zero, List.set_cons_succ]
    refine tk 5 10 (.bool false) rfl rfl (by kernel_rfl) (by kernel_rfl) (by kernel_rfl) (fun _ _ _ h => h) (Or.inl ⟨by rfl, fun w' h' => ?_⟩) hS ?_
    · go_simp
    try simp only [Act.put, List.setIfInBounds_toArray, List.set_cons_zero, List.set_cons_succ]
    refine tk 6 11 (.bool false) rfl rfl (by kernel_rfl) (by kernel_rfl) (by kernel_rfl) (fun _ _ _ h => h) (Or.inl ⟨by rfl, fun w' h' => ?_⟩) hS ?_
    · go_simp
    try simp only [Act.put, List.setIfInBounds_toArray, List.set_cons_zero, List.set_cons_succ]
    refine tk 7 12 undef rfl rfl (by kernel_rfl) (by kernel_rfl) (by kernel_rfl) (fun _ _ _ h => h) (Or.inr ⟨by rfl, rfl⟩) hS ?_
    try simp only [Act.put, List.setIfInBounds_toArray, List.set_cons_zero, List.set_cons_succ]
    refine tk 8 13 undef rfl rfl (by kernel_rfl) (by kernel_rfl) (by kernel_rfl) (fun _ _ _ h => h) (Or.inr ⟨by rfl, rfl⟩) hS ?_
    try simp only [Act.put, List.setIfInBounds_toArray, List.set_cons_zero, List.set_cons_succ]
    refine tk 9 14 undef rfl rfl (by kernel_rfl) (by kernel_rfl) (by kernel_rfl) (fun _ _ _ h => h) (Or.inr ⟨by rfl, rfl⟩) hS ?_
    try simp only [Act.put, List.setIfInBounds_toArray, List.set_cons_zero, List.set_cons_succ]
    refine tk 10 15 undef rfl rfl (by kernel_rfl) (by kernel_rfl) (by kernel_rfl) (fun _ _ _ h => h) (Or.inr ⟨by rfl, rfl⟩) hS ?_
    try simp only [Act.put, List.setIfInBounds_toArray, List.set_cons_zero, List.set_cons_succ]
    refine tk 11 16 undef rfl rfl (by kernel_rfl) (by kernel_rfl) (by kernel_rfl) (fun _ _ _ h => h) (Or.inr ⟨by rfl, rfl⟩) hS ?_
    try simp only [Act.put, List.setIfInBounds_toArray, List.set_cons_zero, List.set_cons_succ]
    refine tk 12 17 undef rfl rfl (by kernel_rfl) (by kernel_rfl) (by kernel_rfl) (fun _ _ _ h => h) (Or.inr ⟨by rfl, rfl⟩) hS ?_
    try simp only [Act.put, List.setIfInBounds_toArray, List.set_cons_zero, List.set_cons_succ]
    refine tk 13 18 (.bool false) rfl rfl (by kernel_rfl) (by kernel_rfl) (by kernel_rfl) (fun _ _ _ h => h) (Or.inl ⟨by rfl, fun w' h' => ?_⟩) hS ?_
    · go_simp
    try simp only [Act.put, List.setIfInBounds_toArray, List.set_cons_zero, List.set_cons_succ]
    refine tk 14 4 (.bool false) rfl rfl (by kernel_rfl) (by kernel_rfl) (by kernel_rfl) (fun _ _ _ h => h) (Or.inl ⟨by rfl, fun w' h' => ?_⟩) hS ?_
    · go_simp
    refine wpAnyH_done (by kernel_rfl) ?_ _
    go_wp2_with fail
    go_ret
    exact ⟨by rw [HQ.out]; rfl, HBa.out⟩

end Go.Proofs.Ytgnhbhgpkihpmaa

/-
  The contracts of Any, Fits, Clone of rules. Conditions: rules and keys whose numbers fit their Go types.
-/
import Derived.Test.YtgnhbhgpkihpmaaRuRow
namespace Go.Proofs.Ytgnhbhgpkihpmaa
open Go.RowKit

theorem builtAny : Try.prog.built 43 [(0, .int .i64 0), (1, .int .i64 (-1)), (4, .agg (prl 0 65535).toArray), (5, .agg (prl 0 65535).toArray)] = some any0.cs.toArray := by kernel_rfl

set_option maxRecDepth 100000 in
set_option maxHeartbeats 1000000 in
theorem uAny_any (w : World) : Calls Try.prog 9 #[] w (Gives w (.agg any0.cs.toArray)) := by
  go_enter Try.func9, Try.ntmps9
  go_wp2_with fail
  refine (anyPorts_any _).mono ?_
  rintro e w1 ⟨rfl, hb1⟩
  have HT1 : Hid (w1.there w.heap.size 0 44) := there_kept hb1 (there_new _ _ _ _ rfl _ rfl)
  have HB1 : Hid (Below w.heap.size w w1) := ((Below.refl _ _).alloc (Nat.le_refl _) _).trans (hb1.mono (by simp))
  clear hb1
  go_wp2_with fail
  refine (anyPorts_any _).mono ?_
  rintro e w2 ⟨rfl, hb2⟩
  have HT2 := Lib.hid (there_kept hb2 HT1.out)
  have HB2 := Lib.hid (HB1.out.trans (hb2.mono HB1.out.size))
  clear hb2 HT1 HB1
  go_wp2_with (first
    | (refine wpList_build_run (cells := any0.cs.toArray) rfl 43 _ rfl ?_ ?_; · exact builtAny)
    | (refine stC _ _ _ rfl rfl _ _ any0.cs rfl rfl (by rw [Rl.len any0_ok]; exact HT2.out) (by rw [Rl.len any0_ok]; exact infU) (Rl.one _) ?_))
  refine bodyPost_ret (v := .agg any0.cs.toArray) (ret_mid Try.results9 _ _ _ _ any0.cs _ rfl (World.rangeAt_setCells_same _ _ _ _ ?_) Try.underlying43 rfl ?_) rfl ⟨rfl, ?_⟩
  · rw [Rl.len any0_ok]; exact HT2.out
  · rw [Rl.len any0_ok]; exact infU
  · exact Below.setCells HB2.out _ (Nat.le_refl _) _ _

set_option maxRecDepth 100000 in
set_option maxHeartbeats 1000000 in
theorem uFits_any (r : Rl) (k : Ky) (w : World) (hr : r.ok) (hk : k.ok) : Calls Try.prog 11 #[.agg r.cs.toArray, .agg k.cs.toArray] w (Gives w (.bool (rgB r && fit k r))) := by
  have hb : Below w.heap.size w ((w.alloc (.cells r.cs.toArray 43)).alloc (.cells k.cs.toArray 28)) := ((Below.refl _ _).alloc (Nat.le_refl _) _).alloc (by simp) _
  have H1 : Hid (((w.alloc (.cells r.cs.toArray 43)).alloc (.cells k.cs.toArray 28)).rangeAt w.heap.size 0 r.cs) := World.rangeAt_alloc (range_new w r.cs 43) _
  have H2 : Hid (((w.alloc (.cells r.cs.toArray 43)).alloc (.cells k.cs.toArray 28)).rangeAt (w.heap.size + 1) 0 k.cs) := by
    have := range_new (w.alloc (.cells r.cs.toArray 43)) k.cs 28
    show World.rangeAt _ _ _ _
    simpa using this
  have HB := Lib.hid hb
  have HR := Lib.hid hr
  have HK := Lib.hid hk
  clear hb hr hk
  go_enter Try.func11, Try.ntmps11
  go_wp2_with (refine ldU _ rfl rfl _ _ rfl r HR.out H1.out ?_)
  refine (uRight_any r _ HR.out).mono ?_
  rintro e w1 ⟨rfl, hb1⟩
  have H11 := Lib.hid (range_kept hb1 H1.out)
  have H21 := Lib.hid (range_kept hb1 H2.out)
  have HB1 := Lib.hid (HB.out.trans (hb1.mono HB.out.size))
  clear hb1
  cases hq : rgB r with
  | false =>
    have HQ : Hid ((rgB r && fit k r) = false) := by show _ = _; rw [hq]; rfl
    clear hq
    go_wp2_with fail
    go_ret
    exact ⟨by rw [HQ.out]; rfl, HB1.out⟩
  | true =>
    have HQ := Lib.hid hq
    clear hq
    have HF : Hid (fsi (fit k) [r] = if fit k r then 0 else -1) := by
      show _ = _
      simp [fsi]
    go_wp2_with (first
      | (refine ldUg _ rfl (by rfl) _ _ rfl r HR.out H11.out ?_)
      | (refine bsU 1 _ [r] (by intro x hx; rw [List.mem_singleton.1 hx]; exact HR.out) rfl (by omega) (by omega) rfl (by rfl) (by rfl) ?_; intro w2 hrl hb2 hsz; have HRL := Lib.hid hrl; have H22 := Lib.hid (range_kept hb2 H21.out); have HB2 := Lib.hid (HB1.out.trans (hb2.mono HB1.out.size)); clear hrl hb2)
      | (refine ldKg _ rfl (by rfl) _ _ rfl k HK.out (by exact H22.out) ?_))
    refine (firstFit_any _ 1 1 [r] k _ HRL.out (by omega) HK.out).mono ?_
    rintro e w3 ⟨rfl, hb3⟩
    have HB3 := Lib.hid (HB2.out.trans (hb3.mono HB2.out.size))
    clear hb3
    rw [HF.out]
    cases hf : fit k r with
    | true =>
      have HE : Hid ((rgB r && fit k r) = true) := by show _ = _; rw [HQ.out, hf]; rfl
      clear hf
      simp only [if_true]
      go_wp2_with fail
      go_ret
      exact ⟨by rw [HE.out]; rfl, HB3.out⟩
    | false =>
      have HE : Hid ((rgB r && fit k r) = false) := by show _ = _; rw [HQ.out, hf]; rfl
      clear hf
      simp only [Bool.false_eq_true, if_false]
      go_wp2_with fail
      go_ret
      exact ⟨by rw [HE.out]; rfl, HB3.out⟩

/-- A new row of the call's own of these rules. -/
def MadeU (w : World) (l : List Rl) (e : Ending) (w' : World) : Prop := ∃ a n c, e = .returned (.slice a n c) ∧ OwnU w' w.heap.size a n c l ∧ Below w.heap.size w w'
theorem eqIn_nilU (w : World) (d : Nat) (a : Addr) (n c : Nat) : (Op.equalIn (d + 1) 22 (.slice (some a) n c) (.slice none 0 0)).run Try.prog w = .ok false w := by
  simp [Op.equalIn, run_underlying Try.underlying22]
theorem eq_nilU (w : World) (a : Addr) (n c : Nat) : (binOp .eql 22 (.slice (some a) n c) (.slice none 0 0)).run Try.prog w = .ok (.bool false) w := by
  have h := eqIn_nilU w 9999 a n c
  simp only [binOp, Op.equal, Op.maxDepth, Sem.run_bind]
  rw [show (10000 : Nat) = 9999 + 1 from rfl, h]
  rfl
theorem eqIn_nilN (w : World) (d : Nat) : (Op.equalIn (d + 1) 22 (.slice none 0 0) (.slice none 0 0)).run Try.prog w = .ok true w := by
  simp [Op.equalIn, run_underlying Try.underlying22]
theorem eq_nilN (w : World) : (binOp .eql 22 (.slice none 0 0) (.slice none 0 0)).run Try.prog w = .ok (.bool true) w := by
  have h := eqIn_nilN w 9999
  simp only [binOp, Op.equal, Op.maxDepth, Sem.run_bind]
  rw [show (10000 : Nat) = 9999 + 1 from rfl, h]
  rfl
theorem own_empty (w : World) : OwnU (w.alloc (.cells #[] 43)) w.heap.size (some ⟨w.heap.size, 0, none⟩) 0 0 [] :=
  ⟨rfl, (fun r hr => by cases hr), by rfl, .inr ⟨w.heap.size, 0, #[], rfl, Nat.le_refl _, Blk_new w _ _, Nat.le_refl _, Nat.zero_le _, rfl, rfl⟩⟩
set_option maxRecDepth 100000 in
set_option maxHeartbeats 1000000 in
theorem uClone_any (a : Option Addr) (n c : Nat) (l : List Rl) (w : World) (hl : Rls w a n l) (hn : n ≤ 1000) (hc : a = none → c = 0) : Calls Try.prog 17 #[.slice a n c] w (MadeU w l) := by
  cases a with
  | none =>
    have hy : l = [] := by
      cases l with
      | nil => rfl
      | cons y ys => obtain ⟨_, _, h, _⟩ := hl.cells (by simp); cases h
    subst hy
    have hm := hl.len
    simp at hm
    subst hm
    rw [hc rfl]
    have HF : Hid (MadeU w [] (.returned (.slice none 0 0)) w) := ⟨none, 0, 0, rfl, OwnU.nil _ _, Below.refl _ _⟩
    have he := eq_nilN w
    go_enter Try.func17, Try.ntmps17
    go_wp2_with fail
    go_ret
    exact HF.out
  | some ad =>
    obtain ⟨a', cap', w1, hrun, hown, hg, hb⟩ := run_append_rls (w.alloc (.cells #[] 43)) w.heap.size 22 (own_empty w) c (hl.below ((Below.refl _ _).alloc (Nat.le_refl _) _)) (by omega) (by simp)
    rw [List.nil_append, Nat.zero_add] at hown
    rw [Nat.zero_add] at hrun
    have HR := Lib.hid hrun
    have HF : Hid (MadeU w l (.returned (.slice a' n cap')) w1) := ⟨a', n, cap', rfl, hown, ((Below.refl _ _).alloc (Nat.le_refl _) _).grown hg (by simp) (fun k hk => by simp [blk] at hk; omega)⟩
    clear hrun hown hg hb hl hn
    have he := eq_nilU w ad n c
    go_enter Try.func17, Try.ntmps17
    go_wp2_with (at_builtin; refine Lib.wpList_append_run _ rfl _ _ _ _ rfl _ _ rfl rfl _ _ HR.out ?_)
    go_ret
    exact HF.out
end Go.Proofs.Ytgnhbhgpkihpmaa

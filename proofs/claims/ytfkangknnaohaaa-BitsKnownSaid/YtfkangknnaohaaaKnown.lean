/-
  BitsKnown: the statement's function, which takes nothing, answers true. No conditions.
-/
import Derived.Test.YtfkangknnaohaaaKnownB
import Derived.Test.YtfkangknnaohaaaGets
import Derived.Test.YtfkangknnaohaaaNone
import Derived.Test.YtfkangknnaohaaaBack
import Derived.Test.YtfkangknnaohaaaReads
import Derived.Test.YtfkangknnaohaaaWrites
namespace Go.Proofs.Ytfkangknnaohaaa
open Go.ChangeShapes Go.WideShapes Go.ChangeAt Go.RowKit

theorem u64_wrap (n : Int) : (Lit.int .u64 (IntKind.u64.wrap n)).wf = true := by
  rw [IntKind.wrap_u64]
  exact WalkArith.wf_u64 (by omega)

theorem two_lits (w : World) (x y : Int) : RdK .u64 ((w.alloc (.cells #[.int .u64 x] 28)).alloc (.cells #[.int .i64 y] 3)) (some ⟨w.heap.size, 0, none⟩) [x] ∧
    RdK .i64 ((w.alloc (.cells #[.int .u64 x] 28)).alloc (.cells #[.int .i64 y] 3)) (some ⟨w.heap.size + 1, 0, none⟩) [y] := by
  constructor
  · exact (RdK.lit .u64 w 28 [x]).below ((Below.refl _ _).alloc (Nat.le_refl _) _)
  · have h := RdK.lit .i64 (w.alloc (.cells #[.int .u64 x] 28)) 3 [y]
    have e : (w.alloc (.cells #[.int .u64 x] 28)).heap.size = w.heap.size + 1 := by simp
    rw [e] at h
    exact h

theorem lit_wf : ∀ y ∈ ([-13, 2, -10, 8, -11, -400, 9, 0, 8, 8, 8, 1, -10] : List Int), (Lit.int .i64 y).wf = true := by decide
theorem one_wf : ∀ y ∈ ([9223372036854775808] : List Int), (Lit.int .u64 y).wf = true := by decide
theorem eight_wf : ∀ y ∈ ([8] : List Int), (Lit.int .i64 y).wf = true := by decide
theorem u64_top : U64 18446744073709551615 := ⟨by omega, by rw [pw_eight]; omega⟩

theorem KSt.last {w wr : World} {ba : Option Addr} {nb bc : Nat} {bs : List Int} {la : Option Addr} {nl lc : Nat} {ls : List Int} {sa : Option Addr} {ns sc : Nat} {ss : List Int} {g na ac : Nat} {ts : List ActV} {t : ActV}
    (h : KSt w wr ba nb bc bs la nl lc ls sa ns sc ss (some ⟨g, 0, none⟩) (na + 1) ac (ts ++ [t])) :
    wr.cell? ⟨g, na * 5, none⟩ = some (.int .i64 t.d) ∧ wr.cell? ⟨g, na * 5 + 1, none⟩ = some (.int .i64 t.p) ∧ wr.cell? ⟨g, na * 5 + 2, none⟩ = some (.int .u64 t.v) ∧ wr.cell? ⟨g, na * 5 + 3, none⟩ = some (.int .i64 t.k) ∧ wr.cell? ⟨g, na * 5 + 4, none⟩ = some (.slice t.a t.n t.c) := by
  have hl : ts.length = na := by have := h.t.alen; simp at this; omega
  obtain ⟨b, o, e, hc⟩ := h.t.acts (by simp)
  simp only [Option.some.injEq, Addr.mk.injEq, and_true] at e
  obtain ⟨rfl, rfl⟩ := e
  have hg : (ts ++ [t])[na]'(by simp; omega) = t := by
    rw [List.getElem_append_right (by omega)]; simp
  have h0 := hc na (by simp; omega) 0 (.int .i64 t.d) (by rw [hg]; rfl)
  have h1 := hc na (by simp; omega) 1 (.int .i64 t.p) (by rw [hg]; rfl)
  have h2 := hc na (by simp; omega) 2 (.int .u64 t.v) (by rw [hg]; rfl)
  have h3 := hc na (by simp; omega) 3 (.int .i64 t.k) (by rw [hg]; rfl)
  have h4 := hc na (by simp; omega) 4 (.slice t.a t.n t.c) (by rw [hg]; rfl)
  simp only [Nat.zero_add, Nat.add_zero] at h0 h1 h2 h3 h4
  exact ⟨h0, h1, h2, h3, h4⟩

set_option maxRecDepth 100000 in
set_option maxHeartbeats 4000000 in
theorem known_any (w : World) : Calls Try.prog 8 #[] w fun e w' => e = .returned (.bool true) ∧ Below w.heap.size w w' := by
  have H0 := Lib.hid (KSt.start w)
  go_enter Try.func8, Try.ntmps8
  go_wp2_with fail
  go_loopw [1, 2, 3, 4, 5] (fun b l s t i wr => ∃ (k bc lc sc ac : Nat) (ba la sa aa : Option Addr), k ≤ 36 ∧ i = .int .i64 k ∧ b = .slice ba k bc ∧ l = .slice la k lc ∧ s = .slice sa k sc ∧ t = .slice aa k ac ∧ Hid (∃ bs ls ss ts, KSt w wr ba k bc bs la k lc ls sa k sc ss aa k ac ts)) (fun _ _ _ _ i _ => 36 - (intOf i).toNat)
  case atStart => exact ⟨0, 0, 0, 0, 0, none, none, none, none, by omega, rfl, rfl, rfl, rfl, rfl, [], [], [], [], H0.out⟩
  case round =>
    obtain ⟨k, bc, lc, sc, ac, ba, la, sa, aa, hk, rfl, rfl, rfl, rfl, rfl, hst⟩ := hrel
    obtain ⟨bs, ls, ss, ts, hst⟩ := hst.out
    have HK := Lib.hid hst
    clear hst
    obtain ⟨wo, rfl⟩ : ∃ wo : World, wo = wr := ⟨_, rfl⟩
    by_cases hlt : k < 36
    · have HVW := Lib.hid (u64_wrap (IntKind.u64.wrap (pw (k % 9) - 1 + (k : Int) / 9 % 3) - 1))
      obtain ⟨g1, c1, w1, hrun1, hk1⟩ := HK.out.addB ((k : Int) * 37 % 256) (by omega) (by omega) (by omega)
      obtain ⟨g2, c2, w2, hrun2, hk2⟩ := hk1.addL _ HVW.out (by omega)
      obtain ⟨g3, c3, w3, hrun3, hk3⟩ := hk2.addS ((k : Int) * 5 % 11 - 1) (WalkArith.wf_i64 (by omega)) (by omega)
      obtain ⟨g4, c4, w4, hrun4, hk4⟩ := hk3.addT ((k : Int) % 4) ((k : Int) * 7 % 20 - 1) _ ((k : Int) * 3 % 10 - 1) (k % 7 % (k + 1)) (WalkArith.wf_i64 (by omega)) (WalkArith.wf_i64 (by omega)) HVW.out (WalkArith.wf_i64 (by omega)) (by have := Nat.mod_lt (k % 7) (show 0 < k + 1 by omega); omega) (by omega)
      have hcap := hk1.b.le
      unfold maxLen at hcap
      obtain ⟨hc1, hc2⟩ := hcap
      have hmle : k % 7 % (k + 1) ≤ k + 1 := by have := Nat.mod_lt (k % 7) (show 0 < k + 1 by omega); omega
      have j1 : (0 : Int) ≤ (k : Int) % 7 % ((k : Int) + 1) := Int.emod_nonneg _ (by omega)
      have j2 : (k : Int) % 7 % ((k : Int) + 1) ≤ (c1 : Int) := by have := Int.emod_lt_of_pos ((k : Int) % 7) (show (0 : Int) < (k : Int) + 1 by omega); omega
      have HR1 := Lib.hid hrun1
      have HR2 := Lib.hid hrun2
      have HR3 := Lib.hid hrun3
      have HR4 := Lib.hid hrun4
      have HK4 := Lib.hid hk4
      clear hrun1 hrun2 hrun3 hrun4 hk1 hk2 hk3 hk4
      go_wp2_with fail
      refine (power_any _ _ (by omega) (by omega)).mono ?_
      rintro e w5 ⟨rfl, rfl⟩
      go_wp2_with (first
        | (at_builtin; refine Lib.wpList_append_run _ rfl (.tmp 20) (.tmp 24) _ _ rfl _ _ rfl rfl _ _ HR1.out ?_)
        | (at_builtin; refine Lib.wpList_append_run _ rfl (.tmp 26) (.tmp 28) _ _ rfl _ _ rfl rfl _ _ HR2.out ?_)
        | (at_builtin; refine Lib.wpList_append_run _ rfl (.tmp 30) (.tmp 35) _ _ rfl _ _ rfl rfl _ _ HR3.out ?_)
        | (at_builtin; go_must (refine Lib.wpList_append_run _ rfl (.tmp 37) (.tmp 57) _ _ rfl _ _ rfl rfl _ _ HR4.out ?_))
        | fail)
      have hlenl := HK4.out.l.le
      have hlens := HK4.out.s.le
      unfold maxLen at hlenl hlens
      obtain ⟨hl1, hl2⟩ := hlenl
      obtain ⟨hs1, hs2⟩ := hlens
      refine (gets_any _ _ _ _ _ _ _ _ HK4.out.b.len hc1 (by omega) HK4.out.b.rd HK4.out.byt (by omega) (u64_of HVW.out)).mono ?_
      rintro e w5 ⟨rfl, hb5⟩
      have HK5 := Lib.hid (HK4.out.below hb5)
      clear hb5
      go_wp2_with fail
      refine (back_any _ _ _ _ _ _ _ _ _ _ _ HK5.out.l.len hl1 (by omega) HK5.out.l.rdk HK5.out.lw HK5.out.s.len hs1 (by omega) HK5.out.s.rdk HK5.out.sw (by omega) (by omega) (u64_of HVW.out)).mono ?_
      rintro e w6 ⟨rfl, hb6⟩
      have HK6 := Lib.hid (HK5.out.below hb6)
      clear hb6
      obtain ⟨q0, q1, q2, q3, q4⟩ := HK6.out.last
      go_wp2_with fail
      refine (none_any _ _ _ _ _ _ _ _).mono ?_
      rintro e w7 ⟨rfl, hb7⟩
      have HK7 := Lib.hid (HK6.out.below hb7)
      clear hb7 q0 q1 q2 q3 q4
      go_wp2_with fail
      go_roundw
      case rel => exact ⟨k + 1, c1, c2, c3, c4, _, _, _, _, by omega, by go_num, rfl, rfl, rfl, rfl, _, _, _, _, HK7.out⟩
      case measure => simp [intOf]; omega
    · obtain rfl : k = 36 := by omega
      have hb := HK.out.b.le
      have hs := HK.out.s.le
      have ht := HK.out.t.le
      unfold maxLen at hb hs ht
      obtain ⟨hb1, hb2⟩ := hb
      obtain ⟨hs1, hs2⟩ := hs
      obtain ⟨ht1, ht2⟩ := ht
      clear H0 hst
      go_wp2_with fail
      refine (writes_any _ _ _ _ _ HK.out.t.alen (by omega) HK.out.t.acts HK.out.tok).mono ?_
      rintro e w1 ⟨rfl, hw1⟩
      have HK1 := Lib.hid (HK.out.below hw1)
      clear hw1
      go_wp2_with fail
      refine (reads_any _ _ _ _ _ _ _ _ _ HK1.out.b.len hb1 (by omega) HK1.out.b.rd HK1.out.byt HK1.out.s.len hs1 (by omega) HK1.out.s.rdk HK1.out.sw).mono ?_
      rintro e w2 ⟨rfl, hw2⟩
      have HK2 := Lib.hid (HK1.out.below hw2)
      clear hw2
      have HL2 := Lib.hid (RdK.lit .i64 w2 3 [-13, 2, -10, 8, -11, -400, 9, 0, 8, 8, 8, 1, -10])
      have HB2 : Hid (Below w.heap.size w (w2.alloc (.cells ([-13, 2, -10, 8, -11, -400, 9, 0, 8, 8, 8, 1, -10].map (Value.int .i64)).toArray 3))) := HK2.out.bel.alloc HK2.out.bel.size _
      have HKa := Lib.hid (HK2.out.below ((Below.refl w2.heap.size w2).alloc (Nat.le_refl _) (.cells ([-13, 2, -10, 8, -11, -400, 9, 0, 8, 8, 8, 1, -10].map (Value.int .i64)).toArray 3)))
      go_wp2_with fail
      refine (reads_any _ _ _ bs _ _ _ [-13, 2, -10, 8, -11, -400, 9, 0, 8, 8, 8, 1, -10] _ HKa.out.b.len hb1 (by omega) HKa.out.b.rd HKa.out.byt (by rfl) (by omega) (by omega) HL2.out lit_wf).mono ?_
      rintro e w3 ⟨rfl, hw3⟩
      have HB3 : Hid (Below w.heap.size w w3) := HB2.out.trans (hw3.mono HB2.out.size)
      clear hw3
      go_wp2_with fail
      refine (gets_any _ _ _ [] _ _ _ _ (by rfl) (by omega) (by omega) (Rd.empty _ _) Byt.nil (by omega) u64_top).mono ?_
      rintro e w4 ⟨rfl, hw4⟩
      have HB4 : Hid (Below w.heap.size w w4) := HB3.out.trans (hw4.mono HB3.out.size)
      clear hw4
      have HL4 := Lib.hid (two_lits w4 9223372036854775808 8)
      have HB5 : Hid (Below w.heap.size w ((w4.alloc (.cells #[.int .u64 9223372036854775808] 28)).alloc (.cells #[.int .i64 8] 3))) :=
        (HB4.out.alloc HB4.out.size _).alloc (by have := HB4.out.size; simp; omega) _
      go_wp2_with fail
      refine (back_any _ _ _ [9223372036854775808] _ _ _ [8] _ _ _ (by rfl) (by omega) (by omega) HL4.out.1 one_wf (by rfl) (by omega) (by omega) HL4.out.2 eight_wf (by omega) (by omega) (u64_small (by omega) (by omega))).mono ?_
      rintro e w5 ⟨rfl, hw5⟩
      have HB6 : Hid (Below w.heap.size w w5) := HB5.out.trans (hw5.mono HB5.out.size)
      clear hw5
      go_wp2_with fail
      refine (works_any _).mono ?_
      rintro e w6 ⟨rfl, hw6⟩
      have HB7 : Hid (Below w.heap.size w w6) := HB6.out.trans (hw6.mono HB6.out.size)
      clear hw6
      go_wp2_with fail
      go_ret
      exact ⟨rfl, HB7.out⟩
end Go.Proofs.Ytfkangknnaohaaa

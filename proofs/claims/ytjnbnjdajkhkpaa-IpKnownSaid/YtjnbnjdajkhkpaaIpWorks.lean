/-
  The contract of the statements' own small test for layer 5. No conditions.
-/
import Derived.Test.YtjnbnjdajkhkpaaIpPut
import Derived.Test.YtjnbnjdajkhkpaaIpParse
import Derived.Test.YtjnbnjdajkhkpaaIpOptF
import Derived.Test.YtjnbnjdajkhkpaaRefRows
namespace Go.Proofs.Ytjnbnjdajkhkpaa
open Go.RowKit

/-- The chapter's example of a header. -/
def hdE : Hd := ⟨0, 20, 0, false, false, 0, 1, 6, [0, 0, 0, 0], [0, 0, 0, 0], none, 0, 0, []⟩
theorem hdE_ok (w : World) : hdE.ok w := ⟨by decide, by decide, by decide, by decide, by decide, by decide, rfl, rfl, byt_lit (by decide), byt_lit (by decide), ⟨rfl, Nat.le_refl _, Nat.zero_le _, Rd.empty _ _, Byt.nil⟩⟩
theorem builtE : Try.prog.built 26 [(1, .int .u16 20), (6, .int .u8 1), (7, .int .u8 6)] = some hdE.cs.toArray := by kernel_rfl
theorem hfullE : (hfull hdE).take 10 = [69, 0, 0, 20, 0, 0, 0, 0, 1, 6] := by decide +kernel
theorem hfullE_len : (hfull hdE).length = 20 := by decide +kernel

/-- Noughts that are made. -/
theorem mk_zero (w : World) (n : Nat) (hn : n ≤ 1000) : ∃ w', (Instr.makeSlice 24 (.int .i64 (n : Int)) (.int .i64 (n : Int))).run Try.prog w = .ok (.slice (some ⟨w.heap.size, 0, none⟩) n n) w' ∧
    Own w' w.heap.size (some ⟨w.heap.size, 0, none⟩) n n (zs n) ∧ Below w.heap.size w w' := by
  obtain ⟨i0, hi, hz0, hz1, hz2⟩ := info_parts u8_info
  obtain ⟨w', h1, h2, h3⟩ := run_makeSlice_full (P := Try.prog) (w := w) w.heap.size 24 5 i0 (.int .u8 0) 1 Try.underlying24 hi hz0 hz1 .i64 .i64 n (by omega) (by rw [hz2]; omega) (by simp only [maxLen]; omega) (Nat.le_refl _)
  refine ⟨w', h1, ⟨zs_length n, ?_⟩, (Below.refl _ _).grown h3 (Nat.le_refl _) (by simp)⟩
  have e : (madeCells (Value.int .u8 0).cells (n * 1)).toList = bv (zs n) := by
    rw [Nat.mul_one]
    apply List.ext_getElem
    · simp [madeCells, bv, zs]
    · intro i h1 h2
      simp [madeCells, bv, zs, Value.cells, Nat.mod_one]
  rw [← e]
  exact h2

set_option maxRecDepth 100000 in
set_option maxHeartbeats 2000000 in
theorem works5_any (w : World) : Calls Try.prog 8 #[] w fun e w' => e = .returned (.bool true) ∧ Below w.heap.size w w' := by
  go_enter Try.func8, Try.ntmps8
  go_wp2_with (refine wpList_build_run (cells := hdE.cs.toArray) rfl 26 _ rfl ?_ ?_; · exact builtE)
  refine (iPut_any hdE _ (hdE_ok _) (by decide)).mono ?_
  rintro e w1 ⟨hb1, ⟨_, a1, n1, c1, rfl, hown⟩ | ⟨hf, _⟩⟩
  · have hl1 := hown.len
    rw [hfullE_len] at hl1
    subst hl1
    have HB1 := Lib.hid hb1
    rcases hown.cases with ⟨_, h0, _⟩ | ⟨g1, _, rfl, _⟩
    · omega
    have HO1 := Lib.hid hown
    clear hb1 hown
    obtain ⟨w2, hmk, hown2, hb2⟩ := mk_zero w1 19 (by omega)
    have hmk' : (Instr.makeSlice 24 (.int .i64 19) (.int .i64 19)).run Try.prog w1 = .ok (.slice (some ⟨w1.heap.size, 0, none⟩) 19 19) w2 := hmk
    have HO2 := Lib.hid hown2
    have HB2 : Hid (Below w.heap.size w w2) := HB1.out.trans (hb2.mono HB1.out.size)
    have HK2 : Hid (Below w1.heap.size w1 w2) := hb2
    clear hmk hown2 hb2
    go_wp2_with fail
    refine (iParse_any _ _ _ (zs 19) _ HO2.out.len HO2.out.rd (byt_lit (by decide)) (by omega) (by omega) (by decide)).mono ?_
    rintro e w3 ⟨hb3, ⟨h0, _⟩ | ⟨_, rfl⟩⟩
    · exact absurd h0 (by decide)
    rw [show psE (zs 19) = 10 from by decide]
    obtain ⟨hp1, _, hp3⟩ := put_new w3 hd0.cs hd0.cs 26 rfl
    have HP3 := Lib.hid hp3
    obtain ⟨w4, hw4⟩ : ∃ x, (w3.alloc (.cells hd0.cs.toArray 26)).setCells w3.heap.size 0 hd0.cs = x := ⟨_, rfl⟩
    rw [hw4] at hp1
    have HK4 : Hid (Below w1.heap.size w1 w4) := HK2.out.trans ((hb3.trans (hp1.mono hb3.size)).mono HK2.out.size)
    have HB4 : Hid (Below w.heap.size w w4) := HB1.out.trans (HK4.out.mono HB1.out.size)
    obtain ⟨w5, hmk2, hown5, hb5⟩ := mk_zero w4 20 (by omega)
    have hmk5 : (Instr.makeSlice 24 (.int .i64 20) (.int .i64 20)).run Try.prog w4 = .ok (.slice (some ⟨w4.heap.size, 0, none⟩) 20 20) w5 := hmk2
    have HO5 := Lib.hid hown5
    have HK5 : Hid (Below w1.heap.size w1 w5) := HK4.out.trans (hb5.mono HK4.out.size)
    have HMK5 := Lib.hid hmk5
    clear hb3 hp1 hp3 hmk2 hmk5 hown5 hb5 HO2 HK2 HB2 HB4 hmk'
    go_wp2_with (first | (refine stH _ _ rfl rfl _ hd0 rfl rfl rfl HP3.out ?_; change wpList _ _ _ _ _ ((w3.alloc (.cells hd0.cs.toArray 26)).setCells w3.heap.size 0 hd0.cs); rw [hw4]; have hmk5' := HMK5.out))
    refine (iParse_any _ _ _ (zs 20) _ HO5.out.len HO5.out.rd (byt_lit (by decide)) (by omega) (by omega) (by decide)).mono ?_
    rintro e w6 ⟨hb6, ⟨h0, _⟩ | ⟨_, rfl⟩⟩
    · exact absurd h0 (by decide)
    rw [show psE (zs 20) = 50 from by decide]
    obtain ⟨hp1, _, hp3⟩ := put_new w6 hd0.cs hd0.cs 26 rfl
    have HP6 := Lib.hid hp3
    obtain ⟨w7, hw7⟩ : ∃ x, (w6.alloc (.cells hd0.cs.toArray 26)).setCells w6.heap.size 0 hd0.cs = x := ⟨_, rfl⟩
    rw [hw7] at hp1
    have HK7 : Hid (Below w1.heap.size w1 w7) := HK5.out.trans ((hb6.trans (hp1.mono hb6.size)).mono HK5.out.size)
    obtain ⟨w8, hw8⟩ : ∃ x, w7.alloc (.cells #[.int .u8 1, .int .u8 7, .int .u8 3, .int .u8 9, .int .u8 0, .int .u8 5] 5) = x := ⟨_, rfl⟩
    have HW8 := Lib.hid hw8
    have HR8 : Hid (Rd w8 (some ⟨w7.heap.size, 0, none⟩) [1, 7, 3, 9, 0, 5]) := by
      show Rd _ _ _
      rw [← hw8]
      exact (Own.lit w7 w7.heap.size [1, 7, 3, 9, 0, 5] 6 rfl (by decide) (Nat.le_refl _)).rd
    have HK8 : Hid (Below w1.heap.size w1 w8) := by show Below _ _ _; rw [← hw8]; exact HK7.out.alloc HK7.out.size _
    clear hb6 hp1 hp3 HK5 HO5 HK4 HP3 hw4 hw8 HMK5
    go_wp2_with (first | (refine stH _ _ rfl rfl _ hd0 rfl rfl rfl HP6.out ?_; change wpList _ _ _ _ _ ((w6.alloc (.cells hd0.cs.toArray 26)).setCells w6.heap.size 0 hd0.cs); rw [hw7]))
    rw [HW8.out]
    refine (iOptions_any (some ⟨w7.heap.size, 0, none⟩) 6 6 [1, 7, 3, 9, 0, 5] _ rfl HR8.out (byt_lit (by decide)) (by omega) (by omega)).mono ?_
    rintro e w9 ⟨hb9, ⟨v9, n9, c9, os, hos, rfl, hopts⟩ | ⟨h0, _⟩⟩
    · rw [show opts [1, 7, 3, 9, 0, 5] = some [(7, [9])] from by decide] at hos
      have hos' : os.map Op1.at_ = [(7, [9])] := (Option.some.inj hos).symm
      match os, hos', hopts with
      | [⟨k0, a0, n0, c0, x0⟩], hos', hopts =>
        simp only [List.map_cons, List.map_nil, Op1.at_, List.cons.injEq, Prod.mk.injEq, and_true] at hos'
        obtain ⟨rfl, rfl⟩ := hos'
        have hl9 : n9 = 1 := hopts.len.symm
        subst hl9
        obtain ⟨g9, rfl, hc9⟩ := hopts.row.cell (by simp [flat, Op1.cs, ocs])
        have d0 := hc9 0 _ rfl
        have d1 := hc9 1 _ rfl
        have hd9 := hopts.data _ (List.mem_singleton.2 rfl)
        have hn0 : n0 = 1 := hd9.len.symm
        subst hn0
        have HD9 := Lib.hid hd9.rd
        have HK9 : Hid (Below w1.heap.size w1 w9) := HK8.out.trans (hb9.mono HK8.out.size)
        have HB9 : Hid (Below w.heap.size w w9) := HB1.out.trans (HK9.out.mono HB1.out.size)
        have hc10 : (10 : Int) ≤ (c1 : Int) := by have := HO1.out.le.1; omega
        have HR10 : Hid (Rd w9 (some ⟨g1, 0, none⟩) [69, 0, 0, 20, 0, 0, 0, 0, 1, 6]) := by
          have := (HO1.out.rd.below HK9.out).cut (q := 0) (m := 10) (by rw [hfullE_len]; omega)
          rw [List.drop_zero, hfullE] at this
          exact this
        obtain ⟨wA, hwA⟩ : ∃ x, w9.alloc (.cells #[.int .u8 69, .int .u8 0, .int .u8 0, .int .u8 20, .int .u8 0, .int .u8 0, .int .u8 0, .int .u8 0, .int .u8 1, .int .u8 6] 5) = x := ⟨_, rfl⟩
        have hbA : Below w9.heap.size w9 wA := by rw [← hwA]; exact (Below.refl _ _).alloc (Nat.le_refl _) _
        have HWA := Lib.hid hwA
        have HRA : Hid (Rd wA (some ⟨w9.heap.size, 0, none⟩) [69, 0, 0, 20, 0, 0, 0, 0, 1, 6]) := by
          show Rd _ _ _
          rw [← hwA]
          exact (Own.lit w9 w9.heap.size [69, 0, 0, 20, 0, 0, 0, 0, 1, 6] 10 rfl (by decide) (Nat.le_refl _)).rd
        have e0 := cell_kept hbA d0
        have e1 := cell_kept hbA d1
        have HBA := Lib.hid hbA
        obtain ⟨wC, hwC⟩ : ∃ x, wA.alloc (.cells #[.int .u8 9] 5) = x := ⟨_, rfl⟩
        have hbC : Below wA.heap.size wA wC := by rw [← hwC]; exact (Below.refl _ _).alloc (Nat.le_refl _) _
        have HWC := Lib.hid hwC
        have HBC := Lib.hid hbC
        have HRC : Hid (Rd wC (some ⟨wA.heap.size, 0, none⟩) [9]) := by
          show Rd _ _ _
          rw [← hwC]
          exact (Own.lit wA wA.heap.size [9] 1 rfl (by decide) (Nat.le_refl _)).rd
        clear hos hopts hc9 hd9 hb9 d0 d1 hbA hbC hwA hwC hw7 HP6 HR8 HW8
        go_wp2_with fail
        rw [HWA.out]
        refine (same_any (some ⟨g1, 0, none⟩) (some ⟨w9.heap.size, 0, none⟩) 10 c1 10 10 [69, 0, 0, 20, 0, 0, 0, 0, 1, 6] [69, 0, 0, 20, 0, 0, 0, 0, 1, 6] _ rfl rfl (HR10.out.below HBA.out) HRA.out (byt_lit (by decide)) (byt_lit (by decide))).mono ?_
        rintro e wB ⟨rfl, rfl⟩
        rw [decide_eq_true rfl]
        go_wp2_with fail
        rw [HWC.out]
        refine (same_any _ _ _ _ _ _ [9] [9] _ rfl rfl ((HD9.out.below HBA.out).below HBC.out) HRC.out (byt_lit (by decide)) (byt_lit (by decide))).mono ?_
        rintro e wB ⟨rfl, rfl⟩
        rw [decide_eq_true rfl]
        go_wp2_with fail
        go_ret
        exact ⟨rfl, (HB9.out.trans (HBA.out.mono HB9.out.size)).trans (HBC.out.mono (HB9.out.trans (HBA.out.mono HB9.out.size)).size)⟩
    · exact absurd h0 (by decide)
  · exact absurd hf (by decide)
end Go.Proofs.Ytjnbnjdajkhkpaa

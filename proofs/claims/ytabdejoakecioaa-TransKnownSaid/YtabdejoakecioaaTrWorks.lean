/-
  The contract of the statements' own small test for layer 7. No conditions.
-/
import Derived.Test.YtabdejoakecioaaTrSound
import Derived.Test.YtabdejoakecioaaTrFlags
import Derived.Test.YtabdejoakecioaaKit
import Derived.Test.YtabdejoakecioaaRefRows
namespace Go.Proofs.Ytabdejoakecioaa
open Go.RowKit

/-- Noughts that are made. -/
def nz (n : Nat) : List Int := List.replicate n 0
theorem nz_byt (n : Nat) : Byt (nz n) := fun x hx => by have := List.eq_of_mem_replicate hx; omega
theorem mk_nz (w : World) (n : Nat) (hn : n ≤ 1000000) : ∃ w', (Instr.makeSlice 24 (.int .i64 (n : Int)) (.int .i64 (n : Int))).run Try.prog w = .ok (.slice (some ⟨w.heap.size, 0, none⟩) n n) w' ∧
    Own w' w.heap.size (some ⟨w.heap.size, 0, none⟩) n n (nz n) ∧ Below w.heap.size w w' := by
  obtain ⟨i0, hi, hz0, hz1, hz2⟩ := info_parts u8_info
  obtain ⟨w', h1, h2, h3⟩ := run_makeSlice_full (P := Try.prog) (w := w) w.heap.size 24 5 i0 (.int .u8 0) 1 Try.underlying24 hi hz0 hz1 .i64 .i64 n (by omega) (by rw [hz2]; omega) (by simp only [maxLen]; omega) (Nat.le_refl _)
  refine ⟨w', h1, ⟨List.length_replicate, ?_⟩, (Below.refl _ _).grown h3 (Nat.le_refl _) (by simp)⟩
  have e : (madeCells (Value.int .u8 0).cells (n * 1)).toList = bv (nz n) := by
    rw [Nat.mul_one]
    apply List.ext_getElem
    · simp [madeCells, bv, nz]
    · intro i h1 h2
      simp [madeCells, bv, nz, Value.cells, Nat.mod_one]
  rw [← e]
  exact h2
theorem byt_of_lit {xs : List Int} (h : ∀ x ∈ xs, 0 ≤ x ∧ x < 256) : Byt xs := h
/-- The segment of the chapter's example. -/
def pW : Pl := { pl0 with pro := 1, ty := 8, dt := [1, 2, 3, 4] }
theorem builtW (a : Option Addr) (n c : Nat) : Try.prog.built 26 [(0, .int .u8 1), (9, .int .u8 8), (11, .slice a n c)] = some (Sg.cs ⟨pW, none, 0, 0, a, n, c⟩).toArray := by kernel_rfl
theorem ptE_W : ptE pW 4 4 = 0 := by decide +kernel
theorem ptB_W : ptB pW [1, 2, 3, 4] [1, 2, 3, 4] = [8, 0, 243, 249, 1, 2, 3, 4] := by decide +kernel
theorem pW_fit : pW.fit := ⟨by decide, by decide, by decide, by decide, by decide, by decide, by decide, by decide, Byt.nil, by decide, by decide, byt_of_lit (by decide)⟩
theorem prE_W : prE 17 [0, 53, 1, 0, 0, 8, 0, 0] = 0 := by decide +kernel
theorem prP_W : (prP 17 [0, 53, 1, 0, 0, 8, 0, 0]).src = 53 ∧ (prP 17 [0, 53, 1, 0, 0, 8, 0, 0]).dst = 256 := by decide +kernel
theorem prE_Z : prE 17 (nz 7) = 10 := by decide +kernel
theorem prE_N : prE 2 [] = 70 := by decide +kernel
theorem fl_W : str (flS 18 6) = { data := #[83, 65] } := by
  have h : flS 18 6 = [83, 65] := by decide +kernel
  rw [h]; rfl
/-- A segment is stored in a block of its own. -/
theorem seg_stored (w w1 : World) (s : Sg) (h : Below w.heap.size w w1) : Below w.heap.size w ((w1.alloc (.cells sg0.cs.toArray 26)).setCells w1.heap.size 0 s.cs) ∧ Below w1.heap.size w1 ((w1.alloc (.cells sg0.cs.toArray 26)).setCells w1.heap.size 0 s.cs) ∧ ((w1.alloc (.cells sg0.cs.toArray 26)).setCells w1.heap.size 0 s.cs).rangeAt w1.heap.size 0 s.cs := by
  obtain ⟨hb, hr, _⟩ := put_new w1 s.cs sg0.cs 26 rfl
  exact ⟨h.trans (hb.mono h.size), hb, hr⟩
theorem below_drewN {B : Nat} {w w' : World} (h : Below B w w') (m : Nat) : Below B w (w'.drewN m) := ⟨h.os, h.tape, h.output, h.size, h.block⟩

set_option maxRecDepth 100000 in
set_option maxHeartbeats 4000000 in
theorem works7_any (w : World) : Calls Try.prog 8 #[] w (Gives w (.bool true)) := by
  have hl1 : Below w.heap.size w (w.alloc (.cells (bv [1, 2, 3, 4]).toArray 5)) := (Below.refl _ _).alloc (Nat.le_refl _) _
  have hr1 : Rd (w.alloc (.cells (bv [1, 2, 3, 4]).toArray 5)) (some ⟨w.heap.size, 0, none⟩) [1, 2, 3, 4] := (Own.lit w w.heap.size [1, 2, 3, 4] 4 rfl (by decide) (Nat.le_refl _)).rd
  have HB1 := Lib.hid hl1
  have HK : Hid (Sg.ok (w.alloc (.cells (bv [1, 2, 3, 4]).toArray 5)) ⟨pW, none, 0, 0, some ⟨w.heap.size, 0, none⟩, 4, 4⟩) := ⟨pW_fit, Row.no_ok _, ⟨rfl, Nat.le_refl _, by show 4 ≤ maxLen; decide, hr1, byt_of_lit (xs := [1, 2, 3, 4]) (by decide)⟩⟩
  have HR1 : Hid (Row.ok (w.alloc (.cells (bv [1, 2, 3, 4]).toArray 5)) ⟨some ⟨w.heap.size, 0, none⟩, 4, 4, [1, 2, 3, 4]⟩) := ⟨rfl, Nat.le_refl _, by show 4 ≤ maxLen; decide, hr1, byt_of_lit (xs := [1, 2, 3, 4]) (by decide)⟩
  clear hl1 hr1
  go_enter Try.func8, Try.ntmps8
  go_wp2_with (refine wpList_build_run (cells := (Sg.cs ⟨pW, none, 0, 0, some ⟨w.heap.size, 0, none⟩, 4, 4⟩).toArray) rfl 26 _ rfl ?_ ?_; · exact builtW _ _ _)
  refine (tPut_any ⟨pW, none, 0, 0, some ⟨w.heap.size, 0, none⟩, 4, 4⟩ (some ⟨w.heap.size, 0, none⟩) (some ⟨w.heap.size, 0, none⟩) 4 4 4 4 [1, 2, 3, 4] [1, 2, 3, 4] _ HK.out HR1.out HR1.out (Nat.zero_le _) (.inl (by show 4 ≤ 300; decide))).mono ?_
  rintro e w2 ⟨a2, n2, c2, rfl, hown, hb2⟩
  rw [show ptE (Sg.mk pW none 0 0 (some ⟨w.heap.size, 0, none⟩) 4 4).p 4 4 = 0 from ptE_W]
  rw [show ptB (Sg.mk pW none 0 0 (some ⟨w.heap.size, 0, none⟩) 4 4).p [1, 2, 3, 4] [1, 2, 3, 4] = [8, 0, 243, 249, 1, 2, 3, 4] from ptB_W] at hown
  have HN2 : Hid (n2 = 8) := hown.len.symm
  have HO2 := Lib.hid hown.rd
  have HB2 := Lib.hid (HB1.out.trans (hb2.mono HB1.out.size))
  clear hown hb2 HK HR1 HB1
  have hl3 : Below w2.heap.size w2 (w2.alloc (.cells (bv [0, 53, 1, 0, 0, 8, 0, 0]).toArray 5)) := (Below.refl _ _).alloc (Nat.le_refl _) _
  have HR3 : Hid (Row.ok (w2.alloc (.cells (bv [0, 53, 1, 0, 0, 8, 0, 0]).toArray 5)) ⟨some ⟨w2.heap.size, 0, none⟩, 8, 8, [0, 53, 1, 0, 0, 8, 0, 0]⟩) := ⟨rfl, Nat.le_refl _, by show 8 ≤ maxLen; decide, (Own.lit w2 w2.heap.size [0, 53, 1, 0, 0, 8, 0, 0] 8 rfl (by decide) (Nat.le_refl _)).rd, byt_of_lit (xs := [0, 53, 1, 0, 0, 8, 0, 0]) (by decide)⟩
  have HB3 := Lib.hid hl3
  clear hl3
  go_wp2_with fail
  refine (tParse_any 17 (some ⟨w2.heap.size, 0, none⟩) 8 8 [0, 53, 1, 0, 0, 8, 0, 0] _ HR3.out (by decide)).mono ?_
  rintro e w4 ⟨⟨s4, rfl, hp4, _, _, _⟩, hb4⟩
  rw [prE_W]
  have hb24 := HB3.out.trans (hb4.mono HB3.out.size)
  have HS4 := Lib.hid (seg_stored w w4 s4 (HB2.out.trans (hb24.mono HB2.out.size)))
  have H24 := Lib.hid hb24
  have HP4 : Hid (s4.p.src = 53 ∧ s4.p.dst = 256) := by show _ ∧ _; rw [hp4]; exact prP_W
  have HT4 : Hid ((w4.alloc (.cells sg0.cs.toArray 26)).there w4.heap.size 0 12) := there_new _ _ _ _ rfl _ rfl
  clear hb24 hb4 hp4 HB3 HR3
  go_upto_region 4 with (refine stN (fun w' => Hid (Below w.heap.size w w' ∧ Below w4.heap.size w4 w' ∧ w'.rangeAt w4.heap.size 0 s4.cs)) 26 (.tmp 4) (.tmp 22) rfl rfl w4.heap.size 0 s4.cs rfl rfl HT4.out infS (Sg.one _) HS4 ?_; intro w5 H5)
  obtain ⟨b4, hb⟩ : ∃ x, w4.heap.size = x := ⟨_, rfl⟩
  have HO5 : Hid (Rd w5 a2 [8, 0, 243, 249, 1, 2, 3, 4]) := (HO2.out.below H24.out).below H5.out.2.1
  have HR5 : Hid (w5.rangeAt b4 0 s4.cs) := by show World.rangeAt _ _ _ _; rw [← hb]; exact H5.out.2.2
  have HB5 : Hid (Below w.heap.size w w5) := H5.out.1
  rw [hb]
  clear hb HS4 H24 HT4 H5 HO2 HB2
  obtain ⟨w6, hmk, hown6, hb6⟩ := mk_nz w5 7 (by omega)
  have hmk' : (Instr.makeSlice 24 (.int .i64 7) (.int .i64 7)).run Try.prog w5 = .ok (.slice (some ⟨w5.heap.size, 0, none⟩) 7 7) w6 := hmk
  have HR6 : Hid (Row.ok w6 ⟨some ⟨w5.heap.size, 0, none⟩, 7, 7, nz 7⟩) := ⟨rfl, Nat.le_refl _, by show 7 ≤ maxLen; decide, hown6.rd, nz_byt 7⟩
  have HB6 := Lib.hid hb6
  clear hmk hown6 hb6
  go_wp2_with fail
  refine (tParse_any 17 (some ⟨w5.heap.size, 0, none⟩) 7 7 (nz 7) _ HR6.out (by decide)).mono ?_
  rintro e w7 ⟨⟨s7, rfl, _, _, _, _⟩, hb7⟩
  rw [prE_Z]
  have H57 := Lib.hid (HB6.out.trans (hb7.mono HB6.out.size))
  have HS7 := Lib.hid (seg_stored w w7 s7 (HB5.out.trans (H57.out.mono HB5.out.size)))
  have HT7 : Hid ((w7.alloc (.cells sg0.cs.toArray 26)).there w7.heap.size 0 12) := there_new _ _ _ _ rfl _ rfl
  clear hb7 HB6 HR6 hmk'
  go_upto_region 5 with (refine stN (fun w' => Hid (Below w.heap.size w w' ∧ Below w7.heap.size w7 w' ∧ w'.rangeAt w7.heap.size 0 s7.cs)) 26 (.tmp 6) (.tmp 27) rfl rfl w7.heap.size 0 s7.cs rfl rfl HT7.out infS (Sg.one _) HS7 ?_; intro w8 H8)
  have HO8 : Hid (Rd w8 a2 [8, 0, 243, 249, 1, 2, 3, 4]) := (HO5.out.below H57.out).below H8.out.2.1
  have HR8 : Hid (w8.rangeAt b4 0 s4.cs) := range_kept H8.out.2.1 (range_kept H57.out HR5.out)
  have HB8 : Hid (Below w.heap.size w w8) := H8.out.1
  clear HS7 H57 HT7 H8 HO5 HR5 HB5
  go_wp2_with fail
  refine (tParse_any 2 none 0 0 [] _ (Row.no_ok _) (by decide)).mono ?_
  rintro e w9 ⟨⟨s9, rfl, _, _, _, _⟩, hb9⟩
  rw [prE_N]
  have HS9 := Lib.hid (seg_stored w w9 s9 (HB8.out.trans (hb9.mono HB8.out.size)))
  have H89 := Lib.hid hb9
  have HT9 : Hid ((w9.alloc (.cells sg0.cs.toArray 26)).there w9.heap.size 0 12) := there_new _ _ _ _ rfl _ rfl
  clear hb9
  go_upto_region 6 with (refine stN (fun w' => Hid (Below w.heap.size w w' ∧ Below w9.heap.size w9 w' ∧ w'.rangeAt w9.heap.size 0 s9.cs)) 26 (.tmp 8) (.tmp 31) rfl rfl w9.heap.size 0 s9.cs rfl rfl HT9.out infS (Sg.one _) HS9 ?_; intro wA HA)
  have HOA : Hid (Rd wA a2 [8, 0, 243, 249, 1, 2, 3, 4]) := (HO8.out.below H89.out).below HA.out.2.1
  have HRA : Hid (wA.rangeAt b4 0 s4.cs) := range_kept HA.out.2.1 (range_kept H89.out HR8.out)
  have HBA : Hid (Below w.heap.size w wA) := HA.out.1
  clear HS9 H89 HT9 HA HO8 HR8 HB8
  have hlB : Below wA.heap.size wA (wA.alloc (.cells (bv [8, 0, 243, 249, 1, 2, 3, 4]).toArray 5)) := (Below.refl _ _).alloc (Nat.le_refl _) _
  have HLB := Lib.hid hlB
  have HRB := Lib.hid (Own.lit wA wA.heap.size [8, 0, 243, 249, 1, 2, 3, 4] 8 rfl (by decide) (Nat.le_refl _)).rd
  clear hlB
  go_wp2_with fail
  refine (same_any a2 (some ⟨wA.heap.size, 0, none⟩) n2 c2 8 8 [8, 0, 243, 249, 1, 2, 3, 4] [8, 0, 243, 249, 1, 2, 3, 4] _ HN2.out.symm rfl (HOA.out.below HLB.out) HRB.out (byt_of_lit (by decide)) (byt_of_lit (by decide))).mono ?_
  rintro e wC ⟨rfl, hwC⟩
  rw [decide_eq_true rfl]
  have hbC : Below wA.heap.size wA wC := by rw [← hwC]; exact HLB.out
  have hrC := range_kept hbC HRA.out
  have q1 : wC.cell? ⟨b4, 1, none⟩ = some (.int .u16 53) := by rw [range_cell hrC s4.c1, HP4.out.1]
  have q2 : wC.cell? ⟨b4, 2, none⟩ = some (.int .u16 256) := by rw [range_cell hrC s4.c2, HP4.out.2]
  have HBC := Lib.hid (HBA.out.trans (hbC.mono HBA.out.size))
  clear hwC hbC hrC HLB HRB HOA HRA HBA HP4
  go_wp2_with fail
  refine (tFlags_any 18 _ (by decide) (by decide)).mono ?_
  rintro e wD ⟨rfl, hbD⟩
  have HBD := Lib.hid (HBC.out.trans (hbD.mono HBC.out.size))
  rw [fl_W]
  clear hbD HBC q1 q2
  go_wp2_with fail
  go_ret
  exact ⟨rfl, HBD.out⟩
end Go.Proofs.Ytabdejoakecioaa

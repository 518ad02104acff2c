/-
  The contract of the statements' own small test for layer 6. No conditions.
-/
import Derived.Test.YthipnkaghddbhaaSxRPut
import Derived.Test.YthipnkaghddbhaaKit
namespace Go.Proofs.Ythipnkaghddbhaa
open Go.RowKit

/-- Noughts that are made. -/
def nz (n : Nat) : List Int := List.replicate n 0
theorem nz_byt (n : Nat) : Byt (nz n) := byt_z
theorem mk_nz (w : World) (n : Nat) (hn : n ≤ 1000000) : ∃ w', (Instr.makeSlice 27 (.int .i64 (n : Int)) (.int .i64 (n : Int))).run Try.prog w = .ok (.slice (some ⟨w.heap.size, 0, none⟩) n n) w' ∧
    Own w' w.heap.size (some ⟨w.heap.size, 0, none⟩) n n (nz n) ∧ Below w.heap.size w w' := by
  obtain ⟨i0, hi, hz0, hz1, hz2⟩ := info_parts u8_info
  obtain ⟨w', h1, h2, h3⟩ := run_makeSlice_full (P := Try.prog) (w := w) w.heap.size 27 5 i0 (.int .u8 0) 1 Try.underlying27 hi hz0 hz1 .i64 .i64 n (by omega) (by rw [hz2]; omega) (by simp only [maxLen]; omega) (Nat.le_refl _)
  refine ⟨w', h1, ⟨List.length_replicate, ?_⟩, (Below.refl _ _).grown h3 (Nat.le_refl _) (by simp)⟩
  have e : (madeCells (Value.int .u8 0).cells (n * 1)).toList = bv (nz n) := by
    rw [Nat.mul_one]
    apply List.ext_getElem
    · simp [madeCells, bv, nz]
    · intro i h1 h2
      simp [madeCells, bv, nz, Value.cells, Nat.mod_one]
  rw [← e]
  exact h2
theorem byt_lit {xs : List Int} (h : ∀ x ∈ xs, 0 ≤ x ∧ x < 256) : Byt xs := h
theorem PutCH.some_ {w w' : World} {es : List Ex} {p : Int} {e : Ending} (h : PutCH w es p e w') (hr : rtC es p = true) : Below w.heap.size w w' ∧ ∃ a n cap, e = .returned (.tuple #[.slice a n cap, .int .u8 (cmE es p 0), .int .i64 0]) ∧ Own w' w.heap.size a n cap (chB es p es.length) := by
  rcases h.2 with ⟨_, h2⟩ | ⟨h2, _⟩
  · exact ⟨h.1, h2⟩
  · rw [hr] at h2; cases h2
theorem PCR.some_ {w w' : World} {v : Int × List (Int × List Int) × Int × Int} {e : Ending} (h : PCR w v e w') (hv : v.1 = 0) : Below w.heap.size w w' ∧ ∃ es a n c, e = .returned (.tuple #[.agg #[.slice a n c, .int .u8 v.2.2.1], .int .i64 v.2.2.2, .int .i64 0]) ∧ es.map Ex.two = v.2.1 ∧ OwnC w' w.heap.size a n c es ∧ (0 ≤ v.2.2.1 ∧ v.2.2.1 < 256) := by
  rcases h.2 with ⟨h2, _⟩ | ⟨_, h2⟩
  · exact absurd hv h2
  · exact ⟨h.1, h2⟩
theorem PCR.none_ {w w' : World} {v : Int × List (Int × List Int) × Int × Int} {e : Ending} (h : PCR w v e w') (hv : v.1 ≠ 0) : Below w.heap.size w w' ∧ e = .returned (.tuple #[.agg #[.slice none 0 0, .int .u8 0], .int .i64 0, .int .i64 v.1]) := by
  rcases h.2 with ⟨_, h2⟩ | ⟨h2, _⟩
  · exact ⟨h.1, h2⟩
  · exact absurd h2 hv
theorem frV_one {es : List Ex} (h : es.map Ex.two = [(44, [0, 9, 0, 0, 0, 5])]) : frV es 17 = (1, true, 5, true) := by
  match es, h with
  | [⟨k, a, n, c, xs⟩], h =>
    simp only [List.map_cons, List.map_nil, Ex.two, List.cons.injEq, Prod.mk.injEq, and_true] at h
    obtain ⟨rfl, rfl⟩ := h
    have hw : wd [0, 9, 0, 0, 0, 5] = 9 := by decide +kernel
    have hg : getV [0, 9, 0, 0, 0, 5] 2 4 = 5 := by decide +kernel
    simp [frV, rtC, rtG, rtE, ltE, frG, frX, hw, hg]
/-- A row of one header behind, as it is laid. -/
theorem ch_one (w : World) (x : Ex) (t : TypeId) (h : x.ok w) (hf : x.n ≤ 1099511627776) : Ch (w.alloc (.cells (xcs x).toArray t)) (some ⟨w.heap.size, 0, none⟩) 1 1 [x] := by
  have hb : Below w.heap.size w (w.alloc (.cells (xcs x).toArray t)) := (Below.refl _ _).alloc (Nat.le_refl _) _
  refine ⟨rfl, Nat.le_refl _, by decide, fun _ => ⟨w.heap.size, 0, rfl, fun i y hy => ?_⟩, fun y hy => ?_, fun y hy => ?_⟩
  · cases i with
    | zero =>
      simp only [List.getElem?_cons_zero, Option.some.injEq] at hy
      subst hy
      exact ⟨World.cell?_alloc_new _ _ _ _, World.cell?_alloc_new _ _ _ _⟩
    | succ i => simp at hy
  · rw [List.mem_singleton.1 hy]; exact h.below hb
  · rw [List.mem_singleton.1 hy]; exact hf

set_option maxRecDepth 100000 in
set_option maxHeartbeats 2000000 in
theorem works6_any (w : World) : Calls Try.prog 8 #[] w (Gives w (.bool true)) := by
  obtain ⟨w1, hmk, hown1, hb1⟩ := mk_nz w 6 (by omega)
  have hmk' : (Instr.makeSlice 27 (.int .i64 6) (.int .i64 6)).run Try.prog w = .ok (.slice (some ⟨w.heap.size, 0, none⟩) 6 6) w1 := hmk
  have HCH : Hid (Ch (w1.alloc (.cells #[.int .u8 60, .slice (some ⟨w.heap.size, 0, none⟩) 6 6] 71)) (some ⟨w1.heap.size, 0, none⟩) 1 1 [⟨60, some ⟨w.heap.size, 0, none⟩, 6, 6, nz 6⟩]) :=
    ch_one w1 ⟨60, some ⟨w.heap.size, 0, none⟩, 6, 6, nz 6⟩ 71 ⟨⟨by show (0 : Int) ≤ 60; omega, by show (60 : Int) < 256; omega⟩, rfl, Nat.le_refl _, by show 6 ≤ maxLen; decide, hown1.rd, nz_byt 6⟩ (by show 6 ≤ 1099511627776; omega)
  have HB1 : Hid (Below w.heap.size w (w1.alloc (.cells #[.int .u8 60, .slice (some ⟨w.heap.size, 0, none⟩) 6 6] 71))) := hb1.alloc hb1.size _
  clear hmk hown1 hb1
  go_enter Try.func8, Try.ntmps8
  go_wp2_with fail
  refine (sxPutChain_any _ _ _ _ 6 _ HCH.out (by omega) (by omega)).mono ?_
  intro e w2 h
  obtain ⟨hb2, a2, n2, c2, rfl, hown⟩ := h.some_ (by simp [rtC, rtG, rtE, ltE, knd, nz])
  have hcm : cmE [⟨60, some ⟨w.heap.size, 0, none⟩, 6, 6, nz 6⟩] 6 0 = 60 := rfl
  have hch : chB [⟨60, some ⟨w.heap.size, 0, none⟩, 6, 6, nz 6⟩] 6 1 = [6, 0, 0, 0, 0, 0, 0, 0] := by
    simp [chB, cmE, scE, nz]
  rw [hcm]
  have HO2 : Hid (Own w2 w.heap.size a2 n2 c2 [6, 0, 0, 0, 0, 0, 0, 0]) := by
    show Own _ _ _ _ _ _
    rw [← hch]
    exact hown.mono (by have := HB1.out.size; omega)
  have HB2 := Lib.hid (HB1.out.trans (hb2.mono HB1.out.size))
  have HW2 := Lib.hid HO2.out.rd
  clear hmk' HCH HB1 hb2 hown hcm hch h
  have hl : Below w2.heap.size w2 (w2.alloc (.cells (bv [17, 0, 0, 9, 0, 0, 0, 5]).toArray 5)) := (Below.refl _ _).alloc (Nat.le_refl _) _
  have HL := Lib.hid (Own.lit w2 w2.heap.size [17, 0, 0, 9, 0, 0, 0, 5] 8 rfl (by decide) (Nat.le_refl _)).rd
  have HBL := Lib.hid hl
  clear hl
  go_wp2_with fail
  refine (sxParseChain_any 44 (some ⟨w2.heap.size, 0, none⟩) 8 8 [17, 0, 0, 9, 0, 0, 0, 5] _ (0, [(44, [0, 9, 0, 0, 0, 5])], 17, 8) (by omega) (by omega) rfl HL.out (byt_lit (by decide)) (by omega) (by decide +kernel)).mono ?_
  intro e w3 h
  obtain ⟨hb3, es, a3, n3, c3, rfl, hes, hoc, _⟩ := h.some_ rfl
  have HB3 : Hid (Below w2.heap.size w2 w3) := HBL.out.trans (hb3.mono HBL.out.size)
  have hb4 : Below w3.heap.size w3 (w3.alloc (.cells #[.slice a3 n3 c3, .int .u8 17] 46)) := (Below.refl _ _).alloc (Nat.le_refl _) _
  have HC4 := Lib.hid (hoc.ch.below hb4)
  have HB4 := Lib.hid hb4
  have HFR := Lib.hid (frV_one hes)
  have hz1 : (w3.alloc (.cells #[.slice a3 n3 c3, .int .u8 17] 46)).cell? ⟨w3.heap.size, 1, none⟩ = some (.int .u8 17) := World.cell?_alloc_new _ _ _ _
  have HZ1 := Lib.hid hz1
  clear hb3 hb4 hoc hes h HL HBL hz1
  go_wp2_with fail
  refine (sxFrag_any _ _ _ es 17 _ HC4.out (by omega) (by omega)).mono ?_
  rintro e w5 ⟨rfl, hb5⟩
  rw [HFR.out, show frT (1, true, 5, true) = .tuple #[.int .u16 1, .bool true, .int .u32 5, .bool true] from rfl]
  have HB5 : Hid (Below w2.heap.size w2 w5) := HB3.out.trans ((HB4.out.trans (hb5.mono HB4.out.size)).mono HB3.out.size)
  have HZ5 := Lib.hid (cell_kept hb5 HZ1.out)
  clear hb5 HZ1 HFR HC4
  go_wp2_with fail
  refine (sxParseChain_any 6 none 0 0 [] _ (0, [], 6, 0) (by omega) (by omega) rfl (Rd.empty _ _) Byt.nil (by omega) (by decide +kernel)).mono ?_
  intro e w6 h
  obtain ⟨hb6, es6, a6, n6, c6, rfl, hes6, hoc6, _⟩ := h.some_ rfl
  have hn6 : n6 = 0 := by
    have h1 := hoc6.len
    have h2 := congrArg List.length hes6
    simp at h2
    rw [h2] at h1; simpa using h1.symm
  subst hn6
  have HB6 : Hid (Below w2.heap.size w2 w6) := HB5.out.trans (hb6.mono HB5.out.size)
  have HZ6 := Lib.hid (cell_kept hb6 HZ5.out)
  clear h hb6 hoc6 hes6 HZ5
  obtain ⟨w7, hw7⟩ : ∃ x, w6.alloc (.cells #[.slice a6 0 c6, .int .u8 6] 46) = x := ⟨_, rfl⟩
  have hb7 : Below w6.heap.size w6 w7 := by rw [← hw7]; exact (Below.refl _ _).alloc (Nat.le_refl _) _
  have hy7 : w7.cell? ⟨w6.heap.size, 0, none⟩ = some (.slice a6 0 c6) := by rw [← hw7]; exact World.cell?_alloc_new _ _ _ _
  have HZ7 := Lib.hid (And.intro (cell_kept hb7 HZ6.out) hy7)
  have HB7 : Hid (Below w2.heap.size w2 w7) := HB6.out.trans (hb7.mono HB6.out.size)
  obtain ⟨w8, hmk, hown8, hb8⟩ := mk_nz w7 8 (by omega)
  have hmk' : (Instr.makeSlice 27 (.int .i64 8) (.int .i64 8)).run Try.prog w7 = .ok (.slice (some ⟨w7.heap.size, 0, none⟩) 8 8) w8 := hmk
  have HO8 := Lib.hid hown8.rd
  have HZ8 : Hid (w8.cell? ⟨w3.heap.size, 1, none⟩ = some (.int .u8 17) ∧ w8.cell? ⟨w6.heap.size, 0, none⟩ = some (.slice a6 0 c6)) := ⟨cell_kept hb8 HZ7.out.1, cell_kept hb8 HZ7.out.2⟩
  have HB8 : Hid (Below w2.heap.size w2 w8) := HB7.out.trans (hb8.mono HB7.out.size)
  clear hb7 hy7 hmk hown8 hb8 HB7 HZ7 HZ6 HB6
  go_wp2_with fail
  refine (sxParseChain_any 60 _ 8 8 (nz 8) _ (60, [], 0, 0) (by omega) (by omega) rfl HO8.out (nz_byt 8) (by omega) (by decide +kernel)).mono ?_
  intro e w9 h
  obtain ⟨hb9, rfl⟩ := h.none_ (by decide)
  have hz9 := cell_kept hb9 HZ8.out.1
  have hy9 := cell_kept hb9 HZ8.out.2
  have HB9 : Hid (Below w2.heap.size w2 w9) := HB8.out.trans (hb9.mono HB8.out.size)
  clear h hb9
  obtain ⟨wB, hwB⟩ : ∃ x, w9.alloc (.cells #[.slice none 0 0, .int .u8 0] 46) = x := ⟨_, rfl⟩
  have hbB : Below w9.heap.size w9 wB := by rw [← hwB]; exact (Below.refl _ _).alloc (Nat.le_refl _) _
  obtain ⟨wC, hwC⟩ : ∃ x, wB.alloc (.cells #[.int .u8 6, .int .u8 0, .int .u8 0, .int .u8 0, .int .u8 0, .int .u8 0, .int .u8 0, .int .u8 0] 5) = x := ⟨_, rfl⟩
  have hbC : Below wB.heap.size wB wC := by rw [← hwC]; exact (Below.refl _ _).alloc (Nat.le_refl _) _
  have HRC : Hid (Rd wC (some ⟨wB.heap.size, 0, none⟩) [6, 0, 0, 0, 0, 0, 0, 0]) := by
    show Rd _ _ _
    rw [← hwC]
    exact (Own.lit wB wB.heap.size [6, 0, 0, 0, 0, 0, 0, 0] 8 rfl (by decide) (Nat.le_refl _)).rd
  have hbC2 : Below w9.heap.size w9 wC := hbB.trans (hbC.mono hbB.size)
  have HBC : Hid (Below w2.heap.size w2 wC) := HB9.out.trans (hbC2.mono HB9.out.size)
  have HR2 : Hid (Rd wC a2 [6, 0, 0, 0, 0, 0, 0, 0]) := by
    show Rd _ _ _
    exact HW2.out.below HBC.out
  have hq9 := cell_kept hbC2 hz9
  have hp9 := cell_kept hbC2 hy9
  have HWB := Lib.hid hwB
  have HWC := Lib.hid hwC
  clear hbB hbC hbC2 hz9 hy9 hwB hwC
  go_upto_region 6 with fail
  rw [HWB.out]
  have hwC := HWC.out
  clear HWB HWC
  go_wp2_with fail
  refine (kSame_any a2 (some ⟨wB.heap.size, 0, none⟩) n2 c2 8 8 [6, 0, 0, 0, 0, 0, 0, 0] [6, 0, 0, 0, 0, 0, 0, 0] _ HO2.out.len rfl HR2.out HRC.out (by have := HO2.out.len; simp at this; omega) (by omega)).mono ?_
  rintro e wD ⟨rfl, m, rfl⟩
  rw [decide_eq_true rfl]
  go_wp2_with fail
  go_ret
  exact ⟨rfl, below_drewN (HB2.out.trans (HBC.out.mono HB2.out.size)) m⟩
end Go.Proofs.Ythipnkaghddbhaa

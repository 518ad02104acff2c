/-
  The document's own Parse of layer 5, where it answers a header. Conditions: bytes that lie where the slice leads, fewer than 100,000.
-/
import Derived.Test.YtjnbnjdajkhkpaaIpRParse2
namespace Go.Proofs.Ytjnbnjdajkhkpaa
open Go.RowKit

theorem u16_wrap (x : Int) (h0 : 0 ≤ x) (h1 : x < 65536) : IntKind.u16.wrap x = x := by rw [IntKind.wrap_u16]; omega

set_option maxRecDepth 100000 in
set_option maxHeartbeats 2000000 in
theorem r5Parse_ok (a : Option Addr) (n cap : Nat) (xs : List Int) (w : World) (hn : xs.length = n) (hr : Rd w a xs) (hb : Byt xs) (hl : n ≤ 100000) (hc : n ≤ cap) (hz : szE xs = 0) (hp : psE xs = 0) :
    Calls Try.prog 17 #[.slice a n cap] w fun e w' => e = .returned (.tuple #[.agg (rhc (hdOf (xs.take (szV xs).toNat) none 0 0)).toArray, .int .i64 (szV xs), .int .i64 0]) ∧ Below w.heap.size w w' := by
  have HN := Lib.hid hn
  have HR := Lib.hid hr
  have HB := Lib.hid hb
  obtain ⟨s1, s2⟩ := R5.start w
  have HS : Hid (R5 w (((w.alloc (.cells rh0.toArray 29)).alloc (.cells rh0.toArray 29)).setCells (w.heap.size + 1) 0 rh0)) := s1
  have HT := Lib.hid s2
  obtain ⟨k, hv, k5, k15, kn⟩ := szE_zero hz hb
  have hw2 := wordAt_range hb 2
  have hw6 := wordAt_range hb 6
  have HZ0 := Lib.hid hz
  have HP := Lib.hid hp
  have hq := hb.get 0
  obtain ⟨bb, oo, rfl, hcl⟩ := hr (by intro e; rw [e] at kn; simp at kn; omega)
  have hc0 := hcl 0 (by omega)
  rw [Nat.add_zero] at hc0
  obtain ⟨q, hqq⟩ : ∃ q, xs.getD 0 0 = q := ⟨_, rfl⟩
  rw [hqq] at hq hc0
  have hd16 : q.tdiv 16 = q / 16 := Int.tdiv_eq_ediv_of_nonneg hq.1
  have hm16 : q.tmod 16 = q % 16 := Int.tmod_eq_emod_of_nonneg hq.1
  have h4 : q / 16 = 4 := by
    unfold szE at hz; rw [hqq] at hz
    by_cases e : q / 16 = 4
    · exact e
    · rw [if_neg (by omega), if_pos e] at hz; omega
  obtain ⟨m, hm⟩ : ∃ m : Nat, k * 4 = m := ⟨_, rfl⟩
  have hkq : q % 16 * 4 = (m : Int) := by unfold szV at hv; rw [if_pos hz, hqq] at hv; omega
  have HV : Hid (szV xs = (m : Int)) := by show _ = _; omega
  have hm20 : 20 ≤ m := by omega
  have hm60 : m ≤ 60 := by omega
  have hmn : m ≤ n := by omega
  have G2 : Hid (getV xs 2 2 = wordAt xs 2 ∧ getE xs 2 2 = 0) := get_word xs 2 (by omega)
  have G4 : Hid (getV xs 4 2 = wordAt xs 4 ∧ getE xs 4 2 = 0) := get_word xs 4 (by omega)
  have G6 : Hid (getV xs 6 2 = wordAt xs 6 ∧ getE xs 6 2 = 0) := get_word xs 6 (by omega)
  obtain ⟨T, hT⟩ : ∃ x, wordAt xs 2 = x := ⟨_, rfl⟩
  obtain ⟨I, hI⟩ : ∃ x, wordAt xs 4 = x := ⟨_, rfl⟩
  obtain ⟨F, hF⟩ : ∃ x, wordAt xs 6 = x := ⟨_, rfl⟩
  have HPS : Hid (psE xs = if 32768 ≤ F ∨ T < (m : Int) then 51 else if whl (ws 0 (xs.take m)) = true then 0 else 52) := by
    show psE xs = _
    unfold psE
    rw [if_neg (by omega), HV.out, Int.toNat_natCast, hF, hT]
  have HFIN : Hid (hdOf (xs.take (szV xs).toNat) none 0 0 = ⟨xs.getD 1 0, T, I, decide (F / 16384 % 2 = 1), decide (F / 8192 % 2 = 1), F % 8192, xs.getD 8 0, xs.getD 9 0, (xs.drop 12).take 4, (xs.drop 16).take 4, none, 0, 0, (xs.drop 20).take (m - 20)⟩) := by
    show _ = _
    rw [HV.out, Int.toNat_natCast]
    unfold hdOf
    rw [take_getD _ _ _ (by omega), take_getD _ _ _ (by omega), take_getD _ _ _ (by omega), take_word _ _ _ (by omega), take_word _ _ _ (by omega), take_word _ _ _ (by omega), hT, hI, hF, List.drop_take, List.drop_take, List.drop_take, List.take_take, List.take_take, Nat.min_eq_left (by omega), Nat.min_eq_left (by omega)]
  have hw4 := wordAt_range hb 4
  rw [hI] at hw4
  rw [hT] at G2 hw2
  rw [hI] at G4
  rw [hF] at G6 hw6
  have HYL : Hid ((xs.take m).length = m) := by show _ = _; rw [List.length_take]; omega
  have HYR : Hid (Rd w (some ⟨bb, oo, none⟩) (xs.take m)) := HR.out.taken m
  have HYB : Hid (Byt (xs.take m)) := HB.out.take m
  have hmc : (m : Int) ≤ (cap : Int) := by omega
  have hm0 : (0 : Int) ≤ (m : Int) := by omega
  clear s1 s2 hv k5 k15 kn hcl hqq hT hI hF hm hr hb hn hz hp
  have hnm : ¬ (n : Int) < (m : Int) := by omega
  have hbig : F < 32768 := by
    by_cases hx : 32768 ≤ F
    · have := HP.out; rw [HPS.out, if_pos (.inl hx)] at this; omega
    · omega
  have htm : (m : Int) ≤ T := by
    by_cases hx : T < (m : Int)
    · have := HP.out; rw [HPS.out, if_pos (.inr hx)] at this; omega
    · omega
  have HWF : Hid (whl (ws 0 (xs.take m)) = true) := by
    show _ = _
    cases hx : whl (ws 0 (xs.take m)) with
    | true => rfl
    | false => have := HP.out; rw [HPS.out, if_neg (by omega), hx] at this; simp at this
  obtain ⟨a20, ha20⟩ : ∃ x : Option Addr, (if cap = 20 then some ⟨bb, oo, none⟩ else some ⟨bb, oo + 20, none⟩) = x := ⟨_, rfl⟩
  have HA : Hid ((if cap = 20 then some ⟨bb, oo, none⟩ else some ⟨bb, oo + 20, none⟩) = a20) := ha20
  clear ha20
  have HBT : Hid (bb < w.heap.size) := World.block_lt_of_cell? w ⟨bb, oo + 0, none⟩ (rd_at HR.out (by have := HN.out; omega))
  go_enter Try.func17, Try.ntmps17
  go_wp2_with (first
      | (refine wpList_build_run (cells := rh0.toArray) rfl 29 _ rfl ?_ ?_; · exact builtR0)
      | (refine stN (fun w' => Hid (R5 w w')) 29 (.tmp 5) (.tmp 13) rfl rfl (w.heap.size + 1) 0 rh0 rfl rfl HT.out infRH rh0_one HS ?_; intro wc HF; have hcell := cell_kept HF.out.1 hc0))
  refine (refGet_any _ _ _ xs 2 2 _ HN.out (HR.out.below HF.out.1) HB.out (by omega)).mono ?_
  rintro e wg2 ⟨rfl, rfl⟩
  rw [G2.out.1, G2.out.2]
  go_wp2_with fail
  refine (refGet_any _ _ _ xs 4 2 _ HN.out (HR.out.below HF.out.1) HB.out (by omega)).mono ?_
  rintro e wg4 ⟨rfl, rfl⟩
  rw [G4.out.1, G4.out.2]
  go_wp2_with fail
  refine (refGet_any _ _ _ xs 6 2 _ HN.out (HR.out.below HF.out.1) HB.out (by omega)).mono ?_
  rintro e wg6 ⟨rfl, rfl⟩
  rw [G6.out.1, G6.out.2]
  go_wp2_with fail
  refine (r3Whole_any _ _ _ (xs.take m) _ HYL.out (HYR.out.below HF.out.1) HYB.out (by omega)).mono ?_
  rintro e wh ⟨rfl, hbh⟩
  rw [HWF.out]
  have HX : Hid (R5 w wh) := ⟨HF.out.1.trans (hbh.mono HF.out.1.size), range_kept hbh HF.out.2.1, there_kept hbh HF.out.2.2⟩
  clear hbh hcell
  go_wp2_with fail
  obtain ⟨A, hA⟩ : ∃ x, F / 16384 = x := ⟨_, rfl⟩
  obtain ⟨B, hB⟩ : ∃ x, F / 8192 = x := ⟨_, rfl⟩
  obtain ⟨C, hC⟩ : ∃ x, F % 8192 = x := ⟨_, rfl⟩
  have fA : F.tdiv 16384 = A := by rw [Int.tdiv_eq_ediv_of_nonneg (by omega)]; exact hA
  have fB : F.tdiv 8192 = B := by rw [Int.tdiv_eq_ediv_of_nonneg (by omega)]; exact hB
  have fC : F.tmod 8192 = C := by rw [Int.tmod_eq_emod_of_nonneg (by omega)]; exact hC
  obtain ⟨A2, hA2⟩ : ∃ x, A % 2 = x := ⟨_, rfl⟩
  obtain ⟨B2, hB2⟩ : ∃ x, B % 2 = x := ⟨_, rfl⟩
  have fA2 : A.tmod 2 = A2 := by rw [Int.tmod_eq_emod_of_nonneg (by omega)]; exact hA2
  have fB2 : B.tmod 2 = B2 := by rw [Int.tmod_eq_emod_of_nonneg (by omega)]; exact hB2
  have wA : IntKind.u64.wrap A = A := u64_wrap A (by omega) (by omega)
  have wB : IntKind.u64.wrap B = B := u64_wrap B (by omega) (by omega)
  have wA2 : IntKind.u64.wrap A2 = A2 := u64_wrap A2 (by omega) (by omega)
  have wB2 : IntKind.u64.wrap B2 = B2 := u64_wrap B2 (by omega) (by omega)
  have wC : IntKind.u64.wrap C = C := u64_wrap C (by omega) (by omega)
  have vC : IntKind.u16.wrap C = C := u16_wrap C (by omega) (by omega)
  have vT : IntKind.u16.wrap T = T := u16_wrap T (by omega) (by omega)
  have vI : IntKind.u16.wrap I = I := u16_wrap I (by omega) (by omega)
  obtain ⟨D, hD⟩ : ∃ x, (A2 == 1) = x := ⟨_, rfl⟩
  obtain ⟨M, hM⟩ : ∃ x, (B2 == 1) = x := ⟨_, rfl⟩
  have HFN : Hid (hdOf (xs.take (szV xs).toNat) none 0 0 = ⟨xs.getD 1 0, T, I, D, M, C, xs.getD 8 0, xs.getD 9 0, (xs.drop 12).take 4, (xs.drop 16).take 4, none, 0, 0, (xs.drop 20).take (m - 20)⟩) := by
    show _ = _
    rw [HFIN.out, ← hD, ← hM, ← hA2, ← hB2, ← hA, ← hB, ← hC]
    congr 1
  clear hA hB hC hA2 hB2
  obtain ⟨hh, hhe⟩ : ∃ x, hdOf (xs.take (szV xs).toNat) none 0 0 = x := ⟨_, rfl⟩
  rw [hhe] at HFN
  have HHE := Lib.hid hhe
  clear hhe
  have i12a : (12 : Int) ≤ (cap : Int) := by omega
  have i16a : (16 : Int) ≤ (cap : Int) := by omega
  have i20a : (20 : Int) ≤ (cap : Int) := by omega
  have i20m : (20 : Int) ≤ (m : Int) := by omega
  have i12 : ¬ cap = 12 := by omega
  have i16 : ¬ cap = 16 := by omega
  have ha20 := HA.out
  have hrr : wh.rangeAt bb oo (bv xs) := rd_range (HR.out.below HX.out.1)
  refine wp_region_held_drew (S := fun w' => World.rangeAt w' bb oo (bv xs)) (by kernel_rfl) hrr (fun hS => ?_)
  have HRQ : ∀ w' : World, w'.rangeAt bb oo (bv xs) → Rd w' a20 ((xs.drop 20).take (m - 20)) := fun w' h => by
    rw [← HA.out]
    by_cases hc : cap = 20
    · rw [if_pos hc, show m - 20 = 0 by omega, List.take_zero]; exact Rd.empty _ _
    · rw [if_neg hc]; exact range_rd (range_cut h 20 (m - 20))
  refine tk 0 68 (.slice (some ⟨bb, oo, none⟩) n cap) rfl rfl (by kernel_rfl) (by kernel_rfl) (by kernel_rfl) (fun _ _ _ h => h) (Or.inl ⟨by rfl, fun w' h => ?_⟩) hS ?_
  · go_simp
  refine tk 1 69 (.pointer (some ⟨bb, oo + 1, none⟩)) rfl rfl (by kernel_rfl) (by kernel_rfl) (by kernel_rfl) (fun _ _ _ h => h) (Or.inl ⟨by rfl, fun w' h => ?_⟩) hS ?_
  · have hlt : (1 : Int) < (n : Int) := by omega
    go_simp
  refine tk 2 70 (.int .u8 (xs.getD 1 0)) rfl rfl (by kernel_rfl) (by kernel_rfl) (by kernel_rfl) (fun _ _ _ h => h) (Or.inl ⟨by rfl, fun w' h => ?_⟩) hS ?_
  · have hcell := range_byte h 1 (by rw [HN.out]; omega)
    go_simp
  refine tk 3 71 (.int .u64 T) rfl rfl (by kernel_rfl) (by kernel_rfl) (by kernel_rfl) (fun _ _ _ h => h) (Or.inl ⟨by rfl, fun w' h => ?_⟩) hS ?_
  · go_simp
  refine tk 4 72 (.int .u16 T) rfl rfl (by kernel_rfl) (by kernel_rfl) (by kernel_rfl) (fun _ _ _ h => h) (Or.inl ⟨by rfl, fun w' h => ?_⟩) hS ?_
  · go_simp
  refine tk 5 73 (.int .u64 I) rfl rfl (by kernel_rfl) (by kernel_rfl) (by kernel_rfl) (fun _ _ _ h => h) (Or.inl ⟨by rfl, fun w' h => ?_⟩) hS ?_
  · go_simp
  refine tk 6 74 (.int .u16 I) rfl rfl (by kernel_rfl) (by kernel_rfl) (by kernel_rfl) (fun _ _ _ h => h) (Or.inl ⟨by rfl, fun w' h => ?_⟩) hS ?_
  · go_simp
  try simp only [Act.put, List.setIfInBounds_toArray, List.set_cons_zero, List.set_cons_succ]
  refine tk 7 75 (.int .u64 F) rfl rfl (by kernel_rfl) (by kernel_rfl) (by kernel_rfl) (fun _ _ _ h => h) (Or.inl ⟨by rfl, fun w' h => ?_⟩) hS ?_
  · go_simp
  refine tk 8 76 (.int .u64 A) rfl rfl (by kernel_rfl) (by kernel_rfl) (by kernel_rfl) (fun _ _ _ h => h) (Or.inl ⟨by rfl, fun w' h => ?_⟩) hS ?_
  · go_simp
  refine tk 9 77 (.int .u64 A2) rfl rfl (by kernel_rfl) (by kernel_rfl) (by kernel_rfl) (fun _ _ _ h => h) (Or.inl ⟨by rfl, fun w' h => ?_⟩) hS ?_
  · go_simp
  refine tk 10 78 (.bool D) rfl rfl (by kernel_rfl) (by kernel_rfl) (by kernel_rfl) (fun _ _ _ h => h) (Or.inl ⟨by rfl, fun w' h => ?_⟩) hS ?_
  · go_simp
  refine tk 11 79 (.int .u64 F) rfl rfl (by kernel_rfl) (by kernel_rfl) (by kernel_rfl) (fun _ _ _ h => h) (Or.inl ⟨by rfl, fun w' h => ?_⟩) hS ?_
  · go_simp
  refine tk 12 80 (.int .u64 B) rfl rfl (by kernel_rfl) (by kernel_rfl) (by kernel_rfl) (fun _ _ _ h => h) (Or.inl ⟨by rfl, fun w' h => ?_⟩) hS ?_
  · go_simp
  refine tk 13 81 (.int .u64 B2) rfl rfl (by kernel_rfl) (by kernel_rfl) (by kernel_rfl) (fun _ _ _ h => h) (Or.inl ⟨by rfl, fun w' h => ?_⟩) hS ?_
  · go_simp
  refine tk 14 82 (.bool M) rfl rfl (by kernel_rfl) (by kernel_rfl) (by kernel_rfl) (fun _ _ _ h => h) (Or.inl ⟨by rfl, fun w' h => ?_⟩) hS ?_
  · go_simp
  try simp only [Act.put, List.setIfInBounds_toArray, List.set_cons_zero, List.set_cons_succ]
  refine tk 15 83 (.int .u64 F) rfl rfl (by kernel_rfl) (by kernel_rfl) (by kernel_rfl) (fun _ _ _ h => h) (Or.inl ⟨by rfl, fun w' h => ?_⟩) hS ?_
  · go_simp
  refine tk 16 84 (.int .u64 C) rfl rfl (by kernel_rfl) (by kernel_rfl) (by kernel_rfl) (fun _ _ _ h => h) (Or.inl ⟨by rfl, fun w' h => ?_⟩) hS ?_
  · go_simp
  refine tk 17 85 (.int .u16 C) rfl rfl (by kernel_rfl) (by kernel_rfl) (by kernel_rfl) (fun _ _ _ h => h) (Or.inl ⟨by rfl, fun w' h => ?_⟩) hS ?_
  · go_simp
  refine tk 18 86 (.slice (some ⟨bb, oo, none⟩) n cap) rfl rfl (by kernel_rfl) (by kernel_rfl) (by kernel_rfl) (fun _ _ _ h => h) (Or.inl ⟨by rfl, fun w' h => ?_⟩) hS ?_
  · go_simp
  refine tk 19 87 (.pointer (some ⟨bb, oo + 8, none⟩)) rfl rfl (by kernel_rfl) (by kernel_rfl) (by kernel_rfl) (fun _ _ _ h => h) (Or.inl ⟨by rfl, fun w' h => ?_⟩) hS ?_
  · have hlt : (8 : Int) < (n : Int) := by omega
    go_simp
  refine tk 20 88 (.int .u8 (xs.getD 8 0)) rfl rfl (by kernel_rfl) (by kernel_rfl) (by kernel_rfl) (fun _ _ _ h => h) (Or.inl ⟨by rfl, fun w' h => ?_⟩) hS ?_
  · have hcell := range_byte h 8 (by rw [HN.out]; omega)
    go_simp
  refine tk 21 89 (.slice (some ⟨bb, oo, none⟩) n cap) rfl rfl (by kernel_rfl) (by kernel_rfl) (by kernel_rfl) (fun _ _ _ h => h) (Or.inl ⟨by rfl, fun w' h => ?_⟩) hS ?_
  · go_simp
  refine tk 22 90 (.pointer (some ⟨bb, oo + 9, none⟩)) rfl rfl (by kernel_rfl) (by kernel_rfl) (by kernel_rfl) (fun _ _ _ h => h) (Or.inl ⟨by rfl, fun w' h => ?_⟩) hS ?_
  · have hlt : (9 : Int) < (n : Int) := by omega
    go_simp
  refine tk 23 91 (.int .u8 (xs.getD 9 0)) rfl rfl (by kernel_rfl) (by kernel_rfl) (by kernel_rfl) (fun _ _ _ h => h) (Or.inl ⟨by rfl, fun w' h => ?_⟩) hS ?_
  · have hcell := range_byte h 9 (by rw [HN.out]; omega)
    go_simp
  try simp only [Act.put, List.setIfInBounds_toArray, List.set_cons_zero, List.set_cons_succ]
  refine tk 24 92 (.slice (some ⟨bb, oo, none⟩) n cap) rfl rfl (by kernel_rfl) (by kernel_rfl) (by kernel_rfl) (fun _ _ _ h => h) (Or.inl ⟨by rfl, fun w' h => ?_⟩) hS ?_
  · go_simp
  refine tk 25 93 (.slice (some ⟨bb, oo + 12, none⟩) 4 (cap - 12)) rfl rfl (by kernel_rfl) (by kernel_rfl) (by kernel_rfl) (fun _ _ _ h => h) (Or.inl ⟨by rfl, fun w' h => ?_⟩) hS ?_
  · go_simp
  refine tk 26 94 (.string (str ((xs.drop 12).take 4))) rfl rfl (by kernel_rfl) (by kernel_rfl) (by kernel_rfl) (fun _ _ _ h => h) (Or.inl ⟨by rfl, fun w' h => ?_⟩) hS ?_
  · have hc := run_string_rd (xs := (xs.drop 12).take 4) w' (cap - 12) (n := 4) (a := some ⟨bb, oo + 12, none⟩) (cut4 _ _ (by have := HN.out; omega)) (range_rd (range_cut h 12 4)) ((HB.out.drop 12).take 4)
    go_simp
    rfl
  refine tk 27 95 (.slice (some ⟨bb, oo, none⟩) n cap) rfl rfl (by kernel_rfl) (by kernel_rfl) (by kernel_rfl) (fun _ _ _ h => h) (Or.inl ⟨by rfl, fun w' h => ?_⟩) hS ?_
  · go_simp
  refine tk 28 96 (.slice (some ⟨bb, oo + 16, none⟩) 4 (cap - 16)) rfl rfl (by kernel_rfl) (by kernel_rfl) (by kernel_rfl) (fun _ _ _ h => h) (Or.inl ⟨by rfl, fun w' h => ?_⟩) hS ?_
  · go_simp
  refine tk 29 97 (.string (str ((xs.drop 16).take 4))) rfl rfl (by kernel_rfl) (by kernel_rfl) (by kernel_rfl) (fun _ _ _ h => h) (Or.inl ⟨by rfl, fun w' h => ?_⟩) hS ?_
  · have hc := run_string_rd (xs := (xs.drop 16).take 4) w' (cap - 16) (n := 4) (a := some ⟨bb, oo + 16, none⟩) (cut4 _ _ (by have := HN.out; omega)) (range_rd (range_cut h 16 4)) ((HB.out.drop 16).take 4)
    go_simp
    rfl
  try simp only [Act.put, List.setIfInBounds_toArray, List.set_cons_zero, List.set_cons_succ]
  refine tk 30 98 (.slice (some ⟨bb, oo, none⟩) n cap) rfl rfl (by kernel_rfl) (by kernel_rfl) (by kernel_rfl) (fun _ _ _ h => h) (Or.inl ⟨by rfl, fun w' h => ?_⟩) hS ?_
  · go_simp
  refine tk 31 99 (.int .i64 m) rfl rfl (by kernel_rfl) (by kernel_rfl) (by kernel_rfl) (fun _ _ _ h => h) (Or.inl ⟨by rfl, fun w' h => ?_⟩) hS ?_
  · go_simp
  refine tk 32 100 (.slice a20 (m - 20) (cap - 20)) rfl rfl (by kernel_rfl) (by kernel_rfl) (by kernel_rfl) (fun _ _ _ h => h) (Or.inl ⟨by rfl, fun w' h => ?_⟩) hS ?_
  · rw [← ha20]
    go_simp
  refine tk 33 101 (.string (str ((xs.drop 20).take (m - 20)))) rfl rfl (by kernel_rfl) (by kernel_rfl) (by kernel_rfl) (fun _ _ _ h => h) (Or.inl ⟨by rfl, fun w' h => ?_⟩) hS ?_
  · have hc := run_string_rd (xs := (xs.drop 20).take (m - 20)) w' (cap - 20) (n := m - 20) (a := a20) (by rw [List.length_take, List.length_drop]; have := HN.out; omega) (HRQ w' h) ((HB.out.drop 20).take (m - 20))
    go_simp
    rfl
  try simp only [Act.put, List.setIfInBounds_toArray, List.set_cons_zero, List.set_cons_succ]
  refine tk 34 102 (.agg (rhc hh).toArray) rfl rfl (by kernel_rfl) (by kernel_rfl) (by kernel_rfl) (fun _ _ _ h => h) (yields_build (by rfl) _ _ rfl ?_) hS ?_
  · rw [HFN.out]
    exact builtRH (⟨xs.getD 1 0, T, I, D, M, C, xs.getD 8 0, xs.getD 9 0, (xs.drop 12).take 4, (xs.drop 16).take 4, none, 0, 0, (xs.drop 20).take (m - 20)⟩ : Hd)
  refine tk 35 103 (.int .i64 m) rfl rfl (by kernel_rfl) (by kernel_rfl) (by kernel_rfl) (fun _ _ _ h => h) (Or.inl ⟨by rfl, fun w' h => ?_⟩) hS ?_
  · go_simp
  try simp only [Act.put, List.setIfInBounds_toArray, List.set_cons_zero, List.set_cons_succ]
  refine wpAnyH_ready (rs := [36]) (by kernel_rfl) (by simp) (AllReadyH.cons rfl (fun K hK => ?_) AllReadyH.nil)
  rw [if_pos (by rfl)]
  refine wp_store_mid 29 _ _ rfl w.heap.size 0 (rhc hh).toArray rfl rfl HX.out.2.2 infRH (all_oneCell_toArray (rhc_one _)) ?_
  have hrz : (wh.drew.setCells w.heap.size 0 (rhc hh)).rangeAt bb oo (bv xs) := World.rangeAt_setCells_apart hS _ _ _ (.inl (by have := HBT.out; omega))
  clear hS
  refine hK.out _ _ hrz (fun hS => ?_)
  clear hK K
  try simp only [Act.put, List.setIfInBounds_toArray]
  refine tk 37 3 (.int .i64 m) rfl rfl (by kernel_rfl) (by kernel_rfl) (by kernel_rfl) (fun _ _ _ h => h) (Or.inl ⟨by rfl, fun w' h => ?_⟩) hS ?_
  · go_simp
  refine tk 38 4 (.int .i64 0) rfl rfl (by kernel_rfl) (by kernel_rfl) (by kernel_rfl) (fun _ _ _ h => h) (Or.inl ⟨by rfl, fun w' h => ?_⟩) hS ?_
  · go_simp
  refine wpAnyH_done (by kernel_rfl) ?_ _
  go_wp2_with fail
  refine bodyPost_ret (ret_mid3 Try.results17 _ _ _ _ (rhc hh) _ rfl (World.rangeAt_setCells_same wh.drew _ _ _ HX.out.2.2) Try.underlying29 rfl infRH _ _ rfl rfl) rfl ⟨?_, ?_⟩
  · rw [HHE.out, HV.out]
    rfl
  · have h2 : Below w.heap.size w wh.drew := ⟨HX.out.1.os, HX.out.1.tape, HX.out.1.output, HX.out.1.size, HX.out.1.block⟩
    exact Below.setCells h2 _ (Nat.le_refl _) _ _
end Go.Proofs.Ytjnbnjdajkhkpaa

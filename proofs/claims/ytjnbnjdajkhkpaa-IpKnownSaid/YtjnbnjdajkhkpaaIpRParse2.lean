/-
  The document's own Parse of layer 5, where the numbers or the checksum tell that it is refused. Conditions: bytes that lie where the slice leads, fewer than 100,000.
-/
import Derived.Test.YtjnbnjdajkhkpaaIpRParse
namespace Go.Proofs.Ytjnbnjdajkhkpaa
open Go.RowKit

theorem get_word (xs : List Int) (j : Nat) (h : j + 2 ≤ xs.length) : getV xs (j : Int) 2 = wordAt xs j ∧ getE xs (j : Int) 2 = 0 := by
  have hE : getE xs (j : Int) 2 = 0 := by
    unfold getE
    rw [if_pos (by simp [szB]), if_pos (by omega)]
  refine ⟨?_, hE⟩
  unfold getV
  rw [if_pos hE]
  exact num_two xs j h

set_option maxRecDepth 100000 in
set_option maxHeartbeats 1000000 in
theorem r5Parse_second (a : Option Addr) (n cap : Nat) (xs : List Int) (w : World) (hn : xs.length = n) (hr : Rd w a xs) (hb : Byt xs) (hl : n ≤ 100000) (hc : n ≤ cap) (hz : szE xs = 0) (hp : psE xs ≠ 0) :
    Calls Try.prog 17 #[.slice a n cap] w fun e w' => e = .returned (.tuple #[.agg rh0.toArray, .int .i64 0, .int .i64 (psE xs)]) ∧ Below w.heap.size w w' := by
  have HN := Lib.hid hn
  have HR := Lib.hid hr
  have HB := Lib.hid hb
  obtain ⟨s1, s2⟩ := R5.start w
  have HS : Hid (R5 w (((w.alloc (.cells rh0.toArray 29)).alloc (.cells rh0.toArray 29)).setCells (w.heap.size + 1) 0 rh0)) := s1
  have HT := Lib.hid s2
  obtain ⟨k, hv, k5, k15, kn⟩ := szE_zero hz hb
  have hw2 := wordAt_range hb 2
  have hw6 := wordAt_range hb 6
  have HZ0 := Lib.hid hz
  have HP := Lib.hid hp
  have hq := hb.get 0
  obtain ⟨bb, oo, rfl, hcl⟩ := hr (by intro e; rw [e] at kn; simp at kn; omega)
  have hc0 := hcl 0 (by omega)
  rw [Nat.add_zero] at hc0
  obtain ⟨q, hqq⟩ : ∃ q, xs.getD 0 0 = q := ⟨_, rfl⟩
  rw [hqq] at hq hc0
  have hd16 : q.tdiv 16 = q / 16 := Int.tdiv_eq_ediv_of_nonneg hq.1
  have hm16 : q.tmod 16 = q % 16 := Int.tmod_eq_emod_of_nonneg hq.1
  have h4 : q / 16 = 4 := by
    unfold szE at hz; rw [hqq] at hz
    by_cases e : q / 16 = 4
    · exact e
    · rw [if_neg (by omega), if_pos e] at hz; omega
  obtain ⟨m, hm⟩ : ∃ m : Nat, k * 4 = m := ⟨_, rfl⟩
  have hkq : q % 16 * 4 = (m : Int) := by unfold szV at hv; rw [if_pos hz, hqq] at hv; omega
  have HV : Hid (szV xs = (m : Int)) := by show _ = _; omega
  have hm20 : 20 ≤ m := by omega
  have hm60 : m ≤ 60 := by omega
  have hmn : m ≤ n := by omega
  have G2 : Hid (getV xs 2 2 = wordAt xs 2 ∧ getE xs 2 2 = 0) := get_word xs 2 (by omega)
  have G4 : Hid (getV xs 4 2 = wordAt xs 4 ∧ getE xs 4 2 = 0) := get_word xs 4 (by omega)
  have G6 : Hid (getV xs 6 2 = wordAt xs 6 ∧ getE xs 6 2 = 0) := get_word xs 6 (by omega)
  obtain ⟨T, hT⟩ : ∃ x, wordAt xs 2 = x := ⟨_, rfl⟩
  obtain ⟨I, hI⟩ : ∃ x, wordAt xs 4 = x := ⟨_, rfl⟩
  obtain ⟨F, hF⟩ : ∃ x, wordAt xs 6 = x := ⟨_, rfl⟩
  have HPS : Hid (psE xs = if 32768 ≤ F ∨ T < (m : Int) then 51 else if whl (ws 0 (xs.take m)) = true then 0 else 52) := by
    show psE xs = _
    unfold psE
    rw [if_neg (by omega), HV.out, Int.toNat_natCast, hF, hT]
  rw [hT] at G2 hw2
  rw [hI] at G4
  rw [hF] at G6 hw6
  have HYL : Hid ((xs.take m).length = m) := by show _ = _; rw [List.length_take]; omega
  have HYR : Hid (Rd w (some ⟨bb, oo, none⟩) (xs.take m)) := HR.out.taken m
  have HYB : Hid (Byt (xs.take m)) := HB.out.take m
  have hmc : (m : Int) ≤ (cap : Int) := by omega
  have hm0 : (0 : Int) ≤ (m : Int) := by omega
  clear s1 s2 hv k5 k15 kn hcl hqq hT hI hF hm hr hb hn hz hp
  have hnm : ¬ (n : Int) < (m : Int) := by omega
  by_cases hbig : 32768 ≤ F
  · have HE : Hid (psE xs = 51) := by show _ = _; rw [HPS.out, if_pos (.inl hbig)]
    go_enter Try.func17, Try.ntmps17
    go_wp2_with (first
      | (refine wpList_build_run (cells := rh0.toArray) rfl 29 _ rfl ?_ ?_; · exact builtR0)
      | (refine stN (fun w' => Hid (R5 w w')) 29 (.tmp 5) (.tmp 13) rfl rfl (w.heap.size + 1) 0 rh0 rfl rfl HT.out infRH rh0_one HS ?_; intro wc HF; have hcell := cell_kept HF.out.1 hc0))
    refine (refGet_any _ _ _ xs 2 2 _ HN.out (HR.out.below HF.out.1) HB.out (by omega)).mono ?_
    rintro e wg2 ⟨rfl, rfl⟩
    rw [G2.out.1, G2.out.2]
    go_wp2_with fail
    refine (refGet_any _ _ _ xs 4 2 _ HN.out (HR.out.below HF.out.1) HB.out (by omega)).mono ?_
    rintro e wg4 ⟨rfl, rfl⟩
    rw [G4.out.1, G4.out.2]
    go_wp2_with fail
    refine (refGet_any _ _ _ xs 6 2 _ HN.out (HR.out.below HF.out.1) HB.out (by omega)).mono ?_
    rintro e wg6 ⟨rfl, rfl⟩
    rw [G6.out.1, G6.out.2]
    go_wp2_with (first
      | (refine ldR0 (.tmp 5) rfl rfl (w.heap.size + 1) rfl HF.out.2.1 ?_)
      | (refine stN (fun w' => Hid (R5z w w')) 29 (.tmp 2) (.tmp 61) rfl rfl w.heap.size 0 rh0 rfl rfl HF.out.2.2 infRH rh0_one HF.out.z ?_; intro wz HZ))
    refine bodyPost_ret (ret_mid3 Try.results17 _ _ _ _ rh0 _ rfl HZ.out.2 Try.underlying29 rfl infRH _ _ rfl rfl) rfl ⟨?_, HZ.out.1⟩
    rw [HE.out]
    rfl
  by_cases htm : T < (m : Int)
  · have HE : Hid (psE xs = 51) := by show _ = _; rw [HPS.out, if_pos (.inr htm)]
    have hbig' : F < 32768 := by omega
    go_enter Try.func17, Try.ntmps17
    go_wp2_with (first
      | (refine wpList_build_run (cells := rh0.toArray) rfl 29 _ rfl ?_ ?_; · exact builtR0)
      | (refine stN (fun w' => Hid (R5 w w')) 29 (.tmp 5) (.tmp 13) rfl rfl (w.heap.size + 1) 0 rh0 rfl rfl HT.out infRH rh0_one HS ?_; intro wc HF; have hcell := cell_kept HF.out.1 hc0))
    refine (refGet_any _ _ _ xs 2 2 _ HN.out (HR.out.below HF.out.1) HB.out (by omega)).mono ?_
    rintro e wg2 ⟨rfl, rfl⟩
    rw [G2.out.1, G2.out.2]
    go_wp2_with fail
    refine (refGet_any _ _ _ xs 4 2 _ HN.out (HR.out.below HF.out.1) HB.out (by omega)).mono ?_
    rintro e wg4 ⟨rfl, rfl⟩
    rw [G4.out.1, G4.out.2]
    go_wp2_with fail
    refine (refGet_any _ _ _ xs 6 2 _ HN.out (HR.out.below HF.out.1) HB.out (by omega)).mono ?_
    rintro e wg6 ⟨rfl, rfl⟩
    rw [G6.out.1, G6.out.2]
    go_wp2_with (first
      | (refine ldR0 (.tmp 5) rfl rfl (w.heap.size + 1) rfl HF.out.2.1 ?_)
      | (refine stN (fun w' => Hid (R5z w w')) 29 (.tmp 2) (.tmp 61) rfl rfl w.heap.size 0 rh0 rfl rfl HF.out.2.2 infRH rh0_one HF.out.z ?_; intro wz HZ))
    refine bodyPost_ret (ret_mid3 Try.results17 _ _ _ _ rh0 _ rfl HZ.out.2 Try.underlying29 rfl infRH _ _ rfl rfl) rfl ⟨?_, HZ.out.1⟩
    rw [HE.out]
    rfl
  · have hw : whl (ws 0 (xs.take m)) = false := by
      cases hx : whl (ws 0 (xs.take m)) with
      | false => rfl
      | true => exact absurd (by rw [HPS.out, if_neg (by omega), if_pos hx]) HP.out
    have HWF := Lib.hid hw
    have HE : Hid (psE xs = 52) := by show _ = _; rw [HPS.out, if_neg (by omega), HWF.out]; rfl
    have hbig' : F < 32768 := by omega
    clear hw
    go_enter Try.func17, Try.ntmps17
    go_wp2_with (first
      | (refine wpList_build_run (cells := rh0.toArray) rfl 29 _ rfl ?_ ?_; · exact builtR0)
      | (refine stN (fun w' => Hid (R5 w w')) 29 (.tmp 5) (.tmp 13) rfl rfl (w.heap.size + 1) 0 rh0 rfl rfl HT.out infRH rh0_one HS ?_; intro wc HF; have hcell := cell_kept HF.out.1 hc0))
    refine (refGet_any _ _ _ xs 2 2 _ HN.out (HR.out.below HF.out.1) HB.out (by omega)).mono ?_
    rintro e wg2 ⟨rfl, rfl⟩
    rw [G2.out.1, G2.out.2]
    go_wp2_with fail
    refine (refGet_any _ _ _ xs 4 2 _ HN.out (HR.out.below HF.out.1) HB.out (by omega)).mono ?_
    rintro e wg4 ⟨rfl, rfl⟩
    rw [G4.out.1, G4.out.2]
    go_wp2_with fail
    refine (refGet_any _ _ _ xs 6 2 _ HN.out (HR.out.below HF.out.1) HB.out (by omega)).mono ?_
    rintro e wg6 ⟨rfl, rfl⟩
    rw [G6.out.1, G6.out.2]
    go_wp2_with fail
    refine (r3Whole_any _ _ _ (xs.take m) _ HYL.out (HYR.out.below HF.out.1) HYB.out (by omega)).mono ?_
    rintro e wh ⟨rfl, hbh⟩
    rw [HWF.out]
    have HX : Hid (R5 w wh) := ⟨HF.out.1.trans (hbh.mono HF.out.1.size), range_kept hbh HF.out.2.1, there_kept hbh HF.out.2.2⟩
    clear hbh hcell
    go_wp2_with (first
      | (refine ldR0 (.tmp 5) rfl rfl (w.heap.size + 1) rfl HX.out.2.1 ?_)
      | (refine stN (fun w' => Hid (R5z w w')) 29 (.tmp 2) (.tmp 67) rfl rfl w.heap.size 0 rh0 rfl rfl HX.out.2.2 infRH rh0_one HX.out.z ?_; intro wz HZ))
    refine bodyPost_ret (ret_mid3 Try.results17 _ _ _ _ rh0 _ rfl HZ.out.2 Try.underlying29 rfl infRH _ _ rfl rfl) rfl ⟨?_, HZ.out.1⟩
    rw [HE.out]
    rfl
end Go.Proofs.Ytjnbnjdajkhkpaa

/-
  The document's Sound of layer 7. Conditions: texts of bytes, at most 1000.
-/
import Derived.Test.YtabdejoakecioaaTrRParse
import Derived.Test.YtabdejoakecioaaTrParse
namespace Go.Proofs.Ytabdejoakecioaa
open Go.RowKit

theorem run_str_to {xs : List Int} (j : Nat) (hj : j ≤ xs.length) (k' : IntKind) (w : World) : (Instr.sliceAt 9 (.string (str xs)) none (some (.int k' (j : Int))) none).run Try.prog w = .ok (.string (str (xs.take j))) w := by
  have ht := Try.underlying9
  have hs : (str xs).size = xs.length := str_size xs
  have hj' : (j : Int) ≤ ((str xs).size : Int) := by rw [hs]; omega
  have he : (str xs).extract 0 j = str (xs.take j) := by
    show (ByteArray.mk (ub xs).toArray).extract 0 j = _
    rw [ByteArray.extract_mk]
    simp [str, ub, List.map_take]
  go_simp
theorem len_all {p : Int} {xs : List Int} (h : prE p xs = 0) : ((hdN (prP p xs).pro : Int) + ((prP p xs).op.length : Int) + ((prP p xs).dt.length : Int)) = bdA p xs ∧ 0 ≤ bdA p xs ∧ bdA p xs ≤ xs.length := by
  obtain ⟨h1, h2, h3, h4, h5, h6⟩ := bdE_zero (prE_zero h).2
  have h7 := bdH_le h
  unfold prP
  rw [if_pos h]
  simp only [List.length_take, List.length_drop]
  omega
theorem rword_zero {xs : List Int} (hb : Byt xs) (j : Nat) : wordAt xs j = 0 ↔ xs.getD j 0 = 0 ∧ xs.getD (j + 1) 0 = 0 := by
  have h1 := hb.get j
  have h2 := hb.get (j + 1)
  unfold wordAt
  omega
theorem rsound_no {p : Int} {xs src dst : List Int} (h : prE p xs ≠ 0) : snd p xs src dst = false := by unfold snd; rw [decide_eq_false h]; rfl

set_option maxRecDepth 100000 in
set_option maxHeartbeats 4000000 in
theorem r7Sound_any (p : Int) (xs src dst : List Int) (w : World) (p0 : 0 ≤ p) (p1 : p < 256) (hb : Byt xs) (hl : xs.length ≤ 1000) (hs : Byt src) (hd : Byt dst) : Calls Try.prog 21 #[.int .u8 p, .string (str xs), .string (str src), .string (str dst)] w (Gives w (.bool (snd p xs src dst))) := by
  have HX := Lib.hid (And.intro hb hl)
  have HP := Lib.hid (And.intro p0 p1)
  have HS := Lib.hid (And.intro hs hd)
  have HPF := Lib.hid (prP_fit (p := p) hb p0 p1)
  have hto := fun (j : Nat) (hj : j ≤ xs.length) => run_str_to (xs := xs) j hj .i64
  have HTO := Lib.hid hto
  obtain ⟨u, hu⟩ : ∃ x, str xs = x := ⟨_, rfl⟩
  have HU := Lib.hid hu
  rw [hu] at HTO ⊢
  obtain ⟨T, hT⟩ : ∃ x, prP p xs = x := ⟨_, rfl⟩
  have HT := Lib.hid hT
  have HST : Hid (∀ w1, Below w.heap.size w w1 → Below w.heap.size w ((w1.alloc (.cells rc0.toArray 30)).setCells w1.heap.size 0 (rcs T)) ∧ ((w1.alloc (.cells rc0.toArray 30)).setCells w1.heap.size 0 (rcs T)).rangeAt w1.heap.size 0 (rcs T)) := fun w1 h => by
    obtain ⟨h1, h2, _⟩ := put_new w1 (rcs T) rc0 30 rfl
    exact ⟨h.trans (h1.mono h.size), h2⟩
  have HTH : Hid (∀ w1 : World, (w1.alloc (.cells rc0.toArray 30)).there w1.heap.size 0 12) := fun w1 => there_new _ _ _ _ rfl _ rfl
  obtain ⟨tc, htc⟩ : ∃ x, (rcs T).toArray = x := ⟨_, rfl⟩
  have HTC := Lib.hid htc
  clear hb hl p0 p1 hs hd hto hu hT htc
  go_enter Try.func21, Try.ntmps21
  go_wp2_with fail
  rw [← HU.out]
  refine (r7Parse_any p xs _ HX.out.1 (by have := HX.out.2; omega)).mono ?_
  rintro e w1 ⟨rfl, hb1⟩
  rw [HT.out, HTC.out, HU.out]
  obtain ⟨E, hE⟩ : ∃ x, prE p xs = x := ⟨_, rfl⟩
  have HE := Lib.hid hE
  rw [hE]
  have HS1 := Lib.hid (HST.out w1 hb1)
  clear hb1 hE HST
  go_upto_region 2 with (refine stN (fun w' => Hid (Below w.heap.size w w' ∧ w'.rangeAt w1.heap.size 0 (rcs T))) 30 (.tmp 9) (.tmp 17) rfl rfl w1.heap.size 0 (rcs T) rfl (by rw [HTC.out]; rfl) (HTH.out w1) infR (rcs_one _) HS1 ?_; intro w2 H2)
  clear HS1 HTH
  by_cases he : E = 0
  case neg =>
    have heb : (E != 0) = true := by simpa using he
    have HV : Hid (snd p xs src dst = false) := rsound_no (by rw [HE.out]; exact he)
    clear he
    go_wp2_with fail
    go_ret
    exact ⟨by rw [HV.out]; rfl, H2.out.1⟩
  subst he
  obtain ⟨l1, l2, l3⟩ := len_all HE.out
  rw [HT.out] at l1
  obtain ⟨A, hA⟩ : ∃ x : Nat, bdA p xs = (x : Int) := ⟨(bdA p xs).toNat, by omega⟩
  rw [hA] at l1 l3
  have HA := Lib.hid hA
  have HL1 := Lib.hid l1
  have hAn : A ≤ xs.length := by omega
  have hct := HTO.out A hAn
  have HAN : Hid (A ≤ xs.length) := hAn
  have HTL : Hid ((xs.take A).length = A) := by show _ = _; rw [List.length_take]; omega
  have HTB : Hid (Byt (xs.take A)) := HX.out.1.take A
  have HOL : Hid (T.op.length ≤ 1000 ∧ T.dt.length ≤ 1000) := by have h1 := HX.out.2; show _ ∧ _; omega
  clear l1 l2 l3 hA hAn
  go_wp2_with (refine ldC 30 (.tmp 9) rfl rfl w1.heap.size rfl (rcs T) H2.out.2 _ Try.underlying30 rfl infR ?_; rw [HTC.out])
  rw [← HTC.out]
  refine (r7Length_any T _ (by have := HOL.out; omega) (by have := HOL.out; omega)).mono ?_
  rintro e w3 ⟨rfl, hb3⟩
  rw [HL1.out, HTC.out]
  have HB3 := Lib.hid (H2.out.1.trans (hb3.mono H2.out.1.size))
  clear hb3 H2
  have hz : (str (xs.take A)).size = A := by rw [str_size]; exact HTL.out
  have hix := fun (i : Nat) (hi : i < (xs.take A).length) => run_str_index HTB.out i hi
  have hcv := fun (w : World) => run_bytes_str w (xs.take A) HTB.out
  obtain ⟨v, hv⟩ : ∃ x, str (xs.take A) = x := ⟨_, rfl⟩
  have HV0 := Lib.hid hv
  rw [hv] at hct hz hix
  rw [HTL.out] at hix
  have HIX := Lib.hid hix
  have hzi : (v.size : Int) = (A : Int) := by rw [hz]
  clear hix hcv hz hv
  cases had : adB src.length dst.length with
  | false =>
    have HV : Hid (snd p xs src dst = false) := by show _ = _; unfold snd; rw [had]; simp
    go_wp2_with fail
    refine (r7pseudo_no p A src dst _ had).mono ?_
    rintro e w4 ⟨rfl, hb4⟩
    have HB4 := Lib.hid (HB3.out.trans (hb4.mono HB3.out.size))
    clear hb4 had
    go_wp2_with fail
    go_ret
    exact ⟨by rw [HV.out]; rfl, HB4.out⟩
  | true =>
  have HAD := Lib.hid had
  clear had
  go_wp2_with fail
  refine (r7pseudo_yes p A src dst _ HAD.out HP.out.1 HP.out.2 (by have h1 := HAN.out; have h2 := HX.out.2; omega)).mono ?_
  rintro e w4 ⟨rfl, hb4⟩
  have HB4 := Lib.hid (HB3.out.trans (hb4.mono HB3.out.size))
  clear hb4 HB3 hct hzi
  obtain ⟨S, hS⟩ : ∃ x, (if p = 1 then ([] : List Int) else psd p A src dst) = x := ⟨_, rfl⟩
  have HCV : Hid (cov p (xs.take A) src dst = S ++ xs.take A) := by
    show _ = _; rw [← hS]; unfold cov; rw [HTL.out]; split <;> simp
  have HSB : Hid (Byt S ∧ S.length ≤ 40) := by
    show _ ∧ _; rw [← hS]
    split
    · exact ⟨Byt.nil, by simp⟩
    · exact ⟨psd_byt p A HS.out.1 HS.out.2, (psd_len HAD.out).2⟩
  rw [hS]
  have HCB : Hid (Byt (S ++ xs.take A)) := HSB.out.1.append HTB.out
  have hadd := fun (w : World) => run_str_add w S (xs.take A) (by have h1 := HSB.out.2; have h2 := HTL.out; have h3 := HAN.out; have h4 := HX.out.2; omega)
  have hcl : (S ++ xs.take A).length ≤ 1040 := by rw [List.length_append, HTL.out]; have h1 := HSB.out.2; have h3 := HAN.out; have h4 := HX.out.2; omega
  obtain ⟨C, hC⟩ : ∃ x, S ++ xs.take A = x := ⟨_, rfl⟩
  rw [hC] at hadd HCB hcl HCV
  have HCL := Lib.hid hcl
  rw [HV0.out] at hadd
  obtain ⟨us, hus⟩ : ∃ x, str S = x := ⟨_, rfl⟩
  rw [hus] at hadd ⊢
  obtain ⟨c, wC, hcv, hrd, hbel⟩ := run_bytes_str w4 C HCB.out
  have HRD := Lib.hid hrd
  have HBC := Lib.hid (HB4.out.trans (hbel.mono HB4.out.size))
  obtain ⟨uc, huc⟩ : ∃ x, str C = x := ⟨_, rfl⟩
  rw [huc] at hadd hcv
  have HADD := Lib.hid hadd
  have HCVV := Lib.hid hcv
  have HWH : Hid (snd p xs src dst = ((decide (p = 17) && (decide (src.length = 4) && decide (wordAt xs 6 = 0))) || whl (ws 0 C))) := by
    show _ = _; unfold snd; rw [HE.out, HAD.out, HA.out, Int.toNat_natCast, HCV.out]; simp
  have hzs : (str src).size = src.length := str_size _
  obtain ⟨ur, hur⟩ : ∃ x, str src = x := ⟨_, rfl⟩
  rw [hur] at hzs ⊢
  have hzsi : (ur.size : Int) = (src.length : Int) := by rw [hzs]
  obtain ⟨sn, hsn⟩ : ∃ x, src.length = x := ⟨_, rfl⟩
  rw [hsn] at HWH hzsi
  clear hS hC hcl hus hrd hbel huc hadd hcv hzs hur hsn HSB
  by_cases h17 : p = 17
  · subst h17
    have h8 : 8 ≤ A := by
      have := (bdE_zero (prE_zero HE.out).2).2.2.2.1
      rw [HA.out] at this
      have h2 : hdN 17 = 8 := rfl
      omega
    by_cases h4 : sn = 4
    · subst h4
      have x6 := HIX.out 6 (by omega) .i64
      have x7 := HIX.out 7 (by omega) .i64
      have e6 : (xs.take A).getD 6 0 = xs.getD 6 0 := by have := getD_cut xs 0 A 6 (by omega); simpa using this
      have e7 : (xs.take A).getD 7 0 = xs.getD 7 0 := by have := getD_cut xs 0 A 7 (by omega); simpa using this
      rw [e6] at x6
      rw [e7] at x7
      have hw0 := rword_zero HX.out.1 6
      obtain ⟨y6, hy6⟩ : ∃ y, xs.getD 6 0 = y := ⟨_, rfl⟩
      obtain ⟨y7, hy7⟩ : ∃ y, xs.getD 7 0 = y := ⟨_, rfl⟩
      rw [hy6] at x6
      rw [hy7] at x7
      rw [show 6 + 1 = 7 from rfl, hy6, hy7] at hw0
      have x6' : ∀ w', (Instr.index 9 (.string v) (.int .i64 6)).run Try.prog w' = .ok (.int .u8 y6) w' := x6
      have x7' : ∀ w', (Instr.index 9 (.string v) (.int .i64 7)).run Try.prog w' = .ok (.int .u8 y7) w' := x7
      have HW0 := Lib.hid hw0
      clear e6 e7 hy6 hy7 x6 x7 hw0 h8
      by_cases q6 : y6 = 0
      · by_cases q7 : y7 = 0
        · have HV : Hid (snd 17 xs src dst = true) := by show _ = _; rw [HWH.out, decide_eq_true (HW0.out.2 ⟨q6, q7⟩)]; simp
          subst q6
          subst q7
          go_wp2_with fail
          go_ret
          exact ⟨by rw [HV.out]; rfl, HB4.out⟩
        · have HV : Hid (snd 17 xs src dst = whl (ws 0 C)) := by show _ = _; rw [HWH.out, decide_eq_false (fun h => q7 (HW0.out.1 h).2)]; simp
          have q7b : (y7 == 0) = false := by simpa using q7
          subst q6
          clear q7
          have hadd := HADD.out
          have hcv := HCVV.out
          go_wp2_with (exact hadd _)
          refine (r3Whole_any _ C.length c C _ rfl HRD.out HCB.out (by have := HCL.out; omega)).mono ?_
          rintro e wD ⟨rfl, hbD⟩
          have HBD := Lib.hid (HBC.out.trans (hbD.mono HBC.out.size))
          clear hbD hadd hcv
          go_wp2_with fail
          go_ret
          exact ⟨by rw [HV.out]; rfl, HBD.out⟩
      · have HV : Hid (snd 17 xs src dst = whl (ws 0 C)) := by show _ = _; rw [HWH.out, decide_eq_false (fun h => q6 (HW0.out.1 h).1)]; simp
        have q6b : (y6 == 0) = false := by simpa using q6
        clear q6
        have hadd := HADD.out
        have hcv := HCVV.out
        go_wp2_with (exact hadd _)
        refine (r3Whole_any _ C.length c C _ rfl HRD.out HCB.out (by have := HCL.out; omega)).mono ?_
        rintro e wD ⟨rfl, hbD⟩
        have HBD := Lib.hid (HBC.out.trans (hbD.mono HBC.out.size))
        clear hbD hadd hcv
        go_wp2_with fail
        go_ret
        exact ⟨by rw [HV.out]; rfl, HBD.out⟩
    · have HV : Hid (snd 17 xs src dst = whl (ws 0 C)) := by show _ = _; rw [HWH.out, decide_eq_false h4]; simp
      have h4b : ((sn : Int) == 4) = false := by simp; omega
      clear h4 h8
      have hadd := HADD.out
      have hcv := HCVV.out
      go_wp2_with (exact hadd _)
      refine (r3Whole_any _ C.length c C _ rfl HRD.out HCB.out (by have := HCL.out; omega)).mono ?_
      rintro e wD ⟨rfl, hbD⟩
      have HBD := Lib.hid (HBC.out.trans (hbD.mono HBC.out.size))
      clear hbD hadd hcv
      go_wp2_with fail
      go_ret
      exact ⟨by rw [HV.out]; rfl, HBD.out⟩
  · have HV : Hid (snd p xs src dst = whl (ws 0 C)) := by show _ = _; rw [HWH.out, decide_eq_false h17]; simp
    have h17b : (p == 17) = false := by simpa using h17
    clear h17
    have hadd := HADD.out
    have hcv := HCVV.out
    go_wp2_with (exact hadd _)
    refine (r3Whole_any _ C.length c C _ rfl HRD.out HCB.out (by have := HCL.out; omega)).mono ?_
    rintro e wD ⟨rfl, hbD⟩
    have HBD := Lib.hid (HBC.out.trans (hbD.mono HBC.out.size))
    clear hbD hadd hcv
    go_wp2_with fail
    go_ret
    exact ⟨by rw [HV.out]; rfl, HBD.out⟩
end Go.Proofs.Ytabdejoakecioaa

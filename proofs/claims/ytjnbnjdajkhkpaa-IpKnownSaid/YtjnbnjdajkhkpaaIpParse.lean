/-
  The contract of Parse of package ip. Conditions: bytes that lie where the slice leads, fewer than a million.
-/
import Derived.Test.YtjnbnjdajkhkpaaIpRead
namespace Go.Proofs.Ytjnbnjdajkhkpaa
open Go.RowKit

theorem ret_mid3 {P : Program} {fn : Func} {p q r : Tmp} {ty : TypeId} (h : fn.results = #[.cell p ty, .tmp q, .tmp r]) (tmps : Array Value) (w : World) (b off : Nat) (cs : List Value) (d : TypeDesc) (hp : tmps.getD p undef = .pointer (some ⟨b, off, none⟩)) (hc : w.rangeAt b off cs)
    (hu : P.underlying ty = some d) (hd : d.isRow = true) (hi : (P.info? ty).map (·.size) = some cs.length) (u v : Value) (hq : tmps.getD q undef = u) (hr : tmps.getD r undef = v) : (results fn tmps).run P w = .ok (.tuple #[.agg cs.toArray, u, v]) w := by
  have hp' : tmps[p]?.getD undef = .pointer (some ⟨b, off, none⟩) := by simpa using hp
  have hq' : tmps[q]?.getD undef = u := by simpa using hq
  have hr' : tmps[r]?.getD undef = v := by simpa using hr
  simp [results, h, hp', hq', hr', asAddr, run_loadVar_mid w b off ty cs d hc hu hd hi]
theorem built0 : Try.prog.built 26 [] = some hd0.cs.toArray := by kernel_rfl
theorem hd0_len : hd0.cs.length = 17 := rfl
/-- The error that Parse answers, and how many bytes. -/
def psE (xs : List Int) : Int :=
  if szE xs ≠ 0 then szE xs else if 32768 ≤ wordAt xs 6 ∨ wordAt xs 2 < szV xs then 51 else if whl (ws 0 (xs.take (szV xs).toNat)) = true then 0 else 52
/-- What Parse answers: the header, its options in a row of the call's own, or an error. -/
def ParseH (w : World) (xs : List Int) (e : Ending) (w' : World) : Prop :=
  Below w.heap.size w w' ∧ ((psE xs = 0 ∧ ∃ a n c, e = .returned (.tuple #[.agg (hdOf (xs.take (szV xs).toNat) a n c).cs.toArray, .int .i64 (szV xs), .int .i64 0]) ∧ Own w' w.heap.size a n c ((xs.take (szV xs).toNat).drop 20)) ∨
    (psE xs ≠ 0 ∧ e = .returned (.tuple #[.agg hd0.cs.toArray, .int .i64 0, .int .i64 (psE xs)])))
theorem szE_zero {xs : List Int} (h : szE xs = 0) (hb : Byt xs) : ∃ k : Nat, szV xs = 4 * (k : Int) ∧ 5 ≤ k ∧ k ≤ 15 ∧ 4 * k ≤ xs.length := by
  have hx := hb.get 0
  unfold szV
  rw [if_pos h]
  unfold szE at h
  split at h
  · omega
  split at h
  · omega
  split at h
  · omega
  split at h
  · omega
  exact ⟨(xs.getD 0 0 % 16).toNat, by omega, by omega, by omega, by omega⟩
theorem take_getD (xs : List Int) (m j : Nat) (h : j < m) : (xs.take m).getD j 0 = xs.getD j 0 := by
  simp only [List.getD_eq_getElem?_getD, List.getElem?_take, if_pos h]
theorem take_word (xs : List Int) (m j : Nat) (h : j + 1 < m) : wordAt (xs.take m) j = wordAt xs j := by
  unfold wordAt; rw [take_getD _ _ _ (by omega), take_getD _ _ _ h]
theorem rg_read (f tot : Int) (k : Nat) (h5 : 5 ≤ k) (h15 : k ≤ 15) : rgH (f % 8192) tot (4 * k - 20) = decide (4 * (k : Int) ≤ tot) := by
  rw [Bool.eq_iff_iff, rgH_iff, decide_eq_true_eq]
  omega
/-- A block that is made and written at once. -/
theorem put_new (w : World) (cs zs : List Value) (t : TypeId) (hl : zs.length = cs.length) :
    Below w.heap.size w ((w.alloc (.cells zs.toArray t)).setCells w.heap.size 0 cs) ∧ ((w.alloc (.cells zs.toArray t)).setCells w.heap.size 0 cs).rangeAt w.heap.size 0 cs ∧ (w.alloc (.cells zs.toArray t)).there w.heap.size 0 cs.length := by
  have ht : (w.alloc (.cells zs.toArray t)).there w.heap.size 0 cs.length := there_new _ _ _ _ (by simpa using hl) _ rfl
  exact ⟨Below.setCells ((Below.refl _ _).alloc (Nat.le_refl _) _) _ (Nat.le_refl _) _ _, World.rangeAt_setCells_same _ _ _ _ ht, ht⟩

theorem hdOf_len (xs : List Int) (a : Option Addr) (n c : Nat) (h : 20 ≤ xs.length) : (hdOf xs a n c).cs.length = 17 := by
  simp [Hd.cs, bv, hdOf]; omega

theorem Own.below3 {w w' : World} {base : Nat} {a : Option Addr} {n cap : Nat} {xs : List Int} (h : Own w base a n cap xs) (hb : Below w.heap.size w w') : Own w' base a n cap xs :=
  h.keep (S := fun _ => False) (Kept.of_below hb (fun i hi hi' => by omega)) (fun _ _ => id)
theorem hdOf_ok {w : World} {ys : List Int} {a : Option Addr} {n c : Nat} {B : Nat} (h : Own w B a n c (ys.drop 20)) (hb : Byt ys) (h20 : 20 ≤ ys.length) : (hdOf ys a n c).ok w := by
  have h2 := wordAt_range hb 2
  have h4 := wordAt_range hb 4
  have h6 := wordAt_range hb 6
  refine ⟨hb.get 1, ⟨h2.1, ?_⟩, ⟨h4.1, ?_⟩, ⟨?_, ?_⟩, hb.get 8, hb.get 9, cut4 _ _ (by omega), cut4 _ _ (by omega), (hb.drop 12).take 4, (hb.drop 16).take 4, ⟨h.len, h.le.1, h.le.2, h.rd, hb.drop 20⟩⟩
  · show wordAt ys 2 < _; omega
  · show wordAt ys 4 < _; omega
  · show 0 ≤ wordAt ys 6 % 8192; omega
  · show wordAt ys 6 % 8192 < _; omega

set_option maxRecDepth 100000 in
set_option maxHeartbeats 2000000 in
theorem iParse_any (a : Option Addr) (n cap : Nat) (xs : List Int) (w : World) (hn : xs.length = n) (hr : Rd w a xs) (hb : Byt xs) (hl : n ≤ 1000000) (hc : n ≤ cap) (hcm : cap ≤ maxLen) :
    Calls Try.prog 20 #[.slice a n cap] w (ParseH w xs) := by
  have HN := Lib.hid hn
  have HB := Lib.hid hb
  obtain ⟨wA, hwA⟩ : ∃ x, w.alloc (.cells hd0.cs.toArray 26) = x := ⟨_, rfl⟩
  have hBA : Below w.heap.size w wA := by rw [← hwA]; exact (Below.refl _ _).alloc (Nat.le_refl _) _
  have HBA := Lib.hid hBA
  have HRA := Lib.hid (hr.below hBA)
  have HTH : Hid (wA.there w.heap.size 0 17) := by rw [← hwA]; exact there_new _ _ _ _ rfl _ rfl
  have HSZ : Hid (wA.heap.size = w.heap.size + 1) := by rw [← hwA]; show _ = _; simp
  have HZ : Hid ((wA.setCells w.heap.size 0 hd0.cs).rangeAt w.heap.size 0 hd0.cs) := World.rangeAt_setCells_same _ _ _ _ HTH.out
  have HBZ : Hid (Below w.heap.size w (wA.setCells w.heap.size 0 hd0.cs)) := Below.setCells hBA _ (Nat.le_refl _) _ _
  have HZX : Hid (∀ wX : World, Below wA.heap.size wA wX → wX.there w.heap.size 0 17 ∧ (wX.setCells w.heap.size 0 hd0.cs).rangeAt w.heap.size 0 hd0.cs ∧ Below w.heap.size w (wX.setCells w.heap.size 0 hd0.cs)) := fun wX hX =>
    ⟨there_kept hX HTH.out, World.rangeAt_setCells_same _ _ _ _ (there_kept hX HTH.out), Below.setCells (hBA.trans (hX.mono hBA.size)) _ (Nat.le_refl _) _ _⟩
  clear hBA hn hr hb
  by_cases he : szE xs = 0
  · obtain ⟨k, hv, h5, h15, hkn⟩ := szE_zero he HB.out
    obtain ⟨m, hm⟩ : ∃ m, 4 * k = m := ⟨_, rfl⟩
    have hvm : szV xs = (m : Int) := by omega
    have HV := Lib.hid hvm
    have HE := Lib.hid he
    obtain ⟨ys, hys⟩ : ∃ ys, xs.take m = ys := ⟨_, rfl⟩
    have hyl : ys.length = m := by have hN := HN.out; rw [← hys, List.length_take]; omega
    have HYL := Lib.hid hyl
    have HYB : Hid (Byt ys) := by show Byt _; rw [← hys]; exact HB.out.take m
    obtain ⟨bb, oo, rfl, hcell⟩ := HRA.out (by intro e; rw [e] at hkn; simp at hkn; omega)
    have HRY : Hid (Rd wA (some ⟨bb, oo, none⟩) ys) := by
      have := HRA.out.cut (q := 0) (m := m) (by omega)
      rw [List.drop_zero, hys] at this
      exact this
    obtain ⟨F, hF⟩ : ∃ F, wordAt ys 6 = F := ⟨_, rfl⟩
    obtain ⟨T, hT⟩ : ∃ T, wordAt ys 2 = T := ⟨_, rfl⟩
    have hF6 := wordAt_range HYB.out 6
    rw [hF] at hF6
    obtain ⟨A, hA⟩ : ∃ x, bits .and .u16 F 32768 = x := ⟨_, rfl⟩
    have hAB := and_bit F 15 32768 hF6.1 (by omega) (by omega) rfl
    rw [hA] at hAB
    have HPS : Hid (psE xs = if 32768 ≤ F ∨ T < (m : Int) then 51 else if whl (ws 0 ys) = true then 0 else 52) := by
      show psE xs = _
      unfold psE
      rw [if_neg (by omega), hvm, Int.toNat_natCast, hys]
      rw [← hF, ← hT, ← hys, take_word _ _ _ (by omega), take_word _ _ _ (by omega)]
    have HRG : Hid (∀ n', n' = m - 20 → rgH (F % 8192) T n' = decide ((m : Int) ≤ T)) := fun n' e => by
      rw [e, ← hm, rg_read _ _ _ h5 h15]
      norm_cast
    have HF := Lib.hid hF
    have HFT := Lib.hid hT
    have HYS : Hid ((xs.take (szV xs).toNat) = ys) := by show _ = _; rw [hvm, Int.toNat_natCast, hys]
    have hm20 : 20 ≤ m := by omega
    have hm60 : m ≤ 60 := by omega
    have hmn : m ≤ n := by have := HN.out; omega
    clear hv h5 h15 hkn hm hvm he hcell hF hT hys hyl
    have hk0 : (0 : Int) ≤ (m : Int) := by omega
    have hk1 : (m : Int) ≤ (cap : Int) := by omega
    by_cases hbig : 32768 ≤ F
    · have hAt : (A != 0) = true := by rw [hAB, decide_eq_true_eq]; omega
      have HP : Hid (psE xs = 51) := by show _ = _; rw [HPS.out, if_pos (.inl hbig)]
      clear hAB
      go_enter Try.func20, Try.ntmps20
      go_wp2_with fail
      show Calls _ _ _ (w.alloc (.cells hd0.cs.toArray 26)) _
      rw [hwA]
      refine (iSize_any _ _ _ xs _ HN.out HRA.out HB.out (by omega) hc).mono ?_
      rintro e w1 ⟨rfl, rfl⟩
      rw [HV.out, HE.out]
      go_wp2_with fail
      refine (iRead_any bb oo m cap ys _ HYL.out HRY.out HYB.out hm20 (by omega) (by omega)).mono ?_
      rintro e w2 ⟨a2, n2, c2, rfl, hown, hb2⟩
      have HB2 := Lib.hid hb2
      have HL2 := Lib.hid (hdOf_len ys a2 n2 c2 (by rw [HYL.out]; exact hm20))
      obtain ⟨hp1, hp2, hp3⟩ := put_new w2 (hdOf ys a2 n2 c2).cs hd0.cs 26 (by rw [HL2.out]; rfl)
      rw [HL2.out] at hp3
      have HP3 := Lib.hid hp3
      obtain ⟨w3, hw3⟩ : ∃ x, (w2.alloc (.cells hd0.cs.toArray 26)).setCells w2.heap.size 0 (hdOf ys a2 n2 c2).cs = x := ⟨_, rfl⟩
      rw [hw3] at hp1 hp2
      have HR3 := Lib.hid hp2
      have HBA3 : Hid (Below wA.heap.size wA w3) := hb2.trans (hp1.mono hb2.size)
      obtain ⟨z1, z2, z3⟩ := HZX.out w3 HBA3.out
      have HT3 := Lib.hid z1
      have HZ3 := Lib.hid z2
      have HBZ3 := Lib.hid z3
      clear hown hb2 hp1 hp2 hp3 z1 z2 z3
      go_wp2_with (first | (refine stH _ _ rfl rfl _ (hdOf ys a2 n2 c2) rfl rfl HL2.out HP3.out ?_))
      show Calls _ _ _ ((w2.alloc (.cells hd0.cs.toArray 26)).setCells w2.heap.size 0 (hdOf ys a2 n2 c2).cs) _
      rw [hw3]
      refine (iWord_any _ _ _ ys 6 _ HYL.out (HRY.out.below HBA3.out) HYB.out (by omega) (by omega) (by omega)).mono ?_
      rintro e w4 ⟨rfl, rfl⟩
      rw [HF.out]
      go_wp2_with (first
        | (refine wpList_build_run (cells := hd0.cs.toArray) rfl 26 _ rfl ?_ ?_; · exact built0)
        | (refine stH _ _ rfl rfl _ hd0 rfl rfl hd0_len HT3.out ?_))
      refine bodyPost_ret (ret_mid3 Try.results20 _ _ _ _ hd0.cs _ rfl HZ3.out Try.underlying26 rfl infH _ _ rfl rfl) rfl ⟨HBZ3.out, .inr ⟨by rw [HP.out]; omega, ?_⟩⟩
      rw [HP.out]
      rfl
    · have hAt : (A != 0) = false := by rw [hAB, decide_eq_false_iff_not]; omega
      have HPS2 : Hid (psE xs = if T < (m : Int) then 51 else if whl (ws 0 ys) = true then 0 else 52) := by
        show psE xs = _
        rw [HPS.out]
        by_cases hT : T < (m : Int)
        · rw [if_pos (.inr hT), if_pos hT]
        · rw [if_neg (by omega), if_neg hT]
      clear hAB HPS
      go_enter Try.func20, Try.ntmps20
      go_wp2_with fail
      show Calls _ _ _ (w.alloc (.cells hd0.cs.toArray 26)) _
      rw [hwA]
      refine (iSize_any _ _ _ xs _ HN.out HRA.out HB.out (by omega) hc).mono ?_
      rintro e w1 ⟨rfl, rfl⟩
      rw [HV.out, HE.out]
      go_wp2_with fail
      refine (iRead_any bb oo m cap ys _ HYL.out HRY.out HYB.out hm20 (by omega) (by omega)).mono ?_
      rintro e w2 ⟨a2, n2, c2, rfl, hown, hb2⟩
      have HL2 := Lib.hid (hdOf_len ys a2 n2 c2 (by rw [HYL.out]; exact hm20))
      obtain ⟨hp1, hp2, hp3⟩ := put_new w2 (hdOf ys a2 n2 c2).cs hd0.cs 26 (by rw [HL2.out]; rfl)
      rw [HL2.out] at hp3
      have HP3 := Lib.hid hp3
      have HOK := Lib.hid (hdOf_ok hown HYB.out (by rw [HYL.out]; exact hm20))
      have HO2 := Lib.hid hown
      have hn2 : n2 = m - 20 := by have := hown.len; rw [List.length_drop, HYL.out] at this; omega
      obtain ⟨w3, hw3⟩ : ∃ x, (w2.alloc (.cells hd0.cs.toArray 26)).setCells w2.heap.size 0 (hdOf ys a2 n2 c2).cs = x := ⟨_, rfl⟩
      rw [hw3] at hp1 hp2
      have HR3 := Lib.hid hp2
      have HB3 := Lib.hid hp1
      have HBA3 : Hid (Below wA.heap.size wA w3) := hb2.trans (hp1.mono hb2.size)
      have HRGG : Hid (rgH (hdOf ys a2 n2 c2).frag (hdOf ys a2 n2 c2).tot (hdOf ys a2 n2 c2).n = decide ((m : Int) ≤ T)) := by
        show rgH (wordAt ys 6 % 8192) (wordAt ys 2) n2 = _
        rw [HF.out, HFT.out]
        exact HRG.out n2 hn2
      have HNN : Hid ((hdOf ys a2 n2 c2).n = m - 20) := hn2
      clear hown hb2 hp1 hp2 hp3 hn2
      go_wp2_with (first | (refine stH _ _ rfl rfl _ (hdOf ys a2 n2 c2) rfl rfl HL2.out HP3.out ?_))
      show Calls _ _ _ ((w2.alloc (.cells hd0.cs.toArray 26)).setCells w2.heap.size 0 (hdOf ys a2 n2 c2).cs) _
      rw [hw3]
      refine (iWord_any _ _ _ ys 6 _ HYL.out (HRY.out.below HBA3.out) HYB.out (by omega) (by omega) (by omega)).mono ?_
      rintro e w4 ⟨rfl, rfl⟩
      rw [HF.out]
      go_wp2_with (first | (refine ldHg _ rfl (by rfl) _ rfl (hdOf ys a2 n2 c2) HL2.out HR3.out ?_))
      refine (iRight_any (hdOf ys a2 n2 c2) _ _ HOK.out (by rw [HNN.out]; omega)).mono ?_
      rintro e w4 ⟨rfl, hb4⟩
      have HB4 : Hid (Below wA.heap.size wA w4) := HBA3.out.trans (hb4.mono HBA3.out.size)
      have HB34 := Lib.hid hb4
      have HR4 := Lib.hid (range_kept hb4 HR3.out)
      obtain ⟨z1, z2, z3⟩ := HZX.out w4 HB4.out
      have HT3 := Lib.hid z1
      have HZ3 := Lib.hid z2
      have HBZ3 := Lib.hid z3
      rw [HRGG.out]
      clear hb4 z1 z2 z3 hAt hA
      by_cases hT : T < (m : Int)
      · have HP : Hid (psE xs = 51) := by show _ = _; rw [HPS2.out, if_pos hT]
        rw [decide_eq_false (show ¬ (m : Int) ≤ T by omega)]
        go_wp2_with (first
          | (refine wpList_build_run (cells := hd0.cs.toArray) rfl 26 _ rfl ?_ ?_; · exact built0)
          | (refine stH _ _ rfl rfl _ hd0 rfl rfl hd0_len HT3.out ?_))
        refine bodyPost_ret (ret_mid3 Try.results20 _ _ _ _ hd0.cs _ rfl HZ3.out Try.underlying26 rfl infH _ _ rfl rfl) rfl ⟨HBZ3.out, .inr ⟨by rw [HP.out]; omega, ?_⟩⟩
        rw [HP.out]
        rfl
      · rw [decide_eq_true (show (m : Int) ≤ T by omega)]
        have HPS3 : Hid (psE xs = if whl (ws 0 ys) = true then 0 else 52) := by show _ = _; rw [HPS2.out, if_neg hT]
        have HRW : Hid (Row.ok w4 ⟨some ⟨bb, oo, none⟩, m, cap, ys⟩) := ⟨HYL.out, by show m ≤ cap; omega, hcm, HRY.out.below HB4.out, HYB.out⟩
        clear hT HPS2
        go_wp2_with fail
        refine (whole_lit w4 [⟨some ⟨bb, oo, none⟩, m, cap, ys⟩] _ 1 _ rfl rfl rfl (all_one HRW.out) (by omega) (all_one (show m ≤ 1000 by omega))).mono ?_
        rintro e w5 ⟨rfl, hb5⟩
        have hb5' : Below w4.heap.size w4 w5 := hb5
        have HB5 : Hid (Below wA.heap.size wA w5) := HB4.out.trans (hb5'.mono HB4.out.size)
        have HR5 := Lib.hid (range_kept hb5' HR4.out)
        obtain ⟨z1, z2, z3⟩ := HZX.out w5 HB5.out
        have HT5 := Lib.hid z1
        have HZ5 := Lib.hid z2
        have HBZ5 := Lib.hid z3
        rw [cat_one]
        clear hb5 z1 z2 z3 HT3 HZ3 HBZ3
        cases hwh : whl (ws 0 ys) with
        | false =>
          have HP : Hid (psE xs = 52) := by show _ = _; rw [HPS3.out, hwh]; rfl
          clear hwh hb5'
          go_wp2_with (first
            | (refine wpList_build_run (cells := hd0.cs.toArray) rfl 26 _ rfl ?_ ?_; · exact built0)
            | (refine stH _ _ rfl rfl _ hd0 rfl rfl hd0_len HT5.out ?_))
          refine bodyPost_ret (ret_mid3 Try.results20 _ _ _ _ hd0.cs _ rfl HZ5.out Try.underlying26 rfl infH _ _ rfl rfl) rfl ⟨HBZ5.out, .inr ⟨by rw [HP.out]; omega, ?_⟩⟩
          rw [HP.out]
          rfl
        | true =>
          have HP : Hid (psE xs = 0) := by show _ = _; rw [HPS3.out, hwh]; rfl
          have HFR : Hid ((w5.setCells w.heap.size 0 (hdOf ys a2 n2 c2).cs).rangeAt w.heap.size 0 (hdOf ys a2 n2 c2).cs) := World.rangeAt_setCells_same _ _ _ _ (by rw [HL2.out]; exact HT5.out)
          have HFB : Hid (Below w.heap.size w (w5.setCells w.heap.size 0 (hdOf ys a2 n2 c2).cs)) := Below.setCells (HBA.out.trans (HB5.out.mono HBA.out.size)) _ (Nat.le_refl _) _ _
          have HFO : Hid (Own (w5.setCells w.heap.size 0 (hdOf ys a2 n2 c2).cs) w.heap.size a2 n2 c2 (ys.drop 20)) := by
            have h1 : Own w2 wA.heap.size a2 n2 c2 (ys.drop 20) := HO2.out
            have h2 : wA.heap.size = w.heap.size + 1 := HSZ.out
            have h3 : Own w5 wA.heap.size a2 n2 c2 (ys.drop 20) := ((h1.below3 HB3.out).below3 HB34.out).below3 hb5'
            exact (h3.keep (S := fun k => k = w.heap.size) (Kept.setCells _ _ _ _ (Kept.refl _ _)) (fun k hk e => by have := (h3.blk_ge k hk).1; omega)).mono (by omega)
          clear hwh hb5'
          go_wp2_with (first
            | (refine ldH _ rfl rfl _ rfl (hdOf ys a2 n2 c2) HL2.out HR5.out ?_)
            | (refine stH _ _ rfl rfl _ (hdOf ys a2 n2 c2) rfl rfl HL2.out HT5.out ?_))
          refine bodyPost_ret (ret_mid3 Try.results20 _ _ _ _ (hdOf ys a2 n2 c2).cs _ rfl HFR.out Try.underlying26 rfl (by rw [HL2.out]; exact infH) _ _ rfl rfl) rfl ⟨HFB.out, .inl ⟨HP.out, a2, n2, c2, ?_, ?_⟩⟩
          · rw [HYS.out, HV.out]
            rfl
          · rw [HYS.out]
            exact HFO.out
  · have HE : Hid (psE xs = szE xs) := by show _ = _; unfold psE; rw [if_pos he]
    have HV : Hid (szV xs = 0) := by show _ = _; unfold szV; rw [if_neg he]
    have HNE : Hid (psE xs ≠ 0) := by show _ ≠ _; rw [HE.out]; exact he
    have hne : (szE xs != 0) = true := by simpa using he
    go_enter Try.func20, Try.ntmps20
    go_wp2_with fail
    show Calls _ _ _ (w.alloc (.cells hd0.cs.toArray 26)) _
    rw [hwA]
    refine (iSize_any _ _ _ xs _ HN.out HRA.out HB.out (by omega) hc).mono ?_
    rintro e w1 ⟨rfl, rfl⟩
    rw [HV.out]
    obtain ⟨E, hE⟩ : ∃ x, szE xs = x := ⟨_, rfl⟩
    rw [hE] at hne HE ⊢
    clear he hE
    go_wp2_with (first
      | (refine wpList_build_run (cells := hd0.cs.toArray) rfl 26 _ rfl ?_ ?_; · exact built0)
      | (refine stH _ _ rfl rfl _ hd0 rfl rfl hd0_len HTH.out ?_))
    refine bodyPost_ret (ret_mid3 Try.results20 _ _ _ _ hd0.cs _ rfl HZ.out Try.underlying26 rfl infH _ _ rfl rfl) rfl ⟨HBZ.out, .inr ⟨HNE.out, ?_⟩⟩
    rw [HE.out]
    rfl
end Go.Proofs.Ytjnbnjdajkhkpaa

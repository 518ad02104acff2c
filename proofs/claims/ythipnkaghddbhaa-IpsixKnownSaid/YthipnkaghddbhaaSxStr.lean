/-
  Bytes as texts, and the document's own small functions of layer 6: whether a header behind is right, whether it is a later fragment. Conditions: bytes.
-/
import Derived.Test.YthipnkaghddbhaaSxExt
namespace Go.Proofs.Ythipnkaghddbhaa
open Go.RowKit

/-- Bytes as a text. -/
def str (xs : List Int) : ByteArray := ⟨(ub xs).toArray⟩
theorem ub_len (xs : List Int) : (ub xs).length = xs.length := by simp [ub]
theorem str_size (xs : List Int) : (str xs).size = xs.length := by
  show (ub xs).toArray.size = _
  simp [ub]
theorem str_list (xs : List Int) : (str xs).toList = ub xs := ByteArray.toList_mk _
theorem ub_get {xs : List Int} (h : Byt xs) (i : Nat) (hi : i < xs.length) : (((ub xs)[i]'(by rw [ub_len]; exact hi)).toNat : Int) = xs.getD i 0 := by
  have h1 := h _ (List.getElem_mem hi)
  simp only [ub, List.getElem_map, List.getD_eq_getElem?_getD, List.getElem?_eq_getElem hi, Option.getD_some, UInt8.toNat_ofNat']
  omega
theorem run_str_index {xs : List Int} (h : Byt xs) (i : Nat) (hi : i < xs.length) (k : IntKind) (w : World) : (Instr.index 9 (.string (str xs)) (.int k (i : Int))).run Try.prog w = .ok (.int .u8 (xs.getD i 0)) w := by
  have ht := Try.underlying9
  have hs : (str xs).size = xs.length := str_size xs
  have hi' : (i : Int) < ((str xs).size : Int) := by rw [hs]; omega
  have hi0 : ¬ (i : Int) < 0 := by omega
  have hx : (((str xs)[i]'(by rw [hs]; exact hi)).toNat : Int) = xs[i] := by
    have h1 := ub_get h i hi
    rw [List.getD_eq_getElem?_getD, List.getElem?_eq_getElem hi, Option.getD_some] at h1
    exact h1
  go_simp
theorem run_str_from {xs : List Int} (i : Nat) (hi : i ≤ xs.length) (k : IntKind) (w : World) : (Instr.sliceAt 9 (.string (str xs)) (some (.int k (i : Int))) none none).run Try.prog w = .ok (.string (str (xs.drop i))) w := by
  have ht := Try.underlying9
  have hs : (str xs).size = xs.length := str_size xs
  have hi' : (i : Int) ≤ ((str xs).size : Int) := by rw [hs]; omega
  have he : (str xs).extract i xs.length = str (xs.drop i) := by
    show (ByteArray.mk (ub xs).toArray).extract i xs.length = _
    rw [ByteArray.extract_mk, List.take_of_length_le (by rw [List.length_drop, ub_len]; omega)]
    simp [str, ub, List.map_drop]
  go_simp
theorem run_str_cut {xs : List Int} (i j : Nat) (hij : i ≤ j) (hj : j ≤ xs.length) (k k' : IntKind) (w : World) : (Instr.sliceAt 9 (.string (str xs)) (some (.int k (i : Int))) (some (.int k' (j : Int))) none).run Try.prog w = .ok (.string (str ((xs.drop i).take (j - i)))) w := by
  have ht := Try.underlying9
  have hs : (str xs).size = xs.length := str_size xs
  have hi' : (i : Int) ≤ (j : Int) := by omega
  have hj' : (j : Int) ≤ ((str xs).size : Int) := by rw [hs]; omega
  have he : (str xs).extract i j = str ((xs.drop i).take (j - i)) := by
    show (ByteArray.mk (ub xs).toArray).extract i j = _
    rw [ByteArray.extract_mk]
    simp [str, ub, List.map_drop, List.map_take]
  go_simp
/-- A header behind, as the document has it. -/
def rxV (k : Int) (xs : List Int) : Value := .agg #[.int .u8 k, .string (str xs)]
theorem wd_two {xs : List Int} (h : 2 ≤ xs.length) : wd xs = xs.getD 0 0 * 256 + xs.getD 1 0 := by
  match xs, h with
  | a :: b :: t, _ =>
    unfold wd getV getE szB
    simp [num, numFrom]
    omega
theorem wd_short {xs : List Int} (h : xs.length < 2) : wd xs = 0 := by
  unfold wd getV getE szB
  rw [if_neg]
  simp
  omega
theorem str_get {xs : List Int} (h : Byt xs) (i : Nat) (hi : i < xs.length) (S : ByteArray) (hS : str xs = S) (hs : i < S.size) : ((S[i]'hs).toNat : Int) = xs.getD i 0 := by
  subst hS
  have h1 := ub_get h i hi
  exact h1
set_option maxHeartbeats 1000000 in
theorem r6rightExt_any (k : Int) (xs : List Int) (w : World) (h0 : 0 ≤ k) (h1 : k < 256) (hb : Byt xs) (hl : xs.length ≤ 1099511627776) : Calls Try.prog 45 #[rxV k xs] w (Gives w (.bool (rtE k xs))) := by
  have hbA : Below w.heap.size w (w.alloc (.cells #[.int .u8 k, .string (str xs)] 87)) := (Below.refl _ _).alloc (Nat.le_refl _) _
  have hs : (str xs).size = xs.length := str_size xs
  obtain ⟨n, hn⟩ : ∃ n, xs.length = n := ⟨_, rfl⟩
  obtain ⟨S, hS⟩ : ∃ S, str xs = S := ⟨_, rfl⟩
  rw [hS, hn] at hs
  rw [hS] at hbA
  have HB := Lib.hid hbA
  have HBY := Lib.hid hb
  have HSS := Lib.hid hS
  have HNN := Lib.hid hn
  rw [hn] at hl
  by_cases e : k = 44
  · subst e
    by_cases h6 : n = 6
    · subst h6
      obtain ⟨v, hv⟩ : ∃ v, xs.getD 1 0 = v := ⟨_, rfl⟩
      obtain ⟨v0, v1⟩ := hb.get 1
      rw [hv] at v0 v1
      have HX : Hid (((S[1]'(by omega)).toNat : Int) = v) := by show _ = _; rw [str_get hb 1 (by omega) S hS, hv]
      have HL : Hid (rtE 44 xs = (v / 2 % 4 == 0)) := by
        show rtE 44 xs = _
        rw [rtE, if_pos rfl, hn, wd_two (by omega), hv]
        have hx := hb.get 0
        rw [Bool.eq_iff_iff]
        simp
        omega
      clear hbA hb hn hS hv
      rw [rxV, HSS.out]
      go_enter Try.func45, Try.ntmps45
      go_wp2_with fail
      go_ret
      refine ⟨?_, HB.out⟩
      rw [HL.out, ← HX.out]
      rfl
    · have b6 : ((n : Int) == 6) = false := by simp; omega
      have HL : Hid (rtE 44 xs = false) := by show _ = _; rw [rtE, if_pos rfl, hn, decide_eq_false h6]; rfl
      clear hbA hb hn hS
      rw [rxV, HSS.out]
      go_enter Try.func45, Try.ntmps45
      go_wp2_with fail
      go_ret
      exact ⟨by rw [HL.out]; rfl, HB.out⟩
  · have b0 : (k == 44) = false := by simpa using e
    cases hkn : knd k with
    | false =>
      have HK := Lib.hid hkn
      have HL : Hid (rtE k xs = false) := by show rtE k xs = false; rw [rtE, if_neg e, hkn]; rfl
      clear hbA hb hn hS hkn
      rw [rxV, HSS.out]
      go_enter Try.func45, Try.ntmps45
      go_wp2_with fail
      refine (r6kind_any k _ h0 h1).mono ?_
      rintro e w1 ⟨rfl, rfl⟩
      rw [HK.out]
      go_wp2_with fail
      go_ret
      exact ⟨by rw [HL.out]; rfl, HB.out⟩
    | true =>
      have HK := Lib.hid hkn
      by_cases h8 : n % 8 = 6
      · have b8 : ((n : Int) % 8 == 6) = true := by simp; omega
        have HL : Hid (rtE k xs = decide ((n : Int) ≤ 2046)) := by
          show rtE k xs = _
          rw [rtE, if_neg e, hkn, hn, decide_eq_true h8]
          simp
          omega
        clear hbA hb hn hS hkn
        rw [rxV, HSS.out]
        go_enter Try.func45, Try.ntmps45
        go_wp2_with fail
        refine (r6kind_any k _ h0 h1).mono ?_
        rintro e w1 ⟨rfl, rfl⟩
        rw [HK.out]
        go_wp2_with fail
        go_ret
        exact ⟨by rw [HL.out]; rfl, HB.out⟩
      · have b8 : ((n : Int) % 8 == 6) = false := by simp; omega
        have HL : Hid (rtE k xs = false) := by
          show rtE k xs = _
          rw [rtE, if_neg e, hkn, hn, decide_eq_false h8]
          rfl
        clear hbA hb hn hS hkn
        rw [rxV, HSS.out]
        go_enter Try.func45, Try.ntmps45
        go_wp2_with fail
        refine (r6kind_any k _ h0 h1).mono ?_
        rintro e w1 ⟨rfl, rfl⟩
        rw [HK.out]
        go_wp2_with fail
        go_ret
        exact ⟨by rw [HL.out]; rfl, HB.out⟩
set_option maxHeartbeats 1000000 in
theorem r6later_any (k : Int) (xs : List Int) (w : World) (h0 : 0 ≤ k) (h1 : k < 256) (hb : Byt xs) (hl : xs.length ≤ 1099511627776) : Calls Try.prog 46 #[rxV k xs] w (Gives w (.bool (ltE k xs))) := by
  have hbA : Below w.heap.size w (w.alloc (.cells #[.int .u8 k, .string (str xs)] 87)) := (Below.refl _ _).alloc (Nat.le_refl _) _
  have hs : (str xs).size = xs.length := str_size xs
  obtain ⟨n, hn⟩ : ∃ n, xs.length = n := ⟨_, rfl⟩
  obtain ⟨S, hS⟩ : ∃ S, str xs = S := ⟨_, rfl⟩
  rw [hS, hn] at hs
  rw [hS] at hbA
  have HB := Lib.hid hbA
  have HSS := Lib.hid hS
  rw [hn] at hl
  by_cases e : k = 44
  · subst e
    by_cases h2 : 1 < n
    · obtain ⟨u, hu⟩ : ∃ v, xs.getD 0 0 = v := ⟨_, rfl⟩
      obtain ⟨v, hv⟩ : ∃ v, xs.getD 1 0 = v := ⟨_, rfl⟩
      obtain ⟨u0, u1⟩ := hb.get 0
      obtain ⟨v0, v1⟩ := hb.get 1
      rw [hu] at u0 u1
      rw [hv] at v0 v1
      have z0 : 0 < S.size := by rw [hs]; omega
      have z1 : 1 < S.size := by rw [hs]; omega
      have hx0 : ((S[0]'z0).toNat : Int) = u := by rw [str_get hb 0 (by omega) S hS, hu]
      have hx1 : ((S[1]'z1).toNat : Int) = v := by rw [str_get hb 1 (by omega) S hS, hv]
      have hl2 : ltE 44 xs = decide (8 ≤ u * 256 + v) := by rw [ltE, wd_two (by omega), hu, hv]; rfl
      by_cases hup : 0 < u
      · have hup' : (0 : Int) < ((S[0]'z0).toNat : Int) := by rw [hx0]; exact hup
        have HL : Hid (ltE 44 xs = true) := by show _ = _; rw [hl2, decide_eq_true_eq]; omega
        clear hx0 hx1 hbA hb hn hS hv hu hl2
        rw [rxV, HSS.out]
        go_enter Try.func46, Try.ntmps46
        go_wp2_with fail
        go_ret
        exact ⟨by rw [HL.out]; rfl, HB.out⟩
      · have hup' : ¬ (0 : Int) < ((S[0]'z0).toNat : Int) := by rw [hx0]; exact hup
        have HL : Hid (ltE 44 xs = decide (((S[1]'z1).toNat : Int) ≥ 8)) := by
          show _ = _
          rw [hl2, hx1, decide_eq_decide]
          omega
        clear hx0 hx1 hbA hb hn hS hv hu hl2
        rw [rxV, HSS.out]
        go_enter Try.func46, Try.ntmps46
        go_wp2_with fail
        go_ret
        exact ⟨by rw [HL.out]; rfl, HB.out⟩
    · have h2' : ¬ 1 < (n : Int) := by omega
      have HL : Hid (ltE 44 xs = false) := by show _ = _; rw [ltE, wd_short (by omega)]; rfl
      clear hbA hb hn hS
      rw [rxV, HSS.out]
      go_enter Try.func46, Try.ntmps46
      go_wp2_with fail
      go_ret
      exact ⟨by rw [HL.out]; rfl, HB.out⟩
  · have b0 : (k == 44) = false := by simpa using e
    have HL : Hid (ltE k xs = false) := by show ltE k xs = false; simp [ltE, e]
    clear hbA hb hn hS
    rw [rxV, HSS.out]
    go_enter Try.func46, Try.ntmps46
    go_wp2_with fail
    go_ret
    exact ⟨by rw [HL.out]; rfl, HB.out⟩
end Go.Proofs.Ythipnkaghddbhaa

/-
  Contracts of the document's own functions for layer 1: Power, Fits, Least, Get. Conditions: the numbers fit their Go types, the bytes lie where the slice leads.
-/
import Derived.Test.YtfkangknnaohaaaNum
namespace Go.Proofs.Ytfkangknnaohaaa
open Go.RowKit

set_option maxHeartbeats 400000 in
theorem power_any (n : Int) (w : World) (h0 : 0 ≤ n) (h8 : n ≤ 8) : Calls Try.prog 30 #[.int .i64 n] w fun e w' => e = .returned (.int .u64 (pw n.toNat - 1)) ∧ w = w' := by
  obtain ⟨m, rfl⟩ := Int.eq_ofNat_of_zero_le h0
  rw [Int.toNat_natCast]
  go_enter Try.func30, Try.ntmps30
  go_wp2
  go_loop [3, 4] (fun v i => ∃ k : Nat, k ≤ m ∧ i = .int .i64 k ∧ v = .int .u64 (pw k - 1)) (fun _ i => m - (intOf i).toNat)
  case atStart => exact ⟨0, Nat.zero_le _, rfl, rfl⟩
  case round =>
    obtain ⟨k, hk, rfl, rfl⟩ := hrel
    by_cases hlt : k < m
    · have HS := Lib.hid (pw_succ k)
      have hp := pw_pos k
      have hp7 : pw k ≤ 72057594037927936 := by
        have h1 : k ≤ 7 := by omega
        have := pw_mono h1; have := pw_lits.2.2.2.2.2.2; omega
      obtain ⟨y, hy⟩ : ∃ y, pw k - 1 = y := ⟨_, rfl⟩
      have HY : Hid (pw k = y + 1) := by show pw k = y + 1; omega
      rw [hy]
      have hy0 : 0 ≤ y := by omega
      have hy1 : y ≤ 72057594037927935 := by omega
      clear hy hp hp7
      go_wp2
      go_round
      case rel => exact ⟨k + 1, by omega, by go_num, by rw [HS.out, HY.out]; go_num⟩
      case measure => simp [intOf]; omega
    · go_wp2
      go_ret
      obtain rfl : k = m := by omega
      exact ⟨rfl, rfl⟩

set_option maxHeartbeats 400000 in
theorem refFits_any (v n : Int) (w : World) (hv : U64 v) : Calls Try.prog 11 #[.int .u64 v, .int .i64 n] w fun e w' => e = .returned (.bool (fitB v n)) ∧ w = w' := by
  have HF := Lib.hid (@fitB_iff v n hv)
  clear hv
  by_cases h1 : 1 ≤ n
  · by_cases h8 : n ≤ 8
    · go_enter Try.func11, Try.ntmps11
      go_wp2_with fail
      refine (power_any _ _ (by omega) (by omega)).mono ?_
      rintro e w' ⟨rfl, rfl⟩
      go_wp2_with fail
      go_ret
      refine ⟨?_, rfl⟩
      have : fitB v n = decide (v ≤ pw n.toNat - 1) := by
        rw [Bool.eq_iff_iff, HF.out, decide_eq_true_eq]; omega
      rw [this]; rfl
    · have HE : Hid (fitB v n = false) := by
        show fitB v n = false
        cases hc : fitB v n with
        | false => rfl
        | true => have := HF.out.1 hc; omega
      go_enter Try.func11, Try.ntmps11
      go_wp2_with fail
      go_ret
      exact ⟨by rw [HE.out]; rfl, rfl⟩
  · have HE : Hid (fitB v n = false) := by
      show fitB v n = false
      cases hc : fitB v n with
      | false => rfl
      | true => have := HF.out.1 hc; omega
    go_enter Try.func11, Try.ntmps11
    go_wp2_with fail
    go_ret
    exact ⟨by rw [HE.out]; rfl, rfl⟩

theorem fitB_small {v : Int} {k : Nat} (h1 : 1 ≤ k) (h8 : k ≤ 8) : fitB v k = decide (lst v ≤ k) := by
  unfold fitB szB
  rw [Bool.eq_iff_iff]
  simp only [Bool.and_eq_true, decide_eq_true_eq]
  omega

set_option maxHeartbeats 400000 in
theorem refLeast_any (v : Int) (w : World) (hv : U64 v) : Calls Try.prog 29 #[.int .u64 v] w fun e w' => e = .returned (.int .i64 (lst v)) ∧ w = w' := by
  have HV := Lib.hid hv
  clear hv
  go_enter Try.func29, Try.ntmps29
  go_wp2_with fail
  go_loop [3] (fun i => ∃ k : Nat, 1 ≤ k ∧ k ≤ 8 ∧ i = .int .i64 k ∧ k ≤ lst v) (fun i => 9 - (intOf i).toNat)
  case atStart => exact ⟨1, by omega, by omega, rfl, lst_pos v⟩
  case round =>
    obtain ⟨k, hk1, hk8, rfl, hkl⟩ := hrel
    have hl8 := lst_le v
    by_cases hlt : k < 8
    · have HS := Lib.hid (@fitB_small v k hk1 hk8)
      cases hf : fitB v k with
      | true =>
        have HF := Lib.hid hf
        clear hf
        go_wp2_with fail
        refine (refFits_any _ _ _ HV.out).mono ?_
        rintro e w' ⟨rfl, rfl⟩
        rw [HF.out]
        go_wp2_with fail
        go_ret
        have h1 := HF.out
        rw [HS.out, decide_eq_true_eq] at h1
        obtain rfl : k = lst v := by omega
        exact ⟨rfl, rfl⟩
      | false =>
        have HF := Lib.hid hf
        clear hf
        go_wp2_with fail
        refine (refFits_any _ _ _ HV.out).mono ?_
        rintro e w' ⟨rfl, rfl⟩
        rw [HF.out]
        go_wp2_with fail
        go_round
        case rel =>
          have h1 := HF.out
          rw [HS.out, decide_eq_false_iff_not] at h1
          exact ⟨k + 1, by omega, by omega, by go_num, by omega⟩
        case measure => simp [intOf]; omega
    · go_wp2_with fail
      go_ret
      exact ⟨by rw [show lst v = 8 from by omega]; rfl, rfl⟩

theorem mul_in (y x : Int) (h0 : 0 ≤ y) (h1 : y < 72057594037927936) (hx : 0 ≤ x) (hx1 : x < 256) : 0 ≤ y * 256 + x ∧ y * 256 + x < 18446744073709551616 := by omega

set_option maxHeartbeats 1000000 in
theorem refGet_any (a : Option Addr) (len cap : Nat) (xs : List Int) (p n : Int) (w : World) (hn : xs.length = len) (hr : Rd w a xs) (hb : Byt xs) (hl : len ≤ 1000000) :
    Calls Try.prog 24 #[.slice a len cap, .int .i64 p, .int .i64 n] w fun e w' => e = .returned (.tuple #[.int .u64 (getV xs p n), .int .i64 (getE xs p n)]) ∧ w = w' := by
  subst hn
  have HB := Lib.hid hb
  have HR := Lib.hid hr
  clear hb hr
  by_cases h1 : n < 1
  · have HE : Hid (getE xs p n = 2) := by simp [getE, szB, Hid]; omega
    go_enter Try.func24, Try.ntmps24
    go_wp2_with fail
    go_ret2
    exact ⟨by simp [getV, HE.out], rfl⟩
  · by_cases h8 : 8 < n
    · have HE : Hid (getE xs p n = 2) := by simp [getE, szB, Hid]; omega
      go_enter Try.func24, Try.ntmps24
      go_wp2_with fail
      go_ret2
      exact ⟨by simp [getV, HE.out], rfl⟩
    · by_cases h0 : p < 0
      · have HE : Hid (getE xs p n = 2) := by simp [getE, szB, Hid]; omega
        go_enter Try.func24, Try.ntmps24
        go_wp2_with fail
        go_ret2
        exact ⟨by simp [getV, HE.out], rfl⟩
      · obtain ⟨q, rfl⟩ := Int.eq_ofNat_of_zero_le (show 0 ≤ p by omega)
        obtain ⟨m, rfl⟩ := Int.eq_ofNat_of_zero_le (show 0 ≤ n by omega)
        have HE : Hid (getE xs (q : Int) (m : Int) = if (m : Int) ≤ (xs.length : Int) - (q : Int) then 0 else 10) := by
          have e1 : szB (m : Int) = true := by simp [szB]; omega
          simp [getE, e1, Hid]
        go_enter Try.func24, Try.ntmps24
        go_wp2_with fail
        go_loop [8, 9] (fun v i => ∃ k : Nat, k ≤ m ∧ (k = 0 ∨ q + k ≤ xs.length) ∧ i = .int .i64 k ∧ v = .int .u64 (num ((xs.drop q).take k))) (fun _ i => m - (intOf i).toNat)
        case atStart => exact ⟨0, Nat.zero_le _, .inl rfl, rfl, rfl⟩
        case round =>
          obtain ⟨k, hk, hkl, rfl, rfl⟩ := hrel
          have HK := Lib.hid hkl
          clear hkl
          by_cases hlt : k < m
          · by_cases hq : q ≤ xs.length
            · by_cases hqk : q + k < xs.length
              · obtain ⟨b, o, rfl, hc⟩ := HR.out (by intro e; subst e; simp at hqk)
                have hck := hc (q + k) hqk
                have hbk := HB.out.get (q + k)
                have hn := num_range _ ((HB.out.drop q).take k)
                have hn2 : num ((xs.drop q).take k) < 72057594037927936 := by
                  have h1 : ((xs.drop q).take k).length ≤ 7 := by simp; omega
                  have := pw_mono h1; have := pw_lits.2.2.2.2.2.2; omega
                have HS : Hid (num ((xs.drop q).take (k + 1)) = num ((xs.drop q).take k) * 256 + xs.getD (q + k) 0) := by
                  show num ((xs.drop q).take (k + 1)) = _
                  rw [num_take _ _ (by simp; omega)]
                  simp only [List.getD_eq_getElem?_getD, List.getElem?_drop]
                clear hc
                obtain ⟨x, hx⟩ : ∃ x, xs.getD (q + k) 0 = x := ⟨_, rfl⟩
                obtain ⟨y, hy⟩ : ∃ y, num ((xs.drop q).take k) = y := ⟨_, rfl⟩
                rw [hx] at hck hbk HS
                rw [hy] at hn hn2 HS ⊢
                obtain ⟨hbk0, hbk1⟩ := hbk
                obtain ⟨hn0, hn1⟩ := hn
                clear hx hy hn1
                go_wp2_with fail
                go_round
                case rel => exact ⟨k + 1, by omega, .inr (by omega), by go_num, by rw [HS.out]⟩
                case measure => simp [intOf]; omega
              · have HE2 : Hid (getE xs (q : Int) (m : Int) = 10) := by show getE _ _ _ = 10; rw [HE.out, if_neg (by omega)]
                go_wp2_with fail
                go_ret2
                exact ⟨by simp [getV, HE2.out], rfl⟩
            · have HE2 : Hid (getE xs (q : Int) (m : Int) = 10) := by show getE _ _ _ = 10; rw [HE.out, if_neg (by omega)]
              go_wp2_with fail
              go_ret2
              exact ⟨by simp [getV, HE2.out], rfl⟩
          · have HE2 : Hid (getE xs (q : Int) (m : Int) = 0) := by
              show getE _ _ _ = 0
              rcases HK.out with h | h
              · omega
              · rw [HE.out, if_pos (by omega)]
            obtain rfl : k = m := by omega
            go_wp2_with fail
            go_ret2
            exact ⟨by simp [getV, HE2.out], rfl⟩
end Go.Proofs.Ytfkangknnaohaaa

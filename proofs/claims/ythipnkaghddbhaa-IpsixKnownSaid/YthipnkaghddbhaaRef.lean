/-
  Contracts of the document's own functions for layer 1: Power, Fits, Least, Get. Conditions: the numbers fit their Go types, the bytes lie where the slice leads.
-/
import Derived.Test.YthipnkaghddbhaaNum
namespace Go.Proofs.Ythipnkaghddbhaa
open Go.RowKit

/- left out: not in this seat -/

/- left out: not in this seat -/

theorem fitB_small {v : Int} {k : Nat} (h1 : 1 ≤ k) (h8 : k ≤ 8) : fitB v k = decide (lst v ≤ k) := by
  unfold fitB szB
  rw [Bool.eq_iff_iff]
  simp only [Bool.and_eq_true, decide_eq_true_eq]
  omega

/- left out: not in this seat -/

theorem mul_in (y x : Int) (h0 : 0 ≤ y) (h1 : y < 72057594037927936) (hx : 0 ≤ x) (hx1 : x < 256) : 0 ≤ y * 256 + x ∧ y * 256 + x < 18446744073709551616 := by omega

set_option maxHeartbeats 1000000 in
theorem refGet_any (a : Option Addr) (len cap : Nat) (xs : List Int) (p n : Int) (w : World) (hn : xs.length = len) (hr : Rd w a xs) (hb : Byt xs) (hl : len ≤ 1000000) :
    Calls Try.prog 37 #[.slice a len cap, .int .i64 p, .int .i64 n] w fun e w' => e = .returned (.tuple #[.int .u64 (getV xs p n), .int .i64 (getE xs p n)]) ∧ w = w' := by
  subst hn
  have HB := Lib.hid hb
  have HR := Lib.hid hr
  clear hb hr
  by_cases h1 : n < 1
  · have HE : Hid (getE xs p n = 2) := by simp [getE, szB, Hid]; omega
    go_enter Try.func37, Try.ntmps37
    go_wp2_with fail
    go_ret2
    exact ⟨by simp [getV, HE.out], rfl⟩
  · by_cases h8 : 8 < n
    · have HE : Hid (getE xs p n = 2) := by simp [getE, szB, Hid]; omega
      go_enter Try.func37, Try.ntmps37
      go_wp2_with fail
      go_ret2
      exact ⟨by simp [getV, HE.out], rfl⟩
    · by_cases h0 : p < 0
      · have HE : Hid (getE xs p n = 2) := by simp [getE, szB, Hid]; omega
        go_enter Try.func37, Try.ntmps37
        go_wp2_with fail
        go_ret2
        exact ⟨by simp [getV, HE.out], rfl⟩
      · obtain ⟨q, rfl⟩ := Int.eq_ofNat_of_zero_le (show 0 ≤ p by omega)
        obtain ⟨m, rfl⟩ := Int.eq_ofNat_of_zero_le (show 0 ≤ n by omega)
        have HE : Hid (getE xs (q : Int) (m : Int) = if (m : Int) ≤ (xs.length : Int) - (q : Int) then 0 else 10) := by
          have e1 : szB (m : Int) = true := by simp [szB]; omega
          simp [getE, e1, Hid]
        go_enter Try.func37, Try.ntmps37
        go_wp2_with fail
        go_loop [8, 9] (fun v i => ∃ k : Nat, k ≤ m ∧ (k = 0 ∨ q + k ≤ xs.length) ∧ i = .int .i64 k ∧ v = .int .u64 (num ((xs.drop q).take k))) (fun _ i => m - (intOf i).toNat)
        case atStart => exact ⟨0, Nat.zero_le _, .inl rfl, rfl, rfl⟩
        case round =>
          obtain ⟨k, hk, hkl, rfl, rfl⟩ := hrel
          have HK := Lib.hid hkl
          clear hkl
          by_cases hlt : k < m
          · by_cases hq : q ≤ xs.length
            · by_cases hqk : q + k < xs.length
              · obtain ⟨b, o, rfl, hc⟩ := HR.out (by intro e; subst e; simp at hqk)
                have hck := hc (q + k) hqk
                have hbk := HB.out.get (q + k)
                have hn := num_range _ ((HB.out.drop q).take k)
                have hn2 : num ((xs.drop q).take k) < 72057594037927936 := by
                  have h1 : ((xs.drop q).take k).length ≤ 7 := by simp; omega
                  have := pw_mono h1; have := pw_lits.2.2.2.2.2.2; omega
                have HS : Hid (num ((xs.drop q).take (k + 1)) = num ((xs.drop q).take k) * 256 + xs.getD (q + k) 0) := by
                  show num ((xs.drop q).take (k + 1)) = _
                  rw [num_take _ _ (by simp; omega)]
                  simp only [List.getD_eq_getElem?_getD, List.getElem?_drop]
                clear hc
                obtain ⟨x, hx⟩ : ∃ x, xs.getD (q + k) 0 = x := ⟨_, rfl⟩
                obtain ⟨y, hy⟩ : ∃ y, num ((xs.drop q).take k) = y := ⟨_, rfl⟩
                rw [hx] at hck hbk HS
                rw [hy] at hn hn2 HS ⊢
                obtain ⟨hbk0, hbk1⟩ := hbk
                obtain ⟨hn0, hn1⟩ := hn
                clear hx hy hn1
                go_wp2_with fail
                go_round
                case rel => exact ⟨k + 1, by omega, .inr (by omega), by go_num, by rw [HS.out]⟩
                case measure => simp [intOf]; omega
              · have HE2 : Hid (getE xs (q : Int) (m : Int) = 10) := by show getE _ _ _ = 10; rw [HE.out, if_neg (by omega)]
                go_wp2_with fail
                go_ret2
                exact ⟨by simp [getV, HE2.out], rfl⟩
            · have HE2 : Hid (getE xs (q : Int) (m : Int) = 10) := by show getE _ _ _ = 10; rw [HE.out, if_neg (by omega)]
              go_wp2_with fail
              go_ret2
              exact ⟨by simp [getV, HE2.out], rfl⟩
          · have HE2 : Hid (getE xs (q : Int) (m : Int) = 0) := by
              show getE _ _ _ = 0
              rcases HK.out with h | h
              · omega
              · rw [HE.out, if_pos (by omega)]
            obtain rfl : k = m := by omega
            go_wp2_with fail
            go_ret2
            exact ⟨by simp [getV, HE2.out], rfl⟩
end Go.Proofs.Ythipnkaghddbhaa

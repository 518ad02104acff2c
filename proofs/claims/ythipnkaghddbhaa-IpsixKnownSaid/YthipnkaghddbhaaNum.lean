/-
  What slices of bytes read as, and the contracts of number and Get of package bits. Conditions: the numbers fit their Go types, the bytes lie where the slice leads.
-/
import Derived.Test.YthipnkaghddbhaaLeaf
namespace Go.Proofs.Ythipnkaghddbhaa
open Go.RowKit

set_option maxHeartbeats 400000 in
theorem number_any (a : Option Addr) (len cap : Nat) (xs : List Int) (w : World) (hn : xs.length = len) (hr : Rd w a xs) (hb : Byt xs) (hl : len ≤ 8) :
    Calls Try.prog 63 #[.slice a len cap] w fun e w' => e = .returned (.int .u64 (num xs)) ∧ w = w' := by
  subst hn
  have HB := Lib.hid hb
  have HR := Lib.hid hr
  clear hb hr
  go_enter Try.func63, Try.ntmps63
  go_wp2
  go_loop [3, 7] (fun v i => ∃ k : Nat, k ≤ xs.length ∧ i = .int .i64 k ∧ v = .int .u64 (num (xs.take k))) (fun _ i => xs.length - (intOf i).toNat)
  case atStart => exact ⟨0, Nat.zero_le _, rfl, rfl⟩
  case round =>
    obtain ⟨k, hk, rfl, rfl⟩ := hrel
    have hn := num_range _ (HB.out.take k)
    by_cases hlt : k < xs.length
    · obtain ⟨b, o, rfl, hc⟩ := HR.out (by intro e; subst e; simp at hlt)
      have hck := hc k hlt
      have hbk := HB.out.get k
      have hn2 : num (xs.take k) < 72057594037927936 := by
        have h1 : (xs.take k).length ≤ 7 := by simp; omega
        have := pw_mono h1; have := pw_lits.2.2.2.2.2.2; omega
      have HS := Lib.hid (num_take xs k hlt)
      clear hc
      obtain ⟨x, hx⟩ : ∃ x, xs.getD k 0 = x := ⟨_, rfl⟩
      obtain ⟨y, hy⟩ : ∃ y, num (xs.take k) = y := ⟨_, rfl⟩
      rw [hx] at hck hbk HS
      rw [hy] at hn hn2 HS ⊢
      obtain ⟨hbk0, hbk1⟩ := hbk
      obtain ⟨hn0, hn1⟩ := hn
      have HO := Lib.hid (or_join y x hn0 hn2 hbk0 hbk1)
      clear hx hy hn1
      go_wp2
      go_round
      case rel => exact ⟨k + 1, by omega, by go_num, by rw [HS.out, HO.out]⟩
      case measure => simp [intOf]; omega
    · go_wp2
      go_ret
      exact ⟨by rw [List.take_of_length_le (by omega)]; rfl, rfl⟩

/-- What Get answers: the number, and the error. -/
def getE (xs : List Int) (p n : Int) : Int := if szB n && decide (0 ≤ p) then (if n ≤ (xs.length : Int) - p then 0 else 10) else 2
def getV (xs : List Int) (p n : Int) : Int := if getE xs p n = 0 then num ((xs.drop p.toNat).take n.toNat) else 0

set_option maxHeartbeats 400000 in
theorem get_any (a : Option Addr) (len cap : Nat) (xs : List Int) (p n : Int) (w : World) (hn : xs.length = len) (hr : Rd w a xs) (hb : Byt xs) (hl : len ≤ 9223372036854775807) (hc : len ≤ cap) (hp : p ≤ 9223372036854775807) :
    Calls Try.prog 58 #[.slice a len cap, .int .i64 p, .int .i64 n] w fun e w' => e = .returned (.tuple #[.int .u64 (getV xs p n), .int .i64 (getE xs p n)]) ∧ w = w' := by
  subst hn
  have HB := Lib.hid hb
  have HR := Lib.hid hr
  clear hb hr
  cases hs : szB n with
  | false =>
    have HS := Lib.hid hs
    clear hs
    go_enter Try.func58, Try.ntmps58
    go_wp2_with fail
    refine (isSize_any _ _).mono ?_
    rintro e w' ⟨rfl, rfl⟩
    rw [HS.out]
    go_wp2_with fail
    go_ret2
    exact ⟨by simp [getV, getE, HS.out], rfl⟩
  | true =>
    have HS := Lib.hid hs
    have hs2 : 1 ≤ n ∧ n ≤ 8 := by simpa [szB] using hs
    clear hs
    obtain ⟨hn1, hn8⟩ := hs2
    by_cases h0 : p < 0
    · have h0' : ¬ 0 ≤ p := by omega
      have HE : Hid (getE xs p n = 2) := by simp [getE, HS.out, h0', Hid]
      clear h0'
      go_enter Try.func58, Try.ntmps58
      go_wp2_with fail
      refine (isSize_any _ _).mono ?_
      rintro e w' ⟨rfl, rfl⟩
      rw [HS.out]
      go_wp2_with fail
      go_ret2
      exact ⟨by simp [getV, HE.out], rfl⟩
    · have h0' : 0 ≤ p := by omega
      by_cases hf : n ≤ (xs.length : Int) - p
      · have HE : Hid (getE xs p n = 0) := by simp [getE, HS.out, h0', hf, Hid]
        obtain ⟨q, rfl⟩ := Int.eq_ofNat_of_zero_le h0'
        obtain ⟨m, rfl⟩ := Int.eq_ofNat_of_zero_le (show 0 ≤ n by omega)
        obtain ⟨b, o, rfl, hcell⟩ := HR.out (by intro e; subst e; simp at hf; omega)
        have HC := Lib.hid hcell
        clear hcell
        have hdf : decide ((m : Int) ≤ (xs.length : Int) - (q : Int)) = true := by simpa using hf
        go_enter Try.func58, Try.ntmps58
        go_wp2_with fail
        refine (isSize_any _ _).mono ?_
        rintro e w' ⟨rfl, rfl⟩
        rw [HS.out]
        go_wp2_with fail
        refine (reaches_any _ _ _ _ _ _ (by omega) (by omega) (by omega)).mono ?_
        rintro e w' ⟨rfl, rfl⟩
        go_wp2_with fail
        refine (number_any _ _ _ ((xs.drop q).take m) _ (by simp; omega) (HR.out.cut (by omega)) ((HB.out.drop q).take m) (by omega)).mono ?_
        rintro e w' ⟨rfl, rfl⟩
        go_wp2_with fail
        go_ret2
        exact ⟨by simp [getV, HE.out], rfl⟩
      · have HE : Hid (getE xs p n = 10) := by simp [getE, HS.out, h0', hf, Hid]
        have hdf : decide (n ≤ (xs.length : Int) - p) = false := by simpa using hf
        go_enter Try.func58, Try.ntmps58
        go_wp2_with fail
        refine (isSize_any _ _).mono ?_
        rintro e w' ⟨rfl, rfl⟩
        rw [HS.out]
        go_wp2_with fail
        refine (reaches_any _ _ _ _ _ _ (by omega) (by omega) (by omega)).mono ?_
        rintro e w' ⟨rfl, rfl⟩
        go_wp2_with fail
        go_ret2
        exact ⟨by simp [getV, HE.out], rfl⟩
end Go.Proofs.Ythipnkaghddbhaa

/-
  BucketWaits' walk, and the plain facts behind it. Conditions: numbers that fit their Go types.
-/
import Derived.Test.YtngjlippfifkiaaBkWorks
namespace Go.Proofs.Ytngjlippfifkiaa
open Go.RowKit

theorem fill_low (b : Bu) {t : Int} (h : t ≤ b.T) : b.fill t = b := by rw [Bu.fill, if_pos h]
theorem fill_K {b : Bu} {t : Int} (h : b.T < t) : (b.fill t).K = min b.B (b.K + b.r * (t - b.T)) := by rw [Bu.fill, if_neg (by omega)]
theorem fill_le {b : Bu} (h : b.ok) (t : Int) : (b.fill t).K ≤ b.B := by
  by_cases ht : t ≤ b.T
  · rw [fill_low b ht]; exact h.KB
  · rw [fill_K (by omega)]; omega
theorem wait_no {b : Bu} (h : b.ok) {n : Int} (hn : b.K < n) (hw : whB b n = false) : ¬ n ≤ (b.fill 18446744073709551615).K := by
  have hT := h.T1
  by_cases ht : 18446744073709551615 ≤ b.T
  · rw [fill_low b ht]; omega
  rw [fill_K (by omega)]
  by_cases hB : n ≤ b.B
  · by_cases hr : b.r = 0
    · rw [hr]; omega
    · have h1 : 18446744073709551615 - b.T < wtN b.r (n - b.K) := by
        rw [whB, decide_eq_false (show ¬ n ≤ b.K by omega), decide_eq_true hB, decide_eq_true hr] at hw
        simpa using hw
      rw [wtN] at h1
      have h2 : 18446744073709551615 - b.T ≤ (n - b.K - 1) / b.r := by omega
      have h3 := (Int.le_ediv_iff_mul_le (by have := h.r0; omega)).1 h2
      rw [Int.mul_comm]
      omega
  · omega
theorem wait_yes {b : Bu} (h : b.ok) {n : Int} (hn : b.K < n) (hw : whB b n = true) :
    b.T < whV b n ∧ whV b n ≤ 18446744073709551615 ∧ ¬ n ≤ (b.fill (whV b n - 1)).K ∧ n ≤ (b.fill (whV b n)).K := by
  have hv : whV b n = b.T + wtN b.r (n - b.K) := by rw [whV, if_pos hw, if_neg (by omega)]
  rw [whB, decide_eq_false (show ¬ n ≤ b.K by omega)] at hw
  simp only [Bool.false_or, Bool.and_eq_true, decide_eq_true_eq] at hw
  obtain ⟨hB, hr, hd⟩ := hw
  have hr0 : 0 < b.r := by have := h.r0; omega
  have hq0 : 0 ≤ (n - b.K - 1) / b.r := Int.ediv_nonneg (by omega) (by omega)
  have hlo := Int.ediv_mul_le (n - b.K - 1) (show b.r ≠ 0 from hr)
  have hhi := Int.lt_ediv_add_one_mul_self (n - b.K - 1) hr0
  rw [hv]
  rw [wtN] at hd ⊢
  obtain ⟨q, hq⟩ : ∃ q, (n - b.K - 1) / b.r = q := ⟨_, rfl⟩
  rw [hq] at hd hq0 hlo hhi ⊢
  refine ⟨by omega, by omega, ?_, ?_⟩
  · by_cases h0 : q = 0
    · rw [fill_low b (by omega)]; omega
    · rw [fill_K (by omega), show b.T + (q + 1) - 1 - b.T = q by omega, Int.mul_comm]
      omega
  · rw [fill_K (by omega), show b.T + (q + 1) - b.T = q + 1 by omega, Int.mul_comm]
    omega

theorem wfU {x : Int} (h : (Lit.int .u64 x).wf = true) : 0 ≤ x ∧ x ≤ 18446744073709551615 := by
  have hmin : IntKind.u64.min = 0 := rfl
  have hmax : IntKind.u64.max = 18446744073709551615 := rfl
  simp only [Lit.wf, Bool.and_eq_true, decide_eq_true_eq] at h
  omega

/-- Two buckets of the call's own. -/
theorem St.other {w wr w' : World} {g d : Nat} {b c : Bu} (h : St w wr g b) (hd : St w wr d c) (hne : g ≠ d) (hk : Kept (fun x => x = d) wr w') : St w w' g b :=
  ⟨h.bk.keep hk hne, h.below.trans (hk.below h.below.size (fun k e => by have := hd.own; omega)), h.own⟩
theorem St.more {w wr w' : World} {g d : Nat} {b c : Bu} (h : St w wr g b) (ho : wr.heap.size ≤ d) (hb : Bk w' d c) (hl : Below wr.heap.size wr w') : St w w' d c ∧ St w w' g b ∧ g ≠ d :=
  ⟨⟨hb, h.below.trans (hl.mono h.below.size), Nat.le_trans h.below.size ho⟩, h.past hl, by have := h.bk.lt; omega⟩

set_option maxRecDepth 100000 in
set_option maxHeartbeats 4000000 in
theorem waits_any (r B s t k n : Int) (w : World) (r0 : 0 ≤ r) (r1 : r ≤ 18446744073709551615) (B0 : 0 ≤ B) (B1 : B ≤ 18446744073709551615) (s0 : 0 ≤ s) (s1 : s ≤ 18446744073709551615)
    (t0 : 0 ≤ t) (t1 : t ≤ 18446744073709551615) (k0 : 0 ≤ k) (n0 : 0 ≤ n) (n1 : n ≤ 18446744073709551615) :
    Calls Try.prog 5 #[.int .u64 r, .int .u64 B, .int .u64 s, .int .u64 t, .int .u64 k, .int .u64 n] w (Yes w) := by
  go_enter Try.func5, Try.ntmps5
  go_wp2_with fail
  refine (new_any r B s _ ⟨r0, r1, B1, s0, s1, B0, Int.le_refl _⟩).mono ?_
  rintro e w1 ⟨g, rfl, ho, hb1, hl1⟩
  have H1 := Lib.hid (St.start ho hb1 hl1)
  clear hb1 hl1 ho
  go_wp2_with fail
  refine (take_any g t k _ _ H1.out.bk t0 t1 k0).mono ?_
  rintro e w2 ⟨rfl, hb, hk⟩
  have H2 := Lib.hid (H1.out.next hb hk)
  clear hb hk H1
  obtain ⟨b, hb⟩ : ∃ b, (⟨r, B, s, B⟩ : Bu).took t k = b := ⟨_, rfl⟩
  rw [hb] at H2
  clear hb
  go_wp2_with fail
  refine (copy_any g b _ H2.out.bk).mono ?_
  rintro e w3 ⟨c, rfl, ho, hb, hl⟩
  obtain ⟨hc3, hg3, hne⟩ := H2.out.more ho hb hl
  have HC3 := Lib.hid hc3
  have HG3 := Lib.hid hg3
  have HN := Lib.hid hne
  clear hc3 hg3 hne ho hb hl
  go_wp2_with fail
  refine (take_any c 0 n _ _ HC3.out.bk (by decide) (by decide) n0).mono ?_
  rintro e w4 ⟨rfl, hb, hk⟩
  have H4 := Lib.hid (HG3.out.other HC3.out HN.out hk)
  have hf : b.fill 0 = b := fill_low b H4.out.bk.1.T0
  rw [hf]
  clear hb hk HC3 HG3 HN hf
  have HO := Lib.hid H4.out.bk.1
  by_cases hK : n ≤ b.K
  · rw [decide_eq_true hK]
    have hB : whB b n = true := by rw [whB, decide_eq_true hK]; rfl
    have hV : whV b n = b.T := by rw [whV, if_pos hB, if_pos hK]
    have HB := Lib.hid hB
    have HV := Lib.hid hV
    clear hB hV
    go_wp2_with fail
    refine (when_any g n b _ H4.out.bk n0 n1).mono ?_
    rintro e w5 ⟨rfl, m, hw⟩
    have H5 : Hid (St w w5 g b) := by show St w w5 g b; rw [hw]; exact H4.out.drewN m
    rw [HB.out, HV.out]
    clear hw
    go_wp2_with fail
    refine (tick_any g b _ H5.out.bk).mono ?_
    rintro e w6 ⟨rfl, hw⟩
    rw [hw]
    clear hw
    go_wp2_with fail
    refine (works10_any _).mono ?_
    rintro e w6 ⟨rfl, hb6⟩
    have H6 := Lib.hid (H5.out.past hb6)
    clear hb6
    go_wp2_with fail
    go_ret
    exact ⟨rfl, H6.out.below⟩
  · rw [decide_eq_false hK]
    go_wp2_with fail
    refine (when_any g n b _ H4.out.bk n0 n1).mono ?_
    rintro e w5 ⟨rfl, m, hw⟩
    have H5 : Hid (St w w5 g b) := by show St w w5 g b; rw [hw]; exact H4.out.drewN m
    clear hw
    cases hB : whB b n with
    | false =>
      have HNO := Lib.hid (wait_no HO.out (show b.K < n by omega) hB)
      have hV : whV b n = 0 := by rw [whV, if_neg (by rw [hB]; decide)]
      rw [hV]
      clear hB hV
      go_wp2_with fail
      refine (copy_any g b _ H5.out.bk).mono ?_
      rintro e w6 ⟨c, rfl, ho, hb, hl⟩
      have HC6 := Lib.hid (H5.out.more ho hb hl).1
      clear ho hb hl
      go_wp2_with fail
      refine (take_any c 18446744073709551615 n _ _ HC6.out.bk (by decide) (by decide) n0).mono ?_
      rintro e w7 ⟨rfl, hb, hk⟩
      have H7 := Lib.hid (HC6.out.next hb hk)
      rw [decide_eq_false (Int.not_le.2 HNO.out)]
      clear hb hk
      go_wp2_with fail
      refine (works10_any _).mono ?_
      rintro e w8 ⟨rfl, hb8⟩
      have H8 := Lib.hid (H7.out.past hb8)
      clear hb8
      go_wp2_with fail
      go_ret
      exact ⟨rfl, H8.out.below⟩
    | true =>
      obtain ⟨v1, v2, hn3, hy⟩ := wait_yes HO.out (show b.K < n by omega) hB
      have T0 := HO.out.T0
      have HNO := Lib.hid hn3
      have HYES := Lib.hid hy
      clear hB hn3 hy
      obtain ⟨v, hv⟩ : ∃ v, whV b n = v := ⟨_, rfl⟩
      rw [hv] at v1 v2 HNO HYES ⊢
      clear hv
      have e1 : IntKind.u64.wrap (v - 1) = v - 1 := by rw [IntKind.wrap_u64]; omega
      go_wp2_with fail
      refine (tick_any g b _ H5.out.bk).mono ?_
      rintro e w6 ⟨rfl, hw⟩
      rw [hw]
      clear hw
      go_wp2_with fail
      refine (copy_any g b _ H5.out.bk).mono ?_
      rintro e w6 ⟨c, rfl, ho, hb, hl⟩
      obtain ⟨hc6, hg6, hne⟩ := H5.out.more ho hb hl
      have HC6 := Lib.hid hc6
      have HG6 := Lib.hid hg6
      clear hc6 hg6 ho hb hl hne
      go_wp2_with fail
      refine (copy_any g b _ HG6.out.bk).mono ?_
      rintro e w7 ⟨d, rfl, ho, hb, hl⟩
      obtain ⟨hd7, hc7, hne⟩ := HC6.out.more ho hb hl
      have HD7 := Lib.hid hd7
      have HC7 := Lib.hid hc7
      have HNE := Lib.hid hne
      clear hd7 hc7 ho hb hl hne
      go_wp2_with fail
      refine (take_any c (v - 1) n _ _ HC7.out.bk (by omega) (by omega) n0).mono ?_
      rintro e w8 ⟨rfl, hb, hk⟩
      have HD8 := Lib.hid (HD7.out.other HC7.out (Ne.symm HNE.out) hk)
      rw [decide_eq_false (Int.not_le.2 HNO.out)]
      clear hb hk
      go_wp2_with fail
      refine (take_any d v n _ _ HD8.out.bk (by omega) (by omega) n0).mono ?_
      rintro e w9 ⟨rfl, hb, hk⟩
      have H9 := Lib.hid (HD8.out.next hb hk)
      rw [decide_eq_true HYES.out]
      clear hb hk
      go_wp2_with fail
      refine (works10_any _).mono ?_
      rintro e w10 ⟨rfl, hb8⟩
      have H10 := Lib.hid (H9.out.past hb8)
      clear hb8
      go_wp2_with fail
      go_ret
      exact ⟨rfl, H10.out.below⟩
end Go.Proofs.Ytngjlippfifkiaa

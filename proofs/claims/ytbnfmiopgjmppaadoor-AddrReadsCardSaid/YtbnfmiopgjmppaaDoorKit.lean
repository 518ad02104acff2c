/-
  Contracts of the statements' own kit: Own, SameBytes, Spoil, Pick. Conditions: lengths below 2 to the 46, numbers that fit their Go types.
-/
import Derived.Test.YtbnfmiopgjmppaaDoorBase
namespace Go.Proofs.YtbnfmiopgjmppaaDoor
open Go.RowKit

theorem kOwn_any (a : Option Addr) (n c : Nat) (xs : List Int) (w : World) (hn : xs.length = n) (hr : Rd w a xs) (hlim : n ≤ 70368744177664) :
    Calls Tryd.prog 10 #[.slice a n c] w (Made w xs) := by
  obtain ⟨a', cap', w1, hrun, hown, hg, hb⟩ := run_append_rd w w.heap.size 25 (Own.nil w w.heap.size) c hn hr (by omega) (Nat.le_refl _)
  rw [List.nil_append] at hown
  have HR := Lib.hid hrun
  have HF : Hid (Made w xs (.returned (.slice a' (0 + n) cap')) w1) := ⟨a', 0 + n, cap', rfl, hown, (Below.refl _ _).grown hg (Nat.le_refl _) (by simp [blk])⟩
  clear hrun hown hg hb hn hr
  rw [Nat.zero_add] at HR HF
  go_enter Tryd.func10, Tryd.ntmps10
  go_wp2_with (at_builtin; refine Lib.wpList_append_run _ rfl _ _ _ _ rfl _ _ rfl rfl _ _ HR.out ?_)
  go_ret
  exact HF.out

/-- A value is handed back; the world has but drawn. -/
def Quiet (w : World) (v : Value) (e : Ending) (w' : World) : Prop := e = .returned v ∧ ∃ m, w' = w.drewN m

theorem take_next {xs ys : List Int} {k : Nat} (h : xs.take k = ys.take k) (hx : k < xs.length) (hy : k < ys.length) (e : xs.getD k 0 = ys.getD k 0) : xs.take (k + 1) = ys.take (k + 1) := by
  rw [take_snoc xs k hx, take_snoc ys k hy, h, e]
theorem take_part {xs ys : List Int} {k : Nat} (e : xs.getD k 0 ≠ ys.getD k 0) : xs ≠ ys := fun h => e (by rw [h])

set_option maxHeartbeats 1000000 in
theorem kSame_any (a b : Option Addr) (n c m d : Nat) (xs ys : List Int) (w : World) (hn : xs.length = n) (hm : ys.length = m) (hx : Rd w a xs) (hy : Rd w b ys) (_hl : n ≤ 70368744177664) (_hl2 : m ≤ 70368744177664) :
    Calls Tryd.prog 14 #[.slice a n c, .slice b m d] w (Quiet w (.bool (decide (xs = ys)))) := by
  have HN := Lib.hid hn
  have HM := Lib.hid hm
  have HX := Lib.hid hx
  have HY := Lib.hid hy
  clear hn hm hx hy
  by_cases hnm : n = m
  · subst hnm
    go_enter Tryd.func14, Tryd.ntmps14
    go_wp2_with fail
    go_loopw [5] (fun i wr => ∃ k : Nat, k ≤ n ∧ i = .int .i64 k ∧ Hid (xs.take k = ys.take k) ∧ Hid (∃ q, wr = w.drewN q)) (fun i _ => n - (intOf i).toNat)
    case atStart => exact ⟨0, Nat.zero_le _, rfl, rfl, 0, rfl⟩
    case round =>
      obtain ⟨k, hk, rfl, ht, hq⟩ := hrel
      obtain ⟨q, hq⟩ := hq.out
      by_cases hlt : k < n
      · obtain ⟨b1, o1, rfl, h1⟩ := HX.out (by intro e; have := HN.out; rw [e] at this; simp at this; omega)
        obtain ⟨b2, o2, rfl, h2⟩ := HY.out (by intro e; have := HM.out; rw [e] at this; simp at this; omega)
        have c1 : wr.cell? ⟨b1, o1 + k, none⟩ = some (.int .u8 (xs.getD k 0)) := by rw [hq]; exact h1 k (by rw [HN.out]; exact hlt)
        have c2 : wr.cell? ⟨b2, o2 + k, none⟩ = some (.int .u8 (ys.getD k 0)) := by rw [hq]; exact h2 k (by rw [HM.out]; exact hlt)
        have HQ := Lib.hid hq
        clear hq h1 h2
        by_cases he : xs.getD k 0 = ys.getD k 0
        · have HT : Hid (xs.take (k + 1) = ys.take (k + 1)) := take_next ht.out (by rw [HN.out]; exact hlt) (by rw [HM.out]; exact hlt) he
          rw [← he] at c2
          obtain ⟨x, hx⟩ : ∃ x, xs.getD k 0 = x := ⟨_, rfl⟩
          rw [hx] at c1 c2
          clear hx he
          go_wp2_with fail
          go_quiet (fail)
          go_wp2_with fail
          go_roundw
          case rel => exact ⟨k + 1, by omega, by go_num, HT, q + nq, by rw [HQ.out, World.drewN_drewN]⟩
          case measure => simp [intOf]; omega
        · have HNE : Hid (xs ≠ ys) := take_part he
          obtain ⟨x, hx⟩ : ∃ x, xs.getD k 0 = x := ⟨_, rfl⟩
          obtain ⟨y, hy⟩ : ∃ y, ys.getD k 0 = y := ⟨_, rfl⟩
          rw [hx] at c1 he
          rw [hy] at c2 he
          have hb : (x != y) = true := by simp [he]
          clear hx hy he
          go_wp2_with fail
          go_quiet (fail)
          go_wp2_with fail
          go_ret
          exact ⟨by rw [decide_eq_false HNE.out]; rfl, q + nq, by rw [HQ.out, World.drewN_drewN]⟩
      · have HE : Hid (xs = ys) := by
          have h1 := ht.out
          rwa [List.take_of_length_le (by rw [HN.out]; omega), List.take_of_length_le (by rw [HM.out]; omega)] at h1
        have HQ := Lib.hid hq
        clear hq
        go_wp2_with fail
        go_ret
        exact ⟨by rw [decide_eq_true HE.out]; rfl, q, HQ.out⟩
  · have HNE : Hid (xs ≠ ys) := fun h => hnm (by rw [← HN.out, ← HM.out, h])
    have hb : ((n : Int) != (m : Int)) = true := by simp; omega
    go_enter Tryd.func14, Tryd.ntmps14
    go_wp2_with fail
    go_ret
    exact ⟨by rw [decide_eq_false HNE.out]; rfl, 0, rfl⟩

theorem kSpoil_any (base : Nat) (a : Option Addr) (n cap : Nat) (xs : List Int) (w : World) (h : Own w base a n cap xs) (hl : n ≤ 70368744177664) :
    Calls Tryd.prog 18 #[.slice a n cap] w fun e w' => e = .returned (.tuple #[]) ∧ Inc w base a n cap w' := by
  have HI : Hid (Inc w base a n cap w) := Inc.start h
  clear h
  go_enter Tryd.func18, Tryd.ntmps18
  go_wp2_with fail
  go_loopw [2] (fun i wr => ∃ k : Nat, k ≤ n ∧ i = .int .i64 k ∧ Hid (Inc w base a n cap wr)) (fun i _ => n - (intOf i).toNat)
  case atStart => exact ⟨0, Nat.zero_le _, rfl, HI⟩
  case round =>
    obtain ⟨k, hk, rfl, hin⟩ := hrel
    by_cases hlt : k < n
    · obtain ⟨g, z, rfl, hz, hf, hnext⟩ := hin.out.at_ hlt
      have HX := Lib.hid hnext
      clear hnext
      go_wp2_with fail
      go_roundw
      case rel => exact ⟨k + 1, by omega, by go_num, HX.out _⟩
      case measure => simp [intOf]; omega
    · go_wp2_with fail
      go_end0
      exact ⟨rfl, hin.out⟩

theorem tmod_pos (d n : Int) (hn : 0 < n) : -n < d.tmod n ∧ d.tmod n < n ∧ (d.tmod n + n) % n = d % n := by
  rcases Int.le_total 0 d with h | h
  · rw [Int.tmod_eq_emod_of_nonneg h]
    have h1 := Int.emod_nonneg d (show n ≠ 0 by omega)
    have h2 := Int.emod_lt_of_pos d hn
    exact ⟨by omega, by omega, by rw [Int.add_emod_right, Int.emod_emod_of_dvd _ (Int.dvd_refl _)]⟩
  · obtain ⟨e, rfl⟩ : ∃ e, d = -e := ⟨-d, by omega⟩
    rw [Int.neg_tmod, Int.tmod_eq_emod_of_nonneg (by omega)]
    have h1 := Int.emod_nonneg e (show n ≠ 0 by omega)
    have h2 := Int.emod_lt_of_pos e hn
    refine ⟨by omega, by omega, ?_⟩
    rw [Int.add_emod_right]
    have h3 : -e = -(e % n) + n * (-(e / n)) := by
      have h4 := Int.emod_add_mul_ediv e n
      rw [Int.mul_neg]
      omega
    conv => rhs; rw [h3]
    rw [Int.add_mul_emod_self_left]

/- left out: not in this seat -/
end Go.Proofs.YtbnfmiopgjmppaaDoor

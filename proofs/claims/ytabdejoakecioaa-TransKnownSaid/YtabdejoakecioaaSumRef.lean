/-
  Contracts of the document's own functions for layer 3: Fold, Words, Sum, Of, Whole, Change. Conditions: rows of at most 100000 bytes, that lie where the slices lead; numbers that fit their Go types.
-/
import Derived.Test.YtabdejoakecioaaSumRows
namespace Go.Proofs.Ytabdejoakecioaa
open Go.RowKit

set_option maxHeartbeats 400000 in
theorem r3Fold_any (n : Int) (w : World) (h0 : 0 ≤ n) (h1 : n ≤ 18446744073709551615) : Calls Try.prog 73 #[.int .u64 n] w fun e w' => e = .returned (.int .u64 (fld n)) ∧ w = w' := by
  go_enter Try.func73, Try.ntmps73
  go_wp2
  go_loop [0] (fun s => ∃ m : Int, 0 ≤ m ∧ m ≤ 18446744073709551615 ∧ s = .int .u64 m ∧ Hid (fld m = fld n)) (fun s => (intOf s).toNat)
  case atStart => exact ⟨n, h0, h1, rfl, rfl⟩
  case round =>
    obtain ⟨m, hm0, hm1, rfl, hf⟩ := hrel
    by_cases hb : m < 65536
    · go_wp2
      go_ret
      exact ⟨by rw [← hf.out, fld_small hm0 (by omega)]; rfl, rfl⟩
    · go_wp2
      go_round
      case rel => exact ⟨m / 65536 + m % 65536, by omega, by omega, by go_num, (fld_step (by omega)).trans hf.out⟩
      case measure => simp [intOf]; omega

/- left out: not in this seat -/

/-- The words of bytes. -/
def wrds (xs : List Int) : Nat → List Int
  | 0 => []
  | k + 1 => wrds xs k ++ [wordAt xs (2 * k)]
theorem wrds_len (xs : List Int) (k : Nat) : (wrds xs k).length = k := by
  induction k with
  | zero => rfl
  | succ k ih => simp [wrds, ih]
theorem wrds_get (xs : List Int) (m : Nat) : ∀ k, k < m → (wrds xs m).getD k 0 = wordAt xs (2 * k) := by
  induction m with
  | zero => intro k h; omega
  | succ m ih =>
    intro k h
    simp only [wrds, List.getD_eq_getElem?_getD]
    by_cases e : k < m
    · rw [List.getElem?_append_left (by rw [wrds_len]; exact e)]
      have := ih k e
      rwa [List.getD_eq_getElem?_getD] at this
    · have ek : k = m := by omega
      subst ek
      rw [List.getElem?_append_right (by rw [wrds_len]; omega), wrds_len]
      simp
/-- How many words there are. -/
def wn (n : Nat) : Nat := (n + 1) / 2
/-- New words are handed back; what was there is as it was. -/
def MadeW (w : World) (xs : List Int) (e : Ending) (w' : World) : Prop :=
  ∃ a cap, e = .returned (.slice a (wn xs.length) cap) ∧ OwnG w' w.heap.size 68 1 a (wn xs.length) cap ((wrds xs (wn xs.length)).map (Value.int .u64)) ∧ Below w.heap.size w w'

set_option maxHeartbeats 1000000 in
set_option maxRecDepth 100000 in
theorem r3Words_any (a : Option Addr) (n cap : Nat) (xs : List Int) (w : World) (hn : xs.length = n) (hr : Rd w a xs) (hb : Byt xs) (hl : n ≤ 100000) :
    Calls Try.prog 72 #[.slice a n cap] w (MadeW w xs) := by
  have HN := Lib.hid hn
  have HR := Lib.hid hr
  have HB := Lib.hid hb
  clear hn hr hb
  go_enter Try.func72, Try.ntmps72
  go_wp2_with fail
  go_loopw [3, 4] (fun s i wr => ∃ (k : Nat) (a' : Option Addr) (cap' : Nat), k ≤ wn n ∧ i = .int .i64 (2 * k) ∧ s = .slice a' k cap' ∧ Hid (OwnG wr w.heap.size 68 1 a' k cap' ((wrds xs k).map (Value.int .u64))) ∧ Hid (Below w.heap.size w wr)) (fun _ i _ => n + 1 - (intOf i).toNat)
  case atStart => exact ⟨0, none, 0, Nat.zero_le _, rfl, rfl, OwnG.nil _ _ _ _, Below.refl _ _⟩
  case round =>
    obtain ⟨k, a', cap', hk, rfl, rfl, ho, hbl⟩ := hrel
    unfold wn at hk
    by_cases hlt : 2 * k < n
    · obtain ⟨b, o, rfl, hc⟩ := (HR.out.below hbl.out) (by intro e; have := HN.out; rw [e] at this; simp at this; omega)
      have c0 := hc (2 * k) (by rw [HN.out]; exact hlt)
      have hx := HB.out.get (2 * k)
      have hy := HB.out.get (2 * k + 1)
      have HWA : Hid (wordAt xs (2 * k) = xs.getD (2 * k) 0 * 256 + xs.getD (2 * k + 1) 0) := rfl
      obtain ⟨x, hxe⟩ : ∃ x, xs.getD (2 * k) 0 = x := ⟨_, rfl⟩
      rw [hxe] at c0 hx HWA
      obtain ⟨hx0, hx1⟩ := hx
      by_cases h1 : 2 * k + 1 < n
      · have c1 := hc (2 * k + 1) (by rw [HN.out]; exact h1)
        obtain ⟨y, hye⟩ : ∃ y, xs.getD (2 * k + 1) 0 = y := ⟨_, rfl⟩
        rw [hye] at c1 hy HWA
        obtain ⟨hy0, hy1⟩ := hy
        have c1' : wr.cell? ⟨b, o + (2 * k + 1), none⟩ = some (.int .u8 y) := c1
        obtain ⟨g2, cap2, w2, hrun, hown2, hk2, hx2⟩ := run_append_one wr w.heap.size 98 98 68 (.int .u64 0) 1 8 u64_info Try.underlying98 rfl (by omega) ho.out [.int .u64 (x * 256 + y)] rfl (by simp [Value.oneCell']) hbl.out.size (by omega) (by omega)
        have HRN := Lib.hid hrun
        have HO2 : Hid (OwnG w2 w.heap.size 68 1 (some ⟨g2, 0, none⟩) (k + 1) cap2 ((wrds xs (k + 1)).map (Value.int .u64))) := by
          rw [wrds, List.map_append, HWA.out]; exact hown2
        have HB2 : Hid (Below w.heap.size w w2) := hbl.out.trans (hk2.below hbl.out.size (fun i hi => (ho.out.blk_ge i hi).1))
        clear hc hxe hye hrun hown2 hk2 hx2
        go_wp2_with (at_builtin; refine Lib.wpList_append_run _ rfl _ _ _ _ rfl _ _ rfl rfl _ _ HRN.out ?_)
        go_roundw
        case rel => exact ⟨k + 1, some ⟨g2, 0, none⟩, cap2, by unfold wn; omega, by go_num, by go_num, HO2, HB2⟩
        case measure => simp [intOf]; omega
      · have hy2 : xs.getD (2 * k + 1) 0 = 0 := getD_beyond xs _ (by rw [HN.out]; omega)
        rw [hy2, Int.add_zero] at HWA
        obtain ⟨g2, cap2, w2, hrun, hown2, hk2, hx2⟩ := run_append_one wr w.heap.size 98 98 68 (.int .u64 0) 1 8 u64_info Try.underlying98 rfl (by omega) ho.out [.int .u64 (x * 256)] rfl (by simp [Value.oneCell']) hbl.out.size (by omega) (by omega)
        have HRN := Lib.hid hrun
        have HO2 : Hid (OwnG w2 w.heap.size 68 1 (some ⟨g2, 0, none⟩) (k + 1) cap2 ((wrds xs (k + 1)).map (Value.int .u64))) := by
          rw [wrds, List.map_append, HWA.out]; exact hown2
        have HB2 : Hid (Below w.heap.size w w2) := hbl.out.trans (hk2.below hbl.out.size (fun i hi => (ho.out.blk_ge i hi).1))
        clear hc hxe hy2 hy hrun hown2 hk2 hx2
        go_wp2_with (at_builtin; refine Lib.wpList_append_run _ rfl _ _ _ _ rfl _ _ rfl rfl _ _ HRN.out ?_)
        go_roundw
        case rel => exact ⟨k + 1, some ⟨g2, 0, none⟩, cap2, by unfold wn; omega, by go_num, by go_num, HO2, HB2⟩
        case measure => simp [intOf]; omega
    · have HKN : Hid (k = wn xs.length) := by show k = _; rw [HN.out]; unfold wn; omega
      go_wp2_with fail
      go_ret
      refine ⟨a', cap', ?_, ?_, hbl.out⟩
      · rw [← HKN.out]; rfl
      · rw [← HKN.out]; exact ho.out

set_option maxHeartbeats 1000000 in
set_option maxRecDepth 100000 in
theorem r3Sum_any (a : Option Addr) (n cap : Nat) (xs : List Int) (w : World) (hn : xs.length = n) (hr : Rd w a xs) (hb : Byt xs) (hl : n ≤ 100000) :
    Calls Try.prog 50 #[.slice a n cap] w fun e w' => e = .returned (.int .u64 (fld (ws 0 xs))) ∧ Below w.heap.size w w' := by
  have HN := Lib.hid hn
  have HR := Lib.hid hr
  have HB := Lib.hid hb
  clear hn hr hb
  go_enter Try.func50, Try.ntmps50
  go_wp2_with fail
  refine (r3Words_any _ _ _ xs _ HN.out HR.out HB.out hl).mono ?_
  rintro e w1 ⟨a1, cap1, rfl, ho1, hb1⟩
  have HO1 := Lib.hid ho1
  have HB1 := Lib.hid hb1
  have hmm : wn xs.length ≤ 100000 := by rw [HN.out]; unfold wn; omega
  have HM : Hid (wn xs.length = wn n) := by rw [HN.out]; exact rfl
  obtain ⟨m, hm⟩ : ∃ m, wn xs.length = m := ⟨_, rfl⟩
  rw [hm] at HO1 HM hmm ⊢
  clear hm ho1 hb1
  go_wp2_with fail
  go_loop [3, 5] (fun s i => ∃ (k : Nat) (x : Int), k ≤ m ∧ i = .int .i64 k ∧ s = .int .u64 x ∧ 0 ≤ x ∧ x ≤ 65535 * k ∧ Hid (x = ws 0 (xs.take (2 * k)))) (fun _ i => m - (intOf i).toNat)
  case atStart => exact ⟨0, 0, Nat.zero_le _, rfl, rfl, by omega, by omega, rfl⟩
  case round =>
    obtain ⟨k, x, hk, rfl, rfl, hx0, hx1, hx⟩ := hrel
    by_cases hlt : k < m
    · obtain ⟨b, o, rfl, hc⟩ := HO1.out.rdk (by intro e; have := HO1.out.len; rw [e] at this; simp at this; omega)
      have hck := hc k (by rw [wrds_len]; exact hlt)
      rw [wrds_get xs m k hlt] at hck
      have hw := wordAt_range HB.out (2 * k)
      have HT : Hid (ws 0 (xs.take (2 * (k + 1))) = ws 0 (xs.take (2 * k)) + wordAt xs (2 * k)) := ws_take_two 0 xs (2 * k) (by have h1 := HN.out; have h2 := HM.out; unfold wn at h2; omega) (by omega)
      obtain ⟨y, hy⟩ : ∃ y, wordAt xs (2 * k) = y := ⟨_, rfl⟩
      rw [hy] at hck hw HT
      obtain ⟨hw0, hw1⟩ := hw
      clear hy hc
      go_wp2_with fail
      go_round
      case rel => exact ⟨k + 1, x + y, by omega, by go_num, by go_num, by omega, by omega, by rw [HT.out, hx.out]; rfl⟩
      case measure => simp [intOf]; omega
    · go_wp2_with fail
      refine (r3Fold_any _ _ hx0 (by omega)).mono ?_
      rintro e w2 ⟨rfl, rfl⟩
      rw [hx.out, List.take_of_length_le (by have h1 := HN.out; have h2 := HM.out; unfold wn at h2; omega)]
      go_wp2_with fail
      go_ret
      exact ⟨rfl, HB1.out⟩

theorem r3Of_any (a : Option Addr) (n cap : Nat) (xs : List Int) (w : World) (hn : xs.length = n) (hr : Rd w a xs) (hb : Byt xs) (hl : n ≤ 100000) :
    Calls Try.prog 28 #[.slice a n cap] w fun e w' => e = .returned (.int .u16 (65535 - fld (ws 0 xs))) ∧ Below w.heap.size w w' := by
  have HN := Lib.hid hn
  have HR := Lib.hid hr
  have HB := Lib.hid hb
  obtain ⟨r0, r1⟩ := @fld_range (ws 0 xs) (ws_range _ 0 hb).1
  clear hn hr hb
  go_enter Try.func28, Try.ntmps28
  go_wp2_with fail
  refine (r3Sum_any _ _ _ xs _ HN.out HR.out HB.out hl).mono ?_
  rintro e w1 ⟨rfl, hb⟩
  obtain ⟨x, hx⟩ : ∃ x, fld (ws 0 xs) = x := ⟨_, rfl⟩
  rw [hx] at r0 r1 ⊢
  have HB1 := Lib.hid hb
  have HX := Lib.hid hx
  clear hx hb
  go_wp2_with fail
  go_ret
  exact ⟨by rw [HX.out]; rfl, HB1.out⟩

theorem r3Whole_any (a : Option Addr) (n cap : Nat) (xs : List Int) (w : World) (hn : xs.length = n) (hr : Rd w a xs) (hb : Byt xs) (hl : n ≤ 100000) :
    Calls Try.prog 46 #[.slice a n cap] w fun e w' => e = .returned (.bool (whl (ws 0 xs))) ∧ Below w.heap.size w w' := by
  have HN := Lib.hid hn
  have HR := Lib.hid hr
  have HB := Lib.hid hb
  have hp := (ws_range _ 0 hb).1
  have HW := Lib.hid (whl_fld hp)
  obtain ⟨r0, r1⟩ := @fld_range (ws 0 xs) hp
  clear hn hr hb hp
  by_cases h1 : fld (ws 0 xs) = 65535
  · go_enter Try.func46, Try.ntmps46
    go_wp2_with fail
    refine (r3Sum_any _ _ _ xs _ HN.out HR.out HB.out hl).mono ?_
    rintro e w1 ⟨rfl, hb⟩
    rw [h1] at HW ⊢
    have HB1 := Lib.hid hb
    clear hb h1 r0 r1
    go_wp2_with fail
    go_ret
    exact ⟨by rw [← HW.out]; rfl, HB1.out⟩
  · have h1' : (fld (ws 0 xs) == 65535) = false := by simp [h1]
    go_enter Try.func46, Try.ntmps46
    go_wp2_with fail
    refine (r3Sum_any _ _ _ xs _ HN.out HR.out HB.out hl).mono ?_
    rintro e w1 ⟨rfl, hb⟩
    obtain ⟨x, hx⟩ : ∃ x, fld (ws 0 xs) = x := ⟨_, rfl⟩
    rw [hx] at h1' ⊢
    have HB1 := Lib.hid hb
    have HX := Lib.hid hx
    clear hx hb
    go_wp2_with fail
    refine (r3Sum_any _ _ _ xs _ HN.out (HR.out.below HB1.out) HB.out hl).mono ?_
    rintro e w2 ⟨rfl, hb⟩
    rw [HX.out] at r0 r1 h1 HW ⊢
    have HB2 : Hid (Below w.heap.size w w2) := HB1.out.trans (hb.mono HB1.out.size)
    have H1 := Lib.hid h1
    clear hb h1
    go_wp2_with fail
    go_ret
    exact ⟨by rw [← HW.out, decide_eq_false H1.out, Bool.false_or]; simp only [Bool.beq_eq_decide_eq]; rfl, HB2.out⟩
end Go.Proofs.Ytabdejoakecioaa

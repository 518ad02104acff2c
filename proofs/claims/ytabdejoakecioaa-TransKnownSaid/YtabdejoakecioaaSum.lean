/-
  Contracts of package sum's small functions: fold, word, halfWord, Change, Value, Len, Add. Conditions: the numbers fit their Go types, the bytes lie where the slice leads, rows shorter than 2 to the 40.
-/
import Derived.Test.YtabdejoakecioaaNum
import Derived.Test.YtabdejoakecioaaSumM
import Derived.WalkMore
namespace Go.Proofs.Ytabdejoakecioaa
open Go.RowKit

theorem u64_low (m : Int) (h0 : 0 ≤ m) (h1 : m ≤ 18446744073709551615) : bits .and .u64 m 65535 = m % 65536 := by
  rw [u64_and _ _ h0 (by omega) (by omega) (by omega)]
  have : (65535 : Int).toNat = 65535 := rfl
  rw [this, show (65535 : Nat) = 2 ^ 16 - 1 from rfl, Nat.and_two_pow_sub_one_eq_mod]
  omega

set_option maxHeartbeats 400000 in
theorem fold_any (n : Int) (w : World) (h0 : 0 ≤ n) (h1 : n ≤ 18446744073709551615) : Calls Try.prog 80 #[.int .u64 n] w fun e w' => e = .returned (.int .u16 (fld n)) ∧ w = w' := by
  go_enter Try.func80, Try.ntmps80
  go_wp2
  go_step3
  go_wp2
  go_step3
  go_wp2
  go_loop [0] (fun s => ∃ m : Int, 0 ≤ m ∧ m ≤ 18446744073709551615 ∧ s = .int .u64 m ∧ Hid (fld m = fld n)) (fun s => (intOf s).toNat)
  case atStart => exact ⟨n, h0, h1, rfl, rfl⟩
  case round =>
    obtain ⟨m, hm0, hm1, rfl, hf⟩ := hrel
    by_cases hb : m < 65536
    · have hq : m / 65536 = 0 := by omega
      go_wp2
      go_ret
      exact ⟨by rw [← hf.out, fld_small hm0 (by omega)]; rfl, rfl⟩
    · have hq : ¬ m / 65536 = 0 := by omega
      have ha := u64_low m hm0 hm1
      go_wp2
      go_round
      case rel => exact ⟨m % 65536 + m / 65536, by omega, by omega, by go_num, (fld_step' (by omega)).trans hf.out⟩
      case measure => simp [intOf]; omega

/-- Two bytes side by side. -/
theorem num_two (xs : List Int) (j : Nat) (h : j + 2 ≤ xs.length) : num ((xs.drop j).take 2) = wordAt xs j := by
  have e : (xs.drop j).take 2 = [xs.getD j 0, xs.getD (j + 1) 0] := by
    rw [List.drop_eq_getElem_cons (show j < xs.length by omega), List.drop_eq_getElem_cons (show j + 1 < xs.length by omega)]
    simp only [List.take, List.getD_eq_getElem?_getD, List.getElem?_eq_getElem (show j < xs.length by omega), List.getElem?_eq_getElem (show j + 1 < xs.length by omega), Option.getD_some]
  rw [e]
  simp [num, numFrom, wordAt]
theorem num_one (xs : List Int) (j : Nat) (h : j + 1 ≤ xs.length) : num ((xs.drop j).take 1) = xs.getD j 0 := by
  have e : (xs.drop j).take 1 = [xs.getD j 0] := by
    rw [List.drop_eq_getElem_cons (show j < xs.length by omega)]
    simp only [List.take, List.getD_eq_getElem?_getD, List.getElem?_eq_getElem (show j < xs.length by omega), Option.getD_some]
  rw [e]
  simp [num, numFrom]
theorem get_two (xs : List Int) (j : Nat) (h : j + 2 ≤ xs.length) : getE xs j 2 = 0 ∧ getV xs j 2 = wordAt xs j := by
  have e : getE xs j 2 = 0 := by unfold getE; rw [if_pos (by simp [szB]), if_pos (by omega)]
  exact ⟨e, by unfold getV; rw [if_pos e]; exact num_two xs j h⟩
theorem get_last (xs : List Int) (j : Nat) (h : j + 1 = xs.length) : getE xs j 2 = 10 ∧ getV xs j 2 = 0 ∧ getE xs j 1 = 0 ∧ getV xs j 1 * 256 = wordAt xs j ∧ getV xs j 1 = xs.getD j 0 := by
  have e : getE xs j 2 = 10 := by unfold getE; rw [if_pos (by simp [szB]), if_neg (by omega)]
  have e1 : getE xs j 1 = 0 := by unfold getE; rw [if_pos (by simp [szB]), if_pos (by omega)]
  have e2 : getV xs j 1 = xs.getD j 0 := by unfold getV; rw [if_pos e1]; exact num_one xs j (by omega)
  refine ⟨e, by unfold getV; rw [if_neg (by omega)], e1, ?_, e2⟩
  rw [e2]; unfold wordAt; rw [getD_beyond xs (j + 1) (by omega)]; omega

set_option maxHeartbeats 400000 in
theorem word_any (a : Option Addr) (n cap : Nat) (xs : List Int) (j : Nat) (w : World) (hn : xs.length = n) (hr : Rd w a xs) (hb : Byt xs) (hl : n ≤ 1099511627776) (hc : n ≤ cap) (hj : j < n) :
    Calls Try.prog 79 #[.slice a n cap, .int .i64 j] w fun e w' => e = .returned (.int .u64 (wordAt xs j)) ∧ w = w' := by
  have HN := Lib.hid hn
  have HR := Lib.hid hr
  have HB := Lib.hid hb
  clear hr hb
  by_cases h2 : j + 2 ≤ n
  · obtain ⟨he, hv⟩ := get_two xs j (by omega)
    have HE := Lib.hid he
    have HV := Lib.hid hv
    clear he hv hn
    go_enter Try.func79, Try.ntmps79
    go_wp2_with fail
    refine (get_any _ _ _ xs _ _ _ HN.out HR.out HB.out (by omega) (by omega) (by omega)).mono ?_
    rintro e w1 ⟨rfl, rfl⟩
    rw [HE.out, HV.out]
    go_wp2_with fail
    go_ret
    exact ⟨rfl, rfl⟩
  · obtain ⟨he, hv, he1, hv1, hv2⟩ := get_last xs j (by omega)
    have HE := Lib.hid he
    have HV := Lib.hid hv
    have HE1 := Lib.hid he1
    have HV1 := Lib.hid hv1
    have hx0 : 0 ≤ getV xs j 1 := by rw [hv2]; exact (HB.out.get j).1
    have hx1 : getV xs j 1 < 256 := by rw [hv2]; exact (HB.out.get j).2
    clear he hv he1 hv1 hv2 hn
    obtain ⟨x, hx⟩ : ∃ x, getV xs j 1 = x := ⟨_, rfl⟩
    rw [hx] at HV1 hx0 hx1
    have HX := Lib.hid hx
    clear hx
    go_enter Try.func79, Try.ntmps79
    go_wp2_with fail
    refine (get_any _ _ _ xs _ _ _ HN.out HR.out HB.out (by omega) (by omega) (by omega)).mono ?_
    rintro e w1 ⟨rfl, rfl⟩
    rw [HE.out, HV.out]
    go_wp2_with fail
    refine (get_any _ _ _ xs _ _ _ HN.out HR.out HB.out (by omega) (by omega) (by omega)).mono ?_
    rintro e w1 ⟨rfl, rfl⟩
    rw [HE1.out, HX.out]
    go_wp2_with fail
    go_ret
    exact ⟨by rw [← HV1.out]; rfl, rfl⟩

/-- A sum at the head of a block: what is folded, and how many bytes there were. -/
structure Sm (w : World) (g : Nat) (f : Int) (c : Nat) : Prop where
  at_ : w.heap[g]? = some (.cells #[.int .u16 f, .int .i64 c] 104 (0, 0))
  lo : 0 ≤ f
  hi : f ≤ 65535
  few : c ≤ 1099511627776

theorem Sm.cell0 {w : World} {g : Nat} {f : Int} {c : Nat} (h : Sm w g f c) : w.cell? ⟨g, 0, none⟩ = some (.int .u16 f) := by
  rw [cell_of_row w g 0 _ _ (0, 0) h.at_]; rfl
theorem Sm.cell1 {w : World} {g : Nat} {f : Int} {c : Nat} (h : Sm w g f c) : w.cell? ⟨g, 1, none⟩ = some (.int .i64 c) := by
  rw [cell_of_row w g 1 _ _ (0, 0) h.at_]; rfl
theorem Sm.free {w : World} {g : Nat} {f : Int} {c : Nat} (h : Sm w g f c) (j : Nat) : w.frozen? ⟨g, j, none⟩ = false := frozen_of_row w g j _ _ h.at_
theorem Sm.keep {S : Nat → Prop} {w w' : World} {g : Nat} {f : Int} {c : Nat} (h : Sm w g f c) (k : Kept S w w') (hn : ¬ S g) : Sm w' g f c :=
  ⟨k.heap h.at_ hn, h.lo, h.hi, h.few⟩
theorem Sm.new (w : World) : Sm (w.alloc (.cells #[.int .u16 0, .int .i64 0] 104)) w.heap.size 0 0 := ⟨Blk_new w _ _, by omega, by omega, by omega⟩

theorem half_any (g : Nat) (f : Int) (c : Nat) (w : World) (h : Sm w g f c) : Calls Try.prog 78 #[.pointer (some ⟨g, 0, none⟩)] w fun e w' => e = .returned (.bool ((c : Int) % 2 != 0)) ∧ w = w' := by
  have h1 := h.cell1
  have hf := h.few
  clear h
  go_enter Try.func78, Try.ntmps78
  go_wp2
  go_ret
  exact ⟨rfl, rfl⟩

/- left out: not in this seat -/

/- left out: not in this seat -/

/- left out: not in this seat -/

/- left out: not in this seat -/

theorem add_nil (a : Option Addr) (n cap : Nat) (w : World) : Calls Try.prog 76 #[.pointer none, .slice a n cap] w fun e w' => e = .returned (.tuple #[]) ∧ w = w' := by
  go_enter Try.func76, Try.ntmps76
  go_wp2
  refine bodyPost_ret (results_none rfl _ _ _) rfl ?_
  exact ⟨rfl, rfl⟩

/-- What Change tells. -/
def chg (s f t : Int) : Int := 65535 - fld (65535 - s + (65535 - f) + t)

/- left out: not in this seat -/

/-- What Add leaves: the sum alone was written. -/
def Added (w : World) (g : Nat) (f : Int) (c : Nat) (ys : List Int) (w' : World) : Prop :=
  Sm w' g (fld (f + ws c ys)) (c + ys.length) ∧ Kept (fun k => k = g) w w'
theorem added_of {w : World} {g : Nat} {f : Int} {c n : Nat} {ys : List Int} (h : Sm w g f c) (hb : Byt ys) (hn : ys.length = n) (hl : c + n ≤ 1099511627776) :
    Added w g f c ys ((w.setCell ⟨g, 0, none⟩ (.int .u16 (fld (f + ws c ys)))).setCell ⟨g, 1, none⟩ (.int .i64 (c + n))) := by
  subst hn
  have e1 := heap_setCell_same w g 0 _ _ (.int .u16 (fld (f + ws c ys))) h.at_
  have e2 := heap_setCell_same _ g 1 _ _ (.int .i64 (c + ys.length)) e1
  have hr := @fld_range (f + ws c ys) (by have := h.lo; have := (ws_range ys c hb).1; omega)
  have hk : Kept (fun k => k = g) w ((w.setCell ⟨g, 0, none⟩ (.int .u16 (fld (f + ws c ys)))).setCell ⟨g, 1, none⟩ (.int .i64 (c + ys.length))) :=
    (Kept.setCell (S := fun k => k = g) w _ _ rfl).trans (Kept.setCell (S := fun k => k = g) _ _ _ rfl) (fun _ _ e => e)
  exact ⟨⟨by simpa using e2, hr.1, hr.2, hl⟩, hk⟩

/-- The rest of Add's walk, from its loop on, in one relation: the total and the place. -/
def AddRel (f : Int) (c : Nat) (ys : List Int) (t p : Value) : Prop :=
  ∃ (x : Int) (j : Nat), 0 ≤ x ∧ x ≤ 1000000 * (j + 1) ∧ j ≤ ys.length + 1 ∧ t = .int .u64 x ∧ p = .int .i64 j ∧ Hid (x = f + ws c (ys.take j)) ∧ (j < ys.length → (c + j) % 2 = 0)

set_option maxHeartbeats 1000000 in
theorem add_any (g : Nat) (f : Int) (c : Nat) (a : Option Addr) (n cap : Nat) (ys : List Int) (w : World) (h : Sm w g f c) (hn : ys.length = n) (hr : Rd w a ys) (hb : Byt ys) (hc : n ≤ cap) (hl : c + n ≤ 1099511627776) :
    Calls Try.prog 76 #[.pointer (some ⟨g, 0, none⟩), .slice a n cap] w fun e w' => e = .returned (.tuple #[]) ∧ Added w g f c ys w' := by
  have HF : Hid (Added w g f c ys ((w.setCell ⟨g, 0, none⟩ (.int .u16 (fld (f + ws c ys)))).setCell ⟨g, 1, none⟩ (.int .i64 (c + n)))) := added_of h hb hn hl
  have HS := Lib.hid h
  have HR := Lib.hid hr
  have HB := Lib.hid hb
  have HN := Lib.hid hn
  have h0 := h.cell0
  have h1 := h.cell1
  have f0 := h.free 0
  have f1 := h.free 1
  have l0 := h.lo
  have l1 := h.hi
  clear h hr hb hn
  by_cases hodd : c % 2 = 0
  · have hd : ((c : Int) % 2 != 0) = false := by simp; omega
    go_enter Try.func76, Try.ntmps76
    go_wp2_with fail
    refine (half_any _ _ _ _ HS.out).mono ?_
    rintro e w1 ⟨rfl, rfl⟩
    rw [hd]
    go_wp2_with fail
    go_loop [4, 5] (AddRel f c ys) (fun _ p => n + 1 - (intOf p).toNat)
    case atStart => exact ⟨f, 0, l0, by omega, by omega, rfl, rfl, by simp [ws_nil, Hid], fun _ => by omega⟩
    case round =>
      obtain ⟨x, j, hx0, hx1, hj, rfl, rfl, hx, hp⟩ := hrel
      rw [HN.out] at hj hp
      by_cases hlt : j < n
      · have hw := wordAt_range HB.out j
        have HT := Lib.hid (ws_take_two c ys j (by rw [HN.out]; exact hlt) (hp hlt))
        go_wp2_with fail
        refine (word_any _ _ _ ys _ _ HN.out HR.out HB.out (by omega) hc hlt).mono ?_
        rintro e w1 ⟨rfl, rfl⟩
        obtain ⟨y, hy⟩ : ∃ y, wordAt ys j = y := ⟨_, rfl⟩
        rw [hy] at hw HT ⊢
        obtain ⟨hw0, hw1⟩ := hw
        clear hy
        go_wp2_with fail
        go_round
        case rel => exact ⟨x + y, j + 2, by omega, by omega, by rw [HN.out]; omega, by go_num, by go_num, by rw [HT.out, hx.out]; exact Int.add_assoc _ _ _, fun h => by have := hp hlt; omega⟩
        case measure => simp [intOf]; omega
      · go_wp2_with fail
        refine (fold_any _ _ hx0 (by omega)).mono ?_
        rintro e w1 ⟨rfl, rfl⟩
        rw [hx.out, List.take_of_length_le (by rw [HN.out]; omega)]
        go_wp2_with fail
        go_end0
        exact ⟨rfl, HF.out⟩
  · have hd : ((c : Int) % 2 != 0) = true := by simp; omega
    by_cases hz : 0 < n
    · obtain ⟨b, o, rfl, hcell⟩ := HR.out (by intro e; have := HN.out; rw [e] at this; simp at this; omega)
      have hc0 := hcell 0 (by rw [HN.out]; exact hz)
      rw [Nat.add_zero] at hc0
      have hx := HB.out.get 0
      have HT := Lib.hid (ws_take_succ c ys 0 (by rw [HN.out]; exact hz))
      have HO : Hid (wt (c + 0) (ys.getD 0 0) = ys.getD 0 0) := by show wt _ _ = _; unfold wt; rw [if_neg (by omega)]
      obtain ⟨y, hy⟩ : ∃ y, ys.getD 0 0 = y := ⟨_, rfl⟩
      rw [hy] at hc0 hx HT HO
      rw [HO.out] at HT
      obtain ⟨hy0, hy1⟩ := hx
      have HC := Lib.hid hcell
      clear hy hcell HO
      go_enter Try.func76, Try.ntmps76
      go_wp2_with fail
      refine (half_any _ _ _ _ HS.out).mono ?_
      rintro e w1 ⟨rfl, rfl⟩
      rw [hd]
      go_wp2_with fail
      go_loop [4, 5] (AddRel f c ys) (fun _ p => n + 1 - (intOf p).toNat)
      case atStart => exact ⟨f + y, 1, by omega, by omega, by rw [HN.out]; omega, by go_num, rfl, by rw [HT.out]; simp [ws_nil, Hid], fun _ => by omega⟩
      case round =>
        obtain ⟨x, j, hx0, hx1, hj, rfl, rfl, hx, hp⟩ := hrel
        rw [HN.out] at hj hp
        by_cases hlt : j < n
        · have hw := wordAt_range HB.out j
          have HT := Lib.hid (ws_take_two c ys j (by rw [HN.out]; exact hlt) (hp hlt))
          go_wp2_with fail
          refine (word_any _ _ _ ys _ _ HN.out HR.out HB.out (by omega) hc hlt).mono ?_
          rintro e w1 ⟨rfl, rfl⟩
          obtain ⟨y, hy⟩ : ∃ y, wordAt ys j = y := ⟨_, rfl⟩
          rw [hy] at hw HT ⊢
          obtain ⟨hw0, hw1⟩ := hw
          clear hy
          go_wp2_with fail
          go_round
          case rel => exact ⟨x + y, j + 2, by omega, by omega, by rw [HN.out]; omega, by go_num, by go_num, by rw [HT.out, hx.out]; exact Int.add_assoc _ _ _, fun h => by have := hp hlt; omega⟩
          case measure => simp [intOf]; omega
        · go_wp2_with fail
          refine (fold_any _ _ hx0 (by omega)).mono ?_
          rintro e w1 ⟨rfl, rfl⟩
          rw [hx.out, List.take_of_length_le (by rw [HN.out]; omega)]
          go_wp2_with fail
          go_end0
          exact ⟨rfl, HF.out⟩
    · have hz0 : n = 0 := by omega
      subst hz0
      go_enter Try.func76, Try.ntmps76
      go_wp2_with fail
      refine (half_any _ _ _ _ HS.out).mono ?_
      rintro e w1 ⟨rfl, rfl⟩
      rw [hd]
      go_wp2_with fail
      go_loop [4, 5] (fun t p => t = .int .u64 f ∧ p = .int .i64 0) (fun _ _ => 0)
      case atStart => exact ⟨rfl, rfl⟩
      case round =>
        obtain ⟨rfl, rfl⟩ := hrel
        have HY : Hid (ws c ys = 0) := by have := HN.out; rw [List.eq_nil_of_length_eq_zero this]; rfl
        go_wp2_with fail
        refine (fold_any _ _ l0 (by omega)).mono ?_
        rintro e w1 ⟨rfl, rfl⟩
        rw [show f = f + ws c ys by rw [HY.out]; omega]
        go_wp2_with fail
        go_end0
        exact ⟨rfl, HF.out⟩
end Go.Proofs.Ytabdejoakecioaa

/-
  The contracts of Cut and of what prefixes are asked: Right, Has, Within. Conditions: sixteen bytes each, numbers of an int.
-/
import Derived.Test.YtbnfmiopgjmppaaDoorAdRight
namespace Go.Proofs.YtbnfmiopgjmppaaDoor
open Go.RowKit

theorem there_kept {w wr : World} (h : Below w.heap.size w wr) {b o n : Nat} (ht : w.there b o n) : wr.there b o n := fun j hj => by
  obtain ⟨h1, h2⟩ := ht j hj
  obtain ⟨u, hu⟩ := Option.isSome_iff_exists.1 h1
  have hb := World.block_lt_of_cell? w _ hu
  rw [h.cell (p := ⟨b, o + j, none⟩) hb, h.frozen (p := ⟨b, o + j, none⟩) hb]
  exact ⟨h1, h2⟩
theorem there_part {w : World} {b n o m : Nat} (h : w.there b 0 n) (hm : o + m ≤ n) : w.there b o m := fun j hj => by
  have := h (o + j) (by omega)
  rwa [Nat.zero_add] at this
theorem adl_stored {w : World} {b : Nat} {s : Bool} {xs ys : List Int} (h : w.rangeAt b 0 (adl s xs)) (ht : w.there b 1 16) (hy : ys.length = 16) : (w.setCells b 1 (bv ys)).rangeAt b 0 (adl s ys) := fun j v hv => by
  cases j with
  | zero =>
    rw [World.cell?_setCells_out b (bv ys) 1 w ⟨b, 0 + 0, none⟩ (fun _ _ => by simp)]
    have := h 0 v (by simpa [adl] using hv)
    exact this
  | succ j =>
    have := World.rangeAt_setCells_same w b 1 (bv ys) (by rw [bv_length, hy]; exact ht) j v (by simpa [adl] using hv)
    rwa [show 1 + j = 0 + (j + 1) by omega] at this
theorem builtP (s : Bool) (xs : List Int) (n : Int) (h : xs.length = 16) : Tryd.prog.built 48 [(0, .agg (adl s xs).toArray), (1, .int .i64 n)] = some (pfl s xs n).toArray := by
  obtain ⟨a, b, c, d, e, f, g, i, j, k, l, m, n, o, p, q, rfl⟩ := list16 xs h
  kernel_rfl
theorem builtP0 : Tryd.prog.built 48 [] = some (pfl false (zs 16) 0).toArray := by kernel_rfl

/-- A number, brought between 0 and all digits. -/
def clm (s : Bool) (n : Int) : Int := if n < 0 then 0 else if dgA s < n then dgA s else n
theorem clm_b (s : Bool) (n : Int) : 0 ≤ clm s n ∧ clm s n ≤ 128 := by
  have := dgA_b s
  unfold clm
  (repeat' split) <;> omega
/-- What an address is cut to. -/
def cutV (s : Bool) (xs : List Int) (n : Int) : List Value := if rgt s xs then pfl s (hdL xs (clm s n)) (clm s n) else pfl false (zs 16) 0

set_option maxRecDepth 100000 in
set_option maxHeartbeats 4000000 in
theorem aCut_not (s : Bool) (xs : List Int) (n : Int) (w : World) (hl : xs.length = 16) (hb : Byt xs) (hr : rgt s xs = false) : Calls Tryd.prog 26 #[.agg (adl s xs).toArray, .int .i64 n] w (Gives w (.agg (pfl false (zs 16) 0).toArray)) := by
  have HL := Lib.hid hl
  have HB := Lib.hid hb
  have HR := Lib.hid hr
  clear hl hb hr
  go_enter Tryd.func26, Tryd.ntmps26
  go_wp2_with (refine ldA _ rfl rfl _ _ rfl s xs HL.out (World.rangeAt_alloc (adl_range w s xs _) _) ?_)
  refine (aRight_any s xs _ HL.out HB.out).mono ?_
  rintro e w1 ⟨rfl, hb1⟩
  rw [HR.out]
  have HT : Hid (w1.there (w.heap.size + 1) 0 18) := there_kept hb1 (there_new _ _ _ _ rfl _ (by simp))
  have HB1 : Hid (Below w.heap.size w w1) := (((Below.refl _ _).alloc (Nat.le_refl _) _).alloc (by simp) _).trans (hb1.mono (by simp; omega))
  clear hb1
  go_wp2_with (first
    | (refine wpList_build_run (cells := (pfl false (zs 16) 0).toArray) rfl 48 _ rfl ?_ ?_; · exact builtP0)
    | (refine stP _ _ rfl rfl _ _ false (zs 16) 0 rfl rfl (zs_length 16) HT.out ?_))
  refine bodyPost_ret (v := .agg (pfl false (zs 16) 0).toArray) (ret_mid Tryd.results26 _ _ _ _ (pfl false (zs 16) 0) _ rfl (World.rangeAt_setCells_same _ _ _ _ ?_) Tryd.underlying48 rfl ?_) rfl ⟨rfl, ?_⟩
  · rw [pfl_len _ _ _ (zs_length 16)]; exact HT.out
  · rw [pfl_len _ _ _ (zs_length 16)]; exact infP
  · exact Below.setCells HB1.out _ (by omega) _ _

set_option maxRecDepth 100000 in
set_option maxHeartbeats 4000000 in
theorem aCut_m (s : Bool) (xs : List Int) (n m d : Int) (w : World) (hl : xs.length = 16) (hb : Byt xs) (hr : rgt s xs = true) (hd : dgA s = d) (hm : (n < 0 ∧ m = 0) ∨ (d < n ∧ m = d) ∨ (0 ≤ n ∧ n ≤ d ∧ m = n)) :
    Calls Tryd.prog 26 #[.agg (adl s xs).toArray, .int .i64 n] w (Gives w (.agg (pfl s (hdL xs m) m).toArray)) := by
  have HL := Lib.hid hl
  have HB := Lib.hid hb
  have HR := Lib.hid hr
  obtain ⟨d0, d1⟩ := dgA_b s
  rw [hd] at d0 d1
  have HD := Lib.hid hd
  have HLH := Lib.hid (hdL_len xs m)
  have hm0 : 0 ≤ m ∧ m ≤ 128 := by omega
  clear hl hb hr hd
  obtain ⟨ys, hys⟩ : ∃ ys, hdL xs m = ys := ⟨_, rfl⟩
  rw [hys] at HLH ⊢
  have HY := Lib.hid hys
  clear hys
  rcases hm with ⟨c1, rfl⟩ | ⟨c1, rfl⟩ | ⟨c1, c2, rfl⟩
  · have HM := Lib.hid hm0
    clear hm0
    go_enter Tryd.func26, Tryd.ntmps26
    go_wp2_with (refine ldA _ rfl rfl _ _ rfl s xs HL.out (World.rangeAt_alloc (adl_range w s xs _) _) ?_)
    refine (aRight_any s xs _ HL.out HB.out).mono ?_
    rintro e w1 ⟨rfl, hb1⟩
    rw [HR.out]
    have HT : Hid (w1.there (w.heap.size + 1) 0 18) := there_kept hb1 (there_new _ _ _ _ rfl _ (by simp))
    have HA : Hid (w1.there w.heap.size 0 17) := there_kept hb1 (World.there_alloc (there_new _ _ _ _ (by simp [adl_len s xs HL.out]) _ rfl) _)
    have HG : Hid (w1.rangeAt w.heap.size 0 (adl s xs)) := range_kept hb1 (World.rangeAt_alloc (adl_range w s xs _) _)
    have HB1 : Hid (Below w.heap.size w w1) := (((Below.refl _ _).alloc (Nat.le_refl _) _).alloc (by simp) _).trans (hb1.mono (by simp; omega))
    clear hb1
    go_wp2_with (refine ldA _ rfl rfl _ _ rfl s xs HL.out HG.out ?_)
    refine (aDigits_any s xs _ HL.out).mono ?_
    rintro e w2 ⟨rfl, hb2⟩
    rw [HD.out]
    have HT2 := Lib.hid (there_kept hb2 HT.out)
    have HA2 := Lib.hid (there_kept hb2 HA.out)
    have HG2 := Lib.hid (range_kept hb2 HG.out)
    have HB2 := Lib.hid (HB1.out.trans (hb2.mono HB1.out.size))
    clear hb2 HT HA HG HB1
    go_wp2_with (refine ld16 _ rfl rfl _ _ rfl xs HL.out (adl_bytes HG2.out) ?_)
    refine (aHead_any xs _ _ HL.out HB.out HM.out.1 HM.out.2).mono ?_
    rintro e w3 ⟨rfl, hb3⟩
    rw [HY.out]
    have HT3 := Lib.hid (there_kept hb3 HT2.out)
    have HA3 := Lib.hid (there_part (o := 1) (m := 16) (there_kept hb3 HA2.out) (by omega))
    have HG3 := Lib.hid (range_kept hb3 HG2.out)
    have HB3 := Lib.hid (HB2.out.trans (hb3.mono HB2.out.size))
    have HS3 : Hid (((w3.setCells w.heap.size 1 (bv ys))).rangeAt w.heap.size 0 (adl s ys)) := adl_stored HG3.out HA3.out HLH.out
    have HU3 : Hid (((w3.setCells w.heap.size 1 (bv ys))).there (w.heap.size + 1) 0 18) := World.there_setCells HT3.out _ _ _
    clear hb3 HT2 HA2 HG2 HB2
    go_wp2_with (first
      | (refine st16 _ _ rfl rfl _ _ ys rfl rfl HLH.out HA3.out ?_)
      | (refine ldA _ rfl rfl _ _ rfl s ys HLH.out HS3.out ?_)
      | (refine wpList_build_run (cells := (pfl s ys 0).toArray) rfl 48 _ rfl ?_ ?_; · exact builtP s ys 0 HLH.out)
      | (refine stP _ _ rfl rfl _ _ s ys 0 rfl rfl HLH.out HU3.out ?_))
    refine bodyPost_ret (v := .agg (pfl s ys 0).toArray) (ret_mid Tryd.results26 _ _ _ _ (pfl s ys 0) _ rfl (World.rangeAt_setCells_same _ _ _ _ ?_) Tryd.underlying48 rfl ?_) rfl ⟨rfl, ?_⟩
    · rw [pfl_len _ _ _ HLH.out]; exact HU3.out
    · rw [pfl_len _ _ _ HLH.out]; exact infP
    · exact Below.setCells (Below.setCells HB3.out _ (Nat.le_refl _) _ _) _ (by omega) _ _
  · have HM := Lib.hid hm0
    clear hm0
    go_enter Tryd.func26, Tryd.ntmps26
    go_wp2_with (refine ldA _ rfl rfl _ _ rfl s xs HL.out (World.rangeAt_alloc (adl_range w s xs _) _) ?_)
    refine (aRight_any s xs _ HL.out HB.out).mono ?_
    rintro e w1 ⟨rfl, hb1⟩
    rw [HR.out]
    have HT : Hid (w1.there (w.heap.size + 1) 0 18) := there_kept hb1 (there_new _ _ _ _ rfl _ (by simp))
    have HA : Hid (w1.there w.heap.size 0 17) := there_kept hb1 (World.there_alloc (there_new _ _ _ _ (by simp [adl_len s xs HL.out]) _ rfl) _)
    have HG : Hid (w1.rangeAt w.heap.size 0 (adl s xs)) := range_kept hb1 (World.rangeAt_alloc (adl_range w s xs _) _)
    have HB1 : Hid (Below w.heap.size w w1) := (((Below.refl _ _).alloc (Nat.le_refl _) _).alloc (by simp) _).trans (hb1.mono (by simp; omega))
    clear hb1
    go_wp2_with (refine ldA _ rfl rfl _ _ rfl s xs HL.out HG.out ?_)
    refine (aDigits_any s xs _ HL.out).mono ?_
    rintro e w2 ⟨rfl, hb2⟩
    rw [HD.out]
    have HT2 := Lib.hid (there_kept hb2 HT.out)
    have HA2 := Lib.hid (there_kept hb2 HA.out)
    have HG2 := Lib.hid (range_kept hb2 HG.out)
    have HB2 := Lib.hid (HB1.out.trans (hb2.mono HB1.out.size))
    clear hb2 HT HA HG HB1
    go_wp2_with (refine ld16 _ rfl rfl _ _ rfl xs HL.out (adl_bytes HG2.out) ?_)
    refine (aHead_any xs _ _ HL.out HB.out HM.out.1 HM.out.2).mono ?_
    rintro e w3 ⟨rfl, hb3⟩
    rw [HY.out]
    have HT3 := Lib.hid (there_kept hb3 HT2.out)
    have HA3 := Lib.hid (there_part (o := 1) (m := 16) (there_kept hb3 HA2.out) (by omega))
    have HG3 := Lib.hid (range_kept hb3 HG2.out)
    have HB3 := Lib.hid (HB2.out.trans (hb3.mono HB2.out.size))
    have HS3 : Hid (((w3.setCells w.heap.size 1 (bv ys))).rangeAt w.heap.size 0 (adl s ys)) := adl_stored HG3.out HA3.out HLH.out
    have HU3 : Hid (((w3.setCells w.heap.size 1 (bv ys))).there (w.heap.size + 1) 0 18) := World.there_setCells HT3.out _ _ _
    clear hb3 HT2 HA2 HG2 HB2
    go_wp2_with (first
      | (refine st16 _ _ rfl rfl _ _ ys rfl rfl HLH.out HA3.out ?_)
      | (refine ldA _ rfl rfl _ _ rfl s ys HLH.out HS3.out ?_)
      | (refine wpList_build_run (cells := (pfl s ys m).toArray) rfl 48 _ rfl ?_ ?_; · exact builtP s ys m HLH.out)
      | (refine stP _ _ rfl rfl _ _ s ys m rfl rfl HLH.out HU3.out ?_))
    refine bodyPost_ret (v := .agg (pfl s ys m).toArray) (ret_mid Tryd.results26 _ _ _ _ (pfl s ys m) _ rfl (World.rangeAt_setCells_same _ _ _ _ ?_) Tryd.underlying48 rfl ?_) rfl ⟨rfl, ?_⟩
    · rw [pfl_len _ _ _ HLH.out]; exact HU3.out
    · rw [pfl_len _ _ _ HLH.out]; exact infP
    · exact Below.setCells (Below.setCells HB3.out _ (Nat.le_refl _) _ _) _ (by omega) _ _
  · have HM := Lib.hid hm0
    clear hm0
    go_enter Tryd.func26, Tryd.ntmps26
    go_wp2_with (refine ldA _ rfl rfl _ _ rfl s xs HL.out (World.rangeAt_alloc (adl_range w s xs _) _) ?_)
    refine (aRight_any s xs _ HL.out HB.out).mono ?_
    rintro e w1 ⟨rfl, hb1⟩
    rw [HR.out]
    have HT : Hid (w1.there (w.heap.size + 1) 0 18) := there_kept hb1 (there_new _ _ _ _ rfl _ (by simp))
    have HA : Hid (w1.there w.heap.size 0 17) := there_kept hb1 (World.there_alloc (there_new _ _ _ _ (by simp [adl_len s xs HL.out]) _ rfl) _)
    have HG : Hid (w1.rangeAt w.heap.size 0 (adl s xs)) := range_kept hb1 (World.rangeAt_alloc (adl_range w s xs _) _)
    have HB1 : Hid (Below w.heap.size w w1) := (((Below.refl _ _).alloc (Nat.le_refl _) _).alloc (by simp) _).trans (hb1.mono (by simp; omega))
    clear hb1
    go_wp2_with (refine ldA _ rfl rfl _ _ rfl s xs HL.out HG.out ?_)
    refine (aDigits_any s xs _ HL.out).mono ?_
    rintro e w2 ⟨rfl, hb2⟩
    rw [HD.out]
    have HT2 := Lib.hid (there_kept hb2 HT.out)
    have HA2 := Lib.hid (there_kept hb2 HA.out)
    have HG2 := Lib.hid (range_kept hb2 HG.out)
    have HB2 := Lib.hid (HB1.out.trans (hb2.mono HB1.out.size))
    clear hb2 HT HA HG HB1
    go_wp2_with (refine ld16 _ rfl rfl _ _ rfl xs HL.out (adl_bytes HG2.out) ?_)
    refine (aHead_any xs _ _ HL.out HB.out HM.out.1 HM.out.2).mono ?_
    rintro e w3 ⟨rfl, hb3⟩
    rw [HY.out]
    have HT3 := Lib.hid (there_kept hb3 HT2.out)
    have HA3 := Lib.hid (there_part (o := 1) (m := 16) (there_kept hb3 HA2.out) (by omega))
    have HG3 := Lib.hid (range_kept hb3 HG2.out)
    have HB3 := Lib.hid (HB2.out.trans (hb3.mono HB2.out.size))
    have HS3 : Hid (((w3.setCells w.heap.size 1 (bv ys))).rangeAt w.heap.size 0 (adl s ys)) := adl_stored HG3.out HA3.out HLH.out
    have HU3 : Hid (((w3.setCells w.heap.size 1 (bv ys))).there (w.heap.size + 1) 0 18) := World.there_setCells HT3.out _ _ _
    clear hb3 HT2 HA2 HG2 HB2
    go_wp2_with (first
      | (refine st16 _ _ rfl rfl _ _ ys rfl rfl HLH.out HA3.out ?_)
      | (refine ldA _ rfl rfl _ _ rfl s ys HLH.out HS3.out ?_)
      | (refine wpList_build_run (cells := (pfl s ys m).toArray) rfl 48 _ rfl ?_ ?_; · exact builtP s ys m HLH.out)
      | (refine stP _ _ rfl rfl _ _ s ys m rfl rfl HLH.out HU3.out ?_))
    refine bodyPost_ret (v := .agg (pfl s ys m).toArray) (ret_mid Tryd.results26 _ _ _ _ (pfl s ys m) _ rfl (World.rangeAt_setCells_same _ _ _ _ ?_) Tryd.underlying48 rfl ?_) rfl ⟨rfl, ?_⟩
    · rw [pfl_len _ _ _ HLH.out]; exact HU3.out
    · rw [pfl_len _ _ _ HLH.out]; exact infP
    · exact Below.setCells (Below.setCells HB3.out _ (Nat.le_refl _) _ _) _ (by omega) _ _
theorem aCut_any (s : Bool) (xs : List Int) (n : Int) (w : World) (hl : xs.length = 16) (hb : Byt xs) : Calls Tryd.prog 26 #[.agg (adl s xs).toArray, .int .i64 n] w (Gives w (.agg (cutV s xs n).toArray)) := by
  cases hr : rgt s xs with
  | false => rw [cutV, hr]; exact aCut_not s xs n w hl hb hr
  | true =>
    rw [cutV, hr]
    exact aCut_m s xs n (clm s n) (dgA s) w hl hb hr rfl (by unfold clm; (repeat' split) <;> omega)
end Go.Proofs.YtbnfmiopgjmppaaDoor

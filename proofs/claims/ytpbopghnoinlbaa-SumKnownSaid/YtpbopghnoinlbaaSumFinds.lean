/-
  SumFinds: whatever bytes, place and number come in, the statement's function answers true, and what came in reads afterwards as before. No conditions.
-/
import Derived.Test.YtpbopghnoinlbaaSumKeeps
import Derived.Deep.RegionWith
namespace Go.Proofs.Ytpbopghnoinlbaa
open Go.ChangeShapes Go.WideShapes Go.ChangeAt Go.RowKit

theorem word_set (xs : List Int) (j : Nat) (v : Int) (hj : j < xs.length) : wordAt (xs.set j v) (2 * (j / 2)) - wordAt xs (2 * (j / 2)) = wt (0 + j) v - wt (0 + j) (xs.getD j 0) := by
  unfold wordAt wt
  by_cases e : j % 2 = 0
  · rw [show 2 * (j / 2) = j by omega, getD_set_same _ _ _ hj, getD_set_ne _ _ _ _ (by omega), if_pos (by omega), if_pos (by omega)]
    omega
  · rw [show 2 * (j / 2) + 1 = j by omega, getD_set_same _ _ _ hj, getD_set_ne _ _ _ _ (by omega), if_neg (by omega), if_neg (by omega)]
    omega
theorem finds_whole (xs : List Int) (j : Nat) (v : Int) (hj : j < xs.length) (hw : whl (ws 0 xs) = true) :
    whl (ws 0 (xs.set j v)) = (wordAt xs (2 * (j / 2)) % 65535 == wordAt (xs.set j v) (2 * (j / 2)) % 65535) := by
  have h1 := word_set xs j v hj
  have h2 := ws_set xs 0 j v hj
  rw [whl, decide_eq_true_eq] at hw
  rw [whl, Bool.eq_iff_iff, decide_eq_true_eq, beq_iff_eq]
  omega

/-- Words, and one of them. -/
theorem words_at (a : Option Addr) (n cap : Nat) (xs : List Int) (j : Nat) (w : World) (hn : xs.length = n) (hr : Rd w a xs) (hb : Byt xs) (hl : n ≤ 100000) (hj : 2 * j < n) :
    Calls Try.prog 20 #[.slice a n cap] w fun e w' => ∃ g c, e = .returned (.slice (some ⟨g, 0, none⟩) (wn n) c) ∧ w'.cell? ⟨g, j, none⟩ = some (.int .u64 (wordAt xs (2 * j))) ∧ Below w.heap.size w w' := by
  subst hn
  have hj2 : j < wn xs.length := by unfold wn; omega
  refine (r3Words_any _ _ _ xs w rfl hr hb hl).mono ?_
  rintro e w1 ⟨a1, cap1, rfl, ho, hbl⟩
  obtain ⟨b, o, rfl, hc⟩ := ho.rdk (by intro e; have := wrds_len xs (wn xs.length); rw [e] at this; simp at this; omega)
  rcases ho.cases with ⟨h0, _⟩ | ⟨g, cur, e, _⟩
  · cases h0
  simp only [Option.some.injEq, Addr.mk.injEq, and_true] at e
  obtain ⟨rfl, rfl⟩ := e
  have h1 := hc j (by rw [wrds_len]; exact hj2)
  rw [wrds_get _ _ _ hj2, Nat.zero_add] at h1
  exact ⟨b, cap1, rfl, h1, hbl⟩

set_option maxHeartbeats 4000000 in
theorem finds_any (a : Option Addr) (n cap : Nat) (xs : List Int) (i y : Int) (w : World) (hn : xs.length = n) (hc : n ≤ cap) (hcm : cap ≤ maxLen) (hr : Rd w a xs) (hb : Byt xs) :
    Calls Try.prog 5 #[.slice a n cap, .int .i64 i, .int .u8 y] w fun e w' => e = .returned (.bool true) ∧ Below w.heap.size w w' := by
  have HN := Lib.hid hn
  have HR := Lib.hid hr
  have HB := Lib.hid hb
  have HCM := Lib.hid hcm
  have hcm2 : cap ≤ 9223372036854775807 := by unfold maxLen at hcm; omega
  clear hn hr hb hcm
  by_cases hl : 600 < n
  · go_enter Try.func5, Try.ntmps5
    go_wp2_with fail
    refine (works3_any _).mono ?_
    rintro e w1 ⟨rfl, hb⟩
    have HB1 := Lib.hid hb
    clear hb
    go_wp2_with fail
    go_ret
    exact ⟨rfl, HB1.out⟩
  by_cases hl2 : n < 2
  · go_enter Try.func5, Try.ntmps5
    go_wp2_with fail
    refine (works3_any _).mono ?_
    rintro e w1 ⟨rfl, hb⟩
    have HB1 := Lib.hid hb
    clear hb
    go_wp2_with fail
    go_ret
    exact ⟨rfl, HB1.out⟩
  go_enter Try.func5, Try.ntmps5
  go_wp2_with fail
  refine (r3Whole_any _ _ _ xs _ HN.out HR.out HB.out (by omega)).mono ?_
  rintro e w1 ⟨rfl, hb⟩
  have HB1 := Lib.hid hb
  clear hb
  cases hw : whl (ws 0 xs) with
  | false =>
    go_wp2_with fail
    refine (works3_any _).mono ?_
    rintro e w2 ⟨rfl, hb⟩
    have HB2 : Hid (Below w.heap.size w w2) := HB1.out.trans (hb.mono HB1.out.size)
    clear hb
    go_wp2_with fail
    go_ret
    exact ⟨rfl, HB2.out⟩
  | true =>
    have HW := Lib.hid hw
    clear hw
    go_wp2_with fail
    refine (kPick_any _ _ _ (by omega) (by omega)).mono ?_
    rintro e w2 ⟨rfl, rfl⟩
    have hi0 := Int.emod_nonneg i (show (n : Int) ≠ 0 by omega)
    have hi1 := Int.emod_lt_of_pos i (show 0 < (n : Int) by omega)
    obtain ⟨j, hj⟩ := Int.eq_ofNat_of_zero_le hi0
    rw [hj] at hi1 ⊢
    clear hi0 hj
    have hjn : j < n := by omega
    obtain ⟨b, o, rfl, hcell⟩ := HR.out (by intro e; have := HN.out; rw [e] at this; simp at this; omega)
    clear hcell
    obtain ⟨g, cap4, w4, hrun, hcp4⟩ := copy_new w1 _ n cap xs HN.out (HR.out.below HB1.out) (by omega) (by omega)
    have HRN := Lib.hid hrun
    obtain ⟨d1, f1⟩ := hcp4.at_ (j := j) hjn
    have hx := HB.out.get j
    obtain ⟨x, hxe⟩ : ∃ x, xs.getD j 0 = x := ⟨_, rfl⟩
    rw [hxe] at d1 hx
    obtain ⟨hx0, hx1⟩ := hx
    have HC4 := Lib.hid hcp4
    clear hrun hcp4 hxe
    go_upto_region 7 with (at_builtin; refine Lib.wpList_append_run _ rfl _ _ _ _ rfl _ _ rfl rfl _ _ HRN.out ?_)
    have hv0 : 0 ≤ (x + y) % 256 := by omega
    have hv1 : (x + y) % 256 < 256 := by omega
    obtain ⟨v, hv⟩ : ∃ v, (x + y) % 256 = v := ⟨_, rfl⟩
    rw [hv] at hv0 hv1 ⊢
    have HC5 := Lib.hid (HC4.out.set j v)
    obtain ⟨w5, hw5⟩ : ∃ w5, w4.setCell ⟨g, j, none⟩ (.int .u8 v) = w5 := ⟨_, rfl⟩
    rw [hw5] at HC5 ⊢
    clear hw5 hv d1 f1 HC4 HRN
    have HB5 : Hid (Below w.heap.size w w5) := HB1.out.trans (HC5.out.below.mono HB1.out.size)
    have HY : Hid (Byt (xs.set j v)) := HB.out.set j ⟨hv0, hv1⟩
    have HW1 : Hid (∀ W, Below w5.heap.size w5 W → Calls Try.prog 20 #[.slice (some ⟨b, o, none⟩) n cap] W fun e w' => ∃ g c, e = .returned (.slice (some ⟨g, 0, none⟩) (wn n) c) ∧ w'.cell? ⟨g, j / 2, none⟩ = some (.int .u64 (wordAt xs (2 * (j / 2)))) ∧ Below W.heap.size W w') :=
      fun W hW => words_at _ _ _ xs _ _ HN.out ((HR.out.below HB5.out).below hW) HB.out (by omega) (by omega)
    have HW2 : Hid (∀ W, Below w5.heap.size w5 W → Calls Try.prog 20 #[.slice (some ⟨g, 0, none⟩) n cap4] W fun e w' => ∃ g c, e = .returned (.slice (some ⟨g, 0, none⟩) (wn n) c) ∧ w'.cell? ⟨g, j / 2, none⟩ = some (.int .u64 (wordAt (xs.set j v) (2 * (j / 2)))) ∧ Below W.heap.size W w') :=
      fun W hW => words_at _ _ _ (xs.set j v) _ _ HC5.out.own.len (HC5.out.own.rd.below hW) HY.out (by omega) (by omega)
    obtain ⟨p, hp⟩ : ∃ p, wordAt xs (2 * (j / 2)) = p := ⟨_, rfl⟩
    obtain ⟨q, hq⟩ : ∃ q, wordAt (xs.set j v) (2 * (j / 2)) = q := ⟨_, rfl⟩
    rw [hp] at HW1
    rw [hq] at HW2
    have HP := Lib.hid hp
    have HQ := Lib.hid hq
    clear hp hq
    obtain ⟨r, hr⟩ : ∃ r, j / 2 = r := ⟨_, rfl⟩
    have hjq : (j : Int) / 2 = (r : Int) := by omega
    obtain ⟨m, hm⟩ : ∃ m, wn n = m := ⟨_, rfl⟩
    have hwn : r < m := by rw [← hm]; unfold wn; omega
    rw [hr] at HW1 HW2 HP HQ
    rw [hm] at HW1 HW2
    have HRJ := Lib.hid hr
    have HMN := Lib.hid hm
    clear hr hm
    have i1 : (0 : Int) ≤ (r : Int) := by omega
    have i2 : (r : Int) < (m : Int) := by omega
    have i3 : (j : Int).tdiv 2 = (r : Int) := by rw [Int.tdiv_eq_ediv_of_nonneg (by omega)]; exact hjq
    have i4 : IntKind.i64.wrap (r : Int) = (r : Int) := IntWalk.i64_in _ (by omega)
    have HD : Hid (Below w5.heap.size w5 w5.drew) := ⟨rfl, rfl, rfl, Nat.le_refl _, fun _ _ => rfl⟩
    have HW1a := Lib.hid (HW1.out _ HD.out)
    go_cut [8, 9] from 40 to 51 (fun s t wc => s = .int .u64 p ∧ t = .int .u64 q ∧ Hid (Below w5.heap.size w5 wc))
    case first =>
      go_region_with (first
        | (go_at_call 20; (with_reducible refine HW1a.out.mono ?_); rintro e wa ⟨ga, ca, rfl, hca, hba⟩; have hba2 : Below w5.heap.size w5 wa := ⟨hba.os, hba.tape, hba.output, hba.size, hba.block⟩)
        | (go_at_call 20; (with_reducible refine (HW2.out _ hba2).mono ?_); rintro e wb ⟨gb, cb, rfl, hcb, hbb⟩; have hbb2 : Below wa.heap.size wa wb := ⟨hbb.os, hbb.tape, hbb.output, hbb.size, hbb.block⟩; have hca2 := cell_kept hbb2 hca)
        | fail)
      all_goals
        go_wp2_with fail
        go_meet
        exact ⟨rfl, rfl, hba2.trans (hbb2.mono hba2.size)⟩
    case rest =>
      obtain ⟨rfl, rfl, HBC⟩ := hcut
      have HB6 : Hid (Below w.heap.size w wc) := HB5.out.trans (HBC.out.mono HB5.out.size)
      clear HW1 HW2 HW1a HD i1 i2 i3 i4 hjq hwn HMN
      go_wp2_with fail
      refine (whole_lit _ [⟨some ⟨b, o, none⟩, n, cap, xs⟩] wc.heap.size 1 _ rfl rfl rfl (all_one ⟨HN.out, hc, HCM.out, HR.out.below HB6.out, HB.out⟩) (by omega) (all_one (show n ≤ 1000 by omega))).mono ?_
      rintro e w7 ⟨rfl, hb⟩
      have HB7 : Hid (Below w.heap.size w w7) := HB6.out.trans (hb.mono HB6.out.size)
      have HK7 : Hid (Below w5.heap.size w5 w7) := HBC.out.trans (hb.mono HBC.out.size)
      rw [cat_one, HW.out]
      clear hb HB6 HBC
      go_wp2_with fail
      refine (whole_lit _ [⟨some ⟨g, 0, none⟩, n, cap4, xs.set j v⟩] w7.heap.size 1 _ rfl rfl rfl (all_one ⟨HC5.out.own.len, HC5.out.own.le.1, HC5.out.own.le.2, HC5.out.own.rd.below HK7.out, HY.out⟩) (by omega) (all_one (show n ≤ 1000 by omega))).mono ?_
      rintro e w8 ⟨rfl, hb⟩
      have HB8 : Hid (Below w.heap.size w w8) := HB7.out.trans (hb.mono HB7.out.size)
      have hpr : 0 ≤ p := by rw [← HP.out]; exact (wordAt_range HB.out _).1
      have hqr : 0 ≤ q := by rw [← HQ.out]; exact (wordAt_range HY.out _).1
      have hfw := finds_whole xs j v (by rw [HN.out]; exact hjn) HW.out
      rw [HRJ.out, HP.out, HQ.out] at hfw
      rw [cat_one, hfw]
      clear hb HB7 HK7 hfw
      go_wp2_with fail
      refine (works3_any _).mono ?_
      rintro e w9 ⟨rfl, hb⟩
      have HB9 : Hid (Below w.heap.size w w9) := HB8.out.trans (hb.mono HB8.out.size)
      clear hb HB8
      go_wp2_with fail
      go_ret
      exact ⟨rfl, HB9.out⟩
end Go.Proofs.Ytpbopghnoinlbaa

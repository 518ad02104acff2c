/-
  SumKeeps: whatever bytes, places and word come in, the statement's function answers true, and what came in reads afterwards as before. No conditions.
-/
import Derived.Test.YtpbopghnoinlbaaSumWorks
import Derived.Test.YtpbopghnoinlbaaKit
import Derived.Deep.Cut
import Derived.Deep.CutRange
namespace Go.Proofs.Ytpbopghnoinlbaa
open Go.ChangeShapes Go.WideShapes Go.ChangeAt Go.RowKit

theorem getD_set_same (xs : List Int) (j : Nat) (v : Int) (h : j < xs.length) : (xs.set j v).getD j 0 = v := by
  rw [List.getD_eq_getElem?_getD, List.getElem?_set_self h]; rfl
theorem getD_set_ne (xs : List Int) (i j : Nat) (v : Int) (h : i ≠ j) : (xs.set i v).getD j 0 = xs.getD j 0 := by
  rw [List.getD_eq_getElem?_getD, List.getElem?_set_ne h, List.getD_eq_getElem?_getD]
theorem set_getD (xs : List Int) (j : Nat) : xs.set j (xs.getD j 0) = xs := by
  by_cases h : j < xs.length
  · apply List.ext_getElem?
    intro i
    rw [List.getElem?_set]
    by_cases e : j = i
    · subst e; simp [h]
    · simp [e]
  · exact List.set_eq_of_length_le (by omega)
theorem ws_set (xs : List Int) : ∀ (k j : Nat) (v : Int), j < xs.length → ws k (xs.set j v) = ws k xs + wt (k + j) v - wt (k + j) (xs.getD j 0) := by
  induction xs with
  | nil => intro k j v h; simp at h
  | cons x xs ih =>
    intro k j v h
    cases j with
    | zero => simp [ws]; omega
    | succ j =>
      have h1 := ih (k + 1) j v (by simpa using h)
      have e : k + 1 + j = k + (j + 1) := by omega
      rw [e] at h1
      simp only [List.set_cons_succ, ws, List.getD_cons_succ]
      omega
theorem wt_even (p : Nat) (x : Int) : wt (0 + 2 * p) x = x * 256 := by unfold wt; rw [if_pos (by omega)]
theorem wt_odd (p : Nat) (x : Int) : wt (0 + (2 * p + 1)) x = x := by unfold wt; rw [if_neg (by omega)]
/-- A word in another one's place. -/
def setW (xs : List Int) (p : Nat) (h l : Int) : List Int := (xs.set (2 * p) h).set (2 * p + 1) l
theorem setW_len (xs : List Int) (p : Nat) (h l : Int) : (setW xs p h l).length = xs.length := by simp [setW]
theorem ws_setW (xs : List Int) (p : Nat) (h l : Int) (hp : 2 * p + 1 < xs.length) : ws 0 (setW xs p h l) = ws 0 xs + (h * 256 + l) - wordAt xs (2 * p) := by
  unfold setW
  rw [ws_set _ _ _ _ (by simpa using hp), ws_set _ _ _ _ (by omega), wt_even, wt_even, wt_odd, wt_odd, getD_set_ne _ _ _ _ (by omega)]
  unfold wordAt
  omega
theorem setW_same (xs : List Int) (p : Nat) : setW xs p (xs.getD (2 * p) 0) (xs.getD (2 * p + 1) 0) = xs := by
  unfold setW; rw [set_getD, set_getD]
theorem wordAt_setW_ne (xs : List Int) (p q : Nat) (h l : Int) (hne : p ≠ q) : wordAt (setW xs p h l) (2 * q) = wordAt xs (2 * q) := by
  unfold wordAt setW
  rw [getD_set_ne _ _ _ _ (by omega), getD_set_ne _ _ _ _ (by omega), getD_set_ne _ _ _ _ (by omega), getD_set_ne _ _ _ _ (by omega)]
/-- Two words that change places leave the sum as it was. -/
theorem ws_swap (xs : List Int) (p q : Nat) (hp : 2 * p + 1 < xs.length) (hq : 2 * q + 1 < xs.length) :
    ws 0 (setW (setW xs p (xs.getD (2 * q) 0) (xs.getD (2 * q + 1) 0)) q (xs.getD (2 * p) 0) (xs.getD (2 * p + 1) 0)) = ws 0 xs := by
  by_cases e : p = q
  · subst e; rw [setW_same, setW_same]
  · rw [ws_setW _ _ _ _ (by rw [setW_len]; exact hq), ws_setW _ _ _ _ hp, wordAt_setW_ne _ _ _ _ _ e]
    unfold wordAt
    omega
theorem Byt.set {xs : List Int} (h : Byt xs) (j : Nat) {v : Int} (hv : 0 ≤ v ∧ v < 256) : Byt (xs.set j v) := fun x hx => by
  rcases List.mem_or_eq_of_mem_set hx with hx | rfl
  · exact h x hx
  · exact hv
theorem Byt.setW {xs : List Int} (h : Byt xs) (p : Nat) {a b : Int} (ha : 0 ≤ a ∧ a < 256) (hb : 0 ≤ b ∧ b < 256) : Byt (setW xs p a b) := (h.set _ ha).set _ hb
/-- Bytes (an even number of them) with a word behind them. -/
theorem ws_behind (xs : List Int) (n : Int) (he : xs.length % 2 = 0) : ws 0 (xs ++ [n / 256, n % 256]) = ws 0 xs + n := by
  rw [ws_append, Nat.zero_add, ws_par (k := xs.length) (m := 0) (by omega)]
  simp [ws, wt]
  omega
theorem keeps_whole (xs : List Int) (n : Int) (hb : Byt xs) (he : xs.length % 2 = 0) (hn : n = 65535 - fld (ws 0 xs)) : whl (ws 0 (xs ++ [n / 256, n % 256])) = true := by
  have h0 := (ws_range xs 0 hb).1
  have h1 := fld_mod h0
  rw [ws_behind xs n he, whl, decide_eq_true_eq]
  omega
theorem keeps_change (xs : List Int) (p : Nat) (n t m : Int) (hb : Byt xs) (he : xs.length % 2 = 0) (hp : 2 * p + 1 < xs.length) (ht : 0 ≤ t ∧ t ≤ 65535) (hn : n = 65535 - fld (ws 0 xs)) (hm : m = chg n (wordAt xs (2 * p)) t) :
    whl (ws 0 (setW xs p (t / 256) (t % 256) ++ [m / 256, m % 256])) = true := by
  have h0 := (ws_range xs 0 hb).1
  have h1 := fld_mod h0
  have hw := wordAt_range hb (2 * p)
  have hf := fld_range h0
  rw [ws_behind _ m (by rw [setW_len]; exact he), ws_setW _ _ _ _ hp, whl, decide_eq_true_eq]
  have h2 := @fld_mod (65535 - n + (65535 - wordAt xs (2 * p)) + t) (by omega)
  unfold chg at hm
  omega
theorem chg_range {s f t : Int} (h : 0 ≤ 65535 - s + (65535 - f) + t) : 0 ≤ chg s f t ∧ chg s f t ≤ 65535 := by
  have := fld_range h
  unfold chg
  omega

/-- What is cut off in front, so that an even number is left. -/
structure Evn (w : World) (a : Option Addr) (n c : Nat) (xs : List Int) : Prop where
  len : xs.length = n
  le : n ≤ 600
  even : n % 2 = 0
  cap : n ≤ c
  max : c ≤ maxLen
  rd : Rd w a xs
  byt : Byt xs
theorem Evn.row {w : World} {a : Option Addr} {n c : Nat} {xs : List Int} (h : Evn w a n c xs) : Row.ok w ⟨a, n, c, xs⟩ := ⟨h.len, h.cap, h.max, h.rd, h.byt⟩

theorem u16_hi (m : Int) (h0 : 0 ≤ m) (h1 : m ≤ 65535) : IntKind.u16.wrap (m.tdiv 256) % 256 = m / 256 := by
  rw [IntKind.wrap_u16, Int.tdiv_eq_ediv_of_nonneg h0]
  omega
theorem cat_one (a : Option Addr) (n c : Nat) (xs : List Int) : cat [⟨a, n, c, xs⟩] = xs := by simp [cat]
theorem cat_two (a b : Option Addr) (n c m d : Nat) (xs ys : List Int) : cat [⟨a, n, c, xs⟩, ⟨b, m, d, ys⟩] = xs ++ ys := by simp [cat]

/-- A copy in a row of the call's own, some bytes of it turned. -/
structure Cp (w0 w : World) (g n cap : Nat) (zs : List Int) : Prop where
  own : Own w w0.heap.size (some ⟨g, 0, none⟩) n cap zs
  below : Below w0.heap.size w0 w
theorem Cp.at_ {w0 w : World} {g n cap : Nat} {zs : List Int} (h : Cp w0 w g n cap zs) {j : Nat} (hj : j < n) : w.cell? ⟨g, j, none⟩ = some (.int .u8 (zs.getD j 0)) ∧ w.frozen? ⟨g, j, none⟩ = false := by
  rcases h.own.cases with ⟨h0, _⟩ | ⟨g', cur, e, _, hg, _⟩
  · cases h0
  obtain ⟨b, o, e2, hc⟩ := h.own.rd (by intro e3; have := h.own.len; rw [e3] at this; simp at this; omega)
  simp only [Option.some.injEq, Addr.mk.injEq, and_true] at e e2
  obtain ⟨rfl, _⟩ := e
  obtain ⟨rfl, rfl⟩ := e2
  have hck := hc j (by rw [h.own.len]; exact hj)
  rw [Nat.zero_add] at hck
  exact ⟨hck, frozen_of_row w g j cur _ hg⟩
theorem Cp.set {w0 w : World} {g n cap : Nat} {zs : List Int} (h : Cp w0 w g n cap zs) (j : Nat) (v : Int) : Cp w0 (w.setCell ⟨g, j, none⟩ (.int .u8 v)) g n cap (zs.set j v) :=
  ⟨h.own.set j v, h.below.trans ((Kept.setCell (S := fun k => k = g) w _ _ rfl).below h.below.size (fun k hk => by subst hk; exact (h.own.blk_ge k rfl).1))⟩
theorem Cp.rd {w0 w : World} {g n cap : Nat} {zs : List Int} (h : Cp w0 w g n cap zs) {a : Option Addr} {ys : List Int} (hr : Rd w0 a ys) : Rd w a ys := hr.below h.below
theorem rd_at {w : World} {b o : Nat} {ys : List Int} (h : Rd w (some ⟨b, o, none⟩) ys) {j : Nat} (hj : j < ys.length) : w.cell? ⟨b, o + j, none⟩ = some (.int .u8 (ys.getD j 0)) := by
  obtain ⟨b', o', e, hc⟩ := h (by intro e; subst e; simp at hj)
  simp only [Option.some.injEq, Addr.mk.injEq, and_true] at e
  obtain ⟨rfl, rfl⟩ := e
  exact hc j hj
theorem copy_new (w : World) (a : Option Addr) (n c : Nat) (xs : List Int) (hn : xs.length = n) (hr : Rd w a xs) (hp : 0 < n) (hlim : n ≤ 70368744177664) :
    ∃ g cap w', (Builtin.append_ #[24, 24] 24 #[.slice none 0 0, .slice a n c]).run Try.prog w = .ok (.slice (some ⟨g, 0, none⟩) n cap) w' ∧ Cp w w' g n cap xs := by
  obtain ⟨a1, cap1, w1, hrun, hown, hg, hb⟩ := run_append_rd w w.heap.size 24 (Own.nil w w.heap.size) c hn hr (by omega) (Nat.le_refl _)
  rw [List.nil_append] at hown
  rw [Nat.zero_add] at hrun hown
  have hbel : Below w.heap.size w w1 := (Below.refl _ _).grown hg (Nat.le_refl _) (by simp [blk])
  rcases hown.cases with ⟨_, h0, _⟩ | ⟨g, cur, rfl, _⟩
  · omega
  · exact ⟨g, cap1, w1, hrun, hown, hbel⟩
theorem drewN_below {B : Nat} {w w' : World} (h : Below B w w') (n : Nat) : Below B w (w'.drewN n) := ⟨h.os, h.tape, h.output, h.size, h.block⟩

set_option maxHeartbeats 4000000 in
theorem keeps_any (a : Option Addr) (n cap : Nat) (xs : List Int) (i k t : Int) (w : World) (hn : xs.length = n) (hc : n ≤ cap) (hcm : cap ≤ maxLen) (hr : Rd w a xs) (hb : Byt xs) (t0 : 0 ≤ t) (t1 : t ≤ 65535) :
    Calls Try.prog 4 #[.slice a n cap, .int .i64 i, .int .i64 k, .int .u16 t] w fun e w' => e = .returned (.bool true) ∧ Below w.heap.size w w' := by
  have HN := Lib.hid hn
  have HR := Lib.hid hr
  have HB := Lib.hid hb
  have HCM := Lib.hid hcm
  have hcm2 : cap ≤ 9223372036854775807 := by unfold maxLen at hcm; omega
  clear hn hr hb hcm
  by_cases hl : 600 < n
  · go_enter Try.func4, Try.ntmps4
    go_wp2_with fail
    refine (works3_any _).mono ?_
    rintro e w1 ⟨rfl, hb⟩
    have HB1 := Lib.hid hb
    clear hb
    go_wp2_with fail
    go_ret
    exact ⟨rfl, HB1.out⟩
  · go_enter Try.func4, Try.ntmps4
    go_upto_if 21 with fail
    go_cut [0] from 14 to 23 (fun s wc => ∃ a' n' c' ys, s = .slice a' n' c' ∧ Hid (Evn w a' n' c' ys) ∧ wc = w)
    case first =>
      by_cases he : n % 2 = 0
      · have hd : ((n : Int) % 2 == 1) = false := by simp; omega
        go_wp2_with fail
        go_meet
        exact ⟨a, n, cap, xs, rfl, ⟨HN.out, by omega, he, hc, HCM.out, HR.out, HB.out⟩, rfl⟩
      · have hd : ((n : Int) % 2 == 1) = true := by simp; omega
        obtain ⟨b, o, rfl, hcell⟩ := HR.out (by intro e; have := HN.out; rw [e] at this; simp at this; omega)
        clear hcell
        by_cases h1 : cap = 1
        · subst h1
          have hn1 : n = 1 := by omega
          subst hn1
          go_wp2_with fail
          go_meet
          exact ⟨_, _, _, [], rfl, ⟨rfl, by omega, by omega, by omega, by decide, Rd.empty _ _, Byt.nil⟩, rfl⟩
        · go_wp2_with fail
          go_meet
          exact ⟨_, _, _, xs.drop 1, rfl, ⟨by rw [List.length_drop, HN.out], by omega, by omega, by omega, by have := HCM.out; omega, HR.out.dropped (by rw [HN.out]; omega), HB.out.drop 1⟩, rfl⟩
    case rest =>
      obtain ⟨a', n', c', ys, rfl, HE, rfl⟩ := hcut
      have hle := HE.out.le
      have hev := HE.out.even
      have hcp := HE.out.cap
      clear HN HR HB HCM hcm2 hc hl
      go_wp2_with fail
      refine (of_lit _ [⟨a', n', c', ys⟩] _ 1 _ rfl rfl rfl (all_one HE.out.row) (by omega) (all_one (show n' ≤ 1000 by omega))).mono ?_
      rintro e w1 ⟨rfl, hb⟩
      have HB1 := Lib.hid hb
      clear hb
      rw [cat_one]
      have hf := @fld_range (ws 0 ys) (ws_range _ 0 HE.out.byt).1
      obtain ⟨m, hm⟩ : ∃ m, 65535 - fld (ws 0 ys) = m := ⟨_, rfl⟩
      have HM := Lib.hid hm
      have m0 : 0 ≤ m := by omega
      have m1 : m ≤ 65535 := by omega
      rw [hm]
      clear hm hf
      go_wp2_with fail
      rw [u16_hi m m0 m1]
      refine (whole_lit _ [⟨a', n', c', ys⟩, ⟨some ⟨w1.heap.size, 0, none⟩, 2, 2, [m / 256, m % 256]⟩] (w1.heap.size + 1) 2 _ (by simp) rfl rfl
        (all_two ((HE.out.row.below HB1.out).alloc _) (Row.lit w1 [m / 256, m % 256] 2 rfl (by decide) (by intro x hx; simp at hx; omega) _ rfl)) (by omega) (all_two (show n' ≤ 1000 by omega) (show 2 ≤ 1000 by omega))).mono ?_
      rintro e w2 ⟨rfl, hb⟩
      have HB2 : Hid (Below wc.heap.size wc w2) := (HB1.out.alloc HB1.out.size _).trans (hb.mono (by have := HB1.out.size; simp; omega))
      clear hb HB1
      rw [cat_two, keeps_whole ys m HE.out.byt (by rw [HE.out.len]; exact hev) HM.out.symm]
      by_cases h0 : n' = 0
      · subst h0
        have hmm : m = 65535 := by rw [← HM.out, List.eq_nil_of_length_eq_zero HE.out.len]; rfl
        subst hmm
        go_wp2_with fail
        refine (works3_any _).mono ?_
        rintro e w3 ⟨rfl, hb⟩
        have HB3 : Hid (Below wc.heap.size wc w3) := HB2.out.trans (hb.mono HB2.out.size)
        clear hb HB2
        go_wp2_with fail
        go_ret
        exact ⟨rfl, HB3.out⟩
      · have h0' : ((n' : Int) == 0) = false := by simp; omega
        go_wp2_with fail
        refine (kPick_any _ _ _ (by omega) (by omega)).mono ?_
        rintro e w3 ⟨rfl, rfl⟩
        have hq : 0 < (n' : Int) / 2 := by omega
        have hi0 := Int.emod_nonneg i (show (n' : Int) / 2 ≠ 0 by omega)
        have hi1 := Int.emod_lt_of_pos i hq
        have hk0 := Int.emod_nonneg k (show (n' : Int) / 2 ≠ 0 by omega)
        have hk1 := Int.emod_lt_of_pos k hq
        obtain ⟨p, hp⟩ := Int.eq_ofNat_of_zero_le hi0
        obtain ⟨q, hq'⟩ := Int.eq_ofNat_of_zero_le hk0
        rw [hp] at hi1 ⊢
        rw [hq'] at hk1
        have HQ := Lib.hid hq'
        clear hp hi0 hk0 hq'
        go_wp2_with fail
        refine (kPick_any _ _ _ (by omega) (by omega)).mono ?_
        rintro e w3 ⟨rfl, rfl⟩
        rw [HQ.out]
        clear HQ
        have hp1 : 2 * p + 1 < n' := by omega
        have hq1 : 2 * q + 1 < n' := by omega
        obtain ⟨b, o, rfl, hcell⟩ := HE.out.rd (by intro e; have := HE.out.len; rw [e] at this; simp at this; omega)
        clear hcell
        obtain ⟨g, cap4, w4, hrun, hcp4⟩ := copy_new w2 _ n' c' ys HE.out.len (HE.out.rd.below HB2.out) (by omega) (by omega)
        have HRN := Lib.hid hrun
        have HC4 := Lib.hid hcp4
        have HRB := Lib.hid (HE.out.rd.below HB2.out)
        have c1 := rd_at (hcp4.rd HRB.out) (j := 2 * q) (by rw [HE.out.len]; omega)
        obtain ⟨d1, f1⟩ := hcp4.at_ (j := 2 * p) (by omega)
        have c5 := hcp4.set (2 * p) (ys.getD (2 * q) 0)
        have c2 := rd_at (c5.rd HRB.out) (j := 2 * q + 1) (by rw [HE.out.len]; omega)
        obtain ⟨d2, f2⟩ := c5.at_ (j := 2 * p + 1) (by omega)
        have c6 := c5.set (2 * p + 1) (ys.getD (2 * q + 1) 0)
        have c3 := rd_at (c6.rd HRB.out) (j := 2 * p) (by rw [HE.out.len]; omega)
        obtain ⟨d3, f3⟩ := c6.at_ (j := 2 * q) (by omega)
        have c7 := c6.set (2 * q) (ys.getD (2 * p) 0)
        have c4 := rd_at (c7.rd HRB.out) (j := 2 * p + 1) (by rw [HE.out.len]; omega)
        obtain ⟨d4, f4⟩ := c7.at_ (j := 2 * q + 1) (by omega)
        have c8 := c7.set (2 * q + 1) (ys.getD (2 * p + 1) 0)
        have HSW := Lib.hid (ws_swap ys p q (by rw [HE.out.len]; exact hp1) (by rw [HE.out.len]; exact hq1))
        have HBS : Hid (Byt (setW (setW ys p (ys.getD (2 * q) 0) (ys.getD (2 * q + 1) 0)) q (ys.getD (2 * p) 0) (ys.getD (2 * p + 1) 0))) := (HE.out.byt.setW _ (HE.out.byt.get _) (HE.out.byt.get _)).setW _ (HE.out.byt.get _) (HE.out.byt.get _)
        have hx0 := HE.out.byt.get (2 * p)
        have hx1 := HE.out.byt.get (2 * p + 1)
        have HWA : Hid (wordAt ys (2 * p) = ys.getD (2 * p) 0 * 256 + ys.getD (2 * p + 1) 0) := rfl
        have HP0 : Hid (ys.getD (2 * p) 0 = ys.getD (2 * p) 0) := rfl
        have HP1 : Hid (ys.getD (2 * p + 1) 0 = ys.getD (2 * p + 1) 0) := rfl
        have HC8 := Lib.hid c8
        clear hrun hcp4 c5 c6 c7 c8
        obtain ⟨y0, e0⟩ : ∃ y, ys.getD (2 * p) 0 = y := ⟨_, rfl⟩
        obtain ⟨y1, e1⟩ : ∃ y, ys.getD (2 * p + 1) 0 = y := ⟨_, rfl⟩
        obtain ⟨x0, e2⟩ : ∃ y, ys.getD (2 * q) 0 = y := ⟨_, rfl⟩
        obtain ⟨x1, e3⟩ : ∃ y, ys.getD (2 * q + 1) 0 = y := ⟨_, rfl⟩
        rw [e2] at c1 d2 f2 c2 d3 f3 c3 d4 f4 c4
        rw [e3] at c2 d3 f3 c3 d4 f4 c4
        rw [e0] at c3 d4 f4 c4
        rw [e1] at c4
        rw [e0, e1, e2, e3] at HC8 HSW HBS
        go_wp2_with (at_builtin; refine Lib.wpList_append_run _ rfl _ _ _ _ rfl _ _ rfl rfl _ _ HRN.out ?_)
        have HB8 : Hid (Below wc.heap.size wc ((((w4.setCell ⟨g, 2 * p, none⟩ (.int .u8 x0)).setCell ⟨g, 2 * p + 1, none⟩ (.int .u8 x1)).setCell ⟨g, 2 * q, none⟩ (.int .u8 y0)).setCell ⟨g, 2 * q + 1, none⟩ (.int .u8 y1))) := HB2.out.trans (HC8.out.below.mono HB2.out.size)
        refine (of_lit _ [⟨some ⟨g, 0, none⟩, n', cap4, setW (setW ys p x0 x1) q y0 y1⟩] w4.heap.size 1 _ (by simp [World.setCell]) rfl rfl
          (all_one ⟨HC8.out.own.len, HC8.out.own.le.1, HC8.out.own.le.2, HC8.out.own.rd, HBS.out⟩) (by omega) (all_one (show n' ≤ 1000 by omega))).mono ?_
        rintro e w9 ⟨rfl, hb⟩
        have HB9 : Hid (Below wc.heap.size wc w9) := HB8.out.trans (hb.mono HB8.out.size)
        rw [cat_one, HSW.out, HM.out]
        have d9 := rd_at (HE.out.rd.below HB9.out) (j := 2 * p) (by rw [HE.out.len]; omega)
        have d10 := rd_at (HE.out.rd.below HB9.out) (j := 2 * p + 1) (by rw [HE.out.len]; omega)
        rw [e0] at d9 hx0 HWA
        rw [e1] at d10 hx1 HWA
        obtain ⟨hx00, hx01⟩ := hx0
        obtain ⟨hx10, hx11⟩ := hx1
        clear hb HB8 c1 d1 f1 c2 d2 f2 c3 d3 f3 c4 d4 f4 HC8 HSW HBS HC4 HRN HRB e0 e1 e2 e3 HB2
        go_wp2_with fail
        go_quiet (fail)
        go_wp2_with fail
        refine (change_any _ _ _ _ m0 m1 (by omega) (by omega) t0 t1).mono ?_
        rintro e w10 ⟨rfl, rfl⟩
        rw [← HWA.out]
        have hr := @chg_range m (wordAt ys (2 * p)) t (by have := wordAt_range HE.out.byt (2 * p); omega)
        have HWH := Lib.hid (keeps_change ys p m t _ HE.out.byt (by rw [HE.out.len]; exact hev) (by rw [HE.out.len]; exact hp1) ⟨t0, t1⟩ HM.out.symm rfl)
        obtain ⟨c, hce⟩ : ∃ c, chg m (wordAt ys (2 * p)) t = c := ⟨_, rfl⟩
        rw [hce] at hr HWH ⊢
        obtain ⟨hr0, hr1⟩ := hr
        clear hce d9 d10
        have HB10 : Hid (Below wc.heap.size wc (w9.drewN nq)) := drewN_below HB9.out nq
        obtain ⟨w10, hw10⟩ : ∃ w10, w9.drewN nq = w10 := ⟨_, rfl⟩
        rw [hw10] at HB10 ⊢
        clear hw10 HB9
        obtain ⟨g2, cap5, w11, hrun, hcp5⟩ := copy_new w10 _ n' c' ys HE.out.len (HE.out.rd.below HB10.out) (by omega) (by omega)
        have HRN := Lib.hid hrun
        obtain ⟨d1, f1⟩ := hcp5.at_ (j := 2 * p) (by omega)
        have c5 := hcp5.set (2 * p) (IntKind.u16.wrap (t.tdiv 256) % 256)
        obtain ⟨d2, f2⟩ := c5.at_ (j := 2 * p + 1) (by omega)
        have c6 := c5.set (2 * p + 1) (t % 256)
        have HC6 := Lib.hid c6
        clear hrun hcp5 c5 c6
        go_wp2_with (at_builtin; refine Lib.wpList_append_run _ rfl _ _ _ _ rfl _ _ rfl rfl _ _ HRN.out ?_)
        rw [u16_hi c hr0 hr1]
        rw [u16_hi t t0 t1] at HC6 ⊢
        have HB12 := Lib.hid (HB10.out.trans (HC6.out.below.mono HB10.out.size))
        refine (whole_lit _ [⟨some ⟨g2, 0, none⟩, n', cap5, setW ys p (t / 256) (t % 256)⟩, ⟨some ⟨w11.heap.size, 0, none⟩, 2, 2, [c / 256, c % 256]⟩] (w11.heap.size + 1) 2 _ (by simp [World.setCell]) rfl rfl
          (all_two (Row.ok.alloc ⟨HC6.out.own.len, HC6.out.own.le.1, HC6.out.own.le.2, HC6.out.own.rd, HE.out.byt.setW p (by omega) (by omega)⟩ _) (Row.lit _ [c / 256, c % 256] 2 rfl (by decide) (by intro x hx; simp at hx; omega) _ (by simp [World.setCell]))) (by omega) (all_two (show n' ≤ 1000 by omega) (show 2 ≤ 1000 by omega))).mono ?_
        rintro e w13 ⟨rfl, hb⟩
        have HB13 : Hid (Below wc.heap.size wc w13) := (HB12.out.alloc HB12.out.size _).trans (hb.mono (by have := HB12.out.size; simp; simp at this; omega))
        rw [cat_two, HWH.out]
        clear hb HB12 HC6 HB10 HRN d1 f1 d2 f2
        go_wp2_with fail
        refine (works3_any _).mono ?_
        rintro e w14 ⟨rfl, hb⟩
        have HB14 : Hid (Below wc.heap.size wc w14) := HB13.out.trans (hb.mono HB13.out.size)
        clear hb HB13
        go_wp2_with fail
        go_ret
        exact ⟨rfl, HB14.out⟩
end Go.Proofs.Ytpbopghnoinlbaa

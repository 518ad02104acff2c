/-
  Words and bytes that are changed in a row, what becomes of its sum, and copies whose bytes are turned. Conditions: those that each theorem names.
-/
import Derived.Test.YtabdejoakecioaaRowLit
import Derived.Test.YtabdejoakecioaaKit
import Derived.Deep.Cut
import Derived.Deep.CutRange
namespace Go.Proofs.Ytabdejoakecioaa
open Go.ChangeShapes Go.WideShapes Go.ChangeAt Go.RowKit

theorem getD_set_same (xs : List Int) (j : Nat) (v : Int) (h : j < xs.length) : (xs.set j v).getD j 0 = v := by
  rw [List.getD_eq_getElem?_getD, List.getElem?_set_self h]; rfl
theorem getD_set_ne (xs : List Int) (i j : Nat) (v : Int) (h : i ≠ j) : (xs.set i v).getD j 0 = xs.getD j 0 := by
  rw [List.getD_eq_getElem?_getD, List.getElem?_set_ne h, List.getD_eq_getElem?_getD]
theorem set_getD (xs : List Int) (j : Nat) : xs.set j (xs.getD j 0) = xs := by
  by_cases h : j < xs.length
  · apply List.ext_getElem?
    intro i
    rw [List.getElem?_set]
    by_cases e : j = i
    · subst e; simp [h]
    · simp [e]
  · exact List.set_eq_of_length_le (by omega)
theorem ws_set (xs : List Int) : ∀ (k j : Nat) (v : Int), j < xs.length → ws k (xs.set j v) = ws k xs + wt (k + j) v - wt (k + j) (xs.getD j 0) := by
  induction xs with
  | nil => intro k j v h; simp at h
  | cons x xs ih =>
    intro k j v h
    cases j with
    | zero => simp [ws]; omega
    | succ j =>
      have h1 := ih (k + 1) j v (by simpa using h)
      have e : k + 1 + j = k + (j + 1) := by omega
      rw [e] at h1
      simp only [List.set_cons_succ, ws, List.getD_cons_succ]
      omega
theorem wt_even (p : Nat) (x : Int) : wt (0 + 2 * p) x = x * 256 := by unfold wt; rw [if_pos (by omega)]
theorem wt_odd (p : Nat) (x : Int) : wt (0 + (2 * p + 1)) x = x := by unfold wt; rw [if_neg (by omega)]
/-- A word in another one's place. -/
def setW (xs : List Int) (p : Nat) (h l : Int) : List Int := (xs.set (2 * p) h).set (2 * p + 1) l
theorem setW_len (xs : List Int) (p : Nat) (h l : Int) : (setW xs p h l).length = xs.length := by simp [setW]
theorem ws_setW (xs : List Int) (p : Nat) (h l : Int) (hp : 2 * p + 1 < xs.length) : ws 0 (setW xs p h l) = ws 0 xs + (h * 256 + l) - wordAt xs (2 * p) := by
  unfold setW
  rw [ws_set _ _ _ _ (by simpa using hp), ws_set _ _ _ _ (by omega), wt_even, wt_even, wt_odd, wt_odd, getD_set_ne _ _ _ _ (by omega)]
  unfold wordAt
  omega
theorem setW_same (xs : List Int) (p : Nat) : setW xs p (xs.getD (2 * p) 0) (xs.getD (2 * p + 1) 0) = xs := by
  unfold setW; rw [set_getD, set_getD]
theorem wordAt_setW_ne (xs : List Int) (p q : Nat) (h l : Int) (hne : p ≠ q) : wordAt (setW xs p h l) (2 * q) = wordAt xs (2 * q) := by
  unfold wordAt setW
  rw [getD_set_ne _ _ _ _ (by omega), getD_set_ne _ _ _ _ (by omega), getD_set_ne _ _ _ _ (by omega), getD_set_ne _ _ _ _ (by omega)]
/-- Two words that change places leave the sum as it was. -/
theorem ws_swap (xs : List Int) (p q : Nat) (hp : 2 * p + 1 < xs.length) (hq : 2 * q + 1 < xs.length) :
    ws 0 (setW (setW xs p (xs.getD (2 * q) 0) (xs.getD (2 * q + 1) 0)) q (xs.getD (2 * p) 0) (xs.getD (2 * p + 1) 0)) = ws 0 xs := by
  by_cases e : p = q
  · subst e; rw [setW_same, setW_same]
  · rw [ws_setW _ _ _ _ (by rw [setW_len]; exact hq), ws_setW _ _ _ _ hp, wordAt_setW_ne _ _ _ _ _ e]
    unfold wordAt
    omega
theorem Byt.set {xs : List Int} (h : Byt xs) (j : Nat) {v : Int} (hv : 0 ≤ v ∧ v < 256) : Byt (xs.set j v) := fun x hx => by
  rcases List.mem_or_eq_of_mem_set hx with hx | rfl
  · exact h x hx
  · exact hv
theorem Byt.setW {xs : List Int} (h : Byt xs) (p : Nat) {a b : Int} (ha : 0 ≤ a ∧ a < 256) (hb : 0 ≤ b ∧ b < 256) : Byt (setW xs p a b) := (h.set _ ha).set _ hb
/-- Bytes (an even number of them) with a word behind them. -/
theorem ws_behind (xs : List Int) (n : Int) (he : xs.length % 2 = 0) : ws 0 (xs ++ [n / 256, n % 256]) = ws 0 xs + n := by
  rw [ws_append, Nat.zero_add, ws_par (k := xs.length) (m := 0) (by omega)]
  simp [ws, wt]
  omega
theorem keeps_whole (xs : List Int) (n : Int) (hb : Byt xs) (he : xs.length % 2 = 0) (hn : n = 65535 - fld (ws 0 xs)) : whl (ws 0 (xs ++ [n / 256, n % 256])) = true := by
  have h0 := (ws_range xs 0 hb).1
  have h1 := fld_mod h0
  rw [ws_behind xs n he, whl, decide_eq_true_eq]
  omega
theorem keeps_change (xs : List Int) (p : Nat) (n t m : Int) (hb : Byt xs) (he : xs.length % 2 = 0) (hp : 2 * p + 1 < xs.length) (ht : 0 ≤ t ∧ t ≤ 65535) (hn : n = 65535 - fld (ws 0 xs)) (hm : m = chg n (wordAt xs (2 * p)) t) :
    whl (ws 0 (setW xs p (t / 256) (t % 256) ++ [m / 256, m % 256])) = true := by
  have h0 := (ws_range xs 0 hb).1
  have h1 := fld_mod h0
  have hw := wordAt_range hb (2 * p)
  have hf := fld_range h0
  rw [ws_behind _ m (by rw [setW_len]; exact he), ws_setW _ _ _ _ hp, whl, decide_eq_true_eq]
  have h2 := @fld_mod (65535 - n + (65535 - wordAt xs (2 * p)) + t) (by omega)
  unfold chg at hm
  omega
theorem chg_range {s f t : Int} (h : 0 ≤ 65535 - s + (65535 - f) + t) : 0 ≤ chg s f t ∧ chg s f t ≤ 65535 := by
  have := fld_range h
  unfold chg
  omega

/-- What is cut off in front, so that an even number is left. -/
structure Evn (w : World) (a : Option Addr) (n c : Nat) (xs : List Int) : Prop where
  len : xs.length = n
  le : n ≤ 600
  even : n % 2 = 0
  cap : n ≤ c
  max : c ≤ maxLen
  rd : Rd w a xs
  byt : Byt xs
theorem Evn.row {w : World} {a : Option Addr} {n c : Nat} {xs : List Int} (h : Evn w a n c xs) : Row.ok w ⟨a, n, c, xs⟩ := ⟨h.len, h.cap, h.max, h.rd, h.byt⟩

theorem u16_hi (m : Int) (h0 : 0 ≤ m) (h1 : m ≤ 65535) : IntKind.u16.wrap (m.tdiv 256) % 256 = m / 256 := by
  rw [IntKind.wrap_u16, Int.tdiv_eq_ediv_of_nonneg h0]
  omega
theorem cat_one (a : Option Addr) (n c : Nat) (xs : List Int) : cat [⟨a, n, c, xs⟩] = xs := by simp [cat]
theorem cat_two (a b : Option Addr) (n c m d : Nat) (xs ys : List Int) : cat [⟨a, n, c, xs⟩, ⟨b, m, d, ys⟩] = xs ++ ys := by simp [cat]

/-- A copy in a row of the call's own, some bytes of it turned. -/
structure Cp (w0 w : World) (g n cap : Nat) (zs : List Int) : Prop where
  own : Own w w0.heap.size (some ⟨g, 0, none⟩) n cap zs
  below : Below w0.heap.size w0 w
theorem Cp.at_ {w0 w : World} {g n cap : Nat} {zs : List Int} (h : Cp w0 w g n cap zs) {j : Nat} (hj : j < n) : w.cell? ⟨g, j, none⟩ = some (.int .u8 (zs.getD j 0)) ∧ w.frozen? ⟨g, j, none⟩ = false := by
  rcases h.own.cases with ⟨h0, _⟩ | ⟨g', cur, e, _, hg, _⟩
  · cases h0
  obtain ⟨b, o, e2, hc⟩ := h.own.rd (by intro e3; have := h.own.len; rw [e3] at this; simp at this; omega)
  simp only [Option.some.injEq, Addr.mk.injEq, and_true] at e e2
  obtain ⟨rfl, _⟩ := e
  obtain ⟨rfl, rfl⟩ := e2
  have hck := hc j (by rw [h.own.len]; exact hj)
  rw [Nat.zero_add] at hck
  exact ⟨hck, frozen_of_row w g j cur _ hg⟩
theorem Cp.set {w0 w : World} {g n cap : Nat} {zs : List Int} (h : Cp w0 w g n cap zs) (j : Nat) (v : Int) : Cp w0 (w.setCell ⟨g, j, none⟩ (.int .u8 v)) g n cap (zs.set j v) :=
  ⟨h.own.set j v, h.below.trans ((Kept.setCell (S := fun k => k = g) w _ _ rfl).below h.below.size (fun k hk => by subst hk; exact (h.own.blk_ge k rfl).1))⟩
theorem Cp.rd {w0 w : World} {g n cap : Nat} {zs : List Int} (h : Cp w0 w g n cap zs) {a : Option Addr} {ys : List Int} (hr : Rd w0 a ys) : Rd w a ys := hr.below h.below
theorem rd_at {w : World} {b o : Nat} {ys : List Int} (h : Rd w (some ⟨b, o, none⟩) ys) {j : Nat} (hj : j < ys.length) : w.cell? ⟨b, o + j, none⟩ = some (.int .u8 (ys.getD j 0)) := by
  obtain ⟨b', o', e, hc⟩ := h (by intro e; subst e; simp at hj)
  simp only [Option.some.injEq, Addr.mk.injEq, and_true] at e
  obtain ⟨rfl, rfl⟩ := e
  exact hc j hj
theorem copy_new (w : World) (a : Option Addr) (n c : Nat) (xs : List Int) (hn : xs.length = n) (hr : Rd w a xs) (hp : 0 < n) (hlim : n ≤ 70368744177664) :
    ∃ g cap w', (Builtin.append_ #[24, 24] 24 #[.slice none 0 0, .slice a n c]).run Try.prog w = .ok (.slice (some ⟨g, 0, none⟩) n cap) w' ∧ Cp w w' g n cap xs := by
  obtain ⟨a1, cap1, w1, hrun, hown, hg, hb⟩ := run_append_rd w w.heap.size 24 (Own.nil w w.heap.size) c hn hr (by omega) (Nat.le_refl _)
  rw [List.nil_append] at hown
  rw [Nat.zero_add] at hrun hown
  have hbel : Below w.heap.size w w1 := (Below.refl _ _).grown hg (Nat.le_refl _) (by simp [blk])
  rcases hown.cases with ⟨_, h0, _⟩ | ⟨g, cur, rfl, _⟩
  · omega
  · exact ⟨g, cap1, w1, hrun, hown, hbel⟩
theorem drewN_below {B : Nat} {w w' : World} (h : Below B w w') (n : Nat) : Below B w (w'.drewN n) := ⟨h.os, h.tape, h.output, h.size, h.block⟩
end Go.Proofs.Ytabdejoakecioaa

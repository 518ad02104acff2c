/-
  Plain facts on the Internet's checksum: the sum of words of a row of bytes, and folded sums. No program is named here; no conditions.
-/
import Derived.Test.YtabdejoakecioaaBase
namespace Go.Proofs.Ytabdejoakecioaa

/-- What a byte at a place counts in a sum of words. -/
def wt (k : Nat) (x : Int) : Int := if k % 2 = 0 then x * 256 else x
/-- The sum of the words of bytes, the first of which stands at place k. -/
def ws : Nat → List Int → Int
  | _, [] => 0
  | k, x :: r => wt k x + ws (k + 1) r
/-- A folded sum. -/
def fld (n : Int) : Int := if n = 0 then 0 else (n - 1) % 65535 + 1

theorem ws_nil (k : Nat) : ws k [] = 0 := rfl
theorem ws_append (xs : List Int) : ∀ (k : Nat) (ys : List Int), ws k (xs ++ ys) = ws k xs + ws (k + xs.length) ys := by
  induction xs with
  | nil => intro k ys; simp [ws]
  | cons x xs ih =>
    intro k ys
    have e : k + (x :: xs).length = k + 1 + xs.length := by simp; omega
    rw [e, List.cons_append, ws, ws, ih (k + 1) ys]
    omega
theorem wt_two (k : Nat) (x : Int) : wt (k + 2) x = wt k x := by unfold wt; rw [Nat.add_mod_right]
theorem ws_two (xs : List Int) : ∀ k, ws (k + 2) xs = ws k xs := by
  induction xs with
  | nil => intro k; rfl
  | cons x xs ih =>
    intro k
    have := ih (k + 1)
    rw [ws, ws, wt_two, show k + 2 + 1 = k + 1 + 2 by omega, this]
theorem ws_mod (k : Nat) (xs : List Int) : ws k xs = ws (k % 2) xs := by
  have h : ∀ m r : Nat, ws (r + 2 * m) xs = ws r xs := by
    intro m
    induction m with
    | zero => intro r; rfl
    | succ m ih => intro r; rw [show r + 2 * (m + 1) = (r + 2 * m) + 2 by omega, ws_two, ih]
  have := h (k / 2) (k % 2)
  rwa [show k % 2 + 2 * (k / 2) = k by omega] at this
theorem ws_par {k m : Nat} (h : k % 2 = m % 2) (xs : List Int) : ws k xs = ws m xs := by rw [ws_mod k, ws_mod m, h]
theorem wt_range (k : Nat) {x : Int} (h : 0 ≤ x ∧ x < 256) : 0 ≤ wt k x ∧ wt k x ≤ 65280 := by
  unfold wt; split <;> omega
theorem ws_range (xs : List Int) : ∀ (k : Nat), Byt xs → 0 ≤ ws k xs ∧ ws k xs ≤ 65280 * (xs.length : Int) := by
  induction xs with
  | nil => intro k _; simp [ws]
  | cons x xs ih =>
    intro k h
    have h1 := ih (k + 1) (fun y hy => h y (by simp [hy]))
    have h2 := wt_range k (h x (by simp))
    rw [ws, List.length_cons]
    omega
theorem ws_take_succ (k : Nat) (xs : List Int) (j : Nat) (h : j < xs.length) : ws k (xs.take (j + 1)) = ws k (xs.take j) + wt (k + j) (xs.getD j 0) := by
  have hl : (xs.take j).length = j := by simp; omega
  rw [take_snoc xs j h, ws_append, hl, ws, ws_nil]
  omega
/-- The word from a place on. -/
def wordAt (xs : List Int) (j : Nat) : Int := xs.getD j 0 * 256 + xs.getD (j + 1) 0
theorem getD_beyond (xs : List Int) (j : Nat) (h : xs.length ≤ j) : xs.getD j 0 = 0 := by
  rw [List.getD_eq_getElem?_getD, List.getElem?_eq_none h]; rfl
theorem ws_take_two (k : Nat) (xs : List Int) (j : Nat) (h : j < xs.length) (hp : (k + j) % 2 = 0) : ws k (xs.take (j + 2)) = ws k (xs.take j) + wordAt xs j := by
  have e1 : wt (k + j) (xs.getD j 0) = xs.getD j 0 * 256 := by unfold wt; rw [if_pos hp]
  by_cases h1 : j + 1 < xs.length
  · have e2 : wt (k + (j + 1)) (xs.getD (j + 1) 0) = xs.getD (j + 1) 0 := by unfold wt; rw [if_neg (by omega)]
    rw [ws_take_succ k xs (j + 1) h1, ws_take_succ k xs j h, e1, e2]
    unfold wordAt
    omega
  · have e2 : xs.take (j + 2) = xs.take (j + 1) := by rw [List.take_of_length_le (by omega), List.take_of_length_le (by omega)]
    rw [e2, ws_take_succ k xs j h, e1]
    unfold wordAt
    rw [getD_beyond xs (j + 1) (by omega)]
    omega
theorem wordAt_range {xs : List Int} (h : Byt xs) (j : Nat) : 0 ≤ wordAt xs j ∧ wordAt xs j ≤ 65535 := by
  have h1 := h.get j
  have h2 := h.get (j + 1)
  unfold wordAt
  omega

theorem fld_range {n : Int} (_h : 0 ≤ n) : 0 ≤ fld n ∧ fld n ≤ 65535 := by unfold fld; split <;> omega
theorem fld_small {n : Int} (h : 0 ≤ n) (h2 : n ≤ 65535) : fld n = n := by unfold fld; split <;> omega
theorem fld_step {n : Int} (h : 65536 ≤ n) : fld (n / 65536 + n % 65536) = fld n := by unfold fld; split <;> split <;> omega
theorem fld_step' {n : Int} (h : 65536 ≤ n) : fld (n % 65536 + n / 65536) = fld n := by rw [Int.add_comm]; exact fld_step h
theorem fld_fld {n m : Int} (h : 0 ≤ n) (hm : 0 ≤ m) : fld (fld n + m) = fld (n + m) := by unfold fld; split <;> split <;> (try split) <;> omega
/-- Is a folded sum that of bytes that are whole? -/
def whl (n : Int) : Bool := decide (n % 65535 = 0)
theorem whl_fld {n : Int} (_h : 0 ≤ n) : (decide (fld n = 65535) || decide (fld n = 0)) = whl n := by
  rw [Bool.eq_iff_iff, Bool.or_eq_true, decide_eq_true_eq, decide_eq_true_eq, whl, decide_eq_true_eq]
  unfold fld; split <;> omega
theorem fld_eq {n m : Int} (h : fld n = fld m) : (n - m) % 65535 = 0 := by unfold fld at h; split at h <;> split at h <;> omega
theorem fld_mod {n : Int} (_h : 0 ≤ n) : (n - fld n) % 65535 = 0 := by unfold fld; split <;> omega
end Go.Proofs.Ytabdejoakecioaa

/-
  Plain facts on numbers and rows of bytes: the least size of a number, a number's bytes, the number that bytes stand for. No program is named here; no conditions.
-/
namespace Go.Proofs.YtbnfmiopgjmppaaDoor

/-- The bytes of a number, the greatest first. -/
def be : Nat → Int → List Int
  | 0, _ => []
  | n + 1, v => be n (v / 256) ++ [v % 256]

/-- The number that bytes stand for, from a number on. -/
def numFrom (a : Int) (xs : List Int) : Int := xs.foldl (fun v x => v * 256 + x) a
def num (xs : List Int) : Int := numFrom 0 xs

/-- 256 to a power. -/
def pw (n : Nat) : Int := 256 ^ n

theorem pw_zero : pw 0 = 1 := rfl
theorem pw_succ (n : Nat) : pw (n + 1) = pw n * 256 := by unfold pw; rw [Int.pow_succ]
theorem pw_pos (n : Nat) : 1 ≤ pw n := by
  induction n with
  | zero => simp [pw_zero]
  | succ n ih => rw [pw_succ]; omega
theorem pw_eight : pw 8 = 18446744073709551616 := by decide
theorem pw_mono {a b : Nat} (h : a ≤ b) : pw a ≤ pw b := by
  induction b with
  | zero => have : a = 0 := by omega
            subst this; exact Int.le_refl _
  | succ b ih =>
    by_cases e : a = b + 1
    · subst e; exact Int.le_refl _
    · have := ih (by omega); have := pw_pos b; rw [pw_succ]; omega

/-- The least size of a number, at most 8. -/
def lst (v : Int) : Nat :=
  if v < pw 1 then 1 else if v < pw 2 then 2 else if v < pw 3 then 3 else if v < pw 4 then 4 else if v < pw 5 then 5 else if v < pw 6 then 6 else if v < pw 7 then 7 else 8

theorem lst_pos (v : Int) : 1 ≤ lst v := by unfold lst; (repeat' split) <;> omega
theorem lst_le (v : Int) : lst v ≤ 8 := by unfold lst; (repeat' split) <;> omega
theorem pw_lits : pw 1 = 256 ∧ pw 2 = 65536 ∧ pw 3 = 16777216 ∧ pw 4 = 4294967296 ∧ pw 5 = 1099511627776 ∧ pw 6 = 281474976710656 ∧ pw 7 = 72057594037927936 := by decide
theorem lst_fit {v : Int} (h : v < pw 8) : v < pw (lst v) := by
  unfold lst; (repeat' split) <;> first | assumption | exact h
theorem lst_iff {v : Int} (h : v < pw 8) (n : Nat) (h1 : 1 ≤ n) (h8 : n ≤ 8) : lst v ≤ n ↔ v < pw n := by
  constructor
  · intro hl
    have := lst_fit h
    have := pw_mono hl
    omega
  · intro hv
    obtain ⟨p1, p2, p3, p4, p5, p6, p7⟩ := pw_lits
    have h8' := pw_eight
    have hn : n = 1 ∨ n = 2 ∨ n = 3 ∨ n = 4 ∨ n = 5 ∨ n = 6 ∨ n = 7 ∨ n = 8 := by omega
    unfold lst
    rcases hn with rfl | rfl | rfl | rfl | rfl | rfl | rfl | rfl <;> (repeat' split) <;> omega

theorem be_length (n : Nat) : ∀ v, (be n v).length = n := by
  induction n with
  | zero => intro v; rfl
  | succ n ih => intro v; simp [be, ih]
theorem be_range (n : Nat) : ∀ v, ∀ x ∈ be n v, 0 ≤ x ∧ x < 256 := by
  induction n with
  | zero => intro v x hx; simp [be] at hx
  | succ n ih =>
    intro v x hx
    simp only [be, List.mem_append, List.mem_singleton] at hx
    rcases hx with hx | rfl
    · exact ih _ x hx
    · omega
theorem numFrom_append (a : Int) (xs ys : List Int) : numFrom a (xs ++ ys) = numFrom (numFrom a xs) ys := by simp [numFrom]
theorem num_snoc (xs : List Int) (x : Int) : num (xs ++ [x]) = num xs * 256 + x := by simp [num, numFrom]
theorem num_nil : num [] = 0 := rfl
theorem num_be (n : Nat) : ∀ v, 0 ≤ v → v < pw n → num (be n v) = v := by
  induction n with
  | zero => intro v h0 h; rw [pw_zero] at h; simp [be, num_nil]; omega
  | succ n ih =>
    intro v h0 h
    rw [be, num_snoc, ih (v / 256) (by omega) (by rw [pw_succ] at h; omega)]
    omega
theorem numFrom_range (xs : List Int) : ∀ a, 0 ≤ a → (∀ x ∈ xs, 0 ≤ x ∧ x < 256) → 0 ≤ numFrom a xs ∧ numFrom a xs < (a + 1) * pw xs.length := by
  induction xs with
  | nil => intro a h0 _; simp [numFrom, pw_zero]; omega
  | cons x xs ih =>
    intro a h0 h
    have hx := h x (by simp)
    have h1 := ih (a * 256 + x) (by omega) (fun y hy => h y (by simp [hy]))
    have e : numFrom a (x :: xs) = numFrom (a * 256 + x) xs := rfl
    have hm : (a * 256 + x + 1) * pw xs.length ≤ ((a + 1) * 256) * pw xs.length := Int.mul_le_mul_of_nonneg_right (by omega) (by have := pw_pos xs.length; omega)
    have hq : ((a + 1) * 256) * pw xs.length = (a + 1) * pw (x :: xs).length := by
      rw [List.length_cons, pw_succ, Int.mul_assoc, Int.mul_comm 256]
    rw [e]
    omega
theorem num_range (xs : List Int) (h : ∀ x ∈ xs, 0 ≤ x ∧ x < 256) : 0 ≤ num xs ∧ num xs < pw xs.length := by
  have := numFrom_range xs 0 (by omega) h
  simpa [num] using this
end Go.Proofs.YtbnfmiopgjmppaaDoor

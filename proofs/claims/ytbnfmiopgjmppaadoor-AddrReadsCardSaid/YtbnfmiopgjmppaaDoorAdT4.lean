/-
  The text of eight groups, group for group. No conditions on the program.
-/
import Derived.Test.YtbnfmiopgjmppaaDoorAdT3
namespace Go.Proofs.YtbnfmiopgjmppaaDoor

theorem joinT_snoc (c : UInt8) (y : Tx) : ∀ ls : List Tx, ls ≠ [] → joinT c (ls ++ [y]) = joinT c ls ++ c :: y
  | [], h => absurd rfl h
  | [x], _ => by simp [joinT]
  | x :: z :: ls, _ => by
    have ih := joinT_snoc c y (z :: ls) (by simp)
    show x ++ c :: joinT c ((z :: ls) ++ [y]) = _
    rw [ih]
    show _ = (x ++ c :: joinT c (z :: ls)) ++ c :: y
    simp
theorem grT_snoc {vs : List Nat} (v : Nat) (h : vs ≠ []) : grT (vs ++ [v]) = grT vs ++ 58 :: hxT v := by
  unfold grT
  rw [List.map_append]
  exact joinT_snoc 58 (hxT v) _ (by simpa using h)
/-- One more group behind a text: with a colon between, if the text is not empty and does not end with one. -/
def tl (t x : Tx) : Tx := (if t ≠ [] ∧ t.getLast? ≠ some 58 then t ++ [58] else t) ++ x
theorem tl_grT {vs : List Nat} (v : Nat) (h : ∀ u ∈ vs, u < 65536) : tl (grT vs) (hxT v) = grT (vs ++ [v]) := by
  unfold tl
  cases vs with
  | nil => simp [grT, joinT]
  | cons u r =>
    have h1 := grT_noCC (u :: r) h
    rw [if_pos ⟨(grT_head r (h u (by simp))).2, h1.2⟩, grT_snoc v (by simp)]
    simp
theorem tl_after {vs : List Nat} (a : Tx) (v : Nat) (h : ∀ u ∈ vs, u < 65536) : tl (a ++ 58 :: 58 :: grT vs) (hxT v) = a ++ 58 :: 58 :: grT (vs ++ [v]) := by
  unfold tl
  cases vs with
  | nil =>
    rw [if_neg (by
      rintro ⟨_, e⟩
      apply e
      simp [grT, joinT])]
    simp [grT, joinT]
  | cons u r =>
    have h1 := grT_noCC (u :: r) h
    have h2 := (grT_head r (h u (by simp))).2
    have h3 : (a ++ 58 :: 58 :: grT (u :: r)).getLast? = (grT (u :: r)).getLast? := by
      rw [show a ++ 58 :: 58 :: grT (u :: r) = (a ++ [58, 58]) ++ grT (u :: r) by simp, List.getLast?_append]
      cases hq : (grT (u :: r)).getLast? with
      | none => exact absurd (List.getLast?_eq_none_iff.1 hq) h2
      | some z => rfl
    rw [if_pos ⟨by simp, by rw [h3]; exact h1.2⟩, grT_snoc v (by simp)]
    simp
/-- The text of eight groups, by the row that the document's own function finds. -/
theorem text6_bst {gs : List Nat} (hl : gs.length = 8) :
    (bst gs 8 = 8 ∧ text6 gs = grT gs) ∨ (bst gs 8 < 8 ∧ 2 ≤ zr gs (bst gs 8) ∧ bst gs 8 + zr gs (bst gs 8) ≤ 8 ∧ text6 gs = grT (gs.take (bst gs 8)) ++ 58 :: 58 :: grT (gs.drop (bst gs 8 + zr gs (bst gs 8)))) := by
  obtain ⟨_, h⟩ := lz_bst gs 8 (Nat.le_refl _)
  unfold text6
  rcases h with ⟨h1, h2⟩ | ⟨h1, h2, h3, h4⟩
  · exact .inl ⟨h2, by rw [if_pos h1]⟩
  · have hle := zr_le gs (lz gs 8).1 (by omega)
    refine .inr ⟨h2, by rw [h1]; exact h4, by rw [h1]; omega, ?_⟩
    rw [if_neg (by omega), h3, h1]
theorem bst_le (gs : List Nat) : ∀ s, bst gs s ≤ 8 ∨ bst gs s < s
  | 0 => .inl (Nat.le_refl _)
  | s + 1 => by
    rw [bst]
    split
    · exact .inr (Nat.lt_succ_self _)
    · rcases bst_le gs s with h | h
      · exact .inl h
      · exact .inr (by omega)
end Go.Proofs.YtbnfmiopgjmppaaDoor

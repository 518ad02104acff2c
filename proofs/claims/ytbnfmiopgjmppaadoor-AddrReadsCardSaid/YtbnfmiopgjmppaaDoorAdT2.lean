/-
  Plain facts on an address's text: the longest row of groups that are 0, as either side finds it; what is told is read as it was. No program is named here; no conditions.
-/
import Derived.Test.YtbnfmiopgjmppaaDoorAdT
namespace Go.Proofs.YtbnfmiopgjmppaaDoor

/-- How many groups are 0 from one on. -/
def zrun : List Nat → Nat
  | [] => 0
  | g :: l => if g = 0 then zrun l + 1 else 0
theorem zrun_le : ∀ l : List Nat, zrun l ≤ l.length
  | [] => Nat.le_refl _
  | g :: l => by
    rw [zrun]
    have := zrun_le l
    split <;> simp <;> omega
def zr (gs : List Nat) (i : Nat) : Nat := zrun (gs.drop i)
theorem zr_le (gs : List Nat) (i : Nat) (h : i ≤ gs.length) : i + zr gs i ≤ gs.length := by
  have := zrun_le (gs.drop i)
  rw [List.length_drop] at this
  unfold zr
  omega
theorem zr_zero (gs : List Nat) : ∀ (n i : Nat), n < zr gs i → gs[i + n]? = some 0 := by
  intro n
  induction n with
  | zero =>
    intro i h
    unfold zr at h
    cases hd : gs.drop i with
    | nil => rw [hd] at h; simp [zrun] at h
    | cons g l =>
      rw [hd] at h
      have hg : gs[i]? = some g := by rw [← List.head?_drop, hd]; rfl
      rw [zrun] at h
      split at h
      · rename_i e; rw [Nat.add_zero, hg, e]
      · omega
  | succ n ih =>
    intro i h
    unfold zr at h
    cases hd : gs.drop i with
    | nil => rw [hd] at h; simp [zrun] at h
    | cons g l =>
      rw [hd, zrun] at h
      split at h
      · have hl : gs.drop (i + 1) = l := by rw [← List.drop_drop, hd]; rfl
        have := ih (i + 1) (by unfold zr; rw [hl]; omega)
        rw [show i + (n + 1) = i + 1 + n by omega]
        exact this
      · omega
theorem zr_step (gs : List Nat) (i : Nat) : zr gs i = match gs[i]? with | some g => if g = 0 then zr gs (i + 1) + 1 else 0 | none => 0 := by
  unfold zr
  cases hd : gs.drop i with
  | nil =>
    have : gs[i]? = none := by
      rw [List.getElem?_eq_none]
      have := congrArg List.length hd
      simp at this
      omega
    rw [this]
    rfl
  | cons g l =>
    have hg : gs[i]? = some g := by rw [← List.head?_drop, hd]; rfl
    have hl : gs.drop (i + 1) = l := by rw [← List.drop_drop, hd]; rfl
    rw [hg, hl, zrun]
/-- The longest row, of the first starts; of several ones as long, the first one. -/
def lz (gs : List Nat) : Nat → Nat × Nat
  | 0 => (0, 0)
  | s + 1 => if (lz gs s).2 - (lz gs s).1 < zr gs s then (s, s + zr gs s) else lz gs s
/-- The same, as the document's own function finds it. -/
def bst (gs : List Nat) : Nat → Nat
  | 0 => 8
  | s + 1 => if 2 ≤ zr gs s ∧ (bst gs s = 8 ∨ zr gs (bst gs s) < zr gs s) then s else bst gs s
theorem lz_bst (gs : List Nat) : ∀ s, s ≤ 8 → (lz gs s).1 ≤ (lz gs s).2 ∧ (((lz gs s).2 - (lz gs s).1 < 2 ∧ bst gs s = 8) ∨ (bst gs s = (lz gs s).1 ∧ bst gs s < s ∧ (lz gs s).2 = (lz gs s).1 + zr gs (lz gs s).1 ∧ 2 ≤ zr gs (lz gs s).1))
  | 0, _ => ⟨Nat.le_refl _, .inl ⟨by simp [lz], rfl⟩⟩
  | s + 1, hs => by
    have ih := lz_bst gs s (by omega)
    rw [lz, bst]
    obtain ⟨⟨f, t⟩, hp⟩ : ∃ p, lz gs s = p := ⟨_, rfl⟩
    obtain ⟨q, hq⟩ : ∃ q, bst gs s = q := ⟨_, rfl⟩
    rw [hp, hq] at ih ⊢
    simp only at ih ⊢
    obtain ⟨h0, h⟩ := ih
    by_cases hc : t - f < zr gs s
    · rw [if_pos hc]
      rcases h with ⟨h1, h2⟩ | ⟨h1, h2, h3, h4⟩
      · refine ⟨by simp, ?_⟩
        by_cases h2' : 2 ≤ zr gs s
        · rw [if_pos ⟨h2', .inl h2⟩]
          exact .inr ⟨rfl, by omega, rfl, h2'⟩
        · rw [if_neg (fun e => h2' e.1)]
          exact .inl ⟨by simp; omega, h2⟩
      · subst h1
        rw [if_pos ⟨by omega, .inr (by omega)⟩]
        exact ⟨by simp, .inr ⟨rfl, by omega, rfl, by simp; omega⟩⟩
    · rw [if_neg hc]
      rcases h with ⟨h1, h2⟩ | ⟨h1, h2, h3, h4⟩
      · rw [if_neg (fun e => by omega)]
        exact ⟨h0, .inl ⟨h1, h2⟩⟩
      · subst h1
        have hneg : ¬ (2 ≤ zr gs s ∧ (q = 8 ∨ zr gs q < zr gs s)) := by
          rintro ⟨_, e | e⟩ <;> omega
        rw [if_neg hneg]
        exact ⟨h0, .inr ⟨rfl, by omega, h3, h4⟩⟩
/-- The text of eight groups. -/
def text6 (gs : List Nat) : Tx := if (lz gs 8).2 - (lz gs 8).1 < 2 then grT gs else grT (gs.take (lz gs 8).1) ++ 58 :: 58 :: grT (gs.drop (lz gs 8).2)
theorem parse_text6 {gs : List Nat} (hl : gs.length = 8) (hf : ∀ v ∈ gs, v < 65536) : parse6 (text6 gs) = some gs := by
  unfold text6
  obtain ⟨h0, h⟩ := lz_bst gs 8 (Nat.le_refl _)
  obtain ⟨⟨f, t⟩, hp⟩ : ∃ p, lz gs 8 = p := ⟨_, rfl⟩
  rw [hp] at h0 h ⊢
  simp only at h0 h ⊢
  rcases h with ⟨h1, _⟩ | ⟨_, h2, h3, h4⟩
  · rw [if_pos h1]
    exact parse6_full hf hl
  · have hle := zr_le gs f
    have hf8 : f < 8 := by omega
    have ht8 : t ≤ 8 := by have := hle (by omega); omega
    rw [if_neg (by omega), parse6_short (fun v hv => hf v (List.mem_of_mem_take hv)) (fun v hv => hf v (List.mem_of_mem_drop hv)) (by simp; omega)]
    congr 1
    have hrep : List.replicate (8 - ((gs.take f).length + (gs.drop t).length)) 0 = (gs.drop f).take (t - f) := by
      apply List.ext_getElem?
      intro n
      simp only [List.length_take, List.length_drop, hl, List.getElem?_replicate, List.getElem?_take, List.getElem?_drop]
      by_cases hn : n < t - f
      · rw [if_pos (by omega), if_pos hn, zr_zero gs n f (by omega)]
      · rw [if_neg (by omega), if_neg hn]
    rw [hrep]
    have h5 : gs.drop t = (gs.drop f).drop (t - f) := by rw [List.drop_drop]; congr 1; omega
    rw [h5, List.take_append_drop, List.take_append_drop]
/-- Text and bytes of an address. -/
def gby (gs : List Nat) : List Nat := gs.flatMap fun g => [g / 256, g % 256]
def byg : List Nat → List Nat
  | a :: b :: l => (a * 256 + b) :: byg l
  | _ => []
theorem gby_byg : ∀ l : List Nat, (∀ v ∈ l, v < 256) → (∃ k, l.length = 2 * k) → gby (byg l) = l
  | [], _, _ => rfl
  | [_], _, h => by obtain ⟨k, hk⟩ := h; simp at hk; omega
  | a :: b :: l, h, hk => by
    have ih := gby_byg l (fun v hv => h v (by simp [hv])) (by obtain ⟨k, hk⟩ := hk; exact ⟨k - 1, by simp at hk; omega⟩)
    have h1 := h a (by simp)
    have h2 := h b (by simp)
    rw [byg]
    unfold gby at ih ⊢
    rw [List.flatMap_cons, ih]
    have e1 : (a * 256 + b) / 256 = a := by omega
    have e2 : (a * 256 + b) % 256 = b := by omega
    rw [e1, e2]
    rfl
theorem byg_len : ∀ (l : List Nat) (k : Nat), l.length = 2 * k → (byg l).length = k
  | [], k, h => by simp at h; simp [byg]; omega
  | [_], k, h => by simp at h; omega
  | a :: b :: l, k, h => by
    rw [byg, List.length_cons, byg_len l (k - 1) (by simp at h; omega)]
    simp at h
    omega
theorem byg_lt : ∀ (l : List Nat), (∀ v ∈ l, v < 256) → ∀ g ∈ byg l, g < 65536
  | [], _, g, hg => by simp [byg] at hg
  | [_], _, g, hg => by simp [byg] at hg
  | a :: b :: l, h, g, hg => by
    rw [byg] at hg
    have h1 := h a (by simp)
    have h2 := h b (by simp)
    rcases List.mem_cons.1 hg with rfl | hg
    · omega
    · exact byg_lt l (fun v hv => h v (by simp [hv])) g hg
end Go.Proofs.YtbnfmiopgjmppaaDoor

/-
  Plain facts on numbers as the document's own functions tell and read them. No program is named here; no conditions.
-/
import Derived.Test.YtbnfmiopgjmppaaDoorAdT2
namespace Go.Proofs.YtbnfmiopgjmppaaDoor

/-- A number in digits of a base, at most k of them. -/
def digT : Nat → Nat → Nat → Tx
  | 0, _, _ => []
  | k + 1, b, n => if n < b then [hd n] else digT k b (n / b) ++ [hd (n % b)]
theorem digT_hex {v : Nat} (h : v < 65536) : digT 4 16 v = hxT v := by
  unfold hxT
  simp only [digT]
  by_cases h1 : v < 16
  · rw [if_pos h1, if_pos h1]
  rw [if_neg h1, if_neg h1]
  have e1 : v / 16 / 16 = v / 256 := by omega
  have e2 : v / 256 / 16 = v / 4096 := by omega
  rw [e1, e2]
  by_cases h2 : v / 16 < 16
  · simp [h2, show v < 256 by omega]
  by_cases h3 : v / 256 < 16
  · simp [h2, h3, show ¬ v < 256 by omega, show v < 4096 by omega]
  simp [h2, h3, show ¬ v < 256 by omega, show ¬ v < 4096 by omega, show v / 4096 < 16 by omega]
theorem hd_dec {d : Nat} (h : d < 10) : hd d = UInt8.ofNat (48 + d) := by unfold hd; rw [if_pos h]
theorem digT_dec {v : Nat} (h : v < 1000) : digT 3 10 v = dg v := by
  unfold dg
  simp only [digT]
  by_cases h1 : v < 10
  · rw [if_pos h1, if_pos h1, hd_dec h1]
  rw [if_neg h1, if_neg h1]
  by_cases h2 : v / 10 < 10
  · simp [h2, show v < 100 by omega, hd_dec h2, hd_dec (show v % 10 < 10 by omega)]
  simp [h2, show ¬ v < 100 by omega, show v / 10 / 10 < 10 by omega, hd_dec (show v / 10 / 10 < 10 by omega), hd_dec (show v / 10 % 10 < 10 by omega), hd_dec (show v % 10 < 10 by omega)]
/-- A digit's number, 99 of none. -/
def dv (b : UInt8) : Nat := match hv b with | some d => d | none => 99
/-- The number below most that digits of a base tell. -/
def nfrom (base most acc : Nat) : Tx → Option Nat
  | [] => some acc
  | b :: l => if base ≤ dv b ∨ most ≤ acc * base + dv b then none else nfrom base most (acc * base + dv b) l
/-- What Number answers. -/
def numberR (base most : Nat) (l : Tx) : Nat × Bool := match nfrom base most 0 l with | some n => (n, decide (l ≠ [])) | none => (0, false)
theorem nfrom_lt (base most : Nat) : ∀ (l : Tx) (acc n : Nat), nfrom base most acc l = some n → acc < most → n < most
  | [], acc, n, h, ha => by simp [nfrom] at h; omega
  | b :: l, acc, n, h, ha => by
    rw [nfrom] at h
    split at h
    · cases h
    · rename_i hn
      exact nfrom_lt base most l _ n h (by omega)
theorem dv_some {b : UInt8} {d : Nat} (h : hv b = some d) : dv b = d := by unfold dv; rw [h]
theorem dv_none {b : UInt8} (h : hv b = none) : dv b = 99 := by unfold dv; rw [h]
theorem nfrom_hex : ∀ (l : Tx) (acc m : Nat), acc < m → m * 16 ^ l.length ≤ 65536 → nfrom 16 65536 acc l = hexFrom acc l
  | [], _, _, _, _ => rfl
  | b :: l, acc, m, ha, hm => by
    rw [nfrom, hexFrom]
    cases hb : hv b with
    | none => rw [dv_none hb, if_pos (.inl (by omega))]
    | some d =>
      have h1 := hv_lt hb
      rw [dv_some hb]
      have hm2 : m * 16 * 16 ^ l.length ≤ 65536 := by rw [List.length_cons, Nat.pow_succ, Nat.mul_comm (16 ^ l.length) 16, ← Nat.mul_assoc] at hm; exact hm
      have h2 : 1 ≤ 16 ^ l.length := Nat.pos_of_ne_zero (by simp)
      have h3 : m * 16 ≤ m * 16 * 16 ^ l.length := Nat.le_mul_of_pos_right _ (by omega)
      rw [if_neg (by omega)]
      exact nfrom_hex l (acc * 16 + d) (m * 16) (by omega) hm2
theorem number_hex {l : Tx} (hl : l.length ≤ 4) (v : Nat) : numberR 16 65536 l = (v, true) ↔ hexO l = some v := by
  unfold numberR hexO
  have h16 : 16 ^ l.length ≤ 16 ^ 4 := Nat.pow_le_pow_right (by omega) hl
  rw [nfrom_hex l 0 1 (by omega) (by omega)]
  by_cases h0 : l = []
  · subst h0; simp [hexFrom]
  · rw [if_neg (by rintro (e | e); exact h0 e; omega)]
    cases hexFrom 0 l with
    | none => simp
    | some n => simp [h0]
theorem nfrom_dg_fin : ∀ v : Fin 256, nfrom 10 256 0 (dg v.val) = some v.val ∧ dg v.val ≠ [] := by decide +kernel
theorem number_dec (l : Tx) (v : Nat) : (numberR 10 256 l = (v, true) ∧ digT 3 10 v = l) ↔ decO l = some v := by
  rw [decO_iff]
  constructor
  · rintro ⟨h1, h2⟩
    unfold numberR at h1
    split at h1
    · rename_i n hn
      simp at h1
      obtain ⟨rfl, _⟩ := h1
      have hlt := nfrom_lt 10 256 l 0 n hn (by omega)
      exact ⟨hlt, by rw [← h2, digT_dec (by omega)]⟩
    · simp at h1
  · rintro ⟨h, rfl⟩
    obtain ⟨h1, h2⟩ := nfrom_dg_fin ⟨v, h⟩
    refine ⟨?_, digT_dec (by omega)⟩
    unfold numberR
    simp only at h1
    rw [h1]
    simp [h2]
theorem nfrom_dg129_fin : ∀ v : Fin 129, nfrom 10 129 0 (dg v.val) = some v.val := by decide +kernel
theorem number_len (l : Tx) (v : Nat) : (numberR 10 129 l = (v, true) ∧ digT 3 10 v = l) ↔ (v < 129 ∧ l = dg v) := by
  constructor
  · rintro ⟨h1, h2⟩
    unfold numberR at h1
    split at h1
    · rename_i n hn
      simp at h1
      obtain ⟨rfl, _⟩ := h1
      have hlt := nfrom_lt 10 129 l 0 n hn (by omega)
      exact ⟨hlt, by rw [← h2, digT_dec (by omega)]⟩
    · simp at h1
  · rintro ⟨h, rfl⟩
    have h1 := nfrom_dg129_fin ⟨v, h⟩
    have h2 := (nfrom_dg_fin ⟨v, by omega⟩).2
    refine ⟨?_, digT_dec (by omega)⟩
    unfold numberR
    simp only at h1
    rw [h1]
    simp
    exact h2
/-- What the program's own number tells of such a text. -/
theorem numS_len (l : Tx) (v : Nat) (h : v < 129) : numS l = some (v : Int) ↔ l = dg v := by
  constructor
  · intro h1
    have := numS_small h1 (by omega) (by omega)
    rw [this]
    congr 1
  · rintro rfl
    exact numS_dg (by omega)
end Go.Proofs.YtbnfmiopgjmppaaDoor

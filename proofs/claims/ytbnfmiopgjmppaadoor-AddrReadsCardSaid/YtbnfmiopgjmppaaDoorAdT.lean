/-
  Plain facts on texts: what stands between signs, decimal and hexadecimal numbers, the groups of an address. No program is named here; no conditions.
-/
import Derived.Lib.AtoiAllCases
import Derived.Lib.IndexMore
import Derived.Lib.ItoaNum
import Derived.Lib.Join
namespace Go.Proofs.YtbnfmiopgjmppaaDoor
abbrev Tx := List UInt8

/-- What stands between the signs of a text. -/
def cuts (c : UInt8) : Tx → List Tx
  | [] => [[]]
  | b :: l => if b = c then [] :: cuts c l else match cuts c l with
    | [] => [[b]]
    | h :: t => (b :: h) :: t
theorem cuts_ne (c : UInt8) (l : Tx) : cuts c l ≠ [] := by
  cases l with
  | nil => simp [cuts]
  | cons b l =>
    unfold cuts
    split
    · simp
    · split <;> simp
theorem index_step (b c : UInt8) (l : Tx) : Lib.index (b :: l) [c] = if b = c then 0 else if Lib.index l [c] = -1 then -1 else Lib.index l [c] + 1 := by
  rw [Lib.index]
  by_cases h : b = c
  · subst h; simp [List.isPrefixOf]
  · have : ([c] : Tx).isPrefixOf (b :: l) = false := by simp [List.isPrefixOf]; exact fun e => h e.symm
    rw [this, if_neg h]
    simp
theorem cuts_cut (c : UInt8) : ∀ l : Tx, cuts c l = if (Lib.cut l [c]).2.2 = true then (Lib.cut l [c]).1 :: cuts c (Lib.cut l [c]).2.1 else [l]
  | [] => by simp [cuts, Lib.cut, Lib.index]
  | b :: l => by
    have ih := cuts_cut c l
    have hge := Lib.index_ge l [c]
    have hst := index_step b c l
    rw [cuts]
    by_cases h : b = c
    · rw [if_pos h] at hst
      rw [if_pos h]
      simp [Lib.cut, hst]
    · rw [if_neg h] at hst ⊢
      by_cases hm : Lib.index l [c] = -1
      · rw [if_pos hm] at hst
        simp only [Lib.cut, hm] at ih
        simp at ih
        rw [ih]
        simp [Lib.cut, hst]
      · rw [if_neg hm] at hst
        have h0 : 0 ≤ Lib.index l [c] := by omega
        simp only [Lib.cut, if_pos h0] at ih
        simp at ih
        rw [ih]
        have h1 : 0 ≤ Lib.index l [c] + 1 := by omega
        simp only [Lib.cut, hst, if_pos h1]
        have e : (Lib.index l [c] + 1).toNat = (Lib.index l [c]).toNat + 1 := by omega
        rw [e]
        simp

/-- Texts with a sign between them. -/
def joinT (c : UInt8) : List Tx → Tx
  | [] => []
  | [x] => x
  | x :: y :: l => x ++ c :: joinT c (y :: l)
theorem cuts_none (c : UInt8) : ∀ l : Tx, c ∉ l → cuts c l = [l]
  | [], _ => rfl
  | b :: l, h => by
    simp at h
    rw [cuts, if_neg (fun e => h.1 e.symm), cuts_none c l h.2]
theorem cuts_app (c : UInt8) : ∀ (x l : Tx), c ∉ x → cuts c (x ++ c :: l) = x :: cuts c l
  | [], l, _ => by simp [cuts]
  | b :: x, l, h => by
    simp at h
    rw [List.cons_append, cuts, if_neg (fun e => h.1 e.symm), cuts_app c x l h.2]
theorem cuts_join (c : UInt8) : ∀ ls : List Tx, ls ≠ [] → (∀ x ∈ ls, c ∉ x) → cuts c (joinT c ls) = ls
  | [], h, _ => absurd rfl h
  | [x], _, h => cuts_none c x (h x (by simp))
  | x :: y :: l, _, h => by
    rw [joinT, cuts_app c x _ (h x (by simp)), cuts_join c (y :: l) (by simp) (fun z hz => h z (by simp [hz]))]

/-- A number below 1000 in decimal digits. -/
def dg (v : Nat) : Tx := if v < 10 then [UInt8.ofNat (48 + v)] else if v < 100 then [UInt8.ofNat (48 + v / 10), UInt8.ofNat (48 + v % 10)] else [UInt8.ofNat (48 + v / 10 / 10), UInt8.ofNat (48 + v / 10 % 10), UInt8.ofNat (48 + v % 10)]
theorem decDigits_dg {v : Nat} (h : v < 1000) : Lib.decDigits v = dg v := by
  unfold dg
  split
  · rename_i h1; exact Lib.decDigits_one h1
  · rename_i h1
    split
    · rename_i h2; exact Lib.decDigits_two h1 h2
    · rename_i h2
      rw [Lib.decDigits, dif_neg h1, Lib.decDigits_two (by omega) (by omega)]
      rfl
theorem atoi_dg_fin : ∀ v : Fin 256, Lib.atoiAll (dg v.val) = .ok (v.val : Int) := by decide +kernel
theorem atoi_dg {v : Nat} (h : v < 256) : Lib.atoiAll (dg v) = .ok (v : Int) := atoi_dg_fin ⟨v, h⟩
theorem itoa_dg {v : Nat} (h : v < 1000) : Lib.itoa (v : Int) = dg v := by
  unfold Lib.itoa
  rw [if_neg (by omega), show ((v : Int)).toNat = v by omega, decDigits_dg h]
theorem dg_inj {v u : Nat} (hv : v < 256) (hu : u < 256) (h : dg v = dg u) : v = u := by
  have h1 := atoi_dg hv
  rw [h, atoi_dg hu] at h1
  simp at h1
  omega
/-- The number that a text tells, if it is told so. -/
def numS (l : Tx) : Option Int :=
  match Lib.atoiAll l with
  | .ok v => if Lib.itoa v = l then some v else none
  | _ => none
theorem numS_dg {v : Nat} (h : v < 256) : numS (dg v) = some (v : Int) := by
  unfold numS
  rw [atoi_dg h]
  simp only [itoa_dg (show v < 1000 by omega), if_true]
theorem numS_small {l : Tx} {z : Int} (h : numS l = some z) (h0 : 0 ≤ z) (h1 : z ≤ 255) : l = dg z.toNat := by
  unfold numS at h
  split at h
  · split at h
    · rename_i v _ he
      simp at h
      subst h
      rw [← he, show v = ((v.toNat : Nat) : Int) by omega, itoa_dg (by omega)]
      rfl
    · cases h
  · cases h
/-- One of four bytes. -/
def decO (l : Tx) : Option Nat :=
  match numS l with
  | some z => if 0 ≤ z ∧ z ≤ 255 then some z.toNat else none
  | none => none
theorem decO_iff (l : Tx) (v : Nat) : decO l = some v ↔ v < 256 ∧ l = dg v := by
  unfold decO
  constructor
  · intro h
    split at h
    · rename_i z hz
      split at h
      · rename_i hb
        simp at h
        subst h
        exact ⟨by omega, numS_small hz hb.1 hb.2⟩
      · cases h
    · cases h
  · rintro ⟨h, rfl⟩
    rw [numS_dg h]
    simp
    omega

/-- What a digit to the base 16 stands for. -/
def hv (b : UInt8) : Option Nat :=
  if 48 ≤ b.toNat ∧ b.toNat ≤ 57 then some (b.toNat - 48) else if 97 ≤ b.toNat ∧ b.toNat ≤ 102 then some (b.toNat - 87) else if 65 ≤ b.toNat ∧ b.toNat ≤ 70 then some (b.toNat - 55) else none
def hexFrom (acc : Nat) : Tx → Option Nat
  | [] => some acc
  | b :: l => match hv b with
    | some d => hexFrom (acc * 16 + d) l
    | none => none
/-- A group: one to four digits to the base 16. -/
def hexO (l : Tx) : Option Nat := if l = [] ∨ 4 < l.length then none else hexFrom 0 l
theorem hv_lt {b : UInt8} {d : Nat} (h : hv b = some d) : d < 16 := by
  unfold hv at h
  split at h
  · simp at h; omega
  · split at h
    · simp at h; omega
    · split at h
      · simp at h; omega
      · cases h
theorem hexFrom_lt : ∀ (l : Tx) (acc v m : Nat), hexFrom acc l = some v → acc < m → v < m * 16 ^ l.length
  | [], acc, v, m, h, ha => by simp [hexFrom] at h; subst h; simpa using ha
  | b :: l, acc, v, m, h, ha => by
    rw [hexFrom] at h
    split at h
    · rename_i d hd
      have h1 := hv_lt hd
      have h2 := hexFrom_lt l (acc * 16 + d) v (m * 16) h (by omega)
      rw [List.length_cons, Nat.pow_succ, Nat.mul_comm (16 ^ l.length) 16, ← Nat.mul_assoc]
      exact h2
    · cases h
theorem hexO_lt {l : Tx} {v : Nat} (h : hexO l = some v) : v < 65536 := by
  unfold hexO at h
  split at h
  · cases h
  · rename_i hl
    have h1 := hexFrom_lt l 0 v 1 h (by omega)
    have h2 : 16 ^ l.length ≤ 16 ^ 4 := Nat.pow_le_pow_right (by omega) (by omega)
    omega
/-- A digit; a group's digits. -/
def hd (d : Nat) : UInt8 := if d < 10 then UInt8.ofNat (48 + d) else UInt8.ofNat (87 + d)
def hxT (v : Nat) : Tx := if v < 16 then [hd v] else if v < 256 then [hd (v / 16), hd (v % 16)] else if v < 4096 then [hd (v / 256), hd (v / 16 % 16), hd (v % 16)] else [hd (v / 4096), hd (v / 256 % 16), hd (v / 16 % 16), hd (v % 16)]
theorem hv_hd_fin : ∀ d : Fin 16, hv (hd d.val) = some d.val ∧ hd d.val ≠ 58 := by decide +kernel
theorem hv_hd {d : Nat} (h : d < 16) : hv (hd d) = some d := (hv_hd_fin ⟨d, h⟩).1
theorem hd_ne {d : Nat} (h : d < 16) : ¬ (58 : UInt8) = hd d := fun e => (hv_hd_fin ⟨d, h⟩).2 e.symm
theorem hexO_hxT {v : Nat} (h : v < 65536) : hexO (hxT v) = some v := by
  unfold hexO hxT
  split
  · rename_i h1; simp [hexFrom, hv_hd h1]
  · split
    · simp [hexFrom, hv_hd (show v / 16 < 16 by omega), hv_hd (show v % 16 < 16 by omega)]; omega
    · split
      · simp [hexFrom, hv_hd (show v / 256 < 16 by omega), hv_hd (show v / 16 % 16 < 16 by omega), hv_hd (show v % 16 < 16 by omega)]; omega
      · simp [hexFrom, hv_hd (show v / 4096 < 16 by omega), hv_hd (show v / 256 % 16 < 16 by omega), hv_hd (show v / 16 % 16 < 16 by omega), hv_hd (show v % 16 < 16 by omega)]; omega
theorem hxT_free {v : Nat} (h : v < 65536) : (58 : UInt8) ∉ hxT v ∧ hxT v ≠ [] := by
  unfold hxT
  split
  · rename_i h1; simp [hd_ne h1]
  · split
    · simp [hd_ne (show v / 16 < 16 by omega), hd_ne (show v % 16 < 16 by omega)]
    · split
      · simp [hd_ne (show v / 256 < 16 by omega), hd_ne (show v / 16 % 16 < 16 by omega), hd_ne (show v % 16 < 16 by omega)]
      · simp [hd_ne (show v / 4096 < 16 by omega), hd_ne (show v / 256 % 16 < 16 by omega), hd_ne (show v / 16 % 16 < 16 by omega), hd_ne (show v % 16 < 16 by omega)]

/-- All of a row, or none. -/
def allO (f : Tx → Option Nat) : List Tx → Option (List Nat)
  | [] => some []
  | x :: l => match f x with
    | none => none
    | some v => match allO f l with
      | none => none
      | some r => some (v :: r)
theorem allO_map (f : Tx → Option Nat) (g : Nat → Tx) : ∀ vs : List Nat, (∀ v ∈ vs, f (g v) = some v) → allO f (vs.map g) = some vs
  | [], _ => rfl
  | v :: vs, h => by
    rw [List.map_cons, allO, h v (by simp), allO_map f g vs (fun u hu => h u (by simp [hu]))]
theorem allO_len (f : Tx → Option Nat) : ∀ (l : List Tx) (r : List Nat), allO f l = some r → r.length = l.length
  | [], r, h => by simp [allO] at h; subst h; rfl
  | x :: l, r, h => by
    rw [allO] at h
    split at h
    · cases h
    · split at h
      · cases h
      · rename_i v _ r' hr
        simp at h
        subst h
        simp [allO_len f l r' hr]
/-- The four bytes that a text tells. -/
def parse4 (l : Tx) : Option (List Nat) := if (cuts 46 l).length = 4 then allO decO (cuts 46 l) else none
/-- The groups that a text tells: none, of none. -/
def gr0 (l : Tx) : Option (List Nat) := if l = [] then some [] else allO hexO (cuts 58 l)
/-- The eight groups that a text tells. -/
def parse6 (l : Tx) : Option (List Nat) :=
  if (Lib.cut l [58, 58]).2.2 = true then
    match gr0 (Lib.cut l [58, 58]).1, gr0 (Lib.cut l [58, 58]).2.1 with
    | some a, some b => if a.length + b.length ≤ 7 then some (a ++ (List.replicate (8 - (a.length + b.length)) 0 ++ b)) else none
    | _, _ => none
  else
    match gr0 l with
    | some a => if a.length = 8 then some a else none
    | none => none

/-- No sign of two colons within. -/
theorem index_nil (l : Tx) : l ≠ [] → Lib.index ([] : Tx) l = -1 := by
  intro h
  cases l with
  | nil => exact absurd rfl h
  | cons => rfl
theorem index2_step (b : UInt8) (l : Tx) : Lib.index (b :: l) [58, 58] = if b = 58 ∧ l.head? = some 58 then 0 else if Lib.index l [58, 58] = -1 then -1 else Lib.index l [58, 58] + 1 := by
  rw [Lib.index]
  by_cases h : b = 58 ∧ l.head? = some 58
  · obtain ⟨rfl, h2⟩ := h
    cases l with
    | nil => simp at h2
    | cons c l => simp at h2; subst h2; simp [List.isPrefixOf]
  · have : ([58, 58] : Tx).isPrefixOf (b :: l) = false := by
      cases l with
      | nil => simp [List.isPrefixOf]
      | cons c l =>
        simp [List.isPrefixOf]
        simp at h
        intro e f
        exact h e.symm f.symm
    rw [this, if_neg h]
    simp
/-- Two colons behind a text in which there are none, and which does not end with one. -/
def noCC (x : Tx) : Prop := Lib.index x [58, 58] = -1 ∧ x.getLast? ≠ some 58
theorem index2_app : ∀ (x y : Tx), noCC x → Lib.index (x ++ 58 :: 58 :: y) [58, 58] = x.length
  | [], y, _ => by simp [Lib.index, List.isPrefixOf]
  | b :: x, y, h => by
    obtain ⟨h1, h2⟩ := h
    rw [index2_step] at h1
    rw [List.cons_append, index2_step]
    have hx : noCC x ∧ ¬ (b = 58 ∧ x.head? = some 58) := by
      split at h1
      · omega
      · rename_i hn
        split at h1
        · rename_i hm
          refine ⟨⟨hm, ?_⟩, hn⟩
          cases x with
          | nil => simp
          | cons c x => rwa [List.getLast?_cons_cons] at h2
        · have := Lib.index_ge x [58, 58]; omega
    have hb : ¬ (b = 58 ∧ (x ++ 58 :: 58 :: y).head? = some 58) := by
      cases x with
      | nil =>
        rintro ⟨rfl, _⟩
        simp at h2
      | cons c x => simpa using hx.2
    rw [if_neg hb, index2_app x y hx.1]
    rw [if_neg (by omega)]
    simp
theorem cut2_app {x : Tx} (y : Tx) (h : noCC x) : Lib.cut (x ++ 58 :: 58 :: y) [58, 58] = (x, y, true) := by
  have h1 := index2_app x y h
  unfold Lib.cut
  rw [h1, if_pos (by omega)]
  simp
theorem cut2_none {x : Tx} (h : Lib.index x [58, 58] = -1) : Lib.cut x [58, 58] = (x, [], false) := by
  unfold Lib.cut
  rw [h, if_neg (by omega)]
theorem noCC_free : ∀ {x : Tx}, (58 : UInt8) ∉ x → noCC x
  | [], _ => ⟨rfl, by simp⟩
  | b :: x, h => by
    simp at h
    have ih := noCC_free h.2
    refine ⟨?_, ?_⟩
    · rw [index2_step, if_neg (fun e => h.1 e.1.symm), if_pos ih.1]
    · intro e
      have := List.mem_of_getLast? e
      simp at this
      rcases this with e | e
      · exact h.1 e
      · exact h.2 e
theorem noCC_app {x y : Tx} (hx : (58 : UInt8) ∉ x) (hx0 : x ≠ []) (hy : noCC y) (hy0 : y.head? ≠ some 58) (hy1 : y ≠ []) : noCC (x ++ 58 :: y) := by
  induction x with
  | nil => exact absurd rfl hx0
  | cons b x ih =>
    simp at hx
    cases x with
    | nil =>
      have h58 : Lib.index (58 :: y) [58, 58] = -1 := by rw [index2_step, if_neg (fun e => hy0 e.2), if_pos hy.1]
      refine ⟨?_, ?_⟩
      · rw [List.cons_append, List.nil_append, index2_step, if_neg (fun e => hx.1 e.1.symm), if_pos h58]
      · intro e
        cases y with
        | nil => exact hy1 rfl
        | cons c y => rw [List.cons_append, List.nil_append, List.getLast?_cons_cons, List.getLast?_cons_cons] at e; exact hy.2 e
    | cons c x =>
      have h2 := ih hx.2 (by simp)
      refine ⟨?_, ?_⟩
      · rw [List.cons_append, index2_step, if_neg (fun e => hx.1 e.1.symm), if_pos h2.1]
      · intro e
        rw [List.cons_append, List.cons_append, List.getLast?_cons_cons] at e
        exact h2.2 e
/-- Groups with colons between. -/
def grT (vs : List Nat) : Tx := joinT 58 (vs.map hxT)
theorem grT_head {v : Nat} (vs : List Nat) (h : v < 65536) : (grT (v :: vs)).head? ≠ some 58 ∧ grT (v :: vs) ≠ [] := by
  obtain ⟨h1, h2⟩ := hxT_free h
  have : ∃ r, grT (v :: vs) = hxT v ++ r := by
    cases vs with
    | nil => exact ⟨[], by simp [grT, joinT]⟩
    | cons u vs => exact ⟨58 :: grT (u :: vs), by simp [grT, joinT]⟩
  obtain ⟨r, hr⟩ := this
  rw [hr]
  cases hx : hxT v with
  | nil => exact absurd hx h2
  | cons c x =>
    rw [hx] at h1
    simp at h1
    refine ⟨?_, by simp⟩
    simp
    exact fun e => h1.1 e.symm
theorem grT_noCC : ∀ vs : List Nat, (∀ v ∈ vs, v < 65536) → noCC (grT vs)
  | [], _ => ⟨rfl, by simp [grT, joinT]⟩
  | [v], h => noCC_free (hxT_free (h v (by simp))).1
  | v :: u :: vs, h => by
    have hv := hxT_free (h v (by simp))
    have ih := grT_noCC (u :: vs) (fun x hx => h x (by simp [hx]))
    have hu := grT_head vs (h u (by simp))
    show noCC (hxT v ++ 58 :: grT (u :: vs))
    exact noCC_app hv.1 hv.2 ih hu.1 hu.2
theorem gr0_grT (vs : List Nat) (h : ∀ v ∈ vs, v < 65536) : gr0 (grT vs) = some vs := by
  unfold gr0
  cases vs with
  | nil => simp [grT, joinT]
  | cons v vs =>
    rw [if_neg (grT_head vs (h v (by simp))).2, grT, cuts_join 58 _ (by simp) (fun x hx => by
      obtain ⟨u, hu, rfl⟩ := List.mem_map.1 hx
      exact (hxT_free (h u hu)).1), allO_map _ _ _ (fun u hu => hexO_hxT (h u hu))]
/-- What is told short is read as it was; what is told in full, too. -/
theorem parse6_short {a b : List Nat} (ha : ∀ v ∈ a, v < 65536) (hb : ∀ v ∈ b, v < 65536) (hl : a.length + b.length ≤ 7) :
    parse6 (grT a ++ 58 :: 58 :: grT b) = some (a ++ (List.replicate (8 - (a.length + b.length)) 0 ++ b)) := by
  unfold parse6
  rw [cut2_app _ (grT_noCC a ha)]
  simp only [if_true, gr0_grT a ha, gr0_grT b hb, if_pos hl]
theorem parse6_full {a : List Nat} (ha : ∀ v ∈ a, v < 65536) (hl : a.length = 8) : parse6 (grT a) = some a := by
  unfold parse6
  rw [cut2_none (grT_noCC a ha).1]
  simp only [gr0_grT a ha, hl]
  simp
theorem parse4_dots {a b c d : Nat} (ha : a < 256) (hb : b < 256) (hc : c < 256) (hd : d < 256) : parse4 (joinT 46 [dg a, dg b, dg c, dg d]) = some [a, b, c, d] := by
  have hfree : ∀ v, v < 256 → (46 : UInt8) ∉ dg v := by
    intro v hv
    have : ∀ v : Fin 256, (46 : UInt8) ∉ dg v.val := by decide +kernel
    exact this ⟨v, hv⟩
  have hk : cuts 46 (joinT 46 [dg a, dg b, dg c, dg d]) = [dg a, dg b, dg c, dg d] := cuts_join 46 _ (by simp) (by
    intro x hx
    simp at hx
    rcases hx with rfl | rfl | rfl | rfl
    · exact hfree a ha
    · exact hfree b hb
    · exact hfree c hc
    · exact hfree d hd)
  unfold parse4
  rw [hk]
  simp [allO, (decO_iff _ a).2 ⟨ha, rfl⟩, (decO_iff _ b).2 ⟨hb, rfl⟩, (decO_iff _ c).2 ⟨hc, rfl⟩, (decO_iff _ d).2 ⟨hd, rfl⟩]
/-- A text is not told both ways. -/
theorem free_joinT (c : UInt8) (s : UInt8) (hs : c ≠ s) : ∀ ls : List Tx, (∀ x ∈ ls, c ∉ x) → c ∉ joinT s ls
  | [], _ => by simp [joinT]
  | [x], h => h x (by simp)
  | x :: y :: l, h => by
    have := free_joinT c s hs (y :: l) (fun z hz => h z (by simp [hz]))
    simp [joinT]
    exact ⟨h x (by simp), hs, this⟩
theorem join_cuts (c : UInt8) : ∀ l : Tx, joinT c (cuts c l) = l
  | [] => rfl
  | b :: l => by
    have ih := join_cuts c l
    have hne := cuts_ne c l
    rw [cuts]
    by_cases h : b = c
    · rw [if_pos h]
      cases hk : cuts c l with
      | nil => exact absurd hk hne
      | cons x r => rw [hk] at ih; rw [joinT, ih, h]; rfl
    · rw [if_neg h]
      cases hk : cuts c l with
      | nil => exact absurd hk hne
      | cons x r =>
        rw [hk] at ih
        cases r with
        | nil => simp [joinT] at ih ⊢; exact ih
        | cons y r => simp [joinT] at ih ⊢; exact ih
theorem dg_free (v : Nat) (hv : v < 256) : (58 : UInt8) ∉ dg v := by
  have : ∀ v : Fin 256, (58 : UInt8) ∉ dg v.val := by decide +kernel
  exact this ⟨v, hv⟩
theorem allO_mem (f : Tx → Option Nat) : ∀ (l : List Tx) (r : List Nat), allO f l = some r → ∀ x ∈ l, ∃ v, f x = some v
  | [], _, _, x, hx => by cases hx
  | y :: l, r, h, x, hx => by
    rw [allO] at h
    split at h
    · cases h
    · rename_i v hv
      split at h
      · cases h
      · rename_i r' hr
        rcases List.mem_cons.1 hx with rfl | hx
        · exact ⟨v, hv⟩
        · exact allO_mem f l r' hr x hx
theorem parse4_free {l : Tx} {r : List Nat} (h : parse4 l = some r) : (58 : UInt8) ∉ l := by
  unfold parse4 at h
  split at h
  · rw [← join_cuts 46 l]
    refine free_joinT 58 46 (by decide) _ (fun x hx => ?_)
    obtain ⟨v, hv⟩ := allO_mem _ _ _ h x hx
    obtain ⟨h1, rfl⟩ := (decO_iff _ _).1 hv
    exact dg_free v h1
  · cases h
theorem parse_one {l : Tx} {r : List Nat} (h : parse4 l = some r) : parse6 l = none := by
  have hf := parse4_free h
  unfold parse6
  rw [cut2_none (noCC_free hf).1]
  simp only [gr0]
  by_cases h0 : l = []
  · simp [h0]
  · rw [if_neg h0, cuts_none 58 l hf]
    cases hx : hexO l with
    | none => simp [allO, hx]
    | some v => simp [allO, hx]
end Go.Proofs.YtbnfmiopgjmppaaDoor

/-
  Rows of values of several cells each, in blocks: one of them stored, read. Conditions: those that the theorems name.
-/
import Derived.Test.YtpigpeehhadkjaaFiRow
import Derived.Test.YtpigpeehhadkjaaPieces
namespace Go.Proofs.Ytpigpeehhadkjaa
open Go.RowKit

theorem wp_onT {P : Program} {c A B : Code} {Q : Exit → Act → World → Prop} {a : Act} {w : World} {i : Nat} (hc : c = .cond (.tmp i) A B) (h : sl a i = .bool true) (h1 : A.wp P Q a w) : c.wp P Q a w := by
  subst hc
  exact wp_cond_true (by rw [← h]; rfl) h1
theorem wp_onF {P : Program} {c A B : Code} {Q : Exit → Act → World → Prop} {a : Act} {w : World} {i : Nat} (hc : c = .cond (.tmp i) A B) (h : sl a i = .bool false) (h1 : B.wp P Q a w) : c.wp P Q a w := by
  subst hc
  exact wp_cond_false (by rw [← h]; rfl) h1
theorem wp_skipR {P : Program} {c : Code} {Q : Exit → Act → World → Prop} {a : Act} {w : World} (hc : c = .skip) (h : Q .normal a w) : c.wp P Q a w := by
  subst hc
  exact wp_skip h

theorem sl_at (xs : Array Value) (m i : Nat) (v : Value) (h : xs[i]? = some v) : sl ⟨xs ++ Array.replicate m undef, []⟩ i = v := by
  have hi := (Array.getElem?_eq_some_iff.1 h).1
  simp [sl, Array.getElem?_append, hi]
  exact (Array.getElem?_eq_some_iff.1 h).2
def intOf : Value → Int
  | .int _ i => i
  | _ => 0

/-- Some cells of a row replaced. -/
def lset : List Value → Nat → List Value → List Value
  | vs, _, [] => vs
  | vs, o, u :: us => lset (vs.set o u) (o + 1) us
theorem lset_len : ∀ (us vs : List Value) (o : Nat), (lset vs o us).length = vs.length
  | [], _, _ => rfl
  | u :: us, vs, o => by rw [lset, lset_len us, List.length_set]
theorem lset_cons (y : Value) : ∀ (us vs : List Value) (o : Nat), lset (y :: vs) (o + 1) us = y :: lset vs o us
  | [], _, _ => rfl
  | u :: us, vs, o => by rw [lset, lset, List.set_cons_succ, lset_cons y us]
theorem lset_app : ∀ (ys us vs : List Value) (o : Nat), lset (ys ++ vs) (ys.length + o) us = ys ++ lset vs o us
  | [], us, vs, o => by simp
  | y :: ys, us, vs, o => by rw [List.cons_append, List.length_cons, Nat.add_right_comm, lset_cons, lset_app ys us vs o, List.cons_append]
theorem lset_here : ∀ (us vs zs : List Value), us.length = vs.length → lset (vs ++ zs) 0 us = us ++ zs
  | [], [], zs, _ => rfl
  | u :: us, v :: vs, zs, h => by
    show lset ((u :: (vs ++ zs))) (0 + 1) us = _
    rw [lset_cons, lset_here us vs zs (by simpa using h), List.cons_append]
  | [], _ :: _, _, h => by simp at h
  | _ :: _, [], _, h => by simp at h
section
variable {α : Type} {f : α → List Value} {m : Nat}
theorem lset_flat (hf : ∀ x, (f x).length = m) : ∀ (l : List α) (i : Nat) (x : α), i < l.length → lset (l.flatMap f) (i * m) (f x) = (l.set i x).flatMap f
  | [], i, x, h => by simp at h
  | y :: t, 0, x, _ => by
    rw [List.flatMap_cons, Nat.zero_mul, lset_here _ _ _ (by rw [hf, hf])]
    rfl
  | y :: t, i + 1, x, h => by
    rw [List.flatMap_cons, show (i + 1) * m = (f y).length + i * m by rw [hf, Nat.add_mul]; omega, lset_app, lset_flat hf t i x (by simpa using h)]
    rfl
/-- One cell of one of them. -/
theorem set_flat (hf : ∀ x, (f x).length = m) : ∀ (l : List α) (i j : Nat) (x y : α) (v : Value), l[i]? = some x → j < m → (f x).set j v = f y → (l.flatMap f).set (i * m + j) v = (l.set i y).flatMap f
  | [], i, _, _, _, _, h, _, _ => by simp at h
  | z :: t, 0, j, x, y, v, h, hj, hs => by
    simp at h
    subst h
    rw [List.flatMap_cons, Nat.zero_mul, Nat.zero_add, List.set_append_left _ _ (by rw [hf]; exact hj), hs]
    rfl
  | z :: t, i + 1, j, x, y, v, h, hj, hs => by
    rw [List.flatMap_cons, List.set_append_right _ _ (by rw [hf, Nat.add_mul]; omega), show (i + 1) * m + j - (f z).length = i * m + j by rw [hf, Nat.add_mul]; omega, set_flat hf t i j x y v (by simpa using h) hj hs]
    rfl
theorem setCells_row {w : World} {r : Nat} {t : TypeId} : ∀ (us : List Value) (vs : List Value) (o : Nat), w.heap[r]? = some (.cells vs.toArray t (0, 0)) → (w.setCells r o us).heap[r]? = some (.cells (lset vs o us).toArray t (0, 0))
  | [], _, _, h => h
  | u :: us, vs, o, h => by
    rw [World.setCells, lset]
    refine setCells_row us (vs.set o u) (o + 1) ?_
    rw [heap_setCell_same w r o _ _ _ h]
    simp
/-- A whole row, one of it stored. -/
theorem frow_set (hf : ∀ x, (f x).length = m) {w : World} {r : Nat} {t : TypeId} {l : List α} (h : w.heap[r]? = some (.cells (l.flatMap f).toArray t (0, 0))) {i : Nat} (hi : i < l.length) (x : α) :
    (w.setCells r (i * m) (f x)).heap[r]? = some (.cells ((l.set i x).flatMap f).toArray t (0, 0)) := by
  rw [setCells_row _ _ _ h, lset_flat hf l i x hi]
theorem frow_at (hf : ∀ x, (f x).length = m) {w : World} {r : Nat} {t : TypeId} {l : List α} (h : w.heap[r]? = some (.cells (l.flatMap f).toArray t (0, 0))) {i : Nat} {x : α} (hx : l[i]? = some x) : w.rangeAt r (i * m) (f x) := fun j v hv => by
  have hj : j < m := by have := (List.getElem?_eq_some_iff.1 hv).1; rwa [hf] at this
  rw [cell_of_row w r (i * m + j) _ _ (0, 0) h, List.getElem?_toArray, flat_at f m l (fun x _ => hf x) i x hx j hj]
  exact hv
theorem frow_there (hf : ∀ x, (f x).length = m) {w : World} {r : Nat} {t : TypeId} {l : List α} (h : w.heap[r]? = some (.cells (l.flatMap f).toArray t (0, 0))) {i : Nat} (hi : i < l.length) : w.there r (i * m) m := fun j hj => by
  rw [cell_of_row w r (i * m + j) _ _ (0, 0) h, frozen_of_row w r (i * m + j) _ _ h]
  refine ⟨?_, rfl⟩
  have := flat_len f m l (fun x _ => hf x)
  have h2 : (i + 1) * m ≤ l.length * m := Nat.mul_le_mul_right m hi
  rw [Nat.add_mul] at h2
  rw [List.getElem?_toArray, List.getElem?_eq_getElem (by omega)]
  rfl
/-- One cell of a whole row. -/
theorem frow_one (hf : ∀ x, (f x).length = m) {w : World} {r : Nat} {t : TypeId} {l : List α} (h : w.heap[r]? = some (.cells (l.flatMap f).toArray t (0, 0))) {i j : Nat} {x y : α} {v : Value} (hx : l[i]? = some x) (hj : j < m) (hs : (f x).set j v = f y) :
    (w.setCell ⟨r, i * m + j, none⟩ v).heap[r]? = some (.cells ((l.set i y).flatMap f).toArray t (0, 0)) := by
  rw [heap_setCell_same w r _ _ _ _ h, ← set_flat hf l i j x y v hx hj hs]
  simp

/-- A row that may have room: one cell stored. -/
theorem OwnG.set1 {w : World} {base e size r n cap : Nat} {vs : List Value} (h : OwnG w base e size (some ⟨r, 0, none⟩) n cap vs) (j : Nat) (v : Value) : OwnG (w.setCell ⟨r, j, none⟩ v) base e size (some ⟨r, 0, none⟩) n cap (vs.set j v) := (World.ownsRow.stored h j v).1
theorem OwnG.setN {base e size r n cap : Nat} : ∀ (us vs : List Value) (o : Nat) {w : World}, OwnG w base e size (some ⟨r, 0, none⟩) n cap vs → OwnG (w.setCells r o us) base e size (some ⟨r, 0, none⟩) n cap (lset vs o us)
  | [], _, _, _, h => h
  | u :: us, vs, o, _, h => by
    rw [World.setCells, lset]
    exact OwnG.setN us _ (o + 1) (h.set1 o u)
theorem OwnG.put {w : World} {base e r n cap : Nat} (hf : ∀ x, (f x).length = m) {l : List α} (h : OwnG w base e m (some ⟨r, 0, none⟩) n cap (l.flatMap f)) {i : Nat} (hi : i < l.length) (x : α) : OwnG (w.setCells r (i * m) (f x)) base e m (some ⟨r, 0, none⟩) n cap ((l.set i x).flatMap f) := by
  rw [← lset_flat hf l i x hi]
  exact OwnG.setN _ _ _ h
theorem OwnG.one {w : World} {base e r n cap : Nat} (hf : ∀ x, (f x).length = m) {l : List α} (h : OwnG w base e m (some ⟨r, 0, none⟩) n cap (l.flatMap f)) {i j : Nat} {x y : α} {v : Value} (hx : l[i]? = some x) (hj : j < m) (hs : (f x).set j v = f y) : OwnG (w.setCell ⟨r, i * m + j, none⟩ v) base e m (some ⟨r, 0, none⟩) n cap ((l.set i y).flatMap f) := by
  rw [← set_flat hf l i j x y v hx hj hs]
  exact h.set1 _ _
theorem OwnG.flat (hf : ∀ x, (f x).length = m) {w : World} {base e n cap : Nat} {a : Option Addr} {l : List α} (h : OwnG w base e m a n cap (l.flatMap f)) (hm : 0 < m) : l.length = n := by
  have h1 := h.1
  rw [flat_len f m l (fun x _ => hf x)] at h1
  exact Nat.eq_of_mul_eq_mul_right hm h1
theorem OwnG.nth (hf : ∀ x, (f x).length = m) {w : World} {base e n cap : Nat} {a : Option Addr} {l : List α} (h : OwnG w base e m a n cap (l.flatMap f)) (hm : 0 < m) {i : Nat} {x : α} (hx : l[i]? = some x) : ∃ r, a = some ⟨r, 0, none⟩ ∧ w.rangeAt r (i * m) (f x) ∧ w.there r (i * m) m := by
  have hi := (List.getElem?_eq_some_iff.1 hx).1
  have hfl := flat_len f m l (fun x _ => hf x)
  have hl := h.flat hf hm
  have h2 : (i + 1) * m ≤ l.length * m := Nat.mul_le_mul_right m hi
  rw [Nat.add_mul] at h2
  rcases h.cases with ⟨_, h0, _⟩ | ⟨r, cur, e1, _, hr, _, _, hsz, ht⟩
  · omega
  · have hcell : ∀ j, j < m → cur[i * m + j]? = (f x)[j]? := fun j hj => by
      have h3 := flat_at f m l (fun x _ => hf x) i x hx j hj
      rw [← ht] at h3
      rw [← h3, List.getElem?_take, if_pos (by rw [← hl]; omega)]
      simp
    refine ⟨r, e1, fun j v hv => ?_, fun j hj => ?_⟩
    · have hj : j < m := by have := (List.getElem?_eq_some_iff.1 hv).1; rwa [hf] at this
      rw [cell_of_row w r (i * m + j) _ _ (0, 0) hr, hcell j hj]
      exact hv
    · rw [cell_of_row w r (i * m + j) _ _ (0, 0) hr, frozen_of_row w r (i * m + j) _ _ hr, hcell j hj]
      refine ⟨?_, rfl⟩
      rw [List.getElem?_eq_getElem (by rw [hf]; exact hj)]
      rfl
end
end Go.Proofs.Ytpigpeehhadkjaa

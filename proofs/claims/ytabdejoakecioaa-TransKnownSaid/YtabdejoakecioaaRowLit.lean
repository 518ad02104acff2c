/-
  Rows of rows that a call builds of slices at hand, read by Of and Whole. Conditions: rows that lie where the slices lead.
-/
import Derived.Test.YtabdejoakecioaaSumRows
namespace Go.Proofs.Ytabdejoakecioaa
open Go.RowKit

theorem Row.lit (w : World) (xs : List Int) (n : Nat) (hn : xs.length = n) (hm : n ≤ maxLen) (hb : Byt xs) (g : Nat) (hg : w.heap.size = g) : Row.ok (w.alloc (.cells (bv xs).toArray 5)) ⟨some ⟨g, 0, none⟩, n, n, xs⟩ := by
  subst hg
  exact ⟨hn, Nat.le_refl _, hm, (Own.lit w w.heap.size xs n hn hm (Nat.le_refl _)).rd, hb⟩
theorem RdR.lit (w : World) (t : TypeId) (l : List Row) (h : ∀ r ∈ l, r.ok w) : RdR (w.alloc (.cells (l.map Row.val).toArray t)) (some ⟨w.heap.size, 0, none⟩) l := by
  refine ⟨fun _ => ⟨w.heap.size, 0, rfl, fun i hi => ?_⟩, fun r hr => (h r hr).below ((Below.refl _ _).alloc (Nat.le_refl _) _)⟩
  rw [cell_of_row _ w.heap.size (0 + i) _ t (0, 0) (Blk_new w _ _)]
  simp [List.getElem?_eq_getElem hi]
theorem Row.ok.alloc {w : World} {r : Row} (h : r.ok w) (o : Obj) : r.ok (w.alloc o) := h.below ((Below.refl _ _).alloc (Nat.le_refl _) _)
theorem RdR.nil (w : World) (a : Option Addr) : RdR w a [] := ⟨fun h => absurd rfl h, fun r hr => by simp at hr⟩

/-- Of, and Whole, of rows that are laid for the call. -/
theorem of_lit (w : World) (l : List Row) (g m : Nat) (cs : Array Value) (hg : w.heap.size = g) (hm : l.length = m) (hcs : cs = (l.map Row.val).toArray) (h : ∀ r ∈ l, r.ok w) (hl : m ≤ 1000) (hr : ∀ r ∈ l, r.n ≤ 1000) :
    Calls Try.prog 36 #[.slice (some ⟨g, 0, none⟩) m m] (w.alloc (.cells cs 24)) fun e w' => e = .returned (.int .u16 (65535 - fld (ws 0 (cat l)))) ∧ Below w.heap.size w w' := by
  subst hg hcs
  refine (of_any _ _ _ l _ hm (RdR.lit w _ l h) hl hr).mono ?_
  rintro e w' ⟨rfl, hb⟩
  exact ⟨rfl, ((Below.refl _ _).alloc (Nat.le_refl _) _).trans (hb.mono (by simp))⟩
theorem whole_lit (w : World) (l : List Row) (g m : Nat) (cs : Array Value) (hg : w.heap.size = g) (hm : l.length = m) (hcs : cs = (l.map Row.val).toArray) (h : ∀ r ∈ l, r.ok w) (hl : m ≤ 1000) (hr : ∀ r ∈ l, r.n ≤ 1000) :
    Calls Try.prog 45 #[.slice (some ⟨g, 0, none⟩) m m] (w.alloc (.cells cs 24)) fun e w' => e = .returned (.bool (whl (ws 0 (cat l)))) ∧ Below w.heap.size w w' := by
  subst hg hcs
  refine (whole_any _ _ _ l _ hm (RdR.lit w _ l h) hl hr).mono ?_
  rintro e w' ⟨rfl, hb⟩
  exact ⟨rfl, ((Below.refl _ _).alloc (Nat.le_refl _) _).trans (hb.mono (by simp))⟩
theorem all_one {p : Row → Prop} {r : Row} (h : p r) : ∀ x ∈ [r], p x := by intro x hx; simp at hx; subst hx; exact h
theorem all_two {p : Row → Prop} {r s : Row} (h : p r) (k : p s) : ∀ x ∈ [r, s], p x := by intro x hx; simp at hx; rcases hx with rfl | rfl <;> assumption

theorem byt_lit {xs : List Int} (h : xs.all (fun x => decide (0 ≤ x ∧ x < 256)) = true) : Byt xs := by
  intro x hx
  have := List.all_eq_true.1 h x hx
  simpa using this
end Go.Proofs.Ytabdejoakecioaa

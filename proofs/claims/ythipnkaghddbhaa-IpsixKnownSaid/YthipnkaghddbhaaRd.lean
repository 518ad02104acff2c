/-
  Contracts of the reader's methods of package bits. Conditions: rows shorter than 2 to the 40, numbers that fit their Go types.
-/
import Derived.Test.YthipnkaghddbhaaClone
import Derived.BigRegion
namespace Go.Proofs.Ythipnkaghddbhaa
open Go.RowKit

/-- A reader at the head of a block: its rest, and its place. -/
structure Rr (w : World) (g : Nat) (a : Option Addr) (n c : Nat) (p : Int) (xs : List Int) : Prop where
  at_ : w.heap[g]? = some (.cells #[.slice a n c, .int .i64 p] 105 (0, 0))
  len : xs.length = n
  cap : n ≤ c
  max : n ≤ 1099511627776
  rd : Rd w a xs
  byt : Byt xs
  ne : blk a ≠ some g

theorem Rr.cell0 {w : World} {g : Nat} {a : Option Addr} {n c : Nat} {p : Int} {xs : List Int} (h : Rr w g a n c p xs) : w.cell? ⟨g, 0, none⟩ = some (.slice a n c) := by
  rw [cell_of_row w g 0 _ _ (0, 0) h.at_]; rfl
theorem Rr.cell1 {w : World} {g : Nat} {a : Option Addr} {n c : Nat} {p : Int} {xs : List Int} (h : Rr w g a n c p xs) : w.cell? ⟨g, 1, none⟩ = some (.int .i64 p) := by
  rw [cell_of_row w g 1 _ _ (0, 0) h.at_]; rfl
theorem Rr.free {w : World} {g : Nat} {a : Option Addr} {n c : Nat} {p : Int} {xs : List Int} (h : Rr w g a n c p xs) (j : Nat) : w.frozen? ⟨g, j, none⟩ = false := frozen_of_row w g j _ _ h.at_

set_option maxHeartbeats 1000000 in
theorem skip_lt (g b o n c m : Nat) (p : Int) (xs : List Int) (w : World) (h : Rr w g (some ⟨b, o, none⟩) n c p xs) (hm : m < n) (hp : 0 ≤ p) (hp2 : p ≤ 1099511627776) :
    Calls Try.prog 66 #[.pointer (some ⟨g, 0, none⟩), .int .i64 m] w fun e w' => e = .returned (.tuple #[]) ∧ ((w.setCell ⟨g, 0, none⟩ (.slice (some ⟨b, o + m, none⟩) (n - m) (n - m))).setCell ⟨g, 1, none⟩ (.int .i64 (p + m))).drew = w' := by
  have h0 := h.cell0
  have h1 := h.cell1
  have f0 := h.free 0
  have f1 := h.free 1
  have hc := h.cap
  have hx := h.max
  clear h
  go_enter Try.func66, Try.ntmps66
  go_wp2
  go_region
  all_goals
    go_wp2
    go_end0
    exact ⟨rfl, rfl⟩

set_option maxHeartbeats 1000000 in
theorem skip_all (g : Nat) (a : Option Addr) (n c : Nat) (p : Int) (xs : List Int) (w : World) (h : Rr w g a n c p xs) (hp : 0 ≤ p) (hp2 : p ≤ 1099511627776) :
    Calls Try.prog 66 #[.pointer (some ⟨g, 0, none⟩), .int .i64 n] w fun e w' => e = .returned (.tuple #[]) ∧ ((w.setCell ⟨g, 0, none⟩ (.slice a 0 0)).setCell ⟨g, 1, none⟩ (.int .i64 (p + n))).drew = w' := by
  have h0 := h.cell0
  have h1 := h.cell1
  have f0 := h.free 0
  have f1 := h.free 1
  have hc := h.cap
  have hx := h.max
  clear h
  go_enter Try.func66, Try.ntmps66
  go_wp2
  go_region
  all_goals
    go_wp2
    go_end0
    exact ⟨rfl, rfl⟩

/-- What is left when a reader has gone on by m bytes: it alone was written. -/
def Skipped (w : World) (g : Nat) (a : Option Addr) (xs : List Int) (m : Nat) (p : Int) (w' : World) : Prop :=
  ∃ a' n' c', Rr w' g a' n' c' (p + m) (xs.drop m) ∧ Kept (fun k => k = g) w w' ∧ blk a' = blk a

theorem skipped_of {w : World} {g : Nat} {a a' : Option Addr} {n c m : Nat} {p : Int} {xs : List Int} (h : Rr w g a n c p xs) (hm : m ≤ n) (hb : blk a' = blk a) (hr : Rd w a' (xs.drop m)) :
    Skipped w g a xs m p ((w.setCell ⟨g, 0, none⟩ (.slice a' (n - m) (n - m))).setCell ⟨g, 1, none⟩ (.int .i64 (p + m))).drew := by
  have e1 := heap_setCell_same w g 0 _ _ (.slice a' (n - m) (n - m)) h.at_
  have e2 := heap_setCell_same _ g 1 _ _ (.int .i64 (p + m)) e1
  have hk : Kept (fun k => k = g) w ((w.setCell ⟨g, 0, none⟩ (.slice a' (n - m) (n - m))).setCell ⟨g, 1, none⟩ (.int .i64 (p + m))).drew :=
    ((Kept.setCell (S := fun k => k = g) w _ _ rfl).trans (Kept.setCell (S := fun k => k = g) _ _ _ rfl) (fun _ _ e => e)).drew
  refine ⟨a', n - m, n - m, ⟨e2, by rw [List.length_drop, h.len], Nat.le_refl _, by have := h.max; omega, hr.keep hk (fun b hb' e => ?_), h.byt.drop m, by rw [hb]; exact h.ne⟩, hk, hb⟩
  subst e
  rw [hb] at hb'
  exact h.ne hb'

theorem skip_any (g : Nat) (a : Option Addr) (n c m : Nat) (p : Int) (xs : List Int) (w : World) (h : Rr w g a n c p xs) (hm : m ≤ n) (hp : 0 ≤ p) (hp2 : p ≤ 1099511627776) :
    Calls Try.prog 66 #[.pointer (some ⟨g, 0, none⟩), .int .i64 m] w fun e w' => e = .returned (.tuple #[]) ∧ Skipped w g a xs m p w' := by
  by_cases e : m = n
  · subst e
    refine (skip_all g a m c p xs w h hp hp2).mono ?_
    rintro e w' ⟨rfl, rfl⟩
    have := skipped_of (m := m) (a' := a) h (Nat.le_refl _) rfl (by rw [List.drop_of_length_le (by rw [h.len]; omega)]; exact Rd.empty _ _)
    rw [Nat.sub_self] at this
    exact ⟨rfl, this⟩
  · obtain ⟨b, o, rfl, _⟩ := h.rd (by intro e2; have := h.len; rw [e2] at this; simp at this; omega)
    refine (skip_lt g b o n c m p xs w h (by omega) hp hp2).mono ?_
    rintro e w' ⟨rfl, rfl⟩
    exact ⟨rfl, skipped_of (m := m) (a' := some ⟨b, o + m, none⟩) h hm rfl (h.rd.dropped (by rw [h.len]; exact hm))⟩

/- left out: not in this seat -/

theorem getE_cases (xs : List Int) (p k : Int) : getE xs p k = 0 ∨ getE xs p k = 2 ∨ getE xs p k = 10 := by
  unfold getE; split
  · split
    · exact .inl rfl
    · exact .inr (.inr rfl)
  · exact .inr (.inl rfl)
theorem getE_zero {xs : List Int} {p k : Int} (h : getE xs p k = 0) : 1 ≤ k ∧ k ≤ 8 ∧ 0 ≤ p ∧ k ≤ (xs.length : Int) - p := by
  unfold getE at h
  split at h
  · rename_i h1
    split at h
    · rename_i h2
      simp [szB] at h1
      exact ⟨h1.1.1, h1.1.2, h1.2, h2⟩
    · cases h
  · cases h

/- left out: not in this seat -/

/- left out: not in this seat -/
end Go.Proofs.Ythipnkaghddbhaa

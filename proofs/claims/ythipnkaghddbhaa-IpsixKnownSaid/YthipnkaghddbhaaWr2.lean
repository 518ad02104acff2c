/-
  What laying a number's bytes into a row of the call's own does to it; what a writer holds. Conditions: rows shorter than 2 to the 40, numbers that fit their Go types.
-/
import Derived.Test.YthipnkaghddbhaaWr
namespace Go.Proofs.Ythipnkaghddbhaa
open Go.RowKit

theorem splice_length {xs ys : List Int} {p : Nat} (h : p + ys.length ≤ xs.length) : (splice xs p ys).length = xs.length := by
  simp [splice]; omega
theorem splice_get {xs ys : List Int} {p i : Nat} (h : p + ys.length ≤ xs.length) : (splice xs p ys).getD i 0 = if p ≤ i ∧ i < p + ys.length then ys.getD (i - p) 0 else xs.getD i 0 := by
  simp only [splice, List.getD_eq_getElem?_getD, List.append_assoc]
  have hp : (xs.take p).length = p := by simp; omega
  by_cases h1 : i < p
  · rw [if_neg (by omega), List.getElem?_append_left (by omega), List.getElem?_take, if_pos h1]
  · rw [List.getElem?_append_right (by omega), hp]
    by_cases h2 : i < p + ys.length
    · rw [if_pos (by omega), List.getElem?_append_left (by omega)]
    · rw [if_neg (by omega), List.getElem?_append_right (by omega), List.getElem?_drop]
      congr 2
      omega
theorem splice_end (xs : List Int) (k : Nat) (ys : List Int) (h : ys.length = k) : splice (xs ++ zs k) xs.length ys = xs ++ ys := by
  unfold splice
  rw [List.take_left, List.drop_of_length_le (by simp [zs]; omega), List.append_nil]

theorem lay_own {w1 w3 : World} {base g m cap o k : Nat} {xs : List Int} {cur cur' : Array Value} {v : Int} (h : Own w1 base (some ⟨g, 0, none⟩) m cap xs) (hg : w1.heap[g]? = some (.cells cur 5 (0, 0)))
    (hl : LayAt cur cur' o k k v) (ho : o + k ≤ m) (hg3 : w3.heap[g]? = some (.cells cur' 5 (0, 0))) : Own w3 base (some ⟨g, 0, none⟩) m cap (splice xs o (be k v)) := by
  have hx := h.len
  have hle := h.le
  have hsp : o + (be k v).length ≤ xs.length := by rw [be_length]; omega
  rcases h.cases with ⟨e, _⟩ | ⟨g', cur0, e, hb, hg0, hnc, hcm, hcs, ht⟩
  · cases e
  simp only [Option.some.injEq, Addr.mk.injEq, and_true] at e
  subst e
  rw [hg] at hg0
  simp only [Option.some.injEq, Obj.cells.injEq, and_true] at hg0
  subst hg0
  refine ⟨by rw [splice_length hsp, hx], by rw [bv_length, splice_length hsp, hx]; omega, .inr ⟨g, cap, cur', rfl, hb, hg3, hnc, hcm, by rw [hl.1]; omega, ?_⟩⟩
  apply List.ext_getElem?
  intro i
  have ht' : (cur.toList.take m)[i]? = (bv xs)[i]? := by rw [ht]
  rw [List.getElem?_take] at ht' ⊢
  rw [Nat.mul_one]
  by_cases hi : i < m
  · rw [if_pos hi] at ht' ⊢
    rw [bv_get _ i (by rw [splice_length hsp]; omega), splice_get hsp]
    rw [bv_get _ i (by omega), Array.getElem?_toList] at ht'
    rw [Array.getElem?_toList, hl.2 i, be_length]
    by_cases hk : o ≤ i ∧ i < o + k
    · rw [if_pos (by omega), if_pos hk, be_get k v (i - o) (by omega)]
      have : k - 1 - (i - o) = o + k - 1 - i := by omega
      rw [this]
    · rw [if_neg (by omega), if_neg hk]
      exact ht'
  · rw [if_neg hi, List.getElem?_eq_none (by rw [bv_length, splice_length hsp]; omega)]

/-- A writer at the head of a block, with these bytes. -/
def Wr (w : World) (base g : Nat) (a : Option Addr) (n cap : Nat) (xs : List Int) : Prop :=
  w.heap[g]? = some (.cells #[.slice a n cap] 76 (0, 0)) ∧ Own w base a n cap xs

theorem Wr.ne {w : World} {base g : Nat} {a : Option Addr} {n cap : Nat} {xs : List Int} (h : Wr w base g a n cap xs) : blk a ≠ some g := by
  intro e
  rcases h.2.cases with ⟨rfl, _⟩ | ⟨g', cur, rfl, _, hg, _⟩
  · cases e
  · simp [blk] at e
    subst e
    rw [h.1] at hg
    simp at hg
theorem Wr.cell {w : World} {base g : Nat} {a : Option Addr} {n cap : Nat} {xs : List Int} (h : Wr w base g a n cap xs) : w.cell? ⟨g, 0, none⟩ = some (.slice a n cap) := cell_of_one h.1
theorem Wr.free {w : World} {base g : Nat} {a : Option Addr} {n cap : Nat} {xs : List Int} (h : Wr w base g a n cap xs) : w.frozen? ⟨g, 0, none⟩ = false := free_of_one h.1
theorem Wr.lt {w : World} {base g : Nat} {a : Option Addr} {n cap : Nat} {xs : List Int} (h : Wr w base g a n cap xs) : g < w.heap.size := (Array.getElem?_eq_some_iff.1 h.1).1
theorem Wr.keep {S : Nat → Prop} {w w' : World} {base g : Nat} {a : Option Addr} {n cap : Nat} {xs : List Int} (h : Wr w base g a n cap xs) (k : Kept S w w') (hg : ¬ S g) (hn : ∀ b, blk a = some b → ¬ S b) : Wr w' base g a n cap xs :=
  ⟨k.heap h.1 hg, h.2.keep k hn⟩

theorem Wr.new (w : World) (base : Nat) : Wr (w.alloc (.cells #[.slice none 0 0] 76)) base w.heap.size none 0 0 [] := ⟨Blk_new w _ _, Own.nil _ _⟩

/-- What a writer's call leaves: it has these bytes; what it wrote is its own. -/
def Wrote (w : World) (base g : Nat) (a : Option Addr) (xs : List Int) (w' : World) : Prop :=
  ∃ a' n' cap', Wr w' base g a' n' cap' xs ∧ Kept (fun k => k = g ∨ blk a = some k) w w' ∧ ∀ k, blk a' = some k → blk a = some k ∨ w.heap.size ≤ k
end Go.Proofs.Ythipnkaghddbhaa

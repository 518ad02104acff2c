/-
  The contract of PutChain of package ipsix. Conditions: a chain that lies in memory.
-/
import Derived.Test.YthipnkaghddbhaaSxFrag
namespace Go.Proofs.Ythipnkaghddbhaa
open Go.RowKit

/-- How a chain's first headers stand. -/
def chB (es : List Ex) (p : Int) : Nat → List Int
  | 0 => []
  | j + 1 => match es[j]? with
    | some x => chB es p j ++ [cmE es p (j + 1), scE x.k x.xs] ++ x.xs
    | none => chB es p j
theorem rtG_all (es : List Ex) (p : Int) : ∀ (l : Bool) (i : Nat), rtG l i es p = true → ∀ x ∈ es, rtE x.k x.xs = true := by
  induction es with
  | nil => intro l i _ x hx; cases hx
  | cons y es ih =>
    intro l i h x hx
    simp only [rtG, Bool.and_eq_true, Bool.not_eq_true', Bool.or_eq_false_iff, Bool.not_eq_false'] at h
    rcases List.mem_cons.1 hx with rfl | hx
    · exact h.1.2.1
    · exact ih _ _ h.2 x hx
theorem rtE_few {k : Int} {xs : List Int} (h : rtE k xs = true) : xs.length ≤ 2046 := by
  unfold rtE at h
  split at h
  · simp at h; omega
  · simp at h; omega
theorem chB_few {es : List Ex} {p : Int} (h : rtC es p = true) : ∀ j, (chB es p j).length ≤ j * 2048 := by
  unfold rtC at h
  rw [Bool.and_eq_true] at h
  intro j
  induction j with
  | zero => simp [chB]
  | succ j ih =>
    unfold chB
    split
    · rename_i x hx
      have := rtE_few (rtG_all es p _ _ h.2 x (List.mem_of_getElem? hx))
      have e : (j + 1) * 2048 = j * 2048 + 2048 := by rw [Nat.add_mul, Nat.one_mul]
      rw [List.length_append, List.length_append, e]
      show _ + 2 + _ ≤ _
      omega
    · have e : (j + 1) * 2048 = j * 2048 + 2048 := by rw [Nat.add_mul, Nat.one_mul]
      rw [e]
      exact Nat.le_trans ih (Nat.le_add_right _ _)
theorem chB_byt {w : World} {a : Option Addr} {n c : Nat} {es : List Ex} {p : Int} (h : Ch w a n c es) (p0 : 0 ≤ p) (p1 : p < 256) : ∀ j, Byt (chB es p j) := by
  intro j
  induction j with
  | zero => exact Byt.nil
  | succ j ih =>
    unfold chB
    split
    · rename_i x hx
      have hok := h.ok x (List.mem_of_getElem? hx)
      refine (ih.append ?_).append hok.byt
      intro y hy
      have hy' : y = cmE es p (j + 1) ∨ y = scE x.k x.xs := by simpa using hy
      rcases hy' with rfl | rfl
      · exact cmE_range h p0 p1 _
      · unfold scE; split <;> omega
    · exact ih
theorem sxComes_at (a : Option Addr) (n c : Nat) (es : List Ex) (p : Int) (i : Int) (k : Nat) (w : World) (h : Ch w a n c es) (hi : i = (k : Int)) : Calls Try.prog 38 #[.agg #[.slice a n c, .int .u8 p], .int .i64 i] w (Gives w (.int .u8 (cmE es p k))) := by
  subst hi; exact sxComes_any a n c es p k w h
theorem to_drew (w : World) : Below w.heap.size w w.drew := by
  have h := Below.refl w.heap.size w
  exact ⟨h.os, h.tape, h.output, h.size, h.block⟩
/-- Bytes are put behind; what is younger than the writer's row stays. -/
theorem PS.rawK {w1 wr w : World} {g : Nat} {xs : List Int} (h : PS w1 g wr xs) (hb : Below wr.heap.size wr w) (b : Option Addr) (m d : Nat) (ys : List Int) (hm : ys.length = m) (hy : Rd w b ys) (hl : xs.length + m ≤ 1000000000) :
    Calls Try.prog 33 #[.pointer (some ⟨g, 0, none⟩), .slice b m d] w fun e w' => e = .returned (.int .i64 0) ∧ PS w1 g w' (xs ++ ys) ∧ ∀ (q o : Nat) (v : Value), wr.heap.size ≤ q → w.cell? ⟨q, o, none⟩ = some v → w'.cell? ⟨q, o, none⟩ = some v := by
  obtain ⟨a, n, c, hw⟩ := h.wr
  have hk : Kept (fun _ => False) wr w := Kept.of_below hb (fun i hi hi' => by omega)
  have hw' : Wr w w1.heap.size g a n c xs := hw.keep hk id (fun _ _ => id)
  have hg := hw.lt
  have hlt : ∀ k, blk a = some k → k < wr.heap.size := fun k e => (hw.2.blk_ge k e).2
  refine (wRaw_any _ _ _ _ _ _ b m d ys _ hw' hm hy (by have := hw'.2.len; omega) (h.below hb).size).mono ?_
  rintro e w' ⟨rfl, hr⟩
  refine ⟨rfl, (h.below hb).next hw' hr, fun q o v hq hc => ?_⟩
  obtain ⟨_, _, _, _, hkp, _⟩ := hr
  rw [← hc]
  refine World.cell?_of_block (hkp.block q (World.block_lt_of_cell? w ⟨q, o, none⟩ hc) ?_)
  rintro (e | e)
  · omega
  · have := hlt q e; omega
end Go.Proofs.Ythipnkaghddbhaa

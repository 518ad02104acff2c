/-
  Rows of the call's own of any element type, and what append of one element does to them. Conditions: the lengths are below 2 to the 40.
-/
import Derived.Test.YtfkangknnaohaaaFew
namespace Go.Proofs.Ytfkangknnaohaaa
open Go.ChangeShapes Go.WideShapes Go.ChangeAt Go.RowKit

section
variable {w w' : World} {base e size : Nat} {a : Option Addr} {n cap : Nat} {vs : List Value}
end

theorem flat_get (ts : List ActV) : ∀ (i : Nat) (hi : i < ts.length) (j : Nat) (u : Value), (ts[i]'hi).cells[j]? = some u → (ts.flatMap ActV.cells)[i * 5 + j]? = some u := by
  induction ts with
  | nil => intro i hi; simp at hi
  | cons t ts ih =>
    intro i hi j u hu
    have h5 : t.cells.length = 5 := rfl
    rw [List.flatMap_cons]
    cases i with
    | zero =>
      have hj : j < 5 := by have := (List.getElem?_eq_some_iff.1 hu).1; simpa [ActV.cells] using this
      rw [List.getElem?_append_left (by omega)]
      simpa using hu
    | succ i =>
      rw [List.getElem?_append_right (by omega), h5]
      have e : (i + 1) * 5 + j - 5 = i * 5 + j := by omega
      rw [e]
      exact ih i (by simpa using hi) j u (by simpa using hu)
theorem OwnG.acts {w : World} {base : Nat} {a : Option Addr} {n cap : Nat} {ts : List ActV} (h : OwnG w base 30 5 a n cap (ts.flatMap ActV.cells)) : ActsRd w a ts := by
  intro hne
  obtain ⟨g, rfl, hc⟩ := h.cell (by
    intro e
    cases ts with
    | nil => exact hne rfl
    | cons t ts => simp [ActV.cells] at e)
  refine ⟨g, 0, rfl, fun i hi j u hu => ?_⟩
  rw [Nat.add_assoc]
  exact hc _ u (flat_get ts i hi j u hu)
theorem flat_length (ts : List ActV) : (ts.flatMap ActV.cells).length = ts.length * 5 := by
  induction ts with
  | nil => rfl
  | cons t ts ih => rw [List.flatMap_cons, List.length_append, ih]; simp [ActV.cells]; omega
theorem OwnG.alen {w : World} {base : Nat} {a : Option Addr} {n cap : Nat} {ts : List ActV} (h : OwnG w base 30 5 a n cap (ts.flatMap ActV.cells)) : ts.length = n := by
  have := h.1
  rw [flat_length] at this
  omega

theorem act_info : (Try.prog.info? 30).map (fun i => (i.zero, i.size, i.bytes)) = some (some (.agg #[.int .i64 0, .int .i64 0, .int .u64 0, .int .i64 0, .slice none 0 0]), 5, 56) := by kernel_rfl
end Go.Proofs.Ytfkangknnaohaaa

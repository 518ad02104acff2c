/-
  What BucketKnown leans on: its row of numbers, the rows of acts that it grows. Conditions: those that the theorems name.
-/
import Derived.Test.YtngjlippfifkiaaBkPlays
import Derived.Test.YtngjlippfifkiaaBkBounds
namespace Go.Proofs.Ytngjlippfifkiaa
open Go.RowKit

/-- The numbers about the bounds. -/
def nine : List Int := [0, 1, 2, 3, 10, 4294967296, 9223372036854775808, 18446744073709551614, 18446744073709551615]
theorem nine_fit (j : Nat) : 0 ≤ nine.getD j 0 ∧ nine.getD j 0 ≤ 18446744073709551615 := by
  match j with
  | 0 | 1 | 2 | 3 | 4 | 5 | 6 | 7 | 8 => decide
  | n + 9 => simp [nine]
/-- They lie there. -/
def Lr (w : World) (g : Nat) : Prop := w.heap[g]? = some (.cells (nine.map (Value.int .u64)).toArray 22 (0, 0))
theorem Lr.cell {w : World} {g : Nat} (h : Lr w g) {j : Nat} (hj : j < 9) : w.cell? ⟨g, j, none⟩ = some (.int .u64 (nine.getD j 0)) := by
  rw [cell_of_row w g j _ _ (0, 0) h]
  match j, hj with
  | 0, _ | 1, _ | 2, _ | 3, _ | 4, _ | 5, _ | 6, _ | 7, _ | 8, _ => rfl
theorem Lr.keep {S : Nat → Prop} {w w' : World} {g : Nat} (h : Lr w g) (k : Kept S w w') (hs : ¬ S g) : Lr w' g := k.heap h hs
theorem Lr.below {w w' : World} {g : Nat} (h : Lr w g) (k : Below w.heap.size w w') : Lr w' g := h.keep (S := fun _ => False) (Kept.of_below k (fun i hi hi' => by omega)) id
structure Kv (w wr : World) (gl : Nat) : Prop where
  lr : Lr wr gl
  below : Below w.heap.size w wr
  og : w.heap.size ≤ gl
theorem Kv.past {w wr w' : World} {gl : Nat} (h : Kv w wr gl) (k : Below wr.heap.size wr w') : Kv w w' gl := ⟨h.lr.below k, h.below.trans (k.mono h.below.size), h.og⟩
/-- The acts so far. -/
structure Ka (w wr : World) (gl : Nat) (a : Option Addr) (n c : Nat) (l : List Ac) : Prop where
  kv : Kv w wr gl
  own : OwnG wr w.heap.size 34 3 a n c (l.flatMap Ac.cs)
  ok : ∀ x ∈ l, x.ok
theorem Ka.past {w wr w' : World} {gl : Nat} {a : Option Addr} {n c : Nat} {l : List Ac} (h : Ka w wr gl a n c l) (k : Below wr.heap.size wr w') : Ka w w' gl a n c l := ⟨h.kv.past k, h.own.below k, h.ok⟩
theorem flat_acts (l : List Ac) : (l.flatMap Ac.cs).length = l.length * 3 := by
  induction l with
  | nil => rfl
  | cons x l ih => rw [List.flatMap_cons, List.length_append, ih]; simp [Ac.cs]; omega
theorem flat_act (l : List Ac) : ∀ (i : Nat) (x : Ac), l[i]? = some x → ∀ (j : Nat) (u : Value), x.cs[j]? = some u → (l.flatMap Ac.cs)[i * 3 + j]? = some u := by
  induction l with
  | nil => intro i x h; simp at h
  | cons y l ih =>
    intro i x h j u hu
    have h3 : y.cs.length = 3 := rfl
    rw [List.flatMap_cons]
    cases i with
    | zero =>
      simp at h
      subst h
      have hj : j < 3 := by have := (List.getElem?_eq_some_iff.1 hu).1; simpa [Ac.cs] using this
      rw [List.getElem?_append_left (by omega)]
      simpa using hu
    | succ i =>
      rw [List.getElem?_append_right (by omega), h3]
      have e : (i + 1) * 3 + j - 3 = i * 3 + j := by omega
      rw [e]
      exact ih i x (by simpa using h) j u hu
theorem Ka.len {w wr : World} {gl : Nat} {a : Option Addr} {n c : Nat} {l : List Ac} (h : Ka w wr gl a n c l) : l.length = n := by
  have h1 := h.own.1
  rw [flat_acts] at h1
  omega
theorem Ka.acr {w wr : World} {gl : Nat} {a : Option Addr} {n c : Nat} {l : List Ac} (h : Ka w wr gl a n c l) : Acr wr a n l := by
  refine ⟨h.len, h.ok, fun hne => ?_⟩
  obtain ⟨g, rfl, hc⟩ := h.own.cell (by
    intro e
    cases l with
    | nil => exact hne rfl
    | cons t ts => simp [Ac.cs] at e)
  refine ⟨g, 0, rfl, fun i x hx j u hu => ?_⟩
  rw [Nat.add_assoc]
  exact hc _ u (flat_act l i x hx j u hu)
theorem act_info : (Try.prog.info? 34).map (fun i => (i.zero, i.size, i.bytes)) = some (some (.agg #[.int .i64 0, .int .u64 0, .int .u64 0]), 3, 24) := by kernel_rfl
theorem tAct_ne : (34 : TypeId) ≠ 22 := by decide
theorem OwnG.offL {w : World} {base size : Nat} {a : Option Addr} {n cap : Nat} {vs : List Value} (h : OwnG w base 34 size a n cap vs) {g : Nat} (hb : Lr w g) : ∀ k, blk a = some k → ¬ k = g := by
  rintro k hk rfl
  rcases h.cases with ⟨rfl, _⟩ | ⟨g, cur, rfl, _, hg, _⟩
  · cases hk
  · simp [blk] at hk
    subst hk
    unfold Lr at hb
    rw [hb] at hg
    simp at hg
/-- An act is appended. -/
theorem Ka.grow {w wr : World} {gl : Nat} {a : Option Addr} {n c : Nat} {l : List Ac} (h : Ka w wr gl a n c l) (x : Ac) (hx : x.ok) (hn : n ≤ 12) :
    ∃ g c' w', (Builtin.append_ #[23, 23] 23 #[.slice a n c, .slice (some ⟨wr.heap.size, 0, none⟩) 1 1]).run Try.prog (wr.alloc (.cells #[.int .i64 x.d, .int .u64 x.t, .int .u64 x.n] 34)) = .ok (.slice (some ⟨g, 0, none⟩) (n + 1) c') w' ∧
      Ka w w' gl (some ⟨g, 0, none⟩) (n + 1) c' (l ++ [x]) := by
  obtain ⟨g, c', w1, hr1, ho1, hk1, hx1⟩ := run_append_one wr w.heap.size 23 23 34 _ 3 24 act_info Try.underlying23 rfl (by omega) h.own x.cs rfl (by
    intro u hu
    simp [Ac.cs] at hu
    rcases hu with rfl | rfl | rfl <;> rfl) h.kv.below.size (by omega) (by omega)
  refine ⟨g, c', w1, hr1, ⟨h.kv.lr.keep hk1 (fun e => h.own.offL h.kv.lr gl e rfl), h.kv.below.trans (hk1.below h.kv.below.size (fun k e => (h.own.blk_ge k e).1)), h.kv.og⟩, ?_, fun y hy => ?_⟩
  · rw [List.flatMap_append]
    simpa using ho1
  · rcases List.mem_append.1 hy with hy | hy
    · exact h.ok y hy
    · simp at hy; rw [hy]; exact hx
/-- An index out of a number. -/
theorem idx_of (k D : Nat) : ∃ q j : Nat, (k : Int).tdiv (D : Int) = (q : Int) ∧ (q : Int).tmod 9 = (j : Int) ∧ j < 9 ∧ q ≤ k :=
  ⟨k / D, k / D % 9, rfl, rfl, Nat.mod_lt _ (by decide), Nat.div_le_self _ _⟩
theorem idx_one (k : Nat) : ∃ j : Nat, (k : Int).tmod 9 = (j : Int) ∧ j < 9 := ⟨k % 9, rfl, Nat.mod_lt _ (by decide)⟩
end Go.Proofs.Ytngjlippfifkiaa

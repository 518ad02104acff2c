/-
  What FifoKnown leans on: the rows of acts that it grows. Conditions: those that the theorems name.
-/
import Derived.Test.YtjjidjemkddebaaFiPl
import Derived.Test.YtjjidjemkddebaaFiOrd
namespace Go.Proofs.Ytjjidjemkddebaa
open Go.RowKit

/-- An item whose data are the head of a literal of three. -/
structure Dk (w : World) (base : Nat) (x : Pi) : Prop where
  row : ∃ b z, x.a = some ⟨b, 0, none⟩ ∧ base ≤ b ∧ 0 ≤ z ∧ z ≤ 255 ∧ w.heap[b]? = some (.cells #[.int .u8 z, .int .u8 2, .int .u8 3] 5 (0, 0)) ∧ x.d = ([z, 2, 3] : List Int).take x.n
  n2 : x.n ≤ 2
  c3 : x.c = 3
  no0 : 0 ≤ x.no
  no1 : x.no ≤ 18446744073709551615
  s0 : -9223372036854775808 ≤ x.sz
  s1 : x.sz ≤ 9223372036854775807
theorem Dk.keep {S : Nat → Prop} {w w' : World} {base : Nat} {x : Pi} (h : Dk w base x) (k : Kept S w w') (hS : ∀ b cur, w.heap[b]? = some (.cells cur 5 (0, 0)) → ¬ S b) : Dk w' base x := by
  obtain ⟨⟨b, z, e, hb, z0, z1, hr, hd⟩, r⟩ := h
  exact ⟨⟨b, z, e, hb, z0, z1, k.heap hr (hS b _ hr), hd⟩, r, by assumption, by assumption, by assumption, by assumption, by assumption⟩
theorem Dk.below {w w' : World} {base : Nat} {x : Pi} (h : Dk w base x) (k : Below w.heap.size w w') : Dk w' base x := h.keep (S := fun _ => False) (Kept.of_below k (fun i hi hi' => by omega)) (fun _ _ _ => id)
theorem Dk.ar {w : World} {base : Nat} {x : Pi} (h : Dk w base x) : x.ar w := by
  obtain ⟨⟨b, z, e, hb, z0, z1, hr, hd⟩, hn, hc, a0, a1, a2, a3⟩ := h
  have hl : x.d.length = x.n := by rw [hd]; simp; omega
  refine ⟨a0, a1, a2, a3, hl, by omega, fun _ => ⟨b, 0, e, fun i hi => ?_⟩, fun y hy => ?_⟩
  · rw [hl] at hi
    rw [Nat.zero_add, cell_of_row w b i _ _ (0, 0) hr, hd, List.getD_eq_getElem?_getD, List.getElem?_take, if_pos hi]
    have : i = 0 ∨ i = 1 := by omega
    rcases this with rfl | rfl <;> rfl
  · rw [hd] at hy
    have := List.mem_of_mem_take hy
    simp at this
    omega
/-- The acts so far. -/
structure Ka (w wr : World) (a : Option Addr) (n c : Nat) (l : List Ac) : Prop where
  own : OwnG wr w.heap.size 39 4 a n c (l.flatMap Ac.cs)
  ok : ∀ y ∈ l, (-9223372036854775808 ≤ y.d ∧ y.d ≤ 9223372036854775807) ∧ Dk wr w.heap.size y.x
  below : Below w.heap.size w wr
section
variable {w wr w' : World} {a : Option Addr} {n c : Nat} {l : List Ac}
theorem Ka.past (h : Ka w wr a n c l) (k : Below wr.heap.size wr w') : Ka w w' a n c l :=
  ⟨h.own.below k, fun y hy => ⟨(h.ok y hy).1, (h.ok y hy).2.below k⟩, h.below.trans (k.mono h.below.size)⟩
theorem Ka.len (h : Ka w wr a n c l) : l.length = n := by
  have h1 := h.own.1
  rw [flat_len Ac.cs 4 l (fun _ _ => rfl)] at h1
  omega
theorem Ka.acr (h : Ka w wr a n c l) : Acr wr a n l := by
  refine ⟨h.len, fun y hy => ⟨(h.ok y hy).1.1, (h.ok y hy).1.2, (h.ok y hy).2.ar⟩, fun hne => ?_⟩
  obtain ⟨g, rfl, hc⟩ := h.own.cell (by
    intro e
    cases l with
    | nil => exact hne rfl
    | cons t ts => simp [Ac.cs] at e)
  refine ⟨g, 0, rfl, fun i y hy j u hu => ?_⟩
  rw [Nat.add_assoc]
  refine hc _ u ?_
  rw [flat_at Ac.cs 4 l (fun _ _ => rfl) i y hy j (by have := (List.getElem?_eq_some_iff.1 hu).1; simpa [Ac.cs] using this)]
  exact hu
theorem Acr.take (h : Acr w a n l) {k : Nat} (hk : k ≤ n) : Acr w a k (l.take k) := by
  refine ⟨by rw [List.length_take, h.len]; omega, fun y hy => h.ok y (List.mem_of_mem_take hy), fun hne => ?_⟩
  obtain ⟨b, o, e, hc⟩ := h.cells (fun e => hne (by rw [e]; simp))
  refine ⟨b, o, e, fun i y hy => hc i y ?_⟩
  rw [List.getElem?_take] at hy
  split at hy
  · exact hy
  · cases hy
theorem act11_info : (Try.prog.info? 39).map (fun i => (i.zero, i.size, i.bytes)) = some (some (.agg #[.int .i64 0, .int .u64 0, .int .i64 0, .slice none 0 0]), 4, 48) := by kernel_rfl
/-- An act is appended. -/
theorem Ka.grow (h : Ka w wr a n c l) (y : Ac) (hy : (-9223372036854775808 ≤ y.d ∧ y.d ≤ 9223372036854775807) ∧ Dk wr w.heap.size y.x) (hn : n ≤ 60) :
    ∃ g c' w', (Builtin.append_ #[22, 22] 22 #[.slice a n c, .slice (some ⟨wr.heap.size, 0, none⟩) 1 1]).run Try.prog (wr.alloc (.cells #[.int .i64 y.d, .int .u64 y.x.no, .int .i64 y.x.sz, .slice y.x.a y.x.n y.x.c] 39)) = .ok (.slice (some ⟨g, 0, none⟩) (n + 1) c') w' ∧
      Ka w w' (some ⟨g, 0, none⟩) (n + 1) c' (l ++ [y]) := by
  obtain ⟨g, c', w1, hr1, ho1, hk1, hx1⟩ := run_append_one wr w.heap.size 22 22 39 _ 4 48 act11_info Try.underlying22 rfl (by omega) h.own y.cs rfl (by
    intro u hu
    simp [Ac.cs] at hu
    rcases hu with rfl | rfl | rfl | rfl <;> rfl) h.below.size (by omega) (by omega)
  have hkind : ∀ b cur, wr.heap[b]? = some (.cells cur 5 (0, 0)) → ¬ blk a = some b := fun b cur hb e => by
    rcases h.own.cases with ⟨e0, _⟩ | ⟨g', cur', e0, _, hg, _⟩
    · rw [e0] at e
      cases e
    · rw [e0] at e
      simp [blk] at e
      rw [e, hb] at hg
      simp at hg
  refine ⟨g, c', w1, hr1, ?_, fun z hz => ?_, h.below.trans (hk1.below h.below.size (fun k e => (h.own.blk_ge k e).1))⟩
  · rw [List.flatMap_append]
    simpa using ho1
  · rcases List.mem_append.1 hz with hz | hz
    · exact ⟨(h.ok z hz).1, (h.ok z hz).2.keep hk1 hkind⟩
    · simp at hz
      rw [hz]
      exact ⟨hy.1, hy.2.keep hk1 hkind⟩
end
/-- The acts about the bounds. -/
def bigL : List Ac := [⟨0, ⟨0, 2305843009213693952, none, 0, 0, []⟩⟩, ⟨0, ⟨0, 2305843009213693952, none, 0, 0, []⟩⟩, ⟨6, ⟨0, 4611686018427387904, none, 0, 0, []⟩⟩, ⟨0, ⟨0, -9223372036854775808, none, 0, 0, []⟩⟩]
theorem big_acr {w : World} {g : Nat} (h : w.heap[g]? = some (.cells (bigL.flatMap Ac.cs).toArray 39 (0, 0))) : Acr w (some ⟨g, 0, none⟩) 4 bigL := by
  refine ⟨rfl, fun y hy => ?_, fun _ => ⟨g, 0, rfl, fun i y hy j u hu => ?_⟩⟩
  · simp [bigL] at hy
    rcases hy with rfl | rfl | rfl <;> exact ⟨by decide, by decide, by decide, by decide, by decide, by decide, rfl, Nat.le_refl _, Rd.empty _ _, Byt.nil⟩
  · have hj : j < 4 := by have := (List.getElem?_eq_some_iff.1 hu).1; simpa [Ac.cs] using this
    rw [Nat.zero_add, cell_of_row w g (i * 4 + j) _ _ (0, 0) h, List.getElem?_toArray, flat_at Ac.cs 4 bigL (fun _ _ => rfl) i y hy j hj]
    exact hu
theorem Acr.none0 (w : World) : Acr w none 0 [] := ⟨rfl, (fun _ h => by cases h), fun h => absurd rfl h⟩
end Go.Proofs.Ytjjidjemkddebaa

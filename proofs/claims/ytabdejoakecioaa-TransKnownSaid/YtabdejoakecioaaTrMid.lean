/-
  Structs that lie in memory: how they go back, are loaded, stored field by field, and built. Conditions: those that each theorem names.
-/
import Derived.Test.YtabdejoakecioaaTrW
namespace Go.Proofs.Ytabdejoakecioaa
open Go.RowKit

theorem ret_mid2 {P : Program} {fn : Func} {p q : Tmp} {ty : TypeId} (h : fn.results = #[.cell p ty, .tmp q]) (tmps : Array Value) (w : World) (b off : Nat) (cs : List Value) (d : TypeDesc) (hp : tmps.getD p undef = .pointer (some ⟨b, off, none⟩)) (hc : w.rangeAt b off cs)
    (hu : P.underlying ty = some d) (hd : d.isRow = true) (hi : (P.info? ty).map (·.size) = some cs.length) (u : Value) (hq : tmps.getD q undef = u) : (results fn tmps).run P w = .ok (.tuple #[.agg cs.toArray, u]) w := by
  have hp' : tmps[p]?.getD undef = .pointer (some ⟨b, off, none⟩) := by simpa using hp
  have hq' : tmps[q]?.getD undef = u := by simpa using hq
  simp [results, h, hp', hq', asAddr, run_loadVar_mid w b off ty cs d hc hu hd hi]
theorem row_there {w : World} {b : Nat} {cs : Array Value} {t : TypeId} (h : w.heap[b]? = some (.cells cs t (0, 0))) (n : Nat) (hn : cs.size = n) : w.there b 0 n := fun j hj => by
  rw [cell_of_row _ b (0 + j) _ t (0, 0) h, frozen_of_row _ b (0 + j) cs t h]
  simp [hn, hj]
theorem Kept.setCells {w : World} (b : Nat) (vs : List Value) : ∀ (off : Nat) (w0 : World), Kept (fun k => k = b) w0 w → Kept (fun k => k = b) w0 (w.setCells b off vs) := by
  induction vs generalizing w with
  | nil => intro off w0 h; exact h
  | cons v r ih => intro off w0 h; rw [World.setCells]; exact ih (off + 1) w0 (h.trans (Kept.setCell (S := fun k => k = b) _ _ _ rfl) (fun _ _ e => e))
theorem ret_mid {P : Program} {fn : Func} {p : Tmp} {ty : TypeId} (h : fn.results = #[.cell p ty]) (tmps : Array Value) (w : World) (b off : Nat) (cs : List Value) (d : TypeDesc) (hp : tmps.getD p undef = .pointer (some ⟨b, off, none⟩)) (hc : w.rangeAt b off cs)
    (hu : P.underlying ty = some d) (hd : d.isRow = true) (hi : (P.info? ty).map (·.size) = some cs.length) : (results fn tmps).run P w = .ok (.agg cs.toArray) w := by
  have hp' : tmps[p]?.getD undef = .pointer (some ⟨b, off, none⟩) := by simpa using hp
  simp [results, h, hp', asAddr, run_loadVar_mid w b off ty cs d hc hu hd hi]
theorem yields_build {P : Program} {ops : Array Oper} {S : World → Prop} {op : Oper} {a : Act} (hw : Region.wanted op (yielded ops a.tmps) = true) (t : TypeId) (parts : Array (Nat × Operand)) (ho : op.op = .build t parts) {cells : Array Value}
    (hc : P.built t (parts.toList.map fun x => (x.1, a.eval x.2)) = some cells) : YieldsIf P ops S op (.agg cells) a :=
  .inl ⟨hw, fun w _ => by
    have hc' : P.built t (parts.map fun (i, x) => (i, a.eval x)).toList = some cells := by rw [← hc]; simp
    unfold execOp
    simp only [ho, Sem.run_bind, run_build w t _ cells hc', Result.andThen_ok]
    rfl⟩
theorem cell_other {w : World} {p q : Addr} {v u : Value} (h : p ≠ q) (hc : w.cell? q = some u) : (w.setCell p v).cell? q = some u := by rw [World.cell?_setCell_other (h := h)]; exact hc
section
variable {ops : Array Oper} {rest : List Oper} {o : Oper} {a : Act} {w : World} {Q : Exit → Act → World → Prop}
/-- Cells are loaded, as one thing. -/
theorem ldC (t : TypeId) (x : Operand) (ho : o.op = .load t x) (hgd : o.guard = none) (b : Nat) (hx : a.eval x = .pointer (some ⟨b, 0, none⟩)) (cs : List Value) (hc : w.rangeAt b 0 cs) (d : TypeDesc) (hu : Try.prog.underlying t = some d) (hd : d.isRow = true)
    (hi : (Try.prog.info? t).map (·.size) = some cs.length) (k : wpList Try.prog ops Q rest (a.put o.dst (.agg cs.toArray)) w) : wpList Try.prog ops Q (o :: rest) a w :=
  wpList_load_mid hgd t x ho b 0 hx cs d hc hu hd hi k
end
theorem range_one {w : World} {b j : Nat} {cs : List Value} (h : w.rangeAt b 0 cs) (ht : w.there b 0 cs.length) (hj : j < cs.length) (v : Value) : (w.setCell ⟨b, j, none⟩ v).rangeAt b 0 (cs.set j v) := fun i u hu => by
  have hi : i < cs.length := by have := (List.getElem?_eq_some_iff.1 hu).1; simpa using this
  by_cases e : j = i
  · subst e
    rw [List.getElem?_set_self hj] at hu
    obtain ⟨t1, _⟩ := ht j hj
    have h1 := World.cell?_setCell_same' w ⟨b, 0 + j, none⟩ v t1
    rw [← Option.some.inj hu, Nat.zero_add] at *
    exact h1
  · rw [List.getElem?_set_ne e] at hu
    exact (World.cell?_setCell_other w ⟨b, j, none⟩ ⟨b, 0 + i, none⟩ v (by intro h2; simp at h2)).trans (h i u hu)
theorem there_one {w : World} {b n : Nat} (h : w.there b 0 n) (j : Nat) (v : Value) : (w.setCell ⟨b, j, none⟩ v).there b 0 n := World.there_setCells h b j [v]
theorem put_new (w : World) (cs zs : List Value) (t : TypeId) (hl : zs.length = cs.length) :
    Below w.heap.size w ((w.alloc (.cells zs.toArray t)).setCells w.heap.size 0 cs) ∧ ((w.alloc (.cells zs.toArray t)).setCells w.heap.size 0 cs).rangeAt w.heap.size 0 cs ∧ (w.alloc (.cells zs.toArray t)).there w.heap.size 0 cs.length := by
  have ht : (w.alloc (.cells zs.toArray t)).there w.heap.size 0 cs.length := there_new _ _ _ _ (by simpa using hl) _ rfl
  exact ⟨Below.setCells ((Below.refl _ _).alloc (Nat.le_refl _) _) _ (Nat.le_refl _) _ _, World.rangeAt_setCells_same _ _ _ _ ht, ht⟩

theorem Own.below3 {w w' : World} {base : Nat} {a : Option Addr} {n cap : Nat} {xs : List Int} (h : Own w base a n cap xs) (hb : Below w.heap.size w w') : Own w' base a n cap xs :=
  h.keep (S := fun _ => False) (Kept.of_below hb (fun i hi hi' => by omega)) (fun _ _ => id)
theorem Own.below {w w' : World} {base : Nat} {a : Option Addr} {n cap : Nat} {xs : List Int} (h : Own w base a n cap xs) (hb : Below w.heap.size w w') : Own w' base a n cap xs := h.below3 hb
end Go.Proofs.Ytabdejoakecioaa

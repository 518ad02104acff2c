/-
  What All of a queue holds between two rounds of its range over items. Conditions: those that the theorems name.
-/
import Derived.Test.YtpigpeehhadkjaaFiHead
namespace Go.Proofs.Ytpigpeehhadkjaa
open Go.RowKit Go.Shelf
attribute [local go_sem] Oper.semAt_some

theorem wpIn_append_run {F : Fence} {n : Nat} {P : Program} {w : World} {o : Oper} {a : Act} {K : Act → World → Prop} {Q : Exit → Act → World → Prop} (s x : Operand) (t tn : TypeId)
    (ho : o.op = .call { callee := .builtin .append, args := #[s, x], argTypes := #[t, tn] }) (vs vx : Value) (hs : a.eval s = vs) (hx : a.eval x = vx)
    (v' : Value) (w' : World) (hr : (Builtin.append_ #[t, tn] o.type #[vs, vx]).run P w = .ok v' w') (h : K (a.put o.dst v') w') : o.wpIn F n P a w K Q := by
  unfold Oper.wpIn
  refine ⟨?_, ?_⟩
  · simp [Oper.about, ho, resolve, Target.leads, Sem.run_pure]
  · rw [Oper.semAt_plain F _ _ (by rw [ho]; intro c hc; cases hc)]
    simp only [execOp, ho, resolve, invoke, builtin, Sem.run_bind, Sem.run_pure, Result.andThen_ok, List.map_toArray, List.map_cons, List.map_nil, hs, hx, hr]
    exact h

/-- A row of items of the call's own, their data in rows of the call's own, apart from one another. -/
structure Cps (w : World) (base : Nat) (v : Option Addr) (n cap : Nat) (ys : List Pi) : Prop where
  row : OwnG w base 40 3 v n cap (rws ys)
  len : ys.length = n
  data : ∀ y ∈ ys, Own w base y.a y.n y.c y.d
  apart : ys.Pairwise (fun o p => ∀ k, blk o.a = some k → blk p.a ≠ some k)
theorem Cps.keep {S : Nat → Prop} {w w' : World} {base : Nat} {v : Option Addr} {n cap : Nat} {ys : List Pi} (h : Cps w base v n cap ys) (k : Kept S w w') (hs : ∀ i, S i → i < base) : Cps w' base v n cap ys :=
  ⟨h.row.keep k (fun b hb hS => by have := (h.row.blk_ge b hb).1; have := hs b hS; omega), h.len, fun o ho => (h.data o ho).keep k (fun b hb hS => by have := ((h.data o ho).blk_ge b hb).1; have := hs b hS; omega), h.apart⟩
theorem Cps.nil (w : World) (base : Nat) : Cps w base none 0 0 [] := ⟨OwnG.nil _ _ _ _, rfl, fun _ h => (List.not_mem_nil h).elim, List.Pairwise.nil⟩
theorem Cps.mono {w : World} {base base' : Nat} {v : Option Addr} {n cap : Nat} {ys : List Pi} (h : Cps w base v n cap ys) (hb : base' ≤ base) : Cps w base' v n cap ys :=
  ⟨⟨h.row.1, by
    rcases h.row.2 with h0 | ⟨g, cap', cur, he, hbb, r⟩
    · exact .inl h0
    · exact .inr ⟨g, cap', cur, he, by omega, r⟩⟩, h.len, fun o ho => (h.data o ho).mono hb, h.apart⟩
/-- Between two rounds: the variable l, the loop's record, the block of deferred calls; all that was there is as it was. -/
structure JA (w : World) (lp : Loop) (ys : List Pi) (W : World) : Prop where
  box : ∃ v n cap, W.heap[w.heap.size]? = some (.cells #[.slice v n cap] 49 (0, 0)) ∧ Cps W (w.heap.size + 3) v n cap ys
  dfr : W.heap[w.heap.size + 1]? = some (.deferred (some []))
  rec_ : W.heap[w.heap.size + 2]? = some (.loop lp)
  below : Below w.heap.size w W
theorem JA.size {w : World} {lp : Loop} {ys : List Pi} {W : World} (h : JA w lp ys W) : w.heap.size + 3 ≤ W.heap.size := by
  have := (Array.getElem?_eq_some_iff.1 h.rec_).1; omega
theorem JA.step {w : World} {lp : Loop} {ys : List Pi} {W W' : World} (h : JA w lp ys W) (hb : Below W.heap.size W W') : JA w lp ys W' := by
  obtain ⟨v, n, cap, h1, h2⟩ := h.box
  have hs := h.size
  have hk : Kept (fun _ => False) W W' := Kept.of_below hb (fun i hi hi' => by omega)
  exact ⟨⟨v, n, cap, (hb.block _ (by omega)).trans h1, h2.keep hk (fun _ e => e.elim)⟩, (hb.block _ (by omega)).trans h.dfr, (hb.block _ (by omega)).trans h.rec_, h.below.trans (hb.mono (by omega))⟩
theorem JA.put {w : World} {lp : Loop} {ys : List Pi} {W : World} (h : JA w lp ys W) (lp' : Loop) : JA w lp' ys (W.putObj (w.heap.size + 2) (.loop lp')) := by
  obtain ⟨v, n, cap, h1, h2⟩ := h.box
  have hs := h.size
  exact ⟨⟨v, n, cap, (World.putObj_heap_other (by omega)).trans h1, h2.keep (Kept.putObj _ _ _) (fun i e => by omega)⟩, (World.putObj_heap_other (by omega)).trans h.dfr, World.putObj_heap_same (by omega),
    h.below.trans ((Kept.putObj W _ _).below h.below.size (fun k e => by omega))⟩
theorem JA.next {w : World} {lp : Loop} {ys : List Pi} {W : World} (h : JA w lp ys W) (x : Pi) {B : Nat} (hx : Own W B x.a x.n x.c x.d) (hB : w.heap.size + 3 ≤ B) (hfr : ∀ o ∈ ys, ∀ k, blk o.a = some k → k < B) {v : Option Addr} {n cap : Nat}
    (hv : W.heap[w.heap.size]? = some (.cells #[.slice v n cap] 49 (0, 0))) (hrow : Cps W (w.heap.size + 3) v n cap ys) {g' cap' : Nat} {w1 : World}
    (hown : OwnG w1 (w.heap.size + 3) 40 3 (some ⟨g', 0, none⟩) (n + 1) cap' (rws ys ++ x.cs)) (hk : Kept (fun k => blk v = some k) W w1) :
    JA w lp (ys ++ [x]) (w1.setCell ⟨w.heap.size, 0, none⟩ (.slice (some ⟨g', 0, none⟩) (n + 1) cap')) ∧ w1.heap[w.heap.size]? = some (.cells #[.slice v n cap] 49 (0, 0)) := by
  have hs := h.size
  have hvb : ∀ k, blk v = some k → w.heap.size + 3 ≤ k := fun k e => (hrow.row.blk_ge k e).1
  have hbl : ∀ i, i < w.heap.size + 3 → w1.heap[i]? = W.heap[i]? := fun i hi => hk.block i (by omega) (fun e => by have := hvb i e; omega)
  have hbl2 : ∀ (i : Nat) (u : Value), i < w.heap.size + 3 → i ≠ w.heap.size → (w1.setCell ⟨w.heap.size, 0, none⟩ u).heap[i]? = W.heap[i]? := fun i u hi hne => by
    rw [Below.heap_setCell _ _ _ _ (by simpa using hne)]; exact hbl i hi
  have h2 : w1.heap[w.heap.size]? = some (.cells #[.slice v n cap] 49 (0, 0)) := (hbl _ (by omega)).trans hv
  have hks : Kept (fun k => k = w.heap.size) w1 (w1.setCell ⟨w.heap.size, 0, none⟩ (.slice (some ⟨g', 0, none⟩) (n + 1) cap')) := Kept.setCell (S := fun k => k = w.heap.size) _ _ _ rfl
  have keepD : ∀ (B' : Nat) (o : Pi), w.heap.size + 3 ≤ B' → Own W B' o.a o.n o.c o.d → Own (w1.setCell ⟨w.heap.size, 0, none⟩ (.slice (some ⟨g', 0, none⟩) (n + 1) cap')) B' o.a o.n o.c o.d := fun B' o hB' ho => by
    have ha : ∀ b, blk o.a = some b → ¬ blk v = some b := (own_of (ho.mono hB')).apart hrow.row (by decide)
    exact (ho.keep hk ha).keep hks (fun b hb e => by have := (ho.blk_ge b hb).1; omega)
  refine ⟨⟨⟨some ⟨g', 0, none⟩, n + 1, cap', one_setCell h2, ?_, ?_, ?_, ?_⟩, (hbl2 _ _ (by omega) (by omega)).trans h.dfr, (hbl2 _ _ (by omega) (by omega)).trans h.rec_, ?_⟩, h2⟩
  · rw [rws_append]
    have e : rws [x] = x.cs := by simp [rws]
    rw [e]
    exact hown.keep hks (fun b hb e => by have := (hown.blk_ge b hb).1; omega)
  · simp [hrow.len]
  · intro o ho
    rcases List.mem_append.1 ho with ho | ho
    · exact keepD _ o (Nat.le_refl _) (hrow.data o ho)
    · simp at ho
      subst ho
      exact (keepD B o hB hx).mono hB
  · rw [List.pairwise_append]
    refine ⟨hrow.apart, List.pairwise_singleton _ _, ?_⟩
    intro o ho p hp k hk1 hk2
    simp at hp
    subst hp
    have h3 := hfr o ho k hk1
    have h4 := (hx.blk_ge k hk2).1
    omega
  · exact (h.below.trans (hk.below h.below.size (fun k e => by have := hvb k e; omega))).setCell (p := ⟨w.heap.size, 0, none⟩) (Nat.le_refl _) _
/-- All of a queue: its items' copies. -/
def AllR (w : World) (L : List Pi) (e : Ending) (w' : World) : Prop :=
  Below w.heap.size w w' ∧ ∃ v n cap ys, e = .returned (.slice v n cap) ∧ Cps w' w.heap.size v n cap ys ∧ ys.map Pi.it = L.map Pi.it
end Go.Proofs.Ytpigpeehhadkjaa

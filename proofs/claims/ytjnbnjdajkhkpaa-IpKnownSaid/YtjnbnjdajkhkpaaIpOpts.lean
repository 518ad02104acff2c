/-
  What Options of package ip holds between two rounds of its range over options, and its contract. Conditions: bytes that lie where the slice leads, fewer than a million.
-/
import Derived.Test.YtjnbnjdajkhkpaaIpEach
namespace Go.Proofs.Ytjnbnjdajkhkpaa
open Go.RowKit Go.Shelf
attribute [local go_sem] Oper.semAt_some

def Op1.cs (o : Op1) : List Value := ocs o.k o.a o.n o.c
def flat (os : List Op1) : List Value := os.flatMap Op1.cs
/-- A row of options of the call's own, their data in rows of the call's own, apart from one another. -/
structure Opts (w : World) (base : Nat) (v : Option Addr) (n cap : Nat) (os : List Op1) : Prop where
  row : OwnG w base 54 2 v n cap (flat os)
  len : os.length = n
  data : ∀ o ∈ os, Own w base o.a o.n o.c o.xs
  apart : os.Pairwise (fun o p => ∀ k, blk o.a = some k → blk p.a ≠ some k)
theorem Opts.keep {S : Nat → Prop} {w w' : World} {base : Nat} {v : Option Addr} {n cap : Nat} {os : List Op1} (h : Opts w base v n cap os) (k : Kept S w w') (hs : ∀ i, S i → i < base) : Opts w' base v n cap os :=
  ⟨h.row.keep k (fun b hb hS => by have := (h.row.blk_ge b hb).1; have := hs b hS; omega), h.len, fun o ho => (h.data o ho).keep k (fun b hb hS => by have := ((h.data o ho).blk_ge b hb).1; have := hs b hS; omega), h.apart⟩
theorem Opts.nil (w : World) (base : Nat) : Opts w base none 0 0 [] := ⟨OwnG.nil _ _ _ _, rfl, fun _ h => (List.not_mem_nil h).elim, List.Pairwise.nil⟩
theorem Opts.mono {w : World} {base base' : Nat} {v : Option Addr} {n cap : Nat} {os : List Op1} (h : Opts w base v n cap os) (hb : base' ≤ base) : Opts w base' v n cap os :=
  ⟨⟨h.row.1, by
    rcases h.row.2 with h0 | ⟨g, cap', cur, he, hbb, r⟩
    · exact .inl h0
    · exact .inr ⟨g, cap', cur, he, by omega, r⟩⟩, h.len, fun o ho => (h.data o ho).mono hb, h.apart⟩

/-- Between two rounds: the variable l, the options so far, the loop's record, the block of deferred calls, the two results, and all that was there is as it was. -/
structure JO (w : World) (lp : Loop) (os : List Op1) (W : World) : Prop where
  box : ∃ v n cap, W.heap[w.heap.size + 2]? = some (.cells #[.slice v n cap] 50 (0, 0)) ∧ Opts W (w.heap.size + 6) v n cap os
  rec_ : W.heap[w.heap.size + 5]? = some (.loop lp)
  dfr : W.heap[w.heap.size + 4]? = some (.deferred (some []))
  r2 : W.heap[w.heap.size]? = some (.cells #[.slice none 0 0] 50 (0, 0))
  r3 : W.heap[w.heap.size + 1]? = some (.cells #[.int .i64 0] 31 (0, 0))
  below : Below w.heap.size w W
theorem JO.size {w : World} {lp : Loop} {os : List Op1} {W : World} (h : JO w lp os W) : w.heap.size + 6 ≤ W.heap.size := by
  have := (Array.getElem?_eq_some_iff.1 h.rec_).1; omega
theorem JO.step {w : World} {lp : Loop} {os : List Op1} {W W' : World} (h : JO w lp os W) (hb : Below W.heap.size W W') : JO w lp os W' := by
  obtain ⟨v, n, cap, h1, h2⟩ := h.box
  have hs := h.size
  have hk : Kept (fun _ => False) W W' := Kept.of_below hb (fun i hi hi' => by omega)
  exact ⟨⟨v, n, cap, (hb.block _ (by omega)).trans h1, h2.keep hk (fun _ e => e.elim)⟩, (hb.block _ (by omega)).trans h.rec_, (hb.block _ (by omega)).trans h.dfr, (hb.block _ (by omega)).trans h.r2, (hb.block _ (by omega)).trans h.r3,
    h.below.trans (hb.mono (by omega))⟩
theorem Kept.putObj (W : World) (l : Nat) (o : Obj) : Kept (fun k => k = l) W (W.putObj l o) := ⟨rfl, rfl, rfl, by simp, fun _ _ hn => World.putObj_heap_other hn⟩
theorem JO.put {w : World} {lp : Loop} {os : List Op1} {W : World} (h : JO w lp os W) (lp' : Loop) : JO w lp' os (W.putObj (w.heap.size + 5) (.loop lp')) := by
  obtain ⟨v, n, cap, h1, h2⟩ := h.box
  have hs := h.size
  exact ⟨⟨v, n, cap, (World.putObj_heap_other (by omega)).trans h1, h2.keep (Kept.putObj _ _ _) (fun i e => by omega)⟩, World.putObj_heap_same (by omega), (World.putObj_heap_other (by omega)).trans h.dfr, (World.putObj_heap_other (by omega)).trans h.r2, (World.putObj_heap_other (by omega)).trans h.r3,
    h.below.trans ((Kept.putObj W _ _).below h.below.size (fun k e => by omega))⟩
theorem flat_snoc (os : List Op1) (x : Op1) : flat (os ++ [x]) = flat os ++ x.cs := by simp [flat]
theorem JO.next {w : World} {lp : Loop} {os : List Op1} {W : World} (h : JO w lp os W) (x : Op1) {B : Nat} (hx : Own W B x.a x.n x.c x.xs) (hB : w.heap.size + 6 ≤ B) (hfr : ∀ o ∈ os, ∀ k, blk o.a = some k → k < B) {v : Option Addr} {n cap : Nat}
    (hv : W.heap[w.heap.size + 2]? = some (.cells #[.slice v n cap] 50 (0, 0))) (hrow : Opts W (w.heap.size + 6) v n cap os) {g' cap' : Nat} {w1 : World}
    (hown : OwnG w1 (w.heap.size + 6) 54 2 (some ⟨g', 0, none⟩) (n + 1) cap' (flat os ++ x.cs)) (hk : Kept (fun k => blk v = some k) W w1) :
    JO w lp (os ++ [x]) (w1.setCell ⟨w.heap.size + 2, 0, none⟩ (.slice (some ⟨g', 0, none⟩) (n + 1) cap')) ∧ w1.heap[w.heap.size + 2]? = some (.cells #[.slice v n cap] 50 (0, 0)) := by
  have hs := h.size
  have hvb : ∀ k, blk v = some k → w.heap.size + 6 ≤ k := fun k e => (hrow.row.blk_ge k e).1
  have hbl : ∀ i, i < w.heap.size + 6 → w1.heap[i]? = W.heap[i]? := fun i hi => hk.block i (by omega) (fun e => by have := hvb i e; omega)
  have hbl2 : ∀ (i : Nat) (u : Value), i < w.heap.size + 6 → i ≠ w.heap.size + 2 → (w1.setCell ⟨w.heap.size + 2, 0, none⟩ u).heap[i]? = W.heap[i]? := fun i u hi hne => by
    rw [Below.heap_setCell _ _ _ _ (by simpa using hne)]; exact hbl i hi
  have h2 : w1.heap[w.heap.size + 2]? = some (.cells #[.slice v n cap] 50 (0, 0)) := (hbl _ (by omega)).trans hv
  have hks : Kept (fun k => k = w.heap.size + 2) w1 (w1.setCell ⟨w.heap.size + 2, 0, none⟩ (.slice (some ⟨g', 0, none⟩) (n + 1) cap')) := Kept.setCell (S := fun k => k = w.heap.size + 2) _ _ _ rfl
  have keepD : ∀ (B' : Nat) (o : Op1), w.heap.size + 6 ≤ B' → Own W B' o.a o.n o.c o.xs → Own (w1.setCell ⟨w.heap.size + 2, 0, none⟩ (.slice (some ⟨g', 0, none⟩) (n + 1) cap')) B' o.a o.n o.c o.xs := fun B' o hB' ho => by
    have ha : ∀ b, blk o.a = some b → ¬ blk v = some b := (own_of (ho.mono hB')).apart hrow.row (by decide)
    refine ((ho.keep hk ha).keep hks (fun b hb e => by have := (ho.blk_ge b hb).1; omega))
  refine ⟨⟨⟨some ⟨g', 0, none⟩, n + 1, cap', one_setCell h2, ?_, ?_, ?_, ?_⟩, (hbl2 _ _ (by omega) (by omega)).trans h.rec_, (hbl2 _ _ (by omega) (by omega)).trans h.dfr, (hbl2 _ _ (by omega) (by omega)).trans h.r2, (hbl2 _ _ (by omega) (by omega)).trans h.r3, ?_⟩, h2⟩
  · rw [flat_snoc]
    exact hown.keep hks (fun b hb e => by have := (hown.blk_ge b hb).1; omega)
  · simp [hrow.len]
  · intro o ho
    rcases List.mem_append.1 ho with ho | ho
    · exact keepD _ o (Nat.le_refl _) (hrow.data o ho)
    · simp at ho
      subst ho
      exact (keepD B o hB hx).mono hB
  · rw [List.pairwise_append]
    refine ⟨hrow.apart, List.pairwise_singleton _ _, ?_⟩
    intro o ho p hp k hk1 hk2
    simp at hp
    subst hp
    have h3 := hfr o ho k hk1
    have h4 := (hx.blk_ge k hk2).1
    omega
  · exact (h.below.trans (hk.below h.below.size (fun k e => by have := hvb k e; omega))).setCell (p := ⟨w.heap.size + 2, 0, none⟩) (by show w.heap.size ≤ w.heap.size + 2; omega) _
/-- A round that has come to an error leaves so. -/
structure JX (w : World) (lp : Loop) (W : World) : Prop where
  below : Below w.heap.size w W
  rec_ : W.heap[w.heap.size + 5]? = some (.loop lp)
  dfr : W.heap[w.heap.size + 4]? = some (.deferred (some []))
  r2 : W.heap[w.heap.size]? = some (.cells #[.slice none 0 0] 50 (0, 0))
  r3 : W.heap[w.heap.size + 1]? = some (.cells #[.int .i64 51] 31 (0, 0))
theorem JX.put {w : World} {lp : Loop} {W : World} (h : JX w lp W) (lp' : Loop) : JX w lp' (W.putObj (w.heap.size + 5) (.loop lp')) := by
  have hs := (Array.getElem?_eq_some_iff.1 h.rec_).1
  exact ⟨h.below.trans ((Kept.putObj W _ _).below h.below.size (fun k e => by omega)), World.putObj_heap_same (by omega), (World.putObj_heap_other (by omega)).trans h.dfr, (World.putObj_heap_other (by omega)).trans h.r2, (World.putObj_heap_other (by omega)).trans h.r3⟩
theorem JO.fail {w : World} {lp : Loop} {os : List Op1} {W : World} (h : JO w lp os W) : JX w lp ((W.setCell ⟨w.heap.size, 0, none⟩ (.slice none 0 0)).setCell ⟨w.heap.size + 1, 0, none⟩ (.int .i64 51)) := by
  have hs := h.size
  have e1 : ∀ i, i ≠ w.heap.size → i ≠ w.heap.size + 1 → ((W.setCell ⟨w.heap.size, 0, none⟩ (.slice none 0 0)).setCell ⟨w.heap.size + 1, 0, none⟩ (.int .i64 51)).heap[i]? = W.heap[i]? := fun i h1 h2 => by
    rw [Below.heap_setCell _ _ _ _ (by simpa using h2), Below.heap_setCell _ _ _ _ (by simpa using h1)]
  refine ⟨(h.below.setCell (p := ⟨w.heap.size, 0, none⟩) (Nat.le_refl _) _).setCell (p := ⟨w.heap.size + 1, 0, none⟩) (by show w.heap.size ≤ w.heap.size + 1; omega) _, (e1 _ (by omega) (by omega)).trans h.rec_, (e1 _ (by omega) (by omega)).trans h.dfr, ?_, ?_⟩
  · rw [Below.heap_setCell _ _ _ _ (by simp)]
    exact one_setCell h.r2
  · have : (W.setCell ⟨w.heap.size, 0, none⟩ (.slice none 0 0)).heap[w.heap.size + 1]? = some (.cells #[.int .i64 0] 31 (0, 0)) := by
      rw [Below.heap_setCell _ _ _ _ (by simp)]; exact h.r3
    exact one_setCell this
theorem JO.fin {w : World} {lp : Loop} {os : List Op1} {W We : World} (h : JO w lp os W) {v : Option Addr} {n cap : Nat} (hrow : Opts W (w.heap.size + 6) v n cap os)
    (hWe : We = (W.setCell ⟨w.heap.size, 0, none⟩ (.slice v n cap)).setCell ⟨w.heap.size + 1, 0, none⟩ (.int .i64 0)) :
    We.heap[w.heap.size + 4]? = some (.deferred (some [])) ∧ (We.putObj (w.heap.size + 4) (.deferred none)).cell? ⟨w.heap.size, 0, none⟩ = some (.slice v n cap) ∧ (We.putObj (w.heap.size + 4) (.deferred none)).cell? ⟨w.heap.size + 1, 0, none⟩ = some (.int .i64 0) ∧
      Below w.heap.size w (We.putObj (w.heap.size + 4) (.deferred none)) ∧ Opts (We.putObj (w.heap.size + 4) (.deferred none)) w.heap.size v n cap os := by
  have hs := h.size
  have hsz : We.heap.size = W.heap.size := by rw [hWe]; simp [World.setCell]
  have e1 : ∀ i, i ≠ w.heap.size → i ≠ w.heap.size + 1 → We.heap[i]? = W.heap[i]? := fun i h1 h2 => by
    rw [hWe, Below.heap_setCell _ _ _ _ (by simpa using h2), Below.heap_setCell _ _ _ _ (by simpa using h1)]
  have hk : Kept (fun k => k = w.heap.size ∨ k = w.heap.size + 1) W We := by
    rw [hWe]
    exact (Kept.setCell (S := fun k => k = w.heap.size ∨ k = w.heap.size + 1) _ _ _ (.inl rfl)).trans (Kept.setCell (S := fun k => k = w.heap.size ∨ k = w.heap.size + 1) _ _ _ (.inr rfl)) (fun _ _ e => e)
  have h0 : We.heap[w.heap.size]? = some (.cells #[.slice v n cap] 50 (0, 0)) := by
    rw [hWe, Below.heap_setCell _ _ _ _ (by simp)]; exact one_setCell h.r2
  have h1 : We.heap[w.heap.size + 1]? = some (.cells #[.int .i64 0] 31 (0, 0)) := by
    have : (W.setCell ⟨w.heap.size, 0, none⟩ (.slice v n cap)).heap[w.heap.size + 1]? = some (.cells #[.int .i64 0] 31 (0, 0)) := by
      rw [Below.heap_setCell _ _ _ _ (by simp)]; exact h.r3
    rw [hWe]
    exact one_setCell this
  refine ⟨(e1 _ (by omega) (by omega)).trans h.dfr, cell_of_one ((World.putObj_heap_other (by omega)).trans h0), cell_of_one ((World.putObj_heap_other (by omega)).trans h1), ?_, ?_⟩
  · exact (h.below.trans (hk.below h.below.size (fun k e => by omega))).trans ((Kept.putObj We _ _).below (by have := h.below.size; omega) (fun k e => by omega))
  · exact ((hrow.keep hk (fun i e => by omega)).keep (Kept.putObj _ _ _) (fun i e => by omega)).mono (by omega)
theorem JX.fin {w : World} {lp : Loop} {W : World} (h : JX w lp W) : (W.putObj (w.heap.size + 4) (.deferred none)).cell? ⟨w.heap.size, 0, none⟩ = some (.slice none 0 0) ∧ (W.putObj (w.heap.size + 4) (.deferred none)).cell? ⟨w.heap.size + 1, 0, none⟩ = some (.int .i64 51) ∧
    Below w.heap.size w (W.putObj (w.heap.size + 4) (.deferred none)) :=
  ⟨cell_of_one ((World.putObj_heap_other (by omega)).trans h.r2), cell_of_one ((World.putObj_heap_other (by omega)).trans h.r3), h.below.trans ((Kept.putObj W _ _).below h.below.size (fun k e => by omega))⟩
end Go.Proofs.Ytjnbnjdajkhkpaa

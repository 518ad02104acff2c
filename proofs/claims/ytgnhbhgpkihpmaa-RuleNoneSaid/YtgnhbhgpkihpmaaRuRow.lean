/-
  Rows of rules: as they lie behind one another, rows of the call's own and what append does to them, literals of rules, their Clone; Any and Fits. Conditions: rules whose numbers fit their Go types; at most 1000 of them.
-/
import Derived.Test.YtgnhbhgpkihpmaaRuTop
namespace Go.Proofs.Ytgnhbhgpkihpmaa
open Go.RowKit

/-- The zero rule; the one that asks for nothing. -/
def rz : Rl := ⟨0, 0, false, zs 16, 0, false, zs 16, 0, 0, 0, 0, 0, false, 0⟩
def any0 : Rl := ⟨0, -1, false, zs 16, 0, false, zs 16, 0, 0, 65535, 0, 65535, false, 0⟩
theorem Byt.zs (k : Nat) : Byt (zs k) := fun x hx => by
  have := List.eq_of_mem_replicate hx
  omega
theorem rz_ok : rz.ok := ⟨zs_length 16, Byt.zs 16, zs_length 16, Byt.zs 16, by decide, by decide, by decide, by decide⟩
theorem any0_ok : any0.ok := ⟨zs_length 16, Byt.zs 16, zs_length 16, Byt.zs 16, by decide, by decide, by decide, by decide⟩
theorem infUz : (Try.prog.info? 43).map (fun i => (i.zero, i.size, i.bytes)) = some (some (.agg rz.cs.toArray), 44, 104) := by kernel_rfl
theorem flat_at {α : Type} (f : α → List Value) (m : Nat) : ∀ (es : List α) (_ : ∀ x ∈ es, (f x).length = m) (i : Nat) (x : α), es[i]? = some x → ∀ j, j < m → (es.flatMap f)[i * m + j]? = (f x)[j]?
  | [], _, i, x, h, _, _ => by simp at h
  | y :: t, hf, 0, x, h, j, hj => by
    simp at h; subst h
    have := hf y List.mem_cons_self
    rw [List.flatMap_cons, List.getElem?_append_left (by omega)]
    simp
  | y :: t, hf, i + 1, x, h, j, hj => by
    have h1 := hf y List.mem_cons_self
    have ih := flat_at f m t (fun z hz => hf z (List.mem_cons_of_mem _ hz)) i x (by simpa using h) j hj
    rw [List.flatMap_cons, List.getElem?_append_right (by rw [h1, Nat.add_mul]; omega), h1, ← ih]
    congr 1
    rw [Nat.add_mul]; omega
theorem flat_len {α : Type} (f : α → List Value) (m : Nat) : ∀ (es : List α) (_ : ∀ x ∈ es, (f x).length = m), (es.flatMap f).length = es.length * m
  | [], _ => by simp
  | y :: t, hf => by
    rw [List.flatMap_cons, List.length_append, flat_len f m t (fun z hz => hf z (List.mem_cons_of_mem _ hz)), hf y List.mem_cons_self, List.length_cons, Nat.add_mul]
    omega
def rows (l : List Rl) : List Value := l.flatMap Rl.cs
theorem rows_len {l : List Rl} (h : ∀ r ∈ l, r.ok) : (rows l).length = l.length * 44 := flat_len _ _ _ (fun r hr => Rl.len (h r hr))
theorem rows_one (l : List Rl) : ∀ v ∈ rows l, v.oneCell' = true := by
  intro v hv
  obtain ⟨r, _, hv⟩ := List.mem_flatMap.1 hv
  exact r.one v hv
theorem rows_append (l m : List Rl) : rows (l ++ m) = rows l ++ rows m := by simp [rows]
/-- Rules lie there just if their cells do. -/
theorem Rls.of {w : World} {a : Option Addr} {n : Nat} {l : List Rl} (hn : l.length = n) (hk : ∀ r ∈ l, r.ok) (h : l ≠ [] → ∃ b o, a = some ⟨b, o, none⟩ ∧ w.rangeAt b o (rows l)) : Rls w a n l :=
  ⟨hn, hk, fun hne => by
    obtain ⟨b, o, e, hc⟩ := h hne
    refine ⟨b, o, e, fun i r hr j v hv => ?_⟩
    have hj : j < 44 := by
      have := (List.getElem?_eq_some_iff.1 hv).1
      rwa [Rl.len (hk r (List.mem_of_getElem? hr))] at this
    have := hc (i * 44 + j) v (by rw [rows, flat_at _ 44 l (fun r hr => Rl.len (hk r hr)) i r hr j hj]; exact hv)
    rwa [← Nat.add_assoc] at this⟩
theorem Rls.flat {w : World} {b o n : Nat} {l : List Rl} (h : Rls w (some ⟨b, o, none⟩) n l) : w.rangeAt b o (rows l) := fun j v hv => by
  have hj : j < l.length * 44 := by rw [← rows_len h.ok]; exact (List.getElem?_eq_some_iff.1 hv).1
  have hi : j / 44 < l.length := by omega
  obtain ⟨b', o', e, hc⟩ := h.cells (by intro e; rw [e] at hi; simp at hi)
  simp only [Option.some.injEq, Addr.mk.injEq, and_true] at e
  obtain ⟨rfl, rfl⟩ := e
  have hr := List.getElem?_eq_getElem hi
  have h1 := flat_at Rl.cs 44 l (fun r hr => Rl.len (h.ok r hr)) (j / 44) _ hr (j % 44) (by omega)
  rw [show j / 44 * 44 + j % 44 = j by omega] at h1
  have := hc (j / 44) _ hr (j % 44) v (by rw [← h1]; exact hv)
  rwa [show o + j / 44 * 44 + j % 44 = o + j by omega] at this

/-- A row of the call's own of rules. -/
structure OwnU (w : World) (base : Nat) (a : Option Addr) (n c : Nat) (l : List Rl) : Prop where
  len : l.length = n
  ok : ∀ r ∈ l, r.ok
  row : OwnG w base 43 44 a n c (rows l)
theorem OwnU.rls {w : World} {base : Nat} {a : Option Addr} {n c : Nat} {l : List Rl} (h : OwnU w base a n c l) : Rls w a n l :=
  Rls.of h.len h.ok (fun hne => by
    obtain ⟨g, e, hc⟩ := h.row.cell (by
      intro e
      have := rows_len h.ok
      rw [e] at this
      cases l with
      | nil => exact hne rfl
      | cons r t => simp at this)
    exact ⟨g, 0, e, hc⟩)
theorem OwnU.nil (w : World) (base : Nat) : OwnU w base none 0 0 [] := ⟨rfl, (fun r hr => by cases hr), OwnG.nil _ _ _ _⟩
theorem OwnU.below {w w' : World} {base : Nat} {a : Option Addr} {n c : Nat} {l : List Rl} (h : OwnU w base a n c l) (hb : Below w.heap.size w w') : OwnU w' base a n c l := ⟨h.len, h.ok, h.row.below hb⟩
theorem OwnU.keep {S : Nat → Prop} {w w' : World} {base : Nat} {a : Option Addr} {n c : Nat} {l : List Rl} (h : OwnU w base a n c l) (k : Kept S w w') (hn : ∀ b, blk a = some b → ¬ S b) : OwnU w' base a n c l := ⟨h.len, h.ok, h.row.keep k hn⟩
theorem OwnG.mono2 {w : World} {base base' e size : Nat} {a : Option Addr} {n cap : Nat} {vs : List Value} (h : OwnG w base e size a n cap vs) (hb : base' ≤ base) : OwnG w base' e size a n cap vs := by
  refine ⟨h.1, ?_⟩
  rcases h.2 with h0 | ⟨g, cap', cur, he, hbb, r⟩
  · exact .inl h0
  · exact .inr ⟨g, cap', cur, he, by omega, r⟩
theorem OwnU.mono {w : World} {base base' : Nat} {a : Option Addr} {n c : Nat} {l : List Rl} (h : OwnU w base a n c l) (hb : base' ≤ base) : OwnU w base' a n c l := ⟨h.len, h.ok, h.row.mono2 hb⟩
theorem OwnU.cap {w : World} {base : Nat} {a : Option Addr} {n c : Nat} {l : List Rl} (h : OwnU w base a n c l) : a = none → c = 0 := by
  rintro rfl
  rcases h.row.cases with ⟨_, _, h, _⟩ | ⟨g, cur, e, _⟩
  · exact h
  · cases e

/-- append(row, rules...), the row of the call's own, the rules anywhere. -/
theorem run_append_rls (w : World) (base ty : Nat) {a : Option Addr} {n cap : Nat} {l : List Rl} (hown : OwnU w base a n cap l) {b : Option Addr} {m : Nat} (c : Nat) {q : List Rl} (hr : Rls w b m q) (hlim : n + m ≤ 1000000) (hbase : base ≤ w.heap.size) :
    ∃ a' cap' w', (Builtin.append_ #[22, 22] ty #[.slice a n cap, .slice b m c]).run Try.prog w = .ok (.slice a' (n + m) cap') w' ∧ OwnU w' base a' (n + m) cap' (l ++ q) ∧ w.grownBy w' (blk a) ∧
      (blk a' = blk a ∨ blk a' = some w.heap.size) := by
  obtain ⟨i0, hi, hz0, hz1, hz2⟩ := info_parts infUz
  have hl : (l ++ q).length = n + m := by rw [List.length_append, hown.len, hr.len]
  have hok : ∀ r ∈ l ++ q, r.ok := fun r h => by
    rcases List.mem_append.1 h with h | h
    · exact hown.ok r h
    · exact hr.ok r h
  cases b with
  | none =>
    have hy : q = [] := by
      cases q with
      | nil => rfl
      | cons y ys => obtain ⟨_, _, h, _⟩ := hr.cells (by simp); cases h
    subst hy
    have hm := hr.len
    simp at hm
    subst hm
    refine ⟨a, cap, w, ?_, by simpa using hown, ⟨rfl, rfl, rfl, Nat.le_refl _, fun _ _ _ => rfl⟩, .inl rfl⟩
    rcases hown.row.cases with ⟨rfl, rfl, rfl, _⟩ | ⟨g, cur, rfl, _, _, hnc, _⟩
    · simp [Builtin.append_, run_underlying Try.underlying22, sizeOf, typeInfo, hi, Builtin.lenOf, Builtin.firstCells]
    · simp [Builtin.append_, run_underlying Try.underlying22, sizeOf, typeInfo, hi, Builtin.lenOf, Builtin.firstCells, hnc, storeCells]
  | some ad =>
    have hcells : ∀ j u, (rows q)[j]? = some u → w.cell? (ad.add j) = some u := by
      intro j u hu
      have hq : q ≠ [] := by rintro rfl; simp [rows] at hu
      obtain ⟨b, o, e, _⟩ := hr.cells hq
      simp only [Option.some.injEq] at e
      subst e
      rw [Addr.add_lit]
      exact hr.flat j u hu
    obtain ⟨v', w', hrun, h2, h3, _, h5⟩ := run_append_own_at (P := Try.prog) w base 22 ty 43 i0 _ 44 104 Try.underlying22 hi hz0 hz1 hz2 (by simp [Value.cells, Rl.len rz_ok]) (by omega) (.slice a n cap) n (rows l) hown.row ad m c (rows q)
      (by rw [rows_len hr.ok, hr.len]) hcells (rows_one q) (by simp only [maxLen]; omega) (by omega) hbase
    rcases h2.2 with ⟨rfl, h0⟩ | ⟨g, cap', cur, rfl, r⟩
    · refine ⟨none, 0, w', by rw [h0]; exact hrun, ⟨hl, hok, ?_⟩, by rw [ownBlock_eq] at h3; exact h3, ?_⟩
      · rw [h0] at h2 ⊢; rw [rows_append]; exact h2
      · rw [ownBlock_eq, ownBlock_eq] at h5; exact h5
    · refine ⟨some ⟨g, 0, none⟩, cap', w', hrun, ⟨hl, hok, by rw [rows_append]; exact h2⟩, by rw [ownBlock_eq] at h3; exact h3, ?_⟩
      rw [ownBlock_eq, ownBlock_eq] at h5; exact h5

/-- A literal of rules. -/
theorem fill_rules (rs : List Rl) (hok : ∀ r ∈ rs, r.ok) (z : Value) : ∃ R, Instr.fill (fun i => some (i * 44, 44)) ((Array.range (rs.length * 44)).map (z.cells[· % z.cells.size]!)) (((rs.map fun r => Value.agg r.cs.toArray).zipIdx 0).map fun x => (x.2, x.1)) = some R ∧
    ∀ w : World, Rls (w.alloc (.cells R 43)) (some ⟨w.heap.size, 0, none⟩) rs.length rs := by
  obtain ⟨R, hR, _, hk⟩ := Great.fill_dense (s := 44) (by omega) (rs.map fun r => Value.agg r.cs.toArray) 0 ((Array.range (rs.length * 44)).map (z.cells[· % z.cells.size]!))
    (fun v hv => by
      obtain ⟨r, hr, rfl⟩ := List.mem_map.1 hv
      simp [Value.cells, Rl.len (hok r hr)]) (by simp)
  refine ⟨R, hR, fun w => ⟨rfl, hok, fun _ => ⟨w.heap.size, 0, rfl, fun i r hr j v hv => ?_⟩⟩⟩
  have hi : i < rs.length := (List.getElem?_eq_some_iff.1 hr).1
  have hj : j < 44 := by
    have := (List.getElem?_eq_some_iff.1 hv).1
    rwa [Rl.len (hok r (List.mem_of_getElem? hr))] at this
  rw [cell_of_row _ w.heap.size (0 + i * 44 + j) R 43 (0, 0) (Blk_new w _ _), hk (0 + i * 44 + j)]
  rw [if_pos (by simp; omega)]
  rw [show (0 + i * 44 + j) / 44 - 0 = i by omega, show (0 + i * 44 + j) % 44 = j by omega]
  simp only [List.getElem?_map, hr, Option.map_some, Option.bind_some, Value.cells]
  simpa using hv
section
variable {ops : Array Oper} {rest : List Oper} {o : Oper} {a : Act} {w : World} {Q : Exit → Act → World → Prop}
theorem bsU (n : Nat) (parts : Array (Nat × Operand)) (rs : List Rl) (hok : ∀ r ∈ rs, r.ok) (hn : rs.length = n) (h0 : 0 < n) (h9 : n ≤ 1000) (ho : o.op = .buildSlice 22 n parts) (hw : Region.wanted o (yielded ops a.tmps) = true)
    (hp : (parts.toList.map fun x => (x.1, a.eval x.2)) = ((rs.map fun r => Value.agg r.cs.toArray).zipIdx 0).map fun x => (x.2, x.1))
    (h : ∀ w', Rls w' (some ⟨w.heap.size, 0, none⟩) n rs → Below w.heap.size w w' → w'.heap.size = w.heap.size + 1 → wpList Try.prog ops Q rest (a.put o.dst (.slice (some ⟨w.heap.size, 0, none⟩) n n)) w') : wpList Try.prog ops Q (o :: rest) a w := by
  obtain ⟨i0, hi, hz0, hz1, _⟩ := info_parts infUz
  subst hn
  obtain ⟨R, hR, hl⟩ := fill_rules rs hok (.agg rz.cs.toArray)
  have hp' : (parts.map fun (i, x) => (i, a.eval x)).toList = ((rs.map fun r => Value.agg r.cs.toArray).zipIdx 0).map fun x => (x.2, x.1) := by rw [← hp]; simp
  refine wpList_step fun K hK => ?_
  rw [if_pos hw]
  exact wp_buildSlice 22 43 rs.length parts ho R i0 _ Try.underlying22 hi hz0 (by rw [hz1]; omega) (by rw [hz1]; omega) (by rw [hz1, hp']; exact hR) (hK _ _ (h _ (hl w) ((Below.refl _ _).alloc (Nat.le_refl _) _) (by simp)))
end
end Go.Proofs.Ytgnhbhgpkihpmaa

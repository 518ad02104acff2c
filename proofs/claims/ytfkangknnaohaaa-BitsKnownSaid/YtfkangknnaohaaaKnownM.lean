/-
  Rows of the call's own of any element type, and what append of one element does to them. Conditions: the lengths are below 2 to the 40.
-/
import Derived.Test.YtfkangknnaohaaaFew
import Derived.Test.YtfkangknnaohaaaInc
namespace Go.Proofs.Ytfkangknnaohaaa
open Go.ChangeShapes Go.WideShapes Go.ChangeAt Go.RowKit

/-- A slice at the head of a row of the call's own. -/
def OwnG (w : World) (base e size : Nat) (a : Option Addr) (n cap : Nat) (vs : List Value) : Prop := w.ownsRow base e size (.slice a n cap) n vs

section
variable {w w' : World} {base e size : Nat} {a : Option Addr} {n cap : Nat} {vs : List Value}
theorem OwnG.nil (w : World) (base e size : Nat) : OwnG w base e size none 0 0 [] := World.ownsRow_nil _ _ _ _
theorem OwnG.cases (h : OwnG w base e size a n cap vs) :
    (a = none ∧ n = 0 ∧ cap = 0 ∧ vs = []) ∨
    ∃ g cur, a = some ⟨g, 0, none⟩ ∧ base ≤ g ∧ w.heap[g]? = some (.cells cur e (0, 0)) ∧ n ≤ cap ∧ cap ≤ maxLen ∧ cur.size = cap * size ∧ cur.toList.take (n * size) = vs := by
  obtain ⟨h1, h2⟩ := h
  rcases h2 with ⟨he, h0⟩ | ⟨g, cap', cur, he, hb, hg, hnc, hcm, hcs, ht⟩
  · simp only [Value.slice.injEq] at he
    obtain ⟨rfl, rfl, rfl⟩ := he
    exact .inl ⟨rfl, rfl, rfl, List.eq_nil_of_length_eq_zero (by simpa using h1)⟩
  · simp only [Value.slice.injEq, true_and] at he
    obtain ⟨rfl, rfl⟩ := he
    exact .inr ⟨g, cur, rfl, hb, hg, hnc, hcm, hcs, ht⟩
theorem OwnG.le (h : OwnG w base e size a n cap vs) : n ≤ cap ∧ cap ≤ maxLen := by
  rcases h.cases with ⟨rfl, rfl, rfl, rfl⟩ | ⟨g, cur, rfl, _, _, h1, h2, _⟩
  · exact ⟨Nat.le_refl _, Nat.zero_le _⟩
  · exact ⟨h1, h2⟩
theorem OwnG.blk_ge (h : OwnG w base e size a n cap vs) : ∀ k, blk a = some k → base ≤ k ∧ k < w.heap.size := by
  intro k hk
  rcases h.cases with ⟨rfl, _⟩ | ⟨g, cur, rfl, hb, hg, _⟩
  · simp [blk] at hk
  · simp [blk] at hk
    subst hk
    exact ⟨hb, (Array.getElem?_eq_some_iff.1 hg).1⟩
theorem OwnG.keep {S : Nat → Prop} (h : OwnG w base e size a n cap vs) (k : Kept S w w') (hn : ∀ b, blk a = some b → ¬ S b) : OwnG w' base e size a n cap vs := by
  refine ⟨h.1, ?_⟩
  rcases h.2 with h0 | ⟨g, cap', cur, he, hb, hg, r⟩
  · exact .inl h0
  · refine .inr ⟨g, cap', cur, he, hb, k.heap hg (hn g ?_), r⟩
    simp only [Value.slice.injEq] at he
    rw [he.1]; rfl
theorem OwnG.below (h : OwnG w base e size a n cap vs) (hb : Below w.heap.size w w') : OwnG w' base e size a n cap vs :=
  h.keep (S := fun _ => False) (Kept.of_below hb (fun i hi hi' => by omega)) (fun _ _ => id)
theorem OwnG.apart {base' e' size' : Nat} {a' : Option Addr} {n' cap' : Nat} {vs' : List Value} (h : OwnG w base e size a n cap vs) (h' : OwnG w base' e' size' a' n' cap' vs') (hne : e ≠ e') : ∀ b, blk a = some b → ¬ blk a' = some b := by
  intro b hb hb'
  rcases h.cases with ⟨rfl, _⟩ | ⟨g, cur, rfl, _, hg, _⟩
  · cases hb
  rcases h'.cases with ⟨rfl, _⟩ | ⟨g', cur', rfl, _, hg', _⟩
  · cases hb'
  simp [blk] at hb hb'
  subst hb hb'
  rw [hg] at hg'
  simp at hg'
  exact hne hg'.2
theorem OwnG.cell (h : OwnG w base e size a n cap vs) (hv : vs ≠ []) : ∃ g, a = some ⟨g, 0, none⟩ ∧ ∀ j u, vs[j]? = some u → w.cell? ⟨g, 0 + j, none⟩ = some u := by
  rcases h.cases with ⟨_, _, _, rfl⟩ | ⟨g, cur, rfl, _, hg, _, _, _, ht⟩
  · exact absurd rfl hv
  · refine ⟨g, rfl, fun j u hu => ?_⟩
    rw [cell_of_row w g (0 + j) cur _ (0, 0) hg, Nat.zero_add]
    rw [← ht, List.getElem?_take] at hu
    split at hu
    · simpa using hu
    · cases hu
theorem own_of {xs : List Int} (h : Own w base a n cap xs) : OwnG w base 5 1 a n cap (bv xs) := h.2
end

theorem OwnG.rdk {w : World} {base e : Nat} {k : IntKind} {a : Option Addr} {n cap : Nat} {xs : List Int} (h : OwnG w base e 1 a n cap (xs.map (Value.int k))) : RdK k w a xs := by
  intro hne
  obtain ⟨g, rfl, hc⟩ := h.cell (by simpa using hne)
  refine ⟨g, 0, rfl, fun i hi => hc i _ ?_⟩
  simp [List.getElem?_eq_getElem hi]
theorem OwnG.len {w : World} {base e : Nat} {k : IntKind} {a : Option Addr} {n cap : Nat} {xs : List Int} (h : OwnG w base e 1 a n cap (xs.map (Value.int k))) : xs.length = n := by
  have := h.1; simpa using this

theorem flat_get (ts : List ActV) : ∀ (i : Nat) (hi : i < ts.length) (j : Nat) (u : Value), (ts[i]'hi).cells[j]? = some u → (ts.flatMap ActV.cells)[i * 5 + j]? = some u := by
  induction ts with
  | nil => intro i hi; simp at hi
  | cons t ts ih =>
    intro i hi j u hu
    have h5 : t.cells.length = 5 := rfl
    rw [List.flatMap_cons]
    cases i with
    | zero =>
      have hj : j < 5 := by have := (List.getElem?_eq_some_iff.1 hu).1; simpa [ActV.cells] using this
      rw [List.getElem?_append_left (by omega)]
      simpa using hu
    | succ i =>
      rw [List.getElem?_append_right (by omega), h5]
      have e : (i + 1) * 5 + j - 5 = i * 5 + j := by omega
      rw [e]
      exact ih i (by simpa using hi) j u (by simpa using hu)
theorem OwnG.acts {w : World} {base : Nat} {a : Option Addr} {n cap : Nat} {ts : List ActV} (h : OwnG w base 30 5 a n cap (ts.flatMap ActV.cells)) : ActsRd w a ts := by
  intro hne
  obtain ⟨g, rfl, hc⟩ := h.cell (by
    intro e
    cases ts with
    | nil => exact hne rfl
    | cons t ts => simp [ActV.cells] at e)
  refine ⟨g, 0, rfl, fun i hi j u hu => ?_⟩
  rw [Nat.add_assoc]
  exact hc _ u (flat_get ts i hi j u hu)
theorem flat_length (ts : List ActV) : (ts.flatMap ActV.cells).length = ts.length * 5 := by
  induction ts with
  | nil => rfl
  | cons t ts ih => rw [List.flatMap_cons, List.length_append, ih]; simp [ActV.cells]; omega
theorem OwnG.alen {w : World} {base : Nat} {a : Option Addr} {n cap : Nat} {ts : List ActV} (h : OwnG w base 30 5 a n cap (ts.flatMap ActV.cells)) : ts.length = n := by
  have := h.1
  rw [flat_length] at this
  omega

/-- append(row, x), the row of the call's own. -/
theorem run_append_one (w : World) (base ty t e : Nat) (z : Value) (size bytes : Nat) (hinfo : (Try.prog.info? e).map (fun i => (i.zero, i.size, i.bytes)) = some (some z, size, bytes)) (ht : Try.prog.underlying t = some (.slice e))
    (hzs : z.cells.size = size) (hsz : 0 < size) {a : Option Addr} {n cap : Nat} {vs : List Value} (hown : OwnG w base e size a n cap vs) (news : List Value) (hl : news.length = size) (h1 : ∀ u ∈ news, u.oneCell' = true)
    (hb : base ≤ w.heap.size) (hlim : (n + 1) * bytes ≤ 140737488355328) (hn : n ≤ 1099511627776) :
    ∃ g cap' w', (Builtin.append_ #[t, t] ty #[.slice a n cap, .slice (some ⟨w.heap.size, 0, none⟩) 1 1]).run Try.prog (w.alloc (.cells news.toArray e)) = .ok (.slice (some ⟨g, 0, none⟩) (n + 1) cap') w' ∧
      OwnG w' base e size (some ⟨g, 0, none⟩) (n + 1) cap' (vs ++ news) ∧ Kept (fun k => blk a = some k) w w' ∧ (blk a = some g ∨ w.heap.size < g) := by
  obtain ⟨i0, hi, hz0, hz1, hz2⟩ := info_parts hinfo
  have hk := Kept.alloc (fun _ => False) w (.cells news.toArray e)
  have ho : OwnG (w.alloc (.cells news.toArray e)) base e size a n cap vs := hown.keep hk (fun _ _ => id)
  obtain ⟨v', w', hrun, h2, h3, h4, h5⟩ := run_append_own_at (P := Try.prog) (w.alloc (.cells news.toArray e)) base t ty e i0 z size bytes ht hi hz0 hz1 hz2 hzs hsz (.slice a n cap) n vs ho ⟨w.heap.size, 0, none⟩ 1 1 news
    (by rw [hl, Nat.one_mul]) (fun j u hu => by
      rw [Addr.add_lit, cell_of_row _ w.heap.size (0 + j) news.toArray e (0, 0) (Blk_new w _ _)]
      simpa using hu) h1 (by simp only [maxLen]; omega) hlim (by simp; omega)
  rw [ownBlock_eq] at h3
  rcases h2.2 with ⟨rfl, h0⟩ | ⟨g, cap', cur, rfl, r⟩
  · omega
  · rw [ownBlock_eq, ownBlock_eq] at h5
    refine ⟨g, cap', w', hrun, h2, (hk.mono (T := fun k => blk a = some k) (fun _ _ h => h.elim)).trans (Kept.grown h3 (S := fun k => blk a = some k) (fun _ e => e)) (fun _ _ e => e), ?_⟩
    rcases h5 with e | e
    · exact .inl (by rw [← e]; rfl)
    · simp [blk] at e; exact .inr (by omega)

theorem u64_info : (Try.prog.info? 28).map (fun i => (i.zero, i.size, i.bytes)) = some (some (.int .u64 0), 1, 8) := by kernel_rfl
theorem int_info : (Try.prog.info? 3).map (fun i => (i.zero, i.size, i.bytes)) = some (some (.int .i64 0), 1, 8) := by kernel_rfl
theorem act_info : (Try.prog.info? 30).map (fun i => (i.zero, i.size, i.bytes)) = some (some (.agg #[.int .i64 0, .int .i64 0, .int .u64 0, .int .i64 0, .slice none 0 0]), 5, 56) := by kernel_rfl
end Go.Proofs.Ytfkangknnaohaaa

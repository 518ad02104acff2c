/-
  Plain facts of DiskKeeps: what a crash leaves of each byte. No conditions but those that the theorems name.
-/
import Derived.Test.YtbghdlgfpfeaeaaDkOpen
import Derived.Test.YtbghdlgfpfeaeaaLawPc
namespace Go.Proofs.Ytbghdlgfpfeaeaa
open Go.RowKit

theorem lay_whole (xs d : List Int) (h : xs.length = d.length) : layL xs d 0 0 = d := by
  refine ext_getD (by rw [layL_len]; exact h) (fun i hi => ?_)
  rw [layL_len] at hi
  rw [layL_get _ _ _ _ _ hi, if_pos (by omega)]
  congr 1
  omega
theorem lay_none (xs : List Int) (p : Int) : layL xs [] p 0 = xs := by
  refine ext_getD (layL_len _ _ _ _) (fun i hi => ?_)
  rw [layL_len] at hi
  rw [layL_get _ _ _ _ _ hi, if_neg (by simp)]
/-- A crash that loses all. -/
theorem now_lost (l : List (Int × List Int)) : ∀ d, nowP d (trimP l []) = d := by
  have e : trimP l [] = l.map (fun x => (x.1, [])) := by
    refine List.ext_getElem? (fun i => ?_)
    simp only [trimP, List.getElem?_map, List.getElem?_mapIdx]
    cases l[i]? with
    | none => rfl
    | some x => simp [cutP, dnV]
  rw [e]
  induction l with
  | nil => intro d; rfl
  | cons x l ih =>
    intro d
    show nowP (layL d [] x.1 0) _ = d
    rw [lay_none]
    exact ih (by
      refine List.ext_getElem? (fun i => ?_)
      simp only [trimP, List.getElem?_map, List.getElem?_mapIdx]
      cases l[i]? with
      | none => rfl
      | some x => simp [cutP, dnV]) d
/-- All fates: kept. -/
def keepF (n : Nat) : List Ft := (List.range n).map fun i : Nat => ((1, (i : Int)) : Ft)
theorem trim_keep (l : List (Int × List Int)) : trimP l (keepF l.length) = l := by
  refine List.ext_getElem? (fun i => ?_)
  simp only [trimP, List.getElem?_mapIdx]
  cases h : l[i]? with
  | none => rfl
  | some x =>
    have hi := (List.getElem?_eq_some_iff.1 h).1
    have e : (keepF l.length).getD i (0, 0) = (1, (i : Int)) := by simp [keepF, List.getD_eq_getElem?_getD, hi]
    simp only [Option.map_some, e, cutP, dnV]
    simp
/-- A write has that byte there. -/
def hitB (x : Int × List Int) (j v : Int) : Bool := decide (x.1 ≤ j) && (decide (j < x.1 + x.2.length) && decide (x.2.getD (j - x.1).toNat 0 = v))
theorem now_byte (l : List (Int × List Int)) : ∀ (d : List Int) (j : Nat), j < d.length → (nowP d l).getD j 0 = d.getD j 0 ∨ ∃ x ∈ l, x.1 ≤ j ∧ (j : Int) < x.1 + x.2.length ∧ x.2.getD ((j : Int) - x.1).toNat 0 = (nowP d l).getD j 0 := by
  induction l with
  | nil => intro d j _; exact .inl rfl
  | cons x l ih =>
    intro d j hj
    have hl := layL_get d x.2 x.1 0 j hj
    rcases ih (layL d x.2 x.1 0) j (by rw [layL_len]; exact hj) with h | ⟨y, hy, h1, h2, h3⟩
    · by_cases hc : x.1 ≤ (0 : Int) + j ∧ (0 : Int) + j < x.1 + x.2.length
      · rw [if_pos hc] at hl
        refine .inr ⟨x, List.mem_cons_self .., by omega, by omega, ?_⟩
        show _ = (nowP (layL d x.2 x.1 0) l).getD j 0
        rw [h, hl]
        congr 2
        omega
      · rw [if_neg hc] at hl
        refine .inl ?_
        show (nowP (layL d x.2 x.1 0) l).getD j 0 = _
        rw [h, hl]
    · exact .inr ⟨y, List.mem_cons_of_mem _ hy, h1, h2, h3⟩
/-- Behind a crash each byte is what was durable, or what a write had there. -/
theorem may_byte (d : List Int) (l : List (Int × List Int)) (fs : List Ft) (j : Nat) (hj : j < d.length) : (decide ((nowP d (trimP l fs)).getD j 0 = d.getD j 0) || l.any (fun x => hitB x j ((nowP d (trimP l fs)).getD j 0))) = true := by
  rcases now_byte (trimP l fs) d j hj with h | ⟨x, hx, h1, h2, h3⟩
  · rw [decide_eq_true h]; rfl
  · rw [Bool.or_eq_true]
    refine .inr (List.any_eq_true.2 ?_)
    obtain ⟨i, hi⟩ := List.getElem?_of_mem hx
    simp only [trimP, List.getElem?_mapIdx] at hi
    cases hl : l[i]? with
    | none => rw [hl] at hi; cases hi
    | some y =>
      rw [hl] at hi
      simp only [Option.map_some, Option.some.injEq] at hi
      subst hi
      refine ⟨y, List.mem_of_getElem? hl, ?_⟩
      simp only [cutP] at h1 h2 h3
      obtain ⟨n, hn⟩ : ∃ n, (dnV (fs.getD i (0, 0)).1 (fs.getD i (0, 0)).2 y.2.length).toNat = n := ⟨_, rfl⟩
      rw [hn] at h2 h3
      rw [List.length_take] at h2
      have e : y.2.getD ((j : Int) - y.1).toNat 0 = (nowP d (trimP l fs)).getD j 0 := by
        rw [← h3]
        simp only [List.getD_eq_getElem?_getD, List.getElem?_take]
        rw [if_pos (by omega)]
      unfold hitB
      rw [decide_eq_true h1, decide_eq_true (show (j : Int) < y.1 + y.2.length by omega), decide_eq_true e]
      rfl
/-- Both disks ahead of an act: the second one has what the first one reads, and nothing unsynced. -/
structure KI (z i : Nat) (k l : Dk) : Prop where
  kd : k.d.length = z
  ld : l.d = nowP k.d k.ws
  lw : l.ws = []
  kw : k.ws.length ≤ i
/-- And behind it, ahead of the second one's sync. -/
structure KJ (z i : Nat) (k l : Dk) : Prop where
  kd : k.d.length = z
  ld : l.d.length = z
  now : nowP l.d l.ws = nowP k.d k.ws
  kw : k.ws.length ≤ i + 1
  lw : l.ws.length ≤ 1
theorem KI.len {z i : Nat} {k l : Dk} (h : KI z i k l) : l.d.length = z := by rw [h.ld, nowP_len]; exact h.kd
theorem putP_len (d : List Int) (l : List (Int × List Int)) (p : Int) (xs : List Int) : (putP d l p xs).length ≤ l.length + 1 := by
  unfold putP
  split
  · simp
  · omega
theorem KI.sync {z i : Nat} {k l k' : Dk} (h : KI z i k l) (h1 : k'.d = nowP k.d k.ws) (h2 : k'.ws = []) : KJ z i k' l :=
  ⟨by rw [h1, nowP_len]; exact h.kd, h.len, by rw [h.lw, h1, h2, h.ld], by rw [h2]; simp, by rw [h.lw]; simp⟩
theorem KI.crash {z i : Nat} {k l k' l' : Dk} (h : KI z i k l) (h1 : k'.d.length = z) (h2 : k'.ws = []) (h3 : l'.d = l.d) (h4 : l'.ws = putP l.d l.ws 0 k'.d) : KJ z i k' l' := by
  have hl := h.len
  refine ⟨h1, by rw [h3]; exact hl, ?_, by rw [h2]; simp, by rw [h4]; have := putP_len l.d l.ws 0 k'.d; rw [h.lw] at this ⊢; simpa using this⟩
  rw [h3, h4, h2, h.lw]
  show nowP l.d (putP l.d [] 0 k'.d) = k'.d
  unfold putP
  by_cases hz : z = 0
  · have e1 := List.eq_nil_of_length_eq_zero (h1.trans hz)
    have e2 := List.eq_nil_of_length_eq_zero (hl.trans hz)
    rw [if_neg (fun e => e.2 e1), e1, e2]
    rfl
  · rw [if_pos ⟨by unfold rcV; rw [if_neg (by omega)], fun e => by rw [e] at h1; simp at h1; omega⟩]
    exact lay_whole _ _ (by rw [h1, hl])
theorem rcV_len {d e : List Int} (h : d.length = e.length) (p n : Int) : rcV d p n = rcV e p n := by unfold rcV; rw [h]
theorem KI.write {z i : Nat} {k l k' l' : Dk} (h : KI z i k l) (p : Int) (xs : List Int) (h1 : k'.d = k.d) (h2 : k'.ws = putP k.d k.ws p xs) (h3 : l'.d = l.d) (h4 : l'.ws = putP l.d l.ws p xs) : KJ z i k' l' := by
  have hl := h.len
  refine ⟨by rw [h1]; exact h.kd, by rw [h3]; exact hl, ?_, by rw [h2]; have := putP_len k.d k.ws p xs; have := h.kw; omega, by rw [h4]; have := putP_len l.d l.ws p xs; rw [h.lw] at this ⊢; simpa using this⟩
  rw [h1, h2, h3, h4, h.lw]
  unfold putP
  rw [rcV_len (show l.d.length = k.d.length by rw [hl, h.kd])]
  split
  · rw [List.nil_append, nowP_snoc, ← h.ld]
    rfl
  · exact h.ld
theorem KJ.sync {z i : Nat} {k l l' : Dk} (h : KJ z i k l) (h1 : l'.d = nowP l.d l.ws) (h2 : l'.ws = []) : KI z (i + 1) k l' := ⟨h.kd, h1.trans h.now, h2, h.kw⟩
/-- An act in a variable of its own. -/
def Av (w : World) (y : Ac) (w' : World) : Prop := Below w.heap.size w w' ∧ w.heap.size + 1 ≤ w'.heap.size ∧ w'.heap[w.heap.size]? = some (.cells y.cs.toArray 33 (0, 0))
theorem av_th (w : World) (y : Ac) : World.there (w.alloc (.cells #[.int .i64 0, .int .i64 0, .slice none 0 0, .slice none 0 0] 33)) w.heap.size 0 y.cs.length := fun j hj => by
  have h2 := Blk_new w #[.int .i64 0, .int .i64 0, .slice none 0 0, .slice none 0 0] 33
  rw [cell_of_row _ _ (0 + j) _ _ (0, 0) h2, frozen_of_row _ _ (0 + j) _ _ h2]
  refine ⟨?_, rfl⟩
  have hj3 : j < 4 := hj
  rw [Nat.zero_add, Array.getElem?_eq_getElem (by simpa using hj3)]
  rfl
theorem av_new (w : World) (y : Ac) : Av w y ((w.alloc (.cells #[.int .i64 0, .int .i64 0, .slice none 0 0, .slice none 0 0] 33)).setCells w.heap.size 0 y.cs) := by
  have h2 := Blk_new w #[.int .i64 0, .int .i64 0, .slice none 0 0, .slice none 0 0] 33
  have hb : Below w.heap.size w (w.alloc (.cells #[.int .i64 0, .int .i64 0, .slice none 0 0, .slice none 0 0] 33)) := (Below.refl _ _).alloc (Nat.le_refl _) _
  have hs : (w.alloc (.cells #[.int .i64 0, .int .i64 0, .slice none 0 0, .slice none 0 0] 33)).heap.size = w.heap.size + 1 := by simp
  obtain ⟨v, hv⟩ : ∃ z, w.alloc (.cells #[.int .i64 0, .int .i64 0, .slice none 0 0, .slice none 0 0] 33) = z := ⟨_, rfl⟩
  rw [hv] at h2 hs hb ⊢
  have hk : Kept (fun i => i = w.heap.size) v (v.setCells w.heap.size 0 y.cs) := by
    simp only [Ac.cs, World.setCells]
    exact (((Kept.setCell (S := fun i => i = w.heap.size) _ _ _ rfl).trans (Kept.setCell (S := fun i => i = w.heap.size) _ _ _ rfl) (fun _ _ e => e)).trans (Kept.setCell (S := fun i => i = w.heap.size) _ _ _ rfl) (fun _ _ e => e)).trans (Kept.setCell (S := fun i => i = w.heap.size) _ _ _ rfl) (fun _ _ e => e)
  refine ⟨hb.trans (hk.below (by omega) (fun i e => by omega)), by have := hk.size; omega, ?_⟩
  simp only [Ac.cs, World.setCells]
  rw [heap_setCell_same _ _ _ _ _ _ (heap_setCell_same _ _ _ _ _ _ (heap_setCell_same _ _ _ _ _ _ (heap_setCell_same _ _ _ _ _ _ h2)))]
  rfl
theorem infAct : (Try.prog.info? 33).map (·.size) = some 4 := by kernel_rfl
theorem Ac.one (y : Ac) : ∀ v ∈ y.cs, v.oneCell' = true := by
  intro v hv
  simp [Ac.cs] at hv
  rcases hv with rfl | rfl | rfl | rfl <;> rfl
section
variable {w : World} {b : Nat} {y : Ac}
theorem Ac.k0 (h : w.heap[b]? = some (.cells y.cs.toArray 33 (0, 0))) : w.cell? ⟨b, 0, none⟩ = some (.int .i64 y.d) := by rw [cell_of_row w b 0 _ _ (0, 0) h]; rfl
theorem Ac.k1 (h : w.heap[b]? = some (.cells y.cs.toArray 33 (0, 0))) : w.cell? ⟨b, 1, none⟩ = some (.int .i64 y.p) := by rw [cell_of_row w b 1 _ _ (0, 0) h]; rfl
theorem Ac.k2 (h : w.heap[b]? = some (.cells y.cs.toArray 33 (0, 0))) : w.cell? ⟨b, 2, none⟩ = some (.slice y.a y.n y.c) := by rw [cell_of_row w b 2 _ _ (0, 0) h]; rfl
theorem Ac.k3 (h : w.heap[b]? = some (.cells y.cs.toArray 33 (0, 0))) : w.cell? ⟨b, 3, none⟩ = some (.slice y.fa y.fn y.fc) := by rw [cell_of_row w b 3 _ _ (0, 0) h]; rfl
end
theorem Ms.rev3 {w wr : World} {l : List Th} {s0 s1 s2 : Th} (h : Ms w wr (s0 :: s1 :: s2 :: l)) : Ms w wr (s2 :: s1 :: s0 :: l) := h.to2.perm (List.Perm.cons _ (List.Perm.swap _ _ _))
/-- A row of fates, told by their cells. -/
def fcs (l : List Ft) : List Value := l.flatMap fun f => [.int .i64 f.1, .int .i64 f.2]
theorem fcs_len (l : List Ft) : (fcs l).length = l.length * 2 := by
  induction l with
  | nil => rfl
  | cons x l ih => simp only [fcs, List.flatMap_cons, List.length_append, List.length_cons] at ih ⊢; rw [ih]; simp; omega
theorem fcs_at : ∀ {l : List Ft} {i : Nat} {x : Ft}, l[i]? = some x → (fcs l)[i * 2]? = some (.int .i64 x.1) ∧ (fcs l)[i * 2 + 1]? = some (.int .i64 x.2)
  | y :: l, 0, x, h => by
    simp at h
    subst h
    exact ⟨rfl, rfl⟩
  | y :: l, i + 1, x, h => by
    have := fcs_at (l := l) (i := i) (x := x) (by simpa using h)
    have e : fcs (y :: l) = [Value.int .i64 y.1, Value.int .i64 y.2] ++ fcs l := rfl
    rw [e, List.getElem?_append_right (by simp; omega), List.getElem?_append_right (by simp; omega)]
    refine ⟨?_, ?_⟩
    · rw [← this.1]; congr 1; simp; omega
    · rw [← this.2]; congr 1; simp; omega
theorem fts_own {w : World} {B : Nat} {a : Option Addr} {c : Nat} {l : List Ft} (h : OwnG w B 44 2 a l.length c (fcs l)) : Fts w a l.length l := by
  refine ⟨rfl, fun hne => ?_⟩
  obtain ⟨g, e, hc⟩ := h.cell (by intro e; have := fcs_len l; rw [e] at this; cases l with | nil => exact hne rfl | cons x l => simp at this)
  refine ⟨g, 0, e, fun i f hf => ?_⟩
  obtain ⟨h1, h2⟩ := fcs_at hf
  have g1 := hc _ _ h1
  have g2 := hc _ _ h2
  exact ⟨g1, g2⟩
theorem infFtF : (Try.prog.info? 44).map (fun i => (i.zero, i.size, i.bytes)) = some (some (.agg #[.int .i64 0, .int .i64 0]), 2, 16) := by kernel_rfl
theorem keepF_snoc (n : Nat) : keepF (n + 1) = keepF n ++ [(1, (n : Int))] := by simp [keepF, List.range_succ]
theorem fcs_snoc (l : List Ft) (f : Ft) : fcs (l ++ [f]) = fcs l ++ [.int .i64 f.1, .int .i64 f.2] := by simp [fcs]
/-- What the law knows of a byte behind some writes. -/
def mayV (C d : List Int) (l : List (Int × List Int)) (j q : Nat) : Bool := decide (C.getD j 0 = d.getD j 0) || (l.take q).any (fun x => hitB x j (C.getD j 0))
theorem mayV_succ {C d : List Int} {l : List (Int × List Int)} {j q : Nat} {x : Int × List Int} (h : l[q]? = some x) : mayV C d l j (q + 1) = (mayV C d l j q || hitB x j (C.getD j 0)) := by
  have e : l.take (q + 1) = l.take q ++ [x] := by rw [List.take_add_one, h]; rfl
  unfold mayV
  rw [e, List.any_append, Bool.or_assoc]
  simp
theorem mayV_zero (C d : List Int) (l : List (Int × List Int)) (j : Nat) : mayV C d l j 0 = decide (C.getD j 0 = d.getD j 0) := by simp [mayV]
theorem Own.addr {w : World} {B n c : Nat} {a : Option Addr} {xs : List Int} (h : Own w B a n c xs) (hn : 0 < n) : ∃ g, a = some ⟨g, 0, none⟩ := by
  rcases h.cases with ⟨_, h0, _⟩ | ⟨g, _, e, _⟩
  · omega
  · exact ⟨g, e⟩
theorem Own.cell {w : World} {B n c g : Nat} {xs : List Int} (h : Own w B (some ⟨g, 0, none⟩) n c xs) {i : Nat} (hi : i < n) : w.cell? ⟨g, i, none⟩ = some (.int .u8 (xs.getD i 0)) := by
  have hl := h.len
  obtain ⟨b, o, e, hc⟩ := h.rd (by intro e; rw [e] at hl; simp at hl; omega)
  simp only [Option.some.injEq, Addr.mk.injEq, and_true] at e
  obtain ⟨rfl, rfl⟩ := e
  have := hc i (by omega)
  rwa [Nat.zero_add] at this
theorem Uws.cells {w : World} {B c gu : Nat} {L : List Uw} (h : Uws w B (some ⟨gu, 0, none⟩) c L) {q : Nat} {x : Uw} (hx : L[q]? = some x) : w.cell? ⟨gu, q * 2, none⟩ = some (.int .i64 x.at_) ∧ w.cell? ⟨gu, q * 2 + 1, none⟩ = some (.slice x.a x.n x.c) := by
  obtain ⟨u, e, hc⟩ := h.row.cell (by intro e; have := wts_len L; rw [e] at this; have := (List.getElem?_eq_some_iff.1 hx).1; simp at *; omega)
  have h0 := hc (q * 2 + 0) _ (wts_at hx 0 (by omega))
  have h1 := hc (q * 2 + 1) _ (wts_at hx 1 (by omega))
  rw [Nat.zero_add] at h0 h1
  simp only [Option.some.injEq, Addr.mk.injEq, and_true] at e
  subst e
  exact ⟨h0, h1⟩
theorem Uws.addr {w : World} {B c : Nat} {a : Option Addr} {L : List Uw} (h : Uws w B a c L) (hn : 0 < L.length) : ∃ g, a = some ⟨g, 0, none⟩ := by
  rcases h.row.cases with ⟨_, h0, _⟩ | ⟨g, _, e, _⟩
  · omega
  · exact ⟨g, e⟩
theorem keepF_len (n : Nat) : (keepF n).length = n := by simp [keepF]
end Go.Proofs.Ytbghdlgfpfeaeaa

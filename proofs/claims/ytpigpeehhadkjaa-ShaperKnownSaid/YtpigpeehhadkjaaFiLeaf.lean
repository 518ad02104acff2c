/-
  A queue in memory; the contracts of bytes.Clone, of an item's copied, and of a queue's New, Len, Size, Drops, Room, place, drop. Conditions: numbers that fit their Go types, items of at most a million bytes.
-/
import Derived.Test.YtpigpeehhadkjaaFiRow
namespace Go.Proofs.Ytpigpeehhadkjaa
open Go.RowKit

/-- An answer; the world has but drawn. -/
def Tells (w : World) (v : Value) (e : Ending) (w' : World) : Prop := e = .returned v ∧ ∃ m, w' = w.drewN m
/-- What is answered; all that was there is as it was. -/
def Gives (w : World) (v : Value) (e : Ending) (w' : World) : Prop := e = .returned v ∧ Below w.heap.size w w'
theorem eq_nil (w : World) (a : Option Addr) (n c : Nat) : (binOp .eql 38 (.slice a n c) (.slice none 0 0)).run Try.prog w = .ok (.bool a.isNone) w := Lib.run_eql_slice_nil w _ _ a n c 0 0 Try.underlying38

set_option maxRecDepth 100000 in
set_option maxHeartbeats 1000000 in
theorem clone_any (a : Option Addr) (n c : Nat) (xs : List Int) (w : World) (hn : xs.length = n) (hr : Rd w a xs) (hlim : n ≤ 70368744177664) :
    Calls Try.prog 76 #[.slice a n c] w (Made w xs) := by
  have he := eq_nil w a n c
  cases a with
  | none =>
    have hx : xs = [] := by
      cases xs with
      | nil => rfl
      | cons y ys => obtain ⟨_, _, h, _⟩ := hr (by simp); cases h
    subst hx
    have he' : (binOp .eql 38 (.slice none n c) (.slice none 0 0)).run Try.prog w = .ok (.bool true) w := he
    clear hr he hn
    go_enter Try.func76, Try.ntmps76
    go_wp2_with fail
    go_ret
    exact ⟨none, 0, 0, rfl, Own.nil _ _, Below.refl _ _⟩
  | some ad =>
    have he' : (binOp .eql 38 (.slice (some ad) n c) (.slice none 0 0)).run Try.prog w = .ok (.bool false) w := he
    clear he
    have h0 := Own.lit w w.heap.size [] 0 rfl (by decide) (Nat.le_refl _)
    obtain ⟨a', cap', w1, hrun, hown, hg, hb⟩ := run_append_rd (w.alloc (.cells #[] 5)) w.heap.size 38 h0 c hn (hr.below ((Below.refl _ _).alloc (Nat.le_refl _) _)) (by omega) (by simp)
    rw [List.nil_append, Nat.zero_add] at hown
    rw [Nat.zero_add] at hrun
    have HR := Lib.hid hrun
    have HF : Hid (Made w xs (.returned (.slice a' n cap')) w1) := ⟨a', n, cap', rfl, hown, ((Below.refl _ _).alloc (Nat.le_refl _) _).grown hg (by simp) (fun k hk => by simp [blk] at hk; omega)⟩
    clear hrun hown hg hb hn hr h0 hlim
    go_enter Try.func76, Try.ntmps76
    go_wp2_with (at_builtin; refine Lib.wpList_append_run _ rfl _ _ _ _ rfl _ _ rfl rfl _ _ HR.out ?_)
    go_ret
    exact HF.out

/-- An item's data lie there. -/
structure Pi.at_ (x : Pi) (w : World) : Prop where
  len : x.d.length = x.n
  rd : Rd w x.a x.d
  byt : Byt x.d
  few : x.n ≤ 1000000
theorem Pi.at_.keep {x : Pi} {S : Nat → Prop} {w w' : World} (h : x.at_ w) (k : Kept S w w') (hn : ∀ b, blk x.a = some b → ¬ S b) : x.at_ w' := ⟨h.len, h.rd.keep k hn, h.byt, h.few⟩
theorem Pi.at_.below {x : Pi} {w w' : World} (h : x.at_ w) (k : Below w.heap.size w w') : x.at_ w' := ⟨h.len, h.rd.below k, h.byt, h.few⟩
/-- An item's copy: its data in memory of its own. -/
structure Twin (base : Nat) (x y : Pi) (w : World) : Prop where
  no : y.no = x.no
  sz : y.sz = x.sz
  d : y.d = x.d
  own : Own w base y.a y.n y.c y.d
theorem Twin.at_ {B : Nat} {x y : Pi} {w w0 : World} (h : Twin B x y w) (hx : x.at_ w0) : y.at_ w := ⟨h.own.len, h.own.rd, h.d ▸ hx.byt, by have h1 := h.own.len; have h2 := hx.len; have h3 := hx.few; rw [h.d] at h1; omega⟩

set_option maxRecDepth 100000 in
set_option maxHeartbeats 1000000 in
theorem copied_any (x : Pi) (w : World) (hx : x.at_ w) : Calls Try.prog 63 #[x.v] w fun e w' => ∃ y : Pi, e = .returned y.v ∧ Twin w.heap.size x y w' ∧ Below w.heap.size w w' := by
  obtain ⟨no, sz, a, n, c, d⟩ := x
  have HX := Lib.hid hx
  show Calls Try.prog 63 #[.agg #[.int .u64 no, .int .i64 sz, .slice a n c]] w _
  clear hx
  go_enter Try.func63, Try.ntmps63
  go_wp2_with fail
  refine (clone_any a n c d _ HX.out.len (HX.out.rd.below (((Below.refl _ _).alloc (Nat.le_refl _) _).alloc (by simp) _)) (by have := HX.out.few; simp at this; omega)).mono ?_
  rintro e w1 ⟨a1, n1, c1, rfl, ho, hb⟩
  have HO : Hid (Own w1 w.heap.size a1 n1 c1 d ∧ Below w.heap.size w w1 ∧ w.heap.size + 2 ≤ w1.heap.size) := ⟨ho.mono (by simp; omega), (((Below.refl _ _).alloc (Nat.le_refl _) _).alloc (by simp) _).trans (hb.mono (by simp; omega)), by have := hb.size; simpa using this⟩
  have r0 : w1.heap[w.heap.size]? = some (.cells #[.int .u64 no, .int .i64 sz, .slice a n c] 40 (0, 0)) := by
    rw [hb.block _ (by simp; omega), Below.heap_alloc _ _ _ (by simp)]; exact Blk_new w _ _
  have r1 : w1.heap[w.heap.size + 1]? = some (.cells #[.int .u64 0, .int .i64 0, .slice none 0 0] 40 (0, 0)) := by
    rw [hb.block _ (by simp)]
    have := Blk_new (w.alloc (.cells #[.int .u64 no, .int .i64 sz, .slice a n c] 40)) #[.int .u64 0, .int .i64 0, .slice none 0 0] 40
    simpa using this
  have hgo := fun k hk => (ho.blk_ge k hk).1
  have HG : Hid (∀ k, blk a1 = some k → w.heap.size + 2 ≤ k) := fun k hk => by have := hgo k hk; simpa using this
  clear ho hb hgo HX
  have c0 : w1.cell? ⟨w.heap.size, 0, none⟩ = some (.int .u64 no) := by rw [cell_of_row w1 _ 0 _ _ (0, 0) r0]; rfl
  have c1' : w1.cell? ⟨w.heap.size, 1, none⟩ = some (.int .i64 sz) := by rw [cell_of_row w1 _ 1 _ _ (0, 0) r0]; rfl
  have c2 : w1.cell? ⟨w.heap.size, 2, none⟩ = some (.slice a n c) := by rw [cell_of_row w1 _ 2 _ _ (0, 0) r0]; rfl
  have f2 : w1.frozen? ⟨w.heap.size, 2, none⟩ = false := frozen_of_row w1 _ 2 _ _ r0
  have d0 : w1.cell? ⟨w.heap.size + 1, 0, none⟩ = some (.int .u64 0) := by rw [cell_of_row w1 _ 0 _ _ (0, 0) r1]; rfl
  have d1 : w1.cell? ⟨w.heap.size + 1, 1, none⟩ = some (.int .i64 0) := by rw [cell_of_row w1 _ 1 _ _ (0, 0) r1]; rfl
  have d2 : w1.cell? ⟨w.heap.size + 1, 2, none⟩ = some (.slice none 0 0) := by rw [cell_of_row w1 _ 2 _ _ (0, 0) r1]; rfl
  have g0 : w1.frozen? ⟨w.heap.size + 1, 0, none⟩ = false := frozen_of_row w1 _ 0 _ _ r1
  have g1 : w1.frozen? ⟨w.heap.size + 1, 1, none⟩ = false := frozen_of_row w1 _ 1 _ _ r1
  have g2 : w1.frozen? ⟨w.heap.size + 1, 2, none⟩ = false := frozen_of_row w1 _ 2 _ _ r1
  clear r0 r1
  go_wp2_with fail
  refine bodyPost_ret (v := .agg #[.int .u64 no, .int .i64 sz, .slice a1 n1 c1]) (by simp [results, Try.results63, go_sem, *]) rfl ?_
  have hk : ∀ (u v x y : Value), Kept (fun k => k = w.heap.size ∨ k = w.heap.size + 1) w1 ((((w1.setCell ⟨w.heap.size, 2, none⟩ u).setCell ⟨w.heap.size + 1, 0, none⟩ v).setCell ⟨w.heap.size + 1, 1, none⟩ x).setCell ⟨w.heap.size + 1, 2, none⟩ y) := fun u v x y =>
    (((Kept.setCell _ _ _ (.inl rfl)).trans (Kept.setCell (S := fun k => k = w.heap.size ∨ k = w.heap.size + 1) _ _ _ (.inr rfl)) (fun _ _ h => h)).trans (Kept.setCell (S := fun k => k = w.heap.size ∨ k = w.heap.size + 1) _ _ _ (.inr rfl)) (fun _ _ h => h)).trans (Kept.setCell (S := fun k => k = w.heap.size ∨ k = w.heap.size + 1) _ _ _ (.inr rfl)) (fun _ _ h => h)
  exact ⟨⟨no, sz, a1, n1, c1, d⟩, rfl, ⟨rfl, rfl, rfl, HO.out.1.keep (hk _ _ _ _) (fun k hk' e => by have := HG.out k hk'; omega)⟩, HO.out.2.1.trans ((hk _ _ _ _).below HO.out.2.1.size (fun k e => by omega))⟩

/-- All items' sizes, together. -/
def sumS (l : List Pi) : Int := (l.map Pi.sz).sum
/-- A queue: its bounds, where its ring lies, the first place, the ring's places, its items, its drops. -/
structure Qs where
  I : Int
  S : Int
  a : Option Addr
  f : Nat
  R : List Pi
  L : List Pi
  D : Int
def Qs.cs (q : Qs) : List Value := [.int .i64 q.I, .int .i64 q.S, .slice q.a q.R.length q.R.length, .int .i64 q.f, .int .i64 q.L.length, .int .i64 (sumS q.L), .int .u64 q.D]
structure Qs.ok (q : Qs) : Prop where
  nil : q.R = [] → q.a = none ∧ q.f = 0
  at_ : ∀ i x, q.L[i]? = some x → q.R[(q.f + i) % q.R.length]? = some x
  le : q.L.length ≤ q.R.length
  fl : q.R ≠ [] → q.f < q.R.length
  mI : (q.R.length : Int) ≤ q.I
  I1 : q.I ≤ 65536
  S1 : q.S ≤ 9223372036854775807
  sz : ∀ x ∈ q.L, 0 ≤ x.sz
  sum : sumS q.L ≤ q.S
  D0 : 0 ≤ q.D
  D1 : q.D ≤ 18446744073709551615
/-- A queue lies there, all of it in blocks from a base on. -/
structure Qu (w : World) (B g : Nat) (q : Qs) : Prop where
  ok : q.ok
  row : w.heap[g]? = some (.cells q.cs.toArray 122 (0, 0))
  ring : q.R ≠ [] → ∃ r, q.a = some ⟨r, 0, none⟩ ∧ B ≤ r ∧ w.heap[r]? = some (.cells (rws q.R).toArray 40 (0, 0))
  data : ∀ x ∈ q.L, Own w B x.a x.n x.c x.d ∧ Byt x.d ∧ x.n ≤ 1000000
  base : B ≤ g
/-- The blocks that a queue's parts lie in. -/
def Qs.foot (q : Qs) (g : Nat) (k : Nat) : Prop := k = g ∨ blk q.a = some k ∨ ∃ x ∈ q.L, blk x.a = some k
theorem sumS_nil : sumS [] = 0 := rfl
theorem sumS_snoc (l : List Pi) (x : Pi) : sumS (l ++ [x]) = sumS l + x.sz := by simp [sumS]
theorem sumS_cons (l : List Pi) (x : Pi) : sumS (x :: l) = x.sz + sumS l := by simp [sumS]
theorem sumS_pos : ∀ {l : List Pi}, (∀ x ∈ l, 0 ≤ x.sz) → 0 ≤ sumS l
  | [], _ => by simp [sumS]
  | x :: l, h => by
    rw [sumS_cons]
    have := sumS_pos (l := l) (fun y hy => h y (List.mem_cons_of_mem _ hy))
    have := h x List.mem_cons_self
    omega
section
variable {w w' : World} {B g : Nat} {q : Qs}
theorem Qu.cell (h : Qu w B g q) (j : Nat) (v : Value) (hv : q.cs[j]? = some v) : w.cell? ⟨g, j, none⟩ = some v := by rw [cell_of_row w g j _ _ (0, 0) h.row]; simpa using hv
theorem Qu.c0 (h : Qu w B g q) : w.cell? ⟨g, 0, none⟩ = some (.int .i64 q.I) := h.cell 0 _ rfl
theorem Qu.c1 (h : Qu w B g q) : w.cell? ⟨g, 1, none⟩ = some (.int .i64 q.S) := h.cell 1 _ rfl
theorem Qu.c2 (h : Qu w B g q) : w.cell? ⟨g, 2, none⟩ = some (.slice q.a q.R.length q.R.length) := h.cell 2 _ rfl
theorem Qu.c3 (h : Qu w B g q) : w.cell? ⟨g, 3, none⟩ = some (.int .i64 q.f) := h.cell 3 _ rfl
theorem Qu.c4 (h : Qu w B g q) : w.cell? ⟨g, 4, none⟩ = some (.int .i64 q.L.length) := h.cell 4 _ rfl
theorem Qu.c5 (h : Qu w B g q) : w.cell? ⟨g, 5, none⟩ = some (.int .i64 (sumS q.L)) := h.cell 5 _ rfl
theorem Qu.c6 (h : Qu w B g q) : w.cell? ⟨g, 6, none⟩ = some (.int .u64 q.D) := h.cell 6 _ rfl
theorem Qu.frozen (h : Qu w B g q) (j : Nat) : w.frozen? ⟨g, j, none⟩ = false := frozen_of_row w g j _ _ h.row
theorem Qu.lt (h : Qu w B g q) : g < w.heap.size := (Array.getElem?_eq_some_iff.1 h.row).1
theorem Qu.keep {S : Nat → Prop} (h : Qu w B g q) (k : Kept S w w') (hs : ∀ i, q.foot g i → ¬ S i) : Qu w' B g q :=
  ⟨h.ok, k.heap h.row (hs g (.inl rfl)), fun hne => by
    obtain ⟨r, e, hb, hr⟩ := h.ring hne
    exact ⟨r, e, hb, k.heap hr (hs r (.inr (.inl (by rw [e]; rfl))))⟩,
    fun x hx => ⟨(h.data x hx).1.keep k (fun b hb => hs b (.inr (.inr ⟨x, hx, hb⟩))), (h.data x hx).2⟩, h.base⟩
theorem Qu.foot_lt (h : Qu w B g q) {k : Nat} (hk : q.foot g k) : B ≤ k ∧ k < w.heap.size := by
  rcases hk with rfl | hk | ⟨x, hx, hk⟩
  · exact ⟨h.base, h.lt⟩
  · have hne : q.R ≠ [] := by intro e; rw [(h.ok.nil e).1] at hk; cases hk
    obtain ⟨r, e, hb, hr⟩ := h.ring hne
    rw [e] at hk
    simp [blk] at hk
    subst hk
    exact ⟨hb, (Array.getElem?_eq_some_iff.1 hr).1⟩
  · exact (h.data x hx).1.blk_ge k hk
theorem Qu.below (h : Qu w B g q) (k : Below w.heap.size w w') : Qu w' B g q := h.keep (S := fun _ => False) (Kept.of_below k (fun i hi hi' => by omega)) (fun _ _ => id)
theorem Qu.drewN (h : Qu w B g q) (m : Nat) : Qu (w.drewN m) B g q := h.keep (Kept.drewN (S := fun _ => False) m) (fun _ _ => id)
/-- What kinds of cells a queue's blocks hold. -/
theorem Qu.kind (h : Qu w B g q) {k : Nat} (hk : q.foot g k) : ∃ cur t, w.heap[k]? = some (.cells cur t (0, 0)) ∧ (t = 122 ∨ t = 40 ∨ t = 5) := by
  rcases hk with rfl | hk | ⟨x, hx, hk⟩
  · exact ⟨_, _, h.row, .inl rfl⟩
  · have hne : q.R ≠ [] := by intro e; rw [(h.ok.nil e).1] at hk; cases hk
    obtain ⟨r, e, hb, hr⟩ := h.ring hne
    rw [e] at hk
    simp [blk] at hk
    subst hk
    exact ⟨_, _, hr, .inr (.inl rfl)⟩
  · rcases (h.data x hx).1.cases with ⟨e, _⟩ | ⟨b, cur, e, _, hb, _⟩
    · rw [e] at hk; cases hk
    · rw [e] at hk
      simp [blk] at hk
      subst hk
      exact ⟨_, _, hb, .inr (.inr rfl)⟩
/-- A block of another kind is none of a queue's. -/
theorem Qu.apart (h : Qu w B g q) {k : Nat} {cur : Array Value} {t : TypeId} (hk : w.heap[k]? = some (.cells cur t (0, 0))) (h1 : t ≠ 122) (h2 : t ≠ 40) (h3 : t ≠ 5) : ¬ q.foot g k := fun hf => by
  obtain ⟨cur', t', e, ht⟩ := h.kind hf
  rw [hk] at e
  simp at e
  rcases ht with rfl | rfl | rfl
  · exact h1 e.2
  · exact h2 e.2
  · exact h3 e.2
theorem Qu.x (h : Qu w B g q) {x : Pi} (hx : x ∈ q.L) : x.at_ w := ⟨(h.data x hx).1.len, (h.data x hx).1.rd, (h.data x hx).2.1, (h.data x hx).2.2⟩
end

/-- A new queue. -/
theorem qu_new (w : World) (I S : Int) (h0 : 0 ≤ I) (h1 : I ≤ 65536) (h2 : 0 ≤ S) (h3 : S ≤ 9223372036854775807) : Qu (w.alloc (.cells (Qs.cs ⟨I, S, none, 0, [], [], 0⟩).toArray 122)) w.heap.size w.heap.size ⟨I, S, none, 0, [], [], 0⟩ :=
  ⟨⟨fun _ => ⟨rfl, rfl⟩, fun i x h => by simp at h, Nat.le_refl _, fun h => absurd rfl h, h0, h1, h3, fun x h => by simp at h, h2, Int.le_refl 0, (show (0 : Int) ≤ 18446744073709551615 by decide)⟩, Blk_new _ _ _, fun h => absurd rfl h, fun x h => by simp at h, Nat.le_refl _⟩

set_option maxRecDepth 100000 in
set_option maxHeartbeats 1000000 in
theorem fNew_any (I S : Int) (w : World) (h0 : 0 ≤ I) (h1 : I ≤ 65536) (h2 : 0 ≤ S) (h3 : S ≤ 9223372036854775807) :
    Calls Try.prog 26 #[.int .i64 I, .int .i64 S] w fun e w' => ∃ g, e = .returned (.tuple #[.pointer (some ⟨g, 0, none⟩), .int .i64 0]) ∧ w.heap.size ≤ g ∧ Qu w' w.heap.size g ⟨I, S, none, 0, [], [], 0⟩ ∧ Below w.heap.size w w' := by
  have HN := Lib.hid (qu_new w I S h0 h1 h2 h3)
  have n1 : ¬ I < 0 := by omega
  have n2 : ¬ S < 0 := by omega
  have n3 : ¬ 65536 < I := by omega
  go_enter Try.func26, Try.ntmps26
  go_wp2_with fail
  go_ret2
  exact ⟨_, rfl, Nat.le_refl _, HN.out, (Below.refl _ _).alloc (Nat.le_refl _) _⟩
theorem fNew_no (I S : Int) (w : World) (h : I < 0 ∨ S < 0 ∨ 65536 < I) :
    Calls Try.prog 26 #[.int .i64 I, .int .i64 S] w fun e w' => e = .returned (.tuple #[.pointer none, .int .i64 2]) ∧ w' = w := by
  by_cases h1 : I < 0
  · go_enter Try.func26, Try.ntmps26
    go_wp2_with fail
    go_ret2
    exact ⟨rfl, rfl⟩
  by_cases h2 : S < 0
  · go_enter Try.func26, Try.ntmps26
    go_wp2_with fail
    go_ret2
    exact ⟨rfl, rfl⟩
  have h3 : 65536 < I := by omega
  clear h
  go_enter Try.func26, Try.ntmps26
  go_wp2_with fail
  go_ret2
  exact ⟨rfl, rfl⟩

theorem fLen_any (B g : Nat) (q : Qs) (w : World) (h : Qu w B g q) : Calls Try.prog 61 #[.pointer (some ⟨g, 0, none⟩)] w fun e w' => e = .returned (.int .i64 q.L.length) ∧ w' = w := by
  have c4 := h.c4
  clear h
  go_enter Try.func61, Try.ntmps61
  go_wp2_with fail
  go_ret
  exact ⟨rfl, rfl⟩
theorem fLen_nil (w : World) : Calls Try.prog 61 #[.pointer none] w fun e w' => e = .returned (.int .i64 0) ∧ w' = w := by
  go_enter Try.func61, Try.ntmps61
  go_wp2_with fail
  go_ret
  exact ⟨rfl, rfl⟩
/-- Where the item stands that has i others ahead of it. -/
theorem fPlace_any (g f i m : Nat) (a : Option Addr) (w : World) (c2 : w.cell? ⟨g, 2, none⟩ = some (.slice a m m)) (c3 : w.cell? ⟨g, 3, none⟩ = some (.int .i64 f)) (hm : 0 < m) (hm1 : m ≤ 1000000) (hf : f ≤ 1000000) (hi : i ≤ 1000000) :
    Calls Try.prog 62 #[.pointer (some ⟨g, 0, none⟩), .int .i64 i] w (Tells w (.int .i64 (((f + i) % m : Nat) : Int))) := by
  have e1 : IntKind.i64.wrap ((f : Int) + (i : Int)) = ((f + i : Nat) : Int) := by rw [IntKind.wrap_i64]; omega
  have e2 : (((f + i : Nat) : Int)).tmod (m : Int) = (((f + i) % m : Nat) : Int) := by rw [Int.tmod_eq_emod_of_nonneg (by omega)]; rfl
  have hp : (f + i) % m < m := Nat.mod_lt _ hm
  obtain ⟨p, hpe⟩ : ∃ p, (f + i) % m = p := ⟨_, rfl⟩
  obtain ⟨s, hs⟩ : ∃ s, f + i = s := ⟨_, rfl⟩
  rw [hpe] at e2 hp ⊢
  rw [hs] at e1 e2
  have e3 : IntKind.i64.wrap ((p : Nat) : Int) = ((p : Nat) : Int) := by rw [IntKind.wrap_i64]; omega
  have e4 : ((m : Int) == 0) = false := by simp; omega
  have e5 : ¬ (m : Int) = 0 := by omega
  clear hpe
  go_enter Try.func62, Try.ntmps62
  go_wp2_with fail
  go_quiet (fail)
  go_wp2_with fail
  go_ret
  exact ⟨rfl, _, rfl⟩
/-- Is there room for a size? -/
def Qs.room (q : Qs) (s : Int) : Bool := decide (0 ≤ s) && (decide ((q.L.length : Int) < q.I) && decide (s ≤ q.S - sumS q.L))
theorem fRoom_any (B g : Nat) (q : Qs) (s : Int) (w : World) (h : Qu w B g q) : Calls Try.prog 64 #[.pointer (some ⟨g, 0, none⟩), .int .i64 s] w (Tells w (.bool (q.room s))) := by
  have HR : Hid (q.room s = (decide (0 ≤ s) && (decide ((q.L.length : Int) < q.I) && decide (s ≤ q.S - sumS q.L)))) := rfl
  have c0 := h.c0
  have c1 := h.c1
  have c4 := h.c4
  have c5 := h.c5
  have hs0 := sumS_pos h.ok.sz
  have hs1 := h.ok.sum
  have hs2 := h.ok.S1
  obtain ⟨S, hS⟩ : ∃ z, sumS q.L = z := ⟨_, rfl⟩
  rw [hS] at HR c5 hs0 hs1
  have e1 : IntKind.i64.wrap (q.S - S) = q.S - S := by rw [IntKind.wrap_i64]; omega
  clear h hS
  by_cases h0 : 0 ≤ s
  · by_cases h1 : (q.L.length : Int) < q.I
    · have hv : q.room s = decide (s ≤ q.S - S) := by rw [HR.out, decide_eq_true h0, decide_eq_true h1]; rfl
      rw [hv]
      clear HR hv
      go_enter Try.func64, Try.ntmps64
      go_wp2_with fail
      go_quiet (fail)
      go_wp2_with fail
      go_ret
      exact ⟨rfl, _, rfl⟩
    · have hv : q.room s = false := by rw [HR.out, decide_eq_true h0, decide_eq_false h1]; rfl
      rw [hv]
      clear HR hv
      have d1 : decide ((q.L.length : Int) < q.I) = false := decide_eq_false h1
      clear h1
      go_enter Try.func64, Try.ntmps64
      go_wp2_with fail
      go_quiet (fail)
      go_wp2_with fail
      go_ret
      exact ⟨rfl, _, rfl⟩
  · have hv : q.room s = false := by rw [HR.out, decide_eq_false h0]; rfl
    rw [hv]
    clear HR hv
    have d0 : decide (0 ≤ s) = false := decide_eq_false h0
    clear h0
    go_enter Try.func64, Try.ntmps64
    go_wp2_with fail
    go_quiet (fail)
    go_wp2_with fail
    go_ret
    exact ⟨rfl, _, rfl⟩
theorem fRoom_nil (s : Int) (w : World) : Calls Try.prog 64 #[.pointer none, .int .i64 s] w (Tells w (.bool false)) := by
  go_enter Try.func64, Try.ntmps64
  go_wp2_with fail
  go_quiet (fail)
  go_wp2_with fail
  go_ret
  exact ⟨rfl, _, rfl⟩

theorem Qu.drops {w : World} {B g : Nat} {q : Qs} (h : Qu w B g q) {D : Int} (h0 : 0 ≤ D) (h1 : D ≤ 18446744073709551615) : Qu (w.setCell ⟨g, 6, none⟩ (.int .u64 D)) B g { q with D := D } := by
  have hk : Kept (fun k => k = g) w (w.setCell ⟨g, 6, none⟩ (.int .u64 D)) := Kept.setCell _ _ _ rfl
  have hr : (w.setCell ⟨g, 6, none⟩ (.int .u64 D)).heap[g]? = some (.cells (Qs.cs { q with D := D }).toArray 122 (0, 0)) := by rw [heap_setCell_same w g 6 _ _ _ h.row]; rfl
  refine ⟨⟨h.ok.nil, h.ok.at_, h.ok.le, h.ok.fl, h.ok.mI, h.ok.I1, h.ok.S1, h.ok.sz, h.ok.sum, h0, h1⟩, hr, fun hne => ?_, fun x hx => ⟨(h.data x hx).1.keep hk (fun b hb e => ?_), (h.data x hx).2⟩, h.base⟩
  · obtain ⟨r, e, hb, hr2⟩ := h.ring hne
    refine ⟨r, e, hb, hk.heap hr2 (fun e2 => ?_)⟩
    rw [e2] at hr2
    have := hr2.symm.trans h.row
    simp at this
  · rcases (h.data x hx).1.cases with ⟨e3, _⟩ | ⟨b', cur, e3, _, hb', _⟩
    · rw [e3] at hb; cases hb
    · rw [e3] at hb
      simp [blk] at hb
      rw [hb, e] at hb'
      have := hb'.symm.trans h.row
      simp at this
/-- A push that is a drop. -/
theorem fDrop_any (B g : Nat) (q : Qs) (w : World) (h : Qu w B g q) : Calls Try.prog 65 #[.pointer (some ⟨g, 0, none⟩)] w fun e w' => e = .returned (.tuple #[]) ∧ Qu w' B g { q with D := if q.D < 18446744073709551615 then q.D + 1 else q.D } ∧ Kept (fun k => k = g) w w' := by
  have c6 := h.c6
  have f6 := h.frozen 6
  have h0 := h.ok.D0
  have h1 := h.ok.D1
  have HQ := Lib.hid h
  clear h
  by_cases hd : q.D < 18446744073709551615
  · have e1 : IntKind.u64.wrap (q.D + 1) = q.D + 1 := by rw [IntKind.wrap_u64]; omega
    rw [if_pos hd]
    have HN := Lib.hid (HQ.out.drops (D := q.D + 1) (by omega) (by omega))
    go_enter Try.func65, Try.ntmps65
    go_wp2_with fail
    go_end0
    exact ⟨rfl, HN.out, Kept.setCell _ _ _ rfl⟩
  · rw [if_neg hd]
    go_enter Try.func65, Try.ntmps65
    go_wp2_with fail
    go_end0
    exact ⟨rfl, HQ.out, Kept.refl _ _⟩
end Go.Proofs.Ytpigpeehhadkjaa

/-
  A disk in memory; the contracts of New and Size, and of what a disk that is not there answers. Conditions: those that the theorems name.
-/
import Derived.Test.YtbghdlgfpfeaeaaDkLaid
import Derived.Lib.AppendZeros
namespace Go.Proofs.Ytbghdlgfpfeaeaa
open Go.RowKit

theorem Kept.drewN {S : Nat → Prop} {w : World} : ∀ (m : Nat), Kept S w (w.drewN m)
  | _ => ⟨rfl, rfl, rfl, Nat.le_refl _, fun _ _ _ => rfl⟩
def wts (l : List Uw) : List Value := l.flatMap Uw.cs
theorem wts_append (l m : List Uw) : wts (l ++ m) = wts l ++ wts m := by simp [wts]
theorem Uw.one (x : Uw) : ∀ v ∈ x.cs, v.oneCell' = true := by
  intro v hv
  simp [Uw.cs] at hv
  rcases hv with rfl | rfl <;> rfl
theorem wts_one (l : List Uw) : ∀ v ∈ wts l, v.oneCell' = true := by
  intro v hv
  obtain ⟨x, _, h⟩ := List.mem_flatMap.1 hv
  exact x.one v h
theorem wts_len : ∀ (l : List Uw), (wts l).length = l.length * 2
  | [] => rfl
  | x :: l => by
    have := wts_len l
    simp only [wts, List.flatMap_cons, List.length_append, List.length_cons] at this ⊢
    rw [this]
    simp [Uw.cs]
    omega
theorem wts_at : ∀ {l : List Uw} {i : Nat} {x : Uw}, l[i]? = some x → ∀ (j : Nat), j < 2 → (wts l)[i * 2 + j]? = x.cs[j]?
  | y :: l, 0, x, h, j, hj => by
    simp at h
    subst h
    have h2 : y.cs.length = 2 := rfl
    simp only [wts, List.flatMap_cons]
    rw [List.getElem?_append_left (by omega)]
    congr 1
    omega
  | y :: l, i + 1, x, h, j, hj => by
    have h2 : y.cs.length = 2 := rfl
    have := wts_at (l := l) (i := i) (x := x) (by simpa using h) j hj
    simp only [wts, List.flatMap_cons] at this ⊢
    rw [List.getElem?_append_right (by omega), ← this]
    congr 1
    omega

/-- A row of writes of the call's own, their data in rows of the call's own, apart from one another. -/
structure Uws (w : World) (B : Nat) (a : Option Addr) (c : Nat) (l : List Uw) : Prop where
  row : OwnG w B 46 2 a l.length c (wts l)
  data : ∀ x ∈ l, Own w B x.a x.n x.c x.d
  apart : l.Pairwise (fun x y => ∀ k, blk x.a = some k → blk y.a ≠ some k)
/-- A disk: its bytes, where they lie; its unsynced writes, where they lie. -/
structure Dk where
  a : Option Addr
  c : Nat
  d : List Int
  u : Option Addr
  v : Nat
  W : List Uw
def Dk.cs (k : Dk) : List Value := [.slice k.a k.d.length k.c, .slice k.u k.W.length k.v]
structure Dk.ok (k : Dk) : Prop where
  few : k.d.length ≤ 65536
  byt : Byt k.d
  at0 : ∀ x ∈ k.W, 0 ≤ x.at_
  at1 : ∀ x ∈ k.W, x.at_ + x.d.length ≤ k.d.length
  wbyt : ∀ x ∈ k.W, Byt x.d
/-- A disk lies there, all of it in blocks from a base on. -/
structure Dm (w : World) (B g : Nat) (k : Dk) : Prop where
  ok : k.ok
  row : w.heap[g]? = some (.cells k.cs.toArray 53 (0, 0))
  dur : Own w B k.a k.d.length k.c k.d
  wr : Uws w B k.u k.v k.W
  off : ∀ x ∈ k.W, ∀ b, blk k.a = some b → blk x.a ≠ some b
  base : B ≤ g
/-- The blocks that a disk's parts lie in. -/
def Dk.foot (k : Dk) (g : Nat) (i : Nat) : Prop := i = g ∨ blk k.a = some i ∨ blk k.u = some i ∨ ∃ x ∈ k.W, blk x.a = some i
section
variable {w w' : World} {B g : Nat} {k : Dk}
theorem Dm.cell (h : Dm w B g k) (j : Nat) (v : Value) (hv : k.cs[j]? = some v) : w.cell? ⟨g, j, none⟩ = some v := by rw [cell_of_row w g j _ _ (0, 0) h.row]; simpa using hv
theorem Dm.c0 (h : Dm w B g k) : w.cell? ⟨g, 0, none⟩ = some (.slice k.a k.d.length k.c) := h.cell 0 _ rfl
theorem Dm.c1 (h : Dm w B g k) : w.cell? ⟨g, 1, none⟩ = some (.slice k.u k.W.length k.v) := h.cell 1 _ rfl
theorem Dm.frozen (h : Dm w B g k) (j : Nat) : w.frozen? ⟨g, j, none⟩ = false := frozen_of_row w g j _ _ h.row
theorem Dm.lt (h : Dm w B g k) : g < w.heap.size := (Array.getElem?_eq_some_iff.1 h.row).1
theorem Uws.keep {S : Nat → Prop} {a : Option Addr} {c : Nat} {l : List Uw} (h : Uws w B a c l) (hk : Kept S w w') (h1 : ∀ b, blk a = some b → ¬ S b) (h2 : ∀ x ∈ l, ∀ b, blk x.a = some b → ¬ S b) : Uws w' B a c l :=
  ⟨h.row.keep hk h1, fun x hx => (h.data x hx).keep hk (h2 x hx), h.apart⟩
theorem Dm.keep {S : Nat → Prop} (h : Dm w B g k) (hk : Kept S w w') (hs : ∀ i, k.foot g i → ¬ S i) : Dm w' B g k :=
  ⟨h.ok, hk.heap h.row (hs g (.inl rfl)), h.dur.keep hk (fun b hb => hs b (.inr (.inl hb))), h.wr.keep hk (fun b hb => hs b (.inr (.inr (.inl hb)))) (fun x hx b hb => hs b (.inr (.inr (.inr ⟨x, hx, hb⟩)))), h.off, h.base⟩
theorem Dm.foot_lt (h : Dm w B g k) {i : Nat} (hi : k.foot g i) : B ≤ i ∧ i < w.heap.size := by
  rcases hi with rfl | hi | hi | ⟨x, hx, hi⟩
  · exact ⟨h.base, h.lt⟩
  · exact h.dur.blk_ge i hi
  · exact h.wr.row.blk_ge i hi
  · exact (h.wr.data x hx).blk_ge i hi
theorem Dm.below (h : Dm w B g k) (hk : Below w.heap.size w w') : Dm w' B g k := h.keep (S := fun _ => False) (Kept.of_below hk (fun i hi hi' => by omega)) (fun _ _ => id)
theorem Dm.drewN (h : Dm w B g k) (m : Nat) : Dm (w.drewN m) B g k := h.keep (Kept.drewN (S := fun _ => False) m) (fun _ _ => id)
theorem Dm.lies (h : Dm w B g k) {x : Uw} (hx : x ∈ k.W) : x.lies w := ⟨(h.wr.data x hx).len, (h.wr.data x hx).rd, h.ok.wbyt x hx, by have h1 := h.ok.at1 x hx; have h2 := h.ok.few; have h3 := h.ok.at0 x hx; have h4 := (h.wr.data x hx).len; omega⟩
/-- What kinds of cells a disk's blocks hold. -/
theorem Dm.kind (h : Dm w B g k) {i : Nat} (hi : k.foot g i) : ∃ cur t, w.heap[i]? = some (.cells cur t (0, 0)) ∧ (t = 53 ∨ t = 46 ∨ t = 5) := by
  have hb : ∀ {a n c xs}, Own w B a n c xs → blk a = some i → ∃ cur t, w.heap[i]? = some (.cells cur t (0, 0)) ∧ (t = 53 ∨ t = 46 ∨ t = 5) := fun ho e => by
    rcases ho.cases with ⟨e2, _⟩ | ⟨b, cur, e2, _, hb, _⟩
    · rw [e2] at e; cases e
    · rw [e2] at e
      simp [blk] at e
      subst e
      exact ⟨_, _, hb, .inr (.inr rfl)⟩
  rcases hi with rfl | hi | hi | ⟨x, hx, hi⟩
  · exact ⟨_, _, h.row, .inl rfl⟩
  · exact hb h.dur hi
  · rcases h.wr.row.cases with ⟨e2, _⟩ | ⟨b, cur, e2, _, hb2, _⟩
    · rw [e2] at hi; cases hi
    · rw [e2] at hi
      simp [blk] at hi
      subst hi
      exact ⟨_, _, hb2, .inr (.inl rfl)⟩
  · exact hb (h.wr.data x hx) hi
/-- A block of another kind is none of a disk's. -/
theorem Dm.apart (h : Dm w B g k) {i : Nat} {cur : Array Value} {t : TypeId} (hk : w.heap[i]? = some (.cells cur t (0, 0))) (h1 : t ≠ 53) (h2 : t ≠ 46) (h3 : t ≠ 5) : ¬ k.foot g i := fun hf => by
  obtain ⟨cur', t', e, ht⟩ := h.kind hf
  rw [hk] at e
  simp at e
  rcases ht with rfl | rfl | rfl
  · exact h1 e.2
  · exact h2 e.2
  · exact h3 e.2
end

theorem dkSize_any (B g : Nat) (k : Dk) (w : World) (h : Dm w B g k) : Calls Try.prog 18 #[.pointer (some ⟨g, 0, none⟩)] w fun e w' => e = .returned (.int .i64 k.d.length) ∧ w' = w := by
  have c0 := h.c0
  clear h
  go_enter Try.func18, Try.ntmps18
  go_wp2_with fail
  go_ret
  exact ⟨rfl, rfl⟩
theorem dkSize_nil (w : World) : Calls Try.prog 18 #[.pointer none] w fun e w' => e = .returned (.int .i64 0) ∧ w' = w := by
  go_enter Try.func18, Try.ntmps18
  go_wp2_with fail
  go_ret
  exact ⟨rfl, rfl⟩
theorem dkSync_nil (w : World) : Calls Try.prog 10 #[.pointer none] w fun e w' => e = .returned (.int .i64 1) ∧ w' = w := by
  go_enter Try.func10, Try.ntmps10
  go_wp2_with fail
  go_ret
  exact ⟨rfl, rfl⟩
theorem dkUnsynced_nil (w : World) : Calls Try.prog 16 #[.pointer none] w fun e w' => e = .returned (.slice none 0 0) ∧ w' = w := by
  go_enter Try.func16, Try.ntmps16
  go_wp2_with fail
  go_ret
  exact ⟨rfl, rfl⟩
theorem dkCrash_nil (w : World) (v : Value) : Calls Try.prog 11 #[.pointer none, v] w fun e w' => e = .returned (.int .i64 0) ∧ w' = w := by
  go_enter Try.func11, Try.ntmps11
  go_wp2_with fail
  go_ret
  exact ⟨rfl, rfl⟩
theorem dkCopy_nil (w : World) : Calls Try.prog 17 #[.pointer none] w fun e w' => e = .returned (.pointer none) ∧ w' = w := by
  go_enter Try.func17, Try.ntmps17
  go_wp2_with fail
  go_ret
  exact ⟨rfl, rfl⟩
theorem dkNew_neg (n : Int) (w : World) (h : n < 0) : Calls Try.prog 9 #[.int .i64 n] w fun e w' => e = .returned (.tuple #[.pointer none, .int .i64 2]) ∧ w' = w := by
  go_enter Try.func9, Try.ntmps9
  go_wp2_with fail
  go_ret2
  exact ⟨rfl, rfl⟩
theorem dkNew_much (n : Int) (w : World) (h : 65536 < n) : Calls Try.prog 9 #[.int .i64 n] w fun e w' => e = .returned (.tuple #[.pointer none, .int .i64 3]) ∧ w' = w := by
  have h0 : ¬ n < 0 := by omega
  go_enter Try.func9, Try.ntmps9
  go_wp2_with fail
  go_ret2
  exact ⟨rfl, rfl⟩
end Go.Proofs.Ytbghdlgfpfeaeaa

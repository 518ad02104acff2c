/-
  ShaperKnown: the statement's function, which takes nothing, answers true. No conditions. (Made by gen_spkn.py.)
-/
import Derived.Test.YtpigpeehhadkjaaSpPlays
import Derived.Test.YtpigpeehhadkjaaSpBounds
import Derived.Test.YtpigpeehhadkjaaSpEarly
namespace Go.Proofs.Ytpigpeehhadkjaa
open Go.RowKit Bkt
set_option maxRecDepth 100000
set_option maxHeartbeats 4000000

theorem claK_info : (Try.prog.info? 45).map (fun i => (i.zero, i.size, i.bytes)) = some (some (.agg #[.int .u64 0, .int .u64 0, .int .i64 0, .int .i64 0]), 4, 32) := by kernel_rfl
theorem actK_info : (Try.prog.info? 42).map (fun i => (i.zero, i.size, i.bytes)) = some (some (.agg #[.int .i64 0, .int .i64 0, .int .u64 0, .int .i64 0, .slice none 0 0, .int .u64 0]), 6, 64) := by kernel_rfl
theorem Ac.len6 (y : Ac) : y.cs.length = 6 := rfl
/-- An act whose item has no data. -/
structure Nk (y : Ac) : Prop where
  d0 : -9223372036854775808 ≤ y.d
  d1 : y.d ≤ 9223372036854775807
  c0 : -9223372036854775808 ≤ y.c
  c1 : y.c ≤ 9223372036854775807
  no0 : 0 ≤ y.x.no
  no1 : y.x.no ≤ 18446744073709551615
  s0 : -9223372036854775808 ≤ y.x.sz
  s1 : y.x.sz ≤ 9223372036854775807
  t0 : 0 ≤ y.t
  t1 : y.t ≤ 18446744073709551615
  x : y.x.a = none ∧ y.x.n = 0 ∧ y.x.c = 0 ∧ y.x.d = []
theorem Nk.ok {y : Ac} (h : Nk y) (w : World) : y.ok w := by
  obtain ⟨h1, h2, h3, h4, h5, h6, h7, h8, h9, h10, e1, e2, e3, e4⟩ := h
  refine ⟨h1, h2, h3, h4, ⟨h5, h6, h7, h8, by rw [e4, e2]; rfl, by rw [e2, e3]; exact Nat.le_refl _, fun hne => absurd e4 hne, by rw [e4]; exact Byt.nil⟩, h9, h10⟩
/-- Classes so far. -/
structure Kc (w wr : World) (a : Option Addr) (n c : Nat) (l : List Cs) : Prop where
  own : OwnG wr w.heap.size 45 4 a n c (l.flatMap Cs.cs)
  ok : ∀ y ∈ l, y.ok
  below : Below w.heap.size w wr
/-- Acts so far. -/
structure Ks (w wr : World) (a : Option Addr) (n c : Nat) (l : List Ac) : Prop where
  own : OwnG wr w.heap.size 42 6 a n c (l.flatMap Ac.cs)
  ok : ∀ y ∈ l, Nk y
  below : Below w.heap.size w wr
section
variable {w wr w' : World} {a : Option Addr} {n c : Nat} {l : List Cs} {la : List Ac}
theorem Kc.past (h : Kc w wr a n c l) (k : Below wr.heap.size wr w') : Kc w w' a n c l := ⟨h.own.below k, h.ok, h.below.trans (k.mono h.below.size)⟩
theorem Ks.past (h : Ks w wr a n c la) (k : Below wr.heap.size wr w') : Ks w w' a n c la := ⟨h.own.below k, h.ok, h.below.trans (k.mono h.below.size)⟩
theorem rcs_of {B : Nat} (h : OwnG wr B 45 4 a n c (l.flatMap Cs.cs)) (ok : ∀ y ∈ l, y.ok) : Rcs wr a n l := by
  have hl : l.length = n := h.flat Cs.len (by decide)
  refine ⟨hl, ok, fun hne => ?_⟩
  obtain ⟨x, hx⟩ : ∃ x, l[0]? = some x := ⟨_, List.getElem?_eq_getElem (List.length_pos_iff.2 hne)⟩
  obtain ⟨r, e, _, _⟩ := h.nth Cs.len (by decide) hx
  refine ⟨r, 0, e, fun i y hy => ?_⟩
  obtain ⟨r2, e2, hr, _⟩ := h.nth Cs.len (by decide) hy
  rw [e] at e2
  cases e2
  rw [Nat.zero_add]
  exact hr
theorem acr_of {B : Nat} (h : OwnG wr B 42 6 a n c (la.flatMap Ac.cs)) (ok : ∀ y ∈ la, Nk y) : Acr wr a n la := by
  have hl : la.length = n := h.flat Ac.len6 (by decide)
  refine ⟨hl, fun y hy => (ok y hy).ok wr, fun hne => ?_⟩
  obtain ⟨x, hx⟩ : ∃ x, la[0]? = some x := ⟨_, List.getElem?_eq_getElem (List.length_pos_iff.2 hne)⟩
  obtain ⟨r, e, _, _⟩ := h.nth Ac.len6 (by decide) hx
  refine ⟨r, 0, e, fun i y hy => ?_⟩
  obtain ⟨r2, e2, hr, _⟩ := h.nth Ac.len6 (by decide) hy
  rw [e] at e2
  cases e2
  rw [Nat.zero_add]
  exact hr
theorem Acr.takeK (h : Acr w a n la) {k : Nat} (hk : k ≤ n) : Acr w a k (la.take k) := by
  refine ⟨by rw [List.length_take, h.len]; omega, fun y hy => h.ok y (List.mem_of_mem_take hy), fun hne => ?_⟩
  obtain ⟨b, o, e, hc⟩ := h.cells (fun e => hne (by rw [e]; simp))
  refine ⟨b, o, e, fun i y hy => hc i y ?_⟩
  rw [List.getElem?_take] at hy
  split at hy
  · exact hy
  · cases hy
theorem Kc.grow (h : Kc w wr a n c l) (y : Cs) (hy : y.ok) (hn : n ≤ 60) :
    ∃ g c' w', (Builtin.append_ #[23, 23] 23 #[.slice a n c, .slice (some ⟨wr.heap.size, 0, none⟩) 1 1]).run Try.prog (wr.alloc (.cells #[.int .u64 y.r, .int .u64 y.B, .int .i64 y.I, .int .i64 y.S] 45)) = .ok (.slice (some ⟨g, 0, none⟩) (n + 1) c') w' ∧ Kc w w' (some ⟨g, 0, none⟩) (n + 1) c' (l ++ [y]) := by
  obtain ⟨g, c', w1, hr1, ho1, hk1, _⟩ := run_append_one wr w.heap.size 23 23 45 _ 4 32 claK_info Try.underlying23 (by decide) (by decide) h.own y.cs rfl y.one h.below.size (by omega) (by omega)
  refine ⟨g, c', w1, hr1, by rw [List.flatMap_append]; simpa using ho1, fun z hz => ?_, h.below.trans (hk1.below h.below.size (fun k e => (h.own.blk_ge k e).1))⟩
  rcases List.mem_append.1 hz with hz | hz
  · exact h.ok z hz
  · simp at hz
    rw [hz]
    exact hy
theorem Ks.grow (h : Ks w wr a n c la) {a2 : Option Addr} {n2 c2 : Nat} (h2 : Kc w wr a2 n2 c2 l) (y : Ac) (hy : Nk y) (hn : n ≤ 60) :
    ∃ g c' w', (Builtin.append_ #[24, 24] 24 #[.slice a n c, .slice (some ⟨wr.heap.size, 0, none⟩) 1 1]).run Try.prog (wr.alloc (.cells y.cs.toArray 42)) = .ok (.slice (some ⟨g, 0, none⟩) (n + 1) c') w' ∧ Ks w w' (some ⟨g, 0, none⟩) (n + 1) c' (la ++ [y]) ∧ Kc w w' a2 n2 c2 l := by
  obtain ⟨g, c', w1, hr1, ho1, hk1, _⟩ := run_append_one wr w.heap.size 24 24 42 _ 6 64 actK_info Try.underlying24 (by decide) (by decide) h.own y.cs rfl (by
    intro u hu
    simp [Ac.cs] at hu
    rcases hu with rfl | rfl | rfl | rfl | rfl | rfl <;> rfl) h.below.size (by omega) (by omega)
  have hb : Below w.heap.size w w1 := h.below.trans (hk1.below h.below.size (fun k e => (h.own.blk_ge k e).1))
  refine ⟨g, c', w1, hr1, ⟨by rw [List.flatMap_append]; simpa using ho1, fun z hz => ?_, hb⟩, h2.own.keep hk1 (fun b hb1 => h2.own.apart h.own (by decide) b hb1), h2.ok, hb⟩
  rcases List.mem_append.1 hz with hz | hz
  · exact h.ok z hz
  · simp at hz
    rw [hz]
    exact hy
end
/-- The classes that may not be, and one about the bounds. -/
def oddL : List Cs := [⟨0, 2047, 0, 0⟩, ⟨0, 2048, -1, 0⟩, ⟨0, 2048, 0, -1⟩, ⟨0, 2048, 65537, 0⟩, ⟨18446744073709551615, 18446744073709551615, 65536, 9223372036854775807⟩]
def allL : List Ac := [⟨0, 0, ⟨0, 2048, none, 0, 0, []⟩, 0⟩, ⟨0, 0, ⟨0, 2049, none, 0, 0, []⟩, 0⟩, ⟨0, 0, ⟨0, -1, none, 0, 0, []⟩, 0⟩, ⟨0, -1, ⟨0, 0, none, 0, 0, []⟩, 0⟩, ⟨0, 1, ⟨0, 0, none, 0, 0, []⟩, 0⟩, ⟨3, 0, ⟨0, 0, none, 0, 0, []⟩, 18446744073709551615⟩, ⟨0, 0, ⟨0, 1, none, 0, 0, []⟩, 0⟩, ⟨3, 0, ⟨0, 0, none, 0, 0, []⟩, 0⟩, ⟨5, 0, ⟨0, 0, none, 0, 0, []⟩, 0⟩]
theorem odd_ok : ∀ y ∈ oddL, y.ok := by
  intro y hy
  simp [oddL] at hy
  rcases hy with rfl | rfl | rfl | rfl | rfl <;> exact ⟨by decide, by decide, by decide, by decide, by decide, by decide, by decide, by decide⟩
theorem all_ok : ∀ y ∈ allL, Nk y := by
  intro y hy
  simp [allL] at hy
  rcases hy with rfl | rfl | rfl | rfl | rfl | rfl | rfl | rfl | rfl <;> exact ⟨by decide, by decide, by decide, by decide, by decide, by decide, by decide, by decide, by decide, by decide, rfl, rfl, rfl, rfl⟩
/-- A row in a block. -/
theorem own_lit {w : World} {B g e size n : Nat} {vs : List Value} (h : w.heap[g]? = some (.cells vs.toArray e (0, 0))) (hB : B ≤ g) (hl : vs.length = n * size) (hm : n ≤ maxLen) : OwnG w B e size (some ⟨g, 0, none⟩) n n vs := by
  refine ⟨hl, .inr ⟨g, n, vs.toArray, rfl, hB, h, Nat.le_refl _, hm, ?_, ?_⟩⟩
  · simp [hl]
  · rw [← hl]; simp
/-- One class out of the row. -/
theorem odd_one {w : World} {g i : Nat} {x : Cs} (h : Rcs w (some ⟨g, 0, none⟩) 5 oddL) (hx : oddL[i]? = some x) : Rcs w (some ⟨g, i * 4, none⟩) 1 [x] := by
  refine ⟨rfl, fun y hy => ?_, fun _ => ⟨g, i * 4, rfl, fun j y hy => ?_⟩⟩
  · simp at hy
    rw [hy]
    exact h.ok x (List.mem_of_getElem? hx)
  · have hj : j = 0 := by
      have := (List.getElem?_eq_some_iff.1 hy).1
      simp at this
      exact this
    subst hj
    simp at hy
    subst hy
    obtain ⟨b, o, e, hc⟩ := h.cells (by decide)
    cases e
    have := hc i x hx
    rw [Nat.zero_add] at this
    rw [Nat.zero_mul, Nat.add_zero]
    exact this
theorem Rcs.none0 (w : World) : Rcs w none 0 [] := ⟨rfl, (fun _ h => by cases h), fun h => absurd rfl h⟩
theorem Acr.none0K (w : World) : Acr w none 0 [] := ⟨rfl, (fun _ h => by cases h), fun h => absurd rfl h⟩
def zc : Cs := ⟨0, 0, 0, 0⟩
theorem run_make_cla (W : World) : (Instr.makeSlice 23 (.int .i64 9) (.int .i64 9)).run Try.prog W = .ok (.slice (some ⟨W.heap.size, 0, none⟩) 9 9) (W.alloc (.cells ((List.replicate 9 zc).flatMap Cs.cs).toArray 45)) := by
  obtain ⟨i0, hi, hz0, hz1, hz2⟩ := info_parts claK_info
  have hr := run_make (P := Try.prog) W 23 45 i0 (.agg #[.int .u64 0, .int .u64 0, .int .i64 0, .int .i64 0]) Try.underlying23 hi hz0 .i64 .i64 9 9 (by decide) (by decide) (by rw [hz2]; decide) (by decide)
  rw [hz1] at hr
  rw [hr]
  have e : madeCells (Value.agg #[.int .u64 0, .int .u64 0, .int .i64 0, .int .i64 0]).cells (Int.toNat 9 * 4) = ((List.replicate 9 zc).flatMap Cs.cs).toArray := by kernel_rfl
  rw [e]
  rfl

noncomputable def KK : Code := Try.f7.body.getD .skip
theorem frKK {a : Act} (h : Fr 168 a) : ∃ f : Nat → Value, a = ⟨#[f 0, f 1, f 2, f 3, f 4, f 5, f 6, f 7, f 8, f 9, f 10, f 11, f 12, f 13, f 14, f 15, f 16, f 17, f 18, f 19, f 20, f 21, f 22, f 23, f 24, f 25, f 26, f 27, f 28, f 29, f 30, f 31, f 32, f 33, f 34, f 35, f 36, f 37, f 38, f 39, f 40, f 41, f 42, f 43, f 44, f 45, f 46, f 47, f 48, f 49, f 50, f 51, f 52, f 53, f 54, f 55, f 56, f 57, f 58, f 59, f 60, f 61, f 62, f 63, f 64, f 65, f 66, f 67, f 68, f 69, f 70, f 71, f 72, f 73, f 74, f 75, f 76, f 77, f 78, f 79, f 80, f 81, f 82, f 83, f 84, f 85, f 86, f 87, f 88, f 89, f 90, f 91, f 92, f 93, f 94, f 95, f 96, f 97, f 98, f 99, f 100, f 101, f 102, f 103, f 104, f 105, f 106, f 107, f 108, f 109, f 110, f 111, f 112, f 113, f 114, f 115, f 116, f 117, f 118, f 119, f 120, f 121, f 122, f 123, f 124, f 125, f 126, f 127, f 128, f 129, f 130, f 131, f 132, f 133, f 134, f 135, f 136, f 137, f 138, f 139, f 140, f 141, f 142, f 143, f 144, f 145, f 146, f 147, f 148, f 149, f 150, f 151, f 152, f 153, f 154, f 155, f 156, f 157, f 158, f 159, f 160, f 161, f 162, f 163, f 164, f 165, f 166, f 167], []⟩ ∧ ∀ i, f i = sl a i := fr_any h

theorem qn0 (w : World) (a : Act) (hf : Fr 168 a)  :
    Code.wp Try.prog (cAt [0] KK) (Exit.then (fun a' w' => Fr 168 a' ∧ w = w') Nope) a w := by
  obtain ⟨f, ha, hs⟩ := frKK hf
  clear hs hf 
  subst ha
  refine piece2 fun J0 K0 hJ0 hK0 => ?_
  conv => arg 2; whnf
  go_wp2_with fail
  refine Met.intro (hJ0 _ _ ?_)
  exact ⟨⟨rfl, rfl⟩, rfl⟩

theorem qn1 (w : World) (a : Act) (hf : Fr 168 a)  :
    Code.wp Try.prog (cAt [1,0] KK) (Exit.then (fun a' w' => Fr 168 a' ∧ sl a' 1 = .int .i64 1 ∧ w = w') Nope) a w := by
  obtain ⟨f, ha, hs⟩ := frKK hf
  clear hs hf 
  subst ha
  refine piece2 fun J0 K0 hJ0 hK0 => ?_
  conv => arg 2; whnf
  go_wp2_with fail
  refine Met.intro (hJ0 _ _ ?_)
  exact ⟨⟨rfl, rfl⟩, rfl, rfl⟩

theorem qn2 (wr : World) (k : Nat) (a : Act) (hf : Fr 168 a) (h1 : sl a 1 = .int .i64 (k : Int)) :
    Code.wp Try.prog (cAt [1,1,0,0] KK) (Exit.then (fun a' w' => Fr 168 a' ∧ sl a' 1 = .int .i64 (k : Int) ∧ sl a' 2 = .int .i64 0 ∧ wr = w') Nope) a wr := by
  obtain ⟨f, ha, hs⟩ := frKK hf
  rw [(hs 1).trans h1] at ha
  clear hs hf h1
  subst ha
  refine piece2 fun J0 K0 hJ0 hK0 => ?_
  conv => arg 2; whnf
  go_wp2_with fail
  refine Met.intro (hJ0 _ _ ?_)
  exact ⟨⟨rfl, rfl⟩, rfl, rfl, rfl⟩

theorem qn3 (wr : World) (k n : Nat) (hn : n < 80) (a : Act) (hf : Fr 168 a) (h1 : sl a 1 = .int .i64 (k : Int)) (h2 : sl a 2 = .int .i64 (n : Int)) :
    Code.wp Try.prog (cAt [1,1,0,1,2,2,0] KK) (Exit.then (fun a' w' => Fr 168 a' ∧ sl a' 1 = .int .i64 (k : Int) ∧ sl a' 2 = .int .i64 (n : Int) ∧ wr = w') Nope) a wr := by
  obtain ⟨f, ha, hs⟩ := frKK hf
  rw [(hs 1).trans h1, (hs 2).trans h2] at ha
  clear hs hf h1 h2
  subst ha
  refine piece2 fun J0 K0 hJ0 hK0 => ?_
  conv => arg 2; whnf
  have hn2 : (n : Int) < 80 := by omega
  go_wp2_with fail
  refine Met.intro (hJ0 _ _ ?_)
  exact ⟨⟨rfl, rfl⟩, rfl, rfl, rfl⟩

theorem qn3x (wr : World) (k n : Nat) (hn : ¬ n < 80) (a : Act) (hf : Fr 168 a) (h1 : sl a 1 = .int .i64 (k : Int)) (h2 : sl a 2 = .int .i64 (n : Int)) :
    Code.wp Try.prog (cAt [1,1,0,1,2,2] KK) (Outs 0 (fun a' w' => Fr 168 a' ∧ wr = w')) a wr := by
  obtain ⟨f, ha, hs⟩ := frKK hf
  rw [(hs 1).trans h1, (hs 2).trans h2] at ha
  clear hs hf h1 h2
  subst ha
  conv => arg 2; whnf
  have hn2 : ¬ (n : Int) < 80 := by omega
  go_wp2_with fail
  exact ⟨rfl, ⟨rfl, rfl⟩, rfl⟩

theorem qn4 (wr : World) (k n : Nat) (hn : n < 80) (a : Act) (hf : Fr 168 a) (h1 : sl a 1 = .int .i64 (k : Int)) (h2 : sl a 2 = .int .i64 (n : Int)) :
    Code.wp Try.prog (cAt [1,1,0,1,2,2,1,1] KK) (Exit.then (fun a' w' => Fr 168 a' ∧ sl a' 1 = .int .i64 (k : Int) ∧ sl a' 2 = .int .i64 ((n : Int) + 1) ∧ wr = w') Nope) a wr := by
  obtain ⟨f, ha, hs⟩ := frKK hf
  rw [(hs 1).trans h1, (hs 2).trans h2] at ha
  clear hs hf h1 h2
  subst ha
  refine piece2 fun J0 K0 hJ0 hK0 => ?_
  conv => arg 2; whnf
  have hw : IntKind.i64.wrap ((n : Int) + 1) = (n : Int) + 1 := by rw [IntKind.wrap_i64]; omega
  go_wp2_with fail
  refine Met.intro (hJ0 _ _ ?_)
  exact ⟨⟨rfl, rfl⟩, rfl, rfl, rfl⟩

theorem qn5 (wr : World) (k n : Nat) (a : Act) (hf : Fr 168 a) (h1 : sl a 1 = .int .i64 (k : Int)) (h2 : sl a 2 = .int .i64 (n : Int)) :
    Code.wp Try.prog (cAt [1,1,0,1,2,2,1,0,2,0] KK) (Exit.then (fun a' w' => Fr 168 a' ∧ sl a' 1 = .int .i64 (k : Int) ∧ sl a' 2 = .int .i64 (n : Int) ∧ sl a' 3 = .slice none 0 0 ∧ wr = w') Nope) a wr := by
  obtain ⟨f, ha, hs⟩ := frKK hf
  rw [(hs 1).trans h1, (hs 2).trans h2] at ha
  clear hs hf h1 h2
  subst ha
  refine piece2 fun J0 K0 hJ0 hK0 => ?_
  conv => arg 2; whnf
  go_wp2_with fail
  refine Met.intro (hJ0 _ _ ?_)
  exact ⟨⟨rfl, rfl⟩, rfl, rfl, rfl, rfl⟩

theorem qn6 (wr : World) (k n : Nat) (xa : Option Addr) (m c : Nat) (a : Act) (hf : Fr 168 a) (h1 : sl a 1 = .int .i64 (k : Int)) (h2 : sl a 2 = .int .i64 (n : Int)) (h3 : sl a 3 = .slice xa m c) :
    Code.wp Try.prog (cAt [1,1,0,1,2,2,1,0,2,1,0,0] KK) (Exit.then (fun a' w' => Fr 168 a' ∧ sl a' 1 = .int .i64 (k : Int) ∧ sl a' 2 = .int .i64 (n : Int) ∧ sl a' 3 = .slice xa m c ∧ sl a' 4 = .int .i64 0 ∧ wr = w') Nope) a wr := by
  obtain ⟨f, ha, hs⟩ := frKK hf
  rw [(hs 1).trans h1, (hs 2).trans h2, (hs 3).trans h3] at ha
  clear hs hf h1 h2 h3
  subst ha
  refine piece2 fun J0 K0 hJ0 hK0 => ?_
  conv => arg 2; whnf
  go_wp2_with fail
  refine Met.intro (hJ0 _ _ ?_)
  exact ⟨⟨rfl, rfl⟩, rfl, rfl, rfl, rfl, rfl⟩

theorem qn7 (wr : World) (k n : Nat) (xa : Option Addr) (m c : Nat) (i : Nat) (hi : i ≤ n % 4) (a : Act) (hf : Fr 168 a) (h1 : sl a 1 = .int .i64 (k : Int)) (h2 : sl a 2 = .int .i64 (n : Int)) (h3 : sl a 3 = .slice xa m c) (h4 : sl a 4 = .int .i64 (i : Int)) :
    Code.wp Try.prog (cAt [1,1,0,1,2,2,1,0,2,1,0,1,2,2,0] KK) (Exit.then (fun a' w' => Fr 168 a' ∧ sl a' 1 = .int .i64 (k : Int) ∧ sl a' 2 = .int .i64 (n : Int) ∧ sl a' 3 = .slice xa m c ∧ sl a' 4 = .int .i64 (i : Int) ∧ wr = w') Nope) a wr := by
  obtain ⟨f, ha, hs⟩ := frKK hf
  rw [(hs 1).trans h1, (hs 2).trans h2, (hs 3).trans h3, (hs 4).trans h4] at ha
  clear hs hf h1 h2 h3 h4
  subst ha
  refine piece2 fun J0 K0 hJ0 hK0 => ?_
  conv => arg 2; whnf
  obtain ⟨n4, e4⟩ : ∃ z : Nat, n % 4 = z := ⟨_, rfl⟩
  have et : (n : Int).tmod 4 = (n4 : Int) := by rw [← e4]; rfl
  have hi2 : (i : Int) ≤ (n4 : Int) := by omega
  clear e4 hi
  go_wp2_with fail
  refine Met.intro (hJ0 _ _ ?_)
  exact ⟨⟨rfl, rfl⟩, rfl, rfl, rfl, rfl, rfl⟩

theorem qn7x (wr : World) (k n : Nat) (xa : Option Addr) (m c : Nat) (i : Nat) (hi : ¬ i ≤ n % 4) (a : Act) (hf : Fr 168 a) (h1 : sl a 1 = .int .i64 (k : Int)) (h2 : sl a 2 = .int .i64 (n : Int)) (h3 : sl a 3 = .slice xa m c) (h4 : sl a 4 = .int .i64 (i : Int)) :
    Code.wp Try.prog (cAt [1,1,0,1,2,2,1,0,2,1,0,1,2,2] KK) (Outs 2 (fun a' w' => Fr 168 a' ∧ sl a' 1 = .int .i64 (k : Int) ∧ sl a' 2 = .int .i64 (n : Int) ∧ sl a' 3 = .slice xa m c ∧ wr = w')) a wr := by
  obtain ⟨f, ha, hs⟩ := frKK hf
  rw [(hs 1).trans h1, (hs 2).trans h2, (hs 3).trans h3, (hs 4).trans h4] at ha
  clear hs hf h1 h2 h3 h4
  subst ha
  conv => arg 2; whnf
  obtain ⟨n4, e4⟩ : ∃ z : Nat, n % 4 = z := ⟨_, rfl⟩
  have et : (n : Int).tmod 4 = (n4 : Int) := by rw [← e4]; rfl
  have hi2 : ¬ (i : Int) ≤ (n4 : Int) := by omega
  clear e4 hi
  go_wp2_with fail
  exact ⟨rfl, ⟨rfl, rfl⟩, rfl, rfl, rfl, rfl⟩

theorem qn8 (wr : World) (k n : Nat) (xa : Option Addr) (m c : Nat) (i : Nat) (hi : i < 1000) (a : Act) (hf : Fr 168 a) (h1 : sl a 1 = .int .i64 (k : Int)) (h2 : sl a 2 = .int .i64 (n : Int)) (h3 : sl a 3 = .slice xa m c) (h4 : sl a 4 = .int .i64 (i : Int)) :
    Code.wp Try.prog (cAt [1,1,0,1,2,2,1,0,2,1,0,1,2,2,1,1] KK) (Exit.then (fun a' w' => Fr 168 a' ∧ sl a' 1 = .int .i64 (k : Int) ∧ sl a' 2 = .int .i64 (n : Int) ∧ sl a' 3 = .slice xa m c ∧ sl a' 4 = .int .i64 ((i : Int) + 1) ∧ wr = w') Nope) a wr := by
  obtain ⟨f, ha, hs⟩ := frKK hf
  rw [(hs 1).trans h1, (hs 2).trans h2, (hs 3).trans h3, (hs 4).trans h4] at ha
  clear hs hf h1 h2 h3 h4
  subst ha
  refine piece2 fun J0 K0 hJ0 hK0 => ?_
  conv => arg 2; whnf
  have hw : IntKind.i64.wrap ((i : Int) + 1) = (i : Int) + 1 := by rw [IntKind.wrap_i64]; omega
  go_wp2_with fail
  refine Met.intro (hJ0 _ _ ?_)
  exact ⟨⟨rfl, rfl⟩, rfl, rfl, rfl, rfl, rfl⟩

theorem qn9 (w : World) (wr : World) (k n : Nat) (xa : Option Addr) (m c : Nat) (i : Nat) (l : List Cs) (hm : m ≤ 60) (_hk : k < 100003) (HC : Hid (Kc w wr xa m c l)) (a : Act) (hf : Fr 168 a) (h1 : sl a 1 = .int .i64 (k : Int)) (h2 : sl a 2 = .int .i64 (n : Int)) (h3 : sl a 3 = .slice xa m c) (h4 : sl a 4 = .int .i64 (i : Int)) :
    Code.wp Try.prog (cAt [1,1,0,1,2,2,1,0,2,1,0,1,2,2,1,0,2,0] KK) (Exit.then (fun a' w' => ∃ (g c' : Nat) (l' : List Cs), Fr 168 a' ∧ sl a' 1 = .int .i64 (k : Int) ∧ sl a' 2 = .int .i64 (n : Int) ∧ sl a' 3 = .slice (some ⟨g, 0, none⟩) (m + 1) c' ∧ sl a' 4 = .int .i64 (i : Int) ∧ Kc w w' (some ⟨g, 0, none⟩) (m + 1) c' l') Nope) a wr := by
  obtain ⟨f, ha, hs⟩ := frKK hf
  rw [(hs 1).trans h1, (hs 2).trans h2, (hs 3).trans h3, (hs 4).trans h4] at ha
  clear hs hf h1 h2 h3 h4
  subst ha
  refine piece2 fun J0 K0 hJ0 hK0 => ?_
  conv => arg 2; whnf
  obtain ⟨a7, e7, l7⟩ : ∃ z : Nat, (k : Int).tmod 700 = (z : Int) ∧ z < 700 := ⟨k % 700, rfl, Nat.mod_lt _ (by decide)⟩
  obtain ⟨b3, e3, l3⟩ : ∃ z : Nat, (k : Int).tmod 3000 = (z : Int) ∧ z < 3000 := ⟨k % 3000, rfl, Nat.mod_lt _ (by decide)⟩
  obtain ⟨d6, e6, l6⟩ : ∃ z : Nat, (k : Int).tmod 6 = (z : Int) ∧ z < 6 := ⟨k % 6, rfl, Nat.mod_lt _ (by decide)⟩
  obtain ⟨f9, e9, l9⟩ : ∃ z : Nat, (k : Int).tmod 9000 = (z : Int) ∧ z < 9000 := ⟨k % 9000, rfl, Nat.mod_lt _ (by decide)⟩
  have w7 : IntKind.u64.wrap (a7 : Int) = (a7 : Int) := by rw [IntKind.wrap_u64]; omega
  have w3 : IntKind.i64.wrap (2048 + (b3 : Int)) = 2048 + (b3 : Int) := by rw [IntKind.wrap_i64]; omega
  have w3u : IntKind.u64.wrap (2048 + (b3 : Int)) = 2048 + (b3 : Int) := by rw [IntKind.wrap_u64]; omega
  have w6 : IntKind.i64.wrap (1 + (d6 : Int)) = 1 + (d6 : Int) := by rw [IntKind.wrap_i64]; omega
  have w9 : IntKind.i64.wrap (1000 + (f9 : Int)) = 1000 + (f9 : Int) := by rw [IntKind.wrap_i64]; omega
  obtain ⟨g, c', w2, hrun, hkc⟩ := HC.out.grow ⟨(a7 : Int), 2048 + (b3 : Int), 1 + (d6 : Int), 1000 + (f9 : Int)⟩ ⟨by show (0 : Int) ≤ (a7 : Int); omega, by show (a7 : Int) ≤ _; omega, by show 0 ≤ 2048 + (b3 : Int); omega, by show 2048 + (b3 : Int) ≤ _; omega, by show _ ≤ 1 + (d6 : Int); omega, by show 1 + (d6 : Int) ≤ _; omega, by show _ ≤ 1000 + (f9 : Int); omega, by show 1000 + (f9 : Int) ≤ _; omega⟩ hm
  have HRUN := Lib.hid hrun
  have HK := Lib.hid hkc
  clear hrun hkc l7 l3 l6 l9 hm
  go_wp2_with (at_builtin; first | (refine Lib.wpList_append_run _ rfl (.tmp 21) (.tmp 36) _ _ rfl _ _ rfl rfl _ _ HRUN.out ?_) | fail)
  refine Met.intro (hJ0 _ _ ?_)
  exact ⟨g, c', _, ⟨rfl, rfl⟩, rfl, rfl, rfl, rfl, HK.out⟩

theorem qn10 (wr : World) (k n : Nat) (xa : Option Addr) (m c : Nat) (i : Nat) (hv : i < 1000) (hk : k < 100003) (a : Act) (hf : Fr 168 a) (h1 : sl a 1 = .int .i64 (k : Int)) (h2 : sl a 2 = .int .i64 (n : Int)) (h3 : sl a 3 = .slice xa m c) (h4 : sl a 4 = .int .i64 (i : Int)) :
    Code.wp Try.prog (cAt [1,1,0,1,2,2,1,0,2,1,0,1,2,2,1,0,2,1] KK) (Exit.then (fun a' w' => ∃ (k' : Nat), Fr 168 a' ∧ sl a' 1 = .int .i64 (k' : Int) ∧ sl a' 2 = .int .i64 (n : Int) ∧ sl a' 3 = .slice xa m c ∧ sl a' 4 = .int .i64 (i : Int) ∧ k' < 100003 ∧ wr = w') Nope) a wr := by
  obtain ⟨f, ha, hs⟩ := frKK hf
  rw [(hs 1).trans h1, (hs 2).trans h2, (hs 3).trans h3, (hs 4).trans h4] at ha
  clear hs hf h1 h2 h3 h4
  subst ha
  refine piece2 fun J0 K0 hJ0 hK0 => ?_
  conv => arg 2; whnf
  have e1 : (((k * 31 + 7 * i + 11 : Nat) : Int)).tmod 100003 = ((k * 31 + 7 * i + 11) % 100003 : Nat) := rfl
  have e2 : ((k : Int) * 31 + 7 * (i : Int) + 11).tmod 100003 = (((k * 31 + 7 * i + 11) % 100003 : Nat) : Int) := by rw [← e1]; congr 1
  have w1 : IntKind.i64.wrap ((k : Int) * 31) = (k : Int) * 31 := by rw [IntKind.wrap_i64]; omega
  have w2 : IntKind.i64.wrap (7 * (i : Int)) = 7 * (i : Int) := by rw [IntKind.wrap_i64]; omega
  have w3 : IntKind.i64.wrap ((k : Int) * 31 + 7 * (i : Int)) = (k : Int) * 31 + 7 * (i : Int) := by rw [IntKind.wrap_i64]; omega
  have w4 : IntKind.i64.wrap ((k : Int) * 31 + 7 * (i : Int) + 11) = (k : Int) * 31 + 7 * (i : Int) + 11 := by rw [IntKind.wrap_i64]; omega
  obtain ⟨k', hk'⟩ : ∃ z, (k * 31 + 7 * i + 11) % 100003 = z := ⟨_, rfl⟩
  have hlt : k' < 100003 := by omega
  rw [hk'] at e2
  clear hk' e1
  have HLT := Lib.hid hlt
  clear hlt
  go_wp2_with fail
  refine Met.intro (hJ0 _ _ ?_)
  exact ⟨k', ⟨rfl, rfl⟩, rfl, rfl, rfl, rfl, HLT.out, rfl⟩

theorem qn11 (wr : World) (k n : Nat) (xa : Option Addr) (m c : Nat) (a : Act) (hf : Fr 168 a) (h1 : sl a 1 = .int .i64 (k : Int)) (h2 : sl a 2 = .int .i64 (n : Int)) (h3 : sl a 3 = .slice xa m c) :
    Code.wp Try.prog (cAt [1,1,0,1,2,2,1,0,2,1,1,0] KK) (Exit.then (fun a' w' => Fr 168 a' ∧ sl a' 1 = .int .i64 (k : Int) ∧ sl a' 2 = .int .i64 (n : Int) ∧ sl a' 3 = .slice xa m c ∧ sl a' 5 = .slice none 0 0 ∧ wr = w') Nope) a wr := by
  obtain ⟨f, ha, hs⟩ := frKK hf
  rw [(hs 1).trans h1, (hs 2).trans h2, (hs 3).trans h3] at ha
  clear hs hf h1 h2 h3
  subst ha
  refine piece2 fun J0 K0 hJ0 hK0 => ?_
  conv => arg 2; whnf
  go_wp2_with fail
  refine Met.intro (hJ0 _ _ ?_)
  exact ⟨⟨rfl, rfl⟩, rfl, rfl, rfl, rfl, rfl⟩

theorem qn12 (wr : World) (k n : Nat) (xa : Option Addr) (m c : Nat) (a : Act) (hf : Fr 168 a) (h1 : sl a 1 = .int .i64 (k : Int)) (h2 : sl a 2 = .int .i64 (n : Int)) (h3 : sl a 3 = .slice xa m c) (h5 : sl a 5 = .slice none 0 0) :
    Code.wp Try.prog (cAt [1,1,0,1,2,2,1,0,2,1,1,1,0] KK) (Exit.then (fun a' w' => Fr 168 a' ∧ sl a' 1 = .int .i64 (k : Int) ∧ sl a' 2 = .int .i64 (n : Int) ∧ sl a' 3 = .slice xa m c ∧ sl a' 5 = .slice none 0 0 ∧ sl a' 6 = .int .u64 0 ∧ wr = w') Nope) a wr := by
  obtain ⟨f, ha, hs⟩ := frKK hf
  rw [(hs 1).trans h1, (hs 2).trans h2, (hs 3).trans h3, (hs 5).trans h5] at ha
  clear hs hf h1 h2 h3 h5
  subst ha
  refine piece2 fun J0 K0 hJ0 hK0 => ?_
  conv => arg 2; whnf
  go_wp2_with fail
  refine Met.intro (hJ0 _ _ ?_)
  exact ⟨⟨rfl, rfl⟩, rfl, rfl, rfl, rfl, rfl, rfl⟩

theorem qn13 (wr : World) (k n : Nat) (xa : Option Addr) (m c : Nat) (a : Act) (hf : Fr 168 a) (h1 : sl a 1 = .int .i64 (k : Int)) (h2 : sl a 2 = .int .i64 (n : Int)) (h3 : sl a 3 = .slice xa m c) (h5 : sl a 5 = .slice none 0 0) (h6 : sl a 6 = .int .u64 0) :
    Code.wp Try.prog (cAt [1,1,0,1,2,2,1,0,2,1,1,1,1,0,0] KK) (Exit.then (fun a' w' => Fr 168 a' ∧ sl a' 1 = .int .i64 (k : Int) ∧ sl a' 2 = .int .i64 (n : Int) ∧ sl a' 3 = .slice xa m c ∧ sl a' 5 = .slice none 0 0 ∧ sl a' 6 = .int .u64 0 ∧ sl a' 7 = .int .i64 0 ∧ wr = w') Nope) a wr := by
  obtain ⟨f, ha, hs⟩ := frKK hf
  rw [(hs 1).trans h1, (hs 2).trans h2, (hs 3).trans h3, (hs 5).trans h5, (hs 6).trans h6] at ha
  clear hs hf h1 h2 h3 h5 h6
  subst ha
  refine piece2 fun J0 K0 hJ0 hK0 => ?_
  conv => arg 2; whnf
  go_wp2_with fail
  refine Met.intro (hJ0 _ _ ?_)
  exact ⟨⟨rfl, rfl⟩, rfl, rfl, rfl, rfl, rfl, rfl, rfl⟩

theorem qn14 (wr : World) (k n : Nat) (xa : Option Addr) (m c : Nat) (ya : Option Addr) (p c2 : Nat) (tq : Int) (i : Nat) (hi : i < 40) (a : Act) (hf : Fr 168 a) (h1 : sl a 1 = .int .i64 (k : Int)) (h2 : sl a 2 = .int .i64 (n : Int)) (h3 : sl a 3 = .slice xa m c) (h5 : sl a 5 = .slice ya p c2) (h6 : sl a 6 = .int .u64 tq) (h7 : sl a 7 = .int .i64 (i : Int)) :
    Code.wp Try.prog (cAt [1,1,0,1,2,2,1,0,2,1,1,1,1,0,1,2,2,0] KK) (Exit.then (fun a' w' => Fr 168 a' ∧ sl a' 1 = .int .i64 (k : Int) ∧ sl a' 2 = .int .i64 (n : Int) ∧ sl a' 3 = .slice xa m c ∧ sl a' 5 = .slice ya p c2 ∧ sl a' 6 = .int .u64 tq ∧ sl a' 7 = .int .i64 (i : Int) ∧ wr = w') Nope) a wr := by
  obtain ⟨f, ha, hs⟩ := frKK hf
  rw [(hs 1).trans h1, (hs 2).trans h2, (hs 3).trans h3, (hs 5).trans h5, (hs 6).trans h6, (hs 7).trans h7] at ha
  clear hs hf h1 h2 h3 h5 h6 h7
  subst ha
  refine piece2 fun J0 K0 hJ0 hK0 => ?_
  conv => arg 2; whnf
  have hi2 : (i : Int) < 40 := by omega
  go_wp2_with fail
  refine Met.intro (hJ0 _ _ ?_)
  exact ⟨⟨rfl, rfl⟩, rfl, rfl, rfl, rfl, rfl, rfl, rfl⟩

theorem qn14x (wr : World) (k n : Nat) (xa : Option Addr) (m c : Nat) (ya : Option Addr) (p c2 : Nat) (tq : Int) (i : Nat) (hi : ¬ i < 40) (a : Act) (hf : Fr 168 a) (h1 : sl a 1 = .int .i64 (k : Int)) (h2 : sl a 2 = .int .i64 (n : Int)) (h3 : sl a 3 = .slice xa m c) (h5 : sl a 5 = .slice ya p c2) (h6 : sl a 6 = .int .u64 tq) (h7 : sl a 7 = .int .i64 (i : Int)) :
    Code.wp Try.prog (cAt [1,1,0,1,2,2,1,0,2,1,1,1,1,0,1,2,2] KK) (Outs 4 (fun a' w' => Fr 168 a' ∧ sl a' 1 = .int .i64 (k : Int) ∧ sl a' 2 = .int .i64 (n : Int) ∧ sl a' 3 = .slice xa m c ∧ sl a' 5 = .slice ya p c2 ∧ wr = w')) a wr := by
  obtain ⟨f, ha, hs⟩ := frKK hf
  rw [(hs 1).trans h1, (hs 2).trans h2, (hs 3).trans h3, (hs 5).trans h5, (hs 6).trans h6, (hs 7).trans h7] at ha
  clear hs hf h1 h2 h3 h5 h6 h7
  subst ha
  conv => arg 2; whnf
  have hi2 : ¬ (i : Int) < 40 := by omega
  go_wp2_with fail
  exact ⟨rfl, ⟨rfl, rfl⟩, rfl, rfl, rfl, rfl, rfl⟩

theorem qn15 (wr : World) (k n : Nat) (xa : Option Addr) (m c : Nat) (ya : Option Addr) (p c2 : Nat) (tq : Int) (i : Nat) (hi : i < 40) (a : Act) (hf : Fr 168 a) (h1 : sl a 1 = .int .i64 (k : Int)) (h2 : sl a 2 = .int .i64 (n : Int)) (h3 : sl a 3 = .slice xa m c) (h5 : sl a 5 = .slice ya p c2) (h6 : sl a 6 = .int .u64 tq) (h7 : sl a 7 = .int .i64 (i : Int)) :
    Code.wp Try.prog (cAt [1,1,0,1,2,2,1,0,2,1,1,1,1,0,1,2,2,1,1] KK) (Exit.then (fun a' w' => Fr 168 a' ∧ sl a' 1 = .int .i64 (k : Int) ∧ sl a' 2 = .int .i64 (n : Int) ∧ sl a' 3 = .slice xa m c ∧ sl a' 5 = .slice ya p c2 ∧ sl a' 6 = .int .u64 tq ∧ sl a' 7 = .int .i64 ((i : Int) + 1) ∧ wr = w') Nope) a wr := by
  obtain ⟨f, ha, hs⟩ := frKK hf
  rw [(hs 1).trans h1, (hs 2).trans h2, (hs 3).trans h3, (hs 5).trans h5, (hs 6).trans h6, (hs 7).trans h7] at ha
  clear hs hf h1 h2 h3 h5 h6 h7
  subst ha
  refine piece2 fun J0 K0 hJ0 hK0 => ?_
  conv => arg 2; whnf
  have hw : IntKind.i64.wrap ((i : Int) + 1) = (i : Int) + 1 := by rw [IntKind.wrap_i64]; omega
  go_wp2_with fail
  refine Met.intro (hJ0 _ _ ?_)
  exact ⟨⟨rfl, rfl⟩, rfl, rfl, rfl, rfl, rfl, rfl, rfl⟩

theorem qn16 (wr : World) (k n : Nat) (xa : Option Addr) (m c : Nat) (ya : Option Addr) (p c2 : Nat) (tq : Int) (i : Nat) (a : Act) (hf : Fr 168 a) (h1 : sl a 1 = .int .i64 (k : Int)) (h2 : sl a 2 = .int .i64 (n : Int)) (h3 : sl a 3 = .slice xa m c) (h5 : sl a 5 = .slice ya p c2) (h6 : sl a 6 = .int .u64 tq) (h7 : sl a 7 = .int .i64 (i : Int)) :
    Code.wp Try.prog (cAt [1,1,0,1,2,2,1,0,2,1,1,1,1,0,1,2,2,1,0,2,0] KK) (Exit.then (fun a' w' => ∃ (tk' : Int), Fr 168 a' ∧ sl a' 1 = .int .i64 (k : Int) ∧ sl a' 2 = .int .i64 (n : Int) ∧ sl a' 3 = .slice xa m c ∧ sl a' 5 = .slice ya p c2 ∧ sl a' 6 = .int .u64 tk' ∧ sl a' 7 = .int .i64 (i : Int) ∧ 0 ≤ tk' ∧ tk' ≤ 18446744073709551615 ∧ wr = w') Nope) a wr := by
  obtain ⟨f, ha, hs⟩ := frKK hf
  rw [(hs 1).trans h1, (hs 2).trans h2, (hs 3).trans h3, (hs 5).trans h5, (hs 6).trans h6, (hs 7).trans h7] at ha
  clear hs hf h1 h2 h3 h5 h6 h7
  subst ha
  refine piece2 fun J0 K0 hJ0 hK0 => ?_
  conv => arg 2; whnf
  obtain ⟨m4, e4, l4⟩ : ∃ z : Nat, (k : Int).tmod 4 = (z : Int) ∧ z < 4 := ⟨k % 4, rfl, Nat.mod_lt _ (by decide)⟩
  have w4 : IntKind.u64.wrap (m4 : Int) = (m4 : Int) := by rw [IntKind.wrap_u64]; omega
  obtain ⟨tk', ht⟩ : ∃ z, IntKind.u64.wrap (tq + (m4 : Int)) = z := ⟨_, rfl⟩
  have HT : Hid (0 ≤ tk' ∧ tk' ≤ 18446744073709551615) := by rw [← ht, IntKind.wrap_u64]; show _ ∧ _; omega
  clear l4
  go_wp2_with fail
  refine Met.intro (hJ0 _ _ ?_)
  exact ⟨tk', ⟨rfl, rfl⟩, rfl, rfl, rfl, rfl, rfl, rfl, HT.out.1, HT.out.2, rfl⟩

theorem qn17 (w : World) (wr : World) (k n : Nat) (xa : Option Addr) (m c : Nat) (ya : Option Addr) (p c2 : Nat) (tq : Int) (i : Nat) (l : List Cs) (la : List Ac) (HA : Hid (Ks w wr ya p c2 la)) (HC : Hid (Kc w wr xa m c l)) (hi : i < 40) (hp : p ≤ 60) (ht0 : 0 ≤ tq) (ht1 : tq ≤ 18446744073709551615) (hk : k < 100003) (a : Act) (hf : Fr 168 a) (h1 : sl a 1 = .int .i64 (k : Int)) (h2 : sl a 2 = .int .i64 (n : Int)) (h3 : sl a 3 = .slice xa m c) (h5 : sl a 5 = .slice ya p c2) (h6 : sl a 6 = .int .u64 tq) (h7 : sl a 7 = .int .i64 (i : Int)) :
    Code.wp Try.prog (cAt [1,1,0,1,2,2,1,0,2,1,1,1,1,0,1,2,2,1,0,2,1,0] KK) (Exit.then (fun a' w' => ∃ (g c' : Nat) (la' : List Ac), Fr 168 a' ∧ sl a' 1 = .int .i64 (k : Int) ∧ sl a' 2 = .int .i64 (n : Int) ∧ sl a' 3 = .slice xa m c ∧ sl a' 5 = .slice (some ⟨g, 0, none⟩) (p + 1) c' ∧ sl a' 6 = .int .u64 tq ∧ sl a' 7 = .int .i64 (i : Int) ∧ Ks w w' (some ⟨g, 0, none⟩) (p + 1) c' la' ∧ Kc w w' xa m c l) Nope) a wr := by
  obtain ⟨f, ha, hs⟩ := frKK hf
  rw [(hs 1).trans h1, (hs 2).trans h2, (hs 3).trans h3, (hs 5).trans h5, (hs 6).trans h6, (hs 7).trans h7] at ha
  clear hs hf h1 h2 h3 h5 h6 h7
  subst ha
  refine piece2 fun J0 K0 hJ0 hK0 => ?_
  conv => arg 2; whnf
  obtain ⟨q4, e56, l56⟩ : ∃ z : Nat, (k : Int).tdiv 4 = (z : Int) ∧ z ≤ k := ⟨k / 4, rfl, Nat.div_le_self _ _⟩
  have w56 : IntKind.i64.wrap (q4 : Int) = (q4 : Int) := by rw [IntKind.wrap_i64]; omega
  obtain ⟨r7, e57, l57⟩ : ∃ z : Nat, (q4 : Int).tmod 7 = (z : Int) ∧ z < 7 := ⟨q4 % 7, rfl, Nat.mod_lt _ (by decide)⟩
  obtain ⟨r13, e59, l59⟩ : ∃ z : Nat, (k : Int).tmod 13 = (z : Int) ∧ z < 13 := ⟨k % 13, rfl, Nat.mod_lt _ (by decide)⟩
  obtain ⟨q11, e60, l60⟩ : ∃ z : Nat, (r13 : Int).tdiv 11 = (z : Int) ∧ z ≤ r13 := ⟨r13 / 11, rfl, Nat.div_le_self _ _⟩
  have w60 : IntKind.i64.wrap (q11 : Int) = (q11 : Int) := by rw [IntKind.wrap_i64]; omega
  obtain ⟨d5, e61, l61⟩ : ∃ z : Nat, IntKind.i64.wrap (5 + (q11 : Int)) = (z : Int) ∧ 5 ≤ z ∧ z < 100 := ⟨5 + q11, by rw [IntKind.wrap_i64]; omega, by omega, by omega⟩
  obtain ⟨dd, e62, l62⟩ : ∃ z : Nat, (r7 : Int).tmod (d5 : Int) = (z : Int) ∧ z ≤ r7 := ⟨r7 % d5, rfl, Nat.mod_le _ _⟩
  obtain ⟨q28, e64, l64⟩ : ∃ z : Nat, (k : Int).tdiv 28 = (z : Int) ∧ z ≤ k := ⟨k / 28, rfl, Nat.div_le_self _ _⟩
  have w64 : IntKind.i64.wrap (q28 : Int) = (q28 : Int) := by rw [IntKind.wrap_i64]; omega
  obtain ⟨n4, e66, l66⟩ : ∃ z : Nat, (n : Int).tmod 4 = (z : Int) ∧ z < 4 := ⟨n % 4, rfl, Nat.mod_lt _ (by decide)⟩
  obtain ⟨m2, e67, l67⟩ : ∃ z : Nat, IntKind.i64.wrap (2 + (n4 : Int)) = (z : Int) ∧ 2 ≤ z ∧ z < 100 := ⟨2 + n4, by rw [IntKind.wrap_i64]; omega, by omega, by omega⟩
  obtain ⟨cc, e68, l68⟩ : ∃ z : Nat, (q28 : Int).tmod (m2 : Int) = (z : Int) ∧ z ≤ q28 := ⟨q28 % m2, rfl, Nat.mod_le _ _⟩
  have w70 : IntKind.u64.wrap (i : Int) = (i : Int) := by rw [IntKind.wrap_u64]; omega
  obtain ⟨sz, e72, l72⟩ : ∃ z : Nat, (k : Int).tmod 2060 = (z : Int) ∧ z < 2060 := ⟨k % 2060, rfl, Nat.mod_lt _ (by decide)⟩
  have z61 : ¬ (d5 : Int) = 0 := by omega
  have z67 : ¬ (m2 : Int) = 0 := by omega
  have z61n : ¬ d5 = 0 := by omega
  have z67n : ¬ m2 = 0 := by omega
  have hd := (Below.refl wr.heap.size wr).drew
  have HGROW : Hid (∃ g c' w', (Builtin.append_ #[24, 24] 24 #[.slice ya p c2, .slice (some ⟨wr.heap.size, 0, none⟩) 1 1]).run Try.prog (wr.drew.alloc (.cells #[.int .i64 (dd : Int), .int .i64 (cc : Int), .int .u64 (i : Int), .int .i64 (sz : Int), .slice none 0 0, .int .u64 tq] 42)) = .ok (.slice (some ⟨g, 0, none⟩) (p + 1) c') w' ∧ Ks w w' (some ⟨g, 0, none⟩) (p + 1) c' (la ++ [⟨dd, cc, ⟨i, sz, none, 0, 0, []⟩, tq⟩]) ∧ Kc w w' xa m c l) :=
    (HA.out.past hd).grow (HC.out.past hd) ⟨dd, cc, ⟨i, sz, none, 0, 0, []⟩, tq⟩ ⟨by show _ ≤ (dd : Int); omega, by show (dd : Int) ≤ _; omega, by show _ ≤ (cc : Int); omega, by show (cc : Int) ≤ _; omega, by show (0 : Int) ≤ (i : Int); omega, by show (i : Int) ≤ _; omega, by show _ ≤ (sz : Int); omega, by show (sz : Int) ≤ _; omega, ht0, ht1, rfl, rfl, rfl, rfl⟩ hp
  clear l56 l57 l59 l60 l61 l62 l64 l66 l67 l68 l72 hd hi hp ht0 ht1 hk
  go_wp2_with fail
  have HS : Hid True := trivial
  refine wp_region_held_drew (S := fun w' => True) (by kernel_rfl) HS.out (fun hS => ?_)
  refine tkD 0 54 (.slice ya p c2) (fun w' h' => ?_) hS ?_
  · go_simp
  refine tkD 1 55 (.int .i64 (k : Int)) (fun w' h' => ?_) hS ?_
  · go_simp
  try simp only [Act.put, List.setIfInBounds_toArray, List.set_cons_zero, List.set_cons_succ]
  refine tkD 2 56 (.int .i64 (q4 : Int)) (fun w' h' => ?_) hS ?_
  · go_simp
  refine tkD 3 57 (.int .i64 (r7 : Int)) (fun w' h' => ?_) hS ?_
  · go_simp
  try simp only [Act.put, List.setIfInBounds_toArray, List.set_cons_zero, List.set_cons_succ]
  refine tkD 4 58 (.int .i64 (k : Int)) (fun w' h' => ?_) hS ?_
  · go_simp
  refine tkD 5 59 (.int .i64 (r13 : Int)) (fun w' h' => ?_) hS ?_
  · go_simp
  try simp only [Act.put, List.setIfInBounds_toArray, List.set_cons_zero, List.set_cons_succ]
  refine tkD 6 60 (.int .i64 (q11 : Int)) (fun w' h' => ?_) hS ?_
  · go_simp
  refine tkD 7 61 (.int .i64 (d5 : Int)) (fun w' h' => ?_) hS ?_
  · go_simp
  try simp only [Act.put, List.setIfInBounds_toArray, List.set_cons_zero, List.set_cons_succ]
  refine tkD 8 62 (.int .i64 (dd : Int)) (fun w' h' => ?_) hS ?_
  · go_simp
  refine tkD 9 63 (.int .i64 (k : Int)) (fun w' h' => ?_) hS ?_
  · go_simp
  try simp only [Act.put, List.setIfInBounds_toArray, List.set_cons_zero, List.set_cons_succ]
  refine tkD 10 64 (.int .i64 (q28 : Int)) (fun w' h' => ?_) hS ?_
  · go_simp
  refine tkD 11 65 (.int .i64 (n : Int)) (fun w' h' => ?_) hS ?_
  · go_simp
  try simp only [Act.put, List.setIfInBounds_toArray, List.set_cons_zero, List.set_cons_succ]
  refine tkD 12 66 (.int .i64 (n4 : Int)) (fun w' h' => ?_) hS ?_
  · go_simp
  refine tkD 13 67 (.int .i64 (m2 : Int)) (fun w' h' => ?_) hS ?_
  · go_simp
  try simp only [Act.put, List.setIfInBounds_toArray, List.set_cons_zero, List.set_cons_succ]
  refine tkD 14 68 (.int .i64 (cc : Int)) (fun w' h' => ?_) hS ?_
  · go_simp
  refine tkD 15 69 (.int .i64 (i : Int)) (fun w' h' => ?_) hS ?_
  · go_simp
  try simp only [Act.put, List.setIfInBounds_toArray, List.set_cons_zero, List.set_cons_succ]
  refine tkD 16 70 (.int .u64 (i : Int)) (fun w' h' => ?_) hS ?_
  · go_simp
  refine tkD 17 71 (.int .i64 (k : Int)) (fun w' h' => ?_) hS ?_
  · go_simp
  try simp only [Act.put, List.setIfInBounds_toArray, List.set_cons_zero, List.set_cons_succ]
  refine tkD 18 72 (.int .i64 (sz : Int)) (fun w' h' => ?_) hS ?_
  · go_simp
  refine tkD 19 73 (.agg #[.int .u64 (i : Int), .int .i64 (sz : Int), .slice none 0 0]) (fun w' h' => ?_) hS ?_
  · go_simp
  try simp only [Act.put, List.setIfInBounds_toArray, List.set_cons_zero, List.set_cons_succ]
  refine tkD 20 74 (.int .u64 tq) (fun w' h' => ?_) hS ?_
  · go_simp
  refine tkD 21 75 (.agg #[.int .i64 (dd : Int), .int .i64 (cc : Int), .int .u64 (i : Int), .int .i64 (sz : Int), .slice none 0 0, .int .u64 tq]) (fun w' h' => ?_) hS ?_
  · go_simp
  try simp only [Act.put, List.setIfInBounds_toArray, List.set_cons_zero, List.set_cons_succ]
  refine wpAnyH_ready (rs := [22]) (by kernel_rfl) (by simp) (AllReadyH.cons rfl (fun K hK => ?_) AllReadyH.nil)
  rw [if_pos (by rfl)]
  go_wp2_with fail
  change K _ (wr.drew.alloc (.cells #[.int .i64 (dd : Int), .int .i64 (cc : Int), .int .u64 (i : Int), .int .i64 (sz : Int), .slice none 0 0, .int .u64 tq] 42))
  obtain ⟨g, c', w3, hrun, hks, hkc⟩ := HGROW.out
  obtain ⟨w2, hw2⟩ : ∃ z, wr.drew.alloc (.cells #[.int .i64 (dd : Int), .int .i64 (cc : Int), .int .u64 (i : Int), .int .i64 (sz : Int), .slice none 0 0, .int .u64 tq] 42) = z := ⟨_, rfl⟩
  rw [hw2] at hrun ⊢
  have H3 : Hid (Ks w w3 (some ⟨g, 0, none⟩) (p + 1) c' (la ++ [⟨dd, cc, ⟨i, sz, none, 0, 0, []⟩, tq⟩]) ∧ Kc w w3 xa m c l) := ⟨hks, hkc⟩
  clear hks hkc
  clear hS
  refine hK.out _ _ (HS.out) (fun hS => ?_)
  clear hK K
  try simp only [Act.put, List.setIfInBounds_toArray, List.set_cons_zero, List.set_cons_succ]
  refine wpAnyH_ready (rs := [23]) (by kernel_rfl) (by simp) (AllReadyH.cons rfl (fun K hK => ?_) AllReadyH.nil)
  rw [if_pos (by rfl)]
  refine Lib.wp_append_run w2 (.tmp 54) (.tmp 76) 24 24 rfl _ _ rfl rfl _ _ hrun ?_
  change K (Act.put _ (some 77) (.slice (some ⟨g, 0, none⟩) (p + 1) c')) _
  clear hS
  refine hK.out _ _ (HS.out) (fun hS => ?_)
  clear hK K
  refine tkD 24 5 (.slice (some ⟨g, 0, none⟩) (p + 1) c') (fun w' h' => ?_) hS ?_
  · go_simp
  refine wpAnyH_done (by kernel_rfl) ?_ _
  go_wp2_with fail
  refine Met.intro (hJ0 _ _ ?_)
  exact ⟨g, c', _, ⟨rfl, rfl⟩, rfl, rfl, rfl, rfl, rfl, rfl, H3.out⟩

theorem qn18 (wr : World) (k n : Nat) (xa : Option Addr) (m c : Nat) (ya : Option Addr) (p c2 : Nat) (tq : Int) (i : Nat) (hv : i < 1000) (hk : k < 100003) (a : Act) (hf : Fr 168 a) (h1 : sl a 1 = .int .i64 (k : Int)) (h2 : sl a 2 = .int .i64 (n : Int)) (h3 : sl a 3 = .slice xa m c) (h5 : sl a 5 = .slice ya p c2) (h6 : sl a 6 = .int .u64 tq) (h7 : sl a 7 = .int .i64 (i : Int)) :
    Code.wp Try.prog (cAt [1,1,0,1,2,2,1,0,2,1,1,1,1,0,1,2,2,1,0,2,1,1] KK) (Exit.then (fun a' w' => ∃ (k' : Nat), Fr 168 a' ∧ sl a' 1 = .int .i64 (k' : Int) ∧ sl a' 2 = .int .i64 (n : Int) ∧ sl a' 3 = .slice xa m c ∧ sl a' 5 = .slice ya p c2 ∧ sl a' 6 = .int .u64 tq ∧ sl a' 7 = .int .i64 (i : Int) ∧ k' < 100003 ∧ wr = w') Nope) a wr := by
  obtain ⟨f, ha, hs⟩ := frKK hf
  rw [(hs 1).trans h1, (hs 2).trans h2, (hs 3).trans h3, (hs 5).trans h5, (hs 6).trans h6, (hs 7).trans h7] at ha
  clear hs hf h1 h2 h3 h5 h6 h7
  subst ha
  refine piece2 fun J0 K0 hJ0 hK0 => ?_
  conv => arg 2; whnf
  have e1 : (((k * 31 + 7 * i + 11 : Nat) : Int)).tmod 100003 = ((k * 31 + 7 * i + 11) % 100003 : Nat) := rfl
  have e2 : ((k : Int) * 31 + 7 * (i : Int) + 11).tmod 100003 = (((k * 31 + 7 * i + 11) % 100003 : Nat) : Int) := by rw [← e1]; congr 1
  have w1 : IntKind.i64.wrap ((k : Int) * 31) = (k : Int) * 31 := by rw [IntKind.wrap_i64]; omega
  have w2 : IntKind.i64.wrap (7 * (i : Int)) = 7 * (i : Int) := by rw [IntKind.wrap_i64]; omega
  have w3 : IntKind.i64.wrap ((k : Int) * 31 + 7 * (i : Int)) = (k : Int) * 31 + 7 * (i : Int) := by rw [IntKind.wrap_i64]; omega
  have w4 : IntKind.i64.wrap ((k : Int) * 31 + 7 * (i : Int) + 11) = (k : Int) * 31 + 7 * (i : Int) + 11 := by rw [IntKind.wrap_i64]; omega
  obtain ⟨k', hk'⟩ : ∃ z, (k * 31 + 7 * i + 11) % 100003 = z := ⟨_, rfl⟩
  have hlt : k' < 100003 := by omega
  rw [hk'] at e2
  clear hk' e1
  have HLT := Lib.hid hlt
  clear hlt
  go_wp2_with fail
  refine Met.intro (hJ0 _ _ ?_)
  exact ⟨k', ⟨rfl, rfl⟩, rfl, rfl, rfl, rfl, rfl, rfl, HLT.out, rfl⟩

theorem qn19 (w : World) (wr : World) (k n : Nat) (xa : Option Addr) (m c : Nat) (g c2 : Nat) (l : List Cs) (la : List Ac) (HA : Hid (Ks w wr (some ⟨g, 0, none⟩) 40 c2 la)) (HC : Hid (Kc w wr xa m c l)) (a : Act) (hf : Fr 168 a) (h1 : sl a 1 = .int .i64 (k : Int)) (h2 : sl a 2 = .int .i64 (n : Int)) (h3 : sl a 3 = .slice xa m c) (h5 : sl a 5 = .slice (some ⟨g, 0, none⟩) 40 c2) :
    Code.wp Try.prog (cAt [1,1,0,1,2,2,1,0,2,1,1,1,1,1,0] KK) (Exit.then (fun a' w' => Fr 168 a' ∧ sl a' 1 = .int .i64 (k : Int) ∧ sl a' 2 = .int .i64 (n : Int) ∧ sl a' 106 = .bool false ∧ Below w.heap.size w w') Nope) a wr := by
  obtain ⟨f, ha, hs⟩ := frKK hf
  rw [(hs 1).trans h1, (hs 2).trans h2, (hs 3).trans h3, (hs 5).trans h5] at ha
  clear hs hf h1 h2 h3 h5
  subst ha
  refine piece2 fun J0 K0 hJ0 hK0 => ?_
  conv => arg 2; whnf
  obtain ⟨m5, e5, l5⟩ : ∃ z : Nat, (n : Int).tmod 5 = (z : Int) ∧ z < 5 := ⟨n % 5, rfl, Nat.mod_lt _ (by decide)⟩
  have w5 : IntKind.u64.wrap (m5 : Int) = (m5 : Int) := by rw [IntKind.wrap_u64]; omega
  have hc2 : 40 ≤ c2 := (HA.out.own.le).1
  have hc3 : (9 : Int) ≤ (c2 : Int) := by omega
  have hm5 : Hid ((0 : Int) ≤ (m5 : Int) ∧ (m5 : Int) ≤ 18446744073709551615) := by show _ ∧ _; omega
  obtain ⟨k8, hk8⟩ : ∃ z, IntKind.u8.wrap (k : Int) = z := ⟨_, rfl⟩
  have HK8 : Hid (0 ≤ k8 ∧ k8 ≤ 255) := by rw [← hk8, IntKind.wrap_u8]; show _ ∧ _; omega
  clear hc2 l5
  go_wp2_with fail
  refine (plays12_any (m5 : Int) xa m c l (some ⟨g, 0, none⟩) 40 c2 la wr (rcs_of HC.out.own HC.out.ok) (acr_of HA.out.own HA.out.ok) (by decide) hm5.out.1 hm5.out.2).mono ?_
  rintro e w1 ⟨rfl, hb⟩
  have H1 : Hid (Ks w w1 (some ⟨g, 0, none⟩) 40 c2 la ∧ Kc w w1 xa m c l) := ⟨HA.out.past hb, HC.out.past hb⟩
  clear hb
  go_wp2_with fail
  refine (bounds_any xa m c l (some ⟨g, 0, none⟩) 40 c2 la w1 (rcs_of H1.out.2.own H1.out.2.ok) (acr_of H1.out.1.own H1.out.1.ok) (by decide)).mono ?_
  rintro e w2 ⟨rfl, hb⟩
  have H2 : Hid (Ks w w2 (some ⟨g, 0, none⟩) 40 c2 la ∧ Kc w w2 xa m c l) := ⟨H1.out.1.past hb, H1.out.2.past hb⟩
  clear hb
  go_wp2_with fail
  refine (early_any xa m c l (some ⟨g, 0, none⟩) 9 c2 (la.take 9) k8 w2 (rcs_of H2.out.2.own H2.out.2.ok) ((acr_of H2.out.1.own H2.out.1.ok).takeK (by decide)) (by decide) HK8.out.1 HK8.out.2).mono ?_
  rintro e w3 ⟨rfl, hb⟩
  have H3 := Lib.hid (H2.out.1.past hb).below
  clear hb
  go_wp2_with fail
  refine Met.intro (hJ0 _ _ ?_)
  exact ⟨⟨rfl, rfl⟩, rfl, rfl, rfl, H3.out⟩

theorem qn21 (wr : World) (a : Act) (hf : Fr 168 a)  :
    Code.wp Try.prog (cAt [1,1,1,0] KK) (Exit.then (fun a' w' => ∃ go, Fr 168 a' ∧ sl a' 8 = .slice (some ⟨go, 0, none⟩) 5 5 ∧ Below wr.heap.size wr w' ∧ OwnG w' wr.heap.size 45 4 (some ⟨go, 0, none⟩) 5 5 (oddL.flatMap Cs.cs)) Nope) a wr := by
  obtain ⟨f, ha, hs⟩ := frKK hf
  clear hs hf 
  subst ha
  refine piece2 fun J0 K0 hJ0 hK0 => ?_
  conv => arg 2; whnf
  have H1 : Hid (Below wr.heap.size wr (wr.alloc (.cells #[.int .u64 0, .int .u64 2047, .int .i64 0, .int .i64 0, .int .u64 0, .int .u64 2048, .int .i64 (-1), .int .i64 0, .int .u64 0, .int .u64 2048, .int .i64 0, .int .i64 (-1), .int .u64 0, .int .u64 2048, .int .i64 65537, .int .i64 0, .int .u64 18446744073709551615, .int .u64 18446744073709551615, .int .i64 65536, .int .i64 9223372036854775807] 45)) ∧ OwnG (wr.alloc (.cells #[.int .u64 0, .int .u64 2047, .int .i64 0, .int .i64 0, .int .u64 0, .int .u64 2048, .int .i64 (-1), .int .i64 0, .int .u64 0, .int .u64 2048, .int .i64 0, .int .i64 (-1), .int .u64 0, .int .u64 2048, .int .i64 65537, .int .i64 0, .int .u64 18446744073709551615, .int .u64 18446744073709551615, .int .i64 65536, .int .i64 9223372036854775807] 45)) wr.heap.size 45 4 (some ⟨wr.heap.size, 0, none⟩) 5 5 (oddL.flatMap Cs.cs)) := ⟨(Below.refl _ _).alloc (Nat.le_refl _) _, own_lit (Blk_new wr _ _) (Nat.le_refl _) rfl (by decide)⟩
  go_wp2_with fail
  refine Met.intro (hJ0 _ _ ?_)
  exact ⟨_, ⟨rfl, rfl⟩, rfl, H1.out⟩

theorem qn22 (wr : World) (go : Nat) (a : Act) (hf : Fr 168 a) (h8 : sl a 8 = .slice (some ⟨go, 0, none⟩) 5 5) :
    Code.wp Try.prog (cAt [1,1,1,1,0] KK) (Exit.then (fun a' w' => ∃ ga, Fr 168 a' ∧ sl a' 8 = .slice (some ⟨go, 0, none⟩) 5 5 ∧ sl a' 9 = .slice (some ⟨ga, 0, none⟩) 9 9 ∧ Below wr.heap.size wr w' ∧ OwnG w' wr.heap.size 42 6 (some ⟨ga, 0, none⟩) 9 9 (allL.flatMap Ac.cs)) Nope) a wr := by
  obtain ⟨f, ha, hs⟩ := frKK hf
  rw [(hs 8).trans h8] at ha
  clear hs hf h8
  subst ha
  refine piece2 fun J0 K0 hJ0 hK0 => ?_
  conv => arg 2; whnf
  have H1 : Hid (Below wr.heap.size wr (wr.alloc (.cells #[.int .i64 0, .int .i64 0, .int .u64 0, .int .i64 2048, .slice none 0 0, .int .u64 0, .int .i64 0, .int .i64 0, .int .u64 0, .int .i64 2049, .slice none 0 0, .int .u64 0, .int .i64 0, .int .i64 0, .int .u64 0, .int .i64 (-1), .slice none 0 0, .int .u64 0, .int .i64 0, .int .i64 (-1), .int .u64 0, .int .i64 0, .slice none 0 0, .int .u64 0, .int .i64 0, .int .i64 1, .int .u64 0, .int .i64 0, .slice none 0 0, .int .u64 0, .int .i64 3, .int .i64 0, .int .u64 0, .int .i64 0, .slice none 0 0, .int .u64 18446744073709551615, .int .i64 0, .int .i64 0, .int .u64 0, .int .i64 1, .slice none 0 0, .int .u64 0, .int .i64 3, .int .i64 0, .int .u64 0, .int .i64 0, .slice none 0 0, .int .u64 0, .int .i64 5, .int .i64 0, .int .u64 0, .int .i64 0, .slice none 0 0, .int .u64 0] 42)) ∧ OwnG (wr.alloc (.cells #[.int .i64 0, .int .i64 0, .int .u64 0, .int .i64 2048, .slice none 0 0, .int .u64 0, .int .i64 0, .int .i64 0, .int .u64 0, .int .i64 2049, .slice none 0 0, .int .u64 0, .int .i64 0, .int .i64 0, .int .u64 0, .int .i64 (-1), .slice none 0 0, .int .u64 0, .int .i64 0, .int .i64 (-1), .int .u64 0, .int .i64 0, .slice none 0 0, .int .u64 0, .int .i64 0, .int .i64 1, .int .u64 0, .int .i64 0, .slice none 0 0, .int .u64 0, .int .i64 3, .int .i64 0, .int .u64 0, .int .i64 0, .slice none 0 0, .int .u64 18446744073709551615, .int .i64 0, .int .i64 0, .int .u64 0, .int .i64 1, .slice none 0 0, .int .u64 0, .int .i64 3, .int .i64 0, .int .u64 0, .int .i64 0, .slice none 0 0, .int .u64 0, .int .i64 5, .int .i64 0, .int .u64 0, .int .i64 0, .slice none 0 0, .int .u64 0] 42)) wr.heap.size 42 6 (some ⟨wr.heap.size, 0, none⟩) 9 9 (allL.flatMap Ac.cs)) := ⟨(Below.refl _ _).alloc (Nat.le_refl _) _, own_lit (Blk_new wr _ _) (Nat.le_refl _) rfl (by decide)⟩
  go_wp2_with fail
  refine Met.intro (hJ0 _ _ ?_)
  exact ⟨_, ⟨rfl, rfl⟩, rfl, rfl, H1.out⟩

theorem qn23 (wr : World) (go ga : Nat) (a : Act) (hf : Fr 168 a) (h8 : sl a 8 = .slice (some ⟨go, 0, none⟩) 5 5) (h9 : sl a 9 = .slice (some ⟨ga, 0, none⟩) 9 9) :
    Code.wp Try.prog (cAt [1,1,1,1,1,0,0] KK) (Exit.then (fun a' w' => Fr 168 a' ∧ sl a' 8 = .slice (some ⟨go, 0, none⟩) 5 5 ∧ sl a' 9 = .slice (some ⟨ga, 0, none⟩) 9 9 ∧ sl a' 10 = .int .i64 0 ∧ wr = w') Nope) a wr := by
  obtain ⟨f, ha, hs⟩ := frKK hf
  rw [(hs 8).trans h8, (hs 9).trans h9] at ha
  clear hs hf h8 h9
  subst ha
  refine piece2 fun J0 K0 hJ0 hK0 => ?_
  conv => arg 2; whnf
  go_wp2_with fail
  refine Met.intro (hJ0 _ _ ?_)
  exact ⟨⟨rfl, rfl⟩, rfl, rfl, rfl, rfl⟩

theorem qn24 (wr : World) (go ga : Nat) (i : Nat) (hi : i < 5) (a : Act) (hf : Fr 168 a) (h8 : sl a 8 = .slice (some ⟨go, 0, none⟩) 5 5) (h9 : sl a 9 = .slice (some ⟨ga, 0, none⟩) 9 9) (h10 : sl a 10 = .int .i64 (i : Int)) :
    Code.wp Try.prog (cAt [1,1,1,1,1,0,1,2,2,0] KK) (Exit.then (fun a' w' => Fr 168 a' ∧ sl a' 8 = .slice (some ⟨go, 0, none⟩) 5 5 ∧ sl a' 9 = .slice (some ⟨ga, 0, none⟩) 9 9 ∧ sl a' 10 = .int .i64 (i : Int) ∧ wr = w') Nope) a wr := by
  obtain ⟨f, ha, hs⟩ := frKK hf
  rw [(hs 8).trans h8, (hs 9).trans h9, (hs 10).trans h10] at ha
  clear hs hf h8 h9 h10
  subst ha
  refine piece2 fun J0 K0 hJ0 hK0 => ?_
  conv => arg 2; whnf
  have hi2 : (i : Int) < 5 := by omega
  go_wp2_with fail
  refine Met.intro (hJ0 _ _ ?_)
  exact ⟨⟨rfl, rfl⟩, rfl, rfl, rfl, rfl⟩

theorem qn24x (wr : World) (go ga : Nat) (i : Nat) (hi : ¬ i < 5) (a : Act) (hf : Fr 168 a) (h8 : sl a 8 = .slice (some ⟨go, 0, none⟩) 5 5) (h9 : sl a 9 = .slice (some ⟨ga, 0, none⟩) 9 9) (h10 : sl a 10 = .int .i64 (i : Int)) :
    Code.wp Try.prog (cAt [1,1,1,1,1,0,1,2,2] KK) (Outs 6 (fun a' w' => Fr 168 a' ∧ sl a' 8 = .slice (some ⟨go, 0, none⟩) 5 5 ∧ sl a' 9 = .slice (some ⟨ga, 0, none⟩) 9 9 ∧ wr = w')) a wr := by
  obtain ⟨f, ha, hs⟩ := frKK hf
  rw [(hs 8).trans h8, (hs 9).trans h9, (hs 10).trans h10] at ha
  clear hs hf h8 h9 h10
  subst ha
  conv => arg 2; whnf
  have hi2 : ¬ (i : Int) < 5 := by omega
  go_wp2_with fail
  exact ⟨rfl, ⟨rfl, rfl⟩, rfl, rfl, rfl⟩

theorem qn25 (wr : World) (go ga : Nat) (i : Nat) (hi : i < 5) (a : Act) (hf : Fr 168 a) (h8 : sl a 8 = .slice (some ⟨go, 0, none⟩) 5 5) (h9 : sl a 9 = .slice (some ⟨ga, 0, none⟩) 9 9) (h10 : sl a 10 = .int .i64 (i : Int)) :
    Code.wp Try.prog (cAt [1,1,1,1,1,0,1,2,2,1,1] KK) (Exit.then (fun a' w' => Fr 168 a' ∧ sl a' 8 = .slice (some ⟨go, 0, none⟩) 5 5 ∧ sl a' 9 = .slice (some ⟨ga, 0, none⟩) 9 9 ∧ sl a' 10 = .int .i64 ((i : Int) + 1) ∧ wr = w') Nope) a wr := by
  obtain ⟨f, ha, hs⟩ := frKK hf
  rw [(hs 8).trans h8, (hs 9).trans h9, (hs 10).trans h10] at ha
  clear hs hf h8 h9 h10
  subst ha
  refine piece2 fun J0 K0 hJ0 hK0 => ?_
  conv => arg 2; whnf
  have hw : IntKind.i64.wrap ((i : Int) + 1) = (i : Int) + 1 := by rw [IntKind.wrap_i64]; omega
  go_wp2_with fail
  refine Met.intro (hJ0 _ _ ?_)
  exact ⟨⟨rfl, rfl⟩, rfl, rfl, rfl, rfl⟩

theorem run_one_cla (go i : Nat) (hi : i < 5) : ∀ W : World, (Instr.sliceAt 23 (.slice (some ⟨go, 0, none⟩) 5 5) (some (.int .i64 (i : Int))) (some (.int .i64 ((i : Int) + 1))) none).run Try.prog W = .ok (.slice (some ⟨go, i * 4, none⟩) 1 (5 - i)) W := by
  intro W
  have hc : i = 0 ∨ i = 1 ∨ i = 2 ∨ i = 3 ∨ i = 4 := by omega
  rcases hc with rfl | rfl | rfl | rfl | rfl <;> rfl
theorem qn26 (w wr : World) (go ga i : Nat) (x : Cs) (hx : oddL[i]? = some x) (hi : i < 5) (HO : Hid (OwnG wr w.heap.size 45 4 (some ⟨go, 0, none⟩) 5 5 (oddL.flatMap Cs.cs) ∧ OwnG wr w.heap.size 42 6 (some ⟨ga, 0, none⟩) 9 9 (allL.flatMap Ac.cs) ∧ Below w.heap.size w wr)) (a : Act) (hf : Fr 168 a) (h8 : sl a 8 = .slice (some ⟨go, 0, none⟩) 5 5) (h9 : sl a 9 = .slice (some ⟨ga, 0, none⟩) 9 9) (h10 : sl a 10 = .int .i64 (i : Int)) :
    Code.wp Try.prog (cAt [1,1,1,1,1,0,1,2,2,1,0,2,0] KK) (Exit.then (fun a' w' => Fr 168 a' ∧ sl a' 8 = .slice (some ⟨go, 0, none⟩) 5 5 ∧ sl a' 9 = .slice (some ⟨ga, 0, none⟩) 9 9 ∧ sl a' 10 = .int .i64 (i : Int) ∧ sl a' 153 = .bool false ∧ OwnG w' w.heap.size 45 4 (some ⟨go, 0, none⟩) 5 5 (oddL.flatMap Cs.cs) ∧ OwnG w' w.heap.size 42 6 (some ⟨ga, 0, none⟩) 9 9 (allL.flatMap Ac.cs) ∧ Below w.heap.size w w') Nope) a wr := by
  obtain ⟨f, ha, hs⟩ := frKK hf
  rw [(hs 8).trans h8, (hs 9).trans h9, (hs 10).trans h10] at ha
  clear hs hf h8 h9 h10
  subst ha
  refine piece2 fun J0 K0 hJ0 hK0 => ?_
  conv => arg 2; whnf
  have HS : Hid (OwnG wr.drew w.heap.size 45 4 (some ⟨go, 0, none⟩) 5 5 (oddL.flatMap Cs.cs) ∧ OwnG wr.drew w.heap.size 42 6 (some ⟨ga, 0, none⟩) 9 9 (allL.flatMap Ac.cs) ∧ Below w.heap.size w wr.drew) := ⟨HO.out.1.below (Below.refl _ _).drew, HO.out.2.1.below (Below.refl _ _).drew, HO.out.2.2.trans (((Below.refl wr.heap.size wr).drew).mono HO.out.2.2.size)⟩
  have hcell : ∀ W, (OwnG W w.heap.size 45 4 (some ⟨go, 0, none⟩) 5 5 (oddL.flatMap Cs.cs) ∧ OwnG W w.heap.size 42 6 (some ⟨ga, 0, none⟩) 9 9 (allL.flatMap Ac.cs) ∧ Below w.heap.size w W) → ∀ (j : Nat) (x : Cs), oddL[j]? = some x → W.rangeAt go (j * 4) x.cs := fun W h j x hx => by
    obtain ⟨r, e, hr, _⟩ := h.1.nth Cs.len (by decide) hx
    cases e
    exact hr
  have HCELL := Lib.hid hcell
  have HX := Lib.hid hx
  have hsl := run_one_cla go i hi
  have w1 : IntKind.i64.wrap ((i : Int) + 1) = (i : Int) + 1 := by rw [IntKind.wrap_i64]; omega
  have hi2 : (i : Int) < 5 := by omega
  have hi0 : (0 : Int) ≤ (i : Int) := by omega
  clear hcell hx
  go_wp2_with fail
  refine wp_region_held_drew (S := fun w' => OwnG w' w.heap.size 45 4 (some ⟨go, 0, none⟩) 5 5 (oddL.flatMap Cs.cs) ∧ OwnG w' w.heap.size 42 6 (some ⟨ga, 0, none⟩) 9 9 (allL.flatMap Ac.cs) ∧ Below w.heap.size w w') (by kernel_rfl) HS.out (fun hS => ?_)
  refine tkD 0 133 (.slice (some ⟨go, 0, none⟩) 5 5) (fun w' h' => ?_) hS ?_
  · go_simp
  try simp only [Act.put, List.setIfInBounds_toArray, List.set_cons_zero, List.set_cons_succ]
  refine tkD 1 134 (.int .i64 (i : Int)) (fun w' h' => ?_) hS ?_
  · go_simp
  refine tkD 2 135 (.int .i64 (i : Int)) (fun w' h' => ?_) hS ?_
  · go_simp
  try simp only [Act.put, List.setIfInBounds_toArray, List.set_cons_zero, List.set_cons_succ]
  refine tkD 3 136 (.int .i64 ((i : Int) + 1)) (fun w' h' => ?_) hS ?_
  · go_simp
  refine tkD 4 137 (.slice (some ⟨go, i * 4, none⟩) 1 (5 - i)) (fun w' h' => ?_) hS ?_
  · go_simp
  try simp only [Act.put, List.setIfInBounds_toArray, List.set_cons_zero, List.set_cons_succ]
  refine tkD 5 138 (.slice (some ⟨ga, 0, none⟩) 9 9) (fun w' h' => ?_) hS ?_
  · go_simp
  try simp only [Act.put, List.setIfInBounds_toArray, List.set_cons_zero, List.set_cons_succ]
  refine wpAnyH_ready (rs := [6]) (by kernel_rfl) (by simp) (AllReadyH.cons rfl (fun K hK => ?_) AllReadyH.nil)
  rw [if_pos (by rfl)]
  go_wp2_with fail
  refine (plays12_any 18446744073709551613 (some ⟨go, i * 4, none⟩) 1 (5 - i) [x] (some ⟨ga, 0, none⟩) 9 9 allL _ (odd_one (rcs_of HS.out.1 odd_ok) HX.out) (acr_of HS.out.2.1 all_ok) (by decide) (by decide) (by decide)).mono ?_
  rintro e w1 ⟨rfl, hb⟩
  have HS1 : Hid (OwnG w1 w.heap.size 45 4 (some ⟨go, 0, none⟩) 5 5 (oddL.flatMap Cs.cs) ∧ OwnG w1 w.heap.size 42 6 (some ⟨ga, 0, none⟩) 9 9 (allL.flatMap Ac.cs) ∧ Below w.heap.size w w1) := ⟨HS.out.1.below hb, HS.out.2.1.below hb, HS.out.2.2.trans (hb.mono HS.out.2.2.size)⟩
  clear hb
  clear hS
  refine hK.out _ _ (HS1.out) (fun hS => ?_)
  clear hK K
  refine tkD 7 140 (.bool false) (fun w' h' => ?_) hS ?_
  · go_simp
  try simp only [Act.put, List.setIfInBounds_toArray, List.set_cons_zero, List.set_cons_succ]
  refine tkD 8 141 (.bool false) (fun w' h' => ?_) hS ?_
  · go_simp
  refine tkD 9 142 (.slice (some ⟨go, 0, none⟩) 5 5) (fun w' h' => ?_) hS ?_
  · go_simp
  try simp only [Act.put, List.setIfInBounds_toArray, List.set_cons_zero, List.set_cons_succ]
  refine tkD 10 143 (.pointer (some ⟨go, 16, none⟩)) (fun w' h' => ?_) hS ?_
  · go_simp
  refine tkD 11 144 (.agg #[.int .u64 18446744073709551615, .int .u64 18446744073709551615, .int .i64 65536, .int .i64 9223372036854775807]) (fun w' h' => ?_) hS ?_
  · have hr := HCELL.out _ h' 4 _ rfl
    have c0 : w'.cell? ⟨go, 16, none⟩ = some (.int .u64 18446744073709551615) := hr 0 _ rfl
    have c1 : w'.cell? ⟨go, 17, none⟩ = some (.int .u64 18446744073709551615) := hr 1 _ rfl
    have c2 : w'.cell? ⟨go, 18, none⟩ = some (.int .i64 65536) := hr 2 _ rfl
    have c3 : w'.cell? ⟨go, 19, none⟩ = some (.int .i64 9223372036854775807) := hr 3 _ rfl
    clear hr
    go_simp
  try simp only [Act.put, List.setIfInBounds_toArray, List.set_cons_zero, List.set_cons_succ]
  refine tkD 12 145 (.slice (some ⟨go, 0, none⟩) 5 5) (fun w' h' => ?_) hS ?_
  · go_simp
  refine tkD 13 146 (.int .i64 (i : Int)) (fun w' h' => ?_) hS ?_
  · go_simp
  try simp only [Act.put, List.setIfInBounds_toArray, List.set_cons_zero, List.set_cons_succ]
  refine tkD 14 147 (.pointer (some ⟨go, i * 4, none⟩)) (fun w' h' => ?_) hS ?_
  · go_simp
  refine tkD 15 148 (.agg #[.int .u64 x.r, .int .u64 x.B, .int .i64 x.I, .int .i64 x.S]) (fun w' h' => ?_) hS ?_
  · have hr := HCELL.out _ h' i x HX.out
    have c0 : w'.cell? ⟨go, i * 4, none⟩ = some (.int .u64 x.r) := hr 0 _ rfl
    have c1 : w'.cell? ⟨go, i * 4 + 1, none⟩ = some (.int .u64 x.B) := hr 1 _ rfl
    have c2 : w'.cell? ⟨go, i * 4 + 2, none⟩ = some (.int .i64 x.I) := hr 2 _ rfl
    have c3 : w'.cell? ⟨go, i * 4 + 3, none⟩ = some (.int .i64 x.S) := hr 3 _ rfl
    clear hr
    go_simp
  try simp only [Act.put, List.setIfInBounds_toArray, List.set_cons_zero, List.set_cons_succ]
  refine tkD 17 150 (.slice (some ⟨ga, 0, none⟩) 9 9) (fun w' h' => ?_) hS ?_
  · go_simp
  try simp only [Act.put, List.setIfInBounds_toArray, List.set_cons_zero, List.set_cons_succ]
  refine wpAnyH_ready (rs := [16]) (by kernel_rfl) (by simp) (AllReadyH.cons rfl (fun K hK => ?_) AllReadyH.nil)
  rw [if_pos (by rfl)]
  go_wp2_with fail
  have hb2 : Below w1.heap.size w1 (w1.alloc (.cells #[.int .u64 18446744073709551615, .int .u64 18446744073709551615, .int .i64 65536, .int .i64 9223372036854775807, .int .u64 x.r, .int .u64 x.B, .int .i64 x.I, .int .i64 x.S] 45)) := (Below.refl _ _).alloc (Nat.le_refl _) _
  have HS2 : Hid (OwnG (w1.alloc (.cells #[.int .u64 18446744073709551615, .int .u64 18446744073709551615, .int .i64 65536, .int .i64 9223372036854775807, .int .u64 x.r, .int .u64 x.B, .int .i64 x.I, .int .i64 x.S] 45)) w.heap.size 45 4 (some ⟨go, 0, none⟩) 5 5 (oddL.flatMap Cs.cs) ∧ OwnG (w1.alloc (.cells #[.int .u64 18446744073709551615, .int .u64 18446744073709551615, .int .i64 65536, .int .i64 9223372036854775807, .int .u64 x.r, .int .u64 x.B, .int .i64 x.I, .int .i64 x.S] 45)) w.heap.size 42 6 (some ⟨ga, 0, none⟩) 9 9 (allL.flatMap Ac.cs) ∧ Below w.heap.size w (w1.alloc (.cells #[.int .u64 18446744073709551615, .int .u64 18446744073709551615, .int .i64 65536, .int .i64 9223372036854775807, .int .u64 x.r, .int .u64 x.B, .int .i64 x.I, .int .i64 x.S] 45))) := ⟨HS1.out.1.below hb2, HS1.out.2.1.below hb2, HS1.out.2.2.trans (hb2.mono HS1.out.2.2.size)⟩
  have HR2 : Hid (Rcs (w1.alloc (.cells #[.int .u64 18446744073709551615, .int .u64 18446744073709551615, .int .i64 65536, .int .i64 9223372036854775807, .int .u64 x.r, .int .u64 x.B, .int .i64 x.I, .int .i64 x.S] 45)) (some ⟨w1.heap.size, 0, none⟩) 2 [oddL[4], x]) := rcs_of (own_lit (B := 0) (Blk_new w1 _ _) (Nat.zero_le _) rfl (by decide)) (fun y hy => odd_ok y (by simp only [List.mem_cons, List.not_mem_nil, or_false] at hy; rcases hy with rfl | rfl; exact List.getElem_mem _; exact List.mem_of_getElem? HX.out))
  clear hb2
  clear hS
  refine hK.out _ _ (HS2.out) (fun hS => ?_)
  clear hK K
  try simp only [Act.put, List.setIfInBounds_toArray, List.set_cons_zero, List.set_cons_succ]
  refine wpAnyH_ready (rs := [18]) (by kernel_rfl) (by simp) (AllReadyH.cons rfl (fun K hK => ?_) AllReadyH.nil)
  rw [if_pos (by rfl)]
  go_wp2_with fail
  refine (plays12_any 0 (some ⟨w1.heap.size, 0, none⟩) 2 2 [oddL[4], x] (some ⟨ga, 0, none⟩) 9 9 allL _ HR2.out (acr_of HS2.out.2.1 all_ok) (by decide) (by decide) (by decide)).mono ?_
  rintro e w3 ⟨rfl, hb⟩
  have HS3 : Hid (OwnG w3 w.heap.size 45 4 (some ⟨go, 0, none⟩) 5 5 (oddL.flatMap Cs.cs) ∧ OwnG w3 w.heap.size 42 6 (some ⟨ga, 0, none⟩) 9 9 (allL.flatMap Ac.cs) ∧ Below w.heap.size w w3) := ⟨HS2.out.1.below hb, HS2.out.2.1.below hb, HS2.out.2.2.trans (hb.mono HS2.out.2.2.size)⟩
  clear hb
  clear hS
  refine hK.out _ _ (HS3.out) (fun hS => ?_)
  clear hK K
  refine tkD 19 152 (.bool false) (fun w' h' => ?_) hS ?_
  · go_simp
  try simp only [Act.put, List.setIfInBounds_toArray, List.set_cons_zero, List.set_cons_succ]
  refine tkD 20 153 (.bool false) (fun w' h' => ?_) hS ?_
  · go_simp
  refine wpAnyH_done (by kernel_rfl) ?_ _
  go_wp2_with fail
  refine Met.intro (hJ0 _ _ ?_)
  exact ⟨⟨rfl, rfl⟩, rfl, rfl, rfl, rfl, HS3.out⟩

theorem qn28 (w wr : World) (go ga : Nat) (HO : Hid (OwnG wr w.heap.size 45 4 (some ⟨go, 0, none⟩) 5 5 (oddL.flatMap Cs.cs) ∧ OwnG wr w.heap.size 42 6 (some ⟨ga, 0, none⟩) 9 9 (allL.flatMap Ac.cs) ∧ Below w.heap.size w wr)) (a : Act) (hf : Fr 168 a) (h8 : sl a 8 = .slice (some ⟨go, 0, none⟩) 5 5) (h9 : sl a 9 = .slice (some ⟨ga, 0, none⟩) 9 9) :
    Code.wp Try.prog (cAt [1,1,1,1,1,1] KK) (bodyPost Try.prog Try.f7 (Yes w)) a wr := by
  obtain ⟨f, ha, hs⟩ := frKK hf
  rw [(hs 8).trans h8, (hs 9).trans h9] at ha
  clear hs hf h8 h9
  subst ha
  conv => arg 2; whnf
  go_wp2_with fail
  refine (plays12_any 0 none 0 0 [] none 0 0 [] wr (Rcs.none0 _) (Acr.none0K _) (by decide) (by decide) (by decide)).mono ?_
  rintro e w1 ⟨rfl, hb⟩
  have HO1 : Hid (OwnG w1 w.heap.size 45 4 (some ⟨go, 0, none⟩) 5 5 (oddL.flatMap Cs.cs) ∧ OwnG w1 w.heap.size 42 6 (some ⟨ga, 0, none⟩) 9 9 (allL.flatMap Ac.cs) ∧ Below w.heap.size w w1) := ⟨HO.out.1.below hb, HO.out.2.1.below hb, HO.out.2.2.trans (hb.mono HO.out.2.2.size)⟩
  clear hb
  have HMK := Lib.hid (run_make_cla w1)
  have hb2 : Below w1.heap.size w1 (w1.alloc (.cells ((List.replicate 9 zc).flatMap Cs.cs).toArray 45)) := (Below.refl _ _).alloc (Nat.le_refl _) _
  have H2 : Hid ((OwnG (w1.alloc (.cells ((List.replicate 9 zc).flatMap Cs.cs).toArray 45)) w.heap.size 45 4 (some ⟨go, 0, none⟩) 5 5 (oddL.flatMap Cs.cs) ∧ OwnG (w1.alloc (.cells ((List.replicate 9 zc).flatMap Cs.cs).toArray 45)) w.heap.size 42 6 (some ⟨ga, 0, none⟩) 9 9 (allL.flatMap Ac.cs) ∧ Below w.heap.size w (w1.alloc (.cells ((List.replicate 9 zc).flatMap Cs.cs).toArray 45))) ∧ Rcs (w1.alloc (.cells ((List.replicate 9 zc).flatMap Cs.cs).toArray 45)) (some ⟨w1.heap.size, 0, none⟩) 9 (List.replicate 9 zc)) := ⟨⟨HO1.out.1.below hb2, HO1.out.2.1.below hb2, HO1.out.2.2.trans (hb2.mono HO1.out.2.2.size)⟩, rcs_of (own_lit (B := 0) (Blk_new w1 _ _) (Nat.zero_le _) rfl (by decide)) (fun y hy => by rw [List.eq_of_mem_replicate hy]; exact ⟨by decide, by decide, by decide, by decide, by decide, by decide, by decide, by decide⟩)⟩
  obtain ⟨w2, hw2⟩ : ∃ z, w1.alloc (.cells ((List.replicate 9 zc).flatMap Cs.cs).toArray 45) = z := ⟨_, rfl⟩
  obtain ⟨gz, hgz⟩ : ∃ z, w1.heap.size = z := ⟨_, rfl⟩
  rw [hw2, hgz] at H2
  rw [hw2, hgz] at HMK
  clear hb2 hw2 hgz
  have hmk := HMK.out
  go_wp2_with fail
  refine (plays12_any 0 (some ⟨gz, 0, none⟩) 9 9 (List.replicate 9 zc) none 0 0 [] w2 H2.out.2 (Acr.none0K _) (by decide) (by decide) (by decide)).mono ?_
  rintro e w3 ⟨rfl, hb⟩
  have HO3 : Hid (OwnG w3 w.heap.size 45 4 (some ⟨go, 0, none⟩) 5 5 (oddL.flatMap Cs.cs) ∧ OwnG w3 w.heap.size 42 6 (some ⟨ga, 0, none⟩) 9 9 (allL.flatMap Ac.cs) ∧ Below w.heap.size w w3) := ⟨H2.out.1.1.below hb, H2.out.1.2.1.below hb, H2.out.1.2.2.trans (hb.mono H2.out.1.2.2.size)⟩
  clear hb hmk
  obtain ⟨r, e, hrg, _⟩ := HO3.out.2.1.nth Ac.len6 (by decide) (i := 0) (x := ⟨0, 0, ⟨0, 2048, none, 0, 0, []⟩, 0⟩) rfl
  cases e
  have c0 : w3.cell? ⟨ga, 0, none⟩ = some (.int .i64 0) := hrg 0 _ rfl
  have c1 : w3.cell? ⟨ga, 1, none⟩ = some (.int .i64 0) := hrg 1 _ rfl
  have c2 : w3.cell? ⟨ga, 2, none⟩ = some (.int .u64 0) := hrg 2 _ rfl
  have c3 : w3.cell? ⟨ga, 3, none⟩ = some (.int .i64 2048) := hrg 3 _ rfl
  have c4 : w3.cell? ⟨ga, 4, none⟩ = some (.slice none 0 0) := hrg 4 _ rfl
  have c5 : w3.cell? ⟨ga, 5, none⟩ = some (.int .u64 0) := hrg 5 _ rfl
  have HNO : Hid (Calls Try.prog 6 #[.agg #[.int .i64 0, .int .i64 0, .int .u64 0, .int .i64 2048, .slice none 0 0, .int .u64 0]] w3 (Yes w3)) := none12_any ⟨0, 0, ⟨0, 2048, none, 0, 0, []⟩, 0⟩ w3 ((all_ok _ (by unfold allL; exact List.mem_cons_self)).ok w3)
  clear hrg
  go_wp2_with fail
  refine HNO.out.mono ?_
  rintro e w4 ⟨rfl, hb⟩
  have HB4 := Lib.hid (HO3.out.2.2.trans (hb.mono HO3.out.2.2.size))
  clear hb
  go_wp2_with fail
  refine (works12_any _).mono ?_
  rintro e w5 ⟨rfl, hb⟩
  have HB5 := Lib.hid (HB4.out.trans (hb.mono HB4.out.size))
  clear hb
  go_wp2_with fail
  first | exact ⟨rfl, HB5.out⟩ | (go_ret; exact ⟨rfl, HB5.out⟩)

theorem kn_clas (w wr : World) (k n : Nat) (_hn : n < 80) (hk : k < 100003) (HB : Below w.heap.size w wr) (a : Act) (hf : Fr 168 a) (h1 : sl a 1 = .int .i64 (k : Int)) (h2 : sl a 2 = .int .i64 (n : Int)) (h3 : sl a 3 = .slice none 0 0) :
    Code.wp Try.prog (cAt [1,1,0,1,2,2,1,0,2,1,0] KK) (Exit.then (fun a' w' => ∃ (k' m c : Nat) (xa : Option Addr) (l : List Cs), k' < 100003 ∧ Kc w w' xa m c l ∧ Fr 168 a' ∧ sl a' 1 = .int .i64 (k' : Int) ∧ sl a' 2 = .int .i64 (n : Int) ∧ sl a' 3 = .slice xa m c) Nope) a wr := by
  refine tkDq (qn6 wr k n none 0 0 a hf h1 h2 h3) ?_
  rintro a1 _ ⟨hf, h1, h2, h3, h4, rfl⟩
  refine wp_blockR (x := (cAt [1,1,0,1,2,2,1,0,2,1,0,1,2] KK)) (id := 2) (by kernel_rfl) ?_
  refine wp_loopR (x := (cAt [1,1,0,1,2,2,1,0,2,1,0,1,2,2] KK)) (by kernel_rfl) (fun a' w' => ∃ (k i c : Nat) (xa : Option Addr) (l : List Cs), i ≤ 4 ∧ k < 100003 ∧ Kc w w' xa i c l ∧ Fr 168 a' ∧ sl a' 1 = .int .i64 (k : Int) ∧ sl a' 2 = .int .i64 (n : Int) ∧ sl a' 3 = .slice xa i c ∧ sl a' 4 = .int .i64 (i : Int)) (fun a' _ => 5 - (intOf (sl a' 4)).toNat) ⟨k, 0, 0, none, [], by decide, hk, ⟨OwnG.nil _ _ _ _, (fun _ h => by cases h), HB⟩, hf, h1, h2, h3, h4⟩ ?_
  rintro a' w' ⟨k1, i, c, xa, l, hi, hk1, hC, hf, h1, h2, h3, h4⟩
  by_cases hlt : i ≤ n % 4
  · have h4o := h4
    have hi4 : i < 4 := by omega
    refine tkDq (qn7 w' k1 n xa i c i hlt a' hf h1 h2 h3 h4) ?_
    rintro a2 _ ⟨hf, h1, h2, h3, h4, rfl⟩
    refine wp_sqR (x := (cAt [1,1,0,1,2,2,1,0,2,1,0,1,2,2,1,0] KK)) (y := (cAt [1,1,0,1,2,2,1,0,2,1,0,1,2,2,1,1] KK)) (R := fun a' w' => ∃ (k' g c' : Nat) (l' : List Cs), k' < 100003 ∧ Kc w w' (some ⟨g, 0, none⟩) (i + 1) c' l' ∧ Fr 168 a' ∧ sl a' 1 = .int .i64 (k' : Int) ∧ sl a' 2 = .int .i64 (n : Int) ∧ sl a' 3 = .slice (some ⟨g, 0, none⟩) (i + 1) c' ∧ sl a' 4 = .int .i64 (i : Int)) (by kernel_rfl) ?_ ?_
    · refine wp_blockR (x := (cAt [1,1,0,1,2,2,1,0,2,1,0,1,2,2,1,0,2] KK)) (id := 3) (by kernel_rfl) ?_
      refine tkDq (qn9 w w' k1 n xa i c i l (by omega) hk1 hC a2 hf h1 h2 h3 h4) ?_
      rintro a3 w3 ⟨g, c', l', hf, h1, h2, h3, h4, hC3⟩
      refine wp_endR (qn10 w3 k1 n _ (i + 1) c' i (by omega) hk1 a3 hf h1 h2 h3 h4) ?_
      rintro a4 _ ⟨k', hf, h1, h2, h3, h4, hk', rfl⟩
      exact ⟨k', g, c', l', hk', hC3, hf, h1, h2, h3, h4⟩
    rintro a3 w3 ⟨k', g, c', l', hk', hC3, hf, h1, h2, h3, h4⟩
    refine wp_endR (qn8 w3 k' n _ (i + 1) c' i (by omega) a3 hf h1 h2 h3 h4) ?_
    rintro a4 _ ⟨hf, h1, h2, h3, h4', rfl⟩
    refine ⟨⟨k', i + 1, c', _, l', hi4, hk', hC3, hf, h1, h2, h3, h4'⟩, ?_⟩
    rw [h4o, h4']
    simp only [intOf]
    omega
  · refine wp_endX (qn7x w' k1 n xa i c i hlt a' hf h1 h2 h3 h4) ?_
    rintro a2 _ ⟨hf, h1, h2, h3, rfl⟩
    exact thru ⟨k1, i, c, xa, l, hk1, hC, hf, h1, h2, h3⟩
theorem kn_acts (w wr : World) (k n m c : Nat) (xa : Option Addr) (l : List Cs) (hk : k < 100003) (HC : Kc w wr xa m c l) (a : Act) (hf : Fr 168 a) (h1 : sl a 1 = .int .i64 (k : Int)) (h2 : sl a 2 = .int .i64 (n : Int)) (h3 : sl a 3 = .slice xa m c) (h5 : sl a 5 = .slice none 0 0) (h6 : sl a 6 = .int .u64 0) :
    Code.wp Try.prog (cAt [1,1,0,1,2,2,1,0,2,1,1,1,1,0] KK) (Exit.then (fun a' w' => ∃ (k' g c2 : Nat) (la : List Ac), k' < 100003 ∧ Ks w w' (some ⟨g, 0, none⟩) 40 c2 la ∧ Kc w w' xa m c l ∧ Fr 168 a' ∧ sl a' 1 = .int .i64 (k' : Int) ∧ sl a' 2 = .int .i64 (n : Int) ∧ sl a' 3 = .slice xa m c ∧ sl a' 5 = .slice (some ⟨g, 0, none⟩) 40 c2) Nope) a wr := by
  refine tkDq (qn13 wr k n xa m c a hf h1 h2 h3 h5 h6) ?_
  rintro a1 _ ⟨hf, h1, h2, h3, h5, h6, h7, rfl⟩
  refine wp_blockR (x := (cAt [1,1,0,1,2,2,1,0,2,1,1,1,1,0,1,2] KK)) (id := 4) (by kernel_rfl) ?_
  refine wp_loopR (x := (cAt [1,1,0,1,2,2,1,0,2,1,1,1,1,0,1,2,2] KK)) (by kernel_rfl) (fun a' w' => ∃ (k i c2 : Nat) (ya : Option Addr) (tq : Int) (la : List Ac), i ≤ 40 ∧ k < 100003 ∧ (0 ≤ tq ∧ tq ≤ 18446744073709551615) ∧ Ks w w' ya i c2 la ∧ Kc w w' xa m c l ∧ Fr 168 a' ∧ sl a' 1 = .int .i64 (k : Int) ∧ sl a' 2 = .int .i64 (n : Int) ∧ sl a' 3 = .slice xa m c ∧ sl a' 5 = .slice ya i c2 ∧ sl a' 6 = .int .u64 tq ∧ sl a' 7 = .int .i64 (i : Int)) (fun a' _ => 40 - (intOf (sl a' 7)).toNat) ⟨k, 0, 0, none, 0, [], by decide, hk, ⟨by decide, by decide⟩, ⟨OwnG.nil _ _ _ _, (fun _ h => by cases h), HC.below⟩, HC, hf, h1, h2, h3, h5, h6, h7⟩ ?_
  rintro a' w' ⟨k1, i, c2, ya, tq, la, hi, hk1, htk, hA, hC, hf, h1, h2, h3, h5, h6, h7⟩
  by_cases hlt : i < 40
  · have h7o := h7
    refine tkDq (qn14 w' k1 n xa m c ya i c2 tq i hlt a' hf h1 h2 h3 h5 h6 h7) ?_
    rintro a2 _ ⟨hf, h1, h2, h3, h5, h6, h7, rfl⟩
    refine wp_sqR (x := (cAt [1,1,0,1,2,2,1,0,2,1,1,1,1,0,1,2,2,1,0] KK)) (y := (cAt [1,1,0,1,2,2,1,0,2,1,1,1,1,0,1,2,2,1,1] KK)) (R := fun a' w' => ∃ (k' g c' : Nat) (tk' : Int) (la' : List Ac), k' < 100003 ∧ (0 ≤ tk' ∧ tk' ≤ 18446744073709551615) ∧ Ks w w' (some ⟨g, 0, none⟩) (i + 1) c' la' ∧ Kc w w' xa m c l ∧ Fr 168 a' ∧ sl a' 1 = .int .i64 (k' : Int) ∧ sl a' 2 = .int .i64 (n : Int) ∧ sl a' 3 = .slice xa m c ∧ sl a' 5 = .slice (some ⟨g, 0, none⟩) (i + 1) c' ∧ sl a' 6 = .int .u64 tk' ∧ sl a' 7 = .int .i64 (i : Int)) (by kernel_rfl) ?_ ?_
    · refine wp_blockR (x := (cAt [1,1,0,1,2,2,1,0,2,1,1,1,1,0,1,2,2,1,0,2] KK)) (id := 5) (by kernel_rfl) ?_
      refine tkDq (qn16 w' k1 n xa m c ya i c2 tq i a2 hf h1 h2 h3 h5 h6 h7) ?_
      rintro a3 _ ⟨tk', hf, h1, h2, h3, h5, h6, h7, ht0, ht1, rfl⟩
      refine tkDq (qn17 w w' k1 n xa m c ya i c2 tk' i l la hA hC hlt (by omega) ht0 ht1 hk1 a3 hf h1 h2 h3 h5 h6 h7) ?_
      rintro a4 w4 ⟨g, c', la', hf, h1, h2, h3, h5, h6, h7, hA4, hC4⟩
      refine wp_endR (qn18 w4 k1 n xa m c _ (i + 1) c' tk' i (by omega) hk1 a4 hf h1 h2 h3 h5 h6 h7) ?_
      rintro a5 _ ⟨k', hf, h1, h2, h3, h5, h6, h7, hk', rfl⟩
      exact ⟨k', g, c', tk', la', hk', ⟨ht0, ht1⟩, hA4, hC4, hf, h1, h2, h3, h5, h6, h7⟩
    rintro a3 w3 ⟨k', g, c', tk', la', hk', htk', hA3, hC3, hf, h1, h2, h3, h5, h6, h7⟩
    refine wp_endR (qn15 w3 k' n xa m c _ (i + 1) c' tk' i hlt a3 hf h1 h2 h3 h5 h6 h7) ?_
    rintro a4 _ ⟨hf, h1, h2, h3, h5, h6, h7', rfl⟩
    refine ⟨⟨k', i + 1, c', _, tk', la', hlt, hk', htk', hA3, hC3, hf, h1, h2, h3, h5, h6, h7'⟩, ?_⟩
    rw [h7o, h7']
    simp only [intOf]
    omega
  · have hi40 : i = 40 := by omega
    obtain ⟨g, hg⟩ : ∃ g, ya = some ⟨g, 0, none⟩ := by
      rcases hA.own.cases with ⟨_, e, _⟩ | ⟨g, _, e, _⟩
      · omega
      · exact ⟨g, e⟩
    refine wp_endX (qn14x w' k1 n xa m c ya i c2 tq i hlt a' hf h1 h2 h3 h5 h6 h7) ?_
    rintro a2 _ ⟨hf, h1, h2, h3, h5, rfl⟩
    rw [hg, hi40] at h5 hA
    exact thru ⟨k1, g, c2, la, hk1, hA, hC, hf, h1, h2, h3, h5⟩
theorem kn_round (w wr : World) (k n : Nat) (hn : n < 80) (hk : k < 100003) (HB : Below w.heap.size w wr) (a : Act) (hf : Fr 168 a) (h1 : sl a 1 = .int .i64 (k : Int)) (h2 : sl a 2 = .int .i64 (n : Int)) :
    Code.wp Try.prog (cAt [1,1,0,1,2,2,1] KK) (Exit.then (fun a' w' => ∃ k' : Nat, k' < 100003 ∧ Below w.heap.size w w' ∧ Fr 168 a' ∧ sl a' 1 = .int .i64 (k' : Int) ∧ sl a' 2 = .int .i64 ((n : Int) + 1)) Nope) a wr := by
  refine wp_sqR (x := (cAt [1,1,0,1,2,2,1,0] KK)) (y := (cAt [1,1,0,1,2,2,1,1] KK)) (R := fun a' w' => ∃ k' : Nat, k' < 100003 ∧ Below w.heap.size w w' ∧ Fr 168 a' ∧ sl a' 1 = .int .i64 (k' : Int) ∧ sl a' 2 = .int .i64 (n : Int)) (by kernel_rfl) ?_ ?_
  · refine wp_blockR (x := (cAt [1,1,0,1,2,2,1,0,2] KK)) (id := 1) (by kernel_rfl) ?_
    refine tkDq (qn5 wr k n a hf h1 h2) ?_
    rintro a1 _ ⟨hf, h1, h2, h3, rfl⟩
    refine tkDq (kn_clas w wr k n hn hk HB a1 hf h1 h2 h3) ?_
    rintro a2 w2 ⟨k2, m, c, xa, l, hk2, hC, hf, h1, h2, h3⟩
    refine tkDq (qn11 w2 k2 n xa m c a2 hf h1 h2 h3) ?_
    rintro a3 _ ⟨hf, h1, h2, h3, h5, rfl⟩
    refine tkDq (qn12 w2 k2 n xa m c a3 hf h1 h2 h3 h5) ?_
    rintro a4 _ ⟨hf, h1, h2, h3, h5, h6, rfl⟩
    refine tkDq (kn_acts w w2 k2 n m c xa l hk2 hC a4 hf h1 h2 h3 h5 h6) ?_
    rintro a5 w5 ⟨k5, g, c2, la, hk5, hA, hC5, hf, h1, h2, h3, h5⟩
    refine tkDq (qn19 w w5 k5 n xa m c g c2 l la hA hC5 a5 hf h1 h2 h3 h5) ?_
    rintro a6 w6 ⟨hf, h1, h2, h106, hb⟩
    refine wp_onF (A := (cAt [1,1,0,1,2,2,1,0,2,1,1,1,1,1,1,3] KK)) (B := (cAt [1,1,0,1,2,2,1,0,2,1,1,1,1,1,1,4] KK)) (by kernel_rfl) h106 ?_
    exact wp_skipR (by kernel_rfl) ⟨k5, hk5, hb, hf, h1, h2⟩
  rintro a1 w1 ⟨k', hk', hb, hf, h1, h2⟩
  refine wp_endR (qn4 w1 k' n hn a1 hf h1 h2) ?_
  rintro a2 _ ⟨hf, h1, h2, rfl⟩
  exact ⟨k', hk', hb, hf, h1, h2⟩
theorem known12_any (w : World) : Calls Try.prog 7 #[] w (Yes w) := by
  refine calls_of_wp (c := KK) Try.func7 (by kernel_rfl) ?_
  have hf0 : Fr 168 { tmps := #[] ++ Array.replicate (Try.f7.ntmps - (#[] : Array Value).size) undef, defers := [] } := ⟨rfl, by rw [Try.ntmps7]; simp⟩
  refine wp_sqR (x := (cAt [0] KK)) (y := (cAt [1] KK)) (by kernel_rfl) (qn0 w _ hf0) ?_
  rintro a0 _ ⟨hf, rfl⟩
  refine tkDq (qn1 w a0 hf) ?_
  rintro a1 _ ⟨hf, h1, rfl⟩
  refine wp_sqR (x := (cAt [1,1,0] KK)) (y := (cAt [1,1,1] KK)) (R := fun a' w' => Fr 168 a' ∧ Below w.heap.size w w') (by kernel_rfl) ?_ ?_
  · refine tkDq (qn2 w 1 a1 hf h1) ?_
    rintro a2 _ ⟨hf, h1, h2, rfl⟩
    refine wp_blockR (x := (cAt [1,1,0,1,2] KK)) (id := 0) (by kernel_rfl) ?_
    refine wp_loopR (x := (cAt [1,1,0,1,2,2] KK)) (by kernel_rfl) (fun a' w' => ∃ k n : Nat, n ≤ 80 ∧ k < 100003 ∧ Below w.heap.size w w' ∧ Fr 168 a' ∧ sl a' 1 = .int .i64 (k : Int) ∧ sl a' 2 = .int .i64 (n : Int)) (fun a' _ => 80 - (intOf (sl a' 2)).toNat) ⟨1, 0, by decide, by decide, Below.refl _ _, hf, h1, h2⟩ ?_
    rintro a' w' ⟨k, n, hn, hk, hb, hf, h1, h2⟩
    by_cases hlt : n < 80
    · have h2o := h2
      refine tkDq (qn3 w' k n hlt a' hf h1 h2) ?_
      rintro a3 _ ⟨hf, h1, h2, rfl⟩
      refine wp_endR (kn_round w w' k n hlt hk hb a3 hf h1 h2) ?_
      rintro a4 w4 ⟨k', hk', hb4, hf, h1, h2'⟩
      refine ⟨⟨k', n + 1, hlt, hk', hb4, hf, h1, h2'⟩, ?_⟩
      rw [h2o, h2']
      simp only [intOf]
      omega
    · refine wp_endX (qn3x w' k n hlt a' hf h1 h2) ?_
      rintro a3 _ ⟨hf, rfl⟩
      exact thru ⟨hf, hb⟩
  rintro a2 w2 ⟨hf, hb2⟩
  refine tkDq (qn21 w2 a2 hf) ?_
  rintro a3 w3 ⟨go, hf, h8, hb3, ho3⟩
  refine tkDq (qn22 w3 go a3 hf h8) ?_
  rintro a4 w4 ⟨ga, hf, h8, h9, hb4, ha4⟩
  have hbw3 := hb2.trans (hb3.mono hb2.size)
  have hbw4 := hbw3.trans (hb4.mono hbw3.size)
  have hO4 : OwnG w4 w.heap.size 45 4 (some ⟨go, 0, none⟩) 5 5 (oddL.flatMap Cs.cs) ∧ OwnG w4 w.heap.size 42 6 (some ⟨ga, 0, none⟩) 9 9 (allL.flatMap Ac.cs) ∧ Below w.heap.size w w4 := ⟨(ho3.below hb4).monoo hb2.size, ha4.monoo hbw3.size, hbw4⟩
  refine wp_sqR (x := (cAt [1,1,1,1,1,0] KK)) (y := (cAt [1,1,1,1,1,1] KK)) (R := fun a' w' => (OwnG w' w.heap.size 45 4 (some ⟨go, 0, none⟩) 5 5 (oddL.flatMap Cs.cs) ∧ OwnG w' w.heap.size 42 6 (some ⟨ga, 0, none⟩) 9 9 (allL.flatMap Ac.cs) ∧ Below w.heap.size w w') ∧ Fr 168 a' ∧ sl a' 8 = .slice (some ⟨go, 0, none⟩) 5 5 ∧ sl a' 9 = .slice (some ⟨ga, 0, none⟩) 9 9) (by kernel_rfl) ?_ ?_
  · refine tkDq (qn23 w4 go ga a4 hf h8 h9) ?_
    rintro a5 _ ⟨hf, h8, h9, h10, rfl⟩
    refine wp_blockR (x := (cAt [1,1,1,1,1,0,1,2] KK)) (id := 6) (by kernel_rfl) ?_
    refine wp_loopR (x := (cAt [1,1,1,1,1,0,1,2,2] KK)) (by kernel_rfl) (fun a' w' => ∃ i : Nat, i ≤ 5 ∧ (OwnG w' w.heap.size 45 4 (some ⟨go, 0, none⟩) 5 5 (oddL.flatMap Cs.cs) ∧ OwnG w' w.heap.size 42 6 (some ⟨ga, 0, none⟩) 9 9 (allL.flatMap Ac.cs) ∧ Below w.heap.size w w') ∧ Fr 168 a' ∧ sl a' 8 = .slice (some ⟨go, 0, none⟩) 5 5 ∧ sl a' 9 = .slice (some ⟨ga, 0, none⟩) 9 9 ∧ sl a' 10 = .int .i64 (i : Int)) (fun a' _ => 5 - (intOf (sl a' 10)).toNat) ⟨0, by decide, hO4, hf, h8, h9, h10⟩ ?_
    rintro a' w' ⟨i, hi, hO, hf, h8, h9, h10⟩
    by_cases hlt : i < 5
    · have h10o := h10
      refine tkDq (qn24 w' go ga i hlt a' hf h8 h9 h10) ?_
      rintro a6 _ ⟨hf, h8, h9, h10, rfl⟩
      refine wp_sqR (x := (cAt [1,1,1,1,1,0,1,2,2,1,0] KK)) (y := (cAt [1,1,1,1,1,0,1,2,2,1,1] KK)) (R := fun a' w' => (OwnG w' w.heap.size 45 4 (some ⟨go, 0, none⟩) 5 5 (oddL.flatMap Cs.cs) ∧ OwnG w' w.heap.size 42 6 (some ⟨ga, 0, none⟩) 9 9 (allL.flatMap Ac.cs) ∧ Below w.heap.size w w') ∧ Fr 168 a' ∧ sl a' 8 = .slice (some ⟨go, 0, none⟩) 5 5 ∧ sl a' 9 = .slice (some ⟨ga, 0, none⟩) 9 9 ∧ sl a' 10 = .int .i64 (i : Int)) (by kernel_rfl) ?_ ?_
      · refine wp_blockR (x := (cAt [1,1,1,1,1,0,1,2,2,1,0,2] KK)) (id := 7) (by kernel_rfl) ?_
        refine wp_sqR (x := (cAt [1,1,1,1,1,0,1,2,2,1,0,2,0] KK)) (y := (cAt [1,1,1,1,1,0,1,2,2,1,0,2,1] KK)) (R := fun a' w' => (OwnG w' w.heap.size 45 4 (some ⟨go, 0, none⟩) 5 5 (oddL.flatMap Cs.cs) ∧ OwnG w' w.heap.size 42 6 (some ⟨ga, 0, none⟩) 9 9 (allL.flatMap Ac.cs) ∧ Below w.heap.size w w') ∧ Fr 168 a' ∧ sl a' 8 = .slice (some ⟨go, 0, none⟩) 5 5 ∧ sl a' 9 = .slice (some ⟨ga, 0, none⟩) 9 9 ∧ sl a' 10 = .int .i64 (i : Int) ∧ sl a' 153 = .bool false) (by kernel_rfl) ?_ ?_
        · obtain ⟨x, hx⟩ : ∃ x, oddL[i]? = some x := ⟨_, List.getElem?_eq_getElem (show i < 5 from hlt)⟩
          refine wp_endR (qn26 w w' go ga i x hx hlt hO a6 hf h8 h9 h10) ?_
          rintro a7 w7 ⟨hf, h8, h9, h10, h153, hO7⟩
          exact ⟨hO7, hf, h8, h9, h10, h153⟩
        rintro a7 w7 ⟨hO7, hf, h8, h9, h10, h153⟩
        refine wp_onF (A := (cAt [1,1,1,1,1,0,1,2,2,1,0,2,1,3] KK)) (B := (cAt [1,1,1,1,1,0,1,2,2,1,0,2,1,4] KK)) (by kernel_rfl) h153 ?_
        exact wp_skipR (by kernel_rfl) ⟨hO7, hf, h8, h9, h10⟩
      rintro a7 w7 ⟨hO7, hf, h8, h9, h10⟩
      refine wp_endR (qn25 w7 go ga i hlt a7 hf h8 h9 h10) ?_
      rintro a8 _ ⟨hf, h8, h9, h10', rfl⟩
      refine ⟨⟨i + 1, hlt, hO7, hf, h8, h9, h10'⟩, ?_⟩
      rw [h10o, h10']
      simp only [intOf]
      omega
    · refine wp_endX (qn24x w' go ga i hlt a' hf h8 h9 h10) ?_
      rintro a6 _ ⟨hf, h8, h9, rfl⟩
      exact thru ⟨hO, hf, h8, h9⟩
  rintro a5 w5 ⟨hO5, hf, h8, h9⟩
  exact qn28 w w5 go ga hO5 a5 hf h8 h9
end Go.Proofs.Ytpigpeehhadkjaa

/-
  The contract of a shaper's New. Conditions: a row of classes whose numbers fit their Go types. (Made by gen_spnew.py.)
-/
import Derived.Test.YtpigpeehhadkjaaSpRel
namespace Go.Proofs.Ytpigpeehhadkjaa
open Go.RowKit Bkt

/-- Out by a return alone. -/
def RetsV (fn : Func) (R : Ending → World → Prop) (e : Exit) (a : Act) (w : World) : Prop := e = .ret ∧ bodyPost Try.prog fn R .ret a w
theorem wp_endT {x : Code} {fn : Func} {R : Ending → World → Prop} {a : Act} {w : World} {Q : Exit → Act → World → Prop} (h1 : x.wp Try.prog (RetsV fn R) a w) (h2 : ∀ a' w', bodyPost Try.prog fn R .ret a' w' → Q .ret a' w') : x.wp Try.prog Q a w := by
  refine wp_mono h1 ?_
  rintro e a' w' ⟨rfl, hq⟩
  exact h2 _ _ hq
/-- A class: its rate, burst, bounds. -/
structure Cs where
  r : Int
  B : Int
  I : Int
  S : Int
def Cs.cs (x : Cs) : List Value := [.int .u64 x.r, .int .u64 x.B, .int .i64 x.I, .int .i64 x.S]
theorem Cs.len (x : Cs) : x.cs.length = 4 := rfl
theorem Cs.one (x : Cs) : ∀ v ∈ x.cs, v.oneCell' = true := by
  intro v hv
  simp only [Cs.cs, List.mem_cons, List.not_mem_nil, or_false] at hv
  rcases hv with rfl | rfl | rfl | rfl <;> rfl
structure Cs.ok (x : Cs) : Prop where
  r0 : 0 ≤ x.r
  r1 : x.r ≤ 18446744073709551615
  B0 : 0 ≤ x.B
  B1 : x.B ≤ 18446744073709551615
  I0 : -9223372036854775808 ≤ x.I
  I1 : x.I ≤ 9223372036854775807
  S0 : -9223372036854775808 ≤ x.S
  S1 : x.S ≤ 9223372036854775807
/-- May a class be? -/
def Cs.may (x : Cs) : Bool := decide (2048 ≤ x.B) && (decide (0 ≤ x.I) && (decide (x.I ≤ 65536) && decide (0 ≤ x.S)))
def Cs.new (T : Int) (x : Cs) : Ab := ⟨⟨x.r, x.B, T, x.B⟩, ⟨x.I, x.S, [], 0⟩, 0, 0, 0, 0⟩
/-- May a shaper of these classes be? -/
def mayB (l : List Cs) : Bool := decide (1 ≤ l.length) && (decide (l.length ≤ 8) && l.all Cs.may)
/-- A row of classes. -/
structure Rcs (w : World) (a : Option Addr) (n : Nat) (l : List Cs) : Prop where
  len : l.length = n
  ok : ∀ x ∈ l, x.ok
  cells : l ≠ [] → ∃ b o, a = some ⟨b, o, none⟩ ∧ ∀ (i : Nat) (x : Cs), l[i]? = some x → w.rangeAt b (o + i * 4) x.cs
theorem range_past {w w' : World} {b o : Nat} {cs : List Value} (k : Below w.heap.size w w') (h : w.rangeAt b o cs) : w'.rangeAt b o cs := fun j v hv => by
  have h1 := h j v hv
  rw [← h1]
  exact World.cell?_of_block (k.block b (World.block_lt_of_cell? w _ h1))
theorem Rcs.below {w w' : World} {a : Option Addr} {n : Nat} {l : List Cs} (h : Rcs w a n l) (k : Below w.heap.size w w') : Rcs w' a n l :=
  ⟨h.len, h.ok, fun hne => by
    obtain ⟨b, o, e, hc⟩ := h.cells hne
    exact ⟨b, o, e, fun i x hx => range_past k (hc i x hx)⟩⟩
/-- A shaper with a lane more. -/
theorem Sw.grow {w0 W W1 W2 : World} {g r cap' : Nat} {T : Int} {v : Option Addr} {k cap : Nat} {ls : List La} {m : La} (h : Sw W w0.heap.size g ⟨T, v, k, cap, ls⟩) (hb : Below W.heap.size W W1) (hm : Lw W1 w0.heap.size m) (hnew : ∀ j, m.foot j → W.heap.size ≤ j)
    (hown : OwnG W2 w0.heap.size 77 1 (some ⟨r, 0, none⟩) (k + 1) cap' (ls.map (fun l => ptr l.g) ++ [ptr m.g])) (hk : Kept (fun j => blk v = some j) W1 W2) (hle : k + 1 ≤ 8) :
    Sw (W2.setCell ⟨g, 1, none⟩ (.slice (some ⟨r, 0, none⟩) (k + 1) cap')) w0.heap.size g ⟨T, some ⟨r, 0, none⟩, k + 1, cap', ls ++ [m]⟩ := by
  have h1 := h.below hb
  have hlt := h.lt
  have hmg : ¬ m.foot g := fun e => by have := hnew g e; omega
  have hvb : ∀ j, blk v = some j → ∃ cur, W1.heap[j]? = some (.cells cur 77 (0, 0)) := fun j hj => by
    rcases h1.ptrs.cases with ⟨e, _⟩ | ⟨r2, cur, e, _, hr, _⟩
    · replace e : v = none := e
      rw [e] at hj; cases hj
    · replace e : v = some ⟨r2, 0, none⟩ := e
      rw [e] at hj
      simp [blk] at hj
      subst hj
      exact ⟨cur, hr⟩
  have hgv : ¬ blk v = some g := fun e => by
    obtain ⟨cur, hr⟩ := hvb g e
    rw [h1.row] at hr
    simp at hr
  have hrow2 : W2.heap[g]? = some (.cells #[.int .u64 T, .slice v k cap] 73 (0, 0)) := hk.heap h1.row hgv
  have k3 : Kept (fun j => j = g) W2 (W2.setCell ⟨g, 1, none⟩ (.slice (some ⟨r, 0, none⟩) (k + 1) cap')) := Kept.setCell _ _ _ rfl
  have hrg : ¬ r = g := fun e => by
    rcases hown.cases with ⟨e2, _⟩ | ⟨r2, cur, e2, _, hr, _⟩
    · cases e2
    · simp at e2
      rw [← e2, e, hrow2] at hr
      simp at hr
  have hkeep : ∀ l, Lw W1 w0.heap.size l → ¬ l.foot g → Lw (W2.setCell ⟨g, 1, none⟩ (.slice (some ⟨r, 0, none⟩) (k + 1) cap')) w0.heap.size l := fun l hl hlg =>
    (hl.keep hk (fun i hi e => by
      obtain ⟨cur, hr⟩ := hvb i e
      exact hl.apart hr (by decide) (by decide) (by decide) (by decide) (by decide) hi)).keep k3 (fun i hi e => hlg (e ▸ hi))
  refine ⟨?_, ?_, fun l hl => ?_, ?_, ?_, hle, h.base⟩
  · rw [heap_setCell_same _ g 1 _ _ _ hrow2]; rfl
  · have : Sh.ps ⟨T, some ⟨r, 0, none⟩, k + 1, cap', ls ++ [m]⟩ = ls.map (fun l => ptr l.g) ++ [ptr m.g] := by unfold Sh.ps; simp
    rw [this]
    exact hown.keep k3 (fun b hb e => hrg (by simp [blk] at hb; omega))
  · rcases List.mem_append.1 hl with hl | hl
    · refine hkeep l (h1.lws l hl) (fun e => ?_)
      exact (h1.lws l hl).apart h1.row (by decide) (by decide) (by decide) (by decide) (by decide) e
    · simp at hl
      subst hl
      exact hkeep l hm hmg
  · show (ls ++ [m]).Pairwise _
    rw [List.pairwise_append]
    refine ⟨h.dis, List.pairwise_singleton _ _, fun l hl x hx k2 hk2 hk3 => ?_⟩
    simp at hx
    subst hx
    have := (h.lws l hl).foot_lt hk2
    have := hnew k2 hk3
    omega
  · show (ls ++ [m]).length = k + 1
    have := h.len
    replace this : ls.length = k := this
    simp [this]
theorem infPLn : (Try.prog.info? 77).map (fun i => (i.zero, i.size, i.bytes)) = some (some (.pointer none), 1, 8) := by kernel_rfl
/-- New, on its way. -/
structure Nw (w W : World) (g : Nat) (T : Int) (v : Option Addr) (k cap : Nat) (ls : List La) (l : List Cs) : Prop where
  sw : Sw W w.heap.size g ⟨T, v, k, cap, ls⟩
  ab : ls.map La.abs = (l.take k).map (Cs.new T)
  below : Below w.heap.size w W
  may : ∀ x ∈ l.take k, x.may = true
theorem Nw.past {w W W' : World} {g : Nat} {T : Int} {v : Option Addr} {k cap : Nat} {ls : List La} {l : List Cs} (h : Nw w W g T v k cap ls l) (hb : Below W.heap.size W W') : Nw w W' g T v k cap ls l := ⟨h.sw.below hb, h.ab, h.below.trans (hb.mono h.below.size), h.may⟩

noncomputable def KN : Code := Try.f10.body.getD .skip
set_option maxRecDepth 100000 in
theorem frKN {a : Act} (h : Fr 63 a) : ∃ f : Nat → Value, a = ⟨#[f 0, f 1, f 2, f 3, f 4, f 5, f 6, f 7, f 8, f 9, f 10, f 11, f 12, f 13, f 14, f 15, f 16, f 17, f 18, f 19, f 20, f 21, f 22, f 23, f 24, f 25, f 26, f 27, f 28, f 29, f 30, f 31, f 32, f 33, f 34, f 35, f 36, f 37, f 38, f 39, f 40, f 41, f 42, f 43, f 44, f 45, f 46, f 47, f 48, f 49, f 50, f 51, f 52, f 53, f 54, f 55, f 56, f 57, f 58, f 59, f 60, f 61, f 62], []⟩ ∧ ∀ i, f i = sl a i := fr_any h

set_option maxRecDepth 100000 in
set_option maxHeartbeats 4000000 in
theorem n0 (w : World) (T : Int) (xa : Option Addr) (n c : Nat) (a : Act) (hf : Fr 63 a) (h0 : sl a 0 = .int .u64 T) (h1 : sl a 1 = .slice xa n c) :
    Code.wp Try.prog (cAt [0] KN) (Exit.then (fun a' w' => Fr 63 a' ∧ sl a' 0 = .int .u64 T ∧ sl a' 1 = .slice xa n c ∧ w = w') Nope) a w := by
  obtain ⟨f, ha, hs⟩ := frKN hf
  have e0 := (hs 0).trans h0
  have e1 := (hs 1).trans h1
  rw [e0, e1] at ha
  clear hs hf e0 h0 e1 h1
  subst ha
  refine piece2 fun J0 K0 hJ0 hK0 => ?_
  conv => arg 2; whnf
  go_wp2_with fail
  refine Met.intro (hJ0 _ _ ?_)
  exact ⟨⟨rfl, rfl⟩, rfl, rfl, rfl⟩

set_option maxRecDepth 100000 in
set_option maxHeartbeats 4000000 in
theorem n1 (w : World) (T : Int) (xa : Option Addr) (n c : Nat) (a : Act) (hf : Fr 63 a) (h0 : sl a 0 = .int .u64 T) (h1 : sl a 1 = .slice xa n c) :
    Code.wp Try.prog (cAt [1,0,0] KN) (Exit.then (fun a' w' => Fr 63 a' ∧ sl a' 0 = .int .u64 T ∧ sl a' 1 = .slice xa n c ∧ sl a' 18 = .bool (decide (n = 0) || decide (8 < n)) ∧ w = w') Nope) a w := by
  obtain ⟨f, ha, hs⟩ := frKN hf
  have e0 := (hs 0).trans h0
  have e1 := (hs 1).trans h1
  rw [e0, e1] at ha
  clear hs hf e0 h0 e1 h1
  subst ha
  refine piece2 fun J0 K0 hJ0 hK0 => ?_
  conv => arg 2; whnf
  by_cases h0 : n = 0
  · subst h0
    go_wp2_with fail
    refine Met.intro (hJ0 _ _ ?_)
    exact ⟨⟨rfl, rfl⟩, rfl, rfl, rfl, rfl⟩
  · have h0i : ¬ (n : Int) = 0 := by omega
    have h0b : ((n : Int) == 0) = false := by simpa using h0
    by_cases h8 : 8 < n
    · have h8i : (8 : Int) < (n : Int) := by omega
      go_wp2_with fail
      refine Met.intro (hJ0 _ _ ?_)
      exact ⟨⟨rfl, rfl⟩, rfl, rfl, by rw [decide_eq_true h8, decide_eq_false h0]; rfl, rfl⟩
    · have h8i : ¬ (8 : Int) < (n : Int) := by omega
      go_wp2_with fail
      refine Met.intro (hJ0 _ _ ?_)
      exact ⟨⟨rfl, rfl⟩, rfl, rfl, by rw [decide_eq_false h8, decide_eq_false h0]; rfl, rfl⟩

set_option maxRecDepth 100000 in
set_option maxHeartbeats 4000000 in
theorem n2 (wr : World) (R : Ending → World → Prop) (HR : R (.returned (.tuple #[.pointer none, .int .i64 2])) wr) (a : Act) (hf : Fr 63 a) :
    Code.wp Try.prog (cAt [1,0,1,3] KN) (RetsV Try.f10 R) a wr := by
  have H := Lib.hid HR
  clear HR
  obtain ⟨f, ha, hs⟩ := frKN hf
  clear hs hf 
  subst ha
  conv => arg 2; whnf
  go_wp2_with fail
  refine ⟨rfl, rfl, _, ?_, H.out⟩
  simp [results, Try.results10, go_sem]

set_option maxRecDepth 100000 in
set_option maxHeartbeats 4000000 in
theorem n3 (w : World) (T : Int) (xa : Option Addr) (n c : Nat) (l : List Cs) (a : Act) (hf : Fr 63 a) (h0 : sl a 0 = .int .u64 T) (h1 : sl a 1 = .slice xa n c) :
    Code.wp Try.prog (cAt [1,1,0] KN) (Exit.then (fun a' w' => ∃ g, Fr 63 a' ∧ sl a' 0 = .int .u64 T ∧ sl a' 1 = .slice xa n c ∧ sl a' 6 = .pointer (some ⟨g, 0, none⟩) ∧ Nw w w' g T none 0 0 [] l) Nope) a w := by
  obtain ⟨f, ha, hs⟩ := frKN hf
  have e0 := (hs 0).trans h0
  have e1 := (hs 1).trans h1
  rw [e0, e1] at ha
  clear hs hf e0 h0 e1 h1
  subst ha
  refine piece2 fun J0 K0 hJ0 hK0 => ?_
  conv => arg 2; whnf
  have HN : Hid (Nw w (w.alloc (.cells #[.int .u64 T, .slice none 0 0] 73)) w.heap.size T none 0 0 [] l) :=
    ⟨⟨Blk_new _ _ _, OwnG.nil _ _ _ _, fun x hx => (by cases hx), List.Pairwise.nil, rfl, Nat.zero_le _, Nat.le_refl _⟩, by simp, (Below.refl _ _).alloc (Nat.le_refl _) _, fun x hx => by simp at hx⟩
  go_wp2_with fail
  refine Met.intro (hJ0 _ _ ?_)
  exact ⟨_, ⟨rfl, rfl⟩, rfl, rfl, rfl, HN.out⟩

set_option maxRecDepth 100000 in
set_option maxHeartbeats 4000000 in
theorem n4 (w : World) (T : Int) (xa : Option Addr) (n c g : Nat) (a : Act) (hf : Fr 63 a) (h0 : sl a 0 = .int .u64 T) (h1 : sl a 1 = .slice xa n c) (h6 : sl a 6 = .pointer (some ⟨g, 0, none⟩)) :
    Code.wp Try.prog (cAt [1,1,1,0,0] KN) (Exit.then (fun a' w' => Fr 63 a' ∧ sl a' 0 = .int .u64 T ∧ sl a' 6 = .pointer (some ⟨g, 0, none⟩) ∧ sl a' 22 = .slice xa n c ∧ sl a' 23 = .int .i64 (n : Int) ∧ sl a' 24 = .int .i64 0 ∧ w = w') Nope) a w := by
  obtain ⟨f, ha, hs⟩ := frKN hf
  have e0 := (hs 0).trans h0
  have e1 := (hs 1).trans h1
  have e6 := (hs 6).trans h6
  rw [e0, e1, e6] at ha
  clear hs hf e0 h0 e1 h1 e6 h6
  subst ha
  refine piece2 fun J0 K0 hJ0 hK0 => ?_
  conv => arg 2; whnf
  go_wp2_with fail
  refine Met.intro (hJ0 _ _ ?_)
  exact ⟨⟨rfl, rfl⟩, rfl, rfl, rfl, rfl, rfl, rfl⟩

set_option maxRecDepth 100000 in
set_option maxHeartbeats 4000000 in
theorem n5 (wr : World) (T : Int) (xa : Option Addr) (n c g k : Nat) (hi : k < n) (a : Act) (hf : Fr 63 a) (h0 : sl a 0 = .int .u64 T) (h6 : sl a 6 = .pointer (some ⟨g, 0, none⟩)) (h22 : sl a 22 = .slice xa n c) (h23 : sl a 23 = .int .i64 (n : Int)) (h24 : sl a 24 = .int .i64 (k : Int)) :
    Code.wp Try.prog (cAt [1,1,1,0,1,2,2,0] KN) (Exit.then (fun a' w' => Fr 63 a' ∧ sl a' 0 = .int .u64 T ∧ sl a' 6 = .pointer (some ⟨g, 0, none⟩) ∧ sl a' 22 = .slice xa n c ∧ sl a' 23 = .int .i64 (n : Int) ∧ sl a' 24 = .int .i64 (k : Int) ∧ sl a' 25 = .bool true ∧ wr = w') Nope) a wr := by
  obtain ⟨f, ha, hs⟩ := frKN hf
  have e0 := (hs 0).trans h0
  have e6 := (hs 6).trans h6
  have e22 := (hs 22).trans h22
  have e23 := (hs 23).trans h23
  have e24 := (hs 24).trans h24
  rw [e0, e6, e22, e23, e24] at ha
  clear hs hf e0 h0 e6 h6 e22 h22 e23 h23 e24 h24
  subst ha
  refine piece2 fun J0 K0 hJ0 hK0 => ?_
  conv => arg 2; whnf
  have hi2 : (k : Int) < (n : Int) := by omega
  go_wp2_with fail
  refine Met.intro (hJ0 _ _ ?_)
  exact ⟨⟨rfl, rfl⟩, rfl, rfl, rfl, rfl, rfl, rfl, rfl⟩

set_option maxRecDepth 100000 in
set_option maxHeartbeats 4000000 in
theorem n5x (wr : World) (T : Int) (xa : Option Addr) (n c g k : Nat) (hi : ¬ k < n) (a : Act) (hf : Fr 63 a) (h0 : sl a 0 = .int .u64 T) (h6 : sl a 6 = .pointer (some ⟨g, 0, none⟩)) (h22 : sl a 22 = .slice xa n c) (h23 : sl a 23 = .int .i64 (n : Int)) (h24 : sl a 24 = .int .i64 (k : Int)) :
    Code.wp Try.prog (cAt [1,1,1,0,1,2,2] KN) (Outs 0 (fun a' w' => Fr 63 a' ∧ sl a' 6 = .pointer (some ⟨g, 0, none⟩) ∧ wr = w')) a wr := by
  obtain ⟨f, ha, hs⟩ := frKN hf
  have e0 := (hs 0).trans h0
  have e6 := (hs 6).trans h6
  have e22 := (hs 22).trans h22
  have e23 := (hs 23).trans h23
  have e24 := (hs 24).trans h24
  rw [e0, e6, e22, e23, e24] at ha
  clear hs hf e0 h0 e6 h6 e22 h22 e23 h23 e24 h24
  subst ha
  conv => arg 2; whnf
  go_wp2_with fail
  exact ⟨rfl, ⟨rfl, rfl⟩, rfl, rfl⟩

set_option maxRecDepth 100000 in
set_option maxHeartbeats 4000000 in
theorem n6 (wr : World) (T : Int) (xb xo n c g k : Nat) (x : Cs) (HX : Hid (World.rangeAt wr xb (xo + k * 4) x.cs)) (hi : k < n) (a : Act) (hf : Fr 63 a) (h0 : sl a 0 = .int .u64 T) (h6 : sl a 6 = .pointer (some ⟨g, 0, none⟩)) (h22 : sl a 22 = .slice (some ⟨xb, xo, none⟩) n c) (h23 : sl a 23 = .int .i64 (n : Int)) (h24 : sl a 24 = .int .i64 (k : Int)) :
    Code.wp Try.prog (cAt [1,1,1,0,1,2,2,1,1,0,2,0] KN) (Exit.then (fun a' w' => ∃ bx, Fr 63 a' ∧ sl a' 0 = .int .u64 T ∧ sl a' 6 = .pointer (some ⟨g, 0, none⟩) ∧ sl a' 22 = .slice (some ⟨xb, xo, none⟩) n c ∧ sl a' 23 = .int .i64 (n : Int) ∧ sl a' 24 = .int .i64 (k : Int) ∧ sl a' 8 = .pointer (some ⟨bx, 0, none⟩) ∧ w'.heap[bx]? = some (.cells #[.int .u64 x.r, .int .u64 x.B, .int .i64 x.I, .int .i64 x.S] 45 (0, 0)) ∧ wr.heap.size ≤ bx ∧ Below wr.heap.size wr w') Nope) a wr := by
  obtain ⟨f, ha, hs⟩ := frKN hf
  have e0 := (hs 0).trans h0
  have e6 := (hs 6).trans h6
  have e22 := (hs 22).trans h22
  have e23 := (hs 23).trans h23
  have e24 := (hs 24).trans h24
  rw [e0, e6, e22, e23, e24] at ha
  clear hs hf e0 h0 e6 h6 e22 h22 e23 h23 e24 h24
  subst ha
  refine piece2 fun J0 K0 hJ0 hK0 => ?_
  conv => arg 2; whnf
  have hi2 : (k : Int) < (n : Int) := by omega
  have hi0 : (0 : Int) ≤ (k : Int) := by omega
  have c0 : wr.cell? ⟨xb, xo + k * 4, none⟩ = some (.int .u64 x.r) := HX.out 0 _ rfl
  have c1 : wr.cell? ⟨xb, xo + k * 4 + 1, none⟩ = some (.int .u64 x.B) := HX.out 1 _ rfl
  have c2 : wr.cell? ⟨xb, xo + k * 4 + 2, none⟩ = some (.int .i64 x.I) := HX.out 2 _ rfl
  have c3 : wr.cell? ⟨xb, xo + k * 4 + 3, none⟩ = some (.int .i64 x.S) := HX.out 3 _ rfl
  have H1 : Hid ((wr.alloc (.cells #[.int .u64 x.r, .int .u64 x.B, .int .i64 x.I, .int .i64 x.S] 45)).heap[wr.heap.size]? = some (.cells #[.int .u64 x.r, .int .u64 x.B, .int .i64 x.I, .int .i64 x.S] 45 (0, 0)) ∧ Below wr.heap.size wr (wr.alloc (.cells #[.int .u64 x.r, .int .u64 x.B, .int .i64 x.I, .int .i64 x.S] 45))) := ⟨Blk_new _ _ _, (Below.refl _ _).alloc (Nat.le_refl _) _⟩
  go_wp2_with fail
  refine Met.intro (hJ0 _ _ ?_)
  exact ⟨_, ⟨rfl, rfl⟩, rfl, rfl, rfl, rfl, rfl, rfl, H1.out.1, Nat.le_refl _, H1.out.2⟩

set_option maxRecDepth 100000 in
set_option maxHeartbeats 4000000 in
theorem n7 (wr : World) (T : Int) (xb xo n c g k bx : Nat) (x : Cs) (HB : Hid (wr.heap[bx]? = some (.cells #[.int .u64 x.r, .int .u64 x.B, .int .i64 x.I, .int .i64 x.S] 45 (0, 0)))) (h0 : 0 ≤ x.I) (h1 : x.I ≤ 65536) (h2 : 0 ≤ x.S) (h3 : x.S ≤ 9223372036854775807) (a : Act) (hf : Fr 63 a) (h0 : sl a 0 = .int .u64 T) (h6 : sl a 6 = .pointer (some ⟨g, 0, none⟩)) (h22 : sl a 22 = .slice (some ⟨xb, xo, none⟩) n c) (h23 : sl a 23 = .int .i64 (n : Int)) (h24 : sl a 24 = .int .i64 (k : Int)) (h8 : sl a 8 = .pointer (some ⟨bx, 0, none⟩)) :
    Code.wp Try.prog (cAt [1,1,1,0,1,2,2,1,1,0,2,1,0] KN) (Exit.then (fun a' w' => ∃ gq, Fr 63 a' ∧ sl a' 0 = .int .u64 T ∧ sl a' 6 = .pointer (some ⟨g, 0, none⟩) ∧ sl a' 22 = .slice (some ⟨xb, xo, none⟩) n c ∧ sl a' 23 = .int .i64 (n : Int) ∧ sl a' 24 = .int .i64 (k : Int) ∧ sl a' 8 = .pointer (some ⟨bx, 0, none⟩) ∧ sl a' 9 = .pointer (some ⟨gq, 0, none⟩) ∧ sl a' 10 = .int .i64 0 ∧ Qu w' wr.heap.size gq ⟨x.I, x.S, none, 0, [], [], 0⟩ ∧ wr.heap.size ≤ gq ∧ Below wr.heap.size wr w') Nope) a wr := by
  obtain ⟨f, ha, hs⟩ := frKN hf
  have e0 := (hs 0).trans h0
  have e6 := (hs 6).trans h6
  have e22 := (hs 22).trans h22
  have e23 := (hs 23).trans h23
  have e24 := (hs 24).trans h24
  have e8 := (hs 8).trans h8
  rw [e0, e6, e22, e23, e24, e8] at ha
  clear hs hf e0 h0 e6 h6 e22 h22 e23 h23 e24 h24 e8 h8
  subst ha
  refine piece2 fun J0 K0 hJ0 hK0 => ?_
  conv => arg 2; whnf
  have c2 := q4_2 HB.out
  have c3 := q4_3 HB.out
  go_wp2_with fail
  refine (fNew_any x.I x.S wr h0 h1 h2 h3).mono ?_
  rintro e w1 ⟨gq, rfl, hge, hq, hb⟩
  have HQ : Hid (Qu w1 wr.heap.size gq ⟨x.I, x.S, none, 0, [], [], 0⟩ ∧ wr.heap.size ≤ gq ∧ Below wr.heap.size wr w1) := ⟨hq, hge, hb⟩
  clear hge hq hb
  go_wp2_with fail
  refine Met.intro (hJ0 _ _ ?_)
  exact ⟨gq, ⟨rfl, rfl⟩, rfl, rfl, rfl, rfl, rfl, rfl, rfl, rfl, HQ.out⟩

set_option maxRecDepth 100000 in
set_option maxHeartbeats 4000000 in
theorem n7n (wr : World) (T : Int) (xb xo n c g k bx : Nat) (x : Cs) (HB : Hid (wr.heap[bx]? = some (.cells #[.int .u64 x.r, .int .u64 x.B, .int .i64 x.I, .int .i64 x.S] 45 (0, 0)))) (hn : x.I < 0 ∨ x.S < 0 ∨ 65536 < x.I) (a : Act) (hf : Fr 63 a) (h0 : sl a 0 = .int .u64 T) (h6 : sl a 6 = .pointer (some ⟨g, 0, none⟩)) (h22 : sl a 22 = .slice (some ⟨xb, xo, none⟩) n c) (h23 : sl a 23 = .int .i64 (n : Int)) (h24 : sl a 24 = .int .i64 (k : Int)) (h8 : sl a 8 = .pointer (some ⟨bx, 0, none⟩)) :
    Code.wp Try.prog (cAt [1,1,1,0,1,2,2,1,1,0,2,1,0] KN) (Exit.then (fun a' w' => Fr 63 a' ∧ sl a' 0 = .int .u64 T ∧ sl a' 6 = .pointer (some ⟨g, 0, none⟩) ∧ sl a' 22 = .slice (some ⟨xb, xo, none⟩) n c ∧ sl a' 23 = .int .i64 (n : Int) ∧ sl a' 24 = .int .i64 (k : Int) ∧ sl a' 8 = .pointer (some ⟨bx, 0, none⟩) ∧ sl a' 9 = .pointer none ∧ sl a' 10 = .int .i64 2 ∧ wr = w') Nope) a wr := by
  obtain ⟨f, ha, hs⟩ := frKN hf
  have e0 := (hs 0).trans h0
  have e6 := (hs 6).trans h6
  have e22 := (hs 22).trans h22
  have e23 := (hs 23).trans h23
  have e24 := (hs 24).trans h24
  have e8 := (hs 8).trans h8
  rw [e0, e6, e22, e23, e24, e8] at ha
  clear hs hf e0 h0 e6 h6 e22 h22 e23 h23 e24 h24 e8 h8
  subst ha
  refine piece2 fun J0 K0 hJ0 hK0 => ?_
  conv => arg 2; whnf
  have c2 := q4_2 HB.out
  have c3 := q4_3 HB.out
  have HN := Lib.hid hn
  clear hn
  go_wp2_with fail
  refine (fNew_no x.I x.S wr HN.out).mono ?_
  rintro e w1 ⟨rfl, hw⟩
  subst hw
  go_wp2_with fail
  refine Met.intro (hJ0 _ _ ?_)
  exact ⟨⟨rfl, rfl⟩, rfl, rfl, rfl, rfl, rfl, rfl, rfl, rfl, rfl⟩

set_option maxRecDepth 100000 in
set_option maxHeartbeats 4000000 in
theorem n8 (wr : World) (T : Int) (xb xo n c g k bx : Nat) (x : Cs) (p9 : Value) (e10 : Int) (HB : Hid (wr.heap[bx]? = some (.cells #[.int .u64 x.r, .int .u64 x.B, .int .i64 x.I, .int .i64 x.S] 45 (0, 0)))) (a : Act) (hf : Fr 63 a) (h0 : sl a 0 = .int .u64 T) (h6 : sl a 6 = .pointer (some ⟨g, 0, none⟩)) (h22 : sl a 22 = .slice (some ⟨xb, xo, none⟩) n c) (h23 : sl a 23 = .int .i64 (n : Int)) (h24 : sl a 24 = .int .i64 (k : Int)) (h8 : sl a 8 = .pointer (some ⟨bx, 0, none⟩)) (h9 : sl a 9 = p9) (h10 : sl a 10 = .int .i64 e10) :
    Code.wp Try.prog (cAt [1,1,1,0,1,2,2,1,1,0,2,1,1,0,0] KN) (Exit.then (fun a' w' => Fr 63 a' ∧ sl a' 0 = .int .u64 T ∧ sl a' 6 = .pointer (some ⟨g, 0, none⟩) ∧ sl a' 22 = .slice (some ⟨xb, xo, none⟩) n c ∧ sl a' 23 = .int .i64 (n : Int) ∧ sl a' 24 = .int .i64 (k : Int) ∧ sl a' 8 = .pointer (some ⟨bx, 0, none⟩) ∧ sl a' 9 = p9 ∧ sl a' 10 = .int .i64 e10 ∧ sl a' 42 = .bool (decide (x.B < 2048) || decide (e10 ≠ 0)) ∧ wr = w') Nope) a wr := by
  obtain ⟨f, ha, hs⟩ := frKN hf
  have e0 := (hs 0).trans h0
  have e6 := (hs 6).trans h6
  have e22 := (hs 22).trans h22
  have e23 := (hs 23).trans h23
  have e24 := (hs 24).trans h24
  have e8 := (hs 8).trans h8
  have e9 := (hs 9).trans h9
  have e10 := (hs 10).trans h10
  rw [e0, e6, e22, e23, e24, e8, e9, e10] at ha
  clear hs hf e0 h0 e6 h6 e22 h22 e23 h23 e24 h24 e8 h8 e9 h9 e10 h10
  subst ha
  refine piece2 fun J0 K0 hJ0 hK0 => ?_
  conv => arg 2; whnf
  have c1 := q4_1 HB.out
  by_cases hB : x.B < 2048
  · go_wp2_with fail
    refine Met.intro (hJ0 _ _ ?_)
    exact ⟨⟨rfl, rfl⟩, rfl, rfl, rfl, rfl, rfl, rfl, rfl, rfl, by rw [decide_eq_true hB]; rfl, rfl⟩
  · by_cases he : e10 = 0
    · subst he
      go_wp2_with fail
      refine Met.intro (hJ0 _ _ ?_)
      exact ⟨⟨rfl, rfl⟩, rfl, rfl, rfl, rfl, rfl, rfl, rfl, rfl, by rw [decide_eq_false (show ¬ x.B < 2048 by omega)]; rfl, rfl⟩
    · have heb : (e10 != 0) = true := by simpa using he
      go_wp2_with fail
      refine Met.intro (hJ0 _ _ ?_)
      exact ⟨⟨rfl, rfl⟩, rfl, rfl, rfl, rfl, rfl, rfl, rfl, rfl, by rw [decide_eq_false (show ¬ x.B < 2048 by omega), decide_eq_true (show e10 ≠ 0 from he)]; rfl, rfl⟩

set_option maxRecDepth 100000 in
set_option maxHeartbeats 4000000 in
theorem n9 (wr : World) (R : Ending → World → Prop) (HR : R (.returned (.tuple #[.pointer none, .int .i64 2])) wr) (a : Act) (hf : Fr 63 a) :
    Code.wp Try.prog (cAt [1,1,1,0,1,2,2,1,1,0,2,1,1,0,1,3] KN) (RetsV Try.f10 R) a wr := by
  have H := Lib.hid HR
  clear HR
  obtain ⟨f, ha, hs⟩ := frKN hf
  clear hs hf 
  subst ha
  conv => arg 2; whnf
  go_wp2_with fail
  refine ⟨rfl, rfl, _, ?_, H.out⟩
  simp [results, Try.results10, go_sem]

set_option maxRecDepth 100000 in
set_option maxHeartbeats 4000000 in
theorem n10 (w w0r wr : World) (T : Int) (xb xo n c g k bx gq cap : Nat) (x : Cs) (v : Option Addr) (ls : List La) (l : List Cs) (HN : Hid (Nw w wr g T v k cap ls l)) (HQ : Hid (Qu wr w.heap.size gq ⟨x.I, x.S, none, 0, [], [], 0⟩ ∧ w0r.heap.size ≤ gq)) (HP : Hid (Nw w w0r g T v k cap ls l ∧ Below w0r.heap.size w0r wr)) (HXL : Hid (l[k]? = some x)) (HMAY : Hid (x.may = true)) (HOK : Hid (Bu.ok ⟨x.r, x.B, T, x.B⟩)) (hk8 : k + 1 ≤ 8) (HB : Hid (wr.heap[bx]? = some (.cells #[.int .u64 x.r, .int .u64 x.B, .int .i64 x.I, .int .i64 x.S] 45 (0, 0)))) (a : Act) (hf : Fr 63 a) (h0 : sl a 0 = .int .u64 T) (h6 : sl a 6 = .pointer (some ⟨g, 0, none⟩)) (h22 : sl a 22 = .slice (some ⟨xb, xo, none⟩) n c) (h23 : sl a 23 = .int .i64 (n : Int)) (h24 : sl a 24 = .int .i64 (k : Int)) (h8 : sl a 8 = .pointer (some ⟨bx, 0, none⟩)) (h9 : sl a 9 = .pointer (some ⟨gq, 0, none⟩)) :
    Code.wp Try.prog (cAt [1,1,1,0,1,2,2,1,1,0,2,1,1,1] KN) (Exit.then (fun a' w' => ∃ gb gl r3 cap3, Fr 63 a' ∧ sl a' 0 = .int .u64 T ∧ sl a' 6 = .pointer (some ⟨g, 0, none⟩) ∧ sl a' 22 = .slice (some ⟨xb, xo, none⟩) n c ∧ sl a' 23 = .int .i64 (n : Int) ∧ sl a' 24 = .int .i64 (k : Int) ∧ Nw w w' g T (some ⟨r3, 0, none⟩) (k + 1) cap3 (ls ++ [⟨gl, gb, gq, ⟨x.r, x.B, T, x.B⟩, ⟨x.I, x.S, none, 0, [], [], 0⟩, 0, 0, 0, 0⟩]) l) Nope) a wr := by
  obtain ⟨f, ha, hs⟩ := frKN hf
  have e0 := (hs 0).trans h0
  have e6 := (hs 6).trans h6
  have e22 := (hs 22).trans h22
  have e23 := (hs 23).trans h23
  have e24 := (hs 24).trans h24
  have e8 := (hs 8).trans h8
  have e9 := (hs 9).trans h9
  rw [e0, e6, e22, e23, e24, e8, e9] at ha
  clear hs hf e0 h0 e6 h6 e22 h22 e23 h23 e24 h24 e8 h8 e9 h9
  subst ha
  refine piece2 fun J0 K0 hJ0 hK0 => ?_
  conv => arg 2; whnf
  have hbd : Below wr.heap.size wr wr.drew := (Below.refl _ _).drew
  have H0 : Hid (Nw w wr.drew g T v k cap ls l ∧ Qu wr.drew w.heap.size gq ⟨x.I, x.S, none, 0, [], [], 0⟩ ∧ Below wr.heap.size wr wr.drew) := ⟨HN.out.past hbd, HQ.out.1.below hbd, hbd⟩
  have HS : Hid (wr.drew.heap[bx]? = some (.cells #[.int .u64 x.r, .int .u64 x.B, .int .i64 x.I, .int .i64 x.S] 45 (0, 0)) ∧ (wr.drew.cell? ⟨g, 1, none⟩).isSome = true) := ⟨HB.out, by rw [H0.out.1.sw.c1]; rfl⟩
  clear hbd
  refine wp_region_held_drew (S := fun w' => w'.heap[bx]? = some (.cells #[.int .u64 x.r, .int .u64 x.B, .int .i64 x.I, .int .i64 x.S] 45 (0, 0)) ∧ (w'.cell? ⟨g, 1, none⟩).isSome = true) (by kernel_rfl) HS.out (fun hS => ?_)
  refine tk 0 43 (.pointer (some ⟨g, 0, none⟩)) rfl rfl (by kernel_rfl) (by kernel_rfl) (by kernel_rfl) (fun _ _ _ h => h) (Or.inl ⟨by rfl, fun w' h' => ?_⟩) hS ?_
  · go_simp
  try simp only [Act.put, List.setIfInBounds_toArray, List.set_cons_zero, List.set_cons_succ]
  refine tk 1 44 (.pointer (some ⟨g, 0, none⟩)) rfl rfl (by kernel_rfl) (by kernel_rfl) (by kernel_rfl) (fun _ _ _ h => h) (Or.inl ⟨by rfl, fun w' h' => ?_⟩) hS ?_
  · go_simp
  try simp only [Act.put, List.setIfInBounds_toArray, List.set_cons_zero, List.set_cons_succ]
  refine tk 2 45 (.pointer (some ⟨g, 0, none⟩)) rfl rfl (by kernel_rfl) (by kernel_rfl) (by kernel_rfl) (fun _ _ _ h => h) (Or.inl ⟨by rfl, fun w' h' => ?_⟩) hS ?_
  · go_simp
  try simp only [Act.put, List.setIfInBounds_toArray, List.set_cons_zero, List.set_cons_succ]
  refine tk 3 46 (.pointer (some ⟨g, 1, none⟩)) rfl rfl (by kernel_rfl) (by kernel_rfl) (by kernel_rfl) (fun _ _ _ h => h) (Or.inl ⟨by rfl, fun w' h' => ?_⟩) hS ?_
  · go_simp
  try simp only [Act.put, List.setIfInBounds_toArray, List.set_cons_zero, List.set_cons_succ]
  refine tk 5 48 (.pointer (some ⟨bx, 0, none⟩)) rfl rfl (by kernel_rfl) (by kernel_rfl) (by kernel_rfl) (fun _ _ _ h => h) (Or.inl ⟨by rfl, fun w' h' => ?_⟩) hS ?_
  · go_simp
  try simp only [Act.put, List.setIfInBounds_toArray, List.set_cons_zero, List.set_cons_succ]
  refine tk 6 49 (.int .u64 x.r) rfl rfl (by kernel_rfl) (by kernel_rfl) (by kernel_rfl) (fun _ _ _ h => h) (Or.inl ⟨by rfl, fun w' h' => ?_⟩) hS ?_
  · have q1 := q4_0 h'.1
    go_simp
  try simp only [Act.put, List.setIfInBounds_toArray, List.set_cons_zero, List.set_cons_succ]
  refine tk 7 50 (.pointer (some ⟨bx, 1, none⟩)) rfl rfl (by kernel_rfl) (by kernel_rfl) (by kernel_rfl) (fun _ _ _ h => h) (Or.inl ⟨by rfl, fun w' h' => ?_⟩) hS ?_
  · go_simp
  try simp only [Act.put, List.setIfInBounds_toArray, List.set_cons_zero, List.set_cons_succ]
  refine tk 8 51 (.int .u64 x.B) rfl rfl (by kernel_rfl) (by kernel_rfl) (by kernel_rfl) (fun _ _ _ h => h) (Or.inl ⟨by rfl, fun w' h' => ?_⟩) hS ?_
  · have q1 := q4_1 h'.1
    go_simp
  try simp only [Act.put, List.setIfInBounds_toArray, List.set_cons_zero, List.set_cons_succ]
  refine tk 9 52 (.int .u64 T) rfl rfl (by kernel_rfl) (by kernel_rfl) (by kernel_rfl) (fun _ _ _ h => h) (Or.inl ⟨by rfl, fun w' h' => ?_⟩) hS ?_
  · go_simp
  try simp only [Act.put, List.setIfInBounds_toArray, List.set_cons_zero, List.set_cons_succ]
  refine tk 11 54 (.pointer (some ⟨gq, 0, none⟩)) rfl rfl (by kernel_rfl) (by kernel_rfl) (by kernel_rfl) (fun _ _ _ h => h) (Or.inl ⟨by rfl, fun w' h' => ?_⟩) hS ?_
  · go_simp
  try simp only [Act.put, List.setIfInBounds_toArray, List.set_cons_zero, List.set_cons_succ]
  refine wpAnyH_ready (rs := [4, 10]) (by kernel_rfl) (by simp) (AllReadyH.cons rfl (fun K hK => ?_) (AllReadyH.cons rfl (fun K hK => ?_) AllReadyH.nil))
  · rw [if_pos (by rfl)]
    have q1 := H0.out.1.sw.c1
    go_wp2_with fail
    clear q1
    clear hS
    refine hK.out _ _ (HS.out) (fun hS => ?_)
    clear hK K
    try simp only [Act.put, List.setIfInBounds_toArray, List.set_cons_zero, List.set_cons_succ]
    refine wpAnyH_ready (rs := [10]) (by kernel_rfl) (by simp) (AllReadyH.cons rfl (fun K hK => ?_) AllReadyH.nil)
    rw [if_pos (by rfl)]
    go_wp2_with fail
    refine (new_any x.r x.B T _ HOK.out).mono ?_
    rintro e w1 ⟨gb, rfl, hgb, hbk, hb1⟩
    have H1 : Hid (Nw w w1 g T v k cap ls l ∧ Qu w1 w.heap.size gq ⟨x.I, x.S, none, 0, [], [], 0⟩ ∧ Bk w1 gb ⟨x.r, x.B, T, x.B⟩ ∧ wr.heap.size ≤ gb ∧ Below wr.heap.size wr w1) := ⟨H0.out.1.past hb1, H0.out.2.1.below hb1, hbk, hgb, H0.out.2.2.trans hb1⟩
    have HS1 : Hid (w1.heap[bx]? = some (.cells #[.int .u64 x.r, .int .u64 x.B, .int .i64 x.I, .int .i64 x.S] 45 (0, 0)) ∧ (w1.cell? ⟨g, 1, none⟩).isSome = true) := ⟨(hb1.block _ (Array.getElem?_eq_some_iff.1 HS.out.1).1).trans HS.out.1, by rw [H1.out.1.sw.c1]; rfl⟩
    clear hgb hbk hb1
    clear hS
    refine hK.out _ _ (HS1.out) (fun hS => ?_)
    clear hK K
    try simp only [Act.put, List.setIfInBounds_toArray, List.set_cons_zero, List.set_cons_succ]
    refine tk 12 55 (.agg #[.int .u64 0, .int .u64 0, .int .u64 0, .int .u64 0, .pointer (some ⟨gb, 0, none⟩), .pointer (some ⟨gq, 0, none⟩)]) rfl rfl (by kernel_rfl) (by kernel_rfl) (by kernel_rfl) (fun _ _ _ h => h) (Or.inl ⟨by rfl, fun w' h' => ?_⟩) hS ?_
    · go_simp
    try simp only [Act.put, List.setIfInBounds_toArray, List.set_cons_zero, List.set_cons_succ]
    refine wpAnyH_ready (rs := [13]) (by kernel_rfl) (by simp) (AllReadyH.cons rfl (fun K hK => ?_) AllReadyH.nil)
    rw [if_pos (by rfl)]
    go_wp2_with fail
    obtain ⟨w2, hw2⟩ : ∃ z, w1.alloc (.cells #[.int .u64 0, .int .u64 0, .int .u64 0, .int .u64 0, .pointer (some ⟨gb, 0, none⟩), .pointer (some ⟨gq, 0, none⟩)] 88) = z := ⟨_, rfl⟩
    obtain ⟨gl, hgl⟩ : ∃ z, w1.heap.size = z := ⟨_, rfl⟩
    have hb2 : Below w1.heap.size w1 w2 := by rw [← hw2]; exact (Below.refl _ _).alloc (Nat.le_refl _) _
    have hr2 : w2.heap[gl]? = some (.cells #[.int .u64 0, .int .u64 0, .int .u64 0, .int .u64 0, .pointer (some ⟨gb, 0, none⟩), .pointer (some ⟨gq, 0, none⟩)] 88 (0, 0)) := by rw [← hw2, ← hgl]; exact Blk_new _ _ _
    rw [hw2, hgl]
    have hbk2 : Bk w2 gb ⟨x.r, x.B, T, x.B⟩ := H1.out.2.2.1.keep (Kept.of_below (S := fun _ => False) hb2 (fun i hi hi' => by omega)) id
    have hwr := H1.out.2.2.2.2
    have hsz := HN.out.below.size
    have H2 : Hid (Nw w w2 g T v k cap ls l ∧ Lw w2 w.heap.size ⟨gl, gb, gq, ⟨x.r, x.B, T, x.B⟩, ⟨x.I, x.S, none, 0, [], [], 0⟩, 0, 0, 0, 0⟩ ∧ Below wr.heap.size wr w2 ∧ wr.heap.size ≤ gl ∧ wr.heap.size ≤ gb) :=
      ⟨H1.out.1.past hb2, ⟨hr2, hbk2, H1.out.2.1.below hb2, by show w.heap.size ≤ gl; have := hwr.size; omega, by show w.heap.size ≤ gb; have := H1.out.2.2.2.1; omega⟩, hwr.trans (hb2.mono hwr.size), by have := hwr.size; omega, H1.out.2.2.2.1⟩
    have HS2 : Hid (w2.heap[bx]? = some (.cells #[.int .u64 x.r, .int .u64 x.B, .int .i64 x.I, .int .i64 x.S] 45 (0, 0)) ∧ (w2.cell? ⟨g, 1, none⟩).isSome = true) := ⟨(hb2.block _ (Array.getElem?_eq_some_iff.1 HS1.out.1).1).trans HS1.out.1, by rw [H2.out.1.sw.c1]; rfl⟩
    clear hw2 hgl hb2 hr2 hbk2 hwr hsz
    clear hS
    refine hK.out _ _ (HS2.out) (fun hS => ?_)
    clear hK K
    try simp only [Act.put, List.setIfInBounds_toArray, List.set_cons_zero, List.set_cons_succ]
    refine wpAnyH_ready (rs := [14]) (by kernel_rfl) (by simp) (AllReadyH.cons rfl (fun K hK => ?_) AllReadyH.nil)
    rw [if_pos (by rfl)]
    go_wp2_with fail
    have hb3 : Below w2.heap.size w2 (w2.alloc (.cells #[.pointer (some ⟨gl, 0, none⟩)] 77)) := (Below.refl _ _).alloc (Nat.le_refl _) _
    have H3 : Hid (Nw w (w2.alloc (.cells #[.pointer (some ⟨gl, 0, none⟩)] 77)) g T v k cap ls l) := H2.out.1.past hb3
    have HS3 : Hid ((w2.alloc (.cells #[.pointer (some ⟨gl, 0, none⟩)] 77)).heap[bx]? = some (.cells #[.int .u64 x.r, .int .u64 x.B, .int .i64 x.I, .int .i64 x.S] 45 (0, 0)) ∧ ((w2.alloc (.cells #[.pointer (some ⟨gl, 0, none⟩)] 77)).cell? ⟨g, 1, none⟩).isSome = true) := ⟨(hb3.block _ (Array.getElem?_eq_some_iff.1 HS2.out.1).1).trans HS2.out.1, by rw [H3.out.sw.c1]; rfl⟩
    clear hb3
    clear hS
    refine hK.out _ _ (HS3.out) (fun hS => ?_)
    clear hK K
    try simp only [Act.put, List.setIfInBounds_toArray, List.set_cons_zero, List.set_cons_succ]
    refine wpAnyH_ready (rs := [15]) (by kernel_rfl) (by simp) (AllReadyH.cons rfl (fun K hK => ?_) AllReadyH.nil)
    rw [if_pos (by rfl)]
    obtain ⟨r3, cap3, w3, hrun, hown, hkk, _⟩ := run_append_one w2 w.heap.size 71 71 77 _ 1 8 infPLn Try.underlying71 (by decide) (by decide) H2.out.1.sw.ptrs [ptr gl] rfl (by intro u hu; simp at hu; subst hu; rfl) H2.out.1.below.size (by show (k + 1) * 8 ≤ _; omega) (by show k ≤ _; omega)
    refine Lib.wp_append_run (w2.alloc (.cells #[.pointer (some ⟨gl, 0, none⟩)] 77)) (.tmp 47) (.tmp 57) 71 71 rfl _ _ rfl rfl _ _ hrun ?_
    change K (Act.put _ (some 58) (.slice (some ⟨r3, 0, none⟩) (k + 1) cap3)) _
    have hxk : l.take (k + 1) = l.take k ++ [x] := by rw [List.take_add_one, HXL.out]; rfl
    have hge := H2.out.2.2
    have H4 : Hid (Nw w (w3.setCell ⟨g, 1, none⟩ (.slice (some ⟨r3, 0, none⟩) (k + 1) cap3)) g T (some ⟨r3, 0, none⟩) (k + 1) cap3 (ls ++ [⟨gl, gb, gq, ⟨x.r, x.B, T, x.B⟩, ⟨x.I, x.S, none, 0, [], [], 0⟩, 0, 0, 0, 0⟩]) l) := by
      refine ⟨HP.out.1.sw.grow (HP.out.2.trans (H2.out.2.2.1.mono HP.out.2.size)) H2.out.2.1 (fun j hj => ?_) (by simpa [Sh.ps] using hown) hkk (by omega), ?_, ?_, fun y hy => ?_⟩
      · rcases hj with e | e | e | e | ⟨z, hz, _⟩
        · rw [e]; exact Nat.le_trans HP.out.2.size hge.2.1
        · rw [e]; exact Nat.le_trans HP.out.2.size hge.2.2
        · rw [e]; exact HQ.out.2
        · cases e
        · cases hz
      · rw [List.map_append, H2.out.1.ab, hxk, List.map_append]; rfl
      · have hgw : w.heap.size ≤ g := H2.out.1.sw.base
        have h1 : Below w.heap.size w w3 := H2.out.1.below.trans (hkk.below H2.out.1.below.size (fun j hj => (H2.out.1.sw.ptrs.blk_ge j hj).1))
        exact h1.setCell (p := ⟨g, 1, none⟩) hgw _
      · rw [hxk] at hy
        rcases List.mem_append.1 hy with hy | hy
        · exact H2.out.1.may y hy
        · simp at hy
          rw [hy]
          exact HMAY.out
    have c1 : w3.cell? ⟨g, 1, none⟩ = some (.slice v k cap) ∧ w3.frozen? ⟨g, 1, none⟩ = false := by
      have hgv : ¬ blk v = some g := fun e => by
        rcases H2.out.1.sw.ptrs.cases with ⟨e2, _⟩ | ⟨r2, cur, e2, _, hr, _⟩
        · replace e2 : v = none := e2
          rw [e2] at e; cases e
        · replace e2 : v = some ⟨r2, 0, none⟩ := e2
          rw [e2] at e
          simp [blk] at e
          subst e
          rw [H2.out.1.sw.row] at hr
          simp at hr
      have hr3 := hkk.heap H2.out.1.sw.row hgv
      exact ⟨by rw [cell_of_row w3 g 1 _ _ (0, 0) hr3]; rfl, frozen_of_row w3 g 1 _ _ hr3⟩
    have hbx3 : w3.heap[bx]? = some (.cells #[.int .u64 x.r, .int .u64 x.B, .int .i64 x.I, .int .i64 x.S] 45 (0, 0)) := hkk.heap HS2.out.1 (fun e => by
      rcases H2.out.1.sw.ptrs.cases with ⟨e2, _⟩ | ⟨r2, cur, e2, _, hr, _⟩
      · replace e2 : v = none := e2
        rw [e2] at e; cases e
      · replace e2 : v = some ⟨r2, 0, none⟩ := e2
        rw [e2] at e
        simp [blk] at e
        rw [e, HS2.out.1] at hr
        simp at hr)
    have c1a := c1.1
    have f1a := c1.2
    clear hrun hown hkk hxk hge c1
    clear hS
    refine hK.out _ _ (⟨hbx3, by rw [c1a]; rfl⟩) (fun hS => ?_)
    clear hK K
    try simp only [Act.put, List.setIfInBounds_toArray, List.set_cons_zero, List.set_cons_succ]
    refine tk 16 59 (.pointer (some ⟨g, 0, none⟩)) rfl rfl (by kernel_rfl) (by kernel_rfl) (by kernel_rfl) (fun _ _ _ h => h) (Or.inl ⟨by rfl, fun w' h' => ?_⟩) hS ?_
    · go_simp
    try simp only [Act.put, List.setIfInBounds_toArray, List.set_cons_zero, List.set_cons_succ]
    refine tk 17 60 (.pointer (some ⟨g, 1, none⟩)) rfl rfl (by kernel_rfl) (by kernel_rfl) (by kernel_rfl) (fun _ _ _ h => h) (Or.inl ⟨by rfl, fun w' h' => ?_⟩) hS ?_
    · go_simp
    try simp only [Act.put, List.setIfInBounds_toArray, List.set_cons_zero, List.set_cons_succ]
    refine wpAnyH_ready (rs := [18]) (by kernel_rfl) (by simp) (AllReadyH.cons rfl (fun K hK => ?_) AllReadyH.nil)
    rw [if_pos (by rfl)]
    go_wp2_with fail
    have hS4 : (w3.setCell ⟨g, 1, none⟩ (.slice (some ⟨r3, 0, none⟩) (k + 1) cap3)).heap[bx]? = some (.cells #[.int .u64 x.r, .int .u64 x.B, .int .i64 x.I, .int .i64 x.S] 45 (0, 0)) := (Kept.setCell (S := fun i => i = g) w3 _ _ rfl).heap hbx3 (fun e => by
      rw [e] at hbx3
      have h5 := cell_of_row w3 g 1 _ _ (0, 0) hbx3
      rw [c1a] at h5
      simp at h5)
    obtain ⟨w4, hw4⟩ : ∃ z, w3.setCell ⟨g, 1, none⟩ (.slice (some ⟨r3, 0, none⟩) (k + 1) cap3) = z := ⟨_, rfl⟩
    rw [hw4] at H4 hS4 ⊢
    clear hw4 c1a f1a hbx3
    clear hS
    refine hK.out _ _ (⟨hS4, by rw [H4.out.sw.c1]; rfl⟩) (fun hS => ?_)
    clear hK K
    refine wpAnyH_done (by kernel_rfl) ?_ _
    clear H0 HS
    go_wp2_with fail
    refine Met.intro (hJ0 _ _ ?_)
    exact ⟨gb, gl, r3, cap3, ⟨rfl, rfl⟩, rfl, rfl, rfl, rfl, rfl, H4.out⟩
  · rw [if_pos (by rfl)]
    go_wp2_with fail
    refine (new_any x.r x.B T _ HOK.out).mono ?_
    rintro e w1 ⟨gb, rfl, hgb, hbk, hb1⟩
    have H1 : Hid (Nw w w1 g T v k cap ls l ∧ Qu w1 w.heap.size gq ⟨x.I, x.S, none, 0, [], [], 0⟩ ∧ Bk w1 gb ⟨x.r, x.B, T, x.B⟩ ∧ wr.heap.size ≤ gb ∧ Below wr.heap.size wr w1) := ⟨H0.out.1.past hb1, H0.out.2.1.below hb1, hbk, hgb, H0.out.2.2.trans hb1⟩
    have HS1 : Hid (w1.heap[bx]? = some (.cells #[.int .u64 x.r, .int .u64 x.B, .int .i64 x.I, .int .i64 x.S] 45 (0, 0)) ∧ (w1.cell? ⟨g, 1, none⟩).isSome = true) := ⟨(hb1.block _ (Array.getElem?_eq_some_iff.1 HS.out.1).1).trans HS.out.1, by rw [H1.out.1.sw.c1]; rfl⟩
    clear hgb hbk hb1
    clear hS
    refine hK.out _ _ (HS1.out) (fun hS => ?_)
    clear hK K
    try simp only [Act.put, List.setIfInBounds_toArray, List.set_cons_zero, List.set_cons_succ]
    refine tk 12 55 (.agg #[.int .u64 0, .int .u64 0, .int .u64 0, .int .u64 0, .pointer (some ⟨gb, 0, none⟩), .pointer (some ⟨gq, 0, none⟩)]) rfl rfl (by kernel_rfl) (by kernel_rfl) (by kernel_rfl) (fun _ _ _ h => h) (Or.inl ⟨by rfl, fun w' h' => ?_⟩) hS ?_
    · go_simp
    try simp only [Act.put, List.setIfInBounds_toArray, List.set_cons_zero, List.set_cons_succ]
    refine wpAnyH_ready (rs := [4, 13]) (by kernel_rfl) (by simp) (AllReadyH.cons rfl (fun K hK => ?_) (AllReadyH.cons rfl (fun K hK => ?_) AllReadyH.nil))
    · rw [if_pos (by rfl)]
      have q1 := H1.out.1.sw.c1
      go_wp2_with fail
      clear q1
      clear hS
      refine hK.out _ _ (HS1.out) (fun hS => ?_)
      clear hK K
      try simp only [Act.put, List.setIfInBounds_toArray, List.set_cons_zero, List.set_cons_succ]
      refine wpAnyH_ready (rs := [13]) (by kernel_rfl) (by simp) (AllReadyH.cons rfl (fun K hK => ?_) AllReadyH.nil)
      rw [if_pos (by rfl)]
      go_wp2_with fail
      obtain ⟨w2, hw2⟩ : ∃ z, w1.alloc (.cells #[.int .u64 0, .int .u64 0, .int .u64 0, .int .u64 0, .pointer (some ⟨gb, 0, none⟩), .pointer (some ⟨gq, 0, none⟩)] 88) = z := ⟨_, rfl⟩
      obtain ⟨gl, hgl⟩ : ∃ z, w1.heap.size = z := ⟨_, rfl⟩
      have hb2 : Below w1.heap.size w1 w2 := by rw [← hw2]; exact (Below.refl _ _).alloc (Nat.le_refl _) _
      have hr2 : w2.heap[gl]? = some (.cells #[.int .u64 0, .int .u64 0, .int .u64 0, .int .u64 0, .pointer (some ⟨gb, 0, none⟩), .pointer (some ⟨gq, 0, none⟩)] 88 (0, 0)) := by rw [← hw2, ← hgl]; exact Blk_new _ _ _
      rw [hw2, hgl]
      have hbk2 : Bk w2 gb ⟨x.r, x.B, T, x.B⟩ := H1.out.2.2.1.keep (Kept.of_below (S := fun _ => False) hb2 (fun i hi hi' => by omega)) id
      have hwr := H1.out.2.2.2.2
      have hsz := HN.out.below.size
      have H2 : Hid (Nw w w2 g T v k cap ls l ∧ Lw w2 w.heap.size ⟨gl, gb, gq, ⟨x.r, x.B, T, x.B⟩, ⟨x.I, x.S, none, 0, [], [], 0⟩, 0, 0, 0, 0⟩ ∧ Below wr.heap.size wr w2 ∧ wr.heap.size ≤ gl ∧ wr.heap.size ≤ gb) :=
        ⟨H1.out.1.past hb2, ⟨hr2, hbk2, H1.out.2.1.below hb2, by show w.heap.size ≤ gl; have := hwr.size; omega, by show w.heap.size ≤ gb; have := H1.out.2.2.2.1; omega⟩, hwr.trans (hb2.mono hwr.size), by have := hwr.size; omega, H1.out.2.2.2.1⟩
      have HS2 : Hid (w2.heap[bx]? = some (.cells #[.int .u64 x.r, .int .u64 x.B, .int .i64 x.I, .int .i64 x.S] 45 (0, 0)) ∧ (w2.cell? ⟨g, 1, none⟩).isSome = true) := ⟨(hb2.block _ (Array.getElem?_eq_some_iff.1 HS1.out.1).1).trans HS1.out.1, by rw [H2.out.1.sw.c1]; rfl⟩
      clear hw2 hgl hb2 hr2 hbk2 hwr hsz
      clear hS
      refine hK.out _ _ (HS2.out) (fun hS => ?_)
      clear hK K
      try simp only [Act.put, List.setIfInBounds_toArray, List.set_cons_zero, List.set_cons_succ]
      refine wpAnyH_ready (rs := [14]) (by kernel_rfl) (by simp) (AllReadyH.cons rfl (fun K hK => ?_) AllReadyH.nil)
      rw [if_pos (by rfl)]
      go_wp2_with fail
      have hb3 : Below w2.heap.size w2 (w2.alloc (.cells #[.pointer (some ⟨gl, 0, none⟩)] 77)) := (Below.refl _ _).alloc (Nat.le_refl _) _
      have H3 : Hid (Nw w (w2.alloc (.cells #[.pointer (some ⟨gl, 0, none⟩)] 77)) g T v k cap ls l) := H2.out.1.past hb3
      have HS3 : Hid ((w2.alloc (.cells #[.pointer (some ⟨gl, 0, none⟩)] 77)).heap[bx]? = some (.cells #[.int .u64 x.r, .int .u64 x.B, .int .i64 x.I, .int .i64 x.S] 45 (0, 0)) ∧ ((w2.alloc (.cells #[.pointer (some ⟨gl, 0, none⟩)] 77)).cell? ⟨g, 1, none⟩).isSome = true) := ⟨(hb3.block _ (Array.getElem?_eq_some_iff.1 HS2.out.1).1).trans HS2.out.1, by rw [H3.out.sw.c1]; rfl⟩
      clear hb3
      clear hS
      refine hK.out _ _ (HS3.out) (fun hS => ?_)
      clear hK K
      try simp only [Act.put, List.setIfInBounds_toArray, List.set_cons_zero, List.set_cons_succ]
      refine wpAnyH_ready (rs := [15]) (by kernel_rfl) (by simp) (AllReadyH.cons rfl (fun K hK => ?_) AllReadyH.nil)
      rw [if_pos (by rfl)]
      obtain ⟨r3, cap3, w3, hrun, hown, hkk, _⟩ := run_append_one w2 w.heap.size 71 71 77 _ 1 8 infPLn Try.underlying71 (by decide) (by decide) H2.out.1.sw.ptrs [ptr gl] rfl (by intro u hu; simp at hu; subst hu; rfl) H2.out.1.below.size (by show (k + 1) * 8 ≤ _; omega) (by show k ≤ _; omega)
      refine Lib.wp_append_run (w2.alloc (.cells #[.pointer (some ⟨gl, 0, none⟩)] 77)) (.tmp 47) (.tmp 57) 71 71 rfl _ _ rfl rfl _ _ hrun ?_
      change K (Act.put _ (some 58) (.slice (some ⟨r3, 0, none⟩) (k + 1) cap3)) _
      have hxk : l.take (k + 1) = l.take k ++ [x] := by rw [List.take_add_one, HXL.out]; rfl
      have hge := H2.out.2.2
      have H4 : Hid (Nw w (w3.setCell ⟨g, 1, none⟩ (.slice (some ⟨r3, 0, none⟩) (k + 1) cap3)) g T (some ⟨r3, 0, none⟩) (k + 1) cap3 (ls ++ [⟨gl, gb, gq, ⟨x.r, x.B, T, x.B⟩, ⟨x.I, x.S, none, 0, [], [], 0⟩, 0, 0, 0, 0⟩]) l) := by
        refine ⟨HP.out.1.sw.grow (HP.out.2.trans (H2.out.2.2.1.mono HP.out.2.size)) H2.out.2.1 (fun j hj => ?_) (by simpa [Sh.ps] using hown) hkk (by omega), ?_, ?_, fun y hy => ?_⟩
        · rcases hj with e | e | e | e | ⟨z, hz, _⟩
          · rw [e]; exact Nat.le_trans HP.out.2.size hge.2.1
          · rw [e]; exact Nat.le_trans HP.out.2.size hge.2.2
          · rw [e]; exact HQ.out.2
          · cases e
          · cases hz
        · rw [List.map_append, H2.out.1.ab, hxk, List.map_append]; rfl
        · have hgw : w.heap.size ≤ g := H2.out.1.sw.base
          have h1 : Below w.heap.size w w3 := H2.out.1.below.trans (hkk.below H2.out.1.below.size (fun j hj => (H2.out.1.sw.ptrs.blk_ge j hj).1))
          exact h1.setCell (p := ⟨g, 1, none⟩) hgw _
        · rw [hxk] at hy
          rcases List.mem_append.1 hy with hy | hy
          · exact H2.out.1.may y hy
          · simp at hy
            rw [hy]
            exact HMAY.out
      have c1 : w3.cell? ⟨g, 1, none⟩ = some (.slice v k cap) ∧ w3.frozen? ⟨g, 1, none⟩ = false := by
        have hgv : ¬ blk v = some g := fun e => by
          rcases H2.out.1.sw.ptrs.cases with ⟨e2, _⟩ | ⟨r2, cur, e2, _, hr, _⟩
          · replace e2 : v = none := e2
            rw [e2] at e; cases e
          · replace e2 : v = some ⟨r2, 0, none⟩ := e2
            rw [e2] at e
            simp [blk] at e
            subst e
            rw [H2.out.1.sw.row] at hr
            simp at hr
        have hr3 := hkk.heap H2.out.1.sw.row hgv
        exact ⟨by rw [cell_of_row w3 g 1 _ _ (0, 0) hr3]; rfl, frozen_of_row w3 g 1 _ _ hr3⟩
      have hbx3 : w3.heap[bx]? = some (.cells #[.int .u64 x.r, .int .u64 x.B, .int .i64 x.I, .int .i64 x.S] 45 (0, 0)) := hkk.heap HS2.out.1 (fun e => by
        rcases H2.out.1.sw.ptrs.cases with ⟨e2, _⟩ | ⟨r2, cur, e2, _, hr, _⟩
        · replace e2 : v = none := e2
          rw [e2] at e; cases e
        · replace e2 : v = some ⟨r2, 0, none⟩ := e2
          rw [e2] at e
          simp [blk] at e
          rw [e, HS2.out.1] at hr
          simp at hr)
      have c1a := c1.1
      have f1a := c1.2
      clear hrun hown hkk hxk hge c1
      clear hS
      refine hK.out _ _ (⟨hbx3, by rw [c1a]; rfl⟩) (fun hS => ?_)
      clear hK K
      try simp only [Act.put, List.setIfInBounds_toArray, List.set_cons_zero, List.set_cons_succ]
      refine tk 16 59 (.pointer (some ⟨g, 0, none⟩)) rfl rfl (by kernel_rfl) (by kernel_rfl) (by kernel_rfl) (fun _ _ _ h => h) (Or.inl ⟨by rfl, fun w' h' => ?_⟩) hS ?_
      · go_simp
      try simp only [Act.put, List.setIfInBounds_toArray, List.set_cons_zero, List.set_cons_succ]
      refine tk 17 60 (.pointer (some ⟨g, 1, none⟩)) rfl rfl (by kernel_rfl) (by kernel_rfl) (by kernel_rfl) (fun _ _ _ h => h) (Or.inl ⟨by rfl, fun w' h' => ?_⟩) hS ?_
      · go_simp
      try simp only [Act.put, List.setIfInBounds_toArray, List.set_cons_zero, List.set_cons_succ]
      refine wpAnyH_ready (rs := [18]) (by kernel_rfl) (by simp) (AllReadyH.cons rfl (fun K hK => ?_) AllReadyH.nil)
      rw [if_pos (by rfl)]
      go_wp2_with fail
      have hS4 : (w3.setCell ⟨g, 1, none⟩ (.slice (some ⟨r3, 0, none⟩) (k + 1) cap3)).heap[bx]? = some (.cells #[.int .u64 x.r, .int .u64 x.B, .int .i64 x.I, .int .i64 x.S] 45 (0, 0)) := (Kept.setCell (S := fun i => i = g) w3 _ _ rfl).heap hbx3 (fun e => by
        rw [e] at hbx3
        have h5 := cell_of_row w3 g 1 _ _ (0, 0) hbx3
        rw [c1a] at h5
        simp at h5)
      obtain ⟨w4, hw4⟩ : ∃ z, w3.setCell ⟨g, 1, none⟩ (.slice (some ⟨r3, 0, none⟩) (k + 1) cap3) = z := ⟨_, rfl⟩
      rw [hw4] at H4 hS4 ⊢
      clear hw4 c1a f1a hbx3
      clear hS
      refine hK.out _ _ (⟨hS4, by rw [H4.out.sw.c1]; rfl⟩) (fun hS => ?_)
      clear hK K
      refine wpAnyH_done (by kernel_rfl) ?_ _
      clear H0 HS
      go_wp2_with fail
      refine Met.intro (hJ0 _ _ ?_)
      exact ⟨gb, gl, r3, cap3, ⟨rfl, rfl⟩, rfl, rfl, rfl, rfl, rfl, H4.out⟩
    · rw [if_pos (by rfl)]
      go_wp2_with fail
      obtain ⟨w2, hw2⟩ : ∃ z, w1.alloc (.cells #[.int .u64 0, .int .u64 0, .int .u64 0, .int .u64 0, .pointer (some ⟨gb, 0, none⟩), .pointer (some ⟨gq, 0, none⟩)] 88) = z := ⟨_, rfl⟩
      obtain ⟨gl, hgl⟩ : ∃ z, w1.heap.size = z := ⟨_, rfl⟩
      have hb2 : Below w1.heap.size w1 w2 := by rw [← hw2]; exact (Below.refl _ _).alloc (Nat.le_refl _) _
      have hr2 : w2.heap[gl]? = some (.cells #[.int .u64 0, .int .u64 0, .int .u64 0, .int .u64 0, .pointer (some ⟨gb, 0, none⟩), .pointer (some ⟨gq, 0, none⟩)] 88 (0, 0)) := by rw [← hw2, ← hgl]; exact Blk_new _ _ _
      rw [hw2, hgl]
      have hbk2 : Bk w2 gb ⟨x.r, x.B, T, x.B⟩ := H1.out.2.2.1.keep (Kept.of_below (S := fun _ => False) hb2 (fun i hi hi' => by omega)) id
      have hwr := H1.out.2.2.2.2
      have hsz := HN.out.below.size
      have H2 : Hid (Nw w w2 g T v k cap ls l ∧ Lw w2 w.heap.size ⟨gl, gb, gq, ⟨x.r, x.B, T, x.B⟩, ⟨x.I, x.S, none, 0, [], [], 0⟩, 0, 0, 0, 0⟩ ∧ Below wr.heap.size wr w2 ∧ wr.heap.size ≤ gl ∧ wr.heap.size ≤ gb) :=
        ⟨H1.out.1.past hb2, ⟨hr2, hbk2, H1.out.2.1.below hb2, by show w.heap.size ≤ gl; have := hwr.size; omega, by show w.heap.size ≤ gb; have := H1.out.2.2.2.1; omega⟩, hwr.trans (hb2.mono hwr.size), by have := hwr.size; omega, H1.out.2.2.2.1⟩
      have HS2 : Hid (w2.heap[bx]? = some (.cells #[.int .u64 x.r, .int .u64 x.B, .int .i64 x.I, .int .i64 x.S] 45 (0, 0)) ∧ (w2.cell? ⟨g, 1, none⟩).isSome = true) := ⟨(hb2.block _ (Array.getElem?_eq_some_iff.1 HS1.out.1).1).trans HS1.out.1, by rw [H2.out.1.sw.c1]; rfl⟩
      clear hw2 hgl hb2 hr2 hbk2 hwr hsz
      clear hS
      refine hK.out _ _ (HS2.out) (fun hS => ?_)
      clear hK K
      try simp only [Act.put, List.setIfInBounds_toArray, List.set_cons_zero, List.set_cons_succ]
      refine wpAnyH_ready (rs := [4, 14]) (by kernel_rfl) (by simp) (AllReadyH.cons rfl (fun K hK => ?_) (AllReadyH.cons rfl (fun K hK => ?_) AllReadyH.nil))
      · rw [if_pos (by rfl)]
        have q1 := H2.out.1.sw.c1
        go_wp2_with fail
        clear q1
        clear hS
        refine hK.out _ _ (HS2.out) (fun hS => ?_)
        clear hK K
        try simp only [Act.put, List.setIfInBounds_toArray, List.set_cons_zero, List.set_cons_succ]
        refine wpAnyH_ready (rs := [14]) (by kernel_rfl) (by simp) (AllReadyH.cons rfl (fun K hK => ?_) AllReadyH.nil)
        rw [if_pos (by rfl)]
        go_wp2_with fail
        have hb3 : Below w2.heap.size w2 (w2.alloc (.cells #[.pointer (some ⟨gl, 0, none⟩)] 77)) := (Below.refl _ _).alloc (Nat.le_refl _) _
        have H3 : Hid (Nw w (w2.alloc (.cells #[.pointer (some ⟨gl, 0, none⟩)] 77)) g T v k cap ls l) := H2.out.1.past hb3
        have HS3 : Hid ((w2.alloc (.cells #[.pointer (some ⟨gl, 0, none⟩)] 77)).heap[bx]? = some (.cells #[.int .u64 x.r, .int .u64 x.B, .int .i64 x.I, .int .i64 x.S] 45 (0, 0)) ∧ ((w2.alloc (.cells #[.pointer (some ⟨gl, 0, none⟩)] 77)).cell? ⟨g, 1, none⟩).isSome = true) := ⟨(hb3.block _ (Array.getElem?_eq_some_iff.1 HS2.out.1).1).trans HS2.out.1, by rw [H3.out.sw.c1]; rfl⟩
        clear hb3
        clear hS
        refine hK.out _ _ (HS3.out) (fun hS => ?_)
        clear hK K
        try simp only [Act.put, List.setIfInBounds_toArray, List.set_cons_zero, List.set_cons_succ]
        refine wpAnyH_ready (rs := [15]) (by kernel_rfl) (by simp) (AllReadyH.cons rfl (fun K hK => ?_) AllReadyH.nil)
        rw [if_pos (by rfl)]
        obtain ⟨r3, cap3, w3, hrun, hown, hkk, _⟩ := run_append_one w2 w.heap.size 71 71 77 _ 1 8 infPLn Try.underlying71 (by decide) (by decide) H2.out.1.sw.ptrs [ptr gl] rfl (by intro u hu; simp at hu; subst hu; rfl) H2.out.1.below.size (by show (k + 1) * 8 ≤ _; omega) (by show k ≤ _; omega)
        refine Lib.wp_append_run (w2.alloc (.cells #[.pointer (some ⟨gl, 0, none⟩)] 77)) (.tmp 47) (.tmp 57) 71 71 rfl _ _ rfl rfl _ _ hrun ?_
        change K (Act.put _ (some 58) (.slice (some ⟨r3, 0, none⟩) (k + 1) cap3)) _
        have hxk : l.take (k + 1) = l.take k ++ [x] := by rw [List.take_add_one, HXL.out]; rfl
        have hge := H2.out.2.2
        have H4 : Hid (Nw w (w3.setCell ⟨g, 1, none⟩ (.slice (some ⟨r3, 0, none⟩) (k + 1) cap3)) g T (some ⟨r3, 0, none⟩) (k + 1) cap3 (ls ++ [⟨gl, gb, gq, ⟨x.r, x.B, T, x.B⟩, ⟨x.I, x.S, none, 0, [], [], 0⟩, 0, 0, 0, 0⟩]) l) := by
          refine ⟨HP.out.1.sw.grow (HP.out.2.trans (H2.out.2.2.1.mono HP.out.2.size)) H2.out.2.1 (fun j hj => ?_) (by simpa [Sh.ps] using hown) hkk (by omega), ?_, ?_, fun y hy => ?_⟩
          · rcases hj with e | e | e | e | ⟨z, hz, _⟩
            · rw [e]; exact Nat.le_trans HP.out.2.size hge.2.1
            · rw [e]; exact Nat.le_trans HP.out.2.size hge.2.2
            · rw [e]; exact HQ.out.2
            · cases e
            · cases hz
          · rw [List.map_append, H2.out.1.ab, hxk, List.map_append]; rfl
          · have hgw : w.heap.size ≤ g := H2.out.1.sw.base
            have h1 : Below w.heap.size w w3 := H2.out.1.below.trans (hkk.below H2.out.1.below.size (fun j hj => (H2.out.1.sw.ptrs.blk_ge j hj).1))
            exact h1.setCell (p := ⟨g, 1, none⟩) hgw _
          · rw [hxk] at hy
            rcases List.mem_append.1 hy with hy | hy
            · exact H2.out.1.may y hy
            · simp at hy
              rw [hy]
              exact HMAY.out
        have c1 : w3.cell? ⟨g, 1, none⟩ = some (.slice v k cap) ∧ w3.frozen? ⟨g, 1, none⟩ = false := by
          have hgv : ¬ blk v = some g := fun e => by
            rcases H2.out.1.sw.ptrs.cases with ⟨e2, _⟩ | ⟨r2, cur, e2, _, hr, _⟩
            · replace e2 : v = none := e2
              rw [e2] at e; cases e
            · replace e2 : v = some ⟨r2, 0, none⟩ := e2
              rw [e2] at e
              simp [blk] at e
              subst e
              rw [H2.out.1.sw.row] at hr
              simp at hr
          have hr3 := hkk.heap H2.out.1.sw.row hgv
          exact ⟨by rw [cell_of_row w3 g 1 _ _ (0, 0) hr3]; rfl, frozen_of_row w3 g 1 _ _ hr3⟩
        have hbx3 : w3.heap[bx]? = some (.cells #[.int .u64 x.r, .int .u64 x.B, .int .i64 x.I, .int .i64 x.S] 45 (0, 0)) := hkk.heap HS2.out.1 (fun e => by
          rcases H2.out.1.sw.ptrs.cases with ⟨e2, _⟩ | ⟨r2, cur, e2, _, hr, _⟩
          · replace e2 : v = none := e2
            rw [e2] at e; cases e
          · replace e2 : v = some ⟨r2, 0, none⟩ := e2
            rw [e2] at e
            simp [blk] at e
            rw [e, HS2.out.1] at hr
            simp at hr)
        have c1a := c1.1
        have f1a := c1.2
        clear hrun hown hkk hxk hge c1
        clear hS
        refine hK.out _ _ (⟨hbx3, by rw [c1a]; rfl⟩) (fun hS => ?_)
        clear hK K
        try simp only [Act.put, List.setIfInBounds_toArray, List.set_cons_zero, List.set_cons_succ]
        refine tk 16 59 (.pointer (some ⟨g, 0, none⟩)) rfl rfl (by kernel_rfl) (by kernel_rfl) (by kernel_rfl) (fun _ _ _ h => h) (Or.inl ⟨by rfl, fun w' h' => ?_⟩) hS ?_
        · go_simp
        try simp only [Act.put, List.setIfInBounds_toArray, List.set_cons_zero, List.set_cons_succ]
        refine tk 17 60 (.pointer (some ⟨g, 1, none⟩)) rfl rfl (by kernel_rfl) (by kernel_rfl) (by kernel_rfl) (fun _ _ _ h => h) (Or.inl ⟨by rfl, fun w' h' => ?_⟩) hS ?_
        · go_simp
        try simp only [Act.put, List.setIfInBounds_toArray, List.set_cons_zero, List.set_cons_succ]
        refine wpAnyH_ready (rs := [18]) (by kernel_rfl) (by simp) (AllReadyH.cons rfl (fun K hK => ?_) AllReadyH.nil)
        rw [if_pos (by rfl)]
        go_wp2_with fail
        have hS4 : (w3.setCell ⟨g, 1, none⟩ (.slice (some ⟨r3, 0, none⟩) (k + 1) cap3)).heap[bx]? = some (.cells #[.int .u64 x.r, .int .u64 x.B, .int .i64 x.I, .int .i64 x.S] 45 (0, 0)) := (Kept.setCell (S := fun i => i = g) w3 _ _ rfl).heap hbx3 (fun e => by
          rw [e] at hbx3
          have h5 := cell_of_row w3 g 1 _ _ (0, 0) hbx3
          rw [c1a] at h5
          simp at h5)
        obtain ⟨w4, hw4⟩ : ∃ z, w3.setCell ⟨g, 1, none⟩ (.slice (some ⟨r3, 0, none⟩) (k + 1) cap3) = z := ⟨_, rfl⟩
        rw [hw4] at H4 hS4 ⊢
        clear hw4 c1a f1a hbx3
        clear hS
        refine hK.out _ _ (⟨hS4, by rw [H4.out.sw.c1]; rfl⟩) (fun hS => ?_)
        clear hK K
        refine wpAnyH_done (by kernel_rfl) ?_ _
        clear H0 HS
        go_wp2_with fail
        refine Met.intro (hJ0 _ _ ?_)
        exact ⟨gb, gl, r3, cap3, ⟨rfl, rfl⟩, rfl, rfl, rfl, rfl, rfl, H4.out⟩
      · rw [if_pos (by rfl)]
        go_wp2_with fail
        have hb3 : Below w2.heap.size w2 (w2.alloc (.cells #[.pointer (some ⟨gl, 0, none⟩)] 77)) := (Below.refl _ _).alloc (Nat.le_refl _) _
        have H3 : Hid (Nw w (w2.alloc (.cells #[.pointer (some ⟨gl, 0, none⟩)] 77)) g T v k cap ls l) := H2.out.1.past hb3
        have HS3 : Hid ((w2.alloc (.cells #[.pointer (some ⟨gl, 0, none⟩)] 77)).heap[bx]? = some (.cells #[.int .u64 x.r, .int .u64 x.B, .int .i64 x.I, .int .i64 x.S] 45 (0, 0)) ∧ ((w2.alloc (.cells #[.pointer (some ⟨gl, 0, none⟩)] 77)).cell? ⟨g, 1, none⟩).isSome = true) := ⟨(hb3.block _ (Array.getElem?_eq_some_iff.1 HS2.out.1).1).trans HS2.out.1, by rw [H3.out.sw.c1]; rfl⟩
        clear hb3
        clear hS
        refine hK.out _ _ (HS3.out) (fun hS => ?_)
        clear hK K
        try simp only [Act.put, List.setIfInBounds_toArray, List.set_cons_zero, List.set_cons_succ]
        refine wpAnyH_ready (rs := [4]) (by kernel_rfl) (by simp) (AllReadyH.cons rfl (fun K hK => ?_) AllReadyH.nil)
        rw [if_pos (by rfl)]
        have q1 := H3.out.sw.c1
        go_wp2_with fail
        clear q1
        clear hS
        refine hK.out _ _ (HS3.out) (fun hS => ?_)
        clear hK K
        try simp only [Act.put, List.setIfInBounds_toArray, List.set_cons_zero, List.set_cons_succ]
        refine wpAnyH_ready (rs := [15]) (by kernel_rfl) (by simp) (AllReadyH.cons rfl (fun K hK => ?_) AllReadyH.nil)
        rw [if_pos (by rfl)]
        obtain ⟨r3, cap3, w3, hrun, hown, hkk, _⟩ := run_append_one w2 w.heap.size 71 71 77 _ 1 8 infPLn Try.underlying71 (by decide) (by decide) H2.out.1.sw.ptrs [ptr gl] rfl (by intro u hu; simp at hu; subst hu; rfl) H2.out.1.below.size (by show (k + 1) * 8 ≤ _; omega) (by show k ≤ _; omega)
        refine Lib.wp_append_run (w2.alloc (.cells #[.pointer (some ⟨gl, 0, none⟩)] 77)) (.tmp 47) (.tmp 57) 71 71 rfl _ _ rfl rfl _ _ hrun ?_
        change K (Act.put _ (some 58) (.slice (some ⟨r3, 0, none⟩) (k + 1) cap3)) _
        have hxk : l.take (k + 1) = l.take k ++ [x] := by rw [List.take_add_one, HXL.out]; rfl
        have hge := H2.out.2.2
        have H4 : Hid (Nw w (w3.setCell ⟨g, 1, none⟩ (.slice (some ⟨r3, 0, none⟩) (k + 1) cap3)) g T (some ⟨r3, 0, none⟩) (k + 1) cap3 (ls ++ [⟨gl, gb, gq, ⟨x.r, x.B, T, x.B⟩, ⟨x.I, x.S, none, 0, [], [], 0⟩, 0, 0, 0, 0⟩]) l) := by
          refine ⟨HP.out.1.sw.grow (HP.out.2.trans (H2.out.2.2.1.mono HP.out.2.size)) H2.out.2.1 (fun j hj => ?_) (by simpa [Sh.ps] using hown) hkk (by omega), ?_, ?_, fun y hy => ?_⟩
          · rcases hj with e | e | e | e | ⟨z, hz, _⟩
            · rw [e]; exact Nat.le_trans HP.out.2.size hge.2.1
            · rw [e]; exact Nat.le_trans HP.out.2.size hge.2.2
            · rw [e]; exact HQ.out.2
            · cases e
            · cases hz
          · rw [List.map_append, H2.out.1.ab, hxk, List.map_append]; rfl
          · have hgw : w.heap.size ≤ g := H2.out.1.sw.base
            have h1 : Below w.heap.size w w3 := H2.out.1.below.trans (hkk.below H2.out.1.below.size (fun j hj => (H2.out.1.sw.ptrs.blk_ge j hj).1))
            exact h1.setCell (p := ⟨g, 1, none⟩) hgw _
          · rw [hxk] at hy
            rcases List.mem_append.1 hy with hy | hy
            · exact H2.out.1.may y hy
            · simp at hy
              rw [hy]
              exact HMAY.out
        have c1 : w3.cell? ⟨g, 1, none⟩ = some (.slice v k cap) ∧ w3.frozen? ⟨g, 1, none⟩ = false := by
          have hgv : ¬ blk v = some g := fun e => by
            rcases H2.out.1.sw.ptrs.cases with ⟨e2, _⟩ | ⟨r2, cur, e2, _, hr, _⟩
            · replace e2 : v = none := e2
              rw [e2] at e; cases e
            · replace e2 : v = some ⟨r2, 0, none⟩ := e2
              rw [e2] at e
              simp [blk] at e
              subst e
              rw [H2.out.1.sw.row] at hr
              simp at hr
          have hr3 := hkk.heap H2.out.1.sw.row hgv
          exact ⟨by rw [cell_of_row w3 g 1 _ _ (0, 0) hr3]; rfl, frozen_of_row w3 g 1 _ _ hr3⟩
        have hbx3 : w3.heap[bx]? = some (.cells #[.int .u64 x.r, .int .u64 x.B, .int .i64 x.I, .int .i64 x.S] 45 (0, 0)) := hkk.heap HS2.out.1 (fun e => by
          rcases H2.out.1.sw.ptrs.cases with ⟨e2, _⟩ | ⟨r2, cur, e2, _, hr, _⟩
          · replace e2 : v = none := e2
            rw [e2] at e; cases e
          · replace e2 : v = some ⟨r2, 0, none⟩ := e2
            rw [e2] at e
            simp [blk] at e
            rw [e, HS2.out.1] at hr
            simp at hr)
        have c1a := c1.1
        have f1a := c1.2
        clear hrun hown hkk hxk hge c1
        clear hS
        refine hK.out _ _ (⟨hbx3, by rw [c1a]; rfl⟩) (fun hS => ?_)
        clear hK K
        try simp only [Act.put, List.setIfInBounds_toArray, List.set_cons_zero, List.set_cons_succ]
        refine tk 16 59 (.pointer (some ⟨g, 0, none⟩)) rfl rfl (by kernel_rfl) (by kernel_rfl) (by kernel_rfl) (fun _ _ _ h => h) (Or.inl ⟨by rfl, fun w' h' => ?_⟩) hS ?_
        · go_simp
        try simp only [Act.put, List.setIfInBounds_toArray, List.set_cons_zero, List.set_cons_succ]
        refine tk 17 60 (.pointer (some ⟨g, 1, none⟩)) rfl rfl (by kernel_rfl) (by kernel_rfl) (by kernel_rfl) (fun _ _ _ h => h) (Or.inl ⟨by rfl, fun w' h' => ?_⟩) hS ?_
        · go_simp
        try simp only [Act.put, List.setIfInBounds_toArray, List.set_cons_zero, List.set_cons_succ]
        refine wpAnyH_ready (rs := [18]) (by kernel_rfl) (by simp) (AllReadyH.cons rfl (fun K hK => ?_) AllReadyH.nil)
        rw [if_pos (by rfl)]
        go_wp2_with fail
        have hS4 : (w3.setCell ⟨g, 1, none⟩ (.slice (some ⟨r3, 0, none⟩) (k + 1) cap3)).heap[bx]? = some (.cells #[.int .u64 x.r, .int .u64 x.B, .int .i64 x.I, .int .i64 x.S] 45 (0, 0)) := (Kept.setCell (S := fun i => i = g) w3 _ _ rfl).heap hbx3 (fun e => by
          rw [e] at hbx3
          have h5 := cell_of_row w3 g 1 _ _ (0, 0) hbx3
          rw [c1a] at h5
          simp at h5)
        obtain ⟨w4, hw4⟩ : ∃ z, w3.setCell ⟨g, 1, none⟩ (.slice (some ⟨r3, 0, none⟩) (k + 1) cap3) = z := ⟨_, rfl⟩
        rw [hw4] at H4 hS4 ⊢
        clear hw4 c1a f1a hbx3
        clear hS
        refine hK.out _ _ (⟨hS4, by rw [H4.out.sw.c1]; rfl⟩) (fun hS => ?_)
        clear hK K
        refine wpAnyH_done (by kernel_rfl) ?_ _
        clear H0 HS
        go_wp2_with fail
        refine Met.intro (hJ0 _ _ ?_)
        exact ⟨gb, gl, r3, cap3, ⟨rfl, rfl⟩, rfl, rfl, rfl, rfl, rfl, H4.out⟩

set_option maxRecDepth 100000 in
set_option maxHeartbeats 4000000 in
theorem n11 (wr : World) (T : Int) (xa : Option Addr) (n c g k : Nat) (hi : k < 1000) (a : Act) (hf : Fr 63 a) (h0 : sl a 0 = .int .u64 T) (h6 : sl a 6 = .pointer (some ⟨g, 0, none⟩)) (h22 : sl a 22 = .slice xa n c) (h23 : sl a 23 = .int .i64 (n : Int)) (h24 : sl a 24 = .int .i64 (k : Int)) :
    Code.wp Try.prog (cAt [1,1,1,0,1,2,2,1,1,1] KN) (Exit.then (fun a' w' => Fr 63 a' ∧ sl a' 0 = .int .u64 T ∧ sl a' 6 = .pointer (some ⟨g, 0, none⟩) ∧ sl a' 22 = .slice xa n c ∧ sl a' 23 = .int .i64 (n : Int) ∧ sl a' 24 = .int .i64 ((k : Int) + 1) ∧ wr = w') Nope) a wr := by
  obtain ⟨f, ha, hs⟩ := frKN hf
  have e0 := (hs 0).trans h0
  have e6 := (hs 6).trans h6
  have e22 := (hs 22).trans h22
  have e23 := (hs 23).trans h23
  have e24 := (hs 24).trans h24
  rw [e0, e6, e22, e23, e24] at ha
  clear hs hf e0 h0 e6 h6 e22 h22 e23 h23 e24 h24
  subst ha
  refine piece2 fun J0 K0 hJ0 hK0 => ?_
  conv => arg 2; whnf
  have hw : IntKind.i64.wrap ((k : Int) + 1) = (k : Int) + 1 := by rw [IntKind.wrap_i64]; omega
  go_wp2_with fail
  refine Met.intro (hJ0 _ _ ?_)
  exact ⟨⟨rfl, rfl⟩, rfl, rfl, rfl, rfl, rfl, rfl⟩

set_option maxRecDepth 100000 in
set_option maxHeartbeats 4000000 in
theorem n12 (wr : World) (g : Nat) (R : Ending → World → Prop) (HR : R (.returned (.tuple #[.pointer (some ⟨g, 0, none⟩), .int .i64 0])) wr) (a : Act) (hf : Fr 63 a) (h6 : sl a 6 = .pointer (some ⟨g, 0, none⟩)) :
    Code.wp Try.prog (cAt [1,1,1,1] KN) (bodyPost Try.prog Try.f10 R) a wr := by
  have H := Lib.hid HR
  clear HR
  obtain ⟨f, ha, hs⟩ := frKN hf
  have e6 := (hs 6).trans h6
  rw [e6] at ha
  clear hs hf e6 h6
  subst ha
  conv => arg 2; whnf
  go_wp2_with fail
  exact H.out

theorem wp_sqG {P : Program} {c x y : Code} {Q : Exit → Act → World → Prop} {a : Act} {w : World} (hc : c = .seq x y) (h : x.wp P (Exit.then (y.wp P Q) Q) a w) : c.wp P Q a w := by
  subst hc
  exact wp_seq h
/-- What New answers. -/
def NewS (w : World) (T : Int) (l : List Cs) (e : Ending) (w' : World) : Prop :=
  Below w.heap.size w w' ∧ ((mayB l = true ∧ ∃ g s, e = .returned (.tuple #[.pointer (some ⟨g, 0, none⟩), .int .i64 0]) ∧ Sw w' w.heap.size g s ∧ s.T = T ∧ s.n = l.length ∧ s.abs = l.map (Cs.new T)) ∨ (mayB l = false ∧ e = .returned (.tuple #[.pointer none, .int .i64 2])))
theorem may_parts {x : Cs} : x.may = true ↔ (2048 ≤ x.B ∧ 0 ≤ x.I ∧ x.I ≤ 65536 ∧ 0 ≤ x.S) := by
  unfold Cs.may
  simp only [Bool.and_eq_true, decide_eq_true_eq]

/-- A round. -/
def RdS (w : World) (g : Nat) (T : Int) (xb xo n c : Nat) (l : List Cs) (k : Nat) (a' : Act) (w' : World) : Prop :=
  ∃ v cap ls, Nw w w' g T v k cap ls l ∧ Fr 63 a' ∧ sl a' 0 = .int .u64 T ∧ sl a' 6 = .pointer (some ⟨g, 0, none⟩) ∧ sl a' 22 = .slice (some ⟨xb, xo, none⟩) n c ∧ sl a' 23 = .int .i64 (n : Int) ∧ sl a' 24 = .int .i64 (k : Int)
theorem n_round (w wr : World) (g : Nat) (T : Int) (xb xo n c : Nat) (l : List Cs) (k : Nat) (x : Cs) (hx : l[k]? = some x) (hxo : x.ok) (T0 : 0 ≤ T) (T1 : T ≤ 18446744073709551615) (hn8 : n ≤ 8) (hk : k < n) (hrg : wr.rangeAt xb (xo + k * 4) x.cs) (Q : Exit → Act → World → Prop)
    (hQ : ∀ a' w', RdS w g T xb xo n c l (k + 1) a' w' → Q .normal a' w') (hR : x.may = false → ∀ a' w', bodyPost Try.prog Try.f10 (NewS w T l) .ret a' w' → Q .ret a' w') (hno : x.may = false → mayB l = false)
    (v : Option Addr) (cap : Nat) (ls : List La) (HN : Nw w wr g T v k cap ls l) (a : Act) (hf : Fr 63 a) (h0 : sl a 0 = .int .u64 T) (h6 : sl a 6 = .pointer (some ⟨g, 0, none⟩)) (h22 : sl a 22 = .slice (some ⟨xb, xo, none⟩) n c) (h23 : sl a 23 = .int .i64 (n : Int)) (h24 : sl a 24 = .int .i64 (k : Int)) :
    Code.wp Try.prog (cAt [1,1,1,0,1,2,2,1,1] KN) Q a wr := by
  refine wp_sqG (x := cAt [1,1,1,0,1,2,2,1,1,0] KN) (y := cAt [1,1,1,0,1,2,2,1,1,1] KN) (by kernel_rfl) ?_
  refine wp_blockR (x := cAt [1,1,1,0,1,2,2,1,1,0,2] KN) (id := 1) (by kernel_rfl) ?_
  refine wp_sqR (x := cAt [1,1,1,0,1,2,2,1,1,0,2,0] KN) (y := cAt [1,1,1,0,1,2,2,1,1,0,2,1] KN) (by kernel_rfl) (n6 wr T xb xo n c g k x hrg hk a hf h0 h6 h22 h23 h24) ?_
  rintro a1 w1 ⟨bx, hf, h0, h6, h22, h23, h24, h8, hbx, hbxg, hb1⟩
  by_cases hq : 0 ≤ x.I ∧ x.I ≤ 65536 ∧ 0 ≤ x.S
  · refine wp_sqR (x := cAt [1,1,1,0,1,2,2,1,1,0,2,1,0] KN) (y := cAt [1,1,1,0,1,2,2,1,1,0,2,1,1] KN) (by kernel_rfl) (n7 w1 T xb xo n c g k bx x hbx hq.1 hq.2.1 hq.2.2 hxo.S1 a1 hf h0 h6 h22 h23 h24 h8) ?_
    rintro a2 w2 ⟨gq, hf, h0, h6, h22, h23, h24, h8, h9, h10, hqu, hgq, hb2⟩
    have hbx2 := (hb2.block _ (Array.getElem?_eq_some_iff.1 hbx).1).trans hbx
    refine wp_sqG (x := cAt [1,1,1,0,1,2,2,1,1,0,2,1,1,0] KN) (y := cAt [1,1,1,0,1,2,2,1,1,0,2,1,1,1] KN) (by kernel_rfl) ?_
    refine wp_sqR (x := cAt [1,1,1,0,1,2,2,1,1,0,2,1,1,0,0] KN) (y := cAt [1,1,1,0,1,2,2,1,1,0,2,1,1,0,1] KN) (by kernel_rfl) (n8 w2 T xb xo n c g k bx x _ 0 hbx2 a2 hf h0 h6 h22 h23 h24 h8 h9 h10) ?_
    rintro a3 _ ⟨hf, h0, h6, h22, h23, h24, h8, h9, h10, h42, rfl⟩
    by_cases hB : 2048 ≤ x.B
    · rw [decide_eq_false (show ¬ x.B < 2048 by omega)] at h42
      refine wp_onF (A := cAt [1,1,1,0,1,2,2,1,1,0,2,1,1,0,1,3] KN) (B := cAt [1,1,1,0,1,2,2,1,1,0,2,1,1,0,1,4] KN) (by kernel_rfl) h42 ?_
      refine wp_skipR (by kernel_rfl) ?_
      have hw1 : Below wr.heap.size wr w2 := hb1.trans (hb2.mono hb1.size)
      have HN2 := HN.past hw1
      refine wp_endR (n10 w wr w2 T xb xo n c g k bx gq cap x v ls l HN2 ⟨⟨hqu.ok, hqu.row, fun hne => (absurd rfl hne), fun z hz => (by cases hz), ?_⟩, Nat.le_trans hb1.size hgq⟩ ⟨HN, hw1⟩ hx (may_parts.2 ⟨hB, hq⟩) ⟨hxo.r0, hxo.r1, hxo.B1, T0, T1, hxo.B0, Int.le_refl _⟩ (by omega) hbx2 a3 hf h0 h6 h22 h23 h24 h8 h9) ?_
      · exact Nat.le_trans (Nat.le_trans HN.below.size hb1.size) hgq
      rintro a4 w4 ⟨gb, gl, r3, cap3, hf, h0, h6, h22, h23, h24, hN4⟩
      refine wp_endR (n11 w4 T (some ⟨xb, xo, none⟩) n c g k (by omega) a4 hf h0 h6 h22 h23 h24) ?_
      rintro a5 _ ⟨hf, h0, h6, h22, h23, h24, rfl⟩
      exact hQ _ _ ⟨_, _, _, hN4, hf, h0, h6, h22, h23, by rw [h24]; rfl⟩
    · have hm : x.may = false := by
        refine Bool.eq_false_iff.2 fun e => hB ?_
        exact (may_parts.1 e).1
      rw [decide_eq_true (show x.B < 2048 by omega)] at h42
      refine wp_onT (A := cAt [1,1,1,0,1,2,2,1,1,0,2,1,1,0,1,3] KN) (B := cAt [1,1,1,0,1,2,2,1,1,0,2,1,1,0,1,4] KN) (by kernel_rfl) h42 ?_
      refine wp_endT (n9 w2 (NewS w T l) ⟨HN.below.trans ((hb1.trans (hb2.mono hb1.size)).mono HN.below.size), .inr ⟨hno hm, rfl⟩⟩ a3 hf) ?_
      intro a4 w4 h4
      exact hR hm a4 w4 h4
  · have hm : x.may = false := by
      refine Bool.eq_false_iff.2 fun e => hq ?_
      exact (may_parts.1 e).2
    refine wp_sqR (x := cAt [1,1,1,0,1,2,2,1,1,0,2,1,0] KN) (y := cAt [1,1,1,0,1,2,2,1,1,0,2,1,1] KN) (by kernel_rfl) (n7n w1 T xb xo n c g k bx x hbx (by omega) a1 hf h0 h6 h22 h23 h24 h8) ?_
    rintro a2 _ ⟨hf, h0, h6, h22, h23, h24, h8, h9, h10, rfl⟩
    refine wp_sqG (x := cAt [1,1,1,0,1,2,2,1,1,0,2,1,1,0] KN) (y := cAt [1,1,1,0,1,2,2,1,1,0,2,1,1,1] KN) (by kernel_rfl) ?_
    refine wp_sqR (x := cAt [1,1,1,0,1,2,2,1,1,0,2,1,1,0,0] KN) (y := cAt [1,1,1,0,1,2,2,1,1,0,2,1,1,0,1] KN) (by kernel_rfl) (n8 w1 T xb xo n c g k bx x _ 2 hbx a2 hf h0 h6 h22 h23 h24 h8 h9 h10) ?_
    rintro a3 _ ⟨hf, h0, h6, h22, h23, h24, h8, h9, h10, h42, rfl⟩
    rw [decide_eq_true (show (2 : Int) ≠ 0 by decide), Bool.or_true] at h42
    refine wp_onT (A := cAt [1,1,1,0,1,2,2,1,1,0,2,1,1,0,1,3] KN) (B := cAt [1,1,1,0,1,2,2,1,1,0,2,1,1,0,1,4] KN) (by kernel_rfl) h42 ?_
    refine wp_endT (n9 w1 (NewS w T l) ⟨HN.below.trans (hb1.mono HN.below.size), .inr ⟨hno hm, rfl⟩⟩ a3 hf) ?_
    intro a4 w4 h4
    exact hR hm a4 w4 h4

set_option maxRecDepth 100000 in
theorem sNew_any (T : Int) (xa : Option Addr) (n c : Nat) (l : List Cs) (w : World) (hr : Rcs w xa n l) (T0 : 0 ≤ T) (T1 : T ≤ 18446744073709551615) : Calls Try.prog 10 #[.int .u64 T, .slice xa n c] w (NewS w T l) := by
  have hlen := hr.len
  refine calls_of_wp (c := KN) Try.func10 (by kernel_rfl) ?_
  have hf : Fr 63 { tmps := #[.int .u64 T, .slice xa n c] ++ Array.replicate (Try.f10.ntmps - (#[.int .u64 T, .slice xa n c] : Array Value).size) undef, defers := [] } := ⟨rfl, by simp [Try.ntmps10]⟩
  refine wp_sqR (x := cAt [0] KN) (y := cAt [1] KN) (by kernel_rfl) (n0 w T xa n c _ hf (sl_at _ _ 0 _ rfl) (sl_at _ _ 1 _ rfl)) ?_
  rintro a1 _ ⟨hf, h0, h1, rfl⟩
  refine wp_sqG (x := cAt [1,0] KN) (y := cAt [1,1] KN) (by kernel_rfl) ?_
  refine wp_sqR (x := cAt [1,0,0] KN) (y := cAt [1,0,1] KN) (by kernel_rfl) (n1 w T xa n c a1 hf h0 h1) ?_
  rintro a2 _ ⟨hf, h0, h1, h18, rfl⟩
  by_cases hbad : n = 0 ∨ 8 < n
  · have h18' : sl a2 18 = .bool true := by
      rw [h18]
      congr 1
      simpa using hbad
    refine wp_onT (A := cAt [1,0,1,3] KN) (B := cAt [1,0,1,4] KN) (by kernel_rfl) h18' ?_
    refine wp_endT (n2 w (NewS w T l) ⟨Below.refl _ _, .inr ⟨?_, rfl⟩⟩ a2 hf) (fun a' w' h => h)
    unfold mayB
    refine Bool.eq_false_iff.2 fun e => ?_
    simp only [Bool.and_eq_true, decide_eq_true_eq] at e
    omega
  have hn1 : 1 ≤ n ∧ n ≤ 8 := by omega
  have h18' : sl a2 18 = .bool false := by
    rw [h18]
    congr 1
    simp
    omega
  refine wp_onF (A := cAt [1,0,1,3] KN) (B := cAt [1,0,1,4] KN) (by kernel_rfl) h18' ?_
  refine wp_skipR (by kernel_rfl) ?_
  refine wp_sqR (x := cAt [1,1,0] KN) (y := cAt [1,1,1] KN) (by kernel_rfl) (n3 w T xa n c l a2 hf h0 h1) ?_
  rintro a3 w3 ⟨g, hf, h0, h1, h6, hN⟩
  obtain ⟨xb, xo, hxa, hcell⟩ := hr.cells (by intro e; rw [e] at hlen; simp at hlen; omega)
  refine wp_sqG (x := cAt [1,1,1,0] KN) (y := cAt [1,1,1,1] KN) (by kernel_rfl) ?_
  refine wp_sqR (x := cAt [1,1,1,0,0] KN) (y := cAt [1,1,1,0,1] KN) (by kernel_rfl) (n4 w3 T xa n c g a3 hf h0 h1 h6) ?_
  rintro a4 _ ⟨hf, h0, h6, h22, h23, h24, rfl⟩
  rw [hxa] at h22
  refine wp_blockR (x := cAt [1,1,1,0,1,2] KN) (id := 0) (by kernel_rfl) ?_
  refine wp_loopR (x := cAt [1,1,1,0,1,2,2] KN) (by kernel_rfl) (fun a' w' => ∃ k, k ≤ n ∧ RdS w g T xb xo n c l k a' w') (fun a' _ => n - (intOf (sl a' 24)).toNat) ⟨0, Nat.zero_le _, _, _, _, hN, hf, h0, h6, h22, h23, h24⟩ ?_
  rintro a5 w5 ⟨k, hk, v, cap, ls, hN5, hf, h0, h6, h22, h23, h24⟩
  by_cases hlt : k < n
  · obtain ⟨x, hx⟩ : ∃ x, l[k]? = some x := ⟨_, List.getElem?_eq_getElem (by omega)⟩
    have hxm := List.mem_of_getElem? hx
    refine wp_sqR (x := cAt [1,1,1,0,1,2,2,0] KN) (y := cAt [1,1,1,0,1,2,2,1] KN) (by kernel_rfl) (n5 w5 T (some ⟨xb, xo, none⟩) n c g k hlt a5 hf h0 h6 h22 h23 h24) ?_
    rintro a6 _ ⟨hf, h0, h6, h22, h23, h24', h25, rfl⟩
    refine wp_sqR (R := fun a' w' => a6 = a' ∧ w5 = w') (x := cAt [1,1,1,0,1,2,2,1,0] KN) (y := cAt [1,1,1,0,1,2,2,1,1] KN) (by kernel_rfl) ?_ ?_
    · refine wp_onT (A := cAt [1,1,1,0,1,2,2,1,0,3] KN) (B := cAt [1,1,1,0,1,2,2,1,0,4] KN) (by kernel_rfl) h25 ?_
      exact wp_skipR (by kernel_rfl) ⟨rfl, rfl⟩
    rintro _ _ ⟨rfl, rfl⟩
    refine n_round w w5 g T xb xo n c l k x hx (hr.ok x hxm) T0 T1 hn1.2 hlt (range_past (hN5.below.mono (Nat.le_refl _)) (hcell k x hx)) _ ?_ ?_ (fun hm => ?_) v cap ls hN5 a6 hf h0 h6 h22 h23 h24'
    · rintro a7 w7 ⟨v7, cap7, ls7, hN7, hf, h0, h6, h22, h23, h24''⟩
      refine ⟨⟨k + 1, hlt, v7, cap7, ls7, hN7, hf, h0, h6, h22, h23, h24''⟩, ?_⟩
      rw [h24, h24'']
      simp only [intOf]
      omega
    · intro _ a7 w7 h7
      exact h7
    · unfold mayB
      refine Bool.eq_false_iff.2 fun e => ?_
      simp only [Bool.and_eq_true] at e
      have := List.all_eq_true.1 e.2.2 x hxm
      rw [hm] at this
      cases this
  · have hkn : k = n := by omega
    refine wp_endX (n5x w5 T (some ⟨xb, xo, none⟩) n c g k hlt a5 hf h0 h6 h22 h23 h24) ?_
    rintro a6 _ ⟨hf, h6, rfl⟩
    refine thru ?_
    refine n12 w5 g (NewS w T l) ⟨hN5.below, .inl ⟨?_, g, _, rfl, hN5.sw, rfl, hkn.trans hlen.symm, ?_⟩⟩ a6 hf h6
    · unfold mayB
      simp only [Bool.and_eq_true, decide_eq_true_eq]
      refine ⟨by omega, by omega, List.all_eq_true.2 fun x hx => hN5.may x ?_⟩
      rw [List.take_of_length_le (by omega)]
      exact hx
    · have := hN5.ab
      rw [List.take_of_length_le (by omega)] at this
      exact this
end Go.Proofs.Ytpigpeehhadkjaa

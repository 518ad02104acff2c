/-
  The contract of a shaper's Release. Conditions: a shaper whose lanes are as they can be at its tick. (Made by gen_sprel.py.)
-/
import Derived.Test.YtpigpeehhadkjaaSpClear
namespace Go.Proofs.Ytpigpeehhadkjaa
open Go.RowKit Bkt

/-- What went out, with its data. -/
structure Po where
  t : Int
  c : Nat
  y : Pi
def Po.cs (p : Po) : List Value := [.int .u64 p.t, .int .i64 (p.c : Int), .int .u64 p.y.no, .int .i64 p.y.sz, .slice p.y.a p.y.n p.y.c]
theorem Po.len (p : Po) : p.cs.length = 5 := rfl
theorem Po.one (p : Po) : ∀ v ∈ p.cs, v.oneCell' = true := by
  intro v hv
  simp only [Po.cs, List.mem_cons, List.not_mem_nil, or_false] at hv
  rcases hv with rfl | rfl | rfl | rfl | rfl <;> rfl
def Po.ot (p : Po) : Ot := ⟨p.t, p.c, p.y.it⟩
theorem infOut : (Try.prog.info? 61).map (fun i => (i.zero, i.size, i.bytes)) = some (some (.agg #[.int .u64 0, .int .i64 0, .int .u64 0, .int .i64 0, .slice none 0 0]), 5, 56) := by kernel_rfl
/-- A row of them, of the call's own. -/
structure Ops (w : World) (base : Nat) (v : Option Addr) (n cap : Nat) (ys : List Po) : Prop where
  row : OwnG w base 61 5 v n cap (ys.flatMap Po.cs)
  data : ∀ y ∈ ys, Own w base y.y.a y.y.n y.y.c y.y.d ∧ Byt y.y.d ∧ y.y.n ≤ 1000000
  apart : ys.Pairwise (fun o p => ∀ k, blk o.y.a = some k → blk p.y.a ≠ some k)
theorem Ops.nil (w : World) (base : Nat) : Ops w base none 0 0 [] := ⟨OwnG.nil _ _ _ _, fun y h => (by cases h), List.Pairwise.nil⟩
theorem Ops.keep {S : Nat → Prop} {w w' : World} {base : Nat} {v : Option Addr} {n cap : Nat} {ys : List Po} (h : Ops w base v n cap ys) (k : Kept S w w') (hs : ∀ i, S i → base ≤ i → ∃ cur t, w.heap[i]? = some (.cells cur t (0, 0)) ∧ t ≠ 61 ∧ t ≠ 5) : Ops w' base v n cap ys :=
  ⟨h.row.keep k (fun b hb e => by
    obtain ⟨cur, t, hr, h1, h2⟩ := hs b e (h.row.blk_ge b hb).1
    rcases h.row.cases with ⟨e2, _⟩ | ⟨r, cur2, e2, _, hr2, _⟩
    · rw [e2] at hb; cases hb
    · rw [e2] at hb
      simp [blk] at hb
      subst hb
      rw [hr] at hr2
      simp at hr2
      exact h1 hr2.2),
   fun y hy => ⟨(h.data y hy).1.keep k (fun b hb e => by
    obtain ⟨cur, t, hr, h1, h2⟩ := hs b e ((h.data y hy).1.blk_ge b hb).1
    obtain ⟨cur2, hr2⟩ := (h.data y hy).1.kind hb
    rw [hr] at hr2
    simp at hr2
    exact h2 hr2.2), (h.data y hy).2⟩, h.apart⟩
theorem Ops.below {w w' : World} {base : Nat} {v : Option Addr} {n cap : Nat} {ys : List Po} (h : Ops w base v n cap ys) (k : Below w.heap.size w w') : Ops w' base v n cap ys :=
  h.keep (S := fun _ => False) (Kept.of_below k (fun i hi hi' => by omega)) (fun _ e => e.elim)
/-- One more. -/
theorem Ops.grow {W : World} {base : Nat} {v : Option Addr} {n cap : Nat} {ys : List Po} (h : Ops W base v n cap ys) (p : Po) (hp : Own W base p.y.a p.y.n p.y.c p.y.d ∧ Byt p.y.d ∧ p.y.n ≤ 1000000) (hnew : ∀ o ∈ ys, ∀ k, blk o.y.a = some k → blk p.y.a ≠ some k) (hn : n ≤ 1000000) (hb : base ≤ W.heap.size) :
    ∃ r cap' w', (Builtin.append_ #[47, 47] 47 #[.slice v n cap, .slice (some ⟨W.heap.size, 0, none⟩) 1 1]).run Try.prog (W.alloc (.cells p.cs.toArray 61)) = .ok (.slice (some ⟨r, 0, none⟩) (n + 1) cap') w' ∧
      Ops w' base (some ⟨r, 0, none⟩) (n + 1) cap' (ys ++ [p]) ∧ Kept (fun k => blk v = some k) W w' := by
  obtain ⟨r, cap', w', hrun, hown, hk, _⟩ := run_append_one W base 47 47 61 _ 5 56 infOut Try.underlying47 (by decide) (by decide) h.row p.cs rfl p.one hb (by omega) (by omega)
  refine ⟨r, cap', w', hrun, ⟨?_, fun y hy => ?_, ?_⟩, hk⟩
  · rw [List.flatMap_append]
    simpa using hown
  · have hky : ∀ z : Po, Own W base z.y.a z.y.n z.y.c z.y.d → Own w' base z.y.a z.y.n z.y.c z.y.d := fun z hz => hz.keep hk (fun b hb e => by
      rcases h.row.cases with ⟨e2, _⟩ | ⟨r2, cur2, e2, _, hr2, _⟩
      · rw [e2] at e; cases e
      · rw [e2] at e
        simp [blk] at e
        subst e
        obtain ⟨cur3, hr3⟩ := hz.kind hb
        rw [hr2] at hr3
        simp at hr3)
    rcases List.mem_append.1 hy with hy | hy
    · exact ⟨hky y (h.data y hy).1, (h.data y hy).2⟩
    · simp at hy
      subst hy
      exact ⟨hky _ hp.1, hp.2⟩
  · rw [List.pairwise_append]
    exact ⟨h.apart, List.pairwise_singleton _ _, fun o ho q hq k hk2 => by simp at hq; subst hq; exact hnew o ho k hk2⟩

/-- Release, on its way. -/
structure Rl (w W : World) (B g b1 b3 gt : Nat) (s : Sh) (L : List La) (l : List Tq) (v : Option Addr) (n cap : Nat) (ys : List Po) : Prop where
  sw : Sw W B g { s with ls := L }
  cl : Cl W g b1 b3 gt s.n l
  ops : Ops W w.heap.size v n cap ys
  kept : Kept (s.foot g) w W
  ft : ∀ k, Sh.foot { s with ls := L } g k → s.foot g k
  top : ∀ k, s.foot g k → k < w.heap.size
  ge : w.heap.size ≤ b1 ∧ w.heap.size ≤ b3 ∧ w.heap.size ≤ gt
  na : ∀ b, blk s.a = some b → b < w.heap.size
section
variable {w W W' : World} {B g b1 b3 gt : Nat} {s : Sh} {L : List La} {l : List Tq} {v : Option Addr} {n cap : Nat} {ys : List Po}
theorem Rl.hw (h : Rl w W B g b1 b3 gt s L l v n cap ys) (hf : Fit s.T (L.map La.abs) l) : Hw W W B g b1 b3 gt { s with ls := L } l :=
  ⟨h.sw, h.cl, hf, Kept.refl _ _, fun e => by have := h.top _ (h.ft _ e); have := h.ge; omega, fun b hb e => by have := h.na b hb; have := h.ge; omega⟩
theorem Rl.asked (h : Rl w W B g b1 b3 gt s L l v n cap ys) {l' : List Tq} (hw : Hw W W' B g b1 b3 gt { s with ls := L } l') : Rl w W' B g b1 b3 gt s L l' v n cap ys := by
  have hk := hw.kept
  refine ⟨hw.sw, hw.cl, h.ops.keep hk (fun i hi _ => ?_), h.kept.trans hk (fun i hi e => by have := h.ge; omega), h.ft, h.top, h.ge, h.na⟩
  subst hi
  exact ⟨_, _, h.cl.pt, by decide, by decide⟩
/-- A lane has sent. -/
theorem Rl.sent (h : Rl w W B g b1 b3 gt s L l v n cap ys) {i : Nat} {m m' : La} (hm : L[i]? = some m) (hl : Lw W' B m') (hg : m'.g = m.g) (k : Kept m.foot W W') (hf : ∀ k, m'.foot k → m.foot k) : Rl w W' B g b1 b3 gt s (L.set i m') l v n cap ys := by
  have hmt : ∀ j, m.foot j → j < w.heap.size := fun j hj => h.top _ (h.ft _ (.inr ⟨m, List.mem_of_getElem? hm, hj⟩))
  have hge := h.ge
  refine ⟨h.sw.step hm hl hg k (fun j hj => .inl (hf j hj)), h.cl.keep k (fun e => by have := hmt _ e; omega) (fun e => by have := hmt _ e; omega) (fun e => by have := hmt _ e; omega), h.ops.keep k (fun j hj hb => by have := hmt _ hj; omega), h.kept.trans k (fun j _ e => h.ft _ (.inr ⟨m, List.mem_of_getElem? hm, e⟩)), ?_, h.top, h.ge, h.na⟩
  rintro j (e | ⟨x, hx, e⟩)
  · exact .inl e
  · rcases List.mem_or_eq_of_mem_set hx with hx | rfl
    · exact h.ft j (.inr ⟨x, hx, e⟩)
    · exact h.ft j (.inr ⟨m, List.mem_of_getElem? hm, hf j e⟩)
/-- The row of what went out has changed. -/
theorem Rl.row (h : Rl w W B g b1 b3 gt s L l v n cap ys) {r n' cap' : Nat} {ys' : List Po} (ho : Ops W' w.heap.size (some ⟨r, 0, none⟩) n' cap' ys') (k : Kept (fun k => blk v = some k) W W') : Rl w W' B g b1 b3 gt s L l (some ⟨r, 0, none⟩) n' cap' ys' := by
  have hbk : ∀ j, blk v = some j → w.heap.size ≤ j ∧ ∃ cur, W.heap[j]? = some (.cells cur 61 (0, 0)) := fun j hj => by
    refine ⟨(h.ops.row.blk_ge j hj).1, ?_⟩
    rcases h.ops.row.cases with ⟨e2, _⟩ | ⟨r2, cur2, e2, _, hr2, _⟩
    · rw [e2] at hj; cases hj
    · rw [e2] at hj
      simp [blk] at hj
      subst hj
      exact ⟨_, hr2⟩
  have hne : ∀ j t cur, W.heap[j]? = some (.cells cur t (0, 0)) → t ≠ 61 → ¬ blk v = some j := fun j t cur hr ht e => by
    obtain ⟨_, cur2, hr2⟩ := hbk j e
    rw [hr] at hr2
    simp at hr2
    exact ht hr2.2
  refine ⟨h.sw.keep k (fun j hj e => ?_) (fun b hb e => ?_), h.cl.keep k (hne _ _ _ h.cl.p1 (by decide)) (hne _ _ _ h.cl.p3 (by decide)) (hne _ _ _ h.cl.pt (by decide)), ho, h.kept.trans k (fun j hj e => by have := (hbk j e).1; omega), h.ft, h.top, h.ge, h.na⟩
  · have := (hbk j e).1; have := h.top _ (h.ft _ hj); omega
  · have := (hbk b e).1; have := h.na b hb; omega
end

noncomputable def KR : Code := Try.f18.body.getD .skip
set_option maxRecDepth 100000 in
theorem frKR {a : Act} (h : Fr 58 a) : ∃ f : Nat → Value, a = ⟨#[f 0, f 1, f 2, f 3, f 4, f 5, f 6, f 7, f 8, f 9, f 10, f 11, f 12, f 13, f 14, f 15, f 16, f 17, f 18, f 19, f 20, f 21, f 22, f 23, f 24, f 25, f 26, f 27, f 28, f 29, f 30, f 31, f 32, f 33, f 34, f 35, f 36, f 37, f 38, f 39, f 40, f 41, f 42, f 43, f 44, f 45, f 46, f 47, f 48, f 49, f 50, f 51, f 52, f 53, f 54, f 55, f 56, f 57], []⟩ ∧ ∀ i, f i = sl a i := fr_any h

set_option maxRecDepth 100000 in
set_option maxHeartbeats 4000000 in
theorem r0 (w : World) (g : Nat) (tick : Int) (a : Act) (hf : Fr 58 a) (h0 : sl a 0 = .pointer (some ⟨g, 0, none⟩)) (h1 : sl a 1 = .int .u64 tick) :
    Code.wp Try.prog (cAt [0] KR) (Exit.then (fun a' w' => Fr 58 a' ∧ sl a' 0 = .pointer (some ⟨g, 0, none⟩) ∧ sl a' 1 = .int .u64 tick ∧ w = w') Nope) a w := by
  obtain ⟨f, ha, hs⟩ := frKR hf
  have e0 := (hs 0).trans h0
  have e1 := (hs 1).trans h1
  rw [e0, e1] at ha
  clear hs hf e0 h0 e1 h1
  subst ha
  refine piece2 fun J0 K0 hJ0 hK0 => ?_
  conv => arg 2; whnf
  go_wp2_with fail
  refine Met.intro (hJ0 _ _ ?_)
  exact ⟨⟨rfl, rfl⟩, rfl, rfl, rfl⟩

set_option maxRecDepth 100000 in
set_option maxHeartbeats 4000000 in
theorem r1 (w : World) (g : Nat) (tick : Int) (a : Act) (hf : Fr 58 a) (h0 : sl a 0 = .pointer (some ⟨g, 0, none⟩)) (h1 : sl a 1 = .int .u64 tick) :
    Code.wp Try.prog (cAt [1,0,0] KR) (Exit.then (fun a' w' => Fr 58 a' ∧ sl a' 0 = .pointer (some ⟨g, 0, none⟩) ∧ sl a' 1 = .int .u64 tick ∧ sl a' 11 = .bool false ∧ w = w') Nope) a w := by
  obtain ⟨f, ha, hs⟩ := frKR hf
  have e0 := (hs 0).trans h0
  have e1 := (hs 1).trans h1
  rw [e0, e1] at ha
  clear hs hf e0 h0 e1 h1
  subst ha
  refine piece2 fun J0 K0 hJ0 hK0 => ?_
  conv => arg 2; whnf
  go_wp2_with fail
  refine Met.intro (hJ0 _ _ ?_)
  exact ⟨⟨rfl, rfl⟩, rfl, rfl, rfl, rfl⟩

set_option maxRecDepth 100000 in
set_option maxHeartbeats 4000000 in
theorem r3 (w : World) (B g : Nat) (s : Sh) (tick : Int) (HI : Hid (Sw w B g s)) (a : Act) (hf : Fr 58 a) (h0 : sl a 0 = .pointer (some ⟨g, 0, none⟩)) (h1 : sl a 1 = .int .u64 tick) :
    Code.wp Try.prog (cAt [1,1,0] KR) (Exit.then (fun a' w' => Fr 58 a' ∧ sl a' 0 = .pointer (some ⟨g, 0, none⟩) ∧ sl a' 1 = .int .u64 (max tick s.T) ∧ w = w') Nope) a w := by
  obtain ⟨f, ha, hs⟩ := frKR hf
  have e0 := (hs 0).trans h0
  have e1 := (hs 1).trans h1
  rw [e0, e1] at ha
  clear hs hf e0 h0 e1 h1
  subst ha
  refine piece2 fun J0 K0 hJ0 hK0 => ?_
  conv => arg 2; whnf
  have t0 := HI.out.c0
  rcases Int.lt_or_le tick s.T with hlt | hle
  · have hm : max tick s.T = s.T := by omega
    rw [hm] at hJ0
    clear hm
    go_wp2_with fail
    refine Met.intro (hJ0 _ _ ?_)
    exact ⟨⟨rfl, rfl⟩, rfl, rfl, rfl⟩
  · have hm : max tick s.T = tick := by omega
    rw [hm] at hJ0
    clear hm
    go_wp2_with fail
    refine Met.intro (hJ0 _ _ ?_)
    exact ⟨⟨rfl, rfl⟩, rfl, rfl, rfl⟩

set_option maxRecDepth 100000 in
set_option maxHeartbeats 4000000 in
theorem r4 (w : World) (g : Nat) (tk : Int) (a : Act) (hf : Fr 58 a) (h0 : sl a 0 = .pointer (some ⟨g, 0, none⟩)) (h1 : sl a 1 = .int .u64 tk) :
    Code.wp Try.prog (cAt [1,1,1,0] KR) (Exit.then (fun a' w' => Fr 58 a' ∧ sl a' 0 = .pointer (some ⟨g, 0, none⟩) ∧ sl a' 1 = .int .u64 tk ∧ sl a' 5 = .slice none 0 0 ∧ w = w') Nope) a w := by
  obtain ⟨f, ha, hs⟩ := frKR hf
  have e0 := (hs 0).trans h0
  have e1 := (hs 1).trans h1
  rw [e0, e1] at ha
  clear hs hf e0 h0 e1 h1
  subst ha
  refine piece2 fun J0 K0 hJ0 hK0 => ?_
  conv => arg 2; whnf
  go_wp2_with fail
  refine Met.intro (hJ0 _ _ ?_)
  exact ⟨⟨rfl, rfl⟩, rfl, rfl, rfl, rfl⟩

set_option maxRecDepth 100000 in
set_option maxHeartbeats 4000000 in
theorem r5 (w : World) (B g : Nat) (s : Sh) (tk : Int) (HI : Hid (Sw w B g s)) (a : Act) (hf : Fr 58 a) (h0 : sl a 0 = .pointer (some ⟨g, 0, none⟩)) (h1 : sl a 1 = .int .u64 tk) (h5 : sl a 5 = .slice none 0 0) :
    Code.wp Try.prog (cAt [1,1,1,1,0] KR) (Exit.then (fun a' w' => ∃ b1 b3 gt l, Fr 58 a' ∧ sl a' 0 = .pointer (some ⟨g, 0, none⟩) ∧ sl a' 1 = .int .u64 tk ∧ sl a' 5 = .slice none 0 0 ∧ sl a' 6 = .func (.func 53) #[] #[.pointer (some ⟨b1, 0, none⟩), .pointer (some ⟨b3, 0, none⟩)] ∧ Rl w w' B g b1 b3 gt s s.ls l none 0 0 [] ∧ Fit s.T s.abs l) Nope) a w := by
  obtain ⟨f, ha, hs⟩ := frKR hf
  have e0 := (hs 0).trans h0
  have e1 := (hs 1).trans h1
  have e5 := (hs 5).trans h5
  rw [e0, e1, e5] at ha
  clear hs hf e0 h0 e1 h1 e5 h5
  subst ha
  refine piece2 fun J0 K0 hJ0 hK0 => ?_
  conv => arg 2; whnf
  go_wp2_with fail
  refine (heads_any B g s w HI.out).mono ?_
  rintro e w1 ⟨b1, b3, gt, l, rfl, hb, hw, hb1, hb3, hgt⟩
  have HR : Hid (Rl w w1 B g b1 b3 gt s s.ls l none 0 0 [] ∧ Fit s.T s.abs l) :=
    ⟨⟨hw.sw, hw.cl, Ops.nil _ _, Kept.of_below hb (fun i hi hi' => by omega), fun _ e => e, fun k hk => (HI.out.foot_lt hk).2, ⟨hb1, hb3, hgt⟩, fun b hb => (HI.out.ptrs.blk_ge b hb).2⟩, hw.fit⟩
  clear hb hw hb1 hb3 hgt
  go_wp2_with fail
  refine Met.intro (hJ0 _ _ ?_)
  exact ⟨b1, b3, gt, l, ⟨rfl, rfl⟩, rfl, rfl, rfl, rfl, HR.out⟩

set_option maxRecDepth 100000 in
set_option maxHeartbeats 4000000 in
theorem r6 (w wr : World) (B g b1 b3 gt : Nat) (s : Sh) (L : List La) (l : List Tq) (v : Option Addr) (n cap : Nat) (ys : List Po) (tk : Int) (HI : Hid (Rl w wr B g b1 b3 gt s L l v n cap ys)) (HF : Hid (Fit s.T (L.map La.abs) l)) (H1 : Hid (1 ≤ s.n)) (a : Act) (hf : Fr 58 a) (h0 : sl a 0 = .pointer (some ⟨g, 0, none⟩)) (h1 : sl a 1 = .int .u64 tk) (h5 : sl a 5 = .slice v n cap) (h6 : sl a 6 = .func (.func 53) #[] #[.pointer (some ⟨b1, 0, none⟩), .pointer (some ⟨b3, 0, none⟩)]) :
    Code.wp Try.prog (cAt [1,1,1,1,1,0,0] KR) (Exit.then (fun a' w' => ∃ l2, Fr 58 a' ∧ sl a' 0 = .pointer (some ⟨g, 0, none⟩) ∧ sl a' 1 = .int .u64 tk ∧ sl a' 5 = .slice v n cap ∧ sl a' 6 = .func (.func 53) #[] #[.pointer (some ⟨b1, 0, none⟩), .pointer (some ⟨b3, 0, none⟩)] ∧ sl a' 7 = .int .i64 ((nx s.T (L.map La.abs)).c : Int) ∧ sl a' 8 = .int .u64 (nx s.T (L.map La.abs)).t ∧ sl a' 9 = .bool (nx s.T (L.map La.abs)).k ∧ Rl w w' B g b1 b3 gt s L l2 v n cap ys ∧ Fit s.T (L.map La.abs) l2 ∧ ((nx s.T (L.map La.abs)).k = true → ∀ x, l2[(nx s.T (L.map La.abs)).c]? = some x → x.k = false)) Nope) a wr := by
  obtain ⟨f, ha, hs⟩ := frKR hf
  have e0 := (hs 0).trans h0
  have e1 := (hs 1).trans h1
  have e5 := (hs 5).trans h5
  have e6 := (hs 6).trans h6
  rw [e0, e1, e5, e6] at ha
  clear hs hf e0 h0 e1 h1 e5 h5 e6 h6
  subst ha
  refine piece2 fun J0 K0 hJ0 hK0 => ?_
  conv => arg 2; whnf
  go_wp2_with fail
  refine (heads1_any wr B g b1 b3 gt { s with ls := L } l (HI.out.hw HF.out) H1.out).mono ?_
  rintro e w1 ⟨rfl, l2, hw2, hk2⟩
  rw [show nx ({ s with ls := L } : Sh).T ({ s with ls := L } : Sh).abs = nx s.T (L.map La.abs) from rfl] at hk2 ⊢
  have HR : Hid (Rl w w1 B g b1 b3 gt s L l2 v n cap ys ∧ Fit s.T (L.map La.abs) l2 ∧ ((nx s.T (L.map La.abs)).k = true → ∀ x, l2[(nx s.T (L.map La.abs)).c]? = some x → x.k = false)) := ⟨HI.out.asked hw2, hw2.fit, hk2⟩
  clear hw2 hk2
  obtain ⟨z, hz⟩ : ∃ z, nx s.T (L.map La.abs) = z := ⟨_, rfl⟩
  rw [hz]
  rw [hz] at hJ0 HR
  go_wp2_with fail
  refine Met.intro (hJ0 _ _ ?_)
  exact ⟨l2, ⟨rfl, rfl⟩, rfl, rfl, rfl, rfl, rfl, rfl, rfl, HR.out⟩

set_option maxRecDepth 100000 in
set_option maxHeartbeats 4000000 in
theorem r7 (wr : World) (g b1 b3 : Nat) (v : Option Addr) (n cap : Nat) (tk : Int) (z : Be) (a : Act) (hf : Fr 58 a) (h0 : sl a 0 = .pointer (some ⟨g, 0, none⟩)) (h1 : sl a 1 = .int .u64 tk) (h5 : sl a 5 = .slice v n cap) (h6 : sl a 6 = .func (.func 53) #[] #[.pointer (some ⟨b1, 0, none⟩), .pointer (some ⟨b3, 0, none⟩)]) (h7 : sl a 7 = .int .i64 ((z).c : Int)) (h8 : sl a 8 = .int .u64 (z).t) (h9 : sl a 9 = .bool (z).k) :
    Code.wp Try.prog (cAt [1,1,1,1,1,0,1,2,2,0,0] KR) (Exit.then (fun a' w' => Fr 58 a' ∧ sl a' 0 = .pointer (some ⟨g, 0, none⟩) ∧ sl a' 1 = .int .u64 tk ∧ sl a' 5 = .slice v n cap ∧ sl a' 6 = .func (.func 53) #[] #[.pointer (some ⟨b1, 0, none⟩), .pointer (some ⟨b3, 0, none⟩)] ∧ sl a' 7 = .int .i64 ((z).c : Int) ∧ sl a' 8 = .int .u64 (z).t ∧ sl a' 9 = .bool (z).k ∧ sl a' 31 = .bool (z.k && decide (z.t ≤ tk)) ∧ wr = w') Nope) a wr := by
  obtain ⟨f, ha, hs⟩ := frKR hf
  have e0 := (hs 0).trans h0
  have e1 := (hs 1).trans h1
  have e5 := (hs 5).trans h5
  have e6 := (hs 6).trans h6
  have e7 := (hs 7).trans h7
  have e8 := (hs 8).trans h8
  have e9 := (hs 9).trans h9
  rw [e0, e1, e5, e6, e7, e8, e9] at ha
  clear hs hf e0 h0 e1 h1 e5 h5 e6 h6 e7 h7 e8 h8 e9 h9
  subst ha
  refine piece2 fun J0 K0 hJ0 hK0 => ?_
  conv => arg 2; whnf
  obtain ⟨zc, zt, zk⟩ := z
  simp only
  cases zk
  · go_wp2_with fail
    refine Met.intro (hJ0 _ _ ?_)
    exact ⟨⟨rfl, rfl⟩, rfl, rfl, rfl, rfl, rfl, rfl, rfl, rfl, rfl⟩
  · by_cases hlt : zt ≤ tk
    · go_wp2_with fail
      refine Met.intro (hJ0 _ _ ?_)
      exact ⟨⟨rfl, rfl⟩, rfl, rfl, rfl, rfl, rfl, rfl, rfl, by rw [decide_eq_true hlt]; rfl, rfl⟩
    · go_wp2_with fail
      refine Met.intro (hJ0 _ _ ?_)
      exact ⟨⟨rfl, rfl⟩, rfl, rfl, rfl, rfl, rfl, rfl, rfl, by rw [decide_eq_false (show ¬ zt ≤ tk by omega)]; rfl, rfl⟩

set_option maxRecDepth 100000 in
set_option maxHeartbeats 4000000 in
theorem r7x (wr : World) (g b1 b3 : Nat) (v : Option Addr) (n cap : Nat) (tk : Int) (z : Be) (hg : ¬ (z.k = true ∧ z.t ≤ tk)) (a : Act) (hf : Fr 58 a) (h0 : sl a 0 = .pointer (some ⟨g, 0, none⟩)) (h1 : sl a 1 = .int .u64 tk) (h5 : sl a 5 = .slice v n cap) (h6 : sl a 6 = .func (.func 53) #[] #[.pointer (some ⟨b1, 0, none⟩), .pointer (some ⟨b3, 0, none⟩)]) (h7 : sl a 7 = .int .i64 ((z).c : Int)) (h8 : sl a 8 = .int .u64 (z).t) (h9 : sl a 9 = .bool (z).k) :
    Code.wp Try.prog (cAt [1,1,1,1,1,0,1,2,2] KR) (Outs 0 (fun a' w' => Fr 58 a' ∧ sl a' 0 = .pointer (some ⟨g, 0, none⟩) ∧ sl a' 1 = .int .u64 tk ∧ sl a' 5 = .slice v n cap ∧ wr = w')) a wr := by
  obtain ⟨f, ha, hs⟩ := frKR hf
  have e0 := (hs 0).trans h0
  have e1 := (hs 1).trans h1
  have e5 := (hs 5).trans h5
  have e6 := (hs 6).trans h6
  have e7 := (hs 7).trans h7
  have e8 := (hs 8).trans h8
  have e9 := (hs 9).trans h9
  rw [e0, e1, e5, e6, e7, e8, e9] at ha
  clear hs hf e0 h0 e1 h1 e5 h5 e6 h6 e7 h7 e8 h8 e9 h9
  subst ha
  conv => arg 2; whnf
  obtain ⟨zc, zt, zk⟩ := z
  simp only at hg
  cases zk
  · clear hg
    go_wp2_with fail
    exact ⟨rfl, ⟨rfl, rfl⟩, rfl, rfl, rfl, rfl⟩
  · have hlt : ¬ zt ≤ tk := fun e => hg ⟨rfl, e⟩
    clear hg
    go_wp2_with fail
    exact ⟨rfl, ⟨rfl, rfl⟩, rfl, rfl, rfl, rfl⟩

set_option maxRecDepth 100000 in
set_option maxHeartbeats 4000000 in
theorem r8 (w wr : World) (B g b1 b3 gt : Nat) (s : Sh) (L : List La) (l : List Tq) (v : Option Addr) (n cap : Nat) (ys : List Po) (tk : Int) (HI : Hid (Rl w wr B g b1 b3 gt s L l v n cap ys)) (HF : Hid (Fit s.T (L.map La.abs) l)) (H1 : Hid (1 ≤ s.n)) (a : Act) (hf : Fr 58 a) (h0 : sl a 0 = .pointer (some ⟨g, 0, none⟩)) (h1 : sl a 1 = .int .u64 tk) (h5 : sl a 5 = .slice v n cap) (h6 : sl a 6 = .func (.func 53) #[] #[.pointer (some ⟨b1, 0, none⟩), .pointer (some ⟨b3, 0, none⟩)]) :
    Code.wp Try.prog (cAt [1,1,1,1,1,0,1,2,2,1,1] KR) (Exit.then (fun a' w' => ∃ l2, Fr 58 a' ∧ sl a' 0 = .pointer (some ⟨g, 0, none⟩) ∧ sl a' 1 = .int .u64 tk ∧ sl a' 5 = .slice v n cap ∧ sl a' 6 = .func (.func 53) #[] #[.pointer (some ⟨b1, 0, none⟩), .pointer (some ⟨b3, 0, none⟩)] ∧ sl a' 7 = .int .i64 ((nx s.T (L.map La.abs)).c : Int) ∧ sl a' 8 = .int .u64 (nx s.T (L.map La.abs)).t ∧ sl a' 9 = .bool (nx s.T (L.map La.abs)).k ∧ Rl w w' B g b1 b3 gt s L l2 v n cap ys ∧ Fit s.T (L.map La.abs) l2 ∧ ((nx s.T (L.map La.abs)).k = true → ∀ x, l2[(nx s.T (L.map La.abs)).c]? = some x → x.k = false)) Nope) a wr := by
  obtain ⟨f, ha, hs⟩ := frKR hf
  have e0 := (hs 0).trans h0
  have e1 := (hs 1).trans h1
  have e5 := (hs 5).trans h5
  have e6 := (hs 6).trans h6
  rw [e0, e1, e5, e6] at ha
  clear hs hf e0 h0 e1 h1 e5 h5 e6 h6
  subst ha
  refine piece2 fun J0 K0 hJ0 hK0 => ?_
  conv => arg 2; whnf
  go_wp2_with fail
  refine (heads1_any wr B g b1 b3 gt { s with ls := L } l (HI.out.hw HF.out) H1.out).mono ?_
  rintro e w1 ⟨rfl, l2, hw2, hk2⟩
  rw [show nx ({ s with ls := L } : Sh).T ({ s with ls := L } : Sh).abs = nx s.T (L.map La.abs) from rfl] at hk2 ⊢
  have HR : Hid (Rl w w1 B g b1 b3 gt s L l2 v n cap ys ∧ Fit s.T (L.map La.abs) l2 ∧ ((nx s.T (L.map La.abs)).k = true → ∀ x, l2[(nx s.T (L.map La.abs)).c]? = some x → x.k = false)) := ⟨HI.out.asked hw2, hw2.fit, hk2⟩
  clear hw2 hk2
  obtain ⟨z, hz⟩ : ∃ z, nx s.T (L.map La.abs) = z := ⟨_, rfl⟩
  rw [hz]
  rw [hz] at hJ0 HR
  go_wp2_with fail
  refine Met.intro (hJ0 _ _ ?_)
  exact ⟨l2, ⟨rfl, rfl⟩, rfl, rfl, rfl, rfl, rfl, rfl, rfl, HR.out⟩

set_option maxRecDepth 100000 in
set_option maxHeartbeats 4000000 in
theorem r9 (w wr : World) (B g b1 b3 gt : Nat) (s : Sh) (L : List La) (l : List Tq) (v : Option Addr) (n cap : Nat) (ys : List Po) (tk : Int) (z : Be) (m : La) (HI : Hid (Rl w wr B g b1 b3 gt s L l v n cap ys)) (HM : Hid (L[z.c]? = some m ∧ m.q.L ≠ [])) (ht0 : 0 ≤ z.t) (ht1 : z.t ≤ 18446744073709551615) (hn : n ≤ 1000000) (hzc : z.c < s.n) (a : Act) (hf : Fr 58 a) (h0 : sl a 0 = .pointer (some ⟨g, 0, none⟩)) (h1 : sl a 1 = .int .u64 tk) (h5 : sl a 5 = .slice v n cap) (h6 : sl a 6 = .func (.func 53) #[] #[.pointer (some ⟨b1, 0, none⟩), .pointer (some ⟨b3, 0, none⟩)]) (h7 : sl a 7 = .int .i64 ((z).c : Int)) (h8 : sl a 8 = .int .u64 (z).t) (h9 : sl a 9 = .bool (z).k) :
    Code.wp Try.prog (cAt [1,1,1,1,1,0,1,2,2,1,0,2] KR) (Exit.then (fun a' w' => ∃ r cap' m' p, Fr 58 a' ∧ sl a' 0 = .pointer (some ⟨g, 0, none⟩) ∧ sl a' 1 = .int .u64 tk ∧ sl a' 5 = .slice (some ⟨r, 0, none⟩) (n + 1) cap' ∧ sl a' 6 = .func (.func 53) #[] #[.pointer (some ⟨b1, 0, none⟩), .pointer (some ⟨b3, 0, none⟩)] ∧ Rl w w' B g b1 b3 gt s (L.set z.c m') l (some ⟨r, 0, none⟩) (n + 1) cap' (ys ++ [p]) ∧ m'.abs = m.abs.send z.t ∧ p.ot = ⟨z.t, z.c, m.abs.A.hd⟩) Nope) a wr := by
  obtain ⟨f, ha, hs⟩ := frKR hf
  have e0 := (hs 0).trans h0
  have e1 := (hs 1).trans h1
  have e5 := (hs 5).trans h5
  have e6 := (hs 6).trans h6
  have e7 := (hs 7).trans h7
  have e8 := (hs 8).trans h8
  have e9 := (hs 9).trans h9
  rw [e0, e1, e5, e6, e7, e8, e9] at ha
  clear hs hf e0 h0 e1 h1 e5 h5 e6 h6 e7 h7 e8 h8 e9 h9
  subst ha
  refine piece2 fun J0 K0 hJ0 hK0 => ?_
  conv => arg 2; whnf
  have hlw := HI.out.sw.lws m (List.mem_of_getElem? HM.out.1)
  obtain ⟨r, hr, hcell⟩ := HI.out.sw.pt HM.out.1
  have t1 := HI.out.sw.c1
  replace hr : s.a = some ⟨r, 0, none⟩ := hr
  replace t1 : wr.cell? ⟨g, 1, none⟩ = some (.slice s.a s.n s.c) := t1
  rw [hr] at t1
  have hi2 : (z.c : Int) < (s.n : Int) := by omega
  have hi0 : (0 : Int) ≤ (z.c : Int) := by omega
  obtain ⟨zc, zt, zk⟩ := z
  simp only at hcell hi2 hi0 ht0 ht1 HM hzc
  simp only at hJ0 ⊢
  have HLW := Lib.hid hlw
  clear hr hlw
  go_wp2_with fail
  refine (send_any B m zt wr HLW.out HM.out.2 ht0 ht1).mono ?_
  rintro e w1 ⟨x, y, m', rfl, hx, hty, hl', ha', hg', hk', hf'⟩
  have hxm : x ∈ m.q.L := List.mem_of_head? hx
  have hxa := HLW.out.qu.x hxm
  have hya := hty.at_ hxa
  have hsz := HI.out.kept.size
  have H2 := HI.out.sent HM.out.1 hl' hg' hk' hf'
  have hnew : ∀ o ∈ ys, ∀ k, blk o.y.a = some k → blk y.a ≠ some k := fun o ho k hk e => by
    have h1 := ((HI.out.ops.data o ho).1.blk_ge k hk).2
    have h2 := (hty.own.blk_ge k e).1
    omega
  have hhd : (Po.mk zt zc y).ot = ⟨zt, zc, m.abs.A.hd⟩ := by
    have h1 : m.abs.A.hd = x.it := by
      show m.q.abs.hd = x.it
      cases hL : m.q.L with
      | nil => rw [hL] at hx; cases hx
      | cons a t => rw [hL] at hx; simp at hx; subst hx; exact abs_hd hL
    rw [h1]
    show Ot.mk zt zc y.it = _
    congr 1
    show It.mk y.no y.sz y.d = It.mk x.no x.sz x.d
    rw [hty.no, hty.sz, hty.d]
  obtain ⟨r2, cap', w2, hrun, hops, hkk⟩ := H2.ops.grow ⟨zt, zc, y⟩ ⟨(hty.own.mono hsz), hya.byt, hya.few⟩ hnew hn (Nat.le_trans hsz hk'.size)
  have H3 : Hid (Rl w w2 B g b1 b3 gt s (L.set zc m') l (some ⟨r2, 0, none⟩) (n + 1) cap' (ys ++ [⟨zt, zc, y⟩]) ∧ m'.abs = m.abs.send zt ∧ (Po.mk zt zc y).ot = ⟨zt, zc, m.abs.A.hd⟩) := ⟨H2.row hops hkk, ha', hhd⟩
  clear hx hty hl' ha' hg' hk' hf' hxm hxa hya hsz H2 hnew hops hkk hhd hcell t1
  obtain ⟨yno, ysz, ya, yn, yc, yd⟩ := y
  have HRUN : Hid ((Builtin.append_ #[47, 47] 47 #[.slice v n cap, .slice (some ⟨w1.heap.size, 0, none⟩) 1 1]).run Try.prog (w1.alloc (.cells #[.int .u64 zt, .int .i64 (zc : Int), .int .u64 yno, .int .i64 ysz, .slice ya yn yc] 61)) = .ok (.slice (some ⟨r2, 0, none⟩) (n + 1) cap') w2) := hrun
  clear hrun
  rw [show (Pi.v ⟨yno, ysz, ya, yn, yc, yd⟩) = .agg #[.int .u64 yno, .int .i64 ysz, .slice ya yn yc] from rfl]
  go_wp2_with (at_builtin; first | (refine Lib.wpList_append_run _ rfl (.tmp 38) (.tmp 51) _ _ rfl _ _ rfl rfl _ _ HRUN.out ?_) | fail)
  refine Met.intro (hJ0 _ _ ?_)
  exact ⟨r2, cap', m', ⟨zt, zc, ⟨yno, ysz, ya, yn, yc, yd⟩⟩, ⟨rfl, rfl⟩, rfl, rfl, rfl, rfl, H3.out⟩

set_option maxRecDepth 100000 in
set_option maxHeartbeats 4000000 in
theorem r10 (w wr : World) (B g b1 b3 gt : Nat) (s : Sh) (L : List La) (l : List Tq) (v : Option Addr) (n cap : Nat) (ys : List Po) (tk : Int) (HI : Hid (Rl w wr B g b1 b3 gt s L l v n cap ys)) (a : Act) (hf : Fr 58 a) (h0 : sl a 0 = .pointer (some ⟨g, 0, none⟩)) (h1 : sl a 1 = .int .u64 tk) (h5 : sl a 5 = .slice v n cap) :
    Code.wp Try.prog (cAt [1,1,1,1,1,1,0] KR) (Exit.then (fun a' w' => Fr 58 a' ∧ sl a' 5 = .slice v n cap ∧ Sw w' B g { s with T := tk, ls := L } ∧ Ops w' w.heap.size v n cap ys ∧ Kept (s.foot g) w w') Nope) a wr := by
  obtain ⟨f, ha, hs⟩ := frKR hf
  have e0 := (hs 0).trans h0
  have e1 := (hs 1).trans h1
  have e5 := (hs 5).trans h5
  rw [e0, e1, e5] at ha
  clear hs hf e0 h0 e1 h1 e5 h5
  subst ha
  refine piece2 fun J0 K0 hJ0 hK0 => ?_
  conv => arg 2; whnf
  have t0 := HI.out.sw.c0
  have f0 := HI.out.sw.frozen 0
  obtain ⟨hs2, hk2⟩ := HI.out.sw.tick tk
  have HF : Hid (Sw (wr.setCell ⟨g, 0, none⟩ (.int .u64 tk)) B g { s with T := tk, ls := L } ∧ Ops (wr.setCell ⟨g, 0, none⟩ (.int .u64 tk)) w.heap.size v n cap ys ∧ Kept (s.foot g) w (wr.setCell ⟨g, 0, none⟩ (.int .u64 tk))) := by
    have k1 : Kept (fun i => i = g) wr (wr.setCell ⟨g, 0, none⟩ (.int .u64 tk)) := Kept.setCell _ _ _ rfl
    exact ⟨hs2, HI.out.ops.keep k1 (fun i hi hb => by have := HI.out.top g (.inl rfl); omega), HI.out.kept.trans k1 (fun i _ e => .inl e)⟩
  clear hs2 hk2
  go_wp2_with fail
  refine Met.intro (hJ0 _ _ ?_)
  exact ⟨⟨rfl, rfl⟩, rfl, HF.out⟩

set_option maxRecDepth 100000 in
set_option maxHeartbeats 4000000 in
theorem r11 (wr : World) (v : Option Addr) (n cap : Nat) (R : Ending → World → Prop) (HR : R (.returned (.slice v n cap)) wr) (a : Act) (hf : Fr 58 a) (h5 : sl a 5 = .slice v n cap) :
    Code.wp Try.prog (cAt [1,1,1,1,1,1,1] KR) (bodyPost Try.prog Try.f18 R) a wr := by
  have H := Lib.hid HR
  clear HR
  obtain ⟨f, ha, hs⟩ := frKR hf
  have e5 := (hs 5).trans h5
  rw [e5] at ha
  clear hs hf e5 h5
  subst ha
  conv => arg 2; whnf
  go_wp2_with fail
  exact H.out

/-- What Release does. -/
def RelR (w : World) (B g : Nat) (s : Sh) (tick : Int) (e : Ending) (w' : World) : Prop :=
  ∃ v n cap ys ls, e = .returned (.slice v n cap) ∧ Ops w' w.heap.size v n cap ys ∧ ys.map Po.ot = (rel (max tick s.T) s.T s.abs).2 ∧ Sw w' B g { s with T := max tick s.T, ls := ls } ∧ ls.map La.abs = (rel (max tick s.T) s.T s.abs).1 ∧ Kept (s.foot g) w w' ∧ ∀ k, Sh.foot { s with ls := ls } g k → s.foot g k
def lenOf : Value → Nat
  | .slice _ n _ => n
  | _ => 0
/-- The loop's state. -/
def RlS (w : World) (B g b1 b3 gt : Nat) (s : Sh) (tk : Int) (a' : Act) (w' : World) : Prop :=
  ∃ L l v n cap ys Tc, Rl w w' B g b1 b3 gt s L l v n cap ys ∧ Fit s.T (L.map La.abs) l ∧ ((nx s.T (L.map La.abs)).k = true → ∀ x, l[(nx s.T (L.map La.abs)).c]? = some x → x.k = false) ∧ Inv s.T Tc (L.map La.abs) ∧ Oks (L.map La.abs) Tc ∧ Tc ≤ tk ∧
    rel tk s.T s.abs = ((rel tk Tc (L.map La.abs)).1, ys.map Po.ot ++ (rel tk Tc (L.map La.abs)).2) ∧ n + tot (L.map La.abs) ≤ 524288 ∧ Fr 58 a' ∧ sl a' 0 = .pointer (some ⟨g, 0, none⟩) ∧ sl a' 1 = .int .u64 tk ∧ sl a' 5 = .slice v n cap ∧ sl a' 6 = .func (.func 53) #[] #[.pointer (some ⟨b1, 0, none⟩), .pointer (some ⟨b3, 0, none⟩)] ∧ sl a' 7 = .int .i64 ((nx s.T (L.map La.abs)).c : Int) ∧ sl a' 8 = .int .u64 (nx s.T (L.map La.abs)).t ∧ sl a' 9 = .bool (nx s.T (L.map La.abs)).k

theorem sRelease_any (B g : Nat) (s : Sh) (tick : Int) (w : World) (h : Sw w B g s) (h1n : 1 ≤ s.n) (hok : Oks s.abs s.T) (htk : tick ≤ 18446744073709551615) : Calls Try.prog 18 #[.pointer (some ⟨g, 0, none⟩), .int .u64 tick] w (RelR w B g s tick) := by
  obtain ⟨m0, hm0, _⟩ := h.lane (i := 0) (by omega)
  have hl0 : m0.abs ∈ s.abs := List.mem_map.2 ⟨m0, List.mem_of_getElem? hm0, rfl⟩
  have hT0 := (hok _ hl0).T0
  have hT1 := (hok _ hl0).T1
  have hsum := h.sum s.n
  have hle := h.le
  have hlen : s.abs.length = s.n := by rw [abs_len]; exact h.len
  rw [List.take_of_length_le (by omega)] at hsum
  unfold RelR
  obtain ⟨tk, htk'⟩ : ∃ z, max tick s.T = z := ⟨_, rfl⟩
  rw [htk']
  have hTt : s.T ≤ tk := by omega
  have htk1 : tk ≤ 18446744073709551615 := by omega
  refine calls_of_wp (c := KR) Try.func18 (by kernel_rfl) ?_
  have hf : Fr 58 { tmps := #[.pointer (some ⟨g, 0, none⟩), .int .u64 tick] ++ Array.replicate (Try.f18.ntmps - (#[.pointer (some ⟨g, 0, none⟩), .int .u64 tick] : Array Value).size) undef, defers := [] } := ⟨rfl, by simp [Try.ntmps18]⟩
  refine wp_sqR (x := cAt [0] KR) (y := cAt [1] KR) (by kernel_rfl) (r0 w g tick _ hf (sl_at _ _ 0 _ rfl) (sl_at _ _ 1 _ rfl)) ?_
  rintro a1 _ ⟨hf, h0, h1, rfl⟩
  refine wp_sqR (R := fun a' w' => Fr 58 a' ∧ sl a' 0 = .pointer (some ⟨g, 0, none⟩) ∧ sl a' 1 = .int .u64 tick ∧ w = w') (x := cAt [1,0] KR) (y := cAt [1,1] KR) (by kernel_rfl) ?_ ?_
  · refine wp_sqR (x := cAt [1,0,0] KR) (y := cAt [1,0,1] KR) (by kernel_rfl) (r1 w g tick a1 hf h0 h1) ?_
    rintro a2 _ ⟨hf, h0, h1, h11, rfl⟩
    refine wp_onF (A := cAt [1,0,1,3] KR) (B := cAt [1,0,1,4] KR) (by kernel_rfl) h11 ?_
    exact wp_skipR (by kernel_rfl) ⟨hf, h0, h1, rfl⟩
  rintro a2 _ ⟨hf, h0, h1, rfl⟩
  refine wp_sqR (x := cAt [1,1,0] KR) (y := cAt [1,1,1] KR) (by kernel_rfl) (r3 w B g s tick h a2 hf h0 h1) ?_
  rintro a3 _ ⟨hf, h0, h1, rfl⟩
  rw [htk'] at h1
  refine wp_sqR (x := cAt [1,1,1,0] KR) (y := cAt [1,1,1,1] KR) (by kernel_rfl) (r4 w g tk a3 hf h0 h1) ?_
  rintro a4 _ ⟨hf, h0, h1, h5, rfl⟩
  refine wp_sqR (x := cAt [1,1,1,1,0] KR) (y := cAt [1,1,1,1,1] KR) (by kernel_rfl) (r5 w B g s tk h a4 hf h0 h1 h5) ?_
  rintro a5 w5 ⟨b1, b3, gt, l, hf, h0, h1, h5, h6, hR, hF⟩
  refine wp_sqR (R := fun a' w' => ∃ L l v n cap ys, Rl w w' B g b1 b3 gt s L l v n cap ys ∧ rel tk s.T s.abs = (L.map La.abs, ys.map Po.ot) ∧ Fr 58 a' ∧ sl a' 0 = .pointer (some ⟨g, 0, none⟩) ∧ sl a' 1 = .int .u64 tk ∧ sl a' 5 = .slice v n cap) (x := cAt [1,1,1,1,1,0] KR) (y := cAt [1,1,1,1,1,1] KR) (by kernel_rfl) ?_ ?_
  · refine wp_sqR (x := cAt [1,1,1,1,1,0,0] KR) (y := cAt [1,1,1,1,1,0,1] KR) (by kernel_rfl) (r6 w w5 B g b1 b3 gt s s.ls l none 0 0 [] tk hR hF h1n a5 hf h0 h1 h5 h6) ?_
    rintro a6 w6 ⟨l2, hf, h0, h1, h5, h6, h7, h8, h9, hR, hF, hk⟩
    refine wp_blockR (x := cAt [1,1,1,1,1,0,1,2] KR) (id := 0) (by kernel_rfl) ?_
    refine wp_loopR (x := cAt [1,1,1,1,1,0,1,2,2] KR) (by kernel_rfl) (fun a' w' => RlS w B g b1 b3 gt s tk a' w') (fun a' _ => 600000 - lenOf (sl a' 5)) ⟨s.ls, l2, none, 0, 0, [], s.T, hR, hF, hk, Inv.refl _ _, hok, hTt, rfl, by show 0 + tot s.abs ≤ _; omega, hf, h0, h1, h5, h6, h7, h8, h9⟩ ?_
    rintro a7 w7 ⟨L, l, v, n, cap, ys, Tc, hR, hF, hkk, hi, hokL, hTc, hrel, hn, hf, h0, h1, h5, h6, h7, h8, h9⟩
    have hnx := hi.nxE
    have h5o := h5
    by_cases hg : (nx s.T (L.map La.abs)).k = true ∧ (nx s.T (L.map La.abs)).t ≤ tk
    · refine wp_sqR (R := fun a' w' => Fr 58 a' ∧ sl a' 0 = .pointer (some ⟨g, 0, none⟩) ∧ sl a' 1 = .int .u64 tk ∧ sl a' 5 = .slice v n cap ∧ sl a' 6 = .func (.func 53) #[] #[.pointer (some ⟨b1, 0, none⟩), .pointer (some ⟨b3, 0, none⟩)] ∧ sl a' 7 = .int .i64 ((nx s.T (L.map La.abs)).c : Int) ∧ sl a' 8 = .int .u64 (nx s.T (L.map La.abs)).t ∧ sl a' 9 = .bool (nx s.T (L.map La.abs)).k ∧ w7 = w') (x := cAt [1,1,1,1,1,0,1,2,2,0] KR) (y := cAt [1,1,1,1,1,0,1,2,2,1] KR) (by kernel_rfl) ?_ ?_
      · refine wp_sqR (x := cAt [1,1,1,1,1,0,1,2,2,0,0] KR) (y := cAt [1,1,1,1,1,0,1,2,2,0,1] KR) (by kernel_rfl) (r7 w7 g b1 b3 v n cap tk _ a7 hf h0 h1 h5 h6 h7 h8 h9) ?_
        rintro a8 _ ⟨hf, h0, h1, h5, h6, h7, h8, h9, h31, rfl⟩
        rw [hg.1, decide_eq_true hg.2] at h31
        refine wp_onT (A := cAt [1,1,1,1,1,0,1,2,2,0,1,3] KR) (B := cAt [1,1,1,1,1,0,1,2,2,0,1,4] KR) (by kernel_rfl) h31 ?_
        exact wp_skipR (by kernel_rfl) ⟨hf, h0, h1, h5, h6, h7, h8, h9, rfl⟩
      rintro a8 _ ⟨hf, h0, h1, h5, h6, h7, h8, h9, rfl⟩
      have hstep := hi.step hokL (by rw [← hnx]; exact hg.1)
      rw [← hnx] at hstep
      obtain ⟨q1, q2, q3, q4, _, _, q5, q6⟩ := hstep
      have hcl : (nx s.T (L.map La.abs)).c < L.length := by rw [List.length_map] at q1; exact q1
      have hLl : L.length = s.n := hR.sw.len
      obtain ⟨m, hm⟩ : ∃ m, L[(nx s.T (L.map La.abs)).c]? = some m := ⟨_, List.getElem?_eq_getElem hcl⟩
      have hgd : (L.map La.abs).getD (nx s.T (L.map La.abs)).c az = m.abs := by rw [List.getD_eq_getElem?_getD, List.getElem?_map, hm]; rfl
      have hry := rel_yes hokL hi (by rw [← hnx]; exact hg.1) (by rw [← hnx]; exact hg.2)
      rw [← hnx] at hry
      have hts := tot_send q1 q2 (nx s.T (L.map La.abs)).t
      rw [hgd] at q2 q5 q6 hry hts
      have hTc0 := (hokL _ (List.getElem_mem q1)).T0
      refine wp_sqR (x := cAt [1,1,1,1,1,0,1,2,2,1,0] KR) (y := cAt [1,1,1,1,1,0,1,2,2,1,1] KR) (by kernel_rfl) (R := fun a' w' => ∃ r cap' m' p, Rl w w' B g b1 b3 gt s (L.set (nx s.T (L.map La.abs)).c m') l (some ⟨r, 0, none⟩) (n + 1) cap' (ys ++ [p]) ∧ m'.abs = m.abs.send (nx s.T (L.map La.abs)).t ∧ p.ot = ⟨(nx s.T (L.map La.abs)).t, (nx s.T (L.map La.abs)).c, m.abs.A.hd⟩ ∧ Fr 58 a' ∧ sl a' 0 = .pointer (some ⟨g, 0, none⟩) ∧ sl a' 1 = .int .u64 tk ∧ sl a' 5 = .slice (some ⟨r, 0, none⟩) (n + 1) cap' ∧ sl a' 6 = .func (.func 53) #[] #[.pointer (some ⟨b1, 0, none⟩), .pointer (some ⟨b3, 0, none⟩)]) ?_ ?_
      · refine wp_blockR (x := cAt [1,1,1,1,1,0,1,2,2,1,0,2] KR) (id := 1) (by kernel_rfl) ?_
        refine wp_endR (r9 w w7 B g b1 b3 gt s L l v n cap ys tk _ m hR ⟨hm, fun e => q2 (by show m.q.L.map Pi.it = []; rw [e]; rfl)⟩ (by omega) q4 (by omega) (by omega) a8 hf h0 h1 h5 h6 h7 h8 h9) ?_
        rintro a9 w9 ⟨r, cap', m', p, hf, h0, h1, h5, h6, hR2, hma, hpo⟩
        exact ⟨r, cap', m', p, hR2, hma, hpo, hf, h0, h1, h5, h6⟩
      rintro a9 w9 ⟨r, cap', m', p, hR2, hma, hpo, hf, h0, h1, h5', h6⟩
      have hset : (L.set (nx s.T (L.map La.abs)).c m').map La.abs = (L.map La.abs).set (nx s.T (L.map La.abs)).c (m.abs.send (nx s.T (L.map La.abs)).t) := by rw [List.map_set, hma]
      rw [← hset] at q5 q6 hry hts
      have hF2 : Fit s.T ((L.set (nx s.T (L.map La.abs)).c m').map La.abs) l := fun i x hx hxk => by
        by_cases e : (nx s.T (L.map La.abs)).c = i
        · have := hkk hg.1 x (by rw [e]; exact hx)
          rw [this] at hxk
          cases hxk
        · rw [hF i x hx hxk, hset]
          unfold tn
          rw [getD_set_ne _ _ _ _ _ e]
      refine wp_endR (r8 w w9 B g b1 b3 gt s _ l _ _ _ _ tk hR2 hF2 h1n a9 hf h0 h1 h5' h6) ?_
      rintro a10 w10 ⟨l3, hf, h0, h1, h5'', h6, h7, h8, h9, hR3, hF3, hk3⟩
      refine ⟨⟨_, l3, _, _, _, _, _, hR3, hF3, hk3, q6, q5, hg.2, ?_, by omega, hf, h0, h1, h5'', h6, h7, h8, h9⟩, ?_⟩
      · rw [hrel, hry, List.map_append]
        simp [hpo]
      · rw [h5'', h5o]
        simp only [lenOf]
        omega
    · refine wp_endX (r7x w7 g b1 b3 v n cap tk _ hg a7 hf h0 h1 h5 h6 h7 h8 h9) ?_
      rintro a8 _ ⟨hf, h0, h1, h5, rfl⟩
      refine thru ?_
      refine ⟨L, l, v, n, cap, ys, hR, ?_, hf, h0, h1, h5⟩
      rw [hrel, rel_no (by rw [← hnx]; exact hg), List.append_nil]
  rintro a6 w6 ⟨L, l, v, n, cap, ys, hR, hrel, hf, h0, h1, h5⟩
  refine wp_sqR (x := cAt [1,1,1,1,1,1,0] KR) (y := cAt [1,1,1,1,1,1,1] KR) (by kernel_rfl) (r10 w w6 B g b1 b3 gt s L l v n cap ys tk hR a6 hf h0 h1 h5) ?_
  rintro a7 w7 ⟨hf, h5, hsw, hops, hkept⟩
  refine r11 w7 v n cap _ ?_ a7 hf h5
  rw [hrel]
  exact ⟨v, n, cap, ys, L, rfl, hops, rfl, hsw, rfl, hkept, hR.ft⟩
end Go.Proofs.Ytpigpeehhadkjaa

/-
  The statements' act on a shaper and on the document's: both do the same. Conditions: both lie in memory and are the same; an act whose data can be read. (Made by gen_spdoes.py.)
-/
import Derived.Test.YtpigpeehhadkjaaSpIs
import Derived.Test.YtpigpeehhadkjaaSpDNew
namespace Go.Proofs.Ytpigpeehhadkjaa
open Go.RowKit Bkt
set_option maxRecDepth 100000
set_option maxHeartbeats 4000000

theorem Sw.kindd {W : World} {B g : Nat} {s : Sh} (h : Sw W B g s) {k : Nat} (hk : s.foot g k) : ∃ cur t, W.heap[k]? = some (.cells cur t (0, 0)) ∧ (t = 73 ∨ t = 88 ∨ t = 124 ∨ t = 122 ∨ t = 40 ∨ t = 5) := by
  rcases hk with rfl | ⟨l, hl, hk⟩
  · exact ⟨_, _, h.row, .inl rfl⟩
  · obtain ⟨c, t, e, ht⟩ := (h.lws l hl).kind hk
    exact ⟨c, t, e, .inr ht⟩
theorem Dw.kindd {W : World} {B g : Nat} {d : Ds} (h : Dw W B g d) {k : Nat} (hk : d.foot g k) : ∃ cur t, W.heap[k]? = some (.cells cur t (0, 0)) ∧ (t = 93 ∨ t = 101 ∨ t = 96 ∨ t = 103) := by
  rcases hk with rfl | hk | hk | hk
  · exact ⟨_, _, h.row, .inl rfl⟩
  · obtain ⟨c, hc⟩ := h.bs.blkr hk
    exact ⟨c, _, hc, .inr (.inl rfl)⟩
  · obtain ⟨c, hc⟩ := h.qs.blkr hk
    exact ⟨c, _, hc, .inr (.inr (.inl rfl))⟩
  · obtain ⟨c, hc⟩ := h.ss.blkr hk
    exact ⟨c, _, hc, .inr (.inr (.inr rfl))⟩
/-- What is written over is of other kinds. -/
theorem Dw.keep {S : Nat → Prop} {W W' : World} {B g : Nat} {d : Ds} (h : Dw W B g d) (k : Kept S W W') (hs : ∀ b cur t, W.heap[b]? = some (.cells cur t (0, 0)) → (t = 93 ∨ t = 101 ∨ t = 96 ∨ t = 103 ∨ t = 63) → ¬ S b) : Dw W' B g d := by
  have hg : ∀ {a : Option Addr} {e size n cap : Nat} {vs : List Value}, OwnG W B e size a n cap vs → (e = 93 ∨ e = 101 ∨ e = 96 ∨ e = 103 ∨ e = 63) → OwnG W' B e size a n cap vs := fun ho he => ho.keep k (fun b hb e2 => by
    obtain ⟨cur, hr⟩ := ho.blkr hb
    exact hs b cur _ hr he e2)
  exact ⟨k.heap h.row (hs _ _ _ h.row (.inl rfl)), hg h.bs (.inr (.inl rfl)), hg h.qs (.inr (.inr (.inl rfl))), hg h.ss (.inr (.inr (.inr (.inl rfl)))), fun x hx => ⟨(h.its x hx).1.keep k (fun b cur hb => hs b cur _ hb (.inr (.inr (.inr (.inr rfl))))), (h.its x hx).2⟩, h.base⟩
/-- Both shapers, in a law's memory. -/
structure Pm (w W : World) (g : Nat) (s : Sh) (N : Int) (g2 : Nat) (d : Ds) : Prop where
  lv : Lv w W g s N
  dw : Dw W w.heap.size g2 d
/-- They are the same. -/
structure Pj (w W : World) (g : Nat) (s : Sh) (N : Int) (g2 : Nat) (d : Ds) : Prop where
  pm : Pm w W g s N g2 d
  T : d.T = s.T
  n : d.n = s.n
  ab : d.abs = s.abs
section
variable {w W W' : World} {g : Nat} {s s' : Sh} {N M : Int} {g2 : Nat} {d d' : Ds}
theorem Pm.past (h : Pm w W g s N g2 d) (k : Below W.heap.size W W') : Pm w W' g s N g2 d := ⟨h.lv.past k, h.dw.below k⟩
theorem Pm.prog (h : Pm w W g s N g2 d) (hl : Lv w W' g s' M) (k : Kept (s.foot g) W W') : Pm w W' g s' M g2 d :=
  ⟨hl, h.dw.keep k (fun b cur t hb ht e => by
    obtain ⟨c2, t2, h2, ht2⟩ := h.lv.sw.kindd e
    rw [hb] at h2
    simp at h2
    obtain ⟨_, rfl⟩ := h2
    rcases ht with rfl | rfl | rfl | rfl | rfl <;> (rcases ht2 with h | h | h | h | h | h <;> exact absurd h (by decide)))⟩
theorem Sw.far {S : Nat → Prop} {B : Nat} (h : Sw W B g s) (k : Kept S W W') (hs : ∀ b cur t, W.heap[b]? = some (.cells cur t (0, 0)) → (t = 73 ∨ t = 88 ∨ t = 124 ∨ t = 122 ∨ t = 40 ∨ t = 77) → ¬ S b) (hu : ∀ b, s.foot g b → (∃ cur, W.heap[b]? = some (.cells cur 5 (0, 0))) → ¬ S b) : Sw W' B g s :=
  h.keep k (fun i hi e => by
    obtain ⟨c, t, hc, ht⟩ := h.kindd hi
    rcases ht with rfl | rfl | rfl | rfl | rfl | rfl
    · exact hs i c _ hc (.inl rfl) e
    · exact hs i c _ hc (.inr (.inl rfl)) e
    · exact hs i c _ hc (.inr (.inr (.inl rfl))) e
    · exact hs i c _ hc (.inr (.inr (.inr (.inl rfl)))) e
    · exact hs i c _ hc (.inr (.inr (.inr (.inr (.inl rfl))))) e
    · exact hu i hi ⟨c, hc⟩ e) (fun b hb e => by
    obtain ⟨c, hc⟩ := h.ptrs.blkr hb
    exact hs b c _ hc (.inr (.inr (.inr (.inr (.inr rfl))))) e)
theorem Pm.doc (h : Pm w W g s N g2 d) (hd : Dw W' w.heap.size g2 d') (k : Kept (d.foot g2) W W') : Pm w W' g s N g2 d' := by
  refine ⟨⟨h.lv.sw.far k (fun b cur t hb ht e => ?_) (fun b _ hb e => ?_), h.lv.n1, h.lv.below.trans (k.below h.lv.below.size (fun i e => (h.dw.foot_lt e).1)), h.lv.db, h.lv.bT, h.lv.T0, h.lv.T1, h.lv.N0⟩, hd⟩
  · obtain ⟨c2, t2, h2, ht2⟩ := h.dw.kindd e
    rw [hb] at h2
    simp at h2
    obtain ⟨_, rfl⟩ := h2
    rcases ht with rfl | rfl | rfl | rfl | rfl | rfl <;> (rcases ht2 with h | h | h | h <;> exact absurd h (by decide))
  · obtain ⟨cur, hb⟩ := hb
    obtain ⟨c2, t2, h2, ht2⟩ := h.dw.kindd e
    rw [hb] at h2
    simp at h2
    obtain ⟨_, rfl⟩ := h2
    rcases ht2 with h | h | h | h <;> exact absurd h (by decide)
/-- A row of bytes that is no part of the shaper is written over. -/
theorem Pm.inc (h : Pm w W g s N g2 d) {B : Nat} {a : Option Addr} {n c : Nat} {xs : List Int} (ho : Own W B a n c xs) (hB : w.heap.size ≤ B) (hf : ∀ b, blk a = some b → ¬ s.foot g b) (hi : Inc W B a n c W') : Pm w W' g s N g2 d := by
  obtain ⟨zs, _, k⟩ := hi
  have hk : ∀ b cur t, W.heap[b]? = some (.cells cur t (0, 0)) → t ≠ 5 → ¬ blk a = some b := fun b cur t hb ht e => by
    obtain ⟨c2, h2⟩ := ho.kind e
    rw [hb] at h2
    simp at h2
    exact ht h2.2
  refine ⟨⟨h.lv.sw.far k (fun b cur t hb ht => hk b cur t hb (by rcases ht with rfl | rfl | rfl | rfl | rfl | rfl <;> decide)) (fun b hb _ e => hf b e hb), h.lv.n1, h.lv.below.trans (k.below h.lv.below.size (fun i e => Nat.le_trans hB (ho.blk_ge i e).1)), h.lv.db, h.lv.bT, h.lv.T0, h.lv.T1, h.lv.N0⟩, h.dw.keep k (fun b cur t hb ht => hk b cur t hb (by rcases ht with rfl | rfl | rfl | rfl | rfl <;> decide))⟩
/-- Rows that went out are written over. -/
theorem Pm.outs (h : Pm w W g s N g2 d) {B : Nat} (hB : w.heap.size ≤ B) (hf : ∀ b, s.foot g b → b < B) (k : Kept (Oblk W B) W W') : Pm w W' g s N g2 d := by
  have hk : ∀ b cur t, W.heap[b]? = some (.cells cur t (0, 0)) → t ≠ 5 → t ≠ 61 → ¬ Oblk W B b := fun b cur t hb h1 h2 e => by
    obtain ⟨_, c2, t2, h3, h4⟩ := e
    rw [hb] at h3
    simp at h3
    obtain ⟨_, rfl⟩ := h3
    rcases h4 with h | h
    · exact h2 h
    · exact h1 h
  refine ⟨⟨h.lv.sw.far k (fun b cur t hb ht => hk b cur t hb (by rcases ht with rfl | rfl | rfl | rfl | rfl | rfl <;> decide) (by rcases ht with rfl | rfl | rfl | rfl | rfl | rfl <;> decide)) (fun b hb _ e => by have := hf b hb; have := e.1; omega), h.lv.n1, h.lv.below.trans (k.below h.lv.below.size (fun i e => Nat.le_trans hB e.1)), h.lv.db, h.lv.bT, h.lv.T0, h.lv.T1, h.lv.N0⟩, h.dw.keep k (fun b cur t hb ht => hk b cur t hb (by rcases ht with rfl | rfl | rfl | rfl | rfl <;> decide) (by rcases ht with rfl | rfl | rfl | rfl | rfl <;> decide))⟩
theorem Pj.past (h : Pj w W g s N g2 d) (k : Below W.heap.size W W') : Pj w W' g s N g2 d := ⟨h.pm.past k, h.T, h.n, h.ab⟩
theorem Pj.n8 (h : Pj w W g s N g2 d) : d.n ≤ 8 := by have := h.n; have := h.pm.lv.sw.le; omega
theorem Pj.oks (h : Pj w W g s N g2 d) (hN : N < 18446744073709551615) : Oks d.abs d.T := by rw [h.ab, h.T]; exact h.pm.lv.oks hN
theorem Pj.more (h : Pj w W g s N g2 d) (hM : N ≤ M) : Pj w W g s M g2 d := ⟨⟨⟨h.pm.lv.sw, h.pm.lv.n1, h.pm.lv.below, h.pm.lv.db.more hM, h.pm.lv.bT, h.pm.lv.T0, h.pm.lv.T1, Int.le_trans h.pm.lv.N0 hM⟩, h.pm.dw⟩, h.T, h.n, h.ab⟩
/-- Clear, for a law. -/
theorem lvClear (h : Lv w W g s N) : Calls Try.prog 25 #[.pointer (some ⟨g, 0, none⟩)] W fun e W' => e = .returned (.int .i64 (tot s.abs : Int)) ∧ ∃ s', Lv w W' g s' N ∧ s'.T = s.T ∧ s'.n = s.n ∧ s'.abs = s.abs.map Ab.clear ∧ Kept (s.foot g) W W' :=
  (sClear_any w.heap.size g s W h.sw h.n1).mono (by
    rintro e W' ⟨rfl, ls, hsw, hab, hk, _⟩
    refine ⟨rfl, { s with ls := ls }, ⟨hsw, h.n1, h.below.trans (hk.below h.below.size (fun k hk => (h.sw.foot_lt hk).1)), ?_, ?_, h.T0, h.T1, h.N0⟩, rfl, rfl, hab, hk⟩
    · show DB _ (ls.map La.abs)
      rw [hab]
      intro l hl
      obtain ⟨m, hm, rfl⟩ := List.mem_map.1 hl
      exact h.db m hm
    · show ∀ l ∈ ls.map La.abs, l.b.T ≤ s.T
      rw [hab]
      intro l hl
      obtain ⟨m, hm, rfl⟩ := List.mem_map.1 hl
      exact h.bT m hm)
end
/-- An act in its box. -/
def Arow (W : World) (px : Nat) (y : Ac) : Prop := W.heap[px]? = some (.cells y.cs.toArray 42 (0, 0))
theorem Arow.past {W W' : World} {px : Nat} {y : Ac} (h : Arow W px y) (k : Below W.heap.size W W') : Arow W' px y := (k.block _ (Array.getElem?_eq_some_iff.1 h).1).trans h
theorem Arow.c0 {W : World} {px : Nat} {y : Ac} (h : Arow W px y) : W.cell? ⟨px, 0, none⟩ = some (.int .i64 y.d) := by rw [cell_of_row W px 0 _ _ (0, 0) h]; rfl
theorem Arow.c1 {W : World} {px : Nat} {y : Ac} (h : Arow W px y) : W.cell? ⟨px, 1, none⟩ = some (.int .i64 y.c) := by rw [cell_of_row W px 1 _ _ (0, 0) h]; rfl
theorem Arow.c2 {W : World} {px : Nat} {y : Ac} (h : Arow W px y) : W.cell? ⟨px, 2, none⟩ = some (.int .u64 y.x.no) := by rw [cell_of_row W px 2 _ _ (0, 0) h]; rfl
theorem Arow.c3 {W : World} {px : Nat} {y : Ac} (h : Arow W px y) : W.cell? ⟨px, 3, none⟩ = some (.int .i64 y.x.sz) := by rw [cell_of_row W px 3 _ _ (0, 0) h]; rfl
theorem Arow.c4 {W : World} {px : Nat} {y : Ac} (h : Arow W px y) : W.cell? ⟨px, 4, none⟩ = some (.slice y.x.a y.x.n y.x.c) := by rw [cell_of_row W px 4 _ _ (0, 0) h]; rfl
theorem Arow.c5 {W : World} {px : Nat} {y : Ac} (h : Arow W px y) : W.cell? ⟨px, 5, none⟩ = some (.int .u64 y.t) := by rw [cell_of_row W px 5 _ _ (0, 0) h]; rfl
theorem Arow.prog {W W' : World} {px : Nat} {y : Ac} (h : Arow W px y) {B g : Nat} {s : Sh} (hs : Sw W B g s) (k : Kept (s.foot g) W W') : Arow W' px y := k.heap h (fun e => by
  obtain ⟨c, t, h2, ht⟩ := hs.kindd e
  rw [h] at h2
  simp at h2
  obtain ⟨_, rfl⟩ := h2
  rcases ht with h | h | h | h | h | h <;> exact absurd h (by decide))
theorem Arow.doc {W W' : World} {px : Nat} {y : Ac} (h : Arow W px y) {B g : Nat} {d : Ds} (hs : Dw W B g d) (k : Kept (d.foot g) W W') : Arow W' px y := k.heap h (fun e => by
  obtain ⟨c, t, h2, ht⟩ := hs.kindd e
  rw [h] at h2
  simp at h2
  obtain ⟨_, rfl⟩ := h2
  rcases ht with h | h | h | h <;> exact absurd h (by decide))

noncomputable def KDD : Code := Try.f14.body.getD .skip
theorem frKDD {a : Act} (h : Fr 62 a) : ∃ f : Nat → Value, a = ⟨#[f 0, f 1, f 2, f 3, f 4, f 5, f 6, f 7, f 8, f 9, f 10, f 11, f 12, f 13, f 14, f 15, f 16, f 17, f 18, f 19, f 20, f 21, f 22, f 23, f 24, f 25, f 26, f 27, f 28, f 29, f 30, f 31, f 32, f 33, f 34, f 35, f 36, f 37, f 38, f 39, f 40, f 41, f 42, f 43, f 44, f 45, f 46, f 47, f 48, f 49, f 50, f 51, f 52, f 53, f 54, f 55, f 56, f 57, f 58, f 59, f 60, f 61], []⟩ ∧ ∀ i, f i = sl a i := fr_any h

theorem k0 (w : World) (g g2 : Nat) (y : Ac) (a : Act) (hf : Fr 62 a) (h0 : sl a 0 = .pointer (some ⟨g, 0, none⟩)) (h1 : sl a 1 = .pointer (some ⟨g2, 0, none⟩)) (h2 : sl a 2 = .agg y.cs.toArray) :
    Code.wp Try.prog (cAt [0] KDD) (Exit.then (fun a' w' => ∃ px, Fr 62 a' ∧ sl a' 0 = .pointer (some ⟨g, 0, none⟩) ∧ sl a' 1 = .pointer (some ⟨g2, 0, none⟩) ∧ sl a' 5 = .pointer (some ⟨px, 0, none⟩) ∧ Below w.heap.size w w' ∧ Arow w' px y) Nope) a w := by
  obtain ⟨f, ha, hs⟩ := frKDD hf
  rw [(hs 0).trans h0, (hs 1).trans h1, (hs 2).trans h2] at ha
  clear hs hf h0 h1 h2
  subst ha
  refine piece2 fun J0 K0 hJ0 hK0 => ?_
  conv => arg 2; whnf
  obtain ⟨yd, yc, ⟨no, sz, xa, xn, xc, xd⟩, yt⟩ := y
  have H : Hid (Below w.heap.size w (w.alloc (.cells #[.int .i64 yd, .int .i64 yc, .int .u64 no, .int .i64 sz, .slice xa xn xc, .int .u64 yt] 42)) ∧ Arow (w.alloc (.cells #[.int .i64 yd, .int .i64 yc, .int .u64 no, .int .i64 sz, .slice xa xn xc, .int .u64 yt] 42)) w.heap.size ⟨yd, yc, ⟨no, sz, xa, xn, xc, xd⟩, yt⟩) := ⟨(Below.refl _ _).alloc (Nat.le_refl _) _, Blk_new w _ _⟩
  rw [show (Ac.cs ⟨yd, yc, ⟨no, sz, xa, xn, xc, xd⟩, yt⟩).toArray = #[.int .i64 yd, .int .i64 yc, .int .u64 no, .int .i64 sz, .slice xa xn xc, .int .u64 yt] from rfl]
  go_wp2_with fail
  refine Met.intro (hJ0 _ _ ?_)
  exact ⟨_, ⟨rfl, rfl⟩, rfl, rfl, rfl, H.out⟩

theorem k1 (wr : World) (g g2 px : Nat) (y : Ac) (HA : Hid (Arow wr px y)) (a : Act) (hf : Fr 62 a) (h0 : sl a 0 = .pointer (some ⟨g, 0, none⟩)) (h1 : sl a 1 = .pointer (some ⟨g2, 0, none⟩)) (h5 : sl a 5 = .pointer (some ⟨px, 0, none⟩)) :
    Code.wp Try.prog (cAt [1,0,0] KDD) (Exit.then (fun a' w' => Fr 62 a' ∧ sl a' 0 = .pointer (some ⟨g, 0, none⟩) ∧ sl a' 1 = .pointer (some ⟨g2, 0, none⟩) ∧ sl a' 5 = .pointer (some ⟨px, 0, none⟩) ∧ sl a' 10 = .int .i64 y.d ∧ wr = w') Nope) a wr := by
  obtain ⟨f, ha, hs⟩ := frKDD hf
  rw [(hs 0).trans h0, (hs 1).trans h1, (hs 5).trans h5] at ha
  clear hs hf h0 h1 h5
  subst ha
  refine piece2 fun J0 K0 hJ0 hK0 => ?_
  conv => arg 2; whnf
  have c0 := HA.out.c0
  go_wp2_with fail
  refine Met.intro (hJ0 _ _ ?_)
  exact ⟨⟨rfl, rfl⟩, rfl, rfl, rfl, rfl, rfl⟩

theorem k2 (wr : World) (g g2 px : Nat) (dd : Int) (a : Act) (hf : Fr 62 a) (h0 : sl a 0 = .pointer (some ⟨g, 0, none⟩)) (h1 : sl a 1 = .pointer (some ⟨g2, 0, none⟩)) (h5 : sl a 5 = .pointer (some ⟨px, 0, none⟩)) (h10 : sl a 10 = .int .i64 dd) :
    Code.wp Try.prog (cAt [1,0,1,2,0] KDD) (Exit.then (fun a' w' => Fr 62 a' ∧ sl a' 0 = .pointer (some ⟨g, 0, none⟩) ∧ sl a' 1 = .pointer (some ⟨g2, 0, none⟩) ∧ sl a' 5 = .pointer (some ⟨px, 0, none⟩) ∧ sl a' 10 = .int .i64 dd ∧ sl a' 11 = .bool (decide (dd = 0 ∨ dd = 1 ∨ dd = 2)) ∧ wr = w') Nope) a wr := by
  obtain ⟨f, ha, hs⟩ := frKDD hf
  rw [(hs 0).trans h0, (hs 1).trans h1, (hs 5).trans h5, (hs 10).trans h10] at ha
  clear hs hf h0 h1 h5 h10
  subst ha
  refine piece2 fun J0 K0 hJ0 hK0 => ?_
  conv => arg 2; whnf
  by_cases h0 : dd = 0
  · rw [decide_eq_true (show dd = 0 ∨ dd = 1 ∨ dd = 2 by omega)] at hJ0
    subst h0
    go_wp2_with fail
    refine Met.intro (hJ0 _ _ ?_)
    exact ⟨⟨rfl, rfl⟩, rfl, rfl, rfl, rfl, rfl, rfl⟩
  by_cases h1 : dd = 1
  · rw [decide_eq_true (show dd = 0 ∨ dd = 1 ∨ dd = 2 by omega)] at hJ0
    subst h1
    go_wp2_with fail
    refine Met.intro (hJ0 _ _ ?_)
    exact ⟨⟨rfl, rfl⟩, rfl, rfl, rfl, rfl, rfl, rfl⟩
  by_cases h2 : dd = 2
  · rw [decide_eq_true (show dd = 0 ∨ dd = 1 ∨ dd = 2 by omega)] at hJ0
    subst h2
    go_wp2_with fail
    refine Met.intro (hJ0 _ _ ?_)
    exact ⟨⟨rfl, rfl⟩, rfl, rfl, rfl, rfl, rfl, rfl⟩
  rw [decide_eq_false (show ¬ (dd = 0 ∨ dd = 1 ∨ dd = 2) by omega)] at hJ0
  have e0 : (dd == 0) = false := by simpa using h0
  have e1 : (dd == 1) = false := by simpa using h1
  have e2 : (dd == 2) = false := by simpa using h2
  go_wp2_with fail
  refine Met.intro (hJ0 _ _ ?_)
  exact ⟨⟨rfl, rfl⟩, rfl, rfl, rfl, rfl, rfl, rfl⟩

theorem k9 (wr : World) (g g2 px : Nat) (dd : Int) (a : Act) (hf : Fr 62 a) (h0 : sl a 0 = .pointer (some ⟨g, 0, none⟩)) (h1 : sl a 1 = .pointer (some ⟨g2, 0, none⟩)) (h5 : sl a 5 = .pointer (some ⟨px, 0, none⟩)) (h10 : sl a 10 = .int .i64 dd) :
    Code.wp Try.prog (cAt [1,0,1,2,1,4,0] KDD) (Exit.then (fun a' w' => Fr 62 a' ∧ sl a' 0 = .pointer (some ⟨g, 0, none⟩) ∧ sl a' 1 = .pointer (some ⟨g2, 0, none⟩) ∧ sl a' 5 = .pointer (some ⟨px, 0, none⟩) ∧ sl a' 10 = .int .i64 dd ∧ sl a' 43 = .bool (decide (dd = 3 ∨ dd = 4)) ∧ wr = w') Nope) a wr := by
  obtain ⟨f, ha, hs⟩ := frKDD hf
  rw [(hs 0).trans h0, (hs 1).trans h1, (hs 5).trans h5, (hs 10).trans h10] at ha
  clear hs hf h0 h1 h5 h10
  subst ha
  refine piece2 fun J0 K0 hJ0 hK0 => ?_
  conv => arg 2; whnf
  by_cases h3 : dd = 3
  · rw [decide_eq_true (show dd = 3 ∨ dd = 4 by omega)] at hJ0
    subst h3
    go_wp2_with fail
    refine Met.intro (hJ0 _ _ ?_)
    exact ⟨⟨rfl, rfl⟩, rfl, rfl, rfl, rfl, rfl, rfl⟩
  by_cases h4 : dd = 4
  · rw [decide_eq_true (show dd = 3 ∨ dd = 4 by omega)] at hJ0
    subst h4
    go_wp2_with fail
    refine Met.intro (hJ0 _ _ ?_)
    exact ⟨⟨rfl, rfl⟩, rfl, rfl, rfl, rfl, rfl, rfl⟩
  rw [decide_eq_false (show ¬ (dd = 3 ∨ dd = 4) by omega)] at hJ0
  have e3 : (dd == 3) = false := by simpa using h3
  have e4 : (dd == 4) = false := by simpa using h4
  go_wp2_with fail
  refine Met.intro (hJ0 _ _ ?_)
  exact ⟨⟨rfl, rfl⟩, rfl, rfl, rfl, rfl, rfl, rfl⟩

theorem k12 (wr : World) (g g2 px : Nat) (dd : Int) (a : Act) (hf : Fr 62 a) (h0 : sl a 0 = .pointer (some ⟨g, 0, none⟩)) (h1 : sl a 1 = .pointer (some ⟨g2, 0, none⟩)) (h5 : sl a 5 = .pointer (some ⟨px, 0, none⟩)) (h10 : sl a 10 = .int .i64 dd) :
    Code.wp Try.prog (cAt [1,0,1,2,1,4,1,4,0] KDD) (Exit.then (fun a' w' => Fr 62 a' ∧ sl a' 0 = .pointer (some ⟨g, 0, none⟩) ∧ sl a' 1 = .pointer (some ⟨g2, 0, none⟩) ∧ sl a' 5 = .pointer (some ⟨px, 0, none⟩) ∧ sl a' 10 = .int .i64 dd ∧ sl a' 55 = .bool (decide (dd = 5)) ∧ wr = w') Nope) a wr := by
  obtain ⟨f, ha, hs⟩ := frKDD hf
  rw [(hs 0).trans h0, (hs 1).trans h1, (hs 5).trans h5, (hs 10).trans h10] at ha
  clear hs hf h0 h1 h5 h10
  subst ha
  refine piece2 fun J0 K0 hJ0 hK0 => ?_
  conv => arg 2; whnf
  by_cases h5 : dd = 5
  · rw [decide_eq_true (show dd = 5 by omega)] at hJ0
    subst h5
    go_wp2_with fail
    refine Met.intro (hJ0 _ _ ?_)
    exact ⟨⟨rfl, rfl⟩, rfl, rfl, rfl, rfl, rfl, rfl⟩
  rw [decide_eq_false (show ¬ (dd = 5) by omega)] at hJ0
  have e5 : (dd == 5) = false := by simpa using h5
  go_wp2_with fail
  refine Met.intro (hJ0 _ _ ?_)
  exact ⟨⟨rfl, rfl⟩, rfl, rfl, rfl, rfl, rfl, rfl⟩

theorem kr1 (wr : World) (R : Ending → World → Prop) (HR : R (.returned (.bool true)) wr) (a : Act) (hf : Fr 62 a) (h6 : sl a 6 = .bool true) :
    Code.wp Try.prog (cAt [1,0,1,2,1,3,1,1,1,1] KDD) (RetsV Try.f14 R) a wr := by
  have H := Lib.hid HR
  clear HR
  obtain ⟨f, ha, hs⟩ := frKDD hf
  rw [(hs 6).trans h6] at ha
  clear hs hf h6
  subst ha
  conv => arg 2; whnf
  go_wp2_with fail
  refine ⟨rfl, ?_⟩
  go_ret
  exact H.out

theorem kr2 (wr : World) (R : Ending → World → Prop) (HR : R (.returned (.bool true)) wr) (a : Act) (hf : Fr 62 a) (h6 : sl a 6 = .bool true) :
    Code.wp Try.prog (cAt [1,0,1,2,1,4,1,3,1] KDD) (RetsV Try.f14 R) a wr := by
  have H := Lib.hid HR
  clear HR
  obtain ⟨f, ha, hs⟩ := frKDD hf
  rw [(hs 6).trans h6] at ha
  clear hs hf h6
  subst ha
  conv => arg 2; whnf
  go_wp2_with fail
  refine ⟨rfl, ?_⟩
  go_ret
  exact H.out

theorem kr3 (wr : World) (R : Ending → World → Prop) (HR : R (.returned (.bool true)) wr) (a : Act) (hf : Fr 62 a) (h6 : sl a 6 = .bool true) :
    Code.wp Try.prog (cAt [1,0,1,2,1,4,1,4,1,3,1] KDD) (RetsV Try.f14 R) a wr := by
  have H := Lib.hid HR
  clear HR
  obtain ⟨f, ha, hs⟩ := frKDD hf
  rw [(hs 6).trans h6] at ha
  clear hs hf h6
  subst ha
  conv => arg 2; whnf
  go_wp2_with fail
  refine ⟨rfl, ?_⟩
  go_ret
  exact H.out

theorem k14 (wr : World) (R : Ending → World → Prop) (HR : R (.returned (.bool true)) wr) (a : Act) (hf : Fr 62 a) :
    Code.wp Try.prog (cAt [1,1] KDD) (bodyPost Try.prog Try.f14 R) a wr := by
  have H := Lib.hid HR
  clear HR
  obtain ⟨f, ha, hs⟩ := frKDD hf
  clear hs hf 
  subst ha
  conv => arg 2; whnf
  go_wp2_with fail
  exact H.out

theorem k5 (wr : World) (g g2 px : Nat) (y : Ac) (HA : Hid (Arow wr px y)) (HY : Hid (y.x.at_ wr)) (a : Act) (hf : Fr 62 a) (h0 : sl a 0 = .pointer (some ⟨g, 0, none⟩)) (h1 : sl a 1 = .pointer (some ⟨g2, 0, none⟩)) (h5 : sl a 5 = .pointer (some ⟨px, 0, none⟩)) :
    Code.wp Try.prog (cAt [1,0,1,2,1,3,0] KDD) (Exit.then (fun a' w' => ∃ (bx : Nat) (da : Option Addr) (dc : Nat), Fr 62 a' ∧ sl a' 0 = .pointer (some ⟨g, 0, none⟩) ∧ sl a' 1 = .pointer (some ⟨g2, 0, none⟩) ∧ sl a' 5 = .pointer (some ⟨px, 0, none⟩) ∧ sl a' 7 = .pointer (some ⟨bx, 0, none⟩) ∧ Below wr.heap.size wr w' ∧ w'.heap[bx]? = some (.cells #[.int .u64 y.x.no, .int .i64 y.x.sz, .slice da y.x.n dc] 40 (0, 0)) ∧ Own w' wr.heap.size da y.x.n dc y.x.d ∧ wr.heap.size ≤ bx) Nope) a wr := by
  obtain ⟨f, ha, hs⟩ := frKDD hf
  rw [(hs 0).trans h0, (hs 1).trans h1, (hs 5).trans h5] at ha
  clear hs hf h0 h1 h5
  subst ha
  refine piece2 fun J0 K0 hJ0 hK0 => ?_
  conv => arg 2; whnf
  have HS : Hid (Arow wr.drew px y) := HA.out
  have H0 : Hid (Below wr.heap.size wr wr.drew) := (Below.refl _ _).drew
  have HOWN : Hid (∀ W, Below wr.heap.size wr W → Calls Try.prog 33 #[.slice y.x.a y.x.n y.x.c] W (Made W y.x.d)) := fun W hb => kOwn_any _ _ _ _ _ (HY.out.below hb).len (HY.out.below hb).rd (by have := HY.out.few; omega)
  have HLN : Hid (y.x.d.length = y.x.n) := HY.out.len
  go_wp2_with fail
  refine wp_region_held_drew (S := fun w' => Arow w' px y) (by kernel_rfl) HS.out (fun hS => ?_)
  refine tkD 0 15 (.pointer (some ⟨px, 2, none⟩)) (fun w' h' => ?_) hS ?_
  · go_simp
  refine tkD 1 16 (.pointer (some ⟨px, 2, none⟩)) (fun w' h' => ?_) hS ?_
  · go_simp
  try simp only [Act.put, List.setIfInBounds_toArray, List.set_cons_zero, List.set_cons_succ]
  refine tkD 2 17 (.int .u64 y.x.no) (fun w' h' => ?_) hS ?_
  · have c0 := h'.c2
    go_simp
  refine tkD 3 18 (.pointer (some ⟨px, 2, none⟩)) (fun w' h' => ?_) hS ?_
  · go_simp
  try simp only [Act.put, List.setIfInBounds_toArray, List.set_cons_zero, List.set_cons_succ]
  refine tkD 4 19 (.pointer (some ⟨px, 3, none⟩)) (fun w' h' => ?_) hS ?_
  · go_simp
  refine tkD 5 20 (.int .i64 y.x.sz) (fun w' h' => ?_) hS ?_
  · have c0 := h'.c3
    go_simp
  try simp only [Act.put, List.setIfInBounds_toArray, List.set_cons_zero, List.set_cons_succ]
  refine tkD 6 21 (.pointer (some ⟨px, 2, none⟩)) (fun w' h' => ?_) hS ?_
  · go_simp
  refine tkD 7 22 (.pointer (some ⟨px, 4, none⟩)) (fun w' h' => ?_) hS ?_
  · go_simp
  try simp only [Act.put, List.setIfInBounds_toArray, List.set_cons_zero, List.set_cons_succ]
  refine tkD 8 23 (.slice y.x.a y.x.n y.x.c) (fun w' h' => ?_) hS ?_
  · have c0 := h'.c4
    go_simp
  try simp only [Act.put, List.setIfInBounds_toArray, List.set_cons_zero, List.set_cons_succ]
  refine wpAnyH_ready (rs := [9, 11]) (by kernel_rfl) (by simp) (AllReadyH.cons rfl (fun K hK => ?_) (AllReadyH.cons rfl (fun K hK => ?_) AllReadyH.nil))
  · rw [if_pos (by rfl)]
    go_wp2_with fail
    refine (HOWN.out _ H0.out).mono ?_
    rintro e w1 ⟨da, m, dc, rfl, ho, hb⟩
    have hm : m = y.x.n := by rw [← ho.len]; exact HLN.out
    subst hm
    have H1 : Hid (Below wr.heap.size wr w1) := H0.out.trans (hb.mono H0.out.size)
    have HO1 : Hid (Own w1 wr.heap.size da y.x.n dc y.x.d) := ho.mono H0.out.size
    clear hb ho
    clear hS
    refine hK.out _ _ (HA.out.past H1.out) (fun hS => ?_)
    clear hK K
    refine tkD 10 25 (.agg #[.int .u64 y.x.no, .int .i64 y.x.sz, .slice da y.x.n dc]) (fun w' h' => ?_) hS ?_
    · go_simp
    try simp only [Act.put, List.setIfInBounds_toArray, List.set_cons_zero, List.set_cons_succ]
    refine wpAnyH_ready (rs := [11]) (by kernel_rfl) (by simp) (AllReadyH.cons rfl (fun K hK => ?_) AllReadyH.nil)
    rw [if_pos (by rfl)]
    have HB : Hid (Below wr.heap.size wr (w1.alloc (.cells #[.int .u64 0, .int .i64 0, .slice none 0 0] 40))) := H1.out.trans (((Below.refl w1.heap.size w1).alloc (Nat.le_refl _) _).mono H1.out.size)
    have HZ2 : Hid ((w1.alloc (.cells #[.int .u64 0, .int .i64 0, .slice none 0 0] 40)).heap[w1.heap.size]? = some (.cells #[.int .u64 0, .int .i64 0, .slice none 0 0] 40 (0, 0))) := Blk_new w1 _ _
    have HO2 : Hid (Own (w1.alloc (.cells #[.int .u64 0, .int .i64 0, .slice none 0 0] 40)) wr.heap.size da y.x.n dc y.x.d) := HO1.out.keep (S := fun _ => False) (Kept.of_below ((Below.refl w1.heap.size w1).alloc (Nat.le_refl _) _) (fun i hi hi' => by omega)) (fun _ _ => id)
    go_wp2_with fail
    obtain ⟨w2, hw⟩ : ∃ z, w1.alloc (.cells #[.int .u64 0, .int .i64 0, .slice none 0 0] 40) = z := ⟨_, rfl⟩
    first | rw [hw] | (change K _ (w1.alloc (.cells #[.int .u64 0, .int .i64 0, .slice none 0 0] 40)); rw [hw])
    rw [hw] at HB HZ2 HO2
    obtain ⟨bx, hp⟩ : ∃ z, w1.heap.size = z := ⟨_, rfl⟩
    rw [hp] at HZ2
    first | rw [hp] | skip
    have HL : Hid (wr.heap.size ≤ bx) := by
      show _ ≤ _
      have := H1.out.size
      omega
    have H2 : Hid (Below wr.heap.size wr w2) := HB.out
    clear hw hp HB
    clear hS
    refine hK.out _ _ (HA.out.past H2.out) (fun hS => ?_)
    clear hK K
    try simp only [Act.put, List.setIfInBounds_toArray, List.set_cons_zero, List.set_cons_succ]
    refine wpAnyH_ready (rs := [12]) (by kernel_rfl) (by simp) (AllReadyH.cons rfl (fun K hK => ?_) AllReadyH.nil)
    rw [if_pos (by rfl)]
    refine wp_store_mid 40 (.tmp 7) (.tmp 25) rfl bx 0 #[.int .u64 y.x.no, .int .i64 y.x.sz, .slice da y.x.n dc] rfl rfl (row_there HZ2.out (by simp)) infFI3 (by simp [Value.oneCell']) ?_
    change K _ (w2.setCells bx 0 [.int .u64 y.x.no, .int .i64 y.x.sz, .slice da y.x.n dc])
    have hr4 := row3_set HZ2.out (.int .u64 y.x.no) (.int .i64 y.x.sz) (.slice da y.x.n dc)
    have hk4 : Kept (fun i => i = bx) w2 (w2.setCells bx 0 [.int .u64 y.x.no, .int .i64 y.x.sz, .slice da y.x.n dc]) := Kept.setCells (S := fun i => i = bx) bx rfl _ _ (Kept.refl _ _)
    obtain ⟨w9, hw⟩ : ∃ z, w2.setCells bx 0 [.int .u64 y.x.no, .int .i64 y.x.sz, .slice da y.x.n dc] = z := ⟨_, rfl⟩
    rw [hw] at hk4 hr4 ⊢
    have hb4 : Below wr.heap.size wr w9 := H2.out.trans (hk4.below H2.out.size (fun i e => by have := HL.out; omega))
    have H9 : Hid (Below wr.heap.size wr w9 ∧ w9.heap[bx]? = some (.cells #[.int .u64 y.x.no, .int .i64 y.x.sz, .slice da y.x.n dc] 40 (0, 0)) ∧ Own w9 wr.heap.size da y.x.n dc y.x.d ∧ wr.heap.size ≤ bx) := ⟨hb4, hr4, HO2.out.keep hk4 (fun b hb e => by
      obtain ⟨c1, h1⟩ := HO2.out.kind hb
      rw [e, HZ2.out] at h1
      simp at h1), HL.out⟩
    clear hr4 hk4 hb4 hw
    clear hS
    refine hK.out _ _ (HA.out.past H9.out.1) (fun hS => ?_)
    clear hK K
    refine wpAnyH_done (by kernel_rfl) ?_ _
    go_wp2_with fail
    refine Met.intro (hJ0 _ _ ?_)
    exact ⟨bx, da, dc, ⟨rfl, rfl⟩, rfl, rfl, rfl, rfl, H9.out⟩
  · rw [if_pos (by rfl)]
    have HB : Hid (Below wr.heap.size wr (wr.drew.alloc (.cells #[.int .u64 0, .int .i64 0, .slice none 0 0] 40))) := H0.out.trans (((Below.refl wr.drew.heap.size wr.drew).alloc (Nat.le_refl _) _).mono H0.out.size)
    have HZ1 : Hid ((wr.drew.alloc (.cells #[.int .u64 0, .int .i64 0, .slice none 0 0] 40)).heap[wr.heap.size]? = some (.cells #[.int .u64 0, .int .i64 0, .slice none 0 0] 40 (0, 0))) := Blk_new wr.drew _ _
    go_wp2_with fail
    obtain ⟨w1, hw⟩ : ∃ z, wr.drew.alloc (.cells #[.int .u64 0, .int .i64 0, .slice none 0 0] 40) = z := ⟨_, rfl⟩
    first | rw [hw] | (change K _ (wr.drew.alloc (.cells #[.int .u64 0, .int .i64 0, .slice none 0 0] 40)); rw [hw])
    rw [hw] at HB HZ1
    obtain ⟨bx, hp⟩ : ∃ z, wr.heap.size = z := ⟨_, rfl⟩
    rw [hp] at HZ1
    first | rw [hp] | skip
    have HL : Hid (wr.heap.size ≤ bx) := by
      show _ ≤ _
      have := H0.out.size
      omega
    have H1 : Hid (Below wr.heap.size wr w1) := HB.out
    clear hw hp HB
    clear hS
    refine hK.out _ _ (HA.out.past H1.out) (fun hS => ?_)
    clear hK K
    try simp only [Act.put, List.setIfInBounds_toArray, List.set_cons_zero, List.set_cons_succ]
    refine wpAnyH_ready (rs := [9]) (by kernel_rfl) (by simp) (AllReadyH.cons rfl (fun K hK => ?_) AllReadyH.nil)
    rw [if_pos (by rfl)]
    go_wp2_with fail
    refine (HOWN.out _ H1.out).mono ?_
    rintro e w2 ⟨da, m, dc, rfl, ho, hb⟩
    have hm : m = y.x.n := by rw [← ho.len]; exact HLN.out
    subst hm
    have H2 : Hid (Below wr.heap.size wr w2) := H1.out.trans (hb.mono H1.out.size)
    have HO2 : Hid (Own w2 wr.heap.size da y.x.n dc y.x.d) := ho.mono H1.out.size
    have HZ2 : Hid (w2.heap[bx]? = some (.cells #[.int .u64 0, .int .i64 0, .slice none 0 0] 40 (0, 0))) := (hb.block _ (Array.getElem?_eq_some_iff.1 HZ1.out).1).trans HZ1.out
    clear hb ho
    clear hS
    refine hK.out _ _ (HA.out.past H2.out) (fun hS => ?_)
    clear hK K
    refine tkD 10 25 (.agg #[.int .u64 y.x.no, .int .i64 y.x.sz, .slice da y.x.n dc]) (fun w' h' => ?_) hS ?_
    · go_simp
    try simp only [Act.put, List.setIfInBounds_toArray, List.set_cons_zero, List.set_cons_succ]
    refine wpAnyH_ready (rs := [12]) (by kernel_rfl) (by simp) (AllReadyH.cons rfl (fun K hK => ?_) AllReadyH.nil)
    rw [if_pos (by rfl)]
    refine wp_store_mid 40 (.tmp 7) (.tmp 25) rfl bx 0 #[.int .u64 y.x.no, .int .i64 y.x.sz, .slice da y.x.n dc] rfl rfl (row_there HZ2.out (by simp)) infFI3 (by simp [Value.oneCell']) ?_
    change K _ (w2.setCells bx 0 [.int .u64 y.x.no, .int .i64 y.x.sz, .slice da y.x.n dc])
    have hr4 := row3_set HZ2.out (.int .u64 y.x.no) (.int .i64 y.x.sz) (.slice da y.x.n dc)
    have hk4 : Kept (fun i => i = bx) w2 (w2.setCells bx 0 [.int .u64 y.x.no, .int .i64 y.x.sz, .slice da y.x.n dc]) := Kept.setCells (S := fun i => i = bx) bx rfl _ _ (Kept.refl _ _)
    obtain ⟨w9, hw⟩ : ∃ z, w2.setCells bx 0 [.int .u64 y.x.no, .int .i64 y.x.sz, .slice da y.x.n dc] = z := ⟨_, rfl⟩
    rw [hw] at hk4 hr4 ⊢
    have hb4 : Below wr.heap.size wr w9 := H2.out.trans (hk4.below H2.out.size (fun i e => by have := HL.out; omega))
    have H9 : Hid (Below wr.heap.size wr w9 ∧ w9.heap[bx]? = some (.cells #[.int .u64 y.x.no, .int .i64 y.x.sz, .slice da y.x.n dc] 40 (0, 0)) ∧ Own w9 wr.heap.size da y.x.n dc y.x.d ∧ wr.heap.size ≤ bx) := ⟨hb4, hr4, HO2.out.keep hk4 (fun b hb e => by
      obtain ⟨c1, h1⟩ := HO2.out.kind hb
      rw [e, HZ2.out] at h1
      simp at h1), HL.out⟩
    clear hr4 hk4 hb4 hw
    clear hS
    refine hK.out _ _ (HA.out.past H9.out.1) (fun hS => ?_)
    clear hK K
    refine wpAnyH_done (by kernel_rfl) ?_ _
    go_wp2_with fail
    refine Met.intro (hJ0 _ _ ?_)
    exact ⟨bx, da, dc, ⟨rfl, rfl⟩, rfl, rfl, rfl, rfl, H9.out⟩

theorem k6 (w wr : World) (g g2 px bx : Nat) (s : Sh) (N : Int) (d : Ds) (y : Ac) (da : Option Addr) (dc B : Nat) (HP : Hid (Pm w wr g s N g2 d)) (HA : Hid (Arow wr px y)) (HB : Hid (wr.heap[bx]? = some (.cells #[.int .u64 y.x.no, .int .i64 y.x.sz, .slice da y.x.n dc] 40 (0, 0)))) (HO : Hid (Own wr B da y.x.n dc y.x.d)) (HF : Hid (∀ k, s.foot g k → k < B)) (HBX : Hid (B ≤ bx ∧ w.heap.size ≤ B)) (hbyt : Byt y.x.d) (hn20 : y.x.n ≤ 20) (hN : N < 18446744073709551615) (a : Act) (hf : Fr 62 a) (h0 : sl a 0 = .pointer (some ⟨g, 0, none⟩)) (h1 : sl a 1 = .pointer (some ⟨g2, 0, none⟩)) (h5 : sl a 5 = .pointer (some ⟨px, 0, none⟩)) (h7 : sl a 7 = .pointer (some ⟨bx, 0, none⟩)) :
    Code.wp Try.prog (cAt [1,0,1,2,1,3,1,0] KDD) (Exit.then (fun a' w' => ∃ (s' : Sh), Fr 62 a' ∧ sl a' 0 = .pointer (some ⟨g, 0, none⟩) ∧ sl a' 1 = .pointer (some ⟨g2, 0, none⟩) ∧ sl a' 5 = .pointer (some ⟨px, 0, none⟩) ∧ sl a' 7 = .pointer (some ⟨bx, 0, none⟩) ∧ sl a' 8 = .int .i64 (offC s.abs y.c y.x.it) ∧ Pm w w' g s' (N + 1) g2 d ∧ s'.T = s.T ∧ s'.n = s.n ∧ s'.abs = offL s.abs y.c y.x.it ∧ Arow w' px y ∧ w'.heap[bx]? = some (.cells #[.int .u64 y.x.no, .int .i64 y.x.sz, .slice da y.x.n dc] 40 (0, 0)) ∧ Own w' B da y.x.n dc y.x.d ∧ (∀ b, blk da = some b → ¬ s'.foot g b)) Nope) a wr := by
  obtain ⟨f, ha, hs⟩ := frKDD hf
  rw [(hs 0).trans h0, (hs 1).trans h1, (hs 5).trans h5, (hs 7).trans h7] at ha
  clear hs hf h0 h1 h5 h7
  subst ha
  refine piece2 fun J0 K0 hJ0 hK0 => ?_
  conv => arg 2; whnf
  have c1 := HA.out.c1
  have b0 := q3_0 HB.out
  have b1 := q3_1 HB.out
  have b2 := q3_2 HB.out
  have HAT : Hid (Pi.at_ ⟨y.x.no, y.x.sz, da, y.x.n, dc, y.x.d⟩ wr) := ⟨HO.out.len, HO.out.rd, hbyt, by show y.x.n ≤ _; omega⟩
  have hcall := lvOffer HP.out.lv hN y.c ⟨y.x.no, y.x.sz, da, y.x.n, dc, y.x.d⟩ HAT.out (fun _ b hb e => by have := (HO.out.blk_ge b hb).1; have := HF.out b e; omega)
  have HCALL : Hid (Calls Try.prog 17 #[.pointer (some ⟨g, 0, none⟩), .int .i64 y.c, .agg #[.int .u64 y.x.no, .int .i64 y.x.sz, .slice da y.x.n dc]] wr fun e W' => e = .returned (.int .i64 (offC s.abs y.c y.x.it)) ∧ ∃ s', Lv w W' g s' (N + 1) ∧ s'.T = s.T ∧ s'.n = s.n ∧ s'.abs = offL s.abs y.c y.x.it ∧ Kept (s.foot g) wr W' ∧ ∀ k, s'.foot g k → s.foot g k ∨ wr.heap.size ≤ k) := hcall
  clear hcall hbyt hn20 hN
  go_wp2_with fail
  refine HCALL.out.mono ?_
  rintro e w1 ⟨rfl, s', hlv, hT, hn, hab, hk, hfoot⟩
  have hndf : ∀ b, blk da = some b → ¬ s.foot g b := fun b hb e => by have := (HO.out.blk_ge b hb).1; have := HF.out b e; omega
  have H1 : Hid (Pm w w1 g s' (N + 1) g2 d ∧ s'.T = s.T ∧ s'.n = s.n ∧ s'.abs = offL s.abs y.c y.x.it ∧ Arow w1 px y ∧ w1.heap[bx]? = some (.cells #[.int .u64 y.x.no, .int .i64 y.x.sz, .slice da y.x.n dc] 40 (0, 0)) ∧ Own w1 B da y.x.n dc y.x.d ∧ (∀ b, blk da = some b → ¬ s'.foot g b)) :=
    ⟨HP.out.prog hlv hk, hT, hn, hab, HA.out.prog HP.out.lv.sw hk, hk.heap HB.out (fun e => by have := HF.out bx e; have := HBX.out.1; omega), HO.out.keep hk hndf, fun b hb e => (hfoot b e).elim (hndf b hb) (fun hge => by have := (HO.out.blk_ge b hb).2; omega)⟩
  obtain ⟨ce, hce⟩ : ∃ z, offC s.abs y.c y.x.it = z := ⟨_, rfl⟩
  rw [hce] at hJ0 ⊢
  clear hlv hT hn hab hk hfoot hndf
  go_wp2_with fail
  refine Met.intro (hJ0 _ _ ?_)
  exact ⟨s', ⟨rfl, rfl⟩, rfl, rfl, rfl, rfl, rfl, H1.out⟩

theorem k7 (w wr : World) (g g2 px bx : Nat) (s : Sh) (N : Int) (d : Ds) (y : Ac) (da : Option Addr) (dc B : Nat) (HP : Hid (Pm w wr g s N g2 d)) (HA : Hid (Arow wr px y)) (HB : Hid (wr.heap[bx]? = some (.cells #[.int .u64 y.x.no, .int .i64 y.x.sz, .slice da y.x.n dc] 40 (0, 0)))) (HO : Hid (Own wr B da y.x.n dc y.x.d)) (ce : Int) (HD : Hid (∀ b, blk da = some b → ¬ s.foot g b)) (hwB : w.heap.size ≤ B) (hn20 : y.x.n ≤ 20) (a : Act) (hf : Fr 62 a) (h0 : sl a 0 = .pointer (some ⟨g, 0, none⟩)) (h1 : sl a 1 = .pointer (some ⟨g2, 0, none⟩)) (h5 : sl a 5 = .pointer (some ⟨px, 0, none⟩)) (h7 : sl a 7 = .pointer (some ⟨bx, 0, none⟩)) (h8 : sl a 8 = .int .i64 ce) :
    Code.wp Try.prog (cAt [1,0,1,2,1,3,1,1,0] KDD) (Exit.then (fun a' w' => Fr 62 a' ∧ sl a' 0 = .pointer (some ⟨g, 0, none⟩) ∧ sl a' 1 = .pointer (some ⟨g2, 0, none⟩) ∧ sl a' 5 = .pointer (some ⟨px, 0, none⟩) ∧ sl a' 8 = .int .i64 ce ∧ Pm w w' g s N g2 d ∧ Arow w' px y) Nope) a wr := by
  obtain ⟨f, ha, hs⟩ := frKDD hf
  rw [(hs 0).trans h0, (hs 1).trans h1, (hs 5).trans h5, (hs 7).trans h7, (hs 8).trans h8] at ha
  clear hs hf h0 h1 h5 h7 h8
  subst ha
  refine piece2 fun J0 K0 hJ0 hK0 => ?_
  conv => arg 2; whnf
  have b2 := q3_2 HB.out
  have HWB := Lib.hid hwB
  have HC : Hid (Calls Try.prog 32 #[.slice da y.x.n dc] wr (fun e w' => e = .returned (.tuple #[]) ∧ Inc wr B da y.x.n dc w')) := kSpoil_any B da y.x.n dc y.x.d wr HO.out (by omega)
  clear hwB hn20
  go_wp2_with fail
  refine HC.out.mono ?_
  rintro e w1 ⟨rfl, hin⟩
  have H1 : Hid (Pm w w1 g s N g2 d ∧ Arow w1 px y) := by
    refine ⟨HP.out.inc HO.out HWB.out HD.out hin, ?_⟩
    obtain ⟨zs, _, k⟩ := hin
    exact k.heap HA.out (fun e => by
      obtain ⟨c2, h2⟩ := HO.out.kind e
      rw [HA.out] at h2
      simp at h2)
  clear hin
  go_wp2_with fail
  refine Met.intro (hJ0 _ _ ?_)
  exact ⟨⟨rfl, rfl⟩, rfl, rfl, rfl, rfl, H1.out⟩

theorem k8 (w wr : World) (g g2 px : Nat) (s : Sh) (N : Int) (d : Ds) (y : Ac) (HP : Hid (Pm w wr g s N g2 d)) (HA : Hid (Arow wr px y)) (ce : Int) (HCE : Hid (offC d.abs y.c y.x.it = ce)) (HY : Hid (y.x.at_ wr)) (hok : ∀ x ∈ d.ls, x.ab.A.ok) (hn8 : d.n ≤ 8) (a : Act) (hf : Fr 62 a) (h0 : sl a 0 = .pointer (some ⟨g, 0, none⟩)) (h1 : sl a 1 = .pointer (some ⟨g2, 0, none⟩)) (h5 : sl a 5 = .pointer (some ⟨px, 0, none⟩)) (h8 : sl a 8 = .int .i64 ce) :
    Code.wp Try.prog (cAt [1,0,1,2,1,3,1,1,1,0] KDD) (Exit.then (fun a' w' => ∃ (ls : List Dl), Fr 62 a' ∧ sl a' 6 = .bool true ∧ Pm w w' g s N g2 { d with ls := ls } ∧ ls.map Dl.ab = offL d.abs y.c y.x.it) Nope) a wr := by
  obtain ⟨f, ha, hs⟩ := frKDD hf
  rw [(hs 0).trans h0, (hs 1).trans h1, (hs 5).trans h5, (hs 8).trans h8] at ha
  clear hs hf h0 h1 h5 h8
  subst ha
  refine piece2 fun J0 K0 hJ0 hK0 => ?_
  conv => arg 2; whnf
  have HS : Hid (Arow wr.drew px y) := HA.out
  have H0 : Hid (Below wr.heap.size wr wr.drew) := (Below.refl _ _).drew
  have HIT : Hid (∀ W, Below wr.heap.size wr W → Calls Try.prog 23 #[.agg #[.int .u64 y.x.no, .int .i64 y.x.sz, .slice y.x.a y.x.n y.x.c]] W (Gives W y.x.it.v)) := fun W hb => item_any y.x W (HY.out.below hb)
  have HOK := Lib.hid hok
  have HN8 := Lib.hid hn8
  clear hok hn8
  obtain ⟨T, hT⟩ : ∃ z, y.x.it.v = z := ⟨_, rfl⟩
  have HOFF : Hid (∀ W, Below wr.heap.size wr W → Calls Try.prog 34 #[.pointer (some ⟨g2, 0, none⟩), .int .i64 y.c, T] W (DOffR W w.heap.size g2 d y.c y.x.it)) := fun W hb => by
    rw [← hT]
    exact dOffer_any w.heap.size g2 d y.c y.x.it W (HP.out.dw.below hb) HN8.out HOK.out
  rw [hT] at HIT
  clear hT
  go_wp2_with fail
  refine wp_region_held_drew (S := fun w' => Arow w' px y) (by kernel_rfl) HS.out (fun hS => ?_)
  refine tkD 0 34 (.int .i64 ce) (fun w' h' => ?_) hS ?_
  · go_simp
  refine tkD 1 35 (.pointer (some ⟨g2, 0, none⟩)) (fun w' h' => ?_) hS ?_
  · go_simp
  try simp only [Act.put, List.setIfInBounds_toArray, List.set_cons_zero, List.set_cons_succ]
  refine tkD 2 36 (.pointer (some ⟨px, 1, none⟩)) (fun w' h' => ?_) hS ?_
  · go_simp
  refine tkD 3 37 (.int .i64 y.c) (fun w' h' => ?_) hS ?_
  · have c0 := h'.c1
    go_simp
  try simp only [Act.put, List.setIfInBounds_toArray, List.set_cons_zero, List.set_cons_succ]
  refine tkD 4 38 (.pointer (some ⟨px, 2, none⟩)) (fun w' h' => ?_) hS ?_
  · go_simp
  refine tkD 5 39 (.agg #[.int .u64 y.x.no, .int .i64 y.x.sz, .slice y.x.a y.x.n y.x.c]) (fun w' h' => ?_) hS ?_
  · have c0 := h'.c2
    have c1 := h'.c3
    have c2 := h'.c4
    go_simp
  try simp only [Act.put, List.setIfInBounds_toArray, List.set_cons_zero, List.set_cons_succ]
  refine wpAnyH_ready (rs := [6]) (by kernel_rfl) (by simp) (AllReadyH.cons rfl (fun K hK => ?_) AllReadyH.nil)
  rw [if_pos (by rfl)]
  go_wp2_with fail
  refine (HIT.out _ H0.out).mono ?_
  rintro e w1 ⟨rfl, hb1⟩
  have H1 : Hid (Below wr.heap.size wr w1) := H0.out.trans (hb1.mono H0.out.size)
  clear hb1
  clear hS
  refine hK.out _ _ (HA.out.past H1.out) (fun hS => ?_)
  clear hK K
  try simp only [Act.put, List.setIfInBounds_toArray, List.set_cons_zero, List.set_cons_succ]
  refine wpAnyH_ready (rs := [7]) (by kernel_rfl) (by simp) (AllReadyH.cons rfl (fun K hK => ?_) AllReadyH.nil)
  rw [if_pos (by rfl)]
  go_wp2_with fail
  refine (HOFF.out _ H1.out).mono ?_
  rintro e w2 ⟨rfl, ls, hdw, hab, hk⟩
  rw [HCE.out]
  have H2 : Hid (Pm w w2 g s N g2 { d with ls := ls } ∧ ls.map Dl.ab = offL d.abs y.c y.x.it ∧ Arow w2 px y) := ⟨(HP.out.past H1.out).doc hdw hk, hab, (HA.out.past H1.out).doc (HP.out.dw.below H1.out) hk⟩
  clear hdw hab hk
  clear hS
  refine hK.out _ _ (H2.out.2.2) (fun hS => ?_)
  clear hK K
  refine tkD 8 42 (.bool true) (fun w' h' => ?_) hS ?_
  · go_simp
  try simp only [Act.put, List.setIfInBounds_toArray, List.set_cons_zero, List.set_cons_succ]
  refine tkD 9 6 (.bool true) (fun w' h' => ?_) hS ?_
  · go_simp
  refine wpAnyH_done (by kernel_rfl) ?_ _
  go_wp2_with fail
  refine Met.intro (hJ0 _ _ ?_)
  exact ⟨ls, ⟨rfl, rfl⟩, rfl, H2.out.1, H2.out.2.1⟩

theorem relF_lenD (tick : Int) : ∀ (n : Nat) (T : Int) (ls : List Ab), (relF tick n T ls).2.length ≤ n
  | 0, _, _ => Nat.le_refl _
  | n + 1, T, ls => by
    rw [relF]
    split
    · have := relF_lenD tick n (nx T ls).t (ls.set (nx T ls).c ((ls.getD (nx T ls).c az).send (nx T ls).t))
      simp only [List.length_cons]
      omega
    · simp

theorem k11 (w wr : World) (g g2 px : Nat) (s : Sh) (N : Int) (d : Ds) (y : Ac) (HP : Hid (Pj w wr g s N g2 d)) (HA : Hid (Arow wr px y)) (HTOT : Hid (tot d.abs ≤ 524288)) (ht1 : y.t ≤ 18446744073709551615) (hN : N < 18446744073709551615) (a : Act) (hf : Fr 62 a) (h0 : sl a 0 = .pointer (some ⟨g, 0, none⟩)) (h1 : sl a 1 = .pointer (some ⟨g2, 0, none⟩)) (h5 : sl a 5 = .pointer (some ⟨px, 0, none⟩)) :
    Code.wp Try.prog (cAt [1,0,1,2,1,4,1,3,0] KDD) (Exit.then (fun a' w' => ∃ (s' : Sh) (ls : List Dl), Fr 62 a' ∧ sl a' 6 = .bool true ∧ Pm w w' g s' N g2 { d with T := max y.t d.T, ls := ls } ∧ s'.T = max y.t s.T ∧ s'.n = s.n ∧ s'.abs = (rel (max y.t s.T) s.T s.abs).1 ∧ ls.map Dl.ab = (rel (max y.t d.T) d.T d.abs).1) Nope) a wr := by
  obtain ⟨f, ha, hs⟩ := frKDD hf
  rw [(hs 0).trans h0, (hs 1).trans h1, (hs 5).trans h5] at ha
  clear hs hf h0 h1 h5
  subst ha
  refine piece2 fun J0 K0 hJ0 hK0 => ?_
  conv => arg 2; whnf
  have HS : Hid (Arow wr.drew px y) := HA.out
  have hd0 : Below wr.heap.size wr wr.drew := (Below.refl _ _).drew
  have H0 := Lib.hid (HP.out.past hd0)
  have HT1 : Hid (y.t ≤ 18446744073709551615 ∧ N < 18446744073709551615) := ⟨ht1, hN⟩
  clear ht1 hN hd0
  go_wp2_with fail
  refine wp_region_held_drew (S := fun w' => Arow w' px y) (by kernel_rfl) HS.out (fun hS => ?_)
  refine tkD 0 46 (.pointer (some ⟨g, 0, none⟩)) (fun w' h' => ?_) hS ?_
  · go_simp
  refine tkD 1 47 (.pointer (some ⟨px, 5, none⟩)) (fun w' h' => ?_) hS ?_
  · go_simp
  try simp only [Act.put, List.setIfInBounds_toArray, List.set_cons_zero, List.set_cons_succ]
  refine tkD 2 48 (.int .u64 y.t) (fun w' h' => ?_) hS ?_
  · have c0 := h'.c5
    go_simp
  refine tkD 4 50 (.pointer (some ⟨g2, 0, none⟩)) (fun w' h' => ?_) hS ?_
  · go_simp
  try simp only [Act.put, List.setIfInBounds_toArray, List.set_cons_zero, List.set_cons_succ]
  refine tkD 5 51 (.pointer (some ⟨px, 5, none⟩)) (fun w' h' => ?_) hS ?_
  · go_simp
  refine tkD 6 52 (.int .u64 y.t) (fun w' h' => ?_) hS ?_
  · have c0 := h'.c5
    go_simp
  try simp only [Act.put, List.setIfInBounds_toArray, List.set_cons_zero, List.set_cons_succ]
  refine wpAnyH_ready (rs := [3]) (by kernel_rfl) (by simp) (AllReadyH.cons rfl (fun K hK => ?_) AllReadyH.nil)
  rw [if_pos (by rfl)]
  go_wp2_with fail
  refine (lvRelease H0.out.pm.lv HT1.out.2 y.t HT1.out.1).mono ?_
  rintro e w1 ⟨v, n, cap, ys, s', rfl, hops, hot, hlv, hT, hn, hab, hk, hfoot⟩
  have H1 : Hid (Pm w w1 g s' N g2 d ∧ Ops w1 wr.heap.size v n cap ys ∧ ys.map Po.ot = (rel (max y.t s.T) s.T s.abs).2 ∧ s'.T = max y.t s.T ∧ s'.n = s.n ∧ s'.abs = (rel (max y.t s.T) s.T s.abs).1 ∧ Arow w1 px y ∧ (∀ k, s'.foot g k → k < wr.heap.size) ∧ wr.heap.size ≤ w1.heap.size) :=
    ⟨H0.out.pm.prog hlv hk, hops, hot, hT, hn, hab, HS.out.prog H0.out.pm.lv.sw hk, fun k hk2 => (H0.out.pm.lv.sw.foot_lt (hfoot k hk2)).2, hk.size⟩
  clear hops hot hlv hT hn hab hk hfoot
  clear hS
  refine hK.out _ _ (H1.out.2.2.2.2.2.2.1) (fun hS => ?_)
  clear hK K
  try simp only [Act.put, List.setIfInBounds_toArray, List.set_cons_zero, List.set_cons_succ]
  refine wpAnyH_ready (rs := [7]) (by kernel_rfl) (by simp) (AllReadyH.cons rfl (fun K hK => ?_) AllReadyH.nil)
  rw [if_pos (by rfl)]
  go_wp2_with fail
  refine (dRelease_any w.heap.size g2 d y.t w1 H1.out.1.dw HP.out.n8 (HP.out.oks HT1.out.2) (by have := HP.out.n; have := HP.out.pm.lv.n1; omega) H1.out.1.lv.below.size HT1.out.1 HTOT.out).mono ?_
  rintro e w2 ⟨v2, n2, c2, ls, rfl, hown, hdw, hab, hk⟩
  have hops2 : Ops w2 wr.heap.size v n cap ys := H1.out.2.1.keep hk (fun i hi _ => by
    obtain ⟨c, t, hc, ht⟩ := H1.out.1.dw.kindd hi
    exact ⟨c, t, hc, by rcases ht with rfl | rfl | rfl | rfl <;> decide, by rcases ht with rfl | rfl | rfl | rfl <;> decide⟩)
  have hos : (rel (max y.t d.T) d.T d.abs).2 = ys.map Po.ot := by rw [H1.out.2.2.1, HP.out.T, HP.out.ab]
  rw [hos] at hown
  have hn2 : n2 = n := by
    have h1 := hown.flat Ot.len (by decide)
    have h2 := H1.out.2.1.row.flat Po.len (by decide)
    rw [List.length_map] at h1
    omega
  subst hn2
  have hlim : n2 ≤ 1000000 := by
    have h1 := H1.out.2.1.row.flat Po.len (by decide)
    have h2 := congrArg List.length H1.out.2.2.1
    rw [List.length_map] at h2
    have h3 := relF_lenD (max y.t s.T) (tot s.abs) s.T s.abs
    have h4 := HTOT.out
    rw [HP.out.ab] at h4
    have h5 : (rel (max y.t s.T) s.T s.abs).2.length = (relF (max y.t s.T) (tot s.abs) s.T s.abs).2.length := rfl
    omega
  have H2 : Hid (Pm w w2 g s' N g2 { d with T := max y.t d.T, ls := ls } ∧ ls.map Dl.ab = (rel (max y.t d.T) d.T d.abs).1 ∧ Arow w2 px y) := ⟨H1.out.1.doc hdw hk, hab, H1.out.2.2.2.2.2.2.1.doc H1.out.1.dw hk⟩
  have HC : Hid (Calls Try.prog 35 #[.slice v n2 cap, .slice v2 n2 c2] w2 fun e w' => e = .returned (.bool true) ∧ Kept (Oblk w2 wr.heap.size) w2 w') := dSameOuts_any wr.heap.size v n2 cap ys w1.heap.size v2 c2 w2 hops2 hown hlim
  clear hown hdw hab hk hops2 hos hlim
  clear hS
  refine hK.out _ _ (H2.out.2.2) (fun hS => ?_)
  clear hK K
  try simp only [Act.put, List.setIfInBounds_toArray, List.set_cons_zero, List.set_cons_succ]
  refine wpAnyH_ready (rs := [8]) (by kernel_rfl) (by simp) (AllReadyH.cons rfl (fun K hK => ?_) AllReadyH.nil)
  rw [if_pos (by rfl)]
  go_wp2_with fail
  refine HC.out.mono ?_
  rintro e w3 ⟨rfl, hk3⟩
  have H3 : Hid (Pm w w3 g s' N g2 { d with T := max y.t d.T, ls := ls } ∧ Arow w3 px y) := ⟨H2.out.1.outs HP.out.pm.lv.below.size H1.out.2.2.2.2.2.2.2.1 hk3, hk3.heap H2.out.2.2 (fun e => by
    obtain ⟨_, c2, t2, h3, h4⟩ := e
    rw [H2.out.2.2] at h3
    simp at h3
    obtain ⟨_, rfl⟩ := h3
    rcases h4 with h | h <;> exact absurd h (by decide))⟩
  clear hk3
  clear hS
  refine hK.out _ _ (H3.out.2) (fun hS => ?_)
  clear hK K
  refine tkD 9 6 (.bool true) (fun w' h' => ?_) hS ?_
  · go_simp
  refine wpAnyH_done (by kernel_rfl) ?_ _
  go_wp2_with fail
  refine Met.intro (hJ0 _ _ ?_)
  exact ⟨s', ls, ⟨rfl, rfl⟩, rfl, H3.out.1, H1.out.2.2.2.1, H1.out.2.2.2.2.1, H1.out.2.2.2.2.2.1, H2.out.2.1⟩

theorem k13 (w wr : World) (g g2 px : Nat) (s : Sh) (N : Int) (d : Ds) (y : Ac) (HP : Hid (Pj w wr g s N g2 d)) (_HA : Hid (Arow wr px y)) (hle : ∀ x ∈ d.ls, x.ab.A.l.length ≤ 65536) (a : Act) (hf : Fr 62 a) (h0 : sl a 0 = .pointer (some ⟨g, 0, none⟩)) (h1 : sl a 1 = .pointer (some ⟨g2, 0, none⟩)) (h5 : sl a 5 = .pointer (some ⟨px, 0, none⟩)) :
    Code.wp Try.prog (cAt [1,0,1,2,1,4,1,4,1,3,0] KDD) (Exit.then (fun a' w' => ∃ (s' : Sh) (ls : List Dl), Fr 62 a' ∧ sl a' 6 = .bool true ∧ Pm w w' g s' N g2 { d with ls := ls } ∧ s'.T = s.T ∧ s'.n = s.n ∧ s'.abs = s.abs.map Ab.clear ∧ ls.map Dl.ab = d.abs.map Ab.clear) Nope) a wr := by
  obtain ⟨f, ha, hs⟩ := frKDD hf
  rw [(hs 0).trans h0, (hs 1).trans h1, (hs 5).trans h5] at ha
  clear hs hf h0 h1 h5
  subst ha
  refine piece2 fun J0 K0 hJ0 hK0 => ?_
  conv => arg 2; whnf
  have HLE := Lib.hid hle
  clear hle
  go_wp2_with fail
  refine (lvClear HP.out.pm.lv).mono ?_
  rintro e w1 ⟨rfl, s', hlv, hT, hn, hab, hk⟩
  have H1 : Hid (Pm w w1 g s' N g2 d ∧ s'.T = s.T ∧ s'.n = s.n ∧ s'.abs = s.abs.map Ab.clear) := ⟨HP.out.pm.prog hlv hk, hT, hn, hab⟩
  obtain ⟨tz, htz⟩ : ∃ z : Int, (tot s.abs : Int) = z := ⟨_, rfl⟩
  have HTZ : Hid ((tot d.abs : Int) = tz) := by rw [HP.out.ab]; exact htz
  rw [htz]
  clear htz hlv hT hn hab hk
  go_wp2_with fail
  refine (dClear_any w.heap.size g2 d w1 H1.out.1.dw HP.out.n8 HLE.out).mono ?_
  rintro e w2 ⟨rfl, ls, hdw, hab, hk⟩
  rw [HTZ.out]
  have H2 : Hid (Pm w w2 g s' N g2 { d with ls := ls } ∧ ls.map Dl.ab = d.abs.map Ab.clear) := ⟨H1.out.1.doc hdw hk, hab⟩
  clear hdw hab hk
  go_wp2_with fail
  refine Met.intro (hJ0 _ _ ?_)
  exact ⟨s', ls, ⟨rfl, rfl⟩, rfl, H2.out.1, H1.out.2.1, H1.out.2.2.1, H1.out.2.2.2, H2.out.2⟩

/-- What an act does to both. -/
def DoesR (w : World) (g g2 : Nat) (N : Int) (e : Ending) (W' : World) : Prop := e = .returned (.bool true) ∧ ∃ s' d', Pj w W' g s' (N + 1) g2 d'
theorem does_any (w W : World) (g g2 : Nat) (s : Sh) (N : Int) (d : Ds) (y : Ac) (h : Pj w W g s N g2 d) (hy : y.ok w) (hn20 : y.x.n ≤ 20) (hN : N < 18446744073709551614) :
    Calls Try.prog 14 #[.pointer (some ⟨g, 0, none⟩), .pointer (some ⟨g2, 0, none⟩), .agg y.cs.toArray] W (DoesR w g g2 N) := by
  have hxw : y.x.at_ w := hy.x.at_ (by omega)
  have hN2 : N < 18446744073709551615 := by omega
  have hle : ∀ x ∈ d.ls, x.ab.A.l.length ≤ 65536 := fun x hx => (h.oks hN2 _ (List.mem_map.2 ⟨x, hx, rfl⟩)).A.len
  have hokA : ∀ x ∈ d.ls, x.ab.A.ok := fun x hx => (h.oks hN2 _ (List.mem_map.2 ⟨x, hx, rfl⟩)).A
  have htot : tot d.abs ≤ 524288 := by
    have h1 := tot_le d.abs 65536 (fun k l hkl => by
      unfold Ds.abs at hkl
      rw [List.getElem?_map] at hkl
      obtain ⟨z, hz, rfl⟩ := Option.map_eq_some_iff.1 hkl
      exact hle z (List.mem_of_getElem? hz)) 8
    rw [List.take_of_length_le (by rw [Ds.abs_len, h.pm.dw.len]; exact h.n8)] at h1
    omega
  refine calls_of_wp (c := KDD) Try.func14 (by kernel_rfl) ?_
  have hf0 : Fr 62 { tmps := #[.pointer (some ⟨g, 0, none⟩), .pointer (some ⟨g2, 0, none⟩), .agg y.cs.toArray] ++ Array.replicate (Try.f14.ntmps - (#[.pointer (some ⟨g, 0, none⟩), .pointer (some ⟨g2, 0, none⟩), .agg y.cs.toArray] : Array Value).size) undef, defers := [] } := ⟨rfl, by simp [Try.ntmps14]⟩
  refine wp_sqR (x := (cAt [0] KDD)) (y := (cAt [1] KDD)) (by kernel_rfl) (k0 W g g2 y _ hf0 (sl_at _ _ 0 _ rfl) (sl_at _ _ 1 _ rfl) (sl_at _ _ 2 _ rfl)) ?_
  rintro a1 w1 ⟨px, hf, h0, h1, h5, hb1, hA⟩
  have hP1 := h.past hb1
  refine wp_sqG (x := (cAt [1,0] KDD)) (y := (cAt [1,1] KDD)) (by kernel_rfl) ?_
  refine tkDq (k1 w1 g g2 px y hA a1 hf h0 h1 h5) ?_
  rintro a2 _ ⟨hf, h0, h1, h5, h10, rfl⟩
  refine wp_blockR (x := (cAt [1,0,1,2] KDD)) (id := 0) (by kernel_rfl) ?_
  refine tkDq (k2 w1 g g2 px y.d a2 hf h0 h1 h5 h10) ?_
  rintro a3 _ ⟨hf, h0, h1, h5, h10, h11, rfl⟩
  by_cases hd0 : y.d = 0 ∨ y.d = 1 ∨ y.d = 2
  · rw [decide_eq_true hd0] at h11
    refine wp_onT (A := (cAt [1,0,1,2,1,3] KDD)) (B := (cAt [1,0,1,2,1,4] KDD)) (by kernel_rfl) h11 ?_
    refine tkDq (k5 w1 g g2 px y hA (hxw.below hP1.pm.lv.below) a3 hf h0 h1 h5) ?_
    rintro a4 w4 ⟨bx, da, dc, hf, h0, h1, h5, h7, hb4, hbx, how, hbg⟩
    have hP4 := hP1.past hb4
    have hftt : ∀ k, s.foot g k → k < w1.heap.size := fun k hk => (hP1.pm.lv.sw.foot_lt hk).2
    have hwB := hP1.pm.lv.below.size
    refine tkDq (k6 w w4 g g2 px bx s N d y da dc w1.heap.size hP4.pm (hA.past hb4) hbx how hftt ⟨hbg, hwB⟩ hy.x.byt hn20 hN2 a4 hf h0 h1 h5 h7) ?_
    rintro a5 w5 ⟨s', hf, h0, h1, h5, h7, h8, hPm, hT, hn, hab, hA5, hbx5, how5, hnf⟩
    refine tkDq (k7 w w5 g g2 px bx s' (N + 1) d y da dc w1.heap.size hPm hA5 hbx5 how5 _ hnf hwB hn20 a5 hf h0 h1 h5 h7 h8) ?_
    rintro a6 w6 ⟨hf, h0, h1, h5, h8, hP6, hA6⟩
    refine tkDq (k8 w w6 g g2 px s' (N + 1) d y hP6 hA6 (offC s.abs y.c y.x.it) (by rw [h.ab]; exact rfl) (hxw.below hP6.lv.below) hokA h.n8 a6 hf h0 h1 h5 h8) ?_
    rintro a7 w7 ⟨ls, hf, h6, hP7, hls⟩
    refine wp_endT (kr1 w7 (DoesR w g g2 N) ⟨rfl, s', { d with ls := ls }, hP7, h.T.trans hT.symm, h.n.trans hn.symm, ?_⟩ a7 hf h6) (fun _ _ q => q)
    show ls.map Dl.ab = s'.abs
    rw [hls, hab, h.ab]
  rw [decide_eq_false hd0] at h11
  refine wp_onF (A := (cAt [1,0,1,2,1,3] KDD)) (B := (cAt [1,0,1,2,1,4] KDD)) (by kernel_rfl) h11 ?_
  refine tkDq (k9 w1 g g2 px y.d a3 hf h0 h1 h5 h10) ?_
  rintro a4 _ ⟨hf, h0, h1, h5, h10, h43, rfl⟩
  by_cases hd3 : y.d = 3 ∨ y.d = 4
  · rw [decide_eq_true hd3] at h43
    refine wp_onT (A := (cAt [1,0,1,2,1,4,1,3] KDD)) (B := (cAt [1,0,1,2,1,4,1,4] KDD)) (by kernel_rfl) h43 ?_
    refine tkDq (k11 w w1 g g2 px s N d y hP1 hA htot hy.t1 hN2 a4 hf h0 h1 h5) ?_
    rintro a5 w5 ⟨s', ls, hf, h6, hPm, hT, hn, hab, hls⟩
    refine wp_endT (kr2 w5 (DoesR w g g2 N) ⟨rfl, s', { d with T := max y.t d.T, ls := ls }, Pj.more ⟨hPm, ?_, h.n.trans hn.symm, ?_⟩ (by omega)⟩ a5 hf h6) (fun _ _ q => q)
    · show max y.t d.T = s'.T
      rw [hT, h.T]
    · show ls.map Dl.ab = s'.abs
      rw [hls, hab, h.ab, h.T]
  rw [decide_eq_false hd3] at h43
  refine wp_onF (A := (cAt [1,0,1,2,1,4,1,3] KDD)) (B := (cAt [1,0,1,2,1,4,1,4] KDD)) (by kernel_rfl) h43 ?_
  refine tkDq (k12 w1 g g2 px y.d a4 hf h0 h1 h5 h10) ?_
  rintro a5 _ ⟨hf, h0, h1, h5, h10, h55, rfl⟩
  by_cases hd5 : y.d = 5
  · rw [decide_eq_true hd5] at h55
    refine wp_onT (A := (cAt [1,0,1,2,1,4,1,4,1,3] KDD)) (B := (cAt [1,0,1,2,1,4,1,4,1,4] KDD)) (by kernel_rfl) h55 ?_
    refine tkDq (k13 w w1 g g2 px s N d y hP1 hA hle a5 hf h0 h1 h5) ?_
    rintro a6 w6 ⟨s', ls, hf, h6, hPm, hT, hn, hab, hls⟩
    refine wp_endT (kr3 w6 (DoesR w g g2 N) ⟨rfl, s', { d with ls := ls }, Pj.more ⟨hPm, h.T.trans hT.symm, h.n.trans hn.symm, ?_⟩ (by omega)⟩ a6 hf h6) (fun _ _ q => q)
    show ls.map Dl.ab = s'.abs
    rw [hls, hab, h.ab]
  rw [decide_eq_false hd5] at h55
  refine wp_onF (A := (cAt [1,0,1,2,1,4,1,4,1,3] KDD)) (B := (cAt [1,0,1,2,1,4,1,4,1,4] KDD)) (by kernel_rfl) h55 ?_
  refine wp_skipR (by kernel_rfl) ?_
  exact k14 w1 _ ⟨rfl, s, d, hP1.more (by omega)⟩ a5 hf
end Go.Proofs.Ytpigpeehhadkjaa

namespace Go.Proofs.Ytpigpeehhadkjaa
open Go.RowKit Bkt
set_option maxRecDepth 100000
set_option maxHeartbeats 4000000

theorem OwnG.monoo {w : World} {base base' e size : Nat} {a : Option Addr} {n cap : Nat} {vs : List Value} (h : OwnG w base e size a n cap vs) (hb : base' ≤ base) : OwnG w base' e size a n cap vs := by
  rcases h with ⟨h1, h2⟩
  refine ⟨h1, ?_⟩
  rcases h2 with h0 | ⟨g, cap', cur, he, hbb, r⟩
  · exact .inl h0
  · exact .inr ⟨g, cap', cur, he, Nat.le_trans hb hbb, r⟩
theorem Dw.mono {W : World} {B B' g : Nat} {d : Ds} (h : Dw W B g d) (hb : B' ≤ B) : Dw W B' g d := ⟨h.row, h.bs.monoo hb, h.qs.monoo hb, h.ss.monoo hb, h.its, Nat.le_trans hb h.base⟩

noncomputable def KPL : Code := Try.f3.body.getD .skip
theorem frKPL {a : Act} (h : Fr 72 a) : ∃ f : Nat → Value, a = ⟨#[f 0, f 1, f 2, f 3, f 4, f 5, f 6, f 7, f 8, f 9, f 10, f 11, f 12, f 13, f 14, f 15, f 16, f 17, f 18, f 19, f 20, f 21, f 22, f 23, f 24, f 25, f 26, f 27, f 28, f 29, f 30, f 31, f 32, f 33, f 34, f 35, f 36, f 37, f 38, f 39, f 40, f 41, f 42, f 43, f 44, f 45, f 46, f 47, f 48, f 49, f 50, f 51, f 52, f 53, f 54, f 55, f 56, f 57, f 58, f 59, f 60, f 61, f 62, f 63, f 64, f 65, f 66, f 67, f 68, f 69, f 70, f 71], []⟩ ∧ ∀ i, f i = sl a i := fr_any h

theorem zp0 (w : World) (T : Int) (xa : Option Addr) (n c : Nat) (ya : Option Addr) (m c2 : Nat) (a : Act) (hf : Fr 72 a) (h0 : sl a 0 = .int .u64 T) (h1 : sl a 1 = .slice xa n c) (h2 : sl a 2 = .slice ya m c2) :
    Code.wp Try.prog (cAt [0] KPL) (Exit.then (fun a' w' => Fr 72 a' ∧ sl a' 0 = .int .u64 T ∧ sl a' 1 = .slice xa n c ∧ sl a' 2 = .slice ya m c2 ∧ w = w') Nope) a w := by
  obtain ⟨f, ha, hs⟩ := frKPL hf
  rw [(hs 0).trans h0, (hs 1).trans h1, (hs 2).trans h2] at ha
  clear hs hf h0 h1 h2
  subst ha
  refine piece2 fun J0 K0 hJ0 hK0 => ?_
  conv => arg 2; whnf
  go_wp2_with fail
  refine Met.intro (hJ0 _ _ ?_)
  exact ⟨⟨rfl, rfl⟩, rfl, rfl, rfl, rfl⟩

theorem zp1 (w : World) (T : Int) (xa : Option Addr) (n c : Nat) (ya : Option Addr) (m c2 : Nat) (l : List Ac) (hl : Acr w ya m l) (hm : m ≤ maxLen) (a : Act) (hf : Fr 72 a) (h0 : sl a 0 = .int .u64 T) (h1 : sl a 1 = .slice xa n c) (h2 : sl a 2 = .slice ya m c2) :
    Code.wp Try.prog (cAt [1,0,0] KPL) (Exit.then (fun a' w' => ∃ bb, Fr 72 a' ∧ sl a' 0 = .int .u64 T ∧ sl a' 1 = .slice xa n c ∧ sl a' 2 = .slice ya m c2 ∧ sl a' 19 = .bool bb ∧ (bb = false ↔ n ≤ 12 ∧ Few 50 l) ∧ w = w') Nope) a w := by
  obtain ⟨f, ha, hs⟩ := frKPL hf
  rw [(hs 0).trans h0, (hs 1).trans h1, (hs 2).trans h2] at ha
  clear hs hf h0 h1 h2
  subst ha
  refine piece2 fun J0 K0 hJ0 hK0 => ?_
  conv => arg 2; whnf
  have HL := Lib.hid hl
  clear hl
  by_cases h6 : 12 < n
  · have h62 : (12 : Int) < (n : Int) := by omega
    go_wp2_with fail
    refine Met.intro (hJ0 _ _ ?_)
    exact ⟨true, ⟨rfl, rfl⟩, rfl, rfl, rfl, rfl, ⟨fun h => (by cases h), fun h => (by omega)⟩, rfl⟩
  · have h62 : ¬ (12 : Int) < (n : Int) := by omega
    go_wp2_with fail
    refine (few_any ya m c2 l w 50 (by decide) HL.out hm).mono ?_
    rintro e w1 ⟨b, rfl, hb, hw⟩
    subst hw
    have HB := Lib.hid hb
    clear hb
    go_wp2_with fail
    refine Met.intro (hJ0 _ _ ?_)
    refine ⟨!b, ⟨rfl, rfl⟩, rfl, rfl, rfl, rfl, ?_, rfl⟩
    cases b
    · exact ⟨fun h => (by cases h), fun h => (by have := HB.out.2 h.2; cases this)⟩
    · exact ⟨fun _ => ⟨by omega, HB.out.1 rfl⟩, fun _ => rfl⟩

theorem zp2 (w wr : World) (hb : Below w.heap.size w wr) (a : Act) (hf : Fr 72 a) :
    Code.wp Try.prog (cAt [1,0,1,3] KPL) (RetsV Try.f3 (Yes w)) a wr := by
  have HB := Lib.hid hb
  clear hb
  obtain ⟨f, ha, hs⟩ := frKPL hf
  clear hs hf 
  subst ha
  conv => arg 2; whnf
  go_wp2_with fail
  refine (works12_any wr).mono ?_
  rintro e w1 ⟨rfl, hb1⟩
  have HF : Hid (Below w.heap.size w w1) := HB.out.trans (hb1.mono HB.out.size)
  clear hb1
  go_wp2_with fail
  refine ⟨rfl, rfl, .bool true, ?_, ⟨rfl, HF.out⟩⟩
  simp [results, Try.results3, go_sem]

theorem zp3 (w : World) (T : Int) (xa : Option Addr) (n c : Nat) (ya : Option Addr) (m c2 : Nat) (l : List Cs) (HR : Hid (Rcs w xa n l)) (HM : Hid (mayB l = true)) (T0 : 0 ≤ T) (T1 : T ≤ 18446744073709551615) (a : Act) (hf : Fr 72 a) (h0 : sl a 0 = .int .u64 T) (h1 : sl a 1 = .slice xa n c) (h2 : sl a 2 = .slice ya m c2) :
    Code.wp Try.prog (cAt [1,1,0] KPL) (Exit.then (fun a' w' => ∃ g s, Fr 72 a' ∧ sl a' 0 = .int .u64 T ∧ sl a' 1 = .slice xa n c ∧ sl a' 2 = .slice ya m c2 ∧ sl a' 7 = .pointer (some ⟨g, 0, none⟩) ∧ sl a' 8 = .int .i64 0 ∧ Lv w w' g s 0 ∧ s.T = T ∧ s.n = l.length ∧ s.abs = l.map (Cs.new T)) Nope) a w := by
  obtain ⟨f, ha, hs⟩ := frKPL hf
  rw [(hs 0).trans h0, (hs 1).trans h1, (hs 2).trans h2] at ha
  clear hs hf h0 h1 h2
  subst ha
  refine piece2 fun J0 K0 hJ0 hK0 => ?_
  conv => arg 2; whnf
  have HT : Hid (0 ≤ T ∧ T ≤ 18446744073709551615) := ⟨T0, T1⟩
  clear T0 T1
  go_wp2_with fail
  refine (lvNew T xa n c l HR.out HT.out.1 HT.out.2 (Below.refl w.heap.size w) HM.out).mono ?_
  rintro e w1 ⟨g, s, rfl, hv, hT, hn, hab, _, _⟩
  have H1 : Hid (Lv w w1 g s 0 ∧ s.T = T ∧ s.n = l.length ∧ s.abs = l.map (Cs.new T)) := ⟨hv, hT, hn, hab⟩
  clear hv hT hn hab
  go_wp2_with fail
  refine Met.intro (hJ0 _ _ ?_)
  exact ⟨g, s, ⟨rfl, rfl⟩, rfl, rfl, rfl, rfl, rfl, H1.out⟩

theorem zp3n (w : World) (T : Int) (xa : Option Addr) (n c : Nat) (ya : Option Addr) (m c2 : Nat) (l : List Cs) (HR : Hid (Rcs w xa n l)) (HM : Hid (mayB l = false)) (T0 : 0 ≤ T) (T1 : T ≤ 18446744073709551615) (a : Act) (hf : Fr 72 a) (h0 : sl a 0 = .int .u64 T) (h1 : sl a 1 = .slice xa n c) (h2 : sl a 2 = .slice ya m c2) :
    Code.wp Try.prog (cAt [1,1,0] KPL) (Exit.then (fun a' w' => Fr 72 a' ∧ sl a' 0 = .int .u64 T ∧ sl a' 1 = .slice xa n c ∧ sl a' 2 = .slice ya m c2 ∧ sl a' 7 = .pointer none ∧ sl a' 8 = .int .i64 2 ∧ Below w.heap.size w w') Nope) a w := by
  obtain ⟨f, ha, hs⟩ := frKPL hf
  rw [(hs 0).trans h0, (hs 1).trans h1, (hs 2).trans h2] at ha
  clear hs hf h0 h1 h2
  subst ha
  refine piece2 fun J0 K0 hJ0 hK0 => ?_
  conv => arg 2; whnf
  have HT : Hid (0 ≤ T ∧ T ≤ 18446744073709551615) := ⟨T0, T1⟩
  clear T0 T1
  go_wp2_with fail
  refine (sNew_any T xa n c l w HR.out HT.out.1 HT.out.2).mono ?_
  rintro e w1 ⟨hb, h | h⟩
  case inl => rw [HM.out] at h; cases h.1
  obtain ⟨_, rfl⟩ := h
  have HB := Lib.hid hb
  clear hb
  go_wp2_with fail
  refine Met.intro (hJ0 _ _ ?_)
  exact ⟨⟨rfl, rfl⟩, rfl, rfl, rfl, rfl, rfl, HB.out⟩

theorem zp4 (w wr : World) (T : Int) (xa : Option Addr) (n c : Nat) (ya : Option Addr) (m c2 : Nat) (g : Nat) (s : Sh) (l : List Cs) (HR : Hid (Rcs wr xa n l)) (HM : Hid (mayB l = true)) (hn12 : n ≤ 12) (HV : Hid (Lv w wr g s 0 ∧ s.T = T ∧ s.n = l.length ∧ s.abs = l.map (Cs.new T))) (a : Act) (hf : Fr 72 a) (h0 : sl a 0 = .int .u64 T) (h1 : sl a 1 = .slice xa n c) (h2 : sl a 2 = .slice ya m c2) (h7 : sl a 7 = .pointer (some ⟨g, 0, none⟩)) (h8 : sl a 8 = .int .i64 0) :
    Code.wp Try.prog (cAt [1,1,1,0] KPL) (Exit.then (fun a' w' => ∃ g2 d, Fr 72 a' ∧ sl a' 2 = .slice ya m c2 ∧ sl a' 7 = .pointer (some ⟨g, 0, none⟩) ∧ sl a' 8 = .int .i64 0 ∧ sl a' 9 = .pointer (some ⟨g2, 0, none⟩) ∧ sl a' 10 = .int .i64 0 ∧ Pj w w' g s 0 g2 d) Nope) a wr := by
  obtain ⟨f, ha, hs⟩ := frKPL hf
  rw [(hs 0).trans h0, (hs 1).trans h1, (hs 2).trans h2, (hs 7).trans h7, (hs 8).trans h8] at ha
  clear hs hf h0 h1 h2 h7 h8
  subst ha
  refine piece2 fun J0 K0 hJ0 hK0 => ?_
  conv => arg 2; whnf
  have HN : Hid (n ≤ 1000) := by show _ ≤ _; omega
  clear hn12
  go_wp2_with fail
  refine (dClasses_any xa n c l wr HR.out HN.out).mono ?_
  rintro e w1 ⟨v, cap, rfl, hb1, hown⟩
  have H1 : Hid (Below wr.heap.size wr w1 ∧ OwnG w1 wr.heap.size 99 4 v n cap (l.flatMap Cs.cs)) := ⟨hb1, hown⟩
  clear hb1 hown
  go_wp2_with fail
  refine (dNew_any T v n cap l w1 wr.heap.size H1.out.2).mono ?_
  rintro e w2 ⟨hb2, h | h⟩
  case inr => rw [HM.out] at h; cases h.1
  obtain ⟨_, g2, d, rfl, hdw, hT, hn, hab⟩ := h
  have hbb : Below wr.heap.size wr w2 := H1.out.1.trans (hb2.mono H1.out.1.size)
  have H2 : Hid (Pj w w2 g s 0 g2 d) := ⟨⟨HV.out.1.past hbb, hdw.mono (Nat.le_trans HV.out.1.below.size H1.out.1.size)⟩, by rw [hT, HV.out.2.1], by rw [hn, HV.out.2.2.1], by rw [hab, HV.out.2.2.2]⟩
  clear hdw hT hn hab hb2 hbb
  go_wp2_with fail
  refine Met.intro (hJ0 _ _ ?_)
  exact ⟨g2, d, ⟨rfl, rfl⟩, rfl, rfl, rfl, rfl, rfl, H2.out⟩

theorem zp4n (wr : World) (T : Int) (xa : Option Addr) (n c : Nat) (ya : Option Addr) (m c2 : Nat) (l : List Cs) (HR : Hid (Rcs wr xa n l)) (HM : Hid (mayB l = false)) (hn12 : n ≤ 12) (a : Act) (hf : Fr 72 a) (h0 : sl a 0 = .int .u64 T) (h1 : sl a 1 = .slice xa n c) (h2 : sl a 2 = .slice ya m c2) (h7 : sl a 7 = .pointer none) (h8 : sl a 8 = .int .i64 2) :
    Code.wp Try.prog (cAt [1,1,1,0] KPL) (Exit.then (fun a' w' => Fr 72 a' ∧ sl a' 7 = .pointer none ∧ sl a' 8 = .int .i64 2 ∧ sl a' 10 = .int .i64 2 ∧ Below wr.heap.size wr w') Nope) a wr := by
  obtain ⟨f, ha, hs⟩ := frKPL hf
  rw [(hs 0).trans h0, (hs 1).trans h1, (hs 2).trans h2, (hs 7).trans h7, (hs 8).trans h8] at ha
  clear hs hf h0 h1 h2 h7 h8
  subst ha
  refine piece2 fun J0 K0 hJ0 hK0 => ?_
  conv => arg 2; whnf
  have HN : Hid (n ≤ 1000) := by show _ ≤ _; omega
  clear hn12
  go_wp2_with fail
  refine (dClasses_any xa n c l wr HR.out HN.out).mono ?_
  rintro e w1 ⟨v, cap, rfl, hb1, hown⟩
  have H1 : Hid (Below wr.heap.size wr w1 ∧ OwnG w1 wr.heap.size 99 4 v n cap (l.flatMap Cs.cs)) := ⟨hb1, hown⟩
  clear hb1 hown
  go_wp2_with fail
  refine (dNew_any T v n cap l w1 wr.heap.size H1.out.2).mono ?_
  rintro e w2 ⟨hb2, h | h⟩
  case inl => rw [HM.out] at h; cases h.1
  obtain ⟨_, rfl⟩ := h
  have H2 : Hid (Below wr.heap.size wr w2) := H1.out.1.trans (hb2.mono H1.out.1.size)
  clear hb2
  go_wp2_with fail
  refine Met.intro (hJ0 _ _ ?_)
  exact ⟨⟨rfl, rfl⟩, rfl, rfl, rfl, H2.out⟩

theorem zp5 (wr : World) (ya : Option Addr) (m c2 g g2 : Nat) (a : Act) (hf : Fr 72 a) (h2 : sl a 2 = .slice ya m c2) (h7 : sl a 7 = .pointer (some ⟨g, 0, none⟩)) (h8 : sl a 8 = .int .i64 0) (h9 : sl a 9 = .pointer (some ⟨g2, 0, none⟩)) (h10 : sl a 10 = .int .i64 0) :
    Code.wp Try.prog (cAt [1,1,1,1,0,0] KPL) (Exit.then (fun a' w' => Fr 72 a' ∧ sl a' 2 = .slice ya m c2 ∧ sl a' 7 = .pointer (some ⟨g, 0, none⟩) ∧ sl a' 8 = .int .i64 0 ∧ sl a' 9 = .pointer (some ⟨g2, 0, none⟩) ∧ sl a' 10 = .int .i64 0 ∧ sl a' 43 = .bool false ∧ wr = w') Nope) a wr := by
  obtain ⟨f, ha, hs⟩ := frKPL hf
  rw [(hs 2).trans h2, (hs 7).trans h7, (hs 8).trans h8, (hs 9).trans h9, (hs 10).trans h10] at ha
  clear hs hf h2 h7 h8 h9 h10
  subst ha
  refine piece2 fun J0 K0 hJ0 hK0 => ?_
  conv => arg 2; whnf
  go_wp2_with fail
  refine Met.intro (hJ0 _ _ ?_)
  exact ⟨⟨rfl, rfl⟩, rfl, rfl, rfl, rfl, rfl, rfl, rfl⟩

theorem zp5n (wr : World) (a : Act) (hf : Fr 72 a) (h7 : sl a 7 = .pointer none) (h8 : sl a 8 = .int .i64 2) (h10 : sl a 10 = .int .i64 2) :
    Code.wp Try.prog (cAt [1,1,1,1,0,0] KPL) (Exit.then (fun a' w' => Fr 72 a' ∧ sl a' 7 = .pointer none ∧ sl a' 8 = .int .i64 2 ∧ sl a' 10 = .int .i64 2 ∧ sl a' 43 = .bool false ∧ wr = w') Nope) a wr := by
  obtain ⟨f, ha, hs⟩ := frKPL hf
  rw [(hs 7).trans h7, (hs 8).trans h8, (hs 10).trans h10] at ha
  clear hs hf h7 h8 h10
  subst ha
  refine piece2 fun J0 K0 hJ0 hK0 => ?_
  conv => arg 2; whnf
  go_wp2_with fail
  refine Met.intro (hJ0 _ _ ?_)
  exact ⟨⟨rfl, rfl⟩, rfl, rfl, rfl, rfl, rfl⟩

theorem zp7 (wr : World) (ya : Option Addr) (m c2 g g2 : Nat) (a : Act) (hf : Fr 72 a) (h2 : sl a 2 = .slice ya m c2) (h7 : sl a 7 = .pointer (some ⟨g, 0, none⟩)) (h8 : sl a 8 = .int .i64 0) (h9 : sl a 9 = .pointer (some ⟨g2, 0, none⟩)) (h10 : sl a 10 = .int .i64 0) :
    Code.wp Try.prog (cAt [1,1,1,1,1,0,0] KPL) (Exit.then (fun a' w' => Fr 72 a' ∧ sl a' 2 = .slice ya m c2 ∧ sl a' 7 = .pointer (some ⟨g, 0, none⟩) ∧ sl a' 9 = .pointer (some ⟨g2, 0, none⟩) ∧ sl a' 45 = .bool false ∧ wr = w') Nope) a wr := by
  obtain ⟨f, ha, hs⟩ := frKPL hf
  rw [(hs 2).trans h2, (hs 7).trans h7, (hs 8).trans h8, (hs 9).trans h9, (hs 10).trans h10] at ha
  clear hs hf h2 h7 h8 h9 h10
  subst ha
  refine piece2 fun J0 K0 hJ0 hK0 => ?_
  conv => arg 2; whnf
  go_wp2_with fail
  refine Met.intro (hJ0 _ _ ?_)
  exact ⟨⟨rfl, rfl⟩, rfl, rfl, rfl, rfl, rfl⟩

theorem zp7n (wr : World) (a : Act) (hf : Fr 72 a) (h7 : sl a 7 = .pointer none) (h8 : sl a 8 = .int .i64 2) (h10 : sl a 10 = .int .i64 2) :
    Code.wp Try.prog (cAt [1,1,1,1,1,0,0] KPL) (Exit.then (fun a' w' => Fr 72 a' ∧ sl a' 45 = .bool true ∧ wr = w') Nope) a wr := by
  obtain ⟨f, ha, hs⟩ := frKPL hf
  rw [(hs 7).trans h7, (hs 8).trans h8, (hs 10).trans h10] at ha
  clear hs hf h7 h8 h10
  subst ha
  refine piece2 fun J0 K0 hJ0 hK0 => ?_
  conv => arg 2; whnf
  go_wp2_with fail
  refine Met.intro (hJ0 _ _ ?_)
  exact ⟨⟨rfl, rfl⟩, rfl, rfl⟩

theorem zp8 (w wr : World) (hb : Below w.heap.size w wr) (a : Act) (hf : Fr 72 a) :
    Code.wp Try.prog (cAt [1,1,1,1,1,0,1,3] KPL) (RetsV Try.f3 (Yes w)) a wr := by
  have HB := Lib.hid hb
  clear hb
  obtain ⟨f, ha, hs⟩ := frKPL hf
  clear hs hf 
  subst ha
  conv => arg 2; whnf
  go_wp2_with fail
  refine (works12_any wr).mono ?_
  rintro e w1 ⟨rfl, hb1⟩
  have HF : Hid (Below w.heap.size w w1) := HB.out.trans (hb1.mono HB.out.size)
  clear hb1
  go_wp2_with fail
  refine ⟨rfl, rfl, .bool true, ?_, ⟨rfl, HF.out⟩⟩
  simp [results, Try.results3, go_sem]

theorem zp9 (w wr : World) (ya : Option Addr) (m c2 g g2 : Nat) (s : Sh) (N : Int) (d : Ds) (HP : Hid (Pj w wr g s N g2 d)) (hN : N < 18446744073709551615) (a : Act) (hf : Fr 72 a) (h2 : sl a 2 = .slice ya m c2) (h7 : sl a 7 = .pointer (some ⟨g, 0, none⟩)) (h9 : sl a 9 = .pointer (some ⟨g2, 0, none⟩)) :
    Code.wp Try.prog (cAt [1,1,1,1,1,1,0,0] KPL) (Exit.then (fun a' w' => Fr 72 a' ∧ sl a' 2 = .slice ya m c2 ∧ sl a' 7 = .pointer (some ⟨g, 0, none⟩) ∧ sl a' 9 = .pointer (some ⟨g2, 0, none⟩) ∧ sl a' 50 = .bool false ∧ Pj w w' g s N g2 d) Nope) a wr := by
  obtain ⟨f, ha, hs⟩ := frKPL hf
  rw [(hs 2).trans h2, (hs 7).trans h7, (hs 9).trans h9] at ha
  clear hs hf h2 h7 h9
  subst ha
  refine piece2 fun J0 K0 hJ0 hK0 => ?_
  conv => arg 2; whnf
  have HIS : Hid (∀ W g s N g2 d, Pj w W g s N g2 d → N < 18446744073709551615 → Calls Try.prog 13 #[.pointer (some ⟨g, 0, none⟩), .pointer (some ⟨g2, 0, none⟩)] W (Yes W)) := fun W g s N g2 d h hN => sis_any w.heap.size g s w.heap.size g2 d W h.pm.lv.sw h.pm.dw h.pm.lv.n1 h.T h.n h.ab (h.pm.lv.oks hN)
  have HN := Lib.hid hN
  clear hN
  go_wp2_with fail
  refine (HIS.out wr g s N g2 d HP.out HN.out).mono ?_
  rintro e w1 ⟨rfl, hb⟩
  have H1 := Lib.hid (HP.out.past hb)
  clear hb
  go_wp2_with fail
  refine Met.intro (hJ0 _ _ ?_)
  exact ⟨⟨rfl, rfl⟩, rfl, rfl, rfl, rfl, H1.out⟩

theorem zp11 (wr : World) (ya : Option Addr) (m c2 g g2 : Nat) (a : Act) (hf : Fr 72 a) (h2 : sl a 2 = .slice ya m c2) (h7 : sl a 7 = .pointer (some ⟨g, 0, none⟩)) (h9 : sl a 9 = .pointer (some ⟨g2, 0, none⟩)) :
    Code.wp Try.prog (cAt [1,1,1,1,1,1,1,0,0] KPL) (Exit.then (fun a' w' => Fr 72 a' ∧ sl a' 2 = .slice ya m c2 ∧ sl a' 7 = .pointer (some ⟨g, 0, none⟩) ∧ sl a' 9 = .pointer (some ⟨g2, 0, none⟩) ∧ sl a' 11 = .int .i64 0 ∧ wr = w') Nope) a wr := by
  obtain ⟨f, ha, hs⟩ := frKPL hf
  rw [(hs 2).trans h2, (hs 7).trans h7, (hs 9).trans h9] at ha
  clear hs hf h2 h7 h9
  subst ha
  refine piece2 fun J0 K0 hJ0 hK0 => ?_
  conv => arg 2; whnf
  go_wp2_with fail
  refine Met.intro (hJ0 _ _ ?_)
  exact ⟨⟨rfl, rfl⟩, rfl, rfl, rfl, rfl, rfl⟩

theorem zp12 (wr : World) (ya : Option Addr) (m c2 g g2 : Nat) (k : Nat) (hk : k < m) (a : Act) (hf : Fr 72 a) (h2 : sl a 2 = .slice ya m c2) (h7 : sl a 7 = .pointer (some ⟨g, 0, none⟩)) (h9 : sl a 9 = .pointer (some ⟨g2, 0, none⟩)) (h11 : sl a 11 = .int .i64 (k : Int)) :
    Code.wp Try.prog (cAt [1,1,1,1,1,1,1,0,1,2,2,0] KPL) (Exit.then (fun a' w' => Fr 72 a' ∧ sl a' 2 = .slice ya m c2 ∧ sl a' 7 = .pointer (some ⟨g, 0, none⟩) ∧ sl a' 9 = .pointer (some ⟨g2, 0, none⟩) ∧ sl a' 11 = .int .i64 (k : Int) ∧ wr = w') Nope) a wr := by
  obtain ⟨f, ha, hs⟩ := frKPL hf
  rw [(hs 2).trans h2, (hs 7).trans h7, (hs 9).trans h9, (hs 11).trans h11] at ha
  clear hs hf h2 h7 h9 h11
  subst ha
  refine piece2 fun J0 K0 hJ0 hK0 => ?_
  conv => arg 2; whnf
  have hk2 : (k : Int) < (m : Int) := by omega
  go_wp2_with fail
  refine Met.intro (hJ0 _ _ ?_)
  exact ⟨⟨rfl, rfl⟩, rfl, rfl, rfl, rfl, rfl⟩

theorem zp12x (wr : World) (ya : Option Addr) (m c2 g g2 : Nat) (k : Nat) (hk : ¬ k < m) (a : Act) (hf : Fr 72 a) (h2 : sl a 2 = .slice ya m c2) (h7 : sl a 7 = .pointer (some ⟨g, 0, none⟩)) (h9 : sl a 9 = .pointer (some ⟨g2, 0, none⟩)) (h11 : sl a 11 = .int .i64 (k : Int)) :
    Code.wp Try.prog (cAt [1,1,1,1,1,1,1,0,1,2,2] KPL) (Outs 0 (fun a' w' => Fr 72 a' ∧ sl a' 7 = .pointer (some ⟨g, 0, none⟩) ∧ wr = w')) a wr := by
  obtain ⟨f, ha, hs⟩ := frKPL hf
  rw [(hs 2).trans h2, (hs 7).trans h7, (hs 9).trans h9, (hs 11).trans h11] at ha
  clear hs hf h2 h7 h9 h11
  subst ha
  conv => arg 2; whnf
  have hk2 : ¬ (k : Int) < (m : Int) := by omega
  go_wp2_with fail
  exact ⟨rfl, ⟨rfl, rfl⟩, rfl, rfl⟩

theorem zp13 (wr : World) (ya : Option Addr) (m c2 g g2 : Nat) (k : Nat) (hk : k < 1000) (a : Act) (hf : Fr 72 a) (h2 : sl a 2 = .slice ya m c2) (h7 : sl a 7 = .pointer (some ⟨g, 0, none⟩)) (h9 : sl a 9 = .pointer (some ⟨g2, 0, none⟩)) (h11 : sl a 11 = .int .i64 (k : Int)) :
    Code.wp Try.prog (cAt [1,1,1,1,1,1,1,0,1,2,2,1,1] KPL) (Exit.then (fun a' w' => Fr 72 a' ∧ sl a' 2 = .slice ya m c2 ∧ sl a' 7 = .pointer (some ⟨g, 0, none⟩) ∧ sl a' 9 = .pointer (some ⟨g2, 0, none⟩) ∧ sl a' 11 = .int .i64 ((k : Int) + 1) ∧ wr = w') Nope) a wr := by
  obtain ⟨f, ha, hs⟩ := frKPL hf
  rw [(hs 2).trans h2, (hs 7).trans h7, (hs 9).trans h9, (hs 11).trans h11] at ha
  clear hs hf h2 h7 h9 h11
  subst ha
  refine piece2 fun J0 K0 hJ0 hK0 => ?_
  conv => arg 2; whnf
  have hw : IntKind.i64.wrap ((k : Int) + 1) = (k : Int) + 1 := by rw [IntKind.wrap_i64]; omega
  go_wp2_with fail
  refine Met.intro (hJ0 _ _ ?_)
  exact ⟨⟨rfl, rfl⟩, rfl, rfl, rfl, rfl, rfl⟩

theorem zp14 (w wr : World) (yb yo m c2 g g2 k : Nat) (s : Sh) (N : Int) (d : Ds) (y : Ac) (HP : Hid (Pj w wr g s N g2 d)) (HY : Hid (World.rangeAt wr yb (yo + k * 6) y.cs)) (hok : y.ok w) (hn20 : y.x.n ≤ 20) (hN : N < 18446744073709551614) (hk : k < m) (hm : m ≤ 50) (a : Act) (hf : Fr 72 a) (h2 : sl a 2 = .slice (some ⟨yb, yo, none⟩) m c2) (h7 : sl a 7 = .pointer (some ⟨g, 0, none⟩)) (h9 : sl a 9 = .pointer (some ⟨g2, 0, none⟩)) (h11 : sl a 11 = .int .i64 (k : Int)) :
    Code.wp Try.prog (cAt [1,1,1,1,1,1,1,0,1,2,2,1,0,2,0] KPL) (Exit.then (fun a' w' => ∃ (s' : Sh) (d' : Ds), Fr 72 a' ∧ sl a' 2 = .slice (some ⟨yb, yo, none⟩) m c2 ∧ sl a' 7 = .pointer (some ⟨g, 0, none⟩) ∧ sl a' 9 = .pointer (some ⟨g2, 0, none⟩) ∧ sl a' 11 = .int .i64 (k : Int) ∧ sl a' 70 = .bool false ∧ Pj w w' g s' (N + 1) g2 d') Nope) a wr := by
  obtain ⟨f, ha, hs⟩ := frKPL hf
  rw [(hs 2).trans h2, (hs 7).trans h7, (hs 9).trans h9, (hs 11).trans h11] at ha
  clear hs hf h2 h7 h9 h11
  subst ha
  refine piece2 fun J0 K0 hJ0 hK0 => ?_
  conv => arg 2; whnf
  have HIS : Hid (∀ W g s N g2 d, Pj w W g s N g2 d → N < 18446744073709551615 → Calls Try.prog 13 #[.pointer (some ⟨g, 0, none⟩), .pointer (some ⟨g2, 0, none⟩)] W (Yes W)) := fun W g s N g2 d h hN => sis_any w.heap.size g s w.heap.size g2 d W h.pm.lv.sw h.pm.dw h.pm.lv.n1 h.T h.n h.ab (h.pm.lv.oks hN)
  have HDO : Hid (Calls Try.prog 14 #[.pointer (some ⟨g, 0, none⟩), .pointer (some ⟨g2, 0, none⟩), .agg y.cs.toArray] wr (DoesR w g g2 N)) := does_any w wr g g2 s N d y HP.out hok hn20 hN
  have HN : Hid (N + 1 < 18446744073709551615) := by show _ < _; omega
  obtain ⟨yd, yc, ⟨no, sz, xa, xn, xc, xd⟩, yt⟩ := y
  rw [show (Ac.cs ⟨yd, yc, ⟨no, sz, xa, xn, xc, xd⟩, yt⟩).toArray = #[.int .i64 yd, .int .i64 yc, .int .u64 no, .int .i64 sz, .slice xa xn xc, .int .u64 yt] from rfl] at HDO
  have c0 : wr.cell? ⟨yb, yo + k * 6, none⟩ = some (.int .i64 yd) := HY.out 0 _ rfl
  have c1 : wr.cell? ⟨yb, yo + k * 6 + 1, none⟩ = some (.int .i64 yc) := HY.out 1 _ rfl
  have c2 : wr.cell? ⟨yb, yo + k * 6 + 2, none⟩ = some (.int .u64 no) := HY.out 2 _ rfl
  have c3 : wr.cell? ⟨yb, yo + k * 6 + 3, none⟩ = some (.int .i64 sz) := HY.out 3 _ rfl
  have c4 : wr.cell? ⟨yb, yo + k * 6 + 4, none⟩ = some (.slice xa xn xc) := HY.out 4 _ rfl
  have c5 : wr.cell? ⟨yb, yo + k * 6 + 5, none⟩ = some (.int .u64 yt) := HY.out 5 _ rfl
  have hk2 : (k : Int) < (m : Int) := by omega
  have hk0 : (0 : Int) ≤ (k : Int) := by omega
  have hkk : (k : Int) < 1000 := by omega
  clear hok hn20 hN hk hm
  go_wp2_with fail
  refine HDO.out.mono ?_
  rintro e w1 ⟨rfl, s', d', hp1⟩
  have H1 := Lib.hid hp1
  clear hp1 c0 c1 c2 c3 c4 c5
  go_wp2_with fail
  refine (HIS.out w1 g s' (N + 1) g2 d' H1.out HN.out).mono ?_
  rintro e w2 ⟨rfl, hb⟩
  have H2 := Lib.hid (H1.out.past hb)
  clear hb
  go_wp2_with fail
  refine Met.intro (hJ0 _ _ ?_)
  exact ⟨s', d', ⟨rfl, rfl⟩, rfl, rfl, rfl, rfl, rfl, H2.out⟩

theorem zp16 (w wr : World) (hb : Below w.heap.size w wr) (a : Act) (hf : Fr 72 a) :
    Code.wp Try.prog (cAt [1,1,1,1,1,1,1,1] KPL) (bodyPost Try.prog Try.f3 (Yes w)) a wr := by
  have HB := Lib.hid hb
  clear hb
  obtain ⟨f, ha, hs⟩ := frKPL hf
  clear hs hf 
  subst ha
  conv => arg 2; whnf
  go_wp2_with fail
  refine (works12_any wr).mono ?_
  rintro e w1 ⟨rfl, hb1⟩
  have HF : Hid (Below w.heap.size w w1) := HB.out.trans (hb1.mono HB.out.size)
  clear hb1
  go_wp2_with fail
  first | exact ⟨rfl, HF.out⟩ | (go_ret; exact ⟨rfl, HF.out⟩)

/-- The loop's state. -/
def PlS (w : World) (ya : Option Addr) (m c2 g g2 k : Nat) (a' : Act) (w' : World) : Prop :=
  ∃ (s : Sh) (d : Ds), Pj w w' g s (k : Int) g2 d ∧ Fr 72 a' ∧ sl a' 2 = .slice ya m c2 ∧ sl a' 7 = .pointer (some ⟨g, 0, none⟩) ∧ sl a' 9 = .pointer (some ⟨g2, 0, none⟩) ∧ sl a' 11 = .int .i64 (k : Int)
theorem plays12_any (T : Int) (xa : Option Addr) (n c : Nat) (l : List Cs) (ya : Option Addr) (m c2 : Nat) (la : List Ac) (w : World) (hl : Rcs w xa n l) (hm : Acr w ya m la) (hmx : m ≤ maxLen) (T0 : 0 ≤ T) (T1 : T ≤ 18446744073709551615) :
    Calls Try.prog 3 #[.int .u64 T, .slice xa n c, .slice ya m c2] w (Yes w) := by
  refine calls_of_wp (c := KPL) Try.func3 (by kernel_rfl) ?_
  have hf0 : Fr 72 { tmps := #[.int .u64 T, .slice xa n c, .slice ya m c2] ++ Array.replicate (Try.f3.ntmps - (#[.int .u64 T, .slice xa n c, .slice ya m c2] : Array Value).size) undef, defers := [] } := ⟨rfl, by simp [Try.ntmps3]⟩
  refine wp_sqR (x := (cAt [0] KPL)) (y := (cAt [1] KPL)) (by kernel_rfl) (zp0 w T xa n c ya m c2 _ hf0 (sl_at _ _ 0 _ rfl) (sl_at _ _ 1 _ rfl) (sl_at _ _ 2 _ rfl)) ?_
  rintro a1 _ ⟨hf, h0, h1, h2, rfl⟩
  refine wp_sqG (x := (cAt [1,0] KPL)) (y := (cAt [1,1] KPL)) (by kernel_rfl) ?_
  refine tkDq (zp1 w T xa n c ya m c2 la hm hmx a1 hf h0 h1 h2) ?_
  rintro a2 _ ⟨bb, hf, h0, h1, h2, h19, hbb, rfl⟩
  cases bb with
  | true =>
    refine wp_onT (A := (cAt [1,0,1,3] KPL)) (B := (cAt [1,0,1,4] KPL)) (by kernel_rfl) h19 ?_
    exact wp_endT (zp2 w w (Below.refl _ _) a2 hf) (fun a' w' h => h)
  | false =>
  obtain ⟨h12, hfew⟩ := hbb.1 rfl
  refine wp_onF (A := (cAt [1,0,1,3] KPL)) (B := (cAt [1,0,1,4] KPL)) (by kernel_rfl) h19 ?_
  refine wp_skipR (by kernel_rfl) ?_
  show Code.wp Try.prog (cAt [1,1] KPL) (bodyPost Try.prog Try.f3 (Yes w)) a2 w
  cases hmay : mayB l with
  | false =>
    refine tkDq (zp3n w T xa n c ya m c2 l hl hmay T0 T1 a2 hf h0 h1 h2) ?_
    rintro a3 w3 ⟨hf, h0, h1, h2, h7, h8, hb3⟩
    refine tkDq (zp4n w3 T xa n c ya m c2 l (hl.below hb3) hmay h12 a3 hf h0 h1 h2 h7 h8) ?_
    rintro a4 w4 ⟨hf, h7, h8, h10, hb4⟩
    refine tkDq (R := fun a' w' => w4 = w' ∧ Fr 72 a' ∧ sl a' 7 = .pointer none ∧ sl a' 8 = .int .i64 2 ∧ sl a' 10 = .int .i64 2)  ?_ ?_
    · refine tkDq (zp5n w4 a4 hf h7 h8 h10) ?_
      rintro a5 _ ⟨hf, h7, h8, h10, h43, rfl⟩
      refine wp_onF (A := (cAt [1,1,1,1,0,1,3] KPL)) (B := (cAt [1,1,1,1,0,1,4] KPL)) (by kernel_rfl) h43 ?_
      exact wp_skipR (by kernel_rfl) ⟨rfl, hf, h7, h8, h10⟩
    rintro a5 _ ⟨rfl, hf, h7, h8, h10⟩
    refine wp_sqG (x := (cAt [1,1,1,1,1,0] KPL)) (y := (cAt [1,1,1,1,1,1] KPL)) (by kernel_rfl) ?_
    refine tkDq (zp7n w4 a5 hf h7 h8 h10) ?_
    rintro a6 _ ⟨hf, h45, rfl⟩
    refine wp_onT (A := (cAt [1,1,1,1,1,0,1,3] KPL)) (B := (cAt [1,1,1,1,1,0,1,4] KPL)) (by kernel_rfl) h45 ?_
    exact wp_endT (zp8 w w4 (hb3.trans (hb4.mono hb3.size)) a6 hf) (fun a' w' h => h)
  | true =>
  refine tkDq (zp3 w T xa n c ya m c2 l hl hmay T0 T1 a2 hf h0 h1 h2) ?_
  rintro a3 w3 ⟨g, s, hf, h0, h1, h2, h7, h8, hv, hT, hn, hab⟩
  refine tkDq (zp4 w w3 T xa n c ya m c2 g s l (hl.below hv.below) hmay h12 ⟨hv, hT, hn, hab⟩ a3 hf h0 h1 h2 h7 h8) ?_
  rintro a4 w4 ⟨g2, d, hf, h2, h7, h8, h9, h10, hP⟩
  refine tkDq (R := fun a' w' => w4 = w' ∧ Fr 72 a' ∧ sl a' 2 = .slice ya m c2 ∧ sl a' 7 = .pointer (some ⟨g, 0, none⟩) ∧ sl a' 8 = .int .i64 0 ∧ sl a' 9 = .pointer (some ⟨g2, 0, none⟩) ∧ sl a' 10 = .int .i64 0)  ?_ ?_
  · refine tkDq (zp5 w4 ya m c2 g g2 a4 hf h2 h7 h8 h9 h10) ?_
    rintro a5 _ ⟨hf, h2, h7, h8, h9, h10, h43, rfl⟩
    refine wp_onF (A := (cAt [1,1,1,1,0,1,3] KPL)) (B := (cAt [1,1,1,1,0,1,4] KPL)) (by kernel_rfl) h43 ?_
    exact wp_skipR (by kernel_rfl) ⟨rfl, hf, h2, h7, h8, h9, h10⟩
  rintro a5 _ ⟨rfl, hf, h2, h7, h8, h9, h10⟩
  refine tkDq (R := fun a' w' => w4 = w' ∧ Fr 72 a' ∧ sl a' 2 = .slice ya m c2 ∧ sl a' 7 = .pointer (some ⟨g, 0, none⟩) ∧ sl a' 9 = .pointer (some ⟨g2, 0, none⟩))  ?_ ?_
  · refine tkDq (zp7 w4 ya m c2 g g2 a5 hf h2 h7 h8 h9 h10) ?_
    rintro a6 _ ⟨hf, h2, h7, h9, h45, rfl⟩
    refine wp_onF (A := (cAt [1,1,1,1,1,0,1,3] KPL)) (B := (cAt [1,1,1,1,1,0,1,4] KPL)) (by kernel_rfl) h45 ?_
    exact wp_skipR (by kernel_rfl) ⟨rfl, hf, h2, h7, h9⟩
  rintro a6 _ ⟨rfl, hf, h2, h7, h9⟩
  refine tkDq (R := fun a' w' => Pj w w' g s 0 g2 d ∧ Fr 72 a' ∧ sl a' 2 = .slice ya m c2 ∧ sl a' 7 = .pointer (some ⟨g, 0, none⟩) ∧ sl a' 9 = .pointer (some ⟨g2, 0, none⟩))  ?_ ?_
  · refine tkDq (zp9 w w4 ya m c2 g g2 s 0 d hP (by decide) a6 hf h2 h7 h9) ?_
    rintro a7 w7 ⟨hf, h2, h7, h9, h50, hP7⟩
    refine wp_onF (A := (cAt [1,1,1,1,1,1,0,1,3] KPL)) (B := (cAt [1,1,1,1,1,1,0,1,4] KPL)) (by kernel_rfl) h50 ?_
    exact wp_skipR (by kernel_rfl) ⟨hP7, hf, h2, h7, h9⟩
  rintro a7 w7 ⟨hP7, hf, h2, h7, h9⟩
  refine tkDq (R := fun a' w' => Below w.heap.size w w' ∧ Fr 72 a')  ?_ ?_
  · refine tkDq (zp11 w7 ya m c2 g g2 a7 hf h2 h7 h9) ?_
    rintro a8 _ ⟨hf, h2, h7, h9, h11, rfl⟩
    refine wp_blockR (x := (cAt [1,1,1,1,1,1,1,0,1,2] KPL)) (id := 0) (by kernel_rfl) ?_
    refine wp_loopR (x := (cAt [1,1,1,1,1,1,1,0,1,2,2] KPL)) (by kernel_rfl) (fun a' w' => ∃ k : Nat, k ≤ m ∧ PlS w ya m c2 g g2 k a' w') (fun a' _ => m - (intOf (sl a' 11)).toNat) ⟨0, Nat.zero_le _, s, d, hP7, hf, h2, h7, h9, h11⟩ ?_
    rintro a9 w9 ⟨k, hk, s9, d9, hP9, hf, h2, h7, h9, h11⟩
    have hm50 : m ≤ 50 := by have := hfew.1; rw [hm.len] at this; exact this
    by_cases hlt : k < m
    · obtain ⟨y, yb, yo, hy, hyok, hya, hyr⟩ := hm.nth hlt
      have h11o := h11
      refine tkDq (zp12 w9 ya m c2 g g2 k hlt a9 hf h2 h7 h9 h11) ?_
      rintro b1 _ ⟨hf, h2, h7, h9, h11, rfl⟩
      rw [hya] at h2
      refine tkDq (R := fun a' w' => ∃ s' d', Pj w w' g s' ((k : Int) + 1) g2 d' ∧ Fr 72 a' ∧ sl a' 2 = .slice (some ⟨yb, yo, none⟩) m c2 ∧ sl a' 7 = .pointer (some ⟨g, 0, none⟩) ∧ sl a' 9 = .pointer (some ⟨g2, 0, none⟩) ∧ sl a' 11 = .int .i64 (k : Int))  ?_ ?_
      · refine wp_blockR (x := (cAt [1,1,1,1,1,1,1,0,1,2,2,1,0,2] KPL)) (id := 1) (by kernel_rfl) ?_
        refine tkDq (zp14 w w9 yb yo m c2 g g2 k s9 k d9 y hP9 (range_kept hP9.pm.lv.below hyr) hyok (hfew.2 y (List.mem_of_getElem? hy)) (by omega) hlt hm50 b1 hf h2 h7 h9 h11) ?_
        rintro b2 w2 ⟨s', d', hf, h2, h7, h9, h11, h70, hP2⟩
        refine wp_onF (A := (cAt [1,1,1,1,1,1,1,0,1,2,2,1,0,2,1,3] KPL)) (B := (cAt [1,1,1,1,1,1,1,0,1,2,2,1,0,2,1,4] KPL)) (by kernel_rfl) h70 ?_
        exact wp_skipR (by kernel_rfl) ⟨s', d', hP2, hf, h2, h7, h9, h11⟩
      rintro b2 w2 ⟨s', d', hP2, hf, h2, h7, h9, h11⟩
      rw [← hya] at h2
      refine wp_endR (zp13 w2 ya m c2 g g2 k (by omega) b2 hf h2 h7 h9 h11) ?_
      rintro b3 _ ⟨hf, h2, h7, h9, h11', rfl⟩
      refine ⟨⟨k + 1, hlt, s', d', hP2, hf, h2, h7, h9, h11'⟩, ?_⟩
      rw [h11o, h11']
      simp only [intOf]
      omega
    · refine wp_endX (zp12x w9 ya m c2 g g2 k hlt a9 hf h2 h7 h9 h11) ?_
      rintro b1 _ ⟨hf, _, rfl⟩
      exact thru ⟨hP9.pm.lv.below, hf⟩
  rintro a8 w8 ⟨hb8, hf⟩
  exact zp16 w w8 hb8 a8 hf
end Go.Proofs.Ytpigpeehhadkjaa

/-
  What FifoPlays leans on: Pop in one form, the memory of its loop. Conditions: those that the theorems name.
-/
import Derived.Test.YtjjidjemkddebaaFiIs
namespace Go.Proofs.Ytjjidjemkddebaa
open Go.RowKit

/-- What Pop does, of any queue. -/
def PopU (w : World) (B g : Nat) (q : Qs) (e : Ending) (w' : World) : Prop :=
  ∃ (y : Pi) (q' : Qs), e = .returned (.tuple #[y.v, .bool q.abs.has]) ∧ y.it = q.abs.hd ∧ y.at_ w' ∧ Qu w' B g q' ∧ q'.abs = q.abs.pop ∧ Kept (q.foot g) w w'
theorem pop_uni (B g : Nat) (q : Qs) (w : World) (h : Qu w B g q) : Calls Try.prog 13 #[.pointer (some ⟨g, 0, none⟩)] w (PopU w B g q) := by
  refine (fPop_any B g q w h).mono ?_
  rintro e w' (⟨hL, rfl, hb⟩ | ⟨x, l, y, q', hL, rfl, hty, hq, ha, hk, _⟩)
  · refine ⟨pz, q, ?_, by simp [Aq.hd, Qs.abs, hL, pz_it], bare 0 0 _, h.below hb, by simp [Aq.pop, Qs.abs, hL], Kept.of_below hb (fun i hi hi' => by omega)⟩
    have e : q.abs.has = false := by simp [Aq.has, Qs.abs, hL]
    rw [e]
  · have hx : x.at_ w := h.x (by rw [hL]; exact List.mem_cons_self)
    have e : q.abs.has = true := by simp [Aq.has, Qs.abs, hL]
    refine ⟨y, q', by rw [e], ?_, hty.at_ hx, hq, by rw [ha]; simp [Aq.pop, Qs.abs, hL], hk⟩
    have e2 : q.abs.hd = x.it := by simp [Aq.hd, Qs.abs, hL]
    rw [e2]
    show (⟨y.no, y.sz, y.d⟩ : It) = ⟨x.no, x.sz, x.d⟩
    rw [hty.no, hty.sz, hty.d]
/-- The memory of the loop: the queue, the document's items, the box of the document's queue. -/
structure Pw (w wr : World) (g br : Nat) (q : Qs) (a : Option Addr) (m c : Nat) : Prop where
  qu : Qu wr w.heap.size g q
  rt : Rt wr a m q.abs.l
  nc : m ≤ c
  box : wr.heap[br]? = some (.cells #[.slice a m c, .int .i64 q.I, .int .i64 q.S, .int .u64 q.D] 32 (0, 0))
  ob : w.heap.size ≤ br
  below : Below w.heap.size w wr
section
variable {w wr w' : World} {g br : Nat} {q q' : Qs} {a a' : Option Addr} {m m' c c' : Nat}
theorem Pw.past (h : Pw w wr g br q a m c) (k : Below wr.heap.size wr w') : Pw w w' g br q a m c :=
  ⟨h.qu.below k, h.rt.below k, h.nc, (k.block _ (Array.getElem?_eq_some_iff.1 h.box).1).trans h.box, h.ob, h.below.trans (k.mono h.below.size)⟩
theorem Pw.len (h : Pw w wr g br q a m c) : m = q.L.length := by
  have := h.rt.len
  simp [Qs.abs] at this
  exact this.symm
theorem Pw.ok (h : Pw w wr g br q a m c) (hD : q.D < 18446744073709551615) : q.abs.ok := h.qu.ok.abs (fun x hx => (h.qu.data x hx).2.1) hD
theorem Pw.m6 (h : Pw w wr g br q a m c) : m ≤ 65536 := by
  have h1 := h.qu.ok.le
  have h2 := h.qu.ok.mI
  have h3 := h.qu.ok.I1
  have h4 := h.len
  omega
/-- The program's queue has changed; the document's is as it was. -/
theorem Pw.did (h : Pw w wr g br q a m c) (k : Kept (q.foot g) wr w') : Rt w' a m q.abs.l ∧ w'.heap[br]? = some (.cells #[.slice a m c, .int .i64 q.I, .int .i64 q.S, .int .u64 q.D] 32 (0, 0)) ∧ Below w.heap.size w w' :=
  ⟨h.rt.keep k (fun _ _ hb => h.qu.apart hb (by decide) (by decide) (by decide)), k.heap h.box (h.qu.apart h.box (by decide) (by decide) (by decide)), h.below.trans (k.below h.below.size (fun _ e => (h.qu.foot_lt e).1))⟩
end
/-- The item of an act, its data in memory of the call's own. -/
structure Xw (w wr : World) (g br px : Nat) (q : Qs) (x : Pi) : Prop where
  row : wr.heap[px]? = some (.cells x.cs.toArray 37 (0, 0))
  own : Own wr w.heap.size x.a x.n x.c x.d
  nf : ∀ b, blk x.a = some b → ¬ q.foot g b
  npx : ¬ q.foot g px
  ob : w.heap.size ≤ px
  byt : Byt x.d
  few : x.n ≤ 60
theorem Xw.past {w wr w' : World} {g br px : Nat} {q : Qs} {x : Pi} (h : Xw w wr g br px q x) (k : Below wr.heap.size wr w') : Xw w w' g br px q x :=
  ⟨(k.block _ (Array.getElem?_eq_some_iff.1 h.row).1).trans h.row, h.own.keep (S := fun _ => False) (Kept.of_below k (fun i hi hi' => by omega)) (fun _ _ => id), h.nf, h.npx, h.ob, h.byt, h.few⟩
theorem Xw.at_ {w wr : World} {g br px : Nat} {q : Qs} {x : Pi} (h : Xw w wr g br px q x) : x.at_ wr := ⟨h.own.len, h.own.rd, h.byt, by have := h.few; omega⟩
/-- Between: the document's new queue lies in a box of its own, not yet in the loop's. -/
structure Pp (w wr : World) (g br bn : Nat) (q : Qs) (a : Option Addr) (m c : Nat) : Prop where
  qu : Qu wr w.heap.size g q
  rt : Rt wr a m q.abs.l
  nc : m ≤ c
  nu : wr.heap[bn]? = some (.cells #[.slice a m c, .int .i64 q.I, .int .i64 q.S, .int .u64 q.D] 32 (0, 0))
  box : ∃ u0 u1 u2 u3, wr.heap[br]? = some (.cells #[u0, u1, u2, u3] 32 (0, 0))
  ob : w.heap.size ≤ br
  below : Below w.heap.size w wr
section
variable {w wr w' : World} {g br bn px : Nat} {q q' : Qs} {a a' : Option Addr} {m m' c c' : Nat} {x : Pi}
theorem Pp.past (h : Pp w wr g br bn q a m c) (k : Below wr.heap.size wr w') : Pp w w' g br bn q a m c := by
  obtain ⟨u0, u1, u2, u3, hb⟩ := h.box
  exact ⟨h.qu.below k, h.rt.below k, h.nc, (k.block _ (Array.getElem?_eq_some_iff.1 h.nu).1).trans h.nu, ⟨u0, u1, u2, u3, (k.block _ (Array.getElem?_eq_some_iff.1 hb).1).trans hb⟩, h.ob, h.below.trans (k.mono h.below.size)⟩
theorem Pp.store (h : Pp w wr g br bn q a m c) : Pw w (wr.setCells br 0 [.slice a m c, .int .i64 q.I, .int .i64 q.S, .int .u64 q.D]) g br q a m c := by
  obtain ⟨u0, u1, u2, u3, hb⟩ := h.box
  have hr := row4_set hb (.slice a m c) (.int .i64 q.I) (.int .i64 q.S) (.int .u64 q.D)
  have hk : Kept (fun i => i = br) wr (wr.setCells br 0 [.slice a m c, .int .i64 q.I, .int .i64 q.S, .int .u64 q.D]) := Kept.setCells (S := fun i => i = br) br rfl _ _ (Kept.refl _ _)
  have hbf : ¬ q.foot g br := h.qu.apart hb (by decide) (by decide) (by decide)
  refine ⟨h.qu.keep hk (fun i hi e => hbf (e ▸ hi)), h.rt.keep hk (fun b cur hb' e => ?_), h.nc, hr, h.ob, h.below.trans (hk.below h.below.size (fun i e => by have := h.ob; omega))⟩
  rw [e, hb] at hb'
  simp at hb'
/-- The program's queue has changed, and the document's new one stands in a box. -/
theorem Pw.step (h : Pw w wr g br q a m c) (hq : Qu w' w.heap.size g q') (k : Kept (q.foot g) wr w') (hr : Rt wr a' m' q'.abs.l) (hc : m' ≤ c')
    (hn : wr.heap[bn]? = some (.cells #[.slice a' m' c', .int .i64 q'.I, .int .i64 q'.S, .int .u64 q'.D] 32 (0, 0))) : Pp w w' g br bn q' a' m' c' := by
  obtain ⟨_, hb, hbl⟩ := h.did k
  exact ⟨hq, hr.keep k (fun _ _ hb => h.qu.apart hb (by decide) (by decide) (by decide)), hc, k.heap hn (h.qu.apart hn (by decide) (by decide) (by decide)), ⟨_, _, _, _, hb⟩, h.ob, hbl⟩
theorem Pw.inc (h : Pw w wr g br q a m c) (hx : Xw w wr g br px q x) (hi : Inc wr w.heap.size x.a x.n x.c w') : Pw w w' g br q a m c := by
  obtain ⟨zs, ho, hk⟩ := hi
  refine ⟨h.qu.keep hk (fun i hi e => hx.nf i e hi), h.rt.keep hk (fun b cur hb e => ?_), h.nc, hk.heap h.box (fun e => ?_), h.ob, h.below.trans (hk.below h.below.size (fun i e => ?_))⟩
  · obtain ⟨cur', hc⟩ := hx.own.kind e
    rw [hb] at hc
    simp at hc
  · obtain ⟨cur', hc⟩ := hx.own.kind e
    rw [h.box] at hc
    simp at hc
  · rcases ho.cases with ⟨e0, _, _⟩ | ⟨g', cur, e0, hB, _, _⟩
    · rw [e0] at e
      cases e
    · rw [e0] at e
      simp [blk] at e
      omega
theorem Xw.inc (hx : Xw w wr g br px q x) (hi : Inc wr w.heap.size x.a x.n x.c w') : w'.heap[px]? = some (.cells x.cs.toArray 37 (0, 0)) := by
  obtain ⟨zs, ho, hk⟩ := hi
  refine hk.heap hx.row (fun e => ?_)
  obtain ⟨cur', hc⟩ := hx.own.kind e
  rw [hx.row] at hc
  simp at hc
theorem Xw.did (h : Xw w wr g br px q x) (k : Kept (q.foot g) wr w') (hf : ∀ k, q'.foot g k → q.foot g k ∨ wr.heap.size ≤ k) : Xw w w' g br px q' x :=
  ⟨k.heap h.row h.npx, h.own.keep k h.nf, fun b hb hf' => (hf b hf').elim (h.nf b hb) (fun hge => by
    obtain ⟨cur, hc⟩ := h.own.kind hb
    have := (Array.getElem?_eq_some_iff.1 hc).1
    omega), fun e => (hf px e).elim h.npx (fun hge => by
    have := (Array.getElem?_eq_some_iff.1 h.row).1
    omega), h.ob, h.byt, h.few⟩
/-- The loop's box takes the document's new queue; the act's item is as it was. -/
theorem Xw.store (h : Xw w wr g br px q x) {b : Nat} {u0 u1 u2 u3 : Value} (hb : wr.heap[b]? = some (.cells #[u0, u1, u2, u3] 32 (0, 0))) (k : Kept (fun i => i = b) wr w') : Xw w w' g br px q x :=
  ⟨k.heap h.row (fun e => by have := h.row; rw [e, hb] at this; simp at this), h.own.keep k (fun i hi e => by
    obtain ⟨cur, hc⟩ := h.own.kind hi
    rw [e, hb] at hc
    simp at hc), h.nf, h.npx, h.ob, h.byt, h.few⟩
end
def IsB (v : Value) : Prop := ∃ b, v = .bool b
end Go.Proofs.Ytjjidjemkddebaa

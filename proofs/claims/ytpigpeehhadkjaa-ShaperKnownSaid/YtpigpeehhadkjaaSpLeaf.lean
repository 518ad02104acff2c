/-
  A shaper's lane in memory; the contracts of sync/atomic's Add and Load at its counts, of a lane's send, offer, head, stat. Conditions: those that the theorems name.
-/
import Derived.Test.YtpigpeehhadkjaaSpM
import Derived.Laws.LoneSync
namespace Go.Proofs.Ytpigpeehhadkjaa
open Go.RowKit Bkt

theorem addU_any (a : Addr) (x n : Int) (w : World) (hc : w.cell? a = some (.int .u64 x)) (hz : w.frozen? a = false) :
    Calls Try.prog 52 #[.pointer (some a), .int .u64 n] w fun e w' => e = .returned (.int .u64 (up x n)) ∧ w' = w.setCell a (.int .u64 (up x n)) := by
  obtain ⟨b, o, s⟩ := a
  have hs : s = none := by
    obtain ⟨_, _, _, _, h⟩ := World.shape?_of_cell? hc
    exact h
  subst hs
  have hadd := run_call_add (P := Try.prog) Try.func67 (by kernel_rfl) (by kernel_rfl) (by kernel_rfl) .u64 (by kernel_rfl) (y := n) (s := up x n) hc hz rfl
  go_enter Try.func52, Try.ntmps52
  go_wp2_with fail
  go_ret
  exact ⟨rfl, rfl⟩
theorem loadU_any (a : Addr) (x : Int) (w : World) (hc : w.cell? a = some (.int .u64 x)) :
    Calls Try.prog 57 #[.pointer (some a)] w fun e w' => e = .returned (.int .u64 x) ∧ w' = w := by
  obtain ⟨b, o, s⟩ := a
  have hs : s = none := by
    obtain ⟨_, _, _, _, h⟩ := World.shape?_of_cell? hc
    exact h
  subst hs
  have hld := run_call_load (P := Try.prog) Try.func71 (by kernel_rfl) (by kernel_rfl) (by kernel_rfl) .u64 (by kernel_rfl) hc
  go_enter Try.func57, Try.ntmps57
  go_wp2_with fail
  go_ret
  exact ⟨rfl, rfl⟩

/-- A lane: where it lies, its bucket, its queue, its counts. -/
structure La where
  g : Nat
  gb : Nat
  gq : Nat
  b : Bu
  q : Qs
  o : Int
  d : Int
  u : Int
  y : Int
def La.cs (l : La) : List Value := [.int .u64 l.o, .int .u64 l.d, .int .u64 l.u, .int .u64 l.y, .pointer (some ⟨l.gb, 0, none⟩), .pointer (some ⟨l.gq, 0, none⟩)]
def La.foot (l : La) (k : Nat) : Prop := k = l.g ∨ k = l.gb ∨ l.q.foot l.gq k
def La.abs (l : La) : Ab := ⟨l.b, l.q.abs, l.o, l.d, l.u, l.y⟩
structure Lw (w : World) (B : Nat) (l : La) : Prop where
  row : w.heap[l.g]? = some (.cells l.cs.toArray 88 (0, 0))
  bk : Bk w l.gb l.b
  qu : Qu w B l.gq l.q
  bg : B ≤ l.g
  bb : B ≤ l.gb
section
variable {w w' : World} {B : Nat} {l : La}
theorem Lw.c0 (h : Lw w B l) : w.cell? ⟨l.g, 0, none⟩ = some (.int .u64 l.o) := by rw [cell_of_row w l.g 0 _ _ (0, 0) h.row]; rfl
theorem Lw.c1 (h : Lw w B l) : w.cell? ⟨l.g, 1, none⟩ = some (.int .u64 l.d) := by rw [cell_of_row w l.g 1 _ _ (0, 0) h.row]; rfl
theorem Lw.c2 (h : Lw w B l) : w.cell? ⟨l.g, 2, none⟩ = some (.int .u64 l.u) := by rw [cell_of_row w l.g 2 _ _ (0, 0) h.row]; rfl
theorem Lw.c3 (h : Lw w B l) : w.cell? ⟨l.g, 3, none⟩ = some (.int .u64 l.y) := by rw [cell_of_row w l.g 3 _ _ (0, 0) h.row]; rfl
theorem Lw.c4 (h : Lw w B l) : w.cell? ⟨l.g, 4, none⟩ = some (.pointer (some ⟨l.gb, 0, none⟩)) := by rw [cell_of_row w l.g 4 _ _ (0, 0) h.row]; rfl
theorem Lw.c5 (h : Lw w B l) : w.cell? ⟨l.g, 5, none⟩ = some (.pointer (some ⟨l.gq, 0, none⟩)) := by rw [cell_of_row w l.g 5 _ _ (0, 0) h.row]; rfl
theorem Lw.frozen (h : Lw w B l) (j : Nat) : w.frozen? ⟨l.g, j, none⟩ = false := frozen_of_row w l.g j _ _ h.row
theorem Lw.keep {S : Nat → Prop} (h : Lw w B l) (k : Kept S w w') (hs : ∀ i, l.foot i → ¬ S i) : Lw w' B l :=
  ⟨k.heap h.row (hs _ (.inl rfl)), h.bk.keep k (hs _ (.inr (.inl rfl))), h.qu.keep k (fun i hi => hs i (.inr (.inr hi))), h.bg, h.bb⟩
theorem Lw.foot_lt (h : Lw w B l) {k : Nat} (hk : l.foot k) : B ≤ k ∧ k < w.heap.size := by
  rcases hk with rfl | rfl | hk
  · exact ⟨h.bg, (Array.getElem?_eq_some_iff.1 h.row).1⟩
  · exact ⟨h.bb, h.bk.lt⟩
  · exact h.qu.foot_lt hk
theorem Lw.below (h : Lw w B l) (k : Below w.heap.size w w') : Lw w' B l := h.keep (S := fun _ => False) (Kept.of_below k (fun i hi hi' => by omega)) (fun _ _ => id)
theorem Lw.kind (h : Lw w B l) {k : Nat} (hk : l.foot k) : ∃ cur t, w.heap[k]? = some (.cells cur t (0, 0)) ∧ (t = 88 ∨ t = 124 ∨ t = 122 ∨ t = 40 ∨ t = 5) := by
  rcases hk with rfl | rfl | hk
  · exact ⟨_, _, h.row, .inl rfl⟩
  · exact ⟨_, _, h.bk.2, .inr (.inl rfl)⟩
  · obtain ⟨c, t, e, ht⟩ := h.qu.kind hk
    exact ⟨c, t, e, .inr (.inr ht)⟩
theorem Lw.apart (h : Lw w B l) {k : Nat} {cur : Array Value} {t : TypeId} (hk : w.heap[k]? = some (.cells cur t (0, 0))) (h0 : t ≠ 88) (h1 : t ≠ 124) (h2 : t ≠ 122) (h3 : t ≠ 40) (h4 : t ≠ 5) : ¬ l.foot k := fun hf => by
  obtain ⟨cur', t', e, ht⟩ := h.kind hf
  rw [hk] at e
  simp at e
  rcases ht with rfl | rfl | rfl | rfl | rfl
  · exact h0 e.2
  · exact h1 e.2
  · exact h2 e.2
  · exact h3 e.2
  · exact h4 e.2
theorem Lw.ne_q (h : Lw w B l) {k : Nat} (hk : l.q.foot l.gq k) : k ≠ l.g ∧ k ≠ l.gb := by
  obtain ⟨c, t, e, ht⟩ := h.qu.kind hk
  constructor
  · rintro rfl
    rw [h.row] at e
    simp at e
    rcases ht with rfl | rfl | rfl <;> exact absurd e.2 (by decide)
  · rintro rfl
    rw [h.bk.2] at e
    simp at e
    rcases ht with rfl | rfl | rfl <;> exact absurd e.2 (by decide)
theorem Lw.ne_gb (h : Lw w B l) : l.g ≠ l.gb := fun e => by
  have := h.bk.2
  rw [← e, h.row] at this
  simp at this
theorem Lw.queue (h : Lw w B l) {q' : Qs} (hq : Qu w' B l.gq q') (k : Kept (l.q.foot l.gq) w w') : Lw w' B { l with q := q' } ∧ Kept l.foot w w' :=
  ⟨⟨k.heap h.row (fun e => (h.ne_q e).1 rfl), h.bk.keep k (fun e => (h.ne_q e).2 rfl), hq, h.bg, h.bb⟩, k.mono (fun _ _ e => .inr (.inr e))⟩
theorem Lw.bucket (h : Lw w B l) {b' : Bu} (hb : Bk w' l.gb b') (k : Kept (fun i => i = l.gb) w w') : Lw w' B { l with b := b' } ∧ Kept l.foot w w' :=
  ⟨⟨k.heap h.row h.ne_gb, hb, h.qu.keep k (fun _ hi e => (h.ne_q hi).2 e), h.bg, h.bb⟩, k.mono (fun _ _ e => .inr (.inl e))⟩
theorem Lw.set (h : Lw w B l) (j : Nat) (v : Value) (l' : La) (hg : l'.g = l.g) (hgb : l'.gb = l.gb) (hgq : l'.gq = l.gq) (hb : l'.b = l.b) (hq : l'.q = l.q) (hcs : l.cs.set j v = l'.cs) : Lw (w.setCell ⟨l.g, j, none⟩ v) B l' ∧ Kept l.foot w (w.setCell ⟨l.g, j, none⟩ v) := by
  have k : Kept (fun i => i = l.g) w (w.setCell ⟨l.g, j, none⟩ v) := Kept.setCell _ _ _ rfl
  refine ⟨⟨?_, ?_, ?_, by rw [hg]; exact h.bg, by rw [hgb]; exact h.bb⟩, k.mono (fun _ _ e => .inl e)⟩
  · rw [hg, heap_setCell_same w l.g j _ _ _ h.row, ← hcs]
    simp
  · rw [hgb, hb]; exact h.bk.keep k (fun e => h.ne_gb e.symm)
  · rw [hgq, hq]; exact h.qu.keep k (fun _ hi e => (h.ne_q hi).1 e)
end
theorem cntO_any (B : Nat) (l : La) (n : Int) (w : World) (h : Lw w B l) : Calls Try.prog 52 #[.pointer (some ⟨l.g, 0, none⟩), .int .u64 n] w fun e w' => e = .returned (.int .u64 (up l.o n)) ∧ Lw w' B { l with o := up l.o n } ∧ Kept l.foot w w' :=
  (addU_any _ l.o n w h.c0 (h.frozen 0)).mono (by rintro e w' ⟨rfl, rfl⟩; exact ⟨rfl, h.set 0 _ _ rfl rfl rfl rfl rfl rfl⟩)
theorem cntD_any (B : Nat) (l : La) (n : Int) (w : World) (h : Lw w B l) : Calls Try.prog 52 #[.pointer (some ⟨l.g, 1, none⟩), .int .u64 n] w fun e w' => e = .returned (.int .u64 (up l.d n)) ∧ Lw w' B { l with d := up l.d n } ∧ Kept l.foot w w' :=
  (addU_any _ l.d n w h.c1 (h.frozen 1)).mono (by rintro e w' ⟨rfl, rfl⟩; exact ⟨rfl, h.set 1 _ _ rfl rfl rfl rfl rfl rfl⟩)
theorem cntU_any (B : Nat) (l : La) (n : Int) (w : World) (h : Lw w B l) : Calls Try.prog 52 #[.pointer (some ⟨l.g, 2, none⟩), .int .u64 n] w fun e w' => e = .returned (.int .u64 (up l.u n)) ∧ Lw w' B { l with u := up l.u n } ∧ Kept l.foot w w' :=
  (addU_any _ l.u n w h.c2 (h.frozen 2)).mono (by rintro e w' ⟨rfl, rfl⟩; exact ⟨rfl, h.set 2 _ _ rfl rfl rfl rfl rfl rfl⟩)
theorem cntY_any (B : Nat) (l : La) (n : Int) (w : World) (h : Lw w B l) : Calls Try.prog 52 #[.pointer (some ⟨l.g, 3, none⟩), .int .u64 n] w fun e w' => e = .returned (.int .u64 (up l.y n)) ∧ Lw w' B { l with y := up l.y n } ∧ Kept l.foot w w' :=
  (addU_any _ l.y n w h.c3 (h.frozen 3)).mono (by rintro e w' ⟨rfl, rfl⟩; exact ⟨rfl, h.set 3 _ _ rfl rfl rfl rfl rfl rfl⟩)
end Go.Proofs.Ytpigpeehhadkjaa

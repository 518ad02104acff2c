/-
  What the statements' comparison of a queue with the document's leans on. Conditions: those that the theorems name.
-/
import Derived.Test.YtjjidjemkddebaaFiOpen
import Derived.Test.YtjjidjemkddebaaPieces
namespace Go.Proofs.Ytjjidjemkddebaa
open Go.RowKit

theorem Qs.ok.abs {q : Qs} (h : q.ok) (hb : ∀ x ∈ q.L, Byt x.d) (hD : q.D < 18446744073709551615) : q.abs.ok := by
  refine ⟨fun x hx => ?_, ?_, h.S1, h.D0, hD, ?_, fun x hx => ?_⟩
  · obtain ⟨y, hy, rfl⟩ := List.mem_map.1 hx
    exact h.sz y hy
  · rw [abs_size]; exact h.sum
  · have h1 := h.le
    have h2 := h.mI
    have h3 := h.I1
    have e : q.abs.l.length = q.L.length := by simp [Qs.abs]
    omega
  · obtain ⟨y, hy, rfl⟩ := List.mem_map.1 hx
    exact hb y hy
/-- What stays while a queue is looked at: the queue, the document's items, the box of the document's queue. -/
structure Iw (w wr : World) (B g bx : Nat) (q : Qs) (a : Option Addr) (n c : Nat) : Prop where
  qu : Qu wr B g q
  rt : Rt wr a n q.abs.l
  box : wr.heap[bx]? = some (.cells #[.slice a n c, .int .i64 q.I, .int .i64 q.S, .int .u64 q.D] 32 (0, 0))
  below : Below w.heap.size w wr
theorem Iw.past {w wr w' : World} {B g bx : Nat} {q : Qs} {a : Option Addr} {n c : Nat} (h : Iw w wr B g bx q a n c) (k : Below wr.heap.size wr w') : Iw w w' B g bx q a n c :=
  ⟨h.qu.below k, h.rt.below k, (k.block _ (Array.getElem?_eq_some_iff.1 h.box).1).trans h.box, h.below.trans (k.mono h.below.size)⟩
theorem Iw.len {w wr : World} {B g bx : Nat} {q : Qs} {a : Option Addr} {n c : Nat} (h : Iw w wr B g bx q a n c) : n = q.L.length := by
  have := h.rt.len
  simp [Qs.abs] at this
  exact this.symm
/-- Between two items that are looked at: from one on their data are as they were answered. -/
structure Iv (Wt wr : World) (v : Option Addr) (m c : Nat) (ys : List Pi) (k : Nat) : Prop where
  below : Below Wt.heap.size Wt wr
  row : OwnG wr Wt.heap.size 37 3 v m c (rws ys)
  data : ∀ j (h : j < ys.length), k ≤ j → Own wr Wt.heap.size (ys[j]'h).a (ys[j]'h).n (ys[j]'h).c (ys[j]'h).d
theorem Iv.start {Wt w' : World} {v : Option Addr} {m c : Nat} {ys : List Pi} (h : Cps w' Wt.heap.size v m c ys) (hb : Below Wt.heap.size Wt w') : Iv Wt w' v m c ys 0 := ⟨hb, h.row, fun _ hj _ => h.data _ (List.getElem_mem hj)⟩
theorem Iv.past {Wt wr w' : World} {v : Option Addr} {m c : Nat} {ys : List Pi} {k : Nat} (h : Iv Wt wr v m c ys k) (hb : Below wr.heap.size wr w') : Iv Wt w' v m c ys k :=
  ⟨h.below.trans (hb.mono h.below.size), h.row.below hb, fun j hj hk => (h.data j hj hk).keep (S := fun _ => False) (Kept.of_below hb (fun i hi hi' => by omega)) (fun _ _ => id)⟩
theorem Iv.next {Wt w' wr : World} {v : Option Addr} {m c : Nat} {ys : List Pi} {k : Nat} (h : Iv Wt w' v m c ys k) (hap : ys.Pairwise (fun o p => ∀ k, blk o.a = some k → blk p.a ≠ some k)) (hk : k < ys.length) (hi : Inc w' Wt.heap.size (ys[k]'hk).a (ys[k]'hk).n (ys[k]'hk).c wr) : Iv Wt wr v m c ys (k + 1) := by
  obtain ⟨zs, ho, hkp⟩ := hi
  have hd := h.data k hk (Nat.le_refl _)
  have hbk : ∀ b, blk (ys[k]'hk).a = some b → Wt.heap.size ≤ b := fun b e => (hd.blk_ge b e).1
  refine ⟨h.below.trans (hkp.below h.below.size (fun i e => hbk i e)), ?_, fun j hj hkj => ?_⟩
  · exact h.row.keep hkp (fun b hb e => (own_of hd).apart h.row (by decide) b e hb)
  · refine (h.data j hj (by omega)).keep hkp (fun b hb e => ?_)
    exact List.pairwise_iff_getElem.1 hap k j hk hj (by omega) b e hb
/-- The item at a place of a row. -/
theorem Iv.item {Wt wr : World} {v : Option Addr} {m c : Nat} {ys : List Pi} {k : Nat} (h : Iv Wt wr v m c ys k) {i : Nat} {y : Pi} (hy : ys[i]? = some y) : ∃ g2, v = some ⟨g2, 0, none⟩ ∧ Wt.heap.size ≤ g2 ∧ (∃ cur, wr.heap[g2]? = some (.cells cur 37 (0, 0))) ∧ wr.rangeAt g2 (i * 3) y.cs := by
  have hne : rws ys ≠ [] := by
    intro e
    have h1 := rws_len ys
    rw [e] at h1
    have h2 := (List.getElem?_eq_some_iff.1 hy).1
    simp at h1
    omega
  rcases h.row.cases with ⟨_, _, _, e2⟩ | ⟨g2, cur, rfl, hb, hg, _⟩
  · exact absurd e2 hne
  · refine ⟨g2, rfl, hb, ⟨cur, hg⟩, fun j u hu => ?_⟩
    have hj : j < 3 := (List.getElem?_eq_some_iff.1 hu).1
    obtain ⟨g3, e3, hc⟩ := h.row.cell hne
    simp at e3
    subst e3
    have := hc (i * 3 + j) u (by rw [rws_at hy j hj]; exact hu)
    rwa [Nat.zero_add] at this
theorem its_nth {ys L : List Pi} (h : ys.map Pi.it = L.map Pi.it) {k : Nat} {y : Pi} (hy : ys[k]? = some y) : (L.map Pi.it)[k]? = some y.it := by
  rw [← h, List.getElem?_map, hy]; rfl
end Go.Proofs.Ytjjidjemkddebaa

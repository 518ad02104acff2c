/-
  What DiskPlays leans on: reads that may be refused, bytes of a row and of a write's data that are written over. Conditions: those that the theorems name.
-/
import Derived.Test.YtbghdlgfpfeaeaaDkSd
import Derived.Test.YtbghdlgfpfeaeaaDkSame2
namespace Go.Proofs.Ytbghdlgfpfeaeaa
open Go.RowKit

/-- What a read answers: some bytes of all, or none. -/
def rdV (D d : List Int) (p n : Int) : List Int := if rcV d p n = 0 then cutD D p.toNat n.toNat else []
theorem rdV_byt {D d : List Int} {p n : Int} (h : Byt D) : Byt (rdV D d p n) := by
  unfold rdV
  split
  · exact (h.drop _).take _
  · exact Byt.nil
/-- Bytes are answered, with a code. -/
def MadeC (w : World) (c : Int) (xs : List Int) (e : Ending) (w' : World) : Prop := ∃ a n cc, e = .returned (.tuple #[.slice a n cc, .int .i64 c]) ∧ Own w' w.heap.size a n cc xs ∧ Below w.heap.size w w'
theorem rcV_no {d : List Int} {p n : Int} (h : rcV d p n ≠ 0) : rcV d p n = 130 := by
  unfold rcV at h ⊢
  split at h <;> simp_all
theorem madeC_no {w w' : World} {D d : List Int} {p n : Int} (h : rcV d p n ≠ 0) (hb : Below w.heap.size w w') : MadeC w (rcV d p n) (rdV D d p n) (.returned (.tuple #[.slice none 0 0, .int .i64 130])) w' :=
  ⟨none, 0, 0, by rw [rcV_no h], by unfold rdV; rw [if_neg h]; exact Own.nil _ _, hb⟩
theorem madeC_ok {w w' : World} {D d : List Int} {p n : Nat} {e : Ending} (h : rcV d p n = 0) (hm : MadeT w (cutD D p n) e w') : MadeC w (rcV d p n) (rdV D d p n) e w' := by
  obtain ⟨a, l, c, rfl, ho, hb⟩ := hm
  refine ⟨a, l, c, by rw [h], ?_, hb⟩
  unfold rdV
  rw [if_pos h, Int.toNat_natCast, Int.toNat_natCast]
  exact ho
theorem dkRead_uni (B g : Nat) (k : Dk) (p n : Int) (w : World) (h : Dm w B g k) (hp : I64 p) : Calls Try.prog 12 #[.pointer (some ⟨g, 0, none⟩), .int .i64 p, .int .i64 n] w (MadeC w (rcV k.d p n) (rdV (nowP k.d k.ws) k.d p n)) := by
  by_cases hr : rcV k.d p n = 0
  · have h3 := rcV_ok hr
    obtain ⟨p, rfl⟩ := Int.eq_ofNat_of_zero_le h3.1
    obtain ⟨n, rfl⟩ := Int.eq_ofNat_of_zero_le h3.2.1
    exact (dkRead_step B g k p n w h (by omega)).mono fun e w' hm => madeC_ok hr hm
  · refine (dkRead_no B g k p n w h hp hr).mono ?_
    rintro e w' ⟨rfl, rfl⟩
    exact madeC_no hr (Below.refl _ _)
theorem dkDurable_uni (B g : Nat) (k : Dk) (p n : Int) (w : World) (h : Dm w B g k) (hp : I64 p) : Calls Try.prog 15 #[.pointer (some ⟨g, 0, none⟩), .int .i64 p, .int .i64 n] w (MadeC w (rcV k.d p n) (rdV k.d k.d p n)) := by
  by_cases hr : rcV k.d p n = 0
  · have h3 := rcV_ok hr
    obtain ⟨p, rfl⟩ := Int.eq_ofNat_of_zero_le h3.1
    obtain ⟨n, rfl⟩ := Int.eq_ofNat_of_zero_le h3.2.1
    exact (dkDurable_any B g k p n w h (by omega)).mono fun e w' hm => madeC_ok hr hm
  · refine (dkDurable_no B g k p n w h hp hr).mono ?_
    rintro e w' ⟨rfl, rfl⟩
    exact madeC_no hr (Below.refl _ _)
theorem part_uni (r : Rk) (D : List Int) (p n : Int) (w : World) (hp : I64 p) (hd : r.d.length ≤ 65536) (hx : D.length = r.d.length) (hxb : Byt D) : Calls Try.prog 35 #[r.v, .string (str D), .int .i64 p, .int .i64 n] w (MadeC w (rcV r.d p n) (rdV D r.d p n)) := by
  by_cases hr : rcV r.d p n = 0
  · have h3 := rcV_ok hr
    obtain ⟨p, rfl⟩ := Int.eq_ofNat_of_zero_le h3.1
    obtain ⟨n, rfl⟩ := Int.eq_ofNat_of_zero_le h3.2.1
    exact (part_any r D p n w hd hx hxb (by omega)).mono fun e w' hm => madeC_ok hr hm
  · refine (part_no r (str D) p n w hp hd hr).mono ?_
    rintro e w' ⟨rfl, hb⟩
    exact madeC_no hr hb
/-- A byte of a row is written over. -/
theorem Ms.setB {w wr : World} {l : List Th} {a : Option Addr} {n c : Nat} {xs : List Int} (h : Ms w wr (.row a n c xs :: l)) {j : Nat} (hj : j < n) : ∃ g, a = some ⟨g, 0, none⟩ ∧ wr.cell? ⟨g, j, none⟩ = some (.int .u8 (xs.getD j 0)) ∧ wr.frozen? ⟨g, j, none⟩ = false ∧
    ∀ v : Int, Ms w (wr.setCell ⟨g, j, none⟩ (.int .u8 v)) (.row a n c (xs.set j v) :: l) := by
  have ho : Own wr w.heap.size a n c xs := h.hd
  obtain ⟨g, rfl⟩ := ho.addr (by omega)
  obtain ⟨g', cur, e, _, hg, _⟩ := ho.cases.resolve_left (by rintro ⟨e, _⟩; cases e)
  simp only [Option.some.injEq, Addr.mk.injEq, and_true] at e
  subst e
  refine ⟨g, rfl, ho.cell hj, frozen_of_row wr g j cur _ hg, fun v => ?_⟩
  refine h.step (t' := .row (some ⟨g, 0, none⟩) n c (xs.set j v)) (ho.set j v) (Kept.setCell (S := fun i => blk (some ⟨g, 0, none⟩) = some i) _ _ _ rfl) (fun i hi => .inl hi)
/-- A byte of a write's data is written over. -/
theorem Ms.setW {w wr : World} {l : List Th} {a : Option Addr} {c : Nat} {L : List Uw} (h : Ms w wr (.wts a c L :: l)) {q : Nat} {x : Uw} (hx : L[q]? = some x) {j : Nat} (hj : j < x.n) : ∃ g, x.a = some ⟨g, 0, none⟩ ∧ wr.cell? ⟨g, j, none⟩ = some (.int .u8 (x.d.getD j 0)) ∧ wr.frozen? ⟨g, j, none⟩ = false ∧
    ∀ v : Int, Ms w (wr.setCell ⟨g, j, none⟩ (.int .u8 v)) (.wts a c (L.set q { x with d := x.d.set j v }) :: l) := by
  have hu : Uws wr w.heap.size a c L := h.hd
  have hxm := List.mem_of_getElem? hx
  have hq := (List.getElem?_eq_some_iff.1 hx).1
  have ho := hu.data x hxm
  obtain ⟨g, hg⟩ := ho.addr (by omega)
  have ho2 := ho
  rw [hg] at ho2
  obtain ⟨g', cur, e, _, hc, _⟩ := ho2.cases.resolve_left (by rintro ⟨e, _⟩; cases e)
  simp only [Option.some.injEq, Addr.mk.injEq, and_true] at e
  subst e
  refine ⟨g, hg, ho2.cell hj, frozen_of_row wr g j cur _ hc, fun v => ?_⟩
  have hk : Kept (fun i => i = g) wr (wr.setCell ⟨g, j, none⟩ (.int .u8 v)) := Kept.setCell _ _ _ rfl
  have hwts : wts (L.set q { x with d := x.d.set j v }) = wts L := by
    refine List.ext_getElem? (fun i => ?_)
    have hlen : (wts (L.set q { x with d := x.d.set j v })).length = (wts L).length := by rw [wts_len, wts_len, List.length_set]
    by_cases hi : i < (wts L).length
    · have hi2 := hi
      rw [wts_len] at hi2
      obtain ⟨y, hy⟩ : ∃ y, L[i / 2]? = some y := ⟨_, List.getElem?_eq_getElem (by omega)⟩
      have e1 : i / 2 * 2 + i % 2 = i := by omega
      have h1 := wts_at hy (i % 2) (by omega)
      rw [e1] at h1
      by_cases e : q = i / 2
      · subst e
        rw [hx] at hy
        cases hy
        have h2 := wts_at (l := L.set (i / 2) { x with d := x.d.set j v }) (i := i / 2) (x := { x with d := x.d.set j v }) (by rw [List.getElem?_set_self hq]) (i % 2) (by omega)
        rw [e1] at h2
        rw [h1, h2]
        rfl
      · have h2 := wts_at (l := L.set q { x with d := x.d.set j v }) (i := i / 2) (x := y) (by rw [List.getElem?_set_ne e]; exact hy) (i % 2) (by omega)
        rw [e1] at h2
        rw [h1, h2]
    · rw [List.getElem?_eq_none (by omega), List.getElem?_eq_none (by omega)]
  have hap : ∀ y i, L[i]? = some y → i ≠ q → ∀ b, blk y.a = some b → b ≠ g := fun y i hy hne b hb e => by
    subst e
    have hp := List.pairwise_iff_getElem.1 hu.apart
    obtain ⟨hi1, hi2⟩ := List.getElem?_eq_some_iff.1 hy
    obtain ⟨hq1, hq2⟩ := List.getElem?_eq_some_iff.1 hx
    have hxb : blk x.a = some b := by rw [hg]; rfl
    rcases Nat.lt_or_gt_of_ne hne with h1 | h1
    · exact hp i q hi1 hq1 h1 b (by rw [hi2]; exact hb) (by rw [hq2]; exact hxb)
    · exact hp q i hq1 hi1 h1 b (by rw [hq2]; exact hxb) (by rw [hi2]; exact hb)
  refine h.step (t' := .wts a c (L.set q { x with d := x.d.set j v })) ⟨?_, fun y hy => ?_, ?_⟩ (hk.mono (fun i _ e => .inr ⟨x, hxm, by rw [hg, e]; rfl⟩)) (fun i hi => .inl ?_)
  · rw [hwts, List.length_set]
    refine hu.row.keep hk (fun b hb e => ?_)
    have := (own_of ho).apart hu.row (by decide) g (by rw [hg]; rfl)
    exact this (by rw [hb, e])
  · obtain ⟨i, hi⟩ := List.getElem?_of_mem hy
    by_cases e : q = i
    · subst e
      rw [List.getElem?_set_self hq] at hi
      cases hi
      show Own _ _ x.a x.n x.c (x.d.set j v)
      rw [hg]
      exact ho2.set j v
    · rw [List.getElem?_set_ne e] at hi
      exact (hu.data y (List.mem_of_getElem? hi)).keep hk (fun b hb e2 => hap y i hi (fun e3 => e e3.symm) b hb e2)
  · refine List.pairwise_iff_getElem.2 fun i1 i2 h1 h2 hlt b hb1 hb2 => ?_
    rw [List.length_set] at h1 h2
    have hp := List.pairwise_iff_getElem.1 hu.apart i1 i2 h1 h2 hlt b
    have hsame : ∀ i (hi : i < L.length), ((L.set q { x with d := x.d.set j v })[i]'(by rw [List.length_set]; exact hi)).a = (L[i]).a := fun i hi => by
      rw [List.getElem_set]
      split
      · next e => subst e; rw [(List.getElem?_eq_some_iff.1 hx).2]
      · rfl
    rw [hsame i1 h1] at hb1
    rw [hsame i2 h2] at hb2
    exact hp hb1 hb2
  · rcases hi with hi | ⟨y, hy, hi⟩
    · exact .inl hi
    · obtain ⟨i', hi'⟩ := List.getElem?_of_mem hy
      by_cases e : q = i'
      · subst e
        rw [List.getElem?_set_self hq] at hi'
        cases hi'
        exact .inr ⟨x, hxm, hi⟩
      · rw [List.getElem?_set_ne e] at hi'
        exact .inr ⟨y, List.mem_of_getElem? hi', hi⟩
/-- A cell of two of the call's own is written over. -/
theorem Ms.setC {w wr w' : World} {l : List Th} {b : Nat} {cs cs' : Array Value} {t : TypeId} (h : Ms w wr (.cell b cs t :: l)) (hr : w'.heap[b]? = some (.cells cs' t (0, 0))) (hk : Kept (fun i => i = b) wr w') : Ms w w' (.cell b cs' t :: l) :=
  h.step (t' := .cell b cs' t) ⟨(show _ ≤ b ∧ _ from h.hd).1, hr⟩ hk (fun _ hi => .inl hi)
theorem Ms.row2 {w wr : World} {l : List Th} {b : Nat} {cs : Array Value} {t : TypeId} (h : Ms w wr (.cell b cs t :: l)) : wr.heap[b]? = some (.cells cs t (0, 0)) := (show _ ≤ b ∧ _ from h.hd).2
theorem Th.ok_row {w : World} {B n c : Nat} {a : Option Addr} {xs : List Int} (h : Th.ok w B (.row a n c xs)) : Own w B a n c xs := h
theorem cell_ok {w : World} {B b : Nat} {cs : Array Value} {t : TypeId} (h : Th.ok w B (.cell b cs t)) : w.heap[b]? = some (.cells cs t (0, 0)) := h.2
end Go.Proofs.Ytbghdlgfpfeaeaa

/-
  The document's shaper: what a store does to it. Conditions: those that the theorems name.
-/
import Derived.Test.YtpigpeehhadkjaaSpDoc4
namespace Go.Proofs.Ytpigpeehhadkjaa
open Go.RowKit Bkt

section
variable {W W' : World} {B g : Nat} {d : Ds}
/-- One row of the counts is another. -/
theorem Dw.stat (h : Dw W B g d) {rs i : Nat} {x y : Dl} (hx : d.ls[i]? = some x) (hv : d.vs = some ⟨rs, 0, none⟩) (hb : x.bv = y.bv) (hq : x.qv = y.qv) (hl : x.ab.A.l = y.ab.A.l) (ha : x.a = y.a ∧ x.n = y.n ∧ x.c = y.c)
    (hs : OwnG W' B 103 4 d.vs d.n d.cs ((d.ls.set i y).flatMap Dl.sv)) (k : Kept (fun k => k = rs) W W') : Dw W' B g { d with ls := d.ls.set i y } := by
  obtain ⟨cq, hrs⟩ := h.ss.blkr (k := rs) (by rw [hv]; rfl)
  have hrt : ∀ {a n l}, Rt W a n l → Rt W' a n l := fun hr => hr.keep k (fun b cur hbb e => by
    subst e
    rw [hrs] at hbb
    simp at hbb)
  refine ⟨k.heap h.row (fun e => ?_), ?_, ?_, hs, fun z hz => ?_, h.base⟩
  · have h1 := h.row
    rw [e, hrs] at h1
    simp at h1
  · show OwnG W' B _ 4 d.vb d.n d.cb ((d.ls.set i y).flatMap Dl.bv)
    rw [flat_same Dl.bv _ _ _ _ hx hb]
    exact h.bs.keep k (fun b hbb e => by
      subst e
      obtain ⟨cur, hr⟩ := h.bs.blkr hbb
      rw [hrs] at hr
      simp at hr)
  · show OwnG W' B _ 4 d.vq d.n d.cq ((d.ls.set i y).flatMap Dl.qv)
    rw [flat_same Dl.qv _ _ _ _ hx hq]
    exact h.qs.keep k (fun b hbb e => by
      subst e
      obtain ⟨cur, hr⟩ := h.qs.blkr hbb
      rw [hrs] at hr
      simp at hr)
  · rcases List.mem_or_eq_of_mem_set hz with hz | rfl
    · exact ⟨hrt (h.its z hz).1, (h.its z hz).2⟩
    · have h1 := h.its x (List.mem_of_getElem? hx)
      rw [← ha.1, ← ha.2.1, ← ha.2.2, ← hl]
      exact ⟨hrt h1.1, h1.2⟩
/-- One row of the buckets is another. -/
theorem Dw.buck (h : Dw W B g d) {rb i : Nat} {x y : Dl} (hx : d.ls[i]? = some x) (hv : d.vb = some ⟨rb, 0, none⟩) (hq : x.qv = y.qv) (hs : x.sv = y.sv) (hl : x.ab.A.l = y.ab.A.l) (ha : x.a = y.a ∧ x.n = y.n ∧ x.c = y.c)
    (hb : OwnG W' B 101 4 d.vb d.n d.cb ((d.ls.set i y).flatMap Dl.bv)) (k : Kept (fun k => k = rb) W W') : Dw W' B g { d with ls := d.ls.set i y } := by
  obtain ⟨cq, hrb⟩ := h.bs.blkr (k := rb) (by rw [hv]; rfl)
  have hrt : ∀ {a n l}, Rt W a n l → Rt W' a n l := fun hr => hr.keep k (fun b cur hbb e => by
    subst e
    rw [hrb] at hbb
    simp at hbb)
  refine ⟨k.heap h.row (fun e => ?_), hb, ?_, ?_, fun z hz => ?_, h.base⟩
  · have h1 := h.row
    rw [e, hrb] at h1
    simp at h1
  · show OwnG W' B _ 4 d.vq d.n d.cq ((d.ls.set i y).flatMap Dl.qv)
    rw [flat_same Dl.qv _ _ _ _ hx hq]
    exact h.qs.keep k (fun b hbb e => by
      subst e
      obtain ⟨cur, hr⟩ := h.qs.blkr hbb
      rw [hrb] at hr
      simp at hr)
  · show OwnG W' B _ 4 d.vs d.n d.cs ((d.ls.set i y).flatMap Dl.sv)
    rw [flat_same Dl.sv _ _ _ _ hx hs]
    exact h.ss.keep k (fun b hbb e => by
      subst e
      obtain ⟨cur, hr⟩ := h.ss.blkr hbb
      rw [hrb] at hr
      simp at hr)
  · rcases List.mem_or_eq_of_mem_set hz with hz | rfl
    · exact ⟨hrt (h.its z hz).1, (h.its z hz).2⟩
    · have h1 := h.its x (List.mem_of_getElem? hx)
      rw [← ha.1, ← ha.2.1, ← ha.2.2, ← hl]
      exact ⟨hrt h1.1, h1.2⟩
/-- The tick is another. -/
theorem Dw.tick (h : Dw W B g d) (T : Int) : Dw (W.setCell ⟨g, 0, none⟩ (.int .u64 T)) B g { d with T := T } := by
  have k : Kept (fun k => k = g) W (W.setCell ⟨g, 0, none⟩ (.int .u64 T)) := Kept.setCell _ _ _ rfl
  have hg : ∀ {a : Option Addr} {e size n cap : Nat} {vs : List Value}, OwnG W B e size a n cap vs → e ≠ 93 → OwnG (W.setCell ⟨g, 0, none⟩ (.int .u64 T)) B e size a n cap vs := fun ho he => ho.keep k (fun b hbb e2 => by
    subst e2
    obtain ⟨cur, hr⟩ := ho.blkr hbb
    rw [h.row] at hr
    simp at hr
    exact he hr.2.symm)
  refine ⟨?_, hg h.bs (by decide), hg h.qs (by decide), hg h.ss (by decide), fun z hz => ⟨(h.its z hz).1.keep k (fun b cur hbb e => ?_), (h.its z hz).2⟩, h.base⟩
  · rw [heap_setCell_same W g 0 _ _ _ h.row]
    rfl
  · rw [e, h.row] at hbb
    simp at hbb
end
end Go.Proofs.Ytpigpeehhadkjaa

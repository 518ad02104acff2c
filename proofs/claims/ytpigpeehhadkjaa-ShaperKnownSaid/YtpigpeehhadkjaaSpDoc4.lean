/-
  The document's shaper: Clear. Conditions: lanes with their numbers in their bounds.
-/
import Derived.Test.YtpigpeehhadkjaaSpDoc3
import Derived.Test.YtpigpeehhadkjaaSpClear
namespace Go.Proofs.Ytpigpeehhadkjaa
open Go.RowKit Bkt

theorem OwnG.blkr {W : World} {base e size : Nat} {a : Option Addr} {n cap : Nat} {vs : List Value} (h : OwnG W base e size a n cap vs) {k : Nat} (hk : blk a = some k) : ∃ cur, W.heap[k]? = some (.cells cur e (0, 0)) := by
  rcases h.cases with ⟨e, _⟩ | ⟨r, cur, e, _, hr, _⟩
  · rw [e] at hk; cases hk
  · rw [e] at hk
    simp [blk] at hk
    subst hk
    exact ⟨cur, hr⟩
/-- What is the document's shaper's own, its items' rows aside. -/
def Ds.foot (d : Ds) (g k : Nat) : Prop := k = g ∨ blk d.vb = some k ∨ blk d.vq = some k ∨ blk d.vs = some k
theorem flat_same {α : Type} (f : α → List Value) : ∀ (l : List α) (i : Nat) (x y : α), l[i]? = some x → f x = f y → (l.set i y).flatMap f = l.flatMap f
  | [], _, _, _, h, _ => by simp at h
  | z :: t, 0, x, y, h, e => by
    simp at h
    subst h
    rw [List.set_cons_zero, List.flatMap_cons, List.flatMap_cons, e]
  | z :: t, i + 1, x, y, h, e => by
    rw [List.set_cons_succ, List.flatMap_cons, List.flatMap_cons, flat_same f t i x y (by simpa using h) e]
section
variable {W W' : World} {B g : Nat} {d : Ds}
/-- One row of the queues is another. -/
theorem Dw.queue (h : Dw W B g d) {rq i : Nat} {x y : Dl} (hx : d.ls[i]? = some x) (hv : d.vq = some ⟨rq, 0, none⟩) (hb : x.bv = y.bv) (hs : x.sv = y.sv)
    (hq : OwnG W' B 96 4 d.vq d.n d.cq ((d.ls.set i y).flatMap Dl.qv)) (k : Kept (fun k => k = rq) W W') (hit : Rt W y.a y.n y.ab.A.l ∧ y.n ≤ y.c) : Dw W' B g { d with ls := d.ls.set i y } := by
  obtain ⟨cq, hrq⟩ := h.qs.blkr (k := rq) (by rw [hv]; rfl)
  have hrt : ∀ {a n l}, Rt W a n l → Rt W' a n l := fun hr => hr.keep k (fun b cur hbb e => by
    subst e
    rw [hrq] at hbb
    simp at hbb)
  refine ⟨k.heap h.row (fun e => ?_), ?_, hq, ?_, fun z hz => ?_, h.base⟩
  · have h1 := h.row
    rw [e, hrq] at h1
    simp at h1
  · show OwnG W' B _ 4 d.vb d.n d.cb ((d.ls.set i y).flatMap Dl.bv)
    rw [flat_same Dl.bv _ _ _ _ hx hb]
    exact h.bs.keep k (fun b hbb e => by
      subst e
      obtain ⟨cur, hr⟩ := h.bs.blkr hbb
      rw [hrq] at hr
      simp at hr)
  · show OwnG W' B _ 4 d.vs d.n d.cs ((d.ls.set i y).flatMap Dl.sv)
    rw [flat_same Dl.sv _ _ _ _ hx hs]
    exact h.ss.keep k (fun b hbb e => by
      subst e
      obtain ⟨cur, hr⟩ := h.ss.blkr hbb
      rw [hrq] at hr
      simp at hr)
  · rcases List.mem_or_eq_of_mem_set hz with hz | rfl
    · exact ⟨hrt (h.its z hz).1, (h.its z hz).2⟩
    · exact ⟨hrt hit.1, hit.2⟩
end
def Dl.clear (x : Dl) : Dl := ⟨x.ab.clear, none, 0, 0⟩
/-- What Clear does. -/
def DClrR (w : World) (B g : Nat) (d : Ds) (e : Ending) (w' : World) : Prop :=
  e = .returned (.int .i64 (tot d.abs : Int)) ∧ ∃ ls, Dw w' B g { d with ls := ls } ∧ ls.map Dl.ab = d.abs.map Ab.clear ∧ Kept (d.foot g) w w'

set_option maxRecDepth 100000 in
set_option maxHeartbeats 2000000 in
theorem dClear_any (B g : Nat) (d : Ds) (w : World) (h : Dw w B g d) (hn : d.n ≤ 8) (hle : ∀ x ∈ d.ls, x.ab.A.l.length ≤ 65536) :
    Calls Try.prog 37 #[.pointer (some ⟨g, 0, none⟩)] w (DClrR w B g d) := by
  have HW := Lib.hid h
  have HLE := Lib.hid hle
  have HLEN := Lib.hid h.len
  clear h hle
  go_enter Try.func37, Try.ntmps37
  go_wp2_with fail
  go_loopw [3, 4] (fun s i wr => ∃ k : Nat, k ≤ d.n ∧ i = .int .i64 k ∧ ∃ z : Int, s = .int .i64 z ∧ Hid (z = (tot (d.abs.take k) : Int) ∧ ∃ ls, Dw wr B g { d with ls := ls } ∧ ls.length = d.ls.length ∧ (∀ j x, d.ls[j]? = some x → ls[j]? = some (if j < k then x.clear else x)) ∧ Kept (d.foot g) w wr)) (fun _ i _ => d.n - (intOf i).toNat)
  case atStart => exact ⟨0, Nat.zero_le _, rfl, 0, rfl, rfl, d.ls, HW.out, rfl, fun j x hx => (by rw [if_neg (by omega)]; exact hx), Kept.refl _ _⟩
  case round =>
    obtain ⟨k, hk, rfl, z, rfl, hz⟩ := hrel
    obtain ⟨hz1, ls, hw, hl, hj, hkk⟩ := hz.out
    have c2 := hw.c2
    simp only at c2
    by_cases hlt : k < d.n
    · have hlt2 : (k : Int) < (d.n : Int) := by omega
      have hck : (k : Int) < 1000 := by omega
      obtain ⟨x, hx⟩ : ∃ x, d.ls[k]? = some x := ⟨_, List.getElem?_eq_getElem (by rw [HLEN.out]; exact hlt)⟩
      have hx2 : ls[k]? = some x := by
        have := hj k x hx
        rwa [if_neg (by omega)] at this
      obtain ⟨rq, hvq, hrq, htq⟩ := hw.qs.nth Dl.ql (by decide) hx2
      simp only at hvq
      rw [hvq] at c2
      have q0 : wr.cell? ⟨rq, k * 4, none⟩ = some (.slice x.a x.n x.c) := hrq 0 _ rfl
      have f0 : wr.frozen? ⟨rq, k * 4, none⟩ = false := by have := (htq 0 (by decide)).2; simpa using this
      have hxl := (hw.its x (List.mem_of_getElem? hx2)).1.len
      have hb0 := HLE.out x (List.mem_of_getElem? hx)
      have htt := tot_take d.abs k x.ab (by unfold Ds.abs; rw [List.getElem?_map, hx]; rfl)
      have hle2 := tot_le d.abs 65536 (fun k l hkl => by
        unfold Ds.abs at hkl
        rw [List.getElem?_map] at hkl
        obtain ⟨z, hz, rfl⟩ := Option.map_eq_some_iff.1 hkl
        exact HLE.out z (List.mem_of_getElem? hz)) (k + 1)
      have ew : IntKind.i64.wrap (z + (x.n : Int)) = z + (x.n : Int) := by
        rw [IntKind.wrap_i64]
        have : (k + 1) * 65536 ≤ 8 * 65536 := Nat.mul_le_mul_right _ (by omega)
        omega
      have hst : Dw (wr.setCell ⟨rq, k * 4, none⟩ (.slice none 0 0)) B g { d with ls := ls.set k x.clear } := by
        have h1 := hw.qs
        simp only at h1
        rw [hvq] at h1
        have h2 := h1.one (j := 0) (v := .slice none 0 0) (y := x.clear) Dl.ql hx2 (by decide) rfl
        rw [Nat.add_zero] at h2
        exact hw.queue (d := { d with ls := ls }) hx2 hvq rfl rfl (by rw [hvq]; exact h2) (Kept.setCell _ _ _ rfl) ⟨Rt.nil _, Nat.le_refl _⟩
      have HN : Hid (z + (x.n : Int) = (tot (d.abs.take (k + 1)) : Int) ∧ ∃ ls, Dw (wr.setCell ⟨rq, k * 4, none⟩ (.slice none 0 0)) B g { d with ls := ls } ∧ ls.length = d.ls.length ∧ (∀ j x, d.ls[j]? = some x → ls[j]? = some (if j < k + 1 then x.clear else x)) ∧ Kept (d.foot g) w (wr.setCell ⟨rq, k * 4, none⟩ (.slice none 0 0))) := by
        refine ⟨by omega, ls.set k x.clear, hst, by rw [List.length_set]; exact hl, fun j y hy => ?_, hkk.trans (Kept.setCell (S := fun k => k = rq) _ _ _ rfl) (fun i _ e => .inr (.inr (.inl (by rw [e, hvq]; rfl))))⟩
        by_cases e : k = j
        · subst e
          rw [List.getElem?_set_self (by rw [hl, HLEN.out]; exact hlt), if_pos (by omega)]
          rw [hx] at hy
          cases hy
          rfl
        · rw [List.getElem?_set_ne e, hj j y hy]
          by_cases e2 : j < k
          · rw [if_pos e2, if_pos (by omega)]
          · rw [if_neg e2, if_neg (by omega)]
      clear hz hz1 hw hl hj hkk hx hx2 hrq htq hxl hb0 htt hle2 hst
      go_wp2_with fail
      go_roundw
      case rel => exact ⟨k + 1, by omega, by go_num, _, rfl, HN.out⟩
      case measure => simp [intOf]; omega
    · have hkn : k = d.n := by omega
      have HZ : Hid (DClrR w B g d (.returned (.int .i64 z)) wr) := by
        have ha : d.abs.take k = d.abs := List.take_of_length_le (by rw [Ds.abs_len, HLEN.out]; omega)
        rw [ha] at hz1
        refine ⟨by rw [hz1], ls, hw, ?_, hkk⟩
        unfold Ds.abs
        apply List.ext_getElem?
        intro j
        rw [List.getElem?_map, List.getElem?_map, List.getElem?_map]
        cases hy : d.ls[j]? with
        | none =>
          rw [List.getElem?_eq_none (by have := List.getElem?_eq_none_iff.1 hy; omega)]
          rfl
        | some y =>
          rw [hj j y hy, if_pos (by have := (List.getElem?_eq_some_iff.1 hy).1; rw [HLEN.out] at this; omega)]
          rfl
      have hlt2 : ¬ (k : Int) < (d.n : Int) := by omega
      clear hz hz1 hw hl hj hkk hkn
      go_wp2_with fail
      go_ret
      exact HZ.out
end Go.Proofs.Ytpigpeehhadkjaa

/-
  Plain facts for RuleLeaves' walk. Conditions: rules that lie where the slice leads, a key, numbers that fit their Go types. (Made by gen_ruleaves.py.)
-/
import Derived.Test.YtgnhbhgpkihpmaaRuM
import Derived.Test.YtgnhbhgpkihpmaaRuWorks
namespace Go.Proofs.Ytgnhbhgpkihpmaa
open Go.RowKit

theorem bool_two (b : Bool) : b = true ∨ b = false := by cases b <;> simp
/-- What stays meanwhile: the key's copy. -/
structure Lv (w wr : World) (k : Ky) : Prop where
  below : Below w.heap.size w wr
  key : wr.rangeAt w.heap.size 0 k.cs
  lt : w.heap.size < wr.heap.size
theorem Lv.next {w wr w' : World} {k : Ky} (h : Lv w wr k) (hb : Below wr.heap.size wr w') : Lv w w' k :=
  ⟨h.below.trans (hb.mono h.below.size), range_kept hb h.key, by have := hb.size; have := h.lt; omega⟩
theorem Lv.count {w wr w' : World} {k : Ky} (h : Lv w wr k) {b : Nat} (hb : w.heap.size < b) (hk : Kept (fun x => x = b) wr w') : Lv w w' k :=
  ⟨h.below.trans (hk.below h.below.size (fun i e => by omega)), range_keep hk (by omega) h.key, by have := hk.size; have := h.lt; omega⟩
theorem mem_deads {l : List Rl} {n k : Nat} (hk : k < n) : ((k : Int) ∈ deads l n) ↔ isDead l k = true := by
  simp only [deads, List.mem_map, List.mem_filter, List.mem_range]
  constructor
  · rintro ⟨i, ⟨_, h⟩, e⟩
    have : i = k := by omega
    subst this
    exact h
  · intro h
    exact ⟨k, ⟨hk, h⟩, rfl⟩
theorem take_mem (ds : List Int) (q : Nat) (hq : q < ds.length) (x : Int) : decide (x ∈ ds.take (q + 1)) = (decide (x ∈ ds.take q) || (ds.getD q 0 == x)) := by
  rw [take_snoc ds q hq, Bool.eq_iff_iff]
  simp only [decide_eq_true_eq, Bool.or_eq_true, List.mem_append, List.mem_singleton, beq_iff_eq]
  constructor
  · rintro (h | h)
    · exact .inl h
    · exact .inr h.symm
  · rintro (h | h)
    · exact .inl h
    · exact .inr h.symm
theorem lvs_next {l : List Rl} {k : Nat} {r : Rl} (hr : l[k]? = some r) : lvs l (k + 1) = if isDead l k then lvs l k else lvs l k ++ [r] := by
  rw [lvs, hr]; rfl
/-- The last one but one. -/
def lastR (deny : Bool) (cls : Int) : Rl := othr deny (if deny then 0 else cls)
theorem lastR_ok (deny : Bool) (cls : Int) : (lastR deny cls).ok := othr_ok _ _
theorem told_more (q : Ky) (deny : Bool) (cls : Int) (l : List Rl) (p : Rl) (_ : rgB (othr deny cls) = true) : told (fit q) p (l ++ [lastR deny cls, any0]) = told (fit q) (othr deny cls) l := by
  have hf : fit q (lastR deny cls) = true := fit_othr q _ _
  have e : told (fit q) p [lastR deny cls, any0] = lastR deny cls := by
    simp only [told, hf, if_true]
  have e2 : lastR deny cls = othr deny cls := by
    unfold lastR
    cases deny with
    | false => rfl
    | true => rfl
  rw [told_append, e, e2]
theorem any0_rg : rgB any0 = true := by kernel_rfl
theorem newOk_more (deny : Bool) (cls : Int) (l : List Rl) (h : newOk deny cls l = true) : newOk (!deny) 0 (l ++ [lastR deny cls, any0]) = true := by
  obtain ⟨h1, h2⟩ := (newOk_iff deny cls l).1 h
  refine (newOk_iff _ _ _).2 ⟨fun r hr => ?_, (rg_othr _ _).2 fun _ => by omega⟩
  rcases List.mem_append.1 hr with hr | hr
  · exact h1 r hr
  · simp only [List.mem_cons, List.not_mem_nil, or_false] at hr
    rcases hr with rfl | rfl
    · unfold lastR
      cases deny with
      | false => exact h2
      | true => exact (rg_othr _ _).2 fun h => by cases h
    · exact any0_rg
theorem newOk_lvs (deny : Bool) (cls : Int) (l : List Rl) (h : newOk deny cls l = true) : newOk deny cls (lvs l l.length) = true := by
  obtain ⟨h1, h2⟩ := (newOk_iff deny cls l).1 h
  exact (newOk_iff _ _ _).2 ⟨fun r hr => h1 r (lvs_mem l _ r hr), h2⟩
theorem told_right (q : Ky) (deny : Bool) (cls : Int) (l : List Rl) (h : newOk deny cls l = true) : rgB (told (fit q) (othr deny cls) l) = true := by
  obtain ⟨h1, h2⟩ := (newOk_iff deny cls l).1 h
  rcases told_mem (fit q) (othr deny cls) l with e | e
  · rw [e]; exact h2
  · exact h1 _ e
theorem last_cs (deny : Bool) : any0.cs.set 42 (.bool deny) = (othr deny 0).cs := by cases deny <;> kernel_rfl
theorem last_cs2 (cls : Int) : (othr false 0).cs.set 43 (.int .i64 cls) = (othr false cls).cs := by kernel_rfl
theorem lastT {w6 wk : World} {g : Nat} (h : wk.rangeAt g 0 any0.cs) (hb : Below w6.heap.size w6 wk) (hg : w6.heap.size = g) (cls : Int) : (wk.setCell ⟨g, 42, none⟩ (.bool true)).rangeAt g 0 (lastR true cls).cs ∧ Below w6.heap.size w6 (wk.setCell ⟨g, 42, none⟩ (.bool true)) := by
  subst hg
  have h1 := range_set h (j := 42) (by rw [Rl.len any0_ok]; omega) (.bool true)
  rw [last_cs, Nat.zero_add] at h1
  exact ⟨h1, hb.setCell (p := ⟨w6.heap.size, 42, none⟩) (Nat.le_refl _) _⟩
theorem lastF {w6 wk : World} {g : Nat} (h : wk.rangeAt g 0 any0.cs) (hb : Below w6.heap.size w6 wk) (hg : w6.heap.size = g) (cls : Int) : ((wk.setCell ⟨g, 42, none⟩ (.bool false)).setCell ⟨g, 43, none⟩ (.int .i64 cls)).rangeAt g 0 (lastR false cls).cs ∧ Below w6.heap.size w6 ((wk.setCell ⟨g, 42, none⟩ (.bool false)).setCell ⟨g, 43, none⟩ (.int .i64 cls)) := by
  subst hg
  exact ⟨othr_range h cls, (hb.setCell (p := ⟨w6.heap.size, 42, none⟩) (Nat.le_refl _) _).setCell (p := ⟨w6.heap.size, 43, none⟩) (Nat.le_refl _) _⟩
/-- A rule of a row is another one now. -/
theorem Rls.set {w : World} {g n : Nat} {l : List Rl} (h : Rls w (some ⟨g, 0, none⟩) n l) (ht : w.there g 0 (n * 44)) {i : Nat} (hi : i < n) {r : Rl} (hr : r.ok) : Rls (w.setCells g (i * 44) r.cs) (some ⟨g, 0, none⟩) n (l.set i r) :=
  ⟨by rw [List.length_set]; exact h.len, (fun s hs => by
    rcases List.mem_or_eq_of_mem_set hs with h1 | rfl
    · exact h.ok s h1
    · exact hr), fun _ => ⟨g, 0, rfl, fun j s hj => by
    obtain ⟨b, o, e, hc⟩ := h.cells (by rintro rfl; have := h.len; simp at this; omega)
    simp only [Option.some.injEq, Addr.mk.injEq, and_true] at e
    obtain ⟨rfl, rfl⟩ := e
    have hl := Rl.len hr
    by_cases e : i = j
    · subst e
      rw [List.getElem?_set_self (by rw [h.len]; exact hi)] at hj
      simp only [Option.some.injEq] at hj
      subst hj
      have := World.rangeAt_setCells_same w g (i * 44) r.cs (by rw [hl]; exact there_part ht (by omega))
      rwa [Nat.zero_add]
    · rw [List.getElem?_set_ne e] at hj
      have hsok := h.ok s (List.mem_of_getElem? hj)
      intro q v hv
      have hq : q < 44 := by
        have := (List.getElem?_eq_some_iff.1 hv).1
        rwa [Rl.len hsok] at this
      rw [World.cell?_setCells_out g r.cs (i * 44) w ⟨g, 0 + j * 44 + q, none⟩ (fun _ _ => by simp only [hl]; omega)]
      exact hc j s hj q v hv⟩⟩
/-- The rules with two of them exchanged, on their way. -/
structure Tz (w wr : World) (k : Ky) (gT n : Nat) (l : List Rl) : Prop where
  lv : Lv w wr k
  rls : Rls wr (some ⟨gT, 0, none⟩) n l
  th : wr.there gT 0 (n * 44)
  gt : w.heap.size < gT
theorem Tz.set {w wr : World} {k : Ky} {gT n : Nat} {l : List Rl} (h : Tz w wr k gT n l) {i : Nat} (hi : i < n) {r : Rl} (hr : r.ok) : Tz w (wr.setCells gT (i * 44) r.cs) k gT n (l.set i r) :=
  ⟨h.lv.count h.gt (Kept.setOne _ _ _ _), h.rls.set h.th hi hr, World.there_setCells h.th _ _ _, h.gt⟩
theorem Rls.at_ {w : World} {b o n : Nat} {l : List Rl} (h : Rls w (some ⟨b, o, none⟩) n l) {i : Nat} {r : Rl} (hr : l[i]? = some r) : w.rangeAt b (o + i * 44) r.cs := by
  obtain ⟨b', o', e, hc⟩ := h.cells (by rintro rfl; simp at hr)
  simp only [Option.some.injEq, Addr.mk.injEq, and_true] at e
  obtain ⟨rfl, rfl⟩ := e
  exact hc i r hr
theorem OwnU.th {w : World} {base : Nat} {a : Option Addr} {n c : Nat} {l : List Rl} (h : OwnU w base a n c l) (hn : 0 < n) : ∃ g, a = some ⟨g, 0, none⟩ ∧ base ≤ g ∧ w.there g 0 (n * 44) := by
  rcases h.row.cases with ⟨_, rfl, _⟩ | ⟨g, cur, rfl, hb, hg, hnc, _, hcs, _⟩
  · omega
  · refine ⟨g, rfl, hb, fun j hj => ?_⟩
    have hlt : 0 + j < cur.size := by rw [hcs]; have := Nat.mul_le_mul_right 44 hnc; omega
    rw [cell_of_row w g (0 + j) cur _ (0, 0) hg, frozen_of_row w g (0 + j) cur _ hg, Array.getElem?_eq_getElem hlt]
    exact ⟨rfl, rfl⟩
theorem set_two {l : List Rl} {m : Nat} {r s : Rl} (hr : l[m]? = some r) (hs : l[m + 1]? = some s) : l = l.take m ++ (r :: s :: l.drop (m + 2)) ∧ (l.set m s).set (m + 1) r = l.take m ++ (s :: r :: l.drop (m + 2)) := by
  have h1 : m < l.length := (List.getElem?_eq_some_iff.1 hr).1
  have h2 : m + 1 < l.length := (List.getElem?_eq_some_iff.1 hs).1
  have e1 : l.drop m = r :: s :: l.drop (m + 2) := by
    rw [List.drop_eq_getElem_cons h1, List.drop_eq_getElem_cons h2]
    rw [List.getElem?_eq_getElem h1] at hr
    rw [List.getElem?_eq_getElem h2] at hs
    simp only [Option.some.injEq] at hr hs
    rw [hr, hs]
  have e0 : l = l.take m ++ (r :: s :: l.drop (m + 2)) := by rw [← e1, List.take_append_drop]
  have hm : (l.take m).length = m := by rw [List.length_take]; omega
  refine ⟨e0, ?_⟩
  generalize l.take m = xs at e0 hm ⊢
  generalize l.drop (m + 2) = ys at e0 ⊢
  subst e0
  rw [List.set_append_right _ _ (by omega), show m - xs.length = 0 by omega, List.set_cons_zero, List.set_append_right _ _ (by omega), show m + 1 - xs.length = 1 by omega]
  rfl

end Go.Proofs.Ytgnhbhgpkihpmaa

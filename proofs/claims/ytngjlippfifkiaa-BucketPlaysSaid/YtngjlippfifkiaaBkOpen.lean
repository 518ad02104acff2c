/-
  How arguments that are rows of acts are opened. Conditions: those that the theorems name.
-/
import Derived.Test.YtngjlippfifkiaaBkPlaysM
import Derived.Laws.IdiomArrays
import Derived.Deep.SlicePairs
namespace Go.Proofs.Ytngjlippfifkiaa
open Go.ChangeShapes Go.WideShapes Go.ChangeAt Go.RowKit

theorem act_cells : Try.prog.cellsOf 34 = 3 := by kernel_rfl
section
variable {H : Type} {enc : TypeId × Value → H} {w : World} {base : Nat} {spare : Nat → Bool} {held : Bool} {fuel : Nat}
theorem open_act {cs : List Value} {x : DataW H × List MemPlace} (h : DataW.trod enc Try.prog w base spare held fuel 34 cs = some x) : ∃ a : Ac, cs = a.cs ∧ a.ok := by
  obtain ⟨ys, n, _, _, hlen, hyl, hf⟩ := DataW.trod_struct Try.underlying34 h
  rw [act_cells] at hlen
  match cs, hlen, ys, hyl with
  | [c0, c1, c2], _, [y0, y1, y2], _ =>
    have h0 := hf 0 _ rfl
    have h1 := hf 1 _ rfl
    have h2 := hf 2 _ rfl
    have k1 : Try.prog.cellsOf 3 = 1 := by kernel_rfl
    have k2 : Try.prog.cellsOf 22 = 1 := by kernel_rfl
    simp [k1, k2] at h0 h1 h2
    obtain ⟨d, e0, _, wd⟩ := DataW.trod_int Try.underlying3 h0
    obtain ⟨t, e1, _, wt⟩ := DataW.trod_int Try.underlying22 h1
    obtain ⟨m, e2, _, wm⟩ := DataW.trod_int Try.underlying22 h2
    simp at e0 e1 e2
    subst e0 e1 e2
    exact ⟨⟨d, t, m⟩, rfl, ⟨(wfU wt).1, (wfU wt).2, (wfU wm).1, (wfU wm).2⟩⟩
theorem open_acts {a : Option Addr} {n c : Nat} {x : DataW H × List MemPlace} (h : DataW.trod enc Try.prog w base spare held fuel 23 [.slice a n c] = some x) (hsp : ∀ b, spare b = true) : ∃ l : List Ac, Acr w a n l ∧ n ≤ maxLen := by
  rcases Go.Deep.open_slice Try.underlying23 h with ⟨e, _⟩ | ⟨ad, len, cap, m, k, D, Pl, e, _, hl, hm, hmm, _, hx⟩
  · simp only [List.cons.injEq, Value.slice.injEq, and_true] at e
    obtain ⟨rfl, rfl, rfl⟩ := e
    exact ⟨[], ⟨rfl, (fun r hr => by cases hr), fun hne => absurd rfl hne⟩, Nat.zero_le _⟩
  · simp only [List.cons.injEq, Value.slice.injEq, and_true] at e
    obtain ⟨rfl, rfl, rfl⟩ := e
    rw [if_pos (hsp _)] at hmm
    subst hmm
    rw [act_cells] at hx
    have each : ∀ i, i < n → ∃ r : Ac, r.ok ∧ ∀ j v, r.cs[j]? = some v → w.cell? ((ad.add (i * 3)).add j) = some v := by
      intro i hi
      obtain ⟨cs', h1, h2⟩ := hx i (by omega)
      obtain ⟨r, rfl, hr⟩ := open_act h2
      obtain ⟨_, hlen, hcell⟩ := World.cells?_some h1
      exact ⟨r, hr, fun j v hv => by
        have hj : j < r.cs.length := (List.getElem?_eq_some_iff.1 hv).1
        have h3 := hcell j (by omega)
        rw [h3, ← hv]⟩
    haveI : Inhabited Ac := ⟨⟨0, 0, 0⟩⟩
    obtain ⟨q, hq⟩ := Go.Deep.choose_lt each
    refine ⟨(List.range n).map q, ⟨by simp, fun r hr => ?_, fun hne => ?_⟩, Nat.le_trans hl hm⟩
    · obtain ⟨i, hi, rfl⟩ := List.mem_map.1 hr
      exact (hq i (List.mem_range.1 hi)).1
    · have hn0 : 0 < n := by
        rcases Nat.eq_zero_or_pos n with e | e
        · subst e; simp at hne
        · exact e
      obtain ⟨b, o, spot⟩ := ad
      have h0 := (hq 0 hn0).2 0 (.int .i64 (q 0).d) rfl
      have hspot : spot = none := by simpa [Addr.add] using World.cell?_spot h0
      subst hspot
      refine ⟨b, o, rfl, fun i r hr j v hv => ?_⟩
      have hi : i < n := by have := (List.getElem?_eq_some_iff.1 hr).1; simpa using this
      have he : r = q i := by simp [hi] at hr; exact hr.symm
      subst he
      have h3 := (hq i hi).2 j v hv
      rw [Addr.add_lit, Addr.add_lit] at h3
      exact h3
end
end Go.Proofs.Ytngjlippfifkiaa

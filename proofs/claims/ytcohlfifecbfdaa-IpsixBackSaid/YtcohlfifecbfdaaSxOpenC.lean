/-
  How an argument that is a chain is opened. Conditions: those that the theorems name.
-/
import Derived.Test.YtcohlfifecbfdaaSxOpen
import Derived.Test.YtcohlfifecbfdaaSxCh
import Derived.Deep.SlicePairs
namespace Go.Proofs.Ytcohlfifecbfdaa
open Go.ChangeShapes Go.WideShapes Go.ChangeAt Go.RowKit

theorem ext_cells : Try.prog.cellsOf 71 = 2 := by kernel_rfl
theorem exts_cells : Try.prog.cellsOf 44 = 1 := by kernel_rfl
theorem chain_cells : Try.prog.cellsOf 46 = 2 := by kernel_rfl
theorem bytes_cells : Try.prog.cellsOf 27 = 1 := by kernel_rfl
section
variable {H : Type} {enc : TypeId × Value → H} {w : World} {base : Nat} {spare : Nat → Bool} {held : Bool} {fuel : Nat}
theorem open_exts {cs : List Value} {x : DataW H × List MemPlace} (h : DataW.trod enc Try.prog w base spare held fuel 44 cs = some x) (hsp : ∀ b, spare b = true) : ∃ a n c es, cs = [.slice a n c] ∧ Ch0 w a n c es := by
  rcases Go.Deep.open_slice_pairs Try.underlying44 Try.underlying71 ext_cells rfl rfl u8_cells bytes_cells h with ⟨rfl, _⟩ | ⟨ad, n, c, m, k, V0, V1, D0, D1, P0, P1, rfl, _, hl, hm, hmm, _, hx⟩
  · exact ⟨none, 0, 0, [], rfl, ⟨rfl, Nat.le_refl _, Nat.zero_le _, fun e => absurd rfl e, fun x hx => by cases hx⟩⟩
  · rw [if_pos (hsp _)] at hmm
    subst hmm
    have each : ∀ i, i < n → ∃ e : Ex, V0 i = .int .u8 e.k ∧ V1 i = .slice e.a e.n e.c ∧ e.ok w := by
      intro i hi
      obtain ⟨_, _, g0, g1⟩ := hx i (by omega)
      obtain ⟨z, hz, _, hw⟩ := DataW.trod_int Try.underlying5 g0
      have hs : ∃ a m c, V1 i = .slice a m c := by
        rcases open_ints Try.underlying27 Try.underlying5 u8_cells g1 with ⟨e, _⟩ | ⟨ad, l, c, _, e, _⟩
        · exact ⟨none, 0, 0, by simpa using e⟩
        · exact ⟨some ad, l, c, by simpa using e⟩
      obtain ⟨a, q, c', hv⟩ := hs
      rw [hv] at g1
      obtain ⟨xs, hl, hc, hm, hr, hw2⟩ := open_row Try.underlying27 Try.underlying5 u8_cells g1 hsp
      simp only [List.cons.injEq, and_true] at hz
      exact ⟨⟨z, a, q, c', xs⟩, hz, hv, ⟨by have := bounds_u8 hw; show 0 ≤ z ∧ z < 256; omega, hl, hc, hm, rd_of hr, byt_of hw2⟩⟩
    haveI : Inhabited Ex := ⟨⟨0, none, 0, 0, []⟩⟩
    obtain ⟨q, hq⟩ := Go.Deep.choose_lt each
    refine ⟨some ad, n, m, (List.range n).map q, rfl, ⟨by simp, hl, hm, fun hne => ?_, fun x hx => ?_⟩⟩
    · have hn0 : 0 < n := by
        rcases Nat.eq_zero_or_pos n with e | e
        · subst e; simp at hne
        · exact e
      obtain ⟨b, o, spot⟩ := ad
      have h0 := (hx 0 (by omega)).1
      have hspot : spot = none := by simpa [Addr.add] using World.cell?_spot h0
      subst hspot
      refine ⟨b, o, rfl, fun i y hy => ?_⟩
      have hi : i < n := by have := (List.getElem?_eq_some_iff.1 hy).1; simpa using this
      have he : y = q i := by simp [hi] at hy; exact hy.symm
      subst he
      have h1 := hx i (by omega)
      rw [Addr.add_lit, Addr.add_lit] at h1
      rw [(hq i hi).1, (hq i hi).2.1] at h1
      exact ⟨h1.1, h1.2.1⟩
    · obtain ⟨i, hi, rfl⟩ := List.mem_map.1 hx
      exact (hq i (List.mem_range.1 hi)).2.2
set_option maxRecDepth 100000 in
theorem open_chain {cs : List Value} {x : DataW H × List MemPlace} (h : DataW.trod enc Try.prog w base spare held fuel 46 cs = some x) (hsp : ∀ b, spare b = true) : ∃ a n c es p, cs = [.slice a n c, .int .u8 p] ∧ Ch0 w a n c es ∧ 0 ≤ p ∧ p < 256 := by
  obtain ⟨ys, k, _, _, hlen, hyl, hf⟩ := DataW.trod_struct Try.underlying46 h
  rw [chain_cells] at hlen
  have hfld := fun (i : Nat) f hi => (hf i f hi).trans (List.getElem?_eq_getElem (by have := (Array.getElem?_eq_some_iff.1 hi).1; omega))
  clear hf
  obtain ⟨u, v, rfl⟩ : ∃ u v, cs = [u, v] := by
    match cs, hlen with
    | [u, v], _ => exact ⟨u, v, rfl⟩
  have g0 : DataW.trod enc Try.prog w base spare held k 44 (([u, v].drop 0).take (Try.prog.cellsOf 44)) = some _ := hfld 0 _ rfl
  rw [exts_cells] at g0
  have g1 : DataW.trod enc Try.prog w base spare held k 5 (([u, v].drop 1).take (Try.prog.cellsOf 5)) = some _ := hfld 1 _ rfl
  rw [u8_cells] at g1
  obtain ⟨a, n, c, es, he, hc⟩ := open_exts (show DataW.trod enc Try.prog w base spare held k 44 [u] = some _ from g0) hsp
  obtain ⟨z, hz, _, hw⟩ := DataW.trod_int Try.underlying5 (show DataW.trod enc Try.prog w base spare held k 5 [v] = some _ from g1)
  simp only [List.cons.injEq, and_true] at he hz
  subst he hz
  have := bounds_u8 hw
  exact ⟨a, n, c, es, z, rfl, hc, by omega, by omega⟩
end
end Go.Proofs.Ytcohlfifecbfdaa

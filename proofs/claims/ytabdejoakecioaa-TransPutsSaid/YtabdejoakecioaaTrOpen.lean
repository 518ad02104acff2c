/-
  How an argument that is a segment is opened; TransBack with the lift's premises. Conditions: those that the theorems name.
-/
import Derived.Test.YtabdejoakecioaaTrSeg
namespace Go.Proofs.Ytabdejoakecioaa
open Go.ChangeShapes Go.WideShapes Go.ChangeAt Go.RowKit

theorem seg_cells : Try.prog.cellsOf 26 = 12 := by kernel_rfl
theorem u8_cells : Try.prog.cellsOf 5 = 1 := by kernel_rfl
theorem u16_cells : Try.prog.cellsOf 22 = 1 := by kernel_rfl
theorem u32_cells : Try.prog.cellsOf 23 = 1 := by kernel_rfl
theorem bytes_cells : Try.prog.cellsOf 24 = 1 := by kernel_rfl
theorem list12 {α : Type} (l : List α) (h : l.length = 12) : ∃ c0 c1 c2 c3 c4 c5 c6 c7 c8 c9 c10 c11, l = [c0, c1, c2, c3, c4, c5, c6, c7, c8, c9, c10, c11] := by
  match l, h with
  | [a, b, c, d, e, f, g, i, j, k, m, n], _ => exact ⟨a, b, c, d, e, f, g, i, j, k, m, n, rfl⟩

section
variable {H : Type} {enc : TypeId × Value → H} {w : World} {base : Nat} {spare : Nat → Bool} {held : Bool} {fuel : Nat}
theorem open_seg {cs : List Value} {x : DataW H × List MemPlace} (h : DataW.trod enc Try.prog w base spare held fuel 26 cs = some x) (hsp : ∀ b, spare b = true) : ∃ s : Sg, cs = s.cs ∧ s.ok w := by
  obtain ⟨ys, n, _, _, hlen, hyl, hf⟩ := DataW.trod_struct Try.underlying26 h
  rw [seg_cells] at hlen
  have hfld := fun (i : Nat) f hi => (hf i f hi).trans (List.getElem?_eq_getElem (by have := (Array.getElem?_eq_some_iff.1 hi).1; omega))
  clear hf
  obtain ⟨c0, c1, c2, c3, c4, c5, c6, c7, c8, c9, c10, c11, rfl⟩ := list12 cs hlen
  have g0 : DataW.trod enc Try.prog w base spare held n 5 (([c0, c1, c2, c3, c4, c5, c6, c7, c8, c9, c10, c11].drop 0).take (Try.prog.cellsOf 5)) = some _ := hfld 0 _ rfl
  rw [u8_cells] at g0
  have h0 : DataW.trod enc Try.prog w base spare held n 5 [c0] = some _ := g0
  have g1 : DataW.trod enc Try.prog w base spare held n 22 (([c0, c1, c2, c3, c4, c5, c6, c7, c8, c9, c10, c11].drop 1).take (Try.prog.cellsOf 22)) = some _ := hfld 1 _ rfl
  rw [u16_cells] at g1
  have h1 : DataW.trod enc Try.prog w base spare held n 22 [c1] = some _ := g1
  have g2 : DataW.trod enc Try.prog w base spare held n 22 (([c0, c1, c2, c3, c4, c5, c6, c7, c8, c9, c10, c11].drop 2).take (Try.prog.cellsOf 22)) = some _ := hfld 2 _ rfl
  rw [u16_cells] at g2
  have h2 : DataW.trod enc Try.prog w base spare held n 22 [c2] = some _ := g2
  have g3 : DataW.trod enc Try.prog w base spare held n 23 (([c0, c1, c2, c3, c4, c5, c6, c7, c8, c9, c10, c11].drop 3).take (Try.prog.cellsOf 23)) = some _ := hfld 3 _ rfl
  rw [u32_cells] at g3
  have h3 : DataW.trod enc Try.prog w base spare held n 23 [c3] = some _ := g3
  have g4 : DataW.trod enc Try.prog w base spare held n 23 (([c0, c1, c2, c3, c4, c5, c6, c7, c8, c9, c10, c11].drop 4).take (Try.prog.cellsOf 23)) = some _ := hfld 4 _ rfl
  rw [u32_cells] at g4
  have h4 : DataW.trod enc Try.prog w base spare held n 23 [c4] = some _ := g4
  have g5 : DataW.trod enc Try.prog w base spare held n 5 (([c0, c1, c2, c3, c4, c5, c6, c7, c8, c9, c10, c11].drop 5).take (Try.prog.cellsOf 5)) = some _ := hfld 5 _ rfl
  rw [u8_cells] at g5
  have h5 : DataW.trod enc Try.prog w base spare held n 5 [c5] = some _ := g5
  have g6 : DataW.trod enc Try.prog w base spare held n 22 (([c0, c1, c2, c3, c4, c5, c6, c7, c8, c9, c10, c11].drop 6).take (Try.prog.cellsOf 22)) = some _ := hfld 6 _ rfl
  rw [u16_cells] at g6
  have h6 : DataW.trod enc Try.prog w base spare held n 22 [c6] = some _ := g6
  have g7 : DataW.trod enc Try.prog w base spare held n 22 (([c0, c1, c2, c3, c4, c5, c6, c7, c8, c9, c10, c11].drop 7).take (Try.prog.cellsOf 22)) = some _ := hfld 7 _ rfl
  rw [u16_cells] at g7
  have h7 : DataW.trod enc Try.prog w base spare held n 22 [c7] = some _ := g7
  have g8 : DataW.trod enc Try.prog w base spare held n 24 (([c0, c1, c2, c3, c4, c5, c6, c7, c8, c9, c10, c11].drop 8).take (Try.prog.cellsOf 24)) = some _ := hfld 8 _ rfl
  rw [bytes_cells] at g8
  have h8 : DataW.trod enc Try.prog w base spare held n 24 [c8] = some _ := g8
  have g9 : DataW.trod enc Try.prog w base spare held n 5 (([c0, c1, c2, c3, c4, c5, c6, c7, c8, c9, c10, c11].drop 9).take (Try.prog.cellsOf 5)) = some _ := hfld 9 _ rfl
  rw [u8_cells] at g9
  have h9 : DataW.trod enc Try.prog w base spare held n 5 [c9] = some _ := g9
  have g10 : DataW.trod enc Try.prog w base spare held n 5 (([c0, c1, c2, c3, c4, c5, c6, c7, c8, c9, c10, c11].drop 10).take (Try.prog.cellsOf 5)) = some _ := hfld 10 _ rfl
  rw [u8_cells] at g10
  have h10 : DataW.trod enc Try.prog w base spare held n 5 [c10] = some _ := g10
  have g11 : DataW.trod enc Try.prog w base spare held n 24 (([c0, c1, c2, c3, c4, c5, c6, c7, c8, c9, c10, c11].drop 11).take (Try.prog.cellsOf 24)) = some _ := hfld 11 _ rfl
  rw [bytes_cells] at g11
  have h11 : DataW.trod enc Try.prog w base spare held n 24 [c11] = some _ := g11
  clear g0 g1 g2 g3 g4 g5 g6 g7 g8 g9 g10 g11 hfld
  obtain ⟨n0, e0, _, w0⟩ := DataW.trod_int Try.underlying5 h0
  obtain ⟨n1, e1, _, w1⟩ := DataW.trod_int Try.underlying22 h1
  obtain ⟨n2, e2, _, w2⟩ := DataW.trod_int Try.underlying22 h2
  obtain ⟨n3, e3, _, w3⟩ := DataW.trod_int Try.underlying23 h3
  obtain ⟨n4, e4, _, w4⟩ := DataW.trod_int Try.underlying23 h4
  obtain ⟨n5, e5, _, w5⟩ := DataW.trod_int Try.underlying5 h5
  obtain ⟨n6, e6, _, w6⟩ := DataW.trod_int Try.underlying22 h6
  obtain ⟨n7, e7, _, w7⟩ := DataW.trod_int Try.underlying22 h7
  have hs8 : ∃ a m c, c8 = .slice a m c := by
    rcases open_ints Try.underlying24 Try.underlying5 u8_cells h8 with ⟨e, _⟩ | ⟨ad, l, c, _, e, _⟩
    · exact ⟨none, 0, 0, by simpa using e⟩
    · exact ⟨some ad, l, c, by simpa using e⟩
  obtain ⟨a8, m8, q8, rfl⟩ := hs8
  obtain ⟨x8, hl8, hc8, hm8, hr8, hw8⟩ := open_row Try.underlying24 Try.underlying5 u8_cells h8 hsp
  obtain ⟨n9, e9, _, w9⟩ := DataW.trod_int Try.underlying5 h9
  obtain ⟨n10, e10, _, w10⟩ := DataW.trod_int Try.underlying5 h10
  have hs11 : ∃ a m c, c11 = .slice a m c := by
    rcases open_ints Try.underlying24 Try.underlying5 u8_cells h11 with ⟨e, _⟩ | ⟨ad, l, c, _, e, _⟩
    · exact ⟨none, 0, 0, by simpa using e⟩
    · exact ⟨some ad, l, c, by simpa using e⟩
  obtain ⟨a11, m11, q11, rfl⟩ := hs11
  obtain ⟨x11, hl11, hc11, hm11, hr11, hw11⟩ := open_row Try.underlying24 Try.underlying5 u8_cells h11 hsp
  simp only [List.cons.injEq, and_true] at e0 e1 e2 e3 e4 e5 e6 e7 e9 e10
  subst e0 e1 e2 e3 e4 e5 e6 e7 e9 e10
  have r0 : 0 ≤ n0 ∧ n0 < 256 := by have := bounds_u8 w0; omega
  have r1 : 0 ≤ n1 ∧ n1 < 65536 := by have := bounds_u16 w1; omega
  have r2 : 0 ≤ n2 ∧ n2 < 65536 := by have := bounds_u16 w2; omega
  have r3 : 0 ≤ n3 ∧ n3 < 4294967296 := by have := bounds_u32 w3; omega
  have r4 : 0 ≤ n4 ∧ n4 < 4294967296 := by have := bounds_u32 w4; omega
  have r5 : 0 ≤ n5 ∧ n5 < 256 := by have := bounds_u8 w5; omega
  have r6 : 0 ≤ n6 ∧ n6 < 65536 := by have := bounds_u16 w6; omega
  have r7 : 0 ≤ n7 ∧ n7 < 65536 := by have := bounds_u16 w7; omega
  have r9 : 0 ≤ n9 ∧ n9 < 256 := by have := bounds_u8 w9; omega
  have r10 : 0 ≤ n10 ∧ n10 < 256 := by have := bounds_u8 w10; omega
  refine ⟨⟨⟨n0, n1, n2, n3, n4, n5, n6, n7, x8, n9, n10, x11⟩, a8, m8, q8, a11, m11, q11⟩, rfl, ⟨⟨r0, r1, r2, r3, r4, r5, r6, r7, byt_of hw8, r9, r10, byt_of hw11⟩, ⟨hl8, hc8, hm8, rd_of hr8, byt_of hw8⟩, ⟨hl11, hc11, hm11, rd_of hr11, byt_of hw11⟩⟩⟩
end
end Go.Proofs.Ytabdejoakecioaa

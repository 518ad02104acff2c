/-
  How an argument that is a header of package ip is opened; IpPuts for every two headers. Conditions: those that the theorems name.
-/
import Derived.Test.YtjnbnjdajkhkpaaIpPuts
import Derived.Test.YtjnbnjdajkhkpaaIpSame
import Derived.Laws.IdiomArrays
namespace Go.Proofs.Ytjnbnjdajkhkpaa
open Go.ChangeShapes Go.WideShapes Go.ChangeAt Go.RowKit

theorem ipputs_any (h g : Hd) (w : World) (k : h.ok w) (l : g.ok w) : Calls Try.prog 3 #[.agg h.cs.toArray, .agg g.cs.toArray] w fun e w' => e = .returned (.bool true) ∧ Below w.heap.size w w' :=
  puts_any iSame_any h g w k l

theorem hdr_cells : Try.prog.cellsOf 26 = 17 := by kernel_rfl
theorem u8_cells : Try.prog.cellsOf 5 = 1 := by kernel_rfl
theorem u16_cells : Try.prog.cellsOf 22 = 1 := by kernel_rfl
theorem bool_cells : Try.prog.cellsOf 4 = 1 := by kernel_rfl
theorem arr4_cells : Try.prog.cellsOf 23 = 4 := by kernel_rfl
theorem bytes_cells : Try.prog.cellsOf 24 = 1 := by kernel_rfl
theorem list17 {α : Type} (l : List α) (h : l.length = 17) : ∃ a b c d e f g i j k m n o p q r s, l = [a, b, c, d, e, f, g, i, j, k, m, n, o, p, q, r, s] := by
  match l, h with
  | [a, b, c, d, e, f, g, i, j, k, m, n, o, p, q, r, s], _ => exact ⟨a, b, c, d, e, f, g, i, j, k, m, n, o, p, q, r, s, rfl⟩

section
variable {H : Type} {enc : TypeId × Value → H} {w : World} {base : Nat} {spare : Nat → Bool} {held : Bool} {fuel : Nat}
theorem open4 {c0 c1 c2 c3 : Value} {x : DataW H × List MemPlace} (h : DataW.trod enc Try.prog w base spare held fuel 23 [c0, c1, c2, c3] = some x) :
    ∃ xs : List Int, [c0, c1, c2, c3] = bv xs ∧ xs.length = 4 ∧ Byt xs := by
  obtain ⟨y0, y1, y2, y3, n, _, h0, h1, h2, h3⟩ := trod_array4 Try.underlying23 u8_cells h
  obtain ⟨n0, e0, _, w0⟩ := DataW.trod_int Try.underlying5 h0
  obtain ⟨n1, e1, _, w1⟩ := DataW.trod_int Try.underlying5 h1
  obtain ⟨n2, e2, _, w2⟩ := DataW.trod_int Try.underlying5 h2
  obtain ⟨n3, e3, _, w3⟩ := DataW.trod_int Try.underlying5 h3
  simp only [List.cons.injEq, and_true] at e0 e1 e2 e3
  subst e0 e1 e2 e3
  refine ⟨[n0, n1, n2, n3], rfl, rfl, byt_of fun y hy => ?_⟩
  simp only [List.mem_cons, List.not_mem_nil, or_false] at hy
  rcases hy with rfl | rfl | rfl | rfl <;> assumption
theorem open_hdr {cs : List Value} {x : DataW H × List MemPlace} (h : DataW.trod enc Try.prog w base spare held fuel 26 cs = some x) (hsp : ∀ b, spare b = true) : ∃ hd : Hd, cs = hd.cs ∧ hd.ok w := by
  obtain ⟨ys, n, _, _, hlen, hyl, hf⟩ := DataW.trod_struct Try.underlying26 h
  rw [hdr_cells] at hlen
  have hfld := fun (i : Nat) f hi => (hf i f hi).trans (List.getElem?_eq_getElem (by have := (Array.getElem?_eq_some_iff.1 hi).1; omega))
  clear hf
  obtain ⟨c0, c1, c2, c3, c4, c5, c6, c7, c8, c9, c10, c11, c12, c13, c14, c15, c16, rfl⟩ := list17 cs hlen
  have g0 : DataW.trod enc Try.prog w base spare held n 5 (([c0, c1, c2, c3, c4, c5, c6, c7, c8, c9, c10, c11, c12, c13, c14, c15, c16].drop 0).take (Try.prog.cellsOf 5)) = some _ := hfld 0 _ rfl
  rw [u8_cells] at g0
  have h0 : DataW.trod enc Try.prog w base spare held n 5 [c0] = some _ := g0
  have g1 : DataW.trod enc Try.prog w base spare held n 22 (([c0, c1, c2, c3, c4, c5, c6, c7, c8, c9, c10, c11, c12, c13, c14, c15, c16].drop 1).take (Try.prog.cellsOf 22)) = some _ := hfld 1 _ rfl
  rw [u16_cells] at g1
  have h1 : DataW.trod enc Try.prog w base spare held n 22 [c1] = some _ := g1
  have g2 : DataW.trod enc Try.prog w base spare held n 22 (([c0, c1, c2, c3, c4, c5, c6, c7, c8, c9, c10, c11, c12, c13, c14, c15, c16].drop 2).take (Try.prog.cellsOf 22)) = some _ := hfld 2 _ rfl
  rw [u16_cells] at g2
  have h2 : DataW.trod enc Try.prog w base spare held n 22 [c2] = some _ := g2
  have g3 : DataW.trod enc Try.prog w base spare held n 4 (([c0, c1, c2, c3, c4, c5, c6, c7, c8, c9, c10, c11, c12, c13, c14, c15, c16].drop 3).take (Try.prog.cellsOf 4)) = some _ := hfld 3 _ rfl
  rw [bool_cells] at g3
  have h3 : DataW.trod enc Try.prog w base spare held n 4 [c3] = some _ := g3
  have g4 : DataW.trod enc Try.prog w base spare held n 4 (([c0, c1, c2, c3, c4, c5, c6, c7, c8, c9, c10, c11, c12, c13, c14, c15, c16].drop 4).take (Try.prog.cellsOf 4)) = some _ := hfld 4 _ rfl
  rw [bool_cells] at g4
  have h4 : DataW.trod enc Try.prog w base spare held n 4 [c4] = some _ := g4
  have g5 : DataW.trod enc Try.prog w base spare held n 22 (([c0, c1, c2, c3, c4, c5, c6, c7, c8, c9, c10, c11, c12, c13, c14, c15, c16].drop 5).take (Try.prog.cellsOf 22)) = some _ := hfld 5 _ rfl
  rw [u16_cells] at g5
  have h5 : DataW.trod enc Try.prog w base spare held n 22 [c5] = some _ := g5
  have g6 : DataW.trod enc Try.prog w base spare held n 5 (([c0, c1, c2, c3, c4, c5, c6, c7, c8, c9, c10, c11, c12, c13, c14, c15, c16].drop 6).take (Try.prog.cellsOf 5)) = some _ := hfld 6 _ rfl
  rw [u8_cells] at g6
  have h6 : DataW.trod enc Try.prog w base spare held n 5 [c6] = some _ := g6
  have g7 : DataW.trod enc Try.prog w base spare held n 5 (([c0, c1, c2, c3, c4, c5, c6, c7, c8, c9, c10, c11, c12, c13, c14, c15, c16].drop 7).take (Try.prog.cellsOf 5)) = some _ := hfld 7 _ rfl
  rw [u8_cells] at g7
  have h7 : DataW.trod enc Try.prog w base spare held n 5 [c7] = some _ := g7
  have g8 : DataW.trod enc Try.prog w base spare held n 23 (([c0, c1, c2, c3, c4, c5, c6, c7, c8, c9, c10, c11, c12, c13, c14, c15, c16].drop 8).take (Try.prog.cellsOf 23)) = some _ := hfld 8 _ rfl
  rw [arr4_cells] at g8
  have h8 : DataW.trod enc Try.prog w base spare held n 23 [c8, c9, c10, c11] = some _ := g8
  have g9 : DataW.trod enc Try.prog w base spare held n 23 (([c0, c1, c2, c3, c4, c5, c6, c7, c8, c9, c10, c11, c12, c13, c14, c15, c16].drop 12).take (Try.prog.cellsOf 23)) = some _ := hfld 9 _ rfl
  rw [arr4_cells] at g9
  have h9 : DataW.trod enc Try.prog w base spare held n 23 [c12, c13, c14, c15] = some _ := g9
  have g10 : DataW.trod enc Try.prog w base spare held n 24 (([c0, c1, c2, c3, c4, c5, c6, c7, c8, c9, c10, c11, c12, c13, c14, c15, c16].drop 16).take (Try.prog.cellsOf 24)) = some _ := hfld 10 _ rfl
  rw [bytes_cells] at g10
  have h10 : DataW.trod enc Try.prog w base spare held n 24 [c16] = some _ := g10
  clear g0 g1 g2 g3 g4 g5 g6 g7 g8 g9 g10 hfld
  obtain ⟨n0, e0, _, w0⟩ := DataW.trod_int Try.underlying5 h0
  obtain ⟨n1, e1, _, w1⟩ := DataW.trod_int Try.underlying22 h1
  obtain ⟨n2, e2, _, w2⟩ := DataW.trod_int Try.underlying22 h2
  obtain ⟨b3, e3, _⟩ := DataW.trod_bool Try.underlying4 h3
  obtain ⟨b4, e4, _⟩ := DataW.trod_bool Try.underlying4 h4
  obtain ⟨n5, e5, _, w5⟩ := DataW.trod_int Try.underlying22 h5
  obtain ⟨n6, e6, _, w6⟩ := DataW.trod_int Try.underlying5 h6
  obtain ⟨n7, e7, _, w7⟩ := DataW.trod_int Try.underlying5 h7
  obtain ⟨s8, e8, l8, b8⟩ := open4 h8
  obtain ⟨s9, e9, l9, b9⟩ := open4 h9
  have hs : ∃ a m c, c16 = .slice a m c := by
    rcases open_ints Try.underlying24 Try.underlying5 u8_cells h10 with ⟨e, _⟩ | ⟨ad, l, c, _, e, _⟩
    · exact ⟨none, 0, 0, by simpa using e⟩
    · exact ⟨some ad, l, c, by simpa using e⟩
  obtain ⟨a, m, c, rfl⟩ := hs
  obtain ⟨xs, hl, hc, hm, hr, hw⟩ := open_row Try.underlying24 Try.underlying5 u8_cells h10 hsp
  simp only [List.cons.injEq, and_true] at e0 e1 e2 e3 e4 e5 e6 e7
  subst e0 e1 e2 e3 e4 e5 e6 e7
  have q0 : 0 ≤ n0 ∧ n0 < 256 := by have := bounds_u8 w0; omega
  have q1 : 0 ≤ n1 ∧ n1 < 65536 := by have := bounds_u16 w1; omega
  have q2 : 0 ≤ n2 ∧ n2 < 65536 := by have := bounds_u16 w2; omega
  have q5 : 0 ≤ n5 ∧ n5 < 65536 := by have := bounds_u16 w5; omega
  have q6 : 0 ≤ n6 ∧ n6 < 256 := by have := bounds_u8 w6; omega
  have q7 : 0 ≤ n7 ∧ n7 < 256 := by have := bounds_u8 w7; omega
  refine ⟨⟨n0, n1, n2, b3, b4, n5, n6, n7, s8, s9, a, m, c, xs⟩, ?_, ⟨q0, q1, q2, q5, q6, q7, l8, l9, b8, b9, ⟨hl, hc, hm, rd_of hr, byt_of hw⟩⟩⟩
  show _ = Hd.cs _
  rw [Hd.cs, ← e8, ← e9]; rfl
end
end Go.Proofs.Ytjnbnjdajkhkpaa

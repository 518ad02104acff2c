/-
  How an argument that is a header of IPv6 is opened. Conditions: those that the theorems name.
-/
import Derived.Test.YthipnkaghddbhaaSxHeads
import Derived.Laws.IdiomArrays
namespace Go.Proofs.Ythipnkaghddbhaa
open Go.ChangeShapes Go.WideShapes Go.ChangeAt Go.RowKit

theorem hdr6_cells : Try.prog.cellsOf 26 = 37 := by kernel_rfl
theorem u8_cells : Try.prog.cellsOf 5 = 1 := by kernel_rfl
theorem u16_cells : Try.prog.cellsOf 23 = 1 := by kernel_rfl
theorem u32_cells : Try.prog.cellsOf 22 = 1 := by kernel_rfl
theorem arr16_cells : Try.prog.cellsOf 24 = 16 := by kernel_rfl

section
variable {H : Type} {enc : TypeId × Value → H} {w : World} {base : Nat} {spare : Nat → Bool} {held : Bool} {fuel : Nat}
/-- The number of a cell. -/
def numOf : Value → Int
  | .int _ z => z
  | _ => 0
theorem open16 {cs : List Value} {x : DataW H × List MemPlace} (h : DataW.trod enc Try.prog w base spare held fuel 24 cs = some x) :
    ∃ xs : List Int, cs = bv xs ∧ xs.length = 16 ∧ Byt xs := by
  obtain ⟨ys, m, _, _, hl, hy, hf⟩ := DataW.trod_array Try.underlying24 h
  rw [arr16_cells] at hl
  have hall : ∀ i, i < 16 → ∃ z, cs[i]? = some (.int .u8 z) ∧ (Lit.int .u8 z).wf = true := by
    intro i hi
    have h1 := hf i hi
    rw [u8_cells, Nat.mul_one] at h1
    have hli : i < cs.length := by omega
    have e : (cs.drop i).take 1 = [cs[i]] := by
      rw [List.drop_eq_getElem_cons hli]; rfl
    rw [e, List.getElem?_eq_getElem (show i < ys.length by omega)] at h1
    obtain ⟨z, hz, _, hw⟩ := DataW.trod_int Try.underlying5 h1
    simp only [List.cons.injEq, and_true] at hz
    exact ⟨z, by rw [List.getElem?_eq_getElem hli, hz], hw⟩
  refine ⟨cs.map numOf, ?_, by rw [List.length_map, hl], byt_of fun y hy => ?_⟩
  · apply List.ext_getElem?
    intro i
    by_cases hi : i < 16
    · obtain ⟨z, hz, _⟩ := hall i hi
      simp [bv, hz, numOf]
    · rw [List.getElem?_eq_none (by omega), List.getElem?_eq_none (by simp [bv]; omega)]
  · obtain ⟨v, hv, rfl⟩ := List.mem_map.1 hy
    obtain ⟨i, hi⟩ := List.mem_iff_getElem?.1 hv
    have hlt : i < 16 := by have := (List.getElem?_eq_some_iff.1 hi).1; omega
    obtain ⟨z, hz, hw⟩ := hall i hlt
    rw [hi] at hz
    rw [Option.some.inj hz]
    exact hw
theorem cut_app (cs : List Value) (a b : Nat) (h : cs.length = a + b) : cs = cs.take a ++ (cs.drop a).take b := by
  rw [List.take_of_length_le (l := cs.drop a) (by simp; omega), List.take_append_drop]
theorem open_h6 {cs : List Value} {x : DataW H × List MemPlace} (h : DataW.trod enc Try.prog w base spare held fuel 26 cs = some x) : ∃ hd : H6, cs = hd.cs ∧ hd.ok := by
  obtain ⟨ys, n, _, _, hlen, hyl, hf⟩ := DataW.trod_struct Try.underlying26 h
  rw [hdr6_cells] at hlen
  have hfld := fun (i : Nat) f hi => (hf i f hi).trans (List.getElem?_eq_getElem (by have := (Array.getElem?_eq_some_iff.1 hi).1; omega))
  clear hf
  have one : ∀ i, i < 37 → (cs.drop i).take 1 = [cs.getD i undef] := by
    intro i hi
    rw [List.drop_eq_getElem_cons (by omega), List.getD_eq_getElem?_getD, List.getElem?_eq_getElem (by omega)]
    rfl
  have g0 : DataW.trod enc Try.prog w base spare held n 5 ((cs.drop 0).take (Try.prog.cellsOf 5)) = some _ := hfld 0 _ rfl
  rw [u8_cells, one 0 (by omega)] at g0
  have g1 : DataW.trod enc Try.prog w base spare held n 22 ((cs.drop 1).take (Try.prog.cellsOf 22)) = some _ := hfld 1 _ rfl
  rw [u32_cells, one 1 (by omega)] at g1
  have g2 : DataW.trod enc Try.prog w base spare held n 23 ((cs.drop 2).take (Try.prog.cellsOf 23)) = some _ := hfld 2 _ rfl
  rw [u16_cells, one 2 (by omega)] at g2
  have g3 : DataW.trod enc Try.prog w base spare held n 5 ((cs.drop 3).take (Try.prog.cellsOf 5)) = some _ := hfld 3 _ rfl
  rw [u8_cells, one 3 (by omega)] at g3
  have g4 : DataW.trod enc Try.prog w base spare held n 5 ((cs.drop 4).take (Try.prog.cellsOf 5)) = some _ := hfld 4 _ rfl
  rw [u8_cells, one 4 (by omega)] at g4
  have g5 : DataW.trod enc Try.prog w base spare held n 24 ((cs.drop 5).take (Try.prog.cellsOf 24)) = some _ := hfld 5 _ rfl
  rw [arr16_cells] at g5
  have g6 : DataW.trod enc Try.prog w base spare held n 24 ((cs.drop 21).take (Try.prog.cellsOf 24)) = some _ := hfld 6 _ rfl
  rw [arr16_cells] at g6
  clear hfld
  obtain ⟨n0, e0, _, w0⟩ := DataW.trod_int Try.underlying5 g0
  obtain ⟨n1, e1, _, w1⟩ := DataW.trod_int Try.underlying22 g1
  obtain ⟨n2, e2, _, w2⟩ := DataW.trod_int Try.underlying23 g2
  obtain ⟨n3, e3, _, w3⟩ := DataW.trod_int Try.underlying5 g3
  obtain ⟨n4, e4, _, w4⟩ := DataW.trod_int Try.underlying5 g4
  obtain ⟨s5, e5, l5, b5⟩ := open16 g5
  obtain ⟨s6, e6, l6, b6⟩ := open16 g6
  simp only [List.cons.injEq, and_true] at e0 e1 e2 e3 e4
  have q0 : 0 ≤ n0 ∧ n0 < 256 := by have := bounds_u8 w0; omega
  have q1 : 0 ≤ n1 ∧ n1 < 4294967296 := by have := bounds_u32 w1; omega
  have q2 : 0 ≤ n2 ∧ n2 < 65536 := by have := bounds_u16 w2; omega
  have q3 : 0 ≤ n3 ∧ n3 < 256 := by have := bounds_u8 w3; omega
  have q4 : 0 ≤ n4 ∧ n4 < 256 := by have := bounds_u8 w4; omega
  refine ⟨⟨n0, n1, n2, n3, n4, s5, s6⟩, ?_, ⟨q0, q1, q2, q3, q4, l5, l6, b5, b6⟩⟩
  show cs = .int .u8 n0 :: .int .u32 n1 :: .int .u16 n2 :: .int .u8 n3 :: .int .u8 n4 :: (bv s5 ++ bv s6)
  rw [← e5, ← e6, ← e0, ← e1, ← e2, ← e3, ← e4]
  apply List.ext_getElem?
  intro i
  match i with
  | 0 => simp [List.getElem?_eq_getElem (show 0 < cs.length by omega)]
  | 1 => simp [List.getElem?_eq_getElem (show 1 < cs.length by omega)]
  | 2 => simp [List.getElem?_eq_getElem (show 2 < cs.length by omega)]
  | 3 => simp [List.getElem?_eq_getElem (show 3 < cs.length by omega)]
  | 4 => simp [List.getElem?_eq_getElem (show 4 < cs.length by omega)]
  | i + 5 =>
    have e : cs.drop 5 = (cs.drop 5).take 16 ++ (cs.drop 21).take 16 := by
      have := cut_app (cs.drop 5) 16 16 (by simp; omega)
      rw [List.drop_drop] at this
      exact this
    simp only [List.getElem?_cons_succ]
    rw [← e, List.getElem?_drop, Nat.add_comm]
end
theorem ipsixheads_any (h : H6) (a : Option Addr) (n c : Nat) (xs : List Int) (w : World) (k : h.ok) (hn : xs.length = n) (hc : n ≤ c) (hr : Rd w a xs) (hb : Byt xs) :
    Calls Try.prog 3 #[.agg h.cs.toArray, .slice a n c] w fun e w' => e = .returned (.bool true) ∧ Below w.heap.size w w' := heads_any h a n c xs w k hn hc hr hb
end Go.Proofs.Ythipnkaghddbhaa

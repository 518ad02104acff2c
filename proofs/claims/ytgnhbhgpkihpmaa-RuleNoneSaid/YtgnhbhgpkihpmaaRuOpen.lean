/-
  How arguments that are keys, rules, rows of rules are opened. Conditions: those that the theorems name.
-/
import Derived.Test.YtgnhbhgpkihpmaaRuLeaf
import Derived.Test.YtgnhbhgpkihpmaaRuFst
import Derived.Laws.IdiomArrays
import Derived.Deep.SlicePairs
namespace Go.Proofs.Ytgnhbhgpkihpmaa
open Go.ChangeShapes Go.WideShapes Go.ChangeAt Go.RowKit

theorem key_cells : Try.prog.cellsOf 28 = 37 := by kernel_rfl
theorem rule_cells : Try.prog.cellsOf 43 = 44 := by kernel_rfl
theorem addr_cells : Try.prog.cellsOf 25 = 17 := by kernel_rfl
theorem pfx_cells : Try.prog.cellsOf 39 = 18 := by kernel_rfl
theorem ports_cells : Try.prog.cellsOf 41 = 2 := by kernel_rfl
theorem u8_cells : Try.prog.cellsOf 5 = 1 := by kernel_rfl
theorem u16_cells : Try.prog.cellsOf 26 = 1 := by kernel_rfl
theorem bool_cells : Try.prog.cellsOf 4 = 1 := by kernel_rfl
theorem int_cells : Try.prog.cellsOf 3 = 1 := by kernel_rfl
theorem arr16_cells : Try.prog.cellsOf 23 = 16 := by kernel_rfl

section
variable {H : Type} {enc : TypeId × Value → H} {w : World} {base : Nat} {spare : Nat → Bool} {held : Bool} {fuel : Nat}
/-- The number of a cell. -/
def numOf : Value → Int
  | .int _ z => z
  | _ => 0
theorem open16 {cs : List Value} {x : DataW H × List MemPlace} (h : DataW.trod enc Try.prog w base spare held fuel 23 cs = some x) :
    ∃ xs : List Int, cs = bv xs ∧ xs.length = 16 ∧ Byt xs := by
  obtain ⟨ys, m, _, _, hl, hy, hf⟩ := DataW.trod_array Try.underlying23 h
  rw [arr16_cells] at hl
  have hall : ∀ i, i < 16 → ∃ z, cs[i]? = some (.int .u8 z) ∧ (Lit.int .u8 z).wf = true := by
    intro i hi
    have h1 := hf i hi
    rw [u8_cells, Nat.mul_one] at h1
    have hli : i < cs.length := by omega
    have e : (cs.drop i).take 1 = [cs[i]] := by
      rw [List.drop_eq_getElem_cons hli]; rfl
    rw [e, List.getElem?_eq_getElem (show i < ys.length by omega)] at h1
    obtain ⟨z, hz, _, hw⟩ := DataW.trod_int Try.underlying5 h1
    simp only [List.cons.injEq, and_true] at hz
    exact ⟨z, by rw [List.getElem?_eq_getElem hli, hz], hw⟩
  refine ⟨cs.map numOf, ?_, by rw [List.length_map, hl], byt_of fun y hy => ?_⟩
  · apply List.ext_getElem?
    intro i
    by_cases hi : i < 16
    · obtain ⟨z, hz, _⟩ := hall i hi
      simp [bv, hz, numOf]
    · rw [List.getElem?_eq_none (by omega), List.getElem?_eq_none (by simp [bv]; omega)]
  · obtain ⟨v, hv, rfl⟩ := List.mem_map.1 hy
    obtain ⟨i, hi⟩ := List.mem_iff_getElem?.1 hv
    have hlt : i < 16 := by have := (List.getElem?_eq_some_iff.1 hi).1; omega
    obtain ⟨z, hz, hw⟩ := hall i hlt
    rw [hi] at hz
    rw [Option.some.inj hz]
    exact hw
/-- A part of cells, and what is behind. -/
theorem cut_at (cs : List Value) (o n : Nat) : cs.drop o = (cs.drop o).take n ++ cs.drop (o + n) := by
  rw [← List.drop_drop, List.take_append_drop]
theorem cut_end (cs : List Value) (o n : Nat) (h : cs.length = o + n) : cs.drop o = (cs.drop o).take n := by
  rw [List.take_of_length_le (by simp; omega)]
theorem open_addr {cs : List Value} {x : DataW H × List MemPlace} (h : DataW.trod enc Try.prog w base spare held fuel 25 cs = some x) : ∃ (s : Bool) (xs : List Int), cs = adl s xs ∧ xs.length = 16 ∧ Byt xs := by
  obtain ⟨ys, n, _, _, hlen, hyl, hf⟩ := DataW.trod_struct Try.underlying25 h
  rw [addr_cells] at hlen
  have hfld := fun (i : Nat) f hi => (hf i f hi).trans (List.getElem?_eq_getElem (by have := (Array.getElem?_eq_some_iff.1 hi).1; omega))
  have g0 : DataW.trod enc Try.prog w base spare held n 4 ((cs.drop 0).take (Try.prog.cellsOf 4)) = some _ := hfld 0 _ rfl
  have g1 : DataW.trod enc Try.prog w base spare held n 23 ((cs.drop 1).take (Try.prog.cellsOf 23)) = some _ := hfld 1 _ rfl
  rw [bool_cells] at g0
  rw [arr16_cells] at g1
  obtain ⟨s, hs, _⟩ := DataW.trod_bool Try.underlying4 g0
  obtain ⟨xs, hx, hl, hb⟩ := open16 g1
  refine ⟨s, xs, ?_, hl, hb⟩
  have e0 := cut_at cs 0 1
  have e1 := cut_end cs 1 16 (by omega)
  rw [List.drop_zero] at e0 hs
  rw [e0, hs, Nat.zero_add, e1, hx]
  rfl
theorem open_pfx {cs : List Value} {x : DataW H × List MemPlace} (h : DataW.trod enc Try.prog w base spare held fuel 39 cs = some x) : ∃ (s : Bool) (xs : List Int) (m : Int), cs = pfl s xs m ∧ xs.length = 16 ∧ Byt xs := by
  obtain ⟨ys, n, _, _, hlen, hyl, hf⟩ := DataW.trod_struct Try.underlying39 h
  rw [pfx_cells] at hlen
  have hfld := fun (i : Nat) f hi => (hf i f hi).trans (List.getElem?_eq_getElem (by have := (Array.getElem?_eq_some_iff.1 hi).1; omega))
  have g0 : DataW.trod enc Try.prog w base spare held n 25 ((cs.drop 0).take (Try.prog.cellsOf 25)) = some _ := hfld 0 _ rfl
  have g1 : DataW.trod enc Try.prog w base spare held n 3 ((cs.drop 17).take (Try.prog.cellsOf 3)) = some _ := hfld 1 _ rfl
  rw [addr_cells] at g0
  rw [int_cells] at g1
  obtain ⟨s, xs, hx, hl, hb⟩ := open_addr g0
  obtain ⟨z, hz, _, _⟩ := DataW.trod_int Try.underlying3 g1
  refine ⟨s, xs, z, ?_, hl, hb⟩
  have e0 := cut_at cs 0 17
  have e1 := cut_end cs 17 1 (by omega)
  rw [List.drop_zero] at e0 hx
  rw [e0, hx, Nat.zero_add, e1, hz]
  rfl
theorem open_ports {cs : List Value} {x : DataW H × List MemPlace} (h : DataW.trod enc Try.prog w base spare held fuel 41 cs = some x) : ∃ a b : Int, cs = prl a b ∧ (0 ≤ a ∧ a < 65536) ∧ (0 ≤ b ∧ b < 65536) := by
  obtain ⟨ys, n, _, _, hlen, hyl, hf⟩ := DataW.trod_struct Try.underlying41 h
  rw [ports_cells] at hlen
  have hfld := fun (i : Nat) f hi => (hf i f hi).trans (List.getElem?_eq_getElem (by have := (Array.getElem?_eq_some_iff.1 hi).1; omega))
  have g0 : DataW.trod enc Try.prog w base spare held n 26 ((cs.drop 0).take (Try.prog.cellsOf 26)) = some _ := hfld 0 _ rfl
  have g1 : DataW.trod enc Try.prog w base spare held n 26 ((cs.drop 1).take (Try.prog.cellsOf 26)) = some _ := hfld 1 _ rfl
  rw [u16_cells] at g0 g1
  obtain ⟨a, ha, _, wa⟩ := DataW.trod_int Try.underlying26 g0
  obtain ⟨b, hb, _, wb⟩ := DataW.trod_int Try.underlying26 g1
  refine ⟨a, b, ?_, by have := bounds_u16 wa; omega, by have := bounds_u16 wb; omega⟩
  have e0 := cut_at cs 0 1
  have e1 := cut_end cs 1 1 (by omega)
  rw [List.drop_zero] at e0 ha
  rw [e0, ha, Nat.zero_add, e1, hb]
  rfl
theorem open_key {cs : List Value} {x : DataW H × List MemPlace} (h : DataW.trod enc Try.prog w base spare held fuel 28 cs = some x) : ∃ k : Ky, cs = k.cs ∧ k.ok := by
  obtain ⟨ys, n, _, _, hlen, hyl, hf⟩ := DataW.trod_struct Try.underlying28 h
  rw [key_cells] at hlen
  have hfld := fun (i : Nat) f hi => (hf i f hi).trans (List.getElem?_eq_getElem (by have := (Array.getElem?_eq_some_iff.1 hi).1; omega))
  have g0 : DataW.trod enc Try.prog w base spare held n 25 ((cs.drop 0).take (Try.prog.cellsOf 25)) = some _ := hfld 0 _ rfl
  have g1 : DataW.trod enc Try.prog w base spare held n 25 ((cs.drop 17).take (Try.prog.cellsOf 25)) = some _ := hfld 1 _ rfl
  have g2 : DataW.trod enc Try.prog w base spare held n 5 ((cs.drop 34).take (Try.prog.cellsOf 5)) = some _ := hfld 2 _ rfl
  have g3 : DataW.trod enc Try.prog w base spare held n 26 ((cs.drop 35).take (Try.prog.cellsOf 26)) = some _ := hfld 3 _ rfl
  have g4 : DataW.trod enc Try.prog w base spare held n 26 ((cs.drop 36).take (Try.prog.cellsOf 26)) = some _ := hfld 4 _ rfl
  rw [addr_cells] at g0 g1
  rw [u8_cells] at g2
  rw [u16_cells] at g3 g4
  obtain ⟨s, xs, hx, hl, hb⟩ := open_addr g0
  obtain ⟨t, zs, hz, hl2, hb2⟩ := open_addr g1
  obtain ⟨a, ha, _, wa⟩ := DataW.trod_int Try.underlying5 g2
  obtain ⟨b, hb3, _, wb⟩ := DataW.trod_int Try.underlying26 g3
  obtain ⟨c, hc, _, wc⟩ := DataW.trod_int Try.underlying26 g4
  refine ⟨⟨s, xs, t, zs, a, b, c⟩, ?_, ⟨hl, hb, hl2, hb2, by have := bounds_u8 wa; show 0 ≤ a ∧ a < 256; omega, by have := bounds_u16 wb; show 0 ≤ b ∧ b < 65536; omega, by have := bounds_u16 wc; show 0 ≤ c ∧ c < 65536; omega⟩⟩
  have e0 := cut_at cs 0 17
  have e1 := cut_at cs 17 17
  have e2 := cut_at cs 34 1
  have e3 := cut_at cs 35 1
  have e4 := cut_end cs 36 1 (by omega)
  rw [List.drop_zero] at e0 hx
  rw [e0, hx, Nat.zero_add, e1, hz, e2, ha, e3, hb3, e4, hc]
  rfl
theorem open_rule {cs : List Value} {x : DataW H × List MemPlace} (h : DataW.trod enc Try.prog w base spare held fuel 43 cs = some x) : ∃ r : Rl, cs = r.cs ∧ r.ok := by
  obtain ⟨ys, n, _, _, hlen, hyl, hf⟩ := DataW.trod_struct Try.underlying43 h
  rw [rule_cells] at hlen
  have hfld := fun (i : Nat) f hi => (hf i f hi).trans (List.getElem?_eq_getElem (by have := (Array.getElem?_eq_some_iff.1 hi).1; omega))
  have g0 : DataW.trod enc Try.prog w base spare held n 3 ((cs.drop 0).take (Try.prog.cellsOf 3)) = some _ := hfld 0 _ rfl
  have g1 : DataW.trod enc Try.prog w base spare held n 3 ((cs.drop 1).take (Try.prog.cellsOf 3)) = some _ := hfld 1 _ rfl
  have g2 : DataW.trod enc Try.prog w base spare held n 39 ((cs.drop 2).take (Try.prog.cellsOf 39)) = some _ := hfld 2 _ rfl
  have g3 : DataW.trod enc Try.prog w base spare held n 39 ((cs.drop 20).take (Try.prog.cellsOf 39)) = some _ := hfld 3 _ rfl
  have g4 : DataW.trod enc Try.prog w base spare held n 41 ((cs.drop 38).take (Try.prog.cellsOf 41)) = some _ := hfld 4 _ rfl
  have g5 : DataW.trod enc Try.prog w base spare held n 41 ((cs.drop 40).take (Try.prog.cellsOf 41)) = some _ := hfld 5 _ rfl
  have g6 : DataW.trod enc Try.prog w base spare held n 4 ((cs.drop 42).take (Try.prog.cellsOf 4)) = some _ := hfld 6 _ rfl
  have g7 : DataW.trod enc Try.prog w base spare held n 3 ((cs.drop 43).take (Try.prog.cellsOf 3)) = some _ := hfld 7 _ rfl
  rw [int_cells] at g0 g1 g7
  rw [pfx_cells] at g2 g3
  rw [ports_cells] at g4 g5
  rw [bool_cells] at g6
  obtain ⟨a, ha, _, _⟩ := DataW.trod_int Try.underlying3 g0
  obtain ⟨b, hb, _, _⟩ := DataW.trod_int Try.underlying3 g1
  obtain ⟨s, xs, m, hx, hl, hby⟩ := open_pfx g2
  obtain ⟨s2, xs2, m2, hx2, hl2, hby2⟩ := open_pfx g3
  obtain ⟨p, q, hpq, hp, hq⟩ := open_ports g4
  obtain ⟨p2, q2, hpq2, hp2, hq2⟩ := open_ports g5
  obtain ⟨d, hd, _⟩ := DataW.trod_bool Try.underlying4 g6
  obtain ⟨c, hc, _, _⟩ := DataW.trod_int Try.underlying3 g7
  refine ⟨⟨a, b, s, xs, m, s2, xs2, m2, p, q, p2, q2, d, c⟩, ?_, ⟨hl, hby, hl2, hby2, hp, hq, hp2, hq2⟩⟩
  have e0 := cut_at cs 0 1
  have e1 := cut_at cs 1 1
  have e2 := cut_at cs 2 18
  have e3 := cut_at cs 20 18
  have e4 := cut_at cs 38 2
  have e5 := cut_at cs 40 2
  have e6 := cut_at cs 42 1
  have e7 := cut_end cs 43 1 (by omega)
  rw [List.drop_zero] at e0 ha
  rw [e0, ha, Nat.zero_add, e1, hb, e2, hx, e3, hx2, e4, hpq, e5, hpq2, e6, hd, e7, hc]
  rfl
theorem open_rules {a : Option Addr} {n c : Nat} {x : DataW H × List MemPlace} (h : DataW.trod enc Try.prog w base spare held fuel 22 [.slice a n c] = some x) (hsp : ∀ b, spare b = true) : ∃ l : List Rl, Rls w a n l ∧ (a = none → c = 0) := by
  rcases Go.Deep.open_slice Try.underlying22 h with ⟨e, _⟩ | ⟨ad, len, cap, m, k, D, Pl, e, _, hl, hm, hmm, _, hx⟩
  · simp only [List.cons.injEq, Value.slice.injEq, and_true] at e
    obtain ⟨rfl, rfl, rfl⟩ := e
    exact ⟨[], ⟨rfl, (fun r hr => by cases hr), fun hne => absurd rfl hne⟩, fun _ => rfl⟩
  · simp only [List.cons.injEq, Value.slice.injEq, and_true] at e
    obtain ⟨rfl, rfl, rfl⟩ := e
    rw [if_pos (hsp _)] at hmm
    subst hmm
    rw [rule_cells] at hx
    have each : ∀ i, i < n → ∃ r : Rl, r.ok ∧ ∀ j v, r.cs[j]? = some v → w.cell? ((ad.add (i * 44)).add j) = some v := by
      intro i hi
      obtain ⟨cs', h1, h2⟩ := hx i (by omega)
      obtain ⟨r, rfl, hr⟩ := open_rule h2
      obtain ⟨_, hlen, hcell⟩ := World.cells?_some h1
      exact ⟨r, hr, fun j v hv => by
        have hj : j < r.cs.length := (List.getElem?_eq_some_iff.1 hv).1
        have h3 := hcell j (by omega)
        rw [h3, ← hv]⟩
    haveI : Inhabited Rl := ⟨⟨0, 0, false, [], 0, false, [], 0, 0, 0, 0, 0, false, 0⟩⟩
    obtain ⟨q, hq⟩ := Go.Deep.choose_lt each
    refine ⟨(List.range n).map q, ⟨by simp, fun r hr => ?_, fun hne => ?_⟩, fun e => by cases e⟩
    · obtain ⟨i, hi, rfl⟩ := List.mem_map.1 hr
      exact (hq i (List.mem_range.1 hi)).1
    · have hn0 : 0 < n := by
        rcases Nat.eq_zero_or_pos n with e | e
        · subst e; simp at hne
        · exact e
      obtain ⟨b, o, spot⟩ := ad
      have h0 := (hq 0 hn0).2 0 (.int .i64 (q 0).v) rfl
      have hspot : spot = none := by simpa [Addr.add] using World.cell?_spot h0
      subst hspot
      refine ⟨b, o, rfl, fun i r hr j v hv => ?_⟩
      have hi : i < n := by have := (List.getElem?_eq_some_iff.1 hr).1; simpa using this
      have he : r = q i := by simp [hi] at hr; exact hr.symm
      subst he
      have h1 := (hq i hi).2 j v hv
      rwa [Addr.add_lit, Addr.add_lit] at h1
end
end Go.Proofs.Ytgnhbhgpkihpmaa

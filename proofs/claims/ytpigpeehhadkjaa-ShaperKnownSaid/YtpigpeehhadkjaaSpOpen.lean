/-
  How arguments that are acts, and rows of classes, are opened; few. Conditions: those that the theorems name. (Made by gen_spopen.py.)
-/
import Derived.Test.YtpigpeehhadkjaaSpWorks
import Derived.Laws.IdiomArrays
import Derived.Deep.SlicePairs
namespace Go.Proofs.Ytpigpeehhadkjaa
open Go.ChangeShapes Go.WideShapes Go.ChangeAt Go.RowKit Bkt

/-- An item that comes in: its numbers fit, its data lie where it leads. -/
structure Pi.ar (x : Pi) (w : World) : Prop where
  no0 : 0 ≤ x.no
  no1 : x.no ≤ 18446744073709551615
  s0 : -9223372036854775808 ≤ x.sz
  s1 : x.sz ≤ 9223372036854775807
  len : x.d.length = x.n
  nc : x.n ≤ x.c
  rd : Rd w x.a x.d
  byt : Byt x.d
theorem Pi.ar.below {x : Pi} {w w' : World} (h : x.ar w) (k : Below w.heap.size w w') : x.ar w' := ⟨h.no0, h.no1, h.s0, h.s1, h.len, h.nc, h.rd.below k, h.byt⟩
theorem Pi.ar.at_ {x : Pi} {w : World} (h : x.ar w) (hn : x.n ≤ 1000000) : x.at_ w := ⟨h.len, h.rd, h.byt, hn⟩
/-- An act: what is done, to which class, with which item, at which tick. -/
structure Ac where
  d : Int
  c : Int
  x : Pi
  t : Int
def Ac.cs (y : Ac) : List Value := [.int .i64 y.d, .int .i64 y.c, .int .u64 y.x.no, .int .i64 y.x.sz, .slice y.x.a y.x.n y.x.c, .int .u64 y.t]
structure Ac.ok (y : Ac) (w : World) : Prop where
  d0 : -9223372036854775808 ≤ y.d
  d1 : y.d ≤ 9223372036854775807
  c0 : -9223372036854775808 ≤ y.c
  c1 : y.c ≤ 9223372036854775807
  x : y.x.ar w
  t0 : 0 ≤ y.t
  t1 : y.t ≤ 18446744073709551615
/-- A row of acts. -/
structure Acr (w : World) (a : Option Addr) (n : Nat) (l : List Ac) : Prop where
  len : l.length = n
  ok : ∀ y ∈ l, y.ok w
  cells : l ≠ [] → ∃ b o, a = some ⟨b, o, none⟩ ∧ ∀ (i : Nat) (y : Ac), l[i]? = some y → w.rangeAt b (o + i * 6) y.cs
theorem range_kept {w wr : World} (h : Below w.heap.size w wr) {b o : Nat} {cs : List Value} (hc : w.rangeAt b o cs) : wr.rangeAt b o cs := fun j v hv => cell_kept h (hc j v hv)
theorem Ac.ok.below {y : Ac} {w w' : World} (h : y.ok w) (hb : Below w.heap.size w w') : y.ok w' := ⟨h.d0, h.d1, h.c0, h.c1, h.x.below hb, h.t0, h.t1⟩
theorem Acr.below {w w' : World} {a : Option Addr} {n : Nat} {l : List Ac} (h : Acr w a n l) (hb : Below w.heap.size w w') : Acr w' a n l :=
  ⟨h.len, fun y hy => (h.ok y hy).below hb, fun hne => by
    obtain ⟨b, o, e, hc⟩ := h.cells hne
    exact ⟨b, o, e, fun i r hr => range_kept hb (hc i r hr)⟩⟩
theorem Acr.nth {w : World} {a : Option Addr} {n : Nat} {l : List Ac} (h : Acr w a n l) {k : Nat} (hk : k < n) : ∃ y b o, l[k]? = some y ∧ y.ok w ∧ a = some ⟨b, o, none⟩ ∧ w.rangeAt b (o + k * 6) y.cs := by
  have hk' : k < l.length := by rw [h.len]; exact hk
  obtain ⟨b, o, e, hc⟩ := h.cells (by intro e; rw [e] at hk'; simp at hk')
  exact ⟨l[k], b, o, List.getElem?_eq_getElem hk', h.ok _ (List.getElem_mem hk'), e, hc k _ (List.getElem?_eq_getElem hk')⟩
section
variable {w : World} {b o : Nat} {y : Ac}
theorem Ac.r0 (h : w.rangeAt b o y.cs) : w.cell? ⟨b, o, none⟩ = some (.int .i64 y.d) := h 0 _ rfl
theorem Ac.r1 (h : w.rangeAt b o y.cs) : w.cell? ⟨b, o + 1, none⟩ = some (.int .i64 y.c) := h 1 _ rfl
theorem Ac.r2 (h : w.rangeAt b o y.cs) : w.cell? ⟨b, o + 2, none⟩ = some (.int .u64 y.x.no) := h 2 _ rfl
theorem Ac.r3 (h : w.rangeAt b o y.cs) : w.cell? ⟨b, o + 3, none⟩ = some (.int .i64 y.x.sz) := h 3 _ rfl
theorem Ac.r4 (h : w.rangeAt b o y.cs) : w.cell? ⟨b, o + 4, none⟩ = some (.slice y.x.a y.x.n y.x.c) := h 4 _ rfl
theorem Ac.r5 (h : w.rangeAt b o y.cs) : w.cell? ⟨b, o + 5, none⟩ = some (.int .u64 y.t) := h 5 _ rfl
end
theorem item_cells : Try.prog.cellsOf 40 = 3 := by kernel_rfl
theorem cla_cells : Try.prog.cellsOf 45 = 4 := by kernel_rfl
theorem act_cells : Try.prog.cellsOf 42 = 6 := by kernel_rfl
theorem int_cells : Try.prog.cellsOf 3 = 1 := by kernel_rfl
theorem u64_cells : Try.prog.cellsOf 22 = 1 := by kernel_rfl
theorem u8_cells : Try.prog.cellsOf 5 = 1 := by kernel_rfl
theorem bytes_cells : Try.prog.cellsOf 38 = 1 := by kernel_rfl
section
variable {H : Type} {enc : TypeId × Value → H} {w : World} {base : Nat} {spare : Nat → Bool} {held : Bool} {fuel : Nat}
set_option maxRecDepth 100000 in
theorem open_item {cs : List Value} {x : DataW H × List MemPlace} (h : DataW.trod enc Try.prog w base spare held fuel 40 cs = some x) (hsp : ∀ b, spare b = true) : ∃ y : Pi, cs = y.cs ∧ y.ar w := by
  obtain ⟨ys, n, _, _, hlen, hyl, hf⟩ := DataW.trod_struct Try.underlying40 h
  rw [item_cells] at hlen
  have hfld := fun (i : Nat) f hi => (hf i f hi).trans (List.getElem?_eq_getElem (by have := (Array.getElem?_eq_some_iff.1 hi).1; omega))
  clear hf
  obtain ⟨c0, c1, c2, rfl⟩ : ∃ c0 c1 c2, cs = [c0, c1, c2] := by
    match cs, hlen with
    | [u, v, z], _ => exact ⟨u, v, z, rfl⟩
  have g0 : DataW.trod enc Try.prog w base spare held n 22 (([c0, c1, c2].drop 0).take (Try.prog.cellsOf 22)) = some _ := hfld 0 _ rfl
  rw [u64_cells] at g0
  have h0 : DataW.trod enc Try.prog w base spare held n 22 [c0] = some _ := g0
  have g1 : DataW.trod enc Try.prog w base spare held n 3 (([c0, c1, c2].drop 1).take (Try.prog.cellsOf 3)) = some _ := hfld 1 _ rfl
  rw [int_cells] at g1
  have h1 : DataW.trod enc Try.prog w base spare held n 3 [c1] = some _ := g1
  have g2 : DataW.trod enc Try.prog w base spare held n 38 (([c0, c1, c2].drop 2).take (Try.prog.cellsOf 38)) = some _ := hfld 2 _ rfl
  rw [bytes_cells] at g2
  have h2 : DataW.trod enc Try.prog w base spare held n 38 [c2] = some _ := g2
  clear g0 g1 g2 hfld
  obtain ⟨n0, e0, _, w0⟩ := DataW.trod_int Try.underlying22 h0
  obtain ⟨n1, e1, _, w1⟩ := DataW.trod_int Try.underlying3 h1
  have hs2 : ∃ a m c, c2 = .slice a m c := by
    rcases open_ints Try.underlying38 Try.underlying5 u8_cells h2 with ⟨e, _⟩ | ⟨ad, l, c, _, e, _⟩
    · exact ⟨none, 0, 0, by simpa using e⟩
    · exact ⟨some ad, l, c, by simpa using e⟩
  obtain ⟨a2, m2, q2, rfl⟩ := hs2
  obtain ⟨x2, hl2, hc2, hm2, hr2, hw2⟩ := open_row Try.underlying38 Try.underlying5 u8_cells h2 hsp
  simp only [List.cons.injEq, and_true] at e0 e1
  subst e0 e1
  have b0 := bounds_u64 w0
  have b1 := bounds_i64 w1
  exact ⟨⟨n0, n1, a2, m2, q2, x2⟩, rfl, ⟨by show 0 ≤ n0; omega, by show n0 ≤ 18446744073709551615; omega, by show -9223372036854775808 ≤ n1; omega, by show n1 ≤ 9223372036854775807; omega, hl2, hc2, rd_of hr2, byt_of hw2⟩⟩
set_option maxRecDepth 100000 in
theorem open_act {cs : List Value} {x : DataW H × List MemPlace} (h : DataW.trod enc Try.prog w base spare held fuel 42 cs = some x) (hsp : ∀ b, spare b = true) : ∃ y : Ac, cs = y.cs ∧ y.ok w := by
  obtain ⟨ys, n, _, _, hlen, hyl, hf⟩ := DataW.trod_struct Try.underlying42 h
  rw [act_cells] at hlen
  have hfld := fun (i : Nat) f hi => (hf i f hi).trans (List.getElem?_eq_getElem (by have := (Array.getElem?_eq_some_iff.1 hi).1; omega))
  clear hf
  obtain ⟨c0, c1, c2, c3, c4, c5, rfl⟩ : ∃ c0 c1 c2 c3 c4 c5, cs = [c0, c1, c2, c3, c4, c5] := by
    match cs, hlen with
    | [u, v, z, t, p, q], _ => exact ⟨u, v, z, t, p, q, rfl⟩
  have g0 : DataW.trod enc Try.prog w base spare held n 3 (([c0, c1, c2, c3, c4, c5].drop 0).take (Try.prog.cellsOf 3)) = some _ := hfld 0 _ rfl
  rw [int_cells] at g0
  have h0 : DataW.trod enc Try.prog w base spare held n 3 [c0] = some _ := g0
  have g1 : DataW.trod enc Try.prog w base spare held n 3 (([c0, c1, c2, c3, c4, c5].drop 1).take (Try.prog.cellsOf 3)) = some _ := hfld 1 _ rfl
  rw [int_cells] at g1
  have h1 : DataW.trod enc Try.prog w base spare held n 3 [c1] = some _ := g1
  have g2 : DataW.trod enc Try.prog w base spare held n 40 (([c0, c1, c2, c3, c4, c5].drop 2).take (Try.prog.cellsOf 40)) = some _ := hfld 2 _ rfl
  rw [item_cells] at g2
  have h2 : DataW.trod enc Try.prog w base spare held n 40 [c2, c3, c4] = some _ := g2
  have g3 : DataW.trod enc Try.prog w base spare held n 22 (([c0, c1, c2, c3, c4, c5].drop 5).take (Try.prog.cellsOf 22)) = some _ := hfld 3 _ rfl
  rw [u64_cells] at g3
  have h3 : DataW.trod enc Try.prog w base spare held n 22 [c5] = some _ := g3
  clear g0 g1 g2 g3 hfld
  obtain ⟨n0, e0, _, w0⟩ := DataW.trod_int Try.underlying3 h0
  obtain ⟨n1, e1, _, w1⟩ := DataW.trod_int Try.underlying3 h1
  obtain ⟨n3, e3, _, w3⟩ := DataW.trod_int Try.underlying22 h3
  obtain ⟨y, ey, hy⟩ := open_item h2 hsp
  simp only [List.cons.injEq, and_true, Pi.cs] at e0 e1 e3 ey
  obtain ⟨rfl, rfl, rfl⟩ := ey
  subst e0 e1 e3
  have b0 := bounds_i64 w0
  have b1 := bounds_i64 w1
  have b3 := bounds_u64 w3
  exact ⟨⟨n0, n1, y, n3⟩, rfl, ⟨by show -9223372036854775808 ≤ n0; omega, by show n0 ≤ 9223372036854775807; omega, by show -9223372036854775808 ≤ n1; omega, by show n1 ≤ 9223372036854775807; omega, hy, by show 0 ≤ n3; omega, by show n3 ≤ 18446744073709551615; omega⟩⟩
set_option maxRecDepth 100000 in
theorem open_cla {cs : List Value} {x : DataW H × List MemPlace} (h : DataW.trod enc Try.prog w base spare held fuel 45 cs = some x) : ∃ y : Cs, cs = y.cs ∧ y.ok := by
  obtain ⟨ys, n, _, _, hlen, hyl, hf⟩ := DataW.trod_struct Try.underlying45 h
  rw [cla_cells] at hlen
  have hfld := fun (i : Nat) f hi => (hf i f hi).trans (List.getElem?_eq_getElem (by have := (Array.getElem?_eq_some_iff.1 hi).1; omega))
  clear hf
  obtain ⟨c0, c1, c2, c3, rfl⟩ : ∃ c0 c1 c2 c3, cs = [c0, c1, c2, c3] := by
    match cs, hlen with
    | [u, v, z, t], _ => exact ⟨u, v, z, t, rfl⟩
  have g0 : DataW.trod enc Try.prog w base spare held n 22 (([c0, c1, c2, c3].drop 0).take (Try.prog.cellsOf 22)) = some _ := hfld 0 _ rfl
  rw [u64_cells] at g0
  have h0 : DataW.trod enc Try.prog w base spare held n 22 [c0] = some _ := g0
  have g1 : DataW.trod enc Try.prog w base spare held n 22 (([c0, c1, c2, c3].drop 1).take (Try.prog.cellsOf 22)) = some _ := hfld 1 _ rfl
  rw [u64_cells] at g1
  have h1 : DataW.trod enc Try.prog w base spare held n 22 [c1] = some _ := g1
  have g2 : DataW.trod enc Try.prog w base spare held n 3 (([c0, c1, c2, c3].drop 2).take (Try.prog.cellsOf 3)) = some _ := hfld 2 _ rfl
  rw [int_cells] at g2
  have h2 : DataW.trod enc Try.prog w base spare held n 3 [c2] = some _ := g2
  have g3 : DataW.trod enc Try.prog w base spare held n 3 (([c0, c1, c2, c3].drop 3).take (Try.prog.cellsOf 3)) = some _ := hfld 3 _ rfl
  rw [int_cells] at g3
  have h3 : DataW.trod enc Try.prog w base spare held n 3 [c3] = some _ := g3
  clear g0 g1 g2 g3 hfld
  obtain ⟨n0, e0, _, w0⟩ := DataW.trod_int Try.underlying22 h0
  obtain ⟨n1, e1, _, w1⟩ := DataW.trod_int Try.underlying22 h1
  obtain ⟨n2, e2, _, w2⟩ := DataW.trod_int Try.underlying3 h2
  obtain ⟨n3, e3, _, w3⟩ := DataW.trod_int Try.underlying3 h3
  simp only [List.cons.injEq, and_true] at e0 e1 e2 e3
  subst e0 e1 e2 e3
  have b0 := bounds_u64 w0
  have b1 := bounds_u64 w1
  have b2 := bounds_i64 w2
  have b3 := bounds_i64 w3
  exact ⟨⟨n0, n1, n2, n3⟩, rfl, ⟨by show 0 ≤ n0; omega, by show n0 ≤ 18446744073709551615; omega, by show 0 ≤ n1; omega, by show n1 ≤ 18446744073709551615; omega, by show -9223372036854775808 ≤ n2; omega, by show n2 ≤ 9223372036854775807; omega, by show -9223372036854775808 ≤ n3; omega, by show n3 ≤ 9223372036854775807; omega⟩⟩
set_option maxRecDepth 100000 in
theorem open_acts {a : Option Addr} {n c : Nat} {x : DataW H × List MemPlace} (h : DataW.trod enc Try.prog w base spare held fuel 24 [.slice a n c] = some x) (hsp : ∀ b, spare b = true) : ∃ l : List Ac, Acr w a n l ∧ n ≤ maxLen := by
  rcases Go.Deep.open_slice Try.underlying24 h with ⟨e, _⟩ | ⟨ad, len, cap, m, k, D, Pl, e, _, hl, hm, hmm, _, hx⟩
  · simp only [List.cons.injEq, Value.slice.injEq, and_true] at e
    obtain ⟨rfl, rfl, rfl⟩ := e
    exact ⟨[], ⟨rfl, (fun r hr => by cases hr), fun hne => absurd rfl hne⟩, Nat.zero_le _⟩
  · simp only [List.cons.injEq, Value.slice.injEq, and_true] at e
    obtain ⟨rfl, rfl, rfl⟩ := e
    rw [if_pos (hsp _)] at hmm
    subst hmm
    rw [act_cells] at hx
    have each : ∀ i, i < n → ∃ r : Ac, r.ok w ∧ ∀ j v, r.cs[j]? = some v → w.cell? ((ad.add (i * 6)).add j) = some v := by
      intro i hi
      obtain ⟨cs', h1, h2⟩ := hx i (by omega)
      obtain ⟨r, rfl, hr⟩ := open_act h2 hsp
      obtain ⟨_, hlen, hcell⟩ := World.cells?_some h1
      exact ⟨r, hr, fun j v hv => by
        have hj : j < r.cs.length := (List.getElem?_eq_some_iff.1 hv).1
        have h3 := hcell j (by omega)
        rw [h3, ← hv]⟩
    haveI : Inhabited Ac := ⟨⟨0, 0, pz, 0⟩⟩
    obtain ⟨q, hq⟩ := Go.Deep.choose_lt each
    refine ⟨(List.range n).map q, ⟨by simp, fun r hr => ?_, fun hne => ?_⟩, Nat.le_trans hl hm⟩
    · obtain ⟨i, hi, rfl⟩ := List.mem_map.1 hr
      exact (hq i (List.mem_range.1 hi)).1
    · have hn0 : 0 < n := by
        rcases Nat.eq_zero_or_pos n with e | e
        · subst e; simp at hne
        · exact e
      obtain ⟨b, o, spot⟩ := ad
      have h0 := (hq 0 hn0).2 0 (.int .i64 (q 0).d) rfl
      have hspot : spot = none := by simpa [Addr.add] using World.cell?_spot h0
      subst hspot
      refine ⟨b, o, rfl, fun i r hr j v hv => ?_⟩
      have hi : i < n := by have := (List.getElem?_eq_some_iff.1 hr).1; simpa using this
      have he : r = q i := by simp [hi] at hr; exact hr.symm
      subst he
      have h3 := (hq i hi).2 j v hv
      rw [Addr.add_lit, Addr.add_lit] at h3
      exact h3
set_option maxRecDepth 100000 in
theorem open_clas {a : Option Addr} {n c : Nat} {x : DataW H × List MemPlace} (h : DataW.trod enc Try.prog w base spare held fuel 23 [.slice a n c] = some x) (hsp : ∀ b, spare b = true) : ∃ l : List Cs, Rcs w a n l ∧ n ≤ maxLen := by
  rcases Go.Deep.open_slice Try.underlying23 h with ⟨e, _⟩ | ⟨ad, len, cap, m, k, D, Pl, e, _, hl, hm, hmm, _, hx⟩
  · simp only [List.cons.injEq, Value.slice.injEq, and_true] at e
    obtain ⟨rfl, rfl, rfl⟩ := e
    exact ⟨[], ⟨rfl, (fun r hr => by cases hr), fun hne => absurd rfl hne⟩, Nat.zero_le _⟩
  · simp only [List.cons.injEq, Value.slice.injEq, and_true] at e
    obtain ⟨rfl, rfl, rfl⟩ := e
    rw [if_pos (hsp _)] at hmm
    subst hmm
    rw [cla_cells] at hx
    have each : ∀ i, i < n → ∃ r : Cs, r.ok ∧ ∀ j v, r.cs[j]? = some v → w.cell? ((ad.add (i * 4)).add j) = some v := by
      intro i hi
      obtain ⟨cs', h1, h2⟩ := hx i (by omega)
      obtain ⟨r, rfl, hr⟩ := open_cla h2
      obtain ⟨_, hlen, hcell⟩ := World.cells?_some h1
      exact ⟨r, hr, fun j v hv => by
        have hj : j < r.cs.length := (List.getElem?_eq_some_iff.1 hv).1
        have h3 := hcell j (by omega)
        rw [h3, ← hv]⟩
    haveI : Inhabited Cs := ⟨⟨0, 0, 0, 0⟩⟩
    obtain ⟨q, hq⟩ := Go.Deep.choose_lt each
    refine ⟨(List.range n).map q, ⟨by simp, fun r hr => ?_, fun hne => ?_⟩, Nat.le_trans hl hm⟩
    · obtain ⟨i, hi, rfl⟩ := List.mem_map.1 hr
      exact (hq i (List.mem_range.1 hi)).1
    · have hn0 : 0 < n := by
        rcases Nat.eq_zero_or_pos n with e | e
        · subst e; simp at hne
        · exact e
      obtain ⟨b, o, spot⟩ := ad
      have h0 := (hq 0 hn0).2 0 (.int .u64 (q 0).r) rfl
      have hspot : spot = none := by simpa [Addr.add] using World.cell?_spot h0
      subst hspot
      refine ⟨b, o, rfl, fun i r hr j v hv => ?_⟩
      have hi : i < n := by have := (List.getElem?_eq_some_iff.1 hr).1; simpa using this
      have he : r = q i := by simp [hi] at hr; exact hr.symm
      subst he
      have h3 := (hq i hi).2 j v hv
      rw [Addr.add_lit, Addr.add_lit] at h3
      exact h3
end

/-- At most so many acts, of at most 20 bytes. -/
def Few (M : Nat) (l : List Ac) : Prop := l.length ≤ M ∧ ∀ y ∈ l, y.x.n ≤ 20

def FewR (M : Nat) (l : List Ac) (w : World) (e : Ending) (w' : World) : Prop := ∃ b : Bool, e = .returned (.bool b) ∧ (b = true ↔ Few M l) ∧ w' = w

set_option maxRecDepth 100000 in
set_option maxHeartbeats 2000000 in
theorem few_any (a : Option Addr) (n c : Nat) (l : List Ac) (w : World) (M : Nat) (hM : M ≤ 1000) (hl : Acr w a n l) (hn : n ≤ maxLen) : Calls Try.prog 8 #[.slice a n c, .int .i64 (M : Int)] w (FewR M l w) := by
  have HL := Lib.hid hl
  have hn2 : n ≤ 9223372036854775807 := by unfold maxLen at hn; omega
  clear hl hn
  go_enter Try.func8, Try.ntmps8
  go_wp2_with fail
  go_loopw [5] (fun i wr => wr = w ∧ ∃ k : Nat, k ≤ n ∧ k ≤ M + 1 ∧ i = .int .i64 k ∧ Hid (∀ j y, j < k → l[j]? = some y → y.x.n ≤ 20)) (fun i _ => n - (intOf i).toNat)
  case atStart => exact ⟨rfl, 0, Nat.zero_le _, by omega, rfl, fun j y h _ => absurd h (Nat.not_lt_zero _)⟩
  case round =>
    obtain ⟨rfl, k, hk, hk61, rfl, hall⟩ := hrel
    by_cases hlt : k < n
    · by_cases h61 : k ≤ M
      · obtain ⟨y, b, o, hy, hok, rfl, hrg⟩ := HL.out.nth hlt
        have d3 := Ac.r4 hrg
        have hyn : y.x.n ≤ 9223372036854775807 ∨ True := .inr trivial
        have hlt2 : (k : Int) < (n : Int) := by omega
        have h612 : (k : Int) ≤ (M : Int) := by omega
        by_cases h60 : 20 < y.x.n
        · have h602 : (20 : Int) < (y.x.n : Int) := by omega
          have HNF : Hid (¬ Few M l) := fun h => by have := h.2 y (List.mem_of_getElem? hy); omega
          clear hy hok hrg hyn
          go_wp2_with fail
          go_ret
          exact ⟨false, rfl, ⟨(fun h => by cases h), fun h => absurd h HNF.out⟩, rfl⟩
        · have h602 : ¬ (20 : Int) < (y.x.n : Int) := by omega
          have HN : Hid (∀ j z, j < k + 1 → l[j]? = some z → z.x.n ≤ 20) := fun j z hj hz => by
            by_cases e : j = k
            · subst e
              rw [hy] at hz
              simp at hz
              subst hz
              omega
            · exact hall.out j z (by omega) hz
          clear hy hok hrg hall hyn
          go_wp2_with fail
          go_roundw
          case rel => exact ⟨trivial, k + 1, by omega, by omega, by go_num, HN.out⟩
          case measure => simp [intOf]; omega
      · have hlt2 : (k : Int) < (n : Int) := by omega
        have h612 : ¬ (k : Int) ≤ (M : Int) := by omega
        have hd : decide (n ≤ M) = false := decide_eq_false (by omega)
        have HNF : Hid (¬ Few M l) := fun h => by have h1 := h.1; rw [HL.out.len] at h1; omega
        clear hall
        go_wp2_with fail
        go_ret
        exact ⟨false, rfl, ⟨(fun h => by cases h), fun h => absurd h HNF.out⟩, rfl⟩
    · have hlt2 : ¬ (k : Int) < (n : Int) := by omega
      have hkn : k = n := by omega
      have HF : Hid (decide (n ≤ M) = true ↔ Few M l) := ⟨fun h => by
        have h1 := of_decide_eq_true h
        refine ⟨by rw [HL.out.len]; omega, fun y hy => ?_⟩
        obtain ⟨j, hj⟩ := List.mem_iff_getElem?.1 hy
        exact hall.out j y (by have := (List.getElem?_eq_some_iff.1 hj).1; rw [HL.out.len] at this; omega) hj, fun h => decide_eq_true (by have h1 := h.1; rw [HL.out.len] at h1; omega)⟩
      clear hall hkn
      go_wp2_with fail
      go_ret
      exact ⟨decide (n ≤ M), rfl, HF.out, rfl⟩
end Go.Proofs.Ytpigpeehhadkjaa

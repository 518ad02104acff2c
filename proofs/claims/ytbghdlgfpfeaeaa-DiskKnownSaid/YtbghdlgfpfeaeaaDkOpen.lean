/-
  How arguments that are acts, and rows of fates, are opened; few. Conditions: those that the theorems name.
-/
import Derived.Test.YtbghdlgfpfeaeaaDkWorks
import Derived.Laws.IdiomArrays
import Derived.Deep.SlicePairs
namespace Go.Proofs.Ytbghdlgfpfeaeaa
open Go.ChangeShapes Go.WideShapes Go.ChangeAt Go.RowKit

/-- An act: what is done, where, with which bytes, with which fates. -/
structure Ac where
  d : Int
  p : Int
  a : Option Addr
  n : Nat
  c : Nat
  xs : List Int
  fa : Option Addr
  fn : Nat
  fc : Nat
  fl : List Ft
def Ac.cs (y : Ac) : List Value := [.int .i64 y.d, .int .i64 y.p, .slice y.a y.n y.c, .slice y.fa y.fn y.fc]
structure Ac.ok (y : Ac) (w : World) : Prop where
  d0 : I64 y.d
  p0 : I64 y.p
  len : y.xs.length = y.n
  rd : Rd w y.a y.xs
  byt : Byt y.xs
  fts : Fts w y.fa y.fn y.fl
  fm : y.fn ≤ maxLen
theorem Fts.below {w w' : World} {a : Option Addr} {n : Nat} {l : List Ft} (h : Fts w a n l) (k : Below w.heap.size w w') : Fts w' a n l := h.keep (S := fun _ => False) (Kept.of_below k (fun i hi hi' => by omega)) (fun _ _ _ => id)
theorem Ac.ok.below {y : Ac} {w w' : World} (h : y.ok w) (hb : Below w.heap.size w w') : y.ok w' := ⟨h.d0, h.p0, h.len, h.rd.below hb, h.byt, h.fts.below hb, h.fm⟩
/-- A row of acts. -/
structure Acr (w : World) (a : Option Addr) (n : Nat) (l : List Ac) : Prop where
  len : l.length = n
  ok : ∀ y ∈ l, y.ok w
  cells : l ≠ [] → ∃ b o, a = some ⟨b, o, none⟩ ∧ ∀ (i : Nat) (y : Ac), l[i]? = some y → w.rangeAt b (o + i * 4) y.cs
theorem range_kept {w wr : World} (h : Below w.heap.size w wr) {b o : Nat} {cs : List Value} (hc : w.rangeAt b o cs) : wr.rangeAt b o cs := fun j v hv => cell_kept h (hc j v hv)
theorem Acr.below {w w' : World} {a : Option Addr} {n : Nat} {l : List Ac} (h : Acr w a n l) (hb : Below w.heap.size w w') : Acr w' a n l :=
  ⟨h.len, fun y hy => (h.ok y hy).below hb, fun hne => by
    obtain ⟨b, o, e, hc⟩ := h.cells hne
    exact ⟨b, o, e, fun i r hr => range_kept hb (hc i r hr)⟩⟩
theorem Acr.nth {w : World} {a : Option Addr} {n : Nat} {l : List Ac} (h : Acr w a n l) {k : Nat} (hk : k < n) : ∃ y b o, l[k]? = some y ∧ y.ok w ∧ a = some ⟨b, o, none⟩ ∧ w.rangeAt b (o + k * 4) y.cs := by
  have hk' : k < l.length := by rw [h.len]; exact hk
  obtain ⟨b, o, e, hc⟩ := h.cells (by intro e; rw [e] at hk'; simp at hk')
  exact ⟨l[k], b, o, List.getElem?_eq_getElem hk', h.ok _ (List.getElem_mem hk'), e, hc k _ (List.getElem?_eq_getElem hk')⟩
section
variable {w : World} {b o : Nat} {y : Ac}
theorem Ac.r0 (h : w.rangeAt b o y.cs) : w.cell? ⟨b, o, none⟩ = some (.int .i64 y.d) := h 0 _ rfl
theorem Ac.r1 (h : w.rangeAt b o y.cs) : w.cell? ⟨b, o + 1, none⟩ = some (.int .i64 y.p) := h 1 _ rfl
theorem Ac.r2 (h : w.rangeAt b o y.cs) : w.cell? ⟨b, o + 2, none⟩ = some (.slice y.a y.n y.c) := h 2 _ rfl
theorem Ac.r3 (h : w.rangeAt b o y.cs) : w.cell? ⟨b, o + 3, none⟩ = some (.slice y.fa y.fn y.fc) := h 3 _ rfl
end
theorem fate_cells : Try.prog.cellsOf 44 = 2 := by kernel_rfl
theorem act_cells : Try.prog.cellsOf 33 = 4 := by kernel_rfl
theorem int_cells : Try.prog.cellsOf 3 = 1 := by kernel_rfl
theorem u8_cells : Try.prog.cellsOf 5 = 1 := by kernel_rfl
theorem bytes_cells : Try.prog.cellsOf 31 = 1 := by kernel_rfl
theorem fates_cells : Try.prog.cellsOf 23 = 1 := by kernel_rfl
theorem i64_of {v : Int} (h : (Lit.int .i64 v).wf = true) : I64 v := by
  have := bounds_i64 h
  unfold I64
  omega
section
variable {H : Type} {enc : TypeId × Value → H} {w : World} {base : Nat} {spare : Nat → Bool} {held : Bool} {fuel : Nat}
set_option maxRecDepth 100000 in
theorem open_fate {cs : List Value} {x : DataW H × List MemPlace} (h : DataW.trod enc Try.prog w base spare held fuel 44 cs = some x) : ∃ y : Ft, cs = [.int .i64 y.1, .int .i64 y.2] := by
  obtain ⟨ys, n, _, _, hlen, _, hf⟩ := DataW.trod_struct Try.underlying44 h
  rw [fate_cells] at hlen
  have hfld := fun (i : Nat) f hi => (hf i f hi).trans (List.getElem?_eq_getElem (by have := (Array.getElem?_eq_some_iff.1 hi).1; omega))
  clear hf
  obtain ⟨c0, c1, rfl⟩ : ∃ c0 c1, cs = [c0, c1] := by
    match cs, hlen with
    | [u0, u1], _ => exact ⟨u0, u1, rfl⟩
  have g0 : DataW.trod enc Try.prog w base spare held n 3 (([c0, c1].drop 0).take (Try.prog.cellsOf 3)) = some _ := hfld 0 _ rfl
  rw [int_cells] at g0
  have h0 : DataW.trod enc Try.prog w base spare held n 3 [c0] = some _ := g0
  have g1 : DataW.trod enc Try.prog w base spare held n 3 (([c0, c1].drop 1).take (Try.prog.cellsOf 3)) = some _ := hfld 1 _ rfl
  rw [int_cells] at g1
  have h1 : DataW.trod enc Try.prog w base spare held n 3 [c1] = some _ := g1
  clear g0 g1 hfld
  obtain ⟨n0, e0, _, w0⟩ := DataW.trod_int Try.underlying3 h0
  obtain ⟨n1, e1, _, w1⟩ := DataW.trod_int Try.underlying3 h1
  simp only [List.cons.injEq, and_true] at e0 e1
  subst e0 e1
  exact ⟨(n0, n1), rfl⟩
set_option maxRecDepth 100000 in
theorem open_fates {a : Option Addr} {n c : Nat} {x : DataW H × List MemPlace} (h : DataW.trod enc Try.prog w base spare held fuel 23 [.slice a n c] = some x) (hsp : ∀ b, spare b = true) : ∃ l : List Ft, Fts w a n l ∧ n ≤ maxLen := by
  rcases Go.Deep.open_slice Try.underlying23 h with ⟨e, _⟩ | ⟨ad, len, cap, m, k, D, Pl, e, _, hl, hm, hmm, _, hx⟩
  · simp only [List.cons.injEq, Value.slice.injEq, and_true] at e
    obtain ⟨rfl, rfl, rfl⟩ := e
    exact ⟨[], ⟨rfl, fun hne => absurd rfl hne⟩, Nat.zero_le _⟩
  · simp only [List.cons.injEq, Value.slice.injEq, and_true] at e
    obtain ⟨rfl, rfl, rfl⟩ := e
    rw [if_pos (hsp _)] at hmm
    subst hmm
    rw [fate_cells] at hx
    have each : ∀ i, i < n → ∃ r : Ft, True ∧ ∀ j v, ([Value.int .i64 r.1, Value.int .i64 r.2])[j]? = some v → w.cell? ((ad.add (i * 2)).add j) = some v := by
      intro i hi
      obtain ⟨cs', h1, h2⟩ := hx i (by omega)
      obtain ⟨r, rfl⟩ := open_fate h2
      obtain ⟨_, hlen, hcell⟩ := World.cells?_some h1
      exact ⟨r, trivial, fun j v hv => by
        have hj : j < ([Value.int .i64 r.1, Value.int .i64 r.2]).length := (List.getElem?_eq_some_iff.1 hv).1
        have h3 := hcell j (by omega)
        rw [h3, ← hv]⟩
    haveI : Inhabited Ft := ⟨(0, 0)⟩
    obtain ⟨q, hq⟩ := Go.Deep.choose_lt each
    refine ⟨(List.range n).map q, ⟨by simp, fun hne => ?_⟩, Nat.le_trans hl hm⟩
    have hn0 : 0 < n := by
      rcases Nat.eq_zero_or_pos n with e | e
      · subst e; simp at hne
      · exact e
    obtain ⟨b, o, spot⟩ := ad
    have h0 := (hq 0 hn0).2 0 (.int .i64 (q 0).1) rfl
    have hspot : spot = none := by simpa [Addr.add] using World.cell?_spot h0
    subst hspot
    refine ⟨b, o, rfl, fun i r hr => ?_⟩
    have hi : i < n := by have := (List.getElem?_eq_some_iff.1 hr).1; simpa using this
    have he : r = q i := by simp [hi] at hr; exact hr.symm
    subst he
    have h3 := (hq i hi).2 0 _ rfl
    have h4 := (hq i hi).2 1 _ rfl
    rw [Addr.add_lit, Addr.add_lit] at h3 h4
    exact ⟨h3, h4⟩
set_option maxRecDepth 100000 in
theorem open_act {cs : List Value} {x : DataW H × List MemPlace} (h : DataW.trod enc Try.prog w base spare held fuel 33 cs = some x) (hsp : ∀ b, spare b = true) : ∃ y : Ac, cs = y.cs ∧ y.ok w := by
  obtain ⟨ys, n, _, _, hlen, hyl, hf⟩ := DataW.trod_struct Try.underlying33 h
  rw [act_cells] at hlen
  have hfld := fun (i : Nat) f hi => (hf i f hi).trans (List.getElem?_eq_getElem (by have := (Array.getElem?_eq_some_iff.1 hi).1; omega))
  clear hf
  obtain ⟨c0, c1, c2, c3, rfl⟩ : ∃ c0 c1 c2 c3, cs = [c0, c1, c2, c3] := by
    match cs, hlen with
    | [u0, u1, u2, u3], _ => exact ⟨u0, u1, u2, u3, rfl⟩
  have g0 : DataW.trod enc Try.prog w base spare held n 3 (([c0, c1, c2, c3].drop 0).take (Try.prog.cellsOf 3)) = some _ := hfld 0 _ rfl
  rw [int_cells] at g0
  have h0 : DataW.trod enc Try.prog w base spare held n 3 [c0] = some _ := g0
  have g1 : DataW.trod enc Try.prog w base spare held n 3 (([c0, c1, c2, c3].drop 1).take (Try.prog.cellsOf 3)) = some _ := hfld 1 _ rfl
  rw [int_cells] at g1
  have h1 : DataW.trod enc Try.prog w base spare held n 3 [c1] = some _ := g1
  have g2 : DataW.trod enc Try.prog w base spare held n 31 (([c0, c1, c2, c3].drop 2).take (Try.prog.cellsOf 31)) = some _ := hfld 2 _ rfl
  rw [bytes_cells] at g2
  have h2 : DataW.trod enc Try.prog w base spare held n 31 [c2] = some _ := g2
  have g3 : DataW.trod enc Try.prog w base spare held n 23 (([c0, c1, c2, c3].drop 3).take (Try.prog.cellsOf 23)) = some _ := hfld 3 _ rfl
  rw [fates_cells] at g3
  have h3 : DataW.trod enc Try.prog w base spare held n 23 [c3] = some _ := g3
  clear g0 g1 g2 g3 hfld
  obtain ⟨n0, e0, _, w0⟩ := DataW.trod_int Try.underlying3 h0
  obtain ⟨n1, e1, _, w1⟩ := DataW.trod_int Try.underlying3 h1
  have hs2 : ∃ a m c, c2 = .slice a m c := by
    rcases open_ints Try.underlying31 Try.underlying5 u8_cells h2 with ⟨e, _⟩ | ⟨ad, l, c, _, e, _⟩
    · exact ⟨none, 0, 0, by simpa using e⟩
    · exact ⟨some ad, l, c, by simpa using e⟩
  obtain ⟨a2, m2, q2, rfl⟩ := hs2
  obtain ⟨x2, hl2, hc2, hm2, hr2, hw2⟩ := open_row Try.underlying31 Try.underlying5 u8_cells h2 hsp
  have hs3 : ∃ a m c, c3 = .slice a m c := by
    rcases Go.Deep.open_slice Try.underlying23 h3 with ⟨e, _⟩ | ⟨ad, l, c, _, _, _, _, e, _⟩
    · exact ⟨none, 0, 0, by simpa using e⟩
    · exact ⟨some ad, l, c, by simpa using e⟩
  obtain ⟨a3, m3, q3, rfl⟩ := hs3
  obtain ⟨x3, hl3, hm3⟩ := open_fates h3 hsp
  simp only [List.cons.injEq, and_true] at e0 e1
  subst e0 e1
  exact ⟨⟨n0, n1, a2, m2, q2, x2, a3, m3, q3, x3⟩, rfl, ⟨i64_of w0, i64_of w1, hl2, rd_of hr2, byt_of hw2, hl3, hm3⟩⟩
set_option maxRecDepth 100000 in
theorem open_acts {a : Option Addr} {n c : Nat} {x : DataW H × List MemPlace} (h : DataW.trod enc Try.prog w base spare held fuel 22 [.slice a n c] = some x) (hsp : ∀ b, spare b = true) : ∃ l : List Ac, Acr w a n l ∧ n ≤ maxLen := by
  rcases Go.Deep.open_slice Try.underlying22 h with ⟨e, _⟩ | ⟨ad, len, cap, m, k, D, Pl, e, _, hl, hm, hmm, _, hx⟩
  · simp only [List.cons.injEq, Value.slice.injEq, and_true] at e
    obtain ⟨rfl, rfl, rfl⟩ := e
    exact ⟨[], ⟨rfl, (fun r hr => by cases hr), fun hne => absurd rfl hne⟩, Nat.zero_le _⟩
  · simp only [List.cons.injEq, Value.slice.injEq, and_true] at e
    obtain ⟨rfl, rfl, rfl⟩ := e
    rw [if_pos (hsp _)] at hmm
    subst hmm
    rw [act_cells] at hx
    have each : ∀ i, i < n → ∃ r : Ac, r.ok w ∧ ∀ j v, (r.cs)[j]? = some v → w.cell? ((ad.add (i * 4)).add j) = some v := by
      intro i hi
      obtain ⟨cs', h1, h2⟩ := hx i (by omega)
      obtain ⟨r, rfl, hr⟩ := open_act h2 hsp
      obtain ⟨_, hlen, hcell⟩ := World.cells?_some h1
      exact ⟨r, hr, fun j v hv => by
        have hj : j < (r.cs).length := (List.getElem?_eq_some_iff.1 hv).1
        have h3 := hcell j (by omega)
        rw [h3, ← hv]⟩
    haveI : Inhabited Ac := ⟨⟨0, 0, none, 0, 0, [], none, 0, 0, []⟩⟩
    obtain ⟨q, hq⟩ := Go.Deep.choose_lt each
    refine ⟨(List.range n).map q, ⟨by simp, fun r hr => ?_, fun hne => ?_⟩, Nat.le_trans hl hm⟩
    · obtain ⟨i, hi, rfl⟩ := List.mem_map.1 hr
      exact (hq i (List.mem_range.1 hi)).1
    · have hn0 : 0 < n := by
        rcases Nat.eq_zero_or_pos n with e | e
        · subst e; simp at hne
        · exact e
      obtain ⟨b, o, spot⟩ := ad
      have h0 := (hq 0 hn0).2 0 (.int .i64 (q 0).d) rfl
      have hspot : spot = none := by simpa [Addr.add] using World.cell?_spot h0
      subst hspot
      refine ⟨b, o, rfl, fun i r hr j v hv => ?_⟩
      have hi : i < n := by have := (List.getElem?_eq_some_iff.1 hr).1; simpa using this
      have he : r = q i := by simp [hi] at hr; exact hr.symm
      subst he
      have h3 := (hq i hi).2 j v hv
      rw [Addr.add_lit, Addr.add_lit] at h3
      exact h3
end

/-- At most 40 acts, of at most 60 bytes and fates. -/
def Few (l : List Ac) : Prop := l.length ≤ 40 ∧ ∀ y ∈ l, y.n ≤ 60 ∧ y.fn ≤ 60
def FewR (l : List Ac) (w : World) (e : Ending) (w' : World) : Prop := ∃ b : Bool, e = .returned (.bool b) ∧ (b = true ↔ Few l) ∧ w' = w

set_option maxRecDepth 100000 in
set_option maxHeartbeats 2000000 in
theorem few_any (a : Option Addr) (n c : Nat) (l : List Ac) (w : World) (hl : Acr w a n l) (hn : n ≤ maxLen) : Calls Try.prog 7 #[.slice a n c] w (FewR l w) := by
  have HL := Lib.hid hl
  have hn2 : n ≤ 9223372036854775807 := by unfold maxLen at hn; omega
  clear hl hn
  go_enter Try.func7, Try.ntmps7
  go_wp2_with fail
  go_loopw [3] (fun i wr => wr = w ∧ ∃ k : Nat, k ≤ n ∧ k ≤ 41 ∧ i = .int .i64 k ∧ Hid (∀ j y, j < k → l[j]? = some y → y.n ≤ 60 ∧ y.fn ≤ 60)) (fun i _ => n - (intOf i).toNat)
  case atStart => exact ⟨rfl, 0, Nat.zero_le _, by omega, rfl, fun j y h _ => absurd h (Nat.not_lt_zero _)⟩
  case round =>
    obtain ⟨rfl, k, hk, hk61, rfl, hall⟩ := hrel
    by_cases hlt : k < n
    · by_cases h61 : k < 41
      · obtain ⟨y, b, o, hy, hok, rfl, hrg⟩ := HL.out.nth hlt
        have d2 := Ac.r2 hrg
        have d3 := Ac.r3 hrg
        have hlt2 : (k : Int) < (n : Int) := by omega
        have h612 : (k : Int) < 41 := by omega
        by_cases h60 : 60 < y.n
        · have h602 : (60 : Int) < (y.n : Int) := by omega
          have HNF : Hid (¬ Few l) := fun h => by have := (h.2 y (List.mem_of_getElem? hy)).1; omega
          clear hy hok hrg
          go_wp2_with fail
          go_ret
          exact ⟨false, rfl, ⟨(fun h => by cases h), fun h => absurd h HNF.out⟩, rfl⟩
        · have h602 : ¬ (60 : Int) < (y.n : Int) := by omega
          by_cases h60b : 60 < y.fn
          · have h602b : (60 : Int) < (y.fn : Int) := by omega
            have HNF : Hid (¬ Few l) := fun h => by have := (h.2 y (List.mem_of_getElem? hy)).2; omega
            clear hy hok hrg
            go_wp2_with fail
            go_ret
            exact ⟨false, rfl, ⟨(fun h => by cases h), fun h => absurd h HNF.out⟩, rfl⟩
          · have h602b : ¬ (60 : Int) < (y.fn : Int) := by omega
            have HN : Hid (∀ j z, j < k + 1 → l[j]? = some z → z.n ≤ 60 ∧ z.fn ≤ 60) := fun j z hj hz => by
              by_cases e : j = k
              · subst e
                rw [hy] at hz
                simp at hz
                subst hz
                omega
              · exact hall.out j z (by omega) hz
            clear hy hok hrg hall
            go_wp2_with fail
            go_roundw
            case rel => exact ⟨trivial, k + 1, by omega, by omega, by go_num, HN.out⟩
            case measure => simp [intOf]; omega
      · have hlt2 : (k : Int) < (n : Int) := by omega
        have h612 : ¬ (k : Int) < 41 := by omega
        have hd : decide ((n : Int) ≤ 40) = false := decide_eq_false (by omega)
        have HNF : Hid (¬ Few l) := fun h => by have h1 := h.1; rw [HL.out.len] at h1; omega
        clear hall
        go_wp2_with fail
        go_ret
        exact ⟨false, rfl, ⟨(fun h => by cases h), fun h => absurd h HNF.out⟩, rfl⟩
    · have hlt2 : ¬ (k : Int) < (n : Int) := by omega
      have hkn : k = n := by omega
      have HF : Hid (decide ((n : Int) ≤ 40) = true ↔ Few l) := ⟨fun h => by
        have h1 := of_decide_eq_true h
        refine ⟨by rw [HL.out.len]; omega, fun y hy => ?_⟩
        obtain ⟨j, hj⟩ := List.mem_iff_getElem?.1 hy
        exact hall.out j y (by have := (List.getElem?_eq_some_iff.1 hj).1; rw [HL.out.len] at this; omega) hj, fun h => decide_eq_true (by have h1 := h.1; rw [HL.out.len] at h1; omega)⟩
      clear hall hkn
      go_wp2_with fail
      go_ret
      exact ⟨decide ((n : Int) ≤ 40), rfl, HF.out, rfl⟩
end Go.Proofs.Ytbghdlgfpfeaeaa

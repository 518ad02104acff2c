/-
  Chains as the statements read them: rows of headers as the document has them, that grow; the statement's bound on a chain. Conditions: chains that lie in memory.
-/
import Derived.Test.YthipnkaghddbhaaSxOpen
namespace Go.Proofs.Ythipnkaghddbhaa
open Go.RowKit

/-- The cells of a header behind as the document has it. -/
def rcs (x : Int × List Int) : List Value := [.int .u8 x.1, .string (str x.2)]
theorem rcs_one (x : Int × List Int) : ∀ v ∈ rcs x, v.oneCell' = true := by intro v hv; simp [rcs] at hv; rcases hv with rfl | rfl <;> rfl
theorem infRX : (Try.prog.info? 87).map (fun i => (i.zero, i.size, i.bytes)) = some (some (.agg #[.int .u8 0, .string ⟨#[]⟩]), 2, 24) := by kernel_rfl
theorem infRX2 : (Try.prog.info? 87).map (·.size) = some 2 := by kernel_rfl
theorem infRC2 : (Try.prog.info? 50).map (·.size) = some 2 := by kernel_rfl
/-- A row of the call's own of headers as the document has them. -/
structure OwnR (w : World) (base : Nat) (a : Option Addr) (n c : Nat) (es : List (Int × List Int)) : Prop where
  len : es.length = n
  row : OwnG w base 87 2 a n c (es.flatMap rcs)
theorem OwnR.ch {w : World} {base : Nat} {a : Option Addr} {n c : Nat} {es : List (Int × List Int)} (h : OwnR w base a n c es) (hk : ∀ x ∈ es, (0 ≤ x.1 ∧ x.1 < 256) ∧ Byt x.2 ∧ x.2.length ≤ 1099511627776) : ChR w a n c es := by
  refine ⟨h.len, h.row.le.1, h.row.le.2, fun hne => ?_, hk⟩
  obtain ⟨g, rfl, hc⟩ := h.row.cell (by cases es with | nil => exact absurd rfl hne | cons y t => simp [rcs])
  refine ⟨g, 0, rfl, fun i x hx => ⟨?_, ?_⟩⟩
  · have h1 := hc (i * 2 + 0) (.int .u8 x.1) (by rw [flat_two rcs (fun _ => rfl) es i x hx 0 (by omega)]; rfl)
    exact h1
  · have h1 := hc (i * 2 + 1) (.string (str x.2)) (by rw [flat_two rcs (fun _ => rfl) es i x hx 1 (by omega)]; rfl)
    exact h1
theorem OwnR.below {w w' : World} {base : Nat} {a : Option Addr} {n c : Nat} {es : List (Int × List Int)} (h : OwnR w base a n c es) (hb : Below w.heap.size w w') : OwnR w' base a n c es := ⟨h.len, h.row.below hb⟩
theorem OwnR.nil (w : World) (base : Nat) : OwnR w base none 0 0 [] := ⟨rfl, OwnG.nil _ _ _ _⟩
theorem OwnG.mono2 {w : World} {base base' e size : Nat} {a : Option Addr} {n cap : Nat} {vs : List Value} (h : OwnG w base e size a n cap vs) (hb : base' ≤ base) : OwnG w base' e size a n cap vs := by
  refine ⟨h.1, ?_⟩
  rcases h.2 with h0 | ⟨g, cap', cur, he, hbb, r⟩
  · exact .inl h0
  · exact .inr ⟨g, cap', cur, he, by omega, r⟩
theorem OwnR.mono {w : World} {base base' : Nat} {a : Option Addr} {n c : Nat} {es : List (Int × List Int)} (h : OwnR w base a n c es) (hb : base' ≤ base) : OwnR w base' a n c es := ⟨h.len, h.row.mono2 hb⟩
/-- A header of a chain, wherever new blocks come. -/
theorem Ch.nth {w : World} {a : Option Addr} {n c : Nat} {es : List Ex} (h : Ch w a n c es) {j : Nat} {x : Ex} (hx : es[j]? = some x) :
    ∃ b o, a = some ⟨b, o, none⟩ ∧ b < w.heap.size ∧ ∀ z, Below w.heap.size w z → z.cell? ⟨b, o + j * 2, none⟩ = some (.int .u8 x.k) ∧ z.cell? ⟨b, o + j * 2 + 1, none⟩ = some (.slice x.a x.n x.c) ∧ x.ok z := by
  obtain ⟨b, o, e, hc⟩ := h.cells (by intro e; rw [e] at hx; simp at hx)
  have h1 := hc j x hx
  exact ⟨b, o, e, World.block_lt_of_cell? w ⟨b, o + j * 2, none⟩ h1.1, fun z hz => ⟨cell_kept hz h1.1, cell_kept hz h1.2, (h.ok x (List.mem_of_getElem? hx)).below hz⟩⟩
theorem ChR.nth {w : World} {a : Option Addr} {n c : Nat} {es : List (Int × List Int)} (h : ChR w a n c es) {j : Nat} {x : Int × List Int} (hx : es[j]? = some x) :
    ∃ b o, a = some ⟨b, o, none⟩ ∧ b < w.heap.size ∧ ∀ z, Below w.heap.size w z → z.cell? ⟨b, o + j * 2, none⟩ = some (.int .u8 x.1) ∧ z.cell? ⟨b, o + j * 2 + 1, none⟩ = some (.string (str x.2)) := by
  obtain ⟨b, o, e, hc⟩ := h.cells (by intro e; rw [e] at hx; simp at hx)
  have h1 := hc j x hx
  exact ⟨b, o, e, World.block_lt_of_cell? w ⟨b, o + j * 2, none⟩ h1.1, fun z hz => ⟨cell_kept hz h1.1, cell_kept hz h1.2⟩⟩
/-- Headers behind one another, of whatever sizes. -/
structure Ch0 (w : World) (a : Option Addr) (n c : Nat) (es : List Ex) : Prop where
  len : es.length = n
  cap : n ≤ c
  max : c ≤ maxLen
  cells : es ≠ [] → ∃ b o, a = some ⟨b, o, none⟩ ∧ ∀ (i : Nat) (x : Ex), es[i]? = some x → w.cell? ⟨b, o + i * 2, none⟩ = some (.int .u8 x.k) ∧ w.cell? ⟨b, o + i * 2 + 1, none⟩ = some (.slice x.a x.n x.c)
  ok : ∀ x ∈ es, x.ok w
theorem Ch0.ch {w : World} {a : Option Addr} {n c : Nat} {es : List Ex} (h : Ch0 w a n c es) (hf : ∀ x ∈ es, x.n ≤ 1099511627776) : Ch w a n c es := ⟨h.len, h.cap, h.max, h.cells, h.ok, hf⟩
theorem Ch.any {w : World} {a : Option Addr} {n c : Nat} {es : List Ex} (h : Ch w a n c es) : Ch0 w a n c es := ⟨h.len, h.cap, h.max, h.cells, h.ok⟩
theorem Ch0.below {w w' : World} {a : Option Addr} {n c : Nat} {es : List Ex} (h : Ch0 w a n c es) (hb : Below w.heap.size w w') : Ch0 w' a n c es :=
  ⟨h.len, h.cap, h.max, fun e => by
    obtain ⟨b, o, e1, hc⟩ := h.cells e
    exact ⟨b, o, e1, fun i x hx => ⟨cell_kept hb (hc i x hx).1, cell_kept hb (hc i x hx).2⟩⟩, fun x hx => (h.ok x hx).below hb⟩
theorem Ch0.nth {w : World} {a : Option Addr} {n c : Nat} {es : List Ex} (h : Ch0 w a n c es) {j : Nat} {x : Ex} (hx : es[j]? = some x) :
    ∃ b o, a = some ⟨b, o, none⟩ ∧ b < w.heap.size ∧ ∀ z, Below w.heap.size w z → z.cell? ⟨b, o + j * 2, none⟩ = some (.int .u8 x.k) ∧ z.cell? ⟨b, o + j * 2 + 1, none⟩ = some (.slice x.a x.n x.c) ∧ x.ok z := by
  obtain ⟨b, o, e, hc⟩ := h.cells (by intro e; rw [e] at hx; simp at hx)
  have h1 := hc j x hx
  exact ⟨b, o, e, World.block_lt_of_cell? w ⟨b, o + j * 2, none⟩ h1.1, fun z hz => ⟨cell_kept hz h1.1, cell_kept hz h1.2, (h.ok x (List.mem_of_getElem? hx)).below hz⟩⟩
/-- May the statement take that chain? -/
def fewC (es : List Ex) : Bool := decide (es.length ≤ 20) && es.all (fun x => decide (x.n ≤ 2060))
theorem fewC_iff {es : List Ex} : fewC es = true ↔ es.length ≤ 20 ∧ ∀ x ∈ es, x.n ≤ 2060 := by
  unfold fewC; simp

set_option maxRecDepth 100000 in
set_option maxHeartbeats 1000000 in
theorem few6_any (a : Option Addr) (n c : Nat) (es : List Ex) (p : Int) (w : World) (h : Ch0 w a n c es) : Calls Try.prog 17 #[.agg #[.slice a n c, .int .u8 p]] w (Gives w (.bool (fewC es))) := by
  have hbA : Below w.heap.size w (w.alloc (.cells #[.slice a n c, .int .u8 p] 46)) := (Below.refl _ _).alloc (Nat.le_refl _) _
  have HB := Lib.hid hbA
  have hc0 : (w.alloc (.cells #[.slice a n c, .int .u8 p] 46)).cell? ⟨w.heap.size, 0, none⟩ = some (.slice a n c) := World.cell?_alloc_new _ _ _ _
  have HC := Lib.hid h
  have HL := Lib.hid h.len
  have hnm : n ≤ 9223372036854775807 := by have h1 := h.cap; have h2 := h.max; unfold maxLen at h2; omega
  have hcn : n ≤ c := h.cap
  have HS0 : Hid (∀ x ∈ es.take 0, x.n ≤ 2060) := fun x hx => by simp at hx
  clear h hbA
  go_enter Try.func17, Try.ntmps17
  go_wp2_with fail
  go_loop [3] (fun i => ∃ j : Nat, j ≤ n ∧ j ≤ 21 ∧ i = .int .i64 j ∧ Hid (∀ x ∈ es.take j, x.n ≤ 2060)) (fun i => n - (intOf i).toNat)
  case atStart => exact ⟨0, Nat.zero_le _, Nat.zero_le _, rfl, HS0⟩
  case round =>
    obtain ⟨j, hj, hj2, rfl, hst⟩ := hrel
    clear HS0
    by_cases hlt : j < n
    · have hlt' : (j : Int) < (n : Int) := by omega
      by_cases h21 : j < 21
      · obtain ⟨x, hx⟩ : ∃ x, es[j]? = some x := ⟨_, List.getElem?_eq_getElem (by rw [HL.out]; exact hlt)⟩
        obtain ⟨b, o, rfl, _, hcl⟩ := HC.out.nth hx
        obtain ⟨_, hz1, hok⟩ := hcl _ HB.out
        have hxm := List.mem_of_getElem? hx
        have hxn : x.n ≤ 9223372036854775807 := by have h1 := hok.cap; have h2 := hok.max; unfold maxLen at h2; omega
        have htk : es.take (j + 1) = es.take j ++ [x] := by rw [List.take_add_one, hx]; rfl
        have HT := Lib.hid htk
        have HXM := Lib.hid hxm
        clear hcl hx hxm hok htk
        by_cases hbig : 2060 < x.n
        · have HF : Hid (fewC es = false) := by
            show _ = _
            rw [Bool.eq_false_iff]
            intro h
            have := (fewC_iff.1 h).2 x HXM.out
            omega
          go_wp2_with fail
          go_ret
          exact ⟨by rw [HF.out]; rfl, HB.out⟩
        · have HS1 : Hid (∀ y ∈ es.take (j + 1), y.n ≤ 2060) := by
            show ∀ y ∈ _, _
            rw [HT.out]
            intro y hy
            rcases List.mem_append.1 hy with hy | hy
            · exact hst.out y hy
            · rw [List.mem_singleton.1 hy]; omega
          go_wp2_with fail
          go_round
          case rel => exact ⟨j + 1, by omega, by omega, by go_num, HS1⟩
          case measure => simp [intOf]; omega
      · have HF : Hid (fewC es = false) := by
          show _ = _
          rw [Bool.eq_false_iff]
          intro h
          have := (fewC_iff.1 h).1
          rw [HL.out] at this
          omega
        go_wp2_with fail
        go_ret
        exact ⟨by rw [HF.out]; simp; omega, HB.out⟩
    · obtain rfl : j = n := by omega
      have HF : Hid (fewC es = decide ((j : Int) ≤ 20)) := by
        show _ = _
        rw [Bool.eq_iff_iff, fewC_iff, decide_eq_true_eq, HL.out]
        have h1 := hst.out
        rw [List.take_of_length_le (by rw [HL.out]; exact Nat.le_refl _)] at h1
        exact ⟨fun h => by omega, fun h => ⟨by omega, h1⟩⟩
      go_wp2_with fail
      go_ret
      exact ⟨by rw [HF.out]; rfl, HB.out⟩
end Go.Proofs.Ythipnkaghddbhaa

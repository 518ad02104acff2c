/-
  What FifoOrder leans on: a slice of numbers in the midst of a row of the call's own, append onto it and its tail; the memory of its loops. Conditions: those that the theorems name.
-/
import Derived.Test.YtjjidjemkddebaaFiOpen
import Derived.Test.YtjjidjemkddebaaPieces
import Derived.ArgAppend
namespace Go.Proofs.Ytjjidjemkddebaa
open Go.RowKit

/-- Numbers, in the midst of a row of the call's own. -/
structure Sg (w : World) (base : Nat) (a : Option Addr) (n c : Nat) (xs : List Int) : Prop where
  len : xs.length = n
  nc : n ≤ c
  no : a = none → c = 0
  at_ : ∀ ad, a = some ad → ∃ b o cur, ad = ⟨b, o, none⟩ ∧ base ≤ b ∧ w.heap[b]? = some (.cells cur 30 (0, 0)) ∧ o + c ≤ cur.size ∧ ∀ i, i < n → cur[o + i]? = some (.int .u64 (xs.getD i 0))
theorem Sg.nil (w : World) (base : Nat) : Sg w base none 0 0 [] := ⟨rfl, Nat.le_refl _, fun _ => rfl, fun ad h => by cases h⟩
theorem Sg.keep {S : Nat → Prop} {w w' : World} {base : Nat} {a : Option Addr} {n c : Nat} {xs : List Int} (h : Sg w base a n c xs) (k : Kept S w w') (hS : ∀ b cur, w.heap[b]? = some (.cells cur 30 (0, 0)) → ¬ S b) : Sg w' base a n c xs :=
  ⟨h.len, h.nc, h.no, fun ad e => by
    obtain ⟨b, o, cur, e1, hb, hc, r⟩ := h.at_ ad e
    exact ⟨b, o, cur, e1, hb, k.heap hc (hS b cur hc), r⟩⟩
theorem Sg.below {w w' : World} {base : Nat} {a : Option Addr} {n c : Nat} {xs : List Int} (h : Sg w base a n c xs) (k : Below w.heap.size w w') : Sg w' base a n c xs := h.keep (S := fun _ => False) (Kept.of_below k (fun i hi hi' => by omega)) (fun _ _ _ => id)
/-- The number at a place. -/
theorem Sg.cell {w : World} {base : Nat} {a : Option Addr} {n c : Nat} {xs : List Int} (h : Sg w base a n c xs) {i : Nat} (hi : i < n) : ∃ b o, a = some ⟨b, o, none⟩ ∧ w.cell? ⟨b, o + i, none⟩ = some (.int .u64 (xs.getD i 0)) := by
  cases a with
  | none => have := h.no rfl; have := h.nc; omega
  | some ad =>
    obtain ⟨b, o, cur, rfl, _, hc, _, hr⟩ := h.at_ ad rfl
    exact ⟨b, o, rfl, by rw [cell_of_row w b (o + i) cur _ (0, 0) hc]; exact hr i hi⟩
theorem Sg.own {w : World} {base : Nat} {a : Option Addr} {n c : Nat} {xs : List Int} (h : Sg w base a n c xs) {b : Nat} (hb : blk a = some b) : base ≤ b ∧ ∃ cur, w.heap[b]? = some (.cells cur 30 (0, 0)) := by
  cases a with
  | none => cases hb
  | some ad =>
    obtain ⟨b', o, cur, rfl, hb', hc, _⟩ := h.at_ ad rfl
    simp [blk] at hb
    subst hb
    exact ⟨hb', cur, hc⟩
theorem run_tail_u64 (w : World) (r o n c : Nat) (hs : 1 ≤ n) (hc : n ≤ c) :
    (Instr.sliceAt 55 (.slice (some ⟨r, o, none⟩) n c) (some (.int .i64 1)) none none).run Try.prog w = .ok (.slice (if c = 1 then some ⟨r, o, none⟩ else some ⟨r, o + 1, none⟩) (n - 1) (c - 1)) w := by
  have h3 : (1 : Int) ≤ (n : Int) := by omega
  have h4 : (1 : Int) ≤ (c : Int) := by omega
  by_cases h5 : c = 1
  · have h6 : n = 1 := by omega
    subst h5 h6
    go_simp
  · have h6 : ¬ (c : Int) = 1 := by omega
    go_simp
theorem Sg.tail {w : World} {base r o n c : Nat} {x : Int} {xs : List Int} (h : Sg w base (some ⟨r, o, none⟩) n c (x :: xs)) : Sg w base (if c = 1 then some ⟨r, o, none⟩ else some ⟨r, o + 1, none⟩) (n - 1) (c - 1) xs := by
  have hl := h.len
  have hn := h.nc
  simp at hl
  obtain ⟨b, o', cur, e, hb, hc, hs, hr⟩ := h.at_ _ rfl
  simp only [Addr.mk.injEq, and_true] at e
  obtain ⟨rfl, rfl⟩ := e
  refine ⟨by omega, by omega, (fun e => by split at e <;> cases e), fun ad e => ?_⟩
  by_cases h1 : c = 1
  · rw [if_pos h1] at e
    simp only [Option.some.injEq] at e
    subst e
    exact ⟨r, o, cur, rfl, hb, hc, by omega, fun i hi => by omega⟩
  · rw [if_neg h1] at e
    simp only [Option.some.injEq] at e
    subst e
    refine ⟨r, o + 1, cur, rfl, hb, hc, by omega, fun i hi => ?_⟩
    have := hr (i + 1) (by omega)
    rw [show o + 1 + i = o + (i + 1) by omega, this]
    rfl
theorem infU : (Try.prog.info? 30).map (fun i => (i.zero, i.size, i.bytes)) = some (some (.int .u64 0), 1, 8) := by kernel_rfl
theorem Sg.of_own {w : World} {base : Nat} {a : Option Addr} {n c : Nat} {xs : List Int} (h : OwnG w base 30 1 a n c (xs.map (Value.int .u64))) : Sg w base a n c xs := by
  have hl : xs.length = n := by have := h.1; simpa using this
  refine ⟨hl, h.le.1, ?_, ?_⟩
  · rintro rfl
    rcases h.cases with ⟨_, _, h, _⟩ | ⟨g, cur, e, _⟩
    · exact h
    · cases e
  · intro ad e
    rcases h.cases with ⟨e2, _⟩ | ⟨g, cur, e2, hb, hg, hnc, _, hcs, ht⟩
    · rw [e2] at e; cases e
    · rw [e2] at e
      simp only [Option.some.injEq] at e
      subst e
      refine ⟨g, 0, cur, rfl, hb, hg, by omega, fun i hi => ?_⟩
      have h1 := congrArg (fun l => l[i]?) ht
      simp only [Nat.mul_one] at h1
      rw [List.getElem?_take, if_pos hi] at h1
      rw [Nat.zero_add, ← Array.getElem?_toList, h1]
      simp [List.getElem?_eq_getElem (show i < xs.length by omega)]
/-- append of one number. -/
theorem seg_append (w : World) (base : Nat) {a : Option Addr} {n c : Nat} {xs : List Int} (h : Sg w base a n c xs) (z : Int) (hb : base ≤ w.heap.size) (hn : n ≤ 1000000) :
    ∃ a' c' w', (Builtin.append_ #[55, 55] 55 #[.slice a n c, .slice (some ⟨w.heap.size, 0, none⟩) 1 1]).run Try.prog (w.alloc (.cells #[.int .u64 z] 30)) = .ok (.slice a' (n + 1) c') w' ∧
      Sg w' base a' (n + 1) c' (xs ++ [z]) ∧ Kept (fun k => blk a = some k) w w' := by
  obtain ⟨i0, hi, hz0, hz1, hz2⟩ := info_parts infU
  have hk := Kept.alloc (fun _ => False) w (.cells #[.int .u64 z] 30)
  have hnew : ∀ j u, [Value.int .u64 z][j]? = some u → (w.alloc (.cells #[.int .u64 z] 30)).cell? ((⟨w.heap.size, 0, none⟩ : Addr).add j) = some u := fun j u hu => by
    rw [Addr.add_lit, cell_of_row _ w.heap.size (0 + j) _ 30 (0, 0) (Blk_new w _ _), Nat.zero_add]
    simpa using hu
  cases a with
  | none =>
    have hc0 := h.no rfl
    have hn0 : n = 0 := by have := h.nc; omega
    have hx : xs = [] := List.eq_nil_of_length_eq_zero (by rw [h.len, hn0])
    subst hc0 hn0 hx
    obtain ⟨g, cap', w', hrun, hown, hk', _⟩ := run_append_one w base 55 55 30 (.int .u64 0) 1 8 infU Try.underlying55 rfl (by omega) (OwnG.nil w base 30 1) [.int .u64 z] rfl (by intro u hu; simp at hu; subst hu; rfl) hb (by omega) (by omega)
    exact ⟨some ⟨g, 0, none⟩, cap', w', hrun, Sg.of_own (xs := [z]) hown, hk'.mono (fun _ _ e => by cases e)⟩
  | some ad =>
    obtain ⟨b, o, cur, rfl, hbb, hc, hs, hr⟩ := h.at_ ad rfl
    have hc1 : (w.alloc (.cells #[.int .u64 z] 30)).heap[b]? = some (.cells cur 30 (0, 0)) := hk.heap hc id
    have hbs := (Array.getElem?_eq_some_iff.1 hc).1
    by_cases hroom : n + 1 ≤ c
    · have hrun := run_append_room_cells (P := Try.prog) (w.alloc (.cells #[.int .u64 z] 30)) 55 55 30 i0 Try.underlying55 hi b o n c ⟨w.heap.size, 0, none⟩ 1 1 [.int .u64 z] (by rw [hz1]; rfl) hnew (by intro u hu; simp at hu; subst hu; rfl) hroom
        (fun j hj => by
          have : j = 0 := by simp at hj; omega
          subst this
          rw [hz1, cell_of_row _ b _ cur _ (0, 0) hc1, Array.getElem?_eq_getElem (by omega)]; rfl)
        (fun j _ => frozen_of_row _ b _ cur _ hc1)
      rw [hz1, Nat.mul_one] at hrun
      refine ⟨some ⟨b, o, none⟩, c, _, hrun, ?_, (hk.mono (T := fun k => blk (some ⟨b, o, none⟩) = some k) (fun _ _ e => e.elim)).trans (Kept.setCells (S := fun k => blk (some ⟨b, o, none⟩) = some k) b rfl _ _ (Kept.refl _ _)) (fun _ _ e => e)⟩
      refine ⟨by simp [h.len], hroom, (fun e => by cases e), fun ad e => ?_⟩
      simp only [Option.some.injEq] at e
      subst e
      refine ⟨b, o, cur.setIfInBounds (o + n) (.int .u64 z), rfl, hbb, ?_, by simpa using hs, fun i hi2 => ?_⟩
      · simp only [World.setCells]
        exact heap_setCell_same _ b _ _ _ _ hc1
      · rw [Array.getElem?_setIfInBounds]
        by_cases e : i = n
        · subst e
          rw [if_pos rfl, if_pos (by omega), List.getD_eq_getElem?_getD, List.getElem?_append_right (by rw [h.len]; exact Nat.le_refl _), h.len]
          simp
        · rw [if_neg (by omega), hr i (by omega), List.getD_eq_getElem?_getD, List.getD_eq_getElem?_getD, List.getElem?_append_left (by rw [h.len]; omega)]
    · obtain ⟨v', w', hrun, hown, hg⟩ := run_append_arg_grows (P := Try.prog) (w.alloc (.cells #[.int .u64 z] 30)) 55 55 30 i0 (.int .u64 0) 1 8 Try.underlying55 hi hz0 hz1 hz2 rfl (by omega) ⟨b, o, none⟩ n c (xs.map (Value.int .u64)) (by simp [h.len])
        (fun j u hu => by
          have hj : j < xs.length := by have := (List.getElem?_eq_some_iff.1 hu).1; simpa using this
          rw [Addr.add_lit, cell_of_row _ b (o + j) cur _ (0, 0) hc1, hr j (by rw [← h.len]; exact hj)]
          simp [List.getElem?_eq_getElem hj] at hu ⊢
          exact hu) ⟨w.heap.size, 0, none⟩ 1 1 [.int .u64 z] rfl hnew (by omega) (by simp only [maxLen]; omega) (by omega)
      have hkk : Kept (fun k => blk (some ⟨b, o, none⟩) = some k) w w' := (hk.mono (T := fun k => blk (some ⟨b, o, none⟩) = some k) (fun _ _ e => e.elim)).trans (Kept.grown hg (S := fun _ => False) (fun k e => by cases e)) (fun _ _ e => e.elim)
      rcases hown.2 with ⟨_, h0⟩ | ⟨g, cap', cur', rfl, r⟩
      · omega
      · refine ⟨some ⟨g, 0, none⟩, cap', w', hrun, ?_, hkk⟩
        have ho : OwnG w' (w.alloc (.cells #[.int .u64 z] 30)).heap.size 30 1 (some ⟨g, 0, none⟩) (n + 1) cap' ((xs ++ [z]).map (Value.int .u64)) := by
          rw [List.map_append]; exact hown
        have h1 := Sg.of_own ho
        exact ⟨h1.len, h1.nc, h1.no, fun ad e => by
          obtain ⟨b', o', cur', e1, hb', r⟩ := h1.at_ ad e
          exact ⟨b', o', cur', e1, by have : w.heap.size + 1 ≤ b' := by simpa using hb'
                                      omega, r⟩⟩

theorem abs_no (q : Qs) : q.L.map Pi.no = q.abs.l.map It.no := by
  simp only [Qs.abs, List.map_map]
  rfl
/-- The memory of the loops: the queue, the numbers of what is in it, and all that was there is as it was. -/
structure Ow (w wr : World) (g : Nat) (q : Qs) (I S D : Int) (a : Option Addr) (m c : Nat) : Prop where
  qu : Qu wr w.heap.size g q
  row : Sg wr w.heap.size a m c (q.L.map Pi.no)
  below : Below w.heap.size w wr
  qI : q.I = I
  qS : q.S = S
  qD : q.D = D
section
variable {w wr w' : World} {g : Nat} {q q' : Qs} {I S D : Int} {a : Option Addr} {m c : Nat}
theorem Ow.past (h : Ow w wr g q I S D a m c) (k : Below wr.heap.size wr w') : Ow w w' g q I S D a m c := ⟨h.qu.below k, h.row.below k, h.below.trans (k.mono h.below.size), h.qI, h.qS, h.qD⟩
theorem Ow.apart (h : Ow w wr g q I S D a m c) {b : Nat} {cur : Array Value} (hb : wr.heap[b]? = some (.cells cur 30 (0, 0))) : ¬ q.foot g b := h.qu.apart hb (by decide) (by decide) (by decide)
/-- The queue has changed. -/
theorem Ow.did (h : Ow w wr g q I S D a m c) (k : Kept (q.foot g) wr w') : Sg w' w.heap.size a m c (q.L.map Pi.no) ∧ Below w.heap.size w w' :=
  ⟨h.row.keep k (fun _ _ hb => h.apart hb), h.below.trans (k.below h.below.size (fun _ e => (h.qu.foot_lt e).1))⟩
theorem Ow.len (h : Ow w wr g q I S D a m c) : m = q.L.length := by
  have := h.row.len
  rw [List.length_map] at this
  exact this.symm
end
/-- The row has changed. -/
theorem seg_put {w wr w' : World} {g : Nat} {q : Qs} {a : Option Addr} {m c : Nat} {xs : List Int} (hq : Qu wr w.heap.size g q) (hb : Below w.heap.size w wr) (h : Sg wr w.heap.size a m c xs) (k : Kept (fun i => blk a = some i) wr w') : Qu w' w.heap.size g q ∧ Below w.heap.size w w' :=
  ⟨hq.keep k (fun i hi e => by
    obtain ⟨_, cur, hc⟩ := h.own e
    exact hq.apart hc (by decide) (by decide) (by decide) hi), hb.trans (k.below hb.size (fun _ e => (h.own e).1))⟩
/-- The memory of the last loop: what is left in the queue, and all numbers. -/
structure Oz (w wr : World) (g : Nat) (q : Qs) (a : Option Addr) (m c : Nat) (xs : List Int) (j : Nat) : Prop where
  qu : Qu wr w.heap.size g q
  row : Sg wr w.heap.size a m c xs
  below : Below w.heap.size w wr
  left : q.L.map Pi.no = xs.drop j
end Go.Proofs.Ytjjidjemkddebaa

/-
  The contract of the document's Pop of queues. Conditions: numbers in their bounds. (Made by gen_firef.py.)
-/
import Derived.Test.YtpigpeehhadkjaaFiRef2
namespace Go.Proofs.Ytpigpeehhadkjaa
open Go.RowKit

theorem run_tail_rt (w : World) (r o n c : Nat) (hs : 1 ≤ n) (hc : n ≤ c) :
    (Instr.sliceAt 94 (.slice (some ⟨r, o, none⟩) n c) (some (.int .i64 1)) none none).run Try.prog w = .ok (.slice (if c = 1 then some ⟨r, o, none⟩ else some ⟨r, o + 3, none⟩) (n - 1) (c - 1)) w := by
  have h3 : (1 : Int) ≤ (n : Int) := by omega
  have h4 : (1 : Int) ≤ (c : Int) := by omega
  by_cases h5 : c = 1
  · have h6 : n = 1 := by omega
    subst h5 h6
    go_simp
  · have h6 : ¬ (c : Int) = 1 := by omega
    go_simp
theorem Rt.tail {w : World} {r o n c : Nat} {x : It} {l : List It} (h : Rt w (some ⟨r, o, none⟩) n (x :: l)) (hc : n ≤ c) : Rt w (if c = 1 then some ⟨r, o, none⟩ else some ⟨r, o + 3, none⟩) (n - 1) l := by
  have hl := h.len
  simp at hl
  refine ⟨by omega, fun hne => ?_⟩
  obtain ⟨r', o', e, hk, hr⟩ := h.cells (by simp)
  simp only [Option.some.injEq, Addr.mk.injEq, and_true] at e
  obtain ⟨rfl, rfl⟩ := e
  have hl0 : 0 < l.length := by
    rcases Nat.eq_zero_or_pos l.length with e | e
    · exact absurd (List.eq_nil_of_length_eq_zero e) hne
    · exact e
  rw [if_neg (by omega)]
  refine ⟨r, o + 3, rfl, hk, fun i y hy => ?_⟩
  have := hr (i + 1) y (by simpa using hy)
  rwa [show o + (i + 1) * 3 = o + 3 + i * 3 by omega] at this
section
variable {w : World} {b : Nat} {t : TypeId} {u0 u1 u2 u3 : Value}
theorem q3_0 (h : w.heap[b]? = some (.cells #[u0, u1, u2] t (0, 0))) : w.cell? ⟨b, 0, none⟩ = some u0 := by rw [cell_of_row w b 0 _ _ (0, 0) h]; rfl
theorem q3_1 (h : w.heap[b]? = some (.cells #[u0, u1, u2] t (0, 0))) : w.cell? ⟨b, 1, none⟩ = some u1 := by rw [cell_of_row w b 1 _ _ (0, 0) h]; rfl
theorem q3_2 (h : w.heap[b]? = some (.cells #[u0, u1, u2] t (0, 0))) : w.cell? ⟨b, 2, none⟩ = some u2 := by rw [cell_of_row w b 2 _ _ (0, 0) h]; rfl
theorem row_there {cur : Array Value} (h : w.heap[b]? = some (.cells cur t (0, 0))) {n : Nat} (hn : n ≤ cur.size) : w.there b 0 n := fun j hj => by
  rw [cell_of_row w b (0 + j) _ _ (0, 0) h, frozen_of_row w b (0 + j) _ _ h]
  exact ⟨by rw [Array.getElem?_eq_getElem (by omega)]; rfl, rfl⟩
theorem row4_set (h : w.heap[b]? = some (.cells #[u0, u1, u2, u3] t (0, 0))) (v0 v1 v2 v3 : Value) : (w.setCells b 0 [v0, v1, v2, v3]).heap[b]? = some (.cells #[v0, v1, v2, v3] t (0, 0)) := by
  simp only [World.setCells]
  rw [heap_setCell_same _ b _ _ _ _ (heap_setCell_same _ b _ _ _ _ (heap_setCell_same _ b _ _ _ _ (heap_setCell_same _ b _ _ _ _ h)))]
  rfl
theorem row3_set (h : w.heap[b]? = some (.cells #[u0, u1, u2] t (0, 0))) (v0 v1 v2 : Value) : (w.setCells b 0 [v0, v1, v2]).heap[b]? = some (.cells #[v0, v1, v2] t (0, 0)) := by
  simp only [World.setCells]
  rw [heap_setCell_same _ b _ _ _ _ (heap_setCell_same _ b _ _ _ _ (heap_setCell_same _ b _ _ _ _ h))]
  rfl
theorem infQ4 : (Try.prog.info? 96).map (·.size) = some 4 := by kernel_rfl
end
def Aq.hd (A : Aq) : It := A.l.headD iz
def Aq.pop (A : Aq) : Aq := { A with l := A.l.tail }
def Aq.has (A : Aq) : Bool := decide (0 < A.l.length)
/-- What the document's Pop answers. -/
def RPopR (w : World) (A : Aq) (e : Ending) (w' : World) : Prop :=
  Below w.heap.size w w' ∧ ∃ a n c, e = .returned (.tuple #[rqv a n c A.pop, A.hd.v, .bool A.has]) ∧ Rt w' a n A.pop.l ∧ n ≤ c

set_option maxRecDepth 100000 in
set_option maxHeartbeats 4000000 in
theorem rPop_any (a : Option Addr) (n c : Nat) (A : Aq) (w : World) (hr : Rt w a n A.l) (hc : n ≤ c) (hn : n ≤ 65536) : Calls Try.prog 48 #[rqv a n c A] w (RPopR w A) := by
  have HR := Lib.hid hr
  obtain ⟨I, S, l, D⟩ := A
  show Calls Try.prog 48 #[.agg #[.slice a n c, .int .i64 I, .int .i64 S, .int .u64 D]] w _
  have hlen := hr.len
  simp only at hr hlen
  have HP : Hid (Aq.pop ⟨I, S, l, D⟩ = ⟨I, S, l.tail, D⟩) := rfl
  have HH : Hid (Aq.hd ⟨I, S, l, D⟩ = l.headD iz ∧ Aq.has ⟨I, S, l, D⟩ = decide (0 < l.length)) := ⟨rfl, rfl⟩
  have hb3 : Below w.heap.size w (((w.alloc (.cells #[.slice a n c, .int .i64 I, .int .i64 S, .int .u64 D] 96)).alloc (.cells #[.slice none 0 0, .int .i64 0, .int .i64 0, .int .u64 0] 96)).alloc (.cells #[.int .u64 0, .int .i64 0, .string ⟨#[]⟩] 63)) := (((Below.refl _ _).alloc (Nat.le_refl _) _).alloc (by simp) _).alloc (by simp; omega) _
  cases l with
  | nil =>
    have hn0 : n = 0 := by simp at hlen; omega
    subst hn0
    have HE : Hid (∀ w', Below w.heap.size w w' → RPopR w ⟨I, S, [], D⟩ (.returned (.tuple #[.agg #[.slice a 0 c, .int .i64 I, .int .i64 S, .int .u64 D], .agg #[.int .u64 0, .int .i64 0, .string ⟨#[]⟩], .bool false])) w') := fun w' hw => ⟨hw, a, 0, c, rfl, ⟨rfl, fun h => absurd rfl h⟩, hc⟩
    have HB := Lib.hid hb3
    clear hr hlen hb3
    go_enter Try.func48, Try.ntmps48
    go_wp2_with fail
    refine bodyPost_ret (v := .tuple #[.agg #[.slice a 0 c, .int .i64 I, .int .i64 S, .int .u64 D], .agg #[.int .u64 0, .int .i64 0, .string ⟨#[]⟩], .bool false]) (by simp [results, Try.results48, go_sem, *]) rfl ?_
    refine HE.out _ ?_
    exact (((Below.refl _ _).alloc (Nat.le_refl _) _).alloc (by simp) _).alloc (by simp; omega) _
  | cons x l =>
    have hn1 : 1 ≤ n := by simp at hlen; omega
    obtain ⟨b, o, rfl, _, hrr⟩ := hr.cells (by simp)
    have hx := hrr 0 x rfl
    rw [Nat.zero_mul, Nat.add_zero] at hx
    have hrt := hr.tail hc
    have hsl : ∀ W : World, (Instr.sliceAt 94 (.slice (some ⟨b, o, none⟩) n c) (some (.int .i64 1)) none none).run Try.prog W = .ok (.slice (if c = 1 then some ⟨b, o, none⟩ else some ⟨b, o + 3, none⟩) (n - 1) (c - 1)) W := fun W => run_tail_rt W b o n c hn1 hc
    obtain ⟨a', ha'⟩ : ∃ z : Option Addr, (if c = 1 then some ⟨b, o, none⟩ else some ⟨b, o + 3, none⟩) = z := ⟨_, rfl⟩
    rw [ha'] at hrt
    simp only [ha'] at hsl
    clear ha' hr hrr
    obtain ⟨no, sz, d⟩ := x
    obtain ⟨T, hT⟩ : ∃ z, str d = z := ⟨_, rfl⟩
    have HT := Lib.hid hT
    have hbw : b < w.heap.size := World.block_lt_of_cell? w _ (hx 0 _ rfl)
    have r0 : (((w.alloc (.cells #[.slice (some ⟨b, o, none⟩) n c, .int .i64 I, .int .i64 S, .int .u64 D] 96)).alloc (.cells #[.slice none 0 0, .int .i64 0, .int .i64 0, .int .u64 0] 96)).alloc (.cells #[.int .u64 0, .int .i64 0, .string ⟨#[]⟩] 63)).heap[w.heap.size]? = some (.cells #[.slice (some ⟨b, o, none⟩) n c, .int .i64 I, .int .i64 S, .int .u64 D] 96 (0, 0)) := by
      rw [Below.heap_alloc _ _ _ (by simp; omega), Below.heap_alloc _ _ _ (by simp)]; exact Blk_new w _ _
    have r1 : (((w.alloc (.cells #[.slice (some ⟨b, o, none⟩) n c, .int .i64 I, .int .i64 S, .int .u64 D] 96)).alloc (.cells #[.slice none 0 0, .int .i64 0, .int .i64 0, .int .u64 0] 96)).alloc (.cells #[.int .u64 0, .int .i64 0, .string ⟨#[]⟩] 63)).heap[w.heap.size + 1]? = some (.cells #[.slice none 0 0, .int .i64 0, .int .i64 0, .int .u64 0] 96 (0, 0)) := by
      rw [Below.heap_alloc _ _ _ (by simp)]
      have := Blk_new (w.alloc (.cells #[.slice (some ⟨b, o, none⟩) n c, .int .i64 I, .int .i64 S, .int .u64 D] 96)) #[.slice none 0 0, .int .i64 0, .int .i64 0, .int .u64 0] 96
      simpa using this
    have r2 : (((w.alloc (.cells #[.slice (some ⟨b, o, none⟩) n c, .int .i64 I, .int .i64 S, .int .u64 D] 96)).alloc (.cells #[.slice none 0 0, .int .i64 0, .int .i64 0, .int .u64 0] 96)).alloc (.cells #[.int .u64 0, .int .i64 0, .string ⟨#[]⟩] 63)).heap[w.heap.size + 1 + 1]? = some (.cells #[.int .u64 0, .int .i64 0, .string ⟨#[]⟩] 63 (0, 0)) := by
      have := Blk_new ((w.alloc (.cells #[.slice (some ⟨b, o, none⟩) n c, .int .i64 I, .int .i64 S, .int .u64 D] 96)).alloc (.cells #[.slice none 0 0, .int .i64 0, .int .i64 0, .int .u64 0] 96)) #[.int .u64 0, .int .i64 0, .string ⟨#[]⟩] 63
      simpa using this
    obtain ⟨w3, hw3⟩ : ∃ z, ((w.alloc (.cells #[.slice (some ⟨b, o, none⟩) n c, .int .i64 I, .int .i64 S, .int .u64 D] 96)).alloc (.cells #[.slice none 0 0, .int .i64 0, .int .i64 0, .int .u64 0] 96)).alloc (.cells #[.int .u64 0, .int .i64 0, .string ⟨#[]⟩] 63) = z := ⟨_, rfl⟩
    have hz3 : w3.heap.size = w.heap.size + 1 + 1 + 1 := by rw [← hw3]; simp
    rw [hw3] at hb3 r0 r1 r2
    have x0 : w3.cell? ⟨b, o, none⟩ = some (.int .u64 no) := by rw [hb3.cell (p := ⟨b, o, none⟩) hbw]; exact hx 0 _ rfl
    have x1 : w3.cell? ⟨b, o + 1, none⟩ = some (.int .i64 sz) := by rw [hb3.cell (p := ⟨b, o + 1, none⟩) hbw]; exact hx 1 _ rfl
    have x2 : w3.cell? ⟨b, o + 2, none⟩ = some (.string T) := by rw [hb3.cell (p := ⟨b, o + 2, none⟩) hbw, ← hT]; exact hx 2 _ rfl
    have a0 := q4_0 r0
    have g0 : w3.frozen? ⟨w.heap.size, 0, none⟩ = false := frozen_of_row w3 _ 0 _ _ r0
    -- behind the two stores
    have H5 : Hid (Below w.heap.size w ((w3.setCell ⟨w.heap.size, 0, none⟩ (.slice a' (n - 1) (c - 1))).alloc (.cells #[.int .u64 no, .int .i64 sz, .string T] 63)) ∧
        ((w3.setCell ⟨w.heap.size, 0, none⟩ (.slice a' (n - 1) (c - 1))).alloc (.cells #[.int .u64 no, .int .i64 sz, .string T] 63)).heap[w.heap.size]? = some (.cells #[.slice a' (n - 1) (c - 1), .int .i64 I, .int .i64 S, .int .u64 D] 96 (0, 0)) ∧
        ((w3.setCell ⟨w.heap.size, 0, none⟩ (.slice a' (n - 1) (c - 1))).alloc (.cells #[.int .u64 no, .int .i64 sz, .string T] 63)).heap[w.heap.size + 1]? = some (.cells #[.slice none 0 0, .int .i64 0, .int .i64 0, .int .u64 0] 96 (0, 0)) ∧
        ((w3.setCell ⟨w.heap.size, 0, none⟩ (.slice a' (n - 1) (c - 1))).alloc (.cells #[.int .u64 no, .int .i64 sz, .string T] 63)).heap[w.heap.size + 1 + 1]? = some (.cells #[.int .u64 0, .int .i64 0, .string ⟨#[]⟩] 63 (0, 0)) ∧
        ((w3.setCell ⟨w.heap.size, 0, none⟩ (.slice a' (n - 1) (c - 1))).alloc (.cells #[.int .u64 no, .int .i64 sz, .string T] 63)).heap[w.heap.size + 1 + 1 + 1]? = some (.cells #[.int .u64 no, .int .i64 sz, .string T] 63 (0, 0))) := by
      have hk : Kept (fun k => k = w.heap.size) w3 (w3.setCell ⟨w.heap.size, 0, none⟩ (.slice a' (n - 1) (c - 1))) := Kept.setCell (S := fun k => k = w.heap.size) _ _ _ rfl
      have hzs : (w3.setCell ⟨w.heap.size, 0, none⟩ (.slice a' (n - 1) (c - 1))).heap.size = w.heap.size + 1 + 1 + 1 := by rw [← hz3]; simp [World.setCell]
      refine ⟨(hb3.trans (hk.below hb3.size (fun k e => by omega))).alloc (by rw [hzs]; omega) _, ?_, ?_, ?_, ?_⟩
      · rw [Below.heap_alloc _ _ _ (by rw [hzs]; omega), heap_setCell_same w3 _ 0 _ _ _ r0]; rfl
      · rw [Below.heap_alloc _ _ _ (by rw [hzs]; omega)]; exact hk.heap r1 (by omega)
      · rw [Below.heap_alloc _ _ _ (by rw [hzs]; omega)]; exact hk.heap r2 (by omega)
      · have := Blk_new (w3.setCell ⟨w.heap.size, 0, none⟩ (.slice a' (n - 1) (c - 1))) #[.int .u64 no, .int .i64 sz, .string T] 63
        rwa [hzs] at this
    have HRT := Lib.hid hrt
    clear hx hT hbw hlen hb3 r0 r1 r2 hrt
    go_enter Try.func48, Try.ntmps48
    go_wp2_with fail
    obtain ⟨w5, hw5⟩ : ∃ z, (w3.setCell ⟨w.heap.size, 0, none⟩ (.slice a' (n - 1) (c - 1))).alloc (.cells #[.int .u64 no, .int .i64 sz, .string T] 63) = z := ⟨_, rfl⟩
    rw [hw5] at H5 ⊢
    clear hw5 x0 x1 x2 a0 g0 hw3 hz3
    have HS : Hid (w5.drew.heap[w.heap.size]? = some (.cells #[.slice a' (n - 1) (c - 1), .int .i64 I, .int .i64 S, .int .u64 D] 96 (0, 0)) ∧ w5.drew.heap[w.heap.size + 1 + 1 + 1]? = some (.cells #[.int .u64 no, .int .i64 sz, .string T] 63 (0, 0))) := ⟨H5.out.2.1, H5.out.2.2.2.2⟩
    refine wp_region_held_drew (S := fun w' => w'.heap[w.heap.size]? = some (.cells #[.slice a' (n - 1) (c - 1), .int .i64 I, .int .i64 S, .int .u64 D] 96 (0, 0)) ∧ w'.heap[w.heap.size + 1 + 1 + 1]? = some (.cells #[.int .u64 no, .int .i64 sz, .string T] 63 (0, 0))) (by kernel_rfl) HS.out (fun hS => ?_)
    refine tk 0 20 (.agg #[.slice a' (n - 1) (c - 1), .int .i64 I, .int .i64 S, .int .u64 D]) rfl rfl (by kernel_rfl) (by kernel_rfl) (by kernel_rfl) (fun _ _ _ h => h) (Or.inl ⟨by rfl, fun w' h' => ?_⟩) hS ?_
    · have c0 := q4_0 h'.1
      have c1 := q4_1 h'.1
      have c2 := q4_2 h'.1
      have c3 := q4_3 h'.1
      go_simp
    try simp only [Act.put, List.setIfInBounds_toArray, List.set_cons_zero, List.set_cons_succ]
    refine tk 1 21 (.agg #[.int .u64 no, .int .i64 sz, .string T]) rfl rfl (by kernel_rfl) (by kernel_rfl) (by kernel_rfl) (fun _ _ _ h => h) (Or.inl ⟨by rfl, fun w' h' => ?_⟩) hS ?_
    · have c0 := q3_0 h'.2
      have c1 := q3_1 h'.2
      have c2 := q3_2 h'.2
      go_simp
    try simp only [Act.put, List.setIfInBounds_toArray, List.set_cons_zero, List.set_cons_succ]
    refine wpAnyH_ready (rs := [2]) (by kernel_rfl) (by simp) (AllReadyH.cons rfl (fun K hK => ?_) AllReadyH.nil)
    rw [if_pos (by rfl)]
    refine wp_store_mid 96 (.tmp 2) (.tmp 20) rfl (w.heap.size + 1) 0 #[.slice a' (n - 1) (c - 1), .int .i64 I, .int .i64 S, .int .u64 D] rfl rfl (row_there (w := w5.drew) H5.out.2.2.1 (by simp)) infQ4 (by simp [Value.oneCell']) ?_
    change K _ (w5.drew.setCells (w.heap.size + 1) 0 [.slice a' (n - 1) (c - 1), .int .i64 I, .int .i64 S, .int .u64 D])
    have hk6 : Kept (fun k => k = w.heap.size + 1) w5 (w5.drew.setCells (w.heap.size + 1) 0 [.slice a' (n - 1) (c - 1), .int .i64 I, .int .i64 S, .int .u64 D]) := Kept.setCells (S := fun k => k = w.heap.size + 1) (w.heap.size + 1) rfl _ _ (Kept.refl _ _).drew
    have hr6 := row4_set (w := w5.drew) H5.out.2.2.1 (.slice a' (n - 1) (c - 1)) (.int .i64 I) (.int .i64 S) (.int .u64 D)
    obtain ⟨w6, hw6⟩ : ∃ z, w5.drew.setCells (w.heap.size + 1) 0 [.slice a' (n - 1) (c - 1), .int .i64 I, .int .i64 S, .int .u64 D] = z := ⟨_, rfl⟩
    rw [hw6] at hk6 hr6 ⊢
    have H6 : Hid (Kept (fun k => k = w.heap.size + 1) w5 w6 ∧ w6.heap[w.heap.size + 1]? = some (.cells #[.slice a' (n - 1) (c - 1), .int .i64 I, .int .i64 S, .int .u64 D] 96 (0, 0)) ∧ w6.heap[w.heap.size + 1 + 1]? = some (.cells #[.int .u64 0, .int .i64 0, .string ⟨#[]⟩] 63 (0, 0))) := ⟨hk6, hr6, hk6.heap H5.out.2.2.2.1 (by omega)⟩
    clear hk6 hr6 hw6
    clear hS
    refine hK.out _ _ (⟨H6.out.1.heap H5.out.2.1 (by omega), H6.out.1.heap H5.out.2.2.2.2 (by omega)⟩) (fun hS => ?_)
    clear hK K
    try simp only [Act.put, List.setIfInBounds_toArray]
    refine wpAnyH_ready (rs := [3]) (by kernel_rfl) (by simp) (AllReadyH.cons rfl (fun K hK => ?_) AllReadyH.nil)
    rw [if_pos (by rfl)]
    refine wp_store_mid 63 (.tmp 3) (.tmp 21) rfl (w.heap.size + 1 + 1) 0 #[.int .u64 no, .int .i64 sz, .string T] rfl rfl (row_there (w := w6) H6.out.2.2 (by simp)) infR3 (by simp [Value.oneCell']) ?_
    change K _ (w6.setCells (w.heap.size + 1 + 1) 0 [.int .u64 no, .int .i64 sz, .string T])
    have hk7 : Kept (fun k => k = w.heap.size + 1 + 1) w6 (w6.setCells (w.heap.size + 1 + 1) 0 [.int .u64 no, .int .i64 sz, .string T]) := Kept.setCells (S := fun k => k = w.heap.size + 1 + 1) (w.heap.size + 1 + 1) rfl _ _ (Kept.refl _ _)
    have hr7 := row3_set H6.out.2.2 (.int .u64 no) (.int .i64 sz) (.string T)
    obtain ⟨w7, hw7⟩ : ∃ z, w6.setCells (w.heap.size + 1 + 1) 0 [.int .u64 no, .int .i64 sz, .string T] = z := ⟨_, rfl⟩
    rw [hw7] at hk7 hr7 ⊢
    have H7 : Hid (Kept (fun k => k = w.heap.size + 1 ∨ k = w.heap.size + 1 + 1) w5 w7 ∧ w7.heap[w.heap.size + 1]? = some (.cells #[.slice a' (n - 1) (c - 1), .int .i64 I, .int .i64 S, .int .u64 D] 96 (0, 0)) ∧ w7.heap[w.heap.size + 1 + 1]? = some (.cells #[.int .u64 no, .int .i64 sz, .string T] 63 (0, 0))) :=
      ⟨(H6.out.1.mono (T := fun k => k = w.heap.size + 1 ∨ k = w.heap.size + 1 + 1) (fun _ _ e => .inl e)).trans hk7 (fun _ _ e => .inr e), hk7.heap H6.out.2.1 (by omega), hr7⟩
    clear hk7 hr7 hw7 H6
    clear hS
    refine hK.out _ _ (⟨H7.out.1.heap H5.out.2.1 (by omega), H7.out.1.heap H5.out.2.2.2.2 (by omega)⟩) (fun hS => ?_)
    clear hK K
    try simp only [Act.put]
    refine tk 4 4 (.bool true) rfl rfl (by kernel_rfl) (by kernel_rfl) (by kernel_rfl) (fun _ _ _ h => h) (Or.inl ⟨by rfl, fun w' h' => ?_⟩) hS ?_
    · go_simp
    refine wpAnyH_done (by kernel_rfl) ?_ _
    have y0 := q4_0 H7.out.2.1
    have y1 := q4_1 H7.out.2.1
    have y2 := q4_2 H7.out.2.1
    have y3 := q4_3 H7.out.2.1
    have z0 := q3_0 H7.out.2.2
    have z1 := q3_1 H7.out.2.2
    have z2 := q3_2 H7.out.2.2
    go_wp2_with fail
    refine bodyPost_ret (v := .tuple #[.agg #[.slice a' (n - 1) (c - 1), .int .i64 I, .int .i64 S, .int .u64 D], .agg #[.int .u64 no, .int .i64 sz, .string T], .bool true]) (by simp [results, Try.results48, go_sem, *]) rfl ?_
    have hbw : Below w.heap.size w w7 := H5.out.1.trans (H7.out.1.below H5.out.1.size (fun k e => by omega))
    refine ⟨hbw, a', n - 1, c - 1, ?_, HRT.out.below hbw, by omega⟩
    rw [← HT.out, HH.out.1, HH.out.2]
    simp [rqv, Aq.pop, It.v, It.cs]
end Go.Proofs.Ytpigpeehhadkjaa

/-
  The contracts of the document's Push and Pop of queues. Conditions: numbers in their bounds. (Made by gen_firef.py.)
-/
import Derived.Test.YtpigpeehhadkjaaFiRef
namespace Go.Proofs.Ytpigpeehhadkjaa
open Go.RowKit

def rits (l : List It) : List Value := l.flatMap It.cs
theorem rits_len (l : List It) : (rits l).length = l.length * 3 := flat_len _ _ _ (fun _ _ => rfl)
theorem rits_one (l : List It) : ∀ v ∈ rits l, v.oneCell' = true := by
  intro v hv
  obtain ⟨x, _, hv⟩ := List.mem_flatMap.1 hv
  exact x.one v hv
theorem Rt.flat {w : World} {b o n : Nat} {l : List It} (h : Rt w (some ⟨b, o, none⟩) n l) : w.rangeAt b o (rits l) := fun j v hv => by
  have hj : j < l.length * 3 := by rw [← rits_len]; exact (List.getElem?_eq_some_iff.1 hv).1
  have hi : j / 3 < l.length := by omega
  obtain ⟨b', o', e, _, hc⟩ := h.cells (by intro e; rw [e] at hi; simp at hi)
  simp only [Option.some.injEq, Addr.mk.injEq, and_true] at e
  obtain ⟨rfl, rfl⟩ := e
  have hr := List.getElem?_eq_getElem hi
  have h1 := flat_at It.cs 3 l (fun x _ => rfl) (j / 3) _ hr (j % 3) (by omega)
  rw [show j / 3 * 3 + j % 3 = j by omega] at h1
  have := hc (j / 3) _ hr (j % 3) v (by rw [← h1]; exact hv)
  rwa [show o + j / 3 * 3 + j % 3 = o + j by omega] at this
theorem Rt.of_own {w : World} {base : Nat} {a : Option Addr} {n c : Nat} {l : List It} (h : OwnG w base 63 3 a n c (rits l)) (hl : l.length = n) : Rt w a n l := ⟨hl, fun hne => by
  have hne2 : rits l ≠ [] := by
    intro e
    have := rits_len l
    rw [e] at this
    simp at this
    exact hne (List.eq_nil_of_length_eq_zero (by omega))
  obtain ⟨g, e, hc⟩ := h.cell hne2
  rcases h.cases with ⟨_, _, _, e2⟩ | ⟨g', cur, e2, _, hg, _⟩
  · exact absurd e2 hne2
  · rw [e] at e2
    simp at e2
    subst e2
    refine ⟨g, 0, e, ⟨cur, hg⟩, fun i x hx j v hv => ?_⟩
    have hj : j < 3 := (List.getElem?_eq_some_iff.1 hv).1
    have := hc (i * 3 + j) v (by rw [rits, flat_at It.cs 3 l (fun x _ => rfl) i x hx j hj]; exact hv)
    rwa [← Nat.add_assoc] at this⟩

/-- append(nil, items...), the items anywhere. -/
theorem run_append_rt (w : World) (ty : Nat) {b : Option Addr} {m : Nat} (c : Nat) {q : List It} (hr : Rt w b m q) (hlim : m ≤ 1000000) :
    ∃ a' cap' w', (Builtin.append_ #[94, 94] ty #[.slice none 0 0, .slice b m c]).run Try.prog w = .ok (.slice a' m cap') w' ∧ OwnG w' w.heap.size 63 3 a' m cap' (rits q) ∧ Below w.heap.size w w' := by
  obtain ⟨i0, hi, hz0, hz1, hz2⟩ := info_parts infR
  cases b with
  | none =>
    have hy : q = [] := by
      cases q with
      | nil => rfl
      | cons y ys => obtain ⟨_, _, h, _⟩ := hr.cells (by simp); cases h
    subst hy
    have hm := hr.len
    simp at hm
    subst hm
    refine ⟨none, 0, w, ?_, OwnG.nil _ _ _ _, Below.refl _ _⟩
    simp [Builtin.append_, run_underlying Try.underlying94, sizeOf, typeInfo, hi, Builtin.lenOf, Builtin.firstCells]
  | some ad =>
    have hcells : ∀ j u, (rits q)[j]? = some u → w.cell? (ad.add j) = some u := by
      intro j u hu
      have hq : q ≠ [] := by rintro rfl; simp [rits] at hu
      obtain ⟨b, o, e, _⟩ := hr.cells hq
      simp only [Option.some.injEq] at e
      subst e
      rw [Addr.add_lit]
      exact hr.flat j u hu
    obtain ⟨v', w', hrun, h2, h3, _, h5⟩ := run_append_own_at (P := Try.prog) w w.heap.size 94 ty 63 i0 _ 3 32 Try.underlying94 hi hz0 hz1 hz2 (by rfl) (by omega) (.slice none 0 0) 0 [] (OwnG.nil _ _ _ _) ad m c (rits q)
      (by rw [rits_len, hr.len]) hcells (rits_one q) (by simp only [maxLen]; omega) (by omega) (Nat.le_refl _)
    rw [List.nil_append, Nat.zero_add] at h2
    rw [ownBlock_eq] at h3
    have hb : Below w.heap.size w w' := (Below.refl _ _).grown h3 (Nat.le_refl _) (by simp [blk])
    rcases h2.2 with ⟨rfl, h0⟩ | ⟨g, cap', cur, rfl, r⟩
    · subst h0
      exact ⟨none, 0, w', hrun, h2, hb⟩
    · exact ⟨some ⟨g, 0, none⟩, cap', w', hrun, h2, hb⟩

/-- What the document's Push answers. -/
def RPushR (w : World) (A : Aq) (x : It) (e : Ending) (w' : World) : Prop :=
  Below w.heap.size w w' ∧ ∃ a n c, e = .returned (.tuple #[rqv a n c (A.push x), .int .i64 (A.code x)]) ∧ Rt w' a n (A.push x).l ∧ n ≤ c

set_option maxRecDepth 100000 in
set_option maxHeartbeats 4000000 in
theorem rPush_any (a : Option Addr) (n c : Nat) (A : Aq) (x : It) (w : World) (hr : Rt w a n A.l) (hc : n ≤ c) (ok : A.ok) : Calls Try.prog 47 #[rqv a n c A, x.v] w (RPushR w A x) := by
  have HOK := Lib.hid ok
  have HR := Lib.hid hr
  have HP : Hid (A.push x = if x.sz < 0 then A else if A.room x.sz = true then { A with l := A.l ++ [x] } else { A with D := A.D + 1 }) := rfl
  have HC : Hid (A.code x = if x.sz < 0 then 2 else if A.room x.sz = true then 0 else 110) := rfl
  have hn : n ≤ 65536 := by have h1 := ok.len; have h2 := hr.len; omega
  have D0 := ok.D0
  have D1 := ok.D1
  obtain ⟨I, S, l, D⟩ := A
  obtain ⟨no, sz, d⟩ := x
  simp only at HP HC D0 D1
  obtain ⟨T, hT⟩ : ∃ z, str d = z := ⟨_, rfl⟩
  have HT := Lib.hid hT
  show Calls Try.prog 47 #[.agg #[.slice a n c, .int .i64 I, .int .i64 S, .int .u64 D], .agg #[.int .u64 no, .int .i64 sz, .string (str d)]] w _
  rw [hT]
  clear hr ok hT
  have hb3 : Below w.heap.size w (((w.alloc (.cells #[.slice a n c, .int .i64 I, .int .i64 S, .int .u64 D] 96)).alloc (.cells #[.int .u64 no, .int .i64 sz, .string T] 63)).alloc (.cells #[.slice none 0 0, .int .i64 0, .int .i64 0, .int .u64 0] 96)) := (((Below.refl _ _).alloc (Nat.le_refl _) _).alloc (by simp) _).alloc (by simp; omega) _
  have r0 : (((w.alloc (.cells #[.slice a n c, .int .i64 I, .int .i64 S, .int .u64 D] 96)).alloc (.cells #[.int .u64 no, .int .i64 sz, .string T] 63)).alloc (.cells #[.slice none 0 0, .int .i64 0, .int .i64 0, .int .u64 0] 96)).heap[w.heap.size]? = some (.cells #[.slice a n c, .int .i64 I, .int .i64 S, .int .u64 D] 96 (0, 0)) := by
    rw [Below.heap_alloc _ _ _ (by simp; omega), Below.heap_alloc _ _ _ (by simp)]; exact Blk_new w _ _
  have r1 : (((w.alloc (.cells #[.slice a n c, .int .i64 I, .int .i64 S, .int .u64 D] 96)).alloc (.cells #[.int .u64 no, .int .i64 sz, .string T] 63)).alloc (.cells #[.slice none 0 0, .int .i64 0, .int .i64 0, .int .u64 0] 96)).heap[w.heap.size + 1]? = some (.cells #[.int .u64 no, .int .i64 sz, .string T] 63 (0, 0)) := by
    rw [Below.heap_alloc _ _ _ (by simp)]
    have := Blk_new (w.alloc (.cells #[.slice a n c, .int .i64 I, .int .i64 S, .int .u64 D] 96)) #[.int .u64 no, .int .i64 sz, .string T] 63
    simpa using this
  have r2 : (((w.alloc (.cells #[.slice a n c, .int .i64 I, .int .i64 S, .int .u64 D] 96)).alloc (.cells #[.int .u64 no, .int .i64 sz, .string T] 63)).alloc (.cells #[.slice none 0 0, .int .i64 0, .int .i64 0, .int .u64 0] 96)).heap[w.heap.size + 2]? = some (.cells #[.slice none 0 0, .int .i64 0, .int .i64 0, .int .u64 0] 96 (0, 0)) := by
    have := Blk_new ((w.alloc (.cells #[.slice a n c, .int .i64 I, .int .i64 S, .int .u64 D] 96)).alloc (.cells #[.int .u64 no, .int .i64 sz, .string T] 63)) #[.slice none 0 0, .int .i64 0, .int .i64 0, .int .u64 0] 96
    simpa using this
  by_cases h0 : sz < 0
  · have HE : Hid (∀ w', Below w.heap.size w w' → RPushR w ⟨I, S, l, D⟩ ⟨no, sz, d⟩ (.returned (.tuple #[.agg #[.slice a n c, .int .i64 I, .int .i64 S, .int .u64 D], .int .i64 2])) w') := fun w' hw => by
      refine ⟨hw, a, n, c, ?_, ?_⟩
      · rw [HP.out, HC.out, if_pos h0, if_pos h0]; rfl
      · rw [HP.out, if_pos h0]; exact ⟨HR.out.below hw, hc⟩
    have HB := Lib.hid hb3
    clear r0 r1 r2 hb3
    go_enter Try.func47, Try.ntmps47
    go_wp2_with fail
    refine bodyPost_ret (v := .tuple #[.agg #[.slice a n c, .int .i64 I, .int .i64 S, .int .u64 D], .int .i64 2]) (by simp [results, Try.results47, go_sem, *]) rfl ?_
    refine HE.out _ ?_
    exact (((Below.refl _ _).alloc (Nat.le_refl _) _).alloc (by simp) _).alloc (by simp; omega) _
  obtain ⟨w3, hw3⟩ : ∃ z, ((w.alloc (.cells #[.slice a n c, .int .i64 I, .int .i64 S, .int .u64 D] 96)).alloc (.cells #[.int .u64 no, .int .i64 sz, .string T] 63)).alloc (.cells #[.slice none 0 0, .int .i64 0, .int .i64 0, .int .u64 0] 96) = z := ⟨_, rfl⟩
  rw [hw3] at hb3 r0 r1 r2
  have H3 : Hid (Below w.heap.size w w3 ∧ w3.heap[w.heap.size]? = some (.cells #[.slice a n c, .int .i64 I, .int .i64 S, .int .u64 D] 96 (0, 0)) ∧ w3.heap[w.heap.size + 1]? = some (.cells #[.int .u64 no, .int .i64 sz, .string T] 63 (0, 0)) ∧ w3.heap[w.heap.size + 1 + 1]? = some (.cells #[.slice none 0 0, .int .i64 0, .int .i64 0, .int .u64 0] 96 (0, 0))) := ⟨hb3, r0, r1, r2⟩
  have HN0 : Hid (0 ≤ sz) := by show _ ≤ _; omega
  clear hb3 r0 r1 r2
  have a0 : w3.cell? ⟨w.heap.size, 0, none⟩ = some (.slice a n c) := q4_0 H3.out.2.1
  have a1 : w3.cell? ⟨w.heap.size, 1, none⟩ = some (.int .i64 I) := q4_1 H3.out.2.1
  have a2 : w3.cell? ⟨w.heap.size, 2, none⟩ = some (.int .i64 S) := q4_2 H3.out.2.1
  have a3 : w3.cell? ⟨w.heap.size, 3, none⟩ = some (.int .u64 D) := q4_3 H3.out.2.1
  have b1 : w3.cell? ⟨w.heap.size + 1, 1, none⟩ = some (.int .i64 sz) := by rw [cell_of_row w3 _ 1 _ _ (0, 0) H3.out.2.2.1]; rfl
  go_enter Try.func47, Try.ntmps47
  go_wp2_with fail
  refine (rRoom_any a n c ⟨I, S, l, D⟩ sz w3 (HR.out.below H3.out.1) HOK.out).mono ?_
  rintro e w4 ⟨rfl, hb4⟩
  have hs3 : w.heap.size + 3 ≤ w3.heap.size := by have := (Array.getElem?_eq_some_iff.1 H3.out.2.2.2).1; omega
  have H4 : Hid (Below w.heap.size w w4 ∧ w4.heap[w.heap.size]? = some (.cells #[.slice a n c, .int .i64 I, .int .i64 S, .int .u64 D] 96 (0, 0)) ∧ w4.heap[w.heap.size + 1]? = some (.cells #[.int .u64 no, .int .i64 sz, .string T] 63 (0, 0)) ∧ w4.heap[w.heap.size + 1 + 1]? = some (.cells #[.slice none 0 0, .int .i64 0, .int .i64 0, .int .u64 0] 96 (0, 0)) ∧ w.heap.size + 3 ≤ w4.heap.size) :=
    ⟨H3.out.1.trans (hb4.mono H3.out.1.size), (hb4.block _ (by omega)).trans H3.out.2.1, (hb4.block _ (by omega)).trans H3.out.2.2.1, (hb4.block _ (by omega)).trans H3.out.2.2.2, by have := hb4.size; omega⟩
  clear hb4 hs3 a0 a1 a2 a3 b1 H3 hw3
  have g3 : w4.frozen? ⟨w.heap.size, 3, none⟩ = false := frozen_of_row w4 _ 3 _ _ H4.out.2.1
  have g0 : w4.frozen? ⟨w.heap.size, 0, none⟩ = false := frozen_of_row w4 _ 0 _ _ H4.out.2.1
  have a0 : w4.cell? ⟨w.heap.size, 0, none⟩ = some (.slice a n c) := q4_0 H4.out.2.1
  have a1 : w4.cell? ⟨w.heap.size, 1, none⟩ = some (.int .i64 I) := q4_1 H4.out.2.1
  have a2 : w4.cell? ⟨w.heap.size, 2, none⟩ = some (.int .i64 S) := q4_2 H4.out.2.1
  have a3 : w4.cell? ⟨w.heap.size, 3, none⟩ = some (.int .u64 D) := q4_3 H4.out.2.1
  have r0 : w4.cell? ⟨w.heap.size + 1 + 1, 0, none⟩ = some (.slice none 0 0) := q4_0 H4.out.2.2.2.1
  have r1 : w4.cell? ⟨w.heap.size + 1 + 1, 1, none⟩ = some (.int .i64 0) := q4_1 H4.out.2.2.2.1
  have r2 : w4.cell? ⟨w.heap.size + 1 + 1, 2, none⟩ = some (.int .i64 0) := q4_2 H4.out.2.2.2.1
  have r3 : w4.cell? ⟨w.heap.size + 1 + 1, 3, none⟩ = some (.int .u64 0) := q4_3 H4.out.2.2.2.1
  have h0f : w4.frozen? ⟨w.heap.size + 1 + 1, 0, none⟩ = false := frozen_of_row w4 _ 0 _ _ H4.out.2.2.2.1
  have h1f : w4.frozen? ⟨w.heap.size + 1 + 1, 1, none⟩ = false := frozen_of_row w4 _ 1 _ _ H4.out.2.2.2.1
  have h2f : w4.frozen? ⟨w.heap.size + 1 + 1, 2, none⟩ = false := frozen_of_row w4 _ 2 _ _ H4.out.2.2.2.1
  have h3f : w4.frozen? ⟨w.heap.size + 1 + 1, 3, none⟩ = false := frozen_of_row w4 _ 3 _ _ H4.out.2.2.2.1
  by_cases hrm : Aq.room ⟨I, S, l, D⟩ sz = true
  case neg =>
    have hrf : Aq.room ⟨I, S, l, D⟩ sz = false := by simpa using hrm
    have HE : Hid (∀ w', Below w.heap.size w w' → RPushR w ⟨I, S, l, D⟩ ⟨no, sz, d⟩ (.returned (.tuple #[.agg #[.slice a n c, .int .i64 I, .int .i64 S, .int .u64 (D + 1)], .int .i64 110])) w') := fun w' hw => by
      refine ⟨hw, a, n, c, ?_, ?_⟩
      · rw [HP.out, HC.out, if_neg (Int.not_lt.2 HN0.out), if_neg (Int.not_lt.2 HN0.out), if_neg hrm, if_neg hrm]; rfl
      · rw [HP.out, if_neg (Int.not_lt.2 HN0.out), if_neg hrm]; exact ⟨HR.out.below hw, hc⟩
    have e1 : IntKind.u64.wrap (D + 1) = D + 1 := by rw [IntKind.wrap_u64]; omega
    rw [hrf]
    clear hrm hrf
    go_wp2_with fail
    refine bodyPost_ret (v := .tuple #[.agg #[.slice a n c, .int .i64 I, .int .i64 S, .int .u64 (D + 1)], .int .i64 110]) (by simp [results, Try.results47, go_sem, *]) rfl ?_
    refine HE.out _ ?_
    exact ((((H4.out.1.setCell (p := ⟨w.heap.size, 3, none⟩) (Nat.le_refl _) _).setCell (p := ⟨w.heap.size + 1 + 1, 0, none⟩) (by show w.heap.size ≤ w.heap.size + 1 + 1; omega) _).setCell (p := ⟨w.heap.size + 1 + 1, 1, none⟩) (by show w.heap.size ≤ w.heap.size + 1 + 1; omega) _).setCell (p := ⟨w.heap.size + 1 + 1, 2, none⟩) (by show w.heap.size ≤ w.heap.size + 1 + 1; omega) _).setCell (p := ⟨w.heap.size + 1 + 1, 3, none⟩) (by show w.heap.size ≤ w.heap.size + 1 + 1; omega) _
  case pos =>
  obtain ⟨l1, c1, w5, hrun1, hown1, hbl1⟩ := run_append_rt w4 94 c (HR.out.below H4.out.1) (by omega)
  obtain ⟨g', c2, w6, hrun2, hown2, hk2, hg'⟩ := run_append_one w5 w4.heap.size 94 94 63 iz.v 3 32 infR Try.underlying94 rfl (by omega) hown1 (It.cs ⟨no, sz, d⟩) rfl (It.one _) hbl1.size (by omega) (by omega)
  have hle2 := hown2.le.1
  have hbl : Below w4.heap.size w4 w6 := hbl1.trans (hk2.below hbl1.size (fun k hk => (hown1.blk_ge k hk).1))
  have HRUN1 := Lib.hid hrun1
  have hrun2' : (Builtin.append_ #[94, 94] 94 #[.slice l1 n c1, .slice (some ⟨w5.heap.size, 0, none⟩) 1 1]).run Try.prog (w5.alloc (.cells #[.int .u64 no, .int .i64 sz, .string T] 63)) = .ok (.slice (some ⟨g', 0, none⟩) (n + 1) c2) w6 := by rw [← HT.out]; exact hrun2
  have HRUN2 := Lib.hid hrun2'
  have er : rits (l ++ [⟨no, sz, d⟩]) = rits l ++ It.cs ⟨no, sz, d⟩ := by simp [rits]
  have hll : (l ++ [(⟨no, sz, d⟩ : It)]).length = n + 1 := by
    have h1 := HR.out.len
    rw [List.length_append, h1]
    rfl
  have hrt : Rt w6 (some ⟨g', 0, none⟩) (n + 1) (l ++ [⟨no, sz, d⟩]) := Rt.of_own (base := w4.heap.size) (c := c2) (by rw [er]; exact hown2) hll
  clear er hll
  have HE : Hid (∀ w', Below w.heap.size w w' → Kept (fun k => k = w.heap.size ∨ k = w.heap.size + 1 + 1) w6 w' → RPushR w ⟨I, S, l, D⟩ ⟨no, sz, d⟩ (.returned (.tuple #[.agg #[.slice (some ⟨g', 0, none⟩) (n + 1) c2, .int .i64 I, .int .i64 S, .int .u64 D], .int .i64 0])) w') := fun w' hw hk => by
    refine ⟨hw, some ⟨g', 0, none⟩, n + 1, c2, ?_, ?_⟩
    · rw [HP.out, HC.out, if_neg (Int.not_lt.2 HN0.out), if_neg (Int.not_lt.2 HN0.out), if_pos hrm, if_pos hrm]; rfl
    · rw [HP.out, if_neg (Int.not_lt.2 HN0.out), if_pos hrm]
      refine ⟨hrt.keep hk (fun b cur hb e => ?_), hle2⟩
      rcases e with e | e
      · have h1 := (hbl.block _ (by have := H4.out.2.2.2.2; omega)).trans H4.out.2.1
        rw [← e, hb] at h1
        simp at h1
      · have h1 := (hbl.block _ (by have := H4.out.2.2.2.2; omega)).trans H4.out.2.2.2.1
        rw [← e, hb] at h1
        simp at h1
  have H6 : Hid (Below w.heap.size w w6 ∧ w6.heap[w.heap.size]? = some (.cells #[.slice a n c, .int .i64 I, .int .i64 S, .int .u64 D] 96 (0, 0)) ∧ w6.heap[w.heap.size + 1 + 1]? = some (.cells #[.slice none 0 0, .int .i64 0, .int .i64 0, .int .u64 0] 96 (0, 0))) :=
    ⟨H4.out.1.trans (hbl.mono H4.out.1.size), (hbl.block _ (by have := H4.out.2.2.2.2; omega)).trans H4.out.2.1, (hbl.block _ (by have := H4.out.2.2.2.2; omega)).trans H4.out.2.2.2.1⟩
  have x0 : w5.cell? ⟨w.heap.size + 1, 0, none⟩ = some (.int .u64 no) := by rw [cell_of_row w5 _ 0 _ _ (0, 0) ((hbl1.block _ (by have := H4.out.2.2.2.2; omega)).trans H4.out.2.2.1)]; rfl
  have x1 : w5.cell? ⟨w.heap.size + 1, 1, none⟩ = some (.int .i64 sz) := by rw [cell_of_row w5 _ 1 _ _ (0, 0) ((hbl1.block _ (by have := H4.out.2.2.2.2; omega)).trans H4.out.2.2.1)]; rfl
  have x2 : w5.cell? ⟨w.heap.size + 1, 2, none⟩ = some (.string T) := by rw [cell_of_row w5 _ 2 _ _ (0, 0) ((hbl1.block _ (by have := H4.out.2.2.2.2; omega)).trans H4.out.2.2.1)]; rfl
  rw [hrm]
  clear hrun1 hown1 hbl1 hrun2 hrun2' hown2 hk2 hg' hrt hbl hle2 hrm g3 g0 r0 r1 r2 r3 h0f h1f h2f h3f
  have g0 : w6.frozen? ⟨w.heap.size, 0, none⟩ = false := frozen_of_row w6 _ 0 _ _ H6.out.2.1
  have y0 : w6.cell? ⟨w.heap.size, 0, none⟩ = some (.slice a n c) := q4_0 H6.out.2.1
  have y1 : w6.cell? ⟨w.heap.size, 1, none⟩ = some (.int .i64 I) := q4_1 H6.out.2.1
  have y2 : w6.cell? ⟨w.heap.size, 2, none⟩ = some (.int .i64 S) := q4_2 H6.out.2.1
  have y3 : w6.cell? ⟨w.heap.size, 3, none⟩ = some (.int .u64 D) := q4_3 H6.out.2.1
  have r0 : w6.cell? ⟨w.heap.size + 1 + 1, 0, none⟩ = some (.slice none 0 0) := q4_0 H6.out.2.2
  have r1 : w6.cell? ⟨w.heap.size + 1 + 1, 1, none⟩ = some (.int .i64 0) := q4_1 H6.out.2.2
  have r2 : w6.cell? ⟨w.heap.size + 1 + 1, 2, none⟩ = some (.int .i64 0) := q4_2 H6.out.2.2
  have r3 : w6.cell? ⟨w.heap.size + 1 + 1, 3, none⟩ = some (.int .u64 0) := q4_3 H6.out.2.2
  have h0f : w6.frozen? ⟨w.heap.size + 1 + 1, 0, none⟩ = false := frozen_of_row w6 _ 0 _ _ H6.out.2.2
  have h1f : w6.frozen? ⟨w.heap.size + 1 + 1, 1, none⟩ = false := frozen_of_row w6 _ 1 _ _ H6.out.2.2
  have h2f : w6.frozen? ⟨w.heap.size + 1 + 1, 2, none⟩ = false := frozen_of_row w6 _ 2 _ _ H6.out.2.2
  have h3f : w6.frozen? ⟨w.heap.size + 1 + 1, 3, none⟩ = false := frozen_of_row w6 _ 3 _ _ H6.out.2.2
  go_wp2_with (at_builtin; first | (refine Lib.wpList_append_run _ rfl (.tmp 21) (.tmp 23) _ _ rfl _ _ rfl rfl _ _ HRUN1.out ?_) | (refine Lib.wpList_append_run _ rfl (.tmp 25) (.tmp 27) _ _ rfl _ _ rfl rfl _ _ HRUN2.out ?_) | fail)
  refine bodyPost_ret (v := .tuple #[.agg #[.slice (some ⟨g', 0, none⟩) (n + 1) c2, .int .i64 I, .int .i64 S, .int .u64 D], .int .i64 0]) (by simp [results, Try.results47, go_sem, *]) rfl ?_
  refine HE.out _ ?_ ?_
  · exact ((((H6.out.1.setCell (p := ⟨w.heap.size, 0, none⟩) (Nat.le_refl _) _).setCell (p := ⟨w.heap.size + 1 + 1, 0, none⟩) (by show w.heap.size ≤ w.heap.size + 1 + 1; omega) _).setCell (p := ⟨w.heap.size + 1 + 1, 1, none⟩) (by show w.heap.size ≤ w.heap.size + 1 + 1; omega) _).setCell (p := ⟨w.heap.size + 1 + 1, 2, none⟩) (by show w.heap.size ≤ w.heap.size + 1 + 1; omega) _).setCell (p := ⟨w.heap.size + 1 + 1, 3, none⟩) (by show w.heap.size ≤ w.heap.size + 1 + 1; omega) _
  · exact ((((Kept.setCell _ _ _ (.inl rfl)).trans (Kept.setCell (S := fun k => k = w.heap.size ∨ k = w.heap.size + 1 + 1) _ _ _ (.inr rfl)) (fun _ _ h => h)).trans (Kept.setCell (S := fun k => k = w.heap.size ∨ k = w.heap.size + 1 + 1) _ _ _ (.inr rfl)) (fun _ _ h => h)).trans (Kept.setCell (S := fun k => k = w.heap.size ∨ k = w.heap.size + 1 + 1) _ _ _ (.inr rfl)) (fun _ _ h => h)).trans (Kept.setCell (S := fun k => k = w.heap.size ∨ k = w.heap.size + 1 + 1) _ _ _ (.inr rfl)) (fun _ _ h => h)
end Go.Proofs.Ytpigpeehhadkjaa

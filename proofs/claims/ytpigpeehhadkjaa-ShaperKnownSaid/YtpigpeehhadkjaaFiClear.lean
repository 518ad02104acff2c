/-
  The contract of a queue's Clear. Conditions: a queue.
-/
import Derived.Test.YtpigpeehhadkjaaFiPop
namespace Go.Proofs.Ytpigpeehhadkjaa
open Go.RowKit

theorem wpList_clear_run {P : Program} {ops : Array Oper} {rest : List Oper} {o : Oper} {a : Act} {w w' : World} {Q : Exit → Act → World → Prop} {v : Value} (hgd : o.guard = none) (d : Operand) (dT : TypeId) (ho : o.op = .call { callee := .builtin .clear, args := #[d], argTypes := #[dT] }) (vd : Value) (hd : a.eval d = vd)
    (hr : (Builtin.clear_ #[dT] o.type #[vd]).run P w = .ok v w') (h : wpList P ops Q rest (a.put o.dst v) w') : wpList P ops Q (o :: rest) a w :=
  wpList_plain hgd fun _ hK => wp_clear_run d dT ho vd hd hr (hK _ _ h)
theorem zero_its (n : Nat) : (Builtin.zeroCells pz.v.cells n).toList = rws (List.replicate n pz) := by
  rw [rws_pz]
  simp [Builtin.zeroCells, madeCells, pz, Pi.v, Pi.cs, Value.cells]
/-- clear, of a queue's ring. -/
theorem run_clear_its (w : World) (B g : Nat) (q : Qs) (h : Qu w B g q) (ty : TypeId) :
    ∃ w', (Builtin.clear_ #[49] ty #[.slice q.a q.R.length q.R.length]).run Try.prog w = .ok (.tuple #[]) w' ∧ (∀ r, q.a = some ⟨r, 0, none⟩ → w'.heap[r]? = some (.cells (rws (List.replicate q.R.length pz)).toArray 40 (0, 0))) ∧ Kept (fun k => blk q.a = some k) w w' := by
  by_cases hn : q.R = []
  · obtain ⟨ha, _⟩ := h.ok.nil hn
    refine ⟨w, ?_, (fun r e => by rw [ha] at e; cases e), Kept.refl _ _⟩
    rw [ha, hn]
    simp [Builtin.clear_, run_underlying Try.underlying49]
  · obtain ⟨r, ha, hb, hr⟩ := h.ring hn
    have hm : 0 < q.R.length := by
      rcases Nat.eq_zero_or_pos q.R.length with e | e
      · exact absurd (List.eq_nil_of_length_eq_zero e) hn
      · exact e
    have hz : ∀ w, (zeroValue 40).run Try.prog w = .ok pz.v w := fun w => by
      obtain ⟨i0, hi, hz0, hz1, hz2⟩ := info_parts infI
      simp [zeroValue, typeInfo, hi, hz0]
    have hrun := run_clear_wide (P := Try.prog) w 49 40 ty pz.v Try.underlying49 hz r _ _ q.R.length q.R.length hm hr (rws (List.replicate q.R.length pz)) (zero_its _) (by rw [List.size_toArray, rws_len, rws_len, List.length_replicate]) (rws_one _)
    rw [ha]
    refine ⟨_, hrun, fun r' e => ?_, Kept.setRow (S := fun k => blk (some ⟨r, 0, none⟩) = some k) _ _ _ rfl⟩
    simp at e
    subst e
    exact setRow_heap w r _ _ _ _ hr
/-- What Clear does. -/
def ClearR (w : World) (B g : Nat) (q : Qs) (e : Ending) (w' : World) : Prop :=
  e = .returned (.int .i64 q.L.length) ∧ ∃ q', Qu w' B g q' ∧ q'.abs = { q.abs with l := [] } ∧ Kept (q.foot g) w w' ∧ ∀ k, q'.foot g k → q.foot g k
def clearQ (q : Qs) : Qs := { q with f := 0, R := List.replicate q.R.length pz, L := [] }

set_option maxRecDepth 100000 in
set_option maxHeartbeats 4000000 in
theorem fClear_any (B g : Nat) (q : Qs) (w : World) (h : Qu w B g q) : Calls Try.prog 44 #[.pointer (some ⟨g, 0, none⟩)] w (ClearR w B g q) := by
  have HQ := Lib.hid h
  obtain ⟨w2, hrun, hr2, hk2⟩ := run_clear_its w B g q h 0
  have hgr : ¬ blk q.a = some g := fun e => by
    by_cases hn : q.R = []
    · rw [(h.ok.nil hn).1] at e; cases e
    · obtain ⟨r, ha, hb, hr⟩ := h.ring hn
      rw [ha] at e
      simp [blk] at e
      rw [e, h.row] at hr
      simp at hr
  have c2 := h.c2
  have c4 := h.c4
  have row2 := hk2.heap h.row hgr
  have H2 : Hid ((∀ r, q.a = some ⟨r, 0, none⟩ → w2.heap[r]? = some (.cells (rws (List.replicate q.R.length pz)).toArray 40 (0, 0))) ∧ Kept (fun k => blk q.a = some k) w w2 ∧ w2.heap[g]? = some (.cells q.cs.toArray 122 (0, 0)) ∧ ¬ blk q.a = some g) := ⟨hr2, hk2, row2, hgr⟩
  have e3 := Qs.k3 row2
  have e4 := Qs.k4 row2
  have e5 := Qs.k5 row2
  have f3 : w2.frozen? ⟨g, 3, none⟩ = false := frozen_of_row w2 g 3 _ _ row2
  have f4 : w2.frozen? ⟨g, 4, none⟩ = false := frozen_of_row w2 g 4 _ _ row2
  have f5 : w2.frozen? ⟨g, 5, none⟩ = false := frozen_of_row w2 g 5 _ _ row2
  have HRUN := Lib.hid hrun
  clear h hrun hr2 hk2 hgr row2
  go_enter Try.func44, Try.ntmps44
  go_wp2_with (refine wpList_clear_run rfl (.tmp 13) _ rfl _ rfl HRUN.out ?_)
  go_ret
  have hks : Kept (fun k => k = g) w2 (((w2.setCell ⟨g, 3, none⟩ (.int .i64 0)).setCell ⟨g, 4, none⟩ (.int .i64 0)).setCell ⟨g, 5, none⟩ (.int .i64 0)) :=
    ((Kept.setCell (S := fun k => k = g) _ _ _ rfl).trans (Kept.setCell (S := fun k => k = g) _ _ _ rfl) (fun _ _ h => h)).trans (Kept.setCell (S := fun k => k = g) _ _ _ rfl) (fun _ _ h => h)
  have hq := HQ.out
  refine ⟨rfl, clearQ q, ⟨⟨fun e => ?_, fun i x hx => ?_, Nat.zero_le _, fun e => ?_, ?_, hq.ok.I1, hq.ok.S1, fun x hx => ?_, ?_, hq.ok.D0, hq.ok.D1⟩, ?_, fun hne => ?_, fun x hx => ?_, hq.base⟩, rfl, ?_, fun k hk => ?_⟩
  · have e2 : List.replicate q.R.length pz = [] := e
    have e3 : q.R = [] := by simpa using e2
    exact ⟨(hq.ok.nil e3).1, rfl⟩
  · have : ([] : List Pi)[i]? = some x := hx
    simp at this
  · have e2 : List.replicate q.R.length pz ≠ [] := e
    show 0 < (List.replicate q.R.length pz).length
    rcases Nat.eq_zero_or_pos (List.replicate q.R.length pz).length with h | h
    · exact absurd (List.eq_nil_of_length_eq_zero h) e2
    · exact h
  · show ((List.replicate q.R.length pz).length : Int) ≤ q.I
    rw [List.length_replicate]; exact hq.ok.mI
  · have : x ∈ ([] : List Pi) := hx
    simp at this
  · show sumS [] ≤ q.S
    have h1 := hq.ok.sum
    have h2 := sumS_pos hq.ok.sz
    rw [sumS_nil]
    omega
  · rw [heap_setCell_same _ g 5 _ _ _ (heap_setCell_same _ g 4 _ _ _ (heap_setCell_same w2 g 3 _ _ _ H2.out.2.2.1))]
    simp [Qs.cs, clearQ, sumS_nil]
  · have e2 : List.replicate q.R.length pz ≠ [] := hne
    obtain ⟨r, ha, hb, _⟩ := hq.ring (by intro e; rw [e] at e2; simp at e2)
    refine ⟨r, ha, hb, hks.heap (H2.out.1 r ha) (fun e => H2.out.2.2.2 (by rw [ha, ← e]; rfl))⟩
  · have : x ∈ ([] : List Pi) := hx
    simp at this
  · exact (H2.out.2.1.mono (T := q.foot g) (fun i _ e => .inr (.inl e))).trans hks (fun i _ e => .inl e)
  · rcases hk with e | e | ⟨x, hx, _⟩
    · exact .inl e
    · exact .inr (.inl e)
    · have : x ∈ ([] : List Pi) := hx
      simp at this
theorem fClear_nil (w : World) : Calls Try.prog 44 #[.pointer none] w fun e w' => e = .returned (.int .i64 0) ∧ w' = w := by
  go_enter Try.func44, Try.ntmps44
  go_wp2_with fail
  go_ret
  exact ⟨rfl, rfl⟩
end Go.Proofs.Ytpigpeehhadkjaa

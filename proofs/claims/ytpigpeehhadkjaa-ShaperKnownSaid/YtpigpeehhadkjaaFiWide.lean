/-
  What widen and Push of a queue lean on: laws on operations, slices of rows of items, copies of rows of items, a wider ring. Conditions: those that the theorems name.
-/
import Derived.Test.YtpigpeehhadkjaaFiLeaf
import Derived.Deep.RegionHeld3
import Derived.Lib.AppendZeros
namespace Go.Proofs.Ytpigpeehhadkjaa
open Go.RowKit

theorem tk {P : Program} {md : Region.Mode} {ops : Array Oper} {Q : Exit → Act → World → Prop} {S : World → Prop} (i d : Nat) (v : Value) {oi : Oper} {fuel : Nat} {listed : Array Bool} {a : Act} {w : World} (hi : ops[i]? = some oi) (hd : oi.dst = some d)
    (hs : Region.noSelect ops = true) (hf : Region.free md ops listed i = true) (hr : (Region.ready md ops listed).contains i = true)
    (hQ : ∀ c a w, Q (.panic c) (a.put (some d) v) w → Q (.panic c) a w) (hy : YieldsIf P ops S oi v a) (hS : S w)
    (h : wpAnyH P md ops Q S fuel (listed.setIfInBounds i true) (a.put (some d) v) w) : wpAnyH P md ops Q S (fuel + 1) listed a w :=
  wpAnyH_take hi hs hf hr (by rw [hd]; exact hQ) hy hS (by rw [hd]; exact h)

section
variable {P : Program} {o : Oper} {a : Act} {w w' : World} {K : Act → World → Prop} {Q : Exit → Act → World → Prop} {v : Value}
theorem wp_copy_run (d s : Operand) (dT sT : TypeId) (ho : o.op = .call { callee := .builtin .copy, args := #[d, s], argTypes := #[dT, sT] }) (vd vs : Value) (hd : a.eval d = vd) (hs : a.eval s = vs)
    (hr : (Builtin.copy_ #[dT, sT] o.type #[vd, vs]).run P w = .ok v w') (h : K (a.put o.dst v) w') : o.wp P a w K Q := by
  unfold Oper.wp execOp
  simp only [ho, resolve, invoke, builtin, Sem.run_bind, Sem.run_pure, Result.andThen_ok, List.map_toArray, List.map_cons, List.map_nil, hd, hs, hr]
  exact h
theorem wp_clear_run (d : Operand) (dT : TypeId) (ho : o.op = .call { callee := .builtin .clear, args := #[d], argTypes := #[dT] }) (vd : Value) (hd : a.eval d = vd)
    (hr : (Builtin.clear_ #[dT] o.type #[vd]).run P w = .ok v w') (h : K (a.put o.dst v) w') : o.wp P a w K Q := by
  unfold Oper.wp execOp
  simp only [ho, resolve, invoke, builtin, Sem.run_bind, Sem.run_pure, Result.andThen_ok, List.map_toArray, List.map_cons, List.map_nil, hd, hr]
  exact h
theorem wp_make_run (l c : Operand) (t : TypeId) (ho : o.op = .makeSlice t l c) (vl vc : Value) (hl : a.eval l = vl) (hc : a.eval c = vc)
    (hr : (Instr.makeSlice t vl vc).run P w = .ok v w') (h : K (a.put o.dst v) w') : o.wp P a w K Q := by
  unfold Oper.wp execOp
  simp only [ho, Sem.run_bind, Sem.run_pure, Result.andThen_ok, hl, hc, hr]
  exact h
end
theorem infI : (Try.prog.info? 40).map (fun i => (i.zero, i.size, i.bytes)) = some (some pz.v, 3, 40) := by kernel_rfl
theorem infI3 : (Try.prog.info? 40).map (·.size) = some 3 := by kernel_rfl

/-- Items lie there, one behind the other. -/
def Its (w : World) (a : Option Addr) (xs : List Pi) : Prop := xs ≠ [] → ∃ r o, a = some ⟨r, o, none⟩ ∧ w.rangeAt r o (rws xs)
theorem Its.keep {S : Nat → Prop} {w w' : World} {a : Option Addr} {xs : List Pi} (h : Its w a xs) (k : Kept S w w') (hn : ∀ b, blk a = some b → ¬ S b) : Its w' a xs := fun hne => by
  obtain ⟨r, o, rfl, hc⟩ := h hne
  refine ⟨r, o, rfl, fun j v hv => ?_⟩
  have h1 := hc j v hv
  rw [← h1]
  exact World.cell?_of_block (k.block r (World.block_lt_of_cell? w _ h1) (hn r rfl))
theorem its_of {w : World} {r : Nat} {t : TypeId} {l : List Pi} (h : w.heap[r]? = some (.cells (rws l).toArray t (0, 0))) : Its w (some ⟨r, 0, none⟩) l := fun _ =>
  ⟨r, 0, rfl, fun j v hv => by rw [cell_of_row w r (0 + j) _ _ (0, 0) h]; simpa using hv⟩
theorem Its.drop {w : World} {r o : Nat} {l : List Pi} (h : Its w (some ⟨r, o, none⟩) l) (k : Nat) : Its w (some ⟨r, o + k * 3, none⟩) (l.drop k) := fun hne => by
  have hk : k < l.length := by
    rcases Nat.lt_or_ge k l.length with e | e
    · exact e
    · exact absurd (List.drop_of_length_le e) hne
  obtain ⟨r', o', e, hc⟩ := h (by intro e; rw [e] at hk; simp at hk)
  simp only [Option.some.injEq, Addr.mk.injEq, and_true] at e
  obtain ⟨rfl, rfl⟩ := e
  refine ⟨r, o + k * 3, rfl, fun j v hv => ?_⟩
  have := hc (k * 3 + j) v (by
    have e := flat_drop Pi.cs 3 l (fun x _ => x.len) k (by omega)
    have h2 : (rws l).drop (k * 3) = rws (l.drop k) := e
    rw [← h2, List.getElem?_drop] at hv
    exact hv)
  rwa [← Nat.add_assoc] at this
theorem Its.take {w : World} {a : Option Addr} {l : List Pi} (h : Its w a l) (k : Nat) : Its w a (l.take k) := fun hne => by
  obtain ⟨r, o, e, hc⟩ := h (by intro e; rw [e] at hne; simp at hne)
  refine ⟨r, o, e, fun j v hv => hc j v ?_⟩
  have h2 : rws l = rws (l.take k) ++ rws (l.drop k) := by rw [← rws_append, List.take_append_drop]
  rw [h2, List.getElem?_append_left (List.getElem?_eq_some_iff.1 hv).1]
  exact hv

/-- copy, of rows of items, into the midst of a row of the call's own. -/
theorem run_copy_its (w : World) (h off dc : Nat) (ty : TypeId) (cur : List Pi) (hcur : w.heap[h]? = some (.cells (rws cur).toArray 40 (0, 0))) (a : Option Addr) (n c : Nat) (xs : List Pi) (hx : xs.length = n) (hr : Its w a xs) (hc : a = none → c = 0)
    (hfit : off + n ≤ cur.length) :
    ∃ w', (Builtin.copy_ #[49, 49] ty #[.slice (some ⟨h, off * 3, none⟩) (cur.length - off) dc, .slice a n c]).run Try.prog w = .ok (.int .i64 n) w' ∧ w'.heap[h]? = some (.cells (rws (cur.take off ++ xs ++ cur.drop (off + n))).toArray 40 (0, 0)) ∧
      Kept (fun k => k = h) w w' := by
  have hlen := rws_len xs
  cases a with
  | none =>
    have h0 : xs = [] := by
      cases xs with
      | nil => rfl
      | cons y ys => obtain ⟨_, _, e, _⟩ := hr (by simp); cases e
    subst h0
    simp at hx
    subst hx
    rw [hc rfl]
    refine ⟨w, run_copy_nil (P := Try.prog) w _ _ _ 40 _ _ _ Try.underlying49 (by rw [infI3]; rfl), ?_, Kept.refl _ _⟩
    rw [hcur]
    simp
  | some ad =>
    have hcell : ∀ j v, (rws xs)[j]? = some v → w.cell? (ad.add j) = some v := fun j v hv => by
      have hne : xs ≠ [] := by rintro rfl; simp [rws] at hv
      obtain ⟨r, o, e, hcc⟩ := hr hne
      simp only [Option.some.injEq] at e
      subst e
      rw [Addr.add_lit]
      exact hcc j v hv
    have hmin : Nat.min n (cur.length - off) = n := Nat.min_eq_left (show n ≤ cur.length - off by omega)
    have hrun := run_copy_wide (P := Try.prog) w 49 49 ty 40 3 h (off * 3) (cur.length - off) dc ad n c (rws cur).toArray 40 (rws xs) Try.underlying49 infI3 hcur
      (by rw [hlen, hx, hmin]) hcell (by rw [hlen, hx, List.size_toArray, rws_len]; omega) (rws_one xs)
    rw [hmin] at hrun
    refine ⟨_, hrun, ?_, Kept.setRow (S := fun k => k = h) _ _ _ rfl⟩
    rw [setRow_heap w h _ _ _ _ hcur]
    refine congrArg (fun l : List Value => some (Obj.cells l.toArray 40 (0, 0))) ?_
    rw [rws_append, rws_append, hlen, hx]
    have e1 : (rws cur).take (off * 3) = rws (cur.take off) := flat_take Pi.cs 3 cur (fun x _ => x.len) off (by omega)
    have e2 : (rws cur).drop ((off + n) * 3) = rws (cur.drop (off + n)) := flat_drop Pi.cs 3 cur (fun x _ => x.len) (off + n) (by omega)
    rw [show off * 3 + n * 3 = (off + n) * 3 by omega]
    simp only [e1, e2]

/-- A row of items, from one on; and up to one. -/
theorem run_from_its (w : World) (r o n s : Nat) (hs : s < n) (_hm : n ≤ 1000000) :
    (Instr.sliceAt 49 (.slice (some ⟨r, o, none⟩) n n) (some (.int .i64 s)) none none).run Try.prog w = .ok (.slice (some ⟨r, o + s * 3, none⟩) (n - s) (n - s)) w := by
  have h3 : (s : Int) ≤ (n : Int) := by omega
  have h5 : (0 : Int) ≤ (s : Int) := by omega
  have h6 : ¬ n = s := by omega
  have h7 : ¬ (n : Int) = (s : Int) := by omega
  go_simp
theorem run_to_its (w : World) (r o n s : Nat) (hs : s ≤ n) (_hm : n ≤ 1000000) :
    (Instr.sliceAt 49 (.slice (some ⟨r, o, none⟩) n n) none (some (.int .i64 s)) none).run Try.prog w = .ok (.slice (some ⟨r, o, none⟩) s n) w := by
  have h3 : (s : Int) ≤ (n : Int) := by omega
  have h5 : (0 : Int) ≤ (s : Int) := by omega
  go_simp
theorem run_from_none (w : World) : (Instr.sliceAt 49 (.slice none 0 0) (some (.int .i64 0)) none none).run Try.prog w = .ok (.slice none 0 0) w := by go_simp
theorem run_to_none (w : World) : (Instr.sliceAt 49 (.slice none 0 0) none (some (.int .i64 0)) none).run Try.prog w = .ok (.slice none 0 0) w := by go_simp

/-- make, of a row of items. -/
theorem run_make_its (W : World) (M : Nat) (hM : M ≤ 1000000) : (Instr.makeSlice 49 (.int .i64 (M : Int)) (.int .i64 (M : Int))).run Try.prog W = .ok (.slice (some ⟨W.heap.size, 0, none⟩) M M) (W.alloc (.cells (rws (List.replicate M pz)).toArray 40)) := by
  obtain ⟨i0, hi, hz0, hz1, hz2⟩ := info_parts infI
  have hr := run_make (P := Try.prog) W 49 40 i0 pz.v Try.underlying49 hi hz0 .i64 .i64 (M : Int) (M : Int) (by omega) (Int.le_refl _) (by rw [hz2]; omega) (by omega)
  rw [Int.toNat_natCast, hz1] at hr
  rw [hr, rws_pz]
  rfl
/-- The ring, wider: its items from the first place on. -/
def wideR (q : Qs) (M : Nat) : List Pi := q.R.drop q.f ++ q.R.take q.f ++ List.replicate (M - q.R.length) pz
theorem wide_one (q : Qs) (M : Nat) (hf : q.f ≤ q.R.length) (hM : q.R.length ≤ M) : (((List.replicate M pz).take 0 ++ q.R.drop q.f ++ (List.replicate M pz).drop (0 + (q.R.length - q.f))).take (q.R.length - q.f) ++ q.R.take q.f ++ ((List.replicate M pz).take 0 ++ q.R.drop q.f ++ (List.replicate M pz).drop (0 + (q.R.length - q.f))).drop (q.R.length - q.f + q.f)) = wideR q M := by
  have h1 : (q.R.drop q.f).length = q.R.length - q.f := by simp
  have e1 : ∀ (A Z : List Pi) (n : Nat), A.length = n → (A ++ Z).take n = A := fun A Z n h => by subst h; simp
  have e2 : ∀ (A Z : List Pi) (n k : Nat), A.length = n → (A ++ Z).drop (n + k) = Z.drop k := fun A Z n k h => by subst h; simp
  unfold wideR
  rw [List.take_zero, List.nil_append, e1 _ _ _ h1, e2 _ _ _ _ h1, List.drop_replicate, List.drop_replicate]
  congr 2
  omega
theorem wideR_len (q : Qs) (M : Nat) (hf : q.f ≤ q.R.length) (hM : q.R.length ≤ M) : (wideR q M).length = M := by
  simp [wideR]; omega
theorem wide_ok (q : Qs) (h : q.ok) (M hb : Nat) (hm : q.L.length = q.R.length) (hM : q.R.length < M) (hI : (M : Int) ≤ q.I) : Qs.ok { q with a := some ⟨hb, 0, none⟩, f := 0, R := wideR q M } := by
  have hf : q.f ≤ q.R.length := by
    by_cases hn : q.R = []
    · rw [(h.nil hn).2]; exact Nat.zero_le _
    · exact Nat.le_of_lt (h.fl hn)
  have hl := wideR_len q M hf (by omega)
  refine ⟨fun e => ?_, fun i x hx => ?_, ?_, fun _ => ?_, ?_, h.I1, h.S1, h.sz, h.sum, h.D0, h.D1⟩
  · have : wideR q M = [] := e
    rw [this] at hl
    simp at hl
    omega
  · have h1 := h.at_ i x hx
    have hi : i < q.L.length := (List.getElem?_eq_some_iff.1 hx).1
    have hf2 : q.f < q.R.length := h.fl (by intro e; rw [e] at hm; simp at hm; rw [hm] at hi; simp at hi)
    show (wideR q M)[(0 + i) % (wideR q M).length]? = some x
    rw [hl, Nat.zero_add, Nat.mod_eq_of_lt (by omega)]
    unfold wideR
    rw [List.append_assoc]
    by_cases hc : i < q.R.length - q.f
    · rw [List.getElem?_append_left (by simp; omega), List.getElem?_drop, ← h1, Nat.mod_eq_of_lt (by omega)]
    · rw [List.getElem?_append_right (by simp; omega), List.getElem?_append_left (by simp; omega), List.getElem?_take, if_pos (by simp; omega), ← h1]
      congr 1
      have : (q.f + i) % q.R.length = q.f + i - q.R.length := by
        rw [Nat.mod_eq_sub_mod (by omega), Nat.mod_eq_of_lt (by omega)]
      rw [this]
      simp
      omega
  · show q.L.length ≤ (wideR q M).length
    omega
  · show 0 < (wideR q M).length
    omega
  · show ((wideR q M).length : Int) ≤ q.I
    omega
end Go.Proofs.Ytpigpeehhadkjaa

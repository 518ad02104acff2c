/-
  The contract of Options of package ip. Conditions: bytes that lie where the slice leads, fewer than a million.
-/
import Derived.Test.YtjnbnjdajkhkpaaIpOpts
import Derived.Test.YtjnbnjdajkhkpaaRange
namespace Go.Proofs.Ytjnbnjdajkhkpaa
open Go.RowKit Go.Shelf
attribute [local go_sem] Oper.semAt_some

theorem wpListIn_append_run {F : Fence} {n : Nat} {P : Program} {w : World} {ops : Array Oper} {rest : List Oper} {o : Oper} {a : Act} {Q : Exit → Act → World → Prop} (hgd : o.guard = none) (s x : Operand) (t tn : TypeId)
    (ho : o.op = .call { callee := .builtin .append, args := #[s, x], argTypes := #[t, tn] }) (vs vx : Value) (hs : a.eval s = vs) (hx : a.eval x = vx)
    (v' : Value) (w' : World) (hr : (Builtin.append_ #[t, tn] o.type #[vs, vx]).run P w = .ok v' w') (h : wpListIn F n P ops Q rest (a.put o.dst v') w') : wpListIn F n P ops Q (o :: rest) a w := by
  refine wpListIn_plain hgd fun K hK => ?_
  unfold Oper.wpIn
  refine ⟨?_, ?_⟩
  · simp [Oper.about, ho, resolve, Target.leads, Sem.run_pure]
  · rw [Oper.semAt_plain F _ _ (by rw [ho]; intro c hc; cases hc)]
    simp only [execOp, ho, resolve, invoke, builtin, Sem.run_bind, Sem.run_pure, Result.andThen_ok, List.map_toArray, List.map_cons, List.map_nil, hs, hx, hr]
    exact hK _ _ h
theorem infOpt : (Try.prog.info? 54).map (fun i => (i.zero, i.size, i.bytes)) = some (some (.agg #[.int .u8 0, .slice none 0 0]), 2, 32) := by kernel_rfl
theorem res_two {P : Program} {fn : Func} {p q : Tmp} {t u : TypeId} (h : fn.results = #[.cell p t, .cell q u]) (tmps : Array Value) (w : World) (a b : Addr) (hp : tmps.getD p undef = .pointer (some a)) (hq : tmps.getD q undef = .pointer (some b)) (x y : Value)
    (h1 : (loadVar t a).run P w = .ok x w) (h2 : (loadVar u b).run P w = .ok y w) : (results fn tmps).run P w = .ok (.tuple #[x, y]) w := by
  have hp' : tmps[p]?.getD undef = .pointer (some a) := by simpa using hp
  have hq' : tmps[q]?.getD undef = .pointer (some b) := by simpa using hq
  simp [results, h, hp', hq', asAddr, h1, h2]
theorem load_opts (w : World) (a : Addr) (v : Value) (h : w.cell? a = some v) : (loadVar 50 a).run Try.prog w = .ok v w := by
  have ht := Try.underlying50
  go_simp
theorem load_err (w : World) (a : Addr) (v : Value) (h : w.cell? a = some v) : (loadVar 31 a).run Try.prog w = .ok v w := by
  have ht := Try.underlying31
  go_simp
/-- What Options answers. -/
def OptR (w : World) (xs : List Int) (e : Ending) (w' : World) : Prop :=
  Below w.heap.size w w' ∧ ((∃ v m c os, opts xs = some (os.map Op1.at_) ∧ e = .returned (.tuple #[.slice v m c, .int .i64 0]) ∧ Opts w' w.heap.size v m c os) ∨
    (opts xs = none ∧ e = .returned (.tuple #[.slice none 0 0, .int .i64 51])))

set_option maxRecDepth 100000 in
set_option maxHeartbeats 2000000 in
theorem iOptions_any (a : Option Addr) (n cap : Nat) (xs : List Int) (w : World) (hn : xs.length = n) (hr : Rd w a xs) (hb : Byt xs) (hl : n ≤ 1000000) (hc : n ≤ cap) :
    Calls Try.prog 25 #[.slice a n cap] w (OptR w xs) := by
  have HN := Lib.hid hn
  have HB := Lib.hid hb
  have HR := Lib.hid hr
  clear hn hb hr
  refine (callsIn_wide (n := 5)).1 ?_
  refine callsIn_of_wp_marks Try.func25 rfl trivial ?_ rfl
  simp only [Try.ntmps25, List.size_toArray, List.length_cons, List.length_nil, Nat.reduceAdd, Nat.reduceSub, Array.replicate_succ, Array.replicate_zero, List.push_toArray, List.append_toArray, List.nil_append, List.cons_append]
  gi_wp2
  refine ⟨trivial, (callsIn_wide.2 (iEach_any _ _ _ _)).mono ?_⟩
  rintro e w1 ⟨rfl, rfl⟩
  gi_wp2
  obtain ⟨w4, hw4⟩ : ∃ x, (((w.alloc (.cells #[.slice none 0 0] 50)).alloc (.cells #[.int .i64 0] 31)).alloc (.cells #[.slice none 0 0] 50)).alloc (.cells #[.slice a n cap] 24) = x := ⟨_, rfl⟩
  have hs4 : w4.heap.size = w.heap.size + 4 := by rw [← hw4]; simp
  have hb4 : Below w.heap.size w w4 := by rw [← hw4]; exact ((((Below.refl _ _).alloc (Nat.le_refl _) _).alloc (by simp) _).alloc (by simp; omega) _).alloc (by simp; omega) _
  have r2 : w4.heap[w.heap.size]? = some (.cells #[.slice none 0 0] 50 (0, 0)) := by
    rw [← hw4, Below.heap_alloc _ _ _ (by simp; omega), Below.heap_alloc _ _ _ (by simp; omega), Below.heap_alloc _ _ _ (by simp)]; exact Blk_new w _ _
  have r3 : w4.heap[w.heap.size + 1]? = some (.cells #[.int .i64 0] 31 (0, 0)) := by
    rw [← hw4, Below.heap_alloc _ _ _ (by simp), Below.heap_alloc _ _ _ (by simp)]
    have := Blk_new (w.alloc (.cells #[.slice none 0 0] 50)) #[.int .i64 0] 31
    simpa using this
  have rB : w4.heap[w.heap.size + 2]? = some (.cells #[.slice none 0 0] 50 (0, 0)) := by
    rw [← hw4, Below.heap_alloc _ _ _ (by simp)]
    have := Blk_new ((w.alloc (.cells #[.slice none 0 0] 50)).alloc (.cells #[.int .i64 0] 31)) #[.slice none 0 0] 50
    simpa using this
  have rH : w4.cell? ⟨w.heap.size + 3, 0, none⟩ = some (.slice a n cap) := by
    have := Blk_new (((w.alloc (.cells #[.slice none 0 0] 50)).alloc (.cells #[.int .i64 0] 31)).alloc (.cells #[.slice none 0 0] 50)) #[.slice a n cap] 24
    rw [hw4] at this
    exact cell_of_one (by simpa using this)
  rw [hw4]
  refine range_enter (F := Fence.wide) (gf := 59) (lb := #[.pointer (some ⟨w.heap.size + 3, 0, none⟩)]) (fun _ => trivial) (by rfl) (by omega) (by rfl) (enters_of Try.func59 (by kernel_rfl) rfl) (fun fn lp W1 hlp hW1 => ?_)
  rw [hs4] at hlp ⊢
  have HJ0 : Hid (JO w (lp .ready none) [] W1) := by
    have hb1 : Below w4.heap.size w4 W1 := by rw [hW1]; exact ((Below.refl _ _).alloc (Nat.le_refl _) _).alloc (by simp) _
    refine ⟨⟨none, 0, 0, (hb1.block _ (by omega)).trans rB, Opts.nil _ _⟩, ?_, ?_, (hb1.block _ (by omega)).trans r2, (hb1.block _ (by omega)).trans r3, hb4.trans (hb1.mono (by omega))⟩
    · rw [hW1]
      have := World.alloc_heap_new (w4.alloc (.deferred (some []))) (.loop (lp .ready none))
      rwa [World.size_alloc, hs4] at this
    · rw [hW1, Below.heap_alloc _ _ _ (by simp; omega)]
      have := World.alloc_heap_new w4 (.deferred (some []))
      rwa [hs4] at this
  have rH1 : W1.cell? ⟨w.heap.size + 3, 0, none⟩ = some (.slice a n cap) := by
    rw [hW1]
    exact (((Below.refl w4.heap.size w4).alloc (Nat.le_refl _) _).alloc (by simp) _).cell (p := ⟨w.heap.size + 3, 0, none⟩) (by show w.heap.size + 3 < _; omega) |>.trans rH
  have HLP := Lib.hid hlp
  clear hlp hW1 hw4 r2 r3 rB rH hb4 hs4
  refine (iEach1_in 4 (w.heap.size + 4 + 1) (w.heap.size + 3) a n cap xs (JO w (lp .ready none))
    (JX w (lp .done (some .ret)))
    (fun pre W W' h hb => h.step hb) (fun pre W h => HR.out.below h.below) ?hY ?hE HN.out HB.out hl hc W1 rH1 HJ0.out).mono ?_
  case hY =>
    intro pre x W0 W hj hpl hbl ho
    have hjW := hj.step hbl
    have hjA := hjW.step (W' := W.alloc (.cells #[.int .u8 x.k, .slice x.a x.n x.c] 54)) ((Below.refl _ _).alloc (Nat.le_refl _) _)
    have hjB := hjA.put (lp .busy none)
    have hsz := hjW.size
    obtain ⟨v, n2, cap2, hv, hrow⟩ := hjB.box
    have hn2 : n2 < n := by rw [← hrow.len]; exact hpl
    have hgx : ((W.alloc (.cells #[.int .u8 x.k, .slice x.a x.n x.c] 54)).putObj (w.heap.size + 5) (.loop (lp .busy none))).heap[W.heap.size]? = some (.cells #[.int .u8 x.k, .slice x.a x.n x.c] 54 (0, 0)) := by
      rw [World.putObj_heap_other (by omega)]; exact Blk_new W _ _
    obtain ⟨WB, hWB⟩ : ∃ WB, (W.alloc (.cells #[.int .u8 x.k, .slice x.a x.n x.c] 54)).putObj (w.heap.size + 5) (.loop (lp .busy none)) = WB := ⟨_, rfl⟩
    have hoB : Own WB W0.heap.size x.a x.n x.c x.xs := by
      rw [← hWB]
      exact (ho.keep (S := fun _ => False) (Kept.alloc _ _ _) (fun _ _ => id)).keep (Kept.putObj _ _ _) (fun k hk e => by have := (ho.blk_ge k hk).1; have := hj.size; omega)
    rw [hWB] at hjB hv hrow hgx
    have c0 : WB.cell? ⟨W.heap.size, 0, none⟩ = some (.int .u8 x.k) := by rw [cell_of_row WB W.heap.size 0 _ _ (0, 0) hgx]; rfl
    have c1 : WB.cell? ⟨W.heap.size, 1, none⟩ = some (.slice x.a x.n x.c) := by rw [cell_of_row WB W.heap.size 1 _ _ (0, 0) hgx]; rfl
    have cB := cell_of_one hv
    obtain ⟨g', cap', w1, hrun, hown, hk, _⟩ := run_append_one WB (w.heap.size + 6) 50 50 54 (.agg #[.int .u8 0, .slice none 0 0]) 2 32 infOpt Try.underlying50 rfl (by omega) hrow.row x.cs rfl (ocs_one _ _ _ _) hjB.size (by omega) (by omega)
    have hfr : ∀ o ∈ pre, ∀ k, blk o.a = some k → k < W0.heap.size := by
      obtain ⟨_, _, _, _, h0⟩ := hj.box
      exact fun o ho' k hk' => ((h0.data o ho').blk_ge k hk').2
    obtain ⟨hjN, hv1⟩ := hjB.next x hoB hj.size hfr hv hrow hown hk
    have cB1 := cell_of_one hv1
    have fB1 := free_of_one hv1
    have hrun' : (Builtin.append_ #[50, 50] 50 #[.slice v n2 cap2, .slice (some ⟨WB.heap.size, 0, none⟩) 1 1]).run Try.prog (WB.alloc (.cells #[.int .u8 x.k, .slice x.a x.n x.c] 54)) = .ok (.slice (some ⟨g', 0, none⟩) (n2 + 1) cap') w1 := hrun
    have HRUN := Lib.hid hrun'
    have HJN := Lib.hid hjN
    have HJA := Lib.hid hjA
    have HWB := Lib.hid hWB
    have cBA : (WB.alloc (.cells #[.int .u8 x.k, .slice x.a x.n x.c] 54)).cell? ⟨w.heap.size + 2, 0, none⟩ = some (.slice v n2 cap2) := by
      rw [World.cell?_alloc_some _ _ _ (by rw [cB]; rfl)]; exact cB
    have HREC := Lib.hid hjW.rec_
    clear hrun hrun' hown hk hfr hjN hv1 hv hrow hgx hoB hjW hjB hjA hWB ho hbl
    refine range_round HLP.out HREC.out rfl ?_
    gi_wp2
    refine ⟨HJA.out.rec_, ?_⟩
    show Code.wpIn _ _ _ _ _ _ ((W.alloc (.cells #[.int .u8 x.k, .slice x.a x.n x.c] 54)).putObj (w.heap.size + 5) (.loop (lp .busy none)))
    rw [HWB.out]
    gi_wp2_with (gi_at_builtin; refine wpListIn_append_run rfl _ _ _ _ rfl _ _ rfl rfl _ _ HRUN.out ?_)
    refine round_on HLP.out HJN.out.rec_ ⟨rfl, HJN.out.put (lp .ready none)⟩
  case hE =>
    intro pre W hj
    have hjA := hj.step (W' := W.alloc (.cells #[.int .u8 0, .slice none 0 0] 54)) ((Below.refl _ _).alloc (Nat.le_refl _) _)
    have hjB := hjA.put (lp .busy none)
    have HJA := Lib.hid hjA
    have HREC := Lib.hid hj.rec_
    obtain ⟨WB, hWB⟩ : ∃ WB, (W.alloc (.cells #[.int .u8 0, .slice none 0 0] 54)).putObj (w.heap.size + 5) (.loop (lp .busy none)) = WB := ⟨_, rfl⟩
    have HWB := Lib.hid hWB
    rw [hWB] at hjB
    have c2 := cell_of_one hjB.r2
    have c3 := cell_of_one hjB.r3
    have f2 := free_of_one hjB.r2
    have f3 := free_of_one hjB.r3
    have HJF := Lib.hid hjB.fail
    clear hjA hjB hWB
    refine range_round HLP.out HREC.out rfl ?_
    gi_wp2
    refine ⟨HJA.out.rec_, ?_⟩
    show Code.wpIn _ _ _ _ _ _ ((W.alloc (.cells #[.int .u8 0, .slice none 0 0] 54)).putObj (w.heap.size + 5) (.loop (lp .busy none)))
    rw [HWB.out]
    gi_wp2
    exact round_ret HLP.out HJF.out.rec_ ⟨rfl, HJF.out.put _⟩
  · rintro e W2 ⟨⟨v, rfl⟩, ⟨os, hos, hj⟩ | ⟨hno, hj⟩⟩
    · have hjE := hj.put (lp .exhausted none)
      have HEND : Hid (W2.heap[w.heap.size + 4 + 1]? = some (.loop (lp .ready none))) := hj.rec_
      refine ⟨none, _, range_done HLP.out HEND.out, ?_⟩
      obtain ⟨W3, hW3⟩ : ∃ W3, W2.putObj (w.heap.size + 4 + 1) (.loop (lp .exhausted none)) = W3 := ⟨_, rfl⟩
      have hjE' : JO w (lp .exhausted none) os W3 := by rw [← hW3]; exact hjE
      rw [hW3]
      obtain ⟨v2, n2, cap2, hv, hrow⟩ := hjE'.box
      have c2 := cell_of_one hjE'.r2
      have c3 := cell_of_one hjE'.r3
      have f2 := free_of_one hjE'.r2
      have f3 := free_of_one hjE'.r3
      have cB := cell_of_one hv
      have HJE := Lib.hid hjE'
      have HROW := Lib.hid hrow
      have HOS := Lib.hid hos
      clear hv hrow hjE hjE' hj hW3 hos
      gi_wp2
      obtain ⟨We, hWe⟩ : ∃ We, We = (W3.setCell ⟨w.heap.size, 0, none⟩ (.slice v2 n2 cap2)).setCell ⟨w.heap.size + 1, 0, none⟩ (.int .i64 0) := ⟨_, rfl⟩
      rw [← hWe]
      obtain ⟨q1, q2, q3, q4, q5⟩ := HJE.out.fin HROW.out hWe
      refine ⟨by simp, .inl ⟨_, _, rfl, run_takeDeferred q1, ?_⟩⟩
      exact ⟨_, res_two Try.results25 _ _ ⟨w.heap.size, 0, none⟩ ⟨w.heap.size + 1, 0, none⟩ rfl rfl _ _ (load_opts _ _ _ q2) (load_err _ _ _ q3), q4, .inl ⟨v2, n2, cap2, os, HOS.out, rfl, q5⟩⟩
    · have hjE := hj.put (lp .exhausted (some .ret))
      have HEND : Hid (W2.heap[w.heap.size + 4 + 1]? = some (.loop (lp .done (some .ret)))) := hj.rec_
      refine ⟨some .ret, _, range_left HLP.out HEND.out, ?_⟩
      obtain ⟨W3, hW3⟩ : ∃ W3, W2.putObj (w.heap.size + 4 + 1) (.loop (lp .exhausted (some .ret))) = W3 := ⟨_, rfl⟩
      have hjE' : JX w (lp .exhausted (some .ret)) W3 := by rw [← hW3]; exact hjE
      rw [hW3]
      have HJE := Lib.hid hjE'
      have HNO := Lib.hid hno
      clear hjE hjE' hj hW3 hno
      gi_wp2
      obtain ⟨q2, q3, q4⟩ := HJE.out.fin
      refine ⟨by simp, .inl ⟨_, _, rfl, run_takeDeferred HJE.out.dfr, ?_⟩⟩
      exact ⟨_, res_two Try.results25 _ _ ⟨w.heap.size, 0, none⟩ ⟨w.heap.size + 1, 0, none⟩ rfl rfl _ _ (load_opts _ _ _ q2) (load_err _ _ _ q3), q4, .inr ⟨HNO.out, rfl⟩⟩
end Go.Proofs.Ytjnbnjdajkhkpaa

/-
  The contract of a queue's Head. Conditions: a queue.
-/
import Derived.Test.YtpigpeehhadkjaaFiEach
namespace Go.Proofs.Ytpigpeehhadkjaa
open Go.RowKit Go.Shelf
attribute [local go_sem] Oper.semAt_some

theorem Kept.putObj (W : World) (l : Nat) (o : Obj) : Kept (fun k => k = l) W (W.putObj l o) := ⟨rfl, rfl, rfl, by simp, fun _ _ hn => World.putObj_heap_other hn⟩
theorem cell_of_one {w : World} {b : Nat} {v : Value} {t : TypeId} (h : w.heap[b]? = some (.cells #[v] t (0, 0))) : w.cell? ⟨b, 0, none⟩ = some v := by rw [cell_of_row w b 0 _ _ (0, 0) h]; rfl
theorem free_of_one {w : World} {b : Nat} {v : Value} {t : TypeId} (h : w.heap[b]? = some (.cells #[v] t (0, 0))) : w.frozen? ⟨b, 0, none⟩ = false := frozen_of_row w b 0 _ _ h
theorem one_setCell {w : World} {b : Nat} {u v : Value} {t : TypeId} (h : w.heap[b]? = some (.cells #[u] t (0, 0))) : (w.setCell ⟨b, 0, none⟩ v).heap[b]? = some (.cells #[v] t (0, 0)) := by rw [heap_setCell_same w b 0 _ _ _ h]; rfl

/-- Between two rounds: the two results, the loop's record, the block of deferred calls, and all that was there is as it was. -/
structure JH (w : World) (lp : Loop) (y : Pi) (b : Bool) (W : World) : Prop where
  r2 : W.heap[w.heap.size]? = some (.cells y.cs.toArray 40 (0, 0))
  r3 : W.heap[w.heap.size + 1]? = some (.cells #[.bool b] 4 (0, 0))
  dfr : W.heap[w.heap.size + 2]? = some (.deferred (some []))
  rec_ : W.heap[w.heap.size + 3]? = some (.loop lp)
  below : Below w.heap.size w W
section
variable {w W W' : World} {lp : Loop} {y : Pi} {b : Bool}
theorem JH.size (h : JH w lp y b W) : w.heap.size + 4 ≤ W.heap.size := by
  have := (Array.getElem?_eq_some_iff.1 h.rec_).1; omega
theorem JH.step (h : JH w lp y b W) (hb : Below W.heap.size W W') : JH w lp y b W' := by
  have hs := h.size
  exact ⟨(hb.block _ (by omega)).trans h.r2, (hb.block _ (by omega)).trans h.r3, (hb.block _ (by omega)).trans h.dfr, (hb.block _ (by omega)).trans h.rec_, h.below.trans (hb.mono (by omega))⟩
theorem JH.put (h : JH w lp y b W) (lp' : Loop) : JH w lp' y b (W.putObj (w.heap.size + 3) (.loop lp')) := by
  have hs := h.size
  exact ⟨(World.putObj_heap_other (by omega)).trans h.r2, (World.putObj_heap_other (by omega)).trans h.r3, (World.putObj_heap_other (by omega)).trans h.dfr, World.putObj_heap_same (by omega), h.below.trans ((Kept.putObj W _ _).below h.below.size (fun k e => by omega))⟩
theorem JH.set (h : JH w lp y b W) (x : Pi) (c : Bool) :
    JH w lp x c ((((W.setCell ⟨w.heap.size, 0, none⟩ (.int .u64 x.no)).setCell ⟨w.heap.size, 1, none⟩ (.int .i64 x.sz)).setCell ⟨w.heap.size, 2, none⟩ (.slice x.a x.n x.c)).setCell ⟨w.heap.size + 1, 0, none⟩ (.bool c)) := by
  have hs := h.size
  have e1 : ∀ i, i ≠ w.heap.size → i ≠ w.heap.size + 1 → ((((W.setCell ⟨w.heap.size, 0, none⟩ (.int .u64 x.no)).setCell ⟨w.heap.size, 1, none⟩ (.int .i64 x.sz)).setCell ⟨w.heap.size, 2, none⟩ (.slice x.a x.n x.c)).setCell ⟨w.heap.size + 1, 0, none⟩ (.bool c)).heap[i]? = W.heap[i]? := fun i h1 h2 => by
    rw [Below.heap_setCell _ _ _ _ (by simpa using h2), Below.heap_setCell _ _ _ _ (by simpa using h1), Below.heap_setCell _ _ _ _ (by simpa using h1), Below.heap_setCell _ _ _ _ (by simpa using h1)]
  refine ⟨?_, ?_, (e1 _ (by omega) (by omega)).trans h.dfr, (e1 _ (by omega) (by omega)).trans h.rec_, ?_⟩
  · rw [Below.heap_setCell _ _ _ _ (by simp)]
    rw [heap_setCell_same _ _ 2 _ _ _ (heap_setCell_same _ _ 1 _ _ _ (heap_setCell_same W _ 0 _ _ _ h.r2))]
    rfl
  · refine one_setCell (u := .bool b) ?_
    rw [Below.heap_setCell _ _ _ _ (by simp), Below.heap_setCell _ _ _ _ (by simp), Below.heap_setCell _ _ _ _ (by simp)]
    exact h.r3
  · exact (((h.below.setCell (p := ⟨w.heap.size, 0, none⟩) (Nat.le_refl _) _).setCell (p := ⟨w.heap.size, 1, none⟩) (Nat.le_refl _) _).setCell (p := ⟨w.heap.size, 2, none⟩) (Nat.le_refl _) _).setCell (p := ⟨w.heap.size + 1, 0, none⟩) (by show w.heap.size ≤ w.heap.size + 1; omega) _
theorem JH.kept (h : JH w lp y b W) (x : Pi) (c : Bool) : Kept (fun k => k = w.heap.size ∨ k = w.heap.size + 1) W ((((W.setCell ⟨w.heap.size, 0, none⟩ (.int .u64 x.no)).setCell ⟨w.heap.size, 1, none⟩ (.int .i64 x.sz)).setCell ⟨w.heap.size, 2, none⟩ (.slice x.a x.n x.c)).setCell ⟨w.heap.size + 1, 0, none⟩ (.bool c)) := by
  have _ := h
  exact (((Kept.setCell _ _ _ (.inl rfl)).trans (Kept.setCell (S := fun k => k = w.heap.size ∨ k = w.heap.size + 1) _ _ _ (.inl rfl)) (fun _ _ h => h)).trans (Kept.setCell (S := fun k => k = w.heap.size ∨ k = w.heap.size + 1) _ _ _ (.inl rfl)) (fun _ _ h => h)).trans (Kept.setCell (S := fun k => k = w.heap.size ∨ k = w.heap.size + 1) _ _ _ (.inr rfl)) (fun _ _ h => h)
end
theorem load_item (w : World) (b : Nat) (x : Pi) (h : w.heap[b]? = some (.cells x.cs.toArray 40 (0, 0))) : (loadVar 40 ⟨b, 0, none⟩).run Try.prog w = .ok x.v w :=
  run_loadVar_mid w b 0 40 x.cs _ (fun j v hv => by rw [cell_of_row w b (0 + j) _ _ (0, 0) h]; simpa using hv) Try.underlying40 rfl infI3
theorem load_bool (w : World) (a : Addr) (v : Value) (h : w.cell? a = some v) : (loadVar 4 a).run Try.prog w = .ok v w := by
  have ht := Try.underlying4
  go_simp
theorem res_two {P : Program} {fn : Func} {p q : Tmp} {t u : TypeId} (h : fn.results = #[.cell p t, .cell q u]) (tmps : Array Value) (w : World) (a b : Addr) (hp : tmps.getD p undef = .pointer (some a)) (hq : tmps.getD q undef = .pointer (some b)) (x y : Value)
    (h1 : (loadVar t a).run P w = .ok x w) (h2 : (loadVar u b).run P w = .ok y w) : (results fn tmps).run P w = .ok (.tuple #[x, y]) w := by
  have hp' : tmps[p]?.getD undef = .pointer (some a) := by simpa using hp
  have hq' : tmps[q]?.getD undef = .pointer (some b) := by simpa using hq
  simp [results, h, hp', hq', asAddr, h1, h2]
/-- The iterator gives these items, in whatever world above this one. -/
def Gvs (p : Value) (L : List Pi) (w : World) : Prop := ∀ (m l : Nat) (J : Nat → World → Prop) (Jx : World → Prop), (∀ k W W', J k W → Below W.heap.size W W' → J k W') → (∀ k W, J k W → Below w.heap.size w W) →
  (∀ k x W, J k W → L[k]? = some x → YieldAt Fence.wide (m - 1) Try.prog l #[.func (.func 63) #[x.v] #[]] W fun e W' => (e = .returned (.bool true) ∧ J (k + 1) W') ∨ (e = .returned (.bool false) ∧ Jx W')) →
  ∀ W, J 0 W → CallsIn Fence.wide m Try.prog 50 #[p, .func (.yield l) #[] #[]] W fun e W' => (∃ v, e = .returned v) ∧ (J L.length W' ∨ Jx W')
theorem gvs_queue {B g : Nat} {q : Qs} {w : World} (h : Qu w B g q) : Gvs (.pointer (some ⟨g, 0, none⟩)) q.L w := fun m l J Jx hJ hJw hY W h0 => each_in m l B g q J Jx hJ (fun k W hj => h.below (hJw k W hj)) hY W h0
theorem gvs_nil (w : World) : Gvs (.pointer none) [] w := fun m l J Jx _ _ _ W h0 => by
  have H0 := Lib.hid h0
  clear h0
  refine callsIn_of_wp Try.func50 rfl trivial ?_ rfl
  simp only [Try.ntmps50, List.size_toArray, List.length_cons, List.length_nil, Nat.reduceAdd, Nat.reduceSub, Array.replicate_succ, Array.replicate_zero, List.push_toArray, List.append_toArray, List.nil_append, List.cons_append]
  gi_wp2
  refine ⟨trivial, fun h => by simp [Fence.wide] at h, (callsIn_wide.2 (fLen_nil _)).mono ?_⟩
  rintro e w1 ⟨rfl, hw1⟩
  subst hw1
  gi_wp2
  gi_loopw [7] (fun s wr => s = .int .i64 0 ∧ Hid (J 0 wr)) (fun _ _ => 0)
  case atStart => exact ⟨rfl, H0.out⟩
  case round =>
    obtain ⟨rfl, hj⟩ := hrel
    gi_wp2
    go_end0
    exact ⟨⟨_, rfl⟩, .inl hj.out⟩
/-- What Head answers. -/
def HeadR (w : World) (L : List Pi) (e : Ending) (w' : World) : Prop :=
  Below w.heap.size w w' ∧ ((L = [] ∧ e = .returned (.tuple #[pz.v, .bool false])) ∨ ∃ x l y, L = x :: l ∧ e = .returned (.tuple #[y.v, .bool true]) ∧ Twin w.heap.size x y w')

set_option maxRecDepth 100000 in
set_option maxHeartbeats 2000000 in
theorem fHead_gvs (p : Value) (L : List Pi) (w : World) (hG : Gvs p L w) (hx : ∀ x ∈ L, x.at_ w) : Calls Try.prog 68 #[p] w (HeadR w L) := by
  have HG := Lib.hid hG
  have HXS := Lib.hid hx
  clear hG hx
  refine (callsIn_wide (n := 5)).1 ?_
  refine callsIn_of_wp_marks Try.func68 rfl trivial ?_ rfl
  simp only [Try.ntmps68, List.size_toArray, List.length_cons, List.length_nil, Nat.reduceAdd, Nat.reduceSub, Array.replicate_succ, Array.replicate_zero, List.push_toArray, List.append_toArray, List.nil_append, List.cons_append]
  have hmf : ∀ (fn : Fn) (first cap : Array Value) (w : World), (Instr.makeFunc fn first cap).run Try.prog w = .ok (.func fn first cap) w := fun _ _ _ _ => rfl
  gi_wp2
  obtain ⟨w4, hw4⟩ : ∃ x, ((w.alloc (.cells #[.int .u64 0, .int .i64 0, .slice none 0 0] 40)).alloc (.cells #[.bool false] 4)) = x := ⟨_, rfl⟩
  have hs4 : w4.heap.size = w.heap.size + 2 := by rw [← hw4]; simp
  have hb4 : Below w.heap.size w w4 := by rw [← hw4]; exact ((Below.refl _ _).alloc (Nat.le_refl _) _).alloc (by simp) _
  have r2 : w4.heap[w.heap.size]? = some (.cells pz.cs.toArray 40 (0, 0)) := by
    rw [← hw4, Below.heap_alloc _ _ _ (by simp)]; exact Blk_new w _ _
  have r3 : w4.heap[w.heap.size + 1]? = some (.cells #[.bool false] 4 (0, 0)) := by
    rw [← hw4]
    have := Blk_new (w.alloc (.cells #[.int .u64 0, .int .i64 0, .slice none 0 0] 40)) #[.bool false] 4
    simpa using this
  rw [hw4]
  refine range_enterF (F := Fence.wide) (gf := 50) (p := p) (fun _ => trivial) (by rfl) (by omega) (by rfl) (enters_of Try.func50 (by kernel_rfl) rfl) (fun fn lp W1 hlp hW1 => ?_)
  rw [hs4] at hlp ⊢
  have HJ0 : Hid (JH w (lp .ready none) pz false W1) := by
    have hb1 : Below w4.heap.size w4 W1 := by rw [hW1]; exact ((Below.refl _ _).alloc (Nat.le_refl _) _).alloc (by simp) _
    refine ⟨(hb1.block _ (by omega)).trans r2, (hb1.block _ (by omega)).trans r3, ?_, ?_, hb4.trans (hb1.mono (by omega))⟩
    · rw [hW1, Below.heap_alloc _ _ _ (by simp; omega)]
      have := World.alloc_heap_new w4 (.deferred (some []))
      rwa [hs4] at this
    · rw [hW1]
      have := World.alloc_heap_new (w4.alloc (.deferred (some []))) (.loop (lp .ready none))
      rwa [World.size_alloc, hs4] at this
  have HLP := Lib.hid hlp
  clear hlp hW1 hw4 r2 r3 hb4 hs4
  refine (HG.out 4 (w.heap.size + 2 + 1) (fun k W => k = 0 ∧ JH w (lp .ready none) pz false W) (fun W => ∃ x y, L[0]? = some x ∧ JH w (lp .done (some .ret)) y true W ∧ Twin (w.heap.size + 4) x y W)
    (fun k W W' h hb => ⟨h.1, h.2.step hb⟩) (fun k W h => h.2.below) ?hY W1 ⟨rfl, HJ0.out⟩).mono ?_
  case hY =>
    rintro k x W ⟨rfl, hj⟩ hx
    have HXK := Lib.hid hx
    have HREC := Lib.hid hj.rec_
    have hjB := hj.put (lp .busy none)
    have hxB : x.at_ (W.putObj (w.heap.size + 3) (.loop (lp .busy none))) := (HXS.out x (List.mem_of_getElem? hx)).below hjB.below
    obtain ⟨WB, hWB⟩ : ∃ WB, W.putObj (w.heap.size + 3) (.loop (lp .busy none)) = WB := ⟨_, rfl⟩
    rw [hWB] at hjB hxB
    have HJB := Lib.hid hjB
    have HXB := Lib.hid hxB
    have HWB := Lib.hid hWB
    clear hjB hxB hWB hj hx
    refine range_round HLP.out HREC.out rfl ?_
    gi_wp2
    refine ⟨HREC.out, ?_⟩
    rw [HWB.out]
    gi_wp2
    have hC : CallsIn (Fence.wide.inRound (w.heap.size + 2 + 1)) 2 Try.prog 63 #[x.v] WB (fun e w' => ∃ y : Pi, e = .returned y.v ∧ Twin WB.heap.size x y w' ∧ Below WB.heap.size WB w') := callsIn_wide.2 (copied_any x WB HXB.out)
    refine ⟨trivial, hC.mono ?_⟩
    rintro e W3 ⟨y, rfl, hty, hby⟩
    have hj3 := HJB.out.step hby
    have hs3 := HJB.out.size
    have HT : Hid (Twin (w.heap.size + 4) x y W3) := ⟨hty.no, hty.sz, hty.d, hty.own.mono hs3⟩
    have d0 : W3.cell? ⟨w.heap.size, 0, none⟩ = some (.int .u64 0) := by rw [cell_of_row W3 _ 0 _ _ (0, 0) hj3.r2]; rfl
    have d1 : W3.cell? ⟨w.heap.size, 1, none⟩ = some (.int .i64 0) := by rw [cell_of_row W3 _ 1 _ _ (0, 0) hj3.r2]; rfl
    have d2 : W3.cell? ⟨w.heap.size, 2, none⟩ = some (.slice none 0 0) := by rw [cell_of_row W3 _ 2 _ _ (0, 0) hj3.r2]; rfl
    have g0 : W3.frozen? ⟨w.heap.size, 0, none⟩ = false := frozen_of_row W3 _ 0 _ _ hj3.r2
    have g1 : W3.frozen? ⟨w.heap.size, 1, none⟩ = false := frozen_of_row W3 _ 1 _ _ hj3.r2
    have g2 : W3.frozen? ⟨w.heap.size, 2, none⟩ = false := frozen_of_row W3 _ 2 _ _ hj3.r2
    have b0 := cell_of_one hj3.r3
    have b1 := free_of_one hj3.r3
    have HJ3 := Lib.hid hj3
    clear hC hty hby hj3 hs3
    obtain ⟨no, sz, ya, yn, yc, yd⟩ := y
    rw [show (Pi.v ⟨no, sz, ya, yn, yc, yd⟩) = .agg #[.int .u64 no, .int .i64 sz, .slice ya yn yc] from rfl]
    gi_wp2
    have hset := HJ3.out.set ⟨no, sz, ya, yn, yc, yd⟩ true
    have hks := HJ3.out.kept ⟨no, sz, ya, yn, yc, yd⟩ true
    simp only at hset hks
    obtain ⟨W5, hW5⟩ : ∃ z, (((W3.setCell ⟨w.heap.size, 0, none⟩ (.int .u64 no)).setCell ⟨w.heap.size, 1, none⟩ (.int .i64 sz)).setCell ⟨w.heap.size, 2, none⟩ (.slice ya yn yc)).setCell ⟨w.heap.size + 1, 0, none⟩ (.bool true) = z := ⟨_, rfl⟩
    rw [hW5] at hset hks ⊢
    refine round_ret HLP.out hset.rec_ ?_
    refine ⟨rfl, x, HXK.out, ⟨no, sz, ya, yn, yc, yd⟩, hset.put _, ⟨HT.out.no, HT.out.sz, HT.out.d, ?_⟩⟩
    exact (HT.out.own.keep hks (fun k hk e => by have := (HT.out.own.blk_ge k hk).1; omega)).keep (Kept.putObj _ _ _) (fun k hk e => by have := (HT.out.own.blk_ge k hk).1; omega)
  · rintro e W2 ⟨⟨v, rfl⟩, ⟨hlen, hj⟩ | ⟨x, y, hx, hj, ht⟩⟩
    · have hjE := hj.put (lp .exhausted none)
      have HEND : Hid (W2.heap[w.heap.size + 2 + 1]? = some (.loop (lp .ready none))) := hj.rec_
      refine ⟨none, _, range_done HLP.out HEND.out, ?_⟩
      obtain ⟨W3, hW3⟩ : ∃ W3, W2.putObj (w.heap.size + 2 + 1) (.loop (lp .exhausted none)) = W3 := ⟨_, rfl⟩
      have hjE' : JH w (lp .exhausted none) pz false W3 := by rw [← hW3]; exact hjE
      rw [hW3]
      have HLE : Hid (L = []) := List.eq_nil_of_length_eq_zero hlen
      have d0 : W3.cell? ⟨w.heap.size, 0, none⟩ = some (.int .u64 0) := by rw [cell_of_row W3 _ 0 _ _ (0, 0) hjE'.r2]; rfl
      have d1 : W3.cell? ⟨w.heap.size, 1, none⟩ = some (.int .i64 0) := by rw [cell_of_row W3 _ 1 _ _ (0, 0) hjE'.r2]; rfl
      have d2 : W3.cell? ⟨w.heap.size, 2, none⟩ = some (.slice none 0 0) := by rw [cell_of_row W3 _ 2 _ _ (0, 0) hjE'.r2]; rfl
      have g0 : W3.frozen? ⟨w.heap.size, 0, none⟩ = false := frozen_of_row W3 _ 0 _ _ hjE'.r2
      have g1 : W3.frozen? ⟨w.heap.size, 1, none⟩ = false := frozen_of_row W3 _ 1 _ _ hjE'.r2
      have g2 : W3.frozen? ⟨w.heap.size, 2, none⟩ = false := frozen_of_row W3 _ 2 _ _ hjE'.r2
      have b0 := cell_of_one hjE'.r3
      have b1 := free_of_one hjE'.r3
      have HJE := Lib.hid hjE'
      clear hjE hjE' hj hW3 hlen
      gi_wp2
      have hset := HJE.out.set pz false
      simp only [pz] at hset
      obtain ⟨We, hWe⟩ : ∃ z, (((W3.setCell ⟨w.heap.size, 0, none⟩ (.int .u64 0)).setCell ⟨w.heap.size, 1, none⟩ (.int .i64 0)).setCell ⟨w.heap.size, 2, none⟩ (.slice none 0 0)).setCell ⟨w.heap.size + 1, 0, none⟩ (.bool false) = z := ⟨_, rfl⟩
      rw [hWe] at hset
      rw [hWe]
      have hse := hset.size
      refine ⟨by simp, .inl ⟨_, _, rfl, run_takeDeferred hset.dfr, ?_⟩⟩
      exact ⟨_, res_two Try.results68 _ _ ⟨w.heap.size, 0, none⟩ ⟨w.heap.size + 1, 0, none⟩ rfl rfl _ _ (load_item _ _ pz ((World.putObj_heap_other (by omega)).trans hset.r2)) (load_bool _ _ (.bool false) (cell_of_one ((World.putObj_heap_other (by omega)).trans hset.r3))),
        hset.below.trans ((Kept.putObj We _ _).below hset.below.size (fun k e => by omega)), .inl ⟨HLE.out, rfl⟩⟩
    · have hjE := hj.put (lp .exhausted (some .ret))
      have HEND : Hid (W2.heap[w.heap.size + 2 + 1]? = some (.loop (lp .done (some .ret)))) := hj.rec_
      refine ⟨some .ret, _, range_left HLP.out HEND.out, ?_⟩
      have hkW : Kept (fun k => k = w.heap.size + 3) W2 (W2.putObj (w.heap.size + 2 + 1) (.loop (lp .exhausted (some .ret)))) := Kept.putObj _ _ _
      obtain ⟨W3, hW3⟩ : ∃ W3, W2.putObj (w.heap.size + 2 + 1) (.loop (lp .exhausted (some .ret))) = W3 := ⟨_, rfl⟩
      have hjE' : JH w (lp .exhausted (some .ret)) y true W3 := by rw [← hW3]; exact hjE
      rw [hW3] at hkW ⊢
      have HT : Hid (Twin (w.heap.size + 4) x y W3) := ⟨ht.no, ht.sz, ht.d, ht.own.keep hkW (fun k hk e => by have := (ht.own.blk_ge k hk).1; omega)⟩
      have HJE := Lib.hid hjE'
      have HXK := Lib.hid hx
      clear hjE hjE' hj hW3 hx ht hkW
      gi_wp2
      have hse := HJE.out.size
      refine ⟨by simp, .inl ⟨_, _, rfl, run_takeDeferred HJE.out.dfr, ?_⟩⟩
      refine ⟨_, res_two Try.results68 _ _ ⟨w.heap.size, 0, none⟩ ⟨w.heap.size + 1, 0, none⟩ rfl rfl _ _ (load_item _ _ y ((World.putObj_heap_other (by omega)).trans HJE.out.r2)) (load_bool _ _ (.bool true) (cell_of_one ((World.putObj_heap_other (by omega)).trans HJE.out.r3))),
        HJE.out.below.trans ((Kept.putObj W3 _ _).below HJE.out.below.size (fun k e => by omega)), .inr ⟨x, L.tail, y, ?_, rfl, ⟨HT.out.no, HT.out.sz, HT.out.d, (HT.out.own.mono (by omega)).keep (Kept.putObj _ _ _) (fun k hk e => by have := (HT.out.own.blk_ge k hk).1; omega)⟩⟩⟩
      have h1 := HXK.out
      cases hL : L with
      | nil => rw [hL] at h1; simp at h1
      | cons z l => rw [hL] at h1; simp at h1; rw [h1]; rfl
theorem fHead_any (B g : Nat) (q : Qs) (w : World) (h : Qu w B g q) : Calls Try.prog 68 #[.pointer (some ⟨g, 0, none⟩)] w (HeadR w q.L) := fHead_gvs _ _ w (gvs_queue h) (fun _ hx => h.x hx)
theorem fHead_nil (w : World) : Calls Try.prog 68 #[.pointer none] w (HeadR w []) := fHead_gvs _ _ w (gvs_nil w) (fun _ hx => by cases hx)
end Go.Proofs.Ytpigpeehhadkjaa

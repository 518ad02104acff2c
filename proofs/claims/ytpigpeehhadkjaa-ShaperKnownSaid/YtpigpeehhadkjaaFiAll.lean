/-
  The contract of a queue's All. Conditions: a queue. (Made by gen_fiall.py.)
-/
import Derived.Test.YtpigpeehhadkjaaFiAllM
namespace Go.Proofs.Ytpigpeehhadkjaa
open Go.RowKit Go.Shelf
attribute [local go_sem] Oper.semAt_some

set_option maxRecDepth 100000 in
set_option maxHeartbeats 4000000 in
theorem fAll_gvs (p : Value) (L : List Pi) (w : World) (hG : Gvs p L w) (hx : ∀ x ∈ L, x.at_ w) (hl : L.length ≤ 65536) : Calls Try.prog 39 #[p] w (AllR w L) := by
  have HG := Lib.hid hG
  have HXS := Lib.hid hx
  clear hG hx
  refine (callsIn_wide (n := 5)).1 ?_
  refine callsIn_of_wp_marks Try.func39 rfl trivial ?_ rfl
  simp only [Try.ntmps39, List.size_toArray, List.length_cons, List.length_nil, Nat.reduceAdd, Nat.reduceSub, Array.replicate_succ, Array.replicate_zero, List.push_toArray, List.append_toArray, List.nil_append, List.cons_append]
  have hmf : ∀ (fn : Fn) (first cap : Array Value) (w : World), (Instr.makeFunc fn first cap).run Try.prog w = .ok (.func fn first cap) w := fun _ _ _ _ => rfl
  gi_wp2
  obtain ⟨w4, hw4⟩ : ∃ x, (w.alloc (.cells #[.slice none 0 0] 49)) = x := ⟨_, rfl⟩
  have hs4 : w4.heap.size = w.heap.size + 1 := by rw [← hw4]; simp
  have hb4 : Below w.heap.size w w4 := by rw [← hw4]; exact (Below.refl _ _).alloc (Nat.le_refl _) _
  have r2 : w4.heap[w.heap.size]? = some (.cells #[.slice none 0 0] 49 (0, 0)) := by
    rw [← hw4]; exact Blk_new w _ _
  rw [hw4]
  refine range_enterF (F := Fence.wide) (gf := 50) (p := p) (fun _ => trivial) (by rfl) (by omega) (by rfl) (enters_of Try.func50 (by kernel_rfl) rfl) (fun fn lp W1 hlp hW1 => ?_)
  rw [hs4] at hlp ⊢
  have HJ0 : Hid (JA w (lp .ready none) [] W1) := by
    have hb1 : Below w4.heap.size w4 W1 := by rw [hW1]; exact ((Below.refl _ _).alloc (Nat.le_refl _) _).alloc (by simp) _
    refine ⟨⟨none, 0, 0, (hb1.block _ (by omega)).trans r2, Cps.nil _ _⟩, ?_, ?_, hb4.trans (hb1.mono (by omega))⟩
    · rw [hW1, Below.heap_alloc _ _ _ (by simp; omega)]
      have := World.alloc_heap_new w4 (.deferred (some []))
      rwa [hs4] at this
    · rw [hW1]
      have := World.alloc_heap_new (w4.alloc (.deferred (some []))) (.loop (lp .ready none))
      rwa [World.size_alloc, hs4] at this
  have HLP := Lib.hid hlp
  clear hlp hW1 hw4 r2 hb4 hs4
  refine (HG.out 4 (w.heap.size + 1 + 1) (fun k W => ∃ ys, JA w (lp .ready none) ys W ∧ ys.map Pi.it = (L.map Pi.it).take k) (fun _ => False)
    (fun k W W' h hb => by obtain ⟨ys, h1, h2⟩ := h; exact ⟨ys, h1.step hb, h2⟩) (fun k W h => by obtain ⟨ys, h1, _⟩ := h; exact h1.below) ?hY W1 ⟨[], HJ0.out, rfl⟩).mono ?_
  case hY =>
    rintro k x W ⟨ys, hj, hys⟩ hx
    have HXK := Lib.hid hx
    have HREC := Lib.hid hj.rec_
    have hjB := hj.put (lp .busy none)
    have hxB : x.at_ (W.putObj (w.heap.size + 2) (.loop (lp .busy none))) := (HXS.out x (List.mem_of_getElem? hx)).below hjB.below
    obtain ⟨WB, hWB⟩ : ∃ WB, W.putObj (w.heap.size + 2) (.loop (lp .busy none)) = WB := ⟨_, rfl⟩
    rw [hWB] at hjB hxB
    obtain ⟨v, n2, cap2, hv, hrow⟩ := hjB.box
    have hkL := (List.getElem?_eq_some_iff.1 hx).1
    have hn2 : n2 ≤ 65536 := by
      have h1 := congrArg List.length hys
      have h2 := hrow.len
      simp at h1
      omega
    have HN2 := Lib.hid hn2
    have HROW : Hid (WB.heap[w.heap.size]? = some (.cells #[.slice v n2 cap2] 49 (0, 0)) ∧ Cps WB (w.heap.size + 3) v n2 cap2 ys) := ⟨hv, hrow⟩
    have HYS := Lib.hid hys
    have HTK : Hid ((L.map Pi.it).take (k + 1) = (L.map Pi.it).take k ++ [x.it]) := by
      show _ = _
      rw [List.take_add_one, List.getElem?_map, hx]
      simp
    have HJB := Lib.hid hjB
    have HXB := Lib.hid hxB
    have HWB := Lib.hid hWB
    clear hjB hxB hWB hj hx hv hrow hys hkL hn2
    refine range_round HLP.out HREC.out rfl ?_
    gi_wp2
    refine ⟨HREC.out, ?_⟩
    rw [HWB.out]
    gi_wp2
    refine wpIn_region_any (by kernel_rfl) ?_
    have hbd : Below WB.heap.size WB WB.drew := (Below.refl _ _).drew
    have H2 : Hid (JA w (lp .busy none) ys WB.drew ∧ x.at_ WB.drew ∧ (WB.drew.heap[w.heap.size]? = some (.cells #[.slice v n2 cap2] 49 (0, 0)) ∧ Cps WB.drew (w.heap.size + 3) v n2 cap2 ys)) :=
      ⟨HJB.out.step hbd, HXB.out.below hbd, HROW.out.1, HROW.out.2.keep (Kept.of_below (S := fun _ => False) hbd (fun i hi hi' => by omega)) (fun _ e => e.elim)⟩
    obtain ⟨WD, hWD⟩ : ∃ z, WB.drew = z := ⟨_, rfl⟩
    change wpAnyIn _ _ _ _ _ _ _ _ _ WB.drew
    rw [hWD]
    rw [hWD] at H2
    clear HJB HXB HROW HWB hbd hWD
    have HJB := Lib.hid H2.out.1
    have HXB := Lib.hid H2.out.2.1
    have HROW := Lib.hid H2.out.2.2
    clear H2
    try simp only [Act.put, List.setIfInBounds_toArray, List.set_cons_zero, List.set_cons_succ]
    refine wpAnyIn_ready (rs := [0, 1]) (by kernel_rfl) (by simp) (AllReadyIn.cons rfl (fun K hK => ?_) (AllReadyIn.cons rfl (fun K hK => ?_) AllReadyIn.nil))
    · have cL : WD.cell? ⟨w.heap.size, 0, none⟩ = some (.slice v n2 cap2) := cell_of_one HROW.out.1
      rw [if_pos (by rfl)]
      go_simp
      refine hK _ _ ?_
      clear hK K
      clear cL
      try simp only [Act.put, List.setIfInBounds_toArray, List.set_cons_zero, List.set_cons_succ]
      refine wpAnyIn_ready (rs := [1]) (by kernel_rfl) (by simp) (AllReadyIn.cons rfl (fun K hK => ?_) AllReadyIn.nil)
      rw [if_pos (by rfl)]
      go_simp
      refine hK _ _ ?_
      clear hK K
      try simp only [Act.put, List.setIfInBounds_toArray, List.set_cons_zero, List.set_cons_succ]
      refine wpAnyIn_ready (rs := [2]) (by kernel_rfl) (by simp) (AllReadyIn.cons rfl (fun K hK => ?_) AllReadyIn.nil)
      rw [if_pos (by rfl)]
      gi_wp2
      have hC : CallsIn (Fence.wide.inRound (w.heap.size + 1 + 1)) 2 Try.prog 63 #[x.v] WD (fun e w' => ∃ y : Pi, e = .returned y.v ∧ Twin WD.heap.size x y w' ∧ Below WD.heap.size WD w') := callsIn_wide.2 (copied_any x WD HXB.out)
      refine ⟨trivial, hC.mono ?_⟩
      rintro e W3 ⟨y, rfl, hty, hby⟩
      clear hC
      obtain ⟨no, sz, ya, yn, yc, yd⟩ := y
      rw [show (Pi.v ⟨no, sz, ya, yn, yc, yd⟩) = .agg #[.int .u64 no, .int .i64 sz, .slice ya yn yc] from rfl]
      have hjC := HJB.out.step hby
      have hv3 : W3.heap[w.heap.size]? = some (.cells #[.slice v n2 cap2] 49 (0, 0)) := (hby.block _ (by have := HJB.out.size; omega)).trans HROW.out.1
      have hrow3 : Cps W3 (w.heap.size + 3) v n2 cap2 ys := HROW.out.2.keep (Kept.of_below (S := fun _ => False) hby (fun i hi hi' => by omega)) (fun _ e => e.elim)
      obtain ⟨g', cap', w1, hrun, hown, hk, _⟩ := run_append_one W3 (w.heap.size + 3) 49 49 40 pz.v 3 40 infI Try.underlying49 rfl (by omega) hrow3.row (Pi.cs ⟨no, sz, ya, yn, yc, yd⟩) rfl (Pi.one _) (by have := hjC.size; omega) (by have := HN2.out; omega) (by have := HN2.out; omega)
      have hfr : ∀ o ∈ ys, ∀ k, blk o.a = some k → k < WD.heap.size := fun o ho k hk => (HROW.out.2.data o ho |>.blk_ge k hk).2
      obtain ⟨hjN, hv1⟩ := hjC.next ⟨no, sz, ya, yn, yc, yd⟩ hty.own HJB.out.size hfr hv3 hrow3 hown hk
      have HRUN : Hid ((Builtin.append_ #[49, 49] 49 #[.slice v n2 cap2, .slice (some ⟨W3.heap.size, 0, none⟩) 1 1]).run Try.prog (W3.alloc (.cells #[.int .u64 no, .int .i64 sz, .slice ya yn yc] 40)) = .ok (.slice (some ⟨g', 0, none⟩) (n2 + 1) cap') w1) := hrun
      have HJN := Lib.hid hjN
      have HV1 := Lib.hid hv1
      have HV3 := Lib.hid hv3
      have HTY : Hid (Pi.it ⟨no, sz, ya, yn, yc, yd⟩ = x.it) := by
        have h1 := hty.no
        have h2 := hty.sz
        have h3 := hty.d
        simp only at h1 h2 h3
        show Pi.it _ = _
        simp only [Pi.it, h1, h2, h3]
      clear hty hby hjC hv3 hrow3 hrun hown hk hfr hjN hv1
      refine hK _ _ ?_
      clear hK K
      try simp only [Act.put, List.setIfInBounds_toArray, List.set_cons_zero, List.set_cons_succ]
      refine wpAnyIn_ready (rs := [3]) (by kernel_rfl) (by simp) (AllReadyIn.cons rfl (fun K hK => ?_) AllReadyIn.nil)
      rw [if_pos (by rfl)]
      go_simp
      refine hK _ _ ?_
      clear hK K
      try simp only [Act.put, List.setIfInBounds_toArray, List.set_cons_zero, List.set_cons_succ]
      try simp only [Act.put, List.setIfInBounds_toArray, List.set_cons_zero, List.set_cons_succ]
      refine wpAnyIn_ready (rs := [4]) (by kernel_rfl) (by simp) (AllReadyIn.cons rfl (fun K hK => ?_) AllReadyIn.nil)
      rw [if_pos (by rfl)]
      refine wpIn_append_run (.tmp 8) (.tmp 11) _ _ rfl _ _ rfl rfl _ _ HRUN.out ?_
      refine hK _ _ ?_
      clear hK K
      try simp only [Act.put, List.setIfInBounds_toArray]
      refine wpAnyIn_ready (rs := [5]) (by kernel_rfl) (by simp) (AllReadyIn.cons rfl (fun K hK => ?_) AllReadyIn.nil)
      rw [if_pos (by rfl)]
      have cB1 := cell_of_one HV1.out
      have fB1 := free_of_one HV1.out
      go_simp
      refine hK _ _ ?_
      clear hK K
      refine wpAnyIn_done (by kernel_rfl) ?_ _
      clear cB1 fB1
      gi_wp2
      refine round_on HLP.out HJN.out.rec_ ?_
      exact ⟨rfl, _, HJN.out.put (lp .ready none), by rw [List.map_append, List.map_cons, List.map_nil, HTY.out, HYS.out, HTK.out]⟩
    · rw [if_pos (by rfl)]
      go_simp
      refine hK _ _ ?_
      clear hK K
      try simp only [Act.put, List.setIfInBounds_toArray, List.set_cons_zero, List.set_cons_succ]
      refine wpAnyIn_ready (rs := [0, 2]) (by kernel_rfl) (by simp) (AllReadyIn.cons rfl (fun K hK => ?_) (AllReadyIn.cons rfl (fun K hK => ?_) AllReadyIn.nil))
      · have cL : WD.cell? ⟨w.heap.size, 0, none⟩ = some (.slice v n2 cap2) := cell_of_one HROW.out.1
        rw [if_pos (by rfl)]
        go_simp
        refine hK _ _ ?_
        clear hK K
        clear cL
        try simp only [Act.put, List.setIfInBounds_toArray, List.set_cons_zero, List.set_cons_succ]
        refine wpAnyIn_ready (rs := [2]) (by kernel_rfl) (by simp) (AllReadyIn.cons rfl (fun K hK => ?_) AllReadyIn.nil)
        rw [if_pos (by rfl)]
        gi_wp2
        have hC : CallsIn (Fence.wide.inRound (w.heap.size + 1 + 1)) 2 Try.prog 63 #[x.v] WD (fun e w' => ∃ y : Pi, e = .returned y.v ∧ Twin WD.heap.size x y w' ∧ Below WD.heap.size WD w') := callsIn_wide.2 (copied_any x WD HXB.out)
        refine ⟨trivial, hC.mono ?_⟩
        rintro e W3 ⟨y, rfl, hty, hby⟩
        clear hC
        obtain ⟨no, sz, ya, yn, yc, yd⟩ := y
        rw [show (Pi.v ⟨no, sz, ya, yn, yc, yd⟩) = .agg #[.int .u64 no, .int .i64 sz, .slice ya yn yc] from rfl]
        have hjC := HJB.out.step hby
        have hv3 : W3.heap[w.heap.size]? = some (.cells #[.slice v n2 cap2] 49 (0, 0)) := (hby.block _ (by have := HJB.out.size; omega)).trans HROW.out.1
        have hrow3 : Cps W3 (w.heap.size + 3) v n2 cap2 ys := HROW.out.2.keep (Kept.of_below (S := fun _ => False) hby (fun i hi hi' => by omega)) (fun _ e => e.elim)
        obtain ⟨g', cap', w1, hrun, hown, hk, _⟩ := run_append_one W3 (w.heap.size + 3) 49 49 40 pz.v 3 40 infI Try.underlying49 rfl (by omega) hrow3.row (Pi.cs ⟨no, sz, ya, yn, yc, yd⟩) rfl (Pi.one _) (by have := hjC.size; omega) (by have := HN2.out; omega) (by have := HN2.out; omega)
        have hfr : ∀ o ∈ ys, ∀ k, blk o.a = some k → k < WD.heap.size := fun o ho k hk => (HROW.out.2.data o ho |>.blk_ge k hk).2
        obtain ⟨hjN, hv1⟩ := hjC.next ⟨no, sz, ya, yn, yc, yd⟩ hty.own HJB.out.size hfr hv3 hrow3 hown hk
        have HRUN : Hid ((Builtin.append_ #[49, 49] 49 #[.slice v n2 cap2, .slice (some ⟨W3.heap.size, 0, none⟩) 1 1]).run Try.prog (W3.alloc (.cells #[.int .u64 no, .int .i64 sz, .slice ya yn yc] 40)) = .ok (.slice (some ⟨g', 0, none⟩) (n2 + 1) cap') w1) := hrun
        have HJN := Lib.hid hjN
        have HV1 := Lib.hid hv1
        have HV3 := Lib.hid hv3
        have HTY : Hid (Pi.it ⟨no, sz, ya, yn, yc, yd⟩ = x.it) := by
          have h1 := hty.no
          have h2 := hty.sz
          have h3 := hty.d
          simp only at h1 h2 h3
          show Pi.it _ = _
          simp only [Pi.it, h1, h2, h3]
        clear hty hby hjC hv3 hrow3 hrun hown hk hfr hjN hv1
        refine hK _ _ ?_
        clear hK K
        try simp only [Act.put, List.setIfInBounds_toArray, List.set_cons_zero, List.set_cons_succ]
        refine wpAnyIn_ready (rs := [3]) (by kernel_rfl) (by simp) (AllReadyIn.cons rfl (fun K hK => ?_) AllReadyIn.nil)
        rw [if_pos (by rfl)]
        go_simp
        refine hK _ _ ?_
        clear hK K
        try simp only [Act.put, List.setIfInBounds_toArray, List.set_cons_zero, List.set_cons_succ]
        try simp only [Act.put, List.setIfInBounds_toArray, List.set_cons_zero, List.set_cons_succ]
        refine wpAnyIn_ready (rs := [4]) (by kernel_rfl) (by simp) (AllReadyIn.cons rfl (fun K hK => ?_) AllReadyIn.nil)
        rw [if_pos (by rfl)]
        refine wpIn_append_run (.tmp 8) (.tmp 11) _ _ rfl _ _ rfl rfl _ _ HRUN.out ?_
        refine hK _ _ ?_
        clear hK K
        try simp only [Act.put, List.setIfInBounds_toArray]
        refine wpAnyIn_ready (rs := [5]) (by kernel_rfl) (by simp) (AllReadyIn.cons rfl (fun K hK => ?_) AllReadyIn.nil)
        rw [if_pos (by rfl)]
        have cB1 := cell_of_one HV1.out
        have fB1 := free_of_one HV1.out
        go_simp
        refine hK _ _ ?_
        clear hK K
        refine wpAnyIn_done (by kernel_rfl) ?_ _
        clear cB1 fB1
        gi_wp2
        refine round_on HLP.out HJN.out.rec_ ?_
        exact ⟨rfl, _, HJN.out.put (lp .ready none), by rw [List.map_append, List.map_cons, List.map_nil, HTY.out, HYS.out, HTK.out]⟩
      · rw [if_pos (by rfl)]
        gi_wp2
        have hC : CallsIn (Fence.wide.inRound (w.heap.size + 1 + 1)) 2 Try.prog 63 #[x.v] WD (fun e w' => ∃ y : Pi, e = .returned y.v ∧ Twin WD.heap.size x y w' ∧ Below WD.heap.size WD w') := callsIn_wide.2 (copied_any x WD HXB.out)
        refine ⟨trivial, hC.mono ?_⟩
        rintro e W3 ⟨y, rfl, hty, hby⟩
        clear hC
        obtain ⟨no, sz, ya, yn, yc, yd⟩ := y
        rw [show (Pi.v ⟨no, sz, ya, yn, yc, yd⟩) = .agg #[.int .u64 no, .int .i64 sz, .slice ya yn yc] from rfl]
        have hjC := HJB.out.step hby
        have hv3 : W3.heap[w.heap.size]? = some (.cells #[.slice v n2 cap2] 49 (0, 0)) := (hby.block _ (by have := HJB.out.size; omega)).trans HROW.out.1
        have hrow3 : Cps W3 (w.heap.size + 3) v n2 cap2 ys := HROW.out.2.keep (Kept.of_below (S := fun _ => False) hby (fun i hi hi' => by omega)) (fun _ e => e.elim)
        obtain ⟨g', cap', w1, hrun, hown, hk, _⟩ := run_append_one W3 (w.heap.size + 3) 49 49 40 pz.v 3 40 infI Try.underlying49 rfl (by omega) hrow3.row (Pi.cs ⟨no, sz, ya, yn, yc, yd⟩) rfl (Pi.one _) (by have := hjC.size; omega) (by have := HN2.out; omega) (by have := HN2.out; omega)
        have hfr : ∀ o ∈ ys, ∀ k, blk o.a = some k → k < WD.heap.size := fun o ho k hk => (HROW.out.2.data o ho |>.blk_ge k hk).2
        obtain ⟨hjN, hv1⟩ := hjC.next ⟨no, sz, ya, yn, yc, yd⟩ hty.own HJB.out.size hfr hv3 hrow3 hown hk
        have HRUN : Hid ((Builtin.append_ #[49, 49] 49 #[.slice v n2 cap2, .slice (some ⟨W3.heap.size, 0, none⟩) 1 1]).run Try.prog (W3.alloc (.cells #[.int .u64 no, .int .i64 sz, .slice ya yn yc] 40)) = .ok (.slice (some ⟨g', 0, none⟩) (n2 + 1) cap') w1) := hrun
        have HJN := Lib.hid hjN
        have HV1 := Lib.hid hv1
        have HV3 := Lib.hid hv3
        have HTY : Hid (Pi.it ⟨no, sz, ya, yn, yc, yd⟩ = x.it) := by
          have h1 := hty.no
          have h2 := hty.sz
          have h3 := hty.d
          simp only at h1 h2 h3
          show Pi.it _ = _
          simp only [Pi.it, h1, h2, h3]
        clear hty hby hjC hv3 hrow3 hrun hown hk hfr hjN hv1
        refine hK _ _ ?_
        clear hK K
        try simp only [Act.put, List.setIfInBounds_toArray, List.set_cons_zero, List.set_cons_succ]
        refine wpAnyIn_ready (rs := [0, 3]) (by kernel_rfl) (by simp) (AllReadyIn.cons rfl (fun K hK => ?_) (AllReadyIn.cons rfl (fun K hK => ?_) AllReadyIn.nil))
        · have cL : W3.cell? ⟨w.heap.size, 0, none⟩ = some (.slice v n2 cap2) := cell_of_one HV3.out
          rw [if_pos (by rfl)]
          go_simp
          refine hK _ _ ?_
          clear hK K
          clear cL
          try simp only [Act.put, List.setIfInBounds_toArray, List.set_cons_zero, List.set_cons_succ]
          refine wpAnyIn_ready (rs := [3]) (by kernel_rfl) (by simp) (AllReadyIn.cons rfl (fun K hK => ?_) AllReadyIn.nil)
          rw [if_pos (by rfl)]
          go_simp
          refine hK _ _ ?_
          clear hK K
          try simp only [Act.put, List.setIfInBounds_toArray, List.set_cons_zero, List.set_cons_succ]
          try simp only [Act.put, List.setIfInBounds_toArray, List.set_cons_zero, List.set_cons_succ]
          refine wpAnyIn_ready (rs := [4]) (by kernel_rfl) (by simp) (AllReadyIn.cons rfl (fun K hK => ?_) AllReadyIn.nil)
          rw [if_pos (by rfl)]
          refine wpIn_append_run (.tmp 8) (.tmp 11) _ _ rfl _ _ rfl rfl _ _ HRUN.out ?_
          refine hK _ _ ?_
          clear hK K
          try simp only [Act.put, List.setIfInBounds_toArray]
          refine wpAnyIn_ready (rs := [5]) (by kernel_rfl) (by simp) (AllReadyIn.cons rfl (fun K hK => ?_) AllReadyIn.nil)
          rw [if_pos (by rfl)]
          have cB1 := cell_of_one HV1.out
          have fB1 := free_of_one HV1.out
          go_simp
          refine hK _ _ ?_
          clear hK K
          refine wpAnyIn_done (by kernel_rfl) ?_ _
          clear cB1 fB1
          gi_wp2
          refine round_on HLP.out HJN.out.rec_ ?_
          exact ⟨rfl, _, HJN.out.put (lp .ready none), by rw [List.map_append, List.map_cons, List.map_nil, HTY.out, HYS.out, HTK.out]⟩
        · rw [if_pos (by rfl)]
          go_simp
          refine hK _ _ ?_
          clear hK K
          try simp only [Act.put, List.setIfInBounds_toArray, List.set_cons_zero, List.set_cons_succ]
          try simp only [Act.put, List.setIfInBounds_toArray, List.set_cons_zero, List.set_cons_succ]
          refine wpAnyIn_ready (rs := [0]) (by kernel_rfl) (by simp) (AllReadyIn.cons rfl (fun K hK => ?_) AllReadyIn.nil)
          have cL : (W3.alloc (.cells #[.int .u64 no, .int .i64 sz, .slice ya yn yc] 40)).cell? ⟨w.heap.size, 0, none⟩ = some (.slice v n2 cap2) := by
            rw [World.cell?_alloc_some _ _ _ (by rw [cell_of_one HV3.out]; rfl)]; exact cell_of_one HV3.out
          rw [if_pos (by rfl)]
          go_simp
          refine hK _ _ ?_
          clear hK K
          clear cL
          try simp only [Act.put, List.setIfInBounds_toArray, List.set_cons_zero, List.set_cons_succ]
          refine wpAnyIn_ready (rs := [4]) (by kernel_rfl) (by simp) (AllReadyIn.cons rfl (fun K hK => ?_) AllReadyIn.nil)
          rw [if_pos (by rfl)]
          refine wpIn_append_run (.tmp 8) (.tmp 11) _ _ rfl _ _ rfl rfl _ _ HRUN.out ?_
          refine hK _ _ ?_
          clear hK K
          try simp only [Act.put, List.setIfInBounds_toArray]
          refine wpAnyIn_ready (rs := [5]) (by kernel_rfl) (by simp) (AllReadyIn.cons rfl (fun K hK => ?_) AllReadyIn.nil)
          rw [if_pos (by rfl)]
          have cB1 := cell_of_one HV1.out
          have fB1 := free_of_one HV1.out
          go_simp
          refine hK _ _ ?_
          clear hK K
          refine wpAnyIn_done (by kernel_rfl) ?_ _
          clear cB1 fB1
          gi_wp2
          refine round_on HLP.out HJN.out.rec_ ?_
          exact ⟨rfl, _, HJN.out.put (lp .ready none), by rw [List.map_append, List.map_cons, List.map_nil, HTY.out, HYS.out, HTK.out]⟩
  · rintro e W2 ⟨⟨v, rfl⟩, ⟨ys, hj, hys⟩ | hj⟩
    · have hjE := hj.put (lp .exhausted none)
      have HEND : Hid (W2.heap[w.heap.size + 1 + 1]? = some (.loop (lp .ready none))) := hj.rec_
      refine ⟨none, _, range_done HLP.out HEND.out, ?_⟩
      obtain ⟨W3, hW3⟩ : ∃ W3, W2.putObj (w.heap.size + 1 + 1) (.loop (lp .exhausted none)) = W3 := ⟨_, rfl⟩
      have hjE' : JA w (lp .exhausted none) ys W3 := by rw [← hW3]; exact hjE
      rw [hW3]
      obtain ⟨v2, n2, cap2, hv, hrow⟩ := hjE'.box
      have cB := cell_of_one hv
      have HYS : Hid (ys.map Pi.it = L.map Pi.it) := by
        show _ = _
        rw [hys, List.take_of_length_le (by simp)]
      have HJE := Lib.hid hjE'
      have HROW := Lib.hid hrow
      clear hjE hjE' hj hW3 hys hv hrow
      gi_wp2
      have hse := HJE.out.size
      refine ⟨by simp, .inl ⟨_, _, rfl, run_takeDeferred HJE.out.dfr, ?_⟩⟩
      have hk : Kept (fun k => k = w.heap.size + 1) W3 (W3.putObj (w.heap.size + 1) (.deferred none)) := Kept.putObj _ _ _
      exact ⟨_, results_tmp Try.results39 _ _ _, HJE.out.below.trans (hk.below HJE.out.below.size (fun k e => by omega)), v2, n2, cap2, ys, rfl, (HROW.out.keep hk (fun i e => by omega)).mono (by omega), HYS.out⟩
    · exact hj.elim
theorem fAll_any (B g : Nat) (q : Qs) (w : World) (h : Qu w B g q) : Calls Try.prog 39 #[.pointer (some ⟨g, 0, none⟩)] w (AllR w q.L) := fAll_gvs _ _ w (gvs_queue h) (fun _ hx => h.x hx) (by have h1 := h.ok.le; have h2 := h.ok.mI; have h3 := h.ok.I1; omega)
theorem fAll_nil (w : World) : Calls Try.prog 39 #[.pointer none] w (AllR w []) := fAll_gvs _ _ w (gvs_nil w) (fun _ hx => by cases hx) (by simp)
end Go.Proofs.Ytpigpeehhadkjaa

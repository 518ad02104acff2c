/-
  The statements' own reading of a chain. Conditions: a chain that lies in memory.
-/
import Derived.Test.YthipnkaghddbhaaSxCh
namespace Go.Proofs.Ythipnkaghddbhaa
open Go.RowKit

/-- What the statements' reading of a chain answers. -/
def DocC (w : World) (es : List (Int × List Int)) (p : Int) (e : Ending) (w' : World) : Prop :=
  Below w.heap.size w w' ∧ ∃ a n c, e = .returned (.agg #[.slice a n c, .int .u8 p]) ∧ OwnR w' w.heap.size a n c es
theorem cch_one (a : Option Addr) (n c : Nat) (p : Int) : ∀ v ∈ [Value.slice a n c, .int .u8 p], v.oneCell' = true := by intro v hv; simp at hv; rcases hv with rfl | rfl <;> rfl
theorem flat_snoc {α : Type} (f : α → List Value) (es : List α) (x : α) : (es ++ [x]).flatMap f = es.flatMap f ++ f x := by simp
set_option maxRecDepth 100000 in
set_option maxHeartbeats 4000000 in
theorem d6Chain_any (a : Option Addr) (n c : Nat) (es : List Ex) (p : Int) (w : World) (h : Ch w a n c es) (hn : n ≤ 20) :
    Calls Try.prog 18 #[.agg #[.slice a n c, .int .u8 p]] w (DocC w (es.map Ex.two) p) := by
  have HC := Lib.hid h
  have HL := Lib.hid h.len
  have hcn : n ≤ c := h.cap
  obtain ⟨wA, hwA⟩ : ∃ x, w.alloc (.cells #[.slice a n c, .int .u8 p] 46) = x := ⟨_, rfl⟩
  have hbA : Below w.heap.size w wA := by rw [← hwA]; exact (Below.refl _ _).alloc (Nat.le_refl _) _
  have hsA : wA.heap.size = w.heap.size + 1 := by rw [← hwA]; simp
  obtain ⟨wB, hwB⟩ : ∃ x, wA.alloc (.cells #[.slice none 0 0, .int .u8 0] 50) = x := ⟨_, rfl⟩
  have hbB : Below wA.heap.size wA wB := by rw [← hwB]; exact (Below.refl _ _).alloc (Nat.le_refl _) _
  have hsB : wB.heap.size = w.heap.size + 2 := by rw [← hwB]; simp [hsA]
  have hA0 : wA.cell? ⟨w.heap.size, 0, none⟩ = some (.slice a n c) := by rw [← hwA]; exact World.cell?_alloc_new _ _ _ _
  have hA1 : wA.cell? ⟨w.heap.size, 1, none⟩ = some (.int .u8 p) := by rw [← hwA]; exact World.cell?_alloc_new _ _ _ _
  have hB0 := cell_kept hbB hA0
  have hB1 := cell_kept hbB hA1
  have HTB : Hid (wB.there (w.heap.size + 1) 0 2) := by show World.there _ _ _ _; rw [← hwB]; exact there_new _ _ _ _ rfl _ hsA
  obtain ⟨wC, hwC⟩ : ∃ x, wB.alloc (.cells #[.slice none 0 0, .int .u8 p] 50) = x := ⟨_, rfl⟩
  have hbC : Below wB.heap.size wB wC := by rw [← hwC]; exact (Below.refl _ _).alloc (Nat.le_refl _) _
  have hsC : wC.heap.size = w.heap.size + 3 := by rw [← hwC]; simp [hsB]
  have HST0 : Hid (∃ am m d, Below (w.heap.size + 2) wC wC ∧ wC.heap[w.heap.size + 2]? = some (.cells #[.slice am m d, .int .u8 p] 50 (0, 0)) ∧ OwnR wC (w.heap.size + 3) am m d ((es.take 0).map Ex.two)) := by
    refine ⟨none, 0, 0, Below.refl _ _, ?_, OwnR.nil _ _⟩
    rw [← hwC, ← hsB]
    exact Blk_new wB _ _
  have HBC : Hid (Below w.heap.size w wC) := (hbA.trans (hbB.mono hbA.size)).trans (hbC.mono (by omega))
  have HC0 : Hid (wC.cell? ⟨w.heap.size, 0, none⟩ = some (.slice a n c)) := cell_kept hbC hB0
  have HTC : Hid (wC.there (w.heap.size + 1) 0 2) := there_kept hbC HTB.out
  have HWC := Lib.hid hwC
  have HSC := Lib.hid hsC
  clear h hbA hbB hbC hA0 hA1 hB0 hwC hsC HTB
  go_enter Try.func18, Try.ntmps18
  go_upto_region 2 with fail
  rw [HWC.out]
  clear hwA hwB hsA hsB hB1 HWC
  go_wp2_with fail
  go_loopw [4] (fun i wr => ∃ j : Nat, j ≤ n ∧ i = .int .i64 j ∧ Hid (∃ am m d, Below (w.heap.size + 2) wC wr ∧ wr.heap[w.heap.size + 2]? = some (.cells #[.slice am m d, .int .u8 p] 50 (0, 0)) ∧ OwnR wr (w.heap.size + 3) am m d ((es.take j).map Ex.two))) (fun i _ => n - (intOf i).toNat)
  case atStart => exact ⟨0, Nat.zero_le _, rfl, HST0.out⟩
  case round =>
    obtain ⟨j, hj, rfl, hst⟩ := hrel
    rename World => wr
    clear HST0
    obtain ⟨am, m, d, hb0, hblk, hown⟩ := hst.out
    have hbx : wr.cell? ⟨w.heap.size, 0, none⟩ = some (.slice a n c) := by
      have h1 : w.heap.size < w.heap.size + 2 := by omega
      rw [World.cell?_of_block (hb0.block w.heap.size h1)]; exact HC0.out
    have hbw : Below w.heap.size w wr := HBC.out.trans (hb0.mono (by omega))
    have HB0 := Lib.hid hb0
    have HBW := Lib.hid hbw
    have HBLK := Lib.hid hblk
    have HOWN := Lib.hid hown
    have HSZ : Hid (w.heap.size + 3 ≤ wr.heap.size) := by have h1 := hb0.size; have h2 := HSC.out; show _ ≤ _; omega
    clear hst hb0
    by_cases hlt : j < n
    · have hlt' : (j : Int) < (n : Int) := by omega
      obtain ⟨x, hx⟩ : ∃ x, es[j]? = some x := ⟨_, List.getElem?_eq_getElem (by rw [HL.out]; exact hlt)⟩
      obtain ⟨b, o, rfl, hbl, hcl⟩ := HC.out.nth hx
      have HCL := Lib.hid hcl
      have hm : m = j := by have h1 := hown.len; rw [List.length_map, List.length_take, HL.out] at h1; omega
      subst hm
      have HTK : Hid ((es.take (m + 1)).map Ex.two = (es.take m).map Ex.two ++ [(x.k, x.xs)]) := by show _ = _; rw [List.take_add_one, hx, List.map_append]; rfl
      have hq0 : wr.cell? ⟨w.heap.size + 2, 0, none⟩ = some (.slice am m d) := by rw [cell_of_row wr _ 0 _ _ (0, 0) hblk]; rfl
      obtain ⟨g, d', w7, hrun, hown7, hk7, hg7⟩ := run_append_one wr.drew (w.heap.size + 3) 48 48 87 (.agg #[.int .u8 0, .string ⟨#[]⟩]) 2 24 infRX Try.underlying48 rfl (by omega) (vs := ((es.take m).map Ex.two).flatMap rcs) hown.row (rcs (x.k, x.xs)) rfl (rcs_one _) HSZ.out (by omega) (by omega)
      have hrun' : (Builtin.append_ #[48, 48] 48 #[.slice am m d, .slice (some ⟨wr.heap.size, 0, none⟩) 1 1]).run Try.prog (wr.alloc (.cells #[.int .u8 x.k, .string (str x.xs)] 87)).drew = .ok (.slice (some ⟨g, 0, none⟩) (m + 1) d') w7 := hrun
      have hne : ∀ q, blk am = some q → w.heap.size + 3 ≤ q := fun q e => (hown.row.blk_ge q e).1
      have hblk7 : w7.heap[w.heap.size + 2]? = some (.cells #[.slice am m d, .int .u8 p] 50 (0, 0)) := hk7.heap hblk (fun e => by have := hne _ e; omega)
      have hq7 : w7.cell? ⟨w.heap.size + 2, 0, none⟩ = some (.slice am m d) := by rw [cell_of_row w7 _ 0 _ _ (0, 0) hblk7]; rfl
      have hf7 : w7.frozen? ⟨w.heap.size + 2, 0, none⟩ = false := frozen_of_row w7 _ 0 _ _ hblk7
      have hgl : w.heap.size + 3 ≤ g := by
        rcases hown7.cases with ⟨e, _⟩ | ⟨g2, _, e, hg2, _⟩
        · cases e
        · simp only [Option.some.injEq, Addr.mk.injEq, and_true] at e; omega
      have HST : Hid (∃ am' m' d'', Below (w.heap.size + 2) wC (w7.setCell ⟨w.heap.size + 2, 0, none⟩ (.slice (some ⟨g, 0, none⟩) (m + 1) d')) ∧ (w7.setCell ⟨w.heap.size + 2, 0, none⟩ (.slice (some ⟨g, 0, none⟩) (m + 1) d')).heap[w.heap.size + 2]? = some (.cells #[.slice am' m' d'', .int .u8 p] 50 (0, 0)) ∧ OwnR (w7.setCell ⟨w.heap.size + 2, 0, none⟩ (.slice (some ⟨g, 0, none⟩) (m + 1) d')) (w.heap.size + 3) am' m' d'' ((es.take (m + 1)).map Ex.two)) := by
        refine ⟨some ⟨g, 0, none⟩, m + 1, d', ?_, ?_, ?_⟩
        · have h1 : Below (w.heap.size + 2) wC wr.drew := ⟨HB0.out.os, HB0.out.tape, HB0.out.output, HB0.out.size, HB0.out.block⟩
          have h2 : Below (w.heap.size + 2) wr.drew w7 := hk7.below (by have := HSZ.out; show _ ≤ wr.heap.size; omega) (fun q e => by have := hne q e; omega)
          exact (h1.trans h2).setCell (p := ⟨w.heap.size + 2, 0, none⟩) (Nat.le_refl _) _
        · exact heap_setCell_same w7 _ 0 _ _ _ hblk7
        · rw [HTK.out]
          refine ⟨by rw [List.length_append, HOWN.out.len]; rfl, ?_⟩
          rw [flat_snoc]
          exact hown7.keep (S := fun q => q = w.heap.size + 2) (Kept.setCell (S := fun q => q = w.heap.size + 2) w7 _ _ rfl) (fun q e k => by simp [blk] at e; omega)
      have hS0 : Below w.heap.size w wr.drew ∧ wr.drew.cell? ⟨w.heap.size, 0, none⟩ = some (.slice (some ⟨b, o, none⟩) n c) := ⟨⟨hbw.os, hbw.tape, hbw.output, hbw.size, hbw.block⟩, hbx⟩
      have hba : Below wr.heap.size wr (wr.drew.alloc (.cells #[.int .u8 x.k, .string (str x.xs)] 87)) := (to_drew wr).alloc (Nat.le_refl _) _
      have hS1 : Below w.heap.size w (wr.drew.alloc (.cells #[.int .u8 x.k, .string (str x.xs)] 87)) ∧ (wr.drew.alloc (.cells #[.int .u8 x.k, .string (str x.xs)] 87)).cell? ⟨w.heap.size, 0, none⟩ = some (.slice (some ⟨b, o, none⟩) n c) := ⟨hbw.trans (hba.mono hbw.size), cell_kept hba hbx⟩
      have hS7 : Below w.heap.size w w7 ∧ w7.cell? ⟨w.heap.size, 0, none⟩ = some (.slice (some ⟨b, o, none⟩) n c) := by
        refine ⟨hS0.1.trans (hk7.below (B := w.heap.size) hS0.1.size (fun q e => by have h1 := hne q e; omega)), ?_⟩
        rw [← hbx]
        exact World.cell?_of_block (hk7.block w.heap.size (by have h1 : w.heap.size + 3 ≤ wr.heap.size := HSZ.out; show w.heap.size < wr.heap.size; omega) (fun e => by have h1 := hne w.heap.size e; omega))
      have hS8 : Below w.heap.size w (w7.setCell ⟨w.heap.size + 2, 0, none⟩ (.slice (some ⟨g, 0, none⟩) (m + 1) d')) ∧ (w7.setCell ⟨w.heap.size + 2, 0, none⟩ (.slice (some ⟨g, 0, none⟩) (m + 1) d')).cell? ⟨w.heap.size, 0, none⟩ = some (.slice (some ⟨b, o, none⟩) n c) := by
        refine ⟨hS7.1.setCell (p := ⟨w.heap.size + 2, 0, none⟩) (Nat.le_add_right _ _) _, ?_⟩
        rw [← hS7.2]
        exact World.cell?_of_block (Below.heap_setCell w7 ⟨w.heap.size + 2, 0, none⟩ _ w.heap.size (fun e => by have e' : w.heap.size = w.heap.size + 2 := e; omega))
      have hqa : (wr.drew.alloc (.cells #[.int .u8 x.k, .string (str x.xs)] 87)).cell? ⟨w.heap.size + 2, 0, none⟩ = some (.slice am m d) := cell_kept hba hq0
      have hqb : (wr.alloc (.cells #[.int .u8 x.k, .string (str x.xs)] 87)).cell? ⟨w.heap.size + 2, 0, none⟩ = some (.slice am m d) := hqa
      have HSS := Lib.hid (And.intro hS1 (And.intro hS7 hS8))
      have HRUN := Lib.hid hrun'
      have HRUN2 : Hid ((Builtin.append_ #[48, 48] 48 #[.slice am m d, .slice (some ⟨wr.heap.size, 0, none⟩) 1 1]).run Try.prog (wr.drew.alloc (.cells #[.int .u8 x.k, .string (str x.xs)] 87)) = .ok (.slice (some ⟨g, 0, none⟩) (m + 1) d') w7) := hrun
      have HQ7 := Lib.hid (And.intro hq7 hf7)
      clear hrun hrun' hblk hown hcl hown7 hk7 hg7 hne hblk7 hgl hba hS1 hS7 hS8 hbw hx hbl hq7 hf7
      go_wp2_with fail
      refine wp_region_held_drew (S := fun w' => Below w.heap.size w w' ∧ w'.cell? ⟨w.heap.size, 0, none⟩ = some (.slice (some ⟨b, o, none⟩) n c)) (by kernel_rfl) hS0 (fun hS => ?_)
      refine tk 0 15 (.pointer (some ⟨w.heap.size + 2, 0, none⟩)) rfl rfl (by kernel_rfl) (by kernel_rfl) (by kernel_rfl) (fun _ _ _ h => h) (Or.inl ⟨by rfl, fun w' h' => ?_⟩) hS ?_
      · go_simp
      try simp only [Act.put, List.setIfInBounds_toArray, List.set_cons_zero, List.set_cons_succ]
      refine tk 2 17 (.pointer (some ⟨w.heap.size, 0, none⟩)) rfl rfl (by kernel_rfl) (by kernel_rfl) (by kernel_rfl) (fun _ _ _ h => h) (Or.inl ⟨by rfl, fun w' h' => ?_⟩) hS ?_
      · go_simp
      try simp only [Act.put, List.setIfInBounds_toArray, List.set_cons_zero, List.set_cons_succ]
      refine tk 3 18 (.slice (some ⟨b, o, none⟩) n c) rfl rfl (by kernel_rfl) (by kernel_rfl) (by kernel_rfl) (fun _ _ _ h => h) (Or.inl ⟨by rfl, fun w' h' => ?_⟩) hS ?_
      · have hc := h'.2
        go_simp
      try simp only [Act.put, List.setIfInBounds_toArray, List.set_cons_zero, List.set_cons_succ]
      refine tk 4 19 (.int .i64 (m : Int)) rfl rfl (by kernel_rfl) (by kernel_rfl) (by kernel_rfl) (fun _ _ _ h => h) (Or.inl ⟨by rfl, fun w' h' => ?_⟩) hS ?_
      · go_simp
      try simp only [Act.put, List.setIfInBounds_toArray, List.set_cons_zero, List.set_cons_succ]
      refine tk 5 20 (.pointer (some ⟨b, o + m * 2, none⟩)) rfl rfl (by kernel_rfl) (by kernel_rfl) (by kernel_rfl) (fun _ _ _ h => h) (Or.inl ⟨by rfl, fun w' h' => ?_⟩) hS ?_
      · have hcn' : (n : Int) ≤ (c : Int) := by omega
        go_simp
      try simp only [Act.put, List.setIfInBounds_toArray, List.set_cons_zero, List.set_cons_succ]
      refine tk 6 21 (.pointer (some ⟨b, o + m * 2, none⟩)) rfl rfl (by kernel_rfl) (by kernel_rfl) (by kernel_rfl) (fun _ _ _ h => h) (Or.inl ⟨by rfl, fun w' h' => ?_⟩) hS ?_
      · go_simp
      try simp only [Act.put, List.setIfInBounds_toArray, List.set_cons_zero, List.set_cons_succ]
      refine tk 7 22 (.int .u8 x.k) rfl rfl (by kernel_rfl) (by kernel_rfl) (by kernel_rfl) (fun _ _ _ h => h) (Or.inl ⟨by rfl, fun w' h' => ?_⟩) hS ?_
      · have hc := (HCL.out w' h'.1).1
        go_simp
      try simp only [Act.put, List.setIfInBounds_toArray, List.set_cons_zero, List.set_cons_succ]
      refine tk 8 23 (.pointer (some ⟨w.heap.size, 0, none⟩)) rfl rfl (by kernel_rfl) (by kernel_rfl) (by kernel_rfl) (fun _ _ _ h => h) (Or.inl ⟨by rfl, fun w' h' => ?_⟩) hS ?_
      · go_simp
      try simp only [Act.put, List.setIfInBounds_toArray, List.set_cons_zero, List.set_cons_succ]
      refine tk 9 24 (.slice (some ⟨b, o, none⟩) n c) rfl rfl (by kernel_rfl) (by kernel_rfl) (by kernel_rfl) (fun _ _ _ h => h) (Or.inl ⟨by rfl, fun w' h' => ?_⟩) hS ?_
      · have hc := h'.2
        go_simp
      try simp only [Act.put, List.setIfInBounds_toArray, List.set_cons_zero, List.set_cons_succ]
      refine tk 10 25 (.int .i64 (m : Int)) rfl rfl (by kernel_rfl) (by kernel_rfl) (by kernel_rfl) (fun _ _ _ h => h) (Or.inl ⟨by rfl, fun w' h' => ?_⟩) hS ?_
      · go_simp
      try simp only [Act.put, List.setIfInBounds_toArray, List.set_cons_zero, List.set_cons_succ]
      refine tk 11 26 (.pointer (some ⟨b, o + m * 2, none⟩)) rfl rfl (by kernel_rfl) (by kernel_rfl) (by kernel_rfl) (fun _ _ _ h => h) (Or.inl ⟨by rfl, fun w' h' => ?_⟩) hS ?_
      · have hcn' : (n : Int) ≤ (c : Int) := by omega
        go_simp
      try simp only [Act.put, List.setIfInBounds_toArray, List.set_cons_zero, List.set_cons_succ]
      refine tk 12 27 (.pointer (some ⟨b, o + m * 2 + 1, none⟩)) rfl rfl (by kernel_rfl) (by kernel_rfl) (by kernel_rfl) (fun _ _ _ h => h) (Or.inl ⟨by rfl, fun w' h' => ?_⟩) hS ?_
      · go_simp
      try simp only [Act.put, List.setIfInBounds_toArray, List.set_cons_zero, List.set_cons_succ]
      refine tk 13 28 (.slice x.a x.n x.c) rfl rfl (by kernel_rfl) (by kernel_rfl) (by kernel_rfl) (fun _ _ _ h => h) (Or.inl ⟨by rfl, fun w' h' => ?_⟩) hS ?_
      · have hc := (HCL.out w' h'.1).2.1
        go_simp
      try simp only [Act.put, List.setIfInBounds_toArray, List.set_cons_zero, List.set_cons_succ]
      refine tk 14 29 (.string (str x.xs)) rfl rfl (by kernel_rfl) (by kernel_rfl) (by kernel_rfl) (fun _ _ _ h => h) (Or.inl ⟨by rfl, fun w' h' => ?_⟩) hS ?_
      · have hc := run_string_rd w' x.c (HCL.out w' h'.1).2.2.len (HCL.out w' h'.1).2.2.rd (HCL.out w' h'.1).2.2.byt
        have hc' : (convert 27 9 (.slice x.a x.n x.c)).run Try.prog w' = .ok (.string (str x.xs)) w' := hc
        clear hc
        go_simp
      try simp only [Act.put, List.setIfInBounds_toArray, List.set_cons_zero, List.set_cons_succ]
      refine tk 15 30 (.agg #[.int .u8 x.k, .string (str x.xs)]) rfl rfl (by kernel_rfl) (by kernel_rfl) (by kernel_rfl) (fun _ _ _ h => h) (yields_build (by rfl) _ _ rfl ?_) hS ?_
      · kernel_rfl
      try simp only [Act.put, List.setIfInBounds_toArray, List.set_cons_zero, List.set_cons_succ]
      refine wpAnyH_ready (rs := [1, 16]) (by kernel_rfl) (by simp) (AllReadyH.cons rfl (fun K hK => ?_) (AllReadyH.cons rfl (fun K hK => ?_) AllReadyH.nil))
      · rw [if_pos (by rfl)]
        go_wp2_with fail
        have hS9 := hS
        clear hS
        refine hK.out _ _ hS9 (fun hS => ?_)
        clear hK K hS9
        try simp only [Act.put, List.setIfInBounds_toArray, List.set_cons_zero, List.set_cons_succ]
        refine wpAnyH_ready (rs := [16]) (by kernel_rfl) (by simp) (AllReadyH.cons rfl (fun K hK => ?_) AllReadyH.nil)
        rw [if_pos (by rfl)]
        go_wp2_with fail
        have hS9 := HSS.out.1
        clear hS
        refine hK.out _ _ hS9 (fun hS => ?_)
        clear hK K hS9
        try simp only [Act.put, List.setIfInBounds_toArray, List.set_cons_zero, List.set_cons_succ]
        refine wpAnyH_ready (rs := [17]) (by kernel_rfl) (by simp) (AllReadyH.cons rfl (fun K hK => ?_) AllReadyH.nil)
        rw [if_pos (by rfl)]
        refine Lib.wp_append_run _ (.tmp 16) (.tmp 31) _ _ rfl _ _ rfl rfl _ _ HRUN.out ?_
        have hS9 := HSS.out.2.1
        clear hS
        refine hK.out _ _ hS9 (fun hS => ?_)
        clear hK K hS9
        try simp only [Act.put, List.setIfInBounds_toArray]
        refine tk 18 33 (.pointer (some ⟨w.heap.size + 2, 0, none⟩)) rfl rfl (by kernel_rfl) (by kernel_rfl) (by kernel_rfl) (fun _ _ _ h => h) (Or.inl ⟨by rfl, fun w' h' => ?_⟩) hS ?_
        · go_simp
        try simp only [Act.put]
        refine wpAnyH_ready (rs := [19]) (by kernel_rfl) (by simp) (AllReadyH.cons rfl (fun K hK => ?_) AllReadyH.nil)
        rw [if_pos (by rfl)]
        have hq7 := HQ7.out.1
        have hf7 := HQ7.out.2
        go_wp2_with fail
        have hS9 := HSS.out.2.2
        clear hS
        refine hK.out _ _ hS9 (fun hS => ?_)
        clear hK K hS9
        refine wpAnyH_done (by kernel_rfl) ?_ _
        go_wp2_with fail
        go_roundw
        case rel => exact ⟨m + 1, by omega, by go_num, HST.out⟩
        case measure => simp [intOf]; omega
      · rw [if_pos (by rfl)]
        go_wp2_with fail
        have hS9 := HSS.out.1
        clear hS
        refine hK.out _ _ hS9 (fun hS => ?_)
        clear hK K hS9
        try simp only [Act.put, List.setIfInBounds_toArray, List.set_cons_zero, List.set_cons_succ]
        refine wpAnyH_ready (rs := [1]) (by kernel_rfl) (by simp) (AllReadyH.cons rfl (fun K hK => ?_) AllReadyH.nil)
        rw [if_pos (by rfl)]
        go_wp2_with fail
        have hS9 := hS
        clear hS
        refine hK.out _ _ hS9 (fun hS => ?_)
        clear hK K hS9
        try simp only [Act.put, List.setIfInBounds_toArray, List.set_cons_zero, List.set_cons_succ]
        refine wpAnyH_ready (rs := [17]) (by kernel_rfl) (by simp) (AllReadyH.cons rfl (fun K hK => ?_) AllReadyH.nil)
        rw [if_pos (by rfl)]
        refine Lib.wp_append_run _ (.tmp 16) (.tmp 31) _ _ rfl _ _ rfl rfl _ _ HRUN2.out ?_
        have hS9 := HSS.out.2.1
        clear hS
        refine hK.out _ _ hS9 (fun hS => ?_)
        clear hK K hS9
        try simp only [Act.put, List.setIfInBounds_toArray]
        refine tk 18 33 (.pointer (some ⟨w.heap.size + 2, 0, none⟩)) rfl rfl (by kernel_rfl) (by kernel_rfl) (by kernel_rfl) (fun _ _ _ h => h) (Or.inl ⟨by rfl, fun w' h' => ?_⟩) hS ?_
        · go_simp
        try simp only [Act.put]
        refine wpAnyH_ready (rs := [19]) (by kernel_rfl) (by simp) (AllReadyH.cons rfl (fun K hK => ?_) AllReadyH.nil)
        rw [if_pos (by rfl)]
        have hq7 := HQ7.out.1
        have hf7 := HQ7.out.2
        go_wp2_with fail
        have hS9 := HSS.out.2.2
        clear hS
        refine hK.out _ _ hS9 (fun hS => ?_)
        clear hK K hS9
        refine wpAnyH_done (by kernel_rfl) ?_ _
        go_wp2_with fail
        go_roundw
        case rel => exact ⟨m + 1, by omega, by go_num, HST.out⟩
        case measure => simp [intOf]; omega
    · obtain rfl : j = n := by omega
      have hm : m = j := by have h1 := HOWN.out.len; rw [List.length_map, List.length_take, HL.out] at h1; omega
      subst hm
      have hr3 : wr.rangeAt (w.heap.size + 2) 0 [.slice am m d, .int .u8 p] := range_row2 hblk
      have HR3 := Lib.hid hr3
      have HOF : Hid (OwnR wr (w.heap.size + 3) am m d (es.map Ex.two)) := by
        have h1 := HOWN.out
        rwa [List.take_of_length_le (by rw [HL.out]; exact Nat.le_refl _)] at h1
      have HT2 : Hid (wr.there (w.heap.size + 1) 0 2) := by
        show World.there _ _ _ _
        intro q hq
        obtain ⟨t1, t2⟩ := HTC.out q hq
        have hbq : wr.heap[w.heap.size + 1]? = wC.heap[w.heap.size + 1]? := HB0.out.block _ (by omega)
        exact ⟨by rw [World.cell?_of_block hbq]; exact t1, by rw [← t2]; exact World.frozen?_of_block hbq⟩
      clear hblk hown hr3
      go_wp2_with (first
        | (refine ldC 50 (.tmp 3) rfl rfl (w.heap.size + 2) rfl [.slice am m d, .int .u8 p] HR3.out _ Try.underlying50 rfl infRC2 ?_)
        | (refine stC 50 (.tmp 2) (.tmp 34) rfl rfl (w.heap.size + 1) 0 [.slice am m d, .int .u8 p] rfl rfl HT2.out infRC2 (cch_one _ _ _ _) ?_))
      refine bodyPost_ret (R := DocC w (es.map Ex.two) p) (v := .agg #[.slice am m d, .int .u8 p]) (ret_mid Try.results18 _ _ _ _ [.slice am m d, .int .u8 p] _ rfl (World.rangeAt_setCells_same _ _ _ _ HT2.out) Try.underlying50 rfl infRC2) rfl ⟨?_, am, m, d, rfl, ?_⟩
      · exact Below.setCells HBW.out _ (by omega) _ _
      · have h1 := HOF.out
        exact (⟨h1.len, h1.row.keep (S := fun q => q = w.heap.size + 1) (Kept.setCells _ _ _ _ (Kept.refl _ _)) (fun q e k => by have := (h1.row.blk_ge q e).1; omega)⟩ : OwnR _ (w.heap.size + 3) am m d (es.map Ex.two)).mono (by omega)
end Go.Proofs.Ythipnkaghddbhaa

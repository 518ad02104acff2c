/-
  The contracts of the document's Fates and Put. Conditions: at most a thousand fates, disks in memory. (Made by gen_dkref2.py.)
-/
import Derived.Test.YtbghdlgfpfeaeaaDkRef
namespace Go.Proofs.Ytbghdlgfpfeaeaa
open Go.RowKit

theorem fts_ownT {e : TypeId} {w : World} {B : Nat} {a : Option Addr} {c : Nat} {l : List Ft} (h : OwnG w B e 2 a l.length c (fcs l)) : Fts w a l.length l := by
  refine ⟨rfl, fun hne => ?_⟩
  obtain ⟨g, e, hc⟩ := h.cell (by intro e; have := fcs_len l; rw [e] at this; cases l with | nil => exact hne rfl | cons x l => simp at this)
  refine ⟨g, 0, e, fun i f hf => ?_⟩
  obtain ⟨h1, h2⟩ := fcs_at hf
  exact ⟨hc _ _ h1, hc _ _ h2⟩
theorem infRFt : (Try.prog.info? 81).map (fun i => (i.zero, i.size, i.bytes)) = some (some (.agg #[.int .i64 0, .int .i64 0]), 2, 16) := by kernel_rfl
theorem infRWr : (Try.prog.info? 80).map (fun i => (i.zero, i.size, i.bytes)) = some (some (.agg #[.int .i64 0, .string ⟨#[]⟩]), 2, 24) := by kernel_rfl
set_option maxRecDepth 100000 in
set_option maxHeartbeats 2000000 in
theorem docFates_any (a : Option Addr) (n c0 : Nat) (l : List Ft) (w : World) (h : Fts w a n l) (hn : n ≤ 1000) :
    Calls Try.prog 34 #[.slice a n c0] w fun e w' => ∃ v cap, e = .returned (.slice v n cap) ∧ OwnG w' w.heap.size 81 2 v n cap (fcs l) ∧ Below w.heap.size w w' := by
  have HF := Lib.hid h
  clear h
  go_enter Try.func34, Try.ntmps34
  go_wp2_with fail
  go_loopw [3, 4] (fun s i wr => ∃ (j : Nat) (v : Option Addr) (c : Nat), j ≤ n ∧ i = .int .i64 j ∧ s = .slice v j c ∧ Hid (OwnG wr w.heap.size 81 2 v j c (fcs (l.take j)) ∧ Below w.heap.size w wr)) (fun _ i _ => n - (intOf i).toNat)
  case atStart => exact ⟨0, none, 0, Nat.zero_le _, rfl, rfl, OwnG.nil _ _ _ _, Below.refl _ _⟩
  case round =>
    obtain ⟨j, v, c, hj, rfl, rfl, hk⟩ := hrel
    by_cases hlt : j < n
    · obtain ⟨f, hf⟩ : ∃ x, l[j]? = some x := ⟨_, List.getElem?_eq_getElem (by rw [HF.out.1]; exact hlt)⟩
      obtain ⟨xb, xo, hxa, hxc⟩ := HF.out.2 (by intro e; rw [e] at hf; cases hf)
      have HW0 : Hid (w.cell? ⟨xb, xo + j * 2, none⟩ = some (.int .i64 f.1) ∧ w.cell? ⟨xb, xo + j * 2 + 1, none⟩ = some (.int .i64 f.2)) := hxc j f hf
      have HC : Hid (wr.cell? ⟨xb, xo + j * 2, none⟩ = some (.int .i64 f.1) ∧ wr.cell? ⟨xb, xo + j * 2 + 1, none⟩ = some (.int .i64 f.2)) := ⟨cell_kept hk.out.2 HW0.out.1, cell_kept hk.out.2 HW0.out.2⟩
      have HT : Hid (l.take (j + 1) = l.take j ++ [f]) := by show _ = _; rw [List.take_add_one, hf]; rfl
      have hlt2 : (j : Int) < (n : Int) := by omega
      have hj0 : (0 : Int) ≤ (j : Int) := by omega
      have e1 : IntKind.i64.wrap ((j : Int) + 1) = ((j + 1 : Nat) : Int) := by rw [IntKind.wrap_i64]; omega
      subst hxa
      clear hf hxc
      go_wp2_with fail
      have HS : Hid (wr.drew.cell? ⟨xb, xo + j * 2, none⟩ = some (.int .i64 f.1) ∧ wr.drew.cell? ⟨xb, xo + j * 2 + 1, none⟩ = some (.int .i64 f.2)) := HC.out
      refine wp_region_held_drew (S := fun w' => w'.cell? ⟨xb, xo + j * 2, none⟩ = some (.int .i64 f.1) ∧ w'.cell? ⟨xb, xo + j * 2 + 1, none⟩ = some (.int .i64 f.2)) (by kernel_rfl) HS.out (fun hS => ?_)
      refine tk 0 11 (.slice v j c) rfl rfl (by kernel_rfl) (by kernel_rfl) (by kernel_rfl) (fun _ _ _ h => h) (Or.inl ⟨by rfl, fun w' h' => ?_⟩) hS ?_
      · go_simp
      try simp only [Act.put, List.setIfInBounds_toArray, List.set_cons_zero, List.set_cons_succ]
      refine tk 1 12 (.slice (some ⟨xb, xo, none⟩) n c0) rfl rfl (by kernel_rfl) (by kernel_rfl) (by kernel_rfl) (fun _ _ _ h => h) (Or.inl ⟨by rfl, fun w' h' => ?_⟩) hS ?_
      · go_simp
      try simp only [Act.put, List.setIfInBounds_toArray, List.set_cons_zero, List.set_cons_succ]
      refine tk 2 13 (.int .i64 (j : Int)) rfl rfl (by kernel_rfl) (by kernel_rfl) (by kernel_rfl) (fun _ _ _ h => h) (Or.inl ⟨by rfl, fun w' h' => ?_⟩) hS ?_
      · go_simp
      try simp only [Act.put, List.setIfInBounds_toArray, List.set_cons_zero, List.set_cons_succ]
      refine tk 3 14 (.pointer (some ⟨xb, xo + j * 2, none⟩)) rfl rfl (by kernel_rfl) (by kernel_rfl) (by kernel_rfl) (fun _ _ _ h => h) (Or.inl ⟨by rfl, fun w' h' => ?_⟩) hS ?_
      · go_simp
      try simp only [Act.put, List.setIfInBounds_toArray, List.set_cons_zero, List.set_cons_succ]
      refine tk 4 15 (.pointer (some ⟨xb, xo + j * 2, none⟩)) rfl rfl (by kernel_rfl) (by kernel_rfl) (by kernel_rfl) (fun _ _ _ h => h) (Or.inl ⟨by rfl, fun w' h' => ?_⟩) hS ?_
      · go_simp
      try simp only [Act.put, List.setIfInBounds_toArray, List.set_cons_zero, List.set_cons_succ]
      refine tk 5 16 (.int .i64 f.1) rfl rfl (by kernel_rfl) (by kernel_rfl) (by kernel_rfl) (fun _ _ _ h => h) (Or.inl ⟨by rfl, fun w' h' => ?_⟩) hS ?_
      · have x1 := h'.1
        go_simp
      try simp only [Act.put, List.setIfInBounds_toArray, List.set_cons_zero, List.set_cons_succ]
      refine tk 6 17 (.slice (some ⟨xb, xo, none⟩) n c0) rfl rfl (by kernel_rfl) (by kernel_rfl) (by kernel_rfl) (fun _ _ _ h => h) (Or.inl ⟨by rfl, fun w' h' => ?_⟩) hS ?_
      · go_simp
      try simp only [Act.put, List.setIfInBounds_toArray, List.set_cons_zero, List.set_cons_succ]
      refine tk 7 18 (.int .i64 (j : Int)) rfl rfl (by kernel_rfl) (by kernel_rfl) (by kernel_rfl) (fun _ _ _ h => h) (Or.inl ⟨by rfl, fun w' h' => ?_⟩) hS ?_
      · go_simp
      try simp only [Act.put, List.setIfInBounds_toArray, List.set_cons_zero, List.set_cons_succ]
      refine tk 8 19 (.pointer (some ⟨xb, xo + j * 2, none⟩)) rfl rfl (by kernel_rfl) (by kernel_rfl) (by kernel_rfl) (fun _ _ _ h => h) (Or.inl ⟨by rfl, fun w' h' => ?_⟩) hS ?_
      · go_simp
      try simp only [Act.put, List.setIfInBounds_toArray, List.set_cons_zero, List.set_cons_succ]
      refine tk 9 20 (.pointer (some ⟨xb, xo + j * 2 + 1, none⟩)) rfl rfl (by kernel_rfl) (by kernel_rfl) (by kernel_rfl) (fun _ _ _ h => h) (Or.inl ⟨by rfl, fun w' h' => ?_⟩) hS ?_
      · go_simp
      try simp only [Act.put, List.setIfInBounds_toArray, List.set_cons_zero, List.set_cons_succ]
      refine tk 10 21 (.int .i64 f.2) rfl rfl (by kernel_rfl) (by kernel_rfl) (by kernel_rfl) (fun _ _ _ h => h) (Or.inl ⟨by rfl, fun w' h' => ?_⟩) hS ?_
      · have x1 := h'.2
        go_simp
      try simp only [Act.put, List.setIfInBounds_toArray, List.set_cons_zero, List.set_cons_succ]
      refine tk 11 22 (.agg #[.int .i64 f.1, .int .i64 f.2]) rfl rfl (by kernel_rfl) (by kernel_rfl) (by kernel_rfl) (fun _ _ _ h => h) (Or.inl ⟨by rfl, fun w' h' => ?_⟩) hS ?_
      · go_simp
      try simp only [Act.put, List.setIfInBounds_toArray, List.set_cons_zero, List.set_cons_succ]
      refine wpAnyH_ready (rs := [12]) (by kernel_rfl) (by simp) (AllReadyH.cons rfl (fun K hK => ?_) AllReadyH.nil)
      rw [if_pos (by rfl)]
      go_wp2_with fail
      have hba : Below wr.heap.size wr (wr.drew.alloc (.cells #[.int .i64 f.1, .int .i64 f.2] 81)) := ((Below.refl _ _).drew).alloc (by simp) _
      clear hS
      refine hK.out _ _ ⟨cell_kept hba HC.out.1, cell_kept hba HC.out.2⟩ (fun hS => ?_)
      clear hK K
      try simp only [Act.put, List.setIfInBounds_toArray, List.set_cons_zero, List.set_cons_succ]
      refine wpAnyH_ready (rs := [13]) (by kernel_rfl) (by simp) (AllReadyH.cons rfl (fun K hK => ?_) AllReadyH.nil)
      rw [if_pos (by rfl)]
      obtain ⟨r3, cap3, w3, hrun, hown, hkk, _⟩ := run_append_one wr.drew w.heap.size 70 70 81 _ 2 16 infRFt Try.underlying70 rfl (by omega) (hk.out.1.below ((Below.refl _ _).drew)) [.int .i64 f.1, .int .i64 f.2] rfl (by intro u hu; simp at hu; rcases hu with rfl | rfl <;> rfl) hk.out.2.size (by omega) (by omega)
      refine Lib.wp_append_run (wr.drew.alloc (.cells #[.int .i64 f.1, .int .i64 f.2] 81)) (.tmp 11) (.tmp 23) 70 70 rfl _ _ rfl rfl _ _ hrun ?_
      change K (Act.put _ (some 24) (.slice (some ⟨r3, 0, none⟩) (j + 1) cap3)) _
      have HN : Hid (OwnG w3 w.heap.size 81 2 (some ⟨r3, 0, none⟩) (j + 1) cap3 (fcs (l.take (j + 1))) ∧ Below w.heap.size w w3) := by
        refine ⟨?_, hk.out.2.drew.trans (hkk.below hk.out.2.size (fun i hi => (hk.out.1.blk_ge i hi).1))⟩
        rw [HT.out, fcs_snoc]
        exact hown
      have hs3 : w3.cell? ⟨xb, xo + j * 2, none⟩ = some (.int .i64 f.1) ∧ w3.cell? ⟨xb, xo + j * 2 + 1, none⟩ = some (.int .i64 f.2) := ⟨cell_kept HN.out.2 HW0.out.1, cell_kept HN.out.2 HW0.out.2⟩
      clear hrun hown hkk
      clear hS
      refine hK.out _ _ (hs3) (fun hS => ?_)
      clear hK K
      try simp only [Act.put, List.setIfInBounds_toArray, List.set_cons_zero, List.set_cons_succ]
      refine tk 14 3 (.slice (some ⟨r3, 0, none⟩) (j + 1) cap3) rfl rfl (by kernel_rfl) (by kernel_rfl) (by kernel_rfl) (fun _ _ _ h => h) (Or.inl ⟨by rfl, fun w' h' => ?_⟩) hS ?_
      · go_simp
      refine wpAnyH_done (by kernel_rfl) ?_ _
      go_wp2_with fail
      go_roundw
      case rel => exact ⟨j + 1, _, _, by omega, by go_num, rfl, HN.out⟩
      case measure => simp [intOf]; omega
    · have hjn : j = n := by omega
      have HZ : Hid (OwnG wr w.heap.size 81 2 v j c (fcs l) ∧ Below w.heap.size w wr) := by
        have e : l.take j = l := List.take_of_length_le (by rw [HF.out.1]; omega)
        have h := hk.out
        rw [e] at h
        exact h
      have hlt2 : ¬ (j : Int) < (n : Int) := by omega
      clear hk
      go_wp2_with fail
      go_ret
      rw [hjn] at HZ
      exact ⟨v, c, rfl, HZ.out.1, HZ.out.2⟩

theorem Rk.lies.range {w : World} {r : Rk} (h : r.lies w) (hne : r.L ≠ []) : ∃ g o, r.u = some ⟨g, o, none⟩ ∧ ∀ j v, (rcs r.L)[j]? = some v → w.cell? ⟨g, o + j, none⟩ = some v := by
  obtain ⟨g, o, e, hc⟩ := h hne
  refine ⟨g, o, e, fun j v hv => ?_⟩
  have hj := (List.getElem?_eq_some_iff.1 hv).1
  rw [rcs_len] at hj
  obtain ⟨x, hx⟩ : ∃ x, r.L[j / 2]? = some x := ⟨_, List.getElem?_eq_getElem (by omega)⟩
  obtain ⟨h0, h1⟩ := rcs_at hx
  obtain ⟨c0, c1⟩ := hc (j / 2) x hx
  rcases Nat.mod_two_eq_zero_or_one j with hm | hm
  · have e2 : j / 2 * 2 = j := by omega
    rw [e2] at h0 c0
    rw [h0] at hv
    rw [c0]; exact hv
  · have e2 : j / 2 * 2 + 1 = j := by omega
    rw [e2] at h1
    rw [Nat.add_assoc, e2] at c1
    rw [h1] at hv
    rw [c1]; exact hv
theorem rcs_one (L : List Pw) : ∀ v ∈ rcs L, v.oneCell' = true := by
  intro v hv
  obtain ⟨x, _, h⟩ := List.mem_flatMap.1 hv
  simp at h
  rcases h with rfl | rfl <;> rfl
theorem run_append_rcs (w : World) (r : Rk) (hl : r.lies w) (hn : r.L.length ≤ 1000) : ∃ a' cap' w', (Builtin.append_ #[61, 61] 61 #[.slice none 0 0, .slice r.u r.L.length r.c]).run Try.prog w = .ok (.slice a' r.L.length cap') w' ∧ OwnG w' w.heap.size 80 2 a' r.L.length cap' (rcs r.L) ∧ Below w.heap.size w w' := by
  obtain ⟨i0, hi, hz0, hz1, hz2⟩ := info_parts infRWr
  cases hu : r.u with
  | none =>
    have hne : r.L = [] := by
      by_cases hne : r.L = []
      · exact hne
      · obtain ⟨g, o, e, _⟩ := hl hne
        rw [hu] at e; cases e
    rw [hne]
    refine ⟨none, 0, w, ?_, OwnG.nil _ _ _ _, Below.refl _ _⟩
    simp [Builtin.append_, run_underlying Try.underlying61, sizeOf, typeInfo, hi, Builtin.lenOf, Builtin.firstCells]
  | some ad =>
    have hcc : ∀ j v, (rcs r.L)[j]? = some v → w.cell? (ad.add j) = some v := fun j v hv => by
      obtain ⟨g, o, e, hc⟩ := hl.range (by intro e; rw [e] at hv; cases hv)
      rw [hu] at e
      cases e
      rw [Addr.add_lit]
      exact hc j v hv
    obtain ⟨v', w', hrun, h2, h3, _, _⟩ := run_append_own_at (P := Try.prog) w w.heap.size 61 61 80 i0 _ 2 24 Try.underlying61 hi hz0 hz1 hz2 rfl (by omega) (.slice none 0 0) 0 [] (World.ownsRow_nil _ _ _ _) ad r.L.length r.c (rcs r.L)
      (by rw [rcs_len]) hcc (rcs_one _) (by simp only [maxLen]; omega) (by omega) (Nat.le_refl _)
    rw [Nat.zero_add, List.nil_append] at h2
    have h4 : Below w.heap.size w w' := (Below.refl _ _).grown h3 (Nat.le_refl _) (fun k hk => by simp [Value.ownBlock] at hk)
    rcases h2.2 with ⟨rfl, h0⟩ | ⟨g2, cap', cur, rfl, _⟩
    · refine ⟨none, 0, w', ?_, ?_, h4⟩
      · rw [h0]; rw [h0] at hrun; exact hrun
      · rw [h0] at h2 ⊢; exact h2
    · exact ⟨_, _, w', hrun, h2, h4⟩

theorem stO2 {o : Oper} {a : Act} {w : World} {K : Act → World → Prop} {Q : Exit → Act → World → Prop} (t : TypeId) (x y : Operand) (ho : o.op = .store t x y) (b : Nat) (c0 c1 o0 o1 : Value) (tt : TypeId) (hx : a.eval x = .pointer (some ⟨b, 0, none⟩)) (hy : a.eval y = .agg #[c0, c1])
    (hr : w.heap[b]? = some (.cells #[o0, o1] tt (0, 0))) (hi : (Try.prog.info? t).map (·.size) = some 2) (h0 : c0.oneCell' = true) (h1 : c1.oneCell' = true)
    (h : ∀ w', Hid (w'.heap[b]? = some (.cells #[c0, c1] tt (0, 0)) ∧ Kept (fun i => i = b) w w') → K (a.put o.dst undef) w') : o.wp Try.prog a w K Q := by
  refine wp_store_mid t x y ho b 0 #[c0, c1] hx hy (by simpa using there2 hr) (by simpa using hi) (all_oneCell_toArray (cs := [c0, c1]) (by intro v hv; simp at hv; rcases hv with rfl | rfl <;> assumption)) (h _ ⟨?_, ?_⟩)
  · simp only [World.setCells]
    rw [heap_setCell_same _ _ _ _ _ _ (heap_setCell_same _ _ _ _ _ _ hr)]
    rfl
  · simp only [World.setCells]
    exact (Kept.setCell (S := fun i => i = b) _ _ _ rfl).trans (Kept.setCell (S := fun i => i = b) _ _ _ rfl) (fun _ _ e => e)
/-- What a write to the document's disk answers. -/
def PutR (w : World) (r : Rk) (p : Int) (xs : List Int) (e : Ending) (w' : World) : Prop :=
  ∃ r' : Rk, e = .returned (.tuple #[r'.v, .int .i64 (rcV r.d p xs.length)]) ∧ r'.d = r.d ∧ r'.L = putP r.d r.L p xs ∧ Below w.heap.size w w' ∧ (r' = r ∨ r'.own w' w.heap.size)
set_option maxRecDepth 100000 in
set_option maxHeartbeats 2000000 in
theorem r13Put_any (r : Rk) (p : Int) (xs : List Int) (w : World) (hl : r.lies w) (hp : I64 p) (hpl : PlOk r.d r.L) (hx : xs.length ≤ 1000000) (hxb : Byt xs) (hn : r.L.length ≤ 999) : Calls Try.prog 31 #[r.v, .int .i64 p, .string (str xs)] w (PutR w r p xs) := by
  obtain ⟨d, u, c, L⟩ := r
  have HL := Lib.hid hl
  show Calls Try.prog 31 #[.agg #[.string (str d), .slice u L.length c], .int .i64 p, .string (str xs)] w _
  have hbb : Below w.heap.size w ((w.alloc (.cells #[.string (str d), .slice u L.length c] 63)).alloc (.cells #[.string ⟨#[]⟩, .slice none 0 0] 63)) := (al w _).alloc (by simp) _
  have r0 : ((w.alloc (.cells #[.string (str d), .slice u L.length c] 63)).alloc (.cells #[.string ⟨#[]⟩, .slice none 0 0] 63)).heap[w.heap.size]? = some (.cells #[.string (str d), .slice u L.length c] 63 (0, 0)) := by
    rw [Below.heap_alloc _ _ _ (by simp)]; exact Blk_new w _ _
  have r1 : ((w.alloc (.cells #[.string (str d), .slice u L.length c] 63)).alloc (.cells #[.string ⟨#[]⟩, .slice none 0 0] 63)).heap[w.heap.size + 1]? = some (.cells #[.string ⟨#[]⟩, .slice none 0 0] 63 (0, 0)) := by
    have := Blk_new (w.alloc (.cells #[.string (str d), .slice u L.length c] 63)) #[.string ⟨#[]⟩, .slice none 0 0] 63
    simpa using this
  have hs0 : ((w.alloc (.cells #[.string (str d), .slice u L.length c] 63)).alloc (.cells #[.string ⟨#[]⟩, .slice none 0 0] 63)).heap.size = w.heap.size + 2 := by simp
  obtain ⟨n, hnn⟩ : ∃ n, L.length = n := ⟨_, rfl⟩
  have HNN := Lib.hid hnn
  rw [hnn] at hbb r0 r1 hs0 ⊢
  obtain ⟨w1, hw1⟩ : ∃ z, (w.alloc (.cells #[.string (str d), .slice u n c] 63)).alloc (.cells #[.string ⟨#[]⟩, .slice none 0 0] 63) = z := ⟨_, rfl⟩
  rw [hw1] at hbb r0 r1 hs0
  have HB : Hid (Below w.heap.size w w1 ∧ w1.heap[w.heap.size]? = some (.cells #[.string (str d), .slice u n c] 63 (0, 0)) ∧ w1.heap[w.heap.size + 1]? = some (.cells #[.string ⟨#[]⟩, .slice none 0 0] 63 (0, 0)) ∧ w1.heap.size = w.heap.size + 2) := ⟨hbb, r0, r1, hs0⟩
  have HW1 := Lib.hid hw1
  have HC := Lib.hid (lies_any ⟨d, u, c, L⟩ p (xs.length : Int) w1 hp hpl.few)
  have c0 := two0 HB.out.2.1
  have c1 := two1 HB.out.2.1
  have hsx : (str xs).size = xs.length := str_size xs
  have HN : Hid (n ≤ 999) := by show n ≤ 999; rw [← hnn]; exact hn
  clear hl hp hpl hbb r0 r1 hs0 hw1 hnn hn
  by_cases hv : rcV d p xs.length = 0
  · rw [show (decide (rcV (Rk.d ⟨d, u, c, L⟩) p xs.length = 0)) = true from decide_eq_true hv] at HC
    by_cases hxe : xs = []
    · have HE : Hid (putP d L p xs = L) := by show _ = _; unfold putP; rw [if_neg (fun e => e.2 hxe)]
      have HV := Lib.hid hv
      have hxn : (str xs).toList = [] := by rw [hxe, str_list]; rfl
      clear hv hxe
      go_enter Try.func31, Try.ntmps31
      go_wp2_with fail
      rw [HW1.out]
      go_wp2_with fail
      refine (show Calls Try.prog 42 #[.agg #[.string (str d), .slice u n c], .int .i64 p, .int .i64 (xs.length : Int)] w1 _ from (by rw [← HNN.out]; exact HC.out)).mono ?_
      rintro e w2 ⟨rfl, hb⟩
      have H2 : Hid (Below w.heap.size w w2 ∧ w2.heap[w.heap.size]? = some (.cells #[.string (str d), .slice u n c] 63 (0, 0)) ∧ w2.heap[w.heap.size + 1]? = some (.cells #[.string ⟨#[]⟩, .slice none 0 0] 63 (0, 0))) := ⟨HB.out.1.trans (hb.mono HB.out.1.size), (hb.block _ (by have := HB.out.2.2.2; omega)).trans HB.out.2.1, (hb.block _ (by have := HB.out.2.2.2; omega)).trans HB.out.2.2.1⟩
      have e0 := two0 H2.out.2.1
      have e1 := two1 H2.out.2.1
      clear hb c0 c1
      go_wp2_with (refine st2 63 (.tmp 6) (.tmp 18) rfl rfl (w.heap.size + 1) (.string (str d)) (.slice u n c) _ _ 63 rfl rfl H2.out.2.2 infRk rfl rfl ?_; intro w3 H3)
      have f0 := two0 H3.out.1
      have f1 := two1 H3.out.1
      refine bodyPost_ret (v := .tuple #[.agg #[.string (str d), .slice u n c], .int .i64 0]) (by simp [results, Try.results31, go_sem, *]) rfl ?_
      exact ⟨⟨d, u, c, L⟩, by show _ = Ending.returned (.tuple #[.agg #[.string (str d), .slice u L.length c], .int .i64 (rcV d p xs.length)]); rw [HV.out, HNN.out], rfl, HE.out.symm, H2.out.1.trans (H3.out.2.below H2.out.1.size (fun i e => by omega)), .inl rfl⟩
    · have HE : Hid (putP d L p xs = L ++ [(p, xs)]) := by show _ = _; unfold putP; rw [if_pos ⟨hv, hxe⟩]
      have HV := Lib.hid hv
      have hxn : ¬ (str xs).toList = [] := by
        rw [str_list]
        cases xs with
        | nil => exact absurd rfl hxe
        | cons x l => simp [ub]
      have hxq : ((str xs).toList == ([] : List UInt8)) = false := by
        cases h : (str xs).toList with
        | nil => exact absurd h hxn
        | cons a l => rfl
      clear hv hxe hxn
      go_enter Try.func31, Try.ntmps31
      go_wp2_with fail
      rw [HW1.out]
      go_wp2_with fail
      refine (show Calls Try.prog 42 #[.agg #[.string (str d), .slice u n c], .int .i64 p, .int .i64 (xs.length : Int)] w1 _ from (by rw [← HNN.out]; exact HC.out)).mono ?_
      rintro e w2 ⟨rfl, hb⟩
      have H2 : Hid (Below w.heap.size w w2 ∧ w2.heap[w.heap.size]? = some (.cells #[.string (str d), .slice u n c] 63 (0, 0)) ∧ w2.heap[w.heap.size + 1]? = some (.cells #[.string ⟨#[]⟩, .slice none 0 0] 63 (0, 0))) := ⟨HB.out.1.trans (hb.mono HB.out.1.size), (hb.block _ (by have := HB.out.2.2.2; omega)).trans HB.out.2.1, (hb.block _ (by have := HB.out.2.2.2; omega)).trans HB.out.2.2.1⟩
      have hs2 : w.heap.size + 2 ≤ w2.heap.size := by have := hb.size; have := HB.out.2.2.2; omega
      have e0 := two0 H2.out.2.1
      have e1 := two1 H2.out.2.1
      obtain ⟨a8, c8, w3, hrun, hown, hb3⟩ := run_append_rcs w2 ⟨d, u, c, L⟩ (HL.out.below H2.out.1) (by have := HN.out; show L.length ≤ 1000; rw [HNN.out]; omega)
      simp only [HNN.out] at hrun hown
      obtain ⟨b0, hb0⟩ : ∃ z, w.heap.size = z := ⟨_, rfl⟩
      obtain ⟨b1, hb1⟩ : ∃ z, b0 + 1 = z := ⟨_, rfl⟩
      obtain ⟨B3, hB3⟩ : ∃ z, w2.heap.size = z := ⟨_, rfl⟩
      have HRUN := Lib.hid hrun
      have H3 : Hid (OwnG w3 B3 80 2 a8 n c8 (rcs L) ∧ w3.cell? ⟨b0, 0, none⟩ = some (.string (str d)) ∧ w3.heap[b1]? = some (.cells #[.string ⟨#[]⟩, .slice none 0 0] 63 (0, 0)) ∧ Below w.heap.size w w3 ∧ B3 ≤ w3.heap.size) :=
        ⟨by rw [← hB3]; exact hown, by rw [← hb0]; exact cell_kept hb3 e0, by rw [← hb1, ← hb0]; exact (hb3.block _ (by omega)).trans H2.out.2.2, H2.out.1.trans (hb3.mono H2.out.1.size), by rw [← hB3]; exact hb3.size⟩
      have HBB : Hid (b0 + 1 = b1 ∧ b1 < B3 ∧ w.heap.size = b0) := ⟨hb1, by omega, hb0⟩
      rw [hb0] at e0 e1 ⊢
      rw [hb1]
      clear hb c0 c1 hrun hown hb3 hs2 hb0 hb1 hB3
      go_wp2_with (at_builtin; refine Lib.wpList_append_run _ rfl (.tmp 19) (.tmp 21) _ _ rfl _ _ rfl rfl _ _ HRUN.out ?_)
      have HS : Hid (w3.drew.cell? ⟨b0, 0, none⟩ = some (.string (str d))) := H3.out.2.1
      refine wp_region_held_drew (S := fun w' => w'.cell? ⟨b0, 0, none⟩ = some (.string (str d))) (by kernel_rfl) HS.out (fun hS => ?_)
      refine tk 0 23 (.pointer (some ⟨b0, 0, none⟩)) rfl rfl (by kernel_rfl) (by kernel_rfl) (by kernel_rfl) (fun _ _ _ h => h) (Or.inl ⟨by rfl, fun w' h' => ?_⟩) hS ?_
      · go_simp
      try simp only [Act.put, List.setIfInBounds_toArray, List.set_cons_zero, List.set_cons_succ]
      refine tk 1 24 (.string (str d)) rfl rfl (by kernel_rfl) (by kernel_rfl) (by kernel_rfl) (fun _ _ _ h => h) (Or.inl ⟨by rfl, fun w' h' => ?_⟩) hS ?_
      · have x1 := h'
        go_simp
      try simp only [Act.put, List.setIfInBounds_toArray, List.set_cons_zero, List.set_cons_succ]
      refine tk 2 25 (.slice a8 n c8) rfl rfl (by kernel_rfl) (by kernel_rfl) (by kernel_rfl) (fun _ _ _ h => h) (Or.inl ⟨by rfl, fun w' h' => ?_⟩) hS ?_
      · go_simp
      try simp only [Act.put, List.setIfInBounds_toArray, List.set_cons_zero, List.set_cons_succ]
      refine tk 3 26 (.int .i64 p) rfl rfl (by kernel_rfl) (by kernel_rfl) (by kernel_rfl) (fun _ _ _ h => h) (Or.inl ⟨by rfl, fun w' h' => ?_⟩) hS ?_
      · go_simp
      try simp only [Act.put, List.setIfInBounds_toArray, List.set_cons_zero, List.set_cons_succ]
      refine tk 4 27 (.string (str xs)) rfl rfl (by kernel_rfl) (by kernel_rfl) (by kernel_rfl) (fun _ _ _ h => h) (Or.inl ⟨by rfl, fun w' h' => ?_⟩) hS ?_
      · go_simp
      try simp only [Act.put, List.setIfInBounds_toArray, List.set_cons_zero, List.set_cons_succ]
      refine tk 5 28 (.agg #[.int .i64 p, .string (str xs)]) rfl rfl (by kernel_rfl) (by kernel_rfl) (by kernel_rfl) (fun _ _ _ h => h) (Or.inl ⟨by rfl, fun w' h' => ?_⟩) hS ?_
      · go_simp
      try simp only [Act.put, List.setIfInBounds_toArray, List.set_cons_zero, List.set_cons_succ]
      refine wpAnyH_ready (rs := [6]) (by kernel_rfl) (by simp) (AllReadyH.cons rfl (fun K hK => ?_) AllReadyH.nil)
      rw [if_pos (by rfl)]
      go_wp2_with fail
      have hba : Below w3.heap.size w3 (w3.drew.alloc (.cells #[.int .i64 p, .string (str xs)] 80)) := ((Below.refl _ _).drew).alloc (by simp) _
      clear hS
      refine hK.out _ _ (cell_kept hba H3.out.2.1) (fun hS => ?_)
      clear hK K
      try simp only [Act.put, List.setIfInBounds_toArray, List.set_cons_zero, List.set_cons_succ]
      refine wpAnyH_ready (rs := [7]) (by kernel_rfl) (by simp) (AllReadyH.cons rfl (fun K hK => ?_) AllReadyH.nil)
      rw [if_pos (by rfl)]
      obtain ⟨r4, cap4, w4, hrun, hown, hkk, _⟩ := run_append_one w3.drew B3 61 61 80 _ 2 24 infRWr Try.underlying61 rfl (by omega) (H3.out.1.below ((Below.refl _ _).drew)) [.int .i64 p, .string (str xs)] rfl (by intro u hu; simp at hu; rcases hu with rfl | rfl <;> rfl) H3.out.2.2.2.2 (by have := HN.out; omega) (by have := HN.out; omega)
      refine Lib.wp_append_run (w3.drew.alloc (.cells #[.int .i64 p, .string (str xs)] 80)) (.tmp 25) (.tmp 29) 61 61 rfl _ _ rfl rfl _ _ hrun ?_
      change K (Act.put _ (some 30) (.slice (some ⟨r4, 0, none⟩) (n + 1) cap4)) _
      have H4 : Hid (OwnG w4 B3 80 2 (some ⟨r4, 0, none⟩) (n + 1) cap4 (rcs (L ++ [(p, xs)])) ∧ w4.cell? ⟨b0, 0, none⟩ = some (.string (str d)) ∧ w4.heap[b1]? = some (.cells #[.string ⟨#[]⟩, .slice none 0 0] 63 (0, 0)) ∧ Below w.heap.size w w4 ∧ b1 < r4 ∧ w.heap.size ≤ b1) := by
        have hkb : Below B3 w3.drew w4 := hkk.below H3.out.2.2.2.2 (fun i hi => (H3.out.1.blk_ge i hi).1)
        have hb0 := HBB.out
        refine ⟨by rw [rcs_snoc]; exact hown, (by rw [← H3.out.2.1]; exact World.cell?_of_block (hkb.block b0 (by show b0 < B3; omega))), (hkb.block b1 (by omega)).trans H3.out.2.2.1, H3.out.2.2.2.1.drew.trans (hkb.mono (by omega)), by have := (hown.blk_ge r4 rfl).1; omega, by omega⟩
      clear hrun hown hkk
      clear hS
      refine hK.out _ _ (H4.out.2.1) (fun hS => ?_)
      clear hK K
      try simp only [Act.put, List.setIfInBounds_toArray, List.set_cons_zero, List.set_cons_succ]
      refine tk 8 31 (.agg #[.string (str d), .slice (some ⟨r4, 0, none⟩) (n + 1) cap4]) rfl rfl (by kernel_rfl) (by kernel_rfl) (by kernel_rfl) (fun _ _ _ h => h) (Or.inl ⟨by rfl, fun w' h' => ?_⟩) hS ?_
      · go_simp
      try simp only [Act.put, List.setIfInBounds_toArray, List.set_cons_zero, List.set_cons_succ]
      refine wpAnyH_ready (rs := [9]) (by kernel_rfl) (by simp) (AllReadyH.cons rfl (fun K hK => ?_) AllReadyH.nil)
      rw [if_pos (by rfl)]
      refine stO2 63 (.tmp 6) (.tmp 31) rfl b1 (.string (str d)) (.slice (some ⟨r4, 0, none⟩) (n + 1) cap4) _ _ 63 rfl rfl H4.out.2.2.1 infRk rfl rfl ?_
      intro w5 H5
      have hs5 : w5.cell? ⟨b0, 0, none⟩ = some (.string (str d)) := by
        rw [← H4.out.2.1]
        exact World.cell?_of_block (H5.out.2.block b0 (World.block_lt_of_cell? w4 ⟨b0, 0, none⟩ H4.out.2.1) (by have := HBB.out; omega))
      clear hS
      refine hK.out _ _ (hs5) (fun hS => ?_)
      clear hK K
      try simp only [Act.put, List.setIfInBounds_toArray]
      refine tk 10 7 (.int .i64 0) rfl rfl (by kernel_rfl) (by kernel_rfl) (by kernel_rfl) (fun _ _ _ h => h) (Or.inl ⟨by rfl, fun w' h' => ?_⟩) hS ?_
      · go_simp
      refine wpAnyH_done (by kernel_rfl) ?_ _
      go_wp2_with fail
      have f0 := two0 H5.out.1
      have f1 := two1 H5.out.1
      refine bodyPost_ret (v := .tuple #[.agg #[.string (str d), .slice (some ⟨r4, 0, none⟩) (n + 1) cap4], .int .i64 0]) (by simp [results, Try.results31, go_sem, *]) rfl ?_
      have hn1 : (L ++ [(p, xs)]).length = n + 1 := by rw [List.length_append, HNN.out]; rfl
      refine ⟨⟨d, some ⟨r4, 0, none⟩, cap4, L ++ [(p, xs)]⟩, by show _ = Ending.returned (.tuple #[.agg #[.string (str d), .slice (some ⟨r4, 0, none⟩) (L ++ [(p, xs)]).length cap4], .int .i64 (rcV d p xs.length)]); rw [HV.out, hn1], rfl, HE.out.symm, H4.out.2.2.2.1.trans (H5.out.2.below H4.out.2.2.2.1.size (fun i e => by have := H4.out.2.2.2.2.2; omega)), .inr ?_⟩
      show OwnG _ _ _ _ _ (L ++ [(p, xs)]).length _ _
      rw [hn1]
      exact (H4.out.1.mono (by have := HBB.out; omega)).keep H5.out.2 (fun b hb e => by simp [blk] at hb; have := H4.out.2.2.2.2.1; omega)
  · rw [show (decide (rcV (Rk.d ⟨d, u, c, L⟩) p xs.length = 0)) = false from decide_eq_false hv] at HC
    have HE : Hid (putP d L p xs = L) := by show _ = _; unfold putP; rw [if_neg (fun e => hv e.1)]
    have HV : Hid (rcV d p xs.length = 130) := by
      show _ = _
      unfold rcV at hv ⊢
      split at hv <;> simp_all
    clear hv
    go_enter Try.func31, Try.ntmps31
    go_wp2_with fail
    rw [HW1.out]
    go_wp2_with fail
    refine (show Calls Try.prog 42 #[.agg #[.string (str d), .slice u n c], .int .i64 p, .int .i64 (xs.length : Int)] w1 _ from (by rw [← HNN.out]; exact HC.out)).mono ?_
    rintro e w2 ⟨rfl, hb⟩
    have H2 : Hid (Below w.heap.size w w2 ∧ w2.heap[w.heap.size]? = some (.cells #[.string (str d), .slice u n c] 63 (0, 0)) ∧ w2.heap[w.heap.size + 1]? = some (.cells #[.string ⟨#[]⟩, .slice none 0 0] 63 (0, 0))) := ⟨HB.out.1.trans (hb.mono HB.out.1.size), (hb.block _ (by have := HB.out.2.2.2; omega)).trans HB.out.2.1, (hb.block _ (by have := HB.out.2.2.2; omega)).trans HB.out.2.2.1⟩
    have e0 := two0 H2.out.2.1
    have e1 := two1 H2.out.2.1
    clear hb c0 c1
    go_wp2_with (refine st2 63 (.tmp 6) (.tmp 15) rfl rfl (w.heap.size + 1) (.string (str d)) (.slice u n c) _ _ 63 rfl rfl H2.out.2.2 infRk rfl rfl ?_; intro w3 H3)
    have f0 := two0 H3.out.1
    have f1 := two1 H3.out.1
    refine bodyPost_ret (v := .tuple #[.agg #[.string (str d), .slice u n c], .int .i64 130]) (by simp [results, Try.results31, go_sem, *]) rfl ?_
    exact ⟨⟨d, u, c, L⟩, by show _ = Ending.returned (.tuple #[.agg #[.string (str d), .slice u L.length c], .int .i64 (rcV d p xs.length)]); rw [HV.out, HNN.out], rfl, HE.out.symm, H2.out.1.trans (H3.out.2.below H2.out.1.size (fun i e => by omega)), .inl rfl⟩
end Go.Proofs.Ytbghdlgfpfeaeaa

/-
  The contracts of a lane's stat; a shaper in memory; its lane, Tick, Stat, Queued. Conditions: those that the theorems name. (Made by gen_splane3.py.)
-/
import Derived.Test.YtpigpeehhadkjaaSpLane2
namespace Go.Proofs.Ytpigpeehhadkjaa
open Go.RowKit Bkt

def statV (o d u y : Int) : Value := .agg #[.int .u64 o, .int .u64 d, .int .u64 u, .int .u64 y]
set_option maxRecDepth 100000 in
set_option maxHeartbeats 1000000 in
theorem stat_any (B : Nat) (l : La) (w : World) (h : Lw w B l) : Calls Try.prog 43 #[.pointer (some ⟨l.g, 0, none⟩)] w (Gives w (statV l.o l.d l.u l.y)) := by
  have hb0 : Below w.heap.size w (w.alloc (.cells #[.int .u64 0, .int .u64 0, .int .u64 0, .int .u64 0] 67)) := (Below.refl _ _).alloc (Nat.le_refl _) _
  have hr0 : (w.alloc (.cells #[.int .u64 0, .int .u64 0, .int .u64 0, .int .u64 0] 67)).heap[w.heap.size]? = some (.cells #[.int .u64 0, .int .u64 0, .int .u64 0, .int .u64 0] 67 (0, 0)) := Blk_new _ _ _
  obtain ⟨w0, hw0⟩ : ∃ z, w.alloc (.cells #[.int .u64 0, .int .u64 0, .int .u64 0, .int .u64 0] 67) = z := ⟨_, rfl⟩
  rw [hw0] at hb0 hr0
  have H0 : Hid (Below w.heap.size w w0.drew ∧ Lw w0.drew B l ∧ w0.drew.heap[w.heap.size]? = some (.cells #[.int .u64 0, .int .u64 0, .int .u64 0, .int .u64 0] 67 (0, 0))) := ⟨hb0.drew, h.below hb0.drew, hr0⟩
  clear h hb0 hr0
  go_enter Try.func43, Try.ntmps43
  go_wp2_with fail
  clear hw0
  refine wp_region_held_drew (S := fun w' => True) (by kernel_rfl) trivial (fun hS => ?_)
  obtain ⟨wd, hwd⟩ : ∃ z, w0.drew = z := ⟨_, rfl⟩
  rw [hwd] at H0 ⊢
  clear hwd w0
  refine tk 0 3 (.pointer (some ⟨l.g, 0, none⟩)) rfl rfl (by kernel_rfl) (by kernel_rfl) (by kernel_rfl) (fun _ _ _ h => h) (Or.inl ⟨by rfl, fun w' h' => ?_⟩) hS ?_
  · go_simp
  try simp only [Act.put, List.setIfInBounds_toArray, List.set_cons_zero, List.set_cons_succ]
  refine tk 1 4 (.pointer (some ⟨l.g, 0, none⟩)) rfl rfl (by kernel_rfl) (by kernel_rfl) (by kernel_rfl) (fun _ _ _ h => h) (Or.inl ⟨by rfl, fun w' h' => ?_⟩) hS ?_
  · go_simp
  try simp only [Act.put, List.setIfInBounds_toArray, List.set_cons_zero, List.set_cons_succ]
  refine tk 2 5 (.pointer (some ⟨l.g, 0, none⟩)) rfl rfl (by kernel_rfl) (by kernel_rfl) (by kernel_rfl) (fun _ _ _ h => h) (Or.inl ⟨by rfl, fun w' h' => ?_⟩) hS ?_
  · go_simp
  try simp only [Act.put, List.setIfInBounds_toArray, List.set_cons_zero, List.set_cons_succ]
  refine tk 4 7 (.pointer (some ⟨l.g, 0, none⟩)) rfl rfl (by kernel_rfl) (by kernel_rfl) (by kernel_rfl) (fun _ _ _ h => h) (Or.inl ⟨by rfl, fun w' h' => ?_⟩) hS ?_
  · go_simp
  try simp only [Act.put, List.setIfInBounds_toArray, List.set_cons_zero, List.set_cons_succ]
  refine tk 5 8 (.pointer (some ⟨l.g, 0, none⟩)) rfl rfl (by kernel_rfl) (by kernel_rfl) (by kernel_rfl) (fun _ _ _ h => h) (Or.inl ⟨by rfl, fun w' h' => ?_⟩) hS ?_
  · go_simp
  try simp only [Act.put, List.setIfInBounds_toArray, List.set_cons_zero, List.set_cons_succ]
  refine tk 6 9 (.pointer (some ⟨l.g, 1, none⟩)) rfl rfl (by kernel_rfl) (by kernel_rfl) (by kernel_rfl) (fun _ _ _ h => h) (Or.inl ⟨by rfl, fun w' h' => ?_⟩) hS ?_
  · go_simp
  try simp only [Act.put, List.setIfInBounds_toArray, List.set_cons_zero, List.set_cons_succ]
  refine tk 8 11 (.pointer (some ⟨l.g, 0, none⟩)) rfl rfl (by kernel_rfl) (by kernel_rfl) (by kernel_rfl) (fun _ _ _ h => h) (Or.inl ⟨by rfl, fun w' h' => ?_⟩) hS ?_
  · go_simp
  try simp only [Act.put, List.setIfInBounds_toArray, List.set_cons_zero, List.set_cons_succ]
  refine tk 9 12 (.pointer (some ⟨l.g, 0, none⟩)) rfl rfl (by kernel_rfl) (by kernel_rfl) (by kernel_rfl) (fun _ _ _ h => h) (Or.inl ⟨by rfl, fun w' h' => ?_⟩) hS ?_
  · go_simp
  try simp only [Act.put, List.setIfInBounds_toArray, List.set_cons_zero, List.set_cons_succ]
  refine tk 10 13 (.pointer (some ⟨l.g, 2, none⟩)) rfl rfl (by kernel_rfl) (by kernel_rfl) (by kernel_rfl) (fun _ _ _ h => h) (Or.inl ⟨by rfl, fun w' h' => ?_⟩) hS ?_
  · go_simp
  try simp only [Act.put, List.setIfInBounds_toArray, List.set_cons_zero, List.set_cons_succ]
  refine tk 12 15 (.pointer (some ⟨l.g, 0, none⟩)) rfl rfl (by kernel_rfl) (by kernel_rfl) (by kernel_rfl) (fun _ _ _ h => h) (Or.inl ⟨by rfl, fun w' h' => ?_⟩) hS ?_
  · go_simp
  try simp only [Act.put, List.setIfInBounds_toArray, List.set_cons_zero, List.set_cons_succ]
  refine tk 13 16 (.pointer (some ⟨l.g, 0, none⟩)) rfl rfl (by kernel_rfl) (by kernel_rfl) (by kernel_rfl) (fun _ _ _ h => h) (Or.inl ⟨by rfl, fun w' h' => ?_⟩) hS ?_
  · go_simp
  try simp only [Act.put, List.setIfInBounds_toArray, List.set_cons_zero, List.set_cons_succ]
  refine tk 14 17 (.pointer (some ⟨l.g, 3, none⟩)) rfl rfl (by kernel_rfl) (by kernel_rfl) (by kernel_rfl) (fun _ _ _ h => h) (Or.inl ⟨by rfl, fun w' h' => ?_⟩) hS ?_
  · go_simp
  try simp only [Act.put, List.setIfInBounds_toArray, List.set_cons_zero, List.set_cons_succ]
  refine wpAnyH_ready (rs := [3]) (by kernel_rfl) (by simp) (AllReadyH.cons rfl (fun K hK => ?_) AllReadyH.nil)
  rw [if_pos (by rfl)]
  go_wp2_with fail
  refine (loadU_any _ l.o _ H0.out.2.1.c0).mono ?_
  rintro e v1 ⟨rfl, hv1⟩
  rw [hv1]
  clear hv1 v1
  clear hS
  refine hK.out _ _ (trivial) (fun hS => ?_)
  clear hK K
  try simp only [Act.put, List.setIfInBounds_toArray, List.set_cons_zero, List.set_cons_succ]
  refine wpAnyH_ready (rs := [7]) (by kernel_rfl) (by simp) (AllReadyH.cons rfl (fun K hK => ?_) AllReadyH.nil)
  rw [if_pos (by rfl)]
  go_wp2_with fail
  refine (loadU_any _ l.d _ H0.out.2.1.c1).mono ?_
  rintro e v1 ⟨rfl, hv1⟩
  rw [hv1]
  clear hv1 v1
  clear hS
  refine hK.out _ _ (trivial) (fun hS => ?_)
  clear hK K
  try simp only [Act.put, List.setIfInBounds_toArray, List.set_cons_zero, List.set_cons_succ]
  refine wpAnyH_ready (rs := [11]) (by kernel_rfl) (by simp) (AllReadyH.cons rfl (fun K hK => ?_) AllReadyH.nil)
  rw [if_pos (by rfl)]
  go_wp2_with fail
  refine (loadU_any _ l.u _ H0.out.2.1.c2).mono ?_
  rintro e v1 ⟨rfl, hv1⟩
  rw [hv1]
  clear hv1 v1
  clear hS
  refine hK.out _ _ (trivial) (fun hS => ?_)
  clear hK K
  try simp only [Act.put, List.setIfInBounds_toArray, List.set_cons_zero, List.set_cons_succ]
  refine wpAnyH_ready (rs := [15]) (by kernel_rfl) (by simp) (AllReadyH.cons rfl (fun K hK => ?_) AllReadyH.nil)
  rw [if_pos (by rfl)]
  go_wp2_with fail
  refine (loadU_any _ l.y _ H0.out.2.1.c3).mono ?_
  rintro e v1 ⟨rfl, hv1⟩
  rw [hv1]
  clear hv1 v1
  clear hS
  refine hK.out _ _ (trivial) (fun hS => ?_)
  clear hK K
  try simp only [Act.put, List.setIfInBounds_toArray, List.set_cons_zero, List.set_cons_succ]
  refine tk 16 19 (.agg #[.int .u64 l.o, .int .u64 l.d, .int .u64 l.u, .int .u64 l.y]) rfl rfl (by kernel_rfl) (by kernel_rfl) (by kernel_rfl) (fun _ _ _ h => h) (Or.inl ⟨by rfl, fun w' h' => ?_⟩) hS ?_
  · go_simp
  have a0 := q4_0 H0.out.2.2
  have a1 := q4_1 H0.out.2.2
  have a2 := q4_2 H0.out.2.2
  have a3 := q4_3 H0.out.2.2
  have g0 : wd.frozen? ⟨w.heap.size, 0, none⟩ = false := frozen_of_row wd _ 0 _ _ H0.out.2.2
  have g1 : wd.frozen? ⟨w.heap.size, 1, none⟩ = false := frozen_of_row wd _ 1 _ _ H0.out.2.2
  have g2 : wd.frozen? ⟨w.heap.size, 2, none⟩ = false := frozen_of_row wd _ 2 _ _ H0.out.2.2
  have g3 : wd.frozen? ⟨w.heap.size, 3, none⟩ = false := frozen_of_row wd _ 3 _ _ H0.out.2.2
  try simp only [Act.put, List.setIfInBounds_toArray, List.set_cons_zero, List.set_cons_succ]
  refine wpAnyH_ready (rs := [17]) (by kernel_rfl) (by simp) (AllReadyH.cons rfl (fun K hK => ?_) AllReadyH.nil)
  rw [if_pos (by rfl)]
  go_wp2_with fail
  have hr1 : ((((wd.setCell ⟨w.heap.size, 0, none⟩ (.int .u64 l.o)).setCell ⟨w.heap.size, 1, none⟩ (.int .u64 l.d)).setCell ⟨w.heap.size, 2, none⟩ (.int .u64 l.u)).setCell ⟨w.heap.size, 3, none⟩ (.int .u64 l.y)).heap[w.heap.size]? = some (.cells #[.int .u64 l.o, .int .u64 l.d, .int .u64 l.u, .int .u64 l.y] 67 (0, 0)) := row4_set H0.out.2.2 _ _ _ _
  have hb1 : Below w.heap.size w ((((wd.setCell ⟨w.heap.size, 0, none⟩ (.int .u64 l.o)).setCell ⟨w.heap.size, 1, none⟩ (.int .u64 l.d)).setCell ⟨w.heap.size, 2, none⟩ (.int .u64 l.u)).setCell ⟨w.heap.size, 3, none⟩ (.int .u64 l.y)) :=
    (((H0.out.1.setCell (p := ⟨w.heap.size, 0, none⟩) (Nat.le_refl _) _).setCell (p := ⟨w.heap.size, 1, none⟩) (Nat.le_refl _) _).setCell (p := ⟨w.heap.size, 2, none⟩) (Nat.le_refl _) _).setCell (p := ⟨w.heap.size, 3, none⟩) (Nat.le_refl _) _
  obtain ⟨w1, hw1⟩ : ∃ z, (((wd.setCell ⟨w.heap.size, 0, none⟩ (.int .u64 l.o)).setCell ⟨w.heap.size, 1, none⟩ (.int .u64 l.d)).setCell ⟨w.heap.size, 2, none⟩ (.int .u64 l.u)).setCell ⟨w.heap.size, 3, none⟩ (.int .u64 l.y) = z := ⟨_, rfl⟩
  rw [hw1] at hr1 hb1 ⊢
  have H1 : Hid (Below w.heap.size w w1 ∧ w1.heap[w.heap.size]? = some (.cells #[.int .u64 l.o, .int .u64 l.d, .int .u64 l.u, .int .u64 l.y] 67 (0, 0))) := ⟨hb1, hr1⟩
  clear hw1 hr1 hb1 H0 a0 a1 a2 a3 g0 g1 g2 g3
  clear hS
  refine hK.out _ _ (trivial) (fun hS => ?_)
  clear hK K
  refine wpAnyH_done (by kernel_rfl) ?_ _
  have a0 := q4_0 H1.out.2
  have a1 := q4_1 H1.out.2
  have a2 := q4_2 H1.out.2
  have a3 := q4_3 H1.out.2
  go_wp2_with fail
  refine bodyPost_ret (v := statV l.o l.d l.u l.y) (by simp [results, Try.results43, go_sem, statV, *]) rfl ?_
  exact ⟨rfl, H1.out.1⟩

/-- A shaper: its tick, where the row of its lanes lies, its lanes. -/
structure Sh where
  T : Int
  a : Option Addr
  n : Nat
  c : Nat
  ls : List La
def ptr (g : Nat) : Value := .pointer (some ⟨g, 0, none⟩)
def Sh.ps (s : Sh) : List Value := s.ls.map fun l => ptr l.g
def Sh.foot (s : Sh) (g : Nat) (k : Nat) : Prop := k = g ∨ ∃ l ∈ s.ls, l.foot k
structure Sw (w : World) (B g : Nat) (s : Sh) : Prop where
  row : w.heap[g]? = some (.cells #[.int .u64 s.T, .slice s.a s.n s.c] 73 (0, 0))
  ptrs : OwnG w B 77 1 s.a s.n s.c s.ps
  lws : ∀ l ∈ s.ls, Lw w B l
  dis : s.ls.Pairwise fun l m => ∀ k, l.foot k → ¬ m.foot k
  len : s.ls.length = s.n
  le : s.n ≤ 8
  base : B ≤ g
def Sh.abs (s : Sh) : List Ab := s.ls.map La.abs
section
variable {w w' : World} {B g : Nat} {s : Sh}
theorem Sw.c0 (h : Sw w B g s) : w.cell? ⟨g, 0, none⟩ = some (.int .u64 s.T) := by rw [cell_of_row w g 0 _ _ (0, 0) h.row]; rfl
theorem Sw.c1 (h : Sw w B g s) : w.cell? ⟨g, 1, none⟩ = some (.slice s.a s.n s.c) := by rw [cell_of_row w g 1 _ _ (0, 0) h.row]; rfl
theorem Sw.lt (h : Sw w B g s) : g < w.heap.size := (Array.getElem?_eq_some_iff.1 h.row).1
theorem Sw.frozen (h : Sw w B g s) (j : Nat) : w.frozen? ⟨g, j, none⟩ = false := frozen_of_row w g j _ _ h.row
theorem Sw.foot_lt (h : Sw w B g s) {k : Nat} (hk : s.foot g k) : B ≤ k ∧ k < w.heap.size := by
  rcases hk with rfl | ⟨l, hl, hk⟩
  · exact ⟨h.base, h.lt⟩
  · exact (h.lws l hl).foot_lt hk
/-- The row of pointers: a block of its own. -/
theorem Sw.ne_ptrs (h : Sw w B g s) {b : Nat} (hb : blk s.a = some b) : ¬ s.foot g b := by
  rcases h.ptrs.cases with ⟨e, _⟩ | ⟨r, cur, e, _, hr, _⟩
  · rw [e] at hb; cases hb
  · rw [e] at hb
    simp [blk] at hb
    subst hb
    rintro (rfl | ⟨l, hl, hk⟩)
    · rw [h.row] at hr; simp at hr
    · exact (h.lws l hl).apart hr (by decide) (by decide) (by decide) (by decide) (by decide) hk
theorem Sw.keep {S : Nat → Prop} (h : Sw w B g s) (k : Kept S w w') (hs : ∀ i, s.foot g i → ¬ S i) (ha : ∀ b, blk s.a = some b → ¬ S b) : Sw w' B g s :=
  ⟨k.heap h.row (hs _ (.inl rfl)), h.ptrs.keep k ha, fun l hl => (h.lws l hl).keep k (fun i hi => hs i (.inr ⟨l, hl, hi⟩)), h.dis, h.len, h.le, h.base⟩
theorem Sw.below (h : Sw w B g s) (k : Below w.heap.size w w') : Sw w' B g s := h.keep (S := fun _ => False) (Kept.of_below k (fun i hi hi' => by omega)) (fun _ _ => id) (fun _ _ => id)
theorem Sw.lane (h : Sw w B g s) {i : Nat} (hi : i < s.n) : ∃ l, s.ls[i]? = some l ∧ Lw w B l := by
  have h1 : i < s.ls.length := by rw [h.len]; exact hi
  exact ⟨_, List.getElem?_eq_getElem h1, h.lws _ (List.getElem_mem h1)⟩
theorem Sw.pt (h : Sw w B g s) {i : Nat} {l : La} (hl : s.ls[i]? = some l) : ∃ r, s.a = some ⟨r, 0, none⟩ ∧ w.cell? ⟨r, i, none⟩ = some (.pointer (some ⟨l.g, 0, none⟩)) := by
  have h1 : s.ps[i]? = some (ptr l.g) := by unfold Sh.ps; rw [List.getElem?_map, hl]; rfl
  obtain ⟨r, e, hc⟩ := h.ptrs.cell (by intro e; rw [e] at h1; simp at h1)
  refine ⟨r, e, ?_⟩
  have := hc i _ h1
  rwa [Nat.zero_add] at this
/-- A lane has changed. -/
theorem Sw.step (h : Sw w B g s) {i : Nat} {l l' : La} (hl : s.ls[i]? = some l) (hw : Lw w' B l') (hg : l'.g = l.g) (k : Kept l.foot w w') (hf : ∀ k, l'.foot k → l.foot k ∨ w.heap.size ≤ k) : Sw w' B g { s with ls := s.ls.set i l' } := by
  have hm : l ∈ s.ls := List.mem_of_getElem? hl
  have hi : i < s.ls.length := (List.getElem?_eq_some_iff.1 hl).1
  have hdis : ∀ (j : Nat) (m : La), s.ls[j]? = some m → j ≠ i → ∀ k, m.foot k → ¬ l.foot k := fun j m hj hne k hk hk2 => by
    have hp := List.pairwise_iff_getElem.1 h.dis
    obtain ⟨hj1, hj2⟩ := List.getElem?_eq_some_iff.1 hj
    obtain ⟨hl1, hl2⟩ := List.getElem?_eq_some_iff.1 hl
    rcases Nat.lt_or_gt_of_ne hne with e | e
    · have := hp j i hj1 hl1 e k; rw [hj2, hl2] at this; exact this hk hk2
    · have := hp i j hl1 hj1 e k; rw [hj2, hl2] at this; exact this hk2 hk
  have hgn : ¬ l.foot g := fun e => (h.lws l hm).apart h.row (by decide) (by decide) (by decide) (by decide) (by decide) e
  have hps : Sh.ps { s with ls := s.ls.set i l' } = s.ps := by
    refine List.ext_getElem? fun j => ?_
    show ((s.ls.set i l').map _)[j]? = (s.ls.map _)[j]?
    rw [List.getElem?_map, List.getElem?_map]
    by_cases e : i = j
    · subst e; rw [List.getElem?_set_self hi, hl]; simp [hg]
    · rw [List.getElem?_set_ne e]
  refine ⟨k.heap h.row hgn, by rw [hps]; exact h.ptrs.keep k (fun b hb e => h.ne_ptrs hb (.inr ⟨l, hm, e⟩)), fun m hm' => ?_, ?_, by rw [List.length_set]; exact h.len, h.le, h.base⟩
  · obtain ⟨j, hj⟩ := List.getElem?_of_mem hm'
    by_cases e : i = j
    · subst e
      rw [List.getElem?_set_self hi] at hj
      simp at hj
      subst hj
      exact hw
    · rw [List.getElem?_set_ne e] at hj
      exact (h.lws m (List.mem_of_getElem? hj)).keep k (hdis j m hj (fun h => e h.symm))
  · refine List.pairwise_iff_getElem.2 fun j1 j2 h1 h2 hlt k hk hk2 => ?_
    rw [List.length_set] at h1 h2
    have hp := List.pairwise_iff_getElem.1 h.dis
    have hnew : ∀ j (hj : j < s.ls.length), j ≠ i → ∀ k, l'.foot k → ¬ (s.ls[j]'hj).foot k := fun j hj hne k hk' hk3 => by
      rcases hf k hk' with e | e
      · exact hdis j _ (List.getElem?_eq_getElem hj) hne k hk3 e
      · have := ((h.lws _ (List.getElem_mem hj)).foot_lt hk3).2; omega
    simp only [List.getElem_set] at hk hk2
    by_cases e1 : i = j1
    · rw [if_pos e1] at hk
      rw [if_neg (by omega)] at hk2
      exact hnew j2 h2 (by omega) k hk hk2
    · rw [if_neg e1] at hk
      by_cases e2 : i = j2
      · rw [if_pos e2] at hk2
        exact hnew j1 h1 (by omega) k hk2 hk
      · rw [if_neg e2] at hk2
        exact hp j1 j2 h1 h2 hlt k hk hk2
theorem Sw.tick (h : Sw w B g s) (T : Int) : Sw (w.setCell ⟨g, 0, none⟩ (.int .u64 T)) B g { s with T := T } ∧ Kept (s.foot g) w (w.setCell ⟨g, 0, none⟩ (.int .u64 T)) := by
  have k : Kept (fun i => i = g) w (w.setCell ⟨g, 0, none⟩ (.int .u64 T)) := Kept.setCell _ _ _ rfl
  refine ⟨⟨by rw [heap_setCell_same w g 0 _ _ _ h.row]; rfl, h.ptrs.keep k (fun b hb e => h.ne_ptrs hb (.inl e)), fun l hl => (h.lws l hl).keep k (fun i hi e => ?_), h.dis, h.len, h.le, h.base⟩, k.mono (fun _ _ e => .inl e)⟩
  subst e
  exact (h.lws l hl).apart h.row (by decide) (by decide) (by decide) (by decide) (by decide) hi
theorem abs_len : s.abs.length = s.ls.length := by unfold Sh.abs; simp
theorem abs_set (i : Nat) (l : La) : Sh.abs { s with ls := s.ls.set i l } = s.abs.set i l.abs := by unfold Sh.abs; rw [List.map_set]
theorem abs_get {i : Nat} {l : La} (hl : s.ls[i]? = some l) : s.abs.getD i az = l.abs := by
  unfold Sh.abs
  rw [List.getD_eq_getElem?_getD, List.getElem?_map, hl]; rfl
end

theorem sTick_any (B g : Nat) (s : Sh) (w : World) (h : Sw w B g s) : Calls Try.prog 20 #[.pointer (some ⟨g, 0, none⟩)] w fun e w' => e = .returned (.int .u64 s.T) ∧ w' = w := by
  have c0 := h.c0
  clear h
  go_enter Try.func20, Try.ntmps20
  go_wp2_with fail
  go_ret
  exact ⟨rfl, rfl⟩
theorem sTick_nil (w : World) : Calls Try.prog 20 #[.pointer none] w fun e w' => e = .returned (.int .u64 0) ∧ w' = w := by
  go_enter Try.func20, Try.ntmps20
  go_wp2_with fail
  go_ret
  exact ⟨rfl, rfl⟩
theorem sLane_yes (B g : Nat) (s : Sh) (i : Nat) (l : La) (w : World) (h : Sw w B g s) (hl : s.ls[i]? = some l) :
    Calls Try.prog 38 #[.pointer (some ⟨g, 0, none⟩), .int .i64 (i : Int)] w fun e w' => e = .returned (.tuple #[.pointer (some ⟨l.g, 0, none⟩), .bool true]) ∧ w' = w := by
  obtain ⟨r, hr, hc⟩ := h.pt hl
  have c1 := h.c1
  have hi : i < s.n := by rw [← h.len]; exact (List.getElem?_eq_some_iff.1 hl).1
  have hi1 : (i : Int) < (s.n : Int) := by omega
  have hi0 : (0 : Int) ≤ (i : Int) := by omega
  have hi2 : ¬ (s.n : Int) ≤ (i : Int) := by omega
  have hi3 : ¬ (i : Int) < 0 := by omega
  rw [hr] at c1
  have hc' : w.cell? ⟨r, 0 + i, none⟩ = some (.pointer (some ⟨l.g, 0, none⟩)) := by rw [Nat.zero_add]; exact hc
  clear h hl hr
  go_enter Try.func38, Try.ntmps38
  go_wp2_with fail
  go_ret2
  exact ⟨rfl, rfl⟩
theorem sLane_no (B g : Nat) (s : Sh) (i : Int) (w : World) (h : Sw w B g s) (hi : i < 0 ∨ (s.n : Int) ≤ i) :
    Calls Try.prog 38 #[.pointer (some ⟨g, 0, none⟩), .int .i64 i] w fun e w' => e = .returned (.tuple #[.pointer none, .bool false]) ∧ w' = w := by
  have c1 := h.c1
  clear h
  by_cases h0 : i < 0
  · go_enter Try.func38, Try.ntmps38
    go_wp2_with fail
    go_ret2
    exact ⟨rfl, rfl⟩
  · have h1 : (s.n : Int) ≤ i := by omega
    go_enter Try.func38, Try.ntmps38
    go_wp2_with fail
    go_ret2
    exact ⟨rfl, rfl⟩
theorem sLane_nil (i : Int) (w : World) : Calls Try.prog 38 #[.pointer none, .int .i64 i] w fun e w' => e = .returned (.tuple #[.pointer none, .bool false]) ∧ w' = w := by
  go_enter Try.func38, Try.ntmps38
  go_wp2_with fail
  go_ret2
  exact ⟨rfl, rfl⟩

theorem sQueued_yes (B g : Nat) (s : Sh) (i : Nat) (l : La) (w : World) (h : Sw w B g s) (hl : s.ls[i]? = some l) :
    Calls Try.prog 16 #[.pointer (some ⟨g, 0, none⟩), .int .i64 (i : Int)] w (AllR w l.q.L) := by
  have HS := Lib.hid h
  have HL := Lib.hid hl
  have hlw := h.lws l (List.mem_of_getElem? hl)
  have c5 := hlw.c5
  have HW := Lib.hid hlw
  clear h hl hlw
  go_enter Try.func16, Try.ntmps16
  go_wp2_with fail
  refine (sLane_yes B g s i l w HS.out HL.out).mono ?_
  rintro e w1 ⟨rfl, hw⟩
  subst hw
  go_wp2_with fail
  refine (fAll_any B l.gq l.q w1 HW.out.qu).mono ?_
  rintro e w2 ⟨hb, v, n, cap, ys, rfl, hc, hm⟩
  have HF : Hid (AllR w1 l.q.L (.returned (.slice v n cap)) w2) := ⟨hb, v, n, cap, ys, rfl, hc, hm⟩
  clear hb hc hm
  go_wp2_with fail
  go_ret
  exact HF.out
theorem sQueued_no (B g : Nat) (s : Sh) (i : Int) (w : World) (h : Sw w B g s) (hi : i < 0 ∨ (s.n : Int) ≤ i) :
    Calls Try.prog 16 #[.pointer (some ⟨g, 0, none⟩), .int .i64 i] w fun e w' => e = .returned (.slice none 0 0) ∧ w' = w := by
  have HS := Lib.hid h
  have HI := Lib.hid hi
  clear h hi
  go_enter Try.func16, Try.ntmps16
  go_wp2_with fail
  refine (sLane_no B g s i w HS.out HI.out).mono ?_
  rintro e w1 ⟨rfl, hw⟩
  subst hw
  go_wp2_with fail
  go_ret
  exact ⟨rfl, rfl⟩
theorem sQueued_nil (i : Int) (w : World) : Calls Try.prog 16 #[.pointer none, .int .i64 i] w fun e w' => e = .returned (.slice none 0 0) ∧ w' = w := by
  go_enter Try.func16, Try.ntmps16
  go_wp2_with fail
  refine (sLane_nil i w).mono ?_
  rintro e w1 ⟨rfl, hw⟩
  subst hw
  go_wp2_with fail
  go_ret
  exact ⟨rfl, rfl⟩

set_option maxRecDepth 100000 in
set_option maxHeartbeats 1000000 in
theorem sStat_yes (B g : Nat) (s : Sh) (i : Nat) (l : La) (w : World) (h : Sw w B g s) (hl : s.ls[i]? = some l) :
    Calls Try.prog 24 #[.pointer (some ⟨g, 0, none⟩), .int .i64 (i : Int)] w (Gives w (statV l.o l.d l.u l.y)) := by
  have hb0 : Below w.heap.size w (w.alloc (.cells #[.int .u64 0, .int .u64 0, .int .u64 0, .int .u64 0] 67)) := (Below.refl _ _).alloc (Nat.le_refl _) _
  have hr0 : (w.alloc (.cells #[.int .u64 0, .int .u64 0, .int .u64 0, .int .u64 0] 67)).heap[w.heap.size]? = some (.cells #[.int .u64 0, .int .u64 0, .int .u64 0, .int .u64 0] 67 (0, 0)) := Blk_new _ _ _
  obtain ⟨w0, hw0⟩ : ∃ z, w.alloc (.cells #[.int .u64 0, .int .u64 0, .int .u64 0, .int .u64 0] 67) = z := ⟨_, rfl⟩
  rw [hw0] at hb0 hr0
  have H0 : Hid (Below w.heap.size w w0 ∧ Sw w0 B g s ∧ w0.heap[w.heap.size]? = some (.cells #[.int .u64 0, .int .u64 0, .int .u64 0, .int .u64 0] 67 (0, 0))) := ⟨hb0, h.below hb0, hr0⟩
  have HL := Lib.hid hl
  clear h hb0 hr0 hl
  go_enter Try.func24, Try.ntmps24
  go_wp2_with fail
  clear hw0
  refine (sLane_yes B g s i l w0 H0.out.2.1 HL.out).mono ?_
  rintro e w1 ⟨rfl, hw⟩
  subst hw
  go_wp2_with fail
  refine (stat_any B l w1 (H0.out.2.1.lws l (List.mem_of_getElem? HL.out))).mono ?_
  rintro e w2 ⟨rfl, hb2⟩
  rw [show statV l.o l.d l.u l.y = .agg #[.int .u64 l.o, .int .u64 l.d, .int .u64 l.u, .int .u64 l.y] from rfl]
  have hlt : w.heap.size < w1.heap.size := (Array.getElem?_eq_some_iff.1 H0.out.2.2).1
  have hr2 := (hb2.block _ hlt).trans H0.out.2.2
  have hbb : Below w.heap.size w w2 := H0.out.1.trans (hb2.mono (by omega))
  have a0 := q4_0 hr2
  have a1 := q4_1 hr2
  have a2 := q4_2 hr2
  have a3 := q4_3 hr2
  have g0 : w2.frozen? ⟨w.heap.size, 0, none⟩ = false := frozen_of_row w2 _ 0 _ _ hr2
  have g1 : w2.frozen? ⟨w.heap.size, 1, none⟩ = false := frozen_of_row w2 _ 1 _ _ hr2
  have g2 : w2.frozen? ⟨w.heap.size, 2, none⟩ = false := frozen_of_row w2 _ 2 _ _ hr2
  have g3 : w2.frozen? ⟨w.heap.size, 3, none⟩ = false := frozen_of_row w2 _ 3 _ _ hr2
  have HB := Lib.hid hbb
  clear hb2 hlt hr2 hbb H0 HL
  go_wp2_with fail
  refine bodyPost_ret (v := .agg #[.int .u64 l.o, .int .u64 l.d, .int .u64 l.u, .int .u64 l.y]) (by simp [results, Try.results24, go_sem, *]) rfl ?_
  exact ⟨rfl, (((HB.out.setCell (p := ⟨w.heap.size, 0, none⟩) (Nat.le_refl _) _).setCell (p := ⟨w.heap.size, 1, none⟩) (Nat.le_refl _) _).setCell (p := ⟨w.heap.size, 2, none⟩) (Nat.le_refl _) _).setCell (p := ⟨w.heap.size, 3, none⟩) (Nat.le_refl _) _⟩
set_option maxRecDepth 100000 in
theorem sStat_zero (p : Value) (i : Int) (w : World) (hl : ∀ w, Calls Try.prog 38 #[p, .int .i64 i] w fun e w' => e = .returned (.tuple #[.pointer none, .bool false]) ∧ w' = w) :
    Calls Try.prog 24 #[p, .int .i64 i] w (Gives w (statV 0 0 0 0)) := by
  have HL := Lib.hid hl
  clear hl
  go_enter Try.func24, Try.ntmps24
  go_wp2_with fail
  refine (HL.out _).mono ?_
  rintro e w1 ⟨rfl, hw⟩
  subst hw
  go_wp2_with fail
  refine bodyPost_ret (v := statV 0 0 0 0) (by simp [results, Try.results24, go_sem, statV, *]) rfl ?_
  exact ⟨rfl, (Below.refl _ _).alloc (Nat.le_refl _) _⟩
end Go.Proofs.Ytpigpeehhadkjaa

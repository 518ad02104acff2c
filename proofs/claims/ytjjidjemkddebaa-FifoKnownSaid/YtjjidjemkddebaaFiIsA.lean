/-
  The statements' comparison of a queue with the document's in pieces. Conditions: those that the theorems name. (Made by gen_fiis.py.)
-/
import Derived.Test.YtjjidjemkddebaaFiIsM
import Derived.Deep.RegionWith
namespace Go.Proofs.Ytjjidjemkddebaa
open Go.RowKit

noncomputable def KI : Code := Try.f20.body.getD .skip
set_option maxRecDepth 100000 in
theorem fr105 {a : Act} (h : Fr 105 a) : ∃ f : Nat → Value, a = ⟨#[f 0, f 1, f 2, f 3, f 4, f 5, f 6, f 7, f 8, f 9, f 10, f 11, f 12, f 13, f 14, f 15, f 16, f 17, f 18, f 19, f 20, f 21, f 22, f 23, f 24, f 25, f 26, f 27, f 28, f 29, f 30, f 31, f 32, f 33, f 34, f 35, f 36, f 37, f 38, f 39, f 40, f 41, f 42, f 43, f 44, f 45, f 46, f 47, f 48, f 49, f 50, f 51, f 52, f 53, f 54, f 55, f 56, f 57, f 58, f 59, f 60, f 61, f 62, f 63, f 64, f 65, f 66, f 67, f 68, f 69, f 70, f 71, f 72, f 73, f 74, f 75, f 76, f 77, f 78, f 79, f 80, f 81, f 82, f 83, f 84, f 85, f 86, f 87, f 88, f 89, f 90, f 91, f 92, f 93, f 94, f 95, f 96, f 97, f 98, f 99, f 100, f 101, f 102, f 103, f 104], []⟩ ∧ ∀ i, f i = sl a i := fr_any h

set_option maxRecDepth 100000 in
set_option maxHeartbeats 4000000 in
theorem i0 (w : World) (B g : Nat) (q : Qs) (ra : Option Addr) (n c : Nat) (HQ : Hid (Qu w B g q)) (HR : Hid (Rt w ra n q.abs.l)) (a : Act) (hf : Fr 105 a) (h0 : sl a 0 = .pointer (some ⟨g, 0, none⟩)) (h1 : sl a 1 = .agg #[.slice ra n c, .int .i64 q.I, .int .i64 q.S, .int .u64 q.D]) :
    Code.wp Try.prog (cAt [0] KI) (Exit.then (fun a' w' => ∃ bx, Fr 105 a' ∧ sl a' 0 = .pointer (some ⟨g, 0, none⟩) ∧ sl a' 3 = .pointer (some ⟨bx, 0, none⟩) ∧ Iw w w' B g bx q ra n c) Nope) a w := by
  obtain ⟨f, ha, hs⟩ := fr105 hf
  have e0 := (hs 0).trans h0
  have e1 := (hs 1).trans h1
  rw [e0, e1] at ha
  clear hs hf e0 h0 e1 h1
  subst ha
  refine piece2 fun J0 K0 hJ0 hK0 => ?_
  conv => arg 2; whnf
  have hb : Below w.heap.size w (w.alloc (.cells #[.slice ra n c, .int .i64 q.I, .int .i64 q.S, .int .u64 q.D] 32)) := (Below.refl _ _).alloc (Nat.le_refl _) _
  have H1 : Hid (Iw w (w.alloc (.cells #[.slice ra n c, .int .i64 q.I, .int .i64 q.S, .int .u64 q.D] 32)) B g w.heap.size q ra n c) := ⟨HQ.out.below hb, HR.out.below hb, Blk_new w _ _, hb⟩
  clear hb
  go_wp2_with fail
  refine Met.intro (hJ0 _ _ ?_)
  exact ⟨_, ⟨rfl, rfl⟩, rfl, rfl, H1.out⟩

set_option maxRecDepth 100000 in
set_option maxHeartbeats 4000000 in
theorem i1 (wr : World) (g bx : Nat) (a : Act) (hf : Fr 105 a) (h0 : sl a 0 = .pointer (some ⟨g, 0, none⟩)) (h3 : sl a 3 = .pointer (some ⟨bx, 0, none⟩)) :
    Code.wp Try.prog (cAt [1,0,0] KI) (Exit.then (fun a' w' => Fr 105 a' ∧ sl a' 0 = .pointer (some ⟨g, 0, none⟩) ∧ sl a' 3 = .pointer (some ⟨bx, 0, none⟩) ∧ sl a' 5 = .int .i64 0 ∧ wr = w') Nope) a wr := by
  obtain ⟨f, ha, hs⟩ := fr105 hf
  have e0 := (hs 0).trans h0
  have e3 := (hs 3).trans h3
  rw [e0, e3] at ha
  clear hs hf e0 h0 e3 h3
  subst ha
  refine piece2 fun J0 K0 hJ0 hK0 => ?_
  conv => arg 2; whnf
  go_wp2_with fail
  refine Met.intro (hJ0 _ _ ?_)
  exact ⟨⟨rfl, rfl⟩, rfl, rfl, rfl, rfl⟩

set_option maxRecDepth 100000 in
set_option maxHeartbeats 4000000 in
theorem i2 (wr : World) (g bx t : Nat) (ht : t < 2) (a : Act) (hf : Fr 105 a) (h0 : sl a 0 = .pointer (some ⟨g, 0, none⟩)) (h3 : sl a 3 = .pointer (some ⟨bx, 0, none⟩)) (h5 : sl a 5 = .int .i64 (t : Int)) :
    Code.wp Try.prog (cAt [1,0,1,2,2,0] KI) (Exit.then (fun a' w' => Fr 105 a' ∧ sl a' 0 = .pointer (some ⟨g, 0, none⟩) ∧ sl a' 3 = .pointer (some ⟨bx, 0, none⟩) ∧ sl a' 5 = .int .i64 (t : Int) ∧ wr = w') Nope) a wr := by
  obtain ⟨f, ha, hs⟩ := fr105 hf
  have e0 := (hs 0).trans h0
  have e3 := (hs 3).trans h3
  have e5 := (hs 5).trans h5
  rw [e0, e3, e5] at ha
  clear hs hf e0 h0 e3 h3 e5 h5
  subst ha
  refine piece2 fun J0 K0 hJ0 hK0 => ?_
  conv => arg 2; whnf
  have ht2 : (t : Int) < 2 := by omega
  go_wp2_with fail
  refine Met.intro (hJ0 _ _ ?_)
  exact ⟨⟨rfl, rfl⟩, rfl, rfl, rfl, rfl⟩

set_option maxRecDepth 100000 in
set_option maxHeartbeats 4000000 in
theorem i2x (wr : World) (g bx t : Nat) (ht : ¬ t < 2) (a : Act) (hf : Fr 105 a) (h0 : sl a 0 = .pointer (some ⟨g, 0, none⟩)) (h3 : sl a 3 = .pointer (some ⟨bx, 0, none⟩)) (h5 : sl a 5 = .int .i64 (t : Int)) :
    Code.wp Try.prog (cAt [1,0,1,2,2] KI) (Outs 0 (fun a' w' => Fr 105 a' ∧ sl a' 0 = .pointer (some ⟨g, 0, none⟩) ∧ sl a' 3 = .pointer (some ⟨bx, 0, none⟩) ∧ wr = w')) a wr := by
  obtain ⟨f, ha, hs⟩ := fr105 hf
  have e0 := (hs 0).trans h0
  have e3 := (hs 3).trans h3
  have e5 := (hs 5).trans h5
  rw [e0, e3, e5] at ha
  clear hs hf e0 h0 e3 h3 e5 h5
  subst ha
  conv => arg 2; whnf
  go_wp2_with fail
  exact ⟨rfl, ⟨rfl, rfl⟩, rfl, rfl, rfl⟩

set_option maxRecDepth 100000 in
set_option maxHeartbeats 4000000 in
theorem i3 (wr : World) (g bx t : Nat) (ht : t < 2) (a : Act) (hf : Fr 105 a) (h0 : sl a 0 = .pointer (some ⟨g, 0, none⟩)) (h3 : sl a 3 = .pointer (some ⟨bx, 0, none⟩)) (h5 : sl a 5 = .int .i64 (t : Int)) :
    Code.wp Try.prog (cAt [1,0,1,2,2,1,1] KI) (Exit.then (fun a' w' => Fr 105 a' ∧ sl a' 0 = .pointer (some ⟨g, 0, none⟩) ∧ sl a' 3 = .pointer (some ⟨bx, 0, none⟩) ∧ sl a' 5 = .int .i64 ((t : Int) + 1) ∧ wr = w') Nope) a wr := by
  obtain ⟨f, ha, hs⟩ := fr105 hf
  have e0 := (hs 0).trans h0
  have e3 := (hs 3).trans h3
  have e5 := (hs 5).trans h5
  rw [e0, e3, e5] at ha
  clear hs hf e0 h0 e3 h3 e5 h5
  subst ha
  refine piece2 fun J0 K0 hJ0 hK0 => ?_
  conv => arg 2; whnf
  go_wp2_with fail
  refine Met.intro (hJ0 _ _ ?_)
  exact ⟨⟨rfl, rfl⟩, rfl, rfl, rfl, rfl⟩

set_option maxRecDepth 100000 in
set_option maxHeartbeats 4000000 in
theorem i4 (w wr : World) (B g bx : Nat) (q : Qs) (ra : Option Addr) (n c : Nat) (t : Nat) (HI : Hid (Iw w wr B g bx q ra n c)) (a : Act) (hf : Fr 105 a) (h0 : sl a 0 = .pointer (some ⟨g, 0, none⟩)) (h3 : sl a 3 = .pointer (some ⟨bx, 0, none⟩)) (h5 : sl a 5 = .int .i64 (t : Int)) :
    Code.wp Try.prog (cAt [1,0,1,2,2,1,0,2,0] KI) (Exit.then (fun a' w' => ∃ v m vc ys, Fr 105 a' ∧ sl a' 0 = .pointer (some ⟨g, 0, none⟩) ∧ sl a' 3 = .pointer (some ⟨bx, 0, none⟩) ∧ sl a' 5 = .int .i64 (t : Int) ∧ sl a' 6 = .slice v m vc ∧ Iw w w' B g bx q ra n c ∧ Iv wr w' v m vc ys 0 ∧ ys.length = m ∧ ys.map Pi.it = q.abs.l ∧ ys.Pairwise (fun o p => ∀ k, blk o.a = some k → blk p.a ≠ some k)) Nope) a wr := by
  obtain ⟨f, ha, hs⟩ := fr105 hf
  have e0 := (hs 0).trans h0
  have e3 := (hs 3).trans h3
  have e5 := (hs 5).trans h5
  rw [e0, e3, e5] at ha
  clear hs hf e0 h0 e3 h3 e5 h5
  subst ha
  refine piece2 fun J0 K0 hJ0 hK0 => ?_
  conv => arg 2; whnf
  go_wp2_with fail
  refine (fAll_any B g q wr HI.out.qu).mono ?_
  rintro e w1 ⟨hb1, v, m, vc, ys, rfl, hcp, hm⟩
  have H1 : Hid (Iw w w1 B g bx q ra n c ∧ Iv wr w1 v m vc ys 0 ∧ ys.length = m ∧ ys.map Pi.it = q.abs.l ∧ ys.Pairwise (fun o p => ∀ k, blk o.a = some k → blk p.a ≠ some k)) := ⟨HI.out.past hb1, Iv.start hcp hb1, hcp.len, hm, hcp.apart⟩
  clear hb1 hcp hm
  go_wp2_with fail
  refine Met.intro (hJ0 _ _ ?_)
  exact ⟨v, m, vc, ys, ⟨rfl, rfl⟩, rfl, rfl, rfl, rfl, H1.out⟩

set_option maxRecDepth 100000 in
set_option maxHeartbeats 4000000 in
theorem i5 (w wr : World) (B g bx : Nat) (q : Qs) (ra : Option Addr) (n c : Nat) (t : Nat) (v : Option Addr) (vc : Nat) (HI : Hid (Iw w wr B g bx q ra n c)) (HOK : Hid q.abs.ok) (HL : Hid (q.L.length = n)) (a : Act) (hf : Fr 105 a) (h0 : sl a 0 = .pointer (some ⟨g, 0, none⟩)) (h3 : sl a 3 = .pointer (some ⟨bx, 0, none⟩)) (h5 : sl a 5 = .int .i64 (t : Int)) (h6 : sl a 6 = .slice v n vc) :
    Code.wp Try.prog (cAt [1,0,1,2,2,1,0,2,1,0] KI) (Exit.then (fun a' w' => Fr 105 a' ∧ sl a' 0 = .pointer (some ⟨g, 0, none⟩) ∧ sl a' 3 = .pointer (some ⟨bx, 0, none⟩) ∧ sl a' 5 = .int .i64 (t : Int) ∧ sl a' 6 = .slice v n vc ∧ Iw w w' B g bx q ra n c ∧ Below wr.heap.size wr w') Nope) a wr := by
  obtain ⟨f, ha, hs⟩ := fr105 hf
  have e0 := (hs 0).trans h0
  have e3 := (hs 3).trans h3
  have e5 := (hs 5).trans h5
  have e6 := (hs 6).trans h6
  rw [e0, e3, e5, e6] at ha
  clear hs hf e0 h0 e3 h3 e5 h5 e6 h6
  subst ha
  refine piece2 fun J0 K0 hJ0 hK0 => ?_
  conv => arg 2; whnf
  have HS : Hid (wr.drew.heap[bx]? = some (.cells #[.slice ra n c, .int .i64 q.I, .int .i64 q.S, .int .u64 q.D] 32 (0, 0))) := HI.out.box
  have H0 := Lib.hid (HI.out.past (show Below wr.heap.size wr wr.drew from (Below.refl _ _).drew))
  go_wp2_with fail
  refine wp_region_held_drew (S := fun w' => w'.heap[bx]? = some (.cells #[.slice ra n c, .int .i64 q.I, .int .i64 q.S, .int .u64 q.D] 32 (0, 0))) (by kernel_rfl) HS.out (fun hS => ?_)
  refine tk 0 20 (.slice v n vc) rfl rfl (by kernel_rfl) (by kernel_rfl) (by kernel_rfl) (fun _ _ _ h => h) (Or.inl ⟨by rfl, fun w' h' => ?_⟩) hS ?_
  · go_simp
  try simp only [Act.put, List.setIfInBounds_toArray, List.set_cons_zero, List.set_cons_succ]
  refine tk 1 21 (.int .i64 (n : Int)) rfl rfl (by kernel_rfl) (by kernel_rfl) (by kernel_rfl) (fun _ _ _ h => h) (Or.inl ⟨by rfl, fun w' h' => ?_⟩) hS ?_
  · go_simp
  try simp only [Act.put, List.setIfInBounds_toArray, List.set_cons_zero, List.set_cons_succ]
  refine tk 2 22 (.pointer (some ⟨bx, 0, none⟩)) rfl rfl (by kernel_rfl) (by kernel_rfl) (by kernel_rfl) (fun _ _ _ h => h) (Or.inl ⟨by rfl, fun w' h' => ?_⟩) hS ?_
  · go_simp
  try simp only [Act.put, List.setIfInBounds_toArray, List.set_cons_zero, List.set_cons_succ]
  refine tk 3 23 (.slice ra n c) rfl rfl (by kernel_rfl) (by kernel_rfl) (by kernel_rfl) (fun _ _ _ h => h) (Or.inl ⟨by rfl, fun w' h' => ?_⟩) hS ?_
  · have c0 := q4_0 h'
    go_simp
  try simp only [Act.put, List.setIfInBounds_toArray, List.set_cons_zero, List.set_cons_succ]
  refine tk 4 24 (.int .i64 (n : Int)) rfl rfl (by kernel_rfl) (by kernel_rfl) (by kernel_rfl) (fun _ _ _ h => h) (Or.inl ⟨by rfl, fun w' h' => ?_⟩) hS ?_
  · go_simp
  try simp only [Act.put, List.setIfInBounds_toArray, List.set_cons_zero, List.set_cons_succ]
  refine tk 5 25 (.bool false) rfl rfl (by kernel_rfl) (by kernel_rfl) (by kernel_rfl) (fun _ _ _ h => h) (Or.inl ⟨by rfl, fun w' h' => ?_⟩) hS ?_
  · go_simp
  try simp only [Act.put, List.setIfInBounds_toArray, List.set_cons_zero, List.set_cons_succ]
  refine tk 6 26 (.bool false) rfl rfl (by kernel_rfl) (by kernel_rfl) (by kernel_rfl) (fun _ _ _ h => h) (Or.inl ⟨by rfl, fun w' h' => ?_⟩) hS ?_
  · go_simp
  try simp only [Act.put, List.setIfInBounds_toArray, List.set_cons_zero, List.set_cons_succ]
  refine tk 7 27 (.pointer (some ⟨g, 0, none⟩)) rfl rfl (by kernel_rfl) (by kernel_rfl) (by kernel_rfl) (fun _ _ _ h => h) (Or.inl ⟨by rfl, fun w' h' => ?_⟩) hS ?_
  · go_simp
  try simp only [Act.put, List.setIfInBounds_toArray, List.set_cons_zero, List.set_cons_succ]
  refine tk 9 29 (.pointer (some ⟨bx, 0, none⟩)) rfl rfl (by kernel_rfl) (by kernel_rfl) (by kernel_rfl) (fun _ _ _ h => h) (Or.inl ⟨by rfl, fun w' h' => ?_⟩) hS ?_
  · go_simp
  try simp only [Act.put, List.setIfInBounds_toArray, List.set_cons_zero, List.set_cons_succ]
  refine tk 10 30 (.slice ra n c) rfl rfl (by kernel_rfl) (by kernel_rfl) (by kernel_rfl) (fun _ _ _ h => h) (Or.inl ⟨by rfl, fun w' h' => ?_⟩) hS ?_
  · have c0 := q4_0 h'
    go_simp
  try simp only [Act.put, List.setIfInBounds_toArray, List.set_cons_zero, List.set_cons_succ]
  refine tk 11 31 (.int .i64 (n : Int)) rfl rfl (by kernel_rfl) (by kernel_rfl) (by kernel_rfl) (fun _ _ _ h => h) (Or.inl ⟨by rfl, fun w' h' => ?_⟩) hS ?_
  · go_simp
  try simp only [Act.put, List.setIfInBounds_toArray, List.set_cons_zero, List.set_cons_succ]
  refine wpAnyH_ready (rs := [8]) (by kernel_rfl) (by simp) (AllReadyH.cons rfl (fun K hK => ?_) AllReadyH.nil)
  rw [if_pos (by rfl)]
  go_wp2_with fail
  refine (fLen_any B g q _ H0.out.qu).mono ?_
  rintro e v1 ⟨rfl, hv1⟩
  subst hv1
  rw [HL.out]
  clear hS
  refine hK.out _ _ (HS.out) (fun hS => ?_)
  clear hK K
  try simp only [Act.put, List.setIfInBounds_toArray, List.set_cons_zero, List.set_cons_succ]
  refine tk 12 32 (.bool false) rfl rfl (by kernel_rfl) (by kernel_rfl) (by kernel_rfl) (fun _ _ _ h => h) (Or.inl ⟨by rfl, fun w' h' => ?_⟩) hS ?_
  · go_simp
  try simp only [Act.put, List.setIfInBounds_toArray, List.set_cons_zero, List.set_cons_succ]
  refine tk 13 33 (.bool false) rfl rfl (by kernel_rfl) (by kernel_rfl) (by kernel_rfl) (fun _ _ _ h => h) (Or.inl ⟨by rfl, fun w' h' => ?_⟩) hS ?_
  · go_simp
  try simp only [Act.put, List.setIfInBounds_toArray, List.set_cons_zero, List.set_cons_succ]
  refine tk 14 34 (.bool false) rfl rfl (by kernel_rfl) (by kernel_rfl) (by kernel_rfl) (fun _ _ _ h => h) (Or.inl ⟨by rfl, fun w' h' => ?_⟩) hS ?_
  · go_simp
  try simp only [Act.put, List.setIfInBounds_toArray, List.set_cons_zero, List.set_cons_succ]
  refine tk 15 35 (.pointer (some ⟨g, 0, none⟩)) rfl rfl (by kernel_rfl) (by kernel_rfl) (by kernel_rfl) (fun _ _ _ h => h) (Or.inl ⟨by rfl, fun w' h' => ?_⟩) hS ?_
  · go_simp
  try simp only [Act.put, List.setIfInBounds_toArray, List.set_cons_zero, List.set_cons_succ]
  refine tk 17 37 (.agg #[.slice ra n c, .int .i64 q.I, .int .i64 q.S, .int .u64 q.D]) rfl rfl (by kernel_rfl) (by kernel_rfl) (by kernel_rfl) (fun _ _ _ h => h) (Or.inl ⟨by rfl, fun w' h' => ?_⟩) hS ?_
  · have c0 := q4_0 h'
    have c1 := q4_1 h'
    have c2 := q4_2 h'
    have c3 := q4_3 h'
    go_simp
  try simp only [Act.put, List.setIfInBounds_toArray, List.set_cons_zero, List.set_cons_succ]
  refine wpAnyH_ready (rs := [16]) (by kernel_rfl) (by simp) (AllReadyH.cons rfl (fun K hK => ?_) AllReadyH.nil)
  rw [if_pos (by rfl)]
  go_wp2_with fail
  refine (fSize_any B g q _ H0.out.qu).mono ?_
  rintro e v1 ⟨rfl, hv1⟩
  subst hv1
  clear hS
  refine hK.out _ _ (HS.out) (fun hS => ?_)
  clear hK K
  try simp only [Act.put, List.setIfInBounds_toArray, List.set_cons_zero, List.set_cons_succ]
  refine wpAnyH_ready (rs := [18]) (by kernel_rfl) (by simp) (AllReadyH.cons rfl (fun K hK => ?_) AllReadyH.nil)
  rw [if_pos (by rfl)]
  go_wp2_with fail
  refine (rSize_any ra n c q.abs _ H0.out.rt HOK.out).mono ?_
  rintro e w1 ⟨rfl, hb1⟩
  rw [abs_size]
  have H1 := Lib.hid (H0.out.past hb1)
  have HW1 : Hid (Below wr.heap.size wr w1) := ⟨hb1.os, hb1.tape, hb1.output, hb1.size, hb1.block⟩
  clear hb1
  clear hS
  refine hK.out _ _ (H1.out.box) (fun hS => ?_)
  clear hK K
  try simp only [Act.put, List.setIfInBounds_toArray, List.set_cons_zero, List.set_cons_succ]
  refine tk 19 39 (.bool false) rfl rfl (by kernel_rfl) (by kernel_rfl) (by kernel_rfl) (fun _ _ _ h => h) (Or.inl ⟨by rfl, fun w' h' => ?_⟩) hS ?_
  · go_simp
  try simp only [Act.put, List.setIfInBounds_toArray, List.set_cons_zero, List.set_cons_succ]
  refine tk 20 40 (.bool false) rfl rfl (by kernel_rfl) (by kernel_rfl) (by kernel_rfl) (fun _ _ _ h => h) (Or.inl ⟨by rfl, fun w' h' => ?_⟩) hS ?_
  · go_simp
  try simp only [Act.put, List.setIfInBounds_toArray, List.set_cons_zero, List.set_cons_succ]
  refine tk 21 41 (.bool false) rfl rfl (by kernel_rfl) (by kernel_rfl) (by kernel_rfl) (fun _ _ _ h => h) (Or.inl ⟨by rfl, fun w' h' => ?_⟩) hS ?_
  · go_simp
  try simp only [Act.put, List.setIfInBounds_toArray, List.set_cons_zero, List.set_cons_succ]
  refine tk 22 42 (.pointer (some ⟨g, 0, none⟩)) rfl rfl (by kernel_rfl) (by kernel_rfl) (by kernel_rfl) (fun _ _ _ h => h) (Or.inl ⟨by rfl, fun w' h' => ?_⟩) hS ?_
  · go_simp
  try simp only [Act.put, List.setIfInBounds_toArray, List.set_cons_zero, List.set_cons_succ]
  refine tk 24 44 (.pointer (some ⟨bx, 3, none⟩)) rfl rfl (by kernel_rfl) (by kernel_rfl) (by kernel_rfl) (fun _ _ _ h => h) (Or.inl ⟨by rfl, fun w' h' => ?_⟩) hS ?_
  · go_simp
  try simp only [Act.put, List.setIfInBounds_toArray, List.set_cons_zero, List.set_cons_succ]
  refine tk 25 45 (.int .u64 q.D) rfl rfl (by kernel_rfl) (by kernel_rfl) (by kernel_rfl) (fun _ _ _ h => h) (Or.inl ⟨by rfl, fun w' h' => ?_⟩) hS ?_
  · have c3 := q4_3 h'
    go_simp
  try simp only [Act.put, List.setIfInBounds_toArray, List.set_cons_zero, List.set_cons_succ]
  refine wpAnyH_ready (rs := [23]) (by kernel_rfl) (by simp) (AllReadyH.cons rfl (fun K hK => ?_) AllReadyH.nil)
  rw [if_pos (by rfl)]
  go_wp2_with fail
  refine (fDrops_any B g q _ H1.out.qu).mono ?_
  rintro e v1 ⟨rfl, hv1⟩
  subst hv1
  clear hS
  refine hK.out _ _ (H1.out.box) (fun hS => ?_)
  clear hK K
  try simp only [Act.put, List.setIfInBounds_toArray, List.set_cons_zero, List.set_cons_succ]
  refine tk 26 46 (.bool false) rfl rfl (by kernel_rfl) (by kernel_rfl) (by kernel_rfl) (fun _ _ _ h => h) (Or.inl ⟨by rfl, fun w' h' => ?_⟩) hS ?_
  · go_simp
  try simp only [Act.put, List.setIfInBounds_toArray, List.set_cons_zero, List.set_cons_succ]
  refine tk 27 47 (.bool false) rfl rfl (by kernel_rfl) (by kernel_rfl) (by kernel_rfl) (fun _ _ _ h => h) (Or.inl ⟨by rfl, fun w' h' => ?_⟩) hS ?_
  · go_simp
  refine wpAnyH_done (by kernel_rfl) ?_ _
  go_wp2_with fail
  refine Met.intro (hJ0 _ _ ?_)
  exact ⟨⟨rfl, rfl⟩, rfl, rfl, rfl, rfl, H1.out, HW1.out⟩

set_option maxRecDepth 100000 in
set_option maxHeartbeats 4000000 in
theorem i7 (wr : World) (g bx t : Nat) (v : Option Addr) (m vc : Nat) (a : Act) (hf : Fr 105 a) (h0 : sl a 0 = .pointer (some ⟨g, 0, none⟩)) (h3 : sl a 3 = .pointer (some ⟨bx, 0, none⟩)) (h5 : sl a 5 = .int .i64 (t : Int)) (h6 : sl a 6 = .slice v m vc) :
    Code.wp Try.prog (cAt [1,0,1,2,2,1,0,2,1,1,0] KI) (Exit.then (fun a' w' => Fr 105 a' ∧ sl a' 0 = .pointer (some ⟨g, 0, none⟩) ∧ sl a' 3 = .pointer (some ⟨bx, 0, none⟩) ∧ sl a' 5 = .int .i64 (t : Int) ∧ sl a' 6 = .slice v m vc ∧ sl a' 7 = .int .i64 0 ∧ wr = w') Nope) a wr := by
  obtain ⟨f, ha, hs⟩ := fr105 hf
  have e0 := (hs 0).trans h0
  have e3 := (hs 3).trans h3
  have e5 := (hs 5).trans h5
  have e6 := (hs 6).trans h6
  rw [e0, e3, e5, e6] at ha
  clear hs hf e0 h0 e3 h3 e5 h5 e6 h6
  subst ha
  refine piece2 fun J0 K0 hJ0 hK0 => ?_
  conv => arg 2; whnf
  go_wp2_with fail
  refine Met.intro (hJ0 _ _ ?_)
  exact ⟨⟨rfl, rfl⟩, rfl, rfl, rfl, rfl, rfl, rfl⟩

set_option maxRecDepth 100000 in
set_option maxHeartbeats 4000000 in
theorem i8 (wr : World) (g bx t : Nat) (v : Option Addr) (m vc : Nat) (i : Nat) (hi : i < m) (a : Act) (hf : Fr 105 a) (h0 : sl a 0 = .pointer (some ⟨g, 0, none⟩)) (h3 : sl a 3 = .pointer (some ⟨bx, 0, none⟩)) (h5 : sl a 5 = .int .i64 (t : Int)) (h6 : sl a 6 = .slice v m vc) (h7 : sl a 7 = .int .i64 (i : Int)) :
    Code.wp Try.prog (cAt [1,0,1,2,2,1,0,2,1,1,1,2,2,0] KI) (Exit.then (fun a' w' => Fr 105 a' ∧ sl a' 0 = .pointer (some ⟨g, 0, none⟩) ∧ sl a' 3 = .pointer (some ⟨bx, 0, none⟩) ∧ sl a' 5 = .int .i64 (t : Int) ∧ sl a' 6 = .slice v m vc ∧ sl a' 7 = .int .i64 (i : Int) ∧ wr = w') Nope) a wr := by
  obtain ⟨f, ha, hs⟩ := fr105 hf
  have e0 := (hs 0).trans h0
  have e3 := (hs 3).trans h3
  have e5 := (hs 5).trans h5
  have e6 := (hs 6).trans h6
  have e7 := (hs 7).trans h7
  rw [e0, e3, e5, e6, e7] at ha
  clear hs hf e0 h0 e3 h3 e5 h5 e6 h6 e7 h7
  subst ha
  refine piece2 fun J0 K0 hJ0 hK0 => ?_
  conv => arg 2; whnf
  have hi2 : (i : Int) < (m : Int) := by omega
  go_wp2_with fail
  refine Met.intro (hJ0 _ _ ?_)
  exact ⟨⟨rfl, rfl⟩, rfl, rfl, rfl, rfl, rfl, rfl⟩

set_option maxRecDepth 100000 in
set_option maxHeartbeats 4000000 in
theorem i8x (wr : World) (g bx t : Nat) (v : Option Addr) (m vc : Nat) (i : Nat) (hi : ¬ i < m) (a : Act) (hf : Fr 105 a) (h0 : sl a 0 = .pointer (some ⟨g, 0, none⟩)) (h3 : sl a 3 = .pointer (some ⟨bx, 0, none⟩)) (h5 : sl a 5 = .int .i64 (t : Int)) (h6 : sl a 6 = .slice v m vc) (h7 : sl a 7 = .int .i64 (i : Int)) :
    Code.wp Try.prog (cAt [1,0,1,2,2,1,0,2,1,1,1,2,2] KI) (Outs 2 (fun a' w' => Fr 105 a' ∧ sl a' 0 = .pointer (some ⟨g, 0, none⟩) ∧ sl a' 3 = .pointer (some ⟨bx, 0, none⟩) ∧ sl a' 5 = .int .i64 (t : Int) ∧ sl a' 6 = .slice v m vc ∧ wr = w')) a wr := by
  obtain ⟨f, ha, hs⟩ := fr105 hf
  have e0 := (hs 0).trans h0
  have e3 := (hs 3).trans h3
  have e5 := (hs 5).trans h5
  have e6 := (hs 6).trans h6
  have e7 := (hs 7).trans h7
  rw [e0, e3, e5, e6, e7] at ha
  clear hs hf e0 h0 e3 h3 e5 h5 e6 h6 e7 h7
  subst ha
  conv => arg 2; whnf
  go_wp2_with fail
  exact ⟨rfl, ⟨rfl, rfl⟩, rfl, rfl, rfl, rfl, rfl⟩

set_option maxRecDepth 100000 in
set_option maxHeartbeats 4000000 in
theorem i9 (wr : World) (g bx t : Nat) (v : Option Addr) (m vc : Nat) (i : Nat) (hi : i < 65536) (a : Act) (hf : Fr 105 a) (h0 : sl a 0 = .pointer (some ⟨g, 0, none⟩)) (h3 : sl a 3 = .pointer (some ⟨bx, 0, none⟩)) (h5 : sl a 5 = .int .i64 (t : Int)) (h6 : sl a 6 = .slice v m vc) (h7 : sl a 7 = .int .i64 (i : Int)) :
    Code.wp Try.prog (cAt [1,0,1,2,2,1,0,2,1,1,1,2,2,1,1] KI) (Exit.then (fun a' w' => Fr 105 a' ∧ sl a' 0 = .pointer (some ⟨g, 0, none⟩) ∧ sl a' 3 = .pointer (some ⟨bx, 0, none⟩) ∧ sl a' 5 = .int .i64 (t : Int) ∧ sl a' 6 = .slice v m vc ∧ sl a' 7 = .int .i64 ((i : Int) + 1) ∧ wr = w') Nope) a wr := by
  obtain ⟨f, ha, hs⟩ := fr105 hf
  have e0 := (hs 0).trans h0
  have e3 := (hs 3).trans h3
  have e5 := (hs 5).trans h5
  have e6 := (hs 6).trans h6
  have e7 := (hs 7).trans h7
  rw [e0, e3, e5, e6, e7] at ha
  clear hs hf e0 h0 e3 h3 e5 h5 e6 h6 e7 h7
  subst ha
  refine piece2 fun J0 K0 hJ0 hK0 => ?_
  conv => arg 2; whnf
  go_wp2_with fail
  refine Met.intro (hJ0 _ _ ?_)
  exact ⟨⟨rfl, rfl⟩, rfl, rfl, rfl, rfl, rfl, rfl⟩

set_option maxRecDepth 100000 in
set_option maxHeartbeats 4000000 in
theorem i10 (w wr : World) (B g bx : Nat) (q : Qs) (ra : Option Addr) (n c : Nat) (t i g2 m vc : Nat) (y : Pi) (HI : Hid (Iw w wr B g bx q ra n c)) (hi : i < m) (hm : m ≤ 65536) (HYL : Hid (q.abs.l.length = m)) (HYI : Hid (q.abs.l[i]? = some y.it)) (HYR : Hid (World.rangeAt wr g2 (i * 3) y.cs)) (HAT : Hid (y.at_ wr)) (a : Act) (hf : Fr 105 a) (h0 : sl a 0 = .pointer (some ⟨g, 0, none⟩)) (h3 : sl a 3 = .pointer (some ⟨bx, 0, none⟩)) (h5 : sl a 5 = .int .i64 (t : Int)) (h6 : sl a 6 = .slice (some ⟨g2, 0, none⟩) m vc) (h7 : sl a 7 = .int .i64 (i : Int)) :
    Code.wp Try.prog (cAt [1,0,1,2,2,1,0,2,1,1,1,2,2,1,0,2,0] KI) (Exit.then (fun a' w' => Fr 105 a' ∧ sl a' 0 = .pointer (some ⟨g, 0, none⟩) ∧ sl a' 3 = .pointer (some ⟨bx, 0, none⟩) ∧ sl a' 5 = .int .i64 (t : Int) ∧ sl a' 6 = .slice (some ⟨g2, 0, none⟩) m vc ∧ sl a' 7 = .int .i64 (i : Int) ∧ Below wr.heap.size wr w') Nope) a wr := by
  obtain ⟨f, ha, hs⟩ := fr105 hf
  have e0 := (hs 0).trans h0
  have e3 := (hs 3).trans h3
  have e5 := (hs 5).trans h5
  have e6 := (hs 6).trans h6
  have e7 := (hs 7).trans h7
  rw [e0, e3, e5, e6, e7] at ha
  clear hs hf e0 h0 e3 h3 e5 h5 e6 h6 e7 h7
  subst ha
  refine piece2 fun J0 K0 hJ0 hK0 => ?_
  conv => arg 2; whnf
  obtain ⟨no, sz, ya, yn, yc, yd⟩ := y
  have hi2 : (i : Int) < (m : Int) := by omega
  have hi0 : (0 : Int) ≤ (i : Int) := by omega
  obtain ⟨T, hT⟩ : ∃ z, str yd = z := ⟨_, rfl⟩
  have HT := Lib.hid hT
  have hzn : n = m := by have := HI.out.rt.len; rw [HYL.out] at this; exact this.symm
  subst hzn
  obtain ⟨z, rb, ro, hz, hra, hrg⟩ := HI.out.rt.nth (k := i) hi
  have hzt : z = Pi.it ⟨no, sz, ya, yn, yc, yd⟩ := by
    have := HYI.out
    rw [hz] at this
    simpa using this
  subst hzt
  subst hra
  have HRG := Lib.hid hrg
  have HS : Hid (wr.drew.heap[bx]? = some (.cells #[.slice (some ⟨rb, ro, none⟩) n c, .int .i64 q.I, .int .i64 q.S, .int .u64 q.D] 32 (0, 0)) ∧ World.rangeAt wr.drew g2 (i * 3) (Pi.cs ⟨no, sz, ya, yn, yc, yd⟩) ∧ World.rangeAt wr.drew rb (ro + i * 3) (It.cs (Pi.it ⟨no, sz, ya, yn, yc, yd⟩))) := ⟨HI.out.box, HYR.out, hrg⟩
  have hbd : Below wr.heap.size wr wr.drew := (Below.refl _ _).drew
  have H0 : Hid (Pi.at_ ⟨no, sz, ya, yn, yc, yd⟩ wr.drew) := HAT.out.below hbd
  clear hz hrg hbd hT
  go_wp2_with fail
  refine wp_region_held_drew (S := fun w' => w'.heap[bx]? = some (.cells #[.slice (some ⟨rb, ro, none⟩) n c, .int .i64 q.I, .int .i64 q.S, .int .u64 q.D] 32 (0, 0)) ∧ World.rangeAt w' g2 (i * 3) (Pi.cs ⟨no, sz, ya, yn, yc, yd⟩) ∧ World.rangeAt w' rb (ro + i * 3) (It.cs (Pi.it ⟨no, sz, ya, yn, yc, yd⟩))) (by kernel_rfl) HS.out (fun hS => ?_)
  refine tk 0 54 (.slice (some ⟨g2, 0, none⟩) n vc) rfl rfl (by kernel_rfl) (by kernel_rfl) (by kernel_rfl) (fun _ _ _ h => h) (Or.inl ⟨by rfl, fun w' h' => ?_⟩) hS ?_
  · go_simp
  try simp only [Act.put, List.setIfInBounds_toArray, List.set_cons_zero, List.set_cons_succ]
  refine tk 1 55 (.int .i64 (i : Int)) rfl rfl (by kernel_rfl) (by kernel_rfl) (by kernel_rfl) (fun _ _ _ h => h) (Or.inl ⟨by rfl, fun w' h' => ?_⟩) hS ?_
  · go_simp
  try simp only [Act.put, List.setIfInBounds_toArray, List.set_cons_zero, List.set_cons_succ]
  refine tk 2 56 (.pointer (some ⟨g2, i * 3, none⟩)) rfl rfl (by kernel_rfl) (by kernel_rfl) (by kernel_rfl) (fun _ _ _ h => h) (Or.inl ⟨by rfl, fun w' h' => ?_⟩) hS ?_
  · go_simp
  try simp only [Act.put, List.setIfInBounds_toArray, List.set_cons_zero, List.set_cons_succ]
  refine tk 3 57 (.agg #[.int .u64 no, .int .i64 sz, .slice ya yn yc]) rfl rfl (by kernel_rfl) (by kernel_rfl) (by kernel_rfl) (fun _ _ _ h => h) (Or.inl ⟨by rfl, fun w' h' => ?_⟩) hS ?_
  · have c0 : w'.cell? ⟨g2, i * 3, none⟩ = some (.int .u64 no) := h'.2.1 0 _ rfl
    have c1 : w'.cell? ⟨g2, i * 3 + 1, none⟩ = some (.int .i64 sz) := h'.2.1 1 _ rfl
    have c2 : w'.cell? ⟨g2, i * 3 + 2, none⟩ = some (.slice ya yn yc) := h'.2.1 2 _ rfl
    go_simp
  try simp only [Act.put, List.setIfInBounds_toArray, List.set_cons_zero, List.set_cons_succ]
  refine tk 5 59 (.pointer (some ⟨bx, 0, none⟩)) rfl rfl (by kernel_rfl) (by kernel_rfl) (by kernel_rfl) (fun _ _ _ h => h) (Or.inl ⟨by rfl, fun w' h' => ?_⟩) hS ?_
  · go_simp
  try simp only [Act.put, List.setIfInBounds_toArray, List.set_cons_zero, List.set_cons_succ]
  refine tk 6 60 (.slice (some ⟨rb, ro, none⟩) n c) rfl rfl (by kernel_rfl) (by kernel_rfl) (by kernel_rfl) (fun _ _ _ h => h) (Or.inl ⟨by rfl, fun w' h' => ?_⟩) hS ?_
  · have c0 := q4_0 h'.1
    go_simp
  try simp only [Act.put, List.setIfInBounds_toArray, List.set_cons_zero, List.set_cons_succ]
  refine tk 7 61 (.int .i64 (i : Int)) rfl rfl (by kernel_rfl) (by kernel_rfl) (by kernel_rfl) (fun _ _ _ h => h) (Or.inl ⟨by rfl, fun w' h' => ?_⟩) hS ?_
  · go_simp
  try simp only [Act.put, List.setIfInBounds_toArray, List.set_cons_zero, List.set_cons_succ]
  refine tk 8 62 (.pointer (some ⟨rb, ro + i * 3, none⟩)) rfl rfl (by kernel_rfl) (by kernel_rfl) (by kernel_rfl) (fun _ _ _ h => h) (Or.inl ⟨by rfl, fun w' h' => ?_⟩) hS ?_
  · go_simp
  try simp only [Act.put, List.setIfInBounds_toArray, List.set_cons_zero, List.set_cons_succ]
  refine tk 9 63 (.agg #[.int .u64 no, .int .i64 sz, .string T]) rfl rfl (by kernel_rfl) (by kernel_rfl) (by kernel_rfl) (fun _ _ _ h => h) (Or.inl ⟨by rfl, fun w' h' => ?_⟩) hS ?_
  · have c0 : w'.cell? ⟨rb, ro + i * 3, none⟩ = some (.int .u64 no) := h'.2.2 0 _ rfl
    have c1 : w'.cell? ⟨rb, ro + i * 3 + 1, none⟩ = some (.int .i64 sz) := h'.2.2 1 _ rfl
    have c2 : w'.cell? ⟨rb, ro + i * 3 + 2, none⟩ = some (.string T) := by rw [← HT.out]; exact h'.2.2 2 _ rfl
    go_simp
  try simp only [Act.put, List.setIfInBounds_toArray, List.set_cons_zero, List.set_cons_succ]
  refine wpAnyH_ready (rs := [4]) (by kernel_rfl) (by simp) (AllReadyH.cons rfl (fun K hK => ?_) AllReadyH.nil)
  rw [if_pos (by rfl)]
  go_wp2_with fail
  refine (item_any ⟨no, sz, ya, yn, yc, yd⟩ _ H0.out).mono ?_
  rintro e w1 ⟨rfl, hb1⟩
  rw [show It.v (Pi.it ⟨no, sz, ya, yn, yc, yd⟩) = .agg #[.int .u64 no, .int .i64 sz, .string (str yd)] from rfl, HT.out]
  have hbw : Below wr.heap.size wr w1 := ⟨hb1.os, hb1.tape, hb1.output, hb1.size, hb1.block⟩
  have H1 : Hid (Below wr.heap.size wr w1 ∧ Iw w w1 B g bx q (some ⟨rb, ro, none⟩) n c) := ⟨hbw, HI.out.past hbw⟩
  have HS1 : Hid (World.rangeAt w1 g2 (i * 3) (Pi.cs ⟨no, sz, ya, yn, yc, yd⟩) ∧ World.rangeAt w1 rb (ro + i * 3) (It.cs (Pi.it ⟨no, sz, ya, yn, yc, yd⟩))) := ⟨range_kept hbw HYR.out, range_kept hbw HRG.out⟩
  clear hb1 hbw
  clear hS
  refine hK.out _ _ (⟨H1.out.2.box, HS1.out⟩) (fun hS => ?_)
  clear hK K
  try simp only [Act.put, List.setIfInBounds_toArray, List.set_cons_zero, List.set_cons_succ]
  refine tk 10 64 (.bool false) rfl rfl (by kernel_rfl) (by kernel_rfl) (by kernel_rfl) (fun _ _ _ h => h) (Or.inl ⟨by rfl, fun w' h' => ?_⟩) hS ?_
  · go_simp
  refine wpAnyH_done (by kernel_rfl) ?_ _
  go_wp2_with fail
  refine Met.intro (hJ0 _ _ ?_)
  exact ⟨⟨rfl, rfl⟩, rfl, rfl, rfl, rfl, rfl, H1.out.1⟩

set_option maxRecDepth 100000 in
set_option maxHeartbeats 4000000 in
theorem i12 (wr : World) (g bx t : Nat) (v : Option Addr) (m vc : Nat) (i : Nat) (a : Act) (hf : Fr 105 a) (h0 : sl a 0 = .pointer (some ⟨g, 0, none⟩)) (h3 : sl a 3 = .pointer (some ⟨bx, 0, none⟩)) (h5 : sl a 5 = .int .i64 (t : Int)) (h6 : sl a 6 = .slice v m vc) (h7 : sl a 7 = .int .i64 (i : Int)) :
    Code.wp Try.prog (cAt [1,0,1,2,2,1,0,2,1,1,1,2,2,1,0,2,1,0] KI) (Exit.then (fun a' w' => Fr 105 a' ∧ sl a' 0 = .pointer (some ⟨g, 0, none⟩) ∧ sl a' 3 = .pointer (some ⟨bx, 0, none⟩) ∧ sl a' 5 = .int .i64 (t : Int) ∧ sl a' 6 = .slice v m vc ∧ sl a' 7 = .int .i64 (i : Int) ∧ sl a' 8 = .int .i64 0 ∧ wr = w') Nope) a wr := by
  obtain ⟨f, ha, hs⟩ := fr105 hf
  have e0 := (hs 0).trans h0
  have e3 := (hs 3).trans h3
  have e5 := (hs 5).trans h5
  have e6 := (hs 6).trans h6
  have e7 := (hs 7).trans h7
  rw [e0, e3, e5, e6, e7] at ha
  clear hs hf e0 h0 e3 h3 e5 h5 e6 h6 e7 h7
  subst ha
  refine piece2 fun J0 K0 hJ0 hK0 => ?_
  conv => arg 2; whnf
  go_wp2_with fail
  refine Met.intro (hJ0 _ _ ?_)
  exact ⟨⟨rfl, rfl⟩, rfl, rfl, rfl, rfl, rfl, rfl, rfl⟩

set_option maxRecDepth 100000 in
set_option maxHeartbeats 4000000 in
theorem i13 (wr : World) (g bx t i g2 m vc j : Nat) (ya : Option Addr) (yn yc : Nat) (HC : Hid (wr.cell? ⟨g2, i * 3 + 2, none⟩ = some (.slice ya yn yc))) (hi : i < m) (hj : j < yn) (a : Act) (hf : Fr 105 a) (h0 : sl a 0 = .pointer (some ⟨g, 0, none⟩)) (h3 : sl a 3 = .pointer (some ⟨bx, 0, none⟩)) (h5 : sl a 5 = .int .i64 (t : Int)) (h6 : sl a 6 = .slice (some ⟨g2, 0, none⟩) m vc) (h7 : sl a 7 = .int .i64 (i : Int)) (h8 : sl a 8 = .int .i64 (j : Int)) :
    Code.wp Try.prog (cAt [1,0,1,2,2,1,0,2,1,1,1,2,2,1,0,2,1,1,2,2,0] KI) (Exit.then (fun a' w' => Fr 105 a' ∧ sl a' 0 = .pointer (some ⟨g, 0, none⟩) ∧ sl a' 3 = .pointer (some ⟨bx, 0, none⟩) ∧ sl a' 5 = .int .i64 (t : Int) ∧ sl a' 6 = .slice (some ⟨g2, 0, none⟩) m vc ∧ sl a' 7 = .int .i64 (i : Int) ∧ sl a' 8 = .int .i64 (j : Int) ∧ wr = w') Nope) a wr := by
  obtain ⟨f, ha, hs⟩ := fr105 hf
  have e0 := (hs 0).trans h0
  have e3 := (hs 3).trans h3
  have e5 := (hs 5).trans h5
  have e6 := (hs 6).trans h6
  have e7 := (hs 7).trans h7
  have e8 := (hs 8).trans h8
  rw [e0, e3, e5, e6, e7, e8] at ha
  clear hs hf e0 h0 e3 h3 e5 h5 e6 h6 e7 h7 e8 h8
  subst ha
  refine piece2 fun J0 K0 hJ0 hK0 => ?_
  conv => arg 2; whnf
  have hc := HC.out
  have hi2 : (i : Int) < (m : Int) := by omega
  have hi0 : (0 : Int) ≤ (i : Int) := by omega
  have hj2 : (j : Int) < (yn : Int) := by omega
  go_wp2_with fail
  refine Met.intro (hJ0 _ _ ?_)
  exact ⟨⟨rfl, rfl⟩, rfl, rfl, rfl, rfl, rfl, rfl, rfl⟩

set_option maxRecDepth 100000 in
set_option maxHeartbeats 4000000 in
theorem i13x (wr : World) (g bx t i g2 m vc j : Nat) (ya : Option Addr) (yn yc : Nat) (HC : Hid (wr.cell? ⟨g2, i * 3 + 2, none⟩ = some (.slice ya yn yc))) (hi : i < m) (hj : ¬ j < yn) (a : Act) (hf : Fr 105 a) (h0 : sl a 0 = .pointer (some ⟨g, 0, none⟩)) (h3 : sl a 3 = .pointer (some ⟨bx, 0, none⟩)) (h5 : sl a 5 = .int .i64 (t : Int)) (h6 : sl a 6 = .slice (some ⟨g2, 0, none⟩) m vc) (h7 : sl a 7 = .int .i64 (i : Int)) (h8 : sl a 8 = .int .i64 (j : Int)) :
    Code.wp Try.prog (cAt [1,0,1,2,2,1,0,2,1,1,1,2,2,1,0,2,1,1,2,2] KI) (Outs 4 (fun a' w' => Fr 105 a' ∧ sl a' 0 = .pointer (some ⟨g, 0, none⟩) ∧ sl a' 3 = .pointer (some ⟨bx, 0, none⟩) ∧ sl a' 5 = .int .i64 (t : Int) ∧ sl a' 6 = .slice (some ⟨g2, 0, none⟩) m vc ∧ sl a' 7 = .int .i64 (i : Int) ∧ wr = w')) a wr := by
  obtain ⟨f, ha, hs⟩ := fr105 hf
  have e0 := (hs 0).trans h0
  have e3 := (hs 3).trans h3
  have e5 := (hs 5).trans h5
  have e6 := (hs 6).trans h6
  have e7 := (hs 7).trans h7
  have e8 := (hs 8).trans h8
  rw [e0, e3, e5, e6, e7, e8] at ha
  clear hs hf e0 h0 e3 h3 e5 h5 e6 h6 e7 h7 e8 h8
  subst ha
  conv => arg 2; whnf
  have hc := HC.out
  have hi2 : (i : Int) < (m : Int) := by omega
  have hi0 : (0 : Int) ≤ (i : Int) := by omega
  go_wp2_with fail
  exact ⟨rfl, ⟨rfl, rfl⟩, rfl, rfl, rfl, rfl, rfl, rfl⟩

set_option maxRecDepth 100000 in
set_option maxHeartbeats 4000000 in
theorem i15 (wr : World) (base g bx t i g2 m vc j yg yn yc : Nat) (z : Int) (w0 : World) (HC : Hid (wr.cell? ⟨g2, i * 3 + 2, none⟩ = some (.slice (some ⟨yg, 0, none⟩) yn yc))) (hi : i < m) (hj : j < yn) (HZ : Hid (wr.cell? ⟨yg, j, none⟩ = some (.int .u8 z))) (HF : Hid (wr.frozen? ⟨yg, j, none⟩ = false)) (HX : Hid (∀ x, Inc w0 base (some ⟨yg, 0, none⟩) yn yc (wr.setCell ⟨yg, j, none⟩ (.int .u8 x)))) (a : Act) (hf : Fr 105 a) (h0 : sl a 0 = .pointer (some ⟨g, 0, none⟩)) (h3 : sl a 3 = .pointer (some ⟨bx, 0, none⟩)) (h5 : sl a 5 = .int .i64 (t : Int)) (h6 : sl a 6 = .slice (some ⟨g2, 0, none⟩) m vc) (h7 : sl a 7 = .int .i64 (i : Int)) (h8 : sl a 8 = .int .i64 (j : Int)) :
    Code.wp Try.prog (cAt [1,0,1,2,2,1,0,2,1,1,1,2,2,1,0,2,1,1,2,2,1,0,2] KI) (Exit.then (fun a' w' => Fr 105 a' ∧ sl a' 0 = .pointer (some ⟨g, 0, none⟩) ∧ sl a' 3 = .pointer (some ⟨bx, 0, none⟩) ∧ sl a' 5 = .int .i64 (t : Int) ∧ sl a' 6 = .slice (some ⟨g2, 0, none⟩) m vc ∧ sl a' 7 = .int .i64 (i : Int) ∧ sl a' 8 = .int .i64 (j : Int) ∧ Inc w0 base (some ⟨yg, 0, none⟩) yn yc w') Nope) a wr := by
  obtain ⟨f, ha, hs⟩ := fr105 hf
  have e0 := (hs 0).trans h0
  have e3 := (hs 3).trans h3
  have e5 := (hs 5).trans h5
  have e6 := (hs 6).trans h6
  have e7 := (hs 7).trans h7
  have e8 := (hs 8).trans h8
  rw [e0, e3, e5, e6, e7, e8] at ha
  clear hs hf e0 h0 e3 h3 e5 h5 e6 h6 e7 h7 e8 h8
  subst ha
  refine piece2 fun J0 K0 hJ0 hK0 => ?_
  conv => arg 2; whnf
  have hc := HC.out
  have hi2 : (i : Int) < (m : Int) := by omega
  have hi0 : (0 : Int) ≤ (i : Int) := by omega
  have hz := HZ.out
  have hfz := HF.out
  have hj2 : (j : Int) < (yn : Int) := by omega
  have hj0 : (0 : Int) ≤ (j : Int) := by omega
  go_wp2_with fail
  refine Met.intro (hJ0 _ _ ?_)
  exact ⟨⟨rfl, rfl⟩, rfl, rfl, rfl, rfl, rfl, rfl, HX.out _⟩

set_option maxRecDepth 100000 in
set_option maxHeartbeats 4000000 in
theorem i14 (wr : World) (g bx t i g2 m vc j : Nat) (hj : j < 1000000) (a : Act) (hf : Fr 105 a) (h0 : sl a 0 = .pointer (some ⟨g, 0, none⟩)) (h3 : sl a 3 = .pointer (some ⟨bx, 0, none⟩)) (h5 : sl a 5 = .int .i64 (t : Int)) (h6 : sl a 6 = .slice (some ⟨g2, 0, none⟩) m vc) (h7 : sl a 7 = .int .i64 (i : Int)) (h8 : sl a 8 = .int .i64 (j : Int)) :
    Code.wp Try.prog (cAt [1,0,1,2,2,1,0,2,1,1,1,2,2,1,0,2,1,1,2,2,1,1] KI) (Exit.then (fun a' w' => Fr 105 a' ∧ sl a' 0 = .pointer (some ⟨g, 0, none⟩) ∧ sl a' 3 = .pointer (some ⟨bx, 0, none⟩) ∧ sl a' 5 = .int .i64 (t : Int) ∧ sl a' 6 = .slice (some ⟨g2, 0, none⟩) m vc ∧ sl a' 7 = .int .i64 (i : Int) ∧ sl a' 8 = .int .i64 ((j : Int) + 1) ∧ wr = w') Nope) a wr := by
  obtain ⟨f, ha, hs⟩ := fr105 hf
  have e0 := (hs 0).trans h0
  have e3 := (hs 3).trans h3
  have e5 := (hs 5).trans h5
  have e6 := (hs 6).trans h6
  have e7 := (hs 7).trans h7
  have e8 := (hs 8).trans h8
  rw [e0, e3, e5, e6, e7, e8] at ha
  clear hs hf e0 h0 e3 h3 e5 h5 e6 h6 e7 h7 e8 h8
  subst ha
  refine piece2 fun J0 K0 hJ0 hK0 => ?_
  conv => arg 2; whnf
  go_wp2_with fail
  refine Met.intro (hJ0 _ _ ?_)
  exact ⟨⟨rfl, rfl⟩, rfl, rfl, rfl, rfl, rfl, rfl, rfl⟩

set_option maxRecDepth 100000 in
set_option maxHeartbeats 4000000 in
theorem i16 (w wr : World) (B g bx : Nat) (q : Qs) (ra : Option Addr) (n c : Nat) (HI : Hid (Iw w wr B g bx q ra n c)) (a : Act) (hf : Fr 105 a) (h0 : sl a 0 = .pointer (some ⟨g, 0, none⟩)) (h3 : sl a 3 = .pointer (some ⟨bx, 0, none⟩)) :
    Code.wp Try.prog (cAt [1,1,0] KI) (Exit.then (fun a' w' => ∃ (b9 : Nat) (y : Pi) (hb : Bool), Fr 105 a' ∧ sl a' 0 = .pointer (some ⟨g, 0, none⟩) ∧ sl a' 3 = .pointer (some ⟨bx, 0, none⟩) ∧ sl a' 9 = .pointer (some ⟨b9, 0, none⟩) ∧ sl a' 10 = .bool hb ∧ Iw w w' B g bx q ra n c ∧ w'.heap[b9]? = some (.cells y.cs.toArray 37 (0, 0)) ∧ y.at_ w' ∧ y.it = q.abs.hd ∧ hb = q.abs.has) Nope) a wr := by
  obtain ⟨f, ha, hs⟩ := fr105 hf
  have e0 := (hs 0).trans h0
  have e3 := (hs 3).trans h3
  rw [e0, e3] at ha
  clear hs hf e0 h0 e3 h3
  subst ha
  refine piece2 fun J0 K0 hJ0 hK0 => ?_
  conv => arg 2; whnf
  go_wp2_with fail
  refine (fHead_any B g q wr HI.out.qu).mono ?_
  rintro e w1 ⟨hb1, ⟨hL, rfl⟩ | ⟨x, l, y, hL, rfl, hty⟩⟩
  · have hal : Below w1.heap.size w1 (w1.alloc (.cells pz.cs.toArray 37)) := (Below.refl _ _).alloc (Nat.le_refl _) _
    have H1 : Hid (Iw w (w1.alloc (.cells #[.int .u64 0, .int .i64 0, .slice none 0 0] 37)) B g bx q ra n c ∧ (w1.alloc (.cells #[.int .u64 0, .int .i64 0, .slice none 0 0] 37)).heap[w1.heap.size]? = some (.cells pz.cs.toArray 37 (0, 0)) ∧ pz.it = q.abs.hd ∧ false = q.abs.has) :=
      ⟨(HI.out.past hb1).past hal, Blk_new w1 _ _, by simp [Aq.hd, Qs.abs, hL, pz_it], by simp [Aq.has, Qs.abs, hL]⟩
    rw [show pz.v = .agg #[.int .u64 0, .int .i64 0, .slice none 0 0] from rfl]
    clear hal hb1 hL
    go_wp2_with fail
    refine Met.intro (hJ0 _ _ ?_)
    exact ⟨_, pz, false, ⟨rfl, rfl⟩, rfl, rfl, rfl, rfl, H1.out.1, H1.out.2.1, bare 0 0 _, H1.out.2.2⟩
  · have hx : x.at_ wr := HI.out.qu.x (by rw [hL]; exact List.mem_cons_self)
    have hay := hty.at_ hx
    have hal : Below w1.heap.size w1 (w1.alloc (.cells y.cs.toArray 37)) := (Below.refl _ _).alloc (Nat.le_refl _) _
    have hyi : y.it = x.it := by show (⟨y.no, y.sz, y.d⟩ : It) = ⟨x.no, x.sz, x.d⟩; rw [hty.no, hty.sz, hty.d]
    have H1 : Hid (Iw w (w1.alloc (.cells y.cs.toArray 37)) B g bx q ra n c ∧ (w1.alloc (.cells y.cs.toArray 37)).heap[w1.heap.size]? = some (.cells y.cs.toArray 37 (0, 0)) ∧ y.at_ (w1.alloc (.cells y.cs.toArray 37)) ∧ y.it = q.abs.hd ∧ true = q.abs.has) :=
      ⟨(HI.out.past hb1).past hal, Blk_new w1 _ _, hay.below hal, by rw [hyi]; simp [Aq.hd, Qs.abs, hL], by simp [Aq.has, Qs.abs, hL]⟩
    obtain ⟨no, sz, ya, yn, yc, yd⟩ := y
    rw [show (Pi.v ⟨no, sz, ya, yn, yc, yd⟩) = .agg #[.int .u64 no, .int .i64 sz, .slice ya yn yc] from rfl]
    change Hid (Iw w (w1.alloc (.cells #[.int .u64 no, .int .i64 sz, .slice ya yn yc] 37)) B g bx q ra n c ∧ _) at H1
    clear hx hay hal hyi hb1 hL hty
    go_wp2_with fail
    refine Met.intro (hJ0 _ _ ?_)
    exact ⟨_, ⟨no, sz, ya, yn, yc, yd⟩, true, ⟨rfl, rfl⟩, rfl, rfl, rfl, rfl, H1.out⟩

set_option maxRecDepth 100000 in
set_option maxHeartbeats 4000000 in
theorem i17 (w wr : World) (B g bx : Nat) (q : Qs) (ra : Option Addr) (n c : Nat) (b9 : Nat) (hb : Bool) (HI : Hid (Iw w wr B g bx q ra n c)) (hc : n ≤ c) (hn : n ≤ 65536) (a : Act) (hf : Fr 105 a) (h0 : sl a 0 = .pointer (some ⟨g, 0, none⟩)) (h3 : sl a 3 = .pointer (some ⟨bx, 0, none⟩)) (h9 : sl a 9 = .pointer (some ⟨b9, 0, none⟩)) (h10 : sl a 10 = .bool hb) :
    Code.wp Try.prog (cAt [1,1,1,0] KI) (Exit.then (fun a' w' => ∃ b12, Fr 105 a' ∧ sl a' 0 = .pointer (some ⟨g, 0, none⟩) ∧ sl a' 3 = .pointer (some ⟨bx, 0, none⟩) ∧ sl a' 9 = .pointer (some ⟨b9, 0, none⟩) ∧ sl a' 10 = .bool hb ∧ sl a' 12 = .pointer (some ⟨b12, 0, none⟩) ∧ sl a' 13 = .bool q.abs.has ∧ Below w.heap.size w w' ∧ Below wr.heap.size wr w' ∧ w'.heap[b12]? = some (.cells q.abs.hd.cs.toArray 42 (0, 0))) Nope) a wr := by
  obtain ⟨f, ha, hs⟩ := fr105 hf
  have e0 := (hs 0).trans h0
  have e3 := (hs 3).trans h3
  have e9 := (hs 9).trans h9
  have e10 := (hs 10).trans h10
  rw [e0, e3, e9, e10] at ha
  clear hs hf e0 h0 e3 h3 e9 h9 e10 h10
  subst ha
  refine piece2 fun J0 K0 hJ0 hK0 => ?_
  conv => arg 2; whnf
  have c0 := q4_0 HI.out.box
  have c1 := q4_1 HI.out.box
  have c2 := q4_2 HI.out.box
  have c3 := q4_3 HI.out.box
  go_wp2_with fail
  refine (rPop_any ra n c q.abs wr HI.out.rt hc hn).mono ?_
  rintro e w1 ⟨hb1, a1, n1, c1', rfl, _, _⟩
  obtain ⟨hno, hsz, hs, hhd⟩ : ∃ (hno hsz : Int) (hs : ByteArray), q.abs.hd.v = .agg #[.int .u64 hno, .int .i64 hsz, .string hs] ∧ q.abs.hd.cs.toArray = #[.int .u64 hno, .int .i64 hsz, .string hs] := ⟨q.abs.hd.no, q.abs.hd.sz, str q.abs.hd.d, rfl, rfl⟩
  have hq : rqv a1 n1 c1' q.abs.pop = .agg #[.slice a1 n1 c1', .int .i64 q.I, .int .i64 q.S, .int .u64 q.D] := rfl
  rw [hhd.1, hq]
  have hal : Below w1.heap.size w1 ((w1.alloc (.cells #[.slice a1 n1 c1', .int .i64 q.I, .int .i64 q.S, .int .u64 q.D] 32)).alloc (.cells #[.int .u64 hno, .int .i64 hsz, .string hs] 42)) := ((Below.refl _ _).alloc (Nat.le_refl _) _).alloc (by simp) _
  have hbx : ((w1.alloc (.cells #[.slice a1 n1 c1', .int .i64 q.I, .int .i64 q.S, .int .u64 q.D] 32)).alloc (.cells #[.int .u64 hno, .int .i64 hsz, .string hs] 42)).heap[w1.heap.size + 1]? = some (.cells #[.int .u64 hno, .int .i64 hsz, .string hs] 42 (0, 0)) := by
    have := Blk_new (w1.alloc (.cells #[.slice a1 n1 c1', .int .i64 q.I, .int .i64 q.S, .int .u64 q.D] 32)) #[.int .u64 hno, .int .i64 hsz, .string hs] 42
    simpa using this
  rw [← hhd.2] at hbx
  have hw := hb1.trans (hal.mono hb1.size)
  have H1 : Hid (Below w.heap.size w ((w1.alloc (.cells #[.slice a1 n1 c1', .int .i64 q.I, .int .i64 q.S, .int .u64 q.D] 32)).alloc (.cells #[.int .u64 hno, .int .i64 hsz, .string hs] 42)) ∧ Below wr.heap.size wr ((w1.alloc (.cells #[.slice a1 n1 c1', .int .i64 q.I, .int .i64 q.S, .int .u64 q.D] 32)).alloc (.cells #[.int .u64 hno, .int .i64 hsz, .string hs] 42)) ∧ ((w1.alloc (.cells #[.slice a1 n1 c1', .int .i64 q.I, .int .i64 q.S, .int .u64 q.D] 32)).alloc (.cells #[.int .u64 hno, .int .i64 hsz, .string hs] 42)).heap[w1.heap.size + 1]? = some (.cells q.abs.hd.cs.toArray 42 (0, 0))) :=
    ⟨HI.out.below.trans (hw.mono HI.out.below.size), hw, by rw [← hhd.2]; exact hbx⟩
  clear hal hbx hw hb1 hq hhd c0 c1 c2 c3
  go_wp2_with fail
  refine Met.intro (hJ0 _ _ ?_)
  exact ⟨w1.heap.size + 1, ⟨rfl, rfl⟩, rfl, rfl, rfl, rfl, rfl, rfl, H1.out⟩

set_option maxRecDepth 100000 in
set_option maxHeartbeats 4000000 in
theorem i18 (w wr : World) (b9 b12 : Nat) (hb : Bool) (y : Pi) (HB : Hid (Below w.heap.size w wr)) (H9 : Hid (wr.heap[b9]? = some (.cells y.cs.toArray 37 (0, 0)))) (HAT : Hid (y.at_ wr)) (H12 : Hid (wr.heap[b12]? = some (.cells y.it.cs.toArray 42 (0, 0)))) (a : Act) (hf : Fr 105 a) (h9 : sl a 9 = .pointer (some ⟨b9, 0, none⟩)) (h10 : sl a 10 = .bool hb) (h12 : sl a 12 = .pointer (some ⟨b12, 0, none⟩)) (h13 : sl a 13 = .bool hb) :
    Code.wp Try.prog (cAt [1,1,1,1] KI) (bodyPost Try.prog Try.f20 (Yes w)) a wr := by
  obtain ⟨f, ha, hs⟩ := fr105 hf
  have e9 := (hs 9).trans h9
  have e10 := (hs 10).trans h10
  have e12 := (hs 12).trans h12
  have e13 := (hs 13).trans h13
  rw [e9, e10, e12, e13] at ha
  clear hs hf e9 h9 e10 h10 e12 h12 e13 h13
  subst ha
  conv => arg 2; whnf
  obtain ⟨no, sz, ya, yn, yc, yd⟩ := y
  obtain ⟨T, hT⟩ : ∃ z, str yd = z := ⟨_, rfl⟩
  have HT := Lib.hid hT
  have hbd : Below wr.heap.size wr wr.drew := (Below.refl _ _).drew
  have H0 : Hid (Pi.at_ ⟨no, sz, ya, yn, yc, yd⟩ wr.drew) := HAT.out.below hbd
  have HS : Hid (wr.drew.heap[b9]? = some (.cells #[.int .u64 no, .int .i64 sz, .slice ya yn yc] 37 (0, 0)) ∧ wr.drew.heap[b12]? = some (.cells #[.int .u64 no, .int .i64 sz, .string T] 42 (0, 0))) := ⟨H9.out, by rw [← hT]; exact H12.out⟩
  clear hT hbd
  go_wp2_with fail
  refine wp_region_held_drew (S := fun w' => w'.heap[b9]? = some (.cells #[.int .u64 no, .int .i64 sz, .slice ya yn yc] 37 (0, 0)) ∧ w'.heap[b12]? = some (.cells #[.int .u64 no, .int .i64 sz, .string T] 42 (0, 0))) (by kernel_rfl) HS.out (fun hS => ?_)
  refine tk 0 96 (.bool hb) rfl rfl (by kernel_rfl) (by kernel_rfl) (by kernel_rfl) (fun _ _ _ h => h) (Or.inl ⟨by rfl, fun w' h' => ?_⟩) hS ?_
  · go_simp
  try simp only [Act.put, List.setIfInBounds_toArray, List.set_cons_zero, List.set_cons_succ]
  refine tk 1 97 (.bool hb) rfl rfl (by kernel_rfl) (by kernel_rfl) (by kernel_rfl) (fun _ _ _ h => h) (Or.inl ⟨by rfl, fun w' h' => ?_⟩) hS ?_
  · go_simp
  try simp only [Act.put, List.setIfInBounds_toArray, List.set_cons_zero, List.set_cons_succ]
  refine tk 2 98 (.bool true) rfl rfl (by kernel_rfl) (by kernel_rfl) (by kernel_rfl) (fun _ _ _ h => h) (Or.inl ⟨by rfl, fun w' h' => ?_⟩) hS ?_
  · go_simp
  try simp only [Act.put, List.setIfInBounds_toArray, List.set_cons_zero, List.set_cons_succ]
  refine tk 3 99 (.bool true) rfl rfl (by kernel_rfl) (by kernel_rfl) (by kernel_rfl) (fun _ _ _ h => h) (Or.inl ⟨by rfl, fun w' h' => ?_⟩) hS ?_
  · go_simp
  try simp only [Act.put, List.setIfInBounds_toArray, List.set_cons_zero, List.set_cons_succ]
  refine tk 4 100 (.agg #[.int .u64 no, .int .i64 sz, .slice ya yn yc]) rfl rfl (by kernel_rfl) (by kernel_rfl) (by kernel_rfl) (fun _ _ _ h => h) (Or.inl ⟨by rfl, fun w' h' => ?_⟩) hS ?_
  · have c0 := q3_0 h'.1
    have c1 := q3_1 h'.1
    have c2 := q3_2 h'.1
    go_simp
  try simp only [Act.put, List.setIfInBounds_toArray, List.set_cons_zero, List.set_cons_succ]
  refine tk 6 102 (.agg #[.int .u64 no, .int .i64 sz, .string T]) rfl rfl (by kernel_rfl) (by kernel_rfl) (by kernel_rfl) (fun _ _ _ h => h) (Or.inl ⟨by rfl, fun w' h' => ?_⟩) hS ?_
  · have c0 := q3_0 h'.2
    have c1 := q3_1 h'.2
    have c2 := q3_2 h'.2
    go_simp
  try simp only [Act.put, List.setIfInBounds_toArray, List.set_cons_zero, List.set_cons_succ]
  refine wpAnyH_ready (rs := [5]) (by kernel_rfl) (by simp) (AllReadyH.cons rfl (fun K hK => ?_) AllReadyH.nil)
  rw [if_pos (by rfl)]
  go_wp2_with fail
  refine (item_any ⟨no, sz, ya, yn, yc, yd⟩ _ H0.out).mono ?_
  rintro e w1 ⟨rfl, hb1⟩
  rw [show It.v (Pi.it ⟨no, sz, ya, yn, yc, yd⟩) = .agg #[.int .u64 no, .int .i64 sz, .string (str yd)] from rfl, HT.out]
  have hbw : Below wr.heap.size wr w1 := ⟨hb1.os, hb1.tape, hb1.output, hb1.size, hb1.block⟩
  have H1 : Hid (Below w.heap.size w w1) := HB.out.trans (hbw.mono HB.out.size)
  have HS1 : Hid (w1.heap[b9]? = some (.cells #[.int .u64 no, .int .i64 sz, .slice ya yn yc] 37 (0, 0)) ∧ w1.heap[b12]? = some (.cells #[.int .u64 no, .int .i64 sz, .string T] 42 (0, 0))) := ⟨(hb1.block _ (Array.getElem?_eq_some_iff.1 HS.out.1).1).trans HS.out.1, (hb1.block _ (Array.getElem?_eq_some_iff.1 HS.out.2).1).trans HS.out.2⟩
  clear hb1 hbw
  clear hS
  refine hK.out _ _ (HS1.out) (fun hS => ?_)
  clear hK K
  try simp only [Act.put, List.setIfInBounds_toArray, List.set_cons_zero, List.set_cons_succ]
  refine tk 7 103 (.bool true) rfl rfl (by kernel_rfl) (by kernel_rfl) (by kernel_rfl) (fun _ _ _ h => h) (Or.inl ⟨by rfl, fun w' h' => ?_⟩) hS ?_
  · go_simp
  try simp only [Act.put, List.setIfInBounds_toArray, List.set_cons_zero, List.set_cons_succ]
  refine tk 8 104 (.bool true) rfl rfl (by kernel_rfl) (by kernel_rfl) (by kernel_rfl) (fun _ _ _ h => h) (Or.inl ⟨by rfl, fun w' h' => ?_⟩) hS ?_
  · go_simp
  try simp only [Act.put, List.setIfInBounds_toArray, List.set_cons_zero, List.set_cons_succ]
  refine tk 9 4 (.bool true) rfl rfl (by kernel_rfl) (by kernel_rfl) (by kernel_rfl) (fun _ _ _ h => h) (Or.inl ⟨by rfl, fun w' h' => ?_⟩) hS ?_
  · go_simp
  refine wpAnyH_done (by kernel_rfl) ?_ _
  go_wp2_with fail
  go_ret
  exact ⟨rfl, H1.out⟩

end Go.Proofs.Ytjjidjemkddebaa

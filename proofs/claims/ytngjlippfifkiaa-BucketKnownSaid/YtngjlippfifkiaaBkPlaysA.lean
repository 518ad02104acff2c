/-
  BucketPlays in pieces. Conditions: those that the theorems name. (Made by gen_bkplays.py.)
-/
import Derived.Test.YtngjlippfifkiaaBkPlaysM
namespace Go.Proofs.Ytngjlippfifkiaa
open Go.RowKit

noncomputable def KP : Code := Try.f3.body.getD .skip
set_option maxRecDepth 100000 in
theorem fr108 {a : Act} (h : Fr 108 a) : ∃ f : Nat → Value, a = ⟨#[f 0, f 1, f 2, f 3, f 4, f 5, f 6, f 7, f 8, f 9, f 10, f 11, f 12, f 13, f 14, f 15, f 16, f 17, f 18, f 19, f 20, f 21, f 22, f 23, f 24, f 25, f 26, f 27, f 28, f 29, f 30, f 31, f 32, f 33, f 34, f 35, f 36, f 37, f 38, f 39, f 40, f 41, f 42, f 43, f 44, f 45, f 46, f 47, f 48, f 49, f 50, f 51, f 52, f 53, f 54, f 55, f 56, f 57, f 58, f 59, f 60, f 61, f 62, f 63, f 64, f 65, f 66, f 67, f 68, f 69, f 70, f 71, f 72, f 73, f 74, f 75, f 76, f 77, f 78, f 79, f 80, f 81, f 82, f 83, f 84, f 85, f 86, f 87, f 88, f 89, f 90, f 91, f 92, f 93, f 94, f 95, f 96, f 97, f 98, f 99, f 100, f 101, f 102, f 103, f 104, f 105, f 106, f 107], []⟩ ∧ ∀ i, f i = sl a i := fr_any h

set_option maxRecDepth 100000 in
set_option maxHeartbeats 4000000 in
theorem p0 (w : World) (r B T : Int) (xa : Option Addr) (n c : Nat) (a : Act) (hf : Fr 108 a) (h0 : sl a 0 = .int .u64 r) (h1 : sl a 1 = .int .u64 B) (h2 : sl a 2 = .int .u64 T) (h3 : sl a 3 = .slice xa n c) :
    Code.wp Try.prog (cAt [0] KP) (Exit.then (fun a' w' => Fr 108 a' ∧ sl a' 0 = .int .u64 r ∧ sl a' 1 = .int .u64 B ∧ sl a' 2 = .int .u64 T ∧ sl a' 3 = .slice xa n c ∧ w = w') Nope) a w := by
  obtain ⟨f, ha, hs⟩ := fr108 hf
  have e0 := (hs 0).trans h0
  have e1 := (hs 1).trans h1
  have e2 := (hs 2).trans h2
  have e3 := (hs 3).trans h3
  rw [e0, e1, e2, e3] at ha
  clear hs hf e0 h0 e1 h1 e2 h2 e3 h3
  subst ha
  refine piece2 fun J0 K0 hJ0 hK0 => ?_
  conv => arg 2; whnf
  go_wp2_with fail
  refine Met.intro (hJ0 _ _ ?_)
  exact ⟨⟨rfl, rfl⟩, rfl, rfl, rfl, rfl, rfl⟩

set_option maxRecDepth 100000 in
set_option maxHeartbeats 4000000 in
theorem p1 (w : World) (r B T : Int) (xa : Option Addr) (n c : Nat) (hn : ¬ 60 < n) (a : Act) (hf : Fr 108 a) (h0 : sl a 0 = .int .u64 r) (h1 : sl a 1 = .int .u64 B) (h2 : sl a 2 = .int .u64 T) (h3 : sl a 3 = .slice xa n c) :
    Code.wp Try.prog (cAt [1,0] KP) (Exit.then (fun a' w' => Fr 108 a' ∧ sl a' 0 = .int .u64 r ∧ sl a' 1 = .int .u64 B ∧ sl a' 2 = .int .u64 T ∧ sl a' 3 = .slice xa n c ∧ w = w') Nope) a w := by
  obtain ⟨f, ha, hs⟩ := fr108 hf
  have e0 := (hs 0).trans h0
  have e1 := (hs 1).trans h1
  have e2 := (hs 2).trans h2
  have e3 := (hs 3).trans h3
  rw [e0, e1, e2, e3] at ha
  clear hs hf e0 h0 e1 h1 e2 h2 e3 h3
  subst ha
  refine piece2 fun J0 K0 hJ0 hK0 => ?_
  conv => arg 2; whnf
  go_wp2_with fail
  refine Met.intro (hJ0 _ _ ?_)
  exact ⟨⟨rfl, rfl⟩, rfl, rfl, rfl, rfl, rfl⟩

set_option maxRecDepth 100000 in
set_option maxHeartbeats 4000000 in
theorem p3 (w : World) (r B T : Int) (xa : Option Addr) (n c : Nat) (hok : Hid (Bu.ok ⟨r, B, T, B⟩)) (a : Act) (hf : Fr 108 a) (h0 : sl a 0 = .int .u64 r) (h1 : sl a 1 = .int .u64 B) (h2 : sl a 2 = .int .u64 T) (h3 : sl a 3 = .slice xa n c) :
    Code.wp Try.prog (cAt [1,1,0] KP) (Exit.then (fun a' w' => ∃ g gR, Fr 108 a' ∧ sl a' 3 = .slice xa n c ∧ sl a' 9 = .pointer (some ⟨g, 0, none⟩) ∧ sl a' 10 = .pointer (some ⟨gR, 0, none⟩) ∧ Bk w' g ⟨r, B, T, B⟩ ∧ Rk w' gR ⟨r, B, T, B⟩ ∧ Below w.heap.size w w' ∧ w.heap.size ≤ g ∧ w.heap.size ≤ gR) Nope) a w := by
  obtain ⟨f, ha, hs⟩ := fr108 hf
  have e0 := (hs 0).trans h0
  have e1 := (hs 1).trans h1
  have e2 := (hs 2).trans h2
  have e3 := (hs 3).trans h3
  rw [e0, e1, e2, e3] at ha
  clear hs hf e0 h0 e1 h1 e2 h2 e3 h3
  subst ha
  refine piece2 fun J0 K0 hJ0 hK0 => ?_
  conv => arg 2; whnf
  go_wp2_with fail
  refine (new_any r B T _ hok.out).mono ?_
  rintro e w1 ⟨g, rfl, ho, hb1, hl1⟩
  have H1 : Hid (Bk w1 g ⟨r, B, T, B⟩ ∧ Below w.heap.size w w1 ∧ w.heap.size ≤ g) := ⟨hb1, hl1, ho⟩
  clear hb1 hl1 ho
  go_wp2_with fail
  refine (rNew_any r B T _).mono ?_
  rintro e w2 ⟨rfl, hl2⟩
  have H2 : Hid (Bk w2 g ⟨r, B, T, B⟩ ∧ Below w.heap.size w w2 ∧ w.heap.size ≤ g ∧ w.heap.size ≤ w2.heap.size) := ⟨H1.out.1.below hl2, H1.out.2.1.trans (hl2.mono H1.out.2.1.size), H1.out.2.2, Nat.le_trans H1.out.2.1.size hl2.size⟩
  clear hl2 H1
  have hcs : (⟨r, B, T, B⟩ : Bu).cs.toArray = #[.int .u64 r, .int .u64 B, .int .u64 T, .int .u64 B] := rfl
  rw [hcs]
  have HR : Hid (Rk (w2.alloc (.cells #[.int .u64 r, .int .u64 B, .int .u64 T, .int .u64 B] 28)) w2.heap.size ⟨r, B, T, B⟩) := Blk_new _ _ _
  have HB : Hid (Below w2.heap.size w2 (w2.alloc (.cells #[.int .u64 r, .int .u64 B, .int .u64 T, .int .u64 B] 28))) := (Below.refl _ _).alloc (Nat.le_refl _) _
  clear hcs
  go_wp2_with fail
  refine Met.intro (hJ0 _ _ ?_)
  exact ⟨g, _, ⟨rfl, rfl⟩, rfl, rfl, rfl, H2.out.1.below HB.out, HR.out, H2.out.2.1.trans (HB.out.mono H2.out.2.1.size), H2.out.2.2.1, H2.out.2.2.2⟩

set_option maxRecDepth 100000 in
set_option maxHeartbeats 4000000 in
theorem p4 (w : World) (g gR : Nat) (xa : Option Addr) (n c : Nat) (a : Act) (hf : Fr 108 a) (h3 : sl a 3 = .slice xa n c) (h9 : sl a 9 = .pointer (some ⟨g, 0, none⟩)) (h10 : sl a 10 = .pointer (some ⟨gR, 0, none⟩)) :
    Code.wp Try.prog (cAt [1,1,1,0] KP) (Exit.then (fun a' w' => Fr 108 a' ∧ sl a' 3 = .slice xa n c ∧ sl a' 9 = .pointer (some ⟨g, 0, none⟩) ∧ sl a' 10 = .pointer (some ⟨gR, 0, none⟩) ∧ w = w') Nope) a w := by
  obtain ⟨f, ha, hs⟩ := fr108 hf
  have e3 := (hs 3).trans h3
  have e9 := (hs 9).trans h9
  have e10 := (hs 10).trans h10
  rw [e3, e9, e10] at ha
  clear hs hf e3 h3 e9 h9 e10 h10
  subst ha
  refine piece2 fun J0 K0 hJ0 hK0 => ?_
  conv => arg 2; whnf
  go_wp2_with fail
  refine Met.intro (hJ0 _ _ ?_)
  exact ⟨⟨rfl, rfl⟩, rfl, rfl, rfl, rfl⟩

set_option maxRecDepth 100000 in
set_option maxHeartbeats 4000000 in
theorem p6 (w wr : World) (g gR : Nat) (xa : Option Addr) (n c : Nat) (b : Bu) (HW : Hid (Bk wr g b ∧ Rk wr gR b ∧ Below w.heap.size w wr ∧ w.heap.size ≤ g ∧ w.heap.size ≤ gR)) (a : Act) (hf : Fr 108 a) (h3 : sl a 3 = .slice xa n c) (h9 : sl a 9 = .pointer (some ⟨g, 0, none⟩)) (h10 : sl a 10 = .pointer (some ⟨gR, 0, none⟩)) :
    Code.wp Try.prog (cAt [1,1,1,1,0] KP) (Exit.then (fun a' w' => ∃ g1 gS, Fr 108 a' ∧ sl a' 3 = .slice xa n c ∧ sl a' 9 = .pointer (some ⟨g, 0, none⟩) ∧ sl a' 10 = .pointer (some ⟨gR, 0, none⟩) ∧ sl a' 11 = .pointer (some ⟨g1, 0, none⟩) ∧ sl a' 12 = .pointer (some ⟨gS, 0, none⟩) ∧ Pw w w' g gR g1 gS b b b) Nope) a wr := by
  obtain ⟨f, ha, hs⟩ := fr108 hf
  have e3 := (hs 3).trans h3
  have e9 := (hs 9).trans h9
  have e10 := (hs 10).trans h10
  rw [e3, e9, e10] at ha
  clear hs hf e3 h3 e9 h9 e10 h10
  subst ha
  refine piece2 fun J0 K0 hJ0 hK0 => ?_
  conv => arg 2; whnf
  have HS : Hid (Rk wr.drew gR b) := HW.out.2.1
  refine wp_region_held_drew (S := fun w' => Rk w' gR b) (by kernel_rfl) HS.out (fun hS => ?_)
  refine tk 0 31 (.pointer (some ⟨g, 0, none⟩)) rfl rfl (by kernel_rfl) (by kernel_rfl) (by kernel_rfl) (fun _ _ _ h => h) (Or.inl ⟨by rfl, fun w' h' => ?_⟩) hS ?_
  · go_simp
  try simp only [Act.put, List.setIfInBounds_toArray, List.set_cons_zero, List.set_cons_succ]
  refine tk 2 33 (.agg #[.int .u64 b.r, .int .u64 b.B, .int .u64 b.T, .int .u64 b.K]) rfl rfl (by kernel_rfl) (by kernel_rfl) (by kernel_rfl) (fun _ _ _ h => h) (Or.inl ⟨by rfl, fun w' h' => ?_⟩) hS ?_
  · have c0 := h'.c0
    have c1 := h'.c1
    have c2 := h'.c2
    have c3 := h'.c3
    go_simp
  try simp only [Act.put, List.setIfInBounds_toArray, List.set_cons_zero, List.set_cons_succ]
  refine wpAnyH_ready (rs := [1, 3]) (by kernel_rfl) (by simp) (AllReadyH.cons rfl (fun K hK => ?_) (AllReadyH.cons rfl (fun K hK => ?_) AllReadyH.nil))
  · rw [if_pos (by rfl)]
    go_wp2_with fail
    refine (copy_any g b _ HW.out.1.drew).mono ?_
    rintro e w1 ⟨g1, rfl, ho, hb1, hl1⟩
    have hl1' : Below wr.heap.size wr w1 := ⟨hl1.os, hl1.tape, hl1.output, hl1.size, hl1.block⟩
    have H1 : Hid (Bk w1 g b ∧ Rk w1 gR b ∧ Bk w1 g1 b ∧ Below wr.heap.size wr w1 ∧ wr.heap.size ≤ g1) := ⟨HW.out.1.below hl1', HW.out.2.1.below hl1', hb1, hl1', ho⟩
    clear ho hb1 hl1 hl1'
    clear hS
    refine hK.out _ _ (H1.out.2.1) (fun hS => ?_)
    clear hK K
    try simp only [Act.put, List.setIfInBounds_toArray, List.set_cons_zero, List.set_cons_succ]
    refine wpAnyH_ready (rs := [3]) (by kernel_rfl) (by simp) (AllReadyH.cons rfl (fun K hK => ?_) AllReadyH.nil)
    rw [if_pos (by rfl)]
    have H2 : Hid (Rk (w1.alloc (.cells #[.int .u64 0, .int .u64 0, .int .u64 0, .int .u64 0] 28)) w1.heap.size ⟨0, 0, 0, 0⟩ ∧ Below w1.heap.size w1 (w1.alloc (.cells #[.int .u64 0, .int .u64 0, .int .u64 0, .int .u64 0] 28)) ∧ wr.heap.size ≤ w1.heap.size) := ⟨Blk_new _ _ _, (Below.refl _ _).alloc (Nat.le_refl _) _, H1.out.2.2.2.1.size⟩
    go_wp2_with fail
    obtain ⟨w2, hw2⟩ : ∃ z, w1.alloc (.cells #[.int .u64 0, .int .u64 0, .int .u64 0, .int .u64 0] 28) = z := ⟨_, rfl⟩
    obtain ⟨gS, hgS⟩ : ∃ z, w1.heap.size = z := ⟨_, rfl⟩
    rw [hw2]
    rw [hw2] at H2
    have H3 : Hid (Bk w2 g b ∧ Rk w2 gR b ∧ Bk w2 g1 b ∧ Below wr.heap.size wr w2 ∧ wr.heap.size ≤ g1 ∧ Rk w2 gS ⟨0, 0, 0, 0⟩ ∧ wr.heap.size ≤ gS ∧ gR ≠ gS ∧ g1 ≠ gS ∧ g ≠ gS) :=
      ⟨H1.out.1.below H2.out.2.1, H1.out.2.1.below H2.out.2.1, H1.out.2.2.1.below H2.out.2.1, H1.out.2.2.2.1.trans (H2.out.2.1.mono H1.out.2.2.2.1.size), H1.out.2.2.2.2, hgS ▸ H2.out.1, hgS ▸ H2.out.2.2, by have := H1.out.2.1.lt; omega, by have := H1.out.2.2.1.lt; omega, by have := H1.out.1.lt; omega⟩
    rw [hgS]
    clear hw2 hgS H1 H2
    clear hS
    refine hK.out _ _ (H3.out.2.1) (fun hS => ?_)
    clear hK K
    try simp only [Act.put, List.setIfInBounds_toArray, List.set_cons_zero, List.set_cons_succ]
    refine tk 4 11 (.pointer (some ⟨g1, 0, none⟩)) rfl rfl (by kernel_rfl) (by kernel_rfl) (by kernel_rfl) (fun _ _ _ h => h) (Or.inl ⟨by rfl, fun w' h' => ?_⟩) hS ?_
    · go_simp
    try simp only [Act.put, List.setIfInBounds_toArray, List.set_cons_zero, List.set_cons_succ]
    refine wpAnyH_ready (rs := [5]) (by kernel_rfl) (by simp) (AllReadyH.cons rfl (fun K hK => ?_) AllReadyH.nil)
    rw [if_pos (by rfl)]
    refine wp_stB (.tmp 12) (.tmp 33) rfl gS b _ rfl rfl H3.out.2.2.2.2.2.1 ?_
    intro w5 hr5 hk5
    have hs5 : Rk w5 gR b := H3.out.2.1.keep hk5 H3.out.2.2.2.2.2.2.2.1
    have H5 : Hid (Pw w w5 g gR g1 gS b b b) := by
      have h := H3.out
      have hb5 : Below wr.heap.size wr w5 := h.2.2.2.1.trans (hk5.below h.2.2.2.1.size (fun i e => by have := h.2.2.2.2.2.2.1; omega))
      have hw := HW.out
      exact ⟨h.1.keep hk5 h.2.2.2.2.2.2.2.2.2, hs5, h.2.2.1.keep hk5 h.2.2.2.2.2.2.2.2.1, hr5, hw.2.2.1.trans (hb5.mono hw.2.2.1.size), hw.2.2.2.1, hw.2.2.2.2, Nat.le_trans hw.2.2.1.size h.2.2.2.2.1, Nat.le_trans hw.2.2.1.size h.2.2.2.2.2.2.1, by have := hw.1.lt; have := h.2.2.2.2.1; omega, h.2.2.2.2.2.2.2.1⟩
    clear hr5 hk5
    clear hS
    refine hK.out _ _ (hs5) (fun hS => ?_)
    clear hK K
    refine wpAnyH_done (by kernel_rfl) ?_ _
    go_wp2_with fail
    refine Met.intro (hJ0 _ _ ?_)
    exact ⟨g1, gS, ⟨rfl, rfl⟩, rfl, rfl, rfl, rfl, rfl, H5.out⟩
  · rw [if_pos (by rfl)]
    have H2 : Hid (Rk (wr.drew.alloc (.cells #[.int .u64 0, .int .u64 0, .int .u64 0, .int .u64 0] 28)) wr.heap.size ⟨0, 0, 0, 0⟩ ∧ Below wr.heap.size wr (wr.drew.alloc (.cells #[.int .u64 0, .int .u64 0, .int .u64 0, .int .u64 0] 28))) := ⟨Blk_new wr.drew _ _, (Below.refl _ _).drew.alloc (Nat.le_refl _) _⟩
    go_wp2_with fail
    obtain ⟨w1, hw1⟩ : ∃ z, wr.drew.alloc (.cells #[.int .u64 0, .int .u64 0, .int .u64 0, .int .u64 0] 28) = z := ⟨_, rfl⟩
    first | rw [hw1] | (change K _ (wr.drew.alloc (.cells #[.int .u64 0, .int .u64 0, .int .u64 0, .int .u64 0] 28)); rw [hw1])
    rw [hw1] at H2
    obtain ⟨gS, hgS⟩ : ∃ z, wr.heap.size = z := ⟨_, rfl⟩
    have H1 : Hid (Bk w1 g b ∧ Rk w1 gR b ∧ Below wr.heap.size wr w1 ∧ Rk w1 gS ⟨0, 0, 0, 0⟩ ∧ wr.heap.size ≤ gS ∧ gR ≠ gS ∧ g ≠ gS) :=
      ⟨HW.out.1.below H2.out.2, HW.out.2.1.below H2.out.2, H2.out.2, hgS ▸ H2.out.1, Nat.le_of_eq hgS, by have := HW.out.2.1.lt; omega, by have := HW.out.1.lt; omega⟩
    rw [hgS]
    clear hw1 hgS H2
    clear hS
    refine hK.out _ _ (H1.out.2.1) (fun hS => ?_)
    clear hK K
    try simp only [Act.put, List.setIfInBounds_toArray, List.set_cons_zero, List.set_cons_succ]
    refine wpAnyH_ready (rs := [1]) (by kernel_rfl) (by simp) (AllReadyH.cons rfl (fun K hK => ?_) AllReadyH.nil)
    rw [if_pos (by rfl)]
    go_wp2_with fail
    refine (copy_any g b _ H1.out.1).mono ?_
    rintro e w2 ⟨g1, rfl, ho, hb1, hl1⟩
    have H3 : Hid (Bk w2 g b ∧ Rk w2 gR b ∧ Bk w2 g1 b ∧ Below wr.heap.size wr w2 ∧ wr.heap.size ≤ g1 ∧ Rk w2 gS ⟨0, 0, 0, 0⟩ ∧ wr.heap.size ≤ gS ∧ gR ≠ gS ∧ g1 ≠ gS ∧ g ≠ gS) :=
      ⟨H1.out.1.below hl1, H1.out.2.1.below hl1, hb1, H1.out.2.2.1.trans (hl1.mono H1.out.2.2.1.size), Nat.le_trans H1.out.2.2.1.size ho, H1.out.2.2.2.1.below hl1, H1.out.2.2.2.2.1, H1.out.2.2.2.2.2.1, by have := H1.out.2.2.2.1.lt; omega, H1.out.2.2.2.2.2.2⟩
    clear ho hb1 hl1 H1
    clear hS
    refine hK.out _ _ (H3.out.2.1) (fun hS => ?_)
    clear hK K
    try simp only [Act.put, List.setIfInBounds_toArray, List.set_cons_zero, List.set_cons_succ]
    refine tk 4 11 (.pointer (some ⟨g1, 0, none⟩)) rfl rfl (by kernel_rfl) (by kernel_rfl) (by kernel_rfl) (fun _ _ _ h => h) (Or.inl ⟨by rfl, fun w' h' => ?_⟩) hS ?_
    · go_simp
    try simp only [Act.put, List.setIfInBounds_toArray, List.set_cons_zero, List.set_cons_succ]
    refine wpAnyH_ready (rs := [5]) (by kernel_rfl) (by simp) (AllReadyH.cons rfl (fun K hK => ?_) AllReadyH.nil)
    rw [if_pos (by rfl)]
    refine wp_stB (.tmp 12) (.tmp 33) rfl gS b _ rfl rfl H3.out.2.2.2.2.2.1 ?_
    intro w5 hr5 hk5
    have hs5 : Rk w5 gR b := H3.out.2.1.keep hk5 H3.out.2.2.2.2.2.2.2.1
    have H5 : Hid (Pw w w5 g gR g1 gS b b b) := by
      have h := H3.out
      have hb5 : Below wr.heap.size wr w5 := h.2.2.2.1.trans (hk5.below h.2.2.2.1.size (fun i e => by have := h.2.2.2.2.2.2.1; omega))
      have hw := HW.out
      exact ⟨h.1.keep hk5 h.2.2.2.2.2.2.2.2.2, hs5, h.2.2.1.keep hk5 h.2.2.2.2.2.2.2.2.1, hr5, hw.2.2.1.trans (hb5.mono hw.2.2.1.size), hw.2.2.2.1, hw.2.2.2.2, Nat.le_trans hw.2.2.1.size h.2.2.2.2.1, Nat.le_trans hw.2.2.1.size h.2.2.2.2.2.2.1, by have := hw.1.lt; have := h.2.2.2.2.1; omega, h.2.2.2.2.2.2.2.1⟩
    clear hr5 hk5
    clear hS
    refine hK.out _ _ (hs5) (fun hS => ?_)
    clear hK K
    refine wpAnyH_done (by kernel_rfl) ?_ _
    go_wp2_with fail
    refine Met.intro (hJ0 _ _ ?_)
    exact ⟨g1, gS, ⟨rfl, rfl⟩, rfl, rfl, rfl, rfl, rfl, H5.out⟩

set_option maxRecDepth 100000 in
set_option maxHeartbeats 4000000 in
theorem p7 (wr : World) (g gR g1 gS : Nat) (xa : Option Addr) (n c : Nat) (a : Act) (hf : Fr 108 a) (h3 : sl a 3 = .slice xa n c) (h9 : sl a 9 = .pointer (some ⟨g, 0, none⟩)) (h10 : sl a 10 = .pointer (some ⟨gR, 0, none⟩)) (h11 : sl a 11 = .pointer (some ⟨g1, 0, none⟩)) (h12 : sl a 12 = .pointer (some ⟨gS, 0, none⟩)) :
    Code.wp Try.prog (cAt [1,1,1,1,1,0,0] KP) (Exit.then (fun a' w' => Fr 108 a' ∧ sl a' 3 = .slice xa n c ∧ sl a' 9 = .pointer (some ⟨g, 0, none⟩) ∧ sl a' 10 = .pointer (some ⟨gR, 0, none⟩) ∧ sl a' 11 = .pointer (some ⟨g1, 0, none⟩) ∧ sl a' 12 = .pointer (some ⟨gS, 0, none⟩) ∧ sl a' 13 = .int .i64 0 ∧ wr = w') Nope) a wr := by
  obtain ⟨f, ha, hs⟩ := fr108 hf
  have e3 := (hs 3).trans h3
  have e9 := (hs 9).trans h9
  have e10 := (hs 10).trans h10
  have e11 := (hs 11).trans h11
  have e12 := (hs 12).trans h12
  rw [e3, e9, e10, e11, e12] at ha
  clear hs hf e3 h3 e9 h9 e10 h10 e11 h11 e12 h12
  subst ha
  refine piece2 fun J0 K0 hJ0 hK0 => ?_
  conv => arg 2; whnf
  go_wp2_with fail
  refine Met.intro (hJ0 _ _ ?_)
  exact ⟨⟨rfl, rfl⟩, rfl, rfl, rfl, rfl, rfl, rfl, rfl⟩

set_option maxRecDepth 100000 in
set_option maxHeartbeats 4000000 in
theorem p8 (wr : World) (g gR g1 gS : Nat) (xa : Option Addr) (n c k : Nat) (hlt : k < n) (a : Act) (hf : Fr 108 a) (h3 : sl a 3 = .slice xa n c) (h9 : sl a 9 = .pointer (some ⟨g, 0, none⟩)) (h10 : sl a 10 = .pointer (some ⟨gR, 0, none⟩)) (h11 : sl a 11 = .pointer (some ⟨g1, 0, none⟩)) (h12 : sl a 12 = .pointer (some ⟨gS, 0, none⟩)) (h13 : sl a 13 = .int .i64 (k : Int)) :
    Code.wp Try.prog (cAt [1,1,1,1,1,0,1,2,2,0] KP) (Exit.then (fun a' w' => Fr 108 a' ∧ sl a' 3 = .slice xa n c ∧ sl a' 9 = .pointer (some ⟨g, 0, none⟩) ∧ sl a' 10 = .pointer (some ⟨gR, 0, none⟩) ∧ sl a' 11 = .pointer (some ⟨g1, 0, none⟩) ∧ sl a' 12 = .pointer (some ⟨gS, 0, none⟩) ∧ sl a' 13 = .int .i64 (k : Int) ∧ wr = w') Nope) a wr := by
  obtain ⟨f, ha, hs⟩ := fr108 hf
  have e3 := (hs 3).trans h3
  have e9 := (hs 9).trans h9
  have e10 := (hs 10).trans h10
  have e11 := (hs 11).trans h11
  have e12 := (hs 12).trans h12
  have e13 := (hs 13).trans h13
  rw [e3, e9, e10, e11, e12, e13] at ha
  clear hs hf e3 h3 e9 h9 e10 h10 e11 h11 e12 h12 e13 h13
  subst ha
  refine piece2 fun J0 K0 hJ0 hK0 => ?_
  conv => arg 2; whnf
  go_wp2_with fail
  refine Met.intro (hJ0 _ _ ?_)
  exact ⟨⟨rfl, rfl⟩, rfl, rfl, rfl, rfl, rfl, rfl, rfl⟩

set_option maxRecDepth 100000 in
set_option maxHeartbeats 4000000 in
theorem p8x (wr : World) (g gR g1 gS : Nat) (xa : Option Addr) (n c k : Nat) (hlt : ¬ k < n) (a : Act) (hf : Fr 108 a) (h3 : sl a 3 = .slice xa n c) (h9 : sl a 9 = .pointer (some ⟨g, 0, none⟩)) (h10 : sl a 10 = .pointer (some ⟨gR, 0, none⟩)) (h11 : sl a 11 = .pointer (some ⟨g1, 0, none⟩)) (h12 : sl a 12 = .pointer (some ⟨gS, 0, none⟩)) (h13 : sl a 13 = .int .i64 (k : Int)) :
    Code.wp Try.prog (cAt [1,1,1,1,1,0,1,2,2] KP) (Outs 0 (fun a' w' => Fr 108 a' ∧ sl a' 3 = .slice xa n c ∧ sl a' 9 = .pointer (some ⟨g, 0, none⟩) ∧ sl a' 10 = .pointer (some ⟨gR, 0, none⟩) ∧ sl a' 11 = .pointer (some ⟨g1, 0, none⟩) ∧ sl a' 12 = .pointer (some ⟨gS, 0, none⟩) ∧ wr = w')) a wr := by
  obtain ⟨f, ha, hs⟩ := fr108 hf
  have e3 := (hs 3).trans h3
  have e9 := (hs 9).trans h9
  have e10 := (hs 10).trans h10
  have e11 := (hs 11).trans h11
  have e12 := (hs 12).trans h12
  have e13 := (hs 13).trans h13
  rw [e3, e9, e10, e11, e12, e13] at ha
  clear hs hf e3 h3 e9 h9 e10 h10 e11 h11 e12 h12 e13 h13
  subst ha
  conv => arg 2; whnf
  go_wp2_with fail
  exact ⟨rfl, ⟨rfl, rfl⟩, rfl, rfl, rfl, rfl, rfl, rfl⟩

set_option maxRecDepth 100000 in
set_option maxHeartbeats 4000000 in
theorem p10 (w wr : World) (g gR g1 gS xb xo n c k : Nat) (b b0 : Bu) (x : Ac) (hlt : k < n) (HW : Hid (Pw w wr g gR g1 gS b b b0)) (HX : Hid (wr.rangeAt xb (xo + k * 3) x.cs)) (HXG : Hid (¬ xb = g)) (HOK : Hid x.ok) (a : Act) (hf : Fr 108 a) (h3 : sl a 3 = .slice (some ⟨xb, xo, none⟩) n c) (h9 : sl a 9 = .pointer (some ⟨g, 0, none⟩)) (h10 : sl a 10 = .pointer (some ⟨gR, 0, none⟩)) (h11 : sl a 11 = .pointer (some ⟨g1, 0, none⟩)) (h12 : sl a 12 = .pointer (some ⟨gS, 0, none⟩)) (h13 : sl a 13 = .int .i64 (k : Int)) :
    Code.wp Try.prog (cAt [1,1,1,1,1,0,1,2,2,1,0,2,0] KP) (Exit.then (fun a' w' => ∃ gs, Fr 108 a' ∧ sl a' 3 = .slice (some ⟨xb, xo, none⟩) n c ∧ sl a' 9 = .pointer (some ⟨g, 0, none⟩) ∧ sl a' 10 = .pointer (some ⟨gR, 0, none⟩) ∧ sl a' 11 = .pointer (some ⟨g1, 0, none⟩) ∧ sl a' 12 = .pointer (some ⟨gS, 0, none⟩) ∧ sl a' 13 = .int .i64 (k : Int) ∧ sl a' 14 = .pointer (some ⟨gs, 0, none⟩) ∧ sl a' 15 = .bool true ∧ Pw w w' g gR g1 gS (b.act x) b b0 ∧ Rk w' gs (b.act x) ∧ gR ≠ gs) Nope) a wr := by
  obtain ⟨f, ha, hs⟩ := fr108 hf
  have e3 := (hs 3).trans h3
  have e9 := (hs 9).trans h9
  have e10 := (hs 10).trans h10
  have e11 := (hs 11).trans h11
  have e12 := (hs 12).trans h12
  have e13 := (hs 13).trans h13
  rw [e3, e9, e10, e11, e12, e13] at ha
  clear hs hf e3 h3 e9 h9 e10 h10 e11 h11 e12 h12 e13 h13
  subst ha
  refine piece2 fun J0 K0 hJ0 hK0 => ?_
  conv => arg 2; whnf
  have hlt2 : (k : Int) < (n : Int) := by omega
  have HS : Hid (Rk wr.drew gR b ∧ World.rangeAt wr.drew xb (xo + k * 3) x.cs) := ⟨HW.out.rk, HX.out⟩
  have HXB : Hid (xb < wr.heap.size) := World.block_lt_of_cell? wr _ (Ac.r0 HX.out)
  refine wp_region_held_drew (S := fun w' => Rk w' gR b ∧ World.rangeAt w' xb (xo + k * 3) x.cs) (by kernel_rfl) HS.out (fun hS => ?_)
  refine tk 0 41 (.pointer (some ⟨g, 0, none⟩)) rfl rfl (by kernel_rfl) (by kernel_rfl) (by kernel_rfl) (fun _ _ _ h => h) (Or.inl ⟨by rfl, fun w' h' => ?_⟩) hS ?_
  · go_simp
  try simp only [Act.put, List.setIfInBounds_toArray, List.set_cons_zero, List.set_cons_succ]
  refine tk 1 42 (.agg #[.int .u64 b.r, .int .u64 b.B, .int .u64 b.T, .int .u64 b.K]) rfl rfl (by kernel_rfl) (by kernel_rfl) (by kernel_rfl) (fun _ _ _ h => h) (Or.inl ⟨by rfl, fun w' h' => ?_⟩) hS ?_
  · have c0 := h'.1.c0
    have c1 := h'.1.c1
    have c2 := h'.1.c2
    have c3 := h'.1.c3
    go_simp
  try simp only [Act.put, List.setIfInBounds_toArray, List.set_cons_zero, List.set_cons_succ]
  refine tk 2 43 (.slice (some ⟨xb, xo, none⟩) n c) rfl rfl (by kernel_rfl) (by kernel_rfl) (by kernel_rfl) (fun _ _ _ h => h) (Or.inl ⟨by rfl, fun w' h' => ?_⟩) hS ?_
  · go_simp
  try simp only [Act.put, List.setIfInBounds_toArray, List.set_cons_zero, List.set_cons_succ]
  refine tk 3 44 (.int .i64 (k : Int)) rfl rfl (by kernel_rfl) (by kernel_rfl) (by kernel_rfl) (fun _ _ _ h => h) (Or.inl ⟨by rfl, fun w' h' => ?_⟩) hS ?_
  · go_simp
  try simp only [Act.put, List.setIfInBounds_toArray, List.set_cons_zero, List.set_cons_succ]
  refine tk 4 45 (.pointer (some ⟨xb, xo + k * 3, none⟩)) rfl rfl (by kernel_rfl) (by kernel_rfl) (by kernel_rfl) (fun _ _ _ h => h) (Or.inl ⟨by rfl, fun w' h' => ?_⟩) hS ?_
  · go_simp
  try simp only [Act.put, List.setIfInBounds_toArray, List.set_cons_zero, List.set_cons_succ]
  refine tk 5 46 (.agg #[.int .i64 x.d, .int .u64 x.t, .int .u64 x.n]) rfl rfl (by kernel_rfl) (by kernel_rfl) (by kernel_rfl) (fun _ _ _ h => h) (Or.inl ⟨by rfl, fun w' h' => ?_⟩) hS ?_
  · have c0 := Ac.r0 h'.2
    have c1 := Ac.r1 h'.2
    have c2 := Ac.r2 h'.2
    go_simp
  try simp only [Act.put, List.setIfInBounds_toArray, List.set_cons_zero, List.set_cons_succ]
  refine wpAnyH_ready (rs := [6, 10]) (by kernel_rfl) (by simp) (AllReadyH.cons rfl (fun K hK => ?_) (AllReadyH.cons rfl (fun K hK => ?_) AllReadyH.nil))
  · rw [if_pos (by rfl)]
    go_wp2_with fail
    refine (does_any g b x _ HW.out.bk.drew HOK.out).mono ?_
    rintro e w1 ⟨rfl, hb1, hk1⟩
    have hcs : (b.act x).cs.toArray = #[.int .u64 (b.act x).r, .int .u64 (b.act x).B, .int .u64 (b.act x).T, .int .u64 (b.act x).K] := rfl
    rw [hcs]
    clear hcs
    have hk1' : Kept (fun y => y = g) wr w1 := ⟨hk1.os, hk1.tape, hk1.output, hk1.size, hk1.block⟩
    have H1 : Hid (Pw w w1 g gR g1 gS (b.act x) b b0 ∧ World.rangeAt w1 xb (xo + k * 3) x.cs ∧ xb < w1.heap.size) := ⟨HW.out.did hb1 hk1', range_keep hk1' HXG.out HX.out, Nat.lt_of_lt_of_le HXB.out hk1.size⟩
    clear hb1 hk1 hk1'
    clear hS
    refine hK.out _ _ (And.intro H1.out.1.rk H1.out.2.1) (fun hS => ?_)
    clear hK K
    try simp only [Act.put, List.setIfInBounds_toArray, List.set_cons_zero, List.set_cons_succ]
    refine tk 7 40 (.tuple #[.agg #[.int .u64 (b.act x).r, .int .u64 (b.act x).B, .int .u64 (b.act x).T, .int .u64 (b.act x).K], .bool true]) rfl rfl (by kernel_rfl) (by kernel_rfl) (by kernel_rfl) (fun _ _ _ h => h) (Or.inl ⟨by rfl, fun w' h' => ?_⟩) hS ?_
    · go_simp
    try simp only [Act.put, List.setIfInBounds_toArray, List.set_cons_zero, List.set_cons_succ]
    refine tk 8 48 (.agg #[.int .u64 (b.act x).r, .int .u64 (b.act x).B, .int .u64 (b.act x).T, .int .u64 (b.act x).K]) rfl rfl (by kernel_rfl) (by kernel_rfl) (by kernel_rfl) (fun _ _ _ h => h) (Or.inl ⟨by rfl, fun w' h' => ?_⟩) hS ?_
    · go_simp
    try simp only [Act.put, List.setIfInBounds_toArray, List.set_cons_zero, List.set_cons_succ]
    refine tk 9 49 (.bool true) rfl rfl (by kernel_rfl) (by kernel_rfl) (by kernel_rfl) (fun _ _ _ h => h) (Or.inl ⟨by rfl, fun w' h' => ?_⟩) hS ?_
    · go_simp
    try simp only [Act.put, List.setIfInBounds_toArray, List.set_cons_zero, List.set_cons_succ]
    refine wpAnyH_ready (rs := [10]) (by kernel_rfl) (by simp) (AllReadyH.cons rfl (fun K hK => ?_) AllReadyH.nil)
    rw [if_pos (by rfl)]
    have H2 : Hid (Rk (w1.alloc (.cells #[.int .u64 0, .int .u64 0, .int .u64 0, .int .u64 0] 28)) w1.heap.size ⟨0, 0, 0, 0⟩ ∧ Below w1.heap.size w1 (w1.alloc (.cells #[.int .u64 0, .int .u64 0, .int .u64 0, .int .u64 0] 28))) := ⟨Blk_new _ _ _, (Below.refl _ _).alloc (Nat.le_refl _) _⟩
    go_wp2_with fail
    obtain ⟨w2, hw2⟩ : ∃ z, w1.alloc (.cells #[.int .u64 0, .int .u64 0, .int .u64 0, .int .u64 0] 28) = z := ⟨_, rfl⟩
    obtain ⟨gs, hgs⟩ : ∃ z, w1.heap.size = z := ⟨_, rfl⟩
    rw [hw2]
    rw [hw2] at H2
    have h1 := H1.out
    have H3 : Hid (Pw w w2 g gR g1 gS (b.act x) b b0 ∧ Rk w2 gs ⟨0, 0, 0, 0⟩ ∧ World.rangeAt w2 xb (xo + k * 3) x.cs ∧ w.heap.size ≤ gs ∧ gR ≠ gs ∧ gS ≠ gs ∧ g ≠ gs ∧ g1 ≠ gs ∧ ¬ xb = gs) :=
      ⟨h1.1.past H2.out.2, hgs ▸ H2.out.1, range_kept H2.out.2 h1.2.1, by have := h1.1.below.size; omega, by have := h1.1.rk.lt; omega, by have := h1.1.s1.lt; omega, by have := h1.1.bk.lt; omega, by have := h1.1.f1.lt; omega, by have := h1.2.2; omega⟩
    rw [hgs]
    clear hw2 hgs H1 H2 h1
    clear hS
    refine hK.out _ _ (And.intro H3.out.1.rk H3.out.2.2.1) (fun hS => ?_)
    clear hK K
    try simp only [Act.put, List.setIfInBounds_toArray, List.set_cons_zero, List.set_cons_succ]
    refine wpAnyH_ready (rs := [11]) (by kernel_rfl) (by simp) (AllReadyH.cons rfl (fun K hK => ?_) AllReadyH.nil)
    rw [if_pos (by rfl)]
    refine wp_stB (.tmp 14) (.tmp 48) rfl gs (b.act x) _ rfl rfl H3.out.2.1 ?_
    intro w5 hr5 hk5
    have h3 := H3.out
    have hs5 : Rk w5 gR b ∧ World.rangeAt w5 xb (xo + k * 3) x.cs := ⟨h3.1.rk.keep hk5 h3.2.2.2.2.1, range_keep hk5 h3.2.2.2.2.2.2.2.2 h3.2.2.1⟩
    have H5 : Hid (Pw w w5 g gR g1 gS (b.act x) b b0 ∧ Rk w5 gs (b.act x) ∧ gR ≠ gs) :=
      ⟨h3.1.else_ hk5 h3.2.2.2.1 (bkrk h3.1.bk h3.2.1) h3.2.2.2.2.1 (bkrk h3.1.f1 h3.2.1) h3.2.2.2.2.2.1, hr5, h3.2.2.2.2.1⟩
    clear hr5 hk5 h3
    clear hS
    refine hK.out _ _ (hs5) (fun hS => ?_)
    clear hK K
    try simp only [Act.put, List.setIfInBounds_toArray]
    refine tk 12 15 (.bool true) rfl rfl (by kernel_rfl) (by kernel_rfl) (by kernel_rfl) (fun _ _ _ h => h) (Or.inl ⟨by rfl, fun w' h' => ?_⟩) hS ?_
    · go_simp
    refine wpAnyH_done (by kernel_rfl) ?_ _
    go_wp2_with fail
    refine Met.intro (hJ0 _ _ ?_)
    exact ⟨gs, ⟨rfl, rfl⟩, rfl, rfl, rfl, rfl, rfl, rfl, rfl, rfl, H5.out⟩
  · rw [if_pos (by rfl)]
    have H2 : Hid (Rk (wr.drew.alloc (.cells #[.int .u64 0, .int .u64 0, .int .u64 0, .int .u64 0] 28)) wr.heap.size ⟨0, 0, 0, 0⟩ ∧ Below wr.heap.size wr (wr.drew.alloc (.cells #[.int .u64 0, .int .u64 0, .int .u64 0, .int .u64 0] 28))) := ⟨Blk_new wr.drew _ _, (Below.refl _ _).drew.alloc (Nat.le_refl _) _⟩
    go_wp2_with fail
    obtain ⟨w1, hw1⟩ : ∃ z, wr.drew.alloc (.cells #[.int .u64 0, .int .u64 0, .int .u64 0, .int .u64 0] 28) = z := ⟨_, rfl⟩
    first | rw [hw1] | (change K _ (wr.drew.alloc (.cells #[.int .u64 0, .int .u64 0, .int .u64 0, .int .u64 0] 28)); rw [hw1])
    rw [hw1] at H2
    obtain ⟨gs, hgs⟩ : ∃ z, wr.heap.size = z := ⟨_, rfl⟩
    have hw := HW.out
    have H1 : Hid (Pw w w1 g gR g1 gS b b b0 ∧ Rk w1 gs ⟨0, 0, 0, 0⟩ ∧ World.rangeAt w1 xb (xo + k * 3) x.cs ∧ w.heap.size ≤ gs ∧ gR ≠ gs ∧ gS ≠ gs ∧ g ≠ gs ∧ g1 ≠ gs ∧ ¬ xb = gs) :=
      ⟨hw.past H2.out.2, hgs ▸ H2.out.1, range_kept H2.out.2 HX.out, by have := hw.below.size; omega, by have := hw.rk.lt; omega, by have := hw.s1.lt; omega, by have := hw.bk.lt; omega, by have := hw.f1.lt; omega, by have := HXB.out; omega⟩
    rw [hgs]
    clear hw1 hgs H2 hw
    clear hS
    refine hK.out _ _ (And.intro H1.out.1.rk H1.out.2.2.1) (fun hS => ?_)
    clear hK K
    try simp only [Act.put, List.setIfInBounds_toArray, List.set_cons_zero, List.set_cons_succ]
    refine wpAnyH_ready (rs := [6]) (by kernel_rfl) (by simp) (AllReadyH.cons rfl (fun K hK => ?_) AllReadyH.nil)
    rw [if_pos (by rfl)]
    go_wp2_with fail
    refine (does_any g b x _ H1.out.1.bk HOK.out).mono ?_
    rintro e w2 ⟨rfl, hb1, hk1⟩
    have hcs : (b.act x).cs.toArray = #[.int .u64 (b.act x).r, .int .u64 (b.act x).B, .int .u64 (b.act x).T, .int .u64 (b.act x).K] := rfl
    rw [hcs]
    clear hcs
    have h1 := H1.out
    have H3 : Hid (Pw w w2 g gR g1 gS (b.act x) b b0 ∧ Rk w2 gs ⟨0, 0, 0, 0⟩ ∧ World.rangeAt w2 xb (xo + k * 3) x.cs ∧ w.heap.size ≤ gs ∧ gR ≠ gs ∧ gS ≠ gs ∧ g ≠ gs ∧ g1 ≠ gs ∧ ¬ xb = gs) :=
      ⟨h1.1.did hb1 hk1, h1.2.1.keep hk1 (fun e => h1.2.2.2.2.2.2.1 e.symm), range_keep hk1 HXG.out h1.2.2.1, h1.2.2.2⟩
    clear hb1 hk1 h1 H1
    clear hS
    refine hK.out _ _ (And.intro H3.out.1.rk H3.out.2.2.1) (fun hS => ?_)
    clear hK K
    try simp only [Act.put, List.setIfInBounds_toArray, List.set_cons_zero, List.set_cons_succ]
    refine tk 7 40 (.tuple #[.agg #[.int .u64 (b.act x).r, .int .u64 (b.act x).B, .int .u64 (b.act x).T, .int .u64 (b.act x).K], .bool true]) rfl rfl (by kernel_rfl) (by kernel_rfl) (by kernel_rfl) (fun _ _ _ h => h) (Or.inl ⟨by rfl, fun w' h' => ?_⟩) hS ?_
    · go_simp
    try simp only [Act.put, List.setIfInBounds_toArray, List.set_cons_zero, List.set_cons_succ]
    refine tk 8 48 (.agg #[.int .u64 (b.act x).r, .int .u64 (b.act x).B, .int .u64 (b.act x).T, .int .u64 (b.act x).K]) rfl rfl (by kernel_rfl) (by kernel_rfl) (by kernel_rfl) (fun _ _ _ h => h) (Or.inl ⟨by rfl, fun w' h' => ?_⟩) hS ?_
    · go_simp
    try simp only [Act.put, List.setIfInBounds_toArray, List.set_cons_zero, List.set_cons_succ]
    refine tk 9 49 (.bool true) rfl rfl (by kernel_rfl) (by kernel_rfl) (by kernel_rfl) (fun _ _ _ h => h) (Or.inl ⟨by rfl, fun w' h' => ?_⟩) hS ?_
    · go_simp
    try simp only [Act.put, List.setIfInBounds_toArray, List.set_cons_zero, List.set_cons_succ]
    refine wpAnyH_ready (rs := [11]) (by kernel_rfl) (by simp) (AllReadyH.cons rfl (fun K hK => ?_) AllReadyH.nil)
    rw [if_pos (by rfl)]
    refine wp_stB (.tmp 14) (.tmp 48) rfl gs (b.act x) _ rfl rfl H3.out.2.1 ?_
    intro w5 hr5 hk5
    have h3 := H3.out
    have hs5 : Rk w5 gR b ∧ World.rangeAt w5 xb (xo + k * 3) x.cs := ⟨h3.1.rk.keep hk5 h3.2.2.2.2.1, range_keep hk5 h3.2.2.2.2.2.2.2.2 h3.2.2.1⟩
    have H5 : Hid (Pw w w5 g gR g1 gS (b.act x) b b0 ∧ Rk w5 gs (b.act x) ∧ gR ≠ gs) :=
      ⟨h3.1.else_ hk5 h3.2.2.2.1 (bkrk h3.1.bk h3.2.1) h3.2.2.2.2.1 (bkrk h3.1.f1 h3.2.1) h3.2.2.2.2.2.1, hr5, h3.2.2.2.2.1⟩
    clear hr5 hk5 h3
    clear hS
    refine hK.out _ _ (hs5) (fun hS => ?_)
    clear hK K
    try simp only [Act.put, List.setIfInBounds_toArray]
    refine tk 12 15 (.bool true) rfl rfl (by kernel_rfl) (by kernel_rfl) (by kernel_rfl) (fun _ _ _ h => h) (Or.inl ⟨by rfl, fun w' h' => ?_⟩) hS ?_
    · go_simp
    refine wpAnyH_done (by kernel_rfl) ?_ _
    go_wp2_with fail
    refine Met.intro (hJ0 _ _ ?_)
    exact ⟨gs, ⟨rfl, rfl⟩, rfl, rfl, rfl, rfl, rfl, rfl, rfl, rfl, H5.out⟩

set_option maxRecDepth 100000 in
set_option maxHeartbeats 4000000 in
theorem p11 (w wr : World) (g gR g1 gS gs xb xo n c k : Nat) (b p b0 : Bu) (HW : Hid (Pw w wr g gR g1 gS p b b0)) (HS : Hid (Rk wr gs p)) (a : Act) (hf : Fr 108 a) (h3 : sl a 3 = .slice (some ⟨xb, xo, none⟩) n c) (h9 : sl a 9 = .pointer (some ⟨g, 0, none⟩)) (h10 : sl a 10 = .pointer (some ⟨gR, 0, none⟩)) (h11 : sl a 11 = .pointer (some ⟨g1, 0, none⟩)) (h12 : sl a 12 = .pointer (some ⟨gS, 0, none⟩)) (h13 : sl a 13 = .int .i64 (k : Int)) (h14 : sl a 14 = .pointer (some ⟨gs, 0, none⟩)) (h15 : sl a 15 = .bool true) :
    Code.wp Try.prog (cAt [1,1,1,1,1,0,1,2,2,1,0,2,1,0] KP) (Exit.then (fun a' w' => Fr 108 a' ∧ sl a' 3 = .slice (some ⟨xb, xo, none⟩) n c ∧ sl a' 9 = .pointer (some ⟨g, 0, none⟩) ∧ sl a' 10 = .pointer (some ⟨gR, 0, none⟩) ∧ sl a' 11 = .pointer (some ⟨g1, 0, none⟩) ∧ sl a' 12 = .pointer (some ⟨gS, 0, none⟩) ∧ sl a' 13 = .int .i64 (k : Int) ∧ sl a' 15 = .bool true ∧ Pw w w' g gR g1 gS p p b0) Nope) a wr := by
  obtain ⟨f, ha, hs⟩ := fr108 hf
  have e3 := (hs 3).trans h3
  have e9 := (hs 9).trans h9
  have e10 := (hs 10).trans h10
  have e11 := (hs 11).trans h11
  have e12 := (hs 12).trans h12
  have e13 := (hs 13).trans h13
  have e14 := (hs 14).trans h14
  have e15 := (hs 15).trans h15
  rw [e3, e9, e10, e11, e12, e13, e14, e15] at ha
  clear hs hf e3 h3 e9 h9 e10 h10 e11 h11 e12 h12 e13 h13 e14 h14 e15 h15
  subst ha
  refine piece2 fun J0 K0 hJ0 hK0 => ?_
  conv => arg 2; whnf
  have c0 := HS.out.c0
  have c1 := HS.out.c1
  have c2 := HS.out.c2
  have c3 := HS.out.c3
  go_wp2_with (refine stB (.tmp 10) (.tmp 50) rfl rfl gR p _ rfl rfl HW.out.rk ?_; intro w5 hr5 hk5; have H5 := Lib.hid (HW.out.put hr5 hk5); clear hr5 hk5)
  refine Met.intro (hJ0 _ _ ?_)
  exact ⟨⟨rfl, rfl⟩, rfl, rfl, rfl, rfl, rfl, rfl, rfl, H5.out⟩

set_option maxRecDepth 100000 in
set_option maxHeartbeats 4000000 in
theorem p12 (w wr : World) (g gR g1 gS xb xo n c k : Nat) (b b0 : Bu) (HW : Hid (Pw w wr g gR g1 gS b b b0)) (a : Act) (hf : Fr 108 a) (h3 : sl a 3 = .slice (some ⟨xb, xo, none⟩) n c) (h9 : sl a 9 = .pointer (some ⟨g, 0, none⟩)) (h10 : sl a 10 = .pointer (some ⟨gR, 0, none⟩)) (h11 : sl a 11 = .pointer (some ⟨g1, 0, none⟩)) (h12 : sl a 12 = .pointer (some ⟨gS, 0, none⟩)) (h13 : sl a 13 = .int .i64 (k : Int)) (h15 : sl a 15 = .bool true) :
    Code.wp Try.prog (cAt [1,1,1,1,1,0,1,2,2,1,0,2,1,1,0] KP) (Exit.then (fun a' w' => ∃ gc, Fr 108 a' ∧ sl a' 3 = .slice (some ⟨xb, xo, none⟩) n c ∧ sl a' 9 = .pointer (some ⟨g, 0, none⟩) ∧ sl a' 10 = .pointer (some ⟨gR, 0, none⟩) ∧ sl a' 11 = .pointer (some ⟨g1, 0, none⟩) ∧ sl a' 12 = .pointer (some ⟨gS, 0, none⟩) ∧ sl a' 13 = .int .i64 (k : Int) ∧ sl a' 15 = .bool true ∧ sl a' 16 = .pointer (some ⟨gc, 0, none⟩) ∧ Pw w w' g gR g1 gS b b b0 ∧ Bk w' gc b ∧ w.heap.size ≤ gc ∧ g ≠ gc ∧ g1 ≠ gc) Nope) a wr := by
  obtain ⟨f, ha, hs⟩ := fr108 hf
  have e3 := (hs 3).trans h3
  have e9 := (hs 9).trans h9
  have e10 := (hs 10).trans h10
  have e11 := (hs 11).trans h11
  have e12 := (hs 12).trans h12
  have e13 := (hs 13).trans h13
  have e15 := (hs 15).trans h15
  rw [e3, e9, e10, e11, e12, e13, e15] at ha
  clear hs hf e3 h3 e9 h9 e10 h10 e11 h11 e12 h12 e13 h13 e15 h15
  subst ha
  refine piece2 fun J0 K0 hJ0 hK0 => ?_
  conv => arg 2; whnf
  go_wp2_with fail
  refine (copy_any g b _ HW.out.bk).mono ?_
  rintro e w1 ⟨gc, rfl, ho, hb1, hl1⟩
  have H1 : Hid (Pw w w1 g gR g1 gS b b b0 ∧ Bk w1 gc b ∧ w.heap.size ≤ gc ∧ g ≠ gc ∧ g1 ≠ gc) := ⟨HW.out.past hl1, hb1, Nat.le_trans HW.out.below.size ho, by have := HW.out.bk.lt; omega, by have := HW.out.f1.lt; omega⟩
  clear ho hb1 hl1
  go_wp2_with fail
  refine Met.intro (hJ0 _ _ ?_)
  exact ⟨gc, ⟨rfl, rfl⟩, rfl, rfl, rfl, rfl, rfl, rfl, rfl, rfl, H1.out⟩

set_option maxRecDepth 100000 in
set_option maxHeartbeats 4000000 in
theorem p13 (w wr : World) (g gR g1 gS gc xb xo n c k : Nat) (b b0 : Bu) (HW : Hid (Pw w wr g gR g1 gS b b b0 ∧ Bk wr gc b ∧ w.heap.size ≤ gc ∧ g ≠ gc ∧ g1 ≠ gc)) (a : Act) (hf : Fr 108 a) (h3 : sl a 3 = .slice (some ⟨xb, xo, none⟩) n c) (h9 : sl a 9 = .pointer (some ⟨g, 0, none⟩)) (h10 : sl a 10 = .pointer (some ⟨gR, 0, none⟩)) (h11 : sl a 11 = .pointer (some ⟨g1, 0, none⟩)) (h12 : sl a 12 = .pointer (some ⟨gS, 0, none⟩)) (h13 : sl a 13 = .int .i64 (k : Int)) (h15 : sl a 15 = .bool true) (h16 : sl a 16 = .pointer (some ⟨gc, 0, none⟩)) :
    Code.wp Try.prog (cAt [1,1,1,1,1,0,1,2,2,1,0,2,1,1,1,0] KP) (Exit.then (fun a' w' => Fr 108 a' ∧ sl a' 3 = .slice (some ⟨xb, xo, none⟩) n c ∧ sl a' 9 = .pointer (some ⟨g, 0, none⟩) ∧ sl a' 10 = .pointer (some ⟨gR, 0, none⟩) ∧ sl a' 11 = .pointer (some ⟨g1, 0, none⟩) ∧ sl a' 12 = .pointer (some ⟨gS, 0, none⟩) ∧ sl a' 13 = .int .i64 (k : Int) ∧ sl a' 16 = .pointer (some ⟨gc, 0, none⟩) ∧ Pw w w' g gR g1 gS b b b0 ∧ Bk w' gc b ∧ w.heap.size ≤ gc ∧ g ≠ gc ∧ g1 ≠ gc) Nope) a wr := by
  obtain ⟨f, ha, hs⟩ := fr108 hf
  have e3 := (hs 3).trans h3
  have e9 := (hs 9).trans h9
  have e10 := (hs 10).trans h10
  have e11 := (hs 11).trans h11
  have e12 := (hs 12).trans h12
  have e13 := (hs 13).trans h13
  have e15 := (hs 15).trans h15
  have e16 := (hs 16).trans h16
  rw [e3, e9, e10, e11, e12, e13, e15, e16] at ha
  clear hs hf e3 h3 e9 h9 e10 h10 e11 h11 e12 h12 e13 h13 e15 h15 e16 h16
  subst ha
  refine piece2 fun J0 K0 hJ0 hK0 => ?_
  conv => arg 2; whnf
  have HS : Hid (Rk wr.drew gR b) := HW.out.1.rk
  have hTT : (b.T != b.T) = false := by simp
  have hKK : (b.K != b.K) = false := by simp
  go_wp2_with fail
  refine wp_region_held_drew (S := fun w' => Rk w' gR b) (by kernel_rfl) HS.out (fun hS => ?_)
  refine tk 0 53 (.bool true) rfl rfl (by kernel_rfl) (by kernel_rfl) (by kernel_rfl) (fun _ _ _ h => h) (Or.inl ⟨by rfl, fun w' h' => ?_⟩) hS ?_
  · go_simp
  try simp only [Act.put, List.setIfInBounds_toArray, List.set_cons_zero, List.set_cons_succ]
  refine tk 1 54 (.bool false) rfl rfl (by kernel_rfl) (by kernel_rfl) (by kernel_rfl) (fun _ _ _ h => h) (Or.inl ⟨by rfl, fun w' h' => ?_⟩) hS ?_
  · go_simp
  try simp only [Act.put, List.setIfInBounds_toArray, List.set_cons_zero, List.set_cons_succ]
  refine tk 2 55 (.bool false) rfl rfl (by kernel_rfl) (by kernel_rfl) (by kernel_rfl) (fun _ _ _ h => h) (Or.inl ⟨by rfl, fun w' h' => ?_⟩) hS ?_
  · go_simp
  try simp only [Act.put, List.setIfInBounds_toArray, List.set_cons_zero, List.set_cons_succ]
  refine tk 3 56 (.pointer (some ⟨g, 0, none⟩)) rfl rfl (by kernel_rfl) (by kernel_rfl) (by kernel_rfl) (fun _ _ _ h => h) (Or.inl ⟨by rfl, fun w' h' => ?_⟩) hS ?_
  · go_simp
  try simp only [Act.put, List.setIfInBounds_toArray, List.set_cons_zero, List.set_cons_succ]
  refine tk 5 58 (.pointer (some ⟨gR, 2, none⟩)) rfl rfl (by kernel_rfl) (by kernel_rfl) (by kernel_rfl) (fun _ _ _ h => h) (Or.inl ⟨by rfl, fun w' h' => ?_⟩) hS ?_
  · go_simp
  try simp only [Act.put, List.setIfInBounds_toArray, List.set_cons_zero, List.set_cons_succ]
  refine tk 6 59 (.int .u64 b.T) rfl rfl (by kernel_rfl) (by kernel_rfl) (by kernel_rfl) (fun _ _ _ h => h) (Or.inl ⟨by rfl, fun w' h' => ?_⟩) hS ?_
  · have c2 := h'.c2
    go_simp
  try simp only [Act.put, List.setIfInBounds_toArray, List.set_cons_zero, List.set_cons_succ]
  refine wpAnyH_ready (rs := [4]) (by kernel_rfl) (by simp) (AllReadyH.cons rfl (fun K hK => ?_) AllReadyH.nil)
  rw [if_pos (by rfl)]
  go_wp2_with fail
  refine (tick_any g b _ HW.out.1.bk.drew).mono ?_
  rintro e v1 ⟨rfl, hwv1⟩
  subst hwv1
  clear hS
  refine hK.out _ _ (HS.out) (fun hS => ?_)
  clear hK K
  try simp only [Act.put, List.setIfInBounds_toArray, List.set_cons_zero, List.set_cons_succ]
  refine tk 7 60 (.bool false) rfl rfl (by kernel_rfl) (by kernel_rfl) (by kernel_rfl) (fun _ _ _ h => h) (Or.inl ⟨by rfl, fun w' h' => ?_⟩) hS ?_
  · go_simp
  try simp only [Act.put, List.setIfInBounds_toArray, List.set_cons_zero, List.set_cons_succ]
  refine tk 8 61 (.bool false) rfl rfl (by kernel_rfl) (by kernel_rfl) (by kernel_rfl) (fun _ _ _ h => h) (Or.inl ⟨by rfl, fun w' h' => ?_⟩) hS ?_
  · go_simp
  try simp only [Act.put, List.setIfInBounds_toArray, List.set_cons_zero, List.set_cons_succ]
  refine tk 9 62 (.bool false) rfl rfl (by kernel_rfl) (by kernel_rfl) (by kernel_rfl) (fun _ _ _ h => h) (Or.inl ⟨by rfl, fun w' h' => ?_⟩) hS ?_
  · go_simp
  try simp only [Act.put, List.setIfInBounds_toArray, List.set_cons_zero, List.set_cons_succ]
  refine tk 10 63 (.pointer (some ⟨gc, 0, none⟩)) rfl rfl (by kernel_rfl) (by kernel_rfl) (by kernel_rfl) (fun _ _ _ h => h) (Or.inl ⟨by rfl, fun w' h' => ?_⟩) hS ?_
  · go_simp
  try simp only [Act.put, List.setIfInBounds_toArray, List.set_cons_zero, List.set_cons_succ]
  refine tk 12 65 (.pointer (some ⟨gR, 2, none⟩)) rfl rfl (by kernel_rfl) (by kernel_rfl) (by kernel_rfl) (fun _ _ _ h => h) (Or.inl ⟨by rfl, fun w' h' => ?_⟩) hS ?_
  · go_simp
  try simp only [Act.put, List.setIfInBounds_toArray, List.set_cons_zero, List.set_cons_succ]
  refine tk 13 66 (.int .u64 b.T) rfl rfl (by kernel_rfl) (by kernel_rfl) (by kernel_rfl) (fun _ _ _ h => h) (Or.inl ⟨by rfl, fun w' h' => ?_⟩) hS ?_
  · have c2 := h'.c2
    go_simp
  try simp only [Act.put, List.setIfInBounds_toArray, List.set_cons_zero, List.set_cons_succ]
  refine wpAnyH_ready (rs := [11]) (by kernel_rfl) (by simp) (AllReadyH.cons rfl (fun K hK => ?_) AllReadyH.nil)
  rw [if_pos (by rfl)]
  go_wp2_with fail
  refine (tick_any gc b _ HW.out.2.1.drew).mono ?_
  rintro e v2 ⟨rfl, hwv2⟩
  subst hwv2
  clear hS
  refine hK.out _ _ (HS.out) (fun hS => ?_)
  clear hK K
  try simp only [Act.put, List.setIfInBounds_toArray, List.set_cons_zero, List.set_cons_succ]
  refine tk 14 67 (.bool false) rfl rfl (by kernel_rfl) (by kernel_rfl) (by kernel_rfl) (fun _ _ _ h => h) (Or.inl ⟨by rfl, fun w' h' => ?_⟩) hS ?_
  · go_simp
  try simp only [Act.put, List.setIfInBounds_toArray, List.set_cons_zero, List.set_cons_succ]
  refine tk 15 68 (.bool false) rfl rfl (by kernel_rfl) (by kernel_rfl) (by kernel_rfl) (fun _ _ _ h => h) (Or.inl ⟨by rfl, fun w' h' => ?_⟩) hS ?_
  · go_simp
  try simp only [Act.put, List.setIfInBounds_toArray, List.set_cons_zero, List.set_cons_succ]
  refine tk 16 69 (.bool false) rfl rfl (by kernel_rfl) (by kernel_rfl) (by kernel_rfl) (fun _ _ _ h => h) (Or.inl ⟨by rfl, fun w' h' => ?_⟩) hS ?_
  · go_simp
  try simp only [Act.put, List.setIfInBounds_toArray, List.set_cons_zero, List.set_cons_succ]
  refine tk 17 70 (.pointer (some ⟨gc, 0, none⟩)) rfl rfl (by kernel_rfl) (by kernel_rfl) (by kernel_rfl) (fun _ _ _ h => h) (Or.inl ⟨by rfl, fun w' h' => ?_⟩) hS ?_
  · go_simp
  try simp only [Act.put, List.setIfInBounds_toArray, List.set_cons_zero, List.set_cons_succ]
  refine tk 19 72 (.pointer (some ⟨gR, 3, none⟩)) rfl rfl (by kernel_rfl) (by kernel_rfl) (by kernel_rfl) (fun _ _ _ h => h) (Or.inl ⟨by rfl, fun w' h' => ?_⟩) hS ?_
  · go_simp
  try simp only [Act.put, List.setIfInBounds_toArray, List.set_cons_zero, List.set_cons_succ]
  refine tk 20 73 (.int .u64 b.K) rfl rfl (by kernel_rfl) (by kernel_rfl) (by kernel_rfl) (fun _ _ _ h => h) (Or.inl ⟨by rfl, fun w' h' => ?_⟩) hS ?_
  · have c3 := h'.c3
    go_simp
  try simp only [Act.put, List.setIfInBounds_toArray, List.set_cons_zero, List.set_cons_succ]
  refine wpAnyH_ready (rs := [18]) (by kernel_rfl) (by simp) (AllReadyH.cons rfl (fun K hK => ?_) AllReadyH.nil)
  rw [if_pos (by rfl)]
  go_wp2_with fail
  refine (level_stays gc 0 b _ HW.out.2.1.drew HW.out.2.1.t0).mono ?_
  rintro e v3 ⟨rfl, hwv3⟩
  subst hwv3
  clear hS
  refine hK.out _ _ (HS.out) (fun hS => ?_)
  clear hK K
  try simp only [Act.put, List.setIfInBounds_toArray, List.set_cons_zero, List.set_cons_succ]
  refine tk 21 74 (.bool false) rfl rfl (by kernel_rfl) (by kernel_rfl) (by kernel_rfl) (fun _ _ _ h => h) (Or.inl ⟨by rfl, fun w' h' => ?_⟩) hS ?_
  · go_simp
  try simp only [Act.put, List.setIfInBounds_toArray, List.set_cons_zero, List.set_cons_succ]
  refine tk 22 75 (.bool false) rfl rfl (by kernel_rfl) (by kernel_rfl) (by kernel_rfl) (fun _ _ _ h => h) (Or.inl ⟨by rfl, fun w' h' => ?_⟩) hS ?_
  · go_simp
  refine wpAnyH_done (by kernel_rfl) ?_ _
  have H5 : Hid (Pw w wr.drew g gR g1 gS b b b0 ∧ Bk wr.drew gc b ∧ w.heap.size ≤ gc ∧ g ≠ gc ∧ g1 ≠ gc) := ⟨HW.out.1.past (Below.refl _ _).drew, HW.out.2.1.drew, HW.out.2.2⟩
  go_wp2_with fail
  refine Met.intro (hJ0 _ _ ?_)
  exact ⟨⟨rfl, rfl⟩, rfl, rfl, rfl, rfl, rfl, rfl, rfl, H5.out⟩

set_option maxRecDepth 100000 in
set_option maxHeartbeats 4000000 in
theorem p15 (w wr : World) (g gR g1 gS gc xb xo n c k : Nat) (b b0 : Bu) (HW : Hid (Pw w wr g gR g1 gS b b b0 ∧ Bk wr gc b ∧ w.heap.size ≤ gc ∧ g ≠ gc ∧ g1 ≠ gc)) (a : Act) (hf : Fr 108 a) (h3 : sl a 3 = .slice (some ⟨xb, xo, none⟩) n c) (h9 : sl a 9 = .pointer (some ⟨g, 0, none⟩)) (h10 : sl a 10 = .pointer (some ⟨gR, 0, none⟩)) (h11 : sl a 11 = .pointer (some ⟨g1, 0, none⟩)) (h12 : sl a 12 = .pointer (some ⟨gS, 0, none⟩)) (h13 : sl a 13 = .int .i64 (k : Int)) (h16 : sl a 16 = .pointer (some ⟨gc, 0, none⟩)) :
    Code.wp Try.prog (cAt [1,1,1,1,1,0,1,2,2,1,0,2,1,1,1,1] KP) (Exit.then (fun a' w' => Fr 108 a' ∧ sl a' 3 = .slice (some ⟨xb, xo, none⟩) n c ∧ sl a' 9 = .pointer (some ⟨g, 0, none⟩) ∧ sl a' 10 = .pointer (some ⟨gR, 0, none⟩) ∧ sl a' 11 = .pointer (some ⟨g1, 0, none⟩) ∧ sl a' 12 = .pointer (some ⟨gS, 0, none⟩) ∧ sl a' 13 = .int .i64 (k : Int) ∧ Pw w w' g gR g1 gS b b b0) Nope) a wr := by
  obtain ⟨f, ha, hs⟩ := fr108 hf
  have e3 := (hs 3).trans h3
  have e9 := (hs 9).trans h9
  have e10 := (hs 10).trans h10
  have e11 := (hs 11).trans h11
  have e12 := (hs 12).trans h12
  have e13 := (hs 13).trans h13
  have e16 := (hs 16).trans h16
  rw [e3, e9, e10, e11, e12, e13, e16] at ha
  clear hs hf e3 h3 e9 h9 e10 h10 e11 h11 e12 h12 e13 h13 e16 h16
  subst ha
  refine piece2 fun J0 K0 hJ0 hK0 => ?_
  conv => arg 2; whnf
  have HS : Hid (Rk wr.drew gR b) := HW.out.1.rk
  have hKK : (b.K != b.K) = false := by simp
  go_wp2_with fail
  refine wp_region_held_drew (S := fun w' => Rk w' gR b) (by kernel_rfl) HS.out (fun hS => ?_)
  refine tk 0 76 (.pointer (some ⟨gc, 0, none⟩)) rfl rfl (by kernel_rfl) (by kernel_rfl) (by kernel_rfl) (fun _ _ _ h => h) (Or.inl ⟨by rfl, fun w' h' => ?_⟩) hS ?_
  · go_simp
  try simp only [Act.put, List.setIfInBounds_toArray, List.set_cons_zero, List.set_cons_succ]
  refine tk 1 77 (.pointer (some ⟨gR, 3, none⟩)) rfl rfl (by kernel_rfl) (by kernel_rfl) (by kernel_rfl) (fun _ _ _ h => h) (Or.inl ⟨by rfl, fun w' h' => ?_⟩) hS ?_
  · go_simp
  try simp only [Act.put, List.setIfInBounds_toArray, List.set_cons_zero, List.set_cons_succ]
  refine tk 2 78 (.int .u64 b.K) rfl rfl (by kernel_rfl) (by kernel_rfl) (by kernel_rfl) (fun _ _ _ h => h) (Or.inl ⟨by rfl, fun w' h' => ?_⟩) hS ?_
  · have c3 := h'.c3
    go_simp
  try simp only [Act.put, List.setIfInBounds_toArray, List.set_cons_zero, List.set_cons_succ]
  refine wpAnyH_ready (rs := [3]) (by kernel_rfl) (by simp) (AllReadyH.cons rfl (fun K hK => ?_) AllReadyH.nil)
  rw [if_pos (by rfl)]
  go_wp2_with fail
  refine (take_all gc b _ HW.out.2.1.drew).mono ?_
  rintro e v1 ⟨rfl, hb1, hk1⟩
  have hk1' : Kept (fun y => y = gc) wr v1 := ⟨hk1.os, hk1.tape, hk1.output, hk1.size, hk1.block⟩
  have h := HW.out
  have H1 : Hid (Pw w v1 g gR g1 gS b b b0 ∧ Bk v1 gc { b with K := 0 }) := ⟨h.1.else_ hk1' h.2.2.1 h.2.2.2.1 (fun e => bkrk h.2.1 h.1.rk e.symm) h.2.2.2.2 (fun e => bkrk h.2.1 h.1.s1 e.symm), hb1⟩
  clear hb1 hk1 hk1' h
  clear hS
  refine hK.out _ _ (H1.out.1.rk) (fun hS => ?_)
  clear hK K
  try simp only [Act.put, List.setIfInBounds_toArray, List.set_cons_zero, List.set_cons_succ]
  refine tk 4 80 (.bool false) rfl rfl (by kernel_rfl) (by kernel_rfl) (by kernel_rfl) (fun _ _ _ h => h) (Or.inl ⟨by rfl, fun w' h' => ?_⟩) hS ?_
  · go_simp
  try simp only [Act.put, List.setIfInBounds_toArray, List.set_cons_zero, List.set_cons_succ]
  refine tk 5 81 (.bool false) rfl rfl (by kernel_rfl) (by kernel_rfl) (by kernel_rfl) (fun _ _ _ h => h) (Or.inl ⟨by rfl, fun w' h' => ?_⟩) hS ?_
  · go_simp
  try simp only [Act.put, List.setIfInBounds_toArray, List.set_cons_zero, List.set_cons_succ]
  refine tk 6 82 (.pointer (some ⟨gc, 0, none⟩)) rfl rfl (by kernel_rfl) (by kernel_rfl) (by kernel_rfl) (fun _ _ _ h => h) (Or.inl ⟨by rfl, fun w' h' => ?_⟩) hS ?_
  · go_simp
  try simp only [Act.put, List.setIfInBounds_toArray, List.set_cons_zero, List.set_cons_succ]
  refine wpAnyH_ready (rs := [7]) (by kernel_rfl) (by simp) (AllReadyH.cons rfl (fun K hK => ?_) AllReadyH.nil)
  rw [if_pos (by rfl)]
  go_wp2_with fail
  refine (level_stays gc 0 _ _ H1.out.2 H1.out.2.t0).mono ?_
  rintro e v3 ⟨rfl, hwv3⟩
  subst hwv3
  clear hS
  refine hK.out _ _ (H1.out.1.rk) (fun hS => ?_)
  clear hK K
  refine tk 8 84 (.bool false) rfl rfl (by kernel_rfl) (by kernel_rfl) (by kernel_rfl) (fun _ _ _ h => h) (Or.inl ⟨by rfl, fun w' h' => ?_⟩) hS ?_
  · go_simp
  try simp only [Act.put, List.setIfInBounds_toArray, List.set_cons_zero, List.set_cons_succ]
  refine tk 9 85 (.bool false) rfl rfl (by kernel_rfl) (by kernel_rfl) (by kernel_rfl) (fun _ _ _ h => h) (Or.inl ⟨by rfl, fun w' h' => ?_⟩) hS ?_
  · go_simp
  try simp only [Act.put, List.setIfInBounds_toArray, List.set_cons_zero, List.set_cons_succ]
  refine tk 10 86 (.bool false) rfl rfl (by kernel_rfl) (by kernel_rfl) (by kernel_rfl) (fun _ _ _ h => h) (Or.inl ⟨by rfl, fun w' h' => ?_⟩) hS ?_
  · go_simp
  try simp only [Act.put, List.setIfInBounds_toArray, List.set_cons_zero, List.set_cons_succ]
  refine tk 11 87 (.pointer (some ⟨g, 0, none⟩)) rfl rfl (by kernel_rfl) (by kernel_rfl) (by kernel_rfl) (fun _ _ _ h => h) (Or.inl ⟨by rfl, fun w' h' => ?_⟩) hS ?_
  · go_simp
  try simp only [Act.put, List.setIfInBounds_toArray, List.set_cons_zero, List.set_cons_succ]
  refine tk 13 89 (.pointer (some ⟨gR, 3, none⟩)) rfl rfl (by kernel_rfl) (by kernel_rfl) (by kernel_rfl) (fun _ _ _ h => h) (Or.inl ⟨by rfl, fun w' h' => ?_⟩) hS ?_
  · go_simp
  try simp only [Act.put, List.setIfInBounds_toArray, List.set_cons_zero, List.set_cons_succ]
  refine tk 14 90 (.int .u64 b.K) rfl rfl (by kernel_rfl) (by kernel_rfl) (by kernel_rfl) (fun _ _ _ h => h) (Or.inl ⟨by rfl, fun w' h' => ?_⟩) hS ?_
  · have c3 := h'.c3
    go_simp
  try simp only [Act.put, List.setIfInBounds_toArray, List.set_cons_zero, List.set_cons_succ]
  refine wpAnyH_ready (rs := [12]) (by kernel_rfl) (by simp) (AllReadyH.cons rfl (fun K hK => ?_) AllReadyH.nil)
  rw [if_pos (by rfl)]
  go_wp2_with fail
  refine (level_stays g 0 b _ H1.out.1.bk H1.out.1.bk.t0).mono ?_
  rintro e v4 ⟨rfl, hwv4⟩
  subst hwv4
  clear hS
  refine hK.out _ _ (H1.out.1.rk) (fun hS => ?_)
  clear hK K
  try simp only [Act.put, List.setIfInBounds_toArray, List.set_cons_zero, List.set_cons_succ]
  refine tk 15 91 (.bool false) rfl rfl (by kernel_rfl) (by kernel_rfl) (by kernel_rfl) (fun _ _ _ h => h) (Or.inl ⟨by rfl, fun w' h' => ?_⟩) hS ?_
  · go_simp
  try simp only [Act.put, List.setIfInBounds_toArray, List.set_cons_zero, List.set_cons_succ]
  refine tk 16 92 (.bool false) rfl rfl (by kernel_rfl) (by kernel_rfl) (by kernel_rfl) (fun _ _ _ h => h) (Or.inl ⟨by rfl, fun w' h' => ?_⟩) hS ?_
  · go_simp
  refine wpAnyH_done (by kernel_rfl) ?_ _
  go_wp2_with fail
  refine Met.intro (hJ0 _ _ ?_)
  exact ⟨⟨rfl, rfl⟩, rfl, rfl, rfl, rfl, rfl, rfl, H1.out.1⟩

set_option maxRecDepth 100000 in
set_option maxHeartbeats 4000000 in
theorem p9 (wr : World) (g gR g1 gS xb xo n c k : Nat) (hk : k < 60) (a : Act) (hf : Fr 108 a) (h3 : sl a 3 = .slice (some ⟨xb, xo, none⟩) n c) (h9 : sl a 9 = .pointer (some ⟨g, 0, none⟩)) (h10 : sl a 10 = .pointer (some ⟨gR, 0, none⟩)) (h11 : sl a 11 = .pointer (some ⟨g1, 0, none⟩)) (h12 : sl a 12 = .pointer (some ⟨gS, 0, none⟩)) (h13 : sl a 13 = .int .i64 (k : Int)) :
    Code.wp Try.prog (cAt [1,1,1,1,1,0,1,2,2,1,1] KP) (Exit.then (fun a' w' => Fr 108 a' ∧ sl a' 3 = .slice (some ⟨xb, xo, none⟩) n c ∧ sl a' 9 = .pointer (some ⟨g, 0, none⟩) ∧ sl a' 10 = .pointer (some ⟨gR, 0, none⟩) ∧ sl a' 11 = .pointer (some ⟨g1, 0, none⟩) ∧ sl a' 12 = .pointer (some ⟨gS, 0, none⟩) ∧ sl a' 13 = .int .i64 ((k : Int) + 1) ∧ wr = w') Nope) a wr := by
  obtain ⟨f, ha, hs⟩ := fr108 hf
  have e3 := (hs 3).trans h3
  have e9 := (hs 9).trans h9
  have e10 := (hs 10).trans h10
  have e11 := (hs 11).trans h11
  have e12 := (hs 12).trans h12
  have e13 := (hs 13).trans h13
  rw [e3, e9, e10, e11, e12, e13] at ha
  clear hs hf e3 h3 e9 h9 e10 h10 e11 h11 e12 h12 e13 h13
  subst ha
  refine piece2 fun J0 K0 hJ0 hK0 => ?_
  conv => arg 2; whnf
  go_wp2_with fail
  refine Met.intro (hJ0 _ _ ?_)
  exact ⟨⟨rfl, rfl⟩, rfl, rfl, rfl, rfl, rfl, rfl, rfl⟩

set_option maxRecDepth 100000 in
set_option maxHeartbeats 4000000 in
theorem p17 (w wr : World) (g gR g1 gS : Nat) (xa : Option Addr) (n c : Nat) (b b0 : Bu) (HW : Hid (Pw w wr g gR g1 gS b b b0)) (a : Act) (hf : Fr 108 a) (h3 : sl a 3 = .slice xa n c) (h9 : sl a 9 = .pointer (some ⟨g, 0, none⟩)) (h10 : sl a 10 = .pointer (some ⟨gR, 0, none⟩)) (h11 : sl a 11 = .pointer (some ⟨g1, 0, none⟩)) (h12 : sl a 12 = .pointer (some ⟨gS, 0, none⟩)) :
    Code.wp Try.prog (cAt [1,1,1,1,1,1] KP) (bodyPost Try.prog Try.f3 (Yes w)) a wr := by
  obtain ⟨f, ha, hs⟩ := fr108 hf
  have e3 := (hs 3).trans h3
  have e9 := (hs 9).trans h9
  have e10 := (hs 10).trans h10
  have e11 := (hs 11).trans h11
  have e12 := (hs 12).trans h12
  rw [e3, e9, e10, e11, e12] at ha
  clear hs hf e3 h3 e9 h9 e10 h10 e11 h11 e12 h12
  subst ha
  conv => arg 2; whnf
  have HS : Hid (Rk wr.drew gS b0) := HW.out.s1
  have hTT : (b0.T == b0.T) = true := by simp
  have hKK : (b0.K == b0.K) = true := by simp
  go_wp2_with fail
  refine wp_region_held_drew (S := fun w' => Rk w' gS b0) (by kernel_rfl) HS.out (fun hS => ?_)
  refine tk 0 93 (.pointer (some ⟨g1, 0, none⟩)) rfl rfl (by kernel_rfl) (by kernel_rfl) (by kernel_rfl) (fun _ _ _ h => h) (Or.inl ⟨by rfl, fun w' h' => ?_⟩) hS ?_
  · go_simp
  try simp only [Act.put, List.setIfInBounds_toArray, List.set_cons_zero, List.set_cons_succ]
  refine tk 2 95 (.pointer (some ⟨gS, 2, none⟩)) rfl rfl (by kernel_rfl) (by kernel_rfl) (by kernel_rfl) (fun _ _ _ h => h) (Or.inl ⟨by rfl, fun w' h' => ?_⟩) hS ?_
  · go_simp
  try simp only [Act.put, List.setIfInBounds_toArray, List.set_cons_zero, List.set_cons_succ]
  refine tk 3 96 (.int .u64 b0.T) rfl rfl (by kernel_rfl) (by kernel_rfl) (by kernel_rfl) (fun _ _ _ h => h) (Or.inl ⟨by rfl, fun w' h' => ?_⟩) hS ?_
  · have c2 := h'.c2
    go_simp
  try simp only [Act.put, List.setIfInBounds_toArray, List.set_cons_zero, List.set_cons_succ]
  refine wpAnyH_ready (rs := [1]) (by kernel_rfl) (by simp) (AllReadyH.cons rfl (fun K hK => ?_) AllReadyH.nil)
  rw [if_pos (by rfl)]
  go_wp2_with fail
  refine (tick_any g1 b0 _ HW.out.f1.drew).mono ?_
  rintro e v1 ⟨rfl, hwv1⟩
  subst hwv1
  clear hS
  refine hK.out _ _ (HS.out) (fun hS => ?_)
  clear hK K
  try simp only [Act.put, List.setIfInBounds_toArray, List.set_cons_zero, List.set_cons_succ]
  refine tk 4 97 (.bool true) rfl rfl (by kernel_rfl) (by kernel_rfl) (by kernel_rfl) (fun _ _ _ h => h) (Or.inl ⟨by rfl, fun w' h' => ?_⟩) hS ?_
  · go_simp
  try simp only [Act.put, List.setIfInBounds_toArray, List.set_cons_zero, List.set_cons_succ]
  refine tk 5 98 (.bool true) rfl rfl (by kernel_rfl) (by kernel_rfl) (by kernel_rfl) (fun _ _ _ h => h) (Or.inl ⟨by rfl, fun w' h' => ?_⟩) hS ?_
  · go_simp
  try simp only [Act.put, List.setIfInBounds_toArray, List.set_cons_zero, List.set_cons_succ]
  refine tk 6 99 (.pointer (some ⟨g1, 0, none⟩)) rfl rfl (by kernel_rfl) (by kernel_rfl) (by kernel_rfl) (fun _ _ _ h => h) (Or.inl ⟨by rfl, fun w' h' => ?_⟩) hS ?_
  · go_simp
  try simp only [Act.put, List.setIfInBounds_toArray, List.set_cons_zero, List.set_cons_succ]
  refine tk 8 101 (.pointer (some ⟨gS, 3, none⟩)) rfl rfl (by kernel_rfl) (by kernel_rfl) (by kernel_rfl) (fun _ _ _ h => h) (Or.inl ⟨by rfl, fun w' h' => ?_⟩) hS ?_
  · go_simp
  try simp only [Act.put, List.setIfInBounds_toArray, List.set_cons_zero, List.set_cons_succ]
  refine tk 9 102 (.int .u64 b0.K) rfl rfl (by kernel_rfl) (by kernel_rfl) (by kernel_rfl) (fun _ _ _ h => h) (Or.inl ⟨by rfl, fun w' h' => ?_⟩) hS ?_
  · have c3 := h'.c3
    go_simp
  try simp only [Act.put, List.setIfInBounds_toArray, List.set_cons_zero, List.set_cons_succ]
  refine wpAnyH_ready (rs := [7]) (by kernel_rfl) (by simp) (AllReadyH.cons rfl (fun K hK => ?_) AllReadyH.nil)
  rw [if_pos (by rfl)]
  go_wp2_with fail
  refine (level_stays g1 0 b0 _ HW.out.f1.drew HW.out.f1.t0).mono ?_
  rintro e v3 ⟨rfl, hwv3⟩
  subst hwv3
  clear hS
  refine hK.out _ _ (HS.out) (fun hS => ?_)
  clear hK K
  try simp only [Act.put, List.setIfInBounds_toArray, List.set_cons_zero, List.set_cons_succ]
  refine tk 10 103 (.bool true) rfl rfl (by kernel_rfl) (by kernel_rfl) (by kernel_rfl) (fun _ _ _ h => h) (Or.inl ⟨by rfl, fun w' h' => ?_⟩) hS ?_
  · go_simp
  try simp only [Act.put, List.setIfInBounds_toArray, List.set_cons_zero, List.set_cons_succ]
  refine tk 11 104 (.bool true) rfl rfl (by kernel_rfl) (by kernel_rfl) (by kernel_rfl) (fun _ _ _ h => h) (Or.inl ⟨by rfl, fun w' h' => ?_⟩) hS ?_
  · go_simp
  try simp only [Act.put, List.setIfInBounds_toArray, List.set_cons_zero, List.set_cons_succ]
  refine tk 12 105 (.bool true) rfl rfl (by kernel_rfl) (by kernel_rfl) (by kernel_rfl) (fun _ _ _ h => h) (Or.inl ⟨by rfl, fun w' h' => ?_⟩) hS ?_
  · go_simp
  try simp only [Act.put, List.setIfInBounds_toArray, List.set_cons_zero, List.set_cons_succ]
  refine wpAnyH_ready (rs := [13]) (by kernel_rfl) (by simp) (AllReadyH.cons rfl (fun K hK => ?_) AllReadyH.nil)
  rw [if_pos (by rfl)]
  go_wp2_with fail
  refine (works10_any _).mono ?_
  rintro e v4 ⟨rfl, hb4⟩
  have hb4' : Below wr.heap.size wr v4 := ⟨hb4.os, hb4.tape, hb4.output, hb4.size, hb4.block⟩
  have H4 := Lib.hid (HW.out.past hb4')
  clear hb4 hb4'
  clear hS
  refine hK.out _ _ (H4.out.s1) (fun hS => ?_)
  clear hK K
  try simp only [Act.put, List.setIfInBounds_toArray, List.set_cons_zero, List.set_cons_succ]
  refine tk 14 107 (.bool true) rfl rfl (by kernel_rfl) (by kernel_rfl) (by kernel_rfl) (fun _ _ _ h => h) (Or.inl ⟨by rfl, fun w' h' => ?_⟩) hS ?_
  · go_simp
  try simp only [Act.put, List.setIfInBounds_toArray, List.set_cons_zero, List.set_cons_succ]
  refine tk 15 8 (.bool true) rfl rfl (by kernel_rfl) (by kernel_rfl) (by kernel_rfl) (fun _ _ _ h => h) (Or.inl ⟨by rfl, fun w' h' => ?_⟩) hS ?_
  · go_simp
  refine wpAnyH_done (by kernel_rfl) ?_ _
  go_wp2_with fail
  go_ret
  exact ⟨rfl, H4.out.below⟩

end Go.Proofs.Ytngjlippfifkiaa

/-
  The contracts of Same of two disks, and of the document's Same. Conditions: disks of at most a million unsynced writes. (Made by gen_dksame2.py.)
-/
import Derived.Test.YtbghdlgfpfeaeaaDkSame
namespace Go.Proofs.Ytbghdlgfpfeaeaa
open Go.RowKit

set_option maxRecDepth 100000 in
set_option maxHeartbeats 1000000 in
theorem dkSame_any (B g B2 g2 : Nat) (k k2 : Dk) (w : World) (h : Dm w B g k) (h2 : Dm w B2 g2 k2) (hn : k.W.length ≤ 1000000) (hn2 : k2.W.length ≤ 1000000) :
    Calls Try.prog 19 #[.pointer (some ⟨g, 0, none⟩), .pointer (some ⟨g2, 0, none⟩)] w (Gives w (.bool (decide (k.d = k2.d ∧ k.ws = k2.ws)))) := by
  have HD : Hid (Dm w B g k ∧ Dm w B2 g2 k2) := ⟨h, h2⟩
  have HN : Hid (k.W.length ≤ 1000000 ∧ k2.W.length ≤ 1000000) := ⟨hn, hn2⟩
  clear h h2 hn hn2
  by_cases hd : k.d = k2.d
  · have HE : Hid (decide (k.d = k2.d) = true) := decide_eq_true hd
    have HF : Hid (decide (k.d = k2.d ∧ k.ws = k2.ws) = decide (k.W.map Uw.pl = k2.W.map Uw.pl)) := by
      show _ = _
      rw [Bool.eq_iff_iff, decide_eq_true_eq, decide_eq_true_eq]
      exact ⟨fun h => h.2, fun h => ⟨hd, h⟩⟩
    clear hd
    go_enter Try.func19, Try.ntmps19
    go_wp2_with fail
    have HS : Hid (Dm w.drew B g k ∧ Dm w.drew B2 g2 k2) := ⟨HD.out.1.below (Below.refl _ _).drew, HD.out.2.below (Below.refl _ _).drew⟩
    refine wp_region_held_drew (S := fun w' => Dm w' B g k ∧ Dm w' B2 g2 k2) (by kernel_rfl) HS.out (fun hS => ?_)
    refine tk 0 14 (.pointer (some ⟨g, 0, none⟩)) rfl rfl (by kernel_rfl) (by kernel_rfl) (by kernel_rfl) (fun _ _ _ h => h) (Or.inl ⟨by rfl, fun w' h' => ?_⟩) hS ?_
    · go_simp
    try simp only [Act.put, List.setIfInBounds_toArray, List.set_cons_zero, List.set_cons_succ]
    refine tk 1 15 (.pointer (some ⟨g, 0, none⟩)) rfl rfl (by kernel_rfl) (by kernel_rfl) (by kernel_rfl) (fun _ _ _ h => h) (Or.inl ⟨by rfl, fun w' h' => ?_⟩) hS ?_
    · go_simp
    try simp only [Act.put, List.setIfInBounds_toArray, List.set_cons_zero, List.set_cons_succ]
    refine tk 2 16 (.pointer (some ⟨g, 0, none⟩)) rfl rfl (by kernel_rfl) (by kernel_rfl) (by kernel_rfl) (fun _ _ _ h => h) (Or.inl ⟨by rfl, fun w' h' => ?_⟩) hS ?_
    · go_simp
    try simp only [Act.put, List.setIfInBounds_toArray, List.set_cons_zero, List.set_cons_succ]
    refine tk 3 17 (.slice k.a k.d.length k.c) rfl rfl (by kernel_rfl) (by kernel_rfl) (by kernel_rfl) (fun _ _ _ h => h) (Or.inl ⟨by rfl, fun w' h' => ?_⟩) hS ?_
    · have x1 := h'.1.c0
      go_simp
    try simp only [Act.put, List.setIfInBounds_toArray, List.set_cons_zero, List.set_cons_succ]
    refine tk 4 18 (.pointer (some ⟨g2, 0, none⟩)) rfl rfl (by kernel_rfl) (by kernel_rfl) (by kernel_rfl) (fun _ _ _ h => h) (Or.inl ⟨by rfl, fun w' h' => ?_⟩) hS ?_
    · go_simp
    try simp only [Act.put, List.setIfInBounds_toArray, List.set_cons_zero, List.set_cons_succ]
    refine tk 5 19 (.pointer (some ⟨g2, 0, none⟩)) rfl rfl (by kernel_rfl) (by kernel_rfl) (by kernel_rfl) (fun _ _ _ h => h) (Or.inl ⟨by rfl, fun w' h' => ?_⟩) hS ?_
    · go_simp
    try simp only [Act.put, List.setIfInBounds_toArray, List.set_cons_zero, List.set_cons_succ]
    refine tk 6 20 (.pointer (some ⟨g2, 0, none⟩)) rfl rfl (by kernel_rfl) (by kernel_rfl) (by kernel_rfl) (fun _ _ _ h => h) (Or.inl ⟨by rfl, fun w' h' => ?_⟩) hS ?_
    · go_simp
    try simp only [Act.put, List.setIfInBounds_toArray, List.set_cons_zero, List.set_cons_succ]
    refine tk 7 21 (.slice k2.a k2.d.length k2.c) rfl rfl (by kernel_rfl) (by kernel_rfl) (by kernel_rfl) (fun _ _ _ h => h) (Or.inl ⟨by rfl, fun w' h' => ?_⟩) hS ?_
    · have x1 := h'.2.c0
      go_simp
    try simp only [Act.put, List.setIfInBounds_toArray, List.set_cons_zero, List.set_cons_succ]
    refine wpAnyH_ready (rs := [8]) (by kernel_rfl) (by simp) (AllReadyH.cons rfl (fun K hK => ?_) AllReadyH.nil)
    rw [if_pos (by rfl)]
    go_wp2_with fail
    refine (bEqual_any k.a k2.a k.d.length k.c k2.d.length k2.c k.d k2.d w.drew rfl rfl HS.out.1.dur.rd HS.out.2.dur.rd HS.out.1.ok.byt HS.out.2.ok.byt).mono ?_
    rintro e w2 ⟨rfl, hw2⟩
    subst hw2
    rw [HE.out]
    clear hS
    refine hK.out _ _ (HS.out) (fun hS => ?_)
    clear hK K
    try simp only [Act.put, List.setIfInBounds_toArray, List.set_cons_zero, List.set_cons_succ]
    refine tk 9 23 (.bool true) rfl rfl (by kernel_rfl) (by kernel_rfl) (by kernel_rfl) (fun _ _ _ h => h) (Or.inl ⟨by rfl, fun w' h' => ?_⟩) hS ?_
    · go_simp
    try simp only [Act.put, List.setIfInBounds_toArray, List.set_cons_zero, List.set_cons_succ]
    refine tk 10 24 (.pointer (some ⟨g, 0, none⟩)) rfl rfl (by kernel_rfl) (by kernel_rfl) (by kernel_rfl) (fun _ _ _ h => h) (Or.inl ⟨by rfl, fun w' h' => ?_⟩) hS ?_
    · go_simp
    try simp only [Act.put, List.setIfInBounds_toArray, List.set_cons_zero, List.set_cons_succ]
    refine tk 11 25 (.pointer (some ⟨g, 0, none⟩)) rfl rfl (by kernel_rfl) (by kernel_rfl) (by kernel_rfl) (fun _ _ _ h => h) (Or.inl ⟨by rfl, fun w' h' => ?_⟩) hS ?_
    · go_simp
    try simp only [Act.put, List.setIfInBounds_toArray, List.set_cons_zero, List.set_cons_succ]
    refine tk 12 26 (.pointer (some ⟨g, 1, none⟩)) rfl rfl (by kernel_rfl) (by kernel_rfl) (by kernel_rfl) (fun _ _ _ h => h) (Or.inl ⟨by rfl, fun w' h' => ?_⟩) hS ?_
    · go_simp
    try simp only [Act.put, List.setIfInBounds_toArray, List.set_cons_zero, List.set_cons_succ]
    refine tk 13 27 (.slice k.u k.W.length k.v) rfl rfl (by kernel_rfl) (by kernel_rfl) (by kernel_rfl) (fun _ _ _ h => h) (Or.inl ⟨by rfl, fun w' h' => ?_⟩) hS ?_
    · have x1 := h'.1.c1
      go_simp
    try simp only [Act.put, List.setIfInBounds_toArray, List.set_cons_zero, List.set_cons_succ]
    refine tk 14 28 (.pointer (some ⟨g2, 0, none⟩)) rfl rfl (by kernel_rfl) (by kernel_rfl) (by kernel_rfl) (fun _ _ _ h => h) (Or.inl ⟨by rfl, fun w' h' => ?_⟩) hS ?_
    · go_simp
    try simp only [Act.put, List.setIfInBounds_toArray, List.set_cons_zero, List.set_cons_succ]
    refine tk 15 29 (.pointer (some ⟨g2, 0, none⟩)) rfl rfl (by kernel_rfl) (by kernel_rfl) (by kernel_rfl) (fun _ _ _ h => h) (Or.inl ⟨by rfl, fun w' h' => ?_⟩) hS ?_
    · go_simp
    try simp only [Act.put, List.setIfInBounds_toArray, List.set_cons_zero, List.set_cons_succ]
    refine tk 16 30 (.pointer (some ⟨g2, 1, none⟩)) rfl rfl (by kernel_rfl) (by kernel_rfl) (by kernel_rfl) (fun _ _ _ h => h) (Or.inl ⟨by rfl, fun w' h' => ?_⟩) hS ?_
    · go_simp
    try simp only [Act.put, List.setIfInBounds_toArray, List.set_cons_zero, List.set_cons_succ]
    refine tk 17 31 (.slice k2.u k2.W.length k2.v) rfl rfl (by kernel_rfl) (by kernel_rfl) (by kernel_rfl) (fun _ _ _ h => h) (Or.inl ⟨by rfl, fun w' h' => ?_⟩) hS ?_
    · have x1 := h'.2.c1
      go_simp
    try simp only [Act.put, List.setIfInBounds_toArray, List.set_cons_zero, List.set_cons_succ]
    refine wpAnyH_ready (rs := [18]) (by kernel_rfl) (by simp) (AllReadyH.cons rfl (fun K hK => ?_) AllReadyH.nil)
    rw [if_pos (by rfl)]
    go_wp2_with fail
    refine (eqF_any k.u k2.u k.v k2.v k.W k2.W w.drew HS.out.1.wr_ HS.out.2.wr_ HN.out.1 HN.out.2).mono ?_
    rintro e w3 ⟨rfl, hb3⟩
    have H3 : Hid (Below w.heap.size w w3 ∧ Dm w3 B g k ∧ Dm w3 B2 g2 k2) := ⟨((Below.refl _ _).drew).trans hb3, HS.out.1.below hb3, HS.out.2.below hb3⟩
    clear hb3
    obtain ⟨b, hb⟩ : ∃ b, decide (k.W.map Uw.pl = k2.W.map Uw.pl) = b := ⟨_, rfl⟩
    rw [hb] at HF ⊢
    clear hb
    clear hS
    refine hK.out _ _ (H3.out.2) (fun hS => ?_)
    clear hK K
    try simp only [Act.put, List.setIfInBounds_toArray, List.set_cons_zero, List.set_cons_succ]
    refine tk 19 33 (.bool b) rfl rfl (by kernel_rfl) (by kernel_rfl) (by kernel_rfl) (fun _ _ _ h => h) (Or.inl ⟨by rfl, fun w' h' => ?_⟩) hS ?_
    · go_simp
    try simp only [Act.put, List.setIfInBounds_toArray, List.set_cons_zero, List.set_cons_succ]
    refine tk 20 4 (.bool b) rfl rfl (by kernel_rfl) (by kernel_rfl) (by kernel_rfl) (fun _ _ _ h => h) (Or.inl ⟨by rfl, fun w' h' => ?_⟩) hS ?_
    · go_simp
    refine wpAnyH_done (by kernel_rfl) ?_ _
    go_wp2_with fail
    go_ret
    exact ⟨by rw [HF.out]; rfl, H3.out.1⟩
  · have HE : Hid (decide (k.d = k2.d) = false) := decide_eq_false hd
    have HF : Hid (decide (k.d = k2.d ∧ k.ws = k2.ws) = false) := decide_eq_false (fun e => hd e.1)
    clear hd
    go_enter Try.func19, Try.ntmps19
    go_wp2_with fail
    have HS : Hid (Dm w.drew B g k ∧ Dm w.drew B2 g2 k2) := ⟨HD.out.1.below (Below.refl _ _).drew, HD.out.2.below (Below.refl _ _).drew⟩
    refine wp_region_held_drew (S := fun w' => Dm w' B g k ∧ Dm w' B2 g2 k2) (by kernel_rfl) HS.out (fun hS => ?_)
    refine tk 0 14 (.pointer (some ⟨g, 0, none⟩)) rfl rfl (by kernel_rfl) (by kernel_rfl) (by kernel_rfl) (fun _ _ _ h => h) (Or.inl ⟨by rfl, fun w' h' => ?_⟩) hS ?_
    · go_simp
    try simp only [Act.put, List.setIfInBounds_toArray, List.set_cons_zero, List.set_cons_succ]
    refine tk 1 15 (.pointer (some ⟨g, 0, none⟩)) rfl rfl (by kernel_rfl) (by kernel_rfl) (by kernel_rfl) (fun _ _ _ h => h) (Or.inl ⟨by rfl, fun w' h' => ?_⟩) hS ?_
    · go_simp
    try simp only [Act.put, List.setIfInBounds_toArray, List.set_cons_zero, List.set_cons_succ]
    refine tk 2 16 (.pointer (some ⟨g, 0, none⟩)) rfl rfl (by kernel_rfl) (by kernel_rfl) (by kernel_rfl) (fun _ _ _ h => h) (Or.inl ⟨by rfl, fun w' h' => ?_⟩) hS ?_
    · go_simp
    try simp only [Act.put, List.setIfInBounds_toArray, List.set_cons_zero, List.set_cons_succ]
    refine tk 3 17 (.slice k.a k.d.length k.c) rfl rfl (by kernel_rfl) (by kernel_rfl) (by kernel_rfl) (fun _ _ _ h => h) (Or.inl ⟨by rfl, fun w' h' => ?_⟩) hS ?_
    · have x1 := h'.1.c0
      go_simp
    try simp only [Act.put, List.setIfInBounds_toArray, List.set_cons_zero, List.set_cons_succ]
    refine tk 4 18 (.pointer (some ⟨g2, 0, none⟩)) rfl rfl (by kernel_rfl) (by kernel_rfl) (by kernel_rfl) (fun _ _ _ h => h) (Or.inl ⟨by rfl, fun w' h' => ?_⟩) hS ?_
    · go_simp
    try simp only [Act.put, List.setIfInBounds_toArray, List.set_cons_zero, List.set_cons_succ]
    refine tk 5 19 (.pointer (some ⟨g2, 0, none⟩)) rfl rfl (by kernel_rfl) (by kernel_rfl) (by kernel_rfl) (fun _ _ _ h => h) (Or.inl ⟨by rfl, fun w' h' => ?_⟩) hS ?_
    · go_simp
    try simp only [Act.put, List.setIfInBounds_toArray, List.set_cons_zero, List.set_cons_succ]
    refine tk 6 20 (.pointer (some ⟨g2, 0, none⟩)) rfl rfl (by kernel_rfl) (by kernel_rfl) (by kernel_rfl) (fun _ _ _ h => h) (Or.inl ⟨by rfl, fun w' h' => ?_⟩) hS ?_
    · go_simp
    try simp only [Act.put, List.setIfInBounds_toArray, List.set_cons_zero, List.set_cons_succ]
    refine tk 7 21 (.slice k2.a k2.d.length k2.c) rfl rfl (by kernel_rfl) (by kernel_rfl) (by kernel_rfl) (fun _ _ _ h => h) (Or.inl ⟨by rfl, fun w' h' => ?_⟩) hS ?_
    · have x1 := h'.2.c0
      go_simp
    try simp only [Act.put, List.setIfInBounds_toArray, List.set_cons_zero, List.set_cons_succ]
    refine wpAnyH_ready (rs := [8]) (by kernel_rfl) (by simp) (AllReadyH.cons rfl (fun K hK => ?_) AllReadyH.nil)
    rw [if_pos (by rfl)]
    go_wp2_with fail
    refine (bEqual_any k.a k2.a k.d.length k.c k2.d.length k2.c k.d k2.d w.drew rfl rfl HS.out.1.dur.rd HS.out.2.dur.rd HS.out.1.ok.byt HS.out.2.ok.byt).mono ?_
    rintro e w2 ⟨rfl, hw2⟩
    subst hw2
    rw [HE.out]
    clear hS
    refine hK.out _ _ (HS.out) (fun hS => ?_)
    clear hK K
    try simp only [Act.put, List.setIfInBounds_toArray, List.set_cons_zero, List.set_cons_succ]
    refine tk 9 23 (.bool false) rfl rfl (by kernel_rfl) (by kernel_rfl) (by kernel_rfl) (fun _ _ _ h => h) (Or.inl ⟨by rfl, fun w' h' => ?_⟩) hS ?_
    · go_simp
    try simp only [Act.put, List.setIfInBounds_toArray, List.set_cons_zero, List.set_cons_succ]
    refine tk 10 24 undef rfl rfl (by kernel_rfl) (by kernel_rfl) (by kernel_rfl) (fun _ _ _ h => h) (Or.inr ⟨by rfl, rfl⟩) hS ?_
    try simp only [Act.put, List.setIfInBounds_toArray, List.set_cons_zero, List.set_cons_succ]
    refine tk 11 25 undef rfl rfl (by kernel_rfl) (by kernel_rfl) (by kernel_rfl) (fun _ _ _ h => h) (Or.inr ⟨by rfl, rfl⟩) hS ?_
    try simp only [Act.put, List.setIfInBounds_toArray, List.set_cons_zero, List.set_cons_succ]
    refine tk 12 26 undef rfl rfl (by kernel_rfl) (by kernel_rfl) (by kernel_rfl) (fun _ _ _ h => h) (Or.inr ⟨by rfl, rfl⟩) hS ?_
    try simp only [Act.put, List.setIfInBounds_toArray, List.set_cons_zero, List.set_cons_succ]
    refine tk 13 27 undef rfl rfl (by kernel_rfl) (by kernel_rfl) (by kernel_rfl) (fun _ _ _ h => h) (Or.inr ⟨by rfl, rfl⟩) hS ?_
    try simp only [Act.put, List.setIfInBounds_toArray, List.set_cons_zero, List.set_cons_succ]
    refine tk 14 28 undef rfl rfl (by kernel_rfl) (by kernel_rfl) (by kernel_rfl) (fun _ _ _ h => h) (Or.inr ⟨by rfl, rfl⟩) hS ?_
    try simp only [Act.put, List.setIfInBounds_toArray, List.set_cons_zero, List.set_cons_succ]
    refine tk 15 29 undef rfl rfl (by kernel_rfl) (by kernel_rfl) (by kernel_rfl) (fun _ _ _ h => h) (Or.inr ⟨by rfl, rfl⟩) hS ?_
    try simp only [Act.put, List.setIfInBounds_toArray, List.set_cons_zero, List.set_cons_succ]
    refine tk 16 30 undef rfl rfl (by kernel_rfl) (by kernel_rfl) (by kernel_rfl) (fun _ _ _ h => h) (Or.inr ⟨by rfl, rfl⟩) hS ?_
    try simp only [Act.put, List.setIfInBounds_toArray, List.set_cons_zero, List.set_cons_succ]
    refine tk 17 31 undef rfl rfl (by kernel_rfl) (by kernel_rfl) (by kernel_rfl) (fun _ _ _ h => h) (Or.inr ⟨by rfl, rfl⟩) hS ?_
    try simp only [Act.put, List.setIfInBounds_toArray, List.set_cons_zero, List.set_cons_succ]
    refine tk 18 32 undef rfl rfl (by kernel_rfl) (by kernel_rfl) (by kernel_rfl) (fun _ _ _ h => h) (Or.inr ⟨by rfl, rfl⟩) hS ?_
    try simp only [Act.put, List.setIfInBounds_toArray, List.set_cons_zero, List.set_cons_succ]
    refine tk 19 33 (.bool false) rfl rfl (by kernel_rfl) (by kernel_rfl) (by kernel_rfl) (fun _ _ _ h => h) (Or.inl ⟨by rfl, fun w' h' => ?_⟩) hS ?_
    · go_simp
    try simp only [Act.put, List.setIfInBounds_toArray, List.set_cons_zero, List.set_cons_succ]
    refine tk 20 4 (.bool false) rfl rfl (by kernel_rfl) (by kernel_rfl) (by kernel_rfl) (fun _ _ _ h => h) (Or.inl ⟨by rfl, fun w' h' => ?_⟩) hS ?_
    · go_simp
    refine wpAnyH_done (by kernel_rfl) ?_ _
    go_wp2_with fail
    go_ret
    exact ⟨by rw [HF.out]; rfl, (Below.refl _ _).drew⟩

/-- Two disks of the document's in boxes of the call's. -/
structure Bx2 (w : World) (a b : Rk) (b0 b1 : Nat) (w' : World) : Prop where
  below : Below w.heap.size w w'
  r0 : w'.heap[b0]? = some (.cells #[.string (str a.d), .slice a.u a.L.length a.c] 63 (0, 0))
  r1 : w'.heap[b1]? = some (.cells #[.string (str b.d), .slice b.u b.L.length b.c] 63 (0, 0))
  la : a.lies w'
  lb : b.lies w'
theorem Bx2.past {w w1 w2 : World} {a b : Rk} {b0 b1 : Nat} (h : Bx2 w a b b0 b1 w1) (hk : Below w1.heap.size w1 w2) : Bx2 w a b b0 b1 w2 :=
  ⟨h.below.trans (hk.mono h.below.size), (hk.block _ (Array.getElem?_eq_some_iff.1 h.r0).1).trans h.r0, (hk.block _ (Array.getElem?_eq_some_iff.1 h.r1).1).trans h.r1, h.la.below hk, h.lb.below hk⟩
theorem if_wr {β : Type} (x y : Pw) (hx : Byt x.2) (hy : Byt y.2) (T F : β) : (if x.1 = y.1 then (if (str x.2).toList = (str y.2).toList then F else T) else T) = (if x = y then F else T) := by
  have h1 := str_eq hx hy
  obtain ⟨p, xs⟩ := x
  obtain ⟨q, ys⟩ := y
  simp only at h1
  by_cases h2 : p = q
  · by_cases h3 : xs = ys
    · simp [h2, h3]
    · simp [h2, h3, h1]
  · simp [h2]
set_option maxRecDepth 100000 in
set_option maxHeartbeats 2000000 in
theorem r13Same_any (a b : Rk) (w : World) (ha : a.lies w) (hb : b.lies w) (pa : PlOk a.d a.L) (pb : PlOk b.d b.L) : Calls Try.prog 38 #[a.v, b.v] w (Gives w (.bool (decide (a.d = b.d ∧ a.L = b.L)))) := by
  show Calls Try.prog 38 #[.agg #[.string (str a.d), .slice a.u a.L.length a.c], .agg #[.string (str b.d), .slice b.u b.L.length b.c]] w _
  have hbb : Below w.heap.size w ((w.alloc (.cells #[.string (str a.d), .slice a.u a.L.length a.c] 63)).alloc (.cells #[.string (str b.d), .slice b.u b.L.length b.c] 63)) := (al w _).alloc (by simp) _
  have hB : Bx2 w a b w.heap.size (w.heap.size + 1) ((w.alloc (.cells #[.string (str a.d), .slice a.u a.L.length a.c] 63)).alloc (.cells #[.string (str b.d), .slice b.u b.L.length b.c] 63)) := by
    refine ⟨hbb, ?_, ?_, ha.below hbb, hb.below hbb⟩
    · rw [Below.heap_alloc _ _ _ (by simp)]; exact Blk_new w _ _
    · have := Blk_new (w.alloc (.cells #[.string (str a.d), .slice a.u a.L.length a.c] 63)) #[.string (str b.d), .slice b.u b.L.length b.c] 63
      simpa using this
  obtain ⟨w1, hw1⟩ : ∃ z, (w.alloc (.cells #[.string (str a.d), .slice a.u a.L.length a.c] 63)).alloc (.cells #[.string (str b.d), .slice b.u b.L.length b.c] 63) = z := ⟨_, rfl⟩
  rw [hw1] at hB
  have HB := Lib.hid hB
  have HW1 := Lib.hid hw1
  have c0 := two0 hB.r0
  have c1 := two1 hB.r0
  have d0 := two0 hB.r1
  have d1 := two1 hB.r1
  have HPA := Lib.hid pa
  have HPB := Lib.hid pb
  have hse : ((str a.d).toList = (str b.d).toList) ↔ a.d = b.d := str_eq pa.byt pb.byt
  clear ha hb pa pb hbb hB hw1
  obtain ⟨n, hn⟩ : ∃ n, a.L.length = n := ⟨_, rfl⟩
  obtain ⟨n2, hn2⟩ : ∃ n, b.L.length = n := ⟨_, rfl⟩
  have HN : Hid (a.L.length = n ∧ b.L.length = n2 ∧ n ≤ 1000) := ⟨hn, hn2, by rw [← hn]; exact HPA.out.num⟩
  rw [hn] at c1 HW1 ⊢
  rw [hn2] at d1 HW1 ⊢
  clear hn hn2
  by_cases hd : a.d = b.d
  · by_cases hnn : n = n2
    · subst hnn
      have HF : Hid (decide (a.d = b.d ∧ a.L = b.L) = decide (a.L = b.L)) := by
        show _ = _
        rw [Bool.eq_iff_iff, decide_eq_true_eq, decide_eq_true_eq]
        exact ⟨fun h => h.2, fun h => ⟨hd, h⟩⟩
      rw [HF.out]
      have hsl := hse.2 hd
      clear hse hd HF
      go_enter Try.func38, Try.ntmps38
      go_wp2_with fail
      rw [HW1.out]
      go_wp2_with fail
      clear hsl
      go_loopw [5] (fun i wr => ∃ j : Nat, j ≤ n ∧ i = .int .i64 j ∧ Hid (Bx2 w a b w.heap.size (w.heap.size + 1) wr ∧ a.L.take j = b.L.take j)) (fun i _ => n - (intOf i).toNat)
      case atStart => exact ⟨0, Nat.zero_le _, rfl, HB.out, rfl⟩
      case round =>
        obtain ⟨j, hj, rfl, hk⟩ := hrel
        have q1 := two1 hk.out.1.r0
        have q2 := two1 hk.out.1.r1
        rw [HN.out.1] at q1
        rw [HN.out.2.1] at q2
        by_cases hlt : j < n
        · obtain ⟨x, hx⟩ : ∃ x, a.L[j]? = some x := ⟨_, List.getElem?_eq_getElem (by rw [HN.out.1]; exact hlt)⟩
          obtain ⟨y, hy⟩ : ∃ y, b.L[j]? = some y := ⟨_, List.getElem?_eq_getElem (by rw [HN.out.2.1]; exact hlt)⟩
          obtain ⟨ua, oa, eu, hca⟩ := hk.out.1.la (fun e => by rw [e] at hx; cases hx)
          obtain ⟨ub_, ob, ev, hcb⟩ := hk.out.1.lb (fun e => by rw [e] at hy; cases hy)
          rw [eu] at q1
          rw [ev] at q2
          obtain ⟨b0, hb0⟩ : ∃ z, w.heap.size = z := ⟨_, rfl⟩
          obtain ⟨b1, hb1⟩ : ∃ z, b0 + 1 = z := ⟨_, rfl⟩
          have HBZ : Hid (w.heap.size = b0 ∧ b0 + 1 = b1) := ⟨hb0, hb1⟩
          rw [hb0] at q1 q2 ⊢
          rw [hb1] at q2 ⊢
          have HC : Hid (wr.cell? ⟨b0, 1, none⟩ = some (.slice (some ⟨ua, oa, none⟩) n a.c) ∧ wr.cell? ⟨b1, 1, none⟩ = some (.slice (some ⟨ub_, ob, none⟩) n b.c) ∧ (wr.cell? ⟨ua, oa + j * 2, none⟩ = some (.int .i64 x.1) ∧ wr.cell? ⟨ua, oa + j * 2 + 1, none⟩ = some (.string (str x.2))) ∧ (wr.cell? ⟨ub_, ob + j * 2, none⟩ = some (.int .i64 y.1) ∧ wr.cell? ⟨ub_, ob + j * 2 + 1, none⟩ = some (.string (str y.2)))) := ⟨q1, q2, hca j x hx, hcb j y hy⟩
          have HNQ : Hid (Byt x.2 ∧ Byt y.2) := ⟨HPA.out.wb x (List.mem_of_getElem? hx), HPB.out.wb y (List.mem_of_getElem? hy)⟩
          have HX : Hid (a.L[j]? = some x ∧ b.L[j]? = some y) := ⟨hx, hy⟩
          have hlt2 : (j : Int) < (n : Int) := by omega
          have hj0 : (0 : Int) ≤ (j : Int) := by omega
          have e1 : IntKind.i64.wrap ((j : Int) + 1) = ((j + 1 : Nat) : Int) := by rw [IntKind.wrap_i64]; have := HN.out.2.2; omega
          clear hx hy hca hcb eu ev hb0 hb1 q2
          go_wp2_with fail
          have HS : Hid (wr.drew.cell? ⟨b0, 1, none⟩ = some (.slice (some ⟨ua, oa, none⟩) n a.c) ∧ wr.drew.cell? ⟨b1, 1, none⟩ = some (.slice (some ⟨ub_, ob, none⟩) n b.c) ∧ (wr.drew.cell? ⟨ua, oa + j * 2, none⟩ = some (.int .i64 x.1) ∧ wr.drew.cell? ⟨ua, oa + j * 2 + 1, none⟩ = some (.string (str x.2))) ∧ (wr.drew.cell? ⟨ub_, ob + j * 2, none⟩ = some (.int .i64 y.1) ∧ wr.drew.cell? ⟨ub_, ob + j * 2 + 1, none⟩ = some (.string (str y.2)))) := HC.out
          refine wp_region_held_drew (S := fun w' => w'.cell? ⟨b0, 1, none⟩ = some (.slice (some ⟨ua, oa, none⟩) n a.c) ∧ w'.cell? ⟨b1, 1, none⟩ = some (.slice (some ⟨ub_, ob, none⟩) n b.c) ∧ (w'.cell? ⟨ua, oa + j * 2, none⟩ = some (.int .i64 x.1) ∧ w'.cell? ⟨ua, oa + j * 2 + 1, none⟩ = some (.string (str x.2))) ∧ (w'.cell? ⟨ub_, ob + j * 2, none⟩ = some (.int .i64 y.1) ∧ w'.cell? ⟨ub_, ob + j * 2 + 1, none⟩ = some (.string (str y.2)))) (by kernel_rfl) HS.out (fun hS => ?_)
          refine tk 0 27 (.pointer (some ⟨b0, 1, none⟩)) rfl rfl (by kernel_rfl) (by kernel_rfl) (by kernel_rfl) (fun _ _ _ h => h) (Or.inl ⟨by rfl, fun w' h' => ?_⟩) hS ?_
          · go_simp
          try simp only [Act.put, List.setIfInBounds_toArray, List.set_cons_zero, List.set_cons_succ]
          refine tk 1 28 (.slice (some ⟨ua, oa, none⟩) n a.c) rfl rfl (by kernel_rfl) (by kernel_rfl) (by kernel_rfl) (fun _ _ _ h => h) (Or.inl ⟨by rfl, fun w' h' => ?_⟩) hS ?_
          · have x1 := h'.1
            go_simp
          try simp only [Act.put, List.setIfInBounds_toArray, List.set_cons_zero, List.set_cons_succ]
          refine tk 2 29 (.int .i64 (j : Int)) rfl rfl (by kernel_rfl) (by kernel_rfl) (by kernel_rfl) (fun _ _ _ h => h) (Or.inl ⟨by rfl, fun w' h' => ?_⟩) hS ?_
          · go_simp
          try simp only [Act.put, List.setIfInBounds_toArray, List.set_cons_zero, List.set_cons_succ]
          refine tk 3 30 (.pointer (some ⟨ua, oa + j * 2, none⟩)) rfl rfl (by kernel_rfl) (by kernel_rfl) (by kernel_rfl) (fun _ _ _ h => h) (Or.inl ⟨by rfl, fun w' h' => ?_⟩) hS ?_
          · go_simp
          try simp only [Act.put, List.setIfInBounds_toArray, List.set_cons_zero, List.set_cons_succ]
          refine tk 4 31 (.agg #[.int .i64 x.1, .string (str x.2)]) rfl rfl (by kernel_rfl) (by kernel_rfl) (by kernel_rfl) (fun _ _ _ h => h) (Or.inl ⟨by rfl, fun w' h' => ?_⟩) hS ?_
          · have x1 := h'.2.2.1.1
            have x2 := h'.2.2.1.2
            go_simp
          try simp only [Act.put, List.setIfInBounds_toArray, List.set_cons_zero, List.set_cons_succ]
          refine tk 5 32 (.pointer (some ⟨b1, 1, none⟩)) rfl rfl (by kernel_rfl) (by kernel_rfl) (by kernel_rfl) (fun _ _ _ h => h) (Or.inl ⟨by rfl, fun w' h' => ?_⟩) hS ?_
          · go_simp
          try simp only [Act.put, List.setIfInBounds_toArray, List.set_cons_zero, List.set_cons_succ]
          refine tk 6 33 (.slice (some ⟨ub_, ob, none⟩) n b.c) rfl rfl (by kernel_rfl) (by kernel_rfl) (by kernel_rfl) (fun _ _ _ h => h) (Or.inl ⟨by rfl, fun w' h' => ?_⟩) hS ?_
          · have x1 := h'.2.1
            go_simp
          try simp only [Act.put, List.setIfInBounds_toArray, List.set_cons_zero, List.set_cons_succ]
          refine tk 7 34 (.int .i64 (j : Int)) rfl rfl (by kernel_rfl) (by kernel_rfl) (by kernel_rfl) (fun _ _ _ h => h) (Or.inl ⟨by rfl, fun w' h' => ?_⟩) hS ?_
          · go_simp
          try simp only [Act.put, List.setIfInBounds_toArray, List.set_cons_zero, List.set_cons_succ]
          refine tk 8 35 (.pointer (some ⟨ub_, ob + j * 2, none⟩)) rfl rfl (by kernel_rfl) (by kernel_rfl) (by kernel_rfl) (fun _ _ _ h => h) (Or.inl ⟨by rfl, fun w' h' => ?_⟩) hS ?_
          · go_simp
          try simp only [Act.put, List.setIfInBounds_toArray, List.set_cons_zero, List.set_cons_succ]
          refine tk 9 36 (.agg #[.int .i64 y.1, .string (str y.2)]) rfl rfl (by kernel_rfl) (by kernel_rfl) (by kernel_rfl) (fun _ _ _ h => h) (Or.inl ⟨by rfl, fun w' h' => ?_⟩) hS ?_
          · have x1 := h'.2.2.2.1
            have x2 := h'.2.2.2.2
            go_simp
          try simp only [Act.put, List.setIfInBounds_toArray, List.set_cons_zero, List.set_cons_succ]
          refine tk 10 37 (.bool (!decide (x = y))) rfl rfl (by kernel_rfl) (by kernel_rfl) (by kernel_rfl) (fun _ _ _ h => h) (Or.inl ⟨by rfl, fun w' h' => ?_⟩) hS ?_
          · (go_simp; rw [if_wr x y HNQ.out.1 HNQ.out.2]; by_cases hxy : x = y <;> simp [hxy])
          refine wpAnyH_done (by kernel_rfl) ?_ _
          by_cases hxy : x = y
          · rw [show (!decide (x = y)) = false by rw [decide_eq_true hxy]; rfl]
            have HN2 : Hid (a.L.take (j + 1) = b.L.take (j + 1)) := by
              show _ = _
              rw [List.take_add_one, List.take_add_one, hk.out.2, HX.out.1, HX.out.2, hxy]
            have HK2 : Hid (Bx2 w a b w.heap.size (w.heap.size + 1) wr.drew) := hk.out.1.past (Below.refl _ _).drew
            clear hxy
            go_wp2_with fail
            go_roundw
            case rel => exact ⟨j + 1, by omega, by go_num, (by have h := HK2.out; rw [HBZ.out.1, HBZ.out.2] at h; exact h), HN2.out⟩
            case measure => simp [intOf]; omega
          · rw [show (!decide (x = y)) = true by rw [decide_eq_false hxy]; rfl]
            have HNE : Hid (decide (a.L = b.L) = false) := decide_eq_false (fun e => by
              have h3 := congrArg (fun z => z[j]?) e
              simp only [HX.out.1, HX.out.2] at h3
              exact hxy (by simpa using h3))
            have HK2 : Hid (Below w.heap.size w wr.drew) := (hk.out.1.past (Below.refl _ _).drew).below
            clear hxy
            go_wp2_with fail
            go_ret
            exact ⟨by rw [HNE.out]; rfl, HK2.out⟩
        · have hjm : j = n := by omega
          have hlt2 : ¬ (j : Int) < (n : Int) := by omega
          have HE : Hid (decide (a.L = b.L) = true ∧ Below w.heap.size w wr) := ⟨decide_eq_true (by
            have := hk.out.2
            rw [List.take_of_length_le (by rw [HN.out.1]; omega), List.take_of_length_le (by rw [HN.out.2.1]; omega)] at this
            exact this), hk.out.1.below⟩
          clear hjm
          go_wp2_with fail
          go_ret
          exact ⟨by rw [HE.out.1]; rfl, HE.out.2⟩
    · have hn3 : (n : Int) ≠ (n2 : Int) := by omega
      have HF : Hid (decide (a.d = b.d ∧ a.L = b.L) = false) := decide_eq_false (fun e => by
        have := congrArg List.length e.2
        rw [HN.out.1, HN.out.2.1] at this
        exact hnn this)
      rw [HF.out]
      have hsl := hse.2 hd
      clear hse hd hnn HF
      go_enter Try.func38, Try.ntmps38
      go_wp2_with fail
      rw [HW1.out]
      go_wp2_with fail
      go_ret
      exact ⟨rfl, HB.out.below⟩
  · rw [decide_eq_false (fun e : a.d = b.d ∧ a.L = b.L => hd e.1)]
    have hsl : ¬ (str a.d).toList = (str b.d).toList := fun e => hd (hse.1 e)
    clear hse hd
    go_enter Try.func38, Try.ntmps38
    go_wp2_with fail
    rw [HW1.out]
    go_wp2_with fail
    go_ret
    exact ⟨rfl, HB.out.below⟩
end Go.Proofs.Ytbghdlgfpfeaeaa

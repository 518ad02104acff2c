/-
  The document's Classes: the same numbers, in a row of the document's own. Conditions: those that the theorem names. (Made by gen_spcls.py.)
-/
import Derived.Test.YtpigpeehhadkjaaSpDoc5
import Derived.Test.YtpigpeehhadkjaaSpNew
import Derived.Test.YtpigpeehhadkjaaSpDRel
namespace Go.Proofs.Ytpigpeehhadkjaa
open Go.RowKit Bkt
set_option maxRecDepth 100000
set_option maxHeartbeats 4000000

theorem infRCls : (Try.prog.info? 99).map (fun i => (i.zero, i.size, i.bytes)) = some (some (.agg #[.int .u64 0, .int .u64 0, .int .i64 0, .int .i64 0]), 4, 32) := by kernel_rfl

theorem dClasses_any (xa : Option Addr) (n c0 : Nat) (l : List Cs) (w : World) (h : Rcs w xa n l) (hn : n ≤ 1000) :
    Calls Try.prog 12 #[.slice xa n c0] w fun e w' => ∃ v cap, e = .returned (.slice v n cap) ∧ Below w.heap.size w w' ∧ OwnG w' w.heap.size 99 4 v n cap (l.flatMap Cs.cs) := by
  have HR := Lib.hid h
  clear h
  go_enter Try.func12, Try.ntmps12
  go_wp2_with fail
  go_loopw [3, 4] (fun s i wr => Hid (Below w.heap.size w wr) ∧ ∃ k : Nat, k ≤ n ∧ i = .int .i64 k ∧ ∃ (v : Option Addr) (cap : Nat), s = .slice v k cap ∧ Hid (OwnG wr w.heap.size 99 4 v k cap ((l.take k).flatMap Cs.cs))) (fun _ i _ => n - (intOf i).toNat)
  case atStart => exact ⟨Below.refl _ _, 0, Nat.zero_le _, rfl, none, 0, rfl, OwnG.nil _ _ _ _⟩
  case round =>
    obtain ⟨hb, k, hk, rfl, v, cap, rfl, ho⟩ := hrel
    by_cases hlt : k < n
    · obtain ⟨x, hx⟩ : ∃ x, l[k]? = some x := ⟨_, List.getElem?_eq_getElem (by rw [HR.out.len]; exact hlt)⟩
      obtain ⟨xb, xo, hxa, hxc⟩ := HR.out.cells (by intro e; rw [e] at hx; simp at hx)
      have HRG : Hid (wr.rangeAt xb (xo + k * 4) x.cs) := range_kept hb.out (hxc k x hx)
      have HW0 : Hid (w.rangeAt xb (xo + k * 4) x.cs) := hxc k x hx
      have HT : Hid (l.take (k + 1) = l.take k ++ [x]) := by show _ = _; rw [List.take_add_one, hx]; rfl
      have hlt2 : (k : Int) < (n : Int) := by omega
      have hk0 : (0 : Int) ≤ (k : Int) := by omega
      have hck : (k : Int) < 1000 := by omega
      subst hxa
      clear hx hxc
      go_wp2_with fail
      have HS : Hid (wr.drew.rangeAt xb (xo + k * 4) x.cs) := range_kept ((Below.refl _ _).drew) HRG.out
      refine wp_region_held_drew (S := fun w' => w'.rangeAt xb (xo + k * 4) x.cs) (by kernel_rfl) HS.out (fun hS => ?_)
      refine tkD 0 11 (.slice v k cap) (fun w' h' => ?_) hS ?_
      · go_simp
      refine tkD 1 12 (.slice (some ⟨xb, xo, none⟩) n c0) (fun w' h' => ?_) hS ?_
      · go_simp
      try simp only [Act.put, List.setIfInBounds_toArray, List.set_cons_zero, List.set_cons_succ]
      refine tkD 2 13 (.int .i64 (k : Int)) (fun w' h' => ?_) hS ?_
      · go_simp
      refine tkD 3 14 (.pointer (some ⟨xb, xo + k * 4, none⟩)) (fun w' h' => ?_) hS ?_
      · go_simp
      try simp only [Act.put, List.setIfInBounds_toArray, List.set_cons_zero, List.set_cons_succ]
      refine tkD 4 15 (.pointer (some ⟨xb, xo + k * 4, none⟩)) (fun w' h' => ?_) hS ?_
      · go_simp
      refine tkD 5 16 (.int .u64 x.r) (fun w' h' => ?_) hS ?_
      · have a1 := h' 0 _ rfl
        try simp only [Nat.add_zero] at a1
        go_simp
      try simp only [Act.put, List.setIfInBounds_toArray, List.set_cons_zero, List.set_cons_succ]
      refine tkD 6 17 (.slice (some ⟨xb, xo, none⟩) n c0) (fun w' h' => ?_) hS ?_
      · go_simp
      refine tkD 7 18 (.int .i64 (k : Int)) (fun w' h' => ?_) hS ?_
      · go_simp
      try simp only [Act.put, List.setIfInBounds_toArray, List.set_cons_zero, List.set_cons_succ]
      refine tkD 8 19 (.pointer (some ⟨xb, xo + k * 4, none⟩)) (fun w' h' => ?_) hS ?_
      · go_simp
      refine tkD 9 20 (.pointer (some ⟨xb, xo + k * 4 + 1, none⟩)) (fun w' h' => ?_) hS ?_
      · go_simp
      try simp only [Act.put, List.setIfInBounds_toArray, List.set_cons_zero, List.set_cons_succ]
      refine tkD 10 21 (.int .u64 x.B) (fun w' h' => ?_) hS ?_
      · have a1 := h' 1 _ rfl
        try simp only [Nat.add_zero] at a1
        go_simp
      refine tkD 11 22 (.slice (some ⟨xb, xo, none⟩) n c0) (fun w' h' => ?_) hS ?_
      · go_simp
      try simp only [Act.put, List.setIfInBounds_toArray, List.set_cons_zero, List.set_cons_succ]
      refine tkD 12 23 (.int .i64 (k : Int)) (fun w' h' => ?_) hS ?_
      · go_simp
      refine tkD 13 24 (.pointer (some ⟨xb, xo + k * 4, none⟩)) (fun w' h' => ?_) hS ?_
      · go_simp
      try simp only [Act.put, List.setIfInBounds_toArray, List.set_cons_zero, List.set_cons_succ]
      refine tkD 14 25 (.pointer (some ⟨xb, xo + k * 4 + 2, none⟩)) (fun w' h' => ?_) hS ?_
      · go_simp
      refine tkD 15 26 (.int .i64 x.I) (fun w' h' => ?_) hS ?_
      · have a1 := h' 2 _ rfl
        try simp only [Nat.add_zero] at a1
        go_simp
      try simp only [Act.put, List.setIfInBounds_toArray, List.set_cons_zero, List.set_cons_succ]
      refine tkD 16 27 (.slice (some ⟨xb, xo, none⟩) n c0) (fun w' h' => ?_) hS ?_
      · go_simp
      refine tkD 17 28 (.int .i64 (k : Int)) (fun w' h' => ?_) hS ?_
      · go_simp
      try simp only [Act.put, List.setIfInBounds_toArray, List.set_cons_zero, List.set_cons_succ]
      refine tkD 18 29 (.pointer (some ⟨xb, xo + k * 4, none⟩)) (fun w' h' => ?_) hS ?_
      · go_simp
      refine tkD 19 30 (.pointer (some ⟨xb, xo + k * 4 + 3, none⟩)) (fun w' h' => ?_) hS ?_
      · go_simp
      try simp only [Act.put, List.setIfInBounds_toArray, List.set_cons_zero, List.set_cons_succ]
      refine tkD 20 31 (.int .i64 x.S) (fun w' h' => ?_) hS ?_
      · have a1 := h' 3 _ rfl
        try simp only [Nat.add_zero] at a1
        go_simp
      refine tkD 21 32 (.agg #[.int .u64 x.r, .int .u64 x.B, .int .i64 x.I, .int .i64 x.S]) (fun w' h' => ?_) hS ?_
      · go_simp
      try simp only [Act.put, List.setIfInBounds_toArray, List.set_cons_zero, List.set_cons_succ]
      refine wpAnyH_ready (rs := [22]) (by kernel_rfl) (by simp) (AllReadyH.cons rfl (fun K hK => ?_) AllReadyH.nil)
      rw [if_pos (by rfl)]
      go_wp2_with fail
      have hba : Below wr.heap.size wr (wr.drew.alloc (.cells #[.int .u64 x.r, .int .u64 x.B, .int .i64 x.I, .int .i64 x.S] 99)) := ((Below.refl _ _).drew).alloc (by simp) _
      clear hS
      refine hK.out _ _ (range_kept hba HRG.out) (fun hS => ?_)
      clear hK K
      try simp only [Act.put, List.setIfInBounds_toArray, List.set_cons_zero, List.set_cons_succ]
      refine wpAnyH_ready (rs := [23]) (by kernel_rfl) (by simp) (AllReadyH.cons rfl (fun K hK => ?_) AllReadyH.nil)
      rw [if_pos (by rfl)]
      obtain ⟨r3, cap3, w3, hrun, hown, hkk, _⟩ := run_append_one wr.drew w.heap.size 34 34 99 _ 4 32 infRCls Try.underlying34 (by decide) (by decide) (ho.out.below ((Below.refl _ _).drew)) x.cs rfl (Cs.one x) hb.out.size (by omega) (by omega)
      refine Lib.wp_append_run (wr.drew.alloc (.cells #[.int .u64 x.r, .int .u64 x.B, .int .i64 x.I, .int .i64 x.S] 99)) (.tmp 11) (.tmp 33) 34 34 rfl _ _ rfl rfl _ _ hrun ?_
      change K (Act.put _ (some 34) (.slice (some ⟨r3, 0, none⟩) (k + 1) cap3)) _
      have HN : Hid (Below w.heap.size w w3 ∧ OwnG w3 w.heap.size 99 4 (some ⟨r3, 0, none⟩) (k + 1) cap3 ((l.take (k + 1)).flatMap Cs.cs)) := by
        refine ⟨hb.out.drew.trans (hkk.below hb.out.size (fun i hi => (ho.out.blk_ge i hi).1)), ?_⟩
        rw [HT.out, List.flatMap_append]
        simpa using hown
      have hrg3 : w3.rangeAt xb (xo + k * 4) x.cs := range_kept HN.out.1 HW0.out
      clear hrun hown hkk
      clear hS
      refine hK.out _ _ (hrg3) (fun hS => ?_)
      clear hK K
      refine tkD 24 3 (.slice (some ⟨r3, 0, none⟩) (k + 1) cap3) (fun w' h' => ?_) hS ?_
      · go_simp
      refine wpAnyH_done (by kernel_rfl) ?_ _
      go_wp2_with fail
      go_roundw
      case rel => exact ⟨HN.out.1, k + 1, by omega, by go_num, _, _, rfl, HN.out.2⟩
      case measure => simp [intOf]; omega
    · have hkn : k = n := by omega
      have HZ : Hid (OwnG wr w.heap.size 99 4 v k cap (l.flatMap Cs.cs)) := by
        have e : l.take k = l := List.take_of_length_le (by rw [HR.out.len]; omega)
        have h := ho.out
        rw [e] at h
        exact h
      have hlt2 : ¬ (k : Int) < (n : Int) := by omega
      clear ho
      go_wp2_with fail
      go_ret
      rw [hkn] at HZ
      exact ⟨v, cap, rfl, hb.out, HZ.out⟩
end Go.Proofs.Ytpigpeehhadkjaa

namespace Go.Proofs.Ytpigpeehhadkjaa
open Go.RowKit Bkt
set_option maxRecDepth 100000
set_option maxHeartbeats 4000000

theorem infR10a : (Try.prog.info? 101).map (fun i => (i.zero, i.size, i.bytes)) = some (some (.agg #[.int .u64 0, .int .u64 0, .int .u64 0, .int .u64 0]), 4, 32) := by kernel_rfl
theorem infRQa : (Try.prog.info? 96).map (fun i => (i.zero, i.size, i.bytes)) = some (some (.agg #[.slice none 0 0, .int .i64 0, .int .i64 0, .int .u64 0]), 4, 48) := by kernel_rfl
theorem infRSa : (Try.prog.info? 103).map (fun i => (i.zero, i.size, i.bytes)) = some (some (.agg #[.int .u64 0, .int .u64 0, .int .u64 0, .int .u64 0]), 4, 32) := by kernel_rfl
/-- New, on its way: three rows that grow. -/
structure Dm (w W : World) (g : Nat) (T : Int) (vb : Option Addr) (kb cb : Nat) (bs : List Value) (vq : Option Addr) (kq cq : Nat) (qs : List Value) (vs : Option Addr) (ks cs : Nat) (ss : List Value) : Prop where
  row : W.heap[g]? = some (.cells #[.int .u64 T, .slice vb kb cb, .slice vq kq cq, .slice vs ks cs] 93 (0, 0))
  bs : OwnG W w.heap.size 101 4 vb kb cb bs
  qs : OwnG W w.heap.size 96 4 vq kq cq qs
  ss : OwnG W w.heap.size 103 4 vs ks cs ss
  base : w.heap.size ≤ g
  below : Below w.heap.size w W
theorem own_set {W : World} {B e size : Nat} {a : Option Addr} {n cap : Nat} {us : List Value} (h : OwnG W B e size a n cap us) {g : Nat} {cur : Array Value} (hr : W.heap[g]? = some (.cells cur 93 (0, 0))) (he : e ≠ 93) (j : Nat) (v : Value) : OwnG (W.setCell ⟨g, j, none⟩ v) B e size a n cap us :=
  h.keep (S := fun k => k = g) (Kept.setCell _ _ _ rfl) (fun b hb e2 => by
    obtain ⟨c, hc⟩ := h.blkr hb
    rw [e2, hr] at hc
    simp at hc
    exact he hc.2.symm)
theorem own_far {W W2 : World} {B e size : Nat} {a : Option Addr} {n cap : Nat} {us : List Value} (h : OwnG W B e size a n cap us) {e2 B2 s2 : Nat} {v : Option Addr} {n2 c2 : Nat} {vs : List Value} (h2 : OwnG W B2 e2 s2 v n2 c2 vs) (hk : Kept (fun k => blk v = some k) W W2) (he : e ≠ e2) : OwnG W2 B e size a n cap us :=
  h.keep hk (fun b hb => h.apart h2 he b hb)
section
variable {w W W2 : World} {g : Nat} {T : Int} {vb : Option Addr} {kb cb : Nat} {bs : List Value} {vq : Option Addr} {kq cq : Nat} {qs : List Value} {vs : Option Addr} {ks cs : Nat} {ss : List Value}
theorem Dm.past (h : Dm w W g T vb kb cb bs vq kq cq qs vs ks cs ss) (k : Below W.heap.size W W2) : Dm w W2 g T vb kb cb bs vq kq cq qs vs ks cs ss :=
  ⟨(k.block _ (Array.getElem?_eq_some_iff.1 h.row).1).trans h.row, h.bs.below k, h.qs.below k, h.ss.below k, h.base, h.below.trans (k.mono h.below.size)⟩
theorem Dm.c1 (h : Dm w W g T vb kb cb bs vq kq cq qs vs ks cs ss) : W.cell? ⟨g, 1, none⟩ = some (.slice vb kb cb) := q4_1 h.row
theorem Dm.c2 (h : Dm w W g T vb kb cb bs vq kq cq qs vs ks cs ss) : W.cell? ⟨g, 2, none⟩ = some (.slice vq kq cq) := q4_2 h.row
theorem Dm.c3 (h : Dm w W g T vb kb cb bs vq kq cq qs vs ks cs ss) : W.cell? ⟨g, 3, none⟩ = some (.slice vs ks cs) := q4_3 h.row
/-- One of its rows has grown. -/
theorem Dm.b (h : Dm w W g T vb kb cb bs vq kq cq qs vs ks cs ss) {r cap' : Nat} {us2 : List Value} (ho : OwnG W2 w.heap.size 101 4 (some ⟨r, 0, none⟩) (kb + 1) cap' us2) (hk : Kept (fun k => blk vb = some k) W W2) :
    Dm w (W2.setCell ⟨g, 1, none⟩ (.slice (some ⟨r, 0, none⟩) (kb + 1) cap')) g T (some ⟨r, 0, none⟩) (kb + 1) cap' us2 vq kq cq qs vs ks cs ss ∧ W2.frozen? ⟨g, 1, none⟩ = false ∧ W2.cell? ⟨g, 1, none⟩ = some (.slice vb kb cb) := by
  have hr2 : W2.heap[g]? = some (.cells #[.int .u64 T, .slice vb kb cb, .slice vq kq cq, .slice vs ks cs] 93 (0, 0)) := hk.heap h.row (fun e => by
    obtain ⟨c, hc⟩ := h.bs.blkr e
    rw [h.row] at hc
    simp at hc)
  refine ⟨⟨?_, own_set ho hr2 (by decide) _ _, own_set (own_far h.qs h.bs hk (by decide)) hr2 (by decide) _ _, own_set (own_far h.ss h.bs hk (by decide)) hr2 (by decide) _ _, h.base, ?_⟩, frozen_of_row W2 g 1 _ _ hr2, q4_1 hr2⟩
  · rw [heap_setCell_same _ g 1 _ _ _ hr2]; rfl
  · exact (h.below.trans (hk.below h.below.size (fun b hb => (h.bs.blk_ge b hb).1))).setCell (p := ⟨g, 1, none⟩) h.base _
/-- One of its rows has grown. -/
theorem Dm.q (h : Dm w W g T vb kb cb bs vq kq cq qs vs ks cs ss) {r cap' : Nat} {us2 : List Value} (ho : OwnG W2 w.heap.size 96 4 (some ⟨r, 0, none⟩) (kq + 1) cap' us2) (hk : Kept (fun k => blk vq = some k) W W2) :
    Dm w (W2.setCell ⟨g, 2, none⟩ (.slice (some ⟨r, 0, none⟩) (kq + 1) cap')) g T vb kb cb bs (some ⟨r, 0, none⟩) (kq + 1) cap' us2 vs ks cs ss ∧ W2.frozen? ⟨g, 2, none⟩ = false ∧ W2.cell? ⟨g, 2, none⟩ = some (.slice vq kq cq) := by
  have hr2 : W2.heap[g]? = some (.cells #[.int .u64 T, .slice vb kb cb, .slice vq kq cq, .slice vs ks cs] 93 (0, 0)) := hk.heap h.row (fun e => by
    obtain ⟨c, hc⟩ := h.qs.blkr e
    rw [h.row] at hc
    simp at hc)
  refine ⟨⟨?_, own_set (own_far h.bs h.qs hk (by decide)) hr2 (by decide) _ _, own_set ho hr2 (by decide) _ _, own_set (own_far h.ss h.qs hk (by decide)) hr2 (by decide) _ _, h.base, ?_⟩, frozen_of_row W2 g 2 _ _ hr2, q4_2 hr2⟩
  · rw [heap_setCell_same _ g 2 _ _ _ hr2]; rfl
  · exact (h.below.trans (hk.below h.below.size (fun b hb => (h.qs.blk_ge b hb).1))).setCell (p := ⟨g, 2, none⟩) h.base _
/-- One of its rows has grown. -/
theorem Dm.s (h : Dm w W g T vb kb cb bs vq kq cq qs vs ks cs ss) {r cap' : Nat} {us2 : List Value} (ho : OwnG W2 w.heap.size 103 4 (some ⟨r, 0, none⟩) (ks + 1) cap' us2) (hk : Kept (fun k => blk vs = some k) W W2) :
    Dm w (W2.setCell ⟨g, 3, none⟩ (.slice (some ⟨r, 0, none⟩) (ks + 1) cap')) g T vb kb cb bs vq kq cq qs (some ⟨r, 0, none⟩) (ks + 1) cap' us2 ∧ W2.frozen? ⟨g, 3, none⟩ = false ∧ W2.cell? ⟨g, 3, none⟩ = some (.slice vs ks cs) := by
  have hr2 : W2.heap[g]? = some (.cells #[.int .u64 T, .slice vb kb cb, .slice vq kq cq, .slice vs ks cs] 93 (0, 0)) := hk.heap h.row (fun e => by
    obtain ⟨c, hc⟩ := h.ss.blkr e
    rw [h.row] at hc
    simp at hc)
  refine ⟨⟨?_, own_set (own_far h.bs h.ss hk (by decide)) hr2 (by decide) _ _, own_set (own_far h.qs h.ss hk (by decide)) hr2 (by decide) _ _, own_set ho hr2 (by decide) _ _, h.base, ?_⟩, frozen_of_row W2 g 3 _ _ hr2, q4_3 hr2⟩
  · rw [heap_setCell_same _ g 3 _ _ _ hr2]; rfl
  · exact (h.below.trans (hk.below h.below.size (fun b hb => (h.ss.blk_ge b hb).1))).setCell (p := ⟨g, 3, none⟩) h.base _
end
def dl0 (T : Int) (x : Cs) : Dl := ⟨x.new T, none, 0, 0⟩
/-- What New answers. -/
def DNewR (w : World) (T : Int) (l : List Cs) (e : Ending) (w' : World) : Prop :=
  Below w.heap.size w w' ∧ ((mayB l = true ∧ ∃ g d, e = .returned (.tuple #[.pointer (some ⟨g, 0, none⟩), .int .i64 0]) ∧ Dw w' w.heap.size g d ∧ d.T = T ∧ d.n = l.length ∧ d.abs = l.map (Cs.new T)) ∨ (mayB l = false ∧ e = .returned (.tuple #[.pointer none, .int .i64 2])))

noncomputable def KDN : Code := Try.f11.body.getD .skip
theorem frKDN {a : Act} (h : Fr 93 a) : ∃ f : Nat → Value, a = ⟨#[f 0, f 1, f 2, f 3, f 4, f 5, f 6, f 7, f 8, f 9, f 10, f 11, f 12, f 13, f 14, f 15, f 16, f 17, f 18, f 19, f 20, f 21, f 22, f 23, f 24, f 25, f 26, f 27, f 28, f 29, f 30, f 31, f 32, f 33, f 34, f 35, f 36, f 37, f 38, f 39, f 40, f 41, f 42, f 43, f 44, f 45, f 46, f 47, f 48, f 49, f 50, f 51, f 52, f 53, f 54, f 55, f 56, f 57, f 58, f 59, f 60, f 61, f 62, f 63, f 64, f 65, f 66, f 67, f 68, f 69, f 70, f 71, f 72, f 73, f 74, f 75, f 76, f 77, f 78, f 79, f 80, f 81, f 82, f 83, f 84, f 85, f 86, f 87, f 88, f 89, f 90, f 91, f 92], []⟩ ∧ ∀ i, f i = sl a i := fr_any h

theorem f0 (w : World) (T : Int) (xa : Option Addr) (n c : Nat) (a : Act) (hf : Fr 93 a) (h0 : sl a 0 = .int .u64 T) (h1 : sl a 1 = .slice xa n c) :
    Code.wp Try.prog (cAt [0] KDN) (Exit.then (fun a' w' => Fr 93 a' ∧ sl a' 0 = .int .u64 T ∧ sl a' 1 = .slice xa n c ∧ w = w') Nope) a w := by
  obtain ⟨f, ha, hs⟩ := frKDN hf
  rw [(hs 0).trans h0, (hs 1).trans h1] at ha
  clear hs hf h0 h1
  subst ha
  refine piece2 fun J0 K0 hJ0 hK0 => ?_
  conv => arg 2; whnf
  go_wp2_with fail
  refine Met.intro (hJ0 _ _ ?_)
  exact ⟨⟨rfl, rfl⟩, rfl, rfl, rfl⟩

theorem f1 (w : World) (T : Int) (xa : Option Addr) (n c : Nat) (a : Act) (hf : Fr 93 a) (h0 : sl a 0 = .int .u64 T) (h1 : sl a 1 = .slice xa n c) :
    Code.wp Try.prog (cAt [1,0,0] KDN) (Exit.then (fun a' w' => Fr 93 a' ∧ sl a' 0 = .int .u64 T ∧ sl a' 1 = .slice xa n c ∧ sl a' 17 = .bool (decide (n < 1) || decide (8 < n)) ∧ w = w') Nope) a w := by
  obtain ⟨f, ha, hs⟩ := frKDN hf
  rw [(hs 0).trans h0, (hs 1).trans h1] at ha
  clear hs hf h0 h1
  subst ha
  refine piece2 fun J0 K0 hJ0 hK0 => ?_
  conv => arg 2; whnf
  by_cases h0 : n < 1
  · have h0i : (n : Int) < 1 := by omega
    have HH := Lib.hid h0
    clear h0
    go_wp2_with fail
    refine Met.intro (hJ0 _ _ ?_)
    exact ⟨⟨rfl, rfl⟩, rfl, rfl, by rw [decide_eq_true HH.out]; rfl, rfl⟩
  · have h0i : ¬ (n : Int) < 1 := by omega
    by_cases h8 : 8 < n
    · have h8i : (8 : Int) < (n : Int) := by omega
      have HH : Hid (8 < n) := h8
      clear h0 h8
      go_wp2_with fail
      refine Met.intro (hJ0 _ _ ?_)
      exact ⟨⟨rfl, rfl⟩, rfl, rfl, by rw [decide_eq_true HH.out, Bool.or_true]; rfl, rfl⟩
    · have h8i : ¬ (8 : Int) < (n : Int) := by omega
      have HH : Hid (1 ≤ n ∧ n ≤ 8) := ⟨by omega, by omega⟩
      clear h0 h8
      go_wp2_with fail
      refine Met.intro (hJ0 _ _ ?_)
      exact ⟨⟨rfl, rfl⟩, rfl, rfl, by rw [decide_eq_false (show ¬ 8 < n by have := HH.out.2; omega), decide_eq_false (show ¬ n < 1 by have := HH.out.1; omega)]; rfl, rfl⟩

theorem f2 (wr : World) (R : Ending → World → Prop) (HR : R (.returned (.tuple #[.pointer none, .int .i64 2])) wr) (a : Act) (hf : Fr 93 a) :
    Code.wp Try.prog (cAt [1,0,1,3] KDN) (RetsV Try.f11 R) a wr := by
  have H := Lib.hid HR
  clear HR
  obtain ⟨f, ha, hs⟩ := frKDN hf
  clear hs hf 
  subst ha
  conv => arg 2; whnf
  go_wp2_with fail
  refine ⟨rfl, rfl, _, ?_, H.out⟩
  simp [results, Try.results11, go_sem]

theorem f3 (w : World) (T : Int) (xa : Option Addr) (n c : Nat) (a : Act) (hf : Fr 93 a) (h0 : sl a 0 = .int .u64 T) (h1 : sl a 1 = .slice xa n c) :
    Code.wp Try.prog (cAt [1,1,0] KDN) (Exit.then (fun a' w' => ∃ g, Fr 93 a' ∧ sl a' 0 = .int .u64 T ∧ sl a' 1 = .slice xa n c ∧ sl a' 6 = .pointer (some ⟨g, 0, none⟩) ∧ Dm w w' g T none 0 0 [] none 0 0 [] none 0 0 []) Nope) a w := by
  obtain ⟨f, ha, hs⟩ := frKDN hf
  rw [(hs 0).trans h0, (hs 1).trans h1] at ha
  clear hs hf h0 h1
  subst ha
  refine piece2 fun J0 K0 hJ0 hK0 => ?_
  conv => arg 2; whnf
  have HN : Hid (Dm w (w.alloc (.cells #[.int .u64 T, .slice none 0 0, .slice none 0 0, .slice none 0 0] 93)) w.heap.size T none 0 0 [] none 0 0 [] none 0 0 []) :=
    ⟨Blk_new _ _ _, OwnG.nil _ _ _ _, OwnG.nil _ _ _ _, OwnG.nil _ _ _ _, Nat.le_refl _, (Below.refl _ _).alloc (Nat.le_refl _) _⟩
  go_wp2_with fail
  refine Met.intro (hJ0 _ _ ?_)
  exact ⟨_, ⟨rfl, rfl⟩, rfl, rfl, rfl, HN.out⟩

theorem f4 (w : World) (T : Int) (xa : Option Addr) (n c g : Nat) (a : Act) (hf : Fr 93 a) (h0 : sl a 0 = .int .u64 T) (h1 : sl a 1 = .slice xa n c) (h6 : sl a 6 = .pointer (some ⟨g, 0, none⟩)) :
    Code.wp Try.prog (cAt [1,1,1,0,0] KDN) (Exit.then (fun a' w' => Fr 93 a' ∧ sl a' 0 = .int .u64 T ∧ sl a' 1 = .slice xa n c ∧ sl a' 6 = .pointer (some ⟨g, 0, none⟩) ∧ sl a' 7 = .int .i64 0 ∧ w = w') Nope) a w := by
  obtain ⟨f, ha, hs⟩ := frKDN hf
  rw [(hs 0).trans h0, (hs 1).trans h1, (hs 6).trans h6] at ha
  clear hs hf h0 h1 h6
  subst ha
  refine piece2 fun J0 K0 hJ0 hK0 => ?_
  conv => arg 2; whnf
  go_wp2_with fail
  refine Met.intro (hJ0 _ _ ?_)
  exact ⟨⟨rfl, rfl⟩, rfl, rfl, rfl, rfl, rfl⟩

theorem f5 (wr : World) (T : Int) (xa : Option Addr) (n c g k : Nat) (hi : k < n) (a : Act) (hf : Fr 93 a) (h0 : sl a 0 = .int .u64 T) (h1 : sl a 1 = .slice xa n c) (h6 : sl a 6 = .pointer (some ⟨g, 0, none⟩)) (h7 : sl a 7 = .int .i64 (k : Int)) :
    Code.wp Try.prog (cAt [1,1,1,0,1,2,2,0] KDN) (Exit.then (fun a' w' => Fr 93 a' ∧ sl a' 0 = .int .u64 T ∧ sl a' 1 = .slice xa n c ∧ sl a' 6 = .pointer (some ⟨g, 0, none⟩) ∧ sl a' 7 = .int .i64 (k : Int) ∧ wr = w') Nope) a wr := by
  obtain ⟨f, ha, hs⟩ := frKDN hf
  rw [(hs 0).trans h0, (hs 1).trans h1, (hs 6).trans h6, (hs 7).trans h7] at ha
  clear hs hf h0 h1 h6 h7
  subst ha
  refine piece2 fun J0 K0 hJ0 hK0 => ?_
  conv => arg 2; whnf
  have hi2 : (k : Int) < (n : Int) := by omega
  go_wp2_with fail
  refine Met.intro (hJ0 _ _ ?_)
  exact ⟨⟨rfl, rfl⟩, rfl, rfl, rfl, rfl, rfl⟩

theorem f5x (wr : World) (T : Int) (xa : Option Addr) (n c g k : Nat) (hi : ¬ k < n) (a : Act) (hf : Fr 93 a) (h0 : sl a 0 = .int .u64 T) (h1 : sl a 1 = .slice xa n c) (h6 : sl a 6 = .pointer (some ⟨g, 0, none⟩)) (h7 : sl a 7 = .int .i64 (k : Int)) :
    Code.wp Try.prog (cAt [1,1,1,0,1,2,2] KDN) (Outs 0 (fun a' w' => Fr 93 a' ∧ sl a' 6 = .pointer (some ⟨g, 0, none⟩) ∧ wr = w')) a wr := by
  obtain ⟨f, ha, hs⟩ := frKDN hf
  rw [(hs 0).trans h0, (hs 1).trans h1, (hs 6).trans h6, (hs 7).trans h7] at ha
  clear hs hf h0 h1 h6 h7
  subst ha
  conv => arg 2; whnf
  have hi2 : ¬ (k : Int) < (n : Int) := by omega
  go_wp2_with fail
  exact ⟨rfl, ⟨rfl, rfl⟩, rfl, rfl⟩

theorem f7 (wr : World) (T : Int) (xb n c g k : Nat) (x : Cs) (HX : Hid (World.rangeAt wr xb (k * 4) x.cs)) (hi : k < n) (hn8 : n ≤ 8) (A : Aq) (ee : Int) (HP : Hid (∀ W : World, Calls Try.prog 28 #[.int .i64 x.I, .int .i64 x.S] W (Gives W (.tuple #[rqv none 0 0 A, .int .i64 ee])))) (a : Act) (hf : Fr 93 a) (h0 : sl a 0 = .int .u64 T) (h1 : sl a 1 = .slice (some ⟨xb, 0, none⟩) n c) (h6 : sl a 6 = .pointer (some ⟨g, 0, none⟩)) (h7 : sl a 7 = .int .i64 (k : Int)) :
    Code.wp Try.prog (cAt [1,1,1,0,1,2,2,1,0,2,0] KDN) (Exit.then (fun a' w' => ∃ (bn : Nat), Fr 93 a' ∧ sl a' 0 = .int .u64 T ∧ sl a' 1 = .slice (some ⟨xb, 0, none⟩) n c ∧ sl a' 6 = .pointer (some ⟨g, 0, none⟩) ∧ sl a' 7 = .int .i64 (k : Int) ∧ sl a' 8 = .pointer (some ⟨bn, 0, none⟩) ∧ sl a' 9 = .int .i64 ee ∧ Below wr.heap.size wr w' ∧ w'.heap[bn]? = some (.cells #[.slice none 0 0, .int .i64 A.I, .int .i64 A.S, .int .u64 A.D] 96 (0, 0)) ∧ wr.heap.size ≤ bn) Nope) a wr := by
  obtain ⟨f, ha, hs⟩ := frKDN hf
  rw [(hs 0).trans h0, (hs 1).trans h1, (hs 6).trans h6, (hs 7).trans h7] at ha
  clear hs hf h0 h1 h6 h7
  subst ha
  refine piece2 fun J0 K0 hJ0 hK0 => ?_
  conv => arg 2; whnf
  have HS0 : Hid (wr.cell? ⟨xb, k * 4 + 2, none⟩ = some (.int .i64 x.I) ∧ wr.cell? ⟨xb, k * 4 + 3, none⟩ = some (.int .i64 x.S)) := ⟨HX.out 2 _ rfl, HX.out 3 _ rfl⟩
  have hi2 : (k : Int) < (n : Int) := by omega
  have hi0 : (0 : Int) ≤ (k : Int) := by omega
  have hck : (k : Int) < 1000 := by omega
  have HAV : Hid (rqv none 0 0 A = .agg #[.slice none 0 0, .int .i64 A.I, .int .i64 A.S, .int .u64 A.D]) := rfl
  clear hi hn8
  go_wp2_with fail
  have H0 : Hid (Below wr.heap.size wr wr.drew) := (Below.refl _ _).drew
  have HS : Hid (wr.drew.cell? ⟨xb, k * 4 + 2, none⟩ = some (.int .i64 x.I) ∧ wr.drew.cell? ⟨xb, k * 4 + 3, none⟩ = some (.int .i64 x.S)) := HS0.out
  refine wp_region_held_drew (S := fun w' => w'.cell? ⟨xb, k * 4 + 2, none⟩ = some (.int .i64 x.I) ∧ w'.cell? ⟨xb, k * 4 + 3, none⟩ = some (.int .i64 x.S)) (by kernel_rfl) HS.out (fun hS => ?_)
  refine tkD 0 28 (.slice (some ⟨xb, 0, none⟩) n c) (fun w' h' => ?_) hS ?_
  · go_simp
  try simp only [Act.put, List.setIfInBounds_toArray, List.set_cons_zero, List.set_cons_succ]
  refine tkD 1 29 (.int .i64 (k : Int)) (fun w' h' => ?_) hS ?_
  · go_simp
  refine tkD 2 30 (.pointer (some ⟨xb, k * 4, none⟩)) (fun w' h' => ?_) hS ?_
  · go_simp
  try simp only [Act.put, List.setIfInBounds_toArray, List.set_cons_zero, List.set_cons_succ]
  refine tkD 3 31 (.pointer (some ⟨xb, k * 4 + 2, none⟩)) (fun w' h' => ?_) hS ?_
  · go_simp
  refine tkD 4 32 (.int .i64 x.I) (fun w' h' => ?_) hS ?_
  · have c0 := h'.1
    go_simp
  try simp only [Act.put, List.setIfInBounds_toArray, List.set_cons_zero, List.set_cons_succ]
  refine tkD 5 33 (.slice (some ⟨xb, 0, none⟩) n c) (fun w' h' => ?_) hS ?_
  · go_simp
  refine tkD 6 34 (.int .i64 (k : Int)) (fun w' h' => ?_) hS ?_
  · go_simp
  try simp only [Act.put, List.setIfInBounds_toArray, List.set_cons_zero, List.set_cons_succ]
  refine tkD 7 35 (.pointer (some ⟨xb, k * 4, none⟩)) (fun w' h' => ?_) hS ?_
  · go_simp
  refine tkD 8 36 (.pointer (some ⟨xb, k * 4 + 3, none⟩)) (fun w' h' => ?_) hS ?_
  · go_simp
  try simp only [Act.put, List.setIfInBounds_toArray, List.set_cons_zero, List.set_cons_succ]
  refine tkD 9 37 (.int .i64 x.S) (fun w' h' => ?_) hS ?_
  · have c0 := h'.2
    go_simp
  try simp only [Act.put, List.setIfInBounds_toArray, List.set_cons_zero, List.set_cons_succ]
  refine wpAnyH_ready (rs := [10, 14]) (by kernel_rfl) (by simp) (AllReadyH.cons rfl (fun K hK => ?_) (AllReadyH.cons rfl (fun K hK => ?_) AllReadyH.nil))
  · rw [if_pos (by rfl)]
    go_wp2_with fail
    refine (HP.out _).mono ?_
    rintro e w1 ⟨rfl, hb⟩
    rw [HAV.out]
    have H1 : Hid (Below wr.heap.size wr w1) := H0.out.trans (hb.mono H0.out.size)
    clear hb
    clear hS
    refine hK.out _ _ (⟨cell_kept H1.out HS0.out.1, cell_kept H1.out HS0.out.2⟩) (fun hS => ?_)
    clear hK K
    refine tkD 11 27 (.tuple #[.agg #[.slice none 0 0, .int .i64 A.I, .int .i64 A.S, .int .u64 A.D], .int .i64 ee]) (fun w' h' => ?_) hS ?_
    · go_simp
    try simp only [Act.put, List.setIfInBounds_toArray, List.set_cons_zero, List.set_cons_succ]
    refine tkD 12 39 (.agg #[.slice none 0 0, .int .i64 A.I, .int .i64 A.S, .int .u64 A.D]) (fun w' h' => ?_) hS ?_
    · go_simp
    refine tkD 13 40 (.int .i64 ee) (fun w' h' => ?_) hS ?_
    · go_simp
    try simp only [Act.put, List.setIfInBounds_toArray, List.set_cons_zero, List.set_cons_succ]
    refine wpAnyH_ready (rs := [14]) (by kernel_rfl) (by simp) (AllReadyH.cons rfl (fun K hK => ?_) AllReadyH.nil)
    rw [if_pos (by rfl)]
    have HB : Hid (Below wr.heap.size wr (w1.alloc (.cells #[.slice none 0 0, .int .i64 0, .int .i64 0, .int .u64 0] 96))) := H1.out.trans (((Below.refl w1.heap.size w1).alloc (Nat.le_refl _) _).mono H1.out.size)
    have HZ2 : Hid ((w1.alloc (.cells #[.slice none 0 0, .int .i64 0, .int .i64 0, .int .u64 0] 96)).heap[w1.heap.size]? = some (.cells #[.slice none 0 0, .int .i64 0, .int .i64 0, .int .u64 0] 96 (0, 0))) := Blk_new w1 _ _
    go_wp2_with fail
    obtain ⟨w2, hw⟩ : ∃ z, w1.alloc (.cells #[.slice none 0 0, .int .i64 0, .int .i64 0, .int .u64 0] 96) = z := ⟨_, rfl⟩
    first | rw [hw] | (change K _ (w1.alloc (.cells #[.slice none 0 0, .int .i64 0, .int .i64 0, .int .u64 0] 96)); rw [hw])
    rw [hw] at HB HZ2
    obtain ⟨bn, hp⟩ : ∃ z, w1.heap.size = z := ⟨_, rfl⟩
    rw [hp] at HZ2
    first | rw [hp] | skip
    have HL : Hid (wr.heap.size ≤ bn) := by
      show _ ≤ _
      have := H1.out.size
      omega
    have H2 : Hid (Below wr.heap.size wr w2) := HB.out
    clear hw hp HB
    clear hS
    refine hK.out _ _ (⟨cell_kept H2.out HS0.out.1, cell_kept H2.out HS0.out.2⟩) (fun hS => ?_)
    clear hK K
    try simp only [Act.put, List.setIfInBounds_toArray, List.set_cons_zero, List.set_cons_succ]
    refine wpAnyH_ready (rs := [15]) (by kernel_rfl) (by simp) (AllReadyH.cons rfl (fun K hK => ?_) AllReadyH.nil)
    rw [if_pos (by rfl)]
    refine wp_store_mid 96 (.tmp 8) (.tmp 39) rfl bn 0 #[.slice none 0 0, .int .i64 A.I, .int .i64 A.S, .int .u64 A.D] rfl rfl (row_there HZ2.out (by simp)) infQ4 (by simp [Value.oneCell']) ?_
    change K _ (w2.setCells bn 0 [.slice none 0 0, .int .i64 A.I, .int .i64 A.S, .int .u64 A.D])
    have hr4 := row4_set HZ2.out (.slice none 0 0) (.int .i64 A.I) (.int .i64 A.S) (.int .u64 A.D)
    have hk4 : Kept (fun i => i = bn) w2 (w2.setCells bn 0 [.slice none 0 0, .int .i64 A.I, .int .i64 A.S, .int .u64 A.D]) := Kept.setCells (S := fun i => i = bn) bn rfl _ _ (Kept.refl _ _)
    obtain ⟨w9, hw⟩ : ∃ z, w2.setCells bn 0 [.slice none 0 0, .int .i64 A.I, .int .i64 A.S, .int .u64 A.D] = z := ⟨_, rfl⟩
    rw [hw] at hk4 hr4 ⊢
    have hb4 : Below wr.heap.size wr w9 := H2.out.trans (hk4.below H2.out.size (fun i e => by have := HL.out; omega))
    have H9 : Hid (Below wr.heap.size wr w9 ∧ w9.heap[bn]? = some (.cells #[.slice none 0 0, .int .i64 A.I, .int .i64 A.S, .int .u64 A.D] 96 (0, 0)) ∧ wr.heap.size ≤ bn) := ⟨hb4, hr4, HL.out⟩
    clear hr4 hk4 hb4 hw
    clear hS
    refine hK.out _ _ (⟨cell_kept H9.out.1 HS0.out.1, cell_kept H9.out.1 HS0.out.2⟩) (fun hS => ?_)
    clear hK K
    refine tkD 16 9 (.int .i64 ee) (fun w' h' => ?_) hS ?_
    · go_simp
    refine wpAnyH_done (by kernel_rfl) ?_ _
    go_wp2_with fail
    refine Met.intro (hJ0 _ _ ?_)
    exact ⟨bn, ⟨rfl, rfl⟩, rfl, rfl, rfl, rfl, rfl, rfl, H9.out⟩
  · rw [if_pos (by rfl)]
    have HB : Hid (Below wr.heap.size wr (wr.drew.alloc (.cells #[.slice none 0 0, .int .i64 0, .int .i64 0, .int .u64 0] 96))) := H0.out.trans (((Below.refl wr.drew.heap.size wr.drew).alloc (Nat.le_refl _) _).mono H0.out.size)
    have HZ1 : Hid ((wr.drew.alloc (.cells #[.slice none 0 0, .int .i64 0, .int .i64 0, .int .u64 0] 96)).heap[wr.heap.size]? = some (.cells #[.slice none 0 0, .int .i64 0, .int .i64 0, .int .u64 0] 96 (0, 0))) := Blk_new wr.drew _ _
    go_wp2_with fail
    obtain ⟨w1, hw⟩ : ∃ z, wr.drew.alloc (.cells #[.slice none 0 0, .int .i64 0, .int .i64 0, .int .u64 0] 96) = z := ⟨_, rfl⟩
    first | rw [hw] | (change K _ (wr.drew.alloc (.cells #[.slice none 0 0, .int .i64 0, .int .i64 0, .int .u64 0] 96)); rw [hw])
    rw [hw] at HB HZ1
    obtain ⟨bn, hp⟩ : ∃ z, wr.heap.size = z := ⟨_, rfl⟩
    rw [hp] at HZ1
    first | rw [hp] | skip
    have HL : Hid (wr.heap.size ≤ bn) := by
      show _ ≤ _
      have := H0.out.size
      omega
    have H1 : Hid (Below wr.heap.size wr w1) := HB.out
    clear hw hp HB
    clear hS
    refine hK.out _ _ (⟨cell_kept H1.out HS0.out.1, cell_kept H1.out HS0.out.2⟩) (fun hS => ?_)
    clear hK K
    try simp only [Act.put, List.setIfInBounds_toArray, List.set_cons_zero, List.set_cons_succ]
    refine wpAnyH_ready (rs := [10]) (by kernel_rfl) (by simp) (AllReadyH.cons rfl (fun K hK => ?_) AllReadyH.nil)
    rw [if_pos (by rfl)]
    go_wp2_with fail
    refine (HP.out _).mono ?_
    rintro e w2 ⟨rfl, hb⟩
    rw [HAV.out]
    have H2 : Hid (Below wr.heap.size wr w2) := H1.out.trans (hb.mono H1.out.size)
    have HZ2 : Hid (w2.heap[bn]? = some (.cells #[.slice none 0 0, .int .i64 0, .int .i64 0, .int .u64 0] 96 (0, 0))) := (hb.block _ (Array.getElem?_eq_some_iff.1 HZ1.out).1).trans HZ1.out
    clear hb
    clear hS
    refine hK.out _ _ (⟨cell_kept H2.out HS0.out.1, cell_kept H2.out HS0.out.2⟩) (fun hS => ?_)
    clear hK K
    refine tkD 11 27 (.tuple #[.agg #[.slice none 0 0, .int .i64 A.I, .int .i64 A.S, .int .u64 A.D], .int .i64 ee]) (fun w' h' => ?_) hS ?_
    · go_simp
    try simp only [Act.put, List.setIfInBounds_toArray, List.set_cons_zero, List.set_cons_succ]
    refine tkD 12 39 (.agg #[.slice none 0 0, .int .i64 A.I, .int .i64 A.S, .int .u64 A.D]) (fun w' h' => ?_) hS ?_
    · go_simp
    refine tkD 13 40 (.int .i64 ee) (fun w' h' => ?_) hS ?_
    · go_simp
    try simp only [Act.put, List.setIfInBounds_toArray, List.set_cons_zero, List.set_cons_succ]
    refine wpAnyH_ready (rs := [15]) (by kernel_rfl) (by simp) (AllReadyH.cons rfl (fun K hK => ?_) AllReadyH.nil)
    rw [if_pos (by rfl)]
    refine wp_store_mid 96 (.tmp 8) (.tmp 39) rfl bn 0 #[.slice none 0 0, .int .i64 A.I, .int .i64 A.S, .int .u64 A.D] rfl rfl (row_there HZ2.out (by simp)) infQ4 (by simp [Value.oneCell']) ?_
    change K _ (w2.setCells bn 0 [.slice none 0 0, .int .i64 A.I, .int .i64 A.S, .int .u64 A.D])
    have hr4 := row4_set HZ2.out (.slice none 0 0) (.int .i64 A.I) (.int .i64 A.S) (.int .u64 A.D)
    have hk4 : Kept (fun i => i = bn) w2 (w2.setCells bn 0 [.slice none 0 0, .int .i64 A.I, .int .i64 A.S, .int .u64 A.D]) := Kept.setCells (S := fun i => i = bn) bn rfl _ _ (Kept.refl _ _)
    obtain ⟨w9, hw⟩ : ∃ z, w2.setCells bn 0 [.slice none 0 0, .int .i64 A.I, .int .i64 A.S, .int .u64 A.D] = z := ⟨_, rfl⟩
    rw [hw] at hk4 hr4 ⊢
    have hb4 : Below wr.heap.size wr w9 := H2.out.trans (hk4.below H2.out.size (fun i e => by have := HL.out; omega))
    have H9 : Hid (Below wr.heap.size wr w9 ∧ w9.heap[bn]? = some (.cells #[.slice none 0 0, .int .i64 A.I, .int .i64 A.S, .int .u64 A.D] 96 (0, 0)) ∧ wr.heap.size ≤ bn) := ⟨hb4, hr4, HL.out⟩
    clear hr4 hk4 hb4 hw
    clear hS
    refine hK.out _ _ (⟨cell_kept H9.out.1 HS0.out.1, cell_kept H9.out.1 HS0.out.2⟩) (fun hS => ?_)
    clear hK K
    refine tkD 16 9 (.int .i64 ee) (fun w' h' => ?_) hS ?_
    · go_simp
    refine wpAnyH_done (by kernel_rfl) ?_ _
    go_wp2_with fail
    refine Met.intro (hJ0 _ _ ?_)
    exact ⟨bn, ⟨rfl, rfl⟩, rfl, rfl, rfl, rfl, rfl, rfl, H9.out⟩

theorem f8 (wr : World) (T : Int) (xb n c g k : Nat) (x : Cs) (HX : Hid (World.rangeAt wr xb (k * 4) x.cs)) (hi : k < n) (hn8 : n ≤ 8) (bn : Nat) (ee : Int) (a : Act) (hf : Fr 93 a) (h0 : sl a 0 = .int .u64 T) (h1 : sl a 1 = .slice (some ⟨xb, 0, none⟩) n c) (h6 : sl a 6 = .pointer (some ⟨g, 0, none⟩)) (h7 : sl a 7 = .int .i64 (k : Int)) (h8 : sl a 8 = .pointer (some ⟨bn, 0, none⟩)) (h9 : sl a 9 = .int .i64 ee) :
    Code.wp Try.prog (cAt [1,1,1,0,1,2,2,1,0,2,1,0,0] KDN) (Exit.then (fun a' w' => Fr 93 a' ∧ sl a' 0 = .int .u64 T ∧ sl a' 1 = .slice (some ⟨xb, 0, none⟩) n c ∧ sl a' 6 = .pointer (some ⟨g, 0, none⟩) ∧ sl a' 7 = .int .i64 (k : Int) ∧ sl a' 8 = .pointer (some ⟨bn, 0, none⟩) ∧ sl a' 9 = .int .i64 ee ∧ sl a' 50 = .bool (decide (x.B < 2048) || decide (ee ≠ 0)) ∧ wr = w') Nope) a wr := by
  obtain ⟨f, ha, hs⟩ := frKDN hf
  rw [(hs 0).trans h0, (hs 1).trans h1, (hs 6).trans h6, (hs 7).trans h7, (hs 8).trans h8, (hs 9).trans h9] at ha
  clear hs hf h0 h1 h6 h7 h8 h9
  subst ha
  refine piece2 fun J0 K0 hJ0 hK0 => ?_
  conv => arg 2; whnf
  have hi2 : (k : Int) < (n : Int) := by omega
  have hi0 : (0 : Int) ≤ (k : Int) := by omega
  have hck : (k : Int) < 1000 := by omega
  have c1 : wr.cell? ⟨xb, k * 4 + 1, none⟩ = some (.int .u64 x.B) := HX.out 1 _ rfl
  clear hi hn8
  by_cases hB : x.B < 2048
  · have HH : Hid (x.B < 2048) := hB
    go_wp2_with fail
    refine Met.intro (hJ0 _ _ ?_)
    exact ⟨⟨rfl, rfl⟩, rfl, rfl, rfl, rfl, rfl, rfl, by rw [decide_eq_true HH.out]; rfl, rfl⟩
  · have HH : Hid (¬ x.B < 2048) := hB
    by_cases he : ee = 0
    · subst he
      go_wp2_with fail
      refine Met.intro (hJ0 _ _ ?_)
      exact ⟨⟨rfl, rfl⟩, rfl, rfl, rfl, rfl, rfl, rfl, by rw [decide_eq_false (show ¬ x.B < 2048 by have := HH.out; omega)]; rfl, rfl⟩
    · have heb : (ee != 0) = true := by simpa using he
      go_wp2_with fail
      refine Met.intro (hJ0 _ _ ?_)
      exact ⟨⟨rfl, rfl⟩, rfl, rfl, rfl, rfl, rfl, rfl, by rw [decide_eq_false (show ¬ x.B < 2048 by have := HH.out; omega), decide_eq_true (show ee ≠ 0 from he)]; rfl, rfl⟩

theorem f9 (wr : World) (R : Ending → World → Prop) (HR : R (.returned (.tuple #[.pointer none, .int .i64 2])) wr) (a : Act) (hf : Fr 93 a) :
    Code.wp Try.prog (cAt [1,1,1,0,1,2,2,1,0,2,1,0,1,3] KDN) (RetsV Try.f11 R) a wr := by
  have H := Lib.hid HR
  clear HR
  obtain ⟨f, ha, hs⟩ := frKDN hf
  clear hs hf 
  subst ha
  conv => arg 2; whnf
  go_wp2_with fail
  refine ⟨rfl, rfl, _, ?_, H.out⟩
  simp [results, Try.results11, go_sem]

theorem f10 (w wr : World) (T : Int) (xb n c g k : Nat) (x : Cs) (bn : Nat) (_ee : Int) (vb : Option Addr) (kb cb : Nat) (bs : List Value) (vq : Option Addr) (kq cq : Nat) (qs : List Value) (vs : Option Addr) (ks cs : Nat) (ss : List Value) (HD : Hid (Dm w wr g T vb kb cb bs vq kq cq qs vs ks cs ss)) (A : Aq) (HC : Hid (World.rangeAt wr xb (k * 4) x.cs ∧ xb < w.heap.size)) (HBN : Hid (wr.heap[bn]? = some (.cells #[.slice none 0 0, .int .i64 A.I, .int .i64 A.S, .int .u64 A.D] 96 (0, 0)) ∧ ∀ j, blk vq = some j → j ≠ bn)) (hi : k < n) (hn8 : n ≤ 8) (hkb : kb ≤ 100) (_hkq : kq ≤ 100) (_hks : ks ≤ 100) (a : Act) (hf : Fr 93 a) (h0 : sl a 0 = .int .u64 T) (h1 : sl a 1 = .slice (some ⟨xb, 0, none⟩) n c) (h6 : sl a 6 = .pointer (some ⟨g, 0, none⟩)) (h7 : sl a 7 = .int .i64 (k : Int)) (h8 : sl a 8 = .pointer (some ⟨bn, 0, none⟩)) :
    Code.wp Try.prog (cAt [1,1,1,0,1,2,2,1,0,2,1,1,0] KDN) (Exit.then (fun a' w' => ∃ (r3 cap3 : Nat), Fr 93 a' ∧ sl a' 0 = .int .u64 T ∧ sl a' 1 = .slice (some ⟨xb, 0, none⟩) n c ∧ sl a' 6 = .pointer (some ⟨g, 0, none⟩) ∧ sl a' 7 = .int .i64 (k : Int) ∧ sl a' 8 = .pointer (some ⟨bn, 0, none⟩) ∧ Dm w w' g T (some ⟨r3, 0, none⟩) (kb + 1) cap3 (bs ++ [.int .u64 x.r, .int .u64 x.B, .int .u64 T, .int .u64 x.B]) vq kq cq qs vs ks cs ss ∧ w'.rangeAt xb (k * 4) x.cs ∧ w'.heap[bn]? = some (.cells #[.slice none 0 0, .int .i64 A.I, .int .i64 A.S, .int .u64 A.D] 96 (0, 0))) Nope) a wr := by
  obtain ⟨f, ha, hs⟩ := frKDN hf
  rw [(hs 0).trans h0, (hs 1).trans h1, (hs 6).trans h6, (hs 7).trans h7, (hs 8).trans h8] at ha
  clear hs hf h0 h1 h6 h7 h8
  subst ha
  refine piece2 fun J0 K0 hJ0 hK0 => ?_
  conv => arg 2; whnf
  have hi2 : (k : Int) < (n : Int) := by omega
  have hi0 : (0 : Int) ≤ (k : Int) := by omega
  have hck : (k : Int) < 1000 := by omega
  have H0 : Hid (Below wr.heap.size wr wr.drew ∧ Dm w wr.drew g T vb kb cb bs vq kq cq qs vs ks cs ss) := ⟨(Below.refl _ _).drew, HD.out.past (Below.refl _ _).drew⟩
  have HS : Hid (wr.drew.rangeAt xb (k * 4) x.cs ∧ wr.drew.heap[bn]? = some (.cells #[.slice none 0 0, .int .i64 A.I, .int .i64 A.S, .int .u64 A.D] 96 (0, 0))) := ⟨HC.out.1, HBN.out.1⟩
  have HNW : Hid (∀ W : World, Calls Try.prog 29 #[.int .u64 x.r, .int .u64 x.B, .int .u64 T] W (Gives W (.agg #[.int .u64 x.r, .int .u64 x.B, .int .u64 T, .int .u64 x.B]))) := fun W => Bkt.rNew_any x.r x.B T W
  clear hi
  go_wp2_with fail
  refine wp_region_held_drew (S := fun w' => w'.rangeAt xb (k * 4) x.cs ∧ w'.heap[bn]? = some (.cells #[.slice none 0 0, .int .i64 A.I, .int .i64 A.S, .int .u64 A.D] 96 (0, 0))) (by kernel_rfl) HS.out (fun hS => ?_)
  refine tkD 0 51 (.pointer (some ⟨g, 0, none⟩)) (fun w' h' => ?_) hS ?_
  · go_simp
  try simp only [Act.put, List.setIfInBounds_toArray, List.set_cons_zero, List.set_cons_succ]
  refine tkD 1 52 (.pointer (some ⟨g, 0, none⟩)) (fun w' h' => ?_) hS ?_
  · go_simp
  refine tkD 2 53 (.pointer (some ⟨g, 0, none⟩)) (fun w' h' => ?_) hS ?_
  · go_simp
  try simp only [Act.put, List.setIfInBounds_toArray, List.set_cons_zero, List.set_cons_succ]
  refine tkD 3 54 (.pointer (some ⟨g, 1, none⟩)) (fun w' h' => ?_) hS ?_
  · go_simp
  refine tkD 5 56 (.slice (some ⟨xb, 0, none⟩) n c) (fun w' h' => ?_) hS ?_
  · go_simp
  try simp only [Act.put, List.setIfInBounds_toArray, List.set_cons_zero, List.set_cons_succ]
  refine tkD 6 57 (.int .i64 (k : Int)) (fun w' h' => ?_) hS ?_
  · go_simp
  refine tkD 7 58 (.pointer (some ⟨xb, k * 4, none⟩)) (fun w' h' => ?_) hS ?_
  · go_simp
  try simp only [Act.put, List.setIfInBounds_toArray, List.set_cons_zero, List.set_cons_succ]
  refine tkD 8 59 (.pointer (some ⟨xb, k * 4, none⟩)) (fun w' h' => ?_) hS ?_
  · go_simp
  refine tkD 9 60 (.int .u64 x.r) (fun w' h' => ?_) hS ?_
  · have c0 : w'.cell? ⟨xb, k * 4, none⟩ = some (.int .u64 x.r) := h'.1 0 _ rfl
    go_simp
  try simp only [Act.put, List.setIfInBounds_toArray, List.set_cons_zero, List.set_cons_succ]
  refine tkD 10 61 (.slice (some ⟨xb, 0, none⟩) n c) (fun w' h' => ?_) hS ?_
  · go_simp
  refine tkD 11 62 (.int .i64 (k : Int)) (fun w' h' => ?_) hS ?_
  · go_simp
  try simp only [Act.put, List.setIfInBounds_toArray, List.set_cons_zero, List.set_cons_succ]
  refine tkD 12 63 (.pointer (some ⟨xb, k * 4, none⟩)) (fun w' h' => ?_) hS ?_
  · go_simp
  refine tkD 13 64 (.pointer (some ⟨xb, k * 4 + 1, none⟩)) (fun w' h' => ?_) hS ?_
  · go_simp
  try simp only [Act.put, List.setIfInBounds_toArray, List.set_cons_zero, List.set_cons_succ]
  refine tkD 14 65 (.int .u64 x.B) (fun w' h' => ?_) hS ?_
  · have c0 : w'.cell? ⟨xb, k * 4 + 1, none⟩ = some (.int .u64 x.B) := h'.1 1 _ rfl
    go_simp
  refine tkD 15 66 (.int .u64 T) (fun w' h' => ?_) hS ?_
  · go_simp
  try simp only [Act.put, List.setIfInBounds_toArray, List.set_cons_zero, List.set_cons_succ]
  refine wpAnyH_ready (rs := [4, 16]) (by kernel_rfl) (by simp) (AllReadyH.cons rfl (fun K hK => ?_) (AllReadyH.cons rfl (fun K hK => ?_) AllReadyH.nil))
  · rw [if_pos (by rfl)]
    have q1 := H0.out.2.c1
    go_wp2_with fail
    clear q1
    clear hS
    refine hK.out _ _ (HS.out) (fun hS => ?_)
    clear hK K
    try simp only [Act.put, List.setIfInBounds_toArray, List.set_cons_zero, List.set_cons_succ]
    refine wpAnyH_ready (rs := [16]) (by kernel_rfl) (by simp) (AllReadyH.cons rfl (fun K hK => ?_) AllReadyH.nil)
    rw [if_pos (by rfl)]
    go_wp2_with fail
    refine (HNW.out _).mono ?_
    rintro e w1 ⟨rfl, hb1⟩
    have H1 : Hid (Below wr.heap.size wr w1 ∧ Dm w w1 g T vb kb cb bs vq kq cq qs vs ks cs ss) := ⟨H0.out.1.trans (hb1.mono H0.out.1.size), H0.out.2.past hb1⟩
    have HS1 : Hid (w1.rangeAt xb (k * 4) x.cs ∧ w1.heap[bn]? = some (.cells #[.slice none 0 0, .int .i64 A.I, .int .i64 A.S, .int .u64 A.D] 96 (0, 0))) := ⟨range_past hb1 HS.out.1, (hb1.block _ (Array.getElem?_eq_some_iff.1 HS.out.2).1).trans HS.out.2⟩
    clear hb1
    clear hS
    refine hK.out _ _ (HS1.out) (fun hS => ?_)
    clear hK K
    try simp only [Act.put, List.setIfInBounds_toArray, List.set_cons_zero, List.set_cons_succ]
    refine wpAnyH_ready (rs := [17]) (by kernel_rfl) (by simp) (AllReadyH.cons rfl (fun K hK => ?_) AllReadyH.nil)
    rw [if_pos (by rfl)]
    go_wp2_with fail
    have hb2 : Below w1.heap.size w1 (w1.alloc (.cells #[.int .u64 x.r, .int .u64 x.B, .int .u64 T, .int .u64 x.B] 101)) := (Below.refl _ _).alloc (Nat.le_refl _) _
    have H2 : Hid (Dm w (w1.alloc (.cells #[.int .u64 x.r, .int .u64 x.B, .int .u64 T, .int .u64 x.B] 101)) g T vb kb cb bs vq kq cq qs vs ks cs ss) := H1.out.2.past hb2
    have HS2 : Hid ((w1.alloc (.cells #[.int .u64 x.r, .int .u64 x.B, .int .u64 T, .int .u64 x.B] 101)).rangeAt xb (k * 4) x.cs ∧ (w1.alloc (.cells #[.int .u64 x.r, .int .u64 x.B, .int .u64 T, .int .u64 x.B] 101)).heap[bn]? = some (.cells #[.slice none 0 0, .int .i64 A.I, .int .i64 A.S, .int .u64 A.D] 96 (0, 0))) := ⟨range_past hb2 HS1.out.1, (hb2.block _ (Array.getElem?_eq_some_iff.1 HS1.out.2).1).trans HS1.out.2⟩
    clear hb2
    clear hS
    refine hK.out _ _ (HS2.out) (fun hS => ?_)
    clear hK K
    try simp only [Act.put, List.setIfInBounds_toArray, List.set_cons_zero, List.set_cons_succ]
    refine wpAnyH_ready (rs := [18]) (by kernel_rfl) (by simp) (AllReadyH.cons rfl (fun K hK => ?_) AllReadyH.nil)
    rw [if_pos (by rfl)]
    obtain ⟨r3, cap3, w3, hrun, hown, hkk, _⟩ := run_append_one w1 w.heap.size 89 89 101 _ 4 32 infR10a Try.underlying89 (by decide) (by decide) H1.out.2.bs [.int .u64 x.r, .int .u64 x.B, .int .u64 T, .int .u64 x.B] rfl (by intro u hu; simp at hu; rcases hu with rfl | rfl | rfl | rfl <;> rfl) H1.out.2.below.size (by omega) (by omega)
    refine Lib.wp_append_run (w1.alloc (.cells #[.int .u64 x.r, .int .u64 x.B, .int .u64 T, .int .u64 x.B] 101)) (.tmp 55) (.tmp 68) 89 89 rfl _ _ rfl rfl _ _ hrun ?_
    change K (Act.put _ (some 69) (.slice (some ⟨r3, 0, none⟩) (kb + 1) cap3)) _
    obtain ⟨hD4, hf4, hc4⟩ := H1.out.2.b hown hkk
    have hne1 : ∀ j, blk vb = some j → j ≠ xb := fun j hj => by have := (H1.out.2.bs.blk_ge j hj).1; have := HC.out.2; omega
    have hne2 : ∀ j, blk vb = some j → j ≠ bn := fun j hj => by
      rintro rfl
      obtain ⟨c9, h9⟩ := H1.out.2.bs.blkr hj
      rw [HS1.out.2] at h9
      simp at h9
    have HS3 : Hid (w3.rangeAt xb (k * 4) x.cs ∧ w3.heap[bn]? = some (.cells #[.slice none 0 0, .int .i64 A.I, .int .i64 A.S, .int .u64 A.D] 96 (0, 0))) := ⟨range_keep hkk (fun e => hne1 _ e rfl) HS1.out.1, hkk.heap HS1.out.2 (fun e => hne2 _ e rfl)⟩
    have H4 := Lib.hid hD4
    have HG : Hid (w.heap.size ≤ g ∧ bn ≠ g ∧ xb ≠ g) := ⟨H1.out.2.base, fun e => by
      have h1 := HS1.out.2
      rw [e, H1.out.2.row] at h1
      simp at h1, by have := H1.out.2.base; have := HC.out.2; omega⟩
    clear hrun hown hkk hD4 hne1 hne2
    clear hS
    refine hK.out _ _ (HS3.out) (fun hS => ?_)
    clear hK K
    refine tkD 19 70 (.pointer (some ⟨g, 0, none⟩)) (fun w' h' => ?_) hS ?_
    · go_simp
    try simp only [Act.put, List.setIfInBounds_toArray, List.set_cons_zero, List.set_cons_succ]
    refine tkD 20 71 (.pointer (some ⟨g, 1, none⟩)) (fun w' h' => ?_) hS ?_
    · go_simp
    try simp only [Act.put, List.setIfInBounds_toArray, List.set_cons_zero, List.set_cons_succ]
    refine wpAnyH_ready (rs := [21]) (by kernel_rfl) (by simp) (AllReadyH.cons rfl (fun K hK => ?_) AllReadyH.nil)
    rw [if_pos (by rfl)]
    go_wp2_with fail
    have hk4 : Kept (fun i => i = g) w3 (w3.setCell ⟨g, 1, none⟩ (.slice (some ⟨r3, 0, none⟩) (kb + 1) cap3)) := Kept.setCell _ _ _ rfl
    have HS4 : Hid ((w3.setCell ⟨g, 1, none⟩ (.slice (some ⟨r3, 0, none⟩) (kb + 1) cap3)).rangeAt xb (k * 4) x.cs ∧ (w3.setCell ⟨g, 1, none⟩ (.slice (some ⟨r3, 0, none⟩) (kb + 1) cap3)).heap[bn]? = some (.cells #[.slice none 0 0, .int .i64 A.I, .int .i64 A.S, .int .u64 A.D] 96 (0, 0))) := ⟨range_keep hk4 (fun e => HG.out.2.2 e) HS3.out.1, hk4.heap HS3.out.2 (fun e => HG.out.2.1 e)⟩
    obtain ⟨w4, hw4⟩ : ∃ z, w3.setCell ⟨g, 1, none⟩ (.slice (some ⟨r3, 0, none⟩) (kb + 1) cap3) = z := ⟨_, rfl⟩
    rw [hw4] at H4 HS4 ⊢
    clear hw4 hf4 hc4 hk4
    clear hS
    refine hK.out _ _ (HS4.out) (fun hS => ?_)
    clear hK K
    refine wpAnyH_done (by kernel_rfl) ?_ _
    clear H0 HS
    go_wp2_with fail
    refine Met.intro (hJ0 _ _ ?_)
    exact ⟨r3, cap3, ⟨rfl, rfl⟩, rfl, rfl, rfl, rfl, rfl, H4.out, HS4.out⟩
  · rw [if_pos (by rfl)]
    go_wp2_with fail
    refine (HNW.out _).mono ?_
    rintro e w1 ⟨rfl, hb1⟩
    have H1 : Hid (Below wr.heap.size wr w1 ∧ Dm w w1 g T vb kb cb bs vq kq cq qs vs ks cs ss) := ⟨H0.out.1.trans (hb1.mono H0.out.1.size), H0.out.2.past hb1⟩
    have HS1 : Hid (w1.rangeAt xb (k * 4) x.cs ∧ w1.heap[bn]? = some (.cells #[.slice none 0 0, .int .i64 A.I, .int .i64 A.S, .int .u64 A.D] 96 (0, 0))) := ⟨range_past hb1 HS.out.1, (hb1.block _ (Array.getElem?_eq_some_iff.1 HS.out.2).1).trans HS.out.2⟩
    clear hb1
    clear hS
    refine hK.out _ _ (HS1.out) (fun hS => ?_)
    clear hK K
    try simp only [Act.put, List.setIfInBounds_toArray, List.set_cons_zero, List.set_cons_succ]
    refine wpAnyH_ready (rs := [4, 17]) (by kernel_rfl) (by simp) (AllReadyH.cons rfl (fun K hK => ?_) (AllReadyH.cons rfl (fun K hK => ?_) AllReadyH.nil))
    · rw [if_pos (by rfl)]
      have q1 := H1.out.2.c1
      go_wp2_with fail
      clear q1
      clear hS
      refine hK.out _ _ (HS1.out) (fun hS => ?_)
      clear hK K
      try simp only [Act.put, List.setIfInBounds_toArray, List.set_cons_zero, List.set_cons_succ]
      refine wpAnyH_ready (rs := [17]) (by kernel_rfl) (by simp) (AllReadyH.cons rfl (fun K hK => ?_) AllReadyH.nil)
      rw [if_pos (by rfl)]
      go_wp2_with fail
      have hb2 : Below w1.heap.size w1 (w1.alloc (.cells #[.int .u64 x.r, .int .u64 x.B, .int .u64 T, .int .u64 x.B] 101)) := (Below.refl _ _).alloc (Nat.le_refl _) _
      have H2 : Hid (Dm w (w1.alloc (.cells #[.int .u64 x.r, .int .u64 x.B, .int .u64 T, .int .u64 x.B] 101)) g T vb kb cb bs vq kq cq qs vs ks cs ss) := H1.out.2.past hb2
      have HS2 : Hid ((w1.alloc (.cells #[.int .u64 x.r, .int .u64 x.B, .int .u64 T, .int .u64 x.B] 101)).rangeAt xb (k * 4) x.cs ∧ (w1.alloc (.cells #[.int .u64 x.r, .int .u64 x.B, .int .u64 T, .int .u64 x.B] 101)).heap[bn]? = some (.cells #[.slice none 0 0, .int .i64 A.I, .int .i64 A.S, .int .u64 A.D] 96 (0, 0))) := ⟨range_past hb2 HS1.out.1, (hb2.block _ (Array.getElem?_eq_some_iff.1 HS1.out.2).1).trans HS1.out.2⟩
      clear hb2
      clear hS
      refine hK.out _ _ (HS2.out) (fun hS => ?_)
      clear hK K
      try simp only [Act.put, List.setIfInBounds_toArray, List.set_cons_zero, List.set_cons_succ]
      refine wpAnyH_ready (rs := [18]) (by kernel_rfl) (by simp) (AllReadyH.cons rfl (fun K hK => ?_) AllReadyH.nil)
      rw [if_pos (by rfl)]
      obtain ⟨r3, cap3, w3, hrun, hown, hkk, _⟩ := run_append_one w1 w.heap.size 89 89 101 _ 4 32 infR10a Try.underlying89 (by decide) (by decide) H1.out.2.bs [.int .u64 x.r, .int .u64 x.B, .int .u64 T, .int .u64 x.B] rfl (by intro u hu; simp at hu; rcases hu with rfl | rfl | rfl | rfl <;> rfl) H1.out.2.below.size (by omega) (by omega)
      refine Lib.wp_append_run (w1.alloc (.cells #[.int .u64 x.r, .int .u64 x.B, .int .u64 T, .int .u64 x.B] 101)) (.tmp 55) (.tmp 68) 89 89 rfl _ _ rfl rfl _ _ hrun ?_
      change K (Act.put _ (some 69) (.slice (some ⟨r3, 0, none⟩) (kb + 1) cap3)) _
      obtain ⟨hD4, hf4, hc4⟩ := H1.out.2.b hown hkk
      have hne1 : ∀ j, blk vb = some j → j ≠ xb := fun j hj => by have := (H1.out.2.bs.blk_ge j hj).1; have := HC.out.2; omega
      have hne2 : ∀ j, blk vb = some j → j ≠ bn := fun j hj => by
        rintro rfl
        obtain ⟨c9, h9⟩ := H1.out.2.bs.blkr hj
        rw [HS1.out.2] at h9
        simp at h9
      have HS3 : Hid (w3.rangeAt xb (k * 4) x.cs ∧ w3.heap[bn]? = some (.cells #[.slice none 0 0, .int .i64 A.I, .int .i64 A.S, .int .u64 A.D] 96 (0, 0))) := ⟨range_keep hkk (fun e => hne1 _ e rfl) HS1.out.1, hkk.heap HS1.out.2 (fun e => hne2 _ e rfl)⟩
      have H4 := Lib.hid hD4
      have HG : Hid (w.heap.size ≤ g ∧ bn ≠ g ∧ xb ≠ g) := ⟨H1.out.2.base, fun e => by
        have h1 := HS1.out.2
        rw [e, H1.out.2.row] at h1
        simp at h1, by have := H1.out.2.base; have := HC.out.2; omega⟩
      clear hrun hown hkk hD4 hne1 hne2
      clear hS
      refine hK.out _ _ (HS3.out) (fun hS => ?_)
      clear hK K
      refine tkD 19 70 (.pointer (some ⟨g, 0, none⟩)) (fun w' h' => ?_) hS ?_
      · go_simp
      try simp only [Act.put, List.setIfInBounds_toArray, List.set_cons_zero, List.set_cons_succ]
      refine tkD 20 71 (.pointer (some ⟨g, 1, none⟩)) (fun w' h' => ?_) hS ?_
      · go_simp
      try simp only [Act.put, List.setIfInBounds_toArray, List.set_cons_zero, List.set_cons_succ]
      refine wpAnyH_ready (rs := [21]) (by kernel_rfl) (by simp) (AllReadyH.cons rfl (fun K hK => ?_) AllReadyH.nil)
      rw [if_pos (by rfl)]
      go_wp2_with fail
      have hk4 : Kept (fun i => i = g) w3 (w3.setCell ⟨g, 1, none⟩ (.slice (some ⟨r3, 0, none⟩) (kb + 1) cap3)) := Kept.setCell _ _ _ rfl
      have HS4 : Hid ((w3.setCell ⟨g, 1, none⟩ (.slice (some ⟨r3, 0, none⟩) (kb + 1) cap3)).rangeAt xb (k * 4) x.cs ∧ (w3.setCell ⟨g, 1, none⟩ (.slice (some ⟨r3, 0, none⟩) (kb + 1) cap3)).heap[bn]? = some (.cells #[.slice none 0 0, .int .i64 A.I, .int .i64 A.S, .int .u64 A.D] 96 (0, 0))) := ⟨range_keep hk4 (fun e => HG.out.2.2 e) HS3.out.1, hk4.heap HS3.out.2 (fun e => HG.out.2.1 e)⟩
      obtain ⟨w4, hw4⟩ : ∃ z, w3.setCell ⟨g, 1, none⟩ (.slice (some ⟨r3, 0, none⟩) (kb + 1) cap3) = z := ⟨_, rfl⟩
      rw [hw4] at H4 HS4 ⊢
      clear hw4 hf4 hc4 hk4
      clear hS
      refine hK.out _ _ (HS4.out) (fun hS => ?_)
      clear hK K
      refine wpAnyH_done (by kernel_rfl) ?_ _
      clear H0 HS
      go_wp2_with fail
      refine Met.intro (hJ0 _ _ ?_)
      exact ⟨r3, cap3, ⟨rfl, rfl⟩, rfl, rfl, rfl, rfl, rfl, H4.out, HS4.out⟩
    · rw [if_pos (by rfl)]
      go_wp2_with fail
      have hb2 : Below w1.heap.size w1 (w1.alloc (.cells #[.int .u64 x.r, .int .u64 x.B, .int .u64 T, .int .u64 x.B] 101)) := (Below.refl _ _).alloc (Nat.le_refl _) _
      have H2 : Hid (Dm w (w1.alloc (.cells #[.int .u64 x.r, .int .u64 x.B, .int .u64 T, .int .u64 x.B] 101)) g T vb kb cb bs vq kq cq qs vs ks cs ss) := H1.out.2.past hb2
      have HS2 : Hid ((w1.alloc (.cells #[.int .u64 x.r, .int .u64 x.B, .int .u64 T, .int .u64 x.B] 101)).rangeAt xb (k * 4) x.cs ∧ (w1.alloc (.cells #[.int .u64 x.r, .int .u64 x.B, .int .u64 T, .int .u64 x.B] 101)).heap[bn]? = some (.cells #[.slice none 0 0, .int .i64 A.I, .int .i64 A.S, .int .u64 A.D] 96 (0, 0))) := ⟨range_past hb2 HS1.out.1, (hb2.block _ (Array.getElem?_eq_some_iff.1 HS1.out.2).1).trans HS1.out.2⟩
      clear hb2
      clear hS
      refine hK.out _ _ (HS2.out) (fun hS => ?_)
      clear hK K
      try simp only [Act.put, List.setIfInBounds_toArray, List.set_cons_zero, List.set_cons_succ]
      refine wpAnyH_ready (rs := [4]) (by kernel_rfl) (by simp) (AllReadyH.cons rfl (fun K hK => ?_) AllReadyH.nil)
      rw [if_pos (by rfl)]
      have q1 := H2.out.c1
      go_wp2_with fail
      clear q1
      clear hS
      refine hK.out _ _ (HS2.out) (fun hS => ?_)
      clear hK K
      try simp only [Act.put, List.setIfInBounds_toArray, List.set_cons_zero, List.set_cons_succ]
      refine wpAnyH_ready (rs := [18]) (by kernel_rfl) (by simp) (AllReadyH.cons rfl (fun K hK => ?_) AllReadyH.nil)
      rw [if_pos (by rfl)]
      obtain ⟨r3, cap3, w3, hrun, hown, hkk, _⟩ := run_append_one w1 w.heap.size 89 89 101 _ 4 32 infR10a Try.underlying89 (by decide) (by decide) H1.out.2.bs [.int .u64 x.r, .int .u64 x.B, .int .u64 T, .int .u64 x.B] rfl (by intro u hu; simp at hu; rcases hu with rfl | rfl | rfl | rfl <;> rfl) H1.out.2.below.size (by omega) (by omega)
      refine Lib.wp_append_run (w1.alloc (.cells #[.int .u64 x.r, .int .u64 x.B, .int .u64 T, .int .u64 x.B] 101)) (.tmp 55) (.tmp 68) 89 89 rfl _ _ rfl rfl _ _ hrun ?_
      change K (Act.put _ (some 69) (.slice (some ⟨r3, 0, none⟩) (kb + 1) cap3)) _
      obtain ⟨hD4, hf4, hc4⟩ := H1.out.2.b hown hkk
      have hne1 : ∀ j, blk vb = some j → j ≠ xb := fun j hj => by have := (H1.out.2.bs.blk_ge j hj).1; have := HC.out.2; omega
      have hne2 : ∀ j, blk vb = some j → j ≠ bn := fun j hj => by
        rintro rfl
        obtain ⟨c9, h9⟩ := H1.out.2.bs.blkr hj
        rw [HS1.out.2] at h9
        simp at h9
      have HS3 : Hid (w3.rangeAt xb (k * 4) x.cs ∧ w3.heap[bn]? = some (.cells #[.slice none 0 0, .int .i64 A.I, .int .i64 A.S, .int .u64 A.D] 96 (0, 0))) := ⟨range_keep hkk (fun e => hne1 _ e rfl) HS1.out.1, hkk.heap HS1.out.2 (fun e => hne2 _ e rfl)⟩
      have H4 := Lib.hid hD4
      have HG : Hid (w.heap.size ≤ g ∧ bn ≠ g ∧ xb ≠ g) := ⟨H1.out.2.base, fun e => by
        have h1 := HS1.out.2
        rw [e, H1.out.2.row] at h1
        simp at h1, by have := H1.out.2.base; have := HC.out.2; omega⟩
      clear hrun hown hkk hD4 hne1 hne2
      clear hS
      refine hK.out _ _ (HS3.out) (fun hS => ?_)
      clear hK K
      refine tkD 19 70 (.pointer (some ⟨g, 0, none⟩)) (fun w' h' => ?_) hS ?_
      · go_simp
      try simp only [Act.put, List.setIfInBounds_toArray, List.set_cons_zero, List.set_cons_succ]
      refine tkD 20 71 (.pointer (some ⟨g, 1, none⟩)) (fun w' h' => ?_) hS ?_
      · go_simp
      try simp only [Act.put, List.setIfInBounds_toArray, List.set_cons_zero, List.set_cons_succ]
      refine wpAnyH_ready (rs := [21]) (by kernel_rfl) (by simp) (AllReadyH.cons rfl (fun K hK => ?_) AllReadyH.nil)
      rw [if_pos (by rfl)]
      go_wp2_with fail
      have hk4 : Kept (fun i => i = g) w3 (w3.setCell ⟨g, 1, none⟩ (.slice (some ⟨r3, 0, none⟩) (kb + 1) cap3)) := Kept.setCell _ _ _ rfl
      have HS4 : Hid ((w3.setCell ⟨g, 1, none⟩ (.slice (some ⟨r3, 0, none⟩) (kb + 1) cap3)).rangeAt xb (k * 4) x.cs ∧ (w3.setCell ⟨g, 1, none⟩ (.slice (some ⟨r3, 0, none⟩) (kb + 1) cap3)).heap[bn]? = some (.cells #[.slice none 0 0, .int .i64 A.I, .int .i64 A.S, .int .u64 A.D] 96 (0, 0))) := ⟨range_keep hk4 (fun e => HG.out.2.2 e) HS3.out.1, hk4.heap HS3.out.2 (fun e => HG.out.2.1 e)⟩
      obtain ⟨w4, hw4⟩ : ∃ z, w3.setCell ⟨g, 1, none⟩ (.slice (some ⟨r3, 0, none⟩) (kb + 1) cap3) = z := ⟨_, rfl⟩
      rw [hw4] at H4 HS4 ⊢
      clear hw4 hf4 hc4 hk4
      clear hS
      refine hK.out _ _ (HS4.out) (fun hS => ?_)
      clear hK K
      refine wpAnyH_done (by kernel_rfl) ?_ _
      clear H0 HS
      go_wp2_with fail
      refine Met.intro (hJ0 _ _ ?_)
      exact ⟨r3, cap3, ⟨rfl, rfl⟩, rfl, rfl, rfl, rfl, rfl, H4.out, HS4.out⟩

theorem f11 (w wr : World) (T : Int) (xb n c g k : Nat) (x : Cs) (bn : Nat) (_ee : Int) (vb : Option Addr) (kb cb : Nat) (bs : List Value) (vq : Option Addr) (kq cq : Nat) (qs : List Value) (vs : Option Addr) (ks cs : Nat) (ss : List Value) (HD : Hid (Dm w wr g T vb kb cb bs vq kq cq qs vs ks cs ss)) (A : Aq) (HC : Hid (World.rangeAt wr xb (k * 4) x.cs ∧ xb < w.heap.size)) (HBN : Hid (wr.heap[bn]? = some (.cells #[.slice none 0 0, .int .i64 A.I, .int .i64 A.S, .int .u64 A.D] 96 (0, 0)) ∧ ∀ j, blk vq = some j → j ≠ bn)) (_hi : k < n) (_hn8 : n ≤ 8) (_hkb : kb ≤ 100) (hkq : kq ≤ 100) (_hks : ks ≤ 100) (a : Act) (hf : Fr 93 a) (h0 : sl a 0 = .int .u64 T) (h1 : sl a 1 = .slice (some ⟨xb, 0, none⟩) n c) (h6 : sl a 6 = .pointer (some ⟨g, 0, none⟩)) (h7 : sl a 7 = .int .i64 (k : Int)) (h8 : sl a 8 = .pointer (some ⟨bn, 0, none⟩)) :
    Code.wp Try.prog (cAt [1,1,1,0,1,2,2,1,0,2,1,1,1,0] KDN) (Exit.then (fun a' w' => ∃ (r3 cap3 : Nat), Fr 93 a' ∧ sl a' 0 = .int .u64 T ∧ sl a' 1 = .slice (some ⟨xb, 0, none⟩) n c ∧ sl a' 6 = .pointer (some ⟨g, 0, none⟩) ∧ sl a' 7 = .int .i64 (k : Int) ∧ Dm w w' g T vb kb cb bs (some ⟨r3, 0, none⟩) (kq + 1) cap3 (qs ++ [.slice none 0 0, .int .i64 A.I, .int .i64 A.S, .int .u64 A.D]) vs ks cs ss) Nope) a wr := by
  obtain ⟨f, ha, hs⟩ := frKDN hf
  rw [(hs 0).trans h0, (hs 1).trans h1, (hs 6).trans h6, (hs 7).trans h7, (hs 8).trans h8] at ha
  clear hs hf h0 h1 h6 h7 h8
  subst ha
  refine piece2 fun J0 K0 hJ0 hK0 => ?_
  conv => arg 2; whnf
  have H0 : Hid (Dm w wr.drew g T vb kb cb bs vq kq cq qs vs ks cs ss) := HD.out.past (Below.refl _ _).drew
  have HS : Hid (wr.drew.rangeAt xb (k * 4) x.cs ∧ wr.drew.heap[bn]? = some (.cells #[.slice none 0 0, .int .i64 A.I, .int .i64 A.S, .int .u64 A.D] 96 (0, 0))) := ⟨HC.out.1, HBN.out.1⟩
  go_wp2_with fail
  refine wp_region_held_drew (S := fun w' => w'.rangeAt xb (k * 4) x.cs ∧ w'.heap[bn]? = some (.cells #[.slice none 0 0, .int .i64 A.I, .int .i64 A.S, .int .u64 A.D] 96 (0, 0))) (by kernel_rfl) HS.out (fun hS => ?_)
  refine tkD 0 72 (.pointer (some ⟨g, 0, none⟩)) (fun w' h' => ?_) hS ?_
  · go_simp
  refine tkD 1 73 (.pointer (some ⟨g, 0, none⟩)) (fun w' h' => ?_) hS ?_
  · go_simp
  try simp only [Act.put, List.setIfInBounds_toArray, List.set_cons_zero, List.set_cons_succ]
  refine tkD 2 74 (.pointer (some ⟨g, 0, none⟩)) (fun w' h' => ?_) hS ?_
  · go_simp
  refine tkD 3 75 (.pointer (some ⟨g, 2, none⟩)) (fun w' h' => ?_) hS ?_
  · go_simp
  try simp only [Act.put, List.setIfInBounds_toArray, List.set_cons_zero, List.set_cons_succ]
  refine tkD 5 77 (.agg #[.slice none 0 0, .int .i64 A.I, .int .i64 A.S, .int .u64 A.D]) (fun w' h' => ?_) hS ?_
  · have c0 := q4_0 h'.2
    have c1 := q4_1 h'.2
    have c2 := q4_2 h'.2
    have c3 := q4_3 h'.2
    go_simp
  try simp only [Act.put, List.setIfInBounds_toArray, List.set_cons_zero, List.set_cons_succ]
  refine wpAnyH_ready (rs := [4, 6]) (by kernel_rfl) (by simp) (AllReadyH.cons rfl (fun K hK => ?_) (AllReadyH.cons rfl (fun K hK => ?_) AllReadyH.nil))
  · rw [if_pos (by rfl)]
    have q1 := H0.out.c2
    go_wp2_with fail
    clear q1
    clear hS
    refine hK.out _ _ (HS.out) (fun hS => ?_)
    clear hK K
    try simp only [Act.put, List.setIfInBounds_toArray, List.set_cons_zero, List.set_cons_succ]
    refine wpAnyH_ready (rs := [6]) (by kernel_rfl) (by simp) (AllReadyH.cons rfl (fun K hK => ?_) AllReadyH.nil)
    rw [if_pos (by rfl)]
    go_wp2_with fail
    have hb2 : Below wr.heap.size wr.drew (wr.drew.alloc (.cells #[.slice none 0 0, .int .i64 A.I, .int .i64 A.S, .int .u64 A.D] 96)) := (show Below wr.drew.heap.size wr.drew _ from (Below.refl _ _).alloc (Nat.le_refl _) _)
    have H2 : Hid (Dm w (wr.drew.alloc (.cells #[.slice none 0 0, .int .i64 A.I, .int .i64 A.S, .int .u64 A.D] 96)) g T vb kb cb bs vq kq cq qs vs ks cs ss) := H0.out.past hb2
    have HS2 : Hid ((wr.drew.alloc (.cells #[.slice none 0 0, .int .i64 A.I, .int .i64 A.S, .int .u64 A.D] 96)).rangeAt xb (k * 4) x.cs ∧ (wr.drew.alloc (.cells #[.slice none 0 0, .int .i64 A.I, .int .i64 A.S, .int .u64 A.D] 96)).heap[bn]? = some (.cells #[.slice none 0 0, .int .i64 A.I, .int .i64 A.S, .int .u64 A.D] 96 (0, 0))) := ⟨range_past hb2 HS.out.1, (hb2.block _ (Array.getElem?_eq_some_iff.1 HS.out.2).1).trans HS.out.2⟩
    clear hb2
    change K _ (wr.drew.alloc (.cells #[.slice none 0 0, .int .i64 A.I, .int .i64 A.S, .int .u64 A.D] 96))
    obtain ⟨w2, hw2⟩ : ∃ z, (wr.drew.alloc (.cells #[.slice none 0 0, .int .i64 A.I, .int .i64 A.S, .int .u64 A.D] 96)) = z := ⟨_, rfl⟩
    rw [hw2] at H2 HS2 ⊢
    clear hS
    refine hK.out _ _ (HS2.out) (fun hS => ?_)
    clear hK K
    try simp only [Act.put, List.setIfInBounds_toArray, List.set_cons_zero, List.set_cons_succ]
    refine wpAnyH_ready (rs := [7]) (by kernel_rfl) (by simp) (AllReadyH.cons rfl (fun K hK => ?_) AllReadyH.nil)
    rw [if_pos (by rfl)]
    obtain ⟨r3, cap3, w3, hrun, hown, hkk, _⟩ := run_append_one wr.drew w.heap.size 90 90 96 _ 4 48 infRQa Try.underlying90 (by decide) (by decide) H0.out.qs [.slice none 0 0, .int .i64 A.I, .int .i64 A.S, .int .u64 A.D] rfl (by intro u hu; simp at hu; rcases hu with rfl | rfl | rfl | rfl <;> rfl) H0.out.below.size (by omega) (by omega)
    replace hrun : (Builtin.append_ #[90, 90] 90 #[.slice vq kq cq, .slice (some ⟨wr.heap.size, 0, none⟩) 1 1]).run Try.prog w2 = .ok (.slice (some ⟨r3, 0, none⟩) (kq + 1) cap3) w3 := by rw [← hw2]; exact hrun
    refine Lib.wp_append_run w2 (.tmp 76) (.tmp 78) 90 90 rfl _ _ rfl rfl _ _ hrun ?_
    change K (Act.put _ (some 79) (.slice (some ⟨r3, 0, none⟩) (kq + 1) cap3)) _
    obtain ⟨hD4, hf4, hc4⟩ := H0.out.q hown hkk
    have hne1 : ∀ j, blk vq = some j → j ≠ xb := fun j hj => by have := (H0.out.qs.blk_ge j hj).1; have := HC.out.2; omega
    have hne2 : ∀ j, blk vq = some j → j ≠ bn := fun j hj => HBN.out.2 j hj
    have HS3 : Hid (w3.rangeAt xb (k * 4) x.cs ∧ w3.heap[bn]? = some (.cells #[.slice none 0 0, .int .i64 A.I, .int .i64 A.S, .int .u64 A.D] 96 (0, 0))) := ⟨range_keep hkk (fun e => hne1 _ e rfl) HS.out.1, hkk.heap HS.out.2 (fun e => hne2 _ e rfl)⟩
    have H4 := Lib.hid hD4
    have HG : Hid (w.heap.size ≤ g ∧ bn ≠ g ∧ xb ≠ g) := ⟨H0.out.base, fun e => by
      have h1 := HS.out.2
      rw [e, H0.out.row] at h1
      simp at h1, by have := H0.out.base; have := HC.out.2; omega⟩
    clear hrun hown hkk hD4 hne1 hne2
    clear hS
    refine hK.out _ _ (HS3.out) (fun hS => ?_)
    clear hK K
    refine tkD 8 80 (.pointer (some ⟨g, 0, none⟩)) (fun w' h' => ?_) hS ?_
    · go_simp
    try simp only [Act.put, List.setIfInBounds_toArray, List.set_cons_zero, List.set_cons_succ]
    refine tkD 9 81 (.pointer (some ⟨g, 2, none⟩)) (fun w' h' => ?_) hS ?_
    · go_simp
    try simp only [Act.put, List.setIfInBounds_toArray, List.set_cons_zero, List.set_cons_succ]
    refine wpAnyH_ready (rs := [10]) (by kernel_rfl) (by simp) (AllReadyH.cons rfl (fun K hK => ?_) AllReadyH.nil)
    rw [if_pos (by rfl)]
    go_wp2_with fail
    have hk4 : Kept (fun i => i = g) w3 (w3.setCell ⟨g, 2, none⟩ (.slice (some ⟨r3, 0, none⟩) (kq + 1) cap3)) := Kept.setCell _ _ _ rfl
    have HS4 : Hid ((w3.setCell ⟨g, 2, none⟩ (.slice (some ⟨r3, 0, none⟩) (kq + 1) cap3)).rangeAt xb (k * 4) x.cs ∧ (w3.setCell ⟨g, 2, none⟩ (.slice (some ⟨r3, 0, none⟩) (kq + 1) cap3)).heap[bn]? = some (.cells #[.slice none 0 0, .int .i64 A.I, .int .i64 A.S, .int .u64 A.D] 96 (0, 0))) := ⟨range_keep hk4 (fun e => HG.out.2.2 e) HS3.out.1, hk4.heap HS3.out.2 (fun e => HG.out.2.1 e)⟩
    obtain ⟨w4, hw4⟩ : ∃ z, w3.setCell ⟨g, 2, none⟩ (.slice (some ⟨r3, 0, none⟩) (kq + 1) cap3) = z := ⟨_, rfl⟩
    rw [hw4] at H4 HS4 ⊢
    clear hw4 hf4 hc4 hk4
    clear hS
    refine hK.out _ _ (HS4.out) (fun hS => ?_)
    clear hK K
    refine wpAnyH_done (by kernel_rfl) ?_ _
    clear H0 HS
    go_wp2_with fail
    refine Met.intro (hJ0 _ _ ?_)
    exact ⟨r3, cap3, ⟨rfl, rfl⟩, rfl, rfl, rfl, rfl, H4.out⟩
  · rw [if_pos (by rfl)]
    go_wp2_with fail
    have hb2 : Below wr.heap.size wr.drew (wr.drew.alloc (.cells #[.slice none 0 0, .int .i64 A.I, .int .i64 A.S, .int .u64 A.D] 96)) := (show Below wr.drew.heap.size wr.drew _ from (Below.refl _ _).alloc (Nat.le_refl _) _)
    have H2 : Hid (Dm w (wr.drew.alloc (.cells #[.slice none 0 0, .int .i64 A.I, .int .i64 A.S, .int .u64 A.D] 96)) g T vb kb cb bs vq kq cq qs vs ks cs ss) := H0.out.past hb2
    have HS2 : Hid ((wr.drew.alloc (.cells #[.slice none 0 0, .int .i64 A.I, .int .i64 A.S, .int .u64 A.D] 96)).rangeAt xb (k * 4) x.cs ∧ (wr.drew.alloc (.cells #[.slice none 0 0, .int .i64 A.I, .int .i64 A.S, .int .u64 A.D] 96)).heap[bn]? = some (.cells #[.slice none 0 0, .int .i64 A.I, .int .i64 A.S, .int .u64 A.D] 96 (0, 0))) := ⟨range_past hb2 HS.out.1, (hb2.block _ (Array.getElem?_eq_some_iff.1 HS.out.2).1).trans HS.out.2⟩
    clear hb2
    change K _ (wr.drew.alloc (.cells #[.slice none 0 0, .int .i64 A.I, .int .i64 A.S, .int .u64 A.D] 96))
    obtain ⟨w2, hw2⟩ : ∃ z, (wr.drew.alloc (.cells #[.slice none 0 0, .int .i64 A.I, .int .i64 A.S, .int .u64 A.D] 96)) = z := ⟨_, rfl⟩
    rw [hw2] at H2 HS2 ⊢
    clear hS
    refine hK.out _ _ (HS2.out) (fun hS => ?_)
    clear hK K
    try simp only [Act.put, List.setIfInBounds_toArray, List.set_cons_zero, List.set_cons_succ]
    refine wpAnyH_ready (rs := [4]) (by kernel_rfl) (by simp) (AllReadyH.cons rfl (fun K hK => ?_) AllReadyH.nil)
    rw [if_pos (by rfl)]
    have q1 := H2.out.c2
    go_wp2_with fail
    clear q1
    clear hS
    refine hK.out _ _ (HS2.out) (fun hS => ?_)
    clear hK K
    try simp only [Act.put, List.setIfInBounds_toArray, List.set_cons_zero, List.set_cons_succ]
    refine wpAnyH_ready (rs := [7]) (by kernel_rfl) (by simp) (AllReadyH.cons rfl (fun K hK => ?_) AllReadyH.nil)
    rw [if_pos (by rfl)]
    obtain ⟨r3, cap3, w3, hrun, hown, hkk, _⟩ := run_append_one wr.drew w.heap.size 90 90 96 _ 4 48 infRQa Try.underlying90 (by decide) (by decide) H0.out.qs [.slice none 0 0, .int .i64 A.I, .int .i64 A.S, .int .u64 A.D] rfl (by intro u hu; simp at hu; rcases hu with rfl | rfl | rfl | rfl <;> rfl) H0.out.below.size (by omega) (by omega)
    replace hrun : (Builtin.append_ #[90, 90] 90 #[.slice vq kq cq, .slice (some ⟨wr.heap.size, 0, none⟩) 1 1]).run Try.prog w2 = .ok (.slice (some ⟨r3, 0, none⟩) (kq + 1) cap3) w3 := by rw [← hw2]; exact hrun
    refine Lib.wp_append_run w2 (.tmp 76) (.tmp 78) 90 90 rfl _ _ rfl rfl _ _ hrun ?_
    change K (Act.put _ (some 79) (.slice (some ⟨r3, 0, none⟩) (kq + 1) cap3)) _
    obtain ⟨hD4, hf4, hc4⟩ := H0.out.q hown hkk
    have hne1 : ∀ j, blk vq = some j → j ≠ xb := fun j hj => by have := (H0.out.qs.blk_ge j hj).1; have := HC.out.2; omega
    have hne2 : ∀ j, blk vq = some j → j ≠ bn := fun j hj => HBN.out.2 j hj
    have HS3 : Hid (w3.rangeAt xb (k * 4) x.cs ∧ w3.heap[bn]? = some (.cells #[.slice none 0 0, .int .i64 A.I, .int .i64 A.S, .int .u64 A.D] 96 (0, 0))) := ⟨range_keep hkk (fun e => hne1 _ e rfl) HS.out.1, hkk.heap HS.out.2 (fun e => hne2 _ e rfl)⟩
    have H4 := Lib.hid hD4
    have HG : Hid (w.heap.size ≤ g ∧ bn ≠ g ∧ xb ≠ g) := ⟨H0.out.base, fun e => by
      have h1 := HS.out.2
      rw [e, H0.out.row] at h1
      simp at h1, by have := H0.out.base; have := HC.out.2; omega⟩
    clear hrun hown hkk hD4 hne1 hne2
    clear hS
    refine hK.out _ _ (HS3.out) (fun hS => ?_)
    clear hK K
    refine tkD 8 80 (.pointer (some ⟨g, 0, none⟩)) (fun w' h' => ?_) hS ?_
    · go_simp
    try simp only [Act.put, List.setIfInBounds_toArray, List.set_cons_zero, List.set_cons_succ]
    refine tkD 9 81 (.pointer (some ⟨g, 2, none⟩)) (fun w' h' => ?_) hS ?_
    · go_simp
    try simp only [Act.put, List.setIfInBounds_toArray, List.set_cons_zero, List.set_cons_succ]
    refine wpAnyH_ready (rs := [10]) (by kernel_rfl) (by simp) (AllReadyH.cons rfl (fun K hK => ?_) AllReadyH.nil)
    rw [if_pos (by rfl)]
    go_wp2_with fail
    have hk4 : Kept (fun i => i = g) w3 (w3.setCell ⟨g, 2, none⟩ (.slice (some ⟨r3, 0, none⟩) (kq + 1) cap3)) := Kept.setCell _ _ _ rfl
    have HS4 : Hid ((w3.setCell ⟨g, 2, none⟩ (.slice (some ⟨r3, 0, none⟩) (kq + 1) cap3)).rangeAt xb (k * 4) x.cs ∧ (w3.setCell ⟨g, 2, none⟩ (.slice (some ⟨r3, 0, none⟩) (kq + 1) cap3)).heap[bn]? = some (.cells #[.slice none 0 0, .int .i64 A.I, .int .i64 A.S, .int .u64 A.D] 96 (0, 0))) := ⟨range_keep hk4 (fun e => HG.out.2.2 e) HS3.out.1, hk4.heap HS3.out.2 (fun e => HG.out.2.1 e)⟩
    obtain ⟨w4, hw4⟩ : ∃ z, w3.setCell ⟨g, 2, none⟩ (.slice (some ⟨r3, 0, none⟩) (kq + 1) cap3) = z := ⟨_, rfl⟩
    rw [hw4] at H4 HS4 ⊢
    clear hw4 hf4 hc4 hk4
    clear hS
    refine hK.out _ _ (HS4.out) (fun hS => ?_)
    clear hK K
    refine wpAnyH_done (by kernel_rfl) ?_ _
    clear H0 HS
    go_wp2_with fail
    refine Met.intro (hJ0 _ _ ?_)
    exact ⟨r3, cap3, ⟨rfl, rfl⟩, rfl, rfl, rfl, rfl, H4.out⟩

theorem f12 (w wr : World) (T : Int) (xb n c g k : Nat) (_x : Cs) (_bn : Nat) (_ee : Int) (vb : Option Addr) (kb cb : Nat) (bs : List Value) (vq : Option Addr) (kq cq : Nat) (qs : List Value) (vs : Option Addr) (ks cs : Nat) (ss : List Value) (HD : Hid (Dm w wr g T vb kb cb bs vq kq cq qs vs ks cs ss)) (hks : ks ≤ 100) (a : Act) (hf : Fr 93 a) (h0 : sl a 0 = .int .u64 T) (h1 : sl a 1 = .slice (some ⟨xb, 0, none⟩) n c) (h6 : sl a 6 = .pointer (some ⟨g, 0, none⟩)) (h7 : sl a 7 = .int .i64 (k : Int)) :
    Code.wp Try.prog (cAt [1,1,1,0,1,2,2,1,0,2,1,1,1,1] KDN) (Exit.then (fun a' w' => ∃ (r3 cap3 : Nat), Fr 93 a' ∧ sl a' 0 = .int .u64 T ∧ sl a' 1 = .slice (some ⟨xb, 0, none⟩) n c ∧ sl a' 6 = .pointer (some ⟨g, 0, none⟩) ∧ sl a' 7 = .int .i64 (k : Int) ∧ Dm w w' g T vb kb cb bs vq kq cq qs (some ⟨r3, 0, none⟩) (ks + 1) cap3 (ss ++ [.int .u64 0, .int .u64 0, .int .u64 0, .int .u64 0])) Nope) a wr := by
  obtain ⟨f, ha, hs⟩ := frKDN hf
  rw [(hs 0).trans h0, (hs 1).trans h1, (hs 6).trans h6, (hs 7).trans h7] at ha
  clear hs hf h0 h1 h6 h7
  subst ha
  refine piece2 fun J0 K0 hJ0 hK0 => ?_
  conv => arg 2; whnf
  obtain ⟨r3, cap3, w3, hrun, hown, hkk, _⟩ := run_append_one wr w.heap.size 91 91 103 _ 4 32 infRSa Try.underlying91 (by decide) (by decide) HD.out.ss [.int .u64 0, .int .u64 0, .int .u64 0, .int .u64 0] rfl (by intro u hu; simp at hu; rcases hu with rfl | rfl | rfl | rfl <;> rfl) HD.out.below.size (by omega) (by omega)
  obtain ⟨hD4, hf4, hc4⟩ := HD.out.s hown hkk
  have H4 := Lib.hid hD4
  have HRUN := Lib.hid hrun
  have q1 := HD.out.c3
  clear hrun hown hkk hD4
  go_wp2_with (at_builtin; first | (refine Lib.wpList_append_run _ rfl (.tmp 86) (.tmp 88) _ _ rfl _ _ rfl rfl _ _ HRUN.out ?_) | fail)
  refine Met.intro (hJ0 _ _ ?_)
  exact ⟨r3, cap3, ⟨rfl, rfl⟩, rfl, rfl, rfl, rfl, H4.out⟩

theorem f6 (wr : World) (T : Int) (xa : Option Addr) (n c g k : Nat) (hi : k < 1000) (a : Act) (hf : Fr 93 a) (h0 : sl a 0 = .int .u64 T) (h1 : sl a 1 = .slice xa n c) (h6 : sl a 6 = .pointer (some ⟨g, 0, none⟩)) (h7 : sl a 7 = .int .i64 (k : Int)) :
    Code.wp Try.prog (cAt [1,1,1,0,1,2,2,1,1] KDN) (Exit.then (fun a' w' => Fr 93 a' ∧ sl a' 0 = .int .u64 T ∧ sl a' 1 = .slice xa n c ∧ sl a' 6 = .pointer (some ⟨g, 0, none⟩) ∧ sl a' 7 = .int .i64 ((k : Int) + 1) ∧ wr = w') Nope) a wr := by
  obtain ⟨f, ha, hs⟩ := frKDN hf
  rw [(hs 0).trans h0, (hs 1).trans h1, (hs 6).trans h6, (hs 7).trans h7] at ha
  clear hs hf h0 h1 h6 h7
  subst ha
  refine piece2 fun J0 K0 hJ0 hK0 => ?_
  conv => arg 2; whnf
  have hw : IntKind.i64.wrap ((k : Int) + 1) = (k : Int) + 1 := by rw [IntKind.wrap_i64]; omega
  go_wp2_with fail
  refine Met.intro (hJ0 _ _ ?_)
  exact ⟨⟨rfl, rfl⟩, rfl, rfl, rfl, rfl, rfl⟩

theorem f13 (wr : World) (g : Nat) (R : Ending → World → Prop) (HR : R (.returned (.tuple #[.pointer (some ⟨g, 0, none⟩), .int .i64 0])) wr) (a : Act) (hf : Fr 93 a) (h6 : sl a 6 = .pointer (some ⟨g, 0, none⟩)) :
    Code.wp Try.prog (cAt [1,1,1,1] KDN) (bodyPost Try.prog Try.f11 R) a wr := by
  have H := Lib.hid HR
  clear HR
  obtain ⟨f, ha, hs⟩ := frKDN hf
  rw [(hs 6).trans h6] at ha
  clear hs hf h6
  subst ha
  conv => arg 2; whnf
  go_wp2_with fail
  exact H.out

/-- The loop's state. -/
def DnS (w : World) (g : Nat) (T : Int) (xb n c : Nat) (l : List Cs) (k : Nat) (a' : Act) (w' : World) : Prop :=
  ∃ (vb : Option Addr) (cb : Nat) (vq : Option Addr) (cq : Nat) (vs : Option Addr) (cs : Nat), Dm w w' g T vb k cb (((l.take k).map (dl0 T)).flatMap Dl.bv) vq k cq (((l.take k).map (dl0 T)).flatMap Dl.qv) vs k cs (((l.take k).map (dl0 T)).flatMap Dl.sv) ∧ (∀ x ∈ l.take k, x.may = true) ∧ Fr 93 a' ∧ sl a' 0 = .int .u64 T ∧ sl a' 1 = .slice (some ⟨xb, 0, none⟩) n c ∧ sl a' 6 = .pointer (some ⟨g, 0, none⟩) ∧ sl a' 7 = .int .i64 (k : Int)
theorem dn_round (w wr : World) (g : Nat) (T : Int) (xb n c : Nat) (l : List Cs) (k : Nat) (x : Cs) (hx : l[k]? = some x) (hn8 : n ≤ 8) (hk : k < n) (hrg : wr.rangeAt xb (k * 4) x.cs) (hxb : xb < w.heap.size) (Q : Exit → Act → World → Prop)
    (hQ : ∀ a' w', DnS w g T xb n c l (k + 1) a' w' → Q .normal a' w') (hR : x.may = false → ∀ a' w', bodyPost Try.prog Try.f11 (DNewR w T l) .ret a' w' → Q .ret a' w') (hno : x.may = false → mayB l = false)
    (vb : Option Addr) (cb : Nat) (vq : Option Addr) (cq : Nat) (vs : Option Addr) (cs : Nat) (HN : Dm w wr g T vb k cb (((l.take k).map (dl0 T)).flatMap Dl.bv) vq k cq (((l.take k).map (dl0 T)).flatMap Dl.qv) vs k cs (((l.take k).map (dl0 T)).flatMap Dl.sv)) (hmay : ∀ x ∈ l.take k, x.may = true) (a : Act) (hf : Fr 93 a) (h0 : sl a 0 = .int .u64 T) (h1 : sl a 1 = .slice (some ⟨xb, 0, none⟩) n c) (h6 : sl a 6 = .pointer (some ⟨g, 0, none⟩)) (h7 : sl a 7 = .int .i64 (k : Int)) :
    Code.wp Try.prog (cAt [1,1,1,0,1,2,2,1] KDN) Q a wr := by
  refine wp_sqG (x := (cAt [1,1,1,0,1,2,2,1,0] KDN)) (y := (cAt [1,1,1,0,1,2,2,1,1] KDN)) (by kernel_rfl) ?_
  refine wp_blockR (x := (cAt [1,1,1,0,1,2,2,1,0,2] KDN)) (id := 1) (by kernel_rfl) ?_
  have no : ∀ (w2 : World) (ee : Int) (A : Aq), Below wr.heap.size wr w2 → x.may = false → DNewR w T l (.returned (.tuple #[.pointer none, .int .i64 2])) w2 := fun w2 ee A hb hm => ⟨HN.below.trans (hb.mono HN.below.size), .inr ⟨hno hm, rfl⟩⟩
  by_cases hq : 0 ≤ x.I ∧ x.I ≤ 65536 ∧ 0 ≤ x.S
  · refine tkDq (f7 wr T xb n c g k x hrg hk hn8 ⟨x.I, x.S, [], 0⟩ 0 (fun W => rNew_any x.I x.S W hq.1 hq.2.1 hq.2.2) a hf h0 h1 h6 h7) ?_
    rintro a2 w2 ⟨bn, hf, h0, h1, h6, h7, h8, h9, hb2, hbn, hbg⟩
    refine wp_sqG (x := (cAt [1,1,1,0,1,2,2,1,0,2,1,0] KDN)) (y := (cAt [1,1,1,0,1,2,2,1,0,2,1,1] KDN)) (by kernel_rfl) ?_
    refine tkDq (f8 w2 T xb n c g k x (range_past hb2 hrg) hk hn8 bn 0 a2 hf h0 h1 h6 h7 h8 h9) ?_
    rintro a3 _ ⟨hf, h0, h1, h6, h7, h8, h9, h50, rfl⟩
    by_cases hB : 2048 ≤ x.B
    · rw [decide_eq_false (show ¬ x.B < 2048 by omega)] at h50
      have hxm := may_parts.2 ⟨hB, hq⟩
      refine wp_onF (A := (cAt [1,1,1,0,1,2,2,1,0,2,1,0,1,3] KDN)) (B := (cAt [1,1,1,0,1,2,2,1,0,2,1,0,1,4] KDN)) (by kernel_rfl) h50 ?_
      refine wp_skipR (by kernel_rfl) ?_
      have HN2 := HN.past hb2
      have hnb : ∀ j, blk vq = some j → j ≠ bn := fun j hj e => by
        have h1 := (HN.qs.blk_ge j hj).2
        omega
      refine tkDq (f10 w w2 T xb n c g k x bn 0 vb k cb _ vq k cq _ vs k cs _ HN2 ⟨x.I, x.S, [], 0⟩ ⟨range_past hb2 hrg, hxb⟩ ⟨hbn, hnb⟩ hk hn8 (by omega) (by omega) (by omega) a3 hf h0 h1 h6 h7 h8) ?_
      rintro a4 w4 ⟨r4, c4, hf, h0, h1, h6, h7, h8, hD4, hr4, hb4⟩
      refine tkDq (f11 w w4 T xb n c g k x bn 0 _ _ _ _ vq k cq _ vs k cs _ hD4 ⟨x.I, x.S, [], 0⟩ ⟨hr4, hxb⟩ ⟨hb4, hnb⟩ hk hn8 (by omega) (by omega) (by omega) a4 hf h0 h1 h6 h7 h8) ?_
      rintro a5 w5 ⟨r5, c5, hf, h0, h1, h6, h7, hD5⟩
      refine wp_endR (f12 w w5 T xb n c g k x bn 0 _ _ _ _ _ _ _ _ vs k cs _ hD5 (by omega) a5 hf h0 h1 h6 h7) ?_
      rintro a6 w6 ⟨r6, c6, hf, h0, h1, h6, h7, hD6⟩
      refine wp_endR (f6 w6 T (some ⟨xb, 0, none⟩) n c g k (by omega) a6 hf h0 h1 h6 h7) ?_
      rintro a7 _ ⟨hf, h0, h1, h6, h7, rfl⟩
      have htk : l.take (k + 1) = l.take k ++ [x] := by rw [List.take_add_one, hx]; rfl
      refine hQ _ _ ⟨some ⟨r4, 0, none⟩, c4, some ⟨r5, 0, none⟩, c5, some ⟨r6, 0, none⟩, c6, ?_, ?_, hf, h0, h1, h6, by rw [h7]; rfl⟩
      · rw [htk]
        simp only [List.map_append, List.flatMap_append]
        exact hD6
      · rw [htk]
        intro y hy
        rcases List.mem_append.1 hy with hy | hy
        · exact hmay y hy
        · simp at hy
          rw [hy]
          exact hxm
    · have hm : x.may = false := Bool.eq_false_iff.2 fun e => hB (may_parts.1 e).1
      rw [decide_eq_true (show x.B < 2048 by omega)] at h50
      refine wp_onT (A := (cAt [1,1,1,0,1,2,2,1,0,2,1,0,1,3] KDN)) (B := (cAt [1,1,1,0,1,2,2,1,0,2,1,0,1,4] KDN)) (by kernel_rfl) h50 ?_
      refine wp_endT (f9 w2 (DNewR w T l) (no w2 0 ⟨0, 0, [], 0⟩ hb2 hm) a3 hf) ?_
      intro a4 w4 h4
      exact hR hm a4 w4 h4
  · have hm : x.may = false := Bool.eq_false_iff.2 fun e => hq (may_parts.1 e).2
    refine tkDq (f7 wr T xb n c g k x hrg hk hn8 ⟨0, 0, [], 0⟩ 2 (fun W => rNew_no x.I x.S W (by omega)) a hf h0 h1 h6 h7) ?_
    rintro a2 w2 ⟨bn, hf, h0, h1, h6, h7, h8, h9, hb2, hbn, hbg⟩
    refine wp_sqG (x := (cAt [1,1,1,0,1,2,2,1,0,2,1,0] KDN)) (y := (cAt [1,1,1,0,1,2,2,1,0,2,1,1] KDN)) (by kernel_rfl) ?_
    refine tkDq (f8 w2 T xb n c g k x (range_past hb2 hrg) hk hn8 bn 2 a2 hf h0 h1 h6 h7 h8 h9) ?_
    rintro a3 _ ⟨hf, h0, h1, h6, h7, h8, h9, h50, rfl⟩
    rw [decide_eq_true (show (2 : Int) ≠ 0 by decide), Bool.or_true] at h50
    refine wp_onT (A := (cAt [1,1,1,0,1,2,2,1,0,2,1,0,1,3] KDN)) (B := (cAt [1,1,1,0,1,2,2,1,0,2,1,0,1,4] KDN)) (by kernel_rfl) h50 ?_
    refine wp_endT (f9 w2 (DNewR w T l) (no w2 2 ⟨0, 0, [], 0⟩ hb2 hm) a3 hf) ?_
    intro a4 w4 h4
    exact hR hm a4 w4 h4
theorem dNew_any (T : Int) (xa : Option Addr) (n c : Nat) (l : List Cs) (w : World) (B : Nat) (h : OwnG w B 99 4 xa n c (l.flatMap Cs.cs)) :
    Calls Try.prog 11 #[.int .u64 T, .slice xa n c] w (DNewR w T l) := by
  have hlen : l.length = n := h.flat Cs.len (by decide)
  refine calls_of_wp (c := KDN) Try.func11 (by kernel_rfl) ?_
  have hf : Fr 93 { tmps := #[.int .u64 T, .slice xa n c] ++ Array.replicate (Try.f11.ntmps - (#[.int .u64 T, .slice xa n c] : Array Value).size) undef, defers := [] } := ⟨rfl, by simp [Try.ntmps11]⟩
  refine wp_sqR (x := (cAt [0] KDN)) (y := (cAt [1] KDN)) (by kernel_rfl) (f0 w T xa n c _ hf (sl_at _ _ 0 _ rfl) (sl_at _ _ 1 _ rfl)) ?_
  rintro a1 _ ⟨hf, h0, h1, rfl⟩
  refine wp_sqG (x := (cAt [1,0] KDN)) (y := (cAt [1,1] KDN)) (by kernel_rfl) ?_
  refine tkDq (f1 w T xa n c a1 hf h0 h1) ?_
  rintro a2 _ ⟨hf, h0, h1, h17, rfl⟩
  by_cases hbad : n < 1 ∨ 8 < n
  · have h17' : sl a2 17 = .bool true := by
      rw [h17]
      congr 1
      simpa using hbad
    refine wp_onT (A := (cAt [1,0,1,3] KDN)) (B := (cAt [1,0,1,4] KDN)) (by kernel_rfl) h17' ?_
    refine wp_endT (f2 w (DNewR w T l) ⟨Below.refl _ _, .inr ⟨?_, rfl⟩⟩ a2 hf) (fun a' w' h => h)
    unfold mayB
    refine Bool.eq_false_iff.2 fun e => ?_
    simp only [Bool.and_eq_true, decide_eq_true_eq] at e
    omega
  have hn1 : 1 ≤ n ∧ n ≤ 8 := by omega
  have h17' : sl a2 17 = .bool false := by
    rw [h17]
    congr 1
    simp
    omega
  refine wp_onF (A := (cAt [1,0,1,3] KDN)) (B := (cAt [1,0,1,4] KDN)) (by kernel_rfl) h17' ?_
  refine wp_skipR (by kernel_rfl) ?_
  obtain ⟨x0, hx0⟩ : ∃ x, l[0]? = some x := ⟨_, List.getElem?_eq_getElem (by omega)⟩
  obtain ⟨xb, hxa, _, _⟩ := h.nth Cs.len (by decide) hx0
  have hxb : xb < w.heap.size := (h.blk_ge xb (by rw [hxa]; rfl)).2
  rw [hxa] at h1
  show Code.wp Try.prog (cAt [1,1] KDN) (bodyPost Try.prog Try.f11 (DNewR w T l)) a2 w
  refine tkDq (f3 w T _ n c a2 hf h0 h1) ?_
  rintro a3 w3 ⟨g, hf, h0, h1, h6, hN⟩
  refine wp_sqG (x := (cAt [1,1,1,0] KDN)) (y := (cAt [1,1,1,1] KDN)) (by kernel_rfl) ?_
  refine tkDq (f4 w3 T _ n c g a3 hf h0 h1 h6) ?_
  rintro a4 _ ⟨hf, h0, h1, h6, h7, rfl⟩
  refine wp_blockR (x := (cAt [1,1,1,0,1,2] KDN)) (id := 0) (by kernel_rfl) ?_
  refine wp_loopR (x := (cAt [1,1,1,0,1,2,2] KDN)) (by kernel_rfl) (fun a' w' => ∃ k : Nat, k ≤ n ∧ DnS w g T xb n c l k a' w') (fun a' _ => n - (intOf (sl a' 7)).toNat) ⟨0, Nat.zero_le _, none, 0, none, 0, none, 0, hN, fun y hy => by simp at hy, hf, h0, h1, h6, h7⟩ ?_
  rintro a5 w5 ⟨k, hk, vb, cb, vq, cq, vs, cs, hN5, hmay, hf, h0, h1, h6, h7⟩
  by_cases hlt : k < n
  · obtain ⟨x, hx⟩ : ∃ x, l[k]? = some x := ⟨_, List.getElem?_eq_getElem (by omega)⟩
    have hrg : w5.rangeAt xb (k * 4) x.cs := by
      obtain ⟨b2, e2, hr2, _⟩ := (h.below hN5.below).nth Cs.len (by decide) hx
      rw [hxa] at e2
      cases e2
      exact hr2
    have h7o := h7
    refine tkDq (f5 w5 T _ n c g k hlt a5 hf h0 h1 h6 h7) ?_
    rintro a6 _ ⟨hf, h0, h1, h6, h7, rfl⟩
    refine dn_round w w5 g T xb n c l k x hx hn1.2 hlt hrg hxb _ ?_ ?_ ?_ vb cb vq cq vs cs hN5 hmay a6 hf h0 h1 h6 h7
    · intro a7 w7 hd
      have h77 := hd
      obtain ⟨_, _, _, _, _, _, _, _, _, _, _, _, h7'⟩ := h77
      refine ⟨⟨k + 1, by omega, hd⟩, ?_⟩
      rw [h7o, h7']
      simp only [intOf]
      omega
    · intro _ a7 w7 hq
      exact hq
    · intro hm
      unfold mayB
      refine Bool.eq_false_iff.2 fun e => ?_
      simp only [Bool.and_eq_true, List.all_eq_true] at e
      have := e.2.2 x (List.mem_of_getElem? hx)
      rw [hm] at this
      cases this
  · have hkn : k = n := by omega
    refine wp_endX (f5x w5 T _ n c g k hlt a5 hf h0 h1 h6 h7) ?_
    rintro a6 _ ⟨hf, h6, rfl⟩
    refine thru ?_
    refine f13 w5 g _ ?_ a6 hf h6
    have hta : l.take k = l := List.take_of_length_le (by omega)
    rw [hta] at hN5 hmay
    refine ⟨hN5.below, .inl ⟨?_, g, ⟨T, l.map (dl0 T), k, vb, cb, vq, cq, vs, cs⟩, rfl, ⟨hN5.row, hN5.bs, hN5.qs, hN5.ss, fun z hz => ?_, hN5.base⟩, rfl, by rw [hkn, hlen], ?_⟩⟩
    · unfold mayB
      simp only [Bool.and_eq_true, decide_eq_true_eq, List.all_eq_true]
      exact ⟨by omega, by omega, fun y hy => hmay y hy⟩
    · obtain ⟨y, _, rfl⟩ := List.mem_map.1 hz
      exact ⟨Rt.nil _, Nat.le_refl _⟩
    · show (l.map (dl0 T)).map Dl.ab = _
      rw [List.map_map]; rfl
end Go.Proofs.Ytpigpeehhadkjaa

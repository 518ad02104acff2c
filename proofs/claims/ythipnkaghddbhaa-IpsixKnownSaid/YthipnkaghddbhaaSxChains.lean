/-
  IpsixChains, walked: for two chains that lie in memory the call answers true.
-/
import Derived.Test.YthipnkaghddbhaaSxChM
namespace Go.Proofs.Ythipnkaghddbhaa
open Go.RowKit

theorem okR {w : World} {a : Option Addr} {n c : Nat} {es : List Ex} (h : Ch w a n c es) : ∀ x ∈ es.map Ex.two, (0 ≤ x.1 ∧ x.1 < 256) ∧ Byt x.2 ∧ x.2.length ≤ 1099511627776 := by
  intro x hx
  obtain ⟨y, hy, rfl⟩ := List.mem_map.1 hx
  have h1 := h.ok y hy
  exact ⟨h1.kind, h1.byt, by have h2 := h1.len; have h3 := h.few y hy; show y.xs.length ≤ _; omega⟩
/-- Two chains, in the call's own blocks, wherever new blocks come. -/
theorem two_boxes (w : World) (v1 v2 : List Value) (t : TypeId) : ∃ wA wB, w.alloc (.cells v1.toArray t) = wA ∧ wA.alloc (.cells v2.toArray t) = wB ∧ wA.heap.size = w.heap.size + 1 ∧ wB.heap.size = w.heap.size + 2 ∧ Below w.heap.size w wB ∧ wB.rangeAt w.heap.size 0 v1 ∧ wB.rangeAt (w.heap.size + 1) 0 v2 := by
  refine ⟨_, _, rfl, rfl, by simp, by simp, ?_, ?_, ?_⟩
  · have hbA : Below w.heap.size w (w.alloc (.cells v1.toArray t)) := (Below.refl _ _).alloc (Nat.le_refl _) _
    exact hbA.alloc hbA.size _
  · exact range_kept ((Below.refl _ _).alloc (Nat.le_refl _) _) (fun j v hv => by rw [cell_of_row _ w.heap.size (0 + j) _ _ (0, 0) (Blk_new w _ _)]; simpa using hv)
  · have e : w.heap.size + 1 = (w.alloc (.cells v1.toArray t)).heap.size := by simp
    rw [e]
    exact fun j v hv => by rw [cell_of_row _ _ (0 + j) _ _ (0, 0) (Blk_new _ _ _)]; simpa using hv

set_option maxRecDepth 100000 in
set_option maxHeartbeats 8000000 in
theorem chains_any (a b : Option Addr) (n c m d : Nat) (es fs : List Ex) (p q : Int) (w : World) (hx : Ch0 w a n c es) (hy : Ch0 w b m d fs) (p0 : 0 ≤ p) (p1 : p < 256) (_q0 : 0 ≤ q) (_q1 : q < 256) :
    Calls Try.prog 4 #[.agg #[.slice a n c, .int .u8 p], .agg #[.slice b m d, .int .u8 q]] w (Gives w (.bool true)) := by
  have HX0 := Lib.hid hx
  have HY0 := Lib.hid hy
  obtain ⟨wA, wB, hwA, hwB, hsA, hsB, hB, hr1, hr2⟩ := two_boxes w [.slice a n c, .int .u8 p] [.slice b m d, .int .u8 q] 46
  have HB := Lib.hid hB
  have HRR := Lib.hid (And.intro hr1 hr2)
  have HXB0 := Lib.hid (hx.below hB)
  have HYB0 := Lib.hid (hy.below hB)
  have HSB := Lib.hid hsB
  clear hx hy hB hr1 hr2
  have HW := Lib.hid hwA
  have HWB := Lib.hid hwB
  clear hwA hwB
  cases hf1 : fewC es with
  | false =>
    have HF1 := Lib.hid hf1
    clear hf1
    go_enter Try.func4, Try.ntmps4
    go_upto_region 1 with fail
    change Code.wp _ _ _ _ ((w.alloc (.cells [Value.slice a n c, .int .u8 p].toArray 46)).alloc (.cells [Value.slice b m d, .int .u8 q].toArray 46))
    rw [HW.out, HWB.out]
    go_wp2_with (refine ldC 46 (.tmp 2) rfl rfl w.heap.size rfl [.slice a n c, .int .u8 p] HRR.out.1 _ Try.underlying46 rfl infC2 ?_)
    refine (few6_any a n c es p _ HXB0.out).mono ?_
    rintro e w1 ⟨rfl, hb1⟩
    have HB1 := Lib.hid (HB.out.trans (hb1.mono HB.out.size))
    clear hb1
    rw [HF1.out]
    go_wp2_with fail
    refine (works6_any _).mono ?_
    rintro e w2 ⟨rfl, hb2⟩
    have HB2 := Lib.hid (HB1.out.trans (hb2.mono HB1.out.size))
    clear hb2
    go_wp2_with fail
    go_ret
    exact ⟨rfl, HB2.out⟩
  | true =>
  have HF1 := Lib.hid hf1
  clear hf1
  cases hf2 : fewC fs with
  | false =>
    have HF2 := Lib.hid hf2
    clear hf2
    go_enter Try.func4, Try.ntmps4
    go_upto_region 1 with fail
    change Code.wp _ _ _ _ ((w.alloc (.cells [Value.slice a n c, .int .u8 p].toArray 46)).alloc (.cells [Value.slice b m d, .int .u8 q].toArray 46))
    rw [HW.out, HWB.out]
    go_wp2_with (refine ldC 46 (.tmp 2) rfl rfl w.heap.size rfl [.slice a n c, .int .u8 p] HRR.out.1 _ Try.underlying46 rfl infC2 ?_)
    refine (few6_any a n c es p _ HXB0.out).mono ?_
    rintro e w1 ⟨rfl, hb1⟩
    have HB1 := Lib.hid (HB.out.trans (hb1.mono HB.out.size))
    have HK1 := Lib.hid hb1
    clear hb1
    rw [HF1.out]
    go_wp2_with (refine ldCg 46 (.tmp 3) rfl (by rfl) (w.heap.size + 1) rfl [.slice b m d, .int .u8 q] (range_kept HK1.out HRR.out.2) _ Try.underlying46 rfl infC2 ?_)
    refine (few6_any b m d fs q _ (HYB0.out.below HK1.out)).mono ?_
    rintro e w2 ⟨rfl, hb2⟩
    have HB2 := Lib.hid (HB1.out.trans (hb2.mono HB1.out.size))
    clear hb2
    rw [HF2.out]
    go_wp2_with fail
    refine (works6_any _).mono ?_
    rintro e w3 ⟨rfl, hb3⟩
    have HB3 := Lib.hid (HB2.out.trans (hb3.mono HB2.out.size))
    clear hb3
    go_wp2_with fail
    go_ret
    exact ⟨rfl, HB3.out⟩
  | true =>
  have HF2 := Lib.hid hf2
  clear hf2
  have HX := Lib.hid (HX0.out.ch (fun x hx => by have := (fewC_iff.1 HF1.out).2 x hx; omega))
  have HY := Lib.hid (HY0.out.ch (fun x hx => by have := (fewC_iff.1 HF2.out).2 x hx; omega))
  have HXB := Lib.hid (HX.out.below HB.out)
  have HYB := Lib.hid (HY.out.below HB.out)
  have HN20 : Hid (n ≤ 20 ∧ m ≤ 20) := ⟨by have h1 := (fewC_iff.1 HF1.out).1; rw [HX.out.len] at h1; exact h1, by have h1 := (fewC_iff.1 HF2.out).1; rw [HY.out.len] at h1; exact h1⟩
  go_enter Try.func4, Try.ntmps4
  go_upto_region 1 with fail
  change Code.wp _ _ _ _ ((w.alloc (.cells [Value.slice a n c, .int .u8 p].toArray 46)).alloc (.cells [Value.slice b m d, .int .u8 q].toArray 46))
  rw [HW.out, HWB.out]
  go_wp2_with (refine ldC 46 (.tmp 2) rfl rfl w.heap.size rfl [.slice a n c, .int .u8 p] HRR.out.1 _ Try.underlying46 rfl infC2 ?_)
  refine (few6_any a n c es p _ HXB0.out).mono ?_
  rintro e w1 ⟨rfl, hb1⟩
  have HK1 := Lib.hid hb1
  clear hb1
  rw [HF1.out]
  go_wp2_with (refine ldCg 46 (.tmp 3) rfl (by rfl) (w.heap.size + 1) rfl [.slice b m d, .int .u8 q] (range_kept HK1.out HRR.out.2) _ Try.underlying46 rfl infC2 ?_)
  refine (few6_any b m d fs q _ (HYB0.out.below HK1.out)).mono ?_
  rintro e w2 ⟨rfl, hb2⟩
  have HK2 : Hid (Below wB.heap.size wB w2) := HK1.out.trans (hb2.mono HK1.out.size)
  clear hb2 HK1 HW HWB
  rw [HF2.out]
  go_upto_region 3 with fail
  go_cut [5, 6] from 21 (fun s t wx => ∃ (b5 b6 : Nat) (a1 : Option Addr) (n1 c1 : Nat) (a2 : Option Addr) (n2 c2 : Nat), s = .pointer (some ⟨b5, 0, none⟩) ∧ t = .pointer (some ⟨b6, 0, none⟩) ∧ Hid (PC wB wx b5 b6 a1 n1 c1 (es.map Ex.two) p a2 n2 c2 (fs.map Ex.two) q))
  case first =>
    have hs0 : Below wB.heap.size wB w2.drew := HK2.out.trans ((to_drew w2).mono HK2.out.size)
    refine wp_region_held_drew (S := fun w' => Below wB.heap.size wB w') (by kernel_rfl) hs0 (fun hS => ?_)
    generalize w2.drew = x0 at hs0 hS ⊢
    have hw0 := hs0.size
    refine tk 0 30 (.agg ([Value.slice a n c, .int .u8 p]).toArray) rfl rfl (by kernel_rfl) (by kernel_rfl) (by kernel_rfl) (fun _ _ _ h => h) (yieldsIf_load_mid (by rfl) _ _ rfl (w.heap.size) (0) rfl ([Value.slice a n c, .int .u8 p]) _ (fun w' h' => range_kept h' HRR.out.1) Try.underlying46 rfl (infC2)) hS ?_
    try simp only [Act.put, List.setIfInBounds_toArray, List.set_cons_zero, List.set_cons_succ]
    refine tk 2 32 (.agg ([Value.slice b m d, .int .u8 q]).toArray) rfl rfl (by kernel_rfl) (by kernel_rfl) (by kernel_rfl) (fun _ _ _ h => h) (yieldsIf_load_mid (by rfl) _ _ rfl (w.heap.size + 1) (0) rfl ([Value.slice b m d, .int .u8 q]) _ (fun w' h' => range_kept h' HRR.out.2) Try.underlying46 rfl (infC2)) hS ?_
    refine wpAnyH_ready (rs := [1, 4, 5]) (by kernel_rfl) (by simp) (AllReadyH.cons rfl (fun K hK => ?_) (AllReadyH.cons rfl (fun K hK => ?_) (AllReadyH.cons rfl (fun K hK => ?_) AllReadyH.nil)))
    · rw [if_pos (by rfl)]
      go_wp2_with fail
      refine (d6Chain_any a n c es p _ (HXB.out.below hs0) HN20.out.1).mono ?_
      rintro e x1 ⟨hb, a1, n1, c1, rfl, ho1⟩
      have ht1 := ho1.row.blk_ge
      have hs1 : Below wB.heap.size wB x1 := hs0.trans (hb.mono hs0.size)
      have hz11 := hb.size
      have hw1 := hs1.size
      clear hb hS
      refine hK.out _ _ hs1 (fun hS => ?_)
      clear hK K
      try simp only [Act.put, List.setIfInBounds_toArray, List.set_cons_zero, List.set_cons_succ]
      refine wpAnyH_ready (rs := [3, 4, 5]) (by kernel_rfl) (by simp) (AllReadyH.cons rfl (fun K hK => ?_) (AllReadyH.cons rfl (fun K hK => ?_) (AllReadyH.cons rfl (fun K hK => ?_) AllReadyH.nil)))
      · rw [if_pos (by rfl)]
        go_wp2_with fail
        refine (d6Chain_any b m d fs q _ (HYB.out.below hs1) HN20.out.2).mono ?_
        rintro e x2 ⟨hb, a2, n2, c2, rfl, ho2⟩
        have ht2 := ho2.row.blk_ge
        have hs2 : Below wB.heap.size wB x2 := hs1.trans (hb.mono hs1.size)
        have hz32 := hb.size
        have hw2 := hs2.size
        replace ho1 := ho1.below hb
        clear hb hS
        refine hK.out _ _ hs2 (fun hS => ?_)
        clear hK K
        try simp only [Act.put, List.setIfInBounds_toArray, List.set_cons_zero, List.set_cons_succ]
        refine wpAnyH_ready (rs := [4, 5]) (by kernel_rfl) (by simp) (AllReadyH.cons rfl (fun K hK => ?_) (AllReadyH.cons rfl (fun K hK => ?_) AllReadyH.nil))
        · rw [if_pos (by rfl)]
          go_wp2_with fail
          obtain ⟨x3, hx3⟩ : ∃ y, x2.alloc (.cells #[.slice none 0 0, .int .u8 0] 50) = y := ⟨_, rfl⟩
          have hb : Below x2.heap.size x2 x3 := by rw [← hx3]; exact (Below.refl _ _).alloc (Nat.le_refl _) _
          have ht4 : x3.there x2.heap.size 0 2 := by rw [← hx3]; exact there_new _ _ _ _ rfl _ rfl
          have hz4 : x2.heap.size + 1 = x3.heap.size := by rw [← hx3]; simp
          change K _ (x2.alloc (.cells #[.slice none 0 0, .int .u8 0] 50))
          rw [hx3]
          clear hx3
          have hs3 : Below wB.heap.size wB x3 := hs2.trans (hb.mono hs2.size)
          have hz43 := hb.size
          have hw3 := hs3.size
          replace ho1 := ho1.below hb
          replace ho2 := ho2.below hb
          clear hb hS
          refine hK.out _ _ hs3 (fun hS => ?_)
          clear hK K
          try simp only [Act.put, List.setIfInBounds_toArray, List.set_cons_zero, List.set_cons_succ]
          refine wpAnyH_ready (rs := [5]) (by kernel_rfl) (by simp) (AllReadyH.cons rfl (fun K hK => ?_) AllReadyH.nil)
          · rw [if_pos (by rfl)]
            go_wp2_with fail
            obtain ⟨x4, hx4⟩ : ∃ y, x3.alloc (.cells #[.slice none 0 0, .int .u8 0] 50) = y := ⟨_, rfl⟩
            have hb : Below x3.heap.size x3 x4 := by rw [← hx4]; exact (Below.refl _ _).alloc (Nat.le_refl _) _
            have ht5 : x4.there x3.heap.size 0 2 := by rw [← hx4]; exact there_new _ _ _ _ rfl _ rfl
            have hz5 : x3.heap.size + 1 = x4.heap.size := by rw [← hx4]; simp
            change K _ (x3.alloc (.cells #[.slice none 0 0, .int .u8 0] 50))
            rw [hx4]
            clear hx4
            have hs4 : Below wB.heap.size wB x4 := hs3.trans (hb.mono hs3.size)
            have hz54 := hb.size
            have hw4 := hs4.size
            replace ho1 := ho1.below hb
            replace ho2 := ho2.below hb
            replace ht4 := there_kept hb ht4
            clear hb hS
            refine hK.out _ _ hs4 (fun hS => ?_)
            clear hK K
            try simp only [Act.put, List.setIfInBounds_toArray, List.set_cons_zero, List.set_cons_succ]
            refine wpAnyH_ready (rs := [6]) (by kernel_rfl) (by simp) (AllReadyH.cons rfl (fun K hK => ?_) AllReadyH.nil)
            rw [if_pos (by rfl)]
            refine wp_store_mid 50 _ _ rfl (x2.heap.size) 0 #[.slice a1 n1 c1, .int .u8 p] rfl rfl ht4 infRC2 (all_oneCell_toArray (cch_one a1 n1 c1 p)) ?_
            have hs8 : Below wB.heap.size wB (x4.setCells (x2.heap.size) 0 [.slice a1 n1 c1, .int .u8 p]) := Below.setCells hs4 _ (by omega) _ _
            have hne : x3.heap.size ≠ x2.heap.size := by omega
            clear hS
            refine hK.out _ _ hs8 (fun hS => ?_)
            clear hK K
            try simp only [Act.put]
            refine wpAnyH_ready (rs := [7]) (by kernel_rfl) (by simp) (AllReadyH.cons rfl (fun K hK => ?_) AllReadyH.nil)
            rw [if_pos (by rfl)]
            refine wp_store_mid 50 _ _ rfl (x3.heap.size) 0 #[.slice a2 n2 c2, .int .u8 q] rfl rfl (there_set ht5 _ hne) infRC2 (all_oneCell_toArray (cch_one a2 n2 c2 q)) ?_
            have hs9 : Below wB.heap.size wB ((x4.setCells (x2.heap.size) 0 [.slice a1 n1 c1, .int .u8 p]).setCells (x3.heap.size) 0 [.slice a2 n2 c2, .int .u8 q]) := Below.setCells hs8 _ (by omega) _ _
            have HFIN := Lib.hid (pc_fin (p := p) (q := q) hs4 (show wB.heap.size ≤ x2.heap.size by omega) (show wB.heap.size ≤ x3.heap.size by omega) (fun e => hne e.symm) ht4 ht5 ho1 ho2 (fun g e => by have := ht1 g e; omega) (fun g e => by have := ht2 g e; omega) (okR HX.out) (okR HY.out))
            clear hS
            refine hK.out _ _ hs9 (fun hS => ?_)
            clear hK K
            refine wpAnyH_done (by kernel_rfl) ?_ _
            go_wp2_with fail
            go_meet
            exact ⟨_, _, a1, n1, c1, a2, n2, c2, rfl, rfl, HFIN⟩
        · rw [if_pos (by rfl)]
          go_wp2_with fail
          obtain ⟨x3, hx3⟩ : ∃ y, x2.alloc (.cells #[.slice none 0 0, .int .u8 0] 50) = y := ⟨_, rfl⟩
          have hb : Below x2.heap.size x2 x3 := by rw [← hx3]; exact (Below.refl _ _).alloc (Nat.le_refl _) _
          have ht5 : x3.there x2.heap.size 0 2 := by rw [← hx3]; exact there_new _ _ _ _ rfl _ rfl
          have hz5 : x2.heap.size + 1 = x3.heap.size := by rw [← hx3]; simp
          change K _ (x2.alloc (.cells #[.slice none 0 0, .int .u8 0] 50))
          rw [hx3]
          clear hx3
          have hs3 : Below wB.heap.size wB x3 := hs2.trans (hb.mono hs2.size)
          have hz53 := hb.size
          have hw3 := hs3.size
          replace ho1 := ho1.below hb
          replace ho2 := ho2.below hb
          clear hb hS
          refine hK.out _ _ hs3 (fun hS => ?_)
          clear hK K
          try simp only [Act.put, List.setIfInBounds_toArray, List.set_cons_zero, List.set_cons_succ]
          refine wpAnyH_ready (rs := [4]) (by kernel_rfl) (by simp) (AllReadyH.cons rfl (fun K hK => ?_) AllReadyH.nil)
          · rw [if_pos (by rfl)]
            go_wp2_with fail
            obtain ⟨x4, hx4⟩ : ∃ y, x3.alloc (.cells #[.slice none 0 0, .int .u8 0] 50) = y := ⟨_, rfl⟩
            have hb : Below x3.heap.size x3 x4 := by rw [← hx4]; exact (Below.refl _ _).alloc (Nat.le_refl _) _
            have ht4 : x4.there x3.heap.size 0 2 := by rw [← hx4]; exact there_new _ _ _ _ rfl _ rfl
            have hz4 : x3.heap.size + 1 = x4.heap.size := by rw [← hx4]; simp
            change K _ (x3.alloc (.cells #[.slice none 0 0, .int .u8 0] 50))
            rw [hx4]
            clear hx4
            have hs4 : Below wB.heap.size wB x4 := hs3.trans (hb.mono hs3.size)
            have hz44 := hb.size
            have hw4 := hs4.size
            replace ho1 := ho1.below hb
            replace ho2 := ho2.below hb
            replace ht5 := there_kept hb ht5
            clear hb hS
            refine hK.out _ _ hs4 (fun hS => ?_)
            clear hK K
            try simp only [Act.put, List.setIfInBounds_toArray, List.set_cons_zero, List.set_cons_succ]
            refine wpAnyH_ready (rs := [6]) (by kernel_rfl) (by simp) (AllReadyH.cons rfl (fun K hK => ?_) AllReadyH.nil)
            rw [if_pos (by rfl)]
            refine wp_store_mid 50 _ _ rfl (x3.heap.size) 0 #[.slice a1 n1 c1, .int .u8 p] rfl rfl ht4 infRC2 (all_oneCell_toArray (cch_one a1 n1 c1 p)) ?_
            have hs8 : Below wB.heap.size wB (x4.setCells (x3.heap.size) 0 [.slice a1 n1 c1, .int .u8 p]) := Below.setCells hs4 _ (by omega) _ _
            have hne : x2.heap.size ≠ x3.heap.size := by omega
            clear hS
            refine hK.out _ _ hs8 (fun hS => ?_)
            clear hK K
            try simp only [Act.put]
            refine wpAnyH_ready (rs := [7]) (by kernel_rfl) (by simp) (AllReadyH.cons rfl (fun K hK => ?_) AllReadyH.nil)
            rw [if_pos (by rfl)]
            refine wp_store_mid 50 _ _ rfl (x2.heap.size) 0 #[.slice a2 n2 c2, .int .u8 q] rfl rfl (there_set ht5 _ hne) infRC2 (all_oneCell_toArray (cch_one a2 n2 c2 q)) ?_
            have hs9 : Below wB.heap.size wB ((x4.setCells (x3.heap.size) 0 [.slice a1 n1 c1, .int .u8 p]).setCells (x2.heap.size) 0 [.slice a2 n2 c2, .int .u8 q]) := Below.setCells hs8 _ (by omega) _ _
            have HFIN := Lib.hid (pc_fin (p := p) (q := q) hs4 (show wB.heap.size ≤ x3.heap.size by omega) (show wB.heap.size ≤ x2.heap.size by omega) (fun e => hne e.symm) ht4 ht5 ho1 ho2 (fun g e => by have := ht1 g e; omega) (fun g e => by have := ht2 g e; omega) (okR HX.out) (okR HY.out))
            clear hS
            refine hK.out _ _ hs9 (fun hS => ?_)
            clear hK K
            refine wpAnyH_done (by kernel_rfl) ?_ _
            go_wp2_with fail
            go_meet
            exact ⟨_, _, a1, n1, c1, a2, n2, c2, rfl, rfl, HFIN⟩
      · rw [if_pos (by rfl)]
        go_wp2_with fail
        obtain ⟨x2, hx2⟩ : ∃ y, x1.alloc (.cells #[.slice none 0 0, .int .u8 0] 50) = y := ⟨_, rfl⟩
        have hb : Below x1.heap.size x1 x2 := by rw [← hx2]; exact (Below.refl _ _).alloc (Nat.le_refl _) _
        have ht4 : x2.there x1.heap.size 0 2 := by rw [← hx2]; exact there_new _ _ _ _ rfl _ rfl
        have hz4 : x1.heap.size + 1 = x2.heap.size := by rw [← hx2]; simp
        change K _ (x1.alloc (.cells #[.slice none 0 0, .int .u8 0] 50))
        rw [hx2]
        clear hx2
        have hs2 : Below wB.heap.size wB x2 := hs1.trans (hb.mono hs1.size)
        have hz42 := hb.size
        have hw2 := hs2.size
        replace ho1 := ho1.below hb
        clear hb hS
        refine hK.out _ _ hs2 (fun hS => ?_)
        clear hK K
        try simp only [Act.put, List.setIfInBounds_toArray, List.set_cons_zero, List.set_cons_succ]
        refine wpAnyH_ready (rs := [3, 5]) (by kernel_rfl) (by simp) (AllReadyH.cons rfl (fun K hK => ?_) (AllReadyH.cons rfl (fun K hK => ?_) AllReadyH.nil))
        · rw [if_pos (by rfl)]
          go_wp2_with fail
          refine (d6Chain_any b m d fs q _ (HYB.out.below hs2) HN20.out.2).mono ?_
          rintro e x3 ⟨hb, a2, n2, c2, rfl, ho2⟩
          have ht2 := ho2.row.blk_ge
          have hs3 : Below wB.heap.size wB x3 := hs2.trans (hb.mono hs2.size)
          have hz33 := hb.size
          have hw3 := hs3.size
          replace ho1 := ho1.below hb
          replace ht4 := there_kept hb ht4
          clear hb hS
          refine hK.out _ _ hs3 (fun hS => ?_)
          clear hK K
          try simp only [Act.put, List.setIfInBounds_toArray, List.set_cons_zero, List.set_cons_succ]
          refine wpAnyH_ready (rs := [5]) (by kernel_rfl) (by simp) (AllReadyH.cons rfl (fun K hK => ?_) AllReadyH.nil)
          · rw [if_pos (by rfl)]
            go_wp2_with fail
            obtain ⟨x4, hx4⟩ : ∃ y, x3.alloc (.cells #[.slice none 0 0, .int .u8 0] 50) = y := ⟨_, rfl⟩
            have hb : Below x3.heap.size x3 x4 := by rw [← hx4]; exact (Below.refl _ _).alloc (Nat.le_refl _) _
            have ht5 : x4.there x3.heap.size 0 2 := by rw [← hx4]; exact there_new _ _ _ _ rfl _ rfl
            have hz5 : x3.heap.size + 1 = x4.heap.size := by rw [← hx4]; simp
            change K _ (x3.alloc (.cells #[.slice none 0 0, .int .u8 0] 50))
            rw [hx4]
            clear hx4
            have hs4 : Below wB.heap.size wB x4 := hs3.trans (hb.mono hs3.size)
            have hz54 := hb.size
            have hw4 := hs4.size
            replace ho1 := ho1.below hb
            replace ht4 := there_kept hb ht4
            replace ho2 := ho2.below hb
            clear hb hS
            refine hK.out _ _ hs4 (fun hS => ?_)
            clear hK K
            try simp only [Act.put, List.setIfInBounds_toArray, List.set_cons_zero, List.set_cons_succ]
            refine wpAnyH_ready (rs := [6]) (by kernel_rfl) (by simp) (AllReadyH.cons rfl (fun K hK => ?_) AllReadyH.nil)
            rw [if_pos (by rfl)]
            refine wp_store_mid 50 _ _ rfl (x1.heap.size) 0 #[.slice a1 n1 c1, .int .u8 p] rfl rfl ht4 infRC2 (all_oneCell_toArray (cch_one a1 n1 c1 p)) ?_
            have hs8 : Below wB.heap.size wB (x4.setCells (x1.heap.size) 0 [.slice a1 n1 c1, .int .u8 p]) := Below.setCells hs4 _ (by omega) _ _
            have hne : x3.heap.size ≠ x1.heap.size := by omega
            clear hS
            refine hK.out _ _ hs8 (fun hS => ?_)
            clear hK K
            try simp only [Act.put]
            refine wpAnyH_ready (rs := [7]) (by kernel_rfl) (by simp) (AllReadyH.cons rfl (fun K hK => ?_) AllReadyH.nil)
            rw [if_pos (by rfl)]
            refine wp_store_mid 50 _ _ rfl (x3.heap.size) 0 #[.slice a2 n2 c2, .int .u8 q] rfl rfl (there_set ht5 _ hne) infRC2 (all_oneCell_toArray (cch_one a2 n2 c2 q)) ?_
            have hs9 : Below wB.heap.size wB ((x4.setCells (x1.heap.size) 0 [.slice a1 n1 c1, .int .u8 p]).setCells (x3.heap.size) 0 [.slice a2 n2 c2, .int .u8 q]) := Below.setCells hs8 _ (by omega) _ _
            have HFIN := Lib.hid (pc_fin (p := p) (q := q) hs4 (show wB.heap.size ≤ x1.heap.size by omega) (show wB.heap.size ≤ x3.heap.size by omega) (fun e => hne e.symm) ht4 ht5 ho1 ho2 (fun g e => by have := ht1 g e; omega) (fun g e => by have := ht2 g e; omega) (okR HX.out) (okR HY.out))
            clear hS
            refine hK.out _ _ hs9 (fun hS => ?_)
            clear hK K
            refine wpAnyH_done (by kernel_rfl) ?_ _
            go_wp2_with fail
            go_meet
            exact ⟨_, _, a1, n1, c1, a2, n2, c2, rfl, rfl, HFIN⟩
        · rw [if_pos (by rfl)]
          go_wp2_with fail
          obtain ⟨x3, hx3⟩ : ∃ y, x2.alloc (.cells #[.slice none 0 0, .int .u8 0] 50) = y := ⟨_, rfl⟩
          have hb : Below x2.heap.size x2 x3 := by rw [← hx3]; exact (Below.refl _ _).alloc (Nat.le_refl _) _
          have ht5 : x3.there x2.heap.size 0 2 := by rw [← hx3]; exact there_new _ _ _ _ rfl _ rfl
          have hz5 : x2.heap.size + 1 = x3.heap.size := by rw [← hx3]; simp
          change K _ (x2.alloc (.cells #[.slice none 0 0, .int .u8 0] 50))
          rw [hx3]
          clear hx3
          have hs3 : Below wB.heap.size wB x3 := hs2.trans (hb.mono hs2.size)
          have hz53 := hb.size
          have hw3 := hs3.size
          replace ho1 := ho1.below hb
          replace ht4 := there_kept hb ht4
          clear hb hS
          refine hK.out _ _ hs3 (fun hS => ?_)
          clear hK K
          try simp only [Act.put, List.setIfInBounds_toArray, List.set_cons_zero, List.set_cons_succ]
          refine wpAnyH_ready (rs := [3]) (by kernel_rfl) (by simp) (AllReadyH.cons rfl (fun K hK => ?_) AllReadyH.nil)
          · rw [if_pos (by rfl)]
            go_wp2_with fail
            refine (d6Chain_any b m d fs q _ (HYB.out.below hs3) HN20.out.2).mono ?_
            rintro e x4 ⟨hb, a2, n2, c2, rfl, ho2⟩
            have ht2 := ho2.row.blk_ge
            have hs4 : Below wB.heap.size wB x4 := hs3.trans (hb.mono hs3.size)
            have hz34 := hb.size
            have hw4 := hs4.size
            replace ho1 := ho1.below hb
            replace ht4 := there_kept hb ht4
            replace ht5 := there_kept hb ht5
            clear hb hS
            refine hK.out _ _ hs4 (fun hS => ?_)
            clear hK K
            try simp only [Act.put, List.setIfInBounds_toArray, List.set_cons_zero, List.set_cons_succ]
            refine wpAnyH_ready (rs := [6]) (by kernel_rfl) (by simp) (AllReadyH.cons rfl (fun K hK => ?_) AllReadyH.nil)
            rw [if_pos (by rfl)]
            refine wp_store_mid 50 _ _ rfl (x1.heap.size) 0 #[.slice a1 n1 c1, .int .u8 p] rfl rfl ht4 infRC2 (all_oneCell_toArray (cch_one a1 n1 c1 p)) ?_
            have hs8 : Below wB.heap.size wB (x4.setCells (x1.heap.size) 0 [.slice a1 n1 c1, .int .u8 p]) := Below.setCells hs4 _ (by omega) _ _
            have hne : x2.heap.size ≠ x1.heap.size := by omega
            clear hS
            refine hK.out _ _ hs8 (fun hS => ?_)
            clear hK K
            try simp only [Act.put]
            refine wpAnyH_ready (rs := [7]) (by kernel_rfl) (by simp) (AllReadyH.cons rfl (fun K hK => ?_) AllReadyH.nil)
            rw [if_pos (by rfl)]
            refine wp_store_mid 50 _ _ rfl (x2.heap.size) 0 #[.slice a2 n2 c2, .int .u8 q] rfl rfl (there_set ht5 _ hne) infRC2 (all_oneCell_toArray (cch_one a2 n2 c2 q)) ?_
            have hs9 : Below wB.heap.size wB ((x4.setCells (x1.heap.size) 0 [.slice a1 n1 c1, .int .u8 p]).setCells (x2.heap.size) 0 [.slice a2 n2 c2, .int .u8 q]) := Below.setCells hs8 _ (by omega) _ _
            have HFIN := Lib.hid (pc_fin (p := p) (q := q) hs4 (show wB.heap.size ≤ x1.heap.size by omega) (show wB.heap.size ≤ x2.heap.size by omega) (fun e => hne e.symm) ht4 ht5 ho1 ho2 (fun g e => by have := ht1 g e; omega) (fun g e => by have := ht2 g e; omega) (okR HX.out) (okR HY.out))
            clear hS
            refine hK.out _ _ hs9 (fun hS => ?_)
            clear hK K
            refine wpAnyH_done (by kernel_rfl) ?_ _
            go_wp2_with fail
            go_meet
            exact ⟨_, _, a1, n1, c1, a2, n2, c2, rfl, rfl, HFIN⟩
      · rw [if_pos (by rfl)]
        go_wp2_with fail
        obtain ⟨x2, hx2⟩ : ∃ y, x1.alloc (.cells #[.slice none 0 0, .int .u8 0] 50) = y := ⟨_, rfl⟩
        have hb : Below x1.heap.size x1 x2 := by rw [← hx2]; exact (Below.refl _ _).alloc (Nat.le_refl _) _
        have ht5 : x2.there x1.heap.size 0 2 := by rw [← hx2]; exact there_new _ _ _ _ rfl _ rfl
        have hz5 : x1.heap.size + 1 = x2.heap.size := by rw [← hx2]; simp
        change K _ (x1.alloc (.cells #[.slice none 0 0, .int .u8 0] 50))
        rw [hx2]
        clear hx2
        have hs2 : Below wB.heap.size wB x2 := hs1.trans (hb.mono hs1.size)
        have hz52 := hb.size
        have hw2 := hs2.size
        replace ho1 := ho1.below hb
        clear hb hS
        refine hK.out _ _ hs2 (fun hS => ?_)
        clear hK K
        try simp only [Act.put, List.setIfInBounds_toArray, List.set_cons_zero, List.set_cons_succ]
        refine wpAnyH_ready (rs := [3, 4]) (by kernel_rfl) (by simp) (AllReadyH.cons rfl (fun K hK => ?_) (AllReadyH.cons rfl (fun K hK => ?_) AllReadyH.nil))
        · rw [if_pos (by rfl)]
          go_wp2_with fail
          refine (d6Chain_any b m d fs q _ (HYB.out.below hs2) HN20.out.2).mono ?_
          rintro e x3 ⟨hb, a2, n2, c2, rfl, ho2⟩
          have ht2 := ho2.row.blk_ge
          have hs3 : Below wB.heap.size wB x3 := hs2.trans (hb.mono hs2.size)
          have hz33 := hb.size
          have hw3 := hs3.size
          replace ho1 := ho1.below hb
          replace ht5 := there_kept hb ht5
          clear hb hS
          refine hK.out _ _ hs3 (fun hS => ?_)
          clear hK K
          try simp only [Act.put, List.setIfInBounds_toArray, List.set_cons_zero, List.set_cons_succ]
          refine wpAnyH_ready (rs := [4]) (by kernel_rfl) (by simp) (AllReadyH.cons rfl (fun K hK => ?_) AllReadyH.nil)
          · rw [if_pos (by rfl)]
            go_wp2_with fail
            obtain ⟨x4, hx4⟩ : ∃ y, x3.alloc (.cells #[.slice none 0 0, .int .u8 0] 50) = y := ⟨_, rfl⟩
            have hb : Below x3.heap.size x3 x4 := by rw [← hx4]; exact (Below.refl _ _).alloc (Nat.le_refl _) _
            have ht4 : x4.there x3.heap.size 0 2 := by rw [← hx4]; exact there_new _ _ _ _ rfl _ rfl
            have hz4 : x3.heap.size + 1 = x4.heap.size := by rw [← hx4]; simp
            change K _ (x3.alloc (.cells #[.slice none 0 0, .int .u8 0] 50))
            rw [hx4]
            clear hx4
            have hs4 : Below wB.heap.size wB x4 := hs3.trans (hb.mono hs3.size)
            have hz44 := hb.size
            have hw4 := hs4.size
            replace ho1 := ho1.below hb
            replace ht5 := there_kept hb ht5
            replace ho2 := ho2.below hb
            clear hb hS
            refine hK.out _ _ hs4 (fun hS => ?_)
            clear hK K
            try simp only [Act.put, List.setIfInBounds_toArray, List.set_cons_zero, List.set_cons_succ]
            refine wpAnyH_ready (rs := [6]) (by kernel_rfl) (by simp) (AllReadyH.cons rfl (fun K hK => ?_) AllReadyH.nil)
            rw [if_pos (by rfl)]
            refine wp_store_mid 50 _ _ rfl (x3.heap.size) 0 #[.slice a1 n1 c1, .int .u8 p] rfl rfl ht4 infRC2 (all_oneCell_toArray (cch_one a1 n1 c1 p)) ?_
            have hs8 : Below wB.heap.size wB (x4.setCells (x3.heap.size) 0 [.slice a1 n1 c1, .int .u8 p]) := Below.setCells hs4 _ (by omega) _ _
            have hne : x1.heap.size ≠ x3.heap.size := by omega
            clear hS
            refine hK.out _ _ hs8 (fun hS => ?_)
            clear hK K
            try simp only [Act.put]
            refine wpAnyH_ready (rs := [7]) (by kernel_rfl) (by simp) (AllReadyH.cons rfl (fun K hK => ?_) AllReadyH.nil)
            rw [if_pos (by rfl)]
            refine wp_store_mid 50 _ _ rfl (x1.heap.size) 0 #[.slice a2 n2 c2, .int .u8 q] rfl rfl (there_set ht5 _ hne) infRC2 (all_oneCell_toArray (cch_one a2 n2 c2 q)) ?_
            have hs9 : Below wB.heap.size wB ((x4.setCells (x3.heap.size) 0 [.slice a1 n1 c1, .int .u8 p]).setCells (x1.heap.size) 0 [.slice a2 n2 c2, .int .u8 q]) := Below.setCells hs8 _ (by omega) _ _
            have HFIN := Lib.hid (pc_fin (p := p) (q := q) hs4 (show wB.heap.size ≤ x3.heap.size by omega) (show wB.heap.size ≤ x1.heap.size by omega) (fun e => hne e.symm) ht4 ht5 ho1 ho2 (fun g e => by have := ht1 g e; omega) (fun g e => by have := ht2 g e; omega) (okR HX.out) (okR HY.out))
            clear hS
            refine hK.out _ _ hs9 (fun hS => ?_)
            clear hK K
            refine wpAnyH_done (by kernel_rfl) ?_ _
            go_wp2_with fail
            go_meet
            exact ⟨_, _, a1, n1, c1, a2, n2, c2, rfl, rfl, HFIN⟩
        · rw [if_pos (by rfl)]
          go_wp2_with fail
          obtain ⟨x3, hx3⟩ : ∃ y, x2.alloc (.cells #[.slice none 0 0, .int .u8 0] 50) = y := ⟨_, rfl⟩
          have hb : Below x2.heap.size x2 x3 := by rw [← hx3]; exact (Below.refl _ _).alloc (Nat.le_refl _) _
          have ht4 : x3.there x2.heap.size 0 2 := by rw [← hx3]; exact there_new _ _ _ _ rfl _ rfl
          have hz4 : x2.heap.size + 1 = x3.heap.size := by rw [← hx3]; simp
          change K _ (x2.alloc (.cells #[.slice none 0 0, .int .u8 0] 50))
          rw [hx3]
          clear hx3
          have hs3 : Below wB.heap.size wB x3 := hs2.trans (hb.mono hs2.size)
          have hz43 := hb.size
          have hw3 := hs3.size
          replace ho1 := ho1.below hb
          replace ht5 := there_kept hb ht5
          clear hb hS
          refine hK.out _ _ hs3 (fun hS => ?_)
          clear hK K
          try simp only [Act.put, List.setIfInBounds_toArray, List.set_cons_zero, List.set_cons_succ]
          refine wpAnyH_ready (rs := [3]) (by kernel_rfl) (by simp) (AllReadyH.cons rfl (fun K hK => ?_) AllReadyH.nil)
          · rw [if_pos (by rfl)]
            go_wp2_with fail
            refine (d6Chain_any b m d fs q _ (HYB.out.below hs3) HN20.out.2).mono ?_
            rintro e x4 ⟨hb, a2, n2, c2, rfl, ho2⟩
            have ht2 := ho2.row.blk_ge
            have hs4 : Below wB.heap.size wB x4 := hs3.trans (hb.mono hs3.size)
            have hz34 := hb.size
            have hw4 := hs4.size
            replace ho1 := ho1.below hb
            replace ht5 := there_kept hb ht5
            replace ht4 := there_kept hb ht4
            clear hb hS
            refine hK.out _ _ hs4 (fun hS => ?_)
            clear hK K
            try simp only [Act.put, List.setIfInBounds_toArray, List.set_cons_zero, List.set_cons_succ]
            refine wpAnyH_ready (rs := [6]) (by kernel_rfl) (by simp) (AllReadyH.cons rfl (fun K hK => ?_) AllReadyH.nil)
            rw [if_pos (by rfl)]
            refine wp_store_mid 50 _ _ rfl (x2.heap.size) 0 #[.slice a1 n1 c1, .int .u8 p] rfl rfl ht4 infRC2 (all_oneCell_toArray (cch_one a1 n1 c1 p)) ?_
            have hs8 : Below wB.heap.size wB (x4.setCells (x2.heap.size) 0 [.slice a1 n1 c1, .int .u8 p]) := Below.setCells hs4 _ (by omega) _ _
            have hne : x1.heap.size ≠ x2.heap.size := by omega
            clear hS
            refine hK.out _ _ hs8 (fun hS => ?_)
            clear hK K
            try simp only [Act.put]
            refine wpAnyH_ready (rs := [7]) (by kernel_rfl) (by simp) (AllReadyH.cons rfl (fun K hK => ?_) AllReadyH.nil)
            rw [if_pos (by rfl)]
            refine wp_store_mid 50 _ _ rfl (x1.heap.size) 0 #[.slice a2 n2 c2, .int .u8 q] rfl rfl (there_set ht5 _ hne) infRC2 (all_oneCell_toArray (cch_one a2 n2 c2 q)) ?_
            have hs9 : Below wB.heap.size wB ((x4.setCells (x2.heap.size) 0 [.slice a1 n1 c1, .int .u8 p]).setCells (x1.heap.size) 0 [.slice a2 n2 c2, .int .u8 q]) := Below.setCells hs8 _ (by omega) _ _
            have HFIN := Lib.hid (pc_fin (p := p) (q := q) hs4 (show wB.heap.size ≤ x2.heap.size by omega) (show wB.heap.size ≤ x1.heap.size by omega) (fun e => hne e.symm) ht4 ht5 ho1 ho2 (fun g e => by have := ht1 g e; omega) (fun g e => by have := ht2 g e; omega) (okR HX.out) (okR HY.out))
            clear hS
            refine hK.out _ _ hs9 (fun hS => ?_)
            clear hK K
            refine wpAnyH_done (by kernel_rfl) ?_ _
            go_wp2_with fail
            go_meet
            exact ⟨_, _, a1, n1, c1, a2, n2, c2, rfl, rfl, HFIN⟩
    · rw [if_pos (by rfl)]
      go_wp2_with fail
      obtain ⟨x1, hx1⟩ : ∃ y, x0.alloc (.cells #[.slice none 0 0, .int .u8 0] 50) = y := ⟨_, rfl⟩
      have hb : Below x0.heap.size x0 x1 := by rw [← hx1]; exact (Below.refl _ _).alloc (Nat.le_refl _) _
      have ht4 : x1.there x0.heap.size 0 2 := by rw [← hx1]; exact there_new _ _ _ _ rfl _ rfl
      have hz4 : x0.heap.size + 1 = x1.heap.size := by rw [← hx1]; simp
      change K _ (x0.alloc (.cells #[.slice none 0 0, .int .u8 0] 50))
      rw [hx1]
      clear hx1
      have hs1 : Below wB.heap.size wB x1 := hs0.trans (hb.mono hs0.size)
      have hz41 := hb.size
      have hw1 := hs1.size
      clear hb hS
      refine hK.out _ _ hs1 (fun hS => ?_)
      clear hK K
      try simp only [Act.put, List.setIfInBounds_toArray, List.set_cons_zero, List.set_cons_succ]
      refine wpAnyH_ready (rs := [1, 5]) (by kernel_rfl) (by simp) (AllReadyH.cons rfl (fun K hK => ?_) (AllReadyH.cons rfl (fun K hK => ?_) AllReadyH.nil))
      · rw [if_pos (by rfl)]
        go_wp2_with fail
        refine (d6Chain_any a n c es p _ (HXB.out.below hs1) HN20.out.1).mono ?_
        rintro e x2 ⟨hb, a1, n1, c1, rfl, ho1⟩
        have ht1 := ho1.row.blk_ge
        have hs2 : Below wB.heap.size wB x2 := hs1.trans (hb.mono hs1.size)
        have hz12 := hb.size
        have hw2 := hs2.size
        replace ht4 := there_kept hb ht4
        clear hb hS
        refine hK.out _ _ hs2 (fun hS => ?_)
        clear hK K
        try simp only [Act.put, List.setIfInBounds_toArray, List.set_cons_zero, List.set_cons_succ]
        refine wpAnyH_ready (rs := [3, 5]) (by kernel_rfl) (by simp) (AllReadyH.cons rfl (fun K hK => ?_) (AllReadyH.cons rfl (fun K hK => ?_) AllReadyH.nil))
        · rw [if_pos (by rfl)]
          go_wp2_with fail
          refine (d6Chain_any b m d fs q _ (HYB.out.below hs2) HN20.out.2).mono ?_
          rintro e x3 ⟨hb, a2, n2, c2, rfl, ho2⟩
          have ht2 := ho2.row.blk_ge
          have hs3 : Below wB.heap.size wB x3 := hs2.trans (hb.mono hs2.size)
          have hz33 := hb.size
          have hw3 := hs3.size
          replace ht4 := there_kept hb ht4
          replace ho1 := ho1.below hb
          clear hb hS
          refine hK.out _ _ hs3 (fun hS => ?_)
          clear hK K
          try simp only [Act.put, List.setIfInBounds_toArray, List.set_cons_zero, List.set_cons_succ]
          refine wpAnyH_ready (rs := [5]) (by kernel_rfl) (by simp) (AllReadyH.cons rfl (fun K hK => ?_) AllReadyH.nil)
          · rw [if_pos (by rfl)]
            go_wp2_with fail
            obtain ⟨x4, hx4⟩ : ∃ y, x3.alloc (.cells #[.slice none 0 0, .int .u8 0] 50) = y := ⟨_, rfl⟩
            have hb : Below x3.heap.size x3 x4 := by rw [← hx4]; exact (Below.refl _ _).alloc (Nat.le_refl _) _
            have ht5 : x4.there x3.heap.size 0 2 := by rw [← hx4]; exact there_new _ _ _ _ rfl _ rfl
            have hz5 : x3.heap.size + 1 = x4.heap.size := by rw [← hx4]; simp
            change K _ (x3.alloc (.cells #[.slice none 0 0, .int .u8 0] 50))
            rw [hx4]
            clear hx4
            have hs4 : Below wB.heap.size wB x4 := hs3.trans (hb.mono hs3.size)
            have hz54 := hb.size
            have hw4 := hs4.size
            replace ht4 := there_kept hb ht4
            replace ho1 := ho1.below hb
            replace ho2 := ho2.below hb
            clear hb hS
            refine hK.out _ _ hs4 (fun hS => ?_)
            clear hK K
            try simp only [Act.put, List.setIfInBounds_toArray, List.set_cons_zero, List.set_cons_succ]
            refine wpAnyH_ready (rs := [6]) (by kernel_rfl) (by simp) (AllReadyH.cons rfl (fun K hK => ?_) AllReadyH.nil)
            rw [if_pos (by rfl)]
            refine wp_store_mid 50 _ _ rfl (x0.heap.size) 0 #[.slice a1 n1 c1, .int .u8 p] rfl rfl ht4 infRC2 (all_oneCell_toArray (cch_one a1 n1 c1 p)) ?_
            have hs8 : Below wB.heap.size wB (x4.setCells (x0.heap.size) 0 [.slice a1 n1 c1, .int .u8 p]) := Below.setCells hs4 _ (by omega) _ _
            have hne : x3.heap.size ≠ x0.heap.size := by omega
            clear hS
            refine hK.out _ _ hs8 (fun hS => ?_)
            clear hK K
            try simp only [Act.put]
            refine wpAnyH_ready (rs := [7]) (by kernel_rfl) (by simp) (AllReadyH.cons rfl (fun K hK => ?_) AllReadyH.nil)
            rw [if_pos (by rfl)]
            refine wp_store_mid 50 _ _ rfl (x3.heap.size) 0 #[.slice a2 n2 c2, .int .u8 q] rfl rfl (there_set ht5 _ hne) infRC2 (all_oneCell_toArray (cch_one a2 n2 c2 q)) ?_
            have hs9 : Below wB.heap.size wB ((x4.setCells (x0.heap.size) 0 [.slice a1 n1 c1, .int .u8 p]).setCells (x3.heap.size) 0 [.slice a2 n2 c2, .int .u8 q]) := Below.setCells hs8 _ (by omega) _ _
            have HFIN := Lib.hid (pc_fin (p := p) (q := q) hs4 (show wB.heap.size ≤ x0.heap.size by omega) (show wB.heap.size ≤ x3.heap.size by omega) (fun e => hne e.symm) ht4 ht5 ho1 ho2 (fun g e => by have := ht1 g e; omega) (fun g e => by have := ht2 g e; omega) (okR HX.out) (okR HY.out))
            clear hS
            refine hK.out _ _ hs9 (fun hS => ?_)
            clear hK K
            refine wpAnyH_done (by kernel_rfl) ?_ _
            go_wp2_with fail
            go_meet
            exact ⟨_, _, a1, n1, c1, a2, n2, c2, rfl, rfl, HFIN⟩
        · rw [if_pos (by rfl)]
          go_wp2_with fail
          obtain ⟨x3, hx3⟩ : ∃ y, x2.alloc (.cells #[.slice none 0 0, .int .u8 0] 50) = y := ⟨_, rfl⟩
          have hb : Below x2.heap.size x2 x3 := by rw [← hx3]; exact (Below.refl _ _).alloc (Nat.le_refl _) _
          have ht5 : x3.there x2.heap.size 0 2 := by rw [← hx3]; exact there_new _ _ _ _ rfl _ rfl
          have hz5 : x2.heap.size + 1 = x3.heap.size := by rw [← hx3]; simp
          change K _ (x2.alloc (.cells #[.slice none 0 0, .int .u8 0] 50))
          rw [hx3]
          clear hx3
          have hs3 : Below wB.heap.size wB x3 := hs2.trans (hb.mono hs2.size)
          have hz53 := hb.size
          have hw3 := hs3.size
          replace ht4 := there_kept hb ht4
          replace ho1 := ho1.below hb
          clear hb hS
          refine hK.out _ _ hs3 (fun hS => ?_)
          clear hK K
          try simp only [Act.put, List.setIfInBounds_toArray, List.set_cons_zero, List.set_cons_succ]
          refine wpAnyH_ready (rs := [3]) (by kernel_rfl) (by simp) (AllReadyH.cons rfl (fun K hK => ?_) AllReadyH.nil)
          · rw [if_pos (by rfl)]
            go_wp2_with fail
            refine (d6Chain_any b m d fs q _ (HYB.out.below hs3) HN20.out.2).mono ?_
            rintro e x4 ⟨hb, a2, n2, c2, rfl, ho2⟩
            have ht2 := ho2.row.blk_ge
            have hs4 : Below wB.heap.size wB x4 := hs3.trans (hb.mono hs3.size)
            have hz34 := hb.size
            have hw4 := hs4.size
            replace ht4 := there_kept hb ht4
            replace ho1 := ho1.below hb
            replace ht5 := there_kept hb ht5
            clear hb hS
            refine hK.out _ _ hs4 (fun hS => ?_)
            clear hK K
            try simp only [Act.put, List.setIfInBounds_toArray, List.set_cons_zero, List.set_cons_succ]
            refine wpAnyH_ready (rs := [6]) (by kernel_rfl) (by simp) (AllReadyH.cons rfl (fun K hK => ?_) AllReadyH.nil)
            rw [if_pos (by rfl)]
            refine wp_store_mid 50 _ _ rfl (x0.heap.size) 0 #[.slice a1 n1 c1, .int .u8 p] rfl rfl ht4 infRC2 (all_oneCell_toArray (cch_one a1 n1 c1 p)) ?_
            have hs8 : Below wB.heap.size wB (x4.setCells (x0.heap.size) 0 [.slice a1 n1 c1, .int .u8 p]) := Below.setCells hs4 _ (by omega) _ _
            have hne : x2.heap.size ≠ x0.heap.size := by omega
            clear hS
            refine hK.out _ _ hs8 (fun hS => ?_)
            clear hK K
            try simp only [Act.put]
            refine wpAnyH_ready (rs := [7]) (by kernel_rfl) (by simp) (AllReadyH.cons rfl (fun K hK => ?_) AllReadyH.nil)
            rw [if_pos (by rfl)]
            refine wp_store_mid 50 _ _ rfl (x2.heap.size) 0 #[.slice a2 n2 c2, .int .u8 q] rfl rfl (there_set ht5 _ hne) infRC2 (all_oneCell_toArray (cch_one a2 n2 c2 q)) ?_
            have hs9 : Below wB.heap.size wB ((x4.setCells (x0.heap.size) 0 [.slice a1 n1 c1, .int .u8 p]).setCells (x2.heap.size) 0 [.slice a2 n2 c2, .int .u8 q]) := Below.setCells hs8 _ (by omega) _ _
            have HFIN := Lib.hid (pc_fin (p := p) (q := q) hs4 (show wB.heap.size ≤ x0.heap.size by omega) (show wB.heap.size ≤ x2.heap.size by omega) (fun e => hne e.symm) ht4 ht5 ho1 ho2 (fun g e => by have := ht1 g e; omega) (fun g e => by have := ht2 g e; omega) (okR HX.out) (okR HY.out))
            clear hS
            refine hK.out _ _ hs9 (fun hS => ?_)
            clear hK K
            refine wpAnyH_done (by kernel_rfl) ?_ _
            go_wp2_with fail
            go_meet
            exact ⟨_, _, a1, n1, c1, a2, n2, c2, rfl, rfl, HFIN⟩
      · rw [if_pos (by rfl)]
        go_wp2_with fail
        obtain ⟨x2, hx2⟩ : ∃ y, x1.alloc (.cells #[.slice none 0 0, .int .u8 0] 50) = y := ⟨_, rfl⟩
        have hb : Below x1.heap.size x1 x2 := by rw [← hx2]; exact (Below.refl _ _).alloc (Nat.le_refl _) _
        have ht5 : x2.there x1.heap.size 0 2 := by rw [← hx2]; exact there_new _ _ _ _ rfl _ rfl
        have hz5 : x1.heap.size + 1 = x2.heap.size := by rw [← hx2]; simp
        change K _ (x1.alloc (.cells #[.slice none 0 0, .int .u8 0] 50))
        rw [hx2]
        clear hx2
        have hs2 : Below wB.heap.size wB x2 := hs1.trans (hb.mono hs1.size)
        have hz52 := hb.size
        have hw2 := hs2.size
        replace ht4 := there_kept hb ht4
        clear hb hS
        refine hK.out _ _ hs2 (fun hS => ?_)
        clear hK K
        try simp only [Act.put, List.setIfInBounds_toArray, List.set_cons_zero, List.set_cons_succ]
        refine wpAnyH_ready (rs := [1]) (by kernel_rfl) (by simp) (AllReadyH.cons rfl (fun K hK => ?_) AllReadyH.nil)
        · rw [if_pos (by rfl)]
          go_wp2_with fail
          refine (d6Chain_any a n c es p _ (HXB.out.below hs2) HN20.out.1).mono ?_
          rintro e x3 ⟨hb, a1, n1, c1, rfl, ho1⟩
          have ht1 := ho1.row.blk_ge
          have hs3 : Below wB.heap.size wB x3 := hs2.trans (hb.mono hs2.size)
          have hz13 := hb.size
          have hw3 := hs3.size
          replace ht4 := there_kept hb ht4
          replace ht5 := there_kept hb ht5
          clear hb hS
          refine hK.out _ _ hs3 (fun hS => ?_)
          clear hK K
          try simp only [Act.put, List.setIfInBounds_toArray, List.set_cons_zero, List.set_cons_succ]
          refine wpAnyH_ready (rs := [3]) (by kernel_rfl) (by simp) (AllReadyH.cons rfl (fun K hK => ?_) AllReadyH.nil)
          · rw [if_pos (by rfl)]
            go_wp2_with fail
            refine (d6Chain_any b m d fs q _ (HYB.out.below hs3) HN20.out.2).mono ?_
            rintro e x4 ⟨hb, a2, n2, c2, rfl, ho2⟩
            have ht2 := ho2.row.blk_ge
            have hs4 : Below wB.heap.size wB x4 := hs3.trans (hb.mono hs3.size)
            have hz34 := hb.size
            have hw4 := hs4.size
            replace ht4 := there_kept hb ht4
            replace ht5 := there_kept hb ht5
            replace ho1 := ho1.below hb
            clear hb hS
            refine hK.out _ _ hs4 (fun hS => ?_)
            clear hK K
            try simp only [Act.put, List.setIfInBounds_toArray, List.set_cons_zero, List.set_cons_succ]
            refine wpAnyH_ready (rs := [6]) (by kernel_rfl) (by simp) (AllReadyH.cons rfl (fun K hK => ?_) AllReadyH.nil)
            rw [if_pos (by rfl)]
            refine wp_store_mid 50 _ _ rfl (x0.heap.size) 0 #[.slice a1 n1 c1, .int .u8 p] rfl rfl ht4 infRC2 (all_oneCell_toArray (cch_one a1 n1 c1 p)) ?_
            have hs8 : Below wB.heap.size wB (x4.setCells (x0.heap.size) 0 [.slice a1 n1 c1, .int .u8 p]) := Below.setCells hs4 _ (by omega) _ _
            have hne : x1.heap.size ≠ x0.heap.size := by omega
            clear hS
            refine hK.out _ _ hs8 (fun hS => ?_)
            clear hK K
            try simp only [Act.put]
            refine wpAnyH_ready (rs := [7]) (by kernel_rfl) (by simp) (AllReadyH.cons rfl (fun K hK => ?_) AllReadyH.nil)
            rw [if_pos (by rfl)]
            refine wp_store_mid 50 _ _ rfl (x1.heap.size) 0 #[.slice a2 n2 c2, .int .u8 q] rfl rfl (there_set ht5 _ hne) infRC2 (all_oneCell_toArray (cch_one a2 n2 c2 q)) ?_
            have hs9 : Below wB.heap.size wB ((x4.setCells (x0.heap.size) 0 [.slice a1 n1 c1, .int .u8 p]).setCells (x1.heap.size) 0 [.slice a2 n2 c2, .int .u8 q]) := Below.setCells hs8 _ (by omega) _ _
            have HFIN := Lib.hid (pc_fin (p := p) (q := q) hs4 (show wB.heap.size ≤ x0.heap.size by omega) (show wB.heap.size ≤ x1.heap.size by omega) (fun e => hne e.symm) ht4 ht5 ho1 ho2 (fun g e => by have := ht1 g e; omega) (fun g e => by have := ht2 g e; omega) (okR HX.out) (okR HY.out))
            clear hS
            refine hK.out _ _ hs9 (fun hS => ?_)
            clear hK K
            refine wpAnyH_done (by kernel_rfl) ?_ _
            go_wp2_with fail
            go_meet
            exact ⟨_, _, a1, n1, c1, a2, n2, c2, rfl, rfl, HFIN⟩
    · rw [if_pos (by rfl)]
      go_wp2_with fail
      obtain ⟨x1, hx1⟩ : ∃ y, x0.alloc (.cells #[.slice none 0 0, .int .u8 0] 50) = y := ⟨_, rfl⟩
      have hb : Below x0.heap.size x0 x1 := by rw [← hx1]; exact (Below.refl _ _).alloc (Nat.le_refl _) _
      have ht5 : x1.there x0.heap.size 0 2 := by rw [← hx1]; exact there_new _ _ _ _ rfl _ rfl
      have hz5 : x0.heap.size + 1 = x1.heap.size := by rw [← hx1]; simp
      change K _ (x0.alloc (.cells #[.slice none 0 0, .int .u8 0] 50))
      rw [hx1]
      clear hx1
      have hs1 : Below wB.heap.size wB x1 := hs0.trans (hb.mono hs0.size)
      have hz51 := hb.size
      have hw1 := hs1.size
      clear hb hS
      refine hK.out _ _ hs1 (fun hS => ?_)
      clear hK K
      try simp only [Act.put, List.setIfInBounds_toArray, List.set_cons_zero, List.set_cons_succ]
      refine wpAnyH_ready (rs := [1, 4]) (by kernel_rfl) (by simp) (AllReadyH.cons rfl (fun K hK => ?_) (AllReadyH.cons rfl (fun K hK => ?_) AllReadyH.nil))
      · rw [if_pos (by rfl)]
        go_wp2_with fail
        refine (d6Chain_any a n c es p _ (HXB.out.below hs1) HN20.out.1).mono ?_
        rintro e x2 ⟨hb, a1, n1, c1, rfl, ho1⟩
        have ht1 := ho1.row.blk_ge
        have hs2 : Below wB.heap.size wB x2 := hs1.trans (hb.mono hs1.size)
        have hz12 := hb.size
        have hw2 := hs2.size
        replace ht5 := there_kept hb ht5
        clear hb hS
        refine hK.out _ _ hs2 (fun hS => ?_)
        clear hK K
        try simp only [Act.put, List.setIfInBounds_toArray, List.set_cons_zero, List.set_cons_succ]
        refine wpAnyH_ready (rs := [3, 4]) (by kernel_rfl) (by simp) (AllReadyH.cons rfl (fun K hK => ?_) (AllReadyH.cons rfl (fun K hK => ?_) AllReadyH.nil))
        · rw [if_pos (by rfl)]
          go_wp2_with fail
          refine (d6Chain_any b m d fs q _ (HYB.out.below hs2) HN20.out.2).mono ?_
          rintro e x3 ⟨hb, a2, n2, c2, rfl, ho2⟩
          have ht2 := ho2.row.blk_ge
          have hs3 : Below wB.heap.size wB x3 := hs2.trans (hb.mono hs2.size)
          have hz33 := hb.size
          have hw3 := hs3.size
          replace ht5 := there_kept hb ht5
          replace ho1 := ho1.below hb
          clear hb hS
          refine hK.out _ _ hs3 (fun hS => ?_)
          clear hK K
          try simp only [Act.put, List.setIfInBounds_toArray, List.set_cons_zero, List.set_cons_succ]
          refine wpAnyH_ready (rs := [4]) (by kernel_rfl) (by simp) (AllReadyH.cons rfl (fun K hK => ?_) AllReadyH.nil)
          · rw [if_pos (by rfl)]
            go_wp2_with fail
            obtain ⟨x4, hx4⟩ : ∃ y, x3.alloc (.cells #[.slice none 0 0, .int .u8 0] 50) = y := ⟨_, rfl⟩
            have hb : Below x3.heap.size x3 x4 := by rw [← hx4]; exact (Below.refl _ _).alloc (Nat.le_refl _) _
            have ht4 : x4.there x3.heap.size 0 2 := by rw [← hx4]; exact there_new _ _ _ _ rfl _ rfl
            have hz4 : x3.heap.size + 1 = x4.heap.size := by rw [← hx4]; simp
            change K _ (x3.alloc (.cells #[.slice none 0 0, .int .u8 0] 50))
            rw [hx4]
            clear hx4
            have hs4 : Below wB.heap.size wB x4 := hs3.trans (hb.mono hs3.size)
            have hz44 := hb.size
            have hw4 := hs4.size
            replace ht5 := there_kept hb ht5
            replace ho1 := ho1.below hb
            replace ho2 := ho2.below hb
            clear hb hS
            refine hK.out _ _ hs4 (fun hS => ?_)
            clear hK K
            try simp only [Act.put, List.setIfInBounds_toArray, List.set_cons_zero, List.set_cons_succ]
            refine wpAnyH_ready (rs := [6]) (by kernel_rfl) (by simp) (AllReadyH.cons rfl (fun K hK => ?_) AllReadyH.nil)
            rw [if_pos (by rfl)]
            refine wp_store_mid 50 _ _ rfl (x3.heap.size) 0 #[.slice a1 n1 c1, .int .u8 p] rfl rfl ht4 infRC2 (all_oneCell_toArray (cch_one a1 n1 c1 p)) ?_
            have hs8 : Below wB.heap.size wB (x4.setCells (x3.heap.size) 0 [.slice a1 n1 c1, .int .u8 p]) := Below.setCells hs4 _ (by omega) _ _
            have hne : x0.heap.size ≠ x3.heap.size := by omega
            clear hS
            refine hK.out _ _ hs8 (fun hS => ?_)
            clear hK K
            try simp only [Act.put]
            refine wpAnyH_ready (rs := [7]) (by kernel_rfl) (by simp) (AllReadyH.cons rfl (fun K hK => ?_) AllReadyH.nil)
            rw [if_pos (by rfl)]
            refine wp_store_mid 50 _ _ rfl (x0.heap.size) 0 #[.slice a2 n2 c2, .int .u8 q] rfl rfl (there_set ht5 _ hne) infRC2 (all_oneCell_toArray (cch_one a2 n2 c2 q)) ?_
            have hs9 : Below wB.heap.size wB ((x4.setCells (x3.heap.size) 0 [.slice a1 n1 c1, .int .u8 p]).setCells (x0.heap.size) 0 [.slice a2 n2 c2, .int .u8 q]) := Below.setCells hs8 _ (by omega) _ _
            have HFIN := Lib.hid (pc_fin (p := p) (q := q) hs4 (show wB.heap.size ≤ x3.heap.size by omega) (show wB.heap.size ≤ x0.heap.size by omega) (fun e => hne e.symm) ht4 ht5 ho1 ho2 (fun g e => by have := ht1 g e; omega) (fun g e => by have := ht2 g e; omega) (okR HX.out) (okR HY.out))
            clear hS
            refine hK.out _ _ hs9 (fun hS => ?_)
            clear hK K
            refine wpAnyH_done (by kernel_rfl) ?_ _
            go_wp2_with fail
            go_meet
            exact ⟨_, _, a1, n1, c1, a2, n2, c2, rfl, rfl, HFIN⟩
        · rw [if_pos (by rfl)]
          go_wp2_with fail
          obtain ⟨x3, hx3⟩ : ∃ y, x2.alloc (.cells #[.slice none 0 0, .int .u8 0] 50) = y := ⟨_, rfl⟩
          have hb : Below x2.heap.size x2 x3 := by rw [← hx3]; exact (Below.refl _ _).alloc (Nat.le_refl _) _
          have ht4 : x3.there x2.heap.size 0 2 := by rw [← hx3]; exact there_new _ _ _ _ rfl _ rfl
          have hz4 : x2.heap.size + 1 = x3.heap.size := by rw [← hx3]; simp
          change K _ (x2.alloc (.cells #[.slice none 0 0, .int .u8 0] 50))
          rw [hx3]
          clear hx3
          have hs3 : Below wB.heap.size wB x3 := hs2.trans (hb.mono hs2.size)
          have hz43 := hb.size
          have hw3 := hs3.size
          replace ht5 := there_kept hb ht5
          replace ho1 := ho1.below hb
          clear hb hS
          refine hK.out _ _ hs3 (fun hS => ?_)
          clear hK K
          try simp only [Act.put, List.setIfInBounds_toArray, List.set_cons_zero, List.set_cons_succ]
          refine wpAnyH_ready (rs := [3]) (by kernel_rfl) (by simp) (AllReadyH.cons rfl (fun K hK => ?_) AllReadyH.nil)
          · rw [if_pos (by rfl)]
            go_wp2_with fail
            refine (d6Chain_any b m d fs q _ (HYB.out.below hs3) HN20.out.2).mono ?_
            rintro e x4 ⟨hb, a2, n2, c2, rfl, ho2⟩
            have ht2 := ho2.row.blk_ge
            have hs4 : Below wB.heap.size wB x4 := hs3.trans (hb.mono hs3.size)
            have hz34 := hb.size
            have hw4 := hs4.size
            replace ht5 := there_kept hb ht5
            replace ho1 := ho1.below hb
            replace ht4 := there_kept hb ht4
            clear hb hS
            refine hK.out _ _ hs4 (fun hS => ?_)
            clear hK K
            try simp only [Act.put, List.setIfInBounds_toArray, List.set_cons_zero, List.set_cons_succ]
            refine wpAnyH_ready (rs := [6]) (by kernel_rfl) (by simp) (AllReadyH.cons rfl (fun K hK => ?_) AllReadyH.nil)
            rw [if_pos (by rfl)]
            refine wp_store_mid 50 _ _ rfl (x2.heap.size) 0 #[.slice a1 n1 c1, .int .u8 p] rfl rfl ht4 infRC2 (all_oneCell_toArray (cch_one a1 n1 c1 p)) ?_
            have hs8 : Below wB.heap.size wB (x4.setCells (x2.heap.size) 0 [.slice a1 n1 c1, .int .u8 p]) := Below.setCells hs4 _ (by omega) _ _
            have hne : x0.heap.size ≠ x2.heap.size := by omega
            clear hS
            refine hK.out _ _ hs8 (fun hS => ?_)
            clear hK K
            try simp only [Act.put]
            refine wpAnyH_ready (rs := [7]) (by kernel_rfl) (by simp) (AllReadyH.cons rfl (fun K hK => ?_) AllReadyH.nil)
            rw [if_pos (by rfl)]
            refine wp_store_mid 50 _ _ rfl (x0.heap.size) 0 #[.slice a2 n2 c2, .int .u8 q] rfl rfl (there_set ht5 _ hne) infRC2 (all_oneCell_toArray (cch_one a2 n2 c2 q)) ?_
            have hs9 : Below wB.heap.size wB ((x4.setCells (x2.heap.size) 0 [.slice a1 n1 c1, .int .u8 p]).setCells (x0.heap.size) 0 [.slice a2 n2 c2, .int .u8 q]) := Below.setCells hs8 _ (by omega) _ _
            have HFIN := Lib.hid (pc_fin (p := p) (q := q) hs4 (show wB.heap.size ≤ x2.heap.size by omega) (show wB.heap.size ≤ x0.heap.size by omega) (fun e => hne e.symm) ht4 ht5 ho1 ho2 (fun g e => by have := ht1 g e; omega) (fun g e => by have := ht2 g e; omega) (okR HX.out) (okR HY.out))
            clear hS
            refine hK.out _ _ hs9 (fun hS => ?_)
            clear hK K
            refine wpAnyH_done (by kernel_rfl) ?_ _
            go_wp2_with fail
            go_meet
            exact ⟨_, _, a1, n1, c1, a2, n2, c2, rfl, rfl, HFIN⟩
      · rw [if_pos (by rfl)]
        go_wp2_with fail
        obtain ⟨x2, hx2⟩ : ∃ y, x1.alloc (.cells #[.slice none 0 0, .int .u8 0] 50) = y := ⟨_, rfl⟩
        have hb : Below x1.heap.size x1 x2 := by rw [← hx2]; exact (Below.refl _ _).alloc (Nat.le_refl _) _
        have ht4 : x2.there x1.heap.size 0 2 := by rw [← hx2]; exact there_new _ _ _ _ rfl _ rfl
        have hz4 : x1.heap.size + 1 = x2.heap.size := by rw [← hx2]; simp
        change K _ (x1.alloc (.cells #[.slice none 0 0, .int .u8 0] 50))
        rw [hx2]
        clear hx2
        have hs2 : Below wB.heap.size wB x2 := hs1.trans (hb.mono hs1.size)
        have hz42 := hb.size
        have hw2 := hs2.size
        replace ht5 := there_kept hb ht5
        clear hb hS
        refine hK.out _ _ hs2 (fun hS => ?_)
        clear hK K
        try simp only [Act.put, List.setIfInBounds_toArray, List.set_cons_zero, List.set_cons_succ]
        refine wpAnyH_ready (rs := [1]) (by kernel_rfl) (by simp) (AllReadyH.cons rfl (fun K hK => ?_) AllReadyH.nil)
        · rw [if_pos (by rfl)]
          go_wp2_with fail
          refine (d6Chain_any a n c es p _ (HXB.out.below hs2) HN20.out.1).mono ?_
          rintro e x3 ⟨hb, a1, n1, c1, rfl, ho1⟩
          have ht1 := ho1.row.blk_ge
          have hs3 : Below wB.heap.size wB x3 := hs2.trans (hb.mono hs2.size)
          have hz13 := hb.size
          have hw3 := hs3.size
          replace ht5 := there_kept hb ht5
          replace ht4 := there_kept hb ht4
          clear hb hS
          refine hK.out _ _ hs3 (fun hS => ?_)
          clear hK K
          try simp only [Act.put, List.setIfInBounds_toArray, List.set_cons_zero, List.set_cons_succ]
          refine wpAnyH_ready (rs := [3]) (by kernel_rfl) (by simp) (AllReadyH.cons rfl (fun K hK => ?_) AllReadyH.nil)
          · rw [if_pos (by rfl)]
            go_wp2_with fail
            refine (d6Chain_any b m d fs q _ (HYB.out.below hs3) HN20.out.2).mono ?_
            rintro e x4 ⟨hb, a2, n2, c2, rfl, ho2⟩
            have ht2 := ho2.row.blk_ge
            have hs4 : Below wB.heap.size wB x4 := hs3.trans (hb.mono hs3.size)
            have hz34 := hb.size
            have hw4 := hs4.size
            replace ht5 := there_kept hb ht5
            replace ht4 := there_kept hb ht4
            replace ho1 := ho1.below hb
            clear hb hS
            refine hK.out _ _ hs4 (fun hS => ?_)
            clear hK K
            try simp only [Act.put, List.setIfInBounds_toArray, List.set_cons_zero, List.set_cons_succ]
            refine wpAnyH_ready (rs := [6]) (by kernel_rfl) (by simp) (AllReadyH.cons rfl (fun K hK => ?_) AllReadyH.nil)
            rw [if_pos (by rfl)]
            refine wp_store_mid 50 _ _ rfl (x1.heap.size) 0 #[.slice a1 n1 c1, .int .u8 p] rfl rfl ht4 infRC2 (all_oneCell_toArray (cch_one a1 n1 c1 p)) ?_
            have hs8 : Below wB.heap.size wB (x4.setCells (x1.heap.size) 0 [.slice a1 n1 c1, .int .u8 p]) := Below.setCells hs4 _ (by omega) _ _
            have hne : x0.heap.size ≠ x1.heap.size := by omega
            clear hS
            refine hK.out _ _ hs8 (fun hS => ?_)
            clear hK K
            try simp only [Act.put]
            refine wpAnyH_ready (rs := [7]) (by kernel_rfl) (by simp) (AllReadyH.cons rfl (fun K hK => ?_) AllReadyH.nil)
            rw [if_pos (by rfl)]
            refine wp_store_mid 50 _ _ rfl (x0.heap.size) 0 #[.slice a2 n2 c2, .int .u8 q] rfl rfl (there_set ht5 _ hne) infRC2 (all_oneCell_toArray (cch_one a2 n2 c2 q)) ?_
            have hs9 : Below wB.heap.size wB ((x4.setCells (x1.heap.size) 0 [.slice a1 n1 c1, .int .u8 p]).setCells (x0.heap.size) 0 [.slice a2 n2 c2, .int .u8 q]) := Below.setCells hs8 _ (by omega) _ _
            have HFIN := Lib.hid (pc_fin (p := p) (q := q) hs4 (show wB.heap.size ≤ x1.heap.size by omega) (show wB.heap.size ≤ x0.heap.size by omega) (fun e => hne e.symm) ht4 ht5 ho1 ho2 (fun g e => by have := ht1 g e; omega) (fun g e => by have := ht2 g e; omega) (okR HX.out) (okR HY.out))
            clear hS
            refine hK.out _ _ hs9 (fun hS => ?_)
            clear hK K
            refine wpAnyH_done (by kernel_rfl) ?_ _
            go_wp2_with fail
            go_meet
            exact ⟨_, _, a1, n1, c1, a2, n2, c2, rfl, rfl, HFIN⟩
  case rest =>
    obtain ⟨b5, b6, a1, n1, c1, a2, n2, c2, rfl, rfl, HPC⟩ := hcut
    have HP0 := HPC
    have hxc : Ch wc a n c es := HXB.out.below HPC.out.blw
    have HSW : Hid (w.heap.size + 2 ≤ wc.heap.size) := by have h1 := HPC.out.blw.size; have h2 := HSB.out; show _ ≤ _; omega
    have HBW : Hid (Below w.heap.size w wc) := HB.out.trans (HPC.out.blw.mono HB.out.size)
    go_wp2_with (refine ldC 46 (.tmp 2) rfl rfl w.heap.size rfl [.slice a n c, .int .u8 p] (range_kept HPC.out.blw HRR.out.1) _ Try.underlying46 rfl infC2 ?_)
    refine (sxPutChain_any a n c es p _ hxc p0 p1).mono ?_
    intro e w3 hp
    obtain ⟨hb3, a3, n3, c3, rfl, ho3⟩ := hp.one
    have HP3 := Lib.hid (HPC.out.below hb3)
    have HO3 := Lib.hid ho3
    have HL3 := Lib.hid ho3.len
    clear hp hb3 ho3 hxc HPC HK2
    go_wp2_with (refine ldC 50 (.tmp 5) rfl rfl b5 rfl [.slice a1 n1 c1, .int .u8 p] HP3.out.r5 _ Try.underlying50 rfl infRC2 ?_)
    refine (r6PutChain_any a1 n1 c1 (es.map Ex.two) p _ HP3.out.ch1 p0 p1).mono ?_
    intro e w4 hp
    obtain ⟨hb4, a4, n4, c4, rfl, ho4⟩ := hp.one
    have HP4 := Lib.hid (HP3.out.below hb4)
    have HO34 : Hid (Own w4 wc.heap.size a3 n3 c3 (pc6 es p)) := HO3.out.blw hb4
    have HO4 := Lib.hid ho4
    have HL4 := Lib.hid ho4.len
    obtain ⟨PK, hpk⟩ : ∃ v, pk6 es p = v := ⟨_, rfl⟩
    obtain ⟨PE, hpe⟩ : ∃ v, pe6 es p = v := ⟨_, rfl⟩
    rw [hpk, hpe]
    clear hp hb4 ho4 HP3 HO3
    go_wp2_with (refine ldC 46 (.tmp 2) rfl rfl w.heap.size rfl [.slice a n c, .int .u8 p] (range_kept HP4.out.blw HRR.out.1) _ Try.underlying46 rfl infC2 ?_)
    refine (sxFrag_any a n c es p _ (HXB.out.below HP4.out.blw) p0 p1).mono ?_
    rintro e w5 ⟨rfl, hb5⟩
    have HP5 := Lib.hid (HP4.out.below hb5)
    have HO35 : Hid (Own w5 wc.heap.size a3 n3 c3 (pc6 es p)) := HO34.out.blw hb5
    have HO45 : Hid (Own w5 w3.heap.size a4 n4 c4 (pc6 es p)) := HO4.out.blw hb5
    obtain ⟨⟨f1, f2, f3, f4⟩, hfr⟩ : ∃ x, frV es p = x := ⟨_, rfl⟩
    have HFR := Lib.hid hfr
    rw [hfr, show frT (f1, f2, f3, f4) = .tuple #[.int .u16 f1, .bool f2, .int .u32 f3, .bool f4] from rfl]
    clear hb5 HP4 HO34 HO4 hfr hpk hpe
    go_wp2_with (refine ldC 50 (.tmp 5) rfl rfl b5 rfl [.slice a1 n1 c1, .int .u8 p] HP5.out.r5 _ Try.underlying50 rfl infRC2 ?_)
    refine (r6Frag_any a1 n1 c1 (es.map Ex.two) p _ HP5.out.ch1 p0 p1).mono ?_
    rintro e w6 ⟨rfl, hb6⟩
    have HP6 := Lib.hid (HP5.out.below hb6)
    have HO36 : Hid (Rd w6 a3 (pc6 es p)) := (HO35.out.blw hb6).rd
    have HO46 : Hid (Rd w6 a4 (pc6 es p)) := (HO45.out.blw hb6).rd
    rw [frW_map, HFR.out, show frT (f1, f2, f3, f4) = .tuple #[.int .u16 f1, .bool f2, .int .u32 f3, .bool f4] from rfl]
    clear hb6 HP5 HO35 HO45
    have HBY : Hid (Byt (pc6 es p)) := pc6_byt HX.out p0 p1
    have HLP : Hid ((pc6 es p).length ≤ 40000) := pc6_len
    obtain ⟨RT, hrt⟩ : ∃ v, rtC es p = v := ⟨_, rfl⟩
    have HRT := Lib.hid hrt
    obtain ⟨SM, hsm⟩ : ∃ v, smC es fs p q = v := ⟨_, rfl⟩
    have HSM := Lib.hid hsm
    clear hrt hsm
    go_upto_region 8 with fail
    have hs0 : Below w6.heap.size w6 w6.drew := to_drew w6
    refine wp_region_held_drew (S := fun w' => Below w6.heap.size w6 w') (by kernel_rfl) hs0 (fun hS => ?_)
    refine tk 0 60 (.int .u8 PK) rfl rfl (by kernel_rfl) (by kernel_rfl) (by kernel_rfl) (fun _ _ _ h => h) (Or.inl ⟨by rfl, fun w' h' => ?_⟩) hS ?_
    · go_simp
    try simp only [Act.put, List.setIfInBounds_toArray, List.set_cons_zero, List.set_cons_succ]
    refine tk 1 61 (.int .u8 PK) rfl rfl (by kernel_rfl) (by kernel_rfl) (by kernel_rfl) (fun _ _ _ h => h) (Or.inl ⟨by rfl, fun w' h' => ?_⟩) hS ?_
    · go_simp
    try simp only [Act.put, List.setIfInBounds_toArray, List.set_cons_zero, List.set_cons_succ]
    refine tk 2 62 (.bool true) rfl rfl (by kernel_rfl) (by kernel_rfl) (by kernel_rfl) (fun _ _ _ h => h) (Or.inl ⟨by rfl, fun w' h' => ?_⟩) hS ?_
    · go_simp
    try simp only [Act.put, List.setIfInBounds_toArray, List.set_cons_zero, List.set_cons_succ]
    refine tk 3 63 (.bool true) rfl rfl (by kernel_rfl) (by kernel_rfl) (by kernel_rfl) (fun _ _ _ h => h) (Or.inl ⟨by rfl, fun w' h' => ?_⟩) hS ?_
    · go_simp
    try simp only [Act.put, List.setIfInBounds_toArray, List.set_cons_zero, List.set_cons_succ]
    refine tk 4 64 (.int .i64 PE) rfl rfl (by kernel_rfl) (by kernel_rfl) (by kernel_rfl) (fun _ _ _ h => h) (Or.inl ⟨by rfl, fun w' h' => ?_⟩) hS ?_
    · go_simp
    try simp only [Act.put, List.setIfInBounds_toArray, List.set_cons_zero, List.set_cons_succ]
    refine tk 5 65 (.int .i64 PE) rfl rfl (by kernel_rfl) (by kernel_rfl) (by kernel_rfl) (fun _ _ _ h => h) (Or.inl ⟨by rfl, fun w' h' => ?_⟩) hS ?_
    · go_simp
    try simp only [Act.put, List.setIfInBounds_toArray, List.set_cons_zero, List.set_cons_succ]
    refine tk 6 66 (.bool true) rfl rfl (by kernel_rfl) (by kernel_rfl) (by kernel_rfl) (fun _ _ _ h => h) (Or.inl ⟨by rfl, fun w' h' => ?_⟩) hS ?_
    · go_simp
    try simp only [Act.put, List.setIfInBounds_toArray, List.set_cons_zero, List.set_cons_succ]
    refine tk 7 67 (.bool true) rfl rfl (by kernel_rfl) (by kernel_rfl) (by kernel_rfl) (fun _ _ _ h => h) (Or.inl ⟨by rfl, fun w' h' => ?_⟩) hS ?_
    · go_simp
    try simp only [Act.put, List.setIfInBounds_toArray, List.set_cons_zero, List.set_cons_succ]
    refine tk 8 68 (.bool true) rfl rfl (by kernel_rfl) (by kernel_rfl) (by kernel_rfl) (fun _ _ _ h => h) (Or.inl ⟨by rfl, fun w' h' => ?_⟩) hS ?_
    · go_simp
    try simp only [Act.put, List.setIfInBounds_toArray, List.set_cons_zero, List.set_cons_succ]
    refine tk 9 69 (.slice a3 n3 c3) rfl rfl (by kernel_rfl) (by kernel_rfl) (by kernel_rfl) (fun _ _ _ h => h) (Or.inl ⟨by rfl, fun w' h' => ?_⟩) hS ?_
    · go_simp
    try simp only [Act.put, List.setIfInBounds_toArray, List.set_cons_zero, List.set_cons_succ]
    refine tk 10 70 (.slice a4 n4 c4) rfl rfl (by kernel_rfl) (by kernel_rfl) (by kernel_rfl) (fun _ _ _ h => h) (Or.inl ⟨by rfl, fun w' h' => ?_⟩) hS ?_
    · go_simp
    try simp only [Act.put, List.setIfInBounds_toArray, List.set_cons_zero, List.set_cons_succ]
    refine wpAnyH_ready (rs := [11]) (by kernel_rfl) (by simp) (AllReadyH.cons rfl (fun K hK => ?_) AllReadyH.nil)
    rw [if_pos (by rfl)]
    go_wp2_with fail
    refine (kSame_any a3 a4 n3 c3 n4 c4 (pc6 es p) (pc6 es p) _ HL3.out HL4.out (HO36.out.below hs0) (HO46.out.below hs0) (by have h1 := HL3.out; have h2 := HLP.out; omega) (by have h1 := HL4.out; have h2 := HLP.out; omega)).mono ?_
    rintro e x1 ⟨rfl, m1, hx1⟩
    rw [decide_eq_true rfl]
    have hs1 : Below w6.heap.size w6 x1 := by rw [hx1]; exact below_drewN hs0 m1
    clear hx1
    clear hS
    refine hK.out _ _ (hs1) (fun hS => ?_)
    clear hK K
    try simp only [Act.put, List.setIfInBounds_toArray, List.set_cons_zero, List.set_cons_succ]
    refine tk 12 72 (.bool true) rfl rfl (by kernel_rfl) (by kernel_rfl) (by kernel_rfl) (fun _ _ _ h => h) (Or.inl ⟨by rfl, fun w' h' => ?_⟩) hS ?_
    · go_simp
    try simp only [Act.put, List.setIfInBounds_toArray, List.set_cons_zero, List.set_cons_succ]
    refine tk 13 73 (.bool true) rfl rfl (by kernel_rfl) (by kernel_rfl) (by kernel_rfl) (fun _ _ _ h => h) (Or.inl ⟨by rfl, fun w' h' => ?_⟩) hS ?_
    · go_simp
    try simp only [Act.put, List.setIfInBounds_toArray, List.set_cons_zero, List.set_cons_succ]
    refine tk 14 74 (.int .u16 f1) rfl rfl (by kernel_rfl) (by kernel_rfl) (by kernel_rfl) (fun _ _ _ h => h) (Or.inl ⟨by rfl, fun w' h' => ?_⟩) hS ?_
    · go_simp
    try simp only [Act.put, List.setIfInBounds_toArray, List.set_cons_zero, List.set_cons_succ]
    refine tk 15 75 (.int .u16 f1) rfl rfl (by kernel_rfl) (by kernel_rfl) (by kernel_rfl) (fun _ _ _ h => h) (Or.inl ⟨by rfl, fun w' h' => ?_⟩) hS ?_
    · go_simp
    try simp only [Act.put, List.setIfInBounds_toArray, List.set_cons_zero, List.set_cons_succ]
    refine tk 16 76 (.bool true) rfl rfl (by kernel_rfl) (by kernel_rfl) (by kernel_rfl) (fun _ _ _ h => h) (Or.inl ⟨by rfl, fun w' h' => ?_⟩) hS ?_
    · go_simp
    try simp only [Act.put, List.setIfInBounds_toArray, List.set_cons_zero, List.set_cons_succ]
    refine tk 17 77 (.bool true) rfl rfl (by kernel_rfl) (by kernel_rfl) (by kernel_rfl) (fun _ _ _ h => h) (Or.inl ⟨by rfl, fun w' h' => ?_⟩) hS ?_
    · go_simp
    try simp only [Act.put, List.setIfInBounds_toArray, List.set_cons_zero, List.set_cons_succ]
    refine tk 18 78 (.bool true) rfl rfl (by kernel_rfl) (by kernel_rfl) (by kernel_rfl) (fun _ _ _ h => h) (Or.inl ⟨by rfl, fun w' h' => ?_⟩) hS ?_
    · go_simp
    try simp only [Act.put, List.setIfInBounds_toArray, List.set_cons_zero, List.set_cons_succ]
    refine tk 19 79 (.bool f2) rfl rfl (by kernel_rfl) (by kernel_rfl) (by kernel_rfl) (fun _ _ _ h => h) (Or.inl ⟨by rfl, fun w' h' => ?_⟩) hS ?_
    · go_simp
    try simp only [Act.put, List.setIfInBounds_toArray, List.set_cons_zero, List.set_cons_succ]
    refine tk 20 80 (.bool f2) rfl rfl (by kernel_rfl) (by kernel_rfl) (by kernel_rfl) (fun _ _ _ h => h) (Or.inl ⟨by rfl, fun w' h' => ?_⟩) hS ?_
    · go_simp
    try simp only [Act.put, List.setIfInBounds_toArray, List.set_cons_zero, List.set_cons_succ]
    refine tk 21 81 (.bool true) rfl rfl (by kernel_rfl) (by kernel_rfl) (by kernel_rfl) (fun _ _ _ h => h) (Or.inl ⟨by rfl, fun w' h' => ?_⟩) hS ?_
    · go_simp
    try simp only [Act.put, List.setIfInBounds_toArray, List.set_cons_zero, List.set_cons_succ]
    refine tk 22 82 (.bool true) rfl rfl (by kernel_rfl) (by kernel_rfl) (by kernel_rfl) (fun _ _ _ h => h) (Or.inl ⟨by rfl, fun w' h' => ?_⟩) hS ?_
    · go_simp
    try simp only [Act.put, List.setIfInBounds_toArray, List.set_cons_zero, List.set_cons_succ]
    refine tk 23 83 (.bool true) rfl rfl (by kernel_rfl) (by kernel_rfl) (by kernel_rfl) (fun _ _ _ h => h) (Or.inl ⟨by rfl, fun w' h' => ?_⟩) hS ?_
    · go_simp
    try simp only [Act.put, List.setIfInBounds_toArray, List.set_cons_zero, List.set_cons_succ]
    refine tk 24 84 (.int .u32 f3) rfl rfl (by kernel_rfl) (by kernel_rfl) (by kernel_rfl) (fun _ _ _ h => h) (Or.inl ⟨by rfl, fun w' h' => ?_⟩) hS ?_
    · go_simp
    try simp only [Act.put, List.setIfInBounds_toArray, List.set_cons_zero, List.set_cons_succ]
    refine tk 25 85 (.int .u32 f3) rfl rfl (by kernel_rfl) (by kernel_rfl) (by kernel_rfl) (fun _ _ _ h => h) (Or.inl ⟨by rfl, fun w' h' => ?_⟩) hS ?_
    · go_simp
    try simp only [Act.put, List.setIfInBounds_toArray, List.set_cons_zero, List.set_cons_succ]
    refine tk 26 86 (.bool true) rfl rfl (by kernel_rfl) (by kernel_rfl) (by kernel_rfl) (fun _ _ _ h => h) (Or.inl ⟨by rfl, fun w' h' => ?_⟩) hS ?_
    · go_simp
    try simp only [Act.put, List.setIfInBounds_toArray, List.set_cons_zero, List.set_cons_succ]
    refine tk 27 87 (.bool true) rfl rfl (by kernel_rfl) (by kernel_rfl) (by kernel_rfl) (fun _ _ _ h => h) (Or.inl ⟨by rfl, fun w' h' => ?_⟩) hS ?_
    · go_simp
    try simp only [Act.put, List.setIfInBounds_toArray, List.set_cons_zero, List.set_cons_succ]
    refine tk 28 88 (.bool true) rfl rfl (by kernel_rfl) (by kernel_rfl) (by kernel_rfl) (fun _ _ _ h => h) (Or.inl ⟨by rfl, fun w' h' => ?_⟩) hS ?_
    · go_simp
    try simp only [Act.put, List.setIfInBounds_toArray, List.set_cons_zero, List.set_cons_succ]
    refine tk 29 89 (.bool f4) rfl rfl (by kernel_rfl) (by kernel_rfl) (by kernel_rfl) (fun _ _ _ h => h) (Or.inl ⟨by rfl, fun w' h' => ?_⟩) hS ?_
    · go_simp
    try simp only [Act.put, List.setIfInBounds_toArray, List.set_cons_zero, List.set_cons_succ]
    refine tk 30 90 (.bool f4) rfl rfl (by kernel_rfl) (by kernel_rfl) (by kernel_rfl) (fun _ _ _ h => h) (Or.inl ⟨by rfl, fun w' h' => ?_⟩) hS ?_
    · go_simp
    try simp only [Act.put, List.setIfInBounds_toArray, List.set_cons_zero, List.set_cons_succ]
    refine tk 31 91 (.bool true) rfl rfl (by kernel_rfl) (by kernel_rfl) (by kernel_rfl) (fun _ _ _ h => h) (Or.inl ⟨by rfl, fun w' h' => ?_⟩) hS ?_
    · go_simp
    try simp only [Act.put, List.setIfInBounds_toArray, List.set_cons_zero, List.set_cons_succ]
    refine tk 32 92 (.bool true) rfl rfl (by kernel_rfl) (by kernel_rfl) (by kernel_rfl) (fun _ _ _ h => h) (Or.inl ⟨by rfl, fun w' h' => ?_⟩) hS ?_
    · go_simp
    try simp only [Act.put, List.setIfInBounds_toArray, List.set_cons_zero, List.set_cons_succ]
    refine tk 33 93 (.bool true) rfl rfl (by kernel_rfl) (by kernel_rfl) (by kernel_rfl) (fun _ _ _ h => h) (Or.inl ⟨by rfl, fun w' h' => ?_⟩) hS ?_
    · go_simp
    try simp only [Act.put, List.setIfInBounds_toArray, List.set_cons_zero, List.set_cons_succ]
    refine tk 34 94 (.agg ([Value.slice a n c, .int .u8 p]).toArray) rfl rfl (by kernel_rfl) (by kernel_rfl) (by kernel_rfl) (fun _ _ _ h => h) (yieldsIf_load_mid (by rfl) _ _ rfl (w.heap.size) (0) rfl ([Value.slice a n c, .int .u8 p]) _ (fun w' h' => range_kept (HP6.out.below h').blw HRR.out.1) Try.underlying46 rfl (infC2)) hS ?_
    try simp only [Act.put, List.setIfInBounds_toArray, List.set_cons_zero, List.set_cons_succ]
    refine tk 36 96 (.agg ([Value.slice a1 n1 c1, .int .u8 p]).toArray) rfl rfl (by kernel_rfl) (by kernel_rfl) (by kernel_rfl) (fun _ _ _ h => h) (yieldsIf_load_mid (by rfl) _ _ rfl (b5) (0) rfl ([Value.slice a1 n1 c1, .int .u8 p]) _ (fun w' h' => (HP6.out.below h').r5) Try.underlying50 rfl (infRC2)) hS ?_
    try simp only [Act.put, List.setIfInBounds_toArray, List.set_cons_zero, List.set_cons_succ]
    refine wpAnyH_ready (rs := [35]) (by kernel_rfl) (by simp) (AllReadyH.cons rfl (fun K hK => ?_) AllReadyH.nil)
    rw [if_pos (by rfl)]
    go_wp2_with fail
    refine (sxRight_any a n c es p _ ((HXB.out.below HP6.out.blw).below hs1) p0 p1).mono ?_
    rintro e x2 ⟨rfl, hb⟩
    have hs2 : Below w6.heap.size w6 x2 := hs1.trans (Below.mono hb hs1.size)
    clear hb
    rw [HRT.out]
    clear hS
    refine hK.out _ _ (hs2) (fun hS => ?_)
    clear hK K
    try simp only [Act.put, List.setIfInBounds_toArray, List.set_cons_zero, List.set_cons_succ]
    refine wpAnyH_ready (rs := [37]) (by kernel_rfl) (by simp) (AllReadyH.cons rfl (fun K hK => ?_) AllReadyH.nil)
    rw [if_pos (by rfl)]
    go_wp2_with fail
    refine (r6Right_any a1 n1 c1 (es.map Ex.two) p _ (HP6.out.below hs2).ch1 p0 p1).mono ?_
    rintro e x3 ⟨rfl, hb⟩
    have hs3 : Below w6.heap.size w6 x3 := hs2.trans (Below.mono hb hs2.size)
    clear hb
    rw [rtR_map, HRT.out]
    clear hS
    refine hK.out _ _ (hs3) (fun hS => ?_)
    clear hK K
    try simp only [Act.put, List.setIfInBounds_toArray, List.set_cons_zero, List.set_cons_succ]
    refine tk 38 98 (.bool true) rfl rfl (by kernel_rfl) (by kernel_rfl) (by kernel_rfl) (fun _ _ _ h => h) (Or.inl ⟨by rfl, fun w' h' => ?_⟩) hS ?_
    · go_simp
    try simp only [Act.put, List.setIfInBounds_toArray, List.set_cons_zero, List.set_cons_succ]
    refine tk 39 99 (.bool true) rfl rfl (by kernel_rfl) (by kernel_rfl) (by kernel_rfl) (fun _ _ _ h => h) (Or.inl ⟨by rfl, fun w' h' => ?_⟩) hS ?_
    · go_simp
    try simp only [Act.put, List.setIfInBounds_toArray, List.set_cons_zero, List.set_cons_succ]
    refine tk 40 100 (.bool true) rfl rfl (by kernel_rfl) (by kernel_rfl) (by kernel_rfl) (fun _ _ _ h => h) (Or.inl ⟨by rfl, fun w' h' => ?_⟩) hS ?_
    · go_simp
    try simp only [Act.put, List.setIfInBounds_toArray, List.set_cons_zero, List.set_cons_succ]
    refine tk 41 101 (.agg ([Value.slice a n c, .int .u8 p]).toArray) rfl rfl (by kernel_rfl) (by kernel_rfl) (by kernel_rfl) (fun _ _ _ h => h) (yieldsIf_load_mid (by rfl) _ _ rfl (w.heap.size) (0) rfl ([Value.slice a n c, .int .u8 p]) _ (fun w' h' => range_kept (HP6.out.below h').blw HRR.out.1) Try.underlying46 rfl (infC2)) hS ?_
    try simp only [Act.put, List.setIfInBounds_toArray, List.set_cons_zero, List.set_cons_succ]
    refine tk 42 102 (.agg ([Value.slice b m d, .int .u8 q]).toArray) rfl rfl (by kernel_rfl) (by kernel_rfl) (by kernel_rfl) (fun _ _ _ h => h) (yieldsIf_load_mid (by rfl) _ _ rfl (w.heap.size + 1) (0) rfl ([Value.slice b m d, .int .u8 q]) _ (fun w' h' => range_kept (HP6.out.below h').blw HRR.out.2) Try.underlying46 rfl (infC2)) hS ?_
    try simp only [Act.put, List.setIfInBounds_toArray, List.set_cons_zero, List.set_cons_succ]
    refine tk 44 104 (.agg ([Value.slice a1 n1 c1, .int .u8 p]).toArray) rfl rfl (by kernel_rfl) (by kernel_rfl) (by kernel_rfl) (fun _ _ _ h => h) (yieldsIf_load_mid (by rfl) _ _ rfl (b5) (0) rfl ([Value.slice a1 n1 c1, .int .u8 p]) _ (fun w' h' => (HP6.out.below h').r5) Try.underlying50 rfl (infRC2)) hS ?_
    try simp only [Act.put, List.setIfInBounds_toArray, List.set_cons_zero, List.set_cons_succ]
    refine tk 45 105 (.agg ([Value.slice a2 n2 c2, .int .u8 q]).toArray) rfl rfl (by kernel_rfl) (by kernel_rfl) (by kernel_rfl) (fun _ _ _ h => h) (yieldsIf_load_mid (by rfl) _ _ rfl (b6) (0) rfl ([Value.slice a2 n2 c2, .int .u8 q]) _ (fun w' h' => (HP6.out.below h').r6) Try.underlying50 rfl (infRC2)) hS ?_
    try simp only [Act.put, List.setIfInBounds_toArray, List.set_cons_zero, List.set_cons_succ]
    refine wpAnyH_ready (rs := [43]) (by kernel_rfl) (by simp) (AllReadyH.cons rfl (fun K hK => ?_) AllReadyH.nil)
    rw [if_pos (by rfl)]
    go_wp2_with fail
    refine (sxSame_any a b n c m d es fs p q _ ((HXB.out.below HP6.out.blw).below hs3) ((HYB.out.below HP6.out.blw).below hs3)).mono ?_
    rintro e x4 ⟨rfl, hb⟩
    have hs4 : Below w6.heap.size w6 x4 := hs3.trans (Below.mono hb hs3.size)
    clear hb
    rw [HSM.out]
    clear hS
    refine hK.out _ _ (hs4) (fun hS => ?_)
    clear hK K
    try simp only [Act.put, List.setIfInBounds_toArray, List.set_cons_zero, List.set_cons_succ]
    refine wpAnyH_ready (rs := [46]) (by kernel_rfl) (by simp) (AllReadyH.cons rfl (fun K hK => ?_) AllReadyH.nil)
    rw [if_pos (by rfl)]
    go_wp2_with fail
    refine (r6Same_any a1 a2 n1 c1 n2 c2 (es.map Ex.two) (fs.map Ex.two) p q _ (HP6.out.below hs4).ch1 (HP6.out.below hs4).ch2).mono ?_
    rintro e x5 ⟨rfl, hb⟩
    have hs5 : Below w6.heap.size w6 x5 := hs4.trans (Below.mono hb hs4.size)
    clear hb
    rw [smR_map, HSM.out]
    clear hS
    refine hK.out _ _ (hs5) (fun hS => ?_)
    clear hK K
    try simp only [Act.put, List.setIfInBounds_toArray, List.set_cons_zero, List.set_cons_succ]
    refine tk 47 107 (.bool true) rfl rfl (by kernel_rfl) (by kernel_rfl) (by kernel_rfl) (fun _ _ _ h => h) (Or.inl ⟨by rfl, fun w' h' => ?_⟩) hS ?_
    · go_simp
    try simp only [Act.put, List.setIfInBounds_toArray, List.set_cons_zero, List.set_cons_succ]
    refine tk 48 108 (.bool true) rfl rfl (by kernel_rfl) (by kernel_rfl) (by kernel_rfl) (fun _ _ _ h => h) (Or.inl ⟨by rfl, fun w' h' => ?_⟩) hS ?_
    · go_simp
    try simp only [Act.put, List.setIfInBounds_toArray, List.set_cons_zero, List.set_cons_succ]
    refine tk 49 109 (.bool true) rfl rfl (by kernel_rfl) (by kernel_rfl) (by kernel_rfl) (fun _ _ _ h => h) (Or.inl ⟨by rfl, fun w' h' => ?_⟩) hS ?_
    · go_simp
    try simp only [Act.put, List.setIfInBounds_toArray, List.set_cons_zero, List.set_cons_succ]
    refine tk 50 110 (.agg ([Value.slice a n c, .int .u8 p]).toArray) rfl rfl (by kernel_rfl) (by kernel_rfl) (by kernel_rfl) (fun _ _ _ h => h) (yieldsIf_load_mid (by rfl) _ _ rfl (w.heap.size) (0) rfl ([Value.slice a n c, .int .u8 p]) _ (fun w' h' => range_kept (HP6.out.below h').blw HRR.out.1) Try.underlying46 rfl (infC2)) hS ?_
    try simp only [Act.put, List.setIfInBounds_toArray, List.set_cons_zero, List.set_cons_succ]
    refine tk 51 111 (.agg ([Value.slice a n c, .int .u8 p]).toArray) rfl rfl (by kernel_rfl) (by kernel_rfl) (by kernel_rfl) (fun _ _ _ h => h) (yieldsIf_load_mid (by rfl) _ _ rfl (w.heap.size) (0) rfl ([Value.slice a n c, .int .u8 p]) _ (fun w' h' => range_kept (HP6.out.below h').blw HRR.out.1) Try.underlying46 rfl (infC2)) hS ?_
    try simp only [Act.put, List.setIfInBounds_toArray, List.set_cons_zero, List.set_cons_succ]
    refine wpAnyH_ready (rs := [52]) (by kernel_rfl) (by simp) (AllReadyH.cons rfl (fun K hK => ?_) AllReadyH.nil)
    rw [if_pos (by rfl)]
    go_wp2_with fail
    refine (sxSame_any a a n c n c es es p p _ ((HXB.out.below HP6.out.blw).below hs5) ((HXB.out.below HP6.out.blw).below hs5)).mono ?_
    rintro e x6 ⟨rfl, hb⟩
    have hs6 : Below w6.heap.size w6 x6 := hs5.trans (Below.mono hb hs5.size)
    clear hb
    rw [smC_self]
    clear hS
    refine hK.out _ _ (hs6) (fun hS => ?_)
    clear hK K
    try simp only [Act.put, List.setIfInBounds_toArray, List.set_cons_zero, List.set_cons_succ]
    refine tk 53 113 (.bool true) rfl rfl (by kernel_rfl) (by kernel_rfl) (by kernel_rfl) (fun _ _ _ h => h) (Or.inl ⟨by rfl, fun w' h' => ?_⟩) hS ?_
    · go_simp
    try simp only [Act.put, List.setIfInBounds_toArray, List.set_cons_zero, List.set_cons_succ]
    refine tk 54 114 (.bool true) rfl rfl (by kernel_rfl) (by kernel_rfl) (by kernel_rfl) (fun _ _ _ h => h) (Or.inl ⟨by rfl, fun w' h' => ?_⟩) hS ?_
    · go_simp
    try simp only [Act.put, List.setIfInBounds_toArray, List.set_cons_zero, List.set_cons_succ]
    refine tk 55 115 (.agg ([Value.slice a n c, .int .u8 p]).toArray) rfl rfl (by kernel_rfl) (by kernel_rfl) (by kernel_rfl) (fun _ _ _ h => h) (yieldsIf_load_mid (by rfl) _ _ rfl (w.heap.size) (0) rfl ([Value.slice a n c, .int .u8 p]) _ (fun w' h' => range_kept (HP6.out.below h').blw HRR.out.1) Try.underlying46 rfl (infC2)) hS ?_
    try simp only [Act.put, List.setIfInBounds_toArray, List.set_cons_zero, List.set_cons_succ]
    refine tk 57 117 (.agg ([Value.slice a1 n1 c1, .int .u8 p]).toArray) rfl rfl (by kernel_rfl) (by kernel_rfl) (by kernel_rfl) (fun _ _ _ h => h) (yieldsIf_load_mid (by rfl) _ _ rfl (b5) (0) rfl ([Value.slice a1 n1 c1, .int .u8 p]) _ (fun w' h' => (HP6.out.below h').r5) Try.underlying50 rfl (infRC2)) hS ?_
    try simp only [Act.put, List.setIfInBounds_toArray, List.set_cons_zero, List.set_cons_succ]
    refine wpAnyH_ready (rs := [56]) (by kernel_rfl) (by simp) (AllReadyH.cons rfl (fun K hK => ?_) AllReadyH.nil)
    rw [if_pos (by rfl)]
    go_wp2_with fail
    refine (d6Chain_any a n c es p _ ((HXB.out.below HP6.out.blw).below hs6) HN20.out.1).mono ?_
    rintro e x7 ⟨hb, a9, n9, c9, rfl, ho9⟩
    have hs7 : Below w6.heap.size w6 x7 := hs6.trans (Below.mono hb hs6.size)
    have HC9 := Lib.hid (ho9.ch (okR HX.out))
    clear ho9
    clear hb
    clear hS
    refine hK.out _ _ (hs7) (fun hS => ?_)
    clear hK K
    try simp only [Act.put, List.setIfInBounds_toArray, List.set_cons_zero, List.set_cons_succ]
    refine wpAnyH_ready (rs := [58]) (by kernel_rfl) (by simp) (AllReadyH.cons rfl (fun K hK => ?_) AllReadyH.nil)
    rw [if_pos (by rfl)]
    go_wp2_with fail
    refine (r6Same_any a9 a1 n9 c9 n1 c1 (es.map Ex.two) (es.map Ex.two) p p _ HC9.out (HP6.out.below hs7).ch1).mono ?_
    rintro e x8 ⟨rfl, hb⟩
    have hs8 : Below w6.heap.size w6 x8 := hs7.trans (Below.mono hb hs7.size)
    clear hb
    rw [smR_map, smC_self]
    clear hS
    refine hK.out _ _ (hs8) (fun hS => ?_)
    clear hK K
    try simp only [Act.put, List.setIfInBounds_toArray, List.set_cons_zero, List.set_cons_succ]
    refine tk 59 119 (.bool true) rfl rfl (by kernel_rfl) (by kernel_rfl) (by kernel_rfl) (fun _ _ _ h => h) (Or.inl ⟨by rfl, fun w' h' => ?_⟩) hS ?_
    · go_simp
    try simp only [Act.put, List.setIfInBounds_toArray, List.set_cons_zero, List.set_cons_succ]
    refine tk 60 120 (.bool true) rfl rfl (by kernel_rfl) (by kernel_rfl) (by kernel_rfl) (fun _ _ _ h => h) (Or.inl ⟨by rfl, fun w' h' => ?_⟩) hS ?_
    · go_simp
    try simp only [Act.put, List.setIfInBounds_toArray, List.set_cons_zero, List.set_cons_succ]
    refine wpAnyH_ready (rs := [61]) (by kernel_rfl) (by simp) (AllReadyH.cons rfl (fun K hK => ?_) AllReadyH.nil)
    rw [if_pos (by rfl)]
    go_wp2_with fail
    refine (works6_any _).mono ?_
    rintro e x9 ⟨rfl, hb⟩
    have hs9 : Below w6.heap.size w6 x9 := hs8.trans (Below.mono hb hs8.size)
    clear hb
    clear hS
    refine hK.out _ _ (hs9) (fun hS => ?_)
    clear hK K
    try simp only [Act.put, List.setIfInBounds_toArray, List.set_cons_zero, List.set_cons_succ]
    refine tk 62 122 (.bool true) rfl rfl (by kernel_rfl) (by kernel_rfl) (by kernel_rfl) (fun _ _ _ h => h) (Or.inl ⟨by rfl, fun w' h' => ?_⟩) hS ?_
    · go_simp
    try simp only [Act.put, List.setIfInBounds_toArray, List.set_cons_zero, List.set_cons_succ]
    refine tk 63 4 (.bool true) rfl rfl (by kernel_rfl) (by kernel_rfl) (by kernel_rfl) (fun _ _ _ h => h) (Or.inl ⟨by rfl, fun w' h' => ?_⟩) hS ?_
    · go_simp
    have HBF := HB.out.trans ((HP6.out.below hs9).blw.mono HB.out.size)
    refine wpAnyH_done (by kernel_rfl) ?_ _
    go_wp2_with fail
    go_ret
    exact ⟨rfl, HBF⟩
end Go.Proofs.Ythipnkaghddbhaa

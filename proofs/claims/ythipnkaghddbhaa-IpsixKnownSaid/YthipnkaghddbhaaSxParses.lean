/-
  IpsixParses, walked: for bytes that lie where the slice leads the call answers true.
-/
import Derived.Test.YthipnkaghddbhaaSxParsesM
import Derived.Test.YthipnkaghddbhaaSxChains
namespace Go.Proofs.Ythipnkaghddbhaa
open Go.RowKit

theorem Fw.heap {w : World} {b : Nat} {o : Obj} (h : w.heap[b]? = some o) : Fw w (fun z => z.heap[b]? = some o) := fun _ hz => heap_kept hz h
theorem Fw.ownC {w : World} {base : Nat} {a : Option Addr} {n c : Nat} {es : List Ex} (h : OwnC w base a n c es) : Fw w (fun z => OwnC z base a n c es) := fun _ hz => h.keep hz
theorem Fw.chR {w : World} {a : Option Addr} {n c : Nat} {es : List (Int × List Int)} (h : ChR w a n c es) : Fw w (fun z => ChR z a n c es) := fun _ hz => h.below hz
theorem smR_same (l : List (Int × List Int)) (p : Int) : smR l l p p = true := by unfold smR; simp
theorem two_set {w : World} {b : Nat} {x y : Value} {t : TypeId} (h : w.heap[b]? = some (.cells #[x, y] t (0, 0))) (u v : Value) : (w.setCells b 0 [u, v]).heap[b]? = some (.cells #[u, v] t (0, 0)) := by
  have h1 := heap_setCell_same w b 0 _ _ u h
  exact heap_setCell_same _ b 1 _ _ v h1

set_option maxRecDepth 100000 in
set_option maxHeartbeats 8000000 in
theorem parses_any (F : Int) (a : Option Addr) (n c : Nat) (xs : List Int) (w : World) (F0 : 0 ≤ F) (F1 : F < 256) (hn : xs.length = n) (hc : n ≤ c) (hr : Rd w a xs) (hb : Byt xs) :
    Calls Try.prog 5 #[.int .u8 F, .slice a n c] w (Gives w (.bool true)) := by
  have HN := Lib.hid hn
  have HR := Lib.hid hr
  have HBY := Lib.hid hb
  clear hn hr hb
  by_cases hl : 3000 < n
  · go_enter Try.func5, Try.ntmps5
    go_wp2_with fail
    refine (works6_any _).mono ?_
    rintro e w1 ⟨rfl, hb1⟩
    have HB1 := Lib.hid hb1
    clear hb1
    go_wp2_with fail
    go_ret
    exact ⟨rfl, HB1.out⟩
  have hl' : n ≤ 3000 := by omega
  obtain ⟨V, hV⟩ : ∃ v, pcV F xs = v := ⟨_, rfl⟩
  have HV := Lib.hid hV
  obtain ⟨E, hE⟩ : ∃ v, V.1 = v := ⟨_, rfl⟩
  have HE := Lib.hid hE
  obtain ⟨P, hP⟩ : ∃ v, (pcW V).2.2.1 = v := ⟨_, rfl⟩
  have HP := Lib.hid hP
  obtain ⟨T, hT⟩ : ∃ v, (pcW V).2.2.2 = v := ⟨_, rfl⟩
  have HT := Lib.hid hT
  obtain ⟨Q, hQ⟩ : ∃ v, bdP xs = v := ⟨_, rfl⟩
  have HQ := Lib.hid hQ
  obtain ⟨E2, hE2⟩ : ∃ v, bdE xs = v := ⟨_, rfl⟩
  have HE2 := Lib.hid hE2
  clear hV hE hP hT hQ hE2
  go_enter Try.func5, Try.ntmps5
  go_wp2_with fail
  refine (kOwn_any a n c xs _ HN.out HR.out (by omega)).mono ?_
  rintro e w5 ⟨a5, n5, c5, rfl, ho5, hb5⟩
  have hn5 : n5 = n := by have h1 := ho5.len; have h2 := HN.out; omega
  subst hn5
  have HST0 : Hid (Below w.heap.size w w5 ∧ Own w5 w.heap.size a5 n5 c5 xs) := ⟨hb5, ho5⟩
  have hc5 : n5 ≤ c5 := ho5.le.1
  clear ho5 hb5
  go_wp2_with fail
  go_loopw [6] (fun i wr => ∃ t : Nat, t ≤ 2 ∧ i = .int .i64 t ∧ Hid (Below w.heap.size w wr ∧ Own wr w.heap.size a5 n5 c5 xs)) (fun i _ => 2 - (intOf i).toNat)
  case atStart => exact ⟨0, by omega, rfl, HST0.out⟩
  case round =>
    obtain ⟨t, ht, rfl, hst⟩ := hrel
    rename World => wr
    clear HST0
    by_cases hlt : t < 2
    · have hlt' : (t : Int) < 2 := by omega
      have HST := hst
      go_wp2_with fail
      refine (sxParseChain_any F a n5 c xs _ V F0 F1 HN.out (HR.out.below HST.out.1) HBY.out (by omega) HV.out.symm).mono ?_
      intro e w1 hp
      obtain ⟨hb1, es, ea, en, ec, rfl, hes, hoc, hk0, hk1⟩ := hp.one
      rw [HP.out, HT.out, HE.out]
      rw [HP.out] at hk0 hk1
      have HK := Lib.hid (And.intro hk0 hk1)
      have HES := Lib.hid hes
      have HEN : Hid (en ≤ 20) := by have := hoc.few; show _ ≤ _; omega
      obtain ⟨w2, hw2⟩ : ∃ y, w1.alloc (.cells #[.slice ea en ec, .int .u8 P] 46) = y := ⟨_, rfl⟩
      have hal : Below w1.heap.size w1 w2 := by rw [← hw2]; exact (Below.refl _ _).alloc (Nat.le_refl _) _
      have h7 : w2.heap[w1.heap.size]? = some (.cells #[.slice ea en ec, .int .u8 P] 46 (0, 0)) := by rw [← hw2]; exact Blk_new w1 _ _
      have hb2 : Below wr.heap.size wr w2 := hb1.trans (hal.mono hb1.size)
      have HF2 : Hid (Fw w2 (fun z => Below wr.heap.size wr z ∧ z.heap[w1.heap.size]? = some (.cells #[.slice ea en ec, .int .u8 P] 46 (0, 0)) ∧ OwnC z wr.heap.size ea en ec es)) := (Fw.blw hb2 hb2.size).and ((Fw.heap h7).and (Fw.ownC (hoc.keep hal)))
      have HW2 := Lib.hid hw2
      have HOKE := Lib.hid (okR hoc.ch)
      clear hp hb1 hes hoc hk0 hk1 hw2 hal h7 hb2
      go_upto_region 8 with fail
      rw [HW2.out]
      clear HW2
      go_wp2_with fail
      refine (r6ParseChain_any F a5 n5 c5 xs _ V F0 F1 HN.out (HST.out.2.blw HF2.out.here.1).rd HBY.out (by omega) hc5 HV.out.symm).mono ?_
      intro e w3 hp
      obtain ⟨hb3, ra, rn, rc, rfl, hor⟩ := hp.one
      rw [HP.out, HT.out, HE.out]
      obtain ⟨w4, hw4⟩ : ∃ y, w3.alloc (.cells #[.slice ra rn rc, .int .u8 P] 50) = y := ⟨_, rfl⟩
      have hal : Below w3.heap.size w3 w4 := by rw [← hw4]; exact (Below.refl _ _).alloc (Nat.le_refl _) _
      have hr10 : w4.rangeAt w3.heap.size 0 [.slice ra rn rc, .int .u8 P] := by rw [← hw4]; exact range_row2 (Blk_new w3 _ _)
      have hb4 : Below w2.heap.size w2 w4 := hb3.trans (hal.mono hb3.size)
      rw [← HES.out] at hor
      have HF4 := Lib.hid ((HF2.out.next hb4).and ((Fw.range hr10).and (Fw.chR ((hor.below hal).ch HOKE.out))))
      have HW4 := Lib.hid hw4
      clear hp hb3 hor hw4 hal hr10 hb4 HF2
      go_upto_region 9 with fail
      rw [HW4.out]
      clear HW4
      have hs0 : Below w4.heap.size w4 w4.drew := to_drew w4
      refine wp_region_held_drew (S := fun w' => Below w4.heap.size w4 w') (by kernel_rfl) hs0 (fun hS => ?_)
      refine tk 0 47 (.int .i64 E) rfl rfl (by kernel_rfl) (by kernel_rfl) (by kernel_rfl) (fun _ _ _ h => h) (Or.inl ⟨by rfl, fun w' h' => ?_⟩) hS ?_
      · go_simp
      try simp only [Act.put, List.setIfInBounds_toArray, List.set_cons_zero, List.set_cons_succ]
      refine tk 1 48 (.int .i64 E) rfl rfl (by kernel_rfl) (by kernel_rfl) (by kernel_rfl) (fun _ _ _ h => h) (Or.inl ⟨by rfl, fun w' h' => ?_⟩) hS ?_
      · go_simp
      try simp only [Act.put, List.setIfInBounds_toArray, List.set_cons_zero, List.set_cons_succ]
      refine tk 2 49 (.bool false) rfl rfl (by kernel_rfl) (by kernel_rfl) (by kernel_rfl) (fun _ _ _ h => h) (Or.inl ⟨by rfl, fun w' h' => ?_⟩) hS ?_
      · go_simp
      try simp only [Act.put, List.setIfInBounds_toArray, List.set_cons_zero, List.set_cons_succ]
      refine tk 3 50 (.bool false) rfl rfl (by kernel_rfl) (by kernel_rfl) (by kernel_rfl) (fun _ _ _ h => h) (Or.inl ⟨by rfl, fun w' h' => ?_⟩) hS ?_
      · go_simp
      try simp only [Act.put, List.setIfInBounds_toArray, List.set_cons_zero, List.set_cons_succ]
      refine tk 4 51 (.int .i64 T) rfl rfl (by kernel_rfl) (by kernel_rfl) (by kernel_rfl) (fun _ _ _ h => h) (Or.inl ⟨by rfl, fun w' h' => ?_⟩) hS ?_
      · go_simp
      try simp only [Act.put, List.setIfInBounds_toArray, List.set_cons_zero, List.set_cons_succ]
      refine tk 5 52 (.int .i64 T) rfl rfl (by kernel_rfl) (by kernel_rfl) (by kernel_rfl) (fun _ _ _ h => h) (Or.inl ⟨by rfl, fun w' h' => ?_⟩) hS ?_
      · go_simp
      try simp only [Act.put, List.setIfInBounds_toArray, List.set_cons_zero, List.set_cons_succ]
      refine tk 6 53 (.bool false) rfl rfl (by kernel_rfl) (by kernel_rfl) (by kernel_rfl) (fun _ _ _ h => h) (Or.inl ⟨by rfl, fun w' h' => ?_⟩) hS ?_
      · go_simp
      try simp only [Act.put, List.setIfInBounds_toArray, List.set_cons_zero, List.set_cons_succ]
      refine tk 7 54 (.bool false) rfl rfl (by kernel_rfl) (by kernel_rfl) (by kernel_rfl) (fun _ _ _ h => h) (Or.inl ⟨by rfl, fun w' h' => ?_⟩) hS ?_
      · go_simp
      try simp only [Act.put, List.setIfInBounds_toArray, List.set_cons_zero, List.set_cons_succ]
      refine tk 8 55 (.bool false) rfl rfl (by kernel_rfl) (by kernel_rfl) (by kernel_rfl) (fun _ _ _ h => h) (Or.inl ⟨by rfl, fun w' h' => ?_⟩) hS ?_
      · go_simp
      try simp only [Act.put, List.setIfInBounds_toArray, List.set_cons_zero, List.set_cons_succ]
      refine tk 9 56 (.agg ([Value.slice ea en ec, .int .u8 P]).toArray) rfl rfl (by kernel_rfl) (by kernel_rfl) (by kernel_rfl) (fun _ _ _ h => h) (yieldsIf_load_mid (by rfl) _ _ rfl (w1.heap.size) (0) rfl ([Value.slice ea en ec, .int .u8 P]) _ (fun w' h' => range_row2 (HF4.out w' h').1.2.1) Try.underlying46 rfl (infC2)) hS ?_
      try simp only [Act.put, List.setIfInBounds_toArray, List.set_cons_zero, List.set_cons_succ]
      refine tk 11 58 (.agg ([Value.slice ra rn rc, .int .u8 P]).toArray) rfl rfl (by kernel_rfl) (by kernel_rfl) (by kernel_rfl) (fun _ _ _ h => h) (yieldsIf_load_mid (by rfl) _ _ rfl (w3.heap.size) (0) rfl ([Value.slice ra rn rc, .int .u8 P]) _ (fun w' h' => (HF4.out w' h').2.1) Try.underlying50 rfl (infRC2)) hS ?_
      try simp only [Act.put, List.setIfInBounds_toArray, List.set_cons_zero, List.set_cons_succ]
      refine wpAnyH_ready (rs := [10]) (by kernel_rfl) (by simp) (AllReadyH.cons rfl (fun K hK => ?_) AllReadyH.nil)
      rw [if_pos (by rfl)]
      go_wp2_with fail
      refine (d6Chain_any ea en ec es P _ (HF4.out.next hs0).here.1.2.2.ch HEN.out).mono ?_
      rintro e x1 ⟨hb, a9, n9, c9, rfl, ho9⟩
      have hs1 : Below w4.heap.size w4 x1 := hs0.trans (Below.mono hb hs0.size)
      have HC9 := Lib.hid (ho9.ch HOKE.out)
      clear ho9
      clear hb
      clear hS
      refine hK.out _ _ (hs1) (fun hS => ?_)
      clear hK K
      try simp only [Act.put, List.setIfInBounds_toArray, List.set_cons_zero, List.set_cons_succ]
      refine wpAnyH_ready (rs := [12]) (by kernel_rfl) (by simp) (AllReadyH.cons rfl (fun K hK => ?_) AllReadyH.nil)
      rw [if_pos (by rfl)]
      go_wp2_with fail
      refine (r6Same_any a9 ra n9 c9 rn rc (es.map Ex.two) (es.map Ex.two) P P _ HC9.out (HF4.out.next hs1).here.2.2).mono ?_
      rintro e x2 ⟨rfl, hb⟩
      have hs2 : Below w4.heap.size w4 x2 := hs1.trans (Below.mono hb hs1.size)
      clear hb
      rw [smR_same]
      clear hS
      refine hK.out _ _ (hs2) (fun hS => ?_)
      clear hK K
      try simp only [Act.put, List.setIfInBounds_toArray, List.set_cons_zero, List.set_cons_succ]
      refine tk 13 60 (.bool false) rfl rfl (by kernel_rfl) (by kernel_rfl) (by kernel_rfl) (fun _ _ _ h => h) (Or.inl ⟨by rfl, fun w' h' => ?_⟩) hS ?_
      · go_simp
      try simp only [Act.put, List.setIfInBounds_toArray, List.set_cons_zero, List.set_cons_succ]
      refine tk 14 61 (.bool false) rfl rfl (by kernel_rfl) (by kernel_rfl) (by kernel_rfl) (fun _ _ _ h => h) (Or.inl ⟨by rfl, fun w' h' => ?_⟩) hS ?_
      · go_simp
      refine wpAnyH_done (by kernel_rfl) ?_ _
      have HF5 := Lib.hid (HF4.out.next hs2)
      clear HF4 hS hs0
      go_wp2_with fail
      refine (sxBody_any a n5 c xs _ HN.out (HR.out.below (HST.out.1.trans (HF5.out.here.1.1.mono HST.out.1.size))) HBY.out (by omega) hc).mono ?_
      intro e w6 hp
      obtain ⟨hb6, fs, fa, fn, fc, ba, bn, bc, rfl, hfs, hfc, hq, hob⟩ := hp.one
      rw [HQ.out, HE2.out]
      rw [HQ.out] at hq
      have HOH := Lib.hid (bdH_ok HBY.out)
      have HIH : Hid ((Try.prog.info? 26).map (·.size) = some (bdH xs).cs.length) := by show _ = _; rw [HOH.out.len]; exact inf6
      have HNEA : Hid (w6.heap.size ≠ w6.heap.size + 1) := by show _ ≠ _; omega
      have HPA : Hid (Below w6.heap.size w6 (((w6.alloc (.cells h60.cs.toArray 26)).alloc (.cells #[.slice none 0 0, .int .u8 0] 46)).setCells w6.heap.size 0 ((bdH xs).cs)) ∧ (((w6.alloc (.cells h60.cs.toArray 26)).alloc (.cells #[.slice none 0 0, .int .u8 0] 46)).setCells w6.heap.size 0 ((bdH xs).cs)).rangeAt w6.heap.size 0 ((bdH xs).cs) ∧ (((w6.alloc (.cells h60.cs.toArray 26)).alloc (.cells #[.slice none 0 0, .int .u8 0] 46)).setCells w6.heap.size 0 ((bdH xs).cs)).heap[w6.heap.size + 1]? = some (.cells #[.slice none 0 0, .int .u8 0] 46 (0, 0)) ∧ ((w6.alloc (.cells h60.cs.toArray 26)).alloc (.cells #[.slice none 0 0, .int .u8 0] 46)).there w6.heap.size 0 ((bdH xs).cs).length) := by
        obtain ⟨wa, hwa⟩ : ∃ y, w6.alloc (.cells h60.cs.toArray 26) = y := ⟨_, rfl⟩
        have ha : Below w6.heap.size w6 wa := by rw [← hwa]; exact (Below.refl _ _).alloc (Nat.le_refl _) _
        have hta : wa.there w6.heap.size 0 ((bdH xs).cs).length := by rw [← hwa]; exact there_new _ _ _ _ (by rw [HOH.out.len]; rfl) _ rfl
        have hsa : wa.heap.size = w6.heap.size + 1 := by rw [← hwa]; simp
        obtain ⟨wb, hwb⟩ : ∃ y, wa.alloc (.cells #[.slice none 0 0, .int .u8 0] 46) = y := ⟨_, rfl⟩
        have hb : Below wa.heap.size wa wb := by rw [← hwb]; exact (Below.refl _ _).alloc (Nat.le_refl _) _
        have hbl : wb.heap[w6.heap.size + 1]? = some (.cells #[.slice none 0 0, .int .u8 0] 46 (0, 0)) := by rw [← hwb, ← hsa]; exact Blk_new wa _ _
        rw [hwa, hwb]
        have htb := there_kept hb hta
        exact ⟨Below.setCells (ha.trans (hb.mono ha.size)) _ (Nat.le_refl _) _ _, World.rangeAt_setCells_same _ _ _ _ htb, (Kept.setCells w6.heap.size ((bdH xs).cs) 0 wb (Kept.refl _ _)).heap hbl (by omega), htb⟩
      go_upto_region 12 with (first
        | (refine stN (fun w' => Hid (Below w6.heap.size w6 w' ∧ w'.rangeAt w6.heap.size 0 ((bdH xs).cs) ∧ w'.heap[w6.heap.size + 1]? = some (.cells #[.slice none 0 0, .int .u8 0] 46 (0, 0)))) 26 (.tmp 13) (.tmp 65) rfl rfl w6.heap.size 0 ((bdH xs).cs) rfl rfl HPA.out.2.2.2 HIH.out (H6.one _) ⟨HPA.out.1, HPA.out.2.1, HPA.out.2.2.1⟩ ?_; intro wyA HYA)
        | (refine stN (fun w' => Hid (Below w6.heap.size w6 w' ∧ w'.rangeAt w6.heap.size 0 ((bdH xs).cs) ∧ w'.heap[w6.heap.size + 1]? = some (.cells #[.slice fa fn fc, .int .u8 Q] 46 (0, 0)))) 46 (.tmp 14) (.tmp 66) rfl rfl (w6.heap.size + 1) 0 [.slice fa fn fc, .int .u8 Q] rfl rfl (row_there HYA.out.2.2 2 rfl) infC2 (cch_one _ _ _ _) ⟨Below.setCells HYA.out.1 _ (Nat.le_succ _) _ _, World.rangeAt_setCells_apart HYA.out.2.1 _ _ _ (.inl HNEA.out), two_set HYA.out.2.2 _ _⟩ ?_; intro wzA HZA))
      have hbz := hb6.trans (HZA.out.1.mono hb6.size)
      have hx2 : wr.heap.size ≤ x2.heap.size := HF5.out.here.1.1.size
      have HF7 := Lib.hid (((HF5.out.next hbz).and ((Fw.range HZA.out.2.1).and (Fw.heap HZA.out.2.2))).and ((Fw.ownC ((hfc.keep HZA.out.1).mono hx2)).and (Fw.own ((hob.blw HZA.out.1).mono hx2))))
      have HOKF := Lib.hid (okR hfc.ch)
      have HFS := Lib.hid hfs
      have HQQ := Lib.hid hq
      have HFN : Hid (fn ≤ 20) := by have := hfc.few; show _ ≤ _; omega
      have HBL := Lib.hid hob.len
      clear hp hb6 hfs hfc hq hob hbz hx2 HF5 HPA HYA HZA
      go_wp2_with fail
      refine (r6Body_any a5 n5 c5 xs _ HN.out (HST.out.2.blw HF7.out.here.1.1.1.1).rd HBY.out (by omega) hc5).mono ?_
      intro e w8 hp
      obtain ⟨hb8, ga, gn, gc, rb, rm, rq, rfl, hog, hlr, hrr⟩ := hp.one
      rw [HQ.out, HE2.out]
      have HGL : Hid ((bdG xs).length = 7) := by show _ = _; unfold bdG; split <;> rfl
      have HG1 : Hid (∀ v ∈ bdG xs, v.oneCell' = true) := by unfold bdG; split; exact r6c_one _; exact r60_one
      have HIG : Hid ((Try.prog.info? 30).map (·.size) = some (bdG xs).length) := by show _ = _; rw [HGL.out]; exact infR6
      have HNEB : Hid (w8.heap.size ≠ w8.heap.size + 1) := by show _ ≠ _; omega
      have HPB : Hid (Below w8.heap.size w8 (((w8.alloc (.cells r60.toArray 30)).alloc (.cells #[.slice none 0 0, .int .u8 0] 50)).setCells w8.heap.size 0 (bdG xs)) ∧ (((w8.alloc (.cells r60.toArray 30)).alloc (.cells #[.slice none 0 0, .int .u8 0] 50)).setCells w8.heap.size 0 (bdG xs)).rangeAt w8.heap.size 0 (bdG xs) ∧ (((w8.alloc (.cells r60.toArray 30)).alloc (.cells #[.slice none 0 0, .int .u8 0] 50)).setCells w8.heap.size 0 (bdG xs)).heap[w8.heap.size + 1]? = some (.cells #[.slice none 0 0, .int .u8 0] 50 (0, 0)) ∧ ((w8.alloc (.cells r60.toArray 30)).alloc (.cells #[.slice none 0 0, .int .u8 0] 50)).there w8.heap.size 0 (bdG xs).length) := by
        obtain ⟨wa, hwa⟩ : ∃ y, w8.alloc (.cells r60.toArray 30) = y := ⟨_, rfl⟩
        have ha : Below w8.heap.size w8 wa := by rw [← hwa]; exact (Below.refl _ _).alloc (Nat.le_refl _) _
        have hta : wa.there w8.heap.size 0 (bdG xs).length := by rw [← hwa]; exact there_new _ _ _ _ (by rw [HGL.out]; rfl) _ rfl
        have hsa : wa.heap.size = w8.heap.size + 1 := by rw [← hwa]; simp
        obtain ⟨wb, hwb⟩ : ∃ y, wa.alloc (.cells #[.slice none 0 0, .int .u8 0] 50) = y := ⟨_, rfl⟩
        have hb : Below wa.heap.size wa wb := by rw [← hwb]; exact (Below.refl _ _).alloc (Nat.le_refl _) _
        have hbl : wb.heap[w8.heap.size + 1]? = some (.cells #[.slice none 0 0, .int .u8 0] 50 (0, 0)) := by rw [← hwb, ← hsa]; exact Blk_new wa _ _
        rw [hwa, hwb]
        have htb := there_kept hb hta
        exact ⟨Below.setCells (ha.trans (hb.mono ha.size)) _ (Nat.le_refl _) _ _, World.rangeAt_setCells_same _ _ _ _ htb, (Kept.setCells w8.heap.size (bdG xs) 0 wb (Kept.refl _ _)).heap hbl (by omega), htb⟩
      go_upto_region 13 with (first
        | (refine stN (fun w' => Hid (Below w8.heap.size w8 w' ∧ w'.rangeAt w8.heap.size 0 (bdG xs) ∧ w'.heap[w8.heap.size + 1]? = some (.cells #[.slice none 0 0, .int .u8 0] 50 (0, 0)))) 30 (.tmp 17) (.tmp 72) rfl rfl w8.heap.size 0 (bdG xs) rfl rfl HPB.out.2.2.2 HIG.out (HG1.out) ⟨HPB.out.1, HPB.out.2.1, HPB.out.2.2.1⟩ ?_; intro wyB HYB)
        | (refine stN (fun w' => Hid (Below w8.heap.size w8 w' ∧ w'.rangeAt w8.heap.size 0 (bdG xs) ∧ w'.heap[w8.heap.size + 1]? = some (.cells #[.slice ga gn gc, .int .u8 Q] 50 (0, 0)))) 50 (.tmp 18) (.tmp 73) rfl rfl (w8.heap.size + 1) 0 [.slice ga gn gc, .int .u8 Q] rfl rfl (row_there HYB.out.2.2 2 rfl) infRC2 (cch_one _ _ _ _) ⟨Below.setCells HYB.out.1 _ (Nat.le_succ _) _ _, World.rangeAt_setCells_apart HYB.out.2.1 _ _ _ (.inl HNEB.out), two_set HYB.out.2.2 _ _⟩ ?_; intro wzB HZB))
      have hbz := hb8.trans (HZB.out.1.mono hb8.size)
      rw [← HFS.out] at hog
      have HF9 := Lib.hid ((HF7.out.next hbz).and (((Fw.range HZB.out.2.1).and (Fw.heap HZB.out.2.2)).and ((Fw.chR ((hog.below HZB.out.1).ch HOKF.out)).and (Fw.rd (hrr.below HZB.out.1)))))
      have HRL := Lib.hid hlr
      have HXB := Lib.hid (bdX_byt HBY.out)
      have HXL : Hid ((bdX xs).length ≤ 3000) := by have h1 := bdX_len (xs := xs); have h2 := HN.out; show _ ≤ _; omega
      clear hp hb8 hog hlr hrr hbz HF7 HPB HYB HZB
      have hs0 : Below wzB.heap.size wzB wzB.drew := to_drew wzB
      refine wp_region_held_drew (S := fun w' => Below wzB.heap.size wzB w') (by kernel_rfl) hs0 (fun hS => ?_)
      refine tk 0 76 (.int .i64 E2) rfl rfl (by kernel_rfl) (by kernel_rfl) (by kernel_rfl) (fun _ _ _ h => h) (Or.inl ⟨by rfl, fun w' h' => ?_⟩) hS ?_
      · go_simp
      try simp only [Act.put, List.setIfInBounds_toArray, List.set_cons_zero, List.set_cons_succ]
      refine tk 1 77 (.int .i64 E2) rfl rfl (by kernel_rfl) (by kernel_rfl) (by kernel_rfl) (fun _ _ _ h => h) (Or.inl ⟨by rfl, fun w' h' => ?_⟩) hS ?_
      · go_simp
      try simp only [Act.put, List.setIfInBounds_toArray, List.set_cons_zero, List.set_cons_succ]
      refine tk 2 78 (.bool false) rfl rfl (by kernel_rfl) (by kernel_rfl) (by kernel_rfl) (fun _ _ _ h => h) (Or.inl ⟨by rfl, fun w' h' => ?_⟩) hS ?_
      · go_simp
      try simp only [Act.put, List.setIfInBounds_toArray, List.set_cons_zero, List.set_cons_succ]
      refine tk 3 79 (.bool false) rfl rfl (by kernel_rfl) (by kernel_rfl) (by kernel_rfl) (fun _ _ _ h => h) (Or.inl ⟨by rfl, fun w' h' => ?_⟩) hS ?_
      · go_simp
      try simp only [Act.put, List.setIfInBounds_toArray, List.set_cons_zero, List.set_cons_succ]
      refine tk 4 80 (.agg ((bdH xs).cs).toArray) rfl rfl (by kernel_rfl) (by kernel_rfl) (by kernel_rfl) (fun _ _ _ h => h) (yieldsIf_load_mid (by rfl) _ _ rfl (w6.heap.size) (0) rfl ((bdH xs).cs) _ (fun w' h' => (HF9.out w' h').1.1.2.1) Try.underlying26 rfl (HIH.out)) hS ?_
      try simp only [Act.put, List.setIfInBounds_toArray, List.set_cons_zero, List.set_cons_succ]
      refine tk 6 82 (.agg (bdG xs).toArray) rfl rfl (by kernel_rfl) (by kernel_rfl) (by kernel_rfl) (fun _ _ _ h => h) (yieldsIf_load_mid (by rfl) _ _ rfl (w8.heap.size) (0) rfl (bdG xs) _ (fun w' h' => (HF9.out w' h').2.1.1) Try.underlying30 rfl (HIG.out)) hS ?_
      try simp only [Act.put, List.setIfInBounds_toArray, List.set_cons_zero, List.set_cons_succ]
      refine wpAnyH_ready (rs := [5]) (by kernel_rfl) (by simp) (AllReadyH.cons rfl (fun K hK => ?_) AllReadyH.nil)
      rw [if_pos (by rfl)]
      go_wp2_with fail
      refine (d6Ipsix_any (bdH xs) _ HOH.out).mono ?_
      rintro e x1 ⟨rfl, hb⟩
      have hs1 : Below wzB.heap.size wzB x1 := hs0.trans (Below.mono hb hs0.size)
      clear hb
      clear hS
      refine hK.out _ _ (hs1) (fun hS => ?_)
      clear hK K
      try simp only [Act.put, List.setIfInBounds_toArray, List.set_cons_zero, List.set_cons_succ]
      refine wpAnyH_ready (rs := [7]) (by kernel_rfl) (by simp) (AllReadyH.cons rfl (fun K hK => ?_) AllReadyH.nil)
      rw [if_pos (by rfl)]
      go_wp2_with fail
      refine (nobd xs HBY.out _).mono ?_
      rintro e x2 ⟨rfl, hb⟩
      have hs2 : Below wzB.heap.size wzB x2 := hs1.trans (Below.mono hb hs1.size)
      clear hb
      clear hS
      refine hK.out _ _ (hs2) (fun hS => ?_)
      clear hK K
      try simp only [Act.put, List.setIfInBounds_toArray, List.set_cons_zero, List.set_cons_succ]
      refine tk 8 84 (.bool false) rfl rfl (by kernel_rfl) (by kernel_rfl) (by kernel_rfl) (fun _ _ _ h => h) (Or.inl ⟨by rfl, fun w' h' => ?_⟩) hS ?_
      · exact exec_eqr6 (h := bdH xs) rfl rfl rfl
      try simp only [Act.put, List.setIfInBounds_toArray, List.set_cons_zero, List.set_cons_succ]
      refine tk 9 85 (.bool false) rfl rfl (by kernel_rfl) (by kernel_rfl) (by kernel_rfl) (fun _ _ _ h => h) (Or.inl ⟨by rfl, fun w' h' => ?_⟩) hS ?_
      · go_simp
      try simp only [Act.put, List.setIfInBounds_toArray, List.set_cons_zero, List.set_cons_succ]
      refine tk 10 86 (.bool false) rfl rfl (by kernel_rfl) (by kernel_rfl) (by kernel_rfl) (fun _ _ _ h => h) (Or.inl ⟨by rfl, fun w' h' => ?_⟩) hS ?_
      · go_simp
      try simp only [Act.put, List.setIfInBounds_toArray, List.set_cons_zero, List.set_cons_succ]
      refine tk 11 87 (.agg ([Value.slice fa fn fc, .int .u8 Q]).toArray) rfl rfl (by kernel_rfl) (by kernel_rfl) (by kernel_rfl) (fun _ _ _ h => h) (yieldsIf_load_mid (by rfl) _ _ rfl (w6.heap.size + 1) (0) rfl ([Value.slice fa fn fc, .int .u8 Q]) _ (fun w' h' => range_row2 (HF9.out w' h').1.1.2.2) Try.underlying46 rfl (infC2)) hS ?_
      try simp only [Act.put, List.setIfInBounds_toArray, List.set_cons_zero, List.set_cons_succ]
      refine tk 13 89 (.agg ([Value.slice ga gn gc, .int .u8 Q]).toArray) rfl rfl (by kernel_rfl) (by kernel_rfl) (by kernel_rfl) (fun _ _ _ h => h) (yieldsIf_load_mid (by rfl) _ _ rfl (w8.heap.size + 1) (0) rfl ([Value.slice ga gn gc, .int .u8 Q]) _ (fun w' h' => range_row2 (HF9.out w' h').2.1.2) Try.underlying50 rfl (infRC2)) hS ?_
      try simp only [Act.put, List.setIfInBounds_toArray, List.set_cons_zero, List.set_cons_succ]
      refine wpAnyH_ready (rs := [12]) (by kernel_rfl) (by simp) (AllReadyH.cons rfl (fun K hK => ?_) AllReadyH.nil)
      rw [if_pos (by rfl)]
      go_wp2_with fail
      refine (d6Chain_any fa fn fc fs Q _ (HF9.out.next hs2).here.1.2.1.ch HFN.out).mono ?_
      rintro e x3 ⟨hb, a9, n9, c9, rfl, ho9⟩
      have hs3 : Below wzB.heap.size wzB x3 := hs2.trans (Below.mono hb hs2.size)
      have HC9 := Lib.hid (ho9.ch HOKF.out)
      clear ho9
      clear hb
      clear hS
      refine hK.out _ _ (hs3) (fun hS => ?_)
      clear hK K
      try simp only [Act.put, List.setIfInBounds_toArray, List.set_cons_zero, List.set_cons_succ]
      refine wpAnyH_ready (rs := [14]) (by kernel_rfl) (by simp) (AllReadyH.cons rfl (fun K hK => ?_) AllReadyH.nil)
      rw [if_pos (by rfl)]
      go_wp2_with fail
      refine (r6Same_any a9 ga n9 c9 gn gc (fs.map Ex.two) (fs.map Ex.two) Q Q _ HC9.out (HF9.out.next hs3).here.2.2.1).mono ?_
      rintro e x4 ⟨rfl, hb⟩
      have hs4 : Below wzB.heap.size wzB x4 := hs3.trans (Below.mono hb hs3.size)
      clear hb
      rw [smR_same]
      clear hS
      refine hK.out _ _ (hs4) (fun hS => ?_)
      clear hK K
      try simp only [Act.put, List.setIfInBounds_toArray, List.set_cons_zero, List.set_cons_succ]
      refine tk 15 91 (.bool false) rfl rfl (by kernel_rfl) (by kernel_rfl) (by kernel_rfl) (fun _ _ _ h => h) (Or.inl ⟨by rfl, fun w' h' => ?_⟩) hS ?_
      · go_simp
      try simp only [Act.put, List.setIfInBounds_toArray, List.set_cons_zero, List.set_cons_succ]
      refine tk 16 92 (.bool false) rfl rfl (by kernel_rfl) (by kernel_rfl) (by kernel_rfl) (fun _ _ _ h => h) (Or.inl ⟨by rfl, fun w' h' => ?_⟩) hS ?_
      · go_simp
      try simp only [Act.put, List.setIfInBounds_toArray, List.set_cons_zero, List.set_cons_succ]
      refine tk 17 93 (.bool false) rfl rfl (by kernel_rfl) (by kernel_rfl) (by kernel_rfl) (fun _ _ _ h => h) (Or.inl ⟨by rfl, fun w' h' => ?_⟩) hS ?_
      · go_simp
      try simp only [Act.put, List.setIfInBounds_toArray, List.set_cons_zero, List.set_cons_succ]
      refine tk 18 94 (.slice ba bn bc) rfl rfl (by kernel_rfl) (by kernel_rfl) (by kernel_rfl) (fun _ _ _ h => h) (Or.inl ⟨by rfl, fun w' h' => ?_⟩) hS ?_
      · go_simp
      try simp only [Act.put, List.setIfInBounds_toArray, List.set_cons_zero, List.set_cons_succ]
      refine tk 19 95 (.slice rb rm rq) rfl rfl (by kernel_rfl) (by kernel_rfl) (by kernel_rfl) (fun _ _ _ h => h) (Or.inl ⟨by rfl, fun w' h' => ?_⟩) hS ?_
      · go_simp
      try simp only [Act.put, List.setIfInBounds_toArray, List.set_cons_zero, List.set_cons_succ]
      refine wpAnyH_ready (rs := [20]) (by kernel_rfl) (by simp) (AllReadyH.cons rfl (fun K hK => ?_) AllReadyH.nil)
      rw [if_pos (by rfl)]
      go_wp2_with fail
      refine (kSame_any ba rb bn bc rm rq (bdX xs) (bdX xs) _ HBL.out HRL.out (HF9.out.next hs4).here.1.2.2.rd (HF9.out.next hs4).here.2.2.2 (by have h1 := HBL.out; have h2 := HXL.out; omega) (by have h1 := HRL.out; have h2 := HXL.out; omega)).mono ?_
      rintro e x5 ⟨rfl, m5, hx5⟩
      rw [decide_eq_true rfl]
      have hs5 : Below wzB.heap.size wzB x5 := by rw [hx5]; exact below_drewN hs4 m5
      clear hx5
      clear hS
      refine hK.out _ _ (hs5) (fun hS => ?_)
      clear hK K
      try simp only [Act.put, List.setIfInBounds_toArray, List.set_cons_zero, List.set_cons_succ]
      refine tk 21 97 (.bool false) rfl rfl (by kernel_rfl) (by kernel_rfl) (by kernel_rfl) (fun _ _ _ h => h) (Or.inl ⟨by rfl, fun w' h' => ?_⟩) hS ?_
      · go_simp
      try simp only [Act.put, List.setIfInBounds_toArray, List.set_cons_zero, List.set_cons_succ]
      refine tk 22 98 (.bool false) rfl rfl (by kernel_rfl) (by kernel_rfl) (by kernel_rfl) (fun _ _ _ h => h) (Or.inl ⟨by rfl, fun w' h' => ?_⟩) hS ?_
      · go_simp
      refine wpAnyH_done (by kernel_rfl) ?_ _
      have HFX := Lib.hid (HF9.out.next hs5)
      clear HF9 hS hs0
      have HL21 : Hid (es.length = en) := HFX.out.here.1.1.1.1.2.2.len
      have HL22 : Hid (fs.length = fn) := HFX.out.here.1.2.1.len
      have HFE : Hid (∀ x ∈ es, x.n ≤ 2046) := fun x hx => (HFX.out.here.1.1.1.1.2.2.exts x hx).few
      have HFF : Hid (∀ x ∈ fs, x.n ≤ 2046) := fun x hx => (HFX.out.here.1.2.1.exts x hx).few
      have hen20 : en ≤ 20 := HEN.out
      have hfn20 : fn ≤ 20 := HFN.out
      have HSP : Hid (SpI wr.heap.size wr w1.heap.size (w6.heap.size + 1) ea en ec es P fa fn fc fs Q x5) := ⟨HFX.out.here.1.1.1.1.1, HFX.out.here.1.1.1.1.2.1, HFX.out.here.1.1.2.2, HFX.out.here.1.1.1.1.2.2.row, HFX.out.here.1.2.1.row, fun x hx => ⟨_, (HFX.out.here.1.1.1.1.2.2.exts x hx).own⟩, fun x hx => ⟨_, (HFX.out.here.1.2.1.exts x hx).own⟩⟩
      go_wp2_with fail
      refine (kSpoil_inv wr.heap.size ba bn bc (bdX xs) _ HFX.out.here.1.2.2 (by have h1 := HBL.out; have h2 := HXL.out; omega) (SpI wr.heap.size wr w1.heap.size (w6.heap.size + 1) ea en ec es P fa fn fc fs Q) HSP.out (fun z g' j' y hz h ho => by obtain ⟨zs', ho'⟩ := ho; rw [hz] at ho'; exact h.set g' j' y ho')).mono ?_
      rintro e x6 ⟨rfl, hsp6⟩
      have HS21 := Lib.hid hsp6
      clear hsp6 HSP HFX
      go_wp2_with fail
      go_loopw [21] (fun i wz => ∃ j : Nat, j ≤ en ∧ i = .int .i64 j ∧ Hid (SpI wr.heap.size wr w1.heap.size (w6.heap.size + 1) ea en ec es P fa fn fc fs Q wz)) (fun i _ => en - (intOf i).toNat)
      case atStart => exact ⟨0, Nat.zero_le _, rfl, HS21.out⟩
      case round =>
        obtain ⟨j, hj, rfl, hsp⟩ := hrel
        rename World => wz
        clear HS21
        have hq0 : wz.cell? ⟨w1.heap.size, 0, none⟩ = some (.slice ea en ec) := by rw [cell_of_row wz _ 0 _ _ (0, 0) hsp.out.h7]; rfl
        by_cases hjl : j < en
        · have hjl' : (j : Int) < (en : Int) := by omega
          obtain ⟨x, hx⟩ : ∃ x, es[j]? = some x := ⟨_, List.getElem?_eq_getElem (by rw [HL21.out]; exact hjl)⟩
          obtain ⟨g, hg, hcl⟩ := hsp.out.re.cell (by intro e; have h1 := flat_two xcs (fun _ => rfl) es j x hx 0 (by omega); rw [e] at h1; simp [xcs] at h1)
          have hc1 : wz.cell? ⟨g, 0 + j * 2 + 1, none⟩ = some (.slice x.a x.n x.c) := hcl (j * 2 + 1) (.slice x.a x.n x.c) (by rw [flat_two xcs (fun _ => rfl) es j x hx 1 (by omega)]; rfl)
          have hc2 : wz.cell? ⟨g, j * 2 + 1, none⟩ = some (.slice x.a x.n x.c) := by rw [Nat.zero_add] at hc1; exact hc1
          have hxm := List.mem_of_getElem? hx
          obtain ⟨zs, hzs⟩ := hsp.out.de x hxm
          have HZS := Lib.hid hzs
          have hfw := HFE.out x hxm
          have hcn : (en : Int) ≤ (ec : Int) := by have h1 := hsp.out.re.le.1; omega
          have HG := Lib.hid hg
          rw [hg] at hq0
          clear hcl hxm hzs hx hg
          go_wp2_with fail
          refine (kSpoil_inv wr.heap.size x.a x.n x.c zs _ HZS.out (by omega) (SpI wr.heap.size wr w1.heap.size (w6.heap.size + 1) ea en ec es P fa fn fc fs Q) hsp.out (fun z g' j' y hz h ho => by obtain ⟨zs', ho'⟩ := ho; rw [hz] at ho'; exact h.set g' j' y ho')).mono ?_
          rintro e wn ⟨rfl, hn⟩
          have HNX := Lib.hid hn
          clear hn hq0 hc1 hc2
          go_wp2_with fail
          go_roundw
          case rel => exact ⟨j + 1, by omega, by go_num, HNX.out⟩
          case measure => simp [intOf]; omega
        · obtain rfl : en = j := by omega
          have HS22 := hsp
          clear hsp
          go_wp2_with fail
          clear hq0
          go_loopw [22] (fun i wz => ∃ j : Nat, j ≤ fn ∧ i = .int .i64 j ∧ Hid (SpI wr.heap.size wr w1.heap.size (w6.heap.size + 1) ea en ec es P fa fn fc fs Q wz)) (fun i _ => fn - (intOf i).toNat)
          case atStart => exact ⟨0, Nat.zero_le _, rfl, HS22.out⟩
          case round =>
            obtain ⟨j, hj, rfl, hsp⟩ := hrel
            rename World => wz
            clear HS22
            have hq0 : wz.cell? ⟨w6.heap.size + 1, 0, none⟩ = some (.slice fa fn fc) := by rw [cell_of_row wz _ 0 _ _ (0, 0) hsp.out.h14]; rfl
            by_cases hjl : j < fn
            · have hjl' : (j : Int) < (fn : Int) := by omega
              obtain ⟨x, hx⟩ : ∃ x, fs[j]? = some x := ⟨_, List.getElem?_eq_getElem (by rw [HL22.out]; exact hjl)⟩
              obtain ⟨g, hg, hcl⟩ := hsp.out.rf.cell (by intro e; have h1 := flat_two xcs (fun _ => rfl) fs j x hx 0 (by omega); rw [e] at h1; simp [xcs] at h1)
              have hc1 : wz.cell? ⟨g, 0 + j * 2 + 1, none⟩ = some (.slice x.a x.n x.c) := hcl (j * 2 + 1) (.slice x.a x.n x.c) (by rw [flat_two xcs (fun _ => rfl) fs j x hx 1 (by omega)]; rfl)
              have hc2 : wz.cell? ⟨g, j * 2 + 1, none⟩ = some (.slice x.a x.n x.c) := by rw [Nat.zero_add] at hc1; exact hc1
              have hxm := List.mem_of_getElem? hx
              obtain ⟨zs, hzs⟩ := hsp.out.df x hxm
              have HZS := Lib.hid hzs
              have hfw := HFF.out x hxm
              have hcn : (fn : Int) ≤ (fc : Int) := by have h1 := hsp.out.rf.le.1; omega
              have HG := Lib.hid hg
              rw [hg] at hq0
              clear hcl hxm hzs hx hg
              go_wp2_with fail
              refine (kSpoil_inv wr.heap.size x.a x.n x.c zs _ HZS.out (by omega) (SpI wr.heap.size wr w1.heap.size (w6.heap.size + 1) ea en ec es P fa fn fc fs Q) hsp.out (fun z g' j' y hz h ho => by obtain ⟨zs', ho'⟩ := ho; rw [hz] at ho'; exact h.set g' j' y ho')).mono ?_
              rintro e wn ⟨rfl, hn⟩
              have HNX := Lib.hid hn
              clear hn hq0 hc1 hc2
              go_wp2_with fail
              go_roundw
              case rel => exact ⟨j + 1, by omega, by go_num, HNX.out⟩
              case measure => simp [intOf]; omega
            · obtain rfl : fn = j := by omega
              have HSE := hsp
              clear hsp
              go_wp2_with fail
              go_roundw
              case rel => exact ⟨t + 1, by omega, by go_num, HST.out.1.trans (HSE.out.blw.mono HST.out.1.size), HST.out.2.blw HSE.out.blw⟩
              case measure => simp [intOf]; omega
    · have HSF := hst
      go_wp2_with fail
      refine (kSame_any a5 a n5 c5 n5 c xs xs _ HN.out HN.out HSF.out.2.rd (HR.out.below HSF.out.1) (by omega) (by omega)).mono ?_
      rintro e wq ⟨rfl, mq, hwq⟩
      rw [decide_eq_true rfl]
      have HBQ : Hid (Below w.heap.size w wq) := by show Below _ _ _; rw [hwq]; exact below_drewN HSF.out.1 mq
      clear hwq
      go_wp2_with fail
      refine (works6_any _).mono ?_
      rintro e wk ⟨rfl, hbk⟩
      have HBK := Lib.hid (HBQ.out.trans (hbk.mono HBQ.out.size))
      clear hbk
      go_wp2_with fail
      go_ret
      exact ⟨rfl, HBK.out⟩
end Go.Proofs.Ythipnkaghddbhaa

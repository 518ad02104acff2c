/-
  The document's Put and Flags of layer 7. Conditions: a segment whose numbers fit their Go types, options of at most 100 bytes, data of at most 300 or of more than 65535; rows of bytes; a number that is a byte.
-/
import Derived.Test.YtabdejoakecioaaTrStands
import Derived.Test.YtabdejoakecioaaTrRRight
import Derived.Test.YtabdejoakecioaaTrFlags
namespace Go.Proofs.Ytabdejoakecioaa
open Go.RowKit

theorem r7stands_any (s : Pl) (c : Int) (w : World) (f : s.fit) (hr : rgP s = true) (hd : s.dt.length ≤ 65000) (c0 : 0 ≤ c ∧ c < 65536) :
    Calls Try.prog 29 #[.agg (rcs s).toArray, .int .u16 c] w (Gives w (.string (str (sbS s c)))) := by
  obtain ⟨h1, h2, h3, h4, h5⟩ := (rgP_iff s).1 hr
  by_cases h6 : s.pro = 6
  · exact r7stands_tcp s c w f h6 h4 hd c0
  · by_cases h17 : s.pro = 17
    · refine r7stands_udp s c w f h17 ?_ hd c0
      rw [h2, ownP, if_neg h6, if_pos h17]; rfl
    · refine r7stands_icmp s c w f h6 h17 ?_ hd c0
      rw [h2, ownP, if_neg h6, if_neg h17]; rfl

/-- What the document's Put answers: an error, and bytes that may be read. -/
def MadeR (w : World) (xs : List Int) (er : Int) (e : Ending) (w' : World) : Prop := ∃ a n c, e = .returned (.tuple #[.slice a n c, .int .i64 er]) ∧ xs.length = n ∧ Rd w' a xs ∧ Below w.heap.size w w'

theorem ck_by (s : Pl) (src dst : List Int) (k : Int) (h : 65535 - fld (ws 0 (cov s.pro (sbS s 0) src dst)) = k) : ckS s src dst = if k = 0 ∧ s.pro = 17 then 65535 else k := by
  unfold ckS; rw [h]

set_option maxRecDepth 100000 in
set_option maxHeartbeats 8000000 in
theorem r7Put_any (s : Pl) (src dst : List Int) (w : World) (f : s.fit) (ho : s.op.length ≤ 100) (hd : s.dt.length ≤ 300 ∨ (65535 < s.dt.length ∧ s.dt.length ≤ 281474976710656)) (hs : Byt src) (ht : Byt dst) :
    Calls Try.prog 10 #[.agg (rcs s).toArray, .string (str src), .string (str dst)] w (MadeR w (ptB s src dst) (ptE s src.length dst.length)) := by
  obtain ⟨wA, hwA⟩ : ∃ x, w.alloc (.cells (rcs s).toArray 30) = x := ⟨_, rfl⟩
  have hbA : Below w.heap.size w wA := by rw [← hwA]; exact (Below.refl _ _).alloc (Nat.le_refl _) _
  have hrA : wA.rangeAt w.heap.size 0 (rcs s) := by rw [← hwA]; exact range_new _ _ _
  have c0 := range_cell hrA (rcs_c s).1
  have HA := Lib.hid (And.intro hbA hrA)
  have HF := Lib.hid f
  have HO := Lib.hid ho
  have HD := Lib.hid hd
  have HY := Lib.hid (And.intro hs ht)
  obtain ⟨cs, hcs⟩ : ∃ cs, (rcs s).toArray = cs := ⟨_, rfl⟩
  have HCS := Lib.hid hcs
  obtain ⟨u1, hu1⟩ : ∃ x, str src = x := ⟨_, rfl⟩
  obtain ⟨u2, hu2⟩ : ∃ x, str dst = x := ⟨_, rfl⟩
  have HU1 := Lib.hid hu1
  have HU2 := Lib.hid hu2
  obtain ⟨er, her⟩ : ∃ x, ptE s src.length dst.length = x := ⟨_, rfl⟩
  obtain ⟨xs, hxs⟩ : ∃ x, ptB s src dst = x := ⟨_, rfl⟩
  have HER := Lib.hid her
  have HXS := Lib.hid hxs
  rw [hcs] at hwA ⊢
  rw [hu1, hu2, her, hxs]
  clear f ho hd hs ht hbA hrA hcs hu1 hu2 her hxs
  by_cases hh : hdN s.pro = 0
  · have hhi : ((hdN s.pro : Nat) : Int) = 0 := by omega
    have hE : er = 70 := by rw [← HER.out]; unfold ptE; rw [if_pos hh]
    have hX : xs = [] := by rw [← HXS.out]; unfold ptB; rw [HER.out, hE]; rfl
    subst hE
    subst hX
    clear hh
    go_enter Try.func10, Try.ntmps10
    go_wp2_with fail
    refine (r7Head_any s.pro _).mono ?_
    rintro e wz ⟨rfl, rfl⟩
    rw [hhi]
    go_wp2_with fail
    go_ret2
    exact ⟨none, 0, 0, rfl, rfl, fun h => absurd rfl h, HA.out.1⟩
  have hhb : ((hdN s.pro : Int) == 0) = false := by simp; exact hh
  have HH : Hid (hdN s.pro ≠ 0) := hh
  clear hh
  cases hrg : rgP s with
  | false =>
    have hE : er = 51 := by rw [← HER.out]; unfold ptE; rw [if_neg HH.out, if_pos hrg]
    have hX : xs = [] := by rw [← HXS.out]; unfold ptB; rw [HER.out, hE]; rfl
    subst hE
    subst hX
    have HG := Lib.hid hrg
    clear hrg
    go_enter Try.func10, Try.ntmps10
    go_wp2_with fail
    refine (r7Head_any s.pro _).mono ?_
    rintro e wz ⟨rfl, rfl⟩
    go_wp2_with (refine ldCw 30 (.tmp 3) rfl (by rfl) w.heap.size rfl (rcs s) HA.out.2 _ Try.underlying30 rfl infR ?_; rw [HCS.out])
    rw [← HCS.out]
    refine (r7Right_any s _ (by have := HO.out; omega) (by have := HD.out; omega)).mono ?_
    rintro e w2 ⟨rfl, hb2⟩
    rw [HG.out]
    have HB2 := Lib.hid (HA.out.1.trans (hb2.mono HA.out.1.size))
    clear hb2
    go_wp2_with fail
    go_ret2
    exact ⟨none, 0, 0, rfl, rfl, fun h => absurd rfl h, HB2.out⟩
  | true =>
  obtain ⟨g1, g2, g3, g4, g5⟩ := (rgP_iff s).1 hrg
  have HG := Lib.hid hrg
  have HL : Hid (s.op.length ≤ 40 ∧ s.dt.length ≤ 300) := by have := HD.out; show _ ∧ _; omega
  obtain ⟨m, hm⟩ : ∃ x, hdN s.pro + s.op.length + s.dt.length = x := ⟨_, rfl⟩
  have hmi : ((hdN s.pro : Int) + (s.op.length : Int) + (s.dt.length : Int)) = (m : Int) := by omega
  have HM := Lib.hid hm
  have HMI := Lib.hid hmi
  have HM5 : Hid (m ≤ 1000) := by
    have h20 : hdN s.pro ≤ 20 := by unfold hdN; (repeat' split) <;> omega
    have := HL.out; show m ≤ 1000; omega
  clear g1 g2 g3 g4 g5 hrg hm hmi
  go_enter Try.func10, Try.ntmps10
  go_wp2_with fail
  refine (r7Head_any s.pro _).mono ?_
  rintro e wz ⟨rfl, rfl⟩
  go_wp2_with (refine ldCw 30 (.tmp 3) rfl (by rfl) w.heap.size rfl (rcs s) HA.out.2 _ Try.underlying30 rfl infR ?_; rw [HCS.out])
  rw [← HCS.out]
  refine (r7Right_any s _ (by have := HO.out; omega) (by have := HD.out; omega)).mono ?_
  rintro e w2 ⟨rfl, hb2⟩
  rw [HG.out]
  have hr2 := range_kept hb2 HA.out.2
  have HB2 := Lib.hid (HA.out.1.trans (hb2.mono HA.out.1.size))
  clear hb2 c0 hhb
  go_wp2_with fail
  cases had : adB src.length dst.length with
  | false =>
    have hE : er = 2 := by rw [← HER.out]; unfold ptE; rw [if_neg HH.out, if_neg (by rw [HG.out]; decide), if_pos had]
    have hX : xs = [] := by rw [← HXS.out]; unfold ptB; rw [HER.out, hE]; rfl
    subst hE
    subst hX
    have HAD := Lib.hid had
    clear had
    refine wp_region_held_drew (S := fun w' => w'.rangeAt w.heap.size 0 (rcs s)) (by kernel_rfl) hr2 (fun hS => ?_)
    refine tk 0 19 (.pointer (some ⟨w.heap.size, 0, none⟩)) rfl rfl (by kernel_rfl) (by kernel_rfl) (by kernel_rfl) (fun _ _ _ h => h) (Or.inl ⟨by rfl, fun w' h' => ?_⟩) hS ?_
    · go_simp
    try simp only [Act.put, List.setIfInBounds_toArray, List.set_cons_zero, List.set_cons_succ]
    refine tk 1 20 (.int .u8 s.pro) rfl rfl (by kernel_rfl) (by kernel_rfl) (by kernel_rfl) (fun _ _ _ h => h) (Or.inl ⟨by rfl, fun w' h' => ?_⟩) hS ?_
    · have hc := range_cell h' (rcs_c s).1
      go_simp
    try simp only [Act.put, List.setIfInBounds_toArray, List.set_cons_zero, List.set_cons_succ]
    refine tk 2 21 (.agg (rcs s).toArray) rfl rfl (by kernel_rfl) (by kernel_rfl) (by kernel_rfl) (fun _ _ _ h => h) (yieldsIf_load_mid (by rfl) _ _ rfl (w.heap.size) (0) rfl (rcs s) _ (fun w' h' => h') Try.underlying30 rfl (infR)) hS ?_
    try simp only [Act.put, List.setIfInBounds_toArray, List.set_cons_zero, List.set_cons_succ]
    refine tk 4 23 (.string u1) rfl rfl (by kernel_rfl) (by kernel_rfl) (by kernel_rfl) (fun _ _ _ h => h) (Or.inl ⟨by rfl, fun w' h' => ?_⟩) hS ?_
    · go_simp
    try simp only [Act.put, List.setIfInBounds_toArray, List.set_cons_zero, List.set_cons_succ]
    refine tk 5 24 (.string u2) rfl rfl (by kernel_rfl) (by kernel_rfl) (by kernel_rfl) (fun _ _ _ h => h) (Or.inl ⟨by rfl, fun w' h' => ?_⟩) hS ?_
    · go_simp
    try simp only [Act.put, List.setIfInBounds_toArray, List.set_cons_zero, List.set_cons_succ]
    refine wpAnyH_ready (rs := [3]) (by kernel_rfl) (by simp) (AllReadyH.cons rfl (fun K hK => ?_) AllReadyH.nil)
    rw [if_pos (by rfl)]
    go_wp2_with fail
    refine (r7Length_any s _ (by have := HO.out; omega) (by have := HL.out; omega)).mono ?_
    rintro e w3 ⟨rfl, hb3⟩
    rw [HMI.out]
    have hr3 : World.rangeAt w3 w.heap.size 0 (rcs s) := range_kept (undrew hb3) hr2
    have HB3 := Lib.hid (HB2.out.trans ((undrew hb3).mono HB2.out.size))
    clear hb3 HB2
    clear hS
    refine hK.out _ _ (hr3) (fun hS => ?_)
    clear hK K
    try simp only [Act.put, List.setIfInBounds_toArray, List.set_cons_zero, List.set_cons_succ]
    refine wpAnyH_ready (rs := [6]) (by kernel_rfl) (by simp) (AllReadyH.cons rfl (fun K hK => ?_) AllReadyH.nil)
    rw [if_pos (by rfl)]
    go_wp2_with fail
    rw [← HU1.out, ← HU2.out]
    refine (r7pseudo_no s.pro m src dst _ HAD.out).mono ?_
    rintro e w4 ⟨rfl, hb4⟩
    rw [HU1.out, HU2.out]
    have hr4 : World.rangeAt w4 w.heap.size 0 (rcs s) := range_kept hb4 hr3
    have HB4 := Lib.hid (HB3.out.trans (hb4.mono HB3.out.size))
    clear hb4 HB3
    clear hS
    refine hK.out _ _ (hr4) (fun hS => ?_)
    clear hK K
    try simp only [Act.put, List.setIfInBounds_toArray, List.set_cons_zero, List.set_cons_succ]
    refine tk 7 18 (.tuple #[.string ⟨#[]⟩, .bool false]) rfl rfl (by kernel_rfl) (by kernel_rfl) (by kernel_rfl) (fun _ _ _ h => h) (Or.inl ⟨by rfl, fun w' h' => ?_⟩) hS ?_
    · go_simp
    try simp only [Act.put, List.setIfInBounds_toArray, List.set_cons_zero, List.set_cons_succ]
    refine tk 8 26 (.string ⟨#[]⟩) rfl rfl (by kernel_rfl) (by kernel_rfl) (by kernel_rfl) (fun _ _ _ h => h) (Or.inl ⟨by rfl, fun w' h' => ?_⟩) hS ?_
    · go_simp
    try simp only [Act.put, List.setIfInBounds_toArray, List.set_cons_zero, List.set_cons_succ]
    refine tk 9 27 (.bool false) rfl rfl (by kernel_rfl) (by kernel_rfl) (by kernel_rfl) (fun _ _ _ h => h) (Or.inl ⟨by rfl, fun w' h' => ?_⟩) hS ?_
    · go_simp
    try simp only [Act.put, List.setIfInBounds_toArray, List.set_cons_zero, List.set_cons_succ]
    refine tk 10 8 (.string ⟨#[]⟩) rfl rfl (by kernel_rfl) (by kernel_rfl) (by kernel_rfl) (fun _ _ _ h => h) (Or.inl ⟨by rfl, fun w' h' => ?_⟩) hS ?_
    · go_simp
    try simp only [Act.put, List.setIfInBounds_toArray, List.set_cons_zero, List.set_cons_succ]
    refine tk 11 9 (.bool false) rfl rfl (by kernel_rfl) (by kernel_rfl) (by kernel_rfl) (fun _ _ _ h => h) (Or.inl ⟨by rfl, fun w' h' => ?_⟩) hS ?_
    · go_simp
    refine wpAnyH_done (by kernel_rfl) ?_ _

    go_wp2_with fail
    go_ret2
    exact ⟨none, 0, 0, rfl, rfl, fun h => absurd rfl h, HB4.out⟩
  | true =>
    have hE : er = 0 := by rw [← HER.out]; exact ptE_zero.2 ⟨HH.out, HG.out, had⟩
    have HE0 := Lib.hid hE
    have HAD := Lib.hid had
    obtain ⟨PP, hPP⟩ : ∃ x, (if s.pro = 1 then ([] : List Int) else psd s.pro m src dst) = x := ⟨_, rfl⟩
    have hlen : (sbS s 0).length = m := by rw [sbS_len s 0 HH.out, HM.out]
    have hcov : cov s.pro (sbS s 0) src dst = PP ++ sbS s 0 := by
      rw [← hPP]; unfold cov; rw [hlen]; split <;> simp
    have hpl : PP.length ≤ 40 := by
      rw [← hPP]; split
      · simp
      · exact (psd_len had).2
    have hpb : Byt PP := by
      rw [← hPP]; split
      · exact Byt.nil
      · exact psd_byt _ _ HY.out.1 HY.out.2
    obtain ⟨C, hC⟩ : ∃ x, PP ++ sbS s 0 = x := ⟨_, rfl⟩
    have HCB : Hid (Byt C) := by rw [← hC]; exact hpb.append (sbS_byt s 0 HF.out.op HF.out.dt)
    have HCL : Hid (C.length ≤ 1040) := by have := HM5.out; show C.length ≤ 1040; rw [← hC, List.length_append, hlen]; omega
    obtain ⟨k, hk⟩ : ∃ x, 65535 - fld (ws 0 C) = x := ⟨_, rfl⟩
    have HKK := Lib.hid hk
    have HKC : Hid (65535 - fld (ws 0 (cov s.pro (sbS s 0) src dst)) = k) := by show _ = _; rw [hcov, hC, hk]
    have HKR : Hid (0 ≤ k ∧ k ≤ 65535) := by
      have := @fld_range (ws 0 C) (ws_range _ 0 HCB.out).1
      show _ ∧ _; omega
    obtain ⟨up, hup⟩ : ∃ x, str PP = x := ⟨_, rfl⟩
    have HPP : Hid (str (if s.pro = 1 then ([] : List Int) else psd s.pro m src dst) = up) := by show _ = _; rw [hPP, hup]
    obtain ⟨v0, hv0⟩ : ∃ x, str (sbS s 0) = x := ⟨_, rfl⟩
    have HV0 := Lib.hid hv0
    obtain ⟨uc, huc⟩ : ∃ x, str C = x := ⟨_, rfl⟩
    have HUC := Lib.hid huc
    have HADD := add_named (xs := PP) (ys := sbS s 0) (z := uc) hup hv0 (by rw [hC]; exact huc) (by have := HM5.out; omega)
    clear hE had hPP hlen hcov hpl hpb hC hk hup hv0 huc
    refine wp_region_held_drew (S := fun w' => w'.rangeAt w.heap.size 0 (rcs s)) (by kernel_rfl) hr2 (fun hS => ?_)
    refine tk 0 19 (.pointer (some ⟨w.heap.size, 0, none⟩)) rfl rfl (by kernel_rfl) (by kernel_rfl) (by kernel_rfl) (fun _ _ _ h => h) (Or.inl ⟨by rfl, fun w' h' => ?_⟩) hS ?_
    · go_simp
    try simp only [Act.put, List.setIfInBounds_toArray, List.set_cons_zero, List.set_cons_succ]
    refine tk 1 20 (.int .u8 s.pro) rfl rfl (by kernel_rfl) (by kernel_rfl) (by kernel_rfl) (fun _ _ _ h => h) (Or.inl ⟨by rfl, fun w' h' => ?_⟩) hS ?_
    · have hc := range_cell h' (rcs_c s).1
      go_simp
    try simp only [Act.put, List.setIfInBounds_toArray, List.set_cons_zero, List.set_cons_succ]
    refine tk 2 21 (.agg (rcs s).toArray) rfl rfl (by kernel_rfl) (by kernel_rfl) (by kernel_rfl) (fun _ _ _ h => h) (yieldsIf_load_mid (by rfl) _ _ rfl (w.heap.size) (0) rfl (rcs s) _ (fun w' h' => h') Try.underlying30 rfl (infR)) hS ?_
    try simp only [Act.put, List.setIfInBounds_toArray, List.set_cons_zero, List.set_cons_succ]
    refine tk 4 23 (.string u1) rfl rfl (by kernel_rfl) (by kernel_rfl) (by kernel_rfl) (fun _ _ _ h => h) (Or.inl ⟨by rfl, fun w' h' => ?_⟩) hS ?_
    · go_simp
    try simp only [Act.put, List.setIfInBounds_toArray, List.set_cons_zero, List.set_cons_succ]
    refine tk 5 24 (.string u2) rfl rfl (by kernel_rfl) (by kernel_rfl) (by kernel_rfl) (fun _ _ _ h => h) (Or.inl ⟨by rfl, fun w' h' => ?_⟩) hS ?_
    · go_simp
    try simp only [Act.put, List.setIfInBounds_toArray, List.set_cons_zero, List.set_cons_succ]
    refine wpAnyH_ready (rs := [3]) (by kernel_rfl) (by simp) (AllReadyH.cons rfl (fun K hK => ?_) AllReadyH.nil)
    rw [if_pos (by rfl)]
    go_wp2_with fail
    refine (r7Length_any s _ (by have := HO.out; omega) (by have := HL.out; omega)).mono ?_
    rintro e w3 ⟨rfl, hb3⟩
    rw [HMI.out]
    have hr3 : World.rangeAt w3 w.heap.size 0 (rcs s) := range_kept (undrew hb3) hr2
    have HB3 := Lib.hid (HB2.out.trans ((undrew hb3).mono HB2.out.size))
    clear hb3 HB2
    clear hS
    refine hK.out _ _ (hr3) (fun hS => ?_)
    clear hK K
    try simp only [Act.put, List.setIfInBounds_toArray, List.set_cons_zero, List.set_cons_succ]
    refine wpAnyH_ready (rs := [6]) (by kernel_rfl) (by simp) (AllReadyH.cons rfl (fun K hK => ?_) AllReadyH.nil)
    rw [if_pos (by rfl)]
    go_wp2_with fail
    rw [← HU1.out, ← HU2.out]
    refine (r7pseudo_yes s.pro m src dst _ HAD.out HF.out.pro.1 HF.out.pro.2 (by have := HM5.out; omega)).mono ?_
    rintro e w4 ⟨rfl, hb4⟩
    rw [HU1.out, HU2.out, HPP.out]
    have hr4 : World.rangeAt w4 w.heap.size 0 (rcs s) := range_kept hb4 hr3
    have HB4 := Lib.hid (HB3.out.trans (hb4.mono HB3.out.size))
    clear hb4 HB3
    clear hS
    refine hK.out _ _ (hr4) (fun hS => ?_)
    clear hK K
    try simp only [Act.put, List.setIfInBounds_toArray, List.set_cons_zero, List.set_cons_succ]
    refine tk 7 18 (.tuple #[.string up, .bool true]) rfl rfl (by kernel_rfl) (by kernel_rfl) (by kernel_rfl) (fun _ _ _ h => h) (Or.inl ⟨by rfl, fun w' h' => ?_⟩) hS ?_
    · go_simp
    try simp only [Act.put, List.setIfInBounds_toArray, List.set_cons_zero, List.set_cons_succ]
    refine tk 8 26 (.string up) rfl rfl (by kernel_rfl) (by kernel_rfl) (by kernel_rfl) (fun _ _ _ h => h) (Or.inl ⟨by rfl, fun w' h' => ?_⟩) hS ?_
    · go_simp
    try simp only [Act.put, List.setIfInBounds_toArray, List.set_cons_zero, List.set_cons_succ]
    refine tk 9 27 (.bool true) rfl rfl (by kernel_rfl) (by kernel_rfl) (by kernel_rfl) (fun _ _ _ h => h) (Or.inl ⟨by rfl, fun w' h' => ?_⟩) hS ?_
    · go_simp
    try simp only [Act.put, List.setIfInBounds_toArray, List.set_cons_zero, List.set_cons_succ]
    refine tk 10 8 (.string up) rfl rfl (by kernel_rfl) (by kernel_rfl) (by kernel_rfl) (fun _ _ _ h => h) (Or.inl ⟨by rfl, fun w' h' => ?_⟩) hS ?_
    · go_simp
    try simp only [Act.put, List.setIfInBounds_toArray, List.set_cons_zero, List.set_cons_succ]
    refine tk 11 9 (.bool true) rfl rfl (by kernel_rfl) (by kernel_rfl) (by kernel_rfl) (fun _ _ _ h => h) (Or.inl ⟨by rfl, fun w' h' => ?_⟩) hS ?_
    · go_simp
    refine wpAnyH_done (by kernel_rfl) ?_ _

    have HR4 := Lib.hid hr4
    clear hS hr2 hr3 hr4
    go_wp2_with (refine ldCw 30 (.tmp 3) rfl (by rfl) w.heap.size rfl (rcs s) HR4.out _ Try.underlying30 rfl infR ?_; rw [HCS.out])
    rw [← HCS.out]
    refine (r7stands_any s 0 _ HF.out HG.out (by have := HL.out; omega) (by omega)).mono ?_
    rintro e w5 ⟨rfl, hb5⟩
    rw [HV0.out]
    have HR5 := Lib.hid (range_kept hb5 HR4.out)
    have HB5 := Lib.hid (HB4.out.trans (hb5.mono HB4.out.size))
    obtain ⟨c, wC, hcv, hrd, hbel⟩ := run_bytes_str w5 C HCB.out
    rw [HUC.out] at hcv
    have HRD := Lib.hid hrd
    have HRC := Lib.hid (range_kept hbel HR5.out)
    have HBC := Lib.hid (HB5.out.trans (hbel.mono HB5.out.size))
    have hadd := HADD.out
    clear hb5 HB4 HR4 hrd hbel
    go_wp2_with (exact hadd _)
    refine (r3Of_any _ C.length c C _ rfl HRD.out HCB.out (by have := HCL.out; omega)).mono ?_
    rintro e w6 ⟨rfl, hb6⟩
    rw [HKK.out]
    have HR6 := Lib.hid (range_kept hb6 HRC.out)
    have HB6 := Lib.hid (HBC.out.trans (hb6.mono HBC.out.size))
    have d0 := range_cell HR6.out (rcs_c s).1
    clear hb6 hcv hadd HRD HBC HRC
    by_cases hk0 : k = 0
    · by_cases h17 : s.pro = 17
      · have HCK : Hid (ckS s src dst = 65535) := by show _ = _; rw [ck_by s src dst k HKC.out, if_pos ⟨hk0, h17⟩]
        rw [h17] at d0
        subst hk0
        clear h17
        go_wp2_with (refine ldCw 30 (.tmp 3) rfl (by rfl) w.heap.size rfl (rcs s) HR6.out _ Try.underlying30 rfl infR ?_; rw [HCS.out])
        rw [← HCS.out]
        refine (r7stands_any s 65535 _ HF.out HG.out (by have := HL.out; omega) (by have := HKR.out; omega)).mono ?_
        rintro e w7 ⟨rfl, hb7⟩
        have hX : xs = sbS s 65535 := by rw [← HXS.out]; unfold ptB; rw [HER.out, HE0.out, if_pos rfl, HCK.out]
        rw [← hX]
        have HB7 := Lib.hid (HB6.out.trans (hb7.mono HB6.out.size))
        have HXB : Hid (Byt xs) := by rw [hX]; exact sbS_byt s _ HF.out.op HF.out.dt
        obtain ⟨c2, wE, hcv2, hrd2, hbel2⟩ := run_bytes_str w7 xs HXB.out
        obtain ⟨ux, hux⟩ : ∃ x, str xs = x := ⟨_, rfl⟩
        rw [hux] at hcv2 ⊢
        have HRE := Lib.hid hrd2
        have HBE := Lib.hid (HB7.out.trans (hbel2.mono HB7.out.size))
        obtain ⟨nx, hnx⟩ : ∃ x, xs.length = x := ⟨_, rfl⟩
        have HNX := Lib.hid hnx
        rw [hnx] at hcv2
        clear hb7 hX hrd2 hbel2 hux hnx d0
        go_wp2_with fail
        go_ret2
        exact ⟨_, _, _, by rw [HE0.out]; rfl, HNX.out, HRE.out, HBE.out⟩
      · have h17b : (s.pro == 17) = false := by simpa using h17
        have HCK : Hid (ckS s src dst = 0) := by show _ = _; rw [ck_by s src dst k HKC.out, if_neg (fun h => h17 h.2), hk0]
        subst hk0
        clear h17
        go_wp2_with (refine ldCw 30 (.tmp 3) rfl (by rfl) w.heap.size rfl (rcs s) HR6.out _ Try.underlying30 rfl infR ?_; rw [HCS.out])
        rw [← HCS.out]
        refine (r7stands_any s 0 _ HF.out HG.out (by have := HL.out; omega) (by have := HKR.out; omega)).mono ?_
        rintro e w7 ⟨rfl, hb7⟩
        have hX : xs = sbS s 0 := by rw [← HXS.out]; unfold ptB; rw [HER.out, HE0.out, if_pos rfl, HCK.out]
        rw [← hX]
        have HB7 := Lib.hid (HB6.out.trans (hb7.mono HB6.out.size))
        have HXB : Hid (Byt xs) := by rw [hX]; exact sbS_byt s _ HF.out.op HF.out.dt
        obtain ⟨c2, wE, hcv2, hrd2, hbel2⟩ := run_bytes_str w7 xs HXB.out
        obtain ⟨ux, hux⟩ : ∃ x, str xs = x := ⟨_, rfl⟩
        rw [hux] at hcv2 ⊢
        have HRE := Lib.hid hrd2
        have HBE := Lib.hid (HB7.out.trans (hbel2.mono HB7.out.size))
        obtain ⟨nx, hnx⟩ : ∃ x, xs.length = x := ⟨_, rfl⟩
        have HNX := Lib.hid hnx
        rw [hnx] at hcv2
        clear hb7 hX hrd2 hbel2 hux hnx d0
        go_wp2_with fail
        go_ret2
        exact ⟨_, _, _, by rw [HE0.out]; rfl, HNX.out, HRE.out, HBE.out⟩
    · have hkb : (k == 0) = false := by simpa using hk0
      have HCK : Hid (ckS s src dst = k) := by show _ = _; rw [ck_by s src dst k HKC.out, if_neg (fun h => hk0 h.1)]
      clear hk0
      go_wp2_with (refine ldCw 30 (.tmp 3) rfl (by rfl) w.heap.size rfl (rcs s) HR6.out _ Try.underlying30 rfl infR ?_; rw [HCS.out])
      rw [← HCS.out]
      refine (r7stands_any s k _ HF.out HG.out (by have := HL.out; omega) (by have := HKR.out; omega)).mono ?_
      rintro e w7 ⟨rfl, hb7⟩
      have hX : xs = sbS s k := by rw [← HXS.out]; unfold ptB; rw [HER.out, HE0.out, if_pos rfl, HCK.out]
      rw [← hX]
      have HB7 := Lib.hid (HB6.out.trans (hb7.mono HB6.out.size))
      have HXB : Hid (Byt xs) := by rw [hX]; exact sbS_byt s _ HF.out.op HF.out.dt
      obtain ⟨c2, wE, hcv2, hrd2, hbel2⟩ := run_bytes_str w7 xs HXB.out
      obtain ⟨ux, hux⟩ : ∃ x, str xs = x := ⟨_, rfl⟩
      rw [hux] at hcv2 ⊢
      have HRE := Lib.hid hrd2
      have HBE := Lib.hid (HB7.out.trans (hbel2.mono HB7.out.size))
      obtain ⟨nx, hnx⟩ : ∃ x, xs.length = x := ⟨_, rfl⟩
      have HNX := Lib.hid hnx
      rw [hnx] at hcv2
      clear hb7 hX hrd2 hbel2 hux hnx d0
      go_wp2_with fail
      go_ret2
      exact ⟨_, _, _, by rw [HE0.out]; rfl, HNX.out, HRE.out, HBE.out⟩
theorem fl_str : str flC = { data := #[70, 83, 82, 80, 65, 85] } := by
  show ByteArray.mk (ub flC).toArray = _
  decide
set_option maxRecDepth 100000 in
set_option maxHeartbeats 2000000 in
theorem r7Flags_any (f : Int) (w : World) (f0 : 0 ≤ f) (f1 : f < 256) : Calls Try.prog 17 #[.int .u8 f] w (Gives w (.string (str (flS f 6)))) := by
  have HCT : Hid (∀ (i : Nat) (w' : World), i < 6 → (Instr.sliceAt 9 (.string { data := #[70, 83, 82, 80, 65, 85] }) (some (.int .i64 (i : Int))) (some (.int .i64 ((i : Int) + 1))) none).run Try.prog w' = .ok (.string (str [flC.getD i 0])) w') := fun i w' hi => by
    have h := run_str_cut (xs := flC) i (i + 1) (by omega) (by show i + 1 ≤ 6; omega) .i64 .i64 w'
    rw [fl_str] at h
    have e : (flC.drop i).take (i + 1 - i) = [flC.getD i 0] := by
      have : i = 0 ∨ i = 1 ∨ i = 2 ∨ i = 3 ∨ i = 4 ∨ i = 5 := by omega
      rcases this with rfl | rfl | rfl | rfl | rfl | rfl <;> rfl
    rw [e] at h
    have ec : ((i + 1 : Nat) : Int) = (i : Int) + 1 := by omega
    rw [ec] at h
    exact h
  have HF : Hid (0 ≤ f ∧ f < 256) := ⟨f0, f1⟩
  clear f0 f1
  go_enter Try.func17, Try.ntmps17
  go_wp2_with fail
  go_loopw [0, 3, 4] (fun a b i wr => ∃ (k : Nat) (g : Int) (u : ByteArray), k ≤ 6 ∧ a = .int .u8 g ∧ b = .string u ∧ i = .int .i64 (k : Int) ∧ Hid (g = f / 2 ^ k ∧ str (flS f k) = u ∧ w = wr)) (fun _ _ i _ => 6 - (intOf i).toNat)
  case atStart => exact ⟨0, f, str [], by omega, rfl, rfl, rfl, by simp, rfl, rfl⟩
  case round =>
    obtain ⟨k, g, u, hk, rfl, rfl, rfl, HS⟩ := hrel
    by_cases hlt : k < 6
    · have hlti : (k : Int) < 6 := by omega
      have hg : 0 ≤ g ∧ g < 256 := by
        have h1 := HF.out
        have h2 := HS.out.1
        have hp : (0 : Int) < 2 ^ k := Int.pow_pos (by decide)
        rw [h2]
        exact ⟨Int.ediv_nonneg h1.1 (by omega), Int.lt_of_le_of_lt (Int.ediv_le_self _ h1.1) h1.2⟩
      have hg2 : g / 2 = f / 2 ^ (k + 1) := by rw [HS.out.1, Int.ediv_ediv_of_nonneg (Int.le_of_lt (Int.pow_pos (by decide))), Int.pow_succ]
      obtain ⟨r, hr⟩ : ∃ x, g.tmod 2 = x := ⟨_, rfl⟩
      obtain ⟨q, hq⟩ : ∃ x, g.tdiv 2 = x := ⟨_, rfl⟩
      have hr2 : r = g % 2 := by rw [← hr]; exact Int.tmod_eq_emod_of_nonneg hg.1
      have hq2 : q = g / 2 := by rw [← hq]; exact Int.tdiv_eq_ediv_of_nonneg hg.1
      have hwr : IntKind.u8.wrap r = r := by rw [IntKind.wrap_u8]; omega
      have hwq : IntKind.u8.wrap q = q := by rw [IntKind.wrap_u8]; omega
      have hwk : IntKind.i64.wrap ((k : Int) + 1) = (k : Int) + 1 := by rw [IntKind.wrap_i64]; omega
      have HQ : Hid (q = f / 2 ^ (k + 1)) := hq2.trans hg2
      have hfs : flS f (k + 1) = if f / 2 ^ k % 2 = 1 then flS f k ++ [flC.getD k 0] else flS f k := rfl
      rw [← HS.out.1, ← hr2] at hfs
      have hct := fun w' => HCT.out k w' hlt
      obtain ⟨v, hv⟩ : ∃ x, str [flC.getD k 0] = x := ⟨_, rfl⟩
      rw [hv] at hct
      by_cases h1 : r = 1
      · rw [if_pos h1] at hfs
        obtain ⟨z, hz⟩ : ∃ x, str (flS f (k + 1)) = x := ⟨_, rfl⟩
        have HADD := add_named (xs := flS f k) (ys := [flC.getD k 0]) (z := z) HS.out.2.1 hv (by rw [← hfs]; exact hz) (by have := flS_len f k; simp; omega)
        have hadd := HADD.out
        have HZ := Lib.hid hz
        have HW := Lib.hid HS.out.2.2
        have h1b : (r == 1) = true := by simpa using h1
        clear h1 hfs hz hv hr2 hq2 hg2 hg HS HADD
        go_wp2_with (exact hadd _)
        go_roundw
        case rel => exact ⟨k + 1, q, z, by omega, rfl, rfl, by go_num, HQ.out, HZ.out, HW.out⟩
        case measure => simp [intOf]; omega
      · rw [if_neg h1] at hfs
        have HZ : Hid (str (flS f (k + 1)) = u) := by show _ = _; rw [hfs]; exact HS.out.2.1
        have HW := Lib.hid HS.out.2.2
        have h1b : (r == 1) = false := by simpa using h1
        clear h1 hfs hv hr2 hq2 hg2 hg HS
        go_wp2_with fail
        go_roundw
        case rel => exact ⟨k + 1, q, u, by omega, rfl, rfl, by go_num, HQ.out, HZ.out, HW.out⟩
        case measure => simp [intOf]; omega
    · have hk6 : k = 6 := by omega
      subst hk6
      obtain ⟨_, hu, hw⟩ := HS.out
      have HU := Lib.hid hu
      have HW := Lib.hid hw
      clear hu hw HS hlt
      go_wp2_with fail
      go_ret
      exact ⟨by rw [HU.out]; rfl, by rw [← HW.out]; exact Below.refl _ _⟩
end Go.Proofs.Ytabdejoakecioaa

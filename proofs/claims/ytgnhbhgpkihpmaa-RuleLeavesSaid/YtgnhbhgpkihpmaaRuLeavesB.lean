/-
  RuleLeaves' walk, where what is told is denied. Conditions: rules that lie where the slice leads, a key, numbers that fit their Go types. (Made by gen_ruleaves.py.)
-/
import Derived.Test.YtgnhbhgpkihpmaaRuLeavesM
namespace Go.Proofs.Ytgnhbhgpkihpmaa
open Go.RowKit

set_option maxRecDepth 100000 in
set_option maxHeartbeats 20000000 in
theorem leaves9_b (deny : Bool) (cls : Int) (a : Option Addr) (n c : Nat) (l : List Rl) (k : Ky) (att : Int) (w : World) (hl : Rls w a n l) (hnc : a = none → c = 0) (hk : k.ok) (hT : cle (told (fit k) (othr deny cls) l) ≠ 0) :
    Calls Try.prog 3 #[.bool deny, .int .i64 cls, .slice a n c, .agg k.cs.toArray, .int .i64 att] w fun e w' => e = .returned (.bool true) ∧ Below w.heap.size w w' := by
  have HL := Lib.hid hl
  have HNC := Lib.hid hnc
  have HK := Lib.hid hk
  have HV0 : Hid (Lv w (w.alloc (.cells k.cs.toArray 28)) k) := ⟨(Below.refl _ _).alloc (Nat.le_refl _) _, range_new w k.cs 28, by simp⟩
  clear hl hnc hk
  rcases Nat.lt_or_ge 20 n with hn | hn
  · have hn2 : (20 : Int) < (n : Int) := by omega
    go_enter Try.func3, Try.ntmps3
    go_wp2_with fail
    refine (works9_any _).mono ?_
    rintro e w1 ⟨rfl, hb1⟩
    have HV1 := Lib.hid (HV0.out.next hb1)
    clear hb1
    go_wp2_with fail
    go_ret
    exact ⟨rfl, HV1.out.below⟩
  have hn2 : (n : Int) ≤ 20 := by omega
  go_enter Try.func3, Try.ntmps3
  go_wp2_with fail
  refine (uNew_any deny cls a n c l _ (HL.out.below HV0.out.below) (by omega) HNC.out).mono ?_
  rintro e w1 hnew
  have HV1 := Lib.hid (HV0.out.next hnew.1)
  rcases Or.symm hnew.2 with ⟨_, rfl⟩ | ⟨hok, b1, rfl, hcf, hb1⟩
  · clear hnew HV0
    go_wp2_with fail
    refine (works9_any _).mono ?_
    rintro e w2 ⟨rfl, hb2⟩
    have HV2 := Lib.hid (HV1.out.next hb2)
    clear hb2
    go_wp2_with fail
    go_ret
    exact ⟨rfl, HV2.out.below⟩
  have HOK := Lib.hid hok
  have HC1 := Lib.hid hcf
  have HG1 : Hid (w.heap.size < b1) := by have := HV0.out.lt; show _ < _; omega
  clear hnew hok hcf hb1 HV0
  go_wp2_with (refine ldK (.tmp 8) rfl rfl _ _ rfl k HK.out (by with_reducible exact HV1.out.key) ?_)
  refine (uClass_any b1 l (othr deny cls) k _ HC1.out HK.out).mono ?_
  rintro e w2 ⟨rfl, hkc, hcc⟩
  have HV2 := Lib.hid (HV1.out.count HG1.out hkc)
  have HC2 := Lib.hid hcc
  clear hkc hcc HV1 HC1
  obtain ⟨N, hN⟩ : ∃ N, cln (told (fit k) (othr deny cls) l) = N := ⟨_, rfl⟩
  obtain ⟨F, hF⟩ : ∃ F, cle (told (fit k) (othr deny cls) l) = F := ⟨_, rfl⟩
  have hNF := tells _ (told_right k deny cls l HOK.out)
  rw [hN, hF] at hNF
  simp only [hN, hF]
  have HN := Lib.hid hN
  have HF := Lib.hid hF
  clear hN hF
  rcases hNF with ⟨rfl, h0, h8⟩ | ⟨rfl, rfl⟩
  · exact absurd HF.out hT
  · go_wp2_with fail
    refine (uDead_any b1 l (othr deny cls) _ HC2.out).mono ?_
    rintro e w3 ⟨aI, nI, cI, rfl, hown, hb3⟩
    have HV3 := Lib.hid (HV2.out.next hb3)
    have HI3 := Lib.hid hown
    have HNI : Hid ((deads l l.length).length = nI) := by have := hown.1; simp [iv] at this; show _ = _; omega
    have hnI : nI ≤ 20 := by
      have h1 := deads_len l l.length
      have h2 := HL.out.len
      have h3 := HNI.out
      omega
    clear hown hb3 HV2 HC2
    go_wp2_with fail
    go_loopw [16, 17] (fun s i wr => ∃ (q : Nat) (aS : Option Addr) (nS cS : Nat), q ≤ n ∧ s = .slice aS nS cS ∧ i = .int .i64 q ∧ Hid (OwnU wr w3.heap.size aS nS cS (lvs l q)) ∧ Hid (Below w3.heap.size w3 wr)) (fun _ i _ => n - (intOf i).toNat)
    case atStart => exact ⟨0, none, 0, 0, Nat.zero_le _, rfl, rfl, OwnU.nil _ _, Below.refl _ _⟩
    case round =>
      obtain ⟨q, aS, nS, cS, hq, rfl, rfl, hown, hbl⟩ := hrel
      rename World => wo
      rcases Nat.lt_or_ge q n with hlt | hge
      · have hlt2 : (q : Int) < (n : Int) := by omega
        have hq20 : q < 20 := by omega
        go_wp2_with fail
        have HG0 : Hid (false = decide ((q : Int) ∈ (deads l l.length).take 0)) := by show _ = _; simp
        go_loop [18, 19] (fun g i => ∃ p : Nat, p ≤ nI ∧ g = .bool (decide ((q : Int) ∈ (deads l l.length).take p)) ∧ i = .int .i64 p) (fun _ i => nI - (intOf i).toNat)
        case atStart => exact ⟨0, Nat.zero_le _, by rw [← HG0.out], rfl⟩
        case round =>
          obtain ⟨p, hp, rfl, rfl⟩ := hrel
          rcases Nat.lt_or_ge p nI with hlp | hgp
          · have hlp2 : (p : Int) < (nI : Int) := by omega
            have HTM := Lib.hid (take_mem (deads l l.length) p (by rw [HNI.out]; exact hlp) (q : Int))
            obtain ⟨gI, rfl, hcI⟩ := (HI3.out.below hbl.out).cell (by
              intro e
              have h1 := HNI.out
              simp [iv] at e
              rw [e] at h1
              simp at h1
              omega)
            have hcp := hcI p (.int .i64 ((deads l l.length).getD p 0)) (by simp [iv, List.getElem?_eq_getElem (show p < (deads l l.length).length by rw [HNI.out]; exact hlp)])
            rw [Nat.zero_add] at hcp
            obtain ⟨dp, hdp⟩ : ∃ dp, (deads l l.length).getD p 0 = dp := ⟨_, rfl⟩
            obtain ⟨gn, hgn⟩ : ∃ gn, decide ((q : Int) ∈ (deads l l.length).take p) = gn := ⟨_, rfl⟩
            rw [hdp] at hcp HTM
            rw [hgn] at HTM ⊢
            clear hdp hgn hcI
            cases gn with
            | true =>
              go_wp2_with fail
              go_round
              case rel => exact ⟨p + 1, by omega, by rw [HTM.out]; rfl, by go_num⟩
              case measure => simp [intOf]; omega
            | false =>
              go_wp2_with fail
              go_round
              case rel => exact ⟨p + 1, by omega, by rw [HTM.out]; rfl, by go_num⟩
              case measure => simp [intOf]; omega
          · have hgp2 : ¬ (p : Int) < (nI : Int) := by omega
            have HDD : Hid (decide ((q : Int) ∈ (deads l l.length).take p) = isDead l q) := by
              show _ = _
              rw [List.take_of_length_le (by rw [HNI.out]; omega), Bool.eq_iff_iff, decide_eq_true_eq]
              exact mem_deads (by rw [HL.out.len]; exact hlt)
            rw [HDD.out]
            obtain ⟨r, br, orr, hr, hrok, rfl, hrg⟩ := (HL.out.below (HV3.out.below.trans (hbl.out.mono HV3.out.below.size))).nth hlt
            have HRG := Lib.hid hrg
            have HRO := Lib.hid hrok
            have HNX := Lib.hid (lvs_next hr)
            clear hr hrg hrok
            cases hid : isDead l q with
            | true =>
              have HO : Hid (OwnU wo w3.heap.size aS nS cS (lvs l (q + 1))) := by
                show OwnU _ _ _ _ _ _
                rw [HNX.out, hid]; exact hown.out
              clear hid
              go_wp2_with fail
              go_roundw
              case rel => exact ⟨q + 1, aS, nS, cS, by omega, rfl, by go_num, HO, hbl⟩
              case measure => simp [intOf]; omega
            | false =>
              have HID := Lib.hid hid
              clear hid
              have hnS : nS ≤ 20 := by have h1 := hown.out.len; have h2 := lvs_len l q; omega
              go_wp2_with (first
                | (refine ldU (.tmp 109) rfl rfl _ _ rfl r HRO.out (by with_reducible exact HRG.out) ?_)
                | (refine bsU 1 _ [r] (by intro x hx; rw [List.mem_singleton.1 hx]; exact HRO.out) rfl (by omega) (by omega) rfl (by rfl) (by rfl) ?_; intro wb hrl hbb hsz; obtain ⟨a2, c2, w4, hrun, hown2, hgr, _⟩ := run_append_rls wb w3.heap.size 22 (hown.out.below hbb) 1 hrl (by omega) (by have := hbl.out.size; omega); have HRN := Lib.hid hrun; have HO : Hid (OwnU w4 w3.heap.size a2 (nS + 1) c2 (lvs l (q + 1))) := (by show OwnU _ _ _ _ _ _; rw [HNX.out, HID.out]; exact hown2); have HB4 : Hid (Below w3.heap.size w3 w4) := (hbl.out.trans (hbb.mono hbl.out.size)).grown hgr (by have := hbl.out.size; omega) (fun i hi => ((hown.out.below hbb).row.blk_ge i hi).1); clear hrun hown2 hgr hrl hbb hsz)
                | (at_builtin; refine Lib.wpList_append_run _ rfl (.tmp 106) (.tmp 111) _ _ rfl _ _ rfl rfl _ _ HRN.out ?_))
              go_roundw
              case rel => exact ⟨q + 1, a2, nS + 1, c2, by omega, rfl, by go_num, HO, HB4⟩
              case measure => simp [intOf]; omega
      · have hge2 : ¬ (q : Int) < (n : Int) := by omega
        have HSO : Hid (OwnU wo w3.heap.size aS nS cS (lvs l l.length)) := by show OwnU _ _ _ _ _ _; rw [HL.out.len, show n = q by omega]; exact hown.out
        have HV4 : Hid (Lv w wo k) := ⟨HV3.out.below.trans (hbl.out.mono HV3.out.below.size), fun j v hv => cell_kept hbl.out (HV3.out.key j v hv), by have h1 := hbl.out.size; have h2 := HV3.out.lt; omega⟩
        clear hown hbl HI3 HV3
        obtain ⟨aM, cM, w5, hrun, hown5, hgr5, _⟩ := run_append_rls wo wo.heap.size 22 (OwnU.nil wo wo.heap.size) c (HL.out.below HV4.out.below) (by omega) (Nat.le_refl _)
        rw [List.nil_append, Nat.zero_add] at hown5
        rw [Nat.zero_add] at hrun
        have hb5 : Below wo.heap.size wo w5 := (Below.refl _ _).grown hgr5 (Nat.le_refl _) (fun i hi => by simp [blk] at hi)
        have HRM := Lib.hid hrun
        have HM5 := Lib.hid hown5
        have HV5 := Lib.hid (HV4.out.next hb5)
        have HS5 := Lib.hid (HSO.out.below hb5)
        have HLM : Hid (∀ i, blk aM = some i → wo.heap.size ≤ i ∧ i < w5.heap.size) := hown5.row.blk_ge
        have HLS : Hid (∀ i, blk aS = some i → i < wo.heap.size) := fun i hi => (HSO.out.row.blk_ge i hi).2
        have HWO : Hid (w.heap.size < wo.heap.size) := HV4.out.lt
        have HBO : Hid (wo.heap.size ≤ w5.heap.size) := hb5.size
        clear hrun hown5 hgr5 hb5 HV4 HSO
        go_wp2_with (at_builtin; refine Lib.wpList_append_run _ rfl (.tmp 113) (.tmp 114) _ _ rfl _ _ rfl rfl _ _ HRM.out ?_)
        refine (uAny_any _).mono ?_
        rintro e w6 ⟨rfl, hb6⟩
        have HV6a := Lib.hid (HV5.out.next hb6)
        have HM6a := Lib.hid (HM5.out.below hb6)
        have HS6a := Lib.hid (HS5.out.below hb6)
        have HGL : Hid (w5.heap.size ≤ w6.heap.size) := hb6.size
        clear hb6 HV5 HM5 HS5
        rcases bool_two deny with hd | hd
        · subst hd
          go_wp2_with (refine stN (fun w' => Hid (w'.rangeAt w6.heap.size 0 any0.cs ∧ w'.there w6.heap.size 0 44 ∧ Below w6.heap.size w6 w')) 43 (.tmp 21) (.tmp 116) rfl rfl _ _ any0.cs rfl rfl (by rw [Rl.len any0_ok]; exact there_new _ _ _ _ rfl _ rfl) (by rw [Rl.len any0_ok]; exact infU) (Rl.one _) (by exact ⟨range_boxed _ _ _ _ (by rw [Rl.len any0_ok]; rfl), World.there_setCells (there_new _ _ _ _ rfl _ rfl) _ _ _, Below.boxed _ _ _ _⟩) ?_; intro wk HWK; have h42 := Rl.rdy any0_ok HWK.out.1; have h43 := Rl.rc any0_ok HWK.out.1; rw [Nat.zero_add] at h42 h43; have hf42 := (HWK.out.2.1 42 (by omega)).2; have hf43 := (HWK.out.2.1 43 (by omega)).2; rw [Nat.zero_add] at hf42 hf43)
          have HLT := Lib.hid (lastT HWK.out.1 HWK.out.2.2 rfl cls)
          obtain ⟨gL, hgL⟩ : ∃ gL, w6.heap.size = gL := ⟨_, rfl⟩
          have HV6 := Lib.hid (HV6a.out.next HLT.out.2)
          have HM6 := Lib.hid (HM6a.out.below HLT.out.2)
          have HS6 := Lib.hid (HS6a.out.below HLT.out.2)
          have HB6 := Lib.hid (Nat.le_trans HGL.out HLT.out.2.size)
          have HLR := Lib.hid HLT.out.1
          rw [hgL] at HLR HGL HV6 HM6 HS6 HB6
          simp only [hgL]
          clear h42 h43 hf42 hf43 HV6a HM6a HS6a hgL HLT HWK
          generalize (wk.setCell ⟨gL, 42, none⟩ (.bool true)) = wl at HLR HV6 HM6 HS6 HB6 ⊢
          refine wp_region_held_drew (S := fun w' => World.rangeAt w' gL 0 (lastR true cls).cs) (by kernel_rfl) HLR.out (fun hS => ?_)
          refine tk 0 123 (.slice aM n cM) rfl rfl (by kernel_rfl) (by kernel_rfl) (by kernel_rfl) (fun _ _ _ h => h) (Or.inl ⟨by rfl, fun w' h' => ?_⟩) hS ?_
          · go_simp
          try simp only [Act.put, List.setIfInBounds_toArray, List.set_cons_zero, List.set_cons_succ]
          refine tk 1 124 (.agg ((lastR true cls).cs).toArray) rfl rfl (by kernel_rfl) (by kernel_rfl) (by kernel_rfl) (fun _ _ _ h => h) (yieldsIf_load_mid (by rfl) _ _ rfl (gL) (0) rfl ((lastR true cls).cs) _ (fun w' h' => h') Try.underlying43 rfl (by rw [Rl.len (lastR_ok _ _)]; exact infU)) hS ?_
          try simp only [Act.put, List.setIfInBounds_toArray, List.set_cons_zero, List.set_cons_succ]
          refine wpAnyH_ready (rs := [2]) (by kernel_rfl) (by simp) (AllReadyH.cons rfl (fun K hK => ?_) AllReadyH.nil)
          rw [if_pos (by rfl)]
          go_wp2_with fail
          refine (uAny_any _).mono ?_
          rintro e w7 ⟨rfl, hb7⟩
          have HV7 := Lib.hid (HV6.out.next (undrew hb7))
          have HM7 := Lib.hid (HM6.out.below (undrew hb7))
          have HS7 := Lib.hid (HS6.out.below (undrew hb7))
          have HB7 : Hid (w5.heap.size ≤ w7.heap.size) := Nat.le_trans HB6.out (undrew hb7).size
          have hra := range_kept (undrew hb7) HLR.out
          have HRA := Lib.hid hra
          clear hb7
          clear hS
          refine hK.out _ _ (hra) (fun hS => ?_)
          clear hK K
          try simp only [Act.put, List.setIfInBounds_toArray, List.set_cons_zero, List.set_cons_succ]
          clear hra
          refine wpAnyH_ready (rs := [3]) (by kernel_rfl) (by simp) (AllReadyH.cons rfl (fun K hK => ?_) AllReadyH.nil)
          rw [if_pos (by rfl)]
          refine wp_bsU 2 _ [lastR true cls, any0] (by intro x hx; simp only [List.mem_cons, List.not_mem_nil, or_false] at hx; rcases hx with rfl | rfl; exact lastR_ok _ _; exact any0_ok) rfl (by omega) (by omega) rfl (by rfl) ?_
          intro w8 hrl hb8 hsz8
          have HV8 := Lib.hid (HV7.out.next hb8)
          have HS8 := Lib.hid (HS7.out.below hb8)
          have hrb := range_kept hb8 HRA.out
          have HRB := Lib.hid hrb
          obtain ⟨aN, cN, w9, hrun, hownN, hgrN, _⟩ := run_append_rls w8 wo.heap.size 22 (HM7.out.below hb8) 2 hrl (by omega) (by have h1 := HV8.out.lt; have h2 := hb8.size; have h3 := HBO.out; have h4 := HB7.out; omega)
          have HRN := Lib.hid hrun
          have HMN := Lib.hid hownN.rls
          have HNN := Lib.hid hownN.cap
          have hk9 : Kept (fun i => blk aM = some i) w8 w9 := Kept.grown hgrN (fun k h => h)
          have HS9 := Lib.hid (HS8.out.keep hk9 (fun i hi h => by have h1 := HLS.out i hi; have h2 := HLM.out i h; omega))
          have HV9 : Hid (Lv w w9 k) := ⟨HV8.out.below.trans (hk9.below HV8.out.below.size (fun i h => by have h2 := HLM.out i h; have h3 := HWO.out; omega)), range_keep hk9 (fun h => by have h2 := HLM.out _ h; have h3 := HWO.out; omega) HV8.out.key, by have h1 := hk9.size; have h2 := HV8.out.lt; omega⟩
          have hrc := range_keep hk9 (fun h => by have h2 := HLM.out _ h; have h3 := HGL.out; omega) hrb
          clear hrl hb8 hsz8 hrun hownN hgrN hk9
          clear hS
          refine hK.out _ _ (hrb) (fun hS => ?_)
          clear hK K
          try simp only [Act.put, List.setIfInBounds_toArray]
          clear hrb
          refine wpAnyH_ready (rs := [4]) (by kernel_rfl) (by simp) (AllReadyH.cons rfl (fun K hK => ?_) AllReadyH.nil)
          rw [if_pos (by rfl)]
          refine Lib.wp_append_run _ (.tmp 123) (.tmp 126) _ _ rfl _ _ rfl rfl _ _ HRN.out ?_
          clear hS
          refine hK.out _ _ (hrc) (fun hS => ?_)
          clear hK K
          try simp only [Act.put]
          refine tk 5 20 (.slice aN (n + 2) cN) rfl rfl (by kernel_rfl) (by kernel_rfl) (by kernel_rfl) (fun _ _ _ h => h) (Or.inl ⟨by rfl, fun w' h' => ?_⟩) hS ?_
          · go_simp
          refine wpAnyH_done (by kernel_rfl) ?_ _
          have hnS2 : nS ≤ 20 := by have h1 := HS9.out.len; have h2 := lvs_len l l.length; have h3 := HL.out.len; omega
          go_wp2_with fail
          refine (uNew_any true cls aS nS cS (lvs l l.length) _ HS9.out.rls (by omega) HS9.out.cap).mono ?_
          rintro e wA hnA
          obtain ⟨bA, rfl, hcA, hgA⟩ := hnA.yes (newOk_lvs true cls l HOK.out)
          have HVA := Lib.hid (HV9.out.next hnA.1)
          have HCA := Lib.hid hcA
          have HGA : Hid (w.heap.size < bA) := by have := HV9.out.lt; show _ < _; omega
          have HMA := Lib.hid (HMN.out.below hnA.1)
          clear hnA hcA hgA HV9 HMN HS9 hnS2
          go_wp2_with fail
          refine (uNew_any false 0 aN (n + 2) cN (l ++ [lastR true cls, any0]) _ HMA.out (by omega) HNN.out).mono ?_
          rintro e wB hnB
          obtain ⟨bB, rfl, hcB, hgB⟩ := hnB.yes (newOk_more true cls l HOK.out)
          have HVB := Lib.hid (HVA.out.next hnB.1)
          have HCB := Lib.hid hcB
          have HGB : Hid (w.heap.size < bB) := by have := HVA.out.lt; show _ < _; omega
          have HAB : Hid (bB ≠ bA) := by have := HCA.out.lt; show _ ≠ _; omega
          have HCA2 := Lib.hid (HCA.out.below hnB.1)
          clear hnB hcB hgB HVA HMA HCA
          go_wp2_with (refine ldK (.tmp 8) rfl rfl _ _ rfl k HK.out (by with_reducible exact HVB.out.key) ?_)
          refine (uClass_any bA (lvs l l.length) (othr true cls) k _ HCA2.out HK.out).mono ?_
          rintro e wC ⟨rfl, hkc, _⟩
          have HVC := Lib.hid (HVB.out.count HGA.out hkc)
          have HCB2 := Lib.hid (HCB.out.other HCA2.out HAB.out hkc)
          clear hkc HVB HCB HCA2
          simp only [told_leave l k (othr true cls) HL.out.ok HK.out, HN.out, HF.out]
          go_wp2_with (refine ldK (.tmp 8) rfl rfl _ _ rfl k HK.out (by with_reducible exact HVC.out.key) ?_)
          refine (uClass_any bB (l ++ [lastR true cls, any0]) (othr false 0) k _ HCB2.out HK.out).mono ?_
          rintro e wD ⟨rfl, hkc, _⟩
          have HVD := Lib.hid (HVC.out.count HGB.out hkc)
          clear hkc HVC HCB2
          simp only [told_more k true cls l (othr false 0) ((newOk_iff true cls l).1 HOK.out).2, HN.out, HF.out]
          rcases Nat.lt_or_ge n 2 with hn1 | hn1
          · have hn3 : (n : Int) < 2 := by omega
            go_wp2_with fail
            refine (works9_any _).mono ?_
            rintro e wE ⟨rfl, hbE⟩
            have HVE := Lib.hid (HVD.out.next hbE)
            clear hbE
            go_wp2_with fail
            go_ret
            exact ⟨rfl, HVE.out.below⟩
          · have hn3 : ¬ (n : Int) < 2 := by omega
            go_wp2_with fail
            refine (kPick_any att ((n : Int) - 1) _ (by omega) (by omega)).mono ?_
            rintro e wE ⟨rfl, rfl⟩
            obtain ⟨m, hm⟩ := Int.eq_ofNat_of_zero_le (Int.emod_nonneg att (show (n : Int) - 1 ≠ 0 by omega))
            have hmlt := Int.emod_lt_of_pos att (show (0 : Int) < (n : Int) - 1 by omega)
            rw [hm] at hmlt
            simp only [hm]
            clear hm
            obtain ⟨m1, hm1⟩ : ∃ m1, m + 1 = m1 := ⟨_, rfl⟩
            have hmn : (m : Int) < (n : Int) := by omega
            have hm1n : (m1 : Int) < (n : Int) := by omega
            have hw1 : IntKind.i64.wrap ((m : Int) + 1) = (m1 : Int) := by rw [IntKind.wrap_i64]; omega
            obtain ⟨r, ba, oa, hr, hrok, rfl, hrg⟩ := (HL.out.below HVD.out.below).nth (show m < n by omega)
            obtain ⟨s, b', o', hs, hsok, e', hsg⟩ := (HL.out.below HVD.out.below).nth (show m1 < n by omega)
            simp only [Option.some.injEq, Addr.mk.injEq, and_true] at e'
            obtain ⟨rfl, rfl⟩ := e'
            have HRG := Lib.hid hrg
            have HSG := Lib.hid hsg
            have HRO := Lib.hid hrok
            have HSOK := Lib.hid hsok
            have HRL := Lib.hid hr
            have HSL := Lib.hid hs
            have HM1 := Lib.hid hm1
            have HRR : Hid (rgB r = true ∧ rgB s = true) := ⟨((newOk_iff true cls l).1 HOK.out).1 r (List.mem_of_getElem? hr), ((newOk_iff true cls l).1 HOK.out).1 s (List.mem_of_getElem? hs)⟩
            clear hrg hsg hrok hsok hr hs hm1 hmlt
            cases hf1 : fit k r with
            | true =>
              have HF1 : Hid ((rgB r && fit k r) = true) := by show _ = _; rw [HRR.out.1, hf1]; rfl
              have HFR := Lib.hid hf1
              clear hf1
              go_wp2_with fail
              refine wp_region_held_drew (S := fun w' => World.rangeAt w' ba (oa + m * 44) r.cs ∧ World.rangeAt w' ba (oa + m1 * 44) s.cs ∧ World.rangeAt w' w.heap.size 0 k.cs) (by kernel_rfl) ⟨HRG.out, HSG.out, HVD.out.key⟩ (fun hS => ?_)
              refine tk 0 187 (.slice (some ⟨ba, oa, none⟩) n c) rfl rfl (by kernel_rfl) (by kernel_rfl) (by kernel_rfl) (fun _ _ _ h => h) (Or.inl ⟨by rfl, fun w' h' => ?_⟩) hS ?_
              · go_simp
              try simp only [Act.put, List.setIfInBounds_toArray, List.set_cons_zero, List.set_cons_succ]
              refine tk 1 188 (.int .i64 (m : Int)) rfl rfl (by kernel_rfl) (by kernel_rfl) (by kernel_rfl) (fun _ _ _ h => h) (Or.inl ⟨by rfl, fun w' h' => ?_⟩) hS ?_
              · go_simp
              try simp only [Act.put, List.setIfInBounds_toArray, List.set_cons_zero, List.set_cons_succ]
              refine tk 2 189 (.pointer (some ⟨ba, oa + m * 44, none⟩)) rfl rfl (by kernel_rfl) (by kernel_rfl) (by kernel_rfl) (fun _ _ _ h => h) (Or.inl ⟨by rfl, fun w' h' => ?_⟩) hS ?_
              · go_simp
              try simp only [Act.put, List.setIfInBounds_toArray, List.set_cons_zero, List.set_cons_succ]
              refine tk 3 190 (.agg (r.cs).toArray) rfl rfl (by kernel_rfl) (by kernel_rfl) (by kernel_rfl) (fun _ _ _ h => h) (yieldsIf_load_mid (by rfl) _ _ rfl (ba) (oa + m * 44) rfl (r.cs) _ (fun w' h' => h'.1) Try.underlying43 rfl (by rw [Rl.len HRO.out]; exact infU)) hS ?_
              try simp only [Act.put, List.setIfInBounds_toArray, List.set_cons_zero, List.set_cons_succ]
              refine tk 4 191 (.agg (k.cs).toArray) rfl rfl (by kernel_rfl) (by kernel_rfl) (by kernel_rfl) (fun _ _ _ h => h) (yieldsIf_load_mid (by rfl) _ _ rfl (w.heap.size) (0) rfl (k.cs) _ (fun w' h' => h'.2.2) Try.underlying28 rfl (by rw [Ky.len HK.out]; exact infK)) hS ?_
              try simp only [Act.put, List.setIfInBounds_toArray, List.set_cons_zero, List.set_cons_succ]
              refine wpAnyH_ready (rs := [5]) (by kernel_rfl) (by simp) (AllReadyH.cons rfl (fun K hK => ?_) AllReadyH.nil)
              rw [if_pos (by rfl)]
              go_wp2_with fail
              refine (uFits_any r k _ HRO.out HK.out).mono ?_
              rintro e wF ⟨rfl, hbF⟩
              have HVF := Lib.hid (HVD.out.next (undrew hbF))
              have hra := And.intro (range_kept (undrew hbF) HRG.out) (And.intro (range_kept (undrew hbF) HSG.out) HVF.out.key)
              have HRA := Lib.hid hra
              clear hbF
              simp only [HF1.out]
              clear hS
              refine hK.out _ _ (hra) (fun hS => ?_)
              clear hK K
              clear hra
              try simp only [Act.put, List.setIfInBounds_toArray, List.set_cons_zero, List.set_cons_succ]
              refine tk 6 193 (.bool true) rfl rfl (by kernel_rfl) (by kernel_rfl) (by kernel_rfl) (fun _ _ _ h => h) (Or.inl ⟨by rfl, fun w' h' => ?_⟩) hS ?_
              · go_simp
              try simp only [Act.put, List.setIfInBounds_toArray, List.set_cons_zero, List.set_cons_succ]
              refine tk 7 194 (.slice (some ⟨ba, oa, none⟩) n c) rfl rfl (by kernel_rfl) (by kernel_rfl) (by kernel_rfl) (fun _ _ _ h => h) (Or.inl ⟨by rfl, fun w' h' => ?_⟩) hS ?_
              · go_simp
              try simp only [Act.put, List.setIfInBounds_toArray, List.set_cons_zero, List.set_cons_succ]
              refine tk 8 195 (.int .i64 (m : Int)) rfl rfl (by kernel_rfl) (by kernel_rfl) (by kernel_rfl) (fun _ _ _ h => h) (Or.inl ⟨by rfl, fun w' h' => ?_⟩) hS ?_
              · go_simp
              try simp only [Act.put, List.setIfInBounds_toArray, List.set_cons_zero, List.set_cons_succ]
              refine tk 9 196 (.int .i64 (m1 : Int)) rfl rfl (by kernel_rfl) (by kernel_rfl) (by kernel_rfl) (fun _ _ _ h => h) (Or.inl ⟨by rfl, fun w' h' => ?_⟩) hS ?_
              · go_simp
              try simp only [Act.put, List.setIfInBounds_toArray, List.set_cons_zero, List.set_cons_succ]
              refine tk 10 197 (.pointer (some ⟨ba, oa + m1 * 44, none⟩)) rfl rfl (by kernel_rfl) (by kernel_rfl) (by kernel_rfl) (fun _ _ _ h => h) (Or.inl ⟨by rfl, fun w' h' => ?_⟩) hS ?_
              · go_simp
              try simp only [Act.put, List.setIfInBounds_toArray, List.set_cons_zero, List.set_cons_succ]
              refine tk 11 198 (.agg (s.cs).toArray) rfl rfl (by kernel_rfl) (by kernel_rfl) (by kernel_rfl) (fun _ _ _ h => h) (yieldsIf_load_mid (by rfl) _ _ rfl (ba) (oa + m1 * 44) rfl (s.cs) _ (fun w' h' => h'.2.1) Try.underlying43 rfl (by rw [Rl.len HSOK.out]; exact infU)) hS ?_
              try simp only [Act.put, List.setIfInBounds_toArray, List.set_cons_zero, List.set_cons_succ]
              refine tk 12 199 (.agg (k.cs).toArray) rfl rfl (by kernel_rfl) (by kernel_rfl) (by kernel_rfl) (fun _ _ _ h => h) (yieldsIf_load_mid (by rfl) _ _ rfl (w.heap.size) (0) rfl (k.cs) _ (fun w' h' => h'.2.2) Try.underlying28 rfl (by rw [Ky.len HK.out]; exact infK)) hS ?_
              try simp only [Act.put, List.setIfInBounds_toArray, List.set_cons_zero, List.set_cons_succ]
              refine wpAnyH_ready (rs := [13]) (by kernel_rfl) (by simp) (AllReadyH.cons rfl (fun K hK => ?_) AllReadyH.nil)
              rw [if_pos (by rfl)]
              go_wp2_with fail
              refine (uFits_any s k _ HSOK.out HK.out).mono ?_
              rintro e wG ⟨rfl, hbG⟩
              have HVG := Lib.hid (HVF.out.next hbG)
              have hrb := And.intro (range_kept hbG HRA.out.1) (And.intro (range_kept hbG HRA.out.2.1) HVG.out.key)
              clear hbG
              clear hS
              refine hK.out _ _ (hrb) (fun hS => ?_)
              clear hK K
              clear hrb
              try simp only [Act.put, List.setIfInBounds_toArray, List.set_cons_zero, List.set_cons_succ]
              refine tk 14 201 (.bool (rgB s && fit k s)) rfl rfl (by kernel_rfl) (by kernel_rfl) (by kernel_rfl) (fun _ _ _ h => h) (Or.inl ⟨by rfl, fun w' h' => ?_⟩) hS ?_
              · go_simp
              refine wpAnyH_done (by kernel_rfl) ?_ _
              rcases bool_two (fit k s) with hf2 | hf2
              · have HF2 : Hid ((rgB s && fit k s) = true) := by show _ = _; rw [HRR.out.2, hf2]; rfl
                simp only [HF2.out]
                clear hf2
                go_wp2_with fail
                refine (works9_any _).mono ?_
                rintro e wH ⟨rfl, hbH⟩
                have HVH := Lib.hid (HVG.out.next hbH)
                clear hbH
                go_wp2_with fail
                go_ret
                exact ⟨rfl, HVH.out.below⟩
              · have HF2 : Hid ((rgB s && fit k s) = false) := by show _ = _; rw [HRR.out.2, hf2]; rfl
                have HNB : Hid ((fit k r && fit k s) = false) := by show _ = _; rw [hf2, Bool.and_false]
                simp only [HF2.out]
                clear hf2
                obtain ⟨aT, cT, wI, hrun, hownT, hgrT, _⟩ := run_append_rls wG wG.heap.size 22 (OwnU.nil wG wG.heap.size) c (HL.out.below HVG.out.below) (by omega) (Nat.le_refl _)
                rw [List.nil_append, Nat.zero_add] at hownT
                rw [Nat.zero_add] at hrun
                have hbI : Below wG.heap.size wG wI := (Below.refl _ _).grown hgrT (Nat.le_refl _) (fun i hi => by simp [blk] at hi)
                have HRT := Lib.hid hrun
                obtain ⟨gT, rfl, hgT, hthT⟩ := hownT.th (by omega)
                have HTZ : Hid (Tz w wI k gT n l) := ⟨HVG.out.next hbI, hownT.rls, hthT, by have := HVG.out.lt; omega⟩
                have HSI : Hid (wI.rangeAt ba (oa + m1 * 44) s.cs) := (HL.out.below HTZ.out.lv.below).at_ HSL.out
                clear hrun hownT hgrT hbI hgT hthT
                go_wp2_with (first
                  | (at_builtin; refine Lib.wpList_append_run _ rfl (.tmp 203) (.tmp 204) _ _ rfl _ _ rfl rfl _ _ HRT.out ?_)
                  | (refine ldU (.tmp 211) rfl rfl _ _ rfl s HSOK.out (by with_reducible exact HSI.out) ?_)
                  | (refine stN (fun w' => Hid (Tz w w' k gT n (l.set m s))) 43 (.tmp 213) (.tmp 212) rfl rfl _ _ s.cs rfl rfl (by rw [Rl.len HSOK.out]; exact there_part HTZ.out.th (by omega)) (by rw [Rl.len HSOK.out]; exact infU) (Rl.one s) (by exact HTZ.out.set (by omega) HSOK.out) ?_; intro wJ HTY; have HRJ : Hid (wJ.rangeAt ba (oa + m * 44) r.cs) := (HL.out.below HTY.out.lv.below).at_ HRL.out)
                  | (refine ldU (.tmp 219) rfl rfl _ _ rfl r HRO.out (by with_reducible exact HRJ.out) ?_)
                  | (refine stN (fun w' => Hid (Tz w w' k gT n ((l.set m s).set m1 r))) 43 (.tmp 221) (.tmp 220) rfl rfl _ _ r.cs rfl rfl (by rw [Rl.len HRO.out]; exact there_part HTY.out.th (by omega)) (by rw [Rl.len HRO.out]; exact infU) (Rl.one r) (by exact HTY.out.set (by omega) HRO.out) ?_; intro wK HTX))
                refine (uNew_any true cls (some ⟨gT, 0, none⟩) n cT ((l.set m s).set m1 r) _ HTX.out.rls (by omega) (by intro h; cases h)).mono ?_
                rintro e wL hnL
                obtain ⟨bL, rfl, hcL, hgL⟩ := hnL.yes ((newOk_iff true cls _).2 ⟨fun x hx => by
                  rcases List.mem_or_eq_of_mem_set hx with h1 | rfl
                  · rcases List.mem_or_eq_of_mem_set h1 with h2 | rfl
                    · exact ((newOk_iff true cls l).1 HOK.out).1 x h2
                    · exact HRR.out.2
                  · exact HRR.out.1, ((newOk_iff true cls l).1 HOK.out).2⟩)
                have HVL := Lib.hid (HTX.out.lv.next hnL.1)
                have HCL := Lib.hid hcL
                have HGLL : Hid (w.heap.size < bL) := by have := HTX.out.lv.lt; show _ < _; omega
                have HTT : Hid (told (fit k) (othr true cls) ((l.set m s).set m1 r) = told (fit k) (othr true cls) l) := by
                  have h1 := set_two HRL.out (show l[m + 1]? = some s by rw [HM1.out]; exact HSL.out)
                  rw [HM1.out] at h1
                  show _ = _
                  rw [h1.2, told_turn _ _ _ _ _ _ HNB.out, ← h1.1]
                clear hnL hcL hgL
                go_wp2_with (refine ldK (.tmp 8) rfl rfl _ _ rfl k HK.out (by with_reducible exact HVL.out.key) ?_)
                refine (uClass_any bL ((l.set m s).set m1 r) (othr true cls) k _ HCL.out HK.out).mono ?_
                rintro e wM ⟨rfl, hkc, _⟩
                have HVM := Lib.hid (HVL.out.count HGLL.out hkc)
                clear hkc HVL HCL
                simp only [HTT.out, HN.out, HF.out]
                go_wp2_with fail
                refine (works9_any _).mono ?_
                rintro e wN ⟨rfl, hbN⟩
                have HVN := Lib.hid (HVM.out.next hbN)
                clear hbN
                go_wp2_with fail
                go_ret
                exact ⟨rfl, HVN.out.below⟩
            | false =>
              have HF1 : Hid ((rgB r && fit k r) = false) := by show _ = _; rw [hf1, Bool.and_false]
              have HNB : Hid ((fit k r && fit k s) = false) := by show _ = _; rw [hf1, Bool.false_and]
              clear hf1
              go_wp2_with fail
              refine wp_region_held_drew (S := fun w' => World.rangeAt w' ba (oa + m * 44) r.cs ∧ World.rangeAt w' ba (oa + m1 * 44) s.cs ∧ World.rangeAt w' w.heap.size 0 k.cs) (by kernel_rfl) ⟨HRG.out, HSG.out, HVD.out.key⟩ (fun hS => ?_)
              refine tk 0 187 (.slice (some ⟨ba, oa, none⟩) n c) rfl rfl (by kernel_rfl) (by kernel_rfl) (by kernel_rfl) (fun _ _ _ h => h) (Or.inl ⟨by rfl, fun w' h' => ?_⟩) hS ?_
              · go_simp
              try simp only [Act.put, List.setIfInBounds_toArray, List.set_cons_zero, List.set_cons_succ]
              refine tk 1 188 (.int .i64 (m : Int)) rfl rfl (by kernel_rfl) (by kernel_rfl) (by kernel_rfl) (fun _ _ _ h => h) (Or.inl ⟨by rfl, fun w' h' => ?_⟩) hS ?_
              · go_simp
              try simp only [Act.put, List.setIfInBounds_toArray, List.set_cons_zero, List.set_cons_succ]
              refine tk 2 189 (.pointer (some ⟨ba, oa + m * 44, none⟩)) rfl rfl (by kernel_rfl) (by kernel_rfl) (by kernel_rfl) (fun _ _ _ h => h) (Or.inl ⟨by rfl, fun w' h' => ?_⟩) hS ?_
              · go_simp
              try simp only [Act.put, List.setIfInBounds_toArray, List.set_cons_zero, List.set_cons_succ]
              refine tk 3 190 (.agg (r.cs).toArray) rfl rfl (by kernel_rfl) (by kernel_rfl) (by kernel_rfl) (fun _ _ _ h => h) (yieldsIf_load_mid (by rfl) _ _ rfl (ba) (oa + m * 44) rfl (r.cs) _ (fun w' h' => h'.1) Try.underlying43 rfl (by rw [Rl.len HRO.out]; exact infU)) hS ?_
              try simp only [Act.put, List.setIfInBounds_toArray, List.set_cons_zero, List.set_cons_succ]
              refine tk 4 191 (.agg (k.cs).toArray) rfl rfl (by kernel_rfl) (by kernel_rfl) (by kernel_rfl) (fun _ _ _ h => h) (yieldsIf_load_mid (by rfl) _ _ rfl (w.heap.size) (0) rfl (k.cs) _ (fun w' h' => h'.2.2) Try.underlying28 rfl (by rw [Ky.len HK.out]; exact infK)) hS ?_
              try simp only [Act.put, List.setIfInBounds_toArray, List.set_cons_zero, List.set_cons_succ]
              refine wpAnyH_ready (rs := [5]) (by kernel_rfl) (by simp) (AllReadyH.cons rfl (fun K hK => ?_) AllReadyH.nil)
              rw [if_pos (by rfl)]
              go_wp2_with fail
              refine (uFits_any r k _ HRO.out HK.out).mono ?_
              rintro e wF ⟨rfl, hbF⟩
              have HVF := Lib.hid (HVD.out.next (undrew hbF))
              have hra := And.intro (range_kept (undrew hbF) HRG.out) (And.intro (range_kept (undrew hbF) HSG.out) HVF.out.key)
              have HRA := Lib.hid hra
              clear hbF
              simp only [HF1.out]
              clear hS
              refine hK.out _ _ (hra) (fun hS => ?_)
              clear hK K
              clear hra
              try simp only [Act.put, List.setIfInBounds_toArray, List.set_cons_zero, List.set_cons_succ]
              refine tk 6 193 (.bool false) rfl rfl (by kernel_rfl) (by kernel_rfl) (by kernel_rfl) (fun _ _ _ h => h) (Or.inl ⟨by rfl, fun w' h' => ?_⟩) hS ?_
              · go_simp
              try simp only [Act.put, List.setIfInBounds_toArray, List.set_cons_zero, List.set_cons_succ]
              refine tk 7 194 undef rfl rfl (by kernel_rfl) (by kernel_rfl) (by kernel_rfl) (fun _ _ _ h => h) (Or.inr ⟨by rfl, rfl⟩) hS ?_
              try simp only [Act.put, List.setIfInBounds_toArray, List.set_cons_zero, List.set_cons_succ]
              refine tk 8 195 undef rfl rfl (by kernel_rfl) (by kernel_rfl) (by kernel_rfl) (fun _ _ _ h => h) (Or.inr ⟨by rfl, rfl⟩) hS ?_
              try simp only [Act.put, List.setIfInBounds_toArray, List.set_cons_zero, List.set_cons_succ]
              refine tk 9 196 undef rfl rfl (by kernel_rfl) (by kernel_rfl) (by kernel_rfl) (fun _ _ _ h => h) (Or.inr ⟨by rfl, rfl⟩) hS ?_
              try simp only [Act.put, List.setIfInBounds_toArray, List.set_cons_zero, List.set_cons_succ]
              refine tk 10 197 undef rfl rfl (by kernel_rfl) (by kernel_rfl) (by kernel_rfl) (fun _ _ _ h => h) (Or.inr ⟨by rfl, rfl⟩) hS ?_
              try simp only [Act.put, List.setIfInBounds_toArray, List.set_cons_zero, List.set_cons_succ]
              refine tk 11 198 undef rfl rfl (by kernel_rfl) (by kernel_rfl) (by kernel_rfl) (fun _ _ _ h => h) (Or.inr ⟨by rfl, rfl⟩) hS ?_
              try simp only [Act.put, List.setIfInBounds_toArray, List.set_cons_zero, List.set_cons_succ]
              refine tk 12 199 undef rfl rfl (by kernel_rfl) (by kernel_rfl) (by kernel_rfl) (fun _ _ _ h => h) (Or.inr ⟨by rfl, rfl⟩) hS ?_
              try simp only [Act.put, List.setIfInBounds_toArray, List.set_cons_zero, List.set_cons_succ]
              refine tk 13 200 undef rfl rfl (by kernel_rfl) (by kernel_rfl) (by kernel_rfl) (fun _ _ _ h => h) (Or.inr ⟨by rfl, rfl⟩) hS ?_
              try simp only [Act.put, List.setIfInBounds_toArray, List.set_cons_zero, List.set_cons_succ]
              refine tk 14 201 (.bool false) rfl rfl (by kernel_rfl) (by kernel_rfl) (by kernel_rfl) (fun _ _ _ h => h) (Or.inl ⟨by rfl, fun w' h' => ?_⟩) hS ?_
              · go_simp
              refine wpAnyH_done (by kernel_rfl) ?_ _
              obtain ⟨aT, cT, wI, hrun, hownT, hgrT, _⟩ := run_append_rls wF wF.heap.size 22 (OwnU.nil wF wF.heap.size) c (HL.out.below HVF.out.below) (by omega) (Nat.le_refl _)
              rw [List.nil_append, Nat.zero_add] at hownT
              rw [Nat.zero_add] at hrun
              have hbI : Below wF.heap.size wF wI := (Below.refl _ _).grown hgrT (Nat.le_refl _) (fun i hi => by simp [blk] at hi)
              have HRT := Lib.hid hrun
              obtain ⟨gT, rfl, hgT, hthT⟩ := hownT.th (by omega)
              have HTZ : Hid (Tz w wI k gT n l) := ⟨HVF.out.next hbI, hownT.rls, hthT, by have := HVF.out.lt; omega⟩
              have HSI : Hid (wI.rangeAt ba (oa + m1 * 44) s.cs) := (HL.out.below HTZ.out.lv.below).at_ HSL.out
              clear hrun hownT hgrT hbI hgT hthT
              go_wp2_with (first
                | (at_builtin; refine Lib.wpList_append_run _ rfl (.tmp 203) (.tmp 204) _ _ rfl _ _ rfl rfl _ _ HRT.out ?_)
                | (refine ldU (.tmp 211) rfl rfl _ _ rfl s HSOK.out (by with_reducible exact HSI.out) ?_)
                | (refine stN (fun w' => Hid (Tz w w' k gT n (l.set m s))) 43 (.tmp 213) (.tmp 212) rfl rfl _ _ s.cs rfl rfl (by rw [Rl.len HSOK.out]; exact there_part HTZ.out.th (by omega)) (by rw [Rl.len HSOK.out]; exact infU) (Rl.one s) (by exact HTZ.out.set (by omega) HSOK.out) ?_; intro wJ HTY; have HRJ : Hid (wJ.rangeAt ba (oa + m * 44) r.cs) := (HL.out.below HTY.out.lv.below).at_ HRL.out)
                | (refine ldU (.tmp 219) rfl rfl _ _ rfl r HRO.out (by with_reducible exact HRJ.out) ?_)
                | (refine stN (fun w' => Hid (Tz w w' k gT n ((l.set m s).set m1 r))) 43 (.tmp 221) (.tmp 220) rfl rfl _ _ r.cs rfl rfl (by rw [Rl.len HRO.out]; exact there_part HTY.out.th (by omega)) (by rw [Rl.len HRO.out]; exact infU) (Rl.one r) (by exact HTY.out.set (by omega) HRO.out) ?_; intro wK HTX))
              refine (uNew_any true cls (some ⟨gT, 0, none⟩) n cT ((l.set m s).set m1 r) _ HTX.out.rls (by omega) (by intro h; cases h)).mono ?_
              rintro e wL hnL
              obtain ⟨bL, rfl, hcL, hgL⟩ := hnL.yes ((newOk_iff true cls _).2 ⟨fun x hx => by
                rcases List.mem_or_eq_of_mem_set hx with h1 | rfl
                · rcases List.mem_or_eq_of_mem_set h1 with h2 | rfl
                  · exact ((newOk_iff true cls l).1 HOK.out).1 x h2
                  · exact HRR.out.2
                · exact HRR.out.1, ((newOk_iff true cls l).1 HOK.out).2⟩)
              have HVL := Lib.hid (HTX.out.lv.next hnL.1)
              have HCL := Lib.hid hcL
              have HGLL : Hid (w.heap.size < bL) := by have := HTX.out.lv.lt; show _ < _; omega
              have HTT : Hid (told (fit k) (othr true cls) ((l.set m s).set m1 r) = told (fit k) (othr true cls) l) := by
                have h1 := set_two HRL.out (show l[m + 1]? = some s by rw [HM1.out]; exact HSL.out)
                rw [HM1.out] at h1
                show _ = _
                rw [h1.2, told_turn _ _ _ _ _ _ HNB.out, ← h1.1]
              clear hnL hcL hgL
              go_wp2_with (refine ldK (.tmp 8) rfl rfl _ _ rfl k HK.out (by with_reducible exact HVL.out.key) ?_)
              refine (uClass_any bL ((l.set m s).set m1 r) (othr true cls) k _ HCL.out HK.out).mono ?_
              rintro e wM ⟨rfl, hkc, _⟩
              have HVM := Lib.hid (HVL.out.count HGLL.out hkc)
              clear hkc HVL HCL
              simp only [HTT.out, HN.out, HF.out]
              go_wp2_with fail
              refine (works9_any _).mono ?_
              rintro e wN ⟨rfl, hbN⟩
              have HVN := Lib.hid (HVM.out.next hbN)
              clear hbN
              go_wp2_with fail
              go_ret
              exact ⟨rfl, HVN.out.below⟩
        · subst hd
          go_wp2_with (refine stN (fun w' => Hid (w'.rangeAt w6.heap.size 0 any0.cs ∧ w'.there w6.heap.size 0 44 ∧ Below w6.heap.size w6 w')) 43 (.tmp 21) (.tmp 116) rfl rfl _ _ any0.cs rfl rfl (by rw [Rl.len any0_ok]; exact there_new _ _ _ _ rfl _ rfl) (by rw [Rl.len any0_ok]; exact infU) (Rl.one _) (by exact ⟨range_boxed _ _ _ _ (by rw [Rl.len any0_ok]; rfl), World.there_setCells (there_new _ _ _ _ rfl _ rfl) _ _ _, Below.boxed _ _ _ _⟩) ?_; intro wk HWK; have h42 := Rl.rdy any0_ok HWK.out.1; have h43 := Rl.rc any0_ok HWK.out.1; rw [Nat.zero_add] at h42 h43; have hf42 := (HWK.out.2.1 42 (by omega)).2; have hf43 := (HWK.out.2.1 43 (by omega)).2; rw [Nat.zero_add] at hf42 hf43)
          have HLT := Lib.hid (lastF HWK.out.1 HWK.out.2.2 rfl cls)
          obtain ⟨gL, hgL⟩ : ∃ gL, w6.heap.size = gL := ⟨_, rfl⟩
          have HV6 := Lib.hid (HV6a.out.next HLT.out.2)
          have HM6 := Lib.hid (HM6a.out.below HLT.out.2)
          have HS6 := Lib.hid (HS6a.out.below HLT.out.2)
          have HB6 := Lib.hid (Nat.le_trans HGL.out HLT.out.2.size)
          have HLR := Lib.hid HLT.out.1
          rw [hgL] at HLR HGL HV6 HM6 HS6 HB6
          simp only [hgL]
          clear h42 h43 hf42 hf43 HV6a HM6a HS6a hgL HLT HWK
          generalize ((wk.setCell ⟨gL, 42, none⟩ (.bool false)).setCell ⟨gL, 43, none⟩ (.int .i64 cls)) = wl at HLR HV6 HM6 HS6 HB6 ⊢
          refine wp_region_held_drew (S := fun w' => World.rangeAt w' gL 0 (lastR false cls).cs) (by kernel_rfl) HLR.out (fun hS => ?_)
          refine tk 0 123 (.slice aM n cM) rfl rfl (by kernel_rfl) (by kernel_rfl) (by kernel_rfl) (fun _ _ _ h => h) (Or.inl ⟨by rfl, fun w' h' => ?_⟩) hS ?_
          · go_simp
          try simp only [Act.put, List.setIfInBounds_toArray, List.set_cons_zero, List.set_cons_succ]
          refine tk 1 124 (.agg ((lastR false cls).cs).toArray) rfl rfl (by kernel_rfl) (by kernel_rfl) (by kernel_rfl) (fun _ _ _ h => h) (yieldsIf_load_mid (by rfl) _ _ rfl (gL) (0) rfl ((lastR false cls).cs) _ (fun w' h' => h') Try.underlying43 rfl (by rw [Rl.len (lastR_ok _ _)]; exact infU)) hS ?_
          try simp only [Act.put, List.setIfInBounds_toArray, List.set_cons_zero, List.set_cons_succ]
          refine wpAnyH_ready (rs := [2]) (by kernel_rfl) (by simp) (AllReadyH.cons rfl (fun K hK => ?_) AllReadyH.nil)
          rw [if_pos (by rfl)]
          go_wp2_with fail
          refine (uAny_any _).mono ?_
          rintro e w7 ⟨rfl, hb7⟩
          have HV7 := Lib.hid (HV6.out.next (undrew hb7))
          have HM7 := Lib.hid (HM6.out.below (undrew hb7))
          have HS7 := Lib.hid (HS6.out.below (undrew hb7))
          have HB7 : Hid (w5.heap.size ≤ w7.heap.size) := Nat.le_trans HB6.out (undrew hb7).size
          have hra := range_kept (undrew hb7) HLR.out
          have HRA := Lib.hid hra
          clear hb7
          clear hS
          refine hK.out _ _ (hra) (fun hS => ?_)
          clear hK K
          try simp only [Act.put, List.setIfInBounds_toArray, List.set_cons_zero, List.set_cons_succ]
          clear hra
          refine wpAnyH_ready (rs := [3]) (by kernel_rfl) (by simp) (AllReadyH.cons rfl (fun K hK => ?_) AllReadyH.nil)
          rw [if_pos (by rfl)]
          refine wp_bsU 2 _ [lastR false cls, any0] (by intro x hx; simp only [List.mem_cons, List.not_mem_nil, or_false] at hx; rcases hx with rfl | rfl; exact lastR_ok _ _; exact any0_ok) rfl (by omega) (by omega) rfl (by rfl) ?_
          intro w8 hrl hb8 hsz8
          have HV8 := Lib.hid (HV7.out.next hb8)
          have HS8 := Lib.hid (HS7.out.below hb8)
          have hrb := range_kept hb8 HRA.out
          have HRB := Lib.hid hrb
          obtain ⟨aN, cN, w9, hrun, hownN, hgrN, _⟩ := run_append_rls w8 wo.heap.size 22 (HM7.out.below hb8) 2 hrl (by omega) (by have h1 := HV8.out.lt; have h2 := hb8.size; have h3 := HBO.out; have h4 := HB7.out; omega)
          have HRN := Lib.hid hrun
          have HMN := Lib.hid hownN.rls
          have HNN := Lib.hid hownN.cap
          have hk9 : Kept (fun i => blk aM = some i) w8 w9 := Kept.grown hgrN (fun k h => h)
          have HS9 := Lib.hid (HS8.out.keep hk9 (fun i hi h => by have h1 := HLS.out i hi; have h2 := HLM.out i h; omega))
          have HV9 : Hid (Lv w w9 k) := ⟨HV8.out.below.trans (hk9.below HV8.out.below.size (fun i h => by have h2 := HLM.out i h; have h3 := HWO.out; omega)), range_keep hk9 (fun h => by have h2 := HLM.out _ h; have h3 := HWO.out; omega) HV8.out.key, by have h1 := hk9.size; have h2 := HV8.out.lt; omega⟩
          have hrc := range_keep hk9 (fun h => by have h2 := HLM.out _ h; have h3 := HGL.out; omega) hrb
          clear hrl hb8 hsz8 hrun hownN hgrN hk9
          clear hS
          refine hK.out _ _ (hrb) (fun hS => ?_)
          clear hK K
          try simp only [Act.put, List.setIfInBounds_toArray]
          clear hrb
          refine wpAnyH_ready (rs := [4]) (by kernel_rfl) (by simp) (AllReadyH.cons rfl (fun K hK => ?_) AllReadyH.nil)
          rw [if_pos (by rfl)]
          refine Lib.wp_append_run _ (.tmp 123) (.tmp 126) _ _ rfl _ _ rfl rfl _ _ HRN.out ?_
          clear hS
          refine hK.out _ _ (hrc) (fun hS => ?_)
          clear hK K
          try simp only [Act.put]
          refine tk 5 20 (.slice aN (n + 2) cN) rfl rfl (by kernel_rfl) (by kernel_rfl) (by kernel_rfl) (fun _ _ _ h => h) (Or.inl ⟨by rfl, fun w' h' => ?_⟩) hS ?_
          · go_simp
          refine wpAnyH_done (by kernel_rfl) ?_ _
          have hnS2 : nS ≤ 20 := by have h1 := HS9.out.len; have h2 := lvs_len l l.length; have h3 := HL.out.len; omega
          go_wp2_with fail
          refine (uNew_any false cls aS nS cS (lvs l l.length) _ HS9.out.rls (by omega) HS9.out.cap).mono ?_
          rintro e wA hnA
          obtain ⟨bA, rfl, hcA, hgA⟩ := hnA.yes (newOk_lvs false cls l HOK.out)
          have HVA := Lib.hid (HV9.out.next hnA.1)
          have HCA := Lib.hid hcA
          have HGA : Hid (w.heap.size < bA) := by have := HV9.out.lt; show _ < _; omega
          have HMA := Lib.hid (HMN.out.below hnA.1)
          clear hnA hcA hgA HV9 HMN HS9 hnS2
          go_wp2_with fail
          refine (uNew_any true 0 aN (n + 2) cN (l ++ [lastR false cls, any0]) _ HMA.out (by omega) HNN.out).mono ?_
          rintro e wB hnB
          obtain ⟨bB, rfl, hcB, hgB⟩ := hnB.yes (newOk_more false cls l HOK.out)
          have HVB := Lib.hid (HVA.out.next hnB.1)
          have HCB := Lib.hid hcB
          have HGB : Hid (w.heap.size < bB) := by have := HVA.out.lt; show _ < _; omega
          have HAB : Hid (bB ≠ bA) := by have := HCA.out.lt; show _ ≠ _; omega
          have HCA2 := Lib.hid (HCA.out.below hnB.1)
          clear hnB hcB hgB HVA HMA HCA
          go_wp2_with (refine ldK (.tmp 8) rfl rfl _ _ rfl k HK.out (by with_reducible exact HVB.out.key) ?_)
          refine (uClass_any bA (lvs l l.length) (othr false cls) k _ HCA2.out HK.out).mono ?_
          rintro e wC ⟨rfl, hkc, _⟩
          have HVC := Lib.hid (HVB.out.count HGA.out hkc)
          have HCB2 := Lib.hid (HCB.out.other HCA2.out HAB.out hkc)
          clear hkc HVB HCB HCA2
          simp only [told_leave l k (othr false cls) HL.out.ok HK.out, HN.out, HF.out]
          go_wp2_with (refine ldK (.tmp 8) rfl rfl _ _ rfl k HK.out (by with_reducible exact HVC.out.key) ?_)
          refine (uClass_any bB (l ++ [lastR false cls, any0]) (othr true 0) k _ HCB2.out HK.out).mono ?_
          rintro e wD ⟨rfl, hkc, _⟩
          have HVD := Lib.hid (HVC.out.count HGB.out hkc)
          clear hkc HVC HCB2
          simp only [told_more k false cls l (othr true 0) ((newOk_iff false cls l).1 HOK.out).2, HN.out, HF.out]
          rcases Nat.lt_or_ge n 2 with hn1 | hn1
          · have hn3 : (n : Int) < 2 := by omega
            go_wp2_with fail
            refine (works9_any _).mono ?_
            rintro e wE ⟨rfl, hbE⟩
            have HVE := Lib.hid (HVD.out.next hbE)
            clear hbE
            go_wp2_with fail
            go_ret
            exact ⟨rfl, HVE.out.below⟩
          · have hn3 : ¬ (n : Int) < 2 := by omega
            go_wp2_with fail
            refine (kPick_any att ((n : Int) - 1) _ (by omega) (by omega)).mono ?_
            rintro e wE ⟨rfl, rfl⟩
            obtain ⟨m, hm⟩ := Int.eq_ofNat_of_zero_le (Int.emod_nonneg att (show (n : Int) - 1 ≠ 0 by omega))
            have hmlt := Int.emod_lt_of_pos att (show (0 : Int) < (n : Int) - 1 by omega)
            rw [hm] at hmlt
            simp only [hm]
            clear hm
            obtain ⟨m1, hm1⟩ : ∃ m1, m + 1 = m1 := ⟨_, rfl⟩
            have hmn : (m : Int) < (n : Int) := by omega
            have hm1n : (m1 : Int) < (n : Int) := by omega
            have hw1 : IntKind.i64.wrap ((m : Int) + 1) = (m1 : Int) := by rw [IntKind.wrap_i64]; omega
            obtain ⟨r, ba, oa, hr, hrok, rfl, hrg⟩ := (HL.out.below HVD.out.below).nth (show m < n by omega)
            obtain ⟨s, b', o', hs, hsok, e', hsg⟩ := (HL.out.below HVD.out.below).nth (show m1 < n by omega)
            simp only [Option.some.injEq, Addr.mk.injEq, and_true] at e'
            obtain ⟨rfl, rfl⟩ := e'
            have HRG := Lib.hid hrg
            have HSG := Lib.hid hsg
            have HRO := Lib.hid hrok
            have HSOK := Lib.hid hsok
            have HRL := Lib.hid hr
            have HSL := Lib.hid hs
            have HM1 := Lib.hid hm1
            have HRR : Hid (rgB r = true ∧ rgB s = true) := ⟨((newOk_iff false cls l).1 HOK.out).1 r (List.mem_of_getElem? hr), ((newOk_iff false cls l).1 HOK.out).1 s (List.mem_of_getElem? hs)⟩
            clear hrg hsg hrok hsok hr hs hm1 hmlt
            cases hf1 : fit k r with
            | true =>
              have HF1 : Hid ((rgB r && fit k r) = true) := by show _ = _; rw [HRR.out.1, hf1]; rfl
              have HFR := Lib.hid hf1
              clear hf1
              go_wp2_with fail
              refine wp_region_held_drew (S := fun w' => World.rangeAt w' ba (oa + m * 44) r.cs ∧ World.rangeAt w' ba (oa + m1 * 44) s.cs ∧ World.rangeAt w' w.heap.size 0 k.cs) (by kernel_rfl) ⟨HRG.out, HSG.out, HVD.out.key⟩ (fun hS => ?_)
              refine tk 0 187 (.slice (some ⟨ba, oa, none⟩) n c) rfl rfl (by kernel_rfl) (by kernel_rfl) (by kernel_rfl) (fun _ _ _ h => h) (Or.inl ⟨by rfl, fun w' h' => ?_⟩) hS ?_
              · go_simp
              try simp only [Act.put, List.setIfInBounds_toArray, List.set_cons_zero, List.set_cons_succ]
              refine tk 1 188 (.int .i64 (m : Int)) rfl rfl (by kernel_rfl) (by kernel_rfl) (by kernel_rfl) (fun _ _ _ h => h) (Or.inl ⟨by rfl, fun w' h' => ?_⟩) hS ?_
              · go_simp
              try simp only [Act.put, List.setIfInBounds_toArray, List.set_cons_zero, List.set_cons_succ]
              refine tk 2 189 (.pointer (some ⟨ba, oa + m * 44, none⟩)) rfl rfl (by kernel_rfl) (by kernel_rfl) (by kernel_rfl) (fun _ _ _ h => h) (Or.inl ⟨by rfl, fun w' h' => ?_⟩) hS ?_
              · go_simp
              try simp only [Act.put, List.setIfInBounds_toArray, List.set_cons_zero, List.set_cons_succ]
              refine tk 3 190 (.agg (r.cs).toArray) rfl rfl (by kernel_rfl) (by kernel_rfl) (by kernel_rfl) (fun _ _ _ h => h) (yieldsIf_load_mid (by rfl) _ _ rfl (ba) (oa + m * 44) rfl (r.cs) _ (fun w' h' => h'.1) Try.underlying43 rfl (by rw [Rl.len HRO.out]; exact infU)) hS ?_
              try simp only [Act.put, List.setIfInBounds_toArray, List.set_cons_zero, List.set_cons_succ]
              refine tk 4 191 (.agg (k.cs).toArray) rfl rfl (by kernel_rfl) (by kernel_rfl) (by kernel_rfl) (fun _ _ _ h => h) (yieldsIf_load_mid (by rfl) _ _ rfl (w.heap.size) (0) rfl (k.cs) _ (fun w' h' => h'.2.2) Try.underlying28 rfl (by rw [Ky.len HK.out]; exact infK)) hS ?_
              try simp only [Act.put, List.setIfInBounds_toArray, List.set_cons_zero, List.set_cons_succ]
              refine wpAnyH_ready (rs := [5]) (by kernel_rfl) (by simp) (AllReadyH.cons rfl (fun K hK => ?_) AllReadyH.nil)
              rw [if_pos (by rfl)]
              go_wp2_with fail
              refine (uFits_any r k _ HRO.out HK.out).mono ?_
              rintro e wF ⟨rfl, hbF⟩
              have HVF := Lib.hid (HVD.out.next (undrew hbF))
              have hra := And.intro (range_kept (undrew hbF) HRG.out) (And.intro (range_kept (undrew hbF) HSG.out) HVF.out.key)
              have HRA := Lib.hid hra
              clear hbF
              simp only [HF1.out]
              clear hS
              refine hK.out _ _ (hra) (fun hS => ?_)
              clear hK K
              clear hra
              try simp only [Act.put, List.setIfInBounds_toArray, List.set_cons_zero, List.set_cons_succ]
              refine tk 6 193 (.bool true) rfl rfl (by kernel_rfl) (by kernel_rfl) (by kernel_rfl) (fun _ _ _ h => h) (Or.inl ⟨by rfl, fun w' h' => ?_⟩) hS ?_
              · go_simp
              try simp only [Act.put, List.setIfInBounds_toArray, List.set_cons_zero, List.set_cons_succ]
              refine tk 7 194 (.slice (some ⟨ba, oa, none⟩) n c) rfl rfl (by kernel_rfl) (by kernel_rfl) (by kernel_rfl) (fun _ _ _ h => h) (Or.inl ⟨by rfl, fun w' h' => ?_⟩) hS ?_
              · go_simp
              try simp only [Act.put, List.setIfInBounds_toArray, List.set_cons_zero, List.set_cons_succ]
              refine tk 8 195 (.int .i64 (m : Int)) rfl rfl (by kernel_rfl) (by kernel_rfl) (by kernel_rfl) (fun _ _ _ h => h) (Or.inl ⟨by rfl, fun w' h' => ?_⟩) hS ?_
              · go_simp
              try simp only [Act.put, List.setIfInBounds_toArray, List.set_cons_zero, List.set_cons_succ]
              refine tk 9 196 (.int .i64 (m1 : Int)) rfl rfl (by kernel_rfl) (by kernel_rfl) (by kernel_rfl) (fun _ _ _ h => h) (Or.inl ⟨by rfl, fun w' h' => ?_⟩) hS ?_
              · go_simp
              try simp only [Act.put, List.setIfInBounds_toArray, List.set_cons_zero, List.set_cons_succ]
              refine tk 10 197 (.pointer (some ⟨ba, oa + m1 * 44, none⟩)) rfl rfl (by kernel_rfl) (by kernel_rfl) (by kernel_rfl) (fun _ _ _ h => h) (Or.inl ⟨by rfl, fun w' h' => ?_⟩) hS ?_
              · go_simp
              try simp only [Act.put, List.setIfInBounds_toArray, List.set_cons_zero, List.set_cons_succ]
              refine tk 11 198 (.agg (s.cs).toArray) rfl rfl (by kernel_rfl) (by kernel_rfl) (by kernel_rfl) (fun _ _ _ h => h) (yieldsIf_load_mid (by rfl) _ _ rfl (ba) (oa + m1 * 44) rfl (s.cs) _ (fun w' h' => h'.2.1) Try.underlying43 rfl (by rw [Rl.len HSOK.out]; exact infU)) hS ?_
              try simp only [Act.put, List.setIfInBounds_toArray, List.set_cons_zero, List.set_cons_succ]
              refine tk 12 199 (.agg (k.cs).toArray) rfl rfl (by kernel_rfl) (by kernel_rfl) (by kernel_rfl) (fun _ _ _ h => h) (yieldsIf_load_mid (by rfl) _ _ rfl (w.heap.size) (0) rfl (k.cs) _ (fun w' h' => h'.2.2) Try.underlying28 rfl (by rw [Ky.len HK.out]; exact infK)) hS ?_
              try simp only [Act.put, List.setIfInBounds_toArray, List.set_cons_zero, List.set_cons_succ]
              refine wpAnyH_ready (rs := [13]) (by kernel_rfl) (by simp) (AllReadyH.cons rfl (fun K hK => ?_) AllReadyH.nil)
              rw [if_pos (by rfl)]
              go_wp2_with fail
              refine (uFits_any s k _ HSOK.out HK.out).mono ?_
              rintro e wG ⟨rfl, hbG⟩
              have HVG := Lib.hid (HVF.out.next hbG)
              have hrb := And.intro (range_kept hbG HRA.out.1) (And.intro (range_kept hbG HRA.out.2.1) HVG.out.key)
              clear hbG
              clear hS
              refine hK.out _ _ (hrb) (fun hS => ?_)
              clear hK K
              clear hrb
              try simp only [Act.put, List.setIfInBounds_toArray, List.set_cons_zero, List.set_cons_succ]
              refine tk 14 201 (.bool (rgB s && fit k s)) rfl rfl (by kernel_rfl) (by kernel_rfl) (by kernel_rfl) (fun _ _ _ h => h) (Or.inl ⟨by rfl, fun w' h' => ?_⟩) hS ?_
              · go_simp
              refine wpAnyH_done (by kernel_rfl) ?_ _
              rcases bool_two (fit k s) with hf2 | hf2
              · have HF2 : Hid ((rgB s && fit k s) = true) := by show _ = _; rw [HRR.out.2, hf2]; rfl
                simp only [HF2.out]
                clear hf2
                go_wp2_with fail
                refine (works9_any _).mono ?_
                rintro e wH ⟨rfl, hbH⟩
                have HVH := Lib.hid (HVG.out.next hbH)
                clear hbH
                go_wp2_with fail
                go_ret
                exact ⟨rfl, HVH.out.below⟩
              · have HF2 : Hid ((rgB s && fit k s) = false) := by show _ = _; rw [HRR.out.2, hf2]; rfl
                have HNB : Hid ((fit k r && fit k s) = false) := by show _ = _; rw [hf2, Bool.and_false]
                simp only [HF2.out]
                clear hf2
                obtain ⟨aT, cT, wI, hrun, hownT, hgrT, _⟩ := run_append_rls wG wG.heap.size 22 (OwnU.nil wG wG.heap.size) c (HL.out.below HVG.out.below) (by omega) (Nat.le_refl _)
                rw [List.nil_append, Nat.zero_add] at hownT
                rw [Nat.zero_add] at hrun
                have hbI : Below wG.heap.size wG wI := (Below.refl _ _).grown hgrT (Nat.le_refl _) (fun i hi => by simp [blk] at hi)
                have HRT := Lib.hid hrun
                obtain ⟨gT, rfl, hgT, hthT⟩ := hownT.th (by omega)
                have HTZ : Hid (Tz w wI k gT n l) := ⟨HVG.out.next hbI, hownT.rls, hthT, by have := HVG.out.lt; omega⟩
                have HSI : Hid (wI.rangeAt ba (oa + m1 * 44) s.cs) := (HL.out.below HTZ.out.lv.below).at_ HSL.out
                clear hrun hownT hgrT hbI hgT hthT
                go_wp2_with (first
                  | (at_builtin; refine Lib.wpList_append_run _ rfl (.tmp 203) (.tmp 204) _ _ rfl _ _ rfl rfl _ _ HRT.out ?_)
                  | (refine ldU (.tmp 211) rfl rfl _ _ rfl s HSOK.out (by with_reducible exact HSI.out) ?_)
                  | (refine stN (fun w' => Hid (Tz w w' k gT n (l.set m s))) 43 (.tmp 213) (.tmp 212) rfl rfl _ _ s.cs rfl rfl (by rw [Rl.len HSOK.out]; exact there_part HTZ.out.th (by omega)) (by rw [Rl.len HSOK.out]; exact infU) (Rl.one s) (by exact HTZ.out.set (by omega) HSOK.out) ?_; intro wJ HTY; have HRJ : Hid (wJ.rangeAt ba (oa + m * 44) r.cs) := (HL.out.below HTY.out.lv.below).at_ HRL.out)
                  | (refine ldU (.tmp 219) rfl rfl _ _ rfl r HRO.out (by with_reducible exact HRJ.out) ?_)
                  | (refine stN (fun w' => Hid (Tz w w' k gT n ((l.set m s).set m1 r))) 43 (.tmp 221) (.tmp 220) rfl rfl _ _ r.cs rfl rfl (by rw [Rl.len HRO.out]; exact there_part HTY.out.th (by omega)) (by rw [Rl.len HRO.out]; exact infU) (Rl.one r) (by exact HTY.out.set (by omega) HRO.out) ?_; intro wK HTX))
                refine (uNew_any false cls (some ⟨gT, 0, none⟩) n cT ((l.set m s).set m1 r) _ HTX.out.rls (by omega) (by intro h; cases h)).mono ?_
                rintro e wL hnL
                obtain ⟨bL, rfl, hcL, hgL⟩ := hnL.yes ((newOk_iff false cls _).2 ⟨fun x hx => by
                  rcases List.mem_or_eq_of_mem_set hx with h1 | rfl
                  · rcases List.mem_or_eq_of_mem_set h1 with h2 | rfl
                    · exact ((newOk_iff false cls l).1 HOK.out).1 x h2
                    · exact HRR.out.2
                  · exact HRR.out.1, ((newOk_iff false cls l).1 HOK.out).2⟩)
                have HVL := Lib.hid (HTX.out.lv.next hnL.1)
                have HCL := Lib.hid hcL
                have HGLL : Hid (w.heap.size < bL) := by have := HTX.out.lv.lt; show _ < _; omega
                have HTT : Hid (told (fit k) (othr false cls) ((l.set m s).set m1 r) = told (fit k) (othr false cls) l) := by
                  have h1 := set_two HRL.out (show l[m + 1]? = some s by rw [HM1.out]; exact HSL.out)
                  rw [HM1.out] at h1
                  show _ = _
                  rw [h1.2, told_turn _ _ _ _ _ _ HNB.out, ← h1.1]
                clear hnL hcL hgL
                go_wp2_with (refine ldK (.tmp 8) rfl rfl _ _ rfl k HK.out (by with_reducible exact HVL.out.key) ?_)
                refine (uClass_any bL ((l.set m s).set m1 r) (othr false cls) k _ HCL.out HK.out).mono ?_
                rintro e wM ⟨rfl, hkc, _⟩
                have HVM := Lib.hid (HVL.out.count HGLL.out hkc)
                clear hkc HVL HCL
                simp only [HTT.out, HN.out, HF.out]
                go_wp2_with fail
                refine (works9_any _).mono ?_
                rintro e wN ⟨rfl, hbN⟩
                have HVN := Lib.hid (HVM.out.next hbN)
                clear hbN
                go_wp2_with fail
                go_ret
                exact ⟨rfl, HVN.out.below⟩
            | false =>
              have HF1 : Hid ((rgB r && fit k r) = false) := by show _ = _; rw [hf1, Bool.and_false]
              have HNB : Hid ((fit k r && fit k s) = false) := by show _ = _; rw [hf1, Bool.false_and]
              clear hf1
              go_wp2_with fail
              refine wp_region_held_drew (S := fun w' => World.rangeAt w' ba (oa + m * 44) r.cs ∧ World.rangeAt w' ba (oa + m1 * 44) s.cs ∧ World.rangeAt w' w.heap.size 0 k.cs) (by kernel_rfl) ⟨HRG.out, HSG.out, HVD.out.key⟩ (fun hS => ?_)
              refine tk 0 187 (.slice (some ⟨ba, oa, none⟩) n c) rfl rfl (by kernel_rfl) (by kernel_rfl) (by kernel_rfl) (fun _ _ _ h => h) (Or.inl ⟨by rfl, fun w' h' => ?_⟩) hS ?_
              · go_simp
              try simp only [Act.put, List.setIfInBounds_toArray, List.set_cons_zero, List.set_cons_succ]
              refine tk 1 188 (.int .i64 (m : Int)) rfl rfl (by kernel_rfl) (by kernel_rfl) (by kernel_rfl) (fun _ _ _ h => h) (Or.inl ⟨by rfl, fun w' h' => ?_⟩) hS ?_
              · go_simp
              try simp only [Act.put, List.setIfInBounds_toArray, List.set_cons_zero, List.set_cons_succ]
              refine tk 2 189 (.pointer (some ⟨ba, oa + m * 44, none⟩)) rfl rfl (by kernel_rfl) (by kernel_rfl) (by kernel_rfl) (fun _ _ _ h => h) (Or.inl ⟨by rfl, fun w' h' => ?_⟩) hS ?_
              · go_simp
              try simp only [Act.put, List.setIfInBounds_toArray, List.set_cons_zero, List.set_cons_succ]
              refine tk 3 190 (.agg (r.cs).toArray) rfl rfl (by kernel_rfl) (by kernel_rfl) (by kernel_rfl) (fun _ _ _ h => h) (yieldsIf_load_mid (by rfl) _ _ rfl (ba) (oa + m * 44) rfl (r.cs) _ (fun w' h' => h'.1) Try.underlying43 rfl (by rw [Rl.len HRO.out]; exact infU)) hS ?_
              try simp only [Act.put, List.setIfInBounds_toArray, List.set_cons_zero, List.set_cons_succ]
              refine tk 4 191 (.agg (k.cs).toArray) rfl rfl (by kernel_rfl) (by kernel_rfl) (by kernel_rfl) (fun _ _ _ h => h) (yieldsIf_load_mid (by rfl) _ _ rfl (w.heap.size) (0) rfl (k.cs) _ (fun w' h' => h'.2.2) Try.underlying28 rfl (by rw [Ky.len HK.out]; exact infK)) hS ?_
              try simp only [Act.put, List.setIfInBounds_toArray, List.set_cons_zero, List.set_cons_succ]
              refine wpAnyH_ready (rs := [5]) (by kernel_rfl) (by simp) (AllReadyH.cons rfl (fun K hK => ?_) AllReadyH.nil)
              rw [if_pos (by rfl)]
              go_wp2_with fail
              refine (uFits_any r k _ HRO.out HK.out).mono ?_
              rintro e wF ⟨rfl, hbF⟩
              have HVF := Lib.hid (HVD.out.next (undrew hbF))
              have hra := And.intro (range_kept (undrew hbF) HRG.out) (And.intro (range_kept (undrew hbF) HSG.out) HVF.out.key)
              have HRA := Lib.hid hra
              clear hbF
              simp only [HF1.out]
              clear hS
              refine hK.out _ _ (hra) (fun hS => ?_)
              clear hK K
              clear hra
              try simp only [Act.put, List.setIfInBounds_toArray, List.set_cons_zero, List.set_cons_succ]
              refine tk 6 193 (.bool false) rfl rfl (by kernel_rfl) (by kernel_rfl) (by kernel_rfl) (fun _ _ _ h => h) (Or.inl ⟨by rfl, fun w' h' => ?_⟩) hS ?_
              · go_simp
              try simp only [Act.put, List.setIfInBounds_toArray, List.set_cons_zero, List.set_cons_succ]
              refine tk 7 194 undef rfl rfl (by kernel_rfl) (by kernel_rfl) (by kernel_rfl) (fun _ _ _ h => h) (Or.inr ⟨by rfl, rfl⟩) hS ?_
              try simp only [Act.put, List.setIfInBounds_toArray, List.set_cons_zero, List.set_cons_succ]
              refine tk 8 195 undef rfl rfl (by kernel_rfl) (by kernel_rfl) (by kernel_rfl) (fun _ _ _ h => h) (Or.inr ⟨by rfl, rfl⟩) hS ?_
              try simp only [Act.put, List.setIfInBounds_toArray, List.set_cons_zero, List.set_cons_succ]
              refine tk 9 196 undef rfl rfl (by kernel_rfl) (by kernel_rfl) (by kernel_rfl) (fun _ _ _ h => h) (Or.inr ⟨by rfl, rfl⟩) hS ?_
              try simp only [Act.put, List.setIfInBounds_toArray, List.set_cons_zero, List.set_cons_succ]
              refine tk 10 197 undef rfl rfl (by kernel_rfl) (by kernel_rfl) (by kernel_rfl) (fun _ _ _ h => h) (Or.inr ⟨by rfl, rfl⟩) hS ?_
              try simp only [Act.put, List.setIfInBounds_toArray, List.set_cons_zero, List.set_cons_succ]
              refine tk 11 198 undef rfl rfl (by kernel_rfl) (by kernel_rfl) (by kernel_rfl) (fun _ _ _ h => h) (Or.inr ⟨by rfl, rfl⟩) hS ?_
              try simp only [Act.put, List.setIfInBounds_toArray, List.set_cons_zero, List.set_cons_succ]
              refine tk 12 199 undef rfl rfl (by kernel_rfl) (by kernel_rfl) (by kernel_rfl) (fun _ _ _ h => h) (Or.inr ⟨by rfl, rfl⟩) hS ?_
              try simp only [Act.put, List.setIfInBounds_toArray, List.set_cons_zero, List.set_cons_succ]
              refine tk 13 200 undef rfl rfl (by kernel_rfl) (by kernel_rfl) (by kernel_rfl) (fun _ _ _ h => h) (Or.inr ⟨by rfl, rfl⟩) hS ?_
              try simp only [Act.put, List.setIfInBounds_toArray, List.set_cons_zero, List.set_cons_succ]
              refine tk 14 201 (.bool false) rfl rfl (by kernel_rfl) (by kernel_rfl) (by kernel_rfl) (fun _ _ _ h => h) (Or.inl ⟨by rfl, fun w' h' => ?_⟩) hS ?_
              · go_simp
              refine wpAnyH_done (by kernel_rfl) ?_ _
              obtain ⟨aT, cT, wI, hrun, hownT, hgrT, _⟩ := run_append_rls wF wF.heap.size 22 (OwnU.nil wF wF.heap.size) c (HL.out.below HVF.out.below) (by omega) (Nat.le_refl _)
              rw [List.nil_append, Nat.zero_add] at hownT
              rw [Nat.zero_add] at hrun
              have hbI : Below wF.heap.size wF wI := (Below.refl _ _).grown hgrT (Nat.le_refl _) (fun i hi => by simp [blk] at hi)
              have HRT := Lib.hid hrun
              obtain ⟨gT, rfl, hgT, hthT⟩ := hownT.th (by omega)
              have HTZ : Hid (Tz w wI k gT n l) := ⟨HVF.out.next hbI, hownT.rls, hthT, by have := HVF.out.lt; omega⟩
              have HSI : Hid (wI.rangeAt ba (oa + m1 * 44) s.cs) := (HL.out.below HTZ.out.lv.below).at_ HSL.out
              clear hrun hownT hgrT hbI hgT hthT
              go_wp2_with (first
                | (at_builtin; refine Lib.wpList_append_run _ rfl (.tmp 203) (.tmp 204) _ _ rfl _ _ rfl rfl _ _ HRT.out ?_)
                | (refine ldU (.tmp 211) rfl rfl _ _ rfl s HSOK.out (by with_reducible exact HSI.out) ?_)
                | (refine stN (fun w' => Hid (Tz w w' k gT n (l.set m s))) 43 (.tmp 213) (.tmp 212) rfl rfl _ _ s.cs rfl rfl (by rw [Rl.len HSOK.out]; exact there_part HTZ.out.th (by omega)) (by rw [Rl.len HSOK.out]; exact infU) (Rl.one s) (by exact HTZ.out.set (by omega) HSOK.out) ?_; intro wJ HTY; have HRJ : Hid (wJ.rangeAt ba (oa + m * 44) r.cs) := (HL.out.below HTY.out.lv.below).at_ HRL.out)
                | (refine ldU (.tmp 219) rfl rfl _ _ rfl r HRO.out (by with_reducible exact HRJ.out) ?_)
                | (refine stN (fun w' => Hid (Tz w w' k gT n ((l.set m s).set m1 r))) 43 (.tmp 221) (.tmp 220) rfl rfl _ _ r.cs rfl rfl (by rw [Rl.len HRO.out]; exact there_part HTY.out.th (by omega)) (by rw [Rl.len HRO.out]; exact infU) (Rl.one r) (by exact HTY.out.set (by omega) HRO.out) ?_; intro wK HTX))
              refine (uNew_any false cls (some ⟨gT, 0, none⟩) n cT ((l.set m s).set m1 r) _ HTX.out.rls (by omega) (by intro h; cases h)).mono ?_
              rintro e wL hnL
              obtain ⟨bL, rfl, hcL, hgL⟩ := hnL.yes ((newOk_iff false cls _).2 ⟨fun x hx => by
                rcases List.mem_or_eq_of_mem_set hx with h1 | rfl
                · rcases List.mem_or_eq_of_mem_set h1 with h2 | rfl
                  · exact ((newOk_iff false cls l).1 HOK.out).1 x h2
                  · exact HRR.out.2
                · exact HRR.out.1, ((newOk_iff false cls l).1 HOK.out).2⟩)
              have HVL := Lib.hid (HTX.out.lv.next hnL.1)
              have HCL := Lib.hid hcL
              have HGLL : Hid (w.heap.size < bL) := by have := HTX.out.lv.lt; show _ < _; omega
              have HTT : Hid (told (fit k) (othr false cls) ((l.set m s).set m1 r) = told (fit k) (othr false cls) l) := by
                have h1 := set_two HRL.out (show l[m + 1]? = some s by rw [HM1.out]; exact HSL.out)
                rw [HM1.out] at h1
                show _ = _
                rw [h1.2, told_turn _ _ _ _ _ _ HNB.out, ← h1.1]
              clear hnL hcL hgL
              go_wp2_with (refine ldK (.tmp 8) rfl rfl _ _ rfl k HK.out (by with_reducible exact HVL.out.key) ?_)
              refine (uClass_any bL ((l.set m s).set m1 r) (othr false cls) k _ HCL.out HK.out).mono ?_
              rintro e wM ⟨rfl, hkc, _⟩
              have HVM := Lib.hid (HVL.out.count HGLL.out hkc)
              clear hkc HVL HCL
              simp only [HTT.out, HN.out, HF.out]
              go_wp2_with fail
              refine (works9_any _).mono ?_
              rintro e wN ⟨rfl, hbN⟩
              have HVN := Lib.hid (HVM.out.next hbN)
              clear hbN
              go_wp2_with fail
              go_ret
              exact ⟨rfl, HVN.out.below⟩
end Go.Proofs.Ytgnhbhgpkihpmaa

/-
  The contract of the document's own Hop of layer 5. Conditions: bytes that lie where the slice leads, fewer than 100,000.
-/
import Derived.Test.YtjnbnjdajkhkpaaIpRBody
import Derived.Test.YtjnbnjdajkhkpaaIpHop
import Derived.Test.YtjnbnjdajkhkpaaSumRef
namespace Go.Proofs.Ytjnbnjdajkhkpaa
open Go.RowKit

theorem Cp.blw {w0 w w' : World} {g n cap : Nat} {zs : List Int} (h : Cp w0 w g n cap zs) (hb : Below w.heap.size w w') : Cp w0 w' g n cap zs :=
  ⟨h.own.below hb, h.below.trans (hb.mono h.below.size)⟩
theorem Made.cp {w w2 : World} {xs : List Int} {e : Ending} {n : Nat} (h : Made w xs e w2) (hn : xs.length = n) (hp : 0 < n) : ∃ g cap, e = .returned (.slice (some ⟨g, 0, none⟩) n cap) ∧ Cp w w2 g n cap xs ∧ w.heap.size ≤ g := by
  obtain ⟨a, m, cap, he, hown, hb⟩ := h
  have hm : n = m := by rw [← hn]; exact hown.len
  subst hm
  rcases hown.cases with ⟨_, h0, _⟩ | ⟨g, cur, rfl, _⟩
  · omega
  · exact ⟨g, cap, he, ⟨hown, hb⟩, (hown.blk_ge g rfl).1⟩

set_option maxRecDepth 100000 in
set_option maxHeartbeats 1000000 in
theorem r5Hop_any (a : Option Addr) (n cap : Nat) (xs : List Int) (w : World) (hn : xs.length = n) (hr : Rd w a xs) (hb : Byt xs) (hl : n ≤ 100000) (hc : n ≤ cap) :
    Calls Try.prog 19 #[.slice a n cap] w (HopH w xs) := by
  have HN := Lib.hid hn
  have HR := Lib.hid hr
  have HB := Lib.hid hb
  have HTW : Hid (∀ w1 : World, (w1.alloc (.cells rh0.toArray 29)).there w1.heap.size 0 11) := fun _ => there_new _ _ _ _ rfl _ rfl
  by_cases hp : psE xs = 0
  · obtain ⟨m, hm, m20, m60, mn, mt⟩ := psE_zero hp hb
    rw [hn] at mn
    have HP := Lib.hid hp
    have HPV : Hid (rpV xs = (m : Int)) := by show _ = _; rw [rpV, if_pos hp, hm]
    obtain ⟨T, hT⟩ : ∃ T, xs.getD 8 0 = T := ⟨_, rfl⟩
    have HT := Lib.hid hT
    have HC1 : Hid ((rpH xs).toArray[6]? = some (.int .u8 T)) := by
      show _ = _
      rw [rpH, if_pos hp, hm, Int.toNat_natCast]
      show some (Value.int .u8 ((xs.take m).getD 8 0)) = _
      rw [take_getD _ _ _ (by omega), hT]
    have hT8 := hb.get 8
    rw [hT] at hT8
    have hF8 := wordAt_range hb 8
    have hFT : wordAt xs 8 = T * 256 + xs.getD 9 0 := by rw [← hT]; rfl
    have hx9 := hb.get 9
    clear hp hm mt hn hr hb hT
    by_cases h0 : T = 0
    · subst h0
      have HE : Hid (hopE xs = 51) := by show _ = _; unfold hopE; rw [if_neg (by rw [HP.out]; decide), if_pos HT.out]
      clear hT8 hF8 hFT hx9
      go_enter Try.func19, Try.ntmps19
      go_wp2_with fail
      refine (r5Parse_any _ n _ xs _ HN.out HR.out HB.out hl hc).mono ?_
      rintro e w1 ⟨rfl, hb1⟩
      rw [HP.out, HPV.out]
      have HB1 := Lib.hid hb1
      have HP3 := Lib.hid (HTW.out w1)
      have HF0 : Hid (Below w.heap.size w ((w1.alloc (.cells rh0.toArray 29)).setCells w1.heap.size 0 (rpH xs)) ∧ ((w1.alloc (.cells rh0.toArray 29)).setCells w1.heap.size 0 (rpH xs)).cell? ⟨w1.heap.size, 6, none⟩ = some (.int .u8 0)) :=
        ⟨HB1.out.trans ((Below.setCells ((Below.refl _ _).alloc (Nat.le_refl _) _) _ (Nat.le_refl _) _ _).mono HB1.out.size), range_cell (World.rangeAt_setCells_same _ _ _ _ (by rw [rpH_len]; exact HP3.out)) HC1.out⟩
      obtain ⟨cs, hcs⟩ : ∃ x, rpH xs = x := ⟨_, rfl⟩
      have HCL : Hid (cs.length = 11) := by show _ = _; rw [← hcs, rpH_len]
      have HCO : Hid (∀ v ∈ cs, v.oneCell' = true) := by show ∀ v ∈ cs, _; rw [← hcs]; exact rpH_one xs
      rw [hcs] at HF0
      rw [hcs]
      clear hb1 hcs
      go_wp2_with (refine stN (fun w' => Hid (Below w.heap.size w w' ∧ w'.cell? ⟨w1.heap.size, 6, none⟩ = some (.int .u8 0))) 29 (.tmp 4) (.tmp 18) rfl rfl w1.heap.size 0 cs rfl rfl (by rw [HCL.out]; exact HP3.out) (by rw [HCL.out]; exact infRH) HCO.out HF0 ?_; intro wc HF; have hcell := HF.out.2)
      go_ret2
      exact ⟨HF.out.1, .inr ⟨by rw [HE.out]; decide, by rw [HE.out]; rfl⟩⟩
    · have HE : Hid (hopE xs = 0) := by show _ = _; unfold hopE; rw [if_neg (by rw [HP.out]; decide), if_neg (by rw [HT.out]; exact h0)]
      have hT0 : (T == 0) = false := by simpa using h0
      have h0x : xs.getD 8 0 ≠ 0 := by rw [HT.out]; exact h0
      have HHC := Lib.hid (hopC_range xs HB.out)
      obtain ⟨F, hF⟩ : ∃ F, wordAt xs 8 = F := ⟨_, rfl⟩
      rw [hF] at hF8 hFT
      have hF1 : 256 ≤ F := by omega
      have hF2 : F ≤ 65535 := hF8.2
      have h10 := wordAt_range HB.out 10
      obtain ⟨K, hK⟩ : ∃ K, wordAt xs 10 = K := ⟨_, rfl⟩
      rw [hK] at h10
      have HHK : Hid (chg K F (F - 256) = hopC xs) := by show _ = _; unfold hopC; rw [hK, hF]
      obtain ⟨C, hC⟩ : ∃ C, hopC xs = C := ⟨_, rfl⟩
      rw [hC] at HHK HHC
      have hC0 := HHC.out.1
      have hC1 := HHC.out.2
      have HG8 : Hid (getE xs 8 2 = 0 ∧ getV xs 8 2 = F) := by have := get_two xs 8 (by rw [HN.out]; omega); rw [hF] at this; exact this
      have HG10 : Hid (getE xs 10 2 = 0 ∧ getV xs 10 2 = K) := by have := get_two xs 10 (by rw [HN.out]; omega); rw [hK] at this; exact this
      have HYL : Hid ((xs.set 8 (T - 1)).length = n) := by show _ = _; rw [List.length_set]; exact HN.out
      have HYB : Hid (Byt (xs.set 8 (T - 1))) := HB.out.set 8 (by omega)
      have HGY : Hid (getE (xs.set 8 (T - 1)) 8 2 = 0 ∧ getV (xs.set 8 (T - 1)) 8 2 = F - 256) := by
        have h1 := get_two (xs.set 8 (T - 1)) 8 (by rw [HYL.out]; omega)
        have h2 : wordAt (xs.set 8 (T - 1)) 8 = F - 256 := by
          unfold wordAt
          rw [getD_set_same _ _ _ (by rw [HN.out]; omega), getD_set_ne _ _ _ _ (by omega)]
          show (T - 1) * 256 + xs.getD 9 0 = F - 256
          omega
        rw [h2] at h1
        exact h1
      have HVF : Hid (hopV xs = ((xs.set 8 (T - 1)).set 10 (C / 256)).set 11 (C % 256)) := by show _ = _; unfold hopV; rw [HT.out, hC]
      have HB2 : Hid (be 2 C = [C / 256, C % 256]) := by show _ = _; rw [be_two]; congr 1; omega
      have HBU : Hid (U64 C) := u64_small hC0 (by omega)
      obtain ⟨bb, oo, rfl, _⟩ := HR.out (by intro e; have := HN.out; rw [e] at this; simp at this; omega)
      have hm1 : 11 < n := by omega
      clear hF8 hFT hx9 hF h0x hK hC
      go_enter Try.func19, Try.ntmps19
      go_wp2_with fail
      refine (r5Parse_any _ n _ xs _ HN.out HR.out HB.out hl hc).mono ?_
      rintro e w1 ⟨rfl, hb1⟩
      rw [HP.out, HPV.out]
      have HB1 := Lib.hid hb1
      have HP3 := Lib.hid (HTW.out w1)
      have HF0 : Hid (Below w.heap.size w ((w1.alloc (.cells rh0.toArray 29)).setCells w1.heap.size 0 (rpH xs)) ∧ ((w1.alloc (.cells rh0.toArray 29)).setCells w1.heap.size 0 (rpH xs)).cell? ⟨w1.heap.size, 6, none⟩ = some (.int .u8 T)) :=
        ⟨HB1.out.trans ((Below.setCells ((Below.refl _ _).alloc (Nat.le_refl _) _) _ (Nat.le_refl _) _ _).mono HB1.out.size), range_cell (World.rangeAt_setCells_same _ _ _ _ (by rw [rpH_len]; exact HP3.out)) HC1.out⟩
      obtain ⟨cs, hcs⟩ : ∃ x, rpH xs = x := ⟨_, rfl⟩
      have HCL : Hid (cs.length = 11) := by show _ = _; rw [← hcs, rpH_len]
      have HCO : Hid (∀ v ∈ cs, v.oneCell' = true) := by show ∀ v ∈ cs, _; rw [← hcs]; exact rpH_one xs
      rw [hcs] at HF0
      rw [hcs]
      clear hb1 hcs
      go_wp2_with (refine stN (fun w' => Hid (Below w.heap.size w w' ∧ w'.cell? ⟨w1.heap.size, 6, none⟩ = some (.int .u8 T))) 29 (.tmp 4) (.tmp 18) rfl rfl w1.heap.size 0 cs rfl rfl (by rw [HCL.out]; exact HP3.out) (by rw [HCL.out]; exact infRH) HCO.out HF0 ?_; intro wc HF; have hcell := HF.out.2)
      have HBC := Lib.hid HF.out.1
      have HRC := Lib.hid (HR.out.below HBC.out)
      clear hcell HF0 HF HP3
      refine (join_any none (some ⟨bb, oo, none⟩) 0 0 n cap [] xs _ rfl HN.out (Rd.empty _ _) HRC.out (by omega)).mono ?_
      rintro e w2 hmade
      rw [List.nil_append] at hmade
      obtain ⟨g, c2, rfl, hcp, hgc⟩ := hmade.cp HN.out (by omega)
      have hc2 : n ≤ c2 := hcp.own.le.1
      have hc2m : c2 ≤ 9223372036854775807 := by have := hcp.own.le.2; unfold maxLen at this; omega
      have c1 := rd_at (hcp.rd HRC.out) (j := 8) (by rw [HN.out]; omega)
      obtain ⟨d1, f1⟩ := hcp.at_ (j := 8) (by omega)
      rw [HT.out] at c1 d1
      have c5 := hcp.set 8 (T - 1)
      obtain ⟨w3, hw3⟩ : ∃ x, w2.setCell ⟨g, 8, none⟩ (.int .u8 (T - 1)) = x := ⟨_, rfl⟩
      rw [hw3] at c5
      have HC5 := Lib.hid c5
      have HW3 := Lib.hid hw3
      have HR3 := Lib.hid (c5.rd HRC.out)
      clear hmade hcp c5 hw3
      go_wp2_with fail
      rw [HW3.out]
      refine (refGet_any _ n cap xs 10 2 _ HN.out HR3.out HB.out (by omega)).mono ?_
      rintro e wq ⟨rfl, rfl⟩
      rw [HG10.out.1, HG10.out.2]
      clear c1 d1 f1 HW3
      go_wp2_with fail
      refine (refGet_any _ n cap xs 8 2 _ HN.out HR3.out HB.out (by omega)).mono ?_
      rintro e wq ⟨rfl, rfl⟩
      rw [HG8.out.1, HG8.out.2]
      go_wp2_with fail
      refine (refGet_any _ n c2 (xs.set 8 (T - 1)) 8 2 _ HYL.out HC5.out.own.rd HYB.out (by omega)).mono ?_
      rintro e wq ⟨rfl, rfl⟩
      rw [HGY.out.1, HGY.out.2]
      have hK0 := h10.1
      have hK1 := h10.2
      go_wp2_with fail
      refine (r3Change_any K F (F - 256) _ hK0 hK1 (by omega) hF2 (by omega) (by omega)).mono ?_
      rintro e wq ⟨rfl, rfl⟩
      rw [HHK.out]
      go_wp2_with fail
      refine (refPut_any 2 C _ (by omega) HBU.out).mono ?_
      rintro e w6 hmade
      rw [HB2.out] at hmade
      obtain ⟨g2, c6, rfl, hcp2, hg2⟩ := hmade.cp (n := 2) rfl (by omega)
      have HC6 := Lib.hid (HC5.out.blw hcp2.below)
      have hgl : g < g2 := by have := (HC5.out.own.blk_ge g rfl).2; omega
      obtain ⟨e0, _⟩ := hcp2.at_ (j := 0) (by omega)
      obtain ⟨d2, f2⟩ := HC6.out.at_ (j := 10) (by omega)
      have c7 := HC6.out.set 10 (C / 256)
      have hrn : Rd (w6.setCell ⟨g, 10, none⟩ (.int .u8 (C / 256))) (some ⟨g2, 0, none⟩) [C / 256, C % 256] :=
        hcp2.own.rd.keep (S := fun k => k = g) (Kept.setCell w6 _ _ rfl) (fun b e2 k => by simp [blk] at e2; omega)
      have e1 := rd_at hrn (j := 1) (by simp)
      rw [Nat.zero_add] at e1
      obtain ⟨d3, f3⟩ := c7.at_ (j := 11) (by omega)
      have c8 := c7.set 11 (C % 256)
      have HC8 := Lib.hid c8
      have hc6 : 2 ≤ c6 := hcp2.own.le.1
      have hc6m : c6 ≤ 9223372036854775807 := by have := hcp2.own.le.2; unfold maxLen at this; omega
      simp only [List.getD_cons_zero, List.getD_cons_succ] at e0 e1
      clear hmade hcp2 c7 hrn c8 HC6 hg2
      go_wp2_with fail
      go_ret2
      have HBF := HBC.out.trans (HC8.out.below.mono HBC.out.size)
      refine ⟨HBF, .inl ⟨HE.out, _, _, _, rfl, ?_⟩⟩
      rw [HVF.out]
      exact HC8.out.own.mono HBC.out.size
  · have HP := Lib.hid hp
    obtain ⟨pz, hpz⟩ : ∃ x, psE xs = x := ⟨_, rfl⟩
    have HPZ := Lib.hid hpz
    have HE : Hid (hopE xs = pz) := by show _ = _; unfold hopE; rw [if_pos hp, hpz]
    have HPV : Hid (rpV xs = 0) := by show _ = _; rw [rpV, if_neg hp]
    rw [hpz] at hp
    have hp' : (pz == 0) = false := by simpa using hp
    clear hpz hn hr hb
    go_enter Try.func19, Try.ntmps19
    go_wp2_with fail
    refine (r5Parse_any a n cap xs _ HN.out HR.out HB.out hl hc).mono ?_
    rintro e w1 ⟨rfl, hb1⟩
    rw [HPZ.out, HPV.out]
    have HB1 := Lib.hid hb1
    have HP3 := Lib.hid (HTW.out w1)
    have HF0 : Hid (Below w.heap.size w ((w1.alloc (.cells rh0.toArray 29)).setCells w1.heap.size 0 (rpH xs))) := HB1.out.trans ((Below.setCells ((Below.refl _ _).alloc (Nat.le_refl _) _) _ (Nat.le_refl _) _ _).mono HB1.out.size)
    obtain ⟨cs, hcs⟩ : ∃ x, rpH xs = x := ⟨_, rfl⟩
    have HCL : Hid (cs.length = 11) := by show _ = _; rw [← hcs, rpH_len]
    have HCO : Hid (∀ v ∈ cs, v.oneCell' = true) := by show ∀ v ∈ cs, _; rw [← hcs]; exact rpH_one xs
    rw [hcs] at HF0
    rw [hcs]
    clear hb1 hcs
    go_wp2_with (refine stN (fun w' => Hid (Below w.heap.size w w')) 29 (.tmp 4) (.tmp 18) rfl rfl w1.heap.size 0 cs rfl rfl (by rw [HCL.out]; exact HP3.out) (by rw [HCL.out]; exact infRH) HCO.out HF0 ?_; intro wc HF)
    go_ret2
    exact ⟨HF.out, .inr ⟨by rw [HE.out]; exact hp, by rw [HE.out]; rfl⟩⟩
end Go.Proofs.Ytjnbnjdajkhkpaa

/-
  The contract of the document's own Body of layer 5. Conditions: bytes that lie where the slice leads, fewer than 100,000.
-/
import Derived.Test.YtjnbnjdajkhkpaaIpRParse3
namespace Go.Proofs.Ytjnbnjdajkhkpaa
open Go.RowKit

/-- What the document's Parse answers, in one. -/
def rpH (xs : List Int) : List Value := if psE xs = 0 then rhc (hdOf (xs.take (szV xs).toNat) none 0 0) else rh0
def rpV (xs : List Int) : Int := if psE xs = 0 then szV xs else 0
theorem rpH_len (xs : List Int) : (rpH xs).length = 11 := by unfold rpH; split <;> rfl
theorem rpH_one (xs : List Int) : ∀ v ∈ rpH xs, v.oneCell' = true := by
  unfold rpH; split
  · exact rhc_one _
  · exact rh0_one
theorem r5Parse_any (a : Option Addr) (n cap : Nat) (xs : List Int) (w : World) (hn : xs.length = n) (hr : Rd w a xs) (hb : Byt xs) (hl : n ≤ 100000) (hc : n ≤ cap) :
    Calls Try.prog 17 #[.slice a n cap] w fun e w' => e = .returned (.tuple #[.agg (rpH xs).toArray, .int .i64 (rpV xs), .int .i64 (psE xs)]) ∧ Below w.heap.size w w' := by
  by_cases hz : szE xs = 0
  · by_cases hp : psE xs = 0
    · rw [rpH, rpV, if_pos hp, if_pos hp, hp]
      exact r5Parse_ok a n cap xs w hn hr hb hl hc hz hp
    · rw [rpH, rpV, if_neg hp, if_neg hp]
      exact r5Parse_second a n cap xs w hn hr hb hl hc hz hp
  · have hp : psE xs = szE xs := by unfold psE; rw [if_pos hz]
    rw [rpH, rpV, if_neg (by rw [hp]; exact hz), if_neg (by rw [hp]; exact hz), hp]
    exact r5Parse_first a n cap xs w hn hr hb hl hz

/-- What the document's Body answers: a part of what it is handed. -/
def BodyR (w : World) (xs : List Int) (e : Ending) (w' : World) : Prop :=
  Below w.heap.size w w' ∧ ((bdE xs = 0 ∧ ∃ a n c, e = .returned (.tuple #[.slice a n c, .int .i64 0]) ∧ (bdV xs).length = n ∧ Rd w a (bdV xs)) ∨
    (bdE xs ≠ 0 ∧ e = .returned (.tuple #[.slice none 0 0, .int .i64 (bdE xs)])))

set_option maxRecDepth 100000 in
set_option maxHeartbeats 1000000 in
theorem r5Body_any (a : Option Addr) (n cap : Nat) (xs : List Int) (w : World) (hn : xs.length = n) (hr : Rd w a xs) (hb : Byt xs) (hl : n ≤ 100000) (hc : n ≤ cap) :
    Calls Try.prog 18 #[.slice a n cap] w (BodyR w xs) := by
  have HN := Lib.hid hn
  have HR := Lib.hid hr
  have HB := Lib.hid hb
  have HTW : Hid (∀ w1 : World, (w1.alloc (.cells rh0.toArray 29)).there w1.heap.size 0 11) := fun _ => there_new _ _ _ _ rfl _ rfl
  by_cases hp : psE xs = 0
  · obtain ⟨m, hm, m20, m60, mn, mt⟩ := psE_zero hp hb
    have hw2 := wordAt_range hb 2
    obtain ⟨t, ht⟩ : ∃ t : Nat, wordAt xs 2 = (t : Int) := ⟨(wordAt xs 2).toNat, by omega⟩
    have HP := Lib.hid hp
    have HM := Lib.hid hm
    have HT := Lib.hid ht
    have HPV : Hid (rpV xs = (m : Int)) := by show _ = _; rw [rpV, if_pos hp, hm]
    have HC1 : Hid ((rpH xs).toArray[1]? = some (.int .u16 (t : Int))) := by
      show _ = _
      rw [rpH, if_pos hp, hm, Int.toNat_natCast]
      show some (Value.int .u16 (wordAt (xs.take m) 2)) = _
      rw [take_word _ _ _ (by omega), ht]
    have hmt : m ≤ t := by omega
    have htm : t ≤ 65535 := by omega
    clear hp hm ht mt hw2 hn hr hb
    by_cases hnt : n < t
    · have HE : Hid (bdE xs = 10) := by show _ = _; unfold bdE; rw [HP.out, HT.out, HN.out]; simp; omega
      go_enter Try.func18, Try.ntmps18
      go_wp2_with fail
      refine (r5Parse_any _ n _ xs _ HN.out HR.out HB.out hl hc).mono ?_
      rintro e w1 ⟨rfl, hb1⟩
      rw [HP.out, HPV.out]
      have HB1 := Lib.hid hb1
      have HP3 := Lib.hid (HTW.out w1)
      have HF0 : Hid (Below w.heap.size w ((w1.alloc (.cells rh0.toArray 29)).setCells w1.heap.size 0 (rpH xs)) ∧ ((w1.alloc (.cells rh0.toArray 29)).setCells w1.heap.size 0 (rpH xs)).cell? ⟨w1.heap.size, 1, none⟩ = some (.int .u16 (t : Int))) :=
        ⟨HB1.out.trans ((Below.setCells ((Below.refl _ _).alloc (Nat.le_refl _) _) _ (Nat.le_refl _) _ _).mono HB1.out.size), range_cell (World.rangeAt_setCells_same _ _ _ _ (by rw [rpH_len]; exact HP3.out)) HC1.out⟩
      obtain ⟨cs, hcs⟩ : ∃ x, rpH xs = x := ⟨_, rfl⟩
      have HCL : Hid (cs.length = 11) := by show _ = _; rw [← hcs, rpH_len]
      have HCO : Hid (∀ v ∈ cs, v.oneCell' = true) := by show ∀ v ∈ cs, _; rw [← hcs]; exact rpH_one xs
      rw [hcs] at HF0
      rw [hcs]
      clear hb1 hcs
      go_wp2_with (refine stN (fun w' => Hid (Below w.heap.size w w' ∧ w'.cell? ⟨w1.heap.size, 1, none⟩ = some (.int .u16 (t : Int)))) 29 (.tmp 4) (.tmp 10) rfl rfl w1.heap.size 0 cs rfl rfl (by rw [HCL.out]; exact HP3.out) (by rw [HCL.out]; exact infRH) HCO.out HF0 ?_; intro wc HF; have hcell := HF.out.2)
      go_ret2
      exact ⟨HF.out.1, .inr ⟨by rw [HE.out]; decide, by rw [HE.out]; rfl⟩⟩
    · have hnt' : t ≤ n := by omega
      have HE : Hid (bdE xs = 0) := by show _ = _; unfold bdE; rw [HP.out, HT.out, HN.out]; simp; omega
      have HV : Hid (bdV xs = (xs.drop m).take (t - m)) := by show _ = _; unfold bdV; rw [HM.out, HT.out, Int.toNat_natCast, Int.toNat_natCast]
      have HVL : Hid (((xs.drop m).take (t - m)).length = t - m) := by have h1 := HN.out; show _ = _; rw [List.length_take, List.length_drop]; omega
      obtain ⟨bb, oo, rfl, _⟩ := HR.out (by intro e; rw [e] at mn; simp at mn; omega)
      have HRD : Hid (Rd w (some ⟨bb, oo + m, none⟩) ((xs.drop m).take (t - m))) := HR.out.cut (by have h1 := HN.out; omega)
      have hm0 : (0 : Int) ≤ (m : Int) := by omega
      have hm1 : (m : Int) ≤ (t : Int) := by omega
      have ht0 : (0 : Int) ≤ (t : Int) := by omega
      have ht1 : (t : Int) ≤ (cap : Int) := by omega
      by_cases hmc : m = cap
      · have HRX : Hid (∀ ad, Rd w ad ((xs.drop m).take (t - m))) := fun ad => by rw [show t - m = 0 by omega, List.take_zero]; exact Rd.empty _ _
        subst hmc
        go_enter Try.func18, Try.ntmps18
        go_wp2_with fail
        refine (r5Parse_any _ n _ xs _ HN.out HR.out HB.out hl hc).mono ?_
        rintro e w1 ⟨rfl, hb1⟩
        rw [HP.out, HPV.out]
        have HB1 := Lib.hid hb1
        have HP3 := Lib.hid (HTW.out w1)
        have HF0 : Hid (Below w.heap.size w ((w1.alloc (.cells rh0.toArray 29)).setCells w1.heap.size 0 (rpH xs)) ∧ ((w1.alloc (.cells rh0.toArray 29)).setCells w1.heap.size 0 (rpH xs)).cell? ⟨w1.heap.size, 1, none⟩ = some (.int .u16 (t : Int))) :=
          ⟨HB1.out.trans ((Below.setCells ((Below.refl _ _).alloc (Nat.le_refl _) _) _ (Nat.le_refl _) _ _).mono HB1.out.size), range_cell (World.rangeAt_setCells_same _ _ _ _ (by rw [rpH_len]; exact HP3.out)) HC1.out⟩
        obtain ⟨cs, hcs⟩ : ∃ x, rpH xs = x := ⟨_, rfl⟩
        have HCL : Hid (cs.length = 11) := by show _ = _; rw [← hcs, rpH_len]
        have HCO : Hid (∀ v ∈ cs, v.oneCell' = true) := by show ∀ v ∈ cs, _; rw [← hcs]; exact rpH_one xs
        rw [hcs] at HF0
        rw [hcs]
        clear hb1 hcs
        go_wp2_with (refine stN (fun w' => Hid (Below w.heap.size w w' ∧ w'.cell? ⟨w1.heap.size, 1, none⟩ = some (.int .u16 (t : Int)))) 29 (.tmp 4) (.tmp 10) rfl rfl w1.heap.size 0 cs rfl rfl (by rw [HCL.out]; exact HP3.out) (by rw [HCL.out]; exact infRH) HCO.out HF0 ?_; intro wc HF; have hcell := HF.out.2)
        go_ret2
        exact ⟨HF.out.1, .inl ⟨HE.out, _, _, _, rfl, by rw [HV.out]; exact HVL.out, by rw [HV.out]; exact HRX.out _⟩⟩
      have hmc' : ¬ cap = m := fun e => hmc e.symm
      go_enter Try.func18, Try.ntmps18
      go_wp2_with fail
      refine (r5Parse_any _ n _ xs _ HN.out HR.out HB.out hl hc).mono ?_
      rintro e w1 ⟨rfl, hb1⟩
      rw [HP.out, HPV.out]
      have HB1 := Lib.hid hb1
      have HP3 := Lib.hid (HTW.out w1)
      have HF0 : Hid (Below w.heap.size w ((w1.alloc (.cells rh0.toArray 29)).setCells w1.heap.size 0 (rpH xs)) ∧ ((w1.alloc (.cells rh0.toArray 29)).setCells w1.heap.size 0 (rpH xs)).cell? ⟨w1.heap.size, 1, none⟩ = some (.int .u16 (t : Int))) :=
        ⟨HB1.out.trans ((Below.setCells ((Below.refl _ _).alloc (Nat.le_refl _) _) _ (Nat.le_refl _) _ _).mono HB1.out.size), range_cell (World.rangeAt_setCells_same _ _ _ _ (by rw [rpH_len]; exact HP3.out)) HC1.out⟩
      obtain ⟨cs, hcs⟩ : ∃ x, rpH xs = x := ⟨_, rfl⟩
      have HCL : Hid (cs.length = 11) := by show _ = _; rw [← hcs, rpH_len]
      have HCO : Hid (∀ v ∈ cs, v.oneCell' = true) := by show ∀ v ∈ cs, _; rw [← hcs]; exact rpH_one xs
      rw [hcs] at HF0
      rw [hcs]
      clear hb1 hcs
      go_wp2_with (refine stN (fun w' => Hid (Below w.heap.size w w' ∧ w'.cell? ⟨w1.heap.size, 1, none⟩ = some (.int .u16 (t : Int)))) 29 (.tmp 4) (.tmp 10) rfl rfl w1.heap.size 0 cs rfl rfl (by rw [HCL.out]; exact HP3.out) (by rw [HCL.out]; exact infRH) HCO.out HF0 ?_; intro wc HF; have hcell := HF.out.2)
      go_ret2
      exact ⟨HF.out.1, .inl ⟨HE.out, _, _, _, rfl, by rw [HV.out]; exact HVL.out, by rw [HV.out]; exact HRD.out⟩⟩
  · have HP := Lib.hid hp
    obtain ⟨pz, hpz⟩ : ∃ x, psE xs = x := ⟨_, rfl⟩
    have HPZ := Lib.hid hpz
    have HE : Hid (bdE xs = pz) := by show _ = _; unfold bdE; rw [if_pos hp, hpz]
    have HPV : Hid (rpV xs = 0) := by show _ = _; rw [rpV, if_neg hp]
    rw [hpz] at hp
    have hp' : (pz == 0) = false := by simpa using hp
    clear hpz hn hr hb
    go_enter Try.func18, Try.ntmps18
    go_wp2_with fail
    refine (r5Parse_any a n cap xs _ HN.out HR.out HB.out hl hc).mono ?_
    rintro e w1 ⟨rfl, hb1⟩
    rw [HPZ.out, HPV.out]
    have HB1 := Lib.hid hb1
    have HP3 := Lib.hid (HTW.out w1)
    have HF0 : Hid (Below w.heap.size w ((w1.alloc (.cells rh0.toArray 29)).setCells w1.heap.size 0 (rpH xs))) := HB1.out.trans ((Below.setCells ((Below.refl _ _).alloc (Nat.le_refl _) _) _ (Nat.le_refl _) _ _).mono HB1.out.size)
    obtain ⟨cs, hcs⟩ : ∃ x, rpH xs = x := ⟨_, rfl⟩
    have HCL : Hid (cs.length = 11) := by show _ = _; rw [← hcs, rpH_len]
    have HCO : Hid (∀ v ∈ cs, v.oneCell' = true) := by show ∀ v ∈ cs, _; rw [← hcs]; exact rpH_one xs
    rw [hcs] at HF0
    rw [hcs]
    clear hb1 hcs
    go_wp2_with (refine stN (fun w' => Hid (Below w.heap.size w w')) 29 (.tmp 4) (.tmp 10) rfl rfl w1.heap.size 0 cs rfl rfl (by rw [HCL.out]; exact HP3.out) (by rw [HCL.out]; exact infRH) HCO.out HF0 ?_; intro wc HF)
    go_ret2
    exact ⟨HF.out, .inr ⟨by rw [HE.out]; exact hp, by rw [HE.out]; rfl⟩⟩
end Go.Proofs.Ytjnbnjdajkhkpaa

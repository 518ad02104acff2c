/-
  The contract of Body of package ip. Conditions: bytes that lie where the slice leads, fewer than a million.
-/
import Derived.Test.YtjnbnjdajkhkpaaIpPuts
import Derived.Test.YtjnbnjdajkhkpaaIpParse
namespace Go.Proofs.Ytjnbnjdajkhkpaa
open Go.RowKit

/-- The error that Body answers, and the body. -/
def bdE (xs : List Int) : Int := if psE xs ≠ 0 then psE xs else if (xs.length : Int) < wordAt xs 2 then 10 else 0
def bdV (xs : List Int) : List Int := (xs.drop (szV xs).toNat).take ((wordAt xs 2).toNat - (szV xs).toNat)
def BodyH (w : World) (xs : List Int) (e : Ending) (w' : World) : Prop :=
  Below w.heap.size w w' ∧ ((bdE xs = 0 ∧ ∃ a n c, e = .returned (.tuple #[.slice a n c, .int .i64 0]) ∧ Own w' w.heap.size a n c (bdV xs)) ∨
    (bdE xs ≠ 0 ∧ e = .returned (.tuple #[.slice none 0 0, .int .i64 (bdE xs)])))
theorem psE_zero {xs : List Int} (h : psE xs = 0) (hb : Byt xs) : ∃ m : Nat, szV xs = (m : Int) ∧ 20 ≤ m ∧ m ≤ 60 ∧ m ≤ xs.length ∧ (m : Int) ≤ wordAt xs 2 := by
  unfold psE at h
  split at h
  · omega
  · rename_i hz
    obtain ⟨k, h1, h2, h3, h4⟩ := szE_zero (by omega) hb
    split at h
    · omega
    · rename_i hq
      exact ⟨4 * k, by omega, by omega, by omega, by omega, by omega⟩

/-- A header is stored; of the memory only P is kept in mind. -/
theorem stHN {ops : Array Oper} {rest : List Oper} {o : Oper} {a : Act} {w : World} {Q : Exit → Act → World → Prop} (P : World → Prop) (x y : Operand) (ho : o.op = .store 26 x y) (hgd : o.guard = none) (b : Nat) (h : Hd) (hx : a.eval x = .pointer (some ⟨b, 0, none⟩)) (hy : a.eval y = .agg h.cs.toArray) (hl : h.cs.length = 17)
    (ht : w.there b 0 17) (hP : P (w.setCells b 0 h.cs)) (k : ∀ w', P w' → wpList Try.prog ops Q rest (a.put o.dst undef) w') : wpList Try.prog ops Q (o :: rest) a w :=
  stH x y ho hgd b h hx hy hl ht (k _ hP)

set_option maxRecDepth 100000 in
set_option maxHeartbeats 1000000 in
theorem iBody_any (a : Option Addr) (n cap : Nat) (xs : List Int) (w : World) (hn : xs.length = n) (hr : Rd w a xs) (hb : Byt xs) (hl : n ≤ 1000000) (hc : n ≤ cap) (hcm : cap ≤ maxLen) :
    Calls Try.prog 21 #[.slice a n cap] w (BodyH w xs) := by
  have HN := Lib.hid hn
  have HR := Lib.hid hr
  have HB := Lib.hid hb
  have HCM := Lib.hid hcm
  have HTW : Hid (∀ w1 : World, (w1.alloc (.cells hd0.cs.toArray 26)).there w1.heap.size 0 17) := fun _ => there_new _ _ _ _ rfl _ rfl
  by_cases hp : psE xs = 0
  · obtain ⟨m, hm, m20, m60, mn, mt⟩ := psE_zero hp hb
    have hw2 := wordAt_range hb 2
    obtain ⟨t, ht⟩ : ∃ t : Nat, wordAt xs 2 = (t : Int) := ⟨(wordAt xs 2).toNat, by omega⟩
    have HP := Lib.hid hp
    have HM := Lib.hid hm
    have HT := Lib.hid ht
    have hmt : m ≤ t := by omega
    have htm : t ≤ 65535 := by omega
    have HYL : Hid ((xs.take m).length = m) := by show _ = _; rw [List.length_take]; omega
    have HW : Hid (wordAt (xs.take m) 2 = (t : Int)) := by show _ = _; rw [take_word _ _ _ (by omega), ht]
    clear hp hm ht mt hw2 hn hr hb hcm
    by_cases hnt : n < t
    · have HE : Hid (bdE xs = 10) := by show _ = _; unfold bdE; rw [HP.out, HT.out, HN.out]; simp; omega
      go_enter Try.func21, Try.ntmps21
      go_wp2_with fail
      refine (iParse_any _ n _ xs _ HN.out HR.out HB.out hl hc HCM.out).mono ?_
      rintro e w1 ⟨hb1, ⟨_, a2, n2, c2, rfl, ho2⟩ | ⟨h1, _⟩⟩
      · rw [HM.out, Int.toNat_natCast] at ho2
        rw [HM.out, Int.toNat_natCast]
        have HB1 := Lib.hid hb1
        have HLH := Lib.hid (hdOf_len (xs.take m) a2 n2 c2 (by rw [HYL.out]; exact m20))
        obtain ⟨hp1, hp2, hp3⟩ := put_new w1 (hdOf (xs.take m) a2 n2 c2).cs hd0.cs 26 (by rw [HLH.out]; rfl)
        rw [HLH.out] at hp3
        have HP3 := Lib.hid hp3
        have HF0 : Hid (Below w.heap.size w ((w1.alloc (.cells hd0.cs.toArray 26)).setCells w1.heap.size 0 (hdOf (xs.take m) a2 n2 c2).cs) ∧ ((w1.alloc (.cells hd0.cs.toArray 26)).setCells w1.heap.size 0 (hdOf (xs.take m) a2 n2 c2).cs).cell? ⟨w1.heap.size, 1, none⟩ = some (.int .u16 (t : Int))) :=
          ⟨HB1.out.trans (hp1.mono HB1.out.size), by rw [range_cell hp2 (Hd.c1 _)]; exact congrArg (fun z => some (Value.int .u16 z)) HW.out⟩
        obtain ⟨H1, hH1⟩ : ∃ x, hdOf (xs.take m) a2 n2 c2 = x := ⟨_, rfl⟩
        rw [hH1] at HLH HF0
        rw [hH1]
        clear hb1 hp1 hp2 hp3 ho2 hH1
        go_wp2_with (refine stHN (fun w' => Hid (Below w.heap.size w w' ∧ w'.cell? ⟨w1.heap.size, 1, none⟩ = some (.int .u16 (t : Int)))) (.tmp 4) (.tmp 10) rfl rfl w1.heap.size H1 rfl rfl HLH.out HP3.out HF0 ?_; intro wc HF; have hcell := HF.out.2)
        go_ret2
        exact ⟨HF.out.1, .inr ⟨by rw [HE.out]; decide, by rw [HE.out]; rfl⟩⟩
      · exact absurd HP.out h1
    · have hnt' : t ≤ n := by omega
      have HE : Hid (bdE xs = 0) := by show _ = _; unfold bdE; rw [HP.out, HT.out, HN.out]; simp; omega
      have HV : Hid (bdV xs = (xs.drop m).take (t - m)) := by show _ = _; unfold bdV; rw [HM.out, HT.out, Int.toNat_natCast, Int.toNat_natCast]
      have HVL : Hid (((xs.drop m).take (t - m)).length = t - m) := by have h1 := HN.out; show _ = _; rw [List.length_take, List.length_drop]; omega
      obtain ⟨bb, oo, rfl, _⟩ := HR.out (by intro e; rw [e] at mn; simp at mn; omega)
      have HRD : Hid (Rd w (some ⟨bb, oo + m, none⟩) ((xs.drop m).take (t - m))) := HR.out.cut (by have h1 := HN.out; omega)
      have hm0 : (0 : Int) ≤ (m : Int) := by omega
      have hm1 : (m : Int) ≤ (t : Int) := by omega
      have ht0 : (0 : Int) ≤ (t : Int) := by omega
      have ht1 : (t : Int) ≤ (cap : Int) := by omega
      by_cases hmc : m = cap
      · have HRX : Hid (∀ ad, Rd w ad ((xs.drop m).take (t - m))) := fun ad => by rw [show t - m = 0 by omega, List.take_zero]; exact Rd.empty _ _
        subst hmc
        go_enter Try.func21, Try.ntmps21
        go_wp2_with fail
        refine (iParse_any _ n _ xs _ HN.out HR.out HB.out hl hc HCM.out).mono ?_
        rintro e w1 ⟨hb1, ⟨_, a2, n2, c2, rfl, ho2⟩ | ⟨h1, _⟩⟩
        · rw [HM.out, Int.toNat_natCast] at ho2
          rw [HM.out, Int.toNat_natCast]
          have HB1 := Lib.hid hb1
          have HLH := Lib.hid (hdOf_len (xs.take m) a2 n2 c2 (by rw [HYL.out]; exact m20))
          obtain ⟨hp1, hp2, hp3⟩ := put_new w1 (hdOf (xs.take m) a2 n2 c2).cs hd0.cs 26 (by rw [HLH.out]; rfl)
          rw [HLH.out] at hp3
          have HP3 := Lib.hid hp3
          have HF0 : Hid (Below w.heap.size w ((w1.alloc (.cells hd0.cs.toArray 26)).setCells w1.heap.size 0 (hdOf (xs.take m) a2 n2 c2).cs) ∧ ((w1.alloc (.cells hd0.cs.toArray 26)).setCells w1.heap.size 0 (hdOf (xs.take m) a2 n2 c2).cs).cell? ⟨w1.heap.size, 1, none⟩ = some (.int .u16 (t : Int))) :=
            ⟨HB1.out.trans (hp1.mono HB1.out.size), by rw [range_cell hp2 (Hd.c1 _)]; exact congrArg (fun z => some (Value.int .u16 z)) HW.out⟩
          obtain ⟨H1, hH1⟩ : ∃ x, hdOf (xs.take m) a2 n2 c2 = x := ⟨_, rfl⟩
          rw [hH1] at HLH HF0
          rw [hH1]
          clear hb1 hp1 hp2 hp3 ho2 hH1
          go_wp2_with (refine stHN (fun w' => Hid (Below w.heap.size w w' ∧ w'.cell? ⟨w1.heap.size, 1, none⟩ = some (.int .u16 (t : Int)))) (.tmp 4) (.tmp 10) rfl rfl w1.heap.size H1 rfl rfl HLH.out HP3.out HF0 ?_; intro wc HF; have hcell := HF.out.2)
          refine (iClone_any _ _ _ ((xs.drop m).take (t - m)) _ HVL.out ((HRX.out _).below HF.out.1) (by omega)).mono ?_
          rintro e w4 ⟨a4, n4, c4, rfl, ho4, hb4⟩
          have HB4 := Lib.hid (HF.out.1.trans (hb4.mono HF.out.1.size))
          have HO4 : Hid (Own w4 w.heap.size a4 n4 c4 (bdV xs)) := by show Own _ _ _ _ _ _; rw [HV.out]; exact ho4.mono HF.out.1.size
          clear hb4 ho4
          go_wp2_with fail
          go_ret2
          exact ⟨HB4.out, .inl ⟨HE.out, a4, n4, c4, rfl, HO4.out⟩⟩
        · exact absurd HP.out h1
      have hmc' : ¬ cap = m := fun e => hmc e.symm
      go_enter Try.func21, Try.ntmps21
      go_wp2_with fail
      refine (iParse_any _ n _ xs _ HN.out HR.out HB.out hl hc HCM.out).mono ?_
      rintro e w1 ⟨hb1, ⟨_, a2, n2, c2, rfl, ho2⟩ | ⟨h1, _⟩⟩
      · rw [HM.out, Int.toNat_natCast] at ho2
        rw [HM.out, Int.toNat_natCast]
        have HB1 := Lib.hid hb1
        have HLH := Lib.hid (hdOf_len (xs.take m) a2 n2 c2 (by rw [HYL.out]; exact m20))
        obtain ⟨hp1, hp2, hp3⟩ := put_new w1 (hdOf (xs.take m) a2 n2 c2).cs hd0.cs 26 (by rw [HLH.out]; rfl)
        rw [HLH.out] at hp3
        have HP3 := Lib.hid hp3
        have HF0 : Hid (Below w.heap.size w ((w1.alloc (.cells hd0.cs.toArray 26)).setCells w1.heap.size 0 (hdOf (xs.take m) a2 n2 c2).cs) ∧ ((w1.alloc (.cells hd0.cs.toArray 26)).setCells w1.heap.size 0 (hdOf (xs.take m) a2 n2 c2).cs).cell? ⟨w1.heap.size, 1, none⟩ = some (.int .u16 (t : Int))) :=
          ⟨HB1.out.trans (hp1.mono HB1.out.size), by rw [range_cell hp2 (Hd.c1 _)]; exact congrArg (fun z => some (Value.int .u16 z)) HW.out⟩
        obtain ⟨H1, hH1⟩ : ∃ x, hdOf (xs.take m) a2 n2 c2 = x := ⟨_, rfl⟩
        rw [hH1] at HLH HF0
        rw [hH1]
        clear hb1 hp1 hp2 hp3 ho2 hH1
        go_wp2_with (refine stHN (fun w' => Hid (Below w.heap.size w w' ∧ w'.cell? ⟨w1.heap.size, 1, none⟩ = some (.int .u16 (t : Int)))) (.tmp 4) (.tmp 10) rfl rfl w1.heap.size H1 rfl rfl HLH.out HP3.out HF0 ?_; intro wc HF; have hcell := HF.out.2)
        refine (iClone_any _ _ _ ((xs.drop m).take (t - m)) _ HVL.out (HRD.out.below HF.out.1) (by omega)).mono ?_
        rintro e w4 ⟨a4, n4, c4, rfl, ho4, hb4⟩
        have HB4 := Lib.hid (HF.out.1.trans (hb4.mono HF.out.1.size))
        have HO4 : Hid (Own w4 w.heap.size a4 n4 c4 (bdV xs)) := by show Own _ _ _ _ _ _; rw [HV.out]; exact ho4.mono HF.out.1.size
        clear hb4 ho4
        go_wp2_with fail
        go_ret2
        exact ⟨HB4.out, .inl ⟨HE.out, a4, n4, c4, rfl, HO4.out⟩⟩
      · exact absurd HP.out h1
  · have HP := Lib.hid hp
    obtain ⟨pz, hpz⟩ : ∃ x, psE xs = x := ⟨_, rfl⟩
    have HPZ := Lib.hid hpz
    have HE : Hid (bdE xs = pz) := by show _ = _; unfold bdE; rw [if_pos hp, hpz]
    rw [hpz] at hp
    have hp' : (pz == 0) = false := by simpa using hp
    clear hpz hn hr hb hcm
    go_enter Try.func21, Try.ntmps21
    go_wp2_with fail
    refine (iParse_any _ n _ xs _ HN.out HR.out HB.out hl hc HCM.out).mono ?_
    rintro e w1 ⟨hb1, ⟨h1, _⟩ | ⟨h1, rfl⟩⟩
    · exact absurd h1 HP.out
    · rw [HPZ.out]
      have HB1 := Lib.hid hb1
      have HP3 := Lib.hid (HTW.out w1)
      have HF0 : Hid (Below w.heap.size w ((w1.alloc (.cells hd0.cs.toArray 26)).setCells w1.heap.size 0 hd0.cs)) := HB1.out.trans ((Below.setCells ((Below.refl _ _).alloc (Nat.le_refl _) _) _ (Nat.le_refl _) _ _).mono HB1.out.size)
      clear hb1 h1
      go_wp2_with (refine stHN (fun w' => Hid (Below w.heap.size w w')) (.tmp 4) (.tmp 10) rfl rfl w1.heap.size hd0 rfl rfl hd0_len HP3.out HF0 ?_; intro wc HF)
      go_ret2
      exact ⟨HF.out, .inr ⟨by rw [HE.out]; exact hp, by rw [HE.out]; rfl⟩⟩
end Go.Proofs.Ytjnbnjdajkhkpaa

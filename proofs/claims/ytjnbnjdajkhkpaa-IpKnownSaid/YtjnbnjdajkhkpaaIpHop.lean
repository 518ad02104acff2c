/-
  The contract of Hop of package ip. Conditions: bytes that lie where the slice leads, fewer than a million.
-/
import Derived.Test.YtjnbnjdajkhkpaaIpBody
import Derived.Test.YtjnbnjdajkhkpaaSet
namespace Go.Proofs.Ytjnbnjdajkhkpaa
open Go.RowKit

/-- The checksum behind a hop, the error, and the bytes. -/
def hopC (xs : List Int) : Int := chg (wordAt xs 10) (wordAt xs 8) (wordAt xs 8 - 256)
def hopE (xs : List Int) : Int := if psE xs ≠ 0 then psE xs else if xs.getD 8 0 = 0 then 51 else 0
def hopV (xs : List Int) : List Int := ((xs.set 8 (xs.getD 8 0 - 1)).set 10 (hopC xs / 256)).set 11 (hopC xs % 256)
/-- What Hop answers. -/
def HopH (w : World) (xs : List Int) (e : Ending) (w' : World) : Prop :=
  Below w.heap.size w w' ∧ ((hopE xs = 0 ∧ ∃ a n c, e = .returned (.tuple #[.slice a n c, .int .i64 0]) ∧ Own w' w.heap.size a n c (hopV xs)) ∨
    (hopE xs ≠ 0 ∧ e = .returned (.tuple #[.slice none 0 0, .int .i64 (hopE xs)])))
theorem be_two (v : Int) : be 2 v = [v / 256 % 256, v % 256] := by simp [be]
theorem splice_two (u v : Int) : ∀ (p : Nat) (xs : List Int), p + 2 ≤ xs.length → splice xs p [u, v] = (xs.set p u).set (p + 1) v
  | 0, [], h => by simp at h
  | 0, [_], h => by simp at h
  | 0, a :: b :: t, _ => by simp [splice]
  | p + 1, [], h => by simp at h
  | p + 1, a :: t, h => by
    have ih := splice_two u v p t (by simp at h; omega)
    have e : p + 1 + [u, v].length = (p + [u, v].length) + 1 := by omega
    unfold splice at ih ⊢
    rw [e, List.take_succ_cons, List.drop_succ_cons, List.set_cons_succ, List.set_cons_succ, ← ih]
    rfl
theorem hop_mid (xs : List Int) (hb : Byt xs) (h : 10 ≤ xs.length) : splice xs 8 (be 2 (wordAt xs 8 - 256)) = xs.set 8 (xs.getD 8 0 - 1) ∨ xs.getD 8 0 = 0 := by
  by_cases h0 : xs.getD 8 0 = 0
  · exact .inr h0
  · left
    have h8 := hb.get 8
    have h9 := hb.get 9
    have hw : wordAt xs 8 = xs.getD 8 0 * 256 + xs.getD 9 0 := rfl
    have e1 : (wordAt xs 8 - 256) / 256 % 256 = xs.getD 8 0 - 1 := by omega
    have e2 : (wordAt xs 8 - 256) % 256 = xs.getD 9 0 := by omega
    rw [be_two, e1, e2, splice_two _ _ 8 xs (by omega)]
    have e3 : (xs.set 8 (xs.getD 8 0 - 1)).getD 9 0 = xs.getD 9 0 := getD_set_ne _ _ _ _ (by omega)
    rw [← e3, set_getD]
theorem hopC_range (xs : List Int) (hb : Byt xs) : 0 ≤ hopC xs ∧ hopC xs ≤ 65535 := by
  have h8 := wordAt_range hb 8
  have h10 := wordAt_range hb 10
  exact chg_range (by omega)
theorem hop_bytes (xs : List Int) (hb : Byt xs) (h : 12 ≤ xs.length) (h0 : xs.getD 8 0 ≠ 0) : splice (splice xs 8 (be 2 (wordAt xs 8 - 256))) 10 (be 2 (hopC xs)) = hopV xs := by
  have hm := (hop_mid xs hb (by omega)).resolve_right h0
  have hc := hopC_range xs hb
  have e1 : hopC xs / 256 % 256 = hopC xs / 256 := by omega
  rw [hm, be_two, e1, splice_two _ _ 10 _ (by rw [List.length_set]; omega)]
  rfl
theorem hopV_len (xs : List Int) : (hopV xs).length = xs.length := by simp [hopV]
theorem hopV_byt (xs : List Int) (hb : Byt xs) (h0 : xs.getD 8 0 ≠ 0) : Byt (hopV xs) := by
  have hc := hopC_range xs hb
  have h1 := hb.get 8
  exact ((hb.set _ (by omega)).set _ (by omega)).set _ (by omega)
theorem HopH.one {w w' : World} {xs : List Int} {e : Ending} (p : HopH w xs e w') : Below w.heap.size w w' ∧ ∃ a n cap, e = .returned (.tuple #[.slice a n cap, .int .i64 (hopE xs)]) ∧ Own w' w.heap.size a n cap (if hopE xs = 0 then hopV xs else []) := by
  obtain ⟨hb, ⟨hr, a, n, c, he, ho⟩ | ⟨hr, he⟩⟩ := p
  · exact ⟨hb, a, n, c, by rw [he, hr], by rw [if_pos hr]; exact ho⟩
  · exact ⟨hb, none, 0, 0, he, by rw [if_neg hr]; exact Own.nil _ _⟩
theorem BodyH.one {w w' : World} {xs : List Int} {e : Ending} (p : BodyH w xs e w') : Below w.heap.size w w' ∧ ∃ a n cap, e = .returned (.tuple #[.slice a n cap, .int .i64 (bdE xs)]) ∧ Own w' w.heap.size a n cap (if bdE xs = 0 then bdV xs else []) := by
  obtain ⟨hb, ⟨hr, a, n, c, he, ho⟩ | ⟨hr, he⟩⟩ := p
  · exact ⟨hb, a, n, c, by rw [he, hr], by rw [if_pos hr]; exact ho⟩
  · exact ⟨hb, none, 0, 0, he, by rw [if_neg hr]; exact Own.nil _ _⟩
theorem hopE_zero {xs : List Int} (h : hopE xs = 0) : psE xs = 0 ∧ xs.getD 8 0 ≠ 0 := by
  unfold hopE at h
  split at h
  · omega
  · split at h
    · omega
    · exact ⟨by omega, by assumption⟩
theorem PS.set {w1 w : World} {g : Nat} {xs : List Int} (h : PS w1 g w xs) (p v k : Int) (hv : U64 v) (hl : xs.length ≤ 1000000000) (hf : setB xs.length p v k = true) :
    Calls Try.prog 44 #[.pointer (some ⟨g, 0, none⟩), .int .i64 p, .int .u64 v, .int .i64 k] w fun e w' => e = .returned (.int .i64 0) ∧ PS w1 g w' (splice xs p.toNat (be k.toNat v)) := by
  obtain ⟨a, n, c, hw⟩ := h.wr
  have hn := hw.2.len
  refine (wSet_fit _ _ _ _ _ xs p v k _ hw hv (by omega) (by rw [← hn]; exact hf)).mono ?_
  rintro e w' ⟨rfl, hr⟩
  exact ⟨rfl, h.next hw hr⟩
theorem take_get (xs : List Int) (m j : Nat) (h : j < m) : (xs.take m).getD j 0 = xs.getD j 0 := take_getD xs m j h

set_option maxRecDepth 100000 in
set_option maxHeartbeats 1000000 in
theorem iHop_any (a : Option Addr) (n cap : Nat) (xs : List Int) (w : World) (hn : xs.length = n) (hr : Rd w a xs) (hb : Byt xs) (hl : n ≤ 1000000) (hc : n ≤ cap) (hcm : cap ≤ maxLen) :
    Calls Try.prog 22 #[.slice a n cap] w (HopH w xs) := by
  have HN := Lib.hid hn
  have HR := Lib.hid hr
  have HB := Lib.hid hb
  have HCM := Lib.hid hcm
  have HTW : Hid (∀ w1 : World, (w1.alloc (.cells hd0.cs.toArray 26)).there w1.heap.size 0 17) := fun _ => there_new _ _ _ _ rfl _ rfl
  by_cases hp : psE xs = 0
  · obtain ⟨m, hm, m20, m60, mn, mt⟩ := psE_zero hp hb
    rw [hn] at mn
    have HP := Lib.hid hp
    have HM := Lib.hid hm
    have HYL : Hid ((xs.take m).length = m) := by show _ = _; rw [List.length_take]; omega
    obtain ⟨T, hT⟩ : ∃ T, xs.getD 8 0 = T := ⟨_, rfl⟩
    have HT := Lib.hid hT
    have HHT : Hid (∀ a2 n2 c2, (hdOf (xs.take m) a2 n2 c2).ttl = T) := fun _ _ _ => by show (xs.take m).getD 8 0 = T; rw [take_getD _ _ _ (by omega), hT]
    have hT8 := hb.get 8
    rw [hT] at hT8
    have hF8 := wordAt_range hb 8
    have hFT : wordAt xs 8 = T * 256 + xs.getD 9 0 := by rw [← hT]; rfl
    have hx9 := hb.get 9
    clear hp hm mt hn hr hb hcm hT
    by_cases h0 : T = 0
    · subst h0
      have HE : Hid (hopE xs = 51) := by show _ = _; unfold hopE; rw [if_neg (by rw [HP.out]; decide), if_pos HT.out]
      clear hT8 hF8 hFT hx9
      go_enter Try.func22, Try.ntmps22
      go_wp2_with fail
      refine (iParse_any _ n _ xs _ HN.out HR.out HB.out hl hc HCM.out).mono ?_
      rintro e w1 ⟨hb1, ⟨_, a2, n2, c2, rfl, ho2⟩ | ⟨h1, _⟩⟩
      · rw [HM.out, Int.toNat_natCast] at ho2
        rw [HM.out, Int.toNat_natCast]
        have HB1 := Lib.hid hb1
        have HLH := Lib.hid (hdOf_len (xs.take m) a2 n2 c2 (by rw [HYL.out]; exact m20))
        obtain ⟨hp1, hp2, hp3⟩ := put_new w1 (hdOf (xs.take m) a2 n2 c2).cs hd0.cs 26 (by rw [HLH.out]; rfl)
        rw [HLH.out] at hp3
        have HP3 := Lib.hid hp3
        have HF0 : Hid (Below w.heap.size w ((w1.alloc (.cells hd0.cs.toArray 26)).setCells w1.heap.size 0 (hdOf (xs.take m) a2 n2 c2).cs) ∧ ((w1.alloc (.cells hd0.cs.toArray 26)).setCells w1.heap.size 0 (hdOf (xs.take m) a2 n2 c2).cs).cell? ⟨w1.heap.size, 6, none⟩ = some (.int .u8 0)) :=
          ⟨HB1.out.trans (hp1.mono HB1.out.size), by rw [range_cell hp2 (Hd.c6 _)]; exact congrArg (fun z => some (Value.int .u8 z)) (HHT.out a2 n2 c2)⟩
        obtain ⟨H1, hH1⟩ : ∃ x, hdOf (xs.take m) a2 n2 c2 = x := ⟨_, rfl⟩
        rw [hH1] at HLH HF0
        rw [hH1]
        clear hb1 hp1 hp2 hp3 ho2 hH1
        go_wp2_with (refine stHN (fun w' => Hid (Below w.heap.size w w' ∧ w'.cell? ⟨w1.heap.size, 6, none⟩ = some (.int .u8 0))) (.tmp 4) (.tmp 13) rfl rfl w1.heap.size H1 rfl rfl HLH.out HP3.out HF0 ?_; intro wc HF; have hcell := HF.out.2)
        go_ret2
        exact ⟨HF.out.1, .inr ⟨by rw [HE.out]; decide, by rw [HE.out]; rfl⟩⟩
      · exact absurd HP.out h1
    · have HE : Hid (hopE xs = 0) := by show _ = _; unfold hopE; rw [if_neg (by rw [HP.out]; decide), if_neg (by rw [HT.out]; exact h0)]
      have hT0 : (T == 0) = false := by simpa using h0
      have h0x : xs.getD 8 0 ≠ 0 := by rw [HT.out]; exact h0
      have HV := Lib.hid (hop_bytes xs HB.out (by rw [HN.out]; omega) h0x)
      have HHC := Lib.hid (hopC_range xs HB.out)
      have HHL := Lib.hid (hopV_len xs)
      obtain ⟨F, hF⟩ : ∃ F, wordAt xs 8 = F := ⟨_, rfl⟩
      rw [hF] at hF8 hFT
      have HWF := Lib.hid hF
      have hF1 : 256 ≤ F := by omega
      have hF2 : F ≤ 65535 := hF8.2
      rw [hF] at HV
      have HSB : Hid (setB xs.length 8 (F - 256) 2 = true) := by
        show setB _ _ _ _ = true
        simp only [setB, (fit2 (c := F - 256) (by omega) (by omega)).2, Bool.true_and, Bool.and_eq_true, decide_eq_true_eq]
        have := HN.out
        omega
      have HSU : Hid (U64 (F - 256)) := (fit2 (c := F - 256) (by omega) (by omega)).1
      have h10 := wordAt_range HB.out 10
      obtain ⟨K, hK⟩ : ∃ K, wordAt xs 10 = K := ⟨_, rfl⟩
      have HWK := Lib.hid hK
      rw [hK] at h10
      have HHK : Hid (chg K F (F - 256) = hopC xs) := by show _ = _; unfold hopC; rw [hK, hF]
      clear hT8 hF8 hFT hx9 hF h0x hK
      go_enter Try.func22, Try.ntmps22
      go_wp2_with fail
      refine (iParse_any _ n _ xs _ HN.out HR.out HB.out hl hc HCM.out).mono ?_
      rintro e w1 ⟨hb1, ⟨_, a2, n2, c2, rfl, ho2⟩ | ⟨h1, _⟩⟩
      · rw [HM.out, Int.toNat_natCast] at ho2
        rw [HM.out, Int.toNat_natCast]
        have HB1 := Lib.hid hb1
        have HLH := Lib.hid (hdOf_len (xs.take m) a2 n2 c2 (by rw [HYL.out]; exact m20))
        obtain ⟨hp1, hp2, hp3⟩ := put_new w1 (hdOf (xs.take m) a2 n2 c2).cs hd0.cs 26 (by rw [HLH.out]; rfl)
        rw [HLH.out] at hp3
        have HP3 := Lib.hid hp3
        have HF0 : Hid (Below w.heap.size w ((w1.alloc (.cells hd0.cs.toArray 26)).setCells w1.heap.size 0 (hdOf (xs.take m) a2 n2 c2).cs) ∧ ((w1.alloc (.cells hd0.cs.toArray 26)).setCells w1.heap.size 0 (hdOf (xs.take m) a2 n2 c2).cs).cell? ⟨w1.heap.size, 6, none⟩ = some (.int .u8 T)) :=
          ⟨HB1.out.trans (hp1.mono HB1.out.size), by rw [range_cell hp2 (Hd.c6 _)]; exact congrArg (fun z => some (Value.int .u8 z)) (HHT.out a2 n2 c2)⟩
        obtain ⟨H1, hH1⟩ : ∃ x, hdOf (xs.take m) a2 n2 c2 = x := ⟨_, rfl⟩
        rw [hH1] at HLH HF0
        rw [hH1]
        clear hb1 hp1 hp2 hp3 ho2 hH1
        go_wp2_with (refine stHN (fun w' => Hid (Below w.heap.size w w' ∧ w'.cell? ⟨w1.heap.size, 6, none⟩ = some (.int .u8 T))) (.tmp 4) (.tmp 13) rfl rfl w1.heap.size H1 rfl rfl HLH.out HP3.out HF0 ?_; intro wc HF; have hcell := HF.out.2)
        have HBC := Lib.hid HF.out.1
        have HRC := Lib.hid (HR.out.below HBC.out)
        clear hcell HF0 HF HP3 HLH
        refine (iWord_any _ _ _ xs 8 _ HN.out HRC.out HB.out (by omega) hc (by omega)).mono ?_
        rintro e wq ⟨rfl, rfl⟩
        rw [HWF.out]
        have HP0 := Lib.hid (PS.fresh wc)
        have HBA : Hid (Below wc.heap.size wc (wc.alloc (.cells #[.slice none 0 0] 64))) := (Below.refl _ _).alloc (Nat.le_refl _) _
        have HBN : Hid (Below w.heap.size w (wc.alloc (.cells #[.slice none 0 0] 64))) := HBC.out.alloc HBC.out.size _
        have HRN : Hid (Rd (wc.alloc (.cells #[.slice none 0 0] 64)) a xs) := HRC.out.below HBA.out
        have HNA : Hid (xs ≠ [] → blk a ≠ some wc.heap.size) := HRC.out.apart (Nat.le_refl _)
        have HSZ := Lib.hid HBC.out.size
        go_wp2_with fail
        refine (HP0.out.raw a n cap xs HN.out HRN.out (by simp; omega)).mono ?_
        rintro e w3 ⟨rfl, hps⟩
        have HP1 := Lib.hid hps
        clear hps
        go_wp2_with fail
        refine (HP1.out.set 8 (F - 256) 2 HSU.out (by simp [HN.out]; omega) (by simpa using HSB.out)).mono ?_
        rintro e w4 ⟨rfl, hps⟩
        have HP2 := Lib.hid hps
        have HR4 := Lib.hid (hps.rd HRN.out HNA.out)
        clear hps HP1
        go_wp2_with fail
        refine (iWord_any _ _ _ xs 10 _ HN.out HR4.out HB.out (by omega) hc (by omega)).mono ?_
        rintro e wq ⟨rfl, rfl⟩
        rw [HWK.out]
        go_wp2_with fail
        refine (change_any K F (F - 256) _ h10.1 h10.2 (by omega) hF2 (by omega) (by omega)).mono ?_
        rintro e wq ⟨rfl, rfl⟩
        rw [HHK.out]
        have hlen : (splice ([] ++ xs) (8 : Int).toNat (be (2 : Int).toNat (F - 256))).length = n := by
          have h1 := HN.out
          rw [List.nil_append, splice_length]
          · exact h1
          · rw [be_length]; show 8 + 2 ≤ _; omega
        have HLN := Lib.hid hlen
        clear hlen
        go_wp2_with fail
        refine (HP2.out.check (hopC xs) (by rw [HLN.out]; omega) (by rw [HLN.out]; omega) HHC.out.1 HHC.out.2).mono ?_
        rintro e w5 ⟨rfl, hps⟩
        have hv : splice (splice ([] ++ xs) (8 : Int).toNat (be (2 : Int).toNat (F - 256))) 10 (be 2 (hopC xs)) = hopV xs := HV.out
        rw [hv] at hps
        have HP3 := Lib.hid hps
        clear hps hv HP2
        go_wp2_with fail
        refine (HP3.out.bytes (by rw [HHL.out, HN.out]; omega)).mono ?_
        rintro e w6 ⟨a6, n6, c6, rfl, hown, hb6⟩
        have HB6 : Hid (Below w.heap.size w w6) := (HP3.out.belowNew w HBN.out HSZ.out).trans (hb6.mono (HP3.out.belowNew w HBN.out HSZ.out).size)
        have HO6 : Hid (Own w6 w.heap.size a6 n6 c6 (hopV xs)) := hown.mono (HP3.out.belowNew w HBN.out HSZ.out).size
        clear hown hb6
        go_wp2_with fail
        go_ret2
        exact ⟨HB6.out, .inl ⟨HE.out, a6, n6, c6, rfl, HO6.out⟩⟩
      · exact absurd HP.out h1
  · have HP := Lib.hid hp
    obtain ⟨pz, hpz⟩ : ∃ x, psE xs = x := ⟨_, rfl⟩
    have HPZ := Lib.hid hpz
    have HE : Hid (hopE xs = pz) := by show _ = _; unfold hopE; rw [if_pos hp, hpz]
    rw [hpz] at hp
    have hp' : (pz == 0) = false := by simpa using hp
    clear hpz hn hr hb hcm
    go_enter Try.func22, Try.ntmps22
    go_wp2_with fail
    refine (iParse_any _ n _ xs _ HN.out HR.out HB.out hl hc HCM.out).mono ?_
    rintro e w1 ⟨hb1, ⟨h1, _⟩ | ⟨h1, rfl⟩⟩
    · exact absurd h1 HP.out
    · rw [HPZ.out]
      have HB1 := Lib.hid hb1
      have HP3 := Lib.hid (HTW.out w1)
      have HF0 : Hid (Below w.heap.size w ((w1.alloc (.cells hd0.cs.toArray 26)).setCells w1.heap.size 0 hd0.cs)) := HB1.out.trans ((Below.setCells ((Below.refl _ _).alloc (Nat.le_refl _) _) _ (Nat.le_refl _) _ _).mono HB1.out.size)
      clear hb1 h1
      go_wp2_with (refine stHN (fun w' => Hid (Below w.heap.size w w')) (.tmp 4) (.tmp 13) rfl rfl w1.heap.size hd0 rfl rfl hd0_len HP3.out HF0 ?_; intro wc HF)
      go_ret2
      exact ⟨HF.out, .inr ⟨by rw [HE.out]; exact hp, by rw [HE.out]; rfl⟩⟩
end Go.Proofs.Ytjnbnjdajkhkpaa

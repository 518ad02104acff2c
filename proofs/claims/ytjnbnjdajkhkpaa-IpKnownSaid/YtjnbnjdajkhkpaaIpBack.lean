/-
  IpBack, walked: for a header whose numbers fit their Go types and bytes that lie where the slice leads the call answers true. The contract of Same is a premise here.
-/
import Derived.Test.YtjnbnjdajkhkpaaIpBackM
import Derived.Deep.CutRange
namespace Go.Proofs.Ytjnbnjdajkhkpaa
open Go.RowKit

/-- A header as it is parsed back: the same but for where its options lie. -/
def Hd.at' (h : Hd) (a : Option Addr) (c : Nat) : Hd := { h with a := a, c := c }
def Hd.less (h : Hd) : Hd := { h with ttl := h.ttl - 1 }
theorem at_ok {w w' : World} {h : Hd} {a : Option Addr} {c B : Nat} (k : h.ok w) (ho : Own w' B a h.n c h.op) : (h.at' a c).ok w' :=
  ⟨k.tos, k.tot, k.id, k.frag, k.ttl, k.pro, k.src, k.dst, k.srcb, k.dstb, ⟨ho.len, ho.le.1, ho.le.2, ho.rd, k.row.byt⟩⟩
theorem at_same (h : Hd) (a : Option Addr) (c : Nat) : smH (h.at' a c) h = true := by simp [smH, Hd.at']
theorem at_len {w : World} {h : Hd} (k : h.ok w) (a : Option Addr) (c : Nat) : (h.at' a c).cs.length = 17 := by simp [Hd.cs, Hd.at', bv, k.src, k.dst]
theorem less_ok {w : World} {h : Hd} (k : h.ok w) (h0 : h.ttl ≠ 0) : h.less.ok w := by
  have := k.ttl
  exact ⟨k.tos, k.tot, k.id, k.frag, by show 0 ≤ h.ttl - 1 ∧ h.ttl - 1 < 256; omega, k.pro, k.src, k.dst, k.srcb, k.dstb, k.row⟩
theorem parse_put {w w' w0 : World} {h : Hd} {c : Int} {ys : List Int} {e : Ending} (k : h.ok w0) (hr : rgH h.frag h.tot h.n = true) (c0 : 0 ≤ c) (c1 : c ≤ 65535) (hw : whl (ws 0 (hby h c)) = true) (p : ParseH w (hby h c ++ ys) e w') :
    Below w.heap.size w w' ∧ ∃ a cc, e = .returned (.tuple #[.agg (h.at' a cc).cs.toArray, .int .i64 ((20 + h.n : Nat) : Int), .int .i64 0]) ∧ Own w' w.heap.size a h.n cc h.op := by
  obtain ⟨z1, z2, z3, z4⟩ := psE_hby k hr c0 c1 hw ys
  have e1 : (szV (hby h c ++ ys)).toNat = 20 + h.n := by rw [z2]; omega
  have hop : (hby h c).drop 20 = h.op := by
    have := congrArg Hd.op (hdOf_hby k hr c0 c1 none 0 0)
    exact this
  obtain ⟨hb, ⟨_, a, n, cc, he, ho⟩ | ⟨h1, _⟩⟩ := p
  · rw [e1, z3, hop] at ho
    rw [e1, z3, hdOf_hby k hr c0 c1] at he
    have hn : n = h.n := by rw [← ho.len]; exact k.row.len
    subst hn
    refine ⟨hb, a, cc, ?_, ho⟩
    rw [he, z2]
    rfl
  · exact absurd z1 h1
theorem parse_any' {w w' : World} {xs : List Int} {e : Ending} (hb : Byt xs) (p : ParseH w xs e w') : Below w.heap.size w w' ∧ ∃ g : Hd, e = .returned (.tuple #[.agg g.cs.toArray, .int .i64 (rpV xs), .int .i64 (psE xs)]) ∧ g.ok w' ∧ (psE xs = 0 → ∃ a n c, g = hdOf (xs.take (szV xs).toNat) a n c) := by
  obtain ⟨hbl, ⟨hz, a, n, c, he, ho⟩ | ⟨hz, he⟩⟩ := p
  · obtain ⟨m, hm, m20, m60, mn, mt⟩ := psE_zero hz hb
    have h20 : 20 ≤ (xs.take (szV xs).toNat).length := by rw [List.length_take, hm, Int.toNat_natCast]; omega
    exact ⟨hbl, hdOf (xs.take (szV xs).toNat) a n c, by rw [he, hz, rpV, if_pos hz], hdOf_ok ho (hb.take _) h20, fun _ => ⟨a, n, c, rfl⟩⟩
  · exact ⟨hbl, hd0, by rw [he, rpV, if_neg hz], hd0_ok _, fun h => absurd h hz⟩
theorem range_set {w : World} {b : Nat} {cs : List Value} (hr : w.rangeAt b 0 cs) (j : Nat) (v : Value) : (w.setCell ⟨b, j, none⟩ v).rangeAt b 0 (cs.set j v) := fun i u hu => by
  rw [List.getElem?_set] at hu
  by_cases e : j = i
  · subst e
    rw [if_pos rfl] at hu
    split at hu
    · rename_i hlt
      cases hu
      have hc := hr j _ (List.getElem?_eq_getElem hlt)
      rw [Nat.zero_add] at hc ⊢
      exact World.cell?_setCell_same _ _ _ hc
    · cases hu
  · rw [if_neg e] at hu
    rw [World.cell?_setCell_other _ _ _ _ (by intro hh; simp at hh)]
    exact hr i u hu
theorem set_ttl (h : Hd) (t : Int) : h.cs.set 6 (.int .u8 t) = ({ h with ttl := t } : Hd).cs := rfl

set_option maxRecDepth 100000 in
set_option maxHeartbeats 4000000 in
theorem back_any (HSAME : ∀ (h g : Hd) (w : World), h.ok w → g.ok w → Calls Try.prog 15 #[.agg h.cs.toArray, .agg g.cs.toArray] w (Gives w (.bool (smH h g))))
    (h : Hd) (a2 : Option Addr) (n2 cap2 : Nat) (ys : List Int) (d y : Int) (w : World) (k : h.ok w) (hn2 : ys.length = n2) (hc2 : n2 ≤ cap2) (hcm2 : cap2 ≤ maxLen) (hr2 : Rd w a2 ys) (hby2 : Byt ys) (y0 : 0 ≤ y) (y1 : y ≤ 255) :
    Calls Try.prog 6 #[.agg h.cs.toArray, .slice a2 n2 cap2, .int .i64 d, .int .u8 y] w fun e w' => e = .returned (.bool true) ∧ Below w.heap.size w w' := by
  have hbA : Below w.heap.size w (w.alloc (.cells h.cs.toArray 26)) := (Below.refl _ _).alloc (Nat.le_refl _) _
  have hr1 := Hd.range w h 26
  obtain ⟨w0, hw0⟩ : ∃ x, w.alloc (.cells h.cs.toArray 26) = x := ⟨_, rfl⟩
  rw [hw0] at hbA hr1
  have HK : Hid (h.ok w0) := k.below hbA
  have HLH := Lib.hid k.len
  have HR := Lib.hid hr1
  have HB := Lib.hid hbA
  have HN2 := Lib.hid hn2
  have HR2 : Hid (Rd w0 a2 ys) := hr2.below hbA
  have HB2 := Lib.hid hby2
  have HCM2 := Lib.hid hcm2
  have HC2 := Lib.hid hc2
  have c16 := k.c16
  have ht := k.ttl
  have HTT := Lib.hid ht
  obtain ⟨n1, hn1⟩ : ∃ x, h.n = x := ⟨_, rfl⟩
  obtain ⟨T, hT⟩ : ∃ x, h.ttl = x := ⟨_, rfl⟩
  rw [hn1] at c16
  rw [hT] at ht
  obtain ⟨cs, hcs⟩ : ∃ x, h.cs.toArray = x := ⟨_, rfl⟩
  rw [hcs] at c16 hw0
  rw [hcs]
  have HW0 := Lib.hid hw0
  have HN1 := Lib.hid hn1
  have HT := Lib.hid hT
  clear hbA hr1 k hn2 hr2 hby2 hcm2 hc2 hw0 hn1 hT hcs
  by_cases ha : 100 < n1
  · go_enter Try.func6, Try.ntmps6
    go_wp2_with fail
    rw [HW0.out]
    refine (works5_any _).mono ?_
    rintro e w1 ⟨rfl, hb1⟩
    have HB1 := Lib.hid (HB.out.trans (hb1.mono HB.out.size))
    clear hb1
    go_wp2_with fail
    go_ret
    exact ⟨rfl, HB1.out⟩
  by_cases hc : 300 < n2
  · go_enter Try.func6, Try.ntmps6
    go_wp2_with fail
    rw [HW0.out]
    refine (works5_any _).mono ?_
    rintro e w1 ⟨rfl, hb1⟩
    have HB1 := Lib.hid (HB.out.trans (hb1.mono HB.out.size))
    clear hb1
    go_wp2_with fail
    go_ret
    exact ⟨rfl, HB1.out⟩
  have HM : Hid (h.n ≤ 9000000000000) := by show _ ≤ _; rw [HN1.out]; omega
  cases hrg : rgH h.frag h.tot h.n with
  | false =>
    have HG := Lib.hid hrg
    clear hrg
    go_enter Try.func6, Try.ntmps6
    go_wp2_with (refine ldH (.tmp 4) rfl rfl _ rfl h HLH.out (by rw [HW0.out]; exact HR.out) ?_)
    rw [HW0.out]
    refine (iPut_any h _ HK.out HM.out).mono ?_
    rintro e w1 ⟨hb1, ⟨h1, _⟩ | ⟨_, rfl⟩⟩
    · rw [HG.out] at h1; cases h1
    have HR1 := Lib.hid (range_kept hb1 HR.out)
    have HK1 := Lib.hid (HK.out.below hb1)
    have HB1 := Lib.hid (HB.out.trans (hb1.mono HB.out.size))
    clear hb1
    go_wp2_with (refine ldH (.tmp 4) rfl rfl _ rfl h HLH.out HR1.out ?_)
    refine (iRight_any h _ _ HK1.out HM.out).mono ?_
    rintro e w2 ⟨rfl, hb2⟩
    rw [HG.out]
    have HBX := Lib.hid (HB1.out.trans (hb2.mono HB1.out.size))
    clear hb2
    go_wp2_with fail
    refine (works5_any _).mono ?_
    rintro e w3 ⟨rfl, hb3⟩
    have HBY := Lib.hid (HBX.out.trans (hb3.mono HBX.out.size))
    clear hb3
    go_wp2_with fail
    go_ret
    exact ⟨rfl, HBY.out⟩
  | true =>
    have HG := Lib.hid hrg
    obtain ⟨f1, f2, f3, f4⟩ := rgH_iff.1 hrg
    obtain ⟨C, hC⟩ : ∃ x, hck h = x := ⟨_, rfl⟩
    have hcr := hck_range HK.out
    have hwl := whl_hby HK.out hrg
    have hfe := hfull_eq h
    rw [hC] at hcr hwl hfe
    have HCR := Lib.hid hcr
    have HWL := Lib.hid hwl
    have HFE := Lib.hid hfe
    have hfl := hfull_len h HK.out.src HK.out.dst HK.out.row.len
    rw [HN1.out] at f3 hfl
    obtain ⟨M, hM⟩ : ∃ M, 20 + n1 = M := ⟨_, rfl⟩
    rw [hM, hfe] at hfl
    have HFL := Lib.hid hfl
    have HHB : Hid (Byt (hby h C)) := hby_byt h C HK.out.srcb HK.out.dstb HK.out.row.byt
    have HMN : Hid (20 + h.n = M) := by show _ = _; rw [HN1.out, hM]
    have hM1 : 20 ≤ M := by omega
    have hM2 : M ≤ 60 := by omega
    have HAL : Hid ((hby h C ++ ys).length = M + n2) := by show _ = _; rw [List.length_append, HFL.out, HN2.out]
    have HAB : Hid (Byt (hby h C ++ ys)) := HHB.out.append HB2.out
    clear hrg f1 f2 f3 f4 hC hcr hwl hfe hfl hM
    go_enter Try.func6, Try.ntmps6
    go_wp2_with (refine ldH (.tmp 4) rfl rfl _ rfl h HLH.out (by rw [HW0.out]; exact HR.out) ?_)
    rw [HW0.out]
    refine (iPut_any h _ HK.out HM.out).mono ?_
    rintro e w1 ⟨hb1, ⟨_, a1, m1, c1, rfl, ho1⟩ | ⟨h1, _⟩⟩
    rotate_left
    · rw [HG.out] at h1; cases h1
    rw [HFE.out] at ho1
    have hm1 : m1 = M := by rw [← ho1.len, HFL.out]
    subst hm1
    have HR1 := Lib.hid (range_kept hb1 HR.out)
    have HB1 := Lib.hid hb1
    have HO1 := Lib.hid ho1
    clear hb1 ho1
    go_wp2_with (refine ldH (.tmp 4) rfl rfl _ rfl h HLH.out HR1.out ?_)
    refine (iRight_any h _ _ (HK.out.below HB1.out) HM.out).mono ?_
    rintro e w2 ⟨rfl, hb2⟩
    rw [HG.out]
    have HBX : Hid (Below w0.heap.size w0 w2) := HB1.out.trans (hb2.mono HB1.out.size)
    have HO2 : Hid (Own w2 w0.heap.size a1 m1 c1 (hby h C)) := HO1.out.below hb2
    clear hb2 HO1 HB1 HR1
    go_wp2_with fail
    refine (join_any a1 a2 m1 c1 n2 cap2 (hby h C) ys _ HFL.out HN2.out HO2.out.rd (HR2.out.below HBX.out) (by omega)).mono ?_
    rintro e w3 ⟨a3, n3, c3, rfl, ho3, hb3⟩
    have hn3 : n3 = m1 + n2 := by rw [← ho3.len, HAL.out]
    have HN3 := Lib.hid hn3
    rw [← hn3] at HAL
    have h3m : m1 ≤ n3 := by omega
    have h3x : n3 ≤ 360 := by omega
    clear hn3
    have HB3 : Hid (Below w0.heap.size w0 w3) := HBX.out.trans (hb3.mono HBX.out.size)
    have HO13 : Hid (Own w3 w0.heap.size a1 m1 c1 (hby h C)) := HO2.out.below hb3
    have HO3 : Hid (Own w3 w0.heap.size a3 n3 c3 (hby h C ++ ys)) := ho3.mono HBX.out.size
    clear hb3 ho3 HO2 HBX
    go_wp2_with fail
    refine (iParse_any a3 n3 c3 (hby h C ++ ys) _ HAL.out HO3.out.rd HAB.out (by omega) HO3.out.le.1 HO3.out.le.2).mono ?_
    rintro e w4 hp
    obtain ⟨hb4, ax, cx, rfl, hox⟩ := parse_put HK.out HG.out HCR.out.1 HCR.out.2 HWL.out hp
    rw [HMN.out]
    have HKX : Hid ((h.at' ax cx).ok w4) := at_ok HK.out hox
    have HLX := Lib.hid (at_len HK.out ax cx)
    have HSX := Lib.hid (at_same h ax cx)
    obtain ⟨hp1, hp2, hp3⟩ := put_new w4 (h.at' ax cx).cs hd0.cs 26 (by rw [HLX.out]; rfl)
    rw [HLX.out] at hp3
    have HP3 := Lib.hid hp3
    obtain ⟨x, hx⟩ : ∃ x, h.at' ax cx = x := ⟨_, rfl⟩
    rw [hx] at HKX HLX HSX hp1 hp2
    rw [hx]
    have hb5 : Below w3.heap.size w3 ((w4.alloc (.cells hd0.cs.toArray 26)).setCells w4.heap.size 0 x.cs) := hb4.trans (hp1.mono hb4.size)
    have HF0 : Hid (Below w3.heap.size w3 ((w4.alloc (.cells hd0.cs.toArray 26)).setCells w4.heap.size 0 x.cs) ∧ ((w4.alloc (.cells hd0.cs.toArray 26)).setCells w4.heap.size 0 x.cs).rangeAt w4.heap.size 0 x.cs ∧ x.ok ((w4.alloc (.cells hd0.cs.toArray 26)).setCells w4.heap.size 0 x.cs)) :=
      ⟨hb5, hp2, HKX.out.below hp1⟩
    clear hp hb4 hox hp1 hp2 hp3 hb5 hx HKX
    go_wp2_with (first | (refine stHN (fun w' => Hid (Below w3.heap.size w3 w' ∧ w'.rangeAt w4.heap.size 0 x.cs ∧ x.ok w')) (.tmp 12) (.tmp 53) rfl rfl w4.heap.size x rfl rfl HLX.out HP3.out HF0 ?_; intro wp HF) | (refine ldHg (.tmp 12) rfl (by rfl) w4.heap.size rfl x HLX.out HF.out.2.1 ?_) | (refine ldHg (.tmp 4) rfl (by rfl) w.heap.size rfl h HLH.out (range_kept (HB3.out.trans (HF.out.1.mono HB3.out.size)) HR.out) ?_))
    have hbc : Below w0.heap.size w0 wp := HB3.out.trans (HF.out.1.mono HB3.out.size)
    refine (HSAME x h _ HF.out.2.2 (HK.out.below hbc)).mono ?_
    rintro e w5 ⟨rfl, hb5⟩
    rw [HSX.out]
    have hx5 : Below w3.heap.size w3 w5 := HF.out.1.trans (hb5.mono HF.out.1.size)
    have HB5 : Hid (Below w0.heap.size w0 w5) := hbc.trans (hb5.mono hbc.size)
    have HO5 : Hid (Own w5 w0.heap.size a1 m1 c1 (hby h C)) := HO13.out.below hx5
    have HOA : Hid (Own w5 w0.heap.size a3 n3 c3 (hby h C ++ ys)) := HO3.out.below hx5
    clear hbc hb5 hx5 HF HF0 HP3 HSX HLX HO13 HO3 HB3 c16
    go_wp2_with fail
    refine (join_any none a1 0 0 m1 c1 [] (hby h C) _ rfl HFL.out (Rd.empty _ _) HO5.out.rd (by omega)).mono ?_
    rintro e w6 hmade
    rw [List.nil_append] at hmade
    obtain ⟨g4, c4, rfl, hcp, hg4⟩ := hmade.cp HFL.out (by omega)
    have HCP := Lib.hid hcp
    have h1M : (1 : Int) < (m1 : Int) := by omega
    clear hmade hcp hg4 HO5
    go_wp2_with fail
    refine (kPick_any d m1 _ (by omega) (by omega)).mono ?_
    rintro e wq ⟨rfl, rfl⟩
    have hq0 := Int.emod_nonneg d (show (m1 : Int) ≠ 0 by omega)
    have hq1 := Int.emod_lt_of_pos d (show 0 < (m1 : Int) by omega)
    obtain ⟨q, hq⟩ := Int.eq_ofNat_of_zero_le hq0
    rw [hq] at hq1 ⊢
    have hqm : q < m1 := by omega
    clear hq hq0 hq1
    obtain ⟨d1, g1⟩ := HCP.out.at_ (j := q) hqm
    obtain ⟨v, hv⟩ : ∃ v, (hby h C).getD q 0 = v := ⟨_, rfl⟩
    obtain ⟨v0, v1⟩ := HHB.out.get q
    rw [hv] at d1 v0 v1
    have HV := Lib.hid hv
    have hcp7 := HCP.out.set q ((v + y) % 256)
    have hc4 : m1 ≤ c4 := HCP.out.own.le.1
    have hc4m : c4 ≤ 9223372036854775807 := HCP.out.own.le.2
    clear hv
    go_wp2_with fail
    obtain ⟨w7, hw7⟩ : ∃ x, w6.setCell ⟨g4, q, none⟩ (.int .u8 ((v + y) % 256)) = x := ⟨_, rfl⟩
    rw [hw7] at hcp7 ⊢
    have HB7 : Hid (Below w0.heap.size w0 w7) := HB5.out.trans (hcp7.below.mono HB5.out.size)
    have HO7 : Hid (Own w7 w0.heap.size a3 n3 c3 (hby h C ++ ys)) := HOA.out.below hcp7.below
    have hyl : ((hby h C).set q ((v + y) % 256)).length = m1 := by rw [List.length_set]; exact HFL.out
    have hyb : Byt ((hby h C).set q ((v + y) % 256)) := HHB.out.set q (by omega)
    refine (iParse_any (some ⟨g4, 0, none⟩) m1 c4 _ _ hyl hcp7.own.rd hyb (by omega) hc4 hcp7.own.le.2).mono ?_
    rintro e w8 hp
    obtain ⟨hb8, z, rfl, kz, hz⟩ := parse_any' hyb hp
    have HCH : Hid (0 < y → q ≠ 10 → q ≠ 11 → psE ((hby h C).set q ((v + y) % 256)) = 0 → smH z h = false) := fun p1 p2 p3 p4 => by
      obtain ⟨aa, nn, cc, rfl⟩ := hz p4
      exact changed HK.out HG.out HCR.out.1 HCR.out.2 (by have := HMN.out; omega) p2 p3 ⟨by omega, by omega⟩ (by rw [HV.out]; omega) p4 aa nn cc
    obtain ⟨E2, hE2⟩ : ∃ E, psE ((hby h C).set q ((v + y) % 256)) = E := ⟨_, rfl⟩
    obtain ⟨V2, hV2⟩ : ∃ V, rpV ((hby h C).set q ((v + y) % 256)) = V := ⟨_, rfl⟩
    rw [hE2] at HCH
    rw [hE2, hV2]
    have HLZ := Lib.hid kz.len
    obtain ⟨hp1, hp2, hp3⟩ := put_new w8 z.cs hd0.cs 26 (by rw [HLZ.out]; rfl)
    rw [HLZ.out] at hp3
    have HP3 := Lib.hid hp3
    have hb9 : Below w7.heap.size w7 ((w8.alloc (.cells hd0.cs.toArray 26)).setCells w8.heap.size 0 z.cs) := hb8.trans (hp1.mono hb8.size)
    have HF0 : Hid (Below w0.heap.size w0 ((w8.alloc (.cells hd0.cs.toArray 26)).setCells w8.heap.size 0 z.cs) ∧ Own ((w8.alloc (.cells hd0.cs.toArray 26)).setCells w8.heap.size 0 z.cs) w0.heap.size a3 n3 c3 (hby h C ++ ys) ∧ ((w8.alloc (.cells hd0.cs.toArray 26)).setCells w8.heap.size 0 z.cs).rangeAt w8.heap.size 0 z.cs ∧ z.ok ((w8.alloc (.cells hd0.cs.toArray 26)).setCells w8.heap.size 0 z.cs)) :=
      ⟨HB7.out.trans (hb9.mono HB7.out.size), HO7.out.below hb9, hp2, kz.below hp1⟩
    clear hw7 hcp7 hyl hyb hp hb8 kz hz hE2 hV2 hp1 hp2 hp3 hb9 d1 g1 HV HCP HOA HB5 HB7 HO7
    go_upto_region 16 with (refine stHN (fun w' => Hid (Below w0.heap.size w0 w' ∧ Own w' w0.heap.size a3 n3 c3 (hby h C ++ ys) ∧ w'.rangeAt w8.heap.size 0 z.cs ∧ z.ok w')) (.tmp 16) (.tmp 89) rfl rfl w8.heap.size z rfl rfl HLZ.out HP3.out HF0 ?_; intro wz HF)
    go_cut [110] from 92 to 110 (fun s wx => s = .bool false ∧ Hid (Below w0.heap.size w0 wx ∧ Own wx w0.heap.size a3 n3 c3 (hby h C ++ ys)))
    case first =>
      have HF1 : Hid (Below w0.heap.size w0 wz ∧ Own wz w0.heap.size a3 n3 c3 (hby h C ++ ys)) := ⟨HF.out.1, HF.out.2.1⟩
      by_cases hy0 : y = 0
      · subst hy0
        go_wp2_with fail
        go_meet
        exact ⟨rfl, HF1⟩
      have hyp : 0 < y := by omega
      by_cases hq10 : q = 10
      · subst hq10
        go_wp2_with fail
        go_meet
        exact ⟨rfl, HF1⟩
      have hq10b : ((q : Int) != 10) = true := by simp; omega
      by_cases hq11 : q = 11
      · subst hq11
        go_wp2_with fail
        go_meet
        exact ⟨rfl, HF1⟩
      have hq11b : ((q : Int) != 11) = true := by simp; omega
      by_cases hE0 : E2 = 0
      · have HS := Lib.hid (HCH.out hyp hq10 hq11 hE0)
        subst hE0
        go_wp2_with (first | (refine ldHg (.tmp 16) rfl (by rfl) w8.heap.size rfl z HLZ.out HF.out.2.2.1 ?_) | (refine ldHg (.tmp 4) rfl (by rfl) w.heap.size rfl h HLH.out (range_kept HF.out.1 HR.out) ?_))
        refine (HSAME z h _ HF.out.2.2.2 (HK.out.below HF.out.1)).mono ?_
        rintro e w10 ⟨rfl, hb10⟩
        rw [HS.out]
        have HF2 : Hid (Below w0.heap.size w0 w10 ∧ Own w10 w0.heap.size a3 n3 c3 (hby h C ++ ys)) := ⟨HF1.out.1.trans (hb10.mono HF1.out.1.size), HF1.out.2.below hb10⟩
        clear hb10
        go_wp2_with fail
        go_meet
        exact ⟨rfl, HF2⟩
      · have hE0b : (E2 == 0) = false := by simpa using hE0
        go_wp2_with fail
        go_meet
        exact ⟨rfl, HF1⟩
    case rest =>
      obtain ⟨rfl, HFR⟩ := hcut
      clear HF HF0 HCH HLZ HP3
      have hcell6 := range_cell (range_kept HFR.out.1 HR.out) (Hd.c6 h)
      rw [HT.out] at hcell6
      by_cases hT0 : T = 0
      · subst hT0
        have HHE : Hid (hopE (hby h C ++ ys) = 51) := by
          obtain ⟨z1, _⟩ := psE_hby HK.out HG.out HCR.out.1 HCR.out.2 HWL.out ys
          have g8 : (hby h C ++ ys).getD 8 0 = h.ttl := by rw [hby_cells HK.out HG.out HCR.out.1 HCR.out.2]; rfl
          show _ = _
          unfold hopE
          rw [if_neg (by rw [z1]; decide), if_pos (by rw [g8, HT.out])]
        go_wp2_with fail
        refine (iHop_any a3 n3 c3 (hby h C ++ ys) _ HAL.out HFR.out.2.rd HAB.out (by omega) HFR.out.2.le.1 HFR.out.2.le.2).mono ?_
        rintro e w9 ⟨hb9, ⟨h1, _⟩ | ⟨_, rfl⟩⟩
        · rw [HHE.out] at h1; cases h1
        rw [HHE.out]
        have hcell6 := range_cell (range_kept hb9 (range_kept HFR.out.1 HR.out)) (Hd.c6 h)
        rw [HT.out] at hcell6
        have HB9 : Hid (Below w0.heap.size w0 w9) := HFR.out.1.trans (hb9.mono HFR.out.1.size)
        clear hb9
        go_wp2_with fail
        refine (works5_any _).mono ?_
        rintro e w10 ⟨rfl, hb10⟩
        have HB10 : Hid (Below w.heap.size w w10) := HB.out.trans ((HB9.out.trans (hb10.mono HB9.out.size)).mono HB.out.size)
        clear hb10
        go_wp2_with fail
        go_ret
        exact ⟨rfl, HB10.out⟩
      · have hT0b : (T == 0) = false := by simpa using hT0
        have hT1 : 1 ≤ T := by omega
        have hT2 : T ≤ 255 := by omega
        have hl0 : h.ttl ≠ 0 := by rw [HT.out]; exact hT0
        obtain ⟨C2, x0, x1, hVV, hWW⟩ := hop_hby HK.out HG.out HCR.out.1 HCR.out.2 HWL.out hl0 ys
        have HHE : Hid (hopE (hby h C ++ ys) = 0) := by
          obtain ⟨z1, _⟩ := psE_hby HK.out HG.out HCR.out.1 HCR.out.2 HWL.out ys
          have g8 : (hby h C ++ ys).getD 8 0 = h.ttl := by rw [hby_cells HK.out HG.out HCR.out.1 HCR.out.2]; rfl
          show _ = _
          unfold hopE
          rw [if_neg (by rw [z1]; decide), if_neg (by rw [g8]; exact hl0)]
        have HKL : Hid (h.less.ok w0) := less_ok HK.out hl0
        have HVV : Hid (hopV (hby h C ++ ys) = hby h.less C2 ++ ys) := hVV
        have HWW : Hid (whl (ws 0 (hby h.less C2)) = true) := hWW
        have HX2 : Hid (0 ≤ C2 ∧ C2 ≤ 65535) := ⟨x0, x1⟩
        have HLL : Hid ((hby h.less C2 ++ ys).length = n3) := by show _ = _; rw [← HVV.out, hopV_len]; exact HAL.out
        have HLB : Hid (Byt (hby h.less C2 ++ ys)) := (hby_byt h.less C2 HKL.out.srcb HKL.out.dstb HKL.out.row.byt).append HB2.out
        have HDR : Hid ((hby h.less C2 ++ ys).drop m1 = ys) := by
          have hq := hby_len h.less C2 HKL.out.src HKL.out.dst HKL.out.row.len
          have hq2 : (hby h.less C2).length = m1 := hq.trans HMN.out
          show _ = _
          rw [← hq2]; exact List.drop_left
        clear hl0 hVV hWW x0 x1
        go_wp2_with fail
        refine (iHop_any a3 n3 c3 (hby h C ++ ys) _ HAL.out HFR.out.2.rd HAB.out (by omega) HFR.out.2.le.1 HFR.out.2.le.2).mono ?_
        rintro e w9 ⟨hb9, ⟨_, a5, n5, c5, rfl, ho5⟩ | ⟨h1, _⟩⟩
        rotate_left
        · exact absurd HHE.out h1
        rw [HVV.out] at ho5
        have hn5 : n3 = n5 := by rw [← ho5.len, HLL.out]
        subst hn5
        have hcell6 := range_cell (range_kept hb9 (range_kept HFR.out.1 HR.out)) (Hd.c6 h)
        rw [HT.out] at hcell6
        have HB9 : Hid (Below w0.heap.size w0 w9) := HFR.out.1.trans (hb9.mono HFR.out.1.size)
        have HO9 : Hid (Own w9 w0.heap.size a5 n3 c5 (hby h.less C2 ++ ys)) := ho5.mono HFR.out.1.size
        clear hb9 ho5 HFR
        go_wp2_with fail
        refine (iParse_any a5 n3 c5 (hby h.less C2 ++ ys) _ HLL.out HO9.out.rd HLB.out (by omega) HO9.out.le.1 HO9.out.le.2).mono ?_
        rintro e w10 hp
        obtain ⟨hb10, az, cz, rfl, hoz⟩ := parse_put HKL.out HG.out HX2.out.1 HX2.out.2 HWW.out hp
        rw [show 20 + h.less.n = m1 from HMN.out]
        have hkz : (h.less.at' az cz).ok w10 := at_ok HKL.out hoz
        have HLZ := Lib.hid (at_len HKL.out az cz)
        have HZT : Hid ((h.less.at' az cz).ttl = T - 1) := by show h.ttl - 1 = T - 1; rw [HT.out]
        have HZR : Hid (rgH (h.less.at' az cz).frag (h.less.at' az cz).tot (h.less.at' az cz).n = true) := HG.out
        have HZN : Hid ((h.less.at' az cz).n ≤ 9000000000000) := HM.out
        have HZS : Hid (smH { h.less.at' az cz with ttl := T } h = true) := by
          show smH _ _ = true
          simp [smH, Hd.at', Hd.less, HT.out]
        obtain ⟨hp1, hp2, hp3⟩ := put_new w10 (h.less.at' az cz).cs hd0.cs 26 (by rw [HLZ.out]; rfl)
        rw [HLZ.out] at hp3
        have HP3 := Lib.hid hp3
        obtain ⟨zz, hzz⟩ : ∃ x, h.less.at' az cz = x := ⟨_, rfl⟩
        rw [hzz] at hkz HLZ HZT HZR HZN HZS hp1 hp2
        rw [hzz]
        have hb11 : Below w9.heap.size w9 ((w10.alloc (.cells hd0.cs.toArray 26)).setCells w10.heap.size 0 zz.cs) := hb10.trans (hp1.mono hb10.size)
        have HF0 : Hid (Below w9.heap.size w9 ((w10.alloc (.cells hd0.cs.toArray 26)).setCells w10.heap.size 0 zz.cs) ∧ ((w10.alloc (.cells hd0.cs.toArray 26)).setCells w10.heap.size 0 zz.cs).rangeAt w10.heap.size 0 zz.cs ∧ zz.ok ((w10.alloc (.cells hd0.cs.toArray 26)).setCells w10.heap.size 0 zz.cs) ∧ ((w10.alloc (.cells hd0.cs.toArray 26)).setCells w10.heap.size 0 zz.cs).there w10.heap.size 0 17) :=
          ⟨hb11, hp2, hkz.below hp1, World.there_setCells hp3 _ _ _⟩
        have HZ10 : Hid (w9.heap.size ≤ w10.heap.size) := hb10.size
        have HAZ : Hid (∀ k, blk zz.a = some k → k < w10.heap.size) := by show ∀ k, _; rw [← hzz]; exact fun k e => (hoz.blk_ge k e).2
        clear hp hb10 hoz hkz hp1 hp2 hp3 hzz hb11 hcell6
        go_wp2_with (first
          | (refine stHN (fun w' => Hid (Below w9.heap.size w9 w' ∧ w'.rangeAt w10.heap.size 0 zz.cs ∧ zz.ok w' ∧ w'.there w10.heap.size 0 17)) (.tmp 21) (.tmp 127) rfl rfl w10.heap.size zz rfl rfl HLZ.out HP3.out HF0 ?_; intro wy HF; have hz6 := range_cell HF.out.2.1 (Hd.c6 zz); have hh6 := range_cell (range_kept (HB9.out.trans (HF.out.1.mono HB9.out.size)) HR.out) (Hd.c6 h); rw [HZT.out] at hz6; rw [HT.out] at hh6)
          | (refine ldHg (.tmp 21) rfl (by rfl) w10.heap.size rfl zz HLZ.out HF.out.2.1 ?_))
        refine (iRight_any zz _ _ HF.out.2.2.1 HZN.out).mono ?_
        rintro e w11 ⟨rfl, hb11⟩
        rw [HZR.out]
        have hb12 : Below w9.heap.size w9 w11 := HF.out.1.trans (hb11.mono HF.out.1.size)
        have HB11 : Hid (Below w0.heap.size w0 w11) := HB9.out.trans (hb12.mono HB9.out.size)
        have hrz : w11.rangeAt w10.heap.size 0 zz.cs := range_kept hb11 HF.out.2.1
        have hth := there_kept hb11 HF.out.2.2.2
        have hkz : zz.ok w11 := HF.out.2.2.1.below hb11
        clear hz6 hh6
        have hz6 := range_cell hrz (Hd.c6 zz)
        have hh6 := range_cell (range_kept HB11.out HR.out) (Hd.c6 h)
        rw [HZT.out] at hz6
        rw [HT.out] at hh6
        have hg6 := (hth 6 (by omega)).2
        rw [Nat.zero_add] at hg6
        have hrs := range_set hrz 6 (.int .u8 T)
        rw [set_ttl] at hrs
        have hbs : Below w9.heap.size w9 (w11.setCell ⟨w10.heap.size, 6, none⟩ (.int .u8 T)) := hb12.setCell (p := ⟨w10.heap.size, 6, none⟩) HZ10.out _
        have hbk : Below w11.heap.size w11 w11 := Below.refl _ _
        have hks : ({ zz with ttl := T } : Hd).ok (w11.setCell ⟨w10.heap.size, 6, none⟩ (.int .u8 T)) := by
          have hrd : Rd (w11.setCell ⟨w10.heap.size, 6, none⟩ (.int .u8 T)) zz.a zz.op :=
            hkz.row.rd.keep (S := fun k => k = w10.heap.size) (Kept.setCell w11 _ _ rfl) (fun b e2 k => by have := HAZ.out b e2; omega)
          exact ⟨hkz.tos, hkz.tot, hkz.id, hkz.frag, by show 0 ≤ T ∧ T < 256; omega, hkz.pro, hkz.src, hkz.dst, hkz.srcb, hkz.dstb, ⟨hkz.row.len, hkz.row.cap, hkz.row.max, hrd, hkz.row.byt⟩⟩
        have hrh : (w11.setCell ⟨w10.heap.size, 6, none⟩ (.int .u8 T)).rangeAt w.heap.size 0 h.cs := range_kept (HB9.out.trans (hbs.mono HB9.out.size)) HR.out
        have hls : ({ zz with ttl := T } : Hd).cs.length = 17 := by rw [← set_ttl, List.length_set]; exact HLZ.out
        obtain ⟨z2, hz2⟩ : ∃ x, ({ zz with ttl := T } : Hd) = x := ⟨_, rfl⟩
        rw [hz2] at hrs hks hls HZS
        have HRS := Lib.hid hrs
        have HKS := Lib.hid hks
        have HLS := Lib.hid hls
        have HRH := Lib.hid hrh
        have HBS : Hid (Below w0.heap.size w0 (w11.setCell ⟨w10.heap.size, 6, none⟩ (.int .u8 T))) := HB9.out.trans (hbs.mono HB9.out.size)
        have HR5 : Hid (Rd (w11.setCell ⟨w10.heap.size, 6, none⟩ (.int .u8 T)) a5 (hby h.less C2 ++ ys)) := HO9.out.rd.below hbs
        obtain ⟨g5, o5, rfl, _⟩ := HO9.out.rd (by intro e; have := HLL.out; rw [e] at this; simp at this; omega)
        have hnc : n3 ≤ c5 := HO9.out.le.1
        have hcm : c5 ≤ 9223372036854775807 := HO9.out.le.2
        have hm0 : (0 : Int) ≤ (m1 : Int) := by omega
        have hm1 : (m1 : Int) ≤ (n3 : Int) := by omega
        have hm2 : (n3 : Int) ≤ (c5 : Int) := by omega
        have HSUB : Hid (ys.length = n3 - m1) := by have h1 := HN2.out; have h2 := HN3.out; show _ = _; omega
        clear hrs hks hls hrh hz2 hbs hkz hrz hth hb12 hb11 hbk HF HF0 HP3 HLZ HZR HZN HZT HAZ
        by_cases hmc : c5 = m1
        · have hye : ys = [] := List.eq_nil_of_length_eq_zero (by have h1 := HSUB.out; omega)
          have HRX : Hid (∀ w ad, Rd w ad ys) := fun w ad => by rw [hye]; exact Rd.empty _ _
          clear hye
          subst hmc
          go_wp2_with (first | (refine ldH (.tmp 21) rfl rfl w10.heap.size rfl z2 HLS.out HRS.out ?_) | (refine ldH (.tmp 4) rfl rfl w.heap.size rfl h HLH.out HRH.out ?_))
          refine (HSAME z2 h _ HKS.out (HK.out.below HBS.out)).mono ?_
          rintro e w13 ⟨rfl, hb13⟩
          rw [HZS.out]
          have HB13 : Hid (Below w0.heap.size w0 w13) := HBS.out.trans (hb13.mono HBS.out.size)
          clear hb13
          go_wp2_with fail
          refine (same_any _ a2 0 _ n2 cap2 ys ys _ (by have hq := HSUB.out; omega) HN2.out (HRX.out _ _) (HR2.out.below HB13.out) HB2.out HB2.out).mono ?_
          rintro e w14 ⟨rfl, rfl⟩
          rw [decide_eq_true (rfl : ys = ys)]
          go_wp2_with fail
          refine (works5_any _).mono ?_
          rintro e w15 ⟨rfl, hb15⟩
          have HB15 : Hid (Below w.heap.size w w15) := HB.out.trans ((HB13.out.trans (hb15.mono HB13.out.size)).mono HB.out.size)
          clear hb15
          go_wp2_with fail
          go_ret
          exact ⟨rfl, HB15.out⟩
        · have hmc' : ¬ m1 = c5 := fun e => hmc e.symm
          have HRX : Hid (Rd (w11.setCell ⟨w10.heap.size, 6, none⟩ (.int .u8 T)) (some ⟨g5, o5 + m1, none⟩) ys) := by
            have hq := HR5.out.dropped (m := m1) (by rw [HLL.out]; omega)
            rw [HDR.out] at hq
            exact hq
          go_wp2_with (first | (refine ldH (.tmp 21) rfl rfl w10.heap.size rfl z2 HLS.out HRS.out ?_) | (refine ldH (.tmp 4) rfl rfl w.heap.size rfl h HLH.out HRH.out ?_))
          refine (HSAME z2 h _ HKS.out (HK.out.below HBS.out)).mono ?_
          rintro e w13 ⟨rfl, hb13⟩
          rw [HZS.out]
          have HB13 : Hid (Below w0.heap.size w0 w13) := HBS.out.trans (hb13.mono HBS.out.size)
          have HRY : Hid (Rd w13 (some ⟨g5, o5 + m1, none⟩) ys) := HRX.out.below hb13
          clear hb13
          go_wp2_with fail
          refine (same_any _ a2 _ _ n2 cap2 ys ys _ HSUB.out HN2.out HRY.out (HR2.out.below HB13.out) HB2.out HB2.out).mono ?_
          rintro e w14 ⟨rfl, rfl⟩
          rw [decide_eq_true (rfl : ys = ys)]
          go_wp2_with fail
          refine (works5_any _).mono ?_
          rintro e w15 ⟨rfl, hb15⟩
          have HB15 : Hid (Below w.heap.size w w15) := HB.out.trans ((HB13.out.trans (hb15.mono HB13.out.size)).mono HB.out.size)
          clear hb15
          go_wp2_with fail
          go_ret
          exact ⟨rfl, HB15.out⟩
end Go.Proofs.Ytjnbnjdajkhkpaa

/-
  IpsixBack, walked: for headers, chains and bytes that lie where the slices lead the call answers true.
-/
import Derived.Test.YthipnkaghddbhaaSxBackM
import Derived.Test.YthipnkaghddbhaaSxParses
namespace Go.Proofs.Ythipnkaghddbhaa
open Go.RowKit

theorem run_neq6 (w : World) (h : H6) (k : h.ok) : (binOp .neq 26 (.agg h.cs.toArray) (.agg h.cs.toArray)).run Try.prog w = .ok (.bool false) w := by
  rw [run_neq_struct, eq6 w 9997 h k]
  rfl
theorem exec_neq6 {ρ : Operand → Value} {o : Oper} {x y : Operand} {r : TypeId} {h : H6} {w : World} (k : h.ok) (ho : o.op = .binOp .neq 26 x y r) (hx : ρ x = .agg h.cs.toArray) (hy : ρ y = .agg h.cs.toArray) : (execOp ρ o).run Try.prog w = .ok (.value (.bool false)) w := by
  unfold execOp
  simp only [ho, hx, hy, Sem.run_bind, run_eqGuard_agg (hm := Try.eqGuardType26), Result.andThen_ok, run_neq6 w h k, Sem.run_pure]
theorem neqCg {ops : Array Oper} {rest : List Oper} {o : Oper} {a : Act} {w : World} {Q : Exit → Act → World → Prop} (x y : Operand) (r : TypeId) (ho : o.op = .binOp .neq 26 x y r) (hw : Region.wanted o (yielded ops a.tmps) = true) (h : H6) (hk : h.ok) (hx : a.eval x = .agg h.cs.toArray) (hy : a.eval y = .agg h.cs.toArray)
    (k : wpList Try.prog ops Q rest (a.put o.dst (.bool false)) w) : wpList Try.prog ops Q (o :: rest) a w :=
  wpList_step fun K hK => by
    rw [if_pos hw]
    unfold Oper.wp
    have he : (execOp a.eval o).run Try.prog w = .ok (.value (.bool false)) w := exec_neq6 hk ho hx hy
    rw [he]
    exact hK _ _ k
theorem range_one {w : World} {b j : Nat} {cs : List Value} (h : w.rangeAt b 0 cs) (ht : w.there b 0 cs.length) (hj : j < cs.length) (v : Value) : (w.setCell ⟨b, j, none⟩ v).rangeAt b 0 (cs.set j v) := fun i u hu => by
  have hi : i < cs.length := by have := (List.getElem?_eq_some_iff.1 hu).1; simpa using this
  by_cases e : j = i
  · subst e
    rw [List.getElem?_set_self hj] at hu
    obtain ⟨t1, _⟩ := ht j hj
    have h1 := World.cell?_setCell_same' w ⟨b, 0 + j, none⟩ v t1
    rw [← Option.some.inj hu, Nat.zero_add] at *
    exact h1
  · rw [List.getElem?_set_ne e] at hu
    exact (World.cell?_setCell_other w ⟨b, j, none⟩ ⟨b, 0 + i, none⟩ v (by intro h2; simp at h2)).trans (h i u hu)
theorem there_one {w : World} {b n : Nat} (h : w.there b 0 n) (j : Nat) (v : Value) : (w.setCell ⟨b, j, none⟩ v).there b 0 n := World.there_setCells h b j [v]
theorem smC_of {es fs : List Ex} {p : Int} (h : es.map Ex.two = fs.map Ex.two) : smC es fs p p = true := by unfold smC; rw [h]; simp

set_option maxRecDepth 100000 in
set_option maxHeartbeats 8000000 in
theorem back_any (h : H6) (a : Option Addr) (n c : Nat) (es : List Ex) (p : Int) (ba : Option Addr) (bn bc : Nat) (ys : List Int) (F : Int) (xa : Option Addr) (xn xc : Nat) (xs : List Int) (w : World) (k : h.ok) (hx : Ch0 w a n c es) (p0 : 0 ≤ p) (p1 : p < 256)
    (hyn : ys.length = bn) (hyr : Rd w ba ys) (hyb : Byt ys) (F0 : 0 ≤ F) (F1 : F < 256) (hxn : xs.length = xn) (hxc0 : xn ≤ xc) (hxr : Rd w xa xs) (hxb : Byt xs) :
    Calls Try.prog 6 #[.agg h.cs.toArray, .agg #[.slice a n c, .int .u8 p], .slice ba bn bc, .int .u8 F, .slice xa xn xc] w (Gives w (.bool true)) := by
  have HK := Lib.hid k
  have HX0 := Lib.hid hx
  have HYN := Lib.hid hyn
  have HYR := Lib.hid hyr
  have HYB := Lib.hid hyb
  have HXN := Lib.hid hxn
  have HXR := Lib.hid hxr
  have HXB := Lib.hid hxb
  obtain ⟨V, hV⟩ : ∃ v, pcV F xs = v := ⟨_, rfl⟩
  have HVV := Lib.hid hV
  obtain ⟨wA, hwA⟩ : ∃ x, w.alloc (.cells h.cs.toArray 26) = x := ⟨_, rfl⟩
  have hbA : Below w.heap.size w wA := by rw [← hwA]; exact (Below.refl _ _).alloc (Nat.le_refl _) _
  have hsA : wA.heap.size = w.heap.size + 1 := by rw [← hwA]; simp
  have hrA : wA.rangeAt w.heap.size 0 h.cs := by rw [← hwA]; exact H6.range w h _
  have htA : wA.there w.heap.size 0 37 := by rw [← hwA]; exact there_new _ _ _ _ (by rw [List.size_toArray]; exact k.len) _ rfl
  obtain ⟨wB, hwB⟩ : ∃ x, wA.alloc (.cells #[.slice a n c, .int .u8 p] 46) = x := ⟨_, rfl⟩
  have hbB : Below wA.heap.size wA wB := by rw [← hwB]; exact (Below.refl _ _).alloc (Nat.le_refl _) _
  have hrB : wB.rangeAt (w.heap.size + 1) 0 [.slice a n c, .int .u8 p] := by rw [← hwB, ← hsA]; exact range_row2 (Blk_new wA _ _)
  have hBB : Below w.heap.size w wB := hbA.trans (hbB.mono hbA.size)
  have HFB := Lib.hid ((Fw.blw hBB hBB.size).and (((Fw.range (range_kept hbB hrA)).and (fun z hz => there_kept hz (there_kept hbB htA) : Fw wB (fun z => z.there w.heap.size 0 37))).and (Fw.range hrB)))
  have HSB : Hid (w.heap.size + 2 = wB.heap.size) := by show _ = _; rw [← hwB]; simp [hsA]
  have HXBc := Lib.hid (hx.below hBB)
  have HW := Lib.hid hwA
  have HWB := Lib.hid hwB
  obtain ⟨cs, hcs⟩ : ∃ x, h.cs.toArray = x := ⟨_, rfl⟩
  have HCS := Lib.hid hcs
  have HTXT : Hid ((w.alloc (.cells cs 26)).alloc (.cells #[.slice a n c, .int .u8 p] 46) = wB) := by show _ = _; rw [← hcs, hwA, hwB]
  rw [hcs]
  clear k hx hyn hyr hyb hxn hxr hxb hV hwA hbA hsA hrA htA hwB hbB hrB hBB HW HWB hcs
  cases hf1 : fewC es with
  | false =>
    have HF1 := Lib.hid hf1
    clear hf1
    go_enter Try.func6, Try.ntmps6
    go_upto_region 1 with fail
    rw [HTXT.out]
    go_wp2_with (refine ldC 46 (.tmp 6) rfl rfl (w.heap.size + 1) rfl [.slice a n c, .int .u8 p] HFB.out.here.2.2 _ Try.underlying46 rfl infC2 ?_)
    refine (few6_any a n c es p _ HXBc.out).mono ?_
    rintro e w1 ⟨rfl, hb1⟩
    have HB1 := Lib.hid (HFB.out.next hb1).here.1
    clear hb1
    rw [HF1.out]
    go_wp2_with fail
    refine (works6_any _).mono ?_
    rintro e wk ⟨rfl, hbk⟩
    have HBK := Lib.hid (HB1.out.trans (hbk.mono HB1.out.size))
    clear hbk
    go_wp2_with fail
    go_ret
    exact ⟨rfl, HBK.out⟩
  | true =>
  have HF1 := Lib.hid hf1
  clear hf1
  by_cases hbn : 200 < bn
  · go_enter Try.func6, Try.ntmps6
    go_upto_region 1 with fail
    rw [HTXT.out]
    go_wp2_with (refine ldC 46 (.tmp 6) rfl rfl (w.heap.size + 1) rfl [.slice a n c, .int .u8 p] HFB.out.here.2.2 _ Try.underlying46 rfl infC2 ?_)
    refine (few6_any a n c es p _ HXBc.out).mono ?_
    rintro e w1 ⟨rfl, hb1⟩
    have HB1 := Lib.hid (HFB.out.next hb1).here.1
    clear hb1
    rw [HF1.out]
    go_wp2_with fail
    refine (works6_any _).mono ?_
    rintro e wk ⟨rfl, hbk⟩
    have HBK := Lib.hid (HB1.out.trans (hbk.mono HB1.out.size))
    clear hbk
    go_wp2_with fail
    go_ret
    exact ⟨rfl, HBK.out⟩
  by_cases hxl : 3000 < xn
  · go_enter Try.func6, Try.ntmps6
    go_upto_region 1 with fail
    rw [HTXT.out]
    go_wp2_with (refine ldC 46 (.tmp 6) rfl rfl (w.heap.size + 1) rfl [.slice a n c, .int .u8 p] HFB.out.here.2.2 _ Try.underlying46 rfl infC2 ?_)
    refine (few6_any a n c es p _ HXBc.out).mono ?_
    rintro e w1 ⟨rfl, hb1⟩
    have HB1 := Lib.hid (HFB.out.next hb1).here.1
    clear hb1
    rw [HF1.out]
    go_wp2_with fail
    refine (works6_any _).mono ?_
    rintro e wk ⟨rfl, hbk⟩
    have HBK := Lib.hid (HB1.out.trans (hbk.mono HB1.out.size))
    clear hbk
    go_wp2_with fail
    go_ret
    exact ⟨rfl, HBK.out⟩
  have HX := Lib.hid (HX0.out.ch (fun x hx => by have := (fewC_iff.1 HF1.out).2 x hx; omega))
  have HXC : Hid (Ch wB a n c es) := HXBc.out.ch (fun x hx => by have := (fewC_iff.1 HF1.out).2 x hx; omega)
  go_enter Try.func6, Try.ntmps6
  go_upto_region 1 with fail
  rw [HTXT.out]
  clear HTXT
  go_wp2_with (refine ldC 46 (.tmp 6) rfl rfl (w.heap.size + 1) rfl [.slice a n c, .int .u8 p] HFB.out.here.2.2 _ Try.underlying46 rfl infC2 ?_)
  refine (few6_any a n c es p _ HXBc.out).mono ?_
  rintro e w1 ⟨rfl, hb1⟩
  have HF1W := Lib.hid ((HFB.out.next hb1).and (fun z hz => HXC.out.below (hb1.trans (hz.mono hb1.size)) : Fw w1 (fun z => Ch z a n c es)))
  have HS1 : Hid (w.heap.size + 2 ≤ w1.heap.size) := by have h1 := hb1.size; have h2 := HSB.out; show _ ≤ _; omega
  clear hb1 HFB
  rw [HF1.out]
  go_wp2_with (refine ldC 46 (.tmp 6) rfl rfl (w.heap.size + 1) rfl [.slice a n c, .int .u8 p] HF1W.out.here.1.2.2 _ Try.underlying46 rfl infC2 ?_)
  refine (sxPutChain_any a n c es p _ HF1W.out.here.2 p0 p1).mono ?_
  intro e w2 hp
  cases hrt : rtC es p with
  | false =>
    obtain ⟨hb2, ra, rn, rc, he, hro⟩ := hp.one
    have e1 : pe6 es p = 60 := by unfold pe6; rw [hrt]; rfl
    rw [e1] at he
    subst he
    obtain ⟨wv, hwv⟩ : ∃ z, z = w2 := ⟨_, rfl⟩
    subst hwv
    have HV0 : Hid (Below w.heap.size w wv) := (HF1W.out.next hb2).here.1.1
    clear hp hb2 hro hrt e1 HF1W
    go_upto_region 15 with fail
    go_wp2_with fail
    refine (sxParseChain_any F xa xn xc xs _ V F0 F1 HXN.out (HXR.out.below HV0.out) HXB.out (by omega) HVV.out.symm).mono ?_
    intro e wp hp
    by_cases hv0 : V.1 = 0
    · obtain ⟨hb1, fs, fa, fn, fc, rfl, hfs, hfc, hk0, hk1⟩ := hp.some_ hv0
      obtain ⟨hrt2, hcm2, mm, hmm, hml, hch2⟩ := parsed_right HXB.out (by rw [HVV.out]; exact hv0) (by rw [HVV.out]; exact hfs)
      rw [HVV.out] at hrt2 hcm2 hmm hch2
      obtain ⟨P2, hP2⟩ : ∃ q, V.2.2.1 = q := ⟨_, rfl⟩
      rw [hP2] at hrt2 hcm2 hch2 hk0 hk1
      rw [hP2, hmm]
      have HK2 := Lib.hid (And.intro hk0 hk1)
      have HR2 := Lib.hid hrt2
      have HM2 := Lib.hid hcm2
      have HC2 := Lib.hid hch2
      rw [HXN.out] at hml
      obtain ⟨wq, hwq⟩ : ∃ y, wp.alloc (.cells #[.slice fa fn fc, .int .u8 P2] 46) = y := ⟨_, rfl⟩
      have hal : Below wp.heap.size wp wq := by rw [← hwq]; exact (Below.refl _ _).alloc (Nat.le_refl _) _
      have hr23 : wq.rangeAt wp.heap.size 0 [.slice fa fn fc, .int .u8 P2] := by rw [← hwq]; exact range_row2 (Blk_new wp _ _)
      have hbq : Below wv.heap.size wv wq := hb1.trans (hal.mono hb1.size)
      have HFQ := Lib.hid ((Fw.blw (HV0.out.trans (hbq.mono HV0.out.size)) (Nat.le_trans HV0.out.size hbq.size)).and ((Fw.range hr23).and (Fw.ownC (hfc.keep hal))))
      have HWQ := Lib.hid hwq
      have hvz : ((V.1 : Int) != 0) = false := by simp; exact hv0
      clear hp hb1 hfs hfc hk0 hk1 hrt2 hcm2 hch2 hmm hwq hal hr23 hbq hP2
      go_upto_region 16 with fail
      rw [HWQ.out]
      clear HWQ
      go_wp2_with (first
        | (refine ldC 46 (.tmp 23) rfl rfl wp.heap.size rfl [.slice fa fn fc, .int .u8 P2] HFQ.out.here.2.1 _ Try.underlying46 rfl infC2 ?_))
      refine (sxPutChain_any fa fn fc fs P2 _ HFQ.out.here.2.2.ch HK2.out.1 HK2.out.2).mono ?_
      intro e wr hp
      obtain ⟨hb2, ta, tn, tc, rfl, hto⟩ := hp.some_ HR2.out
      rw [HM2.out]
      rw [HC2.out] at hto
      have HFR := Lib.hid ((HFQ.out.next hb2).and (Fw.rd hto.rd))
      have HTL := Lib.hid hto.len
      clear hp hb2 hto HFQ
      go_wp2_with (first
        | (refine ldC 46 (.tmp 23) rfl rfl wp.heap.size rfl [.slice fa fn fc, .int .u8 P2] HFR.out.here.1.2.1 _ Try.underlying46 rfl infC2 ?_))
      refine (sxRight_any fa fn fc fs P2 _ HFR.out.here.1.2.2.ch HK2.out.1 HK2.out.2).mono ?_
      rintro e ws ⟨rfl, hb3⟩
      rw [HR2.out]
      have HFS := Lib.hid (HFR.out.next hb3)
      have hmi : (mm : Int) ≤ (xn : Int) := by omega
      have hxc : (xn : Int) ≤ (xc : Int) := by omega
      clear hb3 HFR
      go_wp2_with fail
      refine (kSame_any ta xa tn tc mm xc (xs.take mm) (xs.take mm) _ HTL.out (by rw [List.length_take, HXN.out]; omega) HFS.out.here.2 ((HXR.out.below HFS.out.here.1.1).taken mm) (by have h1 := HTL.out; rw [List.length_take] at h1; omega) (by omega)).mono ?_
      rintro e wt ⟨rfl, mq, hwt⟩
      rw [decide_eq_true rfl]
      have HBT : Hid (Below w.heap.size w wt) := by show Below _ _ _; rw [hwt]; exact below_drewN HFS.out.here.1.1 mq
      clear hwt
      go_wp2_with fail
      refine (works6_any _).mono ?_
      rintro e wk ⟨rfl, hbk⟩
      have HBK := Lib.hid (HBT.out.trans (hbk.mono HBT.out.size))
      clear hbk
      go_wp2_with fail
      go_ret
      exact ⟨rfl, HBK.out⟩

    · obtain ⟨hb1, rfl⟩ := hp.none_ hv0
      obtain ⟨wq, hwq⟩ : ∃ y, wp.alloc (.cells #[.slice none 0 0, .int .u8 0] 46) = y := ⟨_, rfl⟩
      have hal : Below wp.heap.size wp wq := by rw [← hwq]; exact (Below.refl _ _).alloc (Nat.le_refl _) _
      have hc0 : wq.cell? ⟨wp.heap.size, 0, none⟩ = some (.slice none 0 0) := by rw [← hwq]; exact World.cell?_alloc_new _ _ _ _
      have HBQ : Hid (Below w.heap.size w wq) := HV0.out.trans ((hb1.trans (hal.mono hb1.size)).mono HV0.out.size)
      have HWQ := Lib.hid hwq
      have hvz : ((V.1 : Int) != 0) = true := by simp; exact hv0
      clear hp hb1 hwq hal
      go_upto_region 16 with fail
      rw [HWQ.out]
      clear HWQ
      go_wp2_with fail
      refine (works6_any _).mono ?_
      rintro e wk ⟨rfl, hbk⟩
      have HBK := Lib.hid (HBQ.out.trans (hbk.mono HBQ.out.size))
      clear hbk
      go_wp2_with fail
      go_ret
      exact ⟨rfl, HBK.out⟩
  | true =>
    obtain ⟨hb2, ra, rn, rc, rfl, hro⟩ := hp.some_ hrt
    have hln := hro.len
    obtain ⟨KD, hKD⟩ : ∃ q, cmE es p 0 = q := ⟨_, rfl⟩
    have hkd := cmE_range HX.out p0 p1 0
    rw [hKD] at hkd ⊢
    have HKD := Lib.hid hKD
    have hrn : rn ≤ 33000 := by
      have h1 := chB_few hrt es.length
      have h2 : es.length ≤ 16 := by have h3 := hrt; unfold rtC at h3; rw [Bool.and_eq_true, decide_eq_true_eq] at h3; exact h3.1
      omega
    have HRT := Lib.hid hrt
    obtain ⟨S, hS⟩ : ∃ q, chB es p es.length = q := ⟨_, rfl⟩
    rw [hS] at hro hln
    have HSS := Lib.hid hS
    have HSB : Hid (Byt S) := by show Byt _; rw [← hS]; exact chB_byt HX.out p0 p1 _
    have HSL := Lib.hid hln
    have hs1 : w1.heap.size ≤ w2.heap.size := hb2.size
    have HF2 := Lib.hid ((HF1W.out.next hb2).and (Fw.own hro))
    clear hp hb2 hro hrt hS hKD HF1W hln
    go_wp2_with fail
    refine (kOwn_any ra rn rc S _ HSL.out HF2.out.here.2.rd (by omega)).mono ?_
    rintro e w3 ⟨a4, n4, c4, rfl, ho4, hb3⟩
    have hn4 : n4 = rn := by have h1 := ho4.len; have h2 := HSL.out; omega
    subst hn4
    have hr4 : RS w2 a4 n4 c4 S w3 := ⟨ho4, hb3⟩
    obtain ⟨a5, n5, c5, w4, hrun5, hr5⟩ := hr4.app bc HYN.out (HYR.out.below ((HF2.out.next hb3).here.1.1.1)) (by omega)
    have hn5 : n5 = n4 + bn := by have h1 := hr5.own.len; rw [List.length_append, HSL.out, HYN.out] at h1; exact h1.symm
    subst hn5
    have HRUN5 := Lib.hid hrun5
    have HR5 := Lib.hid hr5
    have HF4 := Lib.hid (HF2.out.next hr5.below)
    have HPV : Hid ((0, es.map Ex.two, p, (n4 : Int)) = pcV KD (S ++ ys)) := by
      have h1 := back_chain HRT.out ys
      rw [HKD.out, HSS.out, HSL.out] at h1
      exact h1.symm
    clear ho4 hb3 hr4 hrun5 hr5 HF2
    go_wp2_with (at_builtin; refine Lib.wpList_append_run _ rfl _ _ _ _ rfl _ _ rfl rfl _ _ HRUN5.out ?_)
    refine (sxParseChain_any KD a5 (n4 + bn) c5 (S ++ ys) _ (0, es.map Ex.two, p, (n4 : Int)) hkd.1 hkd.2 HR5.out.own.len HR5.out.own.rd (HSB.out.append HYB.out) (by omega) HPV.out).mono ?_
    intro e w5 hp
    obtain ⟨hb5, fs, fa, fn, fc, rfl, hfs, hfc, _⟩ := hp.some_ rfl
    obtain ⟨w6, hw6⟩ : ∃ y, w5.alloc (.cells #[.slice fa fn fc, .int .u8 p] 46) = y := ⟨_, rfl⟩
    have hal : Below w5.heap.size w5 w6 := by rw [← hw6]; exact (Below.refl _ _).alloc (Nat.le_refl _) _
    have hr14 : w6.rangeAt w5.heap.size 0 [.slice fa fn fc, .int .u8 p] := by rw [← hw6]; exact range_row2 (Blk_new w5 _ _)
    have HF6 := Lib.hid ((HF4.out.next (hb5.trans (hal.mono hb5.size))).and ((Fw.range hr14).and (Fw.ownC (hfc.keep hal))))
    have HFS := Lib.hid hfs
    have HW6 := Lib.hid hw6
    have HS6 : Hid (w1.heap.size ≤ w6.heap.size) := by have h1 := hb5.size; have h2 := hal.size; have h3 := HR5.out.below.size; show _ ≤ _; omega
    clear hp hb5 hfs hfc hw6 hal hr14 HF4 HRUN5 HR5
    go_upto_region 6 with fail
    rw [HW6.out]
    clear HW6
    go_wp2_with (first
      | (refine ldCg 46 (.tmp 14) rfl (by rfl) w5.heap.size rfl [.slice fa fn fc, .int .u8 p] HF6.out.here.2.1 _ Try.underlying46 rfl infC2 ?_)
      | (refine ldCg 46 (.tmp 6) rfl (by rfl) (w.heap.size + 1) rfl [.slice a n c, .int .u8 p] HF6.out.here.1.1.1.2.2 _ Try.underlying46 rfl infC2 ?_))
    refine (sxSame_any fa a fn fc n c fs es p p _ HF6.out.here.2.2.ch HF6.out.here.1.1.2).mono ?_
    rintro e w7 ⟨rfl, hb7⟩
    rw [smC_of HFS.out]
    have HF7 := Lib.hid (HF6.out.next hb7)
    have HS7 : Hid (w1.heap.size ≤ w7.heap.size) := by have h1 := HS6.out; have h2 := hb7.size; show _ ≤ _; omega
    clear hb7 HF6
    have hbox := HF7.out.here.1.1.1.2.1.1
    have hth := HF7.out.here.1.1.1.2.1.2
    have q1 := range_cell hbox (H6.c1 h)
    have q2 := range_cell hbox (H6.c2 h)
    have q3 := range_cell hbox (H6.c3 h)
    have f1 := (hth 1 (by omega)).2
    have f2 := (hth 2 (by omega)).2
    have f3 := (hth 3 (by omega)).2
    rw [Nat.zero_add] at f1 f2 f3
    obtain ⟨FL, hFL⟩ : ∃ q, h.fl = q := ⟨_, rfl⟩
    obtain ⟨LN, hLN⟩ : ∃ q, h.ln = q := ⟨_, rfl⟩
    obtain ⟨NX, hNX⟩ : ∃ q, h.nx = q := ⟨_, rfl⟩
    have hfl := HK.out.fl
    rw [hFL] at q1 hfl
    rw [hLN] at q2
    rw [hNX] at q3
    have HFL := Lib.hid hFL
    have HBOX := Lib.hid (And.intro hbox hth)
    clear hbox hth hFL hLN hNX
    have hbx := HBOX.out.1
    have hbt := HBOX.out.2
    have hcl := HK.out.len
    clear HBOX
    go_upto_region 11 with fail
    obtain ⟨wZ, hwZ⟩ : ∃ z, ((w7.setCell ⟨w.heap.size, 1, none⟩ (.int .u32 (FL % 1048576))).setCell ⟨w.heap.size, 3, none⟩ (.int .u8 KD)).setCell ⟨w.heap.size, 2, none⟩ (.int .u16 ((n4 : Int) + (bn : Int))) = z := ⟨_, rfl⟩
    rw [hwZ]
    have hkz : Kept (fun k => k = w.heap.size) w7 wZ := by
      rw [← hwZ]
      exact ((Kept.setCell (S := fun k => k = w.heap.size) w7 _ _ rfl).trans (Kept.setCell (S := fun k => k = w.heap.size) _ _ _ rfl) (fun _ _ e => e)).trans (Kept.setCell (S := fun k => k = w.heap.size) _ _ _ rfl) (fun _ _ e => e)
    obtain ⟨g, hg⟩ : ∃ q : H6, q = { h with fl := FL % 1048576, nx := KD, ln := (n4 : Int) + (bn : Int) } := ⟨_, rfl⟩
    have hgk : g.ok := by
      subst hg
      exact ⟨HK.out.cl, ⟨by show 0 ≤ FL % 1048576; omega, by show FL % 1048576 < _; omega⟩, ⟨by show 0 ≤ (n4 : Int) + bn; omega, by show (n4 : Int) + bn < _; omega⟩, hkd, HK.out.hp, HK.out.src, HK.out.dst, HK.out.srcb, HK.out.dstb⟩
    have hgf : g.fl < 1048576 := by subst hg; show FL % 1048576 < _; omega
    have hgn : g.nx = KD := by subst hg; rfl
    have hgl : g.ln = (n4 : Int) + (bn : Int) := by subst hg; rfl
    have hzb : wZ.rangeAt w.heap.size 0 g.cs ∧ wZ.there w.heap.size 0 37 := by
      have e1 : g.cs = ((h.cs.set 1 (.int .u32 (FL % 1048576))).set 3 (.int .u8 KD)).set 2 (.int .u16 ((n4 : Int) + (bn : Int))) := by subst hg; rfl
      have l1 : (h.cs.set 1 (.int .u32 (FL % 1048576))).length = 37 := by rw [List.length_set]; exact hcl
      have l2 : ((h.cs.set 1 (.int .u32 (FL % 1048576))).set 3 (.int .u8 KD)).length = 37 := by rw [List.length_set]; exact l1
      rw [e1, ← hwZ]
      have t1 := there_one hbt 1 (.int .u32 (FL % 1048576))
      have t2 := there_one t1 3 (.int .u8 KD)
      have t3 := there_one t2 2 (.int .u16 ((n4 : Int) + (bn : Int)))
      exact ⟨range_one (range_one (range_one hbx (by rw [hcl]; exact hbt) (by omega) _) (by rw [l1]; exact t1) (by omega) _) (by rw [l2]; exact t2) (by omega) _, t3⟩
    have hzc : wZ.rangeAt (w.heap.size + 1) 0 [.slice a n c, .int .u8 p] := fun j v hv => by
      have h1 := HF7.out.here.1.1.1.2.2 j v hv
      rw [← h1]
      exact World.cell?_of_block (hkz.block _ (World.block_lt_of_cell? w7 ⟨w.heap.size + 1, 0 + j, none⟩ h1) (fun e => by have e2 : w.heap.size + 1 = w.heap.size := e; omega))
    have hzw : Below w.heap.size w wZ := HF7.out.here.1.1.1.1.trans (hkz.below HF7.out.here.1.1.1.1.size (fun k e => Nat.le_of_eq (Eq.symm e)))
    have hzo : Own wZ w1.heap.size ra n4 rc S := HF7.out.here.1.2.keep hkz (fun b e k => by have h1 := (HF7.out.here.1.2.blk_ge b e).1; have h2 := HS1.out; have h3 : b = w.heap.size := k; omega)
    have HSZ : Hid (w1.heap.size ≤ wZ.heap.size) := by have h1 := hkz.size; have h2 := HS7.out; show _ ≤ _; omega
    have HF8 := Lib.hid ((Fw.blw hzw hzw.size).and (((Fw.range hzb.1).and (fun z hz => there_kept hz hzb.2 : Fw wZ (fun z => z.there w.heap.size 0 37))).and ((Fw.range hzc).and (Fw.own hzo))))
    have HGK := Lib.hid hgk
    have HIG : Hid ((Try.prog.info? 26).map (·.size) = some g.cs.length) := by show _ = _; rw [hgk.len]; exact inf6
    have HGF := Lib.hid hgf
    have HGN := Lib.hid hgn
    have HGL := Lib.hid hgl
    clear hwZ hkz hg hgk hgf hgn hgl hzb hzc hzw hzo hbx hbt q1 q2 q3 f1 f2 f3 HF7 hfl HFL hcl
    go_wp2_with (refine ldC 26 (.tmp 5) rfl rfl w.heap.size rfl g.cs HF8.out.here.2.1.1 _ Try.underlying26 rfl HIG.out ?_)
    refine (sxPut_any g _ HGK.out).mono ?_
    intro e w8 hp
    obtain ⟨hb8, a8, n8, c8, he8, ho8⟩ := hp.one
    have e6 : pz6 g = 0 := by unfold pz6; rw [if_pos HGF.out]
    have e7 : pb6 g = h6b g := by unfold pb6; rw [if_pos HGF.out]
    rw [e6] at he8
    rw [e7] at ho8
    subst he8
    have hn8 : n8 = 40 := by have h1 := ho8.len; have h2 := h6b_len HGK.out; omega
    subst hn8
    have hr8 : RS wZ a8 40 c8 (h6b g) w8 := ⟨ho8, hb8⟩
    have HF9 := Lib.hid (HF8.out.next hb8)
    obtain ⟨a9, n9, c9, w9, hrun9, hr9⟩ := hr8.app rc HSL.out HF9.out.here.2.2.2.rd (by omega)
    have hn9 : n9 = 40 + n4 := by have h1 := hr9.own.len; rw [List.length_append, HSL.out, h6b_len HGK.out] at h1; exact h1.symm
    subst hn9
    obtain ⟨aA, nA, cA, wX, hrunA, hrA⟩ := hr9.app bc HYN.out (HYR.out.below (HF8.out w9 hr9.below).1) (by omega)
    have hnA : nA = 40 + n4 + bn := by have h1 := hrA.own.len; rw [List.length_append, List.length_append, HSL.out, HYN.out, h6b_len HGK.out] at h1; exact h1.symm
    subst hnA
    have hrl : Rd (wX.alloc (.cells (bv [1, 2, 3]).toArray 5)) (some ⟨wX.heap.size, 0, none⟩) [1, 2, 3] := (Own.lit wX wX.heap.size [1, 2, 3] 3 rfl (by simp only [maxLen]; omega) (Nat.le_refl _)).rd
    obtain ⟨aB, nB, cB, wY, hrunB, hrB⟩ := (hrA.step ((Below.refl _ _).alloc (Nat.le_refl _) (.cells (bv [1, 2, 3]).toArray 5))).app 3 (m := 3) rfl hrl (by omega)
    have hnB : nB = 40 + n4 + bn + 3 := by have h1 := hrB.own.len; rw [List.length_append, List.length_append, List.length_append, HSL.out, HYN.out, h6b_len HGK.out] at h1; exact h1.symm
    subst hnB
    have hrunB' : (Builtin.append_ #[27, 27] 27 #[.slice aA (40 + n4 + bn) cA, .slice (some ⟨wX.heap.size, 0, none⟩) 3 3]).run Try.prog (wX.alloc (.cells #[.int .u8 1, .int .u8 2, .int .u8 3] 5)) = .ok (.slice aB (40 + n4 + bn + 3) cB) wY := hrunB
    have HRUNB := Lib.hid hrunB'
    have HRB := Lib.hid hrB
    have HRUN9 := Lib.hid hrun9
    have HRUNA := Lib.hid hrunA
    have HRA := Lib.hid hrA
    clear hp hb8 ho8 e6 e7 hr8 hrun9 hr9 hrunA hrA HF9 hrl hrunB hrunB' hrB HRA
    go_upto_region 12 with fail
    go_wp2_with (first
      | (at_builtin; refine Lib.wpList_append_run _ rfl (.tmp 95) (.tmp 96) _ _ rfl _ _ rfl rfl _ _ HRUN9.out ?_)
      | (at_builtin; refine Lib.wpList_append_run _ rfl (.tmp 97) (.tmp 98) _ _ rfl _ _ rfl rfl _ _ HRUNA.out ?_)
      | (at_builtin; refine Lib.wpList_append_run _ rfl (.tmp 99) (.tmp 100) _ _ rfl _ _ rfl rfl _ _ HRUNB.out ?_))
    have hbk := body_back g HGK.out HGF.out HRT.out ys [1, 2, 3] (by rw [HGN.out, HKD.out]) (by rw [HGL.out, HSS.out, HSL.out, HYN.out]; simp) (h6b g ++ S ++ ys ++ [1, 2, 3]) (by rw [HSS.out]; simp)
    obtain ⟨X, hX⟩ : ∃ q, h6b g ++ S ++ ys ++ [1, 2, 3] = q := ⟨_, rfl⟩
    have hXb : Byt X := by rw [← hX]; exact (((h6b_byt HGK.out).append HSB.out).append HYB.out).append (by intro v hv; simp at hv; omega)
    have hXr := HRB.out
    rw [hX] at hbk hXr
    refine (sxBody_any aB (40 + n4 + bn + 3) cB X _ hXr.own.len hXr.own.rd hXb (by omega) hXr.own.le.1).mono ?_
    intro e wC hp
    obtain ⟨hbC, gs, ga, gn, gc, ma, mn, mc, he, hgs, hgc, hq, hob⟩ := hp.one
    obtain ⟨k1, k2, k3, k4, k5⟩ := hbk
    rw [k1, k2, k4] at he
    rw [k3] at hgs
    rw [k5] at hob
    subst he
    have HFC := Lib.hid ((HF8.out.next (hXr.below)).next hbC)
    have HGS := Lib.hid hgs
    have HGC := Lib.hid hgc
    have HOB := Lib.hid hob
    clear hp hbC k1 k2 k3 k4 k5 hgs hgc hq hob hX hXb hXr HF8 HRB HRUN9 HRUNA HRUNB
    have HNEA : Hid (wC.heap.size ≠ wC.heap.size + 1) := by show _ ≠ _; omega
    have HPA : Hid (Below wC.heap.size wC (((wC.alloc (.cells h60.cs.toArray 26)).alloc (.cells #[.slice none 0 0, .int .u8 0] 46)).setCells wC.heap.size 0 (g.cs)) ∧ (((wC.alloc (.cells h60.cs.toArray 26)).alloc (.cells #[.slice none 0 0, .int .u8 0] 46)).setCells wC.heap.size 0 (g.cs)).rangeAt wC.heap.size 0 (g.cs) ∧ (((wC.alloc (.cells h60.cs.toArray 26)).alloc (.cells #[.slice none 0 0, .int .u8 0] 46)).setCells wC.heap.size 0 (g.cs)).heap[wC.heap.size + 1]? = some (.cells #[.slice none 0 0, .int .u8 0] 46 (0, 0)) ∧ ((wC.alloc (.cells h60.cs.toArray 26)).alloc (.cells #[.slice none 0 0, .int .u8 0] 46)).there wC.heap.size 0 (g.cs).length) := by
      obtain ⟨wa, hwa⟩ : ∃ y, wC.alloc (.cells h60.cs.toArray 26) = y := ⟨_, rfl⟩
      have ha : Below wC.heap.size wC wa := by rw [← hwa]; exact (Below.refl _ _).alloc (Nat.le_refl _) _
      have hta : wa.there wC.heap.size 0 (g.cs).length := by rw [← hwa]; exact there_new _ _ _ _ (by rw [HGK.out.len]; rfl) _ rfl
      have hsa : wa.heap.size = wC.heap.size + 1 := by rw [← hwa]; simp
      obtain ⟨wb, hwb⟩ : ∃ y, wa.alloc (.cells #[.slice none 0 0, .int .u8 0] 46) = y := ⟨_, rfl⟩
      have hb : Below wa.heap.size wa wb := by rw [← hwb]; exact (Below.refl _ _).alloc (Nat.le_refl _) _
      have hbl : wb.heap[wC.heap.size + 1]? = some (.cells #[.slice none 0 0, .int .u8 0] 46 (0, 0)) := by rw [← hwb, ← hsa]; exact Blk_new wa _ _
      rw [hwa, hwb]
      have htb := there_kept hb hta
      exact ⟨Below.setCells (ha.trans (hb.mono ha.size)) _ (Nat.le_refl _) _ _, World.rangeAt_setCells_same _ _ _ _ htb, (Kept.setCells wC.heap.size (g.cs) 0 wb (Kept.refl _ _)).heap hbl (by omega), htb⟩
    go_upto_region 13 with (first
      | (refine stN (fun w' => Hid (Below wC.heap.size wC w' ∧ w'.rangeAt wC.heap.size 0 (g.cs) ∧ w'.heap[wC.heap.size + 1]? = some (.cells #[.slice none 0 0, .int .u8 0] 46 (0, 0)))) 26 (.tmp 19) (.tmp 103) rfl rfl wC.heap.size 0 (g.cs) rfl rfl HPA.out.2.2.2 HIG.out (H6.one _) ⟨HPA.out.1, HPA.out.2.1, HPA.out.2.2.1⟩ ?_; intro wyA HYA)
      | (refine stN (fun w' => Hid (Below wC.heap.size wC w' ∧ w'.rangeAt wC.heap.size 0 (g.cs) ∧ w'.heap[wC.heap.size + 1]? = some (.cells #[.slice ga gn gc, .int .u8 p] 46 (0, 0)))) 46 (.tmp 20) (.tmp 104) rfl rfl (wC.heap.size + 1) 0 [.slice ga gn gc, .int .u8 p] rfl rfl (row_there HYA.out.2.2 2 rfl) infC2 (cch_one _ _ _ _) ⟨Below.setCells HYA.out.1 _ (Nat.le_succ _) _ _, World.rangeAt_setCells_apart HYA.out.2.1 _ _ _ (.inl HNEA.out), two_set HYA.out.2.2 _ _⟩ ?_; intro wzA HZA))
    have HFD := Lib.hid ((HFC.out.next HZA.out.1).and (((Fw.range HZA.out.2.1).and (Fw.heap HZA.out.2.2)).and ((Fw.ownC (HGC.out.keep HZA.out.1)).and (Fw.own (HOB.out.blw HZA.out.1)))))
    have HML := Lib.hid HOB.out.len
    have hq60 : decide ((n4 : Int) ≤ 60000) = true := by rw [decide_eq_true_iff]; omega
    clear HFC HGC HOB HPA HYA HZA
    go_wp2_with (first
      | (refine neqCg (.tmp 117) (.tmp 118) _ rfl (by rfl) g HGK.out rfl rfl ?_)
      | (refine ldCg 26 (.tmp 19) rfl (by rfl) wC.heap.size rfl g.cs HFD.out.here.2.1.1 _ Try.underlying26 rfl HIG.out ?_)
      | (refine ldCg 26 (.tmp 5) rfl (by rfl) w.heap.size rfl g.cs HFD.out.here.1.2.1.1 _ Try.underlying26 rfl HIG.out ?_)
      | (refine ldCg 46 (.tmp 20) rfl (by rfl) (wC.heap.size + 1) rfl [.slice ga gn gc, .int .u8 p] (range_row2 HFD.out.here.2.1.2) _ Try.underlying46 rfl infC2 ?_)
      | (refine ldCg 46 (.tmp 6) rfl (by rfl) (w.heap.size + 1) rfl [.slice a n c, .int .u8 p] HFD.out.here.1.2.2.1 _ Try.underlying46 rfl infC2 ?_))
    refine (sxSame_any ga a gn gc n c gs es p p _ HFD.out.here.2.2.1.ch (HX.out.below HFD.out.here.1.1)).mono ?_
    rintro e wE ⟨rfl, hbE⟩
    rw [smC_of HGS.out]
    have HFE := Lib.hid (HFD.out.next hbE)
    clear hbE HFD
    go_wp2_with fail
    refine (kSame_any ma ba mn mc bn bc ys ys _ HML.out HYN.out HFE.out.here.2.2.2.rd (HYR.out.below HFE.out.here.1.1) (by have h1 := HML.out; have h2 := HYN.out; omega) (by omega)).mono ?_
    rintro e wv ⟨rfl, mq, hwv⟩
    rw [decide_eq_true rfl]
    have HV0 : Hid (Below w.heap.size w wv) := by show Below _ _ _; rw [hwv]; exact below_drewN HFE.out.here.1.1 mq
    clear hwv HFE
    go_upto_region 15 with fail
    go_wp2_with fail
    refine (sxParseChain_any F xa xn xc xs _ V F0 F1 HXN.out (HXR.out.below HV0.out) HXB.out (by omega) HVV.out.symm).mono ?_
    intro e wp hp
    by_cases hv0 : V.1 = 0
    · obtain ⟨hb1, fs, fa, fn, fc, rfl, hfs, hfc, hk0, hk1⟩ := hp.some_ hv0
      obtain ⟨hrt2, hcm2, mm, hmm, hml, hch2⟩ := parsed_right HXB.out (by rw [HVV.out]; exact hv0) (by rw [HVV.out]; exact hfs)
      rw [HVV.out] at hrt2 hcm2 hmm hch2
      obtain ⟨P2, hP2⟩ : ∃ q, V.2.2.1 = q := ⟨_, rfl⟩
      rw [hP2] at hrt2 hcm2 hch2 hk0 hk1
      rw [hP2, hmm]
      have HK2 := Lib.hid (And.intro hk0 hk1)
      have HR2 := Lib.hid hrt2
      have HM2 := Lib.hid hcm2
      have HC2 := Lib.hid hch2
      rw [HXN.out] at hml
      obtain ⟨wq, hwq⟩ : ∃ y, wp.alloc (.cells #[.slice fa fn fc, .int .u8 P2] 46) = y := ⟨_, rfl⟩
      have hal : Below wp.heap.size wp wq := by rw [← hwq]; exact (Below.refl _ _).alloc (Nat.le_refl _) _
      have hr23 : wq.rangeAt wp.heap.size 0 [.slice fa fn fc, .int .u8 P2] := by rw [← hwq]; exact range_row2 (Blk_new wp _ _)
      have hbq : Below wv.heap.size wv wq := hb1.trans (hal.mono hb1.size)
      have HFQ := Lib.hid ((Fw.blw (HV0.out.trans (hbq.mono HV0.out.size)) (Nat.le_trans HV0.out.size hbq.size)).and ((Fw.range hr23).and (Fw.ownC (hfc.keep hal))))
      have HWQ := Lib.hid hwq
      have hvz : ((V.1 : Int) != 0) = false := by simp; exact hv0
      clear hp hb1 hfs hfc hk0 hk1 hrt2 hcm2 hch2 hmm hwq hal hr23 hbq hP2
      go_upto_region 16 with fail
      rw [HWQ.out]
      clear HWQ
      go_wp2_with (first
        | (refine ldC 46 (.tmp 23) rfl rfl wp.heap.size rfl [.slice fa fn fc, .int .u8 P2] HFQ.out.here.2.1 _ Try.underlying46 rfl infC2 ?_))
      refine (sxPutChain_any fa fn fc fs P2 _ HFQ.out.here.2.2.ch HK2.out.1 HK2.out.2).mono ?_
      intro e wr hp
      obtain ⟨hb2, ta, tn, tc, rfl, hto⟩ := hp.some_ HR2.out
      rw [HM2.out]
      rw [HC2.out] at hto
      have HFR := Lib.hid ((HFQ.out.next hb2).and (Fw.rd hto.rd))
      have HTL := Lib.hid hto.len
      clear hp hb2 hto HFQ
      go_wp2_with (first
        | (refine ldC 46 (.tmp 23) rfl rfl wp.heap.size rfl [.slice fa fn fc, .int .u8 P2] HFR.out.here.1.2.1 _ Try.underlying46 rfl infC2 ?_))
      refine (sxRight_any fa fn fc fs P2 _ HFR.out.here.1.2.2.ch HK2.out.1 HK2.out.2).mono ?_
      rintro e ws ⟨rfl, hb3⟩
      rw [HR2.out]
      have HFS := Lib.hid (HFR.out.next hb3)
      have hmi : (mm : Int) ≤ (xn : Int) := by omega
      have hxc : (xn : Int) ≤ (xc : Int) := by omega
      clear hb3 HFR
      go_wp2_with fail
      refine (kSame_any ta xa tn tc mm xc (xs.take mm) (xs.take mm) _ HTL.out (by rw [List.length_take, HXN.out]; omega) HFS.out.here.2 ((HXR.out.below HFS.out.here.1.1).taken mm) (by have h1 := HTL.out; rw [List.length_take] at h1; omega) (by omega)).mono ?_
      rintro e wt ⟨rfl, mq, hwt⟩
      rw [decide_eq_true rfl]
      have HBT : Hid (Below w.heap.size w wt) := by show Below _ _ _; rw [hwt]; exact below_drewN HFS.out.here.1.1 mq
      clear hwt
      go_wp2_with fail
      refine (works6_any _).mono ?_
      rintro e wk ⟨rfl, hbk⟩
      have HBK := Lib.hid (HBT.out.trans (hbk.mono HBT.out.size))
      clear hbk
      go_wp2_with fail
      go_ret
      exact ⟨rfl, HBK.out⟩

    · obtain ⟨hb1, rfl⟩ := hp.none_ hv0
      obtain ⟨wq, hwq⟩ : ∃ y, wp.alloc (.cells #[.slice none 0 0, .int .u8 0] 46) = y := ⟨_, rfl⟩
      have hal : Below wp.heap.size wp wq := by rw [← hwq]; exact (Below.refl _ _).alloc (Nat.le_refl _) _
      have hc0 : wq.cell? ⟨wp.heap.size, 0, none⟩ = some (.slice none 0 0) := by rw [← hwq]; exact World.cell?_alloc_new _ _ _ _
      have HBQ : Hid (Below w.heap.size w wq) := HV0.out.trans ((hb1.trans (hal.mono hb1.size)).mono HV0.out.size)
      have HWQ := Lib.hid hwq
      have hvz : ((V.1 : Int) != 0) = true := by simp; exact hv0
      clear hp hb1 hwq hal
      go_upto_region 16 with fail
      rw [HWQ.out]
      clear HWQ
      go_wp2_with fail
      refine (works6_any _).mono ?_
      rintro e wk ⟨rfl, hbk⟩
      have HBK := Lib.hid (HBQ.out.trans (hbk.mono HBQ.out.size))
      clear hbk
      go_wp2_with fail
      go_ret
      exact ⟨rfl, HBK.out⟩
end Go.Proofs.Ythipnkaghddbhaa

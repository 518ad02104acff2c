/-
  TransPuts, walked: for segments, addresses and a number that lie where the slices lead the call answers true. Condition: the first segment has at most 2^48 bytes of data.
-/
import Derived.Test.YtabdejoakecioaaTrParses
import Derived.Test.YtabdejoakecioaaTrRPut
import Derived.Test.YtabdejoakecioaaTrEqR
namespace Go.Proofs.Ytabdejoakecioaa
open Go.RowKit

/-- What lies in memory while TransPuts goes on. -/
structure PY (w : World) (s t : Sg) (r1 r2 : Row) (w' : World) : Prop where
  below : Below w.heap.size w w'
  seg : w'.rangeAt w.heap.size 0 s.cs
  oth : w'.rangeAt (w.heap.size + 1) 0 t.cs
  ok : s.ok w'
  ok2 : t.ok w'
  r1 : r1.ok w'
  r2 : r2.ok w'
theorem PY.next {w w1 w2 : World} {s t : Sg} {r1 r2 : Row} (h : PY w s t r1 r2 w1) (hb : Below w1.heap.size w1 w2) : PY w s t r1 r2 w2 :=
  ⟨h.below.trans (hb.mono h.below.size), range_kept hb h.seg, range_kept hb h.oth, h.ok.below hb, h.ok2.below hb, h.r1.below hb, h.r2.below hb⟩
theorem PY.start (w : World) (s t : Sg) (r1 r2 : Row) (k : s.ok w) (l : t.ok w) (k1 : r1.ok w) (k2 : r2.ok w) : PY w s t r1 r2 ((w.alloc (.cells s.cs.toArray 26)).alloc (.cells t.cs.toArray 26)) := by
  have hb1 : Below w.heap.size w (w.alloc (.cells s.cs.toArray 26)) := (Below.refl _ _).alloc (Nat.le_refl _) _
  have hb2 : Below (w.alloc (.cells s.cs.toArray 26)).heap.size (w.alloc (.cells s.cs.toArray 26)) ((w.alloc (.cells s.cs.toArray 26)).alloc (.cells t.cs.toArray 26)) := (Below.refl _ _).alloc (Nat.le_refl _) _
  have hr := range_new (w.alloc (.cells s.cs.toArray 26)) t.cs 26
  rw [World.size_alloc] at hr
  exact ⟨hb1.trans (hb2.mono hb1.size), range_kept hb2 (range_new _ _ _), hr, (k.below hb1).below hb2, (l.below hb1).below hb2, (k1.below hb1).below hb2, (k2.below hb1).below hb2⟩
/-- The same, with the document's segment and the bytes that are wanted. -/
structure PZ (w : World) (b : Nat) (s t : Sg) (r1 r2 : Row) (w' : World) : Prop where
  y : PY w s t r1 r2 w'
  ref : w'.rangeAt b 0 (rcs s.p)
theorem PZ.next {w w1 w2 : World} {b : Nat} {s t : Sg} {r1 r2 : Row} (h : PZ w b s t r1 r2 w1) (hb : Below w1.heap.size w1 w2) : PZ w b s t r1 r2 w2 :=
  ⟨h.y.next hb, range_kept hb h.ref⟩
theorem PZ.start {w w1 : World} {s t : Sg} {r1 r2 : Row} (h : PY w s t r1 r2 w1) : PZ w w1.heap.size s t r1 r2 ((w1.alloc (.cells rc0.toArray 30)).setCells w1.heap.size 0 (rcs s.p)) := by
  obtain ⟨h1, h2, _⟩ := put_new w1 (rcs s.p) rc0 30 rfl
  exact ⟨h.next h1, h2⟩

set_option maxRecDepth 100000 in
set_option maxHeartbeats 8000000 in
theorem puts7_any (s t : Sg) (sa : Option Addr) (sn sc : Nat) (src : List Int) (da : Option Addr) (dn dc : Nat) (dst : List Int) (f : Int) (w : World) (k : s.ok w) (l : t.ok w) (hs : Row.ok w ⟨sa, sn, sc, src⟩) (hd : Row.ok w ⟨da, dn, dc, dst⟩) (f0 : 0 ≤ f) (f1 : f < 256) (hsz : s.dn ≤ 281474976710656) :
    Calls Try.prog 3 #[.agg s.cs.toArray, .agg t.cs.toArray, .slice sa sn sc, .slice da dn dc, .int .u8 f] w (Gives w (.bool true)) := by
  obtain ⟨wA, hwA⟩ : ∃ x, (w.alloc (.cells s.cs.toArray 26)).alloc (.cells t.cs.toArray 26) = x := ⟨_, rfl⟩
  have HA := Lib.hid (PY.start w s t ⟨sa, sn, sc, src⟩ ⟨da, dn, dc, dst⟩ k l hs hd)
  rw [hwA] at HA
  have hls : src.length = sn := hs.len
  have hld : dst.length = dn := hd.len
  have HLS := Lib.hid hls
  have HLD := Lib.hid hld
  have HON : Hid (s.p.op.length = s.on) := k.opt.len
  have HDN : Hid (s.p.dt.length = s.dn) := k.dat.len
  have HFIT := Lib.hid k.fit
  have HFIT2 := Lib.hid l.fit
  have HSB := Lib.hid (And.intro hs.byt hd.byt)
  have HF0 := Lib.hid (And.intro f0 f1)
  have HSZ := Lib.hid hsz
  obtain ⟨cs, hcs⟩ : ∃ cs, s.cs.toArray = cs := ⟨_, rfl⟩
  have HCS := Lib.hid hcs
  obtain ⟨ds, hds⟩ : ∃ ds, t.cs.toArray = ds := ⟨_, rfl⟩
  have HDS := Lib.hid hds
  rw [hcs, hds] at hwA
  rw [hcs, hds]
  clear k l hs hd hls hld hcs hds f0 f1 hsz
  cases qa : fwS s with
  | false =>
    have HQA := Lib.hid qa
    clear qa
    go_enter Try.func3, Try.ntmps3
    go_upto_region 1 with fail
    go_wp2_with (refine ldSg (.tmp 5) rfl (by rfl) w.heap.size rfl s HA.out.seg ?_; rw [HCS.out])
    rw [← HCS.out]
    refine (few7_any s _).mono ?_
    rintro e w1 ⟨rfl, hb1⟩
    rw [HQA.out, HCS.out]
    have H1 := Lib.hid (HA.out.next hb1)
    clear hb1
    go_wp2_with fail
    refine (works7_any _).mono ?_
    rintro e wk ⟨rfl, hbk⟩
    have HBK := Lib.hid (H1.out.below.trans (hbk.mono H1.out.below.size))
    clear hbk
    go_wp2_with fail
    go_ret
    exact ⟨rfl, HBK.out⟩
  | true =>
  have HQA := Lib.hid qa
  clear qa
  cases qb : fwS t with
  | false =>
    have HQB := Lib.hid qb
    clear qb
    go_enter Try.func3, Try.ntmps3
    go_upto_region 1 with fail
    go_wp2_with (refine ldSg (.tmp 5) rfl (by rfl) w.heap.size rfl s HA.out.seg ?_; rw [HCS.out])
    rw [← HCS.out]
    refine (few7_any s _).mono ?_
    rintro e w1 ⟨rfl, hb1⟩
    rw [HQA.out, HCS.out]
    have H1 := Lib.hid (HA.out.next hb1)
    clear hb1
    go_wp2_with (refine ldSg (.tmp 6) rfl (by rfl) (w.heap.size + 1) rfl t H1.out.oth ?_; rw [HDS.out])
    rw [← HDS.out]
    refine (few7_any t _).mono ?_
    rintro e w2 ⟨rfl, hb2⟩
    rw [HQB.out, HDS.out]
    have H2 := Lib.hid (H1.out.next hb2)
    clear hb2
    go_wp2_with fail
    refine (works7_any _).mono ?_
    rintro e wk ⟨rfl, hbk⟩
    have HBK := Lib.hid (H2.out.below.trans (hbk.mono H2.out.below.size))
    clear hbk
    go_wp2_with fail
    go_ret
    exact ⟨rfl, HBK.out⟩
  | true =>
  have HQB := Lib.hid qb
  clear qb
  by_cases q3 : 40 < sn
  · have q3' : (40 : Int) < (sn : Int) := by omega
    go_enter Try.func3, Try.ntmps3
    go_upto_region 1 with fail
    go_wp2_with (refine ldSg (.tmp 5) rfl (by rfl) w.heap.size rfl s HA.out.seg ?_; rw [HCS.out])
    rw [← HCS.out]
    refine (few7_any s _).mono ?_
    rintro e w1 ⟨rfl, hb1⟩
    rw [HQA.out, HCS.out]
    have H1 := Lib.hid (HA.out.next hb1)
    clear hb1
    go_wp2_with (refine ldSg (.tmp 6) rfl (by rfl) (w.heap.size + 1) rfl t H1.out.oth ?_; rw [HDS.out])
    rw [← HDS.out]
    refine (few7_any t _).mono ?_
    rintro e w2 ⟨rfl, hb2⟩
    rw [HQB.out, HDS.out]
    have H2 := Lib.hid (H1.out.next hb2)
    clear hb2
    go_wp2_with fail
    refine (works7_any _).mono ?_
    rintro e wk ⟨rfl, hbk⟩
    have HBK := Lib.hid (H2.out.below.trans (hbk.mono H2.out.below.size))
    clear hbk
    go_wp2_with fail
    go_ret
    exact ⟨rfl, HBK.out⟩
  have q3' : ¬ (40 : Int) < (sn : Int) := by omega
  by_cases q4 : 40 < dn
  · have q4' : (40 : Int) < (dn : Int) := by omega
    go_enter Try.func3, Try.ntmps3
    go_upto_region 1 with fail
    go_wp2_with (refine ldSg (.tmp 5) rfl (by rfl) w.heap.size rfl s HA.out.seg ?_; rw [HCS.out])
    rw [← HCS.out]
    refine (few7_any s _).mono ?_
    rintro e w1 ⟨rfl, hb1⟩
    rw [HQA.out, HCS.out]
    have H1 := Lib.hid (HA.out.next hb1)
    clear hb1
    go_wp2_with (refine ldSg (.tmp 6) rfl (by rfl) (w.heap.size + 1) rfl t H1.out.oth ?_; rw [HDS.out])
    rw [← HDS.out]
    refine (few7_any t _).mono ?_
    rintro e w2 ⟨rfl, hb2⟩
    rw [HQB.out, HDS.out]
    have H2 := Lib.hid (H1.out.next hb2)
    clear hb2
    go_wp2_with fail
    refine (works7_any _).mono ?_
    rintro e wk ⟨rfl, hbk⟩
    have HBK := Lib.hid (H2.out.below.trans (hbk.mono H2.out.below.size))
    clear hbk
    go_wp2_with fail
    go_ret
    exact ⟨rfl, HBK.out⟩
  have q4' : ¬ (40 : Int) < (dn : Int) := by omega
  have HLIM : Hid (s.on ≤ 100 ∧ (s.dn ≤ 300 ∨ (65535 < s.dn ∧ s.dn ≤ 281474976710656))) := by
    have h := HQA.out
    have hz := HSZ.out
    unfold fwS at h
    simp only [Bool.and_eq_true, Bool.or_eq_true, decide_eq_true_eq] at h
    show _ ∧ _
    omega
  obtain ⟨tc, htc⟩ : ∃ x, (rcs s.p).toArray = x := ⟨_, rfl⟩
  have HTC := Lib.hid htc
  obtain ⟨u1, hu1⟩ : ∃ x, str src = x := ⟨_, rfl⟩
  obtain ⟨u2, hu2⟩ : ∃ x, str dst = x := ⟨_, rfl⟩
  have HU1 := Lib.hid hu1
  have HU2 := Lib.hid hu2
  obtain ⟨E, hE⟩ : ∃ x, ptE s.p sn dn = x := ⟨_, rfl⟩
  have HE := Lib.hid hE
  obtain ⟨X, hX⟩ : ∃ x, ptB s.p src dst = x := ⟨_, rfl⟩
  have HX := Lib.hid hX
  have HXB : Hid (Byt X) := by rw [← hX]; exact ptB_byt _ _ _ HFIT.out.op HFIT.out.dt
  have HTH : Hid (∀ w1 : World, (w1.alloc (.cells rc0.toArray 30)).there w1.heap.size 0 12) := fun w1 => there_new _ _ _ _ rfl _ rfl
  clear q3 q4 htc hu1 hu2 hE hX
  go_enter Try.func3, Try.ntmps3
  go_upto_region 1 with fail
  go_wp2_with (refine ldSg (.tmp 5) rfl (by rfl) w.heap.size rfl s HA.out.seg ?_; rw [HCS.out])
  rw [← HCS.out]
  refine (few7_any s _).mono ?_
  rintro e w1 ⟨rfl, hb1⟩
  rw [HQA.out, HCS.out]
  have H1 := Lib.hid (HA.out.next hb1)
  clear hb1
  go_wp2_with (refine ldSg (.tmp 6) rfl (by rfl) (w.heap.size + 1) rfl t H1.out.oth ?_; rw [HDS.out])
  rw [← HDS.out]
  refine (few7_any t _).mono ?_
  rintro e w2 ⟨rfl, hb2⟩
  rw [HQB.out, HDS.out]
  have H2 := Lib.hid (H1.out.next hb2)
  clear hb2
  go_upto_region 3 with fail
  clear q3' q4'
  go_wp2_with (refine ldSg (.tmp 5) rfl (by rfl) w.heap.size rfl s H2.out.seg ?_; rw [HCS.out])
  rw [← HCS.out]
  refine (d7Trans_any s _ H2.out.ok).mono ?_
  rintro e w3 ⟨rfl, hb3⟩
  rw [HTC.out, HCS.out]
  have HS3 := Lib.hid (PZ.start (H2.out.next hb3))
  clear hb3
  go_upto_region 4 with (refine stN (fun w' => Hid (PZ w w3.heap.size s t ⟨sa, sn, sc, src⟩ ⟨da, dn, dc, dst⟩ w')) 30 (.tmp 11) (.tmp 38) rfl rfl w3.heap.size 0 (rcs s.p) rfl (by rw [HTC.out]; rfl) (HTH.out w3) infR (rcs_one _) HS3 ?_; intro w4 H4)
  clear HS3
  obtain ⟨bR, hbR⟩ : ∃ x, w3.heap.size = x := ⟨_, rfl⟩
  rw [hbR] at H4 ⊢
  clear hbR
  have hst1 : (convert 24 9 (.slice sa sn sc)).run Try.prog w4 = .ok (.string (str src)) w4 := run_string_rd w4 sc H4.out.y.r1.len H4.out.y.r1.rd H4.out.y.r1.byt
  have hst2 : (convert 24 9 (.slice da dn dc)).run Try.prog w4 = .ok (.string (str dst)) w4 := run_string_rd w4 dc H4.out.y.r2.len H4.out.y.r2.rd H4.out.y.r2.byt
  rw [HU1.out] at hst1
  rw [HU2.out] at hst2
  go_wp2_with (refine ldCw 30 (.tmp 11) rfl (by rfl) bR rfl (rcs s.p) H4.out.ref _ Try.underlying30 rfl infR ?_; rw [HTC.out])
  rw [← HTC.out, ← HU1.out, ← HU2.out]
  refine (r7Put_any s.p src dst _ HFIT.out (by rw [HON.out]; exact HLIM.out.1) (by rw [HDN.out]; exact HLIM.out.2) HSB.out.1 HSB.out.2).mono ?_
  rintro e w5 ⟨wa, wn, wc, rfl, hwl, hwr, hb5⟩
  rw [HX.out] at hwl hwr
  rw [HLS.out, HLD.out, HE.out, HTC.out, HU1.out, HU2.out]
  have HWL := Lib.hid hwl
  have H5 := Lib.hid (And.intro (H4.out.next hb5) hwr)
  clear hst1 hst2 hwl hwr hb5 H4
  go_wp2_with fail
  go_loopw [14] (fun i wr => ∃ q : Nat, q ≤ 2 ∧ i = .int .i64 q ∧ Hid (PZ w bR s t ⟨sa, sn, sc, src⟩ ⟨da, dn, dc, dst⟩ wr ∧ Rd wr wa X)) (fun i _ => 2 - (intOf i).toNat)
  case atStart => exact ⟨0, by omega, rfl, H5⟩
  case round =>
    obtain ⟨q, hq, rfl, hv⟩ := hrel
    rename World => wt
    clear H5
    by_cases hlt : q < 2
    · go_wp2_with (refine ldSg (.tmp 5) rfl (by rfl) w.heap.size rfl s hv.out.1.y.seg ?_; rw [HCS.out])
      rw [← HCS.out]
      refine (tPut_any s sa da sn sc dn dc src dst _ hv.out.1.y.ok hv.out.1.y.r1 hv.out.1.y.r2 HLIM.out.1 HLIM.out.2).mono ?_
      rintro e w6 ⟨ba, bn, bc, rfl, hown, hb6⟩
      rw [HX.out] at hown
      rw [HE.out, HCS.out]
      have HOW := Lib.hid hown
      have HB6 := Lib.hid hb6
      have HWR := Lib.hid (hv.out.2.below hb6)
      clear hown hb6
      have hee : (E != E) = false := by simp
      go_wp2_with fail
      refine (same_any ba wa bn bc wn wc X X _ HOW.out.len HWL.out HOW.out.rd HWR.out HXB.out HXB.out).mono ?_
      rintro e w7 ⟨rfl, rfl⟩
      rw [decide_eq_true (rfl : X = X)]
      have HJ0 : Hid (Inc w6 wt.heap.size ba bn bc w6) := Inc.start HOW.out
      clear hee
      go_wp2_with fail
      go_loopw [17] (fun i wr => ∃ z : Nat, z ≤ bn ∧ i = .int .i64 z ∧ Hid (Inc w6 wt.heap.size ba bn bc wr)) (fun i _ => bn - (intOf i).toNat)
      case atStart => exact ⟨0, Nat.zero_le _, rfl, HJ0⟩
      case round =>
        obtain ⟨z, hz, rfl, hin⟩ := hrel
        rename World => wi
        clear HJ0
        by_cases hlz : z < bn
        · obtain ⟨gd, zz, rfl, hzz, hf, hnext⟩ := hin.out.at_ hlz
          have HXN := Lib.hid hnext
          clear hnext
          have hmc : bn ≤ bc := HOW.out.le.1
          have hmx : bc ≤ 9223372036854775807 := HOW.out.le.2
          go_wp2_with fail
          go_roundw
          case rel => exact ⟨z + 1, by omega, by go_num, HXN.out _⟩
          case measure => simp [intOf]; omega
        · have hbi : Below wt.heap.size wt wi := Inc.blw HOW.out HB6.out hin.out
          have HTI : Hid (PZ w bR s t ⟨sa, sn, sc, src⟩ ⟨da, dn, dc, dst⟩ wi ∧ Rd wi wa X) := ⟨hv.out.1.next hbi, hv.out.2.below hbi⟩
          clear hbi
          go_wp2_with fail
          clear hin
          go_roundw
          case rel => exact ⟨q + 1, by omega, by go_num, HTI⟩
          case measure => simp [intOf]; omega
    · have hq2 : q = 2 := by omega
      subst hq2
      clear hlt hq
      have HV := Lib.hid hv.out.1
      clear hv
      go_wp2_with fail
      obtain ⟨qr, hqr⟩ : ∃ x, rgP s.p = x := ⟨_, rfl⟩
      have HQR := Lib.hid hqr
      obtain ⟨qs, hqs⟩ : ∃ x, smP s.p t.p = x := ⟨_, rfl⟩
      have HQS := Lib.hid hqs
      obtain ⟨fs, hfs⟩ : ∃ x, str (flS f 6) = x := ⟨_, rfl⟩
      have HFS := Lib.hid hfs
      have hrr : (qr == qr) = true := by simp
      have hss : (qs == qs) = true := by simp
      clear hqr hqs hfs
      have hS0 : World.rangeAt wt w.heap.size 0 s.cs ∧ World.rangeAt wt (w.heap.size + 1) 0 t.cs ∧ World.rangeAt wt bR 0 (rcs s.p) := ⟨HV.out.y.seg, HV.out.y.oth, HV.out.ref⟩
      refine wp_region_held_drew (S := fun w' => World.rangeAt w' w.heap.size 0 s.cs ∧ World.rangeAt w' (w.heap.size + 1) 0 t.cs ∧ World.rangeAt w' bR 0 (rcs s.p)) (by kernel_rfl) hS0 (fun hS => ?_)
      refine tk 0 80 (.agg (s.cs).toArray) rfl rfl (by kernel_rfl) (by kernel_rfl) (by kernel_rfl) (fun _ _ _ h => h) (yieldsIf_load_mid (by rfl) _ _ rfl (w.heap.size) (0) rfl (s.cs) _ (fun w' h' => h'.1) Try.underlying26 rfl (infS)) hS ?_
      try simp only [Act.put, List.setIfInBounds_toArray, List.set_cons_zero, List.set_cons_succ]
      refine tk 2 82 (.agg (rcs s.p).toArray) rfl rfl (by kernel_rfl) (by kernel_rfl) (by kernel_rfl) (fun _ _ _ h => h) (yieldsIf_load_mid (by rfl) _ _ rfl (bR) (0) rfl (rcs s.p) _ (fun w' h' => h'.2.2) Try.underlying30 rfl (infR)) hS ?_
      try simp only [Act.put, List.setIfInBounds_toArray, List.set_cons_zero, List.set_cons_succ]
      refine wpAnyH_ready (rs := [1]) (by kernel_rfl) (by simp) (AllReadyH.cons rfl (fun K hK => ?_) AllReadyH.nil)
      rw [if_pos (by rfl)]
      go_wp2_with fail
      refine (tRight_any s _ (HV.out.y.ok.below (Below.refl _ _).drew) (by have := HLIM.out; omega) (by have := HLIM.out; omega)).mono ?_
      rintro e wb1 ⟨rfl, hb⟩
      rw [HQR.out]
      have H101 := Lib.hid (HV.out.next (undrew hb))
      have hS1 : World.rangeAt wb1 w.heap.size 0 s.cs ∧ World.rangeAt wb1 (w.heap.size + 1) 0 t.cs ∧ World.rangeAt wb1 bR 0 (rcs s.p) := ⟨H101.out.y.seg, H101.out.y.oth, H101.out.ref⟩
      clear hb
      clear hS
      refine hK.out _ _ (hS1) (fun hS => ?_)
      clear hK K
      try simp only [Act.put, List.setIfInBounds_toArray, List.set_cons_zero, List.set_cons_succ]
      refine wpAnyH_ready (rs := [3]) (by kernel_rfl) (by simp) (AllReadyH.cons rfl (fun K hK => ?_) AllReadyH.nil)
      rw [if_pos (by rfl)]
      go_wp2_with fail
      refine (r7Right_any s.p _ (by have := HLIM.out; have := HON.out; omega) (by have := HLIM.out; have := HDN.out; omega)).mono ?_
      rintro e wb2 ⟨rfl, hb⟩
      rw [HQR.out]
      have H102 := Lib.hid (H101.out.next hb)
      have hS2 : World.rangeAt wb2 w.heap.size 0 s.cs ∧ World.rangeAt wb2 (w.heap.size + 1) 0 t.cs ∧ World.rangeAt wb2 bR 0 (rcs s.p) := ⟨H102.out.y.seg, H102.out.y.oth, H102.out.ref⟩
      clear hb H101
      clear hS
      refine hK.out _ _ (hS2) (fun hS => ?_)
      clear hK K
      try simp only [Act.put, List.setIfInBounds_toArray, List.set_cons_zero, List.set_cons_succ]
      refine tk 4 84 (.bool true) rfl rfl (by kernel_rfl) (by kernel_rfl) (by kernel_rfl) (fun _ _ _ h => h) (Or.inl ⟨by rfl, fun w' h' => ?_⟩) hS ?_
      · have hq := hrr
        go_simp
      try simp only [Act.put, List.setIfInBounds_toArray, List.set_cons_zero, List.set_cons_succ]
      refine tk 5 85 (.bool true) rfl rfl (by kernel_rfl) (by kernel_rfl) (by kernel_rfl) (fun _ _ _ h => h) (Or.inl ⟨by rfl, fun w' h' => ?_⟩) hS ?_
      · go_simp
      try simp only [Act.put, List.setIfInBounds_toArray, List.set_cons_zero, List.set_cons_succ]
      refine tk 6 86 (.agg (s.cs).toArray) rfl rfl (by kernel_rfl) (by kernel_rfl) (by kernel_rfl) (fun _ _ _ h => h) (yieldsIf_load_mid (by rfl) _ _ rfl (w.heap.size) (0) rfl (s.cs) _ (fun w' h' => h'.1) Try.underlying26 rfl (infS)) hS ?_
      try simp only [Act.put, List.setIfInBounds_toArray, List.set_cons_zero, List.set_cons_succ]
      refine tk 7 87 (.agg (t.cs).toArray) rfl rfl (by kernel_rfl) (by kernel_rfl) (by kernel_rfl) (fun _ _ _ h => h) (yieldsIf_load_mid (by rfl) _ _ rfl (w.heap.size + 1) (0) rfl (t.cs) _ (fun w' h' => h'.2.1) Try.underlying26 rfl (infS)) hS ?_
      try simp only [Act.put, List.setIfInBounds_toArray, List.set_cons_zero, List.set_cons_succ]
      refine tk 9 89 (.agg (rcs s.p).toArray) rfl rfl (by kernel_rfl) (by kernel_rfl) (by kernel_rfl) (fun _ _ _ h => h) (yieldsIf_load_mid (by rfl) _ _ rfl (bR) (0) rfl (rcs s.p) _ (fun w' h' => h'.2.2) Try.underlying30 rfl (infR)) hS ?_
      try simp only [Act.put, List.setIfInBounds_toArray, List.set_cons_zero, List.set_cons_succ]
      refine tk 10 90 (.agg (t.cs).toArray) rfl rfl (by kernel_rfl) (by kernel_rfl) (by kernel_rfl) (fun _ _ _ h => h) (yieldsIf_load_mid (by rfl) _ _ rfl (w.heap.size + 1) (0) rfl (t.cs) _ (fun w' h' => h'.2.1) Try.underlying26 rfl (infS)) hS ?_
      try simp only [Act.put, List.setIfInBounds_toArray, List.set_cons_zero, List.set_cons_succ]
      refine wpAnyH_ready (rs := [8]) (by kernel_rfl) (by simp) (AllReadyH.cons rfl (fun K hK => ?_) AllReadyH.nil)
      rw [if_pos (by rfl)]
      go_wp2_with fail
      refine (tSame_any s t _ H102.out.y.ok H102.out.y.ok2).mono ?_
      rintro e wb3 ⟨rfl, hb⟩
      rw [HQS.out]
      have H103 := Lib.hid (H102.out.next hb)
      have hS3 : World.rangeAt wb3 w.heap.size 0 s.cs ∧ World.rangeAt wb3 (w.heap.size + 1) 0 t.cs ∧ World.rangeAt wb3 bR 0 (rcs s.p) := ⟨H103.out.y.seg, H103.out.y.oth, H103.out.ref⟩
      clear hb H102
      clear hS
      refine hK.out _ _ (hS3) (fun hS => ?_)
      clear hK K
      try simp only [Act.put, List.setIfInBounds_toArray, List.set_cons_zero, List.set_cons_succ]
      refine wpAnyH_ready (rs := [11]) (by kernel_rfl) (by simp) (AllReadyH.cons rfl (fun K hK => ?_) AllReadyH.nil)
      rw [if_pos (by rfl)]
      go_wp2_with fail
      refine (d7Trans_any t _ H103.out.y.ok2).mono ?_
      rintro e wb4 ⟨rfl, hb⟩
      have H104 := Lib.hid (H103.out.next hb)
      have hS4 : World.rangeAt wb4 w.heap.size 0 s.cs ∧ World.rangeAt wb4 (w.heap.size + 1) 0 t.cs ∧ World.rangeAt wb4 bR 0 (rcs s.p) := ⟨H104.out.y.seg, H104.out.y.oth, H104.out.ref⟩
      clear hb H103
      clear hS
      refine hK.out _ _ (hS4) (fun hS => ?_)
      clear hK K
      try simp only [Act.put, List.setIfInBounds_toArray, List.set_cons_zero, List.set_cons_succ]
      refine tk 12 92 (.bool qs) rfl rfl (by kernel_rfl) (by kernel_rfl) (by kernel_rfl) (fun _ _ _ h => h) (Or.inl ⟨by rfl, fun w' h' => ?_⟩) hS ?_
      · exact exec_eqR rfl rfl rfl HFIT.out HFIT2.out HQS.out
      try simp only [Act.put, List.setIfInBounds_toArray, List.set_cons_zero, List.set_cons_succ]
      refine tk 13 93 (.bool true) rfl rfl (by kernel_rfl) (by kernel_rfl) (by kernel_rfl) (fun _ _ _ h => h) (Or.inl ⟨by rfl, fun w' h' => ?_⟩) hS ?_
      · have hq := hss
        go_simp
      try simp only [Act.put, List.setIfInBounds_toArray, List.set_cons_zero, List.set_cons_succ]
      refine tk 14 94 (.bool true) rfl rfl (by kernel_rfl) (by kernel_rfl) (by kernel_rfl) (fun _ _ _ h => h) (Or.inl ⟨by rfl, fun w' h' => ?_⟩) hS ?_
      · go_simp
      try simp only [Act.put, List.setIfInBounds_toArray, List.set_cons_zero, List.set_cons_succ]
      refine tk 15 95 (.bool true) rfl rfl (by kernel_rfl) (by kernel_rfl) (by kernel_rfl) (fun _ _ _ h => h) (Or.inl ⟨by rfl, fun w' h' => ?_⟩) hS ?_
      · go_simp
      try simp only [Act.put, List.setIfInBounds_toArray, List.set_cons_zero, List.set_cons_succ]
      refine tk 16 96 (.agg (s.cs).toArray) rfl rfl (by kernel_rfl) (by kernel_rfl) (by kernel_rfl) (fun _ _ _ h => h) (yieldsIf_load_mid (by rfl) _ _ rfl (w.heap.size) (0) rfl (s.cs) _ (fun w' h' => h'.1) Try.underlying26 rfl (infS)) hS ?_
      try simp only [Act.put, List.setIfInBounds_toArray, List.set_cons_zero, List.set_cons_succ]
      refine tk 17 97 (.agg (s.cs).toArray) rfl rfl (by kernel_rfl) (by kernel_rfl) (by kernel_rfl) (fun _ _ _ h => h) (yieldsIf_load_mid (by rfl) _ _ rfl (w.heap.size) (0) rfl (s.cs) _ (fun w' h' => h'.1) Try.underlying26 rfl (infS)) hS ?_
      try simp only [Act.put, List.setIfInBounds_toArray, List.set_cons_zero, List.set_cons_succ]
      refine wpAnyH_ready (rs := [18]) (by kernel_rfl) (by simp) (AllReadyH.cons rfl (fun K hK => ?_) AllReadyH.nil)
      rw [if_pos (by rfl)]
      go_wp2_with fail
      refine (tSame_any s s _ H104.out.y.ok H104.out.y.ok).mono ?_
      rintro e wb5 ⟨rfl, hb⟩
      rw [smP_self]
      have H105 := Lib.hid (H104.out.next hb)
      have hS5 : World.rangeAt wb5 w.heap.size 0 s.cs ∧ World.rangeAt wb5 (w.heap.size + 1) 0 t.cs ∧ World.rangeAt wb5 bR 0 (rcs s.p) := ⟨H105.out.y.seg, H105.out.y.oth, H105.out.ref⟩
      clear hb H104
      clear hS
      refine hK.out _ _ (hS5) (fun hS => ?_)
      clear hK K
      try simp only [Act.put, List.setIfInBounds_toArray, List.set_cons_zero, List.set_cons_succ]
      refine tk 19 99 (.bool true) rfl rfl (by kernel_rfl) (by kernel_rfl) (by kernel_rfl) (fun _ _ _ h => h) (Or.inl ⟨by rfl, fun w' h' => ?_⟩) hS ?_
      · go_simp
      try simp only [Act.put, List.setIfInBounds_toArray, List.set_cons_zero, List.set_cons_succ]
      refine tk 20 100 (.bool true) rfl rfl (by kernel_rfl) (by kernel_rfl) (by kernel_rfl) (fun _ _ _ h => h) (Or.inl ⟨by rfl, fun w' h' => ?_⟩) hS ?_
      · go_simp
      try simp only [Act.put, List.setIfInBounds_toArray, List.set_cons_zero, List.set_cons_succ]
      refine tk 21 101 (.agg (s.cs).toArray) rfl rfl (by kernel_rfl) (by kernel_rfl) (by kernel_rfl) (fun _ _ _ h => h) (yieldsIf_load_mid (by rfl) _ _ rfl (w.heap.size) (0) rfl (s.cs) _ (fun w' h' => h'.1) Try.underlying26 rfl (infS)) hS ?_
      try simp only [Act.put, List.setIfInBounds_toArray, List.set_cons_zero, List.set_cons_succ]
      refine tk 23 103 (.agg (rcs s.p).toArray) rfl rfl (by kernel_rfl) (by kernel_rfl) (by kernel_rfl) (fun _ _ _ h => h) (yieldsIf_load_mid (by rfl) _ _ rfl (bR) (0) rfl (rcs s.p) _ (fun w' h' => h'.2.2) Try.underlying30 rfl (infR)) hS ?_
      try simp only [Act.put, List.setIfInBounds_toArray, List.set_cons_zero, List.set_cons_succ]
      refine wpAnyH_ready (rs := [22]) (by kernel_rfl) (by simp) (AllReadyH.cons rfl (fun K hK => ?_) AllReadyH.nil)
      rw [if_pos (by rfl)]
      go_wp2_with fail
      refine (d7Trans_any s _ H105.out.y.ok).mono ?_
      rintro e wb6 ⟨rfl, hb⟩
      have H106 := Lib.hid (H105.out.next hb)
      have hS6 : World.rangeAt wb6 w.heap.size 0 s.cs ∧ World.rangeAt wb6 (w.heap.size + 1) 0 t.cs ∧ World.rangeAt wb6 bR 0 (rcs s.p) := ⟨H106.out.y.seg, H106.out.y.oth, H106.out.ref⟩
      clear hb H105
      clear hS
      refine hK.out _ _ (hS6) (fun hS => ?_)
      clear hK K
      try simp only [Act.put, List.setIfInBounds_toArray, List.set_cons_zero, List.set_cons_succ]
      refine tk 24 104 (.bool true) rfl rfl (by kernel_rfl) (by kernel_rfl) (by kernel_rfl) (fun _ _ _ h => h) (Or.inl ⟨by rfl, fun w' h' => ?_⟩) hS ?_
      · exact exec_eqR rfl rfl rfl HFIT.out HFIT.out (smP_self _)
      try simp only [Act.put, List.setIfInBounds_toArray, List.set_cons_zero, List.set_cons_succ]
      refine tk 25 105 (.bool true) rfl rfl (by kernel_rfl) (by kernel_rfl) (by kernel_rfl) (fun _ _ _ h => h) (Or.inl ⟨by rfl, fun w' h' => ?_⟩) hS ?_
      · go_simp
      try simp only [Act.put, List.setIfInBounds_toArray, List.set_cons_zero, List.set_cons_succ]
      refine tk 26 106 (.bool true) rfl rfl (by kernel_rfl) (by kernel_rfl) (by kernel_rfl) (fun _ _ _ h => h) (Or.inl ⟨by rfl, fun w' h' => ?_⟩) hS ?_
      · go_simp
      try simp only [Act.put, List.setIfInBounds_toArray, List.set_cons_zero, List.set_cons_succ]
      refine tk 27 107 (.int .u8 f) rfl rfl (by kernel_rfl) (by kernel_rfl) (by kernel_rfl) (fun _ _ _ h => h) (Or.inl ⟨by rfl, fun w' h' => ?_⟩) hS ?_
      · go_simp
      try simp only [Act.put, List.setIfInBounds_toArray, List.set_cons_zero, List.set_cons_succ]
      refine tk 29 109 (.int .u8 f) rfl rfl (by kernel_rfl) (by kernel_rfl) (by kernel_rfl) (fun _ _ _ h => h) (Or.inl ⟨by rfl, fun w' h' => ?_⟩) hS ?_
      · go_simp
      try simp only [Act.put, List.setIfInBounds_toArray, List.set_cons_zero, List.set_cons_succ]
      refine wpAnyH_ready (rs := [28]) (by kernel_rfl) (by simp) (AllReadyH.cons rfl (fun K hK => ?_) AllReadyH.nil)
      rw [if_pos (by rfl)]
      go_wp2_with fail
      refine (tFlags_any f _ HF0.out.1 HF0.out.2).mono ?_
      rintro e wb7 ⟨rfl, hb⟩
      rw [HFS.out]
      have H107 := Lib.hid (H106.out.next hb)
      have hS7 : World.rangeAt wb7 w.heap.size 0 s.cs ∧ World.rangeAt wb7 (w.heap.size + 1) 0 t.cs ∧ World.rangeAt wb7 bR 0 (rcs s.p) := ⟨H107.out.y.seg, H107.out.y.oth, H107.out.ref⟩
      clear hb H106
      clear hS
      refine hK.out _ _ (hS7) (fun hS => ?_)
      clear hK K
      try simp only [Act.put, List.setIfInBounds_toArray, List.set_cons_zero, List.set_cons_succ]
      refine wpAnyH_ready (rs := [30]) (by kernel_rfl) (by simp) (AllReadyH.cons rfl (fun K hK => ?_) AllReadyH.nil)
      rw [if_pos (by rfl)]
      go_wp2_with fail
      refine (r7Flags_any f _ HF0.out.1 HF0.out.2).mono ?_
      rintro e wb8 ⟨rfl, hb⟩
      rw [HFS.out]
      have H108 := Lib.hid (H107.out.next hb)
      have hS8 : World.rangeAt wb8 w.heap.size 0 s.cs ∧ World.rangeAt wb8 (w.heap.size + 1) 0 t.cs ∧ World.rangeAt wb8 bR 0 (rcs s.p) := ⟨H108.out.y.seg, H108.out.y.oth, H108.out.ref⟩
      clear hb H107
      clear hS
      refine hK.out _ _ (hS8) (fun hS => ?_)
      clear hK K
      try simp only [Act.put, List.setIfInBounds_toArray, List.set_cons_zero, List.set_cons_succ]
      refine tk 31 111 (.bool true) rfl rfl (by kernel_rfl) (by kernel_rfl) (by kernel_rfl) (fun _ _ _ h => h) (Or.inl ⟨by rfl, fun w' h' => ?_⟩) hS ?_
      · go_simp
      try simp only [Act.put, List.setIfInBounds_toArray, List.set_cons_zero, List.set_cons_succ]
      refine tk 32 112 (.bool true) rfl rfl (by kernel_rfl) (by kernel_rfl) (by kernel_rfl) (fun _ _ _ h => h) (Or.inl ⟨by rfl, fun w' h' => ?_⟩) hS ?_
      · go_simp
      try simp only [Act.put, List.setIfInBounds_toArray, List.set_cons_zero, List.set_cons_succ]
      refine tk 33 113 (.bool true) rfl rfl (by kernel_rfl) (by kernel_rfl) (by kernel_rfl) (fun _ _ _ h => h) (Or.inl ⟨by rfl, fun w' h' => ?_⟩) hS ?_
      · go_simp
      try simp only [Act.put, List.setIfInBounds_toArray, List.set_cons_zero, List.set_cons_succ]
      refine wpAnyH_ready (rs := [34]) (by kernel_rfl) (by simp) (AllReadyH.cons rfl (fun K hK => ?_) AllReadyH.nil)
      rw [if_pos (by rfl)]
      go_wp2_with fail
      refine (works7_any _).mono ?_
      rintro e wb9 ⟨rfl, hb⟩
      have H109 := Lib.hid (H108.out.next hb)
      have hS9 : World.rangeAt wb9 w.heap.size 0 s.cs ∧ World.rangeAt wb9 (w.heap.size + 1) 0 t.cs ∧ World.rangeAt wb9 bR 0 (rcs s.p) := ⟨H109.out.y.seg, H109.out.y.oth, H109.out.ref⟩
      clear hb H108
      clear hS
      refine hK.out _ _ (hS9) (fun hS => ?_)
      clear hK K
      have H9 := H109
      try simp only [Act.put, List.setIfInBounds_toArray, List.set_cons_zero, List.set_cons_succ]
      refine tk 35 115 (.bool true) rfl rfl (by kernel_rfl) (by kernel_rfl) (by kernel_rfl) (fun _ _ _ h => h) (Or.inl ⟨by rfl, fun w' h' => ?_⟩) hS ?_
      · go_simp
      try simp only [Act.put, List.setIfInBounds_toArray, List.set_cons_zero, List.set_cons_succ]
      refine tk 36 10 (.bool true) rfl rfl (by kernel_rfl) (by kernel_rfl) (by kernel_rfl) (fun _ _ _ h => h) (Or.inl ⟨by rfl, fun w' h' => ?_⟩) hS ?_
      · go_simp
      refine wpAnyH_done (by kernel_rfl) ?_ _
      go_wp2_with fail
      go_ret
      exact ⟨rfl, H9.out.y.below⟩
end Go.Proofs.Ytabdejoakecioaa

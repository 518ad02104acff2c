/-
  TransParses, walked: for a number, bytes and addresses that lie where the slices lead the call answers true.
-/
import Derived.Test.YtabdejoakecioaaTrRSound
import Derived.Test.YtabdejoakecioaaTrWorks
namespace Go.Proofs.Ytabdejoakecioaa
open Go.RowKit

theorem run_neqR (w : World) (s : Pl) : (binOp .neq 30 (.agg (rcs s).toArray) (.agg (rcs s).toArray)).run Try.prog w = .ok (.bool false) w := by
  rw [run_neq_struct]
  have t30 := Try.underlying30
  simp only [rcs]
  go_simp
theorem exec_neqR {ρ : Operand → Value} {o : Oper} {x y : Operand} {r : TypeId} {s : Pl} {w : World} (ho : o.op = .binOp .neq 30 x y r) (hx : ρ x = .agg (rcs s).toArray) (hy : ρ y = .agg (rcs s).toArray) : (execOp ρ o).run Try.prog w = .ok (.value (.bool false)) w := by
  unfold execOp
  simp only [ho, hx, hy, Sem.run_bind, run_eqGuard_agg (hm := Try.eqGuardType30), Result.andThen_ok, run_neqR w s, Sem.run_pure]
theorem Inc.other {w0 w : World} {base base' : Nat} {a a' : Option Addr} {n n' cap cap' : Nat} {xs : List Int} (h : Inc w0 base a n cap w) (ho : Own w0 base' a' n' cap' xs) (hl : ∀ k, blk a' = some k → blk a ≠ some k) : Own w base' a' n' cap' xs := by
  obtain ⟨_, _, hk⟩ := h
  exact ho.keep hk (fun b e e2 => hl b e e2)
theorem Inc.cell {w0 w : World} {base : Nat} {a : Option Addr} {n cap : Nat} (h : Inc w0 base a n cap w) {b j : Nat} {v : Value} (hc : w0.cell? ⟨b, j, none⟩ = some v) (hb : blk a ≠ some b) : w.cell? ⟨b, j, none⟩ = some v := by
  obtain ⟨_, _, hk⟩ := h
  rw [← hc]
  exact World.cell?_of_block (hk.block b (World.block_lt_of_cell? w0 ⟨b, j, none⟩ hc) hb)
theorem Inc.blw {w1 w2 wr : World} {a : Option Addr} {n c : Nat} {xs : List Int} (ho : Own w2 w1.heap.size a n c xs) (h2 : Below w1.heap.size w1 w2) (hi : Inc w2 w1.heap.size a n c wr) : Below w1.heap.size w1 wr := by
  obtain ⟨_, _, hkp⟩ := hi
  exact h2.trans (hkp.below h2.size (fun i e => (ho.blk_ge i e).1))
/-- What lies in memory between the rounds. -/
structure TP (w : World) (b : Nat) (T : Pl) (r r1 r2 : Row) (w' : World) : Prop where
  below : Below w.heap.size w w'
  seg : w'.rangeAt b 0 (rcs T)
  lt : b < w'.heap.size
  r : r.ok w'
  r1 : r1.ok w'
  r2 : r2.ok w'
theorem TP.next {w w1 w2 : World} {b : Nat} {T : Pl} {r r1 r2 : Row} (h : TP w b T r r1 r2 w1) (hb : Below w1.heap.size w1 w2) : TP w b T r r1 r2 w2 :=
  ⟨h.below.trans (hb.mono h.below.size), range_kept hb h.seg, Nat.lt_of_lt_of_le h.lt hb.size, h.r.below hb, h.r1.below hb, h.r2.below hb⟩
theorem TP.start (w w1 : World) (T : Pl) (r r1 r2 : Row) (h : Below w.heap.size w w1) (k : r.ok w) (k1 : r1.ok w) (k2 : r2.ok w) : TP w w1.heap.size T r r1 r2 ((w1.alloc (.cells rc0.toArray 30)).setCells w1.heap.size 0 (rcs T)) := by
  obtain ⟨h1, h2, _⟩ := put_new w1 (rcs T) rc0 30 rfl
  have hsz : ((w1.alloc (.cells rc0.toArray 30)).setCells w1.heap.size 0 (rcs T)).heap.size = w1.heap.size + 1 := by rw [size_setCells]; simp
  exact ⟨h.trans (h1.mono h.size), h2, by omega, (k.below h).below h1, (k1.below h).below h1, (k2.below h).below h1⟩
theorem c11_of {w : World} {b : Nat} {s : Sg} (h : w.rangeAt b 0 s.cs) : w.cell? ⟨b, 11, none⟩ = some (.slice s.da s.dn s.dc) := range_cell h s.c11

set_option maxRecDepth 100000 in
set_option maxHeartbeats 8000000 in
theorem parses7_any (p : Int) (a : Option Addr) (n c : Nat) (xs : List Int) (sa : Option Addr) (sn sc : Nat) (src : List Int) (da : Option Addr) (dn dc : Nat) (dst : List Int) (w : World) (p0 : 0 ≤ p) (p1 : p < 256) (hx : Row.ok w ⟨a, n, c, xs⟩) (hs : Row.ok w ⟨sa, sn, sc, src⟩) (hd : Row.ok w ⟨da, dn, dc, dst⟩) :
    Calls Try.prog 4 #[.int .u8 p, .slice a n c, .slice sa sn sc, .slice da dn dc] w (Gives w (.bool true)) := by
  have hxl : xs.length = n := hx.len
  have HXL := Lib.hid hxl
  have HR := Lib.hid (And.intro hx (And.intro hs hd))
  have HP := Lib.hid (And.intro p0 p1)
  clear p0 p1 hs hd
  by_cases q1 : 400 < n
  · have q1' : (400 : Int) < (n : Int) := by omega
    clear hx hxl
    go_enter Try.func4, Try.ntmps4
    go_wp2_with fail
    refine (works7_any _).mono ?_
    rintro e wk ⟨rfl, hbk⟩
    have HBK := Lib.hid hbk
    clear hbk
    go_wp2_with fail
    go_ret
    exact ⟨rfl, HBK.out⟩
  have q1' : ¬ (400 : Int) < (n : Int) := by omega
  by_cases q2 : 40 < sn
  · have q2' : (40 : Int) < (sn : Int) := by omega
    clear hx hxl
    go_enter Try.func4, Try.ntmps4
    go_wp2_with fail
    refine (works7_any _).mono ?_
    rintro e wk ⟨rfl, hbk⟩
    have HBK := Lib.hid hbk
    clear hbk
    go_wp2_with fail
    go_ret
    exact ⟨rfl, HBK.out⟩
  have q2' : ¬ (40 : Int) < (sn : Int) := by omega
  by_cases q3 : 40 < dn
  · have q3' : (40 : Int) < (dn : Int) := by omega
    clear hx hxl
    go_enter Try.func4, Try.ntmps4
    go_wp2_with fail
    refine (works7_any _).mono ?_
    rintro e wk ⟨rfl, hbk⟩
    have HBK := Lib.hid hbk
    clear hbk
    go_wp2_with fail
    go_ret
    exact ⟨rfl, HBK.out⟩
  have q3' : ¬ (40 : Int) < (dn : Int) := by omega
  have HN : Hid (n ≤ 400) := by show _ ≤ _; omega
  have hst := run_string_rd w c hxl hx.rd hx.byt
  have hst' : (convert 24 9 (.slice a n c)).run Try.prog w = .ok (.string (str xs)) w := hst
  obtain ⟨u, hu⟩ : ∃ x, str xs = x := ⟨_, rfl⟩
  have HU := Lib.hid hu
  rw [hu] at hst'
  obtain ⟨T, hT⟩ : ∃ x, prP p xs = x := ⟨_, rfl⟩
  have HT := Lib.hid hT
  obtain ⟨E, hE⟩ : ∃ x, prE p xs = x := ⟨_, rfl⟩
  have HE := Lib.hid hE
  obtain ⟨tc, htc⟩ : ∃ x, (rcs T).toArray = x := ⟨_, rfl⟩
  have HTC := Lib.hid htc
  have HTH : Hid (∀ w1 : World, (w1.alloc (.cells rc0.toArray 30)).there w1.heap.size 0 12) := fun w1 => there_new _ _ _ _ rfl _ rfl
  have HTS : Hid (∀ w1 : World, (w1.alloc (.cells sg0.cs.toArray 26)).there w1.heap.size 0 12) := fun w1 => there_new _ _ _ _ rfl _ rfl
  clear q1 q2 q3 hx hxl hst hu hT hE htc
  go_enter Try.func4, Try.ntmps4
  go_upto_region 4 with fail
  clear q1' q2' q3' hst'
  go_wp2_with fail
  rw [← HU.out]
  refine (r7Parse_any p xs _ HR.out.1.byt (by rw [HXL.out]; have := HN.out; omega)).mono ?_
  rintro e w1 ⟨rfl, hb1⟩
  rw [HT.out, HE.out, HTC.out, HU.out]
  have HS1 := Lib.hid (TP.start w w1 T ⟨a, n, c, xs⟩ ⟨sa, sn, sc, src⟩ ⟨da, dn, dc, dst⟩ hb1 HR.out.1 HR.out.2.1 HR.out.2.2)
  clear hb1
  go_upto_region 5 with (refine stN (fun w' => Hid (TP w w1.heap.size T ⟨a, n, c, xs⟩ ⟨sa, sn, sc, src⟩ ⟨da, dn, dc, dst⟩ w')) 30 (.tmp 10) (.tmp 37) rfl rfl w1.heap.size 0 (rcs T) rfl (by rw [HTC.out]; rfl) (HTH.out w1) infR (rcs_one _) HS1 ?_; intro w2 H2)
  clear HS1
  obtain ⟨bR, hbR⟩ : ∃ x, w1.heap.size = x := ⟨_, rfl⟩
  rw [hbR] at H2 ⊢
  clear hbR
  go_wp2_with fail
  go_loopw [12] (fun i wr => ∃ t : Nat, t ≤ 2 ∧ i = .int .i64 t ∧ Hid (TP w bR T ⟨a, n, c, xs⟩ ⟨sa, sn, sc, src⟩ ⟨da, dn, dc, dst⟩ wr)) (fun i _ => 2 - (intOf i).toNat)
  case atStart => exact ⟨0, by omega, rfl, H2⟩
  case round =>
    obtain ⟨t, ht, rfl, hv⟩ := hrel
    rename World => wt
    clear H2
    by_cases hlt : t < 2
    · go_wp2_with fail
      refine (tParse_any p a n c xs _ hv.out.r (by have := HN.out; omega)).mono ?_
      rintro e w3 ⟨⟨s3, rfl, hp3, ho3, hd3, hap⟩, hb3⟩
      rw [HE.out]
      rw [HT.out] at hp3
      have hf3 : s3.p.fit := by rw [hp3, ← HT.out]; exact prP_fit HR.out.1.byt HP.out.1 HP.out.2
      have hk3 : s3.ok w3 := ⟨hf3, ⟨ho3.len, ho3.le.1, ho3.le.2, ho3.rd, hf3.op⟩, ⟨hd3.len, hd3.le.1, hd3.le.2, hd3.rd, hf3.dt⟩⟩
      obtain ⟨hs1, hs2, hs3⟩ := seg_stored wt w3 s3 hb3
      have HS3 : Hid (Below wt.heap.size wt ((w3.alloc (.cells sg0.cs.toArray 26)).setCells w3.heap.size 0 s3.cs) ∧ ((w3.alloc (.cells sg0.cs.toArray 26)).setCells w3.heap.size 0 s3.cs).rangeAt w3.heap.size 0 s3.cs ∧ s3.ok ((w3.alloc (.cells sg0.cs.toArray 26)).setCells w3.heap.size 0 s3.cs) ∧ Own ((w3.alloc (.cells sg0.cs.toArray 26)).setCells w3.heap.size 0 s3.cs) wt.heap.size s3.oa s3.on s3.oc s3.p.op ∧ Own ((w3.alloc (.cells sg0.cs.toArray 26)).setCells w3.heap.size 0 s3.cs) wt.heap.size s3.da s3.dn s3.dc s3.p.dt) :=
        ⟨hs1, hs3, hk3.below hs2, ho3.below hs2, hd3.below hs2⟩
      have HNB : Hid (∀ k, (blk s3.oa = some k ∨ blk s3.da = some k) → k < w3.heap.size) := fun k h => by
        rcases h with h | h
        · exact (ho3.blk_ge k h).2
        · exact (hd3.blk_ge k h).2
      have HAPT := Lib.hid hap
      have HPT := Lib.hid hp3
      clear hp3 ho3 hd3 hap hb3 hf3 hk3 hs1 hs2 hs3
      obtain ⟨g3, hg3⟩ : ∃ x, s3.cs.toArray = x := ⟨_, rfl⟩
      have HG3 := Lib.hid hg3
      rw [hg3]
      clear hg3
      go_upto_region 9 with (refine stN (fun w' => Hid (Below wt.heap.size wt w' ∧ w'.rangeAt w3.heap.size 0 s3.cs ∧ s3.ok w' ∧ Own w' wt.heap.size s3.oa s3.on s3.oc s3.p.op ∧ Own w' wt.heap.size s3.da s3.dn s3.dc s3.p.dt)) 26 (.tmp 13) (.tmp 47) rfl rfl w3.heap.size 0 s3.cs rfl (by rw [HG3.out]; rfl) (HTS.out w3) infS (Sg.one _) HS3 ?_; intro w4 H4)
      clear HS3
      obtain ⟨b3, hb3⟩ : ∃ x, w3.heap.size = x := ⟨_, rfl⟩
      rw [hb3] at H4 HNB ⊢
      clear hb3
      have hSR : World.rangeAt w4 b3 0 s3.cs ∧ World.rangeAt w4 bR 0 (rcs T) := ⟨H4.out.2.1, range_kept H4.out.1 hv.out.seg⟩
      have hee : (E != E) = false := by simp
      go_wp2_with fail
      refine wp_region_held_drew (S := fun w' => World.rangeAt w' b3 0 s3.cs ∧ World.rangeAt w' bR 0 (rcs T)) (by kernel_rfl) hSR (fun hS => ?_)
      refine tk 0 49 (.int .i64 E) rfl rfl (by kernel_rfl) (by kernel_rfl) (by kernel_rfl) (fun _ _ _ h => h) (Or.inl ⟨by rfl, fun w' h' => ?_⟩) hS ?_
      · go_simp
      try simp only [Act.put, List.setIfInBounds_toArray, List.set_cons_zero, List.set_cons_succ]
      refine tk 1 50 (.int .i64 E) rfl rfl (by kernel_rfl) (by kernel_rfl) (by kernel_rfl) (fun _ _ _ h => h) (Or.inl ⟨by rfl, fun w' h' => ?_⟩) hS ?_
      · go_simp
      try simp only [Act.put, List.setIfInBounds_toArray, List.set_cons_zero, List.set_cons_succ]
      refine tk 2 51 (.bool false) rfl rfl (by kernel_rfl) (by kernel_rfl) (by kernel_rfl) (fun _ _ _ h => h) (Or.inl ⟨by rfl, fun w' h' => ?_⟩) hS ?_
      · have hq := hee
        go_simp
      try simp only [Act.put, List.setIfInBounds_toArray, List.set_cons_zero, List.set_cons_succ]
      refine tk 3 52 (.bool false) rfl rfl (by kernel_rfl) (by kernel_rfl) (by kernel_rfl) (fun _ _ _ h => h) (Or.inl ⟨by rfl, fun w' h' => ?_⟩) hS ?_
      · go_simp
      try simp only [Act.put, List.setIfInBounds_toArray, List.set_cons_zero, List.set_cons_succ]
      refine tk 4 53 (.agg (s3.cs).toArray) rfl rfl (by kernel_rfl) (by kernel_rfl) (by kernel_rfl) (fun _ _ _ h => h) (yieldsIf_load_mid (by rfl) _ _ rfl (b3) (0) rfl (s3.cs) _ (fun w' h' => h'.1) Try.underlying26 rfl (infS)) hS ?_
      try simp only [Act.put, List.setIfInBounds_toArray, List.set_cons_zero, List.set_cons_succ]
      refine tk 6 55 (.agg (rcs T).toArray) rfl rfl (by kernel_rfl) (by kernel_rfl) (by kernel_rfl) (fun _ _ _ h => h) (yieldsIf_load_mid (by rfl) _ _ rfl (bR) (0) rfl (rcs T) _ (fun w' h' => h'.2) Try.underlying30 rfl (infR)) hS ?_
      try simp only [Act.put, List.setIfInBounds_toArray, List.set_cons_zero, List.set_cons_succ]
      refine wpAnyH_ready (rs := [5]) (by kernel_rfl) (by simp) (AllReadyH.cons rfl (fun K hK => ?_) AllReadyH.nil)
      rw [if_pos (by rfl)]
      go_wp2_with fail
      refine (d7Trans_any s3 _ (H4.out.2.2.1.below (Below.refl _ _).drew)).mono ?_
      rintro e w5 ⟨rfl, hb5⟩
      rw [HPT.out]
      have hb5' := undrew hb5
      have hS5 : World.rangeAt w5 b3 0 s3.cs ∧ World.rangeAt w5 bR 0 (rcs T) := ⟨range_kept hb5' hSR.1, range_kept hb5' hSR.2⟩
      have H5 : Hid (Below wt.heap.size wt w5 ∧ w5.rangeAt b3 0 s3.cs ∧ s3.ok w5 ∧ Own w5 wt.heap.size s3.oa s3.on s3.oc s3.p.op ∧ Own w5 wt.heap.size s3.da s3.dn s3.dc s3.p.dt) := ⟨H4.out.1.trans (hb5'.mono H4.out.1.size), hS5.1, H4.out.2.2.1.below hb5', H4.out.2.2.2.1.below hb5', H4.out.2.2.2.2.below hb5'⟩
      clear hb5 hb5' H4
      clear hS
      refine hK.out _ _ (hS5) (fun hS => ?_)
      clear hK K
      try simp only [Act.put, List.setIfInBounds_toArray, List.set_cons_zero, List.set_cons_succ]
      refine tk 7 56 (.bool false) rfl rfl (by kernel_rfl) (by kernel_rfl) (by kernel_rfl) (fun _ _ _ h => h) (Or.inl ⟨by rfl, fun w' h' => ?_⟩) hS ?_
      · exact exec_neqR rfl rfl rfl
      try simp only [Act.put, List.setIfInBounds_toArray, List.set_cons_zero, List.set_cons_succ]
      refine tk 8 57 (.bool false) rfl rfl (by kernel_rfl) (by kernel_rfl) (by kernel_rfl) (fun _ _ _ h => h) (Or.inl ⟨by rfl, fun w' h' => ?_⟩) hS ?_
      · go_simp
      refine wpAnyH_done (by kernel_rfl) ?_ _
      clear hS hSR hS5
      have HJ0 : Hid (Inc w5 wt.heap.size s3.da s3.dn s3.dc w5) := Inc.start H5.out.2.2.2.2
      have C11 : Hid (w5.cell? ⟨b3, 11, none⟩ = some (.slice s3.da s3.dn s3.dc)) := c11_of H5.out.2.1
      have C8 : Hid (w5.cell? ⟨b3, 8, none⟩ = some (.slice s3.oa s3.on s3.oc)) := range_cell H5.out.2.1 s3.c8
      have HOD : Hid (Own w5 wt.heap.size s3.da s3.dn s3.dc s3.p.dt) := H5.out.2.2.2.2
      have HOO : Hid (Own w5 wt.heap.size s3.oa s3.on s3.oc s3.p.op) := H5.out.2.2.2.1
      have HBT : Hid (Below wt.heap.size wt w5) := H5.out.1
      have HNO : Hid (blk s3.oa ≠ some b3 ∧ blk s3.da ≠ some b3) := ⟨fun e => by have := HNB.out b3 (.inl e); omega, fun e => by have := HNB.out b3 (.inr e); omega⟩
      obtain ⟨dA, hdA⟩ : ∃ x, s3.da = x := ⟨_, rfl⟩
      obtain ⟨dN, hdN⟩ : ∃ x, s3.dn = x := ⟨_, rfl⟩
      obtain ⟨dC, hdC⟩ : ∃ x, s3.dc = x := ⟨_, rfl⟩
      obtain ⟨oA, hoA⟩ : ∃ x, s3.oa = x := ⟨_, rfl⟩
      obtain ⟨oN, hoN⟩ : ∃ x, s3.on = x := ⟨_, rfl⟩
      obtain ⟨oC, hoC⟩ : ∃ x, s3.oc = x := ⟨_, rfl⟩
      rw [hdA, hdN, hdC] at HJ0 C11 HOD
      rw [hoA, hoN, hoC] at C8 HOO
      rw [hdA, hoA] at HNO HAPT
      clear hdA hdN hdC hoA hoN hoC H5 HNB HPT hee HG3
      go_wp2_with fail
      go_loopw [15] (fun i wr => ∃ q : Nat, q ≤ dN ∧ i = .int .i64 q ∧ Hid (Inc w5 wt.heap.size dA dN dC wr)) (fun i _ => dN - (intOf i).toNat)
      case atStart => exact ⟨0, Nat.zero_le _, rfl, HJ0⟩
      case round =>
        obtain ⟨q, hq, rfl, hin⟩ := hrel
        rename World => wi
        clear HJ0
        have hcell := hin.out.cell C11.out HNO.out.2
        by_cases hlq : q < dN
        · obtain ⟨gd, zz, rfl, hzz, hf, hnext⟩ := hin.out.at_ hlq
          have HX := Lib.hid hnext
          clear hnext
          have hmc : dN ≤ dC := HOD.out.le.1
          have hmx : dC ≤ 9223372036854775807 := HOD.out.le.2
          go_wp2_with fail
          go_roundw
          case rel => exact ⟨q + 1, by omega, by go_num, HX.out _⟩
          case measure => simp [intOf]; omega
        · have HBI : Hid (Below wt.heap.size wt wi) := Inc.blw HOD.out HBT.out hin.out
          have HOI : Hid (Own wi wt.heap.size oA oN oC s3.p.op) := hin.out.other HOO.out (fun k e => HAPT.out k e)
          have C8I : Hid (wi.cell? ⟨b3, 8, none⟩ = some (.slice oA oN oC)) := hin.out.cell C8.out HNO.out.2
          have HJ1 : Hid (Inc wi wt.heap.size oA oN oC wi) := Inc.start HOI.out
          go_wp2_with fail
          clear hin hcell
          go_loopw [16] (fun i wr => ∃ q : Nat, q ≤ oN ∧ i = .int .i64 q ∧ Hid (Inc wi wt.heap.size oA oN oC wr)) (fun i _ => oN - (intOf i).toNat)
          case atStart => exact ⟨0, Nat.zero_le _, rfl, HJ1⟩
          case round =>
            obtain ⟨q6, hq6, rfl, hin⟩ := hrel
            rename World => wj
            clear HJ1
            have hcell := hin.out.cell C8I.out HNO.out.1
            by_cases hlq6 : q6 < oN
            · obtain ⟨gd, zz, rfl, hzz, hf, hnext⟩ := hin.out.at_ hlq6
              have HX := Lib.hid hnext
              clear hnext
              have hmc : oN ≤ oC := HOI.out.le.1
              have hmx : oC ≤ 9223372036854775807 := HOI.out.le.2
              go_wp2_with fail
              go_roundw
              case rel => exact ⟨q6 + 1, by omega, by go_num, HX.out _⟩
              case measure => simp [intOf]; omega
            · have HTJ : Hid (TP w bR T ⟨a, n, c, xs⟩ ⟨sa, sn, sc, src⟩ ⟨da, dn, dc, dst⟩ wj) := hv.out.next (Inc.blw HOI.out HBI.out hin.out)
              go_wp2_with fail
              clear hin hcell
              go_roundw
              case rel => exact ⟨t + 1, by omega, by go_num, HTJ⟩
              case measure => simp [intOf]; omega
    · have ht2 : t = 2 := by omega
      subst ht2
      clear hlt ht
      have HV := Lib.hid hv.out
      clear hv
      go_wp2_with fail
      have HSTX : Hid (∀ w', Row.ok w' ⟨a, n, c, xs⟩ → (convert 24 9 (.slice a n c)).run Try.prog w' = .ok (.string u) w') := fun w' h => by rw [← HU.out]; exact run_string_rd w' c h.len h.rd h.byt
      have HSTS : Hid (∀ w', Row.ok w' ⟨sa, sn, sc, src⟩ → (convert 24 9 (.slice sa sn sc)).run Try.prog w' = .ok (.string (str src)) w') := fun w' h => run_string_rd w' sc h.len h.rd h.byt
      have HSTD : Hid (∀ w', Row.ok w' ⟨da, dn, dc, dst⟩ → (convert 24 9 (.slice da dn dc)).run Try.prog w' = .ok (.string (str dst)) w') := fun w' h => run_string_rd w' dc h.len h.rd h.byt
      have hdr : Below wt.heap.size wt wt.drew := (Below.refl _ _).drew
      have hSV : Row.ok wt.drew ⟨a, n, c, xs⟩ ∧ Row.ok wt.drew ⟨sa, sn, sc, src⟩ ∧ Row.ok wt.drew ⟨da, dn, dc, dst⟩ := ⟨HV.out.r.below hdr, HV.out.r1.below hdr, HV.out.r2.below hdr⟩
      refine wp_region_held_drew (S := fun w' => Row.ok w' ⟨a, n, c, xs⟩ ∧ Row.ok w' ⟨sa, sn, sc, src⟩ ∧ Row.ok w' ⟨da, dn, dc, dst⟩) (by kernel_rfl) hSV (fun hS => ?_)
      refine tk 0 86 (.int .u8 p) rfl rfl (by kernel_rfl) (by kernel_rfl) (by kernel_rfl) (fun _ _ _ h => h) (Or.inl ⟨by rfl, fun w' h' => ?_⟩) hS ?_
      · go_simp
      try simp only [Act.put, List.setIfInBounds_toArray, List.set_cons_zero, List.set_cons_succ]
      refine tk 1 87 (.slice a n c) rfl rfl (by kernel_rfl) (by kernel_rfl) (by kernel_rfl) (fun _ _ _ h => h) (Or.inl ⟨by rfl, fun w' h' => ?_⟩) hS ?_
      · go_simp
      try simp only [Act.put, List.setIfInBounds_toArray, List.set_cons_zero, List.set_cons_succ]
      refine tk 2 88 (.slice sa sn sc) rfl rfl (by kernel_rfl) (by kernel_rfl) (by kernel_rfl) (fun _ _ _ h => h) (Or.inl ⟨by rfl, fun w' h' => ?_⟩) hS ?_
      · go_simp
      try simp only [Act.put, List.setIfInBounds_toArray, List.set_cons_zero, List.set_cons_succ]
      refine tk 3 89 (.slice da dn dc) rfl rfl (by kernel_rfl) (by kernel_rfl) (by kernel_rfl) (fun _ _ _ h => h) (Or.inl ⟨by rfl, fun w' h' => ?_⟩) hS ?_
      · go_simp
      try simp only [Act.put, List.setIfInBounds_toArray, List.set_cons_zero, List.set_cons_succ]
      refine tk 5 91 (.int .u8 p) rfl rfl (by kernel_rfl) (by kernel_rfl) (by kernel_rfl) (fun _ _ _ h => h) (Or.inl ⟨by rfl, fun w' h' => ?_⟩) hS ?_
      · go_simp
      try simp only [Act.put, List.setIfInBounds_toArray, List.set_cons_zero, List.set_cons_succ]
      refine tk 6 92 (.string u) rfl rfl (by kernel_rfl) (by kernel_rfl) (by kernel_rfl) (fun _ _ _ h => h) (Or.inl ⟨by rfl, fun w' h' => ?_⟩) hS ?_
      · go_simp
      try simp only [Act.put, List.setIfInBounds_toArray, List.set_cons_zero, List.set_cons_succ]
      refine tk 7 93 (.slice sa sn sc) rfl rfl (by kernel_rfl) (by kernel_rfl) (by kernel_rfl) (fun _ _ _ h => h) (Or.inl ⟨by rfl, fun w' h' => ?_⟩) hS ?_
      · go_simp
      try simp only [Act.put, List.setIfInBounds_toArray, List.set_cons_zero, List.set_cons_succ]
      refine tk 8 94 (.string (str src)) rfl rfl (by kernel_rfl) (by kernel_rfl) (by kernel_rfl) (fun _ _ _ h => h) (Or.inl ⟨by rfl, fun w' h' => ?_⟩) hS ?_
      · have hc := HSTS.out _ h'.2.1
        go_simp
      try simp only [Act.put, List.setIfInBounds_toArray, List.set_cons_zero, List.set_cons_succ]
      refine tk 9 95 (.slice da dn dc) rfl rfl (by kernel_rfl) (by kernel_rfl) (by kernel_rfl) (fun _ _ _ h => h) (Or.inl ⟨by rfl, fun w' h' => ?_⟩) hS ?_
      · go_simp
      try simp only [Act.put, List.setIfInBounds_toArray, List.set_cons_zero, List.set_cons_succ]
      refine tk 10 96 (.string (str dst)) rfl rfl (by kernel_rfl) (by kernel_rfl) (by kernel_rfl) (fun _ _ _ h => h) (Or.inl ⟨by rfl, fun w' h' => ?_⟩) hS ?_
      · have hc := HSTD.out _ h'.2.2
        go_simp
      try simp only [Act.put, List.setIfInBounds_toArray, List.set_cons_zero, List.set_cons_succ]
      refine wpAnyH_ready (rs := [4]) (by kernel_rfl) (by simp) (AllReadyH.cons rfl (fun K hK => ?_) AllReadyH.nil)
      rw [if_pos (by rfl)]
      go_wp2_with fail
      refine (tSound_any p a sa da n c sn sc dn dc xs src dst _ hSV.1 hSV.2.1 hSV.2.2 (by have := HN.out; omega)).mono ?_
      rintro e wa ⟨rfl, hba⟩
      have hba' := undrew hba
      have hSA : Row.ok wa ⟨a, n, c, xs⟩ ∧ Row.ok wa ⟨sa, sn, sc, src⟩ ∧ Row.ok wa ⟨da, dn, dc, dst⟩ := ⟨hSV.1.below hba, hSV.2.1.below hba, hSV.2.2.below hba⟩
      have HBA := Lib.hid (HV.out.below.trans (hba'.mono HV.out.below.size))
      obtain ⟨Q, hQ⟩ : ∃ x, snd p xs src dst = x := ⟨_, rfl⟩
      have HQ := Lib.hid hQ
      rw [hQ]
      clear hba hba' hQ
      clear hS
      refine hK.out _ _ (hSA) (fun hS => ?_)
      clear hK K
      try simp only [Act.put, List.setIfInBounds_toArray, List.set_cons_zero, List.set_cons_succ]
      refine wpAnyH_ready (rs := [11]) (by kernel_rfl) (by simp) (AllReadyH.cons rfl (fun K hK => ?_) AllReadyH.nil)
      rw [if_pos (by rfl)]
      go_wp2_with fail
      rw [← HU.out]
      refine (r7Sound_any p xs src dst _ HP.out.1 HP.out.2 HR.out.1.byt (by rw [HXL.out]; have := HN.out; omega) HR.out.2.1.byt HR.out.2.2.byt).mono ?_
      rintro e wb ⟨rfl, hbb⟩
      rw [HQ.out, HU.out]
      have hSB : Row.ok wb ⟨a, n, c, xs⟩ ∧ Row.ok wb ⟨sa, sn, sc, src⟩ ∧ Row.ok wb ⟨da, dn, dc, dst⟩ := ⟨hSA.1.below hbb, hSA.2.1.below hbb, hSA.2.2.below hbb⟩
      have HBB := Lib.hid (HBA.out.trans (hbb.mono HBA.out.size))
      have hqq : (Q == Q) = true := by simp
      clear hbb
      clear hS
      refine hK.out _ _ (hSB) (fun hS => ?_)
      clear hK K
      try simp only [Act.put, List.setIfInBounds_toArray, List.set_cons_zero, List.set_cons_succ]
      refine tk 12 98 (.bool true) rfl rfl (by kernel_rfl) (by kernel_rfl) (by kernel_rfl) (fun _ _ _ h => h) (Or.inl ⟨by rfl, fun w' h' => ?_⟩) hS ?_
      · have hq := hqq
        go_simp
      try simp only [Act.put, List.setIfInBounds_toArray, List.set_cons_zero, List.set_cons_succ]
      refine tk 13 99 (.bool true) rfl rfl (by kernel_rfl) (by kernel_rfl) (by kernel_rfl) (fun _ _ _ h => h) (Or.inl ⟨by rfl, fun w' h' => ?_⟩) hS ?_
      · go_simp
      try simp only [Act.put, List.setIfInBounds_toArray, List.set_cons_zero, List.set_cons_succ]
      refine tk 14 100 (.slice a n c) rfl rfl (by kernel_rfl) (by kernel_rfl) (by kernel_rfl) (fun _ _ _ h => h) (Or.inl ⟨by rfl, fun w' h' => ?_⟩) hS ?_
      · go_simp
      try simp only [Act.put, List.setIfInBounds_toArray, List.set_cons_zero, List.set_cons_succ]
      refine tk 15 101 (.string u) rfl rfl (by kernel_rfl) (by kernel_rfl) (by kernel_rfl) (fun _ _ _ h => h) (Or.inl ⟨by rfl, fun w' h' => ?_⟩) hS ?_
      · have hc := HSTX.out _ h'.1
        go_simp
      try simp only [Act.put, List.setIfInBounds_toArray, List.set_cons_zero, List.set_cons_succ]
      refine tk 16 102 (.string u) rfl rfl (by kernel_rfl) (by kernel_rfl) (by kernel_rfl) (fun _ _ _ h => h) (Or.inl ⟨by rfl, fun w' h' => ?_⟩) hS ?_
      · go_simp
      try simp only [Act.put, List.setIfInBounds_toArray, List.set_cons_zero, List.set_cons_succ]
      refine tk 17 103 (.bool true) rfl rfl (by kernel_rfl) (by kernel_rfl) (by kernel_rfl) (fun _ _ _ h => h) (Or.inl ⟨by rfl, fun w' h' => ?_⟩) hS ?_
      · go_simp
      try simp only [Act.put, List.setIfInBounds_toArray, List.set_cons_zero, List.set_cons_succ]
      refine tk 18 104 (.bool true) rfl rfl (by kernel_rfl) (by kernel_rfl) (by kernel_rfl) (fun _ _ _ h => h) (Or.inl ⟨by rfl, fun w' h' => ?_⟩) hS ?_
      · go_simp
      try simp only [Act.put, List.setIfInBounds_toArray, List.set_cons_zero, List.set_cons_succ]
      refine tk 19 105 (.bool true) rfl rfl (by kernel_rfl) (by kernel_rfl) (by kernel_rfl) (fun _ _ _ h => h) (Or.inl ⟨by rfl, fun w' h' => ?_⟩) hS ?_
      · go_simp
      try simp only [Act.put, List.setIfInBounds_toArray, List.set_cons_zero, List.set_cons_succ]
      refine wpAnyH_ready (rs := [20]) (by kernel_rfl) (by simp) (AllReadyH.cons rfl (fun K hK => ?_) AllReadyH.nil)
      rw [if_pos (by rfl)]
      go_wp2_with fail
      refine (works7_any _).mono ?_
      rintro e wc ⟨rfl, hbc⟩
      have hSC : Row.ok wc ⟨a, n, c, xs⟩ ∧ Row.ok wc ⟨sa, sn, sc, src⟩ ∧ Row.ok wc ⟨da, dn, dc, dst⟩ := ⟨hSB.1.below hbc, hSB.2.1.below hbc, hSB.2.2.below hbc⟩
      have HBE := Lib.hid (HBB.out.trans (hbc.mono HBB.out.size))
      clear hbc
      clear hS
      refine hK.out _ _ (hSC) (fun hS => ?_)
      clear hK K
      try simp only [Act.put, List.setIfInBounds_toArray, List.set_cons_zero, List.set_cons_succ]
      refine tk 21 107 (.bool true) rfl rfl (by kernel_rfl) (by kernel_rfl) (by kernel_rfl) (fun _ _ _ h => h) (Or.inl ⟨by rfl, fun w' h' => ?_⟩) hS ?_
      · go_simp
      try simp only [Act.put, List.setIfInBounds_toArray, List.set_cons_zero, List.set_cons_succ]
      refine tk 22 8 (.bool true) rfl rfl (by kernel_rfl) (by kernel_rfl) (by kernel_rfl) (fun _ _ _ h => h) (Or.inl ⟨by rfl, fun w' h' => ?_⟩) hS ?_
      · go_simp
      refine wpAnyH_done (by kernel_rfl) ?_ _
      go_wp2_with fail
      go_ret
      exact ⟨rfl, HBE.out⟩
end Go.Proofs.Ytabdejoakecioaa

/-
  The contract of the document's own stands for layer 5. Conditions: a header whose numbers fit their Go types, at most 100 bytes of options, a checksum of a word.
-/
import Derived.Test.YtjnbnjdajkhkpaaIpStand
import Derived.Test.YtjnbnjdajkhkpaaRefRows
namespace Go.Proofs.Ytjnbnjdajkhkpaa
open Go.RowKit

/-- A row of the call's own since w1; all that was there is as it was. -/
structure RS (w1 : World) (a : Option Addr) (n cap : Nat) (xs : List Int) (w : World) : Prop where
  own : Own w w1.heap.size a n cap xs
  below : Below w1.heap.size w1 w
theorem RS.step {w1 w w' : World} {a : Option Addr} {n cap : Nat} {xs : List Int} (h : RS w1 a n cap xs w) (hb : Below w.heap.size w w') : RS w1 a n cap xs w' := ⟨h.own.below3 hb, h.below.trans (hb.mono h.below.size)⟩
theorem RS.next {w1 w w' : World} {a b : Option Addr} {n cap m c : Nat} {xs ys : List Int} (h : RS w1 a n cap xs w) (hb : Below w.heap.size w w') (ho : Own w' w.heap.size b m c ys) : RS w1 b m c ys w' := ⟨ho.mono h.below.size, h.below.trans (hb.mono h.below.size)⟩
theorem RS.append {w1 w : World} {a : Option Addr} {n cap : Nat} {xs ys : List Int} (h : RS w1 a n cap xs w) (hn : xs.length ≤ 1000) (hm : ys.length ≤ 10) (hr : Rd (w.alloc (.cells (bv ys).toArray 5)) (some ⟨w.heap.size, 0, none⟩) ys) :
    ∃ a' n' cap' w', (Builtin.append_ #[24, 24] 24 #[.slice a n cap, .slice (some ⟨w.heap.size, 0, none⟩) ys.length ys.length]).run Try.prog (w.alloc (.cells (bv ys).toArray 5)) = .ok (.slice a' n' cap') w' ∧ RS w1 a' n' cap' (xs ++ ys) w' := by
  have hl := h.own.len
  obtain ⟨a', cap', w', hrun, hown, hg, _⟩ := run_append_rd (w.alloc (.cells (bv ys).toArray 5)) w1.heap.size 24 (h.own.keep (S := fun _ => False) (Kept.alloc _ _ _) (fun _ _ => id)) ys.length rfl hr (by omega) (by have := h.below.size; simp; omega)
  exact ⟨a', n + ys.length, cap', w', hrun, hown, (h.below.alloc h.below.size _).grown hg (by have := h.below.size; simp; omega) (fun k hk => (h.own.blk_ge k hk).1)⟩
theorem RS.drw {w1 w : World} {a : Option Addr} {n cap : Nat} {xs : List Int} (h : RS w1 a n cap xs w) : RS w1 a n cap xs w.drew := ⟨h.own, ⟨h.below.os, h.below.tape, h.below.output, h.below.size, h.below.block⟩⟩

set_option maxRecDepth 100000 in
set_option maxHeartbeats 2000000 in
theorem r5stands_any (h : Hd) (c : Int) (w w0 : World) (k : h.ok w0) (hf : h.frag ≤ 8191) (hn : h.n ≤ 100) (c0' : 0 ≤ c) (c1' : c ≤ 65535) (hm4 : h.n % 4 = 0) :
    Calls Try.prog 27 #[.agg (rhc h).toArray, .int .u16 c] w (Made w (hby h c)) := by
  obtain ⟨q, hqe⟩ : ∃ q : Int, 5 + ((h.n / 4 : Nat) : Int) = q := ⟨_, rfl⟩
  have hq0 : 0 ≤ q := by omega
  have hq1 : q ≤ 30 := by omega
  obtain ⟨wA, hwA⟩ : ∃ x, w.alloc (.cells (rhc h).toArray 29) = x := ⟨_, rfl⟩
  have HBA : Hid (Below w.heap.size w wA) := by show Below _ _ _; rw [← hwA]; exact (Below.refl _ _).alloc (Nat.le_refl _) _
  have hr : wA.rangeAt w.heap.size 0 (rhc h) := by rw [← hwA]; exact rh_range w h _
  have hz : (str h.op).size = h.n := by rw [str_size, k.row.len]
  have fT := Lib.hid k.tos
  have fO := Lib.hid (fit2 (c := h.tot) k.tot.1 (by have := k.tot.2; omega))
  have fI := Lib.hid (fit2 (c := h.id) k.id.1 (by have := k.id.2; omega))
  have fL := Lib.hid k.ttl
  have fP := Lib.hid k.pro
  have fS := Lib.hid (fit1 (c := 64 + q) (by omega) (by omega))
  have fC := Lib.hid (fit2 (c := c) c0' (by omega))
  have hfr := @flw_range h.df h.mf h.frag k.frag.1 hf
  have fF := Lib.hid (fit2 (c := flw h.df h.mf h.frag) hfr.1 (by omega))
  have bO := Lib.hid (u64_wrap h.tot k.tot.1 (by have := k.tot.2; omega))
  have bI := Lib.hid (u64_wrap h.id k.id.1 (by have := k.id.2; omega))
  have bC := Lib.hid (u64_wrap c c0' (by omega))
  have HFR := Lib.hid (And.intro k.frag.1 hf)
  have c0 := Lib.hid (range_cell hr (rc0 h))
  have c1 := Lib.hid (range_cell hr (rc1 h))
  have c2 := Lib.hid (range_cell hr (rc2 h))
  have c3 := Lib.hid (range_cell hr (rc3 h))
  have c4 := Lib.hid (range_cell hr (rc4 h))
  have c5 := Lib.hid (range_cell hr (rc5 h))
  have c6 := Lib.hid (range_cell hr (rc6 h))
  have c7 := Lib.hid (range_cell hr (rc7 h))
  have c8 := Lib.hid (range_cell hr (rc8 h))
  have c9 := Lib.hid (range_cell hr (rc9 h))
  have c10 := Lib.hid (range_cell hr (rc10 h))
  have HLS := Lib.hid k.src
  have HLD := Lib.hid k.dst
  have HLO := Lib.hid k.row.len
  have HBT := Lib.hid ((k.srcb.append k.dstb).append k.row.byt)
  have HFIN : Hid (hby h c = ((((((be 1 (64 + q) ++ [h.tos]) ++ be 2 h.tot) ++ be 2 h.id) ++ be 2 (flw h.df h.mf h.frag)) ++ [h.ttl, h.pro]) ++ be 2 c) ++ ((h.src ++ h.dst) ++ h.op)) := by
    show _ = _
    have e1 : ∀ x : Int, 0 ≤ x ∧ x < 256 → be 1 x = [x] := fun x hx => by simp [be]; omega
    unfold hby
    rw [hqe, e1 h.tos k.tos, e1 h.ttl k.ttl, e1 h.pro k.pro]
    simp
  obtain ⟨n, hnn⟩ : ∃ n, h.n = n := ⟨_, rfl⟩
  have hq : (20 + (n : Int)) / 4 = q := by omega
  have cS := c10.out
  rw [hnn] at hz HLO hn
  have HN100 := Lib.hid hn
  clear k hqe hr hf hm4 hnn hfr c0' c1'
  obtain ⟨cs, hcs⟩ : ∃ cs, (rhc h).toArray = cs := ⟨_, rfl⟩
  rw [hcs] at hwA ⊢
  clear hcs
  obtain ⟨S, hS⟩ : ∃ x, str h.op = x := ⟨_, rfl⟩
  have HS := Lib.hid hS
  rw [hS] at hz cS
  clear hS
  go_enter Try.func27, Try.ntmps27
  go_wp2_with fail
  refine (refPut_any 1 _ _ (by omega) fS.out.1).mono ?_
  rintro e w1 ⟨a1, n1, p1, rfl, ho1, hb1⟩
  have HR1 : Hid (RS wA a1 n1 p1 (be 1 (64 + q)) w1) := ⟨ho1, hb1⟩
  clear ho1 hb1 hq0 hq1 hq cS hz hwA
  have hrl : Rd (w1.alloc (.cells (bv [h.tos]).toArray 5)) (some ⟨w1.heap.size, 0, none⟩) [h.tos] := (Own.lit w1 w1.heap.size [h.tos] 1 rfl (by simp only [maxLen]; omega) (Nat.le_refl _)).rd
  obtain ⟨a2, n2, p2, w2, hrun, hrs⟩ := HR1.out.append (by simp [be_length]) (by simp) hrl
  have hrun' : (Builtin.append_ #[24, 24] 24 #[.slice a1 n1 p1, .slice (some ⟨w1.heap.size, 0, none⟩) 1 1]).run Try.prog (w1.alloc (.cells #[.int .u8 h.tos] 5)) = .ok (.slice a2 n2 p2) w2 := hrun
  have HRUN := Lib.hid hrun'
  have HR2 := Lib.hid hrs
  have d0 := cell_kept HR1.out.below c0.out
  clear hrl hrun hrun' hrs
  have x0 := cell_kept HR2.out.below c1.out
  have b0 := bO.out
  go_wp2_with (at_builtin; refine Lib.wpList_append_run _ rfl _ _ _ _ rfl _ _ rfl rfl _ _ HRUN.out ?_)
  clear HRUN HR1 d0
  refine (refPut_any 2 _ _ (by omega) fO.out.1).mono ?_
  rintro e wp ⟨ap, np, pp, rfl, hop, hbp⟩
  have HRp := Lib.hid (HR2.out.step hbp)
  have HOp := Lib.hid hop
  clear hop hbp b0 x0 HR2
  go_wp2_with fail
  refine (join_any _ _ _ _ _ _ (be 1 (64 + q) ++ [h.tos]) (be 2 (h.tot)) _ HRp.out.own.len HOp.out.len HRp.out.own.rd HOp.out.rd (by have h1 := HRp.out.own.len; have h2 := HOp.out.len; simp [be_length] at h1 h2; omega)).mono ?_
  rintro e w3 ⟨a3, n3, p3, rfl, hoj, hbj⟩
  have HR3 := Lib.hid (HRp.out.next hbj hoj)
  clear hoj hbj HRp HOp
  have x0 := cell_kept HR3.out.below c2.out
  have b0 := bI.out
  go_wp2_with fail
  refine (refPut_any 2 _ _ (by omega) fI.out.1).mono ?_
  rintro e wp ⟨ap, np, pp, rfl, hop, hbp⟩
  have HRp := Lib.hid (HR3.out.step hbp)
  have HOp := Lib.hid hop
  clear hop hbp b0 x0 HR3
  go_wp2_with fail
  refine (join_any _ _ _ _ _ _ ((be 1 (64 + q) ++ [h.tos]) ++ be 2 (h.tot)) (be 2 (h.id)) _ HRp.out.own.len HOp.out.len HRp.out.own.rd HOp.out.rd (by have h1 := HRp.out.own.len; have h2 := HOp.out.len; simp [be_length] at h1 h2; omega)).mono ?_
  rintro e w4 ⟨a4, n4, p4, rfl, hoj, hbj⟩
  have HR4 := Lib.hid (HRp.out.next hbj hoj)
  clear hoj hbj HRp HOp
  obtain ⟨D1, hD1⟩ : ∃ x : Int, (if h.df then 16384 else 0) = x := ⟨_, rfl⟩
  obtain ⟨D2, hD2⟩ : ∃ x : Int, (if h.mf then 8192 else 0) = x := ⟨_, rfl⟩
  have hD1r : 0 ≤ D1 ∧ D1 ≤ 16384 := by rw [← hD1]; split <;> omega
  have hD2r : 0 ≤ D2 ∧ D2 ≤ 8192 := by rw [← hD2]; split <;> omega
  have HFL : Hid (flw h.df h.mf h.frag = D1 + D2 + h.frag) := by show _ = _; rw [flw, hD1, hD2]
  have HD1 := Lib.hid hD1
  have HD2 := Lib.hid hD2
  obtain ⟨fr, hfr⟩ : ∃ x, h.frag = x := ⟨_, rfl⟩
  have HFX := HFR.out
  rw [hfr] at HFX
  have w1e := u64_wrap (D1 + D2) (by omega) (by omega)
  have w2e := u64_wrap fr (by omega) (by omega)
  have w3e := u64_wrap (D1 + D2 + fr) (by omega) (by omega)
  have d3 := cell_kept HR4.out.below c3.out
  have d4 := cell_kept HR4.out.below c4.out
  have d5 := cell_kept HR4.out.below c5.out
  rw [hfr] at d5
  have hFF := fF.out.1
  rw [HFL.out, hfr] at hFF
  have HFF := Lib.hid hFF
  have HFRE := Lib.hid hfr
  have g3 := c3.out
  have g4 := c4.out
  have g5 := c5.out
  rw [hfr] at g5
  clear hD1 hD2 hfr hFF
  obtain ⟨df, hdf⟩ : ∃ x, h.df = x := ⟨_, rfl⟩
  obtain ⟨mf, hmf⟩ : ∃ x, h.mf = x := ⟨_, rfl⟩
  rw [hdf] at d3 g3 HD1
  rw [hmf] at d4 g4 HD2
  have C3 := Lib.hid g3
  have C4 := Lib.hid g4
  have C5 := Lib.hid g5
  clear g3 g4 g5 hdf hmf hD1r hD2r HFX
  go_wp2_with fail
  go_region_held3 (fun w' => w'.cell? ⟨w.heap.size, 3, none⟩ = some (.bool df) ∧ w'.cell? ⟨w.heap.size, 4, none⟩ = some (.bool mf) ∧ w'.cell? ⟨w.heap.size, 5, none⟩ = some (.int .u16 fr)) (go_keep)
    (first
      | ((go_at_call 47; (with_reducible refine (r5bit_any df 16384 _).mono ?_); rintro e wx ⟨rfl, rfl⟩; rw [HD1.out]))
      | ((go_at_call 47; (with_reducible refine (r5bit_any mf 8192 _).mono ?_); rintro e wx ⟨rfl, rfl⟩; rw [HD2.out]))
      | ((go_at_call 36; refine (refPut_any 2 _ _ (by omega) HFF.out).mono ?_; rintro e wp ⟨ap, np, pp, rfl, hop, hbp⟩; have HRp := Lib.hid (HR4.out.step (undrew hbp)); have HOp := Lib.hid hop; have e3 := cell_kept HRp.out.below C3.out; have e4 := cell_kept HRp.out.below C4.out; have e5 := cell_kept HRp.out.below C5.out; clear hop hbp))
      | ((go_at_call 16; (with_reducible refine (join_any _ _ _ _ _ _ (((be 1 (64 + q) ++ [h.tos]) ++ be 2 (h.tot)) ++ be 2 (h.id)) (be 2 (D1 + D2 + fr)) _ HRp.out.own.len HOp.out.len HRp.out.own.rd HOp.out.rd (by have h1 := HRp.out.own.len; have h2 := HOp.out.len; simp [be_length] at h1 h2; omega)).mono ?_); rintro e w5 ⟨a5, n5, p5, rfl, hoj, hbj⟩; have HR5 := Lib.hid (HRp.out.next hbj hoj); have e6 := cell_kept HR5.out.below C3.out; have e7 := cell_kept HR5.out.below C4.out; have e8 := cell_kept HR5.out.below C5.out; clear hoj hbj))
      | fail)
  clear d3 d4 d5 e3 e4 e5 e6 e7 e8 w1e w2e w3e HRp HOp HR4
  have d0 := cell_kept HR5.out.below c6.out
  have d1 := cell_kept HR5.out.below c7.out
  have hrl : Rd (w5.alloc (.cells (bv [h.ttl, h.pro]).toArray 5)) (some ⟨w5.heap.size, 0, none⟩) [h.ttl, h.pro] := (Own.lit w5 w5.heap.size [h.ttl, h.pro] 2 rfl (by simp only [maxLen]; omega) (Nat.le_refl _)).rd
  obtain ⟨a6, n6, p6, w6, hrun, hrs⟩ := HR5.out.append (by simp [be_length]) (by simp) hrl
  have hrun' : (Builtin.append_ #[24, 24] 24 #[.slice a5 n5 p5, .slice (some ⟨w5.heap.size, 0, none⟩) 2 2]).run Try.prog (w5.alloc (.cells #[.int .u8 h.ttl, .int .u8 h.pro] 5)) = .ok (.slice a6 n6 p6) w6 := hrun
  have HRUN := Lib.hid hrun'
  have HR6 := Lib.hid hrs
  have d0 := cell_kept HR5.out.below c6.out
  have d1 := cell_kept HR5.out.below c7.out
  clear hrl hrun hrun' hrs
  have b0 := bC.out
  go_wp2_with (at_builtin; refine Lib.wpList_append_run _ rfl _ _ _ _ rfl _ _ rfl rfl _ _ HRUN.out ?_)
  clear HRUN HR5 d0 d1
  refine (refPut_any 2 _ _ (by omega) fC.out.1).mono ?_
  rintro e wp ⟨ap, np, pp, rfl, hop, hbp⟩
  have HRp := Lib.hid (HR6.out.step hbp)
  have HOp := Lib.hid hop
  clear hop hbp b0 HR6
  go_wp2_with fail
  refine (join_any _ _ _ _ _ _ (((((be 1 (64 + q) ++ [h.tos]) ++ be 2 (h.tot)) ++ be 2 (h.id)) ++ be 2 (D1 + D2 + fr)) ++ [h.ttl, h.pro]) (be 2 (c)) _ HRp.out.own.len HOp.out.len HRp.out.own.rd HOp.out.rd (by have h1 := HRp.out.own.len; have h2 := HOp.out.len; simp [be_length] at h1 h2; omega)).mono ?_
  rintro e w7 ⟨a7, n7, p7, rfl, hoj, hbj⟩
  have HR7 := Lib.hid (HRp.out.next hbj hoj)
  clear hoj hbj HRp HOp
  have d8 := cell_kept HR7.out.below c8.out
  have d9 := cell_kept HR7.out.below c9.out
  have dX := cell_kept HR7.out.below c10.out
  have hs1 : ∀ w' : World, (Op.stringOp .add (str h.src) (str h.dst)).run Try.prog w' = .ok (.string (str (h.src ++ h.dst))) w' := fun w' => run_str_add w' _ _ (by have h1 := HLS.out; have h2 := HLD.out; omega)
  have hs2 : ∀ w' : World, (Op.stringOp .add (str (h.src ++ h.dst)) (str h.op)).run Try.prog w' = .ok (.string (str (h.src ++ h.dst ++ h.op))) w' := fun w' => run_str_add w' _ _ (by have h1 := HLS.out; have h2 := HLD.out; have h3 := HLO.out; have h4 := HN100.out; rw [List.length_append]; omega)
  obtain ⟨cx, wx, hcx, hrx, hbx⟩ := run_bytes_str w7 (h.src ++ h.dst ++ h.op) HBT.out
  have HRX := Lib.hid hrx
  have HRS := Lib.hid (HR7.out.step hbx)
  have HLX : Hid ((h.src ++ h.dst ++ h.op).length ≤ 200) := by have h1 := HLS.out; have h2 := HLD.out; have h3 := HLO.out; have h4 := HN100.out; show _ ≤ _; simp only [List.length_append]; omega
  obtain ⟨T1, hT1⟩ : ∃ x, str h.src = x := ⟨_, rfl⟩
  obtain ⟨T2, hT2⟩ : ∃ x, str h.dst = x := ⟨_, rfl⟩
  obtain ⟨T3, hT3⟩ : ∃ x, str h.op = x := ⟨_, rfl⟩
  obtain ⟨T4, hT4⟩ : ∃ x, str (h.src ++ h.dst) = x := ⟨_, rfl⟩
  obtain ⟨T5, hT5⟩ : ∃ x, str (h.src ++ h.dst ++ h.op) = x := ⟨_, rfl⟩
  obtain ⟨L5, hL5⟩ : ∃ x, (h.src ++ h.dst ++ h.op).length = x := ⟨_, rfl⟩
  rw [hT1] at d8 hs1
  rw [hT2] at d9 hs1
  rw [hT3] at dX hs2
  rw [hT4] at hs1 hs2
  rw [hT5] at hs2 hcx
  rw [hL5] at hcx HLX
  have HL5 := Lib.hid hL5
  clear hT1 hT2 hT3 hT4 hT5 hL5 hrx hbx HR7
  go_wp2_with fail
  refine (join_any _ _ _ _ _ _ ((((((be 1 (64 + q) ++ [h.tos]) ++ be 2 (h.tot)) ++ be 2 (h.id)) ++ be 2 (D1 + D2 + fr)) ++ [h.ttl, h.pro]) ++ be 2 (c)) (h.src ++ h.dst ++ h.op) _ HRS.out.own.len HL5.out HRS.out.own.rd HRX.out (by have h1 := HRS.out.own.len; have h2 := HLX.out; simp [be_length] at h1; omega)).mono ?_
  rintro e wz ⟨az, nz, pz, rfl, hoz, hbz⟩
  have HZ := Lib.hid (HRS.out.next hbz hoz)
  clear hoz hbz
  go_wp2_with fail
  go_ret
  refine ⟨az, nz, pz, rfl, ?_, HBA.out.trans (HZ.out.below.mono HBA.out.size)⟩
  rw [HFIN.out, HFL.out, HFRE.out]
  exact HZ.out.own.mono HBA.out.size
end Go.Proofs.Ytjnbnjdajkhkpaa

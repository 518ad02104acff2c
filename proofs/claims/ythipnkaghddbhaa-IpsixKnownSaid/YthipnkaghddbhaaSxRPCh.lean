/-
  The contract of the document's own ParseChain for layer 6. Conditions: bytes that lie where the slice leads, fewer than a million.
-/
import Derived.Test.YthipnkaghddbhaaSxRPChM
namespace Go.Proofs.Ythipnkaghddbhaa
open Go.RowKit

theorem getD_drop (xs : List Int) (t i : Nat) : (xs.drop t).getD i 0 = xs.getD (t + i) 0 := by simp [List.getD_eq_getElem?_getD, List.getElem?_drop]
set_option maxRecDepth 100000 in
set_option maxHeartbeats 4000000 in
theorem r6ParseChain_any (k0 : Int) (a : Option Addr) (n cap : Nat) (xs : List Int) (w : World) (V : Int × List (Int × List Int) × Int × Int) (p0 : 0 ≤ k0) (p1 : k0 < 256) (hn : xs.length = n) (hr : Rd w a xs) (hb : Byt xs) (hl : n ≤ 1000000) (hc : n ≤ cap) (hv : V = pcV k0 xs) :
    Calls Try.prog 28 #[.int .u8 k0, .slice a n cap] w (RPCR w V) := by
  have HN := Lib.hid hn
  have HB := Lib.hid hb
  have HRD := Lib.hid hr
  obtain ⟨wA, hwA⟩ : ∃ x, w.alloc (.cells #[.slice none 0 0, .int .u8 0] 50) = x := ⟨_, rfl⟩
  have hbA : Below w.heap.size w wA := by rw [← hwA]; exact (Below.refl _ _).alloc (Nat.le_refl _) _
  have hsA : wA.heap.size = w.heap.size + 1 := by rw [← hwA]; simp
  have HT0 : Hid (wA.there w.heap.size 0 2) := by show World.there _ _ _ _; rw [← hwA]; exact there_new _ _ _ _ rfl _ rfl
  obtain ⟨wB, hwB⟩ : ∃ x, wA.alloc (.cells #[.slice none 0 0, .int .u8 0] 50) = x := ⟨_, rfl⟩
  have hbB : Below wA.heap.size wA wB := by rw [← hwB]; exact (Below.refl _ _).alloc (Nat.le_refl _) _
  have hsB : wB.heap.size = w.heap.size + 2 := by rw [← hwB]; simp [hsA]
  have HBL : Hid (wB.heap[w.heap.size + 1]? = some (.cells #[.slice none 0 0, .int .u8 0] 50 (0, 0))) := by show _ = _; rw [← hwB, ← hsA]; exact Blk_new wA _ _
  have HBA1 : Hid (wB.heap[w.heap.size]? = wA.heap[w.heap.size]?) := hbB.block _ (by omega)
  have HBB : Hid (Below w.heap.size w wB) := hbA.trans (hbB.mono hbA.size)
  have HRC0 : Hid (RcB w wB wB none 0 0 []) := ⟨Below.refl _ _, HBL.out, OwnR.nil _ _, by omega, by omega, fun x hx => by cases hx⟩
  have HV0 : Hid (V = pcC (17 - 0) [] k0 (xs.drop 0) ((0 : Nat) : Int)) := hv
  have HW := Lib.hid hwA
  have HWB := Lib.hid hwB
  clear hn hr hb hbA hbB hwA hwB hv hsA hsB
  go_enter Try.func28, Try.ntmps28
  go_upto_region 2 with fail
  change Code.wp _ _ _ _ ((w.alloc (.cells #[.slice none 0 0, .int .u8 0] 50)).alloc (.cells #[.slice none 0 0, .int .u8 0] 50))
  rw [HW.out, HWB.out]
  go_wp2_with fail
  go_loopw [0, 8, 9] (fun f at_ st wr => ∃ (F : Int) (t j : Nat) (stop : Bool) (acc : List (Int × List Int)) (am : Option Addr) (d : Nat), f = .int .u8 F ∧ 0 ≤ F ∧ F < 256 ∧ at_ = .int .i64 t ∧ t ≤ n ∧ st = .bool stop ∧ Hid (RcB w wB wr am j d acc ∧ (stop = true → V = (0, acc, F, (t : Int))) ∧ (stop = false → V = pcC (17 - j) acc F (xs.drop t) t))) (fun _ _ _ wr => 17 - lenAt wr (w.heap.size + 1))
  case atStart => exact ⟨k0, 0, 0, false, [], none, 0, rfl, p0, p1, rfl, Nat.zero_le _, rfl, HRC0.out, (fun h => by cases h), fun _ => HV0.out⟩
  case round =>
    obtain ⟨F, t, j, stop, acc, am, d, rfl, F0, F1, rfl, ht, rfl, hst⟩ := hrel
    rename World => wr
    clear HRC0 HV0 HW HWB
    have HRC := Lib.hid hst.out.1
    have HVS := Lib.hid hst.out.2.1
    have HVN := Lib.hid hst.out.2.2
    clear hst
    cases stop with
    | true =>
      have HVV := Lib.hid (HVS.out rfl)
      clear HVS HVN
      cases hkn : knd F with
      | true =>
        have HK := Lib.hid hkn
        clear hkn
        go_wp2_with fail
        refine (r6kind_any F _ F0 F1).mono ?_
        rintro e w1 ⟨rfl, rfl⟩
        rw [HK.out]
        have hrr := HRC.out
        have hq1 : wr.cell? ⟨w.heap.size + 1, 1, none⟩ = some (.int .u8 0) := by rw [cell_of_row wr _ 1 _ _ (0, 0) hrr.bl]; rfl
        have hf1 : wr.frozen? ⟨w.heap.size + 1, 1, none⟩ = false := frozen_of_row wr _ 1 _ _ hrr.bl
        obtain ⟨wq, hwq⟩ : ∃ y, wr.setCell ⟨w.heap.size + 1, 1, none⟩ (.int .u8 F) = y := ⟨_, rfl⟩
        have hkq : Kept (fun q => q = w.heap.size + 1) wr wq := by rw [← hwq]; exact Kept.setCell (S := fun q => q = w.heap.size + 1) wr _ _ rfl
        have hblq : wq.heap[w.heap.size + 1]? = some (.cells #[.slice am j d, .int .u8 F] 50 (0, 0)) := by rw [← hwq]; exact set2_heap hrr.bl _
        have HRQ : Hid (wq.rangeAt (w.heap.size + 1) 0 [.slice am j d, .int .u8 F]) := range_row2 hblq
        have HTQ : Hid (wq.there w.heap.size 0 2) := by
          show World.there _ _ _ _
          intro y hy
          obtain ⟨t1, t2⟩ := HT0.out y hy
          have hbq : wq.heap[w.heap.size]? = wA.heap[w.heap.size]? := (hkq.block _ (by have := hrr.sz; omega) (by omega)).trans ((hrr.blw.block _ (by omega)).trans HBA1.out)
          exact ⟨by rw [World.cell?_of_block hbq]; exact t1, by rw [← t2]; exact World.frozen?_of_block hbq⟩
        have HFW : Hid (OwnR wq (w.heap.size + 2) am j d acc ∧ Below w.heap.size w wq) :=
          ⟨⟨hrr.row.len, hrr.row.row.keep hkq (fun q e k => by have := (hrr.row.row.blk_ge q e).1; omega)⟩, HBB.out.trans ((hrr.blw.mono (Nat.le_succ _)).trans (hkq.below (by have := hrr.sz; omega) (fun q e => by omega)))⟩
        clear hrr hkq hblq
        have HWQ := Lib.hid hwq
        clear hwq
        go_upto_region 22 with fail
        rw [HWQ.out]
        go_wp2_with (first
          | (refine ldC 50 (.tmp 7) rfl rfl (w.heap.size + 1) rfl [.slice am j d, .int .u8 F] HRQ.out _ Try.underlying50 rfl infRC2 ?_)
          | (refine stC 50 (.tmp 4) (.tmp 99) rfl rfl w.heap.size 0 [.slice am j d, .int .u8 F] rfl rfl HTQ.out infRC2 (cch_one _ _ _ _) ?_))
        refine bodyPost_ret (R := RPCR w V) (ret_mid3 Try.results28 _ _ _ _ [.slice am j d, .int .u8 F] _ rfl (World.rangeAt_setCells_same _ _ _ _ HTQ.out) Try.underlying50 rfl infRC2 _ _ rfl rfl) rfl ⟨Below.setCells HFW.out.2 _ (Nat.le_refl _) _ _, .inr ⟨by rw [HVV.out], am, j, d, by rw [HVV.out]; rfl, ?_⟩⟩
        rw [HVV.out]
        exact (HFW.out.1.setc w.heap.size _ (fun q e k => by have := (HFW.out.1.row.blk_ge q e).1; omega)).mono (by omega)
      | false =>
        have HK := Lib.hid hkn
        clear hkn
        go_wp2_with fail
        refine (r6kind_any F _ F0 F1).mono ?_
        rintro e w1 ⟨rfl, rfl⟩
        rw [HK.out]
        have hrr := HRC.out
        have hq1 : wr.cell? ⟨w.heap.size + 1, 1, none⟩ = some (.int .u8 0) := by rw [cell_of_row wr _ 1 _ _ (0, 0) hrr.bl]; rfl
        have hf1 : wr.frozen? ⟨w.heap.size + 1, 1, none⟩ = false := frozen_of_row wr _ 1 _ _ hrr.bl
        obtain ⟨wq, hwq⟩ : ∃ y, wr.setCell ⟨w.heap.size + 1, 1, none⟩ (.int .u8 F) = y := ⟨_, rfl⟩
        have hkq : Kept (fun q => q = w.heap.size + 1) wr wq := by rw [← hwq]; exact Kept.setCell (S := fun q => q = w.heap.size + 1) wr _ _ rfl
        have hblq : wq.heap[w.heap.size + 1]? = some (.cells #[.slice am j d, .int .u8 F] 50 (0, 0)) := by rw [← hwq]; exact set2_heap hrr.bl _
        have HRQ : Hid (wq.rangeAt (w.heap.size + 1) 0 [.slice am j d, .int .u8 F]) := range_row2 hblq
        have HTQ : Hid (wq.there w.heap.size 0 2) := by
          show World.there _ _ _ _
          intro y hy
          obtain ⟨t1, t2⟩ := HT0.out y hy
          have hbq : wq.heap[w.heap.size]? = wA.heap[w.heap.size]? := (hkq.block _ (by have := hrr.sz; omega) (by omega)).trans ((hrr.blw.block _ (by omega)).trans HBA1.out)
          exact ⟨by rw [World.cell?_of_block hbq]; exact t1, by rw [← t2]; exact World.frozen?_of_block hbq⟩
        have HFW : Hid (OwnR wq (w.heap.size + 2) am j d acc ∧ Below w.heap.size w wq) :=
          ⟨⟨hrr.row.len, hrr.row.row.keep hkq (fun q e k => by have := (hrr.row.row.blk_ge q e).1; omega)⟩, HBB.out.trans ((hrr.blw.mono (Nat.le_succ _)).trans (hkq.below (by have := hrr.sz; omega) (fun q e => by omega)))⟩
        clear hrr hkq hblq
        have HWQ := Lib.hid hwq
        clear hwq
        go_upto_region 22 with fail
        rw [HWQ.out]
        go_wp2_with (first
          | (refine ldC 50 (.tmp 7) rfl rfl (w.heap.size + 1) rfl [.slice am j d, .int .u8 F] HRQ.out _ Try.underlying50 rfl infRC2 ?_)
          | (refine stC 50 (.tmp 4) (.tmp 99) rfl rfl w.heap.size 0 [.slice am j d, .int .u8 F] rfl rfl HTQ.out infRC2 (cch_one _ _ _ _) ?_))
        refine bodyPost_ret (R := RPCR w V) (ret_mid3 Try.results28 _ _ _ _ [.slice am j d, .int .u8 F] _ rfl (World.rangeAt_setCells_same _ _ _ _ HTQ.out) Try.underlying50 rfl infRC2 _ _ rfl rfl) rfl ⟨Below.setCells HFW.out.2 _ (Nat.le_refl _) _ _, .inr ⟨by rw [HVV.out], am, j, d, by rw [HVV.out]; rfl, ?_⟩⟩
        rw [HVV.out]
        exact (HFW.out.1.setc w.heap.size _ (fun q e k => by have := (HFW.out.1.row.blk_ge q e).1; omega)).mono (by omega)
    | false =>
      have HVN2 := Lib.hid (HVN.out rfl)
      clear HVS HVN
      obtain ⟨f, hf⟩ : ∃ f, 17 - j = f + 1 := ⟨16 - j, by have := HRC.out.few; omega⟩
      have hff : f = 17 - (j + 1) := by omega
      have HFF := Lib.hid hff
      have hv := HVN2.out
      rw [hf, pcC_step, HRC.out.row.len] at hv
      clear HVN2 hf hff
      cases hkn : knd F with
      | false =>
        rw [hkn, if_pos rfl] at hv
        have HVV := Lib.hid hv
        have HK := Lib.hid hkn
        clear hkn hv
        go_wp2_with fail
        refine (r6kind_any F _ F0 F1).mono ?_
        rintro e w1 ⟨rfl, rfl⟩
        rw [HK.out]
        have hrr := HRC.out
        have hq1 : wr.cell? ⟨w.heap.size + 1, 1, none⟩ = some (.int .u8 0) := by rw [cell_of_row wr _ 1 _ _ (0, 0) hrr.bl]; rfl
        have hf1 : wr.frozen? ⟨w.heap.size + 1, 1, none⟩ = false := frozen_of_row wr _ 1 _ _ hrr.bl
        obtain ⟨wq, hwq⟩ : ∃ y, wr.setCell ⟨w.heap.size + 1, 1, none⟩ (.int .u8 F) = y := ⟨_, rfl⟩
        have hkq : Kept (fun q => q = w.heap.size + 1) wr wq := by rw [← hwq]; exact Kept.setCell (S := fun q => q = w.heap.size + 1) wr _ _ rfl
        have hblq : wq.heap[w.heap.size + 1]? = some (.cells #[.slice am j d, .int .u8 F] 50 (0, 0)) := by rw [← hwq]; exact set2_heap hrr.bl _
        have HRQ : Hid (wq.rangeAt (w.heap.size + 1) 0 [.slice am j d, .int .u8 F]) := range_row2 hblq
        have HTQ : Hid (wq.there w.heap.size 0 2) := by
          show World.there _ _ _ _
          intro y hy
          obtain ⟨t1, t2⟩ := HT0.out y hy
          have hbq : wq.heap[w.heap.size]? = wA.heap[w.heap.size]? := (hkq.block _ (by have := hrr.sz; omega) (by omega)).trans ((hrr.blw.block _ (by omega)).trans HBA1.out)
          exact ⟨by rw [World.cell?_of_block hbq]; exact t1, by rw [← t2]; exact World.frozen?_of_block hbq⟩
        have HFW : Hid (OwnR wq (w.heap.size + 2) am j d acc ∧ Below w.heap.size w wq) :=
          ⟨⟨hrr.row.len, hrr.row.row.keep hkq (fun q e k => by have := (hrr.row.row.blk_ge q e).1; omega)⟩, HBB.out.trans ((hrr.blw.mono (Nat.le_succ _)).trans (hkq.below (by have := hrr.sz; omega) (fun q e => by omega)))⟩
        clear hrr hkq hblq
        have HWQ := Lib.hid hwq
        clear hwq
        go_upto_region 22 with fail
        rw [HWQ.out]
        go_wp2_with (first
          | (refine ldC 50 (.tmp 7) rfl rfl (w.heap.size + 1) rfl [.slice am j d, .int .u8 F] HRQ.out _ Try.underlying50 rfl infRC2 ?_)
          | (refine stC 50 (.tmp 4) (.tmp 99) rfl rfl w.heap.size 0 [.slice am j d, .int .u8 F] rfl rfl HTQ.out infRC2 (cch_one _ _ _ _) ?_))
        refine bodyPost_ret (R := RPCR w V) (ret_mid3 Try.results28 _ _ _ _ [.slice am j d, .int .u8 F] _ rfl (World.rangeAt_setCells_same _ _ _ _ HTQ.out) Try.underlying50 rfl infRC2 _ _ rfl rfl) rfl ⟨Below.setCells HFW.out.2 _ (Nat.le_refl _) _ _, .inr ⟨by rw [HVV.out], am, j, d, by rw [HVV.out]; rfl, ?_⟩⟩
        rw [HVV.out]
        exact (HFW.out.1.setc w.heap.size _ (fun q e k => by have := (HFW.out.1.row.blk_ge q e).1; omega)).mono (by omega)
      | true =>
        rw [hkn, if_neg (by decide)] at hv
        have HV := Lib.hid hv
        have HK := Lib.hid hkn
        have hj16 := HRC.out.few
        clear hkn hv
        have hq0 : wr.cell? ⟨w.heap.size + 1, 0, none⟩ = some (.slice am j d) := by rw [cell_of_row wr _ 0 _ _ (0, 0) HRC.out.bl]; rfl
        have hac : acc.length = j := HRC.out.row.len
        have HRL : Hid ((xs.drop t).length = n - t) := by show _ = _; rw [List.length_drop, HN.out]
        by_cases hj : j = 16
        · subst hj
          have HVV : Hid (V = (60, [], 0, 0)) := pc_err HV.out hdE_full (by decide)
          obtain ⟨wz, hwz⟩ : ∃ z, z = wr := ⟨_, rfl⟩
          subst hwz
          have HRZ := HRC
          clear hac
          go_wp2_with fail
          refine (r6kind_any F _ F0 F1).mono ?_
          rintro e w1 ⟨rfl, rfl⟩
          rw [HK.out]
          have HTR : Hid (wz.there w.heap.size 0 2) := by
            show World.there _ _ _ _
            intro y hy
            obtain ⟨t1, t2⟩ := HT0.out y hy
            have hbq : wz.heap[w.heap.size]? = wA.heap[w.heap.size]? := (HRZ.out.blw.block _ (by omega)).trans HBA1.out
            exact ⟨by rw [World.cell?_of_block hbq]; exact t1, by rw [← t2]; exact World.frozen?_of_block hbq⟩
          go_wp2_with (first
            | (refine stC 50 (.tmp 4) (.tmp 32) rfl rfl w.heap.size 0 [.slice none 0 0, .int .u8 0] rfl rfl HTR.out infRC2 (cch_one _ _ _ _) ?_)
            | fail)
          refine bodyPost_ret (R := RPCR w V) (ret_mid3 Try.results28 _ _ _ _ [.slice none 0 0, .int .u8 0] _ rfl (World.rangeAt_setCells_same _ _ _ _ HTR.out) Try.underlying50 rfl infRC2 _ _ rfl rfl) rfl ⟨Below.setCells (HBB.out.trans (HRZ.out.blw.mono (Nat.le_succ _))) _ (Nat.le_refl _) _ _, .inl ⟨by rw [HVV.out]; decide, by rw [HVV.out]; rfl⟩⟩
        by_cases h0 : F = 0 ∧ 0 < j
        · obtain ⟨rfl, hjp⟩ := h0
          have HVV : Hid (V = (60, [], 0, 0)) := pc_err HV.out (hdE_hop hjp) (by decide)
          obtain ⟨wz, hwz⟩ : ∃ z, z = wr := ⟨_, rfl⟩
          subst hwz
          have HRZ := HRC
          have hjb : ((j : Int) == 16) = false := by simp; omega
          clear hac
          go_wp2_with fail
          refine (r6kind_any 0 _ F0 F1).mono ?_
          rintro e w1 ⟨rfl, rfl⟩
          rw [HK.out]
          have HTR : Hid (wz.there w.heap.size 0 2) := by
            show World.there _ _ _ _
            intro y hy
            obtain ⟨t1, t2⟩ := HT0.out y hy
            have hbq : wz.heap[w.heap.size]? = wA.heap[w.heap.size]? := (HRZ.out.blw.block _ (by omega)).trans HBA1.out
            exact ⟨by rw [World.cell?_of_block hbq]; exact t1, by rw [← t2]; exact World.frozen?_of_block hbq⟩
          go_wp2_with (first
            | (refine stC 50 (.tmp 4) (.tmp 32) rfl rfl w.heap.size 0 [.slice none 0 0, .int .u8 0] rfl rfl HTR.out infRC2 (cch_one _ _ _ _) ?_)
            | fail)
          refine bodyPost_ret (R := RPCR w V) (ret_mid3 Try.results28 _ _ _ _ [.slice none 0 0, .int .u8 0] _ rfl (World.rangeAt_setCells_same _ _ _ _ HTR.out) Try.underlying50 rfl infRC2 _ _ rfl rfl) rfl ⟨Below.setCells (HBB.out.trans (HRZ.out.blw.mono (Nat.le_succ _))) _ (Nat.le_refl _) _ _, .inl ⟨by rw [HVV.out]; decide, by rw [HVV.out]; rfl⟩⟩
        have HC0 : Hid (¬ (F = 0 ∧ 0 < j)) := h0
        have hnj : ((j : Int) == 16) = false := by simp; omega
        have hjl : j < 16 := by omega
        clear hac h0
        by_cases hF : F = 0
        · subst hF
          have hj0 : ¬ 0 < j := fun h => HC0.out ⟨rfl, h⟩
          have hj0' : ¬ (0 : Int) < (j : Int) := by omega
          by_cases h2 : n < t + 2
          · have HVV : Hid (V = (10, [], 0, 0)) := pc_err HV.out (hdE_short hj (fun h => hj0 h.2) (.inl (by rw [HRL.out]; omega))) (by decide)
            obtain ⟨wz, hwz⟩ : ∃ z, z = wr := ⟨_, rfl⟩
            subst hwz
            have HRZ := HRC
            go_wp2_with fail
            refine (r6kind_any 0 _ F0 F1).mono ?_
            rintro e w1 ⟨rfl, rfl⟩
            rw [HK.out]
            have HTR : Hid (wz.there w.heap.size 0 2) := by
              show World.there _ _ _ _
              intro y hy
              obtain ⟨t1, t2⟩ := HT0.out y hy
              have hbq : wz.heap[w.heap.size]? = wA.heap[w.heap.size]? := (HRZ.out.blw.block _ (by omega)).trans HBA1.out
              exact ⟨by rw [World.cell?_of_block hbq]; exact t1, by rw [← t2]; exact World.frozen?_of_block hbq⟩
            go_wp2_with (first
              | (refine stC 50 (.tmp 4) (.tmp 38) rfl rfl w.heap.size 0 [.slice none 0 0, .int .u8 0] rfl rfl HTR.out infRC2 (cch_one _ _ _ _) ?_)
              | fail)
            refine bodyPost_ret (R := RPCR w V) (ret_mid3 Try.results28 _ _ _ _ [.slice none 0 0, .int .u8 0] _ rfl (World.rangeAt_setCells_same _ _ _ _ HTR.out) Try.underlying50 rfl infRC2 _ _ rfl rfl) rfl ⟨Below.setCells (HBB.out.trans (HRZ.out.blw.mono (Nat.le_succ _))) _ (Nat.le_refl _) _ _, .inl ⟨by rw [HVV.out]; decide, by rw [HVV.out]; rfl⟩⟩

          have HRW0 : Hid (Rd wr a xs) := HRD.out.below (HBB.out.trans (HRC.out.blw.mono (Nat.le_succ _)))
          obtain ⟨bb, oo, rfl, hcl⟩ := HRW0.out (by intro e; have := HN.out; rw [e] at this; simp at this; omega)
          have HRW : Hid (Rd wr (some ⟨bb, oo, none⟩) xs) := HRW0.out
          have hcs := hcl (t + 1) (by rw [HN.out]; omega)
          have HROW : Hid (∀ z, Below w.heap.size w z → z.cell? ⟨bb, oo + t, none⟩ = some (.int .u8 (xs.getD t 0))) := fun z hz => by
            obtain ⟨b', o', e, hc'⟩ := (HRD.out.below hz) (by intro e; have := HN.out; rw [e] at this; simp at this; omega)
            simp only [Option.some.injEq, Addr.mk.injEq, and_true] at e
            obtain ⟨rfl, rfl⟩ := e
            exact hc' t (by rw [HN.out]; omega)
          have hsr := HB.out.get (t + 1)
          obtain ⟨sn, hsn⟩ : ∃ q : Nat, xs.getD (t + 1) 0 = (q : Int) := ⟨(xs.getD (t + 1) 0).toNat, by omega⟩
          rw [hsn] at hcs hsr
          have hs2 : sn < 256 := by omega
          have HGD : Hid ((xs.drop t).getD 1 0 = (sn : Int)) := by show _ = _; rw [getD_drop, hsn]
          obtain ⟨t1, ht1⟩ : ∃ q : Nat, q = t + 1 := ⟨_, rfl⟩
          obtain ⟨t2, ht2⟩ : ∃ q : Nat, q = t + 2 := ⟨_, rfl⟩
          have e1 : (t : Int) + 1 = (t1 : Int) := by omega
          have e2 : (t : Int) + 2 = (t2 : Int) := by omega
          rw [← ht1] at hcs
          have hn2 : (t2 : Int) ≤ (n : Int) := by omega
          have hn1 : t1 < n := by omega
          have HT2 : Hid (t2 = t + 2) := ht2
          clear hsn hcl hsr ht1 ht2

          have h8o : hdS 0 (xs.drop t) = 8 * (sn + 1) := by have h1 := hdS_other (k := 0) (by omega) (HB.out.drop t); rw [HGD.out] at h1; omega
          obtain ⟨M, hMe⟩ : ∃ q : Nat, q = 8 * (sn + 1) := ⟨_, rfl⟩
          rw [← hMe] at h8o
          have e8 : 8 * ((sn : Int) + 1) = (M : Int) := by omega
          have hm8 : 8 ≤ M := by omega
          have hkb : ((0 : Int) == 44) = false := rfl
          by_cases h8 : n < t + M
          · have HVV : Hid (V = (10, [], 0, 0)) := pc_err HV.out (hdE_short hj (fun h => hj0 h.2) (.inr (by rw [HRL.out, h8o]; omega))) (by decide)
            obtain ⟨wz, hwz⟩ : ∃ z, z = wr := ⟨_, rfl⟩
            subst hwz
            have HRZ := HRC
            have hMle : M ≤ 2048 := by omega
            clear hMe
            go_wp2_with fail
            refine (r6kind_any 0 _ F0 F1).mono ?_
            rintro e w1 ⟨rfl, rfl⟩
            rw [HK.out]
            have HTR : Hid (wz.there w.heap.size 0 2) := by
              show World.there _ _ _ _
              intro y hy
              obtain ⟨t1, t2⟩ := HT0.out y hy
              have hbq : wz.heap[w.heap.size]? = wA.heap[w.heap.size]? := (HRZ.out.blw.block _ (by omega)).trans HBA1.out
              exact ⟨by rw [World.cell?_of_block hbq]; exact t1, by rw [← t2]; exact World.frozen?_of_block hbq⟩
            go_wp2_with (first
              | (refine stC 50 (.tmp 4) (.tmp 55) rfl rfl w.heap.size 0 [.slice none 0 0, .int .u8 0] rfl rfl HTR.out infRC2 (cch_one _ _ _ _) ?_)
              | fail)
            refine bodyPost_ret (R := RPCR w V) (ret_mid3 Try.results28 _ _ _ _ [.slice none 0 0, .int .u8 0] _ rfl (World.rangeAt_setCells_same _ _ _ _ HTR.out) Try.underlying50 rfl infRC2 _ _ rfl rfl) rfl ⟨Below.setCells (HBB.out.trans (HRZ.out.blw.mono (Nat.le_succ _))) _ (Nat.le_refl _) _ _, .inl ⟨by rw [HVV.out]; decide, by rw [HVV.out]; rfl⟩⟩

          have hM : hdS 0 (xs.drop t) = M := h8o
          have HDD : Hid (hdD 0 (xs.drop t) = (xs.drop (t + 2)).take (M - 2)) := hdD_at hM
          obtain ⟨D, hD⟩ : ∃ y, (xs.drop (t + 2)).take (M - 2) = y := ⟨_, rfl⟩
          rw [hD] at HDD
          have HDE := Lib.hid hD
          have HBD : Hid (Byt D) := by show Byt D; rw [← HDD.out]; exact hdD_byt (HB.out.drop t)
          have HLD : Hid (D.length ≤ 2046) := by show _ ≤ _; rw [← HDD.out]; exact hdD_len (HB.out.drop t)
          have HDL : Hid (D.length = M - 2) := by show _ = _; rw [← hD, List.length_take, List.length_drop, HN.out]; omega
          have hcv : ∀ q : Nat, (convert 27 9 (.slice (some ⟨bb, oo + t2, none⟩) (M - 2) q)).run Try.prog wr = .ok (.string (str D)) wr := fun q => run_string_rd wr q HDL.out (by rw [← hD, HT2.out]; exact HRW.out.cut (by rw [HN.out]; omega)) HBD.out
          obtain ⟨wx, hwx⟩ : ∃ y, wr.alloc (.cells #[.int .u8 0, .string (str D)] 87) = y := ⟨_, rfl⟩
          have hbx : Below wr.heap.size wr wx := by rw [← hwx]; exact (Below.refl _ _).alloc (Nat.le_refl _) _
          have hsx : wx.heap.size = wr.heap.size + 1 := by rw [← hwx]; simp
          have hxx0 : wx.cell? ⟨wr.heap.size, 0, none⟩ = some (.int .u8 0) := by rw [← hwx]; exact World.cell?_alloc_new _ _ _ _
          have hxx1 : wx.cell? ⟨wr.heap.size, 1, none⟩ = some (.string (str D)) := by rw [← hwx]; exact World.cell?_alloc_new _ _ _ _
          have HWX := Lib.hid hwx
          have HXX := Lib.hid (And.intro hbx (And.intro hxx0 hxx1))
          have HSX := Lib.hid hsx
          obtain ⟨tm, htmE⟩ : ∃ q, t + M = q := ⟨_, rfl⟩
          have e3 : (t : Int) + (M : Int) = (tm : Int) := by omega
          have htm : tm ≤ n := by omega
          have e3' : (tm : Int) ≤ (n : Int) := by omega
          have e4 : (t2 : Int) ≤ (tm : Int) := by omega
          have e5 : tm - t2 = M - 2 := by have := HT2.out; omega
          have HTM := Lib.hid htmE
          have HMM := Lib.hid hM
          clear hM hD hwx hbx hsx hxx0 hxx1 htmE

          have HE0 : hdE 0 j (xs.drop t) = 0 := hdE_other (HB.out.drop t) (by omega) HK.out hj (fun h => hj0 h.2) (by rw [HRL.out]; omega) (by rw [HMM.out, HRL.out]; omega)

          have hvo := pc_ok HV.out HE0
          rw [HDD.out, getD_drop, Nat.add_zero, List.drop_drop, HMM.out, show (t : Int) + (M : Nat) = (tm : Int) by have := HTM.out; omega, HTM.out, HFF.out] at hvo
          obtain ⟨LT, hLT⟩ : ∃ v, ltE 0 D = v := ⟨_, rfl⟩
          have HLTE := Lib.hid hLT
          rw [hLT] at hvo
          have HVT : Hid (LT = true → V = (0, acc ++ [(0, D)], xs.getD t 0, (tm : Int))) := fun e => by rw [hvo, if_pos e]
          have HVF : Hid (LT = false → V = pcC (17 - (j + 1)) (acc ++ [(0, D)]) (xs.getD t 0) (xs.drop tm) (tm : Int)) := fun e => by rw [hvo, if_neg (by rw [e]; decide)]
          clear hvo hLT

          clear hMe h8o HE0
          go_wp2_with fail

          refine (r6kind_any 0 _ F0 F1).mono ?_
          rintro e w1 ⟨rfl, rfl⟩
          rw [HK.out]

          go_upto_region 15 with fail
          rw [HWX.out]
          clear hcv hcs
          obtain ⟨wy, hwy⟩ : ∃ z, z = wx := ⟨_, rfl⟩
          subst hwy
          have HXY := Lib.hid HXX.out.1
          have HX0 := Lib.hid HXX.out.2.1
          have HX1 := Lib.hid HXX.out.2.2
          have HLY : Hid (wr.heap.size < wy.heap.size) := by have := HSX.out; show _ < _; omega

          obtain ⟨g, d', w7, hrun, hq7, hf7, hrc7, hk7, hne⟩ := HRC.out.app hjl 0 D ⟨by omega, by omega⟩ HBD.out HLD.out wy HXY.out
          have HRUN := Lib.hid hrun
          have hup : ∀ q, blk am = some q → q < wr.heap.size := fun q e => (HRC.out.row.row.blk_ge q e).2
          have hxk : ∀ o, (w7.setCell ⟨w.heap.size + 1, 0, none⟩ (.slice (some ⟨g, 0, none⟩) (j + 1) d')).cell? ⟨wr.heap.size, o, none⟩ = wy.cell? ⟨wr.heap.size, o, none⟩ := fun o => by
            have h1 : (w7.setCell ⟨w.heap.size + 1, 0, none⟩ (.slice (some ⟨g, 0, none⟩) (j + 1) d')).heap[wr.heap.size]? = w7.heap[wr.heap.size]? := Below.heap_setCell w7 ⟨w.heap.size + 1, 0, none⟩ _ _ (fun e => by have e' : wr.heap.size = w.heap.size + 1 := e; have := HRC.out.sz; omega)
            have h2 : w7.heap[wr.heap.size]? = wy.heap[wr.heap.size]? := hk7.block _ HLY.out (fun e => by have := hup _ e; omega)
            exact World.cell?_of_block (h1.trans h2)
          have hx80 := (hxk 0).trans HX0.out
          have hx81 := (hxk 1).trans HX1.out
          have HR8 := Lib.hid hrc7
          obtain ⟨w8, hw8⟩ : ∃ y, w7.setCell ⟨w.heap.size + 1, 0, none⟩ (.slice (some ⟨g, 0, none⟩) (j + 1) d') = y := ⟨_, rfl⟩
          rw [hw8] at hx80 hx81 HR8
          have HW8 := Lib.hid hw8
          have hx0 := HX0.out
          have hx1 := HX1.out
          have hq0y := cell_kept HXY.out hq0
          obtain ⟨S, hS⟩ : ∃ y, str D = y := ⟨_, rfl⟩
          rw [hS] at hx1 hx81 HRUN
          have HS := Lib.hid hS
          have HLT : Hid (∀ wz, Calls Try.prog 46 #[.agg #[.int .u8 0, .string S]] wz (Gives wz (.bool LT))) := fun wz => by
            have h1 := r6later_any 0 D wz (by omega) (by omega) HBD.out (by have := HLD.out; omega)
            rw [HLTE.out] at h1
            rw [← HS.out]
            exact h1
          clear hrun hrc7 hk7 hne hup hxk hw8 hq0 hS
          go_upto_region 18 with (at_builtin; refine Lib.wpList_append_run _ rfl (.tmp 83) (.tmp 85) _ _ rfl _ _ rfl rfl _ _ HRUN.out ?_)
          rw [HW8.out]
          clear hx0 hx1 hq0y hq7 hf7
          go_wp2_with fail
          refine (HLT.out _).mono ?_
          rintro e w9 ⟨rfl, hb9⟩
          have HR9 := Lib.hid (HR8.out.below hb9)
          have h9c := HROW.out w9 (HBB.out.trans ((HR9.out.blw).mono (Nat.le_succ _)))
          clear hb9 hx80 hx81
          go_wp2_with fail
          go_roundw
          case rel => exact ⟨xs.getD t 0, tm, j + 1, LT, acc ++ [(0, D)], some ⟨g, 0, none⟩, d', rfl, (HB.out.get t).1, (HB.out.get t).2, rfl, htm, rfl, HR9.out, HVT.out, HVF.out⟩
          case measure => rw [HRC.out.lenAt, HR9.out.lenAt]; omega
        · have hFb : (F == 0) = false := by simpa using hF
          by_cases h2 : n < t + 2
          · have HVV : Hid (V = (10, [], 0, 0)) := pc_err HV.out (hdE_short hj (fun h => hF h.1) (.inl (by rw [HRL.out]; omega))) (by decide)
            obtain ⟨wz, hwz⟩ : ∃ z, z = wr := ⟨_, rfl⟩
            subst hwz
            have HRZ := HRC
            go_wp2_with fail
            refine (r6kind_any F _ F0 F1).mono ?_
            rintro e w1 ⟨rfl, rfl⟩
            rw [HK.out]
            have HTR : Hid (wz.there w.heap.size 0 2) := by
              show World.there _ _ _ _
              intro y hy
              obtain ⟨t1, t2⟩ := HT0.out y hy
              have hbq : wz.heap[w.heap.size]? = wA.heap[w.heap.size]? := (HRZ.out.blw.block _ (by omega)).trans HBA1.out
              exact ⟨by rw [World.cell?_of_block hbq]; exact t1, by rw [← t2]; exact World.frozen?_of_block hbq⟩
            go_wp2_with (first
              | (refine stC 50 (.tmp 4) (.tmp 38) rfl rfl w.heap.size 0 [.slice none 0 0, .int .u8 0] rfl rfl HTR.out infRC2 (cch_one _ _ _ _) ?_)
              | fail)
            refine bodyPost_ret (R := RPCR w V) (ret_mid3 Try.results28 _ _ _ _ [.slice none 0 0, .int .u8 0] _ rfl (World.rangeAt_setCells_same _ _ _ _ HTR.out) Try.underlying50 rfl infRC2 _ _ rfl rfl) rfl ⟨Below.setCells (HBB.out.trans (HRZ.out.blw.mono (Nat.le_succ _))) _ (Nat.le_refl _) _ _, .inl ⟨by rw [HVV.out]; decide, by rw [HVV.out]; rfl⟩⟩

          have HRW0 : Hid (Rd wr a xs) := HRD.out.below (HBB.out.trans (HRC.out.blw.mono (Nat.le_succ _)))
          obtain ⟨bb, oo, rfl, hcl⟩ := HRW0.out (by intro e; have := HN.out; rw [e] at this; simp at this; omega)
          have HRW : Hid (Rd wr (some ⟨bb, oo, none⟩) xs) := HRW0.out
          have hcs := hcl (t + 1) (by rw [HN.out]; omega)
          have HROW : Hid (∀ z, Below w.heap.size w z → z.cell? ⟨bb, oo + t, none⟩ = some (.int .u8 (xs.getD t 0))) := fun z hz => by
            obtain ⟨b', o', e, hc'⟩ := (HRD.out.below hz) (by intro e; have := HN.out; rw [e] at this; simp at this; omega)
            simp only [Option.some.injEq, Addr.mk.injEq, and_true] at e
            obtain ⟨rfl, rfl⟩ := e
            exact hc' t (by rw [HN.out]; omega)
          have hsr := HB.out.get (t + 1)
          obtain ⟨sn, hsn⟩ : ∃ q : Nat, xs.getD (t + 1) 0 = (q : Int) := ⟨(xs.getD (t + 1) 0).toNat, by omega⟩
          rw [hsn] at hcs hsr
          have hs2 : sn < 256 := by omega
          have HGD : Hid ((xs.drop t).getD 1 0 = (sn : Int)) := by show _ = _; rw [getD_drop, hsn]
          obtain ⟨t1, ht1⟩ : ∃ q : Nat, q = t + 1 := ⟨_, rfl⟩
          obtain ⟨t2, ht2⟩ : ∃ q : Nat, q = t + 2 := ⟨_, rfl⟩
          have e1 : (t : Int) + 1 = (t1 : Int) := by omega
          have e2 : (t : Int) + 2 = (t2 : Int) := by omega
          rw [← ht1] at hcs
          have hn2 : (t2 : Int) ≤ (n : Int) := by omega
          have hn1 : t1 < n := by omega
          have HT2 : Hid (t2 = t + 2) := ht2
          clear hsn hcl hsr ht1 ht2

          by_cases hk : F = 44
          · subst hk
            have h8e : hdS 44 (xs.drop t) = 8 := rfl
            by_cases h8 : n < t + 8
            · have HVV : Hid (V = (10, [], 0, 0)) := pc_err HV.out (hdE_short hj (fun h => hF h.1) (.inr (by rw [HRL.out, h8e]; omega))) (by decide)
              obtain ⟨wz, hwz⟩ : ∃ z, z = wr := ⟨_, rfl⟩
              subst hwz
              have HRZ := HRC
              go_wp2_with fail
              refine (r6kind_any 44 _ F0 F1).mono ?_
              rintro e w1 ⟨rfl, rfl⟩
              rw [HK.out]
              have HTR : Hid (wz.there w.heap.size 0 2) := by
                show World.there _ _ _ _
                intro y hy
                obtain ⟨t1, t2⟩ := HT0.out y hy
                have hbq : wz.heap[w.heap.size]? = wA.heap[w.heap.size]? := (HRZ.out.blw.block _ (by omega)).trans HBA1.out
                exact ⟨by rw [World.cell?_of_block hbq]; exact t1, by rw [← t2]; exact World.frozen?_of_block hbq⟩
              go_wp2_with (first
                | (refine stC 50 (.tmp 4) (.tmp 55) rfl rfl w.heap.size 0 [.slice none 0 0, .int .u8 0] rfl rfl HTR.out infRC2 (cch_one _ _ _ _) ?_)
                | fail)
              refine bodyPost_ret (R := RPCR w V) (ret_mid3 Try.results28 _ _ _ _ [.slice none 0 0, .int .u8 0] _ rfl (World.rangeAt_setCells_same _ _ _ _ HTR.out) Try.underlying50 rfl infRC2 _ _ rfl rfl) rfl ⟨Below.setCells (HBB.out.trans (HRZ.out.blw.mono (Nat.le_succ _))) _ (Nat.le_refl _) _ _, .inl ⟨by rw [HVV.out]; decide, by rw [HVV.out]; rfl⟩⟩
            have hM : hdS 44 (xs.drop t) = 8 := rfl
            have HDD : Hid (hdD 44 (xs.drop t) = (xs.drop (t + 2)).take (8 - 2)) := hdD_at hM
            obtain ⟨D, hD⟩ : ∃ y, (xs.drop (t + 2)).take (8 - 2) = y := ⟨_, rfl⟩
            rw [hD] at HDD
            have HDE := Lib.hid hD
            have HBD : Hid (Byt D) := by show Byt D; rw [← HDD.out]; exact hdD_byt (HB.out.drop t)
            have HLD : Hid (D.length ≤ 2046) := by show _ ≤ _; rw [← HDD.out]; exact hdD_len (HB.out.drop t)
            have HDL : Hid (D.length = 8 - 2) := by show _ = _; rw [← hD, List.length_take, List.length_drop, HN.out]; omega
            have hcv : ∀ q : Nat, (convert 27 9 (.slice (some ⟨bb, oo + t2, none⟩) (8 - 2) q)).run Try.prog wr = .ok (.string (str D)) wr := fun q => run_string_rd wr q HDL.out (by rw [← hD, HT2.out]; exact HRW.out.cut (by rw [HN.out]; omega)) HBD.out
            obtain ⟨wx, hwx⟩ : ∃ y, wr.alloc (.cells #[.int .u8 44, .string (str D)] 87) = y := ⟨_, rfl⟩
            have hbx : Below wr.heap.size wr wx := by rw [← hwx]; exact (Below.refl _ _).alloc (Nat.le_refl _) _
            have hsx : wx.heap.size = wr.heap.size + 1 := by rw [← hwx]; simp
            have hxx0 : wx.cell? ⟨wr.heap.size, 0, none⟩ = some (.int .u8 44) := by rw [← hwx]; exact World.cell?_alloc_new _ _ _ _
            have hxx1 : wx.cell? ⟨wr.heap.size, 1, none⟩ = some (.string (str D)) := by rw [← hwx]; exact World.cell?_alloc_new _ _ _ _
            have HWX := Lib.hid hwx
            have HXX := Lib.hid (And.intro hbx (And.intro hxx0 hxx1))
            have HSX := Lib.hid hsx
            obtain ⟨tm, htmE⟩ : ∃ q, t + 8 = q := ⟨_, rfl⟩
            have e3 : (t : Int) + (8 : Int) = (tm : Int) := by omega
            have htm : tm ≤ n := by omega
            have e3' : (tm : Int) ≤ (n : Int) := by omega
            have e4 : (t2 : Int) ≤ (tm : Int) := by omega
            have e5 : tm - t2 = 8 - 2 := by have := HT2.out; omega
            have HTM := Lib.hid htmE
            have HMM := Lib.hid hM
            clear hM hD hwx hbx hsx hxx0 hxx1 htmE

            have HE44 : Hid (hdE 44 j (xs.drop t) = if (sn : Int) = 0 ∧ rtE 44 D = true then 0 else 60) := by
              show _ = _
              rw [hdE_44 hj (by rw [HRL.out]; omega), HGD.out, HDD.out]
            by_cases hs0 : sn = 0
            · subst hs0
              have HRE : Hid (∀ wz, Calls Try.prog 45 #[.agg #[.int .u8 44, .string (str D)]] wz (Gives wz (.bool (rtE 44 D)))) := fun wz => r6rightExt_any 44 D wz (by omega) (by omega) HBD.out (by have := HLD.out; omega)
              cases hrt : rtE 44 D with
              | false =>
                have HVV : Hid (V = (60, [], 0, 0)) := pc_err HV.out (by rw [HE44.out, hrt, if_neg (fun h => by cases h.2)]) (by decide)
                rw [hrt] at HRE
                clear hrt
                have e8 : (8 : Int) * (((0 : Nat) : Int) + 1) = 8 := by omega
                go_wp2_with fail
                refine (r6kind_any 44 _ F0 F1).mono ?_
                rintro e w1 ⟨rfl, rfl⟩
                rw [HK.out]
                go_upto_region 15 with fail
                rw [HWX.out]
                have hx0 := HXX.out.2.1
                have hx1 := HXX.out.2.2
                have hcs' := cell_kept HXX.out.1 hcs
                obtain ⟨S, hS⟩ : ∃ y, str D = y := ⟨_, rfl⟩
                rw [hS] at hx1 HRE
                clear hS hcv
                go_wp2_with fail
                refine (HRE.out _).mono ?_
                rintro e wz ⟨rfl, hbz⟩
                have HRZ := Lib.hid ((HRC.out.below HXX.out.1).below hbz)
                clear hbz hx0 hx1 hcs hcs' hq0
                have HTR : Hid (wz.there w.heap.size 0 2) := by
                  show World.there _ _ _ _
                  intro y hy
                  obtain ⟨t1, t2⟩ := HT0.out y hy
                  have hbq : wz.heap[w.heap.size]? = wA.heap[w.heap.size]? := (HRZ.out.blw.block _ (by omega)).trans HBA1.out
                  exact ⟨by rw [World.cell?_of_block hbq]; exact t1, by rw [← t2]; exact World.frozen?_of_block hbq⟩
                go_wp2_with (first
                  | (refine stC 50 (.tmp 4) (.tmp 81) rfl rfl w.heap.size 0 [.slice none 0 0, .int .u8 0] rfl rfl HTR.out infRC2 (cch_one _ _ _ _) ?_)
                  | fail)
                refine bodyPost_ret (R := RPCR w V) (ret_mid3 Try.results28 _ _ _ _ [.slice none 0 0, .int .u8 0] _ rfl (World.rangeAt_setCells_same _ _ _ _ HTR.out) Try.underlying50 rfl infRC2 _ _ rfl rfl) rfl ⟨Below.setCells (HBB.out.trans (HRZ.out.blw.mono (Nat.le_succ _))) _ (Nat.le_refl _) _ _, .inl ⟨by rw [HVV.out]; decide, by rw [HVV.out]; rfl⟩⟩
              | true =>
                have HE0 : hdE 44 j (xs.drop t) = 0 := by rw [HE44.out, hrt, if_pos ⟨rfl, rfl⟩]
                have hvo := pc_ok HV.out HE0
                rw [HDD.out, getD_drop, Nat.add_zero, List.drop_drop, HMM.out, show (t : Int) + (8 : Nat) = (tm : Int) by have := HTM.out; omega, HTM.out, HFF.out] at hvo
                obtain ⟨LT, hLT⟩ : ∃ v, ltE 44 D = v := ⟨_, rfl⟩
                have HLTE := Lib.hid hLT
                rw [hLT] at hvo
                have HVT : Hid (LT = true → V = (0, acc ++ [(44, D)], xs.getD t 0, (tm : Int))) := fun e => by rw [hvo, if_pos e]
                have HVF : Hid (LT = false → V = pcC (17 - (j + 1)) (acc ++ [(44, D)]) (xs.getD t 0) (xs.drop tm) (tm : Int)) := fun e => by rw [hvo, if_neg (by rw [e]; decide)]
                clear hvo hLT
                rw [hrt] at HRE
                clear hrt HE0
                have e8 : (8 : Int) * (((0 : Nat) : Int) + 1) = 8 := by omega
                go_wp2_with fail
                refine (r6kind_any 44 _ F0 F1).mono ?_
                rintro e w1 ⟨rfl, rfl⟩
                rw [HK.out]
                go_upto_region 15 with fail
                rw [HWX.out]
                have hx0 := HXX.out.2.1
                have hx1 := HXX.out.2.2
                have hcs' := cell_kept HXX.out.1 hcs
                obtain ⟨S, hS⟩ : ∃ y, str D = y := ⟨_, rfl⟩
                have HSS := Lib.hid hS
                rw [hS] at hx1 HRE
                clear hS hcv
                go_wp2_with fail
                refine (HRE.out _).mono ?_
                rintro e wy ⟨rfl, hbz⟩
                have HXY : Hid (Below wr.heap.size wr wy) := HXX.out.1.trans (hbz.mono HXX.out.1.size)
                have HX0 := Lib.hid (cell_kept hbz HXX.out.2.1)
                have HX1 := Lib.hid (cell_kept hbz HXX.out.2.2)
                have HLY : Hid (wr.heap.size < wy.heap.size) := by have h1 := HSX.out; have h2 := hbz.size; show _ < _; omega
                clear hbz hx0 hx1 hcs hcs'
                obtain ⟨g, d', w7, hrun, hq7, hf7, hrc7, hk7, hne⟩ := HRC.out.app hjl 44 D ⟨by omega, by omega⟩ HBD.out HLD.out wy HXY.out
                have HRUN := Lib.hid hrun
                have hup : ∀ q, blk am = some q → q < wr.heap.size := fun q e => (HRC.out.row.row.blk_ge q e).2
                have hxk : ∀ o, (w7.setCell ⟨w.heap.size + 1, 0, none⟩ (.slice (some ⟨g, 0, none⟩) (j + 1) d')).cell? ⟨wr.heap.size, o, none⟩ = wy.cell? ⟨wr.heap.size, o, none⟩ := fun o => by
                  have h1 : (w7.setCell ⟨w.heap.size + 1, 0, none⟩ (.slice (some ⟨g, 0, none⟩) (j + 1) d')).heap[wr.heap.size]? = w7.heap[wr.heap.size]? := Below.heap_setCell w7 ⟨w.heap.size + 1, 0, none⟩ _ _ (fun e => by have e' : wr.heap.size = w.heap.size + 1 := e; have := HRC.out.sz; omega)
                  have h2 : w7.heap[wr.heap.size]? = wy.heap[wr.heap.size]? := hk7.block _ HLY.out (fun e => by have := hup _ e; omega)
                  exact World.cell?_of_block (h1.trans h2)
                have hx80 := (hxk 0).trans HX0.out
                have hx81 := (hxk 1).trans HX1.out
                have HR8 := Lib.hid hrc7
                obtain ⟨w8, hw8⟩ : ∃ y, w7.setCell ⟨w.heap.size + 1, 0, none⟩ (.slice (some ⟨g, 0, none⟩) (j + 1) d') = y := ⟨_, rfl⟩
                rw [hw8] at hx80 hx81 HR8
                have HW8 := Lib.hid hw8
                have hx0 := HX0.out
                have hx1 := HX1.out
                have hq0y := cell_kept HXY.out hq0
                obtain ⟨S, hS⟩ : ∃ y, str D = y := ⟨_, rfl⟩
                rw [hS] at hx1 hx81 HRUN
                have HS := Lib.hid hS
                have HLT : Hid (∀ wz, Calls Try.prog 46 #[.agg #[.int .u8 44, .string S]] wz (Gives wz (.bool LT))) := fun wz => by
                  have h1 := r6later_any 44 D wz (by omega) (by omega) HBD.out (by have := HLD.out; omega)
                  rw [HLTE.out] at h1
                  rw [← HS.out]
                  exact h1
                clear hrun hrc7 hk7 hne hup hxk hw8 hq0 hS
                go_upto_region 18 with (at_builtin; refine Lib.wpList_append_run _ rfl (.tmp 83) (.tmp 85) _ _ rfl _ _ rfl rfl _ _ HRUN.out ?_)
                rw [HW8.out]
                clear hx0 hx1 hq0y hq7 hf7
                go_wp2_with fail
                refine (HLT.out _).mono ?_
                rintro e w9 ⟨rfl, hb9⟩
                have HR9 := Lib.hid (HR8.out.below hb9)
                have h9c := HROW.out w9 (HBB.out.trans ((HR9.out.blw).mono (Nat.le_succ _)))
                clear hb9 hx80 hx81
                go_wp2_with fail
                go_roundw
                case rel => exact ⟨xs.getD t 0, tm, j + 1, LT, acc ++ [(44, D)], some ⟨g, 0, none⟩, d', rfl, (HB.out.get t).1, (HB.out.get t).2, rfl, htm, rfl, HR9.out, HVT.out, HVF.out⟩
                case measure => rw [HRC.out.lenAt, HR9.out.lenAt]; omega
            · have HVV : Hid (V = (60, [], 0, 0)) := pc_err HV.out (by rw [HE44.out, if_neg (fun h => hs0 (by have := h.1; omega))]) (by decide)
              have hsb : ((sn : Int) != 0) = true := by simp; omega
              have e8 : ((8 : Int) * ((sn : Int) + 1)) ≤ 2048 := by omega
              go_wp2_with fail
              refine (r6kind_any 44 _ F0 F1).mono ?_
              rintro e w1 ⟨rfl, rfl⟩
              rw [HK.out]
              go_upto_region 15 with fail
              rw [HWX.out]
              have hcs' := cell_kept HXX.out.1 hcs
              have HRZ := Lib.hid (HRC.out.below HXX.out.1)
              obtain ⟨wz, hwz⟩ : ∃ z, z = wx := ⟨_, rfl⟩
              subst hwz
              clear hcv hcs hq0
              have HTR : Hid (wz.there w.heap.size 0 2) := by
                show World.there _ _ _ _
                intro y hy
                obtain ⟨t1, t2⟩ := HT0.out y hy
                have hbq : wz.heap[w.heap.size]? = wA.heap[w.heap.size]? := (HRZ.out.blw.block _ (by omega)).trans HBA1.out
                exact ⟨by rw [World.cell?_of_block hbq]; exact t1, by rw [← t2]; exact World.frozen?_of_block hbq⟩
              go_wp2_with (first
                | (refine stC 50 (.tmp 4) (.tmp 81) rfl rfl w.heap.size 0 [.slice none 0 0, .int .u8 0] rfl rfl HTR.out infRC2 (cch_one _ _ _ _) ?_)
                | fail)
              refine bodyPost_ret (R := RPCR w V) (ret_mid3 Try.results28 _ _ _ _ [.slice none 0 0, .int .u8 0] _ rfl (World.rangeAt_setCells_same _ _ _ _ HTR.out) Try.underlying50 rfl infRC2 _ _ rfl rfl) rfl ⟨Below.setCells (HBB.out.trans (HRZ.out.blw.mono (Nat.le_succ _))) _ (Nat.le_refl _) _ _, .inl ⟨by rw [HVV.out]; decide, by rw [HVV.out]; rfl⟩⟩

          have h8o : hdS F (xs.drop t) = 8 * (sn + 1) := by have h1 := hdS_other (k := F) hk (HB.out.drop t); rw [HGD.out] at h1; omega
          obtain ⟨M, hMe⟩ : ∃ q : Nat, q = 8 * (sn + 1) := ⟨_, rfl⟩
          rw [← hMe] at h8o
          have e8 : 8 * ((sn : Int) + 1) = (M : Int) := by omega
          have hm8 : 8 ≤ M := by omega
          have hkb : (F == 44) = false := by simpa using hk
          by_cases h8 : n < t + M
          · have HVV : Hid (V = (10, [], 0, 0)) := pc_err HV.out (hdE_short hj (fun h => hF h.1) (.inr (by rw [HRL.out, h8o]; omega))) (by decide)
            obtain ⟨wz, hwz⟩ : ∃ z, z = wr := ⟨_, rfl⟩
            subst hwz
            have HRZ := HRC
            have hMle : M ≤ 2048 := by omega
            clear hMe
            go_wp2_with fail
            refine (r6kind_any F _ F0 F1).mono ?_
            rintro e w1 ⟨rfl, rfl⟩
            rw [HK.out]
            have HTR : Hid (wz.there w.heap.size 0 2) := by
              show World.there _ _ _ _
              intro y hy
              obtain ⟨t1, t2⟩ := HT0.out y hy
              have hbq : wz.heap[w.heap.size]? = wA.heap[w.heap.size]? := (HRZ.out.blw.block _ (by omega)).trans HBA1.out
              exact ⟨by rw [World.cell?_of_block hbq]; exact t1, by rw [← t2]; exact World.frozen?_of_block hbq⟩
            go_wp2_with (first
              | (refine stC 50 (.tmp 4) (.tmp 55) rfl rfl w.heap.size 0 [.slice none 0 0, .int .u8 0] rfl rfl HTR.out infRC2 (cch_one _ _ _ _) ?_)
              | fail)
            refine bodyPost_ret (R := RPCR w V) (ret_mid3 Try.results28 _ _ _ _ [.slice none 0 0, .int .u8 0] _ rfl (World.rangeAt_setCells_same _ _ _ _ HTR.out) Try.underlying50 rfl infRC2 _ _ rfl rfl) rfl ⟨Below.setCells (HBB.out.trans (HRZ.out.blw.mono (Nat.le_succ _))) _ (Nat.le_refl _) _ _, .inl ⟨by rw [HVV.out]; decide, by rw [HVV.out]; rfl⟩⟩

          have hM : hdS F (xs.drop t) = M := h8o
          have HDD : Hid (hdD F (xs.drop t) = (xs.drop (t + 2)).take (M - 2)) := hdD_at hM
          obtain ⟨D, hD⟩ : ∃ y, (xs.drop (t + 2)).take (M - 2) = y := ⟨_, rfl⟩
          rw [hD] at HDD
          have HDE := Lib.hid hD
          have HBD : Hid (Byt D) := by show Byt D; rw [← HDD.out]; exact hdD_byt (HB.out.drop t)
          have HLD : Hid (D.length ≤ 2046) := by show _ ≤ _; rw [← HDD.out]; exact hdD_len (HB.out.drop t)
          have HDL : Hid (D.length = M - 2) := by show _ = _; rw [← hD, List.length_take, List.length_drop, HN.out]; omega
          have hcv : ∀ q : Nat, (convert 27 9 (.slice (some ⟨bb, oo + t2, none⟩) (M - 2) q)).run Try.prog wr = .ok (.string (str D)) wr := fun q => run_string_rd wr q HDL.out (by rw [← hD, HT2.out]; exact HRW.out.cut (by rw [HN.out]; omega)) HBD.out
          obtain ⟨wx, hwx⟩ : ∃ y, wr.alloc (.cells #[.int .u8 F, .string (str D)] 87) = y := ⟨_, rfl⟩
          have hbx : Below wr.heap.size wr wx := by rw [← hwx]; exact (Below.refl _ _).alloc (Nat.le_refl _) _
          have hsx : wx.heap.size = wr.heap.size + 1 := by rw [← hwx]; simp
          have hxx0 : wx.cell? ⟨wr.heap.size, 0, none⟩ = some (.int .u8 F) := by rw [← hwx]; exact World.cell?_alloc_new _ _ _ _
          have hxx1 : wx.cell? ⟨wr.heap.size, 1, none⟩ = some (.string (str D)) := by rw [← hwx]; exact World.cell?_alloc_new _ _ _ _
          have HWX := Lib.hid hwx
          have HXX := Lib.hid (And.intro hbx (And.intro hxx0 hxx1))
          have HSX := Lib.hid hsx
          obtain ⟨tm, htmE⟩ : ∃ q, t + M = q := ⟨_, rfl⟩
          have e3 : (t : Int) + (M : Int) = (tm : Int) := by omega
          have htm : tm ≤ n := by omega
          have e3' : (tm : Int) ≤ (n : Int) := by omega
          have e4 : (t2 : Int) ≤ (tm : Int) := by omega
          have e5 : tm - t2 = M - 2 := by have := HT2.out; omega
          have HTM := Lib.hid htmE
          have HMM := Lib.hid hM
          clear hM hD hwx hbx hsx hxx0 hxx1 htmE

          have HE0 : hdE F j (xs.drop t) = 0 := hdE_other (HB.out.drop t) hk HK.out hj (fun h => hF h.1) (by rw [HRL.out]; omega) (by rw [HMM.out, HRL.out]; omega)

          have hvo := pc_ok HV.out HE0
          rw [HDD.out, getD_drop, Nat.add_zero, List.drop_drop, HMM.out, show (t : Int) + (M : Nat) = (tm : Int) by have := HTM.out; omega, HTM.out, HFF.out] at hvo
          obtain ⟨LT, hLT⟩ : ∃ v, ltE F D = v := ⟨_, rfl⟩
          have HLTE := Lib.hid hLT
          rw [hLT] at hvo
          have HVT : Hid (LT = true → V = (0, acc ++ [(F, D)], xs.getD t 0, (tm : Int))) := fun e => by rw [hvo, if_pos e]
          have HVF : Hid (LT = false → V = pcC (17 - (j + 1)) (acc ++ [(F, D)]) (xs.getD t 0) (xs.drop tm) (tm : Int)) := fun e => by rw [hvo, if_neg (by rw [e]; decide)]
          clear hvo hLT

          clear hMe h8o HE0
          go_wp2_with fail

          refine (r6kind_any F _ F0 F1).mono ?_
          rintro e w1 ⟨rfl, rfl⟩
          rw [HK.out]

          go_upto_region 15 with fail
          rw [HWX.out]
          clear hcv hcs
          obtain ⟨wy, hwy⟩ : ∃ z, z = wx := ⟨_, rfl⟩
          subst hwy
          have HXY := Lib.hid HXX.out.1
          have HX0 := Lib.hid HXX.out.2.1
          have HX1 := Lib.hid HXX.out.2.2
          have HLY : Hid (wr.heap.size < wy.heap.size) := by have := HSX.out; show _ < _; omega

          obtain ⟨g, d', w7, hrun, hq7, hf7, hrc7, hk7, hne⟩ := HRC.out.app hjl F D ⟨F0, F1⟩ HBD.out HLD.out wy HXY.out
          have HRUN := Lib.hid hrun
          have hup : ∀ q, blk am = some q → q < wr.heap.size := fun q e => (HRC.out.row.row.blk_ge q e).2
          have hxk : ∀ o, (w7.setCell ⟨w.heap.size + 1, 0, none⟩ (.slice (some ⟨g, 0, none⟩) (j + 1) d')).cell? ⟨wr.heap.size, o, none⟩ = wy.cell? ⟨wr.heap.size, o, none⟩ := fun o => by
            have h1 : (w7.setCell ⟨w.heap.size + 1, 0, none⟩ (.slice (some ⟨g, 0, none⟩) (j + 1) d')).heap[wr.heap.size]? = w7.heap[wr.heap.size]? := Below.heap_setCell w7 ⟨w.heap.size + 1, 0, none⟩ _ _ (fun e => by have e' : wr.heap.size = w.heap.size + 1 := e; have := HRC.out.sz; omega)
            have h2 : w7.heap[wr.heap.size]? = wy.heap[wr.heap.size]? := hk7.block _ HLY.out (fun e => by have := hup _ e; omega)
            exact World.cell?_of_block (h1.trans h2)
          have hx80 := (hxk 0).trans HX0.out
          have hx81 := (hxk 1).trans HX1.out
          have HR8 := Lib.hid hrc7
          obtain ⟨w8, hw8⟩ : ∃ y, w7.setCell ⟨w.heap.size + 1, 0, none⟩ (.slice (some ⟨g, 0, none⟩) (j + 1) d') = y := ⟨_, rfl⟩
          rw [hw8] at hx80 hx81 HR8
          have HW8 := Lib.hid hw8
          have hx0 := HX0.out
          have hx1 := HX1.out
          have hq0y := cell_kept HXY.out hq0
          obtain ⟨S, hS⟩ : ∃ y, str D = y := ⟨_, rfl⟩
          rw [hS] at hx1 hx81 HRUN
          have HS := Lib.hid hS
          have HLT : Hid (∀ wz, Calls Try.prog 46 #[.agg #[.int .u8 F, .string S]] wz (Gives wz (.bool LT))) := fun wz => by
            have h1 := r6later_any F D wz F0 F1 HBD.out (by have := HLD.out; omega)
            rw [HLTE.out] at h1
            rw [← HS.out]
            exact h1
          clear hrun hrc7 hk7 hne hup hxk hw8 hq0 hS
          go_upto_region 18 with (at_builtin; refine Lib.wpList_append_run _ rfl (.tmp 83) (.tmp 85) _ _ rfl _ _ rfl rfl _ _ HRUN.out ?_)
          rw [HW8.out]
          clear hx0 hx1 hq0y hq7 hf7
          go_wp2_with fail
          refine (HLT.out _).mono ?_
          rintro e w9 ⟨rfl, hb9⟩
          have HR9 := Lib.hid (HR8.out.below hb9)
          have h9c := HROW.out w9 (HBB.out.trans ((HR9.out.blw).mono (Nat.le_succ _)))
          clear hb9 hx80 hx81
          go_wp2_with fail
          go_roundw
          case rel => exact ⟨xs.getD t 0, tm, j + 1, LT, acc ++ [(F, D)], some ⟨g, 0, none⟩, d', rfl, (HB.out.get t).1, (HB.out.get t).2, rfl, htm, rfl, HR9.out, HVT.out, HVF.out⟩
          case measure => rw [HRC.out.lenAt, HR9.out.lenAt]; omega
end Go.Proofs.Ythipnkaghddbhaa

/-
  The contract of header of package ipsix's reader of chains. Conditions: those of its state.
-/
import Derived.Test.YthipnkaghddbhaaSxHeadM
import Derived.BigQuiet
import Derived.Deep.RegionHeld3
namespace Go.Proofs.Ythipnkaghddbhaa
open Go.RowKit

set_option linter.unusedSimpArgs false in
set_option maxRecDepth 100000 in
set_option maxHeartbeats 4000000 in
theorem sxHeader_any (base g gr : Nat) (w : World) (ea : Option Addr) (en ec : Nat) (es : List Ex) (p : Int) (ra : Option Addr) (rn rc : Nat) (rest : List Int) (t : Int)
    (h : Cr base g gr w ea en ec es p ra rn rc rest t) : Calls Try.prog 59 #[.pointer (some ⟨g, 0, none⟩)] w (HdR base g gr w es p rest t) := by
  have HH := Lib.hid h
  have HBS : Hid (base ≤ w.heap.size) := by show _ ≤ _; have := h.gl; have := h.lt; have := h.lo; omega
  have hrl : rest.length = rn := h.rd.len
  have hfw := h.few
  have hln := h.len
  obtain ⟨wA, hwA⟩ : ∃ x, (w.alloc (.cells #[.int .u8 0, .slice none 0 0] 71)).alloc (.cells #[.int .u8 p, .slice none 0 0] 71) = x := ⟨_, rfl⟩
  have hbA : Below w.heap.size w wA := by rw [← hwA]; exact ((Below.refl _ _).alloc (Nat.le_refl _) _).alloc (by simp) _
  have HBA := Lib.hid hbA
  have HA := Lib.hid (h.below hbA)
  have hec := h.cap
  have hem := h.row.le.2
  have hem2 : en ≤ 9223372036854775807 := by omega
  have hb1 : Below w.heap.size w (w.alloc (.cells #[.int .u8 0, .slice none 0 0] 71)) := (Below.refl _ _).alloc (Nat.le_refl _) _
  have hb2 : Below w.heap.size w ((w.alloc (.cells #[.int .u8 0, .slice none 0 0] 71)).alloc (.cells #[.int .u8 p, .slice none 0 0] 71)) := hb1.alloc (by simp) _
  have q1 := cell_kept hb1 h.c1
  have q0 := cell_kept hb2 h.c0
  have q2 := cell_kept hb2 h.c2
  have HSZ : Hid (wA.heap.size = w.heap.size + 2) := by rw [← hwA]; show _ = _; simp
  have HX : Hid (wA.heap[w.heap.size + 1]? = some (.cells #[.int .u8 p, .slice none 0 0] 71 (0, 0))) := by
    show _ = _
    rw [← hwA]
    have e := Blk_new (w.alloc (.cells #[.int .u8 0, .slice none 0 0] 71)) #[.int .u8 p, .slice none 0 0] 71
    rw [show (w.alloc (.cells #[.int .u8 0, .slice none 0 0] 71)).heap.size = w.heap.size + 1 by simp] at e
    exact e
  have HZ : Hid (wA.heap[w.heap.size]? = some (.cells #[.int .u8 0, .slice none 0 0] 71 (0, 0))) := by
    show _ = _
    rw [← hwA, Below.heap_alloc _ _ _ (by simp)]
    exact Blk_new w _ _
  have HZW : Hid (((w.alloc (.cells #[.int .u8 0, .slice none 0 0] 71)).alloc (.cells #[.int .u8 p, .slice none 0 0] 71)).rangeAt w.heap.size 0 [.int .u8 0, .slice none 0 0]) := by
    rw [hwA]
    exact range_two (by rw [cell_of_row _ _ 0 _ _ (0, 0) HZ.out]; rfl) (by rw [cell_of_row _ _ 1 _ _ (0, 0) HZ.out]; rfl)
  have HBW : Hid (Below w.heap.size w ((w.alloc (.cells #[.int .u8 0, .slice none 0 0] 71)).alloc (.cells #[.int .u8 p, .slice none 0 0] 71))) := hb2
  have HWA := Lib.hid hwA
  have HKIND := Lib.hid h.kind
  clear hb1 hb2 hwA h
  by_cases hbad : en = 16 ∨ (p = 0 ∧ 0 < en)
  · have HE : Hid (hdE p es.length rest = 60) := by show _ = _; rw [hdE, if_pos (by rw [hln]; exact hbad)]
    by_cases h16 : en = 16
    · subst h16
      clear hbad hbA
      go_enter Try.func59, Try.ntmps59
      go_wp2_with fail
      refine bodyPost_ret (ret_mid2 Try.results59 _ _ _ _ x0 _ rfl HZW.out Try.underlying71 rfl infX2 _ rfl) rfl ⟨HBW.out.mono HBS.out, .inl ⟨by rw [HE.out]; decide, by rw [HE.out]; rfl⟩⟩
    · obtain ⟨rfl, h0⟩ : p = 0 ∧ 0 < en := by omega
      have b16 : ((en : Int) == 16) = false := by simp; omega
      have h0' : (0 : Int) < (en : Int) := by omega
      clear hbad hbA
      go_enter Try.func59, Try.ntmps59
      go_wp2_with fail
      refine bodyPost_ret (ret_mid2 Try.results59 _ _ _ _ x0 _ rfl HZW.out Try.underlying71 rfl infX2 _ rfl) rfl ⟨HBW.out.mono HBS.out, .inl ⟨by rw [HE.out]; decide, by rw [HE.out]; rfl⟩⟩
  have b16 : ((en : Int) == 16) = false := by simp; omega
  have HNB := Lib.hid hbad
  by_cases hp0 : p = 0
  · have e0 : en = 0 := by omega
    have b0 : (p == 0) = true := by simpa using hp0
    have b1 : ¬ (0 : Int) < (en : Int) := by omega
    have HP0 := Lib.hid hp0
    clear hbad hbA hp0 e0
    go_enter Try.func59, Try.ntmps59
    go_upto_region 4 with fail
    rw [HWA.out] at q0 q2 ⊢
    clear q1
    obtain ⟨k0, k1⟩ := HKIND.out
    have HTA : Hid (wA.there w.heap.size 0 2) := row_there HZ.out 2 rfl
    by_cases hl2 : rest.length < 2
    · have HE : Hid (hdE p es.length rest = 10) := by show _ = _; rw [hdE, if_neg (by rw [hln]; exact HNB.out), if_pos hl2]
      go_wp2_with fail
      refine (rTake_short gr ra rn rc t 2 rest _ HA.out.rd (by omega)).mono ?_
      rintro e w1 ⟨rfl, rfl⟩
      go_wp2_with (first
          | (refine stC 71 _ _ rfl rfl _ 0 x0 rfl rfl HTA.out infX2 x0_one ?_)
          | fail)
      refine bodyPost_ret (ret_mid2 Try.results59 _ _ _ _ x0 _ rfl (World.rangeAt_setCells_same _ _ _ _ HTA.out) Try.underlying71 rfl infX2 _ rfl) rfl ⟨Below.setCells (HBA.out.mono HBS.out) _ HBS.out _ _, .inl ⟨by rw [HE.out]; decide, by rw [HE.out]; rfl⟩⟩
    · have HL2 : Hid (2 ≤ rest.length) := by show _ ≤ _; omega
      go_wp2_with fail
      have ht0 := HA.out.t0
      have ht1 := HA.out.t1
      refine (rTake_yes gr ra rn rc 2 t rest _ HA.out.rd (by omega) ht0 (by omega)).mono ?_
      rintro e w1 ⟨a1, n1, c1, ra1, rn1, rc1, rfl, ho1, hr1, hk1, hb1⟩
      have hlen2 : (rest.take 2).length = 2 := by rw [List.length_take]; omega
      have hn1 : n1 = 2 := by have := ho1.len; omega
      subst hn1
      have HR1 : Hid (Cr base g gr w1 ea en ec es p ra1 rn1 rc1 (rest.drop 2) (t + (2 : Nat))) := HA.out.took hk1 hr1 hb1 (by omega) (by rw [List.length_drop]; omega)
      have hgrlt : gr < w.heap.size := by have := HH.out.gl; have := HH.out.lt; omega
      have HZ1 : Hid (w1.heap[w.heap.size]? = some (.cells #[.int .u8 0, .slice none 0 0] 71 (0, 0))) := hk1.heap HZ.out (by omega)
      have HX1 : Hid (w1.heap[w.heap.size + 1]? = some (.cells #[.int .u8 p, .slice none 0 0] 71 (0, 0))) := hk1.heap HX.out (by omega)
      have HB1 : Hid (Below base w w1) := by
        have h1 : Below base wA w1 := hk1.below (by have := HSZ.out; have := HBS.out; omega) (fun k e => by have := HA.out.lo; omega)
        exact (HBA.out.mono HBS.out).trans h1
      obtain ⟨b1', o1', rfl, hc1⟩ := ho1.rd (by intro e; rw [e] at hlen2; simp at hlen2)
      have hcc0 := hc1 0 (by omega)
      have hcc1 := hc1 1 (by omega)
      have hx0 : (rest.take 2).getD 0 0 = rest.getD 0 0 := by simp
      have hx1 : (rest.take 2).getD 1 0 = rest.getD 1 0 := by simp
      rw [hx0, Nat.add_zero] at hcc0
      rw [hx1] at hcc1
      obtain ⟨nx, hnx⟩ : ∃ v, rest.getD 0 0 = v := ⟨_, rfl⟩
      obtain ⟨sc, hsc⟩ : ∃ v, rest.getD 1 0 = v := ⟨_, rfl⟩
      have hbyt : Byt rest := HA.out.rd.byt
      have hnr := hbyt.get 0
      have hsr := hbyt.get 1
      rw [hnx] at hcc0 hnr
      rw [hsc] at hcc1 hsr
      have HNX := Lib.hid hnx
      have HSC := Lib.hid hsc
      have HNR := Lib.hid hnr
      have hsr0 : 0 ≤ sc := hsr.1
      have hsr1 : sc < 256 := hsr.2
      have i12 : 2 ≤ c1 := ho1.le.1
      have r2 := HR1.out.c2
      have HRL : Hid ((rest.drop 2).length + 2 = rn) := by show _ = _; rw [List.length_drop]; omega
      clear hc1 hx0 hx1 hnx hsc hnr hsr ho1 hr1 hk1 hb1 hlen2 hbyt q0 q2 hl2 HTA
      go_wp2_with fail
      go_quiet (fail)
      have hbd : Below w1.heap.size w1 (w1.drewN nq) := ⟨rfl, rfl, rfl, Nat.le_refl _, fun _ _ => rfl⟩
      obtain ⟨w2, hw2⟩ : ∃ x, w1.drewN nq = x := ⟨_, rfl⟩
      rw [hw2] at hbd ⊢
      have HR2 := Lib.hid (HR1.out.below hbd)
      have HZ2 := Lib.hid (heap_kept hbd HZ1.out)
      have HX2 := Lib.hid (heap_kept hbd HX1.out)
      have HB2 : Hid (Below base w w2) := HB1.out.trans (hbd.mono (by have := HR1.out.lo; have := HR1.out.lt; have := HR1.out.gl; omega))
      have s2 := HR2.out.c2
      have x20 : w2.cell? ⟨w.heap.size + 1, 0, none⟩ = some (.int .u8 p) := by rw [cell_of_row _ _ 0 _ _ (0, 0) HX2.out]; rfl
      have x21 : w2.frozen? ⟨w.heap.size + 1, 1, none⟩ = false := frozen_of_row w2 _ 1 _ _ HX2.out
      have x22 : w2.cell? ⟨w.heap.size + 1, 1, none⟩ = some (.slice none 0 0) := by rw [cell_of_row _ _ 1 _ _ (0, 0) HX2.out]; rfl
      have hne : ¬ g = w.heap.size + 1 := by have := HH.out.gl; omega
      have hne2 : ¬ w.heap.size + 1 = g := by omega
      have HKS : Hid (∀ (wz : World) (v : Value), wz.cell? ⟨g, 2, none⟩ = some (.pointer (some ⟨gr, 0, none⟩)) → wz.cell? ⟨w.heap.size + 1, 0, none⟩ = some (.int .u8 p) →
          (wz.setCell ⟨w.heap.size + 1, 1, none⟩ v).cell? ⟨g, 2, none⟩ = some (.pointer (some ⟨gr, 0, none⟩)) ∧ (wz.setCell ⟨w.heap.size + 1, 1, none⟩ v).cell? ⟨w.heap.size + 1, 0, none⟩ = some (.int .u8 p)) := fun wz v h1 h2 =>
        ⟨cell_other (by simp; try omega) h1, cell_other (by simp) h2⟩
      clear r2 hcc0 hcc1 hbd hw2 HB1 HR1 HZ1 HX1 HWA HZW HBW HBA i12
      obtain ⟨d0, d1⟩ := dsz_range (k := p) hsr0 hsr1
      obtain ⟨D, hD⟩ : ∃ v, dsz p sc = v := ⟨_, rfl⟩
      rw [hD] at d0 d1
      have HD := Lib.hid hD
      have HDS : Hid (Calls Try.prog 65 #[.int .u8 p, .int .u8 sc] = Calls Try.prog 65 #[.int .u8 p, .int .u8 sc]) := rfl
      have HDC : Hid (∀ wz, Calls Try.prog 65 #[.int .u8 p, .int .u8 sc] wz (fun e w' => e = .returned (.int .i64 D) ∧ wz = w')) := fun wz => by
        have hq := sxDataSize_any p sc wz hsr0 hsr1
        rw [HD.out] at hq
        exact hq
      have HDD : Hid (hdS p rest = 2 + D.toNat) := by show _ = _; rw [hdS, HSC.out, HD.out]
      clear hD HDS
      by_cases hshort : ((rest.drop 2).length : Int) < D
      · have HE : Hid (hdE p es.length rest = 10) := by
          show _ = _
          rw [hdE, if_neg (by rw [hln]; exact HNB.out), if_neg (by have := HL2.out; omega), if_pos (by rw [HDD.out]; rw [List.length_drop] at hshort; omega)]
        have HTK : Hid (∀ wz : World, Below w2.heap.size w2 wz → Calls Try.prog 64 #[.pointer (some ⟨gr, 0, none⟩), .int .i64 D] wz (fun e w' => e = .returned (.tuple #[.slice none 0 0, .int .i64 10]) ∧ wz = w')) := fun wz hz =>
          rTake_short gr ra1 rn1 rc1 _ D (rest.drop 2) _ (HR2.out.below hz).rd (by have := HR2.out.rd.len; omega)
        have HBZ : Hid (Below w2.heap.size w2 w2.drew) := to_drew w2
        go_wp2_with fail
        go_region_held3 (fun w' => w'.cell? ⟨g, 2, none⟩ = some (.pointer (some ⟨gr, 0, none⟩)) ∧ w'.cell? ⟨w.heap.size + 1, 0, none⟩ = some (.int .u8 p)) (first | (go_keep; done) | exact HKS.out _ _ s2 x20)
          (first
            | ((go_at_call 65; (with_reducible refine (HDC.out _).mono ?_); rintro e wa ⟨rfl, rfl⟩))
            | ((go_at_call 64; (with_reducible refine (HTK.out _ HBZ.out).mono ?_); rintro e wb ⟨rfl, rfl⟩))
            | fail)
        have hks : Kept (fun k => k = w.heap.size + 1) w2 ((w2.setCell ⟨w.heap.size + 1, 1, none⟩ (.slice none 0 0)).drew) := (Kept.setCell (S := fun k => k = w.heap.size + 1) _ _ _ rfl).drew
        have HT3 : Hid (((w2.setCell ⟨w.heap.size + 1, 1, none⟩ (.slice none 0 0)).drew).there w.heap.size 0 2) := row_there (hks.heap HZ2.out (by omega)) 2 rfl
        have HB3 : Hid (Below base w ((w2.setCell ⟨w.heap.size + 1, 1, none⟩ (.slice none 0 0)).drew)) := HB2.out.trans (hks.below (by have := HR2.out.lo; have := HR2.out.lt; have := HR2.out.gl; omega) (fun k e => by have := HBS.out; omega))
        clear hks s2 x20 x21 x22
        go_wp2_with (first
          | (refine stC 71 _ _ rfl rfl _ 0 x0 rfl rfl HT3.out infX2 x0_one ?_)
          | fail)
        refine bodyPost_ret (ret_mid2 Try.results59 _ _ _ _ x0 _ rfl (World.rangeAt_setCells_same _ _ _ _ HT3.out) Try.underlying71 rfl infX2 _ rfl) rfl ⟨Below.setCells HB3.out _ HBS.out _ _, .inl ⟨by rw [HE.out]; decide, by rw [HE.out]; rfl⟩⟩
      · have HTK : Hid (∀ wz : World, Below w2.heap.size w2 wz → Calls Try.prog 64 #[.pointer (some ⟨gr, 0, none⟩), .int .i64 D] wz (Took wz gr ra1 (rest.drop 2) D.toNat (t + (2 : Nat)))) := fun wz hz =>
          rTake_int gr ra1 rn1 rc1 D _ (rest.drop 2) _ (HR2.out.below hz).rd (by omega) (by have := HR2.out.rd.len; omega) (by omega) (by have := HL2.out; omega)
        have HBZ : Hid (Below w2.heap.size w2 w2.drew) := to_drew w2
        have HKC : Hid (∀ wb, Kept (fun k => k = gr) w2.drew wb → wb.cell? ⟨g, 2, none⟩ = some (.pointer (some ⟨gr, 0, none⟩)) ∧ wb.cell? ⟨w.heap.size + 1, 0, none⟩ = some (.int .u8 p) ∧ wb.frozen? ⟨w.heap.size + 1, 1, none⟩ = false ∧ wb.cell? ⟨w.heap.size + 1, 1, none⟩ = some (.slice none 0 0)) := fun wb hk => by
          have hxx := hk.heap HX2.out (by omega)
          refine ⟨?_, by rw [cell_of_row _ _ 0 _ _ (0, 0) hxx]; rfl, frozen_of_row wb _ 1 _ _ hxx, by rw [cell_of_row _ _ 1 _ _ (0, 0) hxx]; rfl⟩
          rw [cell_of_row _ g 2 _ _ (0, 0) (hk.heap HR2.out.at_ (fun e => by have := HR2.out.lt; omega))]
          rfl
        go_wp2_with fail
        go_region_held3 (fun w' => w'.cell? ⟨g, 2, none⟩ = some (.pointer (some ⟨gr, 0, none⟩)) ∧ w'.cell? ⟨w.heap.size + 1, 0, none⟩ = some (.int .u8 p)) (first | (go_keep; done) | exact HKS.out _ _ s3 x30)
          (first
            | ((go_at_call 65; (with_reducible refine (HDC.out _).mono ?_); rintro e wa ⟨rfl, rfl⟩))
            | ((go_at_call 64; (with_reducible refine (HTK.out _ HBZ.out).mono ?_); rintro e wb ⟨a3, n3, c3, ra3, rn3, rc3, rfl, ho3, hr3, hk3, hb3⟩; obtain ⟨s3, x30, x31, x32⟩ := HKC.out _ hk3; have HO3 := Lib.hid ho3; have HRD3 := Lib.hid hr3; have HK3 := Lib.hid hk3; have HBB3 := Lib.hid hb3; clear ho3 hr3 hk3 hb3))
            | fail)
        obtain ⟨w3, hw3⟩ : ∃ y, wb.setCell ⟨w.heap.size + 1, 1, none⟩ (.slice a3 n3 c3) = y := ⟨_, rfl⟩
        have hkb : Kept (fun k => k = gr) w2 wb := ⟨HK3.out.os, HK3.out.tape, HK3.out.output, HK3.out.size, HK3.out.block⟩
        have hks : Kept (fun k => k = w.heap.size + 1) wb w3 := by rw [← hw3]; exact Kept.setCell (S := fun k => k = w.heap.size + 1) _ _ _ rfl
        have hg2 : w2.heap.size ≤ wb.heap.size := hkb.size
        have hgl := HR2.out.gl
        have hglt := HR2.out.lt
        have hglo := HR2.out.lo
        have hxlt : w.heap.size + 1 < w2.heap.size := (Array.getElem?_eq_some_iff.1 HX2.out).1
        have hHHg := HH.out.gl
        have hst : rest.drop (hdS p rest) = (rest.drop 2).drop D.toNat := by rw [HDD.out, List.drop_drop]
        have hdt : (rest.drop 2).take D.toNat = hdD p rest := by rw [hdD, HSC.out, HD.out]
        have hcr3 : Cr base g gr wb ea en ec es p ra3 rn3 rc3 (rest.drop (hdS p rest)) (t + hdS p rest) := by
          have hsh := hshort
          rw [List.length_drop] at hsh
          have hq := HR2.out.took hkb HRD3.out HBB3.out (by omega) (by rw [List.length_drop, List.length_drop]; have := HL2.out; omega)
          rw [hst, HDD.out, show t + ((2 + D.toNat : Nat) : Int) = t + ((2 : Nat) : Int) + (D.toNat : Int) by omega]
          exact hq
        have HR3 : Hid (Cr base g gr w3 ea en ec es p ra3 rn3 rc3 (rest.drop (hdS p rest)) (t + hdS p rest)) := by
          refine ⟨hcr3.lo, hcr3.lt, hks.heap hcr3.at_ (by omega), ?_, hcr3.len, hcr3.few, hcr3.kind, ?_, hcr3.rd.keep hks (by omega) (fun b hb k => by have := (hcr3.rb b hb).2; omega), hcr3.rb, hcr3.t0, hcr3.t1⟩
          · exact hcr3.row.keep hks (fun b hb k => by
              have := (HR2.out.row.blk_ge b hb).2
              rcases hcr3.row.cases with ⟨h1, _⟩ | ⟨q, cur, h1, _, h2, _⟩
              · rw [h1] at hb; cases hb
              · rw [h1] at hb; simp [blk] at hb; subst hb
                rcases HH.out.row.cases with ⟨h3, _⟩ | ⟨q', cur', h3, _, h4, _⟩
                · rw [h3] at h1; cases h1
                · rw [h3] at h1; cases h1
                  have := (Array.getElem?_eq_some_iff.1 h4).1
                  omega)
          · intro x hx
            exact (hcr3.exts x hx).keep hks (fun b hb k => by have := ((HH.out.exts x hx).own.blk_ge b hb).2; omega)
        have HX3 : Hid (w3.heap[w.heap.size + 1]? = some (.cells #[.int .u8 p, .slice a3 n3 c3] 71 (0, 0))) := by
          show _ = _
          rw [← hw3]
          exact set2_heap (hkb.heap HX2.out (by omega)) _
        have HZ3 : Hid (w3.heap[w.heap.size]? = some (.cells #[.int .u8 0, .slice none 0 0] 71 (0, 0))) := hks.heap (hkb.heap HZ2.out (by omega)) (by omega)
        have hown3 : Own wb (g + 1) a3 n3 c3 (hdD p rest) := by rw [← hdt]; exact HO3.out.mono (by show g + 1 ≤ w2.heap.size; omega)
        have hdlen : (hdD p rest).length = D.toNat := by rw [← hdt, List.length_take]; omega
        have HXK : Hid (XOk (g + 1) w3 ⟨p, a3, n3, c3, hdD p rest⟩) := by
          refine ⟨HKIND.out, hown3.keep hks (fun b hb k => by have := (HO3.out.blk_ge b hb).1; have h4 : w2.heap.size ≤ b := this; omega), ?_, ?_⟩
          · show Byt (hdD p rest)
            rw [← hdt]; exact (HA.out.rd.byt.drop 2).take _
          · show n3 ≤ 2046
            have := hown3.len; omega
        have HB3 : Hid (Below base w w3) := HB2.out.trans ((hkb.below (by omega) (fun k e => by omega)).trans (hks.below (by omega) (fun k e => by omega)))
        have HNL : Hid (¬ rest.length < 2 ∧ ¬ rest.length < hdS p rest) := by show _ ∧ _; have := HL2.out; rw [HDD.out]; rw [List.length_drop] at hshort; omega
        have hn3 : n3 ≤ 1099511627776 := by have := hown3.len; omega
        rw [hw3]
        clear hkb hks hg2 hglt hglo hst hdt hcr3 hown3 hdlen s2 x20 x21 x22 s3 x30 x31 x32 HK3 HRD3 HO3 HBB3 hw3 HKC HTK HDC HKS hshort
        have y30 : w3.cell? ⟨w.heap.size + 1, 0, none⟩ = some (.int .u8 p) := by rw [cell_of_row _ _ 0 _ _ (0, 0) HX3.out]; rfl
        have y31 : w3.cell? ⟨w.heap.size + 1, 1, none⟩ = some (.slice a3 n3 c3) := by rw [cell_of_row _ _ 1 _ _ (0, 0) HX3.out]; rfl
        obtain ⟨V, hV⟩ : ∃ v, scE p (hdD p rest) = v := ⟨_, rfl⟩
        have HV := Lib.hid hV
        clear hV
        go_wp2_with fail
        refine (sxSecond_any ⟨p, a3, n3, c3, hdD p rest⟩ w3 HXK.out.ok hn3).mono ?_
        rintro e w4 ⟨rfl, hb4⟩
        rw [HV.out]
        have z30 := cell_kept hb4 y30
        have z31 := cell_kept hb4 y31
        have HR4 := Lib.hid (HR3.out.below hb4)
        have HX4 := Lib.hid (heap_kept hb4 HX3.out)
        have HZ4 := Lib.hid (heap_kept hb4 HZ3.out)
        have HXK4 := Lib.hid (HXK.out.keep (S := fun _ => False) (Kept.of_below hb4 (fun i hi hi' => by omega)) (fun _ _ => id))
        have HB4 : Hid (Below base w w4) := HB3.out.trans (hb4.mono (by have := HR3.out.lo; have := HR3.out.lt; have := HR3.out.gl; omega))
        clear hb4 y30 y31
        by_cases hsv : sc = V
        · have bsv : (sc != V) = false := by simp [hsv]
          have HSV := Lib.hid hsv
          clear hsv
          go_wp2_with fail
          refine (sxExtRight_any ⟨p, a3, n3, c3, hdD p rest⟩ w4 HXK4.out.ok hn3).mono ?_
          rintro e w5 ⟨rfl, hb5⟩
          have y50 := cell_kept hb5 z30
          have y51 := cell_kept hb5 z31
          have HG5 := Lib.hid (HR4.out.below hb5).c0
          have HR5 := Lib.hid (HR4.out.below hb5)
          have HX5 := Lib.hid (heap_kept hb5 HX4.out)
          have HZ5 := Lib.hid (heap_kept hb5 HZ4.out)
          have HXK5 := Lib.hid (HXK4.out.keep (S := fun _ => False) (Kept.of_below hb5 (fun i hi hi' => by omega)) (fun _ _ => id))
          have HB5 : Hid (Below base w w5) := HB4.out.trans (hb5.mono (by have := HR4.out.lo; have := HR4.out.lt; have := HR4.out.gl; omega))
          clear hb5 z30 z31
          have HT5 : Hid (w5.there w.heap.size 0 2) := row_there HZ5.out 2 rfl
          cases hrt : rtE p (hdD p rest) with
          | false =>
            have HE : Hid (hdE p es.length rest = 60) := by
              show _ = _
              rw [hdE, if_neg (by rw [hln]; exact HNB.out), if_neg HNL.out.1, if_neg HNL.out.2, if_neg (by rw [hrt]; simp)]
            have HRT := Lib.hid hrt
            clear hrt
            go_wp2_with (first
          | (refine stC 71 _ _ rfl rfl _ 0 x0 rfl rfl HT5.out infX2 x0_one ?_)
          | fail)
            refine bodyPost_ret (ret_mid2 Try.results59 _ _ _ _ x0 _ rfl (World.rangeAt_setCells_same _ _ _ _ HT5.out) Try.underlying71 rfl infX2 _ rfl) rfl ⟨Below.setCells HB5.out _ HBS.out _ _, .inl ⟨by rw [HE.out]; decide, by rw [HE.out]; rfl⟩⟩
          | true =>
            have HE : Hid (hdE p es.length rest = 0) := by
              show _ = _
              rw [hdE, if_neg (by rw [hln]; exact HNB.out), if_neg HNL.out.1, if_neg HNL.out.2, if_pos (by rw [hrt, HV.out, HSC.out]; exact ⟨HSV.out.symm, rfl⟩)]
            clear hrt
            have HEN : Hid (en < 16) := by show _ < _; have := HNB.out; omega
            have HR5D : Hid (Cr base g gr w5.drew ea en ec es p ra3 rn3 rc3 (rest.drop (hdS p rest)) (t + hdS p rest)) := HR5.out.below (to_drew w5)
            have HXK5D : Hid (XOk (g + 1) w5.drew ⟨p, a3, n3, c3, hdD p rest⟩) := HXK5.out.keep (S := fun _ => False) (Kept.of_below (to_drew w5) (fun i hi hi' => by omega)) (fun _ _ => id)
            have HZD : Hid (w5.drew.heap[w.heap.size]? = some (.cells #[.int .u8 0, .slice none 0 0] 71 (0, 0))) := HZ5.out
            have HXD : Hid (w5.drew.heap[w.heap.size + 1]? = some (.cells #[.int .u8 p, .slice a3 n3 c3] 71 (0, 0))) := HX5.out
            have hsz5 : w.heap.size + 1 < w5.heap.size := (Array.getElem?_eq_some_iff.1 HX5.out).1
            obtain ⟨ga, ca, w6, hrun, hown6, hk6, hga⟩ := run_append_one w5.drew (g + 1) 44 44 71 (.agg #[.int .u8 0, .slice none 0 0]) 2 32 infX Try.underlying44 rfl (by omega) HR5D.out.row (xcs ⟨p, a3, n3, c3, hdD p rest⟩) rfl (xcs_one _)
              (by have := HR5D.out.gl; omega) (by omega) (by omega)
            have hea : ∀ b, blk ea = some b → b < w.heap.size := fun b hb => (HH.out.row.blk_ge b hb).2
            have HEA := Lib.hid hea
            have HRUN := Lib.hid hrun
            have HO6 := Lib.hid hown6
            have HK6 := Lib.hid hk6
            have HGA : Hid (∀ b, blk (some (⟨ga, 0, none⟩ : Addr)) = some b → b ≠ w.heap.size) := fun b hb e => by
              simp [blk] at hb
              subst hb
              rcases hga with e1 | e1
              · have := hea _ e1; omega
              · have : w5.heap.size < ga := e1
                omega
            have hek : ∀ b, blk ea = some b → g + 1 ≤ b := fun b hb => (HR5D.out.row.blk_ge b hb).1
            have hc6g : w6.heap[g]? = some (.cells #[.slice ea en ec, .int .u8 p, .pointer (some ⟨gr, 0, none⟩)] 98 (0, 0)) := hk6.heap HR5D.out.at_ (fun e => by have := hek _ e; omega)
            have hc6x : w6.heap[w.heap.size + 1]? = some (.cells #[.int .u8 p, .slice a3 n3 c3] 71 (0, 0)) := hk6.heap HXD.out (fun e => by have := hea _ e; omega)
            have hc6z : w6.heap[w.heap.size]? = some (.cells #[.int .u8 0, .slice none 0 0] 71 (0, 0)) := hk6.heap HZD.out (fun e => by have := hea _ e; omega)
            obtain ⟨w7, hw7⟩ : ∃ y, w6.setCell ⟨g, 0, none⟩ (.slice (some ⟨ga, 0, none⟩) (en + 1) ca) = y := ⟨_, rfl⟩
            have hkg7 : Kept (fun k => k = g) w6 w7 := by rw [← hw7]; exact Kept.setCell (S := fun k => k = g) _ _ _ rfl
            have hc7g : w7.heap[g]? = some (.cells #[.slice (some ⟨ga, 0, none⟩) (en + 1) ca, .int .u8 p, .pointer (some ⟨gr, 0, none⟩)] 98 (0, 0)) := by rw [← hw7]; exact heap_setCell_same w6 g 0 _ _ _ hc6g
            have hc7x := hkg7.heap hc6x (by omega)
            have hc7z := hkg7.heap hc6z (by have := HH.out.gl; omega)
            obtain ⟨w8, hw8⟩ : ∃ y, w7.setCell ⟨g, 1, none⟩ (.int .u8 nx) = y := ⟨_, rfl⟩
            have hkg8 : Kept (fun k => k = g) w7 w8 := by rw [← hw8]; exact Kept.setCell (S := fun k => k = g) _ _ _ rfl
            have hc8x := hkg8.heap hc7x (by omega)
            have hc8z := hkg8.heap hc7z (by have := HH.out.gl; omega)
            have HCR8 : Hid (Cr base g gr w8 (some ⟨ga, 0, none⟩) (en + 1) ca (es ++ [⟨p, a3, n3, c3, hdD p rest⟩]) nx ra3 rn3 rc3 (rest.drop (hdS p rest)) (t + hdS p rest)) := by
              rw [← hw8, ← hw7]
              exact HR5D.out.pushed HXK5D.out hown6 hk6 HEN.out nx HNR.out
            have HC8Z := Lib.hid hc8z
            have HT8 : Hid (w8.there w.heap.size 0 2) := row_there hc8z 2 rfl
            have HRG8 : Hid (w8.rangeAt (w.heap.size + 1) 0 (xcs ⟨p, a3, n3, c3, hdD p rest⟩)) := range_row2 hc8x
            have HB8 : Hid (Below base w w8) := by
              have hb6 : Below base w5.drew w6 := hk6.below (by have := HR5D.out.lo; have := HR5D.out.lt; have := HR5D.out.gl; omega) (fun k e => by have := hek _ e; have := HR5D.out.lo; have := HR5D.out.lt; omega)
              have hb7 : Below base w6 w7 := hkg7.below (by have := hb6.size; have := HR5D.out.lo; have := HR5D.out.lt; have := HR5D.out.gl; omega) (fun k e => by have := HR5D.out.lo; have := HR5D.out.lt; omega)
              have hb8 : Below base w7 w8 := hkg8.below (by have := hb7.size; have := hb6.size; have := HR5D.out.lo; have := HR5D.out.lt; have := HR5D.out.gl; omega) (fun k e => by have := HR5D.out.lo; have := HR5D.out.lt; omega)
              have hb5 : Below base w5 w5.drew := (to_drew w5).mono (by have := HR5D.out.lo; have := HR5D.out.lt; have h := HR5D.out.gl; exact Nat.le_of_lt (by show base < w5.drew.heap.size; omega))
              exact HB5.out.trans (hb5.trans (hb6.trans (hb7.trans hb8)))
            have u6 : w6.cell? ⟨g, 0, none⟩ = some (.slice ea en ec) := by rw [cell_of_row _ _ 0 _ _ (0, 0) hc6g]; rfl
            have f6 : w6.frozen? ⟨g, 0, none⟩ = false := frozen_of_row w6 _ 0 _ _ hc6g
            have u7 : w7.cell? ⟨g, 1, none⟩ = some (.int .u8 p) := by rw [cell_of_row _ _ 1 _ _ (0, 0) hc7g]; rfl
            have f7 : w7.frozen? ⟨g, 1, none⟩ = false := frozen_of_row w7 _ 1 _ _ hc7g
            have HS6 : Hid (w6.cell? ⟨w.heap.size + 1, 0, none⟩ = some (.int .u8 p) ∧ w6.cell? ⟨w.heap.size + 1, 1, none⟩ = some (.slice a3 n3 c3)) := ⟨by rw [cell_of_row _ _ 0 _ _ (0, 0) hc6x]; rfl, by rw [cell_of_row _ _ 1 _ _ (0, 0) hc6x]; rfl⟩
            have HS7 : Hid (w7.cell? ⟨w.heap.size + 1, 0, none⟩ = some (.int .u8 p) ∧ w7.cell? ⟨w.heap.size + 1, 1, none⟩ = some (.slice a3 n3 c3)) := ⟨by rw [cell_of_row _ _ 0 _ _ (0, 0) hc7x]; rfl, by rw [cell_of_row _ _ 1 _ _ (0, 0) hc7x]; rfl⟩
            have HW7 := Lib.hid hw7
            have HW8 := Lib.hid hw8
            have g5 := HG5.out
            clear hea hrun hown6 hk6 hga hek hc6g hc6x hc6z hkg7 hc7g hc7x hc7z hkg8 hc8x hc8z hw7 hw8
            go_upto_region 13 with fail
            have hw5d : Below w5.heap.size w5 w5.drew := to_drew w5
            refine wp_region_held_drew (S := fun w' => w'.cell? ⟨w.heap.size + 1, 0, none⟩ = some (.int .u8 p) ∧ w'.cell? ⟨w.heap.size + 1, 1, none⟩ = some (.slice a3 n3 c3)) (by kernel_rfl) ⟨y50, y51⟩ (fun hS => ?_)
            try simp only [Act.put, List.setIfInBounds_toArray, List.set_cons_zero, List.set_cons_succ]
            refine tk 0 82 (.pointer (some ⟨g, 0, none⟩)) rfl rfl (by kernel_rfl) (by kernel_rfl) (by kernel_rfl) (fun _ _ _ h => h) (Or.inl ⟨by rfl, fun w' h' => ?_⟩) hS ?_
            · go_simp
            try simp only [Act.put, List.setIfInBounds_toArray, List.set_cons_zero, List.set_cons_succ]
            refine tk 1 83 (.pointer (some ⟨g, 0, none⟩)) rfl rfl (by kernel_rfl) (by kernel_rfl) (by kernel_rfl) (fun _ _ _ h => h) (Or.inl ⟨by rfl, fun w' h' => ?_⟩) hS ?_
            · go_simp
            try simp only [Act.put, List.setIfInBounds_toArray, List.set_cons_zero, List.set_cons_succ]
            refine tk 2 84 (.pointer (some ⟨g, 0, none⟩)) rfl rfl (by kernel_rfl) (by kernel_rfl) (by kernel_rfl) (fun _ _ _ h => h) (Or.inl ⟨by rfl, fun w' h' => ?_⟩) hS ?_
            · go_simp
            try simp only [Act.put, List.setIfInBounds_toArray, List.set_cons_zero, List.set_cons_succ]
            refine tk 3 85 (.pointer (some ⟨g, 0, none⟩)) rfl rfl (by kernel_rfl) (by kernel_rfl) (by kernel_rfl) (fun _ _ _ h => h) (Or.inl ⟨by rfl, fun w' h' => ?_⟩) hS ?_
            · go_simp
            try simp only [Act.put, List.setIfInBounds_toArray, List.set_cons_zero, List.set_cons_succ]
            refine tk 4 86 (.pointer (some ⟨g, 0, none⟩)) rfl rfl (by kernel_rfl) (by kernel_rfl) (by kernel_rfl) (fun _ _ _ h => h) (Or.inl ⟨by rfl, fun w' h' => ?_⟩) hS ?_
            · go_simp
            try simp only [Act.put, List.setIfInBounds_toArray, List.set_cons_zero, List.set_cons_succ]
            refine tk 6 88 (.agg (xcs ⟨p, a3, n3, c3, hdD p rest⟩).toArray) rfl rfl (by kernel_rfl) (by kernel_rfl) (by kernel_rfl) (fun _ _ _ h => h) (Or.inl ⟨by rfl, fun w' h' => ?_⟩) hS ?_
            · have hz0 := h'.1
              have hz1 := h'.2
              unfold xcs
              go_simp
            try simp only [Act.put, List.setIfInBounds_toArray, List.set_cons_zero, List.set_cons_succ]
            refine wpAnyH_ready (rs := [5, 7]) (by kernel_rfl) (by simp) (AllReadyH.cons rfl (fun K hK => ?_) (AllReadyH.cons rfl (fun K hK => ?_) AllReadyH.nil))
            · rw [if_pos (by rfl)]
              go_wp2_with fail
              clear hS
              refine hK.out _ _ ⟨y50, y51⟩ (fun hS => ?_)
              clear hK K
              try simp only [Act.put, List.setIfInBounds_toArray, List.set_cons_zero, List.set_cons_succ]
              refine wpAnyH_ready (rs := [7]) (by kernel_rfl) (by simp) (AllReadyH.cons rfl (fun K hK => ?_) AllReadyH.nil)
              rw [if_pos (by rfl)]
              unfold xcs
              go_wp2_with fail
              clear hS
              refine hK.out _ _ ⟨cell_kept ((Below.refl _ _).alloc (Nat.le_refl _) _) y50, cell_kept ((Below.refl _ _).alloc (Nat.le_refl _) _) y51⟩ (fun hS => ?_)
              clear hK K
              try simp only [Act.put, List.setIfInBounds_toArray, List.set_cons_zero, List.set_cons_succ]
              refine wpAnyH_ready (rs := [8]) (by kernel_rfl) (by simp) (AllReadyH.cons rfl (fun K hK => ?_) AllReadyH.nil)
              rw [if_pos (by rfl)]
              refine Lib.wp_append_run _ _ _ _ _ rfl (.slice ea en ec) (.slice (some ⟨w5.heap.size, 0, none⟩) 1 1) (by rfl) (by rfl) _ _ HRUN.out ?_
              clear hS
              refine hK.out _ _ HS6.out (fun hS => ?_)
              clear hK K
              try simp only [Act.put, List.setIfInBounds_toArray, List.set_cons_zero, List.set_cons_succ]
              refine tk 9 91 (.pointer (some ⟨g, 0, none⟩)) rfl rfl (by kernel_rfl) (by kernel_rfl) (by kernel_rfl) (fun _ _ _ h => h) (Or.inl ⟨by rfl, fun w' h' => ?_⟩) hS ?_
              · go_simp
              try simp only [Act.put, List.setIfInBounds_toArray, List.set_cons_zero, List.set_cons_succ]
              refine tk 10 92 (.pointer (some ⟨g, 0, none⟩)) rfl rfl (by kernel_rfl) (by kernel_rfl) (by kernel_rfl) (fun _ _ _ h => h) (Or.inl ⟨by rfl, fun w' h' => ?_⟩) hS ?_
              · go_simp
              try simp only [Act.put, List.setIfInBounds_toArray, List.set_cons_zero, List.set_cons_succ]
              refine tk 11 93 (.pointer (some ⟨g, 0, none⟩)) rfl rfl (by kernel_rfl) (by kernel_rfl) (by kernel_rfl) (fun _ _ _ h => h) (Or.inl ⟨by rfl, fun w' h' => ?_⟩) hS ?_
              · go_simp
              try simp only [Act.put, List.setIfInBounds_toArray, List.set_cons_zero, List.set_cons_succ]
              refine wpAnyH_ready (rs := [12]) (by kernel_rfl) (by simp) (AllReadyH.cons rfl (fun K hK => ?_) AllReadyH.nil)
              rw [if_pos (by rfl)]
              go_wp2_with fail
              rw [HW7.out]
              clear hS
              refine hK.out _ _ HS7.out (fun hS => ?_)
              clear hK K
              refine wpAnyH_done (by kernel_rfl) ?_ _
              go_upto_region 15 with fail
              rw [HW8.out]
              go_wp2_with (first
                | (refine ldC 71 _ rfl rfl (w.heap.size + 1) rfl (xcs ⟨p, a3, n3, c3, hdD p rest⟩) HRG8.out _ Try.underlying71 rfl infX2 ?_)
                | (refine stC 71 _ _ rfl rfl _ 0 (xcs ⟨p, a3, n3, c3, hdD p rest⟩) rfl rfl HT8.out infX2 (xcs_one _) ?_)
                | fail)
              refine bodyPost_ret (ret_mid2 Try.results59 _ _ _ _ (xcs ⟨p, a3, n3, c3, hdD p rest⟩) _ rfl (World.rangeAt_setCells_same _ _ _ _ HT8.out) Try.underlying71 rfl infX2 _ rfl) rfl ⟨Below.setCells HB8.out _ HBS.out _ _, .inr ⟨HE.out, ⟨p, a3, n3, c3, hdD p rest⟩, rfl, rfl, ?_, rfl, some ⟨ga, 0, none⟩, en + 1, ca, ra3, rn3, rc3, ?_⟩⟩
              · exact (HCR8.out.exts _ (List.mem_append.2 (.inr (List.mem_singleton.2 rfl)))).keep (Kept.setCells _ _ _ _ (Kept.refl _ _)) ((HCR8.out.exts _ (List.mem_append.2 (.inr (List.mem_singleton.2 rfl)))).apart HC8Z.out)
              · rw [HNX.out]
                exact HCR8.out.keepz (Kept.setCells _ _ _ _ (Kept.refl _ _)) HH.out.gl (fun e => HGA.out _ e rfl) HC8Z.out
            · rw [if_pos (by rfl)]
              unfold xcs
              go_wp2_with fail
              clear hS
              refine hK.out _ _ ⟨cell_kept ((Below.refl _ _).alloc (Nat.le_refl _) _) y50, cell_kept ((Below.refl _ _).alloc (Nat.le_refl _) _) y51⟩ (fun hS => ?_)
              clear hK K
              try simp only [Act.put, List.setIfInBounds_toArray, List.set_cons_zero, List.set_cons_succ]
              refine wpAnyH_ready (rs := [5]) (by kernel_rfl) (by simp) (AllReadyH.cons rfl (fun K hK => ?_) AllReadyH.nil)
              rw [if_pos (by rfl)]
              have g5a := cell_kept (w := w5) ((Below.refl _ _).alloc (Nat.le_refl _) (.cells #[.int .u8 p, .slice a3 n3 c3] 71)) g5
              go_wp2_with fail
              clear hS
              refine hK.out _ _ ⟨cell_kept ((Below.refl _ _).alloc (Nat.le_refl _) _) y50, cell_kept ((Below.refl _ _).alloc (Nat.le_refl _) _) y51⟩ (fun hS => ?_)
              clear hK K
              try simp only [Act.put, List.setIfInBounds_toArray, List.set_cons_zero, List.set_cons_succ]
              refine wpAnyH_ready (rs := [8]) (by kernel_rfl) (by simp) (AllReadyH.cons rfl (fun K hK => ?_) AllReadyH.nil)
              rw [if_pos (by rfl)]
              refine Lib.wp_append_run _ _ _ _ _ rfl (.slice ea en ec) (.slice (some ⟨w5.heap.size, 0, none⟩) 1 1) (by rfl) (by rfl) _ _ HRUN.out ?_
              clear hS
              refine hK.out _ _ HS6.out (fun hS => ?_)
              clear hK K
              try simp only [Act.put, List.setIfInBounds_toArray, List.set_cons_zero, List.set_cons_succ]
              refine tk 9 91 (.pointer (some ⟨g, 0, none⟩)) rfl rfl (by kernel_rfl) (by kernel_rfl) (by kernel_rfl) (fun _ _ _ h => h) (Or.inl ⟨by rfl, fun w' h' => ?_⟩) hS ?_
              · go_simp
              try simp only [Act.put, List.setIfInBounds_toArray, List.set_cons_zero, List.set_cons_succ]
              refine tk 10 92 (.pointer (some ⟨g, 0, none⟩)) rfl rfl (by kernel_rfl) (by kernel_rfl) (by kernel_rfl) (fun _ _ _ h => h) (Or.inl ⟨by rfl, fun w' h' => ?_⟩) hS ?_
              · go_simp
              try simp only [Act.put, List.setIfInBounds_toArray, List.set_cons_zero, List.set_cons_succ]
              refine tk 11 93 (.pointer (some ⟨g, 0, none⟩)) rfl rfl (by kernel_rfl) (by kernel_rfl) (by kernel_rfl) (fun _ _ _ h => h) (Or.inl ⟨by rfl, fun w' h' => ?_⟩) hS ?_
              · go_simp
              try simp only [Act.put, List.setIfInBounds_toArray, List.set_cons_zero, List.set_cons_succ]
              refine wpAnyH_ready (rs := [12]) (by kernel_rfl) (by simp) (AllReadyH.cons rfl (fun K hK => ?_) AllReadyH.nil)
              rw [if_pos (by rfl)]
              go_wp2_with fail
              rw [HW7.out]
              clear hS
              refine hK.out _ _ HS7.out (fun hS => ?_)
              clear hK K
              refine wpAnyH_done (by kernel_rfl) ?_ _
              go_upto_region 15 with fail
              rw [HW8.out]
              go_wp2_with (first
                | (refine ldC 71 _ rfl rfl (w.heap.size + 1) rfl (xcs ⟨p, a3, n3, c3, hdD p rest⟩) HRG8.out _ Try.underlying71 rfl infX2 ?_)
                | (refine stC 71 _ _ rfl rfl _ 0 (xcs ⟨p, a3, n3, c3, hdD p rest⟩) rfl rfl HT8.out infX2 (xcs_one _) ?_)
                | fail)
              refine bodyPost_ret (ret_mid2 Try.results59 _ _ _ _ (xcs ⟨p, a3, n3, c3, hdD p rest⟩) _ rfl (World.rangeAt_setCells_same _ _ _ _ HT8.out) Try.underlying71 rfl infX2 _ rfl) rfl ⟨Below.setCells HB8.out _ HBS.out _ _, .inr ⟨HE.out, ⟨p, a3, n3, c3, hdD p rest⟩, rfl, rfl, ?_, rfl, some ⟨ga, 0, none⟩, en + 1, ca, ra3, rn3, rc3, ?_⟩⟩
              · exact (HCR8.out.exts _ (List.mem_append.2 (.inr (List.mem_singleton.2 rfl)))).keep (Kept.setCells _ _ _ _ (Kept.refl _ _)) ((HCR8.out.exts _ (List.mem_append.2 (.inr (List.mem_singleton.2 rfl)))).apart HC8Z.out)
              · rw [HNX.out]
                exact HCR8.out.keepz (Kept.setCells _ _ _ _ (Kept.refl _ _)) HH.out.gl (fun e => HGA.out _ e rfl) HC8Z.out
        · have bsv : (sc != V) = true := by simp [hsv]
          have HE : Hid (hdE p es.length rest = 60) := by
            show _ = _
            rw [hdE, if_neg (by rw [hln]; exact HNB.out), if_neg HNL.out.1, if_neg HNL.out.2, if_neg (by rw [HV.out, HSC.out]; intro h; exact hsv h.1.symm)]
          have HT4 : Hid (w4.there w.heap.size 0 2) := row_there HZ4.out 2 rfl
          clear hsv
          go_wp2_with (first
          | (refine stC 71 _ _ rfl rfl _ 0 x0 rfl rfl HT4.out infX2 x0_one ?_)
          | fail)
          refine bodyPost_ret (ret_mid2 Try.results59 _ _ _ _ x0 _ rfl (World.rangeAt_setCells_same _ _ _ _ HT4.out) Try.underlying71 rfl infX2 _ rfl) rfl ⟨Below.setCells HB4.out _ HBS.out _ _, .inl ⟨by rw [HE.out]; decide, by rw [HE.out]; rfl⟩⟩
  · have b0 : (p == 0) = false := by simpa using hp0
    have HP0 := Lib.hid hp0
    clear hbad hbA hp0
    go_enter Try.func59, Try.ntmps59
    go_upto_region 4 with fail
    rw [HWA.out] at q0 q2 ⊢
    clear q1
    obtain ⟨k0, k1⟩ := HKIND.out
    have HTA : Hid (wA.there w.heap.size 0 2) := row_there HZ.out 2 rfl
    by_cases hl2 : rest.length < 2
    · have HE : Hid (hdE p es.length rest = 10) := by show _ = _; rw [hdE, if_neg (by rw [hln]; exact HNB.out), if_pos hl2]
      go_wp2_with fail
      refine (rTake_short gr ra rn rc t 2 rest _ HA.out.rd (by omega)).mono ?_
      rintro e w1 ⟨rfl, rfl⟩
      go_wp2_with (first
          | (refine stC 71 _ _ rfl rfl _ 0 x0 rfl rfl HTA.out infX2 x0_one ?_)
          | fail)
      refine bodyPost_ret (ret_mid2 Try.results59 _ _ _ _ x0 _ rfl (World.rangeAt_setCells_same _ _ _ _ HTA.out) Try.underlying71 rfl infX2 _ rfl) rfl ⟨Below.setCells (HBA.out.mono HBS.out) _ HBS.out _ _, .inl ⟨by rw [HE.out]; decide, by rw [HE.out]; rfl⟩⟩
    · have HL2 : Hid (2 ≤ rest.length) := by show _ ≤ _; omega
      go_wp2_with fail
      have ht0 := HA.out.t0
      have ht1 := HA.out.t1
      refine (rTake_yes gr ra rn rc 2 t rest _ HA.out.rd (by omega) ht0 (by omega)).mono ?_
      rintro e w1 ⟨a1, n1, c1, ra1, rn1, rc1, rfl, ho1, hr1, hk1, hb1⟩
      have hlen2 : (rest.take 2).length = 2 := by rw [List.length_take]; omega
      have hn1 : n1 = 2 := by have := ho1.len; omega
      subst hn1
      have HR1 : Hid (Cr base g gr w1 ea en ec es p ra1 rn1 rc1 (rest.drop 2) (t + (2 : Nat))) := HA.out.took hk1 hr1 hb1 (by omega) (by rw [List.length_drop]; omega)
      have hgrlt : gr < w.heap.size := by have := HH.out.gl; have := HH.out.lt; omega
      have HZ1 : Hid (w1.heap[w.heap.size]? = some (.cells #[.int .u8 0, .slice none 0 0] 71 (0, 0))) := hk1.heap HZ.out (by omega)
      have HX1 : Hid (w1.heap[w.heap.size + 1]? = some (.cells #[.int .u8 p, .slice none 0 0] 71 (0, 0))) := hk1.heap HX.out (by omega)
      have HB1 : Hid (Below base w w1) := by
        have h1 : Below base wA w1 := hk1.below (by have := HSZ.out; have := HBS.out; omega) (fun k e => by have := HA.out.lo; omega)
        exact (HBA.out.mono HBS.out).trans h1
      obtain ⟨b1', o1', rfl, hc1⟩ := ho1.rd (by intro e; rw [e] at hlen2; simp at hlen2)
      have hcc0 := hc1 0 (by omega)
      have hcc1 := hc1 1 (by omega)
      have hx0 : (rest.take 2).getD 0 0 = rest.getD 0 0 := by simp
      have hx1 : (rest.take 2).getD 1 0 = rest.getD 1 0 := by simp
      rw [hx0, Nat.add_zero] at hcc0
      rw [hx1] at hcc1
      obtain ⟨nx, hnx⟩ : ∃ v, rest.getD 0 0 = v := ⟨_, rfl⟩
      obtain ⟨sc, hsc⟩ : ∃ v, rest.getD 1 0 = v := ⟨_, rfl⟩
      have hbyt : Byt rest := HA.out.rd.byt
      have hnr := hbyt.get 0
      have hsr := hbyt.get 1
      rw [hnx] at hcc0 hnr
      rw [hsc] at hcc1 hsr
      have HNX := Lib.hid hnx
      have HSC := Lib.hid hsc
      have HNR := Lib.hid hnr
      have hsr0 : 0 ≤ sc := hsr.1
      have hsr1 : sc < 256 := hsr.2
      have i12 : 2 ≤ c1 := ho1.le.1
      have r2 := HR1.out.c2
      have HRL : Hid ((rest.drop 2).length + 2 = rn) := by show _ = _; rw [List.length_drop]; omega
      clear hc1 hx0 hx1 hnx hsc hnr hsr ho1 hr1 hk1 hb1 hlen2 hbyt q0 q2 hl2 HTA
      go_wp2_with fail
      go_quiet (fail)
      have hbd : Below w1.heap.size w1 (w1.drewN nq) := ⟨rfl, rfl, rfl, Nat.le_refl _, fun _ _ => rfl⟩
      obtain ⟨w2, hw2⟩ : ∃ x, w1.drewN nq = x := ⟨_, rfl⟩
      rw [hw2] at hbd ⊢
      have HR2 := Lib.hid (HR1.out.below hbd)
      have HZ2 := Lib.hid (heap_kept hbd HZ1.out)
      have HX2 := Lib.hid (heap_kept hbd HX1.out)
      have HB2 : Hid (Below base w w2) := HB1.out.trans (hbd.mono (by have := HR1.out.lo; have := HR1.out.lt; have := HR1.out.gl; omega))
      have s2 := HR2.out.c2
      have x20 : w2.cell? ⟨w.heap.size + 1, 0, none⟩ = some (.int .u8 p) := by rw [cell_of_row _ _ 0 _ _ (0, 0) HX2.out]; rfl
      have x21 : w2.frozen? ⟨w.heap.size + 1, 1, none⟩ = false := frozen_of_row w2 _ 1 _ _ HX2.out
      have x22 : w2.cell? ⟨w.heap.size + 1, 1, none⟩ = some (.slice none 0 0) := by rw [cell_of_row _ _ 1 _ _ (0, 0) HX2.out]; rfl
      have hne : ¬ g = w.heap.size + 1 := by have := HH.out.gl; omega
      have hne2 : ¬ w.heap.size + 1 = g := by omega
      have HKS : Hid (∀ (wz : World) (v : Value), wz.cell? ⟨g, 2, none⟩ = some (.pointer (some ⟨gr, 0, none⟩)) → wz.cell? ⟨w.heap.size + 1, 0, none⟩ = some (.int .u8 p) →
          (wz.setCell ⟨w.heap.size + 1, 1, none⟩ v).cell? ⟨g, 2, none⟩ = some (.pointer (some ⟨gr, 0, none⟩)) ∧ (wz.setCell ⟨w.heap.size + 1, 1, none⟩ v).cell? ⟨w.heap.size + 1, 0, none⟩ = some (.int .u8 p)) := fun wz v h1 h2 =>
        ⟨cell_other (by simp; try omega) h1, cell_other (by simp) h2⟩
      clear r2 hcc0 hcc1 hbd hw2 HB1 HR1 HZ1 HX1 HWA HZW HBW HBA i12
      obtain ⟨d0, d1⟩ := dsz_range (k := p) hsr0 hsr1
      obtain ⟨D, hD⟩ : ∃ v, dsz p sc = v := ⟨_, rfl⟩
      rw [hD] at d0 d1
      have HD := Lib.hid hD
      have HDS : Hid (Calls Try.prog 65 #[.int .u8 p, .int .u8 sc] = Calls Try.prog 65 #[.int .u8 p, .int .u8 sc]) := rfl
      have HDC : Hid (∀ wz, Calls Try.prog 65 #[.int .u8 p, .int .u8 sc] wz (fun e w' => e = .returned (.int .i64 D) ∧ wz = w')) := fun wz => by
        have hq := sxDataSize_any p sc wz hsr0 hsr1
        rw [HD.out] at hq
        exact hq
      have HDD : Hid (hdS p rest = 2 + D.toNat) := by show _ = _; rw [hdS, HSC.out, HD.out]
      clear hD HDS
      by_cases hshort : ((rest.drop 2).length : Int) < D
      · have HE : Hid (hdE p es.length rest = 10) := by
          show _ = _
          rw [hdE, if_neg (by rw [hln]; exact HNB.out), if_neg (by have := HL2.out; omega), if_pos (by rw [HDD.out]; rw [List.length_drop] at hshort; omega)]
        have HTK : Hid (∀ wz : World, Below w2.heap.size w2 wz → Calls Try.prog 64 #[.pointer (some ⟨gr, 0, none⟩), .int .i64 D] wz (fun e w' => e = .returned (.tuple #[.slice none 0 0, .int .i64 10]) ∧ wz = w')) := fun wz hz =>
          rTake_short gr ra1 rn1 rc1 _ D (rest.drop 2) _ (HR2.out.below hz).rd (by have := HR2.out.rd.len; omega)
        have HBZ : Hid (Below w2.heap.size w2 w2.drew) := to_drew w2
        go_wp2_with fail
        go_region_held3 (fun w' => w'.cell? ⟨g, 2, none⟩ = some (.pointer (some ⟨gr, 0, none⟩)) ∧ w'.cell? ⟨w.heap.size + 1, 0, none⟩ = some (.int .u8 p)) (first | (go_keep; done) | exact HKS.out _ _ s2 x20)
          (first
            | ((go_at_call 65; (with_reducible refine (HDC.out _).mono ?_); rintro e wa ⟨rfl, rfl⟩))
            | ((go_at_call 64; (with_reducible refine (HTK.out _ HBZ.out).mono ?_); rintro e wb ⟨rfl, rfl⟩))
            | fail)
        have hks : Kept (fun k => k = w.heap.size + 1) w2 ((w2.setCell ⟨w.heap.size + 1, 1, none⟩ (.slice none 0 0)).drew) := (Kept.setCell (S := fun k => k = w.heap.size + 1) _ _ _ rfl).drew
        have HT3 : Hid (((w2.setCell ⟨w.heap.size + 1, 1, none⟩ (.slice none 0 0)).drew).there w.heap.size 0 2) := row_there (hks.heap HZ2.out (by omega)) 2 rfl
        have HB3 : Hid (Below base w ((w2.setCell ⟨w.heap.size + 1, 1, none⟩ (.slice none 0 0)).drew)) := HB2.out.trans (hks.below (by have := HR2.out.lo; have := HR2.out.lt; have := HR2.out.gl; omega) (fun k e => by have := HBS.out; omega))
        clear hks s2 x20 x21 x22
        go_wp2_with (first
          | (refine stC 71 _ _ rfl rfl _ 0 x0 rfl rfl HT3.out infX2 x0_one ?_)
          | fail)
        refine bodyPost_ret (ret_mid2 Try.results59 _ _ _ _ x0 _ rfl (World.rangeAt_setCells_same _ _ _ _ HT3.out) Try.underlying71 rfl infX2 _ rfl) rfl ⟨Below.setCells HB3.out _ HBS.out _ _, .inl ⟨by rw [HE.out]; decide, by rw [HE.out]; rfl⟩⟩
      · have HTK : Hid (∀ wz : World, Below w2.heap.size w2 wz → Calls Try.prog 64 #[.pointer (some ⟨gr, 0, none⟩), .int .i64 D] wz (Took wz gr ra1 (rest.drop 2) D.toNat (t + (2 : Nat)))) := fun wz hz =>
          rTake_int gr ra1 rn1 rc1 D _ (rest.drop 2) _ (HR2.out.below hz).rd (by omega) (by have := HR2.out.rd.len; omega) (by omega) (by have := HL2.out; omega)
        have HBZ : Hid (Below w2.heap.size w2 w2.drew) := to_drew w2
        have HKC : Hid (∀ wb, Kept (fun k => k = gr) w2.drew wb → wb.cell? ⟨g, 2, none⟩ = some (.pointer (some ⟨gr, 0, none⟩)) ∧ wb.cell? ⟨w.heap.size + 1, 0, none⟩ = some (.int .u8 p) ∧ wb.frozen? ⟨w.heap.size + 1, 1, none⟩ = false ∧ wb.cell? ⟨w.heap.size + 1, 1, none⟩ = some (.slice none 0 0)) := fun wb hk => by
          have hxx := hk.heap HX2.out (by omega)
          refine ⟨?_, by rw [cell_of_row _ _ 0 _ _ (0, 0) hxx]; rfl, frozen_of_row wb _ 1 _ _ hxx, by rw [cell_of_row _ _ 1 _ _ (0, 0) hxx]; rfl⟩
          rw [cell_of_row _ g 2 _ _ (0, 0) (hk.heap HR2.out.at_ (fun e => by have := HR2.out.lt; omega))]
          rfl
        go_wp2_with fail
        go_region_held3 (fun w' => w'.cell? ⟨g, 2, none⟩ = some (.pointer (some ⟨gr, 0, none⟩)) ∧ w'.cell? ⟨w.heap.size + 1, 0, none⟩ = some (.int .u8 p)) (first | (go_keep; done) | exact HKS.out _ _ s3 x30)
          (first
            | ((go_at_call 65; (with_reducible refine (HDC.out _).mono ?_); rintro e wa ⟨rfl, rfl⟩))
            | ((go_at_call 64; (with_reducible refine (HTK.out _ HBZ.out).mono ?_); rintro e wb ⟨a3, n3, c3, ra3, rn3, rc3, rfl, ho3, hr3, hk3, hb3⟩; obtain ⟨s3, x30, x31, x32⟩ := HKC.out _ hk3; have HO3 := Lib.hid ho3; have HRD3 := Lib.hid hr3; have HK3 := Lib.hid hk3; have HBB3 := Lib.hid hb3; clear ho3 hr3 hk3 hb3))
            | fail)
        obtain ⟨w3, hw3⟩ : ∃ y, wb.setCell ⟨w.heap.size + 1, 1, none⟩ (.slice a3 n3 c3) = y := ⟨_, rfl⟩
        have hkb : Kept (fun k => k = gr) w2 wb := ⟨HK3.out.os, HK3.out.tape, HK3.out.output, HK3.out.size, HK3.out.block⟩
        have hks : Kept (fun k => k = w.heap.size + 1) wb w3 := by rw [← hw3]; exact Kept.setCell (S := fun k => k = w.heap.size + 1) _ _ _ rfl
        have hg2 : w2.heap.size ≤ wb.heap.size := hkb.size
        have hgl := HR2.out.gl
        have hglt := HR2.out.lt
        have hglo := HR2.out.lo
        have hxlt : w.heap.size + 1 < w2.heap.size := (Array.getElem?_eq_some_iff.1 HX2.out).1
        have hHHg := HH.out.gl
        have hst : rest.drop (hdS p rest) = (rest.drop 2).drop D.toNat := by rw [HDD.out, List.drop_drop]
        have hdt : (rest.drop 2).take D.toNat = hdD p rest := by rw [hdD, HSC.out, HD.out]
        have hcr3 : Cr base g gr wb ea en ec es p ra3 rn3 rc3 (rest.drop (hdS p rest)) (t + hdS p rest) := by
          have hsh := hshort
          rw [List.length_drop] at hsh
          have hq := HR2.out.took hkb HRD3.out HBB3.out (by omega) (by rw [List.length_drop, List.length_drop]; have := HL2.out; omega)
          rw [hst, HDD.out, show t + ((2 + D.toNat : Nat) : Int) = t + ((2 : Nat) : Int) + (D.toNat : Int) by omega]
          exact hq
        have HR3 : Hid (Cr base g gr w3 ea en ec es p ra3 rn3 rc3 (rest.drop (hdS p rest)) (t + hdS p rest)) := by
          refine ⟨hcr3.lo, hcr3.lt, hks.heap hcr3.at_ (by omega), ?_, hcr3.len, hcr3.few, hcr3.kind, ?_, hcr3.rd.keep hks (by omega) (fun b hb k => by have := (hcr3.rb b hb).2; omega), hcr3.rb, hcr3.t0, hcr3.t1⟩
          · exact hcr3.row.keep hks (fun b hb k => by
              have := (HR2.out.row.blk_ge b hb).2
              rcases hcr3.row.cases with ⟨h1, _⟩ | ⟨q, cur, h1, _, h2, _⟩
              · rw [h1] at hb; cases hb
              · rw [h1] at hb; simp [blk] at hb; subst hb
                rcases HH.out.row.cases with ⟨h3, _⟩ | ⟨q', cur', h3, _, h4, _⟩
                · rw [h3] at h1; cases h1
                · rw [h3] at h1; cases h1
                  have := (Array.getElem?_eq_some_iff.1 h4).1
                  omega)
          · intro x hx
            exact (hcr3.exts x hx).keep hks (fun b hb k => by have := ((HH.out.exts x hx).own.blk_ge b hb).2; omega)
        have HX3 : Hid (w3.heap[w.heap.size + 1]? = some (.cells #[.int .u8 p, .slice a3 n3 c3] 71 (0, 0))) := by
          show _ = _
          rw [← hw3]
          exact set2_heap (hkb.heap HX2.out (by omega)) _
        have HZ3 : Hid (w3.heap[w.heap.size]? = some (.cells #[.int .u8 0, .slice none 0 0] 71 (0, 0))) := hks.heap (hkb.heap HZ2.out (by omega)) (by omega)
        have hown3 : Own wb (g + 1) a3 n3 c3 (hdD p rest) := by rw [← hdt]; exact HO3.out.mono (by show g + 1 ≤ w2.heap.size; omega)
        have hdlen : (hdD p rest).length = D.toNat := by rw [← hdt, List.length_take]; omega
        have HXK : Hid (XOk (g + 1) w3 ⟨p, a3, n3, c3, hdD p rest⟩) := by
          refine ⟨HKIND.out, hown3.keep hks (fun b hb k => by have := (HO3.out.blk_ge b hb).1; have h4 : w2.heap.size ≤ b := this; omega), ?_, ?_⟩
          · show Byt (hdD p rest)
            rw [← hdt]; exact (HA.out.rd.byt.drop 2).take _
          · show n3 ≤ 2046
            have := hown3.len; omega
        have HB3 : Hid (Below base w w3) := HB2.out.trans ((hkb.below (by omega) (fun k e => by omega)).trans (hks.below (by omega) (fun k e => by omega)))
        have HNL : Hid (¬ rest.length < 2 ∧ ¬ rest.length < hdS p rest) := by show _ ∧ _; have := HL2.out; rw [HDD.out]; rw [List.length_drop] at hshort; omega
        have hn3 : n3 ≤ 1099511627776 := by have := hown3.len; omega
        rw [hw3]
        clear hkb hks hg2 hglt hglo hst hdt hcr3 hown3 hdlen s2 x20 x21 x22 s3 x30 x31 x32 HK3 HRD3 HO3 HBB3 hw3 HKC HTK HDC HKS hshort
        have y30 : w3.cell? ⟨w.heap.size + 1, 0, none⟩ = some (.int .u8 p) := by rw [cell_of_row _ _ 0 _ _ (0, 0) HX3.out]; rfl
        have y31 : w3.cell? ⟨w.heap.size + 1, 1, none⟩ = some (.slice a3 n3 c3) := by rw [cell_of_row _ _ 1 _ _ (0, 0) HX3.out]; rfl
        obtain ⟨V, hV⟩ : ∃ v, scE p (hdD p rest) = v := ⟨_, rfl⟩
        have HV := Lib.hid hV
        clear hV
        go_wp2_with fail
        refine (sxSecond_any ⟨p, a3, n3, c3, hdD p rest⟩ w3 HXK.out.ok hn3).mono ?_
        rintro e w4 ⟨rfl, hb4⟩
        rw [HV.out]
        have z30 := cell_kept hb4 y30
        have z31 := cell_kept hb4 y31
        have HR4 := Lib.hid (HR3.out.below hb4)
        have HX4 := Lib.hid (heap_kept hb4 HX3.out)
        have HZ4 := Lib.hid (heap_kept hb4 HZ3.out)
        have HXK4 := Lib.hid (HXK.out.keep (S := fun _ => False) (Kept.of_below hb4 (fun i hi hi' => by omega)) (fun _ _ => id))
        have HB4 : Hid (Below base w w4) := HB3.out.trans (hb4.mono (by have := HR3.out.lo; have := HR3.out.lt; have := HR3.out.gl; omega))
        clear hb4 y30 y31
        by_cases hsv : sc = V
        · have bsv : (sc != V) = false := by simp [hsv]
          have HSV := Lib.hid hsv
          clear hsv
          go_wp2_with fail
          refine (sxExtRight_any ⟨p, a3, n3, c3, hdD p rest⟩ w4 HXK4.out.ok hn3).mono ?_
          rintro e w5 ⟨rfl, hb5⟩
          have y50 := cell_kept hb5 z30
          have y51 := cell_kept hb5 z31
          have HG5 := Lib.hid (HR4.out.below hb5).c0
          have HR5 := Lib.hid (HR4.out.below hb5)
          have HX5 := Lib.hid (heap_kept hb5 HX4.out)
          have HZ5 := Lib.hid (heap_kept hb5 HZ4.out)
          have HXK5 := Lib.hid (HXK4.out.keep (S := fun _ => False) (Kept.of_below hb5 (fun i hi hi' => by omega)) (fun _ _ => id))
          have HB5 : Hid (Below base w w5) := HB4.out.trans (hb5.mono (by have := HR4.out.lo; have := HR4.out.lt; have := HR4.out.gl; omega))
          clear hb5 z30 z31
          have HT5 : Hid (w5.there w.heap.size 0 2) := row_there HZ5.out 2 rfl
          cases hrt : rtE p (hdD p rest) with
          | false =>
            have HE : Hid (hdE p es.length rest = 60) := by
              show _ = _
              rw [hdE, if_neg (by rw [hln]; exact HNB.out), if_neg HNL.out.1, if_neg HNL.out.2, if_neg (by rw [hrt]; simp)]
            have HRT := Lib.hid hrt
            clear hrt
            go_wp2_with (first
          | (refine stC 71 _ _ rfl rfl _ 0 x0 rfl rfl HT5.out infX2 x0_one ?_)
          | fail)
            refine bodyPost_ret (ret_mid2 Try.results59 _ _ _ _ x0 _ rfl (World.rangeAt_setCells_same _ _ _ _ HT5.out) Try.underlying71 rfl infX2 _ rfl) rfl ⟨Below.setCells HB5.out _ HBS.out _ _, .inl ⟨by rw [HE.out]; decide, by rw [HE.out]; rfl⟩⟩
          | true =>
            have HE : Hid (hdE p es.length rest = 0) := by
              show _ = _
              rw [hdE, if_neg (by rw [hln]; exact HNB.out), if_neg HNL.out.1, if_neg HNL.out.2, if_pos (by rw [hrt, HV.out, HSC.out]; exact ⟨HSV.out.symm, rfl⟩)]
            clear hrt
            have HEN : Hid (en < 16) := by show _ < _; have := HNB.out; omega
            have HR5D : Hid (Cr base g gr w5.drew ea en ec es p ra3 rn3 rc3 (rest.drop (hdS p rest)) (t + hdS p rest)) := HR5.out.below (to_drew w5)
            have HXK5D : Hid (XOk (g + 1) w5.drew ⟨p, a3, n3, c3, hdD p rest⟩) := HXK5.out.keep (S := fun _ => False) (Kept.of_below (to_drew w5) (fun i hi hi' => by omega)) (fun _ _ => id)
            have HZD : Hid (w5.drew.heap[w.heap.size]? = some (.cells #[.int .u8 0, .slice none 0 0] 71 (0, 0))) := HZ5.out
            have HXD : Hid (w5.drew.heap[w.heap.size + 1]? = some (.cells #[.int .u8 p, .slice a3 n3 c3] 71 (0, 0))) := HX5.out
            have hsz5 : w.heap.size + 1 < w5.heap.size := (Array.getElem?_eq_some_iff.1 HX5.out).1
            obtain ⟨ga, ca, w6, hrun, hown6, hk6, hga⟩ := run_append_one w5.drew (g + 1) 44 44 71 (.agg #[.int .u8 0, .slice none 0 0]) 2 32 infX Try.underlying44 rfl (by omega) HR5D.out.row (xcs ⟨p, a3, n3, c3, hdD p rest⟩) rfl (xcs_one _)
              (by have := HR5D.out.gl; omega) (by omega) (by omega)
            have hea : ∀ b, blk ea = some b → b < w.heap.size := fun b hb => (HH.out.row.blk_ge b hb).2
            have HEA := Lib.hid hea
            have HRUN := Lib.hid hrun
            have HO6 := Lib.hid hown6
            have HK6 := Lib.hid hk6
            have HGA : Hid (∀ b, blk (some (⟨ga, 0, none⟩ : Addr)) = some b → b ≠ w.heap.size) := fun b hb e => by
              simp [blk] at hb
              subst hb
              rcases hga with e1 | e1
              · have := hea _ e1; omega
              · have : w5.heap.size < ga := e1
                omega
            have hek : ∀ b, blk ea = some b → g + 1 ≤ b := fun b hb => (HR5D.out.row.blk_ge b hb).1
            have hc6g : w6.heap[g]? = some (.cells #[.slice ea en ec, .int .u8 p, .pointer (some ⟨gr, 0, none⟩)] 98 (0, 0)) := hk6.heap HR5D.out.at_ (fun e => by have := hek _ e; omega)
            have hc6x : w6.heap[w.heap.size + 1]? = some (.cells #[.int .u8 p, .slice a3 n3 c3] 71 (0, 0)) := hk6.heap HXD.out (fun e => by have := hea _ e; omega)
            have hc6z : w6.heap[w.heap.size]? = some (.cells #[.int .u8 0, .slice none 0 0] 71 (0, 0)) := hk6.heap HZD.out (fun e => by have := hea _ e; omega)
            obtain ⟨w7, hw7⟩ : ∃ y, w6.setCell ⟨g, 0, none⟩ (.slice (some ⟨ga, 0, none⟩) (en + 1) ca) = y := ⟨_, rfl⟩
            have hkg7 : Kept (fun k => k = g) w6 w7 := by rw [← hw7]; exact Kept.setCell (S := fun k => k = g) _ _ _ rfl
            have hc7g : w7.heap[g]? = some (.cells #[.slice (some ⟨ga, 0, none⟩) (en + 1) ca, .int .u8 p, .pointer (some ⟨gr, 0, none⟩)] 98 (0, 0)) := by rw [← hw7]; exact heap_setCell_same w6 g 0 _ _ _ hc6g
            have hc7x := hkg7.heap hc6x (by omega)
            have hc7z := hkg7.heap hc6z (by have := HH.out.gl; omega)
            obtain ⟨w8, hw8⟩ : ∃ y, w7.setCell ⟨g, 1, none⟩ (.int .u8 nx) = y := ⟨_, rfl⟩
            have hkg8 : Kept (fun k => k = g) w7 w8 := by rw [← hw8]; exact Kept.setCell (S := fun k => k = g) _ _ _ rfl
            have hc8x := hkg8.heap hc7x (by omega)
            have hc8z := hkg8.heap hc7z (by have := HH.out.gl; omega)
            have HCR8 : Hid (Cr base g gr w8 (some ⟨ga, 0, none⟩) (en + 1) ca (es ++ [⟨p, a3, n3, c3, hdD p rest⟩]) nx ra3 rn3 rc3 (rest.drop (hdS p rest)) (t + hdS p rest)) := by
              rw [← hw8, ← hw7]
              exact HR5D.out.pushed HXK5D.out hown6 hk6 HEN.out nx HNR.out
            have HC8Z := Lib.hid hc8z
            have HT8 : Hid (w8.there w.heap.size 0 2) := row_there hc8z 2 rfl
            have HRG8 : Hid (w8.rangeAt (w.heap.size + 1) 0 (xcs ⟨p, a3, n3, c3, hdD p rest⟩)) := range_row2 hc8x
            have HB8 : Hid (Below base w w8) := by
              have hb6 : Below base w5.drew w6 := hk6.below (by have := HR5D.out.lo; have := HR5D.out.lt; have := HR5D.out.gl; omega) (fun k e => by have := hek _ e; have := HR5D.out.lo; have := HR5D.out.lt; omega)
              have hb7 : Below base w6 w7 := hkg7.below (by have := hb6.size; have := HR5D.out.lo; have := HR5D.out.lt; have := HR5D.out.gl; omega) (fun k e => by have := HR5D.out.lo; have := HR5D.out.lt; omega)
              have hb8 : Below base w7 w8 := hkg8.below (by have := hb7.size; have := hb6.size; have := HR5D.out.lo; have := HR5D.out.lt; have := HR5D.out.gl; omega) (fun k e => by have := HR5D.out.lo; have := HR5D.out.lt; omega)
              have hb5 : Below base w5 w5.drew := (to_drew w5).mono (by have := HR5D.out.lo; have := HR5D.out.lt; have h := HR5D.out.gl; exact Nat.le_of_lt (by show base < w5.drew.heap.size; omega))
              exact HB5.out.trans (hb5.trans (hb6.trans (hb7.trans hb8)))
            have u6 : w6.cell? ⟨g, 0, none⟩ = some (.slice ea en ec) := by rw [cell_of_row _ _ 0 _ _ (0, 0) hc6g]; rfl
            have f6 : w6.frozen? ⟨g, 0, none⟩ = false := frozen_of_row w6 _ 0 _ _ hc6g
            have u7 : w7.cell? ⟨g, 1, none⟩ = some (.int .u8 p) := by rw [cell_of_row _ _ 1 _ _ (0, 0) hc7g]; rfl
            have f7 : w7.frozen? ⟨g, 1, none⟩ = false := frozen_of_row w7 _ 1 _ _ hc7g
            have HS6 : Hid (w6.cell? ⟨w.heap.size + 1, 0, none⟩ = some (.int .u8 p) ∧ w6.cell? ⟨w.heap.size + 1, 1, none⟩ = some (.slice a3 n3 c3)) := ⟨by rw [cell_of_row _ _ 0 _ _ (0, 0) hc6x]; rfl, by rw [cell_of_row _ _ 1 _ _ (0, 0) hc6x]; rfl⟩
            have HS7 : Hid (w7.cell? ⟨w.heap.size + 1, 0, none⟩ = some (.int .u8 p) ∧ w7.cell? ⟨w.heap.size + 1, 1, none⟩ = some (.slice a3 n3 c3)) := ⟨by rw [cell_of_row _ _ 0 _ _ (0, 0) hc7x]; rfl, by rw [cell_of_row _ _ 1 _ _ (0, 0) hc7x]; rfl⟩
            have HW7 := Lib.hid hw7
            have HW8 := Lib.hid hw8
            have g5 := HG5.out
            clear hea hrun hown6 hk6 hga hek hc6g hc6x hc6z hkg7 hc7g hc7x hc7z hkg8 hc8x hc8z hw7 hw8
            go_upto_region 13 with fail
            have hw5d : Below w5.heap.size w5 w5.drew := to_drew w5
            refine wp_region_held_drew (S := fun w' => w'.cell? ⟨w.heap.size + 1, 0, none⟩ = some (.int .u8 p) ∧ w'.cell? ⟨w.heap.size + 1, 1, none⟩ = some (.slice a3 n3 c3)) (by kernel_rfl) ⟨y50, y51⟩ (fun hS => ?_)
            try simp only [Act.put, List.setIfInBounds_toArray, List.set_cons_zero, List.set_cons_succ]
            refine tk 0 82 (.pointer (some ⟨g, 0, none⟩)) rfl rfl (by kernel_rfl) (by kernel_rfl) (by kernel_rfl) (fun _ _ _ h => h) (Or.inl ⟨by rfl, fun w' h' => ?_⟩) hS ?_
            · go_simp
            try simp only [Act.put, List.setIfInBounds_toArray, List.set_cons_zero, List.set_cons_succ]
            refine tk 1 83 (.pointer (some ⟨g, 0, none⟩)) rfl rfl (by kernel_rfl) (by kernel_rfl) (by kernel_rfl) (fun _ _ _ h => h) (Or.inl ⟨by rfl, fun w' h' => ?_⟩) hS ?_
            · go_simp
            try simp only [Act.put, List.setIfInBounds_toArray, List.set_cons_zero, List.set_cons_succ]
            refine tk 2 84 (.pointer (some ⟨g, 0, none⟩)) rfl rfl (by kernel_rfl) (by kernel_rfl) (by kernel_rfl) (fun _ _ _ h => h) (Or.inl ⟨by rfl, fun w' h' => ?_⟩) hS ?_
            · go_simp
            try simp only [Act.put, List.setIfInBounds_toArray, List.set_cons_zero, List.set_cons_succ]
            refine tk 3 85 (.pointer (some ⟨g, 0, none⟩)) rfl rfl (by kernel_rfl) (by kernel_rfl) (by kernel_rfl) (fun _ _ _ h => h) (Or.inl ⟨by rfl, fun w' h' => ?_⟩) hS ?_
            · go_simp
            try simp only [Act.put, List.setIfInBounds_toArray, List.set_cons_zero, List.set_cons_succ]
            refine tk 4 86 (.pointer (some ⟨g, 0, none⟩)) rfl rfl (by kernel_rfl) (by kernel_rfl) (by kernel_rfl) (fun _ _ _ h => h) (Or.inl ⟨by rfl, fun w' h' => ?_⟩) hS ?_
            · go_simp
            try simp only [Act.put, List.setIfInBounds_toArray, List.set_cons_zero, List.set_cons_succ]
            refine tk 6 88 (.agg (xcs ⟨p, a3, n3, c3, hdD p rest⟩).toArray) rfl rfl (by kernel_rfl) (by kernel_rfl) (by kernel_rfl) (fun _ _ _ h => h) (Or.inl ⟨by rfl, fun w' h' => ?_⟩) hS ?_
            · have hz0 := h'.1
              have hz1 := h'.2
              unfold xcs
              go_simp
            try simp only [Act.put, List.setIfInBounds_toArray, List.set_cons_zero, List.set_cons_succ]
            refine wpAnyH_ready (rs := [5, 7]) (by kernel_rfl) (by simp) (AllReadyH.cons rfl (fun K hK => ?_) (AllReadyH.cons rfl (fun K hK => ?_) AllReadyH.nil))
            · rw [if_pos (by rfl)]
              go_wp2_with fail
              clear hS
              refine hK.out _ _ ⟨y50, y51⟩ (fun hS => ?_)
              clear hK K
              try simp only [Act.put, List.setIfInBounds_toArray, List.set_cons_zero, List.set_cons_succ]
              refine wpAnyH_ready (rs := [7]) (by kernel_rfl) (by simp) (AllReadyH.cons rfl (fun K hK => ?_) AllReadyH.nil)
              rw [if_pos (by rfl)]
              unfold xcs
              go_wp2_with fail
              clear hS
              refine hK.out _ _ ⟨cell_kept ((Below.refl _ _).alloc (Nat.le_refl _) _) y50, cell_kept ((Below.refl _ _).alloc (Nat.le_refl _) _) y51⟩ (fun hS => ?_)
              clear hK K
              try simp only [Act.put, List.setIfInBounds_toArray, List.set_cons_zero, List.set_cons_succ]
              refine wpAnyH_ready (rs := [8]) (by kernel_rfl) (by simp) (AllReadyH.cons rfl (fun K hK => ?_) AllReadyH.nil)
              rw [if_pos (by rfl)]
              refine Lib.wp_append_run _ _ _ _ _ rfl (.slice ea en ec) (.slice (some ⟨w5.heap.size, 0, none⟩) 1 1) (by rfl) (by rfl) _ _ HRUN.out ?_
              clear hS
              refine hK.out _ _ HS6.out (fun hS => ?_)
              clear hK K
              try simp only [Act.put, List.setIfInBounds_toArray, List.set_cons_zero, List.set_cons_succ]
              refine tk 9 91 (.pointer (some ⟨g, 0, none⟩)) rfl rfl (by kernel_rfl) (by kernel_rfl) (by kernel_rfl) (fun _ _ _ h => h) (Or.inl ⟨by rfl, fun w' h' => ?_⟩) hS ?_
              · go_simp
              try simp only [Act.put, List.setIfInBounds_toArray, List.set_cons_zero, List.set_cons_succ]
              refine tk 10 92 (.pointer (some ⟨g, 0, none⟩)) rfl rfl (by kernel_rfl) (by kernel_rfl) (by kernel_rfl) (fun _ _ _ h => h) (Or.inl ⟨by rfl, fun w' h' => ?_⟩) hS ?_
              · go_simp
              try simp only [Act.put, List.setIfInBounds_toArray, List.set_cons_zero, List.set_cons_succ]
              refine tk 11 93 (.pointer (some ⟨g, 0, none⟩)) rfl rfl (by kernel_rfl) (by kernel_rfl) (by kernel_rfl) (fun _ _ _ h => h) (Or.inl ⟨by rfl, fun w' h' => ?_⟩) hS ?_
              · go_simp
              try simp only [Act.put, List.setIfInBounds_toArray, List.set_cons_zero, List.set_cons_succ]
              refine wpAnyH_ready (rs := [12]) (by kernel_rfl) (by simp) (AllReadyH.cons rfl (fun K hK => ?_) AllReadyH.nil)
              rw [if_pos (by rfl)]
              go_wp2_with fail
              rw [HW7.out]
              clear hS
              refine hK.out _ _ HS7.out (fun hS => ?_)
              clear hK K
              refine wpAnyH_done (by kernel_rfl) ?_ _
              go_upto_region 15 with fail
              rw [HW8.out]
              go_wp2_with (first
                | (refine ldC 71 _ rfl rfl (w.heap.size + 1) rfl (xcs ⟨p, a3, n3, c3, hdD p rest⟩) HRG8.out _ Try.underlying71 rfl infX2 ?_)
                | (refine stC 71 _ _ rfl rfl _ 0 (xcs ⟨p, a3, n3, c3, hdD p rest⟩) rfl rfl HT8.out infX2 (xcs_one _) ?_)
                | fail)
              refine bodyPost_ret (ret_mid2 Try.results59 _ _ _ _ (xcs ⟨p, a3, n3, c3, hdD p rest⟩) _ rfl (World.rangeAt_setCells_same _ _ _ _ HT8.out) Try.underlying71 rfl infX2 _ rfl) rfl ⟨Below.setCells HB8.out _ HBS.out _ _, .inr ⟨HE.out, ⟨p, a3, n3, c3, hdD p rest⟩, rfl, rfl, ?_, rfl, some ⟨ga, 0, none⟩, en + 1, ca, ra3, rn3, rc3, ?_⟩⟩
              · exact (HCR8.out.exts _ (List.mem_append.2 (.inr (List.mem_singleton.2 rfl)))).keep (Kept.setCells _ _ _ _ (Kept.refl _ _)) ((HCR8.out.exts _ (List.mem_append.2 (.inr (List.mem_singleton.2 rfl)))).apart HC8Z.out)
              · rw [HNX.out]
                exact HCR8.out.keepz (Kept.setCells _ _ _ _ (Kept.refl _ _)) HH.out.gl (fun e => HGA.out _ e rfl) HC8Z.out
            · rw [if_pos (by rfl)]
              unfold xcs
              go_wp2_with fail
              clear hS
              refine hK.out _ _ ⟨cell_kept ((Below.refl _ _).alloc (Nat.le_refl _) _) y50, cell_kept ((Below.refl _ _).alloc (Nat.le_refl _) _) y51⟩ (fun hS => ?_)
              clear hK K
              try simp only [Act.put, List.setIfInBounds_toArray, List.set_cons_zero, List.set_cons_succ]
              refine wpAnyH_ready (rs := [5]) (by kernel_rfl) (by simp) (AllReadyH.cons rfl (fun K hK => ?_) AllReadyH.nil)
              rw [if_pos (by rfl)]
              have g5a := cell_kept (w := w5) ((Below.refl _ _).alloc (Nat.le_refl _) (.cells #[.int .u8 p, .slice a3 n3 c3] 71)) g5
              go_wp2_with fail
              clear hS
              refine hK.out _ _ ⟨cell_kept ((Below.refl _ _).alloc (Nat.le_refl _) _) y50, cell_kept ((Below.refl _ _).alloc (Nat.le_refl _) _) y51⟩ (fun hS => ?_)
              clear hK K
              try simp only [Act.put, List.setIfInBounds_toArray, List.set_cons_zero, List.set_cons_succ]
              refine wpAnyH_ready (rs := [8]) (by kernel_rfl) (by simp) (AllReadyH.cons rfl (fun K hK => ?_) AllReadyH.nil)
              rw [if_pos (by rfl)]
              refine Lib.wp_append_run _ _ _ _ _ rfl (.slice ea en ec) (.slice (some ⟨w5.heap.size, 0, none⟩) 1 1) (by rfl) (by rfl) _ _ HRUN.out ?_
              clear hS
              refine hK.out _ _ HS6.out (fun hS => ?_)
              clear hK K
              try simp only [Act.put, List.setIfInBounds_toArray, List.set_cons_zero, List.set_cons_succ]
              refine tk 9 91 (.pointer (some ⟨g, 0, none⟩)) rfl rfl (by kernel_rfl) (by kernel_rfl) (by kernel_rfl) (fun _ _ _ h => h) (Or.inl ⟨by rfl, fun w' h' => ?_⟩) hS ?_
              · go_simp
              try simp only [Act.put, List.setIfInBounds_toArray, List.set_cons_zero, List.set_cons_succ]
              refine tk 10 92 (.pointer (some ⟨g, 0, none⟩)) rfl rfl (by kernel_rfl) (by kernel_rfl) (by kernel_rfl) (fun _ _ _ h => h) (Or.inl ⟨by rfl, fun w' h' => ?_⟩) hS ?_
              · go_simp
              try simp only [Act.put, List.setIfInBounds_toArray, List.set_cons_zero, List.set_cons_succ]
              refine tk 11 93 (.pointer (some ⟨g, 0, none⟩)) rfl rfl (by kernel_rfl) (by kernel_rfl) (by kernel_rfl) (fun _ _ _ h => h) (Or.inl ⟨by rfl, fun w' h' => ?_⟩) hS ?_
              · go_simp
              try simp only [Act.put, List.setIfInBounds_toArray, List.set_cons_zero, List.set_cons_succ]
              refine wpAnyH_ready (rs := [12]) (by kernel_rfl) (by simp) (AllReadyH.cons rfl (fun K hK => ?_) AllReadyH.nil)
              rw [if_pos (by rfl)]
              go_wp2_with fail
              rw [HW7.out]
              clear hS
              refine hK.out _ _ HS7.out (fun hS => ?_)
              clear hK K
              refine wpAnyH_done (by kernel_rfl) ?_ _
              go_upto_region 15 with fail
              rw [HW8.out]
              go_wp2_with (first
                | (refine ldC 71 _ rfl rfl (w.heap.size + 1) rfl (xcs ⟨p, a3, n3, c3, hdD p rest⟩) HRG8.out _ Try.underlying71 rfl infX2 ?_)
                | (refine stC 71 _ _ rfl rfl _ 0 (xcs ⟨p, a3, n3, c3, hdD p rest⟩) rfl rfl HT8.out infX2 (xcs_one _) ?_)
                | fail)
              refine bodyPost_ret (ret_mid2 Try.results59 _ _ _ _ (xcs ⟨p, a3, n3, c3, hdD p rest⟩) _ rfl (World.rangeAt_setCells_same _ _ _ _ HT8.out) Try.underlying71 rfl infX2 _ rfl) rfl ⟨Below.setCells HB8.out _ HBS.out _ _, .inr ⟨HE.out, ⟨p, a3, n3, c3, hdD p rest⟩, rfl, rfl, ?_, rfl, some ⟨ga, 0, none⟩, en + 1, ca, ra3, rn3, rc3, ?_⟩⟩
              · exact (HCR8.out.exts _ (List.mem_append.2 (.inr (List.mem_singleton.2 rfl)))).keep (Kept.setCells _ _ _ _ (Kept.refl _ _)) ((HCR8.out.exts _ (List.mem_append.2 (.inr (List.mem_singleton.2 rfl)))).apart HC8Z.out)
              · rw [HNX.out]
                exact HCR8.out.keepz (Kept.setCells _ _ _ _ (Kept.refl _ _)) HH.out.gl (fun e => HGA.out _ e rfl) HC8Z.out
        · have bsv : (sc != V) = true := by simp [hsv]
          have HE : Hid (hdE p es.length rest = 60) := by
            show _ = _
            rw [hdE, if_neg (by rw [hln]; exact HNB.out), if_neg HNL.out.1, if_neg HNL.out.2, if_neg (by rw [HV.out, HSC.out]; intro h; exact hsv h.1.symm)]
          have HT4 : Hid (w4.there w.heap.size 0 2) := row_there HZ4.out 2 rfl
          clear hsv
          go_wp2_with (first
          | (refine stC 71 _ _ rfl rfl _ 0 x0 rfl rfl HT4.out infX2 x0_one ?_)
          | fail)
          refine bodyPost_ret (ret_mid2 Try.results59 _ _ _ _ x0 _ rfl (World.rangeAt_setCells_same _ _ _ _ HT4.out) Try.underlying71 rfl infX2 _ rfl) rfl ⟨Below.setCells HB4.out _ HBS.out _ _, .inl ⟨by rw [HE.out]; decide, by rw [HE.out]; rfl⟩⟩
end Go.Proofs.Ythipnkaghddbhaa

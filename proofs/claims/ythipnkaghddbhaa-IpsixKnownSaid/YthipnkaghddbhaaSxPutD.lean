/-
  The contract of PutChain of package ipsix, walked. Conditions: a chain that lies in memory.
-/
import Derived.Test.YthipnkaghddbhaaSxPutC
import Derived.Deep.Cut
import Derived.OwnWalk
namespace Go.Proofs.Ythipnkaghddbhaa
open Go.RowKit

/-- What PutChain answers: how the headers stand, in a row of the call's own, and what comes first, or an error. -/
def PutCH (w : World) (es : List Ex) (p : Int) (e : Ending) (w' : World) : Prop :=
  Below w.heap.size w w' ∧ ((rtC es p = true ∧ ∃ a n cap, e = .returned (.tuple #[.slice a n cap, .int .u8 (cmE es p 0), .int .i64 0]) ∧ Own w' w.heap.size a n cap (chB es p es.length)) ∨
    (rtC es p = false ∧ e = .returned (.tuple #[.slice none 0 0, .int .u8 0, .int .i64 60])))

set_option maxRecDepth 100000 in
set_option maxHeartbeats 4000000 in
theorem sxPutChain_ok (a : Option Addr) (n c : Nat) (es : List Ex) (p : Int) (w : World) (h : Ch w a n c es) (p0 : 0 ≤ p) (p1 : p < 256) (hrt : rtC es p = true) :
    Calls Try.prog 19 #[.agg #[.slice a n c, .int .u8 p]] w (PutCH w es p) := by
  have hbA : Below w.heap.size w (w.alloc (.cells #[.slice a n c, .int .u8 p] 46)) := (Below.refl _ _).alloc (Nat.le_refl _) _
  have HB := Lib.hid hbA
  have HC := Lib.hid (h.below hbA)
  have hnm : n ≤ 9223372036854775807 := by have h1 := h.cap; have h2 := h.max; unfold maxLen at h2; omega
  have hn16 : n ≤ 16 := by
    have h1 := h.len
    unfold rtC at hrt
    rw [Bool.and_eq_true, decide_eq_true_eq] at hrt
    omega
  have HL := Lib.hid h.len
  have HFW := Lib.hid (chB_few hrt)
  have HR := Lib.hid hrt
  have hc0 : (w.alloc (.cells #[.slice a n c, .int .u8 p] 46)).cell? ⟨w.heap.size, 0, none⟩ = some (.slice a n c) := World.cell?_alloc_new _ _ _ _
  have hc1 : (w.alloc (.cells #[.slice a n c, .int .u8 p] 46)).cell? ⟨w.heap.size, 1, none⟩ = some (.int .u8 p) := World.cell?_alloc_new _ _ _ _
  have HC0 := Lib.hid (And.intro hc0 hc1)
  clear h hbA hrt hc0 hc1
  go_enter Try.func19, Try.ntmps19
  go_wp2_with fail
  refine (sxRight_any a n c es p _ HC.out p0 p1).mono ?_
  rintro e w1 ⟨rfl, hb1⟩
  rw [HR.out]
  have HC1 := Lib.hid (HC.out.below hb1)
  have HB1 := Lib.hid (HB.out.trans (hb1.mono HB.out.size))
  have HCC : Hid (w1.cell? ⟨w.heap.size, 0, none⟩ = some (.slice a n c) ∧ w1.cell? ⟨w.heap.size, 1, none⟩ = some (.int .u8 p)) := ⟨cell_kept hb1 HC0.out.1, cell_kept hb1 HC0.out.2⟩
  have HWS : Hid (w.heap.size < w1.heap.size) := by have := hb1.size; simp at this; show _ < _; omega
  clear hb1 HC HC0
  have hbw : Below w1.heap.size w1 (w1.alloc (.cells #[.slice none 0 0] 76)) := (Below.refl _ _).alloc (Nat.le_refl _) _
  have hk0 := cell_kept hbw HCC.out.1
  have HP0 := Lib.hid (PS.fresh w1)
  have HBW := Lib.hid hbw
  clear hbw
  go_wp2_with fail
  clear hk0
  obtain ⟨w2, hw2⟩ : ∃ y, w1.alloc (.cells #[.slice none 0 0] 76) = y := ⟨_, rfl⟩
  rw [hw2] at HP0 HBW ⊢
  have HC20 : Hid (w2.cell? ⟨w.heap.size, 0, none⟩ = some (.slice a n c) ∧ w2.cell? ⟨w.heap.size, 1, none⟩ = some (.int .u8 p)) := ⟨cell_kept HBW.out HCC.out.1, cell_kept HBW.out HCC.out.2⟩
  have HNE : Hid (w.heap.size ≠ w1.heap.size) := by have := HWS.out; show _ ≠ _; omega
  clear hw2
  go_loopw [14] (fun i wr => ∃ j : Nat, j ≤ n ∧ i = .int .i64 j ∧ Hid (PS w2 w1.heap.size wr (chB es p j))) (fun i _ => n - (intOf i).toNat)
  case atStart => exact ⟨0, Nat.zero_le _, rfl, HP0.out⟩
  case round =>
    obtain ⟨j, hj, rfl, hst⟩ := hrel
    rename World => wr
    clear HP0
    by_cases hlt : j < n
    · have hlt' : (j : Int) < (n : Int) := by omega
      obtain ⟨x, hx⟩ : ∃ x, es[j]? = some x := ⟨_, List.getElem?_eq_getElem (by rw [HL.out]; exact hlt)⟩
      have hbn : Below w1.heap.size w1 wr := hst.out.belowNew w1 HBW.out (Nat.le_refl _)
      have hxm := List.mem_of_getElem? hx
      have HC2 := Lib.hid (HC1.out.below hbn)
      have hok := HC2.out.ok x hxm
      have hfw := HC2.out.few x hxm
      have HXR : Hid (Rd w1 x.a x.xs) := (HC1.out.ok x hxm).rd
      have hx46 : x.n ≤ 2046 := by
        have h1 := HR.out
        unfold rtC at h1
        rw [Bool.and_eq_true] at h1
        have h2 := rtE_few (rtG_all es p _ _ h1.2 x hxm)
        rw [hok.len] at h2
        exact h2
      obtain ⟨b, o, rfl, hcl⟩ := HC2.out.cells (by intro e; rw [e] at hx; simp at hx)
      obtain ⟨hc0, hc1⟩ := hcl j x hx
      have hcn : n ≤ c := HC2.out.cap
      have hb3 : Below wr.heap.size wr (wr.alloc (.cells #[.int .u8 x.k, .slice x.a x.n x.c] 71)) := (Below.refl _ _).alloc (Nat.le_refl _) _
      have HX3 := Lib.hid (hok.below hb3)
      have HC3 := Lib.hid (HC2.out.below hb3)
      have HP3 := Lib.hid (hst.out.below hb3)
      have hy0 : (wr.alloc (.cells #[.int .u8 x.k, .slice x.a x.n x.c] 71)).cell? ⟨wr.heap.size, 0, none⟩ = some (.int .u8 x.k) := World.cell?_alloc_new _ _ _ _
      have hy1 : (wr.alloc (.cells #[.int .u8 x.k, .slice x.a x.n x.c] 71)).cell? ⟨wr.heap.size, 1, none⟩ = some (.slice x.a x.n x.c) := World.cell?_alloc_new _ _ _ _
      have hz0 := cell_kept hb3 (cell_kept hbn HCC.out.1)
      have hz1 := cell_kept hb3 (cell_kept hbn HCC.out.2)
      have i1 : IntKind.i64.wrap ((j : Int) + 1) = (j : Int) + 1 := IntWalk.i64_in _ (by omega)
      obtain ⟨CM, hCM⟩ : ∃ v, cmE es p (j + 1) = v := ⟨_, rfl⟩
      obtain ⟨SC, hSC⟩ : ∃ v, scE x.k x.xs = v := ⟨_, rfl⟩
      have HCM := Lib.hid hCM
      have HSC := Lib.hid hSC
      have HCH : Hid (chB es p (j + 1) = (chB es p j ++ [CM, SC]) ++ x.xs) := by show _ = _; rw [← hCM, ← hSC]; simp [chB, hx]
      have HLN := Lib.hid (HFW.out j)
      clear hCM hSC hx hxm hcl hok hbn
      go_upto_region 7 with fail
      clear hc0 hc1
      obtain ⟨w3, hw3⟩ : ∃ y, wr.alloc (.cells #[.int .u8 x.k, .slice x.a x.n x.c] 71) = y := ⟨_, rfl⟩
      rw [hw3] at HX3 HC3 HP3 hy0 hy1 hz0 hz1 hb3 ⊢
      have HB3 := Lib.hid hb3
      clear hb3 hw3
      have HSC2 : Hid (∀ wz, x.ok wz → Calls Try.prog 39 #[.agg #[.int .u8 x.k, .slice x.a x.n x.c]] wz (Gives wz (.int .u8 SC))) := fun wz hz => by have hq := sxSecond_any x wz hz hfw; rw [HSC.out] at hq; exact hq
      have HCM2 : Hid (∀ wz, Ch wz (some ⟨b, o, none⟩) n c es → Calls Try.prog 38 #[.agg #[.slice (some ⟨b, o, none⟩) n c, .int .u8 p], .int .i64 ((j : Int) + 1)] wz (Gives wz (.int .u8 CM))) := fun wz hz => by have hq := sxComes_at (some ⟨b, o, none⟩) n c es p ((j : Int) + 1) (j + 1) wz hz (by omega); rw [HCM.out] at hq; exact hq
      have HRAW : Hid (∀ wz, Below w3.heap.size w3 wz → Calls Try.prog 33 #[.pointer (some ⟨w1.heap.size, 0, none⟩), .slice (some ⟨wz.heap.size, 0, none⟩) 2 2] (wz.alloc (.cells #[.int .u8 CM, .int .u8 SC] 5)) fun e w' => e = .returned (.int .i64 0) ∧ PS w2 w1.heap.size w' (chB es p j ++ [CM, SC]) ∧ w'.cell? ⟨wr.heap.size, 0, none⟩ = some (.int .u8 x.k) ∧ w'.cell? ⟨wr.heap.size, 1, none⟩ = some (.slice x.a x.n x.c) ∧ w'.cell? ⟨w.heap.size, 0, none⟩ = some (.slice (some ⟨b, o, none⟩) n c) ∧ w'.cell? ⟨w.heap.size, 1, none⟩ = some (.int .u8 p)) := fun wz hz => by
        have hal : Below wz.heap.size wz (wz.alloc (.cells #[.int .u8 CM, .int .u8 SC] 5)) := (Below.refl _ _).alloc (Nat.le_refl _) _
        have hb5 : Below w3.heap.size w3 (wz.alloc (.cells #[.int .u8 CM, .int .u8 SC] 5)) := hz.trans (hal.mono hz.size)
        have hbr : Below wr.heap.size wr (wz.alloc (.cells #[.int .u8 CM, .int .u8 SC] 5)) := HB3.out.trans (hb5.mono HB3.out.size)
        refine (hst.out.rawK hbr (some ⟨wz.heap.size, 0, none⟩) 2 2 [CM, SC] rfl (Own.lit wz wz.heap.size [CM, SC] 2 rfl (by decide) (Nat.le_refl _)).rd (by have h1 := HLN.out; omega)).mono ?_
        rintro e w' ⟨he, hp, hk⟩
        exact ⟨he, hp, hk _ _ _ (Nat.le_refl _) (cell_kept hb5 hy0), hk _ _ _ (Nat.le_refl _) (cell_kept hb5 hy1), hp.cell HC20.out.1 HNE.out, hp.cell HC20.out.2 HNE.out⟩
      go_region_held3 (fun w' => w'.cell? ⟨w.heap.size, 0, none⟩ = some (.slice (some ⟨b, o, none⟩) n c) ∧ w'.cell? ⟨w.heap.size, 1, none⟩ = some (.int .u8 p) ∧ w'.cell? ⟨wr.heap.size, 0, none⟩ = some (.int .u8 x.k) ∧ w'.cell? ⟨wr.heap.size, 1, none⟩ = some (.slice x.a x.n x.c)) (go_keep)
        (first
          | ((go_at_call 38; (with_reducible refine (HCM2.out _ (HC3.out.below (to_drew w3))).mono ?_); rintro e wa ⟨rfl, hba⟩; have hba2 : Below w3.heap.size w3 wa := undrew hba; have k0 := cell_kept hba2 hz0; have k1 := cell_kept hba2 hz1; have k2 := cell_kept hba2 hy0; have k3 := cell_kept hba2 hy1; clear hba))
          | ((go_at_call 39; (with_reducible refine (HSC2.out _ (HX3.out.below hba2)).mono ?_); rintro e wb ⟨rfl, hbb⟩; have hbb2 : Below w3.heap.size w3 wb := hba2.trans (hbb.mono hba2.size); have m0 := cell_kept hbb k0; have m1 := cell_kept hbb k1; have m2 := cell_kept hbb k2; have m3 := cell_kept hbb k3; clear hbb))
          | ((go_at_call 33; (with_reducible refine (HRAW.out _ hbb2).mono ?_); rintro e wd ⟨rfl, hpd, n2, n3, n0, n1⟩; have HPD := Lib.hid hpd; clear hpd))
          | fail)
      clear k0 k1 k2 k3 m0 m1 m2 m3
      have HRX : Hid (Rd wd x.a x.xs) := HPD.out.rd (HXR.out.below HBW.out) (HXR.out.apart (Nat.le_refl _))
      go_wp2_with fail
      refine (HPD.out.raw x.a x.n x.c x.xs HX3.out.len HRX.out (by have h1 := HLN.out; simp; omega)).mono ?_
      rintro e we ⟨rfl, hpe⟩
      rw [← HCH.out] at hpe
      have HPE := Lib.hid hpe
      clear hpe
      go_wp2_with fail
      go_roundw
      case rel => exact ⟨j + 1, by omega, by go_num, HPE.out⟩
      case measure => simp [intOf]; omega
    · obtain rfl : j = n := by omega
      have hq0 := hst.out.cell HC20.out.1 HNE.out
      have hq1 := hst.out.cell HC20.out.2 HNE.out
      have HPN := Lib.hid hst.out.drew
      have hbn : Below w1.heap.size w1 wr := hst.out.belowNew w1 HBW.out (Nat.le_refl _)
      have HBN : Hid (Below w.heap.size w wr) := HB1.out.trans (hbn.mono HB1.out.size)
      have HCN := Lib.hid (HC1.out.below hbn)
      have HCM0 : Hid (∀ wz, Ch wz a j c es → Calls Try.prog 38 #[.agg #[.slice a j c, .int .u8 p], .int .i64 0] wz (Gives wz (.int .u8 (cmE es p 0)))) := fun wz hz => sxComes_at a j c es p 0 0 wz hz rfl
      have HLJ : Hid ((chB es p j).length ≤ 1000000000) := by have := HFW.out j; show _ ≤ _; omega
      clear hst hbn
      go_upto_region 10 with fail
      go_region_held3 (fun w' => w'.cell? ⟨w.heap.size, 0, none⟩ = some (.slice a j c) ∧ w'.cell? ⟨w.heap.size, 1, none⟩ = some (.int .u8 p)) (go_keep)
        (first
          | ((go_at_call 34; (with_reducible refine (HPN.out.bytes HLJ.out).mono ?_); rintro e wa ⟨a8, n8, c8, rfl, hown, hba⟩; have hba2 : Below wr.heap.size wr wa := undrew hba; have k0 := cell_kept hba2 hq0; have k1 := cell_kept hba2 hq1; have HO8 := Lib.hid hown; clear hba hown))
          | ((go_at_call 38; (with_reducible refine (HCM0.out _ (HCN.out.below hba2)).mono ?_); rintro e wb ⟨rfl, hbb⟩; have k2 := cell_kept hbb k0; have k3 := cell_kept hbb k1; have HBB := Lib.hid hbb; clear hbb))
          | fail)
      clear k0 k1 k2 k3
      go_wp2_with fail
      go_ret3
      have hb9 : Below wr.heap.size wr wb := hba2.trans (HBB.out.mono hba2.size)
      refine ⟨HBN.out.trans (hb9.mono HBN.out.size), .inl ⟨HR.out, a8, n8, c8, rfl, ?_⟩⟩
      rw [HL.out]
      have ho := HO8.out.keep (S := fun _ => False) (Kept.of_below HBB.out (fun i hi hi' => by omega)) (fun _ _ => id)
      exact ho.mono HBN.out.size
set_option maxHeartbeats 1000000 in
theorem sxPutChain_any (a : Option Addr) (n c : Nat) (es : List Ex) (p : Int) (w : World) (h : Ch w a n c es) (p0 : 0 ≤ p) (p1 : p < 256) :
    Calls Try.prog 19 #[.agg #[.slice a n c, .int .u8 p]] w (PutCH w es p) := by
  cases hrt : rtC es p with
  | true => exact sxPutChain_ok a n c es p w h p0 p1 hrt
  | false =>
    have hbA : Below w.heap.size w (w.alloc (.cells #[.slice a n c, .int .u8 p] 46)) := (Below.refl _ _).alloc (Nat.le_refl _) _
    have HB := Lib.hid hbA
    have HC := Lib.hid (h.below hbA)
    have HR := Lib.hid hrt
    clear h hbA hrt
    go_enter Try.func19, Try.ntmps19
    go_wp2_with fail
    refine (sxRight_any a n c es p _ HC.out p0 p1).mono ?_
    rintro e w1 ⟨rfl, hb1⟩
    rw [HR.out]
    have HB1 := Lib.hid (HB.out.trans (hb1.mono HB.out.size))
    clear hb1
    go_wp2_with fail
    go_ret3
    exact ⟨HB1.out, .inr ⟨HR.out, rfl⟩⟩
end Go.Proofs.Ythipnkaghddbhaa

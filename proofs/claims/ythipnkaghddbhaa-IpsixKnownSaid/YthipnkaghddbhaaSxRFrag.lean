/-
  The contract of the document's own Frag for layer 6. Conditions: a chain that lies in memory.
-/
import Derived.Test.YthipnkaghddbhaaSxRSame
namespace Go.Proofs.Ythipnkaghddbhaa
open Go.RowKit

/-- What a chain's first fragment says, as the document has the chain. -/
def frY (x : Int × List Int) : Int × Bool × Int × Bool := (wd x.2 / 8, decide (wd x.2 % 2 = 1), getV x.2 2 4 % 4294967296, true)
def frH : List (Int × List Int) → Int × Bool × Int × Bool
  | [] => (0, false, 0, false)
  | x :: es => if x.1 = 44 then frY x else frH es
def frW (es : List (Int × List Int)) (p : Int) : Int × Bool × Int × Bool := if rtR es p = true then frH es else (0, false, 0, false)
theorem frH_map (es : List Ex) : frH (es.map Ex.two) = frG es := by
  induction es with
  | nil => rfl
  | cons x es ih => simp only [List.map_cons, frH, frG, ih]; rfl
theorem frW_map (es : List Ex) (p : Int) : frW (es.map Ex.two) p = frV es p := by unfold frW frV; rw [frH_map, rtR_map]
theorem rtH_all : ∀ (es : List (Int × List Int)) (p : Int) (l : Bool) (i : Nat), rtH l i es p = true → ∀ x ∈ es, rtE x.1 x.2 = true
  | [], _, _, _, _, x, hx => by cases hx
  | y :: es, p, l, i, h, x, hx => by
    simp only [rtH, Bool.and_eq_true, Bool.not_eq_true', Bool.or_eq_false_iff, Bool.not_eq_false'] at h
    rcases List.mem_cons.1 hx with rfl | hx
    · exact h.1.2.1
    · exact rtH_all es p _ _ h.2 x hx
theorem rtR_all {es : List (Int × List Int)} {p : Int} (h : rtR es p = true) : es.length ≤ 16 ∧ ∀ x ∈ es, rtE x.1 x.2 = true := by
  unfold rtR at h
  rw [Bool.and_eq_true, decide_eq_true_eq] at h
  exact ⟨h.1, rtH_all es p _ _ h.2⟩

set_option maxRecDepth 100000 in
set_option maxHeartbeats 2000000 in
theorem r6Frag_any (a : Option Addr) (n c : Nat) (es : List (Int × List Int)) (p : Int) (w : World) (h : ChR w a n c es) (p0 : 0 ≤ p) (p1 : p < 256) :
    Calls Try.prog 22 #[.agg #[.slice a n c, .int .u8 p]] w (Gives w (frT (frW es p))) := by
  have HX := Lib.hid h
  have HL := Lib.hid h.len
  have hnm : n ≤ 9223372036854775807 := by have h1 := h.cap; have h2 := h.max; unfold maxLen at h2; omega
  have hcn : n ≤ c := h.cap
  obtain ⟨wA, hwA⟩ : ∃ x, w.alloc (.cells #[.slice a n c, .int .u8 p] 50) = x := ⟨_, rfl⟩
  have hbA : Below w.heap.size w wA := by rw [← hwA]; exact (Below.refl _ _).alloc (Nat.le_refl _) _
  have hA0 : wA.cell? ⟨w.heap.size, 0, none⟩ = some (.slice a n c) := by rw [← hwA]; exact World.cell?_alloc_new _ _ _ _
  have hA1 : wA.cell? ⟨w.heap.size, 1, none⟩ = some (.int .u8 p) := by rw [← hwA]; exact World.cell?_alloc_new _ _ _ _
  have HB := Lib.hid hbA
  have HA := Lib.hid (And.intro hA0 hA1)
  have HST0 : Hid ((rtR es p = true → frH es = frH (es.drop 0)) ∧ Below wA.heap.size wA wA) := ⟨fun _ => rfl, Below.refl _ _⟩
  have HW := Lib.hid hwA
  clear h hbA hA0 hA1 hwA
  go_enter Try.func22, Try.ntmps22
  go_upto_region 1 with fail
  rw [HW.out]
  go_wp2_with fail
  go_loopw [6] (fun i wr => ∃ j : Nat, j ≤ n ∧ i = .int .i64 j ∧ Hid ((rtR es p = true → frH es = frH (es.drop j)) ∧ Below wA.heap.size wA wr)) (fun i _ => n - (intOf i).toNat)
  case atStart => exact ⟨0, Nat.zero_le _, rfl, HST0.out⟩
  case round =>
    obtain ⟨j, hj, rfl, hst⟩ := hrel
    rename World => wr
    clear HST0
    have hz0 := cell_kept hst.out.2 HA.out.1
    have hz1 := cell_kept hst.out.2 HA.out.2
    have HBR : Hid (Below w.heap.size w wr) := HB.out.trans (hst.out.2.mono HB.out.size)
    by_cases hlt : j < n
    · have hlt' : (j : Int) < (n : Int) := by omega
      obtain ⟨⟨k, xs⟩, hx⟩ : ∃ x, es[j]? = some x := ⟨_, List.getElem?_eq_getElem (by rw [HL.out]; exact hlt)⟩
      have hdr : es.drop j = (k, xs) :: es.drop (j + 1) := by
        have hlen : j < es.length := by rw [HL.out]; exact hlt
        rw [List.drop_eq_getElem_cons hlen]
        rw [List.getElem?_eq_getElem hlen] at hx
        rw [Option.some.inj hx]
      have HDR := Lib.hid hdr
      obtain ⟨b, o, rfl, _, hcl⟩ := HX.out.nth hx
      have HCL := Lib.hid hcl
      have HMX := Lib.hid (List.mem_of_getElem? hx)
      clear hcl hx hdr
      cases hrt : rtR es p with
      | false =>
        have HR := Lib.hid hrt
        have HF : Hid (frW es p = (0, false, 0, false)) := by show _ = _; unfold frW; rw [hrt]; rfl
        clear hrt
        go_wp2_with fail
        refine (r6Right_any (some ⟨b, o, none⟩) n c es p _ (HX.out.below HBR.out) p0 p1).mono ?_
        rintro e w1 ⟨rfl, hb1⟩
        have HB1 := Lib.hid (HBR.out.trans (hb1.mono HBR.out.size))
        clear hb1
        rw [HR.out]
        go_wp2_with fail
        (try simp only [Exit.inBlock, Exit.then]); refine bodyPost_ret (results_tmp4 rfl _ _ _) rfl ?_
        exact ⟨by rw [HF.out]; rfl, HB1.out⟩
      | true =>
        have HR := Lib.hid hrt
        clear hrt
        go_wp2_with fail
        refine (r6Right_any (some ⟨b, o, none⟩) n c es p _ (HX.out.below HBR.out) p0 p1).mono ?_
        rintro e w1 ⟨rfl, hb1⟩
        rw [HR.out]
        have HBW1 : Hid (Below wA.heap.size wA w1) := hst.out.2.trans (hb1.mono hst.out.2.size)
        have HB1 : Hid (Below w.heap.size w w1) := HB.out.trans (HBW1.out.mono HB.out.size)
        obtain ⟨hy0, hy1⟩ := HCL.out w1 HB1.out
        have hv0 := cell_kept hb1 hz0
        clear hb1 hz0 hz1
        by_cases hk : k = 44
        · subst hk
          have hall := (rtR_all HR.out).2 _ HMX.out
          have h6 : xs.length = 6 := by
            have h1 : rtE 44 xs = true := hall
            unfold rtE at h1
            rw [if_pos rfl, Bool.and_eq_true, decide_eq_true_eq] at h1
            exact h1.1
          have hbx := (HX.out.ok _ HMX.out).2.1
          have HF : Hid (frW es p = frY (44, xs)) := by show _ = _; unfold frW; rw [if_pos HR.out, hst.out.1 HR.out, HDR.out, frH, if_pos rfl]
          obtain ⟨cv, w2, hcv, hrx, hb2⟩ := run_bytes_str w1 xs hbx
          rw [h6] at hcv
          have HCV := Lib.hid hcv
          have HRX := Lib.hid hrx
          have H6 := Lib.hid h6
          have HBX := Lib.hid hbx
          have HB2 : Hid (Below w.heap.size w w2) := HB1.out.trans (hb2.mono HB1.out.size)
          obtain ⟨V, hV⟩ : ∃ v, getV xs 0 2 = v := ⟨_, rfl⟩
          obtain ⟨I, hI⟩ : ∃ v, getV xs 2 4 = v := ⟨_, rfl⟩
          have hvr := getV_range hbx 0 2 (by omega)
          have p2 : pw 2 = 65536 := by decide
          have hV' : getV xs 0 ((2 : Nat) : Int) = V := hV
          rw [hV', p2] at hvr
          obtain ⟨v0, v1⟩ := hvr
          have HV := Lib.hid hV
          have HI := Lib.hid hI
          have HFV : Hid (frW es p = (V / 8, decide (V % 2 = 1), IntKind.u32.wrap I, true)) := by
            show _ = _
            rw [HF.out, frY, IntKind.wrap_u32]
            show (wd xs / 8, decide (wd xs % 2 = 1), getV xs 2 4 % 4294967296, true) = _
            rw [show wd xs = V from hV, hI]
          obtain ⟨S, hS⟩ : ∃ y, str xs = y := ⟨_, rfl⟩
          have hcv2 := HCV.out
          rw [hS] at hy1 hcv2
          have hw8 : IntKind.u16.wrap (V / 8) = V / 8 := by rw [IntKind.wrap_u16]; omega
          clear hcv hrx hb2 hbx h6 hall hV hI hV' p2 hS HF hst
          go_wp2_with fail
          refine (refGet_any _ 6 cv xs 0 2 _ H6.out HRX.out HBX.out (by omega)).mono ?_
          rintro e w3 ⟨rfl, rfl⟩
          rw [HV.out]
          go_wp2_with fail
          refine (refGet_any _ 6 cv xs 2 4 _ H6.out HRX.out HBX.out (by omega)).mono ?_
          rintro e w3 ⟨rfl, rfl⟩
          rw [HI.out]
          go_wp2_with fail
          (try simp only [Exit.inBlock, Exit.then]); refine bodyPost_ret (results_tmp4 rfl _ _ _) rfl ?_
          exact ⟨by rw [HFV.out]; rfl, HB2.out⟩
        · have hkb : (k == 44) = false := by simpa using hk
          have HN : Hid (rtR es p = true → frH es = frH (es.drop (j + 1))) := by
            intro hr
            rw [hst.out.1 hr, HDR.out, frH, if_neg hk]
          clear hk
          go_wp2_with fail
          go_roundw
          case rel => exact ⟨j + 1, by omega, by go_num, fun _ => HN.out HR.out, HBW1.out⟩
          case measure => simp [intOf]; omega
    · obtain rfl : j = n := by omega
      have HE : Hid (frW es p = (0, false, 0, false)) := by
        show _ = _
        unfold frW
        split
        · rename_i hr
          rw [hst.out.1 hr, List.drop_eq_nil_of_le (by rw [HL.out]; exact Nat.le_refl _)]
          rfl
        · rfl
      clear hst
      go_wp2_with fail
      (try simp only [Exit.inBlock, Exit.then]); refine bodyPost_ret (results_tmp4 rfl _ _ _) rfl ?_
      exact ⟨by rw [HE.out]; rfl, HBR.out⟩
end Go.Proofs.Ythipnkaghddbhaa

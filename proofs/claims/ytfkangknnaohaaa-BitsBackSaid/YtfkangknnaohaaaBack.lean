/-
  BitsBack: whatever numbers, sizes, place and number come in, the statement's function answers true, and what came in reads afterwards as before. No conditions.
-/
import Derived.Test.YtfkangknnaohaaaBackM
import Derived.Test.YtfkangknnaohaaaRd2
import Derived.Test.YtfkangknnaohaaaWorks
import Derived.Test.YtfkangknnaohaaaRef
namespace Go.Proofs.Ytfkangknnaohaaa
open Go.ChangeShapes Go.WideShapes Go.ChangeAt Go.RowKit

/-- The statement's writer has these bytes. -/
def WrSt (w : World) (g : Nat) (xs : List Int) (wr : World) : Prop :=
  Below w.heap.size w wr ∧ w.heap.size ≤ g ∧ ∃ a n c, Wr wr w.heap.size g a n c xs
theorem WrSt.wrote {w wr w' : World} {g : Nat} {xs ys : List Int} {a : Option Addr} {n c : Nat} (h : WrSt w g xs wr) (hw : Wr wr w.heap.size g a n c xs) (hp : Wrote wr w.heap.size g a ys w') : WrSt w g ys w' := by
  obtain ⟨h1, h2, _⟩ := h
  obtain ⟨a', n', c', hw', hk, _⟩ := hp
  refine ⟨h1.trans (hk.below h1.size ?_), h2, a', n', c', hw'⟩
  rintro k (e | e)
  · omega
  · exact (hw.2.blk_ge k e).1
theorem WrSt.below {w wr w' : World} {g : Nat} {xs : List Int} (h : WrSt w g xs wr) (hb : Below wr.heap.size wr w') : WrSt w g xs w' := by
  obtain ⟨h1, h2, a, n, c, hw⟩ := h
  exact ⟨h1.trans (hb.mono h1.size), h2, a, n, c, hw.keep (S := fun _ => False) (Kept.of_below hb (fun i hi hi' => by omega)) id (fun _ _ => id)⟩

theorem zip_get {xs ys : List Int} {i : Nat} (hx : i < xs.length) (hy : i < ys.length) : (xs.zip ys)[i]? = some (xs.getD i 0, ys.getD i 0) := by
  rw [List.getElem?_eq_getElem (by simp; omega)]
  simp [List.getElem?_eq_getElem hx, List.getElem?_eq_getElem hy]

/-- Where the statement's reader stands, behind the writer's bytes. -/
def BkRd (w2 : World) (g2 : Nat) (xs : List Int) (k : Nat) (wr : World) : Prop :=
  (∃ a n c q, Rr wr g2 a n c q xs ∧ 0 ≤ q ∧ q ≤ 8 * (k : Int)) ∧ Kept (fun j => j = g2) w2 wr
theorem Rr.drewN {w : World} {g : Nat} {a : Option Addr} {n c : Nat} {p : Int} {xs : List Int} (h : Rr w g a n c p xs) (m : Nat) : Rr (w.drewN m) g a n c p xs := ⟨h.at_, h.len, h.cap, h.max, h.rd, h.byt, h.ne⟩
theorem Kept.drewN {S : Nat → Prop} {w w' : World} (h : Kept S w w') (m : Nat) : Kept S w (w'.drewN m) := ⟨h.os, h.tape, h.output, h.size, h.block⟩
theorem BkRd.drewN {w2 : World} {g2 : Nat} {xs : List Int} {k : Nat} {wr : World} (h : BkRd w2 g2 xs k wr) (m : Nat) : BkRd w2 g2 xs k (wr.drewN m) := by
  obtain ⟨⟨a, n, c, q, hr, h1, h2⟩, hk⟩ := h
  exact ⟨⟨a, n, c, q, hr.drewN m, h1, h2⟩, hk.drewN m⟩
theorem BkRd.more {w2 : World} {g2 : Nat} {xs : List Int} {k : Nat} {wr : World} (h : BkRd w2 g2 xs k wr) : BkRd w2 g2 xs (k + 1) wr := by
  obtain ⟨⟨a, n, c, q, hr, h1, h2⟩, hk⟩ := h
  exact ⟨⟨a, n, c, q, hr, h1, by omega⟩, hk⟩

set_option maxRecDepth 100000 in
set_option maxHeartbeats 4000000 in
theorem back_any (la : Option Addr) (ln lc : Nat) (ls : List Int) (sa : Option Addr) (sn sc : Nat) (ss : List Int) (p v : Int) (w : World)
    (hln : ls.length = ln) (_hlc : ln ≤ lc) (_hlm : lc ≤ 9223372036854775807) (hlr : RdK .u64 w la ls) (hlw : ∀ y ∈ ls, (Lit.int .u64 y).wf = true)
    (hsn : ss.length = sn) (_hsc : sn ≤ sc) (_hsm : sc ≤ 9223372036854775807) (hsr : RdK .i64 w sa ss) (hsw : ∀ y ∈ ss, (Lit.int .i64 y).wf = true)
    (hp1 : -9223372036854775808 ≤ p) (hp2 : p ≤ 9223372036854775807) (hv : U64 v) :
    Calls Try.prog 6 #[.slice la ln lc, .slice sa sn sc, .int .i64 p, .int .u64 v] w fun e w' => e = .returned (.bool true) ∧ Below w.heap.size w w' := by
  have HLN := Lib.hid hln
  have HLR := Lib.hid hlr
  have HLW := Lib.hid hlw
  have HSN := Lib.hid hsn
  have HSR := Lib.hid hsr
  have HSW := Lib.hid hsw
  have HV := Lib.hid hv
  clear hln hlr hlw hsn hsr hsw hv
  by_cases hl : 40 < ln
  · go_enter Try.func6, Try.ntmps6
    go_wp2_with fail
    refine (works_any _).mono ?_
    rintro e w1 ⟨rfl, hb⟩
    have HB1 := Lib.hid hb
    clear hb
    go_wp2_with fail
    go_ret
    exact ⟨rfl, HB1.out⟩
  by_cases hl2 : sn < ln
  · go_enter Try.func6, Try.ntmps6
    go_wp2_with fail
    refine (works_any _).mono ?_
    rintro e w1 ⟨rfl, hb⟩
    have HB1 := Lib.hid hb
    clear hb
    go_wp2_with fail
    go_ret
    exact ⟨rfl, HB1.out⟩
  have HW0 : Hid (WrSt w w.heap.size (encs ((ls.zip ss).take 0)) (w.alloc (.cells #[.slice none 0 0] 27))) := ⟨(Below.refl _ _).alloc (Nat.le_refl _) _, Nat.le_refl _, none, 0, 0, Wr.new w w.heap.size⟩
  have HEL : Hid (∀ k, k ≤ 40 → (encs ((ls.zip ss).take k)).length ≤ 320) := fun k hk => by
    have := encs_length ((ls.zip ss).take k)
    have h2 : ((ls.zip ss).take k).length ≤ k := List.length_take_le _ _
    omega
  go_enter Try.func6, Try.ntmps6
  go_wp2_with fail
  go_loopw [10] (fun i wr => ∃ k : Nat, k ≤ ln ∧ i = .int .i64 k ∧ Hid (WrSt w w.heap.size (encs ((ls.zip ss).take k)) wr)) (fun i _ => ln - (intOf i).toNat)
  case atStart => exact ⟨0, Nat.zero_le _, rfl, HW0⟩
  case round =>
    obtain ⟨k, hk, rfl, hst⟩ := hrel
    obtain ⟨wo, rfl⟩ : ∃ wo : World, wo = wr := ⟨_, rfl⟩
    by_cases hlt : k < ln
    · obtain ⟨lb, lo, rfl, hlcell⟩ := HLR.out (by intro e; have := HLN.out; rw [e] at this; simp at this; omega)
      obtain ⟨sb, so, rfl, hscell⟩ := HSR.out (by intro e; have := HSN.out; rw [e] at this; simp at this; omega)
      have hlk := hlcell k (by rw [HLN.out]; exact hlt)
      have hsk := hscell k (by rw [HSN.out]; omega)
      have HZ := Lib.hid (zip_get (xs := ls) (ys := ss) (i := k) (by rw [HLN.out]; exact hlt) (by rw [HSN.out]; omega))
      have hxw := wf_get HLW.out (i := k) (by rw [HLN.out]; exact hlt)
      have hzw := bounds_i64 (wf_get HSW.out (i := k) (by rw [HSN.out]; omega))
      obtain ⟨x, hx⟩ : ∃ x, ls.getD k 0 = x := ⟨_, rfl⟩
      obtain ⟨z, hz⟩ : ∃ z, ss.getD k 0 = z := ⟨_, rfl⟩
      rw [hx] at hlk hxw HZ
      rw [hz] at hsk hzw HZ
      have HX : Hid (U64 x) := u64_of hxw
      obtain ⟨hz1, hz2⟩ := hzw
      have HLK := Lib.hid hlk
      have HSK := Lib.hid hsk
      clear hx hz hxw hlcell hscell hlk hsk
      have hlk := cell_kept hst.out.1 HLK.out
      have hsk := cell_kept hst.out.1 HSK.out
      obtain ⟨hbel, hge, a, n, c, hwr⟩ := hst.out
      have hn320 : n ≤ 320 := by rw [← hwr.2.len]; exact HEL.out k (by omega)
      have HBEL := Lib.hid hbel
      have HWR := Lib.hid hwr
      clear hbel hwr hge
      cases hf : fitB x z with
      | true =>
        have HF := Lib.hid hf
        have hzz := (fitB_iff HX.out).1 hf
        have hz8 : z ≤ 8 := hzz.2.1
        have hlz : (lst x : Int) ≤ z := by simp [fitB] at hf; exact hf.2
        clear hf hzz
        go_wp2_with fail
        refine (wPut_fit _ _ _ _ _ _ _ _ _ HWR.out HX.out HF.out (by omega) HBEL.out.size).mono ?_
        rintro e w3 ⟨rfl, hwro⟩
        have HS3 : Hid (WrSt w w.heap.size (encs ((ls.zip ss).take (k + 1))) w3) := by
          have := hst.out.wrote HWR.out hwro
          show WrSt _ _ _ _
          rw [encs_take HZ.out]
          simpa [enc1, HF.out] using this
        clear hwro hlk hsk
        have hlk := cell_kept HS3.out.1 HLK.out
        go_wp2_with fail
        refine (least_any _ _ HX.out).mono ?_
        rintro e w4 ⟨rfl, rfl⟩
        go_wp2_with fail
        go_roundw
        case rel => exact ⟨k + 1, by omega, by go_num, HS3⟩
        case measure => simp [intOf]; omega
      | false =>
        have HF := Lib.hid hf
        have HS3 : Hid (WrSt w w.heap.size (encs ((ls.zip ss).take (k + 1))) wo) := by
          show WrSt _ _ _ _
          rw [encs_take HZ.out]
          simpa [enc1, hf] using hst.out
        by_cases hz8 : z ≤ 8
        · have hlz : ¬ (lst x : Int) ≤ z := put_same hz8 hf
          clear hf
          go_wp2_with fail
          refine (wPut_not _ _ _ _ _ _ _ _ _ HWR.out HX.out HF.out).mono ?_
          rintro e w3 ⟨rfl, rfl⟩
          go_wp2_with fail
          refine (least_any _ _ HX.out).mono ?_
          rintro e w4 ⟨rfl, rfl⟩
          go_wp2_with fail
          go_roundw
          case rel => exact ⟨k + 1, by omega, by go_num, HS3⟩
          case measure => simp [intOf]; omega
        · clear hf
          go_wp2_with fail
          refine (wPut_not _ _ _ _ _ _ _ _ _ HWR.out HX.out HF.out).mono ?_
          rintro e w3 ⟨rfl, rfl⟩
          go_wp2_with fail
          go_roundw
          case rel => exact ⟨k + 1, by omega, by go_num, HS3⟩
          case measure => simp [intOf]; omega
    · obtain rfl : k = ln := by omega
      have HALL : Hid ((ls.zip ss).take k = ls.zip ss) := List.take_of_length_le (by simp; have := HLN.out; omega)
      have HST : Hid (WrSt w w.heap.size (encs (ls.zip ss)) wo) := by rw [HALL.out] at hst; exact hst
      have HE320 : Hid ((encs (ls.zip ss)).length ≤ 320) := by have := HEL.out k (by omega); rw [HALL.out] at this; exact this
      have HBX := Lib.hid (encs_byt (ls.zip ss))
      obtain ⟨hbel, hge, a, n, c, hwr⟩ := HST.out
      have hn320 : n ≤ 320 := by rw [← hwr.2.len]; exact HE320.out
      have HWR := Lib.hid hwr
      have HBEL := Lib.hid hbel
      clear hbel hwr hge hst HW0
      go_wp2_with fail
      refine (wBytes_any _ _ _ _ _ _ _ HWR.out (by omega)).mono ?_
      rintro e w1 ⟨a1, n1, c1, rfl, hown1, hb1⟩
      have HS1 : Hid (WrSt w w.heap.size (encs (ls.zip ss)) w1) := HST.out.below hb1
      have HO1 := Lib.hid hown1
      have hn1 : n1 ≤ 320 := by rw [← hown1.len]; exact HE320.out
      clear hown1 hb1
      go_wp2_with fail
      refine (read_any _ _ _ (encs (ls.zip ss)) _ HO1.out.len HO1.out.rd HBX.out (by omega)).mono ?_
      rintro e w2 ⟨g2, a2, n2, c2, rfl, hr2, hg2, ha2, hb2⟩
      have HS2 : Hid (WrSt w w.heap.size (encs (ls.zip ss)) w2) := HS1.out.below hb2
      have HR0 : Hid (BkRd w2 g2 (encs ((ls.zip ss).drop 0)) 0 w2) := ⟨⟨a2, n2, c2, 0, hr2, by omega, by omega⟩, Kept.refl _ _⟩
      have HG2 : Hid (w1.heap.size ≤ g2) := hg2
      have HFIN : Hid (∀ wr, Kept (fun j => j = g2) w2 wr → WrSt w w.heap.size (encs (ls.zip ss)) wr) := by
        intro wr hk
        obtain ⟨h1, h2, a3, n3, c3, hw3⟩ := HS1.out
        have hlt3 : ∀ b, blk a3 = some b → b < w1.heap.size := fun b hb => (hw3.2.blk_ge b hb).2
        have hk2 : Kept (fun j => j = g2) w1 wr := (Kept.of_below (S := fun j => j = g2) hb2 (fun i hi hi' => by omega)).trans hk (fun _ _ e => e)
        exact ⟨h1.trans (hk2.below h1.size (by intro j e; subst e; have := h1.size; omega)), h2, a3, n3, c3, hw3.keep hk2 (by intro e; have := hw3.lt; omega) (fun b hb e => by have := hlt3 b hb; omega)⟩
      clear hr2 hg2 ha2 hb2
      go_wp2_with fail
      go_loopw [14] (fun i wr => ∃ j : Nat, j ≤ k ∧ i = .int .i64 j ∧ Hid (BkRd w2 g2 (encs ((ls.zip ss).drop j)) j wr)) (fun i _ => k - (intOf i).toNat)
      case atStart => exact ⟨0, Nat.zero_le _, rfl, HR0⟩
      case round =>
        obtain ⟨j, hj, rfl, hrd⟩ := hrel
        obtain ⟨w5, rfl⟩ : ∃ w5 : World, w5 = wr := ⟨_, rfl⟩
        by_cases hjl : j < k
        · obtain ⟨lb, lo, rfl, hlcell⟩ := HLR.out (by intro e; have := HLN.out; rw [e] at this; simp at this; omega)
          obtain ⟨sb, so, rfl, hscell⟩ := HSR.out (by intro e; have := HSN.out; rw [e] at this; simp at this; omega)
          have hlk := hlcell j (by rw [HLN.out]; exact hjl)
          have hsk := hscell j (by rw [HSN.out]; omega)
          have HZ := Lib.hid (zip_get (xs := ls) (ys := ss) (i := j) (by rw [HLN.out]; exact hjl) (by rw [HSN.out]; omega))
          have hxw := wf_get HLW.out (i := j) (by rw [HLN.out]; exact hjl)
          have hzw := bounds_i64 (wf_get HSW.out (i := j) (by rw [HSN.out]; omega))
          obtain ⟨x, hx⟩ : ∃ x, ls.getD j 0 = x := ⟨_, rfl⟩
          obtain ⟨z, hz⟩ : ∃ z, ss.getD j 0 = z := ⟨_, rfl⟩
          rw [hx] at hlk hxw HZ
          rw [hz] at hsk hzw HZ
          have HX : Hid (U64 x) := u64_of hxw
          obtain ⟨hz1, hz2⟩ := hzw
          have HLK := Lib.hid hlk
          have HSK := Lib.hid hsk
          clear hx hz hxw hlcell hscell hlk hsk
          have HW5 : Hid (WrSt w w.heap.size (encs (ls.zip ss)) w5) := HFIN.out w5 hrd.out.2
          have hlk := cell_kept HW5.out.1 HLK.out
          have hsk := cell_kept HW5.out.1 HSK.out
          cases hf : fitB x z with
          | true =>
            have HF := Lib.hid hf
            have hzz := (fitB_iff HX.out).1 hf
            have hd1 : decide (z < 1) = false := decide_eq_false (by omega)
            have hd8 : decide (8 < z) = false := decide_eq_false (by omega)
            have HD : Hid (encs ((ls.zip ss).drop j) = be z.toNat x ++ encs ((ls.zip ss).drop (j + 1))) := by
              show _ = _; rw [encs_drop HZ.out]; simp [enc1, hf]
            clear hf hzz
            go_wp2_with fail
            go_quiet ((go_at_call 11; refine quiet_l (v := .bool true) ?_; rw [← HF.out]; exact refFits_any _ _ _ HX.out))
            obtain ⟨⟨a5, n5, c5, q5, hr5, hq1, hq2⟩, hk5⟩ := hrd.out
            rw [HD.out] at hr5
            have HR5 := Lib.hid hr5
            have HK5 := Lib.hid hk5
            have HGF := Lib.hid (get_front HX.out HF.out (encs ((ls.zip ss).drop (j + 1))))
            have hz0 : 0 ≤ z := by simp at hd1; omega
            clear hr5 hk5
            go_wp2_with fail
            refine (rGet_yes _ _ _ _ _ _ _ _ (HR5.out.drewN nq) HGF.out.1 hq1 (by omega)).mono ?_
            rintro e w6 ⟨rfl, hs6⟩
            rw [HGF.out.2]
            have HR6 : Hid (BkRd w2 g2 (encs ((ls.zip ss).drop (j + 1))) (j + 1) w6) := by
              obtain ⟨a6, n6, c6, hr6, hk6, _⟩ := hs6
              rw [drop_front] at hr6
              simp at hd8
              exact ⟨⟨a6, n6, c6, _, hr6, by omega, by omega⟩, (HK5.out.drewN nq).trans hk6 (fun _ _ e => e)⟩
            clear hs6 hlk hsk
            have HW6 : Hid (WrSt w w.heap.size (encs (ls.zip ss)) w6) := HFIN.out w6 HR6.out.2
            have hlk := cell_kept HW6.out.1 HLK.out
            go_wp2_with fail
            go_roundw
            case rel => exact ⟨j + 1, by omega, by go_num, HR6⟩
            case measure => simp [intOf]; omega
          | false =>
            have HF := Lib.hid hf
            have HD : Hid (encs ((ls.zip ss).drop j) = encs ((ls.zip ss).drop (j + 1))) := by
              show _ = _; rw [encs_drop HZ.out]; simp [enc1, hf]
            have HN : Hid (∀ m, BkRd w2 g2 (encs ((ls.zip ss).drop (j + 1))) (j + 1) (w5.drewN m)) := fun m => by
              rw [← HD.out]; exact hrd.out.more.drewN m
            clear hf
            by_cases h1 : z < 1
            · have hd1 : decide (z < 1) = true := decide_eq_true h1
              clear h1
              go_wp2_with fail
              go_quiet (fail)
              go_wp2_with fail
              go_roundw
              case rel => exact ⟨j + 1, by omega, by go_num, HN.out _⟩
              case measure => simp [intOf]; omega
            · have hd1 : decide (z < 1) = false := decide_eq_false h1
              by_cases h8 : 8 < z
              · have hd8 : decide (8 < z) = true := decide_eq_true h8
                clear h8 h1
                go_wp2_with fail
                go_quiet (fail)
                go_wp2_with fail
                go_roundw
                case rel => exact ⟨j + 1, by omega, by go_num, HN.out _⟩
                case measure => simp [intOf]; omega
              · have hd8 : decide (8 < z) = false := decide_eq_false h8
                clear h8 h1
                go_wp2_with fail
                go_quiet ((go_at_call 11; refine quiet_l (v := .bool false) ?_; rw [← HF.out]; exact refFits_any _ _ _ HX.out))
                go_wp2_with fail
                go_roundw
                case rel => exact ⟨j + 1, by omega, by go_num, HN.out _⟩
                case measure => simp [intOf]; omega
        · obtain rfl : j = k := by omega
          have HX0 : Hid (encs ((ls.zip ss).drop j) = []) := by
            show _ = _; rw [List.drop_of_length_le (by simp; have := HLN.out; omega)]; rfl
          have HW5 : Hid (WrSt w w.heap.size (encs (ls.zip ss)) w5) := HFIN.out w5 hrd.out.2
          obtain ⟨⟨a5, n5, c5, q5, hr5, _, _⟩, _⟩ := hrd.out
          rw [HX0.out] at hr5
          obtain rfl : n5 = 0 := hr5.len.symm
          have HR5 := Lib.hid hr5
          obtain ⟨hbel5, hge5, a3, n3, c3, hw5⟩ := HW5.out
          have hn3 := hw5.2.len
          have hn3' : n3 ≤ 320 := by rw [← hn3]; exact HE320.out
          have HWR5 := Lib.hid hw5
          have HN3 := Lib.hid hn3
          have HB5 := Lib.hid hbel5
          clear hr5 hw5 hbel5 hge5 hn3 HALL HST HWR HBEL HS1 HO1 HS2 HR0 HG2 HFIN hrd
          go_wp2_with fail
          refine (wBytes_any _ _ _ _ _ _ _ HWR5.out (by omega)).mono ?_
          rintro e w6 ⟨a6, n6, c6, rfl, hown6, hb6⟩
          obtain rfl : n3 = n6 := by rw [← HN3.out, hown6.len]
          have HO6 := Lib.hid hown6
          have HB6 := Lib.hid hb6
          have HW6 : Hid (WrSt w w.heap.size (encs (ls.zip ss)) w6) := HW5.out.below hb6
          have HWR6 : Hid (Wr w6 w.heap.size w.heap.size a3 n3 c3 (encs (ls.zip ss))) := HWR5.out.keep (S := fun _ => False) (Kept.of_below hb6 (fun i hi hi' => by omega)) id (fun _ _ => id)
          have HR6 : Hid (Rr w6 g2 a5 0 c5 q5 []) := HR5.out.keep (S := fun _ => False) (Kept.of_below hb6 (fun i hi hi' => by omega)) id (fun _ _ => id)
          clear hown6 hb6
          go_wp2_with fail
          refine (least_any _ _ HV.out).mono ?_
          rintro e w7 ⟨rfl, rfl⟩
          go_wp2_with fail
          refine (rLeft_any _ _ _ _ _ _ _ HR6.out).mono ?_
          rintro e w7 ⟨rfl, rfl⟩
          have hm1 := lst_pos v
          have hm8 := lst_le v
          cases hs : setB n3 p v (lst v) with
          | false =>
            have HS := Lib.hid hs
            clear hs
            go_wp2_with fail
            refine (wSet_not _ _ _ _ _ _ _ _ _ _ HWR6.out HV.out (by omega) (by omega) HS.out).mono ?_
            rintro e w7 ⟨rfl, rfl⟩
            go_wp2_with fail
            refine (rLeft_any _ _ _ _ _ _ _ HR6.out).mono ?_
            rintro e w7 ⟨rfl, rfl⟩
            go_wp2_with fail
            refine (wBytes_any _ _ _ _ _ _ _ HWR6.out (by omega)).mono ?_
            rintro e w7 ⟨a7, n7, c7, rfl, hown7, hb7⟩
            have HO7 := Lib.hid hown7
            have HB7 : Hid (Below w.heap.size w w7) := HW6.out.1.trans (hb7.mono HW6.out.1.size)
            have HRD : Hid (Rd w7 a6 (encs (ls.zip ss))) := HO6.out.rd.below hb7
            clear hown7 hb7
            go_wp2_with fail
            refine (same_any _ _ _ _ _ _ (encs (ls.zip ss)) (encs (ls.zip ss)) _ HO7.out.len HO6.out.len HO7.out.rd HRD.out HBX.out HBX.out).mono ?_
            rintro e w8 ⟨rfl, rfl⟩
            rw [decide_eq_true rfl]
            go_wp2_with fail
            refine (works_any _).mono ?_
            rintro e w8 ⟨rfl, hb8⟩
            have HF : Hid (Below w.heap.size w w8) := HB7.out.trans (hb8.mono HB7.out.size)
            clear hb8
            go_wp2_with fail
            go_ret
            exact ⟨rfl, HF.out⟩
          | true =>
            have HS := Lib.hid hs
            have hs2 := hs
            simp only [setB, Bool.and_eq_true, decide_eq_true_eq] at hs2
            obtain ⟨hfit, hp0, hpn⟩ := hs2
            have HGS := Lib.hid (get_splice (xs := encs (ls.zip ss)) HV.out (by rw [HN3.out]; exact hs))
            obtain ⟨r, rfl⟩ := Int.eq_ofNat_of_zero_le hp0
            obtain ⟨m, hm⟩ : ∃ m, lst v = m := ⟨_, rfl⟩
            rw [hm] at HS HGS hpn hm1 hm8 ⊢
            clear hs hfit
            rw [Int.toNat_natCast, Int.toNat_natCast] at HGS
            have HM := Lib.hid hm
            clear hm
            go_wp2_with fail
            refine (wSet_fit _ _ _ _ _ _ _ _ _ _ HWR6.out HV.out (by omega) HS.out).mono ?_
            rintro e w7 ⟨rfl, hw7⟩
            rw [Int.toNat_natCast, Int.toNat_natCast] at hw7
            have HW7 : Hid (WrSt w w.heap.size (splice (encs (ls.zip ss)) r (be m v)) w7) := HW6.out.wrote HWR6.out hw7
            have HO7 : Hid (Own w7 w5.heap.size a6 n3 c6 (encs (ls.zip ss))) := by
              obtain ⟨_, _, _, _, hk7, _⟩ := hw7
              refine HO6.out.keep hk7 (fun b hb e => ?_)
              have h1 := (HO6.out.blk_ge b hb).1
              rcases e with e | e
              · have := HWR5.out.lt; omega
              · have := (HWR5.out.2.blk_ge b e).2; omega
            clear hw7
            obtain ⟨hbel7, _, a7, n7, c7, hwr7⟩ := HW7.out
            have hsl : r + (be m v).length ≤ (encs (ls.zip ss)).length := by rw [be_length, HN3.out]; omega
            obtain rfl : n3 = n7 := by rw [← hwr7.2.len, splice_length hsl, HN3.out]
            have HSL := Lib.hid hsl
            have HWR7 := Lib.hid hwr7
            clear hbel7 hwr7 hsl
            go_wp2_with fail
            refine (wBytes_any _ _ _ _ _ _ _ HWR7.out (by omega)).mono ?_
            rintro e w8 ⟨a8, n8, c8, rfl, hown8, hb8⟩
            obtain rfl : n3 = n8 := by rw [← hown8.len, splice_length HSL.out, HN3.out]
            have HO8 := Lib.hid hown8
            have HBY : Hid (Byt (splice (encs (ls.zip ss)) r (be m v))) := splice_byt HBX.out (be_range _ _) _
            have HLP : Hid (Below w.heap.size w w8 ∧ Rd w8 a8 (splice (encs (ls.zip ss)) r (be m v)) ∧ Rd w8 a6 (encs (ls.zip ss))) :=
              ⟨HW7.out.1.trans (hb8.mono HW7.out.1.size), hown8.rd, HO7.out.rd.below hb8⟩
            have hc8 := hown8.le.1
            clear hown8 hb8
            go_wp2_with fail
            refine (get_any _ _ _ (splice (encs (ls.zip ss)) r (be m v)) _ _ _ HO8.out.len HO8.out.rd HBY.out (by omega) (by omega) (by omega)).mono ?_
            rintro e w9 ⟨rfl, rfl⟩
            rw [HGS.out.1, HGS.out.2]
            go_wp2_with fail
            go_loopw [22] (fun i wr => ∃ t : Nat, t ≤ n3 ∧ i = .int .i64 t ∧ Hid (Below w.heap.size w wr ∧ Rd wr a8 (splice (encs (ls.zip ss)) r (be m v)) ∧ Rd wr a6 (encs (ls.zip ss)))) (fun i _ => n3 - (intOf i).toNat)
            case atStart => exact ⟨0, Nat.zero_le _, rfl, HLP⟩
            case round =>
              obtain ⟨t, ht, rfl, hlp⟩ := hrel
              obtain ⟨w9, rfl⟩ : ∃ w9 : World, w9 = wr := ⟨_, rfl⟩
              by_cases htl : t < n3
              · obtain ⟨hlp1, hlp2, hlp3⟩ := hlp.out
                have HLP9 : Hid (∀ q, Below w.heap.size w (w9.drewN q) ∧ Rd (w9.drewN q) a8 (splice (encs (ls.zip ss)) r (be m v)) ∧ Rd (w9.drewN q) a6 (encs (ls.zip ss))) := fun q => ⟨⟨hlp1.os, hlp1.tape, hlp1.output, hlp1.size, hlp1.block⟩, hlp2, hlp3⟩
                have htX : t < (encs (ls.zip ss)).length := by rw [HN3.out]; exact htl
                have htY : t < (splice (encs (ls.zip ss)) r (be m v)).length := by rw [splice_length HSL.out]; exact htX
                obtain ⟨b8, o8, rfl, hc8'⟩ := hlp2 (by intro e; rw [e] at htY; simp at htY)
                obtain ⟨b6, o6, rfl, hc6'⟩ := hlp3 (by intro e; rw [e] at htX; simp at htX)
                have h8 := hc8' t htY
                have h6 := hc6' t htX
                have HSG := Lib.hid (splice_get (xs := encs (ls.zip ss)) (ys := be m v) (p := r) (i := t) HSL.out)
                rw [be_length] at HSG
                clear hc8' hc6' hlp1 hlp2 hlp3 htX htY
                by_cases h1 : t < r
                · have hd1 : decide (t < r) = true := decide_eq_true (by omega)
                  rw [HSG.out, if_neg (by omega)] at h8
                  obtain ⟨y, hy⟩ : ∃ y, (encs (ls.zip ss)).getD t 0 = y := ⟨_, rfl⟩
                  rw [hy] at h8 h6
                  clear hy h1
                  go_wp2_with fail
                  go_quiet (fail)
                  go_wp2_with fail
                  go_roundw
                  case rel => exact ⟨t + 1, by omega, by go_num, HLP9.out _⟩
                  case measure => simp [intOf]; omega
                · have hd1 : decide (t < r) = false := decide_eq_false (by omega)
                  by_cases h2 : r + m ≤ t
                  · rw [HSG.out, if_neg (by omega)] at h8
                    obtain ⟨y, hy⟩ : ∃ y, (encs (ls.zip ss)).getD t 0 = y := ⟨_, rfl⟩
                    rw [hy] at h8 h6
                    clear hy h1
                    have hd2 : decide ((r : Int) + (m : Int) ≤ (t : Int)) = true := decide_eq_true (by omega)
                    have hd3 : decide (r + m ≤ t) = true := decide_eq_true (by omega)
                    have hsum : IntKind.i64.wrap ((r : Int) + (m : Int)) = (r : Int) + (m : Int) := IntWalk.i64_in _ (by omega)
                    go_wp2_with fail
                    go_quiet (fail)
                    clear hsum
                    go_wp2_with fail
                    go_roundw
                    case rel => exact ⟨t + 1, by omega, by go_num, HLP9.out _⟩
                    case measure => simp [intOf]; omega
                  · have hd2 : decide ((r : Int) + (m : Int) ≤ (t : Int)) = false := decide_eq_false (by omega)
                    have hd3 : decide (r + m ≤ t) = false := decide_eq_false (by omega)
                    have hsum : IntKind.i64.wrap ((r : Int) + (m : Int)) = (r : Int) + (m : Int) := IntWalk.i64_in _ (by omega)
                    clear h1
                    go_wp2_with fail
                    go_quiet (fail)
                    clear hsum
                    go_wp2_with fail
                    go_roundw
                    case rel => exact ⟨t + 1, by omega, by go_num, HLP9.out _⟩
                    case measure => simp [intOf]; omega
              · go_wp2_with fail
                refine (works_any _).mono ?_
                rintro e w10 ⟨rfl, hb10⟩
                have HF : Hid (Below w.heap.size w w10) := hlp.out.1.trans (hb10.mono hlp.out.1.size)
                clear hb10
                go_wp2_with fail
                go_ret
                exact ⟨rfl, HF.out⟩
end Go.Proofs.Ytfkangknnaohaaa

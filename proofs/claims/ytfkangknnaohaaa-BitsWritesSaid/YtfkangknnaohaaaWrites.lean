/-
  BitsWrites: whatever Acts come in, the statement's function answers true, and what came in reads afterwards as before. No conditions.
-/
import Derived.Test.YtfkangknnaohaaaFew
import Derived.Test.YtfkangknnaohaaaWorks
import Derived.Test.YtfkangknnaohaaaRef
import Derived.Test.YtfkangknnaohaaaBackM
import Derived.Deep.RegionHeld3
namespace Go.Proofs.Ytfkangknnaohaaa
open Go.ChangeShapes Go.WideShapes Go.ChangeAt Go.RowKit

/-- The statement's writer, and its row of what is wanted, have these bytes. -/
def WtSt (w : World) (g : Nat) (xs : List Int) (wa : Option Addr) (wn wc : Nat) (wr : World) : Prop :=
  Below w.heap.size w wr ∧ w.heap.size ≤ g ∧ Byt xs ∧ Own wr w.heap.size wa wn wc xs ∧ ∃ a n c, Wr wr w.heap.size g a n c xs ∧ ∀ b, blk a = some b → blk wa ≠ some b

theorem WtSt.below {w wr w' : World} {g : Nat} {xs : List Int} {wa : Option Addr} {wn wc : Nat} (h : WtSt w g xs wa wn wc wr) (hb : Below wr.heap.size wr w') : WtSt w g xs wa wn wc w' := by
  obtain ⟨h1, h2, h3, h4, a, n, c, hw, hd⟩ := h
  have hk := Kept.of_below (S := fun _ => False) hb (fun i hi hi' => by omega)
  exact ⟨h1.trans (hb.mono h1.size), h2, h3, h4.keep hk (fun _ _ => id), a, n, c, hw.keep hk id (fun _ _ => id), hd⟩
theorem WtSt.over {w wS w7 wr : World} {g : Nat} {xs : List Int} {wa : Option Addr} {wn wc : Nat} (h : WtSt w g xs wa wn wc wS) (hb : Below wS.heap.size wS w7) {a7 : Option Addr} {n7 c7 : Nat} (hi : Inc w7 wS.heap.size a7 n7 c7 wr) : WtSt w g xs wa wn wc wr := by
  obtain ⟨zs', ho, hk⟩ := hi
  refine h.below (hb.trans (hk.below hb.size (fun k e => (ho.blk_ge k e).1)))
theorem own_ne_wr {w : World} {base base' g : Nat} {a wa : Option Addr} {n c wn wc : Nat} {xs ys : List Int} (h : Wr w base g a n c xs) (ho : Own w base' wa wn wc ys) : blk wa ≠ some g := by
  intro e
  rcases ho.cases with ⟨rfl, _⟩ | ⟨g', cur, rfl, _, hg, _⟩
  · cases e
  · simp [blk] at e
    subst e
    rw [h.1] at hg
    simp at hg
/-- What is wanted stays, when the writer writes. -/
theorem WtSt.own_wrote {w wr w' : World} {g : Nat} {xs ys : List Int} {wa a : Option Addr} {wn wc n c : Nat} (hw : Wr wr w.heap.size g a n c xs) (ho : Own wr w.heap.size wa wn wc xs) (hd : ∀ b, blk a = some b → blk wa ≠ some b) (hp : Wrote wr w.heap.size g a ys w') : Own w' w.heap.size wa wn wc xs := by
  obtain ⟨a', n', c', hw', hk, hx⟩ := hp
  refine ho.keep hk (fun b hb e => ?_)
  rcases e with e | e
  · subst e; exact own_ne_wr hw ho hb
  · exact hd b e hb
/-- A new row of what is wanted, behind what the writer wrote. -/
theorem WtSt.next {w wr w3 w5 : World} {g : Nat} {xs ys : List Int} {wa a : Option Addr} {wn wc n c : Nat} (h : WtSt w g xs wa wn wc wr) (hw : Wr wr w.heap.size g a n c xs) (hp : Wrote wr w.heap.size g a ys w3) (hby : Byt ys)
    {w4 : World} (hb4 : Below w3.heap.size w3 w4) {wa' : Option Addr} {wn' wc' : Nat} (ho : Own w5 w4.heap.size wa' wn' wc' ys) (hb5 : Below w4.heap.size w4 w5) : WtSt w g ys wa' wn' wc' w5 := by
  obtain ⟨h1, h2, h3, h4, _⟩ := h
  obtain ⟨a', n', c', hw', hk, hx⟩ := hp
  have hb3 : Below w.heap.size w w3 := h1.trans (hk.below h1.size (by
    rintro k (e | e)
    · omega
    · exact (hw.2.blk_ge k e).1))
  have hb : Below w3.heap.size w3 w5 := hb4.trans (hb5.mono hb4.size)
  refine ⟨hb3.trans (hb.mono hb3.size), h2, hby, ho.mono (Nat.le_trans hb3.size hb4.size), a', n', c', hw'.keep (S := fun _ => False) (Kept.of_below hb (fun i hi hi' => by omega)) id (fun _ _ => id), fun b hb' e => ?_⟩
  have h5 := (hw'.2.blk_ge b hb').2
  have h6 := (ho.blk_ge b e).1
  have h7 := hb4.size
  omega

theorem WtSt.next2 {w w4 w5 : World} {g : Nat} {ys : List Int} {a' : Option Addr} {n' c' : Nat} (hb : Below w.heap.size w w4) (hge : w.heap.size ≤ g) (hw' : Wr w4 w.heap.size g a' n' c' ys) (hby : Byt ys)
    {wa' : Option Addr} {wn' wc' : Nat} (ho : Own w5 w4.heap.size wa' wn' wc' ys) (hb5 : Below w4.heap.size w4 w5) : WtSt w g ys wa' wn' wc' w5 := by
  refine ⟨hb.trans (hb5.mono hb.size), hge, hby, ho.mono hb.size, a', n', c', hw'.keep (S := fun _ => False) (Kept.of_below hb5 (fun i hi hi' => by omega)) id (fun _ _ => id), fun b hb' e => ?_⟩
  have h5 := (hw'.2.blk_ge b hb').2
  have h6 := (ho.blk_ge b e).1
  omega

/-- A round's own Act. -/
def LocAt (w : World) (b : Nat) (d p v z : Int) (ta : Option Addr) (tn tc : Nat) : Prop := w.heap[b]? = some (.cells #[.int .i64 d, .int .i64 p, .int .u64 v, .int .i64 z, .slice ta tn tc] 30 (0, 0))
theorem LocAt.keep {S : Nat → Prop} {w w' : World} {b : Nat} {d p v z : Int} {ta : Option Addr} {tn tc : Nat} (h : LocAt w b d p v z ta tn tc) (k : Kept S w w') (hn : ¬ S b) : LocAt w' b d p v z ta tn tc := k.heap h hn
theorem LocAt.c1 {w : World} {b : Nat} {d p v z : Int} {ta : Option Addr} {tn tc : Nat} (h : LocAt w b d p v z ta tn tc) : w.cell? ⟨b, 1, none⟩ = some (.int .i64 p) := by rw [cell_of_row w b 1 _ _ (0, 0) h]; rfl
theorem LocAt.c2 {w : World} {b : Nat} {d p v z : Int} {ta : Option Addr} {tn tc : Nat} (h : LocAt w b d p v z ta tn tc) : w.cell? ⟨b, 2, none⟩ = some (.int .u64 v) := by rw [cell_of_row w b 2 _ _ (0, 0) h]; rfl
theorem LocAt.c3 {w : World} {b : Nat} {d p v z : Int} {ta : Option Addr} {tn tc : Nat} (h : LocAt w b d p v z ta tn tc) : w.cell? ⟨b, 3, none⟩ = some (.int .i64 z) := by rw [cell_of_row w b 3 _ _ (0, 0) h]; rfl
theorem LocAt.c4 {w : World} {b : Nat} {d p v z : Int} {ta : Option Addr} {tn tc : Nat} (h : LocAt w b d p v z ta tn tc) : w.cell? ⟨b, 4, none⟩ = some (.slice ta tn tc) := by rw [cell_of_row w b 4 _ _ (0, 0) h]; rfl
theorem LocAt.wrote {w w' : World} {base b g : Nat} {d p v z : Int} {ta a : Option Addr} {tn tc n c : Nat} {xs ys : List Int} (h : LocAt w b d p v z ta tn tc) (hw : Wr w base g a n c xs) (hp : Wrote w base g a ys w') : LocAt w' b d p v z ta tn tc := by
  obtain ⟨a', n', c', hw', hk, hx⟩ := hp
  refine h.keep hk (fun e => ?_)
  rcases e with e | e
  · subst e; have h1 := hw.1; unfold LocAt at h; rw [h] at h1; simp at h1
  · rcases hw.2.cases with ⟨rfl, _⟩ | ⟨g', cur, rfl, _, hg, _⟩
    · cases e
    · simp [blk] at e; subst e; unfold LocAt at h; rw [h] at hg; simp at hg
theorem LocAt.below {w w' : World} {b : Nat} {d p v z : Int} {ta : Option Addr} {tn tc : Nat} (h : LocAt w b d p v z ta tn tc) (hb : Below w.heap.size w w') : LocAt w' b d p v z ta tn tc :=
  h.keep (S := fun _ => False) (Kept.of_below hb (fun i hi hi' => by omega)) id
theorem cell_still {w wr : World} (h : Below w.heap.size w wr) {b o : Nat} {u : Value} (hc : w.cell? ⟨b, o, none⟩ = some u) : wr.cell? ⟨b, o, none⟩ = some u := by
  rw [h.cell (p := ⟨b, o, none⟩) (World.block_lt_of_cell? w ⟨b, o, none⟩ hc)]; exact hc

set_option maxRecDepth 100000 in
set_option maxHeartbeats 4000000 in
theorem writes_any (la : Option Addr) (ln lc : Nat) (ts : List ActV) (w : World) (hln : ts.length = ln) (_hlc : ln ≤ 9223372036854775807) (hlr : ActsRd w la ts) (hok : ∀ t ∈ ts, ActOk w t) :
    Calls Try.prog 3 #[.slice la ln lc] w fun e w' => e = .returned (.bool true) ∧ Below w.heap.size w w' := by
  have HLN := Lib.hid hln
  have HLR := Lib.hid hlr
  have HOK := Lib.hid hok
  clear hln hlr hok
  have HMX : Hid (∀ t ∈ ts, t.n ≤ 9223372036854775807) := fun t ht => by have h1 := (HOK.out t ht).cap; have h2 := (HOK.out t ht).max; omega
  cases hfew : fewB ts && decide (ln ≤ 40) with
  | false =>
    have HF := Lib.hid hfew
    clear hfew
    go_enter Try.func3, Try.ntmps3
    go_wp2_with fail
    refine (few_any _ _ _ ts _ HLN.out (by omega) HLR.out HMX.out).mono ?_
    rintro e w1 ⟨rfl, rfl⟩
    rw [HF.out]
    go_wp2_with fail
    refine (works_any _).mono ?_
    rintro e w1 ⟨rfl, hb⟩
    have HB1 := Lib.hid hb
    clear hb
    go_wp2_with fail
    go_ret
    exact ⟨rfl, HB1.out⟩
  | true =>
    have HF := Lib.hid hfew
    have hl40 : ln ≤ 40 := by simp at hfew; exact hfew.2
    have HSM : Hid (∀ t ∈ ts, t.n ≤ 60) := by
      intro t ht
      simp [fewB] at hfew
      exact hfew.1 t (by rw [List.take_of_length_le (by rw [HLN.out]; omega)]; exact ht)
    have HW0 : Hid (WtSt w w.heap.size [] none 0 0 (w.alloc (.cells #[.slice none 0 0] 27))) :=
      ⟨(Below.refl _ _).alloc (Nat.le_refl _) _, Nat.le_refl _, Byt.nil, Own.nil _ _, none, 0, 0, Wr.new w w.heap.size, fun b hb => by cases hb⟩
    clear hfew
    go_enter Try.func3, Try.ntmps3
    go_wp2_with fail
    refine (few_any _ _ _ ts _ HLN.out (by omega) HLR.out HMX.out).mono ?_
    rintro e w1 ⟨rfl, rfl⟩
    rw [HF.out]
    go_wp2_with fail
    go_loopw [4, 5] (fun v i wr => ∃ (k wn wc : Nat) (wa : Option Addr), k ≤ ln ∧ i = .int .i64 k ∧ v = .slice wa wn wc ∧ wn ≤ 68 * k ∧ Hid (∃ xs, WtSt w w.heap.size xs wa wn wc wr)) (fun _ i _ => ln - (intOf i).toNat)
    case atStart => exact ⟨0, 0, 0, none, Nat.zero_le _, rfl, rfl, by omega, [], HW0.out⟩
    case round =>
      obtain ⟨k, wn, wc, wa, hk, rfl, rfl, hwn, hst⟩ := hrel
      obtain ⟨xs, hst⟩ := hst.out
      have HST := Lib.hid hst
      clear hst
      obtain ⟨wo, rfl⟩ : ∃ wo : World, wo = wr := ⟨_, rfl⟩
      by_cases hlt : k < ln
      · obtain ⟨lb, lo, rfl, hcell⟩ := HLR.out (by intro e; have := HLN.out; rw [e] at this; simp at this; omega)
        have hk' : k < ts.length := by rw [HLN.out]; exact hlt
        have htm := List.getElem_mem hk'
        have HT := Lib.hid (HOK.out ts[k] htm)
        have ht60 := HSM.out ts[k] htm
        have hc0 := hcell k hk' 0 _ rfl
        have hc1 := hcell k hk' 1 _ rfl
        have hc2 := hcell k hk' 2 _ rfl
        have hc3 := hcell k hk' 3 _ rfl
        have hc4 := hcell k hk' 4 _ rfl
        clear hcell htm
        generalize ts[k] = t at HT ht60 hc0 hc1 hc2 hc3 hc4
        obtain ⟨d, p, v, z, ta, tn, tc, ys⟩ := t
        simp only at HT ht60 hc0 hc1 hc2 hc3 hc4
        replace hc0 := cell_still HST.out.1 hc0
        rw [Nat.add_zero] at hc0
        replace hc1 := cell_still HST.out.1 hc1
        replace hc2 := cell_still HST.out.1 hc2
        replace hc3 := cell_still HST.out.1 hc3
        replace hc4 := cell_still HST.out.1 hc4
        have HV : Hid (U64 v) := HT.out.v
        have hp1 : -9223372036854775808 ≤ p := HT.out.p.1
        have hp2 : p ≤ 9223372036854775807 := HT.out.p.2
        have HA : Hid (LocAt (wo.alloc (.cells #[.int .i64 d, .int .i64 p, .int .u64 v, .int .i64 z, .slice ta tn tc] 30)) wo.heap.size d p v z ta tn tc) := Blk_new _ _ _
        have HSA : Hid (WtSt w w.heap.size xs wa wn wc (wo.alloc (.cells #[.int .i64 d, .int .i64 p, .int .u64 v, .int .i64 z, .slice ta tn tc] 30))) := HST.out.below ((Below.refl _ _).alloc (Nat.le_refl _) _)
        have HRA : Hid (Rd (wo.alloc (.cells #[.int .i64 d, .int .i64 p, .int .u64 v, .int .i64 z, .slice ta tn tc] 30)) ta ys) := HT.out.rd.below HSA.out.1
        have HYL : Hid (ys.length = tn) := HT.out.len
        have HYB : Hid (Byt ys) := HT.out.byt
        go_wp2_with fail
        refine (refFits_any _ _ _ HV.out).mono ?_
        rintro e w2 ⟨rfl, rfl⟩
        go_wp2_with fail
        refine (pick_any _ _).mono ?_
        rintro e w2 ⟨rfl, rfl⟩
        clear hc0 hc1 hc2 hc3 hc4
        obtain ⟨wA, hwA⟩ : ∃ wA, wo.alloc (.cells #[.int .i64 d, .int .i64 p, .int .u64 v, .int .i64 z, .slice ta tn tc] 30) = wA := ⟨_, rfl⟩
        rw [hwA] at HA HSA HRA ⊢
        clear hwA
        obtain ⟨hbelA, hgeA, hbytA, hownA, aA, nA, cA, hwrA, hdisA⟩ := HSA.out
        obtain rfl : wn = nA := by rw [← hownA.len, hwrA.2.len]
        have HBYA := Lib.hid hbytA
        have HOWA := Lib.hid hownA
        have HWRA := Lib.hid hwrA
        have HDIA := Lib.hid hdisA
        have HBEA := Lib.hid hbelA
        clear hbelA hgeA hbytA hownA hwrA hdisA
        rcases (show d % 4 = 0 ∨ d % 4 = 1 ∨ d % 4 = 2 ∨ d % 4 = 3 by omega) with hd | hd | hd | hd
        · rw [hd]
          clear hd
          cases hf : fitB v z with
          | true =>
            have HF := Lib.hid hf
            obtain ⟨hz1, hz8, _⟩ := (fitB_iff HV.out).1 hf
            clear hf
            obtain ⟨m, rfl⟩ := Int.eq_ofNat_of_zero_le (show 0 ≤ z by omega)
            have hc2 := HA.out.c2
            have hc3 := HA.out.c3
            go_wp2_with fail
            refine (wPut_fit _ _ _ _ _ _ _ _ _ HWRA.out HV.out HF.out (by omega) HBEA.out.size).mono ?_
            rintro e w3 ⟨rfl, hwro⟩
            rw [Int.toNat_natCast] at hwro
            have HWRO := Lib.hid hwro
            have HA3 := Lib.hid (HA.out.wrote HWRA.out hwro)
            have HOW3 := Lib.hid (WtSt.own_wrote HWRA.out HOWA.out HDIA.out hwro)
            clear hwro hc2 hc3
            have hc2 := HA3.out.c2
            have hc3 := HA3.out.c3
            go_wp2_with fail
            refine (refPut_any m v _ (by omega) HV.out).mono ?_
            rintro e w4 ⟨a4, n4, c4, rfl, hown4, hb4⟩
            obtain rfl : m = n4 := by rw [← hown4.len, be_length]
            have HO4 := Lib.hid hown4
            have HB4 := Lib.hid hb4
            have HOW4 := Lib.hid (HOW3.out.keep (S := fun _ => False) (Kept.of_below hb4 (fun i hi hi' => by omega)) (fun _ _ => id))
            clear hown4 hb4 hc2 hc3
            go_wp2_with fail
            refine (join_any _ _ _ _ _ _ xs (be m v) _ HOW4.out.len HO4.out.len HOW4.out.rd HO4.out.rd (by omega)).mono ?_
            rintro e w5 ⟨a5, n5, c5, rfl, hown5, hb5⟩
            have hn5 : n5 ≤ wn + m := by rw [← hown5.len, List.length_append, be_length, HOWA.out.len]; omega
            have HS : Hid (WtSt w w.heap.size (xs ++ be m v) a5 n5 c5 w5) := HSA.out.next HWRA.out HWRO.out (HBYA.out.append (be_range _ _)) HB4.out hown5 hb5
            clear hown5 hb5
            obtain ⟨hbelT, hgeT, hbytT, hownT, aT, nT, cT, hwrT, hdisT⟩ := HS.out
            obtain rfl : n5 = nT := by rw [← hownT.len, hwrT.2.len]
            have HBYT := Lib.hid hbytT
            have HOWT := Lib.hid hownT
            have HWRT := Lib.hid hwrT
            clear hbelT hgeT hbytT hownT hwrT hdisT
            go_wp2_with fail
            refine (wBytes_any _ _ _ _ _ _ _ HWRT.out (by omega)).mono ?_
            rintro e w7 ⟨a7, n7, c7, rfl, hown7, hb7⟩
            have HO7 := Lib.hid hown7
            have HS7 := Lib.hid (HS.out.below hb7)
            have HOW7 := Lib.hid (HOWT.out.keep (S := fun _ => False) (Kept.of_below hb7 (fun i hi hi' => by omega)) (fun _ _ => id))
            have HWR7 := Lib.hid (HWRT.out.keep (S := fun _ => False) (Kept.of_below hb7 (fun i hi hi' => by omega)) id (fun _ _ => id))
            have HFIN : Hid (∀ wr, Inc w7 (w5).heap.size a7 n7 c7 wr → WtSt w w.heap.size (xs ++ be m v) a5 n5 c5 wr) := fun wr hi => HS.out.over hb7 hi
            clear hown7 hb7
            go_wp2_with fail
            refine (same_any _ _ _ _ _ _ (xs ++ be m v) (xs ++ be m v) _ HO7.out.len HOW7.out.len HO7.out.rd HOW7.out.rd HBYT.out HBYT.out).mono ?_
            rintro e w8 ⟨rfl, rfl⟩
            rw [decide_eq_true rfl]
            go_wp2_with fail
            refine (wLen_any _ _ _ _ _ _ _ HWR7.out).mono ?_
            rintro e w8 ⟨rfl, rfl⟩
            go_wp2_with fail
            go_loopw [14] (fun i wr => ∃ j : Nat, j ≤ n7 ∧ i = .int .i64 j ∧ Hid (Inc w7 (w5).heap.size a7 n7 c7 wr)) (fun i _ => n7 - (intOf i).toNat)
            case atStart => exact ⟨0, Nat.zero_le _, rfl, Inc.start HO7.out⟩
            case round =>
              obtain ⟨j, hj, rfl, hin⟩ := hrel
              have hn7 : n7 ≤ 9223372036854775807 := by have h1 := HO7.out.le; unfold maxLen at h1; omega
              by_cases hjl : j < n7
              · obtain ⟨g1, y, rfl, hy, hfy, hnext⟩ := hin.out.at_ hjl
                have HX := Lib.hid hnext
                clear hnext
                go_wp2_with fail
                go_roundw
                case rel => exact ⟨j + 1, by omega, by go_num, HX.out _⟩
                case measure => simp [intOf]; omega
              · have HS9 : Hid (∃ xs, WtSt w w.heap.size xs a5 n5 c5 wr) := ⟨_, HFIN.out wr hin.out⟩
                clear hin
                go_wp2_with fail
                go_roundw
                case rel => exact ⟨k + 1, n5, c5, a5, by omega, by go_num, rfl, by omega, HS9⟩
                case measure => simp [intOf]; omega
          | false =>
            have HF := Lib.hid hf
            clear hf
            have hc2 := HA.out.c2
            have hc3 := HA.out.c3
            have HS := HSA
            go_wp2_with fail
            refine (wPut_not _ _ _ _ _ _ _ _ _ HWRA.out HV.out HF.out).mono ?_
            rintro e w3 ⟨rfl, rfl⟩
            obtain ⟨hbelT, hgeT, hbytT, hownT, aT, nT, cT, hwrT, hdisT⟩ := HS.out
            obtain rfl : wn = nT := by rw [← hownT.len, hwrT.2.len]
            have HBYT := Lib.hid hbytT
            have HOWT := Lib.hid hownT
            have HWRT := Lib.hid hwrT
            clear hbelT hgeT hbytT hownT hwrT hdisT
            go_wp2_with fail
            refine (wBytes_any _ _ _ _ _ _ _ HWRT.out (by omega)).mono ?_
            rintro e w7 ⟨a7, n7, c7, rfl, hown7, hb7⟩
            have HO7 := Lib.hid hown7
            have HS7 := Lib.hid (HS.out.below hb7)
            have HOW7 := Lib.hid (HOWT.out.keep (S := fun _ => False) (Kept.of_below hb7 (fun i hi hi' => by omega)) (fun _ _ => id))
            have HWR7 := Lib.hid (HWRT.out.keep (S := fun _ => False) (Kept.of_below hb7 (fun i hi hi' => by omega)) id (fun _ _ => id))
            have HFIN : Hid (∀ wr, Inc w7 (wA).heap.size a7 n7 c7 wr → WtSt w w.heap.size xs wa wn wc wr) := fun wr hi => HS.out.over hb7 hi
            clear hown7 hb7
            go_wp2_with fail
            refine (same_any _ _ _ _ _ _ xs xs _ HO7.out.len HOW7.out.len HO7.out.rd HOW7.out.rd HBYT.out HBYT.out).mono ?_
            rintro e w8 ⟨rfl, rfl⟩
            rw [decide_eq_true rfl]
            go_wp2_with fail
            refine (wLen_any _ _ _ _ _ _ _ HWR7.out).mono ?_
            rintro e w8 ⟨rfl, rfl⟩
            go_wp2_with fail
            go_loopw [14] (fun i wr => ∃ j : Nat, j ≤ n7 ∧ i = .int .i64 j ∧ Hid (Inc w7 (wA).heap.size a7 n7 c7 wr)) (fun i _ => n7 - (intOf i).toNat)
            case atStart => exact ⟨0, Nat.zero_le _, rfl, Inc.start HO7.out⟩
            case round =>
              obtain ⟨j, hj, rfl, hin⟩ := hrel
              have hn7 : n7 ≤ 9223372036854775807 := by have h1 := HO7.out.le; unfold maxLen at h1; omega
              by_cases hjl : j < n7
              · obtain ⟨g1, y, rfl, hy, hfy, hnext⟩ := hin.out.at_ hjl
                have HX := Lib.hid hnext
                clear hnext
                go_wp2_with fail
                go_roundw
                case rel => exact ⟨j + 1, by omega, by go_num, HX.out _⟩
                case measure => simp [intOf]; omega
              · have HS9 : Hid (∃ xs, WtSt w w.heap.size xs wa wn wc wr) := ⟨_, HFIN.out wr hin.out⟩
                clear hin
                go_wp2_with fail
                go_roundw
                case rel => exact ⟨k + 1, wn, wc, wa, by omega, by go_num, rfl, by omega, HS9⟩
                case measure => simp [intOf]; omega
        · rw [hd]
          clear hd
          have hc4 := HA.out.c4
          go_wp2_with fail
          refine (join_any none ta 0 0 tn tc [] ys _ (by rfl) HYL.out (Rd.empty _ _) HRA.out (by omega)).mono ?_
          rintro e w2 ⟨a2, n2, c2, rfl, hown2, hb2⟩
          rw [List.nil_append] at hown2
          obtain rfl : tn = n2 := by rw [← HYL.out, hown2.len]
          have HO2 := Lib.hid hown2
          have HS2 := Lib.hid (HSA.out.below hb2)
          have HA2 := Lib.hid (HA.out.below hb2)
          have HWR2 := Lib.hid (HWRA.out.keep (S := fun _ => False) (Kept.of_below hb2 (fun i hi hi' => by omega)) id (fun _ _ => id))
          have HOW2 := Lib.hid (HOWA.out.keep (S := fun _ => False) (Kept.of_below hb2 (fun i hi hi' => by omega)) (fun _ _ => id))
          clear hown2 hb2 hc4
          go_wp2_with fail
          refine (wRaw_any _ _ _ _ _ _ _ _ _ ys _ HWR2.out HYL.out HO2.out.rd (by omega) HS2.out.1.size).mono ?_
          rintro e w3 ⟨rfl, hwro⟩
          have HWRO := Lib.hid hwro
          have HA3 := Lib.hid (HA2.out.wrote HWR2.out hwro)
          have HOW3 := Lib.hid (WtSt.own_wrote HWR2.out HOW2.out HDIA.out hwro)
          have HO3 : Hid (Own w3 wA.heap.size a2 tn c2 ys) := by
            obtain ⟨_, _, _, _, hk, _⟩ := hwro
            refine HO2.out.keep hk (fun b hb e => ?_)
            have h1 := (HO2.out.blk_ge b hb).1
            rcases e with e | e
            · have := HWRA.out.lt; omega
            · have := (HWRA.out.2.blk_ge b e).2; omega
          clear hwro
          go_wp2_with fail
          go_loopw [10] (fun i wr => ∃ j : Nat, j ≤ tn ∧ i = .int .i64 j ∧ Hid (Inc w3 wA.heap.size a2 tn c2 wr)) (fun i _ => tn - (intOf i).toNat)
          case atStart => exact ⟨0, Nat.zero_le _, rfl, Inc.start HO3.out⟩
          case round =>
            obtain ⟨j, hj, rfl, hin⟩ := hrel
            by_cases hjl : j < tn
            · obtain ⟨g1, y, rfl, hy, hfy, hnext⟩ := hin.out.at_ hjl
              have HX := Lib.hid hnext
              clear hnext
              go_wp2_with fail
              go_roundw
              case rel => exact ⟨j + 1, by omega, by go_num, HX.out _⟩
              case measure => simp [intOf]; omega
            · obtain ⟨w4, rfl⟩ : ∃ w4 : World, w4 = wr := ⟨_, rfl⟩
              obtain ⟨zs', hz', hki⟩ := hin.out
              have hlt2 : ∀ b, blk a2 = some b → wA.heap.size ≤ b ∧ b < w2.heap.size := fun b hb => HO2.out.blk_ge b hb
              have hB3 : Below w.heap.size w w3 := by
                obtain ⟨_, _, _, _, hk, _⟩ := HWRO.out
                refine HS2.out.1.trans (hk.below HS2.out.1.size ?_)
                rintro i (e | e)
                · omega
                · exact (HWR2.out.2.blk_ge i e).1
              have hB4 : Below w.heap.size w w4 := hB3.trans (hki.below hB3.size (fun i e => by have := (hlt2 i e).1; have := HBEA.out.size; omega))
              have HB4 := Lib.hid hB4
              have HA4 : Hid (LocAt w4 wo.heap.size d p v z ta tn tc) := HA3.out.keep hki (fun e => by
                have h1 := (hlt2 _ e).1
                have h2 := (Array.getElem?_eq_some_iff.1 HA.out).1
                omega)
              have HOW4 : Hid (Own w4 w.heap.size wa wn wc xs) := HOW3.out.keep hki (fun b hb e => by
                have h1 := (hlt2 b e).1
                have h2 := (HOWA.out.blk_ge b hb).2
                omega)
              have HW4 : Hid (∃ a' n' c', Wr w4 w.heap.size w.heap.size a' n' c' (xs ++ ys)) := by
                obtain ⟨a', n', c', hw', _, hx⟩ := HWRO.out
                refine ⟨a', n', c', hw'.keep hki (fun e => ?_) (fun b hb e => ?_)⟩
                · have h1 := (hlt2 _ e).1; have := HWRA.out.lt; omega
                · have h1 := hlt2 b e
                  rcases hx b hb with h2 | h2
                  · have := (HWRA.out.2.blk_ge b h2).2; omega
                  · omega
              have HRD4 : Hid (Rd w4 ta ys) := HT.out.rd.below hB4
              clear hin hz' hki hlt2 hB3 hB4
              have hc4 := HA4.out.c4
              go_wp2_with fail
              refine (join_any _ _ _ _ _ _ xs ys _ HOW4.out.len HYL.out HOW4.out.rd HRD4.out (by omega)).mono ?_
              rintro e w5 ⟨a5, n5, c5, rfl, hown5, hb5⟩
              have hn5 : n5 ≤ wn + tn := by rw [← hown5.len, List.length_append, HOWA.out.len, HYL.out]; omega
              have HS : Hid (WtSt w w.heap.size (xs ++ ys) a5 n5 c5 w5) := by
                obtain ⟨a', n', c', hw'⟩ := HW4.out
                exact WtSt.next2 HB4.out (Nat.le_refl _) hw' (HBYA.out.append HYB.out) hown5 hb5
              clear hown5 hb5 hc4
              obtain ⟨hbelT, hgeT, hbytT, hownT, aT, nT, cT, hwrT, hdisT⟩ := HS.out
              obtain rfl : n5 = nT := by rw [← hownT.len, hwrT.2.len]
              have HBYT := Lib.hid hbytT
              have HOWT := Lib.hid hownT
              have HWRT := Lib.hid hwrT
              clear hbelT hgeT hbytT hownT hwrT hdisT
              go_wp2_with fail
              refine (wBytes_any _ _ _ _ _ _ _ HWRT.out (by omega)).mono ?_
              rintro e w7 ⟨a7, n7, c7, rfl, hown7, hb7⟩
              have HO7 := Lib.hid hown7
              have HS7 := Lib.hid (HS.out.below hb7)
              have HOW7 := Lib.hid (HOWT.out.keep (S := fun _ => False) (Kept.of_below hb7 (fun i hi hi' => by omega)) (fun _ _ => id))
              have HWR7 := Lib.hid (HWRT.out.keep (S := fun _ => False) (Kept.of_below hb7 (fun i hi hi' => by omega)) id (fun _ _ => id))
              have HFIN : Hid (∀ wr, Inc w7 (w5).heap.size a7 n7 c7 wr → WtSt w w.heap.size (xs ++ ys) a5 n5 c5 wr) := fun wr hi => HS.out.over hb7 hi
              clear hown7 hb7
              go_wp2_with fail
              refine (same_any _ _ _ _ _ _ (xs ++ ys) (xs ++ ys) _ HO7.out.len HOW7.out.len HO7.out.rd HOW7.out.rd HBYT.out HBYT.out).mono ?_
              rintro e w8 ⟨rfl, rfl⟩
              rw [decide_eq_true rfl]
              go_wp2_with fail
              refine (wLen_any _ _ _ _ _ _ _ HWR7.out).mono ?_
              rintro e w8 ⟨rfl, rfl⟩
              go_wp2_with fail
              go_loopw [14] (fun i wr => ∃ j : Nat, j ≤ n7 ∧ i = .int .i64 j ∧ Hid (Inc w7 (w5).heap.size a7 n7 c7 wr)) (fun i _ => n7 - (intOf i).toNat)
              case atStart => exact ⟨0, Nat.zero_le _, rfl, Inc.start HO7.out⟩
              case round =>
                obtain ⟨j, hj, rfl, hin⟩ := hrel
                have hn7 : n7 ≤ 9223372036854775807 := by have h1 := HO7.out.le; unfold maxLen at h1; omega
                by_cases hjl : j < n7
                · obtain ⟨g1, y, rfl, hy, hfy, hnext⟩ := hin.out.at_ hjl
                  have HX := Lib.hid hnext
                  clear hnext
                  go_wp2_with fail
                  go_roundw
                  case rel => exact ⟨j + 1, by omega, by go_num, HX.out _⟩
                  case measure => simp [intOf]; omega
                · have HS9 : Hid (∃ xs, WtSt w w.heap.size xs a5 n5 c5 wr) := ⟨_, HFIN.out wr hin.out⟩
                  clear hin
                  go_wp2_with fail
                  go_roundw
                  case rel => exact ⟨k + 1, n5, c5, a5, by omega, by go_num, rfl, by omega, HS9⟩
                  case measure => simp [intOf]; omega
        · rw [hd]
          clear hd
          have hc1 := HA.out.c1
          have hc2 := HA.out.c2
          have hc3 := HA.out.c3
          cases hf : fitB v z with
          | false =>
            have HST2 : Hid (setB wn p v z = false) := by show _ = _; simp [setB, hf]
            clear hf
            have HS := HSA
            go_wp2_with fail
            refine (wSet_not _ _ _ _ _ _ _ _ _ _ HWRA.out HV.out (by omega) (by omega) HST2.out).mono ?_
            rintro e w3 ⟨rfl, rfl⟩
            obtain ⟨hbelT, hgeT, hbytT, hownT, aT, nT, cT, hwrT, hdisT⟩ := HS.out
            obtain rfl : wn = nT := by rw [← hownT.len, hwrT.2.len]
            have HBYT := Lib.hid hbytT
            have HOWT := Lib.hid hownT
            have HWRT := Lib.hid hwrT
            clear hbelT hgeT hbytT hownT hwrT hdisT
            go_wp2_with fail
            refine (wBytes_any _ _ _ _ _ _ _ HWRT.out (by omega)).mono ?_
            rintro e w7 ⟨a7, n7, c7, rfl, hown7, hb7⟩
            have HO7 := Lib.hid hown7
            have HS7 := Lib.hid (HS.out.below hb7)
            have HOW7 := Lib.hid (HOWT.out.keep (S := fun _ => False) (Kept.of_below hb7 (fun i hi hi' => by omega)) (fun _ _ => id))
            have HWR7 := Lib.hid (HWRT.out.keep (S := fun _ => False) (Kept.of_below hb7 (fun i hi hi' => by omega)) id (fun _ _ => id))
            have HFIN : Hid (∀ wr, Inc w7 (wA).heap.size a7 n7 c7 wr → WtSt w w.heap.size xs wa wn wc wr) := fun wr hi => HS.out.over hb7 hi
            clear hown7 hb7
            go_wp2_with fail
            refine (same_any _ _ _ _ _ _ xs xs _ HO7.out.len HOW7.out.len HO7.out.rd HOW7.out.rd HBYT.out HBYT.out).mono ?_
            rintro e w8 ⟨rfl, rfl⟩
            rw [decide_eq_true rfl]
            go_wp2_with fail
            refine (wLen_any _ _ _ _ _ _ _ HWR7.out).mono ?_
            rintro e w8 ⟨rfl, rfl⟩
            go_wp2_with fail
            go_loopw [14] (fun i wr => ∃ j : Nat, j ≤ n7 ∧ i = .int .i64 j ∧ Hid (Inc w7 (wA).heap.size a7 n7 c7 wr)) (fun i _ => n7 - (intOf i).toNat)
            case atStart => exact ⟨0, Nat.zero_le _, rfl, Inc.start HO7.out⟩
            case round =>
              obtain ⟨j, hj, rfl, hin⟩ := hrel
              have hn7 : n7 ≤ 9223372036854775807 := by have h1 := HO7.out.le; unfold maxLen at h1; omega
              by_cases hjl : j < n7
              · obtain ⟨g1, y, rfl, hy, hfy, hnext⟩ := hin.out.at_ hjl
                have HX := Lib.hid hnext
                clear hnext
                go_wp2_with fail
                go_roundw
                case rel => exact ⟨j + 1, by omega, by go_num, HX.out _⟩
                case measure => simp [intOf]; omega
              · have HS9 : Hid (∃ xs, WtSt w w.heap.size xs wa wn wc wr) := ⟨_, HFIN.out wr hin.out⟩
                clear hin
                go_wp2_with fail
                go_roundw
                case rel => exact ⟨k + 1, wn, wc, wa, by omega, by go_num, rfl, by omega, HS9⟩
                case measure => simp [intOf]; omega
          | true =>
            obtain ⟨hz1, hz8, _⟩ := (fitB_iff HV.out).1 hf
            obtain ⟨m, rfl⟩ := Int.eq_ofNat_of_zero_le (show 0 ≤ z by omega)
            by_cases hp0 : p < 0
            · have HST2 : Hid (setB wn p v m = false) := by show _ = _; simp [setB, hf]; omega
              clear hf
              have HS := HSA
              go_wp2_with fail
              refine (wSet_not _ _ _ _ _ _ _ _ _ _ HWRA.out HV.out (by omega) (by omega) HST2.out).mono ?_
              rintro e w3 ⟨rfl, rfl⟩
              obtain ⟨hbelT, hgeT, hbytT, hownT, aT, nT, cT, hwrT, hdisT⟩ := HS.out
              obtain rfl : wn = nT := by rw [← hownT.len, hwrT.2.len]
              have HBYT := Lib.hid hbytT
              have HOWT := Lib.hid hownT
              have HWRT := Lib.hid hwrT
              clear hbelT hgeT hbytT hownT hwrT hdisT
              go_wp2_with fail
              refine (wBytes_any _ _ _ _ _ _ _ HWRT.out (by omega)).mono ?_
              rintro e w7 ⟨a7, n7, c7, rfl, hown7, hb7⟩
              have HO7 := Lib.hid hown7
              have HS7 := Lib.hid (HS.out.below hb7)
              have HOW7 := Lib.hid (HOWT.out.keep (S := fun _ => False) (Kept.of_below hb7 (fun i hi hi' => by omega)) (fun _ _ => id))
              have HWR7 := Lib.hid (HWRT.out.keep (S := fun _ => False) (Kept.of_below hb7 (fun i hi hi' => by omega)) id (fun _ _ => id))
              have HFIN : Hid (∀ wr, Inc w7 (wA).heap.size a7 n7 c7 wr → WtSt w w.heap.size xs wa wn wc wr) := fun wr hi => HS.out.over hb7 hi
              clear hown7 hb7
              go_wp2_with fail
              refine (same_any _ _ _ _ _ _ xs xs _ HO7.out.len HOW7.out.len HO7.out.rd HOW7.out.rd HBYT.out HBYT.out).mono ?_
              rintro e w8 ⟨rfl, rfl⟩
              rw [decide_eq_true rfl]
              go_wp2_with fail
              refine (wLen_any _ _ _ _ _ _ _ HWR7.out).mono ?_
              rintro e w8 ⟨rfl, rfl⟩
              go_wp2_with fail
              go_loopw [14] (fun i wr => ∃ j : Nat, j ≤ n7 ∧ i = .int .i64 j ∧ Hid (Inc w7 (wA).heap.size a7 n7 c7 wr)) (fun i _ => n7 - (intOf i).toNat)
              case atStart => exact ⟨0, Nat.zero_le _, rfl, Inc.start HO7.out⟩
              case round =>
                obtain ⟨j, hj, rfl, hin⟩ := hrel
                have hn7 : n7 ≤ 9223372036854775807 := by have h1 := HO7.out.le; unfold maxLen at h1; omega
                by_cases hjl : j < n7
                · obtain ⟨g1, y, rfl, hy, hfy, hnext⟩ := hin.out.at_ hjl
                  have HX := Lib.hid hnext
                  clear hnext
                  go_wp2_with fail
                  go_roundw
                  case rel => exact ⟨j + 1, by omega, by go_num, HX.out _⟩
                  case measure => simp [intOf]; omega
                · have HS9 : Hid (∃ xs, WtSt w w.heap.size xs wa wn wc wr) := ⟨_, HFIN.out wr hin.out⟩
                  clear hin
                  go_wp2_with fail
                  go_roundw
                  case rel => exact ⟨k + 1, wn, wc, wa, by omega, by go_num, rfl, by omega, HS9⟩
                  case measure => simp [intOf]; omega
            · obtain ⟨q, rfl⟩ := Int.eq_ofNat_of_zero_le (show 0 ≤ p by omega)
              by_cases hq : wn < q
              · have HST2 : Hid (setB wn q v m = false) := by show _ = _; simp [setB, hf]; omega
                clear hf
                have HS := HSA
                go_wp2_with fail
                refine (wSet_not _ _ _ _ _ _ _ _ _ _ HWRA.out HV.out (by omega) (by omega) HST2.out).mono ?_
                rintro e w3 ⟨rfl, rfl⟩
                obtain ⟨hbelT, hgeT, hbytT, hownT, aT, nT, cT, hwrT, hdisT⟩ := HS.out
                obtain rfl : wn = nT := by rw [← hownT.len, hwrT.2.len]
                have HBYT := Lib.hid hbytT
                have HOWT := Lib.hid hownT
                have HWRT := Lib.hid hwrT
                clear hbelT hgeT hbytT hownT hwrT hdisT
                go_wp2_with fail
                refine (wBytes_any _ _ _ _ _ _ _ HWRT.out (by omega)).mono ?_
                rintro e w7 ⟨a7, n7, c7, rfl, hown7, hb7⟩
                have HO7 := Lib.hid hown7
                have HS7 := Lib.hid (HS.out.below hb7)
                have HOW7 := Lib.hid (HOWT.out.keep (S := fun _ => False) (Kept.of_below hb7 (fun i hi hi' => by omega)) (fun _ _ => id))
                have HWR7 := Lib.hid (HWRT.out.keep (S := fun _ => False) (Kept.of_below hb7 (fun i hi hi' => by omega)) id (fun _ _ => id))
                have HFIN : Hid (∀ wr, Inc w7 (wA).heap.size a7 n7 c7 wr → WtSt w w.heap.size xs wa wn wc wr) := fun wr hi => HS.out.over hb7 hi
                clear hown7 hb7
                go_wp2_with fail
                refine (same_any _ _ _ _ _ _ xs xs _ HO7.out.len HOW7.out.len HO7.out.rd HOW7.out.rd HBYT.out HBYT.out).mono ?_
                rintro e w8 ⟨rfl, rfl⟩
                rw [decide_eq_true rfl]
                go_wp2_with fail
                refine (wLen_any _ _ _ _ _ _ _ HWR7.out).mono ?_
                rintro e w8 ⟨rfl, rfl⟩
                go_wp2_with fail
                go_loopw [14] (fun i wr => ∃ j : Nat, j ≤ n7 ∧ i = .int .i64 j ∧ Hid (Inc w7 (wA).heap.size a7 n7 c7 wr)) (fun i _ => n7 - (intOf i).toNat)
                case atStart => exact ⟨0, Nat.zero_le _, rfl, Inc.start HO7.out⟩
                case round =>
                  obtain ⟨j, hj, rfl, hin⟩ := hrel
                  have hn7 : n7 ≤ 9223372036854775807 := by have h1 := HO7.out.le; unfold maxLen at h1; omega
                  by_cases hjl : j < n7
                  · obtain ⟨g1, y, rfl, hy, hfy, hnext⟩ := hin.out.at_ hjl
                    have HX := Lib.hid hnext
                    clear hnext
                    go_wp2_with fail
                    go_roundw
                    case rel => exact ⟨j + 1, by omega, by go_num, HX.out _⟩
                    case measure => simp [intOf]; omega
                  · have HS9 : Hid (∃ xs, WtSt w w.heap.size xs wa wn wc wr) := ⟨_, HFIN.out wr hin.out⟩
                    clear hin
                    go_wp2_with fail
                    go_roundw
                    case rel => exact ⟨k + 1, wn, wc, wa, by omega, by go_num, rfl, by omega, HS9⟩
                    case measure => simp [intOf]; omega
              · by_cases hqm : wn < q + m
                · have HST2 : Hid (setB wn q v m = false) := by show _ = _; simp [setB, hf]; omega
                  clear hf
                  have HS := HSA
                  go_wp2_with fail
                  refine (wSet_not _ _ _ _ _ _ _ _ _ _ HWRA.out HV.out (by omega) (by omega) HST2.out).mono ?_
                  rintro e w3 ⟨rfl, rfl⟩
                  obtain ⟨hbelT, hgeT, hbytT, hownT, aT, nT, cT, hwrT, hdisT⟩ := HS.out
                  obtain rfl : wn = nT := by rw [← hownT.len, hwrT.2.len]
                  have HBYT := Lib.hid hbytT
                  have HOWT := Lib.hid hownT
                  have HWRT := Lib.hid hwrT
                  clear hbelT hgeT hbytT hownT hwrT hdisT
                  go_wp2_with fail
                  refine (wBytes_any _ _ _ _ _ _ _ HWRT.out (by omega)).mono ?_
                  rintro e w7 ⟨a7, n7, c7, rfl, hown7, hb7⟩
                  have HO7 := Lib.hid hown7
                  have HS7 := Lib.hid (HS.out.below hb7)
                  have HOW7 := Lib.hid (HOWT.out.keep (S := fun _ => False) (Kept.of_below hb7 (fun i hi hi' => by omega)) (fun _ _ => id))
                  have HWR7 := Lib.hid (HWRT.out.keep (S := fun _ => False) (Kept.of_below hb7 (fun i hi hi' => by omega)) id (fun _ _ => id))
                  have HFIN : Hid (∀ wr, Inc w7 (wA).heap.size a7 n7 c7 wr → WtSt w w.heap.size xs wa wn wc wr) := fun wr hi => HS.out.over hb7 hi
                  clear hown7 hb7
                  go_wp2_with fail
                  refine (same_any _ _ _ _ _ _ xs xs _ HO7.out.len HOW7.out.len HO7.out.rd HOW7.out.rd HBYT.out HBYT.out).mono ?_
                  rintro e w8 ⟨rfl, rfl⟩
                  rw [decide_eq_true rfl]
                  go_wp2_with fail
                  refine (wLen_any _ _ _ _ _ _ _ HWR7.out).mono ?_
                  rintro e w8 ⟨rfl, rfl⟩
                  go_wp2_with fail
                  go_loopw [14] (fun i wr => ∃ j : Nat, j ≤ n7 ∧ i = .int .i64 j ∧ Hid (Inc w7 (wA).heap.size a7 n7 c7 wr)) (fun i _ => n7 - (intOf i).toNat)
                  case atStart => exact ⟨0, Nat.zero_le _, rfl, Inc.start HO7.out⟩
                  case round =>
                    obtain ⟨j, hj, rfl, hin⟩ := hrel
                    have hn7 : n7 ≤ 9223372036854775807 := by have h1 := HO7.out.le; unfold maxLen at h1; omega
                    by_cases hjl : j < n7
                    · obtain ⟨g1, y, rfl, hy, hfy, hnext⟩ := hin.out.at_ hjl
                      have HX := Lib.hid hnext
                      clear hnext
                      go_wp2_with fail
                      go_roundw
                      case rel => exact ⟨j + 1, by omega, by go_num, HX.out _⟩
                      case measure => simp [intOf]; omega
                    · have HS9 : Hid (∃ xs, WtSt w w.heap.size xs wa wn wc wr) := ⟨_, HFIN.out wr hin.out⟩
                      clear hin
                      go_wp2_with fail
                      go_roundw
                      case rel => exact ⟨k + 1, wn, wc, wa, by omega, by go_num, rfl, by omega, HS9⟩
                      case measure => simp [intOf]; omega
                · have HST2 : Hid (setB wn q v m = true) := by show _ = _; simp [setB, hf]; omega
                  clear hf
                  go_wp2_with fail
                  refine (wSet_fit _ _ _ _ _ _ _ _ _ _ HWRA.out HV.out (by omega) HST2.out).mono ?_
                  rintro e w3 ⟨rfl, hwro⟩
                  rw [Int.toNat_natCast, Int.toNat_natCast] at hwro
                  have HWRO := Lib.hid hwro
                  have HA3 := Lib.hid (HA.out.wrote HWRA.out hwro)
                  have HOW3 := Lib.hid (WtSt.own_wrote HWRA.out HOWA.out HDIA.out hwro)
                  clear hwro hc1 hc2 hc3
                  have hc1 := HA3.out.c1
                  have hc2 := HA3.out.c2
                  have hc3 := HA3.out.c3
                  go_wp2_with fail
                  have hcw := HOW3.out.le
                  rcases HOW3.out.cases with ⟨_, h0, _⟩ | ⟨gw, _, rfl, _⟩
                  · omega
                  have hwc : wc ≤ 9223372036854775807 := by have := hcw.2; unfold maxLen at this; omega
                  have hwnc : wn ≤ wc := hcw.1
                  clear hcw
                  have HCUT1 : Hid (Rd w3 (some ⟨gw, 0, none⟩) (xs.take q)) := by
                    have := HOW3.out.rd.cut (q := 0) (m := q) (by rw [HOW3.out.len]; omega)
                    rw [List.drop_zero] at this
                    exact this
                  have HL1 : Hid ((xs.take q).length = q) := by show _ = _; rw [List.length_take, HOW3.out.len]; omega
                  have HM8 : Hid (m ≤ 8) := by show m ≤ 8; omega
                  have HN4 : Hid (∀ {W : World} {B : Nat} {a : Option Addr} {n c : Nat}, Own W B a n c (be m v) → m = n) := fun h => by rw [← h.len, be_length]
                  have HN5 : Hid (∀ {W : World} {B : Nat} {a : Option Addr} {n c : Nat}, Own W B a n c (xs.take q ++ be m v) → n ≤ q + m) := fun h => by
                    have h5 := h.len
                    rw [List.length_append, be_length, HL1.out] at h5
                    omega
                  have HJ1 : Hid (q + m ≤ 70368744177664) := by show _ ≤ _; omega
                  by_cases hcq : wc ≤ q + m
                  · obtain rfl : wn = wc := by omega
                    have HCUT2 : Hid (Rd w3 (some ⟨gw, 0, none⟩) (xs.drop (q + m))) := by rw [List.drop_of_length_le (by rw [HOW3.out.len]; omega)]; exact Rd.empty _ _
                    have HL2 : Hid ((xs.drop (q + m)).length = 0) := by show _ = _; rw [List.length_drop, HOW3.out.len]; omega
                    have HJ2 : Hid (∀ n5, n5 ≤ q + m → n5 + 0 ≤ 70368744177664) := fun n5 h => by omega
                    have i1 : (0 : Int) ≤ (q : Int) := by omega
                    have i2 : (q : Int) ≤ (wn : Int) := by omega
                    have i3 : (0 : Int) ≤ (q : Int) + (m : Int) := by omega
                    have i4 : (q : Int) + (m : Int) ≤ (wn : Int) := by omega
                    have i5 : IntKind.i64.wrap ((q : Int) + (m : Int)) = (q : Int) + (m : Int) := IntWalk.i64_in _ (by omega)
                    have i6 : ((q : Int) + (m : Int)).toNat = q + m := by omega
                    have i7 : q + m = wn := by omega
                    go_region_held3 (fun w' => w'.cell? ⟨wo.heap.size, 1, none⟩ = some (.int .i64 q) ∧ w'.cell? ⟨wo.heap.size, 2, none⟩ = some (.int .u64 v) ∧ w'.cell? ⟨wo.heap.size, 3, none⟩ = some (.int .i64 m)) (go_keep)
                      (first
                        | ((go_at_call 15; refine (refPut_any m v _ HM8.out HV.out).mono ?_; rintro e w4 ⟨a4, n4, c4, rfl, hown4, hb4⟩; have hb4' : Below w3.heap.size w3 w4 := ⟨hb4.os, hb4.tape, hb4.output, hb4.size, hb4.block⟩; obtain rfl : m = n4 := HN4.out hown4; have HL4 := Lib.hid (HA3.out.below hb4'); have HB4 := Lib.hid hb4'; have HO4 := Lib.hid hown4; clear hb4 hb4' hown4; have k1 := HL4.out.c1; have k2 := HL4.out.c2; have k3 := HL4.out.c3))
                        | ((go_at_call 14; (with_reducible refine (join_any (some ⟨gw, 0, none⟩) a4 q wn m c4 (xs.take q) (be m v) _ HL1.out HO4.out.len (HCUT1.out.below HB4.out) HO4.out.rd HJ1.out).mono ?_); rintro e w5 ⟨a5, n5, c5, rfl, hown5, hb5⟩; have hb5' : Below w4.heap.size w4 w5 := ⟨hb5.os, hb5.tape, hb5.output, hb5.size, hb5.block⟩; have HL5 := Lib.hid (HL4.out.below hb5'); have HB5 : Hid (Below w3.heap.size w3 w5) := HB4.out.trans (hb5'.mono HB4.out.size); have hn5 : n5 ≤ q + m := HN5.out hown5; have HO5 := Lib.hid hown5; clear hb5 hb5' hown5; have k4 := HL5.out.c1; have k5 := HL5.out.c2; have k6 := HL5.out.c3))
                        | ((go_at_call 14; (with_reducible refine (join_any a5 (some ⟨gw, 0, none⟩) n5 c5 0 0 (xs.take q ++ be m v) (xs.drop (q + m)) _ HO5.out.len HL2.out HO5.out.rd (HCUT2.out.below HB5.out) (HJ2.out n5 hn5)).mono ?_); rintro e w6 ⟨a6, n6, c6, rfl, hown6, hb6⟩; have HB6 : Hid (Below w5.heap.size w5 w6) := ⟨hb6.os, hb6.tape, hb6.output, hb6.size, hb6.block⟩; have HL6 := Lib.hid (HL5.out.below HB6.out); have HO6 := Lib.hid hown6; clear hb6 hown6; have k7 := HL6.out.c1; have k8 := HL6.out.c2; have k9 := HL6.out.c3))
                        | fail)
                    have HSPL : Hid ((xs.take q ++ be m v) ++ xs.drop (q + m) = splice xs q (be m v)) := by show _ = _; unfold splice; rw [be_length]
                    have hn6 : n6 ≤ wn := by
                      have h1 := HO6.out.len
                      rw [HSPL.out, splice_length (by rw [be_length, HOWA.out.len]; omega), HOWA.out.len] at h1
                      omega
                    have HS : Hid (WtSt w w.heap.size (splice xs q (be m v)) a6 n6 c6 w6) := by
                      refine HSA.out.next HWRA.out HWRO.out (splice_byt HBYA.out (be_range _ _) _) HB5.out ?_ HB6.out
                      rw [← HSPL.out]; exact HO6.out
                    clear i1 i2 i3 i4 i5 i6 i7 k1 k2 k3 k4 k5 k6 k7 k8 k9 hc1 hc2 hc3
                    obtain ⟨hbelT, hgeT, hbytT, hownT, aT, nT, cT, hwrT, hdisT⟩ := HS.out
                    obtain rfl : n6 = nT := by rw [← hownT.len, hwrT.2.len]
                    have HBYT := Lib.hid hbytT
                    have HOWT := Lib.hid hownT
                    have HWRT := Lib.hid hwrT
                    clear hbelT hgeT hbytT hownT hwrT hdisT
                    go_wp2_with fail
                    refine (wBytes_any _ _ _ _ _ _ _ HWRT.out (by omega)).mono ?_
                    rintro e w7 ⟨a7, n7, c7, rfl, hown7, hb7⟩
                    have HO7 := Lib.hid hown7
                    have HS7 := Lib.hid (HS.out.below hb7)
                    have HOW7 := Lib.hid (HOWT.out.keep (S := fun _ => False) (Kept.of_below hb7 (fun i hi hi' => by omega)) (fun _ _ => id))
                    have HWR7 := Lib.hid (HWRT.out.keep (S := fun _ => False) (Kept.of_below hb7 (fun i hi hi' => by omega)) id (fun _ _ => id))
                    have HFIN : Hid (∀ wr, Inc w7 (w6).heap.size a7 n7 c7 wr → WtSt w w.heap.size (splice xs q (be m v)) a6 n6 c6 wr) := fun wr hi => HS.out.over hb7 hi
                    clear hown7 hb7
                    go_wp2_with fail
                    refine (same_any _ _ _ _ _ _ (splice xs q (be m v)) (splice xs q (be m v)) _ HO7.out.len HOW7.out.len HO7.out.rd HOW7.out.rd HBYT.out HBYT.out).mono ?_
                    rintro e w8 ⟨rfl, rfl⟩
                    rw [decide_eq_true rfl]
                    go_wp2_with fail
                    refine (wLen_any _ _ _ _ _ _ _ HWR7.out).mono ?_
                    rintro e w8 ⟨rfl, rfl⟩
                    go_wp2_with fail
                    go_loopw [14] (fun i wr => ∃ j : Nat, j ≤ n7 ∧ i = .int .i64 j ∧ Hid (Inc w7 (w6).heap.size a7 n7 c7 wr)) (fun i _ => n7 - (intOf i).toNat)
                    case atStart => exact ⟨0, Nat.zero_le _, rfl, Inc.start HO7.out⟩
                    case round =>
                      obtain ⟨j, hj, rfl, hin⟩ := hrel
                      have hn7 : n7 ≤ 9223372036854775807 := by have h1 := HO7.out.le; unfold maxLen at h1; omega
                      by_cases hjl : j < n7
                      · obtain ⟨g1, y, rfl, hy, hfy, hnext⟩ := hin.out.at_ hjl
                        have HX := Lib.hid hnext
                        clear hnext
                        go_wp2_with fail
                        go_roundw
                        case rel => exact ⟨j + 1, by omega, by go_num, HX.out _⟩
                        case measure => simp [intOf]; omega
                      · have HS9 : Hid (∃ xs, WtSt w w.heap.size xs a6 n6 c6 wr) := ⟨_, HFIN.out wr hin.out⟩
                        clear hin
                        go_wp2_with fail
                        go_roundw
                        case rel => exact ⟨k + 1, n6, c6, a6, by omega, by go_num, rfl, by omega, HS9⟩
                        case measure => simp [intOf]; omega
                  · have HCUT2 : Hid (Rd w3 (some ⟨gw, q + m, none⟩) (xs.drop (q + m))) := by
                      have := HOW3.out.rd.dropped (m := q + m) (by rw [HOW3.out.len]; omega)
                      rw [Nat.zero_add] at this
                      exact this
                    have HL2 : Hid ((xs.drop (q + m)).length = wn - (q + m)) := by show _ = _; rw [List.length_drop, HOW3.out.len]
                    have HJ2 : Hid (∀ n5, n5 ≤ q + m → n5 + (wn - (q + m)) ≤ 70368744177664) := fun n5 h => by omega
                    have i1 : (0 : Int) ≤ (q : Int) := by omega
                    have i2 : (q : Int) ≤ (wc : Int) := by omega
                    have i3 : (0 : Int) ≤ (q : Int) + (m : Int) := by omega
                    have i4 : (q : Int) + (m : Int) ≤ (wn : Int) := by omega
                    have i5 : IntKind.i64.wrap ((q : Int) + (m : Int)) = (q : Int) + (m : Int) := IntWalk.i64_in _ (by omega)
                    have i6 : ((q : Int) + (m : Int)).toNat = q + m := by omega
                    go_region_held3 (fun w' => w'.cell? ⟨wo.heap.size, 1, none⟩ = some (.int .i64 q) ∧ w'.cell? ⟨wo.heap.size, 2, none⟩ = some (.int .u64 v) ∧ w'.cell? ⟨wo.heap.size, 3, none⟩ = some (.int .i64 m)) (go_keep)
                      (first
                        | ((go_at_call 15; refine (refPut_any m v _ HM8.out HV.out).mono ?_; rintro e w4 ⟨a4, n4, c4, rfl, hown4, hb4⟩; have hb4' : Below w3.heap.size w3 w4 := ⟨hb4.os, hb4.tape, hb4.output, hb4.size, hb4.block⟩; obtain rfl : m = n4 := HN4.out hown4; have HL4 := Lib.hid (HA3.out.below hb4'); have HB4 := Lib.hid hb4'; have HO4 := Lib.hid hown4; clear hb4 hb4' hown4; have k1 := HL4.out.c1; have k2 := HL4.out.c2; have k3 := HL4.out.c3))
                        | ((go_at_call 14; (with_reducible refine (join_any (some ⟨gw, 0, none⟩) a4 q wc m c4 (xs.take q) (be m v) _ HL1.out HO4.out.len (HCUT1.out.below HB4.out) HO4.out.rd HJ1.out).mono ?_); rintro e w5 ⟨a5, n5, c5, rfl, hown5, hb5⟩; have hb5' : Below w4.heap.size w4 w5 := ⟨hb5.os, hb5.tape, hb5.output, hb5.size, hb5.block⟩; have HL5 := Lib.hid (HL4.out.below hb5'); have HB5 : Hid (Below w3.heap.size w3 w5) := HB4.out.trans (hb5'.mono HB4.out.size); have hn5 : n5 ≤ q + m := HN5.out hown5; have HO5 := Lib.hid hown5; clear hb5 hb5' hown5; have k4 := HL5.out.c1; have k5 := HL5.out.c2; have k6 := HL5.out.c3))
                        | ((go_at_call 14; (with_reducible refine (join_any a5 (some ⟨gw, q + m, none⟩) n5 c5 (wn - (q + m)) (wc - (q + m)) (xs.take q ++ be m v) (xs.drop (q + m)) _ HO5.out.len HL2.out HO5.out.rd (HCUT2.out.below HB5.out) (HJ2.out n5 hn5)).mono ?_); rintro e w6 ⟨a6, n6, c6, rfl, hown6, hb6⟩; have HB6 : Hid (Below w5.heap.size w5 w6) := ⟨hb6.os, hb6.tape, hb6.output, hb6.size, hb6.block⟩; have HL6 := Lib.hid (HL5.out.below HB6.out); have HO6 := Lib.hid hown6; clear hb6 hown6; have k7 := HL6.out.c1; have k8 := HL6.out.c2; have k9 := HL6.out.c3))
                        | fail)
                    have HSPL : Hid ((xs.take q ++ be m v) ++ xs.drop (q + m) = splice xs q (be m v)) := by show _ = _; unfold splice; rw [be_length]
                    have hn6 : n6 ≤ wn := by
                      have h1 := HO6.out.len
                      rw [HSPL.out, splice_length (by rw [be_length, HOWA.out.len]; omega), HOWA.out.len] at h1
                      omega
                    have HS : Hid (WtSt w w.heap.size (splice xs q (be m v)) a6 n6 c6 w6) := by
                      refine HSA.out.next HWRA.out HWRO.out (splice_byt HBYA.out (be_range _ _) _) HB5.out ?_ HB6.out
                      rw [← HSPL.out]; exact HO6.out
                    clear i1 i2 i3 i4 i5 i6 k1 k2 k3 k4 k5 k6 k7 k8 k9 hc1 hc2 hc3
                    obtain ⟨hbelT, hgeT, hbytT, hownT, aT, nT, cT, hwrT, hdisT⟩ := HS.out
                    obtain rfl : n6 = nT := by rw [← hownT.len, hwrT.2.len]
                    have HBYT := Lib.hid hbytT
                    have HOWT := Lib.hid hownT
                    have HWRT := Lib.hid hwrT
                    clear hbelT hgeT hbytT hownT hwrT hdisT
                    go_wp2_with fail
                    refine (wBytes_any _ _ _ _ _ _ _ HWRT.out (by omega)).mono ?_
                    rintro e w7 ⟨a7, n7, c7, rfl, hown7, hb7⟩
                    have HO7 := Lib.hid hown7
                    have HS7 := Lib.hid (HS.out.below hb7)
                    have HOW7 := Lib.hid (HOWT.out.keep (S := fun _ => False) (Kept.of_below hb7 (fun i hi hi' => by omega)) (fun _ _ => id))
                    have HWR7 := Lib.hid (HWRT.out.keep (S := fun _ => False) (Kept.of_below hb7 (fun i hi hi' => by omega)) id (fun _ _ => id))
                    have HFIN : Hid (∀ wr, Inc w7 (w6).heap.size a7 n7 c7 wr → WtSt w w.heap.size (splice xs q (be m v)) a6 n6 c6 wr) := fun wr hi => HS.out.over hb7 hi
                    clear hown7 hb7
                    go_wp2_with fail
                    refine (same_any _ _ _ _ _ _ (splice xs q (be m v)) (splice xs q (be m v)) _ HO7.out.len HOW7.out.len HO7.out.rd HOW7.out.rd HBYT.out HBYT.out).mono ?_
                    rintro e w8 ⟨rfl, rfl⟩
                    rw [decide_eq_true rfl]
                    go_wp2_with fail
                    refine (wLen_any _ _ _ _ _ _ _ HWR7.out).mono ?_
                    rintro e w8 ⟨rfl, rfl⟩
                    go_wp2_with fail
                    go_loopw [14] (fun i wr => ∃ j : Nat, j ≤ n7 ∧ i = .int .i64 j ∧ Hid (Inc w7 (w6).heap.size a7 n7 c7 wr)) (fun i _ => n7 - (intOf i).toNat)
                    case atStart => exact ⟨0, Nat.zero_le _, rfl, Inc.start HO7.out⟩
                    case round =>
                      obtain ⟨j, hj, rfl, hin⟩ := hrel
                      have hn7 : n7 ≤ 9223372036854775807 := by have h1 := HO7.out.le; unfold maxLen at h1; omega
                      by_cases hjl : j < n7
                      · obtain ⟨g1, y, rfl, hy, hfy, hnext⟩ := hin.out.at_ hjl
                        have HX := Lib.hid hnext
                        clear hnext
                        go_wp2_with fail
                        go_roundw
                        case rel => exact ⟨j + 1, by omega, by go_num, HX.out _⟩
                        case measure => simp [intOf]; omega
                      · have HS9 : Hid (∃ xs, WtSt w w.heap.size xs a6 n6 c6 wr) := ⟨_, HFIN.out wr hin.out⟩
                        clear hin
                        go_wp2_with fail
                        go_roundw
                        case rel => exact ⟨k + 1, n6, c6, a6, by omega, by go_num, rfl, by omega, HS9⟩
                        case measure => simp [intOf]; omega
        · rw [hd]
          clear hd
          have HS := HSA
          obtain ⟨hbelT, hgeT, hbytT, hownT, aT, nT, cT, hwrT, hdisT⟩ := HS.out
          obtain rfl : wn = nT := by rw [← hownT.len, hwrT.2.len]
          have HBYT := Lib.hid hbytT
          have HOWT := Lib.hid hownT
          have HWRT := Lib.hid hwrT
          clear hbelT hgeT hbytT hownT hwrT hdisT
          go_wp2_with fail
          refine (wBytes_any _ _ _ _ _ _ _ HWRT.out (by omega)).mono ?_
          rintro e w7 ⟨a7, n7, c7, rfl, hown7, hb7⟩
          have HO7 := Lib.hid hown7
          have HS7 := Lib.hid (HS.out.below hb7)
          have HOW7 := Lib.hid (HOWT.out.keep (S := fun _ => False) (Kept.of_below hb7 (fun i hi hi' => by omega)) (fun _ _ => id))
          have HWR7 := Lib.hid (HWRT.out.keep (S := fun _ => False) (Kept.of_below hb7 (fun i hi hi' => by omega)) id (fun _ _ => id))
          have HFIN : Hid (∀ wr, Inc w7 (wA).heap.size a7 n7 c7 wr → WtSt w w.heap.size xs wa wn wc wr) := fun wr hi => HS.out.over hb7 hi
          clear hown7 hb7
          go_wp2_with fail
          refine (same_any _ _ _ _ _ _ xs xs _ HO7.out.len HOW7.out.len HO7.out.rd HOW7.out.rd HBYT.out HBYT.out).mono ?_
          rintro e w8 ⟨rfl, rfl⟩
          rw [decide_eq_true rfl]
          go_wp2_with fail
          refine (wLen_any _ _ _ _ _ _ _ HWR7.out).mono ?_
          rintro e w8 ⟨rfl, rfl⟩
          go_wp2_with fail
          go_loopw [14] (fun i wr => ∃ j : Nat, j ≤ n7 ∧ i = .int .i64 j ∧ Hid (Inc w7 (wA).heap.size a7 n7 c7 wr)) (fun i _ => n7 - (intOf i).toNat)
          case atStart => exact ⟨0, Nat.zero_le _, rfl, Inc.start HO7.out⟩
          case round =>
            obtain ⟨j, hj, rfl, hin⟩ := hrel
            have hn7 : n7 ≤ 9223372036854775807 := by have h1 := HO7.out.le; unfold maxLen at h1; omega
            by_cases hjl : j < n7
            · obtain ⟨g1, y, rfl, hy, hfy, hnext⟩ := hin.out.at_ hjl
              have HX := Lib.hid hnext
              clear hnext
              go_wp2_with fail
              go_roundw
              case rel => exact ⟨j + 1, by omega, by go_num, HX.out _⟩
              case measure => simp [intOf]; omega
            · have HS9 : Hid (∃ xs, WtSt w w.heap.size xs wa wn wc wr) := ⟨_, HFIN.out wr hin.out⟩
              clear hin
              go_wp2_with fail
              go_roundw
              case rel => exact ⟨k + 1, wn, wc, wa, by omega, by go_num, rfl, by omega, HS9⟩
              case measure => simp [intOf]; omega
      · go_wp2_with fail
        refine (works_any _).mono ?_
        rintro e w2 ⟨rfl, hb2⟩
        have HFN : Hid (Below w.heap.size w w2) := HST.out.1.trans (hb2.mono HST.out.1.size)
        clear hb2
        go_wp2_with fail
        go_ret
        exact ⟨rfl, HFN.out⟩
end Go.Proofs.Ytfkangknnaohaaa

/-
  BitsReads: whatever bytes and sizes come in, the statement's function answers true, and what came in reads afterwards as before. No conditions.
-/
import Derived.Test.YtfkangknnaohaaaRd2
import Derived.Test.YtfkangknnaohaaaWorks
import Derived.Test.YtfkangknnaohaaaRef
namespace Go.Proofs.Ytfkangknnaohaaa
open Go.ChangeShapes Go.WideShapes Go.ChangeAt Go.RowKit

/-- Where the statement's reader stands. -/
def RdSt (w : World) (g : Nat) (xs : List Int) (q : Nat) (wr : World) : Prop :=
  Below w.heap.size w wr ∧ w.heap.size ≤ g ∧ ∃ a' n' c', Rr wr g a' n' c' q (xs.drop q) ∧ ∀ b, blk a' = some b → w.heap.size ≤ b ∧ b < wr.heap.size

theorem getE_drop {xs : List Int} {q : Nat} (h : q ≤ xs.length) (z : Int) : getE (xs.drop q) 0 z = getE xs q z := by
  unfold getE
  rw [List.length_drop, decide_eq_true (show (0 : Int) ≤ 0 from by omega), decide_eq_true (show (0 : Int) ≤ (q : Int) from by omega)]
  have : ((xs.length - q : Nat) : Int) - 0 = (xs.length : Int) - q := by omega
  rw [this]
theorem getV_drop {xs : List Int} {q : Nat} (h : q ≤ xs.length) (z : Int) : getV (xs.drop q) 0 z = getV xs q z := by
  unfold getV
  rw [getE_drop h]
  simp

theorem RdSt.kept {w : World} {g : Nat} {xs : List Int} {q : Nat} {w1 w2 : World} {S : Nat → Prop} (h : RdSt w g xs q w1) (k : Kept S w1 w2) (hb : Below w.heap.size w w2) (hg : ¬ S g) (hn : ∀ a' n' c', Rr w1 g a' n' c' q (xs.drop q) → ∀ b, blk a' = some b → ¬ S b) : RdSt w g xs q w2 := by
  obtain ⟨_, h2, a', n', c', hr, hge⟩ := h
  exact ⟨hb, h2, a', n', c', hr.keep k hg (hn a' n' c' hr), fun b hb' => ⟨(hge b hb').1, Nat.lt_of_lt_of_le (hge b hb').2 k.size⟩⟩
theorem RdSt.skipped {w : World} {g : Nat} {xs : List Int} {q : Nat} {w1 w2 : World} {a : Option Addr} {n c : Nat} (h : RdSt w g xs q w1) (hr : Rr w1 g a n c q (xs.drop q)) (ha : ∀ b, blk a = some b → w.heap.size ≤ b ∧ b < w1.heap.size) {m : Nat} (hs : Skipped w1 g a (xs.drop q) m q w2) : RdSt w g xs (q + m) w2 := by
  obtain ⟨h1, h2, _⟩ := h
  obtain ⟨a', n', c', hr', hk, hbl⟩ := hs
  refine ⟨h1.trans (hk.below h1.size (by intro k e; subst e; exact h2)), h2, a', n', c', ?_, fun b hb => ⟨(ha b (by rw [← hbl]; exact hb)).1, Nat.lt_of_lt_of_le (ha b (by rw [← hbl]; exact hb)).2 hk.size⟩⟩
  rw [List.drop_drop] at hr'
  simpa using hr'

theorem RdSt.over {w w3 wr : World} {g base : Nat} {xs : List Int} {q : Nat} {a3 al : Option Addr} {n3 c3 nl cl : Nat} (hr : Rr w3 g a3 n3 c3 q (xs.drop q)) (hb : Below w.heap.size w w3) (hge : w.heap.size ≤ g) (_hbase : w.heap.size ≤ base)
    (h3 : ∀ b, blk a3 = some b → w.heap.size ≤ b ∧ b < base) (hg : g < base) (hbw : base ≤ w3.heap.size) (hi : Inc w3 base al nl cl wr) : RdSt w g xs q wr := by
  obtain ⟨zs', ho, hk⟩ := hi
  have hal : ∀ b, blk al = some b → base ≤ b := fun b hb => (ho.blk_ge b hb).1
  refine ⟨hb.trans (hk.below hb.size (fun k e => by have := hal k e; omega)), hge, a3, n3, c3, hr.keep hk (fun e => by have := hal g e; omega) (fun b hb e => by have := hal b e; have := (h3 b hb).2; omega), fun b hb => ⟨(h3 b hb).1, ?_⟩⟩
  have := (h3 b hb).2
  have := hk.size
  omega

set_option maxRecDepth 100000 in
set_option maxHeartbeats 4000000 in
theorem reads_any (a : Option Addr) (n cap : Nat) (xs : List Int) (sa : Option Addr) (sn sc : Nat) (ss : List Int) (w : World) (hn : xs.length = n) (hc : n ≤ cap) (_hcm : cap ≤ 9223372036854775807) (hr : Rd w a xs) (hb : Byt xs)
    (hsn : ss.length = sn) (_hsc : sn ≤ sc) (_hsm : sc ≤ 9223372036854775807) (hsr : RdK .i64 w sa ss) (hsw : ∀ y ∈ ss, (Lit.int .i64 y).wf = true) :
    Calls Try.prog 4 #[.slice a n cap, .slice sa sn sc] w fun e w' => e = .returned (.bool true) ∧ Below w.heap.size w w' := by
  have HN := Lib.hid hn
  have HR := Lib.hid hr
  have HB := Lib.hid hb
  have HSN := Lib.hid hsn
  have HSR := Lib.hid hsr
  have HSW := Lib.hid hsw
  clear hn hr hb hsn hsr hsw
  by_cases hl : 300 < n
  · go_enter Try.func4, Try.ntmps4
    go_wp2_with fail
    refine (works_any _).mono ?_
    rintro e w1 ⟨rfl, hb⟩
    have HB1 := Lib.hid hb
    clear hb
    go_wp2_with fail
    go_ret
    exact ⟨rfl, HB1.out⟩
  by_cases hl2 : 40 < sn
  · go_enter Try.func4, Try.ntmps4
    go_wp2_with fail
    refine (works_any _).mono ?_
    rintro e w1 ⟨rfl, hb⟩
    have HB1 := Lib.hid hb
    clear hb
    go_wp2_with fail
    go_ret
    exact ⟨rfl, HB1.out⟩
  go_enter Try.func4, Try.ntmps4
  go_wp2_with fail
  refine (join_any none a 0 0 n cap [] xs _ (by rfl) HN.out (Rd.empty _ _) HR.out (by omega)).mono ?_
  rintro e w1 ⟨a1, n1, c1, rfl, hown1, hb1⟩
  rw [List.nil_append] at hown1
  obtain rfl : n = n1 := by rw [← HN.out, hown1.len]
  have HO1 := Lib.hid hown1
  have HB1 := Lib.hid hb1
  clear hown1 hb1
  go_wp2_with fail
  refine (read_any _ _ _ xs _ HN.out HO1.out.rd HB.out (by omega)).mono ?_
  rintro e w2 ⟨g, a2, n2, c2, rfl, hr2, hg2, ha2, hb2⟩
  have HI : Hid (Inc w2 w.heap.size a1 n c1 w2) := Inc.start (HO1.out.keep (S := fun _ => False) (Kept.of_below hb2 (fun i hi hi' => by omega)) (fun _ _ => id))
  have HR2 := Lib.hid hr2
  have HB2 : Hid (Below w.heap.size w w2) := HB1.out.trans (hb2.mono HB1.out.size)
  have HG2 : Hid (w1.heap.size ≤ g ∧ ∀ b, blk a2 = some b → w1.heap.size ≤ b ∧ b < w2.heap.size) := ⟨hg2, ha2⟩
  clear hr2 hg2 ha2 hb2
  go_wp2_with fail
  go_loopw [7] (fun i wr => ∃ k : Nat, k ≤ n ∧ i = .int .i64 k ∧ Hid (Inc w2 w.heap.size a1 n c1 wr)) (fun i _ => n - (intOf i).toNat)
  case atStart => exact ⟨0, Nat.zero_le _, rfl, HI⟩
  case round =>
    obtain ⟨k, hk, rfl, hin⟩ := hrel
    by_cases hlt : k < n
    · obtain ⟨g1, z, rfl, hz, hfz, hnext⟩ := hin.out.at_ hlt
      have HX := Lib.hid hnext
      clear hnext
      go_wp2_with fail
      go_roundw
      case rel => exact ⟨k + 1, by omega, by go_num, HX.out _⟩
      case measure => simp [intOf]; omega
    · go_wp2_with fail
      have HS : Hid (RdSt w g xs 0 wr) := by
        obtain ⟨zs', ho', hk'⟩ := hin.out
        have hge : ∀ b, blk a1 = some b → w.heap.size ≤ b ∧ b < w1.heap.size := fun b hb => HO1.out.blk_ge b hb
        refine ⟨HB2.out.trans (hk'.below HB2.out.size (fun k hk => (hge k hk).1)), by have := HG2.out.1; have := HB1.out.size; omega, a2, n2, c2, ?_, fun b hb => by have := HG2.out.2 b hb; have := HB1.out.size; have := hk'.size; omega⟩
        exact HR2.out.keep hk' (fun e => by have := (hge g e).2; have := HG2.out.1; omega) (fun b hb e => by have := (hge b e).2; have := HG2.out.2 b hb; omega)
      clear hin HI HR2 HB2 HG2 HO1 HB1
      go_loopw [8, 9] (fun p i wr => ∃ q k : Nat, k ≤ sn ∧ i = .int .i64 k ∧ q ≤ n ∧ p = .int .i64 q ∧ Hid (RdSt w g xs q wr)) (fun _ i _ => sn - (intOf i).toNat)
      case atStart => exact ⟨0, 0, Nat.zero_le _, rfl, Nat.zero_le _, rfl, HS⟩
      case round =>
        obtain ⟨q, k, hk, rfl, hq, rfl, hst⟩ := hrel
        obtain ⟨wo, rfl⟩ : ∃ wo : World, wo = wr := ⟨_, rfl⟩
        by_cases hlt : k < sn
        · obtain ⟨sb, so, rfl, hcell⟩ := HSR.out (by intro e; have := HSN.out; rw [e] at this; simp at this; omega)
          have hck := hcell k (by rw [HSN.out]; exact hlt)
          rw [← hst.out.1.cell (p := ⟨sb, so + k, none⟩) (World.block_lt_of_cell? w ⟨sb, so + k, none⟩ hck)] at hck
          have hzb := bounds_i64 (HSW.out (ss.getD k 0) (by
            have hk' : k < ss.length := by rw [HSN.out]; exact hlt
            rw [List.getD_eq_getElem?_getD, List.getElem?_eq_getElem hk']; exact List.getElem_mem hk'))
          obtain ⟨z, hz⟩ : ∃ z, ss.getD k 0 = z := ⟨_, rfl⟩
          rw [hz] at hck hzb
          obtain ⟨hz1, hz2⟩ := hzb
          clear hz hcell
          obtain ⟨hbel, hge, a', n', c', hrr, hab⟩ := hst.out
          have hn' : n' = n - q := by rw [← hrr.len, List.length_drop, HN.out]
          subst hn'
          have HRR := Lib.hid hrr
          have HAB := Lib.hid hab
          have HBEL := Lib.hid hbel
          clear hrr hab hbel
          by_cases hz9 : z < -9
          · obtain ⟨m, hm⟩ := Int.eq_ofNat_of_zero_le (show 0 ≤ -10 - z by omega)
            have hm' : -10 - z = (m : Int) := hm
            have HM := Lib.hid hm'
            clear hm hm'
            have hmb : (m : Int) ≤ 9223372036854775807 := by have := HM.out; omega
            go_wp2_with fail
            rw [HM.out]
            by_cases hsh : ((n - q : Nat) : Int) < m
            · refine (rTake_short _ _ _ _ _ _ _ _ HRR.out hsh).mono ?_
              rintro e w3 ⟨rfl, rfl⟩
              go_wp2_with fail
              go_loopw [13] (fun i wr => i = .int .i64 0 ∧ Hid (wr = wo)) (fun _ _ => 0)
              case atStart => exact ⟨rfl, rfl⟩
              case round =>
                obtain ⟨rfl, hwr⟩ := hrel
                obtain rfl := hwr.out
                go_wp2_with fail
                refine (rAt_any _ _ _ _ _ _ _ HRR.out).mono ?_
                rintro e w5 ⟨rfl, rfl⟩
                go_wp2_with fail
                refine (rLeft_any _ _ _ _ _ _ _ HRR.out).mono ?_
                rintro e w5 ⟨rfl, rfl⟩
                go_wp2_with fail
                go_roundw
                case rel => exact ⟨q, k + 1, by omega, by go_num, by omega, by go_num, hst⟩
                case measure => simp [intOf]; omega
            · have hmn : (m : Int) ≤ ((n - q : Nat) : Int) := by omega
              refine (rTake_int _ _ _ _ _ _ _ _ HRR.out (by omega) hmn (by omega) (by omega)).mono ?_
              rintro e w3 ⟨a1', n1, c1', a3, n3, c3, rfl, hown3, hrr3, hk3, hbl3⟩
              rw [Int.toNat_natCast] at hown3 hrr3
              have hl3 := hown3.len
              obtain rfl : m = n1 := by rw [← hl3, List.length_take, List.length_drop, HN.out]; omega
              have HS3 : Hid (RdSt w g xs (q + m) w3) := hst.out.skipped HRR.out HAB.out ⟨a3, n3, c3, hrr3, hk3, hbl3⟩
              have HO3 := Lib.hid hown3
              have HOV : Hid (∀ wr, Inc w3 wo.heap.size a1' m c1' wr → RdSt w g xs (q + m) wr) := fun wr hi =>
                RdSt.over (by rw [List.drop_drop] at hrr3; simpa using hrr3) HS3.out.1 hge HBEL.out.size (fun b hb => HAB.out b (by rw [← hbl3]; exact hb)) HRR.out.lt hk3.size hi
              have HBX : Hid (Byt ((xs.drop q).take m)) := (HB.out.drop q).take m
              clear hown3 hrr3 hk3 hbl3 hl3
              have hqm : q + m ≤ n := by omega
              by_cases hm0 : m = 0
              · subst hm0
                by_cases hcq : cap ≤ q
                all_goals
                  go_wp2_with fail
                  refine (same_any _ _ _ _ _ _ [] [] _ (by rfl) (by rfl) (Rd.empty _ _) (Rd.empty _ _) Byt.nil Byt.nil).mono ?_
                  rintro e w4 ⟨rfl, rfl⟩
                  rw [decide_eq_true rfl]
                  go_wp2_with fail
                  go_loopw [13] (fun i wr => i = .int .i64 0 ∧ Hid (wr = w3)) (fun _ _ => 0)
                  case atStart => exact ⟨rfl, rfl⟩
                  case round =>
                    obtain ⟨rfl, hwr⟩ := hrel
                    obtain rfl := hwr.out
                    have HS4 : Hid (RdSt w g xs (q + 0) wr) := HS3
                    obtain ⟨_, _, a4, n4, c4, hrr4, _⟩ := HS4.out
                    obtain rfl : n4 = n - (q + 0) := by rw [← hrr4.len, List.length_drop, HN.out]
                    have HRR4 := Lib.hid hrr4
                    clear hrr4
                    go_wp2_with fail
                    refine (rAt_any _ _ _ _ _ _ _ HRR4.out).mono ?_
                    rintro e w5 ⟨rfl, rfl⟩
                    go_wp2_with fail
                    refine (rLeft_any _ _ _ _ _ _ _ HRR4.out).mono ?_
                    rintro e w5 ⟨rfl, rfl⟩
                    go_wp2_with fail
                    go_roundw
                    case rel => exact ⟨q + 0, k + 1, by omega, by go_num, by omega, by go_num, HS4⟩
                    case measure => simp [intOf]; omega
              · obtain ⟨b, o, rfl, _⟩ := HR.out (by intro e; have := HN.out; rw [e] at this; simp at this; omega)
                go_wp2_with fail
                refine (same_any _ _ _ _ _ _ ((xs.drop q).take m) ((xs.drop q).take m) _ HO3.out.len (by rw [List.length_take, List.length_drop, HN.out]; omega) HO3.out.rd ((HR.out.below HS3.out.1).cut (by rw [HN.out]; omega)) HBX.out HBX.out).mono ?_
                rintro e w4 ⟨rfl, rfl⟩
                rw [decide_eq_true rfl]
                go_wp2_with fail
                go_loopw [13] (fun i wr => ∃ j : Nat, j ≤ m ∧ i = .int .i64 j ∧ Hid (Inc w3 wo.heap.size a1' m c1' wr)) (fun i _ => m - (intOf i).toNat)
                case atStart => exact ⟨0, Nat.zero_le _, rfl, Inc.start HO3.out⟩
                case round =>
                  obtain ⟨j, hj, rfl, hin⟩ := hrel
                  by_cases hjl : j < m
                  · obtain ⟨g1, y, rfl, hy, hfy, hnext⟩ := hin.out.at_ hjl
                    have HX := Lib.hid hnext
                    clear hnext
                    go_wp2_with fail
                    go_roundw
                    case rel => exact ⟨j + 1, by omega, by go_num, HX.out _⟩
                    case measure => simp [intOf]; omega
                  · have HS4 : Hid (RdSt w g xs (q + m) wr) := HOV.out wr hin.out
                    obtain ⟨_, _, a4, n4, c4, hrr4, _⟩ := HS4.out
                    obtain rfl : n4 = n - (q + m) := by rw [← hrr4.len, List.length_drop, HN.out]
                    have HRR4 := Lib.hid hrr4
                    clear hrr4
                    go_wp2_with fail
                    refine (rAt_any _ _ _ _ _ _ _ HRR4.out).mono ?_
                    rintro e w5 ⟨rfl, rfl⟩
                    go_wp2_with fail
                    refine (rLeft_any _ _ _ _ _ _ _ HRR4.out).mono ?_
                    rintro e w5 ⟨rfl, rfl⟩
                    go_wp2_with fail
                    go_roundw
                    case rel => exact ⟨q + m, k + 1, by omega, by go_num, by omega, by go_num, HS4⟩
                    case measure => simp [intOf]; omega
          · have HD := Lib.hid (@getE_drop xs q (by rw [HN.out]; exact hq) z)
            have HDV := Lib.hid (@getV_drop xs q (by rw [HN.out]; exact hq) z)
            rcases getE_cases (xs.drop q) 0 z with hE | hE | hE
            · have HE := Lib.hid hE
              have HE2 : Hid (getE xs q z = 0) := by show _ = _; rw [← HD.out]; exact hE
              obtain ⟨hg1, hg8, _, hgl⟩ := getE_zero hE
              have hgl2 : z ≤ (n : Int) - q := by rw [List.length_drop, HN.out] at hgl; omega
              clear hE hgl
              obtain ⟨m, rfl⟩ := Int.eq_ofNat_of_zero_le (show 0 ≤ z by omega)
              go_wp2_with fail
              refine (rGet_yes _ _ _ _ _ _ _ _ HRR.out HE.out (by omega) (by omega)).mono ?_
              rintro e w3 ⟨rfl, hsk⟩
              rw [HDV.out]
              rw [Int.toNat_natCast] at hsk
              have HS3 : Hid (RdSt w g xs (q + m) w3) := hst.out.skipped HRR.out HAB.out hsk
              clear hsk
              go_wp2_with fail
              refine (refGet_any _ _ _ xs _ _ _ HN.out (HR.out.below HS3.out.1) HB.out (by omega)).mono ?_
              rintro e w4 ⟨rfl, rfl⟩
              rw [HE2.out]
              obtain ⟨hbel3, _, a3, n3, c3, hrr3, hab3⟩ := HS3.out
              have hn3 : n3 = n - (q + m) := by rw [← hrr3.len, List.length_drop, HN.out]
              subst hn3
              have HRR3 := Lib.hid hrr3
              clear hbel3 hrr3 hab3
              go_wp2_with fail
              refine (rAt_any _ _ _ _ _ _ _ HRR3.out).mono ?_
              rintro e w5 ⟨rfl, rfl⟩
              go_wp2_with fail
              refine (rLeft_any _ _ _ _ _ _ _ HRR3.out).mono ?_
              rintro e w5 ⟨rfl, rfl⟩
              go_wp2_with fail
              go_roundw
              case rel => exact ⟨q + m, k + 1, by omega, by go_num, by omega, by go_num, HS3⟩
              case measure => simp [intOf]; omega
            · have HE := Lib.hid hE
              have HE2 : Hid (getE xs q z = 2) := by show _ = _; rw [← HD.out]; exact hE
              have HV2 : Hid (getV xs q z = 0) := by show _ = _; simp [getV, HE2.out]
              have hne : getE (xs.drop q) 0 z ≠ 0 := by rw [hE]; decide
              have HNE := Lib.hid hne
              clear hE hne
              go_wp2_with fail
              refine (rGet_not _ _ _ _ _ _ _ _ HRR.out HNE.out).mono ?_
              rintro e w3 ⟨rfl, rfl⟩
              rw [HE.out]
              go_wp2_with fail
              refine (refGet_any _ _ _ xs _ _ _ HN.out (HR.out.below HBEL.out) HB.out (by omega)).mono ?_
              rintro e w4 ⟨rfl, rfl⟩
              rw [HE2.out, HV2.out]
              go_wp2_with fail
              refine (rAt_any _ _ _ _ _ _ _ HRR.out).mono ?_
              rintro e w5 ⟨rfl, rfl⟩
              go_wp2_with fail
              refine (rLeft_any _ _ _ _ _ _ _ HRR.out).mono ?_
              rintro e w5 ⟨rfl, rfl⟩
              go_wp2_with fail
              go_roundw
              case rel => exact ⟨q, k + 1, by omega, by go_num, by omega, by go_num, hst⟩
              case measure => simp [intOf]; omega
            · have HE := Lib.hid hE
              have HE2 : Hid (getE xs q z = 10) := by show _ = _; rw [← HD.out]; exact hE
              have HV2 : Hid (getV xs q z = 0) := by show _ = _; simp [getV, HE2.out]
              have hne : getE (xs.drop q) 0 z ≠ 0 := by rw [hE]; decide
              have HNE := Lib.hid hne
              clear hE hne
              go_wp2_with fail
              refine (rGet_not _ _ _ _ _ _ _ _ HRR.out HNE.out).mono ?_
              rintro e w3 ⟨rfl, rfl⟩
              rw [HE.out]
              go_wp2_with fail
              refine (refGet_any _ _ _ xs _ _ _ HN.out (HR.out.below HBEL.out) HB.out (by omega)).mono ?_
              rintro e w4 ⟨rfl, rfl⟩
              rw [HE2.out, HV2.out]
              go_wp2_with fail
              refine (rAt_any _ _ _ _ _ _ _ HRR.out).mono ?_
              rintro e w5 ⟨rfl, rfl⟩
              go_wp2_with fail
              refine (rLeft_any _ _ _ _ _ _ _ HRR.out).mono ?_
              rintro e w5 ⟨rfl, rfl⟩
              go_wp2_with fail
              go_roundw
              case rel => exact ⟨q, k + 1, by omega, by go_num, by omega, by go_num, hst⟩
              case measure => simp [intOf]; omega
        · go_wp2_with fail
          refine (rTake_neg _ _ _ (by omega)).mono ?_
          rintro e w3 ⟨rfl, rfl⟩
          go_wp2_with fail
          refine (works_any _).mono ?_
          rintro e w4 ⟨rfl, hb4⟩
          have HF : Hid (Below w.heap.size w w4) := hst.out.1.trans (hb4.mono hst.out.1.size)
          clear hb4
          go_wp2_with fail
          go_ret
          exact ⟨rfl, HF.out⟩
end Go.Proofs.Ytfkangknnaohaaa

/-
  The contracts of Clone of bytes, and of an address's Bytes. Conditions: lengths below 2 to the 46; sixteen bytes.
-/
import Derived.Test.YtbnfmiopgjmppaaDoorAdP
namespace Go.Proofs.YtbnfmiopgjmppaaDoor
open Go.RowKit

theorem eqIn_nil (w : World) (d : Nat) (a : Addr) (n c : Nat) : (Op.equalIn (d + 1) 25 (.slice (some a) n c) (.slice none 0 0)).run Tryd.prog w = .ok false w := by
  simp [Op.equalIn, run_underlying Tryd.underlying25]
theorem eq_nil (w : World) (a : Addr) (n c : Nat) : (binOp .eql 25 (.slice (some a) n c) (.slice none 0 0)).run Tryd.prog w = .ok (.bool false) w := by
  have h := eqIn_nil w 9999 a n c
  simp only [binOp, Op.equal, Op.maxDepth, Sem.run_bind]
  rw [show (10000 : Nat) = 9999 + 1 from rfl, h]
  rfl

set_option maxRecDepth 100000 in
set_option maxHeartbeats 1000000 in
theorem sClone_any (b o n c : Nat) (xs : List Int) (w : World) (hn : xs.length = n) (hr : Rd w (some ⟨b, o, none⟩) xs) (hlim : n ≤ 70368744177664) :
    Calls Tryd.prog 31 #[.slice (some ⟨b, o, none⟩) n c] w (Made w xs) := by
  have h0 := Own.lit w w.heap.size [] 0 rfl (by decide) (Nat.le_refl _)
  obtain ⟨a', cap', w1, hrun, hown, hg, hb⟩ := run_append_rd (w.alloc (.cells #[] 5)) w.heap.size 25 h0 c hn (hr.below ((Below.refl _ _).alloc (Nat.le_refl _) _)) (by omega) (by simp)
  rw [List.nil_append, Nat.zero_add] at hown
  rw [Nat.zero_add] at hrun
  have HR := Lib.hid hrun
  have HF : Hid (Made w xs (.returned (.slice a' n cap')) w1) := ⟨a', n, cap', rfl, hown, ((Below.refl _ _).alloc (Nat.le_refl _) _).grown hg (by simp) (fun k hk => by simp [blk] at hk; omega)⟩
  clear hrun hown hg hb hn hr h0 hlim
  have he := eq_nil w ⟨b, o, none⟩ n c
  go_enter Tryd.func31, Tryd.ntmps31
  go_wp2_with (at_builtin; refine Lib.wpList_append_run _ rfl _ _ _ _ rfl _ _ rfl rfl _ _ HR.out ?_)
  go_ret
  exact HF.out

theorem rd_bytes {w : World} {b : Nat} {s : Bool} {xs : List Int} (h : w.rangeAt b 0 (adl s xs)) (k : Nat) : Rd w (some ⟨b, 1, none⟩) (xs.take k) := by
  intro _
  refine ⟨b, 1, rfl, fun i hi => ?_⟩
  have hi' : i < k ∧ i < xs.length := by simp at hi; omega
  have := adl_bytes h i (.int .u8 (xs.getD i 0)) (bv_get xs i hi'.2)
  rw [this]
  simp [hi'.1]
/-- An address's bytes. -/
def byA (s : Bool) (xs : List Int) : List Int := xs.take (if s then 16 else 4)

set_option maxRecDepth 100000 in
set_option maxHeartbeats 1000000 in
theorem aBytes_any (s : Bool) (xs : List Int) (w : World) (hl : xs.length = 16) : Calls Tryd.prog 11 #[.agg (adl s xs).toArray] w (Made w (byA s xs)) := by
  have HL := Lib.hid hl
  clear hl
  cases s
  · go_enter Tryd.func11, Tryd.ntmps11
    go_wp2_with (refine ldA _ rfl rfl _ _ rfl false xs HL.out (adl_range w false xs _) ?_)
    refine (aSize_any false xs _).mono ?_
    rintro e w1 ⟨rfl, hb1⟩
    have HG := Lib.hid (range_kept hb1 (adl_range w false xs 24))
    have HB1 : Hid (Below w.heap.size w w1) := ((Below.refl _ _).alloc (Nat.le_refl _) _).trans (hb1.mono (by simp))
    clear hb1
    simp only [szA, if_false, Bool.false_eq_true]
    go_wp2_with fail
    refine (sClone_any _ _ _ _ (xs.take 4) _ (by simp [HL.out]) (rd_bytes HG.out 4) (by omega)).mono ?_
    rintro e w2 ⟨a2, n2, c2, rfl, hown, hb2⟩
    have HO := Lib.hid (hown.mono HB1.out.size)
    have HB2 := Lib.hid (HB1.out.trans (hb2.mono HB1.out.size))
    clear hown hb2
    go_wp2_with fail
    go_ret
    exact ⟨a2, n2, c2, rfl, HO.out, HB2.out⟩
  · go_enter Tryd.func11, Tryd.ntmps11
    go_wp2_with (refine ldA _ rfl rfl _ _ rfl true xs HL.out (adl_range w true xs _) ?_)
    refine (aSize_any true xs _).mono ?_
    rintro e w1 ⟨rfl, hb1⟩
    have HG := Lib.hid (range_kept hb1 (adl_range w true xs 24))
    have HB1 : Hid (Below w.heap.size w w1) := ((Below.refl _ _).alloc (Nat.le_refl _) _).trans (hb1.mono (by simp))
    clear hb1
    simp only [szA, if_true]
    go_wp2_with fail
    refine (sClone_any _ _ _ _ (xs.take 16) _ (by simp [HL.out]) (rd_bytes HG.out 16) (by omega)).mono ?_
    rintro e w2 ⟨a2, n2, c2, rfl, hown, hb2⟩
    have HO := Lib.hid (hown.mono HB1.out.size)
    have HB2 := Lib.hid (HB1.out.trans (hb2.mono HB1.out.size))
    clear hown hb2
    go_wp2_with fail
    go_ret
    exact ⟨a2, n2, c2, rfl, HO.out, HB2.out⟩
end Go.Proofs.YtbnfmiopgjmppaaDoor

/-
  Contracts of the document's own Join, Put and Same for layer 1. Conditions: lengths below 2 to the 46, numbers that fit their Go types.
-/
import Derived.Test.YtabdejoakecioaaLeaf
namespace Go.Proofs.Ytabdejoakecioaa
open Go.RowKit

set_option maxRecDepth 100000 in
theorem join_any (a b : Option Addr) (n c m d : Nat) (xs ys : List Int) (w : World) (hn : xs.length = n) (hm : ys.length = m) (hx : Rd w a xs) (hy : Rd w b ys) (hlim : n + m ≤ 70368744177664) :
    Calls Try.prog 22 #[.slice a n c, .slice b m d] w (Made w (xs ++ ys)) := by
  obtain ⟨a1, cap1, w1, hrun1, hown1, hg1, hb1⟩ := run_append_rd w w.heap.size 24 (Own.nil w w.heap.size) c hn hx (by omega) (Nat.le_refl _)
  rw [List.nil_append] at hown1
  have hbel : Below w.heap.size w w1 := (Below.refl _ _).grown hg1 (Nat.le_refl _) (by simp [blk])
  obtain ⟨a2, cap2, w2, hrun2, hown2, hg2, hb2⟩ := run_append_rd w1 w.heap.size 24 hown1 d hm (hy.below hbel) (by omega) hbel.size
  have hbel2 : Below w.heap.size w w2 := hbel.grown hg2 hbel.size (fun k hk => (hown1.blk_ge k hk).1)
  have HR1 := Lib.hid hrun1
  have HR2 := Lib.hid hrun2
  have HF : Hid (Made w (xs ++ ys) (.returned (.slice a2 (0 + n + m) cap2)) w2) := ⟨a2, 0 + n + m, cap2, rfl, hown2, hbel2⟩
  clear hrun1 hown1 hg1 hb1 hn hx hm hy hrun2 hown2 hg2 hb2 hbel hbel2
  rw [Nat.zero_add] at HR1 HR2 HF
  go_enter Try.func22, Try.ntmps22
  go_wp2_with (first | (at_builtin; refine Lib.wpList_append_run _ rfl (.tmp 6) (.tmp 7) _ _ rfl _ _ rfl rfl _ _ HR1.out ?_) | (at_builtin; refine Lib.wpList_append_run _ rfl (.tmp 9) (.tmp 10) _ _ rfl _ _ rfl rfl _ _ HR2.out ?_))
  go_ret
  exact HF.out

theorem refPut_any (k : Nat) : ∀ (v : Int) (w : World), k ≤ 8 → U64 v → Calls Try.prog 71 #[.int .u64 v, .int .i64 k] w (Made w (be k v)) := by
  induction k with
  | zero =>
    intro v w _ _
    go_enter Try.func71, Try.ntmps71
    go_wp2_with fail
    go_ret
    exact ⟨none, 0, 0, rfl, Own.nil _ _, Below.refl _ _⟩
  | succ k ih =>
    intro v w hk hv
    have hv0 := hv.1
    have HI := Lib.hid ih
    have hv1 : v ≤ 18446744073709551615 := by have := hv.2; rw [pw_eight] at this; omega
    have HV : Hid (U64 (v / 256)) := ⟨by omega, by have := hv.2; omega⟩
    have HV2 := Lib.hid hv
    clear ih hv
    have hne : ((k : Int) + 1 == 0) = false := by simp; omega
    go_enter Try.func71, Try.ntmps71
    go_wp2_with fail
    refine (HI.out (v / 256) _ (by omega) HV.out).mono ?_
    rintro e w1 ⟨a1, n1, cap1, rfl, hown1, hb1⟩
    have hsz := hb1.size
    have hl := hown1.len
    rw [be_length] at hl
    subst hl
    obtain ⟨a2, cap2, w2, hrun2, hown2, hg2, hx2⟩ := run_append_rd (w1.alloc (.cells #[.int .u8 (v % 256)] 5)) w.heap.size 24 (hown1.keep (S := fun _ => False) (Kept.alloc _ _ _) (fun _ _ => id)) 1 (m := 1) (by rfl) (Rd.one w1 (v % 256)) (by omega) (by simp; omega)
    have HR := Lib.hid hrun2
    have HF : Hid (Made w (be (k + 1) v) (.returned (.slice a2 (k + 1) cap2)) w2) :=
      ⟨a2, k + 1, cap2, rfl, hown2, (hb1.alloc hb1.size _).grown hg2 (by simp; omega) (fun i hi => (hown1.blk_ge i hi).1)⟩
    clear hb1 hown1 hrun2 hown2 hg2 hx2 hsz
    go_wp2_with (at_builtin; refine Lib.wpList_append_run _ rfl _ _ _ _ rfl _ _ rfl rfl _ _ HR.out ?_)
    go_ret
    exact HF.out

theorem same_any (a b : Option Addr) (n c m d : Nat) (xs ys : List Int) (w : World) (hn : xs.length = n) (hm : ys.length = m) (hx : Rd w a xs) (hy : Rd w b ys) (bx : Byt xs) (by_ : Byt ys) :
    Calls Try.prog 12 #[.slice a n c, .slice b m d] w fun e w' => e = .returned (.bool (decide (xs = ys))) ∧ w = w' := by
  have h1 := run_string_rd w c hn hx bx
  have h2 := run_string_rd w d hm hy by_
  have HI : Hid (ub xs = ub ys → xs = ys) := ub_inj bx by_
  clear hn hm hx hy bx by_
  go_enter Try.func12, Try.ntmps12
  go_wp2
  go_ret
  have he : (ub xs == ub ys) = decide (xs = ys) := by
    rw [Bool.eq_iff_iff, decide_eq_true_eq, beq_iff_eq]
    exact ⟨HI.out, fun h => by rw [h]⟩
  exact ⟨by rw [he]; rfl, rfl⟩
end Go.Proofs.Ytabdejoakecioaa

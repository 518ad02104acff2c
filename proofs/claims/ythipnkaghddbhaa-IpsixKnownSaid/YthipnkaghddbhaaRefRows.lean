/-
  Contracts of the document's own Join, Put and Same for layer 1. Conditions: lengths below 2 to the 46, numbers that fit their Go types.
-/
import Derived.Test.YthipnkaghddbhaaLeaf
namespace Go.Proofs.Ythipnkaghddbhaa
open Go.RowKit

/- left out: not in this seat -/

theorem refPut_any (k : Nat) : ∀ (v : Int) (w : World), k ≤ 8 → U64 v → Calls Try.prog 35 #[.int .u64 v, .int .i64 k] w (Made w (be k v)) := by
  induction k with
  | zero =>
    intro v w _ _
    go_enter Try.func35, Try.ntmps35
    go_wp2_with fail
    go_ret
    exact ⟨none, 0, 0, rfl, Own.nil _ _, Below.refl _ _⟩
  | succ k ih =>
    intro v w hk hv
    have hv0 := hv.1
    have HI := Lib.hid ih
    have hv1 : v ≤ 18446744073709551615 := by have := hv.2; rw [pw_eight] at this; omega
    have HV : Hid (U64 (v / 256)) := ⟨by omega, by have := hv.2; omega⟩
    have HV2 := Lib.hid hv
    clear ih hv
    have hne : ((k : Int) + 1 == 0) = false := by simp; omega
    go_enter Try.func35, Try.ntmps35
    go_wp2_with fail
    refine (HI.out (v / 256) _ (by omega) HV.out).mono ?_
    rintro e w1 ⟨a1, n1, cap1, rfl, hown1, hb1⟩
    have hsz := hb1.size
    have hl := hown1.len
    rw [be_length] at hl
    subst hl
    obtain ⟨a2, cap2, w2, hrun2, hown2, hg2, hx2⟩ := run_append_rd (w1.alloc (.cells #[.int .u8 (v % 256)] 5)) w.heap.size 27 (hown1.keep (S := fun _ => False) (Kept.alloc _ _ _) (fun _ _ => id)) 1 (m := 1) (by rfl) (Rd.one w1 (v % 256)) (by omega) (by simp; omega)
    have HR := Lib.hid hrun2
    have HF : Hid (Made w (be (k + 1) v) (.returned (.slice a2 (k + 1) cap2)) w2) :=
      ⟨a2, k + 1, cap2, rfl, hown2, (hb1.alloc hb1.size _).grown hg2 (by simp; omega) (fun i hi => (hown1.blk_ge i hi).1)⟩
    clear hb1 hown1 hrun2 hown2 hg2 hx2 hsz
    go_wp2_with (at_builtin; refine Lib.wpList_append_run _ rfl _ _ _ _ rfl _ _ rfl rfl _ _ HR.out ?_)
    go_ret
    exact HF.out

/- left out: not in this seat -/
end Go.Proofs.Ythipnkaghddbhaa

/-
  The contract of the statements' own small test: it answers true, and leaves all that was there as it was. No conditions.
-/
import Derived.Test.YtfkangknnaohaaaWr3
import Derived.Test.YtfkangknnaohaaaRefRows
namespace Go.Proofs.Ytfkangknnaohaaa
open Go.RowKit

set_option maxHeartbeats 1000000 in
theorem works_any (w : World) : Calls Try.prog 10 #[] w fun e w' => e = .returned (.bool true) ∧ Below w.heap.size w w' := by
  have HW := Lib.hid (Wr.new w w.heap.size)
  go_enter Try.func10, Try.ntmps10
  go_wp2_with fail
  refine (wPut_fit w.heap.size w.heap.size none 0 0 [] 258 3 _ HW.out (u64_small (by omega) (by omega)) (by decide) (by omega) (by simp)).mono ?_
  rintro e w1 ⟨rfl, a1, n1, cap1, hw1, hk1, hx1⟩
  have e1 : ([] ++ be (Int.toNat 3) 258) = [0, 1, 2] := by decide
  rw [e1] at hw1
  have hn1 : n1 = 3 := hw1.2.len.symm
  subst hn1
  have HW1 := Lib.hid hw1
  have HB1 : Hid (Below w.heap.size w w1) := ((Below.refl _ _).alloc (Nat.le_refl _) _).trans (hk1.below (by simp) (by rintro k (h | h); omega; cases h))
  have hs1 : w.heap.size + 1 ≤ w1.heap.size := by have := hk1.size; simp at this; omega
  clear hw1 hk1 hx1 e1
  go_wp2_with fail
  refine (wPut_not _ _ _ _ _ _ 256 1 _ HW1.out (u64_small (by omega) (by omega)) (by decide)).mono ?_
  rintro e w' ⟨rfl, rfl⟩
  go_wp2_with fail
  refine (get_any _ _ _ [1, 2, 3] 1 2 _ (by rfl) (Own.lit w1 w1.heap.size [1, 2, 3] 3 rfl (by decide) (Nat.le_refl _)).rd (by intro x hx; simp at hx; omega) (by omega) (by omega) (by omega)).mono ?_
  rintro e w' ⟨rfl, rfl⟩
  rw [show getV [1, 2, 3] 1 2 = 515 from by decide, show getE [1, 2, 3] 1 2 = 0 from by decide]
  go_wp2_with fail
  have HW2 := Lib.hid (HW1.out.keep (S := fun _ => False) (Kept.alloc _ w1 (.cells #[.int .u8 1, .int .u8 2, .int .u8 3] 5)) id (fun _ _ => id))
  refine (wBytes_any _ _ _ _ _ _ _ HW2.out (by omega)).mono ?_
  rintro e w3 ⟨a3, n3, cap3, rfl, hown3, hb3⟩
  have hs3 : w1.heap.size + 1 ≤ w3.heap.size := by have := hb3.size; simpa using this
  have HO3 := Lib.hid (hown3.keep (S := fun _ => False) (Kept.alloc _ w3 (.cells #[.int .u8 0, .int .u8 1, .int .u8 2] 5)) (fun _ _ => id))
  have HF : Hid (Below w.heap.size w (w3.alloc (.cells #[.int .u8 0, .int .u8 1, .int .u8 2] 5))) :=
    (((HB1.out.alloc (by omega) _).trans (hb3.mono (by simp; omega))).alloc (by omega) _)
  clear hown3 hb3
  go_wp2_with fail
  refine (same_any _ _ _ _ _ _ [0, 1, 2] [0, 1, 2] _ HO3.out.len (by rfl) HO3.out.rd (Own.lit w3 w3.heap.size [0, 1, 2] 3 rfl (by decide) (Nat.le_refl _)).rd (by intro x hx; simp at hx; omega) (by intro x hx; simp at hx; omega)).mono ?_
  rintro e w' ⟨rfl, rfl⟩
  rw [decide_eq_true rfl]
  go_wp2_with fail
  refine (least_any _ _ (u64_small (by omega) (by omega))).mono ?_
  rintro e w' ⟨rfl, rfl⟩
  rw [show lst 0 = 1 from by decide]
  go_wp2_with fail
  refine (least_any _ _ (u64_small (by omega) (by omega))).mono ?_
  rintro e w' ⟨rfl, rfl⟩
  rw [show lst 255 = 1 from by decide]
  go_wp2_with fail
  refine (least_any _ _ (u64_small (by omega) (by omega))).mono ?_
  rintro e w' ⟨rfl, rfl⟩
  rw [show lst 256 = 2 from by decide]
  go_wp2_with fail
  go_ret
  exact ⟨rfl, HF.out⟩
end Go.Proofs.Ytfkangknnaohaaa

/-
  Contracts of the document's own Join, Put and Same for layer 1. Conditions: lengths below 2 to the 46, numbers that fit their Go types.
-/
import Derived.Test.YtbghdlgfpfeaeaaLeaf
namespace Go.Proofs.Ytbghdlgfpfeaeaa
open Go.RowKit

set_option maxRecDepth 100000 in
theorem join_any (a b : Option Addr) (n c m d : Nat) (xs ys : List Int) (w : World) (hn : xs.length = n) (hm : ys.length = m) (hx : Rd w a xs) (hy : Rd w b ys) (hlim : n + m ≤ 70368744177664) :
    Calls Try.prog 30 #[.slice a n c, .slice b m d] w (Made w (xs ++ ys)) := by
  obtain ⟨a1, cap1, w1, hrun1, hown1, hg1, hb1⟩ := run_append_rd w w.heap.size 31 (Own.nil w w.heap.size) c hn hx (by omega) (Nat.le_refl _)
  rw [List.nil_append] at hown1
  have hbel : Below w.heap.size w w1 := (Below.refl _ _).grown hg1 (Nat.le_refl _) (by simp [blk])
  obtain ⟨a2, cap2, w2, hrun2, hown2, hg2, hb2⟩ := run_append_rd w1 w.heap.size 31 hown1 d hm (hy.below hbel) (by omega) hbel.size
  have hbel2 : Below w.heap.size w w2 := hbel.grown hg2 hbel.size (fun k hk => (hown1.blk_ge k hk).1)
  have HR1 := Lib.hid hrun1
  have HR2 := Lib.hid hrun2
  have HF : Hid (Made w (xs ++ ys) (.returned (.slice a2 (0 + n + m) cap2)) w2) := ⟨a2, 0 + n + m, cap2, rfl, hown2, hbel2⟩
  clear hrun1 hown1 hg1 hb1 hn hx hm hy hrun2 hown2 hg2 hb2 hbel hbel2
  rw [Nat.zero_add] at HR1 HR2 HF
  go_enter Try.func30, Try.ntmps30
  go_wp2_with (first | (at_builtin; refine Lib.wpList_append_run _ rfl (.tmp 6) (.tmp 7) _ _ rfl _ _ rfl rfl _ _ HR1.out ?_) | (at_builtin; refine Lib.wpList_append_run _ rfl (.tmp 9) (.tmp 10) _ _ rfl _ _ rfl rfl _ _ HR2.out ?_))
  go_ret
  exact HF.out

/- left out: not in this seat -/

theorem same_any (a b : Option Addr) (n c m d : Nat) (xs ys : List Int) (w : World) (hn : xs.length = n) (hm : ys.length = m) (hx : Rd w a xs) (hy : Rd w b ys) (bx : Byt xs) (by_ : Byt ys) :
    Calls Try.prog 14 #[.slice a n c, .slice b m d] w fun e w' => e = .returned (.bool (decide (xs = ys))) ∧ w = w' := by
  have h1 := run_string_rd w c hn hx bx
  have h2 := run_string_rd w d hm hy by_
  have HI : Hid (ub xs = ub ys → xs = ys) := ub_inj bx by_
  clear hn hm hx hy bx by_
  go_enter Try.func14, Try.ntmps14
  go_wp2
  go_ret
  have he : (ub xs == ub ys) = decide (xs = ys) := by
    rw [Bool.eq_iff_iff, decide_eq_true_eq, beq_iff_eq]
    exact ⟨HI.out, fun h => by rw [h]⟩
  exact ⟨by rw [he]; rfl, rfl⟩
end Go.Proofs.Ytbghdlgfpfeaeaa

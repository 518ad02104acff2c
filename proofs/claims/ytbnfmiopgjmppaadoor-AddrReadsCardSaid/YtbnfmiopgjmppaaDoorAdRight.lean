/-
  The contracts of Right, Cut, and of what prefixes are asked. Conditions: sixteen bytes each.
-/
import Derived.Test.YtbnfmiopgjmppaaDoorAdHead
import Derived.Test.YtbnfmiopgjmppaaDoorAdR1
import Derived.Test.YtbnfmiopgjmppaaDoorAdEq
import Derived.Deep.RegionHeld3
import Derived.Deep.RegionWith
namespace Go.Proofs.YtbnfmiopgjmppaaDoor
open Go.RowKit

/-- Is an address right? -/
def rgt (s : Bool) (xs : List Int) : Bool := decide (hdL xs (dgA s) = xs)
theorem undrew {w w' : World} (h : Below w.drew.heap.size w.drew w') : Below w.heap.size w w' := ⟨h.os, h.tape, h.output, h.size, h.block⟩
theorem range_kept {w wr : World} (h : Below w.heap.size w wr) {b o : Nat} {cs : List Value} (hc : w.rangeAt b o cs) : wr.rangeAt b o cs := fun j v hv => cell_kept h (hc j v hv)

section
variable {P : Program} {w : World} {b o : Nat}
theorem run_ld16 (xs : List Int) (hl : xs.length = 16) (w : World) (h : w.rangeAt b o (bv xs)) : (Instr.loadAt 22 (.pointer (some ⟨b, o, none⟩))).run Tryd.prog w = .ok (.agg (bv xs).toArray) w :=
  run_loadAt_mid w b o _ (bv xs) _ h Tryd.underlying22 rfl (by rw [bv_length, hl]; exact inf16)
theorem run_ldA (s : Bool) (xs : List Int) (hl : xs.length = 16) (w : World) (h : w.rangeAt b o (adl s xs)) : (Instr.loadAt 24 (.pointer (some ⟨b, o, none⟩))).run Tryd.prog w = .ok (.agg (adl s xs).toArray) w :=
  run_loadAt_mid w b o _ (adl s xs) _ h Tryd.underlying24 rfl (by rw [adl_len s xs hl]; exact infA)
theorem run_ldR (s : Bool) (xs : List Int) (hl : xs.length = 16) (w : World) (h : w.rangeAt b o (adl s xs)) : (Instr.loadAt 27 (.pointer (some ⟨b, o, none⟩))).run Tryd.prog w = .ok (.agg (adl s xs).toArray) w :=
  run_loadAt_mid w b o _ (adl s xs) _ h Tryd.underlying27 rfl (by rw [adl_len s xs hl]; exact infR)
theorem run_ldP (s : Bool) (xs : List Int) (n : Int) (hl : xs.length = 16) (w : World) (h : w.rangeAt b o (pfl s xs n)) : (Instr.loadAt 48 (.pointer (some ⟨b, o, none⟩))).run Tryd.prog w = .ok (.agg (pfl s xs n).toArray) w :=
  run_loadAt_mid w b o _ (pfl s xs n) _ h Tryd.underlying48 rfl (by rw [pfl_len s xs n hl]; exact infP)
end

/-- A cell of a row of cells. -/
def cf (cs : List Value) (j : Nat) : Value := cs.getD j undef
/-- Cells lie there, as the walk asks for each. -/
theorem each_of {w : World} {b n : Nat} {cs : List Value} (h : w.rangeAt b 0 cs) (hn : cs.length = n) : ∀ j, j < n → w.cell? ⟨b, j, none⟩ = some (cf cs j) := fun j hj => by
  have := h j (cf cs j) (by simp [cf, List.getElem?_eq_getElem (show j < cs.length by omega)])
  rwa [Nat.zero_add] at this
theorem lit17 (s : Bool) (xs : List Int) (hl : xs.length = 16) : #[cf (adl s xs) 0, cf (adl s xs) 1, cf (adl s xs) 2, cf (adl s xs) 3, cf (adl s xs) 4, cf (adl s xs) 5, cf (adl s xs) 6, cf (adl s xs) 7, cf (adl s xs) 8, cf (adl s xs) 9, cf (adl s xs) 10, cf (adl s xs) 11, cf (adl s xs) 12, cf (adl s xs) 13, cf (adl s xs) 14, cf (adl s xs) 15, cf (adl s xs) 16] = (adl s xs).toArray := by
  obtain ⟨a, b, c, d, e, f, g, i, j, k, l, m, n, o, p, q, rfl⟩ := list16 xs hl
  rfl
theorem lit16 (s : Bool) (xs : List Int) (hl : xs.length = 16) : #[cf (adl s xs) 1, cf (adl s xs) 2, cf (adl s xs) 3, cf (adl s xs) 4, cf (adl s xs) 5, cf (adl s xs) 6, cf (adl s xs) 7, cf (adl s xs) 8, cf (adl s xs) 9, cf (adl s xs) 10, cf (adl s xs) 11, cf (adl s xs) 12, cf (adl s xs) 13, cf (adl s xs) 14, cf (adl s xs) 15, cf (adl s xs) 16] = (bv xs).toArray := by
  obtain ⟨a, b, c, d, e, f, g, i, j, k, l, m, n, o, p, q, rfl⟩ := list16 xs hl
  rfl
theorem lit17p (s : Bool) (xs : List Int) (n : Int) (hl : xs.length = 16) : #[cf (pfl s xs n) 0, cf (pfl s xs n) 1, cf (pfl s xs n) 2, cf (pfl s xs n) 3, cf (pfl s xs n) 4, cf (pfl s xs n) 5, cf (pfl s xs n) 6, cf (pfl s xs n) 7, cf (pfl s xs n) 8, cf (pfl s xs n) 9, cf (pfl s xs n) 10, cf (pfl s xs n) 11, cf (pfl s xs n) 12, cf (pfl s xs n) 13, cf (pfl s xs n) 14, cf (pfl s xs n) 15, cf (pfl s xs n) 16] = (adl s xs).toArray := by
  obtain ⟨a, b, c, d, e, f, g, i, j, k, l, m, n, o, p, q, rfl⟩ := list16 xs hl
  rfl
theorem lit18 (s : Bool) (xs : List Int) (n : Int) (hl : xs.length = 16) : #[cf (pfl s xs n) 0, cf (pfl s xs n) 1, cf (pfl s xs n) 2, cf (pfl s xs n) 3, cf (pfl s xs n) 4, cf (pfl s xs n) 5, cf (pfl s xs n) 6, cf (pfl s xs n) 7, cf (pfl s xs n) 8, cf (pfl s xs n) 9, cf (pfl s xs n) 10, cf (pfl s xs n) 11, cf (pfl s xs n) 12, cf (pfl s xs n) 13, cf (pfl s xs n) 14, cf (pfl s xs n) 15, cf (pfl s xs n) 16, cf (pfl s xs n) 17] = (pfl s xs n).toArray := by
  obtain ⟨a, b, c, d, e, f, g, i, j, k, l, m, n, o, p, q, rfl⟩ := list16 xs hl
  rfl
theorem cf_six (s : Bool) (xs : List Int) : cf (adl s xs) 0 = .bool s := rfl
theorem cf_sixp (s : Bool) (xs : List Int) (n : Int) : cf (pfl s xs n) 0 = .bool s := rfl
theorem cf_len (s : Bool) (xs : List Int) (n : Int) (hl : xs.length = 16) : cf (pfl s xs n) 17 = .int .i64 n := by
  obtain ⟨a, b, c, d, e, f, g, i, j, k, l, m, n, o, p, q, rfl⟩ := list16 xs hl
  rfl

set_option maxRecDepth 100000 in
set_option maxHeartbeats 4000000 in
theorem aRight_any (s : Bool) (xs : List Int) (w : World) (hl : xs.length = 16) (hb : Byt xs) : Calls Tryd.prog 12 #[.agg (adl s xs).toArray] w (Gives w (.bool (rgt s xs))) := by
  have HL := Lib.hid hl
  have HB := Lib.hid hb
  obtain ⟨d0, d1⟩ := dgA_b s
  have hg := guB
  have HR := Lib.hid (adl_range w s xs 24)
  have HB1 := Lib.hid ((Below.refl w.heap.size w).alloc (Nat.le_refl _) (.cells (adl s xs).toArray 24))
  have l3 : ∀ w', (Op.equalIn 10000 22 (.agg (bv (hdL xs (dgA s))).toArray) (.agg (bv xs).toArray)).run Tryd.prog w' = .ok (rgt s xs) w' := fun w' => eqArr w' 9998 _ _ (hdL_len _ _) hl
  clear hl hb
  go_enter Tryd.func12, Tryd.ntmps12
  go_wp2_with fail
  have hr := HR.out
  refine wp_region_held_drew (S := fun w' => World.rangeAt w' w.heap.size 0 (adl s xs)) (by kernel_rfl) hr (fun hS => ?_)
  refine tk 0 3 (.pointer (some ⟨w.heap.size, 1, none⟩)) rfl rfl (by kernel_rfl) (by kernel_rfl) (by kernel_rfl) (fun _ _ _ h => h) (Or.inl ⟨by rfl, fun w' _ => ?_⟩) hS ?_
  · go_simp
  refine tk 1 4 (.agg (bv xs).toArray) rfl rfl (by kernel_rfl) (by kernel_rfl) (by kernel_rfl) (fun _ _ _ h => h) (yieldsIf_load_mid (by rfl) _ _ rfl w.heap.size 1 rfl (bv xs) _ (fun w' h => adl_bytes h) Tryd.underlying22 rfl (by rw [bv_length, HL.out]; exact inf16)) hS ?_
  refine tk 2 5 (.agg (adl s xs).toArray) rfl rfl (by kernel_rfl) (by kernel_rfl) (by kernel_rfl) (fun _ _ _ h => h) (yieldsIf_load_mid (by rfl) _ _ rfl w.heap.size 0 rfl (adl s xs) _ (fun w' h => h) Tryd.underlying24 rfl (by rw [adl_len s xs HL.out]; exact infA)) hS ?_
  refine tk 5 8 (.pointer (some ⟨w.heap.size, 1, none⟩)) rfl rfl (by kernel_rfl) (by kernel_rfl) (by kernel_rfl) (fun _ _ _ h => h) (Or.inl ⟨by rfl, fun w' _ => ?_⟩) hS ?_
  · go_simp
  refine tk 6 9 (.agg (bv xs).toArray) rfl rfl (by kernel_rfl) (by kernel_rfl) (by kernel_rfl) (fun _ _ _ h => h) (yieldsIf_load_mid (by rfl) _ _ rfl w.heap.size 1 rfl (bv xs) _ (fun w' h => adl_bytes h) Tryd.underlying22 rfl (by rw [bv_length, HL.out]; exact inf16)) hS ?_
  simp only [Act.put, List.setIfInBounds_toArray, List.set_cons_zero, List.set_cons_succ]
  refine wpAnyH_ready (rs := [3]) (by kernel_rfl) (by simp) (AllReadyH.cons rfl (fun K hK => ?_) AllReadyH.nil)
  rw [if_pos (by rfl)]
  go_wp2_with fail
  refine (aDigits_any s xs _ HL.out).mono ?_
  rintro e wa ⟨rfl, hba'⟩
  have hra := range_kept (undrew hba') hr
  have HBa := Lib.hid (HB1.out.trans ((undrew hba').mono (by simp)))
  clear hba' hS
  refine hK.out _ _ hra (fun hS => ?_)
  clear hK K
  refine wpAnyH_ready (rs := [4]) (by kernel_rfl) (by simp) (AllReadyH.cons rfl (fun K hK => ?_) AllReadyH.nil)
  rw [if_pos (by rfl)]
  go_wp2_with fail
  refine (aHead_any xs _ _ HL.out HB.out (by omega) (by omega)).mono ?_
  rintro e wb ⟨rfl, hbb⟩
  have hrb := range_kept hbb hra
  have HBb := Lib.hid (HBa.out.trans (hbb.mono HBa.out.size))
  clear hbb hra hS
  refine hK.out _ _ hrb (fun hS => ?_)
  clear hK K
  refine tk 7 10 (.bool (rgt s xs)) rfl rfl (by kernel_rfl) (by kernel_rfl) (by kernel_rfl) (fun _ _ _ h => h) (Or.inl ⟨by rfl, fun w' _ => ?_⟩) hS ?_
  · go_simp
  refine tk 8 2 (.bool (rgt s xs)) rfl rfl (by kernel_rfl) (by kernel_rfl) (by kernel_rfl) (fun _ _ _ h => h) (Or.inl ⟨by rfl, fun w' _ => ?_⟩) hS ?_
  · go_simp
  simp only [Act.put, List.setIfInBounds_toArray, List.set_cons_zero, List.set_cons_succ]
  refine wpAnyH_done (by kernel_rfl) ?_ _
  go_wp2_with fail
  go_ret
  exact ⟨rfl, HBb.out⟩
end Go.Proofs.YtbnfmiopgjmppaaDoor

/-
  The contracts of what prefixes are asked: Right, Has. Conditions: sixteen bytes each, numbers of an int. (Made by gen_adp.py.)
-/
import Derived.Test.YtbnfmiopgjmppaaDoorAdCut
namespace Go.Proofs.YtbnfmiopgjmppaaDoor
open Go.RowKit

/-- What an address is cut to, part by part. -/
def ctS (s : Bool) (xs : List Int) : Bool := if rgt s xs then s else false
def ctX (s : Bool) (xs : List Int) (n : Int) : List Int := if rgt s xs then hdL xs (clm s n) else zs 16
def ctN (s : Bool) (xs : List Int) (n : Int) : Int := if rgt s xs then clm s n else 0
theorem cutV_eq (s : Bool) (xs : List Int) (n : Int) : cutV s xs n = pfl (ctS s xs) (ctX s xs n) (ctN s xs n) := by
  unfold cutV ctS ctX ctN
  cases rgt s xs <;> rfl
theorem ctX_len (s : Bool) (xs : List Int) (n : Int) : (ctX s xs n).length = 16 := by
  unfold ctX
  split
  · exact hdL_len _ _
  · exact zs_length 16
/-- Is a prefix right? -/
def prt (s : Bool) (xs : List Int) (n : Int) : Bool := decide ((ctS s xs = s ∧ ctX s xs n = xs) ∧ ctN s xs n = n)
/-- Has a prefix an address? -/
def phs (s : Bool) (xs : List Int) (n : Int) (t : Bool) (ys : List Int) : Bool := rgt t ys && decide ((ctS t ys = s ∧ ctX t ys n = xs) ∧ ctN t ys n = n)

theorem pfl_range (w : World) (s : Bool) (xs : List Int) (n : Int) (t : TypeId) : (w.alloc (.cells (pfl s xs n).toArray t)).rangeAt w.heap.size 0 (pfl s xs n) := fun j v hv => by
  rw [cell_of_row _ w.heap.size (0 + j) _ t (0, 0) (Blk_new w _ _)]; simpa using hv
theorem pfl_adl {w : World} {b : Nat} {s : Bool} {xs : List Int} {n : Int} (h : w.rangeAt b 0 (pfl s xs n)) : w.rangeAt b 0 (adl s xs) := fun j v hv => by
  refine h j v ?_
  have hj : j < (adl s xs).length := (List.getElem?_eq_some_iff.1 hv).1
  rw [show pfl s xs n = adl s xs ++ [.int .i64 n] from rfl, List.getElem?_append_left hj]
  exact hv
theorem pfl_n {w : World} {b : Nat} {s : Bool} {xs : List Int} {n : Int} (h : w.rangeAt b 0 (pfl s xs n)) (hl : xs.length = 16) : w.cell? ⟨b, 17, none⟩ = some (.int .i64 n) := by
  have := h 17 (.int .i64 n) (by simp [pfl, bv, hl])
  exact this

set_option maxRecDepth 100000 in
set_option maxHeartbeats 4000000 in
theorem pRight_any (s : Bool) (xs : List Int) (n : Int) (w : World) (hl : xs.length = 16) (hb : Byt xs) : Calls Tryd.prog 28 #[.agg (pfl s xs n).toArray] w (Gives w (.bool (prt s xs n))) := by
  have HL := Lib.hid hl
  have HB := Lib.hid hb
  have hg := guP
  have l3 : ∀ w', (Op.equalIn 10000 48 (.agg (pfl (ctS s xs) (ctX s xs n) (ctN s xs n)).toArray) (.agg (pfl s xs n).toArray)).run Tryd.prog w' = .ok (prt s xs n) w' := fun w' => eqP w' 9996 _ _ _ _ _ _ (ctX_len _ _ _) hl
  have HB1 := Lib.hid ((Below.refl w.heap.size w).alloc (Nat.le_refl _) (.cells (pfl s xs n).toArray 48))
  have HR := Lib.hid (pfl_range w s xs n 48)
  clear hl hb
  go_enter Tryd.func28, Tryd.ntmps28
  go_wp2_with fail
  have hr := HR.out
  refine wp_region_held_drew (S := fun w' => World.rangeAt w' w.heap.size 0 (pfl s xs n)) (by kernel_rfl) hr (fun hS => ?_)
  refine tk 0 3 (.pointer (some ⟨w.heap.size, 0, none⟩)) rfl rfl (by kernel_rfl) (by kernel_rfl) (by kernel_rfl) (fun _ _ _ h => h) (Or.inl ⟨by rfl, fun w' h => ?_⟩) hS ?_
  · go_simp
  refine tk 1 4 (.agg (adl s xs).toArray) rfl rfl (by kernel_rfl) (by kernel_rfl) (by kernel_rfl) (fun _ _ _ h => h) (yieldsIf_load_mid (by rfl) _ _ rfl (w.heap.size) 0 rfl (adl s xs) _ (fun w' h => pfl_adl h) Tryd.underlying24 rfl (by rw [adl_len _ _ HL.out]; exact infA)) hS ?_
  refine tk 2 5 (.pointer (some ⟨w.heap.size, 17, none⟩)) rfl rfl (by kernel_rfl) (by kernel_rfl) (by kernel_rfl) (fun _ _ _ h => h) (Or.inl ⟨by rfl, fun w' h => ?_⟩) hS ?_
  · go_simp
  refine tk 3 6 (.int .i64 n) rfl rfl (by kernel_rfl) (by kernel_rfl) (by kernel_rfl) (fun _ _ _ h => h) (Or.inl ⟨by rfl, fun w' h => ?_⟩) hS ?_
  · have hc := pfl_n h HL.out
    go_simp
  refine tk 5 8 (.agg (pfl s xs n).toArray) rfl rfl (by kernel_rfl) (by kernel_rfl) (by kernel_rfl) (fun _ _ _ h => h) (yieldsIf_load_mid (by rfl) _ _ rfl (w.heap.size) 0 rfl (pfl s xs n) _ (fun w' h => h) Tryd.underlying48 rfl (by rw [pfl_len _ _ _ HL.out]; exact infP)) hS ?_
  simp only [Act.put, List.setIfInBounds_toArray, List.set_cons_zero, List.set_cons_succ]
  refine wpAnyH_ready (rs := [4]) (by kernel_rfl) (by simp) (AllReadyH.cons rfl (fun K hK => ?_) AllReadyH.nil)
  rw [if_pos (by rfl)]
  go_wp2_with fail
  refine (aCut_any s xs n _ HL.out HB.out).mono ?_
  rintro e wa ⟨rfl, hba'⟩
  rw [cutV_eq]
  have hra := range_kept (undrew hba') hr
  have HBa := Lib.hid (HB1.out.trans ((undrew hba').mono (by simp)))
  clear hba'
  clear hS
  refine hK.out _ _ hra (fun hS => ?_)
  clear hK K
  refine tk 6 9 (.bool (prt s xs n)) rfl rfl (by kernel_rfl) (by kernel_rfl) (by kernel_rfl) (fun _ _ _ h => h) (Or.inl ⟨by rfl, fun w' h => ?_⟩) hS ?_
  · go_simp
  refine tk 7 2 (.bool (prt s xs n)) rfl rfl (by kernel_rfl) (by kernel_rfl) (by kernel_rfl) (fun _ _ _ h => h) (Or.inl ⟨by rfl, fun w' h => ?_⟩) hS ?_
  · go_simp
  simp only [Act.put, List.setIfInBounds_toArray, List.set_cons_zero, List.set_cons_succ]
  refine wpAnyH_done (by kernel_rfl) ?_ _
  go_wp2_with fail
  go_ret
  exact ⟨rfl, HBa.out⟩

set_option maxRecDepth 100000 in
set_option maxHeartbeats 4000000 in
theorem pHas_right (s : Bool) (xs : List Int) (n : Int) (t : Bool) (ys : List Int) (w : World) (hl : xs.length = 16) (hm : ys.length = 16) (hb : Byt ys) (hr : rgt t ys = true) : Calls Tryd.prog 29 #[.agg (pfl s xs n).toArray, .agg (adl t ys).toArray] w (Gives w (.bool (phs s xs n t ys))) := by
  have HL := Lib.hid hl
  have HM := Lib.hid hm
  have HB := Lib.hid hb
  have HR := Lib.hid hr
  have hg := guP
  have l3 : ∀ w', (Op.equalIn 10000 48 (.agg (pfl (ctS t ys) (ctX t ys n) (ctN t ys n)).toArray) (.agg (pfl s xs n).toArray)).run Tryd.prog w' = .ok (phs s xs n t ys) w' := fun w' => by
    rw [phs, hr]; exact eqP w' 9996 _ _ _ _ _ _ (ctX_len _ _ _) hl
  have HB1 := Lib.hid (((Below.refl w.heap.size w).alloc (Nat.le_refl _) (.cells (pfl s xs n).toArray 48)).alloc (by simp) (.cells (adl t ys).toArray 24))
  have hr1 : ((w.alloc (.cells (pfl s xs n).toArray 48)).alloc (.cells (adl t ys).toArray 24)).rangeAt w.heap.size 0 (pfl s xs n) := World.rangeAt_alloc (pfl_range w s xs n 48) _
  have hr2 : ((w.alloc (.cells (pfl s xs n).toArray 48)).alloc (.cells (adl t ys).toArray 24)).rangeAt (w.heap.size + 1) 0 (adl t ys) := by
    have := adl_range (w.alloc (.cells (pfl s xs n).toArray 48)) t ys 24
    simpa using this
  have HS1 := Lib.hid (And.intro hr1 hr2)
  clear hl hm hb hr hr1 hr2
  go_enter Tryd.func29, Tryd.ntmps29
  go_wp2_with fail
  have hr := HS1.out
  refine wp_region_held_drew (S := fun w' => World.rangeAt w' w.heap.size 0 (pfl s xs n) ∧ World.rangeAt w' (w.heap.size + 1) 0 (adl t ys)) (by kernel_rfl) hr (fun hS => ?_)
  refine tk 0 5 (.agg (adl t ys).toArray) rfl rfl (by kernel_rfl) (by kernel_rfl) (by kernel_rfl) (fun _ _ _ h => h) (yieldsIf_load_mid (by rfl) _ _ rfl (w.heap.size + 1) 0 rfl (adl t ys) _ (fun w' h => h.2) Tryd.underlying24 rfl (by rw [adl_len _ _ HM.out]; exact infA)) hS ?_
  simp only [Act.put, List.setIfInBounds_toArray, List.set_cons_zero, List.set_cons_succ]
  refine wpAnyH_ready (rs := [1]) (by kernel_rfl) (by simp) (AllReadyH.cons rfl (fun K hK => ?_) AllReadyH.nil)
  rw [if_pos (by rfl)]
  go_wp2_with fail
  refine (aRight_any t ys _ HM.out HB.out).mono ?_
  rintro e wa ⟨rfl, hba'⟩
  rw [HR.out]
  have hra := And.intro (range_kept (undrew hba') hr.1) (range_kept (undrew hba') hr.2)
  have HBa := Lib.hid (HB1.out.trans ((undrew hba').mono (by simp; omega)))
  clear hba'
  clear hS
  refine hK.out _ _ hra (fun hS => ?_)
  clear hK K
  refine tk 2 7 (.bool true) rfl rfl (by kernel_rfl) (by kernel_rfl) (by kernel_rfl) (fun _ _ _ h => h) (Or.inl ⟨by rfl, fun w' h => ?_⟩) hS ?_
  · go_simp
  refine tk 3 8 (.agg (adl t ys).toArray) rfl rfl (by kernel_rfl) (by kernel_rfl) (by kernel_rfl) (fun _ _ _ h => h) (yieldsIf_load_mid (by rfl) _ _ rfl (w.heap.size + 1) 0 rfl (adl t ys) _ (fun w' h => h.2) Tryd.underlying24 rfl (by rw [adl_len _ _ HM.out]; exact infA)) hS ?_
  refine tk 4 9 (.pointer (some ⟨w.heap.size, 17, none⟩)) rfl rfl (by kernel_rfl) (by kernel_rfl) (by kernel_rfl) (fun _ _ _ h => h) (Or.inl ⟨by rfl, fun w' h => ?_⟩) hS ?_
  · go_simp
  refine tk 5 10 (.int .i64 n) rfl rfl (by kernel_rfl) (by kernel_rfl) (by kernel_rfl) (fun _ _ _ h => h) (Or.inl ⟨by rfl, fun w' h => ?_⟩) hS ?_
  · have hc := pfl_n h.1 HL.out
    go_simp
  refine tk 7 12 (.agg (pfl s xs n).toArray) rfl rfl (by kernel_rfl) (by kernel_rfl) (by kernel_rfl) (fun _ _ _ h => h) (yieldsIf_load_mid (by rfl) _ _ rfl (w.heap.size) 0 rfl (pfl s xs n) _ (fun w' h => h.1) Tryd.underlying48 rfl (by rw [pfl_len _ _ _ HL.out]; exact infP)) hS ?_
  simp only [Act.put, List.setIfInBounds_toArray, List.set_cons_zero, List.set_cons_succ]
  refine wpAnyH_ready (rs := [6]) (by kernel_rfl) (by simp) (AllReadyH.cons rfl (fun K hK => ?_) AllReadyH.nil)
  rw [if_pos (by rfl)]
  go_wp2_with fail
  refine (aCut_any t ys n _ HM.out HB.out).mono ?_
  rintro e wb ⟨rfl, hbb⟩
  rw [cutV_eq]
  have hrb := And.intro (range_kept hbb hra.1) (range_kept hbb hra.2)
  have HBb := Lib.hid (HBa.out.trans (hbb.mono HBa.out.size))
  clear hbb
  clear hS
  refine hK.out _ _ hrb (fun hS => ?_)
  clear hK K
  refine tk 8 13 (.bool (phs s xs n t ys)) rfl rfl (by kernel_rfl) (by kernel_rfl) (by kernel_rfl) (fun _ _ _ h => h) (Or.inl ⟨by rfl, fun w' h => ?_⟩) hS ?_
  · go_simp
  refine tk 9 14 (.bool (phs s xs n t ys)) rfl rfl (by kernel_rfl) (by kernel_rfl) (by kernel_rfl) (fun _ _ _ h => h) (Or.inl ⟨by rfl, fun w' h => ?_⟩) hS ?_
  · go_simp
  refine tk 10 4 (.bool (phs s xs n t ys)) rfl rfl (by kernel_rfl) (by kernel_rfl) (by kernel_rfl) (fun _ _ _ h => h) (Or.inl ⟨by rfl, fun w' h => ?_⟩) hS ?_
  · go_simp
  simp only [Act.put, List.setIfInBounds_toArray, List.set_cons_zero, List.set_cons_succ]
  refine wpAnyH_done (by kernel_rfl) ?_ _
  go_wp2_with fail
  go_ret
  exact ⟨rfl, HBb.out⟩

set_option maxRecDepth 100000 in
set_option maxHeartbeats 4000000 in
theorem pHas_not (s : Bool) (xs : List Int) (n : Int) (t : Bool) (ys : List Int) (w : World) (hl : xs.length = 16) (hm : ys.length = 16) (hb : Byt ys) (hr : rgt t ys = false) : Calls Tryd.prog 29 #[.agg (pfl s xs n).toArray, .agg (adl t ys).toArray] w (Gives w (.bool (phs s xs n t ys))) := by
  have HL := Lib.hid hl
  have HM := Lib.hid hm
  have HB := Lib.hid hb
  have HR := Lib.hid hr
  have hg := guP
  have HF : Hid (phs s xs n t ys = false) := by rw [phs, hr]; rfl
  have HB1 := Lib.hid (((Below.refl w.heap.size w).alloc (Nat.le_refl _) (.cells (pfl s xs n).toArray 48)).alloc (by simp) (.cells (adl t ys).toArray 24))
  have hr1 : ((w.alloc (.cells (pfl s xs n).toArray 48)).alloc (.cells (adl t ys).toArray 24)).rangeAt w.heap.size 0 (pfl s xs n) := World.rangeAt_alloc (pfl_range w s xs n 48) _
  have hr2 : ((w.alloc (.cells (pfl s xs n).toArray 48)).alloc (.cells (adl t ys).toArray 24)).rangeAt (w.heap.size + 1) 0 (adl t ys) := by
    have := adl_range (w.alloc (.cells (pfl s xs n).toArray 48)) t ys 24
    simpa using this
  have HS1 := Lib.hid (And.intro hr1 hr2)
  clear hl hm hb hr hr1 hr2
  go_enter Tryd.func29, Tryd.ntmps29
  go_wp2_with fail
  have hr := HS1.out
  refine wp_region_held_drew (S := fun w' => World.rangeAt w' w.heap.size 0 (pfl s xs n) ∧ World.rangeAt w' (w.heap.size + 1) 0 (adl t ys)) (by kernel_rfl) hr (fun hS => ?_)
  refine tk 0 5 (.agg (adl t ys).toArray) rfl rfl (by kernel_rfl) (by kernel_rfl) (by kernel_rfl) (fun _ _ _ h => h) (yieldsIf_load_mid (by rfl) _ _ rfl (w.heap.size + 1) 0 rfl (adl t ys) _ (fun w' h => h.2) Tryd.underlying24 rfl (by rw [adl_len _ _ HM.out]; exact infA)) hS ?_
  simp only [Act.put, List.setIfInBounds_toArray, List.set_cons_zero, List.set_cons_succ]
  refine wpAnyH_ready (rs := [1]) (by kernel_rfl) (by simp) (AllReadyH.cons rfl (fun K hK => ?_) AllReadyH.nil)
  rw [if_pos (by rfl)]
  go_wp2_with fail
  refine (aRight_any t ys _ HM.out HB.out).mono ?_
  rintro e wa ⟨rfl, hba'⟩
  rw [HR.out]
  have hra := And.intro (range_kept (undrew hba') hr.1) (range_kept (undrew hba') hr.2)
  have HBa := Lib.hid (HB1.out.trans ((undrew hba').mono (by simp; omega)))
  clear hba'
  clear hS
  refine hK.out _ _ hra (fun hS => ?_)
  clear hK K
  refine tk 2 7 (.bool false) rfl rfl (by kernel_rfl) (by kernel_rfl) (by kernel_rfl) (fun _ _ _ h => h) (Or.inl ⟨by rfl, fun w' h => ?_⟩) hS ?_
  · go_simp
  refine tk 3 8 undef rfl rfl (by kernel_rfl) (by kernel_rfl) (by kernel_rfl) (fun _ _ _ h => h) (Or.inr ⟨by rfl, rfl⟩) hS ?_
  refine tk 4 9 undef rfl rfl (by kernel_rfl) (by kernel_rfl) (by kernel_rfl) (fun _ _ _ h => h) (Or.inr ⟨by rfl, rfl⟩) hS ?_
  refine tk 5 10 undef rfl rfl (by kernel_rfl) (by kernel_rfl) (by kernel_rfl) (fun _ _ _ h => h) (Or.inr ⟨by rfl, rfl⟩) hS ?_
  refine tk 6 11 undef rfl rfl (by kernel_rfl) (by kernel_rfl) (by kernel_rfl) (fun _ _ _ h => h) (Or.inr ⟨by rfl, rfl⟩) hS ?_
  refine tk 7 12 undef rfl rfl (by kernel_rfl) (by kernel_rfl) (by kernel_rfl) (fun _ _ _ h => h) (Or.inr ⟨by rfl, rfl⟩) hS ?_
  refine tk 8 13 undef rfl rfl (by kernel_rfl) (by kernel_rfl) (by kernel_rfl) (fun _ _ _ h => h) (Or.inr ⟨by rfl, rfl⟩) hS ?_
  refine tk 9 14 (.bool false) rfl rfl (by kernel_rfl) (by kernel_rfl) (by kernel_rfl) (fun _ _ _ h => h) (Or.inl ⟨by rfl, fun w' h => ?_⟩) hS ?_
  · go_simp
  refine tk 10 4 (.bool false) rfl rfl (by kernel_rfl) (by kernel_rfl) (by kernel_rfl) (fun _ _ _ h => h) (Or.inl ⟨by rfl, fun w' h => ?_⟩) hS ?_
  · go_simp
  simp only [Act.put, List.setIfInBounds_toArray, List.set_cons_zero, List.set_cons_succ]
  refine wpAnyH_done (by kernel_rfl) ?_ _
  go_wp2_with fail
  go_ret
  exact ⟨by rw [HF.out]; rfl, HBa.out⟩

theorem pHas_any (s : Bool) (xs : List Int) (n : Int) (t : Bool) (ys : List Int) (w : World) (hl : xs.length = 16) (hm : ys.length = 16) (hb : Byt ys) : Calls Tryd.prog 29 #[.agg (pfl s xs n).toArray, .agg (adl t ys).toArray] w (Gives w (.bool (phs s xs n t ys))) := by
  cases hr : rgt t ys with
  | true => exact pHas_right s xs n t ys w hl hm hb hr
  | false => exact pHas_not s xs n t ys w hl hm hb hr
end Go.Proofs.YtbnfmiopgjmppaaDoor

/-
  The contract of firstOption of package ip. Conditions: bytes that lie where the slice leads, fewer than a million, at least one.
-/
import Derived.Test.YtjnbnjdajkhkpaaIpParse
namespace Go.Proofs.Ytjnbnjdajkhkpaa
open Go.RowKit

/-- An option's cells. -/
def ocs (k : Int) (a : Option Addr) (n c : Nat) : List Value := [.int .u8 k, .slice a n c]
theorem infO : (Try.prog.info? 54).map (·.size) = some 2 := by kernel_rfl
theorem builtO0 : Try.prog.built 54 [] = some (ocs 0 none 0 0).toArray := by kernel_rfl
theorem builtO (k : Int) (a : Option Addr) (n c : Nat) : Try.prog.built 54 [(0, .int .u8 k), (1, .slice a n c)] = some (ocs k a n c).toArray := by kernel_rfl
theorem ocs_one (k : Int) (a : Option Addr) (n c : Nat) : ∀ v ∈ ocs k a n c, v.oneCell' = true := by intro v hv; simp [ocs] at hv; rcases hv with rfl | rfl <;> rfl
theorem run_slice_from2 (w : World) (bb oo n cap s : Nat) (h2 : 2 ≤ s) (hs : s ≤ cap) :
    (Instr.sliceAt 24 (.slice (some ⟨bb, oo, none⟩) n cap) (some (.int .i64 2)) (some (.int .i64 s)) none).run Try.prog w = .ok (.slice (if cap = 2 then some ⟨bb, oo, none⟩ else some ⟨bb, oo + 2, none⟩) (s - 2) (cap - 2)) w := by
  have h3 : (2 : Int) ≤ (s : Int) := by omega
  have h4 : (s : Int) ≤ (cap : Int) := by omega
  have h5 : (0 : Int) ≤ (s : Int) := by omega
  go_simp
/-- May the first option not be? -/
def foB (xs : List Int) : Bool := decide (xs.length < 2) || (decide (xs.getD 1 0 < 2) || decide ((xs.length : Int) < xs.getD 1 0))
def FirstO (w : World) (xs : List Int) (e : Ending) (w' : World) : Prop :=
  Below w.heap.size w w' ∧ ((foB xs = true ∧ e = .returned (.tuple #[.agg (ocs 0 none 0 0).toArray, .int .i64 0, .int .i64 51])) ∨
    (foB xs = false ∧ ∃ a n c, e = .returned (.tuple #[.agg (ocs (xs.getD 0 0) a n c).toArray, .int .i64 (xs.getD 1 0), .int .i64 0]) ∧ Own w' w.heap.size a n c ((xs.drop 2).take ((xs.getD 1 0).toNat - 2))))

set_option maxRecDepth 100000 in
set_option maxHeartbeats 2000000 in
theorem iFirst_any (bb oo n cap : Nat) (xs : List Int) (w : World) (hn : xs.length = n) (hr : Rd w (some ⟨bb, oo, none⟩) xs) (hb : Byt xs) (h1 : 1 ≤ n) (hl : n ≤ 1000000) (hc : n ≤ cap) :
    Calls Try.prog 60 #[.slice (some ⟨bb, oo, none⟩) n cap] w (FirstO w xs) := by
  have HN := Lib.hid hn
  have HB := Lib.hid hb
  have HLT : Hid (bb < w.heap.size) := World.block_lt_of_cell? w ⟨bb, oo + 0, none⟩ (rd_at hr (by omega))
  obtain ⟨wA, hwA⟩ : ∃ x, w.alloc (.cells (ocs 0 none 0 0).toArray 54) = x := ⟨_, rfl⟩
  have hBA : Below w.heap.size w wA := by rw [← hwA]; exact (Below.refl _ _).alloc (Nat.le_refl _) _
  have HBA := Lib.hid hBA
  have HRA := Lib.hid (hr.below hBA)
  have HRG : Hid (wA.rangeAt bb oo (bv xs)) := rd_range (hr.below hBA)
  have hth : (w.alloc (.cells (ocs 0 none 0 0).toArray 54)).there w.heap.size 0 2 := there_new _ _ _ _ rfl _ rfl
  have HTW := Lib.hid hth
  have HTH : Hid (wA.there w.heap.size 0 2) := by rw [← hwA]; exact hth
  have HSZ : Hid (wA.heap.size = w.heap.size + 1) := by rw [← hwA]; show _ = _; simp
  have HZW : Hid (((w.alloc (.cells (ocs 0 none 0 0).toArray 54)).setCells w.heap.size 0 (ocs 0 none 0 0)).rangeAt w.heap.size 0 (ocs 0 none 0 0)) := World.rangeAt_setCells_same _ _ _ _ hth
  have HBZ : Hid (Below w.heap.size w ((w.alloc (.cells (ocs 0 none 0 0).toArray 54)).setCells w.heap.size 0 (ocs 0 none 0 0))) := Below.setCells ((Below.refl _ _).alloc (Nat.le_refl _) _) _ (Nat.le_refl _) _ _
  clear hBA hth
  by_cases h2 : n < 2
  · have HF : Hid (foB xs = true) := by show _ = _; simp only [foB, hn, decide_eq_true h2, Bool.true_or]
    clear hn hr hb
    go_enter Try.func60, Try.ntmps60
    go_wp2_with (first
      | (refine wpList_build_run (cells := (ocs 0 none 0 0).toArray) rfl 54 _ rfl ?_ ?_; · exact builtO0)
      | (refine stC 54 _ _ rfl rfl _ 0 (ocs 0 none 0 0) rfl rfl HTW.out infO (ocs_one _ _ _ _) ?_))
    exact bodyPost_ret (ret_mid3 Try.results60 _ _ _ _ (ocs 0 none 0 0) _ rfl HZW.out Try.underlying54 rfl infO _ _ rfl rfl) rfl ⟨HBZ.out, .inl ⟨HF.out, rfl⟩⟩
  · have hx := hb.get 1
    have c1 := rd_at hr (j := 1) (by omega)
    obtain ⟨s, hs⟩ := Int.eq_ofNat_of_zero_le hx.1
    have HS := Lib.hid hs
    rw [hs] at c1 hx
    have c1' : (w.alloc (.cells #[.int .u8 0, .slice none 0 0] 54)).cell? ⟨bb, oo + 1, none⟩ = some (.int .u8 (s : Int)) := cell_kept ((Below.refl _ _).alloc (Nat.le_refl _) _) c1
    have hs255 : (s : Int) < 256 := hx.2
    have i1 : (1 : Int) < (n : Int) := by omega
    clear c1 hx
    by_cases hbad : s < 2 ∨ n < s
    · have HF : Hid (foB xs = true) := by
        show _ = _
        simp only [foB, hs, Bool.or_eq_true, decide_eq_true_eq, hn]
        omega
      clear hn hr hb hs
      by_cases hs2 : s < 2
      · clear hbad
        go_enter Try.func60, Try.ntmps60
        go_wp2_with (first
          | (refine wpList_build_run (cells := (ocs 0 none 0 0).toArray) rfl 54 _ rfl ?_ ?_; · exact builtO0)
          | (refine stC 54 _ _ rfl rfl _ 0 (ocs 0 none 0 0) rfl rfl HTW.out infO (ocs_one _ _ _ _) ?_))
        exact bodyPost_ret (ret_mid3 Try.results60 _ _ _ _ (ocs 0 none 0 0) _ rfl HZW.out Try.underlying54 rfl infO _ _ rfl rfl) rfl ⟨HBZ.out, .inl ⟨HF.out, rfl⟩⟩
      · have hns : (n : Int) < (s : Int) := by omega
        clear hbad
        go_enter Try.func60, Try.ntmps60
        go_wp2_with (first
          | (refine wpList_build_run (cells := (ocs 0 none 0 0).toArray) rfl 54 _ rfl ?_ ?_; · exact builtO0)
          | (refine stC 54 _ _ rfl rfl _ 0 (ocs 0 none 0 0) rfl rfl HTW.out infO (ocs_one _ _ _ _) ?_))
        exact bodyPost_ret (ret_mid3 Try.results60 _ _ _ _ (ocs 0 none 0 0) _ rfl HZW.out Try.underlying54 rfl infO _ _ rfl rfl) rfl ⟨HBZ.out, .inl ⟨HF.out, rfl⟩⟩
    · have HF : Hid (foB xs = false) := by
        show _ = _
        simp only [foB, hs, Bool.or_eq_false_iff, decide_eq_false_iff_not, hn]
        omega
      have hs2 : 2 ≤ s := by omega
      have hsn : s ≤ n := by omega
      have q1 : ¬ (s : Int) < 2 := by omega
      have q2 : ¬ (n : Int) < (s : Int) := by omega
      have hsl := fun w' => run_slice_from2 w' bb oo n cap s hs2 (by omega)
      obtain ⟨a2, ha2⟩ : ∃ x : Option Addr, (if cap = 2 then some ⟨bb, oo, none⟩ else some ⟨bb, oo + 2, none⟩) = x := ⟨_, rfl⟩
      rw [ha2] at hsl
      have HSL : Hid (Rd wA a2 ((xs.drop 2).take (s - 2))) := by
        show Rd _ _ _
        rw [← ha2]
        by_cases e : cap = 2
        · rw [if_pos e, show s - 2 = 0 by omega]; exact Rd.empty _ _
        · rw [if_neg e]
          exact HRA.out.cut (q := 2) (m := s - 2) (by rw [hn]; omega)
      have HYL : Hid (((xs.drop 2).take (s - 2)).length = s - 2) := by show _ = _; rw [List.length_take, List.length_drop, hn]; omega
      have HX0 : Hid (xs.getD 0 0 = xs.getD 0 0) := rfl
      have HLE1 : Hid (0 < xs.length) := by show _ < _; omega
      have HSS : Hid ((xs.getD 1 0).toNat = s) := by show _ = _; rw [hs]; rfl
      clear hn hr hb hs hbad ha2
      go_enter Try.func60, Try.ntmps60
      go_wp2_with fail
      show Code.wp _ _ _ _ (w.alloc (.cells (ocs 0 none 0 0).toArray 54))
      rw [hwA]
      have hrr := HRG.out
      have i0 : ¬ n = 0 := by omega
      refine wp_region_held_drew (S := fun w' => World.rangeAt w' bb oo (bv xs)) (by kernel_rfl) hrr (fun hS => ?_)
      refine tk 0 23 (.slice (some ⟨bb, oo, none⟩) n cap) rfl rfl (by kernel_rfl) (by kernel_rfl) (by kernel_rfl) (fun _ _ _ h => h) (Or.inl ⟨by rfl, fun w' h => ?_⟩) hS ?_
      · go_simp
      refine tk 1 24 (.pointer (some ⟨bb, oo, none⟩)) rfl rfl (by kernel_rfl) (by kernel_rfl) (by kernel_rfl) (fun _ _ _ h => h) (Or.inl ⟨by rfl, fun w' h => ?_⟩) hS ?_
      · go_simp
      refine tk 2 25 (.int .u8 (xs.getD 0 0)) rfl rfl (by kernel_rfl) (by kernel_rfl) (by kernel_rfl) (fun _ _ _ h => h) (Or.inl ⟨by rfl, fun w' h => ?_⟩) hS ?_
      · have hcell := range_byte h 0 HLE1.out
        rw [Nat.add_zero] at hcell
        go_simp
      refine tk 3 26 (.slice (some ⟨bb, oo, none⟩) n cap) rfl rfl (by kernel_rfl) (by kernel_rfl) (by kernel_rfl) (fun _ _ _ h => h) (Or.inl ⟨by rfl, fun w' h => ?_⟩) hS ?_
      · go_simp
      refine tk 4 27 (.int .i64 s) rfl rfl (by kernel_rfl) (by kernel_rfl) (by kernel_rfl) (fun _ _ _ h => h) (Or.inl ⟨by rfl, fun w' h => ?_⟩) hS ?_
      · go_simp
      refine tk 5 28 (.slice a2 (s - 2) (cap - 2)) rfl rfl (by kernel_rfl) (by kernel_rfl) (by kernel_rfl) (fun _ _ _ h => h) (Or.inl ⟨by rfl, fun w' h => ?_⟩) hS ?_
      · have hq := hsl w'
        go_simp
      refine tk 8 31 (.int .i64 s) rfl rfl (by kernel_rfl) (by kernel_rfl) (by kernel_rfl) (fun _ _ _ h => h) (Or.inl ⟨by rfl, fun w' h => ?_⟩) hS ?_
      · go_simp
      try simp only [Act.put, List.setIfInBounds_toArray, List.set_cons_zero, List.set_cons_succ]
      refine wpAnyH_ready (rs := [6]) (by kernel_rfl) (by simp) (AllReadyH.cons rfl (fun K hK => ?_) AllReadyH.nil)
      rw [if_pos (by rfl)]
      go_wp2_with fail
      refine (iClone_any _ _ _ ((xs.drop 2).take (s - 2)) _ HYL.out HSL.out.drw (by omega)).mono ?_
      rintro e w2 ⟨a3, n3, c3, rfl, hown, hb2⟩
      have hra := range_kept hb2 hS
      have HO2 := Lib.hid hown
      have HB2 := Lib.hid (undrew hb2)
      clear hb2 hown
      clear hS
      refine hK.out _ _ hra (fun hS => ?_)
      clear hK K
      refine tk 7 30 (.agg (ocs (xs.getD 0 0) a3 n3 c3).toArray) rfl rfl (by kernel_rfl) (by kernel_rfl) (by kernel_rfl) (fun _ _ _ h => h) (yields_build (by rfl) _ _ rfl (builtO _ _ _ _)) hS ?_
      try simp only [Act.put, List.setIfInBounds_toArray, List.set_cons_zero, List.set_cons_succ]
      refine wpAnyH_ready (rs := [9]) (by kernel_rfl) (by simp) (AllReadyH.cons rfl (fun K hK => ?_) AllReadyH.nil)
      rw [if_pos (by rfl)]
      refine wp_store_mid 54 _ _ rfl w.heap.size 0 (ocs (xs.getD 0 0) a3 n3 c3).toArray rfl rfl (there_kept HB2.out HTH.out) infO (all_oneCell_toArray (ocs_one _ _ _ _)) ?_
      have hrz : (w2.setCells w.heap.size 0 (ocs (xs.getD 0 0) a3 n3 c3)).rangeAt bb oo (bv xs) := World.rangeAt_setCells_apart hra _ _ _ (.inl (by have := HLT.out; omega))
      clear hS
      refine hK.out _ _ hrz (fun hS => ?_)
      clear hK K
      refine tk 10 3 (.int .i64 s) rfl rfl (by kernel_rfl) (by kernel_rfl) (by kernel_rfl) (fun _ _ _ h => h) (Or.inl ⟨by rfl, fun w' h => ?_⟩) hS ?_
      · go_simp
      refine tk 11 4 (.int .i64 0) rfl rfl (by kernel_rfl) (by kernel_rfl) (by kernel_rfl) (fun _ _ _ h => h) (Or.inl ⟨by rfl, fun w' h => ?_⟩) hS ?_
      · go_simp
      refine wpAnyH_done (by kernel_rfl) ?_ _
      go_wp2_with fail
      refine bodyPost_ret (ret_mid3 Try.results60 _ _ _ _ (ocs (xs.getD 0 0) a3 n3 c3) _ rfl (World.rangeAt_setCells_same _ _ _ _ (there_kept HB2.out HTH.out)) Try.underlying54 rfl infO _ _ rfl rfl) rfl ⟨?_, .inr ⟨HF.out, a3, n3, c3, ?_, ?_⟩⟩
      · exact Below.setCells (HBA.out.trans (HB2.out.mono (by have := HSZ.out; omega))) _ (Nat.le_refl _) _ _
      · rw [HS.out]; rfl
      · have h1 : Own w2 wA.heap.size a3 n3 c3 ((xs.drop 2).take (s - 2)) := HO2.out
        have h2 : wA.heap.size = w.heap.size + 1 := HSZ.out
        rw [HSS.out]
        exact (h1.keep (S := fun k => k = w.heap.size) (Kept.setCells _ _ _ _ (Kept.refl _ _)) (fun k hk e => by have := (h1.blk_ge k hk).1; omega)).mono (by omega)
end Go.Proofs.Ytjnbnjdajkhkpaa

/-
  The contract of the function that reads one of four bytes. Conditions: texts below 2 to the 48.
-/
import Derived.Test.YtbnfmiopgjmppaaDoorAdGl
namespace Go.Proofs.YtbnfmiopgjmppaaDoor
open Go.RowKit

/-- A variable that holds a row of the call's own, with these bytes. -/
def Acc (w : World) (c : Nat) (xs : List Int) : Prop :=
  ∃ a n cap, w.heap[c]? = some (.cells #[.slice a n cap] 25 (0, 0)) ∧ Own w (c + 1) a n cap xs
theorem Acc.new (w : World) : Acc (w.alloc (.cells #[.slice none 0 0] 25)) w.heap.size [] := ⟨none, 0, 0, Blk_new w _ _, Own.nil _ _⟩
/-- Behind a call that makes memory alone. -/
theorem Acc.below {w w' : World} {c : Nat} {xs : List Int} (h : Acc w c xs) (hb : Below w.heap.size w w') : Acc w' c xs := by
  obtain ⟨a, n, cap, h1, h2⟩ := h
  refine ⟨a, n, cap, ?_, h2.keep (S := fun _ => False) (Kept.of_below hb (fun i hi hi' => by omega)) (fun _ _ => id)⟩
  rw [hb.block c (Array.getElem?_eq_some_iff.1 h1).1]; exact h1

/-- What is answered: the row has one more, and whether it is one of four bytes. -/
def FourR (w : World) (c : Nat) (xs : List Int) (l : List UInt8) (e : Ending) (w' : World) : Prop :=
  ∃ z ok, e = .returned (.bool ok) ∧ Acc w' c (xs ++ [z]) ∧ Below c w w' ∧ (ok = true ↔ (numS l = some z ∧ 0 ≤ z ∧ z ≤ 255 ∧ xs.length + 1 ≤ 4)) ∧ (∀ u, numS l = some u → 0 ≤ u → u ≤ 255 → z = u)

set_option maxRecDepth 100000 in
set_option maxHeartbeats 2000000 in
theorem aReadFour1_any (s : ByteArray) (c : Nat) (xs : List Int) (w : World) (hg : Gl w) (hs : s.size ≤ 281474976710656) (ha : Acc w c xs) (hx : xs.length ≤ 4) :
    Calls Tryd.prog 57 #[.string s, .pointer (some ⟨c, 0, none⟩)] w (FourR w c xs s.data.toList) := by
  have HG := Lib.hid hg
  have HS := Lib.hid hs
  have HA := Lib.hid ha
  clear hg hs ha
  go_enter Tryd.func57, Tryd.ntmps57
  go_wp2_with fail
  refine (aNumber_any s _ HG.out HS.out).mono ?_
  rintro e w1 ⟨v, rfl, hv, ⟨v0, v1⟩, hb1⟩
  obtain ⟨a0, n0, cap0, hc0, _⟩ := HA.out
  have hlt : c < w.heap.size := (Array.getElem?_eq_some_iff.1 hc0).1
  obtain ⟨a, n, cap, hc, ho⟩ := HA.out.below hb1
  have hn : n ≤ 4 := by rw [← ho.len]; exact hx
  have hsz := hb1.size
  have hcell : w1.cell? ⟨c, 0, none⟩ = some (.slice a n cap) := by rw [cell_of_row w1 c 0 _ _ (0, 0) hc]; rfl
  have hbc : ∀ k, blk a = some k → ¬ k = c := fun k hk e => by have := (ho.blk_ge k hk).1; omega
  obtain ⟨a2, cap2, w2, hrun, hown, hgr, _⟩ := run_append_rd (w1.alloc (.cells #[.int .u8 (v % 256)] 5)) (c + 1) 25 (ho.keep (S := fun _ => False) (Kept.alloc _ _ _) (fun _ _ => id)) 1 (m := 1) (by rfl) (Rd.one w1 (v % 256)) (by omega) (by simp; omega)
  have hc2 : w2.heap[c]? = some (.cells #[.slice a n cap] 25 (0, 0)) := by
    rw [hgr.block c (by simp; omega) (fun e => hbc c e.symm rfl), Below.heap_alloc w1 _ c (by omega)]
    exact hc
  have hcell2 : w2.cell? ⟨c, 0, none⟩ = some (.slice a n cap) := by rw [cell_of_row w2 c 0 _ _ (0, 0) hc2]; rfl
  have hfr2 := frozen_of_row w2 c 0 _ _ hc2
  have HR := Lib.hid hrun
  have HAC : Hid (Acc (w2.setCell ⟨c, 0, none⟩ (.slice a2 (n + 1) cap2)) c (xs ++ [v % 256])) := by
    refine ⟨a2, n + 1, cap2, ?_, ?_⟩
    · rw [heap_setCell_same w2 c 0 _ _ _ hc2]; rfl
    · exact hown.keep (S := fun k => k = c) (Kept.setCell _ _ _ rfl) (fun k hk e => by have := (hown.blk_ge k hk).1; omega)
  have HBE : Hid (Below c w (w2.setCell ⟨c, 0, none⟩ (.slice a2 (n + 1) cap2))) := by
    have h1 : Below c w w1 := hb1.mono (by omega)
    have h2 : Below c w (w1.alloc (.cells #[.int .u8 (v % 256)] 5)) := h1.alloc (by omega) _
    exact (h2.grown hgr (by simp; omega) (fun k hk => by have := (ho.blk_ge k hk).1; omega)).setCell (p := ⟨c, 0, none⟩) (Nat.le_refl _) _
  have HV := Lib.hid hv
  have HLN := Lib.hid ho.len
  clear hv hb1 hc0 hc ho hbc hrun hown hgr hc2 HA HG HS
  have key : ∀ ok : Bool, (ok = true ↔ ((numS s.data.toList).isSome = true ∧ 0 ≤ v ∧ v ≤ 255 ∧ n + 1 ≤ 4)) → FourR w c xs s.data.toList (.returned (.bool ok)) (w2.setCell ⟨c, 0, none⟩ (.slice a2 (n + 1) cap2)) := fun ok h => by
    refine ⟨v % 256, ok, rfl, HAC.out, HBE.out, h.trans ?_, fun u hu h0 h1 => by have := HV.out u hu; omega⟩
    rw [HLN.out]
    constructor
    · rintro ⟨h1, h2, h3, h4⟩
      obtain ⟨u, hu⟩ := Option.isSome_iff_exists.1 h1
      have := HV.out u hu
      rw [show v % 256 = v by omega]
      exact ⟨by rw [hu, this], h2, h3, h4⟩
    · rintro ⟨h1, h2, h3, h4⟩
      have := HV.out _ h1
      exact ⟨by rw [h1]; rfl, by omega, by omega, h4⟩
  have HK := Lib.hid key
  clear key
  obtain ⟨t, ht⟩ : ∃ t, (numS s.data.toList).isSome = t := ⟨_, rfl⟩
  rw [ht] at HK ⊢
  clear ht
  cases t
  · go_wp2_with (at_builtin; refine Lib.wpList_append_run _ rfl _ _ _ _ rfl _ _ rfl rfl _ _ HR.out ?_)
    go_ret
    exact HK.out _ (by simp)
  · by_cases h0 : 0 ≤ v
    · by_cases h1 : v ≤ 255
      · rw [show v % 256 = v by omega] at HR
        by_cases h2 : n + 1 ≤ 4
        · have q1 : n ≤ 3 := by omega
          have q2 : (n : Int) ≤ 3 := by omega
          have q3 : (n : Int) + 1 ≤ 4 := by omega
          go_wp2_with (at_builtin; refine Lib.wpList_append_run _ rfl _ _ _ _ rfl _ _ rfl rfl _ _ HR.out ?_)
          go_ret
          exact HK.out true (by simp; omega)
        · have q1 : n = 4 := by omega
          subst q1
          go_wp2_with (at_builtin; refine Lib.wpList_append_run _ rfl _ _ _ _ rfl _ _ rfl rfl _ _ HR.out ?_)
          go_ret
          exact HK.out false (by simp)
      · go_wp2_with (at_builtin; refine Lib.wpList_append_run _ rfl _ _ _ _ rfl _ _ rfl rfl _ _ HR.out ?_)
        go_ret
        exact HK.out false (by simp; omega)
    · go_wp2_with (at_builtin; refine Lib.wpList_append_run _ rfl _ _ _ _ rfl _ _ rfl rfl _ _ HR.out ?_)
      go_ret
      exact HK.out false (by simp; omega)
end Go.Proofs.YtbnfmiopgjmppaaDoor

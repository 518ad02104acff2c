/-
  The contract of the function that reads one of eight groups. Conditions: texts below 2 to the 48; the library's variables hold what they should.
-/
import Derived.Test.YtbnfmiopgjmppaaDoorAdRp
namespace Go.Proofs.YtbnfmiopgjmppaaDoor
open Go.RowKit

/-- One of eight groups is read. -/
def stp6 (xs : List Int) (x : Tx) : Option (List Int) := match hexO x with
  | some v => if xs.length + 2 ≤ 16 then some (xs ++ [((v / 256 : Nat) : Int), ((v % 256 : Nat) : Int)]) else none
  | none => none
theorem Rd.two (w : World) (x y : Int) : Rd (w.alloc (.cells #[.int .u8 x, .int .u8 y] 5)) (some ⟨w.heap.size, 0, none⟩) [x, y] := by
  intro _
  refine ⟨w.heap.size, 0, rfl, fun i hi => ?_⟩
  rw [cell_of_row _ w.heap.size (0 + i) _ 5 (0, 0) (Blk_new w _ _)]
  have : i = 0 ∨ i = 1 := by simp at hi; omega
  rcases this with rfl | rfl <;> rfl
/-- What is answered: the row has two more, and whether they are those of a group, and not too many. -/
def Put6R (w : World) (c : Nat) (xs : List Int) (l : Tx) (e : Ending) (w' : World) : Prop :=
  ∃ z1 z2 ok, e = .returned (.bool ok) ∧ Acc w' c (xs ++ [z1, z2]) ∧ Below c w w' ∧ ((stp6 xs l = some (xs ++ [z1, z2]) ∧ ok = true) ∨ (stp6 xs l = none ∧ ok = false))
set_option maxRecDepth 100000 in
set_option maxHeartbeats 2000000 in
theorem aPut6_any (l : Tx) (c : Nat) (xs : List Int) (w : World) (hg : Gl w) (hs : l.length ≤ 281474976710656) (ha : Acc w c xs) (hx : xs.length ≤ 16) :
    Calls Tryd.prog 58 #[.string ⟨l.toArray⟩, .pointer (some ⟨c, 0, none⟩)] w (Put6R w c xs l) := by
  have HG := Lib.hid hg
  have HS := Lib.hid hs
  have HA := Lib.hid ha
  clear hg hs ha
  go_enter Tryd.func58, Tryd.ntmps58
  go_wp2_with fail
  refine (aGroup_any l _ HG.out HS.out).mono ?_
  rintro e w1 ⟨v, rfl, hv6, hv, hb1⟩
  have hlt : c < w.heap.size := HA.out.sz
  obtain ⟨a, n, cap, hc, ho⟩ := HA.out.below hb1
  have hn : n ≤ 16 := by rw [← ho.len]; exact hx
  have hsz := hb1.size
  have hcell : w1.cell? ⟨c, 0, none⟩ = some (.slice a n cap) := by rw [cell_of_row w1 c 0 _ _ (0, 0) hc]; rfl
  have hbc : ∀ k, blk a = some k → ¬ k = c := fun k hk e => by have := (ho.blk_ge k hk).1; omega
  obtain ⟨q, hq⟩ : ∃ q, v / 256 = q := ⟨_, rfl⟩
  obtain ⟨r, hr⟩ : ∃ r, v % 256 = r := ⟨_, rfl⟩
  have hqi : (v : Int) / 256 = (q : Int) := by omega
  have hri : (v : Int) % 256 = (r : Int) := by omega
  have q0 : q < 256 := by omega
  have q1 : (q : Int) ≤ 255 := by omega
  have qm : (q : Int) % 256 = q := by omega
  obtain ⟨a2, cap2, w2, hrun, hown, hgr, _⟩ := run_append_rd (w1.alloc (.cells #[.int .u8 (q : Int), .int .u8 (r : Int)] 5)) (c + 1) 25 (ho.keep (S := fun _ => False) (Kept.alloc _ _ _) (fun _ _ => id)) 2 (m := 2) (by rfl) (Rd.two w1 (q : Int) (r : Int)) (by omega) (by simp; omega)
  have hc2 : w2.heap[c]? = some (.cells #[.slice a n cap] 25 (0, 0)) := by
    rw [hgr.block c (by simp; omega) (fun e => hbc c e.symm rfl), Below.heap_alloc w1 _ c (by omega)]
    exact hc
  have hcell2 : w2.cell? ⟨c, 0, none⟩ = some (.slice a n cap) := by rw [cell_of_row w2 c 0 _ _ (0, 0) hc2]; rfl
  have hfr2 := frozen_of_row w2 c 0 _ _ hc2
  have HR := Lib.hid hrun
  have HAC : Hid (Acc (w2.setCell ⟨c, 0, none⟩ (.slice a2 (n + 2) cap2)) c (xs ++ [(q : Int), (r : Int)])) := by
    refine ⟨a2, n + 2, cap2, ?_, ?_⟩
    · rw [heap_setCell_same w2 c 0 _ _ _ hc2]; rfl
    · exact hown.keep (S := fun k => k = c) (Kept.setCell _ _ _ rfl) (fun k hk e => by have := (hown.blk_ge k hk).1; omega)
  have HBE : Hid (Below c w (w2.setCell ⟨c, 0, none⟩ (.slice a2 (n + 2) cap2))) := by
    have h1 : Below c w w1 := hb1.mono (by omega)
    have h2 : Below c w (w1.alloc (.cells #[.int .u8 (q : Int), .int .u8 (r : Int)] 5)) := h1.alloc (by omega) _
    exact (h2.grown hgr (by simp; omega) (fun k hk => by have := (ho.blk_ge k hk).1; omega)).setCell (p := ⟨c, 0, none⟩) (Nat.le_refl _) _
  have HLN := Lib.hid ho.len
  have key : ∀ ok : Bool, (ok = true ↔ ((hexO l).isSome = true ∧ n + 2 ≤ 16)) → Put6R w c xs l (.returned (.bool ok)) (w2.setCell ⟨c, 0, none⟩ (.slice a2 (n + 2) cap2)) := fun ok h => by
    refine ⟨q, r, ok, rfl, HAC.out, HBE.out, ?_⟩
    unfold stp6
    rw [HLN.out]
    cases hh : hexO l with
    | none => rw [hh] at h; cases ok
              · exact .inr ⟨rfl, rfl⟩
              · have := h.1 rfl; simp at this
    | some u =>
      have hu := hv u hh
      subst hu
      rw [hh] at h
      simp only [Option.isSome_some, true_and] at h
      simp only
      rw [hq, hr]
      cases ok
      · refine .inr ⟨if_neg ?_, rfl⟩
        intro hc; have := h.2 hc; cases this
      · exact .inl ⟨if_pos (h.1 rfl), rfl⟩
  have HK := Lib.hid key
  clear key hv hb1 hc ho hbc hrun hown hgr hc2 HA HG HS HLN hq hr
  obtain ⟨t, ht⟩ : ∃ t, (hexO l).isSome = t := ⟨_, rfl⟩
  rw [ht] at HK ⊢
  clear ht
  have v0 : (v : Int) < 65536 := by omega
  cases t
  · go_wp2_with (at_builtin; refine Lib.wpList_append_run _ rfl _ _ _ _ rfl _ _ rfl rfl _ _ HR.out ?_)
    go_ret
    exact HK.out _ (by simp)
  · by_cases h2 : n + 2 ≤ 16
    · have q2 : (n : Int) ≤ 14 := by omega
      have q3 : (n : Int) + 2 ≤ 16 := by omega
      go_wp2_with (at_builtin; refine Lib.wpList_append_run _ rfl _ _ _ _ rfl _ _ rfl rfl _ _ HR.out ?_)
      go_ret
      exact HK.out true (by simp; omega)
    · have q2 : ¬ (n : Int) ≤ 14 := by omega
      have q3 : ¬ (n : Int) + 2 ≤ 16 := by omega
      go_wp2_with (at_builtin; refine Lib.wpList_append_run _ rfl _ _ _ _ rfl _ _ rfl rfl _ _ HR.out ?_)
      go_ret
      exact HK.out (decide ((n : Int) + 2 ≤ 16)) (by rw [decide_eq_true_iff]; simp; omega)
theorem six_each (w0 : World) (hg : Gl w0) (c : Nat) (s : List Int) (x : Tx) (w : World) (h : I4 w0 c 16 s w) (hx : x.length ≤ 1000000) :
    Calls Tryd.prog 58 #[.string ⟨x.toArray⟩, .pointer (some ⟨c, 0, none⟩)] w fun e w' => ∃ ok, e = .returned (.bool ok) ∧ ((∃ t, stp6 s x = some t ∧ ok = true ∧ I4 w0 c 16 t w') ∨ (stp6 s x = none ∧ ok = false ∧ J4 w0 c w')) := by
  obtain ⟨h1, h2, h3, h4⟩ := h
  refine (aPut6_any x c s w (hg.below h2) (by omega) h1 h4).mono ?_
  rintro e w' ⟨z1, z2, ok, rfl, ha, hb, hok⟩
  have hb2 : Below w0.heap.size w0 w' := h2.trans (hb.mono h3)
  refine ⟨ok, rfl, ?_⟩
  rcases hok with ⟨hs, rfl⟩ | ⟨hs, rfl⟩
  · refine .inl ⟨_, hs, rfl, ha, hb2, h3, ?_⟩
    unfold stp6 at hs
    cases hh : hexO x with
    | none => rw [hh] at hs; cases hs
    | some v =>
      rw [hh] at hs
      simp only at hs
      split at hs
      · rename_i hle; simp; omega
      · cases hs
  · exact .inr ⟨hs, rfl, ⟨_, ha⟩, hb2⟩
theorem stp6_some {xs : List Int} {x : Tx} {v : Nat} (h : hexO x = some v) (hl : xs.length + 2 ≤ 16) : stp6 xs x = some (xs ++ [((v / 256 : Nat) : Int), ((v % 256 : Nat) : Int)]) := by unfold stp6; rw [h]; simp only; rw [if_pos hl]
theorem stp6_none {xs : List Int} {x : Tx} (h : hexO x = none ∨ ¬ xs.length + 2 ≤ 16) : stp6 xs x = none := by
  unfold stp6
  cases hh : hexO x with
  | none => rfl
  | some v =>
    simp only
    rcases h with h | h
    · rw [hh] at h; cases h
    · rw [if_neg h]
theorem gbI_cons (v : Nat) (r : List Nat) : gbI (v :: r) = [((v / 256 : Nat) : Int), ((v % 256 : Nat) : Int)] ++ gbI r := by simp [gbI, gby]
theorem steps_six : ∀ (ps : List Tx) (xs : List Int), xs.length ≤ 16 → steps stp6 xs ps = match allO hexO ps with
    | some r => if xs.length + 2 * ps.length ≤ 16 then some (xs ++ gbI r) else none
    | none => none
  | [], xs, h => by simp [steps, allO, h, gbI, gby]
  | p :: ps, xs, h => by
    rw [steps, allO]
    cases hd : hexO p with
    | none => rw [stp6_none (.inl hd)]
    | some v =>
      by_cases hl : xs.length + 2 ≤ 16
      · rw [stp6_some hd hl]
        simp only
        rw [steps_six ps _ (by simp; omega)]
        cases ha : allO hexO ps with
        | none => rfl
        | some r =>
          simp only [List.length_append, List.length_cons, List.length_nil]
          by_cases h4 : xs.length + (0 + 1 + 1) + 2 * ps.length ≤ 16
          · rw [if_pos h4, if_pos (by omega), gbI_cons]; simp
          · rw [if_neg h4, if_neg (by omega)]
      · rw [stp6_none (.inr hl)]
        cases ha : allO hexO ps with
        | none => rfl
        | some r => simp only [List.length_cons]; rw [if_neg (by omega)]
end Go.Proofs.YtbnfmiopgjmppaaDoor

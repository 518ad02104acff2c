/-
  The contracts of From, Cmp and Within. Conditions: bytes where the slice leads; sixteen bytes.
-/
import Derived.Test.YtbnfmiopgjmppaaDoorAdRsix
namespace Go.Proofs.YtbnfmiopgjmppaaDoor
open Go.RowKit

theorem builtA0 : Tryd.prog.built 24 [] = some (adl false (zs 16)).toArray := by kernel_rfl
theorem builtAs : ∀ s : Bool, Tryd.prog.built 24 [(0, .bool s)] = some (adl s (zs 16)).toArray
  | true => by kernel_rfl
  | false => by kernel_rfl
theorem zcA : Tryd.prog.built 24 [] = some (adl false (zs 16)).toArray := builtA0
theorem arrS : Tryd.prog.arrayLen 22 = 16 := by kernel_rfl
theorem elmS : Tryd.prog.elem 22 = 5 := by kernel_rfl
theorem undS : Tryd.prog.underlying 22 = some (.array (Tryd.prog.arrayLen 22) (Tryd.prog.elem 22)) := by rw [arrS, elmS]; exact Tryd.underlying22
theorem slS_all (g o : Nat) (w : World) : (Instr.sliceAt 22 (.pointer (some ⟨g, o, none⟩)) none none none).run Tryd.prog w = .ok (.slice (some ⟨g, o, none⟩) 16 16) w := by
  rw [run_sliceAt_array_all w 22 _ undS, elmS, arrS]
  simp only [Tryd.sizeOf5, Result.andThen_ok, slicedAt]
  rw [if_neg (by omega), Addr.add_lit]
  rfl
/-- A block that is an address. -/
def Aa (w : World) (g : Nat) (s : Bool) (xs : List Int) : Prop := w.heap[g]? = some (.cells (adl s xs).toArray 24 (0, 0))
theorem Aa.range {w : World} {g : Nat} {s : Bool} {xs : List Int} (h : Aa w g s xs) : w.rangeAt g 0 (adl s xs) := fun j v hv => by
  rw [cell_of_row w g (0 + j) _ _ (0, 0) h]; simpa using hv
theorem Aa.there {w : World} {g : Nat} {s : Bool} {xs : List Int} (h : Aa w g s xs) (hl : xs.length = 16) : w.there g 0 17 := fun j hj => by
  rw [cell_of_row w g (0 + j) _ _ (0, 0) h, frozen_of_row w g (0 + j) _ _ h]
  have : j < (adl s xs).length := by rw [adl_len s xs hl]; exact hj
  simp [List.getElem?_eq_getElem this]
theorem Aa.at_ {w : World} {g : Nat} (hg : w.heap.size = g) (s : Bool) (xs : List Int) : Aa (w.alloc (.cells (adl s xs).toArray 24)) g s xs := by subst hg; exact Blk_new w _ _
theorem Aa.keep {S : Nat → Prop} {w w' : World} {g : Nat} {s : Bool} {xs : List Int} (h : Aa w g s xs) (k : Kept S w w') (hs : ¬ S g) : Aa w' g s xs := k.heap h hs
theorem Aa.below {w w' : World} {g : Nat} {s : Bool} {xs : List Int} (h : Aa w g s xs) (hb : Below w.heap.size w w') : Aa w' g s xs := h.keep (S := fun _ => False) (Kept.of_below hb (fun i hi hi' => by omega)) id
/-- Bytes are copied into an address. -/
theorem run_copy_addr (w : World) (ty g n c : Nat) (s : Bool) (xs : List Int) (ad : Addr) (hg : Aa w g s (zs 16)) (hl : xs.length = n) (hn : n ≤ 16) (h0 : 0 < n) (hr : Rd w (some ad) xs) :
    ∃ w', (Builtin.copy_ #[25, 25] ty #[.slice (some ⟨g, 1, none⟩) 16 16, .slice (some ad) n c]).run Tryd.prog w = .ok (goInt n) w' ∧ Aa w' g s (xs ++ zs (16 - n)) ∧ Kept (fun k => k = g) w w' := by
  obtain ⟨r, o, e, hcc⟩ := hr (by rintro rfl; simp at hl; omega)
  simp only [Option.some.injEq] at e
  subst e
  have hcell : ∀ j v, (bv xs)[j]? = some v → w.cell? (Addr.add ⟨r, o, none⟩ j) = some v := fun j v hv => by
    have hj : j < xs.length := by have := (List.getElem?_eq_some_iff.1 hv).1; rwa [bv_length] at this
    rw [Addr.add_lit, hcc j hj]
    rw [bv_get _ _ hj] at hv
    exact hv
  have hrun := run_copy_row (P := Tryd.prog) w 25 25 ty 5 g 1 16 16 ⟨r, o, none⟩ n c (adl s (zs 16)).toArray 24 (bv xs) Tryd.underlying25 infB1 hg (by rw [bv_length, hl]; exact (Nat.min_eq_left hn).symm) hcell (by rw [bv_length, hl]; simp [adl, bv, zs]; omega) (bv_one _)
  rw [bv_length, hl] at hrun
  refine ⟨_, hrun, ?_, Kept.row1 (S := fun k => k = g) _ _ _ rfl⟩
  show (w.setRow g _).heap[g]? = _
  rw [setRow_heap w g _ _ _ _ hg]
  have e1 : (adl s (zs 16)).toArray.toList.take 1 ++ bv xs ++ (adl s (zs 16)).toArray.toList.drop (1 + n) = adl s (xs ++ zs (16 - n)) := by
    have h1 : (adl s (zs 16)).drop (1 + n) = bv (zs (16 - n)) := by
      rw [Nat.add_comm 1 n]
      show (bv (zs 16)).drop n = _
      unfold bv zs
      rw [← List.map_drop, List.drop_replicate]
    show (adl s (zs 16)).take 1 ++ bv xs ++ (adl s (zs 16)).drop (1 + n) = _
    rw [h1]
    show ([.bool s] ++ bv xs) ++ bv (zs (16 - n)) = _
    unfold adl
    rw [bv_append]
    simp
  rw [e1]
set_option maxRecDepth 100000 in
set_option maxHeartbeats 4000000 in
theorem aFrom_any (xs : List Int) (a : Option Addr) (n c : Nat) (w : World) (hl : xs.length = n) (hr : Rd w a xs) (hn3 : n ≤ 1000000) : Calls Tryd.prog 8 #[.slice a n c] w (FrR w xs) := by
  have HR := Lib.hid hr
  have HL := Lib.hid hl
  have n0 : (n : Int) ≤ 1000000 := by omega
  clear hr
  by_cases hn : n = 4 ∨ n = 16
  · obtain ⟨ad, rfl⟩ : ∃ ad, a = some ad := by
      obtain ⟨b, o, e, _⟩ := HR.out (by rintro rfl; simp at hl; omega)
      exact ⟨_, e⟩
    obtain ⟨s, hs⟩ : ∃ s, decide (n = 16) = s := ⟨_, rfl⟩
    have HS := Lib.hid hs
    obtain ⟨w1, hw1⟩ : ∃ x, (w.alloc (.cells (adl false (zs 16)).toArray 24)) = x := ⟨_, rfl⟩
    obtain ⟨w2, hw2⟩ : ∃ x, (w1.alloc (.cells (adl s (zs 16)).toArray 24)) = x := ⟨_, rfl⟩
    have hs1 : w1.heap.size = w.heap.size + 1 := by rw [← hw1]; simp
    have hA1 : Aa w1 w.heap.size false (zs 16) := by rw [← hw1]; exact Aa.at_ rfl _ _
    have hA2 : Aa w2 w.heap.size false (zs 16) := by rw [← hw2]; exact hA1.below (bel1 _ _)
    have hB2 : Aa w2 (w.heap.size + 1) s (zs 16) := by rw [← hw2]; exact Aa.at_ hs1 _ _
    have hbl : Below w.heap.size w w2 := by rw [← hw2, ← hw1]; exact ((Below.refl _ _).alloc (Nat.le_refl _) _).alloc (by simp) _
    obtain ⟨w3, hrun, hB3, hk3⟩ := run_copy_addr w2 3 (w.heap.size + 1) n c s xs ad hB2 hl (by omega) (by omega) (HR.out.below hbl)
    have hA3 : Aa w3 w.heap.size false (zs 16) := hA2.keep hk3 (by omega)
    have hbl3 : Below w.heap.size w w3 := hbl.trans (hk3.below (by rw [← hw2]; simp; omega) (fun k hk => by omega))
    have HA3 := Lib.hid hA3
    have HB3 := Lib.hid hB3
    have HBL3 := Lib.hid hbl3
    have hy : (xs ++ zs (16 - n)).length = 16 := by rw [List.length_append, zs_length, hl]; omega
    have HY := Lib.hid hy
    have HW : Hid (((w.alloc (.cells (adl false (zs 16)).toArray 24)).alloc (.cells (adl s (zs 16)).toArray 24)) = w2) := by show _ = _; rw [hw1, hw2]
    have hsl := slS_all (w.heap.size + 1) 1
    have HRUN : Hid ((Builtin.copy_ #[25, 25] 3 #[.slice (some ⟨w.heap.size + 1, 1, none⟩) 16 16, .slice (some ad) n c]).run Tryd.prog ((w.alloc (.cells (adl false (zs 16)).toArray 24)).alloc (.cells (adl s (zs 16)).toArray 24)) = .ok (goInt n) w3) := by show _ = _; rw [hw1, hw2]; exact hrun
    have HFIN : Hid (FrR w xs (.returned (.tuple #[.agg (adl s (xs ++ zs (16 - n))).toArray, .int .i64 0])) (w3.setCells w.heap.size 0 (adl s (xs ++ zs (16 - n))))) := ⟨Below.setCells hbl3 _ (Nat.le_refl _) _ _, .inl ⟨by rw [hl]; exact hn, by rw [hl, hs]⟩⟩
    have hc4 : ((n : Int) == 16) = s := by rw [← hs]; rcases hn with rfl | rfl <;> rfl
    have hd : ((n : Int) == 4) = !s := by rw [← hs]; rcases hn with rfl | rfl <;> rfl
    clear hw1 hw2 hs1 hA1 hA2 hB2 hbl hrun hB3 hk3 hA3 hbl3 hy
    rcases hn with rfl | rfl
    · have e1 : s = false := by rw [← hs]; rfl
      subst e1
      clear hs hc4 hd
      obtain ⟨y, hyy⟩ : ∃ y, xs ++ zs (16 - 4) = y := ⟨_, rfl⟩
      rw [hyy] at HY HB3 HFIN
      clear hyy
      go_enter Tryd.func8, Tryd.ntmps8
      go_wp2_with (first
        | (refine wpList_copyA rfl (.tmp 19) (.tmp 20) 25 25 rfl _ _ rfl rfl HRUN.out ?_)
        | (refine ldA (.tmp 4) rfl rfl (w.heap.size + 1) 0 rfl false y HY.out (by with_reducible exact HB3.out.range) ?_)
        | (refine stA (.tmp 2) (.tmp 22) rfl rfl w.heap.size 0 false y rfl rfl HY.out (by with_reducible exact HA3.out.there (zs_length 16)) ?_))
      refine bodyPost_ret (ret_midT rfl _ _ w.heap.size 0 (adl false y) _ rfl (World.rangeAt_setCells_same _ _ _ _ (by have := HA3.out.there (zs_length 16); rwa [← adl_len false y HY.out] at this)) Tryd.underlying24 rfl (infA.trans (by rw [adl_len _ _ HY.out]))) rfl ?_
      exact HFIN.out
    · have e1 : s = true := by rw [← hs]; rfl
      subst e1
      clear hs hc4 hd
      obtain ⟨y, hyy⟩ : ∃ y, xs ++ zs (16 - 16) = y := ⟨_, rfl⟩
      rw [hyy] at HY HB3 HFIN
      clear hyy
      go_enter Tryd.func8, Tryd.ntmps8
      go_wp2_with (first
        | (refine wpList_copyA rfl (.tmp 19) (.tmp 20) 25 25 rfl _ _ rfl rfl HRUN.out ?_)
        | (refine ldA (.tmp 4) rfl rfl (w.heap.size + 1) 0 rfl true y HY.out (by with_reducible exact HB3.out.range) ?_)
        | (refine stA (.tmp 2) (.tmp 22) rfl rfl w.heap.size 0 true y rfl rfl HY.out (by with_reducible exact HA3.out.there (zs_length 16)) ?_))
      refine bodyPost_ret (ret_midT rfl _ _ w.heap.size 0 (adl true y) _ rfl (World.rangeAt_setCells_same _ _ _ _ (by have := HA3.out.there (zs_length 16); rwa [← adl_len true y HY.out] at this)) Tryd.underlying24 rfl (infA.trans (by rw [adl_len _ _ HY.out]))) rfl ?_
      exact HFIN.out
  · have d4 : ¬ ((n : Int) = 4) := by omega
    have d16 : ¬ ((n : Int) = 16) := by omega
    have b4 : ((n : Int) != 4) = true := by simpa using d4
    have b16 : ((n : Int) != 16) = true := by simpa using d16
    have HF : Hid (∀ w', Below w.heap.size w w' → FrR w xs (.returned (.tuple #[.agg (adl false (zs 16)).toArray, .int .i64 2])) w') := fun w' hb => ⟨hb, .inr ⟨by rw [hl]; exact hn, rfl⟩⟩
    clear hn
    go_enter Tryd.func8, Tryd.ntmps8
    go_wp2_with fail
    refine bodyPost_ret (ret_midT rfl _ _ w.heap.size 0 (adl false (zs 16)) _ rfl (Aa.at_ rfl _ _).range Tryd.underlying24 rfl (infA.trans (by rw [adl_len _ _ (zs_length 16)]))) rfl ?_
    exact HF.out _ (bel1 _ _)
end Go.Proofs.YtbnfmiopgjmppaaDoor

/-
  The contract of Parse of package ipsix. Conditions: bytes that lie where the slice leads, fewer than a million.
-/
import Derived.Test.YthipnkaghddbhaaSxDoc
namespace Go.Proofs.Ythipnkaghddbhaa
open Go.RowKit

theorem rd_at {w : World} {b o : Nat} {xs : List Int} (h : Rd w (some ⟨b, o, none⟩) xs) {j : Nat} (hj : j < xs.length) : w.cell? ⟨b, o + j, none⟩ = some (.int .u8 (xs.getD j 0)) := by
  obtain ⟨b', o', e, hc⟩ := h (by rintro rfl; simp at hj)
  simp only [Option.some.injEq, Addr.mk.injEq, and_true] at e
  obtain ⟨rfl, rfl⟩ := e
  exact hc j hj
theorem range_cut {w : World} {b o : Nat} {xs : List Int} (h : w.rangeAt b o (bv xs)) (q m : Nat) : w.rangeAt b (o + q) (bv ((xs.drop q).take m)) := fun j v hv => by
  have hj := (List.getElem?_eq_some_iff.1 hv).1
  rw [bv_length] at hj
  rw [bv_get _ j hj] at hv
  simp only [List.length_take, List.length_drop] at hj
  have := h (q + j) v (by rw [bv_get xs (q + j) (by omega), ← getD_cut xs q m j (by omega)]; exact hv)
  rw [Nat.add_assoc]; exact this
theorem range_byte {w : World} {b o : Nat} {xs : List Int} (h : w.rangeAt b o (bv xs)) (j : Nat) (hj : j < xs.length) : w.cell? ⟨b, o + j, none⟩ = some (.int .u8 (xs.getD j 0)) := h j _ (bv_get xs j hj)
theorem rd_range {w : World} {b o : Nat} {xs : List Int} (h : Rd w (some ⟨b, o, none⟩) xs) : w.rangeAt b o (bv xs) := fun j v hv => by
  have hj := (List.getElem?_eq_some_iff.1 hv).1
  rw [bv_length] at hj
  rw [bv_get _ j hj] at hv
  rw [← hv]
  exact rd_at h hj
theorem range_rd {w : World} {b o : Nat} {xs : List Int} (h : w.rangeAt b o (bv xs)) : Rd w (some ⟨b, o, none⟩) xs := fun _ => ⟨b, o, rfl, fun i hi => range_byte h i hi⟩
theorem run_arr16 (w : World) (a : Addr) (c : Nat) : (Instr.arrayAt 24 (.slice (some a) 16 c)).run Try.prog w = .ok (.pointer (some a)) w := by
  simp [Instr.arrayAt, run_underlying Try.underlying24, Sem.run_bind, Result.andThen]
theorem and_low20 (x : Int) (h0 : 0 ≤ x) (h1 : x < 4294967296) : bits .and .u64 x 1048575 = x % 1048576 := by
  rw [u64_and _ _ h0 (by omega) (by omega) (by omega), show (1048575 : Int).toNat = 2 ^ 20 - 1 from rfl, Nat.and_two_pow_sub_one_eq_mod]
  omega
theorem inf16 : (Try.prog.info? 24).map (·.size) = some 16 := by kernel_rfl
theorem getV_range {xs : List Int} (hb : Byt xs) (p : Int) (k : Nat) (h8 : k ≤ 8) : 0 ≤ getV xs p k ∧ getV xs p k < pw k := by
  unfold getV
  split
  · have h := num_range ((xs.drop p.toNat).take (k : Int).toNat) ((hb.drop _).take _)
    have hl : ((xs.drop p.toNat).take (k : Int).toNat).length ≤ k := by rw [List.length_take]; omega
    have h2 := pw_mono hl
    omega
  · have := pw_pos k; omega
theorem list16 {α : Type} (xs : List α) (h : xs.length = 16) : ∃ a b c d e f g h i j k l m n o p, xs = [a, b, c, d, e, f, g, h, i, j, k, l, m, n, o, p] := by
  match xs, h with
  | [a, b, c, d, e, f, g, h, i, j, k, l, m, n, o, p], _ => exact ⟨a, b, c, d, e, f, g, h, i, j, k, l, m, n, o, p, rfl⟩
theorem builtS (h : H6) (h1 : h.src.length = 16) (h2 : h.dst.length = 16) : Try.prog.built 26 [(0, .int .u8 h.cl), (1, .int .u32 h.fl), (2, .int .u16 h.ln), (3, .int .u8 h.nx), (4, .int .u8 h.hp), (5, .agg (bv h.src).toArray), (6, .agg (bv h.dst).toArray)] = some h.cs.toArray := by
  obtain ⟨cl, fl, ln, nx, hp, src, dst⟩ := h
  obtain ⟨a1, b1, c1, d1, e1, f1, g1, i1, j1, k1, l1, m1, n1, o1, p1, q1, rfl⟩ := list16 src h1
  obtain ⟨a2, b2, c2, d2, e2, f2, g2, i2, j2, k2, l2, m2, n2, o2, p2, q2, rfl⟩ := list16 dst h2
  kernel_rfl
/-- The error of Parse, and the header that stands there. -/
def peE (xs : List Int) : Int := if xs.length < 40 then 10 else if getV xs 0 4 / 268435456 = 6 then 0 else 50
def h6Of (xs : List Int) : H6 := ⟨getV xs 0 4 / 1048576 % 256, getV xs 0 4 % 1048576, getV xs 4 2, xs.getD 6 0, xs.getD 7 0, (xs.drop 8).take 16, (xs.drop 24).take 16⟩
def h6P (xs : List Int) : H6 := if peE xs = 0 then h6Of xs else h60
theorem h6Of_ok {xs : List Int} (hb : Byt xs) (hl : 40 ≤ xs.length) : (h6Of xs).ok := by
  have h1 := getV_range hb 4 2 (by omega)
  have p2 : pw 2 = 65536 := by decide
  have h4 := getV_range hb 0 4 (by omega)
  refine ⟨?_, ?_, ?_, hb.get 6, hb.get 7, ?_, ?_, (hb.drop 8).take 16, (hb.drop 24).take 16⟩
  · show 0 ≤ getV xs 0 4 / 1048576 % 256 ∧ getV xs 0 4 / 1048576 % 256 < 256; omega
  · show 0 ≤ getV xs 0 4 % 1048576 ∧ getV xs 0 4 % 1048576 < 4294967296; omega
  · show 0 ≤ getV xs 4 2 ∧ getV xs 4 2 < 65536
    have h1' : 0 ≤ getV xs 4 2 ∧ getV xs 4 2 < pw 2 := h1
    omega
  · show ((xs.drop 8).take 16).length = 16; simp; omega
  · show ((xs.drop 24).take 16).length = 16; simp; omega
theorem h6P_ok {xs : List Int} (hb : Byt xs) : (h6P xs).ok := by
  unfold h6P
  split
  · rename_i h
    refine h6Of_ok hb ?_
    unfold peE at h
    split at h
    · cases h
    · omega
  · exact h60_ok
theorem H6.one (h : H6) : ∀ v ∈ h.cs, v.oneCell' = true := by
  intro v hv
  simp only [H6.cs, List.mem_cons, List.mem_append] at hv
  rcases hv with rfl | rfl | rfl | rfl | rfl | hv | hv
  · rfl
  · rfl
  · rfl
  · rfl
  · rfl
  · exact bv_one _ _ hv
  · exact bv_one _ _ hv
def ParseS (w : World) (xs : List Int) (e : Ending) (w' : World) : Prop := e = .returned (.tuple #[.agg (h6P xs).cs.toArray, .int .i64 (peE xs)]) ∧ Below w.heap.size w w'

set_option maxRecDepth 100000 in
set_option maxHeartbeats 1000000 in
theorem sxParse_any (a : Option Addr) (n cap : Nat) (xs : List Int) (w : World) (hn : xs.length = n) (hr : Rd w a xs) (hb : Byt xs) (hl : n ≤ 1000000) (hc : n ≤ cap) :
    Calls Try.prog 12 #[.slice a n cap] w (ParseS w xs) := by
  have HN := Lib.hid hn
  obtain ⟨wA, hwA⟩ : ∃ x, w.alloc (.cells h60.cs.toArray 26) = x := ⟨_, rfl⟩
  have hBA : Below w.heap.size w wA := by rw [← hwA]; exact (Below.refl _ _).alloc (Nat.le_refl _) _
  have HBA := Lib.hid hBA
  have HRA := Lib.hid (hr.below hBA)
  have HB := Lib.hid hb
  have HTH : Hid (wA.there w.heap.size 0 37) := by rw [← hwA]; exact there_new _ _ _ _ rfl _ rfl
  have HSZ : Hid (wA.heap.size = w.heap.size + 1) := by rw [← hwA]; show _ = _; simp
  by_cases h40 : n < 40
  · have HE : Hid (peE xs = 10) := by show _ = _; unfold peE; rw [if_pos (by omega)]
    have HH : Hid (h6P xs = h60) := by show _ = _; unfold h6P; rw [HE.out, if_neg (by omega)]
    clear hBA hn hr hb
    go_enter Try.func12, Try.ntmps12
    go_upto_region 1 with fail
    change Code.wp _ _ _ _ (w.alloc (.cells h60.cs.toArray 26))
    rw [hwA]
    clear hwA
    go_wp2_with (first
      | (refine wpList_build_run (cells := h60.cs.toArray) rfl 26 _ rfl ?_ ?_; · exact built60)
      | (refine stC 26 _ _ rfl rfl w.heap.size 0 h60.cs rfl rfl HTH.out inf6 (H6.one h60) ?_))
    refine bodyPost_ret (ret_mid2 Try.results12 _ _ _ _ h60.cs _ rfl (World.rangeAt_setCells_same _ _ _ _ HTH.out) Try.underlying26 rfl inf6 _ rfl) rfl ⟨?_, Below.setCells HBA.out _ (Nat.le_refl _) _ _⟩
    rw [HE.out, HH.out]
    rfl
  replace h40 : 40 ≤ n := by omega
  obtain ⟨bb, oo, rfl, _⟩ := hr (by intro e; rw [e] at hn; simp at hn; omega)
  have HRG : Hid (wA.rangeAt bb oo (bv xs)) := rd_range (hr.below hBA)
  have HLT : Hid (bb < w.heap.size) := World.block_lt_of_cell? w ⟨bb, oo + 0, none⟩ (rd_at hr (by omega))
  obtain ⟨V, hV⟩ : ∃ x, getV xs 0 4 = x := ⟨_, rfl⟩
  have hv := getV_range hb 0 4 (by omega)
  have p4 : pw 4 = 4294967296 := by decide
  have p2 : pw 2 = 65536 := by decide
  have hV' : getV xs 0 ((4 : Nat) : Int) = V := hV
  rw [hV', p4] at hv
  obtain ⟨v0, v1⟩ := hv
  obtain ⟨L, hL⟩ : ∃ x, getV xs 4 2 = x := ⟨_, rfl⟩
  have hv := getV_range hb 4 2 (by omega)
  have hL' : getV xs 4 ((2 : Nat) : Int) = L := hL
  rw [hL', p2] at hv
  obtain ⟨l0, l1⟩ := hv
  have HV := Lib.hid hV
  have HL := Lib.hid hL
  have HH : Hid (h6Of xs = ⟨V / 1048576 % 256, V % 1048576, L, xs.getD 6 0, xs.getD 7 0, (xs.drop 8).take 16, (xs.drop 24).take 16⟩) := by show _ = _; unfold h6Of; rw [hV, hL]
  have HOK := Lib.hid (h6Of_ok hb (by omega))
  clear hBA hn hr hb hV hL hV' hL' p4 p2
  by_cases h6 : V / 268435456 = 6
  · have HE : Hid (peE xs = 0) := by show _ = _; unfold peE; rw [if_neg (by have := HN.out; omega), HV.out, if_pos h6]
    have HHP : Hid (h6P xs = h6Of xs) := by show _ = _; unfold h6P; rw [HE.out, if_pos rfl]
    have HAND := Lib.hid (and_low20 V v0 v1)
    go_enter Try.func12, Try.ntmps12
    go_upto_region 1 with fail
    change Code.wp _ _ _ _ (w.alloc (.cells h60.cs.toArray 26))
    rw [hwA]
    clear hwA
    go_wp2_with fail
    refine (sxNumber_any _ _ _ xs 0 4 _ HN.out HRA.out HB.out (by omega) hc (by omega)).mono ?_
    rintro e w1 ⟨rfl, rfl⟩
    rw [HV.out]
    go_wp2_with fail
    have hrr := HRG.out
    refine wp_region_held_drew (S := fun w' => World.rangeAt w' bb oo (bv xs)) (by kernel_rfl) hrr (fun hS => ?_)
    refine tk 0 15 (.int .u64 V) rfl rfl (by kernel_rfl) (by kernel_rfl) (by kernel_rfl) (fun _ _ _ h => h) (Or.inl ⟨by rfl, fun w' h' => ?_⟩) hS ?_
    · go_simp
    try simp only [Act.put, List.setIfInBounds_toArray, List.set_cons_zero, List.set_cons_succ]
    refine tk 1 16 (.int .u64 (V / 1048576)) rfl rfl (by kernel_rfl) (by kernel_rfl) (by kernel_rfl) (fun _ _ _ h => h) (Or.inl ⟨by rfl, fun w' h' => ?_⟩) hS ?_
    · go_simp
    try simp only [Act.put, List.setIfInBounds_toArray, List.set_cons_zero, List.set_cons_succ]
    refine tk 2 17 (.int .u8 (V / 1048576 % 256)) rfl rfl (by kernel_rfl) (by kernel_rfl) (by kernel_rfl) (fun _ _ _ h => h) (Or.inl ⟨by rfl, fun w' h' => ?_⟩) hS ?_
    · have hw : IntKind.u8.wrap (V / 1048576) = V / 1048576 % 256 := IntKind.wrap_u8 _
      go_simp
    try simp only [Act.put, List.setIfInBounds_toArray, List.set_cons_zero, List.set_cons_succ]
    refine tk 3 18 (.int .u64 V) rfl rfl (by kernel_rfl) (by kernel_rfl) (by kernel_rfl) (fun _ _ _ h => h) (Or.inl ⟨by rfl, fun w' h' => ?_⟩) hS ?_
    · go_simp
    try simp only [Act.put, List.setIfInBounds_toArray, List.set_cons_zero, List.set_cons_succ]
    refine tk 4 19 (.int .u64 (bits .and .u64 V 1048575)) rfl rfl (by kernel_rfl) (by kernel_rfl) (by kernel_rfl) (fun _ _ _ h => h) (Or.inl ⟨by rfl, fun w' h' => ?_⟩) hS ?_
    · go_simp
    try simp only [Act.put, List.setIfInBounds_toArray, List.set_cons_zero, List.set_cons_succ]
    refine tk 5 20 (.int .u32 (V % 1048576)) rfl rfl (by kernel_rfl) (by kernel_rfl) (by kernel_rfl) (fun _ _ _ h => h) (Or.inl ⟨by rfl, fun w' h' => ?_⟩) hS ?_
    · have hq := HAND.out
      have hw : IntKind.u32.wrap (V % 1048576) = V % 1048576 := by rw [IntKind.wrap_u32]; omega
      go_simp
    try simp only [Act.put, List.setIfInBounds_toArray, List.set_cons_zero, List.set_cons_succ]
    refine tk 6 21 (.slice (some ⟨bb, oo, none⟩) n cap) rfl rfl (by kernel_rfl) (by kernel_rfl) (by kernel_rfl) (fun _ _ _ h => h) (Or.inl ⟨by rfl, fun w' h' => ?_⟩) hS ?_
    · go_simp
    try simp only [Act.put, List.setIfInBounds_toArray, List.set_cons_zero, List.set_cons_succ]
    refine tk 9 24 (.slice (some ⟨bb, oo, none⟩) n cap) rfl rfl (by kernel_rfl) (by kernel_rfl) (by kernel_rfl) (fun _ _ _ h => h) (Or.inl ⟨by rfl, fun w' h' => ?_⟩) hS ?_
    · go_simp
    try simp only [Act.put, List.setIfInBounds_toArray, List.set_cons_zero, List.set_cons_succ]
    refine tk 10 25 (.pointer (some ⟨bb, oo + 6, none⟩)) rfl rfl (by kernel_rfl) (by kernel_rfl) (by kernel_rfl) (fun _ _ _ h => h) (Or.inl ⟨by rfl, fun w' h' => ?_⟩) hS ?_
    · have q : ¬ (n : Int) ≤ 6 := by omega
      go_simp
    try simp only [Act.put, List.setIfInBounds_toArray, List.set_cons_zero, List.set_cons_succ]
    refine tk 11 26 (.int .u8 (xs.getD 6 0)) rfl rfl (by kernel_rfl) (by kernel_rfl) (by kernel_rfl) (fun _ _ _ h => h) (Or.inl ⟨by rfl, fun w' h' => ?_⟩) hS ?_
    · have hcell := range_byte h' 6 (by rw [HN.out]; omega)
      go_simp
    try simp only [Act.put, List.setIfInBounds_toArray, List.set_cons_zero, List.set_cons_succ]
    refine tk 12 27 (.slice (some ⟨bb, oo, none⟩) n cap) rfl rfl (by kernel_rfl) (by kernel_rfl) (by kernel_rfl) (fun _ _ _ h => h) (Or.inl ⟨by rfl, fun w' h' => ?_⟩) hS ?_
    · go_simp
    try simp only [Act.put, List.setIfInBounds_toArray, List.set_cons_zero, List.set_cons_succ]
    refine tk 13 28 (.pointer (some ⟨bb, oo + 7, none⟩)) rfl rfl (by kernel_rfl) (by kernel_rfl) (by kernel_rfl) (fun _ _ _ h => h) (Or.inl ⟨by rfl, fun w' h' => ?_⟩) hS ?_
    · have q : ¬ (n : Int) ≤ 7 := by omega
      go_simp
    try simp only [Act.put, List.setIfInBounds_toArray, List.set_cons_zero, List.set_cons_succ]
    refine tk 14 29 (.int .u8 (xs.getD 7 0)) rfl rfl (by kernel_rfl) (by kernel_rfl) (by kernel_rfl) (fun _ _ _ h => h) (Or.inl ⟨by rfl, fun w' h' => ?_⟩) hS ?_
    · have hcell := range_byte h' 7 (by rw [HN.out]; omega)
      go_simp
    try simp only [Act.put, List.setIfInBounds_toArray, List.set_cons_zero, List.set_cons_succ]
    refine tk 15 30 (.slice (some ⟨bb, oo, none⟩) n cap) rfl rfl (by kernel_rfl) (by kernel_rfl) (by kernel_rfl) (fun _ _ _ h => h) (Or.inl ⟨by rfl, fun w' h' => ?_⟩) hS ?_
    · go_simp
    try simp only [Act.put, List.setIfInBounds_toArray, List.set_cons_zero, List.set_cons_succ]
    refine tk 16 31 (.slice (some ⟨bb, oo + 8, none⟩) 16 (cap - 8)) rfl rfl (by kernel_rfl) (by kernel_rfl) (by kernel_rfl) (fun _ _ _ h => h) (Or.inl ⟨by rfl, fun w' h' => ?_⟩) hS ?_
    · have q : (24 : Int) ≤ (cap : Int) := by omega
      have q2 : ¬ cap = 8 := by omega
      go_simp
    try simp only [Act.put, List.setIfInBounds_toArray, List.set_cons_zero, List.set_cons_succ]
    refine tk 17 32 (.pointer (some ⟨bb, oo + 8, none⟩)) rfl rfl (by kernel_rfl) (by kernel_rfl) (by kernel_rfl) (fun _ _ _ h => h) (Or.inl ⟨by rfl, fun w' h' => ?_⟩) hS ?_
    · have harr := run_arr16 w' ⟨bb, oo + 8, none⟩ (cap - 8)
      go_simp
    try simp only [Act.put, List.setIfInBounds_toArray, List.set_cons_zero, List.set_cons_succ]
    refine tk 18 33 (.agg (bv ((xs.drop 8).take 16)).toArray) rfl rfl (by kernel_rfl) (by kernel_rfl) (by kernel_rfl) (fun _ _ _ h => h) (yieldsIf_load_mid (by rfl) _ _ rfl (bb) (oo + 8) rfl (bv ((xs.drop 8).take 16)) _ (fun w' h' => range_cut h' 8 16) Try.underlying24 rfl (by rw [bv_length]; exact (congrArg some HOK.out.src.symm).symm ▸ inf16)) hS ?_
    try simp only [Act.put, List.setIfInBounds_toArray, List.set_cons_zero, List.set_cons_succ]
    refine tk 19 34 (.slice (some ⟨bb, oo, none⟩) n cap) rfl rfl (by kernel_rfl) (by kernel_rfl) (by kernel_rfl) (fun _ _ _ h => h) (Or.inl ⟨by rfl, fun w' h' => ?_⟩) hS ?_
    · go_simp
    try simp only [Act.put, List.setIfInBounds_toArray, List.set_cons_zero, List.set_cons_succ]
    refine tk 20 35 (.slice (some ⟨bb, oo + 24, none⟩) 16 (cap - 24)) rfl rfl (by kernel_rfl) (by kernel_rfl) (by kernel_rfl) (fun _ _ _ h => h) (Or.inl ⟨by rfl, fun w' h' => ?_⟩) hS ?_
    · have q : (40 : Int) ≤ (cap : Int) := by omega
      have q2 : ¬ cap = 24 := by omega
      go_simp
    try simp only [Act.put, List.setIfInBounds_toArray, List.set_cons_zero, List.set_cons_succ]
    refine tk 21 36 (.pointer (some ⟨bb, oo + 24, none⟩)) rfl rfl (by kernel_rfl) (by kernel_rfl) (by kernel_rfl) (fun _ _ _ h => h) (Or.inl ⟨by rfl, fun w' h' => ?_⟩) hS ?_
    · have harr := run_arr16 w' ⟨bb, oo + 24, none⟩ (cap - 24)
      go_simp
    try simp only [Act.put, List.setIfInBounds_toArray, List.set_cons_zero, List.set_cons_succ]
    refine tk 22 37 (.agg (bv ((xs.drop 24).take 16)).toArray) rfl rfl (by kernel_rfl) (by kernel_rfl) (by kernel_rfl) (fun _ _ _ h => h) (yieldsIf_load_mid (by rfl) _ _ rfl (bb) (oo + 24) rfl (bv ((xs.drop 24).take 16)) _ (fun w' h' => range_cut h' 24 16) Try.underlying24 rfl (by rw [bv_length]; exact (congrArg some HOK.out.dst.symm).symm ▸ inf16)) hS ?_
    try simp only [Act.put, List.setIfInBounds_toArray, List.set_cons_zero, List.set_cons_succ]
    refine wpAnyH_ready (rs := [7]) (by kernel_rfl) (by simp) (AllReadyH.cons rfl (fun K hK => ?_) AllReadyH.nil)
    rw [if_pos (by rfl)]
    go_wp2_with fail
    refine (sxNumber_any _ _ _ xs 4 2 _ HN.out (range_rd hS) HB.out (by omega) hc (by omega)).mono ?_
    rintro e wx ⟨rfl, rfl⟩
    rw [HL.out]
    have hS' := hS
    clear hS
    refine hK.out _ _ (hS') (fun hS => ?_)
    clear hK K
    try simp only [Act.put, List.setIfInBounds_toArray, List.set_cons_zero, List.set_cons_succ]
    refine tk 8 23 (.int .u16 L) rfl rfl (by kernel_rfl) (by kernel_rfl) (by kernel_rfl) (fun _ _ _ h => h) (Or.inl ⟨by rfl, fun w' h' => ?_⟩) hS ?_
    · have hw : IntKind.u16.wrap L = L := by rw [IntKind.wrap_u16]; omega
      go_simp
    try simp only [Act.put, List.setIfInBounds_toArray, List.set_cons_zero, List.set_cons_succ]
    refine tk 23 38 (.agg (h6Of xs).cs.toArray) rfl rfl (by kernel_rfl) (by kernel_rfl) (by kernel_rfl) (fun _ _ _ h => h) (yields_build (by rfl) _ _ rfl ?_) hS ?_
    · rw [HH.out]
      exact builtS ⟨V / 1048576 % 256, V % 1048576, L, xs.getD 6 0, xs.getD 7 0, (xs.drop 8).take 16, (xs.drop 24).take 16⟩ HOK.out.src HOK.out.dst
    try simp only [Act.put, List.setIfInBounds_toArray, List.set_cons_zero, List.set_cons_succ]
    refine wpAnyH_ready (rs := [24]) (by kernel_rfl) (by simp) (AllReadyH.cons rfl (fun K hK => ?_) AllReadyH.nil)
    rw [if_pos (by rfl)]
    have HLE : (h6Of xs).cs.toArray.size = 37 := by rw [List.size_toArray]; exact HOK.out.len
    refine wp_store_mid 26 _ _ rfl w.heap.size 0 (h6Of xs).cs.toArray rfl rfl ?_ ?_ (all_oneCell_toArray (H6.one _)) ?_
    · rw [HLE]; exact HTH.out
    · rw [HLE]; exact inf6
    have hrz : (wA.drew.setCells w.heap.size 0 (h6Of xs).cs).rangeAt bb oo (bv xs) := World.rangeAt_setCells_apart hS _ _ _ (.inl (by have := HLT.out; omega))
    clear hS
    refine hK.out _ _ (hrz) (fun hS => ?_)
    clear hK K
    refine tk 25 3 (.int .i64 0) rfl rfl (by kernel_rfl) (by kernel_rfl) (by kernel_rfl) (fun _ _ _ h => h) (Or.inl ⟨by rfl, fun w' h' => ?_⟩) hS ?_
    · go_simp
    refine wpAnyH_done (by kernel_rfl) ?_ _
    go_wp2_with fail
    refine bodyPost_ret (ret_mid2 Try.results12 _ _ _ _ (h6Of xs).cs _ rfl (World.rangeAt_setCells_same _ _ _ _ (by rw [HOK.out.len]; exact HTH.out)) Try.underlying26 rfl (by rw [HOK.out.len]; exact inf6) _ rfl) rfl ⟨?_, ?_⟩
    · rw [HE.out, HHP.out]
      rfl
    · have h2 : Below w.heap.size w wA.drew := ⟨HBA.out.os, HBA.out.tape, HBA.out.output, HBA.out.size, HBA.out.block⟩
      exact Below.setCells h2 _ (Nat.le_refl _) _ _
  · have HE : Hid (peE xs = 50) := by show _ = _; unfold peE; rw [if_neg (by have := HN.out; omega), HV.out, if_neg h6]
    have HHP : Hid (h6P xs = h60) := by show _ = _; unfold h6P; rw [HE.out, if_neg (by omega)]
    have hb6 : (V / 268435456 != 6) = true := by simpa using h6
    go_enter Try.func12, Try.ntmps12
    go_upto_region 1 with fail
    change Code.wp _ _ _ _ (w.alloc (.cells h60.cs.toArray 26))
    rw [hwA]
    clear hwA
    go_wp2_with fail
    refine (sxNumber_any _ _ _ xs 0 4 _ HN.out HRA.out HB.out (by omega) hc (by omega)).mono ?_
    rintro e w1 ⟨rfl, rfl⟩
    rw [HV.out]
    go_wp2_with (first
      | (refine wpList_build_run (cells := h60.cs.toArray) rfl 26 _ rfl ?_ ?_; · exact built60)
      | (refine stC 26 _ _ rfl rfl w.heap.size 0 h60.cs rfl rfl HTH.out inf6 (H6.one h60) ?_))
    refine bodyPost_ret (ret_mid2 Try.results12 _ _ _ _ h60.cs _ rfl (World.rangeAt_setCells_same _ _ _ _ HTH.out) Try.underlying26 rfl inf6 _ rfl) rfl ⟨?_, Below.setCells HBA.out _ (Nat.le_refl _) _ _⟩
    rw [HE.out, HHP.out]
    rfl
end Go.Proofs.Ythipnkaghddbhaa

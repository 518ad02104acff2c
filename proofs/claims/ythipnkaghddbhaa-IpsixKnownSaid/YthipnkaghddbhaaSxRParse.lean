/-
  The contract of the document's own Parse for layer 6. Conditions: bytes that lie where the slice leads, fewer than a million.
-/
import Derived.Test.YthipnkaghddbhaaSxParse
import Derived.Test.YthipnkaghddbhaaRefRows
import Derived.Test.YthipnkaghddbhaaRef
namespace Go.Proofs.Ythipnkaghddbhaa
open Go.RowKit

def r6P (xs : List Int) : List Value := if peE xs = 0 then r6c (h6Of xs) else r60
def RParseS (w : World) (xs : List Int) (e : Ending) (w' : World) : Prop := e = .returned (.tuple #[.agg (r6P xs).toArray, .int .i64 (peE xs)]) ∧ Below w.heap.size w w'
theorem built0 : Try.prog.built 30 [] = some r60.toArray := by kernel_rfl

set_option maxRecDepth 100000 in
set_option maxHeartbeats 1000000 in
theorem r6Parse_any (a : Option Addr) (n cap : Nat) (xs : List Int) (w : World) (hn : xs.length = n) (hr : Rd w a xs) (hb : Byt xs) (hl : n ≤ 1000000) (hc : n ≤ cap) :
    Calls Try.prog 13 #[.slice a n cap] w (RParseS w xs) := by
  have HN := Lib.hid hn
  obtain ⟨wA, hwA⟩ : ∃ x, w.alloc (.cells r60.toArray 30) = x := ⟨_, rfl⟩
  have hBA : Below w.heap.size w wA := by rw [← hwA]; exact (Below.refl _ _).alloc (Nat.le_refl _) _
  have HBA := Lib.hid hBA
  have HRA := Lib.hid (hr.below hBA)
  have HB := Lib.hid hb
  have HTH : Hid (wA.there w.heap.size 0 7) := by rw [← hwA]; exact there_new _ _ _ _ rfl _ rfl
  have HSZ : Hid (wA.heap.size = w.heap.size + 1) := by rw [← hwA]; show _ = _; simp
  by_cases h40 : n < 40
  · have HE : Hid (peE xs = 10) := by show _ = _; unfold peE; rw [if_pos (by omega)]
    have HH : Hid (r6P xs = r60) := by show _ = _; unfold r6P; rw [HE.out, if_neg (by omega)]
    clear hBA hn hr hb
    go_enter Try.func13, Try.ntmps13
    go_upto_region 1 with fail
    change Code.wp _ _ _ _ (w.alloc (.cells r60.toArray 30))
    rw [hwA]
    clear hwA
    go_wp2_with (first
      | (refine wpList_build_run (cells := r60.toArray) rfl 30 _ rfl ?_ ?_; · exact built0)
      | (refine stC 30 _ _ rfl rfl w.heap.size 0 r60 rfl rfl HTH.out infR6 r60_one ?_))
    refine bodyPost_ret (ret_mid2 Try.results13 _ _ _ _ r60 _ rfl (World.rangeAt_setCells_same _ _ _ _ HTH.out) Try.underlying30 rfl infR6 _ rfl) rfl ⟨?_, Below.setCells HBA.out _ (Nat.le_refl _) _ _⟩
    rw [HE.out, HH.out]
    rfl
  replace h40 : 40 ≤ n := by omega
  obtain ⟨bb, oo, rfl, _⟩ := hr (by intro e; rw [e] at hn; simp at hn; omega)
  have HRG : Hid (wA.rangeAt bb oo (bv xs)) := rd_range (hr.below hBA)
  have HLT : Hid (bb < w.heap.size) := World.block_lt_of_cell? w ⟨bb, oo + 0, none⟩ (rd_at hr (by omega))
  have HBS : Hid (Byt ((xs.drop 8).take 16) ∧ Byt ((xs.drop 24).take 16)) := ⟨(hb.drop 8).take 16, (hb.drop 24).take 16⟩
  obtain ⟨V, hV⟩ : ∃ x, getV xs 0 4 = x := ⟨_, rfl⟩
  have hv := getV_range hb 0 4 (by omega)
  have p4 : pw 4 = 4294967296 := by decide
  have p2 : pw 2 = 65536 := by decide
  have hV' : getV xs 0 ((4 : Nat) : Int) = V := hV
  rw [hV', p4] at hv
  obtain ⟨v0, v1⟩ := hv
  obtain ⟨L, hL⟩ : ∃ x, getV xs 4 2 = x := ⟨_, rfl⟩
  have hv := getV_range hb 4 2 (by omega)
  have hL' : getV xs 4 ((2 : Nat) : Int) = L := hL
  rw [hL', p2] at hv
  obtain ⟨l0, l1⟩ := hv
  have HV := Lib.hid hV
  have HL := Lib.hid hL
  have HH : Hid (h6Of xs = ⟨V / 1048576 % 256, V % 1048576, L, xs.getD 6 0, xs.getD 7 0, (xs.drop 8).take 16, (xs.drop 24).take 16⟩) := by show _ = _; unfold h6Of; rw [hV, hL]
  have hq1 : V.tdiv 268435456 = V / 268435456 := Int.tdiv_eq_ediv_of_nonneg v0
  have HQ2 : Hid (V.tdiv 1048576 = V / 1048576) := Int.tdiv_eq_ediv_of_nonneg v0
  have HQ3 : Hid (V.tmod 1048576 = V % 1048576) := Int.tmod_eq_emod_of_nonneg v0
  have HQ4 : Hid ((V / 1048576).tmod 256 = V / 1048576 % 256) := Int.tmod_eq_emod_of_nonneg (by omega)
  clear hBA hn hr hb hV hL hV' hL' p4 p2
  by_cases h6 : V / 268435456 = 6
  · have HE : Hid (peE xs = 0) := by show _ = _; unfold peE; rw [if_neg (by have := HN.out; omega), HV.out, if_pos h6]
    have HHP : Hid (r6P xs = r6c (h6Of xs)) := by show _ = _; unfold r6P; rw [HE.out, if_pos rfl]
    go_enter Try.func13, Try.ntmps13
    go_upto_region 1 with fail
    change Code.wp _ _ _ _ (w.alloc (.cells r60.toArray 30))
    rw [hwA]
    clear hwA
    go_wp2_with fail
    refine (refGet_any _ _ _ xs 0 4 _ HN.out HRA.out HB.out (by omega)).mono ?_
    rintro e w1 ⟨rfl, rfl⟩
    rw [HV.out]
    go_wp2_with fail
    refine (refGet_any _ _ _ xs 4 2 _ HN.out HRA.out HB.out (by omega)).mono ?_
    rintro e w1 ⟨rfl, rfl⟩
    rw [HL.out]
    go_wp2_with fail
    have hrr := HRG.out
    refine wp_region_held_drew (S := fun w' => World.rangeAt w' bb oo (bv xs)) (by kernel_rfl) hrr (fun hS => ?_)
    refine tk 0 26 (.int .u64 V) rfl rfl (by kernel_rfl) (by kernel_rfl) (by kernel_rfl) (fun _ _ _ h => h) (Or.inl ⟨by rfl, fun w' h' => ?_⟩) hS ?_
    · go_simp
    try simp only [Act.put, List.setIfInBounds_toArray, List.set_cons_zero, List.set_cons_succ]
    refine tk 1 27 (.int .u64 (V / 1048576)) rfl rfl (by kernel_rfl) (by kernel_rfl) (by kernel_rfl) (fun _ _ _ h => h) (Or.inl ⟨by rfl, fun w' h' => ?_⟩) hS ?_
    · have hq := HQ2.out
      have hw : IntKind.u64.wrap (V / 1048576) = V / 1048576 := by rw [IntKind.wrap_u64]; omega
      go_simp
    try simp only [Act.put, List.setIfInBounds_toArray, List.set_cons_zero, List.set_cons_succ]
    refine tk 2 28 (.int .u64 (V / 1048576 % 256)) rfl rfl (by kernel_rfl) (by kernel_rfl) (by kernel_rfl) (fun _ _ _ h => h) (Or.inl ⟨by rfl, fun w' h' => ?_⟩) hS ?_
    · have hq := HQ4.out
      go_simp
    try simp only [Act.put, List.setIfInBounds_toArray, List.set_cons_zero, List.set_cons_succ]
    refine tk 3 29 (.int .u8 (V / 1048576 % 256)) rfl rfl (by kernel_rfl) (by kernel_rfl) (by kernel_rfl) (fun _ _ _ h => h) (Or.inl ⟨by rfl, fun w' h' => ?_⟩) hS ?_
    · have hw : IntKind.u8.wrap (V / 1048576 % 256) = V / 1048576 % 256 := by rw [IntKind.wrap_u8]; omega
      go_simp
    try simp only [Act.put, List.setIfInBounds_toArray, List.set_cons_zero, List.set_cons_succ]
    refine tk 4 30 (.int .u64 V) rfl rfl (by kernel_rfl) (by kernel_rfl) (by kernel_rfl) (fun _ _ _ h => h) (Or.inl ⟨by rfl, fun w' h' => ?_⟩) hS ?_
    · go_simp
    try simp only [Act.put, List.setIfInBounds_toArray, List.set_cons_zero, List.set_cons_succ]
    refine tk 5 31 (.int .u64 (V % 1048576)) rfl rfl (by kernel_rfl) (by kernel_rfl) (by kernel_rfl) (fun _ _ _ h => h) (Or.inl ⟨by rfl, fun w' h' => ?_⟩) hS ?_
    · have hq := HQ3.out
      go_simp
    try simp only [Act.put, List.setIfInBounds_toArray, List.set_cons_zero, List.set_cons_succ]
    refine tk 6 32 (.int .u32 (V % 1048576)) rfl rfl (by kernel_rfl) (by kernel_rfl) (by kernel_rfl) (fun _ _ _ h => h) (Or.inl ⟨by rfl, fun w' h' => ?_⟩) hS ?_
    · have hw : IntKind.u32.wrap (V % 1048576) = V % 1048576 := by rw [IntKind.wrap_u32]; omega
      go_simp
    try simp only [Act.put, List.setIfInBounds_toArray, List.set_cons_zero, List.set_cons_succ]
    refine tk 7 33 (.int .u64 L) rfl rfl (by kernel_rfl) (by kernel_rfl) (by kernel_rfl) (fun _ _ _ h => h) (Or.inl ⟨by rfl, fun w' h' => ?_⟩) hS ?_
    · go_simp
    try simp only [Act.put, List.setIfInBounds_toArray, List.set_cons_zero, List.set_cons_succ]
    refine tk 8 34 (.int .u16 L) rfl rfl (by kernel_rfl) (by kernel_rfl) (by kernel_rfl) (fun _ _ _ h => h) (Or.inl ⟨by rfl, fun w' h' => ?_⟩) hS ?_
    · have hw : IntKind.u16.wrap L = L := by rw [IntKind.wrap_u16]; omega
      go_simp
    try simp only [Act.put, List.setIfInBounds_toArray, List.set_cons_zero, List.set_cons_succ]
    refine tk 9 35 (.slice (some ⟨bb, oo, none⟩) n cap) rfl rfl (by kernel_rfl) (by kernel_rfl) (by kernel_rfl) (fun _ _ _ h => h) (Or.inl ⟨by rfl, fun w' h' => ?_⟩) hS ?_
    · go_simp
    try simp only [Act.put, List.setIfInBounds_toArray, List.set_cons_zero, List.set_cons_succ]
    refine tk 10 36 (.pointer (some ⟨bb, oo + 6, none⟩)) rfl rfl (by kernel_rfl) (by kernel_rfl) (by kernel_rfl) (fun _ _ _ h => h) (Or.inl ⟨by rfl, fun w' h' => ?_⟩) hS ?_
    · have q : ¬ (n : Int) ≤ 6 := by omega
      go_simp
    try simp only [Act.put, List.setIfInBounds_toArray, List.set_cons_zero, List.set_cons_succ]
    refine tk 11 37 (.int .u8 (xs.getD 6 0)) rfl rfl (by kernel_rfl) (by kernel_rfl) (by kernel_rfl) (fun _ _ _ h => h) (Or.inl ⟨by rfl, fun w' h' => ?_⟩) hS ?_
    · have hcell := range_byte h' 6 (by rw [HN.out]; omega)
      go_simp
    try simp only [Act.put, List.setIfInBounds_toArray, List.set_cons_zero, List.set_cons_succ]
    refine tk 12 38 (.slice (some ⟨bb, oo, none⟩) n cap) rfl rfl (by kernel_rfl) (by kernel_rfl) (by kernel_rfl) (fun _ _ _ h => h) (Or.inl ⟨by rfl, fun w' h' => ?_⟩) hS ?_
    · go_simp
    try simp only [Act.put, List.setIfInBounds_toArray, List.set_cons_zero, List.set_cons_succ]
    refine tk 13 39 (.pointer (some ⟨bb, oo + 7, none⟩)) rfl rfl (by kernel_rfl) (by kernel_rfl) (by kernel_rfl) (fun _ _ _ h => h) (Or.inl ⟨by rfl, fun w' h' => ?_⟩) hS ?_
    · have q : ¬ (n : Int) ≤ 7 := by omega
      go_simp
    try simp only [Act.put, List.setIfInBounds_toArray, List.set_cons_zero, List.set_cons_succ]
    refine tk 14 40 (.int .u8 (xs.getD 7 0)) rfl rfl (by kernel_rfl) (by kernel_rfl) (by kernel_rfl) (fun _ _ _ h => h) (Or.inl ⟨by rfl, fun w' h' => ?_⟩) hS ?_
    · have hcell := range_byte h' 7 (by rw [HN.out]; omega)
      go_simp
    try simp only [Act.put, List.setIfInBounds_toArray, List.set_cons_zero, List.set_cons_succ]
    refine tk 15 41 (.slice (some ⟨bb, oo, none⟩) n cap) rfl rfl (by kernel_rfl) (by kernel_rfl) (by kernel_rfl) (fun _ _ _ h => h) (Or.inl ⟨by rfl, fun w' h' => ?_⟩) hS ?_
    · go_simp
    try simp only [Act.put, List.setIfInBounds_toArray, List.set_cons_zero, List.set_cons_succ]
    refine tk 16 42 (.slice (some ⟨bb, oo + 8, none⟩) 16 (cap - 8)) rfl rfl (by kernel_rfl) (by kernel_rfl) (by kernel_rfl) (fun _ _ _ h => h) (Or.inl ⟨by rfl, fun w' h' => ?_⟩) hS ?_
    · have q : (24 : Int) ≤ (cap : Int) := by omega
      have q2 : ¬ cap = 8 := by omega
      go_simp
    try simp only [Act.put, List.setIfInBounds_toArray, List.set_cons_zero, List.set_cons_succ]
    refine tk 17 43 (.string (str ((xs.drop 8).take 16))) rfl rfl (by kernel_rfl) (by kernel_rfl) (by kernel_rfl) (fun _ _ _ h => h) (Or.inl ⟨by rfl, fun w' h' => ?_⟩) hS ?_
    · have hc : (convert 27 9 (.slice (some ⟨bb, oo + 8, none⟩) 16 (cap - 8))).run Try.prog w' = .ok (.string (str ((xs.drop 8).take 16))) w' := run_string_rd w' (cap - 8) (xs := (xs.drop 8).take 16) (n := 16) (by have := HN.out; simp; omega) (range_rd (range_cut h' 8 16)) HBS.out.1
      go_simp
    try simp only [Act.put, List.setIfInBounds_toArray, List.set_cons_zero, List.set_cons_succ]
    refine tk 18 44 (.slice (some ⟨bb, oo, none⟩) n cap) rfl rfl (by kernel_rfl) (by kernel_rfl) (by kernel_rfl) (fun _ _ _ h => h) (Or.inl ⟨by rfl, fun w' h' => ?_⟩) hS ?_
    · go_simp
    try simp only [Act.put, List.setIfInBounds_toArray, List.set_cons_zero, List.set_cons_succ]
    refine tk 19 45 (.slice (some ⟨bb, oo + 24, none⟩) 16 (cap - 24)) rfl rfl (by kernel_rfl) (by kernel_rfl) (by kernel_rfl) (fun _ _ _ h => h) (Or.inl ⟨by rfl, fun w' h' => ?_⟩) hS ?_
    · have q : (40 : Int) ≤ (cap : Int) := by omega
      have q2 : ¬ cap = 24 := by omega
      go_simp
    try simp only [Act.put, List.setIfInBounds_toArray, List.set_cons_zero, List.set_cons_succ]
    refine tk 20 46 (.string (str ((xs.drop 24).take 16))) rfl rfl (by kernel_rfl) (by kernel_rfl) (by kernel_rfl) (fun _ _ _ h => h) (Or.inl ⟨by rfl, fun w' h' => ?_⟩) hS ?_
    · have hc : (convert 27 9 (.slice (some ⟨bb, oo + 24, none⟩) 16 (cap - 24))).run Try.prog w' = .ok (.string (str ((xs.drop 24).take 16))) w' := run_string_rd w' (cap - 24) (xs := (xs.drop 24).take 16) (n := 16) (by have := HN.out; simp; omega) (range_rd (range_cut h' 24 16)) HBS.out.2
      go_simp
    try simp only [Act.put, List.setIfInBounds_toArray, List.set_cons_zero, List.set_cons_succ]
    refine tk 21 47 (.agg (r6c (h6Of xs)).toArray) rfl rfl (by kernel_rfl) (by kernel_rfl) (by kernel_rfl) (fun _ _ _ h => h) (yields_build (by rfl) _ _ rfl ?_) hS ?_
    · rw [HH.out]
      exact built6 ⟨V / 1048576 % 256, V % 1048576, L, xs.getD 6 0, xs.getD 7 0, (xs.drop 8).take 16, (xs.drop 24).take 16⟩
    try simp only [Act.put, List.setIfInBounds_toArray, List.set_cons_zero, List.set_cons_succ]
    refine wpAnyH_ready (rs := [22]) (by kernel_rfl) (by simp) (AllReadyH.cons rfl (fun K hK => ?_) AllReadyH.nil)
    rw [if_pos (by rfl)]
    refine wp_store_mid 30 _ _ rfl w.heap.size 0 (r6c (h6Of xs)).toArray rfl rfl HTH.out infR6 (all_oneCell_toArray (r6c_one _)) ?_
    have hrz : (wA.drew.setCells w.heap.size 0 (r6c (h6Of xs))).rangeAt bb oo (bv xs) := World.rangeAt_setCells_apart hS _ _ _ (.inl (by have := HLT.out; omega))
    clear hS
    refine hK.out _ _ (hrz) (fun hS => ?_)
    clear hK K
    refine tk 23 3 (.int .i64 0) rfl rfl (by kernel_rfl) (by kernel_rfl) (by kernel_rfl) (fun _ _ _ h => h) (Or.inl ⟨by rfl, fun w' h' => ?_⟩) hS ?_
    · go_simp
    refine wpAnyH_done (by kernel_rfl) ?_ _
    go_wp2_with fail
    refine bodyPost_ret (ret_mid2 Try.results13 _ _ _ _ (r6c (h6Of xs)) _ rfl (World.rangeAt_setCells_same _ _ _ _ (by exact HTH.out)) Try.underlying30 rfl infR6 _ rfl) rfl ⟨?_, ?_⟩
    · rw [HE.out, HHP.out]
      rfl
    · have h2 : Below w.heap.size w wA.drew := ⟨HBA.out.os, HBA.out.tape, HBA.out.output, HBA.out.size, HBA.out.block⟩
      exact Below.setCells h2 _ (Nat.le_refl _) _ _
  · have HE : Hid (peE xs = 50) := by show _ = _; unfold peE; rw [if_neg (by have := HN.out; omega), HV.out, if_neg h6]
    have HHP : Hid (r6P xs = r60) := by show _ = _; unfold r6P; rw [HE.out, if_neg (by omega)]
    have hb6 : (V / 268435456 != 6) = true := by simpa using h6
    go_enter Try.func13, Try.ntmps13
    go_upto_region 1 with fail
    change Code.wp _ _ _ _ (w.alloc (.cells r60.toArray 30))
    rw [hwA]
    clear hwA
    go_wp2_with fail
    refine (refGet_any _ _ _ xs 0 4 _ HN.out HRA.out HB.out (by omega)).mono ?_
    rintro e w1 ⟨rfl, rfl⟩
    rw [HV.out]
    go_wp2_with (first
      | (refine wpList_build_run (cells := r60.toArray) rfl 30 _ rfl ?_ ?_; · exact built0)
      | (refine stC 30 _ _ rfl rfl w.heap.size 0 r60 rfl rfl HTH.out infR6 r60_one ?_))
    refine bodyPost_ret (ret_mid2 Try.results13 _ _ _ _ r60 _ rfl (World.rangeAt_setCells_same _ _ _ _ HTH.out) Try.underlying30 rfl infR6 _ rfl) rfl ⟨?_, Below.setCells HBA.out _ (Nat.le_refl _) _ _⟩
    rw [HE.out, HHP.out]
    rfl
end Go.Proofs.Ythipnkaghddbhaa

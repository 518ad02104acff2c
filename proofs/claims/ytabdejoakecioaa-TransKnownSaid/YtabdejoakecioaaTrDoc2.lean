/-
  The document's Length and pseudo of layer 7. Conditions: numbers that fit their Go types, texts of bytes that are not too long.
-/
import Derived.Test.YtabdejoakecioaaTrDoc
namespace Go.Proofs.Ytabdejoakecioaa
open Go.RowKit

theorem rcs_c (s : Pl) : (rcs s).toArray[0]? = some (.int .u8 s.pro) ∧ (rcs s).toArray[8]? = some (.string (str s.op)) ∧ (rcs s).toArray[11]? = some (.string (str s.dt)) := ⟨rfl, rfl, rfl⟩
set_option maxRecDepth 100000 in
set_option maxHeartbeats 2000000 in
theorem r7Length_any (s : Pl) (w : World) (ho : s.op.length ≤ 1000000) (hd : s.dt.length ≤ 1000000000000000) : Calls Try.prog 27 #[.agg (rcs s).toArray] w (Gives w (.int .i64 ((hdN s.pro : Int) + (s.op.length : Int) + (s.dt.length : Int)))) := by
  obtain ⟨wA, hwA⟩ : ∃ x, w.alloc (.cells (rcs s).toArray 30) = x := ⟨_, rfl⟩
  have hbA : Below w.heap.size w wA := by rw [← hwA]; exact (Below.refl _ _).alloc (Nat.le_refl _) _
  have hrA : wA.rangeAt w.heap.size 0 (rcs s) := by rw [← hwA]; exact range_new _ _ _
  have HB := Lib.hid hbA
  have hS0 : wA.cell? ⟨w.heap.size, 0, none⟩ = some (.int .u8 s.pro) ∧ wA.cell? ⟨w.heap.size, 8, none⟩ = some (.string (str s.op)) ∧ wA.cell? ⟨w.heap.size, 11, none⟩ = some (.string (str s.dt)) := ⟨range_cell hrA (rcs_c s).1, range_cell hrA (rcs_c s).2.1, range_cell hrA (rcs_c s).2.2⟩
  have hn : hdN s.pro ≤ 20 := by unfold hdN; (repeat' split) <;> omega
  have hz1 : (str s.op).size = s.op.length := str_size _
  have hz2 : (str s.dt).size = s.dt.length := str_size _
  obtain ⟨u1, hu1⟩ : ∃ x, str s.op = x := ⟨_, rfl⟩
  obtain ⟨u2, hu2⟩ : ∃ x, str s.dt = x := ⟨_, rfl⟩
  rw [hu1] at hz1 hS0
  rw [hu2] at hz2 hS0
  have HZ1 := Lib.hid hz1
  have HZ2 := Lib.hid hz2
  obtain ⟨n, hn'⟩ : ∃ x, s.op.length = x := ⟨_, rfl⟩
  obtain ⟨m, hm'⟩ : ∃ x, s.dt.length = x := ⟨_, rfl⟩
  obtain ⟨d, hd'⟩ : ∃ x, hdN s.pro = x := ⟨_, rfl⟩
  have HD := Lib.hid hd'
  rw [hn'] at ho HZ1 ⊢
  rw [hm'] at hd HZ2 ⊢
  rw [hd'] at hn ⊢
  have HW1 : Hid (IntKind.i64.wrap ((d : Int) + (n : Int)) = (d : Int) + (n : Int)) := by show _ = _; rw [IntKind.wrap_i64]; omega
  have HW2 : Hid (IntKind.i64.wrap ((d : Int) + (n : Int) + (m : Int)) = (d : Int) + (n : Int) + (m : Int)) := by show _ = _; rw [IntKind.wrap_i64]; omega
  obtain ⟨cs, hcs⟩ : ∃ cs, (rcs s).toArray = cs := ⟨_, rfl⟩
  rw [hcs] at hwA ⊢
  clear hcs hbA hrA hz1 hz2 hu1 hu2 hn' hm' hd' hn ho hd
  go_enter Try.func27, Try.ntmps27
  go_wp2_with fail
  refine wp_region_held_drew (S := fun w' => w'.cell? ⟨w.heap.size, 0, none⟩ = some (.int .u8 s.pro) ∧ w'.cell? ⟨w.heap.size, 8, none⟩ = some (.string u1) ∧ w'.cell? ⟨w.heap.size, 11, none⟩ = some (.string u2)) (by kernel_rfl) hS0 (fun hS => ?_)
  refine tk 0 3 (.pointer (some ⟨w.heap.size, 0, none⟩)) rfl rfl (by kernel_rfl) (by kernel_rfl) (by kernel_rfl) (fun _ _ _ h => h) (Or.inl ⟨by rfl, fun w' h' => ?_⟩) hS ?_
  · go_simp
  try simp only [Act.put, List.setIfInBounds_toArray, List.set_cons_zero, List.set_cons_succ]
  refine tk 1 4 (.int .u8 s.pro) rfl rfl (by kernel_rfl) (by kernel_rfl) (by kernel_rfl) (fun _ _ _ h => h) (Or.inl ⟨by rfl, fun w' h' => ?_⟩) hS ?_
  · have hc := h'.1
    go_simp
  try simp only [Act.put, List.setIfInBounds_toArray, List.set_cons_zero, List.set_cons_succ]
  refine tk 3 6 (.pointer (some ⟨w.heap.size, 8, none⟩)) rfl rfl (by kernel_rfl) (by kernel_rfl) (by kernel_rfl) (fun _ _ _ h => h) (Or.inl ⟨by rfl, fun w' h' => ?_⟩) hS ?_
  · go_simp
  try simp only [Act.put, List.setIfInBounds_toArray, List.set_cons_zero, List.set_cons_succ]
  refine tk 4 7 (.string u1) rfl rfl (by kernel_rfl) (by kernel_rfl) (by kernel_rfl) (fun _ _ _ h => h) (Or.inl ⟨by rfl, fun w' h' => ?_⟩) hS ?_
  · have hc := h'.2.1
    go_simp
  try simp only [Act.put, List.setIfInBounds_toArray, List.set_cons_zero, List.set_cons_succ]
  refine tk 5 8 (.int .i64 (n : Int)) rfl rfl (by kernel_rfl) (by kernel_rfl) (by kernel_rfl) (fun _ _ _ h => h) (Or.inl ⟨by rfl, fun w' h' => ?_⟩) hS ?_
  · have hz := HZ1.out
    go_simp
  try simp only [Act.put, List.setIfInBounds_toArray, List.set_cons_zero, List.set_cons_succ]
  refine tk 7 10 (.pointer (some ⟨w.heap.size, 11, none⟩)) rfl rfl (by kernel_rfl) (by kernel_rfl) (by kernel_rfl) (fun _ _ _ h => h) (Or.inl ⟨by rfl, fun w' h' => ?_⟩) hS ?_
  · go_simp
  try simp only [Act.put, List.setIfInBounds_toArray, List.set_cons_zero, List.set_cons_succ]
  refine tk 8 11 (.string u2) rfl rfl (by kernel_rfl) (by kernel_rfl) (by kernel_rfl) (fun _ _ _ h => h) (Or.inl ⟨by rfl, fun w' h' => ?_⟩) hS ?_
  · have hc := h'.2.2
    go_simp
  try simp only [Act.put, List.setIfInBounds_toArray, List.set_cons_zero, List.set_cons_succ]
  refine tk 9 12 (.int .i64 (m : Int)) rfl rfl (by kernel_rfl) (by kernel_rfl) (by kernel_rfl) (fun _ _ _ h => h) (Or.inl ⟨by rfl, fun w' h' => ?_⟩) hS ?_
  · have hz := HZ2.out
    go_simp
  try simp only [Act.put, List.setIfInBounds_toArray, List.set_cons_zero, List.set_cons_succ]
  refine wpAnyH_ready (rs := [2]) (by kernel_rfl) (by simp) (AllReadyH.cons rfl (fun K hK => ?_) AllReadyH.nil)
  rw [if_pos (by rfl)]
  go_wp2_with fail
  refine (r7Head_any s.pro _).mono ?_
  rintro e wz ⟨rfl, hz⟩
  rw [HD.out]
  have hS1 : wz.cell? ⟨w.heap.size, 0, none⟩ = some (.int .u8 s.pro) ∧ wz.cell? ⟨w.heap.size, 8, none⟩ = some (.string u1) ∧ wz.cell? ⟨w.heap.size, 11, none⟩ = some (.string u2) := by rw [← hz]; exact hS0
  have HBZ : Hid (Below w.heap.size w wz) := by show Below _ _ _; rw [← hz]; exact ⟨HB.out.os, HB.out.tape, HB.out.output, HB.out.size, HB.out.block⟩
  clear hz
  clear hS
  refine hK.out _ _ (hS1) (fun hS => ?_)
  clear hK K
  try simp only [Act.put, List.setIfInBounds_toArray, List.set_cons_zero, List.set_cons_succ]
  refine tk 6 9 (.int .i64 ((d : Int) + (n : Int))) rfl rfl (by kernel_rfl) (by kernel_rfl) (by kernel_rfl) (fun _ _ _ h => h) (Or.inl ⟨by rfl, fun w' h' => ?_⟩) hS ?_
  · have hw := HW1.out
    go_simp
  try simp only [Act.put, List.setIfInBounds_toArray, List.set_cons_zero, List.set_cons_succ]
  refine tk 10 13 (.int .i64 ((d : Int) + (n : Int) + (m : Int))) rfl rfl (by kernel_rfl) (by kernel_rfl) (by kernel_rfl) (fun _ _ _ h => h) (Or.inl ⟨by rfl, fun w' h' => ?_⟩) hS ?_
  · have hw := HW2.out
    go_simp
  try simp only [Act.put, List.setIfInBounds_toArray, List.set_cons_zero, List.set_cons_succ]
  refine tk 11 2 (.int .i64 ((d : Int) + (n : Int) + (m : Int))) rfl rfl (by kernel_rfl) (by kernel_rfl) (by kernel_rfl) (fun _ _ _ h => h) (Or.inl ⟨by rfl, fun w' h' => ?_⟩) hS ?_
  · go_simp
  refine wpAnyH_done (by kernel_rfl) ?_ _
  go_wp2_with fail
  go_ret
  exact ⟨rfl, HBZ.out⟩
set_option maxRecDepth 100000 in
set_option maxHeartbeats 2000000 in
theorem r7pseudo_no (p : Int) (m : Nat) (xs ys : List Int) (w : World) (had : adB xs.length ys.length = false) :
    Calls Try.prog 26 #[.int .u8 p, .int .i64 m, .string (str xs), .string (str ys)] w (Gives w (.tuple #[.string ⟨#[]⟩, .bool false])) := by
  have hz1 : (str xs).size = xs.length := str_size _
  have hz2 : (str ys).size = ys.length := str_size _
  obtain ⟨u1, hu1⟩ : ∃ x, str xs = x := ⟨_, rfl⟩
  obtain ⟨u2, hu2⟩ : ∃ x, str ys = x := ⟨_, rfl⟩
  rw [hu1] at hz1 ⊢
  rw [hu2] at hz2 ⊢
  rw [← hz1, ← hz2] at had
  by_cases h1 : u1.size = u2.size
  · have q1 : ((u1.size : Int) != (u2.size : Int)) = false := by simp [h1]
    have h4 : ((u1.size : Int) != 4) = true := by
      rw [bne_iff_ne]; intro e
      rw [(adB_iff _ _).2 ⟨h1, .inl (by omega)⟩] at had; cases had
    have h16 : ((u1.size : Int) != 16) = true := by
      rw [bne_iff_ne]; intro e
      rw [(adB_iff _ _).2 ⟨h1, .inr (by omega)⟩] at had; cases had
    clear hz1 hz2 hu1 hu2 had h1
    go_enter Try.func26, Try.ntmps26
    go_wp2_with fail
    go_ret2
    exact ⟨rfl, Below.refl _ _⟩
  · have q1 : ((u1.size : Int) != (u2.size : Int)) = true := by rw [bne_iff_ne]; omega
    clear hz1 hz2 hu1 hu2 had h1
    go_enter Try.func26, Try.ntmps26
    go_wp2_with fail
    go_ret2
    exact ⟨rfl, Below.refl _ _⟩
set_option maxRecDepth 100000 in
set_option maxHeartbeats 2000000 in
theorem r7pseudo_yes (p : Int) (m : Nat) (xs ys : List Int) (w : World) (had : adB xs.length ys.length = true) (p0 : 0 ≤ p) (p1 : p < 256) (hm : m ≤ 65535) :
    Calls Try.prog 26 #[.int .u8 p, .int .i64 m, .string (str xs), .string (str ys)] w (Gives w (.tuple #[.string (str (if p = 1 then [] else psd p m xs ys)), .bool true])) := by
  obtain ⟨ha, hb⟩ := (adB_iff _ _).1 had
  have hz1 : (str xs).size = xs.length := str_size _
  have hz2 : (str ys).size = ys.length := str_size _
  have hm1 : IntKind.u16.wrap (m : Int) = (m : Int) := by rw [IntKind.wrap_u16]; omega
  have hm2 : IntKind.u32.wrap (m : Int) = (m : Int) := by rw [IntKind.wrap_u32]; omega
  have hp2 : IntKind.u32.wrap p = p := by rw [IntKind.wrap_u32]; omega
  have q1 : ((xs.length : Int) != (ys.length : Int)) = false := by simp [ha]
  have P0 := Lib.hid (And.intro p0 p1)
  have HM := Lib.hid hm
  have HLX : Hid (xs.length ≤ 16 ∧ ys.length ≤ 16) := by show _ ∧ _; omega
  have HA1 := fun (w : World) => run_str_add w xs ys (by omega)
  obtain ⟨u1, hu1⟩ : ∃ x, str xs = x := ⟨_, rfl⟩
  obtain ⟨u2, hu2⟩ : ∃ x, str ys = x := ⟨_, rfl⟩
  rw [hu1] at hz1 HA1 ⊢
  rw [hu2] at hz2 HA1 ⊢
  obtain ⟨v, hv⟩ : ∃ x, xs ++ ys = x := ⟨_, rfl⟩
  have HV := Lib.hid hv
  have hvl : v.length ≤ 32 := by rw [← hv, List.length_append]; omega
  rw [hv] at HA1
  obtain ⟨uv, huv⟩ : ∃ x, str v = x := ⟨_, rfl⟩
  have HUV := Lib.hid huv
  rw [huv] at HA1
  clear had hu1 hu2 p0 p1 hm hv huv
  by_cases h1 : p = 1
  · subst h1
    have hz : (if (1 : Int) = 1 then ([] : List Int) else psd 1 m xs ys) = [] := if_pos rfl
    rw [hz]
    have hs : str [] = ⟨#[]⟩ := rfl
    rw [hs]
    rcases hb with hb | hb
    · have q4 : ((xs.length : Int) != 4) = false := by simp [hb]
      rw [← hz1] at q4
      rw [← hz1, ← hz2] at q1
      clear hz1 hz2 hz hs hb ha
      go_enter Try.func26, Try.ntmps26
      go_wp2_with fail
      go_ret2
      exact ⟨rfl, Below.refl _ _⟩
    · have q4 : ((xs.length : Int) != 4) = true := by rw [bne_iff_ne]; omega
      have q16 : ((xs.length : Int) != 16) = false := by simp [hb]
      rw [← hz1] at q4 q16
      rw [← hz1, ← hz2] at q1
      clear hz1 hz2 hz hs hb ha
      go_enter Try.func26, Try.ntmps26
      go_wp2_with fail
      go_ret2
      exact ⟨rfl, Below.refl _ _⟩
  have h1b : (p == 1) = false := by simpa using h1
  have HG : Hid ((if p = 1 then ([] : List Int) else psd p m xs ys) = v ++ (if xs.length = 4 then be 2 p ++ be 2 m else be 4 m ++ be 4 p)) := by
    show _ = _; rw [if_neg h1, psd, HV.out]
  rw [HG.out]
  clear h1 HG
  rcases hb with hb | hb
  · rw [if_pos hb]
    have q4 : ((xs.length : Int) != 4) = false := by simp [hb]
    have q4' : ((xs.length : Int) == 4) = true := by simp [hb]
    have hpp : be 2 p = be 1 0 ++ be 1 p := by
      have h := P0.out
      show be 1 (p / 256) ++ [p % 256] = _
      rw [Int.ediv_eq_zero_of_lt h.1 h.2]; simp [be]
    rw [hpp]
    rw [← hz1] at q4 q4'
    rw [← hz1, ← hz2] at q1
    clear hz1 hz2 hb ha hpp
    go_enter Try.func26, Try.ntmps26
    go_wp2_with (exact HA1 _)
    refine (r7one_any 0 _ (by omega)).mono ?_
    rintro e w1 ⟨rfl, hb1⟩
    have HA2 := fun (w : World) => run_str_add w v (be 1 0) (by rw [be_length]; omega)
    rw [HUV.out] at HA2
    have HB1 := Lib.hid hb1
    clear hb1
    go_wp2_with fail
    refine (r7one_any p _ P0.out).mono ?_
    rintro e w2 ⟨rfl, hb2⟩
    have HA3 := fun (w : World) => run_str_add w (v ++ be 1 0) (be 1 p) (by simp [be_length]; omega)
    have HB2 := Lib.hid (HB1.out.trans (hb2.mono HB1.out.size))
    clear hb2 HB1
    go_wp2_with fail
    refine (r7two_any (m : Int) _ (by have := HM.out; omega)).mono ?_
    rintro e w3 ⟨rfl, hb3⟩
    have HA4 := fun (w : World) => run_str_add w (v ++ (be 1 0 ++ be 1 p)) (be 2 m) (by simp [be_length]; omega)
    have HB3 := Lib.hid (HB2.out.trans (hb3.mono HB2.out.size))
    clear hb3 HB2
    go_wp2_with fail
    go_ret2
    exact ⟨by simp only [List.append_assoc]; rfl, HB3.out⟩
  · rw [if_neg (by omega)]
    have q4 : ((xs.length : Int) != 4) = true := by rw [bne_iff_ne]; omega
    have q4' : ((xs.length : Int) == 4) = false := by simp; omega
    have q16 : ((xs.length : Int) != 16) = false := by simp [hb]
    rw [← hz1] at q4 q4' q16
    rw [← hz1, ← hz2] at q1
    clear hz1 hz2 hb ha
    go_enter Try.func26, Try.ntmps26
    go_wp2_with (exact HA1 _)
    refine (r7four_any (m : Int) _ (by have := HM.out; omega)).mono ?_
    rintro e w1 ⟨rfl, hb1⟩
    have HA2 := fun (w : World) => run_str_add w v (be 4 m) (by rw [be_length]; omega)
    rw [HUV.out] at HA2
    have HB1 := Lib.hid hb1
    clear hb1
    go_wp2_with fail
    refine (r7four_any p _ (by have := P0.out; omega)).mono ?_
    rintro e w2 ⟨rfl, hb2⟩
    have HA3 := fun (w : World) => run_str_add w (v ++ be 4 m) (be 4 p) (by simp [be_length]; omega)
    have HB2 := Lib.hid (HB1.out.trans (hb2.mono HB1.out.size))
    clear hb2 HB1
    go_wp2_with fail
    go_ret2
    exact ⟨rfl, HB2.out⟩
end Go.Proofs.Ytabdejoakecioaa

/-
  The document's stands of layer 7: how a segment stands with a checksum. Conditions: a segment that is right (of its protocol), whose numbers fit their Go types.
-/
import Derived.Test.YtabdejoakecioaaTrDoc2
namespace Go.Proofs.Ytabdejoakecioaa
open Go.RowKit

theorem add_named {xs ys : List Int} {u v z : ByteArray} (hu : str xs = u) (hv : str ys = v) (hz : str (xs ++ ys) = z) (hl : xs.length + ys.length ≤ 1000000) : Hid (∀ w : World, (Op.stringOp .add u v).run Try.prog w = .ok (.string z) w) := fun w => by
  rw [← hu, ← hv, ← hz]; exact run_str_add w xs ys hl

set_option maxRecDepth 100000 in
set_option maxHeartbeats 4000000 in
theorem r7stands_tcp (s : Pl) (c : Int) (w : World) (f : s.fit) (h6 : s.pro = 6) (ho : s.op.length ≤ 40) (hd : s.dt.length ≤ 65000) (c0 : 0 ≤ c ∧ c < 65536) :
    Calls Try.prog 29 #[.agg (rcs s).toArray, .int .u16 c] w (Gives w (.string (str (sbS s c)))) := by
  obtain ⟨wA, hwA⟩ : ∃ x, w.alloc (.cells (rcs s).toArray 30) = x := ⟨_, rfl⟩
  have hbA : Below w.heap.size w wA := by rw [← hwA]; exact (Below.refl _ _).alloc (Nat.le_refl _) _
  have hrA : wA.rangeAt w.heap.size 0 (rcs s) := by rw [← hwA]; exact range_new _ _ _
  have d0 : wA.cell? ⟨w.heap.size, 0, none⟩ = some (.int .u8 6) := by rw [range_cell hrA (rcs_c s).1, h6]
  have HBA := Lib.hid hbA
  have HCC := Lib.hid c0
  have HSZ : Hid ((str s.op).size = s.op.length) := str_size _
  have HSD : Hid ((str s.dt).size = s.dt.length) := str_size _
  have HC1 : Hid (∀ w' : World, w'.rangeAt w.heap.size 0 (rcs s) → w'.cell? ⟨w.heap.size, 1, none⟩ = some (.int .u16 s.src)) := fun _ h => range_cell h rfl
  have HF1 : Hid (0 ≤ s.src ∧ s.src < 65536) := by have := f.src; exact this
  have HC2 : Hid (∀ w' : World, w'.rangeAt w.heap.size 0 (rcs s) → w'.cell? ⟨w.heap.size, 2, none⟩ = some (.int .u16 s.dst)) := fun _ h => range_cell h rfl
  have HF2 : Hid (0 ≤ s.dst ∧ s.dst < 65536) := by have := f.dst; exact this
  have HC3 : Hid (∀ w' : World, w'.rangeAt w.heap.size 0 (rcs s) → w'.cell? ⟨w.heap.size, 3, none⟩ = some (.int .u32 s.seq)) := fun _ h => range_cell h rfl
  have HF3 : Hid (0 ≤ s.seq ∧ s.seq < 4294967296) := by have := f.seq; exact this
  have HC4 : Hid (∀ w' : World, w'.rangeAt w.heap.size 0 (rcs s) → w'.cell? ⟨w.heap.size, 4, none⟩ = some (.int .u32 s.ack)) := fun _ h => range_cell h rfl
  have HF4 : Hid (0 ≤ s.ack ∧ s.ack < 4294967296) := by have := f.ack; exact this
  have HC5 : Hid (∀ w' : World, w'.rangeAt w.heap.size 0 (rcs s) → w'.cell? ⟨w.heap.size, 5, none⟩ = some (.int .u8 s.fl)) := fun _ h => range_cell h rfl
  have HF5 : Hid (0 ≤ s.fl ∧ s.fl < 256) := by have := f.fl; exact this
  have HC6 : Hid (∀ w' : World, w'.rangeAt w.heap.size 0 (rcs s) → w'.cell? ⟨w.heap.size, 6, none⟩ = some (.int .u16 s.win)) := fun _ h => range_cell h rfl
  have HF6 : Hid (0 ≤ s.win ∧ s.win < 65536) := by have := f.win; exact this
  have HC7 : Hid (∀ w' : World, w'.rangeAt w.heap.size 0 (rcs s) → w'.cell? ⟨w.heap.size, 7, none⟩ = some (.int .u16 s.urg)) := fun _ h => range_cell h rfl
  have HF7 : Hid (0 ≤ s.urg ∧ s.urg < 65536) := by have := f.urg; exact this
  have HC8 : Hid (∀ w' : World, w'.rangeAt w.heap.size 0 (rcs s) → w'.cell? ⟨w.heap.size, 8, none⟩ = some (.string (str s.op))) := fun _ h => range_cell h rfl
  have HC11 : Hid (∀ w' : World, w'.rangeAt w.heap.size 0 (rcs s) → w'.cell? ⟨w.heap.size, 11, none⟩ = some (.string (str s.dt))) := fun _ h => range_cell h rfl
  have HO1 : Hid ((IntKind.i64.wrap ((s.op.length : Int) * 4) = (s.op.length : Int) * 4 ∧ IntKind.i64.wrap (80 + (s.op.length : Int) * 4) = 80 + (s.op.length : Int) * 4) ∧ IntKind.u8.wrap (80 + (s.op.length : Int) * 4) = 80 + (s.op.length : Int) * 4 ∧ 0 ≤ 80 + (s.op.length : Int) * 4 ∧ 80 + (s.op.length : Int) * 4 < 256) := by
    refine ⟨⟨?_, ?_⟩, ?_, ?_, ?_⟩
    · rw [IntKind.wrap_i64]; omega
    · rw [IntKind.wrap_i64]; omega
    · rw [IntKind.wrap_u8]; omega
    · omega
    · omega
  obtain ⟨p0, hp0⟩ : ∃ x, be 2 (s.src) = x := ⟨_, rfl⟩
  have hl0 : p0.length = 2 := by rw [← hp0, be_length]
  obtain ⟨p1, hp1⟩ : ∃ x, be 2 (s.dst) = x := ⟨_, rfl⟩
  have hl1 : p1.length = 2 := by rw [← hp1, be_length]
  obtain ⟨p2, hp2⟩ : ∃ x, be 4 (s.seq) = x := ⟨_, rfl⟩
  have hl2 : p2.length = 4 := by rw [← hp2, be_length]
  obtain ⟨p3, hp3⟩ : ∃ x, be 4 (s.ack) = x := ⟨_, rfl⟩
  have hl3 : p3.length = 4 := by rw [← hp3, be_length]
  obtain ⟨p4, hp4⟩ : ∃ x, be 1 (80 + (s.op.length : Int) * 4) = x := ⟨_, rfl⟩
  have hl4 : p4.length = 1 := by rw [← hp4, be_length]
  obtain ⟨p5, hp5⟩ : ∃ x, be 1 (s.fl) = x := ⟨_, rfl⟩
  have hl5 : p5.length = 1 := by rw [← hp5, be_length]
  obtain ⟨p6, hp6⟩ : ∃ x, be 2 (s.win) = x := ⟨_, rfl⟩
  have hl6 : p6.length = 2 := by rw [← hp6, be_length]
  obtain ⟨p7, hp7⟩ : ∃ x, be 2 (c) = x := ⟨_, rfl⟩
  have hl7 : p7.length = 2 := by rw [← hp7, be_length]
  obtain ⟨p8, hp8⟩ : ∃ x, be 2 (s.urg) = x := ⟨_, rfl⟩
  have hl8 : p8.length = 2 := by rw [← hp8, be_length]
  obtain ⟨q1, hq1⟩ : ∃ x, p0 ++ p1 = x := ⟨_, rfl⟩
  obtain ⟨q2, hq2⟩ : ∃ x, q1 ++ p2 = x := ⟨_, rfl⟩
  obtain ⟨q3, hq3⟩ : ∃ x, q2 ++ p3 = x := ⟨_, rfl⟩
  obtain ⟨q4, hq4⟩ : ∃ x, q3 ++ p4 = x := ⟨_, rfl⟩
  obtain ⟨q5, hq5⟩ : ∃ x, q4 ++ p5 = x := ⟨_, rfl⟩
  obtain ⟨q6, hq6⟩ : ∃ x, q5 ++ p6 = x := ⟨_, rfl⟩
  obtain ⟨q7, hq7⟩ : ∃ x, q6 ++ p7 = x := ⟨_, rfl⟩
  obtain ⟨q8, hq8⟩ : ∃ x, q7 ++ p8 = x := ⟨_, rfl⟩
  have HSB : Hid (sbS s c = q8 ++ s.op ++ s.dt) := by
    show _ = _
    rw [← hq8, ← hq7, ← hq6, ← hq5, ← hq4, ← hq3, ← hq2, ← hq1, ← hp0, ← hp1, ← hp2, ← hp3, ← hp4, ← hp5, ← hp6, ← hp7, ← hp8]
    unfold sbS hdS; rw [if_pos h6, List.nil_append]
  have hn1 : q1.length = p0.length + p1.length := by rw [← hq1, List.length_append]
  have hn2 : q2.length = q1.length + p2.length := by rw [← hq2, List.length_append]
  have hn3 : q3.length = q2.length + p3.length := by rw [← hq3, List.length_append]
  have hn4 : q4.length = q3.length + p4.length := by rw [← hq4, List.length_append]
  have hn5 : q5.length = q4.length + p5.length := by rw [← hq5, List.length_append]
  have hn6 : q6.length = q5.length + p6.length := by rw [← hq6, List.length_append]
  have hn7 : q7.length = q6.length + p7.length := by rw [← hq7, List.length_append]
  have hn8 : q8.length = q7.length + p8.length := by rw [← hq8, List.length_append]
  obtain ⟨u0, hu0⟩ : ∃ x, str p0 = x := ⟨_, rfl⟩
  have HU0 : Hid (str (be 2 (s.src)) = u0) := by show _ = _; rw [hp0, hu0]
  obtain ⟨u1, hu1⟩ : ∃ x, str p1 = x := ⟨_, rfl⟩
  have HU1 : Hid (str (be 2 (s.dst)) = u1) := by show _ = _; rw [hp1, hu1]
  obtain ⟨u2, hu2⟩ : ∃ x, str p2 = x := ⟨_, rfl⟩
  have HU2 : Hid (str (be 4 (s.seq)) = u2) := by show _ = _; rw [hp2, hu2]
  obtain ⟨u3, hu3⟩ : ∃ x, str p3 = x := ⟨_, rfl⟩
  have HU3 : Hid (str (be 4 (s.ack)) = u3) := by show _ = _; rw [hp3, hu3]
  obtain ⟨u4, hu4⟩ : ∃ x, str p4 = x := ⟨_, rfl⟩
  have HU4 : Hid (str (be 1 (80 + (s.op.length : Int) * 4)) = u4) := by show _ = _; rw [hp4, hu4]
  obtain ⟨u5, hu5⟩ : ∃ x, str p5 = x := ⟨_, rfl⟩
  have HU5 : Hid (str (be 1 (s.fl)) = u5) := by show _ = _; rw [hp5, hu5]
  obtain ⟨u6, hu6⟩ : ∃ x, str p6 = x := ⟨_, rfl⟩
  have HU6 : Hid (str (be 2 (s.win)) = u6) := by show _ = _; rw [hp6, hu6]
  obtain ⟨u7, hu7⟩ : ∃ x, str p7 = x := ⟨_, rfl⟩
  have HU7 : Hid (str (be 2 (c)) = u7) := by show _ = _; rw [hp7, hu7]
  obtain ⟨u8, hu8⟩ : ∃ x, str p8 = x := ⟨_, rfl⟩
  have HU8 : Hid (str (be 2 (s.urg)) = u8) := by show _ = _; rw [hp8, hu8]
  obtain ⟨v1, hv1⟩ : ∃ x, str q1 = x := ⟨_, rfl⟩
  have HA1 := add_named (xs := p0) (ys := p1) (z := v1) hu0 hu1 (by rw [hq1]; exact hv1) (by omega)
  obtain ⟨v2, hv2⟩ : ∃ x, str q2 = x := ⟨_, rfl⟩
  have HA2 := add_named (xs := q1) (ys := p2) (z := v2) hv1 hu2 (by rw [hq2]; exact hv2) (by omega)
  obtain ⟨v3, hv3⟩ : ∃ x, str q3 = x := ⟨_, rfl⟩
  have HA3 := add_named (xs := q2) (ys := p3) (z := v3) hv2 hu3 (by rw [hq3]; exact hv3) (by omega)
  obtain ⟨v4, hv4⟩ : ∃ x, str q4 = x := ⟨_, rfl⟩
  have HA4 := add_named (xs := q3) (ys := p4) (z := v4) hv3 hu4 (by rw [hq4]; exact hv4) (by omega)
  obtain ⟨v5, hv5⟩ : ∃ x, str q5 = x := ⟨_, rfl⟩
  have HA5 := add_named (xs := q4) (ys := p5) (z := v5) hv4 hu5 (by rw [hq5]; exact hv5) (by omega)
  obtain ⟨v6, hv6⟩ : ∃ x, str q6 = x := ⟨_, rfl⟩
  have HA6 := add_named (xs := q5) (ys := p6) (z := v6) hv5 hu6 (by rw [hq6]; exact hv6) (by omega)
  obtain ⟨v7, hv7⟩ : ∃ x, str q7 = x := ⟨_, rfl⟩
  have HA7 := add_named (xs := q6) (ys := p7) (z := v7) hv6 hu7 (by rw [hq7]; exact hv7) (by omega)
  obtain ⟨v8, hv8⟩ : ∃ x, str q8 = x := ⟨_, rfl⟩
  have HA8 := add_named (xs := q7) (ys := p8) (z := v8) hv7 hu8 (by rw [hq8]; exact hv8) (by omega)
  obtain ⟨uo, huo⟩ : ∃ x, str s.op = x := ⟨_, rfl⟩
  obtain ⟨vo, hvo⟩ : ∃ x, str (q8 ++ s.op) = x := ⟨_, rfl⟩
  have HAO := add_named hv8 huo hvo (by omega)
  obtain ⟨ud, hud⟩ : ∃ x, str s.dt = x := ⟨_, rfl⟩
  obtain ⟨vd, hvd⟩ : ∃ x, str (q8 ++ s.op ++ s.dt) = x := ⟨_, rfl⟩
  have HAD := add_named hvo hud hvd (by rw [List.length_append]; omega)
  rw [huo] at HC8 HSZ
  have HUO := Lib.hid huo
  rw [hud] at HC11 HSD
  have HFIN : Hid (str (sbS s c) = vd) := by show _ = _; rw [HSB.out, hvd]
  rw [HFIN.out]
  have hrA0 := hrA
  obtain ⟨cs, hcs⟩ : ∃ cs, (rcs s).toArray = cs := ⟨_, rfl⟩
  rw [hcs] at hwA ⊢
  clear hcs f ho hd h6 hbA hrA c0 HSB hud hvd hp0 hl0 hu0 hp1 hl1 hu1 hp2 hl2 hu2 hp3 hl3 hu3 hp4 hl4 hu4 hp5 hl5 hu5 hp6 hl6 hu6 hp7 hl7 hu7 hp8 hl8 hu8 hq1 hn1 hv1 hq2 hn2 hv2 hq3 hn3 hv3 hq4 hn4 hv4 hq5 hn5 hv5 hq6 hn6 hv6 hq7 hn7 hv7 hq8 hn8 hv8 huo hvo
  go_enter Try.func29, Try.ntmps29
  go_wp2_with fail
  refine wp_region_held_drew (S := fun w' => w'.rangeAt w.heap.size 0 (rcs s)) (by kernel_rfl) hrA0 (fun hS => ?_)
  refine tk 0 9 (.pointer (some ⟨w.heap.size, 1, none⟩)) rfl rfl (by kernel_rfl) (by kernel_rfl) (by kernel_rfl) (fun _ _ _ h => h) (Or.inl ⟨by rfl, fun w' h' => ?_⟩) hS ?_
  · go_simp
  try simp only [Act.put, List.setIfInBounds_toArray, List.set_cons_zero, List.set_cons_succ]
  refine tk 1 10 (.int .u16 s.src) rfl rfl (by kernel_rfl) (by kernel_rfl) (by kernel_rfl) (fun _ _ _ h => h) (Or.inl ⟨by rfl, fun w' h' => ?_⟩) hS ?_
  · have hc := HC1.out _ h'
    go_simp
  try simp only [Act.put, List.setIfInBounds_toArray, List.set_cons_zero, List.set_cons_succ]
  refine tk 3 12 (.pointer (some ⟨w.heap.size, 2, none⟩)) rfl rfl (by kernel_rfl) (by kernel_rfl) (by kernel_rfl) (fun _ _ _ h => h) (Or.inl ⟨by rfl, fun w' h' => ?_⟩) hS ?_
  · go_simp
  try simp only [Act.put, List.setIfInBounds_toArray, List.set_cons_zero, List.set_cons_succ]
  refine tk 4 13 (.int .u16 s.dst) rfl rfl (by kernel_rfl) (by kernel_rfl) (by kernel_rfl) (fun _ _ _ h => h) (Or.inl ⟨by rfl, fun w' h' => ?_⟩) hS ?_
  · have hc := HC2.out _ h'
    go_simp
  try simp only [Act.put, List.setIfInBounds_toArray, List.set_cons_zero, List.set_cons_succ]
  refine tk 7 16 (.pointer (some ⟨w.heap.size, 3, none⟩)) rfl rfl (by kernel_rfl) (by kernel_rfl) (by kernel_rfl) (fun _ _ _ h => h) (Or.inl ⟨by rfl, fun w' h' => ?_⟩) hS ?_
  · go_simp
  try simp only [Act.put, List.setIfInBounds_toArray, List.set_cons_zero, List.set_cons_succ]
  refine tk 8 17 (.int .u32 s.seq) rfl rfl (by kernel_rfl) (by kernel_rfl) (by kernel_rfl) (fun _ _ _ h => h) (Or.inl ⟨by rfl, fun w' h' => ?_⟩) hS ?_
  · have hc := HC3.out _ h'
    go_simp
  try simp only [Act.put, List.setIfInBounds_toArray, List.set_cons_zero, List.set_cons_succ]
  refine tk 11 20 (.pointer (some ⟨w.heap.size, 4, none⟩)) rfl rfl (by kernel_rfl) (by kernel_rfl) (by kernel_rfl) (fun _ _ _ h => h) (Or.inl ⟨by rfl, fun w' h' => ?_⟩) hS ?_
  · go_simp
  try simp only [Act.put, List.setIfInBounds_toArray, List.set_cons_zero, List.set_cons_succ]
  refine tk 12 21 (.int .u32 s.ack) rfl rfl (by kernel_rfl) (by kernel_rfl) (by kernel_rfl) (fun _ _ _ h => h) (Or.inl ⟨by rfl, fun w' h' => ?_⟩) hS ?_
  · have hc := HC4.out _ h'
    go_simp
  try simp only [Act.put, List.setIfInBounds_toArray, List.set_cons_zero, List.set_cons_succ]
  refine tk 15 24 (.pointer (some ⟨w.heap.size, 8, none⟩)) rfl rfl (by kernel_rfl) (by kernel_rfl) (by kernel_rfl) (fun _ _ _ h => h) (Or.inl ⟨by rfl, fun w' h' => ?_⟩) hS ?_
  · go_simp
  try simp only [Act.put, List.setIfInBounds_toArray, List.set_cons_zero, List.set_cons_succ]
  refine tk 16 25 (.string uo) rfl rfl (by kernel_rfl) (by kernel_rfl) (by kernel_rfl) (fun _ _ _ h => h) (Or.inl ⟨by rfl, fun w' h' => ?_⟩) hS ?_
  · have hc := HC8.out _ h'
    go_simp
  try simp only [Act.put, List.setIfInBounds_toArray, List.set_cons_zero, List.set_cons_succ]
  refine tk 17 26 (.int .i64 (s.op.length : Int)) rfl rfl (by kernel_rfl) (by kernel_rfl) (by kernel_rfl) (fun _ _ _ h => h) (Or.inl ⟨by rfl, fun w' h' => ?_⟩) hS ?_
  · have hz := HSZ.out
    go_simp
  try simp only [Act.put, List.setIfInBounds_toArray, List.set_cons_zero, List.set_cons_succ]
  refine tk 18 27 (.int .i64 ((s.op.length : Int) * 4)) rfl rfl (by kernel_rfl) (by kernel_rfl) (by kernel_rfl) (fun _ _ _ h => h) (Or.inl ⟨by rfl, fun w' h' => ?_⟩) hS ?_
  · have hw := HO1.out.1.1
    go_simp
  try simp only [Act.put, List.setIfInBounds_toArray, List.set_cons_zero, List.set_cons_succ]
  refine tk 19 28 (.int .i64 (80 + (s.op.length : Int) * 4)) rfl rfl (by kernel_rfl) (by kernel_rfl) (by kernel_rfl) (fun _ _ _ h => h) (Or.inl ⟨by rfl, fun w' h' => ?_⟩) hS ?_
  · have hw := HO1.out.1.2
    go_simp
  try simp only [Act.put, List.setIfInBounds_toArray, List.set_cons_zero, List.set_cons_succ]
  refine tk 20 29 (.int .u8 (80 + (s.op.length : Int) * 4)) rfl rfl (by kernel_rfl) (by kernel_rfl) (by kernel_rfl) (fun _ _ _ h => h) (Or.inl ⟨by rfl, fun w' h' => ?_⟩) hS ?_
  · have hw := HO1.out.2.1
    go_simp
  try simp only [Act.put, List.setIfInBounds_toArray, List.set_cons_zero, List.set_cons_succ]
  refine tk 23 32 (.pointer (some ⟨w.heap.size, 5, none⟩)) rfl rfl (by kernel_rfl) (by kernel_rfl) (by kernel_rfl) (fun _ _ _ h => h) (Or.inl ⟨by rfl, fun w' h' => ?_⟩) hS ?_
  · go_simp
  try simp only [Act.put, List.setIfInBounds_toArray, List.set_cons_zero, List.set_cons_succ]
  refine tk 24 33 (.int .u8 s.fl) rfl rfl (by kernel_rfl) (by kernel_rfl) (by kernel_rfl) (fun _ _ _ h => h) (Or.inl ⟨by rfl, fun w' h' => ?_⟩) hS ?_
  · have hc := HC5.out _ h'
    go_simp
  try simp only [Act.put, List.setIfInBounds_toArray, List.set_cons_zero, List.set_cons_succ]
  refine tk 27 36 (.pointer (some ⟨w.heap.size, 6, none⟩)) rfl rfl (by kernel_rfl) (by kernel_rfl) (by kernel_rfl) (fun _ _ _ h => h) (Or.inl ⟨by rfl, fun w' h' => ?_⟩) hS ?_
  · go_simp
  try simp only [Act.put, List.setIfInBounds_toArray, List.set_cons_zero, List.set_cons_succ]
  refine tk 28 37 (.int .u16 s.win) rfl rfl (by kernel_rfl) (by kernel_rfl) (by kernel_rfl) (fun _ _ _ h => h) (Or.inl ⟨by rfl, fun w' h' => ?_⟩) hS ?_
  · have hc := HC6.out _ h'
    go_simp
  try simp only [Act.put, List.setIfInBounds_toArray, List.set_cons_zero, List.set_cons_succ]
  refine tk 31 40 (.int .u16 c) rfl rfl (by kernel_rfl) (by kernel_rfl) (by kernel_rfl) (fun _ _ _ h => h) (Or.inl ⟨by rfl, fun w' h' => ?_⟩) hS ?_
  · go_simp
  try simp only [Act.put, List.setIfInBounds_toArray, List.set_cons_zero, List.set_cons_succ]
  refine tk 34 43 (.pointer (some ⟨w.heap.size, 7, none⟩)) rfl rfl (by kernel_rfl) (by kernel_rfl) (by kernel_rfl) (fun _ _ _ h => h) (Or.inl ⟨by rfl, fun w' h' => ?_⟩) hS ?_
  · go_simp
  try simp only [Act.put, List.setIfInBounds_toArray, List.set_cons_zero, List.set_cons_succ]
  refine tk 35 44 (.int .u16 s.urg) rfl rfl (by kernel_rfl) (by kernel_rfl) (by kernel_rfl) (fun _ _ _ h => h) (Or.inl ⟨by rfl, fun w' h' => ?_⟩) hS ?_
  · have hc := HC7.out _ h'
    go_simp
  try simp only [Act.put, List.setIfInBounds_toArray, List.set_cons_zero, List.set_cons_succ]
  refine tk 38 47 (.pointer (some ⟨w.heap.size, 8, none⟩)) rfl rfl (by kernel_rfl) (by kernel_rfl) (by kernel_rfl) (fun _ _ _ h => h) (Or.inl ⟨by rfl, fun w' h' => ?_⟩) hS ?_
  · go_simp
  try simp only [Act.put, List.setIfInBounds_toArray, List.set_cons_zero, List.set_cons_succ]
  refine tk 39 48 (.string uo) rfl rfl (by kernel_rfl) (by kernel_rfl) (by kernel_rfl) (fun _ _ _ h => h) (Or.inl ⟨by rfl, fun w' h' => ?_⟩) hS ?_
  · have hc := HC8.out _ h'
    go_simp
  try simp only [Act.put, List.setIfInBounds_toArray, List.set_cons_zero, List.set_cons_succ]
  refine tk 41 50 (.pointer (some ⟨w.heap.size, 11, none⟩)) rfl rfl (by kernel_rfl) (by kernel_rfl) (by kernel_rfl) (fun _ _ _ h => h) (Or.inl ⟨by rfl, fun w' h' => ?_⟩) hS ?_
  · go_simp
  try simp only [Act.put, List.setIfInBounds_toArray, List.set_cons_zero, List.set_cons_succ]
  refine tk 42 51 (.string ud) rfl rfl (by kernel_rfl) (by kernel_rfl) (by kernel_rfl) (fun _ _ _ h => h) (Or.inl ⟨by rfl, fun w' h' => ?_⟩) hS ?_
  · have hc := HC11.out _ h'
    go_simp
  try simp only [Act.put, List.setIfInBounds_toArray, List.set_cons_zero, List.set_cons_succ]
  refine wpAnyH_ready (rs := [2]) (by kernel_rfl) (by simp) (AllReadyH.cons rfl (fun K hK => ?_) AllReadyH.nil)
  rw [if_pos (by rfl)]
  go_wp2_with fail
  refine (r7two_any (s.src) _ HF1.out).mono ?_
  rintro e w0 ⟨rfl, hb0⟩
  rw [HU0.out]
  have hS0 : World.rangeAt w0 w.heap.size 0 (rcs s) := range_kept (undrew hb0) hrA0
  have HB0 := Lib.hid (HBA.out.trans ((undrew hb0).mono HBA.out.size))
  clear hb0 HBA
  clear hS
  refine hK.out _ _ (hS0) (fun hS => ?_)
  clear hK K
  try simp only [Act.put, List.setIfInBounds_toArray, List.set_cons_zero, List.set_cons_succ]
  refine wpAnyH_ready (rs := [5]) (by kernel_rfl) (by simp) (AllReadyH.cons rfl (fun K hK => ?_) AllReadyH.nil)
  rw [if_pos (by rfl)]
  go_wp2_with fail
  refine (r7two_any (s.dst) _ HF2.out).mono ?_
  rintro e w1 ⟨rfl, hb1⟩
  rw [HU1.out]
  have hS1 : World.rangeAt w1 w.heap.size 0 (rcs s) := range_kept hb1 hS0
  have HB1 := Lib.hid (HB0.out.trans (hb1.mono HB0.out.size))
  clear hb1 HB0
  clear hS
  refine hK.out _ _ (hS1) (fun hS => ?_)
  clear hK K
  try simp only [Act.put, List.setIfInBounds_toArray, List.set_cons_zero, List.set_cons_succ]
  refine tk 6 15 (.string v1) rfl rfl (by kernel_rfl) (by kernel_rfl) (by kernel_rfl) (fun _ _ _ h => h) (Or.inl ⟨by rfl, fun w' h' => ?_⟩) hS ?_
  · have ha := HA1.out w'
    go_simp
  try simp only [Act.put, List.setIfInBounds_toArray, List.set_cons_zero, List.set_cons_succ]
  refine wpAnyH_ready (rs := [9]) (by kernel_rfl) (by simp) (AllReadyH.cons rfl (fun K hK => ?_) AllReadyH.nil)
  rw [if_pos (by rfl)]
  go_wp2_with fail
  refine (r7four_any (s.seq) _ HF3.out).mono ?_
  rintro e w2 ⟨rfl, hb2⟩
  rw [HU2.out]
  have hS2 : World.rangeAt w2 w.heap.size 0 (rcs s) := range_kept hb2 hS1
  have HB2 := Lib.hid (HB1.out.trans (hb2.mono HB1.out.size))
  clear hb2 HB1
  clear hS
  refine hK.out _ _ (hS2) (fun hS => ?_)
  clear hK K
  try simp only [Act.put, List.setIfInBounds_toArray, List.set_cons_zero, List.set_cons_succ]
  refine tk 10 19 (.string v2) rfl rfl (by kernel_rfl) (by kernel_rfl) (by kernel_rfl) (fun _ _ _ h => h) (Or.inl ⟨by rfl, fun w' h' => ?_⟩) hS ?_
  · have ha := HA2.out w'
    go_simp
  try simp only [Act.put, List.setIfInBounds_toArray, List.set_cons_zero, List.set_cons_succ]
  refine wpAnyH_ready (rs := [13]) (by kernel_rfl) (by simp) (AllReadyH.cons rfl (fun K hK => ?_) AllReadyH.nil)
  rw [if_pos (by rfl)]
  go_wp2_with fail
  refine (r7four_any (s.ack) _ HF4.out).mono ?_
  rintro e w3 ⟨rfl, hb3⟩
  rw [HU3.out]
  have hS3 : World.rangeAt w3 w.heap.size 0 (rcs s) := range_kept hb3 hS2
  have HB3 := Lib.hid (HB2.out.trans (hb3.mono HB2.out.size))
  clear hb3 HB2
  clear hS
  refine hK.out _ _ (hS3) (fun hS => ?_)
  clear hK K
  try simp only [Act.put, List.setIfInBounds_toArray, List.set_cons_zero, List.set_cons_succ]
  refine tk 14 23 (.string v3) rfl rfl (by kernel_rfl) (by kernel_rfl) (by kernel_rfl) (fun _ _ _ h => h) (Or.inl ⟨by rfl, fun w' h' => ?_⟩) hS ?_
  · have ha := HA3.out w'
    go_simp
  try simp only [Act.put, List.setIfInBounds_toArray, List.set_cons_zero, List.set_cons_succ]
  refine wpAnyH_ready (rs := [21]) (by kernel_rfl) (by simp) (AllReadyH.cons rfl (fun K hK => ?_) AllReadyH.nil)
  rw [if_pos (by rfl)]
  go_wp2_with fail
  refine (r7one_any (80 + (s.op.length : Int) * 4) _ HO1.out.2.2).mono ?_
  rintro e w4 ⟨rfl, hb4⟩
  rw [HU4.out]
  have hS4 : World.rangeAt w4 w.heap.size 0 (rcs s) := range_kept hb4 hS3
  have HB4 := Lib.hid (HB3.out.trans (hb4.mono HB3.out.size))
  clear hb4 HB3
  clear hS
  refine hK.out _ _ (hS4) (fun hS => ?_)
  clear hK K
  try simp only [Act.put, List.setIfInBounds_toArray, List.set_cons_zero, List.set_cons_succ]
  refine tk 22 31 (.string v4) rfl rfl (by kernel_rfl) (by kernel_rfl) (by kernel_rfl) (fun _ _ _ h => h) (Or.inl ⟨by rfl, fun w' h' => ?_⟩) hS ?_
  · have ha := HA4.out w'
    go_simp
  try simp only [Act.put, List.setIfInBounds_toArray, List.set_cons_zero, List.set_cons_succ]
  refine wpAnyH_ready (rs := [25]) (by kernel_rfl) (by simp) (AllReadyH.cons rfl (fun K hK => ?_) AllReadyH.nil)
  rw [if_pos (by rfl)]
  go_wp2_with fail
  refine (r7one_any (s.fl) _ HF5.out).mono ?_
  rintro e w5 ⟨rfl, hb5⟩
  rw [HU5.out]
  have hS5 : World.rangeAt w5 w.heap.size 0 (rcs s) := range_kept hb5 hS4
  have HB5 := Lib.hid (HB4.out.trans (hb5.mono HB4.out.size))
  clear hb5 HB4
  clear hS
  refine hK.out _ _ (hS5) (fun hS => ?_)
  clear hK K
  try simp only [Act.put, List.setIfInBounds_toArray, List.set_cons_zero, List.set_cons_succ]
  refine tk 26 35 (.string v5) rfl rfl (by kernel_rfl) (by kernel_rfl) (by kernel_rfl) (fun _ _ _ h => h) (Or.inl ⟨by rfl, fun w' h' => ?_⟩) hS ?_
  · have ha := HA5.out w'
    go_simp
  try simp only [Act.put, List.setIfInBounds_toArray, List.set_cons_zero, List.set_cons_succ]
  refine wpAnyH_ready (rs := [29]) (by kernel_rfl) (by simp) (AllReadyH.cons rfl (fun K hK => ?_) AllReadyH.nil)
  rw [if_pos (by rfl)]
  go_wp2_with fail
  refine (r7two_any (s.win) _ HF6.out).mono ?_
  rintro e w6 ⟨rfl, hb6⟩
  rw [HU6.out]
  have hS6 : World.rangeAt w6 w.heap.size 0 (rcs s) := range_kept hb6 hS5
  have HB6 := Lib.hid (HB5.out.trans (hb6.mono HB5.out.size))
  clear hb6 HB5
  clear hS
  refine hK.out _ _ (hS6) (fun hS => ?_)
  clear hK K
  try simp only [Act.put, List.setIfInBounds_toArray, List.set_cons_zero, List.set_cons_succ]
  refine tk 30 39 (.string v6) rfl rfl (by kernel_rfl) (by kernel_rfl) (by kernel_rfl) (fun _ _ _ h => h) (Or.inl ⟨by rfl, fun w' h' => ?_⟩) hS ?_
  · have ha := HA6.out w'
    go_simp
  try simp only [Act.put, List.setIfInBounds_toArray, List.set_cons_zero, List.set_cons_succ]
  refine wpAnyH_ready (rs := [32]) (by kernel_rfl) (by simp) (AllReadyH.cons rfl (fun K hK => ?_) AllReadyH.nil)
  rw [if_pos (by rfl)]
  go_wp2_with fail
  refine (r7two_any (c) _ HCC.out).mono ?_
  rintro e w7 ⟨rfl, hb7⟩
  rw [HU7.out]
  have hS7 : World.rangeAt w7 w.heap.size 0 (rcs s) := range_kept hb7 hS6
  have HB7 := Lib.hid (HB6.out.trans (hb7.mono HB6.out.size))
  clear hb7 HB6
  clear hS
  refine hK.out _ _ (hS7) (fun hS => ?_)
  clear hK K
  try simp only [Act.put, List.setIfInBounds_toArray, List.set_cons_zero, List.set_cons_succ]
  refine tk 33 42 (.string v7) rfl rfl (by kernel_rfl) (by kernel_rfl) (by kernel_rfl) (fun _ _ _ h => h) (Or.inl ⟨by rfl, fun w' h' => ?_⟩) hS ?_
  · have ha := HA7.out w'
    go_simp
  try simp only [Act.put, List.setIfInBounds_toArray, List.set_cons_zero, List.set_cons_succ]
  refine wpAnyH_ready (rs := [36]) (by kernel_rfl) (by simp) (AllReadyH.cons rfl (fun K hK => ?_) AllReadyH.nil)
  rw [if_pos (by rfl)]
  go_wp2_with fail
  refine (r7two_any (s.urg) _ HF7.out).mono ?_
  rintro e w8 ⟨rfl, hb8⟩
  rw [HU8.out]
  have hS8 : World.rangeAt w8 w.heap.size 0 (rcs s) := range_kept hb8 hS7
  have HB8 := Lib.hid (HB7.out.trans (hb8.mono HB7.out.size))
  clear hb8 HB7
  clear hS
  refine hK.out _ _ (hS8) (fun hS => ?_)
  clear hK K
  try simp only [Act.put, List.setIfInBounds_toArray, List.set_cons_zero, List.set_cons_succ]
  refine tk 37 46 (.string v8) rfl rfl (by kernel_rfl) (by kernel_rfl) (by kernel_rfl) (fun _ _ _ h => h) (Or.inl ⟨by rfl, fun w' h' => ?_⟩) hS ?_
  · have ha := HA8.out w'
    go_simp
  try simp only [Act.put, List.setIfInBounds_toArray, List.set_cons_zero, List.set_cons_succ]
  refine tk 40 49 (.string vo) rfl rfl (by kernel_rfl) (by kernel_rfl) (by kernel_rfl) (fun _ _ _ h => h) (Or.inl ⟨by rfl, fun w' h' => ?_⟩) hS ?_
  · have ha := HAO.out w'
    go_simp
  try simp only [Act.put, List.setIfInBounds_toArray, List.set_cons_zero, List.set_cons_succ]
  refine tk 43 52 (.string vd) rfl rfl (by kernel_rfl) (by kernel_rfl) (by kernel_rfl) (fun _ _ _ h => h) (Or.inl ⟨by rfl, fun w' h' => ?_⟩) hS ?_
  · have ha := HAD.out w'
    go_simp
  try simp only [Act.put, List.setIfInBounds_toArray, List.set_cons_zero, List.set_cons_succ]
  refine tk 44 4 (.string vd) rfl rfl (by kernel_rfl) (by kernel_rfl) (by kernel_rfl) (fun _ _ _ h => h) (Or.inl ⟨by rfl, fun w' h' => ?_⟩) hS ?_
  · go_simp
  refine wpAnyH_done (by kernel_rfl) ?_ _
  go_wp2_with fail
  go_ret
  exact ⟨rfl, HB8.out⟩

set_option maxRecDepth 100000 in
set_option maxHeartbeats 4000000 in
theorem r7stands_udp (s : Pl) (c : Int) (w : World) (f : s.fit) (h17 : s.pro = 17) (hop : s.op = []) (hd : s.dt.length ≤ 65000) (c0 : 0 ≤ c ∧ c < 65536) :
    Calls Try.prog 29 #[.agg (rcs s).toArray, .int .u16 c] w (Gives w (.string (str (sbS s c)))) := by
  obtain ⟨wA, hwA⟩ : ∃ x, w.alloc (.cells (rcs s).toArray 30) = x := ⟨_, rfl⟩
  have hbA : Below w.heap.size w wA := by rw [← hwA]; exact (Below.refl _ _).alloc (Nat.le_refl _) _
  have hrA : wA.rangeAt w.heap.size 0 (rcs s) := by rw [← hwA]; exact range_new _ _ _
  have d0 : wA.cell? ⟨w.heap.size, 0, none⟩ = some (.int .u8 17) := by rw [range_cell hrA (rcs_c s).1, h17]
  have HBA := Lib.hid hbA
  have HCC := Lib.hid c0
  have HSZ : Hid ((str s.op).size = s.op.length) := str_size _
  have HSD : Hid ((str s.dt).size = s.dt.length) := str_size _
  have HC1 : Hid (∀ w' : World, w'.rangeAt w.heap.size 0 (rcs s) → w'.cell? ⟨w.heap.size, 1, none⟩ = some (.int .u16 s.src)) := fun _ h => range_cell h rfl
  have HF1 : Hid (0 ≤ s.src ∧ s.src < 65536) := by have := f.src; exact this
  have HC2 : Hid (∀ w' : World, w'.rangeAt w.heap.size 0 (rcs s) → w'.cell? ⟨w.heap.size, 2, none⟩ = some (.int .u16 s.dst)) := fun _ h => range_cell h rfl
  have HF2 : Hid (0 ≤ s.dst ∧ s.dst < 65536) := by have := f.dst; exact this
  have HC11 : Hid (∀ w' : World, w'.rangeAt w.heap.size 0 (rcs s) → w'.cell? ⟨w.heap.size, 11, none⟩ = some (.string (str s.dt))) := fun _ h => range_cell h rfl
  have HD1 : Hid (IntKind.i64.wrap (8 + (s.dt.length : Int)) = 8 + (s.dt.length : Int) ∧ IntKind.u16.wrap (8 + (s.dt.length : Int)) = 8 + (s.dt.length : Int) ∧ 0 ≤ 8 + (s.dt.length : Int) ∧ 8 + (s.dt.length : Int) < 65536) := by
    refine ⟨?_, ?_, ?_, ?_⟩
    · rw [IntKind.wrap_i64]; omega
    · rw [IntKind.wrap_u16]; omega
    · omega
    · omega
  obtain ⟨p0, hp0⟩ : ∃ x, be 2 (s.src) = x := ⟨_, rfl⟩
  have hl0 : p0.length = 2 := by rw [← hp0, be_length]
  obtain ⟨p1, hp1⟩ : ∃ x, be 2 (s.dst) = x := ⟨_, rfl⟩
  have hl1 : p1.length = 2 := by rw [← hp1, be_length]
  obtain ⟨p2, hp2⟩ : ∃ x, be 2 (8 + (s.dt.length : Int)) = x := ⟨_, rfl⟩
  have hl2 : p2.length = 2 := by rw [← hp2, be_length]
  obtain ⟨p3, hp3⟩ : ∃ x, be 2 (c) = x := ⟨_, rfl⟩
  have hl3 : p3.length = 2 := by rw [← hp3, be_length]
  obtain ⟨q1, hq1⟩ : ∃ x, p0 ++ p1 = x := ⟨_, rfl⟩
  obtain ⟨q2, hq2⟩ : ∃ x, q1 ++ p2 = x := ⟨_, rfl⟩
  obtain ⟨q3, hq3⟩ : ∃ x, q2 ++ p3 = x := ⟨_, rfl⟩
  have HSB : Hid (sbS s c = q3 ++ s.dt) := by
    show _ = _
    rw [← hq3, ← hq2, ← hq1, ← hp0, ← hp1, ← hp2, ← hp3]
    unfold sbS hdS; rw [if_neg (by omega), if_pos h17, hop, List.append_nil, List.nil_append]
  have hn1 : q1.length = p0.length + p1.length := by rw [← hq1, List.length_append]
  have hn2 : q2.length = q1.length + p2.length := by rw [← hq2, List.length_append]
  have hn3 : q3.length = q2.length + p3.length := by rw [← hq3, List.length_append]
  obtain ⟨u0, hu0⟩ : ∃ x, str p0 = x := ⟨_, rfl⟩
  have HU0 : Hid (str (be 2 (s.src)) = u0) := by show _ = _; rw [hp0, hu0]
  obtain ⟨u1, hu1⟩ : ∃ x, str p1 = x := ⟨_, rfl⟩
  have HU1 : Hid (str (be 2 (s.dst)) = u1) := by show _ = _; rw [hp1, hu1]
  obtain ⟨u2, hu2⟩ : ∃ x, str p2 = x := ⟨_, rfl⟩
  have HU2 : Hid (str (be 2 (8 + (s.dt.length : Int))) = u2) := by show _ = _; rw [hp2, hu2]
  obtain ⟨u3, hu3⟩ : ∃ x, str p3 = x := ⟨_, rfl⟩
  have HU3 : Hid (str (be 2 (c)) = u3) := by show _ = _; rw [hp3, hu3]
  obtain ⟨v1, hv1⟩ : ∃ x, str q1 = x := ⟨_, rfl⟩
  have HA1 := add_named (xs := p0) (ys := p1) (z := v1) hu0 hu1 (by rw [hq1]; exact hv1) (by omega)
  obtain ⟨v2, hv2⟩ : ∃ x, str q2 = x := ⟨_, rfl⟩
  have HA2 := add_named (xs := q1) (ys := p2) (z := v2) hv1 hu2 (by rw [hq2]; exact hv2) (by omega)
  obtain ⟨v3, hv3⟩ : ∃ x, str q3 = x := ⟨_, rfl⟩
  have HA3 := add_named (xs := q2) (ys := p3) (z := v3) hv2 hu3 (by rw [hq3]; exact hv3) (by omega)
  obtain ⟨ud, hud⟩ : ∃ x, str s.dt = x := ⟨_, rfl⟩
  obtain ⟨vd, hvd⟩ : ∃ x, str (q3 ++ s.dt) = x := ⟨_, rfl⟩
  have HAD := add_named hv3 hud hvd (by omega)
  rw [hud] at HC11 HSD
  have HFIN : Hid (str (sbS s c) = vd) := by show _ = _; rw [HSB.out, hvd]
  rw [HFIN.out]
  have hrA0 := hrA
  obtain ⟨cs, hcs⟩ : ∃ cs, (rcs s).toArray = cs := ⟨_, rfl⟩
  rw [hcs] at hwA ⊢
  clear hcs f hd h17 hop HSZ hbA hrA c0 HSB hud hvd hp0 hl0 hu0 hp1 hl1 hu1 hp2 hl2 hu2 hp3 hl3 hu3 hq1 hn1 hv1 hq2 hn2 hv2 hq3 hn3 hv3
  go_enter Try.func29, Try.ntmps29
  go_wp2_with fail
  refine wp_region_held_drew (S := fun w' => w'.rangeAt w.heap.size 0 (rcs s)) (by kernel_rfl) hrA0 (fun hS => ?_)
  refine tk 0 55 (.pointer (some ⟨w.heap.size, 1, none⟩)) rfl rfl (by kernel_rfl) (by kernel_rfl) (by kernel_rfl) (fun _ _ _ h => h) (Or.inl ⟨by rfl, fun w' h' => ?_⟩) hS ?_
  · go_simp
  try simp only [Act.put, List.setIfInBounds_toArray, List.set_cons_zero, List.set_cons_succ]
  refine tk 1 56 (.int .u16 s.src) rfl rfl (by kernel_rfl) (by kernel_rfl) (by kernel_rfl) (fun _ _ _ h => h) (Or.inl ⟨by rfl, fun w' h' => ?_⟩) hS ?_
  · have hc := HC1.out _ h'
    go_simp
  try simp only [Act.put, List.setIfInBounds_toArray, List.set_cons_zero, List.set_cons_succ]
  refine tk 3 58 (.pointer (some ⟨w.heap.size, 2, none⟩)) rfl rfl (by kernel_rfl) (by kernel_rfl) (by kernel_rfl) (fun _ _ _ h => h) (Or.inl ⟨by rfl, fun w' h' => ?_⟩) hS ?_
  · go_simp
  try simp only [Act.put, List.setIfInBounds_toArray, List.set_cons_zero, List.set_cons_succ]
  refine tk 4 59 (.int .u16 s.dst) rfl rfl (by kernel_rfl) (by kernel_rfl) (by kernel_rfl) (fun _ _ _ h => h) (Or.inl ⟨by rfl, fun w' h' => ?_⟩) hS ?_
  · have hc := HC2.out _ h'
    go_simp
  try simp only [Act.put, List.setIfInBounds_toArray, List.set_cons_zero, List.set_cons_succ]
  refine tk 7 62 (.pointer (some ⟨w.heap.size, 11, none⟩)) rfl rfl (by kernel_rfl) (by kernel_rfl) (by kernel_rfl) (fun _ _ _ h => h) (Or.inl ⟨by rfl, fun w' h' => ?_⟩) hS ?_
  · go_simp
  try simp only [Act.put, List.setIfInBounds_toArray, List.set_cons_zero, List.set_cons_succ]
  refine tk 8 63 (.string ud) rfl rfl (by kernel_rfl) (by kernel_rfl) (by kernel_rfl) (fun _ _ _ h => h) (Or.inl ⟨by rfl, fun w' h' => ?_⟩) hS ?_
  · have hc := HC11.out _ h'
    go_simp
  try simp only [Act.put, List.setIfInBounds_toArray, List.set_cons_zero, List.set_cons_succ]
  refine tk 9 64 (.int .i64 (s.dt.length : Int)) rfl rfl (by kernel_rfl) (by kernel_rfl) (by kernel_rfl) (fun _ _ _ h => h) (Or.inl ⟨by rfl, fun w' h' => ?_⟩) hS ?_
  · have hz := HSD.out
    go_simp
  try simp only [Act.put, List.setIfInBounds_toArray, List.set_cons_zero, List.set_cons_succ]
  refine tk 10 65 (.int .i64 (8 + (s.dt.length : Int))) rfl rfl (by kernel_rfl) (by kernel_rfl) (by kernel_rfl) (fun _ _ _ h => h) (Or.inl ⟨by rfl, fun w' h' => ?_⟩) hS ?_
  · have hw := HD1.out.1
    go_simp
  try simp only [Act.put, List.setIfInBounds_toArray, List.set_cons_zero, List.set_cons_succ]
  refine tk 11 66 (.int .u16 (8 + (s.dt.length : Int))) rfl rfl (by kernel_rfl) (by kernel_rfl) (by kernel_rfl) (fun _ _ _ h => h) (Or.inl ⟨by rfl, fun w' h' => ?_⟩) hS ?_
  · have hw := HD1.out.2.1
    go_simp
  try simp only [Act.put, List.setIfInBounds_toArray, List.set_cons_zero, List.set_cons_succ]
  refine tk 14 69 (.int .u16 c) rfl rfl (by kernel_rfl) (by kernel_rfl) (by kernel_rfl) (fun _ _ _ h => h) (Or.inl ⟨by rfl, fun w' h' => ?_⟩) hS ?_
  · go_simp
  try simp only [Act.put, List.setIfInBounds_toArray, List.set_cons_zero, List.set_cons_succ]
  refine tk 17 72 (.pointer (some ⟨w.heap.size, 11, none⟩)) rfl rfl (by kernel_rfl) (by kernel_rfl) (by kernel_rfl) (fun _ _ _ h => h) (Or.inl ⟨by rfl, fun w' h' => ?_⟩) hS ?_
  · go_simp
  try simp only [Act.put, List.setIfInBounds_toArray, List.set_cons_zero, List.set_cons_succ]
  refine tk 18 73 (.string ud) rfl rfl (by kernel_rfl) (by kernel_rfl) (by kernel_rfl) (fun _ _ _ h => h) (Or.inl ⟨by rfl, fun w' h' => ?_⟩) hS ?_
  · have hc := HC11.out _ h'
    go_simp
  try simp only [Act.put, List.setIfInBounds_toArray, List.set_cons_zero, List.set_cons_succ]
  refine wpAnyH_ready (rs := [2]) (by kernel_rfl) (by simp) (AllReadyH.cons rfl (fun K hK => ?_) AllReadyH.nil)
  rw [if_pos (by rfl)]
  go_wp2_with fail
  refine (r7two_any (s.src) _ HF1.out).mono ?_
  rintro e w0 ⟨rfl, hb0⟩
  rw [HU0.out]
  have hS0 : World.rangeAt w0 w.heap.size 0 (rcs s) := range_kept (undrew hb0) hrA0
  have HB0 := Lib.hid (HBA.out.trans ((undrew hb0).mono HBA.out.size))
  clear hb0 HBA
  clear hS
  refine hK.out _ _ (hS0) (fun hS => ?_)
  clear hK K
  try simp only [Act.put, List.setIfInBounds_toArray, List.set_cons_zero, List.set_cons_succ]
  refine wpAnyH_ready (rs := [5]) (by kernel_rfl) (by simp) (AllReadyH.cons rfl (fun K hK => ?_) AllReadyH.nil)
  rw [if_pos (by rfl)]
  go_wp2_with fail
  refine (r7two_any (s.dst) _ HF2.out).mono ?_
  rintro e w1 ⟨rfl, hb1⟩
  rw [HU1.out]
  have hS1 : World.rangeAt w1 w.heap.size 0 (rcs s) := range_kept hb1 hS0
  have HB1 := Lib.hid (HB0.out.trans (hb1.mono HB0.out.size))
  clear hb1 HB0
  clear hS
  refine hK.out _ _ (hS1) (fun hS => ?_)
  clear hK K
  try simp only [Act.put, List.setIfInBounds_toArray, List.set_cons_zero, List.set_cons_succ]
  refine tk 6 61 (.string v1) rfl rfl (by kernel_rfl) (by kernel_rfl) (by kernel_rfl) (fun _ _ _ h => h) (Or.inl ⟨by rfl, fun w' h' => ?_⟩) hS ?_
  · have ha := HA1.out w'
    go_simp
  try simp only [Act.put, List.setIfInBounds_toArray, List.set_cons_zero, List.set_cons_succ]
  refine wpAnyH_ready (rs := [12]) (by kernel_rfl) (by simp) (AllReadyH.cons rfl (fun K hK => ?_) AllReadyH.nil)
  rw [if_pos (by rfl)]
  go_wp2_with fail
  refine (r7two_any (8 + (s.dt.length : Int)) _ HD1.out.2.2).mono ?_
  rintro e w2 ⟨rfl, hb2⟩
  rw [HU2.out]
  have hS2 : World.rangeAt w2 w.heap.size 0 (rcs s) := range_kept hb2 hS1
  have HB2 := Lib.hid (HB1.out.trans (hb2.mono HB1.out.size))
  clear hb2 HB1
  clear hS
  refine hK.out _ _ (hS2) (fun hS => ?_)
  clear hK K
  try simp only [Act.put, List.setIfInBounds_toArray, List.set_cons_zero, List.set_cons_succ]
  refine tk 13 68 (.string v2) rfl rfl (by kernel_rfl) (by kernel_rfl) (by kernel_rfl) (fun _ _ _ h => h) (Or.inl ⟨by rfl, fun w' h' => ?_⟩) hS ?_
  · have ha := HA2.out w'
    go_simp
  try simp only [Act.put, List.setIfInBounds_toArray, List.set_cons_zero, List.set_cons_succ]
  refine wpAnyH_ready (rs := [15]) (by kernel_rfl) (by simp) (AllReadyH.cons rfl (fun K hK => ?_) AllReadyH.nil)
  rw [if_pos (by rfl)]
  go_wp2_with fail
  refine (r7two_any (c) _ HCC.out).mono ?_
  rintro e w3 ⟨rfl, hb3⟩
  rw [HU3.out]
  have hS3 : World.rangeAt w3 w.heap.size 0 (rcs s) := range_kept hb3 hS2
  have HB3 := Lib.hid (HB2.out.trans (hb3.mono HB2.out.size))
  clear hb3 HB2
  clear hS
  refine hK.out _ _ (hS3) (fun hS => ?_)
  clear hK K
  try simp only [Act.put, List.setIfInBounds_toArray, List.set_cons_zero, List.set_cons_succ]
  refine tk 16 71 (.string v3) rfl rfl (by kernel_rfl) (by kernel_rfl) (by kernel_rfl) (fun _ _ _ h => h) (Or.inl ⟨by rfl, fun w' h' => ?_⟩) hS ?_
  · have ha := HA3.out w'
    go_simp
  try simp only [Act.put, List.setIfInBounds_toArray, List.set_cons_zero, List.set_cons_succ]
  refine tk 19 74 (.string vd) rfl rfl (by kernel_rfl) (by kernel_rfl) (by kernel_rfl) (fun _ _ _ h => h) (Or.inl ⟨by rfl, fun w' h' => ?_⟩) hS ?_
  · have ha := HAD.out w'
    go_simp
  try simp only [Act.put, List.setIfInBounds_toArray, List.set_cons_zero, List.set_cons_succ]
  refine tk 20 4 (.string vd) rfl rfl (by kernel_rfl) (by kernel_rfl) (by kernel_rfl) (fun _ _ _ h => h) (Or.inl ⟨by rfl, fun w' h' => ?_⟩) hS ?_
  · go_simp
  refine wpAnyH_done (by kernel_rfl) ?_ _
  go_wp2_with fail
  go_ret
  exact ⟨rfl, HB3.out⟩

set_option maxRecDepth 100000 in
set_option maxHeartbeats 4000000 in
theorem r7stands_icmp (s : Pl) (c : Int) (w : World) (f : s.fit) (h6 : ¬ s.pro = 6) (h17 : ¬ s.pro = 17) (hop : s.op = []) (hd : s.dt.length ≤ 65000) (c0 : 0 ≤ c ∧ c < 65536) :
    Calls Try.prog 29 #[.agg (rcs s).toArray, .int .u16 c] w (Gives w (.string (str (sbS s c)))) := by
  obtain ⟨wA, hwA⟩ : ∃ x, w.alloc (.cells (rcs s).toArray 30) = x := ⟨_, rfl⟩
  have hbA : Below w.heap.size w wA := by rw [← hwA]; exact (Below.refl _ _).alloc (Nat.le_refl _) _
  have hrA : wA.rangeAt w.heap.size 0 (rcs s) := by rw [← hwA]; exact range_new _ _ _
  have d0 : wA.cell? ⟨w.heap.size, 0, none⟩ = some (.int .u8 s.pro) := by rw [range_cell hrA (rcs_c s).1]
  have HBA := Lib.hid hbA
  have HCC := Lib.hid c0
  have HSZ : Hid ((str s.op).size = s.op.length) := str_size _
  have HSD : Hid ((str s.dt).size = s.dt.length) := str_size _
  have HC9 : Hid (∀ w' : World, w'.rangeAt w.heap.size 0 (rcs s) → w'.cell? ⟨w.heap.size, 9, none⟩ = some (.int .u8 s.ty)) := fun _ h => range_cell h rfl
  have HF9 : Hid (0 ≤ s.ty ∧ s.ty < 256) := by have := f.ty; exact this
  have HC10 : Hid (∀ w' : World, w'.rangeAt w.heap.size 0 (rcs s) → w'.cell? ⟨w.heap.size, 10, none⟩ = some (.int .u8 s.co)) := fun _ h => range_cell h rfl
  have HF10 : Hid (0 ≤ s.co ∧ s.co < 256) := by have := f.co; exact this
  have HC11 : Hid (∀ w' : World, w'.rangeAt w.heap.size 0 (rcs s) → w'.cell? ⟨w.heap.size, 11, none⟩ = some (.string (str s.dt))) := fun _ h => range_cell h rfl
  have h6b : (s.pro == 6) = false := by simpa using h6
  have h17b : (s.pro == 17) = false := by simpa using h17
  obtain ⟨p0, hp0⟩ : ∃ x, be 1 (s.ty) = x := ⟨_, rfl⟩
  have hl0 : p0.length = 1 := by rw [← hp0, be_length]
  obtain ⟨p1, hp1⟩ : ∃ x, be 1 (s.co) = x := ⟨_, rfl⟩
  have hl1 : p1.length = 1 := by rw [← hp1, be_length]
  obtain ⟨p2, hp2⟩ : ∃ x, be 2 (c) = x := ⟨_, rfl⟩
  have hl2 : p2.length = 2 := by rw [← hp2, be_length]
  obtain ⟨q1, hq1⟩ : ∃ x, p0 ++ p1 = x := ⟨_, rfl⟩
  obtain ⟨q2, hq2⟩ : ∃ x, q1 ++ p2 = x := ⟨_, rfl⟩
  have HSB : Hid (sbS s c = q2 ++ s.dt) := by
    show _ = _
    rw [← hq2, ← hq1, ← hp0, ← hp1, ← hp2]
    unfold sbS hdS; rw [if_neg h6, if_neg h17, hop, List.append_nil, List.nil_append]
  have hn1 : q1.length = p0.length + p1.length := by rw [← hq1, List.length_append]
  have hn2 : q2.length = q1.length + p2.length := by rw [← hq2, List.length_append]
  obtain ⟨u0, hu0⟩ : ∃ x, str p0 = x := ⟨_, rfl⟩
  have HU0 : Hid (str (be 1 (s.ty)) = u0) := by show _ = _; rw [hp0, hu0]
  obtain ⟨u1, hu1⟩ : ∃ x, str p1 = x := ⟨_, rfl⟩
  have HU1 : Hid (str (be 1 (s.co)) = u1) := by show _ = _; rw [hp1, hu1]
  obtain ⟨u2, hu2⟩ : ∃ x, str p2 = x := ⟨_, rfl⟩
  have HU2 : Hid (str (be 2 (c)) = u2) := by show _ = _; rw [hp2, hu2]
  obtain ⟨v1, hv1⟩ : ∃ x, str q1 = x := ⟨_, rfl⟩
  have HA1 := add_named (xs := p0) (ys := p1) (z := v1) hu0 hu1 (by rw [hq1]; exact hv1) (by omega)
  obtain ⟨v2, hv2⟩ : ∃ x, str q2 = x := ⟨_, rfl⟩
  have HA2 := add_named (xs := q1) (ys := p2) (z := v2) hv1 hu2 (by rw [hq2]; exact hv2) (by omega)
  obtain ⟨ud, hud⟩ : ∃ x, str s.dt = x := ⟨_, rfl⟩
  obtain ⟨vd, hvd⟩ : ∃ x, str (q2 ++ s.dt) = x := ⟨_, rfl⟩
  have HAD := add_named hv2 hud hvd (by omega)
  rw [hud] at HC11 HSD
  have HFIN : Hid (str (sbS s c) = vd) := by show _ = _; rw [HSB.out, hvd]
  rw [HFIN.out]
  have hrA0 := hrA
  obtain ⟨cs, hcs⟩ : ∃ cs, (rcs s).toArray = cs := ⟨_, rfl⟩
  rw [hcs] at hwA ⊢
  clear hcs f hd h6 h17 hop HSZ hbA hrA c0 HSB hud hvd hp0 hl0 hu0 hp1 hl1 hu1 hp2 hl2 hu2 hq1 hn1 hv1 hq2 hn2 hv2
  go_enter Try.func29, Try.ntmps29
  go_wp2_with fail
  refine wp_region_held_drew (S := fun w' => w'.rangeAt w.heap.size 0 (rcs s)) (by kernel_rfl) hrA0 (fun hS => ?_)
  refine tk 0 75 (.pointer (some ⟨w.heap.size, 9, none⟩)) rfl rfl (by kernel_rfl) (by kernel_rfl) (by kernel_rfl) (fun _ _ _ h => h) (Or.inl ⟨by rfl, fun w' h' => ?_⟩) hS ?_
  · go_simp
  try simp only [Act.put, List.setIfInBounds_toArray, List.set_cons_zero, List.set_cons_succ]
  refine tk 1 76 (.int .u8 s.ty) rfl rfl (by kernel_rfl) (by kernel_rfl) (by kernel_rfl) (fun _ _ _ h => h) (Or.inl ⟨by rfl, fun w' h' => ?_⟩) hS ?_
  · have hc := HC9.out _ h'
    go_simp
  try simp only [Act.put, List.setIfInBounds_toArray, List.set_cons_zero, List.set_cons_succ]
  refine tk 3 78 (.pointer (some ⟨w.heap.size, 10, none⟩)) rfl rfl (by kernel_rfl) (by kernel_rfl) (by kernel_rfl) (fun _ _ _ h => h) (Or.inl ⟨by rfl, fun w' h' => ?_⟩) hS ?_
  · go_simp
  try simp only [Act.put, List.setIfInBounds_toArray, List.set_cons_zero, List.set_cons_succ]
  refine tk 4 79 (.int .u8 s.co) rfl rfl (by kernel_rfl) (by kernel_rfl) (by kernel_rfl) (fun _ _ _ h => h) (Or.inl ⟨by rfl, fun w' h' => ?_⟩) hS ?_
  · have hc := HC10.out _ h'
    go_simp
  try simp only [Act.put, List.setIfInBounds_toArray, List.set_cons_zero, List.set_cons_succ]
  refine tk 7 82 (.int .u16 c) rfl rfl (by kernel_rfl) (by kernel_rfl) (by kernel_rfl) (fun _ _ _ h => h) (Or.inl ⟨by rfl, fun w' h' => ?_⟩) hS ?_
  · go_simp
  try simp only [Act.put, List.setIfInBounds_toArray, List.set_cons_zero, List.set_cons_succ]
  refine tk 10 85 (.pointer (some ⟨w.heap.size, 11, none⟩)) rfl rfl (by kernel_rfl) (by kernel_rfl) (by kernel_rfl) (fun _ _ _ h => h) (Or.inl ⟨by rfl, fun w' h' => ?_⟩) hS ?_
  · go_simp
  try simp only [Act.put, List.setIfInBounds_toArray, List.set_cons_zero, List.set_cons_succ]
  refine tk 11 86 (.string ud) rfl rfl (by kernel_rfl) (by kernel_rfl) (by kernel_rfl) (fun _ _ _ h => h) (Or.inl ⟨by rfl, fun w' h' => ?_⟩) hS ?_
  · have hc := HC11.out _ h'
    go_simp
  try simp only [Act.put, List.setIfInBounds_toArray, List.set_cons_zero, List.set_cons_succ]
  refine wpAnyH_ready (rs := [2]) (by kernel_rfl) (by simp) (AllReadyH.cons rfl (fun K hK => ?_) AllReadyH.nil)
  rw [if_pos (by rfl)]
  go_wp2_with fail
  refine (r7one_any (s.ty) _ HF9.out).mono ?_
  rintro e w0 ⟨rfl, hb0⟩
  rw [HU0.out]
  have hS0 : World.rangeAt w0 w.heap.size 0 (rcs s) := range_kept (undrew hb0) hrA0
  have HB0 := Lib.hid (HBA.out.trans ((undrew hb0).mono HBA.out.size))
  clear hb0 HBA
  clear hS
  refine hK.out _ _ (hS0) (fun hS => ?_)
  clear hK K
  try simp only [Act.put, List.setIfInBounds_toArray, List.set_cons_zero, List.set_cons_succ]
  refine wpAnyH_ready (rs := [5]) (by kernel_rfl) (by simp) (AllReadyH.cons rfl (fun K hK => ?_) AllReadyH.nil)
  rw [if_pos (by rfl)]
  go_wp2_with fail
  refine (r7one_any (s.co) _ HF10.out).mono ?_
  rintro e w1 ⟨rfl, hb1⟩
  rw [HU1.out]
  have hS1 : World.rangeAt w1 w.heap.size 0 (rcs s) := range_kept hb1 hS0
  have HB1 := Lib.hid (HB0.out.trans (hb1.mono HB0.out.size))
  clear hb1 HB0
  clear hS
  refine hK.out _ _ (hS1) (fun hS => ?_)
  clear hK K
  try simp only [Act.put, List.setIfInBounds_toArray, List.set_cons_zero, List.set_cons_succ]
  refine tk 6 81 (.string v1) rfl rfl (by kernel_rfl) (by kernel_rfl) (by kernel_rfl) (fun _ _ _ h => h) (Or.inl ⟨by rfl, fun w' h' => ?_⟩) hS ?_
  · have ha := HA1.out w'
    go_simp
  try simp only [Act.put, List.setIfInBounds_toArray, List.set_cons_zero, List.set_cons_succ]
  refine wpAnyH_ready (rs := [8]) (by kernel_rfl) (by simp) (AllReadyH.cons rfl (fun K hK => ?_) AllReadyH.nil)
  rw [if_pos (by rfl)]
  go_wp2_with fail
  refine (r7two_any (c) _ HCC.out).mono ?_
  rintro e w2 ⟨rfl, hb2⟩
  rw [HU2.out]
  have hS2 : World.rangeAt w2 w.heap.size 0 (rcs s) := range_kept hb2 hS1
  have HB2 := Lib.hid (HB1.out.trans (hb2.mono HB1.out.size))
  clear hb2 HB1
  clear hS
  refine hK.out _ _ (hS2) (fun hS => ?_)
  clear hK K
  try simp only [Act.put, List.setIfInBounds_toArray, List.set_cons_zero, List.set_cons_succ]
  refine tk 9 84 (.string v2) rfl rfl (by kernel_rfl) (by kernel_rfl) (by kernel_rfl) (fun _ _ _ h => h) (Or.inl ⟨by rfl, fun w' h' => ?_⟩) hS ?_
  · have ha := HA2.out w'
    go_simp
  try simp only [Act.put, List.setIfInBounds_toArray, List.set_cons_zero, List.set_cons_succ]
  refine tk 12 87 (.string vd) rfl rfl (by kernel_rfl) (by kernel_rfl) (by kernel_rfl) (fun _ _ _ h => h) (Or.inl ⟨by rfl, fun w' h' => ?_⟩) hS ?_
  · have ha := HAD.out w'
    go_simp
  try simp only [Act.put, List.setIfInBounds_toArray, List.set_cons_zero, List.set_cons_succ]
  refine tk 13 4 (.string vd) rfl rfl (by kernel_rfl) (by kernel_rfl) (by kernel_rfl) (fun _ _ _ h => h) (Or.inl ⟨by rfl, fun w' h' => ?_⟩) hS ?_
  · go_simp
  refine wpAnyH_done (by kernel_rfl) ?_ _
  go_wp2_with fail
  go_ret
  exact ⟨rfl, HB2.out⟩
end Go.Proofs.Ytabdejoakecioaa

/-
  The function that finds the head that goes next, in pieces, and put together. Conditions: a shaper and its turns. (Made by gen_spheads2.py.)
-/
import Derived.Test.YtpigpeehhadkjaaSpHeads
namespace Go.Proofs.Ytpigpeehhadkjaa
open Go.RowKit Bkt

noncomputable def KH : Code := Try.f53.body.getD .skip
set_option maxRecDepth 100000 in
theorem frKH {a : Act} (h : Fr 65 a) : ∃ f : Nat → Value, a = ⟨#[f 0, f 1, f 2, f 3, f 4, f 5, f 6, f 7, f 8, f 9, f 10, f 11, f 12, f 13, f 14, f 15, f 16, f 17, f 18, f 19, f 20, f 21, f 22, f 23, f 24, f 25, f 26, f 27, f 28, f 29, f 30, f 31, f 32, f 33, f 34, f 35, f 36, f 37, f 38, f 39, f 40, f 41, f 42, f 43, f 44, f 45, f 46, f 47, f 48, f 49, f 50, f 51, f 52, f 53, f 54, f 55, f 56, f 57, f 58, f 59, f 60, f 61, f 62, f 63, f 64], []⟩ ∧ ∀ i, f i = sl a i := fr_any h

set_option maxRecDepth 100000 in
set_option maxHeartbeats 4000000 in
theorem hp0 (w : World) (b1 b3 : Nat) (a : Act) (hf : Fr 65 a) (h0 : sl a 0 = .pointer (some ⟨b1, 0, none⟩)) (h1 : sl a 1 = .pointer (some ⟨b3, 0, none⟩)) :
    Code.wp Try.prog (cAt [0] KH) (Exit.then (fun a' w' => Fr 65 a' ∧ sl a' 0 = .pointer (some ⟨b1, 0, none⟩) ∧ sl a' 1 = .pointer (some ⟨b3, 0, none⟩) ∧ sl a' 2 = .int .i64 0 ∧ sl a' 3 = .int .u64 0 ∧ sl a' 4 = .bool false ∧ w = w') Nope) a w := by
  obtain ⟨f, ha, hs⟩ := frKH hf
  have e0 := (hs 0).trans h0
  have e1 := (hs 1).trans h1
  rw [e0, e1] at ha
  clear hs hf e0 h0 e1 h1
  subst ha
  refine piece2 fun J0 K0 hJ0 hK0 => ?_
  conv => arg 2; whnf
  go_wp2_with fail
  refine Met.intro (hJ0 _ _ ?_)
  exact ⟨⟨rfl, rfl⟩, rfl, rfl, rfl, rfl, rfl, rfl⟩

set_option maxRecDepth 100000 in
set_option maxHeartbeats 4000000 in
theorem hp1 (w wr : World) (B g b1 b3 gt : Nat) (s : Sh) (l : List Tq) (HI : Hid (Hw w wr B g b1 b3 gt s l)) (a : Act) (hf : Fr 65 a) (h0 : sl a 0 = .pointer (some ⟨b1, 0, none⟩)) (h1 : sl a 1 = .pointer (some ⟨b3, 0, none⟩)) (h2 : sl a 2 = .int .i64 0) (h3 : sl a 3 = .int .u64 0) (h4 : sl a 4 = .bool false) :
    Code.wp Try.prog (cAt [1,0,0] KH) (Exit.then (fun a' w' => Fr 65 a' ∧ sl a' 0 = .pointer (some ⟨b1, 0, none⟩) ∧ sl a' 1 = .pointer (some ⟨b3, 0, none⟩) ∧ sl a' 2 = .int .i64 0 ∧ sl a' 3 = .int .u64 0 ∧ sl a' 4 = .bool false ∧ sl a' 10 = .slice s.a s.n s.c ∧ sl a' 11 = .int .i64 (s.n : Int) ∧ sl a' 12 = .int .i64 0 ∧ wr = w') Nope) a wr := by
  obtain ⟨f, ha, hs⟩ := frKH hf
  have e0 := (hs 0).trans h0
  have e1 := (hs 1).trans h1
  have e2 := (hs 2).trans h2
  have e3 := (hs 3).trans h3
  have e4 := (hs 4).trans h4
  rw [e0, e1, e2, e3, e4] at ha
  clear hs hf e0 h0 e1 h1 e2 h2 e3 h3 e4 h4
  subst ha
  refine piece2 fun J0 K0 hJ0 hK0 => ?_
  conv => arg 2; whnf
  have p1 := cell_of_one HI.out.cl.p1
  have p3 := cell_of_one HI.out.cl.p3
  have t0 := HI.out.sw.c0
  have t1 := HI.out.sw.c1
  go_wp2_with fail
  refine Met.intro (hJ0 _ _ ?_)
  exact ⟨⟨rfl, rfl⟩, rfl, rfl, rfl, rfl, rfl, rfl, rfl, rfl, rfl⟩

set_option maxRecDepth 100000 in
set_option maxHeartbeats 4000000 in
theorem hp2 (_w wr : World) (_B _g b1 b3 _gt : Nat) (s : Sh) (_l : List Tq) (r i : Nat) (z : Be) (hi : i < s.n) (a : Act) (hf : Fr 65 a) (h0 : sl a 0 = .pointer (some ⟨b1, 0, none⟩)) (h1 : sl a 1 = .pointer (some ⟨b3, 0, none⟩)) (h2 : sl a 2 = .int .i64 (z.c : Int)) (h3 : sl a 3 = .int .u64 z.t) (h4 : sl a 4 = .bool z.k) (h10 : sl a 10 = .slice (some ⟨r, 0, none⟩) s.n s.c) (h11 : sl a 11 = .int .i64 (s.n : Int)) (h12 : sl a 12 = .int .i64 (i : Int)) :
    Code.wp Try.prog (cAt [1,0,1,2,2,0] KH) (Exit.then (fun a' w' => Fr 65 a' ∧ sl a' 0 = .pointer (some ⟨b1, 0, none⟩) ∧ sl a' 1 = .pointer (some ⟨b3, 0, none⟩) ∧ sl a' 2 = .int .i64 (z.c : Int) ∧ sl a' 3 = .int .u64 z.t ∧ sl a' 4 = .bool z.k ∧ sl a' 10 = .slice (some ⟨r, 0, none⟩) s.n s.c ∧ sl a' 11 = .int .i64 (s.n : Int) ∧ sl a' 12 = .int .i64 (i : Int) ∧ sl a' 13 = .bool true ∧ wr = w') Nope) a wr := by
  obtain ⟨f, ha, hs⟩ := frKH hf
  have e0 := (hs 0).trans h0
  have e1 := (hs 1).trans h1
  have e2 := (hs 2).trans h2
  have e3 := (hs 3).trans h3
  have e4 := (hs 4).trans h4
  have e10 := (hs 10).trans h10
  have e11 := (hs 11).trans h11
  have e12 := (hs 12).trans h12
  rw [e0, e1, e2, e3, e4, e10, e11, e12] at ha
  clear hs hf e0 h0 e1 h1 e2 h2 e3 h3 e4 h4 e10 h10 e11 h11 e12 h12
  subst ha
  refine piece2 fun J0 K0 hJ0 hK0 => ?_
  conv => arg 2; whnf
  have hi2 : (i : Int) < (s.n : Int) := by omega
  go_wp2_with fail
  refine Met.intro (hJ0 _ _ ?_)
  exact ⟨⟨rfl, rfl⟩, rfl, rfl, rfl, rfl, rfl, rfl, rfl, rfl, rfl, rfl⟩

set_option maxRecDepth 100000 in
set_option maxHeartbeats 4000000 in
theorem hp2x (_w wr : World) (_B _g b1 b3 _gt : Nat) (s : Sh) (_l : List Tq) (r i : Nat) (z : Be) (hi : ¬ i < s.n) (a : Act) (hf : Fr 65 a) (h0 : sl a 0 = .pointer (some ⟨b1, 0, none⟩)) (h1 : sl a 1 = .pointer (some ⟨b3, 0, none⟩)) (h2 : sl a 2 = .int .i64 (z.c : Int)) (h3 : sl a 3 = .int .u64 z.t) (h4 : sl a 4 = .bool z.k) (h10 : sl a 10 = .slice (some ⟨r, 0, none⟩) s.n s.c) (h11 : sl a 11 = .int .i64 (s.n : Int)) (h12 : sl a 12 = .int .i64 (i : Int)) :
    Code.wp Try.prog (cAt [1,0,1,2,2] KH) (Outs 0 (fun a' w' => Fr 65 a' ∧ sl a' 0 = .pointer (some ⟨b1, 0, none⟩) ∧ sl a' 1 = .pointer (some ⟨b3, 0, none⟩) ∧ sl a' 2 = .int .i64 (z.c : Int) ∧ sl a' 3 = .int .u64 z.t ∧ sl a' 4 = .bool z.k ∧ wr = w')) a wr := by
  obtain ⟨f, ha, hs⟩ := frKH hf
  have e0 := (hs 0).trans h0
  have e1 := (hs 1).trans h1
  have e2 := (hs 2).trans h2
  have e3 := (hs 3).trans h3
  have e4 := (hs 4).trans h4
  have e10 := (hs 10).trans h10
  have e11 := (hs 11).trans h11
  have e12 := (hs 12).trans h12
  rw [e0, e1, e2, e3, e4, e10, e11, e12] at ha
  clear hs hf e0 h0 e1 h1 e2 h2 e3 h3 e4 h4 e10 h10 e11 h11 e12 h12
  subst ha
  conv => arg 2; whnf
  go_wp2_with fail
  exact ⟨rfl, ⟨rfl, rfl⟩, rfl, rfl, rfl, rfl, rfl, rfl⟩

set_option maxRecDepth 100000 in
set_option maxHeartbeats 4000000 in
theorem hp3 (w wr : World) (B g b1 b3 gt : Nat) (s : Sh) (l : List Tq) (r i : Nat) (z : Be) (m : La) (HI : Hid (Hw w wr B g b1 b3 gt s l)) (HA : Hid (s.a = some ⟨r, 0, none⟩ ∧ s.ls[i]? = some m)) (hi : i < s.n) (a : Act) (hf : Fr 65 a) (h0 : sl a 0 = .pointer (some ⟨b1, 0, none⟩)) (h1 : sl a 1 = .pointer (some ⟨b3, 0, none⟩)) (h2 : sl a 2 = .int .i64 (z.c : Int)) (h3 : sl a 3 = .int .u64 z.t) (h4 : sl a 4 = .bool z.k) (h10 : sl a 10 = .slice (some ⟨r, 0, none⟩) s.n s.c) (h11 : sl a 11 = .int .i64 (s.n : Int)) (h12 : sl a 12 = .int .i64 (i : Int)) :
    Code.wp Try.prog (cAt [1,0,1,2,2,1,1,0,2,0] KH) (Exit.then (fun a' w' => Fr 65 a' ∧ sl a' 0 = .pointer (some ⟨b1, 0, none⟩) ∧ sl a' 1 = .pointer (some ⟨b3, 0, none⟩) ∧ sl a' 2 = .int .i64 (z.c : Int) ∧ sl a' 3 = .int .u64 z.t ∧ sl a' 4 = .bool z.k ∧ sl a' 10 = .slice (some ⟨r, 0, none⟩) s.n s.c ∧ sl a' 11 = .int .i64 (s.n : Int) ∧ sl a' 12 = .int .i64 (i : Int) ∧ sl a' 5 = .int .i64 (i : Int) ∧ sl a' 6 = .pointer (some ⟨m.g, 0, none⟩) ∧ wr = w') Nope) a wr := by
  obtain ⟨f, ha, hs⟩ := frKH hf
  have e0 := (hs 0).trans h0
  have e1 := (hs 1).trans h1
  have e2 := (hs 2).trans h2
  have e3 := (hs 3).trans h3
  have e4 := (hs 4).trans h4
  have e10 := (hs 10).trans h10
  have e11 := (hs 11).trans h11
  have e12 := (hs 12).trans h12
  rw [e0, e1, e2, e3, e4, e10, e11, e12] at ha
  clear hs hf e0 h0 e1 h1 e2 h2 e3 h3 e4 h4 e10 h10 e11 h11 e12 h12
  subst ha
  refine piece2 fun J0 K0 hJ0 hK0 => ?_
  conv => arg 2; whnf
  obtain ⟨r', hr', hc⟩ := HI.out.sw.pt HA.out.2
  have hrr : r' = r := by
    have := HA.out.1
    rw [hr'] at this
    simpa using this
  rw [hrr] at hc
  have hi2 : (i : Int) < (s.n : Int) := by omega
  have hi0 : (0 : Int) ≤ (i : Int) := by omega
  clear hr' hrr
  go_wp2_with fail
  refine Met.intro (hJ0 _ _ ?_)
  exact ⟨⟨rfl, rfl⟩, rfl, rfl, rfl, rfl, rfl, rfl, rfl, rfl, rfl, rfl, rfl⟩

set_option maxRecDepth 100000 in
set_option maxHeartbeats 4000000 in
theorem hp4 (w wr : World) (B g b1 b3 gt : Nat) (s : Sh) (l : List Tq) (r i : Nat) (z : Be) (m : La) (HI : Hid (Hw w wr B g b1 b3 gt s l)) (hi : i < s.n) (a : Act) (hf : Fr 65 a) (h0 : sl a 0 = .pointer (some ⟨b1, 0, none⟩)) (h1 : sl a 1 = .pointer (some ⟨b3, 0, none⟩)) (h2 : sl a 2 = .int .i64 (z.c : Int)) (h3 : sl a 3 = .int .u64 z.t) (h4 : sl a 4 = .bool z.k) (h10 : sl a 10 = .slice (some ⟨r, 0, none⟩) s.n s.c) (h11 : sl a 11 = .int .i64 (s.n : Int)) (h12 : sl a 12 = .int .i64 (i : Int)) (h5 : sl a 5 = .int .i64 (i : Int)) (h6 : sl a 6 = .pointer (some ⟨m.g, 0, none⟩)) :
    Code.wp Try.prog (cAt [1,0,1,2,2,1,1,0,2,1,0,0] KH) (Exit.then (fun a' w' => ∃ x, Fr 65 a' ∧ sl a' 0 = .pointer (some ⟨b1, 0, none⟩) ∧ sl a' 1 = .pointer (some ⟨b3, 0, none⟩) ∧ sl a' 2 = .int .i64 (z.c : Int) ∧ sl a' 3 = .int .u64 z.t ∧ sl a' 4 = .bool z.k ∧ sl a' 10 = .slice (some ⟨r, 0, none⟩) s.n s.c ∧ sl a' 11 = .int .i64 (s.n : Int) ∧ sl a' 12 = .int .i64 (i : Int) ∧ sl a' 5 = .int .i64 (i : Int) ∧ sl a' 6 = .pointer (some ⟨m.g, 0, none⟩) ∧ sl a' 22 = .bool (!x.k) ∧ l[i]? = some x ∧ wr = w') Nope) a wr := by
  obtain ⟨f, ha, hs⟩ := frKH hf
  have e0 := (hs 0).trans h0
  have e1 := (hs 1).trans h1
  have e2 := (hs 2).trans h2
  have e3 := (hs 3).trans h3
  have e4 := (hs 4).trans h4
  have e10 := (hs 10).trans h10
  have e11 := (hs 11).trans h11
  have e12 := (hs 12).trans h12
  have e5 := (hs 5).trans h5
  have e6 := (hs 6).trans h6
  rw [e0, e1, e2, e3, e4, e10, e11, e12, e5, e6] at ha
  clear hs hf e0 h0 e1 h1 e2 h2 e3 h3 e4 h4 e10 h10 e11 h11 e12 h12 e5 h5 e6 h6
  subst ha
  refine piece2 fun J0 K0 hJ0 hK0 => ?_
  conv => arg 2; whnf
  obtain ⟨x, hx, x0, x1, x2, x3⟩ := HI.out.get (i := i) hi
  have HX : Hid (l[i]? = some x) := hx
  have p3 := cell_of_one HI.out.cl.p3
  have hi2 : (i : Int) < (s.n : Int) := by omega
  have hi0 : (0 : Int) ≤ (i : Int) := by omega
  clear hx
  go_wp2_with fail
  refine Met.intro (hJ0 _ _ ?_)
  exact ⟨x, ⟨rfl, rfl⟩, rfl, rfl, rfl, rfl, rfl, rfl, rfl, rfl, rfl, rfl, rfl, HX.out, rfl⟩

set_option maxRecDepth 100000 in
set_option maxHeartbeats 4000000 in
theorem hp5 (w wr : World) (B g b1 b3 gt : Nat) (s : Sh) (l : List Tq) (r i : Nat) (z : Be) (m : La) (HI : Hid (Hw w wr B g b1 b3 gt s l)) (HA : Hid (s.a = some ⟨r, 0, none⟩ ∧ s.ls[i]? = some m)) (hi : i < s.n) (a : Act) (hf : Fr 65 a) (h0 : sl a 0 = .pointer (some ⟨b1, 0, none⟩)) (h1 : sl a 1 = .pointer (some ⟨b3, 0, none⟩)) (h2 : sl a 2 = .int .i64 (z.c : Int)) (h3 : sl a 3 = .int .u64 z.t) (h4 : sl a 4 = .bool z.k) (h10 : sl a 10 = .slice (some ⟨r, 0, none⟩) s.n s.c) (h11 : sl a 11 = .int .i64 (s.n : Int)) (h12 : sl a 12 = .int .i64 (i : Int)) (h5 : sl a 5 = .int .i64 (i : Int)) (h6 : sl a 6 = .pointer (some ⟨m.g, 0, none⟩)) :
    Code.wp Try.prog (cAt [1,0,1,2,2,1,1,0,2,1,0,1,3] KH) (Exit.then (fun a' w' => Fr 65 a' ∧ sl a' 0 = .pointer (some ⟨b1, 0, none⟩) ∧ sl a' 1 = .pointer (some ⟨b3, 0, none⟩) ∧ sl a' 2 = .int .i64 (z.c : Int) ∧ sl a' 3 = .int .u64 z.t ∧ sl a' 4 = .bool z.k ∧ sl a' 10 = .slice (some ⟨r, 0, none⟩) s.n s.c ∧ sl a' 11 = .int .i64 (s.n : Int) ∧ sl a' 12 = .int .i64 (i : Int) ∧ sl a' 5 = .int .i64 (i : Int) ∧ sl a' 6 = .pointer (some ⟨m.g, 0, none⟩) ∧ Hw w w' B g b1 b3 gt s (l.set i ⟨tn s.T s.abs i, true⟩)) Nope) a wr := by
  obtain ⟨f, ha, hs⟩ := frKH hf
  have e0 := (hs 0).trans h0
  have e1 := (hs 1).trans h1
  have e2 := (hs 2).trans h2
  have e3 := (hs 3).trans h3
  have e4 := (hs 4).trans h4
  have e10 := (hs 10).trans h10
  have e11 := (hs 11).trans h11
  have e12 := (hs 12).trans h12
  have e5 := (hs 5).trans h5
  have e6 := (hs 6).trans h6
  rw [e0, e1, e2, e3, e4, e10, e11, e12, e5, e6] at ha
  clear hs hf e0 h0 e1 h1 e2 h2 e3 h3 e4 h4 e10 h10 e11 h11 e12 h12 e5 h5 e6 h6
  subst ha
  refine piece2 fun J0 K0 hJ0 hK0 => ?_
  conv => arg 2; whnf
  have hi2 : (i : Int) < (s.n : Int) := by omega
  have hi0 : (0 : Int) ≤ (i : Int) := by omega
  have H0 := Lib.hid (HI.out.past (show Below wr.heap.size wr wr.drew from (Below.refl _ _).drew))
  have HS : Hid (wr.drew.cell? ⟨b1, 0, none⟩ = some (.pointer (some ⟨g, 0, none⟩)) ∧ wr.drew.cell? ⟨b3, 0, none⟩ = some (.slice (some ⟨gt, 0, none⟩) s.n s.n) ∧ wr.drew.cell? ⟨g, 0, none⟩ = some (.int .u64 s.T)) := ⟨cell_of_one H0.out.cl.p1, cell_of_one H0.out.cl.p3, H0.out.sw.c0⟩
  refine wp_region_held_drew (S := fun w' => w'.cell? ⟨b1, 0, none⟩ = some (.pointer (some ⟨g, 0, none⟩)) ∧ w'.cell? ⟨b3, 0, none⟩ = some (.slice (some ⟨gt, 0, none⟩) s.n s.n) ∧ w'.cell? ⟨g, 0, none⟩ = some (.int .u64 s.T)) (by kernel_rfl) HS.out (fun hS => ?_)
  refine tk 0 23 (.slice (some ⟨gt, 0, none⟩) (s.n) (s.n)) rfl rfl (by kernel_rfl) (by kernel_rfl) (by kernel_rfl) (fun _ _ _ h => h) (Or.inl ⟨by rfl, fun w' h' => ?_⟩) hS ?_
  · have q1 := h'.2.1
    go_simp
  try simp only [Act.put, List.setIfInBounds_toArray, List.set_cons_zero, List.set_cons_succ]
  refine tk 1 24 (.int .i64 (i : Int)) rfl rfl (by kernel_rfl) (by kernel_rfl) (by kernel_rfl) (fun _ _ _ h => h) (Or.inl ⟨by rfl, fun w' h' => ?_⟩) hS ?_
  · go_simp
  try simp only [Act.put, List.setIfInBounds_toArray, List.set_cons_zero, List.set_cons_succ]
  refine tk 2 25 (.pointer (some ⟨m.g, 0, none⟩)) rfl rfl (by kernel_rfl) (by kernel_rfl) (by kernel_rfl) (fun _ _ _ h => h) (Or.inl ⟨by rfl, fun w' h' => ?_⟩) hS ?_
  · go_simp
  try simp only [Act.put, List.setIfInBounds_toArray, List.set_cons_zero, List.set_cons_succ]
  refine tk 3 26 (.pointer (some ⟨g, 0, none⟩)) rfl rfl (by kernel_rfl) (by kernel_rfl) (by kernel_rfl) (fun _ _ _ h => h) (Or.inl ⟨by rfl, fun w' h' => ?_⟩) hS ?_
  · have q1 := h'.1
    go_simp
  try simp only [Act.put, List.setIfInBounds_toArray, List.set_cons_zero, List.set_cons_succ]
  refine tk 4 27 (.pointer (some ⟨g, 0, none⟩)) rfl rfl (by kernel_rfl) (by kernel_rfl) (by kernel_rfl) (fun _ _ _ h => h) (Or.inl ⟨by rfl, fun w' h' => ?_⟩) hS ?_
  · go_simp
  try simp only [Act.put, List.setIfInBounds_toArray, List.set_cons_zero, List.set_cons_succ]
  refine tk 5 28 (.pointer (some ⟨g, 0, none⟩)) rfl rfl (by kernel_rfl) (by kernel_rfl) (by kernel_rfl) (fun _ _ _ h => h) (Or.inl ⟨by rfl, fun w' h' => ?_⟩) hS ?_
  · go_simp
  try simp only [Act.put, List.setIfInBounds_toArray, List.set_cons_zero, List.set_cons_succ]
  refine tk 6 29 (.int .u64 s.T) rfl rfl (by kernel_rfl) (by kernel_rfl) (by kernel_rfl) (fun _ _ _ h => h) (Or.inl ⟨by rfl, fun w' h' => ?_⟩) hS ?_
  · have q1 := h'.2.2
    go_simp
  try simp only [Act.put, List.setIfInBounds_toArray, List.set_cons_zero, List.set_cons_succ]
  refine wpAnyH_ready (rs := [7]) (by kernel_rfl) (by simp) (AllReadyH.cons rfl (fun K hK => ?_) AllReadyH.nil)
  rw [if_pos (by rfl)]
  go_wp2_with fail
  refine (head_any B m s.T _ (H0.out.sw.lws m (List.mem_of_getElem? HA.out.2))).mono ?_
  rintro e w1 ⟨rfl, hb1⟩
  have hv : tuV s.T m.abs = tn s.T s.abs i := by unfold tn; rw [abs_get HA.out.2]
  rw [hv]
  have H1 := Lib.hid (H0.out.past hb1)
  have HS1 : Hid (w1.cell? ⟨b1, 0, none⟩ = some (.pointer (some ⟨g, 0, none⟩)) ∧ w1.cell? ⟨b3, 0, none⟩ = some (.slice (some ⟨gt, 0, none⟩) s.n s.n) ∧ w1.cell? ⟨g, 0, none⟩ = some (.int .u64 s.T)) := ⟨cell_of_one H1.out.cl.p1, cell_of_one H1.out.cl.p3, H1.out.sw.c0⟩
  clear hb1 hv H0 HS
  clear hS
  refine hK.out _ _ (HS1.out) (fun hS => ?_)
  clear hK K
  try simp only [Act.put, List.setIfInBounds_toArray, List.set_cons_zero, List.set_cons_succ]
  refine tk 8 31 (.pointer (some ⟨gt, i * 3, none⟩)) rfl rfl (by kernel_rfl) (by kernel_rfl) (by kernel_rfl) (fun _ _ _ h => h) (Or.inl ⟨by rfl, fun w' h' => ?_⟩) hS ?_
  · go_simp
  try simp only [Act.put, List.setIfInBounds_toArray, List.set_cons_zero, List.set_cons_succ]
  refine wpAnyH_ready (rs := [9]) (by kernel_rfl) (by simp) (AllReadyH.cons rfl (fun K hK => ?_) AllReadyH.nil)
  rw [if_pos (by rfl)]
  refine wp_store_mid 140 (.tmp 31) (.tmp 30) rfl gt (i * 3) (Tq.cs ⟨tn s.T s.abs i, true⟩).toArray rfl rfl (frow_there Tq.len H1.out.cl.pt (by rw [H1.out.cl.len]; exact hi)) infTu3 (all_oneCell_toArray (Tq.one _)) ?_
  change K _ (w1.setCells gt (i * 3) (Tq.cs ⟨tn s.T s.abs i, true⟩))
  have H2 := Lib.hid (H1.out.ask hi)
  obtain ⟨w2, hw2⟩ : ∃ z, w1.setCells gt (i * 3) (Tq.cs ⟨tn s.T s.abs i, true⟩) = z := ⟨_, rfl⟩
  rw [hw2] at H2 ⊢
  have HS2 : Hid (w2.cell? ⟨b1, 0, none⟩ = some (.pointer (some ⟨g, 0, none⟩)) ∧ w2.cell? ⟨b3, 0, none⟩ = some (.slice (some ⟨gt, 0, none⟩) s.n s.n) ∧ w2.cell? ⟨g, 0, none⟩ = some (.int .u64 s.T)) := ⟨cell_of_one H2.out.cl.p1, cell_of_one H2.out.cl.p3, H2.out.sw.c0⟩
  clear hw2 H1 HS1
  clear hS
  refine hK.out _ _ (HS2.out) (fun hS => ?_)
  clear hK K
  refine wpAnyH_done (by kernel_rfl) ?_ _
  go_wp2_with fail
  refine Met.intro (hJ0 _ _ ?_)
  exact ⟨⟨rfl, rfl⟩, rfl, rfl, rfl, rfl, rfl, rfl, rfl, rfl, rfl, rfl, H2.out⟩

set_option maxRecDepth 100000 in
set_option maxHeartbeats 4000000 in
theorem hp6 (w wr : World) (B g b1 b3 gt : Nat) (s : Sh) (l : List Tq) (r i : Nat) (z : Be) (m : La) (HI : Hid (Hw w wr B g b1 b3 gt s l)) (x : Tq) (hx : l[i]? = some x) (hi : i < s.n) (a : Act) (hf : Fr 65 a) (h0 : sl a 0 = .pointer (some ⟨b1, 0, none⟩)) (h1 : sl a 1 = .pointer (some ⟨b3, 0, none⟩)) (h2 : sl a 2 = .int .i64 (z.c : Int)) (h3 : sl a 3 = .int .u64 z.t) (h4 : sl a 4 = .bool z.k) (h10 : sl a 10 = .slice (some ⟨r, 0, none⟩) s.n s.c) (h11 : sl a 11 = .int .i64 (s.n : Int)) (h12 : sl a 12 = .int .i64 (i : Int)) (h5 : sl a 5 = .int .i64 (i : Int)) (h6 : sl a 6 = .pointer (some ⟨m.g, 0, none⟩)) :
    Code.wp Try.prog (cAt [1,0,1,2,2,1,1,0,2,1,1,0] KH) (Exit.then (fun a' w' => Fr 65 a' ∧ sl a' 0 = .pointer (some ⟨b1, 0, none⟩) ∧ sl a' 1 = .pointer (some ⟨b3, 0, none⟩) ∧ sl a' 2 = .int .i64 (z.c : Int) ∧ sl a' 3 = .int .u64 z.t ∧ sl a' 4 = .bool z.k ∧ sl a' 10 = .slice (some ⟨r, 0, none⟩) s.n s.c ∧ sl a' 11 = .int .i64 (s.n : Int) ∧ sl a' 12 = .int .i64 (i : Int) ∧ sl a' 5 = .int .i64 (i : Int) ∧ sl a' 6 = .pointer (some ⟨m.g, 0, none⟩) ∧ sl a' 49 = .bool (x.t.ev && (!z.k || decide (x.t.at_ < z.t))) ∧ wr = w') Nope) a wr := by
  obtain ⟨f, ha, hs⟩ := frKH hf
  have e0 := (hs 0).trans h0
  have e1 := (hs 1).trans h1
  have e2 := (hs 2).trans h2
  have e3 := (hs 3).trans h3
  have e4 := (hs 4).trans h4
  have e10 := (hs 10).trans h10
  have e11 := (hs 11).trans h11
  have e12 := (hs 12).trans h12
  have e5 := (hs 5).trans h5
  have e6 := (hs 6).trans h6
  rw [e0, e1, e2, e3, e4, e10, e11, e12, e5, e6] at ha
  clear hs hf e0 h0 e1 h1 e2 h2 e3 h3 e4 h4 e10 h10 e11 h11 e12 h12 e5 h5 e6 h6
  subst ha
  refine piece2 fun J0 K0 hJ0 hK0 => ?_
  conv => arg 2; whnf
  obtain ⟨x', hx', x0, x1, x2, x3⟩ := HI.out.get (i := i) hi
  have hxx : x' = x := by rw [hx] at hx'; simpa using hx'.symm
  subst hxx
  have p3 := cell_of_one HI.out.cl.p3
  have hi2 : (i : Int) < (s.n : Int) := by omega
  have hi0 : (0 : Int) ≤ (i : Int) := by omega
  clear hx hx'
  obtain ⟨zc, zt, zk⟩ := z
  obtain ⟨⟨xa, xe⟩, xk⟩ := x'
  simp only at x0 x1 x2
  simp only
  cases xe
  · go_wp2_with fail
    refine Met.intro (hJ0 _ _ ?_)
    exact ⟨⟨rfl, rfl⟩, rfl, rfl, rfl, rfl, rfl, rfl, rfl, rfl, rfl, rfl, rfl, rfl⟩
  · cases zk
    · go_wp2_with fail
      refine Met.intro (hJ0 _ _ ?_)
      exact ⟨⟨rfl, rfl⟩, rfl, rfl, rfl, rfl, rfl, rfl, rfl, rfl, rfl, rfl, rfl, rfl⟩
    · by_cases hlt : xa < zt
      · go_wp2_with fail
        refine Met.intro (hJ0 _ _ ?_)
        exact ⟨⟨rfl, rfl⟩, rfl, rfl, rfl, rfl, rfl, rfl, rfl, rfl, rfl, rfl, by rw [decide_eq_true hlt]; rfl, rfl⟩
      · go_wp2_with fail
        refine Met.intro (hJ0 _ _ ?_)
        exact ⟨⟨rfl, rfl⟩, rfl, rfl, rfl, rfl, rfl, rfl, rfl, rfl, rfl, rfl, by rw [decide_eq_false (show ¬ xa < zt by omega)]; rfl, rfl⟩

set_option maxRecDepth 100000 in
set_option maxHeartbeats 4000000 in
theorem hp7 (w wr : World) (B g b1 b3 gt : Nat) (s : Sh) (l : List Tq) (r i : Nat) (z : Be) (m : La) (HI : Hid (Hw w wr B g b1 b3 gt s l)) (x : Tq) (hx : l[i]? = some x) (hi : i < s.n) (a : Act) (hf : Fr 65 a) (h0 : sl a 0 = .pointer (some ⟨b1, 0, none⟩)) (h1 : sl a 1 = .pointer (some ⟨b3, 0, none⟩)) (h2 : sl a 2 = .int .i64 (z.c : Int)) (h3 : sl a 3 = .int .u64 z.t) (h4 : sl a 4 = .bool z.k) (h10 : sl a 10 = .slice (some ⟨r, 0, none⟩) s.n s.c) (h11 : sl a 11 = .int .i64 (s.n : Int)) (h12 : sl a 12 = .int .i64 (i : Int)) (h5 : sl a 5 = .int .i64 (i : Int)) (h6 : sl a 6 = .pointer (some ⟨m.g, 0, none⟩)) :
    Code.wp Try.prog (cAt [1,0,1,2,2,1,1,0,2,1,1,1,3] KH) (Exit.then (fun a' w' => Fr 65 a' ∧ sl a' 0 = .pointer (some ⟨b1, 0, none⟩) ∧ sl a' 1 = .pointer (some ⟨b3, 0, none⟩) ∧ sl a' 10 = .slice (some ⟨r, 0, none⟩) s.n s.c ∧ sl a' 11 = .int .i64 (s.n : Int) ∧ sl a' 12 = .int .i64 (i : Int) ∧ sl a' 2 = .int .i64 (i : Int) ∧ sl a' 3 = .int .u64 x.t.at_ ∧ sl a' 4 = .bool true ∧ Hw w w' B g b1 b3 gt s l) Nope) a wr := by
  obtain ⟨f, ha, hs⟩ := frKH hf
  have e0 := (hs 0).trans h0
  have e1 := (hs 1).trans h1
  have e2 := (hs 2).trans h2
  have e3 := (hs 3).trans h3
  have e4 := (hs 4).trans h4
  have e10 := (hs 10).trans h10
  have e11 := (hs 11).trans h11
  have e12 := (hs 12).trans h12
  have e5 := (hs 5).trans h5
  have e6 := (hs 6).trans h6
  rw [e0, e1, e2, e3, e4, e10, e11, e12, e5, e6] at ha
  clear hs hf e0 h0 e1 h1 e2 h2 e3 h3 e4 h4 e10 h10 e11 h11 e12 h12 e5 h5 e6 h6
  subst ha
  refine piece2 fun J0 K0 hJ0 hK0 => ?_
  conv => arg 2; whnf
  obtain ⟨x', hx', x0, x1, x2, x3⟩ := HI.out.get (i := i) hi
  have hxx : x' = x := by rw [hx] at hx'; simpa using hx'.symm
  subst hxx
  have hi2 : (i : Int) < (s.n : Int) := by omega
  have hi0 : (0 : Int) ≤ (i : Int) := by omega
  have HS : Hid (wr.drew.cell? ⟨b3, 0, none⟩ = some (.slice (some ⟨gt, 0, none⟩) s.n s.n) ∧ wr.drew.cell? ⟨gt, i * 3, none⟩ = some (.int .u64 x'.t.at_)) := ⟨cell_of_one HI.out.cl.p3, x0⟩
  clear hx hx' x0 x1 x2 x3
  refine wp_region_held_drew (S := fun w' => w'.cell? ⟨b3, 0, none⟩ = some (.slice (some ⟨gt, 0, none⟩) s.n s.n) ∧ w'.cell? ⟨gt, i * 3, none⟩ = some (.int .u64 x'.t.at_)) (by kernel_rfl) HS.out (fun hS => ?_)
  refine tk 0 50 (.int .i64 (i : Int)) rfl rfl (by kernel_rfl) (by kernel_rfl) (by kernel_rfl) (fun _ _ _ h => h) (Or.inl ⟨by rfl, fun w' h' => ?_⟩) hS ?_
  · go_simp
  try simp only [Act.put, List.setIfInBounds_toArray, List.set_cons_zero, List.set_cons_succ]
  refine tk 1 51 (.slice (some ⟨gt, 0, none⟩) (s.n) (s.n)) rfl rfl (by kernel_rfl) (by kernel_rfl) (by kernel_rfl) (fun _ _ _ h => h) (Or.inl ⟨by rfl, fun w' h' => ?_⟩) hS ?_
  · have q1 := h'.1
    go_simp
  try simp only [Act.put, List.setIfInBounds_toArray, List.set_cons_zero, List.set_cons_succ]
  refine tk 2 52 (.int .i64 (i : Int)) rfl rfl (by kernel_rfl) (by kernel_rfl) (by kernel_rfl) (fun _ _ _ h => h) (Or.inl ⟨by rfl, fun w' h' => ?_⟩) hS ?_
  · go_simp
  try simp only [Act.put, List.setIfInBounds_toArray, List.set_cons_zero, List.set_cons_succ]
  refine tk 3 53 (.pointer (some ⟨gt, i * 3, none⟩)) rfl rfl (by kernel_rfl) (by kernel_rfl) (by kernel_rfl) (fun _ _ _ h => h) (Or.inl ⟨by rfl, fun w' h' => ?_⟩) hS ?_
  · go_simp
  try simp only [Act.put, List.setIfInBounds_toArray, List.set_cons_zero, List.set_cons_succ]
  refine tk 4 54 (.pointer (some ⟨gt, i * 3, none⟩)) rfl rfl (by kernel_rfl) (by kernel_rfl) (by kernel_rfl) (fun _ _ _ h => h) (Or.inl ⟨by rfl, fun w' h' => ?_⟩) hS ?_
  · go_simp
  try simp only [Act.put, List.setIfInBounds_toArray, List.set_cons_zero, List.set_cons_succ]
  refine tk 5 55 (.int .u64 x'.t.at_) rfl rfl (by kernel_rfl) (by kernel_rfl) (by kernel_rfl) (fun _ _ _ h => h) (Or.inl ⟨by rfl, fun w' h' => ?_⟩) hS ?_
  · have q1 := h'.2
    go_simp
  try simp only [Act.put, List.setIfInBounds_toArray, List.set_cons_zero, List.set_cons_succ]
  refine tk 6 2 (.int .i64 (i : Int)) rfl rfl (by kernel_rfl) (by kernel_rfl) (by kernel_rfl) (fun _ _ _ h => h) (Or.inl ⟨by rfl, fun w' h' => ?_⟩) hS ?_
  · go_simp
  try simp only [Act.put, List.setIfInBounds_toArray, List.set_cons_zero, List.set_cons_succ]
  refine tk 7 3 (.int .u64 x'.t.at_) rfl rfl (by kernel_rfl) (by kernel_rfl) (by kernel_rfl) (fun _ _ _ h => h) (Or.inl ⟨by rfl, fun w' h' => ?_⟩) hS ?_
  · go_simp
  try simp only [Act.put, List.setIfInBounds_toArray, List.set_cons_zero, List.set_cons_succ]
  refine tk 8 4 (.bool true) rfl rfl (by kernel_rfl) (by kernel_rfl) (by kernel_rfl) (fun _ _ _ h => h) (Or.inl ⟨by rfl, fun w' h' => ?_⟩) hS ?_
  · go_simp
  refine wpAnyH_done (by kernel_rfl) ?_ _
  go_wp2_with fail
  refine Met.intro (hJ0 _ _ ?_)
  exact ⟨⟨rfl, rfl⟩, rfl, rfl, rfl, rfl, rfl, rfl, rfl, rfl, HI.out.past ((Below.refl _ _).drew)⟩

set_option maxRecDepth 100000 in
set_option maxHeartbeats 4000000 in
theorem hp8 (_w wr : World) (_B _g b1 b3 _gt : Nat) (s : Sh) (_l : List Tq) (r i : Nat) (z : Be) (hi : i < 1000) (a : Act) (hf : Fr 65 a) (h0 : sl a 0 = .pointer (some ⟨b1, 0, none⟩)) (h1 : sl a 1 = .pointer (some ⟨b3, 0, none⟩)) (h2 : sl a 2 = .int .i64 (z.c : Int)) (h3 : sl a 3 = .int .u64 z.t) (h4 : sl a 4 = .bool z.k) (h10 : sl a 10 = .slice (some ⟨r, 0, none⟩) s.n s.c) (h11 : sl a 11 = .int .i64 (s.n : Int)) (h12 : sl a 12 = .int .i64 (i : Int)) :
    Code.wp Try.prog (cAt [1,0,1,2,2,1,1,1] KH) (Exit.then (fun a' w' => Fr 65 a' ∧ sl a' 0 = .pointer (some ⟨b1, 0, none⟩) ∧ sl a' 1 = .pointer (some ⟨b3, 0, none⟩) ∧ sl a' 2 = .int .i64 (z.c : Int) ∧ sl a' 3 = .int .u64 z.t ∧ sl a' 4 = .bool z.k ∧ sl a' 10 = .slice (some ⟨r, 0, none⟩) s.n s.c ∧ sl a' 11 = .int .i64 (s.n : Int) ∧ sl a' 12 = .int .i64 ((i : Int) + 1) ∧ wr = w') Nope) a wr := by
  obtain ⟨f, ha, hs⟩ := frKH hf
  have e0 := (hs 0).trans h0
  have e1 := (hs 1).trans h1
  have e2 := (hs 2).trans h2
  have e3 := (hs 3).trans h3
  have e4 := (hs 4).trans h4
  have e10 := (hs 10).trans h10
  have e11 := (hs 11).trans h11
  have e12 := (hs 12).trans h12
  rw [e0, e1, e2, e3, e4, e10, e11, e12] at ha
  clear hs hf e0 h0 e1 h1 e2 h2 e3 h3 e4 h4 e10 h10 e11 h11 e12 h12
  subst ha
  refine piece2 fun J0 K0 hJ0 hK0 => ?_
  conv => arg 2; whnf
  have hw : IntKind.i64.wrap ((i : Int) + 1) = (i : Int) + 1 := by rw [IntKind.wrap_i64]; omega
  go_wp2_with fail
  refine Met.intro (hJ0 _ _ ?_)
  exact ⟨⟨rfl, rfl⟩, rfl, rfl, rfl, rfl, rfl, rfl, rfl, rfl, rfl⟩

set_option maxRecDepth 100000 in
set_option maxHeartbeats 4000000 in
theorem hp9 (_w wr : World) (_B _g b1 b3 _gt : Nat) (_s : Sh) (_l : List Tq) (z : Be) (a : Act) (hf : Fr 65 a) (h0 : sl a 0 = .pointer (some ⟨b1, 0, none⟩)) (h1 : sl a 1 = .pointer (some ⟨b3, 0, none⟩)) (h2 : sl a 2 = .int .i64 (z.c : Int)) (h3 : sl a 3 = .int .u64 z.t) (h4 : sl a 4 = .bool z.k) :
    Code.wp Try.prog (cAt [1,1,0,0] KH) (Exit.then (fun a' w' => Fr 65 a' ∧ sl a' 0 = .pointer (some ⟨b1, 0, none⟩) ∧ sl a' 1 = .pointer (some ⟨b3, 0, none⟩) ∧ sl a' 2 = .int .i64 (z.c : Int) ∧ sl a' 3 = .int .u64 z.t ∧ sl a' 4 = .bool z.k ∧ sl a' 57 = .bool z.k ∧ wr = w') Nope) a wr := by
  obtain ⟨f, ha, hs⟩ := frKH hf
  have e0 := (hs 0).trans h0
  have e1 := (hs 1).trans h1
  have e2 := (hs 2).trans h2
  have e3 := (hs 3).trans h3
  have e4 := (hs 4).trans h4
  rw [e0, e1, e2, e3, e4] at ha
  clear hs hf e0 h0 e1 h1 e2 h2 e3 h3 e4 h4
  subst ha
  refine piece2 fun J0 K0 hJ0 hK0 => ?_
  conv => arg 2; whnf
  go_wp2_with fail
  refine Met.intro (hJ0 _ _ ?_)
  exact ⟨⟨rfl, rfl⟩, rfl, rfl, rfl, rfl, rfl, rfl, rfl⟩

set_option maxRecDepth 100000 in
set_option maxHeartbeats 4000000 in
theorem hp10 (w wr : World) (B g b1 b3 gt : Nat) (s : Sh) (l : List Tq) (z : Be) (HI : Hid (Hw w wr B g b1 b3 gt s l)) (x : Tq) (hx : l[z.c]? = some x) (hi : z.c < s.n) (a : Act) (hf : Fr 65 a) (h0 : sl a 0 = .pointer (some ⟨b1, 0, none⟩)) (h1 : sl a 1 = .pointer (some ⟨b3, 0, none⟩)) (h2 : sl a 2 = .int .i64 (z.c : Int)) (h3 : sl a 3 = .int .u64 z.t) (h4 : sl a 4 = .bool z.k) :
    Code.wp Try.prog (cAt [1,1,0,1,3] KH) (Exit.then (fun a' w' => Fr 65 a' ∧ sl a' 0 = .pointer (some ⟨b1, 0, none⟩) ∧ sl a' 1 = .pointer (some ⟨b3, 0, none⟩) ∧ sl a' 2 = .int .i64 (z.c : Int) ∧ sl a' 3 = .int .u64 z.t ∧ sl a' 4 = .bool z.k ∧ Hw w w' B g b1 b3 gt s (l.set z.c { x with k := false })) Nope) a wr := by
  obtain ⟨f, ha, hs⟩ := frKH hf
  have e0 := (hs 0).trans h0
  have e1 := (hs 1).trans h1
  have e2 := (hs 2).trans h2
  have e3 := (hs 3).trans h3
  have e4 := (hs 4).trans h4
  rw [e0, e1, e2, e3, e4] at ha
  clear hs hf e0 h0 e1 h1 e2 h2 e3 h3 e4 h4
  subst ha
  refine piece2 fun J0 K0 hJ0 hK0 => ?_
  conv => arg 2; whnf
  obtain ⟨x', hx', x0, x1, x2, x3⟩ := HI.out.get (i := z.c) hi
  have hxx : x' = x := by rw [hx] at hx'; simpa using hx'.symm
  subst hxx
  have p3 := cell_of_one HI.out.cl.p3
  have hi2 : (z.c : Int) < (s.n : Int) := by omega
  have hi0 : (0 : Int) ≤ (z.c : Int) := by omega
  obtain ⟨hc, k⟩ := HI.out.cl.one hx'
  have HF : Hid (Hw w (wr.setCell ⟨gt, z.c * 3 + 2, none⟩ (.bool false)) B g b1 b3 gt s (l.set z.c { x' with k := false })) := by
    refine ⟨HI.out.sw.keep k (fun j hj e => HI.out.nf (e ▸ hj)) (fun b hb e => HI.out.na b hb e), hc, fun j y hy hk => ?_, HI.out.kept.trans k (fun _ _ e => e), HI.out.nf, HI.out.na⟩
    by_cases e : z.c = j
    · subst e
      rw [List.getElem?_set_self (by rw [HI.out.cl.len]; exact hi)] at hy
      simp at hy
      rw [← hy] at hk
      cases hk
    · rw [List.getElem?_set_ne e] at hy
      exact HI.out.fit j y hy hk
  clear hx hx' x0 x1 hc k
  go_wp2_with fail
  refine Met.intro (hJ0 _ _ ?_)
  exact ⟨⟨rfl, rfl⟩, rfl, rfl, rfl, rfl, rfl, HF.out⟩

set_option maxRecDepth 100000 in
set_option maxHeartbeats 4000000 in
theorem hp11 (wr : World) (z : Be) (R : Ending → World → Prop) (HR : R (.returned (.tuple #[.int .i64 (z.c : Int), .int .u64 z.t, .bool z.k])) wr) (a : Act) (hf : Fr 65 a) (h2 : sl a 2 = .int .i64 (z.c : Int)) (h3 : sl a 3 = .int .u64 z.t) (h4 : sl a 4 = .bool z.k) :
    Code.wp Try.prog (cAt [1,1,1] KH) (bodyPost Try.prog Try.f53 R) a wr := by
  have H := Lib.hid HR
  clear HR
  obtain ⟨f, ha, hs⟩ := frKH hf
  have e2 := (hs 2).trans h2
  have e3 := (hs 3).trans h3
  have e4 := (hs 4).trans h4
  rw [e2, e3, e4] at ha
  clear hs hf e2 h2 e3 h3 e4 h4
  subst ha
  conv => arg 2; whnf
  go_wp2_with fail
  refine bodyPost_ret (v := .tuple #[.int .i64 (z.c : Int), .int .u64 z.t, .bool z.k]) (by simp [results, Try.results53, go_sem]) rfl ?_
  exact H.out

/-- What a round leaves. -/
def Rnd (w : World) (B g b1 b3 gt : Nat) (s : Sh) (r i : Nat) (z : Be) (a' : Act) (w' : World) : Prop :=
  ∃ l', Hw w w' B g b1 b3 gt s l' ∧ Fr 65 a' ∧ sl a' 0 = .pointer (some ⟨b1, 0, none⟩) ∧ sl a' 1 = .pointer (some ⟨b3, 0, none⟩) ∧ sl a' 2 = .int .i64 (z.c : Int) ∧ sl a' 3 = .int .u64 z.t ∧ sl a' 4 = .bool z.k ∧ sl a' 10 = .slice (some ⟨r, 0, none⟩) s.n s.c ∧ sl a' 11 = .int .i64 (s.n : Int) ∧ sl a' 12 = .int .i64 (i : Int)

/-- The lane's part of a round: its turn, what is best so far. -/
theorem h_lane (w wr : World) (B g b1 b3 gt : Nat) (s : Sh) (l : List Tq) (r i : Nat) (HW : Hw w wr B g b1 b3 gt s l) (har : s.a = some ⟨r, 0, none⟩) (hi : i < s.n) (z : Be) (hz : z = bestF (tn s.T s.abs) i) (a : Act) (hf : Fr 65 a) (h0 : sl a 0 = .pointer (some ⟨b1, 0, none⟩)) (h1 : sl a 1 = .pointer (some ⟨b3, 0, none⟩)) (h2 : sl a 2 = .int .i64 (z.c : Int)) (h3 : sl a 3 = .int .u64 z.t) (h4 : sl a 4 = .bool z.k) (h10 : sl a 10 = .slice (some ⟨r, 0, none⟩) s.n s.c) (h11 : sl a 11 = .int .i64 (s.n : Int)) (h12 : sl a 12 = .int .i64 (i : Int)) :
    Code.wp Try.prog (cAt [1,0,1,2,2,1,1,0,2] KH) (Exit.then (Rnd w B g b1 b3 gt s r i (bestF (tn s.T s.abs) (i + 1))) Nope) a wr := by
  obtain ⟨m, hm, hlm⟩ := HW.sw.lane hi
  have HA : Hid (s.a = some ⟨r, 0, none⟩ ∧ s.ls[i]? = some m) := ⟨har, hm⟩
  refine wp_sqR (x := cAt [1,0,1,2,2,1,1,0,2,0] KH) (y := cAt [1,0,1,2,2,1,1,0,2,1] KH) (by kernel_rfl) (hp3 w wr B g b1 b3 gt s l r i z m HW HA hi a hf h0 h1 h2 h3 h4 h10 h11 h12) ?_
  rintro a1 _ ⟨hf, h0, h1, h2, h3, h4, h10, h11, h12, h5, h6, rfl⟩
  refine wp_sqR (R := fun a' w' => ∃ l', Hw w w' B g b1 b3 gt s l' ∧ l'[i]? = some ⟨tn s.T s.abs i, true⟩ ∧ Fr 65 a' ∧ sl a' 0 = .pointer (some ⟨b1, 0, none⟩) ∧ sl a' 1 = .pointer (some ⟨b3, 0, none⟩) ∧ sl a' 2 = .int .i64 (z.c : Int) ∧ sl a' 3 = .int .u64 z.t ∧ sl a' 4 = .bool z.k ∧ sl a' 10 = .slice (some ⟨r, 0, none⟩) s.n s.c ∧ sl a' 11 = .int .i64 (s.n : Int) ∧ sl a' 12 = .int .i64 (i : Int) ∧ sl a' 5 = .int .i64 (i : Int) ∧ sl a' 6 = .pointer (some ⟨m.g, 0, none⟩)) (x := cAt [1,0,1,2,2,1,1,0,2,1,0] KH) (y := cAt [1,0,1,2,2,1,1,0,2,1,1] KH) (by kernel_rfl) ?_ ?_
  · refine wp_sqR (x := cAt [1,0,1,2,2,1,1,0,2,1,0,0] KH) (y := cAt [1,0,1,2,2,1,1,0,2,1,0,1] KH) (by kernel_rfl) (hp4 w wr B g b1 b3 gt s l r i z m HW hi a1 hf h0 h1 h2 h3 h4 h10 h11 h12 h5 h6) ?_
    rintro a2 _ ⟨x, hf, h0, h1, h2, h3, h4, h10, h11, h12, h5, h6, h22, hx, rfl⟩
    cases hk : x.k with
    | false =>
      rw [hk] at h22
      refine wp_onT (A := cAt [1,0,1,2,2,1,1,0,2,1,0,1,3] KH) (B := cAt [1,0,1,2,2,1,1,0,2,1,0,1,4] KH) (by kernel_rfl) h22 ?_
      refine wp_endR (hp5 w wr B g b1 b3 gt s l r i z m HW HA hi a2 hf h0 h1 h2 h3 h4 h10 h11 h12 h5 h6) ?_
      rintro a3 w3 ⟨hf, h0, h1, h2, h3, h4, h10, h11, h12, h5, h6, hw3⟩
      exact ⟨_, hw3, List.getElem?_set_self (by rw [HW.cl.len]; exact hi), hf, h0, h1, h2, h3, h4, h10, h11, h12, h5, h6⟩
    | true =>
      rw [hk] at h22
      refine wp_onF (A := cAt [1,0,1,2,2,1,1,0,2,1,0,1,3] KH) (B := cAt [1,0,1,2,2,1,1,0,2,1,0,1,4] KH) (by kernel_rfl) h22 ?_
      refine wp_skipR (by kernel_rfl) ?_
      refine ⟨l, HW, ?_, hf, h0, h1, h2, h3, h4, h10, h11, h12, h5, h6⟩
      have := HW.fit i x hx hk
      rw [hx, ← this, ← hk]
  rintro a2 w2 ⟨l2, hw2, hx2, hf, h0, h1, h2, h3, h4, h10, h11, h12, h5, h6⟩
  refine wp_sqR (x := cAt [1,0,1,2,2,1,1,0,2,1,1,0] KH) (y := cAt [1,0,1,2,2,1,1,0,2,1,1,1] KH) (by kernel_rfl) (hp6 w w2 B g b1 b3 gt s l2 r i z m hw2 _ hx2 hi a2 hf h0 h1 h2 h3 h4 h10 h11 h12 h5 h6) ?_
  rintro a3 _ ⟨hf, h0, h1, h2, h3, h4, h10, h11, h12, h5, h6, h49, rfl⟩
  have hb : bestF (tn s.T s.abs) (i + 1) = if (tn s.T s.abs i).ev = true ∧ (z.k = false ∨ (tn s.T s.abs i).at_ < z.t) then ⟨i, (tn s.T s.abs i).at_, true⟩ else z := by rw [bestF, ← hz]
  by_cases hc : (tn s.T s.abs i).ev = true ∧ (z.k = false ∨ (tn s.T s.abs i).at_ < z.t)
  · have h49' : sl a3 49 = .bool true := by
      rw [h49]
      congr 1
      simpa [Bool.not_eq_eq_eq_not] using hc
    rw [hb, if_pos hc]
    refine wp_onT (A := cAt [1,0,1,2,2,1,1,0,2,1,1,1,3] KH) (B := cAt [1,0,1,2,2,1,1,0,2,1,1,1,4] KH) (by kernel_rfl) h49' ?_
    refine wp_endR (hp7 w w2 B g b1 b3 gt s l2 r i z m hw2 _ hx2 hi a3 hf h0 h1 h2 h3 h4 h10 h11 h12 h5 h6) ?_
    rintro a4 w4 ⟨hf, h0, h1, h10, h11, h12, h2, h3, h4, hw4⟩
    exact ⟨l2, hw4, hf, h0, h1, h2, h3, h4, h10, h11, h12⟩
  · have h49' : sl a3 49 = .bool false := by
      rw [h49]
      congr 1
      refine Bool.eq_false_iff.2 fun e => hc ?_
      simpa [Bool.not_eq_eq_eq_not] using e
    rw [hb, if_neg hc]
    refine wp_onF (A := cAt [1,0,1,2,2,1,1,0,2,1,1,1,3] KH) (B := cAt [1,0,1,2,2,1,1,0,2,1,1,1,4] KH) (by kernel_rfl) h49' ?_
    refine wp_skipR (by kernel_rfl) ?_
    exact ⟨l2, hw2, hf, h0, h1, h2, h3, h4, h10, h11, h12⟩

/-- What the function tells: the head that goes next, which must be asked anew. -/
def NextR (w : World) (B g b1 b3 gt : Nat) (s : Sh) (e : Ending) (w' : World) : Prop :=
  e = .returned (.tuple #[.int .i64 ((nx s.T s.abs).c : Int), .int .u64 (nx s.T s.abs).t, .bool (nx s.T s.abs).k]) ∧ ∃ l', Hw w w' B g b1 b3 gt s l' ∧ ((nx s.T s.abs).k = true → ∀ x, l'[(nx s.T s.abs).c]? = some x → x.k = false)
theorem heads1_any (w : World) (B g b1 b3 gt : Nat) (s : Sh) (l : List Tq) (HW : Hw w w B g b1 b3 gt s l) (h1 : 1 ≤ s.n) :
    Calls Try.prog 53 #[.pointer (some ⟨b1, 0, none⟩), .pointer (some ⟨b3, 0, none⟩)] w (NextR w B g b1 b3 gt s) := by
  obtain ⟨m0, hm0, _⟩ := HW.sw.lane (i := 0) (by omega)
  obtain ⟨r, har, _⟩ := HW.sw.pt hm0
  have hlen : s.abs.length = s.n := by rw [abs_len]; exact HW.sw.len
  refine calls_of_wp (c := KH) Try.func53 (by kernel_rfl) ?_
  have hf : Fr 65 { tmps := #[.pointer (some ⟨b1, 0, none⟩), .pointer (some ⟨b3, 0, none⟩)] ++ Array.replicate (Try.f53.ntmps - (#[.pointer (some ⟨b1, 0, none⟩), .pointer (some ⟨b3, 0, none⟩)] : Array Value).size) undef, defers := [] } := ⟨rfl, by simp [Try.ntmps53]⟩
  refine wp_sqR (x := cAt [0] KH) (y := cAt [1] KH) (by kernel_rfl) (hp0 w b1 b3 _ hf (sl_at _ _ 0 _ rfl) (sl_at _ _ 1 _ rfl)) ?_
  rintro a1 _ ⟨hf, h0', h1', h2, h3, h4, rfl⟩
  refine wp_sqR (R := fun a' w' => ∃ l', Hw w w' B g b1 b3 gt s l' ∧ Fr 65 a' ∧ sl a' 0 = .pointer (some ⟨b1, 0, none⟩) ∧ sl a' 1 = .pointer (some ⟨b3, 0, none⟩) ∧ sl a' 2 = .int .i64 ((nx s.T s.abs).c : Int) ∧ sl a' 3 = .int .u64 (nx s.T s.abs).t ∧ sl a' 4 = .bool (nx s.T s.abs).k) (x := cAt [1,0] KH) (y := cAt [1,1] KH) (by kernel_rfl) ?_ ?_
  · refine wp_sqR (x := cAt [1,0,0] KH) (y := cAt [1,0,1] KH) (by kernel_rfl) (hp1 w w B g b1 b3 gt s l HW a1 hf h0' h1' h2 h3 h4) ?_
    rintro a2 _ ⟨hf, h0', h1', h2, h3, h4, h10, h11, h12, rfl⟩
    rw [har] at h10
    refine wp_blockR (x := cAt [1,0,1,2] KH) (id := 0) (by kernel_rfl) ?_
    refine wp_loopR (x := cAt [1,0,1,2,2] KH) (by kernel_rfl) (fun a' w' => ∃ i, i ≤ s.n ∧ Rnd w B g b1 b3 gt s r i (bestF (tn s.T s.abs) i) a' w') (fun a' _ => s.n - (intOf (sl a' 12)).toNat) ⟨0, Nat.zero_le _, l, HW, hf, h0', h1', h2, h3, h4, h10, h11, h12⟩ ?_
    rintro a3 w3 ⟨i, hi, l3, hw3, hf, h0', h1', h2, h3, h4, h10, h11, h12⟩
    by_cases hlt : i < s.n
    · refine wp_sqR (x := cAt [1,0,1,2,2,0] KH) (y := cAt [1,0,1,2,2,1] KH) (by kernel_rfl) (hp2 w w3 B g b1 b3 gt s l3 r i _ hlt a3 hf h0' h1' h2 h3 h4 h10 h11 h12) ?_
      rintro a4 _ ⟨hf, h0', h1', h2, h3, h4, h10, h11, h12', h13, rfl⟩
      refine wp_sqR (R := fun a' w' => a4 = a' ∧ w3 = w') (x := cAt [1,0,1,2,2,1,0] KH) (y := cAt [1,0,1,2,2,1,1] KH) (by kernel_rfl) ?_ ?_
      · refine wp_onT (A := cAt [1,0,1,2,2,1,0,3] KH) (B := cAt [1,0,1,2,2,1,0,4] KH) (by kernel_rfl) h13 ?_
        exact wp_skipR (by kernel_rfl) ⟨rfl, rfl⟩
      rintro _ _ ⟨rfl, rfl⟩
      refine wp_sqR (R := Rnd w B g b1 b3 gt s r i (bestF (tn s.T s.abs) (i + 1))) (x := cAt [1,0,1,2,2,1,1,0] KH) (y := cAt [1,0,1,2,2,1,1,1] KH) (by kernel_rfl) ?_ ?_
      · refine wp_blockR (x := cAt [1,0,1,2,2,1,1,0,2] KH) (id := 1) (by kernel_rfl) ?_
        refine wp_endR (h_lane w w3 B g b1 b3 gt s l3 r i hw3 har hlt _ rfl a4 hf h0' h1' h2 h3 h4 h10 h11 h12') ?_
        intro a5 w5 h5
        exact h5
      rintro a5 w5 ⟨l5, hw5, hf, h0', h1', h2, h3, h4, h10, h11, h12'⟩
      refine wp_endR (hp8 w w5 B g b1 b3 gt s l5 r i _ (by have := HW.sw.le; omega) a5 hf h0' h1' h2 h3 h4 h10 h11 h12') ?_
      rintro a6 _ ⟨hf, h0', h1', h2, h3, h4, h10, h11, h12', rfl⟩
      refine ⟨⟨i + 1, hlt, l5, hw5, hf, h0', h1', h2, h3, h4, h10, h11, by rw [h12']; rfl⟩, ?_⟩
      rw [h12, h12']
      simp only [intOf]
      omega
    · have hin : i = s.n := by omega
      refine wp_endX (hp2x w w3 B g b1 b3 gt s l3 r i _ hlt a3 hf h0' h1' h2 h3 h4 h10 h11 h12) ?_
      rintro a4 _ ⟨hf, h0', h1', h2, h3, h4, rfl⟩
      refine thru ?_
      rw [hin] at h2 h3 h4
      have hnx : nx s.T s.abs = bestF (tn s.T s.abs) s.n := by unfold nx; rw [hlen]
      rw [hnx]
      exact ⟨l3, hw3, hf, h0', h1', h2, h3, h4⟩
  rintro a2 w2 ⟨l2, hw2, hf, h0', h1', h2, h3, h4⟩
  refine wp_sqR (R := fun a' w' => (∃ l', Hw w w' B g b1 b3 gt s l' ∧ ((nx s.T s.abs).k = true → ∀ x, l'[(nx s.T s.abs).c]? = some x → x.k = false)) ∧ Fr 65 a' ∧ sl a' 2 = .int .i64 ((nx s.T s.abs).c : Int) ∧ sl a' 3 = .int .u64 (nx s.T s.abs).t ∧ sl a' 4 = .bool (nx s.T s.abs).k) (x := cAt [1,1,0] KH) (y := cAt [1,1,1] KH) (by kernel_rfl) ?_ ?_
  · refine wp_sqR (x := cAt [1,1,0,0] KH) (y := cAt [1,1,0,1] KH) (by kernel_rfl) (hp9 w w2 B g b1 b3 gt s l2 _ a2 hf h0' h1' h2 h3 h4) ?_
    rintro a3 _ ⟨hf, h0', h1', h2, h3, h4, h57, rfl⟩
    cases hk : (nx s.T s.abs).k with
    | true =>
      have hc : (nx s.T s.abs).c < s.n := by rw [← hlen]; exact (best_yes _ _ hk).1
      rw [hk] at h57
      refine wp_onT (A := cAt [1,1,0,1,3] KH) (B := cAt [1,1,0,1,4] KH) (by kernel_rfl) h57 ?_
      obtain ⟨x, hx, _⟩ := hw2.get hc
      refine wp_endR (hp10 w w2 B g b1 b3 gt s l2 _ hw2 x hx hc a3 hf h0' h1' h2 h3 h4) ?_
      rintro a4 w4 ⟨hf, h0', h1', h2, h3, h4, hw4⟩
      refine ⟨⟨_, hw4, fun _ y hy => ?_⟩, hf, h2, h3, by rw [h4, hk]⟩
      rw [List.getElem?_set_self (by rw [hw2.cl.len]; exact hc)] at hy
      simp at hy
      rw [← hy]
    | false =>
      rw [hk] at h57
      refine wp_onF (A := cAt [1,1,0,1,3] KH) (B := cAt [1,1,0,1,4] KH) (by kernel_rfl) h57 ?_
      refine wp_skipR (by kernel_rfl) ?_
      exact ⟨⟨l2, hw2, fun h => by cases h⟩, hf, h2, h3, by rw [h4, hk]⟩
  rintro a3 w3 ⟨hl, hf, h2, h3, h4⟩
  exact hp11 w3 _ _ ⟨rfl, hl⟩ a3 hf h2 h3 h4
end Go.Proofs.Ytpigpeehhadkjaa

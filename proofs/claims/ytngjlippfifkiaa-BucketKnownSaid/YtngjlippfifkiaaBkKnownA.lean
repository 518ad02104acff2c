/-
  BucketKnown in pieces. Conditions: those that the theorems name. (Made by gen_bkknown.py.)
-/
import Derived.Test.YtngjlippfifkiaaBkKnownM
namespace Go.Proofs.Ytngjlippfifkiaa
open Go.RowKit

noncomputable def KK : Code := Try.f7.body.getD .skip
set_option maxRecDepth 100000 in
theorem fr128 {a : Act} (h : Fr 128 a) : ∃ f : Nat → Value, a = ⟨#[f 0, f 1, f 2, f 3, f 4, f 5, f 6, f 7, f 8, f 9, f 10, f 11, f 12, f 13, f 14, f 15, f 16, f 17, f 18, f 19, f 20, f 21, f 22, f 23, f 24, f 25, f 26, f 27, f 28, f 29, f 30, f 31, f 32, f 33, f 34, f 35, f 36, f 37, f 38, f 39, f 40, f 41, f 42, f 43, f 44, f 45, f 46, f 47, f 48, f 49, f 50, f 51, f 52, f 53, f 54, f 55, f 56, f 57, f 58, f 59, f 60, f 61, f 62, f 63, f 64, f 65, f 66, f 67, f 68, f 69, f 70, f 71, f 72, f 73, f 74, f 75, f 76, f 77, f 78, f 79, f 80, f 81, f 82, f 83, f 84, f 85, f 86, f 87, f 88, f 89, f 90, f 91, f 92, f 93, f 94, f 95, f 96, f 97, f 98, f 99, f 100, f 101, f 102, f 103, f 104, f 105, f 106, f 107, f 108, f 109, f 110, f 111, f 112, f 113, f 114, f 115, f 116, f 117, f 118, f 119, f 120, f 121, f 122, f 123, f 124, f 125, f 126, f 127], []⟩ ∧ ∀ i, f i = sl a i := fr_any h

set_option maxRecDepth 100000 in
set_option maxHeartbeats 4000000 in
theorem k0 (w : World) (a : Act) (hf : Fr 128 a)  :
    Code.wp Try.prog (cAt [0] KK) (Exit.then (fun a' w' => Fr 128 a' ∧ w = w') Nope) a w := by
  obtain ⟨f, ha, hs⟩ := fr128 hf
  clear hs hf 
  subst ha
  refine piece2 fun J0 K0 hJ0 hK0 => ?_
  conv => arg 2; whnf
  go_wp2_with fail
  refine Met.intro (hJ0 _ _ ?_)
  exact ⟨⟨rfl, rfl⟩, rfl⟩

set_option maxRecDepth 100000 in
set_option maxHeartbeats 4000000 in
theorem k1 (w : World) (a : Act) (hf : Fr 128 a)  :
    Code.wp Try.prog (cAt [1,0] KK) (Exit.then (fun a' w' => ∃ gl, Fr 128 a' ∧ sl a' 1 = .slice (some ⟨gl, 0, none⟩) 9 9 ∧ Kv w w' gl) Nope) a w := by
  obtain ⟨f, ha, hs⟩ := fr128 hf
  clear hs hf 
  subst ha
  refine piece2 fun J0 K0 hJ0 hK0 => ?_
  conv => arg 2; whnf
  have HV : Hid (Kv w (w.alloc (.cells #[.int .u64 0, .int .u64 1, .int .u64 2, .int .u64 3, .int .u64 10, .int .u64 4294967296, .int .u64 9223372036854775808, .int .u64 18446744073709551614, .int .u64 18446744073709551615] 22)) w.heap.size) := ⟨Blk_new _ _ _, (Below.refl _ _).alloc (Nat.le_refl _) _, Nat.le_refl _⟩
  go_wp2_with fail
  refine Met.intro (hJ0 _ _ ?_)
  exact ⟨_, ⟨rfl, rfl⟩, rfl, HV.out⟩

set_option maxRecDepth 100000 in
set_option maxHeartbeats 4000000 in
theorem k2 (wr : World) (gl : Nat) (a : Act) (hf : Fr 128 a) (h1 : sl a 1 = .slice (some ⟨gl, 0, none⟩) 9 9) :
    Code.wp Try.prog (cAt [1,1,0] KK) (Exit.then (fun a' w' => Fr 128 a' ∧ sl a' 1 = .slice (some ⟨gl, 0, none⟩) 9 9 ∧ sl a' 2 = .int .i64 1 ∧ wr = w') Nope) a wr := by
  obtain ⟨f, ha, hs⟩ := fr128 hf
  have e1 := (hs 1).trans h1
  rw [e1] at ha
  clear hs hf e1 h1
  subst ha
  refine piece2 fun J0 K0 hJ0 hK0 => ?_
  conv => arg 2; whnf
  go_wp2_with fail
  refine Met.intro (hJ0 _ _ ?_)
  exact ⟨⟨rfl, rfl⟩, rfl, rfl, rfl⟩

set_option maxRecDepth 100000 in
set_option maxHeartbeats 4000000 in
theorem k3 (wr : World) (gl k : Nat) (a : Act) (hf : Fr 128 a) (h1 : sl a 1 = .slice (some ⟨gl, 0, none⟩) 9 9) (h2 : sl a 2 = .int .i64 (k : Int)) :
    Code.wp Try.prog (cAt [1,1,1,0,0] KK) (Exit.then (fun a' w' => Fr 128 a' ∧ sl a' 1 = .slice (some ⟨gl, 0, none⟩) 9 9 ∧ sl a' 2 = .int .i64 (k : Int) ∧ sl a' 3 = .int .i64 0 ∧ wr = w') Nope) a wr := by
  obtain ⟨f, ha, hs⟩ := fr128 hf
  have e1 := (hs 1).trans h1
  have e2 := (hs 2).trans h2
  rw [e1, e2] at ha
  clear hs hf e1 h1 e2 h2
  subst ha
  refine piece2 fun J0 K0 hJ0 hK0 => ?_
  conv => arg 2; whnf
  go_wp2_with fail
  refine Met.intro (hJ0 _ _ ?_)
  exact ⟨⟨rfl, rfl⟩, rfl, rfl, rfl, rfl⟩

set_option maxRecDepth 100000 in
set_option maxHeartbeats 4000000 in
theorem k4 (wr : World) (gl k i : Nat) (hi : i < 9) (a : Act) (hf : Fr 128 a) (h1 : sl a 1 = .slice (some ⟨gl, 0, none⟩) 9 9) (h2 : sl a 2 = .int .i64 (k : Int)) (h3 : sl a 3 = .int .i64 (i : Int)) :
    Code.wp Try.prog (cAt [1,1,1,0,1,2,2,0] KK) (Exit.then (fun a' w' => Fr 128 a' ∧ sl a' 1 = .slice (some ⟨gl, 0, none⟩) 9 9 ∧ sl a' 2 = .int .i64 (k : Int) ∧ sl a' 3 = .int .i64 (i : Int) ∧ wr = w') Nope) a wr := by
  obtain ⟨f, ha, hs⟩ := fr128 hf
  have e1 := (hs 1).trans h1
  have e2 := (hs 2).trans h2
  have e3 := (hs 3).trans h3
  rw [e1, e2, e3] at ha
  clear hs hf e1 h1 e2 h2 e3 h3
  subst ha
  refine piece2 fun J0 K0 hJ0 hK0 => ?_
  conv => arg 2; whnf
  go_wp2_with fail
  refine Met.intro (hJ0 _ _ ?_)
  exact ⟨⟨rfl, rfl⟩, rfl, rfl, rfl, rfl⟩

set_option maxRecDepth 100000 in
set_option maxHeartbeats 4000000 in
theorem k4x (wr : World) (gl k i : Nat) (hi : ¬ i < 9) (a : Act) (hf : Fr 128 a) (h1 : sl a 1 = .slice (some ⟨gl, 0, none⟩) 9 9) (h2 : sl a 2 = .int .i64 (k : Int)) (h3 : sl a 3 = .int .i64 (i : Int)) :
    Code.wp Try.prog (cAt [1,1,1,0,1,2,2] KK) (Outs 0 (fun a' w' => Fr 128 a' ∧ sl a' 1 = .slice (some ⟨gl, 0, none⟩) 9 9 ∧ sl a' 2 = .int .i64 (k : Int) ∧ wr = w')) a wr := by
  obtain ⟨f, ha, hs⟩ := fr128 hf
  have e1 := (hs 1).trans h1
  have e2 := (hs 2).trans h2
  have e3 := (hs 3).trans h3
  rw [e1, e2, e3] at ha
  clear hs hf e1 h1 e2 h2 e3 h3
  subst ha
  conv => arg 2; whnf
  go_wp2_with fail
  exact ⟨rfl, ⟨rfl, rfl⟩, rfl, rfl, rfl⟩

set_option maxRecDepth 100000 in
set_option maxHeartbeats 4000000 in
theorem k6 (wr : World) (gl k i : Nat) (a : Act) (hf : Fr 128 a) (h1 : sl a 1 = .slice (some ⟨gl, 0, none⟩) 9 9) (h2 : sl a 2 = .int .i64 (k : Int)) (h3 : sl a 3 = .int .i64 (i : Int)) :
    Code.wp Try.prog (cAt [1,1,1,0,1,2,2,1,0,2,0] KK) (Exit.then (fun a' w' => Fr 128 a' ∧ sl a' 1 = .slice (some ⟨gl, 0, none⟩) 9 9 ∧ sl a' 2 = .int .i64 (k : Int) ∧ sl a' 3 = .int .i64 (i : Int) ∧ sl a' 4 = .int .i64 0 ∧ wr = w') Nope) a wr := by
  obtain ⟨f, ha, hs⟩ := fr128 hf
  have e1 := (hs 1).trans h1
  have e2 := (hs 2).trans h2
  have e3 := (hs 3).trans h3
  rw [e1, e2, e3] at ha
  clear hs hf e1 h1 e2 h2 e3 h3
  subst ha
  refine piece2 fun J0 K0 hJ0 hK0 => ?_
  conv => arg 2; whnf
  go_wp2_with fail
  refine Met.intro (hJ0 _ _ ?_)
  exact ⟨⟨rfl, rfl⟩, rfl, rfl, rfl, rfl, rfl⟩

set_option maxRecDepth 100000 in
set_option maxHeartbeats 4000000 in
theorem k7 (wr : World) (gl k i m : Nat) (hm : m < 9) (a : Act) (hf : Fr 128 a) (h1 : sl a 1 = .slice (some ⟨gl, 0, none⟩) 9 9) (h2 : sl a 2 = .int .i64 (k : Int)) (h3 : sl a 3 = .int .i64 (i : Int)) (h4 : sl a 4 = .int .i64 (m : Int)) :
    Code.wp Try.prog (cAt [1,1,1,0,1,2,2,1,0,2,1,2,2,0] KK) (Exit.then (fun a' w' => Fr 128 a' ∧ sl a' 1 = .slice (some ⟨gl, 0, none⟩) 9 9 ∧ sl a' 2 = .int .i64 (k : Int) ∧ sl a' 3 = .int .i64 (i : Int) ∧ sl a' 4 = .int .i64 (m : Int) ∧ wr = w') Nope) a wr := by
  obtain ⟨f, ha, hs⟩ := fr128 hf
  have e1 := (hs 1).trans h1
  have e2 := (hs 2).trans h2
  have e3 := (hs 3).trans h3
  have e4 := (hs 4).trans h4
  rw [e1, e2, e3, e4] at ha
  clear hs hf e1 h1 e2 h2 e3 h3 e4 h4
  subst ha
  refine piece2 fun J0 K0 hJ0 hK0 => ?_
  conv => arg 2; whnf
  go_wp2_with fail
  refine Met.intro (hJ0 _ _ ?_)
  exact ⟨⟨rfl, rfl⟩, rfl, rfl, rfl, rfl, rfl⟩

set_option maxRecDepth 100000 in
set_option maxHeartbeats 4000000 in
theorem k7x (wr : World) (gl k i m : Nat) (hm : ¬ m < 9) (a : Act) (hf : Fr 128 a) (h1 : sl a 1 = .slice (some ⟨gl, 0, none⟩) 9 9) (h2 : sl a 2 = .int .i64 (k : Int)) (h3 : sl a 3 = .int .i64 (i : Int)) (h4 : sl a 4 = .int .i64 (m : Int)) :
    Code.wp Try.prog (cAt [1,1,1,0,1,2,2,1,0,2,1,2,2] KK) (Outs 2 (fun a' w' => Fr 128 a' ∧ sl a' 1 = .slice (some ⟨gl, 0, none⟩) 9 9 ∧ sl a' 2 = .int .i64 (k : Int) ∧ sl a' 3 = .int .i64 (i : Int) ∧ wr = w')) a wr := by
  obtain ⟨f, ha, hs⟩ := fr128 hf
  have e1 := (hs 1).trans h1
  have e2 := (hs 2).trans h2
  have e3 := (hs 3).trans h3
  have e4 := (hs 4).trans h4
  rw [e1, e2, e3, e4] at ha
  clear hs hf e1 h1 e2 h2 e3 h3 e4 h4
  subst ha
  conv => arg 2; whnf
  go_wp2_with fail
  exact ⟨rfl, ⟨rfl, rfl⟩, rfl, rfl, rfl, rfl⟩

set_option maxRecDepth 100000 in
set_option maxHeartbeats 4000000 in
theorem k9 (wr : World) (gl k i m : Nat) (a : Act) (hf : Fr 128 a) (h1 : sl a 1 = .slice (some ⟨gl, 0, none⟩) 9 9) (h2 : sl a 2 = .int .i64 (k : Int)) (h3 : sl a 3 = .int .i64 (i : Int)) (h4 : sl a 4 = .int .i64 (m : Int)) :
    Code.wp Try.prog (cAt [1,1,1,0,1,2,2,1,0,2,1,2,2,1,0,2,0] KK) (Exit.then (fun a' w' => Fr 128 a' ∧ sl a' 1 = .slice (some ⟨gl, 0, none⟩) 9 9 ∧ sl a' 2 = .int .i64 (k : Int) ∧ sl a' 3 = .int .i64 (i : Int) ∧ sl a' 4 = .int .i64 (m : Int) ∧ sl a' 5 = .slice none 0 0 ∧ wr = w') Nope) a wr := by
  obtain ⟨f, ha, hs⟩ := fr128 hf
  have e1 := (hs 1).trans h1
  have e2 := (hs 2).trans h2
  have e3 := (hs 3).trans h3
  have e4 := (hs 4).trans h4
  rw [e1, e2, e3, e4] at ha
  clear hs hf e1 h1 e2 h2 e3 h3 e4 h4
  subst ha
  refine piece2 fun J0 K0 hJ0 hK0 => ?_
  conv => arg 2; whnf
  go_wp2_with fail
  refine Met.intro (hJ0 _ _ ?_)
  exact ⟨⟨rfl, rfl⟩, rfl, rfl, rfl, rfl, rfl, rfl⟩

set_option maxRecDepth 100000 in
set_option maxHeartbeats 4000000 in
theorem k10 (wr : World) (gl k i m n cA : Nat) (aA : Option Addr) (a : Act) (hf : Fr 128 a) (h1 : sl a 1 = .slice (some ⟨gl, 0, none⟩) 9 9) (h2 : sl a 2 = .int .i64 (k : Int)) (h3 : sl a 3 = .int .i64 (i : Int)) (h4 : sl a 4 = .int .i64 (m : Int)) (h5 : sl a 5 = .slice aA n cA) :
    Code.wp Try.prog (cAt [1,1,1,0,1,2,2,1,0,2,1,2,2,1,0,2,1,0,0] KK) (Exit.then (fun a' w' => Fr 128 a' ∧ sl a' 1 = .slice (some ⟨gl, 0, none⟩) 9 9 ∧ sl a' 2 = .int .i64 (k : Int) ∧ sl a' 3 = .int .i64 (i : Int) ∧ sl a' 4 = .int .i64 (m : Int) ∧ sl a' 5 = .slice aA n cA ∧ sl a' 6 = .int .i64 0 ∧ wr = w') Nope) a wr := by
  obtain ⟨f, ha, hs⟩ := fr128 hf
  have e1 := (hs 1).trans h1
  have e2 := (hs 2).trans h2
  have e3 := (hs 3).trans h3
  have e4 := (hs 4).trans h4
  have e5 := (hs 5).trans h5
  rw [e1, e2, e3, e4, e5] at ha
  clear hs hf e1 h1 e2 h2 e3 h3 e4 h4 e5 h5
  subst ha
  refine piece2 fun J0 K0 hJ0 hK0 => ?_
  conv => arg 2; whnf
  go_wp2_with fail
  refine Met.intro (hJ0 _ _ ?_)
  exact ⟨⟨rfl, rfl⟩, rfl, rfl, rfl, rfl, rfl, rfl, rfl⟩

set_option maxRecDepth 100000 in
set_option maxHeartbeats 4000000 in
theorem k11 (wr : World) (gl k i m n cA : Nat) (aA : Option Addr) (hn : n < 12) (a : Act) (hf : Fr 128 a) (h1 : sl a 1 = .slice (some ⟨gl, 0, none⟩) 9 9) (h2 : sl a 2 = .int .i64 (k : Int)) (h3 : sl a 3 = .int .i64 (i : Int)) (h4 : sl a 4 = .int .i64 (m : Int)) (h5 : sl a 5 = .slice aA n cA) (h6 : sl a 6 = .int .i64 (n : Int)) :
    Code.wp Try.prog (cAt [1,1,1,0,1,2,2,1,0,2,1,2,2,1,0,2,1,0,1,2,2,0] KK) (Exit.then (fun a' w' => Fr 128 a' ∧ sl a' 1 = .slice (some ⟨gl, 0, none⟩) 9 9 ∧ sl a' 2 = .int .i64 (k : Int) ∧ sl a' 3 = .int .i64 (i : Int) ∧ sl a' 4 = .int .i64 (m : Int) ∧ sl a' 5 = .slice aA n cA ∧ sl a' 6 = .int .i64 (n : Int) ∧ wr = w') Nope) a wr := by
  obtain ⟨f, ha, hs⟩ := fr128 hf
  have e1 := (hs 1).trans h1
  have e2 := (hs 2).trans h2
  have e3 := (hs 3).trans h3
  have e4 := (hs 4).trans h4
  have e5 := (hs 5).trans h5
  have e6 := (hs 6).trans h6
  rw [e1, e2, e3, e4, e5, e6] at ha
  clear hs hf e1 h1 e2 h2 e3 h3 e4 h4 e5 h5 e6 h6
  subst ha
  refine piece2 fun J0 K0 hJ0 hK0 => ?_
  conv => arg 2; whnf
  go_wp2_with fail
  refine Met.intro (hJ0 _ _ ?_)
  exact ⟨⟨rfl, rfl⟩, rfl, rfl, rfl, rfl, rfl, rfl, rfl⟩

set_option maxRecDepth 100000 in
set_option maxHeartbeats 4000000 in
theorem k11x (wr : World) (gl k i m n cA : Nat) (aA : Option Addr) (hn : ¬ n < 12) (a : Act) (hf : Fr 128 a) (h1 : sl a 1 = .slice (some ⟨gl, 0, none⟩) 9 9) (h2 : sl a 2 = .int .i64 (k : Int)) (h3 : sl a 3 = .int .i64 (i : Int)) (h4 : sl a 4 = .int .i64 (m : Int)) (h5 : sl a 5 = .slice aA n cA) (h6 : sl a 6 = .int .i64 (n : Int)) :
    Code.wp Try.prog (cAt [1,1,1,0,1,2,2,1,0,2,1,2,2,1,0,2,1,0,1,2,2] KK) (Outs 4 (fun a' w' => Fr 128 a' ∧ sl a' 1 = .slice (some ⟨gl, 0, none⟩) 9 9 ∧ sl a' 2 = .int .i64 (k : Int) ∧ sl a' 3 = .int .i64 (i : Int) ∧ sl a' 4 = .int .i64 (m : Int) ∧ sl a' 5 = .slice aA n cA ∧ wr = w')) a wr := by
  obtain ⟨f, ha, hs⟩ := fr128 hf
  have e1 := (hs 1).trans h1
  have e2 := (hs 2).trans h2
  have e3 := (hs 3).trans h3
  have e4 := (hs 4).trans h4
  have e5 := (hs 5).trans h5
  have e6 := (hs 6).trans h6
  rw [e1, e2, e3, e4, e5, e6] at ha
  clear hs hf e1 h1 e2 h2 e3 h3 e4 h4 e5 h5 e6 h6
  subst ha
  conv => arg 2; whnf
  go_wp2_with fail
  exact ⟨rfl, ⟨rfl, rfl⟩, rfl, rfl, rfl, rfl, rfl, rfl⟩

set_option maxRecDepth 100000 in
set_option maxHeartbeats 4000000 in
theorem k13 (w : World) (wr : World) (gl k i m n cA : Nat) (aA : Option Addr) (l : List Ac) (hn : n < 12) (hk : k < 100003) (HA : Hid (Ka w wr gl aA n cA l)) (a : Act) (hf : Fr 128 a) (h1 : sl a 1 = .slice (some ⟨gl, 0, none⟩) 9 9) (h2 : sl a 2 = .int .i64 (k : Int)) (h3 : sl a 3 = .int .i64 (i : Int)) (h4 : sl a 4 = .int .i64 (m : Int)) (h5 : sl a 5 = .slice aA n cA) (h6 : sl a 6 = .int .i64 (n : Int)) :
    Code.wp Try.prog (cAt [1,1,1,0,1,2,2,1,0,2,1,2,2,1,0,2,1,0,1,2,2,1,0,2,0] KK) (Exit.then (fun a' w' => ∃ gA cA' l', Fr 128 a' ∧ sl a' 1 = .slice (some ⟨gl, 0, none⟩) 9 9 ∧ sl a' 2 = .int .i64 (k : Int) ∧ sl a' 3 = .int .i64 (i : Int) ∧ sl a' 4 = .int .i64 (m : Int) ∧ sl a' 5 = .slice (some ⟨gA, 0, none⟩) (n + 1) cA' ∧ sl a' 6 = .int .i64 (n : Int) ∧ Ka w w' gl (some ⟨gA, 0, none⟩) (n + 1) cA' l') Nope) a wr := by
  obtain ⟨f, ha, hs⟩ := fr128 hf
  have e1 := (hs 1).trans h1
  have e2 := (hs 2).trans h2
  have e3 := (hs 3).trans h3
  have e4 := (hs 4).trans h4
  have e5 := (hs 5).trans h5
  have e6 := (hs 6).trans h6
  rw [e1, e2, e3, e4, e5, e6] at ha
  clear hs hf e1 h1 e2 h2 e3 h3 e4 h4 e5 h5 e6 h6
  subst ha
  refine piece2 fun J0 K0 hJ0 hK0 => ?_
  conv => arg 2; whnf
  obtain ⟨q1, j1, hq1, hj1, hj1', hq1'⟩ := idx_of k 3
  obtain ⟨q2, j2, hq2, hj2, hj2', hq2'⟩ := idx_of k 27
  obtain ⟨d, hd⟩ : ∃ d, (k : Int).tmod 3 = d := ⟨_, rfl⟩
  have e1 : (k : Int).tdiv 3 = (q1 : Int) := hq1
  have e2 : (k : Int).tdiv 27 = (q2 : Int) := hq2
  clear hq1 hq2
  have hb1 : (j1 : Int) < 9 := by omega
  have hb2 : (j2 : Int) < 9 := by omega
  have x1 : IntKind.i64.wrap (q1 : Int) = q1 := by rw [IntKind.wrap_i64]; omega
  have x2 : IntKind.i64.wrap (q2 : Int) = q2 := by rw [IntKind.wrap_i64]; omega
  have v1 := nine_fit j1
  have v2 := nine_fit j2
  have c1 := HA.out.kv.lr.cell hj1'
  have c2 := HA.out.kv.lr.cell hj2'
  obtain ⟨y1, hy1⟩ : ∃ y, nine.getD j1 0 = y := ⟨_, rfl⟩
  obtain ⟨y2, hy2⟩ : ∃ y, nine.getD j2 0 = y := ⟨_, rfl⟩
  rw [hy1] at v1 c1
  rw [hy2] at v2 c2
  have HA2 : Hid (Ka w wr.drew gl aA n cA l) := HA.out.past (Below.refl _ _).drew
  have HX : Hid (Ac.ok ⟨d, y1, y2⟩) := ⟨v1.1, v1.2, v2.1, v2.2⟩
  have HY1 := Lib.hid hy1
  have HY2 := Lib.hid hy2
  clear hy1 hy2 v1 v2
  have HS : Hid (Lr wr.drew gl) := HA2.out.kv.lr
  clear c1 c2
  refine wp_region_held_drew (S := fun w' => Lr w' gl) (by kernel_rfl) HS.out (fun hS => ?_)
  refine tk 0 24 (.slice aA n cA) rfl rfl (by kernel_rfl) (by kernel_rfl) (by kernel_rfl) (fun _ _ _ h => h) (Or.inl ⟨by rfl, fun w' h' => ?_⟩) hS ?_
  · go_simp
  try simp only [Act.put, List.setIfInBounds_toArray, List.set_cons_zero, List.set_cons_succ]
  refine tk 1 25 (.int .i64 (k : Int)) rfl rfl (by kernel_rfl) (by kernel_rfl) (by kernel_rfl) (fun _ _ _ h => h) (Or.inl ⟨by rfl, fun w' h' => ?_⟩) hS ?_
  · go_simp
  try simp only [Act.put, List.setIfInBounds_toArray, List.set_cons_zero, List.set_cons_succ]
  refine tk 2 26 (.int .i64 d) rfl rfl (by kernel_rfl) (by kernel_rfl) (by kernel_rfl) (fun _ _ _ h => h) (Or.inl ⟨by rfl, fun w' h' => ?_⟩) hS ?_
  · go_simp
  try simp only [Act.put, List.setIfInBounds_toArray, List.set_cons_zero, List.set_cons_succ]
  refine tk 3 27 (.slice (some ⟨gl, 0, none⟩) 9 9) rfl rfl (by kernel_rfl) (by kernel_rfl) (by kernel_rfl) (fun _ _ _ h => h) (Or.inl ⟨by rfl, fun w' h' => ?_⟩) hS ?_
  · go_simp
  try simp only [Act.put, List.setIfInBounds_toArray, List.set_cons_zero, List.set_cons_succ]
  refine tk 4 28 (.int .i64 (k : Int)) rfl rfl (by kernel_rfl) (by kernel_rfl) (by kernel_rfl) (fun _ _ _ h => h) (Or.inl ⟨by rfl, fun w' h' => ?_⟩) hS ?_
  · go_simp
  try simp only [Act.put, List.setIfInBounds_toArray, List.set_cons_zero, List.set_cons_succ]
  refine tk 5 29 (.int .i64 (q1 : Int)) rfl rfl (by kernel_rfl) (by kernel_rfl) (by kernel_rfl) (fun _ _ _ h => h) (Or.inl ⟨by rfl, fun w' h' => ?_⟩) hS ?_
  · go_simp
  try simp only [Act.put, List.setIfInBounds_toArray, List.set_cons_zero, List.set_cons_succ]
  refine tk 6 30 (.int .i64 (j1 : Int)) rfl rfl (by kernel_rfl) (by kernel_rfl) (by kernel_rfl) (fun _ _ _ h => h) (Or.inl ⟨by rfl, fun w' h' => ?_⟩) hS ?_
  · go_simp
  try simp only [Act.put, List.setIfInBounds_toArray, List.set_cons_zero, List.set_cons_succ]
  refine tk 7 31 (.pointer (some ⟨gl, j1, none⟩)) rfl rfl (by kernel_rfl) (by kernel_rfl) (by kernel_rfl) (fun _ _ _ h => h) (Or.inl ⟨by rfl, fun w' h' => ?_⟩) hS ?_
  · go_simp
  try simp only [Act.put, List.setIfInBounds_toArray, List.set_cons_zero, List.set_cons_succ]
  refine tk 8 32 (.int .u64 y1) rfl rfl (by kernel_rfl) (by kernel_rfl) (by kernel_rfl) (fun _ _ _ h => h) (Or.inl ⟨by rfl, fun w' h' => ?_⟩) hS ?_
  · have c1 := Lr.cell h' (j := j1) (by omega)
    rw [HY1.out] at c1
    go_simp
  try simp only [Act.put, List.setIfInBounds_toArray, List.set_cons_zero, List.set_cons_succ]
  refine tk 9 33 (.slice (some ⟨gl, 0, none⟩) 9 9) rfl rfl (by kernel_rfl) (by kernel_rfl) (by kernel_rfl) (fun _ _ _ h => h) (Or.inl ⟨by rfl, fun w' h' => ?_⟩) hS ?_
  · go_simp
  try simp only [Act.put, List.setIfInBounds_toArray, List.set_cons_zero, List.set_cons_succ]
  refine tk 10 34 (.int .i64 (k : Int)) rfl rfl (by kernel_rfl) (by kernel_rfl) (by kernel_rfl) (fun _ _ _ h => h) (Or.inl ⟨by rfl, fun w' h' => ?_⟩) hS ?_
  · go_simp
  try simp only [Act.put, List.setIfInBounds_toArray, List.set_cons_zero, List.set_cons_succ]
  refine tk 11 35 (.int .i64 (q2 : Int)) rfl rfl (by kernel_rfl) (by kernel_rfl) (by kernel_rfl) (fun _ _ _ h => h) (Or.inl ⟨by rfl, fun w' h' => ?_⟩) hS ?_
  · go_simp
  try simp only [Act.put, List.setIfInBounds_toArray, List.set_cons_zero, List.set_cons_succ]
  refine tk 12 36 (.int .i64 (j2 : Int)) rfl rfl (by kernel_rfl) (by kernel_rfl) (by kernel_rfl) (fun _ _ _ h => h) (Or.inl ⟨by rfl, fun w' h' => ?_⟩) hS ?_
  · go_simp
  try simp only [Act.put, List.setIfInBounds_toArray, List.set_cons_zero, List.set_cons_succ]
  refine tk 13 37 (.pointer (some ⟨gl, j2, none⟩)) rfl rfl (by kernel_rfl) (by kernel_rfl) (by kernel_rfl) (fun _ _ _ h => h) (Or.inl ⟨by rfl, fun w' h' => ?_⟩) hS ?_
  · go_simp
  try simp only [Act.put, List.setIfInBounds_toArray, List.set_cons_zero, List.set_cons_succ]
  refine tk 14 38 (.int .u64 y2) rfl rfl (by kernel_rfl) (by kernel_rfl) (by kernel_rfl) (fun _ _ _ h => h) (Or.inl ⟨by rfl, fun w' h' => ?_⟩) hS ?_
  · have c2 := Lr.cell h' (j := j2) (by omega)
    rw [HY2.out] at c2
    go_simp
  try simp only [Act.put, List.setIfInBounds_toArray, List.set_cons_zero, List.set_cons_succ]
  refine tk 15 39 (.agg #[.int .i64 d, .int .u64 y1, .int .u64 y2]) rfl rfl (by kernel_rfl) (by kernel_rfl) (by kernel_rfl) (fun _ _ _ h => h) (Or.inl ⟨by rfl, fun w' h' => ?_⟩) hS ?_
  · go_simp
  try simp only [Act.put, List.setIfInBounds_toArray, List.set_cons_zero, List.set_cons_succ]
  refine wpAnyH_ready (rs := [16]) (by kernel_rfl) (by simp) (AllReadyH.cons rfl (fun K hK => ?_) AllReadyH.nil)
  rw [if_pos (by rfl)]
  obtain ⟨gA, cA', w3, hrun, hka⟩ := HA2.out.grow ⟨d, y1, y2⟩ HX.out (by omega)
  have HRN := Lib.hid hrun
  have HK3 := Lib.hid hka
  have hbl : Below wr.drew.heap.size wr.drew (wr.drew.alloc (.cells #[.int .i64 d, .int .u64 y1, .int .u64 y2] 34)) := (Below.refl _ _).alloc (Nat.le_refl _) _
  have HS2 : Hid (Lr (wr.drew.alloc (.cells #[.int .i64 d, .int .u64 y1, .int .u64 y2] 34)) gl) := HS.out.below hbl
  clear hrun hka hbl
  go_wp2_with fail
  change K _ (wr.drew.alloc (.cells #[.int .i64 d, .int .u64 y1, .int .u64 y2] 34))
  clear hS
  refine hK.out _ _ (HS2.out) (fun hS => ?_)
  clear hK K
  try simp only [Act.put, List.setIfInBounds_toArray, List.set_cons_zero, List.set_cons_succ]
  refine wpAnyH_ready (rs := [17]) (by kernel_rfl) (by simp) (AllReadyH.cons rfl (fun K hK => ?_) AllReadyH.nil)
  rw [if_pos (by rfl)]
  refine Lib.wp_append_run _ (.tmp 24) (.tmp 40) _ _ rfl _ _ rfl rfl _ _ HRN.out ?_
  change K (Act.put _ (some 41) _) _
  clear hS
  refine hK.out _ _ (HK3.out.kv.lr) (fun hS => ?_)
  clear hK K
  try simp only [Act.put, List.setIfInBounds_toArray, List.set_cons_zero, List.set_cons_succ]
  refine tk 18 5 (.slice (some ⟨gA, 0, none⟩) (n + 1) cA') rfl rfl (by kernel_rfl) (by kernel_rfl) (by kernel_rfl) (fun _ _ _ h => h) (Or.inl ⟨by rfl, fun w' h' => ?_⟩) hS ?_
  · go_simp
  refine wpAnyH_done (by kernel_rfl) ?_ _
  go_wp2_with fail
  refine Met.intro (hJ0 _ _ ?_)
  exact ⟨gA, cA', _, ⟨rfl, rfl⟩, rfl, rfl, rfl, rfl, rfl, rfl, HK3.out⟩

set_option maxRecDepth 100000 in
set_option maxHeartbeats 4000000 in
theorem k14 (wr : World) (gl k i m n t cA : Nat) (aA : Option Addr) (ht : t < 12) (hk : k < 100003) (a : Act) (hf : Fr 128 a) (h1 : sl a 1 = .slice (some ⟨gl, 0, none⟩) 9 9) (h2 : sl a 2 = .int .i64 (k : Int)) (h3 : sl a 3 = .int .i64 (i : Int)) (h4 : sl a 4 = .int .i64 (m : Int)) (h5 : sl a 5 = .slice aA n cA) (h6 : sl a 6 = .int .i64 (t : Int)) :
    Code.wp Try.prog (cAt [1,1,1,0,1,2,2,1,0,2,1,2,2,1,0,2,1,0,1,2,2,1,0,2,1] KK) (Exit.then (fun a' w' => ∃ (k' : Nat), Fr 128 a' ∧ sl a' 1 = .slice (some ⟨gl, 0, none⟩) 9 9 ∧ sl a' 2 = .int .i64 (k' : Int) ∧ sl a' 3 = .int .i64 (i : Int) ∧ sl a' 4 = .int .i64 (m : Int) ∧ sl a' 5 = .slice aA n cA ∧ sl a' 6 = .int .i64 (t : Int) ∧ k' < 100003 ∧ wr = w') Nope) a wr := by
  obtain ⟨f, ha, hs⟩ := fr128 hf
  have e1 := (hs 1).trans h1
  have e2 := (hs 2).trans h2
  have e3 := (hs 3).trans h3
  have e4 := (hs 4).trans h4
  have e5 := (hs 5).trans h5
  have e6 := (hs 6).trans h6
  rw [e1, e2, e3, e4, e5, e6] at ha
  clear hs hf e1 h1 e2 h2 e3 h3 e4 h4 e5 h5 e6 h6
  subst ha
  refine piece2 fun J0 K0 hJ0 hK0 => ?_
  conv => arg 2; whnf
  have e1 : (((k * 31 + 7 * t + 11 : Nat) : Int)).tmod 100003 = ((k * 31 + 7 * t + 11) % 100003 : Nat) := rfl
  have e2 : ((k : Int) * 31 + 7 * (t : Int) + 11).tmod 100003 = (((k * 31 + 7 * t + 11) % 100003 : Nat) : Int) := by rw [← e1]; congr 1
  obtain ⟨k', hk'⟩ : ∃ z, (k * 31 + 7 * t + 11) % 100003 = z := ⟨_, rfl⟩
  have hlt : k' < 100003 := by omega
  rw [hk'] at e2
  clear hk' e1
  go_wp2_with fail
  refine Met.intro (hJ0 _ _ ?_)
  exact ⟨k', ⟨rfl, rfl⟩, rfl, rfl, rfl, rfl, rfl, rfl, hlt, rfl⟩

set_option maxRecDepth 100000 in
set_option maxHeartbeats 4000000 in
theorem k12 (wr : World) (gl k i m n t cA : Nat) (aA : Option Addr) (ht : t < 12) (a : Act) (hf : Fr 128 a) (h1 : sl a 1 = .slice (some ⟨gl, 0, none⟩) 9 9) (h2 : sl a 2 = .int .i64 (k : Int)) (h3 : sl a 3 = .int .i64 (i : Int)) (h4 : sl a 4 = .int .i64 (m : Int)) (h5 : sl a 5 = .slice aA n cA) (h6 : sl a 6 = .int .i64 (t : Int)) :
    Code.wp Try.prog (cAt [1,1,1,0,1,2,2,1,0,2,1,2,2,1,0,2,1,0,1,2,2,1,1] KK) (Exit.then (fun a' w' => Fr 128 a' ∧ sl a' 1 = .slice (some ⟨gl, 0, none⟩) 9 9 ∧ sl a' 2 = .int .i64 (k : Int) ∧ sl a' 3 = .int .i64 (i : Int) ∧ sl a' 4 = .int .i64 (m : Int) ∧ sl a' 5 = .slice aA n cA ∧ sl a' 6 = .int .i64 ((t : Int) + 1) ∧ wr = w') Nope) a wr := by
  obtain ⟨f, ha, hs⟩ := fr128 hf
  have e1 := (hs 1).trans h1
  have e2 := (hs 2).trans h2
  have e3 := (hs 3).trans h3
  have e4 := (hs 4).trans h4
  have e5 := (hs 5).trans h5
  have e6 := (hs 6).trans h6
  rw [e1, e2, e3, e4, e5, e6] at ha
  clear hs hf e1 h1 e2 h2 e3 h3 e4 h4 e5 h5 e6 h6
  subst ha
  refine piece2 fun J0 K0 hJ0 hK0 => ?_
  conv => arg 2; whnf
  go_wp2_with fail
  refine Met.intro (hJ0 _ _ ?_)
  exact ⟨⟨rfl, rfl⟩, rfl, rfl, rfl, rfl, rfl, rfl, rfl⟩

set_option maxRecDepth 100000 in
set_option maxHeartbeats 4000000 in
theorem k15 (w : World) (wr : World) (gl k i m n cA : Nat) (aA : Option Addr) (l : List Ac) (hi : i < 9) (hm : m < 9) (hn : n ≤ 60) (hk : k < 100003) (HA : Hid (Ka w wr gl aA n cA l)) (a : Act) (hf : Fr 128 a) (h1 : sl a 1 = .slice (some ⟨gl, 0, none⟩) 9 9) (h2 : sl a 2 = .int .i64 (k : Int)) (h3 : sl a 3 = .int .i64 (i : Int)) (h4 : sl a 4 = .int .i64 (m : Int)) (h5 : sl a 5 = .slice aA n cA) :
    Code.wp Try.prog (cAt [1,1,1,0,1,2,2,1,0,2,1,2,2,1,0,2,1,1,0] KK) (Exit.then (fun a' w' => Fr 128 a' ∧ sl a' 1 = .slice (some ⟨gl, 0, none⟩) 9 9 ∧ sl a' 2 = .int .i64 (k : Int) ∧ sl a' 3 = .int .i64 (i : Int) ∧ sl a' 4 = .int .i64 (m : Int) ∧ Kv w w' gl) Nope) a wr := by
  obtain ⟨f, ha, hs⟩ := fr128 hf
  have e1 := (hs 1).trans h1
  have e2 := (hs 2).trans h2
  have e3 := (hs 3).trans h3
  have e4 := (hs 4).trans h4
  have e5 := (hs 5).trans h5
  rw [e1, e2, e3, e4, e5] at ha
  clear hs hf e1 h1 e2 h2 e3 h3 e4 h4 e5 h5
  subst ha
  refine piece2 fun J0 K0 hJ0 hK0 => ?_
  conv => arg 2; whnf
  obtain ⟨q9, j9, hq9, hj9, hl9, hz9⟩ := idx_of k 9
  have e9 : (k : Int).tdiv 9 = (q9 : Int) := hq9
  have x9 : IntKind.i64.wrap (q9 : Int) = q9 := by rw [IntKind.wrap_i64]; omega
  clear hq9
  have hb9 : (j9 : Int) < 9 := by omega
  obtain ⟨q81, j81, hq81, hj81, hl81, hz81⟩ := idx_of k 81
  have e81 : (k : Int).tdiv 81 = (q81 : Int) := hq81
  have x81 : IntKind.i64.wrap (q81 : Int) = q81 := by rw [IntKind.wrap_i64]; omega
  clear hq81
  have hb81 : (j81 : Int) < 9 := by omega
  obtain ⟨q729, j729, hq729, hj729, hl729, hz729⟩ := idx_of k 729
  have e729 : (k : Int).tdiv 729 = (q729 : Int) := hq729
  have x729 : IntKind.i64.wrap (q729 : Int) = q729 := by rw [IntKind.wrap_i64]; omega
  clear hq729
  have hb729 : (j729 : Int) < 9 := by omega
  obtain ⟨j1, hj1, hl1⟩ := idx_one k
  have hb1 : (j1 : Int) < 9 := by omega
  have hi2 : (i : Int) < 9 := by omega
  have hm2 : (m : Int) < 9 := by omega
  have HS : Hid (Lr wr.drew gl) := HA.out.kv.lr
  go_wp2_with fail
  refine wp_region_held_drew (S := fun w' => Lr w' gl) (by kernel_rfl) HS.out (fun hS => ?_)
  refine tk 0 49 (.slice (some ⟨gl, 0, none⟩) 9 9) rfl rfl (by kernel_rfl) (by kernel_rfl) (by kernel_rfl) (fun _ _ _ h => h) (Or.inl ⟨by rfl, fun w' h' => ?_⟩) hS ?_
  · go_simp
  try simp only [Act.put, List.setIfInBounds_toArray, List.set_cons_zero, List.set_cons_succ]
  refine tk 1 50 (.int .i64 (i : Int)) rfl rfl (by kernel_rfl) (by kernel_rfl) (by kernel_rfl) (fun _ _ _ h => h) (Or.inl ⟨by rfl, fun w' h' => ?_⟩) hS ?_
  · go_simp
  try simp only [Act.put, List.setIfInBounds_toArray, List.set_cons_zero, List.set_cons_succ]
  refine tk 2 51 (.pointer (some ⟨gl, i, none⟩)) rfl rfl (by kernel_rfl) (by kernel_rfl) (by kernel_rfl) (fun _ _ _ h => h) (Or.inl ⟨by rfl, fun w' h' => ?_⟩) hS ?_
  · go_simp
  try simp only [Act.put, List.setIfInBounds_toArray, List.set_cons_zero, List.set_cons_succ]
  refine tk 3 52 (.int .u64 (nine.getD i 0)) rfl rfl (by kernel_rfl) (by kernel_rfl) (by kernel_rfl) (fun _ _ _ h => h) (Or.inl ⟨by rfl, fun w' h' => ?_⟩) hS ?_
  · have c1 := Lr.cell h' (j := i) (by omega)
    go_simp
  try simp only [Act.put, List.setIfInBounds_toArray, List.set_cons_zero, List.set_cons_succ]
  refine tk 4 53 (.slice (some ⟨gl, 0, none⟩) 9 9) rfl rfl (by kernel_rfl) (by kernel_rfl) (by kernel_rfl) (fun _ _ _ h => h) (Or.inl ⟨by rfl, fun w' h' => ?_⟩) hS ?_
  · go_simp
  try simp only [Act.put, List.setIfInBounds_toArray, List.set_cons_zero, List.set_cons_succ]
  refine tk 5 54 (.int .i64 (m : Int)) rfl rfl (by kernel_rfl) (by kernel_rfl) (by kernel_rfl) (fun _ _ _ h => h) (Or.inl ⟨by rfl, fun w' h' => ?_⟩) hS ?_
  · go_simp
  try simp only [Act.put, List.setIfInBounds_toArray, List.set_cons_zero, List.set_cons_succ]
  refine tk 6 55 (.pointer (some ⟨gl, m, none⟩)) rfl rfl (by kernel_rfl) (by kernel_rfl) (by kernel_rfl) (fun _ _ _ h => h) (Or.inl ⟨by rfl, fun w' h' => ?_⟩) hS ?_
  · go_simp
  try simp only [Act.put, List.setIfInBounds_toArray, List.set_cons_zero, List.set_cons_succ]
  refine tk 7 56 (.int .u64 (nine.getD m 0)) rfl rfl (by kernel_rfl) (by kernel_rfl) (by kernel_rfl) (fun _ _ _ h => h) (Or.inl ⟨by rfl, fun w' h' => ?_⟩) hS ?_
  · have c1 := Lr.cell h' (j := m) (by omega)
    go_simp
  try simp only [Act.put, List.setIfInBounds_toArray, List.set_cons_zero, List.set_cons_succ]
  refine tk 8 57 (.slice (some ⟨gl, 0, none⟩) 9 9) rfl rfl (by kernel_rfl) (by kernel_rfl) (by kernel_rfl) (fun _ _ _ h => h) (Or.inl ⟨by rfl, fun w' h' => ?_⟩) hS ?_
  · go_simp
  try simp only [Act.put, List.setIfInBounds_toArray, List.set_cons_zero, List.set_cons_succ]
  refine tk 9 58 (.int .i64 (k : Int)) rfl rfl (by kernel_rfl) (by kernel_rfl) (by kernel_rfl) (fun _ _ _ h => h) (Or.inl ⟨by rfl, fun w' h' => ?_⟩) hS ?_
  · go_simp
  try simp only [Act.put, List.setIfInBounds_toArray, List.set_cons_zero, List.set_cons_succ]
  refine tk 10 59 (.int .i64 (j1 : Int)) rfl rfl (by kernel_rfl) (by kernel_rfl) (by kernel_rfl) (fun _ _ _ h => h) (Or.inl ⟨by rfl, fun w' h' => ?_⟩) hS ?_
  · go_simp
  try simp only [Act.put, List.setIfInBounds_toArray, List.set_cons_zero, List.set_cons_succ]
  refine tk 11 60 (.pointer (some ⟨gl, j1, none⟩)) rfl rfl (by kernel_rfl) (by kernel_rfl) (by kernel_rfl) (fun _ _ _ h => h) (Or.inl ⟨by rfl, fun w' h' => ?_⟩) hS ?_
  · go_simp
  try simp only [Act.put, List.setIfInBounds_toArray, List.set_cons_zero, List.set_cons_succ]
  refine tk 12 61 (.int .u64 (nine.getD j1 0)) rfl rfl (by kernel_rfl) (by kernel_rfl) (by kernel_rfl) (fun _ _ _ h => h) (Or.inl ⟨by rfl, fun w' h' => ?_⟩) hS ?_
  · have c1 := Lr.cell h' (j := j1) (by omega)
    go_simp
  try simp only [Act.put, List.setIfInBounds_toArray, List.set_cons_zero, List.set_cons_succ]
  refine tk 13 62 (.slice aA n cA) rfl rfl (by kernel_rfl) (by kernel_rfl) (by kernel_rfl) (fun _ _ _ h => h) (Or.inl ⟨by rfl, fun w' h' => ?_⟩) hS ?_
  · go_simp
  try simp only [Act.put, List.setIfInBounds_toArray, List.set_cons_zero, List.set_cons_succ]
  refine wpAnyH_ready (rs := [14]) (by kernel_rfl) (by simp) (AllReadyH.cons rfl (fun K hK => ?_) AllReadyH.nil)
  rw [if_pos (by rfl)]
  go_wp2_with fail
  refine (plays_any _ _ _ aA n cA l _ (nine_fit i).1 (nine_fit i).2 (nine_fit m).1 (nine_fit m).2 (nine_fit j1).1 (nine_fit j1).2 (HA.out.past (Below.refl _ _).drew).acr (by omega)).mono ?_
  rintro e v1 ⟨rfl, hb1⟩
  have H1 : Hid (Ka w v1 gl aA n cA l) := (HA.out.past (Below.refl _ _).drew).past hb1
  clear hb1
  clear hS
  refine hK.out _ _ (H1.out.kv.lr) (fun hS => ?_)
  clear hK K
  try simp only [Act.put, List.setIfInBounds_toArray, List.set_cons_zero, List.set_cons_succ]
  refine tk 15 64 (.bool false) rfl rfl (by kernel_rfl) (by kernel_rfl) (by kernel_rfl) (fun _ _ _ h => h) (Or.inl ⟨by rfl, fun w' h' => ?_⟩) hS ?_
  · go_simp
  try simp only [Act.put, List.setIfInBounds_toArray, List.set_cons_zero, List.set_cons_succ]
  refine tk 16 65 (.bool false) rfl rfl (by kernel_rfl) (by kernel_rfl) (by kernel_rfl) (fun _ _ _ h => h) (Or.inl ⟨by rfl, fun w' h' => ?_⟩) hS ?_
  · go_simp
  try simp only [Act.put, List.setIfInBounds_toArray, List.set_cons_zero, List.set_cons_succ]
  refine tk 17 66 (.slice (some ⟨gl, 0, none⟩) 9 9) rfl rfl (by kernel_rfl) (by kernel_rfl) (by kernel_rfl) (fun _ _ _ h => h) (Or.inl ⟨by rfl, fun w' h' => ?_⟩) hS ?_
  · go_simp
  try simp only [Act.put, List.setIfInBounds_toArray, List.set_cons_zero, List.set_cons_succ]
  refine tk 18 67 (.int .i64 (i : Int)) rfl rfl (by kernel_rfl) (by kernel_rfl) (by kernel_rfl) (fun _ _ _ h => h) (Or.inl ⟨by rfl, fun w' h' => ?_⟩) hS ?_
  · go_simp
  try simp only [Act.put, List.setIfInBounds_toArray, List.set_cons_zero, List.set_cons_succ]
  refine tk 19 68 (.pointer (some ⟨gl, i, none⟩)) rfl rfl (by kernel_rfl) (by kernel_rfl) (by kernel_rfl) (fun _ _ _ h => h) (Or.inl ⟨by rfl, fun w' h' => ?_⟩) hS ?_
  · go_simp
  try simp only [Act.put, List.setIfInBounds_toArray, List.set_cons_zero, List.set_cons_succ]
  refine tk 20 69 (.int .u64 (nine.getD i 0)) rfl rfl (by kernel_rfl) (by kernel_rfl) (by kernel_rfl) (fun _ _ _ h => h) (Or.inl ⟨by rfl, fun w' h' => ?_⟩) hS ?_
  · have c1 := Lr.cell h' (j := i) (by omega)
    go_simp
  try simp only [Act.put, List.setIfInBounds_toArray, List.set_cons_zero, List.set_cons_succ]
  refine tk 21 70 (.slice (some ⟨gl, 0, none⟩) 9 9) rfl rfl (by kernel_rfl) (by kernel_rfl) (by kernel_rfl) (fun _ _ _ h => h) (Or.inl ⟨by rfl, fun w' h' => ?_⟩) hS ?_
  · go_simp
  try simp only [Act.put, List.setIfInBounds_toArray, List.set_cons_zero, List.set_cons_succ]
  refine tk 22 71 (.int .i64 (m : Int)) rfl rfl (by kernel_rfl) (by kernel_rfl) (by kernel_rfl) (fun _ _ _ h => h) (Or.inl ⟨by rfl, fun w' h' => ?_⟩) hS ?_
  · go_simp
  try simp only [Act.put, List.setIfInBounds_toArray, List.set_cons_zero, List.set_cons_succ]
  refine tk 23 72 (.pointer (some ⟨gl, m, none⟩)) rfl rfl (by kernel_rfl) (by kernel_rfl) (by kernel_rfl) (fun _ _ _ h => h) (Or.inl ⟨by rfl, fun w' h' => ?_⟩) hS ?_
  · go_simp
  try simp only [Act.put, List.setIfInBounds_toArray, List.set_cons_zero, List.set_cons_succ]
  refine tk 24 73 (.int .u64 (nine.getD m 0)) rfl rfl (by kernel_rfl) (by kernel_rfl) (by kernel_rfl) (fun _ _ _ h => h) (Or.inl ⟨by rfl, fun w' h' => ?_⟩) hS ?_
  · have c1 := Lr.cell h' (j := m) (by omega)
    go_simp
  try simp only [Act.put, List.setIfInBounds_toArray, List.set_cons_zero, List.set_cons_succ]
  refine tk 25 74 (.slice (some ⟨gl, 0, none⟩) 9 9) rfl rfl (by kernel_rfl) (by kernel_rfl) (by kernel_rfl) (fun _ _ _ h => h) (Or.inl ⟨by rfl, fun w' h' => ?_⟩) hS ?_
  · go_simp
  try simp only [Act.put, List.setIfInBounds_toArray, List.set_cons_zero, List.set_cons_succ]
  refine tk 26 75 (.int .i64 (k : Int)) rfl rfl (by kernel_rfl) (by kernel_rfl) (by kernel_rfl) (fun _ _ _ h => h) (Or.inl ⟨by rfl, fun w' h' => ?_⟩) hS ?_
  · go_simp
  try simp only [Act.put, List.setIfInBounds_toArray, List.set_cons_zero, List.set_cons_succ]
  refine tk 27 76 (.int .i64 (j1 : Int)) rfl rfl (by kernel_rfl) (by kernel_rfl) (by kernel_rfl) (fun _ _ _ h => h) (Or.inl ⟨by rfl, fun w' h' => ?_⟩) hS ?_
  · go_simp
  try simp only [Act.put, List.setIfInBounds_toArray, List.set_cons_zero, List.set_cons_succ]
  refine tk 28 77 (.pointer (some ⟨gl, j1, none⟩)) rfl rfl (by kernel_rfl) (by kernel_rfl) (by kernel_rfl) (fun _ _ _ h => h) (Or.inl ⟨by rfl, fun w' h' => ?_⟩) hS ?_
  · go_simp
  try simp only [Act.put, List.setIfInBounds_toArray, List.set_cons_zero, List.set_cons_succ]
  refine tk 29 78 (.int .u64 (nine.getD j1 0)) rfl rfl (by kernel_rfl) (by kernel_rfl) (by kernel_rfl) (fun _ _ _ h => h) (Or.inl ⟨by rfl, fun w' h' => ?_⟩) hS ?_
  · have c1 := Lr.cell h' (j := j1) (by omega)
    go_simp
  try simp only [Act.put, List.setIfInBounds_toArray, List.set_cons_zero, List.set_cons_succ]
  refine tk 30 79 (.slice (some ⟨gl, 0, none⟩) 9 9) rfl rfl (by kernel_rfl) (by kernel_rfl) (by kernel_rfl) (fun _ _ _ h => h) (Or.inl ⟨by rfl, fun w' h' => ?_⟩) hS ?_
  · go_simp
  try simp only [Act.put, List.setIfInBounds_toArray, List.set_cons_zero, List.set_cons_succ]
  refine tk 31 80 (.int .i64 (k : Int)) rfl rfl (by kernel_rfl) (by kernel_rfl) (by kernel_rfl) (fun _ _ _ h => h) (Or.inl ⟨by rfl, fun w' h' => ?_⟩) hS ?_
  · go_simp
  try simp only [Act.put, List.setIfInBounds_toArray, List.set_cons_zero, List.set_cons_succ]
  refine tk 32 81 (.int .i64 (q9 : Int)) rfl rfl (by kernel_rfl) (by kernel_rfl) (by kernel_rfl) (fun _ _ _ h => h) (Or.inl ⟨by rfl, fun w' h' => ?_⟩) hS ?_
  · go_simp
  try simp only [Act.put, List.setIfInBounds_toArray, List.set_cons_zero, List.set_cons_succ]
  refine tk 33 82 (.int .i64 (j9 : Int)) rfl rfl (by kernel_rfl) (by kernel_rfl) (by kernel_rfl) (fun _ _ _ h => h) (Or.inl ⟨by rfl, fun w' h' => ?_⟩) hS ?_
  · go_simp
  try simp only [Act.put, List.setIfInBounds_toArray, List.set_cons_zero, List.set_cons_succ]
  refine tk 34 83 (.pointer (some ⟨gl, j9, none⟩)) rfl rfl (by kernel_rfl) (by kernel_rfl) (by kernel_rfl) (fun _ _ _ h => h) (Or.inl ⟨by rfl, fun w' h' => ?_⟩) hS ?_
  · go_simp
  try simp only [Act.put, List.setIfInBounds_toArray, List.set_cons_zero, List.set_cons_succ]
  refine tk 35 84 (.int .u64 (nine.getD j9 0)) rfl rfl (by kernel_rfl) (by kernel_rfl) (by kernel_rfl) (fun _ _ _ h => h) (Or.inl ⟨by rfl, fun w' h' => ?_⟩) hS ?_
  · have c1 := Lr.cell h' (j := j9) (by omega)
    go_simp
  try simp only [Act.put, List.setIfInBounds_toArray, List.set_cons_zero, List.set_cons_succ]
  refine tk 36 85 (.slice (some ⟨gl, 0, none⟩) 9 9) rfl rfl (by kernel_rfl) (by kernel_rfl) (by kernel_rfl) (fun _ _ _ h => h) (Or.inl ⟨by rfl, fun w' h' => ?_⟩) hS ?_
  · go_simp
  try simp only [Act.put, List.setIfInBounds_toArray, List.set_cons_zero, List.set_cons_succ]
  refine tk 37 86 (.int .i64 (k : Int)) rfl rfl (by kernel_rfl) (by kernel_rfl) (by kernel_rfl) (fun _ _ _ h => h) (Or.inl ⟨by rfl, fun w' h' => ?_⟩) hS ?_
  · go_simp
  try simp only [Act.put, List.setIfInBounds_toArray, List.set_cons_zero, List.set_cons_succ]
  refine tk 38 87 (.int .i64 (q81 : Int)) rfl rfl (by kernel_rfl) (by kernel_rfl) (by kernel_rfl) (fun _ _ _ h => h) (Or.inl ⟨by rfl, fun w' h' => ?_⟩) hS ?_
  · go_simp
  try simp only [Act.put, List.setIfInBounds_toArray, List.set_cons_zero, List.set_cons_succ]
  refine tk 39 88 (.int .i64 (j81 : Int)) rfl rfl (by kernel_rfl) (by kernel_rfl) (by kernel_rfl) (fun _ _ _ h => h) (Or.inl ⟨by rfl, fun w' h' => ?_⟩) hS ?_
  · go_simp
  try simp only [Act.put, List.setIfInBounds_toArray, List.set_cons_zero, List.set_cons_succ]
  refine tk 40 89 (.pointer (some ⟨gl, j81, none⟩)) rfl rfl (by kernel_rfl) (by kernel_rfl) (by kernel_rfl) (fun _ _ _ h => h) (Or.inl ⟨by rfl, fun w' h' => ?_⟩) hS ?_
  · go_simp
  try simp only [Act.put, List.setIfInBounds_toArray, List.set_cons_zero, List.set_cons_succ]
  refine tk 41 90 (.int .u64 (nine.getD j81 0)) rfl rfl (by kernel_rfl) (by kernel_rfl) (by kernel_rfl) (fun _ _ _ h => h) (Or.inl ⟨by rfl, fun w' h' => ?_⟩) hS ?_
  · have c1 := Lr.cell h' (j := j81) (by omega)
    go_simp
  try simp only [Act.put, List.setIfInBounds_toArray, List.set_cons_zero, List.set_cons_succ]
  refine tk 42 91 (.slice (some ⟨gl, 0, none⟩) 9 9) rfl rfl (by kernel_rfl) (by kernel_rfl) (by kernel_rfl) (fun _ _ _ h => h) (Or.inl ⟨by rfl, fun w' h' => ?_⟩) hS ?_
  · go_simp
  try simp only [Act.put, List.setIfInBounds_toArray, List.set_cons_zero, List.set_cons_succ]
  refine tk 43 92 (.int .i64 (k : Int)) rfl rfl (by kernel_rfl) (by kernel_rfl) (by kernel_rfl) (fun _ _ _ h => h) (Or.inl ⟨by rfl, fun w' h' => ?_⟩) hS ?_
  · go_simp
  try simp only [Act.put, List.setIfInBounds_toArray, List.set_cons_zero, List.set_cons_succ]
  refine tk 44 93 (.int .i64 (q729 : Int)) rfl rfl (by kernel_rfl) (by kernel_rfl) (by kernel_rfl) (fun _ _ _ h => h) (Or.inl ⟨by rfl, fun w' h' => ?_⟩) hS ?_
  · go_simp
  try simp only [Act.put, List.setIfInBounds_toArray, List.set_cons_zero, List.set_cons_succ]
  refine tk 45 94 (.int .i64 (j729 : Int)) rfl rfl (by kernel_rfl) (by kernel_rfl) (by kernel_rfl) (fun _ _ _ h => h) (Or.inl ⟨by rfl, fun w' h' => ?_⟩) hS ?_
  · go_simp
  try simp only [Act.put, List.setIfInBounds_toArray, List.set_cons_zero, List.set_cons_succ]
  refine tk 46 95 (.pointer (some ⟨gl, j729, none⟩)) rfl rfl (by kernel_rfl) (by kernel_rfl) (by kernel_rfl) (fun _ _ _ h => h) (Or.inl ⟨by rfl, fun w' h' => ?_⟩) hS ?_
  · go_simp
  try simp only [Act.put, List.setIfInBounds_toArray, List.set_cons_zero, List.set_cons_succ]
  refine tk 47 96 (.int .u64 (nine.getD j729 0)) rfl rfl (by kernel_rfl) (by kernel_rfl) (by kernel_rfl) (fun _ _ _ h => h) (Or.inl ⟨by rfl, fun w' h' => ?_⟩) hS ?_
  · have c1 := Lr.cell h' (j := j729) (by omega)
    go_simp
  try simp only [Act.put, List.setIfInBounds_toArray, List.set_cons_zero, List.set_cons_succ]
  refine wpAnyH_ready (rs := [48]) (by kernel_rfl) (by simp) (AllReadyH.cons rfl (fun K hK => ?_) AllReadyH.nil)
  rw [if_pos (by rfl)]
  go_wp2_with fail
  refine (waits_any _ _ _ _ _ _ _ (nine_fit i).1 (nine_fit i).2 (nine_fit m).1 (nine_fit m).2 (nine_fit j1).1 (nine_fit j1).2 (nine_fit j9).1 (nine_fit j9).2 (nine_fit j81).1 (nine_fit j729).1 (nine_fit j729).2).mono ?_
  rintro e v2 ⟨rfl, hb2⟩
  have H2 := Lib.hid (H1.out.past hb2)
  clear hb2
  clear hS
  refine hK.out _ _ (H2.out.kv.lr) (fun hS => ?_)
  clear hK K
  try simp only [Act.put, List.setIfInBounds_toArray, List.set_cons_zero, List.set_cons_succ]
  refine tk 49 98 (.bool false) rfl rfl (by kernel_rfl) (by kernel_rfl) (by kernel_rfl) (fun _ _ _ h => h) (Or.inl ⟨by rfl, fun w' h' => ?_⟩) hS ?_
  · go_simp
  try simp only [Act.put, List.setIfInBounds_toArray, List.set_cons_zero, List.set_cons_succ]
  refine tk 50 99 (.bool false) rfl rfl (by kernel_rfl) (by kernel_rfl) (by kernel_rfl) (fun _ _ _ h => h) (Or.inl ⟨by rfl, fun w' h' => ?_⟩) hS ?_
  · go_simp
  refine wpAnyH_done (by kernel_rfl) ?_ _
  go_wp2_with fail
  refine Met.intro (hJ0 _ _ ?_)
  exact ⟨⟨rfl, rfl⟩, rfl, rfl, rfl, rfl, H2.out.kv⟩

theorem wf_int {k : IntKind} {x : Int} (h0 : k.min ≤ x) (h1 : x ≤ k.max) : (Lit.int k x).wf = true := by
  simp only [Lit.wf, Bool.and_eq_true, decide_eq_true_eq]
  exact ⟨h0, h1⟩
theorem wf_seven64 {x y : Int} (hx : 0 ≤ x ∧ x ≤ 18446744073709551615) (hy : 0 ≤ y ∧ y ≤ 18446744073709551615) : ∀ z ∈ [0, 1, x, 3, y, 0, 2], (Lit.int .u64 z).wf = true := by
  have hmin : IntKind.u64.min = 0 := rfl
  have hmax : IntKind.u64.max = 18446744073709551615 := rfl
  intro z hz
  simp at hz
  refine wf_int ?_ ?_ <;> omega
theorem wf_seven16 {x : Int} (hx : 0 ≤ x ∧ x ≤ 65535) : ∀ z ∈ [5, 1, x, 9, 3, 4, 1], (Lit.int .u16 z).wf = true := by
  have hmin : IntKind.u16.min = 0 := rfl
  have hmax : IntKind.u16.max = 65535 := rfl
  intro z hz
  simp at hz
  refine wf_int ?_ ?_ <;> omega

set_option maxRecDepth 100000 in
set_option maxHeartbeats 4000000 in
theorem k17 (w wr : World) (gl k i m : Nat) (hi : i < 9) (hm : m < 9) (HV : Hid (Kv w wr gl)) (a : Act) (hf : Fr 128 a) (h1 : sl a 1 = .slice (some ⟨gl, 0, none⟩) 9 9) (h2 : sl a 2 = .int .i64 (k : Int)) (h3 : sl a 3 = .int .i64 (i : Int)) (h4 : sl a 4 = .int .i64 (m : Int)) :
    Code.wp Try.prog (cAt [1,1,1,0,1,2,2,1,0,2,1,2,2,1,0,2,1,1,1] KK) (Exit.then (fun a' w' => Fr 128 a' ∧ sl a' 1 = .slice (some ⟨gl, 0, none⟩) 9 9 ∧ sl a' 2 = .int .i64 (k : Int) ∧ sl a' 3 = .int .i64 (i : Int) ∧ sl a' 4 = .int .i64 (m : Int) ∧ Kv w w' gl) Nope) a wr := by
  obtain ⟨f, ha, hs⟩ := fr128 hf
  have e1 := (hs 1).trans h1
  have e2 := (hs 2).trans h2
  have e3 := (hs 3).trans h3
  have e4 := (hs 4).trans h4
  rw [e1, e2, e3, e4] at ha
  clear hs hf e1 h1 e2 h2 e3 h3 e4 h4
  subst ha
  refine piece2 fun J0 K0 hJ0 hK0 => ?_
  conv => arg 2; whnf
  have hi2 : (i : Int) < 9 := by omega
  have hm2 : (m : Int) < 9 := by omega
  obtain ⟨u1, hu1⟩ : ∃ z, IntKind.u16.wrap (IntKind.i64.wrap ((i : Int) * (m : Int))) = z := ⟨_, rfl⟩
  obtain ⟨z0, hz0⟩ : ∃ z, IntKind.i64.wrap ((i : Int) * (m : Int)) = z := ⟨_, rfl⟩
  rw [hz0] at hu1
  have hu2 : 0 ≤ u1 ∧ u1 ≤ 65535 := by rw [← hu1, IntKind.wrap_u16]; omega
  have x5 : IntKind.i64.wrap ((m : Int) * 5) = (m : Int) * 5 := by rw [IntKind.wrap_i64]; omega
  have x6 : IntKind.u16.wrap ((m : Int) * 5) = (m : Int) * 5 := by rw [IntKind.wrap_u16]; omega
  obtain ⟨u3, hu3⟩ : ∃ z, IntKind.u16.wrap (k : Int) = z := ⟨_, rfl⟩
  have hu4 : 0 ≤ u3 ∧ u3 ≤ 65535 := by rw [← hu3, IntKind.wrap_u16]; omega
  have y1 := nine_fit i
  have y2 := nine_fit m
  have HS : Hid (Lr wr.drew gl) := HV.out.lr
  go_wp2_with fail
  refine wp_region_held_drew (S := fun w' => Lr w' gl) (by kernel_rfl) HS.out (fun hS => ?_)
  refine tk 0 100 (.int .i64 (i : Int)) rfl rfl (by kernel_rfl) (by kernel_rfl) (by kernel_rfl) (fun _ _ _ h => h) (Or.inl ⟨by rfl, fun w' h' => ?_⟩) hS ?_
  · go_simp
  try simp only [Act.put, List.setIfInBounds_toArray, List.set_cons_zero, List.set_cons_succ]
  refine tk 1 101 (.int .i64 (m : Int)) rfl rfl (by kernel_rfl) (by kernel_rfl) (by kernel_rfl) (fun _ _ _ h => h) (Or.inl ⟨by rfl, fun w' h' => ?_⟩) hS ?_
  · go_simp
  try simp only [Act.put, List.setIfInBounds_toArray, List.set_cons_zero, List.set_cons_succ]
  refine tk 2 102 (.int .i64 z0) rfl rfl (by kernel_rfl) (by kernel_rfl) (by kernel_rfl) (fun _ _ _ h => h) (Or.inl ⟨by rfl, fun w' h' => ?_⟩) hS ?_
  · go_simp
  try simp only [Act.put, List.setIfInBounds_toArray, List.set_cons_zero, List.set_cons_succ]
  refine tk 3 103 (.int .u16 u1) rfl rfl (by kernel_rfl) (by kernel_rfl) (by kernel_rfl) (fun _ _ _ h => h) (Or.inl ⟨by rfl, fun w' h' => ?_⟩) hS ?_
  · go_simp
  try simp only [Act.put, List.setIfInBounds_toArray, List.set_cons_zero, List.set_cons_succ]
  refine tk 4 104 (.int .i64 (m : Int)) rfl rfl (by kernel_rfl) (by kernel_rfl) (by kernel_rfl) (fun _ _ _ h => h) (Or.inl ⟨by rfl, fun w' h' => ?_⟩) hS ?_
  · go_simp
  try simp only [Act.put, List.setIfInBounds_toArray, List.set_cons_zero, List.set_cons_succ]
  refine tk 5 105 (.int .i64 ((m : Int) * 5)) rfl rfl (by kernel_rfl) (by kernel_rfl) (by kernel_rfl) (fun _ _ _ h => h) (Or.inl ⟨by rfl, fun w' h' => ?_⟩) hS ?_
  · go_simp
  try simp only [Act.put, List.setIfInBounds_toArray, List.set_cons_zero, List.set_cons_succ]
  refine tk 6 106 (.int .u16 ((m : Int) * 5)) rfl rfl (by kernel_rfl) (by kernel_rfl) (by kernel_rfl) (fun _ _ _ h => h) (Or.inl ⟨by rfl, fun w' h' => ?_⟩) hS ?_
  · go_simp
  try simp only [Act.put, List.setIfInBounds_toArray, List.set_cons_zero, List.set_cons_succ]
  refine tk 7 107 (.slice (some ⟨gl, 0, none⟩) 9 9) rfl rfl (by kernel_rfl) (by kernel_rfl) (by kernel_rfl) (fun _ _ _ h => h) (Or.inl ⟨by rfl, fun w' h' => ?_⟩) hS ?_
  · go_simp
  try simp only [Act.put, List.setIfInBounds_toArray, List.set_cons_zero, List.set_cons_succ]
  refine tk 8 108 (.int .i64 (i : Int)) rfl rfl (by kernel_rfl) (by kernel_rfl) (by kernel_rfl) (fun _ _ _ h => h) (Or.inl ⟨by rfl, fun w' h' => ?_⟩) hS ?_
  · go_simp
  try simp only [Act.put, List.setIfInBounds_toArray, List.set_cons_zero, List.set_cons_succ]
  refine tk 9 109 (.pointer (some ⟨gl, i, none⟩)) rfl rfl (by kernel_rfl) (by kernel_rfl) (by kernel_rfl) (fun _ _ _ h => h) (Or.inl ⟨by rfl, fun w' h' => ?_⟩) hS ?_
  · go_simp
  try simp only [Act.put, List.setIfInBounds_toArray, List.set_cons_zero, List.set_cons_succ]
  refine tk 10 110 (.int .u64 (nine.getD i 0)) rfl rfl (by kernel_rfl) (by kernel_rfl) (by kernel_rfl) (fun _ _ _ h => h) (Or.inl ⟨by rfl, fun w' h' => ?_⟩) hS ?_
  · have c1 := Lr.cell h' (j := i) (by omega)
    go_simp
  try simp only [Act.put, List.setIfInBounds_toArray, List.set_cons_zero, List.set_cons_succ]
  refine tk 11 111 (.slice (some ⟨gl, 0, none⟩) 9 9) rfl rfl (by kernel_rfl) (by kernel_rfl) (by kernel_rfl) (fun _ _ _ h => h) (Or.inl ⟨by rfl, fun w' h' => ?_⟩) hS ?_
  · go_simp
  try simp only [Act.put, List.setIfInBounds_toArray, List.set_cons_zero, List.set_cons_succ]
  refine tk 12 112 (.int .i64 (m : Int)) rfl rfl (by kernel_rfl) (by kernel_rfl) (by kernel_rfl) (fun _ _ _ h => h) (Or.inl ⟨by rfl, fun w' h' => ?_⟩) hS ?_
  · go_simp
  try simp only [Act.put, List.setIfInBounds_toArray, List.set_cons_zero, List.set_cons_succ]
  refine tk 13 113 (.pointer (some ⟨gl, m, none⟩)) rfl rfl (by kernel_rfl) (by kernel_rfl) (by kernel_rfl) (fun _ _ _ h => h) (Or.inl ⟨by rfl, fun w' h' => ?_⟩) hS ?_
  · go_simp
  try simp only [Act.put, List.setIfInBounds_toArray, List.set_cons_zero, List.set_cons_succ]
  refine tk 14 114 (.int .u64 (nine.getD m 0)) rfl rfl (by kernel_rfl) (by kernel_rfl) (by kernel_rfl) (fun _ _ _ h => h) (Or.inl ⟨by rfl, fun w' h' => ?_⟩) hS ?_
  · have c1 := Lr.cell h' (j := m) (by omega)
    go_simp
  try simp only [Act.put, List.setIfInBounds_toArray, List.set_cons_zero, List.set_cons_succ]
  refine tk 16 116 (.int .i64 (k : Int)) rfl rfl (by kernel_rfl) (by kernel_rfl) (by kernel_rfl) (fun _ _ _ h => h) (Or.inl ⟨by rfl, fun w' h' => ?_⟩) hS ?_
  · go_simp
  try simp only [Act.put, List.setIfInBounds_toArray, List.set_cons_zero, List.set_cons_succ]
  refine tk 17 117 (.int .u16 u3) rfl rfl (by kernel_rfl) (by kernel_rfl) (by kernel_rfl) (fun _ _ _ h => h) (Or.inl ⟨by rfl, fun w' h' => ?_⟩) hS ?_
  · go_simp
  try simp only [Act.put, List.setIfInBounds_toArray, List.set_cons_zero, List.set_cons_succ]
  refine wpAnyH_ready (rs := [15, 18]) (by kernel_rfl) (by simp) (AllReadyH.cons rfl (fun K hK => ?_) (AllReadyH.cons rfl (fun K hK => ?_) AllReadyH.nil))
  · rw [if_pos (by rfl)]
    have hq : Below wr.heap.size wr (wr.drew.alloc (.cells #[.int .u64 0, .int .u64 1, .int .u64 (nine.getD i 0), .int .u64 3, .int .u64 (nine.getD m 0), .int .u64 0, .int .u64 2] 22)) := (Below.refl _ _).drew.alloc (Nat.le_refl _) _
    have hp : RdK .u64 (wr.drew.alloc (.cells #[.int .u64 0, .int .u64 1, .int .u64 (nine.getD i 0), .int .u64 3, .int .u64 (nine.getD m 0), .int .u64 0, .int .u64 2] 22)) (some ⟨wr.heap.size, 0, none⟩) [0, 1, nine.getD i 0, 3, nine.getD m 0, 0, 2] := RdK.lit .u64 wr.drew _ [0, 1, nine.getD i 0, 3, nine.getD m 0, 0, 2]
    go_wp2_with fail
    obtain ⟨v1, hv1⟩ : ∃ z, wr.drew.alloc (.cells #[.int .u64 0, .int .u64 1, .int .u64 (nine.getD i 0), .int .u64 3, .int .u64 (nine.getD m 0), .int .u64 0, .int .u64 2] 22) = z := ⟨_, rfl⟩
    first | rw [hv1] | (change K _ (wr.drew.alloc (.cells #[.int .u64 0, .int .u64 1, .int .u64 (nine.getD i 0), .int .u64 3, .int .u64 (nine.getD m 0), .int .u64 0, .int .u64 2] 22)); rw [hv1])
    rw [hv1] at hq hp
    obtain ⟨b1, hb1⟩ : ∃ z, wr.heap.size = z := ⟨_, rfl⟩
    have H1 : Hid (Kv w v1 gl ∧ RdK .u64 v1 (some ⟨b1, 0, none⟩) [0, 1, nine.getD i 0, 3, nine.getD m 0, 0, 2]) := ⟨HV.out.past hq, hb1 ▸ hp⟩
    rw [hb1]
    clear hv1 hb1 hq hp
    clear hS
    refine hK.out _ _ (H1.out.1.lr) (fun hS => ?_)
    clear hK K
    try simp only [Act.put, List.setIfInBounds_toArray, List.set_cons_zero, List.set_cons_succ]
    refine wpAnyH_ready (rs := [18]) (by kernel_rfl) (by simp) (AllReadyH.cons rfl (fun K hK => ?_) AllReadyH.nil)
    rw [if_pos (by rfl)]
    have hq : Below v1.heap.size v1 (v1.alloc (.cells #[.int .u16 5, .int .u16 1, .int .u16 u3, .int .u16 9, .int .u16 3, .int .u16 4, .int .u16 1] 39)) := (Below.refl _ _).alloc (Nat.le_refl _) _
    have hp : RdK .u16 (v1.alloc (.cells #[.int .u16 5, .int .u16 1, .int .u16 u3, .int .u16 9, .int .u16 3, .int .u16 4, .int .u16 1] 39)) (some ⟨v1.heap.size, 0, none⟩) [5, 1, u3, 9, 3, 4, 1] := RdK.lit .u16 v1 _ [5, 1, u3, 9, 3, 4, 1]
    go_wp2_with fail
    obtain ⟨v2, hv2⟩ : ∃ z, v1.alloc (.cells #[.int .u16 5, .int .u16 1, .int .u16 u3, .int .u16 9, .int .u16 3, .int .u16 4, .int .u16 1] 39) = z := ⟨_, rfl⟩
    first | rw [hv2] | (change K _ (v1.alloc (.cells #[.int .u16 5, .int .u16 1, .int .u16 u3, .int .u16 9, .int .u16 3, .int .u16 4, .int .u16 1] 39)); rw [hv2])
    rw [hv2] at hq hp
    obtain ⟨b2, hb2⟩ : ∃ z, v1.heap.size = z := ⟨_, rfl⟩
    have H2 : Hid (Kv w v2 gl ∧ RdK .u64 v2 (some ⟨b1, 0, none⟩) [0, 1, nine.getD i 0, 3, nine.getD m 0, 0, 2] ∧ RdK .u16 v2 (some ⟨b2, 0, none⟩) [5, 1, u3, 9, 3, 4, 1]) := ⟨H1.out.1.past hq, H1.out.2.below hq, hb2 ▸ hp⟩
    rw [hb2]
    clear hv2 hb2 hq hp
    clear hS
    refine hK.out _ _ (H2.out.1.lr) (fun hS => ?_)
    clear hK K
    try simp only [Act.put, List.setIfInBounds_toArray, List.set_cons_zero, List.set_cons_succ]
    refine wpAnyH_ready (rs := [19]) (by kernel_rfl) (by simp) (AllReadyH.cons rfl (fun K hK => ?_) AllReadyH.nil)
    rw [if_pos (by rfl)]
    go_wp2_with fail
    refine (bounds_any u1 ((m : Int) * 5) (some ⟨b1, 0, none⟩) 7 7 [0, 1, nine.getD i 0, 3, nine.getD m 0, 0, 2] (some ⟨b2, 0, none⟩) 7 7 [5, 1, u3, 9, 3, 4, 1] _ hu2.1 hu2.2 (by omega) (by omega) rfl rfl (by decide) (by decide) H2.out.2.1 (wf_seven64 y1 y2) H2.out.2.2 (wf_seven16 hu4)).mono ?_
    rintro e v3 ⟨rfl, hb3⟩
    have H3 := Lib.hid (H2.out.1.past hb3)
    clear hb3
    clear hS
    refine hK.out _ _ (H3.out.lr) (fun hS => ?_)
    clear hK K
    try simp only [Act.put, List.setIfInBounds_toArray, List.set_cons_zero, List.set_cons_succ]
    refine tk 20 120 (.bool false) rfl rfl (by kernel_rfl) (by kernel_rfl) (by kernel_rfl) (fun _ _ _ h => h) (Or.inl ⟨by rfl, fun w' h' => ?_⟩) hS ?_
    · go_simp
    refine wpAnyH_done (by kernel_rfl) ?_ _
    go_wp2_with fail
    refine Met.intro (hJ0 _ _ ?_)
    exact ⟨⟨rfl, rfl⟩, rfl, rfl, rfl, rfl, H3.out⟩
  · rw [if_pos (by rfl)]
    have hq : Below wr.heap.size wr (wr.drew.alloc (.cells #[.int .u16 5, .int .u16 1, .int .u16 u3, .int .u16 9, .int .u16 3, .int .u16 4, .int .u16 1] 39)) := (Below.refl _ _).drew.alloc (Nat.le_refl _) _
    have hp : RdK .u16 (wr.drew.alloc (.cells #[.int .u16 5, .int .u16 1, .int .u16 u3, .int .u16 9, .int .u16 3, .int .u16 4, .int .u16 1] 39)) (some ⟨wr.heap.size, 0, none⟩) [5, 1, u3, 9, 3, 4, 1] := RdK.lit .u16 wr.drew _ [5, 1, u3, 9, 3, 4, 1]
    go_wp2_with fail
    obtain ⟨v1, hv1⟩ : ∃ z, wr.drew.alloc (.cells #[.int .u16 5, .int .u16 1, .int .u16 u3, .int .u16 9, .int .u16 3, .int .u16 4, .int .u16 1] 39) = z := ⟨_, rfl⟩
    first | rw [hv1] | (change K _ (wr.drew.alloc (.cells #[.int .u16 5, .int .u16 1, .int .u16 u3, .int .u16 9, .int .u16 3, .int .u16 4, .int .u16 1] 39)); rw [hv1])
    rw [hv1] at hq hp
    obtain ⟨b2, hb2⟩ : ∃ z, wr.heap.size = z := ⟨_, rfl⟩
    have H1 : Hid (Kv w v1 gl ∧ RdK .u16 v1 (some ⟨b2, 0, none⟩) [5, 1, u3, 9, 3, 4, 1]) := ⟨HV.out.past hq, hb2 ▸ hp⟩
    rw [hb2]
    clear hv1 hb2 hq hp
    clear hS
    refine hK.out _ _ (H1.out.1.lr) (fun hS => ?_)
    clear hK K
    try simp only [Act.put, List.setIfInBounds_toArray, List.set_cons_zero, List.set_cons_succ]
    refine wpAnyH_ready (rs := [15]) (by kernel_rfl) (by simp) (AllReadyH.cons rfl (fun K hK => ?_) AllReadyH.nil)
    rw [if_pos (by rfl)]
    have hq : Below v1.heap.size v1 (v1.alloc (.cells #[.int .u64 0, .int .u64 1, .int .u64 (nine.getD i 0), .int .u64 3, .int .u64 (nine.getD m 0), .int .u64 0, .int .u64 2] 22)) := (Below.refl _ _).alloc (Nat.le_refl _) _
    have hp : RdK .u64 (v1.alloc (.cells #[.int .u64 0, .int .u64 1, .int .u64 (nine.getD i 0), .int .u64 3, .int .u64 (nine.getD m 0), .int .u64 0, .int .u64 2] 22)) (some ⟨v1.heap.size, 0, none⟩) [0, 1, nine.getD i 0, 3, nine.getD m 0, 0, 2] := RdK.lit .u64 v1 _ [0, 1, nine.getD i 0, 3, nine.getD m 0, 0, 2]
    go_wp2_with fail
    obtain ⟨v2, hv2⟩ : ∃ z, v1.alloc (.cells #[.int .u64 0, .int .u64 1, .int .u64 (nine.getD i 0), .int .u64 3, .int .u64 (nine.getD m 0), .int .u64 0, .int .u64 2] 22) = z := ⟨_, rfl⟩
    first | rw [hv2] | (change K _ (v1.alloc (.cells #[.int .u64 0, .int .u64 1, .int .u64 (nine.getD i 0), .int .u64 3, .int .u64 (nine.getD m 0), .int .u64 0, .int .u64 2] 22)); rw [hv2])
    rw [hv2] at hq hp
    obtain ⟨b1, hb1⟩ : ∃ z, v1.heap.size = z := ⟨_, rfl⟩
    have H2 : Hid (Kv w v2 gl ∧ RdK .u64 v2 (some ⟨b1, 0, none⟩) [0, 1, nine.getD i 0, 3, nine.getD m 0, 0, 2] ∧ RdK .u16 v2 (some ⟨b2, 0, none⟩) [5, 1, u3, 9, 3, 4, 1]) := ⟨H1.out.1.past hq, hb1 ▸ hp, H1.out.2.below hq⟩
    rw [hb1]
    clear hv2 hb1 hq hp
    clear hS
    refine hK.out _ _ (H2.out.1.lr) (fun hS => ?_)
    clear hK K
    try simp only [Act.put, List.setIfInBounds_toArray, List.set_cons_zero, List.set_cons_succ]
    refine wpAnyH_ready (rs := [19]) (by kernel_rfl) (by simp) (AllReadyH.cons rfl (fun K hK => ?_) AllReadyH.nil)
    rw [if_pos (by rfl)]
    go_wp2_with fail
    refine (bounds_any u1 ((m : Int) * 5) (some ⟨b1, 0, none⟩) 7 7 [0, 1, nine.getD i 0, 3, nine.getD m 0, 0, 2] (some ⟨b2, 0, none⟩) 7 7 [5, 1, u3, 9, 3, 4, 1] _ hu2.1 hu2.2 (by omega) (by omega) rfl rfl (by decide) (by decide) H2.out.2.1 (wf_seven64 y1 y2) H2.out.2.2 (wf_seven16 hu4)).mono ?_
    rintro e v3 ⟨rfl, hb3⟩
    have H3 := Lib.hid (H2.out.1.past hb3)
    clear hb3
    clear hS
    refine hK.out _ _ (H3.out.lr) (fun hS => ?_)
    clear hK K
    try simp only [Act.put, List.setIfInBounds_toArray, List.set_cons_zero, List.set_cons_succ]
    refine tk 20 120 (.bool false) rfl rfl (by kernel_rfl) (by kernel_rfl) (by kernel_rfl) (fun _ _ _ h => h) (Or.inl ⟨by rfl, fun w' h' => ?_⟩) hS ?_
    · go_simp
    refine wpAnyH_done (by kernel_rfl) ?_ _
    go_wp2_with fail
    refine Met.intro (hJ0 _ _ ?_)
    exact ⟨⟨rfl, rfl⟩, rfl, rfl, rfl, rfl, H3.out⟩

set_option maxRecDepth 100000 in
set_option maxHeartbeats 4000000 in
theorem k8 (wr : World) (gl k i m : Nat) (hm : m < 9) (a : Act) (hf : Fr 128 a) (h1 : sl a 1 = .slice (some ⟨gl, 0, none⟩) 9 9) (h2 : sl a 2 = .int .i64 (k : Int)) (h3 : sl a 3 = .int .i64 (i : Int)) (h4 : sl a 4 = .int .i64 (m : Int)) :
    Code.wp Try.prog (cAt [1,1,1,0,1,2,2,1,0,2,1,2,2,1,1] KK) (Exit.then (fun a' w' => Fr 128 a' ∧ sl a' 1 = .slice (some ⟨gl, 0, none⟩) 9 9 ∧ sl a' 2 = .int .i64 (k : Int) ∧ sl a' 3 = .int .i64 (i : Int) ∧ sl a' 4 = .int .i64 ((m : Int) + 1) ∧ wr = w') Nope) a wr := by
  obtain ⟨f, ha, hs⟩ := fr128 hf
  have e1 := (hs 1).trans h1
  have e2 := (hs 2).trans h2
  have e3 := (hs 3).trans h3
  have e4 := (hs 4).trans h4
  rw [e1, e2, e3, e4] at ha
  clear hs hf e1 h1 e2 h2 e3 h3 e4 h4
  subst ha
  refine piece2 fun J0 K0 hJ0 hK0 => ?_
  conv => arg 2; whnf
  go_wp2_with fail
  refine Met.intro (hJ0 _ _ ?_)
  exact ⟨⟨rfl, rfl⟩, rfl, rfl, rfl, rfl, rfl⟩

set_option maxRecDepth 100000 in
set_option maxHeartbeats 4000000 in
theorem k5 (wr : World) (gl k i : Nat) (hi : i < 9) (a : Act) (hf : Fr 128 a) (h1 : sl a 1 = .slice (some ⟨gl, 0, none⟩) 9 9) (h2 : sl a 2 = .int .i64 (k : Int)) (h3 : sl a 3 = .int .i64 (i : Int)) :
    Code.wp Try.prog (cAt [1,1,1,0,1,2,2,1,1] KK) (Exit.then (fun a' w' => Fr 128 a' ∧ sl a' 1 = .slice (some ⟨gl, 0, none⟩) 9 9 ∧ sl a' 2 = .int .i64 (k : Int) ∧ sl a' 3 = .int .i64 ((i : Int) + 1) ∧ wr = w') Nope) a wr := by
  obtain ⟨f, ha, hs⟩ := fr128 hf
  have e1 := (hs 1).trans h1
  have e2 := (hs 2).trans h2
  have e3 := (hs 3).trans h3
  rw [e1, e2, e3] at ha
  clear hs hf e1 h1 e2 h2 e3 h3
  subst ha
  refine piece2 fun J0 K0 hJ0 hK0 => ?_
  conv => arg 2; whnf
  go_wp2_with fail
  refine Met.intro (hJ0 _ _ ?_)
  exact ⟨⟨rfl, rfl⟩, rfl, rfl, rfl, rfl⟩

set_option maxRecDepth 100000 in
set_option maxHeartbeats 4000000 in
theorem k19 (w wr : World) (HB : Hid (Below w.heap.size w wr)) (a : Act) (hf : Fr 128 a) :
    Code.wp Try.prog (cAt [1,1,1,1] KK) (bodyPost Try.prog Try.f7 (Yes w)) a wr := by
  obtain ⟨f, ha, hs⟩ := fr128 hf
  clear hs hf
  subst ha
  conv => arg 2; whnf
  go_wp2_with fail
  refine (none10_any 3 0 _).mono ?_
  rintro e w1 ⟨rfl, hb⟩
  have HB1 := Lib.hid (HB.out.trans (hb.mono HB.out.size))
  clear hb
  go_wp2_with fail
  refine (plays_any 1 1 1 none 0 0 [] _ (by decide) (by decide) (by decide) (by decide) (by decide) (by decide) ⟨rfl, (fun _ h => by cases h), fun h => absurd rfl h⟩ (by decide)).mono ?_
  rintro e w2 ⟨rfl, hb⟩
  have HB2 := Lib.hid (HB1.out.trans (hb.mono HB1.out.size))
  clear hb
  go_wp2_with fail
  refine (works10_any _).mono ?_
  rintro e w3 ⟨rfl, hb⟩
  have HB3 := Lib.hid (HB2.out.trans (hb.mono HB2.out.size))
  clear hb
  go_wp2_with fail
  go_ret
  exact ⟨rfl, HB3.out⟩
end Go.Proofs.Ytngjlippfifkiaa

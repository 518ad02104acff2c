/-
  bounded of layer 12. Conditions: numbers below the law's bounds; what went out is within each class's burst and rate. (Made by gen_spbd.py.)
-/
import Derived.Test.YticjfhmkpciihaaSpBdM
import Derived.Deep.RegionWith
namespace Go.Proofs.Yticjfhmkpciihaa
open Go.RowKit Bkt

noncomputable def KBd : Code := Try.f21.body.getD .skip
set_option maxRecDepth 100000 in
theorem frKBd {a : Act} (h : Fr 89 a) : ∃ f : Nat → Value, a = ⟨#[f 0, f 1, f 2, f 3, f 4, f 5, f 6, f 7, f 8, f 9, f 10, f 11, f 12, f 13, f 14, f 15, f 16, f 17, f 18, f 19, f 20, f 21, f 22, f 23, f 24, f 25, f 26, f 27, f 28, f 29, f 30, f 31, f 32, f 33, f 34, f 35, f 36, f 37, f 38, f 39, f 40, f 41, f 42, f 43, f 44, f 45, f 46, f 47, f 48, f 49, f 50, f 51, f 52, f 53, f 54, f 55, f 56, f 57, f 58, f 59, f 60, f 61, f 62, f 63, f 64, f 65, f 66, f 67, f 68, f 69, f 70, f 71, f 72, f 73, f 74, f 75, f 76, f 77, f 78, f 79, f 80, f 81, f 82, f 83, f 84, f 85, f 86, f 87, f 88], []⟩ ∧ ∀ i, f i = sl a i := fr_any h

set_option maxRecDepth 100000 in
set_option maxHeartbeats 4000000 in
theorem q0 (wr : World) (xb xo n c0 : Nat) (vo : Option Addr) (no co : Nat) (a : Act) (hf : Fr 89 a) (h0 : sl a 0 = .slice (some ⟨xb, xo, none⟩) n c0) (h1 : sl a 1 = .slice vo no co) :
    Code.wp Try.prog (cAt [0] KBd) (Exit.then (fun a' w' => Fr 89 a' ∧ sl a' 0 = .slice (some ⟨xb, xo, none⟩) n c0 ∧ sl a' 1 = .slice vo no co ∧ wr = w') Nope) a wr := by
  obtain ⟨f, ha, hs⟩ := frKBd hf
  have e0 := (hs 0).trans h0
  have e1 := (hs 1).trans h1
  rw [e0, e1] at ha
  clear hs hf e0 h0 e1 h1
  subst ha
  refine piece2 fun J0 K0 hJ0 hK0 => ?_
  conv => arg 2; whnf
  go_wp2_with fail
  refine Met.intro (hJ0 _ _ ?_)
  exact ⟨⟨rfl, rfl⟩, rfl, rfl, rfl⟩

set_option maxRecDepth 100000 in
set_option maxHeartbeats 4000000 in
theorem q1 (wr : World) (xb xo n c0 : Nat) (vo : Option Addr) (no co : Nat) (a : Act) (hf : Fr 89 a) (h0 : sl a 0 = .slice (some ⟨xb, xo, none⟩) n c0) (h1 : sl a 1 = .slice vo no co) :
    Code.wp Try.prog (cAt [1,0,0] KBd) (Exit.then (fun a' w' => Fr 89 a' ∧ sl a' 0 = .slice (some ⟨xb, xo, none⟩) n c0 ∧ sl a' 1 = .slice vo no co ∧ sl a' 5 = .int .i64 0 ∧ wr = w') Nope) a wr := by
  obtain ⟨f, ha, hs⟩ := frKBd hf
  have e0 := (hs 0).trans h0
  have e1 := (hs 1).trans h1
  rw [e0, e1] at ha
  clear hs hf e0 h0 e1 h1
  subst ha
  refine piece2 fun J0 K0 hJ0 hK0 => ?_
  conv => arg 2; whnf
  go_wp2_with fail
  refine Met.intro (hJ0 _ _ ?_)
  exact ⟨⟨rfl, rfl⟩, rfl, rfl, rfl, rfl⟩

set_option maxRecDepth 100000 in
set_option maxHeartbeats 4000000 in
theorem q2 (wr : World) (xb xo n c0 : Nat) (vo : Option Addr) (no co : Nat) (i : Nat) (hi : i < no) (a : Act) (hf : Fr 89 a) (h0 : sl a 0 = .slice (some ⟨xb, xo, none⟩) n c0) (h1 : sl a 1 = .slice vo no co) (h5 : sl a 5 = .int .i64 (i : Int)) :
    Code.wp Try.prog (cAt [1,0,1,2,2,0] KBd) (Exit.then (fun a' w' => Fr 89 a' ∧ sl a' 0 = .slice (some ⟨xb, xo, none⟩) n c0 ∧ sl a' 1 = .slice vo no co ∧ sl a' 5 = .int .i64 (i : Int) ∧ wr = w') Nope) a wr := by
  obtain ⟨f, ha, hs⟩ := frKBd hf
  have e0 := (hs 0).trans h0
  have e1 := (hs 1).trans h1
  have e5 := (hs 5).trans h5
  rw [e0, e1, e5] at ha
  clear hs hf e0 h0 e1 h1 e5 h5
  subst ha
  refine piece2 fun J0 K0 hJ0 hK0 => ?_
  conv => arg 2; whnf
  have hi2 : (i : Int) < (no : Int) := by omega
  go_wp2_with fail
  refine Met.intro (hJ0 _ _ ?_)
  exact ⟨⟨rfl, rfl⟩, rfl, rfl, rfl, rfl⟩

set_option maxRecDepth 100000 in
set_option maxHeartbeats 4000000 in
theorem q2x (wr : World) (xb xo n c0 : Nat) (vo : Option Addr) (no co : Nat) (i : Nat) (hi : ¬ i < no) (a : Act) (hf : Fr 89 a) (h0 : sl a 0 = .slice (some ⟨xb, xo, none⟩) n c0) (h1 : sl a 1 = .slice vo no co) (h5 : sl a 5 = .int .i64 (i : Int)) :
    Code.wp Try.prog (cAt [1,0,1,2,2] KBd) (Outs 0 (fun a' w' => Fr 89 a' ∧ wr = w')) a wr := by
  obtain ⟨f, ha, hs⟩ := frKBd hf
  have e0 := (hs 0).trans h0
  have e1 := (hs 1).trans h1
  have e5 := (hs 5).trans h5
  rw [e0, e1, e5] at ha
  clear hs hf e0 h0 e1 h1 e5 h5
  subst ha
  conv => arg 2; whnf
  go_wp2_with fail
  exact ⟨rfl, ⟨rfl, rfl⟩, rfl⟩

set_option maxRecDepth 100000 in
set_option maxHeartbeats 4000000 in
theorem q3 (wr : World) (xb xo n c0 : Nat) (vo : Option Addr) (no co : Nat) (i : Nat) (hi : i < 1000000) (a : Act) (hf : Fr 89 a) (h0 : sl a 0 = .slice (some ⟨xb, xo, none⟩) n c0) (h1 : sl a 1 = .slice vo no co) (h5 : sl a 5 = .int .i64 (i : Int)) :
    Code.wp Try.prog (cAt [1,0,1,2,2,1,1] KBd) (Exit.then (fun a' w' => Fr 89 a' ∧ sl a' 0 = .slice (some ⟨xb, xo, none⟩) n c0 ∧ sl a' 1 = .slice vo no co ∧ sl a' 5 = .int .i64 ((i : Int) + 1) ∧ wr = w') Nope) a wr := by
  obtain ⟨f, ha, hs⟩ := frKBd hf
  have e0 := (hs 0).trans h0
  have e1 := (hs 1).trans h1
  have e5 := (hs 5).trans h5
  rw [e0, e1, e5] at ha
  clear hs hf e0 h0 e1 h1 e5 h5
  subst ha
  refine piece2 fun J0 K0 hJ0 hK0 => ?_
  conv => arg 2; whnf
  have hw : IntKind.i64.wrap ((i : Int) + 1) = (i : Int) + 1 := by rw [IntKind.wrap_i64]; omega
  go_wp2_with fail
  refine Met.intro (hJ0 _ _ ?_)
  exact ⟨⟨rfl, rfl⟩, rfl, rfl, rfl, rfl⟩

set_option maxRecDepth 100000 in
set_option maxHeartbeats 4000000 in
theorem q4 (wr : World) (xb xo n c0 : Nat) (vo : Option Addr) (no co : Nat) (i : Nat) (a : Act) (hf : Fr 89 a) (h0 : sl a 0 = .slice (some ⟨xb, xo, none⟩) n c0) (h1 : sl a 1 = .slice vo no co) (h5 : sl a 5 = .int .i64 (i : Int)) :
    Code.wp Try.prog (cAt [1,0,1,2,2,1,0,2,0] KBd) (Exit.then (fun a' w' => Fr 89 a' ∧ sl a' 0 = .slice (some ⟨xb, xo, none⟩) n c0 ∧ sl a' 1 = .slice vo no co ∧ sl a' 5 = .int .i64 (i : Int) ∧ sl a' 6 = .int .u64 0 ∧ wr = w') Nope) a wr := by
  obtain ⟨f, ha, hs⟩ := frKBd hf
  have e0 := (hs 0).trans h0
  have e1 := (hs 1).trans h1
  have e5 := (hs 5).trans h5
  rw [e0, e1, e5] at ha
  clear hs hf e0 h0 e1 h1 e5 h5
  subst ha
  refine piece2 fun J0 K0 hJ0 hK0 => ?_
  conv => arg 2; whnf
  go_wp2_with fail
  refine Met.intro (hJ0 _ _ ?_)
  exact ⟨⟨rfl, rfl⟩, rfl, rfl, rfl, rfl, rfl⟩

set_option maxRecDepth 100000 in
set_option maxHeartbeats 4000000 in
theorem q5 (wr : World) (xb xo n c0 ro no co i cc : Nat) (HC : Hid (wr.cell? ⟨ro, i * 5 + 1, none⟩ = some (.int .i64 (cc : Int)))) (hi : i < no) (a : Act) (hf : Fr 89 a) (h0 : sl a 0 = .slice (some ⟨xb, xo, none⟩) n c0) (h1 : sl a 1 = .slice (some ⟨ro, 0, none⟩) no co) (h5 : sl a 5 = .int .i64 (i : Int)) (h6 : sl a 6 = .int .u64 0) :
    Code.wp Try.prog (cAt [1,0,1,2,2,1,0,2,1,0] KBd) (Exit.then (fun a' w' => Fr 89 a' ∧ sl a' 0 = .slice (some ⟨xb, xo, none⟩) n c0 ∧ sl a' 1 = .slice (some ⟨ro, 0, none⟩) no co ∧ sl a' 5 = .int .i64 (i : Int) ∧ sl a' 6 = .int .u64 0 ∧ sl a' 7 = .int .i64 (cc : Int) ∧ wr = w') Nope) a wr := by
  obtain ⟨f, ha, hs⟩ := frKBd hf
  have e0 := (hs 0).trans h0
  have e1 := (hs 1).trans h1
  have e5 := (hs 5).trans h5
  have e6 := (hs 6).trans h6
  rw [e0, e1, e5, e6] at ha
  clear hs hf e0 h0 e1 h1 e5 h5 e6 h6
  subst ha
  refine piece2 fun J0 K0 hJ0 hK0 => ?_
  conv => arg 2; whnf
  have c1 := HC.out
  have hi2 : (i : Int) < (no : Int) := by omega
  have hi0 : (0 : Int) ≤ (i : Int) := by omega
  go_wp2_with fail
  refine Met.intro (hJ0 _ _ ?_)
  exact ⟨⟨rfl, rfl⟩, rfl, rfl, rfl, rfl, rfl, rfl⟩

set_option maxRecDepth 100000 in
set_option maxHeartbeats 4000000 in
theorem q6 (wr : World) (xb xo n c0 ro no co i cc : Nat) (hc : cc < n) (a : Act) (hf : Fr 89 a) (h0 : sl a 0 = .slice (some ⟨xb, xo, none⟩) n c0) (h1 : sl a 1 = .slice (some ⟨ro, 0, none⟩) no co) (h5 : sl a 5 = .int .i64 (i : Int)) (h6 : sl a 6 = .int .u64 0) (h7 : sl a 7 = .int .i64 (cc : Int)) :
    Code.wp Try.prog (cAt [1,0,1,2,2,1,0,2,1,1,0,0] KBd) (Exit.then (fun a' w' => Fr 89 a' ∧ sl a' 0 = .slice (some ⟨xb, xo, none⟩) n c0 ∧ sl a' 1 = .slice (some ⟨ro, 0, none⟩) no co ∧ sl a' 5 = .int .i64 (i : Int) ∧ sl a' 6 = .int .u64 0 ∧ sl a' 7 = .int .i64 (cc : Int) ∧ sl a' 27 = .bool false ∧ wr = w') Nope) a wr := by
  obtain ⟨f, ha, hs⟩ := frKBd hf
  have e0 := (hs 0).trans h0
  have e1 := (hs 1).trans h1
  have e5 := (hs 5).trans h5
  have e6 := (hs 6).trans h6
  have e7 := (hs 7).trans h7
  rw [e0, e1, e5, e6, e7] at ha
  clear hs hf e0 h0 e1 h1 e5 h5 e6 h6 e7 h7
  subst ha
  refine piece2 fun J0 K0 hJ0 hK0 => ?_
  conv => arg 2; whnf
  have hc2 : ¬ (n : Int) ≤ (cc : Int) := by omega
  have hc3 : ¬ (cc : Int) < 0 := by omega
  go_wp2_with fail
  refine Met.intro (hJ0 _ _ ?_)
  exact ⟨⟨rfl, rfl⟩, rfl, rfl, rfl, rfl, rfl, rfl, rfl⟩

set_option maxRecDepth 100000 in
set_option maxHeartbeats 4000000 in
theorem q8 (wr : World) (xb xo n c0 ro no co i cc : Nat) (a : Act) (hf : Fr 89 a) (h0 : sl a 0 = .slice (some ⟨xb, xo, none⟩) n c0) (h1 : sl a 1 = .slice (some ⟨ro, 0, none⟩) no co) (h5 : sl a 5 = .int .i64 (i : Int)) (h6 : sl a 6 = .int .u64 0) (h7 : sl a 7 = .int .i64 (cc : Int)) :
    Code.wp Try.prog (cAt [1,0,1,2,2,1,0,2,1,1,1,0] KBd) (Exit.then (fun a' w' => Fr 89 a' ∧ sl a' 0 = .slice (some ⟨xb, xo, none⟩) n c0 ∧ sl a' 1 = .slice (some ⟨ro, 0, none⟩) no co ∧ sl a' 5 = .int .i64 (i : Int) ∧ sl a' 6 = .int .u64 0 ∧ sl a' 7 = .int .i64 (cc : Int) ∧ sl a' 8 = .int .i64 (i : Int) ∧ wr = w') Nope) a wr := by
  obtain ⟨f, ha, hs⟩ := frKBd hf
  have e0 := (hs 0).trans h0
  have e1 := (hs 1).trans h1
  have e5 := (hs 5).trans h5
  have e6 := (hs 6).trans h6
  have e7 := (hs 7).trans h7
  rw [e0, e1, e5, e6, e7] at ha
  clear hs hf e0 h0 e1 h1 e5 h5 e6 h6 e7 h7
  subst ha
  refine piece2 fun J0 K0 hJ0 hK0 => ?_
  conv => arg 2; whnf
  go_wp2_with fail
  refine Met.intro (hJ0 _ _ ?_)
  exact ⟨⟨rfl, rfl⟩, rfl, rfl, rfl, rfl, rfl, rfl, rfl⟩

set_option maxRecDepth 100000 in
set_option maxHeartbeats 4000000 in
theorem q9 (wr : World) (xb xo n c0 ro no co i cc k : Nat) (sm : Int) (hk : k < no) (a : Act) (hf : Fr 89 a) (h0 : sl a 0 = .slice (some ⟨xb, xo, none⟩) n c0) (h1 : sl a 1 = .slice (some ⟨ro, 0, none⟩) no co) (h5 : sl a 5 = .int .i64 (i : Int)) (h6 : sl a 6 = .int .u64 sm) (h7 : sl a 7 = .int .i64 (cc : Int)) (h8 : sl a 8 = .int .i64 (k : Int)) :
    Code.wp Try.prog (cAt [1,0,1,2,2,1,0,2,1,1,1,1,2,2,0] KBd) (Exit.then (fun a' w' => Fr 89 a' ∧ sl a' 0 = .slice (some ⟨xb, xo, none⟩) n c0 ∧ sl a' 1 = .slice (some ⟨ro, 0, none⟩) no co ∧ sl a' 5 = .int .i64 (i : Int) ∧ sl a' 6 = .int .u64 sm ∧ sl a' 7 = .int .i64 (cc : Int) ∧ sl a' 8 = .int .i64 (k : Int) ∧ wr = w') Nope) a wr := by
  obtain ⟨f, ha, hs⟩ := frKBd hf
  have e0 := (hs 0).trans h0
  have e1 := (hs 1).trans h1
  have e5 := (hs 5).trans h5
  have e6 := (hs 6).trans h6
  have e7 := (hs 7).trans h7
  have e8 := (hs 8).trans h8
  rw [e0, e1, e5, e6, e7, e8] at ha
  clear hs hf e0 h0 e1 h1 e5 h5 e6 h6 e7 h7 e8 h8
  subst ha
  refine piece2 fun J0 K0 hJ0 hK0 => ?_
  conv => arg 2; whnf
  have hk2 : (k : Int) < (no : Int) := by omega
  go_wp2_with fail
  refine Met.intro (hJ0 _ _ ?_)
  exact ⟨⟨rfl, rfl⟩, rfl, rfl, rfl, rfl, rfl, rfl, rfl⟩

set_option maxRecDepth 100000 in
set_option maxHeartbeats 4000000 in
theorem q9x (wr : World) (xb xo n c0 ro no co i cc k : Nat) (sm : Int) (hk : ¬ k < no) (a : Act) (hf : Fr 89 a) (h0 : sl a 0 = .slice (some ⟨xb, xo, none⟩) n c0) (h1 : sl a 1 = .slice (some ⟨ro, 0, none⟩) no co) (h5 : sl a 5 = .int .i64 (i : Int)) (h6 : sl a 6 = .int .u64 sm) (h7 : sl a 7 = .int .i64 (cc : Int)) (h8 : sl a 8 = .int .i64 (k : Int)) :
    Code.wp Try.prog (cAt [1,0,1,2,2,1,0,2,1,1,1,1,2,2] KBd) (Outs 2 (fun a' w' => Fr 89 a' ∧ sl a' 0 = .slice (some ⟨xb, xo, none⟩) n c0 ∧ sl a' 1 = .slice (some ⟨ro, 0, none⟩) no co ∧ sl a' 5 = .int .i64 (i : Int) ∧ wr = w')) a wr := by
  obtain ⟨f, ha, hs⟩ := frKBd hf
  have e0 := (hs 0).trans h0
  have e1 := (hs 1).trans h1
  have e5 := (hs 5).trans h5
  have e6 := (hs 6).trans h6
  have e7 := (hs 7).trans h7
  have e8 := (hs 8).trans h8
  rw [e0, e1, e5, e6, e7, e8] at ha
  clear hs hf e0 h0 e1 h1 e5 h5 e6 h6 e7 h7 e8 h8
  subst ha
  conv => arg 2; whnf
  go_wp2_with fail
  exact ⟨rfl, ⟨rfl, rfl⟩, rfl, rfl, rfl, rfl⟩

set_option maxRecDepth 100000 in
set_option maxHeartbeats 4000000 in
theorem q10 (wr : World) (xb xo n c0 ro no co i cc k : Nat) (sm : Int) (hk : k < 1000000) (a : Act) (hf : Fr 89 a) (h0 : sl a 0 = .slice (some ⟨xb, xo, none⟩) n c0) (h1 : sl a 1 = .slice (some ⟨ro, 0, none⟩) no co) (h5 : sl a 5 = .int .i64 (i : Int)) (h6 : sl a 6 = .int .u64 sm) (h7 : sl a 7 = .int .i64 (cc : Int)) (h8 : sl a 8 = .int .i64 (k : Int)) :
    Code.wp Try.prog (cAt [1,0,1,2,2,1,0,2,1,1,1,1,2,2,1,1] KBd) (Exit.then (fun a' w' => Fr 89 a' ∧ sl a' 0 = .slice (some ⟨xb, xo, none⟩) n c0 ∧ sl a' 1 = .slice (some ⟨ro, 0, none⟩) no co ∧ sl a' 5 = .int .i64 (i : Int) ∧ sl a' 6 = .int .u64 sm ∧ sl a' 7 = .int .i64 (cc : Int) ∧ sl a' 8 = .int .i64 ((k : Int) + 1) ∧ wr = w') Nope) a wr := by
  obtain ⟨f, ha, hs⟩ := frKBd hf
  have e0 := (hs 0).trans h0
  have e1 := (hs 1).trans h1
  have e5 := (hs 5).trans h5
  have e6 := (hs 6).trans h6
  have e7 := (hs 7).trans h7
  have e8 := (hs 8).trans h8
  rw [e0, e1, e5, e6, e7, e8] at ha
  clear hs hf e0 h0 e1 h1 e5 h5 e6 h6 e7 h7 e8 h8
  subst ha
  refine piece2 fun J0 K0 hJ0 hK0 => ?_
  conv => arg 2; whnf
  have hw : IntKind.i64.wrap ((k : Int) + 1) = (k : Int) + 1 := by rw [IntKind.wrap_i64]; omega
  go_wp2_with fail
  refine Met.intro (hJ0 _ _ ?_)
  exact ⟨⟨rfl, rfl⟩, rfl, rfl, rfl, rfl, rfl, rfl, rfl⟩

set_option maxRecDepth 100000 in
set_option maxHeartbeats 4000000 in
theorem q11 (wr : World) (xb xo n c0 ro no co i cc k : Nat) (sm : Int) (dc : Nat) (HC : Hid (wr.cell? ⟨ro, k * 5 + 1, none⟩ = some (.int .i64 (dc : Int)))) (hk : k < no) (a : Act) (hf : Fr 89 a) (h0 : sl a 0 = .slice (some ⟨xb, xo, none⟩) n c0) (h1 : sl a 1 = .slice (some ⟨ro, 0, none⟩) no co) (h5 : sl a 5 = .int .i64 (i : Int)) (h6 : sl a 6 = .int .u64 sm) (h7 : sl a 7 = .int .i64 (cc : Int)) (h8 : sl a 8 = .int .i64 (k : Int)) :
    Code.wp Try.prog (cAt [1,0,1,2,2,1,0,2,1,1,1,1,2,2,1,0,2,0,0] KBd) (Exit.then (fun a' w' => Fr 89 a' ∧ sl a' 0 = .slice (some ⟨xb, xo, none⟩) n c0 ∧ sl a' 1 = .slice (some ⟨ro, 0, none⟩) no co ∧ sl a' 5 = .int .i64 (i : Int) ∧ sl a' 6 = .int .u64 sm ∧ sl a' 7 = .int .i64 (cc : Int) ∧ sl a' 8 = .int .i64 (k : Int) ∧ sl a' 41 = .bool (decide (dc ≠ cc)) ∧ wr = w') Nope) a wr := by
  obtain ⟨f, ha, hs⟩ := frKBd hf
  have e0 := (hs 0).trans h0
  have e1 := (hs 1).trans h1
  have e5 := (hs 5).trans h5
  have e6 := (hs 6).trans h6
  have e7 := (hs 7).trans h7
  have e8 := (hs 8).trans h8
  rw [e0, e1, e5, e6, e7, e8] at ha
  clear hs hf e0 h0 e1 h1 e5 h5 e6 h6 e7 h7 e8 h8
  subst ha
  refine piece2 fun J0 K0 hJ0 hK0 => ?_
  conv => arg 2; whnf
  have c1 := HC.out
  have hi2 : (k : Int) < (no : Int) := by omega
  have hi0 : (0 : Int) ≤ (k : Int) := by omega
  by_cases e : dc = cc
  · subst e
    go_wp2_with fail
    refine Met.intro (hJ0 _ _ ?_)
    exact ⟨⟨rfl, rfl⟩, rfl, rfl, rfl, rfl, rfl, rfl, by rw [decide_eq_false (show ¬ dc ≠ dc from fun h => h rfl)]; rfl, rfl⟩
  · have e2 : ((dc : Int) != (cc : Int)) = true := bne_iff_ne.2 (by omega)
    have e3 : ¬ (dc : Int) = (cc : Int) := by omega
    go_wp2_with fail
    refine Met.intro (hJ0 _ _ ?_)
    exact ⟨⟨rfl, rfl⟩, rfl, rfl, rfl, rfl, rfl, rfl, by rw [decide_eq_true (show dc ≠ cc from e)]; rfl, rfl⟩

set_option maxRecDepth 100000 in
set_option maxHeartbeats 4000000 in
theorem q11x (wr : World) (xb xo n c0 ro no co i cc k : Nat) (sm : Int) (a : Act) (hf : Fr 89 a) (h0 : sl a 0 = .slice (some ⟨xb, xo, none⟩) n c0) (h1 : sl a 1 = .slice (some ⟨ro, 0, none⟩) no co) (h5 : sl a 5 = .int .i64 (i : Int)) (h6 : sl a 6 = .int .u64 sm) (h7 : sl a 7 = .int .i64 (cc : Int)) (h8 : sl a 8 = .int .i64 (k : Int)) :
    Code.wp Try.prog (cAt [1,0,1,2,2,1,0,2,1,1,1,1,2,2,1,0,2,0,1,3] KBd) (Outs 3 (fun a' w' => Fr 89 a' ∧ sl a' 0 = .slice (some ⟨xb, xo, none⟩) n c0 ∧ sl a' 1 = .slice (some ⟨ro, 0, none⟩) no co ∧ sl a' 5 = .int .i64 (i : Int) ∧ sl a' 6 = .int .u64 sm ∧ sl a' 7 = .int .i64 (cc : Int) ∧ sl a' 8 = .int .i64 (k : Int) ∧ wr = w')) a wr := by
  obtain ⟨f, ha, hs⟩ := frKBd hf
  have e0 := (hs 0).trans h0
  have e1 := (hs 1).trans h1
  have e5 := (hs 5).trans h5
  have e6 := (hs 6).trans h6
  have e7 := (hs 7).trans h7
  have e8 := (hs 8).trans h8
  rw [e0, e1, e5, e6, e7, e8] at ha
  clear hs hf e0 h0 e1 h1 e5 h5 e6 h6 e7 h7 e8 h8
  subst ha
  conv => arg 2; whnf
  go_wp2_with fail
  exact ⟨rfl, ⟨rfl, rfl⟩, rfl, rfl, rfl, rfl, rfl, rfl, rfl⟩

set_option maxRecDepth 100000 in
set_option maxHeartbeats 4000000 in
theorem q12 (wr : World) (xb xo n c0 ro no co i cc k : Nat) (sm : Int) (sz : Int) (HC : Hid (wr.cell? ⟨ro, k * 5 + 2 + 1, none⟩ = some (.int .i64 sz))) (hk : k < no) (s0 : 0 ≤ sz) (s1 : sz ≤ 2048) (m0 : 0 ≤ sm) (m1 : sm ≤ 10000000000000000) (a : Act) (hf : Fr 89 a) (h0 : sl a 0 = .slice (some ⟨xb, xo, none⟩) n c0) (h1 : sl a 1 = .slice (some ⟨ro, 0, none⟩) no co) (h5 : sl a 5 = .int .i64 (i : Int)) (h6 : sl a 6 = .int .u64 sm) (h7 : sl a 7 = .int .i64 (cc : Int)) (h8 : sl a 8 = .int .i64 (k : Int)) :
    Code.wp Try.prog (cAt [1,0,1,2,2,1,0,2,1,1,1,1,2,2,1,0,2,1,0] KBd) (Exit.then (fun a' w' => Fr 89 a' ∧ sl a' 0 = .slice (some ⟨xb, xo, none⟩) n c0 ∧ sl a' 1 = .slice (some ⟨ro, 0, none⟩) no co ∧ sl a' 5 = .int .i64 (i : Int) ∧ sl a' 6 = .int .u64 (sm + sz) ∧ sl a' 7 = .int .i64 (cc : Int) ∧ sl a' 8 = .int .i64 (k : Int) ∧ wr = w') Nope) a wr := by
  obtain ⟨f, ha, hs⟩ := frKBd hf
  have e0 := (hs 0).trans h0
  have e1 := (hs 1).trans h1
  have e5 := (hs 5).trans h5
  have e6 := (hs 6).trans h6
  have e7 := (hs 7).trans h7
  have e8 := (hs 8).trans h8
  rw [e0, e1, e5, e6, e7, e8] at ha
  clear hs hf e0 h0 e1 h1 e5 h5 e6 h6 e7 h7 e8 h8
  subst ha
  refine piece2 fun J0 K0 hJ0 hK0 => ?_
  conv => arg 2; whnf
  have c1 := HC.out
  have hi2 : (k : Int) < (no : Int) := by omega
  have hi0 : (0 : Int) ≤ (k : Int) := by omega
  have e1 : IntKind.u64.wrap sz = sz := by rw [IntKind.wrap_u64]; omega
  have e2 : IntKind.u64.wrap (sm + sz) = sm + sz := by rw [IntKind.wrap_u64]; omega
  go_wp2_with fail
  refine Met.intro (hJ0 _ _ ?_)
  exact ⟨⟨rfl, rfl⟩, rfl, rfl, rfl, rfl, rfl, rfl, rfl⟩

set_option maxRecDepth 100000 in
set_option maxHeartbeats 4000000 in
theorem q13 (wr : World) (xb xo n c0 ro no co i cc k : Nat) (sm : Int) (tk_ ti r B D P : Int) (HC : Hid (wr.cell? ⟨ro, k * 5, none⟩ = some (.int .u64 tk_) ∧ wr.cell? ⟨ro, i * 5, none⟩ = some (.int .u64 ti) ∧ wr.cell? ⟨xb, xo + cc * 4, none⟩ = some (.int .u64 r) ∧ wr.cell? ⟨xb, xo + cc * 4 + 1, none⟩ = some (.int .u64 B))) (hi : i < no) (hk : k < no) (hcn : cc < n) (hD : D = tk_ - ti) (hP : r * D = P) (d0 : 0 ≤ D) (d1 : D ≤ 4294967296) (p0 : 0 ≤ P) (p1 : P ≤ 10000000000000000) (b0 : 0 ≤ B) (b1 : B ≤ 1048576) (hs : sm ≤ B + P) (a : Act) (hf : Fr 89 a) (h0 : sl a 0 = .slice (some ⟨xb, xo, none⟩) n c0) (h1 : sl a 1 = .slice (some ⟨ro, 0, none⟩) no co) (h5 : sl a 5 = .int .i64 (i : Int)) (h6 : sl a 6 = .int .u64 sm) (h7 : sl a 7 = .int .i64 (cc : Int)) (h8 : sl a 8 = .int .i64 (k : Int)) :
    Code.wp Try.prog (cAt [1,0,1,2,2,1,0,2,1,1,1,1,2,2,1,0,2,1,1,0] KBd) (Exit.then (fun a' w' => Fr 89 a' ∧ sl a' 0 = .slice (some ⟨xb, xo, none⟩) n c0 ∧ sl a' 1 = .slice (some ⟨ro, 0, none⟩) no co ∧ sl a' 5 = .int .i64 (i : Int) ∧ sl a' 6 = .int .u64 sm ∧ sl a' 7 = .int .i64 (cc : Int) ∧ sl a' 8 = .int .i64 (k : Int) ∧ sl a' 88 = .bool false ∧ Below wr.heap.size wr w') Nope) a wr := by
  obtain ⟨f, ha, hs⟩ := frKBd hf
  have e0 := (hs 0).trans h0
  have e1 := (hs 1).trans h1
  have e5 := (hs 5).trans h5
  have e6 := (hs 6).trans h6
  have e7 := (hs 7).trans h7
  have e8 := (hs 8).trans h8
  rw [e0, e1, e5, e6, e7, e8] at ha
  clear hs hf e0 h0 e1 h1 e5 h5 e6 h6 e7 h7 e8 h8
  subst ha
  refine piece2 fun J0 K0 hJ0 hK0 => ?_
  conv => arg 2; whnf
  have hi2 : (i : Int) < (no : Int) := by omega
  have hi0 : (0 : Int) ≤ (i : Int) := by omega
  have hk2 : (k : Int) < (no : Int) := by omega
  have hk0 : (0 : Int) ≤ (k : Int) := by omega
  have hc2 : (cc : Int) < (n : Int) := by omega
  have hc0 : (0 : Int) ≤ (cc : Int) := by omega
  have e1 : IntKind.u64.wrap (tk_ - ti) = D := by rw [IntKind.wrap_u64]; omega
  have e2 : IntKind.u64.wrap (r * D) = P := by rw [hP, IntKind.wrap_u64]; omega
  have e3 : IntKind.u64.wrap (B + P) = B + P := by rw [IntKind.wrap_u64]; omega
  have hlt : ¬ tk_ < ti := by omega
  have hsm : ¬ B + P < sm := by omega
  clear hP hD
  refine wp_region_held_drew (S := fun w' => w'.cell? ⟨ro, k * 5, none⟩ = some (.int .u64 tk_) ∧ w'.cell? ⟨ro, i * 5, none⟩ = some (.int .u64 ti) ∧ w'.cell? ⟨xb, xo + cc * 4, none⟩ = some (.int .u64 r) ∧ w'.cell? ⟨xb, xo + cc * 4 + 1, none⟩ = some (.int .u64 B)) (by kernel_rfl) HC.out (fun hS => ?_)
  refine tk 0 51 (.slice (some ⟨ro, 0, none⟩) no co) rfl rfl (by kernel_rfl) (by kernel_rfl) (by kernel_rfl) (fun _ _ _ h => h) (Or.inl ⟨by rfl, fun w' h' => ?_⟩) hS ?_
  · go_simp
  try simp only [Act.put, List.setIfInBounds_toArray, List.set_cons_zero, List.set_cons_succ]
  refine tk 1 52 (.int .i64 (k : Int)) rfl rfl (by kernel_rfl) (by kernel_rfl) (by kernel_rfl) (fun _ _ _ h => h) (Or.inl ⟨by rfl, fun w' h' => ?_⟩) hS ?_
  · go_simp
  try simp only [Act.put, List.setIfInBounds_toArray, List.set_cons_zero, List.set_cons_succ]
  refine tk 2 53 (.pointer (some ⟨ro, k * 5, none⟩)) rfl rfl (by kernel_rfl) (by kernel_rfl) (by kernel_rfl) (fun _ _ _ h => h) (Or.inl ⟨by rfl, fun w' h' => ?_⟩) hS ?_
  · go_simp
  try simp only [Act.put, List.setIfInBounds_toArray, List.set_cons_zero, List.set_cons_succ]
  refine tk 3 54 (.pointer (some ⟨ro, k * 5, none⟩)) rfl rfl (by kernel_rfl) (by kernel_rfl) (by kernel_rfl) (fun _ _ _ h => h) (Or.inl ⟨by rfl, fun w' h' => ?_⟩) hS ?_
  · go_simp
  try simp only [Act.put, List.setIfInBounds_toArray, List.set_cons_zero, List.set_cons_succ]
  refine tk 4 55 (.int .u64 tk_) rfl rfl (by kernel_rfl) (by kernel_rfl) (by kernel_rfl) (fun _ _ _ h => h) (Or.inl ⟨by rfl, fun w' h' => ?_⟩) hS ?_
  · have q1 := h'.1
    go_simp
  try simp only [Act.put, List.setIfInBounds_toArray, List.set_cons_zero, List.set_cons_succ]
  refine tk 5 56 (.slice (some ⟨ro, 0, none⟩) no co) rfl rfl (by kernel_rfl) (by kernel_rfl) (by kernel_rfl) (fun _ _ _ h => h) (Or.inl ⟨by rfl, fun w' h' => ?_⟩) hS ?_
  · go_simp
  try simp only [Act.put, List.setIfInBounds_toArray, List.set_cons_zero, List.set_cons_succ]
  refine tk 6 57 (.int .i64 (i : Int)) rfl rfl (by kernel_rfl) (by kernel_rfl) (by kernel_rfl) (fun _ _ _ h => h) (Or.inl ⟨by rfl, fun w' h' => ?_⟩) hS ?_
  · go_simp
  try simp only [Act.put, List.setIfInBounds_toArray, List.set_cons_zero, List.set_cons_succ]
  refine tk 7 58 (.pointer (some ⟨ro, i * 5, none⟩)) rfl rfl (by kernel_rfl) (by kernel_rfl) (by kernel_rfl) (fun _ _ _ h => h) (Or.inl ⟨by rfl, fun w' h' => ?_⟩) hS ?_
  · go_simp
  try simp only [Act.put, List.setIfInBounds_toArray, List.set_cons_zero, List.set_cons_succ]
  refine tk 8 59 (.pointer (some ⟨ro, i * 5, none⟩)) rfl rfl (by kernel_rfl) (by kernel_rfl) (by kernel_rfl) (fun _ _ _ h => h) (Or.inl ⟨by rfl, fun w' h' => ?_⟩) hS ?_
  · go_simp
  try simp only [Act.put, List.setIfInBounds_toArray, List.set_cons_zero, List.set_cons_succ]
  refine tk 9 60 (.int .u64 ti) rfl rfl (by kernel_rfl) (by kernel_rfl) (by kernel_rfl) (fun _ _ _ h => h) (Or.inl ⟨by rfl, fun w' h' => ?_⟩) hS ?_
  · have q1 := h'.2.1
    go_simp
  try simp only [Act.put, List.setIfInBounds_toArray, List.set_cons_zero, List.set_cons_succ]
  refine tk 10 61 (.bool false) rfl rfl (by kernel_rfl) (by kernel_rfl) (by kernel_rfl) (fun _ _ _ h => h) (Or.inl ⟨by rfl, fun w' h' => ?_⟩) hS ?_
  · go_simp
  try simp only [Act.put, List.setIfInBounds_toArray, List.set_cons_zero, List.set_cons_succ]
  refine tk 11 62 (.bool false) rfl rfl (by kernel_rfl) (by kernel_rfl) (by kernel_rfl) (fun _ _ _ h => h) (Or.inl ⟨by rfl, fun w' h' => ?_⟩) hS ?_
  · go_simp
  try simp only [Act.put, List.setIfInBounds_toArray, List.set_cons_zero, List.set_cons_succ]
  refine tk 12 63 (.int .u64 sm) rfl rfl (by kernel_rfl) (by kernel_rfl) (by kernel_rfl) (fun _ _ _ h => h) (Or.inl ⟨by rfl, fun w' h' => ?_⟩) hS ?_
  · go_simp
  try simp only [Act.put, List.setIfInBounds_toArray, List.set_cons_zero, List.set_cons_succ]
  refine tk 13 64 (.slice (some ⟨xb, xo, none⟩) n c0) rfl rfl (by kernel_rfl) (by kernel_rfl) (by kernel_rfl) (fun _ _ _ h => h) (Or.inl ⟨by rfl, fun w' h' => ?_⟩) hS ?_
  · go_simp
  try simp only [Act.put, List.setIfInBounds_toArray, List.set_cons_zero, List.set_cons_succ]
  refine tk 14 65 (.int .i64 (cc : Int)) rfl rfl (by kernel_rfl) (by kernel_rfl) (by kernel_rfl) (fun _ _ _ h => h) (Or.inl ⟨by rfl, fun w' h' => ?_⟩) hS ?_
  · go_simp
  try simp only [Act.put, List.setIfInBounds_toArray, List.set_cons_zero, List.set_cons_succ]
  refine tk 15 66 (.pointer (some ⟨xb, xo + cc * 4, none⟩)) rfl rfl (by kernel_rfl) (by kernel_rfl) (by kernel_rfl) (fun _ _ _ h => h) (Or.inl ⟨by rfl, fun w' h' => ?_⟩) hS ?_
  · go_simp
  try simp only [Act.put, List.setIfInBounds_toArray, List.set_cons_zero, List.set_cons_succ]
  refine tk 16 67 (.pointer (some ⟨xb, xo + cc * 4 + 1, none⟩)) rfl rfl (by kernel_rfl) (by kernel_rfl) (by kernel_rfl) (fun _ _ _ h => h) (Or.inl ⟨by rfl, fun w' h' => ?_⟩) hS ?_
  · go_simp
  try simp only [Act.put, List.setIfInBounds_toArray, List.set_cons_zero, List.set_cons_succ]
  refine tk 17 68 (.int .u64 B) rfl rfl (by kernel_rfl) (by kernel_rfl) (by kernel_rfl) (fun _ _ _ h => h) (Or.inl ⟨by rfl, fun w' h' => ?_⟩) hS ?_
  · have q1 := h'.2.2.2
    go_simp
  try simp only [Act.put, List.setIfInBounds_toArray, List.set_cons_zero, List.set_cons_succ]
  refine tk 18 69 (.slice (some ⟨xb, xo, none⟩) n c0) rfl rfl (by kernel_rfl) (by kernel_rfl) (by kernel_rfl) (fun _ _ _ h => h) (Or.inl ⟨by rfl, fun w' h' => ?_⟩) hS ?_
  · go_simp
  try simp only [Act.put, List.setIfInBounds_toArray, List.set_cons_zero, List.set_cons_succ]
  refine tk 19 70 (.int .i64 (cc : Int)) rfl rfl (by kernel_rfl) (by kernel_rfl) (by kernel_rfl) (fun _ _ _ h => h) (Or.inl ⟨by rfl, fun w' h' => ?_⟩) hS ?_
  · go_simp
  try simp only [Act.put, List.setIfInBounds_toArray, List.set_cons_zero, List.set_cons_succ]
  refine tk 20 71 (.pointer (some ⟨xb, xo + cc * 4, none⟩)) rfl rfl (by kernel_rfl) (by kernel_rfl) (by kernel_rfl) (fun _ _ _ h => h) (Or.inl ⟨by rfl, fun w' h' => ?_⟩) hS ?_
  · go_simp
  try simp only [Act.put, List.setIfInBounds_toArray, List.set_cons_zero, List.set_cons_succ]
  refine tk 21 72 (.pointer (some ⟨xb, xo + cc * 4, none⟩)) rfl rfl (by kernel_rfl) (by kernel_rfl) (by kernel_rfl) (fun _ _ _ h => h) (Or.inl ⟨by rfl, fun w' h' => ?_⟩) hS ?_
  · go_simp
  try simp only [Act.put, List.setIfInBounds_toArray, List.set_cons_zero, List.set_cons_succ]
  refine tk 22 73 (.int .u64 r) rfl rfl (by kernel_rfl) (by kernel_rfl) (by kernel_rfl) (fun _ _ _ h => h) (Or.inl ⟨by rfl, fun w' h' => ?_⟩) hS ?_
  · have q1 := h'.2.2.1
    go_simp
  try simp only [Act.put, List.setIfInBounds_toArray, List.set_cons_zero, List.set_cons_succ]
  refine tk 23 74 (.slice (some ⟨ro, 0, none⟩) no co) rfl rfl (by kernel_rfl) (by kernel_rfl) (by kernel_rfl) (fun _ _ _ h => h) (Or.inl ⟨by rfl, fun w' h' => ?_⟩) hS ?_
  · go_simp
  try simp only [Act.put, List.setIfInBounds_toArray, List.set_cons_zero, List.set_cons_succ]
  refine tk 24 75 (.int .i64 (k : Int)) rfl rfl (by kernel_rfl) (by kernel_rfl) (by kernel_rfl) (fun _ _ _ h => h) (Or.inl ⟨by rfl, fun w' h' => ?_⟩) hS ?_
  · go_simp
  try simp only [Act.put, List.setIfInBounds_toArray, List.set_cons_zero, List.set_cons_succ]
  refine tk 25 76 (.pointer (some ⟨ro, k * 5, none⟩)) rfl rfl (by kernel_rfl) (by kernel_rfl) (by kernel_rfl) (fun _ _ _ h => h) (Or.inl ⟨by rfl, fun w' h' => ?_⟩) hS ?_
  · go_simp
  try simp only [Act.put, List.setIfInBounds_toArray, List.set_cons_zero, List.set_cons_succ]
  refine tk 26 77 (.pointer (some ⟨ro, k * 5, none⟩)) rfl rfl (by kernel_rfl) (by kernel_rfl) (by kernel_rfl) (fun _ _ _ h => h) (Or.inl ⟨by rfl, fun w' h' => ?_⟩) hS ?_
  · go_simp
  try simp only [Act.put, List.setIfInBounds_toArray, List.set_cons_zero, List.set_cons_succ]
  refine tk 27 78 (.int .u64 tk_) rfl rfl (by kernel_rfl) (by kernel_rfl) (by kernel_rfl) (fun _ _ _ h => h) (Or.inl ⟨by rfl, fun w' h' => ?_⟩) hS ?_
  · have q1 := h'.1
    go_simp
  try simp only [Act.put, List.setIfInBounds_toArray, List.set_cons_zero, List.set_cons_succ]
  refine tk 28 79 (.slice (some ⟨ro, 0, none⟩) no co) rfl rfl (by kernel_rfl) (by kernel_rfl) (by kernel_rfl) (fun _ _ _ h => h) (Or.inl ⟨by rfl, fun w' h' => ?_⟩) hS ?_
  · go_simp
  try simp only [Act.put, List.setIfInBounds_toArray, List.set_cons_zero, List.set_cons_succ]
  refine tk 29 80 (.int .i64 (i : Int)) rfl rfl (by kernel_rfl) (by kernel_rfl) (by kernel_rfl) (fun _ _ _ h => h) (Or.inl ⟨by rfl, fun w' h' => ?_⟩) hS ?_
  · go_simp
  try simp only [Act.put, List.setIfInBounds_toArray, List.set_cons_zero, List.set_cons_succ]
  refine tk 30 81 (.pointer (some ⟨ro, i * 5, none⟩)) rfl rfl (by kernel_rfl) (by kernel_rfl) (by kernel_rfl) (fun _ _ _ h => h) (Or.inl ⟨by rfl, fun w' h' => ?_⟩) hS ?_
  · go_simp
  try simp only [Act.put, List.setIfInBounds_toArray, List.set_cons_zero, List.set_cons_succ]
  refine tk 31 82 (.pointer (some ⟨ro, i * 5, none⟩)) rfl rfl (by kernel_rfl) (by kernel_rfl) (by kernel_rfl) (fun _ _ _ h => h) (Or.inl ⟨by rfl, fun w' h' => ?_⟩) hS ?_
  · go_simp
  try simp only [Act.put, List.setIfInBounds_toArray, List.set_cons_zero, List.set_cons_succ]
  refine tk 32 83 (.int .u64 ti) rfl rfl (by kernel_rfl) (by kernel_rfl) (by kernel_rfl) (fun _ _ _ h => h) (Or.inl ⟨by rfl, fun w' h' => ?_⟩) hS ?_
  · have q1 := h'.2.1
    go_simp
  try simp only [Act.put, List.setIfInBounds_toArray, List.set_cons_zero, List.set_cons_succ]
  refine tk 33 84 (.int .u64 D) rfl rfl (by kernel_rfl) (by kernel_rfl) (by kernel_rfl) (fun _ _ _ h => h) (Or.inl ⟨by rfl, fun w' h' => ?_⟩) hS ?_
  · go_simp
  try simp only [Act.put, List.setIfInBounds_toArray, List.set_cons_zero, List.set_cons_succ]
  refine tk 34 85 (.int .u64 P) rfl rfl (by kernel_rfl) (by kernel_rfl) (by kernel_rfl) (fun _ _ _ h => h) (Or.inl ⟨by rfl, fun w' h' => ?_⟩) hS ?_
  · go_simp
  try simp only [Act.put, List.setIfInBounds_toArray, List.set_cons_zero, List.set_cons_succ]
  refine tk 35 86 (.int .u64 (B + P)) rfl rfl (by kernel_rfl) (by kernel_rfl) (by kernel_rfl) (fun _ _ _ h => h) (Or.inl ⟨by rfl, fun w' h' => ?_⟩) hS ?_
  · go_simp
  try simp only [Act.put, List.setIfInBounds_toArray, List.set_cons_zero, List.set_cons_succ]
  refine tk 36 87 (.bool false) rfl rfl (by kernel_rfl) (by kernel_rfl) (by kernel_rfl) (fun _ _ _ h => h) (Or.inl ⟨by rfl, fun w' h' => ?_⟩) hS ?_
  · go_simp
  try simp only [Act.put, List.setIfInBounds_toArray, List.set_cons_zero, List.set_cons_succ]
  refine tk 37 88 (.bool false) rfl rfl (by kernel_rfl) (by kernel_rfl) (by kernel_rfl) (fun _ _ _ h => h) (Or.inl ⟨by rfl, fun w' h' => ?_⟩) hS ?_
  · go_simp
  refine wpAnyH_done (by kernel_rfl) ?_ _
  go_wp2_with fail
  refine Met.intro (hJ0 _ _ ?_)
  exact ⟨⟨rfl, rfl⟩, rfl, rfl, rfl, rfl, rfl, rfl, rfl, (Below.refl _ _).drew⟩

set_option maxRecDepth 100000 in
set_option maxHeartbeats 4000000 in
theorem q15 (wr : World) (R : Ending → World → Prop) (HR : R (.returned (.bool true)) wr) (a : Act) (hf : Fr 89 a) :
    Code.wp Try.prog (cAt [1,1] KBd) (bodyPost Try.prog Try.f21 R) a wr := by
  have H := Lib.hid HR
  clear HR
  obtain ⟨f, ha, hs⟩ := frKBd hf
  clear hs hf 
  subst ha
  conv => arg 2; whnf
  go_wp2_with fail
  first | exact H.out | (go_ret; exact H.out)

/-- What bounded needs of what went out. -/
structure BdO (l : List Cs) (o : List Ot) : Prop where
  bp : BdP l o
  cls : ∀ x ∈ o, x.c < l.length ∧ 0 ≤ x.x.sz ∧ x.x.sz ≤ 2048 ∧ 0 ≤ x.t ∧ x.t < 4294967296
  cl : ∀ x ∈ l, 0 ≤ x.r ∧ x.r < 1048576 ∧ 0 ≤ x.B ∧ x.B < 1048576
theorem smC_pos (c : Nat) : ∀ (l : List Ot), (∀ x ∈ l, 0 ≤ x.x.sz) → 0 ≤ smC c l
  | [], _ => Int.le_refl _
  | x :: t, h => by
    have := smC_pos c t (fun y hy => h y (List.mem_cons_of_mem _ hy))
    have := h x List.mem_cons_self
    rw [smC]
    split <;> omega
theorem smC_snoc (c : Nat) (o : List Ot) {i k : Nat} (hik : i ≤ k) {y : Ot} (hy : o[k]? = some y) : smC c ((o.take (k + 1)).drop i) = smC c ((o.take k).drop i) + (if y.c = c then y.x.sz else 0) := by
  have hk := (List.getElem?_eq_some_iff.1 hy).1
  rw [List.take_add_one, hy, Option.toList_some, drop_snoc _ _ _ (by rw [List.length_take]; omega), smC_app]
  simp [smC]
set_option maxRecDepth 100000 in
theorem bounded_any (xb xo n c0 : Nat) (l : List Cs) (hlen : l.length = n) (vo : Option Addr) (no co : Nat) (ys : List Po) (B : Nat) (w : World) (hl : ∀ (i : Nat) (x : Cs), l[i]? = some x → w.rangeAt xb (xo + i * 4) x.cs) (ho : Ops w B vo no co ys) (h : BdO l (ys.map Po.ot)) (hn : no ≤ 100000) :
    Calls Try.prog 21 #[.slice (some ⟨xb, xo, none⟩) n c0, .slice vo no co] w (Yes w) := by
  have hno := ho.len
  refine calls_of_wp (c := KBd) Try.func21 (by kernel_rfl) ?_
  have hf : Fr 89 { tmps := #[.slice (some ⟨xb, xo, none⟩) n c0, .slice vo no co] ++ Array.replicate (Try.f21.ntmps - (#[.slice (some ⟨xb, xo, none⟩) n c0, .slice vo no co] : Array Value).size) undef, defers := [] } := ⟨rfl, by simp [Try.ntmps21]⟩
  refine wp_sqR (x := cAt [0] KBd) (y := cAt [1] KBd) (by kernel_rfl) (q0 w xb xo n c0 vo no co _ hf (sl_at _ _ 0 _ rfl) (sl_at _ _ 1 _ rfl)) ?_
  rintro a1 _ ⟨hf, h0, h1, rfl⟩
  refine wp_sqR (x := cAt [1,0] KBd) (y := cAt [1,1] KBd) (by kernel_rfl) (R := fun a' w' => Below w.heap.size w w' ∧ Fr 89 a') ?_ ?_
  · refine wp_sqR (x := cAt [1,0,0] KBd) (y := cAt [1,0,1] KBd) (by kernel_rfl) (q1 w xb xo n c0 vo no co a1 hf h0 h1) ?_
    rintro a2 _ ⟨hf, h0, h1, h5, rfl⟩
    refine wp_blockR (x := cAt [1,0,1,2] KBd) (id := 0) (by kernel_rfl) ?_
    refine wp_loopR (x := cAt [1,0,1,2,2] KBd) (by kernel_rfl) (fun a' w' => ∃ i : Nat, i ≤ no ∧ Below w.heap.size w w' ∧ Fr 89 a' ∧ sl a' 0 = .slice (some ⟨xb, xo, none⟩) n c0 ∧ sl a' 1 = .slice vo no co ∧ sl a' 5 = .int .i64 (i : Int)) (fun a' _ => no - (intOf (sl a' 5)).toNat) ⟨0, Nat.zero_le _, Below.refl _ _, hf, h0, h1, h5⟩ ?_
    rintro a3 w3 ⟨i, hi, hb, hf, h0, h1, h5⟩
    by_cases hlt : i < no
    case neg =>
      refine wp_endX (q2x w3 xb xo n c0 vo no co i hlt a3 hf h0 h1 h5) ?_
      rintro a4 _ ⟨hf, rfl⟩
      exact thru ⟨hb, hf⟩
    refine wp_sqR (x := cAt [1,0,1,2,2,0] KBd) (y := cAt [1,0,1,2,2,1] KBd) (by kernel_rfl) (q2 w3 xb xo n c0 vo no co i hlt a3 hf h0 h1 h5) ?_
    rintro a4 _ ⟨hf, h0, h1, h5', rfl⟩
    obtain ⟨p, hp⟩ : ∃ p, ys[i]? = some p := ⟨_, List.getElem?_eq_getElem (by omega)⟩
    obtain ⟨ro, hvo, hrg⟩ := (ho.below hb).nth hp
    have hpc := h.cls p.ot (List.mem_map.2 ⟨p, List.mem_of_getElem? hp, rfl⟩)
    have hpi : (ys.map Po.ot)[i]? = some p.ot := by rw [List.getElem?_map, hp]; rfl
    obtain ⟨cl, hcl⟩ : ∃ cl, l[p.c]? = some cl := ⟨_, List.getElem?_eq_getElem hpc.1⟩
    have hclb := h.cl cl (List.mem_of_getElem? hcl)
    rw [hvo] at h1
    refine wp_sqR (x := cAt [1,0,1,2,2,1,0] KBd) (y := cAt [1,0,1,2,2,1,1] KBd) (by kernel_rfl) (R := fun a' w' => Below w.heap.size w w' ∧ Fr 89 a' ∧ sl a' 0 = .slice (some ⟨xb, xo, none⟩) n c0 ∧ sl a' 1 = .slice vo no co ∧ sl a' 5 = .int .i64 (i : Int)) ?_ ?_
    · refine wp_blockR (x := cAt [1,0,1,2,2,1,0,2] KBd) (id := 1) (by kernel_rfl) ?_
      refine wp_sqR (x := cAt [1,0,1,2,2,1,0,2,0] KBd) (y := cAt [1,0,1,2,2,1,0,2,1] KBd) (by kernel_rfl) (q4 w3 xb xo n c0 (some ⟨ro, 0, none⟩) no co i a4 hf h0 h1 h5') ?_
      rintro a5 _ ⟨hf, h0, h1, h5', h6, rfl⟩
      refine wp_sqR (x := cAt [1,0,1,2,2,1,0,2,1,0] KBd) (y := cAt [1,0,1,2,2,1,0,2,1,1] KBd) (by kernel_rfl) (q5 w3 xb xo n c0 ro no co i p.c (hrg 1 _ rfl) hlt a5 hf h0 h1 h5' h6) ?_
      rintro a6 _ ⟨hf, h0, h1, h5', h6, h7, rfl⟩
      refine wp_sqR (x := cAt [1,0,1,2,2,1,0,2,1,1,0] KBd) (y := cAt [1,0,1,2,2,1,0,2,1,1,1] KBd) (by kernel_rfl) (R := fun a' w' => w3 = w' ∧ Fr 89 a' ∧ sl a' 0 = .slice (some ⟨xb, xo, none⟩) n c0 ∧ sl a' 1 = .slice (some ⟨ro, 0, none⟩) no co ∧ sl a' 5 = .int .i64 (i : Int) ∧ sl a' 6 = .int .u64 0 ∧ sl a' 7 = .int .i64 (p.c : Int)) ?_ ?_
      · refine wp_sqR (x := cAt [1,0,1,2,2,1,0,2,1,1,0,0] KBd) (y := cAt [1,0,1,2,2,1,0,2,1,1,0,1] KBd) (by kernel_rfl) (q6 w3 xb xo n c0 ro no co i p.c (by have := hpc.1; show p.ot.c < n; omega) a6 hf h0 h1 h5' h6 h7) ?_
        rintro a7 _ ⟨hf, h0, h1, h5', h6, h7, h27, rfl⟩
        refine wp_onF (A := cAt [1,0,1,2,2,1,0,2,1,1,0,1,3] KBd) (B := cAt [1,0,1,2,2,1,0,2,1,1,0,1,4] KBd) (by kernel_rfl) h27 ?_
        exact wp_skipR (by kernel_rfl) ⟨rfl, hf, h0, h1, h5', h6, h7⟩
      rintro a7 _ ⟨rfl, hf, h0, h1, h5', h6, h7⟩
      refine wp_sqR (x := cAt [1,0,1,2,2,1,0,2,1,1,1,0] KBd) (y := cAt [1,0,1,2,2,1,0,2,1,1,1,1] KBd) (by kernel_rfl) (q8 w3 xb xo n c0 ro no co i p.c a7 hf h0 h1 h5' h6 h7) ?_
      rintro a8 _ ⟨hf, h0, h1, h5', h6, h7, h8, rfl⟩
      refine wp_blockR (x := cAt [1,0,1,2,2,1,0,2,1,1,1,1,2] KBd) (id := 2) (by kernel_rfl) ?_
      refine wp_loopR (x := cAt [1,0,1,2,2,1,0,2,1,1,1,1,2,2] KBd) (by kernel_rfl) (fun a' w' => ∃ k : Nat, i ≤ k ∧ k ≤ no ∧ Below w.heap.size w w' ∧ Fr 89 a' ∧ sl a' 0 = .slice (some ⟨xb, xo, none⟩) n c0 ∧ sl a' 1 = .slice (some ⟨ro, 0, none⟩) no co ∧ sl a' 5 = .int .i64 (i : Int) ∧ sl a' 6 = .int .u64 (smC p.c (((ys.map Po.ot).take k).drop i)) ∧ sl a' 7 = .int .i64 (p.c : Int) ∧ sl a' 8 = .int .i64 (k : Int)) (fun a' _ => no - (intOf (sl a' 8)).toNat) ⟨i, Nat.le_refl _, by omega, hb, hf, h0, h1, h5', by rw [h6]; congr 1; rw [List.drop_of_length_le (by rw [List.length_take]; omega)]; rfl, h7, h8⟩ ?_
      rintro a9 w9 ⟨k, hik, hk, hb9, hf, h0, h1, h5', h6, h7, h8⟩
      by_cases hkl : k < no
      case neg =>
        refine wp_endX (q9x w9 xb xo n c0 ro no co i p.c k _ hkl a9 hf h0 h1 h5' h6 h7 h8) ?_
        rintro a10 _ ⟨hf, h0, h1, h5', rfl⟩
        refine thru ?_
        rw [← hvo] at h1
        exact ⟨hb9, hf, h0, h1, h5'⟩
      refine wp_sqR (x := cAt [1,0,1,2,2,1,0,2,1,1,1,1,2,2,0] KBd) (y := cAt [1,0,1,2,2,1,0,2,1,1,1,1,2,2,1] KBd) (by kernel_rfl) (q9 w9 xb xo n c0 ro no co i p.c k _ hkl a9 hf h0 h1 h5' h6 h7 h8) ?_
      rintro a10 _ ⟨hf, h0, h1, h5', h6, h7, h8', rfl⟩
      obtain ⟨q, hq⟩ : ∃ q, ys[k]? = some q := ⟨_, List.getElem?_eq_getElem (by omega)⟩
      obtain ⟨ro2, hvo2, hrgk⟩ := (ho.below hb9).nth hq
      have hrr : ro2 = ro := by rw [hvo] at hvo2; simpa using hvo2.symm
      subst hrr
      have hqk : (ys.map Po.ot)[k]? = some q.ot := by rw [List.getElem?_map, hq]; rfl
      have hqc := h.cls q.ot (List.mem_map.2 ⟨q, List.mem_of_getElem? hq, rfl⟩)
      have hsn := smC_snoc p.c (ys.map Po.ot) hik hqk
      have hpos : 0 ≤ smC p.c (((ys.map Po.ot).take k).drop i) := smC_pos _ _ (fun x hx => (h.cls x (List.mem_of_mem_take (List.mem_of_mem_drop hx))).2.1)
      refine wp_sqR (x := cAt [1,0,1,2,2,1,0,2,1,1,1,1,2,2,1,0] KBd) (y := cAt [1,0,1,2,2,1,0,2,1,1,1,1,2,2,1,1] KBd) (by kernel_rfl) (R := fun a' w' => Below w.heap.size w w' ∧ Fr 89 a' ∧ sl a' 0 = .slice (some ⟨xb, xo, none⟩) n c0 ∧ sl a' 1 = .slice (some ⟨ro2, 0, none⟩) no co ∧ sl a' 5 = .int .i64 (i : Int) ∧ sl a' 6 = .int .u64 (smC p.c (((ys.map Po.ot).take (k + 1)).drop i)) ∧ sl a' 7 = .int .i64 (p.c : Int) ∧ sl a' 8 = .int .i64 (k : Int)) ?_ ?_
      · refine wp_blockR (x := cAt [1,0,1,2,2,1,0,2,1,1,1,1,2,2,1,0,2] KBd) (id := 3) (by kernel_rfl) ?_
        refine wp_sqG (x := cAt [1,0,1,2,2,1,0,2,1,1,1,1,2,2,1,0,2,0] KBd) (y := cAt [1,0,1,2,2,1,0,2,1,1,1,1,2,2,1,0,2,1] KBd) (by kernel_rfl) ?_
        refine wp_sqR (x := cAt [1,0,1,2,2,1,0,2,1,1,1,1,2,2,1,0,2,0,0] KBd) (y := cAt [1,0,1,2,2,1,0,2,1,1,1,1,2,2,1,0,2,0,1] KBd) (by kernel_rfl) (q11 w9 xb xo n c0 ro2 no co i p.c k _ q.c (hrgk 1 _ rfl) hkl a10 hf h0 h1 h5' h6 h7 h8') ?_
        rintro a11 _ ⟨hf, h0, h1, h5', h6, h7, h8', h41, rfl⟩
        by_cases hcc : q.c = p.c
        · rw [decide_eq_false (fun hne => hne hcc)] at h41
          refine wp_onF (A := cAt [1,0,1,2,2,1,0,2,1,1,1,1,2,2,1,0,2,0,1,3] KBd) (B := cAt [1,0,1,2,2,1,0,2,1,1,1,1,2,2,1,0,2,0,1,4] KBd) (by kernel_rfl) h41 ?_
          refine wp_skipR (by kernel_rfl) ?_
          have hbp := h.bp i k p.ot q.ot cl hpi hqk hik hcc hcl
          rw [show p.ot.c = p.c from rfl, hsn, if_pos (show q.ot.c = p.c from hcc)] at hbp
          have ht0 := hpc.2.2.2.1
          have ht1 := hqc.2.2.2.2
          have hd0 : 0 ≤ q.t - p.t := by have := hbp.1; show 0 ≤ q.ot.t - p.ot.t; omega
          have hd1 : q.t - p.t ≤ 4294967296 := by show q.ot.t - p.ot.t ≤ _; omega
          have hP0 : 0 ≤ cl.r * (q.t - p.t) := Int.mul_nonneg hclb.1 hd0
          have hP1 : cl.r * (q.t - p.t) ≤ 1048576 * 4294967296 := Int.mul_le_mul (by omega) hd1 hd0 (by decide)
          have hs2 : smC p.c (((ys.map Po.ot).take k).drop i) + q.y.sz ≤ cl.B + cl.r * (q.t - p.t) := hbp.2
          have hz0 : 0 ≤ q.y.sz := hqc.2.1
          have hz1 : q.y.sz ≤ 2048 := hqc.2.2.1
          refine wp_sqR (x := cAt [1,0,1,2,2,1,0,2,1,1,1,1,2,2,1,0,2,1,0] KBd) (y := cAt [1,0,1,2,2,1,0,2,1,1,1,1,2,2,1,0,2,1,1] KBd) (by kernel_rfl) (q12 w9 xb xo n c0 ro2 no co i p.c k _ q.y.sz (hrgk 3 _ rfl) hkl hz0 hz1 hpos (by omega) a11 hf h0 h1 h5' h6 h7 h8') ?_
          rintro a12 _ ⟨hf, h0, h1, h5', h6, h7, h8', rfl⟩
          obtain ⟨ro3, hvo3, hrgi⟩ := (ho.below hb9).nth hp
          have hrr3 : ro3 = ro2 := by rw [hvo] at hvo3; simpa using hvo3.symm
          rw [hrr3] at hrgi
          have hrc := range_kept hb9 (hl p.c cl hcl)
          refine wp_sqR (x := cAt [1,0,1,2,2,1,0,2,1,1,1,1,2,2,1,0,2,1,1,0] KBd) (y := cAt [1,0,1,2,2,1,0,2,1,1,1,1,2,2,1,0,2,1,1,1] KBd) (by kernel_rfl) (q13 w9 xb xo n c0 ro2 no co i p.c k _ q.t p.t cl.r cl.B (q.t - p.t) (cl.r * (q.t - p.t)) ⟨hrgk 0 _ rfl, hrgi 0 _ rfl, hrc 0 _ rfl, hrc 1 _ rfl⟩ hlt hkl (by have := hpc.1; show p.ot.c < n; omega) rfl rfl hd0 hd1 hP0 (by omega) hclb.2.2.1 (by omega) hs2 a12 hf h0 h1 h5' h6 h7 h8') ?_
          rintro a13 w13 ⟨hf, h0, h1, h5', h6, h7, h8', h88, hb13⟩
          refine wp_onF (A := cAt [1,0,1,2,2,1,0,2,1,1,1,1,2,2,1,0,2,1,1,1,3] KBd) (B := cAt [1,0,1,2,2,1,0,2,1,1,1,1,2,2,1,0,2,1,1,1,4] KBd) (by kernel_rfl) h88 ?_
          refine wp_skipR (by kernel_rfl) ?_
          refine ⟨hb9.trans (hb13.mono hb9.size), hf, h0, h1, h5', ?_, h7, h8'⟩
          rw [h6, hsn, if_pos (show q.ot.c = p.c from hcc)]; rfl
        · rw [decide_eq_true hcc] at h41
          refine wp_onT (A := cAt [1,0,1,2,2,1,0,2,1,1,1,1,2,2,1,0,2,0,1,3] KBd) (B := cAt [1,0,1,2,2,1,0,2,1,1,1,1,2,2,1,0,2,0,1,4] KBd) (by kernel_rfl) h41 ?_
          refine wp_endX (q11x w9 xb xo n c0 ro2 no co i p.c k _ a11 hf h0 h1 h5' h6 h7 h8') ?_
          rintro a12 _ ⟨hf, h0, h1, h5', h6, h7, h8', rfl⟩
          refine thru ?_
          refine ⟨hb9, hf, h0, h1, h5', ?_, h7, h8'⟩
          rw [h6, hsn, if_neg (show ¬ q.ot.c = p.c from hcc), Int.add_zero]
      rintro a11 w11 ⟨hb11, hf, h0, h1, h5', h6, h7, h8'⟩
      refine wp_endR (q10 w11 xb xo n c0 ro2 no co i p.c k _ (by omega) a11 hf h0 h1 h5' h6 h7 h8') ?_
      rintro a12 _ ⟨hf, h0, h1, h5', h6, h7, h8'', rfl⟩
      refine ⟨⟨k + 1, by omega, hkl, hb11, hf, h0, h1, h5', h6, h7, by rw [h8'']; rfl⟩, ?_⟩
      rw [h8, h8'']
      simp only [intOf]
      omega
    rintro a5 w5 ⟨hb5, hf, h0, h1, h5'⟩
    refine wp_endR (q3 w5 xb xo n c0 vo no co i (by omega) a5 hf h0 h1 h5') ?_
    rintro a6 _ ⟨hf, h0, h1, h5'', rfl⟩
    refine ⟨⟨i + 1, hlt, hb5, hf, h0, h1, by rw [h5'']; rfl⟩, ?_⟩
    rw [h5, h5'']
    simp only [intOf]
    omega
  rintro a2 w2 ⟨hb2, hf⟩
  exact q15 w2 _ ⟨rfl, hb2⟩ a2 hf
end Go.Proofs.Yticjfhmkpciihaa

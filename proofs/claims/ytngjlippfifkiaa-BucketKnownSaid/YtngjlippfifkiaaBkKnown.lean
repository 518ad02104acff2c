/-
  BucketKnown's walk, put together of its pieces. No conditions. (Made by gen_bkknown.py.)
-/
import Derived.Test.YtngjlippfifkiaaBkKnownA
namespace Go.Proofs.Ytngjlippfifkiaa
open Go.RowKit

set_option maxRecDepth 100000 in
set_option maxHeartbeats 4000000 in
theorem actsRound (w wr : World) (gl k i m n cA : Nat) (aA : Option Addr) (l : List Ac) (hn : n < 12) (hk : k < 100003) (HA : Ka w wr gl aA n cA l) (a : Act) (hf : Fr 128 a) (h1 : sl a 1 = .slice (some ⟨gl, 0, none⟩) 9 9) (h2 : sl a 2 = .int .i64 (k : Int)) (h3 : sl a 3 = .int .i64 (i : Int)) (h4 : sl a 4 = .int .i64 (m : Int)) (h5 : sl a 5 = .slice aA n cA) (h6 : sl a 6 = .int .i64 (n : Int)) :
    Code.wp Try.prog (cAt [1,1,1,0,1,2,2,1,0,2,1,2,2,1,0,2,1,0,1,2,2] KK) (Exit.then (fun a' w' => ∃ (k' : Nat) (gA cA' : Nat) (l' : List Ac), Fr 128 a' ∧ sl a' 1 = .slice (some ⟨gl, 0, none⟩) 9 9 ∧ sl a' 2 = .int .i64 (k' : Int) ∧ sl a' 3 = .int .i64 (i : Int) ∧ sl a' 4 = .int .i64 (m : Int) ∧ sl a' 5 = .slice (some ⟨gA, 0, none⟩) (n + 1) cA' ∧ sl a' 6 = .int .i64 ((n : Int) + 1) ∧ k' < 100003 ∧ Ka w w' gl (some ⟨gA, 0, none⟩) (n + 1) cA' l') Nope) a wr := by
  refine wp_sqR (x := cAt [1,1,1,0,1,2,2,1,0,2,1,2,2,1,0,2,1,0,1,2,2,0] KK) (y := cAt [1,1,1,0,1,2,2,1,0,2,1,2,2,1,0,2,1,0,1,2,2,1] KK) (by kernel_rfl) (k11 wr gl k i m n cA aA hn a hf h1 h2 h3 h4 h5 h6) ?_
  rintro a1 _ ⟨hf, h1, h2, h3, h4, h5, h6, rfl⟩
  refine wp_sqR (x := cAt [1,1,1,0,1,2,2,1,0,2,1,2,2,1,0,2,1,0,1,2,2,1,0] KK) (y := cAt [1,1,1,0,1,2,2,1,0,2,1,2,2,1,0,2,1,0,1,2,2,1,1] KK) (R := fun a' w' => ∃ (k' : Nat) (gA cA' : Nat) (l' : List Ac), Fr 128 a' ∧ sl a' 1 = .slice (some ⟨gl, 0, none⟩) 9 9 ∧ sl a' 2 = .int .i64 (k' : Int) ∧ sl a' 3 = .int .i64 (i : Int) ∧ sl a' 4 = .int .i64 (m : Int) ∧ sl a' 5 = .slice (some ⟨gA, 0, none⟩) (n + 1) cA' ∧ sl a' 6 = .int .i64 (n : Int) ∧ k' < 100003 ∧ Ka w w' gl (some ⟨gA, 0, none⟩) (n + 1) cA' l') (by kernel_rfl) ?_ ?_
  · refine wp_blockR (x := cAt [1,1,1,0,1,2,2,1,0,2,1,2,2,1,0,2,1,0,1,2,2,1,0,2] KK) (id := 5) (by kernel_rfl) ?_
    refine wp_sqR (x := cAt [1,1,1,0,1,2,2,1,0,2,1,2,2,1,0,2,1,0,1,2,2,1,0,2,0] KK) (y := cAt [1,1,1,0,1,2,2,1,0,2,1,2,2,1,0,2,1,0,1,2,2,1,0,2,1] KK) (by kernel_rfl) (k13 w wr gl k i m n cA aA l hn hk HA a1 hf h1 h2 h3 h4 h5 h6) ?_
    rintro a2 w2 ⟨gA, cA', l', hf, h1, h2, h3, h4, h5, h6, hA⟩
    refine wp_endR (k14 w2 gl k i m (n + 1) n cA' (some ⟨gA, 0, none⟩) hn hk a2 hf h1 h2 h3 h4 h5 h6) ?_
    rintro a3 _ ⟨k', hf, h1, h2, h3, h4, h5, h6, hk', rfl⟩
    exact ⟨k', gA, cA', l', hf, h1, h2, h3, h4, h5, h6, hk', hA⟩
  rintro a4 w4 ⟨k', gA, cA', l', hf, h1, h2, h3, h4, h5, h6, hk', hA⟩
  refine wp_endR (k12 w4 gl k' i m (n + 1) n cA' (some ⟨gA, 0, none⟩) hn a4 hf h1 h2 h3 h4 h5 h6) ?_
  rintro a5 _ ⟨hf, h1, h2, h3, h4, h5, h6, rfl⟩
  exact ⟨k', gA, cA', l', hf, h1, h2, h3, h4, h5, h6, hk', hA⟩

set_option maxRecDepth 100000 in
set_option maxHeartbeats 4000000 in
theorem actsLoop (w wr : World) (gl k i m : Nat) (hk : k < 100003) (HV : Kv w wr gl) (a : Act) (hf : Fr 128 a) (h1 : sl a 1 = .slice (some ⟨gl, 0, none⟩) 9 9) (h2 : sl a 2 = .int .i64 (k : Int)) (h3 : sl a 3 = .int .i64 (i : Int)) (h4 : sl a 4 = .int .i64 (m : Int)) (h5 : sl a 5 = .slice none 0 0) :
    Code.wp Try.prog (cAt [1,1,1,0,1,2,2,1,0,2,1,2,2,1,0,2,1,0] KK) (Exit.then (fun a' w' => ∃ (k n cA : Nat) (aA : Option Addr) (l : List Ac), Fr 128 a' ∧ sl a' 1 = .slice (some ⟨gl, 0, none⟩) 9 9 ∧ sl a' 2 = .int .i64 (k : Int) ∧ sl a' 3 = .int .i64 (i : Int) ∧ sl a' 4 = .int .i64 (m : Int) ∧ sl a' 5 = .slice aA n cA ∧ n ≤ 12 ∧ k < 100003 ∧ Ka w w' gl aA n cA l) Nope) a wr := by
  refine wp_sqR (x := cAt [1,1,1,0,1,2,2,1,0,2,1,2,2,1,0,2,1,0,0] KK) (y := cAt [1,1,1,0,1,2,2,1,0,2,1,2,2,1,0,2,1,0,1] KK) (by kernel_rfl) (k10 wr gl k i m 0 0 none a hf h1 h2 h3 h4 h5) ?_
  rintro a1 _ ⟨hf, h1, h2, h3, h4, h5, h6, rfl⟩
  refine wp_blockR (x := cAt [1,1,1,0,1,2,2,1,0,2,1,2,2,1,0,2,1,0,1,2] KK) (id := 4) (by kernel_rfl) ?_
  refine wp_loopR (x := cAt [1,1,1,0,1,2,2,1,0,2,1,2,2,1,0,2,1,0,1,2,2] KK) (by kernel_rfl) (fun a' w' => ∃ (k n cA : Nat) (aA : Option Addr) (l : List Ac), Fr 128 a' ∧ sl a' 1 = .slice (some ⟨gl, 0, none⟩) 9 9 ∧ sl a' 2 = .int .i64 (k : Int) ∧ sl a' 3 = .int .i64 (i : Int) ∧ sl a' 4 = .int .i64 (m : Int) ∧ sl a' 5 = .slice aA n cA ∧ sl a' 6 = .int .i64 (n : Int) ∧ n ≤ 12 ∧ k < 100003 ∧ Ka w w' gl aA n cA l) (fun a' _ => 12 - (intOf (sl a' 6)).toNat) ⟨k, 0, 0, none, [], hf, h1, h2, h3, h4, h5, h6, by decide, hk, HV, OwnG.nil _ _ _ _, fun _ h => by cases h⟩ ?_
  rintro a' w' ⟨k, n, cA, aA, l, hf, h1, h2, h3, h4, h5, h6, hn, hk, hA⟩
  by_cases hlt : n < 12
  · refine wp_endR (actsRound w w' gl k i m n cA aA l hlt hk hA a' hf h1 h2 h3 h4 h5 h6) ?_
    rintro b2 w2 ⟨k', gA, cA', l', hf', h1', h2', h3', h4', h5', h6', hk', hA'⟩
    refine ⟨⟨k', n + 1, cA', some ⟨gA, 0, none⟩, l', hf', h1', h2', h3', h4', h5', by rw [h6']; rfl, by omega, hk', hA'⟩, ?_⟩
    rw [h6, h6']
    simp only [intOf]
    omega
  · refine wp_endX (k11x w' gl k i m n cA aA hlt a' hf h1 h2 h3 h4 h5 h6) ?_
    rintro b2 w2 ⟨hf', h1', h2', h3', h4', h5', rfl⟩
    refine thru ?_
    exact ⟨k, n, cA, aA, l, hf', h1', h2', h3', h4', h5', hn, hk, hA⟩

set_option maxRecDepth 100000 in
set_option maxHeartbeats 4000000 in
theorem innerRound (w wr : World) (gl k i m : Nat) (hi : i < 9) (hm : m < 9) (hk : k < 100003) (HV : Kv w wr gl) (a : Act) (hf : Fr 128 a) (h1 : sl a 1 = .slice (some ⟨gl, 0, none⟩) 9 9) (h2 : sl a 2 = .int .i64 (k : Int)) (h3 : sl a 3 = .int .i64 (i : Int)) (h4 : sl a 4 = .int .i64 (m : Int)) :
    Code.wp Try.prog (cAt [1,1,1,0,1,2,2,1,0,2,1,2,2] KK) (Exit.then (fun a' w' => ∃ (k : Nat), Fr 128 a' ∧ sl a' 1 = .slice (some ⟨gl, 0, none⟩) 9 9 ∧ sl a' 2 = .int .i64 (k : Int) ∧ sl a' 3 = .int .i64 (i : Int) ∧ sl a' 4 = .int .i64 ((m : Int) + 1) ∧ k < 100003 ∧ Kv w w' gl) Nope) a wr := by
  refine wp_sqR (x := cAt [1,1,1,0,1,2,2,1,0,2,1,2,2,0] KK) (y := cAt [1,1,1,0,1,2,2,1,0,2,1,2,2,1] KK) (by kernel_rfl) (k7 wr gl k i m hm a hf h1 h2 h3 h4) ?_
  rintro a1 _ ⟨hf, h1, h2, h3, h4, rfl⟩
  refine wp_sqR (x := cAt [1,1,1,0,1,2,2,1,0,2,1,2,2,1,0] KK) (y := cAt [1,1,1,0,1,2,2,1,0,2,1,2,2,1,1] KK) (R := fun a' w' => ∃ (k : Nat), Fr 128 a' ∧ sl a' 1 = .slice (some ⟨gl, 0, none⟩) 9 9 ∧ sl a' 2 = .int .i64 (k : Int) ∧ sl a' 3 = .int .i64 (i : Int) ∧ sl a' 4 = .int .i64 (m : Int) ∧ k < 100003 ∧ Kv w w' gl) (by kernel_rfl) ?_ ?_
  · refine wp_blockR (x := cAt [1,1,1,0,1,2,2,1,0,2,1,2,2,1,0,2] KK) (id := 3) (by kernel_rfl) ?_
    refine wp_sqR (x := cAt [1,1,1,0,1,2,2,1,0,2,1,2,2,1,0,2,0] KK) (y := cAt [1,1,1,0,1,2,2,1,0,2,1,2,2,1,0,2,1] KK) (by kernel_rfl) (k9 wr gl k i m a1 hf h1 h2 h3 h4) ?_
    rintro a2 _ ⟨hf, h1, h2, h3, h4, h5, rfl⟩
    refine wp_sqR (x := cAt [1,1,1,0,1,2,2,1,0,2,1,2,2,1,0,2,1,0] KK) (y := cAt [1,1,1,0,1,2,2,1,0,2,1,2,2,1,0,2,1,1] KK) (by kernel_rfl) (actsLoop w wr gl k i m hk HV a2 hf h1 h2 h3 h4 h5) ?_
    rintro a3 w3 ⟨k, n, cA, aA, l, hf, h1, h2, h3, h4, h5, hn, hk, hA⟩
    refine wp_sqR (x := cAt [1,1,1,0,1,2,2,1,0,2,1,2,2,1,0,2,1,1,0] KK) (y := cAt [1,1,1,0,1,2,2,1,0,2,1,2,2,1,0,2,1,1,1] KK) (by kernel_rfl) (k15 w w3 gl k i m n cA aA l hi hm (by omega) hk hA a3 hf h1 h2 h3 h4 h5) ?_
    rintro a4 w4 ⟨hf, h1, h2, h3, h4, hV⟩
    refine wp_endR (k17 w w4 gl k i m hi hm hV a4 hf h1 h2 h3 h4) ?_
    rintro a5 w5 ⟨hf, h1, h2, h3, h4, hV⟩
    exact ⟨k, hf, h1, h2, h3, h4, hk, hV⟩
  rintro a6 w6 ⟨k, hf, h1, h2, h3, h4, hk, hV⟩
  refine wp_endR (k8 w6 gl k i m hm a6 hf h1 h2 h3 h4) ?_
  rintro a7 _ ⟨hf, h1, h2, h3, h4, rfl⟩
  exact ⟨k, hf, h1, h2, h3, h4, hk, hV⟩

set_option maxRecDepth 100000 in
set_option maxHeartbeats 4000000 in
theorem innerLoop (w wr : World) (gl k i : Nat) (hi : i < 9) (hk : k < 100003) (HV : Kv w wr gl) (a : Act) (hf : Fr 128 a) (h1 : sl a 1 = .slice (some ⟨gl, 0, none⟩) 9 9) (h2 : sl a 2 = .int .i64 (k : Int)) (h3 : sl a 3 = .int .i64 (i : Int)) :
    Code.wp Try.prog (cAt [1,1,1,0,1,2,2,1,0,2] KK) (Exit.then (fun a' w' => ∃ (k : Nat), Fr 128 a' ∧ sl a' 1 = .slice (some ⟨gl, 0, none⟩) 9 9 ∧ sl a' 2 = .int .i64 (k : Int) ∧ sl a' 3 = .int .i64 (i : Int) ∧ k < 100003 ∧ Kv w w' gl) Nope) a wr := by
  refine wp_sqR (x := cAt [1,1,1,0,1,2,2,1,0,2,0] KK) (y := cAt [1,1,1,0,1,2,2,1,0,2,1] KK) (by kernel_rfl) (k6 wr gl k i a hf h1 h2 h3) ?_
  rintro a1 _ ⟨hf, h1, h2, h3, h4, rfl⟩
  refine wp_blockR (x := cAt [1,1,1,0,1,2,2,1,0,2,1,2] KK) (id := 2) (by kernel_rfl) ?_
  refine wp_loopR (x := cAt [1,1,1,0,1,2,2,1,0,2,1,2,2] KK) (by kernel_rfl) (fun a' w' => ∃ (k m : Nat), Fr 128 a' ∧ sl a' 1 = .slice (some ⟨gl, 0, none⟩) 9 9 ∧ sl a' 2 = .int .i64 (k : Int) ∧ sl a' 3 = .int .i64 (i : Int) ∧ sl a' 4 = .int .i64 (m : Int) ∧ m ≤ 9 ∧ k < 100003 ∧ Kv w w' gl) (fun a' _ => 9 - (intOf (sl a' 4)).toNat) ⟨k, 0, hf, h1, h2, h3, h4, by decide, hk, HV⟩ ?_
  rintro a' w' ⟨k, m, hf, h1, h2, h3, h4, hm, hk, hV⟩
  by_cases hlt : m < 9
  · refine wp_endR (innerRound w w' gl k i m hi hlt hk hV a' hf h1 h2 h3 h4) ?_
    rintro b2 w2 ⟨k', hf', h1', h2', h3', h4', hk', hV'⟩
    refine ⟨⟨k', m + 1, hf', h1', h2', h3', by rw [h4']; rfl, by omega, hk', hV'⟩, ?_⟩
    rw [h4, h4']
    simp only [intOf]
    omega
  · refine wp_endX (k7x w' gl k i m hlt a' hf h1 h2 h3 h4) ?_
    rintro b2 w2 ⟨hf', h1', h2', h3', rfl⟩
    refine thru ?_
    exact ⟨k, hf', h1', h2', h3', hk, hV⟩

set_option maxRecDepth 100000 in
set_option maxHeartbeats 4000000 in
theorem outerRound (w wr : World) (gl k i : Nat) (hi : i < 9) (hk : k < 100003) (HV : Kv w wr gl) (a : Act) (hf : Fr 128 a) (h1 : sl a 1 = .slice (some ⟨gl, 0, none⟩) 9 9) (h2 : sl a 2 = .int .i64 (k : Int)) (h3 : sl a 3 = .int .i64 (i : Int)) :
    Code.wp Try.prog (cAt [1,1,1,0,1,2,2] KK) (Exit.then (fun a' w' => ∃ (k : Nat), Fr 128 a' ∧ sl a' 1 = .slice (some ⟨gl, 0, none⟩) 9 9 ∧ sl a' 2 = .int .i64 (k : Int) ∧ sl a' 3 = .int .i64 ((i : Int) + 1) ∧ k < 100003 ∧ Kv w w' gl) Nope) a wr := by
  refine wp_sqR (x := cAt [1,1,1,0,1,2,2,0] KK) (y := cAt [1,1,1,0,1,2,2,1] KK) (by kernel_rfl) (k4 wr gl k i hi a hf h1 h2 h3) ?_
  rintro a1 _ ⟨hf, h1, h2, h3, rfl⟩
  refine wp_sqR (x := cAt [1,1,1,0,1,2,2,1,0] KK) (y := cAt [1,1,1,0,1,2,2,1,1] KK) (R := fun a' w' => ∃ (k : Nat), Fr 128 a' ∧ sl a' 1 = .slice (some ⟨gl, 0, none⟩) 9 9 ∧ sl a' 2 = .int .i64 (k : Int) ∧ sl a' 3 = .int .i64 (i : Int) ∧ k < 100003 ∧ Kv w w' gl) (by kernel_rfl) ?_ ?_
  · refine wp_blockR (x := cAt [1,1,1,0,1,2,2,1,0,2] KK) (id := 1) (by kernel_rfl) ?_
    refine wp_endR (innerLoop w wr gl k i hi hk HV a1 hf h1 h2 h3) ?_
    rintro a2 w2 h
    exact h
  rintro a6 w6 ⟨k, hf, h1, h2, h3, hk, hV⟩
  refine wp_endR (k5 w6 gl k i hi a6 hf h1 h2 h3) ?_
  rintro a7 _ ⟨hf, h1, h2, h3, rfl⟩
  exact ⟨k, hf, h1, h2, h3, hk, hV⟩

set_option maxRecDepth 100000 in
set_option maxHeartbeats 4000000 in
theorem known10_any (w : World) : Calls Try.prog 7 #[] w (Yes w) := by
  refine calls_of_wp (c := KK) Try.func7 (by kernel_rfl) ?_
  have hf : Fr 128 { tmps := #[] ++ Array.replicate (Try.f7.ntmps - (#[] : Array Value).size) undef, defers := [] } := ⟨rfl, by rw [Try.ntmps7]; simp⟩
  refine wp_sqR (x := cAt [0] KK) (y := cAt [1] KK) (by kernel_rfl) (k0 w _ hf) ?_
  rintro a0 _ ⟨hf, rfl⟩
  refine wp_sqR (x := cAt [1,0] KK) (y := cAt [1,1] KK) (by kernel_rfl) (k1 w _ hf) ?_
  rintro a1 w1 ⟨gl, hf, h1, hV⟩
  refine wp_sqR (x := cAt [1,1,0] KK) (y := cAt [1,1,1] KK) (by kernel_rfl) (k2 w1 gl _ hf h1) ?_
  rintro a2 _ ⟨hf, h1, h2, rfl⟩
  refine wp_sqR (x := cAt [1,1,1,0] KK) (y := cAt [1,1,1,1] KK) (R := fun a' w' => Fr 128 a' ∧ Below w.heap.size w w') (by kernel_rfl) ?_ ?_
  · refine wp_sqR (x := cAt [1,1,1,0,0] KK) (y := cAt [1,1,1,0,1] KK) (by kernel_rfl) (k3 w1 gl 1 a2 hf h1 h2) ?_
    rintro a3 _ ⟨hf, h1, h2, h3, rfl⟩
    refine wp_blockR (x := cAt [1,1,1,0,1,2] KK) (id := 0) (by kernel_rfl) ?_
    refine wp_loopR (x := cAt [1,1,1,0,1,2,2] KK) (by kernel_rfl) (fun a' w' => ∃ (k i : Nat), Fr 128 a' ∧ sl a' 1 = .slice (some ⟨gl, 0, none⟩) 9 9 ∧ sl a' 2 = .int .i64 (k : Int) ∧ sl a' 3 = .int .i64 (i : Int) ∧ i ≤ 9 ∧ k < 100003 ∧ Kv w w' gl) (fun a' _ => 9 - (intOf (sl a' 3)).toNat) ⟨1, 0, hf, h1, h2, h3, by decide, by decide, hV⟩ ?_
    rintro a' w' ⟨k, i, hf, h1, h2, h3, hi, hk, hV⟩
    by_cases hlt : i < 9
    · refine wp_endR (outerRound w w' gl k i hlt hk hV a' hf h1 h2 h3) ?_
      rintro b2 w2 ⟨k', hf', h1', h2', h3', hk', hV'⟩
      refine ⟨⟨k', i + 1, hf', h1', h2', by rw [h3']; rfl, by omega, hk', hV'⟩, ?_⟩
      rw [h3, h3']
      simp only [intOf]
      omega
    · refine wp_endX (k4x w' gl k i hlt a' hf h1 h2 h3) ?_
      rintro b2 w2 ⟨hf', h1', h2', rfl⟩
      refine thru ?_
      exact ⟨hf', hV.below⟩
  rintro a5 w5 ⟨hf, hb⟩
  exact k19 w w5 hb a5 hf
end Go.Proofs.Ytngjlippfifkiaa

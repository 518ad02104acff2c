/-
  FifoKnown's walk, put together of its pieces. No conditions. (Made by gen_fikn.py.)
-/
import Derived.Test.YtjjidjemkddebaaFiKnA
namespace Go.Proofs.Ytjjidjemkddebaa
open Go.RowKit

set_option maxRecDepth 100000 in
set_option maxHeartbeats 4000000 in
theorem kn_acts (w wr : World) (i n c k t : Nat) (xa : Option Addr) (l : List Ac) (hn : n = t) (ht : t < 60) (hk : k < 100003) (HA : Ka w wr xa n c l) (a : Act) (hf : Fr 97 a) (h1 : sl a 1 = .int .i64 (i : Int)) (h2 : sl a 2 = .slice xa n c) (h3 : sl a 3 = .int .i64 (k : Int)) (h4 : sl a 4 = .int .i64 (t : Int)) :
    Code.wp Try.prog (cAt [1,0,1,2,2,1,0,2,1,1,0,1,2,2] KQ) (Exit.then (fun a' w' => ∃ (k' g c' : Nat) (l' : List Ac), Fr 97 a' ∧ sl a' 1 = .int .i64 (i : Int) ∧ sl a' 2 = .slice (some ⟨g, 0, none⟩) (t + 1) c' ∧ sl a' 3 = .int .i64 (k' : Int) ∧ sl a' 4 = .int .i64 ((t : Int) + 1) ∧ k' < 100003 ∧ Ka w w' (some ⟨g, 0, none⟩) (t + 1) c' l') Nope) a wr := by
  subst hn
  refine wp_sqR (x := cAt [1,0,1,2,2,1,0,2,1,1,0,1,2,2,0] KQ) (y := cAt [1,0,1,2,2,1,0,2,1,1,0,1,2,2,1] KQ) (by kernel_rfl) (k7 wr i n c k n xa ht a hf h1 h2 h3 h4) ?_
  rintro a1 _ ⟨hf, h1, h2, h3, h4, rfl⟩
  refine wp_sqR (x := cAt [1,0,1,2,2,1,0,2,1,1,0,1,2,2,1,0] KQ) (y := cAt [1,0,1,2,2,1,0,2,1,1,0,1,2,2,1,1] KQ) (R := fun a' w' => ∃ (k' g c' : Nat) (l' : List Ac), Fr 97 a' ∧ sl a' 1 = .int .i64 (i : Int) ∧ sl a' 2 = .slice (some ⟨g, 0, none⟩) (n + 1) c' ∧ sl a' 3 = .int .i64 (k' : Int) ∧ sl a' 4 = .int .i64 (n : Int) ∧ k' < 100003 ∧ Ka w w' (some ⟨g, 0, none⟩) (n + 1) c' l') (by kernel_rfl) ?_ ?_
  · refine wp_blockR (x := cAt [1,0,1,2,2,1,0,2,1,1,0,1,2,2,1,0,2] KQ) (id := 3) (by kernel_rfl) ?_
    refine wp_sqR (x := cAt [1,0,1,2,2,1,0,2,1,1,0,1,2,2,1,0,2,0] KQ) (y := cAt [1,0,1,2,2,1,0,2,1,1,0,1,2,2,1,0,2,1] KQ) (by kernel_rfl) (k9 w wr i n c k n xa l (by omega) hk HA a1 hf h1 h2 h3 h4) ?_
    rintro a2 w2 ⟨g, c', l', hf, h1, h2, h3, h4, hA⟩
    refine wp_endR (k10 w2 i (n + 1) c' k n (some ⟨g, 0, none⟩) ht hk a2 hf h1 h2 h3 h4) ?_
    rintro a3 _ ⟨k', hf, h1, h2, h3, h4, hk', rfl⟩
    exact ⟨k', g, c', l', hf, h1, h2, h3, h4, hk', hA⟩
  rintro a4 w4 ⟨k', g, c', l', hf, h1, h2, h3, h4, hk', hA⟩
  refine wp_endR (k8 w4 i (n + 1) c' k' n (some ⟨g, 0, none⟩) ht a4 hf h1 h2 h3 h4) ?_
  rintro a5 _ ⟨hf, h1, h2, h3, h4, rfl⟩
  exact ⟨k', g, c', l', hf, h1, h2, h3, h4, hk', hA⟩

set_option maxRecDepth 100000 in
set_option maxHeartbeats 4000000 in
theorem kn_row (w wr : World) (i : Nat) (hi : i < 50) (HB : Below w.heap.size w wr) (a : Act) (hf : Fr 97 a) (h1 : sl a 1 = .int .i64 (i : Int)) (h2 : sl a 2 = .slice none 0 0) (h3 : sl a 3 = .int .i64 (i : Int)) :
    Code.wp Try.prog (cAt [1,0,1,2,2,1,0,2,1,1,0] KQ) (Exit.then (fun a' w' => ∃ (g c : Nat) (l : List Ac), Fr 97 a' ∧ sl a' 1 = .int .i64 (i : Int) ∧ sl a' 2 = .slice (some ⟨g, 0, none⟩) 60 c ∧ Ka w w' (some ⟨g, 0, none⟩) 60 c l) Nope) a wr := by
  refine wp_sqR (x := cAt [1,0,1,2,2,1,0,2,1,1,0,0] KQ) (y := cAt [1,0,1,2,2,1,0,2,1,1,0,1] KQ) (by kernel_rfl) (k6 wr i a hf h1 h2 h3) ?_
  rintro a1 _ ⟨hf, h1, h2, h3, h4, rfl⟩
  refine wp_blockR (x := cAt [1,0,1,2,2,1,0,2,1,1,0,1,2] KQ) (id := 2) (by kernel_rfl) ?_
  refine wp_loopR (x := cAt [1,0,1,2,2,1,0,2,1,1,0,1,2,2] KQ) (by kernel_rfl) (fun a' w' => ∃ (k t c : Nat) (xa : Option Addr) (l : List Ac), Fr 97 a' ∧ sl a' 1 = .int .i64 (i : Int) ∧ sl a' 2 = .slice xa t c ∧ sl a' 3 = .int .i64 (k : Int) ∧ sl a' 4 = .int .i64 (t : Int) ∧ t ≤ 60 ∧ k < 100003 ∧ Ka w w' xa t c l) (fun a' _ => 60 - (intOf (sl a' 4)).toNat) ⟨i, 0, 0, none, [], hf, h1, h2, h3, h4, by decide, by omega, OwnG.nil _ _ _ _, (fun _ h => by cases h), HB⟩ ?_
  rintro a' w' ⟨k, t, c, xa, l, hf, h1, h2, h3, h4, ht, hk, hA⟩
  by_cases hlt : t < 60
  · refine wp_endR (kn_acts w w' i t c k t xa l rfl hlt hk hA a' hf h1 h2 h3 h4) ?_
    rintro b2 w2 ⟨k', g, c', l', hf', h1', h2', h3', h4', hk', hA'⟩
    refine ⟨⟨k', t + 1, c', some ⟨g, 0, none⟩, l', hf', h1', h2', h3', by rw [h4']; rfl, by omega, hk', hA'⟩, ?_⟩
    rw [h4, h4']
    simp only [intOf]
    omega
  · obtain rfl : t = 60 := by omega
    obtain ⟨g, rfl⟩ : ∃ g, xa = some ⟨g, 0, none⟩ := by
      rcases hA.own.cases with ⟨_, e, _⟩ | ⟨g, _, e, _⟩
      · cases e
      · exact ⟨g, e⟩
    refine wp_endX (k7x w' i 60 c k 60 _ hlt a' hf h1 h2 h3 h4) ?_
    rintro b2 w2 ⟨hf', h1', h2', rfl⟩
    refine thru ?_
    exact ⟨g, c, l, hf', h1', h2', hA⟩

set_option maxRecDepth 100000 in
set_option maxHeartbeats 4000000 in
theorem kn_round (w wr : World) (i : Nat) (hi : i < 50) (HB : Below w.heap.size w wr) (a : Act) (hf : Fr 97 a) (h1 : sl a 1 = .int .i64 (i : Int)) :
    Code.wp Try.prog (cAt [1,0,1,2,2] KQ) (Exit.then (fun a' w' => Fr 97 a' ∧ sl a' 1 = .int .i64 ((i : Int) + 1) ∧ Below w.heap.size w w') Nope) a wr := by
  refine wp_sqR (x := cAt [1,0,1,2,2,0] KQ) (y := cAt [1,0,1,2,2,1] KQ) (by kernel_rfl) (k2 wr i hi a hf h1) ?_
  rintro a1 _ ⟨hf, h1, rfl⟩
  refine wp_sqR (x := cAt [1,0,1,2,2,1,0] KQ) (y := cAt [1,0,1,2,2,1,1] KQ) (R := fun a' w' => Fr 97 a' ∧ sl a' 1 = .int .i64 (i : Int) ∧ Below w.heap.size w w') (by kernel_rfl) ?_ ?_
  · refine wp_blockR (x := cAt [1,0,1,2,2,1,0,2] KQ) (id := 1) (by kernel_rfl) ?_
    refine wp_sqR (x := cAt [1,0,1,2,2,1,0,2,0] KQ) (y := cAt [1,0,1,2,2,1,0,2,1] KQ) (by kernel_rfl) (k4 wr i a1 hf h1) ?_
    rintro a2 _ ⟨hf, h1, h2, rfl⟩
    refine wp_sqR (x := cAt [1,0,1,2,2,1,0,2,1,0] KQ) (y := cAt [1,0,1,2,2,1,0,2,1,1] KQ) (by kernel_rfl) (k5 wr i a2 hf h1 h2) ?_
    rintro a3 _ ⟨hf, h1, h2, h3, rfl⟩
    refine wp_sqR (x := cAt [1,0,1,2,2,1,0,2,1,1,0] KQ) (y := cAt [1,0,1,2,2,1,0,2,1,1,1] KQ) (by kernel_rfl) (kn_row w wr i hi HB a3 hf h1 h2 h3) ?_
    rintro a4 w4 ⟨g, c, l, hf, h1, h2, hA⟩
    refine wp_endR (k11 w w4 i g c l hi hA a4 hf h1 h2) ?_
    rintro a5 w5 ⟨hf, h1, hb⟩
    exact ⟨hf, h1, hb⟩
  rintro a6 w6 ⟨hf, h1, hb⟩
  refine wp_endR (k3 w6 i hi a6 hf h1) ?_
  rintro a7 _ ⟨hf, h1, rfl⟩
  exact ⟨hf, h1, hb⟩

set_option maxRecDepth 100000 in
set_option maxHeartbeats 4000000 in
theorem known11_any (w : World) : Calls Try.prog 6 #[] w (Yes w) := by
  refine calls_of_wp (c := KQ) Try.func6 (by kernel_rfl) ?_
  have hf : Fr 97 { tmps := #[] ++ Array.replicate (Try.f6.ntmps - (#[] : Array Value).size) undef, defers := [] } := ⟨rfl, by rw [Try.ntmps6]; simp⟩
  refine wp_sqR (x := cAt [0] KQ) (y := cAt [1] KQ) (by kernel_rfl) (k0 w _ hf) ?_
  rintro a0 _ ⟨hf, rfl⟩
  refine wp_sqR (x := cAt [1,0] KQ) (y := cAt [1,1] KQ) (R := fun a' w' => Fr 97 a' ∧ Below w.heap.size w w') (by kernel_rfl) ?_ ?_
  · refine wp_sqR (x := cAt [1,0,0] KQ) (y := cAt [1,0,1] KQ) (by kernel_rfl) (k1 w a0 hf) ?_
    rintro a1 _ ⟨hf, h1, rfl⟩
    refine wp_blockR (x := cAt [1,0,1,2] KQ) (id := 0) (by kernel_rfl) ?_
    refine wp_loopR (x := cAt [1,0,1,2,2] KQ) (by kernel_rfl) (fun a' w' => ∃ i : Nat, i ≤ 50 ∧ Fr 97 a' ∧ sl a' 1 = .int .i64 (i : Int) ∧ Below w.heap.size w w') (fun a' _ => 50 - (intOf (sl a' 1)).toNat) ⟨0, by decide, hf, h1, Below.refl _ _⟩ ?_
    rintro a' w' ⟨i, hi, hf, h1, hb⟩
    by_cases hlt : i < 50
    · refine wp_endR (kn_round w w' i hlt hb a' hf h1) ?_
      rintro b2 w2 ⟨hf', h1', hb'⟩
      refine ⟨⟨i + 1, by omega, hf', by rw [h1']; rfl, hb'⟩, ?_⟩
      rw [h1, h1']
      simp only [intOf]
      omega
    · refine wp_endX (k2x w' i hlt a' hf h1) ?_
      rintro b2 w2 ⟨hf', rfl⟩
      refine thru ?_
      exact ⟨hf', hb⟩
  rintro a2 w2 ⟨hf, hb⟩
  refine wp_sqR (x := cAt [1,1,0] KQ) (y := cAt [1,1,1] KQ) (by kernel_rfl) (k13 w2 a2 hf) ?_
  rintro a3 w3 ⟨g, hf, h5, hb3, hg⟩
  exact k14 w w3 g (hb.trans (hb3.mono hb.size)) hg a3 hf h5
end Go.Proofs.Ytjjidjemkddebaa

/-
  BucketPlays' walk, put together of its pieces. Conditions: a row of acts whose numbers fit their Go types. (Made by gen_bkplays.py.)
-/
import Derived.Test.YtngjlippfifkiaaBkPlaysA
namespace Go.Proofs.Ytngjlippfifkiaa
open Go.RowKit

set_option maxRecDepth 100000 in
set_option maxHeartbeats 4000000 in
theorem round10 (w wr : World) (g gR g1 gS : Nat) (xa : Option Addr) (n c k : Nat) (l : List Ac) (b b0 : Bu) (hlt : k < n) (hn : n ≤ 60) (HL : Acr w xa n l) (HW : Pw w wr g gR g1 gS b b b0) (a : Act) (hf : Fr 108 a) (h3 : sl a 3 = .slice xa n c) (h9 : sl a 9 = .pointer (some ⟨g, 0, none⟩)) (h10 : sl a 10 = .pointer (some ⟨gR, 0, none⟩)) (h11 : sl a 11 = .pointer (some ⟨g1, 0, none⟩)) (h12 : sl a 12 = .pointer (some ⟨gS, 0, none⟩)) (h13 : sl a 13 = .int .i64 (k : Int)) :
    Code.wp Try.prog (cAt [1,1,1,1,1,0,1,2,2] KP) (Exit.then (fun a' w' => ∃ b' : Bu, Fr 108 a' ∧ sl a' 3 = .slice xa n c ∧ sl a' 9 = .pointer (some ⟨g, 0, none⟩) ∧ sl a' 10 = .pointer (some ⟨gR, 0, none⟩) ∧ sl a' 11 = .pointer (some ⟨g1, 0, none⟩) ∧ sl a' 12 = .pointer (some ⟨gS, 0, none⟩) ∧ sl a' 13 = .int .i64 ((k : Int) + 1) ∧ Pw w w' g gR g1 gS b' b' b0) Nope) a wr := by
  obtain ⟨x, xb, xo, hx, hok, rfl, hrg⟩ := HL.nth hlt
  have hrg2 := range_kept HW.below hrg
  have hxg : ¬ xb = g := by have h1 := World.block_lt_of_cell? w _ (Ac.r0 hrg); have h2 := HW.og; show ¬ xb = g; simp at h1; omega
  refine wp_sqR (x := cAt [1,1,1,1,1,0,1,2,2,0] KP) (y := cAt [1,1,1,1,1,0,1,2,2,1] KP) (by kernel_rfl) (p8 wr g gR g1 gS _ n c k hlt a hf h3 h9 h10 h11 h12 h13) ?_
  rintro a1 _ ⟨hf, h3, h9, h10, h11, h12, h13, rfl⟩
  refine wp_sqR (x := cAt [1,1,1,1,1,0,1,2,2,1,0] KP) (y := cAt [1,1,1,1,1,0,1,2,2,1,1] KP) (R := fun a' w' => ∃ b' : Bu, Fr 108 a' ∧ sl a' 3 = .slice (some ⟨xb, xo, none⟩) n c ∧ sl a' 9 = .pointer (some ⟨g, 0, none⟩) ∧ sl a' 10 = .pointer (some ⟨gR, 0, none⟩) ∧ sl a' 11 = .pointer (some ⟨g1, 0, none⟩) ∧ sl a' 12 = .pointer (some ⟨gS, 0, none⟩) ∧ sl a' 13 = .int .i64 (k : Int) ∧ Pw w w' g gR g1 gS b' b' b0) (by kernel_rfl) ?_ ?_
  · refine wp_blockR (x := cAt [1,1,1,1,1,0,1,2,2,1,0,2] KP) (id := 1) (by kernel_rfl) ?_
    refine wp_sqR (x := cAt [1,1,1,1,1,0,1,2,2,1,0,2,0] KP) (y := cAt [1,1,1,1,1,0,1,2,2,1,0,2,1] KP) (by kernel_rfl) (p10 w wr g gR g1 gS xb xo n c k b b0 x hlt HW hrg2 hxg hok a1 hf h3 h9 h10 h11 h12 h13) ?_
    rintro a2 w2 ⟨gs, hf, h3, h9, h10, h11, h12, h13, h14, h15, hw2, hs2, _⟩
    refine wp_sqR (x := cAt [1,1,1,1,1,0,1,2,2,1,0,2,1,0] KP) (y := cAt [1,1,1,1,1,0,1,2,2,1,0,2,1,1] KP) (by kernel_rfl) (p11 w w2 g gR g1 gS gs xb xo n c k b (b.act x) b0 hw2 hs2 a2 hf h3 h9 h10 h11 h12 h13 h14 h15) ?_
    rintro a3 w3 ⟨hf, h3, h9, h10, h11, h12, h13, h15, hw3⟩
    refine wp_sqR (x := cAt [1,1,1,1,1,0,1,2,2,1,0,2,1,1,0] KP) (y := cAt [1,1,1,1,1,0,1,2,2,1,0,2,1,1,1] KP) (by kernel_rfl) (p12 w w3 g gR g1 gS xb xo n c k (b.act x) b0 hw3 a3 hf h3 h9 h10 h11 h12 h13 h15) ?_
    rintro a4 w4 ⟨gc, hf, h3, h9, h10, h11, h12, h13, h15, h16, hw4⟩
    refine wp_sqR (x := cAt [1,1,1,1,1,0,1,2,2,1,0,2,1,1,1,0] KP) (y := cAt [1,1,1,1,1,0,1,2,2,1,0,2,1,1,1,1] KP) (by kernel_rfl) (p13 w w4 g gR g1 gS gc xb xo n c k (b.act x) b0 hw4 a4 hf h3 h9 h10 h11 h12 h13 h15 h16) ?_
    rintro a5 w5 ⟨hf, h3, h9, h10, h11, h12, h13, h16, hw5⟩
    refine wp_endR (p15 w w5 g gR g1 gS gc xb xo n c k (b.act x) b0 hw5 a5 hf h3 h9 h10 h11 h12 h13 h16) ?_
    rintro a6 w6 ⟨hf, h3, h9, h10, h11, h12, h13, hw6⟩
    exact ⟨_, hf, h3, h9, h10, h11, h12, h13, hw6⟩
  rintro a7 w7 ⟨b', hf, h3, h9, h10, h11, h12, h13, hw7⟩
  refine wp_endR (p9 w7 g gR g1 gS xb xo n c k (by omega) a7 hf h3 h9 h10 h11 h12 h13) ?_
  rintro a8 _ ⟨hf, h3, h9, h10, h11, h12, h13, rfl⟩
  exact ⟨b', hf, h3, h9, h10, h11, h12, h13, hw7⟩

theorem sl_arg (xs : Array Value) (m i : Nat) (v : Value) (h : xs[i]? = some v) : sl ⟨xs ++ Array.replicate m undef, []⟩ i = v := by
  have hi := (Array.getElem?_eq_some_iff.1 h).1
  simp [sl, Array.getElem?_append, hi]
  exact (Array.getElem?_eq_some_iff.1 h).2
set_option maxRecDepth 100000 in
set_option maxHeartbeats 4000000 in
theorem plays_any (r B T : Int) (xa : Option Addr) (n c : Nat) (l : List Ac) (w : World) (r0 : 0 ≤ r) (r1 : r ≤ 18446744073709551615) (B0 : 0 ≤ B) (B1 : B ≤ 18446744073709551615) (T0 : 0 ≤ T) (T1 : T ≤ 18446744073709551615) (hl : Acr w xa n l) (hm : n ≤ 9223372036854775807) :
    Calls Try.prog 3 #[.int .u64 r, .int .u64 B, .int .u64 T, .slice xa n c] w (Yes w) := by
  by_cases hn : 60 < n
  · clear hl
    go_enter Try.func3, Try.ntmps3
    go_wp2_with fail
    refine (works10_any _).mono ?_
    rintro e w1 ⟨rfl, hb⟩
    have HB := Lib.hid hb
    clear hb
    go_wp2_with fail
    go_ret
    exact ⟨rfl, HB.out⟩
  refine calls_of_wp (c := KP) Try.func3 (by kernel_rfl) ?_
  have hf : Fr 108 { tmps := #[.int .u64 r, .int .u64 B, .int .u64 T, .slice xa n c] ++ Array.replicate (Try.f3.ntmps - (#[.int .u64 r, .int .u64 B, .int .u64 T, .slice xa n c] : Array Value).size) undef, defers := [] } := ⟨rfl, by rw [Try.ntmps3]; simp⟩
  refine wp_sqR (x := cAt [0] KP) (y := cAt [1] KP) (by kernel_rfl) (p0 w r B T xa n c _ hf (sl_arg _ _ 0 _ rfl) (sl_arg _ _ 1 _ rfl) (sl_arg _ _ 2 _ rfl) (sl_arg _ _ 3 _ rfl)) ?_
  rintro a0 _ ⟨hf, h0, h1, h2, h3, rfl⟩
  refine wp_sqR (x := cAt [1,0] KP) (y := cAt [1,1] KP) (by kernel_rfl) (p1 w r B T xa n c hn _ hf h0 h1 h2 h3) ?_
  rintro a1 _ ⟨hf, h0, h1, h2, h3, rfl⟩
  refine wp_sqR (x := cAt [1,1,0] KP) (y := cAt [1,1,1] KP) (by kernel_rfl) (p3 w r B T xa n c ⟨r0, r1, B1, T0, T1, B0, Int.le_refl _⟩ _ hf h0 h1 h2 h3) ?_
  rintro a2 w2 ⟨g, gR, hf, h3, h9, h10, hb2, hr2, hl2, hg2, hR2⟩
  refine wp_sqR (x := cAt [1,1,1,0] KP) (y := cAt [1,1,1,1] KP) (by kernel_rfl) (p4 w2 g gR xa n c _ hf h3 h9 h10) ?_
  rintro a3 _ ⟨hf, h3, h9, h10, rfl⟩
  refine wp_sqR (x := cAt [1,1,1,1,0] KP) (y := cAt [1,1,1,1,1] KP) (by kernel_rfl) (p6 w w2 g gR xa n c _ ⟨hb2, hr2, hl2, hg2, hR2⟩ _ hf h3 h9 h10) ?_
  rintro a4 w4 ⟨g1, gS, hf, h3, h9, h10, h11, h12, hw4⟩
  refine wp_sqR (R := fun a' w' => ∃ b' : Bu, Fr 108 a' ∧ sl a' 3 = .slice xa n c ∧ sl a' 9 = .pointer (some ⟨g, 0, none⟩) ∧ sl a' 10 = .pointer (some ⟨gR, 0, none⟩) ∧ sl a' 11 = .pointer (some ⟨g1, 0, none⟩) ∧ sl a' 12 = .pointer (some ⟨gS, 0, none⟩) ∧ Pw w w' g gR g1 gS b' b' ⟨r, B, T, B⟩) (x := cAt [1,1,1,1,1,0] KP) (y := cAt [1,1,1,1,1,1] KP) (by kernel_rfl) ?_ ?_
  · refine wp_sqR (x := cAt [1,1,1,1,1,0,0] KP) (y := cAt [1,1,1,1,1,0,1] KP) (by kernel_rfl) (p7 w4 g gR g1 gS xa n c a4 hf h3 h9 h10 h11 h12) ?_
    rintro a5 _ ⟨hf, h3, h9, h10, h11, h12, h13, rfl⟩
    refine wp_blockR (x := cAt [1,1,1,1,1,0,1,2] KP) (id := 0) (by kernel_rfl) ?_
    refine wp_loopR (x := cAt [1,1,1,1,1,0,1,2,2] KP) (by kernel_rfl) (fun a' w' => ∃ (k : Nat) (b' : Bu), k ≤ n ∧ Fr 108 a' ∧ sl a' 3 = .slice xa n c ∧ sl a' 9 = .pointer (some ⟨g, 0, none⟩) ∧ sl a' 10 = .pointer (some ⟨gR, 0, none⟩) ∧ sl a' 11 = .pointer (some ⟨g1, 0, none⟩) ∧ sl a' 12 = .pointer (some ⟨gS, 0, none⟩) ∧ sl a' 13 = .int .i64 (k : Int) ∧ Pw w w' g gR g1 gS b' b' ⟨r, B, T, B⟩) (fun a' _ => n - (intOf (sl a' 13)).toNat) ⟨0, _, Nat.zero_le _, hf, h3, h9, h10, h11, h12, h13, hw4⟩ ?_
    rintro a' w' ⟨k, b', hk, hf, h3, h9, h10, h11, h12, h13, hw⟩
    by_cases hlt : k < n
    · refine wp_endR (round10 w w' g gR g1 gS xa n c k l b' _ hlt (by omega) hl hw a' hf h3 h9 h10 h11 h12 h13) ?_
      rintro b2 w2 ⟨b'', hf', h3', h9', h10', h11', h12', h13', hw'⟩
      refine ⟨⟨k + 1, b'', by omega, hf', h3', h9', h10', h11', h12', by rw [h13']; rfl, hw'⟩, ?_⟩
      rw [h13, h13']
      simp only [intOf]
      omega
    · refine wp_endX (p8x w' g gR g1 gS xa n c k hlt a' hf h3 h9 h10 h11 h12 h13) ?_
      rintro b2 w2 ⟨hf', h3', h9', h10', h11', h12', rfl⟩
      refine thru ?_
      exact ⟨b', hf', h3', h9', h10', h11', h12', hw⟩
  rintro a5 w5 ⟨b', hf, h3, h9, h10, h11, h12, hw5⟩
  exact p17 w w5 g gR g1 gS xa n c b' _ hw5 a5 hf h3 h9 h10 h11 h12
end Go.Proofs.Ytngjlippfifkiaa

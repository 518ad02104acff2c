/-
  TransKnown, walked: the statement's function, which takes nothing, answers true. No conditions.
-/
import Derived.Test.YtabdejoakecioaaTrKnC
namespace Go.Proofs.Ytabdejoakecioaa
open Go.ChangeShapes Go.WideShapes Go.ChangeAt Go.RowKit

theorem t50 (w0 wj : World) (k g1 c1 : Nat) (bs : List Int) (r5 r6 : Row) (hk : k < 12) (a2 a3 : Option Addr) (b7 j : Nat) (s : Sg) (rb : Row) (HG : Hid (GX w0 g1 k c1 bs r5 r6 b7 s rb wj)) (hj : j ≤ rb.n) (a : Act) (hf : Fr 235 a) (h1 : sl a 1 = .slice (some ⟨g1, 0, none⟩) (k + 1) c1) (h2 : sl a 2 = .slice a2 4 4) (h3 : sl a 3 = .slice a3 16 16) (h4 : sl a 4 = .int .i64 (k : Int)) (h5 : sl a 5 = .slice r5.a r5.n r5.c) (h6 : sl a 6 = .slice r6.a r6.n r6.c) (h7 : sl a 7 = .pointer (some ⟨b7, 0, none⟩)) (h9 : sl a 9 = .slice rb.a rb.n rb.c) (h11 : sl a 11 = .int .i64 (j : Int)) :
    Code.wp Try.prog (cAt [1,1,1,0,1,2,2,1,0,2,1,1,1,1,1,1,1,1,1,1,2,2] KC) (Exit.then (fun a' w' => Fr 235 a' ∧ sl a' 1 = .slice (some ⟨g1, 0, none⟩) (k + 1) c1 ∧ sl a' 2 = .slice a2 4 4 ∧ sl a' 3 = .slice a3 16 16 ∧ sl a' 4 = .int .i64 (k : Int) ∧ sl a' 5 = .slice r5.a r5.n r5.c ∧ sl a' 6 = .slice r6.a r6.n r6.c ∧ sl a' 7 = .pointer (some ⟨b7, 0, none⟩) ∧ sl a' 9 = .slice rb.a rb.n rb.c ∧ sl a' 11 = .int .i64 ((j : Int) + 1) ∧ GX w0 g1 k c1 bs r5 r6 b7 s rb w') Nope) a wj := by
  refine wp_sqR (x := cAt [1,1,1,0,1,2,2,1,0,2,1,1,1,1,1,1,1,1,1,1,2,2,0] KC) (y := cAt [1,1,1,0,1,2,2,1,0,2,1,1,1,1,1,1,1,1,1,1,2,2,1] KC) (by kernel_rfl) (t37 wj k g1 c1 b7 j r5 r6 rb a2 a3 hj hk a hf h1 h2 h3 h4 h5 h6 h7 h9 h11) ?_
  rintro a' _ ⟨hf, h1, h2, h3, h4, h5, h6, h7, h9, h11, rfl⟩
  refine wp_sqR (R := fun a' w' => Fr 235 a' ∧ sl a' 1 = .slice (some ⟨g1, 0, none⟩) (k + 1) c1 ∧ sl a' 2 = .slice a2 4 4 ∧ sl a' 3 = .slice a3 16 16 ∧ sl a' 4 = .int .i64 (k : Int) ∧ sl a' 5 = .slice r5.a r5.n r5.c ∧ sl a' 6 = .slice r6.a r6.n r6.c ∧ sl a' 7 = .pointer (some ⟨b7, 0, none⟩) ∧ sl a' 9 = .slice rb.a rb.n rb.c ∧ sl a' 11 = .int .i64 (j : Int) ∧ GX w0 g1 k c1 bs r5 r6 b7 s rb w') (x := cAt [1,1,1,0,1,2,2,1,0,2,1,1,1,1,1,1,1,1,1,1,2,2,1,0] KC) (y := cAt [1,1,1,0,1,2,2,1,0,2,1,1,1,1,1,1,1,1,1,1,2,2,1,1] KC) (by kernel_rfl) ?_ ?_
  · refine wp_blockR (x := cAt [1,1,1,0,1,2,2,1,0,2,1,1,1,1,1,1,1,1,1,1,2,2,1,0,2] KC) (id := 5) (by kernel_rfl) ?_
    refine wp_sqR (x := cAt [1,1,1,0,1,2,2,1,0,2,1,1,1,1,1,1,1,1,1,1,2,2,1,0,2,0] KC) (y := cAt [1,1,1,0,1,2,2,1,0,2,1,1,1,1,1,1,1,1,1,1,2,2,1,0,2,1] KC) (by kernel_rfl) (t39 w0 wj k g1 c1 bs r5 r6 a2 a3 b7 j s rb HG a' hf h1 h2 h3 h4 h5 h6 h7 h9 h11) ?_
    rintro a9 w9 ⟨a12, n12, c12, x12, hf, h1, h2, h3, h4, h5, h6, h7, h9, h11, h12, hy⟩
    refine wp_sqR (R := fun a' w' => ∃ y12 : List Int, Fr 235 a' ∧ sl a' 1 = .slice (some ⟨g1, 0, none⟩) (k + 1) c1 ∧ sl a' 2 = .slice a2 4 4 ∧ sl a' 3 = .slice a3 16 16 ∧ sl a' 4 = .int .i64 (k : Int) ∧ sl a' 5 = .slice r5.a r5.n r5.c ∧ sl a' 6 = .slice r6.a r6.n r6.c ∧ sl a' 7 = .pointer (some ⟨b7, 0, none⟩) ∧ sl a' 9 = .slice rb.a rb.n rb.c ∧ sl a' 11 = .int .i64 (j : Int) ∧ sl a' 12 = .slice a12 n12 c12 ∧ YX wj a12 n12 c12 y12 rb.n w') (x := cAt [1,1,1,0,1,2,2,1,0,2,1,1,1,1,1,1,1,1,1,1,2,2,1,0,2,1,0] KC) (y := cAt [1,1,1,0,1,2,2,1,0,2,1,1,1,1,1,1,1,1,1,1,2,2,1,0,2,1,1] KC) (by kernel_rfl) ?_ ?_
    · rcases Nat.lt_or_ge j rb.n with hl | hl
      · exact t40 wj w9 k g1 c1 r5 r6 a2 a3 b7 j rb a12 n12 c12 x12 hy hl a9 hf h1 h2 h3 h4 h5 h6 h7 h9 h11 h12
      · refine wp_endR (t40n w9 k g1 c1 r5 r6 a2 a3 b7 j rb a12 n12 c12 hl a9 hf h1 h2 h3 h4 h5 h6 h7 h9 h11 h12) ?_
        rintro a' _ ⟨hf, h1, h2, h3, h4, h5, h6, h7, h9, h11, h12, rfl⟩
        exact ⟨x12, hf, h1, h2, h3, h4, h5, h6, h7, h9, h11, h12, hy⟩
    rintro a10 w10 ⟨y12, hf, h1, h2, h3, h4, h5, h6, h7, h9, h11, h12, hy⟩
    refine wp_sqR (x := cAt [1,1,1,0,1,2,2,1,0,2,1,1,1,1,1,1,1,1,1,1,2,2,1,0,2,1,1,0] KC) (y := cAt [1,1,1,0,1,2,2,1,0,2,1,1,1,1,1,1,1,1,1,1,2,2,1,0,2,1,1,1] KC) (by kernel_rfl) (t42 w0 wj w10 k g1 c1 bs r5 r6 a2 a3 b7 j s rb hj HG a12 n12 c12 y12 hy (GX.next HG hy.below) a10 hf h1 h2 h3 h4 h5 h6 h7 h9 h11 h12) ?_
    rintro a11 w11 ⟨hf, h1, h2, h3, h4, h5, h6, h7, h9, h11, h213, hg⟩
    refine wp_endR (t43 w11 k g1 c1 b7 j r5 r6 rb a2 a3 a11 hf h1 h2 h3 h4 h5 h6 h7 h9 h11 h213) ?_
    rintro a' _ ⟨hf, h1, h2, h3, h4, h5, h6, h7, h9, h11, rfl⟩
    exact ⟨hf, h1, h2, h3, h4, h5, h6, h7, h9, h11, hg⟩
  rintro a12 w12 ⟨hf, h1, h2, h3, h4, h5, h6, h7, h9, h11, hg⟩
  refine wp_endR (t38 w12 k g1 c1 b7 j r5 r6 rb a2 a3 (by have := hg.ln; omega) a12 hf h1 h2 h3 h4 h5 h6 h7 h9 h11) ?_
  rintro a' _ ⟨hf, h1, h2, h3, h4, h5, h6, h7, h9, h11, rfl⟩
  exact ⟨hf, h1, h2, h3, h4, h5, h6, h7, h9, h11, hg⟩

theorem t51 (w0 wx : World) (k g1 c1 : Nat) (bs : List Int) (r5 r6 : Row) (a2 a3 : Option Addr) (b7 : Nat) (s : Sg) (rb : Row) (HG : GX w0 g1 k c1 bs r5 r6 b7 s rb wx) (a : Act) (hf : Fr 235 a) (h1 : sl a 1 = .slice (some ⟨g1, 0, none⟩) (k + 1) c1) (h2 : sl a 2 = .slice a2 4 4) (h3 : sl a 3 = .slice a3 16 16) (h4 : sl a 4 = .int .i64 (k : Int)) (h5 : sl a 5 = .slice r5.a r5.n r5.c) (h6 : sl a 6 = .slice r6.a r6.n r6.c) (h7 : sl a 7 = .pointer (some ⟨b7, 0, none⟩)) (h9 : sl a 9 = .slice rb.a rb.n rb.c) (h11 : sl a 11 = .int .i64 0) :
    Code.wp Try.prog (cAt [1,1,1,0,1,2,2,1,0,2,1,1,1,1,1,1,1,1,1,1] KC) (Exit.then (fun a' w' => Fr 235 a' ∧ sl a' 1 = .slice (some ⟨g1, 0, none⟩) (k + 1) c1 ∧ sl a' 2 = .slice a2 4 4 ∧ sl a' 3 = .slice a3 16 16 ∧ sl a' 4 = .int .i64 (k : Int) ∧ Kn w0 w' (some ⟨g1, 0, none⟩) (k + 1) c1 bs) Nope) a wx := by
  refine wp_blockR (x := cAt [1,1,1,0,1,2,2,1,0,2,1,1,1,1,1,1,1,1,1,1,2] KC) (id := 4) (by kernel_rfl) ?_
  refine wp_loopR (x := cAt [1,1,1,0,1,2,2,1,0,2,1,1,1,1,1,1,1,1,1,1,2,2] KC) (by kernel_rfl) (fun a' w' => ∃ j : Nat, j ≤ rb.n + 1 ∧ Fr 235 a' ∧ sl a' 1 = .slice (some ⟨g1, 0, none⟩) (k + 1) c1 ∧ sl a' 2 = .slice a2 4 4 ∧ sl a' 3 = .slice a3 16 16 ∧ sl a' 4 = .int .i64 (k : Int) ∧ sl a' 5 = .slice r5.a r5.n r5.c ∧ sl a' 6 = .slice r6.a r6.n r6.c ∧ sl a' 7 = .pointer (some ⟨b7, 0, none⟩) ∧ sl a' 9 = .slice rb.a rb.n rb.c ∧ sl a' 11 = .int .i64 (j : Int) ∧ GX w0 g1 k c1 bs r5 r6 b7 s rb w') (fun a' _ => rb.n + 1 - (intOf (sl a' 11)).toNat) ⟨0, Nat.zero_le _, hf, h1, h2, h3, h4, h5, h6, h7, h9, h11, HG⟩ ?_
  rintro a' w' ⟨j, hj, hf, h1, h2, h3, h4, h5, h6, h7, h9, h11, HG⟩
  by_cases hl : j ≤ rb.n
  · by_cases hk : k < 12
    · refine wp_endR (t50 w0 w' k g1 c1 bs r5 r6 hk a2 a3 b7 j s rb HG hl a' hf h1 h2 h3 h4 h5 h6 h7 h9 h11) ?_
      rintro b2 w2 ⟨hf', h1', h2', h3', h4', h5', h6', h7', h9', h11', hg⟩
      refine ⟨⟨j + 1, by omega, hf', h1', h2', h3', h4', h5', h6', h7', h9', by rw [h11']; rfl, hg⟩, ?_⟩
      rw [h11, h11']
      simp only [intOf]
      omega
    · refine wp_endX (t37y w' k g1 c1 b7 j r5 r6 rb a2 a3 hl (by omega) a' hf h1 h2 h3 h4 h5 h6 h7 h9 h11) ?_
      rintro b2 w2 ⟨hf', h1', h2', h3', h4', rfl⟩
      refine thru ?_
      exact ⟨hf', h1', h2', h3', h4', HG.rw.d⟩
  · refine wp_endX (t37x w' k g1 c1 b7 j r5 r6 rb a2 a3 (by omega) a' hf h1 h2 h3 h4 h5 h6 h7 h9 h11) ?_
    rintro b2 w2 ⟨hf', h1', h2', h3', h4', rfl⟩
    refine thru ?_
    exact ⟨hf', h1', h2', h3', h4', HG.rw.d⟩

set_option maxRecDepth 100000 in
set_option maxHeartbeats 4000000 in
theorem t5 (wx : World) (k g1 c1 : Nat) (hlt : k < 48) (a2 a3 : Option Addr) (a : Act) (hf : Fr 235 a) (h1 : sl a 1 = .slice (some ⟨g1, 0, none⟩) (k + 1) c1) (h2 : sl a 2 = .slice a2 4 4) (h3 : sl a 3 = .slice a3 16 16) (h4 : sl a 4 = .int .i64 (k : Int)) :
    Code.wp Try.prog (cAt [1,1,1,0,1,2,2,1,1] KC) (Exit.then (fun a' w' => Fr 235 a' ∧ sl a' 1 = .slice (some ⟨g1, 0, none⟩) (k + 1) c1 ∧ sl a' 2 = .slice a2 4 4 ∧ sl a' 3 = .slice a3 16 16 ∧ sl a' 4 = .int .i64 ((k : Int) + 1) ∧ wx = w') Nope) a wx := by
  obtain ⟨f, ha, hs⟩ := fr235 hf
  have e1 := (hs 1).trans h1
  have e2 := (hs 2).trans h2
  have e3 := (hs 3).trans h3
  have e4 := (hs 4).trans h4
  rw [e1, e2, e3, e4] at ha
  clear hs hf e1 h1 e2 h2 e3 h3 e4 h4
  subst ha
  refine piece2 fun J0 K0 hJ0 hK0 => ?_
  conv => arg 2; whnf
  go_wp2_with fail
  refine Met.intro (hJ0 _ _ ?_)
  exact ⟨⟨rfl, rfl⟩, rfl, rfl, rfl, rfl, rfl⟩

set_option maxRecDepth 100000 in
set_option maxHeartbeats 4000000 in
theorem t4x (wx : World) (a2 a3 : Option Addr) (a : Act) (hf : Fr 235 a) (h2 : sl a 2 = .slice a2 4 4) (h3 : sl a 3 = .slice a3 16 16) (h4 : sl a 4 = .int .i64 48) :
    Code.wp Try.prog (cAt [1,1,1,0,1,2,2] KC) (Outs 0 (fun a' w' => Fr 235 a' ∧ sl a' 2 = .slice a2 4 4 ∧ sl a' 3 = .slice a3 16 16 ∧ wx = w')) a wx := by
  obtain ⟨f, ha, hs⟩ := fr235 hf
  have e2 := (hs 2).trans h2
  have e3 := (hs 3).trans h3
  have e4 := (hs 4).trans h4
  rw [e2, e3, e4] at ha
  clear hs hf e2 h2 e3 h3 e4 h4
  subst ha
  conv => arg 2; whnf
  go_wp2_with fail
  exact ⟨rfl, ⟨rfl, rfl⟩, rfl, rfl, rfl⟩

theorem t52 (w0 : World) (a2 a3 : Option Addr) (x2 x3 : List Int) (HC : Hid (Row.ok w0 ⟨a2, 4, 4, x2⟩ ∧ Row.ok w0 ⟨a3, 16, 16, x3⟩)) (wr : World) (k c : Nat) (a0 : Option Addr) (bs0 : List Int) (hlt : k < 48) (HK : Kn w0 wr a0 k c bs0) (a : Act) (hf : Fr 235 a) (h1 : sl a 1 = .slice a0 k c) (h2 : sl a 2 = .slice a2 4 4) (h3 : sl a 3 = .slice a3 16 16) (h4 : sl a 4 = .int .i64 (k : Int)) :
    Code.wp Try.prog (cAt [1,1,1,0,1,2,2] KC) (Exit.then (fun a' w' => ∃ g1 c1 bs, Fr 235 a' ∧ sl a' 1 = .slice (some ⟨g1, 0, none⟩) (k + 1) c1 ∧ sl a' 2 = .slice a2 4 4 ∧ sl a' 3 = .slice a3 16 16 ∧ sl a' 4 = .int .i64 ((k : Int) + 1) ∧ Kn w0 w' (some ⟨g1, 0, none⟩) (k + 1) c1 bs) Nope) a wr := by
  refine wp_sqR (x := cAt [1,1,1,0,1,2,2,0] KC) (y := cAt [1,1,1,0,1,2,2,1] KC) (by kernel_rfl) (t4 wr k c a0 hlt a2 a3 a hf h1 h2 h3 h4) ?_
  rintro b4 _ ⟨hf, h1, h2, h3, h4, rfl⟩
  refine wp_sqR (R := fun a' w' => ∃ g1 c1 bs, Fr 235 a' ∧ sl a' 1 = .slice (some ⟨g1, 0, none⟩) (k + 1) c1 ∧ sl a' 2 = .slice a2 4 4 ∧ sl a' 3 = .slice a3 16 16 ∧ sl a' 4 = .int .i64 (k : Int) ∧ Kn w0 w' (some ⟨g1, 0, none⟩) (k + 1) c1 bs) (x := cAt [1,1,1,0,1,2,2,1,0] KC) (y := cAt [1,1,1,0,1,2,2,1,1] KC) (by kernel_rfl) ?_ ?_
  · refine wp_blockR (x := cAt [1,1,1,0,1,2,2,1,0,2] KC) (id := 1) (by kernel_rfl) ?_
    refine wp_sqR (x := cAt [1,1,1,0,1,2,2,1,0,2,0] KC) (y := cAt [1,1,1,0,1,2,2,1,0,2,1] KC) (by kernel_rfl) (t6 w0 wr k c a0 bs0 hlt a2 a3 HK b4 hf h1 h2 h3 h4) ?_
    rintro y1 w1 ⟨g1, c1, bs, hf, h1, h2, h3, h4, hk⟩
    refine wp_sqR (x := cAt [1,1,1,0,1,2,2,1,0,2,1,0] KC) (y := cAt [1,1,1,0,1,2,2,1,0,2,1,1] KC) (by kernel_rfl) (t7 w0 w1 k g1 c1 bs hlt a2 a3 hk y1 hf h1 h2 h3 h4) ?_
    rintro y2 w2 ⟨b6, hf, h1, h2, h3, h4, h5, h6, hk, hr6⟩
    refine wp_sqR (x := cAt [1,1,1,0,1,2,2,1,0,2,1,1,0] KC) (y := cAt [1,1,1,0,1,2,2,1,0,2,1,1,1] KC) (by kernel_rfl) (t8 w0 a2 a3 x2 x3 HC w2 k g1 c1 b6 bs hlt hk hr6 y2 hf h1 h2 h3 h4 h5 h6) ?_
    rintro y3 w3 ⟨r5, r6, hf, h1, h2, h3, h4, h5, h6, hw⟩
    refine wp_sqR (x := cAt [1,1,1,0,1,2,2,1,0,2,1,1,1,0] KC) (y := cAt [1,1,1,0,1,2,2,1,0,2,1,1,1,1] KC) (by kernel_rfl) (t12 w0 w3 k g1 c1 bs r5 r6 hlt a2 a3 hw y3 hf h1 h2 h3 h4 h5 h6) ?_
    rintro y4 w4 ⟨b7, s0, hf, h1, h2, h3, h4, h5, h6, h7, hx⟩
    refine wp_sqR (R := fun a' w' => ∃ s : Sg, Fr 235 a' ∧ sl a' 1 = .slice (some ⟨g1, 0, none⟩) (k + 1) c1 ∧ sl a' 2 = .slice a2 4 4 ∧ sl a' 3 = .slice a3 16 16 ∧ sl a' 4 = .int .i64 (k : Int) ∧ sl a' 5 = .slice r5.a r5.n r5.c ∧ sl a' 6 = .slice r6.a r6.n r6.c ∧ sl a' 7 = .pointer (some ⟨b7, 0, none⟩) ∧ SX w3 b7 s w') (x := cAt [1,1,1,0,1,2,2,1,0,2,1,1,1,1,0] KC) (y := cAt [1,1,1,0,1,2,2,1,0,2,1,1,1,1,1] KC) (by kernel_rfl) ?_ ?_
    · have h4c : k % 4 = 0 ∨ k % 4 = 1 ∨ (k % 4 = 2 ∨ k % 4 = 3) := by omega
      rcases h4c with hc | hc | hc
      · exact t16a w0 w3 k g1 c1 bs r5 r6 hlt a2 a3 hw b7 s0 w4 hx hc y4 hf h1 h2 h3 h4 h5 h6 h7
      · exact t16b w3 k g1 c1 r5 r6 hlt a2 a3 b7 s0 w4 hx hc y4 hf h1 h2 h3 h4 h5 h6 h7
      · exact t16c w3 k g1 c1 r5 r6 hlt a2 a3 b7 s0 w4 hx hc y4 hf h1 h2 h3 h4 h5 h6 h7
    rintro y5 w5 ⟨s, hf, h1, h2, h3, h4, h5, h6, h7, hx⟩
    have hw5 := RW.next hw hx.below
    refine wp_sqR (x := cAt [1,1,1,0,1,2,2,1,0,2,1,1,1,1,1,0] KC) (y := cAt [1,1,1,0,1,2,2,1,0,2,1,1,1,1,1,1] KC) (by kernel_rfl) (t21 w5 k g1 c1 b7 r5 r6 a2 a3 s ⟨hx.seg, hx.now, hx.lim⟩ y5 hf h1 h2 h3 h4 h5 h6 h7) ?_
    rintro y6 w6 ⟨b8, hf, h1, h2, h3, h4, h5, h6, h7, h8, ht⟩
    refine wp_sqR (R := fun a' w' => ∃ t : Sg, Fr 235 a' ∧ sl a' 1 = .slice (some ⟨g1, 0, none⟩) (k + 1) c1 ∧ sl a' 2 = .slice a2 4 4 ∧ sl a' 3 = .slice a3 16 16 ∧ sl a' 4 = .int .i64 (k : Int) ∧ sl a' 5 = .slice r5.a r5.n r5.c ∧ sl a' 6 = .slice r6.a r6.n r6.c ∧ sl a' 7 = .pointer (some ⟨b7, 0, none⟩) ∧ sl a' 8 = .pointer (some ⟨b8, 0, none⟩) ∧ w'.rangeAt b8 0 t.cs ∧ t.ok w' ∧ (t.on ≤ 44 ∧ t.dn ≤ 48) ∧ Below w5.heap.size w5 w') (x := cAt [1,1,1,0,1,2,2,1,0,2,1,1,1,1,1,1,0] KC) (y := cAt [1,1,1,0,1,2,2,1,0,2,1,1,1,1,1,1,1] KC) (by kernel_rfl) ?_ ?_
    · have h7c : k % 7 = 0 ∨ k % 7 = 1 ∨ k % 7 = 2 ∨ k % 7 = 3 ∨ k % 7 = 4 ∨ k % 7 = 5 ∨ k % 7 = 6 := by omega
      rcases h7c with hc | hc | hc | hc | hc | hc | hc
      · exact t22a w5 k g1 c1 b7 r5 r6 hlt a2 a3 b8 s w6 ht hc y6 hf h1 h2 h3 h4 h5 h6 h7 h8
      · exact t22b w5 k g1 c1 b7 r5 r6 hlt a2 a3 b8 s w6 ht hc y6 hf h1 h2 h3 h4 h5 h6 h7 h8
      · exact t22c w0 w5 k g1 c1 b7 bs r5 r6 hlt a2 a3 hw5.d b8 s w6 ht hc y6 hf h1 h2 h3 h4 h5 h6 h7 h8
      · exact t22d w5 k g1 c1 b7 r5 r6 hlt a2 a3 b8 s w6 ht hc y6 hf h1 h2 h3 h4 h5 h6 h7 h8
      · exact t22e w5 k g1 c1 b7 r5 r6 hlt a2 a3 b8 s w6 ht hc y6 hf h1 h2 h3 h4 h5 h6 h7 h8
      · exact t22f w5 k g1 c1 b7 r5 r6 hlt a2 a3 b8 s w6 ht hc y6 hf h1 h2 h3 h4 h5 h6 h7 h8
      · exact t22g w5 k g1 c1 b7 r5 r6 hlt a2 a3 b8 s w6 ht hc y6 hf h1 h2 h3 h4 h5 h6 h7 h8
    rintro y7 w7 ⟨t, hf, h1, h2, h3, h4, h5, h6, h7, h8, hts, hto, htl, htb⟩
    have hfx : FX w0 g1 k c1 bs r5 r6 b7 b8 s t w7 := ⟨hw5.next htb, range_kept htb hx.seg, hx.now.below htb, hx.lim, hts, hto, htl⟩
    refine wp_sqR (R := fun a' w' => Fr 235 a' ∧ sl a' 1 = .slice (some ⟨g1, 0, none⟩) (k + 1) c1 ∧ sl a' 2 = .slice a2 4 4 ∧ sl a' 3 = .slice a3 16 16 ∧ sl a' 4 = .int .i64 (k : Int) ∧ sl a' 5 = .slice r5.a r5.n r5.c ∧ sl a' 6 = .slice r6.a r6.n r6.c ∧ sl a' 7 = .pointer (some ⟨b7, 0, none⟩) ∧ sl a' 8 = .pointer (some ⟨b8, 0, none⟩) ∧ FX w0 g1 k c1 bs r5 r6 b7 b8 s t w') (x := cAt [1,1,1,0,1,2,2,1,0,2,1,1,1,1,1,1,1,0] KC) (y := cAt [1,1,1,0,1,2,2,1,0,2,1,1,1,1,1,1,1,1] KC) (by kernel_rfl) ?_ ?_
    · refine wp_sqR (x := cAt [1,1,1,0,1,2,2,1,0,2,1,1,1,1,1,1,1,0,0] KC) (y := cAt [1,1,1,0,1,2,2,1,0,2,1,1,1,1,1,1,1,0,1] KC) (by kernel_rfl) (t33 w0 w7 k g1 c1 bs r5 r6 hlt a2 a3 b7 b8 s t hfx y7 hf h1 h2 h3 h4 h5 h6 h7 h8) ?_
      rintro y8 w8 ⟨hf, h1, h2, h3, h4, h5, h6, h7, h8, h152, hfx⟩
      refine wp_endR (t34 w8 k g1 c1 b7 b8 r5 r6 a2 a3 y8 hf h1 h2 h3 h4 h5 h6 h7 h8 h152) ?_
      rintro z _ ⟨hf, h1, h2, h3, h4, h5, h6, h7, h8, rfl⟩
      exact ⟨hf, h1, h2, h3, h4, h5, h6, h7, h8, hfx⟩
    rintro y9 w9 ⟨hf, h1, h2, h3, h4, h5, h6, h7, h8, hfx⟩
    refine wp_sqR (x := cAt [1,1,1,0,1,2,2,1,0,2,1,1,1,1,1,1,1,1,0] KC) (y := cAt [1,1,1,0,1,2,2,1,0,2,1,1,1,1,1,1,1,1,1] KC) (by kernel_rfl) (t35 w0 w9 k g1 c1 bs r5 r6 a2 a3 b7 b8 s t hfx y9 hf h1 h2 h3 h4 h5 h6 h7 h8) ?_
    rintro y10 w10 ⟨rb, hf, h1, h2, h3, h4, h5, h6, h7, h9, hg⟩
    refine wp_sqR (x := cAt [1,1,1,0,1,2,2,1,0,2,1,1,1,1,1,1,1,1,1,0] KC) (y := cAt [1,1,1,0,1,2,2,1,0,2,1,1,1,1,1,1,1,1,1,1] KC) (by kernel_rfl) (t36 w10 k g1 c1 b7 r5 r6 rb a2 a3 y10 hf h1 h2 h3 h4 h5 h6 h7 h9) ?_
    rintro y11 _ ⟨hf, h1, h2, h3, h4, h5, h6, h7, h9, h11, rfl⟩
    refine wp_endR (t51 w0 w10 k g1 c1 bs r5 r6 a2 a3 b7 s rb hg y11 hf h1 h2 h3 h4 h5 h6 h7 h9 h11) ?_
    rintro y12 w12 ⟨hf, h1, h2, h3, h4, hk⟩
    exact ⟨g1, c1, bs, hf, h1, h2, h3, h4, hk⟩
  rintro z w2 ⟨g1, c1, bs, hf, h1, h2, h3, h4, hk⟩
  refine wp_endR (t5 w2 k g1 c1 hlt a2 a3 z hf h1 h2 h3 h4) ?_
  rintro z2 _ ⟨hf, h1, h2, h3, h4, rfl⟩
  exact ⟨g1, c1, bs, hf, h1, h2, h3, h4, hk⟩

theorem t53 (w0 : World) (a2 a3 : Option Addr) (x2 x3 : List Int) (HC : Hid (Row.ok w0 ⟨a2, 4, 4, x2⟩ ∧ Row.ok w0 ⟨a3, 16, 16, x3⟩)) (a : Act) (hf : Fr 235 a) (h1 : sl a 1 = .slice none 0 0) (h2 : sl a 2 = .slice a2 4 4) (h3 : sl a 3 = .slice a3 16 16) (h4 : sl a 4 = .int .i64 0) :
    Code.wp Try.prog (cAt [1,1,1,0,1] KC) (Exit.then (fun a' w' => Fr 235 a' ∧ sl a' 2 = .slice a2 4 4 ∧ sl a' 3 = .slice a3 16 16 ∧ Below w0.heap.size w0 w') Nope) a w0 := by
  refine wp_blockR (x := cAt [1,1,1,0,1,2] KC) (id := 0) (by kernel_rfl) ?_
  refine wp_loopR (x := cAt [1,1,1,0,1,2,2] KC) (by kernel_rfl) (fun a' w' => ∃ (k c : Nat) (a0 : Option Addr) (bs : List Int), k ≤ 48 ∧ Fr 235 a' ∧ sl a' 1 = .slice a0 k c ∧ sl a' 2 = .slice a2 4 4 ∧ sl a' 3 = .slice a3 16 16 ∧ sl a' 4 = .int .i64 (k : Int) ∧ Kn w0 w' a0 k c bs) (fun a' _ => 48 - (intOf (sl a' 4)).toNat) ⟨0, 0, none, [], by omega, hf, h1, h2, h3, h4, Own.nil _ _, Byt.nil, Below.refl _ _⟩ ?_
  rintro a' w' ⟨k, c, a0, bs, hk, hf, h1, h2, h3, h4, HK⟩
  by_cases hlt : k < 48
  · refine wp_endR (t52 w0 a2 a3 x2 x3 HC w' k c a0 bs hlt HK a' hf h1 h2 h3 h4) ?_
    rintro b2 w2 ⟨g1, c1, bs', hf', h1', h2', h3', h4', hk'⟩
    refine ⟨⟨k + 1, c1, some ⟨g1, 0, none⟩, bs', by omega, hf', h1', h2', h3', by rw [h4']; rfl, hk'⟩, ?_⟩
    rw [h4, h4']
    simp only [intOf]
    omega
  · obtain rfl : k = 48 := by omega
    refine wp_endX (t4x w' a2 a3 a' hf h2 h3 h4) ?_
    rintro b2 w2 ⟨hf', h2', h3', rfl⟩
    refine thru ?_
    exact ⟨hf', h2', h3', HK.below⟩

set_option maxRecDepth 100000 in
set_option maxHeartbeats 8000000 in
theorem t54 (w wr : World) (a2 a3 : Option Addr) (x2 x3 : List Int) (HC : Hid (Row.ok wr ⟨a2, 4, 4, x2⟩ ∧ Row.ok wr ⟨a3, 16, 16, x3⟩)) (HBW : Hid (Below w.heap.size w wr)) (a : Act) (hf : Fr 235 a) (h2 : sl a 2 = .slice a2 4 4) (h3 : sl a 3 = .slice a3 16 16) :
    Code.wp Try.prog (cAt [1,1,1,1] KC) (bodyPost Try.prog Try.f6 (Gives w (.bool true))) a wr := by
  obtain ⟨f, ha, hs⟩ := fr235 hf
  have e2 := (hs 2).trans h2
  have e3 := (hs 3).trans h3
  rw [e2, e3] at ha
  clear hs hf e2 h2 e3 h3
  subst ha
  conv => arg 2; whnf
  have hb1 : Below wr.heap.size wr (wr.alloc (.cells (bv [0, 1, 0, 1, 0, 8, 0, 0]).toArray 5)) := (Below.refl _ _).alloc (Nat.le_refl _) _
  have HL1 : Hid (Row.ok (wr.alloc (.cells (bv [0, 1, 0, 1, 0, 8, 0, 0]).toArray 5)) ⟨some ⟨wr.heap.size, 0, none⟩, 8, 8, [0, 1, 0, 1, 0, 8, 0, 0]⟩) := (Own.lit wr 0 [0, 1, 0, 1, 0, 8, 0, 0] 8 rfl (by decide) (Nat.zero_le _)).row (byt_of_lit (by decide))
  have HB1 := Lib.hid hb1
  clear hb1
  go_wp2_with fail
  refine (parses7_any 17 (some ⟨wr.heap.size, 0, none⟩) 8 8 [0, 1, 0, 1, 0, 8, 0, 0] a2 4 4 x2 a2 4 4 x2 _ (by decide) (by decide) HL1.out (HC.out.1.below HB1.out) (HC.out.1.below HB1.out)).mono ?_
  rintro e w1 ⟨rfl, hb⟩
  have HB2 := Lib.hid (HB1.out.trans (hb.mono HB1.out.size))
  clear hb
  have hb3 : Below w1.heap.size w1 (w1.alloc (.cells (bv [0, 1, 0, 1, 0, 8, 0, 0]).toArray 5)) := (Below.refl _ _).alloc (Nat.le_refl _) _
  have HL3 : Hid (Row.ok (w1.alloc (.cells (bv [0, 1, 0, 1, 0, 8, 0, 0]).toArray 5)) ⟨some ⟨w1.heap.size, 0, none⟩, 8, 8, [0, 1, 0, 1, 0, 8, 0, 0]⟩) := (Own.lit w1 0 [0, 1, 0, 1, 0, 8, 0, 0] 8 rfl (by decide) (Nat.zero_le _)).row (byt_of_lit (by decide))
  have HB3 := Lib.hid hb3
  clear hb3
  go_wp2_with fail
  refine (parses7_any 17 (some ⟨w1.heap.size, 0, none⟩) 8 8 [0, 1, 0, 1, 0, 8, 0, 0] a3 16 16 x3 a3 16 16 x3 _ (by decide) (by decide) HL3.out ((HC.out.2.below HB2.out).below HB3.out) ((HC.out.2.below HB2.out).below HB3.out)).mono ?_
  rintro e w2 ⟨rfl, hb⟩
  have HB4 := Lib.hid (HB2.out.trans ((HB3.out.trans (hb.mono HB3.out.size)).mono HB2.out.size))
  obtain ⟨w3, hmk, hm, hbm⟩ := mk_nz w2 65536 (by decide)
  have hmk' : (Instr.makeSlice 24 (.int .i64 65536) (.int .i64 65536)).run Try.prog w2 = .ok (.slice (some ⟨w2.heap.size, 0, none⟩) 65536 65536) w3 := hmk
  have HB5 := Lib.hid (HB4.out.trans (hbm.mono HB4.out.size))
  have HOK : Hid (Sg.ok w3 (sgA 17 (nz 65536) (some ⟨w2.heap.size, 0, none⟩) 65536 65536)) := sgA_ok (by decide) (hm.row (nz_byt _))
  clear hb hmk hm hbm
  go_wp2_with fail
  refine (puts7_any (sgA 17 (nz 65536) (some ⟨w2.heap.size, 0, none⟩) 65536 65536) sg0 a2 4 4 x2 a2 4 4 x2 0 _ HOK.out (sg0_ok _) (HC.out.1.below HB5.out) (HC.out.1.below HB5.out) (by decide) (by decide) (by show 65536 ≤ 281474976710656; decide)).mono ?_
  rintro e w4 ⟨rfl, hb⟩
  have HB6 := Lib.hid (HB5.out.trans (hb.mono HB5.out.size))
  clear hb hmk'
  go_wp2_with fail
  refine (works7_any _).mono ?_
  rintro e w5 ⟨rfl, hb⟩
  have HB7 := Lib.hid (HBW.out.trans ((HB6.out.trans (hb.mono HB6.out.size)).mono HBW.out.size))
  clear hb
  go_wp2_with fail
  go_ret
  exact ⟨rfl, HB7.out⟩

theorem known7_any (w : World) : Calls Try.prog 6 #[] w (Gives w (.bool true)) := by
  refine calls_of_wp (c := KC) Try.func6 (by kernel_rfl) ?_
  have hf : Fr 235 { tmps := #[] ++ Array.replicate (Try.f6.ntmps - (#[] : Array Value).size) undef, defers := [] } := ⟨rfl, by rw [Try.ntmps6]; simp⟩
  refine wp_sqR (x := cAt [0] KC) (y := cAt [1] KC) (by kernel_rfl) (t0 w _ hf) ?_
  rintro a0 _ ⟨hf, rfl⟩
  refine wp_sqR (x := cAt [1,0] KC) (y := cAt [1,1] KC) (by kernel_rfl) (t1 w _ hf) ?_
  rintro a1 _ ⟨hf, h1, rfl⟩
  refine wp_sqR (x := cAt [1,1,0] KC) (y := cAt [1,1,1] KC) (by kernel_rfl) (t2 w _ hf h1) ?_
  rintro y2 w2 ⟨a2, a3, x2, x3, hf, h1, h2, h3, hr2, hr3, hb⟩
  refine wp_sqR (R := fun a' w' => Fr 235 a' ∧ sl a' 2 = .slice a2 4 4 ∧ sl a' 3 = .slice a3 16 16 ∧ Below w2.heap.size w2 w') (x := cAt [1,1,1,0] KC) (y := cAt [1,1,1,1] KC) (by kernel_rfl) ?_ ?_
  · refine wp_sqR (x := cAt [1,1,1,0,0] KC) (y := cAt [1,1,1,0,1] KC) (by kernel_rfl) (t3 w2 a2 a3 y2 hf h1 h2 h3) ?_
    rintro y3 _ ⟨hf, h1, h2, h3, h4, rfl⟩
    exact t53 w2 a2 a3 x2 x3 ⟨hr2, hr3⟩ y3 hf h1 h2 h3 h4
  rintro y4 w4 ⟨hf, h2, h3, hb4⟩
  exact t54 w w4 a2 a3 x2 x3 ⟨hr2.below hb4, hr3.below hb4⟩ (hb.trans (hb4.mono hb.size)) y4 hf h2 h3
end Go.Proofs.Ytabdejoakecioaa

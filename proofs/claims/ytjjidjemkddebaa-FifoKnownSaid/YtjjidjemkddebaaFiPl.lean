/-
  FifoPlays' walk, put together of its pieces. Conditions: a row of acts whose numbers fit their Go types. (Made by gen_fipl.py.)
-/
import Derived.Test.YtjjidjemkddebaaFiPlB
namespace Go.Proofs.Ytjjidjemkddebaa
open Go.RowKit

theorem wp_onT {P : Program} {c A B : Code} {Q : Exit → Act → World → Prop} {a : Act} {w : World} {i : Nat} (hc : c = .cond (.tmp i) A B) (h : sl a i = .bool true) (h1 : A.wp P Q a w) : c.wp P Q a w := by
  subst hc
  exact wp_cond_true (by rw [← h]; rfl) h1
theorem wp_onF {P : Program} {c A B : Code} {Q : Exit → Act → World → Prop} {a : Act} {w : World} {i : Nat} (hc : c = .cond (.tmp i) A B) (h : sl a i = .bool false) (h1 : B.wp P Q a w) : c.wp P Q a w := by
  subst hc
  exact wp_cond_false (by rw [← h]; rfl) h1
/-- How an act goes: what stands behind it. -/
def Went (w : World) (n c g br k xb xo : Nat) (D : Int) (a' : Act) (w' : World) : Prop := ∃ (q' : Qs) (ra' : Option Addr) (m' rc' : Nat), Fr 158 a' ∧ sl a' 2 = .slice (some ⟨xb, xo, none⟩) n c ∧ sl a' 7 = .pointer (some ⟨g, 0, none⟩) ∧ sl a' 9 = .pointer (some ⟨br, 0, none⟩) ∧ sl a' 11 = .int .i64 (k : Int) ∧ Pw w w' g br q' ra' m' rc' ∧ q'.D ≤ D + 1

set_option maxRecDepth 100000 in
set_option maxHeartbeats 4000000 in
theorem play_bytes (w wr : World) (n c g br k xb xo px : Nat) (q : Qs) (ra : Option Addr) (m rc : Nat) (x : Pi) (HW : Pw w wr g br q ra m rc) (HX : Xw w wr g br px q x) (D : Int) (hle : q.D ≤ D + 1) (a : Act) (hf : Fr 158 a) (h2 : sl a 2 = .slice (some ⟨xb, xo, none⟩) n c) (h7 : sl a 7 = .pointer (some ⟨g, 0, none⟩)) (h9 : sl a 9 = .pointer (some ⟨br, 0, none⟩)) (h11 : sl a 11 = .int .i64 (k : Int)) (h12 : sl a 12 = .pointer (some ⟨px, 0, none⟩)) :
    Code.wp Try.prog (cAt [1,1,1,1,1,1,0,1,2,2,1,0,2,1,1,1,0,1,2,1,4,1,4,1,4,1,1,1] KP) (Exit.then (Went w n c g br k xb xo D) Nope) a wr := by
  refine wp_sqR (x := cAt [1,1,1,1,1,1,0,1,2,2,1,0,2,1,1,1,0,1,2,1,4,1,4,1,4,1,1,1,0] KP) (y := cAt [1,1,1,1,1,1,0,1,2,2,1,0,2,1,1,1,0,1,2,1,4,1,4,1,4,1,1,1,1] KP) (by kernel_rfl) (p20 wr n c g br k xb xo px a hf h2 h7 h9 h11 h12) ?_
  rintro a1 _ ⟨hf, h2, h7, h9, h11, h12, h20, rfl⟩
  refine wp_blockR (x := cAt [1,1,1,1,1,1,0,1,2,2,1,0,2,1,1,1,0,1,2,1,4,1,4,1,4,1,1,1,1,2] KP) (id := 3) (by kernel_rfl) ?_
  have hI0 : Inc wr w.heap.size x.a x.n x.c wr := Inc.start HX.own
  have keep : ∀ W, Inc wr w.heap.size x.a x.n x.c W → W.cell? ⟨px, 2, none⟩ = some (.slice x.a x.n x.c) := fun W hi => Pi.k2 (HX.inc hi)
  refine wp_loopR (x := cAt [1,1,1,1,1,1,0,1,2,2,1,0,2,1,1,1,0,1,2,1,4,1,4,1,4,1,1,1,1,2,2] KP) (by kernel_rfl) (fun a' w' => ∃ j : Nat, j ≤ x.n ∧ Fr 158 a' ∧ sl a' 2 = .slice (some ⟨xb, xo, none⟩) n c ∧ sl a' 7 = .pointer (some ⟨g, 0, none⟩) ∧ sl a' 9 = .pointer (some ⟨br, 0, none⟩) ∧ sl a' 11 = .int .i64 (k : Int) ∧ sl a' 12 = .pointer (some ⟨px, 0, none⟩) ∧ sl a' 20 = .int .i64 (j : Int) ∧ Inc wr w.heap.size x.a x.n x.c w') (fun a' _ => x.n - (intOf (sl a' 20)).toNat) ⟨0, Nat.zero_le _, hf, h2, h7, h9, h11, h12, h20, hI0⟩ ?_
  rintro a' w' ⟨j, hj, hf, h2, h7, h9, h11, h12, h20a, hin⟩
  have hfew := HX.few
  by_cases hlt : j < x.n
  · refine wp_sqR (x := cAt [1,1,1,1,1,1,0,1,2,2,1,0,2,1,1,1,0,1,2,1,4,1,4,1,4,1,1,1,1,2,2,0] KP) (y := cAt [1,1,1,1,1,1,0,1,2,2,1,0,2,1,1,1,0,1,2,1,4,1,4,1,4,1,1,1,1,2,2,1] KP) (by kernel_rfl) (p21 w' n c g br k xb xo px j x.a x.n x.c (keep _ hin) hlt a' hf h2 h7 h9 h11 h12 h20a) ?_
    rintro b1 _ ⟨hf, h2, h7, h9, h11, h12, h20', rfl⟩
    obtain ⟨yg, z, eya, hz, hfz, hnext⟩ := hin.at_ hlt
    have hk2 := keep _ hin
    rw [eya] at hk2
    refine wp_sqR (x := cAt [1,1,1,1,1,1,0,1,2,2,1,0,2,1,1,1,0,1,2,1,4,1,4,1,4,1,1,1,1,2,2,1,0] KP) (y := cAt [1,1,1,1,1,1,0,1,2,2,1,0,2,1,1,1,0,1,2,1,4,1,4,1,4,1,1,1,1,2,2,1,1] KP) (R := fun a' w' => Fr 158 a' ∧ sl a' 2 = .slice (some ⟨xb, xo, none⟩) n c ∧ sl a' 7 = .pointer (some ⟨g, 0, none⟩) ∧ sl a' 9 = .pointer (some ⟨br, 0, none⟩) ∧ sl a' 11 = .int .i64 (k : Int) ∧ sl a' 12 = .pointer (some ⟨px, 0, none⟩) ∧ sl a' 20 = .int .i64 (j : Int) ∧ Inc wr w.heap.size x.a x.n x.c w') (by kernel_rfl) ?_ ?_
    · refine wp_blockR (x := cAt [1,1,1,1,1,1,0,1,2,2,1,0,2,1,1,1,0,1,2,1,4,1,4,1,4,1,1,1,1,2,2,1,0,2] KP) (id := 4) (by kernel_rfl) ?_
      refine wp_endR (p23 w' w.heap.size n c g br k xb xo px j yg x.n x.c z wr hk2 hlt hz hfz hnext b1 hf h2 h7 h9 h11 h12 h20') ?_
      rintro b2 w2 ⟨hf, h2, h7, h9, h11, h12, h20, hin2⟩
      exact ⟨hf, h2, h7, h9, h11, h12, h20, by rw [eya]; exact hin2⟩
    · rintro b2 w2 ⟨hf, h2, h7, h9, h11, h12, h20, hin2⟩
      refine wp_endR (p22 w2 n c g br k xb xo px j (by omega) b2 hf h2 h7 h9 h11 h12 h20) ?_
      rintro b3 _ ⟨hf, h2, h7, h9, h11, h12, h20'', rfl⟩
      refine ⟨⟨j + 1, by omega, hf, h2, h7, h9, h11, h12, by rw [h20'']; rfl, hin2⟩, ?_⟩
      rw [h20a, h20'']
      simp only [intOf]
      omega
  · refine wp_endX (p21x w' n c g br k xb xo px j x.a x.n x.c (keep _ hin) hlt a' hf h2 h7 h9 h11 h12 h20a) ?_
    rintro b2 w2 ⟨hf, h2, h7, h9, h11, h12, rfl⟩
    refine thru ?_
    exact ⟨q, ra, m, rc, hf, h2, h7, h9, h11, HW.inc HX hin, hle⟩

set_option maxRecDepth 100000 in
set_option maxHeartbeats 4000000 in
theorem play_arms (w wr : World) (n c g br k xb xo px : Nat) (q : Qs) (ra : Option Addr) (m rc : Nat) (x : Pi) (d : Int) (HW : Pw w wr g br q ra m rc) (HX : Xw w wr g br px q x) (hs1 : x.sz ≤ 9223372036854775807) (hD : q.D < 18446744073709551615) (a : Act) (hf : Fr 158 a) (h2 : sl a 2 = .slice (some ⟨xb, xo, none⟩) n c) (h7 : sl a 7 = .pointer (some ⟨g, 0, none⟩)) (h9 : sl a 9 = .pointer (some ⟨br, 0, none⟩)) (h11 : sl a 11 = .int .i64 (k : Int)) (h12 : sl a 12 = .pointer (some ⟨px, 0, none⟩)) (h77 : sl a 77 = .int .i64 (d % 8)) :
    Code.wp Try.prog (cAt [1,1,1,1,1,1,0,1,2,2,1,0,2,1,1,1,0,1,2] KP) (Exit.then (Went w n c g br k xb xo q.D) Nope) a wr := by
  have HOK := HW.ok hD
  have pop : ∀ (a : Act) (_ : Fr 158 a) (_ : sl a 2 = .slice (some ⟨xb, xo, none⟩) n c) (_ : sl a 7 = .pointer (some ⟨g, 0, none⟩)) (_ : sl a 9 = .pointer (some ⟨br, 0, none⟩)) (_ : sl a 11 = .int .i64 (k : Int)) (_ : sl a 12 = .pointer (some ⟨px, 0, none⟩)) (_ : sl a 105 = .bool true), Code.wp Try.prog (cAt [1,1,1,1,1,1,0,1,2,2,1,0,2,1,1,1,0,1,2,1] KP) (Exit.then (Went w n c g br k xb xo q.D) Nope) a wr := by
    intro a hf h2 h7 h9 h11 h12 h105
    refine wp_onT (A := cAt [1,1,1,1,1,1,0,1,2,2,1,0,2,1,1,1,0,1,2,1,3] KP) (B := cAt [1,1,1,1,1,1,0,1,2,2,1,0,2,1,1,1,0,1,2,1,4] KP) (by kernel_rfl) h105 ?_
    refine wp_sqR (x := cAt [1,1,1,1,1,1,0,1,2,2,1,0,2,1,1,1,0,1,2,1,3,0] KP) (y := cAt [1,1,1,1,1,1,0,1,2,2,1,0,2,1,1,1,0,1,2,1,3,1] KP) (by kernel_rfl) (p26 w wr n c g br k xb xo px q ra m rc HW a hf h2 h7 h9 h11 h12) ?_
    rintro a1 w1 ⟨b13, b14, a1', n1, c1, hf, h2, h7, h9, h11, h12, h13, h14, h15, hb, hn13, hn14, hr, hc1⟩
    refine wp_sqR (x := cAt [1,1,1,1,1,1,0,1,2,2,1,0,2,1,1,1,0,1,2,1,3,1,0] KP) (y := cAt [1,1,1,1,1,1,0,1,2,2,1,0,2,1,1,1,0,1,2,1,3,1,1] KP) (by kernel_rfl) (p27 w w1 n c g br k xb xo px q ra m rc b13 b14 a1' n1 c1 q.abs.has (HW.past hb) hn13 hn14 hr hc1 a1 hf h2 h7 h9 h11 h12 h13 h14 h15) ?_
    rintro a2 w2 ⟨q', b16, y, hf, h2, h7, h9, h11, h12, h13, h14, h15, h16, h17, hp, hDq, h14b, h16b, hya, hyi⟩
    rw [← hyi] at h14b
    refine wp_sqR (x := cAt [1,1,1,1,1,1,0,1,2,2,1,0,2,1,1,1,0,1,2,1,3,1,1,0] KP) (y := cAt [1,1,1,1,1,1,0,1,2,2,1,0,2,1,1,1,0,1,2,1,3,1,1,1] KP) (by kernel_rfl) (p28 w2 n c g br k xb xo px b13 b14 b16 q.abs.has y h16b hya h14b a2 hf h2 h7 h9 h11 h12 h13 h14 h15 h16 h17) ?_
    rintro a3 w3 ⟨hf, h2, h7, h9, h11, h12, h13, hb3⟩
    refine wp_endR (p30 w w3 n c g br k xb xo px b13 q' a1' n1 c1 (hp.past hb3) a3 hf h2 h7 h9 h11 h12 h13) ?_
    rintro a4 w4 ⟨hf, h2, h7, h9, h11, hw⟩
    exact ⟨q', a1', n1, c1, hf, h2, h7, h9, h11, hw, by omega⟩
  by_cases e4 : d % 8 = 4
  · rw [e4] at h77
    refine wp_sqR (x := cAt [1,1,1,1,1,1,0,1,2,2,1,0,2,1,1,1,0,1,2,0] KP) (y := cAt [1,1,1,1,1,1,0,1,2,2,1,0,2,1,1,1,0,1,2,1] KP) (by kernel_rfl) (a24_4 wr n c g br k xb xo px a hf h2 h7 h9 h11 h12 h77) ?_
    rintro a1 _ ⟨hf, h2, h7, h9, h11, h12, h105, rfl⟩
    exact pop a1 hf h2 h7 h9 h11 h12 h105
  by_cases e5 : d % 8 = 5
  · rw [e5] at h77
    refine wp_sqR (x := cAt [1,1,1,1,1,1,0,1,2,2,1,0,2,1,1,1,0,1,2,0] KP) (y := cAt [1,1,1,1,1,1,0,1,2,2,1,0,2,1,1,1,0,1,2,1] KP) (by kernel_rfl) (a24_5 wr n c g br k xb xo px a hf h2 h7 h9 h11 h12 h77) ?_
    rintro a1 _ ⟨hf, h2, h7, h9, h11, h12, h105, rfl⟩
    exact pop a1 hf h2 h7 h9 h11 h12 h105
  refine wp_sqR (x := cAt [1,1,1,1,1,1,0,1,2,2,1,0,2,1,1,1,0,1,2,0] KP) (y := cAt [1,1,1,1,1,1,0,1,2,2,1,0,2,1,1,1,0,1,2,1] KP) (by kernel_rfl) (a24n wr n c g br k xb xo px (d % 8) e4 e5 a hf h2 h7 h9 h11 h12 h77) ?_
  rintro a1 _ ⟨hf, h2, h7, h9, h11, h12, h77, h105, rfl⟩
  refine wp_onF (A := cAt [1,1,1,1,1,1,0,1,2,2,1,0,2,1,1,1,0,1,2,1,3] KP) (B := cAt [1,1,1,1,1,1,0,1,2,2,1,0,2,1,1,1,0,1,2,1,4] KP) (by kernel_rfl) h105 ?_
  by_cases e6 : d % 8 = 6
  · rw [e6] at h77
    refine wp_sqR (x := cAt [1,1,1,1,1,1,0,1,2,2,1,0,2,1,1,1,0,1,2,1,4,0] KP) (y := cAt [1,1,1,1,1,1,0,1,2,2,1,0,2,1,1,1,0,1,2,1,4,1] KP) (by kernel_rfl) (a31t wr n c g br k xb xo px a1 hf h2 h7 h9 h11 h12 h77) ?_
    rintro a2 _ ⟨hf, h2, h7, h9, h11, h12, h129, rfl⟩
    refine wp_onT (A := cAt [1,1,1,1,1,1,0,1,2,2,1,0,2,1,1,1,0,1,2,1,4,1,3] KP) (B := cAt [1,1,1,1,1,1,0,1,2,2,1,0,2,1,1,1,0,1,2,1,4,1,4] KP) (by kernel_rfl) h129 ?_
    refine wp_endR (p32 w wr n c g br k xb xo px q ra m rc x HX HW HOK a2 hf h2 h7 h9 h11 h12) ?_
    rintro a3 w3 ⟨hf, h2, h7, h9, h11, h12, hb⟩
    exact ⟨q, ra, m, rc, hf, h2, h7, h9, h11, HW.past hb, by omega⟩
  refine wp_sqR (x := cAt [1,1,1,1,1,1,0,1,2,2,1,0,2,1,1,1,0,1,2,1,4,0] KP) (y := cAt [1,1,1,1,1,1,0,1,2,2,1,0,2,1,1,1,0,1,2,1,4,1] KP) (by kernel_rfl) (a31f wr n c g br k xb xo px (d % 8) e6 a1 hf h2 h7 h9 h11 h12 h77) ?_
  rintro a2 _ ⟨hf, h2, h7, h9, h11, h12, h77, h129, rfl⟩
  refine wp_onF (A := cAt [1,1,1,1,1,1,0,1,2,2,1,0,2,1,1,1,0,1,2,1,4,1,3] KP) (B := cAt [1,1,1,1,1,1,0,1,2,2,1,0,2,1,1,1,0,1,2,1,4,1,4] KP) (by kernel_rfl) h129 ?_
  by_cases e7 : d % 8 = 7
  · rw [e7] at h77
    refine wp_sqR (x := cAt [1,1,1,1,1,1,0,1,2,2,1,0,2,1,1,1,0,1,2,1,4,1,4,0] KP) (y := cAt [1,1,1,1,1,1,0,1,2,2,1,0,2,1,1,1,0,1,2,1,4,1,4,1] KP) (by kernel_rfl) (a34t wr n c g br k xb xo px a2 hf h2 h7 h9 h11 h12 h77) ?_
    rintro a3 _ ⟨hf, h2, h7, h9, h11, h12, h140, rfl⟩
    refine wp_onT (A := cAt [1,1,1,1,1,1,0,1,2,2,1,0,2,1,1,1,0,1,2,1,4,1,4,1,3] KP) (B := cAt [1,1,1,1,1,1,0,1,2,2,1,0,2,1,1,1,0,1,2,1,4,1,4,1,4] KP) (by kernel_rfl) h140 ?_
    refine wp_sqR (x := cAt [1,1,1,1,1,1,0,1,2,2,1,0,2,1,1,1,0,1,2,1,4,1,4,1,3,0] KP) (y := cAt [1,1,1,1,1,1,0,1,2,2,1,0,2,1,1,1,0,1,2,1,4,1,4,1,3,1] KP) (by kernel_rfl) (p35 w wr n c g br k xb xo px q x HX a3 hf h2 h7 h9 h11 h12) ?_
    rintro a4 _ ⟨hf, h2, h7, h9, h11, h12, rfl, b, h145⟩
    cases b with
    | true =>
      refine wp_onT (A := cAt [1,1,1,1,1,1,0,1,2,2,1,0,2,1,1,1,0,1,2,1,4,1,4,1,3,1,3] KP) (B := cAt [1,1,1,1,1,1,0,1,2,2,1,0,2,1,1,1,0,1,2,1,4,1,4,1,3,1,4] KP) (by kernel_rfl) h145 ?_
      refine wp_sqR (x := cAt [1,1,1,1,1,1,0,1,2,2,1,0,2,1,1,1,0,1,2,1,4,1,4,1,3,1,3,0] KP) (y := cAt [1,1,1,1,1,1,0,1,2,2,1,0,2,1,1,1,0,1,2,1,4,1,4,1,3,1,3,1] KP) (by kernel_rfl) (p36 w wr n c g br k xb xo px q ra m rc x HX HW a4 hf h2 h7 h9 h11 h12) ?_
      rintro a5 w5 ⟨q', hf, h2, h7, h9, h11, h12, hq, ha, hb, hl⟩
      refine wp_endR (p38 w w5 n c g br k xb xo px q ra m rc q' hq ha hb hl HW.ob a5 hf h2 h7 h9 h11 h12) ?_
      rintro a6 w6 ⟨hf, h2, h7, h9, h11, h12, hw⟩
      have hD' : q'.D = q.D := congrArg Aq.D ha
      exact ⟨q', none, 0, 0, hf, h2, h7, h9, h11, hw, by omega⟩
    | false =>
      refine wp_onF (A := cAt [1,1,1,1,1,1,0,1,2,2,1,0,2,1,1,1,0,1,2,1,4,1,4,1,3,1,3] KP) (B := cAt [1,1,1,1,1,1,0,1,2,2,1,0,2,1,1,1,0,1,2,1,4,1,4,1,3,1,4] KP) (by kernel_rfl) h145 ?_
      have hsk : cAt [1,1,1,1,1,1,0,1,2,2,1,0,2,1,1,1,0,1,2,1,4,1,4,1,3,1,4] KP = Code.skip := by kernel_rfl
      rw [hsk]
      exact wp_skip ⟨q, ra, m, rc, hf, h2, h7, h9, h11, HW, by omega⟩
  · refine wp_sqR (x := cAt [1,1,1,1,1,1,0,1,2,2,1,0,2,1,1,1,0,1,2,1,4,1,4,0] KP) (y := cAt [1,1,1,1,1,1,0,1,2,2,1,0,2,1,1,1,0,1,2,1,4,1,4,1] KP) (by kernel_rfl) (a34f wr n c g br k xb xo px (d % 8) e7 a2 hf h2 h7 h9 h11 h12 h77) ?_
    rintro a3 _ ⟨hf, h2, h7, h9, h11, h12, h140, rfl⟩
    refine wp_onF (A := cAt [1,1,1,1,1,1,0,1,2,2,1,0,2,1,1,1,0,1,2,1,4,1,4,1,3] KP) (B := cAt [1,1,1,1,1,1,0,1,2,2,1,0,2,1,1,1,0,1,2,1,4,1,4,1,4] KP) (by kernel_rfl) h140 ?_
    refine wp_sqR (x := cAt [1,1,1,1,1,1,0,1,2,2,1,0,2,1,1,1,0,1,2,1,4,1,4,1,4,0] KP) (y := cAt [1,1,1,1,1,1,0,1,2,2,1,0,2,1,1,1,0,1,2,1,4,1,4,1,4,1] KP) (by kernel_rfl) (p16 w wr n c g br k xb xo px q ra m rc x HX HW HOK (q.abs.push x.it) (q.abs.code x.it) (Lib.hid rfl) (Lib.hid rfl) a3 hf h2 h7 h9 h11 h12) ?_
    rintro a4 w4 ⟨b18, a1', n1, c1, hf, h2, h7, h9, h11, h12, h18, h19, hb, hn, hr, hc1, hge⟩
    refine wp_sqR (x := cAt [1,1,1,1,1,1,0,1,2,2,1,0,2,1,1,1,0,1,2,1,4,1,4,1,4,1,0] KP) (y := cAt [1,1,1,1,1,1,0,1,2,2,1,0,2,1,1,1,0,1,2,1,4,1,4,1,4,1,1] KP) (by kernel_rfl) (p17 w w4 n c g br k xb xo px q ra m rc x (HX.past hb) (HW.past hb) (q.abs.push x.it) (q.abs.code x.it) (Lib.hid rfl) (Lib.hid rfl) b18 a1' n1 c1 hn hr hc1 hs1 hD a4 hf h2 h7 h9 h11 h12 h18 h19) ?_
    rintro a5 w5 ⟨q', hf, h2, h7, h9, h11, h12, h18, hp, hx, hle⟩
    refine wp_sqR (x := cAt [1,1,1,1,1,1,0,1,2,2,1,0,2,1,1,1,0,1,2,1,4,1,4,1,4,1,1,0] KP) (y := cAt [1,1,1,1,1,1,0,1,2,2,1,0,2,1,1,1,0,1,2,1,4,1,4,1,4,1,1,1] KP) (by kernel_rfl) (p19 w w5 n c g br k xb xo px b18 q' a1' n1 c1 hp x hx a5 hf h2 h7 h9 h11 h12 h18) ?_
    rintro a6 w6 ⟨hf, h2, h7, h9, h11, h12, hw, hx'⟩
    exact play_bytes w w6 n c g br k xb xo px q' a1' n1 c1 x hw hx' q.D hle a6 hf h2 h7 h9 h11 h12

set_option maxRecDepth 100000 in
set_option maxHeartbeats 4000000 in
theorem play_round (w wr : World) (xa : Option Addr) (n c g br : Nat) (q : Qs) (ra : Option Addr) (m rc k : Nat) (l : List Ac) (HL : Acr w xa n l) (HF : Few l) (HW : Pw w wr g br q ra m rc) (hD : q.D ≤ k) (hlt : k < n) (a : Act) (hf : Fr 158 a) (h2 : sl a 2 = .slice xa n c) (h7 : sl a 7 = .pointer (some ⟨g, 0, none⟩)) (h9 : sl a 9 = .pointer (some ⟨br, 0, none⟩)) (h11 : sl a 11 = .int .i64 (k : Int)) :
    Code.wp Try.prog (cAt [1,1,1,1,1,1,0,1,2,2] KP) (Exit.then (fun a' w' => ∃ (q' : Qs) (ra' : Option Addr) (m' rc' : Nat), Fr 158 a' ∧ sl a' 2 = .slice xa n c ∧ sl a' 7 = .pointer (some ⟨g, 0, none⟩) ∧ sl a' 9 = .pointer (some ⟨br, 0, none⟩) ∧ sl a' 11 = .int .i64 ((k : Int) + 1) ∧ Pw w w' g br q' ra' m' rc' ∧ q'.D ≤ k + 1) Nope) a wr := by
  obtain ⟨y, xb, xo, hy, hok, rfl, hrg⟩ := HL.nth hlt
  have hrg2 := range_kept HW.below hrg
  have hn : n ≤ 60 := by have := HF.1; rw [HL.len] at this; exact this
  have hy60 := HF.2 y (List.mem_of_getElem? hy)
  have hxb : xb < wr.heap.size := by have := World.block_lt_of_cell? wr _ (Ac.r0 hrg2); simpa using this
  refine wp_sqR (x := cAt [1,1,1,1,1,1,0,1,2,2,0] KP) (y := cAt [1,1,1,1,1,1,0,1,2,2,1] KP) (by kernel_rfl) (a10 wr _ n c g br k hlt a hf h2 h7 h9 h11) ?_
  rintro a1 _ ⟨hf, h2, h7, h9, h11, rfl⟩
  refine wp_sqR (x := cAt [1,1,1,1,1,1,0,1,2,2,1,0] KP) (y := cAt [1,1,1,1,1,1,0,1,2,2,1,1] KP) (R := Went w n c g br k xb xo q.D) (by kernel_rfl) ?_ ?_
  · refine wp_blockR (x := cAt [1,1,1,1,1,1,0,1,2,2,1,0,2] KP) (id := 1) (by kernel_rfl) ?_
    refine wp_sqR (x := cAt [1,1,1,1,1,1,0,1,2,2,1,0,2,0] KP) (y := cAt [1,1,1,1,1,1,0,1,2,2,1,0,2,1] KP) (by kernel_rfl) (a12 wr n c g br k xb xo y hrg2 hlt a1 hf h2 h7 h9 h11) ?_
    rintro a2 w2 ⟨px, hf, h2, h7, h9, h11, h12, hrow, hge, hbl⟩
    refine wp_sqR (x := cAt [1,1,1,1,1,1,0,1,2,2,1,0,2,1,0] KP) (y := cAt [1,1,1,1,1,1,0,1,2,2,1,0,2,1,1] KP) (by kernel_rfl) (a13 w2 n c g br k xb xo px _ _ _ hrow a2 hf h2 h7 h9 h11 h12) ?_
    rintro a3 w3 ⟨hf, h2, h7, h9, h11, h12, hrow3, hk3⟩
    have hb3 : Below wr.heap.size wr w3 := hbl.trans (hk3.below hbl.size (fun i e => by omega))
    have hw3 := HW.past hb3
    refine wp_sqR (x := cAt [1,1,1,1,1,1,0,1,2,2,1,0,2,1,1,0] KP) (y := cAt [1,1,1,1,1,1,0,1,2,2,1,0,2,1,1,1] KP) (by kernel_rfl) (a14 w3 n c g br k xb xo px y (range_kept hb3 hrg2) (hok.x.below hw3.below) hlt hy60 (by omega) hrow3 a3 hf h2 h7 h9 h11 h12) ?_
    rintro a4 w4 ⟨da, dc, hf, h2, h7, h9, h11, h12, hk4, hown, hrow4⟩
    have hb4 : Below wr.heap.size wr w4 := hb3.trans (hk4.below hb3.size (fun i e => by omega))
    have hw4 := HW.past hb4
    have hX : Xw w w4 g br px q ⟨y.x.no, y.x.sz, da, y.x.n, dc, y.x.d⟩ := by
      refine ⟨hrow4, hown.mono hw3.below.size, fun b hb hfo => ?_, fun hfo => ?_, Nat.le_trans HW.below.size hge, hok.x.byt, hy60⟩
      · have h1 := (hw3.qu.foot_lt hfo).2
        rcases hown.cases with ⟨e0, _, _⟩ | ⟨g', cur, e0, hB, _, _⟩
        · simp only [e0] at hb
          cases hb
        · simp only [e0] at hb
          simp [blk] at hb
          omega
      · have h1 := (HW.qu.foot_lt hfo).2
        omega
    refine wp_sqR (x := cAt [1,1,1,1,1,1,0,1,2,2,1,0,2,1,1,1,0] KP) (y := cAt [1,1,1,1,1,1,0,1,2,2,1,0,2,1,1,1,1] KP) (R := Went w n c g br k xb xo q.D) (by kernel_rfl) ?_ ?_
    · refine wp_sqR (x := cAt [1,1,1,1,1,1,0,1,2,2,1,0,2,1,1,1,0,0] KP) (y := cAt [1,1,1,1,1,1,0,1,2,2,1,0,2,1,1,1,0,1] KP) (by kernel_rfl) (a15 w4 n c g br k xb xo px y (range_kept hb4 hrg2) hlt a4 hf h2 h7 h9 h11 h12) ?_
      rintro a5 _ ⟨hf, h2, h7, h9, h11, h12, h77, rfl⟩
      refine wp_blockR (x := cAt [1,1,1,1,1,1,0,1,2,2,1,0,2,1,1,1,0,1,2] KP) (id := 2) (by kernel_rfl) ?_
      refine wp_endR (play_arms w w4 n c g br k xb xo px q ra m rc _ y.d hw4 hX hok.x.s1 (by omega) a5 hf h2 h7 h9 h11 h12 h77) ?_
      intro a6 w6 hg
      exact hg
    · rintro a5 w5 ⟨q', ra', m', rc', hf, h2, h7, h9, h11, hw, hd⟩
      refine wp_endR (p39 w w5 n c g br k xb xo q' ra' m' rc' hw (by omega) a5 hf h2 h7 h9 h11) ?_
      rintro a6 w6 ⟨hf, h2, h7, h9, h11, hw⟩
      exact ⟨q', ra', m', rc', hf, h2, h7, h9, h11, hw, hd⟩
  · rintro a3 w3 ⟨q', ra', m', rc', hf, h2, h7, h9, h11, hw, hd⟩
    refine wp_endR (a11 w3 n c g br k xb xo (by omega) a3 hf h2 h7 h9 h11) ?_
    rintro a4 _ ⟨hf, h2, h7, h9, h11, rfl⟩
    exact ⟨q', ra', m', rc', hf, h2, h7, h9, h11, hw, by omega⟩

set_option maxRecDepth 100000 in
set_option maxHeartbeats 4000000 in
theorem plays_any (I S : Int) (xa : Option Addr) (n c : Nat) (l : List Ac) (w : World) (hl : Acr w xa n l) (hn : n ≤ maxLen) (hS1 : S ≤ 9223372036854775807) :
    Calls Try.prog 3 #[.int .i64 I, .int .i64 S, .slice xa n c] w (Yes w) := by
  by_cases HF : Few l
  case neg =>
    have HLL := Lib.hid hl
    have HNF := Lib.hid HF
    clear hl HF
    go_enter Try.func3, Try.ntmps3
    go_wp2_with fail
    refine (few_any xa n c l w HLL.out hn).mono ?_
    rintro e w1 ⟨b, rfl, hb, hw⟩
    subst hw
    obtain rfl : b = false := by
      cases b with
      | false => rfl
      | true => exact absurd (hb.1 rfl) HNF.out
    clear hb
    go_wp2_with fail
    refine (works11_any _).mono ?_
    rintro e w1 ⟨rfl, hb⟩
    have HB := Lib.hid hb
    clear hb
    go_wp2_with fail
    go_ret
    exact ⟨rfl, HB.out⟩
  by_cases HV : I < 0 ∨ S < 0 ∨ 65536 < I
  · have HLL := Lib.hid hl
    have HFF := Lib.hid HF
    have HVV := Lib.hid HV
    clear hl HF HV hS1
    go_enter Try.func3, Try.ntmps3
    go_wp2_with fail
    refine (few_any xa n c l w HLL.out hn).mono ?_
    rintro e w1 ⟨b, rfl, hb, hw⟩
    subst hw
    obtain rfl : b = true := hb.2 HFF.out
    clear hb
    go_wp2_with fail
    refine (fNew_no I S _ HVV.out).mono ?_
    rintro e w1 ⟨rfl, hw⟩
    subst hw
    go_wp2_with fail
    refine (rNew_no I S _ HVV.out).mono ?_
    rintro e w1 ⟨rfl, hb⟩
    rw [show rqv none 0 0 ⟨0, 0, [], 0⟩ = .agg #[.slice none 0 0, .int .i64 0, .int .i64 0, .int .u64 0] from rfl]
    have HB := Lib.hid hb
    clear hb
    go_wp2_with fail
    refine (works11_any _).mono ?_
    rintro e w2 ⟨rfl, hb⟩
    have HB2 : Hid (Below w1.heap.size w1 w2) := Lib.hid (((Below.refl _ _).alloc (Nat.le_refl _) _).trans (hb.mono (by simp)))
    clear hb
    go_wp2_with fail
    go_ret
    exact ⟨rfl, HB.out.trans (HB2.out.mono HB.out.size)⟩
  have V0 : 0 ≤ I := by omega
  have V1 : I ≤ 65536 := by omega
  have V2 : 0 ≤ S := by omega
  refine calls_of_wp (c := KP) Try.func3 (by kernel_rfl) ?_
  have hf : Fr 158 { tmps := #[.int .i64 I, .int .i64 S, .slice xa n c] ++ Array.replicate (Try.f3.ntmps - (#[.int .i64 I, .int .i64 S, .slice xa n c] : Array Value).size) undef, defers := [] } := ⟨rfl, by rw [Try.ntmps3]; simp⟩
  refine wp_sqR (x := cAt [0] KP) (y := cAt [1] KP) (by kernel_rfl) (e0 w I S xa n c _ hf (sl_at _ _ 0 _ rfl) (sl_at _ _ 1 _ rfl) (sl_at _ _ 2 _ rfl)) ?_
  rintro a0 _ ⟨hf, h0, h1, h2, rfl⟩
  refine wp_sqR (x := cAt [1,0] KP) (y := cAt [1,1] KP) (by kernel_rfl) (e1 w I S xa n c l hl hn HF _ hf h0 h1 h2) ?_
  rintro a1 _ ⟨hf, h0, h1, h2, rfl⟩
  refine wp_sqR (x := cAt [1,1,0] KP) (y := cAt [1,1,1] KP) (by kernel_rfl) (e3 w I S xa n c V0 V1 V2 hS1 _ hf h0 h1 h2) ?_
  rintro a2 w2 ⟨g, hf, h0, h1, h2, h7, h8, hq, hb⟩
  refine wp_sqR (x := cAt [1,1,1,0] KP) (y := cAt [1,1,1,1] KP) (by kernel_rfl) (e4 w w2 I S xa n c g V0 V1 V2 ⟨hq, hb⟩ _ hf h0 h1 h2 h7 h8) ?_
  rintro a3 w3 ⟨br, hf, h2, h7, h8, h9, h10, hw⟩
  refine wp_sqR (x := cAt [1,1,1,1,0] KP) (y := cAt [1,1,1,1,1] KP) (by kernel_rfl) (e5 w3 xa n c g br _ hf h2 h7 h8 h9 h10) ?_
  rintro a4 _ ⟨hf, h2, h7, h9, h8, rfl⟩
  refine wp_sqR (x := cAt [1,1,1,1,1,0] KP) (y := cAt [1,1,1,1,1,1] KP) (by kernel_rfl) (e7 w3 xa n c g br _ hf h2 h7 h9 h8) ?_
  rintro a5 _ ⟨hf, h2, h7, h9, rfl⟩
  refine wp_sqR (R := fun a' w' => ∃ (q' : Qs) (ra' : Option Addr) (m' rc' : Nat), Fr 158 a' ∧ sl a' 2 = .slice xa n c ∧ sl a' 7 = .pointer (some ⟨g, 0, none⟩) ∧ sl a' 9 = .pointer (some ⟨br, 0, none⟩) ∧ Pw w w' g br q' ra' m' rc') (x := cAt [1,1,1,1,1,1,0] KP) (y := cAt [1,1,1,1,1,1,1] KP) (by kernel_rfl) ?_ ?_
  · refine wp_sqR (x := cAt [1,1,1,1,1,1,0,0] KP) (y := cAt [1,1,1,1,1,1,0,1] KP) (by kernel_rfl) (e9 w3 xa n c g br a5 hf h2 h7 h9) ?_
    rintro a6 _ ⟨hf, h2, h7, h9, h11, rfl⟩
    refine wp_blockR (x := cAt [1,1,1,1,1,1,0,1,2] KP) (id := 0) (by kernel_rfl) ?_
    refine wp_loopR (x := cAt [1,1,1,1,1,1,0,1,2,2] KP) (by kernel_rfl) (fun a' w' => ∃ (k : Nat) (q' : Qs) (ra' : Option Addr) (m' rc' : Nat), k ≤ n ∧ Fr 158 a' ∧ sl a' 2 = .slice xa n c ∧ sl a' 7 = .pointer (some ⟨g, 0, none⟩) ∧ sl a' 9 = .pointer (some ⟨br, 0, none⟩) ∧ sl a' 11 = .int .i64 (k : Int) ∧ Pw w w' g br q' ra' m' rc' ∧ q'.D ≤ k) (fun a' _ => n - (intOf (sl a' 11)).toNat) ⟨0, _, none, 0, 0, Nat.zero_le _, hf, h2, h7, h9, h11, hw, by simp⟩ ?_
    rintro a' w' ⟨k, q', ra', m', rc', hk, hf, h2, h7, h9, h11, hw, hd⟩
    by_cases hlt : k < n
    · refine wp_endR (play_round w w' xa n c g br q' ra' m' rc' k l hl HF hw hd hlt a' hf h2 h7 h9 h11) ?_
      rintro b2 w2 ⟨q2, ra2, m2, rc2, hf', h2', h7', h9', h11', hw', hd'⟩
      refine ⟨⟨k + 1, q2, ra2, m2, rc2, by omega, hf', h2', h7', h9', by rw [h11']; rfl, hw', by omega⟩, ?_⟩
      rw [h11, h11']
      simp only [intOf]
      omega
    · refine wp_endX (a10x w' xa n c g br k hlt a' hf h2 h7 h9 h11) ?_
      rintro b2 w2 ⟨hf', h2', h7', h9', rfl⟩
      refine thru ?_
      exact ⟨q', ra', m', rc', hf', h2', h7', h9', hw⟩
  rintro a8 w8 ⟨q8, ra, m, rc, hf, h2, h7, h9, hw8⟩
  exact p41 w w8 hw8.below a8 hf
end Go.Proofs.Ytjjidjemkddebaa

/-
  The contract of the statements' comparison of a queue with the document's. Conditions: a queue, and the document's one that is the same. (Made by gen_fiis.py.)
-/
import Derived.Test.YtjjidjemkddebaaFiIsA
namespace Go.Proofs.Ytjjidjemkddebaa
open Go.RowKit

set_option maxRecDepth 100000 in
set_option maxHeartbeats 4000000 in
theorem is_item (Wt wr : World) (g bx t : Nat) (m vc : Nat) (ys : List Pi) (i g2 : Nat) (y : Pi) (hy : ys[i]? = some y) (hv : Iv Wt wr (some ⟨g2, 0, none⟩) m vc ys i) (hap : ys.Pairwise (fun o p => ∀ k, blk o.a = some k → blk p.a ≠ some k)) (hl : ys.length = m) (hi : i < m) (hyn : y.n ≤ 1000000) (a : Act) (hf : Fr 105 a) (h0 : sl a 0 = .pointer (some ⟨g, 0, none⟩)) (h3 : sl a 3 = .pointer (some ⟨bx, 0, none⟩)) (h5 : sl a 5 = .int .i64 (t : Int)) (h6 : sl a 6 = .slice (some ⟨g2, 0, none⟩) m vc) (h7 : sl a 7 = .int .i64 (i : Int)) (h8 : sl a 8 = .int .i64 0) :
    Code.wp Try.prog (cAt [1,0,1,2,2,1,0,2,1,1,1,2,2,1,0,2,1,1] KI) (Exit.then (fun a' w' => Fr 105 a' ∧ sl a' 0 = .pointer (some ⟨g, 0, none⟩) ∧ sl a' 3 = .pointer (some ⟨bx, 0, none⟩) ∧ sl a' 5 = .int .i64 (t : Int) ∧ sl a' 6 = .slice (some ⟨g2, 0, none⟩) m vc ∧ sl a' 7 = .int .i64 (i : Int) ∧ Iv Wt w' (some ⟨g2, 0, none⟩) m vc ys (i + 1)) Nope) a wr := by
  have hyl : i < ys.length := by omega
  have hye : ys[i]'hyl = y := by rw [List.getElem?_eq_getElem hyl] at hy; exact Option.some.inj hy
  have hd := hv.data i hyl (Nat.le_refl _)
  rw [hye] at hd
  obtain ⟨g3, e3, _, ⟨cur, hcur⟩, hrg⟩ := hv.item hy
  simp only [Option.some.injEq, Addr.mk.injEq, and_true] at e3
  subst e3
  have hcell : wr.cell? ⟨g2, i * 3 + 2, none⟩ = some (.slice y.a y.n y.c) := hrg 2 _ rfl
  have hne : ∀ b, blk y.a = some b → ¬ b = g2 := fun b hb e => by
    obtain ⟨cur', hc'⟩ := hd.kind hb
    rw [e, hcur] at hc'
    simp at hc'
  have keep : ∀ W, Inc wr Wt.heap.size y.a y.n y.c W → W.cell? ⟨g2, i * 3 + 2, none⟩ = some (.slice y.a y.n y.c) := fun W hin => by
    obtain ⟨_, _, hkp⟩ := hin
    rw [← hcell]
    exact World.cell?_of_block (hkp.block g2 (World.block_lt_of_cell? wr _ hcell) (fun e => hne g2 e rfl))
  have hI0 : Inc wr Wt.heap.size y.a y.n y.c wr := Inc.start hd
  refine wp_blockR (x := cAt [1,0,1,2,2,1,0,2,1,1,1,2,2,1,0,2,1,1,2] KI) (id := 4) (by kernel_rfl) ?_
  refine wp_loopR (x := cAt [1,0,1,2,2,1,0,2,1,1,1,2,2,1,0,2,1,1,2,2] KI) (by kernel_rfl) (fun a' w' => ∃ j : Nat, j ≤ y.n ∧ Fr 105 a' ∧ sl a' 0 = .pointer (some ⟨g, 0, none⟩) ∧ sl a' 3 = .pointer (some ⟨bx, 0, none⟩) ∧ sl a' 5 = .int .i64 (t : Int) ∧ sl a' 6 = .slice (some ⟨g2, 0, none⟩) m vc ∧ sl a' 7 = .int .i64 (i : Int) ∧ sl a' 8 = .int .i64 (j : Int) ∧ Inc wr Wt.heap.size y.a y.n y.c w') (fun a' _ => y.n - (intOf (sl a' 8)).toNat) ⟨0, Nat.zero_le _, hf, h0, h3, h5, h6, h7, h8, hI0⟩ ?_
  rintro a' w' ⟨j, hj, hf, h0, h3, h5, h6, h7, h8a, hin⟩
  by_cases hlt : j < y.n
  · refine wp_sqR (x := cAt [1,0,1,2,2,1,0,2,1,1,1,2,2,1,0,2,1,1,2,2,0] KI) (y := cAt [1,0,1,2,2,1,0,2,1,1,1,2,2,1,0,2,1,1,2,2,1] KI) (by kernel_rfl) (i13 w' g bx t i g2 m vc j y.a y.n y.c (keep _ hin) hi hlt a' hf h0 h3 h5 h6 h7 h8a) ?_
    rintro b1 _ ⟨hf, h0, h3, h5, h6, h7, h8', rfl⟩
    obtain ⟨yg, z, eya, hz, hfz, hnext⟩ := hin.at_ hlt
    have hk2 := keep _ hin
    rw [eya] at hk2
    refine wp_sqR (x := cAt [1,0,1,2,2,1,0,2,1,1,1,2,2,1,0,2,1,1,2,2,1,0] KI) (y := cAt [1,0,1,2,2,1,0,2,1,1,1,2,2,1,0,2,1,1,2,2,1,1] KI) (R := fun a' w' => Fr 105 a' ∧ sl a' 0 = .pointer (some ⟨g, 0, none⟩) ∧ sl a' 3 = .pointer (some ⟨bx, 0, none⟩) ∧ sl a' 5 = .int .i64 (t : Int) ∧ sl a' 6 = .slice (some ⟨g2, 0, none⟩) m vc ∧ sl a' 7 = .int .i64 (i : Int) ∧ sl a' 8 = .int .i64 (j : Int) ∧ Inc wr Wt.heap.size y.a y.n y.c w') (by kernel_rfl) ?_ ?_
    · refine wp_blockR (x := cAt [1,0,1,2,2,1,0,2,1,1,1,2,2,1,0,2,1,1,2,2,1,0,2] KI) (id := 5) (by kernel_rfl) ?_
      refine wp_endR (i15 w' Wt.heap.size g bx t i g2 m vc j yg y.n y.c z wr hk2 hi hlt hz hfz hnext b1 hf h0 h3 h5 h6 h7 h8') ?_
      rintro b2 w2 ⟨hf, h0, h3, h5, h6, h7, h8, hin2⟩
      exact ⟨hf, h0, h3, h5, h6, h7, h8, by rw [eya]; exact hin2⟩
    · rintro b2 w2 ⟨hf, h0, h3, h5, h6, h7, h8, hin2⟩
      refine wp_endR (i14 w2 g bx t i g2 m vc j (by omega) b2 hf h0 h3 h5 h6 h7 h8) ?_
      rintro b3 _ ⟨hf, h0, h3, h5, h6, h7, h8'', rfl⟩
      refine ⟨⟨j + 1, by omega, hf, h0, h3, h5, h6, h7, by rw [h8'']; rfl, hin2⟩, ?_⟩
      rw [h8a, h8'']
      simp only [intOf]
      omega
  · refine wp_endX (i13x w' g bx t i g2 m vc j y.a y.n y.c (keep _ hin) hi hlt a' hf h0 h3 h5 h6 h7 h8a) ?_
    rintro b2 w2 ⟨hf, h0, h3, h5, h6, h7, rfl⟩
    refine thru ?_
    refine ⟨hf, h0, h3, h5, h6, h7, ?_⟩
    exact hv.next hap hyl (by rw [hye]; exact hin)

set_option maxRecDepth 100000 in
set_option maxHeartbeats 4000000 in
theorem is_round (w wr : World) (B g bx : Nat) (q : Qs) (ra : Option Addr) (n c t : Nat) (HI : Iw w wr B g bx q ra n c) (HOK : q.abs.ok) (ht : t < 2) (a : Act) (hf : Fr 105 a) (h0 : sl a 0 = .pointer (some ⟨g, 0, none⟩)) (h3 : sl a 3 = .pointer (some ⟨bx, 0, none⟩)) (h5 : sl a 5 = .int .i64 (t : Int)) :
    Code.wp Try.prog (cAt [1,0,1,2,2] KI) (Exit.then (fun a' w' => Fr 105 a' ∧ sl a' 0 = .pointer (some ⟨g, 0, none⟩) ∧ sl a' 3 = .pointer (some ⟨bx, 0, none⟩) ∧ sl a' 5 = .int .i64 ((t : Int) + 1) ∧ Iw w w' B g bx q ra n c) Nope) a wr := by
  have hal : q.abs.l.length = q.L.length := by simp [Qs.abs]
  refine wp_sqR (x := cAt [1,0,1,2,2,0] KI) (y := cAt [1,0,1,2,2,1] KI) (by kernel_rfl) (i2 wr g bx t ht a hf h0 h3 h5) ?_
  rintro a1 _ ⟨hf, h0, h3, h5, rfl⟩
  refine wp_sqR (x := cAt [1,0,1,2,2,1,0] KI) (y := cAt [1,0,1,2,2,1,1] KI) (R := fun a' w' => Fr 105 a' ∧ sl a' 0 = .pointer (some ⟨g, 0, none⟩) ∧ sl a' 3 = .pointer (some ⟨bx, 0, none⟩) ∧ sl a' 5 = .int .i64 (t : Int) ∧ Iw w w' B g bx q ra n c) (by kernel_rfl) ?_ ?_
  · refine wp_blockR (x := cAt [1,0,1,2,2,1,0,2] KI) (id := 1) (by kernel_rfl) ?_
    refine wp_sqR (x := cAt [1,0,1,2,2,1,0,2,0] KI) (y := cAt [1,0,1,2,2,1,0,2,1] KI) (by kernel_rfl) (i4 w wr B g bx q ra n c t HI a1 hf h0 h3 h5) ?_
    rintro a2 w2 ⟨v, m, vc, ys, hf, h0, h3, h5, h6, hi2, hv2, hyl, hyi, hap⟩
    have hn := HI.len
    have hnm : m = n := by
      have h1 := congrArg List.length hyi
      simp at h1
      omega
    subst hnm
    refine wp_sqR (x := cAt [1,0,1,2,2,1,0,2,1,0] KI) (y := cAt [1,0,1,2,2,1,0,2,1,1] KI) (by kernel_rfl) (i5 w w2 B g bx q ra m c t v vc hi2 HOK hn.symm a2 hf h0 h3 h5 h6) ?_
    rintro a3 w3 ⟨hf, h0, h3, h5, h6, hi3, hb3⟩
    have hv3 := hv2.past hb3
    have hm6 : m ≤ 65536 := by have := HOK.len; omega
    refine wp_sqR (x := cAt [1,0,1,2,2,1,0,2,1,1,0] KI) (y := cAt [1,0,1,2,2,1,0,2,1,1,1] KI) (by kernel_rfl) (i7 w3 g bx t v m vc a3 hf h0 h3 h5 h6) ?_
    rintro a4 _ ⟨hf, h0, h3, h5, h6, h7, rfl⟩
    refine wp_blockR (x := cAt [1,0,1,2,2,1,0,2,1,1,1,2] KI) (id := 2) (by kernel_rfl) ?_
    refine wp_loopR (x := cAt [1,0,1,2,2,1,0,2,1,1,1,2,2] KI) (by kernel_rfl) (fun a' w' => ∃ i : Nat, i ≤ m ∧ Fr 105 a' ∧ sl a' 0 = .pointer (some ⟨g, 0, none⟩) ∧ sl a' 3 = .pointer (some ⟨bx, 0, none⟩) ∧ sl a' 5 = .int .i64 (t : Int) ∧ sl a' 6 = .slice v m vc ∧ sl a' 7 = .int .i64 (i : Int) ∧ Iv wr w' v m vc ys i) (fun a' _ => m - (intOf (sl a' 7)).toNat) ⟨0, Nat.zero_le _, hf, h0, h3, h5, h6, h7, hv3⟩ ?_
    rintro a' w' ⟨i, hi, hf, h0, h3, h5, h6, h7a, hv⟩
    by_cases hlt : i < m
    · have hyi2 : i < ys.length := by omega
      obtain ⟨y, hy⟩ : ∃ y, ys[i]? = some y := ⟨_, List.getElem?_eq_getElem hyi2⟩
      obtain ⟨g2, rfl, _, _, hrg⟩ := hv.item hy
      have hye : ys[i]'hyi2 = y := by rw [List.getElem?_eq_getElem hyi2] at hy; exact Option.some.inj hy
      have hown := hv.data i hyi2 (Nat.le_refl _)
      rw [hye] at hown
      have hyt : q.abs.l[i]? = some y.it := by rw [← hyi, List.getElem?_map, hy]; rfl
      obtain ⟨x, hx, hxy⟩ : ∃ x ∈ q.L, x.it = y.it := by
        have := List.mem_of_getElem? hyt
        obtain ⟨x, hx, e⟩ := List.mem_map.1 this
        exact ⟨x, hx, e⟩
      have hdd : x.d = y.d := congrArg It.d hxy
      have hxd := HI.qu.data x hx
      have hat : y.at_ w' := by
        have h1 := hown.len
        have h2 := hxd.1.len
        have h3 := hxd.2.2
        exact ⟨h1, hown.rd, hdd ▸ hxd.2.1, by rw [hdd] at h2; omega⟩
      refine wp_sqR (x := cAt [1,0,1,2,2,1,0,2,1,1,1,2,2,0] KI) (y := cAt [1,0,1,2,2,1,0,2,1,1,1,2,2,1] KI) (by kernel_rfl) (i8 w' g bx t (some ⟨g2, 0, none⟩) m vc i hlt a' hf h0 h3 h5 h6 h7a) ?_
      rintro b1 _ ⟨hf, h0, h3, h5, h6, h7, rfl⟩
      refine wp_sqR (x := cAt [1,0,1,2,2,1,0,2,1,1,1,2,2,1,0] KI) (y := cAt [1,0,1,2,2,1,0,2,1,1,1,2,2,1,1] KI) (R := fun a' w' => Fr 105 a' ∧ sl a' 0 = .pointer (some ⟨g, 0, none⟩) ∧ sl a' 3 = .pointer (some ⟨bx, 0, none⟩) ∧ sl a' 5 = .int .i64 (t : Int) ∧ sl a' 6 = .slice (some ⟨g2, 0, none⟩) m vc ∧ sl a' 7 = .int .i64 (i : Int) ∧ Iv wr w' (some ⟨g2, 0, none⟩) m vc ys (i + 1)) (by kernel_rfl) ?_ ?_
      · refine wp_blockR (x := cAt [1,0,1,2,2,1,0,2,1,1,1,2,2,1,0,2] KI) (id := 3) (by kernel_rfl) ?_
        refine wp_sqR (x := cAt [1,0,1,2,2,1,0,2,1,1,1,2,2,1,0,2,0] KI) (y := cAt [1,0,1,2,2,1,0,2,1,1,1,2,2,1,0,2,1] KI) (by kernel_rfl) (i10 w w' B g bx q ra m c t i g2 m vc y (HI.past hv.below) hlt hm6 (show q.abs.l.length = m by omega) hyt hrg hat b1 hf h0 h3 h5 h6 h7) ?_
        rintro b2 w2 ⟨hf, h0, h3, h5, h6, h7, hb2⟩
        refine wp_sqR (x := cAt [1,0,1,2,2,1,0,2,1,1,1,2,2,1,0,2,1,0] KI) (y := cAt [1,0,1,2,2,1,0,2,1,1,1,2,2,1,0,2,1,1] KI) (by kernel_rfl) (i12 w2 g bx t (some ⟨g2, 0, none⟩) m vc i b2 hf h0 h3 h5 h6 h7) ?_
        rintro b3 _ ⟨hf, h0, h3, h5, h6, h7, h8, rfl⟩
        refine wp_endR (is_item wr w2 g bx t m vc ys i g2 y hy (hv.past hb2) hap hyl hlt hat.few b3 hf h0 h3 h5 h6 h7 h8) ?_
        rintro b4 w4 ⟨hf, h0, h3, h5, h6, h7, hv4⟩
        exact ⟨hf, h0, h3, h5, h6, h7, hv4⟩
      · rintro b2 w2 ⟨hf, h0, h3, h5, h6, h7, hv2⟩
        refine wp_endR (i9 w2 g bx t (some ⟨g2, 0, none⟩) m vc i (by omega) b2 hf h0 h3 h5 h6 h7) ?_
        rintro b3 _ ⟨hf, h0, h3, h5, h6, h7'', rfl⟩
        refine ⟨⟨i + 1, by omega, hf, h0, h3, h5, h6, by rw [h7'']; rfl, hv2⟩, ?_⟩
        rw [h7a, h7'']
        simp only [intOf]
        omega
    · refine wp_endX (i8x w' g bx t v m vc i hlt a' hf h0 h3 h5 h6 h7a) ?_
      rintro b2 w2 ⟨hf, h0, h3, h5, h6, rfl⟩
      refine thru ?_
      exact ⟨hf, h0, h3, h5, HI.past hv.below⟩
  · rintro a2 w2 ⟨hf, h0, h3, h5, hi2⟩
    refine wp_endR (i3 w2 g bx t ht a2 hf h0 h3 h5) ?_
    rintro a3 _ ⟨hf, h0, h3, h5, rfl⟩
    exact ⟨hf, h0, h3, h5, hi2⟩

theorem sl_at (xs : Array Value) (m i : Nat) (v : Value) (h : xs[i]? = some v) : sl ⟨xs ++ Array.replicate m undef, []⟩ i = v := by
  have hi := (Array.getElem?_eq_some_iff.1 h).1
  simp [sl, Array.getElem?_append, hi]
  exact (Array.getElem?_eq_some_iff.1 h).2
set_option maxRecDepth 100000 in
set_option maxHeartbeats 4000000 in
theorem is_any (B g : Nat) (q : Qs) (ra : Option Addr) (n c : Nat) (w : World) (hq : Qu w B g q) (hr : Rt w ra n q.abs.l) (hc : n ≤ c) (hD : q.D < 18446744073709551615) :
    Calls Try.prog 20 #[.pointer (some ⟨g, 0, none⟩), rqv ra n c q.abs] w (Yes w) := by
  have HOK : q.abs.ok := hq.ok.abs (fun x hx => (hq.data x hx).2.1) hD
  have hn : n ≤ 65536 := by have h1 := HOK.len; have h2 := hr.len; omega
  refine calls_of_wp (c := KI) Try.func20 (by kernel_rfl) ?_
  have hf : Fr 105 { tmps := #[.pointer (some ⟨g, 0, none⟩), rqv ra n c q.abs] ++ Array.replicate (Try.f20.ntmps - (#[.pointer (some ⟨g, 0, none⟩), rqv ra n c q.abs] : Array Value).size) undef, defers := [] } := ⟨rfl, by rw [Try.ntmps20]; simp⟩
  refine wp_sqR (x := cAt [0] KI) (y := cAt [1] KI) (by kernel_rfl) (i0 w B g q ra n c hq hr _ hf (sl_at _ _ 0 _ rfl) (sl_at _ _ 1 _ rfl)) ?_
  rintro a0 w0 ⟨bx, hf, h0, h3, hi⟩
  refine wp_sqR (R := fun a' w' => Fr 105 a' ∧ sl a' 0 = .pointer (some ⟨g, 0, none⟩) ∧ sl a' 3 = .pointer (some ⟨bx, 0, none⟩) ∧ Iw w w' B g bx q ra n c) (x := cAt [1,0] KI) (y := cAt [1,1] KI) (by kernel_rfl) ?_ ?_
  · refine wp_sqR (x := cAt [1,0,0] KI) (y := cAt [1,0,1] KI) (by kernel_rfl) (i1 w0 g bx a0 hf h0 h3) ?_
    rintro a1 _ ⟨hf, h0, h3, h5, rfl⟩
    refine wp_blockR (x := cAt [1,0,1,2] KI) (id := 0) (by kernel_rfl) ?_
    refine wp_loopR (x := cAt [1,0,1,2,2] KI) (by kernel_rfl) (fun a' w' => ∃ t : Nat, t ≤ 2 ∧ Fr 105 a' ∧ sl a' 0 = .pointer (some ⟨g, 0, none⟩) ∧ sl a' 3 = .pointer (some ⟨bx, 0, none⟩) ∧ sl a' 5 = .int .i64 (t : Int) ∧ Iw w w' B g bx q ra n c) (fun a' _ => 2 - (intOf (sl a' 5)).toNat) ⟨0, by omega, hf, h0, h3, h5, hi⟩ ?_
    rintro a' w' ⟨t, ht, hf, h0, h3, h5a, hi'⟩
    by_cases hlt : t < 2
    · refine wp_endR (is_round w w' B g bx q ra n c t hi' HOK hlt a' hf h0 h3 h5a) ?_
      rintro b2 w2 ⟨hf, h0, h3, h5, hi2⟩
      refine ⟨⟨t + 1, by omega, hf, h0, h3, by rw [h5]; rfl, hi2⟩, ?_⟩
      rw [h5a, h5]
      simp only [intOf]
      omega
    · refine wp_endX (i2x w' g bx t hlt a' hf h0 h3 h5a) ?_
      rintro b2 w2 ⟨hf, h0, h3, rfl⟩
      refine thru ?_
      exact ⟨hf, h0, h3, hi'⟩
  rintro a1 w1 ⟨hf, h0, h3, hi1⟩
  refine wp_sqR (x := cAt [1,1,0] KI) (y := cAt [1,1,1] KI) (by kernel_rfl) (i16 w w1 B g bx q ra n c hi1 a1 hf h0 h3) ?_
  rintro a2 w2 ⟨b9, y, hb, hf, h0, h3, h9, h10, hi2, hb9, hat, hyi, hbh⟩
  refine wp_sqR (x := cAt [1,1,1,0] KI) (y := cAt [1,1,1,1] KI) (by kernel_rfl) (i17 w w2 B g bx q ra n c b9 hb hi2 hc hn a2 hf h0 h3 h9 h10) ?_
  rintro a3 w3 ⟨b12, hf, h0, h3, h9, h10, h12, h13, hbw, hbb, hb12⟩
  rw [← hbh] at h13
  rw [← hyi] at hb12
  exact i18 w w3 b9 b12 hb y hbw ((hbb.block _ (Array.getElem?_eq_some_iff.1 hb9).1).trans hb9) (hat.below hbb) hb12 a3 hf h9 h10 h12 h13
end Go.Proofs.Ytjjidjemkddebaa

/-
  ShaperEarly's walk, put together of its pieces. Conditions: rows of classes and acts whose numbers fit their Go types. (Made by gen_spearly.py.)
-/
import Derived.Test.YticjfhmkpciihaaSpEaA
namespace Go.Proofs.Yticjfhmkpciihaa
open Go.RowKit Bkt

theorem Acr.cell {w : World} {yb yo : Nat} {m : Nat} {l : List Ac} (h : Acr w (some ⟨yb, yo, none⟩) m l) {i : Nat} {y : Ac} (hy : l[i]? = some y) : w.rangeAt yb (yo + i * 6) y.cs := by
  obtain ⟨b, o, e, hc⟩ := h.cells (by intro e; rw [e] at hy; simp at hy)
  simp only [Option.some.injEq, Addr.mk.injEq, and_true] at e
  obtain ⟨rfl, rfl⟩ := e
  exact hc i y hy
theorem wp_onTs {P : Program} {c A B : Code} {Q : Exit → Act → World → Prop} {a : Act} {w : World} {i : Nat} (hc : c = .cond (.tmp i) A B) (hA : A = .skip) (h : sl a i = .bool true) (hq : Q .normal a w) : c.wp P Q a w := wp_onT hc h (wp_skipR hA hq)

/-- The offers. -/
theorem early_offers (w wr : World) (ya : Option Addr) (m c2 : Nat) (tv : Int) (l : List Ac) (hl : Acr w ya m l) (hfew : Few 12 l) (ga gb : Nat) (sa sb : Sh) (HE : E1 w wr ga gb sa sb 0) (a : Act) (hf : Fr 183 a) (h1 : sl a 1 = .slice ya m c2) (h2 : sl a 2 = .int .u8 tv) (h7 : sl a 7 = .pointer (some ⟨ga, 0, none⟩)) (h9 : sl a 9 = .pointer (some ⟨gb, 0, none⟩)) :
    Code.wp Try.prog (cAt [1,1,1,1,1,0] KE) (Exit.then (fun a' w' => ∃ sa sb, E1 w w' ga gb sa sb 24 ∧ Fr 183 a' ∧ sl a' 1 = .slice ya m c2 ∧ sl a' 2 = .int .u8 tv ∧ sl a' 7 = .pointer (some ⟨ga, 0, none⟩) ∧ sl a' 9 = .pointer (some ⟨gb, 0, none⟩)) Nope) a wr := by
  have hm12 : m ≤ 12 := by rw [← hl.len]; exact hfew.1
  refine wp_sqR (x := cAt [1,1,1,1,1,0,0] KE) (y := cAt [1,1,1,1,1,0,1] KE) (by kernel_rfl) (y7 wr ya m c2 tv ga gb a hf h1 h2 h7 h9) ?_
  rintro a1 _ ⟨hf, h1, h2, h7, h9, h11, rfl⟩
  refine wp_blockR (x := cAt [1,1,1,1,1,0,1,2] KE) (id := 0) (by kernel_rfl) ?_
  refine wp_loopR (x := cAt [1,1,1,1,1,0,1,2,2] KE) (by kernel_rfl) (fun a' w' => ∃ (i : Nat) (sa sb : Sh), i ≤ m ∧ E1 w w' ga gb sa sb (2 * (i : Int)) ∧ Fr 183 a' ∧ sl a' 1 = .slice ya m c2 ∧ sl a' 2 = .int .u8 tv ∧ sl a' 7 = .pointer (some ⟨ga, 0, none⟩) ∧ sl a' 9 = .pointer (some ⟨gb, 0, none⟩) ∧ sl a' 11 = .int .i64 (i : Int)) (fun a' _ => m - (intOf (sl a' 11)).toNat) ⟨0, sa, sb, Nat.zero_le _, HE, hf, h1, h2, h7, h9, h11⟩ ?_
  rintro a2 w2 ⟨i, sa, sb, hi, HE, hf, h1, h2, h7, h9, h11⟩
  by_cases hlt : i < m
  · refine wp_sqR (x := cAt [1,1,1,1,1,0,1,2,2,0] KE) (y := cAt [1,1,1,1,1,0,1,2,2,1] KE) (by kernel_rfl) (y8 w2 ya m c2 tv ga gb i hlt a2 hf h1 h2 h7 h9 h11) ?_
    rintro a3 _ ⟨hf, h1, h2, h7, h9, h11', rfl⟩
    obtain ⟨y, yb, yo, hy, hyok, hya, hrg⟩ := hl.nth hlt
    have hy20 := hfew.2 y (List.mem_of_getElem? hy)
    rw [hya] at h1
    refine wp_sqR (x := cAt [1,1,1,1,1,0,1,2,2,1,0] KE) (y := cAt [1,1,1,1,1,0,1,2,2,1,1] KE) (by kernel_rfl) (R := fun a' w' => ∃ sa sb, E1 w w' ga gb sa sb (2 * (i : Int) + 2) ∧ Fr 183 a' ∧ sl a' 1 = .slice ya m c2 ∧ sl a' 2 = .int .u8 tv ∧ sl a' 7 = .pointer (some ⟨ga, 0, none⟩) ∧ sl a' 9 = .pointer (some ⟨gb, 0, none⟩) ∧ sl a' 11 = .int .i64 (i : Int)) ?_ ?_
    · refine wp_blockR (x := cAt [1,1,1,1,1,0,1,2,2,1,0,2] KE) (id := 1) (by kernel_rfl) ?_
      refine wp_sqR (x := cAt [1,1,1,1,1,0,1,2,2,1,0,2,0] KE) (y := cAt [1,1,1,1,1,0,1,2,2,1,0,2,1] KE) (by kernel_rfl) (y10 w w2 yb yo m c2 tv ga gb i sa sb _ y HE (range_kept HE.l2.a.below hrg) hrg hyok hy20 (show (_ : Int) < _ by omega) hlt a3 hf h1 h2 h7 h9 h11') ?_
      rintro a4 w4 ⟨sa', sb', hf, h1, h2, h7, h9, h11', h80, HE'⟩
      refine wp_onF (A := cAt [1,1,1,1,1,0,1,2,2,1,0,2,1,3] KE) (B := cAt [1,1,1,1,1,0,1,2,2,1,0,2,1,4] KE) (by kernel_rfl) h80 ?_
      refine wp_skipR (by kernel_rfl) ?_
      rw [← hya] at h1
      exact ⟨sa', sb', HE', hf, h1, h2, h7, h9, h11'⟩
    rintro a4 w4 ⟨sa', sb', HE', hf, h1, h2, h7, h9, h11'⟩
    refine wp_endR (y9 w4 ya m c2 tv ga gb i (by omega) a4 hf h1 h2 h7 h9 h11') ?_
    rintro a5 _ ⟨hf, h1, h2, h7, h9, h11'', rfl⟩
    refine ⟨⟨i + 1, sa', sb', hlt, ?_, hf, h1, h2, h7, h9, by rw [h11'']; rfl⟩, ?_⟩
    · rw [show 2 * ((i + 1 : Nat) : Int) = 2 * (i : Int) + 2 by omega]; exact HE'
    · rw [h11, h11'']
      simp only [intOf]
      omega
  · refine wp_endX (y8x w2 ya m c2 tv ga gb i hlt a2 hf h1 h2 h7 h9 h11) ?_
    rintro a3 _ ⟨hf, h1, h2, h7, h9, rfl⟩
    refine thru ?_
    have hl2 := HE.l2
    refine ⟨sa, sb, ⟨⟨⟨hl2.a.sw, hl2.a.n1, hl2.a.below, hl2.a.db.more (by omega), hl2.a.bT, hl2.a.T0, hl2.a.T1, by omega⟩, ⟨hl2.b.sw, hl2.b.n1, hl2.b.below, hl2.b.db.more (by omega), hl2.b.bT, hl2.b.T0, hl2.b.T1, by omega⟩, hl2.dis⟩, HE.ta, HE.tb, HE.ab⟩, hf, h1, h2, h7, h9⟩

/-- One tick's items: each at that tick, the classes rise. -/
theorem early_one (wr : World) (gb nn : Nat) (vw : Option Addr) (nw cw : Nat) (vg : Option Addr) (ng cg t : Nat) (v1 : Option Addr) (n1 c1 : Nat) (y1 : List Po) (B1 : Nat) (ht : t ≤ 200) (HO : Ops wr B1 v1 n1 c1 y1) (hn1 : n1 ≤ 1000000)
    (hat : ∀ x ∈ y1.map Po.ot, x.t = 7 + (t : Int)) (hris : ∀ (i : Nat) (x y : Ot), (y1.map Po.ot)[i]? = some x → (y1.map Po.ot)[i + 1]? = some y → x.c ≤ y.c) (a : Act) (hf : Fr 183 a) (h9 : sl a 9 = .pointer (some ⟨gb, 0, none⟩)) (h12 : sl a 12 = .int .u64 (nn : Int)) (h13 : sl a 13 = .slice vw nw cw) (h14 : sl a 14 = .slice vg ng cg) (h15 : sl a 15 = .int .u64 (t : Int)) (h16 : sl a 16 = .slice v1 n1 c1) :
    Code.wp Try.prog (cAt [1,1,1,1,1,1,1,1,1,0,1,2,2,1,0,2,1,0] KE) (Exit.then (fun a' w' => Below wr.heap.size wr w' ∧ Fr 183 a' ∧ sl a' 9 = .pointer (some ⟨gb, 0, none⟩) ∧ sl a' 12 = .int .u64 (nn : Int) ∧ sl a' 13 = .slice vw nw cw ∧ sl a' 14 = .slice vg ng cg ∧ sl a' 15 = .int .u64 (t : Int) ∧ sl a' 16 = .slice v1 n1 c1) Nope) a wr := by
  refine wp_sqR (x := cAt [1,1,1,1,1,1,1,1,1,0,1,2,2,1,0,2,1,0,0] KE) (y := cAt [1,1,1,1,1,1,1,1,1,0,1,2,2,1,0,2,1,0,1] KE) (by kernel_rfl) (y19 wr gb nn vw nw cw vg ng cg t v1 n1 c1 a hf h9 h12 h13 h14 h15 h16) ?_
  rintro a1 _ ⟨hf, h9, h12, h13, h14, h15, h16, h17, rfl⟩
  refine wp_blockR (x := cAt [1,1,1,1,1,1,1,1,1,0,1,2,2,1,0,2,1,0,1,2] KE) (id := 4) (by kernel_rfl) ?_
  refine wp_loopR (x := cAt [1,1,1,1,1,1,1,1,1,0,1,2,2,1,0,2,1,0,1,2,2] KE) (by kernel_rfl) (fun a' w' => ∃ i : Nat, i ≤ n1 ∧ Below wr.heap.size wr w' ∧ Fr 183 a' ∧ sl a' 9 = .pointer (some ⟨gb, 0, none⟩) ∧ sl a' 12 = .int .u64 (nn : Int) ∧ sl a' 13 = .slice vw nw cw ∧ sl a' 14 = .slice vg ng cg ∧ sl a' 15 = .int .u64 (t : Int) ∧ sl a' 16 = .slice v1 n1 c1 ∧ sl a' 17 = .int .i64 (i : Int)) (fun a' _ => n1 - (intOf (sl a' 17)).toNat) ⟨0, Nat.zero_le _, Below.refl _ _, hf, h9, h12, h13, h14, h15, h16, h17⟩ ?_
  rintro a2 w2 ⟨i, hi, hb, hf, h9, h12, h13, h14, h15, h16, h17⟩
  by_cases hlt : i < n1
  · refine wp_sqR (x := cAt [1,1,1,1,1,1,1,1,1,0,1,2,2,1,0,2,1,0,1,2,2,0] KE) (y := cAt [1,1,1,1,1,1,1,1,1,0,1,2,2,1,0,2,1,0,1,2,2,1] KE) (by kernel_rfl) (y20 w2 gb nn vw nw cw vg ng cg t v1 n1 c1 i hlt a2 hf h9 h12 h13 h14 h15 h16 h17) ?_
    rintro a3 _ ⟨hf, h9, h12, h13, h14, h15, h16, h17', rfl⟩
    have HO2 := HO.below hb
    have hlen := HO.len
    obtain ⟨p, hp⟩ : ∃ p, y1[i]? = some p := ⟨_, List.getElem?_eq_getElem (by omega)⟩
    obtain ⟨r1, hv1, hrg⟩ := HO2.nth hp
    have hpt : p.t = 7 + (t : Int) := hat p.ot (List.mem_map.2 ⟨p, List.mem_of_getElem? hp, rfl⟩)
    have c0 : w2.cell? ⟨r1, i * 5, none⟩ = some (.int .u64 (7 + (t : Int))) := by rw [← hpt]; exact hrg 0 _ rfl
    rw [hv1] at h16
    refine wp_sqR (x := cAt [1,1,1,1,1,1,1,1,1,0,1,2,2,1,0,2,1,0,1,2,2,1,0] KE) (y := cAt [1,1,1,1,1,1,1,1,1,0,1,2,2,1,0,2,1,0,1,2,2,1,1] KE) (by kernel_rfl) (R := fun a' w' => Below wr.heap.size wr w' ∧ Fr 183 a' ∧ sl a' 9 = .pointer (some ⟨gb, 0, none⟩) ∧ sl a' 12 = .int .u64 (nn : Int) ∧ sl a' 13 = .slice vw nw cw ∧ sl a' 14 = .slice vg ng cg ∧ sl a' 15 = .int .u64 (t : Int) ∧ sl a' 16 = .slice v1 n1 c1 ∧ sl a' 17 = .int .i64 (i : Int)) ?_ ?_
    · refine wp_blockR (x := cAt [1,1,1,1,1,1,1,1,1,0,1,2,2,1,0,2,1,0,1,2,2,1,0,2] KE) (id := 5) (by kernel_rfl) ?_
      have key : ∀ (a4 : Act) (w4 : World), Fr 183 a4 ∧ sl a4 9 = .pointer (some ⟨gb, 0, none⟩) ∧ sl a4 12 = .int .u64 (nn : Int) ∧ sl a4 13 = .slice vw nw cw ∧ sl a4 14 = .slice vg ng cg ∧ sl a4 15 = .int .u64 (t : Int) ∧ sl a4 16 = .slice (some ⟨r1, 0, none⟩) n1 c1 ∧ sl a4 17 = .int .i64 (i : Int) ∧ sl a4 128 = .bool false → Below w2.heap.size w2 w4 → Code.wp Try.prog (cAt [1,1,1,1,1,1,1,1,1,0,1,2,2,1,0,2,1,0,1,2,2,1,0,2,1] KE) (Exit.inBlock 5 (Exit.then (fun a' w' => Below wr.heap.size wr w' ∧ Fr 183 a' ∧ sl a' 9 = .pointer (some ⟨gb, 0, none⟩) ∧ sl a' 12 = .int .u64 (nn : Int) ∧ sl a' 13 = .slice vw nw cw ∧ sl a' 14 = .slice vg ng cg ∧ sl a' 15 = .int .u64 (t : Int) ∧ sl a' 16 = .slice v1 n1 c1 ∧ sl a' 17 = .int .i64 (i : Int)) Nope)) a4 w4 := by
        rintro a4 w4 ⟨hf, h9, h12, h13, h14, h15, h16, h17', h128⟩ hb4
        refine wp_onF (A := cAt [1,1,1,1,1,1,1,1,1,0,1,2,2,1,0,2,1,0,1,2,2,1,0,2,1,3] KE) (B := cAt [1,1,1,1,1,1,1,1,1,0,1,2,2,1,0,2,1,0,1,2,2,1,0,2,1,4] KE) (by kernel_rfl) h128 ?_
        refine wp_skipR (by kernel_rfl) ?_
        rw [← hv1] at h16
        exact ⟨hb.trans (hb4.mono hb.size), hf, h9, h12, h13, h14, h15, h16, h17'⟩
      by_cases h0 : i = 0
      · refine wp_sqR (x := cAt [1,1,1,1,1,1,1,1,1,0,1,2,2,1,0,2,1,0,1,2,2,1,0,2,0] KE) (y := cAt [1,1,1,1,1,1,1,1,1,0,1,2,2,1,0,2,1,0,1,2,2,1,0,2,1] KE) (by kernel_rfl) (y22a w2 gb nn vw nw cw vg ng cg t r1 n1 c1 i hlt ht c0 h0 a3 hf h9 h12 h13 h14 h15 h16 h17') ?_
        rintro a4 w4 ⟨hf, h9, h12, h13, h14, h15, h16, h17', h128, hb4⟩
        exact key a4 w4 ⟨hf, h9, h12, h13, h14, h15, h16, h17', h128⟩ hb4
      · obtain ⟨q, hq⟩ : ∃ q, y1[i - 1]? = some q := ⟨_, List.getElem?_eq_getElem (by omega)⟩
        obtain ⟨r2, hv2, hrg2⟩ := HO2.nth hq
        have hrr : r2 = r1 := by rw [hv1] at hv2; simpa using hv2.symm
        subst hrr
        have hle : q.c ≤ p.c := hris (i - 1) q.ot p.ot (by rw [List.getElem?_map, hq]; rfl) (by rw [show i - 1 + 1 = i by omega, List.getElem?_map, hp]; rfl)
        refine wp_sqR (x := cAt [1,1,1,1,1,1,1,1,1,0,1,2,2,1,0,2,1,0,1,2,2,1,0,2,0] KE) (y := cAt [1,1,1,1,1,1,1,1,1,0,1,2,2,1,0,2,1,0,1,2,2,1,0,2,1] KE) (by kernel_rfl) (y22b w2 gb nn vw nw cw vg ng cg t r2 p.ot q.ot n1 c1 i hlt ht ⟨c0, hrg 1 _ rfl, hrg2 1 _ rfl⟩ (by omega) hle hn1 a3 hf h9 h12 h13 h14 h15 h16 h17') ?_
        rintro a4 w4 ⟨hf, h9, h12, h13, h14, h15, h16, h17', h128, hb4⟩
        exact key a4 w4 ⟨hf, h9, h12, h13, h14, h15, h16, h17', h128⟩ hb4
    rintro a4 w4 ⟨hb4, hf, h9, h12, h13, h14, h15, h16, h17'⟩
    refine wp_endR (y21 w4 gb nn vw nw cw vg ng cg t v1 n1 c1 i (by omega) a4 hf h9 h12 h13 h14 h15 h16 h17') ?_
    rintro a5 _ ⟨hf, h9, h12, h13, h14, h15, h16, h17'', rfl⟩
    refine ⟨⟨i + 1, hlt, hb4, hf, h9, h12, h13, h14, h15, h16, by rw [h17'']; rfl⟩, ?_⟩
    rw [h17, h17'']
    simp only [intOf]
    omega
  · refine wp_endX (y20x w2 gb nn vw nw cw vg ng cg t v1 n1 c1 i hlt a2 hf h9 h12 h13 h14 h15 h16 h17) ?_
    rintro a3 _ ⟨hf, h9, h12, h13, h14, h15, h16, rfl⟩
    refine thru ?_
    exact ⟨hb, hf, h9, h12, h13, h14, h15, h16⟩

/-- The second one's, so far, is the first one's beginning. -/
structure EI (S : List Ab) (nn : Nat) (t : Nat) (sb : Sh) (yg : List Po) : Prop where
  eq : rel (7 + (nn : Int)) 7 S = ((rel (7 + (nn : Int)) sb.T sb.abs).1, yg.map Po.ot ++ (rel (7 + (nn : Int)) sb.T sb.abs).2)
  T : sb.T ≤ 7 + (t : Int)
  nx : (nx sb.T sb.abs).k = true → 7 + (t : Int) ≤ (nx sb.T sb.abs).t
theorem EI.step {S : List Ab} {nn t : Nat} {sb sb' : Sh} {yg y1 : List Po} {N : Int} (h : EI S nn t sb yg) (hok : Oks sb.abs sb.T) (hD : DB N sb.abs) (h0 : 0 ≤ N) (ht : t ≤ nn) (hn : nn < 1000) (hy : y1.map Po.ot = (rel (7 + (t : Int)) sb.T sb.abs).2) (hT : sb'.T = 7 + (t : Int)) (hab : sb'.abs = (rel (7 + (t : Int)) sb.T sb.abs).1) :
    EI S nn (t + 1) sb' (yg ++ y1) ∧ (∀ x ∈ y1.map Po.ot, x.t = 7 + (t : Int)) ∧ ∀ (i : Nat) (x y : Ot), (y1.map Po.ot)[i]? = some x → (y1.map Po.ot)[i + 1]? = some y → x.c ≤ y.c := by
  have hsp := rel_split (7 + (t : Int)) (7 + (nn : Int)) (by omega) _ _ _ rfl hok h.T
  have hfin := rel_fin hok h.T (by omega) hD h0
  have hris := rel_ris (lo := 7 + (t : Int)) hok h.T h.nx
  refine ⟨⟨?_, by omega, fun hk => ?_⟩, fun x hx => ?_, fun i x y hx hy2 => ?_⟩
  · rw [h.eq, hsp, hT, hab, List.map_append, hy, List.append_assoc]
  · rw [hT, hab] at hk ⊢
    have := hfin.2.2.2 hk
    omega
  · rw [hy] at hx
    have := hris.1 x hx
    omega
  · rw [hy] at hx hy2
    have h1 := hris.1 x (List.mem_of_getElem? hx)
    have h2 := hris.1 y (List.mem_of_getElem? hy2)
    exact (hris.2 i x y hx hy2).2 (by omega)
theorem EI.len {S : List Ab} {nn t : Nat} {sb : Sh} {yg : List Po} (h : EI S nn t sb yg) : yg.length ≤ tot S := by
  have h1 := rel_len (7 + (nn : Int)) 7 S
  rw [h.eq] at h1
  simp at h1
  omega
theorem EI.fin {S : List Ab} {nn : Nat} {sb : Sh} {yg : List Po} (h : EI S nn (nn + 1) sb yg) : (rel (7 + (nn : Int)) 7 S).2 = yg.map Po.ot := by
  have : rel (7 + (nn : Int)) sb.T sb.abs = (sb.abs, []) := rel_no (fun hg => by
    have := h.nx hg.1
    have := hg.2
    omega)
  rw [h.eq, this, List.append_nil]

/-- Tick by tick. -/
theorem early_ticks (w wr : World) (gb nn : Nat) (vw : Option Addr) (nw cw : Nat) (S : List Ab) (sb : Sh) (bw bg : Nat) (yw : List Po) (HE : E2 w wr gb sb 24 bw bg vw nw cw yw none 0 0 []) (HI : EI S nn 0 sb []) (hn2 : nn < 200) (htot : tot S ≤ 600000) (a : Act) (hf : Fr 183 a) (h9 : sl a 9 = .pointer (some ⟨gb, 0, none⟩)) (h12 : sl a 12 = .int .u64 (nn : Int)) (h13 : sl a 13 = .slice vw nw cw) (h14 : sl a 14 = .slice none 0 0) :
    Code.wp Try.prog (cAt [1,1,1,1,1,1,1,1,1,0] KE) (Exit.then (fun a' w' => ∃ vg ng cg yg sb', E2 w w' gb sb' 24 bw bg vw nw cw yw vg ng cg yg ∧ EI S nn (nn + 1) sb' yg ∧ Fr 183 a' ∧ sl a' 13 = .slice vw nw cw ∧ sl a' 14 = .slice vg ng cg) Nope) a wr := by
  refine wp_sqR (x := cAt [1,1,1,1,1,1,1,1,1,0,0] KE) (y := cAt [1,1,1,1,1,1,1,1,1,0,1] KE) (by kernel_rfl) (y15 wr gb nn vw nw cw a hf h9 h12 h13 h14) ?_
  rintro a1 _ ⟨hf, h9, h12, h13, h14, h15, rfl⟩
  refine wp_blockR (x := cAt [1,1,1,1,1,1,1,1,1,0,1,2] KE) (id := 2) (by kernel_rfl) ?_
  refine wp_loopR (x := cAt [1,1,1,1,1,1,1,1,1,0,1,2,2] KE) (by kernel_rfl) (fun a' w' => ∃ (t : Nat) (vg : Option Addr) (ng cg : Nat) (yg : List Po) (sb : Sh), t ≤ nn + 1 ∧ E2 w w' gb sb 24 bw bg vw nw cw yw vg ng cg yg ∧ EI S nn t sb yg ∧ Fr 183 a' ∧ sl a' 9 = .pointer (some ⟨gb, 0, none⟩) ∧ sl a' 12 = .int .u64 (nn : Int) ∧ sl a' 13 = .slice vw nw cw ∧ sl a' 14 = .slice vg ng cg ∧ sl a' 15 = .int .u64 (t : Int)) (fun a' _ => nn + 1 - (intOf (sl a' 15)).toNat) ⟨0, none, 0, 0, [], sb, Nat.zero_le _, HE, HI, hf, h9, h12, h13, h14, h15⟩ ?_
  rintro a2 w2 ⟨t, vg, ng, cg, yg, sb, ht, HE, HI, hf, h9, h12, h13, h14, h15⟩
  by_cases hlt : t ≤ nn
  · refine wp_sqR (x := cAt [1,1,1,1,1,1,1,1,1,0,1,2,2,0] KE) (y := cAt [1,1,1,1,1,1,1,1,1,0,1,2,2,1] KE) (by kernel_rfl) (y16 w2 gb nn vw nw cw vg ng cg t hlt a2 hf h9 h12 h13 h14 h15) ?_
    rintro a3 _ ⟨hf, h9, h12, h13, h14, h15', rfl⟩
    refine wp_sqR (x := cAt [1,1,1,1,1,1,1,1,1,0,1,2,2,1,0] KE) (y := cAt [1,1,1,1,1,1,1,1,1,0,1,2,2,1,1] KE) (by kernel_rfl) (R := fun a' w' => ∃ (vg : Option Addr) (ng cg : Nat) (yg : List Po) (sb : Sh), E2 w w' gb sb 24 bw bg vw nw cw yw vg ng cg yg ∧ EI S nn (t + 1) sb yg ∧ Fr 183 a' ∧ sl a' 9 = .pointer (some ⟨gb, 0, none⟩) ∧ sl a' 12 = .int .u64 (nn : Int) ∧ sl a' 13 = .slice vw nw cw ∧ sl a' 14 = .slice vg ng cg ∧ sl a' 15 = .int .u64 (t : Int)) ?_ ?_
    · refine wp_blockR (x := cAt [1,1,1,1,1,1,1,1,1,0,1,2,2,1,0,2] KE) (id := 3) (by kernel_rfl) ?_
      refine wp_sqR (x := cAt [1,1,1,1,1,1,1,1,1,0,1,2,2,1,0,2,0] KE) (y := cAt [1,1,1,1,1,1,1,1,1,0,1,2,2,1,0,2,1] KE) (by kernel_rfl) (y18 w w2 gb nn vw nw cw vg ng cg t sb 24 bw bg yw yg HE (show (24 : Int) < 1000 by decide) (by omega) HI.T a3 hf h9 h12 h13 h14 h15') ?_
      rintro a4 w4 ⟨v1, n1, c1, y1, sb', hf, h9, h12, h13, h14, h15', h16, HE4, HO4, hot, hT4, hab4⟩
      have hst := HI.step (HE.lb.oks (by decide)) HE.lb.db HE.lb.N0 hlt (by omega) hot hT4 hab4
      have hln := hst.1.len
      rw [List.length_append] at hln
      have hl1 := HO4.len
      have hlg := HE.got.len
      refine wp_sqR (x := cAt [1,1,1,1,1,1,1,1,1,0,1,2,2,1,0,2,1,0] KE) (y := cAt [1,1,1,1,1,1,1,1,1,0,1,2,2,1,0,2,1,1] KE) (by kernel_rfl) (early_one w4 gb nn vw nw cw vg ng cg t v1 n1 c1 y1 w2.heap.size (by omega) HO4 (by omega) hst.2.1 hst.2.2 a4 hf h9 h12 h13 h14 h15' h16) ?_
      rintro a5 w5 ⟨hb5, hf, h9, h12, h13, h14, h15', h16⟩
      refine wp_endR (y24 w w5 gb nn vw nw cw vg ng cg t sb' 24 bw bg yw yg v1 n1 c1 y1 w2.heap.size (HE4.past hb5) ⟨HO4.below hb5, HE.ord.2.2⟩ (fun o ho p hp k hk e => ?_) (by omega) a5 hf h9 h12 h13 h14 h15' h16) ?_
      · have h1 := ((HE.got.data o ho).1.blk_ge k hk).2
        have h2 := ((HO4.data p hp).1.blk_ge k e).1
        omega
      rintro a6 w6 ⟨v2, n2, c3, hf, h9, h12, h13, h14, h15', HE6, _, _⟩
      exact ⟨v2, n2, c3, yg ++ y1, sb', HE6, hst.1, hf, h9, h12, h13, h14, h15'⟩
    rintro a4 w4 ⟨vg, ng, cg, yg, sb, HE4, HI4, hf, h9, h12, h13, h14, h15'⟩
    refine wp_endR (y17 w4 gb nn vw nw cw vg ng cg t (by omega) a4 hf h9 h12 h13 h14 h15') ?_
    rintro a5 _ ⟨hf, h9, h12, h13, h14, h15'', rfl⟩
    refine ⟨⟨t + 1, vg, ng, cg, yg, sb, by omega, HE4, HI4, hf, h9, h12, h13, h14, by rw [h15'']; rfl⟩, ?_⟩
    rw [h15, h15'']
    simp only [intOf]
    omega
  · have htn : t = nn + 1 := by omega
    rw [htn] at HI
    refine wp_endX (y16x w2 gb nn vw nw cw vg ng cg t hlt a2 hf h9 h12 h13 h14 h15) ?_
    rintro a3 _ ⟨hf, h13, h14, rfl⟩
    refine thru ?_
    exact ⟨vg, ng, cg, yg, sb, HE, HI, hf, h13, h14⟩

/-- Both are the same. -/
theorem early_same (w wr : World) (gb : Nat) (sb : Sh) (N : Int) (bw bg : Nat) (vw : Option Addr) (nw cw : Nat) (yw : List Po) (vg : Option Addr) (ng cg : Nat) (yg : List Po) (HE : E2 w wr gb sb N bw bg vw nw cw yw vg ng cg yg) (heq : yw.map Po.ot = yg.map Po.ot) (hn : ng ≤ 600000) (a : Act) (hf : Fr 183 a) (h13 : sl a 13 = .slice vw nw cw) (h14 : sl a 14 = .slice vg ng cg) :
    Code.wp Try.prog (cAt [1,1,1,1,1,1,1,1,1,1,1] KE) (bodyPost Try.prog Try.f5 (Yes w)) a wr := by
  have hlw := HE.want.len
  have hlg := HE.got.len
  have hle : yw.length = yg.length := by have := congrArg List.length heq; simpa using this
  refine wp_sqR (x := cAt [1,1,1,1,1,1,1,1,1,1,1,0] KE) (y := cAt [1,1,1,1,1,1,1,1,1,1,1,1] KE) (by kernel_rfl) (R := fun a' w' => Below wr.heap.size wr w' ∧ Fr 183 a') ?_ ?_
  · refine wp_sqR (x := cAt [1,1,1,1,1,1,1,1,1,1,1,0,0] KE) (y := cAt [1,1,1,1,1,1,1,1,1,1,1,0,1] KE) (by kernel_rfl) (y27 wr vw nw cw vg ng cg a hf h13 h14) ?_
    rintro a1 _ ⟨hf, h13, h14, h18, rfl⟩
    refine wp_blockR (x := cAt [1,1,1,1,1,1,1,1,1,1,1,0,1,2] KE) (id := 6) (by kernel_rfl) ?_
    refine wp_loopR (x := cAt [1,1,1,1,1,1,1,1,1,1,1,0,1,2,2] KE) (by kernel_rfl) (fun a' w' => ∃ i : Nat, i ≤ ng ∧ Below wr.heap.size wr w' ∧ Fr 183 a' ∧ sl a' 13 = .slice vw nw cw ∧ sl a' 14 = .slice vg ng cg ∧ sl a' 18 = .int .i64 (i : Int)) (fun a' _ => ng - (intOf (sl a' 18)).toNat) ⟨0, Nat.zero_le _, Below.refl _ _, hf, h13, h14, h18⟩ ?_
    rintro a2 w2 ⟨i, hi, hb, hf, h13, h14, h18⟩
    by_cases hlt : i < ng
    · refine wp_sqR (x := cAt [1,1,1,1,1,1,1,1,1,1,1,0,1,2,2,0] KE) (y := cAt [1,1,1,1,1,1,1,1,1,1,1,0,1,2,2,1] KE) (by kernel_rfl) (y28 w2 vw nw cw vg ng cg i hlt a2 hf h13 h14 h18) ?_
      rintro a3 _ ⟨hf, h13, h14, h18', rfl⟩
      have HE2 := HE.past hb
      obtain ⟨p, hp⟩ : ∃ p, yg[i]? = some p := ⟨_, List.getElem?_eq_getElem (by omega)⟩
      obtain ⟨q, hq⟩ : ∃ q, yw[i]? = some q := ⟨_, List.getElem?_eq_getElem (by omega)⟩
      obtain ⟨rg, hvg, hrg⟩ := HE2.got.nth hp
      obtain ⟨rw_, hvw, hrw⟩ := HE2.want.nth hq
      have hpq : p.ot = q.ot := by
        have h1 : (yg.map Po.ot)[i]? = some p.ot := by rw [List.getElem?_map, hp]; rfl
        rw [← heq, List.getElem?_map, hq] at h1
        simpa using h1.symm
      have hat : ∀ (B : Nat) (z : Po), Own w2 B z.y.a z.y.n z.y.c z.y.d ∧ Byt z.y.d ∧ z.y.n ≤ 1000000 → z.y.at_ w2 := fun B z h => ⟨h.1.len, h.1.rd, h.2.1, h.2.2⟩
      rw [hvg] at h14
      rw [hvw] at h13
      refine wp_sqR (x := cAt [1,1,1,1,1,1,1,1,1,1,1,0,1,2,2,1,0] KE) (y := cAt [1,1,1,1,1,1,1,1,1,1,1,0,1,2,2,1,1] KE) (by kernel_rfl) (R := fun a' w' => Below wr.heap.size wr w' ∧ Fr 183 a' ∧ sl a' 13 = .slice vw nw cw ∧ sl a' 14 = .slice vg ng cg ∧ sl a' 18 = .int .i64 (i : Int)) ?_ ?_
      · refine wp_blockR (x := cAt [1,1,1,1,1,1,1,1,1,1,1,0,1,2,2,1,0,2] KE) (id := 7) (by kernel_rfl) ?_
        refine wp_sqR (x := cAt [1,1,1,1,1,1,1,1,1,1,1,0,1,2,2,1,0,2,0] KE) (y := cAt [1,1,1,1,1,1,1,1,1,1,1,0,1,2,2,1,0,2,1] KE) (by kernel_rfl) (y30 w2 rw_ nw cw rg ng cg i p q hlt (by omega) ⟨hrg, hrw⟩ hpq ⟨hat _ p (HE2.got.data p (List.mem_of_getElem? hp)), hat _ q (HE2.want.data q (List.mem_of_getElem? hq))⟩ a3 hf h13 h14 h18') ?_
        rintro a4 w4 ⟨hf, h13, h14, h18', h181, hb4⟩
        refine wp_onF (A := cAt [1,1,1,1,1,1,1,1,1,1,1,0,1,2,2,1,0,2,1,3] KE) (B := cAt [1,1,1,1,1,1,1,1,1,1,1,0,1,2,2,1,0,2,1,4] KE) (by kernel_rfl) h181 ?_
        refine wp_skipR (by kernel_rfl) ?_
        rw [← hvg] at h14
        rw [← hvw] at h13
        exact ⟨hb.trans (hb4.mono hb.size), hf, h13, h14, h18'⟩
      rintro a4 w4 ⟨hb4, hf, h13, h14, h18'⟩
      refine wp_endR (y29 w4 vw nw cw vg ng cg i (by omega) a4 hf h13 h14 h18') ?_
      rintro a5 _ ⟨hf, h13, h14, h18'', rfl⟩
      refine ⟨⟨i + 1, hlt, hb4, hf, h13, h14, by rw [h18'']; rfl⟩, ?_⟩
      rw [h18, h18'']
      simp only [intOf]
      omega
    · refine wp_endX (y28x w2 vw nw cw vg ng cg i hlt a2 hf h13 h14 h18) ?_
      rintro a3 _ ⟨hf, rfl⟩
      refine thru ?_
      exact ⟨hb, hf⟩
  rintro a1 w1 ⟨hb1, hf⟩
  exact y32 w w1 (HE.lb.below.trans (hb1.mono HE.lb.below.size)) a1 hf

theorem early_any (xa : Option Addr) (n c : Nat) (l : List Cs) (ya : Option Addr) (m c2 : Nat) (la : List Ac) (tv : Int) (w : World) (hl : Rcs w xa n l) (hm : Acr w ya m la) (hmx : m ≤ maxLen) (t0 : 0 ≤ tv) (_t1 : tv ≤ 255) :
    Calls Try.prog 5 #[.slice xa n c, .slice ya m c2, .int .u8 tv] w (Yes w) := by
  refine calls_of_wp (c := KE) Try.func5 (by kernel_rfl) ?_
  have hf : Fr 183 { tmps := #[.slice xa n c, .slice ya m c2, .int .u8 tv] ++ Array.replicate (Try.f5.ntmps - (#[.slice xa n c, .slice ya m c2, .int .u8 tv] : Array Value).size) undef, defers := [] } := ⟨rfl, by simp [Try.ntmps5]⟩
  refine wp_sqR (x := cAt [0] KE) (y := cAt [1] KE) (by kernel_rfl) (y0 w xa n c ya m c2 tv _ hf (sl_at _ _ 0 _ rfl) (sl_at _ _ 1 _ rfl) (sl_at _ _ 2 _ rfl)) ?_
  rintro a1 _ ⟨hf, h0, h1, h2, rfl⟩
  refine wp_sqG (x := cAt [1,0] KE) (y := cAt [1,1] KE) (by kernel_rfl) ?_
  refine wp_sqR (x := cAt [1,0,0] KE) (y := cAt [1,0,1] KE) (by kernel_rfl) (y1 w xa n c ya m c2 tv la hm hmx a1 hf h0 h1 h2) ?_
  rintro a2 _ ⟨bb, hf, h0, h1, h2, h26, hbb, rfl⟩
  cases bb with
  | true =>
    refine wp_onT (A := cAt [1,0,1,3] KE) (B := cAt [1,0,1,4] KE) (by kernel_rfl) h26 ?_
    exact wp_endT (y2 w w (Below.refl _ _) a2 hf) (fun a' w' h => h)
  | false =>
  obtain ⟨h6, hfew⟩ := hbb.1 rfl
  refine wp_onF (A := cAt [1,0,1,3] KE) (B := cAt [1,0,1,4] KE) (by kernel_rfl) h26 ?_
  refine wp_skipR (by kernel_rfl) ?_
  cases hmay : mayB l with
  | false =>
    refine wp_sqR (x := cAt [1,1,0] KE) (y := cAt [1,1,1] KE) (by kernel_rfl) (y3n w xa n c ya m c2 tv l hl hmay a2 hf h0 h1 h2) ?_
    rintro a3 w3 ⟨hf, h0, h1, h2, h7, h8, hb3⟩
    refine wp_sqR (x := cAt [1,1,1,0] KE) (y := cAt [1,1,1,1] KE) (by kernel_rfl) (y4n w3 xa n c ya m c2 tv l (hl.below hb3) hmay a3 hf h0 h1 h2 h7 h8) ?_
    rintro a4 w4 ⟨hf, h8, h10, hb4⟩
    refine wp_sqG (x := cAt [1,1,1,1,0] KE) (y := cAt [1,1,1,1,1] KE) (by kernel_rfl) ?_
    refine wp_sqR (x := cAt [1,1,1,1,0,0] KE) (y := cAt [1,1,1,1,0,1] KE) (by kernel_rfl) (y5n w4 a4 hf h8 h10) ?_
    rintro a5 _ ⟨hf, h8, h10, h43, rfl⟩
    refine wp_onT (A := cAt [1,1,1,1,0,1,3] KE) (B := cAt [1,1,1,1,0,1,4] KE) (by kernel_rfl) h43 ?_
    exact wp_endT (y6 w w4 (hb3.trans (hb4.mono hb3.size)) a5 hf h8 h10) (fun a' w' h => h)
  | true =>
  have hmp := hmay
  unfold mayB at hmp
  simp only [Bool.and_eq_true, decide_eq_true_eq] at hmp
  refine wp_sqR (x := cAt [1,1,0] KE) (y := cAt [1,1,1] KE) (by kernel_rfl) (y3 w xa n c ya m c2 tv l hl hmay a2 hf h0 h1 h2) ?_
  rintro a3 w3 ⟨ga, sa, hf, h0, h1, h2, h7, h8, hv, hT, hab⟩
  refine wp_sqR (x := cAt [1,1,1,0] KE) (y := cAt [1,1,1,1] KE) (by kernel_rfl) (y4 w w3 xa n c ya m c2 tv l ga sa (hl.below hv.below) hmay ⟨hv, hT, hab⟩ a3 hf h0 h1 h2 h7 h8) ?_
  rintro a4 w4 ⟨gb, sb, hf, h0, h1, h2, h7, h8, h9, h10, HE⟩
  refine wp_sqG (x := cAt [1,1,1,1,0] KE) (y := cAt [1,1,1,1,1] KE) (by kernel_rfl) ?_
  refine wp_sqR (x := cAt [1,1,1,1,0,0] KE) (y := cAt [1,1,1,1,0,1] KE) (by kernel_rfl) (y5 w4 xa n c ya m c2 tv ga gb a4 hf h0 h1 h2 h7 h8 h9 h10) ?_
  rintro a5 _ ⟨hf, h1, h2, h7, h9, h43, rfl⟩
  refine wp_onF (A := cAt [1,1,1,1,0,1,3] KE) (B := cAt [1,1,1,1,0,1,4] KE) (by kernel_rfl) h43 ?_
  refine wp_skipR (by kernel_rfl) ?_
  refine wp_sqR (x := cAt [1,1,1,1,1,0] KE) (y := cAt [1,1,1,1,1,1] KE) (by kernel_rfl) (early_offers w w4 ya m c2 tv la hm hfew ga gb sa sb HE a5 hf h1 h2 h7 h9) ?_
  rintro a6 w6 ⟨sa, sb, HE6, hf, h1, h2, h7, h9⟩
  obtain ⟨nn, hnn⟩ : ∃ nn : Nat, tv.tmod 200 = (nn : Int) := ⟨(tv % 200).toNat, by rw [Int.tmod_eq_emod_of_nonneg t0]; omega⟩
  have hn2 : nn < 200 := by
    rw [Int.tmod_eq_emod_of_nonneg t0] at hnn
    omega
  refine wp_sqR (x := cAt [1,1,1,1,1,1,0] KE) (y := cAt [1,1,1,1,1,1,1] KE) (by kernel_rfl) (y12 w6 ya m c2 tv ga gb nn hnn hn2 a6 hf h1 h2 h7 h9) ?_
  rintro a7 _ ⟨hf, h7, h9, h12, rfl⟩
  refine wp_sqR (x := cAt [1,1,1,1,1,1,1,0] KE) (y := cAt [1,1,1,1,1,1,1,1] KE) (by kernel_rfl) (y13 w w6 ga gb nn sa sb 24 HE6 (show (24 : Int) < 1000 by decide) hn2 a7 hf h7 h9 h12) ?_
  rintro a8 w8 ⟨vw, nw, cw, yw, hf, h9, h12, h13, HE8, hyw⟩
  refine wp_sqR (x := cAt [1,1,1,1,1,1,1,1,0] KE) (y := cAt [1,1,1,1,1,1,1,1,1] KE) (by kernel_rfl) (y14 w8 gb nn vw nw cw a8 hf h9 h12 h13) ?_
  rintro a9 _ ⟨hf, h9, h12, h13, h14, rfl⟩
  have htot : tot sa.abs ≤ 600000 := by
    have h1 := HE6.l2.a.sw.sum sa.n
    have h2 := HE6.l2.a.sw.le
    have h3 := HE6.l2.a.len
    rw [List.take_of_length_le (by omega)] at h1
    omega
  have HI : EI sa.abs nn 0 sb [] := by
    refine ⟨by rw [HE6.tb, HE6.ab]; rfl, by rw [HE6.tb]; decide, fun hk => ?_⟩
    have := ((Inv.refl sb.T sb.abs).step (HE8.lb.oks (by decide)) hk).2.2.1
    rw [HE6.tb] at this
    rw [HE6.tb]
    simpa using this
  refine wp_sqR (x := cAt [1,1,1,1,1,1,1,1,1,0] KE) (y := cAt [1,1,1,1,1,1,1,1,1,1] KE) (by kernel_rfl) (early_ticks w w8 gb nn vw nw cw sa.abs sb _ _ yw HE8 HI hn2 htot a9 hf h9 h12 h13 h14) ?_
  rintro a10 w10 ⟨vg, ng, cg, yg, sb', HE10, HI10, hf, h13, h14⟩
  have heq : yw.map Po.ot = yg.map Po.ot := hyw.trans HI10.fin
  have hle : ng = nw := by
    have h1 := HE10.want.len
    have h2 := HE10.got.len
    have h3 := congrArg List.length heq
    simp at h3
    omega
  have hng : ng ≤ 600000 := by
    have := HI10.len
    have := HE10.got.len
    omega
  refine wp_sqG (x := cAt [1,1,1,1,1,1,1,1,1,1,0] KE) (y := cAt [1,1,1,1,1,1,1,1,1,1,1] KE) (by kernel_rfl) ?_
  refine wp_sqR (x := cAt [1,1,1,1,1,1,1,1,1,1,0,0] KE) (y := cAt [1,1,1,1,1,1,1,1,1,1,0,1] KE) (by kernel_rfl) (y25 w10 vw nw cw vg ng cg hle a10 hf h13 h14) ?_
  rintro a11 _ ⟨hf, h13, h14, h136, rfl⟩
  refine wp_onF (A := cAt [1,1,1,1,1,1,1,1,1,1,0,1,3] KE) (B := cAt [1,1,1,1,1,1,1,1,1,1,0,1,4] KE) (by kernel_rfl) h136 ?_
  refine wp_skipR (by kernel_rfl) ?_
  exact early_same w w10 gb sb' 24 _ _ vw nw cw yw vg ng cg yg HE10 heq hng a11 hf h13 h14
end Go.Proofs.Yticjfhmkpciihaa

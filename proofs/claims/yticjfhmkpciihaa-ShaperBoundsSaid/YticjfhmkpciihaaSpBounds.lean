/-
  ShaperBounds' walk, put together of its pieces. Conditions: rows of classes and acts whose numbers fit their Go types. (Made by gen_spbl.py.)
-/
import Derived.Test.YticjfhmkpciihaaSpBlB
namespace Go.Proofs.Yticjfhmkpciihaa
open Go.RowKit Bkt

/-- The law's state ahead of an act. -/
structure Bs (w W : World) (l : List Cs) (n g ro : Nat) (i : Nat) (s : Sh) (offs : List Of) (vo : Option Addr) (no co : Nat) (ys : List Po) (off : Nat → List Int) : Prop where
  bm : Bm w W g s (i : Int) ro offs vo no co ys
  bd : Bd l off (i : Int) s.T s.abs (ys.map Po.ot)
  ol : offs.length = n
  ox : ∀ (c : Nat) (f : Of), offs[c]? = some f → f.xs = off c ∧ f.n ≤ i
  sn : s.n = n
  sT : s.T < 4294967296
def BsS (w : World) (l : List Cs) (xa : Option Addr) (n c0 : Nat) (ya : Option Addr) (m c2 g ro : Nat) (i j : Nat) (a' : Act) (w' : World) : Prop :=
  ∃ s offs vo no co ys off, Bs w w' l n g ro i s offs vo no co ys off ∧ Fr 196 a' ∧ sl a' 0 = .slice xa n c0 ∧ sl a' 1 = .slice ya m c2 ∧ sl a' 6 = .pointer (some ⟨g, 0, none⟩) ∧ sl a' 8 = .slice (some ⟨ro, 0, none⟩) n n ∧ sl a' 9 = .slice vo no co ∧ sl a' 10 = .int .i64 (j : Int)

/-- The sum of the sizes. -/
theorem bd_sum' (wr : World) (xa : Option Addr) (n c0 : Nat) (ya : Option Addr) (m c2 g ro : Nat) (vo : Option Addr) (no co i bx cc : Nat) (sz : Int) (vq : Option Addr) (nq cq : Nat) (B : Nat) (qs : List Pi) (hq : Cps wr B vq nq cq qs) (hpos : ∀ x ∈ qs.map Pi.it, 0 ≤ x.sz) (hsum : szs (qs.map Pi.it) ≤ 9223372036854775807) (hnq : nq ≤ 65536) (a : Act) (hf : Fr 196 a) (h0 : sl a 0 = .slice xa n c0) (h1 : sl a 1 = .slice ya m c2) (h6 : sl a 6 = .pointer (some ⟨g, 0, none⟩)) (h8 : sl a 8 = .slice (some ⟨ro, 0, none⟩) n n) (h9 : sl a 9 = .slice vo no co) (h10 : sl a 10 = .int .i64 (i : Int)) (h11 : sl a 11 = .pointer (some ⟨bx, 0, none⟩)) (h12 : sl a 12 = .int .i64 (cc : Int)) (h13 : sl a 13 = .int .i64 sz) (h14 : sl a 14 = .slice vq nq cq) (h15 : sl a 15 = .int .i64 0) :
    Code.wp Try.prog (cAt [1,1,1,1,1,1,1,0,1,2,2,1,0,2,1,0,1,3,1,1,1,1,0] KB) (Exit.then (fun a' w' => Fr 196 a' ∧ sl a' 0 = .slice xa n c0 ∧ sl a' 1 = .slice ya m c2 ∧ sl a' 6 = .pointer (some ⟨g, 0, none⟩) ∧ sl a' 8 = .slice (some ⟨ro, 0, none⟩) n n ∧ sl a' 9 = .slice vo no co ∧ sl a' 10 = .int .i64 (i : Int) ∧ sl a' 11 = .pointer (some ⟨bx, 0, none⟩) ∧ sl a' 12 = .int .i64 (cc : Int) ∧ sl a' 13 = .int .i64 sz ∧ sl a' 14 = .slice vq nq cq ∧ sl a' 15 = .int .i64 (szs (qs.map Pi.it)) ∧ wr = w') Nope) a wr := by
  refine wp_sqR (x := cAt [1,1,1,1,1,1,1,0,1,2,2,1,0,2,1,0,1,3,1,1,1,1,0,0] KB) (y := cAt [1,1,1,1,1,1,1,0,1,2,2,1,0,2,1,0,1,3,1,1,1,1,0,1] KB) (by kernel_rfl) (b22 wr xa n c0 ya m c2 g ro vo no co i bx cc sz vq nq cq a hf h0 h1 h6 h8 h9 h10 h11 h12 h13 h14 h15) ?_
  rintro a1 _ ⟨hf, h0, h1, h6, h8, h9, h10, h11, h12, h13, h14, h15, h16, rfl⟩
  refine wp_blockR (x := cAt [1,1,1,1,1,1,1,0,1,2,2,1,0,2,1,0,1,3,1,1,1,1,0,1,2] KB) (id := 4) (by kernel_rfl) ?_
  refine wp_loopR (x := cAt [1,1,1,1,1,1,1,0,1,2,2,1,0,2,1,0,1,3,1,1,1,1,0,1,2,2] KB) (by kernel_rfl) (fun a' w' => ∃ j : Nat, j ≤ nq ∧ wr = w' ∧ Fr 196 a' ∧ sl a' 0 = .slice xa n c0 ∧ sl a' 1 = .slice ya m c2 ∧ sl a' 6 = .pointer (some ⟨g, 0, none⟩) ∧ sl a' 8 = .slice (some ⟨ro, 0, none⟩) n n ∧ sl a' 9 = .slice vo no co ∧ sl a' 10 = .int .i64 (i : Int) ∧ sl a' 11 = .pointer (some ⟨bx, 0, none⟩) ∧ sl a' 12 = .int .i64 (cc : Int) ∧ sl a' 13 = .int .i64 sz ∧ sl a' 14 = .slice vq nq cq ∧ sl a' 15 = .int .i64 (szs ((qs.map Pi.it).take j)) ∧ sl a' 16 = .int .i64 (j : Int)) (fun a' _ => nq - (intOf (sl a' 16)).toNat) ⟨0, Nat.zero_le _, rfl, hf, h0, h1, h6, h8, h9, h10, h11, h12, h13, h14, h15, h16⟩ ?_
  rintro a2 _ ⟨j, hj, rfl, hf, h0, h1, h6, h8, h9, h10, h11, h12, h13, h14, h15, h16⟩
  by_cases hlt : j < nq
  case neg =>
    refine wp_endX (b23x wr xa n c0 ya m c2 g ro vo no co i bx cc sz vq nq cq _ j hlt a2 hf h0 h1 h6 h8 h9 h10 h11 h12 h13 h14 h15 h16) ?_
    rintro a3 _ ⟨hf, h0, h1, h6, h8, h9, h10, h11, h12, h13, h14, h15, rfl⟩
    refine thru ⟨hf, h0, h1, h6, h8, h9, h10, h11, h12, h13, h14, ?_, rfl⟩
    rw [h15, List.take_of_length_le (by rw [List.length_map, hq.len]; omega)]
  refine wp_sqR (x := cAt [1,1,1,1,1,1,1,0,1,2,2,1,0,2,1,0,1,3,1,1,1,1,0,1,2,2,0] KB) (y := cAt [1,1,1,1,1,1,1,0,1,2,2,1,0,2,1,0,1,3,1,1,1,1,0,1,2,2,1] KB) (by kernel_rfl) (b23 wr xa n c0 ya m c2 g ro vo no co i bx cc sz vq nq cq _ j hlt a2 hf h0 h1 h6 h8 h9 h10 h11 h12 h13 h14 h15 h16) ?_
  rintro a3 _ ⟨hf, h0, h1, h6, h8, h9, h10, h11, h12, h13, h14, h15, h16', rfl⟩
  have hl := hq.len
  obtain ⟨z, hz⟩ : ∃ z, qs[j]? = some z := ⟨_, List.getElem?_eq_getElem (by omega)⟩
  obtain ⟨rq, hvq, hrg, _⟩ := OwnG.nth Pi.len hq.row (by decide) hz
  have hzi : (qs.map Pi.it)[j]? = some z.it := by rw [List.getElem?_map, hz]; rfl
  have hst := szs_take (qs.map Pi.it) j z.it hzi
  have hle := szs_le hpos (j + 1)
  have hp2 : 0 ≤ szs ((qs.map Pi.it).take (j + 1)) := szs_pos (fun x hx => hpos x (List.mem_of_mem_take hx))
  rw [hvq] at h14
  refine wp_sqR (x := cAt [1,1,1,1,1,1,1,0,1,2,2,1,0,2,1,0,1,3,1,1,1,1,0,1,2,2,1,0] KB) (y := cAt [1,1,1,1,1,1,1,0,1,2,2,1,0,2,1,0,1,3,1,1,1,1,0,1,2,2,1,1] KB) (by kernel_rfl) (R := fun a' w' => wr = w' ∧ Fr 196 a' ∧ sl a' 0 = .slice xa n c0 ∧ sl a' 1 = .slice ya m c2 ∧ sl a' 6 = .pointer (some ⟨g, 0, none⟩) ∧ sl a' 8 = .slice (some ⟨ro, 0, none⟩) n n ∧ sl a' 9 = .slice vo no co ∧ sl a' 10 = .int .i64 (i : Int) ∧ sl a' 11 = .pointer (some ⟨bx, 0, none⟩) ∧ sl a' 12 = .int .i64 (cc : Int) ∧ sl a' 13 = .int .i64 sz ∧ sl a' 14 = .slice vq nq cq ∧ sl a' 15 = .int .i64 (szs ((qs.map Pi.it).take (j + 1))) ∧ sl a' 16 = .int .i64 (j : Int)) ?_ ?_
  · refine wp_blockR (x := cAt [1,1,1,1,1,1,1,0,1,2,2,1,0,2,1,0,1,3,1,1,1,1,0,1,2,2,1,0,2] KB) (id := 5) (by kernel_rfl) ?_
    refine wp_endR (b25 wr xa n c0 ya m c2 g ro vo no co i bx cc sz rq nq cq _ j z.sz (hrg 1 _ rfl) hlt (by rw [hst] at hp2; exact hp2) (by rw [hst] at hle; exact Int.le_trans hle hsum) a3 hf h0 h1 h6 h8 h9 h10 h11 h12 h13 h14 h15 h16') ?_
    rintro a4 _ ⟨hf, h0, h1, h6, h8, h9, h10, h11, h12, h13, h14, h15, h16, rfl⟩
    rw [← hvq] at h14
    exact ⟨rfl, hf, h0, h1, h6, h8, h9, h10, h11, h12, h13, h14, by rw [h15, hst]; rfl, h16⟩
  rintro a4 _ ⟨rfl, hf, h0, h1, h6, h8, h9, h10, h11, h12, h13, h14, h15, h16'⟩
  refine wp_endR (b24 wr xa n c0 ya m c2 g ro vo no co i bx cc sz vq nq cq _ j (by omega) a4 hf h0 h1 h6 h8 h9 h10 h11 h12 h13 h14 h15 h16') ?_
  rintro a5 _ ⟨hf, h0, h1, h6, h8, h9, h10, h11, h12, h13, h14, h15, h16'', rfl⟩
  refine ⟨⟨j + 1, hlt, rfl, hf, h0, h1, h6, h8, h9, h10, h11, h12, h13, h14, h15, by rw [h16'']; rfl⟩, ?_⟩
  rw [h16, h16'']
  simp only [intOf]
  omega

/-- An offer. -/
theorem bd_offer (w wr : World) (l : List Cs) (xa : Option Addr) (n c0 : Nat) (ya : Option Addr) (m c2 g ro i bx : Nat) (s : Sh) (offs : List Of) (vo : Option Addr) (no co : Nat) (ys : List Po) (off : Nat → List Int) (HS : Bs w wr l n g ro i s offs vo no co ys off) (hl : Rcs w xa n l) (hn1 : 1 ≤ n) (hn8 : n ≤ 8) (hi : i < 60) (y : Ac) (hbx : wr.heap[bx]? = some (.cells #[.int .i64 y.d, .int .i64 y.c, .int .u64 y.x.no, .int .i64 y.x.sz, .slice y.x.a y.x.n y.x.c, .int .u64 y.t] 42 (0, 0))) (a : Act) (hf : Fr 196 a) (h0 : sl a 0 = .slice xa n c0) (h1 : sl a 1 = .slice ya m c2) (h6 : sl a 6 = .pointer (some ⟨g, 0, none⟩)) (h8 : sl a 8 = .slice (some ⟨ro, 0, none⟩) n n) (h9 : sl a 9 = .slice vo no co) (h10 : sl a 10 = .int .i64 (i : Int)) (h11 : sl a 11 = .pointer (some ⟨bx, 0, none⟩)) :
    Code.wp Try.prog (cAt [1,1,1,1,1,1,1,0,1,2,2,1,0,2,1,0,1,3] KB) (Outs 3 (fun a' w' => BsS w l xa n c0 ya m c2 g ro (i + 1) i a' w')) a wr := by
  obtain ⟨cc, hcc⟩ : ∃ cc : Nat, y.c % (n : Int) = (cc : Int) := ⟨(y.c % (n : Int)).toNat, by have := Int.emod_nonneg y.c (show (n : Int) ≠ 0 by omega); omega⟩
  have hcn : cc < n := by have := Int.emod_lt_of_pos y.c (show (0 : Int) < (n : Int) by omega); omega
  obtain ⟨sz, hsz⟩ : ∃ sz, y.x.sz.tmod 2049 = sz := ⟨_, rfl⟩
  have hb := tmod_pos y.x.sz 2049 (by decide)
  rw [hsz] at hb
  have hll : s.abs.length = n := by rw [HS.bm.lv.len, HS.sn]
  obtain ⟨ll, hL, hlw⟩ := HS.bm.lv.sw.lane (i := cc) (by rw [HS.sn]; exact hcn)
  have hget : s.abs.getD cc az = ll.abs := abs_get hL
  obtain ⟨cl, hcl⟩ : ∃ cl, l[cc]? = some cl := ⟨_, List.getElem?_eq_getElem (by rw [hl.len]; exact hcn)⟩
  have hrb := HS.bd.rb cc cl hcl
  rw [hget] at hrb
  have hqo := hlw.qu.ok
  refine wp_sqR (x := cAt [1,1,1,1,1,1,1,0,1,2,2,1,0,2,1,0,1,3,0] KB) (y := cAt [1,1,1,1,1,1,1,0,1,2,2,1,0,2,1,0,1,3,1] KB) (by kernel_rfl) (b18 wr xa n c0 ya m c2 g ro vo no co i bx y hbx cc hn1 hn8 hcc a hf h0 h1 h6 h8 h9 h10 h11) ?_
  rintro a1 _ ⟨hf, h0, h1, h6, h8, h9, h10, h11, h12, rfl⟩
  refine wp_sqR (x := cAt [1,1,1,1,1,1,1,0,1,2,2,1,0,2,1,0,1,3,1,0] KB) (y := cAt [1,1,1,1,1,1,1,0,1,2,2,1,0,2,1,0,1,3,1,1] KB) (by kernel_rfl) (b19 wr xa n c0 ya m c2 g ro vo no co i bx y hbx cc sz hsz hb.1 hb.2.1 a1 hf h0 h1 h6 h8 h9 h10 h11 h12) ?_
  rintro a2 _ ⟨hf, h0, h1, h6, h8, h9, h10, h11, h12, h13, rfl⟩
  refine wp_sqR (x := cAt [1,1,1,1,1,1,1,0,1,2,2,1,0,2,1,0,1,3,1,1,0] KB) (y := cAt [1,1,1,1,1,1,1,0,1,2,2,1,0,2,1,0,1,3,1,1,1] KB) (by kernel_rfl) (b20 w wr xa n c0 ya m c2 g ro vo no co i bx s (i : Int) offs ys cc sz ll HS.bm hL a2 hf h0 h1 h6 h8 h9 h10 h11 h12 h13) ?_
  rintro a3 w3 ⟨vq, nq, cq, qs, hf, h0, h1, h6, h8, h9, h10, h11, h12, h13, h14, hb3, hcp, hqe⟩
  have hM3 := HS.bm.past hb3
  have hqe2 : qs.map Pi.it = ll.abs.A.l := hqe
  have hpos : ∀ x ∈ qs.map Pi.it, 0 ≤ x.sz := fun x hx => by
    rw [hqe] at hx
    obtain ⟨z, hz, rfl⟩ := List.mem_map.1 hx
    exact hqo.sz z hz
  have hsize : szs (qs.map Pi.it) = ll.abs.A.size := by rw [hqe2]; rfl
  have hsz2 : ll.abs.A.size ≤ cl.S := by
    have h1 := hqo.sum
    rw [← abs_size] at h1
    have h2 : ll.abs.A.S = cl.S := hrb.2.2.2
    have h3 : ll.q.S = ll.abs.A.S := rfl
    have h4 : ll.q.abs.size = ll.abs.A.size := rfl
    omega
  have hS1 : cl.S ≤ 9223372036854775807 := (hl.ok cl (List.mem_of_getElem? hcl)).S1
  have hnql : nq = ll.q.L.length := by
    have h1 := hcp.len
    have h2 := congrArg List.length hqe
    simp at h2
    omega
  have hnq : nq ≤ 65536 := by have h1 := hqo.le; have h2 := hqo.mI; have h3 := hqo.I1; omega
  refine wp_sqR (x := cAt [1,1,1,1,1,1,1,0,1,2,2,1,0,2,1,0,1,3,1,1,1,0] KB) (y := cAt [1,1,1,1,1,1,1,0,1,2,2,1,0,2,1,0,1,3,1,1,1,1] KB) (by kernel_rfl) (b21 w3 xa n c0 ya m c2 g ro vo no co i bx cc sz vq nq cq a3 hf h0 h1 h6 h8 h9 h10 h11 h12 h13 h14) ?_
  rintro a4 _ ⟨hf, h0, h1, h6, h8, h9, h10, h11, h12, h13, h14, h15, rfl⟩
  refine wp_sqR (x := cAt [1,1,1,1,1,1,1,0,1,2,2,1,0,2,1,0,1,3,1,1,1,1,0] KB) (y := cAt [1,1,1,1,1,1,1,0,1,2,2,1,0,2,1,0,1,3,1,1,1,1,1] KB) (by kernel_rfl) (bd_sum' w3 xa n c0 ya m c2 g ro vo no co i bx cc sz vq nq cq _ qs hcp hpos (by rw [hsize]; omega) hnq a4 hf h0 h1 h6 h8 h9 h10 h11 h12 h13 h14 h15) ?_
  rintro a5 _ ⟨hf, h0, h1, h6, h8, h9, h10, h11, h12, h13, h14, h15, rfl⟩
  rw [hsize] at h15
  obtain ⟨xb, xo, hxa, hxc⟩ := hl.cells (by intro e; rw [e] at hcl; simp at hcl)
  have hroom : ll.abs.A.room sz = (decide (0 ≤ sz) && (decide ((nq : Int) < cl.I) && decide (sz ≤ cl.S - ll.abs.A.size))) := by
    unfold Aq.room
    have h1 : ll.abs.A.I = cl.I := hrb.2.2.1
    have h2 : ll.abs.A.S = cl.S := hrb.2.2.2
    have h3 : (ll.abs.A.l.length : Int) = (nq : Int) := by
      have : ll.abs.A.l.length = ll.q.L.length := by show (ll.q.L.map Pi.it).length = _; rw [List.length_map]
      omega
    rw [h1, h2, h3]
  have hpos2 : 0 ≤ ll.abs.A.size := by rw [← hsize]; exact szs_pos hpos
  rw [hxa] at h0
  refine wp_sqR (x := cAt [1,1,1,1,1,1,1,0,1,2,2,1,0,2,1,0,1,3,1,1,1,1,1,0] KB) (y := cAt [1,1,1,1,1,1,1,0,1,2,2,1,0,2,1,0,1,3,1,1,1,1,1,1] KB) (by kernel_rfl) (b26 w3 xb xo n c0 ya m c2 g ro vo no co i bx cc sz vq nq cq _ cl (range_kept hM3.lv.below (hxc cc cl hcl)) hcn _ hroom hpos2 hsz2 hS1 a5 hf h0 h1 h6 h8 h9 h10 h11 h12 h13 h14 h15) ?_
  rintro a6 _ ⟨hf, h0, h1, h6, h8, h9, h10, h11, h12, h13, h14, h15, h17, rfl⟩
  rw [← hxa] at h0
  refine wp_sqR (x := cAt [1,1,1,1,1,1,1,0,1,2,2,1,0,2,1,0,1,3,1,1,1,1,1,1,0] KB) (y := cAt [1,1,1,1,1,1,1,0,1,2,2,1,0,2,1,0,1,3,1,1,1,1,1,1,1] KB) (by kernel_rfl) (b27 w w3 xa n c0 ya m c2 g ro vo no co i bx s (i : Int) offs ys cc sz _ hM3 (show (i : Int) < 1000 by omega) (by omega) a6 hf h0 h1 h6 h8 h9 h10 h12 h13 h17) ?_
  rintro a7 w7 ⟨s', ce, hf, h0, h1, h6, h8, h9, h10, h12, h13, h17, h18, hM7, hce, hT7, hn7, hab7⟩
  have hok : offOk s.abs (cc : Int) ⟨(i : Int), sz, []⟩ = decide (0 ≤ sz) := by
    unfold offOk
    rw [hll, decide_eq_true (show (0 : Int) ≤ (cc : Int) by omega), decide_eq_true (show (cc : Int) < (n : Int) by omega), decide_eq_true (show sz ≤ 2048 by omega), Bool.true_and, Bool.true_and, Bool.and_true]
  have hcases : (sz < 0 ∧ ce = 2 ∧ ll.abs.A.room sz = false) ∨ (0 ≤ sz ∧ ce = 0 ∧ ll.abs.A.room sz = true) ∨ (0 ≤ sz ∧ ce = 110 ∧ ll.abs.A.room sz = false) := by
    rw [hce]
    unfold offC
    rw [hok, Int.toNat_natCast, hget]
    by_cases h0' : 0 ≤ sz
    · rw [decide_eq_true h0', if_pos rfl]
      unfold Aq.code
      rw [if_neg (by show ¬ sz < 0; omega)]
      cases hr : ll.abs.A.room sz with
      | true => exact .inr (.inl ⟨h0', rfl, rfl⟩)
      | false => exact .inr (.inr ⟨h0', rfl, rfl⟩)
    · rw [decide_eq_false h0']
      refine .inl ⟨by omega, rfl, ?_⟩
      rw [hroom, decide_eq_false h0']; rfl
  refine wp_sqR (x := cAt [1,1,1,1,1,1,1,0,1,2,2,1,0,2,1,0,1,3,1,1,1,1,1,1,1,0] KB) (y := cAt [1,1,1,1,1,1,1,0,1,2,2,1,0,2,1,0,1,3,1,1,1,1,1,1,1,1] KB) (by kernel_rfl) (R := fun a' w' => w7 = w' ∧ Fr 196 a' ∧ sl a' 0 = .slice xa n c0 ∧ sl a' 1 = .slice ya m c2 ∧ sl a' 6 = .pointer (some ⟨g, 0, none⟩) ∧ sl a' 8 = .slice (some ⟨ro, 0, none⟩) n n ∧ sl a' 9 = .slice vo no co ∧ sl a' 10 = .int .i64 (i : Int) ∧ sl a' 12 = .int .i64 (cc : Int) ∧ sl a' 18 = .int .i64 ce) ?_ ?_
  · refine wp_sqR (x := cAt [1,1,1,1,1,1,1,0,1,2,2,1,0,2,1,0,1,3,1,1,1,1,1,1,1,0,0] KB) (y := cAt [1,1,1,1,1,1,1,0,1,2,2,1,0,2,1,0,1,3,1,1,1,1,1,1,1,0,1] KB) (by kernel_rfl) (b28 w7 xa n c0 ya m c2 g ro vo no co i cc sz _ ce hcases a7 hf h0 h1 h6 h8 h9 h10 h12 h13 h17 h18) ?_
    rintro a8 _ ⟨hf, h0, h1, h6, h8, h9, h10, h12, h18, h152, rfl⟩
    refine wp_onF (A := cAt [1,1,1,1,1,1,1,0,1,2,2,1,0,2,1,0,1,3,1,1,1,1,1,1,1,0,1,3] KB) (B := cAt [1,1,1,1,1,1,1,0,1,2,2,1,0,2,1,0,1,3,1,1,1,1,1,1,1,0,1,4] KB) (by kernel_rfl) h152 ?_
    exact wp_skipR (by kernel_rfl) ⟨rfl, hf, h0, h1, h6, h8, h9, h10, h12, h18⟩
  rintro a8 _ ⟨rfl, hf, h0, h1, h6, h8, h9, h10, h12, h18⟩
  have hcl' : cc < s.abs.length := by omega
  refine wp_sqR (x := cAt [1,1,1,1,1,1,1,0,1,2,2,1,0,2,1,0,1,3,1,1,1,1,1,1,1,1,0] KB) (y := cAt [1,1,1,1,1,1,1,0,1,2,2,1,0,2,1,0,1,3,1,1,1,1,1,1,1,1,1] KB) (by kernel_rfl) (R := BsS w l xa n c0 ya m c2 g ro (i + 1) i) ?_ ?_
  · refine wp_sqR (x := cAt [1,1,1,1,1,1,1,0,1,2,2,1,0,2,1,0,1,3,1,1,1,1,1,1,1,1,0,0] KB) (y := cAt [1,1,1,1,1,1,1,0,1,2,2,1,0,2,1,0,1,3,1,1,1,1,1,1,1,1,0,1] KB) (by kernel_rfl) (b30 w7 xa n c0 ya m c2 g ro vo no co i cc ce a8 hf h0 h1 h6 h8 h9 h10 h12 h18) ?_
    rintro a9 _ ⟨hf, h0, h1, h6, h8, h9, h10, h12, h18, h154, rfl⟩
    by_cases hce0 : ce = 0
    · rw [decide_eq_true hce0] at h154
      refine wp_onT (A := cAt [1,1,1,1,1,1,1,0,1,2,2,1,0,2,1,0,1,3,1,1,1,1,1,1,1,1,0,1,3] KB) (B := cAt [1,1,1,1,1,1,1,0,1,2,2,1,0,2,1,0,1,3,1,1,1,1,1,1,1,1,0,1,4] KB) (by kernel_rfl) h154 ?_
      have hrt : 0 ≤ sz ∧ ll.abs.A.room sz = true := by
        rcases hcases with ⟨_, h, _⟩ | ⟨h1, _, h2⟩ | ⟨_, h, _⟩
        · omega
        · exact ⟨h1, h2⟩
        · omega
      obtain ⟨f, hfo⟩ : ∃ f, offs[cc]? = some f := ⟨_, List.getElem?_eq_getElem (by rw [HS.ol]; exact hcn)⟩
      have hfx := HS.ox cc f hfo
      refine wp_endR (b31 w w7 xa n c0 ya m c2 g ro vo no co i bx s' ((i : Int) + 1) offs ys cc f hM7 hfo (by omega) (by omega) hcn a9 hf h0 h1 h6 h8 h9 h10 h12) ?_
      rintro a10 w10 ⟨offs', hf, h0, h1, h6, h8, h9, h10, hM10, f', ho', hfx', hfn'⟩
      have hbd := HS.bd.off_ok (x := ⟨(i : Int), sz, []⟩) hcl' (by rw [hok]; exact decide_eq_true hrt.1) (by rw [hget]; exact hrt.2)
      refine ⟨s', offs', vo, no, co, ys, (fun k => if k = cc then off k ++ [(i : Int)] else off k), ⟨?_, ?_, ?_, fun c f2 hc2 => ?_, hn7.trans HS.sn, by rw [hT7]; exact HS.sT⟩, hf, h0, h1, h6, h8, h9, h10⟩
      · rw [show ((i + 1 : Nat) : Int) = (i : Int) + 1 by omega]; exact hM10
      · rw [show ((i + 1 : Nat) : Int) = (i : Int) + 1 by omega, hT7, hab7]; exact hbd
      · rw [ho', List.length_set]; exact HS.ol
      · rw [ho'] at hc2
        by_cases e : cc = c
        · subst e
          rw [List.getElem?_set_self (by rw [HS.ol]; exact hcn)] at hc2
          simp at hc2
          subst hc2
          rw [if_pos rfl, hfx', hfx.1]
          exact ⟨rfl, by omega⟩
        · rw [List.getElem?_set_ne e] at hc2
          rw [if_neg (fun e2 => e e2.symm)]
          have := HS.ox c f2 hc2
          exact ⟨this.1, by omega⟩
    · rw [decide_eq_false hce0] at h154
      refine wp_onF (A := cAt [1,1,1,1,1,1,1,0,1,2,2,1,0,2,1,0,1,3,1,1,1,1,1,1,1,1,0,1,3] KB) (B := cAt [1,1,1,1,1,1,1,0,1,2,2,1,0,2,1,0,1,3,1,1,1,1,1,1,1,1,0,1,4] KB) (by kernel_rfl) h154 ?_
      refine wp_skipR (by kernel_rfl) ?_
      have hbd := HS.bd.off_no (x := ⟨(i : Int), sz, []⟩) hcl' (by
        rcases hcases with ⟨h1, _, _⟩ | ⟨_, h, _⟩ | ⟨_, _, h2⟩
        · exact .inl (by rw [hok]; exact decide_eq_false (by omega))
        · exact absurd h hce0
        · exact .inr (by rw [hget]; exact h2))
      refine ⟨s', offs, vo, no, co, ys, off, ⟨?_, ?_, HS.ol, fun c f2 hc2 => ?_, hn7.trans HS.sn, by rw [hT7]; exact HS.sT⟩, hf, h0, h1, h6, h8, h9, h10⟩
      · rw [show ((i + 1 : Nat) : Int) = (i : Int) + 1 by omega]; exact hM7
      · rw [show ((i + 1 : Nat) : Int) = (i : Int) + 1 by omega, hT7, hab7]; exact hbd
      · have := HS.ox c f2 hc2
        exact ⟨this.1, by omega⟩
  rintro a10 w10 ⟨s2, offs2, vo2, no2, co2, ys2, off2, HS2, hf, h0, h1, h6, h8, h9, h10⟩
  refine wp_endX (b31x w10 xa n c0 ya m c2 g ro vo2 no2 co2 i a10 hf h0 h1 h6 h8 h9 h10) ?_
  rintro a11 _ ⟨hf, h0, h1, h6, h8, h9, h10, rfl⟩
  exact ⟨rfl, s2, offs2, vo2, no2, co2, ys2, off2, HS2, hf, h0, h1, h6, h8, h9, h10⟩

/-- A release. -/
theorem bd_release (w wr : World) (l : List Cs) (xa : Option Addr) (n c0 : Nat) (ya : Option Addr) (m c2 g ro i bx : Nat) (s : Sh) (offs : List Of) (vo : Option Addr) (no co : Nat) (ys : List Po) (off : Nat → List Int) (HS : Bs w wr l n g ro i s offs vo no co ys off) (hi : i < 60) (y : Ac) (hy0 : 0 ≤ y.t) (hbx : wr.heap[bx]? = some (.cells #[.int .i64 y.d, .int .i64 y.c, .int .u64 y.x.no, .int .i64 y.x.sz, .slice y.x.a y.x.n y.x.c, .int .u64 y.t] 42 (0, 0))) (a : Act) (hf : Fr 196 a) (h0 : sl a 0 = .slice xa n c0) (h1 : sl a 1 = .slice ya m c2) (h6 : sl a 6 = .pointer (some ⟨g, 0, none⟩)) (h8 : sl a 8 = .slice (some ⟨ro, 0, none⟩) n n) (h9 : sl a 9 = .slice vo no co) (h10 : sl a 10 = .int .i64 (i : Int)) (h11 : sl a 11 = .pointer (some ⟨bx, 0, none⟩)) :
    Code.wp Try.prog (cAt [1,1,1,1,1,1,1,0,1,2,2,1,0,2,1,1] KB) (Exit.then (fun a' w' => BsS w l xa n c0 ya m c2 g ro (i + 1) i a' w') Nope) a wr := by
  obtain ⟨tt, htt⟩ : ∃ tt, y.t.tmod 4294967296 = tt := ⟨_, rfl⟩
  have ht0 : 0 ≤ tt := by rw [← htt]; exact Int.tmod_nonneg _ hy0
  have ht1 : tt < 4294967296 := by rw [← htt]; exact Int.tmod_lt_of_pos _ (by decide)
  have hcnt := HS.bd.cnt
  have hol := HS.bm.ops.len
  rw [List.length_map] at hcnt
  have hok := HS.bm.lv.oks (show (i : Int) < 18446744073709551615 by omega)
  have hT1 := HS.sT
  have hfin := rel_fin (tick := max tt s.T) hok (by omega) (by omega) HS.bm.lv.db HS.bm.lv.N0
  have hbd := HS.bd.rel hok (show s.T ≤ max tt s.T by omega)
  refine wp_sqR (x := cAt [1,1,1,1,1,1,1,0,1,2,2,1,0,2,1,1,0] KB) (y := cAt [1,1,1,1,1,1,1,0,1,2,2,1,0,2,1,1,1] KB) (by kernel_rfl) (b32 w wr xa n c0 ya m c2 g ro vo no co i bx s (i : Int) offs ys y hbx HS.bm (show (i : Int) < 1000 by omega) tt htt ht0 ht1 (by omega) a hf h0 h1 h6 h8 h9 h10 h11) ?_
  rintro a1 w1 ⟨s', v2, n2, c3, zs, hf, h0, h1, h6, h8, h9, h10, hM1, hzs, hT', hn', hab'⟩
  refine wp_sqR (x := cAt [1,1,1,1,1,1,1,0,1,2,2,1,0,2,1,1,1,0] KB) (y := cAt [1,1,1,1,1,1,1,0,1,2,2,1,0,2,1,1,1,1] KB) (by kernel_rfl) (b33 w w1 xa n c0 ya m c2 g ro v2 n2 c3 i s' (i : Int) offs (ys ++ zs) hM1 a1 hf h0 h1 h6 h8 h9 h10) ?_
  rintro a2 w2 ⟨hf, h0, h1, h6, h8, h9, h10, h19, h20, hb2⟩
  have hM2 := hM1.past hb2
  refine wp_sqR (x := cAt [1,1,1,1,1,1,1,0,1,2,2,1,0,2,1,1,1,1,0] KB) (y := cAt [1,1,1,1,1,1,1,0,1,2,2,1,0,2,1,1,1,1,1] KB) (by kernel_rfl) (b34 w w2 xa n c0 ya m c2 g ro v2 n2 c3 i s' (i : Int) offs (ys ++ zs) _ _ hM2 (fun hk => by rw [hT', hab'] at hk ⊢; exact hfin.2.2.2 hk) a2 hf h0 h1 h6 h8 h9 h10 h19 h20) ?_
  rintro a3 _ ⟨hf, h0, h1, h6, h8, h9, h10, h184, rfl⟩
  refine wp_onF (A := cAt [1,1,1,1,1,1,1,0,1,2,2,1,0,2,1,1,1,1,1,3] KB) (B := cAt [1,1,1,1,1,1,1,0,1,2,2,1,0,2,1,1,1,1,1,4] KB) (by kernel_rfl) h184 ?_
  refine wp_skipR (by kernel_rfl) ?_
  have hc2 : (((ys ++ zs).map Po.ot).length : Int) + (tot s'.abs : Int) ≤ ((i + 1 : Nat) : Int) := by
    have := hbd.cnt
    rw [List.map_append, hzs, hab']
    omega
  have hlv := hM2.lv
  refine ⟨s', offs, v2, n2, c3, ys ++ zs, off, ⟨⟨⟨hlv.sw, hlv.n1, hlv.below, hlv.db.more (by omega), hlv.bT, hlv.T0, hlv.T1, by omega⟩, hM2.offs, hM2.ops, hM2.dis⟩, ?_, HS.ol, fun c f hc => ⟨(HS.ox c f hc).1, by have := (HS.ox c f hc).2; omega⟩, hn'.trans HS.sn, by omega⟩, hf, h0, h1, h6, h8, h9, h10⟩
  rw [← hab', ← hzs, ← List.map_append, ← hT'] at hbd
  exact ⟨hbd.len, hbd.rb, hbd.cls, hbd.srt, hbd.q, hbd.bi, hbd.bp, hbd.off, hc2⟩

/-- The classes' rates and bursts: all are small, or the law is done. -/
theorem bd_small (w : World) (xa : Option Addr) (n c0 : Nat) (ya : Option Addr) (m c2 : Nat) (l : List Cs) (hl : Rcs w xa n l) (hn8 : n ≤ 8) (Q : Exit → Act → World → Prop)
    (hQr : ∀ a' w', bodyPost Try.prog Try.f4 (Yes w) .ret a' w' → Q .ret a' w') (hQn : ∀ a', (∀ x ∈ l, x.r < 1048576 ∧ x.B < 1048576) → Fr 196 a' ∧ sl a' 0 = .slice xa n c0 ∧ sl a' 1 = .slice ya m c2 → Q .normal a' w) (a : Act) (hf : Fr 196 a) (h0 : sl a 0 = .slice xa n c0) (h1 : sl a 1 = .slice ya m c2) :
    Code.wp Try.prog (cAt [1,1,0] KB) Q a w := by
  refine wp_sqR (x := cAt [1,1,0,0] KB) (y := cAt [1,1,0,1] KB) (by kernel_rfl) (b3 w xa n c0 ya m c2 a hf h0 h1) ?_
  rintro a1 _ ⟨hf, h0, h1, h5, rfl⟩
  refine wp_blockR (x := cAt [1,1,0,1,2] KB) (id := 0) (by kernel_rfl) ?_
  refine wp_loopR (x := cAt [1,1,0,1,2,2] KB) (by kernel_rfl) (fun a' w' => ∃ i : Nat, i ≤ n ∧ (∀ (j : Nat) (x : Cs), j < i → l[j]? = some x → x.r < 1048576 ∧ x.B < 1048576) ∧ w = w' ∧ Fr 196 a' ∧ sl a' 0 = .slice xa n c0 ∧ sl a' 1 = .slice ya m c2 ∧ sl a' 5 = .int .i64 (i : Int)) (fun a' _ => n - (intOf (sl a' 5)).toNat) ⟨0, Nat.zero_le _, fun j x hj => (by omega), rfl, hf, h0, h1, h5⟩ ?_
  rintro a2 _ ⟨i, hi, hall, rfl, hf, h0, h1, h5⟩
  by_cases hlt : i < n
  case neg =>
    refine wp_endX (b4x w xa n c0 ya m c2 i hlt a2 hf h0 h1 h5) ?_
    rintro a3 _ ⟨hf, h0, h1, rfl⟩
    refine thru (hQn a3 (fun x hx => ?_) ⟨hf, h0, h1⟩)
    obtain ⟨j, hj⟩ := List.getElem?_of_mem hx
    exact hall j x (by have := (List.getElem?_eq_some_iff.1 hj).1; have := hl.len; omega) hj
  refine wp_sqR (x := cAt [1,1,0,1,2,2,0] KB) (y := cAt [1,1,0,1,2,2,1] KB) (by kernel_rfl) (b4 w xa n c0 ya m c2 i hlt a2 hf h0 h1 h5) ?_
  rintro a3 _ ⟨hf, h0, h1, h5', rfl⟩
  have hll := hl.len
  obtain ⟨x, hx⟩ : ∃ x, l[i]? = some x := ⟨_, List.getElem?_eq_getElem (by omega)⟩
  obtain ⟨xb, xo, hxa, hxc⟩ := hl.cells (by intro e; rw [e] at hx; simp at hx)
  rw [hxa] at h0
  refine wp_sqG (x := cAt [1,1,0,1,2,2,1,0] KB) (y := cAt [1,1,0,1,2,2,1,1] KB) (by kernel_rfl) ?_
  refine wp_blockR (x := cAt [1,1,0,1,2,2,1,0,2] KB) (id := 1) (by kernel_rfl) ?_
  refine wp_sqR (x := cAt [1,1,0,1,2,2,1,0,2,0] KB) (y := cAt [1,1,0,1,2,2,1,0,2,1] KB) (by kernel_rfl) (b6 w xb xo n c0 ya m c2 i x (hxc i x hx) hlt a3 hf h0 h1 h5') ?_
  rintro a4 _ ⟨hf, h0, h1, h5', h49, rfl⟩
  by_cases hbig : x.r < 1048576 ∧ x.B < 1048576
  · rw [show (decide (1048576 ≤ x.r) || decide (1048576 ≤ x.B)) = false by rw [decide_eq_false (by omega), decide_eq_false (by omega)]; rfl] at h49
    refine wp_onF (A := cAt [1,1,0,1,2,2,1,0,2,1,3] KB) (B := cAt [1,1,0,1,2,2,1,0,2,1,4] KB) (by kernel_rfl) h49 ?_
    refine wp_skipR (by kernel_rfl) ?_
    rw [← hxa] at h0
    refine wp_endR (b5 w xa n c0 ya m c2 i (by omega) a4 hf h0 h1 h5') ?_
    rintro a5 _ ⟨hf, h0, h1, h5'', rfl⟩
    refine ⟨⟨i + 1, hlt, fun j z hj hz => ?_, rfl, hf, h0, h1, by rw [h5'']; rfl⟩, ?_⟩
    · by_cases e : j = i
      · subst e
        rw [hx] at hz
        cases hz
        exact hbig
      · exact hall j z (by omega) hz
    · rw [h5, h5'']
      simp only [intOf]
      omega
  · rw [show (decide (1048576 ≤ x.r) || decide (1048576 ≤ x.B)) = true by
      by_cases e : 1048576 ≤ x.r
      · rw [decide_eq_true e]; rfl
      · rw [decide_eq_false e, decide_eq_true (by omega)]; rfl] at h49
    refine wp_onT (A := cAt [1,1,0,1,2,2,1,0,2,1,3] KB) (B := cAt [1,1,0,1,2,2,1,0,2,1,4] KB) (by kernel_rfl) h49 ?_
    exact wp_endT (b7 w w (Below.refl _ _) a4 hf) (fun a' w' h => hQr a' w' h)

/-- The acts. -/
theorem bd_acts (w wr : World) (l : List Cs) (xa : Option Addr) (n c0 : Nat) (ya : Option Addr) (m c2 g ro : Nat) (la : List Ac) (hl : Rcs w xa n l) (hm : Acr w ya m la) (hm60 : m ≤ 60) (hn1 : 1 ≤ n) (hn8 : n ≤ 8) (s : Sh) (offs : List Of) (off : Nat → List Int) (HS : Bs w wr l n g ro 0 s offs none 0 0 [] off) (a : Act) (hf : Fr 196 a) (h0 : sl a 0 = .slice xa n c0) (h1 : sl a 1 = .slice ya m c2) (h6 : sl a 6 = .pointer (some ⟨g, 0, none⟩)) (h8 : sl a 8 = .slice (some ⟨ro, 0, none⟩) n n) (h9 : sl a 9 = .slice none 0 0) :
    Code.wp Try.prog (cAt [1,1,1,1,1,1,1,0] KB) (Exit.then (fun a' w' => ∃ s offs vo no co ys off, Bs w w' l n g ro m s offs vo no co ys off ∧ Fr 196 a' ∧ sl a' 0 = .slice xa n c0 ∧ sl a' 8 = .slice (some ⟨ro, 0, none⟩) n n ∧ sl a' 9 = .slice vo no co) Nope) a wr := by
  refine wp_sqR (x := cAt [1,1,1,1,1,1,1,0,0] KB) (y := cAt [1,1,1,1,1,1,1,0,1] KB) (by kernel_rfl) (b13 wr xa n c0 ya m c2 g ro a hf h0 h1 h6 h8 h9) ?_
  rintro a1 _ ⟨hf, h0, h1, h6, h8, h9, h10, rfl⟩
  refine wp_blockR (x := cAt [1,1,1,1,1,1,1,0,1,2] KB) (id := 2) (by kernel_rfl) ?_
  refine wp_loopR (x := cAt [1,1,1,1,1,1,1,0,1,2,2] KB) (by kernel_rfl) (fun a' w' => ∃ i : Nat, i ≤ m ∧ BsS w l xa n c0 ya m c2 g ro i i a' w') (fun a' _ => m - (intOf (sl a' 10)).toNat) ⟨0, Nat.zero_le _, s, offs, none, 0, 0, [], off, HS, hf, h0, h1, h6, h8, h9, h10⟩ ?_
  rintro a2 w2 ⟨i, hi, s, offs, vo, no, co, ys, off, HS, hf, h0, h1, h6, h8, h9, h10⟩
  have h10a := h10
  by_cases hlt : i < m
  case neg =>
    have e : i = m := by omega
    subst e
    refine wp_endX (b14x w2 xa n c0 ya i c2 g ro vo no co i hlt a2 hf h0 h1 h6 h8 h9 h10) ?_
    rintro a3 _ ⟨hf, h0, h8, h9, rfl⟩
    exact thru ⟨s, offs, vo, no, co, ys, off, HS, hf, h0, h8, h9⟩
  refine wp_sqR (x := cAt [1,1,1,1,1,1,1,0,1,2,2,0] KB) (y := cAt [1,1,1,1,1,1,1,0,1,2,2,1] KB) (by kernel_rfl) (b14 w2 xa n c0 ya m c2 g ro vo no co i hlt a2 hf h0 h1 h6 h8 h9 h10) ?_
  rintro a3 _ ⟨hf, h0, h1, h6, h8, h9, h10, rfl⟩
  refine wp_sqR (x := cAt [1,1,1,1,1,1,1,0,1,2,2,1,0] KB) (y := cAt [1,1,1,1,1,1,1,0,1,2,2,1,1] KB) (by kernel_rfl) (R := BsS w l xa n c0 ya m c2 g ro (i + 1) i) ?_ ?_
  ·
    obtain ⟨y, yb, yo, hy, hyok, hya, hrg⟩ := hm.nth hlt
    rw [hya] at h1
    refine wp_blockR (x := cAt [1,1,1,1,1,1,1,0,1,2,2,1,0,2] KB) (id := 3) (by kernel_rfl) ?_
    refine wp_sqR (x := cAt [1,1,1,1,1,1,1,0,1,2,2,1,0,2,0] KB) (y := cAt [1,1,1,1,1,1,1,0,1,2,2,1,0,2,1] KB) (by kernel_rfl) (b16 w2 xa n c0 yb yo m c2 g ro vo no co i y (range_kept HS.bm.lv.below hrg) hlt a3 hf h0 h1 h6 h8 h9 h10) ?_
    rintro a4 w4 ⟨bx, hf, h0, h1, h6, h8, h9, h10, h11, hbx, _, hb4⟩
    rw [← hya] at h1
    have HS4 : Bs w w4 l n g ro i s offs vo no co ys off := ⟨HS.bm.past hb4, HS.bd, HS.ol, HS.ox, HS.sn, HS.sT⟩
    refine wp_sqG (x := cAt [1,1,1,1,1,1,1,0,1,2,2,1,0,2,1,0] KB) (y := cAt [1,1,1,1,1,1,1,0,1,2,2,1,0,2,1,1] KB) (by kernel_rfl) ?_
    refine wp_sqR (x := cAt [1,1,1,1,1,1,1,0,1,2,2,1,0,2,1,0,0] KB) (y := cAt [1,1,1,1,1,1,1,0,1,2,2,1,0,2,1,0,1] KB) (by kernel_rfl) (b17 w4 xa n c0 ya m c2 g ro vo no co i bx y hbx a4 hf h0 h1 h6 h8 h9 h10 h11) ?_
    rintro a5 _ ⟨hf, h0, h1, h6, h8, h9, h10, h11, h74, rfl⟩
    by_cases hd : y.d < 3
    · rw [decide_eq_true hd] at h74
      refine wp_onT (A := cAt [1,1,1,1,1,1,1,0,1,2,2,1,0,2,1,0,1,3] KB) (B := cAt [1,1,1,1,1,1,1,0,1,2,2,1,0,2,1,0,1,4] KB) (by kernel_rfl) h74 ?_
      refine wp_endX (bd_offer w w4 l xa n c0 ya m c2 g ro i bx s offs vo no co ys off HS4 hl hn1 hn8 (by omega) y hbx a5 hf h0 h1 h6 h8 h9 h10 h11) ?_
      intro a6 w6 h6
      exact h6
    · rw [decide_eq_false hd] at h74
      refine wp_onF (A := cAt [1,1,1,1,1,1,1,0,1,2,2,1,0,2,1,0,1,3] KB) (B := cAt [1,1,1,1,1,1,1,0,1,2,2,1,0,2,1,0,1,4] KB) (by kernel_rfl) h74 ?_
      refine wp_skipR (by kernel_rfl) ?_
      refine wp_endR (bd_release w w4 l xa n c0 ya m c2 g ro i bx s offs vo no co ys off HS4 (by omega) y hyok.t0 hbx a5 hf h0 h1 h6 h8 h9 h10 h11) ?_
      intro a6 w6 h6
      exact h6
  rintro a4 w4 ⟨s, offs, vo, no, co, ys, off, HS, hf, h0, h1, h6, h8, h9, h10⟩
  refine wp_endR (b15 w4 xa n c0 ya m c2 g ro vo no co i (by omega) a4 hf h0 h1 h6 h8 h9 h10) ?_
  rintro a5 _ ⟨hf, h0, h1, h6, h8, h9, h10', rfl⟩
  refine ⟨⟨i + 1, hlt, s, offs, vo, no, co, ys, off, HS, hf, h0, h1, h6, h8, h9, by rw [h10']; rfl⟩, ?_⟩
  rw [h10a, h10']
  simp only [intOf]
  omega

theorem bounds_any (xa : Option Addr) (n c0 : Nat) (l : List Cs) (ya : Option Addr) (m c2 : Nat) (la : List Ac) (w : World) (hl : Rcs w xa n l) (hm : Acr w ya m la) (hmx : m ≤ maxLen) :
    Calls Try.prog 4 #[.slice xa n c0, .slice ya m c2] w (Yes w) := by
  refine calls_of_wp (c := KB) Try.func4 (by kernel_rfl) ?_
  have hf : Fr 196 { tmps := #[.slice xa n c0, .slice ya m c2] ++ Array.replicate (Try.f4.ntmps - (#[.slice xa n c0, .slice ya m c2] : Array Value).size) undef, defers := [] } := ⟨rfl, by simp [Try.ntmps4]⟩
  refine wp_sqR (x := cAt [0] KB) (y := cAt [1] KB) (by kernel_rfl) (b0 w xa n c0 ya m c2 _ hf (sl_at _ _ 0 _ rfl) (sl_at _ _ 1 _ rfl)) ?_
  rintro a1 _ ⟨hf, h0, h1, rfl⟩
  refine wp_sqG (x := cAt [1,0] KB) (y := cAt [1,1] KB) (by kernel_rfl) ?_
  refine wp_sqR (x := cAt [1,0,0] KB) (y := cAt [1,0,1] KB) (by kernel_rfl) (b1 w xa n c0 ya m c2 la hm hmx a1 hf h0 h1) ?_
  rintro a2 _ ⟨bb, hf, h0, h1, h28, hbb, rfl⟩
  cases bb with
  | true =>
    refine wp_onT (A := cAt [1,0,1,3] KB) (B := cAt [1,0,1,4] KB) (by kernel_rfl) h28 ?_
    exact wp_endT (b2 w w (Below.refl _ _) a2 hf) (fun a' w' h => h)
  | false =>
  obtain ⟨hn8, hfew⟩ := hbb.1 rfl
  have hm60 : m ≤ 60 := by rw [← hm.len]; exact hfew.1
  refine wp_onF (A := cAt [1,0,1,3] KB) (B := cAt [1,0,1,4] KB) (by kernel_rfl) h28 ?_
  refine wp_skipR (by kernel_rfl) ?_
  refine wp_sqG (x := cAt [1,1,0] KB) (y := cAt [1,1,1] KB) (by kernel_rfl) ?_
  refine bd_small w xa n c0 ya m c2 l hl hn8 (Exit.then (Code.wp Try.prog (cAt [1,1,1] KB) (bodyPost Try.prog Try.f4 (Yes w))) (bodyPost Try.prog Try.f4 (Yes w))) (fun a' w' h => h) ?_ a2 hf h0 h1
  rintro a3 hsm ⟨hf, h0, h1⟩
  have hlen := hl.len
  cases hmay : mayB l with
  | false =>
    refine wp_sqR (x := cAt [1,1,1,0] KB) (y := cAt [1,1,1,1] KB) (by kernel_rfl) (b8n w xa n c0 ya m c2 l hl hmay a3 hf h0 h1) ?_
    rintro a4 w4 ⟨hf, h7, hb4⟩
    refine wp_sqG (x := cAt [1,1,1,1,0] KB) (y := cAt [1,1,1,1,1] KB) (by kernel_rfl) ?_
    refine wp_sqR (x := cAt [1,1,1,1,0,0] KB) (y := cAt [1,1,1,1,0,1] KB) (by kernel_rfl) (b9n w4 a4 hf h7) ?_
    rintro a5 _ ⟨hf, h57, rfl⟩
    refine wp_onT (A := cAt [1,1,1,1,0,1,3] KB) (B := cAt [1,1,1,1,0,1,4] KB) (by kernel_rfl) h57 ?_
    exact wp_endT (b10 w w4 hb4 a5 hf) (fun a' w' h => h)
  | true =>
  have hmp := hmay
  unfold mayB at hmp
  simp only [Bool.and_eq_true, decide_eq_true_eq] at hmp
  have hn1 : 1 ≤ n := by omega
  refine wp_sqR (x := cAt [1,1,1,0] KB) (y := cAt [1,1,1,1] KB) (by kernel_rfl) (b8 w xa n c0 ya m c2 l hl hmay a3 hf h0 h1) ?_
  rintro a4 w4 ⟨g, s, hf, h0, h1, h6, h7, hv, hT, hn, hab⟩
  refine wp_sqG (x := cAt [1,1,1,1,0] KB) (y := cAt [1,1,1,1,1] KB) (by kernel_rfl) ?_
  refine wp_sqR (x := cAt [1,1,1,1,0,0] KB) (y := cAt [1,1,1,1,0,1] KB) (by kernel_rfl) (b9 w4 xa n c0 ya m c2 g a4 hf h0 h1 h6 h7) ?_
  rintro a5 _ ⟨hf, h0, h1, h6, h57, rfl⟩
  refine wp_onF (A := cAt [1,1,1,1,0,1,3] KB) (B := cAt [1,1,1,1,0,1,4] KB) (by kernel_rfl) h57 ?_
  refine wp_skipR (by kernel_rfl) ?_
  refine wp_sqR (x := cAt [1,1,1,1,1,0] KB) (y := cAt [1,1,1,1,1,1] KB) (by kernel_rfl) (b11 w4 xa n c0 ya m c2 g hn8 a5 hf h0 h1 h6) ?_
  rintro a6 w6 ⟨ro, hf, h0, h1, h6, h8, hoff, hb6⟩
  refine wp_sqR (x := cAt [1,1,1,1,1,1,0] KB) (y := cAt [1,1,1,1,1,1,1] KB) (by kernel_rfl) (b12 w6 xa n c0 ya m c2 g ro a6 hf h0 h1 h6 h8) ?_
  rintro a7 _ ⟨hf, h0, h1, h6, h8, h9, rfl⟩
  have HS0 : Bs w w6 l n g ro 0 s (List.replicate n ⟨none, 0, 0, []⟩) none 0 0 [] (fun _ => []) := by
    have hv6 := hv.past hb6
    refine ⟨⟨hv6, ⟨hoff.row, fun x hx => (by rw [List.eq_of_mem_replicate hx]; exact OwnG.nil _ _ _ _), hoff.apart, Nat.le_trans hv.below.size hoff.base⟩, Ops.nil _ _, fun y hy => (by cases hy)⟩, ?_, by rw [List.length_replicate], fun c f hc => ?_, by omega, by omega⟩
    · rw [hT, hab]; exact Bd.new l
    · have := List.mem_of_getElem? hc
      rw [List.eq_of_mem_replicate this]
      exact ⟨rfl, Nat.le_refl _⟩
  refine wp_sqR (x := cAt [1,1,1,1,1,1,1,0] KB) (y := cAt [1,1,1,1,1,1,1,1] KB) (by kernel_rfl) (bd_acts w w6 l xa n c0 ya m c2 g ro la hl hm hm60 hn1 hn8 s _ _ HS0 a7 hf h0 h1 h6 h8 h9) ?_
  rintro a8 w8 ⟨s8, offs, vo, no, co, ys, off, HS, hf, h0, h8, h9⟩
  obtain ⟨xb, xo, hxa, hxc⟩ := hl.cells (by intro e; rw [e] at hlen; simp at hlen; omega)
  rw [hxa] at h0
  have hcnt := HS.bd.cnt
  have hol := HS.bm.ops.len
  rw [List.length_map] at hcnt
  have hbl := HS.bd.len
  have hsT := HS.sT
  refine b36 w w8 xb xo n c0 ro vo no co l g s8 (m : Int) offs ys HS.bm hlen (fun i x hx => range_kept HS.bm.lv.below (hxc i x hx)) ⟨HS.bd.bp, fun x hx => ?_, fun x hx => ?_⟩ ⟨HS.bd.srt, fun x hx => ?_, fun c f hc => ?_⟩ HS.ol hn8 (by omega) a8 hf h0 h8 h9
  · have h := HS.bd.cls x hx
    exact ⟨by omega, h.2.1, h.2.2.2.2, h.2.2.1, by omega⟩
  · have h1 := hl.ok x hx
    have h2 := hsm x hx
    exact ⟨h1.r0, h2.1, h1.B0, h2.2⟩
  · have h := HS.bd.cls x hx
    have := HS.ol
    omega
  · have hc2 := (List.getElem?_eq_some_iff.1 hc).1
    have := HS.ol
    rw [(HS.ox c f hc).1, HS.bd.off c (by omega)]
    exact ⟨_, rfl⟩
end Go.Proofs.Yticjfhmkpciihaa

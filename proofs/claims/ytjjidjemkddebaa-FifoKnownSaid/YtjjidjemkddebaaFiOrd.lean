/-
  FifoOrder's walk, put together of its pieces. Conditions: a row of acts whose numbers fit their Go types. (Made by gen_fiord.py.)
-/
import Derived.Test.YtjjidjemkddebaaFiOrdA
namespace Go.Proofs.Ytjjidjemkddebaa
open Go.RowKit

theorem wp_ifT {P : Program} {c A B : Code} {Q : Exit → Act → World → Prop} {a : Act} {w : World} {i : Nat} (hc : c = .cond (.tmp i) A B) (h : sl a i = .bool true) (h1 : A.wp P Q a w) : c.wp P Q a w := by
  subst hc
  exact wp_cond_true (by rw [← h]; rfl) h1
theorem wp_ifF {P : Program} {c A B : Code} {Q : Exit → Act → World → Prop} {a : Act} {w : World} {i : Nat} (hc : c = .cond (.tmp i) A B) (h : sl a i = .bool false) (h1 : B.wp P Q a w) : c.wp P Q a w := by
  subst hc
  exact wp_cond_false (by rw [← h]; rfl) h1
/-- How an act goes: what stands behind it. -/
def Gone (w : World) (g : Nat) (I S : Int) (n c k xb xo : Nat) (D : Int) (a' : Act) (w' : World) : Prop := ∃ (q' : Qs) (D' : Int) (ia' : Option Addr) (m' ic' : Nat), Fr 177 a' ∧ sl a' 0 = .int .i64 I ∧ sl a' 1 = .int .i64 S ∧ sl a' 2 = .slice (some ⟨xb, xo, none⟩) n c ∧ sl a' 7 = .pointer (some ⟨g, 0, none⟩) ∧ sl a' 9 = .slice ia' m' ic' ∧ sl a' 10 = .int .u64 D' ∧ sl a' 11 = .int .i64 (k : Int) ∧ Ow w w' g q' I S D' ia' m' ic' ∧ 0 ≤ D' ∧ D' ≤ D + 1

set_option maxRecDepth 100000 in
set_option maxHeartbeats 4000000 in
theorem ord_arms (w wr : World) (I S D : Int) (n c g : Nat) (q : Qs) (ia : Option Addr) (m ic k xb xo p : Nat) (y : Ac) (HW : Ow w wr g q I S D ia m ic) (hI : I ≤ 40) (D0 : 0 ≤ D) (D1 : D ≤ 60)
    (hy : y.x.ar w) (hy60 : y.x.n ≤ 60) (hbx : wr.heap[p]? = some (.cells (Pi.cs ⟨k, y.x.sz % 101, y.x.a, y.x.n, y.x.c, y.x.d⟩).toArray 37 (0, 0))) (hpf : ¬ q.foot g p) (a : Act) (hf : Fr 177 a) (h0 : sl a 0 = .int .i64 I) (h1 : sl a 1 = .int .i64 S) (h2 : sl a 2 = .slice (some ⟨xb, xo, none⟩) n c) (h7 : sl a 7 = .pointer (some ⟨g, 0, none⟩)) (h9 : sl a 9 = .slice ia m ic) (h10 : sl a 10 = .int .u64 D) (h11 : sl a 11 = .int .i64 (k : Int)) (h12 : sl a 12 = .pointer (some ⟨p, 0, none⟩)) (h63 : sl a 63 = .int .i64 (y.d % 8)) :
    Code.wp Try.prog (cAt [1,1,1,1,1,1,1,1,0,1,2,2,1,0,2,1,0,1,2] KO) (Exit.then (Gone w g I S n c k xb xo D) Nope) a wr := by
  have hm : m ≤ 40 := by
    have h1 := HW.qu.ok.le
    have h2 := HW.qu.ok.mI
    have h3 := HW.qI
    have h4 := HW.len
    omega
  have hr0 := Int.emod_nonneg y.d (show (8 : Int) ≠ 0 by decide)
  have pop : ∀ (a : Act) (_ : Fr 177 a) (_ : sl a 0 = .int .i64 I) (_ : sl a 1 = .int .i64 S) (_ : sl a 2 = .slice (some ⟨xb, xo, none⟩) n c) (_ : sl a 7 = .pointer (some ⟨g, 0, none⟩)) (_ : sl a 9 = .slice ia m ic) (_ : sl a 10 = .int .u64 D) (_ : sl a 11 = .int .i64 (k : Int)) (_ : sl a 91 = .bool true), Code.wp Try.prog (cAt [1,1,1,1,1,1,1,1,0,1,2,2,1,0,2,1,0,1,2,1] KO) (Exit.then (Gone w g I S n c k xb xo D) Nope) a wr := by
    intro a hf h0 h1 h2 h7 h9 h10 h11 h91
    refine wp_ifT (A := cAt [1,1,1,1,1,1,1,1,0,1,2,2,1,0,2,1,0,1,2,1,3] KO) (B := cAt [1,1,1,1,1,1,1,1,0,1,2,2,1,0,2,1,0,1,2,1,4] KO) (by kernel_rfl) h91 ?_
    by_cases hL : q.L = []
    · refine wp_endR (o25e w wr I S D n c g q ia m ic k xb xo HW hL a hf h0 h1 h2 h7 h9 h10 h11) ?_
      rintro a2 w2 ⟨hf, h0, h1, h2, h7, h9, h10, h11, hw⟩
      exact ⟨q, D, ia, m, ic, hf, h0, h1, h2, h7, h9, h10, h11, hw, D0, by omega⟩
    · refine wp_endR (o25x w wr I S D n c g q ia m ic k xb xo HW hL a hf h0 h1 h2 h7 h9 h10 h11) ?_
      rintro a2 w2 ⟨q', ia', m', ic', hf, h0, h1, h2, h7, h9, h10, h11, hw⟩
      exact ⟨q', D, ia', m', ic', hf, h0, h1, h2, h7, h9, h10, h11, hw, D0, by omega⟩
  by_cases e4 : y.d % 8 = 4
  · rw [e4] at h63
    refine wp_sqR (x := cAt [1,1,1,1,1,1,1,1,0,1,2,2,1,0,2,1,0,1,2,0] KO) (y := cAt [1,1,1,1,1,1,1,1,0,1,2,2,1,0,2,1,0,1,2,1] KO) (by kernel_rfl) (o22_4 wr I S D n c g ia m ic k xb xo p a hf h0 h1 h2 h7 h9 h10 h11 h12 h63) ?_
    rintro a1 _ ⟨hf, h0, h1, h2, h7, h9, h10, h11, h12, h91, rfl⟩
    exact pop a1 hf h0 h1 h2 h7 h9 h10 h11 h91
  by_cases e5 : y.d % 8 = 5
  · rw [e5] at h63
    refine wp_sqR (x := cAt [1,1,1,1,1,1,1,1,0,1,2,2,1,0,2,1,0,1,2,0] KO) (y := cAt [1,1,1,1,1,1,1,1,0,1,2,2,1,0,2,1,0,1,2,1] KO) (by kernel_rfl) (o22_5 wr I S D n c g ia m ic k xb xo p a hf h0 h1 h2 h7 h9 h10 h11 h12 h63) ?_
    rintro a1 _ ⟨hf, h0, h1, h2, h7, h9, h10, h11, h12, h91, rfl⟩
    exact pop a1 hf h0 h1 h2 h7 h9 h10 h11 h91
  by_cases e6 : y.d % 8 = 6
  · rw [e6] at h63
    refine wp_sqR (x := cAt [1,1,1,1,1,1,1,1,0,1,2,2,1,0,2,1,0,1,2,0] KO) (y := cAt [1,1,1,1,1,1,1,1,0,1,2,2,1,0,2,1,0,1,2,1] KO) (by kernel_rfl) (o22_6 wr I S D n c g ia m ic k xb xo p a hf h0 h1 h2 h7 h9 h10 h11 h12 h63) ?_
    rintro a1 _ ⟨hf, h0, h1, h2, h7, h9, h10, h11, h12, h91, rfl⟩
    exact pop a1 hf h0 h1 h2 h7 h9 h10 h11 h91
  refine wp_sqR (x := cAt [1,1,1,1,1,1,1,1,0,1,2,2,1,0,2,1,0,1,2,0] KO) (y := cAt [1,1,1,1,1,1,1,1,0,1,2,2,1,0,2,1,0,1,2,1] KO) (by kernel_rfl) (o22n wr I S D n c g ia m ic k xb xo p (y.d % 8) e4 e5 e6 a hf h0 h1 h2 h7 h9 h10 h11 h12 h63) ?_
  rintro a1 _ ⟨hf, h0, h1, h2, h7, h9, h10, h11, h12, h63, h91, rfl⟩
  refine wp_ifF (A := cAt [1,1,1,1,1,1,1,1,0,1,2,2,1,0,2,1,0,1,2,1,3] KO) (B := cAt [1,1,1,1,1,1,1,1,0,1,2,2,1,0,2,1,0,1,2,1,4] KO) (by kernel_rfl) h91 ?_
  by_cases e7 : y.d % 8 = 7
  · rw [e7] at h63
    refine wp_sqR (x := cAt [1,1,1,1,1,1,1,1,0,1,2,2,1,0,2,1,0,1,2,1,4,0] KO) (y := cAt [1,1,1,1,1,1,1,1,0,1,2,2,1,0,2,1,0,1,2,1,4,1] KO) (by kernel_rfl) (o30t wr I S D n c g ia m ic k xb xo p a1 hf h0 h1 h2 h7 h9 h10 h11 h12 h63) ?_
    rintro a2 _ ⟨hf, h0, h1, h2, h7, h9, h10, h11, h12, h119, rfl⟩
    refine wp_ifT (A := cAt [1,1,1,1,1,1,1,1,0,1,2,2,1,0,2,1,0,1,2,1,4,1,3] KO) (B := cAt [1,1,1,1,1,1,1,1,0,1,2,2,1,0,2,1,0,1,2,1,4,1,4] KO) (by kernel_rfl) h119 ?_
    refine wp_endR (o31 w wr I S D n c g q ia m ic k xb xo HW a2 hf h0 h1 h2 h7 h9 h10 h11) ?_
    rintro a3 w3 ⟨q', ia', m', ic', hf, h0, h1, h2, h7, h9, h10, h11, hw⟩
    exact ⟨q', D, ia', m', ic', hf, h0, h1, h2, h7, h9, h10, h11, hw, D0, by omega⟩
  · refine wp_sqR (x := cAt [1,1,1,1,1,1,1,1,0,1,2,2,1,0,2,1,0,1,2,1,4,0] KO) (y := cAt [1,1,1,1,1,1,1,1,0,1,2,2,1,0,2,1,0,1,2,1,4,1] KO) (by kernel_rfl) (o30f wr I S D n c g ia m ic k xb xo p (y.d % 8) e7 a1 hf h0 h1 h2 h7 h9 h10 h11 h12 h63) ?_
    rintro a2 _ ⟨hf, h0, h1, h2, h7, h9, h10, h11, h12, h119, rfl⟩
    refine wp_ifF (A := cAt [1,1,1,1,1,1,1,1,0,1,2,2,1,0,2,1,0,1,2,1,4,1,3] KO) (B := cAt [1,1,1,1,1,1,1,1,0,1,2,2,1,0,2,1,0,1,2,1,4,1,4] KO) (by kernel_rfl) h119 ?_
    have s0 := Int.emod_nonneg y.x.sz (show (101 : Int) ≠ 0 by decide)
    have s1 := Int.emod_lt_of_pos y.x.sz (show (0 : Int) < 101 by decide)
    have hat : Pi.at_ ⟨k, y.x.sz % 101, y.x.a, y.x.n, y.x.c, y.x.d⟩ wr := ⟨hy.len, hy.rd.below HW.below, hy.byt, by show y.x.n ≤ 1000000; omega⟩
    have hap : y.x.d ≠ [] → ∀ b, blk y.x.a = some b → ¬ q.foot g b := fun hne b hb hfo => by
      obtain ⟨b', o', e, hc⟩ := hy.rd hne
      rw [e] at hb
      simp [blk] at hb
      subst hb
      have h1 := World.block_lt_of_cell? w _ (hc 0 (by cases hd : y.x.d with
        | nil => exact absurd hd hne
        | cons _ _ => simp))
      have h2 := (HW.qu.foot_lt hfo).1
      simp at h1
      omega
    by_cases hrm : q.room (y.x.sz % 101) = true
    · refine wp_endR (o15t w wr I S D n c g q ia m ic k xb xo p (y.x.sz % 101) y.x.a y.x.n y.x.c y.x.d HW hbx hat hap s0 (by omega) D0 D1 (by omega) hrm hpf a2 hf h0 h1 h2 h7 h9 h10 h11 h12) ?_
      rintro a3 w3 ⟨q', ia', m', ic', hf, h0, h1, h2, h7, h9, h10, h11, hw⟩
      exact ⟨q', D, ia', m', ic', hf, h0, h1, h2, h7, h9, h10, h11, hw, D0, by omega⟩
    · refine wp_endR (o15f w wr I S D n c g q ia m ic k xb xo p (y.x.sz % 101) y.x.a y.x.n y.x.c y.x.d HW hbx hat hap s0 (by omega) D0 D1 (by simpa using hrm) a2 hf h0 h1 h2 h7 h9 h10 h11 h12) ?_
      rintro a3 w3 ⟨q', hf, h0, h1, h2, h7, h9, h10, h11, hw⟩
      exact ⟨q', D + 1, ia, m, ic, hf, h0, h1, h2, h7, h9, h10, h11, hw, by omega, by omega⟩

set_option maxRecDepth 100000 in
set_option maxHeartbeats 4000000 in
theorem ord_round (w wr : World) (I S D : Int) (xa : Option Addr) (n c g : Nat) (q : Qs) (ia : Option Addr) (m ic k : Nat) (l : List Ac) (HL : Acr w xa n l) (HF : Few l) (HW : Ow w wr g q I S D ia m ic) (hI : I ≤ 40) (D0 : 0 ≤ D) (D1 : D ≤ k) (hlt : k < n) (a : Act) (hf : Fr 177 a) (h0 : sl a 0 = .int .i64 I) (h1 : sl a 1 = .int .i64 S) (h2 : sl a 2 = .slice xa n c) (h7 : sl a 7 = .pointer (some ⟨g, 0, none⟩)) (h9 : sl a 9 = .slice ia m ic) (h10 : sl a 10 = .int .u64 D) (h11 : sl a 11 = .int .i64 (k : Int)) :
    Code.wp Try.prog (cAt [1,1,1,1,1,1,1,1,0,1,2,2] KO) (Exit.then (fun a' w' => ∃ (q' : Qs) (D' : Int) (ia' : Option Addr) (m' ic' : Nat), Fr 177 a' ∧ sl a' 0 = .int .i64 I ∧ sl a' 1 = .int .i64 S ∧ sl a' 2 = .slice xa n c ∧ sl a' 7 = .pointer (some ⟨g, 0, none⟩) ∧ sl a' 9 = .slice ia' m' ic' ∧ sl a' 10 = .int .u64 D' ∧ sl a' 11 = .int .i64 ((k : Int) + 1) ∧ Ow w w' g q' I S D' ia' m' ic' ∧ 0 ≤ D' ∧ D' ≤ k + 1) Nope) a wr := by
  obtain ⟨y, xb, xo, hy, hok, rfl, hrg⟩ := HL.nth hlt
  have hrg2 := range_kept HW.below hrg
  have hn : n ≤ 60 := by have := HF.1; rw [HL.len] at this; exact this
  have hy60 := HF.2 y (List.mem_of_getElem? hy)
  refine wp_sqR (x := cAt [1,1,1,1,1,1,1,1,0,1,2,2,0] KO) (y := cAt [1,1,1,1,1,1,1,1,0,1,2,2,1] KO) (by kernel_rfl) (o11 wr I S D _ n c g ia m ic k hlt a hf h0 h1 h2 h7 h9 h10 h11) ?_
  rintro a1 _ ⟨hf, h0, h1, h2, h7, h9, h10, h11, rfl⟩
  refine wp_sqR (x := cAt [1,1,1,1,1,1,1,1,0,1,2,2,1,0] KO) (y := cAt [1,1,1,1,1,1,1,1,0,1,2,2,1,1] KO) (R := Gone w g I S n c k xb xo D) (by kernel_rfl) ?_ ?_
  · refine wp_blockR (x := cAt [1,1,1,1,1,1,1,1,0,1,2,2,1,0,2] KO) (id := 1) (by kernel_rfl) ?_
    refine wp_sqR (x := cAt [1,1,1,1,1,1,1,1,0,1,2,2,1,0,2,0] KO) (y := cAt [1,1,1,1,1,1,1,1,0,1,2,2,1,0,2,1] KO) (by kernel_rfl) (o13 w wr I S D n c g q ia m ic k xb xo y HW hrg2 hlt hn a1 hf h0 h1 h2 h7 h9 h10 h11) ?_
    rintro a2 w2 ⟨p, hf, h0, h1, h2, h7, h9, h10, h11, h12, hw2, hbx, hp, hbl⟩
    have hpf : ¬ q.foot g p := fun e => by have := (HW.qu.foot_lt e).2; omega
    have hrg3 := range_kept hbl hrg2
    refine wp_sqR (x := cAt [1,1,1,1,1,1,1,1,0,1,2,2,1,0,2,1,0] KO) (y := cAt [1,1,1,1,1,1,1,1,0,1,2,2,1,0,2,1,1] KO) (R := Gone w g I S n c k xb xo D) (by kernel_rfl) ?_ ?_
    · refine wp_sqR (x := cAt [1,1,1,1,1,1,1,1,0,1,2,2,1,0,2,1,0,0] KO) (y := cAt [1,1,1,1,1,1,1,1,0,1,2,2,1,0,2,1,0,1] KO) (by kernel_rfl) (o14 w2 I S D n c g ia m ic k xb xo p y hrg3 hlt a2 hf h0 h1 h2 h7 h9 h10 h11 h12) ?_
      rintro a3 _ ⟨hf, h0, h1, h2, h7, h9, h10, h11, h12, h63, rfl⟩
      refine wp_blockR (x := cAt [1,1,1,1,1,1,1,1,0,1,2,2,1,0,2,1,0,1,2] KO) (id := 2) (by kernel_rfl) ?_
      refine wp_endR (ord_arms w w2 I S D n c g q ia m ic k xb xo p y hw2 hI D0 (by omega) hok.x hy60 hbx hpf a3 hf h0 h1 h2 h7 h9 h10 h11 h12 h63) ?_
      intro a4 w4 hg
      exact hg
    · rintro a3 w3 ⟨q', D', ia', m', ic', hf, h0, h1, h2, h7, h9, h10, h11, hw, d0, d1⟩
      refine wp_endR (o34 w w3 I S D' n c g q' ia' m' ic' k xb xo hw a3 hf h0 h1 h2 h7 h9 h10 h11) ?_
      rintro a4 _ ⟨hf, h0, h1, h2, h7, h9, h10, h11, rfl⟩
      exact ⟨q', D', ia', m', ic', hf, h0, h1, h2, h7, h9, h10, h11, hw, d0, d1⟩
  · rintro a3 w3 ⟨q', D', ia', m', ic', hf, h0, h1, h2, h7, h9, h10, h11, hw, d0, d1⟩
    refine wp_endR (o12 w3 I S D' n c g ia' m' ic' k xb xo (by omega) a3 hf h0 h1 h2 h7 h9 h10 h11) ?_
    rintro a4 _ ⟨hf, h0, h1, h2, h7, h9, h10, h11, rfl⟩
    exact ⟨q', D', ia', m', ic', hf, h0, h1, h2, h7, h9, h10, h11, hw, d0, by omega⟩

theorem sl_arg (xs : Array Value) (m i : Nat) (v : Value) (h : xs[i]? = some v) : sl ⟨xs ++ Array.replicate m undef, []⟩ i = v := by
  have hi := (Array.getElem?_eq_some_iff.1 h).1
  simp [sl, Array.getElem?_append, hi]
  exact (Array.getElem?_eq_some_iff.1 h).2
set_option maxRecDepth 100000 in
set_option maxHeartbeats 4000000 in
theorem order_any (I0 S0 : Int) (xa : Option Addr) (n c : Nat) (l : List Ac) (w : World) (hl : Acr w xa n l) (hn : n ≤ maxLen) :
    Calls Try.prog 4 #[.int .i64 I0, .int .i64 S0, .slice xa n c] w (Yes w) := by
  by_cases HF : Few l
  case neg =>
    have HLL := Lib.hid hl
    have HNF := Lib.hid HF
    clear hl HF
    go_enter Try.func4, Try.ntmps4
    go_wp2_with fail
    refine (few_any xa n c l w HLL.out hn).mono ?_
    rintro e w1 ⟨b, rfl, hb, hw⟩
    subst hw
    obtain rfl : b = false := by
      cases b with
      | false => rfl
      | true => exact absurd (hb.1 rfl) HNF.out
    clear hb
    go_wp2_with fail
    refine (works11_any _).mono ?_
    rintro e w1 ⟨rfl, hb⟩
    have HB := Lib.hid hb
    clear hb
    go_wp2_with fail
    go_ret
    exact ⟨rfl, HB.out⟩
  refine calls_of_wp (c := KO) Try.func4 (by kernel_rfl) ?_
  have hf : Fr 177 { tmps := #[.int .i64 I0, .int .i64 S0, .slice xa n c] ++ Array.replicate (Try.f4.ntmps - (#[.int .i64 I0, .int .i64 S0, .slice xa n c] : Array Value).size) undef, defers := [] } := ⟨rfl, by rw [Try.ntmps4]; simp⟩
  have I1 := Int.emod_nonneg I0 (show (41 : Int) ≠ 0 by decide)
  have I2 := Int.emod_lt_of_pos I0 (show (0 : Int) < 41 by decide)
  have S1 := Int.emod_nonneg S0 (show (401 : Int) ≠ 0 by decide)
  have S2 := Int.emod_lt_of_pos S0 (show (0 : Int) < 401 by decide)
  refine wp_sqR (x := cAt [0] KO) (y := cAt [1] KO) (by kernel_rfl) (o0 w I0 S0 xa n c _ hf (sl_arg _ _ 0 _ rfl) (sl_arg _ _ 1 _ rfl) (sl_arg _ _ 2 _ rfl)) ?_
  rintro a0 _ ⟨hf, h0, h1, h2, rfl⟩
  refine wp_sqR (x := cAt [1,0] KO) (y := cAt [1,1] KO) (by kernel_rfl) (o1 w I0 S0 xa n c l hl hn HF _ hf h0 h1 h2) ?_
  rintro a1 _ ⟨hf, h0, h1, h2, rfl⟩
  refine wp_sqR (x := cAt [1,1,0] KO) (y := cAt [1,1,1] KO) (by kernel_rfl) (o3 w I0 S0 xa n c _ hf h0 h1 h2) ?_
  rintro a2 _ ⟨hf, h0, h1, h2, rfl⟩
  refine wp_sqR (x := cAt [1,1,1,0] KO) (y := cAt [1,1,1,1] KO) (by kernel_rfl) (o4 w I0 S0 xa n c _ hf h0 h1 h2) ?_
  rintro a3 _ ⟨hf, h0, h1, h2, rfl⟩
  obtain ⟨I, hI⟩ : ∃ z, I0 % 41 = z := ⟨_, rfl⟩
  obtain ⟨S, hS⟩ : ∃ z, S0 % 401 = z := ⟨_, rfl⟩
  rw [hI] at h0 I1 I2
  rw [hS] at h1 S1 S2
  refine wp_sqR (x := cAt [1,1,1,1,0] KO) (y := cAt [1,1,1,1,1] KO) (by kernel_rfl) (o5 w I S xa n c I1 (by omega) S1 (by omega) _ hf h0 h1 h2) ?_
  rintro a4 w4 ⟨g, hf, h0, h1, h2, h7, h8, hw4⟩
  refine wp_sqR (x := cAt [1,1,1,1,1,0] KO) (y := cAt [1,1,1,1,1,1] KO) (by kernel_rfl) (o6 w4 I S xa n c g _ hf h0 h1 h2 h7 h8) ?_
  rintro a5 _ ⟨hf, h0, h1, h2, h7, rfl⟩
  refine wp_sqR (x := cAt [1,1,1,1,1,1,0] KO) (y := cAt [1,1,1,1,1,1,1] KO) (by kernel_rfl) (o8 w4 I S xa n c g _ hf h0 h1 h2 h7) ?_
  rintro a6 _ ⟨hf, h0, h1, h2, h7, h9, rfl⟩
  refine wp_sqR (x := cAt [1,1,1,1,1,1,1,0] KO) (y := cAt [1,1,1,1,1,1,1,1] KO) (by kernel_rfl) (o9 w4 I S xa n c g _ hf h0 h1 h2 h7 h9) ?_
  rintro a7 _ ⟨hf, h0, h1, h2, h7, h9, h10, rfl⟩
  refine wp_sqR (R := fun a' w' => ∃ (q' : Qs) (D' : Int) (ia' : Option Addr) (m' ic' : Nat), Fr 177 a' ∧ sl a' 0 = .int .i64 I ∧ sl a' 1 = .int .i64 S ∧ sl a' 2 = .slice xa n c ∧ sl a' 7 = .pointer (some ⟨g, 0, none⟩) ∧ sl a' 9 = .slice ia' m' ic' ∧ sl a' 10 = .int .u64 D' ∧ Ow w w' g q' I S D' ia' m' ic') (x := cAt [1,1,1,1,1,1,1,1,0] KO) (y := cAt [1,1,1,1,1,1,1,1,1] KO) (by kernel_rfl) ?_ ?_
  · refine wp_sqR (x := cAt [1,1,1,1,1,1,1,1,0,0] KO) (y := cAt [1,1,1,1,1,1,1,1,0,1] KO) (by kernel_rfl) (o10 w4 I S 0 xa n c g none 0 0 a7 hf h0 h1 h2 h7 h9 h10) ?_
    rintro a8 _ ⟨hf, h0, h1, h2, h7, h9, h10, h11, rfl⟩
    refine wp_blockR (x := cAt [1,1,1,1,1,1,1,1,0,1,2] KO) (id := 0) (by kernel_rfl) ?_
    refine wp_loopR (x := cAt [1,1,1,1,1,1,1,1,0,1,2,2] KO) (by kernel_rfl) (fun a' w' => ∃ (k : Nat) (q' : Qs) (D' : Int) (ia' : Option Addr) (m' ic' : Nat), k ≤ n ∧ Fr 177 a' ∧ sl a' 0 = .int .i64 I ∧ sl a' 1 = .int .i64 S ∧ sl a' 2 = .slice xa n c ∧ sl a' 7 = .pointer (some ⟨g, 0, none⟩) ∧ sl a' 9 = .slice ia' m' ic' ∧ sl a' 10 = .int .u64 D' ∧ sl a' 11 = .int .i64 (k : Int) ∧ Ow w w' g q' I S D' ia' m' ic' ∧ 0 ≤ D' ∧ D' ≤ k) (fun a' _ => n - (intOf (sl a' 11)).toNat) ⟨0, _, 0, none, 0, 0, Nat.zero_le _, hf, h0, h1, h2, h7, h9, h10, h11, hw4, Int.le_refl _, by simp⟩ ?_
    rintro a' w' ⟨k, q', D', ia', m', ic', hk, hf, h0, h1, h2, h7, h9, h10, h11, hw, d0, d1⟩
    by_cases hlt : k < n
    · refine wp_endR (ord_round w w' I S D' xa n c g q' ia' m' ic' k l hl HF hw (by omega) d0 d1 hlt a' hf h0 h1 h2 h7 h9 h10 h11) ?_
      rintro b2 w2 ⟨q2, D2, ia2, m2, ic2, hf', h0', h1', h2', h7', h9', h10', h11', hw', e0, e1⟩
      refine ⟨⟨k + 1, q2, D2, ia2, m2, ic2, by omega, hf', h0', h1', h2', h7', h9', h10', by rw [h11']; rfl, hw', e0, by omega⟩, ?_⟩
      rw [h11, h11']
      simp only [intOf]
      omega
    · refine wp_endX (o11x w' I S D' xa n c g ia' m' ic' k hlt a' hf h0 h1 h2 h7 h9 h10 h11) ?_
      rintro b2 w2 ⟨hf', h0', h1', h2', h7', h9', h10', rfl⟩
      refine thru ?_
      exact ⟨q', D', ia', m', ic', hf', h0', h1', h2', h7', h9', h10', hw⟩
  rintro a8 w8 ⟨q8, D8, ia, m, ic, hf, h0, h1, h2, h7, h9, h10, hw8⟩
  have hm : m ≤ 40 := by
    have h1 := hw8.qu.ok.le
    have h2 := hw8.qu.ok.mI
    have h3 := hw8.qI
    have h4 := hw8.len
    omega
  refine wp_sqR (R := fun a' w' => ∃ (q' : Qs), Fr 177 a' ∧ sl a' 7 = .pointer (some ⟨g, 0, none⟩) ∧ sl a' 9 = .slice ia m ic ∧ Oz w w' g q' ia m ic (q8.L.map Pi.no) m) (x := cAt [1,1,1,1,1,1,1,1,1,0] KO) (y := cAt [1,1,1,1,1,1,1,1,1,1] KO) (by kernel_rfl) ?_ ?_
  · refine wp_sqR (x := cAt [1,1,1,1,1,1,1,1,1,0,0] KO) (y := cAt [1,1,1,1,1,1,1,1,1,0,1] KO) (by kernel_rfl) (o36 w8 g ia m ic a8 hf h7 h9) ?_
    rintro a9 _ ⟨hf, h7, h9, h17, rfl⟩
    refine wp_blockR (x := cAt [1,1,1,1,1,1,1,1,1,0,1,2] KO) (id := 3) (by kernel_rfl) ?_
    refine wp_loopR (x := cAt [1,1,1,1,1,1,1,1,1,0,1,2,2] KO) (by kernel_rfl) (fun a' w' => ∃ (j : Nat) (q' : Qs), j ≤ m ∧ Fr 177 a' ∧ sl a' 7 = .pointer (some ⟨g, 0, none⟩) ∧ sl a' 9 = .slice ia m ic ∧ sl a' 17 = .int .i64 (j : Int) ∧ Oz w w' g q' ia m ic (q8.L.map Pi.no) j) (fun a' _ => m - (intOf (sl a' 17)).toNat) ⟨0, q8, Nat.zero_le _, hf, h7, h9, h17, ⟨hw8.qu, hw8.row, hw8.below, by simp⟩⟩ ?_
    rintro a' w' ⟨j, q', hj, hf, h7, h9, h17, hz⟩
    by_cases hlt : j < m
    · refine wp_sqR (x := cAt [1,1,1,1,1,1,1,1,1,0,1,2,2,0] KO) (y := cAt [1,1,1,1,1,1,1,1,1,0,1,2,2,1] KO) (by kernel_rfl) (o37 w' g ia m ic j hlt a' hf h7 h9 h17) ?_
      rintro b1 _ ⟨hf', h7', h9', h17', rfl⟩
      refine wp_sqR (x := cAt [1,1,1,1,1,1,1,1,1,0,1,2,2,1,0] KO) (y := cAt [1,1,1,1,1,1,1,1,1,0,1,2,2,1,1] KO) (R := fun a' w' => ∃ q2 : Qs, Fr 177 a' ∧ sl a' 7 = .pointer (some ⟨g, 0, none⟩) ∧ sl a' 9 = .slice ia m ic ∧ sl a' 17 = .int .i64 (j : Int) ∧ Oz w w' g q2 ia m ic (q8.L.map Pi.no) (j + 1)) (by kernel_rfl) ?_ ?_
      · refine wp_blockR (x := cAt [1,1,1,1,1,1,1,1,1,0,1,2,2,1,0,2] KO) (id := 4) (by kernel_rfl) ?_
        refine wp_endR (o39 w w' g ia m ic j q' _ hz hlt b1 hf' h7' h9' h17') ?_
        rintro b2 w2 ⟨q2, hf2, k7, k9, k17, hz2⟩
        exact ⟨q2, hf2, k7, k9, k17, hz2⟩
      · rintro b2 w2 ⟨q2, hf2, k7, k9, k17, hz2⟩
        refine wp_endR (o38 w2 g ia m ic j (by omega) b2 hf2 k7 k9 k17) ?_
        rintro b3 _ ⟨hf3, l7, l9, l17, rfl⟩
        refine ⟨⟨j + 1, q2, by omega, hf3, l7, l9, by rw [l17]; rfl, hz2⟩, ?_⟩
        rw [h17, l17]
        simp only [intOf]
        omega
    · obtain rfl : j = m := by omega
      refine wp_endX (o37x w' g ia j ic j hlt a' hf h7 h9 h17) ?_
      rintro b2 w2 ⟨hf', h7', h9', rfl⟩
      refine thru ?_
      exact ⟨q', hf', h7', h9', hz⟩
  rintro a9 w9 ⟨q9, hf, h7, h9, hz9⟩
  exact o42 w w9 g ia m ic q9 _ hz9 a9 hf h7 h9
end Go.Proofs.Ytjjidjemkddebaa

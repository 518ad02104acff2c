/-
  ShaperBounds in pieces: an act. Conditions: those that the theorems name. (Made by gen_spbl.py.)
-/
import Derived.Test.YticjfhmkpciihaaSpBlA
namespace Go.Proofs.Yticjfhmkpciihaa
open Go.RowKit Bkt

theorem relFB_len (tick : Int) : ∀ (n : Nat) (T : Int) (ls : List Ab), (relF tick n T ls).2.length ≤ n
  | 0, _, _ => Nat.le_refl _
  | n + 1, T, ls => by
    rw [relF]
    split
    · have := relFB_len tick n (nx T ls).t (ls.set (nx T ls).c ((ls.getD (nx T ls).c az).send (nx T ls).t))
      simp only [List.length_cons]
      omega
    · simp
theorem relB_len (tick T : Int) (ls : List Ab) : (rel tick T ls).2.length ≤ tot ls := relFB_len tick _ T ls

set_option maxRecDepth 100000 in
set_option maxHeartbeats 4000000 in
theorem b20 (w wr : World) (xa : Option Addr) (n c0 : Nat) (ya : Option Addr) (m c2 g ro : Nat) (vo : Option Addr) (no co i bx : Nat) (s : Sh) (N : Int) (offs : List Of) (ys : List Po) (cc : Nat) (sz : Int) (ll : La) (HM : Hid (Bm w wr g s N ro offs vo no co ys)) (HL : Hid (s.ls[cc]? = some ll)) (a : Act) (hf : Fr 196 a) (h0 : sl a 0 = .slice xa n c0) (h1 : sl a 1 = .slice ya m c2) (h6 : sl a 6 = .pointer (some ⟨g, 0, none⟩)) (h8 : sl a 8 = .slice (some ⟨ro, 0, none⟩) n n) (h9 : sl a 9 = .slice vo no co) (h10 : sl a 10 = .int .i64 (i : Int)) (h11 : sl a 11 = .pointer (some ⟨bx, 0, none⟩)) (h12 : sl a 12 = .int .i64 (cc : Int)) (h13 : sl a 13 = .int .i64 sz) :
    Code.wp Try.prog (cAt [1,1,1,1,1,1,1,0,1,2,2,1,0,2,1,0,1,3,1,1,0] KB) (Exit.then (fun a' w' => ∃ vq nq cq qs, Fr 196 a' ∧ sl a' 0 = .slice xa n c0 ∧ sl a' 1 = .slice ya m c2 ∧ sl a' 6 = .pointer (some ⟨g, 0, none⟩) ∧ sl a' 8 = .slice (some ⟨ro, 0, none⟩) n n ∧ sl a' 9 = .slice vo no co ∧ sl a' 10 = .int .i64 (i : Int) ∧ sl a' 11 = .pointer (some ⟨bx, 0, none⟩) ∧ sl a' 12 = .int .i64 (cc : Int) ∧ sl a' 13 = .int .i64 sz ∧ sl a' 14 = .slice vq nq cq ∧ Below wr.heap.size wr w' ∧ Cps w' wr.heap.size vq nq cq qs ∧ qs.map Pi.it = ll.q.L.map Pi.it) Nope) a wr := by
  obtain ⟨f, ha, hs⟩ := frKB hf
  have e0 := (hs 0).trans h0
  have e1 := (hs 1).trans h1
  have e6 := (hs 6).trans h6
  have e8 := (hs 8).trans h8
  have e9 := (hs 9).trans h9
  have e10 := (hs 10).trans h10
  have e11 := (hs 11).trans h11
  have e12 := (hs 12).trans h12
  have e13 := (hs 13).trans h13
  rw [e0, e1, e6, e8, e9, e10, e11, e12, e13] at ha
  clear hs hf e0 h0 e1 h1 e6 h6 e8 h8 e9 h9 e10 h10 e11 h11 e12 h12 e13 h13
  subst ha
  refine piece2 fun J0 K0 hJ0 hK0 => ?_
  conv => arg 2; whnf
  go_wp2_with fail
  refine (sQueued_yes w.heap.size g s cc ll wr HM.out.lv.sw HL.out).mono ?_
  rintro e w1 ⟨hb, vq, nq, cq, qs, rfl, hc, hm⟩
  have H1 : Hid (Below wr.heap.size wr w1 ∧ Cps w1 wr.heap.size vq nq cq qs ∧ qs.map Pi.it = ll.q.L.map Pi.it) := ⟨hb, hc, hm⟩
  clear hb hc hm
  go_wp2_with fail
  refine Met.intro (hJ0 _ _ ?_)
  exact ⟨vq, nq, cq, qs, ⟨rfl, rfl⟩, rfl, rfl, rfl, rfl, rfl, rfl, rfl, rfl, rfl, rfl, H1.out⟩

set_option maxRecDepth 100000 in
set_option maxHeartbeats 4000000 in
theorem b21 (wr : World) (xa : Option Addr) (n c0 : Nat) (ya : Option Addr) (m c2 g ro : Nat) (vo : Option Addr) (no co i : Nat) (bx cc : Nat) (sz : Int) (vq : Option Addr) (nq cq : Nat) (a : Act) (hf : Fr 196 a) (h0 : sl a 0 = .slice xa n c0) (h1 : sl a 1 = .slice ya m c2) (h6 : sl a 6 = .pointer (some ⟨g, 0, none⟩)) (h8 : sl a 8 = .slice (some ⟨ro, 0, none⟩) n n) (h9 : sl a 9 = .slice vo no co) (h10 : sl a 10 = .int .i64 (i : Int)) (h11 : sl a 11 = .pointer (some ⟨bx, 0, none⟩)) (h12 : sl a 12 = .int .i64 (cc : Int)) (h13 : sl a 13 = .int .i64 sz) (h14 : sl a 14 = .slice vq nq cq) :
    Code.wp Try.prog (cAt [1,1,1,1,1,1,1,0,1,2,2,1,0,2,1,0,1,3,1,1,1,0] KB) (Exit.then (fun a' w' => Fr 196 a' ∧ sl a' 0 = .slice xa n c0 ∧ sl a' 1 = .slice ya m c2 ∧ sl a' 6 = .pointer (some ⟨g, 0, none⟩) ∧ sl a' 8 = .slice (some ⟨ro, 0, none⟩) n n ∧ sl a' 9 = .slice vo no co ∧ sl a' 10 = .int .i64 (i : Int) ∧ sl a' 11 = .pointer (some ⟨bx, 0, none⟩) ∧ sl a' 12 = .int .i64 (cc : Int) ∧ sl a' 13 = .int .i64 sz ∧ sl a' 14 = .slice vq nq cq ∧ sl a' 15 = .int .i64 0 ∧ wr = w') Nope) a wr := by
  obtain ⟨f, ha, hs⟩ := frKB hf
  have e0 := (hs 0).trans h0
  have e1 := (hs 1).trans h1
  have e6 := (hs 6).trans h6
  have e8 := (hs 8).trans h8
  have e9 := (hs 9).trans h9
  have e10 := (hs 10).trans h10
  have e11 := (hs 11).trans h11
  have e12 := (hs 12).trans h12
  have e13 := (hs 13).trans h13
  have e14 := (hs 14).trans h14
  rw [e0, e1, e6, e8, e9, e10, e11, e12, e13, e14] at ha
  clear hs hf e0 h0 e1 h1 e6 h6 e8 h8 e9 h9 e10 h10 e11 h11 e12 h12 e13 h13 e14 h14
  subst ha
  refine piece2 fun J0 K0 hJ0 hK0 => ?_
  conv => arg 2; whnf
  go_wp2_with fail
  refine Met.intro (hJ0 _ _ ?_)
  exact ⟨⟨rfl, rfl⟩, rfl, rfl, rfl, rfl, rfl, rfl, rfl, rfl, rfl, rfl, rfl, rfl⟩

set_option maxRecDepth 100000 in
set_option maxHeartbeats 4000000 in
theorem b22 (wr : World) (xa : Option Addr) (n c0 : Nat) (ya : Option Addr) (m c2 g ro : Nat) (vo : Option Addr) (no co i : Nat) (bx cc : Nat) (sz : Int) (vq : Option Addr) (nq cq : Nat) (a : Act) (hf : Fr 196 a) (h0 : sl a 0 = .slice xa n c0) (h1 : sl a 1 = .slice ya m c2) (h6 : sl a 6 = .pointer (some ⟨g, 0, none⟩)) (h8 : sl a 8 = .slice (some ⟨ro, 0, none⟩) n n) (h9 : sl a 9 = .slice vo no co) (h10 : sl a 10 = .int .i64 (i : Int)) (h11 : sl a 11 = .pointer (some ⟨bx, 0, none⟩)) (h12 : sl a 12 = .int .i64 (cc : Int)) (h13 : sl a 13 = .int .i64 sz) (h14 : sl a 14 = .slice vq nq cq) (h15 : sl a 15 = .int .i64 0) :
    Code.wp Try.prog (cAt [1,1,1,1,1,1,1,0,1,2,2,1,0,2,1,0,1,3,1,1,1,1,0,0] KB) (Exit.then (fun a' w' => Fr 196 a' ∧ sl a' 0 = .slice xa n c0 ∧ sl a' 1 = .slice ya m c2 ∧ sl a' 6 = .pointer (some ⟨g, 0, none⟩) ∧ sl a' 8 = .slice (some ⟨ro, 0, none⟩) n n ∧ sl a' 9 = .slice vo no co ∧ sl a' 10 = .int .i64 (i : Int) ∧ sl a' 11 = .pointer (some ⟨bx, 0, none⟩) ∧ sl a' 12 = .int .i64 (cc : Int) ∧ sl a' 13 = .int .i64 sz ∧ sl a' 14 = .slice vq nq cq ∧ sl a' 15 = .int .i64 0 ∧ sl a' 16 = .int .i64 0 ∧ wr = w') Nope) a wr := by
  obtain ⟨f, ha, hs⟩ := frKB hf
  have e0 := (hs 0).trans h0
  have e1 := (hs 1).trans h1
  have e6 := (hs 6).trans h6
  have e8 := (hs 8).trans h8
  have e9 := (hs 9).trans h9
  have e10 := (hs 10).trans h10
  have e11 := (hs 11).trans h11
  have e12 := (hs 12).trans h12
  have e13 := (hs 13).trans h13
  have e14 := (hs 14).trans h14
  have e15 := (hs 15).trans h15
  rw [e0, e1, e6, e8, e9, e10, e11, e12, e13, e14, e15] at ha
  clear hs hf e0 h0 e1 h1 e6 h6 e8 h8 e9 h9 e10 h10 e11 h11 e12 h12 e13 h13 e14 h14 e15 h15
  subst ha
  refine piece2 fun J0 K0 hJ0 hK0 => ?_
  conv => arg 2; whnf
  go_wp2_with fail
  refine Met.intro (hJ0 _ _ ?_)
  exact ⟨⟨rfl, rfl⟩, rfl, rfl, rfl, rfl, rfl, rfl, rfl, rfl, rfl, rfl, rfl, rfl, rfl⟩

set_option maxRecDepth 100000 in
set_option maxHeartbeats 4000000 in
theorem b23 (wr : World) (xa : Option Addr) (n c0 : Nat) (ya : Option Addr) (m c2 g ro : Nat) (vo : Option Addr) (no co i : Nat) (bx cc : Nat) (sz : Int) (vq : Option Addr) (nq cq : Nat) (sm : Int) (j : Nat) (hj : j < nq) (a : Act) (hf : Fr 196 a) (h0 : sl a 0 = .slice xa n c0) (h1 : sl a 1 = .slice ya m c2) (h6 : sl a 6 = .pointer (some ⟨g, 0, none⟩)) (h8 : sl a 8 = .slice (some ⟨ro, 0, none⟩) n n) (h9 : sl a 9 = .slice vo no co) (h10 : sl a 10 = .int .i64 (i : Int)) (h11 : sl a 11 = .pointer (some ⟨bx, 0, none⟩)) (h12 : sl a 12 = .int .i64 (cc : Int)) (h13 : sl a 13 = .int .i64 sz) (h14 : sl a 14 = .slice vq nq cq) (h15 : sl a 15 = .int .i64 sm) (h16 : sl a 16 = .int .i64 (j : Int)) :
    Code.wp Try.prog (cAt [1,1,1,1,1,1,1,0,1,2,2,1,0,2,1,0,1,3,1,1,1,1,0,1,2,2,0] KB) (Exit.then (fun a' w' => Fr 196 a' ∧ sl a' 0 = .slice xa n c0 ∧ sl a' 1 = .slice ya m c2 ∧ sl a' 6 = .pointer (some ⟨g, 0, none⟩) ∧ sl a' 8 = .slice (some ⟨ro, 0, none⟩) n n ∧ sl a' 9 = .slice vo no co ∧ sl a' 10 = .int .i64 (i : Int) ∧ sl a' 11 = .pointer (some ⟨bx, 0, none⟩) ∧ sl a' 12 = .int .i64 (cc : Int) ∧ sl a' 13 = .int .i64 sz ∧ sl a' 14 = .slice vq nq cq ∧ sl a' 15 = .int .i64 sm ∧ sl a' 16 = .int .i64 (j : Int) ∧ wr = w') Nope) a wr := by
  obtain ⟨f, ha, hs⟩ := frKB hf
  have e0 := (hs 0).trans h0
  have e1 := (hs 1).trans h1
  have e6 := (hs 6).trans h6
  have e8 := (hs 8).trans h8
  have e9 := (hs 9).trans h9
  have e10 := (hs 10).trans h10
  have e11 := (hs 11).trans h11
  have e12 := (hs 12).trans h12
  have e13 := (hs 13).trans h13
  have e14 := (hs 14).trans h14
  have e15 := (hs 15).trans h15
  have e16 := (hs 16).trans h16
  rw [e0, e1, e6, e8, e9, e10, e11, e12, e13, e14, e15, e16] at ha
  clear hs hf e0 h0 e1 h1 e6 h6 e8 h8 e9 h9 e10 h10 e11 h11 e12 h12 e13 h13 e14 h14 e15 h15 e16 h16
  subst ha
  refine piece2 fun J0 K0 hJ0 hK0 => ?_
  conv => arg 2; whnf
  have hi2 : (j : Int) < (nq : Int) := by omega
  go_wp2_with fail
  refine Met.intro (hJ0 _ _ ?_)
  exact ⟨⟨rfl, rfl⟩, rfl, rfl, rfl, rfl, rfl, rfl, rfl, rfl, rfl, rfl, rfl, rfl, rfl⟩

set_option maxRecDepth 100000 in
set_option maxHeartbeats 4000000 in
theorem b23x (wr : World) (xa : Option Addr) (n c0 : Nat) (ya : Option Addr) (m c2 g ro : Nat) (vo : Option Addr) (no co i : Nat) (bx cc : Nat) (sz : Int) (vq : Option Addr) (nq cq : Nat) (sm : Int) (j : Nat) (hj : ¬ j < nq) (a : Act) (hf : Fr 196 a) (h0 : sl a 0 = .slice xa n c0) (h1 : sl a 1 = .slice ya m c2) (h6 : sl a 6 = .pointer (some ⟨g, 0, none⟩)) (h8 : sl a 8 = .slice (some ⟨ro, 0, none⟩) n n) (h9 : sl a 9 = .slice vo no co) (h10 : sl a 10 = .int .i64 (i : Int)) (h11 : sl a 11 = .pointer (some ⟨bx, 0, none⟩)) (h12 : sl a 12 = .int .i64 (cc : Int)) (h13 : sl a 13 = .int .i64 sz) (h14 : sl a 14 = .slice vq nq cq) (h15 : sl a 15 = .int .i64 sm) (h16 : sl a 16 = .int .i64 (j : Int)) :
    Code.wp Try.prog (cAt [1,1,1,1,1,1,1,0,1,2,2,1,0,2,1,0,1,3,1,1,1,1,0,1,2,2] KB) (Outs 4 (fun a' w' => Fr 196 a' ∧ sl a' 0 = .slice xa n c0 ∧ sl a' 1 = .slice ya m c2 ∧ sl a' 6 = .pointer (some ⟨g, 0, none⟩) ∧ sl a' 8 = .slice (some ⟨ro, 0, none⟩) n n ∧ sl a' 9 = .slice vo no co ∧ sl a' 10 = .int .i64 (i : Int) ∧ sl a' 11 = .pointer (some ⟨bx, 0, none⟩) ∧ sl a' 12 = .int .i64 (cc : Int) ∧ sl a' 13 = .int .i64 sz ∧ sl a' 14 = .slice vq nq cq ∧ sl a' 15 = .int .i64 sm ∧ wr = w')) a wr := by
  obtain ⟨f, ha, hs⟩ := frKB hf
  have e0 := (hs 0).trans h0
  have e1 := (hs 1).trans h1
  have e6 := (hs 6).trans h6
  have e8 := (hs 8).trans h8
  have e9 := (hs 9).trans h9
  have e10 := (hs 10).trans h10
  have e11 := (hs 11).trans h11
  have e12 := (hs 12).trans h12
  have e13 := (hs 13).trans h13
  have e14 := (hs 14).trans h14
  have e15 := (hs 15).trans h15
  have e16 := (hs 16).trans h16
  rw [e0, e1, e6, e8, e9, e10, e11, e12, e13, e14, e15, e16] at ha
  clear hs hf e0 h0 e1 h1 e6 h6 e8 h8 e9 h9 e10 h10 e11 h11 e12 h12 e13 h13 e14 h14 e15 h15 e16 h16
  subst ha
  conv => arg 2; whnf
  go_wp2_with fail
  exact ⟨rfl, ⟨rfl, rfl⟩, rfl, rfl, rfl, rfl, rfl, rfl, rfl, rfl, rfl, rfl, rfl, rfl⟩

set_option maxRecDepth 100000 in
set_option maxHeartbeats 4000000 in
theorem b24 (wr : World) (xa : Option Addr) (n c0 : Nat) (ya : Option Addr) (m c2 g ro : Nat) (vo : Option Addr) (no co i : Nat) (bx cc : Nat) (sz : Int) (vq : Option Addr) (nq cq : Nat) (sm : Int) (j : Nat) (hj : j < 1000000) (a : Act) (hf : Fr 196 a) (h0 : sl a 0 = .slice xa n c0) (h1 : sl a 1 = .slice ya m c2) (h6 : sl a 6 = .pointer (some ⟨g, 0, none⟩)) (h8 : sl a 8 = .slice (some ⟨ro, 0, none⟩) n n) (h9 : sl a 9 = .slice vo no co) (h10 : sl a 10 = .int .i64 (i : Int)) (h11 : sl a 11 = .pointer (some ⟨bx, 0, none⟩)) (h12 : sl a 12 = .int .i64 (cc : Int)) (h13 : sl a 13 = .int .i64 sz) (h14 : sl a 14 = .slice vq nq cq) (h15 : sl a 15 = .int .i64 sm) (h16 : sl a 16 = .int .i64 (j : Int)) :
    Code.wp Try.prog (cAt [1,1,1,1,1,1,1,0,1,2,2,1,0,2,1,0,1,3,1,1,1,1,0,1,2,2,1,1] KB) (Exit.then (fun a' w' => Fr 196 a' ∧ sl a' 0 = .slice xa n c0 ∧ sl a' 1 = .slice ya m c2 ∧ sl a' 6 = .pointer (some ⟨g, 0, none⟩) ∧ sl a' 8 = .slice (some ⟨ro, 0, none⟩) n n ∧ sl a' 9 = .slice vo no co ∧ sl a' 10 = .int .i64 (i : Int) ∧ sl a' 11 = .pointer (some ⟨bx, 0, none⟩) ∧ sl a' 12 = .int .i64 (cc : Int) ∧ sl a' 13 = .int .i64 sz ∧ sl a' 14 = .slice vq nq cq ∧ sl a' 15 = .int .i64 sm ∧ sl a' 16 = .int .i64 ((j : Int) + 1) ∧ wr = w') Nope) a wr := by
  obtain ⟨f, ha, hs⟩ := frKB hf
  have e0 := (hs 0).trans h0
  have e1 := (hs 1).trans h1
  have e6 := (hs 6).trans h6
  have e8 := (hs 8).trans h8
  have e9 := (hs 9).trans h9
  have e10 := (hs 10).trans h10
  have e11 := (hs 11).trans h11
  have e12 := (hs 12).trans h12
  have e13 := (hs 13).trans h13
  have e14 := (hs 14).trans h14
  have e15 := (hs 15).trans h15
  have e16 := (hs 16).trans h16
  rw [e0, e1, e6, e8, e9, e10, e11, e12, e13, e14, e15, e16] at ha
  clear hs hf e0 h0 e1 h1 e6 h6 e8 h8 e9 h9 e10 h10 e11 h11 e12 h12 e13 h13 e14 h14 e15 h15 e16 h16
  subst ha
  refine piece2 fun J0 K0 hJ0 hK0 => ?_
  conv => arg 2; whnf
  have hw : IntKind.i64.wrap ((j : Int) + 1) = (j : Int) + 1 := by rw [IntKind.wrap_i64]; omega
  go_wp2_with fail
  refine Met.intro (hJ0 _ _ ?_)
  exact ⟨⟨rfl, rfl⟩, rfl, rfl, rfl, rfl, rfl, rfl, rfl, rfl, rfl, rfl, rfl, rfl, rfl⟩

set_option maxRecDepth 100000 in
set_option maxHeartbeats 4000000 in
theorem b25 (wr : World) (xa : Option Addr) (n c0 : Nat) (ya : Option Addr) (m c2 g ro : Nat) (vo : Option Addr) (no co i : Nat) (bx cc : Nat) (sz : Int) (rq : Nat) (nq cq : Nat) (sm : Int) (j : Nat) (zs : Int) (HC : Hid (wr.cell? ⟨rq, j * 3 + 1, none⟩ = some (.int .i64 zs))) (hj : j < nq) (h0 : 0 ≤ sm + zs) (h1 : sm + zs ≤ 9223372036854775807) (a : Act) (hf : Fr 196 a) (h0 : sl a 0 = .slice xa n c0) (h1 : sl a 1 = .slice ya m c2) (h6 : sl a 6 = .pointer (some ⟨g, 0, none⟩)) (h8 : sl a 8 = .slice (some ⟨ro, 0, none⟩) n n) (h9 : sl a 9 = .slice vo no co) (h10 : sl a 10 = .int .i64 (i : Int)) (h11 : sl a 11 = .pointer (some ⟨bx, 0, none⟩)) (h12 : sl a 12 = .int .i64 (cc : Int)) (h13 : sl a 13 = .int .i64 sz) (h14 : sl a 14 = .slice (some ⟨rq, 0, none⟩) nq cq) (h15 : sl a 15 = .int .i64 sm) (h16 : sl a 16 = .int .i64 (j : Int)) :
    Code.wp Try.prog (cAt [1,1,1,1,1,1,1,0,1,2,2,1,0,2,1,0,1,3,1,1,1,1,0,1,2,2,1,0,2] KB) (Exit.then (fun a' w' => Fr 196 a' ∧ sl a' 0 = .slice xa n c0 ∧ sl a' 1 = .slice ya m c2 ∧ sl a' 6 = .pointer (some ⟨g, 0, none⟩) ∧ sl a' 8 = .slice (some ⟨ro, 0, none⟩) n n ∧ sl a' 9 = .slice vo no co ∧ sl a' 10 = .int .i64 (i : Int) ∧ sl a' 11 = .pointer (some ⟨bx, 0, none⟩) ∧ sl a' 12 = .int .i64 (cc : Int) ∧ sl a' 13 = .int .i64 sz ∧ sl a' 14 = .slice (some ⟨rq, 0, none⟩) nq cq ∧ sl a' 15 = .int .i64 (sm + zs) ∧ sl a' 16 = .int .i64 (j : Int) ∧ wr = w') Nope) a wr := by
  obtain ⟨f, ha, hs⟩ := frKB hf
  have e0 := (hs 0).trans h0
  have e1 := (hs 1).trans h1
  have e6 := (hs 6).trans h6
  have e8 := (hs 8).trans h8
  have e9 := (hs 9).trans h9
  have e10 := (hs 10).trans h10
  have e11 := (hs 11).trans h11
  have e12 := (hs 12).trans h12
  have e13 := (hs 13).trans h13
  have e14 := (hs 14).trans h14
  have e15 := (hs 15).trans h15
  have e16 := (hs 16).trans h16
  rw [e0, e1, e6, e8, e9, e10, e11, e12, e13, e14, e15, e16] at ha
  clear hs hf e0 h0 e1 h1 e6 h6 e8 h8 e9 h9 e10 h10 e11 h11 e12 h12 e13 h13 e14 h14 e15 h15 e16 h16
  subst ha
  refine piece2 fun J0 K0 hJ0 hK0 => ?_
  conv => arg 2; whnf
  have c1 := HC.out
  have hi2 : (j : Int) < (nq : Int) := by omega
  have hi0 : (0 : Int) ≤ (j : Int) := by omega
  have ew : IntKind.i64.wrap (sm + zs) = sm + zs := by rw [IntKind.wrap_i64]; omega
  go_wp2_with fail
  refine Met.intro (hJ0 _ _ ?_)
  exact ⟨⟨rfl, rfl⟩, rfl, rfl, rfl, rfl, rfl, rfl, rfl, rfl, rfl, rfl, rfl, rfl, rfl⟩

set_option maxRecDepth 100000 in
set_option maxHeartbeats 4000000 in
theorem b26 (wr : World) (xb xo n c0 : Nat) (ya : Option Addr) (m c2 g ro : Nat) (vo : Option Addr) (no co i bx cc : Nat) (sz : Int) (vq : Option Addr) (nq cq : Nat) (sm : Int) (x : Cs) (HX : Hid (wr.rangeAt xb (xo + cc * 4) x.cs)) (hcn : cc < n) (rm : Bool) (hrm : rm = (decide (0 ≤ sz) && (decide ((nq : Int) < x.I) && decide (sz ≤ x.S - sm)))) (m0 : 0 ≤ sm) (m1 : sm ≤ x.S) (m2 : x.S ≤ 9223372036854775807) (a : Act) (hf : Fr 196 a) (h0 : sl a 0 = .slice (some ⟨xb, xo, none⟩) n c0) (h1 : sl a 1 = .slice ya m c2) (h6 : sl a 6 = .pointer (some ⟨g, 0, none⟩)) (h8 : sl a 8 = .slice (some ⟨ro, 0, none⟩) n n) (h9 : sl a 9 = .slice vo no co) (h10 : sl a 10 = .int .i64 (i : Int)) (h11 : sl a 11 = .pointer (some ⟨bx, 0, none⟩)) (h12 : sl a 12 = .int .i64 (cc : Int)) (h13 : sl a 13 = .int .i64 sz) (h14 : sl a 14 = .slice vq nq cq) (h15 : sl a 15 = .int .i64 sm) :
    Code.wp Try.prog (cAt [1,1,1,1,1,1,1,0,1,2,2,1,0,2,1,0,1,3,1,1,1,1,1,0] KB) (Exit.then (fun a' w' => Fr 196 a' ∧ sl a' 0 = .slice (some ⟨xb, xo, none⟩) n c0 ∧ sl a' 1 = .slice ya m c2 ∧ sl a' 6 = .pointer (some ⟨g, 0, none⟩) ∧ sl a' 8 = .slice (some ⟨ro, 0, none⟩) n n ∧ sl a' 9 = .slice vo no co ∧ sl a' 10 = .int .i64 (i : Int) ∧ sl a' 11 = .pointer (some ⟨bx, 0, none⟩) ∧ sl a' 12 = .int .i64 (cc : Int) ∧ sl a' 13 = .int .i64 sz ∧ sl a' 14 = .slice vq nq cq ∧ sl a' 15 = .int .i64 sm ∧ sl a' 17 = .bool rm ∧ wr = w') Nope) a wr := by
  obtain ⟨f, ha, hs⟩ := frKB hf
  have e0 := (hs 0).trans h0
  have e1 := (hs 1).trans h1
  have e6 := (hs 6).trans h6
  have e8 := (hs 8).trans h8
  have e9 := (hs 9).trans h9
  have e10 := (hs 10).trans h10
  have e11 := (hs 11).trans h11
  have e12 := (hs 12).trans h12
  have e13 := (hs 13).trans h13
  have e14 := (hs 14).trans h14
  have e15 := (hs 15).trans h15
  rw [e0, e1, e6, e8, e9, e10, e11, e12, e13, e14, e15] at ha
  clear hs hf e0 h0 e1 h1 e6 h6 e8 h8 e9 h9 e10 h10 e11 h11 e12 h12 e13 h13 e14 h14 e15 h15
  subst ha
  refine piece2 fun J0 K0 hJ0 hK0 => ?_
  conv => arg 2; whnf
  have x2 : wr.cell? ⟨xb, xo + cc * 4 + 2, none⟩ = some (.int .i64 x.I) := HX.out 2 _ rfl
  have x3 : wr.cell? ⟨xb, xo + cc * 4 + 3, none⟩ = some (.int .i64 x.S) := HX.out 3 _ rfl
  have hi2 : (cc : Int) < (n : Int) := by omega
  have hi0 : (0 : Int) ≤ (cc : Int) := by omega
  have ew : IntKind.i64.wrap (x.S - sm) = x.S - sm := by rw [IntKind.wrap_i64]; omega
  by_cases e0 : 0 ≤ sz
  · by_cases e1 : (nq : Int) < x.I
    · by_cases e2 : sz ≤ x.S - sm
      · rw [decide_eq_true e0, decide_eq_true e1, decide_eq_true e2] at hrm
        replace hrm : rm = true := hrm
        subst hrm
        go_wp2_with fail
        refine Met.intro (hJ0 _ _ ?_)
        exact ⟨⟨rfl, rfl⟩, rfl, rfl, rfl, rfl, rfl, rfl, rfl, rfl, rfl, rfl, rfl, rfl, rfl⟩
      · rw [decide_eq_true e0, decide_eq_true e1, decide_eq_false e2] at hrm
        replace hrm : rm = false := hrm
        subst hrm
        go_wp2_with fail
        refine Met.intro (hJ0 _ _ ?_)
        exact ⟨⟨rfl, rfl⟩, rfl, rfl, rfl, rfl, rfl, rfl, rfl, rfl, rfl, rfl, rfl, rfl, rfl⟩
    · rw [decide_eq_true e0, decide_eq_false e1] at hrm
      replace hrm : rm = false := hrm
      subst hrm
      go_wp2_with fail
      refine Met.intro (hJ0 _ _ ?_)
      exact ⟨⟨rfl, rfl⟩, rfl, rfl, rfl, rfl, rfl, rfl, rfl, rfl, rfl, rfl, rfl, rfl, rfl⟩
  · rw [decide_eq_false e0] at hrm
    replace hrm : rm = false := hrm
    subst hrm
    go_wp2_with fail
    refine Met.intro (hJ0 _ _ ?_)
    exact ⟨⟨rfl, rfl⟩, rfl, rfl, rfl, rfl, rfl, rfl, rfl, rfl, rfl, rfl, rfl, rfl, rfl⟩

set_option maxRecDepth 100000 in
set_option maxHeartbeats 4000000 in
theorem b27 (w wr : World) (xa : Option Addr) (n c0 : Nat) (ya : Option Addr) (m c2 g ro : Nat) (vo : Option Addr) (no co i _bx : Nat) (s : Sh) (N : Int) (offs : List Of) (ys : List Po) (cc : Nat) (sz : Int) (rm : Bool) (HM : Hid (Bm w wr g s N ro offs vo no co ys)) (HN : Hid (N < 1000)) (hi : i < 1000) (a : Act) (hf : Fr 196 a) (h0 : sl a 0 = .slice xa n c0) (h1 : sl a 1 = .slice ya m c2) (h6 : sl a 6 = .pointer (some ⟨g, 0, none⟩)) (h8 : sl a 8 = .slice (some ⟨ro, 0, none⟩) n n) (h9 : sl a 9 = .slice vo no co) (h10 : sl a 10 = .int .i64 (i : Int)) (h12 : sl a 12 = .int .i64 (cc : Int)) (h13 : sl a 13 = .int .i64 sz) (h17 : sl a 17 = .bool rm) :
    Code.wp Try.prog (cAt [1,1,1,1,1,1,1,0,1,2,2,1,0,2,1,0,1,3,1,1,1,1,1,1,0] KB) (Exit.then (fun a' w' => ∃ s' ce, Fr 196 a' ∧ sl a' 0 = .slice xa n c0 ∧ sl a' 1 = .slice ya m c2 ∧ sl a' 6 = .pointer (some ⟨g, 0, none⟩) ∧ sl a' 8 = .slice (some ⟨ro, 0, none⟩) n n ∧ sl a' 9 = .slice vo no co ∧ sl a' 10 = .int .i64 (i : Int) ∧ sl a' 12 = .int .i64 (cc : Int) ∧ sl a' 13 = .int .i64 sz ∧ sl a' 17 = .bool rm ∧ sl a' 18 = .int .i64 ce ∧ Bm w w' g s' (N + 1) ro offs vo no co ys ∧ ce = offC s.abs (cc : Int) ⟨i, sz, []⟩ ∧ s'.T = s.T ∧ s'.n = s.n ∧ s'.abs = offL s.abs (cc : Int) ⟨i, sz, []⟩) Nope) a wr := by
  obtain ⟨f, ha, hs⟩ := frKB hf
  have e0 := (hs 0).trans h0
  have e1 := (hs 1).trans h1
  have e6 := (hs 6).trans h6
  have e8 := (hs 8).trans h8
  have e9 := (hs 9).trans h9
  have e10 := (hs 10).trans h10
  have e12 := (hs 12).trans h12
  have e13 := (hs 13).trans h13
  have e17 := (hs 17).trans h17
  rw [e0, e1, e6, e8, e9, e10, e12, e13, e17] at ha
  clear hs hf e0 h0 e1 h1 e6 h6 e8 h8 e9 h9 e10 h10 e12 h12 e13 h13 e17 h17
  subst ha
  refine piece2 fun J0 K0 hJ0 hK0 => ?_
  conv => arg 2; whnf
  have ew : IntKind.u64.wrap (i : Int) = (i : Int) := by rw [IntKind.wrap_u64]; omega
  go_wp2_with fail
  refine (lvOffer HM.out.lv (by have := HN.out; omega) (cc : Int) ⟨i, sz, none, 0, 0, []⟩ (by exact ⟨rfl, Rd.empty _ _, Byt.nil, (show 0 ≤ 1000000 by decide)⟩) (fun h => absurd rfl h)).mono ?_
  rintro e w1 ⟨rfl, s', hv, hT, hn, hab, hk, hf⟩
  have H1 : Hid (Bm w w1 g s' (N + 1) ro offs vo no co ys ∧ offC s.abs (cc : Int) (Pi.it ⟨i, sz, none, 0, 0, []⟩) = offC s.abs (cc : Int) ⟨i, sz, []⟩ ∧ s'.T = s.T ∧ s'.n = s.n ∧ s'.abs = offL s.abs (cc : Int) ⟨i, sz, []⟩) := ⟨HM.out.sh hv hk hf, rfl, hT, hn, hab⟩
  obtain ⟨ce, hce⟩ : ∃ z, offC s.abs (cc : Int) (Pi.it ⟨i, sz, none, 0, 0, []⟩) = z := ⟨_, rfl⟩
  rw [hce] at H1 ⊢
  clear hv hT hn hab hk hf hce
  go_wp2_with fail
  refine Met.intro (hJ0 _ _ ?_)
  exact ⟨s', ce, ⟨rfl, rfl⟩, rfl, rfl, rfl, rfl, rfl, rfl, rfl, rfl, rfl, rfl, H1.out⟩

set_option maxRecDepth 100000 in
set_option maxHeartbeats 4000000 in
theorem b28 (wr : World) (xa : Option Addr) (n c0 : Nat) (ya : Option Addr) (m c2 g ro : Nat) (vo : Option Addr) (no co i : Nat) (cc : Nat) (sz : Int) (rm : Bool) (ce : Int) (h : (sz < 0 ∧ ce = 2 ∧ rm = false) ∨ (0 ≤ sz ∧ ce = 0 ∧ rm = true) ∨ (0 ≤ sz ∧ ce = 110 ∧ rm = false)) (a : Act) (hf : Fr 196 a) (h0 : sl a 0 = .slice xa n c0) (h1 : sl a 1 = .slice ya m c2) (h6 : sl a 6 = .pointer (some ⟨g, 0, none⟩)) (h8 : sl a 8 = .slice (some ⟨ro, 0, none⟩) n n) (h9 : sl a 9 = .slice vo no co) (h10 : sl a 10 = .int .i64 (i : Int)) (h12 : sl a 12 = .int .i64 (cc : Int)) (h13 : sl a 13 = .int .i64 sz) (h17 : sl a 17 = .bool rm) (h18 : sl a 18 = .int .i64 ce) :
    Code.wp Try.prog (cAt [1,1,1,1,1,1,1,0,1,2,2,1,0,2,1,0,1,3,1,1,1,1,1,1,1,0,0] KB) (Exit.then (fun a' w' => Fr 196 a' ∧ sl a' 0 = .slice xa n c0 ∧ sl a' 1 = .slice ya m c2 ∧ sl a' 6 = .pointer (some ⟨g, 0, none⟩) ∧ sl a' 8 = .slice (some ⟨ro, 0, none⟩) n n ∧ sl a' 9 = .slice vo no co ∧ sl a' 10 = .int .i64 (i : Int) ∧ sl a' 12 = .int .i64 (cc : Int) ∧ sl a' 18 = .int .i64 ce ∧ sl a' 152 = .bool false ∧ wr = w') Nope) a wr := by
  obtain ⟨f, ha, hs⟩ := frKB hf
  have e0 := (hs 0).trans h0
  have e1 := (hs 1).trans h1
  have e6 := (hs 6).trans h6
  have e8 := (hs 8).trans h8
  have e9 := (hs 9).trans h9
  have e10 := (hs 10).trans h10
  have e12 := (hs 12).trans h12
  have e13 := (hs 13).trans h13
  have e17 := (hs 17).trans h17
  have e18 := (hs 18).trans h18
  rw [e0, e1, e6, e8, e9, e10, e12, e13, e17, e18] at ha
  clear hs hf e0 h0 e1 h1 e6 h6 e8 h8 e9 h9 e10 h10 e12 h12 e13 h13 e17 h17 e18 h18
  subst ha
  refine piece2 fun J0 K0 hJ0 hK0 => ?_
  conv => arg 2; whnf
  rcases h with ⟨hs, rfl, rfl⟩ | ⟨hs, rfl, rfl⟩ | ⟨hs, rfl, rfl⟩
  · have hs2 : ¬ (0 : Int) ≤ sz := by omega
    go_wp2_with fail
    refine Met.intro (hJ0 _ _ ?_)
    exact ⟨⟨rfl, rfl⟩, rfl, rfl, rfl, rfl, rfl, rfl, rfl, rfl, rfl, rfl⟩
  · have hs2 : ¬ sz < 0 := by omega
    go_wp2_with fail
    refine Met.intro (hJ0 _ _ ?_)
    exact ⟨⟨rfl, rfl⟩, rfl, rfl, rfl, rfl, rfl, rfl, rfl, rfl, rfl, rfl⟩
  · have hs2 : ¬ sz < 0 := by omega
    go_wp2_with fail
    refine Met.intro (hJ0 _ _ ?_)
    exact ⟨⟨rfl, rfl⟩, rfl, rfl, rfl, rfl, rfl, rfl, rfl, rfl, rfl, rfl⟩

set_option maxRecDepth 100000 in
set_option maxHeartbeats 4000000 in
theorem b30 (wr : World) (xa : Option Addr) (n c0 : Nat) (ya : Option Addr) (m c2 g ro : Nat) (vo : Option Addr) (no co i : Nat) (cc : Nat) (ce : Int) (a : Act) (hf : Fr 196 a) (h0 : sl a 0 = .slice xa n c0) (h1 : sl a 1 = .slice ya m c2) (h6 : sl a 6 = .pointer (some ⟨g, 0, none⟩)) (h8 : sl a 8 = .slice (some ⟨ro, 0, none⟩) n n) (h9 : sl a 9 = .slice vo no co) (h10 : sl a 10 = .int .i64 (i : Int)) (h12 : sl a 12 = .int .i64 (cc : Int)) (h18 : sl a 18 = .int .i64 ce) :
    Code.wp Try.prog (cAt [1,1,1,1,1,1,1,0,1,2,2,1,0,2,1,0,1,3,1,1,1,1,1,1,1,1,0,0] KB) (Exit.then (fun a' w' => Fr 196 a' ∧ sl a' 0 = .slice xa n c0 ∧ sl a' 1 = .slice ya m c2 ∧ sl a' 6 = .pointer (some ⟨g, 0, none⟩) ∧ sl a' 8 = .slice (some ⟨ro, 0, none⟩) n n ∧ sl a' 9 = .slice vo no co ∧ sl a' 10 = .int .i64 (i : Int) ∧ sl a' 12 = .int .i64 (cc : Int) ∧ sl a' 18 = .int .i64 ce ∧ sl a' 154 = .bool (decide (ce = 0)) ∧ wr = w') Nope) a wr := by
  obtain ⟨f, ha, hs⟩ := frKB hf
  have e0 := (hs 0).trans h0
  have e1 := (hs 1).trans h1
  have e6 := (hs 6).trans h6
  have e8 := (hs 8).trans h8
  have e9 := (hs 9).trans h9
  have e10 := (hs 10).trans h10
  have e12 := (hs 12).trans h12
  have e18 := (hs 18).trans h18
  rw [e0, e1, e6, e8, e9, e10, e12, e18] at ha
  clear hs hf e0 h0 e1 h1 e6 h6 e8 h8 e9 h9 e10 h10 e12 h12 e18 h18
  subst ha
  refine piece2 fun J0 K0 hJ0 hK0 => ?_
  conv => arg 2; whnf
  by_cases e : ce = 0
  · subst e
    go_wp2_with fail
    refine Met.intro (hJ0 _ _ ?_)
    exact ⟨⟨rfl, rfl⟩, rfl, rfl, rfl, rfl, rfl, rfl, rfl, rfl, rfl, rfl⟩
  · have e2 : (ce == 0) = false := by simpa using e
    go_wp2_with fail
    refine Met.intro (hJ0 _ _ ?_)
    exact ⟨⟨rfl, rfl⟩, rfl, rfl, rfl, rfl, rfl, rfl, rfl, rfl, by rw [decide_eq_false e]; rfl, rfl⟩

set_option maxRecDepth 100000 in
set_option maxHeartbeats 4000000 in
theorem b31 (w wr : World) (xa : Option Addr) (n c0 : Nat) (ya : Option Addr) (m c2 g ro : Nat) (vo : Option Addr) (no co i _bx : Nat) (s : Sh) (N : Int) (offs : List Of) (ys : List Po) (cc : Nat) (fo : Of) (HM : Hid (Bm w wr g s N ro offs vo no co ys)) (HF : Hid (offs[cc]? = some fo)) (hfn : fo.n ≤ 1000000) (hi : i < 1000) (hcn : cc < n) (a : Act) (hf : Fr 196 a) (h0 : sl a 0 = .slice xa n c0) (h1 : sl a 1 = .slice ya m c2) (h6 : sl a 6 = .pointer (some ⟨g, 0, none⟩)) (h8 : sl a 8 = .slice (some ⟨ro, 0, none⟩) n n) (h9 : sl a 9 = .slice vo no co) (h10 : sl a 10 = .int .i64 (i : Int)) (h12 : sl a 12 = .int .i64 (cc : Int)) :
    Code.wp Try.prog (cAt [1,1,1,1,1,1,1,0,1,2,2,1,0,2,1,0,1,3,1,1,1,1,1,1,1,1,0,1,3] KB) (Exit.then (fun a' w' => ∃ offs', Fr 196 a' ∧ sl a' 0 = .slice xa n c0 ∧ sl a' 1 = .slice ya m c2 ∧ sl a' 6 = .pointer (some ⟨g, 0, none⟩) ∧ sl a' 8 = .slice (some ⟨ro, 0, none⟩) n n ∧ sl a' 9 = .slice vo no co ∧ sl a' 10 = .int .i64 (i : Int) ∧ Bm w w' g s N ro offs' vo no co ys ∧ ∃ f' : Of, offs' = offs.set cc f' ∧ f'.xs = fo.xs ++ [(i : Int)] ∧ f'.n = fo.n + 1) Nope) a wr := by
  obtain ⟨f, ha, hs⟩ := frKB hf
  have e0 := (hs 0).trans h0
  have e1 := (hs 1).trans h1
  have e6 := (hs 6).trans h6
  have e8 := (hs 8).trans h8
  have e9 := (hs 9).trans h9
  have e10 := (hs 10).trans h10
  have e12 := (hs 12).trans h12
  rw [e0, e1, e6, e8, e9, e10, e12] at ha
  clear hs hf e0 h0 e1 h1 e6 h6 e8 h8 e9 h9 e10 h10 e12 h12
  subst ha
  refine piece2 fun J0 K0 hJ0 hK0 => ?_
  conv => arg 2; whnf
  have ew : IntKind.u64.wrap (i : Int) = (i : Int) := by rw [IntKind.wrap_u64]; omega
  obtain ⟨r3, c3, w3, hrun, hc3, hf3, hoff, hkk⟩ := HM.out.offs.push HF.out (i : Int) hfn HM.out.lv.below.size
  have k0 : wr.cell? ⟨ro, cc, none⟩ = some (.slice fo.a fo.n fo.c) := by
    have := frow_at Of.len HM.out.offs.row HF.out 0 _ rfl
    rw [Nat.mul_one, Nat.add_zero] at this
    exact this
  have hi2 : (cc : Int) < (n : Int) := by omega
  have hi0 : (0 : Int) ≤ (cc : Int) := by omega
  obtain ⟨cv, hcv⟩ := Option.isSome_iff_exists.1 hc3
  have H1 : Hid (Bm w (w3.setCell ⟨ro, cc, none⟩ (.slice (some ⟨r3, 0, none⟩) (fo.n + 1) c3)) g s N ro (offs.set cc ⟨some ⟨r3, 0, none⟩, fo.n + 1, c3, fo.xs ++ [(i : Int)]⟩) vo no co ys) := HM.out.push HF.out hoff hkk
  have HRUN := Lib.hid hrun
  clear hrun hc3 hoff hkk
  go_wp2_with (at_builtin; first | (refine Lib.wpList_append_run _ rfl (.tmp 160) (.tmp 163) _ _ rfl _ _ rfl rfl _ _ HRUN.out ?_) | fail)
  refine Met.intro (hJ0 _ _ ?_)
  exact ⟨_, ⟨rfl, rfl⟩, rfl, rfl, rfl, rfl, rfl, rfl, H1.out, _, rfl, rfl, rfl⟩

set_option maxRecDepth 100000 in
set_option maxHeartbeats 4000000 in
theorem b31x (wr : World) (xa : Option Addr) (n c0 : Nat) (ya : Option Addr) (m c2 g ro : Nat) (vo : Option Addr) (no co i : Nat) (a : Act) (hf : Fr 196 a) (h0 : sl a 0 = .slice xa n c0) (h1 : sl a 1 = .slice ya m c2) (h6 : sl a 6 = .pointer (some ⟨g, 0, none⟩)) (h8 : sl a 8 = .slice (some ⟨ro, 0, none⟩) n n) (h9 : sl a 9 = .slice vo no co) (h10 : sl a 10 = .int .i64 (i : Int)) :
    Code.wp Try.prog (cAt [1,1,1,1,1,1,1,0,1,2,2,1,0,2,1,0,1,3,1,1,1,1,1,1,1,1,1] KB) (Outs 3 (fun a' w' => Fr 196 a' ∧ sl a' 0 = .slice xa n c0 ∧ sl a' 1 = .slice ya m c2 ∧ sl a' 6 = .pointer (some ⟨g, 0, none⟩) ∧ sl a' 8 = .slice (some ⟨ro, 0, none⟩) n n ∧ sl a' 9 = .slice vo no co ∧ sl a' 10 = .int .i64 (i : Int) ∧ wr = w')) a wr := by
  obtain ⟨f, ha, hs⟩ := frKB hf
  have e0 := (hs 0).trans h0
  have e1 := (hs 1).trans h1
  have e6 := (hs 6).trans h6
  have e8 := (hs 8).trans h8
  have e9 := (hs 9).trans h9
  have e10 := (hs 10).trans h10
  rw [e0, e1, e6, e8, e9, e10] at ha
  clear hs hf e0 h0 e1 h1 e6 h6 e8 h8 e9 h9 e10 h10
  subst ha
  conv => arg 2; whnf
  go_wp2_with fail
  exact ⟨rfl, ⟨rfl, rfl⟩, rfl, rfl, rfl, rfl, rfl, rfl, rfl⟩

set_option maxRecDepth 100000 in
set_option maxHeartbeats 4000000 in
theorem b32 (w wr : World) (xa : Option Addr) (n c0 : Nat) (ya : Option Addr) (m c2 g ro : Nat) (vo : Option Addr) (no co i bx : Nat) (s : Sh) (N : Int) (offs : List Of) (ys : List Po) (y : Ac) (HB : Hid (wr.heap[bx]? = some (.cells #[.int .i64 y.d, .int .i64 y.c, .int .u64 y.x.no, .int .i64 y.x.sz, .slice y.x.a y.x.n y.x.c, .int .u64 y.t] 42 (0, 0)))) (HM : Hid (Bm w wr g s N ro offs vo no co ys)) (HN : Hid (N < 1000)) (tt : Int) (htt : y.t.tmod 4294967296 = tt) (t0 : 0 ≤ tt) (t1 : tt < 4294967296) (hnn : no + tot s.abs ≤ 1000000) (a : Act) (hf : Fr 196 a) (h0 : sl a 0 = .slice xa n c0) (h1 : sl a 1 = .slice ya m c2) (h6 : sl a 6 = .pointer (some ⟨g, 0, none⟩)) (h8 : sl a 8 = .slice (some ⟨ro, 0, none⟩) n n) (h9 : sl a 9 = .slice vo no co) (h10 : sl a 10 = .int .i64 (i : Int)) (h11 : sl a 11 = .pointer (some ⟨bx, 0, none⟩)) :
    Code.wp Try.prog (cAt [1,1,1,1,1,1,1,0,1,2,2,1,0,2,1,1,0] KB) (Exit.then (fun a' w' => ∃ s' v2 n2 c3 zs, Fr 196 a' ∧ sl a' 0 = .slice xa n c0 ∧ sl a' 1 = .slice ya m c2 ∧ sl a' 6 = .pointer (some ⟨g, 0, none⟩) ∧ sl a' 8 = .slice (some ⟨ro, 0, none⟩) n n ∧ sl a' 9 = .slice v2 n2 c3 ∧ sl a' 10 = .int .i64 (i : Int) ∧ Bm w w' g s' N ro offs v2 n2 c3 (ys ++ zs) ∧ zs.map Po.ot = (rel (max tt s.T) s.T s.abs).2 ∧ s'.T = max tt s.T ∧ s'.n = s.n ∧ s'.abs = (rel (max tt s.T) s.T s.abs).1) Nope) a wr := by
  obtain ⟨f, ha, hs⟩ := frKB hf
  have e0 := (hs 0).trans h0
  have e1 := (hs 1).trans h1
  have e6 := (hs 6).trans h6
  have e8 := (hs 8).trans h8
  have e9 := (hs 9).trans h9
  have e10 := (hs 10).trans h10
  have e11 := (hs 11).trans h11
  rw [e0, e1, e6, e8, e9, e10, e11] at ha
  clear hs hf e0 h0 e1 h1 e6 h6 e8 h8 e9 h9 e10 h10 e11 h11
  subst ha
  refine piece2 fun J0 K0 hJ0 hK0 => ?_
  conv => arg 2; whnf
  have c5' : wr.cell? ⟨bx, 5, none⟩ = some (.int .u64 y.t) := by rw [cell_of_row wr bx 5 _ _ (0, 0) HB.out]; rfl
  have ew : IntKind.u64.wrap tt = tt := by rw [IntKind.wrap_u64]; omega
  have HTT := Lib.hid (And.intro t0 t1)
  go_wp2_with fail
  refine (lvRelease HM.out.lv (by have := HN.out; omega) tt (by have := HTT.out; omega)).mono ?_
  rintro e w1 ⟨v1, n1, c1, zs, s', rfl, ho, hot, hv, hT, hn, hab, hk, hf⟩
  have hM1 := HM.out.sh hv hk (fun k hk => .inl (hf k hk))
  have hl1 := ho.len
  have hle := relB_len (max tt s.T) s.T s.abs
  rw [← hot, List.length_map] at hle
  have hl0 := hM1.ops.len
  have hl00 := HM.out.ops.len
  obtain ⟨v2, c3, w2, hrun, hops, hkk, _⟩ := hM1.ops.cat ho HM.out.lv.below.size hv.below.size (fun o ho' p hp k hk1 hk2 => by
    have h1 := ((HM.out.ops.data o ho').1.blk_ge k hk1).2
    have h2 := ((ho.data p hp).1.blk_ge k hk2).1
    omega) (by omega)
  have H1 : Hid (Bm w w2 g s' N ro offs v2 (no + n1) c3 (ys ++ zs) ∧ zs.map Po.ot = (rel (max tt s.T) s.T s.abs).2 ∧ s'.T = max tt s.T ∧ s'.n = s.n ∧ s'.abs = (rel (max tt s.T) s.T s.abs).1) :=
    ⟨hM1.cat hops hkk (fun p hp k hk1 e => by
      have h1 := ((ho.data p hp).1.blk_ge k hk1).1
      have h2 := (HM.out.lv.sw.foot_lt (hf k e)).2
      omega), hot, hT, hn, hab⟩
  have HRUN := Lib.hid hrun
  clear ho hot hv hT hn hab hk hf hM1 hl1 hle hl0 hl00 hrun hops hkk
  go_wp2_with (at_builtin; first | (refine Lib.wpList_append_run _ rfl (.tmp 166) (.tmp 171) _ _ rfl _ _ rfl rfl _ _ HRUN.out ?_) | fail)
  refine Met.intro (hJ0 _ _ ?_)
  exact ⟨s', v2, _, c3, zs, ⟨rfl, rfl⟩, rfl, rfl, rfl, rfl, rfl, rfl, H1.out⟩

set_option maxRecDepth 100000 in
set_option maxHeartbeats 4000000 in
theorem b33 (w wr : World) (xa : Option Addr) (n c0 : Nat) (ya : Option Addr) (m c2 g ro : Nat) (vo : Option Addr) (no co i : Nat) (s : Sh) (N : Int) (offs : List Of) (ys : List Po) (HM : Hid (Bm w wr g s N ro offs vo no co ys)) (a : Act) (hf : Fr 196 a) (h0 : sl a 0 = .slice xa n c0) (h1 : sl a 1 = .slice ya m c2) (h6 : sl a 6 = .pointer (some ⟨g, 0, none⟩)) (h8 : sl a 8 = .slice (some ⟨ro, 0, none⟩) n n) (h9 : sl a 9 = .slice vo no co) (h10 : sl a 10 = .int .i64 (i : Int)) :
    Code.wp Try.prog (cAt [1,1,1,1,1,1,1,0,1,2,2,1,0,2,1,1,1,0] KB) (Exit.then (fun a' w' => Fr 196 a' ∧ sl a' 0 = .slice xa n c0 ∧ sl a' 1 = .slice ya m c2 ∧ sl a' 6 = .pointer (some ⟨g, 0, none⟩) ∧ sl a' 8 = .slice (some ⟨ro, 0, none⟩) n n ∧ sl a' 9 = .slice vo no co ∧ sl a' 10 = .int .i64 (i : Int) ∧ sl a' 19 = .int .u64 (nx s.T s.abs).t ∧ sl a' 20 = .bool (nx s.T s.abs).k ∧ Below wr.heap.size wr w') Nope) a wr := by
  obtain ⟨f, ha, hs⟩ := frKB hf
  have e0 := (hs 0).trans h0
  have e1 := (hs 1).trans h1
  have e6 := (hs 6).trans h6
  have e8 := (hs 8).trans h8
  have e9 := (hs 9).trans h9
  have e10 := (hs 10).trans h10
  rw [e0, e1, e6, e8, e9, e10] at ha
  clear hs hf e0 h0 e1 h1 e6 h6 e8 h8 e9 h9 e10 h10
  subst ha
  refine piece2 fun J0 K0 hJ0 hK0 => ?_
  conv => arg 2; whnf
  go_wp2_with fail
  refine (sNext_any w.heap.size g s wr HM.out.lv.sw HM.out.lv.n1).mono ?_
  rintro e w1 ⟨rfl, hb⟩
  have H1 := Lib.hid hb
  obtain ⟨z, hz⟩ : ∃ z, nx s.T s.abs = z := ⟨_, rfl⟩
  rw [hz] at hJ0 ⊢
  clear hb
  go_wp2_with fail
  refine Met.intro (hJ0 _ _ ?_)
  exact ⟨⟨rfl, rfl⟩, rfl, rfl, rfl, rfl, rfl, rfl, rfl, rfl, H1.out⟩

set_option maxRecDepth 100000 in
set_option maxHeartbeats 4000000 in
theorem b34 (w wr : World) (xa : Option Addr) (n c0 : Nat) (ya : Option Addr) (m c2 g ro : Nat) (vo : Option Addr) (no co i : Nat) (s : Sh) (N : Int) (offs : List Of) (ys : List Po) (zt : Int) (zk : Bool) (HM : Hid (Bm w wr g s N ro offs vo no co ys)) (hz : zk = true → s.T < zt) (a : Act) (hf : Fr 196 a) (h0 : sl a 0 = .slice xa n c0) (h1 : sl a 1 = .slice ya m c2) (h6 : sl a 6 = .pointer (some ⟨g, 0, none⟩)) (h8 : sl a 8 = .slice (some ⟨ro, 0, none⟩) n n) (h9 : sl a 9 = .slice vo no co) (h10 : sl a 10 = .int .i64 (i : Int)) (h19 : sl a 19 = .int .u64 zt) (h20 : sl a 20 = .bool zk) :
    Code.wp Try.prog (cAt [1,1,1,1,1,1,1,0,1,2,2,1,0,2,1,1,1,1,0] KB) (Exit.then (fun a' w' => Fr 196 a' ∧ sl a' 0 = .slice xa n c0 ∧ sl a' 1 = .slice ya m c2 ∧ sl a' 6 = .pointer (some ⟨g, 0, none⟩) ∧ sl a' 8 = .slice (some ⟨ro, 0, none⟩) n n ∧ sl a' 9 = .slice vo no co ∧ sl a' 10 = .int .i64 (i : Int) ∧ sl a' 184 = .bool false ∧ wr = w') Nope) a wr := by
  obtain ⟨f, ha, hs⟩ := frKB hf
  have e0 := (hs 0).trans h0
  have e1 := (hs 1).trans h1
  have e6 := (hs 6).trans h6
  have e8 := (hs 8).trans h8
  have e9 := (hs 9).trans h9
  have e10 := (hs 10).trans h10
  have e19 := (hs 19).trans h19
  have e20 := (hs 20).trans h20
  rw [e0, e1, e6, e8, e9, e10, e19, e20] at ha
  clear hs hf e0 h0 e1 h1 e6 h6 e8 h8 e9 h9 e10 h10 e19 h19 e20 h20
  subst ha
  refine piece2 fun J0 K0 hJ0 hK0 => ?_
  conv => arg 2; whnf
  cases zk
  · clear hz
    go_wp2_with fail
    refine Met.intro (hJ0 _ _ ?_)
    exact ⟨⟨rfl, rfl⟩, rfl, rfl, rfl, rfl, rfl, rfl, rfl, rfl⟩
  · have hlt : decide (zt ≤ s.T) = false := decide_eq_false (by have := hz rfl; omega)
    clear hz
    go_wp2_with fail
    refine (sTick_any w.heap.size g s wr HM.out.lv.sw).mono ?_
    rintro e w1 ⟨rfl, hw⟩
    subst hw
    go_wp2_with fail
    refine Met.intro (hJ0 _ _ ?_)
    exact ⟨⟨rfl, rfl⟩, rfl, rfl, rfl, rfl, rfl, rfl, rfl, rfl⟩

set_option maxRecDepth 100000 in
set_option maxHeartbeats 4000000 in
theorem b36 (w wr : World) (xb xo n c0 ro : Nat) (vo : Option Addr) (no co : Nat) (l : List Cs) (g : Nat) (s : Sh) (N : Int) (offs : List Of) (ys : List Po) (HM : Hid (Bm w wr g s N ro offs vo no co ys)) (hn : l.length = n) (hl : ∀ (i : Nat) (x : Cs), l[i]? = some x → wr.rangeAt xb (xo + i * 4) x.cs) (hbd : BdO l (ys.map Po.ot)) (hod : OdO offs (ys.map Po.ot)) (hol : offs.length = n) (hn8 : n ≤ 8) (hno : no ≤ 100000) (a : Act) (hf : Fr 196 a) (h0 : sl a 0 = .slice (some ⟨xb, xo, none⟩) n c0) (h8 : sl a 8 = .slice (some ⟨ro, 0, none⟩) n n) (h9 : sl a 9 = .slice vo no co) :
    Code.wp Try.prog (cAt [1,1,1,1,1,1,1,1] KB) (bodyPost Try.prog Try.f4 (Yes w)) a wr := by
  have HL := Lib.hid hl
  have HBD := Lib.hid hbd
  have HOD := Lib.hid hod
  clear hl hbd hod
  obtain ⟨f, ha, hs⟩ := frKB hf
  have e0 := (hs 0).trans h0
  have e8 := (hs 8).trans h8
  have e9 := (hs 9).trans h9
  rw [e0, e8, e9] at ha
  clear hs hf e0 h0 e8 h8 e9 h9
  subst ha
  conv => arg 2; whnf
  go_wp2_with fail
  refine (bounded_any xb xo n c0 l hn vo no co ys w.heap.size wr HL.out HM.out.ops HBD.out hno).mono ?_
  rintro e w1 ⟨rfl, hb1⟩
  have H1 := Lib.hid hb1
  clear hb1
  go_wp2_with fail
  refine (ordered_any w.heap.size ro offs n vo no co ys w.heap.size w1 (HM.out.offs.below H1.out) hol hn8 (HM.out.ops.below H1.out) HOD.out hno).mono ?_
  rintro e w2 ⟨rfl, hb2⟩
  have H2 : Hid (Below w.heap.size w w2) := (HM.out.lv.below.trans (H1.out.mono HM.out.lv.below.size)).trans (hb2.mono (Nat.le_trans HM.out.lv.below.size H1.out.size))
  clear hb2
  go_wp2_with fail
  refine (works12_any w2).mono ?_
  rintro e w3 ⟨rfl, hb3⟩
  have H3 : Hid (Below w.heap.size w w3) := H2.out.trans (hb3.mono H2.out.size)
  clear hb3
  go_wp2_with fail
  first | exact ⟨rfl, H3.out⟩ | (go_ret; exact ⟨rfl, H3.out⟩)
end Go.Proofs.Yticjfhmkpciihaa

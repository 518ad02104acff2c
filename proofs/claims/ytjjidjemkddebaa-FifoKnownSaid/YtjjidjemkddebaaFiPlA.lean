/-
  FifoPlays in pieces. Conditions: those that the theorems name. (Made by gen_fipl.py.)
-/
import Derived.Test.YtjjidjemkddebaaFiPlM
import Derived.Deep.RegionWith
namespace Go.Proofs.Ytjjidjemkddebaa
open Go.RowKit

noncomputable def KP : Code := Try.f3.body.getD .skip
set_option maxRecDepth 100000 in
theorem fr158 {a : Act} (h : Fr 158 a) : ∃ f : Nat → Value, a = ⟨#[f 0, f 1, f 2, f 3, f 4, f 5, f 6, f 7, f 8, f 9, f 10, f 11, f 12, f 13, f 14, f 15, f 16, f 17, f 18, f 19, f 20, f 21, f 22, f 23, f 24, f 25, f 26, f 27, f 28, f 29, f 30, f 31, f 32, f 33, f 34, f 35, f 36, f 37, f 38, f 39, f 40, f 41, f 42, f 43, f 44, f 45, f 46, f 47, f 48, f 49, f 50, f 51, f 52, f 53, f 54, f 55, f 56, f 57, f 58, f 59, f 60, f 61, f 62, f 63, f 64, f 65, f 66, f 67, f 68, f 69, f 70, f 71, f 72, f 73, f 74, f 75, f 76, f 77, f 78, f 79, f 80, f 81, f 82, f 83, f 84, f 85, f 86, f 87, f 88, f 89, f 90, f 91, f 92, f 93, f 94, f 95, f 96, f 97, f 98, f 99, f 100, f 101, f 102, f 103, f 104, f 105, f 106, f 107, f 108, f 109, f 110, f 111, f 112, f 113, f 114, f 115, f 116, f 117, f 118, f 119, f 120, f 121, f 122, f 123, f 124, f 125, f 126, f 127, f 128, f 129, f 130, f 131, f 132, f 133, f 134, f 135, f 136, f 137, f 138, f 139, f 140, f 141, f 142, f 143, f 144, f 145, f 146, f 147, f 148, f 149, f 150, f 151, f 152, f 153, f 154, f 155, f 156, f 157], []⟩ ∧ ∀ i, f i = sl a i := fr_any h

set_option maxRecDepth 100000 in
set_option maxHeartbeats 4000000 in
theorem e0 (w : World) (I S : Int) (xa : Option Addr) (n c : Nat) (a : Act) (hf : Fr 158 a) (h0 : sl a 0 = .int .i64 I) (h1 : sl a 1 = .int .i64 S) (h2 : sl a 2 = .slice xa n c) :
    Code.wp Try.prog (cAt [0] KP) (Exit.then (fun a' w' => Fr 158 a' ∧ sl a' 0 = .int .i64 I ∧ sl a' 1 = .int .i64 S ∧ sl a' 2 = .slice xa n c ∧ w = w') Nope) a w := by
  obtain ⟨f, ha, hs⟩ := fr158 hf
  have e0 := (hs 0).trans h0
  have e1 := (hs 1).trans h1
  have e2 := (hs 2).trans h2
  rw [e0, e1, e2] at ha
  clear hs hf e0 h0 e1 h1 e2 h2
  subst ha
  refine piece2 fun J0 K0 hJ0 hK0 => ?_
  conv => arg 2; whnf
  go_wp2_with fail
  refine Met.intro (hJ0 _ _ ?_)
  exact ⟨⟨rfl, rfl⟩, rfl, rfl, rfl, rfl⟩

set_option maxRecDepth 100000 in
set_option maxHeartbeats 4000000 in
theorem e1 (w : World) (I S : Int) (xa : Option Addr) (n c : Nat) (l : List Ac) (hl : Acr w xa n l) (hn : n ≤ maxLen) (HF : Few l) (a : Act) (hf : Fr 158 a) (h0 : sl a 0 = .int .i64 I) (h1 : sl a 1 = .int .i64 S) (h2 : sl a 2 = .slice xa n c) :
    Code.wp Try.prog (cAt [1,0] KP) (Exit.then (fun a' w' => Fr 158 a' ∧ sl a' 0 = .int .i64 I ∧ sl a' 1 = .int .i64 S ∧ sl a' 2 = .slice xa n c ∧ w = w') Nope) a w := by
  obtain ⟨f, ha, hs⟩ := fr158 hf
  have e0 := (hs 0).trans h0
  have e1 := (hs 1).trans h1
  have e2 := (hs 2).trans h2
  rw [e0, e1, e2] at ha
  clear hs hf e0 h0 e1 h1 e2 h2
  subst ha
  refine piece2 fun J0 K0 hJ0 hK0 => ?_
  conv => arg 2; whnf
  have HFF := Lib.hid HF
  have HLL := Lib.hid hl
  clear HF hl
  go_wp2_with fail
  refine (few_any xa n c l w HLL.out hn).mono ?_
  rintro e w1 ⟨b, rfl, hb, hw⟩
  subst hw
  obtain rfl : b = true := hb.2 HFF.out
  clear hb
  go_wp2_with fail
  refine Met.intro (hJ0 _ _ ?_)
  exact ⟨⟨rfl, rfl⟩, rfl, rfl, rfl, rfl⟩

set_option maxRecDepth 100000 in
set_option maxHeartbeats 4000000 in
theorem e3 (w : World) (I S : Int) (xa : Option Addr) (n c : Nat) (I0 : 0 ≤ I) (I1 : I ≤ 65536) (S0 : 0 ≤ S) (S1 : S ≤ 9223372036854775807) (a : Act) (hf : Fr 158 a) (h0 : sl a 0 = .int .i64 I) (h1 : sl a 1 = .int .i64 S) (h2 : sl a 2 = .slice xa n c) :
    Code.wp Try.prog (cAt [1,1,0] KP) (Exit.then (fun a' w' => ∃ g, Fr 158 a' ∧ sl a' 0 = .int .i64 I ∧ sl a' 1 = .int .i64 S ∧ sl a' 2 = .slice xa n c ∧ sl a' 7 = .pointer (some ⟨g, 0, none⟩) ∧ sl a' 8 = .int .i64 0 ∧ Qu w' w.heap.size g ⟨I, S, none, 0, [], [], 0⟩ ∧ Below w.heap.size w w') Nope) a w := by
  obtain ⟨f, ha, hs⟩ := fr158 hf
  have e0 := (hs 0).trans h0
  have e1 := (hs 1).trans h1
  have e2 := (hs 2).trans h2
  rw [e0, e1, e2] at ha
  clear hs hf e0 h0 e1 h1 e2 h2
  subst ha
  refine piece2 fun J0 K0 hJ0 hK0 => ?_
  conv => arg 2; whnf
  go_wp2_with fail
  refine (fNew_any I S w I0 I1 S0 S1).mono ?_
  rintro e w1 ⟨g, rfl, ho, hq, hb⟩
  have H1 : Hid (Qu w1 w.heap.size g ⟨I, S, none, 0, [], [], 0⟩ ∧ Below w.heap.size w w1) := ⟨hq, hb⟩
  clear hq hb ho
  go_wp2_with fail
  refine Met.intro (hJ0 _ _ ?_)
  exact ⟨g, ⟨rfl, rfl⟩, rfl, rfl, rfl, rfl, rfl, H1.out⟩

set_option maxRecDepth 100000 in
set_option maxHeartbeats 4000000 in
theorem e4 (w wr : World) (I S : Int) (xa : Option Addr) (n c g : Nat) (I0 : 0 ≤ I) (I1 : I ≤ 65536) (S0 : 0 ≤ S) (HQ : Hid (Qu wr w.heap.size g ⟨I, S, none, 0, [], [], 0⟩ ∧ Below w.heap.size w wr)) (a : Act) (hf : Fr 158 a) (h0 : sl a 0 = .int .i64 I) (h1 : sl a 1 = .int .i64 S) (h2 : sl a 2 = .slice xa n c) (h7 : sl a 7 = .pointer (some ⟨g, 0, none⟩)) (h8 : sl a 8 = .int .i64 0) :
    Code.wp Try.prog (cAt [1,1,1,0] KP) (Exit.then (fun a' w' => ∃ br, Fr 158 a' ∧ sl a' 2 = .slice xa n c ∧ sl a' 7 = .pointer (some ⟨g, 0, none⟩) ∧ sl a' 8 = .int .i64 0 ∧ sl a' 9 = .pointer (some ⟨br, 0, none⟩) ∧ sl a' 10 = .int .i64 0 ∧ Pw w w' g br ⟨I, S, none, 0, [], [], 0⟩ none 0 0) Nope) a wr := by
  obtain ⟨f, ha, hs⟩ := fr158 hf
  have e0 := (hs 0).trans h0
  have e1 := (hs 1).trans h1
  have e2 := (hs 2).trans h2
  have e7 := (hs 7).trans h7
  have e8 := (hs 8).trans h8
  rw [e0, e1, e2, e7, e8] at ha
  clear hs hf e0 h0 e1 h1 e2 h2 e7 h7 e8 h8
  subst ha
  refine piece2 fun J0 K0 hJ0 hK0 => ?_
  conv => arg 2; whnf
  go_wp2_with fail
  refine (rNew_any I S wr I0 I1 S0).mono ?_
  rintro e w1 ⟨rfl, hb1⟩
  rw [show rqv none 0 0 ⟨I, S, [], 0⟩ = .agg #[.slice none 0 0, .int .i64 I, .int .i64 S, .int .u64 0] from rfl]
  have hal : Below w1.heap.size w1 (w1.alloc (.cells #[.slice none 0 0, .int .i64 I, .int .i64 S, .int .u64 0] 32)) := (Below.refl _ _).alloc (Nat.le_refl _) _
  have hw := hb1.trans (hal.mono hb1.size)
  have H1 : Hid (Pw w (w1.alloc (.cells #[.slice none 0 0, .int .i64 I, .int .i64 S, .int .u64 0] 32)) g w1.heap.size ⟨I, S, none, 0, [], [], 0⟩ none 0 0) := ⟨HQ.out.1.below hw, Rt.nil _, Nat.le_refl _, Blk_new w1 _ _, Nat.le_trans HQ.out.2.size hb1.size, HQ.out.2.trans (hw.mono HQ.out.2.size)⟩
  clear hb1 hal hw
  go_wp2_with fail
  refine Met.intro (hJ0 _ _ ?_)
  exact ⟨_, ⟨rfl, rfl⟩, rfl, rfl, rfl, rfl, rfl, H1.out⟩

set_option maxRecDepth 100000 in
set_option maxHeartbeats 4000000 in
theorem e5 (wr : World) (xa : Option Addr) (n c g br : Nat) (a : Act) (hf : Fr 158 a) (h2 : sl a 2 = .slice xa n c) (h7 : sl a 7 = .pointer (some ⟨g, 0, none⟩)) (h8 : sl a 8 = .int .i64 0) (h9 : sl a 9 = .pointer (some ⟨br, 0, none⟩)) (h10 : sl a 10 = .int .i64 0) :
    Code.wp Try.prog (cAt [1,1,1,1,0] KP) (Exit.then (fun a' w' => Fr 158 a' ∧ sl a' 2 = .slice xa n c ∧ sl a' 7 = .pointer (some ⟨g, 0, none⟩) ∧ sl a' 9 = .pointer (some ⟨br, 0, none⟩) ∧ sl a' 8 = .int .i64 0 ∧ wr = w') Nope) a wr := by
  obtain ⟨f, ha, hs⟩ := fr158 hf
  have e2 := (hs 2).trans h2
  have e7 := (hs 7).trans h7
  have e8 := (hs 8).trans h8
  have e9 := (hs 9).trans h9
  have e10 := (hs 10).trans h10
  rw [e2, e7, e8, e9, e10] at ha
  clear hs hf e2 h2 e7 h7 e8 h8 e9 h9 e10 h10
  subst ha
  refine piece2 fun J0 K0 hJ0 hK0 => ?_
  conv => arg 2; whnf
  go_wp2_with fail
  refine Met.intro (hJ0 _ _ ?_)
  exact ⟨⟨rfl, rfl⟩, rfl, rfl, rfl, rfl, rfl⟩

set_option maxRecDepth 100000 in
set_option maxHeartbeats 4000000 in
theorem e7 (wr : World) (xa : Option Addr) (n c g br : Nat) (a : Act) (hf : Fr 158 a) (h2 : sl a 2 = .slice xa n c) (h7 : sl a 7 = .pointer (some ⟨g, 0, none⟩)) (h9 : sl a 9 = .pointer (some ⟨br, 0, none⟩)) (h8 : sl a 8 = .int .i64 0) :
    Code.wp Try.prog (cAt [1,1,1,1,1,0] KP) (Exit.then (fun a' w' => Fr 158 a' ∧ sl a' 2 = .slice xa n c ∧ sl a' 7 = .pointer (some ⟨g, 0, none⟩) ∧ sl a' 9 = .pointer (some ⟨br, 0, none⟩) ∧ wr = w') Nope) a wr := by
  obtain ⟨f, ha, hs⟩ := fr158 hf
  have e2 := (hs 2).trans h2
  have e7 := (hs 7).trans h7
  have e9 := (hs 9).trans h9
  have e8 := (hs 8).trans h8
  rw [e2, e7, e9, e8] at ha
  clear hs hf e2 h2 e7 h7 e9 h9 e8 h8
  subst ha
  refine piece2 fun J0 K0 hJ0 hK0 => ?_
  conv => arg 2; whnf
  go_wp2_with fail
  refine Met.intro (hJ0 _ _ ?_)
  exact ⟨⟨rfl, rfl⟩, rfl, rfl, rfl, rfl⟩

set_option maxRecDepth 100000 in
set_option maxHeartbeats 4000000 in
theorem e9 (wr : World) (xa : Option Addr) (n c g br : Nat) (a : Act) (hf : Fr 158 a) (h2 : sl a 2 = .slice xa n c) (h7 : sl a 7 = .pointer (some ⟨g, 0, none⟩)) (h9 : sl a 9 = .pointer (some ⟨br, 0, none⟩)) :
    Code.wp Try.prog (cAt [1,1,1,1,1,1,0,0] KP) (Exit.then (fun a' w' => Fr 158 a' ∧ sl a' 2 = .slice xa n c ∧ sl a' 7 = .pointer (some ⟨g, 0, none⟩) ∧ sl a' 9 = .pointer (some ⟨br, 0, none⟩) ∧ sl a' 11 = .int .i64 0 ∧ wr = w') Nope) a wr := by
  obtain ⟨f, ha, hs⟩ := fr158 hf
  have e2 := (hs 2).trans h2
  have e7 := (hs 7).trans h7
  have e9 := (hs 9).trans h9
  rw [e2, e7, e9] at ha
  clear hs hf e2 h2 e7 h7 e9 h9
  subst ha
  refine piece2 fun J0 K0 hJ0 hK0 => ?_
  conv => arg 2; whnf
  go_wp2_with fail
  refine Met.intro (hJ0 _ _ ?_)
  exact ⟨⟨rfl, rfl⟩, rfl, rfl, rfl, rfl, rfl⟩

set_option maxRecDepth 100000 in
set_option maxHeartbeats 4000000 in
theorem a10 (wr : World) (xa : Option Addr) (n c g br : Nat) (k : Nat) (hlt : k < n) (a : Act) (hf : Fr 158 a) (h2 : sl a 2 = .slice xa n c) (h7 : sl a 7 = .pointer (some ⟨g, 0, none⟩)) (h9 : sl a 9 = .pointer (some ⟨br, 0, none⟩)) (h11 : sl a 11 = .int .i64 (k : Int)) :
    Code.wp Try.prog (cAt [1,1,1,1,1,1,0,1,2,2,0] KP) (Exit.then (fun a' w' => Fr 158 a' ∧ sl a' 2 = .slice xa n c ∧ sl a' 7 = .pointer (some ⟨g, 0, none⟩) ∧ sl a' 9 = .pointer (some ⟨br, 0, none⟩) ∧ sl a' 11 = .int .i64 (k : Int) ∧ wr = w') Nope) a wr := by
  obtain ⟨f, ha, hs⟩ := fr158 hf
  have e2 := (hs 2).trans h2
  have e7 := (hs 7).trans h7
  have e9 := (hs 9).trans h9
  have e11 := (hs 11).trans h11
  rw [e2, e7, e9, e11] at ha
  clear hs hf e2 h2 e7 h7 e9 h9 e11 h11
  subst ha
  refine piece2 fun J0 K0 hJ0 hK0 => ?_
  conv => arg 2; whnf
  have hlt2 : (k : Int) < (n : Int) := by omega
  go_wp2_with fail
  refine Met.intro (hJ0 _ _ ?_)
  exact ⟨⟨rfl, rfl⟩, rfl, rfl, rfl, rfl, rfl⟩

set_option maxRecDepth 100000 in
set_option maxHeartbeats 4000000 in
theorem a10x (wr : World) (xa : Option Addr) (n c g br : Nat) (k : Nat) (hlt : ¬ k < n) (a : Act) (hf : Fr 158 a) (h2 : sl a 2 = .slice xa n c) (h7 : sl a 7 = .pointer (some ⟨g, 0, none⟩)) (h9 : sl a 9 = .pointer (some ⟨br, 0, none⟩)) (h11 : sl a 11 = .int .i64 (k : Int)) :
    Code.wp Try.prog (cAt [1,1,1,1,1,1,0,1,2,2] KP) (Outs 0 (fun a' w' => Fr 158 a' ∧ sl a' 2 = .slice xa n c ∧ sl a' 7 = .pointer (some ⟨g, 0, none⟩) ∧ sl a' 9 = .pointer (some ⟨br, 0, none⟩) ∧ wr = w')) a wr := by
  obtain ⟨f, ha, hs⟩ := fr158 hf
  have e2 := (hs 2).trans h2
  have e7 := (hs 7).trans h7
  have e9 := (hs 9).trans h9
  have e11 := (hs 11).trans h11
  rw [e2, e7, e9, e11] at ha
  clear hs hf e2 h2 e7 h7 e9 h9 e11 h11
  subst ha
  conv => arg 2; whnf
  go_wp2_with fail
  exact ⟨rfl, ⟨rfl, rfl⟩, rfl, rfl, rfl, rfl⟩

set_option maxRecDepth 100000 in
set_option maxHeartbeats 4000000 in
theorem a11 (wr : World) (n c g br k xb xo : Nat) (hk : k < 60) (a : Act) (hf : Fr 158 a) (h2 : sl a 2 = .slice (some ⟨xb, xo, none⟩) n c) (h7 : sl a 7 = .pointer (some ⟨g, 0, none⟩)) (h9 : sl a 9 = .pointer (some ⟨br, 0, none⟩)) (h11 : sl a 11 = .int .i64 (k : Int)) :
    Code.wp Try.prog (cAt [1,1,1,1,1,1,0,1,2,2,1,1] KP) (Exit.then (fun a' w' => Fr 158 a' ∧ sl a' 2 = .slice (some ⟨xb, xo, none⟩) n c ∧ sl a' 7 = .pointer (some ⟨g, 0, none⟩) ∧ sl a' 9 = .pointer (some ⟨br, 0, none⟩) ∧ sl a' 11 = .int .i64 ((k : Int) + 1) ∧ wr = w') Nope) a wr := by
  obtain ⟨f, ha, hs⟩ := fr158 hf
  have e2 := (hs 2).trans h2
  have e7 := (hs 7).trans h7
  have e9 := (hs 9).trans h9
  have e11 := (hs 11).trans h11
  rw [e2, e7, e9, e11] at ha
  clear hs hf e2 h2 e7 h7 e9 h9 e11 h11
  subst ha
  refine piece2 fun J0 K0 hJ0 hK0 => ?_
  conv => arg 2; whnf
  go_wp2_with fail
  refine Met.intro (hJ0 _ _ ?_)
  exact ⟨⟨rfl, rfl⟩, rfl, rfl, rfl, rfl, rfl⟩

set_option maxRecDepth 100000 in
set_option maxHeartbeats 4000000 in
theorem a12 (wr : World) (n c g br k xb xo : Nat) (y : Ac) (HX : Hid (World.rangeAt wr xb (xo + k * 4) y.cs)) (hlt : k < n) (a : Act) (hf : Fr 158 a) (h2 : sl a 2 = .slice (some ⟨xb, xo, none⟩) n c) (h7 : sl a 7 = .pointer (some ⟨g, 0, none⟩)) (h9 : sl a 9 = .pointer (some ⟨br, 0, none⟩)) (h11 : sl a 11 = .int .i64 (k : Int)) :
    Code.wp Try.prog (cAt [1,1,1,1,1,1,0,1,2,2,1,0,2,0] KP) (Exit.then (fun a' w' => ∃ px, Fr 158 a' ∧ sl a' 2 = .slice (some ⟨xb, xo, none⟩) n c ∧ sl a' 7 = .pointer (some ⟨g, 0, none⟩) ∧ sl a' 9 = .pointer (some ⟨br, 0, none⟩) ∧ sl a' 11 = .int .i64 (k : Int) ∧ sl a' 12 = .pointer (some ⟨px, 0, none⟩) ∧ w'.heap[px]? = some (.cells #[.int .u64 y.x.no, .int .i64 y.x.sz, .slice y.x.a y.x.n y.x.c] 37 (0, 0)) ∧ wr.heap.size ≤ px ∧ Below wr.heap.size wr w') Nope) a wr := by
  obtain ⟨f, ha, hs⟩ := fr158 hf
  have e2 := (hs 2).trans h2
  have e7 := (hs 7).trans h7
  have e9 := (hs 9).trans h9
  have e11 := (hs 11).trans h11
  rw [e2, e7, e9, e11] at ha
  clear hs hf e2 h2 e7 h7 e9 h9 e11 h11
  subst ha
  refine piece2 fun J0 K0 hJ0 hK0 => ?_
  conv => arg 2; whnf
  have hlt2 : (k : Int) < (n : Int) := by omega
  have c1 := Ac.r1 HX.out
  have c2 : wr.cell? ⟨xb, xo + k * 4 + 1 + 1, none⟩ = some (.int .i64 y.x.sz) := Ac.r2 HX.out
  have c3 : wr.cell? ⟨xb, xo + k * 4 + 1 + 2, none⟩ = some (.slice y.x.a y.x.n y.x.c) := Ac.r3 HX.out
  have H1 : Hid ((wr.alloc (.cells #[.int .u64 y.x.no, .int .i64 y.x.sz, .slice y.x.a y.x.n y.x.c] 37)).heap[wr.heap.size]? = some (.cells #[.int .u64 y.x.no, .int .i64 y.x.sz, .slice y.x.a y.x.n y.x.c] 37 (0, 0)) ∧ Below wr.heap.size wr (wr.alloc (.cells #[.int .u64 y.x.no, .int .i64 y.x.sz, .slice y.x.a y.x.n y.x.c] 37))) := ⟨Blk_new wr _ _, (Below.refl _ _).alloc (Nat.le_refl _) _⟩
  go_wp2_with fail
  refine Met.intro (hJ0 _ _ ?_)
  exact ⟨_, ⟨rfl, rfl⟩, rfl, rfl, rfl, rfl, rfl, H1.out.1, Nat.le_refl _, H1.out.2⟩

set_option maxRecDepth 100000 in
set_option maxHeartbeats 4000000 in
theorem a13 (wr : World) (n c g br k xb xo px : Nat) (u0 u1 u2 : Value) (HB : Hid (wr.heap[px]? = some (.cells #[u0, u1, u2] 37 (0, 0)))) (a : Act) (hf : Fr 158 a) (h2 : sl a 2 = .slice (some ⟨xb, xo, none⟩) n c) (h7 : sl a 7 = .pointer (some ⟨g, 0, none⟩)) (h9 : sl a 9 = .pointer (some ⟨br, 0, none⟩)) (h11 : sl a 11 = .int .i64 (k : Int)) (h12 : sl a 12 = .pointer (some ⟨px, 0, none⟩)) :
    Code.wp Try.prog (cAt [1,1,1,1,1,1,0,1,2,2,1,0,2,1,0] KP) (Exit.then (fun a' w' => Fr 158 a' ∧ sl a' 2 = .slice (some ⟨xb, xo, none⟩) n c ∧ sl a' 7 = .pointer (some ⟨g, 0, none⟩) ∧ sl a' 9 = .pointer (some ⟨br, 0, none⟩) ∧ sl a' 11 = .int .i64 (k : Int) ∧ sl a' 12 = .pointer (some ⟨px, 0, none⟩) ∧ w'.heap[px]? = some (.cells #[u0, u1, .slice none 0 0] 37 (0, 0)) ∧ Kept (fun i => i = px) wr w') Nope) a wr := by
  obtain ⟨f, ha, hs⟩ := fr158 hf
  have e2 := (hs 2).trans h2
  have e7 := (hs 7).trans h7
  have e9 := (hs 9).trans h9
  have e11 := (hs 11).trans h11
  have e12 := (hs 12).trans h12
  rw [e2, e7, e9, e11, e12] at ha
  clear hs hf e2 h2 e7 h7 e9 h9 e11 h11 e12 h12
  subst ha
  refine piece2 fun J0 K0 hJ0 hK0 => ?_
  conv => arg 2; whnf
  have c2 := q3_2 HB.out
  have f2 : wr.frozen? ⟨px, 2, none⟩ = false := frozen_of_row wr px 2 _ _ HB.out
  have H1 : Hid ((wr.setCell ⟨px, 2, none⟩ (.slice none 0 0)).heap[px]? = some (.cells #[u0, u1, .slice none 0 0] 37 (0, 0)) ∧ Kept (fun i => i = px) wr (wr.setCell ⟨px, 2, none⟩ (.slice none 0 0))) := ⟨by rw [heap_setCell_same wr px 2 _ _ _ HB.out]; rfl, Kept.setCell _ _ _ rfl⟩
  go_wp2_with fail
  refine Met.intro (hJ0 _ _ ?_)
  exact ⟨⟨rfl, rfl⟩, rfl, rfl, rfl, rfl, rfl, H1.out⟩

set_option maxRecDepth 100000 in
set_option maxHeartbeats 4000000 in
theorem a14 (wr : World) (n c g br k xb xo px : Nat) (y : Ac) (HX : Hid (World.rangeAt wr xb (xo + k * 4) y.cs)) (HY : Hid (y.x.ar wr)) (hlt : k < n) (hy60 : y.x.n ≤ 60) (hxp : ¬ xb = px) (HB : Hid (wr.heap[px]? = some (.cells #[.int .u64 y.x.no, .int .i64 y.x.sz, .slice none 0 0] 37 (0, 0)))) (a : Act) (hf : Fr 158 a) (h2 : sl a 2 = .slice (some ⟨xb, xo, none⟩) n c) (h7 : sl a 7 = .pointer (some ⟨g, 0, none⟩)) (h9 : sl a 9 = .pointer (some ⟨br, 0, none⟩)) (h11 : sl a 11 = .int .i64 (k : Int)) (h12 : sl a 12 = .pointer (some ⟨px, 0, none⟩)) :
    Code.wp Try.prog (cAt [1,1,1,1,1,1,0,1,2,2,1,0,2,1,1,0] KP) (Exit.then (fun a' w' => ∃ (da : Option Addr) (dc : Nat), Fr 158 a' ∧ sl a' 2 = .slice (some ⟨xb, xo, none⟩) n c ∧ sl a' 7 = .pointer (some ⟨g, 0, none⟩) ∧ sl a' 9 = .pointer (some ⟨br, 0, none⟩) ∧ sl a' 11 = .int .i64 (k : Int) ∧ sl a' 12 = .pointer (some ⟨px, 0, none⟩) ∧ Kept (fun i => i = px) wr w' ∧ Own w' wr.heap.size da y.x.n dc y.x.d ∧ w'.heap[px]? = some (.cells #[.int .u64 y.x.no, .int .i64 y.x.sz, .slice da y.x.n dc] 37 (0, 0))) Nope) a wr := by
  obtain ⟨f, ha, hs⟩ := fr158 hf
  have e2 := (hs 2).trans h2
  have e7 := (hs 7).trans h7
  have e9 := (hs 9).trans h9
  have e11 := (hs 11).trans h11
  have e12 := (hs 12).trans h12
  rw [e2, e7, e9, e11, e12] at ha
  clear hs hf e2 h2 e7 h7 e9 h9 e11 h11 e12 h12
  subst ha
  refine piece2 fun J0 K0 hJ0 hK0 => ?_
  conv => arg 2; whnf
  have hlt2 : (k : Int) < (n : Int) := by omega
  have hk0 : (0 : Int) ≤ (k : Int) := by omega
  have HS : Hid (wr.drew.heap[px]? = some (.cells #[.int .u64 y.x.no, .int .i64 y.x.sz, .slice none 0 0] 37 (0, 0)) ∧ World.rangeAt wr.drew xb (xo + k * 4) y.cs) := ⟨HB.out, HX.out⟩
  refine wp_region_held_drew (S := fun w' => (w'.cell? ⟨px, 2, none⟩).isSome = true ∧ World.rangeAt w' xb (xo + k * 4) y.cs) (by kernel_rfl) ⟨by rw [q3_2 HS.out.1]; rfl, HS.out.2⟩ (fun hS => ?_)
  refine tk 0 62 (.pointer (some ⟨px, 2, none⟩)) rfl rfl (by kernel_rfl) (by kernel_rfl) (by kernel_rfl) (fun _ _ _ h => h) (Or.inl ⟨by rfl, fun w' h' => ?_⟩) hS ?_
  · go_simp
  try simp only [Act.put, List.setIfInBounds_toArray, List.set_cons_zero, List.set_cons_succ]
  refine tk 2 64 (.slice (some ⟨xb, xo, none⟩) n c) rfl rfl (by kernel_rfl) (by kernel_rfl) (by kernel_rfl) (fun _ _ _ h => h) (Or.inl ⟨by rfl, fun w' h' => ?_⟩) hS ?_
  · go_simp
  try simp only [Act.put, List.setIfInBounds_toArray, List.set_cons_zero, List.set_cons_succ]
  refine tk 3 65 (.int .i64 (k : Int)) rfl rfl (by kernel_rfl) (by kernel_rfl) (by kernel_rfl) (fun _ _ _ h => h) (Or.inl ⟨by rfl, fun w' h' => ?_⟩) hS ?_
  · go_simp
  try simp only [Act.put, List.setIfInBounds_toArray, List.set_cons_zero, List.set_cons_succ]
  refine tk 4 66 (.pointer (some ⟨xb, xo + k * 4, none⟩)) rfl rfl (by kernel_rfl) (by kernel_rfl) (by kernel_rfl) (fun _ _ _ h => h) (Or.inl ⟨by rfl, fun w' h' => ?_⟩) hS ?_
  · go_simp
  try simp only [Act.put, List.setIfInBounds_toArray, List.set_cons_zero, List.set_cons_succ]
  refine tk 5 67 (.pointer (some ⟨xb, xo + k * 4 + 1, none⟩)) rfl rfl (by kernel_rfl) (by kernel_rfl) (by kernel_rfl) (fun _ _ _ h => h) (Or.inl ⟨by rfl, fun w' h' => ?_⟩) hS ?_
  · go_simp
  try simp only [Act.put, List.setIfInBounds_toArray, List.set_cons_zero, List.set_cons_succ]
  refine tk 6 68 (.pointer (some ⟨xb, xo + k * 4 + 1 + 2, none⟩)) rfl rfl (by kernel_rfl) (by kernel_rfl) (by kernel_rfl) (fun _ _ _ h => h) (Or.inl ⟨by rfl, fun w' h' => ?_⟩) hS ?_
  · go_simp
  try simp only [Act.put, List.setIfInBounds_toArray, List.set_cons_zero, List.set_cons_succ]
  refine tk 7 69 (.slice y.x.a y.x.n y.x.c) rfl rfl (by kernel_rfl) (by kernel_rfl) (by kernel_rfl) (fun _ _ _ h => h) (Or.inl ⟨by rfl, fun w' h' => ?_⟩) hS ?_
  · have c3 : w'.cell? ⟨xb, xo + k * 4 + 1 + 2, none⟩ = some (.slice y.x.a y.x.n y.x.c) := Ac.r3 h'.2
    go_simp
  have c2 := q3_2 HS.out.1
  try simp only [Act.put, List.setIfInBounds_toArray, List.set_cons_zero, List.set_cons_succ]
  refine wpAnyH_ready (rs := [1]) (by kernel_rfl) (by simp) (AllReadyH.cons rfl (fun K hK => ?_) AllReadyH.nil)
  rw [if_pos (by rfl)]
  go_wp2_with fail
  clear hS
  refine hK.out _ _ (⟨by rw [q3_2 HS.out.1]; rfl, HS.out.2⟩) (fun hS => ?_)
  clear hK K
  try simp only [Act.put, List.setIfInBounds_toArray, List.set_cons_zero, List.set_cons_succ]
  refine wpAnyH_ready (rs := [8]) (by kernel_rfl) (by simp) (AllReadyH.cons rfl (fun K hK => ?_) AllReadyH.nil)
  rw [if_pos (by rfl)]
  obtain ⟨da, dc, w1, hrun, hown, hg, hb⟩ := run_append_rd wr.drew wr.heap.size 35 (Own.nil wr.drew wr.heap.size) y.x.c HY.out.len (HY.out.rd.below (show Below wr.heap.size wr wr.drew from (Below.refl _ _).drew)) (by have := hy60; omega) (Nat.le_refl _)
  rw [List.nil_append] at hown
  rw [Nat.zero_add] at hrun hown
  refine Lib.wp_append_run wr.drew (.tmp 63) (.tmp 69) 35 35 rfl _ _ rfl rfl _ _ hrun ?_
  change K (Act.put _ (some 70) (.slice da y.x.n dc)) _
  have hbl : Below wr.heap.size wr w1 := ((Below.refl _ _).drew).grown hg (Nat.le_refl _) (by simp [blk])
  have H1 : Hid (Below wr.heap.size wr w1 ∧ Own w1 wr.heap.size da y.x.n dc y.x.d ∧ w1.heap[px]? = some (.cells #[.int .u64 y.x.no, .int .i64 y.x.sz, .slice none 0 0] 37 (0, 0)) ∧ World.rangeAt w1 xb (xo + k * 4) y.cs) := ⟨hbl, hown, (hbl.block _ (Array.getElem?_eq_some_iff.1 HB.out).1).trans HB.out, range_kept hbl HX.out⟩
  clear hrun hown hg hb hbl HS c2
  clear hS
  refine hK.out _ _ (⟨by rw [q3_2 H1.out.2.2.1]; rfl, H1.out.2.2.2⟩) (fun hS => ?_)
  clear hK K
  try simp only [Act.put, List.setIfInBounds_toArray, List.set_cons_zero, List.set_cons_succ]
  refine tk 9 71 (.pointer (some ⟨px, 2, none⟩)) rfl rfl (by kernel_rfl) (by kernel_rfl) (by kernel_rfl) (fun _ _ _ h => h) (Or.inl ⟨by rfl, fun w' h' => ?_⟩) hS ?_
  · go_simp
  have c2 := q3_2 H1.out.2.2.1
  have f2 : w1.frozen? ⟨px, 2, none⟩ = false := frozen_of_row w1 px 2 _ _ H1.out.2.2.1
  try simp only [Act.put, List.setIfInBounds_toArray, List.set_cons_zero, List.set_cons_succ]
  refine wpAnyH_ready (rs := [10]) (by kernel_rfl) (by simp) (AllReadyH.cons rfl (fun K hK => ?_) AllReadyH.nil)
  rw [if_pos (by rfl)]
  go_wp2_with fail
  have hk2 : Kept (fun i => i = px) w1 (w1.setCell ⟨px, 2, none⟩ (.slice da y.x.n dc)) := Kept.setCell _ _ _ rfl
  have hr2 : (w1.setCell ⟨px, 2, none⟩ (.slice da y.x.n dc)).heap[px]? = some (.cells #[.int .u64 y.x.no, .int .i64 y.x.sz, .slice da y.x.n dc] 37 (0, 0)) := by rw [heap_setCell_same w1 px 2 _ _ _ H1.out.2.2.1]; rfl
  obtain ⟨w2, hw2⟩ : ∃ z, w1.setCell ⟨px, 2, none⟩ (.slice da y.x.n dc) = z := ⟨_, rfl⟩
  rw [hw2] at hk2 hr2 ⊢
  have hu : ∀ b, blk da = some b → ¬ b = px := fun b hb e => by
    obtain ⟨cur, hc⟩ := H1.out.2.1.kind hb
    rw [e, H1.out.2.2.1] at hc
    simp at hc
  have hkk : Kept (fun i => i = px) wr w2 := (Kept.of_below (S := fun i => i = px) H1.out.1 (fun i hi hi' => by omega)).trans hk2 (fun _ _ e => e)
  have H2 : Hid (Kept (fun i => i = px) wr w2 ∧ Own w2 wr.heap.size da y.x.n dc y.x.d ∧ w2.heap[px]? = some (.cells #[.int .u64 y.x.no, .int .i64 y.x.sz, .slice da y.x.n dc] 37 (0, 0)) ∧ World.rangeAt w2 xb (xo + k * 4) y.cs) := ⟨hkk, H1.out.2.1.keep hk2 hu, hr2, range_keep hk2 hxp H1.out.2.2.2⟩
  clear hk2 hr2 hw2 hu hkk c2 f2
  clear hS
  refine hK.out _ _ (⟨by rw [q3_2 H2.out.2.2.1]; rfl, H2.out.2.2.2⟩) (fun hS => ?_)
  clear hK K
  refine wpAnyH_done (by kernel_rfl) ?_ _
  go_wp2_with fail
  refine Met.intro (hJ0 _ _ ?_)
  exact ⟨da, dc, ⟨rfl, rfl⟩, rfl, rfl, rfl, rfl, rfl, H2.out.1, H2.out.2.1, H2.out.2.2.1⟩

set_option maxRecDepth 100000 in
set_option maxHeartbeats 4000000 in
theorem a15 (wr : World) (n c g br k xb xo px : Nat) (y : Ac) (HX : Hid (World.rangeAt wr xb (xo + k * 4) y.cs)) (hlt : k < n) (a : Act) (hf : Fr 158 a) (h2 : sl a 2 = .slice (some ⟨xb, xo, none⟩) n c) (h7 : sl a 7 = .pointer (some ⟨g, 0, none⟩)) (h9 : sl a 9 = .pointer (some ⟨br, 0, none⟩)) (h11 : sl a 11 = .int .i64 (k : Int)) (h12 : sl a 12 = .pointer (some ⟨px, 0, none⟩)) :
    Code.wp Try.prog (cAt [1,1,1,1,1,1,0,1,2,2,1,0,2,1,1,1,0,0] KP) (Exit.then (fun a' w' => Fr 158 a' ∧ sl a' 2 = .slice (some ⟨xb, xo, none⟩) n c ∧ sl a' 7 = .pointer (some ⟨g, 0, none⟩) ∧ sl a' 9 = .pointer (some ⟨br, 0, none⟩) ∧ sl a' 11 = .int .i64 (k : Int) ∧ sl a' 12 = .pointer (some ⟨px, 0, none⟩) ∧ sl a' 77 = .int .i64 (y.d % 8) ∧ wr = w') Nope) a wr := by
  obtain ⟨f, ha, hs⟩ := fr158 hf
  have e2 := (hs 2).trans h2
  have e7 := (hs 7).trans h7
  have e9 := (hs 9).trans h9
  have e11 := (hs 11).trans h11
  have e12 := (hs 12).trans h12
  rw [e2, e7, e9, e11, e12] at ha
  clear hs hf e2 h2 e7 h7 e9 h9 e11 h11 e12 h12
  subst ha
  refine piece2 fun J0 K0 hJ0 hK0 => ?_
  conv => arg 2; whnf
  have hlt2 : (k : Int) < (n : Int) := by omega
  have d0 := Ac.r0 HX.out
  go_wp2_with fail
  refine (kPick_any y.d 8 _ (by decide) (by decide)).mono ?_
  rintro e v1 ⟨rfl, hv1⟩
  subst hv1
  go_wp2_with fail
  refine Met.intro (hJ0 _ _ ?_)
  exact ⟨⟨rfl, rfl⟩, rfl, rfl, rfl, rfl, rfl, rfl, rfl⟩

set_option maxRecDepth 100000 in
set_option maxHeartbeats 4000000 in
theorem a24_4 (wr : World) (n c g br k xb xo px : Nat) (a : Act) (hf : Fr 158 a) (h2 : sl a 2 = .slice (some ⟨xb, xo, none⟩) n c) (h7 : sl a 7 = .pointer (some ⟨g, 0, none⟩)) (h9 : sl a 9 = .pointer (some ⟨br, 0, none⟩)) (h11 : sl a 11 = .int .i64 (k : Int)) (h12 : sl a 12 = .pointer (some ⟨px, 0, none⟩)) (h77 : sl a 77 = .int .i64 4) :
    Code.wp Try.prog (cAt [1,1,1,1,1,1,0,1,2,2,1,0,2,1,1,1,0,1,2,0] KP) (Exit.then (fun a' w' => Fr 158 a' ∧ sl a' 2 = .slice (some ⟨xb, xo, none⟩) n c ∧ sl a' 7 = .pointer (some ⟨g, 0, none⟩) ∧ sl a' 9 = .pointer (some ⟨br, 0, none⟩) ∧ sl a' 11 = .int .i64 (k : Int) ∧ sl a' 12 = .pointer (some ⟨px, 0, none⟩) ∧ sl a' 105 = .bool true ∧ wr = w') Nope) a wr := by
  obtain ⟨f, ha, hs⟩ := fr158 hf
  have e2 := (hs 2).trans h2
  have e7 := (hs 7).trans h7
  have e9 := (hs 9).trans h9
  have e11 := (hs 11).trans h11
  have e12 := (hs 12).trans h12
  have e77 := (hs 77).trans h77
  rw [e2, e7, e9, e11, e12, e77] at ha
  clear hs hf e2 h2 e7 h7 e9 h9 e11 h11 e12 h12 e77 h77
  subst ha
  refine piece2 fun J0 K0 hJ0 hK0 => ?_
  conv => arg 2; whnf
  go_wp2_with fail
  refine Met.intro (hJ0 _ _ ?_)
  exact ⟨⟨rfl, rfl⟩, rfl, rfl, rfl, rfl, rfl, rfl, rfl⟩

set_option maxRecDepth 100000 in
set_option maxHeartbeats 4000000 in
theorem a24_5 (wr : World) (n c g br k xb xo px : Nat) (a : Act) (hf : Fr 158 a) (h2 : sl a 2 = .slice (some ⟨xb, xo, none⟩) n c) (h7 : sl a 7 = .pointer (some ⟨g, 0, none⟩)) (h9 : sl a 9 = .pointer (some ⟨br, 0, none⟩)) (h11 : sl a 11 = .int .i64 (k : Int)) (h12 : sl a 12 = .pointer (some ⟨px, 0, none⟩)) (h77 : sl a 77 = .int .i64 5) :
    Code.wp Try.prog (cAt [1,1,1,1,1,1,0,1,2,2,1,0,2,1,1,1,0,1,2,0] KP) (Exit.then (fun a' w' => Fr 158 a' ∧ sl a' 2 = .slice (some ⟨xb, xo, none⟩) n c ∧ sl a' 7 = .pointer (some ⟨g, 0, none⟩) ∧ sl a' 9 = .pointer (some ⟨br, 0, none⟩) ∧ sl a' 11 = .int .i64 (k : Int) ∧ sl a' 12 = .pointer (some ⟨px, 0, none⟩) ∧ sl a' 105 = .bool true ∧ wr = w') Nope) a wr := by
  obtain ⟨f, ha, hs⟩ := fr158 hf
  have e2 := (hs 2).trans h2
  have e7 := (hs 7).trans h7
  have e9 := (hs 9).trans h9
  have e11 := (hs 11).trans h11
  have e12 := (hs 12).trans h12
  have e77 := (hs 77).trans h77
  rw [e2, e7, e9, e11, e12, e77] at ha
  clear hs hf e2 h2 e7 h7 e9 h9 e11 h11 e12 h12 e77 h77
  subst ha
  refine piece2 fun J0 K0 hJ0 hK0 => ?_
  conv => arg 2; whnf
  go_wp2_with fail
  refine Met.intro (hJ0 _ _ ?_)
  exact ⟨⟨rfl, rfl⟩, rfl, rfl, rfl, rfl, rfl, rfl, rfl⟩

set_option maxRecDepth 100000 in
set_option maxHeartbeats 4000000 in
theorem a24n (wr : World) (n c g br k xb xo px : Nat) (v : Int) (h4 : v ≠ 4) (h5 : v ≠ 5) (a : Act) (hf : Fr 158 a) (h2 : sl a 2 = .slice (some ⟨xb, xo, none⟩) n c) (h7 : sl a 7 = .pointer (some ⟨g, 0, none⟩)) (h9 : sl a 9 = .pointer (some ⟨br, 0, none⟩)) (h11 : sl a 11 = .int .i64 (k : Int)) (h12 : sl a 12 = .pointer (some ⟨px, 0, none⟩)) (h77 : sl a 77 = .int .i64 v) :
    Code.wp Try.prog (cAt [1,1,1,1,1,1,0,1,2,2,1,0,2,1,1,1,0,1,2,0] KP) (Exit.then (fun a' w' => Fr 158 a' ∧ sl a' 2 = .slice (some ⟨xb, xo, none⟩) n c ∧ sl a' 7 = .pointer (some ⟨g, 0, none⟩) ∧ sl a' 9 = .pointer (some ⟨br, 0, none⟩) ∧ sl a' 11 = .int .i64 (k : Int) ∧ sl a' 12 = .pointer (some ⟨px, 0, none⟩) ∧ sl a' 77 = .int .i64 v ∧ sl a' 105 = .bool false ∧ wr = w') Nope) a wr := by
  obtain ⟨f, ha, hs⟩ := fr158 hf
  have e2 := (hs 2).trans h2
  have e7 := (hs 7).trans h7
  have e9 := (hs 9).trans h9
  have e11 := (hs 11).trans h11
  have e12 := (hs 12).trans h12
  have e77 := (hs 77).trans h77
  rw [e2, e7, e9, e11, e12, e77] at ha
  clear hs hf e2 h2 e7 h7 e9 h9 e11 h11 e12 h12 e77 h77
  subst ha
  refine piece2 fun J0 K0 hJ0 hK0 => ?_
  conv => arg 2; whnf
  have e4 : (v == 4) = false := by simp [h4]
  have e5 : (v == 5) = false := by simp [h5]
  go_wp2_with fail
  refine Met.intro (hJ0 _ _ ?_)
  exact ⟨⟨rfl, rfl⟩, rfl, rfl, rfl, rfl, rfl, rfl, rfl, rfl⟩

set_option maxRecDepth 100000 in
set_option maxHeartbeats 4000000 in
theorem a31t (wr : World) (n c g br k xb xo px : Nat) (a : Act) (hf : Fr 158 a) (h2 : sl a 2 = .slice (some ⟨xb, xo, none⟩) n c) (h7 : sl a 7 = .pointer (some ⟨g, 0, none⟩)) (h9 : sl a 9 = .pointer (some ⟨br, 0, none⟩)) (h11 : sl a 11 = .int .i64 (k : Int)) (h12 : sl a 12 = .pointer (some ⟨px, 0, none⟩)) (h77 : sl a 77 = .int .i64 6) :
    Code.wp Try.prog (cAt [1,1,1,1,1,1,0,1,2,2,1,0,2,1,1,1,0,1,2,1,4,0] KP) (Exit.then (fun a' w' => Fr 158 a' ∧ sl a' 2 = .slice (some ⟨xb, xo, none⟩) n c ∧ sl a' 7 = .pointer (some ⟨g, 0, none⟩) ∧ sl a' 9 = .pointer (some ⟨br, 0, none⟩) ∧ sl a' 11 = .int .i64 (k : Int) ∧ sl a' 12 = .pointer (some ⟨px, 0, none⟩) ∧ sl a' 129 = .bool true ∧ wr = w') Nope) a wr := by
  obtain ⟨f, ha, hs⟩ := fr158 hf
  have e2 := (hs 2).trans h2
  have e7 := (hs 7).trans h7
  have e9 := (hs 9).trans h9
  have e11 := (hs 11).trans h11
  have e12 := (hs 12).trans h12
  have e77 := (hs 77).trans h77
  rw [e2, e7, e9, e11, e12, e77] at ha
  clear hs hf e2 h2 e7 h7 e9 h9 e11 h11 e12 h12 e77 h77
  subst ha
  refine piece2 fun J0 K0 hJ0 hK0 => ?_
  conv => arg 2; whnf
  go_wp2_with fail
  refine Met.intro (hJ0 _ _ ?_)
  exact ⟨⟨rfl, rfl⟩, rfl, rfl, rfl, rfl, rfl, rfl, rfl⟩

set_option maxRecDepth 100000 in
set_option maxHeartbeats 4000000 in
theorem a31f (wr : World) (n c g br k xb xo px : Nat) (v : Int) (h6 : v ≠ 6) (a : Act) (hf : Fr 158 a) (h2 : sl a 2 = .slice (some ⟨xb, xo, none⟩) n c) (h7 : sl a 7 = .pointer (some ⟨g, 0, none⟩)) (h9 : sl a 9 = .pointer (some ⟨br, 0, none⟩)) (h11 : sl a 11 = .int .i64 (k : Int)) (h12 : sl a 12 = .pointer (some ⟨px, 0, none⟩)) (h77 : sl a 77 = .int .i64 v) :
    Code.wp Try.prog (cAt [1,1,1,1,1,1,0,1,2,2,1,0,2,1,1,1,0,1,2,1,4,0] KP) (Exit.then (fun a' w' => Fr 158 a' ∧ sl a' 2 = .slice (some ⟨xb, xo, none⟩) n c ∧ sl a' 7 = .pointer (some ⟨g, 0, none⟩) ∧ sl a' 9 = .pointer (some ⟨br, 0, none⟩) ∧ sl a' 11 = .int .i64 (k : Int) ∧ sl a' 12 = .pointer (some ⟨px, 0, none⟩) ∧ sl a' 77 = .int .i64 v ∧ sl a' 129 = .bool false ∧ wr = w') Nope) a wr := by
  obtain ⟨f, ha, hs⟩ := fr158 hf
  have e2 := (hs 2).trans h2
  have e7 := (hs 7).trans h7
  have e9 := (hs 9).trans h9
  have e11 := (hs 11).trans h11
  have e12 := (hs 12).trans h12
  have e77 := (hs 77).trans h77
  rw [e2, e7, e9, e11, e12, e77] at ha
  clear hs hf e2 h2 e7 h7 e9 h9 e11 h11 e12 h12 e77 h77
  subst ha
  refine piece2 fun J0 K0 hJ0 hK0 => ?_
  conv => arg 2; whnf
  have e6 : (v == 6) = false := by simp [h6]
  go_wp2_with fail
  refine Met.intro (hJ0 _ _ ?_)
  exact ⟨⟨rfl, rfl⟩, rfl, rfl, rfl, rfl, rfl, rfl, rfl, rfl⟩

set_option maxRecDepth 100000 in
set_option maxHeartbeats 4000000 in
theorem a34t (wr : World) (n c g br k xb xo px : Nat) (a : Act) (hf : Fr 158 a) (h2 : sl a 2 = .slice (some ⟨xb, xo, none⟩) n c) (h7 : sl a 7 = .pointer (some ⟨g, 0, none⟩)) (h9 : sl a 9 = .pointer (some ⟨br, 0, none⟩)) (h11 : sl a 11 = .int .i64 (k : Int)) (h12 : sl a 12 = .pointer (some ⟨px, 0, none⟩)) (h77 : sl a 77 = .int .i64 7) :
    Code.wp Try.prog (cAt [1,1,1,1,1,1,0,1,2,2,1,0,2,1,1,1,0,1,2,1,4,1,4,0] KP) (Exit.then (fun a' w' => Fr 158 a' ∧ sl a' 2 = .slice (some ⟨xb, xo, none⟩) n c ∧ sl a' 7 = .pointer (some ⟨g, 0, none⟩) ∧ sl a' 9 = .pointer (some ⟨br, 0, none⟩) ∧ sl a' 11 = .int .i64 (k : Int) ∧ sl a' 12 = .pointer (some ⟨px, 0, none⟩) ∧ sl a' 140 = .bool true ∧ wr = w') Nope) a wr := by
  obtain ⟨f, ha, hs⟩ := fr158 hf
  have e2 := (hs 2).trans h2
  have e7 := (hs 7).trans h7
  have e9 := (hs 9).trans h9
  have e11 := (hs 11).trans h11
  have e12 := (hs 12).trans h12
  have e77 := (hs 77).trans h77
  rw [e2, e7, e9, e11, e12, e77] at ha
  clear hs hf e2 h2 e7 h7 e9 h9 e11 h11 e12 h12 e77 h77
  subst ha
  refine piece2 fun J0 K0 hJ0 hK0 => ?_
  conv => arg 2; whnf
  go_wp2_with fail
  refine Met.intro (hJ0 _ _ ?_)
  exact ⟨⟨rfl, rfl⟩, rfl, rfl, rfl, rfl, rfl, rfl, rfl⟩

set_option maxRecDepth 100000 in
set_option maxHeartbeats 4000000 in
theorem a34f (wr : World) (n c g br k xb xo px : Nat) (v : Int) (h7 : v ≠ 7) (a : Act) (hf : Fr 158 a) (h2 : sl a 2 = .slice (some ⟨xb, xo, none⟩) n c) (h7 : sl a 7 = .pointer (some ⟨g, 0, none⟩)) (h9 : sl a 9 = .pointer (some ⟨br, 0, none⟩)) (h11 : sl a 11 = .int .i64 (k : Int)) (h12 : sl a 12 = .pointer (some ⟨px, 0, none⟩)) (h77 : sl a 77 = .int .i64 v) :
    Code.wp Try.prog (cAt [1,1,1,1,1,1,0,1,2,2,1,0,2,1,1,1,0,1,2,1,4,1,4,0] KP) (Exit.then (fun a' w' => Fr 158 a' ∧ sl a' 2 = .slice (some ⟨xb, xo, none⟩) n c ∧ sl a' 7 = .pointer (some ⟨g, 0, none⟩) ∧ sl a' 9 = .pointer (some ⟨br, 0, none⟩) ∧ sl a' 11 = .int .i64 (k : Int) ∧ sl a' 12 = .pointer (some ⟨px, 0, none⟩) ∧ sl a' 140 = .bool false ∧ wr = w') Nope) a wr := by
  obtain ⟨f, ha, hs⟩ := fr158 hf
  have e2 := (hs 2).trans h2
  have e7 := (hs 7).trans h7
  have e9 := (hs 9).trans h9
  have e11 := (hs 11).trans h11
  have e12 := (hs 12).trans h12
  have e77 := (hs 77).trans h77
  rw [e2, e7, e9, e11, e12, e77] at ha
  clear hs hf e2 h2 e7 h7 e9 h9 e11 h11 e12 h12 e77 h77
  subst ha
  refine piece2 fun J0 K0 hJ0 hK0 => ?_
  conv => arg 2; whnf
  have e7 : (v == 7) = false := by simp [h7]
  go_wp2_with fail
  refine Met.intro (hJ0 _ _ ?_)
  exact ⟨⟨rfl, rfl⟩, rfl, rfl, rfl, rfl, rfl, rfl, rfl⟩

end Go.Proofs.Ytjjidjemkddebaa

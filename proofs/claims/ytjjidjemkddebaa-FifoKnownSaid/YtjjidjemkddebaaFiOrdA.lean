/-
  FifoOrder in pieces. Conditions: those that the theorems name. (Made by gen_fiord.py.)
-/
import Derived.Test.YtjjidjemkddebaaFiOrdM
import Derived.Deep.RegionWith
namespace Go.Proofs.Ytjjidjemkddebaa
open Go.RowKit

noncomputable def KO : Code := Try.f4.body.getD .skip
set_option maxRecDepth 100000 in
theorem fr177 {a : Act} (h : Fr 177 a) : ∃ f : Nat → Value, a = ⟨#[f 0, f 1, f 2, f 3, f 4, f 5, f 6, f 7, f 8, f 9, f 10, f 11, f 12, f 13, f 14, f 15, f 16, f 17, f 18, f 19, f 20, f 21, f 22, f 23, f 24, f 25, f 26, f 27, f 28, f 29, f 30, f 31, f 32, f 33, f 34, f 35, f 36, f 37, f 38, f 39, f 40, f 41, f 42, f 43, f 44, f 45, f 46, f 47, f 48, f 49, f 50, f 51, f 52, f 53, f 54, f 55, f 56, f 57, f 58, f 59, f 60, f 61, f 62, f 63, f 64, f 65, f 66, f 67, f 68, f 69, f 70, f 71, f 72, f 73, f 74, f 75, f 76, f 77, f 78, f 79, f 80, f 81, f 82, f 83, f 84, f 85, f 86, f 87, f 88, f 89, f 90, f 91, f 92, f 93, f 94, f 95, f 96, f 97, f 98, f 99, f 100, f 101, f 102, f 103, f 104, f 105, f 106, f 107, f 108, f 109, f 110, f 111, f 112, f 113, f 114, f 115, f 116, f 117, f 118, f 119, f 120, f 121, f 122, f 123, f 124, f 125, f 126, f 127, f 128, f 129, f 130, f 131, f 132, f 133, f 134, f 135, f 136, f 137, f 138, f 139, f 140, f 141, f 142, f 143, f 144, f 145, f 146, f 147, f 148, f 149, f 150, f 151, f 152, f 153, f 154, f 155, f 156, f 157, f 158, f 159, f 160, f 161, f 162, f 163, f 164, f 165, f 166, f 167, f 168, f 169, f 170, f 171, f 172, f 173, f 174, f 175, f 176], []⟩ ∧ ∀ i, f i = sl a i := fr_any h

set_option maxRecDepth 100000 in
set_option maxHeartbeats 4000000 in
theorem o0 (w : World) (I0 S0 : Int) (xa : Option Addr) (n c : Nat) (a : Act) (hf : Fr 177 a) (h0 : sl a 0 = .int .i64 I0) (h1 : sl a 1 = .int .i64 S0) (h2 : sl a 2 = .slice xa n c) :
    Code.wp Try.prog (cAt [0] KO) (Exit.then (fun a' w' => Fr 177 a' ∧ sl a' 0 = .int .i64 I0 ∧ sl a' 1 = .int .i64 S0 ∧ sl a' 2 = .slice xa n c ∧ w = w') Nope) a w := by
  obtain ⟨f, ha, hs⟩ := fr177 hf
  have e0 := (hs 0).trans h0
  have e1 := (hs 1).trans h1
  have e2 := (hs 2).trans h2
  rw [e0, e1, e2] at ha
  clear hs hf e0 h0 e1 h1 e2 h2
  subst ha
  refine piece2 fun J0 K0 hJ0 hK0 => ?_
  conv => arg 2; whnf
  go_wp2_with fail
  refine Met.intro (hJ0 _ _ ?_)
  exact ⟨⟨rfl, rfl⟩, rfl, rfl, rfl, rfl⟩

set_option maxRecDepth 100000 in
set_option maxHeartbeats 4000000 in
theorem o1 (w : World) (I0 S0 : Int) (xa : Option Addr) (n c : Nat) (l : List Ac) (hl : Acr w xa n l) (hn : n ≤ maxLen) (HF : Few l) (a : Act) (hf : Fr 177 a) (h0 : sl a 0 = .int .i64 I0) (h1 : sl a 1 = .int .i64 S0) (h2 : sl a 2 = .slice xa n c) :
    Code.wp Try.prog (cAt [1,0] KO) (Exit.then (fun a' w' => Fr 177 a' ∧ sl a' 0 = .int .i64 I0 ∧ sl a' 1 = .int .i64 S0 ∧ sl a' 2 = .slice xa n c ∧ w = w') Nope) a w := by
  obtain ⟨f, ha, hs⟩ := fr177 hf
  have e0 := (hs 0).trans h0
  have e1 := (hs 1).trans h1
  have e2 := (hs 2).trans h2
  rw [e0, e1, e2] at ha
  clear hs hf e0 h0 e1 h1 e2 h2
  subst ha
  refine piece2 fun J0 K0 hJ0 hK0 => ?_
  conv => arg 2; whnf
  have HFF := Lib.hid HF
  have HLL := Lib.hid hl
  clear HF hl
  go_wp2_with fail
  refine (few_any xa n c l w HLL.out hn).mono ?_
  rintro e w1 ⟨b, rfl, hb, hw⟩
  subst hw
  obtain rfl : b = true := hb.2 HFF.out
  clear hb
  go_wp2_with fail
  refine Met.intro (hJ0 _ _ ?_)
  exact ⟨⟨rfl, rfl⟩, rfl, rfl, rfl, rfl⟩

set_option maxRecDepth 100000 in
set_option maxHeartbeats 4000000 in
theorem o3 (w : World) (I0 S0 : Int) (xa : Option Addr) (n c : Nat) (a : Act) (hf : Fr 177 a) (h0 : sl a 0 = .int .i64 I0) (h1 : sl a 1 = .int .i64 S0) (h2 : sl a 2 = .slice xa n c) :
    Code.wp Try.prog (cAt [1,1,0] KO) (Exit.then (fun a' w' => Fr 177 a' ∧ sl a' 0 = .int .i64 (I0 % 41) ∧ sl a' 1 = .int .i64 S0 ∧ sl a' 2 = .slice xa n c ∧ w = w') Nope) a w := by
  obtain ⟨f, ha, hs⟩ := fr177 hf
  have e0 := (hs 0).trans h0
  have e1 := (hs 1).trans h1
  have e2 := (hs 2).trans h2
  rw [e0, e1, e2] at ha
  clear hs hf e0 h0 e1 h1 e2 h2
  subst ha
  refine piece2 fun J0 K0 hJ0 hK0 => ?_
  conv => arg 2; whnf
  go_wp2_with fail
  refine (kPick_any _ 41 w (by decide) (by decide)).mono ?_
  rintro e w1 ⟨rfl, hw⟩
  subst hw
  go_wp2_with fail
  refine Met.intro (hJ0 _ _ ?_)
  exact ⟨⟨rfl, rfl⟩, rfl, rfl, rfl, rfl⟩

set_option maxRecDepth 100000 in
set_option maxHeartbeats 4000000 in
theorem o4 (w : World) (I0 S0 : Int) (xa : Option Addr) (n c : Nat) (a : Act) (hf : Fr 177 a) (h0 : sl a 0 = .int .i64 (I0 % 41)) (h1 : sl a 1 = .int .i64 S0) (h2 : sl a 2 = .slice xa n c) :
    Code.wp Try.prog (cAt [1,1,1,0] KO) (Exit.then (fun a' w' => Fr 177 a' ∧ sl a' 0 = .int .i64 (I0 % 41) ∧ sl a' 1 = .int .i64 (S0 % 401) ∧ sl a' 2 = .slice xa n c ∧ w = w') Nope) a w := by
  obtain ⟨f, ha, hs⟩ := fr177 hf
  have e0 := (hs 0).trans h0
  have e1 := (hs 1).trans h1
  have e2 := (hs 2).trans h2
  rw [e0, e1, e2] at ha
  clear hs hf e0 h0 e1 h1 e2 h2
  subst ha
  refine piece2 fun J0 K0 hJ0 hK0 => ?_
  conv => arg 2; whnf
  go_wp2_with fail
  refine (kPick_any _ 401 w (by decide) (by decide)).mono ?_
  rintro e w1 ⟨rfl, hw⟩
  subst hw
  go_wp2_with fail
  refine Met.intro (hJ0 _ _ ?_)
  exact ⟨⟨rfl, rfl⟩, rfl, rfl, rfl, rfl⟩

set_option maxRecDepth 100000 in
set_option maxHeartbeats 4000000 in
theorem o5 (w : World) (I S : Int) (xa : Option Addr) (n c : Nat) (I0 : 0 ≤ I) (I1 : I ≤ 65536) (S0 : 0 ≤ S) (S1 : S ≤ 9223372036854775807) (a : Act) (hf : Fr 177 a) (h0 : sl a 0 = .int .i64 I) (h1 : sl a 1 = .int .i64 S) (h2 : sl a 2 = .slice xa n c) :
    Code.wp Try.prog (cAt [1,1,1,1,0] KO) (Exit.then (fun a' w' => ∃ g, Fr 177 a' ∧ sl a' 0 = .int .i64 I ∧ sl a' 1 = .int .i64 S ∧ sl a' 2 = .slice xa n c ∧ sl a' 7 = .pointer (some ⟨g, 0, none⟩) ∧ sl a' 8 = .int .i64 0 ∧ Ow w w' g ⟨I, S, none, 0, [], [], 0⟩ I S 0 none 0 0) Nope) a w := by
  obtain ⟨f, ha, hs⟩ := fr177 hf
  have e0 := (hs 0).trans h0
  have e1 := (hs 1).trans h1
  have e2 := (hs 2).trans h2
  rw [e0, e1, e2] at ha
  clear hs hf e0 h0 e1 h1 e2 h2
  subst ha
  refine piece2 fun J0 K0 hJ0 hK0 => ?_
  conv => arg 2; whnf
  go_wp2_with fail
  refine (fNew_any I S w I0 I1 S0 S1).mono ?_
  rintro e w1 ⟨g, rfl, ho, hq, hb⟩
  have H1 : Hid (Ow w w1 g ⟨I, S, none, 0, [], [], 0⟩ I S 0 none 0 0) := ⟨hq, Sg.nil _ _, hb, rfl, rfl, rfl⟩
  clear hq hb ho
  go_wp2_with fail
  refine Met.intro (hJ0 _ _ ?_)
  exact ⟨g, ⟨rfl, rfl⟩, rfl, rfl, rfl, rfl, rfl, H1.out⟩

set_option maxRecDepth 100000 in
set_option maxHeartbeats 4000000 in
theorem o6 (w : World) (I S : Int) (xa : Option Addr) (n c g : Nat) (a : Act) (hf : Fr 177 a) (h0 : sl a 0 = .int .i64 I) (h1 : sl a 1 = .int .i64 S) (h2 : sl a 2 = .slice xa n c) (h7 : sl a 7 = .pointer (some ⟨g, 0, none⟩)) (h8 : sl a 8 = .int .i64 0) :
    Code.wp Try.prog (cAt [1,1,1,1,1,0] KO) (Exit.then (fun a' w' => Fr 177 a' ∧ sl a' 0 = .int .i64 I ∧ sl a' 1 = .int .i64 S ∧ sl a' 2 = .slice xa n c ∧ sl a' 7 = .pointer (some ⟨g, 0, none⟩) ∧ w = w') Nope) a w := by
  obtain ⟨f, ha, hs⟩ := fr177 hf
  have e0 := (hs 0).trans h0
  have e1 := (hs 1).trans h1
  have e2 := (hs 2).trans h2
  have e7 := (hs 7).trans h7
  have e8 := (hs 8).trans h8
  rw [e0, e1, e2, e7, e8] at ha
  clear hs hf e0 h0 e1 h1 e2 h2 e7 h7 e8 h8
  subst ha
  refine piece2 fun J0 K0 hJ0 hK0 => ?_
  conv => arg 2; whnf
  go_wp2_with fail
  refine Met.intro (hJ0 _ _ ?_)
  exact ⟨⟨rfl, rfl⟩, rfl, rfl, rfl, rfl, rfl⟩

set_option maxRecDepth 100000 in
set_option maxHeartbeats 4000000 in
theorem o8 (w : World) (I S : Int) (xa : Option Addr) (n c g : Nat) (a : Act) (hf : Fr 177 a) (h0 : sl a 0 = .int .i64 I) (h1 : sl a 1 = .int .i64 S) (h2 : sl a 2 = .slice xa n c) (h7 : sl a 7 = .pointer (some ⟨g, 0, none⟩)) :
    Code.wp Try.prog (cAt [1,1,1,1,1,1,0] KO) (Exit.then (fun a' w' => Fr 177 a' ∧ sl a' 0 = .int .i64 I ∧ sl a' 1 = .int .i64 S ∧ sl a' 2 = .slice xa n c ∧ sl a' 7 = .pointer (some ⟨g, 0, none⟩) ∧ sl a' 9 = .slice none 0 0 ∧ w = w') Nope) a w := by
  obtain ⟨f, ha, hs⟩ := fr177 hf
  have e0 := (hs 0).trans h0
  have e1 := (hs 1).trans h1
  have e2 := (hs 2).trans h2
  have e7 := (hs 7).trans h7
  rw [e0, e1, e2, e7] at ha
  clear hs hf e0 h0 e1 h1 e2 h2 e7 h7
  subst ha
  refine piece2 fun J0 K0 hJ0 hK0 => ?_
  conv => arg 2; whnf
  go_wp2_with fail
  refine Met.intro (hJ0 _ _ ?_)
  exact ⟨⟨rfl, rfl⟩, rfl, rfl, rfl, rfl, rfl, rfl⟩

set_option maxRecDepth 100000 in
set_option maxHeartbeats 4000000 in
theorem o9 (w : World) (I S : Int) (xa : Option Addr) (n c g : Nat) (a : Act) (hf : Fr 177 a) (h0 : sl a 0 = .int .i64 I) (h1 : sl a 1 = .int .i64 S) (h2 : sl a 2 = .slice xa n c) (h7 : sl a 7 = .pointer (some ⟨g, 0, none⟩)) (h9 : sl a 9 = .slice none 0 0) :
    Code.wp Try.prog (cAt [1,1,1,1,1,1,1,0] KO) (Exit.then (fun a' w' => Fr 177 a' ∧ sl a' 0 = .int .i64 I ∧ sl a' 1 = .int .i64 S ∧ sl a' 2 = .slice xa n c ∧ sl a' 7 = .pointer (some ⟨g, 0, none⟩) ∧ sl a' 9 = .slice none 0 0 ∧ sl a' 10 = .int .u64 0 ∧ w = w') Nope) a w := by
  obtain ⟨f, ha, hs⟩ := fr177 hf
  have e0 := (hs 0).trans h0
  have e1 := (hs 1).trans h1
  have e2 := (hs 2).trans h2
  have e7 := (hs 7).trans h7
  have e9 := (hs 9).trans h9
  rw [e0, e1, e2, e7, e9] at ha
  clear hs hf e0 h0 e1 h1 e2 h2 e7 h7 e9 h9
  subst ha
  refine piece2 fun J0 K0 hJ0 hK0 => ?_
  conv => arg 2; whnf
  go_wp2_with fail
  refine Met.intro (hJ0 _ _ ?_)
  exact ⟨⟨rfl, rfl⟩, rfl, rfl, rfl, rfl, rfl, rfl, rfl⟩

set_option maxRecDepth 100000 in
set_option maxHeartbeats 4000000 in
theorem o10 (wr : World) (I S : Int) (D : Int) (xa : Option Addr) (n c g : Nat) (ia : Option Addr) (m ic : Nat) (a : Act) (hf : Fr 177 a) (h0 : sl a 0 = .int .i64 I) (h1 : sl a 1 = .int .i64 S) (h2 : sl a 2 = .slice xa n c) (h7 : sl a 7 = .pointer (some ⟨g, 0, none⟩)) (h9 : sl a 9 = .slice ia m ic) (h10 : sl a 10 = .int .u64 D) :
    Code.wp Try.prog (cAt [1,1,1,1,1,1,1,1,0,0] KO) (Exit.then (fun a' w' => Fr 177 a' ∧ sl a' 0 = .int .i64 I ∧ sl a' 1 = .int .i64 S ∧ sl a' 2 = .slice xa n c ∧ sl a' 7 = .pointer (some ⟨g, 0, none⟩) ∧ sl a' 9 = .slice ia m ic ∧ sl a' 10 = .int .u64 D ∧ sl a' 11 = .int .i64 0 ∧ wr = w') Nope) a wr := by
  obtain ⟨f, ha, hs⟩ := fr177 hf
  have e0 := (hs 0).trans h0
  have e1 := (hs 1).trans h1
  have e2 := (hs 2).trans h2
  have e7 := (hs 7).trans h7
  have e9 := (hs 9).trans h9
  have e10 := (hs 10).trans h10
  rw [e0, e1, e2, e7, e9, e10] at ha
  clear hs hf e0 h0 e1 h1 e2 h2 e7 h7 e9 h9 e10 h10
  subst ha
  refine piece2 fun J0 K0 hJ0 hK0 => ?_
  conv => arg 2; whnf
  go_wp2_with fail
  refine Met.intro (hJ0 _ _ ?_)
  exact ⟨⟨rfl, rfl⟩, rfl, rfl, rfl, rfl, rfl, rfl, rfl, rfl⟩

set_option maxRecDepth 100000 in
set_option maxHeartbeats 4000000 in
theorem o11 (wr : World) (I S : Int) (D : Int) (xa : Option Addr) (n c g : Nat) (ia : Option Addr) (m ic : Nat) (k : Nat) (hlt : k < n) (a : Act) (hf : Fr 177 a) (h0 : sl a 0 = .int .i64 I) (h1 : sl a 1 = .int .i64 S) (h2 : sl a 2 = .slice xa n c) (h7 : sl a 7 = .pointer (some ⟨g, 0, none⟩)) (h9 : sl a 9 = .slice ia m ic) (h10 : sl a 10 = .int .u64 D) (h11 : sl a 11 = .int .i64 (k : Int)) :
    Code.wp Try.prog (cAt [1,1,1,1,1,1,1,1,0,1,2,2,0] KO) (Exit.then (fun a' w' => Fr 177 a' ∧ sl a' 0 = .int .i64 I ∧ sl a' 1 = .int .i64 S ∧ sl a' 2 = .slice xa n c ∧ sl a' 7 = .pointer (some ⟨g, 0, none⟩) ∧ sl a' 9 = .slice ia m ic ∧ sl a' 10 = .int .u64 D ∧ sl a' 11 = .int .i64 (k : Int) ∧ wr = w') Nope) a wr := by
  obtain ⟨f, ha, hs⟩ := fr177 hf
  have e0 := (hs 0).trans h0
  have e1 := (hs 1).trans h1
  have e2 := (hs 2).trans h2
  have e7 := (hs 7).trans h7
  have e9 := (hs 9).trans h9
  have e10 := (hs 10).trans h10
  have e11 := (hs 11).trans h11
  rw [e0, e1, e2, e7, e9, e10, e11] at ha
  clear hs hf e0 h0 e1 h1 e2 h2 e7 h7 e9 h9 e10 h10 e11 h11
  subst ha
  refine piece2 fun J0 K0 hJ0 hK0 => ?_
  conv => arg 2; whnf
  have hlt2 : (k : Int) < (n : Int) := by omega
  go_wp2_with fail
  refine Met.intro (hJ0 _ _ ?_)
  exact ⟨⟨rfl, rfl⟩, rfl, rfl, rfl, rfl, rfl, rfl, rfl, rfl⟩

set_option maxRecDepth 100000 in
set_option maxHeartbeats 4000000 in
theorem o11x (wr : World) (I S : Int) (D : Int) (xa : Option Addr) (n c g : Nat) (ia : Option Addr) (m ic : Nat) (k : Nat) (hlt : ¬ k < n) (a : Act) (hf : Fr 177 a) (h0 : sl a 0 = .int .i64 I) (h1 : sl a 1 = .int .i64 S) (h2 : sl a 2 = .slice xa n c) (h7 : sl a 7 = .pointer (some ⟨g, 0, none⟩)) (h9 : sl a 9 = .slice ia m ic) (h10 : sl a 10 = .int .u64 D) (h11 : sl a 11 = .int .i64 (k : Int)) :
    Code.wp Try.prog (cAt [1,1,1,1,1,1,1,1,0,1,2,2] KO) (Outs 0 (fun a' w' => Fr 177 a' ∧ sl a' 0 = .int .i64 I ∧ sl a' 1 = .int .i64 S ∧ sl a' 2 = .slice xa n c ∧ sl a' 7 = .pointer (some ⟨g, 0, none⟩) ∧ sl a' 9 = .slice ia m ic ∧ sl a' 10 = .int .u64 D ∧ wr = w')) a wr := by
  obtain ⟨f, ha, hs⟩ := fr177 hf
  have e0 := (hs 0).trans h0
  have e1 := (hs 1).trans h1
  have e2 := (hs 2).trans h2
  have e7 := (hs 7).trans h7
  have e9 := (hs 9).trans h9
  have e10 := (hs 10).trans h10
  have e11 := (hs 11).trans h11
  rw [e0, e1, e2, e7, e9, e10, e11] at ha
  clear hs hf e0 h0 e1 h1 e2 h2 e7 h7 e9 h9 e10 h10 e11 h11
  subst ha
  conv => arg 2; whnf
  go_wp2_with fail
  exact ⟨rfl, ⟨rfl, rfl⟩, rfl, rfl, rfl, rfl, rfl, rfl, rfl⟩

set_option maxRecDepth 100000 in
set_option maxHeartbeats 4000000 in
theorem o13 (w wr : World) (I S D : Int) (n c g : Nat) (q : Qs) (ia : Option Addr) (m ic k xb xo : Nat) (y : Ac) (HW : Hid (Ow w wr g q I S D ia m ic)) (HX : Hid (World.rangeAt wr xb (xo + k * 4) y.cs)) (hlt : k < n) (hn : n ≤ 60) (a : Act) (hf : Fr 177 a) (h0 : sl a 0 = .int .i64 I) (h1 : sl a 1 = .int .i64 S) (h2 : sl a 2 = .slice (some ⟨xb, xo, none⟩) n c) (h7 : sl a 7 = .pointer (some ⟨g, 0, none⟩)) (h9 : sl a 9 = .slice ia m ic) (h10 : sl a 10 = .int .u64 D) (h11 : sl a 11 = .int .i64 (k : Int)) :
    Code.wp Try.prog (cAt [1,1,1,1,1,1,1,1,0,1,2,2,1,0,2,0] KO) (Exit.then (fun a' w' => ∃ p, Fr 177 a' ∧ sl a' 0 = .int .i64 I ∧ sl a' 1 = .int .i64 S ∧ sl a' 2 = .slice (some ⟨xb, xo, none⟩) n c ∧ sl a' 7 = .pointer (some ⟨g, 0, none⟩) ∧ sl a' 9 = .slice ia m ic ∧ sl a' 10 = .int .u64 D ∧ sl a' 11 = .int .i64 (k : Int) ∧ sl a' 12 = .pointer (some ⟨p, 0, none⟩) ∧ Ow w w' g q I S D ia m ic ∧ w'.heap[p]? = some (.cells (Pi.cs ⟨k, y.x.sz % 101, y.x.a, y.x.n, y.x.c, y.x.d⟩).toArray 37 (0, 0)) ∧ wr.heap.size ≤ p ∧ Below wr.heap.size wr w') Nope) a wr := by
  obtain ⟨f, ha, hs⟩ := fr177 hf
  have e0 := (hs 0).trans h0
  have e1 := (hs 1).trans h1
  have e2 := (hs 2).trans h2
  have e7 := (hs 7).trans h7
  have e9 := (hs 9).trans h9
  have e10 := (hs 10).trans h10
  have e11 := (hs 11).trans h11
  rw [e0, e1, e2, e7, e9, e10, e11] at ha
  clear hs hf e0 h0 e1 h1 e2 h2 e7 h7 e9 h9 e10 h10 e11 h11
  subst ha
  refine piece2 fun J0 K0 hJ0 hK0 => ?_
  conv => arg 2; whnf
  have hlt2 : (k : Int) < (n : Int) := by omega
  have hk0 : (0 : Int) ≤ (k : Int) := by omega
  have hk1 : (k : Int) ≤ 60 := by omega
  have hsg := Int.emod_nonneg y.x.sz (show (101 : Int) ≠ 0 by decide)
  have e43 : IntKind.u64.wrap (k : Int) = (k : Int) := by rw [IntKind.wrap_u64]; omega
  have HS : Hid (World.rangeAt wr.drew xb (xo + k * 4) y.cs) := HX.out
  refine wp_region_held_drew (S := fun w' => World.rangeAt w' xb (xo + k * 4) y.cs) (by kernel_rfl) HS.out (fun hS => ?_)
  refine tk 0 42 (.int .i64 (k : Int)) rfl rfl (by kernel_rfl) (by kernel_rfl) (by kernel_rfl) (fun _ _ _ h => h) (Or.inl ⟨by rfl, fun w' h' => ?_⟩) hS ?_
  · go_simp
  try simp only [Act.put, List.setIfInBounds_toArray, List.set_cons_zero, List.set_cons_succ]
  refine tk 1 43 (.int .u64 (k : Int)) rfl rfl (by kernel_rfl) (by kernel_rfl) (by kernel_rfl) (fun _ _ _ h => h) (Or.inl ⟨by rfl, fun w' h' => ?_⟩) hS ?_
  · go_simp
  try simp only [Act.put, List.setIfInBounds_toArray, List.set_cons_zero, List.set_cons_succ]
  refine tk 2 44 (.slice (some ⟨xb, xo, none⟩) n c) rfl rfl (by kernel_rfl) (by kernel_rfl) (by kernel_rfl) (fun _ _ _ h => h) (Or.inl ⟨by rfl, fun w' h' => ?_⟩) hS ?_
  · go_simp
  try simp only [Act.put, List.setIfInBounds_toArray, List.set_cons_zero, List.set_cons_succ]
  refine tk 3 45 (.int .i64 (k : Int)) rfl rfl (by kernel_rfl) (by kernel_rfl) (by kernel_rfl) (fun _ _ _ h => h) (Or.inl ⟨by rfl, fun w' h' => ?_⟩) hS ?_
  · go_simp
  try simp only [Act.put, List.setIfInBounds_toArray, List.set_cons_zero, List.set_cons_succ]
  refine tk 4 46 (.pointer (some ⟨xb, xo + k * 4, none⟩)) rfl rfl (by kernel_rfl) (by kernel_rfl) (by kernel_rfl) (fun _ _ _ h => h) (Or.inl ⟨by rfl, fun w' h' => ?_⟩) hS ?_
  · go_simp
  try simp only [Act.put, List.setIfInBounds_toArray, List.set_cons_zero, List.set_cons_succ]
  refine tk 5 47 (.pointer (some ⟨xb, xo + k * 4 + 1, none⟩)) rfl rfl (by kernel_rfl) (by kernel_rfl) (by kernel_rfl) (fun _ _ _ h => h) (Or.inl ⟨by rfl, fun w' h' => ?_⟩) hS ?_
  · go_simp
  try simp only [Act.put, List.setIfInBounds_toArray, List.set_cons_zero, List.set_cons_succ]
  refine tk 6 48 (.pointer (some ⟨xb, xo + k * 4 + 1 + 1, none⟩)) rfl rfl (by kernel_rfl) (by kernel_rfl) (by kernel_rfl) (fun _ _ _ h => h) (Or.inl ⟨by rfl, fun w' h' => ?_⟩) hS ?_
  · go_simp
  try simp only [Act.put, List.setIfInBounds_toArray, List.set_cons_zero, List.set_cons_succ]
  refine tk 7 49 (.int .i64 y.x.sz) rfl rfl (by kernel_rfl) (by kernel_rfl) (by kernel_rfl) (fun _ _ _ h => h) (Or.inl ⟨by rfl, fun w' h' => ?_⟩) hS ?_
  · have c2 : w'.cell? ⟨xb, xo + k * 4 + 1 + 1, none⟩ = some (.int .i64 y.x.sz) := Ac.r2 h'
    go_simp
  try simp only [Act.put, List.setIfInBounds_toArray, List.set_cons_zero, List.set_cons_succ]
  refine tk 9 51 (.slice (some ⟨xb, xo, none⟩) n c) rfl rfl (by kernel_rfl) (by kernel_rfl) (by kernel_rfl) (fun _ _ _ h => h) (Or.inl ⟨by rfl, fun w' h' => ?_⟩) hS ?_
  · go_simp
  try simp only [Act.put, List.setIfInBounds_toArray, List.set_cons_zero, List.set_cons_succ]
  refine tk 10 52 (.int .i64 (k : Int)) rfl rfl (by kernel_rfl) (by kernel_rfl) (by kernel_rfl) (fun _ _ _ h => h) (Or.inl ⟨by rfl, fun w' h' => ?_⟩) hS ?_
  · go_simp
  try simp only [Act.put, List.setIfInBounds_toArray, List.set_cons_zero, List.set_cons_succ]
  refine tk 11 53 (.pointer (some ⟨xb, xo + k * 4, none⟩)) rfl rfl (by kernel_rfl) (by kernel_rfl) (by kernel_rfl) (fun _ _ _ h => h) (Or.inl ⟨by rfl, fun w' h' => ?_⟩) hS ?_
  · go_simp
  try simp only [Act.put, List.setIfInBounds_toArray, List.set_cons_zero, List.set_cons_succ]
  refine tk 12 54 (.pointer (some ⟨xb, xo + k * 4 + 1, none⟩)) rfl rfl (by kernel_rfl) (by kernel_rfl) (by kernel_rfl) (fun _ _ _ h => h) (Or.inl ⟨by rfl, fun w' h' => ?_⟩) hS ?_
  · go_simp
  try simp only [Act.put, List.setIfInBounds_toArray, List.set_cons_zero, List.set_cons_succ]
  refine tk 13 55 (.pointer (some ⟨xb, xo + k * 4 + 1 + 2, none⟩)) rfl rfl (by kernel_rfl) (by kernel_rfl) (by kernel_rfl) (fun _ _ _ h => h) (Or.inl ⟨by rfl, fun w' h' => ?_⟩) hS ?_
  · go_simp
  try simp only [Act.put, List.setIfInBounds_toArray, List.set_cons_zero, List.set_cons_succ]
  refine tk 14 56 (.slice y.x.a y.x.n y.x.c) rfl rfl (by kernel_rfl) (by kernel_rfl) (by kernel_rfl) (fun _ _ _ h => h) (Or.inl ⟨by rfl, fun w' h' => ?_⟩) hS ?_
  · have c3 : w'.cell? ⟨xb, xo + k * 4 + 1 + 2, none⟩ = some (.slice y.x.a y.x.n y.x.c) := Ac.r3 h'
    go_simp
  try simp only [Act.put, List.setIfInBounds_toArray, List.set_cons_zero, List.set_cons_succ]
  refine wpAnyH_ready (rs := [8, 16]) (by kernel_rfl) (by simp) (AllReadyH.cons rfl (fun K hK => ?_) (AllReadyH.cons rfl (fun K hK => ?_) AllReadyH.nil))
  · rw [if_pos (by rfl)]
    go_wp2_with fail
    refine (kPick_any y.x.sz 101 _ (by decide) (by decide)).mono ?_
    rintro e v1 ⟨rfl, hv1⟩
    subst hv1
    clear hS
    refine hK.out _ _ (HS.out) (fun hS => ?_)
    clear hK K
    try simp only [Act.put, List.setIfInBounds_toArray, List.set_cons_zero, List.set_cons_succ]
    refine tk 15 57 (.agg #[.int .u64 (k : Int), .int .i64 (y.x.sz % 101), .slice y.x.a y.x.n y.x.c]) rfl rfl (by kernel_rfl) (by kernel_rfl) (by kernel_rfl) (fun _ _ _ h => h) (Or.inl ⟨by rfl, fun w' h' => ?_⟩) hS ?_
    · go_simp
    try simp only [Act.put, List.setIfInBounds_toArray, List.set_cons_zero, List.set_cons_succ]
    refine wpAnyH_ready (rs := [16]) (by kernel_rfl) (by simp) (AllReadyH.cons rfl (fun K hK => ?_) AllReadyH.nil)
    rw [if_pos (by rfl)]
    have H2 : Hid (World.rangeAt (wr.drew.alloc (.cells #[.int .u64 0, .int .i64 0, .slice none 0 0] 37)) xb (xo + k * 4) y.cs ∧ (wr.drew.alloc (.cells #[.int .u64 0, .int .i64 0, .slice none 0 0] 37)).heap[wr.heap.size]? = some (.cells #[.int .u64 0, .int .i64 0, .slice none 0 0] 37 (0, 0)) ∧ Below wr.heap.size wr (wr.drew.alloc (.cells #[.int .u64 0, .int .i64 0, .slice none 0 0] 37))) :=
      ⟨World.rangeAt_alloc HS.out _, Blk_new wr.drew _ _, (Below.refl _ _).drew.alloc (Nat.le_refl _) _⟩
    go_wp2_with fail
    obtain ⟨w1, hw1⟩ : ∃ z, wr.drew.alloc (.cells #[.int .u64 0, .int .i64 0, .slice none 0 0] 37) = z := ⟨_, rfl⟩
    first | rw [hw1] | (change K _ (wr.drew.alloc (.cells #[.int .u64 0, .int .i64 0, .slice none 0 0] 37)); rw [hw1])
    rw [hw1] at H2
    obtain ⟨p, hp⟩ : ∃ z, wr.heap.size = z := ⟨_, rfl⟩
    rw [hp] at H2
    first | rw [hp] | skip
    clear hw1
    clear hS
    refine hK.out _ _ (H2.out.1) (fun hS => ?_)
    clear hK K
    try simp only [Act.put, List.setIfInBounds_toArray, List.set_cons_zero, List.set_cons_succ]
    refine wpAnyH_ready (rs := [17]) (by kernel_rfl) (by simp) (AllReadyH.cons rfl (fun K hK => ?_) AllReadyH.nil)
    rw [if_pos (by rfl)]
    refine wp_store_mid 37 (.tmp 12) (.tmp 57) rfl p 0 (Pi.cs ⟨k, y.x.sz % 101, y.x.a, y.x.n, y.x.c, y.x.d⟩).toArray rfl rfl (row_there H2.out.2.1 (by simp [Pi.cs])) infI3 (all_oneCell_toArray (Pi.one _)) ?_
    change K _ (w1.setCells p 0 [.int .u64 (k : Int), .int .i64 (y.x.sz % 101), .slice y.x.a y.x.n y.x.c])
    have hr3 := row3_set H2.out.2.1 (.int .u64 (k : Int)) (.int .i64 (y.x.sz % 101)) (.slice y.x.a y.x.n y.x.c)
    have hk3 : Kept (fun i => i = p) w1 (w1.setCells p 0 [.int .u64 (k : Int), .int .i64 (y.x.sz % 101), .slice y.x.a y.x.n y.x.c]) := Kept.setCells (S := fun i => i = p) p rfl _ _ (Kept.refl _ _)
    obtain ⟨w2, hw2⟩ : ∃ z, w1.setCells p 0 [.int .u64 (k : Int), .int .i64 (y.x.sz % 101), .slice y.x.a y.x.n y.x.c] = z := ⟨_, rfl⟩
    rw [hw2] at hk3 hr3 ⊢
    have hbl : Below wr.heap.size wr w2 := by
      rw [hp]
      exact H2.out.2.2.trans (hk3.below (B := p) (by have := H2.out.2.2.size; omega) (fun i e => by omega))
    have H3 : Hid (Ow w w2 g q I S D ia m ic ∧ w2.heap[p]? = some (.cells (Pi.cs ⟨k, y.x.sz % 101, y.x.a, y.x.n, y.x.c, y.x.d⟩).toArray 37 (0, 0)) ∧ wr.heap.size ≤ p ∧ Below wr.heap.size wr w2 ∧ World.rangeAt w2 xb (xo + k * 4) y.cs) := ⟨HW.out.past hbl, hr3, by omega, hbl, range_keep hk3 (by have := World.block_lt_of_cell? wr _ (Ac.r0 HX.out); simp at this; omega) H2.out.1⟩
    clear hr3 hk3 hbl hw2
    clear hS
    refine hK.out _ _ (H3.out.2.2.2.2) (fun hS => ?_)
    clear hK K
    refine wpAnyH_done (by kernel_rfl) ?_ _
    go_wp2_with fail
    refine Met.intro (hJ0 _ _ ?_)
    exact ⟨p, ⟨rfl, rfl⟩, rfl, rfl, rfl, rfl, rfl, rfl, rfl, rfl, H3.out.1, H3.out.2.1, H3.out.2.2.1, H3.out.2.2.2.1⟩
  · rw [if_pos (by rfl)]
    have H2 : Hid (World.rangeAt (wr.drew.alloc (.cells #[.int .u64 0, .int .i64 0, .slice none 0 0] 37)) xb (xo + k * 4) y.cs ∧ (wr.drew.alloc (.cells #[.int .u64 0, .int .i64 0, .slice none 0 0] 37)).heap[wr.heap.size]? = some (.cells #[.int .u64 0, .int .i64 0, .slice none 0 0] 37 (0, 0)) ∧ Below wr.heap.size wr (wr.drew.alloc (.cells #[.int .u64 0, .int .i64 0, .slice none 0 0] 37))) :=
      ⟨World.rangeAt_alloc HS.out _, Blk_new wr.drew _ _, (Below.refl _ _).drew.alloc (Nat.le_refl _) _⟩
    go_wp2_with fail
    obtain ⟨w1, hw1⟩ : ∃ z, wr.drew.alloc (.cells #[.int .u64 0, .int .i64 0, .slice none 0 0] 37) = z := ⟨_, rfl⟩
    first | rw [hw1] | (change K _ (wr.drew.alloc (.cells #[.int .u64 0, .int .i64 0, .slice none 0 0] 37)); rw [hw1])
    rw [hw1] at H2
    obtain ⟨p, hp⟩ : ∃ z, wr.heap.size = z := ⟨_, rfl⟩
    rw [hp] at H2
    first | rw [hp] | skip
    clear hw1
    clear hS
    refine hK.out _ _ (H2.out.1) (fun hS => ?_)
    clear hK K
    try simp only [Act.put, List.setIfInBounds_toArray, List.set_cons_zero, List.set_cons_succ]
    refine wpAnyH_ready (rs := [8]) (by kernel_rfl) (by simp) (AllReadyH.cons rfl (fun K hK => ?_) AllReadyH.nil)
    rw [if_pos (by rfl)]
    go_wp2_with fail
    refine (kPick_any y.x.sz 101 _ (by decide) (by decide)).mono ?_
    rintro e v1 ⟨rfl, hv1⟩
    subst hv1
    clear hS
    refine hK.out _ _ (H2.out.1) (fun hS => ?_)
    clear hK K
    try simp only [Act.put, List.setIfInBounds_toArray, List.set_cons_zero, List.set_cons_succ]
    refine tk 15 57 (.agg #[.int .u64 (k : Int), .int .i64 (y.x.sz % 101), .slice y.x.a y.x.n y.x.c]) rfl rfl (by kernel_rfl) (by kernel_rfl) (by kernel_rfl) (fun _ _ _ h => h) (Or.inl ⟨by rfl, fun w' h' => ?_⟩) hS ?_
    · go_simp
    try simp only [Act.put, List.setIfInBounds_toArray, List.set_cons_zero, List.set_cons_succ]
    refine wpAnyH_ready (rs := [17]) (by kernel_rfl) (by simp) (AllReadyH.cons rfl (fun K hK => ?_) AllReadyH.nil)
    rw [if_pos (by rfl)]
    refine wp_store_mid 37 (.tmp 12) (.tmp 57) rfl p 0 (Pi.cs ⟨k, y.x.sz % 101, y.x.a, y.x.n, y.x.c, y.x.d⟩).toArray rfl rfl (row_there H2.out.2.1 (by simp [Pi.cs])) infI3 (all_oneCell_toArray (Pi.one _)) ?_
    change K _ (w1.setCells p 0 [.int .u64 (k : Int), .int .i64 (y.x.sz % 101), .slice y.x.a y.x.n y.x.c])
    have hr3 := row3_set H2.out.2.1 (.int .u64 (k : Int)) (.int .i64 (y.x.sz % 101)) (.slice y.x.a y.x.n y.x.c)
    have hk3 : Kept (fun i => i = p) w1 (w1.setCells p 0 [.int .u64 (k : Int), .int .i64 (y.x.sz % 101), .slice y.x.a y.x.n y.x.c]) := Kept.setCells (S := fun i => i = p) p rfl _ _ (Kept.refl _ _)
    obtain ⟨w2, hw2⟩ : ∃ z, w1.setCells p 0 [.int .u64 (k : Int), .int .i64 (y.x.sz % 101), .slice y.x.a y.x.n y.x.c] = z := ⟨_, rfl⟩
    rw [hw2] at hk3 hr3 ⊢
    have hbl : Below wr.heap.size wr w2 := by
      rw [hp]
      exact H2.out.2.2.trans (hk3.below (B := p) (by have := H2.out.2.2.size; omega) (fun i e => by omega))
    have H3 : Hid (Ow w w2 g q I S D ia m ic ∧ w2.heap[p]? = some (.cells (Pi.cs ⟨k, y.x.sz % 101, y.x.a, y.x.n, y.x.c, y.x.d⟩).toArray 37 (0, 0)) ∧ wr.heap.size ≤ p ∧ Below wr.heap.size wr w2 ∧ World.rangeAt w2 xb (xo + k * 4) y.cs) := ⟨HW.out.past hbl, hr3, by omega, hbl, range_keep hk3 (by have := World.block_lt_of_cell? wr _ (Ac.r0 HX.out); simp at this; omega) H2.out.1⟩
    clear hr3 hk3 hbl hw2
    clear hS
    refine hK.out _ _ (H3.out.2.2.2.2) (fun hS => ?_)
    clear hK K
    refine wpAnyH_done (by kernel_rfl) ?_ _
    go_wp2_with fail
    refine Met.intro (hJ0 _ _ ?_)
    exact ⟨p, ⟨rfl, rfl⟩, rfl, rfl, rfl, rfl, rfl, rfl, rfl, rfl, H3.out.1, H3.out.2.1, H3.out.2.2.1, H3.out.2.2.2.1⟩

set_option maxRecDepth 100000 in
set_option maxHeartbeats 4000000 in
theorem o14 (wr : World) (I S D : Int) (n c g : Nat) (ia : Option Addr) (m ic k xb xo p : Nat) (y : Ac) (HX : Hid (World.rangeAt wr xb (xo + k * 4) y.cs)) (hlt : k < n) (a : Act) (hf : Fr 177 a) (h0 : sl a 0 = .int .i64 I) (h1 : sl a 1 = .int .i64 S) (h2 : sl a 2 = .slice (some ⟨xb, xo, none⟩) n c) (h7 : sl a 7 = .pointer (some ⟨g, 0, none⟩)) (h9 : sl a 9 = .slice ia m ic) (h10 : sl a 10 = .int .u64 D) (h11 : sl a 11 = .int .i64 (k : Int)) (h12 : sl a 12 = .pointer (some ⟨p, 0, none⟩)) :
    Code.wp Try.prog (cAt [1,1,1,1,1,1,1,1,0,1,2,2,1,0,2,1,0,0] KO) (Exit.then (fun a' w' => Fr 177 a' ∧ sl a' 0 = .int .i64 I ∧ sl a' 1 = .int .i64 S ∧ sl a' 2 = .slice (some ⟨xb, xo, none⟩) n c ∧ sl a' 7 = .pointer (some ⟨g, 0, none⟩) ∧ sl a' 9 = .slice ia m ic ∧ sl a' 10 = .int .u64 D ∧ sl a' 11 = .int .i64 (k : Int) ∧ sl a' 12 = .pointer (some ⟨p, 0, none⟩) ∧ sl a' 63 = .int .i64 (y.d % 8) ∧ wr = w') Nope) a wr := by
  obtain ⟨f, ha, hs⟩ := fr177 hf
  have e0 := (hs 0).trans h0
  have e1 := (hs 1).trans h1
  have e2 := (hs 2).trans h2
  have e7 := (hs 7).trans h7
  have e9 := (hs 9).trans h9
  have e10 := (hs 10).trans h10
  have e11 := (hs 11).trans h11
  have e12 := (hs 12).trans h12
  rw [e0, e1, e2, e7, e9, e10, e11, e12] at ha
  clear hs hf e0 h0 e1 h1 e2 h2 e7 h7 e9 h9 e10 h10 e11 h11 e12 h12
  subst ha
  refine piece2 fun J0 K0 hJ0 hK0 => ?_
  conv => arg 2; whnf
  have hlt2 : (k : Int) < (n : Int) := by omega
  have d0 := Ac.r0 HX.out
  go_wp2_with fail
  refine (kPick_any y.d 8 _ (by decide) (by decide)).mono ?_
  rintro e v1 ⟨rfl, hv1⟩
  subst hv1
  go_wp2_with fail
  refine Met.intro (hJ0 _ _ ?_)
  exact ⟨⟨rfl, rfl⟩, rfl, rfl, rfl, rfl, rfl, rfl, rfl, rfl, rfl, rfl⟩

set_option maxRecDepth 100000 in
set_option maxHeartbeats 4000000 in
theorem o22_4 (wr : World) (I S D : Int) (n c g : Nat) (ia : Option Addr) (m ic k xb xo p : Nat) (a : Act) (hf : Fr 177 a) (h0 : sl a 0 = .int .i64 I) (h1 : sl a 1 = .int .i64 S) (h2 : sl a 2 = .slice (some ⟨xb, xo, none⟩) n c) (h7 : sl a 7 = .pointer (some ⟨g, 0, none⟩)) (h9 : sl a 9 = .slice ia m ic) (h10 : sl a 10 = .int .u64 D) (h11 : sl a 11 = .int .i64 (k : Int)) (h12 : sl a 12 = .pointer (some ⟨p, 0, none⟩)) (h63 : sl a 63 = .int .i64 4) :
    Code.wp Try.prog (cAt [1,1,1,1,1,1,1,1,0,1,2,2,1,0,2,1,0,1,2,0] KO) (Exit.then (fun a' w' => Fr 177 a' ∧ sl a' 0 = .int .i64 I ∧ sl a' 1 = .int .i64 S ∧ sl a' 2 = .slice (some ⟨xb, xo, none⟩) n c ∧ sl a' 7 = .pointer (some ⟨g, 0, none⟩) ∧ sl a' 9 = .slice ia m ic ∧ sl a' 10 = .int .u64 D ∧ sl a' 11 = .int .i64 (k : Int) ∧ sl a' 12 = .pointer (some ⟨p, 0, none⟩) ∧ sl a' 91 = .bool true ∧ wr = w') Nope) a wr := by
  obtain ⟨f, ha, hs⟩ := fr177 hf
  have e0 := (hs 0).trans h0
  have e1 := (hs 1).trans h1
  have e2 := (hs 2).trans h2
  have e7 := (hs 7).trans h7
  have e9 := (hs 9).trans h9
  have e10 := (hs 10).trans h10
  have e11 := (hs 11).trans h11
  have e12 := (hs 12).trans h12
  have e63 := (hs 63).trans h63
  rw [e0, e1, e2, e7, e9, e10, e11, e12, e63] at ha
  clear hs hf e0 h0 e1 h1 e2 h2 e7 h7 e9 h9 e10 h10 e11 h11 e12 h12 e63 h63
  subst ha
  refine piece2 fun J0 K0 hJ0 hK0 => ?_
  conv => arg 2; whnf
  go_wp2_with fail
  refine Met.intro (hJ0 _ _ ?_)
  exact ⟨⟨rfl, rfl⟩, rfl, rfl, rfl, rfl, rfl, rfl, rfl, rfl, rfl, rfl⟩

set_option maxRecDepth 100000 in
set_option maxHeartbeats 4000000 in
theorem o22_5 (wr : World) (I S D : Int) (n c g : Nat) (ia : Option Addr) (m ic k xb xo p : Nat) (a : Act) (hf : Fr 177 a) (h0 : sl a 0 = .int .i64 I) (h1 : sl a 1 = .int .i64 S) (h2 : sl a 2 = .slice (some ⟨xb, xo, none⟩) n c) (h7 : sl a 7 = .pointer (some ⟨g, 0, none⟩)) (h9 : sl a 9 = .slice ia m ic) (h10 : sl a 10 = .int .u64 D) (h11 : sl a 11 = .int .i64 (k : Int)) (h12 : sl a 12 = .pointer (some ⟨p, 0, none⟩)) (h63 : sl a 63 = .int .i64 5) :
    Code.wp Try.prog (cAt [1,1,1,1,1,1,1,1,0,1,2,2,1,0,2,1,0,1,2,0] KO) (Exit.then (fun a' w' => Fr 177 a' ∧ sl a' 0 = .int .i64 I ∧ sl a' 1 = .int .i64 S ∧ sl a' 2 = .slice (some ⟨xb, xo, none⟩) n c ∧ sl a' 7 = .pointer (some ⟨g, 0, none⟩) ∧ sl a' 9 = .slice ia m ic ∧ sl a' 10 = .int .u64 D ∧ sl a' 11 = .int .i64 (k : Int) ∧ sl a' 12 = .pointer (some ⟨p, 0, none⟩) ∧ sl a' 91 = .bool true ∧ wr = w') Nope) a wr := by
  obtain ⟨f, ha, hs⟩ := fr177 hf
  have e0 := (hs 0).trans h0
  have e1 := (hs 1).trans h1
  have e2 := (hs 2).trans h2
  have e7 := (hs 7).trans h7
  have e9 := (hs 9).trans h9
  have e10 := (hs 10).trans h10
  have e11 := (hs 11).trans h11
  have e12 := (hs 12).trans h12
  have e63 := (hs 63).trans h63
  rw [e0, e1, e2, e7, e9, e10, e11, e12, e63] at ha
  clear hs hf e0 h0 e1 h1 e2 h2 e7 h7 e9 h9 e10 h10 e11 h11 e12 h12 e63 h63
  subst ha
  refine piece2 fun J0 K0 hJ0 hK0 => ?_
  conv => arg 2; whnf
  go_wp2_with fail
  refine Met.intro (hJ0 _ _ ?_)
  exact ⟨⟨rfl, rfl⟩, rfl, rfl, rfl, rfl, rfl, rfl, rfl, rfl, rfl, rfl⟩

set_option maxRecDepth 100000 in
set_option maxHeartbeats 4000000 in
theorem o22_6 (wr : World) (I S D : Int) (n c g : Nat) (ia : Option Addr) (m ic k xb xo p : Nat) (a : Act) (hf : Fr 177 a) (h0 : sl a 0 = .int .i64 I) (h1 : sl a 1 = .int .i64 S) (h2 : sl a 2 = .slice (some ⟨xb, xo, none⟩) n c) (h7 : sl a 7 = .pointer (some ⟨g, 0, none⟩)) (h9 : sl a 9 = .slice ia m ic) (h10 : sl a 10 = .int .u64 D) (h11 : sl a 11 = .int .i64 (k : Int)) (h12 : sl a 12 = .pointer (some ⟨p, 0, none⟩)) (h63 : sl a 63 = .int .i64 6) :
    Code.wp Try.prog (cAt [1,1,1,1,1,1,1,1,0,1,2,2,1,0,2,1,0,1,2,0] KO) (Exit.then (fun a' w' => Fr 177 a' ∧ sl a' 0 = .int .i64 I ∧ sl a' 1 = .int .i64 S ∧ sl a' 2 = .slice (some ⟨xb, xo, none⟩) n c ∧ sl a' 7 = .pointer (some ⟨g, 0, none⟩) ∧ sl a' 9 = .slice ia m ic ∧ sl a' 10 = .int .u64 D ∧ sl a' 11 = .int .i64 (k : Int) ∧ sl a' 12 = .pointer (some ⟨p, 0, none⟩) ∧ sl a' 91 = .bool true ∧ wr = w') Nope) a wr := by
  obtain ⟨f, ha, hs⟩ := fr177 hf
  have e0 := (hs 0).trans h0
  have e1 := (hs 1).trans h1
  have e2 := (hs 2).trans h2
  have e7 := (hs 7).trans h7
  have e9 := (hs 9).trans h9
  have e10 := (hs 10).trans h10
  have e11 := (hs 11).trans h11
  have e12 := (hs 12).trans h12
  have e63 := (hs 63).trans h63
  rw [e0, e1, e2, e7, e9, e10, e11, e12, e63] at ha
  clear hs hf e0 h0 e1 h1 e2 h2 e7 h7 e9 h9 e10 h10 e11 h11 e12 h12 e63 h63
  subst ha
  refine piece2 fun J0 K0 hJ0 hK0 => ?_
  conv => arg 2; whnf
  go_wp2_with fail
  refine Met.intro (hJ0 _ _ ?_)
  exact ⟨⟨rfl, rfl⟩, rfl, rfl, rfl, rfl, rfl, rfl, rfl, rfl, rfl, rfl⟩

set_option maxRecDepth 100000 in
set_option maxHeartbeats 4000000 in
theorem o22n (wr : World) (I S D : Int) (n c g : Nat) (ia : Option Addr) (m ic k xb xo p : Nat) (v : Int) (h4 : v ≠ 4) (h5 : v ≠ 5) (h6 : v ≠ 6) (a : Act) (hf : Fr 177 a) (h0 : sl a 0 = .int .i64 I) (h1 : sl a 1 = .int .i64 S) (h2 : sl a 2 = .slice (some ⟨xb, xo, none⟩) n c) (h7 : sl a 7 = .pointer (some ⟨g, 0, none⟩)) (h9 : sl a 9 = .slice ia m ic) (h10 : sl a 10 = .int .u64 D) (h11 : sl a 11 = .int .i64 (k : Int)) (h12 : sl a 12 = .pointer (some ⟨p, 0, none⟩)) (h63 : sl a 63 = .int .i64 v) :
    Code.wp Try.prog (cAt [1,1,1,1,1,1,1,1,0,1,2,2,1,0,2,1,0,1,2,0] KO) (Exit.then (fun a' w' => Fr 177 a' ∧ sl a' 0 = .int .i64 I ∧ sl a' 1 = .int .i64 S ∧ sl a' 2 = .slice (some ⟨xb, xo, none⟩) n c ∧ sl a' 7 = .pointer (some ⟨g, 0, none⟩) ∧ sl a' 9 = .slice ia m ic ∧ sl a' 10 = .int .u64 D ∧ sl a' 11 = .int .i64 (k : Int) ∧ sl a' 12 = .pointer (some ⟨p, 0, none⟩) ∧ sl a' 63 = .int .i64 v ∧ sl a' 91 = .bool false ∧ wr = w') Nope) a wr := by
  obtain ⟨f, ha, hs⟩ := fr177 hf
  have e0 := (hs 0).trans h0
  have e1 := (hs 1).trans h1
  have e2 := (hs 2).trans h2
  have e7 := (hs 7).trans h7
  have e9 := (hs 9).trans h9
  have e10 := (hs 10).trans h10
  have e11 := (hs 11).trans h11
  have e12 := (hs 12).trans h12
  have e63 := (hs 63).trans h63
  rw [e0, e1, e2, e7, e9, e10, e11, e12, e63] at ha
  clear hs hf e0 h0 e1 h1 e2 h2 e7 h7 e9 h9 e10 h10 e11 h11 e12 h12 e63 h63
  subst ha
  refine piece2 fun J0 K0 hJ0 hK0 => ?_
  conv => arg 2; whnf
  have e4 : (v == 4) = false := by simp [h4]
  have e5 : (v == 5) = false := by simp [h5]
  have e6 : (v == 6) = false := by simp [h6]
  go_wp2_with fail
  refine Met.intro (hJ0 _ _ ?_)
  exact ⟨⟨rfl, rfl⟩, rfl, rfl, rfl, rfl, rfl, rfl, rfl, rfl, rfl, rfl, rfl⟩

set_option maxRecDepth 100000 in
set_option maxHeartbeats 4000000 in
theorem o30t (wr : World) (I S D : Int) (n c g : Nat) (ia : Option Addr) (m ic k xb xo p : Nat) (a : Act) (hf : Fr 177 a) (h0 : sl a 0 = .int .i64 I) (h1 : sl a 1 = .int .i64 S) (h2 : sl a 2 = .slice (some ⟨xb, xo, none⟩) n c) (h7 : sl a 7 = .pointer (some ⟨g, 0, none⟩)) (h9 : sl a 9 = .slice ia m ic) (h10 : sl a 10 = .int .u64 D) (h11 : sl a 11 = .int .i64 (k : Int)) (h12 : sl a 12 = .pointer (some ⟨p, 0, none⟩)) (h63 : sl a 63 = .int .i64 7) :
    Code.wp Try.prog (cAt [1,1,1,1,1,1,1,1,0,1,2,2,1,0,2,1,0,1,2,1,4,0] KO) (Exit.then (fun a' w' => Fr 177 a' ∧ sl a' 0 = .int .i64 I ∧ sl a' 1 = .int .i64 S ∧ sl a' 2 = .slice (some ⟨xb, xo, none⟩) n c ∧ sl a' 7 = .pointer (some ⟨g, 0, none⟩) ∧ sl a' 9 = .slice ia m ic ∧ sl a' 10 = .int .u64 D ∧ sl a' 11 = .int .i64 (k : Int) ∧ sl a' 12 = .pointer (some ⟨p, 0, none⟩) ∧ sl a' 119 = .bool true ∧ wr = w') Nope) a wr := by
  obtain ⟨f, ha, hs⟩ := fr177 hf
  have e0 := (hs 0).trans h0
  have e1 := (hs 1).trans h1
  have e2 := (hs 2).trans h2
  have e7 := (hs 7).trans h7
  have e9 := (hs 9).trans h9
  have e10 := (hs 10).trans h10
  have e11 := (hs 11).trans h11
  have e12 := (hs 12).trans h12
  have e63 := (hs 63).trans h63
  rw [e0, e1, e2, e7, e9, e10, e11, e12, e63] at ha
  clear hs hf e0 h0 e1 h1 e2 h2 e7 h7 e9 h9 e10 h10 e11 h11 e12 h12 e63 h63
  subst ha
  refine piece2 fun J0 K0 hJ0 hK0 => ?_
  conv => arg 2; whnf
  go_wp2_with fail
  refine Met.intro (hJ0 _ _ ?_)
  exact ⟨⟨rfl, rfl⟩, rfl, rfl, rfl, rfl, rfl, rfl, rfl, rfl, rfl, rfl⟩

set_option maxRecDepth 100000 in
set_option maxHeartbeats 4000000 in
theorem o30f (wr : World) (I S D : Int) (n c g : Nat) (ia : Option Addr) (m ic k xb xo p : Nat) (v : Int) (h7 : v ≠ 7) (a : Act) (hf : Fr 177 a) (h0 : sl a 0 = .int .i64 I) (h1 : sl a 1 = .int .i64 S) (h2 : sl a 2 = .slice (some ⟨xb, xo, none⟩) n c) (h7 : sl a 7 = .pointer (some ⟨g, 0, none⟩)) (h9 : sl a 9 = .slice ia m ic) (h10 : sl a 10 = .int .u64 D) (h11 : sl a 11 = .int .i64 (k : Int)) (h12 : sl a 12 = .pointer (some ⟨p, 0, none⟩)) (h63 : sl a 63 = .int .i64 v) :
    Code.wp Try.prog (cAt [1,1,1,1,1,1,1,1,0,1,2,2,1,0,2,1,0,1,2,1,4,0] KO) (Exit.then (fun a' w' => Fr 177 a' ∧ sl a' 0 = .int .i64 I ∧ sl a' 1 = .int .i64 S ∧ sl a' 2 = .slice (some ⟨xb, xo, none⟩) n c ∧ sl a' 7 = .pointer (some ⟨g, 0, none⟩) ∧ sl a' 9 = .slice ia m ic ∧ sl a' 10 = .int .u64 D ∧ sl a' 11 = .int .i64 (k : Int) ∧ sl a' 12 = .pointer (some ⟨p, 0, none⟩) ∧ sl a' 119 = .bool false ∧ wr = w') Nope) a wr := by
  obtain ⟨f, ha, hs⟩ := fr177 hf
  have e0 := (hs 0).trans h0
  have e1 := (hs 1).trans h1
  have e2 := (hs 2).trans h2
  have e7 := (hs 7).trans h7
  have e9 := (hs 9).trans h9
  have e10 := (hs 10).trans h10
  have e11 := (hs 11).trans h11
  have e12 := (hs 12).trans h12
  have e63 := (hs 63).trans h63
  rw [e0, e1, e2, e7, e9, e10, e11, e12, e63] at ha
  clear hs hf e0 h0 e1 h1 e2 h2 e7 h7 e9 h9 e10 h10 e11 h11 e12 h12 e63 h63
  subst ha
  refine piece2 fun J0 K0 hJ0 hK0 => ?_
  conv => arg 2; whnf
  have e7 : (v == 7) = false := by simp [h7]
  go_wp2_with fail
  refine Met.intro (hJ0 _ _ ?_)
  exact ⟨⟨rfl, rfl⟩, rfl, rfl, rfl, rfl, rfl, rfl, rfl, rfl, rfl, rfl⟩

set_option maxRecDepth 100000 in
set_option maxHeartbeats 4000000 in
theorem o25e (w wr : World) (I S D : Int) (n c g : Nat) (q : Qs) (ia : Option Addr) (m ic k xb xo : Nat) (HW : Hid (Ow w wr g q I S D ia m ic)) (HL : Hid (q.L = [])) (a : Act) (hf : Fr 177 a) (h0 : sl a 0 = .int .i64 I) (h1 : sl a 1 = .int .i64 S) (h2 : sl a 2 = .slice (some ⟨xb, xo, none⟩) n c) (h7 : sl a 7 = .pointer (some ⟨g, 0, none⟩)) (h9 : sl a 9 = .slice ia m ic) (h10 : sl a 10 = .int .u64 D) (h11 : sl a 11 = .int .i64 (k : Int)) :
    Code.wp Try.prog (cAt [1,1,1,1,1,1,1,1,0,1,2,2,1,0,2,1,0,1,2,1,3] KO) (Exit.then (fun a' w' => Fr 177 a' ∧ sl a' 0 = .int .i64 I ∧ sl a' 1 = .int .i64 S ∧ sl a' 2 = .slice (some ⟨xb, xo, none⟩) n c ∧ sl a' 7 = .pointer (some ⟨g, 0, none⟩) ∧ sl a' 9 = .slice ia m ic ∧ sl a' 10 = .int .u64 D ∧ sl a' 11 = .int .i64 (k : Int) ∧ Ow w w' g q I S D ia m ic) Nope) a wr := by
  obtain ⟨f, ha, hs⟩ := fr177 hf
  have e0 := (hs 0).trans h0
  have e1 := (hs 1).trans h1
  have e2 := (hs 2).trans h2
  have e7 := (hs 7).trans h7
  have e9 := (hs 9).trans h9
  have e10 := (hs 10).trans h10
  have e11 := (hs 11).trans h11
  rw [e0, e1, e2, e7, e9, e10, e11] at ha
  clear hs hf e0 h0 e1 h1 e2 h2 e7 h7 e9 h9 e10 h10 e11 h11
  subst ha
  refine piece2 fun J0 K0 hJ0 hK0 => ?_
  conv => arg 2; whnf
  have hm : m = 0 := by rw [HW.out.len, HL.out]; rfl
  subst hm
  go_wp2_with fail
  refine (fPop_any w.heap.size g q wr HW.out.qu).mono ?_
  rintro e w1 (⟨_, rfl, hb1⟩ | ⟨x, l, y, q', hL2, _⟩)
  case inr => rw [HL.out] at hL2; cases hL2
  rw [show pz.v = .agg #[.int .u64 0, .int .i64 0, .slice none 0 0] from rfl]
  have H1 := Lib.hid (HW.out.past (hb1.alloc hb1.size (.cells #[.int .u64 0, .int .i64 0, .slice none 0 0] 37)))
  clear hb1
  go_wp2_with fail
  obtain ⟨w2, hw2⟩ : ∃ z, w1.alloc (.cells #[.int .u64 0, .int .i64 0, .slice none 0 0] 37) = z := ⟨_, rfl⟩
  rw [hw2] at H1 ⊢
  clear hw2
  go_quiet (fail)
  have H2 := Lib.hid (H1.out.past (show Below w2.heap.size w2 (w2.drewN nq) from ⟨rfl, rfl, rfl, Nat.le_refl _, fun _ _ => rfl⟩))
  go_wp2_with fail
  refine Met.intro (hJ0 _ _ ?_)
  exact ⟨⟨rfl, rfl⟩, rfl, rfl, rfl, rfl, rfl, rfl, rfl, H2.out⟩

set_option maxRecDepth 100000 in
set_option maxHeartbeats 4000000 in
theorem o25x (w wr : World) (I S D : Int) (n c g : Nat) (q : Qs) (ia : Option Addr) (m ic k xb xo : Nat) (HW : Hid (Ow w wr g q I S D ia m ic)) (HL : Hid (q.L ≠ [])) (a : Act) (hf : Fr 177 a) (h0 : sl a 0 = .int .i64 I) (h1 : sl a 1 = .int .i64 S) (h2 : sl a 2 = .slice (some ⟨xb, xo, none⟩) n c) (h7 : sl a 7 = .pointer (some ⟨g, 0, none⟩)) (h9 : sl a 9 = .slice ia m ic) (h10 : sl a 10 = .int .u64 D) (h11 : sl a 11 = .int .i64 (k : Int)) :
    Code.wp Try.prog (cAt [1,1,1,1,1,1,1,1,0,1,2,2,1,0,2,1,0,1,2,1,3] KO) (Exit.then (fun a' w' => ∃ q' ia' m' ic', Fr 177 a' ∧ sl a' 0 = .int .i64 I ∧ sl a' 1 = .int .i64 S ∧ sl a' 2 = .slice (some ⟨xb, xo, none⟩) n c ∧ sl a' 7 = .pointer (some ⟨g, 0, none⟩) ∧ sl a' 9 = .slice ia' m' ic' ∧ sl a' 10 = .int .u64 D ∧ sl a' 11 = .int .i64 (k : Int) ∧ Ow w w' g q' I S D ia' m' ic') Nope) a wr := by
  obtain ⟨f, ha, hs⟩ := fr177 hf
  have e0 := (hs 0).trans h0
  have e1 := (hs 1).trans h1
  have e2 := (hs 2).trans h2
  have e7 := (hs 7).trans h7
  have e9 := (hs 9).trans h9
  have e10 := (hs 10).trans h10
  have e11 := (hs 11).trans h11
  rw [e0, e1, e2, e7, e9, e10, e11] at ha
  clear hs hf e0 h0 e1 h1 e2 h2 e7 h7 e9 h9 e10 h10 e11 h11
  subst ha
  refine piece2 fun J0 K0 hJ0 hK0 => ?_
  conv => arg 2; whnf
  go_wp2_with fail
  refine (fPop_any w.heap.size g q wr HW.out.qu).mono ?_
  rintro e w1 (⟨hL2, _⟩ | ⟨x, l, y, q', hL2, rfl, hty, hq, ha, hk, _⟩)
  case inl => exact absurd hL2 HL.out
  obtain ⟨hrow, hbl⟩ := HW.out.did hk
  have hno : q'.L.map Pi.no = l.map Pi.no := by
    rw [abs_no, ha]
    simp only [List.map_map]
    rfl
  have hD : q'.D = D := by
    have h1 := congrArg Aq.D ha
    rw [← HW.out.qD]
    exact h1
  have hI : q'.I = I := by
    have h1 := congrArg Aq.I ha
    rw [← HW.out.qI]
    exact h1
  have hS : q'.S = S := by
    have h1 := congrArg Aq.S ha
    rw [← HW.out.qS]
    exact h1
  rw [hL2, List.map_cons, ← hno, ← hty.no] at hrow
  obtain ⟨no, sz, ya, yn, yc, yd⟩ := y
  rw [show (Pi.v ⟨no, sz, ya, yn, yc, yd⟩) = .agg #[.int .u64 no, .int .i64 sz, .slice ya yn yc] from rfl]
  have hal : Below w1.heap.size w1 (w1.alloc (.cells #[.int .u64 no, .int .i64 sz, .slice ya yn yc] 37)) := (Below.refl _ _).alloc (Nat.le_refl _) _
  have H1 : Hid (Qu (w1.alloc (.cells #[.int .u64 no, .int .i64 sz, .slice ya yn yc] 37)) w.heap.size g q' ∧ Sg (w1.alloc (.cells #[.int .u64 no, .int .i64 sz, .slice ya yn yc] 37)) w.heap.size ia m ic (no :: q'.L.map Pi.no) ∧ Below w.heap.size w (w1.alloc (.cells #[.int .u64 no, .int .i64 sz, .slice ya yn yc] 37)) ∧ q'.I = I ∧ q'.S = S ∧ q'.D = D) :=
    ⟨hq.below hal, hrow.below hal, hbl.trans (hal.mono hbl.size), hI, hS, hD⟩
  have d0 : (w1.alloc (.cells #[.int .u64 no, .int .i64 sz, .slice ya yn yc] 37)).cell? ⟨w1.heap.size, 0, none⟩ = some (.int .u64 no) := by rw [cell_of_row _ _ 0 _ _ (0, 0) (Blk_new w1 _ _)]; rfl
  have hm0 : 0 < m := by have := hrow.len; simp at this; omega
  clear hL2 hty hq ha hk hrow hbl hno hD hI hS hal
  go_wp2_with fail
  obtain ⟨pb, hpb⟩ : ∃ z, w1.heap.size = z := ⟨_, rfl⟩
  obtain ⟨w2, hw2⟩ : ∃ z, w1.alloc (.cells #[.int .u64 no, .int .i64 sz, .slice ya yn yc] 37) = z := ⟨_, rfl⟩
  rw [hw2] at H1 d0
  rw [hpb] at d0
  rw [hw2, hpb]
  clear hw2 hpb
  obtain ⟨b, o, rfl, hc⟩ := H1.out.2.1.cell hm0
  have hc2 : w2.cell? ⟨b, o, none⟩ = some (.int .u64 no) := hc
  have hmi : (0 : Int) < (m : Int) := by omega
  have hsl : ∀ W : World, (Instr.sliceAt 55 (.slice (some ⟨b, o, none⟩) m ic) (some (.int .i64 1)) none none).run Try.prog W = .ok (.slice (if ic = 1 then some ⟨b, o, none⟩ else some ⟨b, o + 1, none⟩) (m - 1) (ic - 1)) W := fun W => run_tail_u64 W b o m ic hm0 H1.out.2.1.nc
  have HSG := Lib.hid H1.out.2.1.tail
  obtain ⟨ia2, hia⟩ : ∃ z : Option Addr, (if ic = 1 then some ⟨b, o, none⟩ else some ⟨b, o + 1, none⟩) = z := ⟨_, rfl⟩
  simp only [hia] at hsl
  rw [hia] at HSG
  clear hc hia
  go_quiet (fail)
  have hbd : Below w2.heap.size w2 (w2.drewN nq) := ⟨rfl, rfl, rfl, Nat.le_refl _, fun _ _ => rfl⟩
  have H2 : Hid (Ow w (w2.drewN nq) g q' I S D ia2 (m - 1) (ic - 1)) := ⟨H1.out.1.below hbd, HSG.out.below hbd, H1.out.2.2.1.trans (hbd.mono H1.out.2.2.1.size), H1.out.2.2.2.1, H1.out.2.2.2.2.1, H1.out.2.2.2.2.2⟩
  clear hbd d0 hc2
  go_wp2_with fail
  refine Met.intro (hJ0 _ _ ?_)
  exact ⟨q', ia2, m - 1, ic - 1, ⟨rfl, rfl⟩, rfl, rfl, rfl, rfl, rfl, rfl, rfl, H2.out⟩

set_option maxRecDepth 100000 in
set_option maxHeartbeats 4000000 in
theorem o31 (w wr : World) (I S D : Int) (n c g : Nat) (q : Qs) (ia : Option Addr) (m ic k xb xo : Nat) (HW : Hid (Ow w wr g q I S D ia m ic)) (a : Act) (hf : Fr 177 a) (h0 : sl a 0 = .int .i64 I) (h1 : sl a 1 = .int .i64 S) (h2 : sl a 2 = .slice (some ⟨xb, xo, none⟩) n c) (h7 : sl a 7 = .pointer (some ⟨g, 0, none⟩)) (h9 : sl a 9 = .slice ia m ic) (h10 : sl a 10 = .int .u64 D) (h11 : sl a 11 = .int .i64 (k : Int)) :
    Code.wp Try.prog (cAt [1,1,1,1,1,1,1,1,0,1,2,2,1,0,2,1,0,1,2,1,4,1,3] KO) (Exit.then (fun a' w' => ∃ q' ia' m' ic', Fr 177 a' ∧ sl a' 0 = .int .i64 I ∧ sl a' 1 = .int .i64 S ∧ sl a' 2 = .slice (some ⟨xb, xo, none⟩) n c ∧ sl a' 7 = .pointer (some ⟨g, 0, none⟩) ∧ sl a' 9 = .slice ia' m' ic' ∧ sl a' 10 = .int .u64 D ∧ sl a' 11 = .int .i64 (k : Int) ∧ Ow w w' g q' I S D ia' m' ic') Nope) a wr := by
  obtain ⟨f, ha, hs⟩ := fr177 hf
  have e0 := (hs 0).trans h0
  have e1 := (hs 1).trans h1
  have e2 := (hs 2).trans h2
  have e7 := (hs 7).trans h7
  have e9 := (hs 9).trans h9
  have e10 := (hs 10).trans h10
  have e11 := (hs 11).trans h11
  rw [e0, e1, e2, e7, e9, e10, e11] at ha
  clear hs hf e0 h0 e1 h1 e2 h2 e7 h7 e9 h9 e10 h10 e11 h11
  subst ha
  refine piece2 fun J0 K0 hJ0 hK0 => ?_
  conv => arg 2; whnf
  go_wp2_with fail
  refine (fClear_any w.heap.size g q wr HW.out.qu).mono ?_
  rintro e w1 ⟨rfl, q', hq, ha, hk, _⟩
  have hml : ((q.L.length : Nat) : Int) = (m : Int) := by rw [HW.out.len]
  obtain ⟨_, hbl⟩ := HW.out.did hk
  have hL : q'.L.map Pi.no = [] := by rw [abs_no, ha]; rfl
  have H1 : Hid (Ow w w1 g q' I S D none 0 0) := ⟨hq, by rw [hL]; exact Sg.nil _ _, hbl, by have h := congrArg Aq.I ha; rw [← HW.out.qI]; exact h, by have h := congrArg Aq.S ha; rw [← HW.out.qS]; exact h, by have h := congrArg Aq.D ha; rw [← HW.out.qD]; exact h⟩
  rw [hml]
  clear hq ha hk hml hbl hL
  go_wp2_with fail
  refine Met.intro (hJ0 _ _ ?_)
  exact ⟨q', none, 0, 0, ⟨rfl, rfl⟩, rfl, rfl, rfl, rfl, rfl, rfl, rfl, H1.out⟩

set_option maxRecDepth 100000 in
set_option maxHeartbeats 4000000 in
theorem o15t (w wr : World) (I S D : Int) (n c g : Nat) (q : Qs) (ia : Option Addr) (m ic k xb xo p : Nat) (s : Int) (xa : Option Addr) (xn xc : Nat) (xd : List Int) (HW : Hid (Ow w wr g q I S D ia m ic)) (HB : Hid (wr.heap[p]? = some (.cells (Pi.cs ⟨k, s, xa, xn, xc, xd⟩).toArray 37 (0, 0)))) (HAT : Hid (Pi.at_ ⟨k, s, xa, xn, xc, xd⟩ wr)) (HAP : Hid (xd ≠ [] → ∀ b, blk xa = some b → ¬ q.foot g b)) (s0 : 0 ≤ s) (s1 : s ≤ 100) (D0 : 0 ≤ D) (D1 : D ≤ 60) (hm : m ≤ 1000) (hrm : q.room s = true) (HPF : Hid (¬ q.foot g p)) (a : Act) (hf : Fr 177 a) (h0 : sl a 0 = .int .i64 I) (h1 : sl a 1 = .int .i64 S) (h2 : sl a 2 = .slice (some ⟨xb, xo, none⟩) n c) (h7 : sl a 7 = .pointer (some ⟨g, 0, none⟩)) (h9 : sl a 9 = .slice ia m ic) (h10 : sl a 10 = .int .u64 D) (h11 : sl a 11 = .int .i64 (k : Int)) (h12 : sl a 12 = .pointer (some ⟨p, 0, none⟩)) :
    Code.wp Try.prog (cAt [1,1,1,1,1,1,1,1,0,1,2,2,1,0,2,1,0,1,2,1,4,1,4] KO) (Exit.then (fun a' w' => ∃ q' ia' m' ic', Fr 177 a' ∧ sl a' 0 = .int .i64 I ∧ sl a' 1 = .int .i64 S ∧ sl a' 2 = .slice (some ⟨xb, xo, none⟩) n c ∧ sl a' 7 = .pointer (some ⟨g, 0, none⟩) ∧ sl a' 9 = .slice ia' m' ic' ∧ sl a' 10 = .int .u64 D ∧ sl a' 11 = .int .i64 (k : Int) ∧ Ow w w' g q' I S D ia' m' ic') Nope) a wr := by
  obtain ⟨f, ha, hs⟩ := fr177 hf
  have e0 := (hs 0).trans h0
  have e1 := (hs 1).trans h1
  have e2 := (hs 2).trans h2
  have e7 := (hs 7).trans h7
  have e9 := (hs 9).trans h9
  have e10 := (hs 10).trans h10
  have e11 := (hs 11).trans h11
  have e12 := (hs 12).trans h12
  rw [e0, e1, e2, e7, e9, e10, e11, e12] at ha
  clear hs hf e0 h0 e1 h1 e2 h2 e7 h7 e9 h9 e10 h10 e11 h11 e12 h12
  subst ha
  refine piece2 fun J0 K0 hJ0 hK0 => ?_
  conv => arg 2; whnf
  have c0 := Pi.k0 HB.out
  have c1 := Pi.k1 HB.out
  have c2 := Pi.k2 HB.out
  simp only at c0 c1 c2
  have HCODE : Hid (q.abs.code (Pi.it ⟨k, s, xa, xn, xc, xd⟩) = if q.room s = true then 0 else 110) := by
    show _ = _
    rw [← abs_room]
    show (if s < 0 then 2 else _) = _
    rw [if_neg (by omega)]
    rfl
  have HPUSH : Hid (q.abs.push (Pi.it ⟨k, s, xa, xn, xc, xd⟩) = if q.room s = true then { q.abs with l := q.abs.l ++ [Pi.it ⟨k, s, xa, xn, xc, xd⟩] } else { q.abs with D := q.abs.D + 1 }) := by
    show _ = _
    rw [← abs_room]
    show (if s < 0 then q.abs else _) = _
    rw [if_neg (by omega)]
    rfl
  go_wp2_with fail
  refine (fRoom_any w.heap.size g q s wr HW.out.qu).mono ?_
  rintro e w1 ⟨rfl, md, hmd⟩
  rw [hrm]
  have hbd : Below wr.heap.size wr w1 := by rw [hmd]; exact ⟨rfl, rfl, rfl, Nat.le_refl _, fun _ _ => rfl⟩
  have H1 : Hid (Ow w w1 g q I S D ia m ic ∧ w1.heap[p]? = some (.cells (Pi.cs ⟨k, s, xa, xn, xc, xd⟩).toArray 37 (0, 0)) ∧ Pi.at_ ⟨k, s, xa, xn, xc, xd⟩ w1) := ⟨HW.out.past hbd, (hbd.block _ (Array.getElem?_eq_some_iff.1 HB.out).1).trans HB.out, HAT.out.below hbd⟩
  clear hmd hbd c0 c1 c2
  have c0 := Pi.k0 H1.out.2.1
  have c1 := Pi.k1 H1.out.2.1
  have c2 := Pi.k2 H1.out.2.1
  simp only at c0 c1 c2
  go_wp2_with fail
  refine (fPush_any w.heap.size g q ⟨k, s, xa, xn, xc, xd⟩ w1 H1.out.1.qu H1.out.2.2 HAP.out H1.out.1.below.size (by show s ≤ _; omega) (by rw [H1.out.1.qD]; omega)).mono ?_
  rintro e w2 ⟨rfl, q', hq, ha, hk, _⟩
  rw [HCODE.out]
  rw [HPUSH.out] at ha
  have hI : q'.I = I := by
    have h1 := congrArg Aq.I ha
    rw [← H1.out.1.qI]
    rw [hrm] at h1
    exact h1
  have hS : q'.S = S := by
    have h1 := congrArg Aq.S ha
    rw [← H1.out.1.qS]
    rw [hrm] at h1
    exact h1
  obtain ⟨hrow, hbl⟩ := H1.out.1.did hk
  rw [hrm] at ha ⊢
  rw [if_pos rfl] at ha ⊢
  have hD : q'.D = D := by
    have h1 := congrArg Aq.D ha
    rw [← H1.out.1.qD]
    exact h1
  have hno : q'.L.map Pi.no = q.L.map Pi.no ++ [(k : Int)] := by
    rw [abs_no, ha, abs_no]
    simp [Pi.it]
  obtain ⟨ia', ic', w3, hrun, hsg, hk3⟩ := seg_append w2 w.heap.size hrow (k : Int) hbl.size (by omega)
  obtain ⟨hq3, hbl3⟩ := seg_put hq hbl hrow hk3
  rw [← hno] at hsg
  have H3 : Hid (Ow w w3 g q' I S D ia' (m + 1) ic') := ⟨hq3, hsg, hbl3, hI, hS, hD⟩
  have HRUN := Lib.hid hrun
  have hbx : w2.heap[p]? = some (.cells (Pi.cs ⟨k, s, xa, xn, xc, xd⟩).toArray 37 (0, 0)) := hk.heap H1.out.2.1 HPF.out
  have e0 := Pi.k0 hbx
  simp only at e0
  clear hq ha hk hI hS hrow hbl hD hno hrun hsg hk3 hq3 hbl3 hbx c0 c1 c2
  go_wp2_with (at_builtin; first | (refine Lib.wpList_append_run _ rfl (.tmp 84) (.tmp 87) _ _ rfl _ _ rfl rfl _ _ HRUN.out ?_) | fail)
  refine Met.intro (hJ0 _ _ ?_)
  exact ⟨q', ia', m + 1, ic', ⟨rfl, rfl⟩, rfl, rfl, rfl, rfl, rfl, rfl, rfl, H3.out⟩

set_option maxRecDepth 100000 in
set_option maxHeartbeats 4000000 in
theorem o15f (w wr : World) (I S D : Int) (n c g : Nat) (q : Qs) (ia : Option Addr) (m ic k xb xo p : Nat) (s : Int) (xa : Option Addr) (xn xc : Nat) (xd : List Int) (HW : Hid (Ow w wr g q I S D ia m ic)) (HB : Hid (wr.heap[p]? = some (.cells (Pi.cs ⟨k, s, xa, xn, xc, xd⟩).toArray 37 (0, 0)))) (HAT : Hid (Pi.at_ ⟨k, s, xa, xn, xc, xd⟩ wr)) (HAP : Hid (xd ≠ [] → ∀ b, blk xa = some b → ¬ q.foot g b)) (s0 : 0 ≤ s) (s1 : s ≤ 100) (D0 : 0 ≤ D) (D1 : D ≤ 60) (hrm : q.room s = false) (a : Act) (hf : Fr 177 a) (h0 : sl a 0 = .int .i64 I) (h1 : sl a 1 = .int .i64 S) (h2 : sl a 2 = .slice (some ⟨xb, xo, none⟩) n c) (h7 : sl a 7 = .pointer (some ⟨g, 0, none⟩)) (h9 : sl a 9 = .slice ia m ic) (h10 : sl a 10 = .int .u64 D) (h11 : sl a 11 = .int .i64 (k : Int)) (h12 : sl a 12 = .pointer (some ⟨p, 0, none⟩)) :
    Code.wp Try.prog (cAt [1,1,1,1,1,1,1,1,0,1,2,2,1,0,2,1,0,1,2,1,4,1,4] KO) (Exit.then (fun a' w' => ∃ q', Fr 177 a' ∧ sl a' 0 = .int .i64 I ∧ sl a' 1 = .int .i64 S ∧ sl a' 2 = .slice (some ⟨xb, xo, none⟩) n c ∧ sl a' 7 = .pointer (some ⟨g, 0, none⟩) ∧ sl a' 9 = .slice ia m ic ∧ sl a' 10 = .int .u64 (D + 1) ∧ sl a' 11 = .int .i64 (k : Int) ∧ Ow w w' g q' I S (D + 1) ia m ic) Nope) a wr := by
  obtain ⟨f, ha, hs⟩ := fr177 hf
  have e0 := (hs 0).trans h0
  have e1 := (hs 1).trans h1
  have e2 := (hs 2).trans h2
  have e7 := (hs 7).trans h7
  have e9 := (hs 9).trans h9
  have e10 := (hs 10).trans h10
  have e11 := (hs 11).trans h11
  have e12 := (hs 12).trans h12
  rw [e0, e1, e2, e7, e9, e10, e11, e12] at ha
  clear hs hf e0 h0 e1 h1 e2 h2 e7 h7 e9 h9 e10 h10 e11 h11 e12 h12
  subst ha
  refine piece2 fun J0 K0 hJ0 hK0 => ?_
  conv => arg 2; whnf
  have c0 := Pi.k0 HB.out
  have c1 := Pi.k1 HB.out
  have c2 := Pi.k2 HB.out
  simp only at c0 c1 c2
  have HCODE : Hid (q.abs.code (Pi.it ⟨k, s, xa, xn, xc, xd⟩) = if q.room s = true then 0 else 110) := by
    show _ = _
    rw [← abs_room]
    show (if s < 0 then 2 else _) = _
    rw [if_neg (by omega)]
    rfl
  have HPUSH : Hid (q.abs.push (Pi.it ⟨k, s, xa, xn, xc, xd⟩) = if q.room s = true then { q.abs with l := q.abs.l ++ [Pi.it ⟨k, s, xa, xn, xc, xd⟩] } else { q.abs with D := q.abs.D + 1 }) := by
    show _ = _
    rw [← abs_room]
    show (if s < 0 then q.abs else _) = _
    rw [if_neg (by omega)]
    rfl
  go_wp2_with fail
  refine (fRoom_any w.heap.size g q s wr HW.out.qu).mono ?_
  rintro e w1 ⟨rfl, md, hmd⟩
  rw [hrm]
  have hbd : Below wr.heap.size wr w1 := by rw [hmd]; exact ⟨rfl, rfl, rfl, Nat.le_refl _, fun _ _ => rfl⟩
  have H1 : Hid (Ow w w1 g q I S D ia m ic ∧ w1.heap[p]? = some (.cells (Pi.cs ⟨k, s, xa, xn, xc, xd⟩).toArray 37 (0, 0)) ∧ Pi.at_ ⟨k, s, xa, xn, xc, xd⟩ w1) := ⟨HW.out.past hbd, (hbd.block _ (Array.getElem?_eq_some_iff.1 HB.out).1).trans HB.out, HAT.out.below hbd⟩
  clear hmd hbd c0 c1 c2
  have c0 := Pi.k0 H1.out.2.1
  have c1 := Pi.k1 H1.out.2.1
  have c2 := Pi.k2 H1.out.2.1
  simp only at c0 c1 c2
  go_wp2_with fail
  refine (fPush_any w.heap.size g q ⟨k, s, xa, xn, xc, xd⟩ w1 H1.out.1.qu H1.out.2.2 HAP.out H1.out.1.below.size (by show s ≤ _; omega) (by rw [H1.out.1.qD]; omega)).mono ?_
  rintro e w2 ⟨rfl, q', hq, ha, hk, _⟩
  rw [HCODE.out]
  rw [HPUSH.out] at ha
  have hI : q'.I = I := by
    have h1 := congrArg Aq.I ha
    rw [← H1.out.1.qI]
    rw [hrm] at h1
    exact h1
  have hS : q'.S = S := by
    have h1 := congrArg Aq.S ha
    rw [← H1.out.1.qS]
    rw [hrm] at h1
    exact h1
  obtain ⟨hrow, hbl⟩ := H1.out.1.did hk
  rw [hrm] at ha ⊢
  rw [if_neg (by simp)] at ha ⊢
  have hD : q'.D = D + 1 := by
    have h1 := congrArg Aq.D ha
    rw [← H1.out.1.qD]
    exact h1
  have hno : q'.L.map Pi.no = q.L.map Pi.no := by
    rw [abs_no, ha, abs_no]
  rw [← hno] at hrow
  have H3 : Hid (Ow w w2 g q' I S (D + 1) ia m ic) := ⟨hq, hrow, hbl, hI, hS, hD⟩
  have e8 : IntKind.u64.wrap (D + 1) = D + 1 := by rw [IntKind.wrap_u64]; omega
  clear hq ha hk hI hS hrow hbl hD hno c0 c1 c2
  go_wp2_with fail
  refine Met.intro (hJ0 _ _ ?_)
  exact ⟨q', ⟨rfl, rfl⟩, rfl, rfl, rfl, rfl, rfl, rfl, rfl, H3.out⟩

set_option maxRecDepth 100000 in
set_option maxHeartbeats 4000000 in
theorem o34 (w wr : World) (I S D : Int) (n c g : Nat) (q : Qs) (ia : Option Addr) (m ic k xb xo : Nat) (HW : Hid (Ow w wr g q I S D ia m ic)) (a : Act) (hf : Fr 177 a) (h0 : sl a 0 = .int .i64 I) (h1 : sl a 1 = .int .i64 S) (h2 : sl a 2 = .slice (some ⟨xb, xo, none⟩) n c) (h7 : sl a 7 = .pointer (some ⟨g, 0, none⟩)) (h9 : sl a 9 = .slice ia m ic) (h10 : sl a 10 = .int .u64 D) (h11 : sl a 11 = .int .i64 (k : Int)) :
    Code.wp Try.prog (cAt [1,1,1,1,1,1,1,1,0,1,2,2,1,0,2,1,1] KO) (Exit.then (fun a' w' => Fr 177 a' ∧ sl a' 0 = .int .i64 I ∧ sl a' 1 = .int .i64 S ∧ sl a' 2 = .slice (some ⟨xb, xo, none⟩) n c ∧ sl a' 7 = .pointer (some ⟨g, 0, none⟩) ∧ sl a' 9 = .slice ia m ic ∧ sl a' 10 = .int .u64 D ∧ sl a' 11 = .int .i64 (k : Int) ∧ wr = w') Nope) a wr := by
  obtain ⟨f, ha, hs⟩ := fr177 hf
  have e0 := (hs 0).trans h0
  have e1 := (hs 1).trans h1
  have e2 := (hs 2).trans h2
  have e7 := (hs 7).trans h7
  have e9 := (hs 9).trans h9
  have e10 := (hs 10).trans h10
  have e11 := (hs 11).trans h11
  rw [e0, e1, e2, e7, e9, e10, e11] at ha
  clear hs hf e0 h0 e1 h1 e2 h2 e7 h7 e9 h9 e10 h10 e11 h11
  subst ha
  refine piece2 fun J0 K0 hJ0 hK0 => ?_
  conv => arg 2; whnf
  have n1 : ¬ I < ((q.L.length : Nat) : Int) := by
    have h1 := HW.out.qu.ok.le
    have h2 := HW.out.qu.ok.mI
    have h3 := HW.out.qI
    omega
  have n2 : ¬ S < sumS q.L := by
    have h1 := HW.out.qu.ok.sum
    have h3 := HW.out.qS
    omega
  have hml : ((q.L.length : Nat) : Int) = (m : Int) := by rw [HW.out.len]
  have hqd := HW.out.qD
  rw [hml] at n1
  go_wp2_with fail
  refine (fLen_any w.heap.size g q wr HW.out.qu).mono ?_
  rintro e v ⟨rfl, hv⟩
  subst hv
  rw [hml]
  go_wp2_with fail
  refine (fSize_any w.heap.size g q _ HW.out.qu).mono ?_
  rintro e v ⟨rfl, hv⟩
  subst hv
  go_wp2_with fail
  refine (fLen_any w.heap.size g q _ HW.out.qu).mono ?_
  rintro e v ⟨rfl, hv⟩
  subst hv
  rw [hml]
  go_wp2_with fail
  refine (fDrops_any w.heap.size g q _ HW.out.qu).mono ?_
  rintro e v ⟨rfl, hv⟩
  subst hv
  rw [hqd]
  go_wp2_with fail
  refine Met.intro (hJ0 _ _ ?_)
  exact ⟨⟨rfl, rfl⟩, rfl, rfl, rfl, rfl, rfl, rfl, rfl, rfl⟩

set_option maxRecDepth 100000 in
set_option maxHeartbeats 4000000 in
theorem o12 (wr : World) (I S D : Int) (n c g : Nat) (ia : Option Addr) (m ic k xb xo : Nat) (hk : k < 60) (a : Act) (hf : Fr 177 a) (h0 : sl a 0 = .int .i64 I) (h1 : sl a 1 = .int .i64 S) (h2 : sl a 2 = .slice (some ⟨xb, xo, none⟩) n c) (h7 : sl a 7 = .pointer (some ⟨g, 0, none⟩)) (h9 : sl a 9 = .slice ia m ic) (h10 : sl a 10 = .int .u64 D) (h11 : sl a 11 = .int .i64 (k : Int)) :
    Code.wp Try.prog (cAt [1,1,1,1,1,1,1,1,0,1,2,2,1,1] KO) (Exit.then (fun a' w' => Fr 177 a' ∧ sl a' 0 = .int .i64 I ∧ sl a' 1 = .int .i64 S ∧ sl a' 2 = .slice (some ⟨xb, xo, none⟩) n c ∧ sl a' 7 = .pointer (some ⟨g, 0, none⟩) ∧ sl a' 9 = .slice ia m ic ∧ sl a' 10 = .int .u64 D ∧ sl a' 11 = .int .i64 ((k : Int) + 1) ∧ wr = w') Nope) a wr := by
  obtain ⟨f, ha, hs⟩ := fr177 hf
  have e0 := (hs 0).trans h0
  have e1 := (hs 1).trans h1
  have e2 := (hs 2).trans h2
  have e7 := (hs 7).trans h7
  have e9 := (hs 9).trans h9
  have e10 := (hs 10).trans h10
  have e11 := (hs 11).trans h11
  rw [e0, e1, e2, e7, e9, e10, e11] at ha
  clear hs hf e0 h0 e1 h1 e2 h2 e7 h7 e9 h9 e10 h10 e11 h11
  subst ha
  refine piece2 fun J0 K0 hJ0 hK0 => ?_
  conv => arg 2; whnf
  go_wp2_with fail
  refine Met.intro (hJ0 _ _ ?_)
  exact ⟨⟨rfl, rfl⟩, rfl, rfl, rfl, rfl, rfl, rfl, rfl, rfl⟩

set_option maxRecDepth 100000 in
set_option maxHeartbeats 4000000 in
theorem o36 (wr : World) (g : Nat) (ia : Option Addr) (m ic : Nat) (a : Act) (hf : Fr 177 a) (h7 : sl a 7 = .pointer (some ⟨g, 0, none⟩)) (h9 : sl a 9 = .slice ia m ic) :
    Code.wp Try.prog (cAt [1,1,1,1,1,1,1,1,1,0,0] KO) (Exit.then (fun a' w' => Fr 177 a' ∧ sl a' 7 = .pointer (some ⟨g, 0, none⟩) ∧ sl a' 9 = .slice ia m ic ∧ sl a' 17 = .int .i64 0 ∧ wr = w') Nope) a wr := by
  obtain ⟨f, ha, hs⟩ := fr177 hf
  have e7 := (hs 7).trans h7
  have e9 := (hs 9).trans h9
  rw [e7, e9] at ha
  clear hs hf e7 h7 e9 h9
  subst ha
  refine piece2 fun J0 K0 hJ0 hK0 => ?_
  conv => arg 2; whnf
  go_wp2_with fail
  refine Met.intro (hJ0 _ _ ?_)
  exact ⟨⟨rfl, rfl⟩, rfl, rfl, rfl, rfl⟩

set_option maxRecDepth 100000 in
set_option maxHeartbeats 4000000 in
theorem o37 (wr : World) (g : Nat) (ia : Option Addr) (m ic j : Nat) (hlt : j < m) (a : Act) (hf : Fr 177 a) (h7 : sl a 7 = .pointer (some ⟨g, 0, none⟩)) (h9 : sl a 9 = .slice ia m ic) (h17 : sl a 17 = .int .i64 (j : Int)) :
    Code.wp Try.prog (cAt [1,1,1,1,1,1,1,1,1,0,1,2,2,0] KO) (Exit.then (fun a' w' => Fr 177 a' ∧ sl a' 7 = .pointer (some ⟨g, 0, none⟩) ∧ sl a' 9 = .slice ia m ic ∧ sl a' 17 = .int .i64 (j : Int) ∧ wr = w') Nope) a wr := by
  obtain ⟨f, ha, hs⟩ := fr177 hf
  have e7 := (hs 7).trans h7
  have e9 := (hs 9).trans h9
  have e17 := (hs 17).trans h17
  rw [e7, e9, e17] at ha
  clear hs hf e7 h7 e9 h9 e17 h17
  subst ha
  refine piece2 fun J0 K0 hJ0 hK0 => ?_
  conv => arg 2; whnf
  have hlt2 : (j : Int) < (m : Int) := by omega
  go_wp2_with fail
  refine Met.intro (hJ0 _ _ ?_)
  exact ⟨⟨rfl, rfl⟩, rfl, rfl, rfl, rfl⟩

set_option maxRecDepth 100000 in
set_option maxHeartbeats 4000000 in
theorem o37x (wr : World) (g : Nat) (ia : Option Addr) (m ic j : Nat) (hlt : ¬ j < m) (a : Act) (hf : Fr 177 a) (h7 : sl a 7 = .pointer (some ⟨g, 0, none⟩)) (h9 : sl a 9 = .slice ia m ic) (h17 : sl a 17 = .int .i64 (j : Int)) :
    Code.wp Try.prog (cAt [1,1,1,1,1,1,1,1,1,0,1,2,2] KO) (Outs 3 (fun a' w' => Fr 177 a' ∧ sl a' 7 = .pointer (some ⟨g, 0, none⟩) ∧ sl a' 9 = .slice ia m ic ∧ wr = w')) a wr := by
  obtain ⟨f, ha, hs⟩ := fr177 hf
  have e7 := (hs 7).trans h7
  have e9 := (hs 9).trans h9
  have e17 := (hs 17).trans h17
  rw [e7, e9, e17] at ha
  clear hs hf e7 h7 e9 h9 e17 h17
  subst ha
  conv => arg 2; whnf
  go_wp2_with fail
  exact ⟨rfl, ⟨rfl, rfl⟩, rfl, rfl, rfl⟩

set_option maxRecDepth 100000 in
set_option maxHeartbeats 4000000 in
theorem o39 (w wr : World) (g : Nat) (ia : Option Addr) (m ic j : Nat) (q : Qs) (xs : List Int) (HZ : Hid (Oz w wr g q ia m ic xs j)) (hlt : j < m) (a : Act) (hf : Fr 177 a) (h7 : sl a 7 = .pointer (some ⟨g, 0, none⟩)) (h9 : sl a 9 = .slice ia m ic) (h17 : sl a 17 = .int .i64 (j : Int)) :
    Code.wp Try.prog (cAt [1,1,1,1,1,1,1,1,1,0,1,2,2,1,0,2] KO) (Exit.then (fun a' w' => ∃ q', Fr 177 a' ∧ sl a' 7 = .pointer (some ⟨g, 0, none⟩) ∧ sl a' 9 = .slice ia m ic ∧ sl a' 17 = .int .i64 (j : Int) ∧ Oz w w' g q' ia m ic xs (j + 1)) Nope) a wr := by
  obtain ⟨f, ha, hs⟩ := fr177 hf
  have e7 := (hs 7).trans h7
  have e9 := (hs 9).trans h9
  have e17 := (hs 17).trans h17
  rw [e7, e9, e17] at ha
  clear hs hf e7 h7 e9 h9 e17 h17
  subst ha
  refine piece2 fun J0 K0 hJ0 hK0 => ?_
  conv => arg 2; whnf
  have hxl := HZ.out.row.len
  have hdr : xs.drop j = xs.getD j 0 :: xs.drop (j + 1) := by
    rw [List.drop_eq_getElem_cons (by omega)]
    simp [List.getElem?_eq_getElem (show j < xs.length by omega)]
  have HLE := Lib.hid HZ.out.left
  go_wp2_with fail
  refine (fPop_any w.heap.size g q wr HZ.out.qu).mono ?_
  rintro e w1 (⟨hL2, _⟩ | ⟨x, l, y, q', hL2, rfl, hty, hq, ha, hk, _⟩)
  case inl =>
    have h := HLE.out
    rw [hdr, hL2] at h
    cases h
  have hno : q'.L.map Pi.no = l.map Pi.no := by
    rw [abs_no, ha]
    simp only [List.map_map]
    rfl
  have hLE := HLE.out
  rw [hdr, hL2, List.map_cons] at hLE
  simp only [List.cons.injEq] at hLE
  have hrow : Sg w1 w.heap.size ia m ic xs := HZ.out.row.keep hk (fun b cur hb => HZ.out.qu.apart hb (by decide) (by decide) (by decide))
  have hbl : Below w.heap.size w w1 := HZ.out.below.trans (hk.below HZ.out.below.size (fun i e => (HZ.out.qu.foot_lt e).1))
  have hyn : y.no = xs.getD j 0 := by rw [hty.no]; exact hLE.1
  obtain ⟨no, sz, ya, yn, yc, yd⟩ := y
  simp only at hyn
  rw [show (Pi.v ⟨no, sz, ya, yn, yc, yd⟩) = .agg #[.int .u64 no, .int .i64 sz, .slice ya yn yc] from rfl]
  have hal : Below w1.heap.size w1 (w1.alloc (.cells #[.int .u64 no, .int .i64 sz, .slice ya yn yc] 37)) := (Below.refl _ _).alloc (Nat.le_refl _) _
  have H1 : Hid (Oz w (w1.alloc (.cells #[.int .u64 no, .int .i64 sz, .slice ya yn yc] 37)) g q' ia m ic xs (j + 1)) := ⟨hq.below hal, hrow.below hal, hbl.trans (hal.mono hbl.size), by rw [hno]; exact hLE.2⟩
  have d0 : (w1.alloc (.cells #[.int .u64 no, .int .i64 sz, .slice ya yn yc] 37)).cell? ⟨w1.heap.size, 0, none⟩ = some (.int .u64 no) := by rw [cell_of_row _ _ 0 _ _ (0, 0) (Blk_new w1 _ _)]; rfl
  have HYN := Lib.hid hyn
  clear hxl hdr hL2 hty hq ha hk hno hLE hrow hbl hal hyn
  go_wp2_with fail
  obtain ⟨pb, hpb⟩ : ∃ z, w1.heap.size = z := ⟨_, rfl⟩
  obtain ⟨w2, hw2⟩ : ∃ z, w1.alloc (.cells #[.int .u64 no, .int .i64 sz, .slice ya yn yc] 37) = z := ⟨_, rfl⟩
  rw [hw2] at H1 d0
  rw [hpb] at d0
  rw [hw2, hpb]
  clear hw2 hpb
  obtain ⟨b, o, rfl, hc⟩ := H1.out.row.cell hlt
  rw [← HYN.out] at hc
  have hji : (j : Int) < (m : Int) := by omega
  go_quiet (fail)
  have hbd : Below w2.heap.size w2 (w2.drewN nq) := ⟨rfl, rfl, rfl, Nat.le_refl _, fun _ _ => rfl⟩
  have H2 : Hid (Oz w (w2.drewN nq) g q' (some ⟨b, o, none⟩) m ic xs (j + 1)) := ⟨H1.out.qu.below hbd, H1.out.row.below hbd, H1.out.below.trans (hbd.mono H1.out.below.size), H1.out.left⟩
  clear hbd d0 hc
  go_wp2_with fail
  refine Met.intro (hJ0 _ _ ?_)
  exact ⟨q', ⟨rfl, rfl⟩, rfl, rfl, rfl, H2.out⟩

set_option maxRecDepth 100000 in
set_option maxHeartbeats 4000000 in
theorem o38 (wr : World) (g : Nat) (ia : Option Addr) (m ic j : Nat) (hj : j < 1000) (a : Act) (hf : Fr 177 a) (h7 : sl a 7 = .pointer (some ⟨g, 0, none⟩)) (h9 : sl a 9 = .slice ia m ic) (h17 : sl a 17 = .int .i64 (j : Int)) :
    Code.wp Try.prog (cAt [1,1,1,1,1,1,1,1,1,0,1,2,2,1,1] KO) (Exit.then (fun a' w' => Fr 177 a' ∧ sl a' 7 = .pointer (some ⟨g, 0, none⟩) ∧ sl a' 9 = .slice ia m ic ∧ sl a' 17 = .int .i64 ((j : Int) + 1) ∧ wr = w') Nope) a wr := by
  obtain ⟨f, ha, hs⟩ := fr177 hf
  have e7 := (hs 7).trans h7
  have e9 := (hs 9).trans h9
  have e17 := (hs 17).trans h17
  rw [e7, e9, e17] at ha
  clear hs hf e7 h7 e9 h9 e17 h17
  subst ha
  refine piece2 fun J0 K0 hJ0 hK0 => ?_
  conv => arg 2; whnf
  go_wp2_with fail
  refine Met.intro (hJ0 _ _ ?_)
  exact ⟨⟨rfl, rfl⟩, rfl, rfl, rfl, rfl⟩

set_option maxRecDepth 100000 in
set_option maxHeartbeats 4000000 in
theorem o42 (w wr : World) (g : Nat) (ia : Option Addr) (m ic : Nat) (q : Qs) (xs : List Int) (HZ : Hid (Oz w wr g q ia m ic xs m)) (a : Act) (hf : Fr 177 a) (h7 : sl a 7 = .pointer (some ⟨g, 0, none⟩)) (h9 : sl a 9 = .slice ia m ic) :
    Code.wp Try.prog (cAt [1,1,1,1,1,1,1,1,1,1] KO) (bodyPost Try.prog Try.f4 (Yes w)) a wr := by
  obtain ⟨f, ha, hs⟩ := fr177 hf
  have e7 := (hs 7).trans h7
  have e9 := (hs 9).trans h9
  rw [e7, e9] at ha
  clear hs hf e7 h7 e9 h9
  subst ha
  conv => arg 2; whnf
  have hL : q.L = [] := by
    have h1 := HZ.out.left
    rw [List.drop_of_length_le (by rw [HZ.out.row.len]; exact Nat.le_refl _)] at h1
    exact List.map_eq_nil_iff.1 h1
  have hs : sumS q.L = 0 := by rw [hL]; rfl
  go_wp2_with fail
  refine (fSize_any w.heap.size g q wr HZ.out.qu).mono ?_
  rintro e v ⟨rfl, hv⟩
  subst hv
  rw [hs]
  clear hL hs
  go_wp2_with fail
  refine (works11_any _).mono ?_
  rintro e w1 ⟨rfl, hb⟩
  have H1 : Hid (Below w.heap.size w w1) := HZ.out.below.trans (hb.mono HZ.out.below.size)
  clear hb
  go_wp2_with fail
  go_ret
  exact ⟨rfl, H1.out⟩

end Go.Proofs.Ytjjidjemkddebaa

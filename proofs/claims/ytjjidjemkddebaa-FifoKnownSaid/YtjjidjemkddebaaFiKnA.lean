/-
  FifoKnown in pieces. Conditions: those that the theorems name. (Made by gen_fikn.py.)
-/
import Derived.Test.YtjjidjemkddebaaFiKnM
namespace Go.Proofs.Ytjjidjemkddebaa
open Go.RowKit

noncomputable def KQ : Code := Try.f6.body.getD .skip
set_option maxRecDepth 100000 in
theorem fr97 {a : Act} (h : Fr 97 a) : ∃ f : Nat → Value, a = ⟨#[f 0, f 1, f 2, f 3, f 4, f 5, f 6, f 7, f 8, f 9, f 10, f 11, f 12, f 13, f 14, f 15, f 16, f 17, f 18, f 19, f 20, f 21, f 22, f 23, f 24, f 25, f 26, f 27, f 28, f 29, f 30, f 31, f 32, f 33, f 34, f 35, f 36, f 37, f 38, f 39, f 40, f 41, f 42, f 43, f 44, f 45, f 46, f 47, f 48, f 49, f 50, f 51, f 52, f 53, f 54, f 55, f 56, f 57, f 58, f 59, f 60, f 61, f 62, f 63, f 64, f 65, f 66, f 67, f 68, f 69, f 70, f 71, f 72, f 73, f 74, f 75, f 76, f 77, f 78, f 79, f 80, f 81, f 82, f 83, f 84, f 85, f 86, f 87, f 88, f 89, f 90, f 91, f 92, f 93, f 94, f 95, f 96], []⟩ ∧ ∀ i, f i = sl a i := fr_any h

set_option maxRecDepth 100000 in
set_option maxHeartbeats 4000000 in
theorem k0 (w : World) (a : Act) (hf : Fr 97 a)  :
    Code.wp Try.prog (cAt [0] KQ) (Exit.then (fun a' w' => Fr 97 a' ∧ w = w') Nope) a w := by
  obtain ⟨f, ha, hs⟩ := fr97 hf
  clear hs hf 
  subst ha
  refine piece2 fun J0 K0 hJ0 hK0 => ?_
  conv => arg 2; whnf
  go_wp2_with fail
  refine Met.intro (hJ0 _ _ ?_)
  exact ⟨⟨rfl, rfl⟩, rfl⟩

set_option maxRecDepth 100000 in
set_option maxHeartbeats 4000000 in
theorem k1 (w : World) (a : Act) (hf : Fr 97 a)  :
    Code.wp Try.prog (cAt [1,0,0] KQ) (Exit.then (fun a' w' => Fr 97 a' ∧ sl a' 1 = .int .i64 0 ∧ w = w') Nope) a w := by
  obtain ⟨f, ha, hs⟩ := fr97 hf
  clear hs hf 
  subst ha
  refine piece2 fun J0 K0 hJ0 hK0 => ?_
  conv => arg 2; whnf
  go_wp2_with fail
  refine Met.intro (hJ0 _ _ ?_)
  exact ⟨⟨rfl, rfl⟩, rfl, rfl⟩

set_option maxRecDepth 100000 in
set_option maxHeartbeats 4000000 in
theorem k2 (wr : World) (i : Nat) (hi : i < 50) (a : Act) (hf : Fr 97 a) (h1 : sl a 1 = .int .i64 (i : Int)) :
    Code.wp Try.prog (cAt [1,0,1,2,2,0] KQ) (Exit.then (fun a' w' => Fr 97 a' ∧ sl a' 1 = .int .i64 (i : Int) ∧ wr = w') Nope) a wr := by
  obtain ⟨f, ha, hs⟩ := fr97 hf
  have e1 := (hs 1).trans h1
  rw [e1] at ha
  clear hs hf e1 h1
  subst ha
  refine piece2 fun J0 K0 hJ0 hK0 => ?_
  conv => arg 2; whnf
  go_wp2_with fail
  refine Met.intro (hJ0 _ _ ?_)
  exact ⟨⟨rfl, rfl⟩, rfl, rfl⟩

set_option maxRecDepth 100000 in
set_option maxHeartbeats 4000000 in
theorem k2x (wr : World) (i : Nat) (hi : ¬ i < 50) (a : Act) (hf : Fr 97 a) (h1 : sl a 1 = .int .i64 (i : Int)) :
    Code.wp Try.prog (cAt [1,0,1,2,2] KQ) (Outs 0 (fun a' w' => Fr 97 a' ∧ wr = w')) a wr := by
  obtain ⟨f, ha, hs⟩ := fr97 hf
  have e1 := (hs 1).trans h1
  rw [e1] at ha
  clear hs hf e1 h1
  subst ha
  conv => arg 2; whnf
  go_wp2_with fail
  exact ⟨rfl, ⟨rfl, rfl⟩, rfl⟩

set_option maxRecDepth 100000 in
set_option maxHeartbeats 4000000 in
theorem k3 (wr : World) (i : Nat) (hi : i < 50) (a : Act) (hf : Fr 97 a) (h1 : sl a 1 = .int .i64 (i : Int)) :
    Code.wp Try.prog (cAt [1,0,1,2,2,1,1] KQ) (Exit.then (fun a' w' => Fr 97 a' ∧ sl a' 1 = .int .i64 ((i : Int) + 1) ∧ wr = w') Nope) a wr := by
  obtain ⟨f, ha, hs⟩ := fr97 hf
  have e1 := (hs 1).trans h1
  rw [e1] at ha
  clear hs hf e1 h1
  subst ha
  refine piece2 fun J0 K0 hJ0 hK0 => ?_
  conv => arg 2; whnf
  go_wp2_with fail
  refine Met.intro (hJ0 _ _ ?_)
  exact ⟨⟨rfl, rfl⟩, rfl, rfl⟩

set_option maxRecDepth 100000 in
set_option maxHeartbeats 4000000 in
theorem k4 (wr : World) (i : Nat) (a : Act) (hf : Fr 97 a) (h1 : sl a 1 = .int .i64 (i : Int)) :
    Code.wp Try.prog (cAt [1,0,1,2,2,1,0,2,0] KQ) (Exit.then (fun a' w' => Fr 97 a' ∧ sl a' 1 = .int .i64 (i : Int) ∧ sl a' 2 = .slice none 0 0 ∧ wr = w') Nope) a wr := by
  obtain ⟨f, ha, hs⟩ := fr97 hf
  have e1 := (hs 1).trans h1
  rw [e1] at ha
  clear hs hf e1 h1
  subst ha
  refine piece2 fun J0 K0 hJ0 hK0 => ?_
  conv => arg 2; whnf
  go_wp2_with fail
  refine Met.intro (hJ0 _ _ ?_)
  exact ⟨⟨rfl, rfl⟩, rfl, rfl, rfl⟩

set_option maxRecDepth 100000 in
set_option maxHeartbeats 4000000 in
theorem k5 (wr : World) (i : Nat) (a : Act) (hf : Fr 97 a) (h1 : sl a 1 = .int .i64 (i : Int)) (h2 : sl a 2 = .slice none 0 0) :
    Code.wp Try.prog (cAt [1,0,1,2,2,1,0,2,1,0] KQ) (Exit.then (fun a' w' => Fr 97 a' ∧ sl a' 1 = .int .i64 (i : Int) ∧ sl a' 2 = .slice none 0 0 ∧ sl a' 3 = .int .i64 (i : Int) ∧ wr = w') Nope) a wr := by
  obtain ⟨f, ha, hs⟩ := fr97 hf
  have e1 := (hs 1).trans h1
  have e2 := (hs 2).trans h2
  rw [e1, e2] at ha
  clear hs hf e1 h1 e2 h2
  subst ha
  refine piece2 fun J0 K0 hJ0 hK0 => ?_
  conv => arg 2; whnf
  go_wp2_with fail
  refine Met.intro (hJ0 _ _ ?_)
  exact ⟨⟨rfl, rfl⟩, rfl, rfl, rfl, rfl⟩

set_option maxRecDepth 100000 in
set_option maxHeartbeats 4000000 in
theorem k6 (wr : World) (i : Nat) (a : Act) (hf : Fr 97 a) (h1 : sl a 1 = .int .i64 (i : Int)) (h2 : sl a 2 = .slice none 0 0) (h3 : sl a 3 = .int .i64 (i : Int)) :
    Code.wp Try.prog (cAt [1,0,1,2,2,1,0,2,1,1,0,0] KQ) (Exit.then (fun a' w' => Fr 97 a' ∧ sl a' 1 = .int .i64 (i : Int) ∧ sl a' 2 = .slice none 0 0 ∧ sl a' 3 = .int .i64 (i : Int) ∧ sl a' 4 = .int .i64 0 ∧ wr = w') Nope) a wr := by
  obtain ⟨f, ha, hs⟩ := fr97 hf
  have e1 := (hs 1).trans h1
  have e2 := (hs 2).trans h2
  have e3 := (hs 3).trans h3
  rw [e1, e2, e3] at ha
  clear hs hf e1 h1 e2 h2 e3 h3
  subst ha
  refine piece2 fun J0 K0 hJ0 hK0 => ?_
  conv => arg 2; whnf
  go_wp2_with fail
  refine Met.intro (hJ0 _ _ ?_)
  exact ⟨⟨rfl, rfl⟩, rfl, rfl, rfl, rfl, rfl⟩

set_option maxRecDepth 100000 in
set_option maxHeartbeats 4000000 in
theorem k7 (wr : World) (i n c k t : Nat) (xa : Option Addr) (ht : t < 60) (a : Act) (hf : Fr 97 a) (h1 : sl a 1 = .int .i64 (i : Int)) (h2 : sl a 2 = .slice xa n c) (h3 : sl a 3 = .int .i64 (k : Int)) (h4 : sl a 4 = .int .i64 (t : Int)) :
    Code.wp Try.prog (cAt [1,0,1,2,2,1,0,2,1,1,0,1,2,2,0] KQ) (Exit.then (fun a' w' => Fr 97 a' ∧ sl a' 1 = .int .i64 (i : Int) ∧ sl a' 2 = .slice xa n c ∧ sl a' 3 = .int .i64 (k : Int) ∧ sl a' 4 = .int .i64 (t : Int) ∧ wr = w') Nope) a wr := by
  obtain ⟨f, ha, hs⟩ := fr97 hf
  have e1 := (hs 1).trans h1
  have e2 := (hs 2).trans h2
  have e3 := (hs 3).trans h3
  have e4 := (hs 4).trans h4
  rw [e1, e2, e3, e4] at ha
  clear hs hf e1 h1 e2 h2 e3 h3 e4 h4
  subst ha
  refine piece2 fun J0 K0 hJ0 hK0 => ?_
  conv => arg 2; whnf
  have ht2 : (t : Int) < 60 := by omega
  go_wp2_with fail
  refine Met.intro (hJ0 _ _ ?_)
  exact ⟨⟨rfl, rfl⟩, rfl, rfl, rfl, rfl, rfl⟩

set_option maxRecDepth 100000 in
set_option maxHeartbeats 4000000 in
theorem k7x (wr : World) (i n c k t : Nat) (xa : Option Addr) (ht : ¬ t < 60) (a : Act) (hf : Fr 97 a) (h1 : sl a 1 = .int .i64 (i : Int)) (h2 : sl a 2 = .slice xa n c) (h3 : sl a 3 = .int .i64 (k : Int)) (h4 : sl a 4 = .int .i64 (t : Int)) :
    Code.wp Try.prog (cAt [1,0,1,2,2,1,0,2,1,1,0,1,2,2] KQ) (Outs 2 (fun a' w' => Fr 97 a' ∧ sl a' 1 = .int .i64 (i : Int) ∧ sl a' 2 = .slice xa n c ∧ wr = w')) a wr := by
  obtain ⟨f, ha, hs⟩ := fr97 hf
  have e1 := (hs 1).trans h1
  have e2 := (hs 2).trans h2
  have e3 := (hs 3).trans h3
  have e4 := (hs 4).trans h4
  rw [e1, e2, e3, e4] at ha
  clear hs hf e1 h1 e2 h2 e3 h3 e4 h4
  subst ha
  conv => arg 2; whnf
  go_wp2_with fail
  exact ⟨rfl, ⟨rfl, rfl⟩, rfl, rfl, rfl⟩

set_option maxRecDepth 100000 in
set_option maxHeartbeats 4000000 in
theorem k8 (wr : World) (i n c k t : Nat) (xa : Option Addr) (ht : t < 60) (a : Act) (hf : Fr 97 a) (h1 : sl a 1 = .int .i64 (i : Int)) (h2 : sl a 2 = .slice xa n c) (h3 : sl a 3 = .int .i64 (k : Int)) (h4 : sl a 4 = .int .i64 (t : Int)) :
    Code.wp Try.prog (cAt [1,0,1,2,2,1,0,2,1,1,0,1,2,2,1,1] KQ) (Exit.then (fun a' w' => Fr 97 a' ∧ sl a' 1 = .int .i64 (i : Int) ∧ sl a' 2 = .slice xa n c ∧ sl a' 3 = .int .i64 (k : Int) ∧ sl a' 4 = .int .i64 ((t : Int) + 1) ∧ wr = w') Nope) a wr := by
  obtain ⟨f, ha, hs⟩ := fr97 hf
  have e1 := (hs 1).trans h1
  have e2 := (hs 2).trans h2
  have e3 := (hs 3).trans h3
  have e4 := (hs 4).trans h4
  rw [e1, e2, e3, e4] at ha
  clear hs hf e1 h1 e2 h2 e3 h3 e4 h4
  subst ha
  refine piece2 fun J0 K0 hJ0 hK0 => ?_
  conv => arg 2; whnf
  go_wp2_with fail
  refine Met.intro (hJ0 _ _ ?_)
  exact ⟨⟨rfl, rfl⟩, rfl, rfl, rfl, rfl, rfl⟩

set_option maxRecDepth 100000 in
set_option maxHeartbeats 4000000 in
theorem k9 (w : World) (wr : World) (i n c k t : Nat) (xa : Option Addr) (l : List Ac) (hn : n ≤ 60) (hk : k < 100003) (HA : Hid (Ka w wr xa n c l)) (a : Act) (hf : Fr 97 a) (h1 : sl a 1 = .int .i64 (i : Int)) (h2 : sl a 2 = .slice xa n c) (h3 : sl a 3 = .int .i64 (k : Int)) (h4 : sl a 4 = .int .i64 (t : Int)) :
    Code.wp Try.prog (cAt [1,0,1,2,2,1,0,2,1,1,0,1,2,2,1,0,2,0] KQ) (Exit.then (fun a' w' => ∃ (g c' : Nat) (l' : List Ac), Fr 97 a' ∧ sl a' 1 = .int .i64 (i : Int) ∧ sl a' 2 = .slice (some ⟨g, 0, none⟩) (n + 1) c' ∧ sl a' 3 = .int .i64 (k : Int) ∧ sl a' 4 = .int .i64 (t : Int) ∧ Ka w w' (some ⟨g, 0, none⟩) (n + 1) c' l') Nope) a wr := by
  obtain ⟨f, ha, hs⟩ := fr97 hf
  have e1 := (hs 1).trans h1
  have e2 := (hs 2).trans h2
  have e3 := (hs 3).trans h3
  have e4 := (hs 4).trans h4
  rw [e1, e2, e3, e4] at ha
  clear hs hf e1 h1 e2 h2 e3 h3 e4 h4
  subst ha
  refine piece2 fun J0 K0 hJ0 hK0 => ?_
  conv => arg 2; whnf
  obtain ⟨d8, e8, l8⟩ : ∃ z : Nat, (k : Int).tmod 8 = (z : Int) ∧ z < 8 := ⟨k % 8, rfl, Nat.mod_lt _ (by decide)⟩
  obtain ⟨n40, e40, l40⟩ : ∃ z : Nat, (k : Int).tmod 40 = (z : Int) ∧ z < 40 := ⟨k % 40, rfl, Nat.mod_lt _ (by decide)⟩
  obtain ⟨q8, eq8, lq8⟩ : ∃ z : Nat, (k : Int).tdiv 8 = (z : Int) ∧ z ≤ k := ⟨k / 8, rfl, Nat.div_le_self _ _⟩
  obtain ⟨r14, e14, l14⟩ : ∃ z : Nat, (q8 : Int).tmod 14 = (z : Int) ∧ z < 14 := ⟨q8 % 14, rfl, Nat.mod_lt _ (by decide)⟩
  obtain ⟨m4, e4, l4⟩ : ∃ z : Nat, (k : Int).tmod 4 = (z : Int) ∧ z < 4 := ⟨k % 4, rfl, Nat.mod_lt _ (by decide)⟩
  obtain ⟨m3, e3, l3⟩ : ∃ z : Nat, (m4 : Int).tmod 3 = (z : Int) ∧ z < 3 := ⟨m4 % 3, rfl, Nat.mod_lt _ (by decide)⟩
  have x40 : IntKind.u64.wrap (n40 : Int) = n40 := by rw [IntKind.wrap_u64]; omega
  have xq : IntKind.i64.wrap (q8 : Int) = q8 := by rw [IntKind.wrap_i64]; omega
  have xr : IntKind.i64.wrap ((r14 : Int) - 1) = (r14 : Int) - 1 := by rw [IntKind.wrap_i64]; omega
  obtain ⟨z8, hz8⟩ : ∃ z, IntKind.u8.wrap (k : Int) = z := ⟨_, rfl⟩
  have hz : 0 ≤ z8 ∧ z8 ≤ 255 := by rw [← hz8, IntKind.wrap_u8]; omega
  have m30 : (0 : Int) ≤ (m3 : Int) := by omega
  have m31 : (m3 : Int) ≤ 3 := by omega
  have hal : Below wr.heap.size wr (wr.alloc (.cells #[.int .u8 z8, .int .u8 2, .int .u8 3] 5)) := (Below.refl _ _).alloc (Nat.le_refl _) _
  have HD : Dk (wr.alloc (.cells #[.int .u8 z8, .int .u8 2, .int .u8 3] 5)) w.heap.size ⟨n40, (r14 : Int) - 1, some ⟨wr.heap.size, 0, none⟩, m3, 3, ([z8, 2, 3] : List Int).take m3⟩ := ⟨⟨_, z8, rfl, HA.out.below.size, hz.1, hz.2, Blk_new wr _ _, rfl⟩, by show m3 ≤ 2; omega, rfl, by show (0 : Int) ≤ (n40 : Int); omega, by show (n40 : Int) ≤ _; omega, by show _ ≤ (r14 : Int) - 1; omega, by show (r14 : Int) - 1 ≤ _; omega⟩
  obtain ⟨g, c', w3, hrun, hka⟩ := (HA.out.past hal).grow ⟨d8, ⟨n40, (r14 : Int) - 1, some ⟨wr.heap.size, 0, none⟩, m3, 3, ([z8, 2, 3] : List Int).take m3⟩⟩ ⟨⟨by show _ ≤ (d8 : Int); omega, by show (d8 : Int) ≤ _; omega⟩, HD⟩ hn
  simp only at hrun
  have hsz : (wr.alloc (.cells #[.int .u8 z8, .int .u8 2, .int .u8 3] 5)).heap.size = wr.heap.size + 1 := by simp
  rw [hsz] at hrun
  have HRUN := Lib.hid hrun
  have HK3 := Lib.hid hka
  clear hrun hka hsz HD hal hz
  go_wp2_with (at_builtin; first | (refine Lib.wpList_append_run _ rfl (.tmp 15) (.tmp 34) _ _ rfl _ _ rfl rfl _ _ HRUN.out ?_) | fail)
  refine Met.intro (hJ0 _ _ ?_)
  exact ⟨g, c', _, ⟨rfl, rfl⟩, rfl, rfl, rfl, rfl, HK3.out⟩

set_option maxRecDepth 100000 in
set_option maxHeartbeats 4000000 in
theorem k10 (wr : World) (i n c k t : Nat) (xa : Option Addr) (ht : t < 60) (hk : k < 100003) (a : Act) (hf : Fr 97 a) (h1 : sl a 1 = .int .i64 (i : Int)) (h2 : sl a 2 = .slice xa n c) (h3 : sl a 3 = .int .i64 (k : Int)) (h4 : sl a 4 = .int .i64 (t : Int)) :
    Code.wp Try.prog (cAt [1,0,1,2,2,1,0,2,1,1,0,1,2,2,1,0,2,1] KQ) (Exit.then (fun a' w' => ∃ (k' : Nat), Fr 97 a' ∧ sl a' 1 = .int .i64 (i : Int) ∧ sl a' 2 = .slice xa n c ∧ sl a' 3 = .int .i64 (k' : Int) ∧ sl a' 4 = .int .i64 (t : Int) ∧ k' < 100003 ∧ wr = w') Nope) a wr := by
  obtain ⟨f, ha, hs⟩ := fr97 hf
  have e1 := (hs 1).trans h1
  have e2 := (hs 2).trans h2
  have e3 := (hs 3).trans h3
  have e4 := (hs 4).trans h4
  rw [e1, e2, e3, e4] at ha
  clear hs hf e1 h1 e2 h2 e3 h3 e4 h4
  subst ha
  refine piece2 fun J0 K0 hJ0 hK0 => ?_
  conv => arg 2; whnf
  have e1 : (((k * 31 + 7 * t + 11 : Nat) : Int)).tmod 100003 = ((k * 31 + 7 * t + 11) % 100003 : Nat) := rfl
  have e2 : ((k : Int) * 31 + 7 * (t : Int) + 11).tmod 100003 = (((k * 31 + 7 * t + 11) % 100003 : Nat) : Int) := by rw [← e1]; congr 1
  obtain ⟨k', hk'⟩ : ∃ z, (k * 31 + 7 * t + 11) % 100003 = z := ⟨_, rfl⟩
  have hlt : k' < 100003 := by omega
  rw [hk'] at e2
  clear hk' e1
  go_wp2_with fail
  refine Met.intro (hJ0 _ _ ?_)
  exact ⟨k', ⟨rfl, rfl⟩, rfl, rfl, rfl, rfl, hlt, rfl⟩

set_option maxRecDepth 100000 in
set_option maxHeartbeats 4000000 in
theorem k11 (w wr : World) (i g c : Nat) (l : List Ac) (hi : i < 50) (HA : Hid (Ka w wr (some ⟨g, 0, none⟩) 60 c l)) (a : Act) (hf : Fr 97 a) (h1 : sl a 1 = .int .i64 (i : Int)) (h2 : sl a 2 = .slice (some ⟨g, 0, none⟩) 60 c) :
    Code.wp Try.prog (cAt [1,0,1,2,2,1,0,2,1,1,1] KQ) (Exit.then (fun a' w' => Fr 97 a' ∧ sl a' 1 = .int .i64 (i : Int) ∧ Below w.heap.size w w') Nope) a wr := by
  obtain ⟨f, ha, hs⟩ := fr97 hf
  have e1 := (hs 1).trans h1
  have e2 := (hs 2).trans h2
  rw [e1, e2] at ha
  clear hs hf e1 h1 e2 h2
  subst ha
  refine piece2 fun J0 K0 hJ0 hK0 => ?_
  conv => arg 2; whnf
  have hi2 : (i : Int) < 50 := by omega
  have hi6 : (i : Int) < 60 := by omega
  have hi0 : (0 : Int) ≤ (i : Int) := by omega
  have hc : 60 ≤ c := by
    rcases HA.out.own.cases with ⟨e, _⟩ | ⟨_, _, _, _, _, h, _⟩
    · cases e
    · exact h
  have hc2 : (20 : Int) ≤ (c : Int) := by omega
  obtain ⟨m3, e3, l3⟩ : ∃ z : Nat, (i : Int).tmod 3 = (z : Int) ∧ z < 3 := ⟨i % 3, rfl, Nat.mod_lt _ (by decide)⟩
  clear hc
  go_wp2_with fail
  refine (plays_any _ _ (some ⟨g, 0, none⟩) 60 c l wr HA.out.acr (by decide) (by omega)).mono ?_
  rintro e w1 ⟨rfl, hb1⟩
  have H1 := Lib.hid (HA.out.past hb1)
  clear hb1
  go_wp2_with fail
  refine (order_any _ _ (some ⟨g, 0, none⟩) 60 c l w1 H1.out.acr (by decide)).mono ?_
  rintro e w2 ⟨rfl, hb2⟩
  have H2 := Lib.hid (H1.out.past hb2)
  clear hb2
  go_wp2_with fail
  refine (plays_any _ _ (some ⟨g, 0, none⟩) 20 c (l.take 20) w2 (H2.out.acr.take (by decide)) (by decide) (by decide)).mono ?_
  rintro e w3 ⟨rfl, hb3⟩
  have H3 := Lib.hid (H2.out.past hb3)
  clear hb3
  obtain ⟨⟨yd, ⟨no, sz, ya, yn, yc, yd2⟩⟩, b, o, hy, _, eg, hrg⟩ := H3.out.acr.nth (k := i) (by omega)
  simp only [Option.some.injEq, Addr.mk.injEq, and_true] at eg
  obtain ⟨rfl, rfl⟩ := eg
  have c1 := Ac.r1 hrg
  have c2 := Ac.r2 hrg
  have c3 := Ac.r3 hrg
  simp only [Nat.zero_add] at c1 c2 c3
  clear hrg hy
  go_wp2_with fail
  refine (none11_any ⟨no, sz, ya, yn, yc, yd2⟩ w3).mono ?_
  rintro e w4 ⟨rfl, hb4⟩
  have H4 := Lib.hid (H3.out.past hb4).below
  clear hb4
  go_wp2_with fail
  refine Met.intro (hJ0 _ _ ?_)
  exact ⟨⟨rfl, rfl⟩, rfl, H4.out⟩

set_option maxRecDepth 100000 in
set_option maxHeartbeats 4000000 in
theorem k13 (wr : World) (a : Act) (hf : Fr 97 a)  :
    Code.wp Try.prog (cAt [1,1,0] KQ) (Exit.then (fun a' w' => ∃ (g : Nat), Fr 97 a' ∧ sl a' 5 = .slice (some ⟨g, 0, none⟩) 4 4 ∧ Below wr.heap.size wr w' ∧ Acr w' (some ⟨g, 0, none⟩) 4 bigL) Nope) a wr := by
  obtain ⟨f, ha, hs⟩ := fr97 hf
  clear hs hf 
  subst ha
  refine piece2 fun J0 K0 hJ0 hK0 => ?_
  conv => arg 2; whnf
  have H1 : Hid (Below wr.heap.size wr (wr.alloc (.cells #[.int .i64 0, .int .u64 0, .int .i64 2305843009213693952, .slice none 0 0, .int .i64 0, .int .u64 0, .int .i64 2305843009213693952, .slice none 0 0, .int .i64 6, .int .u64 0, .int .i64 4611686018427387904, .slice none 0 0, .int .i64 0, .int .u64 0, .int .i64 (-9223372036854775808), .slice none 0 0] 39)) ∧ Acr (wr.alloc (.cells #[.int .i64 0, .int .u64 0, .int .i64 2305843009213693952, .slice none 0 0, .int .i64 0, .int .u64 0, .int .i64 2305843009213693952, .slice none 0 0, .int .i64 6, .int .u64 0, .int .i64 4611686018427387904, .slice none 0 0, .int .i64 0, .int .u64 0, .int .i64 (-9223372036854775808), .slice none 0 0] 39)) (some ⟨wr.heap.size, 0, none⟩) 4 bigL) := ⟨(Below.refl _ _).alloc (Nat.le_refl _) _, big_acr (Blk_new wr _ _)⟩
  go_wp2_with fail
  refine Met.intro (hJ0 _ _ ?_)
  exact ⟨_, ⟨rfl, rfl⟩, rfl, H1.out⟩

set_option maxRecDepth 100000 in
set_option maxHeartbeats 4000000 in
theorem k14 (w wr : World) (g : Nat) (HB : Hid (Below w.heap.size w wr)) (HG : Hid (Acr wr (some ⟨g, 0, none⟩) 4 bigL)) (a : Act) (hf : Fr 97 a) (h5 : sl a 5 = .slice (some ⟨g, 0, none⟩) 4 4) :
    Code.wp Try.prog (cAt [1,1,1] KQ) (bodyPost Try.prog Try.f6 (Yes w)) a wr := by
  obtain ⟨f, ha, hs⟩ := fr97 hf
  have e5 := (hs 5).trans h5
  rw [e5] at ha
  clear hs hf e5 h5
  subst ha
  conv => arg 2; whnf
  go_wp2_with fail
  refine (plays_any 9 4611686018427387904 (some ⟨g, 0, none⟩) 4 4 bigL wr HG.out (by decide) (by decide)).mono ?_
  rintro e w1 ⟨rfl, hb⟩
  have HB1 := Lib.hid (HB.out.trans (hb.mono HB.out.size))
  have HG1 := Lib.hid (HG.out.below hb)
  clear hb
  go_wp2_with fail
  refine (plays_any 9 (-1) none 0 0 [] w1 (Acr.none0 _) (by decide) (by decide)).mono ?_
  rintro e w2 ⟨rfl, hb⟩
  have HB2 := Lib.hid (HB1.out.trans (hb.mono HB1.out.size))
  have HG2 := Lib.hid (HG1.out.below hb)
  clear hb
  go_wp2_with fail
  refine (plays_any 9 9223372036854775807 (some ⟨g, 0, none⟩) 4 4 bigL w2 HG2.out (by decide) (by decide)).mono ?_
  rintro e w3 ⟨rfl, hb⟩
  have HB3 := Lib.hid (HB2.out.trans (hb.mono HB2.out.size))
  clear hb
  go_wp2_with fail
  refine (works11_any _).mono ?_
  rintro e w4 ⟨rfl, hb⟩
  have HB4 := Lib.hid (HB3.out.trans (hb.mono HB3.out.size))
  clear hb
  go_wp2_with fail
  go_ret
  exact ⟨rfl, HB4.out⟩
end Go.Proofs.Ytjjidjemkddebaa

/-
  DiskKnown in pieces. No conditions. (Made by gen_dkknown.py.)
-/
import Derived.Test.YtbghdlgfpfeaeaaDkKnM
namespace Go.Proofs.Ytbghdlgfpfeaeaa
open Go.RowKit

noncomputable def KDN : Code := Try.f5.body.getD .skip
set_option maxRecDepth 100000 in
theorem frKDN {a : Act} (h : Fr 101 a) : ∃ f : Nat → Value, a = ⟨#[f 0, f 1, f 2, f 3, f 4, f 5, f 6, f 7, f 8, f 9, f 10, f 11, f 12, f 13, f 14, f 15, f 16, f 17, f 18, f 19, f 20, f 21, f 22, f 23, f 24, f 25, f 26, f 27, f 28, f 29, f 30, f 31, f 32, f 33, f 34, f 35, f 36, f 37, f 38, f 39, f 40, f 41, f 42, f 43, f 44, f 45, f 46, f 47, f 48, f 49, f 50, f 51, f 52, f 53, f 54, f 55, f 56, f 57, f 58, f 59, f 60, f 61, f 62, f 63, f 64, f 65, f 66, f 67, f 68, f 69, f 70, f 71, f 72, f 73, f 74, f 75, f 76, f 77, f 78, f 79, f 80, f 81, f 82, f 83, f 84, f 85, f 86, f 87, f 88, f 89, f 90, f 91, f 92, f 93, f 94, f 95, f 96, f 97, f 98, f 99, f 100], []⟩ ∧ ∀ i, f i = sl a i := fr_any h

set_option maxRecDepth 100000 in
set_option maxHeartbeats 4000000 in
theorem q0 (w : World) (a : Act) (hf : Fr 101 a)  :
    Code.wp Try.prog (cAt [0] KDN) (Exit.then (fun a' w' => Fr 101 a' ∧ w = w') Nope) a w := by
  obtain ⟨f, ha, hs⟩ := frKDN hf
  clear hs hf 
  subst ha
  refine piece2 fun J0 K0 hJ0 hK0 => ?_
  conv => arg 2; whnf
  go_wp2_with fail
  refine Met.intro (hJ0 _ _ ?_)
  exact ⟨⟨rfl, rfl⟩, rfl⟩

set_option maxRecDepth 100000 in
set_option maxHeartbeats 4000000 in
theorem q2i (w : World) (a : Act) (hf : Fr 101 a)  :
    Code.wp Try.prog (cAt [1,0,0] KDN) (Exit.then (fun a' w' => Fr 101 a' ∧ sl a' 1 = .int .i64 0 ∧ w = w') Nope) a w := by
  obtain ⟨f, ha, hs⟩ := frKDN hf
  clear hs hf 
  subst ha
  refine piece2 fun J0 K0 hJ0 hK0 => ?_
  conv => arg 2; whnf
  go_wp2_with fail
  refine Met.intro (hJ0 _ _ ?_)
  exact ⟨⟨rfl, rfl⟩, rfl, rfl⟩

set_option maxRecDepth 100000 in
set_option maxHeartbeats 4000000 in
theorem q2x (wq2 : World) (i : Nat) (hli : Hid (¬ i < 40)) (a : Act) (hf : Fr 101 a) (h1 : sl a 1 = .int .i64 (i : Int)) :
    Code.wp Try.prog (cAt [1,0,1,2,2] KDN) (Outs 0 (fun a' w' => Fr 101 a' ∧ wq2 = w')) a wq2 := by
  obtain ⟨f, ha, hs⟩ := frKDN hf
  have e1 := (hs 1).trans h1
  rw [e1] at ha
  clear hs hf e1 h1
  subst ha
  conv => arg 2; whnf
  have hi2 : ¬ (i : Int) < (40 : Int) := by have := hli.out; omega
  go_wp2_with fail
  exact ⟨rfl, ⟨rfl, rfl⟩, rfl⟩

set_option maxRecDepth 100000 in
set_option maxHeartbeats 4000000 in
theorem q2c (wq2 : World) (i : Nat) (hli : Hid (i < 40)) (a : Act) (hf : Fr 101 a) (h1 : sl a 1 = .int .i64 (i : Int)) :
    Code.wp Try.prog (cAt [1,0,1,2,2,0] KDN) (Exit.then (fun a' w' => Fr 101 a' ∧ sl a' 1 = .int .i64 (i : Int) ∧ wq2 = w') Nope) a wq2 := by
  obtain ⟨f, ha, hs⟩ := frKDN hf
  have e1 := (hs 1).trans h1
  rw [e1] at ha
  clear hs hf e1 h1
  subst ha
  refine piece2 fun J0 K0 hJ0 hK0 => ?_
  conv => arg 2; whnf
  have hi2 : (i : Int) < (40 : Int) := by have := hli.out; omega
  go_wp2_with fail
  refine Met.intro (hJ0 _ _ ?_)
  exact ⟨⟨rfl, rfl⟩, rfl, rfl⟩

set_option maxRecDepth 100000 in
set_option maxHeartbeats 4000000 in
theorem q4 (wq2 : World) (i : Nat) (a : Act) (hf : Fr 101 a) (h1 : sl a 1 = .int .i64 (i : Int)) :
    Code.wp Try.prog (cAt [1,0,1,2,2,1,0,2,0] KDN) (Exit.then (fun a' w' => Fr 101 a' ∧ sl a' 1 = .int .i64 (i : Int) ∧ sl a' 2 = .slice none 0 0 ∧ wq2 = w') Nope) a wq2 := by
  obtain ⟨f, ha, hs⟩ := frKDN hf
  have e1 := (hs 1).trans h1
  rw [e1] at ha
  clear hs hf e1 h1
  subst ha
  refine piece2 fun J0 K0 hJ0 hK0 => ?_
  conv => arg 2; whnf
  go_wp2_with fail
  refine Met.intro (hJ0 _ _ ?_)
  exact ⟨⟨rfl, rfl⟩, rfl, rfl, rfl⟩

set_option maxRecDepth 100000 in
set_option maxHeartbeats 4000000 in
theorem q5 (wq2 : World) (i : Nat) (a : Act) (hf : Fr 101 a) (h1 : sl a 1 = .int .i64 (i : Int)) (h2 : sl a 2 = .slice none 0 0) :
    Code.wp Try.prog (cAt [1,0,1,2,2,1,0,2,1,0] KDN) (Exit.then (fun a' w' => Fr 101 a' ∧ sl a' 1 = .int .i64 (i : Int) ∧ sl a' 2 = .slice none 0 0 ∧ sl a' 3 = .slice none 0 0 ∧ wq2 = w') Nope) a wq2 := by
  obtain ⟨f, ha, hs⟩ := frKDN hf
  have e1 := (hs 1).trans h1
  have e2 := (hs 2).trans h2
  rw [e1, e2] at ha
  clear hs hf e1 h1 e2 h2
  subst ha
  refine piece2 fun J0 K0 hJ0 hK0 => ?_
  conv => arg 2; whnf
  go_wp2_with fail
  refine Met.intro (hJ0 _ _ ?_)
  exact ⟨⟨rfl, rfl⟩, rfl, rfl, rfl, rfl⟩

set_option maxRecDepth 100000 in
set_option maxHeartbeats 4000000 in
theorem q6 (wq2 : World) (i : Nat) (a : Act) (hf : Fr 101 a) (h1 : sl a 1 = .int .i64 (i : Int)) (h2 : sl a 2 = .slice none 0 0) (h3 : sl a 3 = .slice none 0 0) :
    Code.wp Try.prog (cAt [1,0,1,2,2,1,0,2,1,1,0] KDN) (Exit.then (fun a' w' => Fr 101 a' ∧ sl a' 1 = .int .i64 (i : Int) ∧ sl a' 2 = .slice none 0 0 ∧ sl a' 3 = .slice none 0 0 ∧ sl a' 4 = .int .i64 (i : Int) ∧ wq2 = w') Nope) a wq2 := by
  obtain ⟨f, ha, hs⟩ := frKDN hf
  have e1 := (hs 1).trans h1
  have e2 := (hs 2).trans h2
  have e3 := (hs 3).trans h3
  rw [e1, e2, e3] at ha
  clear hs hf e1 h1 e2 h2 e3 h3
  subst ha
  refine piece2 fun J0 K0 hJ0 hK0 => ?_
  conv => arg 2; whnf
  go_wp2_with fail
  refine Met.intro (hJ0 _ _ ?_)
  exact ⟨⟨rfl, rfl⟩, rfl, rfl, rfl, rfl, rfl⟩

set_option maxRecDepth 100000 in
set_option maxHeartbeats 4000000 in
theorem q8i (wq2 : World) (i : Nat) (a : Act) (hf : Fr 101 a) (h1 : sl a 1 = .int .i64 (i : Int)) (h2 : sl a 2 = .slice none 0 0) (h3 : sl a 3 = .slice none 0 0) (h4 : sl a 4 = .int .i64 (i : Int)) :
    Code.wp Try.prog (cAt [1,0,1,2,2,1,0,2,1,1,1,0,0] KDN) (Exit.then (fun a' w' => Fr 101 a' ∧ sl a' 1 = .int .i64 (i : Int) ∧ sl a' 2 = .slice none 0 0 ∧ sl a' 3 = .slice none 0 0 ∧ sl a' 4 = .int .i64 (i : Int) ∧ sl a' 5 = .int .i64 0 ∧ wq2 = w') Nope) a wq2 := by
  obtain ⟨f, ha, hs⟩ := frKDN hf
  have e1 := (hs 1).trans h1
  have e2 := (hs 2).trans h2
  have e3 := (hs 3).trans h3
  have e4 := (hs 4).trans h4
  rw [e1, e2, e3, e4] at ha
  clear hs hf e1 h1 e2 h2 e3 h3 e4 h4
  subst ha
  refine piece2 fun J0 K0 hJ0 hK0 => ?_
  conv => arg 2; whnf
  go_wp2_with fail
  refine Met.intro (hJ0 _ _ ?_)
  exact ⟨⟨rfl, rfl⟩, rfl, rfl, rfl, rfl, rfl, rfl⟩

set_option maxRecDepth 100000 in
set_option maxHeartbeats 4000000 in
theorem q8x (i : Nat) (wq8 : World) (n : Nat) (kk : Nat) (fv : Option Addr) (fc : Nat) (av : Option Addr) (ac : Nat) (hln : Hid (¬ n < 24)) (a : Act) (hf : Fr 101 a) (h1 : sl a 1 = .int .i64 (i : Int)) (h2 : sl a 2 = .slice av n ac) (h3 : sl a 3 = .slice fv n fc) (h4 : sl a 4 = .int .i64 (kk : Int)) (h5 : sl a 5 = .int .i64 (n : Int)) :
    Code.wp Try.prog (cAt [1,0,1,2,2,1,0,2,1,1,1,0,1,2,2] KDN) (Outs 2 (fun a' w' => Fr 101 a' ∧ sl a' 1 = .int .i64 (i : Int) ∧ sl a' 2 = .slice av n ac ∧ sl a' 3 = .slice fv n fc ∧ sl a' 4 = .int .i64 (kk : Int) ∧ wq8 = w')) a wq8 := by
  obtain ⟨f, ha, hs⟩ := frKDN hf
  have e1 := (hs 1).trans h1
  have e2 := (hs 2).trans h2
  have e3 := (hs 3).trans h3
  have e4 := (hs 4).trans h4
  have e5 := (hs 5).trans h5
  rw [e1, e2, e3, e4, e5] at ha
  clear hs hf e1 h1 e2 h2 e3 h3 e4 h4 e5 h5
  subst ha
  conv => arg 2; whnf
  have hi2 : ¬ (n : Int) < (24 : Int) := by have := hln.out; omega
  go_wp2_with fail
  exact ⟨rfl, ⟨rfl, rfl⟩, rfl, rfl, rfl, rfl, rfl⟩

set_option maxRecDepth 100000 in
set_option maxHeartbeats 4000000 in
theorem q8c (i : Nat) (wq8 : World) (n : Nat) (kk : Nat) (fv : Option Addr) (fc : Nat) (av : Option Addr) (ac : Nat) (hln : Hid (n < 24)) (a : Act) (hf : Fr 101 a) (h1 : sl a 1 = .int .i64 (i : Int)) (h2 : sl a 2 = .slice av n ac) (h3 : sl a 3 = .slice fv n fc) (h4 : sl a 4 = .int .i64 (kk : Int)) (h5 : sl a 5 = .int .i64 (n : Int)) :
    Code.wp Try.prog (cAt [1,0,1,2,2,1,0,2,1,1,1,0,1,2,2,0] KDN) (Exit.then (fun a' w' => Fr 101 a' ∧ sl a' 1 = .int .i64 (i : Int) ∧ sl a' 2 = .slice av n ac ∧ sl a' 3 = .slice fv n fc ∧ sl a' 4 = .int .i64 (kk : Int) ∧ sl a' 5 = .int .i64 (n : Int) ∧ wq8 = w') Nope) a wq8 := by
  obtain ⟨f, ha, hs⟩ := frKDN hf
  have e1 := (hs 1).trans h1
  have e2 := (hs 2).trans h2
  have e3 := (hs 3).trans h3
  have e4 := (hs 4).trans h4
  have e5 := (hs 5).trans h5
  rw [e1, e2, e3, e4, e5] at ha
  clear hs hf e1 h1 e2 h2 e3 h3 e4 h4 e5 h5
  subst ha
  refine piece2 fun J0 K0 hJ0 hK0 => ?_
  conv => arg 2; whnf
  have hi2 : (n : Int) < (24 : Int) := by have := hln.out; omega
  go_wp2_with fail
  refine Met.intro (hJ0 _ _ ?_)
  exact ⟨⟨rfl, rfl⟩, rfl, rfl, rfl, rfl, rfl, rfl⟩

set_option maxRecDepth 100000 in
set_option maxHeartbeats 4000000 in
theorem q10 (w : World) (i : Nat) (wq8 : World) (n : Nat) (kk : Nat) (fv : Option Addr) (fc : Nat) (fl : List Ft) (av : Option Addr) (ac : Nat) (la : List Ac) (HKG : Hid (Kg w wq8 fv fc fl av ac la)) (HNU : Hid (fl.length = n ∧ la.length = n ∧ kk < 100003)) (hln : Hid (n < 24)) (a : Act) (hf : Fr 101 a) (h1 : sl a 1 = .int .i64 (i : Int)) (h2 : sl a 2 = .slice av n ac) (h3 : sl a 3 = .slice fv n fc) (h4 : sl a 4 = .int .i64 (kk : Int)) (h5 : sl a 5 = .int .i64 (n : Int)) :
    Code.wp Try.prog (cAt [1,0,1,2,2,1,0,2,1,1,1,0,1,2,2,1,0,2,0] KDN) (Exit.then (fun a' w' => ∃ fv1 : Option Addr, ∃ fc1 : Nat, ∃ fz : Ft, Fr 101 a' ∧ sl a' 1 = .int .i64 (i : Int) ∧ sl a' 2 = .slice av n ac ∧ sl a' 3 = .slice fv1 (n + 1) fc1 ∧ sl a' 4 = .int .i64 (kk : Int) ∧ sl a' 5 = .int .i64 (n : Int) ∧ Kg w w' fv1 fc1 (fl ++ [fz]) av ac la) Nope) a wq8 := by
  obtain ⟨f, ha, hs⟩ := frKDN hf
  have e1 := (hs 1).trans h1
  have e2 := (hs 2).trans h2
  have e3 := (hs 3).trans h3
  have e4 := (hs 4).trans h4
  have e5 := (hs 5).trans h5
  rw [e1, e2, e3, e4, e5] at ha
  clear hs hf e1 h1 e2 h2 e3 h3 e4 h4 e5 h5
  subst ha
  refine piece2 fun J0 K0 hJ0 hK0 => ?_
  conv => arg 2; whnf
  have hn1 := HNU.out.1
  have hn3 := HNU.out.2.2
  have hln := hln.out
  obtain ⟨e1, he1⟩ : ∃ e : Int, (kk : Int) % 5 - 1 = e := ⟨_, rfl⟩
  obtain ⟨e2, he2⟩ : ∃ e : Int, (kk : Int) / 5 % 7 - 1 = e := ⟨_, rfl⟩
  obtain ⟨g', cap', w4, hrun, hkg⟩ := Kg.fate HKG.out (e1, e2) (by omega)
  rw [hn1] at hrun
  have HRUN := Lib.hid hrun
  have HKN := Lib.hid hkg
  clear hrun hkg
  go_wp2_with (at_builtin; refine Lib.wpList_append_run _ rfl (.tmp 15) (.tmp 24) _ _ rfl _ _ rfl rfl _ _ HRUN.out ?_)
  refine Met.intro (hJ0 _ _ ?_)
  exact ⟨some ⟨g', 0, none⟩, cap', (e1, e2), ⟨rfl, rfl⟩, rfl, rfl, rfl, rfl, rfl, HKN.out⟩

set_option maxRecDepth 100000 in
set_option maxHeartbeats 4000000 in
theorem q11 (w : World) (i : Nat) (n : Nat) (kk : Nat) (fl : List Ft) (av : Option Addr) (ac : Nat) (la : List Ac) (HNU : Hid (fl.length = n ∧ la.length = n ∧ kk < 100003)) (hln : Hid (n < 24)) (w10 : World) (fc1 : Nat) (fz : Ft) (f0 : Nat) (HKG1 : Hid (Kg w w10 (some ⟨f0, 0, none⟩) fc1 (fl ++ [fz]) av ac la)) (hfc : Hid (n + 1 ≤ fc1)) (_hfm : Hid (fc1 ≤ maxLen)) (a : Act) (hf : Fr 101 a) (h1 : sl a 1 = .int .i64 (i : Int)) (h2 : sl a 2 = .slice av n ac) (h3 : sl a 3 = .slice (some ⟨f0, 0, none⟩) (n + 1) fc1) (h4 : sl a 4 = .int .i64 (kk : Int)) (h5 : sl a 5 = .int .i64 (n : Int)) :
    Code.wp Try.prog (cAt [1,0,1,2,2,1,0,2,1,1,1,0,1,2,2,1,0,2,1,0] KDN) (Exit.then (fun a' w' => ∃ av1 : Option Addr, ∃ ac1 : Nat, ∃ y : Ac, Fr 101 a' ∧ sl a' 1 = .int .i64 (i : Int) ∧ sl a' 2 = .slice av1 (n + 1) ac1 ∧ sl a' 3 = .slice (some ⟨f0, 0, none⟩) (n + 1) fc1 ∧ sl a' 4 = .int .i64 (kk : Int) ∧ sl a' 5 = .int .i64 (n : Int) ∧ Kg w w' (some ⟨f0, 0, none⟩) fc1 (fl ++ [fz]) av1 ac1 (la ++ [y])) Nope) a w10 := by
  obtain ⟨f, ha, hs⟩ := frKDN hf
  have e1 := (hs 1).trans h1
  have e2 := (hs 2).trans h2
  have e3 := (hs 3).trans h3
  have e4 := (hs 4).trans h4
  have e5 := (hs 5).trans h5
  rw [e1, e2, e3, e4, e5] at ha
  clear hs hf e1 h1 e2 h2 e3 h3 e4 h4 e5 h5
  subst ha
  refine piece2 fun J0 K0 hJ0 hK0 => ?_
  conv => arg 2; whnf
  have hkk := HNU.out.2.2
  have hnn := hln.out
  have hfl1 : (fl ++ [fz]).length = n + 1 := by simp [HNU.out.1]
  obtain ⟨a3, t1⟩ : ∃ e : Int, (kk : Int) / 3 = e := ⟨_, rfl⟩
  obtain ⟨e1, t2⟩ : ∃ e : Int, a3 % 8 = e := ⟨_, rfl⟩
  obtain ⟨a25, t3⟩ : ∃ e : Int, (kk : Int) % 25 = e := ⟨_, rfl⟩
  obtain ⟨e2, t4⟩ : ∃ e : Int, a25 - 1 = e := ⟨_, rfl⟩
  obtain ⟨b1, t5⟩ : ∃ e : Int, (kk : Int) % 256 = e := ⟨_, rfl⟩
  obtain ⟨b2, t6⟩ : ∃ e : Int, (n : Int) % 256 = e := ⟨_, rfl⟩
  obtain ⟨a7, t7⟩ : ∃ e : Int, (kk : Int) / 7 = e := ⟨_, rfl⟩
  obtain ⟨b4, t8⟩ : ∃ e : Int, a7 % 256 = e := ⟨_, rfl⟩
  obtain ⟨m5, t9⟩ : ∃ e : Nat, (kk : Int) % 5 = (e : Int) := ⟨((kk : Int) % 5).toNat, by omega⟩
  obtain ⟨hh, t0⟩ : ∃ e : Nat, (n : Int) / 2 = (e : Int) := ⟨((n : Int) / 2).toNat, by omega⟩
  have HV : Hid ((0 ≤ b1 ∧ b1 < 256) ∧ (0 ≤ b2 ∧ b2 < 256) ∧ (0 ≤ b4 ∧ b4 < 256) ∧ m5 ≤ 4 ∧ hh ≤ n ∧ I64 e1 ∧ I64 e2) := ⟨by omega, by omega, by omega, by omega, by omega, by unfold I64; omega, by unfold I64; omega⟩
  have g3 : IntKind.i64.wrap a3 = a3 := by rw [IntKind.wrap_i64]; omega
  have g8 : a3.tmod 8 = e1 := by rw [Int.tmod_eq_emod_of_nonneg (by omega)]; exact t2
  have g25 : (kk : Int).tmod 25 = a25 := by rw [Int.tmod_eq_emod_of_nonneg (by omega)]; exact t3
  have g2 : IntKind.i64.wrap e2 = e2 := by rw [IntKind.wrap_i64]; omega
  have gb1 : IntKind.u8.wrap (kk : Int) = b1 := by rw [IntKind.wrap_u8]; omega
  have gb2 : IntKind.u8.wrap (n : Int) = b2 := by rw [IntKind.wrap_u8]; omega
  have g7 : IntKind.i64.wrap a7 = a7 := by rw [IntKind.wrap_i64]; omega
  have gb4 : IntKind.u8.wrap a7 = b4 := by rw [IntKind.wrap_u8]; omega
  have g5 : (kk : Int).tmod 5 = (m5 : Int) := by rw [Int.tmod_eq_emod_of_nonneg (by omega)]; exact t9
  have gh : IntKind.i64.wrap (hh : Int) = (hh : Int) := by rw [IntKind.wrap_i64]; omega
  have HFS := Lib.hid (fun W => run_from_fates W f0 (n + 1) fc1 hh hfc.out (by have := HV.out.2.2.2.2.1; omega))
  go_wp2_with fail
  refine wp_region_held_drew (S := fun w' => True) (by kernel_rfl) trivial (fun hS => ?_)
  refine tk 0 26 (.slice av n ac) rfl rfl (by kernel_rfl) (by kernel_rfl) (by kernel_rfl) (fun _ _ _ h => h) (Or.inl ⟨by rfl, fun w' h' => ?_⟩) hS ?_
  · go_simp
  try simp only [Act.put, List.setIfInBounds_toArray, List.set_cons_zero, List.set_cons_succ]
  refine tk 1 27 (.int .i64 (kk : Int)) rfl rfl (by kernel_rfl) (by kernel_rfl) (by kernel_rfl) (fun _ _ _ h => h) (Or.inl ⟨by rfl, fun w' h' => ?_⟩) hS ?_
  · go_simp
  try simp only [Act.put, List.setIfInBounds_toArray, List.set_cons_zero, List.set_cons_succ]
  refine tk 2 28 (.int .i64 a3) rfl rfl (by kernel_rfl) (by kernel_rfl) (by kernel_rfl) (fun _ _ _ h => h) (Or.inl ⟨by rfl, fun w' h' => ?_⟩) hS ?_
  · (first | (go_simp; done) | (go_simp; exact g3))
  try simp only [Act.put, List.setIfInBounds_toArray, List.set_cons_zero, List.set_cons_succ]
  refine tk 3 29 (.int .i64 e1) rfl rfl (by kernel_rfl) (by kernel_rfl) (by kernel_rfl) (fun _ _ _ h => h) (Or.inl ⟨by rfl, fun w' h' => ?_⟩) hS ?_
  · (first | (go_simp; done) | (go_simp; exact g8))
  try simp only [Act.put, List.setIfInBounds_toArray, List.set_cons_zero, List.set_cons_succ]
  refine tk 4 30 (.int .i64 (kk : Int)) rfl rfl (by kernel_rfl) (by kernel_rfl) (by kernel_rfl) (fun _ _ _ h => h) (Or.inl ⟨by rfl, fun w' h' => ?_⟩) hS ?_
  · go_simp
  try simp only [Act.put, List.setIfInBounds_toArray, List.set_cons_zero, List.set_cons_succ]
  refine tk 5 31 (.int .i64 a25) rfl rfl (by kernel_rfl) (by kernel_rfl) (by kernel_rfl) (fun _ _ _ h => h) (Or.inl ⟨by rfl, fun w' h' => ?_⟩) hS ?_
  · (first | (go_simp; done) | (go_simp; exact g25))
  try simp only [Act.put, List.setIfInBounds_toArray, List.set_cons_zero, List.set_cons_succ]
  refine tk 6 32 (.int .i64 e2) rfl rfl (by kernel_rfl) (by kernel_rfl) (by kernel_rfl) (fun _ _ _ h => h) (Or.inl ⟨by rfl, fun w' h' => ?_⟩) hS ?_
  · (first | (go_simp; done) | (go_simp; exact g2))
  try simp only [Act.put, List.setIfInBounds_toArray, List.set_cons_zero, List.set_cons_succ]
  refine tk 7 33 (.int .i64 (kk : Int)) rfl rfl (by kernel_rfl) (by kernel_rfl) (by kernel_rfl) (fun _ _ _ h => h) (Or.inl ⟨by rfl, fun w' h' => ?_⟩) hS ?_
  · go_simp
  try simp only [Act.put, List.setIfInBounds_toArray, List.set_cons_zero, List.set_cons_succ]
  refine tk 8 34 (.int .u8 b1) rfl rfl (by kernel_rfl) (by kernel_rfl) (by kernel_rfl) (fun _ _ _ h => h) (Or.inl ⟨by rfl, fun w' h' => ?_⟩) hS ?_
  · (first | (go_simp; done) | (go_simp; exact gb1))
  try simp only [Act.put, List.setIfInBounds_toArray, List.set_cons_zero, List.set_cons_succ]
  refine tk 9 35 (.int .i64 (n : Int)) rfl rfl (by kernel_rfl) (by kernel_rfl) (by kernel_rfl) (fun _ _ _ h => h) (Or.inl ⟨by rfl, fun w' h' => ?_⟩) hS ?_
  · go_simp
  try simp only [Act.put, List.setIfInBounds_toArray, List.set_cons_zero, List.set_cons_succ]
  refine tk 10 36 (.int .u8 b2) rfl rfl (by kernel_rfl) (by kernel_rfl) (by kernel_rfl) (fun _ _ _ h => h) (Or.inl ⟨by rfl, fun w' h' => ?_⟩) hS ?_
  · (first | (go_simp; done) | (go_simp; exact gb2))
  try simp only [Act.put, List.setIfInBounds_toArray, List.set_cons_zero, List.set_cons_succ]
  refine tk 11 37 (.int .i64 (kk : Int)) rfl rfl (by kernel_rfl) (by kernel_rfl) (by kernel_rfl) (fun _ _ _ h => h) (Or.inl ⟨by rfl, fun w' h' => ?_⟩) hS ?_
  · go_simp
  try simp only [Act.put, List.setIfInBounds_toArray, List.set_cons_zero, List.set_cons_succ]
  refine tk 12 38 (.int .i64 a7) rfl rfl (by kernel_rfl) (by kernel_rfl) (by kernel_rfl) (fun _ _ _ h => h) (Or.inl ⟨by rfl, fun w' h' => ?_⟩) hS ?_
  · (first | (go_simp; done) | (go_simp; exact g7))
  try simp only [Act.put, List.setIfInBounds_toArray, List.set_cons_zero, List.set_cons_succ]
  refine tk 13 39 (.int .u8 b4) rfl rfl (by kernel_rfl) (by kernel_rfl) (by kernel_rfl) (fun _ _ _ h => h) (Or.inl ⟨by rfl, fun w' h' => ?_⟩) hS ?_
  · (first | (go_simp; done) | (go_simp; exact gb4))
  try simp only [Act.put, List.setIfInBounds_toArray, List.set_cons_zero, List.set_cons_succ]
  refine tk 15 41 (.int .i64 (kk : Int)) rfl rfl (by kernel_rfl) (by kernel_rfl) (by kernel_rfl) (fun _ _ _ h => h) (Or.inl ⟨by rfl, fun w' h' => ?_⟩) hS ?_
  · go_simp
  try simp only [Act.put, List.setIfInBounds_toArray, List.set_cons_zero, List.set_cons_succ]
  refine tk 16 42 (.int .i64 (m5 : Int)) rfl rfl (by kernel_rfl) (by kernel_rfl) (by kernel_rfl) (fun _ _ _ h => h) (Or.inl ⟨by rfl, fun w' h' => ?_⟩) hS ?_
  · (first | (go_simp; done) | (go_simp; exact g5))
  try simp only [Act.put, List.setIfInBounds_toArray, List.set_cons_zero, List.set_cons_succ]
  refine tk 18 44 (.slice (some ⟨f0, 0, none⟩) (n + 1) fc1) rfl rfl (by kernel_rfl) (by kernel_rfl) (by kernel_rfl) (fun _ _ _ h => h) (Or.inl ⟨by rfl, fun w' h' => ?_⟩) hS ?_
  · go_simp
  try simp only [Act.put, List.setIfInBounds_toArray, List.set_cons_zero, List.set_cons_succ]
  refine tk 19 45 (.int .i64 (n : Int)) rfl rfl (by kernel_rfl) (by kernel_rfl) (by kernel_rfl) (fun _ _ _ h => h) (Or.inl ⟨by rfl, fun w' h' => ?_⟩) hS ?_
  · go_simp
  try simp only [Act.put, List.setIfInBounds_toArray, List.set_cons_zero, List.set_cons_succ]
  refine tk 20 46 (.int .i64 (hh : Int)) rfl rfl (by kernel_rfl) (by kernel_rfl) (by kernel_rfl) (fun _ _ _ h => h) (Or.inl ⟨by rfl, fun w' h' => ?_⟩) hS ?_
  · (first | (go_simp; done) | (go_simp; exact gh))
  try simp only [Act.put, List.setIfInBounds_toArray, List.set_cons_zero, List.set_cons_succ]
  refine tk 21 47 (.slice (some ⟨f0, hh * 2, none⟩) (n + 1 - hh) (fc1 - hh)) rfl rfl (by kernel_rfl) (by kernel_rfl) (by kernel_rfl) (fun _ _ _ h => h) (Or.inl ⟨by rfl, fun w' h' => ?_⟩) hS ?_
  · have f1 := HFS.out w'
    (first | exact f1 | go_simp)
  try simp only [Act.put, List.setIfInBounds_toArray, List.set_cons_zero, List.set_cons_succ]
  refine wpAnyH_ready (rs := [14]) (by kernel_rfl) (by simp) (AllReadyH.cons rfl (fun K hK => ?_) AllReadyH.nil)
  rw [if_pos (by rfl)]
  go_wp2_with fail
  obtain ⟨r0, hr0⟩ : ∃ z, w10.heap.size = z := ⟨_, rfl⟩
  have HA : Hid (Below w10.heap.size w10 (w10.drew.alloc (.cells #[.int .u8 b1, .int .u8 b2, .int .u8 3, .int .u8 b4] 5)) ∧ Own (w10.drew.alloc (.cells #[.int .u8 b1, .int .u8 b2, .int .u8 3, .int .u8 b4] 5)) w10.heap.size (some ⟨r0, 0, none⟩) 4 4 [b1, b2, 3, b4]) := ⟨((Below.refl _ _).drew).alloc (by simp) _, by rw [← hr0]; exact Own.lit w10.drew w10.heap.size [b1, b2, 3, b4] 4 rfl (by decide) (Nat.le_refl _)⟩
  first | rw [hr0] | (rw [show w10.drew.heap.size = r0 from hr0])
  obtain ⟨wa, hwa⟩ : ∃ z, w10.drew.alloc (.cells #[.int .u8 b1, .int .u8 b2, .int .u8 3, .int .u8 b4] 5) = z := ⟨_, rfl⟩
  rw [hwa] at HA
  first | rw [hwa] | (change K _ (w10.drew.alloc (.cells #[.int .u8 b1, .int .u8 b2, .int .u8 3, .int .u8 b4] 5)); rw [hwa])
  clear hr0 hwa
  refine hK.out _ _ trivial (fun hS => ?_)
  clear hK K
  have HBS := Lib.hid (fun W => run_to_bytes W (some ⟨r0, 0, none⟩) 4 4 m5 (by have := HV.out.2.2.2.1; omega) (Nat.le_refl _) (by decide) (fun h => by cases h) (fun b hb => by cases hb; exact ⟨_, rfl⟩))
  try simp only [Act.put, List.setIfInBounds_toArray, List.set_cons_zero, List.set_cons_succ]
  refine tk 17 43 (.slice (some ⟨r0, 0, none⟩) m5 4) rfl rfl (by kernel_rfl) (by kernel_rfl) (by kernel_rfl) (fun _ _ _ h => h) (Or.inl ⟨by rfl, fun w' h' => ?_⟩) hS ?_
  · have f1 := HBS.out w'
    (first | exact f1 | go_simp)
  try simp only [Act.put, List.setIfInBounds_toArray, List.set_cons_zero, List.set_cons_succ]
  refine tk 22 48 (.agg #[.int .i64 e1, .int .i64 e2, .slice (some ⟨r0, 0, none⟩) m5 4, .slice (some ⟨f0, hh * 2, none⟩) (n + 1 - hh) (fc1 - hh)]) rfl rfl (by kernel_rfl) (by kernel_rfl) (by kernel_rfl) (fun _ _ _ h => h) (Or.inl ⟨by rfl, fun w' h' => ?_⟩) hS ?_
  · go_simp
  try simp only [Act.put, List.setIfInBounds_toArray, List.set_cons_zero, List.set_cons_succ]
  refine wpAnyH_ready (rs := [23]) (by kernel_rfl) (by simp) (AllReadyH.cons rfl (fun K hK => ?_) AllReadyH.nil)
  rw [if_pos (by rfl)]
  go_wp2_with fail
  refine hK.out _ _ trivial (fun hS => ?_)
  clear hK K
  try simp only [Act.put, List.setIfInBounds_toArray, List.set_cons_zero, List.set_cons_succ]
  refine wpAnyH_ready (rs := [24]) (by kernel_rfl) (by simp) (AllReadyH.cons rfl (fun K hK => ?_) AllReadyH.nil)
  rw [if_pos (by rfl)]
  obtain ⟨g', cap', w4, hrun, hkg⟩ := HKG1.out.act HA.out.1 (r := r0) (xs := [b1, b2, 3, b4]) HA.out.2 (by intro x hx; simp at hx; have := HV.out; rcases hx with rfl | rfl | rfl | rfl <;> omega) ⟨e1, e2, some ⟨r0, 0, none⟩, m5, 4, [b1, b2, 3, b4].take m5, some ⟨f0, hh * 2, none⟩, n + 1 - hh, fc1 - hh, ((fl ++ [fz]).drop hh).take (n + 1 - hh)⟩ rfl (by have := HV.out.2.2.2.1; exact this) rfl (off := hh) rfl (by rw [hfl1]; show hh + (n + 1 - hh) ≤ _; have := HV.out.2.2.2.2.1; omega) rfl ⟨HV.out.2.2.2.2.2.1, HV.out.2.2.2.2.2.2, by show n + 1 - hh ≤ 1000; omega⟩ (by rw [HNU.out.2.1]; omega)
  rw [HNU.out.2.1] at hrun
  have HKN := Lib.hid hkg
  refine Lib.wp_append_run (wa.alloc (.cells #[.int .i64 e1, .int .i64 e2, .slice (some ⟨r0, 0, none⟩) m5 4, .slice (some ⟨f0, hh * 2, none⟩) (n + 1 - hh) (fc1 - hh)] 33)) (.tmp 26) (.tmp 49) 22 22 rfl _ _ rfl rfl _ _ hrun ?_
  change K (Act.put _ (some 50) (.slice (some ⟨g', 0, none⟩) (n + 1) cap')) _
  clear hrun hkg
  refine hK.out _ _ trivial (fun hS => ?_)
  clear hK K
  try simp only [Act.put, List.setIfInBounds_toArray, List.set_cons_zero, List.set_cons_succ]
  refine tk 25 2 (.slice (some ⟨g', 0, none⟩) (n + 1) cap') rfl rfl (by kernel_rfl) (by kernel_rfl) (by kernel_rfl) (fun _ _ _ h => h) (Or.inl ⟨by rfl, fun w' h' => ?_⟩) hS ?_
  · go_simp
  refine wpAnyH_done (by kernel_rfl) ?_ _
  go_wp2_with fail
  refine Met.intro (hJ0 _ _ ?_)
  exact ⟨some ⟨g', 0, none⟩, cap', ⟨e1, e2, some ⟨r0, 0, none⟩, m5, 4, [b1, b2, 3, b4].take m5, some ⟨f0, hh * 2, none⟩, n + 1 - hh, fc1 - hh, ((fl ++ [fz]).drop hh).take (n + 1 - hh)⟩, ⟨rfl, rfl⟩, rfl, rfl, rfl, rfl, rfl, HKN.out⟩

set_option maxRecDepth 100000 in
set_option maxHeartbeats 4000000 in
theorem q12 (i : Nat) (n : Nat) (kk : Nat) (fl : List Ft) (la : List Ac) (HNU : Hid (fl.length = n ∧ la.length = n ∧ kk < 100003)) (hln : Hid (n < 24)) (fc1 : Nat) (f0 : Nat) (w11 : World) (av1 : Option Addr) (ac1 : Nat) (a : Act) (hf : Fr 101 a) (h1 : sl a 1 = .int .i64 (i : Int)) (h2 : sl a 2 = .slice av1 (n + 1) ac1) (h3 : sl a 3 = .slice (some ⟨f0, 0, none⟩) (n + 1) fc1) (h4 : sl a 4 = .int .i64 (kk : Int)) (h5 : sl a 5 = .int .i64 (n : Int)) :
    Code.wp Try.prog (cAt [1,0,1,2,2,1,0,2,1,1,1,0,1,2,2,1,0,2,1,1] KDN) (Exit.then (fun a' w' => ∃ k2 : Nat, Fr 101 a' ∧ sl a' 1 = .int .i64 (i : Int) ∧ sl a' 2 = .slice av1 (n + 1) ac1 ∧ sl a' 3 = .slice (some ⟨f0, 0, none⟩) (n + 1) fc1 ∧ sl a' 4 = .int .i64 (k2 : Int) ∧ sl a' 5 = .int .i64 (n : Int) ∧ k2 < 100003 ∧ w11 = w') Nope) a w11 := by
  obtain ⟨f, ha, hs⟩ := frKDN hf
  have e1 := (hs 1).trans h1
  have e2 := (hs 2).trans h2
  have e3 := (hs 3).trans h3
  have e4 := (hs 4).trans h4
  have e5 := (hs 5).trans h5
  rw [e1, e2, e3, e4, e5] at ha
  clear hs hf e1 h1 e2 h2 e3 h3 e4 h4 e5 h5
  subst ha
  refine piece2 fun J0 K0 hJ0 hK0 => ?_
  conv => arg 2; whnf
  have hkk := HNU.out.2.2
  have hnn := hln.out
  obtain ⟨k2, hk2⟩ : ∃ e : Nat, ((kk : Int) * 31 + 7 * (n : Int) + 11) % 100003 = (e : Int) := ⟨(((kk : Int) * 31 + 7 * (n : Int) + 11) % 100003).toNat, by omega⟩
  have HK2 : Hid (k2 < 100003) := by show k2 < 100003; omega
  have HKE := Lib.hid hk2
  clear hk2
  go_wp2_with fail
  refine Met.intro (hJ0 _ _ ?_)
  exact ⟨k2, ⟨rfl, rfl⟩, rfl, rfl, rfl, by rw [← HKE.out]; rfl, rfl, HK2.out, rfl⟩

set_option maxRecDepth 100000 in
set_option maxHeartbeats 4000000 in
theorem q8n (i : Nat) (n : Nat) (hln : Hid (n < 24)) (w12 : World) (kk9 : Nat) (fv9 : Option Addr) (fc9 : Nat) (av9 : Option Addr) (ac9 : Nat) (a : Act) (hf : Fr 101 a) (h1 : sl a 1 = .int .i64 (i : Int)) (h2 : sl a 2 = .slice av9 (n + 1) ac9) (h3 : sl a 3 = .slice fv9 (n + 1) fc9) (h4 : sl a 4 = .int .i64 (kk9 : Int)) (h5 : sl a 5 = .int .i64 (n : Int)) :
    Code.wp Try.prog (cAt [1,0,1,2,2,1,0,2,1,1,1,0,1,2,2,1,1] KDN) (Exit.then (fun a' w' => Fr 101 a' ∧ sl a' 1 = .int .i64 (i : Int) ∧ sl a' 2 = .slice av9 (n + 1) ac9 ∧ sl a' 3 = .slice fv9 (n + 1) fc9 ∧ sl a' 4 = .int .i64 (kk9 : Int) ∧ sl a' 5 = .int .i64 ((n + 1 : Nat) : Int) ∧ w12 = w') Nope) a w12 := by
  obtain ⟨f, ha, hs⟩ := frKDN hf
  have e1 := (hs 1).trans h1
  have e2 := (hs 2).trans h2
  have e3 := (hs 3).trans h3
  have e4 := (hs 4).trans h4
  have e5 := (hs 5).trans h5
  rw [e1, e2, e3, e4, e5] at ha
  clear hs hf e1 h1 e2 h2 e3 h3 e4 h4 e5 h5
  subst ha
  refine piece2 fun J0 K0 hJ0 hK0 => ?_
  conv => arg 2; whnf
  have hw : IntKind.i64.wrap ((n : Int) + 1) = ((n + 1 : Nat) : Int) := by have := hln.out; rw [IntKind.wrap_i64]; omega
  go_wp2_with fail
  refine Met.intro (hJ0 _ _ ?_)
  exact ⟨⟨rfl, rfl⟩, rfl, rfl, rfl, rfl, rfl, rfl⟩

theorem known_rows (w : World) (wq2 : World) (i : Nat) (hli : Hid (i < 40)) (HK0 : Hid (Kg w wq2 none 0 [] none 0 [])) (a : Act) (hf : Fr 101 a) (h1 : sl a 1 = .int .i64 (i : Int)) (h2 : sl a 2 = .slice none 0 0) (h3 : sl a 3 = .slice none 0 0) (h4 : sl a 4 = .int .i64 (i : Int)) :
    Code.wp Try.prog (cAt [1,0,1,2,2,1,0,2,1,1,1,0] KDN) (Exit.then (fun a' w' => ∃ kk : Nat, ∃ fv : Option Addr, ∃ fc : Nat, ∃ fl : List Ft, ∃ av : Option Addr, ∃ ac : Nat, ∃ la : List Ac, Fr 101 a' ∧ sl a' 1 = .int .i64 (i : Int) ∧ sl a' 2 = .slice av 24 ac ∧ sl a' 3 = .slice fv 24 fc ∧ sl a' 4 = .int .i64 (kk : Int) ∧ Kg w w' fv fc fl av ac la ∧ (fl.length = 24 ∧ la.length = 24 ∧ kk < 100003)) Nope) a wq2 := by
  have hli := hli.out
  have HK0 := HK0.out
  refine wp_sqR (x := cAt [1,0,1,2,2,1,0,2,1,1,1,0,0] KDN) (y := cAt [1,0,1,2,2,1,0,2,1,1,1,0,1] KDN) (by kernel_rfl) (q8i wq2 i a hf h1 h2 h3 h4) ?_
  rintro a_8 _ ⟨hf, h1, h2, h3, h4, h5, rfl⟩
  refine wp_blockR (x := cAt [1,0,1,2,2,1,0,2,1,1,1,0,1,2] KDN) (id := 2) (by kernel_rfl) ?_
  refine wp_loopR (x := cAt [1,0,1,2,2,1,0,2,1,1,1,0,1,2,2] KDN) (by kernel_rfl) (fun a' w' => ∃ n : Nat, n ≤ 24 ∧ ∃ kk : Nat, ∃ fv : Option Addr, ∃ fc : Nat, ∃ fl : List Ft, ∃ av : Option Addr, ∃ ac : Nat, ∃ la : List Ac, (Kg w w' fv fc fl av ac la) ∧ (fl.length = n ∧ la.length = n ∧ kk < 100003) ∧ Fr 101 a' ∧ sl a' 1 = .int .i64 (i : Int) ∧ sl a' 2 = .slice av n ac ∧ sl a' 3 = .slice fv n fc ∧ sl a' 4 = .int .i64 (kk : Int) ∧ sl a' 5 = .int .i64 (n : Int)) (fun a' _ => 24 - (numOf (sl a' 5)).toNat) ⟨0, Nat.zero_le _, i, none, 0, [], none, 0, [], HK0, ⟨rfl, rfl, by have := hli; omega⟩, hf, h1, h2, h3, h4, h5⟩ ?_
  rintro a_l wq8 ⟨n, hin, kk, fv, fc, fl, av, ac, la, HKG, HNU, hf, h1, h2, h3, h4, h5⟩
  have hIn := h5
  by_cases hln : n < 24
  case neg =>
    refine wp_endX (q8x i wq8 n kk fv fc av ac hln a_l hf h1 h2 h3 h4 h5) ?_
    rintro a_9 _ ⟨hf, h1, h2, h3, h4, rfl⟩
    have hE : n = 24 := by omega
    subst hE
    exact thru ⟨kk, fv, fc, fl, av, ac, la, hf, h1, h2, h3, h4, HKG, HNU⟩
  refine wp_sqR (x := cAt [1,0,1,2,2,1,0,2,1,1,1,0,1,2,2,0] KDN) (y := cAt [1,0,1,2,2,1,0,2,1,1,1,0,1,2,2,1] KDN) (by kernel_rfl) (q8c i wq8 n kk fv fc av ac hln a_l hf h1 h2 h3 h4 h5) ?_
  rintro a_10 _ ⟨hf, h1, h2, h3, h4, h5, rfl⟩
  refine wp_sqR (x := cAt [1,0,1,2,2,1,0,2,1,1,1,0,1,2,2,1,0] KDN) (y := cAt [1,0,1,2,2,1,0,2,1,1,1,0,1,2,2,1,1] KDN) (by kernel_rfl) (R := fun a' w' => ∃ kk9 : Nat, ∃ fv9 : Option Addr, ∃ fc9 : Nat, ∃ fl9 : List Ft, ∃ av9 : Option Addr, ∃ ac9 : Nat, ∃ la9 : List Ac, (Kg w w' fv9 fc9 fl9 av9 ac9 la9) ∧ (fl9.length = n + 1 ∧ la9.length = n + 1 ∧ kk9 < 100003) ∧ Fr 101 a' ∧ sl a' 1 = .int .i64 (i : Int) ∧ sl a' 2 = .slice av9 (n + 1) ac9 ∧ sl a' 3 = .slice fv9 (n + 1) fc9 ∧ sl a' 4 = .int .i64 (kk9 : Int) ∧ sl a' 5 = .int .i64 (n : Int)) ?_ ?_
  · refine wp_blockR (x := cAt [1,0,1,2,2,1,0,2,1,1,1,0,1,2,2,1,0,2] KDN) (id := 3) (by kernel_rfl) ?_
    refine wp_sqR (x := cAt [1,0,1,2,2,1,0,2,1,1,1,0,1,2,2,1,0,2,0] KDN) (y := cAt [1,0,1,2,2,1,0,2,1,1,1,0,1,2,2,1,0,2,1] KDN) (by kernel_rfl) (q10 w i wq8 n kk fv fc fl av ac la HKG HNU hln a_10 hf h1 h2 h3 h4 h5) ?_
    rintro a_11 w10 ⟨fv1, fc1, fz, hf, h1, h2, h3, h4, h5, HKG1⟩
    have hn1 := HNU.1
    have hn2 := HNU.2.1
    obtain ⟨f0, hf0, hfc, hfm⟩ := HKG1.faddr (by simp)
    have hfl1 : (fl ++ [fz]).length = n + 1 := by simp [hn1]
    rw [hfl1] at hfc
    subst hf0
    refine wp_sqR (x := cAt [1,0,1,2,2,1,0,2,1,1,1,0,1,2,2,1,0,2,1,0] KDN) (y := cAt [1,0,1,2,2,1,0,2,1,1,1,0,1,2,2,1,0,2,1,1] KDN) (by kernel_rfl) (q11 w i n kk fl av ac la HNU hln w10 fc1 fz f0 HKG1 hfc hfm a_11 hf h1 h2 h3 h4 h5) ?_
    rintro a_12 w11 ⟨av1, ac1, y, hf, h1, h2, h3, h4, h5, HKG2⟩
    refine wp_endR (q12 i n kk fl la HNU hln fc1 f0 w11 av1 ac1 a_12 hf h1 h2 h3 h4 h5) ?_
    rintro a_13 _ ⟨k2, hf, h1, h2, h3, h4, h5, HK2, rfl⟩
    have hl1 : (fl ++ [fz]).length = n + 1 := by simp [hn1]
    have hl2 : (la ++ [y]).length = n + 1 := by simp [hn2]
    exact ⟨k2, some ⟨f0, 0, none⟩, fc1, fl ++ [fz], av1, ac1, la ++ [y], HKG2, ⟨hl1, hl2, HK2⟩, hf, h1, h2, h3, h4, h5⟩
  rintro a_14 w12 ⟨kk9, fv9, fc9, fl9, av9, ac9, la9, HKG9, HNU9, hf, h1, h2, h3, h4, h5⟩
  refine wp_endR (q8n i n hln w12 kk9 fv9 fc9 av9 ac9 a_14 hf h1 h2 h3 h4 h5) ?_
  rintro a_15 _ ⟨hf, h1, h2, h3, h4, h5, rfl⟩
  refine ⟨⟨n + 1, hln, kk9, fv9, fc9, fl9, av9, ac9, la9, HKG9, HNU9, hf, h1, h2, h3, h4, h5⟩, ?_⟩
  rw [hIn, h5]
  simp only [numOf]
  omega

set_option maxRecDepth 100000 in
set_option maxHeartbeats 4000000 in
theorem q13 (w : World) (i : Nat) (hli : Hid (i < 40)) (w13 : World) (kk : Nat) (fv : Option Addr) (fc : Nat) (fl : List Ft) (av : Option Addr) (ac : Nat) (la : List Ac) (HKG : Hid (Kg w w13 fv fc fl av ac la)) (HNU : Hid (fl.length = 24 ∧ la.length = 24 ∧ kk < 100003)) (a : Act) (hf : Fr 101 a) (h1 : sl a 1 = .int .i64 (i : Int)) (h2 : sl a 2 = .slice av 24 ac) (h3 : sl a 3 = .slice fv 24 fc) (h4 : sl a 4 = .int .i64 (kk : Int)) :
    Code.wp Try.prog (cAt [1,0,1,2,2,1,0,2,1,1,1,1,0] KDN) (Exit.then (fun a' w' => Fr 101 a' ∧ sl a' 1 = .int .i64 (i : Int) ∧ sl a' 84 = .bool false ∧ Below w.heap.size w w') Nope) a w13 := by
  obtain ⟨f, ha, hs⟩ := frKDN hf
  have e1 := (hs 1).trans h1
  have e2 := (hs 2).trans h2
  have e3 := (hs 3).trans h3
  have e4 := (hs 4).trans h4
  rw [e1, e2, e3, e4] at ha
  clear hs hf e1 h1 e2 h2 e3 h3 e4 h4
  subst ha
  refine piece2 fun J0 K0 hJ0 hK0 => ?_
  conv => arg 2; whnf
  have hl1 := HNU.out.1
  have hl2 := HNU.out.2.1
  have hi40 := hli.out
  have HAC : Hid (∀ W, Below w13.heap.size w13 W → Acr W av 24 la) := fun W hW => by
    have h := HKG.out.acr
    rw [hl2] at h
    exact h.below hW
  have HFT : Hid (∀ W, Below w13.heap.size w13 W → Fts W fv 24 fl) := fun W hW => by
    obtain ⟨L, h1, _⟩ := HKG.out.ex
    have ho : OwnG w13 w.heap.size 44 2 fv fl.length fc (fcs fl) := h1.hd
    have h := fts_ownT ho
    rw [hl1] at h
    exact h.below hW
  obtain ⟨p1, hp1⟩ : ∃ e : Int, (i : Int) % 9 - 1 = e := ⟨_, rfl⟩
  obtain ⟨p2, hp2⟩ : ∃ e : Int, (i : Int) / 3 - 1 = e := ⟨_, rfl⟩
  obtain ⟨q, hq⟩ : ∃ e : Nat, (i : Int) % 24 = (e : Int) := ⟨((i : Int) % 24).toNat, by omega⟩
  have HP1 : Hid (I64 p1 ∧ I64 (i : Int)) := ⟨by unfold I64; omega, by unfold I64; omega⟩
  have hq0 : (0 : Int) ≤ (q : Int) := by omega
  have hq24 : (q : Int) < 24 := by omega
  have HQ24 : Hid (q < 24) := by show q < 24; omega
  clear hl1 hl2
  go_wp2_with fail
  refine (plays13_any (i : Int) av 24 ac la p1 p2 w13 (HAC.out _ (Below.refl _ _)) (by decide) HP1.out.1).mono ?_
  rintro e w1 ⟨rfl, hb⟩
  have HB1 := Lib.hid hb
  clear hb
  go_wp2_with fail
  refine (keeps13_any (i : Int) av 24 ac la fv 24 fc fl w1 (HAC.out _ HB1.out) (by decide) (HFT.out _ HB1.out) (by decide)).mono ?_
  rintro e w2 ⟨rfl, hb⟩
  have HB2 : Hid (Below w13.heap.size w13 w2) := HB1.out.trans (hb.mono HB1.out.size)
  clear hb
  obtain ⟨y, ab, ao, hy, hyok, hav, hrg⟩ := (HAC.out _ HB2.out).nth HQ24.out
  have HYO := Lib.hid hyok
  have c0 := Ac.r0 hrg
  have c1 := Ac.r1 hrg
  have c2 := Ac.r2 hrg
  have c3 := Ac.r3 hrg
  subst hav
  clear hrg hyok hy
  go_wp2_with fail
  refine (show Calls Try.prog 4 #[.agg #[.int .i64 y.d, .int .i64 y.p, .slice y.a y.n y.c, .slice y.fa y.fn y.fc], .int .i64 (i : Int)] w2 _ from none13_any y (i : Int) w2 HYO.out HP1.out.2).mono ?_
  rintro e w3 ⟨rfl, hb⟩
  have HB3 : Hid (Below w.heap.size w w3) := HKG.out.below.trans ((HB2.out.trans (hb.mono HB2.out.size)).mono HKG.out.below.size)
  clear hb
  go_wp2_with fail
  refine Met.intro (hJ0 _ _ ?_)
  exact ⟨⟨rfl, rfl⟩, rfl, rfl, HB3.out⟩

theorem known_one (w : World) (wq2 : World) (i : Nat) (HB : Hid (Below w.heap.size w wq2)) (hli : Hid (i < 40)) (a : Act) (hf : Fr 101 a) (h1 : sl a 1 = .int .i64 (i : Int)) :
    Code.wp Try.prog (cAt [1,0,1,2,2,1,0] KDN) (Exit.then (fun a' w' => Fr 101 a' ∧ sl a' 1 = .int .i64 (i : Int) ∧ Below w.heap.size w w') Nope) a wq2 := by
  have HB := HB.out
  have hli := hli.out
  refine wp_blockR (x := cAt [1,0,1,2,2,1,0,2] KDN) (id := 1) (by kernel_rfl) ?_
  refine wp_sqR (x := cAt [1,0,1,2,2,1,0,2,0] KDN) (y := cAt [1,0,1,2,2,1,0,2,1] KDN) (by kernel_rfl) (q4 wq2 i a hf h1) ?_
  rintro a_5 _ ⟨hf, h1, h2, rfl⟩
  refine wp_sqR (x := cAt [1,0,1,2,2,1,0,2,1,0] KDN) (y := cAt [1,0,1,2,2,1,0,2,1,1] KDN) (by kernel_rfl) (q5 wq2 i a_5 hf h1 h2) ?_
  rintro a_6 _ ⟨hf, h1, h2, h3, rfl⟩
  refine wp_sqR (x := cAt [1,0,1,2,2,1,0,2,1,1,0] KDN) (y := cAt [1,0,1,2,2,1,0,2,1,1,1] KDN) (by kernel_rfl) (q6 wq2 i a_6 hf h1 h2 h3) ?_
  rintro a_7 _ ⟨hf, h1, h2, h3, h4, rfl⟩
  have HK0 : Kg w wq2 none 0 [] none 0 [] := ⟨⟨[], (Ms.add (t := .any 44 2 none 0 0 []) (Ms.add (t := .any 33 4 none 0 0 []) ⟨HB, fun _ h => (List.not_mem_nil h).elim, List.Pairwise.nil⟩ (Below.refl _ _) (OwnG.nil _ _ _ _)) (Below.refl _ _) (OwnG.nil _ _ _ _)), fun _ h => (List.not_mem_nil h).elim, fun _ h => (List.not_mem_nil h).elim⟩, fun _ h => (List.not_mem_nil h).elim⟩
  refine wp_sqR (x := cAt [1,0,1,2,2,1,0,2,1,1,1,0] KDN) (y := cAt [1,0,1,2,2,1,0,2,1,1,1,1] KDN) (by kernel_rfl) (known_rows w wq2 i hli HK0 a_7 hf h1 h2 h3 h4) ?_
  rintro a_16 w13 ⟨kk, fv, fc, fl, av, ac, la, hf, h1, h2, h3, h4, HKG, HNU⟩
  refine wp_sqR (x := cAt [1,0,1,2,2,1,0,2,1,1,1,1,0] KDN) (y := cAt [1,0,1,2,2,1,0,2,1,1,1,1,1] KDN) (by kernel_rfl) (q13 w i hli w13 kk fv fc fl av ac la HKG HNU a_16 hf h1 h2 h3 h4) ?_
  rintro a_17 w13b ⟨hf, h1, h84, HB9⟩
  refine wp_onF (A := cAt [1,0,1,2,2,1,0,2,1,1,1,1,1,3] KDN) (B := cAt [1,0,1,2,2,1,0,2,1,1,1,1,1,4] KDN) (by kernel_rfl) h84 ?_
  refine wp_skipR (by kernel_rfl) ?_
  exact ⟨hf, h1, HB9⟩

set_option maxRecDepth 100000 in
set_option maxHeartbeats 4000000 in
theorem q2n (i : Nat) (hli : Hid (i < 40)) (wn : World) (a : Act) (hf : Fr 101 a) (h1 : sl a 1 = .int .i64 (i : Int)) :
    Code.wp Try.prog (cAt [1,0,1,2,2,1,1] KDN) (Exit.then (fun a' w' => Fr 101 a' ∧ sl a' 1 = .int .i64 ((i + 1 : Nat) : Int) ∧ wn = w') Nope) a wn := by
  obtain ⟨f, ha, hs⟩ := frKDN hf
  have e1 := (hs 1).trans h1
  rw [e1] at ha
  clear hs hf e1 h1
  subst ha
  refine piece2 fun J0 K0 hJ0 hK0 => ?_
  conv => arg 2; whnf
  have hw : IntKind.i64.wrap ((i : Int) + 1) = ((i + 1 : Nat) : Int) := by have := hli.out; rw [IntKind.wrap_i64]; omega
  go_wp2_with fail
  refine Met.intro (hJ0 _ _ ?_)
  exact ⟨⟨rfl, rfl⟩, rfl, rfl⟩

theorem known_all (w : World) (a : Act) (hf : Fr 101 a)  :
    Code.wp Try.prog (cAt [1,0] KDN) (Exit.then (fun a' w' => Fr 101 a' ∧ Below w.heap.size w w') Nope) a w := by
  refine wp_sqR (x := cAt [1,0,0] KDN) (y := cAt [1,0,1] KDN) (by kernel_rfl) (q2i w a hf) ?_
  rintro a_2 _ ⟨hf, h1, rfl⟩
  refine wp_blockR (x := cAt [1,0,1,2] KDN) (id := 0) (by kernel_rfl) ?_
  refine wp_loopR (x := cAt [1,0,1,2,2] KDN) (by kernel_rfl) (fun a' w' => ∃ i : Nat, i ≤ 40 ∧ (Below w.heap.size w w') ∧ Fr 101 a' ∧ sl a' 1 = .int .i64 (i : Int)) (fun a' _ => 40 - (numOf (sl a' 1)).toNat) ⟨0, Nat.zero_le _, Below.refl _ _, hf, h1⟩ ?_
  rintro a_l wq2 ⟨i, hii, HB, hf, h1⟩
  have hIi := h1
  by_cases hli : i < 40
  case neg =>
    refine wp_endX (q2x wq2 i hli a_l hf h1) ?_
    rintro a_3 _ ⟨hf, rfl⟩
    exact thru ⟨hf, HB⟩
  refine wp_sqR (x := cAt [1,0,1,2,2,0] KDN) (y := cAt [1,0,1,2,2,1] KDN) (by kernel_rfl) (q2c wq2 i hli a_l hf h1) ?_
  rintro a_4 _ ⟨hf, h1, rfl⟩
  refine wp_sqR (x := cAt [1,0,1,2,2,1,0] KDN) (y := cAt [1,0,1,2,2,1,1] KDN) (by kernel_rfl) (known_one w wq2 i HB hli a_4 hf h1) ?_
  rintro a_18 wn ⟨hf, h1, HBN⟩
  refine wp_endR (q2n i hli wn a_18 hf h1) ?_
  rintro a_19 _ ⟨hf, h1, rfl⟩
  refine ⟨⟨i + 1, hli, HBN, hf, h1⟩, ?_⟩
  rw [hIi, h1]
  simp only [numOf]
  omega

theorem acr_lit (w : World) (la : List Ac) (h : ∀ y ∈ la, y.ok w) : Acr (w.alloc (.cells (acs la).toArray 33)) (some ⟨w.heap.size, 0, none⟩) la.length la := by
  refine ⟨rfl, fun y hy => (h y hy).below (al _ _), fun _ => ⟨_, 0, rfl, fun i y hy j v hv => ?_⟩⟩
  rw [cell_of_row _ _ _ _ _ (0, 0) (Blk_new w _ _)]
  have := acs_at hy j v hv
  rw [show 0 + i * 4 + j = i * 4 + j by omega]
  simpa using this
set_option maxRecDepth 100000 in
set_option maxHeartbeats 4000000 in
theorem q15 (w : World) (w14 : World) (HBA : Hid (Below w.heap.size w w14)) (a : Act) (hf : Fr 101 a) :
    Code.wp Try.prog (cAt [1,1] KDN) (bodyPost Try.prog Try.f5 (Yes w)) a w14 := by
  have HN : Hid (∀ W, Acr W none 0 []) := fun W => ⟨rfl, fun _ h => (List.not_mem_nil h).elim, fun h => absurd rfl h⟩
  obtain ⟨f, ha, hs⟩ := frKDN hf
  clear hs hf 
  subst ha
  conv => arg 2; whnf
  go_wp2_with fail
  refine (plays13_any (-1) none 0 0 [] 0 0 w14 (HN.out _) (by decide) (by unfold I64; decide)).mono ?_
  rintro e w1 ⟨rfl, hb⟩
  have HB1 : Hid (Below w.heap.size w w1) := HBA.out.trans (hb.mono HBA.out.size)
  clear hb
  go_wp2_with fail
  refine (plays13_any 65537 none 0 0 [] 0 0 w1 (HN.out _) (by decide) (by unfold I64; decide)).mono ?_
  rintro e w2 ⟨rfl, hb⟩
  have HB2 : Hid (Below w.heap.size w w2) := HB1.out.trans (hb.mono HB1.out.size)
  clear hb
  have HRD := Lib.hid (rd_lit w2 [1])
  obtain ⟨r0, hr0⟩ : ∃ z, w2.heap.size = z := ⟨_, rfl⟩
  have HA : Hid (Below w.heap.size w (w2.alloc (.cells #[.int .u8 1] 5)) ∧ Rd (w2.alloc (.cells #[.int .u8 1] 5)) (some ⟨r0, 0, none⟩) [1]) := ⟨HB2.out.trans ((al w2 _).mono HB2.out.size), by rw [← hr0]; exact HRD.out⟩
  obtain ⟨wa, hwa⟩ : ∃ z, w2.alloc (.cells #[.int .u8 1] 5) = z := ⟨_, rfl⟩
  rw [hwa] at HA
  have HWA := Lib.hid hwa
  have HR0 := Lib.hid hr0
  have HAC := Lib.hid (acr_lit wa [⟨0, 4611686018427387904, some ⟨r0, 0, none⟩, 1, 1, [1], none, 0, 0, []⟩, ⟨0, 9, none, 0, 0, [], none, 0, 0, []⟩, ⟨0, 10, none, 0, 0, [], none, 0, 0, []⟩, ⟨0, (-1), none, 0, 0, [], none, 0, 0, []⟩] (by
    intro y hy
    simp only [List.mem_cons, List.not_mem_nil, or_false] at hy
    rcases hy with rfl | rfl | rfl | rfl
    · exact ⟨(show I64 (0 : Int) by unfold I64; decide), (show I64 (4611686018427387904 : Int) by unfold I64; decide), rfl, HA.out.2, (show Byt [1] from byt_lit (by decide)), ⟨rfl, fun h => absurd rfl h⟩, Nat.zero_le _⟩
    · exact ⟨(show I64 (0 : Int) by unfold I64; decide), (show I64 (9 : Int) by unfold I64; decide), rfl, Rd.empty _ _, Byt.nil, ⟨rfl, fun h => absurd rfl h⟩, Nat.zero_le _⟩
    · exact ⟨(show I64 (0 : Int) by unfold I64; decide), (show I64 (10 : Int) by unfold I64; decide), rfl, Rd.empty _ _, Byt.nil, ⟨rfl, fun h => absurd rfl h⟩, Nat.zero_le _⟩
    · exact ⟨(show I64 (0 : Int) by unfold I64; decide), (show I64 ((-1) : Int) by unfold I64; decide), rfl, Rd.empty _ _, Byt.nil, ⟨rfl, fun h => absurd rfl h⟩, Nat.zero_le _⟩))
  have hacs : (acs [⟨0, 4611686018427387904, some ⟨r0, 0, none⟩, 1, 1, [1], none, 0, 0, []⟩, ⟨0, 9, none, 0, 0, [], none, 0, 0, []⟩, ⟨0, 10, none, 0, 0, [], none, 0, 0, []⟩, ⟨0, (-1), none, 0, 0, [], none, 0, 0, []⟩]).toArray = #[.int .i64 0, .int .i64 4611686018427387904, .slice (some ⟨r0, 0, none⟩) 1 1, .slice none 0 0, .int .i64 0, .int .i64 9, .slice none 0 0, .slice none 0 0, .int .i64 0, .int .i64 10, .slice none 0 0, .slice none 0 0, .int .i64 0, .int .i64 (-1), .slice none 0 0, .slice none 0 0] := by rfl
  rw [hacs] at HAC
  have HAC2 : Hid (Acr (wa.alloc (.cells #[.int .i64 0, .int .i64 4611686018427387904, .slice (some ⟨r0, 0, none⟩) 1 1, .slice none 0 0, .int .i64 0, .int .i64 9, .slice none 0 0, .slice none 0 0, .int .i64 0, .int .i64 10, .slice none 0 0, .slice none 0 0, .int .i64 0, .int .i64 (-1), .slice none 0 0, .slice none 0 0] 33)) (some ⟨r0 + 1, 0, none⟩) 4 [⟨0, 4611686018427387904, some ⟨r0, 0, none⟩, 1, 1, [1], none, 0, 0, []⟩, ⟨0, 9, none, 0, 0, [], none, 0, 0, []⟩, ⟨0, 10, none, 0, 0, [], none, 0, 0, []⟩, ⟨0, (-1), none, 0, 0, [], none, 0, 0, []⟩]) := by
    have h := HAC.out
    rw [show wa.heap.size = r0 + 1 by rw [← hwa, World.size_alloc, hr0]] at h
    exact h
  clear hacs HAC
  have HBA2 : Hid (Below w.heap.size w (wa.alloc (.cells #[.int .i64 0, .int .i64 4611686018427387904, .slice (some ⟨r0, 0, none⟩) 1 1, .slice none 0 0, .int .i64 0, .int .i64 9, .slice none 0 0, .slice none 0 0, .int .i64 0, .int .i64 10, .slice none 0 0, .slice none 0 0, .int .i64 0, .int .i64 (-1), .slice none 0 0, .slice none 0 0] 33))) := HA.out.1.trans ((al wa _).mono HA.out.1.size)
  clear hwa hr0
  go_wp2_with fail
  rw [HR0.out, HWA.out]
  refine (plays13_any 9 (some ⟨r0 + 1, 0, none⟩) 4 4 [⟨0, 4611686018427387904, some ⟨r0, 0, none⟩, 1, 1, [1], none, 0, 0, []⟩, ⟨0, 9, none, 0, 0, [], none, 0, 0, []⟩, ⟨0, 10, none, 0, 0, [], none, 0, 0, []⟩, ⟨0, (-1), none, 0, 0, [], none, 0, 0, []⟩] 4611686018427387904 4611686018427387904 (wa.alloc (.cells #[.int .i64 0, .int .i64 4611686018427387904, .slice (some ⟨r0, 0, none⟩) 1 1, .slice none 0 0, .int .i64 0, .int .i64 9, .slice none 0 0, .slice none 0 0, .int .i64 0, .int .i64 10, .slice none 0 0, .slice none 0 0, .int .i64 0, .int .i64 (-1), .slice none 0 0, .slice none 0 0] 33)) HAC2.out (by decide) (by unfold I64; decide)).mono ?_
  rintro e w3 ⟨rfl, hb⟩
  have HB3 : Hid (Below w.heap.size w w3) := HBA2.out.trans (hb.mono HBA2.out.size)
  clear hb
  go_wp2_with fail
  refine (works13_any w3).mono ?_
  rintro e w4 ⟨rfl, hb⟩
  have H4 : Hid (Below w.heap.size w w4) := HB3.out.trans (hb.mono HB3.out.size)
  clear hb
  go_wp2_with fail
  first | exact ⟨rfl, H4.out⟩ | (go_ret; exact ⟨rfl, H4.out⟩)

theorem known13_any (w : World) : Calls Try.prog 5 #[] w (Yes w) := by
  refine calls_of_wp (c := KDN) Try.func5 (by kernel_rfl) ?_
  have hf : Fr 101 { tmps := #[] ++ Array.replicate (Try.f5.ntmps - (#[] : Array Value).size) undef, defers := [] } := ⟨rfl, by simp [Try.ntmps5]⟩
  generalize ({ tmps := #[] ++ Array.replicate (Try.f5.ntmps - (#[] : Array Value).size) undef, defers := [] } : Act) = a at hf ⊢
  refine wp_sqR (x := cAt [0] KDN) (y := cAt [1] KDN) (by kernel_rfl) (q0 w a hf) ?_
  rintro a_1 _ ⟨hf, rfl⟩
  refine wp_sqR (x := cAt [1,0] KDN) (y := cAt [1,1] KDN) (by kernel_rfl) (known_all w a_1 hf) ?_
  rintro a_20 w14 ⟨hf, HBA⟩
  exact q15 w w14 HBA a_20 hf
end Go.Proofs.Ytbghdlgfpfeaeaa

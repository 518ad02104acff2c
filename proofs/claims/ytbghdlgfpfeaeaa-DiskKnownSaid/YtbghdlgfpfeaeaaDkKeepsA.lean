/-
  DiskKeeps in pieces. Conditions: those that the theorems name. (Made by gen_dkkeeps.py.)
-/
import Derived.Test.YtbghdlgfpfeaeaaDkKeepM
namespace Go.Proofs.Ytbghdlgfpfeaeaa
open Go.RowKit

noncomputable def KDK : Code := Try.f3.body.getD .skip
set_option maxRecDepth 100000 in
theorem frKDK {a : Act} (h : Fr 301 a) : ∃ f : Nat → Value, a = ⟨#[f 0, f 1, f 2, f 3, f 4, f 5, f 6, f 7, f 8, f 9, f 10, f 11, f 12, f 13, f 14, f 15, f 16, f 17, f 18, f 19, f 20, f 21, f 22, f 23, f 24, f 25, f 26, f 27, f 28, f 29, f 30, f 31, f 32, f 33, f 34, f 35, f 36, f 37, f 38, f 39, f 40, f 41, f 42, f 43, f 44, f 45, f 46, f 47, f 48, f 49, f 50, f 51, f 52, f 53, f 54, f 55, f 56, f 57, f 58, f 59, f 60, f 61, f 62, f 63, f 64, f 65, f 66, f 67, f 68, f 69, f 70, f 71, f 72, f 73, f 74, f 75, f 76, f 77, f 78, f 79, f 80, f 81, f 82, f 83, f 84, f 85, f 86, f 87, f 88, f 89, f 90, f 91, f 92, f 93, f 94, f 95, f 96, f 97, f 98, f 99, f 100, f 101, f 102, f 103, f 104, f 105, f 106, f 107, f 108, f 109, f 110, f 111, f 112, f 113, f 114, f 115, f 116, f 117, f 118, f 119, f 120, f 121, f 122, f 123, f 124, f 125, f 126, f 127, f 128, f 129, f 130, f 131, f 132, f 133, f 134, f 135, f 136, f 137, f 138, f 139, f 140, f 141, f 142, f 143, f 144, f 145, f 146, f 147, f 148, f 149, f 150, f 151, f 152, f 153, f 154, f 155, f 156, f 157, f 158, f 159, f 160, f 161, f 162, f 163, f 164, f 165, f 166, f 167, f 168, f 169, f 170, f 171, f 172, f 173, f 174, f 175, f 176, f 177, f 178, f 179, f 180, f 181, f 182, f 183, f 184, f 185, f 186, f 187, f 188, f 189, f 190, f 191, f 192, f 193, f 194, f 195, f 196, f 197, f 198, f 199, f 200, f 201, f 202, f 203, f 204, f 205, f 206, f 207, f 208, f 209, f 210, f 211, f 212, f 213, f 214, f 215, f 216, f 217, f 218, f 219, f 220, f 221, f 222, f 223, f 224, f 225, f 226, f 227, f 228, f 229, f 230, f 231, f 232, f 233, f 234, f 235, f 236, f 237, f 238, f 239, f 240, f 241, f 242, f 243, f 244, f 245, f 246, f 247, f 248, f 249, f 250, f 251, f 252, f 253, f 254, f 255, f 256, f 257, f 258, f 259, f 260, f 261, f 262, f 263, f 264, f 265, f 266, f 267, f 268, f 269, f 270, f 271, f 272, f 273, f 274, f 275, f 276, f 277, f 278, f 279, f 280, f 281, f 282, f 283, f 284, f 285, f 286, f 287, f 288, f 289, f 290, f 291, f 292, f 293, f 294, f 295, f 296, f 297, f 298, f 299, f 300], []⟩ ∧ ∀ i, f i = sl a i := fr_any h

set_option maxRecDepth 100000 in
set_option maxHeartbeats 4000000 in
theorem k0 (w : World) (s : Int) (ya : Option Addr) (m : Nat) (yc : Nat) (fa : Option Addr) (fn : Nat) (fc : Nat) (a : Act) (hf : Fr 301 a) (h0 : sl a 0 = .int .i64 s) (h1 : sl a 1 = .slice ya m yc) (h2 : sl a 2 = .slice fa fn fc) :
    Code.wp Try.prog (cAt [0] KDK) (Exit.then (fun a' w' => Fr 301 a' ∧ sl a' 0 = .int .i64 s ∧ sl a' 1 = .slice ya m yc ∧ sl a' 2 = .slice fa fn fc ∧ w = w') Nope) a w := by
  obtain ⟨f, ha, hs⟩ := frKDK hf
  have e0 := (hs 0).trans h0
  have e1 := (hs 1).trans h1
  have e2 := (hs 2).trans h2
  rw [e0, e1, e2] at ha
  clear hs hf e0 h0 e1 h1 e2 h2
  subst ha
  refine piece2 fun J0 K0 hJ0 hK0 => ?_
  conv => arg 2; whnf
  go_wp2_with fail
  refine Met.intro (hJ0 _ _ ?_)
  exact ⟨⟨rfl, rfl⟩, rfl, rfl, rfl, rfl⟩

set_option maxRecDepth 100000 in
set_option maxHeartbeats 4000000 in
theorem k1 (w : World) (s : Int) (ya : Option Addr) (m : Nat) (yc : Nat) (fa : Option Addr) (fn : Nat) (fc : Nat) (a : Act) (hf : Fr 301 a) (h0 : sl a 0 = .int .i64 s) (h1 : sl a 1 = .slice ya m yc) (h2 : sl a 2 = .slice fa fn fc) :
    Code.wp Try.prog (cAt [1,0] KDK) (Exit.then (fun a' w' => ∃ z : Nat, Fr 301 a' ∧ sl a' 0 = .int .i64 (z : Int) ∧ sl a' 1 = .slice ya m yc ∧ sl a' 2 = .slice fa fn fc ∧ z ≤ 300 ∧ w = w') Nope) a w := by
  obtain ⟨f, ha, hs⟩ := frKDK hf
  have e0 := (hs 0).trans h0
  have e1 := (hs 1).trans h1
  have e2 := (hs 2).trans h2
  rw [e0, e1, e2] at ha
  clear hs hf e0 h0 e1 h1 e2 h2
  subst ha
  refine piece2 fun J0 K0 hJ0 hK0 => ?_
  conv => arg 2; whnf
  go_wp2_with fail
  refine (kPick_any s 301 _ (by decide) (by decide)).mono ?_
  rintro e w1 ⟨rfl, hw⟩
  subst hw
  obtain ⟨z, hz⟩ : ∃ z : Nat, s % 301 = (z : Int) := ⟨(s % 301).toNat, by omega⟩
  have HZ : Hid (z ≤ 300) := by show z ≤ 300; omega
  rw [hz]
  clear hz
  go_wp2_with fail
  refine Met.intro (hJ0 _ _ ?_)
  exact ⟨z, ⟨rfl, rfl⟩, rfl, rfl, rfl, HZ.out, rfl⟩

set_option maxRecDepth 100000 in
set_option maxHeartbeats 4000000 in
theorem k2 (w : World) (ya : Option Addr) (m : Nat) (yc : Nat) (la : List Ac) (fa : Option Addr) (fn : Nat) (fc : Nat) (HLA : Hid (Acr w ya m la)) (HMX : Hid (m ≤ maxLen)) (HFM : Hid (fn ≤ maxLen)) (z : Nat) (a : Act) (hf : Fr 301 a) (h0 : sl a 0 = .int .i64 (z : Int)) (h1 : sl a 1 = .slice ya m yc) (h2 : sl a 2 = .slice fa fn fc) :
    Code.wp Try.prog (cAt [1,1,0,0] KDK) (Exit.then (fun a' w' => ∃ bb : Bool, Fr 301 a' ∧ sl a' 0 = .int .i64 (z : Int) ∧ sl a' 1 = .slice ya m yc ∧ sl a' 2 = .slice fa fn fc ∧ sl a' 47 = .bool bb ∧ ((bb = false → Few la ∧ fn ≤ 60)) ∧ w = w') Nope) a w := by
  obtain ⟨f, ha, hs⟩ := frKDK hf
  have e0 := (hs 0).trans h0
  have e1 := (hs 1).trans h1
  have e2 := (hs 2).trans h2
  rw [e0, e1, e2] at ha
  clear hs hf e0 h0 e1 h1 e2 h2
  subst ha
  refine piece2 fun J0 K0 hJ0 hK0 => ?_
  conv => arg 2; whnf
  have hfm := HFM.out
  unfold maxLen at hfm
  by_cases h6 : 60 < fn
  · have h62 : (60 : Int) < (fn : Int) := by omega
    go_wp2_with fail
    refine (few_any ya m yc la w HLA.out HMX.out).mono ?_
    rintro e w1 ⟨b, rfl, hb, hw⟩
    rw [hw]
    have HB := Lib.hid hb
    clear hb hw
    cases b
    · go_wp2_with fail
      refine Met.intro (hJ0 _ _ ?_)
      exact ⟨true, ⟨rfl, rfl⟩, rfl, rfl, rfl, rfl, fun h => (by cases h), rfl⟩
    · go_wp2_with fail
      refine Met.intro (hJ0 _ _ ?_)
      exact ⟨true, ⟨rfl, rfl⟩, rfl, rfl, rfl, rfl, fun h => (by cases h), rfl⟩
  · have h62 : ¬ (60 : Int) < (fn : Int) := by omega
    go_wp2_with fail
    refine (few_any ya m yc la w HLA.out HMX.out).mono ?_
    rintro e w1 ⟨b, rfl, hb, hw⟩
    rw [hw]
    have HB := Lib.hid hb
    clear hb hw
    cases b
    · go_wp2_with fail
      refine Met.intro (hJ0 _ _ ?_)
      exact ⟨true, ⟨rfl, rfl⟩, rfl, rfl, rfl, rfl, fun h => (by cases h), rfl⟩
    · go_wp2_with fail
      refine Met.intro (hJ0 _ _ ?_)
      exact ⟨false, ⟨rfl, rfl⟩, rfl, rfl, rfl, (by show Value.bool (decide _) = _; rw [decide_eq_false (by omega)]), fun _ => ⟨HB.out.1 (by simp), by omega⟩, rfl⟩

set_option maxRecDepth 100000 in
set_option maxHeartbeats 4000000 in
theorem kw (w wr : World) (hb : Below w.heap.size w wr) (a : Act) (hf : Fr 301 a) :
    Code.wp Try.prog (cAt [1,1,0,1,3] KDK) (RetsV Try.f3 (Yes w)) a wr := by
  have HB := Lib.hid hb
  clear hb
  obtain ⟨f, ha, hs⟩ := frKDK hf
  clear hs hf 
  subst ha
  conv => arg 2; whnf
  go_wp2_with fail
  refine (works13_any wr).mono ?_
  rintro e w1 ⟨rfl, hb1⟩
  have HF : Hid (Below w.heap.size w w1) := HB.out.trans (hb1.mono HB.out.size)
  clear hb1
  go_wp2_with fail
  refine ⟨rfl, rfl, .bool true, ?_, ⟨rfl, HF.out⟩⟩
  simp [results, Try.results3, go_sem]

set_option maxRecDepth 100000 in
set_option maxHeartbeats 4000000 in
theorem k4 (w : World) (ya : Option Addr) (m : Nat) (yc : Nat) (fa : Option Addr) (fn : Nat) (fc : Nat) (z : Nat) (HZ : Hid (z ≤ 300)) (a : Act) (hf : Fr 301 a) (h0 : sl a 0 = .int .i64 (z : Int)) (h1 : sl a 1 = .slice ya m yc) (h2 : sl a 2 = .slice fa fn fc) :
    Code.wp Try.prog (cAt [1,1,1,0] KDK) (Exit.then (fun a' w' => ∃ g : Nat, ∃ k : Dk, Fr 301 a' ∧ sl a' 0 = .int .i64 (z : Int) ∧ sl a' 1 = .slice ya m yc ∧ sl a' 2 = .slice fa fn fc ∧ sl a' 7 = .pointer (some ⟨g, 0, none⟩) ∧ sl a' 8 = .int .i64 0 ∧ Ms w w' [.disk g k] ∧ (k.d = nz z ∧ k.ws = [])) Nope) a w := by
  obtain ⟨f, ha, hs⟩ := frKDK hf
  have e0 := (hs 0).trans h0
  have e1 := (hs 1).trans h1
  have e2 := (hs 2).trans h2
  rw [e0, e1, e2] at ha
  clear hs hf e0 h0 e1 h1 e2 h2
  subst ha
  refine piece2 fun J0 K0 hJ0 hK0 => ?_
  conv => arg 2; whnf
  go_wp2_with fail
  refine (dkNew_any z _ (by have := HZ.out; omega)).mono ?_
  rintro e w1 ⟨g, rfl, _, ⟨a, c, hd⟩, hb⟩
  have HM : Hid (Ms w w1 [.disk g ⟨a, c, nz z, none, 0, []⟩]) := (Ms.nil w).add (t := .disk g _) hb hd
  clear hd hb
  go_wp2_with fail
  refine Met.intro (hJ0 _ _ ?_)
  exact ⟨g, _, ⟨rfl, rfl⟩, rfl, rfl, rfl, rfl, rfl, HM.out, ⟨rfl, rfl⟩⟩

set_option maxRecDepth 100000 in
set_option maxHeartbeats 4000000 in
theorem k5 (w : World) (ya : Option Addr) (m : Nat) (yc : Nat) (fa : Option Addr) (fn : Nat) (fc : Nat) (z : Nat) (HZ : Hid (z ≤ 300)) (w4 : World) (g : Nat) (k : Dk) (HM4 : Hid (Ms w w4 [.disk g k])) (a : Act) (hf : Fr 301 a) (h0 : sl a 0 = .int .i64 (z : Int)) (h1 : sl a 1 = .slice ya m yc) (h2 : sl a 2 = .slice fa fn fc) (h7 : sl a 7 = .pointer (some ⟨g, 0, none⟩)) (h8 : sl a 8 = .int .i64 0) :
    Code.wp Try.prog (cAt [1,1,1,1,0] KDK) (Exit.then (fun a' w' => ∃ h : Nat, ∃ l : Dk, Fr 301 a' ∧ sl a' 0 = .int .i64 (z : Int) ∧ sl a' 1 = .slice ya m yc ∧ sl a' 2 = .slice fa fn fc ∧ sl a' 7 = .pointer (some ⟨g, 0, none⟩) ∧ sl a' 8 = .int .i64 0 ∧ sl a' 9 = .pointer (some ⟨h, 0, none⟩) ∧ sl a' 10 = .int .i64 0 ∧ Ms w w' [.disk g k, .disk h l] ∧ (l.d = nz z ∧ l.ws = [])) Nope) a w4 := by
  obtain ⟨f, ha, hs⟩ := frKDK hf
  have e0 := (hs 0).trans h0
  have e1 := (hs 1).trans h1
  have e2 := (hs 2).trans h2
  have e7 := (hs 7).trans h7
  have e8 := (hs 8).trans h8
  rw [e0, e1, e2, e7, e8] at ha
  clear hs hf e0 h0 e1 h1 e2 h2 e7 h7 e8 h8
  subst ha
  refine piece2 fun J0 K0 hJ0 hK0 => ?_
  conv => arg 2; whnf
  go_wp2_with fail
  refine (dkNew_any z _ (by have := HZ.out; omega)).mono ?_
  rintro e w1 ⟨h, rfl, _, ⟨a, c, hd⟩, hb⟩
  have HM : Hid (Ms w w1 [.disk g k, .disk h ⟨a, c, nz z, none, 0, []⟩]) := (HM4.out.add (t := .disk h _) hb hd).to1
  clear hd hb
  go_wp2_with fail
  refine Met.intro (hJ0 _ _ ?_)
  exact ⟨h, _, ⟨rfl, rfl⟩, rfl, rfl, rfl, rfl, rfl, rfl, rfl, HM.out, ⟨rfl, rfl⟩⟩

set_option maxRecDepth 100000 in
set_option maxHeartbeats 4000000 in
theorem k6 (ya : Option Addr) (m : Nat) (yc : Nat) (fa : Option Addr) (fn : Nat) (fc : Nat) (z : Nat) (g : Nat) (w5 : World) (h : Nat) (a : Act) (hf : Fr 301 a) (h0 : sl a 0 = .int .i64 (z : Int)) (h1 : sl a 1 = .slice ya m yc) (h2 : sl a 2 = .slice fa fn fc) (h7 : sl a 7 = .pointer (some ⟨g, 0, none⟩)) (h8 : sl a 8 = .int .i64 0) (h9 : sl a 9 = .pointer (some ⟨h, 0, none⟩)) (h10 : sl a 10 = .int .i64 0) :
    Code.wp Try.prog (cAt [1,1,1,1,1,0,0] KDK) (Exit.then (fun a' w' => Fr 301 a' ∧ sl a' 0 = .int .i64 (z : Int) ∧ sl a' 1 = .slice ya m yc ∧ sl a' 2 = .slice fa fn fc ∧ sl a' 7 = .pointer (some ⟨g, 0, none⟩) ∧ sl a' 9 = .pointer (some ⟨h, 0, none⟩) ∧ sl a' 64 = .bool false ∧ w5 = w') Nope) a w5 := by
  obtain ⟨f, ha, hs⟩ := frKDK hf
  have e0 := (hs 0).trans h0
  have e1 := (hs 1).trans h1
  have e2 := (hs 2).trans h2
  have e7 := (hs 7).trans h7
  have e8 := (hs 8).trans h8
  have e9 := (hs 9).trans h9
  have e10 := (hs 10).trans h10
  rw [e0, e1, e2, e7, e8, e9, e10] at ha
  clear hs hf e0 h0 e1 h1 e2 h2 e7 h7 e8 h8 e9 h9 e10 h10
  subst ha
  refine piece2 fun J0 K0 hJ0 hK0 => ?_
  conv => arg 2; whnf
  go_wp2_with fail
  refine Met.intro (hJ0 _ _ ?_)
  exact ⟨⟨rfl, rfl⟩, rfl, rfl, rfl, rfl, rfl, rfl, rfl⟩

set_option maxRecDepth 100000 in
set_option maxHeartbeats 4000000 in
theorem k8 (ya : Option Addr) (m : Nat) (yc : Nat) (fa : Option Addr) (fn : Nat) (fc : Nat) (z : Nat) (g : Nat) (w5 : World) (h : Nat) (a : Act) (hf : Fr 301 a) (h0 : sl a 0 = .int .i64 (z : Int)) (h1 : sl a 1 = .slice ya m yc) (h2 : sl a 2 = .slice fa fn fc) (h7 : sl a 7 = .pointer (some ⟨g, 0, none⟩)) (h9 : sl a 9 = .pointer (some ⟨h, 0, none⟩)) :
    Code.wp Try.prog (cAt [1,1,1,1,1,1,0,0] KDK) (Exit.then (fun a' w' => Fr 301 a' ∧ sl a' 0 = .int .i64 (z : Int) ∧ sl a' 1 = .slice ya m yc ∧ sl a' 2 = .slice fa fn fc ∧ sl a' 7 = .pointer (some ⟨g, 0, none⟩) ∧ sl a' 9 = .pointer (some ⟨h, 0, none⟩) ∧ sl a' 11 = .int .i64 0 ∧ w5 = w') Nope) a w5 := by
  obtain ⟨f, ha, hs⟩ := frKDK hf
  have e0 := (hs 0).trans h0
  have e1 := (hs 1).trans h1
  have e2 := (hs 2).trans h2
  have e7 := (hs 7).trans h7
  have e9 := (hs 9).trans h9
  rw [e0, e1, e2, e7, e9] at ha
  clear hs hf e0 h0 e1 h1 e2 h2 e7 h7 e9 h9
  subst ha
  refine piece2 fun J0 K0 hJ0 hK0 => ?_
  conv => arg 2; whnf
  go_wp2_with fail
  refine Met.intro (hJ0 _ _ ?_)
  exact ⟨⟨rfl, rfl⟩, rfl, rfl, rfl, rfl, rfl, rfl, rfl⟩

set_option maxRecDepth 100000 in
set_option maxHeartbeats 4000000 in
theorem k9x (ya : Option Addr) (m : Nat) (yc : Nat) (fa : Option Addr) (fn : Nat) (fc : Nat) (z : Nat) (g : Nat) (h : Nat) (wl : World) (i : Nat) (hlt : Hid (¬ i < m)) (a : Act) (hf : Fr 301 a) (h0 : sl a 0 = .int .i64 (z : Int)) (h1 : sl a 1 = .slice ya m yc) (h2 : sl a 2 = .slice fa fn fc) (h7 : sl a 7 = .pointer (some ⟨g, 0, none⟩)) (h9 : sl a 9 = .pointer (some ⟨h, 0, none⟩)) (h11 : sl a 11 = .int .i64 (i : Int)) :
    Code.wp Try.prog (cAt [1,1,1,1,1,1,0,1,2,2] KDK) (Outs 0 (fun a' w' => Fr 301 a' ∧ sl a' 0 = .int .i64 (z : Int) ∧ sl a' 1 = .slice ya m yc ∧ sl a' 2 = .slice fa fn fc ∧ sl a' 7 = .pointer (some ⟨g, 0, none⟩) ∧ sl a' 9 = .pointer (some ⟨h, 0, none⟩) ∧ wl = w')) a wl := by
  obtain ⟨f, ha, hs⟩ := frKDK hf
  have e0 := (hs 0).trans h0
  have e1 := (hs 1).trans h1
  have e2 := (hs 2).trans h2
  have e7 := (hs 7).trans h7
  have e9 := (hs 9).trans h9
  have e11 := (hs 11).trans h11
  rw [e0, e1, e2, e7, e9, e11] at ha
  clear hs hf e0 h0 e1 h1 e2 h2 e7 h7 e9 h9 e11 h11
  subst ha
  conv => arg 2; whnf
  have hi2 : ¬ (i : Int) < (m : Int) := by have := hlt.out; omega
  go_wp2_with fail
  exact ⟨rfl, ⟨rfl, rfl⟩, rfl, rfl, rfl, rfl, rfl, rfl⟩

set_option maxRecDepth 100000 in
set_option maxHeartbeats 4000000 in
theorem k9 (ya : Option Addr) (m : Nat) (yc : Nat) (fa : Option Addr) (fn : Nat) (fc : Nat) (z : Nat) (g : Nat) (h : Nat) (wl : World) (i : Nat) (hlt : Hid (i < m)) (a : Act) (hf : Fr 301 a) (h0 : sl a 0 = .int .i64 (z : Int)) (h1 : sl a 1 = .slice ya m yc) (h2 : sl a 2 = .slice fa fn fc) (h7 : sl a 7 = .pointer (some ⟨g, 0, none⟩)) (h9 : sl a 9 = .pointer (some ⟨h, 0, none⟩)) (h11 : sl a 11 = .int .i64 (i : Int)) :
    Code.wp Try.prog (cAt [1,1,1,1,1,1,0,1,2,2,0] KDK) (Exit.then (fun a' w' => Fr 301 a' ∧ sl a' 0 = .int .i64 (z : Int) ∧ sl a' 1 = .slice ya m yc ∧ sl a' 2 = .slice fa fn fc ∧ sl a' 7 = .pointer (some ⟨g, 0, none⟩) ∧ sl a' 9 = .pointer (some ⟨h, 0, none⟩) ∧ sl a' 11 = .int .i64 (i : Int) ∧ wl = w') Nope) a wl := by
  obtain ⟨f, ha, hs⟩ := frKDK hf
  have e0 := (hs 0).trans h0
  have e1 := (hs 1).trans h1
  have e2 := (hs 2).trans h2
  have e7 := (hs 7).trans h7
  have e9 := (hs 9).trans h9
  have e11 := (hs 11).trans h11
  rw [e0, e1, e2, e7, e9, e11] at ha
  clear hs hf e0 h0 e1 h1 e2 h2 e7 h7 e9 h9 e11 h11
  subst ha
  refine piece2 fun J0 K0 hJ0 hK0 => ?_
  conv => arg 2; whnf
  have hi2 : (i : Int) < (m : Int) := by have := hlt.out; omega
  go_wp2_with fail
  refine Met.intro (hJ0 _ _ ?_)
  exact ⟨⟨rfl, rfl⟩, rfl, rfl, rfl, rfl, rfl, rfl, rfl⟩

set_option maxRecDepth 100000 in
set_option maxHeartbeats 4000000 in
theorem k11 (w : World) (m : Nat) (yc : Nat) (fa : Option Addr) (fn : Nat) (fc : Nat) (z : Nat) (g : Nat) (h : Nat) (wl : World) (i : Nat) (k : Dk) (l : Dk) (HML : Hid (Ms w wl [.disk g k, .disk h l])) (hlt : Hid (i < m)) (y : Ac) (yb : Nat) (yo : Nat) (hrg : Hid (w.rangeAt yb (yo + i * 4) y.cs)) (a : Act) (hf : Fr 301 a) (h0 : sl a 0 = .int .i64 (z : Int)) (h1 : sl a 1 = .slice (some ⟨yb, yo, none⟩) m yc) (h2 : sl a 2 = .slice fa fn fc) (h7 : sl a 7 = .pointer (some ⟨g, 0, none⟩)) (h9 : sl a 9 = .pointer (some ⟨h, 0, none⟩)) (h11 : sl a 11 = .int .i64 (i : Int)) :
    Code.wp Try.prog (cAt [1,1,1,1,1,1,0,1,2,2,1,0,2,0] KDK) (Exit.then (fun a' w' => ∃ bx : Nat, Fr 301 a' ∧ sl a' 0 = .int .i64 (z : Int) ∧ sl a' 1 = .slice (some ⟨yb, yo, none⟩) m yc ∧ sl a' 2 = .slice fa fn fc ∧ sl a' 7 = .pointer (some ⟨g, 0, none⟩) ∧ sl a' 9 = .pointer (some ⟨h, 0, none⟩) ∧ sl a' 11 = .int .i64 (i : Int) ∧ sl a' 12 = .pointer (some ⟨bx, 0, none⟩) ∧ w'.heap[bx]? = some (.cells y.cs.toArray 33 (0, 0)) ∧ Below wl.heap.size wl w' ∧ wl.heap.size ≤ bx) Nope) a wl := by
  obtain ⟨f, ha, hs⟩ := frKDK hf
  have e0 := (hs 0).trans h0
  have e1 := (hs 1).trans h1
  have e2 := (hs 2).trans h2
  have e7 := (hs 7).trans h7
  have e9 := (hs 9).trans h9
  have e11 := (hs 11).trans h11
  rw [e0, e1, e2, e7, e9, e11] at ha
  clear hs hf e0 h0 e1 h1 e2 h2 e7 h7 e9 h9 e11 h11
  subst ha
  refine piece2 fun J0 K0 hJ0 hK0 => ?_
  conv => arg 2; whnf
  have hr : Hid (wl.rangeAt yb (yo + i * 4) y.cs) := range_kept HML.out.below hrg.out
  have c0 := Ac.r0 hr.out
  have c1 := Ac.r1 hr.out
  have c2 := Ac.r2 hr.out
  have c3 := Ac.r3 hr.out
  have HT := Lib.hid (av_th wl y)
  have HF0 := Lib.hid (av_new wl y)
  have hi2 : (i : Int) < (m : Int) := by have := hlt.out; omega
  have hi0 : (0 : Int) ≤ (i : Int) := by omega
  go_wp2_with (refine stN (fun w' => Hid (Av wl y w')) 33 (.tmp 12) (.tmp 74) rfl rfl wl.heap.size 0 y.cs rfl rfl HT.out infAct y.one HF0 ?_; intro wc HF)
  refine Met.intro (hJ0 _ _ ?_)
  exact ⟨wl.heap.size, ⟨rfl, rfl⟩, rfl, rfl, rfl, rfl, rfl, rfl, rfl, HF.out.2.2, HF.out.1, Nat.le_refl _⟩

set_option maxRecDepth 100000 in
set_option maxHeartbeats 4000000 in
theorem k12 (ya : Option Addr) (m : Nat) (yc : Nat) (fa : Option Addr) (fn : Nat) (fc : Nat) (z : Nat) (g : Nat) (h : Nat) (i : Nat) (y : Ac) (w11 : World) (bx : Nat) (HBX : Hid (w11.heap[bx]? = some (.cells y.cs.toArray 33 (0, 0)))) (a : Act) (hf : Fr 301 a) (h0 : sl a 0 = .int .i64 (z : Int)) (h1 : sl a 1 = .slice ya m yc) (h2 : sl a 2 = .slice fa fn fc) (h7 : sl a 7 = .pointer (some ⟨g, 0, none⟩)) (h9 : sl a 9 = .pointer (some ⟨h, 0, none⟩)) (h11 : sl a 11 = .int .i64 (i : Int)) (h12 : sl a 12 = .pointer (some ⟨bx, 0, none⟩)) :
    Code.wp Try.prog (cAt [1,1,1,1,1,1,0,1,2,2,1,0,2,1,0,0] KDK) (Exit.then (fun a' w' => ∃ q : Int, Fr 301 a' ∧ sl a' 0 = .int .i64 (z : Int) ∧ sl a' 1 = .slice ya m yc ∧ sl a' 2 = .slice fa fn fc ∧ sl a' 7 = .pointer (some ⟨g, 0, none⟩) ∧ sl a' 9 = .pointer (some ⟨h, 0, none⟩) ∧ sl a' 11 = .int .i64 (i : Int) ∧ sl a' 12 = .pointer (some ⟨bx, 0, none⟩) ∧ sl a' 77 = .int .i64 q ∧ w11 = w') Nope) a w11 := by
  obtain ⟨f, ha, hs⟩ := frKDK hf
  have e0 := (hs 0).trans h0
  have e1 := (hs 1).trans h1
  have e2 := (hs 2).trans h2
  have e7 := (hs 7).trans h7
  have e9 := (hs 9).trans h9
  have e11 := (hs 11).trans h11
  have e12 := (hs 12).trans h12
  rw [e0, e1, e2, e7, e9, e11, e12] at ha
  clear hs hf e0 h0 e1 h1 e2 h2 e7 h7 e9 h9 e11 h11 e12 h12
  subst ha
  refine piece2 fun J0 K0 hJ0 hK0 => ?_
  conv => arg 2; whnf
  have c0 := Ac.k0 HBX.out
  go_wp2_with fail
  refine (kPick_any y.d 8 _ (by decide) (by decide)).mono ?_
  rintro e wz ⟨rfl, hw⟩
  subst hw
  obtain ⟨q, hq⟩ : ∃ q : Int, y.d % 8 = q := ⟨_, rfl⟩
  rw [hq]
  clear hq
  go_wp2_with fail
  refine Met.intro (hJ0 _ _ ?_)
  exact ⟨q, ⟨rfl, rfl⟩, rfl, rfl, rfl, rfl, rfl, rfl, rfl, rfl, rfl⟩

set_option maxRecDepth 100000 in
set_option maxHeartbeats 4000000 in
theorem k15 (ya : Option Addr) (m : Nat) (yc : Nat) (fa : Option Addr) (fn : Nat) (fc : Nat) (z : Nat) (g : Nat) (h : Nat) (i : Nat) (w11 : World) (bx : Nat) (q : Int) (a : Act) (hf : Fr 301 a) (h0 : sl a 0 = .int .i64 (z : Int)) (h1 : sl a 1 = .slice ya m yc) (h2 : sl a 2 = .slice fa fn fc) (h7 : sl a 7 = .pointer (some ⟨g, 0, none⟩)) (h9 : sl a 9 = .pointer (some ⟨h, 0, none⟩)) (h11 : sl a 11 = .int .i64 (i : Int)) (h12 : sl a 12 = .pointer (some ⟨bx, 0, none⟩)) (h77 : sl a 77 = .int .i64 q) :
    Code.wp Try.prog (cAt [1,1,1,1,1,1,0,1,2,2,1,0,2,1,0,1,2,0] KDK) (Exit.then (fun a' w' => Fr 301 a' ∧ sl a' 0 = .int .i64 (z : Int) ∧ sl a' 1 = .slice ya m yc ∧ sl a' 2 = .slice fa fn fc ∧ sl a' 7 = .pointer (some ⟨g, 0, none⟩) ∧ sl a' 9 = .pointer (some ⟨h, 0, none⟩) ∧ sl a' 11 = .int .i64 (i : Int) ∧ sl a' 12 = .pointer (some ⟨bx, 0, none⟩) ∧ sl a' 77 = .int .i64 q ∧ sl a' 91 = .bool (decide (q = 4)) ∧ w11 = w') Nope) a w11 := by
  obtain ⟨f, ha, hs⟩ := frKDK hf
  have e0 := (hs 0).trans h0
  have e1 := (hs 1).trans h1
  have e2 := (hs 2).trans h2
  have e7 := (hs 7).trans h7
  have e9 := (hs 9).trans h9
  have e11 := (hs 11).trans h11
  have e12 := (hs 12).trans h12
  have e77 := (hs 77).trans h77
  rw [e0, e1, e2, e7, e9, e11, e12, e77] at ha
  clear hs hf e0 h0 e1 h1 e2 h2 e7 h7 e9 h9 e11 h11 e12 h12 e77 h77
  subst ha
  refine piece2 fun J0 K0 hJ0 hK0 => ?_
  conv => arg 2; whnf
  go_wp2_with fail
  refine Met.intro (hJ0 _ _ ?_)
  exact ⟨⟨rfl, rfl⟩, rfl, rfl, rfl, rfl, rfl, rfl, rfl, rfl, rfl, rfl⟩

set_option maxRecDepth 100000 in
set_option maxHeartbeats 4000000 in
theorem k16 (w : World) (ya : Option Addr) (m : Nat) (yc : Nat) (fa : Option Addr) (fn : Nat) (fc : Nat) (z : Nat) (g : Nat) (h : Nat) (i : Nat) (k : Dk) (l : Dk) (HIL : Hid (KI z i k l)) (w11 : World) (bx : Nat) (HM11 : Hid (Ms w w11 [.disk g k, .disk h l])) (q : Int) (a : Act) (hf : Fr 301 a) (h0 : sl a 0 = .int .i64 (z : Int)) (h1 : sl a 1 = .slice ya m yc) (h2 : sl a 2 = .slice fa fn fc) (h7 : sl a 7 = .pointer (some ⟨g, 0, none⟩)) (h9 : sl a 9 = .pointer (some ⟨h, 0, none⟩)) (h11 : sl a 11 = .int .i64 (i : Int)) (h12 : sl a 12 = .pointer (some ⟨bx, 0, none⟩)) (h77 : sl a 77 = .int .i64 q) :
    Code.wp Try.prog (cAt [1,1,1,1,1,1,0,1,2,2,1,0,2,1,0,1,2,1,3] KDK) (Exit.then (fun a' w' => ∃ k3 : Dk, Fr 301 a' ∧ sl a' 0 = .int .i64 (z : Int) ∧ sl a' 1 = .slice ya m yc ∧ sl a' 2 = .slice fa fn fc ∧ sl a' 7 = .pointer (some ⟨g, 0, none⟩) ∧ sl a' 9 = .pointer (some ⟨h, 0, none⟩) ∧ sl a' 11 = .int .i64 (i : Int) ∧ (Ms w w' [.disk g k3, .disk h l] ∧ KJ z i k3 l)) Nope) a w11 := by
  obtain ⟨f, ha, hs⟩ := frKDK hf
  have e0 := (hs 0).trans h0
  have e1 := (hs 1).trans h1
  have e2 := (hs 2).trans h2
  have e7 := (hs 7).trans h7
  have e9 := (hs 9).trans h9
  have e11 := (hs 11).trans h11
  have e12 := (hs 12).trans h12
  have e77 := (hs 77).trans h77
  rw [e0, e1, e2, e7, e9, e11, e12, e77] at ha
  clear hs hf e0 h0 e1 h1 e2 h2 e7 h7 e9 h9 e11 h11 e12 h12 e77 h77
  subst ha
  refine piece2 fun J0 K0 hJ0 hK0 => ?_
  conv => arg 2; whnf
  go_wp2_with fail
  refine (dkSync_step w.heap.size g k _ HM11.out.hd).mono ?_
  rintro e wz ⟨rfl, k3, hs, hd, hl⟩
  have H : Hid (Ms w wz [.disk g k3, .disk h l] ∧ KJ z i k3 l) := ⟨HM11.out.disk hs, HIL.out.sync hd hl⟩
  clear hs hd hl
  go_wp2_with fail
  refine Met.intro (hJ0 _ _ ?_)
  exact ⟨k3, ⟨rfl, rfl⟩, rfl, rfl, rfl, rfl, rfl, rfl, H.out⟩

set_option maxRecDepth 100000 in
set_option maxHeartbeats 4000000 in
theorem k17 (ya : Option Addr) (m : Nat) (yc : Nat) (fa : Option Addr) (fn : Nat) (fc : Nat) (z : Nat) (g : Nat) (h : Nat) (i : Nat) (w11 : World) (bx : Nat) (q : Int) (a : Act) (hf : Fr 301 a) (h0 : sl a 0 = .int .i64 (z : Int)) (h1 : sl a 1 = .slice ya m yc) (h2 : sl a 2 = .slice fa fn fc) (h7 : sl a 7 = .pointer (some ⟨g, 0, none⟩)) (h9 : sl a 9 = .pointer (some ⟨h, 0, none⟩)) (h11 : sl a 11 = .int .i64 (i : Int)) (h12 : sl a 12 = .pointer (some ⟨bx, 0, none⟩)) (h77 : sl a 77 = .int .i64 q) :
    Code.wp Try.prog (cAt [1,1,1,1,1,1,0,1,2,2,1,0,2,1,0,1,2,1,4,0] KDK) (Exit.then (fun a' w' => Fr 301 a' ∧ sl a' 0 = .int .i64 (z : Int) ∧ sl a' 1 = .slice ya m yc ∧ sl a' 2 = .slice fa fn fc ∧ sl a' 7 = .pointer (some ⟨g, 0, none⟩) ∧ sl a' 9 = .pointer (some ⟨h, 0, none⟩) ∧ sl a' 11 = .int .i64 (i : Int) ∧ sl a' 12 = .pointer (some ⟨bx, 0, none⟩) ∧ sl a' 77 = .int .i64 q ∧ sl a' 95 = .bool (decide (q = 5)) ∧ w11 = w') Nope) a w11 := by
  obtain ⟨f, ha, hs⟩ := frKDK hf
  have e0 := (hs 0).trans h0
  have e1 := (hs 1).trans h1
  have e2 := (hs 2).trans h2
  have e7 := (hs 7).trans h7
  have e9 := (hs 9).trans h9
  have e11 := (hs 11).trans h11
  have e12 := (hs 12).trans h12
  have e77 := (hs 77).trans h77
  rw [e0, e1, e2, e7, e9, e11, e12, e77] at ha
  clear hs hf e0 h0 e1 h1 e2 h2 e7 h7 e9 h9 e11 h11 e12 h12 e77 h77
  subst ha
  refine piece2 fun J0 K0 hJ0 hK0 => ?_
  conv => arg 2; whnf
  go_wp2_with fail
  refine Met.intro (hJ0 _ _ ?_)
  exact ⟨⟨rfl, rfl⟩, rfl, rfl, rfl, rfl, rfl, rfl, rfl, rfl, rfl, rfl⟩

set_option maxRecDepth 100000 in
set_option maxHeartbeats 4000000 in
theorem k18 (w : World) (ya : Option Addr) (m : Nat) (yc : Nat) (fa : Option Addr) (fn : Nat) (fc : Nat) (_fl : List Ft) (z : Nat) (g : Nat) (h : Nat) (i : Nat) (k : Dk) (l : Dk) (HIL : Hid (KI z i k l)) (y : Ac) (hyok : Hid (y.ok w)) (w11 : World) (bx : Nat) (HBX : Hid (w11.heap[bx]? = some (.cells y.cs.toArray 33 (0, 0)))) (HM11 : Hid (Ms w w11 [.disk g k, .disk h l])) (q : Int) (a : Act) (hf : Fr 301 a) (h0 : sl a 0 = .int .i64 (z : Int)) (h1 : sl a 1 = .slice ya m yc) (h2 : sl a 2 = .slice fa fn fc) (h7 : sl a 7 = .pointer (some ⟨g, 0, none⟩)) (h9 : sl a 9 = .pointer (some ⟨h, 0, none⟩)) (h11 : sl a 11 = .int .i64 (i : Int)) (h12 : sl a 12 = .pointer (some ⟨bx, 0, none⟩)) (h77 : sl a 77 = .int .i64 q) :
    Code.wp Try.prog (cAt [1,1,1,1,1,1,0,1,2,2,1,0,2,1,0,1,2,1,4,1,3,0] KDK) (Exit.then (fun a' w' => ∃ k3 : Dk, Fr 301 a' ∧ sl a' 0 = .int .i64 (z : Int) ∧ sl a' 1 = .slice ya m yc ∧ sl a' 2 = .slice fa fn fc ∧ sl a' 7 = .pointer (some ⟨g, 0, none⟩) ∧ sl a' 9 = .pointer (some ⟨h, 0, none⟩) ∧ sl a' 11 = .int .i64 (i : Int) ∧ (Ms w w' [.disk g k3, .disk h l] ∧ k3.d.length = z ∧ k3.ws = [])) Nope) a w11 := by
  obtain ⟨f, ha, hs⟩ := frKDK hf
  have e0 := (hs 0).trans h0
  have e1 := (hs 1).trans h1
  have e2 := (hs 2).trans h2
  have e7 := (hs 7).trans h7
  have e9 := (hs 9).trans h9
  have e11 := (hs 11).trans h11
  have e12 := (hs 12).trans h12
  have e77 := (hs 77).trans h77
  rw [e0, e1, e2, e7, e9, e11, e12, e77] at ha
  clear hs hf e0 h0 e1 h1 e2 h2 e7 h7 e9 h9 e11 h11 e12 h12 e77 h77
  subst ha
  refine piece2 fun J0 K0 hJ0 hK0 => ?_
  conv => arg 2; whnf
  have c3 := Ac.k3 HBX.out
  have hm := HM11.out.hd
  go_wp2_with fail
  refine (dkCrash_step w.heap.size g k y.fa y.fn y.fc y.fl _ hm (hyok.out.below HM11.out.below).fts (by have := hyok.out.fm; unfold maxLen at this; omega) (fun hne r hr hr2 => ?_)).mono ?_
  · obtain ⟨r2, o, e1, hc⟩ := hyok.out.fts.2 hne
    rw [e1] at hr
    simp [blk] at hr
    obtain ⟨f0, hf0⟩ : ∃ f0, y.fl[0]? = some f0 := ⟨_, List.getElem?_eq_getElem (by cases hz : y.fl with | nil => exact absurd hz hne | cons _ _ => simp)⟩
    have h3 := World.block_lt_of_cell? w ⟨r2, o + 0 * 2, none⟩ (hc 0 f0 hf0).1
    have h1 := (Th.lt (t := .disk g k) hm (i := r) (.inr (.inl hr2))).1
    simp at h3
    omega
  rintro e wz ⟨rfl, k3, hs, hd, hl⟩
  have H : Hid (Ms w wz [.disk g k3, .disk h l] ∧ k3.d.length = z ∧ k3.ws = []) := ⟨HM11.out.disk hs, by rw [hd, nowP_len]; exact HIL.out.kd, hl⟩
  clear hs hd hl
  go_wp2_with fail
  refine Met.intro (hJ0 _ _ ?_)
  exact ⟨k3, ⟨rfl, rfl⟩, rfl, rfl, rfl, rfl, rfl, rfl, H.out⟩

set_option maxRecDepth 100000 in
set_option maxHeartbeats 4000000 in
theorem k19 (w : World) (ya : Option Addr) (m : Nat) (yc : Nat) (fa : Option Addr) (fn : Nat) (fc : Nat) (z : Nat) (g : Nat) (h : Nat) (i : Nat) (l : Dk) (w18 : World) (k3 : Dk) (HX : Hid (Ms w w18 [.disk g k3, .disk h l] ∧ k3.d.length = z ∧ k3.ws = [])) (a : Act) (hf : Fr 301 a) (h0 : sl a 0 = .int .i64 (z : Int)) (h1 : sl a 1 = .slice ya m yc) (h2 : sl a 2 = .slice fa fn fc) (h7 : sl a 7 = .pointer (some ⟨g, 0, none⟩)) (h9 : sl a 9 = .pointer (some ⟨h, 0, none⟩)) (h11 : sl a 11 = .int .i64 (i : Int)) :
    Code.wp Try.prog (cAt [1,1,1,1,1,1,0,1,2,2,1,0,2,1,0,1,2,1,4,1,3,1,0] KDK) (Exit.then (fun a' w' => ∃ a1 : Option Addr, ∃ c1 : Nat, Fr 301 a' ∧ sl a' 0 = .int .i64 (z : Int) ∧ sl a' 1 = .slice ya m yc ∧ sl a' 2 = .slice fa fn fc ∧ sl a' 7 = .pointer (some ⟨g, 0, none⟩) ∧ sl a' 9 = .pointer (some ⟨h, 0, none⟩) ∧ sl a' 11 = .int .i64 (i : Int) ∧ sl a' 13 = .slice a1 z c1 ∧ Ms w w' [.disk h l, .disk g k3, .row a1 z c1 k3.d]) Nope) a w18 := by
  obtain ⟨f, ha, hs⟩ := frKDK hf
  have e0 := (hs 0).trans h0
  have e1 := (hs 1).trans h1
  have e2 := (hs 2).trans h2
  have e7 := (hs 7).trans h7
  have e9 := (hs 9).trans h9
  have e11 := (hs 11).trans h11
  rw [e0, e1, e2, e7, e9, e11] at ha
  clear hs hf e0 h0 e1 h1 e2 h2 e7 h7 e9 h9 e11 h11
  subst ha
  refine piece2 fun J0 K0 hJ0 hK0 => ?_
  conv => arg 2; whnf
  go_wp2_with fail
  refine (dkRead_step w.heap.size g k3 0 z _ HX.out.1.hd (by rw [HX.out.2.1]; omega)).mono ?_
  rintro e wz ⟨a1, n1, c1, rfl, ho, hb⟩
  have hn : z = n1 := by rw [← ho.len, cutD_len _ _ _ (by rw [nowP_len, HX.out.2.1]; omega)]
  subst hn
  have H : Hid (Ms w wz [.disk h l, .disk g k3, .row a1 z c1 k3.d]) := by
    have e : cutD (nowP k3.d k3.ws) 0 z = k3.d := by
      rw [HX.out.2.2, ← HX.out.2.1]; exact cutD_all _
    rw [e] at ho
    exact (HX.out.1.add (t := .row a1 z c1 k3.d) hb ho).rev3
  clear ho hb
  go_wp2_with fail
  refine Met.intro (hJ0 _ _ ?_)
  exact ⟨a1, c1, ⟨rfl, rfl⟩, rfl, rfl, rfl, rfl, rfl, rfl, rfl, H.out⟩

set_option maxRecDepth 100000 in
set_option maxHeartbeats 4000000 in
theorem k20 (w : World) (ya : Option Addr) (m : Nat) (yc : Nat) (fa : Option Addr) (fn : Nat) (fc : Nat) (z : Nat) (g : Nat) (h : Nat) (i : Nat) (k : Dk) (l : Dk) (HIL : Hid (KI z i k l)) (w18 : World) (k3 : Dk) (HX : Hid (Ms w w18 [.disk g k3, .disk h l] ∧ k3.d.length = z ∧ k3.ws = [])) (w19 : World) (a1 : Option Addr) (c1 : Nat) (HY : Hid (Ms w w19 [.disk h l, .disk g k3, .row a1 z c1 k3.d])) (a : Act) (hf : Fr 301 a) (h0 : sl a 0 = .int .i64 (z : Int)) (h1 : sl a 1 = .slice ya m yc) (h2 : sl a 2 = .slice fa fn fc) (h7 : sl a 7 = .pointer (some ⟨g, 0, none⟩)) (h9 : sl a 9 = .pointer (some ⟨h, 0, none⟩)) (h11 : sl a 11 = .int .i64 (i : Int)) (h13 : sl a 13 = .slice a1 z c1) :
    Code.wp Try.prog (cAt [1,1,1,1,1,1,0,1,2,2,1,0,2,1,0,1,2,1,4,1,3,1,1] KDK) (Exit.then (fun a' w' => ∃ l3 : Dk, Fr 301 a' ∧ sl a' 0 = .int .i64 (z : Int) ∧ sl a' 1 = .slice ya m yc ∧ sl a' 2 = .slice fa fn fc ∧ sl a' 7 = .pointer (some ⟨g, 0, none⟩) ∧ sl a' 9 = .pointer (some ⟨h, 0, none⟩) ∧ sl a' 11 = .int .i64 (i : Int) ∧ (Ms w w' [.disk g k3, .disk h l3] ∧ KJ z i k3 l3)) Nope) a w19 := by
  obtain ⟨f, ha, hs⟩ := frKDK hf
  have e0 := (hs 0).trans h0
  have e1 := (hs 1).trans h1
  have e2 := (hs 2).trans h2
  have e7 := (hs 7).trans h7
  have e9 := (hs 9).trans h9
  have e11 := (hs 11).trans h11
  have e13 := (hs 13).trans h13
  rw [e0, e1, e2, e7, e9, e11, e13] at ha
  clear hs hf e0 h0 e1 h1 e2 h2 e7 h7 e9 h9 e11 h11 e13 h13
  subst ha
  refine piece2 fun J0 K0 hJ0 hK0 => ?_
  conv => arg 2; whnf
  have hrow : Hid (Own w19 w.heap.size a1 z c1 k3.d) := HY.out.ok (.row a1 z c1 k3.d) (by simp)
  have hbyt : Hid (Byt k3.d) := (Dm.ok (HY.out.ok (.disk g k3) (by simp))).byt
  go_wp2_with fail
  refine (dkWrite_step w.heap.size h l 0 a1 z c1 k3.d _ HY.out.hd (by unfold I64; decide) hrow.out.len hrow.out.rd hbyt.out (by rw [ws_len, HIL.out.lw]; decide)).mono ?_
  rintro e wz ⟨rfl, l3, hs, hd, hl⟩
  have H : Hid (Ms w wz [.disk g k3, .disk h l3] ∧ KJ z i k3 l3) := ⟨(HY.out.disk hs).to1.sub (by simp), HIL.out.crash HX.out.2.1 HX.out.2.2 hd hl⟩
  clear hs hd hl
  go_wp2_with fail
  refine Met.intro (hJ0 _ _ ?_)
  exact ⟨l3, ⟨rfl, rfl⟩, rfl, rfl, rfl, rfl, rfl, rfl, H.out⟩

set_option maxRecDepth 100000 in
set_option maxHeartbeats 4000000 in
theorem k13 (w : World) (ya : Option Addr) (m : Nat) (yc : Nat) (fa : Option Addr) (fn : Nat) (fc : Nat) (z : Nat) (g : Nat) (h : Nat) (hm40 : Hid (m ≤ 40)) (i : Nat) (k : Dk) (l : Dk) (HIL : Hid (KI z i k l)) (hlt : Hid (i < m)) (y : Ac) (hyok : Hid (y.ok w)) (w11 : World) (bx : Nat) (HBX : Hid (w11.heap[bx]? = some (.cells y.cs.toArray 33 (0, 0)))) (HM11 : Hid (Ms w w11 [.disk g k, .disk h l])) (q : Int) (a : Act) (hf : Fr 301 a) (h0 : sl a 0 = .int .i64 (z : Int)) (h1 : sl a 1 = .slice ya m yc) (h2 : sl a 2 = .slice fa fn fc) (h7 : sl a 7 = .pointer (some ⟨g, 0, none⟩)) (h9 : sl a 9 = .pointer (some ⟨h, 0, none⟩)) (h11 : sl a 11 = .int .i64 (i : Int)) (h12 : sl a 12 = .pointer (some ⟨bx, 0, none⟩)) (h77 : sl a 77 = .int .i64 q) :
    Code.wp Try.prog (cAt [1,1,1,1,1,1,0,1,2,2,1,0,2,1,0,1,2,1,4,1,4,0] KDK) (Exit.then (fun a' w' => ∃ k3 : Dk, ∃ l3 : Dk, Fr 301 a' ∧ sl a' 0 = .int .i64 (z : Int) ∧ sl a' 1 = .slice ya m yc ∧ sl a' 2 = .slice fa fn fc ∧ sl a' 7 = .pointer (some ⟨g, 0, none⟩) ∧ sl a' 9 = .pointer (some ⟨h, 0, none⟩) ∧ sl a' 11 = .int .i64 (i : Int) ∧ sl a' 90 = .bool false ∧ (Ms w w' [.disk g k3, .disk h l3] ∧ KJ z i k3 l3)) Nope) a w11 := by
  obtain ⟨f, ha, hs⟩ := frKDK hf
  have e0 := (hs 0).trans h0
  have e1 := (hs 1).trans h1
  have e2 := (hs 2).trans h2
  have e7 := (hs 7).trans h7
  have e9 := (hs 9).trans h9
  have e11 := (hs 11).trans h11
  have e12 := (hs 12).trans h12
  have e77 := (hs 77).trans h77
  rw [e0, e1, e2, e7, e9, e11, e12, e77] at ha
  clear hs hf e0 h0 e1 h1 e2 h2 e7 h7 e9 h9 e11 h11 e12 h12 e77 h77
  subst ha
  refine piece2 fun J0 K0 hJ0 hK0 => ?_
  conv => arg 2; whnf
  have HMd : Hid (Ms w w11.drew [.disk g k, .disk h l]) := HM11.out.past (Below.refl _ _).drew
  have HNF : Hid (bx < w11.heap.size ∧ ¬ k.foot g bx ∧ ¬ l.foot h bx) := ⟨(Array.getElem?_eq_some_iff.1 HBX.out).1, fun e => Dm.apart HM11.out.hd HBX.out (by decide) (by decide) (by decide) e, fun e => Dm.apart HM11.out.to1.hd HBX.out (by decide) (by decide) (by decide) e⟩
  have hi40 : Hid (i ≤ 40) := by have := hlt.out; have := hm40.out; show i ≤ 40; omega
  go_wp2_with fail
  refine wp_region_held_drew (S := fun w' => w'.heap[bx]? = some (.cells y.cs.toArray 33 (0, 0))) (by kernel_rfl) HBX.out (fun hS => ?_)
  refine tk 0 78 (.pointer (some ⟨g, 0, none⟩)) rfl rfl (by kernel_rfl) (by kernel_rfl) (by kernel_rfl) (fun _ _ _ h => h) (Or.inl ⟨by rfl, fun w' h' => ?_⟩) hS ?_
  · go_simp
  try simp only [Act.put, List.setIfInBounds_toArray, List.set_cons_zero, List.set_cons_succ]
  refine tk 1 79 (.pointer (some ⟨bx, 1, none⟩)) rfl rfl (by kernel_rfl) (by kernel_rfl) (by kernel_rfl) (fun _ _ _ h => h) (Or.inl ⟨by rfl, fun w' h' => ?_⟩) hS ?_
  · go_simp
  try simp only [Act.put, List.setIfInBounds_toArray, List.set_cons_zero, List.set_cons_succ]
  refine tk 2 80 (.int .i64 y.p) rfl rfl (by kernel_rfl) (by kernel_rfl) (by kernel_rfl) (fun _ _ _ h => h) (Or.inl ⟨by rfl, fun w' h' => ?_⟩) hS ?_
  · have c1 := Ac.k1 h'
    go_simp
  try simp only [Act.put, List.setIfInBounds_toArray, List.set_cons_zero, List.set_cons_succ]
  refine tk 3 81 (.pointer (some ⟨bx, 2, none⟩)) rfl rfl (by kernel_rfl) (by kernel_rfl) (by kernel_rfl) (fun _ _ _ h => h) (Or.inl ⟨by rfl, fun w' h' => ?_⟩) hS ?_
  · go_simp
  try simp only [Act.put, List.setIfInBounds_toArray, List.set_cons_zero, List.set_cons_succ]
  refine tk 4 82 (.slice y.a y.n y.c) rfl rfl (by kernel_rfl) (by kernel_rfl) (by kernel_rfl) (fun _ _ _ h => h) (Or.inl ⟨by rfl, fun w' h' => ?_⟩) hS ?_
  · have c2 := Ac.k2 h'
    go_simp
  try simp only [Act.put, List.setIfInBounds_toArray, List.set_cons_zero, List.set_cons_succ]
  refine tk 6 84 (.pointer (some ⟨h, 0, none⟩)) rfl rfl (by kernel_rfl) (by kernel_rfl) (by kernel_rfl) (fun _ _ _ h => h) (Or.inl ⟨by rfl, fun w' h' => ?_⟩) hS ?_
  · go_simp
  try simp only [Act.put, List.setIfInBounds_toArray, List.set_cons_zero, List.set_cons_succ]
  refine tk 7 85 (.pointer (some ⟨bx, 1, none⟩)) rfl rfl (by kernel_rfl) (by kernel_rfl) (by kernel_rfl) (fun _ _ _ h => h) (Or.inl ⟨by rfl, fun w' h' => ?_⟩) hS ?_
  · go_simp
  try simp only [Act.put, List.setIfInBounds_toArray, List.set_cons_zero, List.set_cons_succ]
  refine tk 8 86 (.int .i64 y.p) rfl rfl (by kernel_rfl) (by kernel_rfl) (by kernel_rfl) (fun _ _ _ h => h) (Or.inl ⟨by rfl, fun w' h' => ?_⟩) hS ?_
  · have c1 := Ac.k1 h'
    go_simp
  try simp only [Act.put, List.setIfInBounds_toArray, List.set_cons_zero, List.set_cons_succ]
  refine tk 9 87 (.pointer (some ⟨bx, 2, none⟩)) rfl rfl (by kernel_rfl) (by kernel_rfl) (by kernel_rfl) (fun _ _ _ h => h) (Or.inl ⟨by rfl, fun w' h' => ?_⟩) hS ?_
  · go_simp
  try simp only [Act.put, List.setIfInBounds_toArray, List.set_cons_zero, List.set_cons_succ]
  refine tk 10 88 (.slice y.a y.n y.c) rfl rfl (by kernel_rfl) (by kernel_rfl) (by kernel_rfl) (fun _ _ _ h => h) (Or.inl ⟨by rfl, fun w' h' => ?_⟩) hS ?_
  · have c2 := Ac.k2 h'
    go_simp
  try simp only [Act.put, List.setIfInBounds_toArray, List.set_cons_zero, List.set_cons_succ]
  refine wpAnyH_ready (rs := [5]) (by kernel_rfl) (by simp) (AllReadyH.cons rfl (fun K hK => ?_) AllReadyH.nil)
  rw [if_pos (by rfl)]
  go_wp2_with fail
  refine (dkWrite_step w.heap.size g k y.p y.a y.n y.c y.xs _ HMd.out.hd hyok.out.p0 hyok.out.len (hyok.out.below HMd.out.below).rd hyok.out.byt (by have := HIL.out.kw; have := hi40.out; rw [ws_len]; omega)).mono ?_
  rintro e w2 ⟨rfl, k3, hs, hd, hl⟩
  have H2 : Hid (Ms w w2 [.disk h l, .disk g k3] ∧ k3.d = k.d ∧ k3.ws = putP k.d k.ws y.p y.xs) := ⟨(HMd.out.disk hs).to1, hd, hl⟩
  have HB2 : Hid (w2.heap[bx]? = some (.cells y.cs.toArray 33 (0, 0))) := hs.kept.heap (w := w11.drew) HBX.out HNF.out.2.1
  clear hs hd hl
  clear hS
  refine hK.out _ _ (HB2.out) (fun hS => ?_)
  clear hK K
  try simp only [Act.put, List.setIfInBounds_toArray, List.set_cons_zero, List.set_cons_succ]
  refine wpAnyH_ready (rs := [11]) (by kernel_rfl) (by simp) (AllReadyH.cons rfl (fun K hK => ?_) AllReadyH.nil)
  rw [if_pos (by rfl)]
  go_wp2_with fail
  refine (dkWrite_step w.heap.size h l y.p y.a y.n y.c y.xs _ H2.out.1.hd hyok.out.p0 hyok.out.len (hyok.out.below H2.out.1.below).rd hyok.out.byt (by rw [ws_len, HIL.out.lw]; decide)).mono ?_
  rintro e w3 ⟨rfl, l3, hs, hd, hl⟩
  have H13 : Hid (Ms w w3 [.disk g k3, .disk h l3] ∧ KJ z i k3 l3) := ⟨(H2.out.1.disk hs).to1, HIL.out.write y.p y.xs H2.out.2.1 H2.out.2.2 hd hl⟩
  have HB3 : Hid (w3.heap[bx]? = some (.cells y.cs.toArray 33 (0, 0))) := hs.kept.heap HB2.out HNF.out.2.2
  have hrc : rcV l.d y.p y.n = rcV k.d y.p y.n := rcV_len (by rw [HIL.out.len, HIL.out.kd]) _ _
  rw [hrc]
  obtain ⟨rc, hrcv⟩ : ∃ rc, rcV k.d y.p y.n = rc := ⟨_, rfl⟩
  rw [hrcv]
  clear hs hd hl hrc hrcv
  clear hS
  refine hK.out _ _ (HB3.out) (fun hS => ?_)
  clear hK K
  try simp only [Act.put, List.setIfInBounds_toArray, List.set_cons_zero, List.set_cons_succ]
  refine tk 12 90 (.bool false) rfl rfl (by kernel_rfl) (by kernel_rfl) (by kernel_rfl) (fun _ _ _ h => h) (Or.inl ⟨by rfl, fun w' h' => ?_⟩) hS ?_
  · go_simp
  refine wpAnyH_done (by kernel_rfl) ?_ _
  go_wp2_with fail
  refine Met.intro (hJ0 _ _ ?_)
  exact ⟨k3, l3, ⟨rfl, rfl⟩, rfl, rfl, rfl, rfl, rfl, rfl, rfl, H13.out⟩

theorem keeps_do (w : World) (ya : Option Addr) (m : Nat) (yc : Nat) (fa : Option Addr) (fn : Nat) (fc : Nat) (fl : List Ft) (z : Nat) (g : Nat) (h : Nat) (hm40 : Hid (m ≤ 40)) (i : Nat) (k : Dk) (l : Dk) (HIL : Hid (KI z i k l)) (hlt : Hid (i < m)) (y : Ac) (hyok : Hid (y.ok w)) (w11 : World) (bx : Nat) (HBX : Hid (w11.heap[bx]? = some (.cells y.cs.toArray 33 (0, 0)))) (HM11 : Hid (Ms w w11 [.disk g k, .disk h l])) (q : Int) (a : Act) (hf : Fr 301 a) (h0 : sl a 0 = .int .i64 (z : Int)) (h1 : sl a 1 = .slice ya m yc) (h2 : sl a 2 = .slice fa fn fc) (h7 : sl a 7 = .pointer (some ⟨g, 0, none⟩)) (h9 : sl a 9 = .pointer (some ⟨h, 0, none⟩)) (h11 : sl a 11 = .int .i64 (i : Int)) (h12 : sl a 12 = .pointer (some ⟨bx, 0, none⟩)) (h77 : sl a 77 = .int .i64 q) :
    Code.wp Try.prog (cAt [1,1,1,1,1,1,0,1,2,2,1,0,2,1,0,1] KDK) (Exit.then (fun a' w' => ∃ k2 : Dk, ∃ l2 : Dk, Fr 301 a' ∧ sl a' 0 = .int .i64 (z : Int) ∧ sl a' 1 = .slice ya m yc ∧ sl a' 2 = .slice fa fn fc ∧ sl a' 7 = .pointer (some ⟨g, 0, none⟩) ∧ sl a' 9 = .pointer (some ⟨h, 0, none⟩) ∧ sl a' 11 = .int .i64 (i : Int) ∧ Ms w w' [.disk g k2, .disk h l2] ∧ KJ z i k2 l2) Nope) a w11 := by
  have hm40 := hm40.out
  have HIL := HIL.out
  have hlt := hlt.out
  have hyok := hyok.out
  have HBX := HBX.out
  have HM11 := HM11.out
  refine wp_blockR (x := cAt [1,1,1,1,1,1,0,1,2,2,1,0,2,1,0,1,2] KDK) (id := 2) (by kernel_rfl) ?_
  refine wp_sqR (x := cAt [1,1,1,1,1,1,0,1,2,2,1,0,2,1,0,1,2,0] KDK) (y := cAt [1,1,1,1,1,1,0,1,2,2,1,0,2,1,0,1,2,1] KDK) (by kernel_rfl) (k15 ya m yc fa fn fc z g h i w11 bx q a hf h0 h1 h2 h7 h9 h11 h12 h77) ?_
  rintro a_12 _ ⟨hf, h0, h1, h2, h7, h9, h11, h12, h77, h91, rfl⟩
  by_cases hq4 : q = 4
  · rw [decide_eq_true hq4] at h91
    refine wp_onT (A := cAt [1,1,1,1,1,1,0,1,2,2,1,0,2,1,0,1,2,1,3] KDK) (B := cAt [1,1,1,1,1,1,0,1,2,2,1,0,2,1,0,1,2,1,4] KDK) (by kernel_rfl) h91 ?_
    refine wp_endR (k16 w ya m yc fa fn fc z g h i k l HIL w11 bx HM11 q a_12 hf h0 h1 h2 h7 h9 h11 h12 h77) ?_
    rintro a_13 w16 ⟨k3, hf, h0, h1, h2, h7, h9, h11, HX⟩
    exact ⟨k3, l, hf, h0, h1, h2, h7, h9, h11, HX.1, HX.2⟩
  · rw [decide_eq_false hq4] at h91
    refine wp_onF (A := cAt [1,1,1,1,1,1,0,1,2,2,1,0,2,1,0,1,2,1,3] KDK) (B := cAt [1,1,1,1,1,1,0,1,2,2,1,0,2,1,0,1,2,1,4] KDK) (by kernel_rfl) h91 ?_
    refine wp_sqR (x := cAt [1,1,1,1,1,1,0,1,2,2,1,0,2,1,0,1,2,1,4,0] KDK) (y := cAt [1,1,1,1,1,1,0,1,2,2,1,0,2,1,0,1,2,1,4,1] KDK) (by kernel_rfl) (k17 ya m yc fa fn fc z g h i w11 bx q a_12 hf h0 h1 h2 h7 h9 h11 h12 h77) ?_
    rintro a_14 _ ⟨hf, h0, h1, h2, h7, h9, h11, h12, h77, h95, rfl⟩
    by_cases hq5 : q = 5
    · rw [decide_eq_true hq5] at h95
      refine wp_onT (A := cAt [1,1,1,1,1,1,0,1,2,2,1,0,2,1,0,1,2,1,4,1,3] KDK) (B := cAt [1,1,1,1,1,1,0,1,2,2,1,0,2,1,0,1,2,1,4,1,4] KDK) (by kernel_rfl) h95 ?_
      refine wp_sqR (x := cAt [1,1,1,1,1,1,0,1,2,2,1,0,2,1,0,1,2,1,4,1,3,0] KDK) (y := cAt [1,1,1,1,1,1,0,1,2,2,1,0,2,1,0,1,2,1,4,1,3,1] KDK) (by kernel_rfl) (k18 w ya m yc fa fn fc fl z g h i k l HIL y hyok w11 bx HBX HM11 q a_14 hf h0 h1 h2 h7 h9 h11 h12 h77) ?_
      rintro a_15 w18 ⟨k3, hf, h0, h1, h2, h7, h9, h11, HX⟩
      refine wp_sqR (x := cAt [1,1,1,1,1,1,0,1,2,2,1,0,2,1,0,1,2,1,4,1,3,1,0] KDK) (y := cAt [1,1,1,1,1,1,0,1,2,2,1,0,2,1,0,1,2,1,4,1,3,1,1] KDK) (by kernel_rfl) (k19 w ya m yc fa fn fc z g h i l w18 k3 HX a_15 hf h0 h1 h2 h7 h9 h11) ?_
      rintro a_16 w19 ⟨a1, c1, hf, h0, h1, h2, h7, h9, h11, h13, HY⟩
      refine wp_endR (k20 w ya m yc fa fn fc z g h i k l HIL w18 k3 HX w19 a1 c1 HY a_16 hf h0 h1 h2 h7 h9 h11 h13) ?_
      rintro a_17 w20 ⟨l3, hf, h0, h1, h2, h7, h9, h11, HX2⟩
      exact ⟨k3, l3, hf, h0, h1, h2, h7, h9, h11, HX2.1, HX2.2⟩
    · rw [decide_eq_false hq5] at h95
      refine wp_onF (A := cAt [1,1,1,1,1,1,0,1,2,2,1,0,2,1,0,1,2,1,4,1,3] KDK) (B := cAt [1,1,1,1,1,1,0,1,2,2,1,0,2,1,0,1,2,1,4,1,4] KDK) (by kernel_rfl) h95 ?_
      refine wp_sqR (x := cAt [1,1,1,1,1,1,0,1,2,2,1,0,2,1,0,1,2,1,4,1,4,0] KDK) (y := cAt [1,1,1,1,1,1,0,1,2,2,1,0,2,1,0,1,2,1,4,1,4,1] KDK) (by kernel_rfl) (k13 w ya m yc fa fn fc z g h hm40 i k l HIL hlt y hyok w11 bx HBX HM11 q a_14 hf h0 h1 h2 h7 h9 h11 h12 h77) ?_
      rintro a_18 w13 ⟨k3, l3, hf, h0, h1, h2, h7, h9, h11, h90, HX⟩
      refine wp_onF (A := cAt [1,1,1,1,1,1,0,1,2,2,1,0,2,1,0,1,2,1,4,1,4,1,3] KDK) (B := cAt [1,1,1,1,1,1,0,1,2,2,1,0,2,1,0,1,2,1,4,1,4,1,4] KDK) (by kernel_rfl) h90 ?_
      refine wp_skipR (by kernel_rfl) ?_
      exact ⟨k3, l3, hf, h0, h1, h2, h7, h9, h11, HX.1, HX.2⟩

set_option maxRecDepth 100000 in
set_option maxHeartbeats 4000000 in
theorem k21 (w : World) (ya : Option Addr) (m : Nat) (yc : Nat) (fa : Option Addr) (fn : Nat) (fc : Nat) (z : Nat) (g : Nat) (h : Nat) (i : Nat) (wj : World) (k2 : Dk) (l2 : Dk) (HMJ : Hid (Ms w wj [.disk g k2, .disk h l2])) (HJ : Hid (KJ z i k2 l2)) (a : Act) (hf : Fr 301 a) (h0 : sl a 0 = .int .i64 (z : Int)) (h1 : sl a 1 = .slice ya m yc) (h2 : sl a 2 = .slice fa fn fc) (h7 : sl a 7 = .pointer (some ⟨g, 0, none⟩)) (h9 : sl a 9 = .pointer (some ⟨h, 0, none⟩)) (h11 : sl a 11 = .int .i64 (i : Int)) :
    Code.wp Try.prog (cAt [1,1,1,1,1,1,0,1,2,2,1,0,2,1,1,0] KDK) (Exit.then (fun a' w' => ∃ l3 : Dk, Fr 301 a' ∧ sl a' 0 = .int .i64 (z : Int) ∧ sl a' 1 = .slice ya m yc ∧ sl a' 2 = .slice fa fn fc ∧ sl a' 7 = .pointer (some ⟨g, 0, none⟩) ∧ sl a' 9 = .pointer (some ⟨h, 0, none⟩) ∧ sl a' 11 = .int .i64 (i : Int) ∧ (Ms w w' [.disk g k2, .disk h l3] ∧ KI z (i + 1) k2 l3)) Nope) a wj := by
  obtain ⟨f, ha, hs⟩ := frKDK hf
  have e0 := (hs 0).trans h0
  have e1 := (hs 1).trans h1
  have e2 := (hs 2).trans h2
  have e7 := (hs 7).trans h7
  have e9 := (hs 9).trans h9
  have e11 := (hs 11).trans h11
  rw [e0, e1, e2, e7, e9, e11] at ha
  clear hs hf e0 h0 e1 h1 e2 h2 e7 h7 e9 h9 e11 h11
  subst ha
  refine piece2 fun J0 K0 hJ0 hK0 => ?_
  conv => arg 2; whnf
  go_wp2_with fail
  refine (dkSync_step w.heap.size h l2 _ HMJ.out.to1.hd).mono ?_
  rintro e wz ⟨rfl, l3, hs, hd, hl⟩
  have H : Hid (Ms w wz [.disk g k2, .disk h l3] ∧ KI z (i + 1) k2 l3) := ⟨(HMJ.out.to1.disk hs).to1, HJ.out.sync hd hl⟩
  clear hs hd hl
  go_wp2_with fail
  refine Met.intro (hJ0 _ _ ?_)
  exact ⟨l3, ⟨rfl, rfl⟩, rfl, rfl, rfl, rfl, rfl, rfl, H.out⟩

set_option maxRecDepth 100000 in
set_option maxHeartbeats 4000000 in
theorem k22 (w : World) (ya : Option Addr) (m : Nat) (yc : Nat) (fa : Option Addr) (fn : Nat) (fc : Nat) (z : Nat) (g : Nat) (h : Nat) (i : Nat) (k2 : Dk) (w21 : World) (l3 : Dk) (HS : Hid (Ms w w21 [.disk g k2, .disk h l3] ∧ KI z (i + 1) k2 l3)) (a : Act) (hf : Fr 301 a) (h0 : sl a 0 = .int .i64 (z : Int)) (h1 : sl a 1 = .slice ya m yc) (h2 : sl a 2 = .slice fa fn fc) (h7 : sl a 7 = .pointer (some ⟨g, 0, none⟩)) (h9 : sl a 9 = .pointer (some ⟨h, 0, none⟩)) (h11 : sl a 11 = .int .i64 (i : Int)) :
    Code.wp Try.prog (cAt [1,1,1,1,1,1,0,1,2,2,1,0,2,1,1,1,0] KDK) (Exit.then (fun a' w' => ∃ a1 : Option Addr, ∃ c1 : Nat, Fr 301 a' ∧ sl a' 0 = .int .i64 (z : Int) ∧ sl a' 1 = .slice ya m yc ∧ sl a' 2 = .slice fa fn fc ∧ sl a' 7 = .pointer (some ⟨g, 0, none⟩) ∧ sl a' 9 = .pointer (some ⟨h, 0, none⟩) ∧ sl a' 11 = .int .i64 (i : Int) ∧ sl a' 15 = .slice a1 z c1 ∧ Ms w w' [.disk h l3, .disk g k2, .row a1 z c1 (nowP k2.d k2.ws)]) Nope) a w21 := by
  obtain ⟨f, ha, hs⟩ := frKDK hf
  have e0 := (hs 0).trans h0
  have e1 := (hs 1).trans h1
  have e2 := (hs 2).trans h2
  have e7 := (hs 7).trans h7
  have e9 := (hs 9).trans h9
  have e11 := (hs 11).trans h11
  rw [e0, e1, e2, e7, e9, e11] at ha
  clear hs hf e0 h0 e1 h1 e2 h2 e7 h7 e9 h9 e11 h11
  subst ha
  refine piece2 fun J0 K0 hJ0 hK0 => ?_
  conv => arg 2; whnf
  go_wp2_with fail
  refine (dkRead_step w.heap.size g k2 0 z _ HS.out.1.hd (by rw [HS.out.2.kd]; omega)).mono ?_
  rintro e wz ⟨a1, n1, c1, rfl, ho, hb⟩
  have hn : z = n1 := by rw [← ho.len, cutD_len _ _ _ (by rw [nowP_len, HS.out.2.kd]; omega)]
  subst hn
  have H : Hid (Ms w wz [.disk h l3, .disk g k2, .row a1 z c1 (nowP k2.d k2.ws)]) := by
    have e : cutD (nowP k2.d k2.ws) 0 z = nowP k2.d k2.ws := by
      have := cutD_all (nowP k2.d k2.ws)
      rw [nowP_len, HS.out.2.kd] at this
      exact this
    rw [e] at ho
    exact (HS.out.1.add (t := .row a1 z c1 (nowP k2.d k2.ws)) hb ho).rev3
  clear ho hb
  go_wp2_with fail
  refine Met.intro (hJ0 _ _ ?_)
  exact ⟨a1, c1, ⟨rfl, rfl⟩, rfl, rfl, rfl, rfl, rfl, rfl, rfl, H.out⟩

set_option maxRecDepth 100000 in
set_option maxHeartbeats 4000000 in
theorem k23 (w : World) (ya : Option Addr) (m : Nat) (yc : Nat) (fa : Option Addr) (fn : Nat) (fc : Nat) (z : Nat) (g : Nat) (h : Nat) (i : Nat) (k2 : Dk) (w21 : World) (l3 : Dk) (HS : Hid (Ms w w21 [.disk g k2, .disk h l3] ∧ KI z (i + 1) k2 l3)) (w22 : World) (a1 : Option Addr) (c1 : Nat) (HR : Hid (Ms w w22 [.disk h l3, .disk g k2, .row a1 z c1 (nowP k2.d k2.ws)])) (a : Act) (hf : Fr 301 a) (h0 : sl a 0 = .int .i64 (z : Int)) (h1 : sl a 1 = .slice ya m yc) (h2 : sl a 2 = .slice fa fn fc) (h7 : sl a 7 = .pointer (some ⟨g, 0, none⟩)) (h9 : sl a 9 = .pointer (some ⟨h, 0, none⟩)) (h11 : sl a 11 = .int .i64 (i : Int)) (h15 : sl a 15 = .slice a1 z c1) :
    Code.wp Try.prog (cAt [1,1,1,1,1,1,0,1,2,2,1,0,2,1,1,1,1,0] KDK) (Exit.then (fun a' w' => ∃ a2 : Option Addr, ∃ c2 : Nat, Fr 301 a' ∧ sl a' 0 = .int .i64 (z : Int) ∧ sl a' 1 = .slice ya m yc ∧ sl a' 2 = .slice fa fn fc ∧ sl a' 7 = .pointer (some ⟨g, 0, none⟩) ∧ sl a' 9 = .pointer (some ⟨h, 0, none⟩) ∧ sl a' 11 = .int .i64 (i : Int) ∧ sl a' 15 = .slice a1 z c1 ∧ sl a' 17 = .slice a2 z c2 ∧ Ms w w' [.row a2 z c2 (nowP l3.d l3.ws), .disk h l3, .disk g k2, .row a1 z c1 (nowP k2.d k2.ws)]) Nope) a w22 := by
  obtain ⟨f, ha, hs⟩ := frKDK hf
  have e0 := (hs 0).trans h0
  have e1 := (hs 1).trans h1
  have e2 := (hs 2).trans h2
  have e7 := (hs 7).trans h7
  have e9 := (hs 9).trans h9
  have e11 := (hs 11).trans h11
  have e15 := (hs 15).trans h15
  rw [e0, e1, e2, e7, e9, e11, e15] at ha
  clear hs hf e0 h0 e1 h1 e2 h2 e7 h7 e9 h9 e11 h11 e15 h15
  subst ha
  refine piece2 fun J0 K0 hJ0 hK0 => ?_
  conv => arg 2; whnf
  go_wp2_with fail
  refine (dkRead_step w.heap.size h l3 0 z _ HR.out.hd (by rw [HS.out.2.len]; omega)).mono ?_
  rintro e wz ⟨a2, n1, c2, rfl, ho, hb⟩
  have hn : z = n1 := by rw [← ho.len, cutD_len _ _ _ (by rw [nowP_len, HS.out.2.len]; omega)]
  subst hn
  have H : Hid (Ms w wz [.row a2 z c2 (nowP l3.d l3.ws), .disk h l3, .disk g k2, .row a1 z c1 (nowP k2.d k2.ws)]) := by
    have e : cutD (nowP l3.d l3.ws) 0 z = nowP l3.d l3.ws := by
      have := cutD_all (nowP l3.d l3.ws)
      rw [nowP_len, HS.out.2.len] at this
      exact this
    rw [e] at ho
    exact HR.out.add (t := .row a2 z c2 (nowP l3.d l3.ws)) hb ho
  clear ho hb
  go_wp2_with fail
  refine Met.intro (hJ0 _ _ ?_)
  exact ⟨a2, c2, ⟨rfl, rfl⟩, rfl, rfl, rfl, rfl, rfl, rfl, rfl, rfl, H.out⟩

set_option maxRecDepth 100000 in
set_option maxHeartbeats 4000000 in
theorem k24 (w : World) (ya : Option Addr) (m : Nat) (yc : Nat) (fa : Option Addr) (fn : Nat) (fc : Nat) (z : Nat) (g : Nat) (h : Nat) (i : Nat) (k2 : Dk) (w21 : World) (l3 : Dk) (HS : Hid (Ms w w21 [.disk g k2, .disk h l3] ∧ KI z (i + 1) k2 l3)) (a1 : Option Addr) (c1 : Nat) (w23 : World) (a2 : Option Addr) (c2 : Nat) (HR2 : Hid (Ms w w23 [.row a2 z c2 (nowP l3.d l3.ws), .disk h l3, .disk g k2, .row a1 z c1 (nowP k2.d k2.ws)])) (a : Act) (hf : Fr 301 a) (h0 : sl a 0 = .int .i64 (z : Int)) (h1 : sl a 1 = .slice ya m yc) (h2 : sl a 2 = .slice fa fn fc) (h7 : sl a 7 = .pointer (some ⟨g, 0, none⟩)) (h9 : sl a 9 = .pointer (some ⟨h, 0, none⟩)) (h11 : sl a 11 = .int .i64 (i : Int)) (h15 : sl a 15 = .slice a1 z c1) (h17 : sl a 17 = .slice a2 z c2) :
    Code.wp Try.prog (cAt [1,1,1,1,1,1,0,1,2,2,1,0,2,1,1,1,1,1,0] KDK) (Exit.then (fun a' w' => Fr 301 a' ∧ sl a' 0 = .int .i64 (z : Int) ∧ sl a' 1 = .slice ya m yc ∧ sl a' 2 = .slice fa fn fc ∧ sl a' 7 = .pointer (some ⟨g, 0, none⟩) ∧ sl a' 9 = .pointer (some ⟨h, 0, none⟩) ∧ sl a' 11 = .int .i64 (i : Int) ∧ sl a' 133 = .bool false ∧ w23 = w') Nope) a w23 := by
  obtain ⟨f, ha, hs⟩ := frKDK hf
  have e0 := (hs 0).trans h0
  have e1 := (hs 1).trans h1
  have e2 := (hs 2).trans h2
  have e7 := (hs 7).trans h7
  have e9 := (hs 9).trans h9
  have e11 := (hs 11).trans h11
  have e15 := (hs 15).trans h15
  have e17 := (hs 17).trans h17
  rw [e0, e1, e2, e7, e9, e11, e15, e17] at ha
  clear hs hf e0 h0 e1 h1 e2 h2 e7 h7 e9 h9 e11 h11 e15 h15 e17 h17
  subst ha
  refine piece2 fun J0 K0 hJ0 hK0 => ?_
  conv => arg 2; whnf
  have he : Hid (nowP l3.d l3.ws = nowP k2.d k2.ws) := by show _ = _; rw [HS.out.2.lw, ← HS.out.2.ld]; rfl
  have o1 : Hid (Own w23 w.heap.size a1 z c1 (nowP k2.d k2.ws)) := HR2.out.ok (.row a1 z c1 (nowP k2.d k2.ws)) (by simp)
  have o2 : Hid (Own w23 w.heap.size a2 z c2 (nowP k2.d k2.ws)) := by rw [← he.out]; exact HR2.out.hd
  have hb : Hid (Byt (nowP k2.d k2.ws)) := Dm.now_byt (HR2.out.ok (.disk g k2) (by simp))
  go_wp2_with fail
  refine (same_any a1 a2 z c1 z c2 _ _ w23 o1.out.len o2.out.len o1.out.rd o2.out.rd hb.out hb.out).mono ?_
  rintro e wz ⟨rfl, hw⟩
  subst hw
  rw [decide_eq_true rfl]
  go_wp2_with fail
  refine Met.intro (hJ0 _ _ ?_)
  exact ⟨⟨rfl, rfl⟩, rfl, rfl, rfl, rfl, rfl, rfl, rfl, rfl⟩

theorem keeps_act (w : World) (ya : Option Addr) (m : Nat) (yc : Nat) (la : List Ac) (fa : Option Addr) (fn : Nat) (fc : Nat) (fl : List Ft) (HLA : Hid (Acr w ya m la)) (z : Nat) (g : Nat) (h : Nat) (hm40 : Hid (m ≤ 40)) (wl : World) (i : Nat) (k : Dk) (l : Dk) (HML : Hid (Ms w wl [.disk g k, .disk h l])) (HIL : Hid (KI z i k l)) (hlt : Hid (i < m)) (a : Act) (hf : Fr 301 a) (h0 : sl a 0 = .int .i64 (z : Int)) (h1 : sl a 1 = .slice ya m yc) (h2 : sl a 2 = .slice fa fn fc) (h7 : sl a 7 = .pointer (some ⟨g, 0, none⟩)) (h9 : sl a 9 = .pointer (some ⟨h, 0, none⟩)) (h11 : sl a 11 = .int .i64 (i : Int)) :
    Code.wp Try.prog (cAt [1,1,1,1,1,1,0,1,2,2,1,0] KDK) (Exit.then (fun a' w' => ∃ k2 : Dk, ∃ l3 : Dk, Fr 301 a' ∧ sl a' 0 = .int .i64 (z : Int) ∧ sl a' 1 = .slice ya m yc ∧ sl a' 2 = .slice fa fn fc ∧ sl a' 7 = .pointer (some ⟨g, 0, none⟩) ∧ sl a' 9 = .pointer (some ⟨h, 0, none⟩) ∧ sl a' 11 = .int .i64 (i : Int) ∧ Ms w w' [.disk g k2, .disk h l3] ∧ KI z (i + 1) k2 l3) Nope) a wl := by
  have HLA := HLA.out
  have hm40 := hm40.out
  have HML := HML.out
  have HIL := HIL.out
  have hlt := hlt.out
  refine wp_blockR (x := cAt [1,1,1,1,1,1,0,1,2,2,1,0,2] KDK) (id := 1) (by kernel_rfl) ?_
  obtain ⟨y, yb, yo, hy, hyok, hya, hrg⟩ := HLA.nth hlt
  rw [hya] at h1
  refine wp_sqR (x := cAt [1,1,1,1,1,1,0,1,2,2,1,0,2,0] KDK) (y := cAt [1,1,1,1,1,1,0,1,2,2,1,0,2,1] KDK) (by kernel_rfl) (k11 w m yc fa fn fc z g h wl i k l HML hlt y yb yo hrg a hf h0 h1 h2 h7 h9 h11) ?_
  rintro a_10 w11 ⟨bx, hf, h0, h1, h2, h7, h9, h11, h12, HBX, HB11, HSX⟩
  have HM11 : Ms w w11 [.disk g k, .disk h l] := HML.past HB11
  rw [← hya] at h1
  refine wp_sqG (x := cAt [1,1,1,1,1,1,0,1,2,2,1,0,2,1,0] KDK) (y := cAt [1,1,1,1,1,1,0,1,2,2,1,0,2,1,1] KDK) (by kernel_rfl) ?_
  refine wp_sqR (x := cAt [1,1,1,1,1,1,0,1,2,2,1,0,2,1,0,0] KDK) (y := cAt [1,1,1,1,1,1,0,1,2,2,1,0,2,1,0,1] KDK) (by kernel_rfl) (k12 ya m yc fa fn fc z g h i y w11 bx HBX a_10 hf h0 h1 h2 h7 h9 h11 h12) ?_
  rintro a_11 _ ⟨q, hf, h0, h1, h2, h7, h9, h11, h12, h77, rfl⟩
  refine wp_endR (keeps_do w ya m yc fa fn fc fl z g h hm40 i k l HIL hlt y hyok w11 bx HBX HM11 q a_11 hf h0 h1 h2 h7 h9 h11 h12 h77) ?_
  rintro a_19 wj ⟨k2, l2, hf, h0, h1, h2, h7, h9, h11, HMJ, HJ⟩
  refine wp_sqR (x := cAt [1,1,1,1,1,1,0,1,2,2,1,0,2,1,1,0] KDK) (y := cAt [1,1,1,1,1,1,0,1,2,2,1,0,2,1,1,1] KDK) (by kernel_rfl) (k21 w ya m yc fa fn fc z g h i wj k2 l2 HMJ HJ a_19 hf h0 h1 h2 h7 h9 h11) ?_
  rintro a_20 w21 ⟨l3, hf, h0, h1, h2, h7, h9, h11, HS⟩
  refine wp_sqR (x := cAt [1,1,1,1,1,1,0,1,2,2,1,0,2,1,1,1,0] KDK) (y := cAt [1,1,1,1,1,1,0,1,2,2,1,0,2,1,1,1,1] KDK) (by kernel_rfl) (k22 w ya m yc fa fn fc z g h i k2 w21 l3 HS a_20 hf h0 h1 h2 h7 h9 h11) ?_
  rintro a_21 w22 ⟨a1, c1, hf, h0, h1, h2, h7, h9, h11, h15, HR⟩
  refine wp_sqR (x := cAt [1,1,1,1,1,1,0,1,2,2,1,0,2,1,1,1,1,0] KDK) (y := cAt [1,1,1,1,1,1,0,1,2,2,1,0,2,1,1,1,1,1] KDK) (by kernel_rfl) (k23 w ya m yc fa fn fc z g h i k2 w21 l3 HS w22 a1 c1 HR a_21 hf h0 h1 h2 h7 h9 h11 h15) ?_
  rintro a_22 w23 ⟨a2, c2, hf, h0, h1, h2, h7, h9, h11, h15, h17, HR2⟩
  refine wp_sqR (x := cAt [1,1,1,1,1,1,0,1,2,2,1,0,2,1,1,1,1,1,0] KDK) (y := cAt [1,1,1,1,1,1,0,1,2,2,1,0,2,1,1,1,1,1,1] KDK) (by kernel_rfl) (k24 w ya m yc fa fn fc z g h i k2 w21 l3 HS a1 c1 w23 a2 c2 HR2 a_22 hf h0 h1 h2 h7 h9 h11 h15 h17) ?_
  rintro a_23 _ ⟨hf, h0, h1, h2, h7, h9, h11, h133, rfl⟩
  refine wp_onF (A := cAt [1,1,1,1,1,1,0,1,2,2,1,0,2,1,1,1,1,1,1,3] KDK) (B := cAt [1,1,1,1,1,1,0,1,2,2,1,0,2,1,1,1,1,1,1,4] KDK) (by kernel_rfl) h133 ?_
  refine wp_skipR (by kernel_rfl) ?_
  exact ⟨k2, l3, hf, h0, h1, h2, h7, h9, h11, HR2.tail.to1.sub (by simp), HS.2⟩

set_option maxRecDepth 100000 in
set_option maxHeartbeats 4000000 in
theorem k10 (ya : Option Addr) (m : Nat) (yc : Nat) (fa : Option Addr) (fn : Nat) (fc : Nat) (z : Nat) (g : Nat) (h : Nat) (hm40 : Hid (m ≤ 40)) (i : Nat) (hlt : Hid (i < m)) (wn : World) (a : Act) (hf : Fr 301 a) (h0 : sl a 0 = .int .i64 (z : Int)) (h1 : sl a 1 = .slice ya m yc) (h2 : sl a 2 = .slice fa fn fc) (h7 : sl a 7 = .pointer (some ⟨g, 0, none⟩)) (h9 : sl a 9 = .pointer (some ⟨h, 0, none⟩)) (h11 : sl a 11 = .int .i64 (i : Int)) :
    Code.wp Try.prog (cAt [1,1,1,1,1,1,0,1,2,2,1,1] KDK) (Exit.then (fun a' w' => Fr 301 a' ∧ sl a' 0 = .int .i64 (z : Int) ∧ sl a' 1 = .slice ya m yc ∧ sl a' 2 = .slice fa fn fc ∧ sl a' 7 = .pointer (some ⟨g, 0, none⟩) ∧ sl a' 9 = .pointer (some ⟨h, 0, none⟩) ∧ sl a' 11 = .int .i64 ((i + 1 : Nat) : Int) ∧ wn = w') Nope) a wn := by
  obtain ⟨f, ha, hs⟩ := frKDK hf
  have e0 := (hs 0).trans h0
  have e1 := (hs 1).trans h1
  have e2 := (hs 2).trans h2
  have e7 := (hs 7).trans h7
  have e9 := (hs 9).trans h9
  have e11 := (hs 11).trans h11
  rw [e0, e1, e2, e7, e9, e11] at ha
  clear hs hf e0 h0 e1 h1 e2 h2 e7 h7 e9 h9 e11 h11
  subst ha
  refine piece2 fun J0 K0 hJ0 hK0 => ?_
  conv => arg 2; whnf
  have hw : IntKind.i64.wrap ((i : Int) + 1) = ((i + 1 : Nat) : Int) := by have := hlt.out; have := hm40.out; rw [IntKind.wrap_i64]; omega
  go_wp2_with fail
  refine Met.intro (hJ0 _ _ ?_)
  exact ⟨⟨rfl, rfl⟩, rfl, rfl, rfl, rfl, rfl, rfl, rfl⟩

theorem keeps_acts (w : World) (ya : Option Addr) (m : Nat) (yc : Nat) (la : List Ac) (fa : Option Addr) (fn : Nat) (fc : Nat) (fl : List Ft) (HLA : Hid (Acr w ya m la)) (z : Nat) (g : Nat) (k : Dk) (w5 : World) (h : Nat) (l : Dk) (HM5 : Hid (Ms w w5 [.disk g k, .disk h l])) (HI0 : Hid (KI z 0 k l)) (hm40 : Hid (m ≤ 40)) (a : Act) (hf : Fr 301 a) (h0 : sl a 0 = .int .i64 (z : Int)) (h1 : sl a 1 = .slice ya m yc) (h2 : sl a 2 = .slice fa fn fc) (h7 : sl a 7 = .pointer (some ⟨g, 0, none⟩)) (h9 : sl a 9 = .pointer (some ⟨h, 0, none⟩)) :
    Code.wp Try.prog (cAt [1,1,1,1,1,1,0] KDK) (Exit.then (fun a' w' => ∃ k6 : Dk, ∃ l6 : Dk, Fr 301 a' ∧ sl a' 0 = .int .i64 (z : Int) ∧ sl a' 1 = .slice ya m yc ∧ sl a' 2 = .slice fa fn fc ∧ sl a' 7 = .pointer (some ⟨g, 0, none⟩) ∧ sl a' 9 = .pointer (some ⟨h, 0, none⟩) ∧ Ms w w' [.disk g k6, .disk h l6] ∧ KI z m k6 l6) Nope) a w5 := by
  have HLA := HLA.out
  have HM5 := HM5.out
  have HI0 := HI0.out
  have hm40 := hm40.out
  refine wp_sqR (x := cAt [1,1,1,1,1,1,0,0] KDK) (y := cAt [1,1,1,1,1,1,0,1] KDK) (by kernel_rfl) (k8 ya m yc fa fn fc z g w5 h a hf h0 h1 h2 h7 h9) ?_
  rintro a_7 _ ⟨hf, h0, h1, h2, h7, h9, h11, rfl⟩
  refine wp_blockR (x := cAt [1,1,1,1,1,1,0,1,2] KDK) (id := 0) (by kernel_rfl) ?_
  refine wp_loopR (x := cAt [1,1,1,1,1,1,0,1,2,2] KDK) (by kernel_rfl) (fun a' w' => ∃ i : Nat, i ≤ m ∧ ∃ k l, Ms w w' [.disk g k, .disk h l] ∧ KI z i k l ∧ Fr 301 a' ∧ sl a' 0 = .int .i64 (z : Int) ∧ sl a' 1 = .slice ya m yc ∧ sl a' 2 = .slice fa fn fc ∧ sl a' 7 = .pointer (some ⟨g, 0, none⟩) ∧ sl a' 9 = .pointer (some ⟨h, 0, none⟩) ∧ sl a' 11 = .int .i64 (i : Int)) (fun a' _ => m - (numOf (sl a' 11)).toNat) ⟨0, Nat.zero_le _, k, l, HM5, HI0, hf, h0, h1, h2, h7, h9, h11⟩ ?_
  rintro a_l wl ⟨i, hi, k, l, HML, HIL, hf, h0, h1, h2, h7, h9, h11⟩
  have h11a := h11
  by_cases hlt : i < m
  case neg =>
    refine wp_endX (k9x ya m yc fa fn fc z g h wl i hlt a_l hf h0 h1 h2 h7 h9 h11) ?_
    rintro a_8 _ ⟨hf, h0, h1, h2, h7, h9, rfl⟩
    obtain rfl : i = m := by omega
    exact thru ⟨k, l, hf, h0, h1, h2, h7, h9, HML, HIL⟩
  refine wp_sqR (x := cAt [1,1,1,1,1,1,0,1,2,2,0] KDK) (y := cAt [1,1,1,1,1,1,0,1,2,2,1] KDK) (by kernel_rfl) (k9 ya m yc fa fn fc z g h wl i hlt a_l hf h0 h1 h2 h7 h9 h11) ?_
  rintro a_9 _ ⟨hf, h0, h1, h2, h7, h9, h11, rfl⟩
  refine wp_sqR (x := cAt [1,1,1,1,1,1,0,1,2,2,1,0] KDK) (y := cAt [1,1,1,1,1,1,0,1,2,2,1,1] KDK) (by kernel_rfl) (keeps_act w ya m yc la fa fn fc fl HLA z g h hm40 wl i k l HML HIL hlt a_9 hf h0 h1 h2 h7 h9 h11) ?_
  rintro a_24 wn ⟨k2, l3, hf, h0, h1, h2, h7, h9, h11, HMN, HIN⟩
  refine wp_endR (k10 ya m yc fa fn fc z g h hm40 i hlt wn a_24 hf h0 h1 h2 h7 h9 h11) ?_
  rintro a_25 _ ⟨hf, h0, h1, h2, h7, h9, h11, rfl⟩
  refine ⟨⟨i + 1, hlt, k2, l3, HMN, HIN, hf, h0, h1, h2, h7, h9, h11⟩, ?_⟩
  rw [h11a, h11]
  simp only [numOf]
  omega

set_option maxRecDepth 100000 in
set_option maxHeartbeats 4000000 in
theorem k26 (w : World) (ya : Option Addr) (m : Nat) (yc : Nat) (fa : Option Addr) (fn : Nat) (fc : Nat) (z : Nat) (g : Nat) (h : Nat) (w6 : World) (k6 : Dk) (l6 : Dk) (HM6 : Hid (Ms w w6 [.disk g k6, .disk h l6])) (d0 : List Int) (hd0 : Hid (k6.d = d0)) (hl0 : Hid (d0.length = z)) (a : Act) (hf : Fr 301 a) (h0 : sl a 0 = .int .i64 (z : Int)) (h1 : sl a 1 = .slice ya m yc) (h2 : sl a 2 = .slice fa fn fc) (h7 : sl a 7 = .pointer (some ⟨g, 0, none⟩)) (h9 : sl a 9 = .pointer (some ⟨h, 0, none⟩)) :
    Code.wp Try.prog (cAt [1,1,1,1,1,1,1,0] KDK) (Exit.then (fun a' w' => ∃ a1 : Option Addr, ∃ c1 : Nat, Fr 301 a' ∧ sl a' 0 = .int .i64 (z : Int) ∧ sl a' 2 = .slice fa fn fc ∧ sl a' 7 = .pointer (some ⟨g, 0, none⟩) ∧ sl a' 19 = .slice a1 z c1 ∧ sl a' 20 = .int .i64 0 ∧ Ms w w' [.disk g k6, .row a1 z c1 d0]) Nope) a w6 := by
  obtain ⟨f, ha, hs⟩ := frKDK hf
  have e0 := (hs 0).trans h0
  have e1 := (hs 1).trans h1
  have e2 := (hs 2).trans h2
  have e7 := (hs 7).trans h7
  have e9 := (hs 9).trans h9
  rw [e0, e1, e2, e7, e9] at ha
  clear hs hf e0 h0 e1 h1 e2 h2 e7 h7 e9 h9
  subst ha
  refine piece2 fun J0 K0 hJ0 hK0 => ?_
  conv => arg 2; whnf
  go_wp2_with fail
  refine (dkDurable_any w.heap.size g k6 0 z _ HM6.out.hd (by rw [hd0.out, hl0.out]; omega)).mono ?_
  rintro e wz ⟨a1, n1, c1, rfl, ho, hb⟩
  have e1 : cutD k6.d 0 z = d0 := by rw [hd0.out, ← hl0.out]; exact cutD_all _
  rw [e1] at ho
  have hn : z = n1 := by rw [← ho.len, hl0.out]
  subst hn
  have H : Hid (Ms w wz [.disk g k6, .row a1 z c1 d0]) := (HM6.out.add (t := .row a1 z c1 d0) hb ho).to1.sub (by simp)
  clear ho hb e1
  go_wp2_with fail
  refine Met.intro (hJ0 _ _ ?_)
  exact ⟨a1, c1, ⟨rfl, rfl⟩, rfl, rfl, rfl, rfl, rfl, H.out⟩

set_option maxRecDepth 100000 in
set_option maxHeartbeats 4000000 in
theorem k27 (w : World) (fa : Option Addr) (fn : Nat) (fc : Nat) (z : Nat) (g : Nat) (k6 : Dk) (d0 : List Int) (ws : List (Int × List Int)) (D : List Int) (hd0 : Hid (k6.d = d0)) (hws : Hid (k6.ws = ws)) (hD : Hid (nowP d0 ws = D)) (hl0 : Hid (d0.length = z)) (hlD : Hid (D.length = z)) (w26 : World) (a1 : Option Addr) (c1 : Nat) (HT1 : Hid (Ms w w26 [.disk g k6, .row a1 z c1 d0])) (a : Act) (hf : Fr 301 a) (h0 : sl a 0 = .int .i64 (z : Int)) (h2 : sl a 2 = .slice fa fn fc) (h7 : sl a 7 = .pointer (some ⟨g, 0, none⟩)) (h19 : sl a 19 = .slice a1 z c1) (h20 : sl a 20 = .int .i64 0) :
    Code.wp Try.prog (cAt [1,1,1,1,1,1,1,1,0] KDK) (Exit.then (fun a' w' => ∃ a2 : Option Addr, ∃ c2 : Nat, Fr 301 a' ∧ sl a' 0 = .int .i64 (z : Int) ∧ sl a' 2 = .slice fa fn fc ∧ sl a' 7 = .pointer (some ⟨g, 0, none⟩) ∧ sl a' 19 = .slice a1 z c1 ∧ sl a' 20 = .int .i64 0 ∧ sl a' 21 = .slice a2 z c2 ∧ sl a' 22 = .int .i64 0 ∧ Ms w w' [.disk g k6, .row a2 z c2 D, .row a1 z c1 d0]) Nope) a w26 := by
  obtain ⟨f, ha, hs⟩ := frKDK hf
  have e0 := (hs 0).trans h0
  have e2 := (hs 2).trans h2
  have e7 := (hs 7).trans h7
  have e19 := (hs 19).trans h19
  have e20 := (hs 20).trans h20
  rw [e0, e2, e7, e19, e20] at ha
  clear hs hf e0 h0 e2 h2 e7 h7 e19 h19 e20 h20
  subst ha
  refine piece2 fun J0 K0 hJ0 hK0 => ?_
  conv => arg 2; whnf
  go_wp2_with fail
  refine (dkRead_step w.heap.size g k6 0 z _ HT1.out.hd (by rw [hd0.out, hl0.out]; omega)).mono ?_
  rintro e wz ⟨a2, n2, c2, rfl, ho, hb⟩
  have e1 : cutD (nowP k6.d k6.ws) 0 z = D := by rw [hd0.out, hws.out, hD.out, ← hlD.out]; exact cutD_all _
  rw [e1] at ho
  have hn : z = n2 := by rw [← ho.len, hlD.out]
  subst hn
  have H : Hid (Ms w wz [.disk g k6, .row a2 z c2 D, .row a1 z c1 d0]) := (HT1.out.add (t := .row a2 z c2 D) hb ho).to1
  clear ho hb e1
  go_wp2_with fail
  refine Met.intro (hJ0 _ _ ?_)
  exact ⟨a2, c2, ⟨rfl, rfl⟩, rfl, rfl, rfl, rfl, rfl, rfl, rfl, H.out⟩

set_option maxRecDepth 100000 in
set_option maxHeartbeats 4000000 in
theorem k28 (w : World) (fa : Option Addr) (fn : Nat) (fc : Nat) (z : Nat) (g : Nat) (k6 : Dk) (d0 : List Int) (ws : List (Int × List Int)) (D : List Int) (hws : Hid (k6.ws = ws)) (hw40 : Hid (ws.length ≤ 40)) (a1 : Option Addr) (c1 : Nat) (w27 : World) (a2 : Option Addr) (c2 : Nat) (HT2 : Hid (Ms w w27 [.disk g k6, .row a2 z c2 D, .row a1 z c1 d0])) (a : Act) (hf : Fr 301 a) (h0 : sl a 0 = .int .i64 (z : Int)) (h2 : sl a 2 = .slice fa fn fc) (h7 : sl a 7 = .pointer (some ⟨g, 0, none⟩)) (h19 : sl a 19 = .slice a1 z c1) (h20 : sl a 20 = .int .i64 0) (h21 : sl a 21 = .slice a2 z c2) (h22 : sl a 22 = .int .i64 0) :
    Code.wp Try.prog (cAt [1,1,1,1,1,1,1,1,1,0] KDK) (Exit.then (fun a' w' => ∃ ua : Option Addr, ∃ uc : Nat, ∃ UL : List Uw, Fr 301 a' ∧ sl a' 0 = .int .i64 (z : Int) ∧ sl a' 2 = .slice fa fn fc ∧ sl a' 7 = .pointer (some ⟨g, 0, none⟩) ∧ sl a' 19 = .slice a1 z c1 ∧ sl a' 20 = .int .i64 0 ∧ sl a' 21 = .slice a2 z c2 ∧ sl a' 22 = .int .i64 0 ∧ sl a' 23 = .slice ua UL.length uc ∧ Ms w w' [.disk g k6, .wts ua uc UL, .row a2 z c2 D, .row a1 z c1 d0] ∧ UL.map Uw.pl = ws) Nope) a w27 := by
  obtain ⟨f, ha, hs⟩ := frKDK hf
  have e0 := (hs 0).trans h0
  have e2 := (hs 2).trans h2
  have e7 := (hs 7).trans h7
  have e19 := (hs 19).trans h19
  have e20 := (hs 20).trans h20
  have e21 := (hs 21).trans h21
  have e22 := (hs 22).trans h22
  rw [e0, e2, e7, e19, e20, e21, e22] at ha
  clear hs hf e0 h0 e2 h2 e7 h7 e19 h19 e20 h20 e21 h21 e22 h22
  subst ha
  refine piece2 fun J0 K0 hJ0 hK0 => ?_
  conv => arg 2; whnf
  go_wp2_with fail
  refine (dkUnsynced_any w.heap.size g k6 _ HT2.out.hd (by rw [ws_len, hws.out]; have := hw40.out; omega)).mono ?_
  rintro e wz ⟨ua, uc, UL, rfl, ho, hpl, hb⟩
  have H : Hid (Ms w wz [.disk g k6, .wts ua uc UL, .row a2 z c2 D, .row a1 z c1 d0] ∧ UL.map Uw.pl = ws) := ⟨(HT2.out.add (t := .wts ua uc UL) hb ho).to1, by rw [hpl]; exact hws.out⟩
  clear ho hpl hb
  go_wp2_with fail
  refine Met.intro (hJ0 _ _ ?_)
  exact ⟨ua, uc, UL, ⟨rfl, rfl⟩, rfl, rfl, rfl, rfl, rfl, rfl, rfl, rfl, H.out.1, H.out.2⟩

set_option maxRecDepth 100000 in
set_option maxHeartbeats 4000000 in
theorem k29 (w : World) (fa : Option Addr) (fn : Nat) (fc : Nat) (z : Nat) (g : Nat) (k6 : Dk) (d0 : List Int) (ws : List (Int × List Int)) (D : List Int) (hd0 : Hid (k6.d = d0)) (hws : Hid (k6.ws = ws)) (hw40 : Hid (ws.length ≤ 40)) (a1 : Option Addr) (c1 : Nat) (a2 : Option Addr) (c2 : Nat) (w28 : World) (ua : Option Addr) (uc : Nat) (UL : List Uw) (HT3 : Hid (Ms w w28 [.disk g k6, .wts ua uc UL, .row a2 z c2 D, .row a1 z c1 d0])) (a : Act) (hf : Fr 301 a) (h0 : sl a 0 = .int .i64 (z : Int)) (h2 : sl a 2 = .slice fa fn fc) (h7 : sl a 7 = .pointer (some ⟨g, 0, none⟩)) (h19 : sl a 19 = .slice a1 z c1) (h20 : sl a 20 = .int .i64 0) (h21 : sl a 21 = .slice a2 z c2) (h22 : sl a 22 = .int .i64 0) (h23 : sl a 23 = .slice ua UL.length uc) :
    Code.wp Try.prog (cAt [1,1,1,1,1,1,1,1,1,1,0] KDK) (Exit.then (fun a' w' => ∃ gk : Nat, ∃ kk : Dk, ∃ gn : Nat, ∃ kn : Dk, ∃ gt : Nat, ∃ kt : Dk, Fr 301 a' ∧ sl a' 0 = .int .i64 (z : Int) ∧ sl a' 2 = .slice fa fn fc ∧ sl a' 19 = .slice a1 z c1 ∧ sl a' 20 = .int .i64 0 ∧ sl a' 21 = .slice a2 z c2 ∧ sl a' 22 = .int .i64 0 ∧ sl a' 23 = .slice ua UL.length uc ∧ sl a' 24 = .pointer (some ⟨gk, 0, none⟩) ∧ sl a' 25 = .pointer (some ⟨gn, 0, none⟩) ∧ sl a' 26 = .pointer (some ⟨gt, 0, none⟩) ∧ Ms w w' [.disk gt kt, .disk gn kn, .disk gk kk, .wts ua uc UL, .row a2 z c2 D, .row a1 z c1 d0] ∧ (kk.d = d0 ∧ kk.ws = ws) ∧ (kn.d = d0 ∧ kn.ws = ws) ∧ (kt.d = d0 ∧ kt.ws = ws)) Nope) a w28 := by
  obtain ⟨f, ha, hs⟩ := frKDK hf
  have e0 := (hs 0).trans h0
  have e2 := (hs 2).trans h2
  have e7 := (hs 7).trans h7
  have e19 := (hs 19).trans h19
  have e20 := (hs 20).trans h20
  have e21 := (hs 21).trans h21
  have e22 := (hs 22).trans h22
  have e23 := (hs 23).trans h23
  rw [e0, e2, e7, e19, e20, e21, e22, e23] at ha
  clear hs hf e0 h0 e2 h2 e7 h7 e19 h19 e20 h20 e21 h21 e22 h22 e23 h23
  subst ha
  refine piece2 fun J0 K0 hJ0 hK0 => ?_
  conv => arg 2; whnf
  go_wp2_with fail
  refine (dkCopy_any w.heap.size g k6 _ HT3.out.hd (by rw [ws_len, hws.out]; have := hw40.out; omega)).mono ?_
  rintro e wk ⟨gk, kk, rfl, hc, hcd, hcl, hb⟩
  have Hk : Hid (Ms w wk [.disk g k6, .disk gk kk, .wts ua uc UL, .row a2 z c2 D, .row a1 z c1 d0] ∧ kk.d = d0 ∧ kk.ws = ws) := ⟨(HT3.out.add (t := .disk gk kk) hb hc).to1, hcd.trans hd0.out, hcl.trans hws.out⟩
  clear hc hcd hcl hb
  go_wp2_with fail
  refine (dkCopy_any w.heap.size g k6 _ Hk.out.1.hd (by rw [ws_len, hws.out]; have := hw40.out; omega)).mono ?_
  rintro e wn ⟨gn, kn, rfl, hc, hcd, hcl, hb⟩
  have Hn : Hid (Ms w wn [.disk g k6, .disk gn kn, .disk gk kk, .wts ua uc UL, .row a2 z c2 D, .row a1 z c1 d0] ∧ kn.d = d0 ∧ kn.ws = ws) := ⟨(Hk.out.1.add (t := .disk gn kn) hb hc).to1, hcd.trans hd0.out, hcl.trans hws.out⟩
  clear hc hcd hcl hb
  go_wp2_with fail
  refine (dkCopy_any w.heap.size g k6 _ Hn.out.1.hd (by rw [ws_len, hws.out]; have := hw40.out; omega)).mono ?_
  rintro e wt ⟨gt, kt, rfl, hc, hcd, hcl, hb⟩
  have Ht : Hid (Ms w wt [.disk g k6, .disk gt kt, .disk gn kn, .disk gk kk, .wts ua uc UL, .row a2 z c2 D, .row a1 z c1 d0] ∧ kt.d = d0 ∧ kt.ws = ws) := ⟨(Hn.out.1.add (t := .disk gt kt) hb hc).to1, hcd.trans hd0.out, hcl.trans hws.out⟩
  clear hc hcd hcl hb
  go_wp2_with fail
  refine Met.intro (hJ0 _ _ ?_)
  exact ⟨gk, kk, gn, kn, gt, kt, ⟨rfl, rfl⟩, rfl, rfl, rfl, rfl, rfl, rfl, rfl, rfl, rfl, rfl, Ht.out.1.tail, Hk.out.2, Hn.out.2, Ht.out.2⟩

set_option maxRecDepth 100000 in
set_option maxHeartbeats 4000000 in
theorem k30 (fa : Option Addr) (fn : Nat) (fc : Nat) (z : Nat) (a1 : Option Addr) (c1 : Nat) (a2 : Option Addr) (c2 : Nat) (ua : Option Addr) (uc : Nat) (UL : List Uw) (w29 : World) (gk : Nat) (gn : Nat) (gt : Nat) (a : Act) (hf : Fr 301 a) (h0 : sl a 0 = .int .i64 (z : Int)) (h2 : sl a 2 = .slice fa fn fc) (h19 : sl a 19 = .slice a1 z c1) (h20 : sl a 20 = .int .i64 0) (h21 : sl a 21 = .slice a2 z c2) (h22 : sl a 22 = .int .i64 0) (h23 : sl a 23 = .slice ua UL.length uc) (h24 : sl a 24 = .pointer (some ⟨gk, 0, none⟩)) (h25 : sl a 25 = .pointer (some ⟨gn, 0, none⟩)) (h26 : sl a 26 = .pointer (some ⟨gt, 0, none⟩)) :
    Code.wp Try.prog (cAt [1,1,1,1,1,1,1,1,1,1,1,0] KDK) (Exit.then (fun a' w' => Fr 301 a' ∧ sl a' 0 = .int .i64 (z : Int) ∧ sl a' 2 = .slice fa fn fc ∧ sl a' 19 = .slice a1 z c1 ∧ sl a' 20 = .int .i64 0 ∧ sl a' 21 = .slice a2 z c2 ∧ sl a' 22 = .int .i64 0 ∧ sl a' 23 = .slice ua UL.length uc ∧ sl a' 24 = .pointer (some ⟨gk, 0, none⟩) ∧ sl a' 25 = .pointer (some ⟨gn, 0, none⟩) ∧ sl a' 26 = .pointer (some ⟨gt, 0, none⟩) ∧ sl a' 27 = .slice none 0 0 ∧ w29 = w') Nope) a w29 := by
  obtain ⟨f, ha, hs⟩ := frKDK hf
  have e0 := (hs 0).trans h0
  have e2 := (hs 2).trans h2
  have e19 := (hs 19).trans h19
  have e20 := (hs 20).trans h20
  have e21 := (hs 21).trans h21
  have e22 := (hs 22).trans h22
  have e23 := (hs 23).trans h23
  have e24 := (hs 24).trans h24
  have e25 := (hs 25).trans h25
  have e26 := (hs 26).trans h26
  rw [e0, e2, e19, e20, e21, e22, e23, e24, e25, e26] at ha
  clear hs hf e0 h0 e2 h2 e19 h19 e20 h20 e21 h21 e22 h22 e23 h23 e24 h24 e25 h25 e26 h26
  subst ha
  refine piece2 fun J0 K0 hJ0 hK0 => ?_
  conv => arg 2; whnf
  go_wp2_with fail
  refine Met.intro (hJ0 _ _ ?_)
  exact ⟨⟨rfl, rfl⟩, rfl, rfl, rfl, rfl, rfl, rfl, rfl, rfl, rfl, rfl, rfl, rfl⟩

set_option maxRecDepth 100000 in
set_option maxHeartbeats 4000000 in
theorem k31 (fa : Option Addr) (fn : Nat) (fc : Nat) (z : Nat) (a1 : Option Addr) (c1 : Nat) (a2 : Option Addr) (c2 : Nat) (ua : Option Addr) (uc : Nat) (UL : List Uw) (w29 : World) (gk : Nat) (gn : Nat) (gt : Nat) (a : Act) (hf : Fr 301 a) (h0 : sl a 0 = .int .i64 (z : Int)) (h2 : sl a 2 = .slice fa fn fc) (h19 : sl a 19 = .slice a1 z c1) (h20 : sl a 20 = .int .i64 0) (h21 : sl a 21 = .slice a2 z c2) (h22 : sl a 22 = .int .i64 0) (h23 : sl a 23 = .slice ua UL.length uc) (h24 : sl a 24 = .pointer (some ⟨gk, 0, none⟩)) (h25 : sl a 25 = .pointer (some ⟨gn, 0, none⟩)) (h26 : sl a 26 = .pointer (some ⟨gt, 0, none⟩)) (h27 : sl a 27 = .slice none 0 0) :
    Code.wp Try.prog (cAt [1,1,1,1,1,1,1,1,1,1,1,1,0,0] KDK) (Exit.then (fun a' w' => Fr 301 a' ∧ sl a' 0 = .int .i64 (z : Int) ∧ sl a' 2 = .slice fa fn fc ∧ sl a' 19 = .slice a1 z c1 ∧ sl a' 20 = .int .i64 0 ∧ sl a' 21 = .slice a2 z c2 ∧ sl a' 22 = .int .i64 0 ∧ sl a' 23 = .slice ua UL.length uc ∧ sl a' 24 = .pointer (some ⟨gk, 0, none⟩) ∧ sl a' 25 = .pointer (some ⟨gn, 0, none⟩) ∧ sl a' 26 = .pointer (some ⟨gt, 0, none⟩) ∧ sl a' 27 = .slice none 0 0 ∧ sl a' 28 = .int .i64 0 ∧ w29 = w') Nope) a w29 := by
  obtain ⟨f, ha, hs⟩ := frKDK hf
  have e0 := (hs 0).trans h0
  have e2 := (hs 2).trans h2
  have e19 := (hs 19).trans h19
  have e20 := (hs 20).trans h20
  have e21 := (hs 21).trans h21
  have e22 := (hs 22).trans h22
  have e23 := (hs 23).trans h23
  have e24 := (hs 24).trans h24
  have e25 := (hs 25).trans h25
  have e26 := (hs 26).trans h26
  have e27 := (hs 27).trans h27
  rw [e0, e2, e19, e20, e21, e22, e23, e24, e25, e26, e27] at ha
  clear hs hf e0 h0 e2 h2 e19 h19 e20 h20 e21 h21 e22 h22 e23 h23 e24 h24 e25 h25 e26 h26 e27 h27
  subst ha
  refine piece2 fun J0 K0 hJ0 hK0 => ?_
  conv => arg 2; whnf
  go_wp2_with fail
  refine Met.intro (hJ0 _ _ ?_)
  exact ⟨⟨rfl, rfl⟩, rfl, rfl, rfl, rfl, rfl, rfl, rfl, rfl, rfl, rfl, rfl, rfl, rfl⟩

set_option maxRecDepth 100000 in
set_option maxHeartbeats 4000000 in
theorem k32x (fa : Option Addr) (fn : Nat) (fc : Nat) (z : Nat) (a1 : Option Addr) (c1 : Nat) (a2 : Option Addr) (c2 : Nat) (ua : Option Addr) (uc : Nat) (UL : List Uw) (gk : Nat) (gn : Nat) (gt : Nat) (wl : World) (j : Nat) (v : Option Addr) (c : Nat) (hlt : Hid (¬ j < UL.length)) (a : Act) (hf : Fr 301 a) (h0 : sl a 0 = .int .i64 (z : Int)) (h2 : sl a 2 = .slice fa fn fc) (h19 : sl a 19 = .slice a1 z c1) (h20 : sl a 20 = .int .i64 0) (h21 : sl a 21 = .slice a2 z c2) (h22 : sl a 22 = .int .i64 0) (h23 : sl a 23 = .slice ua UL.length uc) (h24 : sl a 24 = .pointer (some ⟨gk, 0, none⟩)) (h25 : sl a 25 = .pointer (some ⟨gn, 0, none⟩)) (h26 : sl a 26 = .pointer (some ⟨gt, 0, none⟩)) (h27 : sl a 27 = .slice v j c) (h28 : sl a 28 = .int .i64 (j : Int)) :
    Code.wp Try.prog (cAt [1,1,1,1,1,1,1,1,1,1,1,1,0,1,2,2] KDK) (Outs 3 (fun a' w' => Fr 301 a' ∧ sl a' 0 = .int .i64 (z : Int) ∧ sl a' 2 = .slice fa fn fc ∧ sl a' 19 = .slice a1 z c1 ∧ sl a' 20 = .int .i64 0 ∧ sl a' 21 = .slice a2 z c2 ∧ sl a' 22 = .int .i64 0 ∧ sl a' 23 = .slice ua UL.length uc ∧ sl a' 24 = .pointer (some ⟨gk, 0, none⟩) ∧ sl a' 25 = .pointer (some ⟨gn, 0, none⟩) ∧ sl a' 26 = .pointer (some ⟨gt, 0, none⟩) ∧ sl a' 27 = .slice v j c ∧ wl = w')) a wl := by
  obtain ⟨f, ha, hs⟩ := frKDK hf
  have e0 := (hs 0).trans h0
  have e2 := (hs 2).trans h2
  have e19 := (hs 19).trans h19
  have e20 := (hs 20).trans h20
  have e21 := (hs 21).trans h21
  have e22 := (hs 22).trans h22
  have e23 := (hs 23).trans h23
  have e24 := (hs 24).trans h24
  have e25 := (hs 25).trans h25
  have e26 := (hs 26).trans h26
  have e27 := (hs 27).trans h27
  have e28 := (hs 28).trans h28
  rw [e0, e2, e19, e20, e21, e22, e23, e24, e25, e26, e27, e28] at ha
  clear hs hf e0 h0 e2 h2 e19 h19 e20 h20 e21 h21 e22 h22 e23 h23 e24 h24 e25 h25 e26 h26 e27 h27 e28 h28
  subst ha
  conv => arg 2; whnf
  have hi2 : ¬ (j : Int) < (UL.length : Int) := by have := hlt.out; omega
  go_wp2_with fail
  exact ⟨rfl, ⟨rfl, rfl⟩, rfl, rfl, rfl, rfl, rfl, rfl, rfl, rfl, rfl, rfl, rfl, rfl⟩

set_option maxRecDepth 100000 in
set_option maxHeartbeats 4000000 in
theorem k32 (fa : Option Addr) (fn : Nat) (fc : Nat) (z : Nat) (a1 : Option Addr) (c1 : Nat) (a2 : Option Addr) (c2 : Nat) (ua : Option Addr) (uc : Nat) (UL : List Uw) (gk : Nat) (gn : Nat) (gt : Nat) (wl : World) (j : Nat) (v : Option Addr) (c : Nat) (hlt : Hid (j < UL.length)) (a : Act) (hf : Fr 301 a) (h0 : sl a 0 = .int .i64 (z : Int)) (h2 : sl a 2 = .slice fa fn fc) (h19 : sl a 19 = .slice a1 z c1) (h20 : sl a 20 = .int .i64 0) (h21 : sl a 21 = .slice a2 z c2) (h22 : sl a 22 = .int .i64 0) (h23 : sl a 23 = .slice ua UL.length uc) (h24 : sl a 24 = .pointer (some ⟨gk, 0, none⟩)) (h25 : sl a 25 = .pointer (some ⟨gn, 0, none⟩)) (h26 : sl a 26 = .pointer (some ⟨gt, 0, none⟩)) (h27 : sl a 27 = .slice v j c) (h28 : sl a 28 = .int .i64 (j : Int)) :
    Code.wp Try.prog (cAt [1,1,1,1,1,1,1,1,1,1,1,1,0,1,2,2,0] KDK) (Exit.then (fun a' w' => Fr 301 a' ∧ sl a' 0 = .int .i64 (z : Int) ∧ sl a' 2 = .slice fa fn fc ∧ sl a' 19 = .slice a1 z c1 ∧ sl a' 20 = .int .i64 0 ∧ sl a' 21 = .slice a2 z c2 ∧ sl a' 22 = .int .i64 0 ∧ sl a' 23 = .slice ua UL.length uc ∧ sl a' 24 = .pointer (some ⟨gk, 0, none⟩) ∧ sl a' 25 = .pointer (some ⟨gn, 0, none⟩) ∧ sl a' 26 = .pointer (some ⟨gt, 0, none⟩) ∧ sl a' 27 = .slice v j c ∧ sl a' 28 = .int .i64 (j : Int) ∧ wl = w') Nope) a wl := by
  obtain ⟨f, ha, hs⟩ := frKDK hf
  have e0 := (hs 0).trans h0
  have e2 := (hs 2).trans h2
  have e19 := (hs 19).trans h19
  have e20 := (hs 20).trans h20
  have e21 := (hs 21).trans h21
  have e22 := (hs 22).trans h22
  have e23 := (hs 23).trans h23
  have e24 := (hs 24).trans h24
  have e25 := (hs 25).trans h25
  have e26 := (hs 26).trans h26
  have e27 := (hs 27).trans h27
  have e28 := (hs 28).trans h28
  rw [e0, e2, e19, e20, e21, e22, e23, e24, e25, e26, e27, e28] at ha
  clear hs hf e0 h0 e2 h2 e19 h19 e20 h20 e21 h21 e22 h22 e23 h23 e24 h24 e25 h25 e26 h26 e27 h27 e28 h28
  subst ha
  refine piece2 fun J0 K0 hJ0 hK0 => ?_
  conv => arg 2; whnf
  have hi2 : (j : Int) < (UL.length : Int) := by have := hlt.out; omega
  go_wp2_with fail
  refine Met.intro (hJ0 _ _ ?_)
  exact ⟨⟨rfl, rfl⟩, rfl, rfl, rfl, rfl, rfl, rfl, rfl, rfl, rfl, rfl, rfl, rfl, rfl⟩

set_option maxRecDepth 100000 in
set_option maxHeartbeats 4000000 in
theorem k34 (w : World) (fa : Option Addr) (fn : Nat) (fc : Nat) (z : Nat) (_w4 : World) (d0 : List Int) (ws : List (Int × List Int)) (D : List Int) (hw40 : Hid (ws.length ≤ 40)) (a1 : Option Addr) (c1 : Nat) (a2 : Option Addr) (c2 : Nat) (ua : Option Addr) (uc : Nat) (UL : List Uw) (gk : Nat) (kk : Dk) (gn : Nat) (kn : Dk) (gt : Nat) (kt : Dk) (hun : Hid (UL.length = ws.length)) (wl : World) (j : Nat) (v : Option Addr) (c : Nat) (HML : Hid (Ms w wl [.any 44 2 v j c (fcs (keepF j)), .disk gt kt, .disk gn kn, .disk gk kk, .wts ua uc UL, .row a2 z c2 D, .row a1 z c1 d0])) (hlt : Hid (j < UL.length)) (a : Act) (hf : Fr 301 a) (h0 : sl a 0 = .int .i64 (z : Int)) (h2 : sl a 2 = .slice fa fn fc) (h19 : sl a 19 = .slice a1 z c1) (h20 : sl a 20 = .int .i64 0) (h21 : sl a 21 = .slice a2 z c2) (h22 : sl a 22 = .int .i64 0) (h23 : sl a 23 = .slice ua UL.length uc) (h24 : sl a 24 = .pointer (some ⟨gk, 0, none⟩)) (h25 : sl a 25 = .pointer (some ⟨gn, 0, none⟩)) (h26 : sl a 26 = .pointer (some ⟨gt, 0, none⟩)) (h27 : sl a 27 = .slice v j c) (h28 : sl a 28 = .int .i64 (j : Int)) :
    Code.wp Try.prog (cAt [1,1,1,1,1,1,1,1,1,1,1,1,0,1,2,2,1,0,2] KDK) (Exit.then (fun a' w' => ∃ vb : Option Addr, ∃ cb : Nat, Fr 301 a' ∧ sl a' 0 = .int .i64 (z : Int) ∧ sl a' 2 = .slice fa fn fc ∧ sl a' 19 = .slice a1 z c1 ∧ sl a' 20 = .int .i64 0 ∧ sl a' 21 = .slice a2 z c2 ∧ sl a' 22 = .int .i64 0 ∧ sl a' 23 = .slice ua UL.length uc ∧ sl a' 24 = .pointer (some ⟨gk, 0, none⟩) ∧ sl a' 25 = .pointer (some ⟨gn, 0, none⟩) ∧ sl a' 26 = .pointer (some ⟨gt, 0, none⟩) ∧ sl a' 27 = .slice vb (j + 1) cb ∧ sl a' 28 = .int .i64 (j : Int) ∧ Ms w w' [.any 44 2 vb (j + 1) cb (fcs (keepF (j + 1))), .disk gt kt, .disk gn kn, .disk gk kk, .wts ua uc UL, .row a2 z c2 D, .row a1 z c1 d0]) Nope) a wl := by
  obtain ⟨f, ha, hs⟩ := frKDK hf
  have e0 := (hs 0).trans h0
  have e2 := (hs 2).trans h2
  have e19 := (hs 19).trans h19
  have e20 := (hs 20).trans h20
  have e21 := (hs 21).trans h21
  have e22 := (hs 22).trans h22
  have e23 := (hs 23).trans h23
  have e24 := (hs 24).trans h24
  have e25 := (hs 25).trans h25
  have e26 := (hs 26).trans h26
  have e27 := (hs 27).trans h27
  have e28 := (hs 28).trans h28
  rw [e0, e2, e19, e20, e21, e22, e23, e24, e25, e26, e27, e28] at ha
  clear hs hf e0 h0 e2 h2 e19 h19 e20 h20 e21 h21 e22 h22 e23 h23 e24 h24 e25 h25 e26 h26 e27 h27 e28 h28
  subst ha
  refine piece2 fun J0 K0 hJ0 hK0 => ?_
  conv => arg 2; whnf
  obtain ⟨g', cap', w4, hrun, hown, hkk, hfr⟩ := run_append_one wl w.heap.size 23 23 44 _ 2 16 infFtF Try.underlying23 rfl (by omega) HML.out.hd [.int .i64 1, .int .i64 (j : Int)] rfl (by intro u hu; simp at hu; rcases hu with rfl | rfl <;> rfl) HML.out.below.size (by have := hlt.out; have := hun.out; have := hw40.out; omega) (by have := hlt.out; have := hun.out; have := hw40.out; omega)
  have HRUN := Lib.hid hrun
  have H : Hid (Ms w w4 [.any 44 2 (some ⟨g', 0, none⟩) (j + 1) cap' (fcs (keepF (j + 1))), .disk gt kt, .disk gn kn, .disk gk kk, .wts ua uc UL, .row a2 z c2 D, .row a1 z c1 d0]) := by
    refine HML.out.step (t' := .any 44 2 (some ⟨g', 0, none⟩) (j + 1) cap' (fcs (keepF (j + 1)))) ?_ hkk (fun i hi => ?_)
    · rw [keepF_snoc, fcs_snoc]; exact hown
    · have e : i = g' := by simpa [Th.foot, blk] using hi.symm
      rcases hfr with e2 | e2
      · exact .inl (by rw [e]; exact e2)
      · exact .inr (by omega)
  clear hrun hown hkk hfr
  go_wp2_with (at_builtin; refine Lib.wpList_append_run _ rfl (.tmp 160) (.tmp 163) _ _ rfl _ _ rfl rfl _ _ HRUN.out ?_)
  refine Met.intro (hJ0 _ _ ?_)
  exact ⟨some ⟨g', 0, none⟩, cap', ⟨rfl, rfl⟩, rfl, rfl, rfl, rfl, rfl, rfl, rfl, rfl, rfl, rfl, rfl, rfl, H.out⟩

set_option maxRecDepth 100000 in
set_option maxHeartbeats 4000000 in
theorem k33 (fa : Option Addr) (fn : Nat) (fc : Nat) (z : Nat) (ws : List (Int × List Int)) (hw40 : Hid (ws.length ≤ 40)) (a1 : Option Addr) (c1 : Nat) (a2 : Option Addr) (c2 : Nat) (ua : Option Addr) (uc : Nat) (UL : List Uw) (gk : Nat) (gn : Nat) (gt : Nat) (hun : Hid (UL.length = ws.length)) (j : Nat) (hlt : Hid (j < UL.length)) (wm : World) (vb : Option Addr) (cb : Nat) (a : Act) (hf : Fr 301 a) (h0 : sl a 0 = .int .i64 (z : Int)) (h2 : sl a 2 = .slice fa fn fc) (h19 : sl a 19 = .slice a1 z c1) (h20 : sl a 20 = .int .i64 0) (h21 : sl a 21 = .slice a2 z c2) (h22 : sl a 22 = .int .i64 0) (h23 : sl a 23 = .slice ua UL.length uc) (h24 : sl a 24 = .pointer (some ⟨gk, 0, none⟩)) (h25 : sl a 25 = .pointer (some ⟨gn, 0, none⟩)) (h26 : sl a 26 = .pointer (some ⟨gt, 0, none⟩)) (h27 : sl a 27 = .slice vb (j + 1) cb) (h28 : sl a 28 = .int .i64 (j : Int)) :
    Code.wp Try.prog (cAt [1,1,1,1,1,1,1,1,1,1,1,1,0,1,2,2,1,1] KDK) (Exit.then (fun a' w' => Fr 301 a' ∧ sl a' 0 = .int .i64 (z : Int) ∧ sl a' 2 = .slice fa fn fc ∧ sl a' 19 = .slice a1 z c1 ∧ sl a' 20 = .int .i64 0 ∧ sl a' 21 = .slice a2 z c2 ∧ sl a' 22 = .int .i64 0 ∧ sl a' 23 = .slice ua UL.length uc ∧ sl a' 24 = .pointer (some ⟨gk, 0, none⟩) ∧ sl a' 25 = .pointer (some ⟨gn, 0, none⟩) ∧ sl a' 26 = .pointer (some ⟨gt, 0, none⟩) ∧ sl a' 27 = .slice vb (j + 1) cb ∧ sl a' 28 = .int .i64 ((j + 1 : Nat) : Int) ∧ wm = w') Nope) a wm := by
  obtain ⟨f, ha, hs⟩ := frKDK hf
  have e0 := (hs 0).trans h0
  have e2 := (hs 2).trans h2
  have e19 := (hs 19).trans h19
  have e20 := (hs 20).trans h20
  have e21 := (hs 21).trans h21
  have e22 := (hs 22).trans h22
  have e23 := (hs 23).trans h23
  have e24 := (hs 24).trans h24
  have e25 := (hs 25).trans h25
  have e26 := (hs 26).trans h26
  have e27 := (hs 27).trans h27
  have e28 := (hs 28).trans h28
  rw [e0, e2, e19, e20, e21, e22, e23, e24, e25, e26, e27, e28] at ha
  clear hs hf e0 h0 e2 h2 e19 h19 e20 h20 e21 h21 e22 h22 e23 h23 e24 h24 e25 h25 e26 h26 e27 h27 e28 h28
  subst ha
  refine piece2 fun J0 K0 hJ0 hK0 => ?_
  conv => arg 2; whnf
  have hw : IntKind.i64.wrap ((j : Int) + 1) = ((j + 1 : Nat) : Int) := by have := hlt.out; have := hun.out; have := hw40.out; rw [IntKind.wrap_i64]; omega
  go_wp2_with fail
  refine Met.intro (hJ0 _ _ ?_)
  exact ⟨⟨rfl, rfl⟩, rfl, rfl, rfl, rfl, rfl, rfl, rfl, rfl, rfl, rfl, rfl, rfl, rfl⟩

theorem keeps_fates (w : World) (fa : Option Addr) (fn : Nat) (fc : Nat) (z : Nat) (w4 : World) (d0 : List Int) (ws : List (Int × List Int)) (D : List Int) (hw40 : Hid (ws.length ≤ 40)) (a1 : Option Addr) (c1 : Nat) (a2 : Option Addr) (c2 : Nat) (ua : Option Addr) (uc : Nat) (UL : List Uw) (w29 : World) (gk : Nat) (kk : Dk) (gn : Nat) (kn : Dk) (gt : Nat) (kt : Dk) (HT4 : Hid (Ms w w29 [.disk gt kt, .disk gn kn, .disk gk kk, .wts ua uc UL, .row a2 z c2 D, .row a1 z c1 d0])) (hun : Hid (UL.length = ws.length)) (a : Act) (hf : Fr 301 a) (h0 : sl a 0 = .int .i64 (z : Int)) (h2 : sl a 2 = .slice fa fn fc) (h19 : sl a 19 = .slice a1 z c1) (h20 : sl a 20 = .int .i64 0) (h21 : sl a 21 = .slice a2 z c2) (h22 : sl a 22 = .int .i64 0) (h23 : sl a 23 = .slice ua UL.length uc) (h24 : sl a 24 = .pointer (some ⟨gk, 0, none⟩)) (h25 : sl a 25 = .pointer (some ⟨gn, 0, none⟩)) (h26 : sl a 26 = .pointer (some ⟨gt, 0, none⟩)) (h27 : sl a 27 = .slice none 0 0) :
    Code.wp Try.prog (cAt [1,1,1,1,1,1,1,1,1,1,1,1,0] KDK) (Exit.then (fun a' w' => ∃ v3 : Option Addr, ∃ c3 : Nat, Fr 301 a' ∧ sl a' 0 = .int .i64 (z : Int) ∧ sl a' 2 = .slice fa fn fc ∧ sl a' 19 = .slice a1 z c1 ∧ sl a' 20 = .int .i64 0 ∧ sl a' 21 = .slice a2 z c2 ∧ sl a' 22 = .int .i64 0 ∧ sl a' 23 = .slice ua UL.length uc ∧ sl a' 24 = .pointer (some ⟨gk, 0, none⟩) ∧ sl a' 25 = .pointer (some ⟨gn, 0, none⟩) ∧ sl a' 26 = .pointer (some ⟨gt, 0, none⟩) ∧ sl a' 27 = .slice v3 UL.length c3 ∧ Ms w w' [.any 44 2 v3 UL.length c3 (fcs (keepF UL.length)), .disk gt kt, .disk gn kn, .disk gk kk, .wts ua uc UL, .row a2 z c2 D, .row a1 z c1 d0]) Nope) a w29 := by
  have hw40 := hw40.out
  have HT4 := HT4.out
  have hun := hun.out
  refine wp_sqR (x := cAt [1,1,1,1,1,1,1,1,1,1,1,1,0,0] KDK) (y := cAt [1,1,1,1,1,1,1,1,1,1,1,1,0,1] KDK) (by kernel_rfl) (k31 fa fn fc z a1 c1 a2 c2 ua uc UL w29 gk gn gt a hf h0 h2 h19 h20 h21 h22 h23 h24 h25 h26 h27) ?_
  rintro a_32 _ ⟨hf, h0, h2, h19, h20, h21, h22, h23, h24, h25, h26, h27, h28, rfl⟩
  refine wp_blockR (x := cAt [1,1,1,1,1,1,1,1,1,1,1,1,0,1,2] KDK) (id := 3) (by kernel_rfl) ?_
  refine wp_loopR (x := cAt [1,1,1,1,1,1,1,1,1,1,1,1,0,1,2,2] KDK) (by kernel_rfl) (fun a' w' => ∃ j : Nat, j ≤ UL.length ∧ ∃ (v : Option Addr) (c : Nat), Ms w w' [.any 44 2 v j c (fcs (keepF j)), .disk gt kt, .disk gn kn, .disk gk kk, .wts ua uc UL, .row a2 z c2 D, .row a1 z c1 d0] ∧ Fr 301 a' ∧ sl a' 0 = .int .i64 (z : Int) ∧ sl a' 2 = .slice fa fn fc ∧ sl a' 19 = .slice a1 z c1 ∧ sl a' 20 = .int .i64 0 ∧ sl a' 21 = .slice a2 z c2 ∧ sl a' 22 = .int .i64 0 ∧ sl a' 23 = .slice ua UL.length uc ∧ sl a' 24 = .pointer (some ⟨gk, 0, none⟩) ∧ sl a' 25 = .pointer (some ⟨gn, 0, none⟩) ∧ sl a' 26 = .pointer (some ⟨gt, 0, none⟩) ∧ sl a' 27 = .slice v j c ∧ sl a' 28 = .int .i64 (j : Int)) (fun a' _ => UL.length - (numOf (sl a' 28)).toNat) ⟨0, Nat.zero_le _, none, 0, HT4.add (t := .any 44 2 none 0 0 (fcs (keepF 0))) (Below.refl _ _) (OwnG.nil _ _ _ _), hf, h0, h2, h19, h20, h21, h22, h23, h24, h25, h26, h27, h28⟩ ?_
  rintro a_l wl ⟨j, hj, v, c, HML, hf, h0, h2, h19, h20, h21, h22, h23, h24, h25, h26, h27, h28⟩
  have h28a := h28
  by_cases hlt : j < UL.length
  case neg =>
    refine wp_endX (k32x fa fn fc z a1 c1 a2 c2 ua uc UL gk gn gt wl j v c hlt a_l hf h0 h2 h19 h20 h21 h22 h23 h24 h25 h26 h27 h28) ?_
    rintro a_33 _ ⟨hf, h0, h2, h19, h20, h21, h22, h23, h24, h25, h26, h27, rfl⟩
    obtain hjm : j = UL.length := by omega
    rw [hjm] at h27 HML
    exact thru ⟨v, c, hf, h0, h2, h19, h20, h21, h22, h23, h24, h25, h26, h27, HML⟩
  refine wp_sqR (x := cAt [1,1,1,1,1,1,1,1,1,1,1,1,0,1,2,2,0] KDK) (y := cAt [1,1,1,1,1,1,1,1,1,1,1,1,0,1,2,2,1] KDK) (by kernel_rfl) (k32 fa fn fc z a1 c1 a2 c2 ua uc UL gk gn gt wl j v c hlt a_l hf h0 h2 h19 h20 h21 h22 h23 h24 h25 h26 h27 h28) ?_
  rintro a_34 _ ⟨hf, h0, h2, h19, h20, h21, h22, h23, h24, h25, h26, h27, h28, rfl⟩
  refine wp_sqR (x := cAt [1,1,1,1,1,1,1,1,1,1,1,1,0,1,2,2,1,0] KDK) (y := cAt [1,1,1,1,1,1,1,1,1,1,1,1,0,1,2,2,1,1] KDK) (by kernel_rfl) (R := fun a' w' => ∃ (v : Option Addr) (c : Nat), Ms w w' [.any 44 2 v (j + 1) c (fcs (keepF (j + 1))), .disk gt kt, .disk gn kn, .disk gk kk, .wts ua uc UL, .row a2 z c2 D, .row a1 z c1 d0] ∧ Fr 301 a' ∧ sl a' 0 = .int .i64 (z : Int) ∧ sl a' 2 = .slice fa fn fc ∧ sl a' 19 = .slice a1 z c1 ∧ sl a' 20 = .int .i64 0 ∧ sl a' 21 = .slice a2 z c2 ∧ sl a' 22 = .int .i64 0 ∧ sl a' 23 = .slice ua UL.length uc ∧ sl a' 24 = .pointer (some ⟨gk, 0, none⟩) ∧ sl a' 25 = .pointer (some ⟨gn, 0, none⟩) ∧ sl a' 26 = .pointer (some ⟨gt, 0, none⟩) ∧ sl a' 27 = .slice v (j + 1) c ∧ sl a' 28 = .int .i64 (j : Int)) ?_ ?_
  · refine wp_blockR (x := cAt [1,1,1,1,1,1,1,1,1,1,1,1,0,1,2,2,1,0,2] KDK) (id := 4) (by kernel_rfl) ?_
    refine wp_endR (k34 w fa fn fc z w4 d0 ws D hw40 a1 c1 a2 c2 ua uc UL gk kk gn kn gt kt hun wl j v c HML hlt a_34 hf h0 h2 h19 h20 h21 h22 h23 h24 h25 h26 h27 h28) ?_
    rintro a_35 w34 ⟨vb, cb, hf, h0, h2, h19, h20, h21, h22, h23, h24, h25, h26, h27, h28, HM34⟩
    exact ⟨vb, cb, HM34, hf, h0, h2, h19, h20, h21, h22, h23, h24, h25, h26, h27, h28⟩
  rintro a_m wm ⟨vb, cb, HM34, hf, h0, h2, h19, h20, h21, h22, h23, h24, h25, h26, h27, h28⟩
  refine wp_endR (k33 fa fn fc z ws hw40 a1 c1 a2 c2 ua uc UL gk gn gt hun j hlt wm vb cb a_m hf h0 h2 h19 h20 h21 h22 h23 h24 h25 h26 h27 h28) ?_
  rintro a_36 _ ⟨hf, h0, h2, h19, h20, h21, h22, h23, h24, h25, h26, h27, h28, rfl⟩
  refine ⟨⟨j + 1, hlt, vb, cb, HM34, hf, h0, h2, h19, h20, h21, h22, h23, h24, h25, h26, h27, h28⟩, ?_⟩
  rw [h28a, h28]
  simp only [numOf]
  omega

set_option maxRecDepth 100000 in
set_option maxHeartbeats 4000000 in
theorem k35 (w : World) (fa : Option Addr) (fn : Nat) (fc : Nat) (z : Nat) (_h : Nat) (d0 : List Int) (ws : List (Int × List Int)) (D : List Int) (hD : Hid (nowP d0 ws = D)) (hw40 : Hid (ws.length ≤ 40)) (a1 : Option Addr) (c1 : Nat) (a2 : Option Addr) (c2 : Nat) (ua : Option Addr) (uc : Nat) (UL : List Uw) (gk : Nat) (kk : Dk) (gn : Nat) (kn : Dk) (gt : Nat) (kt : Dk) (HKK : Hid (kk.d = d0 ∧ kk.ws = ws)) (hun : Hid (UL.length = ws.length)) (w32 : World) (v3 : Option Addr) (c3 : Nat) (HT5 : Hid (Ms w w32 [.any 44 2 v3 UL.length c3 (fcs (keepF UL.length)), .disk gt kt, .disk gn kn, .disk gk kk, .wts ua uc UL, .row a2 z c2 D, .row a1 z c1 d0])) (a : Act) (hf : Fr 301 a) (h0 : sl a 0 = .int .i64 (z : Int)) (h2 : sl a 2 = .slice fa fn fc) (h19 : sl a 19 = .slice a1 z c1) (h20 : sl a 20 = .int .i64 0) (h21 : sl a 21 = .slice a2 z c2) (h22 : sl a 22 = .int .i64 0) (h23 : sl a 23 = .slice ua UL.length uc) (h24 : sl a 24 = .pointer (some ⟨gk, 0, none⟩)) (h25 : sl a 25 = .pointer (some ⟨gn, 0, none⟩)) (h26 : sl a 26 = .pointer (some ⟨gt, 0, none⟩)) (h27 : sl a 27 = .slice v3 UL.length c3) :
    Code.wp Try.prog (cAt [1,1,1,1,1,1,1,1,1,1,1,1,1,0] KDK) (Exit.then (fun a' w' => ∃ k9 : Dk, Fr 301 a' ∧ sl a' 0 = .int .i64 (z : Int) ∧ sl a' 2 = .slice fa fn fc ∧ sl a' 19 = .slice a1 z c1 ∧ sl a' 20 = .int .i64 0 ∧ sl a' 21 = .slice a2 z c2 ∧ sl a' 22 = .int .i64 0 ∧ sl a' 23 = .slice ua UL.length uc ∧ sl a' 24 = .pointer (some ⟨gk, 0, none⟩) ∧ sl a' 25 = .pointer (some ⟨gn, 0, none⟩) ∧ sl a' 26 = .pointer (some ⟨gt, 0, none⟩) ∧ (Ms w w' [.disk gk k9, .disk gt kt, .disk gn kn, .wts ua uc UL, .row a2 z c2 D, .row a1 z c1 d0] ∧ k9.d = D ∧ k9.ws = [])) Nope) a w32 := by
  obtain ⟨f, ha, hs⟩ := frKDK hf
  have e0 := (hs 0).trans h0
  have e2 := (hs 2).trans h2
  have e19 := (hs 19).trans h19
  have e20 := (hs 20).trans h20
  have e21 := (hs 21).trans h21
  have e22 := (hs 22).trans h22
  have e23 := (hs 23).trans h23
  have e24 := (hs 24).trans h24
  have e25 := (hs 25).trans h25
  have e26 := (hs 26).trans h26
  have e27 := (hs 27).trans h27
  rw [e0, e2, e19, e20, e21, e22, e23, e24, e25, e26, e27] at ha
  clear hs hf e0 h0 e2 h2 e19 h19 e20 h20 e21 h21 e22 h22 e23 h23 e24 h24 e25 h25 e26 h26 e27 h27
  subst ha
  refine piece2 fun J0 K0 hJ0 hK0 => ?_
  conv => arg 2; whnf
  have hm : Hid (Ms w w32 [.disk gk kk, .any 44 2 v3 UL.length c3 (fcs (keepF UL.length)), .disk gt kt, .disk gn kn, .wts ua uc UL, .row a2 z c2 D, .row a1 z c1 d0]) := HT5.out.to3
  have hfts : Hid (Fts w32 v3 UL.length (keepF UL.length)) := by
    have h := hm.out.ok (.any 44 2 v3 UL.length c3 (fcs (keepF UL.length))) (by simp)
    have h2 : OwnG w32 w.heap.size 44 2 v3 (keepF UL.length).length c3 (fcs (keepF UL.length)) := by rw [keepF_len]; exact h
    have h3 := fts_own h2
    rw [keepF_len] at h3
    exact h3
  have hofh : Hid (∀ r, blk v3 = some r → blk kk.a ≠ some r) := fun r hr hr2 => (List.pairwise_cons.1 hm.out.off).1 (.any 44 2 v3 UL.length c3 (fcs (keepF UL.length))) (by simp) r (.inr (.inl hr2)) hr
  go_wp2_with fail
  refine (dkCrash_step w.heap.size gk kk v3 UL.length c3 (keepF UL.length) _ hm.out.hd hfts.out (by have := hun.out; have := hw40.out; omega) (fun _ => hofh.out)).mono ?_
  rintro e wz ⟨rfl, k9, hs, hd, hl⟩
  have H : Hid (Ms w wz [.disk gk k9, .disk gt kt, .disk gn kn, .wts ua uc UL, .row a2 z c2 D, .row a1 z c1 d0] ∧ k9.d = D ∧ k9.ws = []) := ⟨(hm.out.disk hs).sub (by simp), by rw [hd]; rw [HKK.out.1, HKK.out.2, hun.out, trim_keep]; exact hD.out, hl⟩
  clear hs hd hl
  go_wp2_with fail
  refine Met.intro (hJ0 _ _ ?_)
  exact ⟨k9, ⟨rfl, rfl⟩, rfl, rfl, rfl, rfl, rfl, rfl, rfl, rfl, rfl, rfl, H.out⟩

set_option maxRecDepth 100000 in
set_option maxHeartbeats 4000000 in
theorem k36 (w : World) (fa : Option Addr) (fn : Nat) (fc : Nat) (z : Nat) (_h : Nat) (d0 : List Int) (ws : List (Int × List Int)) (D : List Int) (a1 : Option Addr) (c1 : Nat) (a2 : Option Addr) (c2 : Nat) (ua : Option Addr) (uc : Nat) (UL : List Uw) (gk : Nat) (gn : Nat) (kn : Dk) (gt : Nat) (kt : Dk) (HKN : Hid (kn.d = d0 ∧ kn.ws = ws)) (w35 : World) (kk' : Dk) (Hw35 : Hid (Ms w w35 [.disk gk kk', .disk gt kt, .disk gn kn, .wts ua uc UL, .row a2 z c2 D, .row a1 z c1 d0] ∧ kk'.d = D ∧ kk'.ws = [])) (a : Act) (hf : Fr 301 a) (h0 : sl a 0 = .int .i64 (z : Int)) (h2 : sl a 2 = .slice fa fn fc) (h19 : sl a 19 = .slice a1 z c1) (h20 : sl a 20 = .int .i64 0) (h21 : sl a 21 = .slice a2 z c2) (h22 : sl a 22 = .int .i64 0) (h23 : sl a 23 = .slice ua UL.length uc) (h24 : sl a 24 = .pointer (some ⟨gk, 0, none⟩)) (h25 : sl a 25 = .pointer (some ⟨gn, 0, none⟩)) (h26 : sl a 26 = .pointer (some ⟨gt, 0, none⟩)) :
    Code.wp Try.prog (cAt [1,1,1,1,1,1,1,1,1,1,1,1,1,1,0] KDK) (Exit.then (fun a' w' => ∃ k9 : Dk, Fr 301 a' ∧ sl a' 0 = .int .i64 (z : Int) ∧ sl a' 2 = .slice fa fn fc ∧ sl a' 19 = .slice a1 z c1 ∧ sl a' 20 = .int .i64 0 ∧ sl a' 21 = .slice a2 z c2 ∧ sl a' 22 = .int .i64 0 ∧ sl a' 23 = .slice ua UL.length uc ∧ sl a' 24 = .pointer (some ⟨gk, 0, none⟩) ∧ sl a' 25 = .pointer (some ⟨gn, 0, none⟩) ∧ sl a' 26 = .pointer (some ⟨gt, 0, none⟩) ∧ (Ms w w' [.disk gn k9, .disk gk kk', .disk gt kt, .wts ua uc UL, .row a2 z c2 D, .row a1 z c1 d0] ∧ k9.d = d0 ∧ k9.ws = [])) Nope) a w35 := by
  obtain ⟨f, ha, hs⟩ := frKDK hf
  have e0 := (hs 0).trans h0
  have e2 := (hs 2).trans h2
  have e19 := (hs 19).trans h19
  have e20 := (hs 20).trans h20
  have e21 := (hs 21).trans h21
  have e22 := (hs 22).trans h22
  have e23 := (hs 23).trans h23
  have e24 := (hs 24).trans h24
  have e25 := (hs 25).trans h25
  have e26 := (hs 26).trans h26
  rw [e0, e2, e19, e20, e21, e22, e23, e24, e25, e26] at ha
  clear hs hf e0 h0 e2 h2 e19 h19 e20 h20 e21 h21 e22 h22 e23 h23 e24 h24 e25 h25 e26 h26
  subst ha
  refine piece2 fun J0 K0 hJ0 hK0 => ?_
  conv => arg 2; whnf
  have hm : Hid (Ms w w35 [.disk gn kn, .disk gk kk', .disk gt kt, .wts ua uc UL, .row a2 z c2 D, .row a1 z c1 d0]) := Hw35.out.1.to2
  go_wp2_with fail
  refine (dkCrash_step w.heap.size gn kn none 0 0 ([]) _ hm.out.hd ⟨rfl, fun h => absurd rfl h⟩ (by decide) (fun h => absurd rfl h)).mono ?_
  rintro e wz ⟨rfl, k9, hs, hd, hl⟩
  have H : Hid (Ms w wz [.disk gn k9, .disk gk kk', .disk gt kt, .wts ua uc UL, .row a2 z c2 D, .row a1 z c1 d0] ∧ k9.d = d0 ∧ k9.ws = []) := ⟨hm.out.disk hs, by rw [hd]; rw [HKN.out.1, now_lost], hl⟩
  clear hs hd hl
  go_wp2_with fail
  refine Met.intro (hJ0 _ _ ?_)
  exact ⟨k9, ⟨rfl, rfl⟩, rfl, rfl, rfl, rfl, rfl, rfl, rfl, rfl, rfl, rfl, H.out⟩

set_option maxRecDepth 100000 in
set_option maxHeartbeats 4000000 in
theorem k37 (w : World) (fa : Option Addr) (fn : Nat) (fc : Nat) (fl : List Ft) (HFT : Hid (Fts w fa fn fl)) (HFM : Hid (fn ≤ maxLen)) (z : Nat) (d0 : List Int) (ws : List (Int × List Int)) (D : List Int) (C : List Int) (hC : Hid (nowP d0 (trimP ws fl) = C)) (a1 : Option Addr) (c1 : Nat) (a2 : Option Addr) (c2 : Nat) (ua : Option Addr) (uc : Nat) (UL : List Uw) (gk : Nat) (gn : Nat) (gt : Nat) (kt : Dk) (HKT : Hid (kt.d = d0 ∧ kt.ws = ws)) (kk' : Dk) (w36 : World) (kn' : Dk) (Hw36 : Hid (Ms w w36 [.disk gn kn', .disk gk kk', .disk gt kt, .wts ua uc UL, .row a2 z c2 D, .row a1 z c1 d0] ∧ kn'.d = d0 ∧ kn'.ws = [])) (a : Act) (hf : Fr 301 a) (h0 : sl a 0 = .int .i64 (z : Int)) (h2 : sl a 2 = .slice fa fn fc) (h19 : sl a 19 = .slice a1 z c1) (h20 : sl a 20 = .int .i64 0) (h21 : sl a 21 = .slice a2 z c2) (h22 : sl a 22 = .int .i64 0) (h23 : sl a 23 = .slice ua UL.length uc) (h24 : sl a 24 = .pointer (some ⟨gk, 0, none⟩)) (h25 : sl a 25 = .pointer (some ⟨gn, 0, none⟩)) (h26 : sl a 26 = .pointer (some ⟨gt, 0, none⟩)) :
    Code.wp Try.prog (cAt [1,1,1,1,1,1,1,1,1,1,1,1,1,1,1,0] KDK) (Exit.then (fun a' w' => ∃ k9 : Dk, Fr 301 a' ∧ sl a' 0 = .int .i64 (z : Int) ∧ sl a' 19 = .slice a1 z c1 ∧ sl a' 20 = .int .i64 0 ∧ sl a' 21 = .slice a2 z c2 ∧ sl a' 22 = .int .i64 0 ∧ sl a' 23 = .slice ua UL.length uc ∧ sl a' 24 = .pointer (some ⟨gk, 0, none⟩) ∧ sl a' 25 = .pointer (some ⟨gn, 0, none⟩) ∧ sl a' 26 = .pointer (some ⟨gt, 0, none⟩) ∧ (Ms w w' [.disk gt k9, .disk gn kn', .disk gk kk', .wts ua uc UL, .row a2 z c2 D, .row a1 z c1 d0] ∧ k9.d = C ∧ k9.ws = [])) Nope) a w36 := by
  obtain ⟨f, ha, hs⟩ := frKDK hf
  have e0 := (hs 0).trans h0
  have e2 := (hs 2).trans h2
  have e19 := (hs 19).trans h19
  have e20 := (hs 20).trans h20
  have e21 := (hs 21).trans h21
  have e22 := (hs 22).trans h22
  have e23 := (hs 23).trans h23
  have e24 := (hs 24).trans h24
  have e25 := (hs 25).trans h25
  have e26 := (hs 26).trans h26
  rw [e0, e2, e19, e20, e21, e22, e23, e24, e25, e26] at ha
  clear hs hf e0 h0 e2 h2 e19 h19 e20 h20 e21 h21 e22 h22 e23 h23 e24 h24 e25 h25 e26 h26
  subst ha
  refine piece2 fun J0 K0 hJ0 hK0 => ?_
  conv => arg 2; whnf
  have hm : Hid (Ms w w36 [.disk gt kt, .disk gn kn', .disk gk kk', .wts ua uc UL, .row a2 z c2 D, .row a1 z c1 d0]) := Hw36.out.1.to2
  go_wp2_with fail
  refine (dkCrash_step w.heap.size gt kt fa fn fc (fl) _ hm.out.hd ((HFT.out).below hm.out.below) (by have := HFM.out; unfold maxLen at this; omega) (fun hne r hr hr2 => by
    obtain ⟨r2, o, e1, hc⟩ := HFT.out.2 hne
    rw [e1] at hr
    simp [blk] at hr
    obtain ⟨f0, hf0⟩ : ∃ f0, fl[0]? = some f0 := ⟨_, List.getElem?_eq_getElem (by cases hz : fl with | nil => exact absurd hz hne | cons _ _ => simp)⟩
    have h3 := World.block_lt_of_cell? w ⟨r2, o + 0 * 2, none⟩ (hc 0 f0 hf0).1
    have h1 := (Th.lt (t := .disk gt kt) hm.out.hd (i := r) (.inr (.inl hr2))).1
    simp at h3
    omega)).mono ?_
  rintro e wz ⟨rfl, k9, hs, hd, hl⟩
  have H : Hid (Ms w wz [.disk gt k9, .disk gn kn', .disk gk kk', .wts ua uc UL, .row a2 z c2 D, .row a1 z c1 d0] ∧ k9.d = C ∧ k9.ws = []) := ⟨hm.out.disk hs, by rw [hd]; rw [HKT.out.1, HKT.out.2]; exact hC.out, hl⟩
  clear hs hd hl
  go_wp2_with fail
  refine Met.intro (hJ0 _ _ ?_)
  exact ⟨k9, ⟨rfl, rfl⟩, rfl, rfl, rfl, rfl, rfl, rfl, rfl, rfl, rfl, H.out⟩

set_option maxRecDepth 100000 in
set_option maxHeartbeats 4000000 in
theorem k38 (w : World) (z : Nat) (d0 : List Int) (_ws : List (Int × List Int)) (D : List Int) (C : List Int) (hlD : Hid (D.length = z)) (a1 : Option Addr) (c1 : Nat) (a2 : Option Addr) (c2 : Nat) (ua : Option Addr) (uc : Nat) (UL : List Uw) (gk : Nat) (gn : Nat) (kn : Dk) (gt : Nat) (kt : Dk) (w35 : World) (kk' : Dk) (Hw35 : Hid (Ms w w35 [.disk gk kk', .disk gt kt, .disk gn kn, .wts ua uc UL, .row a2 z c2 D, .row a1 z c1 d0] ∧ kk'.d = D ∧ kk'.ws = [])) (kn' : Dk) (w37 : World) (kt' : Dk) (Hw37 : Hid (Ms w w37 [.disk gt kt', .disk gn kn', .disk gk kk', .wts ua uc UL, .row a2 z c2 D, .row a1 z c1 d0] ∧ kt'.d = C ∧ kt'.ws = [])) (a : Act) (hf : Fr 301 a) (h0 : sl a 0 = .int .i64 (z : Int)) (h19 : sl a 19 = .slice a1 z c1) (h20 : sl a 20 = .int .i64 0) (h21 : sl a 21 = .slice a2 z c2) (h22 : sl a 22 = .int .i64 0) (h23 : sl a 23 = .slice ua UL.length uc) (h24 : sl a 24 = .pointer (some ⟨gk, 0, none⟩)) (h25 : sl a 25 = .pointer (some ⟨gn, 0, none⟩)) (h26 : sl a 26 = .pointer (some ⟨gt, 0, none⟩)) :
    Code.wp Try.prog (cAt [1,1,1,1,1,1,1,1,1,1,1,1,1,1,1,1,0] KDK) (Exit.then (fun a' w' => ∃ a9 : Option Addr, ∃ c9 : Nat, Fr 301 a' ∧ sl a' 0 = .int .i64 (z : Int) ∧ sl a' 19 = .slice a1 z c1 ∧ sl a' 20 = .int .i64 0 ∧ sl a' 21 = .slice a2 z c2 ∧ sl a' 22 = .int .i64 0 ∧ sl a' 23 = .slice ua UL.length uc ∧ sl a' 24 = .pointer (some ⟨gk, 0, none⟩) ∧ sl a' 25 = .pointer (some ⟨gn, 0, none⟩) ∧ sl a' 26 = .pointer (some ⟨gt, 0, none⟩) ∧ sl a' 29 = .slice a9 z c9 ∧ sl a' 30 = .int .i64 0 ∧ Ms w w' [.row a9 z c9 D, .disk gk kk', .disk gt kt', .disk gn kn', .wts ua uc UL, .row a2 z c2 D, .row a1 z c1 d0]) Nope) a w37 := by
  obtain ⟨f, ha, hs⟩ := frKDK hf
  have e0 := (hs 0).trans h0
  have e19 := (hs 19).trans h19
  have e20 := (hs 20).trans h20
  have e21 := (hs 21).trans h21
  have e22 := (hs 22).trans h22
  have e23 := (hs 23).trans h23
  have e24 := (hs 24).trans h24
  have e25 := (hs 25).trans h25
  have e26 := (hs 26).trans h26
  rw [e0, e19, e20, e21, e22, e23, e24, e25, e26] at ha
  clear hs hf e0 h0 e19 h19 e20 h20 e21 h21 e22 h22 e23 h23 e24 h24 e25 h25 e26 h26
  subst ha
  refine piece2 fun J0 K0 hJ0 hK0 => ?_
  conv => arg 2; whnf
  have hm : Hid (Ms w w37 [.disk gk kk', .disk gt kt', .disk gn kn', .wts ua uc UL, .row a2 z c2 D, .row a1 z c1 d0]) := Hw37.out.1.to2
  go_wp2_with fail
  refine (dkDurable_any w.heap.size gk kk' 0 z _ hm.out.hd (by rw [Hw35.out.2.1, hlD.out]; omega)).mono ?_
  rintro e wz ⟨a9, n9, c9, rfl, ho, hb⟩
  have e1 : cutD kk'.d 0 z = D := by rw [Hw35.out.2.1, ← hlD.out]; exact cutD_all _
  rw [e1] at ho
  have hn : z = n9 := by rw [← ho.len, hlD.out]
  subst hn
  have H : Hid (Ms w wz [.row a9 z c9 D, .disk gk kk', .disk gt kt', .disk gn kn', .wts ua uc UL, .row a2 z c2 D, .row a1 z c1 d0]) := hm.out.add (t := .row a9 z c9 D) hb ho
  clear ho hb e1
  go_wp2_with fail
  refine Met.intro (hJ0 _ _ ?_)
  exact ⟨a9, c9, ⟨rfl, rfl⟩, rfl, rfl, rfl, rfl, rfl, rfl, rfl, rfl, rfl, rfl, rfl, H.out⟩

set_option maxRecDepth 100000 in
set_option maxHeartbeats 4000000 in
theorem k39 (w : World) (z : Nat) (d0 : List Int) (_ws : List (Int × List Int)) (D : List Int) (hl0 : Hid (d0.length = z)) (a1 : Option Addr) (c1 : Nat) (a2 : Option Addr) (c2 : Nat) (ua : Option Addr) (uc : Nat) (UL : List Uw) (gk : Nat) (gn : Nat) (gt : Nat) (kt : Dk) (kk' : Dk) (w36 : World) (kn' : Dk) (Hw36 : Hid (Ms w w36 [.disk gn kn', .disk gk kk', .disk gt kt, .wts ua uc UL, .row a2 z c2 D, .row a1 z c1 d0] ∧ kn'.d = d0 ∧ kn'.ws = [])) (kt' : Dk) (w38 : World) (a3 : Option Addr) (c3b : Nat) (Hw38 : Hid (Ms w w38 [.row a3 z c3b D, .disk gk kk', .disk gt kt', .disk gn kn', .wts ua uc UL, .row a2 z c2 D, .row a1 z c1 d0])) (a : Act) (hf : Fr 301 a) (h0 : sl a 0 = .int .i64 (z : Int)) (h19 : sl a 19 = .slice a1 z c1) (h20 : sl a 20 = .int .i64 0) (h21 : sl a 21 = .slice a2 z c2) (h22 : sl a 22 = .int .i64 0) (h23 : sl a 23 = .slice ua UL.length uc) (h24 : sl a 24 = .pointer (some ⟨gk, 0, none⟩)) (h25 : sl a 25 = .pointer (some ⟨gn, 0, none⟩)) (h26 : sl a 26 = .pointer (some ⟨gt, 0, none⟩)) (h29 : sl a 29 = .slice a3 z c3b) (h30 : sl a 30 = .int .i64 0) :
    Code.wp Try.prog (cAt [1,1,1,1,1,1,1,1,1,1,1,1,1,1,1,1,1,0] KDK) (Exit.then (fun a' w' => ∃ a9 : Option Addr, ∃ c9 : Nat, Fr 301 a' ∧ sl a' 0 = .int .i64 (z : Int) ∧ sl a' 19 = .slice a1 z c1 ∧ sl a' 20 = .int .i64 0 ∧ sl a' 21 = .slice a2 z c2 ∧ sl a' 22 = .int .i64 0 ∧ sl a' 23 = .slice ua UL.length uc ∧ sl a' 24 = .pointer (some ⟨gk, 0, none⟩) ∧ sl a' 25 = .pointer (some ⟨gn, 0, none⟩) ∧ sl a' 26 = .pointer (some ⟨gt, 0, none⟩) ∧ sl a' 29 = .slice a3 z c3b ∧ sl a' 30 = .int .i64 0 ∧ sl a' 31 = .slice a9 z c9 ∧ sl a' 32 = .int .i64 0 ∧ Ms w w' [.row a9 z c9 d0, .disk gn kn', .row a3 z c3b D, .disk gk kk', .disk gt kt', .wts ua uc UL, .row a2 z c2 D, .row a1 z c1 d0]) Nope) a w38 := by
  obtain ⟨f, ha, hs⟩ := frKDK hf
  have e0 := (hs 0).trans h0
  have e19 := (hs 19).trans h19
  have e20 := (hs 20).trans h20
  have e21 := (hs 21).trans h21
  have e22 := (hs 22).trans h22
  have e23 := (hs 23).trans h23
  have e24 := (hs 24).trans h24
  have e25 := (hs 25).trans h25
  have e26 := (hs 26).trans h26
  have e29 := (hs 29).trans h29
  have e30 := (hs 30).trans h30
  rw [e0, e19, e20, e21, e22, e23, e24, e25, e26, e29, e30] at ha
  clear hs hf e0 h0 e19 h19 e20 h20 e21 h21 e22 h22 e23 h23 e24 h24 e25 h25 e26 h26 e29 h29 e30 h30
  subst ha
  refine piece2 fun J0 K0 hJ0 hK0 => ?_
  conv => arg 2; whnf
  have hm : Hid (Ms w w38 [.disk gn kn', .row a3 z c3b D, .disk gk kk', .disk gt kt', .wts ua uc UL, .row a2 z c2 D, .row a1 z c1 d0]) := Hw38.out.to3
  go_wp2_with fail
  refine (dkDurable_any w.heap.size gn kn' 0 z _ hm.out.hd (by rw [Hw36.out.2.1, hl0.out]; omega)).mono ?_
  rintro e wz ⟨a9, n9, c9, rfl, ho, hb⟩
  have e1 : cutD kn'.d 0 z = d0 := by rw [Hw36.out.2.1, ← hl0.out]; exact cutD_all _
  rw [e1] at ho
  have hn : z = n9 := by rw [← ho.len, hl0.out]
  subst hn
  have H : Hid (Ms w wz [.row a9 z c9 d0, .disk gn kn', .row a3 z c3b D, .disk gk kk', .disk gt kt', .wts ua uc UL, .row a2 z c2 D, .row a1 z c1 d0]) := hm.out.add (t := .row a9 z c9 d0) hb ho
  clear ho hb e1
  go_wp2_with fail
  refine Met.intro (hJ0 _ _ ?_)
  exact ⟨a9, c9, ⟨rfl, rfl⟩, rfl, rfl, rfl, rfl, rfl, rfl, rfl, rfl, rfl, rfl, rfl, rfl, rfl, H.out⟩

set_option maxRecDepth 100000 in
set_option maxHeartbeats 4000000 in
theorem k40 (w : World) (z : Nat) (d0 : List Int) (_ws : List (Int × List Int)) (D : List Int) (C : List Int) (hlC : Hid (C.length = z)) (a1 : Option Addr) (c1 : Nat) (a2 : Option Addr) (c2 : Nat) (ua : Option Addr) (uc : Nat) (UL : List Uw) (gk : Nat) (gn : Nat) (gt : Nat) (kk' : Dk) (kn' : Dk) (w37 : World) (kt' : Dk) (Hw37 : Hid (Ms w w37 [.disk gt kt', .disk gn kn', .disk gk kk', .wts ua uc UL, .row a2 z c2 D, .row a1 z c1 d0] ∧ kt'.d = C ∧ kt'.ws = [])) (a3 : Option Addr) (c3b : Nat) (w39 : World) (a4 : Option Addr) (c4 : Nat) (HQ39 : Hid (Ms w w39 [.disk gt kt', .row a4 z c4 d0, .row a3 z c3b D, .wts ua uc UL, .row a2 z c2 D, .row a1 z c1 d0])) (a : Act) (hf : Fr 301 a) (h0 : sl a 0 = .int .i64 (z : Int)) (h19 : sl a 19 = .slice a1 z c1) (h20 : sl a 20 = .int .i64 0) (h21 : sl a 21 = .slice a2 z c2) (h22 : sl a 22 = .int .i64 0) (h23 : sl a 23 = .slice ua UL.length uc) (h24 : sl a 24 = .pointer (some ⟨gk, 0, none⟩)) (h25 : sl a 25 = .pointer (some ⟨gn, 0, none⟩)) (h26 : sl a 26 = .pointer (some ⟨gt, 0, none⟩)) (h29 : sl a 29 = .slice a3 z c3b) (h30 : sl a 30 = .int .i64 0) (h31 : sl a 31 = .slice a4 z c4) (h32 : sl a 32 = .int .i64 0) :
    Code.wp Try.prog (cAt [1,1,1,1,1,1,1,1,1,1,1,1,1,1,1,1,1,1,0] KDK) (Exit.then (fun a' w' => ∃ a9 : Option Addr, ∃ c9 : Nat, Fr 301 a' ∧ sl a' 0 = .int .i64 (z : Int) ∧ sl a' 19 = .slice a1 z c1 ∧ sl a' 20 = .int .i64 0 ∧ sl a' 21 = .slice a2 z c2 ∧ sl a' 22 = .int .i64 0 ∧ sl a' 23 = .slice ua UL.length uc ∧ sl a' 24 = .pointer (some ⟨gk, 0, none⟩) ∧ sl a' 25 = .pointer (some ⟨gn, 0, none⟩) ∧ sl a' 26 = .pointer (some ⟨gt, 0, none⟩) ∧ sl a' 29 = .slice a3 z c3b ∧ sl a' 30 = .int .i64 0 ∧ sl a' 31 = .slice a4 z c4 ∧ sl a' 32 = .int .i64 0 ∧ sl a' 33 = .slice a9 z c9 ∧ sl a' 34 = .int .i64 0 ∧ Ms w w' [.row a9 z c9 C, .disk gt kt', .row a4 z c4 d0, .row a3 z c3b D, .wts ua uc UL, .row a2 z c2 D, .row a1 z c1 d0]) Nope) a w39 := by
  obtain ⟨f, ha, hs⟩ := frKDK hf
  have e0 := (hs 0).trans h0
  have e19 := (hs 19).trans h19
  have e20 := (hs 20).trans h20
  have e21 := (hs 21).trans h21
  have e22 := (hs 22).trans h22
  have e23 := (hs 23).trans h23
  have e24 := (hs 24).trans h24
  have e25 := (hs 25).trans h25
  have e26 := (hs 26).trans h26
  have e29 := (hs 29).trans h29
  have e30 := (hs 30).trans h30
  have e31 := (hs 31).trans h31
  have e32 := (hs 32).trans h32
  rw [e0, e19, e20, e21, e22, e23, e24, e25, e26, e29, e30, e31, e32] at ha
  clear hs hf e0 h0 e19 h19 e20 h20 e21 h21 e22 h22 e23 h23 e24 h24 e25 h25 e26 h26 e29 h29 e30 h30 e31 h31 e32 h32
  subst ha
  refine piece2 fun J0 K0 hJ0 hK0 => ?_
  conv => arg 2; whnf
  have hm : Hid (Ms w w39 [.disk gt kt', .row a4 z c4 d0, .row a3 z c3b D, .wts ua uc UL, .row a2 z c2 D, .row a1 z c1 d0]) := HQ39.out
  go_wp2_with fail
  refine (dkDurable_any w.heap.size gt kt' 0 z _ hm.out.hd (by rw [Hw37.out.2.1, hlC.out]; omega)).mono ?_
  rintro e wz ⟨a9, n9, c9, rfl, ho, hb⟩
  have e1 : cutD kt'.d 0 z = C := by rw [Hw37.out.2.1, ← hlC.out]; exact cutD_all _
  rw [e1] at ho
  have hn : z = n9 := by rw [← ho.len, hlC.out]
  subst hn
  have H : Hid (Ms w wz [.row a9 z c9 C, .disk gt kt', .row a4 z c4 d0, .row a3 z c3b D, .wts ua uc UL, .row a2 z c2 D, .row a1 z c1 d0]) := hm.out.add (t := .row a9 z c9 C) hb ho
  clear ho hb e1
  go_wp2_with fail
  refine Met.intro (hJ0 _ _ ?_)
  exact ⟨a9, c9, ⟨rfl, rfl⟩, rfl, rfl, rfl, rfl, rfl, rfl, rfl, rfl, rfl, rfl, rfl, rfl, rfl, rfl, rfl, H.out⟩

set_option maxRecDepth 100000 in
set_option maxHeartbeats 4000000 in
theorem k41 (w : World) (z : Nat) (d0 : List Int) (D : List Int) (C : List Int) (HBD : Hid (Byt D)) (HB0 : Hid (Byt d0)) (a1 : Option Addr) (c1 : Nat) (a2 : Option Addr) (c2 : Nat) (ua : Option Addr) (uc : Nat) (UL : List Uw) (gk : Nat) (gn : Nat) (gt : Nat) (kt' : Dk) (a3 : Option Addr) (c3b : Nat) (a4 : Option Addr) (c4 : Nat) (w40 : World) (a5 : Option Addr) (c5 : Nat) (Hw40 : Hid (Ms w w40 [.row a5 z c5 C, .disk gt kt', .row a4 z c4 d0, .row a3 z c3b D, .wts ua uc UL, .row a2 z c2 D, .row a1 z c1 d0])) (a : Act) (hf : Fr 301 a) (h0 : sl a 0 = .int .i64 (z : Int)) (h19 : sl a 19 = .slice a1 z c1) (h20 : sl a 20 = .int .i64 0) (h21 : sl a 21 = .slice a2 z c2) (h22 : sl a 22 = .int .i64 0) (h23 : sl a 23 = .slice ua UL.length uc) (h24 : sl a 24 = .pointer (some ⟨gk, 0, none⟩)) (h25 : sl a 25 = .pointer (some ⟨gn, 0, none⟩)) (h26 : sl a 26 = .pointer (some ⟨gt, 0, none⟩)) (h29 : sl a 29 = .slice a3 z c3b) (h30 : sl a 30 = .int .i64 0) (h31 : sl a 31 = .slice a4 z c4) (h32 : sl a 32 = .int .i64 0) (h33 : sl a 33 = .slice a5 z c5) (h34 : sl a 34 = .int .i64 0) :
    Code.wp Try.prog (cAt [1,1,1,1,1,1,1,1,1,1,1,1,1,1,1,1,1,1,1,0,0] KDK) (Exit.then (fun a' w' => Fr 301 a' ∧ sl a' 0 = .int .i64 (z : Int) ∧ sl a' 19 = .slice a1 z c1 ∧ sl a' 23 = .slice ua UL.length uc ∧ sl a' 26 = .pointer (some ⟨gt, 0, none⟩) ∧ sl a' 33 = .slice a5 z c5 ∧ sl a' 224 = .bool false ∧ w40 = w') Nope) a w40 := by
  obtain ⟨f, ha, hs⟩ := frKDK hf
  have e0 := (hs 0).trans h0
  have e19 := (hs 19).trans h19
  have e20 := (hs 20).trans h20
  have e21 := (hs 21).trans h21
  have e22 := (hs 22).trans h22
  have e23 := (hs 23).trans h23
  have e24 := (hs 24).trans h24
  have e25 := (hs 25).trans h25
  have e26 := (hs 26).trans h26
  have e29 := (hs 29).trans h29
  have e30 := (hs 30).trans h30
  have e31 := (hs 31).trans h31
  have e32 := (hs 32).trans h32
  have e33 := (hs 33).trans h33
  have e34 := (hs 34).trans h34
  rw [e0, e19, e20, e21, e22, e23, e24, e25, e26, e29, e30, e31, e32, e33, e34] at ha
  clear hs hf e0 h0 e19 h19 e20 h20 e21 h21 e22 h22 e23 h23 e24 h24 e25 h25 e26 h26 e29 h29 e30 h30 e31 h31 e32 h32 e33 h33 e34 h34
  subst ha
  refine piece2 fun J0 K0 hJ0 hK0 => ?_
  conv => arg 2; whnf
  have o1 : Hid (Own w40 w.heap.size a1 z c1 d0) := Hw40.out.ok (.row a1 z c1 d0) (by simp)
  have o2 : Hid (Own w40 w.heap.size a2 z c2 D) := Hw40.out.ok (.row a2 z c2 D) (by simp)
  have o3 : Hid (Own w40 w.heap.size a3 z c3b D) := Hw40.out.ok (.row a3 z c3b D) (by simp)
  have o4 : Hid (Own w40 w.heap.size a4 z c4 d0) := Hw40.out.ok (.row a4 z c4 d0) (by simp)
  go_wp2_with fail
  refine (same_any a3 a2 z c3b z c2 D D w40 o3.out.len o2.out.len o3.out.rd o2.out.rd HBD.out HBD.out).mono ?_
  rintro e wz ⟨rfl, hw⟩
  subst hw
  rw [decide_eq_true rfl]
  go_wp2_with fail
  refine (same_any a4 a1 z c4 z c1 d0 d0 w40 o4.out.len o1.out.len o4.out.rd o1.out.rd HB0.out HB0.out).mono ?_
  rintro e wz ⟨rfl, hw⟩
  subst hw
  rw [decide_eq_true rfl]
  go_wp2_with fail
  refine Met.intro (hJ0 _ _ ?_)
  exact ⟨⟨rfl, rfl⟩, rfl, rfl, rfl, rfl, rfl, rfl, rfl⟩

set_option maxRecDepth 100000 in
set_option maxHeartbeats 4000000 in
theorem k43 (z : Nat) (a1 : Option Addr) (c1 : Nat) (ua : Option Addr) (uc : Nat) (UL : List Uw) (gt : Nat) (w40 : World) (a5 : Option Addr) (c5 : Nat) (a : Act) (hf : Fr 301 a) (h0 : sl a 0 = .int .i64 (z : Int)) (h19 : sl a 19 = .slice a1 z c1) (h23 : sl a 23 = .slice ua UL.length uc) (h26 : sl a 26 = .pointer (some ⟨gt, 0, none⟩)) (h33 : sl a 33 = .slice a5 z c5) :
    Code.wp Try.prog (cAt [1,1,1,1,1,1,1,1,1,1,1,1,1,1,1,1,1,1,1,1,0,0] KDK) (Exit.then (fun a' w' => Fr 301 a' ∧ sl a' 0 = .int .i64 (z : Int) ∧ sl a' 19 = .slice a1 z c1 ∧ sl a' 23 = .slice ua UL.length uc ∧ sl a' 26 = .pointer (some ⟨gt, 0, none⟩) ∧ sl a' 33 = .slice a5 z c5 ∧ sl a' 35 = .int .i64 0 ∧ w40 = w') Nope) a w40 := by
  obtain ⟨f, ha, hs⟩ := frKDK hf
  have e0 := (hs 0).trans h0
  have e19 := (hs 19).trans h19
  have e23 := (hs 23).trans h23
  have e26 := (hs 26).trans h26
  have e33 := (hs 33).trans h33
  rw [e0, e19, e23, e26, e33] at ha
  clear hs hf e0 h0 e19 h19 e23 h23 e26 h26 e33 h33
  subst ha
  refine piece2 fun J0 K0 hJ0 hK0 => ?_
  conv => arg 2; whnf
  go_wp2_with fail
  refine Met.intro (hJ0 _ _ ?_)
  exact ⟨⟨rfl, rfl⟩, rfl, rfl, rfl, rfl, rfl, rfl, rfl⟩

set_option maxRecDepth 100000 in
set_option maxHeartbeats 4000000 in
theorem k44x (z : Nat) (a1 : Option Addr) (c1 : Nat) (ua : Option Addr) (uc : Nat) (UL : List Uw) (gt : Nat) (a5 : Option Addr) (c5 : Nat) (wl : World) (j : Nat) (hlt : Hid (¬ j < z)) (a : Act) (hf : Fr 301 a) (h0 : sl a 0 = .int .i64 (z : Int)) (h19 : sl a 19 = .slice a1 z c1) (h23 : sl a 23 = .slice ua UL.length uc) (h26 : sl a 26 = .pointer (some ⟨gt, 0, none⟩)) (h33 : sl a 33 = .slice a5 z c5) (h35 : sl a 35 = .int .i64 (j : Int)) :
    Code.wp Try.prog (cAt [1,1,1,1,1,1,1,1,1,1,1,1,1,1,1,1,1,1,1,1,0,1,2,2] KDK) (Outs 5 (fun a' w' => Fr 301 a' ∧ sl a' 0 = .int .i64 (z : Int) ∧ sl a' 19 = .slice a1 z c1 ∧ sl a' 23 = .slice ua UL.length uc ∧ sl a' 26 = .pointer (some ⟨gt, 0, none⟩) ∧ sl a' 33 = .slice a5 z c5 ∧ wl = w')) a wl := by
  obtain ⟨f, ha, hs⟩ := frKDK hf
  have e0 := (hs 0).trans h0
  have e19 := (hs 19).trans h19
  have e23 := (hs 23).trans h23
  have e26 := (hs 26).trans h26
  have e33 := (hs 33).trans h33
  have e35 := (hs 35).trans h35
  rw [e0, e19, e23, e26, e33, e35] at ha
  clear hs hf e0 h0 e19 h19 e23 h23 e26 h26 e33 h33 e35 h35
  subst ha
  conv => arg 2; whnf
  have hi2 : ¬ (j : Int) < (z : Int) := by have := hlt.out; omega
  go_wp2_with fail
  exact ⟨rfl, ⟨rfl, rfl⟩, rfl, rfl, rfl, rfl, rfl, rfl⟩

set_option maxRecDepth 100000 in
set_option maxHeartbeats 4000000 in
theorem k44 (z : Nat) (a1 : Option Addr) (c1 : Nat) (ua : Option Addr) (uc : Nat) (UL : List Uw) (gt : Nat) (a5 : Option Addr) (c5 : Nat) (wl : World) (j : Nat) (hlt : Hid (j < z)) (a : Act) (hf : Fr 301 a) (h0 : sl a 0 = .int .i64 (z : Int)) (h19 : sl a 19 = .slice a1 z c1) (h23 : sl a 23 = .slice ua UL.length uc) (h26 : sl a 26 = .pointer (some ⟨gt, 0, none⟩)) (h33 : sl a 33 = .slice a5 z c5) (h35 : sl a 35 = .int .i64 (j : Int)) :
    Code.wp Try.prog (cAt [1,1,1,1,1,1,1,1,1,1,1,1,1,1,1,1,1,1,1,1,0,1,2,2,0] KDK) (Exit.then (fun a' w' => Fr 301 a' ∧ sl a' 0 = .int .i64 (z : Int) ∧ sl a' 19 = .slice a1 z c1 ∧ sl a' 23 = .slice ua UL.length uc ∧ sl a' 26 = .pointer (some ⟨gt, 0, none⟩) ∧ sl a' 33 = .slice a5 z c5 ∧ sl a' 35 = .int .i64 (j : Int) ∧ wl = w') Nope) a wl := by
  obtain ⟨f, ha, hs⟩ := frKDK hf
  have e0 := (hs 0).trans h0
  have e19 := (hs 19).trans h19
  have e23 := (hs 23).trans h23
  have e26 := (hs 26).trans h26
  have e33 := (hs 33).trans h33
  have e35 := (hs 35).trans h35
  rw [e0, e19, e23, e26, e33, e35] at ha
  clear hs hf e0 h0 e19 h19 e23 h23 e26 h26 e33 h33 e35 h35
  subst ha
  refine piece2 fun J0 K0 hJ0 hK0 => ?_
  conv => arg 2; whnf
  have hi2 : (j : Int) < (z : Int) := by have := hlt.out; omega
  go_wp2_with fail
  refine Met.intro (hJ0 _ _ ?_)
  exact ⟨⟨rfl, rfl⟩, rfl, rfl, rfl, rfl, rfl, rfl, rfl⟩

set_option maxRecDepth 100000 in
set_option maxHeartbeats 4000000 in
theorem k46 (w : World) (z : Nat) (_h : Nat) (d0 : List Int) (ws : List (Int × List Int)) (C : List Int) (c1 : Nat) (ua : Option Addr) (uc : Nat) (UL : List Uw) (gt : Nat) (kt' : Dk) (c5 : Nat) (wl : World) (j : Nat) (g5 : Nat) (g1 : Nat) (HML : Hid (Ms w wl [.row (some ⟨g5, 0, none⟩) z c5 C, .row (some ⟨g1, 0, none⟩) z c1 d0, .wts ua uc UL, .disk gt kt'])) (hlt : Hid (j < z)) (a : Act) (hf : Fr 301 a) (h0 : sl a 0 = .int .i64 (z : Int)) (h19 : sl a 19 = .slice (some ⟨g1, 0, none⟩) z c1) (h23 : sl a 23 = .slice ua UL.length uc) (h26 : sl a 26 = .pointer (some ⟨gt, 0, none⟩)) (h33 : sl a 33 = .slice (some ⟨g5, 0, none⟩) z c5) (h35 : sl a 35 = .int .i64 (j : Int)) :
    Code.wp Try.prog (cAt [1,1,1,1,1,1,1,1,1,1,1,1,1,1,1,1,1,1,1,1,0,1,2,2,1,0,2,0] KDK) (Exit.then (fun a' w' => Fr 301 a' ∧ sl a' 0 = .int .i64 (z : Int) ∧ sl a' 19 = .slice (some ⟨g1, 0, none⟩) z c1 ∧ sl a' 23 = .slice ua UL.length uc ∧ sl a' 26 = .pointer (some ⟨gt, 0, none⟩) ∧ sl a' 33 = .slice (some ⟨g5, 0, none⟩) z c5 ∧ sl a' 35 = .int .i64 (j : Int) ∧ sl a' 36 = .bool (mayV C d0 ws j 0) ∧ Ms w w' [.row (some ⟨g5, 0, none⟩) z c5 C, .row (some ⟨g1, 0, none⟩) z c1 d0, .wts ua uc UL, .disk gt kt']) Nope) a wl := by
  obtain ⟨f, ha, hs⟩ := frKDK hf
  have e0 := (hs 0).trans h0
  have e19 := (hs 19).trans h19
  have e23 := (hs 23).trans h23
  have e26 := (hs 26).trans h26
  have e33 := (hs 33).trans h33
  have e35 := (hs 35).trans h35
  rw [e0, e19, e23, e26, e33, e35] at ha
  clear hs hf e0 h0 e19 h19 e23 h23 e26 h26 e33 h33 e35 h35
  subst ha
  refine piece2 fun J0 K0 hJ0 hK0 => ?_
  conv => arg 2; whnf
  have HMd : Hid (Ms w wl.drew [.row (some ⟨g5, 0, none⟩) z c5 C, .row (some ⟨g1, 0, none⟩) z c1 d0, .wts ua uc UL, .disk gt kt']) := HML.out.past (Below.refl _ _).drew
  have hi2 : (j : Int) < (z : Int) := by have := hlt.out; omega
  have hi0 : (0 : Int) ≤ (j : Int) := by omega
  go_wp2_with fail
  refine wp_region_held_drew (S := fun w' => Ms w w' [.row (some ⟨g5, 0, none⟩) z c5 C, .row (some ⟨g1, 0, none⟩) z c1 d0, .wts ua uc UL, .disk gt kt']) (by kernel_rfl) HMd.out (fun hS => ?_)
  refine tk 0 230 (.slice (some ⟨g5, 0, none⟩) z c5) rfl rfl (by kernel_rfl) (by kernel_rfl) (by kernel_rfl) (fun _ _ _ h => h) (Or.inl ⟨by rfl, fun w' h' => ?_⟩) hS ?_
  · go_simp
  try simp only [Act.put, List.setIfInBounds_toArray, List.set_cons_zero, List.set_cons_succ]
  refine tk 1 231 (.int .i64 (j : Int)) rfl rfl (by kernel_rfl) (by kernel_rfl) (by kernel_rfl) (fun _ _ _ h => h) (Or.inl ⟨by rfl, fun w' h' => ?_⟩) hS ?_
  · go_simp
  try simp only [Act.put, List.setIfInBounds_toArray, List.set_cons_zero, List.set_cons_succ]
  refine tk 2 232 (.pointer (some ⟨g5, j, none⟩)) rfl rfl (by kernel_rfl) (by kernel_rfl) (by kernel_rfl) (fun _ _ _ h => h) (Or.inl ⟨by rfl, fun w' h' => ?_⟩) hS ?_
  · go_simp
  try simp only [Act.put, List.setIfInBounds_toArray, List.set_cons_zero, List.set_cons_succ]
  refine tk 3 233 (.int .u8 (C.getD j 0)) rfl rfl (by kernel_rfl) (by kernel_rfl) (by kernel_rfl) (fun _ _ _ h => h) (Or.inl ⟨by rfl, fun w' h' => ?_⟩) hS ?_
  · have x1 := Own.cell (h'.ok (.row (some ⟨g5, 0, none⟩) z c5 C) (by simp)) hlt.out
    go_simp
  try simp only [Act.put, List.setIfInBounds_toArray, List.set_cons_zero, List.set_cons_succ]
  refine tk 4 234 (.slice (some ⟨g1, 0, none⟩) z c1) rfl rfl (by kernel_rfl) (by kernel_rfl) (by kernel_rfl) (fun _ _ _ h => h) (Or.inl ⟨by rfl, fun w' h' => ?_⟩) hS ?_
  · go_simp
  try simp only [Act.put, List.setIfInBounds_toArray, List.set_cons_zero, List.set_cons_succ]
  refine tk 5 235 (.int .i64 (j : Int)) rfl rfl (by kernel_rfl) (by kernel_rfl) (by kernel_rfl) (fun _ _ _ h => h) (Or.inl ⟨by rfl, fun w' h' => ?_⟩) hS ?_
  · go_simp
  try simp only [Act.put, List.setIfInBounds_toArray, List.set_cons_zero, List.set_cons_succ]
  refine tk 6 236 (.pointer (some ⟨g1, j, none⟩)) rfl rfl (by kernel_rfl) (by kernel_rfl) (by kernel_rfl) (fun _ _ _ h => h) (Or.inl ⟨by rfl, fun w' h' => ?_⟩) hS ?_
  · go_simp
  try simp only [Act.put, List.setIfInBounds_toArray, List.set_cons_zero, List.set_cons_succ]
  refine tk 7 237 (.int .u8 (d0.getD j 0)) rfl rfl (by kernel_rfl) (by kernel_rfl) (by kernel_rfl) (fun _ _ _ h => h) (Or.inl ⟨by rfl, fun w' h' => ?_⟩) hS ?_
  · have x1 := Own.cell (h'.ok (.row (some ⟨g1, 0, none⟩) z c1 d0) (by simp)) hlt.out
    go_simp
  try simp only [Act.put, List.setIfInBounds_toArray, List.set_cons_zero, List.set_cons_succ]
  refine tk 8 238 (.bool (decide (C.getD j 0 = d0.getD j 0))) rfl rfl (by kernel_rfl) (by kernel_rfl) (by kernel_rfl) (fun _ _ _ h => h) (Or.inl ⟨by rfl, fun w' h' => ?_⟩) hS ?_
  · (go_simp; rfl)
  try simp only [Act.put, List.setIfInBounds_toArray, List.set_cons_zero, List.set_cons_succ]
  refine tk 9 36 (.bool (decide (C.getD j 0 = d0.getD j 0))) rfl rfl (by kernel_rfl) (by kernel_rfl) (by kernel_rfl) (fun _ _ _ h => h) (Or.inl ⟨by rfl, fun w' h' => ?_⟩) hS ?_
  · go_simp
  refine wpAnyH_done (by kernel_rfl) ?_ _
  go_wp2_with fail
  refine Met.intro (hJ0 _ _ ?_)
  exact ⟨⟨rfl, rfl⟩, rfl, rfl, rfl, rfl, rfl, rfl, by rw [mayV_zero]; rfl, HMd.out⟩

set_option maxRecDepth 100000 in
set_option maxHeartbeats 4000000 in
theorem k47 (z : Nat) (d0 : List Int) (ws : List (Int × List Int)) (C : List Int) (c1 : Nat) (ua : Option Addr) (uc : Nat) (UL : List Uw) (gt : Nat) (c5 : Nat) (j : Nat) (g5 : Nat) (g1 : Nat) (w46 : World) (a : Act) (hf : Fr 301 a) (h0 : sl a 0 = .int .i64 (z : Int)) (h19 : sl a 19 = .slice (some ⟨g1, 0, none⟩) z c1) (h23 : sl a 23 = .slice ua UL.length uc) (h26 : sl a 26 = .pointer (some ⟨gt, 0, none⟩)) (h33 : sl a 33 = .slice (some ⟨g5, 0, none⟩) z c5) (h35 : sl a 35 = .int .i64 (j : Int)) (h36 : sl a 36 = .bool (mayV C d0 ws j 0)) :
    Code.wp Try.prog (cAt [1,1,1,1,1,1,1,1,1,1,1,1,1,1,1,1,1,1,1,1,0,1,2,2,1,0,2,1,0,0] KDK) (Exit.then (fun a' w' => Fr 301 a' ∧ sl a' 0 = .int .i64 (z : Int) ∧ sl a' 19 = .slice (some ⟨g1, 0, none⟩) z c1 ∧ sl a' 23 = .slice ua UL.length uc ∧ sl a' 26 = .pointer (some ⟨gt, 0, none⟩) ∧ sl a' 33 = .slice (some ⟨g5, 0, none⟩) z c5 ∧ sl a' 35 = .int .i64 (j : Int) ∧ sl a' 36 = .bool (mayV C d0 ws j 0) ∧ sl a' 37 = .int .i64 0 ∧ w46 = w') Nope) a w46 := by
  obtain ⟨f, ha, hs⟩ := frKDK hf
  have e0 := (hs 0).trans h0
  have e19 := (hs 19).trans h19
  have e23 := (hs 23).trans h23
  have e26 := (hs 26).trans h26
  have e33 := (hs 33).trans h33
  have e35 := (hs 35).trans h35
  have e36 := (hs 36).trans h36
  rw [e0, e19, e23, e26, e33, e35, e36] at ha
  clear hs hf e0 h0 e19 h19 e23 h23 e26 h26 e33 h33 e35 h35 e36 h36
  subst ha
  refine piece2 fun J0 K0 hJ0 hK0 => ?_
  conv => arg 2; whnf
  go_wp2_with fail
  refine Met.intro (hJ0 _ _ ?_)
  exact ⟨⟨rfl, rfl⟩, rfl, rfl, rfl, rfl, rfl, rfl, rfl, rfl, rfl⟩

set_option maxRecDepth 100000 in
set_option maxHeartbeats 4000000 in
theorem k48x (z : Nat) (d0 : List Int) (ws : List (Int × List Int)) (C : List Int) (c1 : Nat) (ua : Option Addr) (uc : Nat) (UL : List Uw) (gt : Nat) (c5 : Nat) (j : Nat) (g5 : Nat) (g1 : Nat) (wq : World) (q : Nat) (hlq : Hid (¬ q < UL.length)) (a : Act) (hf : Fr 301 a) (h0 : sl a 0 = .int .i64 (z : Int)) (h19 : sl a 19 = .slice (some ⟨g1, 0, none⟩) z c1) (h23 : sl a 23 = .slice ua UL.length uc) (h26 : sl a 26 = .pointer (some ⟨gt, 0, none⟩)) (h33 : sl a 33 = .slice (some ⟨g5, 0, none⟩) z c5) (h35 : sl a 35 = .int .i64 (j : Int)) (h36 : sl a 36 = .bool (mayV C d0 ws j q)) (h37 : sl a 37 = .int .i64 (q : Int)) :
    Code.wp Try.prog (cAt [1,1,1,1,1,1,1,1,1,1,1,1,1,1,1,1,1,1,1,1,0,1,2,2,1,0,2,1,0,1,2,2] KDK) (Outs 7 (fun a' w' => Fr 301 a' ∧ sl a' 0 = .int .i64 (z : Int) ∧ sl a' 19 = .slice (some ⟨g1, 0, none⟩) z c1 ∧ sl a' 23 = .slice ua UL.length uc ∧ sl a' 26 = .pointer (some ⟨gt, 0, none⟩) ∧ sl a' 33 = .slice (some ⟨g5, 0, none⟩) z c5 ∧ sl a' 35 = .int .i64 (j : Int) ∧ sl a' 36 = .bool (mayV C d0 ws j q) ∧ wq = w')) a wq := by
  obtain ⟨f, ha, hs⟩ := frKDK hf
  have e0 := (hs 0).trans h0
  have e19 := (hs 19).trans h19
  have e23 := (hs 23).trans h23
  have e26 := (hs 26).trans h26
  have e33 := (hs 33).trans h33
  have e35 := (hs 35).trans h35
  have e36 := (hs 36).trans h36
  have e37 := (hs 37).trans h37
  rw [e0, e19, e23, e26, e33, e35, e36, e37] at ha
  clear hs hf e0 h0 e19 h19 e23 h23 e26 h26 e33 h33 e35 h35 e36 h36 e37 h37
  subst ha
  conv => arg 2; whnf
  have hi2 : ¬ (q : Int) < (UL.length : Int) := by have := hlq.out; omega
  go_wp2_with fail
  exact ⟨rfl, ⟨rfl, rfl⟩, rfl, rfl, rfl, rfl, rfl, rfl, rfl, rfl⟩

set_option maxRecDepth 100000 in
set_option maxHeartbeats 4000000 in
theorem k48 (z : Nat) (d0 : List Int) (ws : List (Int × List Int)) (C : List Int) (c1 : Nat) (ua : Option Addr) (uc : Nat) (UL : List Uw) (gt : Nat) (c5 : Nat) (j : Nat) (g5 : Nat) (g1 : Nat) (wq : World) (q : Nat) (hlq : Hid (q < UL.length)) (a : Act) (hf : Fr 301 a) (h0 : sl a 0 = .int .i64 (z : Int)) (h19 : sl a 19 = .slice (some ⟨g1, 0, none⟩) z c1) (h23 : sl a 23 = .slice ua UL.length uc) (h26 : sl a 26 = .pointer (some ⟨gt, 0, none⟩)) (h33 : sl a 33 = .slice (some ⟨g5, 0, none⟩) z c5) (h35 : sl a 35 = .int .i64 (j : Int)) (h36 : sl a 36 = .bool (mayV C d0 ws j q)) (h37 : sl a 37 = .int .i64 (q : Int)) :
    Code.wp Try.prog (cAt [1,1,1,1,1,1,1,1,1,1,1,1,1,1,1,1,1,1,1,1,0,1,2,2,1,0,2,1,0,1,2,2,0] KDK) (Exit.then (fun a' w' => Fr 301 a' ∧ sl a' 0 = .int .i64 (z : Int) ∧ sl a' 19 = .slice (some ⟨g1, 0, none⟩) z c1 ∧ sl a' 23 = .slice ua UL.length uc ∧ sl a' 26 = .pointer (some ⟨gt, 0, none⟩) ∧ sl a' 33 = .slice (some ⟨g5, 0, none⟩) z c5 ∧ sl a' 35 = .int .i64 (j : Int) ∧ sl a' 36 = .bool (mayV C d0 ws j q) ∧ sl a' 37 = .int .i64 (q : Int) ∧ wq = w') Nope) a wq := by
  obtain ⟨f, ha, hs⟩ := frKDK hf
  have e0 := (hs 0).trans h0
  have e19 := (hs 19).trans h19
  have e23 := (hs 23).trans h23
  have e26 := (hs 26).trans h26
  have e33 := (hs 33).trans h33
  have e35 := (hs 35).trans h35
  have e36 := (hs 36).trans h36
  have e37 := (hs 37).trans h37
  rw [e0, e19, e23, e26, e33, e35, e36, e37] at ha
  clear hs hf e0 h0 e19 h19 e23 h23 e26 h26 e33 h33 e35 h35 e36 h36 e37 h37
  subst ha
  refine piece2 fun J0 K0 hJ0 hK0 => ?_
  conv => arg 2; whnf
  have hi2 : (q : Int) < (UL.length : Int) := by have := hlq.out; omega
  go_wp2_with fail
  refine Met.intro (hJ0 _ _ ?_)
  exact ⟨⟨rfl, rfl⟩, rfl, rfl, rfl, rfl, rfl, rfl, rfl, rfl, rfl⟩

set_option maxRecDepth 100000 in
set_option maxHeartbeats 4000000 in
theorem k50_4 (w : World) (z : Nat) (_h : Nat) (d0 : List Int) (C : List Int) (c1 : Nat) (uc : Nat) (UL : List Uw) (gt : Nat) (kt' : Dk) (c5 : Nat) (j : Nat) (g5 : Nat) (g1 : Nat) (gu : Nat) (hlt : Hid (j < z)) (wq : World) (q : Nat) (HMQ : Hid (Ms w wq [.row (some ⟨g5, 0, none⟩) z c5 C, .row (some ⟨g1, 0, none⟩) z c1 d0, .wts (some ⟨gu, 0, none⟩) uc UL, .disk gt kt'])) (hlq : Hid (q < UL.length)) (x : Uw) (hx : Hid (UL[q]? = some x)) (_HXD : Hid (Own wq w.heap.size x.a x.n x.c x.d)) (HAT : Hid (0 ≤ x.at_ ∧ x.at_ + x.n ≤ 65536)) (hge : Hid (x.at_ ≤ (j : Int))) (hls : Hid ((j : Int) < x.at_ + x.n)) (t : Nat) (gx : Nat) (ht : Hid ((j : Int) - x.at_ = (t : Int))) (htn : Hid (t < x.n)) (HGX : Hid (x.a = some ⟨gx, 0, none⟩ ∧ True)) (HGC : Hid (∀ w' : World, Ms w w' [.row (some ⟨g5, 0, none⟩) z c5 C, .row (some ⟨g1, 0, none⟩) z c1 d0, .wts (some ⟨gu, 0, none⟩) uc UL, .disk gt kt'] → w'.cell? ⟨gx, t, none⟩ = some (.int .u8 (x.d.getD t 0)))) (a : Act) (hf : Fr 301 a) (h0 : sl a 0 = .int .i64 (z : Int)) (h19 : sl a 19 = .slice (some ⟨g1, 0, none⟩) z c1) (h23 : sl a 23 = .slice (some ⟨gu, 0, none⟩) UL.length uc) (h26 : sl a 26 = .pointer (some ⟨gt, 0, none⟩)) (h33 : sl a 33 = .slice (some ⟨g5, 0, none⟩) z c5) (h35 : sl a 35 = .int .i64 (j : Int)) (h36 : sl a 36 = .bool false) (h37 : sl a 37 = .int .i64 (q : Int)) :
    Code.wp Try.prog (cAt [1,1,1,1,1,1,1,1,1,1,1,1,1,1,1,1,1,1,1,1,0,1,2,2,1,0,2,1,0,1,2,2,1,0,2] KDK) (Exit.then (fun a' w' => Fr 301 a' ∧ sl a' 0 = .int .i64 (z : Int) ∧ sl a' 19 = .slice (some ⟨g1, 0, none⟩) z c1 ∧ sl a' 23 = .slice (some ⟨gu, 0, none⟩) UL.length uc ∧ sl a' 26 = .pointer (some ⟨gt, 0, none⟩) ∧ sl a' 33 = .slice (some ⟨g5, 0, none⟩) z c5 ∧ sl a' 35 = .int .i64 (j : Int) ∧ sl a' 36 = .bool (decide (x.d.getD t 0 = C.getD j 0)) ∧ sl a' 37 = .int .i64 (q : Int) ∧ Ms w w' [.row (some ⟨g5, 0, none⟩) z c5 C, .row (some ⟨g1, 0, none⟩) z c1 d0, .wts (some ⟨gu, 0, none⟩) uc UL, .disk gt kt']) Nope) a wq := by
  obtain ⟨f, ha, hs⟩ := frKDK hf
  have e0 := (hs 0).trans h0
  have e19 := (hs 19).trans h19
  have e23 := (hs 23).trans h23
  have e26 := (hs 26).trans h26
  have e33 := (hs 33).trans h33
  have e35 := (hs 35).trans h35
  have e36 := (hs 36).trans h36
  have e37 := (hs 37).trans h37
  rw [e0, e19, e23, e26, e33, e35, e36, e37] at ha
  clear hs hf e0 h0 e19 h19 e23 h23 e26 h26 e33 h33 e35 h35 e36 h36 e37 h37
  subst ha
  refine piece2 fun J0 K0 hJ0 hK0 => ?_
  conv => arg 2; whnf
  have HMd : Hid (Ms w wq.drew [.row (some ⟨g5, 0, none⟩) z c5 C, .row (some ⟨g1, 0, none⟩) z c1 d0, .wts (some ⟨gu, 0, none⟩) uc UL, .disk gt kt']) := HMQ.out.past (Below.refl _ _).drew
  have hq2 : (q : Int) < (UL.length : Int) := by have := hlq.out; omega
  have hq0 : (0 : Int) ≤ (q : Int) := by omega
  have hj2 : (j : Int) < (z : Int) := by have := hlt.out; omega
  have hj0 : (0 : Int) ≤ (j : Int) := by omega
  have hatl := HAT.out
  have hw1 : IntKind.i64.wrap (x.at_ + x.n) = x.at_ + x.n := by rw [IntKind.wrap_i64]; omega
  have ht1 := ht.out
  have hg1 := hge.out
  have hl1 := hls.out
  have ht2 : (t : Int) < (x.n : Int) := by have := htn.out; omega
  have ht0 : (0 : Int) ≤ (t : Int) := by omega
  have hw2 : IntKind.i64.wrap (t : Int) = (t : Int) := by rw [IntKind.wrap_i64]; omega
  refine wp_region_held_drew (S := fun w' => Ms w w' [.row (some ⟨g5, 0, none⟩) z c5 C, .row (some ⟨g1, 0, none⟩) z c1 d0, .wts (some ⟨gu, 0, none⟩) uc UL, .disk gt kt']) (by kernel_rfl) HMd.out (fun hS => ?_)
  refine tk 0 245 (.bool false) rfl rfl (by kernel_rfl) (by kernel_rfl) (by kernel_rfl) (fun _ _ _ h => h) (Or.inl ⟨by rfl, fun w' h' => ?_⟩) hS ?_
  · go_simp
  try simp only [Act.put, List.setIfInBounds_toArray, List.set_cons_zero, List.set_cons_succ]
  refine tk 1 246 (.bool false) rfl rfl (by kernel_rfl) (by kernel_rfl) (by kernel_rfl) (fun _ _ _ h => h) (Or.inl ⟨by rfl, fun w' h' => ?_⟩) hS ?_
  · go_simp
  try simp only [Act.put, List.setIfInBounds_toArray, List.set_cons_zero, List.set_cons_succ]
  refine tk 2 247 (.int .i64 (j : Int)) rfl rfl (by kernel_rfl) (by kernel_rfl) (by kernel_rfl) (fun _ _ _ h => h) (Or.inl ⟨by rfl, fun w' h' => ?_⟩) hS ?_
  · go_simp
  try simp only [Act.put, List.setIfInBounds_toArray, List.set_cons_zero, List.set_cons_succ]
  refine tk 3 248 (.slice (some ⟨gu, 0, none⟩) (UL.length) uc) rfl rfl (by kernel_rfl) (by kernel_rfl) (by kernel_rfl) (fun _ _ _ h => h) (Or.inl ⟨by rfl, fun w' h' => ?_⟩) hS ?_
  · go_simp
  try simp only [Act.put, List.setIfInBounds_toArray, List.set_cons_zero, List.set_cons_succ]
  refine tk 4 249 (.int .i64 (q : Int)) rfl rfl (by kernel_rfl) (by kernel_rfl) (by kernel_rfl) (fun _ _ _ h => h) (Or.inl ⟨by rfl, fun w' h' => ?_⟩) hS ?_
  · go_simp
  try simp only [Act.put, List.setIfInBounds_toArray, List.set_cons_zero, List.set_cons_succ]
  refine tk 5 250 (.pointer (some ⟨gu, q * 2, none⟩)) rfl rfl (by kernel_rfl) (by kernel_rfl) (by kernel_rfl) (fun _ _ _ h => h) (Or.inl ⟨by rfl, fun w' h' => ?_⟩) hS ?_
  · go_simp
  try simp only [Act.put, List.setIfInBounds_toArray, List.set_cons_zero, List.set_cons_succ]
  refine tk 6 251 (.pointer (some ⟨gu, q * 2, none⟩)) rfl rfl (by kernel_rfl) (by kernel_rfl) (by kernel_rfl) (fun _ _ _ h => h) (Or.inl ⟨by rfl, fun w' h' => ?_⟩) hS ?_
  · go_simp
  try simp only [Act.put, List.setIfInBounds_toArray, List.set_cons_zero, List.set_cons_succ]
  refine tk 7 252 (.int .i64 x.at_) rfl rfl (by kernel_rfl) (by kernel_rfl) (by kernel_rfl) (fun _ _ _ h => h) (Or.inl ⟨by rfl, fun w' h' => ?_⟩) hS ?_
  · have x1 := Uws.cells (h'.ok (.wts (some ⟨gu, 0, none⟩) uc UL) (by simp)) hx.out
    have x2 := x1.1
    have x3 := x1.2
    clear x1
    go_simp
  try simp only [Act.put, List.setIfInBounds_toArray, List.set_cons_zero, List.set_cons_succ]
  refine tk 8 253 (.bool true) rfl rfl (by kernel_rfl) (by kernel_rfl) (by kernel_rfl) (fun _ _ _ h => h) (Or.inl ⟨by rfl, fun w' h' => ?_⟩) hS ?_
  · go_simp
  try simp only [Act.put, List.setIfInBounds_toArray, List.set_cons_zero, List.set_cons_succ]
  refine tk 9 254 (.bool true) rfl rfl (by kernel_rfl) (by kernel_rfl) (by kernel_rfl) (fun _ _ _ h => h) (Or.inl ⟨by rfl, fun w' h' => ?_⟩) hS ?_
  · go_simp
  try simp only [Act.put, List.setIfInBounds_toArray, List.set_cons_zero, List.set_cons_succ]
  refine tk 10 255 (.int .i64 (j : Int)) rfl rfl (by kernel_rfl) (by kernel_rfl) (by kernel_rfl) (fun _ _ _ h => h) (Or.inl ⟨by rfl, fun w' h' => ?_⟩) hS ?_
  · go_simp
  try simp only [Act.put, List.setIfInBounds_toArray, List.set_cons_zero, List.set_cons_succ]
  refine tk 11 256 (.slice (some ⟨gu, 0, none⟩) (UL.length) uc) rfl rfl (by kernel_rfl) (by kernel_rfl) (by kernel_rfl) (fun _ _ _ h => h) (Or.inl ⟨by rfl, fun w' h' => ?_⟩) hS ?_
  · go_simp
  try simp only [Act.put, List.setIfInBounds_toArray, List.set_cons_zero, List.set_cons_succ]
  refine tk 12 257 (.int .i64 (q : Int)) rfl rfl (by kernel_rfl) (by kernel_rfl) (by kernel_rfl) (fun _ _ _ h => h) (Or.inl ⟨by rfl, fun w' h' => ?_⟩) hS ?_
  · go_simp
  try simp only [Act.put, List.setIfInBounds_toArray, List.set_cons_zero, List.set_cons_succ]
  refine tk 13 258 (.pointer (some ⟨gu, q * 2, none⟩)) rfl rfl (by kernel_rfl) (by kernel_rfl) (by kernel_rfl) (fun _ _ _ h => h) (Or.inl ⟨by rfl, fun w' h' => ?_⟩) hS ?_
  · go_simp
  try simp only [Act.put, List.setIfInBounds_toArray, List.set_cons_zero, List.set_cons_succ]
  refine tk 14 259 (.pointer (some ⟨gu, q * 2, none⟩)) rfl rfl (by kernel_rfl) (by kernel_rfl) (by kernel_rfl) (fun _ _ _ h => h) (Or.inl ⟨by rfl, fun w' h' => ?_⟩) hS ?_
  · go_simp
  try simp only [Act.put, List.setIfInBounds_toArray, List.set_cons_zero, List.set_cons_succ]
  refine tk 15 260 (.int .i64 x.at_) rfl rfl (by kernel_rfl) (by kernel_rfl) (by kernel_rfl) (fun _ _ _ h => h) (Or.inl ⟨by rfl, fun w' h' => ?_⟩) hS ?_
  · have x1 := Uws.cells (h'.ok (.wts (some ⟨gu, 0, none⟩) uc UL) (by simp)) hx.out
    have x2 := x1.1
    have x3 := x1.2
    clear x1
    go_simp
  try simp only [Act.put, List.setIfInBounds_toArray, List.set_cons_zero, List.set_cons_succ]
  refine tk 16 261 (.slice (some ⟨gu, 0, none⟩) (UL.length) uc) rfl rfl (by kernel_rfl) (by kernel_rfl) (by kernel_rfl) (fun _ _ _ h => h) (Or.inl ⟨by rfl, fun w' h' => ?_⟩) hS ?_
  · go_simp
  try simp only [Act.put, List.setIfInBounds_toArray, List.set_cons_zero, List.set_cons_succ]
  refine tk 17 262 (.int .i64 (q : Int)) rfl rfl (by kernel_rfl) (by kernel_rfl) (by kernel_rfl) (fun _ _ _ h => h) (Or.inl ⟨by rfl, fun w' h' => ?_⟩) hS ?_
  · go_simp
  try simp only [Act.put, List.setIfInBounds_toArray, List.set_cons_zero, List.set_cons_succ]
  refine tk 18 263 (.pointer (some ⟨gu, q * 2, none⟩)) rfl rfl (by kernel_rfl) (by kernel_rfl) (by kernel_rfl) (fun _ _ _ h => h) (Or.inl ⟨by rfl, fun w' h' => ?_⟩) hS ?_
  · go_simp
  try simp only [Act.put, List.setIfInBounds_toArray, List.set_cons_zero, List.set_cons_succ]
  refine tk 19 264 (.pointer (some ⟨gu, q * 2 + 1, none⟩)) rfl rfl (by kernel_rfl) (by kernel_rfl) (by kernel_rfl) (fun _ _ _ h => h) (Or.inl ⟨by rfl, fun w' h' => ?_⟩) hS ?_
  · go_simp
  try simp only [Act.put, List.setIfInBounds_toArray, List.set_cons_zero, List.set_cons_succ]
  refine tk 20 265 (.slice (some ⟨gx, 0, none⟩) x.n x.c) rfl rfl (by kernel_rfl) (by kernel_rfl) (by kernel_rfl) (fun _ _ _ h => h) (Or.inl ⟨by rfl, fun w' h' => ?_⟩) hS ?_
  · have x1 := Uws.cells (h'.ok (.wts (some ⟨gu, 0, none⟩) uc UL) (by simp)) hx.out
    have x2 := x1.1
    have x3 := x1.2
    clear x1
    rw [HGX.out.1] at x3
    go_simp
  try simp only [Act.put, List.setIfInBounds_toArray, List.set_cons_zero, List.set_cons_succ]
  refine tk 21 266 (.int .i64 (x.n : Int)) rfl rfl (by kernel_rfl) (by kernel_rfl) (by kernel_rfl) (fun _ _ _ h => h) (Or.inl ⟨by rfl, fun w' h' => ?_⟩) hS ?_
  · go_simp
  try simp only [Act.put, List.setIfInBounds_toArray, List.set_cons_zero, List.set_cons_succ]
  refine tk 22 267 (.int .i64 (x.at_ + x.n)) rfl rfl (by kernel_rfl) (by kernel_rfl) (by kernel_rfl) (fun _ _ _ h => h) (Or.inl ⟨by rfl, fun w' h' => ?_⟩) hS ?_
  · go_simp
  try simp only [Act.put, List.setIfInBounds_toArray, List.set_cons_zero, List.set_cons_succ]
  refine tk 23 268 (.bool true) rfl rfl (by kernel_rfl) (by kernel_rfl) (by kernel_rfl) (fun _ _ _ h => h) (Or.inl ⟨by rfl, fun w' h' => ?_⟩) hS ?_
  · go_simp
  try simp only [Act.put, List.setIfInBounds_toArray, List.set_cons_zero, List.set_cons_succ]
  refine tk 24 269 (.bool true) rfl rfl (by kernel_rfl) (by kernel_rfl) (by kernel_rfl) (fun _ _ _ h => h) (Or.inl ⟨by rfl, fun w' h' => ?_⟩) hS ?_
  · go_simp
  try simp only [Act.put, List.setIfInBounds_toArray, List.set_cons_zero, List.set_cons_succ]
  refine tk 25 270 (.bool true) rfl rfl (by kernel_rfl) (by kernel_rfl) (by kernel_rfl) (fun _ _ _ h => h) (Or.inl ⟨by rfl, fun w' h' => ?_⟩) hS ?_
  · go_simp
  try simp only [Act.put, List.setIfInBounds_toArray, List.set_cons_zero, List.set_cons_succ]
  refine tk 26 271 (.slice (some ⟨gu, 0, none⟩) (UL.length) uc) rfl rfl (by kernel_rfl) (by kernel_rfl) (by kernel_rfl) (fun _ _ _ h => h) (Or.inl ⟨by rfl, fun w' h' => ?_⟩) hS ?_
  · go_simp
  try simp only [Act.put, List.setIfInBounds_toArray, List.set_cons_zero, List.set_cons_succ]
  refine tk 27 272 (.int .i64 (q : Int)) rfl rfl (by kernel_rfl) (by kernel_rfl) (by kernel_rfl) (fun _ _ _ h => h) (Or.inl ⟨by rfl, fun w' h' => ?_⟩) hS ?_
  · go_simp
  try simp only [Act.put, List.setIfInBounds_toArray, List.set_cons_zero, List.set_cons_succ]
  refine tk 28 273 (.pointer (some ⟨gu, q * 2, none⟩)) rfl rfl (by kernel_rfl) (by kernel_rfl) (by kernel_rfl) (fun _ _ _ h => h) (Or.inl ⟨by rfl, fun w' h' => ?_⟩) hS ?_
  · go_simp
  try simp only [Act.put, List.setIfInBounds_toArray, List.set_cons_zero, List.set_cons_succ]
  refine tk 29 274 (.pointer (some ⟨gu, q * 2 + 1, none⟩)) rfl rfl (by kernel_rfl) (by kernel_rfl) (by kernel_rfl) (fun _ _ _ h => h) (Or.inl ⟨by rfl, fun w' h' => ?_⟩) hS ?_
  · go_simp
  try simp only [Act.put, List.setIfInBounds_toArray, List.set_cons_zero, List.set_cons_succ]
  refine tk 30 275 (.slice (some ⟨gx, 0, none⟩) x.n x.c) rfl rfl (by kernel_rfl) (by kernel_rfl) (by kernel_rfl) (fun _ _ _ h => h) (Or.inl ⟨by rfl, fun w' h' => ?_⟩) hS ?_
  · have x1 := Uws.cells (h'.ok (.wts (some ⟨gu, 0, none⟩) uc UL) (by simp)) hx.out
    have x2 := x1.1
    have x3 := x1.2
    clear x1
    rw [HGX.out.1] at x3
    go_simp
  try simp only [Act.put, List.setIfInBounds_toArray, List.set_cons_zero, List.set_cons_succ]
  refine tk 31 276 (.int .i64 (j : Int)) rfl rfl (by kernel_rfl) (by kernel_rfl) (by kernel_rfl) (fun _ _ _ h => h) (Or.inl ⟨by rfl, fun w' h' => ?_⟩) hS ?_
  · go_simp
  try simp only [Act.put, List.setIfInBounds_toArray, List.set_cons_zero, List.set_cons_succ]
  refine tk 32 277 (.slice (some ⟨gu, 0, none⟩) (UL.length) uc) rfl rfl (by kernel_rfl) (by kernel_rfl) (by kernel_rfl) (fun _ _ _ h => h) (Or.inl ⟨by rfl, fun w' h' => ?_⟩) hS ?_
  · go_simp
  try simp only [Act.put, List.setIfInBounds_toArray, List.set_cons_zero, List.set_cons_succ]
  refine tk 33 278 (.int .i64 (q : Int)) rfl rfl (by kernel_rfl) (by kernel_rfl) (by kernel_rfl) (fun _ _ _ h => h) (Or.inl ⟨by rfl, fun w' h' => ?_⟩) hS ?_
  · go_simp
  try simp only [Act.put, List.setIfInBounds_toArray, List.set_cons_zero, List.set_cons_succ]
  refine tk 34 279 (.pointer (some ⟨gu, q * 2, none⟩)) rfl rfl (by kernel_rfl) (by kernel_rfl) (by kernel_rfl) (fun _ _ _ h => h) (Or.inl ⟨by rfl, fun w' h' => ?_⟩) hS ?_
  · go_simp
  try simp only [Act.put, List.setIfInBounds_toArray, List.set_cons_zero, List.set_cons_succ]
  refine tk 35 280 (.pointer (some ⟨gu, q * 2, none⟩)) rfl rfl (by kernel_rfl) (by kernel_rfl) (by kernel_rfl) (fun _ _ _ h => h) (Or.inl ⟨by rfl, fun w' h' => ?_⟩) hS ?_
  · go_simp
  try simp only [Act.put, List.setIfInBounds_toArray, List.set_cons_zero, List.set_cons_succ]
  refine tk 36 281 (.int .i64 x.at_) rfl rfl (by kernel_rfl) (by kernel_rfl) (by kernel_rfl) (fun _ _ _ h => h) (Or.inl ⟨by rfl, fun w' h' => ?_⟩) hS ?_
  · have x1 := Uws.cells (h'.ok (.wts (some ⟨gu, 0, none⟩) uc UL) (by simp)) hx.out
    have x2 := x1.1
    have x3 := x1.2
    clear x1
    go_simp
  try simp only [Act.put, List.setIfInBounds_toArray, List.set_cons_zero, List.set_cons_succ]
  refine tk 37 282 (.int .i64 (t : Int)) rfl rfl (by kernel_rfl) (by kernel_rfl) (by kernel_rfl) (fun _ _ _ h => h) (Or.inl ⟨by rfl, fun w' h' => ?_⟩) hS ?_
  · go_simp
  try simp only [Act.put, List.setIfInBounds_toArray, List.set_cons_zero, List.set_cons_succ]
  refine tk 38 283 (.pointer (some ⟨gx, t, none⟩)) rfl rfl (by kernel_rfl) (by kernel_rfl) (by kernel_rfl) (fun _ _ _ h => h) (Or.inl ⟨by rfl, fun w' h' => ?_⟩) hS ?_
  · go_simp
  try simp only [Act.put, List.setIfInBounds_toArray, List.set_cons_zero, List.set_cons_succ]
  refine tk 39 284 (.int .u8 (x.d.getD t 0)) rfl rfl (by kernel_rfl) (by kernel_rfl) (by kernel_rfl) (fun _ _ _ h => h) (Or.inl ⟨by rfl, fun w' h' => ?_⟩) hS ?_
  · have x1 := HGC.out w' h'
    go_simp
  try simp only [Act.put, List.setIfInBounds_toArray, List.set_cons_zero, List.set_cons_succ]
  refine tk 40 285 (.slice (some ⟨g5, 0, none⟩) z c5) rfl rfl (by kernel_rfl) (by kernel_rfl) (by kernel_rfl) (fun _ _ _ h => h) (Or.inl ⟨by rfl, fun w' h' => ?_⟩) hS ?_
  · go_simp
  try simp only [Act.put, List.setIfInBounds_toArray, List.set_cons_zero, List.set_cons_succ]
  refine tk 41 286 (.int .i64 (j : Int)) rfl rfl (by kernel_rfl) (by kernel_rfl) (by kernel_rfl) (fun _ _ _ h => h) (Or.inl ⟨by rfl, fun w' h' => ?_⟩) hS ?_
  · go_simp
  try simp only [Act.put, List.setIfInBounds_toArray, List.set_cons_zero, List.set_cons_succ]
  refine tk 42 287 (.pointer (some ⟨g5, j, none⟩)) rfl rfl (by kernel_rfl) (by kernel_rfl) (by kernel_rfl) (fun _ _ _ h => h) (Or.inl ⟨by rfl, fun w' h' => ?_⟩) hS ?_
  · go_simp
  try simp only [Act.put, List.setIfInBounds_toArray, List.set_cons_zero, List.set_cons_succ]
  refine tk 43 288 (.int .u8 (C.getD j 0)) rfl rfl (by kernel_rfl) (by kernel_rfl) (by kernel_rfl) (fun _ _ _ h => h) (Or.inl ⟨by rfl, fun w' h' => ?_⟩) hS ?_
  · have x1 := Own.cell (h'.ok (.row (some ⟨g5, 0, none⟩) z c5 C) (by simp)) hlt.out
    go_simp
  try simp only [Act.put, List.setIfInBounds_toArray, List.set_cons_zero, List.set_cons_succ]
  refine tk 44 289 (.bool (decide (x.d.getD t 0 = C.getD j 0))) rfl rfl (by kernel_rfl) (by kernel_rfl) (by kernel_rfl) (fun _ _ _ h => h) (Or.inl ⟨by rfl, fun w' h' => ?_⟩) hS ?_
  · (go_simp; rfl)
  try simp only [Act.put, List.setIfInBounds_toArray, List.set_cons_zero, List.set_cons_succ]
  refine tk 45 290 (.bool (decide (x.d.getD t 0 = C.getD j 0))) rfl rfl (by kernel_rfl) (by kernel_rfl) (by kernel_rfl) (fun _ _ _ h => h) (Or.inl ⟨by rfl, fun w' h' => ?_⟩) hS ?_
  · go_simp
  try simp only [Act.put, List.setIfInBounds_toArray, List.set_cons_zero, List.set_cons_succ]
  refine tk 46 291 (.bool (decide (x.d.getD t 0 = C.getD j 0))) rfl rfl (by kernel_rfl) (by kernel_rfl) (by kernel_rfl) (fun _ _ _ h => h) (Or.inl ⟨by rfl, fun w' h' => ?_⟩) hS ?_
  · go_simp
  try simp only [Act.put, List.setIfInBounds_toArray, List.set_cons_zero, List.set_cons_succ]
  refine tk 47 36 (.bool (decide (x.d.getD t 0 = C.getD j 0))) rfl rfl (by kernel_rfl) (by kernel_rfl) (by kernel_rfl) (fun _ _ _ h => h) (Or.inl ⟨by rfl, fun w' h' => ?_⟩) hS ?_
  · go_simp
  refine wpAnyH_done (by kernel_rfl) ?_ _
  go_wp2_with fail
  refine Met.intro (hJ0 _ _ ?_)
  exact ⟨⟨rfl, rfl⟩, rfl, rfl, rfl, rfl, rfl, rfl, rfl, rfl, HMd.out⟩

set_option maxRecDepth 100000 in
set_option maxHeartbeats 4000000 in
theorem k50_3 (w : World) (z : Nat) (_h : Nat) (d0 : List Int) (C : List Int) (c1 : Nat) (uc : Nat) (UL : List Uw) (gt : Nat) (kt' : Dk) (c5 : Nat) (j : Nat) (g5 : Nat) (g1 : Nat) (gu : Nat) (hlt : Hid (j < z)) (wq : World) (q : Nat) (HMQ : Hid (Ms w wq [.row (some ⟨g5, 0, none⟩) z c5 C, .row (some ⟨g1, 0, none⟩) z c1 d0, .wts (some ⟨gu, 0, none⟩) uc UL, .disk gt kt'])) (hlq : Hid (q < UL.length)) (x : Uw) (hx : Hid (UL[q]? = some x)) (_HXD : Hid (Own wq w.heap.size x.a x.n x.c x.d)) (HAT : Hid (0 ≤ x.at_ ∧ x.at_ + x.n ≤ 65536)) (hge : Hid (x.at_ ≤ (j : Int))) (hls : Hid (¬ (j : Int) < x.at_ + x.n)) (a : Act) (hf : Fr 301 a) (h0 : sl a 0 = .int .i64 (z : Int)) (h19 : sl a 19 = .slice (some ⟨g1, 0, none⟩) z c1) (h23 : sl a 23 = .slice (some ⟨gu, 0, none⟩) UL.length uc) (h26 : sl a 26 = .pointer (some ⟨gt, 0, none⟩)) (h33 : sl a 33 = .slice (some ⟨g5, 0, none⟩) z c5) (h35 : sl a 35 = .int .i64 (j : Int)) (h36 : sl a 36 = .bool false) (h37 : sl a 37 = .int .i64 (q : Int)) :
    Code.wp Try.prog (cAt [1,1,1,1,1,1,1,1,1,1,1,1,1,1,1,1,1,1,1,1,0,1,2,2,1,0,2,1,0,1,2,2,1,0,2] KDK) (Exit.then (fun a' w' => Fr 301 a' ∧ sl a' 0 = .int .i64 (z : Int) ∧ sl a' 19 = .slice (some ⟨g1, 0, none⟩) z c1 ∧ sl a' 23 = .slice (some ⟨gu, 0, none⟩) UL.length uc ∧ sl a' 26 = .pointer (some ⟨gt, 0, none⟩) ∧ sl a' 33 = .slice (some ⟨g5, 0, none⟩) z c5 ∧ sl a' 35 = .int .i64 (j : Int) ∧ sl a' 36 = .bool false ∧ sl a' 37 = .int .i64 (q : Int) ∧ Ms w w' [.row (some ⟨g5, 0, none⟩) z c5 C, .row (some ⟨g1, 0, none⟩) z c1 d0, .wts (some ⟨gu, 0, none⟩) uc UL, .disk gt kt']) Nope) a wq := by
  obtain ⟨f, ha, hs⟩ := frKDK hf
  have e0 := (hs 0).trans h0
  have e19 := (hs 19).trans h19
  have e23 := (hs 23).trans h23
  have e26 := (hs 26).trans h26
  have e33 := (hs 33).trans h33
  have e35 := (hs 35).trans h35
  have e36 := (hs 36).trans h36
  have e37 := (hs 37).trans h37
  rw [e0, e19, e23, e26, e33, e35, e36, e37] at ha
  clear hs hf e0 h0 e19 h19 e23 h23 e26 h26 e33 h33 e35 h35 e36 h36 e37 h37
  subst ha
  refine piece2 fun J0 K0 hJ0 hK0 => ?_
  conv => arg 2; whnf
  have HMd : Hid (Ms w wq.drew [.row (some ⟨g5, 0, none⟩) z c5 C, .row (some ⟨g1, 0, none⟩) z c1 d0, .wts (some ⟨gu, 0, none⟩) uc UL, .disk gt kt']) := HMQ.out.past (Below.refl _ _).drew
  have hq2 : (q : Int) < (UL.length : Int) := by have := hlq.out; omega
  have hq0 : (0 : Int) ≤ (q : Int) := by omega
  have hj2 : (j : Int) < (z : Int) := by have := hlt.out; omega
  have hj0 : (0 : Int) ≤ (j : Int) := by omega
  have hatl := HAT.out
  have hw1 : IntKind.i64.wrap (x.at_ + x.n) = x.at_ + x.n := by rw [IntKind.wrap_i64]; omega
  have hg1 := hge.out
  have hl1 := hls.out
  refine wp_region_held_drew (S := fun w' => Ms w w' [.row (some ⟨g5, 0, none⟩) z c5 C, .row (some ⟨g1, 0, none⟩) z c1 d0, .wts (some ⟨gu, 0, none⟩) uc UL, .disk gt kt']) (by kernel_rfl) HMd.out (fun hS => ?_)
  refine tk 0 245 (.bool false) rfl rfl (by kernel_rfl) (by kernel_rfl) (by kernel_rfl) (fun _ _ _ h => h) (Or.inl ⟨by rfl, fun w' h' => ?_⟩) hS ?_
  · go_simp
  try simp only [Act.put, List.setIfInBounds_toArray, List.set_cons_zero, List.set_cons_succ]
  refine tk 1 246 (.bool false) rfl rfl (by kernel_rfl) (by kernel_rfl) (by kernel_rfl) (fun _ _ _ h => h) (Or.inl ⟨by rfl, fun w' h' => ?_⟩) hS ?_
  · go_simp
  try simp only [Act.put, List.setIfInBounds_toArray, List.set_cons_zero, List.set_cons_succ]
  refine tk 2 247 (.int .i64 (j : Int)) rfl rfl (by kernel_rfl) (by kernel_rfl) (by kernel_rfl) (fun _ _ _ h => h) (Or.inl ⟨by rfl, fun w' h' => ?_⟩) hS ?_
  · go_simp
  try simp only [Act.put, List.setIfInBounds_toArray, List.set_cons_zero, List.set_cons_succ]
  refine tk 3 248 (.slice (some ⟨gu, 0, none⟩) (UL.length) uc) rfl rfl (by kernel_rfl) (by kernel_rfl) (by kernel_rfl) (fun _ _ _ h => h) (Or.inl ⟨by rfl, fun w' h' => ?_⟩) hS ?_
  · go_simp
  try simp only [Act.put, List.setIfInBounds_toArray, List.set_cons_zero, List.set_cons_succ]
  refine tk 4 249 (.int .i64 (q : Int)) rfl rfl (by kernel_rfl) (by kernel_rfl) (by kernel_rfl) (fun _ _ _ h => h) (Or.inl ⟨by rfl, fun w' h' => ?_⟩) hS ?_
  · go_simp
  try simp only [Act.put, List.setIfInBounds_toArray, List.set_cons_zero, List.set_cons_succ]
  refine tk 5 250 (.pointer (some ⟨gu, q * 2, none⟩)) rfl rfl (by kernel_rfl) (by kernel_rfl) (by kernel_rfl) (fun _ _ _ h => h) (Or.inl ⟨by rfl, fun w' h' => ?_⟩) hS ?_
  · go_simp
  try simp only [Act.put, List.setIfInBounds_toArray, List.set_cons_zero, List.set_cons_succ]
  refine tk 6 251 (.pointer (some ⟨gu, q * 2, none⟩)) rfl rfl (by kernel_rfl) (by kernel_rfl) (by kernel_rfl) (fun _ _ _ h => h) (Or.inl ⟨by rfl, fun w' h' => ?_⟩) hS ?_
  · go_simp
  try simp only [Act.put, List.setIfInBounds_toArray, List.set_cons_zero, List.set_cons_succ]
  refine tk 7 252 (.int .i64 x.at_) rfl rfl (by kernel_rfl) (by kernel_rfl) (by kernel_rfl) (fun _ _ _ h => h) (Or.inl ⟨by rfl, fun w' h' => ?_⟩) hS ?_
  · have x1 := Uws.cells (h'.ok (.wts (some ⟨gu, 0, none⟩) uc UL) (by simp)) hx.out
    have x2 := x1.1
    have x3 := x1.2
    clear x1
    go_simp
  try simp only [Act.put, List.setIfInBounds_toArray, List.set_cons_zero, List.set_cons_succ]
  refine tk 8 253 (.bool true) rfl rfl (by kernel_rfl) (by kernel_rfl) (by kernel_rfl) (fun _ _ _ h => h) (Or.inl ⟨by rfl, fun w' h' => ?_⟩) hS ?_
  · go_simp
  try simp only [Act.put, List.setIfInBounds_toArray, List.set_cons_zero, List.set_cons_succ]
  refine tk 9 254 (.bool true) rfl rfl (by kernel_rfl) (by kernel_rfl) (by kernel_rfl) (fun _ _ _ h => h) (Or.inl ⟨by rfl, fun w' h' => ?_⟩) hS ?_
  · go_simp
  try simp only [Act.put, List.setIfInBounds_toArray, List.set_cons_zero, List.set_cons_succ]
  refine tk 10 255 (.int .i64 (j : Int)) rfl rfl (by kernel_rfl) (by kernel_rfl) (by kernel_rfl) (fun _ _ _ h => h) (Or.inl ⟨by rfl, fun w' h' => ?_⟩) hS ?_
  · go_simp
  try simp only [Act.put, List.setIfInBounds_toArray, List.set_cons_zero, List.set_cons_succ]
  refine tk 11 256 (.slice (some ⟨gu, 0, none⟩) (UL.length) uc) rfl rfl (by kernel_rfl) (by kernel_rfl) (by kernel_rfl) (fun _ _ _ h => h) (Or.inl ⟨by rfl, fun w' h' => ?_⟩) hS ?_
  · go_simp
  try simp only [Act.put, List.setIfInBounds_toArray, List.set_cons_zero, List.set_cons_succ]
  refine tk 12 257 (.int .i64 (q : Int)) rfl rfl (by kernel_rfl) (by kernel_rfl) (by kernel_rfl) (fun _ _ _ h => h) (Or.inl ⟨by rfl, fun w' h' => ?_⟩) hS ?_
  · go_simp
  try simp only [Act.put, List.setIfInBounds_toArray, List.set_cons_zero, List.set_cons_succ]
  refine tk 13 258 (.pointer (some ⟨gu, q * 2, none⟩)) rfl rfl (by kernel_rfl) (by kernel_rfl) (by kernel_rfl) (fun _ _ _ h => h) (Or.inl ⟨by rfl, fun w' h' => ?_⟩) hS ?_
  · go_simp
  try simp only [Act.put, List.setIfInBounds_toArray, List.set_cons_zero, List.set_cons_succ]
  refine tk 14 259 (.pointer (some ⟨gu, q * 2, none⟩)) rfl rfl (by kernel_rfl) (by kernel_rfl) (by kernel_rfl) (fun _ _ _ h => h) (Or.inl ⟨by rfl, fun w' h' => ?_⟩) hS ?_
  · go_simp
  try simp only [Act.put, List.setIfInBounds_toArray, List.set_cons_zero, List.set_cons_succ]
  refine tk 15 260 (.int .i64 x.at_) rfl rfl (by kernel_rfl) (by kernel_rfl) (by kernel_rfl) (fun _ _ _ h => h) (Or.inl ⟨by rfl, fun w' h' => ?_⟩) hS ?_
  · have x1 := Uws.cells (h'.ok (.wts (some ⟨gu, 0, none⟩) uc UL) (by simp)) hx.out
    have x2 := x1.1
    have x3 := x1.2
    clear x1
    go_simp
  try simp only [Act.put, List.setIfInBounds_toArray, List.set_cons_zero, List.set_cons_succ]
  refine tk 16 261 (.slice (some ⟨gu, 0, none⟩) (UL.length) uc) rfl rfl (by kernel_rfl) (by kernel_rfl) (by kernel_rfl) (fun _ _ _ h => h) (Or.inl ⟨by rfl, fun w' h' => ?_⟩) hS ?_
  · go_simp
  try simp only [Act.put, List.setIfInBounds_toArray, List.set_cons_zero, List.set_cons_succ]
  refine tk 17 262 (.int .i64 (q : Int)) rfl rfl (by kernel_rfl) (by kernel_rfl) (by kernel_rfl) (fun _ _ _ h => h) (Or.inl ⟨by rfl, fun w' h' => ?_⟩) hS ?_
  · go_simp
  try simp only [Act.put, List.setIfInBounds_toArray, List.set_cons_zero, List.set_cons_succ]
  refine tk 18 263 (.pointer (some ⟨gu, q * 2, none⟩)) rfl rfl (by kernel_rfl) (by kernel_rfl) (by kernel_rfl) (fun _ _ _ h => h) (Or.inl ⟨by rfl, fun w' h' => ?_⟩) hS ?_
  · go_simp
  try simp only [Act.put, List.setIfInBounds_toArray, List.set_cons_zero, List.set_cons_succ]
  refine tk 19 264 (.pointer (some ⟨gu, q * 2 + 1, none⟩)) rfl rfl (by kernel_rfl) (by kernel_rfl) (by kernel_rfl) (fun _ _ _ h => h) (Or.inl ⟨by rfl, fun w' h' => ?_⟩) hS ?_
  · go_simp
  try simp only [Act.put, List.setIfInBounds_toArray, List.set_cons_zero, List.set_cons_succ]
  refine tk 20 265 (.slice x.a x.n x.c) rfl rfl (by kernel_rfl) (by kernel_rfl) (by kernel_rfl) (fun _ _ _ h => h) (Or.inl ⟨by rfl, fun w' h' => ?_⟩) hS ?_
  · have x1 := Uws.cells (h'.ok (.wts (some ⟨gu, 0, none⟩) uc UL) (by simp)) hx.out
    have x2 := x1.1
    have x3 := x1.2
    clear x1
    go_simp
  try simp only [Act.put, List.setIfInBounds_toArray, List.set_cons_zero, List.set_cons_succ]
  refine tk 21 266 (.int .i64 (x.n : Int)) rfl rfl (by kernel_rfl) (by kernel_rfl) (by kernel_rfl) (fun _ _ _ h => h) (Or.inl ⟨by rfl, fun w' h' => ?_⟩) hS ?_
  · go_simp
  try simp only [Act.put, List.setIfInBounds_toArray, List.set_cons_zero, List.set_cons_succ]
  refine tk 22 267 (.int .i64 (x.at_ + x.n)) rfl rfl (by kernel_rfl) (by kernel_rfl) (by kernel_rfl) (fun _ _ _ h => h) (Or.inl ⟨by rfl, fun w' h' => ?_⟩) hS ?_
  · go_simp
  try simp only [Act.put, List.setIfInBounds_toArray, List.set_cons_zero, List.set_cons_succ]
  refine tk 23 268 (.bool false) rfl rfl (by kernel_rfl) (by kernel_rfl) (by kernel_rfl) (fun _ _ _ h => h) (Or.inl ⟨by rfl, fun w' h' => ?_⟩) hS ?_
  · go_simp
  try simp only [Act.put, List.setIfInBounds_toArray, List.set_cons_zero, List.set_cons_succ]
  refine tk 24 269 (.bool false) rfl rfl (by kernel_rfl) (by kernel_rfl) (by kernel_rfl) (fun _ _ _ h => h) (Or.inl ⟨by rfl, fun w' h' => ?_⟩) hS ?_
  · go_simp
  try simp only [Act.put, List.setIfInBounds_toArray, List.set_cons_zero, List.set_cons_succ]
  refine tk 25 270 (.bool false) rfl rfl (by kernel_rfl) (by kernel_rfl) (by kernel_rfl) (fun _ _ _ h => h) (Or.inl ⟨by rfl, fun w' h' => ?_⟩) hS ?_
  · go_simp
  try simp only [Act.put, List.setIfInBounds_toArray, List.set_cons_zero, List.set_cons_succ]
  refine tk 26 271 undef rfl rfl (by kernel_rfl) (by kernel_rfl) (by kernel_rfl) (fun _ _ _ h => h) (Or.inr ⟨by rfl, rfl⟩) hS ?_
  try simp only [Act.put, List.setIfInBounds_toArray, List.set_cons_zero, List.set_cons_succ]
  refine tk 27 272 undef rfl rfl (by kernel_rfl) (by kernel_rfl) (by kernel_rfl) (fun _ _ _ h => h) (Or.inr ⟨by rfl, rfl⟩) hS ?_
  try simp only [Act.put, List.setIfInBounds_toArray, List.set_cons_zero, List.set_cons_succ]
  refine tk 28 273 undef rfl rfl (by kernel_rfl) (by kernel_rfl) (by kernel_rfl) (fun _ _ _ h => h) (Or.inr ⟨by rfl, rfl⟩) hS ?_
  try simp only [Act.put, List.setIfInBounds_toArray, List.set_cons_zero, List.set_cons_succ]
  refine tk 29 274 undef rfl rfl (by kernel_rfl) (by kernel_rfl) (by kernel_rfl) (fun _ _ _ h => h) (Or.inr ⟨by rfl, rfl⟩) hS ?_
  try simp only [Act.put, List.setIfInBounds_toArray, List.set_cons_zero, List.set_cons_succ]
  refine tk 30 275 undef rfl rfl (by kernel_rfl) (by kernel_rfl) (by kernel_rfl) (fun _ _ _ h => h) (Or.inr ⟨by rfl, rfl⟩) hS ?_
  try simp only [Act.put, List.setIfInBounds_toArray, List.set_cons_zero, List.set_cons_succ]
  refine tk 31 276 undef rfl rfl (by kernel_rfl) (by kernel_rfl) (by kernel_rfl) (fun _ _ _ h => h) (Or.inr ⟨by rfl, rfl⟩) hS ?_
  try simp only [Act.put, List.setIfInBounds_toArray, List.set_cons_zero, List.set_cons_succ]
  refine tk 32 277 undef rfl rfl (by kernel_rfl) (by kernel_rfl) (by kernel_rfl) (fun _ _ _ h => h) (Or.inr ⟨by rfl, rfl⟩) hS ?_
  try simp only [Act.put, List.setIfInBounds_toArray, List.set_cons_zero, List.set_cons_succ]
  refine tk 33 278 undef rfl rfl (by kernel_rfl) (by kernel_rfl) (by kernel_rfl) (fun _ _ _ h => h) (Or.inr ⟨by rfl, rfl⟩) hS ?_
  try simp only [Act.put, List.setIfInBounds_toArray, List.set_cons_zero, List.set_cons_succ]
  refine tk 34 279 undef rfl rfl (by kernel_rfl) (by kernel_rfl) (by kernel_rfl) (fun _ _ _ h => h) (Or.inr ⟨by rfl, rfl⟩) hS ?_
  try simp only [Act.put, List.setIfInBounds_toArray, List.set_cons_zero, List.set_cons_succ]
  refine tk 35 280 undef rfl rfl (by kernel_rfl) (by kernel_rfl) (by kernel_rfl) (fun _ _ _ h => h) (Or.inr ⟨by rfl, rfl⟩) hS ?_
  try simp only [Act.put, List.setIfInBounds_toArray, List.set_cons_zero, List.set_cons_succ]
  refine tk 36 281 undef rfl rfl (by kernel_rfl) (by kernel_rfl) (by kernel_rfl) (fun _ _ _ h => h) (Or.inr ⟨by rfl, rfl⟩) hS ?_
  try simp only [Act.put, List.setIfInBounds_toArray, List.set_cons_zero, List.set_cons_succ]
  refine tk 37 282 undef rfl rfl (by kernel_rfl) (by kernel_rfl) (by kernel_rfl) (fun _ _ _ h => h) (Or.inr ⟨by rfl, rfl⟩) hS ?_
  try simp only [Act.put, List.setIfInBounds_toArray, List.set_cons_zero, List.set_cons_succ]
  refine tk 38 283 undef rfl rfl (by kernel_rfl) (by kernel_rfl) (by kernel_rfl) (fun _ _ _ h => h) (Or.inr ⟨by rfl, rfl⟩) hS ?_
  try simp only [Act.put, List.setIfInBounds_toArray, List.set_cons_zero, List.set_cons_succ]
  refine tk 39 284 undef rfl rfl (by kernel_rfl) (by kernel_rfl) (by kernel_rfl) (fun _ _ _ h => h) (Or.inr ⟨by rfl, rfl⟩) hS ?_
  try simp only [Act.put, List.setIfInBounds_toArray, List.set_cons_zero, List.set_cons_succ]
  refine tk 40 285 undef rfl rfl (by kernel_rfl) (by kernel_rfl) (by kernel_rfl) (fun _ _ _ h => h) (Or.inr ⟨by rfl, rfl⟩) hS ?_
  try simp only [Act.put, List.setIfInBounds_toArray, List.set_cons_zero, List.set_cons_succ]
  refine tk 41 286 undef rfl rfl (by kernel_rfl) (by kernel_rfl) (by kernel_rfl) (fun _ _ _ h => h) (Or.inr ⟨by rfl, rfl⟩) hS ?_
  try simp only [Act.put, List.setIfInBounds_toArray, List.set_cons_zero, List.set_cons_succ]
  refine tk 42 287 undef rfl rfl (by kernel_rfl) (by kernel_rfl) (by kernel_rfl) (fun _ _ _ h => h) (Or.inr ⟨by rfl, rfl⟩) hS ?_
  try simp only [Act.put, List.setIfInBounds_toArray, List.set_cons_zero, List.set_cons_succ]
  refine tk 43 288 undef rfl rfl (by kernel_rfl) (by kernel_rfl) (by kernel_rfl) (fun _ _ _ h => h) (Or.inr ⟨by rfl, rfl⟩) hS ?_
  try simp only [Act.put, List.setIfInBounds_toArray, List.set_cons_zero, List.set_cons_succ]
  refine tk 44 289 undef rfl rfl (by kernel_rfl) (by kernel_rfl) (by kernel_rfl) (fun _ _ _ h => h) (Or.inr ⟨by rfl, rfl⟩) hS ?_
  try simp only [Act.put, List.setIfInBounds_toArray, List.set_cons_zero, List.set_cons_succ]
  refine tk 45 290 (.bool false) rfl rfl (by kernel_rfl) (by kernel_rfl) (by kernel_rfl) (fun _ _ _ h => h) (Or.inl ⟨by rfl, fun w' h' => ?_⟩) hS ?_
  · go_simp
  try simp only [Act.put, List.setIfInBounds_toArray, List.set_cons_zero, List.set_cons_succ]
  refine tk 46 291 (.bool false) rfl rfl (by kernel_rfl) (by kernel_rfl) (by kernel_rfl) (fun _ _ _ h => h) (Or.inl ⟨by rfl, fun w' h' => ?_⟩) hS ?_
  · go_simp
  try simp only [Act.put, List.setIfInBounds_toArray, List.set_cons_zero, List.set_cons_succ]
  refine tk 47 36 (.bool false) rfl rfl (by kernel_rfl) (by kernel_rfl) (by kernel_rfl) (fun _ _ _ h => h) (Or.inl ⟨by rfl, fun w' h' => ?_⟩) hS ?_
  · go_simp
  refine wpAnyH_done (by kernel_rfl) ?_ _
  go_wp2_with fail
  refine Met.intro (hJ0 _ _ ?_)
  exact ⟨⟨rfl, rfl⟩, rfl, rfl, rfl, rfl, rfl, rfl, rfl, rfl, HMd.out⟩

set_option maxRecDepth 100000 in
set_option maxHeartbeats 4000000 in
theorem k50_2 (w : World) (z : Nat) (_h : Nat) (d0 : List Int) (C : List Int) (c1 : Nat) (uc : Nat) (UL : List Uw) (gt : Nat) (kt' : Dk) (c5 : Nat) (j : Nat) (g5 : Nat) (g1 : Nat) (gu : Nat) (hlt : Hid (j < z)) (wq : World) (q : Nat) (HMQ : Hid (Ms w wq [.row (some ⟨g5, 0, none⟩) z c5 C, .row (some ⟨g1, 0, none⟩) z c1 d0, .wts (some ⟨gu, 0, none⟩) uc UL, .disk gt kt'])) (hlq : Hid (q < UL.length)) (x : Uw) (hx : Hid (UL[q]? = some x)) (_HXD : Hid (Own wq w.heap.size x.a x.n x.c x.d)) (HAT : Hid (0 ≤ x.at_ ∧ x.at_ + x.n ≤ 65536)) (hge : Hid (¬ x.at_ ≤ (j : Int))) (a : Act) (hf : Fr 301 a) (h0 : sl a 0 = .int .i64 (z : Int)) (h19 : sl a 19 = .slice (some ⟨g1, 0, none⟩) z c1) (h23 : sl a 23 = .slice (some ⟨gu, 0, none⟩) UL.length uc) (h26 : sl a 26 = .pointer (some ⟨gt, 0, none⟩)) (h33 : sl a 33 = .slice (some ⟨g5, 0, none⟩) z c5) (h35 : sl a 35 = .int .i64 (j : Int)) (h36 : sl a 36 = .bool false) (h37 : sl a 37 = .int .i64 (q : Int)) :
    Code.wp Try.prog (cAt [1,1,1,1,1,1,1,1,1,1,1,1,1,1,1,1,1,1,1,1,0,1,2,2,1,0,2,1,0,1,2,2,1,0,2] KDK) (Exit.then (fun a' w' => Fr 301 a' ∧ sl a' 0 = .int .i64 (z : Int) ∧ sl a' 19 = .slice (some ⟨g1, 0, none⟩) z c1 ∧ sl a' 23 = .slice (some ⟨gu, 0, none⟩) UL.length uc ∧ sl a' 26 = .pointer (some ⟨gt, 0, none⟩) ∧ sl a' 33 = .slice (some ⟨g5, 0, none⟩) z c5 ∧ sl a' 35 = .int .i64 (j : Int) ∧ sl a' 36 = .bool false ∧ sl a' 37 = .int .i64 (q : Int) ∧ Ms w w' [.row (some ⟨g5, 0, none⟩) z c5 C, .row (some ⟨g1, 0, none⟩) z c1 d0, .wts (some ⟨gu, 0, none⟩) uc UL, .disk gt kt']) Nope) a wq := by
  obtain ⟨f, ha, hs⟩ := frKDK hf
  have e0 := (hs 0).trans h0
  have e19 := (hs 19).trans h19
  have e23 := (hs 23).trans h23
  have e26 := (hs 26).trans h26
  have e33 := (hs 33).trans h33
  have e35 := (hs 35).trans h35
  have e36 := (hs 36).trans h36
  have e37 := (hs 37).trans h37
  rw [e0, e19, e23, e26, e33, e35, e36, e37] at ha
  clear hs hf e0 h0 e19 h19 e23 h23 e26 h26 e33 h33 e35 h35 e36 h36 e37 h37
  subst ha
  refine piece2 fun J0 K0 hJ0 hK0 => ?_
  conv => arg 2; whnf
  have HMd : Hid (Ms w wq.drew [.row (some ⟨g5, 0, none⟩) z c5 C, .row (some ⟨g1, 0, none⟩) z c1 d0, .wts (some ⟨gu, 0, none⟩) uc UL, .disk gt kt']) := HMQ.out.past (Below.refl _ _).drew
  have hq2 : (q : Int) < (UL.length : Int) := by have := hlq.out; omega
  have hq0 : (0 : Int) ≤ (q : Int) := by omega
  have hj2 : (j : Int) < (z : Int) := by have := hlt.out; omega
  have hj0 : (0 : Int) ≤ (j : Int) := by omega
  have hatl := HAT.out
  have hg1 := hge.out
  refine wp_region_held_drew (S := fun w' => Ms w w' [.row (some ⟨g5, 0, none⟩) z c5 C, .row (some ⟨g1, 0, none⟩) z c1 d0, .wts (some ⟨gu, 0, none⟩) uc UL, .disk gt kt']) (by kernel_rfl) HMd.out (fun hS => ?_)
  refine tk 0 245 (.bool false) rfl rfl (by kernel_rfl) (by kernel_rfl) (by kernel_rfl) (fun _ _ _ h => h) (Or.inl ⟨by rfl, fun w' h' => ?_⟩) hS ?_
  · go_simp
  try simp only [Act.put, List.setIfInBounds_toArray, List.set_cons_zero, List.set_cons_succ]
  refine tk 1 246 (.bool false) rfl rfl (by kernel_rfl) (by kernel_rfl) (by kernel_rfl) (fun _ _ _ h => h) (Or.inl ⟨by rfl, fun w' h' => ?_⟩) hS ?_
  · go_simp
  try simp only [Act.put, List.setIfInBounds_toArray, List.set_cons_zero, List.set_cons_succ]
  refine tk 2 247 (.int .i64 (j : Int)) rfl rfl (by kernel_rfl) (by kernel_rfl) (by kernel_rfl) (fun _ _ _ h => h) (Or.inl ⟨by rfl, fun w' h' => ?_⟩) hS ?_
  · go_simp
  try simp only [Act.put, List.setIfInBounds_toArray, List.set_cons_zero, List.set_cons_succ]
  refine tk 3 248 (.slice (some ⟨gu, 0, none⟩) (UL.length) uc) rfl rfl (by kernel_rfl) (by kernel_rfl) (by kernel_rfl) (fun _ _ _ h => h) (Or.inl ⟨by rfl, fun w' h' => ?_⟩) hS ?_
  · go_simp
  try simp only [Act.put, List.setIfInBounds_toArray, List.set_cons_zero, List.set_cons_succ]
  refine tk 4 249 (.int .i64 (q : Int)) rfl rfl (by kernel_rfl) (by kernel_rfl) (by kernel_rfl) (fun _ _ _ h => h) (Or.inl ⟨by rfl, fun w' h' => ?_⟩) hS ?_
  · go_simp
  try simp only [Act.put, List.setIfInBounds_toArray, List.set_cons_zero, List.set_cons_succ]
  refine tk 5 250 (.pointer (some ⟨gu, q * 2, none⟩)) rfl rfl (by kernel_rfl) (by kernel_rfl) (by kernel_rfl) (fun _ _ _ h => h) (Or.inl ⟨by rfl, fun w' h' => ?_⟩) hS ?_
  · go_simp
  try simp only [Act.put, List.setIfInBounds_toArray, List.set_cons_zero, List.set_cons_succ]
  refine tk 6 251 (.pointer (some ⟨gu, q * 2, none⟩)) rfl rfl (by kernel_rfl) (by kernel_rfl) (by kernel_rfl) (fun _ _ _ h => h) (Or.inl ⟨by rfl, fun w' h' => ?_⟩) hS ?_
  · go_simp
  try simp only [Act.put, List.setIfInBounds_toArray, List.set_cons_zero, List.set_cons_succ]
  refine tk 7 252 (.int .i64 x.at_) rfl rfl (by kernel_rfl) (by kernel_rfl) (by kernel_rfl) (fun _ _ _ h => h) (Or.inl ⟨by rfl, fun w' h' => ?_⟩) hS ?_
  · have x1 := Uws.cells (h'.ok (.wts (some ⟨gu, 0, none⟩) uc UL) (by simp)) hx.out
    have x2 := x1.1
    have x3 := x1.2
    clear x1
    go_simp
  try simp only [Act.put, List.setIfInBounds_toArray, List.set_cons_zero, List.set_cons_succ]
  refine tk 8 253 (.bool false) rfl rfl (by kernel_rfl) (by kernel_rfl) (by kernel_rfl) (fun _ _ _ h => h) (Or.inl ⟨by rfl, fun w' h' => ?_⟩) hS ?_
  · go_simp
  try simp only [Act.put, List.setIfInBounds_toArray, List.set_cons_zero, List.set_cons_succ]
  refine tk 9 254 (.bool false) rfl rfl (by kernel_rfl) (by kernel_rfl) (by kernel_rfl) (fun _ _ _ h => h) (Or.inl ⟨by rfl, fun w' h' => ?_⟩) hS ?_
  · go_simp
  try simp only [Act.put, List.setIfInBounds_toArray, List.set_cons_zero, List.set_cons_succ]
  refine tk 10 255 undef rfl rfl (by kernel_rfl) (by kernel_rfl) (by kernel_rfl) (fun _ _ _ h => h) (Or.inr ⟨by rfl, rfl⟩) hS ?_
  try simp only [Act.put, List.setIfInBounds_toArray, List.set_cons_zero, List.set_cons_succ]
  refine tk 11 256 undef rfl rfl (by kernel_rfl) (by kernel_rfl) (by kernel_rfl) (fun _ _ _ h => h) (Or.inr ⟨by rfl, rfl⟩) hS ?_
  try simp only [Act.put, List.setIfInBounds_toArray, List.set_cons_zero, List.set_cons_succ]
  refine tk 12 257 undef rfl rfl (by kernel_rfl) (by kernel_rfl) (by kernel_rfl) (fun _ _ _ h => h) (Or.inr ⟨by rfl, rfl⟩) hS ?_
  try simp only [Act.put, List.setIfInBounds_toArray, List.set_cons_zero, List.set_cons_succ]
  refine tk 13 258 undef rfl rfl (by kernel_rfl) (by kernel_rfl) (by kernel_rfl) (fun _ _ _ h => h) (Or.inr ⟨by rfl, rfl⟩) hS ?_
  try simp only [Act.put, List.setIfInBounds_toArray, List.set_cons_zero, List.set_cons_succ]
  refine tk 14 259 undef rfl rfl (by kernel_rfl) (by kernel_rfl) (by kernel_rfl) (fun _ _ _ h => h) (Or.inr ⟨by rfl, rfl⟩) hS ?_
  try simp only [Act.put, List.setIfInBounds_toArray, List.set_cons_zero, List.set_cons_succ]
  refine tk 15 260 undef rfl rfl (by kernel_rfl) (by kernel_rfl) (by kernel_rfl) (fun _ _ _ h => h) (Or.inr ⟨by rfl, rfl⟩) hS ?_
  try simp only [Act.put, List.setIfInBounds_toArray, List.set_cons_zero, List.set_cons_succ]
  refine tk 16 261 undef rfl rfl (by kernel_rfl) (by kernel_rfl) (by kernel_rfl) (fun _ _ _ h => h) (Or.inr ⟨by rfl, rfl⟩) hS ?_
  try simp only [Act.put, List.setIfInBounds_toArray, List.set_cons_zero, List.set_cons_succ]
  refine tk 17 262 undef rfl rfl (by kernel_rfl) (by kernel_rfl) (by kernel_rfl) (fun _ _ _ h => h) (Or.inr ⟨by rfl, rfl⟩) hS ?_
  try simp only [Act.put, List.setIfInBounds_toArray, List.set_cons_zero, List.set_cons_succ]
  refine tk 18 263 undef rfl rfl (by kernel_rfl) (by kernel_rfl) (by kernel_rfl) (fun _ _ _ h => h) (Or.inr ⟨by rfl, rfl⟩) hS ?_
  try simp only [Act.put, List.setIfInBounds_toArray, List.set_cons_zero, List.set_cons_succ]
  refine tk 19 264 undef rfl rfl (by kernel_rfl) (by kernel_rfl) (by kernel_rfl) (fun _ _ _ h => h) (Or.inr ⟨by rfl, rfl⟩) hS ?_
  try simp only [Act.put, List.setIfInBounds_toArray, List.set_cons_zero, List.set_cons_succ]
  refine tk 20 265 undef rfl rfl (by kernel_rfl) (by kernel_rfl) (by kernel_rfl) (fun _ _ _ h => h) (Or.inr ⟨by rfl, rfl⟩) hS ?_
  try simp only [Act.put, List.setIfInBounds_toArray, List.set_cons_zero, List.set_cons_succ]
  refine tk 21 266 undef rfl rfl (by kernel_rfl) (by kernel_rfl) (by kernel_rfl) (fun _ _ _ h => h) (Or.inr ⟨by rfl, rfl⟩) hS ?_
  try simp only [Act.put, List.setIfInBounds_toArray, List.set_cons_zero, List.set_cons_succ]
  refine tk 22 267 undef rfl rfl (by kernel_rfl) (by kernel_rfl) (by kernel_rfl) (fun _ _ _ h => h) (Or.inr ⟨by rfl, rfl⟩) hS ?_
  try simp only [Act.put, List.setIfInBounds_toArray, List.set_cons_zero, List.set_cons_succ]
  refine tk 23 268 undef rfl rfl (by kernel_rfl) (by kernel_rfl) (by kernel_rfl) (fun _ _ _ h => h) (Or.inr ⟨by rfl, rfl⟩) hS ?_
  try simp only [Act.put, List.setIfInBounds_toArray, List.set_cons_zero, List.set_cons_succ]
  refine tk 24 269 (.bool false) rfl rfl (by kernel_rfl) (by kernel_rfl) (by kernel_rfl) (fun _ _ _ h => h) (Or.inl ⟨by rfl, fun w' h' => ?_⟩) hS ?_
  · go_simp
  try simp only [Act.put, List.setIfInBounds_toArray, List.set_cons_zero, List.set_cons_succ]
  refine tk 25 270 (.bool false) rfl rfl (by kernel_rfl) (by kernel_rfl) (by kernel_rfl) (fun _ _ _ h => h) (Or.inl ⟨by rfl, fun w' h' => ?_⟩) hS ?_
  · go_simp
  try simp only [Act.put, List.setIfInBounds_toArray, List.set_cons_zero, List.set_cons_succ]
  refine tk 26 271 undef rfl rfl (by kernel_rfl) (by kernel_rfl) (by kernel_rfl) (fun _ _ _ h => h) (Or.inr ⟨by rfl, rfl⟩) hS ?_
  try simp only [Act.put, List.setIfInBounds_toArray, List.set_cons_zero, List.set_cons_succ]
  refine tk 27 272 undef rfl rfl (by kernel_rfl) (by kernel_rfl) (by kernel_rfl) (fun _ _ _ h => h) (Or.inr ⟨by rfl, rfl⟩) hS ?_
  try simp only [Act.put, List.setIfInBounds_toArray, List.set_cons_zero, List.set_cons_succ]
  refine tk 28 273 undef rfl rfl (by kernel_rfl) (by kernel_rfl) (by kernel_rfl) (fun _ _ _ h => h) (Or.inr ⟨by rfl, rfl⟩) hS ?_
  try simp only [Act.put, List.setIfInBounds_toArray, List.set_cons_zero, List.set_cons_succ]
  refine tk 29 274 undef rfl rfl (by kernel_rfl) (by kernel_rfl) (by kernel_rfl) (fun _ _ _ h => h) (Or.inr ⟨by rfl, rfl⟩) hS ?_
  try simp only [Act.put, List.setIfInBounds_toArray, List.set_cons_zero, List.set_cons_succ]
  refine tk 30 275 undef rfl rfl (by kernel_rfl) (by kernel_rfl) (by kernel_rfl) (fun _ _ _ h => h) (Or.inr ⟨by rfl, rfl⟩) hS ?_
  try simp only [Act.put, List.setIfInBounds_toArray, List.set_cons_zero, List.set_cons_succ]
  refine tk 31 276 undef rfl rfl (by kernel_rfl) (by kernel_rfl) (by kernel_rfl) (fun _ _ _ h => h) (Or.inr ⟨by rfl, rfl⟩) hS ?_
  try simp only [Act.put, List.setIfInBounds_toArray, List.set_cons_zero, List.set_cons_succ]
  refine tk 32 277 undef rfl rfl (by kernel_rfl) (by kernel_rfl) (by kernel_rfl) (fun _ _ _ h => h) (Or.inr ⟨by rfl, rfl⟩) hS ?_
  try simp only [Act.put, List.setIfInBounds_toArray, List.set_cons_zero, List.set_cons_succ]
  refine tk 33 278 undef rfl rfl (by kernel_rfl) (by kernel_rfl) (by kernel_rfl) (fun _ _ _ h => h) (Or.inr ⟨by rfl, rfl⟩) hS ?_
  try simp only [Act.put, List.setIfInBounds_toArray, List.set_cons_zero, List.set_cons_succ]
  refine tk 34 279 undef rfl rfl (by kernel_rfl) (by kernel_rfl) (by kernel_rfl) (fun _ _ _ h => h) (Or.inr ⟨by rfl, rfl⟩) hS ?_
  try simp only [Act.put, List.setIfInBounds_toArray, List.set_cons_zero, List.set_cons_succ]
  refine tk 35 280 undef rfl rfl (by kernel_rfl) (by kernel_rfl) (by kernel_rfl) (fun _ _ _ h => h) (Or.inr ⟨by rfl, rfl⟩) hS ?_
  try simp only [Act.put, List.setIfInBounds_toArray, List.set_cons_zero, List.set_cons_succ]
  refine tk 36 281 undef rfl rfl (by kernel_rfl) (by kernel_rfl) (by kernel_rfl) (fun _ _ _ h => h) (Or.inr ⟨by rfl, rfl⟩) hS ?_
  try simp only [Act.put, List.setIfInBounds_toArray, List.set_cons_zero, List.set_cons_succ]
  refine tk 37 282 undef rfl rfl (by kernel_rfl) (by kernel_rfl) (by kernel_rfl) (fun _ _ _ h => h) (Or.inr ⟨by rfl, rfl⟩) hS ?_
  try simp only [Act.put, List.setIfInBounds_toArray, List.set_cons_zero, List.set_cons_succ]
  refine tk 38 283 undef rfl rfl (by kernel_rfl) (by kernel_rfl) (by kernel_rfl) (fun _ _ _ h => h) (Or.inr ⟨by rfl, rfl⟩) hS ?_
  try simp only [Act.put, List.setIfInBounds_toArray, List.set_cons_zero, List.set_cons_succ]
  refine tk 39 284 undef rfl rfl (by kernel_rfl) (by kernel_rfl) (by kernel_rfl) (fun _ _ _ h => h) (Or.inr ⟨by rfl, rfl⟩) hS ?_
  try simp only [Act.put, List.setIfInBounds_toArray, List.set_cons_zero, List.set_cons_succ]
  refine tk 40 285 undef rfl rfl (by kernel_rfl) (by kernel_rfl) (by kernel_rfl) (fun _ _ _ h => h) (Or.inr ⟨by rfl, rfl⟩) hS ?_
  try simp only [Act.put, List.setIfInBounds_toArray, List.set_cons_zero, List.set_cons_succ]
  refine tk 41 286 undef rfl rfl (by kernel_rfl) (by kernel_rfl) (by kernel_rfl) (fun _ _ _ h => h) (Or.inr ⟨by rfl, rfl⟩) hS ?_
  try simp only [Act.put, List.setIfInBounds_toArray, List.set_cons_zero, List.set_cons_succ]
  refine tk 42 287 undef rfl rfl (by kernel_rfl) (by kernel_rfl) (by kernel_rfl) (fun _ _ _ h => h) (Or.inr ⟨by rfl, rfl⟩) hS ?_
  try simp only [Act.put, List.setIfInBounds_toArray, List.set_cons_zero, List.set_cons_succ]
  refine tk 43 288 undef rfl rfl (by kernel_rfl) (by kernel_rfl) (by kernel_rfl) (fun _ _ _ h => h) (Or.inr ⟨by rfl, rfl⟩) hS ?_
  try simp only [Act.put, List.setIfInBounds_toArray, List.set_cons_zero, List.set_cons_succ]
  refine tk 44 289 undef rfl rfl (by kernel_rfl) (by kernel_rfl) (by kernel_rfl) (fun _ _ _ h => h) (Or.inr ⟨by rfl, rfl⟩) hS ?_
  try simp only [Act.put, List.setIfInBounds_toArray, List.set_cons_zero, List.set_cons_succ]
  refine tk 45 290 (.bool false) rfl rfl (by kernel_rfl) (by kernel_rfl) (by kernel_rfl) (fun _ _ _ h => h) (Or.inl ⟨by rfl, fun w' h' => ?_⟩) hS ?_
  · go_simp
  try simp only [Act.put, List.setIfInBounds_toArray, List.set_cons_zero, List.set_cons_succ]
  refine tk 46 291 (.bool false) rfl rfl (by kernel_rfl) (by kernel_rfl) (by kernel_rfl) (fun _ _ _ h => h) (Or.inl ⟨by rfl, fun w' h' => ?_⟩) hS ?_
  · go_simp
  try simp only [Act.put, List.setIfInBounds_toArray, List.set_cons_zero, List.set_cons_succ]
  refine tk 47 36 (.bool false) rfl rfl (by kernel_rfl) (by kernel_rfl) (by kernel_rfl) (fun _ _ _ h => h) (Or.inl ⟨by rfl, fun w' h' => ?_⟩) hS ?_
  · go_simp
  refine wpAnyH_done (by kernel_rfl) ?_ _
  go_wp2_with fail
  refine Met.intro (hJ0 _ _ ?_)
  exact ⟨⟨rfl, rfl⟩, rfl, rfl, rfl, rfl, rfl, rfl, rfl, rfl, HMd.out⟩

set_option maxRecDepth 100000 in
set_option maxHeartbeats 4000000 in
theorem k50_1 (w : World) (z : Nat) (_h : Nat) (d0 : List Int) (C : List Int) (c1 : Nat) (uc : Nat) (UL : List Uw) (gt : Nat) (kt' : Dk) (c5 : Nat) (j : Nat) (g5 : Nat) (g1 : Nat) (gu : Nat) (hlt : Hid (j < z)) (wq : World) (q : Nat) (HMQ : Hid (Ms w wq [.row (some ⟨g5, 0, none⟩) z c5 C, .row (some ⟨g1, 0, none⟩) z c1 d0, .wts (some ⟨gu, 0, none⟩) uc UL, .disk gt kt'])) (hlq : Hid (q < UL.length)) (x : Uw) (_hx : Hid (UL[q]? = some x)) (_HXD : Hid (Own wq w.heap.size x.a x.n x.c x.d)) (HAT : Hid (0 ≤ x.at_ ∧ x.at_ + x.n ≤ 65536)) (a : Act) (hf : Fr 301 a) (h0 : sl a 0 = .int .i64 (z : Int)) (h19 : sl a 19 = .slice (some ⟨g1, 0, none⟩) z c1) (h23 : sl a 23 = .slice (some ⟨gu, 0, none⟩) UL.length uc) (h26 : sl a 26 = .pointer (some ⟨gt, 0, none⟩)) (h33 : sl a 33 = .slice (some ⟨g5, 0, none⟩) z c5) (h35 : sl a 35 = .int .i64 (j : Int)) (h36 : sl a 36 = .bool true) (h37 : sl a 37 = .int .i64 (q : Int)) :
    Code.wp Try.prog (cAt [1,1,1,1,1,1,1,1,1,1,1,1,1,1,1,1,1,1,1,1,0,1,2,2,1,0,2,1,0,1,2,2,1,0,2] KDK) (Exit.then (fun a' w' => Fr 301 a' ∧ sl a' 0 = .int .i64 (z : Int) ∧ sl a' 19 = .slice (some ⟨g1, 0, none⟩) z c1 ∧ sl a' 23 = .slice (some ⟨gu, 0, none⟩) UL.length uc ∧ sl a' 26 = .pointer (some ⟨gt, 0, none⟩) ∧ sl a' 33 = .slice (some ⟨g5, 0, none⟩) z c5 ∧ sl a' 35 = .int .i64 (j : Int) ∧ sl a' 36 = .bool true ∧ sl a' 37 = .int .i64 (q : Int) ∧ Ms w w' [.row (some ⟨g5, 0, none⟩) z c5 C, .row (some ⟨g1, 0, none⟩) z c1 d0, .wts (some ⟨gu, 0, none⟩) uc UL, .disk gt kt']) Nope) a wq := by
  obtain ⟨f, ha, hs⟩ := frKDK hf
  have e0 := (hs 0).trans h0
  have e19 := (hs 19).trans h19
  have e23 := (hs 23).trans h23
  have e26 := (hs 26).trans h26
  have e33 := (hs 33).trans h33
  have e35 := (hs 35).trans h35
  have e36 := (hs 36).trans h36
  have e37 := (hs 37).trans h37
  rw [e0, e19, e23, e26, e33, e35, e36, e37] at ha
  clear hs hf e0 h0 e19 h19 e23 h23 e26 h26 e33 h33 e35 h35 e36 h36 e37 h37
  subst ha
  refine piece2 fun J0 K0 hJ0 hK0 => ?_
  conv => arg 2; whnf
  have HMd : Hid (Ms w wq.drew [.row (some ⟨g5, 0, none⟩) z c5 C, .row (some ⟨g1, 0, none⟩) z c1 d0, .wts (some ⟨gu, 0, none⟩) uc UL, .disk gt kt']) := HMQ.out.past (Below.refl _ _).drew
  have hq2 : (q : Int) < (UL.length : Int) := by have := hlq.out; omega
  have hq0 : (0 : Int) ≤ (q : Int) := by omega
  have hj2 : (j : Int) < (z : Int) := by have := hlt.out; omega
  have hj0 : (0 : Int) ≤ (j : Int) := by omega
  have hatl := HAT.out
  refine wp_region_held_drew (S := fun w' => Ms w w' [.row (some ⟨g5, 0, none⟩) z c5 C, .row (some ⟨g1, 0, none⟩) z c1 d0, .wts (some ⟨gu, 0, none⟩) uc UL, .disk gt kt']) (by kernel_rfl) HMd.out (fun hS => ?_)
  refine tk 0 245 (.bool true) rfl rfl (by kernel_rfl) (by kernel_rfl) (by kernel_rfl) (fun _ _ _ h => h) (Or.inl ⟨by rfl, fun w' h' => ?_⟩) hS ?_
  · go_simp
  try simp only [Act.put, List.setIfInBounds_toArray, List.set_cons_zero, List.set_cons_succ]
  refine tk 1 246 (.bool true) rfl rfl (by kernel_rfl) (by kernel_rfl) (by kernel_rfl) (fun _ _ _ h => h) (Or.inl ⟨by rfl, fun w' h' => ?_⟩) hS ?_
  · go_simp
  try simp only [Act.put, List.setIfInBounds_toArray, List.set_cons_zero, List.set_cons_succ]
  refine tk 2 247 undef rfl rfl (by kernel_rfl) (by kernel_rfl) (by kernel_rfl) (fun _ _ _ h => h) (Or.inr ⟨by rfl, rfl⟩) hS ?_
  try simp only [Act.put, List.setIfInBounds_toArray, List.set_cons_zero, List.set_cons_succ]
  refine tk 3 248 undef rfl rfl (by kernel_rfl) (by kernel_rfl) (by kernel_rfl) (fun _ _ _ h => h) (Or.inr ⟨by rfl, rfl⟩) hS ?_
  try simp only [Act.put, List.setIfInBounds_toArray, List.set_cons_zero, List.set_cons_succ]
  refine tk 4 249 undef rfl rfl (by kernel_rfl) (by kernel_rfl) (by kernel_rfl) (fun _ _ _ h => h) (Or.inr ⟨by rfl, rfl⟩) hS ?_
  try simp only [Act.put, List.setIfInBounds_toArray, List.set_cons_zero, List.set_cons_succ]
  refine tk 5 250 undef rfl rfl (by kernel_rfl) (by kernel_rfl) (by kernel_rfl) (fun _ _ _ h => h) (Or.inr ⟨by rfl, rfl⟩) hS ?_
  try simp only [Act.put, List.setIfInBounds_toArray, List.set_cons_zero, List.set_cons_succ]
  refine tk 6 251 undef rfl rfl (by kernel_rfl) (by kernel_rfl) (by kernel_rfl) (fun _ _ _ h => h) (Or.inr ⟨by rfl, rfl⟩) hS ?_
  try simp only [Act.put, List.setIfInBounds_toArray, List.set_cons_zero, List.set_cons_succ]
  refine tk 7 252 undef rfl rfl (by kernel_rfl) (by kernel_rfl) (by kernel_rfl) (fun _ _ _ h => h) (Or.inr ⟨by rfl, rfl⟩) hS ?_
  try simp only [Act.put, List.setIfInBounds_toArray, List.set_cons_zero, List.set_cons_succ]
  refine tk 8 253 undef rfl rfl (by kernel_rfl) (by kernel_rfl) (by kernel_rfl) (fun _ _ _ h => h) (Or.inr ⟨by rfl, rfl⟩) hS ?_
  try simp only [Act.put, List.setIfInBounds_toArray, List.set_cons_zero, List.set_cons_succ]
  refine tk 9 254 undef rfl rfl (by kernel_rfl) (by kernel_rfl) (by kernel_rfl) (fun _ _ _ h => h) (Or.inr ⟨by rfl, rfl⟩) hS ?_
  try simp only [Act.put, List.setIfInBounds_toArray, List.set_cons_zero, List.set_cons_succ]
  refine tk 10 255 undef rfl rfl (by kernel_rfl) (by kernel_rfl) (by kernel_rfl) (fun _ _ _ h => h) (Or.inr ⟨by rfl, rfl⟩) hS ?_
  try simp only [Act.put, List.setIfInBounds_toArray, List.set_cons_zero, List.set_cons_succ]
  refine tk 11 256 undef rfl rfl (by kernel_rfl) (by kernel_rfl) (by kernel_rfl) (fun _ _ _ h => h) (Or.inr ⟨by rfl, rfl⟩) hS ?_
  try simp only [Act.put, List.setIfInBounds_toArray, List.set_cons_zero, List.set_cons_succ]
  refine tk 12 257 undef rfl rfl (by kernel_rfl) (by kernel_rfl) (by kernel_rfl) (fun _ _ _ h => h) (Or.inr ⟨by rfl, rfl⟩) hS ?_
  try simp only [Act.put, List.setIfInBounds_toArray, List.set_cons_zero, List.set_cons_succ]
  refine tk 13 258 undef rfl rfl (by kernel_rfl) (by kernel_rfl) (by kernel_rfl) (fun _ _ _ h => h) (Or.inr ⟨by rfl, rfl⟩) hS ?_
  try simp only [Act.put, List.setIfInBounds_toArray, List.set_cons_zero, List.set_cons_succ]
  refine tk 14 259 undef rfl rfl (by kernel_rfl) (by kernel_rfl) (by kernel_rfl) (fun _ _ _ h => h) (Or.inr ⟨by rfl, rfl⟩) hS ?_
  try simp only [Act.put, List.setIfInBounds_toArray, List.set_cons_zero, List.set_cons_succ]
  refine tk 15 260 undef rfl rfl (by kernel_rfl) (by kernel_rfl) (by kernel_rfl) (fun _ _ _ h => h) (Or.inr ⟨by rfl, rfl⟩) hS ?_
  try simp only [Act.put, List.setIfInBounds_toArray, List.set_cons_zero, List.set_cons_succ]
  refine tk 16 261 undef rfl rfl (by kernel_rfl) (by kernel_rfl) (by kernel_rfl) (fun _ _ _ h => h) (Or.inr ⟨by rfl, rfl⟩) hS ?_
  try simp only [Act.put, List.setIfInBounds_toArray, List.set_cons_zero, List.set_cons_succ]
  refine tk 17 262 undef rfl rfl (by kernel_rfl) (by kernel_rfl) (by kernel_rfl) (fun _ _ _ h => h) (Or.inr ⟨by rfl, rfl⟩) hS ?_
  try simp only [Act.put, List.setIfInBounds_toArray, List.set_cons_zero, List.set_cons_succ]
  refine tk 18 263 undef rfl rfl (by kernel_rfl) (by kernel_rfl) (by kernel_rfl) (fun _ _ _ h => h) (Or.inr ⟨by rfl, rfl⟩) hS ?_
  try simp only [Act.put, List.setIfInBounds_toArray, List.set_cons_zero, List.set_cons_succ]
  refine tk 19 264 undef rfl rfl (by kernel_rfl) (by kernel_rfl) (by kernel_rfl) (fun _ _ _ h => h) (Or.inr ⟨by rfl, rfl⟩) hS ?_
  try simp only [Act.put, List.setIfInBounds_toArray, List.set_cons_zero, List.set_cons_succ]
  refine tk 20 265 undef rfl rfl (by kernel_rfl) (by kernel_rfl) (by kernel_rfl) (fun _ _ _ h => h) (Or.inr ⟨by rfl, rfl⟩) hS ?_
  try simp only [Act.put, List.setIfInBounds_toArray, List.set_cons_zero, List.set_cons_succ]
  refine tk 21 266 undef rfl rfl (by kernel_rfl) (by kernel_rfl) (by kernel_rfl) (fun _ _ _ h => h) (Or.inr ⟨by rfl, rfl⟩) hS ?_
  try simp only [Act.put, List.setIfInBounds_toArray, List.set_cons_zero, List.set_cons_succ]
  refine tk 22 267 undef rfl rfl (by kernel_rfl) (by kernel_rfl) (by kernel_rfl) (fun _ _ _ h => h) (Or.inr ⟨by rfl, rfl⟩) hS ?_
  try simp only [Act.put, List.setIfInBounds_toArray, List.set_cons_zero, List.set_cons_succ]
  refine tk 23 268 undef rfl rfl (by kernel_rfl) (by kernel_rfl) (by kernel_rfl) (fun _ _ _ h => h) (Or.inr ⟨by rfl, rfl⟩) hS ?_
  try simp only [Act.put, List.setIfInBounds_toArray, List.set_cons_zero, List.set_cons_succ]
  refine tk 24 269 undef rfl rfl (by kernel_rfl) (by kernel_rfl) (by kernel_rfl) (fun _ _ _ h => h) (Or.inr ⟨by rfl, rfl⟩) hS ?_
  try simp only [Act.put, List.setIfInBounds_toArray, List.set_cons_zero, List.set_cons_succ]
  refine tk 25 270 undef rfl rfl (by kernel_rfl) (by kernel_rfl) (by kernel_rfl) (fun _ _ _ h => h) (Or.inr ⟨by rfl, rfl⟩) hS ?_
  try simp only [Act.put, List.setIfInBounds_toArray, List.set_cons_zero, List.set_cons_succ]
  refine tk 26 271 undef rfl rfl (by kernel_rfl) (by kernel_rfl) (by kernel_rfl) (fun _ _ _ h => h) (Or.inr ⟨by rfl, rfl⟩) hS ?_
  try simp only [Act.put, List.setIfInBounds_toArray, List.set_cons_zero, List.set_cons_succ]
  refine tk 27 272 undef rfl rfl (by kernel_rfl) (by kernel_rfl) (by kernel_rfl) (fun _ _ _ h => h) (Or.inr ⟨by rfl, rfl⟩) hS ?_
  try simp only [Act.put, List.setIfInBounds_toArray, List.set_cons_zero, List.set_cons_succ]
  refine tk 28 273 undef rfl rfl (by kernel_rfl) (by kernel_rfl) (by kernel_rfl) (fun _ _ _ h => h) (Or.inr ⟨by rfl, rfl⟩) hS ?_
  try simp only [Act.put, List.setIfInBounds_toArray, List.set_cons_zero, List.set_cons_succ]
  refine tk 29 274 undef rfl rfl (by kernel_rfl) (by kernel_rfl) (by kernel_rfl) (fun _ _ _ h => h) (Or.inr ⟨by rfl, rfl⟩) hS ?_
  try simp only [Act.put, List.setIfInBounds_toArray, List.set_cons_zero, List.set_cons_succ]
  refine tk 30 275 undef rfl rfl (by kernel_rfl) (by kernel_rfl) (by kernel_rfl) (fun _ _ _ h => h) (Or.inr ⟨by rfl, rfl⟩) hS ?_
  try simp only [Act.put, List.setIfInBounds_toArray, List.set_cons_zero, List.set_cons_succ]
  refine tk 31 276 undef rfl rfl (by kernel_rfl) (by kernel_rfl) (by kernel_rfl) (fun _ _ _ h => h) (Or.inr ⟨by rfl, rfl⟩) hS ?_
  try simp only [Act.put, List.setIfInBounds_toArray, List.set_cons_zero, List.set_cons_succ]
  refine tk 32 277 undef rfl rfl (by kernel_rfl) (by kernel_rfl) (by kernel_rfl) (fun _ _ _ h => h) (Or.inr ⟨by rfl, rfl⟩) hS ?_
  try simp only [Act.put, List.setIfInBounds_toArray, List.set_cons_zero, List.set_cons_succ]
  refine tk 33 278 undef rfl rfl (by kernel_rfl) (by kernel_rfl) (by kernel_rfl) (fun _ _ _ h => h) (Or.inr ⟨by rfl, rfl⟩) hS ?_
  try simp only [Act.put, List.setIfInBounds_toArray, List.set_cons_zero, List.set_cons_succ]
  refine tk 34 279 undef rfl rfl (by kernel_rfl) (by kernel_rfl) (by kernel_rfl) (fun _ _ _ h => h) (Or.inr ⟨by rfl, rfl⟩) hS ?_
  try simp only [Act.put, List.setIfInBounds_toArray, List.set_cons_zero, List.set_cons_succ]
  refine tk 35 280 undef rfl rfl (by kernel_rfl) (by kernel_rfl) (by kernel_rfl) (fun _ _ _ h => h) (Or.inr ⟨by rfl, rfl⟩) hS ?_
  try simp only [Act.put, List.setIfInBounds_toArray, List.set_cons_zero, List.set_cons_succ]
  refine tk 36 281 undef rfl rfl (by kernel_rfl) (by kernel_rfl) (by kernel_rfl) (fun _ _ _ h => h) (Or.inr ⟨by rfl, rfl⟩) hS ?_
  try simp only [Act.put, List.setIfInBounds_toArray, List.set_cons_zero, List.set_cons_succ]
  refine tk 37 282 undef rfl rfl (by kernel_rfl) (by kernel_rfl) (by kernel_rfl) (fun _ _ _ h => h) (Or.inr ⟨by rfl, rfl⟩) hS ?_
  try simp only [Act.put, List.setIfInBounds_toArray, List.set_cons_zero, List.set_cons_succ]
  refine tk 38 283 undef rfl rfl (by kernel_rfl) (by kernel_rfl) (by kernel_rfl) (fun _ _ _ h => h) (Or.inr ⟨by rfl, rfl⟩) hS ?_
  try simp only [Act.put, List.setIfInBounds_toArray, List.set_cons_zero, List.set_cons_succ]
  refine tk 39 284 undef rfl rfl (by kernel_rfl) (by kernel_rfl) (by kernel_rfl) (fun _ _ _ h => h) (Or.inr ⟨by rfl, rfl⟩) hS ?_
  try simp only [Act.put, List.setIfInBounds_toArray, List.set_cons_zero, List.set_cons_succ]
  refine tk 40 285 undef rfl rfl (by kernel_rfl) (by kernel_rfl) (by kernel_rfl) (fun _ _ _ h => h) (Or.inr ⟨by rfl, rfl⟩) hS ?_
  try simp only [Act.put, List.setIfInBounds_toArray, List.set_cons_zero, List.set_cons_succ]
  refine tk 41 286 undef rfl rfl (by kernel_rfl) (by kernel_rfl) (by kernel_rfl) (fun _ _ _ h => h) (Or.inr ⟨by rfl, rfl⟩) hS ?_
  try simp only [Act.put, List.setIfInBounds_toArray, List.set_cons_zero, List.set_cons_succ]
  refine tk 42 287 undef rfl rfl (by kernel_rfl) (by kernel_rfl) (by kernel_rfl) (fun _ _ _ h => h) (Or.inr ⟨by rfl, rfl⟩) hS ?_
  try simp only [Act.put, List.setIfInBounds_toArray, List.set_cons_zero, List.set_cons_succ]
  refine tk 43 288 undef rfl rfl (by kernel_rfl) (by kernel_rfl) (by kernel_rfl) (fun _ _ _ h => h) (Or.inr ⟨by rfl, rfl⟩) hS ?_
  try simp only [Act.put, List.setIfInBounds_toArray, List.set_cons_zero, List.set_cons_succ]
  refine tk 44 289 undef rfl rfl (by kernel_rfl) (by kernel_rfl) (by kernel_rfl) (fun _ _ _ h => h) (Or.inr ⟨by rfl, rfl⟩) hS ?_
  try simp only [Act.put, List.setIfInBounds_toArray, List.set_cons_zero, List.set_cons_succ]
  refine tk 45 290 undef rfl rfl (by kernel_rfl) (by kernel_rfl) (by kernel_rfl) (fun _ _ _ h => h) (Or.inr ⟨by rfl, rfl⟩) hS ?_
  try simp only [Act.put, List.setIfInBounds_toArray, List.set_cons_zero, List.set_cons_succ]
  refine tk 46 291 (.bool true) rfl rfl (by kernel_rfl) (by kernel_rfl) (by kernel_rfl) (fun _ _ _ h => h) (Or.inl ⟨by rfl, fun w' h' => ?_⟩) hS ?_
  · go_simp
  try simp only [Act.put, List.setIfInBounds_toArray, List.set_cons_zero, List.set_cons_succ]
  refine tk 47 36 (.bool true) rfl rfl (by kernel_rfl) (by kernel_rfl) (by kernel_rfl) (fun _ _ _ h => h) (Or.inl ⟨by rfl, fun w' h' => ?_⟩) hS ?_
  · go_simp
  refine wpAnyH_done (by kernel_rfl) ?_ _
  go_wp2_with fail
  refine Met.intro (hJ0 _ _ ?_)
  exact ⟨⟨rfl, rfl⟩, rfl, rfl, rfl, rfl, rfl, rfl, rfl, rfl, HMd.out⟩

set_option maxRecDepth 100000 in
set_option maxHeartbeats 4000000 in
theorem k49 (z : Nat) (d0 : List Int) (ws : List (Int × List Int)) (C : List Int) (hw40 : Hid (ws.length ≤ 40)) (c1 : Nat) (ua : Option Addr) (uc : Nat) (UL : List Uw) (gt : Nat) (hun : Hid (UL.length = ws.length)) (c5 : Nat) (j : Nat) (g5 : Nat) (g1 : Nat) (q : Nat) (hlq : Hid (q < UL.length)) (wm : World) (a : Act) (hf : Fr 301 a) (h0 : sl a 0 = .int .i64 (z : Int)) (h19 : sl a 19 = .slice (some ⟨g1, 0, none⟩) z c1) (h23 : sl a 23 = .slice ua UL.length uc) (h26 : sl a 26 = .pointer (some ⟨gt, 0, none⟩)) (h33 : sl a 33 = .slice (some ⟨g5, 0, none⟩) z c5) (h35 : sl a 35 = .int .i64 (j : Int)) (h36 : sl a 36 = .bool (mayV C d0 ws j (q + 1))) (h37 : sl a 37 = .int .i64 (q : Int)) :
    Code.wp Try.prog (cAt [1,1,1,1,1,1,1,1,1,1,1,1,1,1,1,1,1,1,1,1,0,1,2,2,1,0,2,1,0,1,2,2,1,1] KDK) (Exit.then (fun a' w' => Fr 301 a' ∧ sl a' 0 = .int .i64 (z : Int) ∧ sl a' 19 = .slice (some ⟨g1, 0, none⟩) z c1 ∧ sl a' 23 = .slice ua UL.length uc ∧ sl a' 26 = .pointer (some ⟨gt, 0, none⟩) ∧ sl a' 33 = .slice (some ⟨g5, 0, none⟩) z c5 ∧ sl a' 35 = .int .i64 (j : Int) ∧ sl a' 36 = .bool (mayV C d0 ws j (q + 1)) ∧ sl a' 37 = .int .i64 ((q + 1 : Nat) : Int) ∧ wm = w') Nope) a wm := by
  obtain ⟨f, ha, hs⟩ := frKDK hf
  have e0 := (hs 0).trans h0
  have e19 := (hs 19).trans h19
  have e23 := (hs 23).trans h23
  have e26 := (hs 26).trans h26
  have e33 := (hs 33).trans h33
  have e35 := (hs 35).trans h35
  have e36 := (hs 36).trans h36
  have e37 := (hs 37).trans h37
  rw [e0, e19, e23, e26, e33, e35, e36, e37] at ha
  clear hs hf e0 h0 e19 h19 e23 h23 e26 h26 e33 h33 e35 h35 e36 h36 e37 h37
  subst ha
  refine piece2 fun J0 K0 hJ0 hK0 => ?_
  conv => arg 2; whnf
  have hw : IntKind.i64.wrap ((q : Int) + 1) = ((q + 1 : Nat) : Int) := by have := hlq.out; have := hun.out; have := hw40.out; rw [IntKind.wrap_i64]; omega
  go_wp2_with fail
  refine Met.intro (hJ0 _ _ ?_)
  exact ⟨⟨rfl, rfl⟩, rfl, rfl, rfl, rfl, rfl, rfl, rfl, rfl, rfl⟩

theorem keeps_may (w : World) (z : Nat) (HZ : Hid (z ≤ 300)) (h : Nat) (d0 : List Int) (ws : List (Int × List Int)) (C : List Int) (hw40 : Hid (ws.length ≤ 40)) (HIX : Hid (∀ y ∈ ws, 0 ≤ y.1 ∧ y.1 + y.2.length ≤ (z : Int))) (c1 : Nat) (ua : Option Addr) (uc : Nat) (UL : List Uw) (HUL : Hid (UL.map Uw.pl = ws)) (gt : Nat) (hun : Hid (UL.length = ws.length)) (kt' : Dk) (c5 : Nat) (j : Nat) (g5 : Nat) (g1 : Nat) (hlt : Hid (j < z)) (w46 : World) (HM46 : Hid (Ms w w46 [.row (some ⟨g5, 0, none⟩) z c5 C, .row (some ⟨g1, 0, none⟩) z c1 d0, .wts ua uc UL, .disk gt kt'])) (a : Act) (hf : Fr 301 a) (h0 : sl a 0 = .int .i64 (z : Int)) (h19 : sl a 19 = .slice (some ⟨g1, 0, none⟩) z c1) (h23 : sl a 23 = .slice ua UL.length uc) (h26 : sl a 26 = .pointer (some ⟨gt, 0, none⟩)) (h33 : sl a 33 = .slice (some ⟨g5, 0, none⟩) z c5) (h35 : sl a 35 = .int .i64 (j : Int)) (h36 : sl a 36 = .bool (mayV C d0 ws j 0)) :
    Code.wp Try.prog (cAt [1,1,1,1,1,1,1,1,1,1,1,1,1,1,1,1,1,1,1,1,0,1,2,2,1,0,2,1,0] KDK) (Exit.then (fun a' w' => Fr 301 a' ∧ sl a' 0 = .int .i64 (z : Int) ∧ sl a' 19 = .slice (some ⟨g1, 0, none⟩) z c1 ∧ sl a' 23 = .slice ua UL.length uc ∧ sl a' 26 = .pointer (some ⟨gt, 0, none⟩) ∧ sl a' 33 = .slice (some ⟨g5, 0, none⟩) z c5 ∧ sl a' 35 = .int .i64 (j : Int) ∧ sl a' 36 = .bool (mayV C d0 ws j ws.length) ∧ Ms w w' [.row (some ⟨g5, 0, none⟩) z c5 C, .row (some ⟨g1, 0, none⟩) z c1 d0, .wts ua uc UL, .disk gt kt']) Nope) a w46 := by
  have HZ := HZ.out
  have hw40 := hw40.out
  have HIX := HIX.out
  have HUL := HUL.out
  have hun := hun.out
  have hlt := hlt.out
  have HM46 := HM46.out
  refine wp_sqR (x := cAt [1,1,1,1,1,1,1,1,1,1,1,1,1,1,1,1,1,1,1,1,0,1,2,2,1,0,2,1,0,0] KDK) (y := cAt [1,1,1,1,1,1,1,1,1,1,1,1,1,1,1,1,1,1,1,1,0,1,2,2,1,0,2,1,0,1] KDK) (by kernel_rfl) (k47 z d0 ws C c1 ua uc UL gt c5 j g5 g1 w46 a hf h0 h19 h23 h26 h33 h35 h36) ?_
  rintro a_49 _ ⟨hf, h0, h19, h23, h26, h33, h35, h36, h37, rfl⟩
  refine wp_blockR (x := cAt [1,1,1,1,1,1,1,1,1,1,1,1,1,1,1,1,1,1,1,1,0,1,2,2,1,0,2,1,0,1,2] KDK) (id := 7) (by kernel_rfl) ?_
  refine wp_loopR (x := cAt [1,1,1,1,1,1,1,1,1,1,1,1,1,1,1,1,1,1,1,1,0,1,2,2,1,0,2,1,0,1,2,2] KDK) (by kernel_rfl) (fun a' w' => ∃ q : Nat, q ≤ UL.length ∧ Ms w w' [.row (some ⟨g5, 0, none⟩) z c5 C, .row (some ⟨g1, 0, none⟩) z c1 d0, .wts ua uc UL, .disk gt kt'] ∧ Fr 301 a' ∧ sl a' 0 = .int .i64 (z : Int) ∧ sl a' 19 = .slice (some ⟨g1, 0, none⟩) z c1 ∧ sl a' 23 = .slice ua UL.length uc ∧ sl a' 26 = .pointer (some ⟨gt, 0, none⟩) ∧ sl a' 33 = .slice (some ⟨g5, 0, none⟩) z c5 ∧ sl a' 35 = .int .i64 (j : Int) ∧ sl a' 36 = .bool (mayV C d0 ws j q) ∧ sl a' 37 = .int .i64 (q : Int)) (fun a' _ => UL.length - (numOf (sl a' 37)).toNat) ⟨0, Nat.zero_le _, HM46, hf, h0, h19, h23, h26, h33, h35, h36, h37⟩ ?_
  rintro a_q wq ⟨q, hq, HMQ, hf, h0, h19, h23, h26, h33, h35, h36, h37⟩
  have h37a := h37
  by_cases hlq : q < UL.length
  case neg =>
    refine wp_endX (k48x z d0 ws C c1 ua uc UL gt c5 j g5 g1 wq q hlq a_q hf h0 h19 h23 h26 h33 h35 h36 h37) ?_
    rintro a_50 _ ⟨hf, h0, h19, h23, h26, h33, h35, h36, rfl⟩
    obtain hqm : q = UL.length := by omega
    rw [hqm, hun] at h36
    exact thru ⟨hf, h0, h19, h23, h26, h33, h35, h36, HMQ⟩
  refine wp_sqR (x := cAt [1,1,1,1,1,1,1,1,1,1,1,1,1,1,1,1,1,1,1,1,0,1,2,2,1,0,2,1,0,1,2,2,0] KDK) (y := cAt [1,1,1,1,1,1,1,1,1,1,1,1,1,1,1,1,1,1,1,1,0,1,2,2,1,0,2,1,0,1,2,2,1] KDK) (by kernel_rfl) (k48 z d0 ws C c1 ua uc UL gt c5 j g5 g1 wq q hlq a_q hf h0 h19 h23 h26 h33 h35 h36 h37) ?_
  rintro a_51 _ ⟨hf, h0, h19, h23, h26, h33, h35, h36, h37, rfl⟩
  refine wp_sqR (x := cAt [1,1,1,1,1,1,1,1,1,1,1,1,1,1,1,1,1,1,1,1,0,1,2,2,1,0,2,1,0,1,2,2,1,0] KDK) (y := cAt [1,1,1,1,1,1,1,1,1,1,1,1,1,1,1,1,1,1,1,1,0,1,2,2,1,0,2,1,0,1,2,2,1,1] KDK) (by kernel_rfl) (R := fun a' w' => Ms w w' [.row (some ⟨g5, 0, none⟩) z c5 C, .row (some ⟨g1, 0, none⟩) z c1 d0, .wts ua uc UL, .disk gt kt'] ∧ Fr 301 a' ∧ sl a' 0 = .int .i64 (z : Int) ∧ sl a' 19 = .slice (some ⟨g1, 0, none⟩) z c1 ∧ sl a' 23 = .slice ua UL.length uc ∧ sl a' 26 = .pointer (some ⟨gt, 0, none⟩) ∧ sl a' 33 = .slice (some ⟨g5, 0, none⟩) z c5 ∧ sl a' 35 = .int .i64 (j : Int) ∧ sl a' 36 = .bool (mayV C d0 ws j (q + 1)) ∧ sl a' 37 = .int .i64 (q : Int)) ?_ ?_
  · refine wp_blockR (x := cAt [1,1,1,1,1,1,1,1,1,1,1,1,1,1,1,1,1,1,1,1,0,1,2,2,1,0,2,1,0,1,2,2,1,0,2] KDK) (id := 8) (by kernel_rfl) ?_
    obtain ⟨gu, heu⟩ := Uws.addr (HMQ.ok (.wts ua uc UL) (by simp)) (by omega)
    subst heu
    obtain ⟨x, hx⟩ : ∃ x, UL[q]? = some x := ⟨_, List.getElem?_eq_getElem hlq⟩
    have HM1 : mayV C d0 ws j (q + 1) = (mayV C d0 ws j q || hitB x.pl j (C.getD j 0)) := mayV_succ (by rw [← HUL, List.getElem?_map, hx]; rfl)
    have HXD : Own wq w.heap.size x.a x.n x.c x.d := (Uws.data (HMQ.ok (.wts (some ⟨gu, 0, none⟩) uc UL) (by simp)) x (List.mem_of_getElem? hx))
    have hxl : x.pl.2.length = x.n := HXD.len
    have hxp : x.pl.1 = x.at_ := rfl
    have HAT : 0 ≤ x.at_ ∧ x.at_ + x.n ≤ 65536 := by
      have h1 := HIX x.pl (by rw [← HUL]; exact List.mem_map.2 ⟨x, List.mem_of_getElem? hx, rfl⟩)
      rw [hxl, hxp] at h1
      have hz3 := HZ
      exact ⟨h1.1, by omega⟩
    rw [HM1]
    cases hmv : mayV C d0 ws j q
    · rw [hmv] at h36
      rw [Bool.false_or]
      by_cases hge : x.at_ ≤ (j : Int)
      · by_cases hls : (j : Int) < x.at_ + x.n
        · obtain ⟨t, ht⟩ : ∃ t : Nat, (j : Int) - x.at_ = (t : Int) := ⟨((j : Int) - x.at_).toNat, by omega⟩
          have htn : t < x.n := by omega
          obtain ⟨gx, hgx⟩ := Own.addr HXD (by omega)
          have HGX : x.a = some ⟨gx, 0, none⟩ ∧ True := ⟨hgx, trivial⟩
          have HGC : ∀ w' : World, Ms w w' [.row (some ⟨g5, 0, none⟩) z c5 C, .row (some ⟨g1, 0, none⟩) z c1 d0, .wts (some ⟨gu, 0, none⟩) uc UL, .disk gt kt'] → w'.cell? ⟨gx, t, none⟩ = some (.int .u8 (x.d.getD t 0)) := fun w' h' => by
            have h1 := Uws.data (h'.ok (.wts (some ⟨gu, 0, none⟩) uc UL) (by simp)) x (List.mem_of_getElem? hx)
            rw [hgx] at h1
            exact Own.cell h1 htn
          rw [show hitB x.pl j (C.getD j 0) = decide (x.d.getD t 0 = C.getD j 0) by
            unfold hitB
            rw [hxl, hxp, decide_eq_true hge, decide_eq_true hls, ht, Int.toNat_natCast]
            rfl]
          refine wp_endR (k50_4 w z h d0 C c1 uc UL gt kt' c5 j g5 g1 gu hlt wq q HMQ hlq x hx HXD HAT hge hls t gx ht htn HGX HGC a_51 hf h0 h19 h23 h26 h33 h35 h36 h37) ?_
          rintro a_52 w50 ⟨hf, h0, h19, h23, h26, h33, h35, h36, h37, HM50⟩
          exact ⟨HM50, hf, h0, h19, h23, h26, h33, h35, h36, h37⟩
        · rw [show hitB x.pl j (C.getD j 0) = false by
            unfold hitB
            rw [hxl, hxp, decide_eq_true hge, decide_eq_false hls]
            rfl]
          refine wp_endR (k50_3 w z h d0 C c1 uc UL gt kt' c5 j g5 g1 gu hlt wq q HMQ hlq x hx HXD HAT hge hls a_51 hf h0 h19 h23 h26 h33 h35 h36 h37) ?_
          rintro a_53 w50 ⟨hf, h0, h19, h23, h26, h33, h35, h36, h37, HM50⟩
          exact ⟨HM50, hf, h0, h19, h23, h26, h33, h35, h36, h37⟩
      · rw [show hitB x.pl j (C.getD j 0) = false by
          unfold hitB
          rw [hxp, decide_eq_false hge]
          rfl]
        refine wp_endR (k50_2 w z h d0 C c1 uc UL gt kt' c5 j g5 g1 gu hlt wq q HMQ hlq x hx HXD HAT hge a_51 hf h0 h19 h23 h26 h33 h35 h36 h37) ?_
        rintro a_54 w50 ⟨hf, h0, h19, h23, h26, h33, h35, h36, h37, HM50⟩
        exact ⟨HM50, hf, h0, h19, h23, h26, h33, h35, h36, h37⟩
    · rw [hmv] at h36
      rw [Bool.true_or]
      refine wp_endR (k50_1 w z h d0 C c1 uc UL gt kt' c5 j g5 g1 gu hlt wq q HMQ hlq x hx HXD HAT a_51 hf h0 h19 h23 h26 h33 h35 h36 h37) ?_
      rintro a_55 w50 ⟨hf, h0, h19, h23, h26, h33, h35, h36, h37, HM50⟩
      exact ⟨HM50, hf, h0, h19, h23, h26, h33, h35, h36, h37⟩
  rintro a_m wm ⟨HM50, hf, h0, h19, h23, h26, h33, h35, h36, h37⟩
  refine wp_endR (k49 z d0 ws C hw40 c1 ua uc UL gt hun c5 j g5 g1 q hlq wm a_m hf h0 h19 h23 h26 h33 h35 h36 h37) ?_
  rintro a_56 _ ⟨hf, h0, h19, h23, h26, h33, h35, h36, h37, rfl⟩
  refine ⟨⟨q + 1, hlq, HM50, hf, h0, h19, h23, h26, h33, h35, h36, h37⟩, ?_⟩
  rw [h37a, h37]
  simp only [numOf]
  omega

set_option maxRecDepth 100000 in
set_option maxHeartbeats 4000000 in
theorem k51 (z : Nat) (c1 : Nat) (ua : Option Addr) (uc : Nat) (UL : List Uw) (gt : Nat) (c5 : Nat) (j : Nat) (g5 : Nat) (g1 : Nat) (w48 : World) (a : Act) (hf : Fr 301 a) (h0 : sl a 0 = .int .i64 (z : Int)) (h19 : sl a 19 = .slice (some ⟨g1, 0, none⟩) z c1) (h23 : sl a 23 = .slice ua UL.length uc) (h26 : sl a 26 = .pointer (some ⟨gt, 0, none⟩)) (h33 : sl a 33 = .slice (some ⟨g5, 0, none⟩) z c5) (h35 : sl a 35 = .int .i64 (j : Int)) (h36 : sl a 36 = .bool true) :
    Code.wp Try.prog (cAt [1,1,1,1,1,1,1,1,1,1,1,1,1,1,1,1,1,1,1,1,0,1,2,2,1,0,2,1,1,0] KDK) (Exit.then (fun a' w' => Fr 301 a' ∧ sl a' 0 = .int .i64 (z : Int) ∧ sl a' 19 = .slice (some ⟨g1, 0, none⟩) z c1 ∧ sl a' 23 = .slice ua UL.length uc ∧ sl a' 26 = .pointer (some ⟨gt, 0, none⟩) ∧ sl a' 33 = .slice (some ⟨g5, 0, none⟩) z c5 ∧ sl a' 35 = .int .i64 (j : Int) ∧ sl a' 293 = .bool false ∧ w48 = w') Nope) a w48 := by
  obtain ⟨f, ha, hs⟩ := frKDK hf
  have e0 := (hs 0).trans h0
  have e19 := (hs 19).trans h19
  have e23 := (hs 23).trans h23
  have e26 := (hs 26).trans h26
  have e33 := (hs 33).trans h33
  have e35 := (hs 35).trans h35
  have e36 := (hs 36).trans h36
  rw [e0, e19, e23, e26, e33, e35, e36] at ha
  clear hs hf e0 h0 e19 h19 e23 h23 e26 h26 e33 h33 e35 h35 e36 h36
  subst ha
  refine piece2 fun J0 K0 hJ0 hK0 => ?_
  conv => arg 2; whnf
  go_wp2_with fail
  refine Met.intro (hJ0 _ _ ?_)
  exact ⟨⟨rfl, rfl⟩, rfl, rfl, rfl, rfl, rfl, rfl, rfl, rfl⟩

theorem keeps_byte (w : World) (z : Nat) (HZ : Hid (z ≤ 300)) (h : Nat) (d0 : List Int) (ws : List (Int × List Int)) (C : List Int) (hw40 : Hid (ws.length ≤ 40)) (HIX : Hid (∀ y ∈ ws, 0 ≤ y.1 ∧ y.1 + y.2.length ≤ (z : Int))) (a1 : Option Addr) (c1 : Nat) (ua : Option Addr) (uc : Nat) (UL : List Uw) (HUL : Hid (UL.map Uw.pl = ws)) (gt : Nat) (hun : Hid (UL.length = ws.length)) (kt' : Dk) (a5 : Option Addr) (c5 : Nat) (hfin : Hid (∀ j, j < z → mayV C d0 ws j ws.length = true)) (wl : World) (j : Nat) (HML : Hid (Ms w wl [.row a5 z c5 C, .row a1 z c1 d0, .wts ua uc UL, .disk gt kt'])) (hlt : Hid (j < z)) (a : Act) (hf : Fr 301 a) (h0 : sl a 0 = .int .i64 (z : Int)) (h19 : sl a 19 = .slice a1 z c1) (h23 : sl a 23 = .slice ua UL.length uc) (h26 : sl a 26 = .pointer (some ⟨gt, 0, none⟩)) (h33 : sl a 33 = .slice a5 z c5) (h35 : sl a 35 = .int .i64 (j : Int)) :
    Code.wp Try.prog (cAt [1,1,1,1,1,1,1,1,1,1,1,1,1,1,1,1,1,1,1,1,0,1,2,2,1,0] KDK) (Exit.then (fun a' w' => Fr 301 a' ∧ sl a' 0 = .int .i64 (z : Int) ∧ sl a' 19 = .slice a1 z c1 ∧ sl a' 23 = .slice ua UL.length uc ∧ sl a' 26 = .pointer (some ⟨gt, 0, none⟩) ∧ sl a' 33 = .slice a5 z c5 ∧ sl a' 35 = .int .i64 (j : Int) ∧ Ms w w' [.row a5 z c5 C, .row a1 z c1 d0, .wts ua uc UL, .disk gt kt']) Nope) a wl := by
  have HZ := HZ.out
  have hw40 := hw40.out
  have HIX := HIX.out
  have HUL := HUL.out
  have hun := hun.out
  have hfin := hfin.out
  have HML := HML.out
  have hlt := hlt.out
  refine wp_blockR (x := cAt [1,1,1,1,1,1,1,1,1,1,1,1,1,1,1,1,1,1,1,1,0,1,2,2,1,0,2] KDK) (id := 6) (by kernel_rfl) ?_
  obtain ⟨g5, he5⟩ := Own.addr (HML.ok (.row a5 z c5 C) (by simp)) (by omega)
  obtain ⟨g1, he1⟩ := Own.addr (HML.ok (.row a1 z c1 d0) (by simp)) (by omega)
  subst he5 he1
  refine wp_sqR (x := cAt [1,1,1,1,1,1,1,1,1,1,1,1,1,1,1,1,1,1,1,1,0,1,2,2,1,0,2,0] KDK) (y := cAt [1,1,1,1,1,1,1,1,1,1,1,1,1,1,1,1,1,1,1,1,0,1,2,2,1,0,2,1] KDK) (by kernel_rfl) (k46 w z h d0 ws C c1 ua uc UL gt kt' c5 wl j g5 g1 HML hlt a hf h0 h19 h23 h26 h33 h35) ?_
  rintro a_48 w46 ⟨hf, h0, h19, h23, h26, h33, h35, h36, HM46⟩
  refine wp_sqR (x := cAt [1,1,1,1,1,1,1,1,1,1,1,1,1,1,1,1,1,1,1,1,0,1,2,2,1,0,2,1,0] KDK) (y := cAt [1,1,1,1,1,1,1,1,1,1,1,1,1,1,1,1,1,1,1,1,0,1,2,2,1,0,2,1,1] KDK) (by kernel_rfl) (keeps_may w z HZ h d0 ws C hw40 HIX c1 ua uc UL HUL gt hun kt' c5 j g5 g1 hlt w46 HM46 a_48 hf h0 h19 h23 h26 h33 h35 h36) ?_
  rintro a_57 w48 ⟨hf, h0, h19, h23, h26, h33, h35, h36, HM7⟩
  rw [hfin j hlt] at h36
  refine wp_sqR (x := cAt [1,1,1,1,1,1,1,1,1,1,1,1,1,1,1,1,1,1,1,1,0,1,2,2,1,0,2,1,1,0] KDK) (y := cAt [1,1,1,1,1,1,1,1,1,1,1,1,1,1,1,1,1,1,1,1,0,1,2,2,1,0,2,1,1,1] KDK) (by kernel_rfl) (k51 z c1 ua uc UL gt c5 j g5 g1 w48 a_57 hf h0 h19 h23 h26 h33 h35 h36) ?_
  rintro a_58 _ ⟨hf, h0, h19, h23, h26, h33, h35, h293, rfl⟩
  refine wp_onF (A := cAt [1,1,1,1,1,1,1,1,1,1,1,1,1,1,1,1,1,1,1,1,0,1,2,2,1,0,2,1,1,1,3] KDK) (B := cAt [1,1,1,1,1,1,1,1,1,1,1,1,1,1,1,1,1,1,1,1,0,1,2,2,1,0,2,1,1,1,4] KDK) (by kernel_rfl) h293 ?_
  refine wp_skipR (by kernel_rfl) ?_
  exact ⟨hf, h0, h19, h23, h26, h33, h35, HM7⟩

set_option maxRecDepth 100000 in
set_option maxHeartbeats 4000000 in
theorem k45 (z : Nat) (HZ : Hid (z ≤ 300)) (a1 : Option Addr) (c1 : Nat) (ua : Option Addr) (uc : Nat) (UL : List Uw) (gt : Nat) (a5 : Option Addr) (c5 : Nat) (j : Nat) (hlt : Hid (j < z)) (wn : World) (a : Act) (hf : Fr 301 a) (h0 : sl a 0 = .int .i64 (z : Int)) (h19 : sl a 19 = .slice a1 z c1) (h23 : sl a 23 = .slice ua UL.length uc) (h26 : sl a 26 = .pointer (some ⟨gt, 0, none⟩)) (h33 : sl a 33 = .slice a5 z c5) (h35 : sl a 35 = .int .i64 (j : Int)) :
    Code.wp Try.prog (cAt [1,1,1,1,1,1,1,1,1,1,1,1,1,1,1,1,1,1,1,1,0,1,2,2,1,1] KDK) (Exit.then (fun a' w' => Fr 301 a' ∧ sl a' 0 = .int .i64 (z : Int) ∧ sl a' 19 = .slice a1 z c1 ∧ sl a' 23 = .slice ua UL.length uc ∧ sl a' 26 = .pointer (some ⟨gt, 0, none⟩) ∧ sl a' 33 = .slice a5 z c5 ∧ sl a' 35 = .int .i64 ((j + 1 : Nat) : Int) ∧ wn = w') Nope) a wn := by
  obtain ⟨f, ha, hs⟩ := frKDK hf
  have e0 := (hs 0).trans h0
  have e19 := (hs 19).trans h19
  have e23 := (hs 23).trans h23
  have e26 := (hs 26).trans h26
  have e33 := (hs 33).trans h33
  have e35 := (hs 35).trans h35
  rw [e0, e19, e23, e26, e33, e35] at ha
  clear hs hf e0 h0 e19 h19 e23 h23 e26 h26 e33 h33 e35 h35
  subst ha
  refine piece2 fun J0 K0 hJ0 hK0 => ?_
  conv => arg 2; whnf
  have hw : IntKind.i64.wrap ((j : Int) + 1) = ((j + 1 : Nat) : Int) := by have := hlt.out; have := HZ.out; rw [IntKind.wrap_i64]; omega
  go_wp2_with fail
  refine Met.intro (hJ0 _ _ ?_)
  exact ⟨⟨rfl, rfl⟩, rfl, rfl, rfl, rfl, rfl, rfl, rfl⟩

theorem keeps_bytes (w : World) (z : Nat) (HZ : Hid (z ≤ 300)) (h : Nat) (d0 : List Int) (ws : List (Int × List Int)) (C : List Int) (hw40 : Hid (ws.length ≤ 40)) (HIX : Hid (∀ y ∈ ws, 0 ≤ y.1 ∧ y.1 + y.2.length ≤ (z : Int))) (a1 : Option Addr) (c1 : Nat) (ua : Option Addr) (uc : Nat) (UL : List Uw) (HUL : Hid (UL.map Uw.pl = ws)) (gt : Nat) (hun : Hid (UL.length = ws.length)) (kt' : Dk) (w40 : World) (a5 : Option Addr) (c5 : Nat) (HALL : Hid (Ms w w40 [.row a5 z c5 C, .row a1 z c1 d0, .wts ua uc UL, .disk gt kt'])) (hfin : Hid (∀ j, j < z → mayV C d0 ws j ws.length = true)) (a : Act) (hf : Fr 301 a) (h0 : sl a 0 = .int .i64 (z : Int)) (h19 : sl a 19 = .slice a1 z c1) (h23 : sl a 23 = .slice ua UL.length uc) (h26 : sl a 26 = .pointer (some ⟨gt, 0, none⟩)) (h33 : sl a 33 = .slice a5 z c5) :
    Code.wp Try.prog (cAt [1,1,1,1,1,1,1,1,1,1,1,1,1,1,1,1,1,1,1,1,0] KDK) (Exit.then (fun a' w' => Fr 301 a' ∧ sl a' 0 = .int .i64 (z : Int) ∧ sl a' 19 = .slice a1 z c1 ∧ sl a' 23 = .slice ua UL.length uc ∧ sl a' 26 = .pointer (some ⟨gt, 0, none⟩) ∧ sl a' 33 = .slice a5 z c5 ∧ Ms w w' [.row a5 z c5 C, .row a1 z c1 d0, .wts ua uc UL, .disk gt kt']) Nope) a w40 := by
  have HZ := HZ.out
  have hw40 := hw40.out
  have HIX := HIX.out
  have HUL := HUL.out
  have hun := hun.out
  have HALL := HALL.out
  have hfin := hfin.out
  refine wp_sqR (x := cAt [1,1,1,1,1,1,1,1,1,1,1,1,1,1,1,1,1,1,1,1,0,0] KDK) (y := cAt [1,1,1,1,1,1,1,1,1,1,1,1,1,1,1,1,1,1,1,1,0,1] KDK) (by kernel_rfl) (k43 z a1 c1 ua uc UL gt w40 a5 c5 a hf h0 h19 h23 h26 h33) ?_
  rintro a_45 _ ⟨hf, h0, h19, h23, h26, h33, h35, rfl⟩
  refine wp_blockR (x := cAt [1,1,1,1,1,1,1,1,1,1,1,1,1,1,1,1,1,1,1,1,0,1,2] KDK) (id := 5) (by kernel_rfl) ?_
  refine wp_loopR (x := cAt [1,1,1,1,1,1,1,1,1,1,1,1,1,1,1,1,1,1,1,1,0,1,2,2] KDK) (by kernel_rfl) (fun a' w' => ∃ j : Nat, j ≤ z ∧ Ms w w' [.row a5 z c5 C, .row a1 z c1 d0, .wts ua uc UL, .disk gt kt'] ∧ Fr 301 a' ∧ sl a' 0 = .int .i64 (z : Int) ∧ sl a' 19 = .slice a1 z c1 ∧ sl a' 23 = .slice ua UL.length uc ∧ sl a' 26 = .pointer (some ⟨gt, 0, none⟩) ∧ sl a' 33 = .slice a5 z c5 ∧ sl a' 35 = .int .i64 (j : Int)) (fun a' _ => z - (numOf (sl a' 35)).toNat) ⟨0, Nat.zero_le _, HALL, hf, h0, h19, h23, h26, h33, h35⟩ ?_
  rintro a_l wl ⟨j, hj, HML, hf, h0, h19, h23, h26, h33, h35⟩
  have h35a := h35
  by_cases hlt : j < z
  case neg =>
    refine wp_endX (k44x z a1 c1 ua uc UL gt a5 c5 wl j hlt a_l hf h0 h19 h23 h26 h33 h35) ?_
    rintro a_46 _ ⟨hf, h0, h19, h23, h26, h33, rfl⟩
    exact thru ⟨hf, h0, h19, h23, h26, h33, HML⟩
  refine wp_sqR (x := cAt [1,1,1,1,1,1,1,1,1,1,1,1,1,1,1,1,1,1,1,1,0,1,2,2,0] KDK) (y := cAt [1,1,1,1,1,1,1,1,1,1,1,1,1,1,1,1,1,1,1,1,0,1,2,2,1] KDK) (by kernel_rfl) (k44 z a1 c1 ua uc UL gt a5 c5 wl j hlt a_l hf h0 h19 h23 h26 h33 h35) ?_
  rintro a_47 _ ⟨hf, h0, h19, h23, h26, h33, h35, rfl⟩
  refine wp_sqR (x := cAt [1,1,1,1,1,1,1,1,1,1,1,1,1,1,1,1,1,1,1,1,0,1,2,2,1,0] KDK) (y := cAt [1,1,1,1,1,1,1,1,1,1,1,1,1,1,1,1,1,1,1,1,0,1,2,2,1,1] KDK) (by kernel_rfl) (keeps_byte w z HZ h d0 ws C hw40 HIX a1 c1 ua uc UL HUL gt hun kt' a5 c5 hfin wl j HML hlt a_47 hf h0 h19 h23 h26 h33 h35) ?_
  rintro a_59 wn ⟨hf, h0, h19, h23, h26, h33, h35, HMN⟩
  refine wp_endR (k45 z HZ a1 c1 ua uc UL gt a5 c5 j hlt wn a_59 hf h0 h19 h23 h26 h33 h35) ?_
  rintro a_60 _ ⟨hf, h0, h19, h23, h26, h33, h35, rfl⟩
  refine ⟨⟨j + 1, hlt, HMN, hf, h0, h19, h23, h26, h33, h35⟩, ?_⟩
  rw [h35a, h35]
  simp only [numOf]
  omega

set_option maxRecDepth 100000 in
set_option maxHeartbeats 4000000 in
theorem k53 (w : World) (z : Nat) (d0 : List Int) (C : List Int) (a1 : Option Addr) (c1 : Nat) (ua : Option Addr) (uc : Nat) (UL : List Uw) (gt : Nat) (kt' : Dk) (a5 : Option Addr) (c5 : Nat) (w44 : World) (HM8 : Hid (Ms w w44 [.row a5 z c5 C, .row a1 z c1 d0, .wts ua uc UL, .disk gt kt'])) (hkt : Hid (kt'.ws = [])) (a : Act) (hf : Fr 301 a) (h26 : sl a 26 = .pointer (some ⟨gt, 0, none⟩)) :
    Code.wp Try.prog (cAt [1,1,1,1,1,1,1,1,1,1,1,1,1,1,1,1,1,1,1,1,1] KDK) (bodyPost Try.prog Try.f3 (Yes w)) a w44 := by
  obtain ⟨f, ha, hs⟩ := frKDK hf
  have e26 := (hs 26).trans h26
  rw [e26] at ha
  clear hs hf e26 h26
  subst ha
  conv => arg 2; whnf
  go_wp2_with fail
  refine (dkUnsynced_any w.heap.size gt kt' w44 (HM8.out.ok (.disk gt kt') (by simp)) (by rw [ws_len, hkt.out]; decide)).mono ?_
  rintro e wz ⟨va, vc, VL, rfl, ho, hpl, hb⟩
  have hv : VL.length = 0 := by
    have := congrArg List.length hpl
    rw [hkt.out] at this
    simpa using this
  rw [hv]
  have HBW : Hid (Below w.heap.size w wz) := (HM8.out.past hb).below
  clear ho hpl hb hv
  go_wp2_with fail
  refine (works13_any wz).mono ?_
  rintro e w3 ⟨rfl, hb3⟩
  have H3 : Hid (Below w.heap.size w w3) := HBW.out.trans (hb3.mono HBW.out.size)
  clear hb3
  go_wp2_with fail
  first | exact ⟨rfl, H3.out⟩ | (go_ret; exact ⟨rfl, H3.out⟩)

theorem keeps13_any (s : Int) (ya : Option Addr) (m yc : Nat) (la : List Ac) (fa : Option Addr) (fn fc : Nat) (fl : List Ft) (w : World) (HLA : Acr w ya m la) (HMX : m ≤ maxLen) (HFT : Fts w fa fn fl) (HFM : fn ≤ maxLen) :
    Calls Try.prog 3 #[.int .i64 s, .slice ya m yc, .slice fa fn fc] w (Yes w) := by
  refine calls_of_wp (c := KDK) Try.func3 (by kernel_rfl) ?_
  have hf : Fr 301 { tmps := #[.int .i64 s, .slice ya m yc, .slice fa fn fc] ++ Array.replicate (Try.f3.ntmps - (#[.int .i64 s, .slice ya m yc, .slice fa fn fc] : Array Value).size) undef, defers := [] } := ⟨rfl, by simp [Try.ntmps3]⟩
  generalize ha : ({ tmps := #[.int .i64 s, .slice ya m yc, .slice fa fn fc] ++ Array.replicate (Try.f3.ntmps - (#[.int .i64 s, .slice ya m yc, .slice fa fn fc] : Array Value).size) undef, defers := [] } : Act) = a at hf ⊢
  have h0 : sl a 0 = .int .i64 s := by rw [← ha]; exact sl_at _ _ 0 _ rfl
  have h1 : sl a 1 = .slice ya m yc := by rw [← ha]; exact sl_at _ _ 1 _ rfl
  have h2 : sl a 2 = .slice fa fn fc := by rw [← ha]; exact sl_at _ _ 2 _ rfl
  clear ha
  refine wp_sqR (x := cAt [0] KDK) (y := cAt [1] KDK) (by kernel_rfl) (k0 w s ya m yc fa fn fc a hf h0 h1 h2) ?_
  rintro a_1 _ ⟨hf, h0, h1, h2, rfl⟩
  refine wp_sqR (x := cAt [1,0] KDK) (y := cAt [1,1] KDK) (by kernel_rfl) (k1 w s ya m yc fa fn fc a_1 hf h0 h1 h2) ?_
  rintro a_2 _ ⟨z, hf, h0, h1, h2, HZ, rfl⟩
  refine wp_sqG (x := cAt [1,1,0] KDK) (y := cAt [1,1,1] KDK) (by kernel_rfl) ?_
  refine wp_sqR (x := cAt [1,1,0,0] KDK) (y := cAt [1,1,0,1] KDK) (by kernel_rfl) (k2 w ya m yc la fa fn fc HLA HMX HFM z a_2 hf h0 h1 h2) ?_
  rintro a_3 _ ⟨bb, hf, h0, h1, h2, h47, HBB, rfl⟩
  cases bb with
  | true =>
    refine wp_onT (A := cAt [1,1,0,1,3] KDK) (B := cAt [1,1,0,1,4] KDK) (by kernel_rfl) h47 ?_
    exact wp_endT (kw w w (Below.refl _ _) a_3 hf) (fun a' w' h => h)
  | false =>
  obtain ⟨hfew, hfn⟩ := HBB rfl
  refine wp_onF (A := cAt [1,1,0,1,3] KDK) (B := cAt [1,1,0,1,4] KDK) (by kernel_rfl) h47 ?_
  refine wp_skipR (by kernel_rfl) ?_
  refine wp_sqR (x := cAt [1,1,1,0] KDK) (y := cAt [1,1,1,1] KDK) (by kernel_rfl) (k4 w ya m yc fa fn fc z HZ a_3 hf h0 h1 h2) ?_
  rintro a_4 w4 ⟨g, k, hf, h0, h1, h2, h7, h8, HM4, HK4⟩
  refine wp_sqR (x := cAt [1,1,1,1,0] KDK) (y := cAt [1,1,1,1,1] KDK) (by kernel_rfl) (k5 w ya m yc fa fn fc z HZ w4 g k HM4 a_4 hf h0 h1 h2 h7 h8) ?_
  rintro a_5 w5 ⟨h, l, hf, h0, h1, h2, h7, h8, h9, h10, HM5, HK5⟩
  refine wp_sqG (x := cAt [1,1,1,1,1,0] KDK) (y := cAt [1,1,1,1,1,1] KDK) (by kernel_rfl) ?_
  refine wp_sqR (x := cAt [1,1,1,1,1,0,0] KDK) (y := cAt [1,1,1,1,1,0,1] KDK) (by kernel_rfl) (k6 ya m yc fa fn fc z g w5 h a_5 hf h0 h1 h2 h7 h8 h9 h10) ?_
  rintro a_6 _ ⟨hf, h0, h1, h2, h7, h9, h64, rfl⟩
  refine wp_onF (A := cAt [1,1,1,1,1,0,1,3] KDK) (B := cAt [1,1,1,1,1,0,1,4] KDK) (by kernel_rfl) h64 ?_
  refine wp_skipR (by kernel_rfl) ?_
  have HI0 : KI z 0 k l := ⟨by rw [HK4.1]; exact List.length_replicate, by rw [HK4.1, HK4.2, HK5.1]; rfl, HK5.2, by rw [HK4.2]; exact Nat.le_refl _⟩
  have hm40 : m ≤ 40 := by rw [← HLA.len]; exact hfew.1
  refine wp_sqR (x := cAt [1,1,1,1,1,1,0] KDK) (y := cAt [1,1,1,1,1,1,1] KDK) (by kernel_rfl) (keeps_acts w ya m yc la fa fn fc fl HLA z g k w5 h l HM5 HI0 hm40 a_6 hf h0 h1 h2 h7 h9) ?_
  rintro a_26 w6 ⟨k6, l6, hf, h0, h1, h2, h7, h9, HM6, HI6⟩
  obtain ⟨d0, hd0⟩ : ∃ x, k6.d = x := ⟨_, rfl⟩
  obtain ⟨ws, hws⟩ : ∃ x, k6.ws = x := ⟨_, rfl⟩
  obtain ⟨D, hD⟩ : ∃ x, nowP d0 ws = x := ⟨_, rfl⟩
  obtain ⟨C, hC⟩ : ∃ x, nowP d0 (trimP ws fl) = x := ⟨_, rfl⟩
  have hl0 : d0.length = z := by rw [← hd0]; exact HI6.kd
  have hlD : D.length = z := by rw [← hD, nowP_len]; exact hl0
  have hlC : C.length = z := by rw [← hC, nowP_len]; exact hl0
  have hw40 : ws.length ≤ 40 := by have := HI6.kw; rw [hws] at this; omega
  have HBD : Byt D := by rw [← hD, ← hd0, ← hws]; exact Dm.now_byt HM6.hd
  have HB0 : Byt d0 := by rw [← hd0]; exact (Dm.ok HM6.hd).byt
  have HIX : ∀ y ∈ ws, 0 ≤ y.1 ∧ y.1 + y.2.length ≤ (z : Int) := fun y hy => by
    rw [← hws] at hy
    obtain ⟨x, hx, rfl⟩ := List.mem_map.1 hy
    have hk := (Dm.ok HM6.hd)
    have h1 := hk.at0 x hx
    have h2 := hk.at1 x hx
    have h3 := HI6.kd
    exact ⟨h1, by show x.at_ + (x.d.length : Int) ≤ _; omega⟩
  refine wp_sqR (x := cAt [1,1,1,1,1,1,1,0] KDK) (y := cAt [1,1,1,1,1,1,1,1] KDK) (by kernel_rfl) (k26 w ya m yc fa fn fc z g h w6 k6 l6 HM6 d0 hd0 hl0 a_26 hf h0 h1 h2 h7 h9) ?_
  rintro a_27 w26 ⟨a1, c1, hf, h0, h2, h7, h19, h20, HT1⟩
  refine wp_sqR (x := cAt [1,1,1,1,1,1,1,1,0] KDK) (y := cAt [1,1,1,1,1,1,1,1,1] KDK) (by kernel_rfl) (k27 w fa fn fc z g k6 d0 ws D hd0 hws hD hl0 hlD w26 a1 c1 HT1 a_27 hf h0 h2 h7 h19 h20) ?_
  rintro a_28 w27 ⟨a2, c2, hf, h0, h2, h7, h19, h20, h21, h22, HT2⟩
  refine wp_sqR (x := cAt [1,1,1,1,1,1,1,1,1,0] KDK) (y := cAt [1,1,1,1,1,1,1,1,1,1] KDK) (by kernel_rfl) (k28 w fa fn fc z g k6 d0 ws D hws hw40 a1 c1 w27 a2 c2 HT2 a_28 hf h0 h2 h7 h19 h20 h21 h22) ?_
  rintro a_29 w28 ⟨ua, uc, UL, hf, h0, h2, h7, h19, h20, h21, h22, h23, HT3, HUL⟩
  refine wp_sqR (x := cAt [1,1,1,1,1,1,1,1,1,1,0] KDK) (y := cAt [1,1,1,1,1,1,1,1,1,1,1] KDK) (by kernel_rfl) (k29 w fa fn fc z g k6 d0 ws D hd0 hws hw40 a1 c1 a2 c2 w28 ua uc UL HT3 a_29 hf h0 h2 h7 h19 h20 h21 h22 h23) ?_
  rintro a_30 w29 ⟨gk, kk, gn, kn, gt, kt, hf, h0, h2, h19, h20, h21, h22, h23, h24, h25, h26, HT4, HKK, HKN, HKT⟩
  refine wp_sqR (x := cAt [1,1,1,1,1,1,1,1,1,1,1,0] KDK) (y := cAt [1,1,1,1,1,1,1,1,1,1,1,1] KDK) (by kernel_rfl) (k30 fa fn fc z a1 c1 a2 c2 ua uc UL w29 gk gn gt a_30 hf h0 h2 h19 h20 h21 h22 h23 h24 h25 h26) ?_
  rintro a_31 _ ⟨hf, h0, h2, h19, h20, h21, h22, h23, h24, h25, h26, h27, rfl⟩
  have hun : UL.length = ws.length := by rw [← HUL, List.length_map]
  refine wp_sqR (x := cAt [1,1,1,1,1,1,1,1,1,1,1,1,0] KDK) (y := cAt [1,1,1,1,1,1,1,1,1,1,1,1,1] KDK) (by kernel_rfl) (keeps_fates w fa fn fc z w4 d0 ws D hw40 a1 c1 a2 c2 ua uc UL w29 gk kk gn kn gt kt HT4 hun a_31 hf h0 h2 h19 h20 h21 h22 h23 h24 h25 h26 h27) ?_
  rintro a_37 w32 ⟨v3, c3, hf, h0, h2, h19, h20, h21, h22, h23, h24, h25, h26, h27, HT5⟩
  refine wp_sqR (x := cAt [1,1,1,1,1,1,1,1,1,1,1,1,1,0] KDK) (y := cAt [1,1,1,1,1,1,1,1,1,1,1,1,1,1] KDK) (by kernel_rfl) (k35 w fa fn fc z h d0 ws D hD hw40 a1 c1 a2 c2 ua uc UL gk kk gn kn gt kt HKK hun w32 v3 c3 HT5 a_37 hf h0 h2 h19 h20 h21 h22 h23 h24 h25 h26 h27) ?_
  rintro a_38 w35 ⟨k9, hf, h0, h2, h19, h20, h21, h22, h23, h24, h25, h26, Hw35⟩
  obtain ⟨kk', hk9⟩ : ∃ x, k9 = x := ⟨_, rfl⟩
  rw [hk9] at Hw35
  clear hk9
  refine wp_sqR (x := cAt [1,1,1,1,1,1,1,1,1,1,1,1,1,1,0] KDK) (y := cAt [1,1,1,1,1,1,1,1,1,1,1,1,1,1,1] KDK) (by kernel_rfl) (k36 w fa fn fc z h d0 ws D a1 c1 a2 c2 ua uc UL gk gn kn gt kt HKN w35 kk' Hw35 a_38 hf h0 h2 h19 h20 h21 h22 h23 h24 h25 h26) ?_
  rintro a_39 w36 ⟨k9, hf, h0, h2, h19, h20, h21, h22, h23, h24, h25, h26, Hw36⟩
  obtain ⟨kn', hk9⟩ : ∃ x, k9 = x := ⟨_, rfl⟩
  rw [hk9] at Hw36
  clear hk9
  refine wp_sqR (x := cAt [1,1,1,1,1,1,1,1,1,1,1,1,1,1,1,0] KDK) (y := cAt [1,1,1,1,1,1,1,1,1,1,1,1,1,1,1,1] KDK) (by kernel_rfl) (k37 w fa fn fc fl HFT HFM z d0 ws D C hC a1 c1 a2 c2 ua uc UL gk gn gt kt HKT kk' w36 kn' Hw36 a_39 hf h0 h2 h19 h20 h21 h22 h23 h24 h25 h26) ?_
  rintro a_40 w37 ⟨k9, hf, h0, h19, h20, h21, h22, h23, h24, h25, h26, Hw37⟩
  obtain ⟨kt', hk9⟩ : ∃ x, k9 = x := ⟨_, rfl⟩
  rw [hk9] at Hw37
  clear hk9
  refine wp_sqR (x := cAt [1,1,1,1,1,1,1,1,1,1,1,1,1,1,1,1,0] KDK) (y := cAt [1,1,1,1,1,1,1,1,1,1,1,1,1,1,1,1,1] KDK) (by kernel_rfl) (k38 w z d0 ws D C hlD a1 c1 a2 c2 ua uc UL gk gn kn gt kt w35 kk' Hw35 kn' w37 kt' Hw37 a_40 hf h0 h19 h20 h21 h22 h23 h24 h25 h26) ?_
  rintro a_41 w38 ⟨a9, c9, hf, h0, h19, h20, h21, h22, h23, h24, h25, h26, h29, h30, Hw38⟩
  obtain ⟨a3, hz1⟩ : ∃ x, a9 = x := ⟨_, rfl⟩
  obtain ⟨c3b, hz2⟩ : ∃ x, c9 = x := ⟨_, rfl⟩
  rw [hz1, hz2] at Hw38 h29
  clear hz1 hz2
  refine wp_sqR (x := cAt [1,1,1,1,1,1,1,1,1,1,1,1,1,1,1,1,1,0] KDK) (y := cAt [1,1,1,1,1,1,1,1,1,1,1,1,1,1,1,1,1,1] KDK) (by kernel_rfl) (k39 w z d0 ws D hl0 a1 c1 a2 c2 ua uc UL gk gn gt kt kk' w36 kn' Hw36 kt' w38 a3 c3b Hw38 a_41 hf h0 h19 h20 h21 h22 h23 h24 h25 h26 h29 h30) ?_
  rintro a_42 w39 ⟨a9, c9, hf, h0, h19, h20, h21, h22, h23, h24, h25, h26, h29, h30, h31, h32, Hw39⟩
  obtain ⟨a4, hz1⟩ : ∃ x, a9 = x := ⟨_, rfl⟩
  obtain ⟨c4, hz2⟩ : ∃ x, c9 = x := ⟨_, rfl⟩
  rw [hz1, hz2] at Hw39 h31
  clear hz1 hz2
  have HQ39 : Ms w w39 [.disk gt kt', .row a4 z c4 d0, .row a3 z c3b D, .wts ua uc UL, .row a2 z c2 D, .row a1 z c1 d0] := ((Hw39.sub (l' := [.row a4 z c4 d0, .row a3 z c3b D, .disk gt kt', .wts ua uc UL, .row a2 z c2 D, .row a1 z c1 d0]) (by simp)).to2)
  refine wp_sqR (x := cAt [1,1,1,1,1,1,1,1,1,1,1,1,1,1,1,1,1,1,0] KDK) (y := cAt [1,1,1,1,1,1,1,1,1,1,1,1,1,1,1,1,1,1,1] KDK) (by kernel_rfl) (k40 w z d0 ws D C hlC a1 c1 a2 c2 ua uc UL gk gn gt kk' kn' w37 kt' Hw37 a3 c3b w39 a4 c4 HQ39 a_42 hf h0 h19 h20 h21 h22 h23 h24 h25 h26 h29 h30 h31 h32) ?_
  rintro a_43 w40 ⟨a9, c9, hf, h0, h19, h20, h21, h22, h23, h24, h25, h26, h29, h30, h31, h32, h33, h34, Hw40⟩
  obtain ⟨a5, hz1⟩ : ∃ x, a9 = x := ⟨_, rfl⟩
  obtain ⟨c5, hz2⟩ : ∃ x, c9 = x := ⟨_, rfl⟩
  rw [hz1, hz2] at Hw40 h33
  clear hz1 hz2
  refine wp_sqG (x := cAt [1,1,1,1,1,1,1,1,1,1,1,1,1,1,1,1,1,1,1,0] KDK) (y := cAt [1,1,1,1,1,1,1,1,1,1,1,1,1,1,1,1,1,1,1,1] KDK) (by kernel_rfl) ?_
  refine wp_sqR (x := cAt [1,1,1,1,1,1,1,1,1,1,1,1,1,1,1,1,1,1,1,0,0] KDK) (y := cAt [1,1,1,1,1,1,1,1,1,1,1,1,1,1,1,1,1,1,1,0,1] KDK) (by kernel_rfl) (k41 w z d0 D C HBD HB0 a1 c1 a2 c2 ua uc UL gk gn gt kt' a3 c3b a4 c4 w40 a5 c5 Hw40 a_43 hf h0 h19 h20 h21 h22 h23 h24 h25 h26 h29 h30 h31 h32 h33 h34) ?_
  rintro a_44 _ ⟨hf, h0, h19, h23, h26, h33, h224, rfl⟩
  refine wp_onF (A := cAt [1,1,1,1,1,1,1,1,1,1,1,1,1,1,1,1,1,1,1,0,1,3] KDK) (B := cAt [1,1,1,1,1,1,1,1,1,1,1,1,1,1,1,1,1,1,1,0,1,4] KDK) (by kernel_rfl) h224 ?_
  refine wp_skipR (by kernel_rfl) ?_
  have HALL : Ms w w40 [.row a5 z c5 C, .row a1 z c1 d0, .wts ua uc UL, .disk gt kt'] := (Hw40.sub (l' := [.row a5 z c5 C, .disk gt kt', .wts ua uc UL, .row a1 z c1 d0]) (by simp)).perm (List.Perm.cons _ (((List.Perm.cons _ (List.Perm.swap _ _ _)).trans (List.Perm.swap _ _ _)).trans (List.Perm.cons _ (List.Perm.swap _ _ _))))
  have hfin : ∀ j, j < z → mayV C d0 ws j ws.length = true := fun j hj => by unfold mayV; rw [List.take_length, ← hC]; exact may_byte d0 ws fl j (by rw [hl0]; exact hj)
  refine wp_sqR (x := cAt [1,1,1,1,1,1,1,1,1,1,1,1,1,1,1,1,1,1,1,1,0] KDK) (y := cAt [1,1,1,1,1,1,1,1,1,1,1,1,1,1,1,1,1,1,1,1,1] KDK) (by kernel_rfl) (keeps_bytes w z HZ h d0 ws C hw40 HIX a1 c1 ua uc UL HUL gt hun kt' w40 a5 c5 HALL hfin a_44 hf h0 h19 h23 h26 h33) ?_
  rintro a_61 w44 ⟨hf, h0, h19, h23, h26, h33, HM8⟩
  exact k53 w z d0 C a1 c1 ua uc UL gt kt' a5 c5 w44 HM8 Hw37.2.2 a_61 hf h26
end Go.Proofs.Ytbghdlgfpfeaeaa

/-
  DiskPlays in pieces. Conditions: those that the theorems name. (Made by gen_dkplays.py.)
-/
import Derived.Test.YtbghdlgfpfeaeaaDkPlM
namespace Go.Proofs.Ytbghdlgfpfeaeaa
open Go.RowKit

noncomputable def KDP : Code := Try.f20.body.getD .skip
set_option maxRecDepth 100000 in
theorem frKDP {a : Act} (h : Fr 274 a) : ∃ f : Nat → Value, a = ⟨#[f 0, f 1, f 2, f 3, f 4, f 5, f 6, f 7, f 8, f 9, f 10, f 11, f 12, f 13, f 14, f 15, f 16, f 17, f 18, f 19, f 20, f 21, f 22, f 23, f 24, f 25, f 26, f 27, f 28, f 29, f 30, f 31, f 32, f 33, f 34, f 35, f 36, f 37, f 38, f 39, f 40, f 41, f 42, f 43, f 44, f 45, f 46, f 47, f 48, f 49, f 50, f 51, f 52, f 53, f 54, f 55, f 56, f 57, f 58, f 59, f 60, f 61, f 62, f 63, f 64, f 65, f 66, f 67, f 68, f 69, f 70, f 71, f 72, f 73, f 74, f 75, f 76, f 77, f 78, f 79, f 80, f 81, f 82, f 83, f 84, f 85, f 86, f 87, f 88, f 89, f 90, f 91, f 92, f 93, f 94, f 95, f 96, f 97, f 98, f 99, f 100, f 101, f 102, f 103, f 104, f 105, f 106, f 107, f 108, f 109, f 110, f 111, f 112, f 113, f 114, f 115, f 116, f 117, f 118, f 119, f 120, f 121, f 122, f 123, f 124, f 125, f 126, f 127, f 128, f 129, f 130, f 131, f 132, f 133, f 134, f 135, f 136, f 137, f 138, f 139, f 140, f 141, f 142, f 143, f 144, f 145, f 146, f 147, f 148, f 149, f 150, f 151, f 152, f 153, f 154, f 155, f 156, f 157, f 158, f 159, f 160, f 161, f 162, f 163, f 164, f 165, f 166, f 167, f 168, f 169, f 170, f 171, f 172, f 173, f 174, f 175, f 176, f 177, f 178, f 179, f 180, f 181, f 182, f 183, f 184, f 185, f 186, f 187, f 188, f 189, f 190, f 191, f 192, f 193, f 194, f 195, f 196, f 197, f 198, f 199, f 200, f 201, f 202, f 203, f 204, f 205, f 206, f 207, f 208, f 209, f 210, f 211, f 212, f 213, f 214, f 215, f 216, f 217, f 218, f 219, f 220, f 221, f 222, f 223, f 224, f 225, f 226, f 227, f 228, f 229, f 230, f 231, f 232, f 233, f 234, f 235, f 236, f 237, f 238, f 239, f 240, f 241, f 242, f 243, f 244, f 245, f 246, f 247, f 248, f 249, f 250, f 251, f 252, f 253, f 254, f 255, f 256, f 257, f 258, f 259, f 260, f 261, f 262, f 263, f 264, f 265, f 266, f 267, f 268, f 269, f 270, f 271, f 272, f 273], []⟩ ∧ ∀ i, f i = sl a i := fr_any h

set_option maxRecDepth 100000 in
set_option maxHeartbeats 4000000 in
theorem p0 (w : World) (s : Int) (ya : Option Addr) (m : Nat) (yc : Nat) (pa : Int) (na : Int) (a : Act) (hf : Fr 274 a) (h0 : sl a 0 = .int .i64 s) (h1 : sl a 1 = .slice ya m yc) (h2 : sl a 2 = .int .i64 pa) (h3 : sl a 3 = .int .i64 na) :
    Code.wp Try.prog (cAt [0] KDP) (Exit.then (fun a' w' => Fr 274 a' ∧ sl a' 0 = .int .i64 s ∧ sl a' 1 = .slice ya m yc ∧ sl a' 2 = .int .i64 pa ∧ sl a' 3 = .int .i64 na ∧ w = w') Nope) a w := by
  obtain ⟨f, ha, hs⟩ := frKDP hf
  have e0 := (hs 0).trans h0
  have e1 := (hs 1).trans h1
  have e2 := (hs 2).trans h2
  have e3 := (hs 3).trans h3
  rw [e0, e1, e2, e3] at ha
  clear hs hf e0 h0 e1 h1 e2 h2 e3 h3
  subst ha
  refine piece2 fun J0 K0 hJ0 hK0 => ?_
  conv => arg 2; whnf
  go_wp2_with fail
  refine Met.intro (hJ0 _ _ ?_)
  exact ⟨⟨rfl, rfl⟩, rfl, rfl, rfl, rfl, rfl⟩

set_option maxRecDepth 100000 in
set_option maxHeartbeats 4000000 in
theorem p1 (w : World) (s : Int) (ya : Option Addr) (m : Nat) (yc : Nat) (la : List Ac) (pa : Int) (na : Int) (HLA : Hid (Acr w ya m la)) (HMX : Hid (m ≤ maxLen)) (a : Act) (hf : Fr 274 a) (h0 : sl a 0 = .int .i64 s) (h1 : sl a 1 = .slice ya m yc) (h2 : sl a 2 = .int .i64 pa) (h3 : sl a 3 = .int .i64 na) :
    Code.wp Try.prog (cAt [1,0,0] KDP) (Exit.then (fun a' w' => ∃ bb : Bool, Fr 274 a' ∧ sl a' 0 = .int .i64 s ∧ sl a' 1 = .slice ya m yc ∧ sl a' 2 = .int .i64 pa ∧ sl a' 3 = .int .i64 na ∧ sl a' 44 = .bool bb ∧ ((bb = false → (s ≤ 300 ∨ 65536 < s) ∧ Few la)) ∧ w = w') Nope) a w := by
  obtain ⟨f, ha, hs⟩ := frKDP hf
  have e0 := (hs 0).trans h0
  have e1 := (hs 1).trans h1
  have e2 := (hs 2).trans h2
  have e3 := (hs 3).trans h3
  rw [e0, e1, e2, e3] at ha
  clear hs hf e0 h0 e1 h1 e2 h2 e3 h3
  subst ha
  refine piece2 fun J0 K0 hJ0 hK0 => ?_
  conv => arg 2; whnf
  by_cases h1 : 300 < s
  · by_cases h2 : s ≤ 65536
    · go_wp2_with fail
      refine Met.intro (hJ0 _ _ ?_)
      exact ⟨true, ⟨rfl, rfl⟩, rfl, rfl, rfl, rfl, rfl, fun h => (by cases h), rfl⟩
    · have h3 : 65536 < s := by omega
      go_wp2_with fail
      refine (few_any ya m yc la w HLA.out HMX.out).mono ?_
      rintro e w1 ⟨b, rfl, hb, hw⟩
      rw [hw]
      have HB := Lib.hid hb
      have HS := Lib.hid h3
      clear hb hw
      cases b
      · go_wp2_with fail
        refine Met.intro (hJ0 _ _ ?_)
        exact ⟨true, ⟨rfl, rfl⟩, rfl, rfl, rfl, rfl, rfl, fun h => (by cases h), rfl⟩
      · go_wp2_with fail
        refine Met.intro (hJ0 _ _ ?_)
        exact ⟨false, ⟨rfl, rfl⟩, rfl, rfl, rfl, rfl, rfl, fun _ => ⟨.inr HS.out, HB.out.1 (by simp)⟩, rfl⟩
  · have h3 : s ≤ 300 := by omega
    have HS := Lib.hid h3
    clear h3
    go_wp2_with fail
    refine (few_any ya m yc la w HLA.out HMX.out).mono ?_
    rintro e w1 ⟨b, rfl, hb, hw⟩
    rw [hw]
    have HB := Lib.hid hb
    clear hb hw
    cases b
    · go_wp2_with fail
      refine Met.intro (hJ0 _ _ ?_)
      exact ⟨true, ⟨rfl, rfl⟩, rfl, rfl, rfl, rfl, rfl, fun h => (by cases h), rfl⟩
    · go_wp2_with fail
      refine Met.intro (hJ0 _ _ ?_)
      exact ⟨false, ⟨rfl, rfl⟩, rfl, rfl, rfl, rfl, rfl, fun _ => ⟨.inl HS.out, HB.out.1 (by simp)⟩, rfl⟩

set_option maxRecDepth 100000 in
set_option maxHeartbeats 4000000 in
theorem kpw (w wr : World) (hb : Below w.heap.size w wr) (a : Act) (hf : Fr 274 a) :
    Code.wp Try.prog (cAt [1,0,1,3] KDP) (RetsV Try.f20 (Yes w)) a wr := by
  have HB := Lib.hid hb
  clear hb
  obtain ⟨f, ha, hs⟩ := frKDP hf
  clear hs hf 
  subst ha
  conv => arg 2; whnf
  go_wp2_with fail
  refine (works13_any wr).mono ?_
  rintro e w1 ⟨rfl, hb1⟩
  have HF : Hid (Below w.heap.size w w1) := HB.out.trans (hb1.mono HB.out.size)
  clear hb1
  go_wp2_with fail
  refine ⟨rfl, rfl, .bool true, ?_, ⟨rfl, HF.out⟩⟩
  simp [results, Try.results20, go_sem]

set_option maxRecDepth 100000 in
set_option maxHeartbeats 4000000 in
theorem p3n (w : World) (s : Int) (ya : Option Addr) (m : Nat) (yc : Nat) (pa : Int) (na : Int) (hbad : Hid (s < 0 ∨ 65536 < s)) (ec : Int) (hec : Hid ((if s < 0 then 2 else 3) = ec)) (a : Act) (hf : Fr 274 a) (h0 : sl a 0 = .int .i64 s) (h1 : sl a 1 = .slice ya m yc) (h2 : sl a 2 = .int .i64 pa) (h3 : sl a 3 = .int .i64 na) :
    Code.wp Try.prog (cAt [1,1,0] KDP) (Exit.then (fun a' w' => Fr 274 a' ∧ sl a' 0 = .int .i64 s ∧ sl a' 9 = .pointer none ∧ sl a' 10 = .int .i64 ec ∧ w = w') Nope) a w := by
  obtain ⟨f, ha, hs⟩ := frKDP hf
  have e0 := (hs 0).trans h0
  have e1 := (hs 1).trans h1
  have e2 := (hs 2).trans h2
  have e3 := (hs 3).trans h3
  rw [e0, e1, e2, e3] at ha
  clear hs hf e0 h0 e1 h1 e2 h2 e3 h3
  subst ha
  refine piece2 fun J0 K0 hJ0 hK0 => ?_
  conv => arg 2; whnf
  have HC : Hid (∀ W, Calls Try.prog 9 #[.int .i64 s] W fun e w' => e = .returned (.tuple #[.pointer none, .int .i64 ec]) ∧ w' = W) := fun W => by
    have h1 := hec.out
    by_cases h0 : s < 0
    · rw [if_pos h0] at h1
      rw [← h1]
      exact dkNew_neg s W h0
    · rw [if_neg h0] at h1
      rw [← h1]
      exact dkNew_much s W (by have := hbad.out; omega)
  go_wp2_with fail
  refine (HC.out w).mono ?_
  rintro e w1 ⟨rfl, hw⟩
  rw [hw]
  clear hw
  go_wp2_with fail
  refine Met.intro (hJ0 _ _ ?_)
  exact ⟨⟨rfl, rfl⟩, rfl, rfl, rfl, rfl⟩

set_option maxRecDepth 100000 in
set_option maxHeartbeats 4000000 in
theorem p4n (w : World) (s : Int) (hbad : Hid (s < 0 ∨ 65536 < s)) (ec : Int) (hec : Hid ((if s < 0 then 2 else 3) = ec)) (a : Act) (hf : Fr 274 a) (h0 : sl a 0 = .int .i64 s) (h9 : sl a 9 = .pointer none) (h10 : sl a 10 = .int .i64 ec) :
    Code.wp Try.prog (cAt [1,1,1,0] KDP) (Exit.then (fun a' w' => Fr 274 a' ∧ sl a' 9 = .pointer none ∧ sl a' 10 = .int .i64 ec ∧ sl a' 12 = .int .i64 ec ∧ Below w.heap.size w w') Nope) a w := by
  obtain ⟨f, ha, hs⟩ := frKDP hf
  have e0 := (hs 0).trans h0
  have e9 := (hs 9).trans h9
  have e10 := (hs 10).trans h10
  rw [e0, e9, e10] at ha
  clear hs hf e0 h0 e9 h9 e10 h10
  subst ha
  refine piece2 fun J0 K0 hJ0 hK0 => ?_
  conv => arg 2; whnf
  have HC := Lib.hid (r13New_no s w hbad.out)
  rw [hec.out] at HC
  go_wp2_with fail
  refine HC.out.mono ?_
  rintro e w1 ⟨rfl, hb⟩
  have HB := Lib.hid hb
  clear hb
  have r0 := Blk_new w1 #[.string ⟨#[]⟩, .slice none 0 0] 63
  have HR := Lib.hid r0
  have HAL := Lib.hid (al w1 (.cells #[.string ⟨#[]⟩, .slice none 0 0] 63))
  clear r0
  go_wp2_with fail
  refine Met.intro (hJ0 _ _ ?_)
  exact ⟨⟨rfl, rfl⟩, rfl, rfl, rfl, HB.out.trans (HAL.out.mono HB.out.size)⟩

set_option maxRecDepth 100000 in
set_option maxHeartbeats 4000000 in
theorem p5n (ec : Int) (hec0 : Hid (ec ≠ 0)) (w4 : World) (a : Act) (hf : Fr 274 a) (h9 : sl a 9 = .pointer none) (h10 : sl a 10 = .int .i64 ec) (h12 : sl a 12 = .int .i64 ec) :
    Code.wp Try.prog (cAt [1,1,1,1,0,0] KDP) (Exit.then (fun a' w' => Fr 274 a' ∧ sl a' 9 = .pointer none ∧ sl a' 10 = .int .i64 ec ∧ sl a' 12 = .int .i64 ec ∧ sl a' 65 = .bool false ∧ w4 = w') Nope) a w4 := by
  obtain ⟨f, ha, hs⟩ := frKDP hf
  have e9 := (hs 9).trans h9
  have e10 := (hs 10).trans h10
  have e12 := (hs 12).trans h12
  rw [e9, e10, e12] at ha
  clear hs hf e9 h9 e10 h10 e12 h12
  subst ha
  refine piece2 fun J0 K0 hJ0 hK0 => ?_
  conv => arg 2; whnf
  have h0 := hec0.out
  go_wp2_with fail
  refine Met.intro (hJ0 _ _ ?_)
  exact ⟨⟨rfl, rfl⟩, rfl, rfl, rfl, by have h1 := hec0.out; simp [sl, h1], rfl⟩

set_option maxRecDepth 100000 in
set_option maxHeartbeats 4000000 in
theorem p7n (ec : Int) (hec0 : Hid (ec ≠ 0)) (w4 : World) (a : Act) (hf : Fr 274 a) (h9 : sl a 9 = .pointer none) (h10 : sl a 10 = .int .i64 ec) (h12 : sl a 12 = .int .i64 ec) :
    Code.wp Try.prog (cAt [1,1,1,1,1,0,0] KDP) (Exit.then (fun a' w' => Fr 274 a' ∧ sl a' 9 = .pointer none ∧ sl a' 10 = .int .i64 ec ∧ sl a' 12 = .int .i64 ec ∧ sl a' 67 = .bool true ∧ w4 = w') Nope) a w4 := by
  obtain ⟨f, ha, hs⟩ := frKDP hf
  have e9 := (hs 9).trans h9
  have e10 := (hs 10).trans h10
  have e12 := (hs 12).trans h12
  rw [e9, e10, e12] at ha
  clear hs hf e9 h9 e10 h10 e12 h12
  subst ha
  refine piece2 fun J0 K0 hJ0 hK0 => ?_
  conv => arg 2; whnf
  have h0 := hec0.out
  go_wp2_with fail
  refine Met.intro (hJ0 _ _ ?_)
  exact ⟨⟨rfl, rfl⟩, rfl, rfl, rfl, by have h1 := hec0.out; simp [sl, h1], rfl⟩

set_option maxRecDepth 100000 in
set_option maxHeartbeats 4000000 in
theorem kpw2 (w wr : World) (hb : Below w.heap.size w wr) (a : Act) (hf : Fr 274 a) :
    Code.wp Try.prog (cAt [1,1,1,1,1,0,1,3] KDP) (RetsV Try.f20 (Yes w)) a wr := by
  have HB := Lib.hid hb
  clear hb
  obtain ⟨f, ha, hs⟩ := frKDP hf
  clear hs hf 
  subst ha
  conv => arg 2; whnf
  go_wp2_with fail
  refine (works13_any wr).mono ?_
  rintro e w1 ⟨rfl, hb1⟩
  have HF : Hid (Below w.heap.size w w1) := HB.out.trans (hb1.mono HB.out.size)
  clear hb1
  go_wp2_with fail
  refine ⟨rfl, rfl, .bool true, ?_, ⟨rfl, HF.out⟩⟩
  simp [results, Try.results20, go_sem]

set_option maxRecDepth 100000 in
set_option maxHeartbeats 4000000 in
theorem p3 (w : World) (ya : Option Addr) (m : Nat) (yc : Nat) (pa : Int) (na : Int) (z : Nat) (hz3 : Hid (z ≤ 300)) (a : Act) (hf : Fr 274 a) (h0 : sl a 0 = .int .i64 (z : Int)) (h1 : sl a 1 = .slice ya m yc) (h2 : sl a 2 = .int .i64 pa) (h3 : sl a 3 = .int .i64 na) :
    Code.wp Try.prog (cAt [1,1,0] KDP) (Exit.then (fun a' w' => ∃ g : Nat, ∃ k0 : Dk, Fr 274 a' ∧ sl a' 0 = .int .i64 (z : Int) ∧ sl a' 1 = .slice ya m yc ∧ sl a' 2 = .int .i64 pa ∧ sl a' 3 = .int .i64 na ∧ sl a' 9 = .pointer (some ⟨g, 0, none⟩) ∧ sl a' 10 = .int .i64 0 ∧ Ms w w' [.disk g k0] ∧ (k0.d = nz z ∧ k0.ws = [])) Nope) a w := by
  obtain ⟨f, ha, hs⟩ := frKDP hf
  have e0 := (hs 0).trans h0
  have e1 := (hs 1).trans h1
  have e2 := (hs 2).trans h2
  have e3 := (hs 3).trans h3
  rw [e0, e1, e2, e3] at ha
  clear hs hf e0 h0 e1 h1 e2 h2 e3 h3
  subst ha
  refine piece2 fun J0 K0 hJ0 hK0 => ?_
  conv => arg 2; whnf
  go_wp2_with fail
  refine (dkNew_any z _ (by have := hz3.out; omega)).mono ?_
  rintro e w1 ⟨g, rfl, _, ⟨a, c, hd⟩, hb⟩
  have HM : Hid (Ms w w1 [.disk g ⟨a, c, nz z, none, 0, []⟩]) := (Ms.nil w).add (t := .disk g _) hb hd
  clear hd hb
  go_wp2_with fail
  refine Met.intro (hJ0 _ _ ?_)
  exact ⟨g, _, ⟨rfl, rfl⟩, rfl, rfl, rfl, rfl, rfl, rfl, HM.out, ⟨rfl, rfl⟩⟩

set_option maxRecDepth 100000 in
set_option maxHeartbeats 4000000 in
theorem p4 (w : World) (ya : Option Addr) (m : Nat) (yc : Nat) (pa : Int) (na : Int) (z : Nat) (hz3 : Hid (z ≤ 300)) (w3 : World) (g : Nat) (k0 : Dk) (HM3 : Hid (Ms w w3 [.disk g k0])) (a : Act) (hf : Fr 274 a) (h0 : sl a 0 = .int .i64 (z : Int)) (h1 : sl a 1 = .slice ya m yc) (h2 : sl a 2 = .int .i64 pa) (h3 : sl a 3 = .int .i64 na) (h9 : sl a 9 = .pointer (some ⟨g, 0, none⟩)) (h10 : sl a 10 = .int .i64 0) :
    Code.wp Try.prog (cAt [1,1,1,0] KDP) (Exit.then (fun a' w' => ∃ b11 : Nat, Fr 274 a' ∧ sl a' 0 = .int .i64 (z : Int) ∧ sl a' 1 = .slice ya m yc ∧ sl a' 2 = .int .i64 pa ∧ sl a' 3 = .int .i64 na ∧ sl a' 9 = .pointer (some ⟨g, 0, none⟩) ∧ sl a' 10 = .int .i64 0 ∧ sl a' 11 = .pointer (some ⟨b11, 0, none⟩) ∧ sl a' 12 = .int .i64 0 ∧ Ms w w' [.cell b11 #[.string (str (nz z)), .slice none 0 0] 63, .disk g k0]) Nope) a w3 := by
  obtain ⟨f, ha, hs⟩ := frKDP hf
  have e0 := (hs 0).trans h0
  have e1 := (hs 1).trans h1
  have e2 := (hs 2).trans h2
  have e3 := (hs 3).trans h3
  have e9 := (hs 9).trans h9
  have e10 := (hs 10).trans h10
  rw [e0, e1, e2, e3, e9, e10] at ha
  clear hs hf e0 h0 e1 h1 e2 h2 e3 h3 e9 h9 e10 h10
  subst ha
  refine piece2 fun J0 K0 hJ0 hK0 => ?_
  conv => arg 2; whnf
  go_wp2_with fail
  refine (r13New_any z w3 (by have := hz3.out; omega)).mono ?_
  rintro e w1 ⟨rfl, hb⟩
  have HB := Lib.hid hb
  clear hb
  have r0 := Blk_new w1 #[.string ⟨#[]⟩, .slice none 0 0] 63
  have HR := Lib.hid r0
  have HAL := Lib.hid (al w1 (.cells #[.string ⟨#[]⟩, .slice none 0 0] 63))
  clear r0
  go_wp2_with (refine st2 63 (.tmp 11) (.tmp 54) rfl rfl w1.heap.size (.string (str (nz z))) (.slice none 0 0) _ _ 63 rfl rfl HR.out infRk rfl rfl ?_; intro wc HC)
  have HM : Hid (Ms w wc [.cell w1.heap.size #[.string (str (nz z)), .slice none 0 0] 63, .disk g k0]) := (HM3.out.past HB.out).add (t := .cell w1.heap.size _ 63) (HAL.out.trans (HC.out.2.below HAL.out.size (fun i e => by omega))) ⟨Nat.le_refl _, HC.out.1⟩
  refine Met.intro (hJ0 _ _ ?_)
  exact ⟨w1.heap.size, ⟨rfl, rfl⟩, rfl, rfl, rfl, rfl, rfl, rfl, rfl, rfl, HM.out⟩

set_option maxRecDepth 100000 in
set_option maxHeartbeats 4000000 in
theorem p5 (ya : Option Addr) (m : Nat) (yc : Nat) (pa : Int) (na : Int) (z : Nat) (g : Nat) (w4 : World) (b11 : Nat) (a : Act) (hf : Fr 274 a) (h0 : sl a 0 = .int .i64 (z : Int)) (h1 : sl a 1 = .slice ya m yc) (h2 : sl a 2 = .int .i64 pa) (h3 : sl a 3 = .int .i64 na) (h9 : sl a 9 = .pointer (some ⟨g, 0, none⟩)) (h10 : sl a 10 = .int .i64 0) (h11 : sl a 11 = .pointer (some ⟨b11, 0, none⟩)) (h12 : sl a 12 = .int .i64 0) :
    Code.wp Try.prog (cAt [1,1,1,1,0,0] KDP) (Exit.then (fun a' w' => Fr 274 a' ∧ sl a' 0 = .int .i64 (z : Int) ∧ sl a' 1 = .slice ya m yc ∧ sl a' 2 = .int .i64 pa ∧ sl a' 3 = .int .i64 na ∧ sl a' 9 = .pointer (some ⟨g, 0, none⟩) ∧ sl a' 10 = .int .i64 0 ∧ sl a' 11 = .pointer (some ⟨b11, 0, none⟩) ∧ sl a' 12 = .int .i64 0 ∧ sl a' 65 = .bool false ∧ w4 = w') Nope) a w4 := by
  obtain ⟨f, ha, hs⟩ := frKDP hf
  have e0 := (hs 0).trans h0
  have e1 := (hs 1).trans h1
  have e2 := (hs 2).trans h2
  have e3 := (hs 3).trans h3
  have e9 := (hs 9).trans h9
  have e10 := (hs 10).trans h10
  have e11 := (hs 11).trans h11
  have e12 := (hs 12).trans h12
  rw [e0, e1, e2, e3, e9, e10, e11, e12] at ha
  clear hs hf e0 h0 e1 h1 e2 h2 e3 h3 e9 h9 e10 h10 e11 h11 e12 h12
  subst ha
  refine piece2 fun J0 K0 hJ0 hK0 => ?_
  conv => arg 2; whnf
  go_wp2_with fail
  refine Met.intro (hJ0 _ _ ?_)
  exact ⟨⟨rfl, rfl⟩, rfl, rfl, rfl, rfl, rfl, rfl, rfl, rfl, rfl, rfl⟩

set_option maxRecDepth 100000 in
set_option maxHeartbeats 4000000 in
theorem p7 (ya : Option Addr) (m : Nat) (yc : Nat) (pa : Int) (na : Int) (z : Nat) (g : Nat) (w4 : World) (b11 : Nat) (a : Act) (hf : Fr 274 a) (h0 : sl a 0 = .int .i64 (z : Int)) (h1 : sl a 1 = .slice ya m yc) (h2 : sl a 2 = .int .i64 pa) (h3 : sl a 3 = .int .i64 na) (h9 : sl a 9 = .pointer (some ⟨g, 0, none⟩)) (h10 : sl a 10 = .int .i64 0) (h11 : sl a 11 = .pointer (some ⟨b11, 0, none⟩)) (h12 : sl a 12 = .int .i64 0) :
    Code.wp Try.prog (cAt [1,1,1,1,1,0,0] KDP) (Exit.then (fun a' w' => Fr 274 a' ∧ sl a' 1 = .slice ya m yc ∧ sl a' 2 = .int .i64 pa ∧ sl a' 3 = .int .i64 na ∧ sl a' 9 = .pointer (some ⟨g, 0, none⟩) ∧ sl a' 11 = .pointer (some ⟨b11, 0, none⟩) ∧ sl a' 67 = .bool false ∧ w4 = w') Nope) a w4 := by
  obtain ⟨f, ha, hs⟩ := frKDP hf
  have e0 := (hs 0).trans h0
  have e1 := (hs 1).trans h1
  have e2 := (hs 2).trans h2
  have e3 := (hs 3).trans h3
  have e9 := (hs 9).trans h9
  have e10 := (hs 10).trans h10
  have e11 := (hs 11).trans h11
  have e12 := (hs 12).trans h12
  rw [e0, e1, e2, e3, e9, e10, e11, e12] at ha
  clear hs hf e0 h0 e1 h1 e2 h2 e3 h3 e9 h9 e10 h10 e11 h11 e12 h12
  subst ha
  refine piece2 fun J0 K0 hJ0 hK0 => ?_
  conv => arg 2; whnf
  go_wp2_with fail
  refine Met.intro (hJ0 _ _ ?_)
  exact ⟨⟨rfl, rfl⟩, rfl, rfl, rfl, rfl, rfl, rfl, rfl⟩

set_option maxRecDepth 100000 in
set_option maxHeartbeats 4000000 in
theorem p9 (w : World) (ya : Option Addr) (m : Nat) (yc : Nat) (pa : Int) (na : Int) (z : Nat) (g : Nat) (k0 : Dk) (HK0 : Hid (k0.d = nz z ∧ k0.ws = [])) (w4 : World) (b11 : Nat) (HM4 : Hid (Ms w w4 [.cell b11 #[.string (str (nz z)), .slice none 0 0] 63, .disk g k0])) (a : Act) (hf : Fr 274 a) (h1 : sl a 1 = .slice ya m yc) (h2 : sl a 2 = .int .i64 pa) (h3 : sl a 3 = .int .i64 na) (h9 : sl a 9 = .pointer (some ⟨g, 0, none⟩)) (h11 : sl a 11 = .pointer (some ⟨b11, 0, none⟩)) :
    Code.wp Try.prog (cAt [1,1,1,1,1,1,0] KDP) (Exit.then (fun a' w' => ∃ gf : Nat, ∃ kf : Dk, ∃ b14 : Nat, Fr 274 a' ∧ sl a' 1 = .slice ya m yc ∧ sl a' 2 = .int .i64 pa ∧ sl a' 3 = .int .i64 na ∧ sl a' 9 = .pointer (some ⟨g, 0, none⟩) ∧ sl a' 11 = .pointer (some ⟨b11, 0, none⟩) ∧ sl a' 13 = .pointer (some ⟨gf, 0, none⟩) ∧ sl a' 14 = .pointer (some ⟨b14, 0, none⟩) ∧ Ms w w' [.cell b11 #[.string (str (nz z)), .slice none 0 0] 63, .disk g k0, .cell b14 #[.string (str (nz z)), .slice none 0 0] 63, .disk gf kf] ∧ (kf.d = nz z ∧ kf.ws = [])) Nope) a w4 := by
  obtain ⟨f, ha, hs⟩ := frKDP hf
  have e1 := (hs 1).trans h1
  have e2 := (hs 2).trans h2
  have e3 := (hs 3).trans h3
  have e9 := (hs 9).trans h9
  have e11 := (hs 11).trans h11
  rw [e1, e2, e3, e9, e11] at ha
  clear hs hf e1 h1 e2 h2 e3 h3 e9 h9 e11 h11
  subst ha
  refine piece2 fun J0 K0 hJ0 hK0 => ?_
  conv => arg 2; whnf
  have HMd : Hid (Ms w w4.drew [.disk g k0, .cell b11 #[.string (str (nz z)), .slice none 0 0] 63]) := (HM4.out.past (Below.refl _ _).drew).to1
  go_wp2_with fail
  refine wp_region_held_drew (S := fun w' => w'.heap[b11]? = some (.cells #[.string (str (nz z)), .slice none 0 0] 63 (0, 0))) (by kernel_rfl) (Ms.to1 HMd.out).row2 (fun hS => ?_)
  refine tk 0 69 (.pointer (some ⟨g, 0, none⟩)) rfl rfl (by kernel_rfl) (by kernel_rfl) (by kernel_rfl) (fun _ _ _ h => h) (Or.inl ⟨by rfl, fun w' h' => ?_⟩) hS ?_
  · go_simp
  try simp only [Act.put, List.setIfInBounds_toArray, List.set_cons_zero, List.set_cons_succ]
  refine tk 2 71 (.agg #[.string (str (nz z)), .slice none 0 0]) rfl rfl (by kernel_rfl) (by kernel_rfl) (by kernel_rfl) (fun _ _ _ h => h) (Or.inl ⟨by rfl, fun w' h' => ?_⟩) hS ?_
  · have x1 := two0 h'
    have x2 := two1 h'
    go_simp
  try simp only [Act.put, List.setIfInBounds_toArray, List.set_cons_zero, List.set_cons_succ]
  refine wpAnyH_ready (rs := [1, 3]) (by kernel_rfl) (by simp) (AllReadyH.cons rfl (fun K hK => ?_) (AllReadyH.cons rfl (fun K hK => ?_) AllReadyH.nil))
  · rw [if_pos (by rfl)]
    go_wp2_with fail
    refine (dkCopy_any w.heap.size g k0 w4.drew HMd.out.hd (by rw [ws_len, HK0.out.2]; decide)).mono ?_
    rintro e wk ⟨gf, kf, rfl, hc, hcd, hcl, hb⟩
    have HK : Hid (Ms w wk [.disk gf kf, .disk g k0, .cell b11 #[.string (str (nz z)), .slice none 0 0] 63] ∧ kf.d = nz z ∧ kf.ws = []) := ⟨HMd.out.add (t := .disk gf kf) hb hc, hcd.trans HK0.out.1, hcl.trans HK0.out.2⟩
    clear hc hcd hcl hb
    refine hK.out _ _ (cell_ok (HK.out.1.ok (.cell b11 #[.string (str (nz z)), .slice none 0 0] 63) (by simp))) (fun hS => ?_)
    clear hK K
    try simp only [Act.put, List.setIfInBounds_toArray, List.set_cons_zero, List.set_cons_succ]
    refine wpAnyH_ready (rs := [3]) (by kernel_rfl) (by simp) (AllReadyH.cons rfl (fun K hK => ?_) AllReadyH.nil)
    rw [if_pos (by rfl)]
    go_wp2_with fail
    obtain ⟨b14, hb14⟩ : ∃ b, wk.heap.size = b := ⟨_, rfl⟩
    have HY : Hid (Ms w (wk.alloc (.cells #[.string ⟨#[]⟩, .slice none 0 0] 63)) [.cell b14 #[.string ⟨#[]⟩, .slice none 0 0] 63, .disk gf kf, .disk g k0, .cell b11 #[.string (str (nz z)), .slice none 0 0] 63]) := HK.out.1.add (t := .cell b14 #[.string ⟨#[]⟩, .slice none 0 0] 63) (al _ _) ⟨by omega, by rw [← hb14]; exact Blk_new _ _ _⟩
    rw [hb14]
    clear hb14
    obtain ⟨wy, hwy⟩ : ∃ x, wk.alloc (.cells #[.string ⟨#[]⟩, .slice none 0 0] 63) = x := ⟨_, rfl⟩
    rw [hwy] at HY
    first | rw [hwy] | (change K _ (wk.alloc (.cells #[.string ⟨#[]⟩, .slice none 0 0] 63)); rw [hwy])
    clear hwy
    refine hK.out _ _ (cell_ok (HY.out.ok (.cell b11 #[.string (str (nz z)), .slice none 0 0] 63) (by simp))) (fun hS => ?_)
    clear hK K
    try simp only [Act.put, List.setIfInBounds_toArray, List.set_cons_zero, List.set_cons_succ]
    refine tk 4 13 (.pointer (some ⟨gf, 0, none⟩)) rfl rfl (by kernel_rfl) (by kernel_rfl) (by kernel_rfl) (fun _ _ _ h => h) (Or.inl ⟨by rfl, fun w' h' => ?_⟩) hS ?_
    · go_simp
    try simp only [Act.put, List.setIfInBounds_toArray, List.set_cons_zero, List.set_cons_succ]
    refine wpAnyH_ready (rs := [5]) (by kernel_rfl) (by simp) (AllReadyH.cons rfl (fun K hK => ?_) AllReadyH.nil)
    rw [if_pos (by rfl)]
    refine stO2 63 (.tmp 14) (.tmp 71) rfl b14 (.string (str (nz z))) (.slice none 0 0) _ _ 63 rfl rfl HY.out.row2 infRk rfl rfl ?_
    intro wz HZ
    have HF : Hid (Ms w wz [.cell b14 #[.string (str (nz z)), .slice none 0 0] 63, .disk gf kf, .disk g k0, .cell b11 #[.string (str (nz z)), .slice none 0 0] 63]) := HY.out.setC HZ.out.1 HZ.out.2
    refine hK.out _ _ (cell_ok (HF.out.ok (.cell b11 #[.string (str (nz z)), .slice none 0 0] 63) (by simp))) (fun hS => ?_)
    clear hK K
    refine wpAnyH_done (by kernel_rfl) ?_ _
    go_wp2_with fail
    refine Met.intro (hJ0 _ _ ?_)
    exact ⟨gf, kf, b14, ⟨rfl, rfl⟩, rfl, rfl, rfl, rfl, rfl, rfl, rfl, HF.out.perm (((((List.Perm.cons _ (List.Perm.cons _ (List.Perm.swap _ _ _))).trans (List.Perm.cons _ (List.Perm.swap _ _ _))).trans (List.Perm.swap _ _ _)).trans (List.Perm.cons _ (List.Perm.cons _ (List.Perm.swap _ _ _)))).trans (List.Perm.cons _ (List.Perm.swap _ _ _))), HK.out.2⟩
  · rw [if_pos (by rfl)]
    go_wp2_with fail
    obtain ⟨b14, hb14⟩ : ∃ b, w4.drew.heap.size = b := ⟨_, rfl⟩
    have HX0 : Hid (Ms w (w4.drew.alloc (.cells #[.string ⟨#[]⟩, .slice none 0 0] 63)) [.cell b14 #[.string ⟨#[]⟩, .slice none 0 0] 63, .disk g k0, .cell b11 #[.string (str (nz z)), .slice none 0 0] 63]) := HMd.out.add (t := .cell b14 #[.string ⟨#[]⟩, .slice none 0 0] 63) (al _ _) ⟨by omega, by rw [← hb14]; exact Blk_new _ _ _⟩
    obtain ⟨wy, hwy⟩ : ∃ x, w4.drew.alloc (.cells #[.string ⟨#[]⟩, .slice none 0 0] 63) = x := ⟨_, rfl⟩
    rw [hwy] at HX0
    rw [show w4.heap.size = b14 from hb14]
    first | rw [hwy] | (change K _ (w4.drew.alloc (.cells #[.string ⟨#[]⟩, .slice none 0 0] 63)); rw [hwy])
    have HX : Hid (Ms w wy [.disk g k0, .cell b14 #[.string ⟨#[]⟩, .slice none 0 0] 63, .cell b11 #[.string (str (nz z)), .slice none 0 0] 63]) := HX0.out.to1
    clear hwy hb14
    refine hK.out _ _ (cell_ok (HX.out.ok (.cell b11 #[.string (str (nz z)), .slice none 0 0] 63) (by simp))) (fun hS => ?_)
    clear hK K
    try simp only [Act.put, List.setIfInBounds_toArray, List.set_cons_zero, List.set_cons_succ]
    refine wpAnyH_ready (rs := [1]) (by kernel_rfl) (by simp) (AllReadyH.cons rfl (fun K hK => ?_) AllReadyH.nil)
    rw [if_pos (by rfl)]
    go_wp2_with fail
    refine (dkCopy_any w.heap.size g k0 wy HX.out.hd (by rw [ws_len, HK0.out.2]; decide)).mono ?_
    rintro e wk ⟨gf, kf, rfl, hc, hcd, hcl, hb⟩
    have HK : Hid (Ms w wk [.disk gf kf, .disk g k0, .cell b14 #[.string ⟨#[]⟩, .slice none 0 0] 63, .cell b11 #[.string (str (nz z)), .slice none 0 0] 63] ∧ kf.d = nz z ∧ kf.ws = []) := ⟨HX.out.add (t := .disk gf kf) hb hc, hcd.trans HK0.out.1, hcl.trans HK0.out.2⟩
    clear hc hcd hcl hb
    refine hK.out _ _ (cell_ok (HK.out.1.ok (.cell b11 #[.string (str (nz z)), .slice none 0 0] 63) (by simp))) (fun hS => ?_)
    clear hK K
    have HY : Hid (Ms w wk [.cell b14 #[.string ⟨#[]⟩, .slice none 0 0] 63, .disk gf kf, .disk g k0, .cell b11 #[.string (str (nz z)), .slice none 0 0] 63]) := HK.out.1.to2
    try simp only [Act.put, List.setIfInBounds_toArray, List.set_cons_zero, List.set_cons_succ]
    refine tk 4 13 (.pointer (some ⟨gf, 0, none⟩)) rfl rfl (by kernel_rfl) (by kernel_rfl) (by kernel_rfl) (fun _ _ _ h => h) (Or.inl ⟨by rfl, fun w' h' => ?_⟩) hS ?_
    · go_simp
    try simp only [Act.put, List.setIfInBounds_toArray, List.set_cons_zero, List.set_cons_succ]
    refine wpAnyH_ready (rs := [5]) (by kernel_rfl) (by simp) (AllReadyH.cons rfl (fun K hK => ?_) AllReadyH.nil)
    rw [if_pos (by rfl)]
    refine stO2 63 (.tmp 14) (.tmp 71) rfl b14 (.string (str (nz z))) (.slice none 0 0) _ _ 63 rfl rfl HY.out.row2 infRk rfl rfl ?_
    intro wz HZ
    have HF : Hid (Ms w wz [.cell b14 #[.string (str (nz z)), .slice none 0 0] 63, .disk gf kf, .disk g k0, .cell b11 #[.string (str (nz z)), .slice none 0 0] 63]) := HY.out.setC HZ.out.1 HZ.out.2
    refine hK.out _ _ (cell_ok (HF.out.ok (.cell b11 #[.string (str (nz z)), .slice none 0 0] 63) (by simp))) (fun hS => ?_)
    clear hK K
    refine wpAnyH_done (by kernel_rfl) ?_ _
    go_wp2_with fail
    refine Met.intro (hJ0 _ _ ?_)
    exact ⟨gf, kf, b14, ⟨rfl, rfl⟩, rfl, rfl, rfl, rfl, rfl, rfl, rfl, HF.out.perm (((((List.Perm.cons _ (List.Perm.cons _ (List.Perm.swap _ _ _))).trans (List.Perm.cons _ (List.Perm.swap _ _ _))).trans (List.Perm.swap _ _ _)).trans (List.Perm.cons _ (List.Perm.cons _ (List.Perm.swap _ _ _)))).trans (List.Perm.cons _ (List.Perm.swap _ _ _))), HK.out.2⟩

set_option maxRecDepth 100000 in
set_option maxHeartbeats 4000000 in
theorem p11i (ya : Option Addr) (m : Nat) (yc : Nat) (pa : Int) (na : Int) (g : Nat) (b11 : Nat) (w9 : World) (gf : Nat) (b14 : Nat) (a : Act) (hf : Fr 274 a) (h1 : sl a 1 = .slice ya m yc) (h2 : sl a 2 = .int .i64 pa) (h3 : sl a 3 = .int .i64 na) (h9 : sl a 9 = .pointer (some ⟨g, 0, none⟩)) (h11 : sl a 11 = .pointer (some ⟨b11, 0, none⟩)) (h13 : sl a 13 = .pointer (some ⟨gf, 0, none⟩)) (h14 : sl a 14 = .pointer (some ⟨b14, 0, none⟩)) :
    Code.wp Try.prog (cAt [1,1,1,1,1,1,1,0,0] KDP) (Exit.then (fun a' w' => Fr 274 a' ∧ sl a' 1 = .slice ya m yc ∧ sl a' 2 = .int .i64 pa ∧ sl a' 3 = .int .i64 na ∧ sl a' 9 = .pointer (some ⟨g, 0, none⟩) ∧ sl a' 11 = .pointer (some ⟨b11, 0, none⟩) ∧ sl a' 13 = .pointer (some ⟨gf, 0, none⟩) ∧ sl a' 14 = .pointer (some ⟨b14, 0, none⟩) ∧ sl a' 15 = .int .i64 0 ∧ w9 = w') Nope) a w9 := by
  obtain ⟨f, ha, hs⟩ := frKDP hf
  have e1 := (hs 1).trans h1
  have e2 := (hs 2).trans h2
  have e3 := (hs 3).trans h3
  have e9 := (hs 9).trans h9
  have e11 := (hs 11).trans h11
  have e13 := (hs 13).trans h13
  have e14 := (hs 14).trans h14
  rw [e1, e2, e3, e9, e11, e13, e14] at ha
  clear hs hf e1 h1 e2 h2 e3 h3 e9 h9 e11 h11 e13 h13 e14 h14
  subst ha
  refine piece2 fun J0 K0 hJ0 hK0 => ?_
  conv => arg 2; whnf
  go_wp2_with fail
  refine Met.intro (hJ0 _ _ ?_)
  exact ⟨⟨rfl, rfl⟩, rfl, rfl, rfl, rfl, rfl, rfl, rfl, rfl, rfl⟩

set_option maxRecDepth 100000 in
set_option maxHeartbeats 4000000 in
theorem p11x (ya : Option Addr) (m : Nat) (yc : Nat) (pa : Int) (na : Int) (g : Nat) (b11 : Nat) (gf : Nat) (b14 : Nat) (wp11 : World) (i : Nat) (hli : Hid (¬ i < m)) (a : Act) (hf : Fr 274 a) (h1 : sl a 1 = .slice ya m yc) (h2 : sl a 2 = .int .i64 pa) (h3 : sl a 3 = .int .i64 na) (h9 : sl a 9 = .pointer (some ⟨g, 0, none⟩)) (h11 : sl a 11 = .pointer (some ⟨b11, 0, none⟩)) (h13 : sl a 13 = .pointer (some ⟨gf, 0, none⟩)) (h14 : sl a 14 = .pointer (some ⟨b14, 0, none⟩)) (h15 : sl a 15 = .int .i64 (i : Int)) :
    Code.wp Try.prog (cAt [1,1,1,1,1,1,1,0,1,2,2] KDP) (Outs 0 (fun a' w' => Fr 274 a' ∧ sl a' 1 = .slice ya m yc ∧ sl a' 2 = .int .i64 pa ∧ sl a' 3 = .int .i64 na ∧ sl a' 9 = .pointer (some ⟨g, 0, none⟩) ∧ sl a' 11 = .pointer (some ⟨b11, 0, none⟩) ∧ sl a' 13 = .pointer (some ⟨gf, 0, none⟩) ∧ sl a' 14 = .pointer (some ⟨b14, 0, none⟩) ∧ wp11 = w')) a wp11 := by
  obtain ⟨f, ha, hs⟩ := frKDP hf
  have e1 := (hs 1).trans h1
  have e2 := (hs 2).trans h2
  have e3 := (hs 3).trans h3
  have e9 := (hs 9).trans h9
  have e11 := (hs 11).trans h11
  have e13 := (hs 13).trans h13
  have e14 := (hs 14).trans h14
  have e15 := (hs 15).trans h15
  rw [e1, e2, e3, e9, e11, e13, e14, e15] at ha
  clear hs hf e1 h1 e2 h2 e3 h3 e9 h9 e11 h11 e13 h13 e14 h14 e15 h15
  subst ha
  conv => arg 2; whnf
  have hi2 : ¬ (i : Int) < (m : Int) := by have := hli.out; omega
  go_wp2_with fail
  exact ⟨rfl, ⟨rfl, rfl⟩, rfl, rfl, rfl, rfl, rfl, rfl, rfl, rfl⟩

set_option maxRecDepth 100000 in
set_option maxHeartbeats 4000000 in
theorem p11c (ya : Option Addr) (m : Nat) (yc : Nat) (pa : Int) (na : Int) (g : Nat) (b11 : Nat) (gf : Nat) (b14 : Nat) (wp11 : World) (i : Nat) (hli : Hid (i < m)) (a : Act) (hf : Fr 274 a) (h1 : sl a 1 = .slice ya m yc) (h2 : sl a 2 = .int .i64 pa) (h3 : sl a 3 = .int .i64 na) (h9 : sl a 9 = .pointer (some ⟨g, 0, none⟩)) (h11 : sl a 11 = .pointer (some ⟨b11, 0, none⟩)) (h13 : sl a 13 = .pointer (some ⟨gf, 0, none⟩)) (h14 : sl a 14 = .pointer (some ⟨b14, 0, none⟩)) (h15 : sl a 15 = .int .i64 (i : Int)) :
    Code.wp Try.prog (cAt [1,1,1,1,1,1,1,0,1,2,2,0] KDP) (Exit.then (fun a' w' => Fr 274 a' ∧ sl a' 1 = .slice ya m yc ∧ sl a' 2 = .int .i64 pa ∧ sl a' 3 = .int .i64 na ∧ sl a' 9 = .pointer (some ⟨g, 0, none⟩) ∧ sl a' 11 = .pointer (some ⟨b11, 0, none⟩) ∧ sl a' 13 = .pointer (some ⟨gf, 0, none⟩) ∧ sl a' 14 = .pointer (some ⟨b14, 0, none⟩) ∧ sl a' 15 = .int .i64 (i : Int) ∧ wp11 = w') Nope) a wp11 := by
  obtain ⟨f, ha, hs⟩ := frKDP hf
  have e1 := (hs 1).trans h1
  have e2 := (hs 2).trans h2
  have e3 := (hs 3).trans h3
  have e9 := (hs 9).trans h9
  have e11 := (hs 11).trans h11
  have e13 := (hs 13).trans h13
  have e14 := (hs 14).trans h14
  have e15 := (hs 15).trans h15
  rw [e1, e2, e3, e9, e11, e13, e14, e15] at ha
  clear hs hf e1 h1 e2 h2 e3 h3 e9 h9 e11 h11 e13 h13 e14 h14 e15 h15
  subst ha
  refine piece2 fun J0 K0 hJ0 hK0 => ?_
  conv => arg 2; whnf
  have hi2 : (i : Int) < (m : Int) := by have := hli.out; omega
  go_wp2_with fail
  refine Met.intro (hJ0 _ _ ?_)
  exact ⟨⟨rfl, rfl⟩, rfl, rfl, rfl, rfl, rfl, rfl, rfl, rfl, rfl⟩

set_option maxRecDepth 100000 in
set_option maxHeartbeats 4000000 in
theorem p13 (w : World) (m : Nat) (yc : Nat) (pa : Int) (na : Int) (z : Nat) (g : Nat) (b11 : Nat) (gf : Nat) (kf : Dk) (b14 : Nat) (wp11 : World) (i : Nat) (k : Dk) (u : Option Addr) (c : Nat) (HML : Hid (Ms w wp11 [.cell b11 #[.string (str k.d), .slice u k.ws.length c] 63, .any 80 2 u k.ws.length c (rcs k.ws), .disk g k, .cell b14 #[.string (str (nz z)), .slice none 0 0] 63, .disk gf kf])) (hli : Hid (i < m)) (y : Ac) (yb : Nat) (yo : Nat) (hrg : Hid (w.rangeAt yb (yo + i * 4) y.cs)) (a : Act) (hf : Fr 274 a) (h1 : sl a 1 = .slice (some ⟨yb, yo, none⟩) m yc) (h2 : sl a 2 = .int .i64 pa) (h3 : sl a 3 = .int .i64 na) (h9 : sl a 9 = .pointer (some ⟨g, 0, none⟩)) (h11 : sl a 11 = .pointer (some ⟨b11, 0, none⟩)) (h13 : sl a 13 = .pointer (some ⟨gf, 0, none⟩)) (h14 : sl a 14 = .pointer (some ⟨b14, 0, none⟩)) (h15 : sl a 15 = .int .i64 (i : Int)) :
    Code.wp Try.prog (cAt [1,1,1,1,1,1,1,0,1,2,2,1,0,2,0] KDP) (Exit.then (fun a' w' => ∃ bx : Nat, Fr 274 a' ∧ sl a' 1 = .slice (some ⟨yb, yo, none⟩) m yc ∧ sl a' 2 = .int .i64 pa ∧ sl a' 3 = .int .i64 na ∧ sl a' 9 = .pointer (some ⟨g, 0, none⟩) ∧ sl a' 11 = .pointer (some ⟨b11, 0, none⟩) ∧ sl a' 13 = .pointer (some ⟨gf, 0, none⟩) ∧ sl a' 14 = .pointer (some ⟨b14, 0, none⟩) ∧ sl a' 15 = .int .i64 (i : Int) ∧ sl a' 16 = .pointer (some ⟨bx, 0, none⟩) ∧ Ms w w' [.cell bx y.cs.toArray 33, .cell b11 #[.string (str k.d), .slice u k.ws.length c] 63, .any 80 2 u k.ws.length c (rcs k.ws), .disk g k, .cell b14 #[.string (str (nz z)), .slice none 0 0] 63, .disk gf kf]) Nope) a wp11 := by
  obtain ⟨f, ha, hs⟩ := frKDP hf
  have e1 := (hs 1).trans h1
  have e2 := (hs 2).trans h2
  have e3 := (hs 3).trans h3
  have e9 := (hs 9).trans h9
  have e11 := (hs 11).trans h11
  have e13 := (hs 13).trans h13
  have e14 := (hs 14).trans h14
  have e15 := (hs 15).trans h15
  rw [e1, e2, e3, e9, e11, e13, e14, e15] at ha
  clear hs hf e1 h1 e2 h2 e3 h3 e9 h9 e11 h11 e13 h13 e14 h14 e15 h15
  subst ha
  refine piece2 fun J0 K0 hJ0 hK0 => ?_
  conv => arg 2; whnf
  have hr : Hid (wp11.rangeAt yb (yo + i * 4) y.cs) := range_kept HML.out.below hrg.out
  have c0 := Ac.r0 hr.out
  have c1 := Ac.r1 hr.out
  have c2 := Ac.r2 hr.out
  have c3 := Ac.r3 hr.out
  have HT := Lib.hid (av_th wp11 y)
  have HF0 := Lib.hid (av_new wp11 y)
  have hi2 : (i : Int) < (m : Int) := by have := hli.out; omega
  have hi0 : (0 : Int) ≤ (i : Int) := by omega
  go_wp2_with (refine stN (fun w' => Hid (Av wp11 y w')) 33 (.tmp 16) (.tmp 81) rfl rfl wp11.heap.size 0 y.cs rfl rfl HT.out infAct y.one HF0 ?_; intro wc HF)
  refine Met.intro (hJ0 _ _ ?_)
  exact ⟨wp11.heap.size, ⟨rfl, rfl⟩, rfl, rfl, rfl, rfl, rfl, rfl, rfl, rfl, rfl, (HML.out.add (t := .cell wp11.heap.size y.cs.toArray 33) HF.out.1 ⟨Nat.le_refl _, HF.out.2.2⟩)⟩

set_option maxRecDepth 100000 in
set_option maxHeartbeats 4000000 in
theorem p14 (w : World) (ya : Option Addr) (m : Nat) (yc : Nat) (pa : Int) (na : Int) (z : Nat) (g : Nat) (b11 : Nat) (gf : Nat) (kf : Dk) (b14 : Nat) (i : Nat) (k : Dk) (u : Option Addr) (c : Nat) (y : Ac) (hyok : Hid (y.ok w)) (hy60 : Hid (y.n ≤ 60 ∧ y.fn ≤ 60)) (w13 : World) (bx : Nat) (HM13 : Hid (Ms w w13 [.cell bx y.cs.toArray 33, .cell b11 #[.string (str k.d), .slice u k.ws.length c] 63, .any 80 2 u k.ws.length c (rcs k.ws), .disk g k, .cell b14 #[.string (str (nz z)), .slice none 0 0] 63, .disk gf kf])) (a : Act) (hf : Fr 274 a) (h1 : sl a 1 = .slice ya m yc) (h2 : sl a 2 = .int .i64 pa) (h3 : sl a 3 = .int .i64 na) (h9 : sl a 9 = .pointer (some ⟨g, 0, none⟩)) (h11 : sl a 11 = .pointer (some ⟨b11, 0, none⟩)) (h13 : sl a 13 = .pointer (some ⟨gf, 0, none⟩)) (h14 : sl a 14 = .pointer (some ⟨b14, 0, none⟩)) (h15 : sl a 15 = .int .i64 (i : Int)) (h16 : sl a 16 = .pointer (some ⟨bx, 0, none⟩)) :
    Code.wp Try.prog (cAt [1,1,1,1,1,1,1,0,1,2,2,1,0,2,1,0] KDP) (Exit.then (fun a' w' => ∃ ao : Option Addr, ∃ co : Nat, Fr 274 a' ∧ sl a' 1 = .slice ya m yc ∧ sl a' 2 = .int .i64 pa ∧ sl a' 3 = .int .i64 na ∧ sl a' 9 = .pointer (some ⟨g, 0, none⟩) ∧ sl a' 11 = .pointer (some ⟨b11, 0, none⟩) ∧ sl a' 13 = .pointer (some ⟨gf, 0, none⟩) ∧ sl a' 14 = .pointer (some ⟨b14, 0, none⟩) ∧ sl a' 15 = .int .i64 (i : Int) ∧ sl a' 16 = .pointer (some ⟨bx, 0, none⟩) ∧ sl a' 17 = .slice ao y.n co ∧ Ms w w' [.row ao y.n co y.xs, .cell bx y.cs.toArray 33, .cell b11 #[.string (str k.d), .slice u k.ws.length c] 63, .any 80 2 u k.ws.length c (rcs k.ws), .disk g k, .cell b14 #[.string (str (nz z)), .slice none 0 0] 63, .disk gf kf]) Nope) a w13 := by
  obtain ⟨f, ha, hs⟩ := frKDP hf
  have e1 := (hs 1).trans h1
  have e2 := (hs 2).trans h2
  have e3 := (hs 3).trans h3
  have e9 := (hs 9).trans h9
  have e11 := (hs 11).trans h11
  have e13 := (hs 13).trans h13
  have e14 := (hs 14).trans h14
  have e15 := (hs 15).trans h15
  have e16 := (hs 16).trans h16
  rw [e1, e2, e3, e9, e11, e13, e14, e15, e16] at ha
  clear hs hf e1 h1 e2 h2 e3 h3 e9 h9 e11 h11 e13 h13 e14 h14 e15 h15 e16 h16
  subst ha
  refine piece2 fun J0 K0 hJ0 hK0 => ?_
  conv => arg 2; whnf
  have c2 := Ac.k2 HM13.out.row2
  go_wp2_with fail
  refine (join_any none y.a 0 0 y.n y.c [] y.xs w13 rfl hyok.out.len (Rd.empty _ _) (hyok.out.below HM13.out.below).rd (by have := hy60.out.1; omega)).mono ?_
  rintro e wz ⟨ao, no, co, rfl, ho, hb⟩
  rw [List.nil_append] at ho
  have hn : y.n = no := by rw [← ho.len, hyok.out.len]
  subst hn
  have H : Hid (Ms w wz [.row ao y.n co y.xs, .cell bx y.cs.toArray 33, .cell b11 #[.string (str k.d), .slice u k.ws.length c] 63, .any 80 2 u k.ws.length c (rcs k.ws), .disk g k, .cell b14 #[.string (str (nz z)), .slice none 0 0] 63, .disk gf kf]) := HM13.out.add (t := .row ao y.n co y.xs) hb ho
  clear ho hb
  go_wp2_with fail
  refine Met.intro (hJ0 _ _ ?_)
  exact ⟨ao, co, ⟨rfl, rfl⟩, rfl, rfl, rfl, rfl, rfl, rfl, rfl, rfl, rfl, rfl, H.out⟩

set_option maxRecDepth 100000 in
set_option maxHeartbeats 4000000 in
theorem p15 (w : World) (ya : Option Addr) (m : Nat) (yc : Nat) (pa : Int) (na : Int) (z : Nat) (g : Nat) (b11 : Nat) (gf : Nat) (kf : Dk) (b14 : Nat) (i : Nat) (k : Dk) (u : Option Addr) (c : Nat) (y : Ac) (bx : Nat) (w14 : World) (ao : Option Addr) (co : Nat) (HM14 : Hid (Ms w w14 [.row ao y.n co y.xs, .cell bx y.cs.toArray 33, .cell b11 #[.string (str k.d), .slice u k.ws.length c] 63, .any 80 2 u k.ws.length c (rcs k.ws), .disk g k, .cell b14 #[.string (str (nz z)), .slice none 0 0] 63, .disk gf kf])) (a : Act) (hf : Fr 274 a) (h1 : sl a 1 = .slice ya m yc) (h2 : sl a 2 = .int .i64 pa) (h3 : sl a 3 = .int .i64 na) (h9 : sl a 9 = .pointer (some ⟨g, 0, none⟩)) (h11 : sl a 11 = .pointer (some ⟨b11, 0, none⟩)) (h13 : sl a 13 = .pointer (some ⟨gf, 0, none⟩)) (h14 : sl a 14 = .pointer (some ⟨b14, 0, none⟩)) (h15 : sl a 15 = .int .i64 (i : Int)) (h16 : sl a 16 = .pointer (some ⟨bx, 0, none⟩)) (h17 : sl a 17 = .slice ao y.n co) :
    Code.wp Try.prog (cAt [1,1,1,1,1,1,1,0,1,2,2,1,0,2,1,1,0,0] KDP) (Exit.then (fun a' w' => ∃ q : Int, Fr 274 a' ∧ sl a' 1 = .slice ya m yc ∧ sl a' 2 = .int .i64 pa ∧ sl a' 3 = .int .i64 na ∧ sl a' 9 = .pointer (some ⟨g, 0, none⟩) ∧ sl a' 11 = .pointer (some ⟨b11, 0, none⟩) ∧ sl a' 13 = .pointer (some ⟨gf, 0, none⟩) ∧ sl a' 14 = .pointer (some ⟨b14, 0, none⟩) ∧ sl a' 15 = .int .i64 (i : Int) ∧ sl a' 16 = .pointer (some ⟨bx, 0, none⟩) ∧ sl a' 17 = .slice ao y.n co ∧ sl a' 87 = .int .i64 q ∧ w14 = w') Nope) a w14 := by
  obtain ⟨f, ha, hs⟩ := frKDP hf
  have e1 := (hs 1).trans h1
  have e2 := (hs 2).trans h2
  have e3 := (hs 3).trans h3
  have e9 := (hs 9).trans h9
  have e11 := (hs 11).trans h11
  have e13 := (hs 13).trans h13
  have e14 := (hs 14).trans h14
  have e15 := (hs 15).trans h15
  have e16 := (hs 16).trans h16
  have e17 := (hs 17).trans h17
  rw [e1, e2, e3, e9, e11, e13, e14, e15, e16, e17] at ha
  clear hs hf e1 h1 e2 h2 e3 h3 e9 h9 e11 h11 e13 h13 e14 h14 e15 h15 e16 h16 e17 h17
  subst ha
  refine piece2 fun J0 K0 hJ0 hK0 => ?_
  conv => arg 2; whnf
  have c0 := Ac.k0 (cell_ok (HM14.out.ok (.cell bx y.cs.toArray 33) (by simp)))
  go_wp2_with fail
  refine (kPick_any y.d 8 _ (by decide) (by decide)).mono ?_
  rintro e wz ⟨rfl, hw⟩
  subst hw
  obtain ⟨q, hq⟩ : ∃ q : Int, y.d % 8 = q := ⟨_, rfl⟩
  rw [hq]
  clear hq
  go_wp2_with fail
  refine Met.intro (hJ0 _ _ ?_)
  exact ⟨q, ⟨rfl, rfl⟩, rfl, rfl, rfl, rfl, rfl, rfl, rfl, rfl, rfl, rfl, rfl, rfl⟩

set_option maxRecDepth 100000 in
set_option maxHeartbeats 4000000 in
theorem p16 (ya : Option Addr) (m : Nat) (yc : Nat) (pa : Int) (na : Int) (g : Nat) (b11 : Nat) (gf : Nat) (b14 : Nat) (i : Nat) (y : Ac) (bx : Nat) (w14 : World) (ao : Option Addr) (co : Nat) (q : Int) (a : Act) (hf : Fr 274 a) (h1 : sl a 1 = .slice ya m yc) (h2 : sl a 2 = .int .i64 pa) (h3 : sl a 3 = .int .i64 na) (h9 : sl a 9 = .pointer (some ⟨g, 0, none⟩)) (h11 : sl a 11 = .pointer (some ⟨b11, 0, none⟩)) (h13 : sl a 13 = .pointer (some ⟨gf, 0, none⟩)) (h14 : sl a 14 = .pointer (some ⟨b14, 0, none⟩)) (h15 : sl a 15 = .int .i64 (i : Int)) (h16 : sl a 16 = .pointer (some ⟨bx, 0, none⟩)) (h17 : sl a 17 = .slice ao y.n co) (h87 : sl a 87 = .int .i64 q) :
    Code.wp Try.prog (cAt [1,1,1,1,1,1,1,0,1,2,2,1,0,2,1,1,0,1,2,0,0] KDP) (Exit.then (fun a' w' => Fr 274 a' ∧ sl a' 1 = .slice ya m yc ∧ sl a' 2 = .int .i64 pa ∧ sl a' 3 = .int .i64 na ∧ sl a' 9 = .pointer (some ⟨g, 0, none⟩) ∧ sl a' 11 = .pointer (some ⟨b11, 0, none⟩) ∧ sl a' 13 = .pointer (some ⟨gf, 0, none⟩) ∧ sl a' 14 = .pointer (some ⟨b14, 0, none⟩) ∧ sl a' 15 = .int .i64 (i : Int) ∧ sl a' 16 = .pointer (some ⟨bx, 0, none⟩) ∧ sl a' 17 = .slice ao y.n co ∧ sl a' 87 = .int .i64 q ∧ sl a' 88 = .bool (decide (q = 0)) ∧ w14 = w') Nope) a w14 := by
  obtain ⟨f, ha, hs⟩ := frKDP hf
  have e1 := (hs 1).trans h1
  have e2 := (hs 2).trans h2
  have e3 := (hs 3).trans h3
  have e9 := (hs 9).trans h9
  have e11 := (hs 11).trans h11
  have e13 := (hs 13).trans h13
  have e14 := (hs 14).trans h14
  have e15 := (hs 15).trans h15
  have e16 := (hs 16).trans h16
  have e17 := (hs 17).trans h17
  have e87 := (hs 87).trans h87
  rw [e1, e2, e3, e9, e11, e13, e14, e15, e16, e17, e87] at ha
  clear hs hf e1 h1 e2 h2 e3 h3 e9 h9 e11 h11 e13 h13 e14 h14 e15 h15 e16 h16 e17 h17 e87 h87
  subst ha
  refine piece2 fun J0 K0 hJ0 hK0 => ?_
  conv => arg 2; whnf
  go_wp2_with fail
  refine Met.intro (hJ0 _ _ ?_)
  exact ⟨⟨rfl, rfl⟩, rfl, rfl, rfl, rfl, rfl, rfl, rfl, rfl, rfl, rfl, rfl, rfl, rfl⟩

set_option maxRecDepth 100000 in
set_option maxHeartbeats 4000000 in
theorem p17 (ya : Option Addr) (m : Nat) (yc : Nat) (pa : Int) (na : Int) (g : Nat) (b11 : Nat) (gf : Nat) (b14 : Nat) (i : Nat) (y : Ac) (bx : Nat) (w14 : World) (ao : Option Addr) (co : Nat) (q : Int) (a : Act) (hf : Fr 274 a) (h1 : sl a 1 = .slice ya m yc) (h2 : sl a 2 = .int .i64 pa) (h3 : sl a 3 = .int .i64 na) (h9 : sl a 9 = .pointer (some ⟨g, 0, none⟩)) (h11 : sl a 11 = .pointer (some ⟨b11, 0, none⟩)) (h13 : sl a 13 = .pointer (some ⟨gf, 0, none⟩)) (h14 : sl a 14 = .pointer (some ⟨b14, 0, none⟩)) (h15 : sl a 15 = .int .i64 (i : Int)) (h16 : sl a 16 = .pointer (some ⟨bx, 0, none⟩)) (h17 : sl a 17 = .slice ao y.n co) (h87 : sl a 87 = .int .i64 q) :
    Code.wp Try.prog (cAt [1,1,1,1,1,1,1,0,1,2,2,1,0,2,1,1,0,1,2,0,1,4,0] KDP) (Exit.then (fun a' w' => Fr 274 a' ∧ sl a' 1 = .slice ya m yc ∧ sl a' 2 = .int .i64 pa ∧ sl a' 3 = .int .i64 na ∧ sl a' 9 = .pointer (some ⟨g, 0, none⟩) ∧ sl a' 11 = .pointer (some ⟨b11, 0, none⟩) ∧ sl a' 13 = .pointer (some ⟨gf, 0, none⟩) ∧ sl a' 14 = .pointer (some ⟨b14, 0, none⟩) ∧ sl a' 15 = .int .i64 (i : Int) ∧ sl a' 16 = .pointer (some ⟨bx, 0, none⟩) ∧ sl a' 17 = .slice ao y.n co ∧ sl a' 87 = .int .i64 q ∧ sl a' 88 = .bool (decide (q = 1)) ∧ w14 = w') Nope) a w14 := by
  obtain ⟨f, ha, hs⟩ := frKDP hf
  have e1 := (hs 1).trans h1
  have e2 := (hs 2).trans h2
  have e3 := (hs 3).trans h3
  have e9 := (hs 9).trans h9
  have e11 := (hs 11).trans h11
  have e13 := (hs 13).trans h13
  have e14 := (hs 14).trans h14
  have e15 := (hs 15).trans h15
  have e16 := (hs 16).trans h16
  have e17 := (hs 17).trans h17
  have e87 := (hs 87).trans h87
  rw [e1, e2, e3, e9, e11, e13, e14, e15, e16, e17, e87] at ha
  clear hs hf e1 h1 e2 h2 e3 h3 e9 h9 e11 h11 e13 h13 e14 h14 e15 h15 e16 h16 e17 h17 e87 h87
  subst ha
  refine piece2 fun J0 K0 hJ0 hK0 => ?_
  conv => arg 2; whnf
  go_wp2_with fail
  refine Met.intro (hJ0 _ _ ?_)
  exact ⟨⟨rfl, rfl⟩, rfl, rfl, rfl, rfl, rfl, rfl, rfl, rfl, rfl, rfl, rfl, rfl, rfl⟩

set_option maxRecDepth 100000 in
set_option maxHeartbeats 4000000 in
theorem p18 (ya : Option Addr) (m : Nat) (yc : Nat) (pa : Int) (na : Int) (g : Nat) (b11 : Nat) (gf : Nat) (b14 : Nat) (i : Nat) (y : Ac) (bx : Nat) (w14 : World) (ao : Option Addr) (co : Nat) (q : Int) (a : Act) (hf : Fr 274 a) (h1 : sl a 1 = .slice ya m yc) (h2 : sl a 2 = .int .i64 pa) (h3 : sl a 3 = .int .i64 na) (h9 : sl a 9 = .pointer (some ⟨g, 0, none⟩)) (h11 : sl a 11 = .pointer (some ⟨b11, 0, none⟩)) (h13 : sl a 13 = .pointer (some ⟨gf, 0, none⟩)) (h14 : sl a 14 = .pointer (some ⟨b14, 0, none⟩)) (h15 : sl a 15 = .int .i64 (i : Int)) (h16 : sl a 16 = .pointer (some ⟨bx, 0, none⟩)) (h17 : sl a 17 = .slice ao y.n co) (h87 : sl a 87 = .int .i64 q) :
    Code.wp Try.prog (cAt [1,1,1,1,1,1,1,0,1,2,2,1,0,2,1,1,0,1,2,0,1,4,1,4,0] KDP) (Exit.then (fun a' w' => Fr 274 a' ∧ sl a' 1 = .slice ya m yc ∧ sl a' 2 = .int .i64 pa ∧ sl a' 3 = .int .i64 na ∧ sl a' 9 = .pointer (some ⟨g, 0, none⟩) ∧ sl a' 11 = .pointer (some ⟨b11, 0, none⟩) ∧ sl a' 13 = .pointer (some ⟨gf, 0, none⟩) ∧ sl a' 14 = .pointer (some ⟨b14, 0, none⟩) ∧ sl a' 15 = .int .i64 (i : Int) ∧ sl a' 16 = .pointer (some ⟨bx, 0, none⟩) ∧ sl a' 17 = .slice ao y.n co ∧ sl a' 87 = .int .i64 q ∧ sl a' 88 = .bool (decide (q = 2)) ∧ w14 = w') Nope) a w14 := by
  obtain ⟨f, ha, hs⟩ := frKDP hf
  have e1 := (hs 1).trans h1
  have e2 := (hs 2).trans h2
  have e3 := (hs 3).trans h3
  have e9 := (hs 9).trans h9
  have e11 := (hs 11).trans h11
  have e13 := (hs 13).trans h13
  have e14 := (hs 14).trans h14
  have e15 := (hs 15).trans h15
  have e16 := (hs 16).trans h16
  have e17 := (hs 17).trans h17
  have e87 := (hs 87).trans h87
  rw [e1, e2, e3, e9, e11, e13, e14, e15, e16, e17, e87] at ha
  clear hs hf e1 h1 e2 h2 e3 h3 e9 h9 e11 h11 e13 h13 e14 h14 e15 h15 e16 h16 e17 h17 e87 h87
  subst ha
  refine piece2 fun J0 K0 hJ0 hK0 => ?_
  conv => arg 2; whnf
  go_wp2_with fail
  refine Met.intro (hJ0 _ _ ?_)
  exact ⟨⟨rfl, rfl⟩, rfl, rfl, rfl, rfl, rfl, rfl, rfl, rfl, rfl, rfl, rfl, rfl, rfl⟩

set_option maxRecDepth 100000 in
set_option maxHeartbeats 4000000 in
theorem p19 (ya : Option Addr) (m : Nat) (yc : Nat) (pa : Int) (na : Int) (g : Nat) (b11 : Nat) (gf : Nat) (b14 : Nat) (i : Nat) (y : Ac) (bx : Nat) (w14 : World) (ao : Option Addr) (co : Nat) (q : Int) (a : Act) (hf : Fr 274 a) (h1 : sl a 1 = .slice ya m yc) (h2 : sl a 2 = .int .i64 pa) (h3 : sl a 3 = .int .i64 na) (h9 : sl a 9 = .pointer (some ⟨g, 0, none⟩)) (h11 : sl a 11 = .pointer (some ⟨b11, 0, none⟩)) (h13 : sl a 13 = .pointer (some ⟨gf, 0, none⟩)) (h14 : sl a 14 = .pointer (some ⟨b14, 0, none⟩)) (h15 : sl a 15 = .int .i64 (i : Int)) (h16 : sl a 16 = .pointer (some ⟨bx, 0, none⟩)) (h17 : sl a 17 = .slice ao y.n co) (h87 : sl a 87 = .int .i64 q) :
    Code.wp Try.prog (cAt [1,1,1,1,1,1,1,0,1,2,2,1,0,2,1,1,0,1,2,0,1,4,1,4,1,4] KDP) (Exit.then (fun a' w' => Fr 274 a' ∧ sl a' 1 = .slice ya m yc ∧ sl a' 2 = .int .i64 pa ∧ sl a' 3 = .int .i64 na ∧ sl a' 9 = .pointer (some ⟨g, 0, none⟩) ∧ sl a' 11 = .pointer (some ⟨b11, 0, none⟩) ∧ sl a' 13 = .pointer (some ⟨gf, 0, none⟩) ∧ sl a' 14 = .pointer (some ⟨b14, 0, none⟩) ∧ sl a' 15 = .int .i64 (i : Int) ∧ sl a' 16 = .pointer (some ⟨bx, 0, none⟩) ∧ sl a' 17 = .slice ao y.n co ∧ sl a' 87 = .int .i64 q ∧ sl a' 88 = .bool (decide (q = 3)) ∧ w14 = w') Nope) a w14 := by
  obtain ⟨f, ha, hs⟩ := frKDP hf
  have e1 := (hs 1).trans h1
  have e2 := (hs 2).trans h2
  have e3 := (hs 3).trans h3
  have e9 := (hs 9).trans h9
  have e11 := (hs 11).trans h11
  have e13 := (hs 13).trans h13
  have e14 := (hs 14).trans h14
  have e15 := (hs 15).trans h15
  have e16 := (hs 16).trans h16
  have e17 := (hs 17).trans h17
  have e87 := (hs 87).trans h87
  rw [e1, e2, e3, e9, e11, e13, e14, e15, e16, e17, e87] at ha
  clear hs hf e1 h1 e2 h2 e3 h3 e9 h9 e11 h11 e13 h13 e14 h14 e15 h15 e16 h16 e17 h17 e87 h87
  subst ha
  refine piece2 fun J0 K0 hJ0 hK0 => ?_
  conv => arg 2; whnf
  go_wp2_with fail
  refine Met.intro (hJ0 _ _ ?_)
  exact ⟨⟨rfl, rfl⟩, rfl, rfl, rfl, rfl, rfl, rfl, rfl, rfl, rfl, rfl, rfl, rfl, rfl⟩

set_option maxRecDepth 100000 in
set_option maxHeartbeats 4000000 in
theorem p20 (w : World) (ya : Option Addr) (m : Nat) (yc : Nat) (pa : Int) (na : Int) (z : Nat) (g : Nat) (b11 : Nat) (gf : Nat) (kf : Dk) (b14 : Nat) (hm40 : Hid (m ≤ 40)) (i : Nat) (k : Dk) (u : Option Addr) (c : Nat) (HK : Hid (k.d.length = z ∧ k.ws.length ≤ i)) (hli : Hid (i < m)) (y : Ac) (hyok : Hid (y.ok w)) (hy60 : Hid (y.n ≤ 60 ∧ y.fn ≤ 60)) (bx : Nat) (w14 : World) (ao : Option Addr) (co : Nat) (HM14 : Hid (Ms w w14 [.row ao y.n co y.xs, .cell bx y.cs.toArray 33, .cell b11 #[.string (str k.d), .slice u k.ws.length c] 63, .any 80 2 u k.ws.length c (rcs k.ws), .disk g k, .cell b14 #[.string (str (nz z)), .slice none 0 0] 63, .disk gf kf])) (q : Int) (a : Act) (hf : Fr 274 a) (h1 : sl a 1 = .slice ya m yc) (h2 : sl a 2 = .int .i64 pa) (h3 : sl a 3 = .int .i64 na) (h9 : sl a 9 = .pointer (some ⟨g, 0, none⟩)) (h11 : sl a 11 = .pointer (some ⟨b11, 0, none⟩)) (h13 : sl a 13 = .pointer (some ⟨gf, 0, none⟩)) (h14 : sl a 14 = .pointer (some ⟨b14, 0, none⟩)) (h15 : sl a 15 = .int .i64 (i : Int)) (h16 : sl a 16 = .pointer (some ⟨bx, 0, none⟩)) (h17 : sl a 17 = .slice ao y.n co) (h87 : sl a 87 = .int .i64 q) :
    Code.wp Try.prog (cAt [1,1,1,1,1,1,1,0,1,2,2,1,0,2,1,1,0,1,2,1,3,0] KDP) (Exit.then (fun a' w' => ∃ b18 : Nat, ∃ u2 : Option Addr, ∃ c2 : Nat, ∃ L2 : List Pw, Fr 274 a' ∧ sl a' 1 = .slice ya m yc ∧ sl a' 2 = .int .i64 pa ∧ sl a' 3 = .int .i64 na ∧ sl a' 9 = .pointer (some ⟨g, 0, none⟩) ∧ sl a' 11 = .pointer (some ⟨b11, 0, none⟩) ∧ sl a' 13 = .pointer (some ⟨gf, 0, none⟩) ∧ sl a' 14 = .pointer (some ⟨b14, 0, none⟩) ∧ sl a' 15 = .int .i64 (i : Int) ∧ sl a' 16 = .pointer (some ⟨bx, 0, none⟩) ∧ sl a' 17 = .slice ao y.n co ∧ sl a' 18 = .pointer (some ⟨b18, 0, none⟩) ∧ sl a' 19 = .int .i64 (rcV k.d y.p y.xs.length) ∧ Ms w w' (.cell b18 #[.string (str k.d), .slice u2 L2.length c2] 63 :: .any 80 2 u2 L2.length c2 (rcs L2) :: [.cell b11 #[.string (str k.d), .slice u k.ws.length c] 63, .disk g k, .cell b14 #[.string (str (nz z)), .slice none 0 0] 63, .disk gf kf, .cell bx y.cs.toArray 33, .row ao y.n co y.xs]) ∧ L2 = putP k.d k.ws y.p y.xs) Nope) a w14 := by
  obtain ⟨f, ha, hs⟩ := frKDP hf
  have e1 := (hs 1).trans h1
  have e2 := (hs 2).trans h2
  have e3 := (hs 3).trans h3
  have e9 := (hs 9).trans h9
  have e11 := (hs 11).trans h11
  have e13 := (hs 13).trans h13
  have e14 := (hs 14).trans h14
  have e15 := (hs 15).trans h15
  have e16 := (hs 16).trans h16
  have e17 := (hs 17).trans h17
  have e87 := (hs 87).trans h87
  rw [e1, e2, e3, e9, e11, e13, e14, e15, e16, e17, e87] at ha
  clear hs hf e1 h1 e2 h2 e3 h3 e9 h9 e11 h11 e13 h13 e14 h14 e15 h15 e16 h16 e17 h17 e87 h87
  subst ha
  refine piece2 fun J0 K0 hJ0 hK0 => ?_
  conv => arg 2; whnf
  have HM : Hid (Ms w w14 [.row ao y.n co y.xs, .cell bx y.cs.toArray 33, .cell b11 #[.string (str k.d), .slice u k.ws.length c] 63, .any 80 2 u k.ws.length c (rcs k.ws), .disk g k, .cell b14 #[.string (str (nz z)), .slice none 0 0] 63, .disk gf kf]) := HM14.out
  have x0 := two0 (cell_ok (HM.out.ok (.cell b11 #[.string (str k.d), .slice u k.ws.length c] 63) (by simp)))
  have x1 := two1 (cell_ok (HM.out.ok (.cell b11 #[.string (str k.d), .slice u k.ws.length c] 63) (by simp)))
  have c1 := Ac.k1 (cell_ok (HM.out.ok (.cell bx y.cs.toArray 33) (by simp)))
  have c2 := Ac.k2 (cell_ok (HM.out.ok (.cell bx y.cs.toArray 33) (by simp)))
  have hyk := hyok.out.below HM.out.below
  have hcv : (convert 31 9 (.slice y.a y.n y.c)).run Try.prog w14 = .ok (.string (str y.xs)) w14 := run_string_rd w14 y.c hyk.len hyk.rd hyk.byt
  have HPU := Lib.hid (r13Put_any ⟨k.d, u, c, k.ws⟩ y.p y.xs w14 (Rk.own.lies (r := ⟨k.d, u, c, k.ws⟩) (HM.out.ok (.any 80 2 u k.ws.length c (rcs k.ws)) (by simp))) hyk.p0 (Dm.pl (HM.out.ok (.disk g k) (by simp)) (by have := HK.out.2; have := hli.out; have := hm40.out; omega)) (by rw [hyk.len]; have := hy60.out.1; omega) hyk.byt (by have := HK.out.2; have := hli.out; have := hm40.out; show k.ws.length ≤ 999; omega))
  have HYL := Lib.hid hyk.len
  clear hyk
  go_wp2_with fail
  refine (show Calls Try.prog 31 #[.agg #[.string (str k.d), .slice u k.ws.length c], .int .i64 y.p, .string (str y.xs)] w14 _ from HPU.out).mono ?_
  rintro e wz ⟨⟨d', u', c', L'⟩, rfl, hd', hL', hb, hor⟩
  have hd' : d' = k.d := hd'
  have hL' : L' = putP k.d k.ws y.p y.xs := hL'
  subst hd' hL'
  have HM2 : Hid (Ms w wz (.any 80 2 u' (putP k.d k.ws y.p y.xs).length c' (rcs (putP k.d k.ws y.p y.xs)) :: [.cell b11 #[.string (str k.d), .slice u k.ws.length c] 63, .disk g k, .cell b14 #[.string (str (nz z)), .slice none 0 0] 63, .disk gf kf, .cell bx y.cs.toArray 33, .row ao y.n co y.xs])) := by
    rcases hor with e | ho
    · simp only [Rk.mk.injEq, true_and] at e
      obtain ⟨rfl, rfl, e3⟩ := e
      rw [e3]
      exact (Ms.perm (HM.out.past hb) ((((((((((((List.Perm.cons _ (List.Perm.cons _ (List.Perm.swap _ _ _))).trans (List.Perm.cons _ (List.Perm.swap _ _ _))).trans (List.Perm.swap _ _ _)).trans (List.Perm.cons _ (List.Perm.cons _ (List.Perm.swap _ _ _)))).trans (List.Perm.cons _ (List.Perm.swap _ _ _))).trans (List.Perm.cons _ (List.Perm.cons _ (List.Perm.cons _ (List.Perm.swap _ _ _))))).trans (List.Perm.cons _ (List.Perm.cons _ (List.Perm.swap _ _ _)))).trans (List.Perm.cons _ (List.Perm.cons _ (List.Perm.cons _ (List.Perm.cons _ (List.Perm.swap _ _ _)))))).trans (List.Perm.cons _ (List.Perm.cons _ (List.Perm.cons _ (List.Perm.swap _ _ _))))).trans (List.Perm.cons _ (List.Perm.cons _ (List.Perm.cons _ (List.Perm.cons _ (List.Perm.cons _ (List.Perm.swap _ _ _))))))).trans (List.Perm.cons _ (List.Perm.cons _ (List.Perm.cons _ (List.Perm.cons _ (List.Perm.swap _ _ _)))))).trans (List.Perm.cons _ (List.Perm.cons _ (List.Perm.cons _ (List.Perm.cons _ (List.Perm.cons _ (List.Perm.swap _ _ _))))))))
    · exact ((Ms.perm (Ms.sub (l' := [.row ao y.n co y.xs, .cell bx y.cs.toArray 33, .cell b11 #[.string (str k.d), .slice u k.ws.length c] 63, .disk g k, .cell b14 #[.string (str (nz z)), .slice none 0 0] 63, .disk gf kf]) HM.out (by simp)) (((((((((List.Perm.cons _ (List.Perm.swap _ _ _)).trans (List.Perm.swap _ _ _)).trans (List.Perm.cons _ (List.Perm.cons _ (List.Perm.swap _ _ _)))).trans (List.Perm.cons _ (List.Perm.swap _ _ _))).trans (List.Perm.cons _ (List.Perm.cons _ (List.Perm.cons _ (List.Perm.swap _ _ _))))).trans (List.Perm.cons _ (List.Perm.cons _ (List.Perm.swap _ _ _)))).trans (List.Perm.cons _ (List.Perm.cons _ (List.Perm.cons _ (List.Perm.cons _ (List.Perm.swap _ _ _)))))).trans (List.Perm.cons _ (List.Perm.cons _ (List.Perm.cons _ (List.Perm.swap _ _ _))))).trans (List.Perm.cons _ (List.Perm.cons _ (List.Perm.cons _ (List.Perm.cons _ (List.Perm.swap _ _ _)))))))).add (t := .any 80 2 u' (putP k.d k.ws y.p y.xs).length c' (rcs (putP k.d k.ws y.p y.xs))) (hb) ho
  rw [show (Rk.v ⟨k.d, u', c', putP k.d k.ws y.p y.xs⟩) = .agg #[.string (str k.d), .slice u' (putP k.d k.ws y.p y.xs).length c'] from rfl]
  have HN : Hid (Ms w (wz.alloc (.cells #[.string (str k.d), .slice u' (putP k.d k.ws y.p y.xs).length c'] 63)) (.cell wz.heap.size #[.string (str k.d), .slice u' (putP k.d k.ws y.p y.xs).length c'] 63 :: .any 80 2 u' (putP k.d k.ws y.p y.xs).length c' (rcs (putP k.d k.ws y.p y.xs)) :: [.cell b11 #[.string (str k.d), .slice u k.ws.length c] 63, .disk g k, .cell b14 #[.string (str (nz z)), .slice none 0 0] 63, .disk gf kf, .cell bx y.cs.toArray 33, .row ao y.n co y.xs])) := HM2.out.add (t := .cell wz.heap.size #[.string (str k.d), .slice u' (putP k.d k.ws y.p y.xs).length c'] 63) (al _ _) ⟨Nat.le_refl _, Blk_new _ _ _⟩
  clear hb hor
  go_wp2_with fail
  refine Met.intro (hJ0 _ _ ?_)
  exact ⟨wz.heap.size, u', c', putP k.d k.ws y.p y.xs, ⟨rfl, rfl⟩, rfl, rfl, rfl, rfl, rfl, rfl, rfl, rfl, rfl, rfl, rfl, rfl, HN.out, rfl⟩

set_option maxRecDepth 100000 in
set_option maxHeartbeats 4000000 in
theorem p21 (w : World) (s : Int) (ya : Option Addr) (m : Nat) (yc : Nat) (pa : Int) (na : Int) (_hs : Hid (s ≤ 300 ∨ 65536 < s)) (z : Nat) (g : Nat) (b11 : Nat) (gf : Nat) (kf : Dk) (b14 : Nat) (hm40 : Hid (m ≤ 40)) (i : Nat) (k : Dk) (u : Option Addr) (c : Nat) (HK : Hid (k.d.length = z ∧ k.ws.length ≤ i)) (hli : Hid (i < m)) (y : Ac) (hyok : Hid (y.ok w)) (bx : Nat) (ao : Option Addr) (co : Nat) (w20 : World) (b18 : Nat) (u2 : Option Addr) (c2 : Nat) (L2 : List Pw) (HM20 : Hid (Ms w w20 (.cell b18 #[.string (str k.d), .slice u2 L2.length c2] 63 :: .any 80 2 u2 L2.length c2 (rcs L2) :: [.cell b11 #[.string (str k.d), .slice u k.ws.length c] 63, .disk g k, .cell b14 #[.string (str (nz z)), .slice none 0 0] 63, .disk gf kf, .cell bx y.cs.toArray 33, .row ao y.n co y.xs]))) (HL2 : Hid (L2 = putP k.d k.ws y.p y.xs)) (a : Act) (hf : Fr 274 a) (h1 : sl a 1 = .slice ya m yc) (h2 : sl a 2 = .int .i64 pa) (h3 : sl a 3 = .int .i64 na) (h9 : sl a 9 = .pointer (some ⟨g, 0, none⟩)) (h11 : sl a 11 = .pointer (some ⟨b11, 0, none⟩)) (h13 : sl a 13 = .pointer (some ⟨gf, 0, none⟩)) (h14 : sl a 14 = .pointer (some ⟨b14, 0, none⟩)) (h15 : sl a 15 = .int .i64 (i : Int)) (h16 : sl a 16 = .pointer (some ⟨bx, 0, none⟩)) (h17 : sl a 17 = .slice ao y.n co) (h18 : sl a 18 = .pointer (some ⟨b18, 0, none⟩)) (h19 : sl a 19 = .int .i64 (rcV k.d y.p y.xs.length)) :
    Code.wp Try.prog (cAt [1,1,1,1,1,1,1,0,1,2,2,1,0,2,1,1,0,1,2,1,3,1,0,0] KDP) (Exit.then (fun a' w' => ∃ k3 : Dk, Fr 274 a' ∧ sl a' 1 = .slice ya m yc ∧ sl a' 2 = .int .i64 pa ∧ sl a' 3 = .int .i64 na ∧ sl a' 9 = .pointer (some ⟨g, 0, none⟩) ∧ sl a' 11 = .pointer (some ⟨b11, 0, none⟩) ∧ sl a' 13 = .pointer (some ⟨gf, 0, none⟩) ∧ sl a' 14 = .pointer (some ⟨b14, 0, none⟩) ∧ sl a' 15 = .int .i64 (i : Int) ∧ sl a' 16 = .pointer (some ⟨bx, 0, none⟩) ∧ sl a' 17 = .slice ao y.n co ∧ sl a' 18 = .pointer (some ⟨b18, 0, none⟩) ∧ sl a' 109 = .bool false ∧ Ms w w' [.disk g k3, .cell b18 #[.string (str k.d), .slice u2 L2.length c2] 63, .any 80 2 u2 L2.length c2 (rcs L2), .cell b11 #[.string (str k.d), .slice u k.ws.length c] 63, .cell b14 #[.string (str (nz z)), .slice none 0 0] 63, .disk gf kf, .cell bx y.cs.toArray 33, .row ao y.n co y.xs] ∧ (k3.d = k.d ∧ k3.ws = L2)) Nope) a w20 := by
  obtain ⟨f, ha, hs⟩ := frKDP hf
  have e1 := (hs 1).trans h1
  have e2 := (hs 2).trans h2
  have e3 := (hs 3).trans h3
  have e9 := (hs 9).trans h9
  have e11 := (hs 11).trans h11
  have e13 := (hs 13).trans h13
  have e14 := (hs 14).trans h14
  have e15 := (hs 15).trans h15
  have e16 := (hs 16).trans h16
  have e17 := (hs 17).trans h17
  have e18 := (hs 18).trans h18
  have e19 := (hs 19).trans h19
  rw [e1, e2, e3, e9, e11, e13, e14, e15, e16, e17, e18, e19] at ha
  clear hs hf e1 h1 e2 h2 e3 h3 e9 h9 e11 h11 e13 h13 e14 h14 e15 h15 e16 h16 e17 h17 e18 h18 e19 h19
  subst ha
  refine piece2 fun J0 K0 hJ0 hK0 => ?_
  conv => arg 2; whnf
  have HM : Hid (Ms w w20 [.disk g k, .cell b18 #[.string (str k.d), .slice u2 L2.length c2] 63, .any 80 2 u2 L2.length c2 (rcs L2), .cell b11 #[.string (str k.d), .slice u k.ws.length c] 63, .cell b14 #[.string (str (nz z)), .slice none 0 0] 63, .disk gf kf, .cell bx y.cs.toArray 33, .row ao y.n co y.xs]) := (Ms.perm HM20.out (((List.Perm.cons _ (List.Perm.cons _ (List.Perm.swap _ _ _))).trans (List.Perm.cons _ (List.Perm.swap _ _ _))).trans (List.Perm.swap _ _ _)))
  have c1 := Ac.k1 (cell_ok (HM.out.ok (.cell bx y.cs.toArray 33) (by simp)))
  have hrow : Hid (Own w20 w.heap.size ao y.n co y.xs) := HM.out.ok (.row ao y.n co y.xs) (by simp)
  have HYL : Hid (y.xs.length = y.n) := hyok.out.len
  go_wp2_with fail
  refine (dkWrite_step w.heap.size g k y.p ao y.n co y.xs w20 HM.out.hd hyok.out.p0 hyok.out.len hrow.out.rd hyok.out.byt (by rw [ws_len]; have := HK.out.2; have := hli.out; have := hm40.out; omega)).mono ?_
  rintro e wz ⟨rfl, k3, hs, hd, hl⟩
  rw [show rcV k.d y.p (y.n : Int) = rcV k.d y.p y.xs.length by rw [HYL.out]]
  have H : Hid (Ms w wz [.disk g k3, .cell b18 #[.string (str k.d), .slice u2 L2.length c2] 63, .any 80 2 u2 L2.length c2 (rcs L2), .cell b11 #[.string (str k.d), .slice u k.ws.length c] 63, .cell b14 #[.string (str (nz z)), .slice none 0 0] 63, .disk gf kf, .cell bx y.cs.toArray 33, .row ao y.n co y.xs] ∧ k3.d = k.d ∧ k3.ws = L2) := ⟨HM.out.disk hs, hd, by rw [hl, HL2.out]⟩
  clear hs hd hl
  obtain ⟨rc, hrc⟩ : ∃ rc, rcV k.d y.p y.xs.length = rc := ⟨_, rfl⟩
  rw [hrc]
  clear hrc
  go_wp2_with fail
  refine Met.intro (hJ0 _ _ ?_)
  exact ⟨k3, ⟨rfl, rfl⟩, rfl, rfl, rfl, rfl, rfl, rfl, rfl, rfl, rfl, rfl, rfl, rfl, H.out.1, H.out.2⟩

set_option maxRecDepth 100000 in
set_option maxHeartbeats 4000000 in
theorem p23 (w : World) (ya : Option Addr) (m : Nat) (yc : Nat) (pa : Int) (na : Int) (z : Nat) (g : Nat) (b11 : Nat) (gf : Nat) (kf : Dk) (b14 : Nat) (i : Nat) (k : Dk) (u : Option Addr) (c : Nat) (y : Ac) (bx : Nat) (ao : Option Addr) (co : Nat) (b18 : Nat) (u2 : Option Addr) (c2 : Nat) (L2 : List Pw) (w21 : World) (k3 : Dk) (HM21 : Hid (Ms w w21 [.disk g k3, .cell b18 #[.string (str k.d), .slice u2 L2.length c2] 63, .any 80 2 u2 L2.length c2 (rcs L2), .cell b11 #[.string (str k.d), .slice u k.ws.length c] 63, .cell b14 #[.string (str (nz z)), .slice none 0 0] 63, .disk gf kf, .cell bx y.cs.toArray 33, .row ao y.n co y.xs])) (a : Act) (hf : Fr 274 a) (h1 : sl a 1 = .slice ya m yc) (h2 : sl a 2 = .int .i64 pa) (h3 : sl a 3 = .int .i64 na) (h9 : sl a 9 = .pointer (some ⟨g, 0, none⟩)) (h11 : sl a 11 = .pointer (some ⟨b11, 0, none⟩)) (h13 : sl a 13 = .pointer (some ⟨gf, 0, none⟩)) (h14 : sl a 14 = .pointer (some ⟨b14, 0, none⟩)) (h15 : sl a 15 = .int .i64 (i : Int)) (h16 : sl a 16 = .pointer (some ⟨bx, 0, none⟩)) (h17 : sl a 17 = .slice ao y.n co) (h18 : sl a 18 = .pointer (some ⟨b18, 0, none⟩)) :
    Code.wp Try.prog (cAt [1,1,1,1,1,1,1,0,1,2,2,1,0,2,1,1,0,1,2,1,3,1,1] KDP) (Exit.then (fun a' w' => Fr 274 a' ∧ sl a' 1 = .slice ya m yc ∧ sl a' 2 = .int .i64 pa ∧ sl a' 3 = .int .i64 na ∧ sl a' 9 = .pointer (some ⟨g, 0, none⟩) ∧ sl a' 11 = .pointer (some ⟨b11, 0, none⟩) ∧ sl a' 13 = .pointer (some ⟨gf, 0, none⟩) ∧ sl a' 14 = .pointer (some ⟨b14, 0, none⟩) ∧ sl a' 15 = .int .i64 (i : Int) ∧ sl a' 17 = .slice ao y.n co ∧ Ms w w' (.cell b11 #[.string (str k.d), .slice u2 L2.length c2] 63 :: [.disk g k3, .cell b18 #[.string (str k.d), .slice u2 L2.length c2] 63, .any 80 2 u2 L2.length c2 (rcs L2), .cell b14 #[.string (str (nz z)), .slice none 0 0] 63, .disk gf kf, .cell bx y.cs.toArray 33, .row ao y.n co y.xs])) Nope) a w21 := by
  obtain ⟨f, ha, hs⟩ := frKDP hf
  have e1 := (hs 1).trans h1
  have e2 := (hs 2).trans h2
  have e3 := (hs 3).trans h3
  have e9 := (hs 9).trans h9
  have e11 := (hs 11).trans h11
  have e13 := (hs 13).trans h13
  have e14 := (hs 14).trans h14
  have e15 := (hs 15).trans h15
  have e16 := (hs 16).trans h16
  have e17 := (hs 17).trans h17
  have e18 := (hs 18).trans h18
  rw [e1, e2, e3, e9, e11, e13, e14, e15, e16, e17, e18] at ha
  clear hs hf e1 h1 e2 h2 e3 h3 e9 h9 e11 h11 e13 h13 e14 h14 e15 h15 e16 h16 e17 h17 e18 h18
  subst ha
  refine piece2 fun J0 K0 hJ0 hK0 => ?_
  conv => arg 2; whnf
  have x0 := two0 (cell_ok (HM21.out.ok (.cell b18 #[.string (str k.d), .slice u2 L2.length c2] 63) (by simp)))
  have x1 := two1 (cell_ok (HM21.out.ok (.cell b18 #[.string (str k.d), .slice u2 L2.length c2] 63) (by simp)))
  have HM : Hid (Ms w w21 [.cell b11 #[.string (str k.d), .slice u k.ws.length c] 63, .disk g k3, .cell b18 #[.string (str k.d), .slice u2 L2.length c2] 63, .any 80 2 u2 L2.length c2 (rcs L2), .cell b14 #[.string (str (nz z)), .slice none 0 0] 63, .disk gf kf, .cell bx y.cs.toArray 33, .row ao y.n co y.xs]) := (Ms.perm HM21.out (((List.Perm.cons _ (List.Perm.cons _ (List.Perm.swap _ _ _))).trans (List.Perm.cons _ (List.Perm.swap _ _ _))).trans (List.Perm.swap _ _ _)))
  go_wp2_with (refine st2 63 (.tmp 11) (.tmp 110) rfl rfl b11 (.string (str k.d)) (.slice u2 L2.length c2) _ _ 63 rfl rfl HM.out.row2 infRk rfl rfl ?_; intro wc HC)
  have HN : Hid (Ms w wc (.cell b11 #[.string (str k.d), .slice u2 L2.length c2] 63 :: [.disk g k3, .cell b18 #[.string (str k.d), .slice u2 L2.length c2] 63, .any 80 2 u2 L2.length c2 (rcs L2), .cell b14 #[.string (str (nz z)), .slice none 0 0] 63, .disk gf kf, .cell bx y.cs.toArray 33, .row ao y.n co y.xs])) := HM.out.setC HC.out.1 HC.out.2
  refine Met.intro (hJ0 _ _ ?_)
  exact ⟨⟨rfl, rfl⟩, rfl, rfl, rfl, rfl, rfl, rfl, rfl, rfl, rfl, HN.out⟩

set_option maxRecDepth 100000 in
set_option maxHeartbeats 4000000 in
theorem p24 (ya : Option Addr) (m : Nat) (yc : Nat) (pa : Int) (na : Int) (g : Nat) (b11 : Nat) (gf : Nat) (b14 : Nat) (i : Nat) (y : Ac) (bx : Nat) (w14 : World) (ao : Option Addr) (co : Nat) (q : Int) (a : Act) (hf : Fr 274 a) (h1 : sl a 1 = .slice ya m yc) (h2 : sl a 2 = .int .i64 pa) (h3 : sl a 3 = .int .i64 na) (h9 : sl a 9 = .pointer (some ⟨g, 0, none⟩)) (h11 : sl a 11 = .pointer (some ⟨b11, 0, none⟩)) (h13 : sl a 13 = .pointer (some ⟨gf, 0, none⟩)) (h14 : sl a 14 = .pointer (some ⟨b14, 0, none⟩)) (h15 : sl a 15 = .int .i64 (i : Int)) (h16 : sl a 16 = .pointer (some ⟨bx, 0, none⟩)) (h17 : sl a 17 = .slice ao y.n co) (h87 : sl a 87 = .int .i64 q) :
    Code.wp Try.prog (cAt [1,1,1,1,1,1,1,0,1,2,2,1,0,2,1,1,0,1,2,1,4,0] KDP) (Exit.then (fun a' w' => Fr 274 a' ∧ sl a' 1 = .slice ya m yc ∧ sl a' 2 = .int .i64 pa ∧ sl a' 3 = .int .i64 na ∧ sl a' 9 = .pointer (some ⟨g, 0, none⟩) ∧ sl a' 11 = .pointer (some ⟨b11, 0, none⟩) ∧ sl a' 13 = .pointer (some ⟨gf, 0, none⟩) ∧ sl a' 14 = .pointer (some ⟨b14, 0, none⟩) ∧ sl a' 15 = .int .i64 (i : Int) ∧ sl a' 16 = .pointer (some ⟨bx, 0, none⟩) ∧ sl a' 17 = .slice ao y.n co ∧ sl a' 87 = .int .i64 q ∧ sl a' 111 = .bool (decide (q = 4)) ∧ w14 = w') Nope) a w14 := by
  obtain ⟨f, ha, hs⟩ := frKDP hf
  have e1 := (hs 1).trans h1
  have e2 := (hs 2).trans h2
  have e3 := (hs 3).trans h3
  have e9 := (hs 9).trans h9
  have e11 := (hs 11).trans h11
  have e13 := (hs 13).trans h13
  have e14 := (hs 14).trans h14
  have e15 := (hs 15).trans h15
  have e16 := (hs 16).trans h16
  have e17 := (hs 17).trans h17
  have e87 := (hs 87).trans h87
  rw [e1, e2, e3, e9, e11, e13, e14, e15, e16, e17, e87] at ha
  clear hs hf e1 h1 e2 h2 e3 h3 e9 h9 e11 h11 e13 h13 e14 h14 e15 h15 e16 h16 e17 h17 e87 h87
  subst ha
  refine piece2 fun J0 K0 hJ0 hK0 => ?_
  conv => arg 2; whnf
  go_wp2_with fail
  refine Met.intro (hJ0 _ _ ?_)
  exact ⟨⟨rfl, rfl⟩, rfl, rfl, rfl, rfl, rfl, rfl, rfl, rfl, rfl, rfl, rfl, rfl, rfl⟩

set_option maxRecDepth 100000 in
set_option maxHeartbeats 4000000 in
theorem p25 (w : World) (s : Int) (ya : Option Addr) (m : Nat) (yc : Nat) (pa : Int) (na : Int) (_hs : Hid (s ≤ 300 ∨ 65536 < s)) (z : Nat) (g : Nat) (b11 : Nat) (gf : Nat) (kf : Dk) (b14 : Nat) (i : Nat) (k : Dk) (u : Option Addr) (c : Nat) (y : Ac) (bx : Nat) (w14 : World) (ao : Option Addr) (co : Nat) (HM14 : Hid (Ms w w14 [.row ao y.n co y.xs, .cell bx y.cs.toArray 33, .cell b11 #[.string (str k.d), .slice u k.ws.length c] 63, .any 80 2 u k.ws.length c (rcs k.ws), .disk g k, .cell b14 #[.string (str (nz z)), .slice none 0 0] 63, .disk gf kf])) (q : Int) (a : Act) (hf : Fr 274 a) (h1 : sl a 1 = .slice ya m yc) (h2 : sl a 2 = .int .i64 pa) (h3 : sl a 3 = .int .i64 na) (h9 : sl a 9 = .pointer (some ⟨g, 0, none⟩)) (h11 : sl a 11 = .pointer (some ⟨b11, 0, none⟩)) (h13 : sl a 13 = .pointer (some ⟨gf, 0, none⟩)) (h14 : sl a 14 = .pointer (some ⟨b14, 0, none⟩)) (h15 : sl a 15 = .int .i64 (i : Int)) (h16 : sl a 16 = .pointer (some ⟨bx, 0, none⟩)) (h17 : sl a 17 = .slice ao y.n co) (h87 : sl a 87 = .int .i64 q) :
    Code.wp Try.prog (cAt [1,1,1,1,1,1,1,0,1,2,2,1,0,2,1,1,0,1,2,1,4,1,3,0,0] KDP) (Exit.then (fun a' w' => ∃ k3 : Dk, Fr 274 a' ∧ sl a' 1 = .slice ya m yc ∧ sl a' 2 = .int .i64 pa ∧ sl a' 3 = .int .i64 na ∧ sl a' 9 = .pointer (some ⟨g, 0, none⟩) ∧ sl a' 11 = .pointer (some ⟨b11, 0, none⟩) ∧ sl a' 13 = .pointer (some ⟨gf, 0, none⟩) ∧ sl a' 14 = .pointer (some ⟨b14, 0, none⟩) ∧ sl a' 15 = .int .i64 (i : Int) ∧ sl a' 16 = .pointer (some ⟨bx, 0, none⟩) ∧ sl a' 17 = .slice ao y.n co ∧ sl a' 115 = .bool false ∧ Ms w w' (.disk g k3 :: [.row ao y.n co y.xs, .cell bx y.cs.toArray 33, .cell b11 #[.string (str k.d), .slice u k.ws.length c] 63, .any 80 2 u k.ws.length c (rcs k.ws), .cell b14 #[.string (str (nz z)), .slice none 0 0] 63, .disk gf kf]) ∧ (k3.d = nowP k.d k.ws ∧ k3.ws = [])) Nope) a w14 := by
  obtain ⟨f, ha, hs⟩ := frKDP hf
  have e1 := (hs 1).trans h1
  have e2 := (hs 2).trans h2
  have e3 := (hs 3).trans h3
  have e9 := (hs 9).trans h9
  have e11 := (hs 11).trans h11
  have e13 := (hs 13).trans h13
  have e14 := (hs 14).trans h14
  have e15 := (hs 15).trans h15
  have e16 := (hs 16).trans h16
  have e17 := (hs 17).trans h17
  have e87 := (hs 87).trans h87
  rw [e1, e2, e3, e9, e11, e13, e14, e15, e16, e17, e87] at ha
  clear hs hf e1 h1 e2 h2 e3 h3 e9 h9 e11 h11 e13 h13 e14 h14 e15 h15 e16 h16 e17 h17 e87 h87
  subst ha
  refine piece2 fun J0 K0 hJ0 hK0 => ?_
  conv => arg 2; whnf
  have HM : Hid (Ms w w14 [.disk g k, .row ao y.n co y.xs, .cell bx y.cs.toArray 33, .cell b11 #[.string (str k.d), .slice u k.ws.length c] 63, .any 80 2 u k.ws.length c (rcs k.ws), .cell b14 #[.string (str (nz z)), .slice none 0 0] 63, .disk gf kf]) := (Ms.perm HM14.out ((((List.Perm.cons _ (List.Perm.cons _ (List.Perm.cons _ (List.Perm.swap _ _ _)))).trans (List.Perm.cons _ (List.Perm.cons _ (List.Perm.swap _ _ _)))).trans (List.Perm.cons _ (List.Perm.swap _ _ _))).trans (List.Perm.swap _ _ _)))
  go_wp2_with fail
  refine (dkSync_step w.heap.size g k w14 HM.out.hd).mono ?_
  rintro e wz ⟨rfl, k3, hs, hd, hl⟩
  have H : Hid (Ms w wz (.disk g k3 :: [.row ao y.n co y.xs, .cell bx y.cs.toArray 33, .cell b11 #[.string (str k.d), .slice u k.ws.length c] 63, .any 80 2 u k.ws.length c (rcs k.ws), .cell b14 #[.string (str (nz z)), .slice none 0 0] 63, .disk gf kf]) ∧ k3.d = nowP k.d k.ws ∧ k3.ws = []) := ⟨HM.out.disk hs, hd, hl⟩
  clear hs hd hl
  go_wp2_with fail
  refine Met.intro (hJ0 _ _ ?_)
  exact ⟨k3, ⟨rfl, rfl⟩, rfl, rfl, rfl, rfl, rfl, rfl, rfl, rfl, rfl, rfl, rfl, H.out.1, H.out.2⟩

set_option maxRecDepth 100000 in
set_option maxHeartbeats 4000000 in
theorem p27 (w : World) (ya : Option Addr) (m : Nat) (yc : Nat) (pa : Int) (na : Int) (z : Nat) (g : Nat) (b11 : Nat) (gf : Nat) (kf : Dk) (b14 : Nat) (i : Nat) (k : Dk) (u : Option Addr) (c : Nat) (y : Ac) (HPL : Hid (PlOk k.d k.ws)) (bx : Nat) (ao : Option Addr) (co : Nat) (w25 : World) (k3 : Dk) (HM25 : Hid (Ms w w25 (.disk g k3 :: [.row ao y.n co y.xs, .cell bx y.cs.toArray 33, .cell b11 #[.string (str k.d), .slice u k.ws.length c] 63, .any 80 2 u k.ws.length c (rcs k.ws), .cell b14 #[.string (str (nz z)), .slice none 0 0] 63, .disk gf kf]))) (a : Act) (hf : Fr 274 a) (h1 : sl a 1 = .slice ya m yc) (h2 : sl a 2 = .int .i64 pa) (h3 : sl a 3 = .int .i64 na) (h9 : sl a 9 = .pointer (some ⟨g, 0, none⟩)) (h11 : sl a 11 = .pointer (some ⟨b11, 0, none⟩)) (h13 : sl a 13 = .pointer (some ⟨gf, 0, none⟩)) (h14 : sl a 14 = .pointer (some ⟨b14, 0, none⟩)) (h15 : sl a 15 = .int .i64 (i : Int)) (h16 : sl a 16 = .pointer (some ⟨bx, 0, none⟩)) (h17 : sl a 17 = .slice ao y.n co) :
    Code.wp Try.prog (cAt [1,1,1,1,1,1,1,0,1,2,2,1,0,2,1,1,0,1,2,1,4,1,3,1] KDP) (Exit.then (fun a' w' => Fr 274 a' ∧ sl a' 1 = .slice ya m yc ∧ sl a' 2 = .int .i64 pa ∧ sl a' 3 = .int .i64 na ∧ sl a' 9 = .pointer (some ⟨g, 0, none⟩) ∧ sl a' 11 = .pointer (some ⟨b11, 0, none⟩) ∧ sl a' 13 = .pointer (some ⟨gf, 0, none⟩) ∧ sl a' 14 = .pointer (some ⟨b14, 0, none⟩) ∧ sl a' 15 = .int .i64 (i : Int) ∧ sl a' 17 = .slice ao y.n co ∧ Ms w w' (.cell b11 #[.string (str (nowP k.d k.ws)), .slice none 0 0] 63 :: .disk g k3 :: [.row ao y.n co y.xs, .cell bx y.cs.toArray 33, .any 80 2 u k.ws.length c (rcs k.ws), .cell b14 #[.string (str (nz z)), .slice none 0 0] 63, .disk gf kf])) Nope) a w25 := by
  obtain ⟨f, ha, hs⟩ := frKDP hf
  have e1 := (hs 1).trans h1
  have e2 := (hs 2).trans h2
  have e3 := (hs 3).trans h3
  have e9 := (hs 9).trans h9
  have e11 := (hs 11).trans h11
  have e13 := (hs 13).trans h13
  have e14 := (hs 14).trans h14
  have e15 := (hs 15).trans h15
  have e16 := (hs 16).trans h16
  have e17 := (hs 17).trans h17
  rw [e1, e2, e3, e9, e11, e13, e14, e15, e16, e17] at ha
  clear hs hf e1 h1 e2 h2 e3 h3 e9 h9 e11 h11 e13 h13 e14 h14 e15 h15 e16 h16 e17 h17
  subst ha
  refine piece2 fun J0 K0 hJ0 hK0 => ?_
  conv => arg 2; whnf
  have HM : Hid (Ms w w25 (.disk g k3 :: [.row ao y.n co y.xs, .cell bx y.cs.toArray 33, .cell b11 #[.string (str k.d), .slice u k.ws.length c] 63, .any 80 2 u k.ws.length c (rcs k.ws), .cell b14 #[.string (str (nz z)), .slice none 0 0] 63, .disk gf kf])) := HM25.out
  have x0 := two0 (cell_ok (HM.out.ok (.cell b11 #[.string (str k.d), .slice u k.ws.length c] 63) (by simp)))
  have x1 := two1 (cell_ok (HM.out.ok (.cell b11 #[.string (str k.d), .slice u k.ws.length c] 63) (by simp)))
  have HSY := Lib.hid (r13Sync_any ⟨k.d, u, c, k.ws⟩ w25 (Rk.own.lies (r := ⟨k.d, u, c, k.ws⟩) (HM.out.ok (.any 80 2 u k.ws.length c (rcs k.ws)) (by simp))) HPL.out)
  go_wp2_with fail
  refine (show Calls Try.prog 32 #[.agg #[.string (str k.d), .slice u k.ws.length c]] w25 _ from HSY.out).mono ?_
  rintro e wz ⟨rfl, hb⟩
  have HM2 : Hid (Ms w wz (.cell b11 #[.string (str k.d), .slice u k.ws.length c] 63 :: .disk g k3 :: [.row ao y.n co y.xs, .cell bx y.cs.toArray 33, .any 80 2 u k.ws.length c (rcs k.ws), .cell b14 #[.string (str (nz z)), .slice none 0 0] 63, .disk gf kf])) := (Ms.perm (HM.out.past hb) (((List.Perm.cons _ (List.Perm.cons _ (List.Perm.swap _ _ _))).trans (List.Perm.cons _ (List.Perm.swap _ _ _))).trans (List.Perm.swap _ _ _)))
  clear hb
  go_wp2_with (refine st2 63 (.tmp 11) (.tmp 117) rfl rfl b11 (.string (str (nowP k.d k.ws))) (.slice none 0 0) _ _ 63 rfl rfl HM2.out.row2 infRk rfl rfl ?_; intro wc HC)
  have HN : Hid (Ms w wc (.cell b11 #[.string (str (nowP k.d k.ws)), .slice none 0 0] 63 :: .disk g k3 :: [.row ao y.n co y.xs, .cell bx y.cs.toArray 33, .any 80 2 u k.ws.length c (rcs k.ws), .cell b14 #[.string (str (nz z)), .slice none 0 0] 63, .disk gf kf])) := HM2.out.setC HC.out.1 HC.out.2
  refine Met.intro (hJ0 _ _ ?_)
  exact ⟨⟨rfl, rfl⟩, rfl, rfl, rfl, rfl, rfl, rfl, rfl, rfl, rfl, HN.out⟩

set_option maxRecDepth 100000 in
set_option maxHeartbeats 4000000 in
theorem p28 (ya : Option Addr) (m : Nat) (yc : Nat) (pa : Int) (na : Int) (g : Nat) (b11 : Nat) (gf : Nat) (b14 : Nat) (i : Nat) (y : Ac) (bx : Nat) (w14 : World) (ao : Option Addr) (co : Nat) (q : Int) (a : Act) (hf : Fr 274 a) (h1 : sl a 1 = .slice ya m yc) (h2 : sl a 2 = .int .i64 pa) (h3 : sl a 3 = .int .i64 na) (h9 : sl a 9 = .pointer (some ⟨g, 0, none⟩)) (h11 : sl a 11 = .pointer (some ⟨b11, 0, none⟩)) (h13 : sl a 13 = .pointer (some ⟨gf, 0, none⟩)) (h14 : sl a 14 = .pointer (some ⟨b14, 0, none⟩)) (h15 : sl a 15 = .int .i64 (i : Int)) (h16 : sl a 16 = .pointer (some ⟨bx, 0, none⟩)) (h17 : sl a 17 = .slice ao y.n co) (h87 : sl a 87 = .int .i64 q) :
    Code.wp Try.prog (cAt [1,1,1,1,1,1,1,0,1,2,2,1,0,2,1,1,0,1,2,1,4,1,4,0] KDP) (Exit.then (fun a' w' => Fr 274 a' ∧ sl a' 1 = .slice ya m yc ∧ sl a' 2 = .int .i64 pa ∧ sl a' 3 = .int .i64 na ∧ sl a' 9 = .pointer (some ⟨g, 0, none⟩) ∧ sl a' 11 = .pointer (some ⟨b11, 0, none⟩) ∧ sl a' 13 = .pointer (some ⟨gf, 0, none⟩) ∧ sl a' 14 = .pointer (some ⟨b14, 0, none⟩) ∧ sl a' 15 = .int .i64 (i : Int) ∧ sl a' 16 = .pointer (some ⟨bx, 0, none⟩) ∧ sl a' 17 = .slice ao y.n co ∧ sl a' 87 = .int .i64 q ∧ sl a' 118 = .bool (decide (q = 5)) ∧ w14 = w') Nope) a w14 := by
  obtain ⟨f, ha, hs⟩ := frKDP hf
  have e1 := (hs 1).trans h1
  have e2 := (hs 2).trans h2
  have e3 := (hs 3).trans h3
  have e9 := (hs 9).trans h9
  have e11 := (hs 11).trans h11
  have e13 := (hs 13).trans h13
  have e14 := (hs 14).trans h14
  have e15 := (hs 15).trans h15
  have e16 := (hs 16).trans h16
  have e17 := (hs 17).trans h17
  have e87 := (hs 87).trans h87
  rw [e1, e2, e3, e9, e11, e13, e14, e15, e16, e17, e87] at ha
  clear hs hf e1 h1 e2 h2 e3 h3 e9 h9 e11 h11 e13 h13 e14 h14 e15 h15 e16 h16 e17 h17 e87 h87
  subst ha
  refine piece2 fun J0 K0 hJ0 hK0 => ?_
  conv => arg 2; whnf
  go_wp2_with fail
  refine Met.intro (hJ0 _ _ ?_)
  exact ⟨⟨rfl, rfl⟩, rfl, rfl, rfl, rfl, rfl, rfl, rfl, rfl, rfl, rfl, rfl, rfl, rfl⟩

set_option maxRecDepth 100000 in
set_option maxHeartbeats 4000000 in
theorem p29 (w : World) (s : Int) (ya : Option Addr) (m : Nat) (yc : Nat) (pa : Int) (na : Int) (_hs : Hid (s ≤ 300 ∨ 65536 < s)) (z : Nat) (g : Nat) (b11 : Nat) (gf : Nat) (kf : Dk) (b14 : Nat) (i : Nat) (k : Dk) (u : Option Addr) (c : Nat) (y : Ac) (hyok : Hid (y.ok w)) (bx : Nat) (w14 : World) (ao : Option Addr) (co : Nat) (HM14 : Hid (Ms w w14 [.row ao y.n co y.xs, .cell bx y.cs.toArray 33, .cell b11 #[.string (str k.d), .slice u k.ws.length c] 63, .any 80 2 u k.ws.length c (rcs k.ws), .disk g k, .cell b14 #[.string (str (nz z)), .slice none 0 0] 63, .disk gf kf])) (q : Int) (a : Act) (hf : Fr 274 a) (h1 : sl a 1 = .slice ya m yc) (h2 : sl a 2 = .int .i64 pa) (h3 : sl a 3 = .int .i64 na) (h9 : sl a 9 = .pointer (some ⟨g, 0, none⟩)) (h11 : sl a 11 = .pointer (some ⟨b11, 0, none⟩)) (h13 : sl a 13 = .pointer (some ⟨gf, 0, none⟩)) (h14 : sl a 14 = .pointer (some ⟨b14, 0, none⟩)) (h15 : sl a 15 = .int .i64 (i : Int)) (h16 : sl a 16 = .pointer (some ⟨bx, 0, none⟩)) (h17 : sl a 17 = .slice ao y.n co) (h87 : sl a 87 = .int .i64 q) :
    Code.wp Try.prog (cAt [1,1,1,1,1,1,1,0,1,2,2,1,0,2,1,1,0,1,2,1,4,1,4,1,3,0,0] KDP) (Exit.then (fun a' w' => ∃ k3 : Dk, Fr 274 a' ∧ sl a' 1 = .slice ya m yc ∧ sl a' 2 = .int .i64 pa ∧ sl a' 3 = .int .i64 na ∧ sl a' 9 = .pointer (some ⟨g, 0, none⟩) ∧ sl a' 11 = .pointer (some ⟨b11, 0, none⟩) ∧ sl a' 13 = .pointer (some ⟨gf, 0, none⟩) ∧ sl a' 14 = .pointer (some ⟨b14, 0, none⟩) ∧ sl a' 15 = .int .i64 (i : Int) ∧ sl a' 16 = .pointer (some ⟨bx, 0, none⟩) ∧ sl a' 17 = .slice ao y.n co ∧ sl a' 127 = .bool false ∧ Ms w w' (.disk g k3 :: [.row ao y.n co y.xs, .cell bx y.cs.toArray 33, .cell b11 #[.string (str k.d), .slice u k.ws.length c] 63, .any 80 2 u k.ws.length c (rcs k.ws), .cell b14 #[.string (str (nz z)), .slice none 0 0] 63, .disk gf kf]) ∧ (k3.d = nowP k.d (trimP k.ws y.fl) ∧ k3.ws = [])) Nope) a w14 := by
  obtain ⟨f, ha, hs⟩ := frKDP hf
  have e1 := (hs 1).trans h1
  have e2 := (hs 2).trans h2
  have e3 := (hs 3).trans h3
  have e9 := (hs 9).trans h9
  have e11 := (hs 11).trans h11
  have e13 := (hs 13).trans h13
  have e14 := (hs 14).trans h14
  have e15 := (hs 15).trans h15
  have e16 := (hs 16).trans h16
  have e17 := (hs 17).trans h17
  have e87 := (hs 87).trans h87
  rw [e1, e2, e3, e9, e11, e13, e14, e15, e16, e17, e87] at ha
  clear hs hf e1 h1 e2 h2 e3 h3 e9 h9 e11 h11 e13 h13 e14 h14 e15 h15 e16 h16 e17 h17 e87 h87
  subst ha
  refine piece2 fun J0 K0 hJ0 hK0 => ?_
  conv => arg 2; whnf
  have HM : Hid (Ms w w14.drew [.disk g k, .row ao y.n co y.xs, .cell bx y.cs.toArray 33, .cell b11 #[.string (str k.d), .slice u k.ws.length c] 63, .any 80 2 u k.ws.length c (rcs k.ws), .cell b14 #[.string (str (nz z)), .slice none 0 0] 63, .disk gf kf]) := Ms.past (Ms.perm HM14.out ((((List.Perm.cons _ (List.Perm.cons _ (List.Perm.cons _ (List.Perm.swap _ _ _)))).trans (List.Perm.cons _ (List.Perm.cons _ (List.Perm.swap _ _ _)))).trans (List.Perm.cons _ (List.Perm.swap _ _ _))).trans (List.Perm.swap _ _ _))) (Below.refl _ _).drew
  have HOF : Hid (y.fl ≠ [] → ∀ r, blk y.fa = some r → blk k.a ≠ some r) := fun hne r hr hr2 => by
    obtain ⟨r2, o, e1, hc⟩ := hyok.out.fts.2 hne
    rw [e1] at hr
    simp [blk] at hr
    obtain ⟨f0, hf0⟩ : ∃ f0, y.fl[0]? = some f0 := ⟨_, List.getElem?_eq_getElem (by cases hz : y.fl with | nil => exact absurd hz hne | cons _ _ => simp)⟩
    have h3 := World.block_lt_of_cell? w ⟨r2, o + 0 * 2, none⟩ (hc 0 f0 hf0).1
    have h1 := (Th.lt (t := .disk g k) HM.out.hd (i := r) (.inr (.inl hr2))).1
    simp at h3
    omega
  go_wp2_with fail
  refine wp_region_held_drew (S := fun w' => w'.heap[b11]? = some (.cells #[.string (str k.d), .slice u k.ws.length c] 63 (0, 0)) ∧ w'.heap[bx]? = some (.cells y.cs.toArray 33 (0, 0))) (by kernel_rfl) ⟨cell_ok (HM.out.ok (.cell b11 #[.string (str k.d), .slice u k.ws.length c] 63) (by simp)), cell_ok (HM.out.ok (.cell bx y.cs.toArray 33) (by simp))⟩ (fun hS => ?_)
  refine tk 0 120 (.pointer (some ⟨g, 0, none⟩)) rfl rfl (by kernel_rfl) (by kernel_rfl) (by kernel_rfl) (fun _ _ _ h => h) (Or.inl ⟨by rfl, fun w' h' => ?_⟩) hS ?_
  · go_simp
  try simp only [Act.put, List.setIfInBounds_toArray, List.set_cons_zero, List.set_cons_succ]
  refine tk 1 121 (.pointer (some ⟨bx, 3, none⟩)) rfl rfl (by kernel_rfl) (by kernel_rfl) (by kernel_rfl) (fun _ _ _ h => h) (Or.inl ⟨by rfl, fun w' h' => ?_⟩) hS ?_
  · go_simp
  try simp only [Act.put, List.setIfInBounds_toArray, List.set_cons_zero, List.set_cons_succ]
  refine tk 2 122 (.slice y.fa y.fn y.fc) rfl rfl (by kernel_rfl) (by kernel_rfl) (by kernel_rfl) (fun _ _ _ h => h) (Or.inl ⟨by rfl, fun w' h' => ?_⟩) hS ?_
  · have x1 := Ac.k3 h'.2
    go_simp
  try simp only [Act.put, List.setIfInBounds_toArray, List.set_cons_zero, List.set_cons_succ]
  refine tk 4 124 (.pointer (some ⟨b11, 1, none⟩)) rfl rfl (by kernel_rfl) (by kernel_rfl) (by kernel_rfl) (fun _ _ _ h => h) (Or.inl ⟨by rfl, fun w' h' => ?_⟩) hS ?_
  · go_simp
  try simp only [Act.put, List.setIfInBounds_toArray, List.set_cons_zero, List.set_cons_succ]
  refine tk 5 125 (.slice u k.ws.length c) rfl rfl (by kernel_rfl) (by kernel_rfl) (by kernel_rfl) (fun _ _ _ h => h) (Or.inl ⟨by rfl, fun w' h' => ?_⟩) hS ?_
  · have x1 := two1 h'.1
    go_simp
  try simp only [Act.put, List.setIfInBounds_toArray, List.set_cons_zero, List.set_cons_succ]
  refine tk 6 126 (.int .i64 (k.ws.length : Int)) rfl rfl (by kernel_rfl) (by kernel_rfl) (by kernel_rfl) (fun _ _ _ h => h) (Or.inl ⟨by rfl, fun w' h' => ?_⟩) hS ?_
  · go_simp
  try simp only [Act.put, List.setIfInBounds_toArray, List.set_cons_zero, List.set_cons_succ]
  refine wpAnyH_ready (rs := [3]) (by kernel_rfl) (by simp) (AllReadyH.cons rfl (fun K hK => ?_) AllReadyH.nil)
  rw [if_pos (by rfl)]
  go_wp2_with fail
  refine (dkCrash_step w.heap.size g k y.fa y.fn y.fc y.fl w14.drew HM.out.hd (hyok.out.below HM.out.below).fts (by have := hyok.out.fm; unfold maxLen at this; omega) HOF.out).mono ?_
  rintro e wz ⟨rfl, k3, hs, hd, hl⟩
  have H : Hid (Ms w wz (.disk g k3 :: [.row ao y.n co y.xs, .cell bx y.cs.toArray 33, .cell b11 #[.string (str k.d), .slice u k.ws.length c] 63, .any 80 2 u k.ws.length c (rcs k.ws), .cell b14 #[.string (str (nz z)), .slice none 0 0] 63, .disk gf kf]) ∧ k3.d = nowP k.d (trimP k.ws y.fl) ∧ k3.ws = []) := ⟨HM.out.disk hs, hd, hl⟩
  clear hs hd hl
  clear hS
  refine hK.out _ _ (⟨cell_ok (H.out.1.ok (.cell b11 #[.string (str k.d), .slice u k.ws.length c] 63) (by simp)), cell_ok (H.out.1.ok (.cell bx y.cs.toArray 33) (by simp))⟩) (fun hS => ?_)
  clear hK K
  try simp only [Act.put, List.setIfInBounds_toArray, List.set_cons_zero, List.set_cons_succ]
  refine tk 7 127 (.bool false) rfl rfl (by kernel_rfl) (by kernel_rfl) (by kernel_rfl) (fun _ _ _ h => h) (Or.inl ⟨by rfl, fun w' h' => ?_⟩) hS ?_
  · go_simp
  refine wpAnyH_done (by kernel_rfl) ?_ _
  go_wp2_with fail
  refine Met.intro (hJ0 _ _ ?_)
  exact ⟨k3, ⟨rfl, rfl⟩, rfl, rfl, rfl, rfl, rfl, rfl, rfl, rfl, rfl, rfl, rfl, H.out.1, H.out.2⟩

set_option maxRecDepth 100000 in
set_option maxHeartbeats 4000000 in
theorem p31 (w : World) (ya : Option Addr) (m : Nat) (yc : Nat) (pa : Int) (na : Int) (z : Nat) (g : Nat) (b11 : Nat) (gf : Nat) (kf : Dk) (b14 : Nat) (i : Nat) (k : Dk) (u : Option Addr) (c : Nat) (y : Ac) (hyok : Hid (y.ok w)) (hy60 : Hid (y.n ≤ 60 ∧ y.fn ≤ 60)) (HPL : Hid (PlOk k.d k.ws)) (bx : Nat) (ao : Option Addr) (co : Nat) (w29 : World) (k3 : Dk) (HM29 : Hid (Ms w w29 (.disk g k3 :: [.row ao y.n co y.xs, .cell bx y.cs.toArray 33, .cell b11 #[.string (str k.d), .slice u k.ws.length c] 63, .any 80 2 u k.ws.length c (rcs k.ws), .cell b14 #[.string (str (nz z)), .slice none 0 0] 63, .disk gf kf]))) (a : Act) (hf : Fr 274 a) (h1 : sl a 1 = .slice ya m yc) (h2 : sl a 2 = .int .i64 pa) (h3 : sl a 3 = .int .i64 na) (h9 : sl a 9 = .pointer (some ⟨g, 0, none⟩)) (h11 : sl a 11 = .pointer (some ⟨b11, 0, none⟩)) (h13 : sl a 13 = .pointer (some ⟨gf, 0, none⟩)) (h14 : sl a 14 = .pointer (some ⟨b14, 0, none⟩)) (h15 : sl a 15 = .int .i64 (i : Int)) (h16 : sl a 16 = .pointer (some ⟨bx, 0, none⟩)) (h17 : sl a 17 = .slice ao y.n co) :
    Code.wp Try.prog (cAt [1,1,1,1,1,1,1,0,1,2,2,1,0,2,1,1,0,1,2,1,4,1,4,1,3,1] KDP) (Exit.then (fun a' w' => Fr 274 a' ∧ sl a' 1 = .slice ya m yc ∧ sl a' 2 = .int .i64 pa ∧ sl a' 3 = .int .i64 na ∧ sl a' 9 = .pointer (some ⟨g, 0, none⟩) ∧ sl a' 11 = .pointer (some ⟨b11, 0, none⟩) ∧ sl a' 13 = .pointer (some ⟨gf, 0, none⟩) ∧ sl a' 14 = .pointer (some ⟨b14, 0, none⟩) ∧ sl a' 15 = .int .i64 (i : Int) ∧ sl a' 17 = .slice ao y.n co ∧ Ms w w' (.cell b11 #[.string (str (nowP k.d (trimP k.ws y.fl))), .slice none 0 0] 63 :: .disk g k3 :: [.row ao y.n co y.xs, .cell bx y.cs.toArray 33, .any 80 2 u k.ws.length c (rcs k.ws), .cell b14 #[.string (str (nz z)), .slice none 0 0] 63, .disk gf kf])) Nope) a w29 := by
  obtain ⟨f, ha, hs⟩ := frKDP hf
  have e1 := (hs 1).trans h1
  have e2 := (hs 2).trans h2
  have e3 := (hs 3).trans h3
  have e9 := (hs 9).trans h9
  have e11 := (hs 11).trans h11
  have e13 := (hs 13).trans h13
  have e14 := (hs 14).trans h14
  have e15 := (hs 15).trans h15
  have e16 := (hs 16).trans h16
  have e17 := (hs 17).trans h17
  rw [e1, e2, e3, e9, e11, e13, e14, e15, e16, e17] at ha
  clear hs hf e1 h1 e2 h2 e3 h3 e9 h9 e11 h11 e13 h13 e14 h14 e15 h15 e16 h16 e17 h17
  subst ha
  refine piece2 fun J0 K0 hJ0 hK0 => ?_
  conv => arg 2; whnf
  have HM : Hid (Ms w w29.drew (.disk g k3 :: [.row ao y.n co y.xs, .cell bx y.cs.toArray 33, .cell b11 #[.string (str k.d), .slice u k.ws.length c] 63, .any 80 2 u k.ws.length c (rcs k.ws), .cell b14 #[.string (str (nz z)), .slice none 0 0] 63, .disk gf kf])) := HM29.out.past (Below.refl _ _).drew
  go_wp2_with fail
  refine wp_region_held_drew (S := fun w' => w'.heap[bx]? = some (.cells y.cs.toArray 33 (0, 0))) (by kernel_rfl) (cell_ok (HM.out.ok (.cell bx y.cs.toArray 33) (by simp))) (fun hS => ?_)
  refine tk 1 129 (.pointer (some ⟨bx, 3, none⟩)) rfl rfl (by kernel_rfl) (by kernel_rfl) (by kernel_rfl) (fun _ _ _ h => h) (Or.inl ⟨by rfl, fun w' h' => ?_⟩) hS ?_
  · go_simp
  try simp only [Act.put, List.setIfInBounds_toArray, List.set_cons_zero, List.set_cons_succ]
  refine tk 2 130 (.slice y.fa y.fn y.fc) rfl rfl (by kernel_rfl) (by kernel_rfl) (by kernel_rfl) (fun _ _ _ h => h) (Or.inl ⟨by rfl, fun w' h' => ?_⟩) hS ?_
  · have x1 := Ac.k3 h'
    go_simp
  try simp only [Act.put, List.setIfInBounds_toArray, List.set_cons_zero, List.set_cons_succ]
  refine wpAnyH_ready (rs := [0, 3]) (by kernel_rfl) (by simp) (AllReadyH.cons rfl (fun K hK => ?_) (AllReadyH.cons rfl (fun K hK => ?_) AllReadyH.nil))
  · have x0 := two0 (cell_ok (HM.out.ok (.cell b11 #[.string (str k.d), .slice u k.ws.length c] 63) (by simp)))
    have x1 := two1 (cell_ok (HM.out.ok (.cell b11 #[.string (str k.d), .slice u k.ws.length c] 63) (by simp)))
    rw [if_pos (by rfl)]
    go_wp2_with fail
    clear hS
    refine hK.out _ _ ((cell_ok (HM.out.ok (.cell bx y.cs.toArray 33) (by simp)))) (fun hS => ?_)
    clear hK K
    clear x0 x1
    try simp only [Act.put, List.setIfInBounds_toArray, List.set_cons_zero, List.set_cons_succ]
    refine wpAnyH_ready (rs := [3]) (by kernel_rfl) (by simp) (AllReadyH.cons rfl (fun K hK => ?_) AllReadyH.nil)
    rw [if_pos (by rfl)]
    go_wp2_with fail
    refine (docFates_any y.fa y.fn y.fc y.fl w29.drew (hyok.out.below HM.out.below).fts (by have := hy60.out.2; omega)).mono ?_
    rintro e wf ⟨fv, fcap, rfl, ho, hb⟩
    have hfl2 := hyok.out.fts.1
    have HFT : Hid (Fts wf fv y.fn y.fl ∧ Ms w wf (.disk g k3 :: [.row ao y.n co y.xs, .cell bx y.cs.toArray 33, .cell b11 #[.string (str k.d), .slice u k.ws.length c] 63, .any 80 2 u k.ws.length c (rcs k.ws), .cell b14 #[.string (str (nz z)), .slice none 0 0] 63, .disk gf kf])) := ⟨by rw [← hfl2] at ho ⊢; exact fts_ownT ho, HM.out.past hb⟩
    clear ho hb hfl2
    refine hK.out _ _ (cell_ok (HFT.out.2.ok (.cell bx y.cs.toArray 33) (by simp))) (fun hS => ?_)
    clear hK K
    try simp only [Act.put, List.setIfInBounds_toArray, List.set_cons_zero, List.set_cons_succ]
    refine wpAnyH_ready (rs := [4]) (by kernel_rfl) (by simp) (AllReadyH.cons rfl (fun K hK => ?_) AllReadyH.nil)
    rw [if_pos (by rfl)]
    go_wp2_with fail
    refine (show Calls Try.prog 33 #[.agg #[.string (str k.d), .slice u k.ws.length c], .slice fv y.fn fcap] wf _ from r13Crash_any ⟨k.d, u, c, k.ws⟩ fv y.fn fcap y.fl wf (Rk.own.lies (r := ⟨k.d, u, c, k.ws⟩) (HFT.out.2.ok (.any 80 2 u k.ws.length c (rcs k.ws)) (by simp))) HPL.out HFT.out.1 (by have := hy60.out.2; omega)).mono ?_
    rintro e wr ⟨rfl, hb⟩
    have HM2 : Hid (Ms w wr (.cell b11 #[.string (str k.d), .slice u k.ws.length c] 63 :: .disk g k3 :: [.row ao y.n co y.xs, .cell bx y.cs.toArray 33, .any 80 2 u k.ws.length c (rcs k.ws), .cell b14 #[.string (str (nz z)), .slice none 0 0] 63, .disk gf kf])) := Ms.perm (HFT.out.2.past hb) (((List.Perm.cons _ (List.Perm.cons _ (List.Perm.swap _ _ _))).trans (List.Perm.cons _ (List.Perm.swap _ _ _))).trans (List.Perm.swap _ _ _))
    clear hb
    clear hS
    refine hK.out _ _ ((cell_ok (HM2.out.ok (.cell bx y.cs.toArray 33) (by simp)))) (fun hS => ?_)
    clear hK K
    try simp only [List.set_cons_succ]
    refine wpAnyH_ready (rs := [5]) (by kernel_rfl) (by simp) (AllReadyH.cons rfl (fun K hK => ?_) AllReadyH.nil)
    rw [if_pos (by rfl)]
    refine stO2 63 (.tmp 11) (.tmp 132) rfl b11 (.string (str (nowP k.d (trimP k.ws y.fl)))) (.slice none 0 0) _ _ 63 rfl rfl HM2.out.row2 infRk rfl rfl ?_
    intro wc HC
    have HN : Hid (Ms w wc (.cell b11 #[.string (str (nowP k.d (trimP k.ws y.fl))), .slice none 0 0] 63 :: .disk g k3 :: [.row ao y.n co y.xs, .cell bx y.cs.toArray 33, .any 80 2 u k.ws.length c (rcs k.ws), .cell b14 #[.string (str (nz z)), .slice none 0 0] 63, .disk gf kf])) := HM2.out.setC HC.out.1 HC.out.2
    clear hS
    refine hK.out _ _ ((cell_ok (HN.out.ok (.cell bx y.cs.toArray 33) (by simp)))) (fun hS => ?_)
    clear hK K
    refine wpAnyH_done (by kernel_rfl) ?_ _
    go_wp2_with fail
    refine Met.intro (hJ0 _ _ ?_)
    exact ⟨⟨rfl, rfl⟩, rfl, rfl, rfl, rfl, rfl, rfl, rfl, rfl, rfl, HN.out⟩
  · rw [if_pos (by rfl)]
    go_wp2_with fail
    refine (docFates_any y.fa y.fn y.fc y.fl w29.drew (hyok.out.below HM.out.below).fts (by have := hy60.out.2; omega)).mono ?_
    rintro e wf ⟨fv, fcap, rfl, ho, hb⟩
    have hfl2 := hyok.out.fts.1
    have HFT : Hid (Fts wf fv y.fn y.fl ∧ Ms w wf (.disk g k3 :: [.row ao y.n co y.xs, .cell bx y.cs.toArray 33, .cell b11 #[.string (str k.d), .slice u k.ws.length c] 63, .any 80 2 u k.ws.length c (rcs k.ws), .cell b14 #[.string (str (nz z)), .slice none 0 0] 63, .disk gf kf])) := ⟨by rw [← hfl2] at ho ⊢; exact fts_ownT ho, HM.out.past hb⟩
    clear ho hb hfl2
    refine hK.out _ _ (cell_ok (HFT.out.2.ok (.cell bx y.cs.toArray 33) (by simp))) (fun hS => ?_)
    clear hK K
    have HFM : Hid (Ms w wf (.disk g k3 :: [.row ao y.n co y.xs, .cell bx y.cs.toArray 33, .cell b11 #[.string (str k.d), .slice u k.ws.length c] 63, .any 80 2 u k.ws.length c (rcs k.ws), .cell b14 #[.string (str (nz z)), .slice none 0 0] 63, .disk gf kf])) := HFT.out.2
    have x0 := two0 (cell_ok (HFM.out.ok (.cell b11 #[.string (str k.d), .slice u k.ws.length c] 63) (by simp)))
    have x1 := two1 (cell_ok (HFM.out.ok (.cell b11 #[.string (str k.d), .slice u k.ws.length c] 63) (by simp)))
    try simp only [Act.put, List.setIfInBounds_toArray, List.set_cons_zero, List.set_cons_succ]
    refine wpAnyH_ready (rs := [0]) (by kernel_rfl) (by simp) (AllReadyH.cons rfl (fun K hK => ?_) AllReadyH.nil)
    rw [if_pos (by rfl)]
    go_wp2_with fail
    clear hS
    refine hK.out _ _ ((cell_ok (HFM.out.ok (.cell bx y.cs.toArray 33) (by simp)))) (fun hS => ?_)
    clear hK K
    clear x0 x1
    try simp only [Act.put, List.setIfInBounds_toArray, List.set_cons_zero, List.set_cons_succ]
    refine wpAnyH_ready (rs := [4]) (by kernel_rfl) (by simp) (AllReadyH.cons rfl (fun K hK => ?_) AllReadyH.nil)
    rw [if_pos (by rfl)]
    go_wp2_with fail
    refine (show Calls Try.prog 33 #[.agg #[.string (str k.d), .slice u k.ws.length c], .slice fv y.fn fcap] wf _ from r13Crash_any ⟨k.d, u, c, k.ws⟩ fv y.fn fcap y.fl wf (Rk.own.lies (r := ⟨k.d, u, c, k.ws⟩) (HFT.out.2.ok (.any 80 2 u k.ws.length c (rcs k.ws)) (by simp))) HPL.out HFT.out.1 (by have := hy60.out.2; omega)).mono ?_
    rintro e wr ⟨rfl, hb⟩
    have HM2 : Hid (Ms w wr (.cell b11 #[.string (str k.d), .slice u k.ws.length c] 63 :: .disk g k3 :: [.row ao y.n co y.xs, .cell bx y.cs.toArray 33, .any 80 2 u k.ws.length c (rcs k.ws), .cell b14 #[.string (str (nz z)), .slice none 0 0] 63, .disk gf kf])) := Ms.perm (HFT.out.2.past hb) (((List.Perm.cons _ (List.Perm.cons _ (List.Perm.swap _ _ _))).trans (List.Perm.cons _ (List.Perm.swap _ _ _))).trans (List.Perm.swap _ _ _))
    clear hb
    clear hS
    refine hK.out _ _ ((cell_ok (HM2.out.ok (.cell bx y.cs.toArray 33) (by simp)))) (fun hS => ?_)
    clear hK K
    try simp only [List.set_cons_succ]
    refine wpAnyH_ready (rs := [5]) (by kernel_rfl) (by simp) (AllReadyH.cons rfl (fun K hK => ?_) AllReadyH.nil)
    rw [if_pos (by rfl)]
    refine stO2 63 (.tmp 11) (.tmp 132) rfl b11 (.string (str (nowP k.d (trimP k.ws y.fl)))) (.slice none 0 0) _ _ 63 rfl rfl HM2.out.row2 infRk rfl rfl ?_
    intro wc HC
    have HN : Hid (Ms w wc (.cell b11 #[.string (str (nowP k.d (trimP k.ws y.fl))), .slice none 0 0] 63 :: .disk g k3 :: [.row ao y.n co y.xs, .cell bx y.cs.toArray 33, .any 80 2 u k.ws.length c (rcs k.ws), .cell b14 #[.string (str (nz z)), .slice none 0 0] 63, .disk gf kf])) := HM2.out.setC HC.out.1 HC.out.2
    clear hS
    refine hK.out _ _ ((cell_ok (HN.out.ok (.cell bx y.cs.toArray 33) (by simp)))) (fun hS => ?_)
    clear hK K
    refine wpAnyH_done (by kernel_rfl) ?_ _
    go_wp2_with fail
    refine Met.intro (hJ0 _ _ ?_)
    exact ⟨⟨rfl, rfl⟩, rfl, rfl, rfl, rfl, rfl, rfl, rfl, rfl, rfl, HN.out⟩

theorem plays_do (w : World) (s : Int) (ya : Option Addr) (m : Nat) (yc : Nat) (pa : Int) (na : Int) (hs : Hid (s ≤ 300 ∨ 65536 < s)) (z : Nat) (g : Nat) (b11 : Nat) (gf : Nat) (kf : Dk) (b14 : Nat) (hm40 : Hid (m ≤ 40)) (i : Nat) (k : Dk) (u : Option Addr) (c : Nat) (HK : Hid (k.d.length = z ∧ k.ws.length ≤ i)) (hli : Hid (i < m)) (y : Ac) (hyok : Hid (y.ok w)) (hy60 : Hid (y.n ≤ 60 ∧ y.fn ≤ 60)) (HPL : Hid (PlOk k.d k.ws)) (bx : Nat) (w14 : World) (ao : Option Addr) (co : Nat) (HM14 : Hid (Ms w w14 [.row ao y.n co y.xs, .cell bx y.cs.toArray 33, .cell b11 #[.string (str k.d), .slice u k.ws.length c] 63, .any 80 2 u k.ws.length c (rcs k.ws), .disk g k, .cell b14 #[.string (str (nz z)), .slice none 0 0] 63, .disk gf kf])) (q : Int) (a : Act) (hf : Fr 274 a) (h1 : sl a 1 = .slice ya m yc) (h2 : sl a 2 = .int .i64 pa) (h3 : sl a 3 = .int .i64 na) (h9 : sl a 9 = .pointer (some ⟨g, 0, none⟩)) (h11 : sl a 11 = .pointer (some ⟨b11, 0, none⟩)) (h13 : sl a 13 = .pointer (some ⟨gf, 0, none⟩)) (h14 : sl a 14 = .pointer (some ⟨b14, 0, none⟩)) (h15 : sl a 15 = .int .i64 (i : Int)) (h16 : sl a 16 = .pointer (some ⟨bx, 0, none⟩)) (h17 : sl a 17 = .slice ao y.n co) (h87 : sl a 87 = .int .i64 q) :
    Code.wp Try.prog (cAt [1,1,1,1,1,1,1,0,1,2,2,1,0,2,1,1,0,1] KDP) (Exit.then (fun a' w' => ∃ k2 : Dk, ∃ u2 : Option Addr, ∃ c2 : Nat, Fr 274 a' ∧ sl a' 1 = .slice ya m yc ∧ sl a' 2 = .int .i64 pa ∧ sl a' 3 = .int .i64 na ∧ sl a' 9 = .pointer (some ⟨g, 0, none⟩) ∧ sl a' 11 = .pointer (some ⟨b11, 0, none⟩) ∧ sl a' 13 = .pointer (some ⟨gf, 0, none⟩) ∧ sl a' 14 = .pointer (some ⟨b14, 0, none⟩) ∧ sl a' 15 = .int .i64 (i : Int) ∧ sl a' 17 = .slice ao y.n co ∧ Ms w w' [.row ao y.n co y.xs, .cell bx y.cs.toArray 33, .cell b11 #[.string (str k2.d), .slice u2 k2.ws.length c2] 63, .any 80 2 u2 k2.ws.length c2 (rcs k2.ws), .disk g k2, .cell b14 #[.string (str (nz z)), .slice none 0 0] 63, .disk gf kf] ∧ (k2.d.length = z ∧ k2.ws.length ≤ i + 1)) Nope) a w14 := by
  have hs := hs.out
  have hm40 := hm40.out
  have HK := HK.out
  have hli := hli.out
  have hyok := hyok.out
  have hy60 := hy60.out
  have HPL := HPL.out
  have HM14 := HM14.out
  refine wp_blockR (x := cAt [1,1,1,1,1,1,1,0,1,2,2,1,0,2,1,1,0,1,2] KDP) (id := 2) (by kernel_rfl) ?_
  refine wp_sqR (x := cAt [1,1,1,1,1,1,1,0,1,2,2,1,0,2,1,1,0,1,2,0] KDP) (y := cAt [1,1,1,1,1,1,1,0,1,2,2,1,0,2,1,1,0,1,2,1] KDP) (by kernel_rfl) (R := fun a' w' => Fr 274 a' ∧ sl a' 1 = .slice ya m yc ∧ sl a' 2 = .int .i64 pa ∧ sl a' 3 = .int .i64 na ∧ sl a' 9 = .pointer (some ⟨g, 0, none⟩) ∧ sl a' 11 = .pointer (some ⟨b11, 0, none⟩) ∧ sl a' 13 = .pointer (some ⟨gf, 0, none⟩) ∧ sl a' 14 = .pointer (some ⟨b14, 0, none⟩) ∧ sl a' 15 = .int .i64 (i : Int) ∧ sl a' 16 = .pointer (some ⟨bx, 0, none⟩) ∧ sl a' 17 = .slice ao y.n co ∧ sl a' 87 = .int .i64 q ∧ sl a' 88 = .bool (decide (q = 0 ∨ q = 1 ∨ q = 2 ∨ q = 3)) ∧ w14 = w') ?_ ?_
  · refine wp_sqR (x := cAt [1,1,1,1,1,1,1,0,1,2,2,1,0,2,1,1,0,1,2,0,0] KDP) (y := cAt [1,1,1,1,1,1,1,0,1,2,2,1,0,2,1,1,0,1,2,0,1] KDP) (by kernel_rfl) (p16 ya m yc pa na g b11 gf b14 i y bx w14 ao co q a hf h1 h2 h3 h9 h11 h13 h14 h15 h16 h17 h87) ?_
    rintro a_18 _ ⟨hf, h1, h2, h3, h9, h11, h13, h14, h15, h16, h17, h87, h88, rfl⟩
    by_cases hq0 : q = 0
    · rw [decide_eq_true hq0] at h88
      have h88b := h88
      refine wp_onT (A := cAt [1,1,1,1,1,1,1,0,1,2,2,1,0,2,1,1,0,1,2,0,1,3] KDP) (B := cAt [1,1,1,1,1,1,1,0,1,2,2,1,0,2,1,1,0,1,2,0,1,4] KDP) (by kernel_rfl) h88 ?_
      refine wp_skipR (by kernel_rfl) ?_
      rw [show decide (q = 0 ∨ q = 1 ∨ q = 2 ∨ q = 3) = true from decide_eq_true (by omega)]
      exact ⟨hf, h1, h2, h3, h9, h11, h13, h14, h15, h16, h17, h87, h88, rfl⟩
    · rw [decide_eq_false hq0] at h88
      refine wp_onF (A := cAt [1,1,1,1,1,1,1,0,1,2,2,1,0,2,1,1,0,1,2,0,1,3] KDP) (B := cAt [1,1,1,1,1,1,1,0,1,2,2,1,0,2,1,1,0,1,2,0,1,4] KDP) (by kernel_rfl) h88 ?_
      refine wp_sqR (x := cAt [1,1,1,1,1,1,1,0,1,2,2,1,0,2,1,1,0,1,2,0,1,4,0] KDP) (y := cAt [1,1,1,1,1,1,1,0,1,2,2,1,0,2,1,1,0,1,2,0,1,4,1] KDP) (by kernel_rfl) (p17 ya m yc pa na g b11 gf b14 i y bx w14 ao co q a_18 hf h1 h2 h3 h9 h11 h13 h14 h15 h16 h17 h87) ?_
      rintro a_19 _ ⟨hf, h1, h2, h3, h9, h11, h13, h14, h15, h16, h17, h87, h88, rfl⟩
      by_cases hq1 : q = 1
      · rw [decide_eq_true hq1] at h88
        have h88b := h88
        refine wp_onT (A := cAt [1,1,1,1,1,1,1,0,1,2,2,1,0,2,1,1,0,1,2,0,1,4,1,3] KDP) (B := cAt [1,1,1,1,1,1,1,0,1,2,2,1,0,2,1,1,0,1,2,0,1,4,1,4] KDP) (by kernel_rfl) h88 ?_
        refine wp_skipR (by kernel_rfl) ?_
        rw [show decide (q = 0 ∨ q = 1 ∨ q = 2 ∨ q = 3) = true from decide_eq_true (by omega)]
        exact ⟨hf, h1, h2, h3, h9, h11, h13, h14, h15, h16, h17, h87, h88, rfl⟩
      · rw [decide_eq_false hq1] at h88
        refine wp_onF (A := cAt [1,1,1,1,1,1,1,0,1,2,2,1,0,2,1,1,0,1,2,0,1,4,1,3] KDP) (B := cAt [1,1,1,1,1,1,1,0,1,2,2,1,0,2,1,1,0,1,2,0,1,4,1,4] KDP) (by kernel_rfl) h88 ?_
        refine wp_sqR (x := cAt [1,1,1,1,1,1,1,0,1,2,2,1,0,2,1,1,0,1,2,0,1,4,1,4,0] KDP) (y := cAt [1,1,1,1,1,1,1,0,1,2,2,1,0,2,1,1,0,1,2,0,1,4,1,4,1] KDP) (by kernel_rfl) (p18 ya m yc pa na g b11 gf b14 i y bx w14 ao co q a_19 hf h1 h2 h3 h9 h11 h13 h14 h15 h16 h17 h87) ?_
        rintro a_20 _ ⟨hf, h1, h2, h3, h9, h11, h13, h14, h15, h16, h17, h87, h88, rfl⟩
        by_cases hq2 : q = 2
        · rw [decide_eq_true hq2] at h88
          have h88b := h88
          refine wp_onT (A := cAt [1,1,1,1,1,1,1,0,1,2,2,1,0,2,1,1,0,1,2,0,1,4,1,4,1,3] KDP) (B := cAt [1,1,1,1,1,1,1,0,1,2,2,1,0,2,1,1,0,1,2,0,1,4,1,4,1,4] KDP) (by kernel_rfl) h88 ?_
          refine wp_skipR (by kernel_rfl) ?_
          rw [show decide (q = 0 ∨ q = 1 ∨ q = 2 ∨ q = 3) = true from decide_eq_true (by omega)]
          exact ⟨hf, h1, h2, h3, h9, h11, h13, h14, h15, h16, h17, h87, h88, rfl⟩
        · rw [decide_eq_false hq2] at h88
          refine wp_onF (A := cAt [1,1,1,1,1,1,1,0,1,2,2,1,0,2,1,1,0,1,2,0,1,4,1,4,1,3] KDP) (B := cAt [1,1,1,1,1,1,1,0,1,2,2,1,0,2,1,1,0,1,2,0,1,4,1,4,1,4] KDP) (by kernel_rfl) h88 ?_
          refine wp_endR (p19 ya m yc pa na g b11 gf b14 i y bx w14 ao co q a_20 hf h1 h2 h3 h9 h11 h13 h14 h15 h16 h17 h87) ?_
          rintro a_21 _ ⟨hf, h1, h2, h3, h9, h11, h13, h14, h15, h16, h17, h87, h88, rfl⟩
          rw [show decide (q = 0 ∨ q = 1 ∨ q = 2 ∨ q = 3) = decide (q = 3) by rw [Bool.eq_iff_iff, decide_eq_true_eq, decide_eq_true_eq]; omega]
          exact ⟨hf, h1, h2, h3, h9, h11, h13, h14, h15, h16, h17, h87, h88, rfl⟩
  rintro a_w _ ⟨hf, h1, h2, h3, h9, h11, h13, h14, h15, h16, h17, h87, h88, rfl⟩
  by_cases hwq : q = 0 ∨ q = 1 ∨ q = 2 ∨ q = 3
  · rw [decide_eq_true hwq] at h88
    refine wp_onT (A := cAt [1,1,1,1,1,1,1,0,1,2,2,1,0,2,1,1,0,1,2,1,3] KDP) (B := cAt [1,1,1,1,1,1,1,0,1,2,2,1,0,2,1,1,0,1,2,1,4] KDP) (by kernel_rfl) h88 ?_
    refine wp_sqR (x := cAt [1,1,1,1,1,1,1,0,1,2,2,1,0,2,1,1,0,1,2,1,3,0] KDP) (y := cAt [1,1,1,1,1,1,1,0,1,2,2,1,0,2,1,1,0,1,2,1,3,1] KDP) (by kernel_rfl) (p20 w ya m yc pa na z g b11 gf kf b14 hm40 i k u c HK hli y hyok hy60 bx w14 ao co HM14 q a_w hf h1 h2 h3 h9 h11 h13 h14 h15 h16 h17 h87) ?_
    rintro a_22 w20 ⟨b18, u2, c2, L2, hf, h1, h2, h3, h9, h11, h13, h14, h15, h16, h17, h18, h19, HM20, HL2⟩
    refine wp_sqG (x := cAt [1,1,1,1,1,1,1,0,1,2,2,1,0,2,1,1,0,1,2,1,3,1,0] KDP) (y := cAt [1,1,1,1,1,1,1,0,1,2,2,1,0,2,1,1,0,1,2,1,3,1,1] KDP) (by kernel_rfl) ?_
    refine wp_sqR (x := cAt [1,1,1,1,1,1,1,0,1,2,2,1,0,2,1,1,0,1,2,1,3,1,0,0] KDP) (y := cAt [1,1,1,1,1,1,1,0,1,2,2,1,0,2,1,1,0,1,2,1,3,1,0,1] KDP) (by kernel_rfl) (p21 w s ya m yc pa na hs z g b11 gf kf b14 hm40 i k u c HK hli y hyok bx ao co w20 b18 u2 c2 L2 HM20 HL2 a_22 hf h1 h2 h3 h9 h11 h13 h14 h15 h16 h17 h18 h19) ?_
    rintro a_23 w21 ⟨k3, hf, h1, h2, h3, h9, h11, h13, h14, h15, h16, h17, h18, h109, HM21, HK3⟩
    refine wp_onF (A := cAt [1,1,1,1,1,1,1,0,1,2,2,1,0,2,1,1,0,1,2,1,3,1,0,1,3] KDP) (B := cAt [1,1,1,1,1,1,1,0,1,2,2,1,0,2,1,1,0,1,2,1,3,1,0,1,4] KDP) (by kernel_rfl) h109 ?_
    refine wp_skipR (by kernel_rfl) ?_
    refine wp_endR (p23 w ya m yc pa na z g b11 gf kf b14 i k u c y bx ao co b18 u2 c2 L2 w21 k3 HM21 a_23 hf h1 h2 h3 h9 h11 h13 h14 h15 h16 h17 h18) ?_
    rintro a_24 w23 ⟨hf, h1, h2, h3, h9, h11, h13, h14, h15, h17, HM23⟩
    rw [← HK3.1, ← HK3.2] at HM23
    have HF := Ms.perm (Ms.sub (l' := [.cell b11 #[.string (str k3.d), .slice u2 k3.ws.length c2] 63, .disk g k3, .any 80 2 u2 k3.ws.length c2 (rcs k3.ws), .cell b14 #[.string (str (nz z)), .slice none 0 0] 63, .disk gf kf, .cell bx y.cs.toArray 33, .row ao y.n co y.xs]) HM23 (by simp)) ((((((((((((List.Perm.cons _ (List.Perm.cons _ (List.Perm.cons _ (List.Perm.cons _ (List.Perm.cons _ (List.Perm.swap _ _ _)))))).trans (List.Perm.cons _ (List.Perm.cons _ (List.Perm.cons _ (List.Perm.cons _ (List.Perm.swap _ _ _)))))).trans (List.Perm.cons _ (List.Perm.cons _ (List.Perm.cons _ (List.Perm.swap _ _ _))))).trans (List.Perm.cons _ (List.Perm.cons _ (List.Perm.swap _ _ _)))).trans (List.Perm.cons _ (List.Perm.swap _ _ _))).trans (List.Perm.swap _ _ _)).trans (List.Perm.cons _ (List.Perm.cons _ (List.Perm.cons _ (List.Perm.cons _ (List.Perm.cons _ (List.Perm.swap _ _ _))))))).trans (List.Perm.cons _ (List.Perm.cons _ (List.Perm.cons _ (List.Perm.cons _ (List.Perm.swap _ _ _)))))).trans (List.Perm.cons _ (List.Perm.cons _ (List.Perm.cons _ (List.Perm.swap _ _ _))))).trans (List.Perm.cons _ (List.Perm.cons _ (List.Perm.swap _ _ _)))).trans (List.Perm.cons _ (List.Perm.swap _ _ _))).trans (List.Perm.cons _ (List.Perm.cons _ (List.Perm.cons _ (List.Perm.swap _ _ _)))))
    have hkl := putP_len k.d k.ws y.p y.xs
    rw [← HL2, ← HK3.2] at hkl
    exact ⟨k3, u2, c2, hf, h1, h2, h3, h9, h11, h13, h14, h15, h17, HF, ⟨by rw [HK3.1]; exact HK.1, by have := HK.2; omega⟩⟩
  · rw [decide_eq_false hwq] at h88
    refine wp_onF (A := cAt [1,1,1,1,1,1,1,0,1,2,2,1,0,2,1,1,0,1,2,1,3] KDP) (B := cAt [1,1,1,1,1,1,1,0,1,2,2,1,0,2,1,1,0,1,2,1,4] KDP) (by kernel_rfl) h88 ?_
    refine wp_sqR (x := cAt [1,1,1,1,1,1,1,0,1,2,2,1,0,2,1,1,0,1,2,1,4,0] KDP) (y := cAt [1,1,1,1,1,1,1,0,1,2,2,1,0,2,1,1,0,1,2,1,4,1] KDP) (by kernel_rfl) (p24 ya m yc pa na g b11 gf b14 i y bx w14 ao co q a_w hf h1 h2 h3 h9 h11 h13 h14 h15 h16 h17 h87) ?_
    rintro a_25 _ ⟨hf, h1, h2, h3, h9, h11, h13, h14, h15, h16, h17, h87, h111, rfl⟩
    by_cases hq4 : q = 4
    · rw [decide_eq_true hq4] at h111
      refine wp_onT (A := cAt [1,1,1,1,1,1,1,0,1,2,2,1,0,2,1,1,0,1,2,1,4,1,3] KDP) (B := cAt [1,1,1,1,1,1,1,0,1,2,2,1,0,2,1,1,0,1,2,1,4,1,4] KDP) (by kernel_rfl) h111 ?_
      refine wp_sqG (x := cAt [1,1,1,1,1,1,1,0,1,2,2,1,0,2,1,1,0,1,2,1,4,1,3,0] KDP) (y := cAt [1,1,1,1,1,1,1,0,1,2,2,1,0,2,1,1,0,1,2,1,4,1,3,1] KDP) (by kernel_rfl) ?_
      refine wp_sqR (x := cAt [1,1,1,1,1,1,1,0,1,2,2,1,0,2,1,1,0,1,2,1,4,1,3,0,0] KDP) (y := cAt [1,1,1,1,1,1,1,0,1,2,2,1,0,2,1,1,0,1,2,1,4,1,3,0,1] KDP) (by kernel_rfl) (p25 w s ya m yc pa na hs z g b11 gf kf b14 i k u c y bx w14 ao co HM14 q a_25 hf h1 h2 h3 h9 h11 h13 h14 h15 h16 h17 h87) ?_
      rintro a_26 w25 ⟨k3, hf, h1, h2, h3, h9, h11, h13, h14, h15, h16, h17, h115, HM25, HK3⟩
      refine wp_onF (A := cAt [1,1,1,1,1,1,1,0,1,2,2,1,0,2,1,1,0,1,2,1,4,1,3,0,1,3] KDP) (B := cAt [1,1,1,1,1,1,1,0,1,2,2,1,0,2,1,1,0,1,2,1,4,1,3,0,1,4] KDP) (by kernel_rfl) h115 ?_
      refine wp_skipR (by kernel_rfl) ?_
      refine wp_endR (p27 w ya m yc pa na z g b11 gf kf b14 i k u c y HPL bx ao co w25 k3 HM25 a_26 hf h1 h2 h3 h9 h11 h13 h14 h15 h16 h17) ?_
      rintro a_27 w27 ⟨hf, h1, h2, h3, h9, h11, h13, h14, h15, h17, HM27⟩
      have HF := Ms.perm ((Ms.sub (l' := .cell b11 #[.string (str (nowP k.d k.ws)), .slice none 0 0] 63 :: .disk g k3 :: [.row ao y.n co y.xs, .cell bx y.cs.toArray 33, .cell b14 #[.string (str (nz z)), .slice none 0 0] 63, .disk gf kf]) HM27 (by simp)).add (t := .any 80 2 none 0 0 []) (Below.refl _ _) (OwnG.nil _ _ _ _)) (((((((List.Perm.cons _ (List.Perm.cons _ (List.Perm.swap _ _ _))).trans (List.Perm.cons _ (List.Perm.swap _ _ _))).trans (List.Perm.swap _ _ _)).trans (List.Perm.cons _ (List.Perm.cons _ (List.Perm.cons _ (List.Perm.swap _ _ _))))).trans (List.Perm.cons _ (List.Perm.cons _ (List.Perm.swap _ _ _)))).trans (List.Perm.cons _ (List.Perm.swap _ _ _))).trans (List.Perm.cons _ (List.Perm.cons _ (List.Perm.swap _ _ _))))
      exact ⟨k3, none, 0, hf, h1, h2, h3, h9, h11, h13, h14, h15, h17, (by rw [HK3.1, HK3.2]; exact HF), ⟨by rw [HK3.1, nowP_len]; exact HK.1, by rw [HK3.2]; exact Nat.zero_le _⟩⟩
    · rw [decide_eq_false hq4] at h111
      refine wp_onF (A := cAt [1,1,1,1,1,1,1,0,1,2,2,1,0,2,1,1,0,1,2,1,4,1,3] KDP) (B := cAt [1,1,1,1,1,1,1,0,1,2,2,1,0,2,1,1,0,1,2,1,4,1,4] KDP) (by kernel_rfl) h111 ?_
      refine wp_sqR (x := cAt [1,1,1,1,1,1,1,0,1,2,2,1,0,2,1,1,0,1,2,1,4,1,4,0] KDP) (y := cAt [1,1,1,1,1,1,1,0,1,2,2,1,0,2,1,1,0,1,2,1,4,1,4,1] KDP) (by kernel_rfl) (p28 ya m yc pa na g b11 gf b14 i y bx w14 ao co q a_25 hf h1 h2 h3 h9 h11 h13 h14 h15 h16 h17 h87) ?_
      rintro a_28 _ ⟨hf, h1, h2, h3, h9, h11, h13, h14, h15, h16, h17, h87, h118, rfl⟩
      by_cases hq5 : q = 5
      · rw [decide_eq_true hq5] at h118
        refine wp_onT (A := cAt [1,1,1,1,1,1,1,0,1,2,2,1,0,2,1,1,0,1,2,1,4,1,4,1,3] KDP) (B := cAt [1,1,1,1,1,1,1,0,1,2,2,1,0,2,1,1,0,1,2,1,4,1,4,1,4] KDP) (by kernel_rfl) h118 ?_
        refine wp_sqG (x := cAt [1,1,1,1,1,1,1,0,1,2,2,1,0,2,1,1,0,1,2,1,4,1,4,1,3,0] KDP) (y := cAt [1,1,1,1,1,1,1,0,1,2,2,1,0,2,1,1,0,1,2,1,4,1,4,1,3,1] KDP) (by kernel_rfl) ?_
        refine wp_sqR (x := cAt [1,1,1,1,1,1,1,0,1,2,2,1,0,2,1,1,0,1,2,1,4,1,4,1,3,0,0] KDP) (y := cAt [1,1,1,1,1,1,1,0,1,2,2,1,0,2,1,1,0,1,2,1,4,1,4,1,3,0,1] KDP) (by kernel_rfl) (p29 w s ya m yc pa na hs z g b11 gf kf b14 i k u c y hyok bx w14 ao co HM14 q a_28 hf h1 h2 h3 h9 h11 h13 h14 h15 h16 h17 h87) ?_
        rintro a_29 w29 ⟨k3, hf, h1, h2, h3, h9, h11, h13, h14, h15, h16, h17, h127, HM29, HK3⟩
        refine wp_onF (A := cAt [1,1,1,1,1,1,1,0,1,2,2,1,0,2,1,1,0,1,2,1,4,1,4,1,3,0,1,3] KDP) (B := cAt [1,1,1,1,1,1,1,0,1,2,2,1,0,2,1,1,0,1,2,1,4,1,4,1,3,0,1,4] KDP) (by kernel_rfl) h127 ?_
        refine wp_skipR (by kernel_rfl) ?_
        refine wp_endR (p31 w ya m yc pa na z g b11 gf kf b14 i k u c y hyok hy60 HPL bx ao co w29 k3 HM29 a_29 hf h1 h2 h3 h9 h11 h13 h14 h15 h16 h17) ?_
        rintro a_30 w31 ⟨hf, h1, h2, h3, h9, h11, h13, h14, h15, h17, HM31⟩
        have HF := Ms.perm ((Ms.sub (l' := .cell b11 #[.string (str (nowP k.d (trimP k.ws y.fl))), .slice none 0 0] 63 :: .disk g k3 :: [.row ao y.n co y.xs, .cell bx y.cs.toArray 33, .cell b14 #[.string (str (nz z)), .slice none 0 0] 63, .disk gf kf]) HM31 (by simp)).add (t := .any 80 2 none 0 0 []) (Below.refl _ _) (OwnG.nil _ _ _ _)) (((((((List.Perm.cons _ (List.Perm.cons _ (List.Perm.swap _ _ _))).trans (List.Perm.cons _ (List.Perm.swap _ _ _))).trans (List.Perm.swap _ _ _)).trans (List.Perm.cons _ (List.Perm.cons _ (List.Perm.cons _ (List.Perm.swap _ _ _))))).trans (List.Perm.cons _ (List.Perm.cons _ (List.Perm.swap _ _ _)))).trans (List.Perm.cons _ (List.Perm.swap _ _ _))).trans (List.Perm.cons _ (List.Perm.cons _ (List.Perm.swap _ _ _))))
        exact ⟨k3, none, 0, hf, h1, h2, h3, h9, h11, h13, h14, h15, h17, (by rw [HK3.1, HK3.2]; exact HF), ⟨by rw [HK3.1, nowP_len]; exact HK.1, by rw [HK3.2]; exact Nat.zero_le _⟩⟩
      · rw [decide_eq_false hq5] at h118
        refine wp_onF (A := cAt [1,1,1,1,1,1,1,0,1,2,2,1,0,2,1,1,0,1,2,1,4,1,4,1,3] KDP) (B := cAt [1,1,1,1,1,1,1,0,1,2,2,1,0,2,1,1,0,1,2,1,4,1,4,1,4] KDP) (by kernel_rfl) h118 ?_
        refine wp_skipR (by kernel_rfl) ?_
        exact ⟨k, u, c, hf, h1, h2, h3, h9, h11, h13, h14, h15, h17, HM14, ⟨HK.1, by have := HK.2; omega⟩⟩

set_option maxRecDepth 100000 in
set_option maxHeartbeats 4000000 in
theorem p32i (ya : Option Addr) (m : Nat) (yc : Nat) (pa : Int) (na : Int) (g : Nat) (b11 : Nat) (gf : Nat) (b14 : Nat) (i : Nat) (y : Ac) (ao : Option Addr) (co : Nat) (wj : World) (a : Act) (hf : Fr 274 a) (h1 : sl a 1 = .slice ya m yc) (h2 : sl a 2 = .int .i64 pa) (h3 : sl a 3 = .int .i64 na) (h9 : sl a 9 = .pointer (some ⟨g, 0, none⟩)) (h11 : sl a 11 = .pointer (some ⟨b11, 0, none⟩)) (h13 : sl a 13 = .pointer (some ⟨gf, 0, none⟩)) (h14 : sl a 14 = .pointer (some ⟨b14, 0, none⟩)) (h15 : sl a 15 = .int .i64 (i : Int)) (h17 : sl a 17 = .slice ao y.n co) :
    Code.wp Try.prog (cAt [1,1,1,1,1,1,1,0,1,2,2,1,0,2,1,1,1,0,0] KDP) (Exit.then (fun a' w' => Fr 274 a' ∧ sl a' 1 = .slice ya m yc ∧ sl a' 2 = .int .i64 pa ∧ sl a' 3 = .int .i64 na ∧ sl a' 9 = .pointer (some ⟨g, 0, none⟩) ∧ sl a' 11 = .pointer (some ⟨b11, 0, none⟩) ∧ sl a' 13 = .pointer (some ⟨gf, 0, none⟩) ∧ sl a' 14 = .pointer (some ⟨b14, 0, none⟩) ∧ sl a' 15 = .int .i64 (i : Int) ∧ sl a' 17 = .slice ao y.n co ∧ sl a' 20 = .int .i64 0 ∧ wj = w') Nope) a wj := by
  obtain ⟨f, ha, hs⟩ := frKDP hf
  have e1 := (hs 1).trans h1
  have e2 := (hs 2).trans h2
  have e3 := (hs 3).trans h3
  have e9 := (hs 9).trans h9
  have e11 := (hs 11).trans h11
  have e13 := (hs 13).trans h13
  have e14 := (hs 14).trans h14
  have e15 := (hs 15).trans h15
  have e17 := (hs 17).trans h17
  rw [e1, e2, e3, e9, e11, e13, e14, e15, e17] at ha
  clear hs hf e1 h1 e2 h2 e3 h3 e9 h9 e11 h11 e13 h13 e14 h14 e15 h15 e17 h17
  subst ha
  refine piece2 fun J0 K0 hJ0 hK0 => ?_
  conv => arg 2; whnf
  go_wp2_with fail
  refine Met.intro (hJ0 _ _ ?_)
  exact ⟨⟨rfl, rfl⟩, rfl, rfl, rfl, rfl, rfl, rfl, rfl, rfl, rfl, rfl, rfl⟩

set_option maxRecDepth 100000 in
set_option maxHeartbeats 4000000 in
theorem p32x (ya : Option Addr) (m : Nat) (yc : Nat) (pa : Int) (na : Int) (g : Nat) (b11 : Nat) (gf : Nat) (b14 : Nat) (i : Nat) (y : Ac) (ao : Option Addr) (co : Nat) (wp32 : World) (j : Nat) (hlj : Hid (¬ j < y.n)) (a : Act) (hf : Fr 274 a) (h1 : sl a 1 = .slice ya m yc) (h2 : sl a 2 = .int .i64 pa) (h3 : sl a 3 = .int .i64 na) (h9 : sl a 9 = .pointer (some ⟨g, 0, none⟩)) (h11 : sl a 11 = .pointer (some ⟨b11, 0, none⟩)) (h13 : sl a 13 = .pointer (some ⟨gf, 0, none⟩)) (h14 : sl a 14 = .pointer (some ⟨b14, 0, none⟩)) (h15 : sl a 15 = .int .i64 (i : Int)) (h17 : sl a 17 = .slice ao y.n co) (h20 : sl a 20 = .int .i64 (j : Int)) :
    Code.wp Try.prog (cAt [1,1,1,1,1,1,1,0,1,2,2,1,0,2,1,1,1,0,1,2,2] KDP) (Outs 3 (fun a' w' => Fr 274 a' ∧ sl a' 1 = .slice ya m yc ∧ sl a' 2 = .int .i64 pa ∧ sl a' 3 = .int .i64 na ∧ sl a' 9 = .pointer (some ⟨g, 0, none⟩) ∧ sl a' 11 = .pointer (some ⟨b11, 0, none⟩) ∧ sl a' 13 = .pointer (some ⟨gf, 0, none⟩) ∧ sl a' 14 = .pointer (some ⟨b14, 0, none⟩) ∧ sl a' 15 = .int .i64 (i : Int) ∧ sl a' 17 = .slice ao y.n co ∧ wp32 = w')) a wp32 := by
  obtain ⟨f, ha, hs⟩ := frKDP hf
  have e1 := (hs 1).trans h1
  have e2 := (hs 2).trans h2
  have e3 := (hs 3).trans h3
  have e9 := (hs 9).trans h9
  have e11 := (hs 11).trans h11
  have e13 := (hs 13).trans h13
  have e14 := (hs 14).trans h14
  have e15 := (hs 15).trans h15
  have e17 := (hs 17).trans h17
  have e20 := (hs 20).trans h20
  rw [e1, e2, e3, e9, e11, e13, e14, e15, e17, e20] at ha
  clear hs hf e1 h1 e2 h2 e3 h3 e9 h9 e11 h11 e13 h13 e14 h14 e15 h15 e17 h17 e20 h20
  subst ha
  conv => arg 2; whnf
  have hi2 : ¬ (j : Int) < (y.n : Int) := by have := hlj.out; omega
  go_wp2_with fail
  exact ⟨rfl, ⟨rfl, rfl⟩, rfl, rfl, rfl, rfl, rfl, rfl, rfl, rfl, rfl, rfl⟩

set_option maxRecDepth 100000 in
set_option maxHeartbeats 4000000 in
theorem p32c (ya : Option Addr) (m : Nat) (yc : Nat) (pa : Int) (na : Int) (g : Nat) (b11 : Nat) (gf : Nat) (b14 : Nat) (i : Nat) (y : Ac) (ao : Option Addr) (co : Nat) (wp32 : World) (j : Nat) (hlj : Hid (j < y.n)) (a : Act) (hf : Fr 274 a) (h1 : sl a 1 = .slice ya m yc) (h2 : sl a 2 = .int .i64 pa) (h3 : sl a 3 = .int .i64 na) (h9 : sl a 9 = .pointer (some ⟨g, 0, none⟩)) (h11 : sl a 11 = .pointer (some ⟨b11, 0, none⟩)) (h13 : sl a 13 = .pointer (some ⟨gf, 0, none⟩)) (h14 : sl a 14 = .pointer (some ⟨b14, 0, none⟩)) (h15 : sl a 15 = .int .i64 (i : Int)) (h17 : sl a 17 = .slice ao y.n co) (h20 : sl a 20 = .int .i64 (j : Int)) :
    Code.wp Try.prog (cAt [1,1,1,1,1,1,1,0,1,2,2,1,0,2,1,1,1,0,1,2,2,0] KDP) (Exit.then (fun a' w' => Fr 274 a' ∧ sl a' 1 = .slice ya m yc ∧ sl a' 2 = .int .i64 pa ∧ sl a' 3 = .int .i64 na ∧ sl a' 9 = .pointer (some ⟨g, 0, none⟩) ∧ sl a' 11 = .pointer (some ⟨b11, 0, none⟩) ∧ sl a' 13 = .pointer (some ⟨gf, 0, none⟩) ∧ sl a' 14 = .pointer (some ⟨b14, 0, none⟩) ∧ sl a' 15 = .int .i64 (i : Int) ∧ sl a' 17 = .slice ao y.n co ∧ sl a' 20 = .int .i64 (j : Int) ∧ wp32 = w') Nope) a wp32 := by
  obtain ⟨f, ha, hs⟩ := frKDP hf
  have e1 := (hs 1).trans h1
  have e2 := (hs 2).trans h2
  have e3 := (hs 3).trans h3
  have e9 := (hs 9).trans h9
  have e11 := (hs 11).trans h11
  have e13 := (hs 13).trans h13
  have e14 := (hs 14).trans h14
  have e15 := (hs 15).trans h15
  have e17 := (hs 17).trans h17
  have e20 := (hs 20).trans h20
  rw [e1, e2, e3, e9, e11, e13, e14, e15, e17, e20] at ha
  clear hs hf e1 h1 e2 h2 e3 h3 e9 h9 e11 h11 e13 h13 e14 h14 e15 h15 e17 h17 e20 h20
  subst ha
  refine piece2 fun J0 K0 hJ0 hK0 => ?_
  conv => arg 2; whnf
  have hi2 : (j : Int) < (y.n : Int) := by have := hlj.out; omega
  go_wp2_with fail
  refine Met.intro (hJ0 _ _ ?_)
  exact ⟨⟨rfl, rfl⟩, rfl, rfl, rfl, rfl, rfl, rfl, rfl, rfl, rfl, rfl, rfl⟩

set_option maxRecDepth 100000 in
set_option maxHeartbeats 4000000 in
theorem p35 (w : World) (ya : Option Addr) (m : Nat) (yc : Nat) (pa : Int) (na : Int) (z : Nat) (g : Nat) (b11 : Nat) (gf : Nat) (kf : Dk) (b14 : Nat) (i : Nat) (y : Ac) (bx : Nat) (ao : Option Addr) (co : Nat) (k2 : Dk) (u2 : Option Addr) (c2 : Nat) (wp32 : World) (j : Nat) (zs : List Int) (HMO : Hid (Ms w wp32 [.row ao y.n co zs, .cell bx y.cs.toArray 33, .cell b11 #[.string (str k2.d), .slice u2 k2.ws.length c2] 63, .any 80 2 u2 k2.ws.length c2 (rcs k2.ws), .disk g k2, .cell b14 #[.string (str (nz z)), .slice none 0 0] 63, .disk gf kf])) (hlj : Hid (j < y.n)) (a : Act) (hf : Fr 274 a) (h1 : sl a 1 = .slice ya m yc) (h2 : sl a 2 = .int .i64 pa) (h3 : sl a 3 = .int .i64 na) (h9 : sl a 9 = .pointer (some ⟨g, 0, none⟩)) (h11 : sl a 11 = .pointer (some ⟨b11, 0, none⟩)) (h13 : sl a 13 = .pointer (some ⟨gf, 0, none⟩)) (h14 : sl a 14 = .pointer (some ⟨b14, 0, none⟩)) (h15 : sl a 15 = .int .i64 (i : Int)) (h17 : sl a 17 = .slice ao y.n co) (h20 : sl a 20 = .int .i64 (j : Int)) :
    Code.wp Try.prog (cAt [1,1,1,1,1,1,1,0,1,2,2,1,0,2,1,1,1,0,1,2,2,1,0,2] KDP) (Exit.then (fun a' w' => ∃ z3 : List Int, Fr 274 a' ∧ sl a' 1 = .slice ya m yc ∧ sl a' 2 = .int .i64 pa ∧ sl a' 3 = .int .i64 na ∧ sl a' 9 = .pointer (some ⟨g, 0, none⟩) ∧ sl a' 11 = .pointer (some ⟨b11, 0, none⟩) ∧ sl a' 13 = .pointer (some ⟨gf, 0, none⟩) ∧ sl a' 14 = .pointer (some ⟨b14, 0, none⟩) ∧ sl a' 15 = .int .i64 (i : Int) ∧ sl a' 17 = .slice ao y.n co ∧ sl a' 20 = .int .i64 (j : Int) ∧ Ms w w' [.row ao y.n co z3, .cell bx y.cs.toArray 33, .cell b11 #[.string (str k2.d), .slice u2 k2.ws.length c2] 63, .any 80 2 u2 k2.ws.length c2 (rcs k2.ws), .disk g k2, .cell b14 #[.string (str (nz z)), .slice none 0 0] 63, .disk gf kf]) Nope) a wp32 := by
  obtain ⟨f, ha, hs⟩ := frKDP hf
  have e1 := (hs 1).trans h1
  have e2 := (hs 2).trans h2
  have e3 := (hs 3).trans h3
  have e9 := (hs 9).trans h9
  have e11 := (hs 11).trans h11
  have e13 := (hs 13).trans h13
  have e14 := (hs 14).trans h14
  have e15 := (hs 15).trans h15
  have e17 := (hs 17).trans h17
  have e20 := (hs 20).trans h20
  rw [e1, e2, e3, e9, e11, e13, e14, e15, e17, e20] at ha
  clear hs hf e1 h1 e2 h2 e3 h3 e9 h9 e11 h11 e13 h13 e14 h14 e15 h15 e17 h17 e20 h20
  subst ha
  refine piece2 fun J0 K0 hJ0 hK0 => ?_
  conv => arg 2; whnf
  obtain ⟨g0, hg0, hc, hfz, hset⟩ := Ms.setB HMO.out hlj.out
  subst hg0
  have HSET := Lib.hid hset
  have hj2 : (j : Int) < (y.n : Int) := by have := hlj.out; omega
  have hj0 : (0 : Int) ≤ (j : Int) := by omega
  clear hset
  go_wp2_with fail
  refine Met.intro (hJ0 _ _ ?_)
  exact ⟨_, ⟨rfl, rfl⟩, rfl, rfl, rfl, rfl, rfl, rfl, rfl, rfl, rfl, rfl, HSET.out _⟩

set_option maxRecDepth 100000 in
set_option maxHeartbeats 4000000 in
theorem p32n (ya : Option Addr) (m : Nat) (yc : Nat) (pa : Int) (na : Int) (g : Nat) (b11 : Nat) (gf : Nat) (b14 : Nat) (i : Nat) (y : Ac) (hy60 : Hid (y.n ≤ 60 ∧ y.fn ≤ 60)) (ao : Option Addr) (co : Nat) (j : Nat) (hlj : Hid (j < y.n)) (w35b : World) (a : Act) (hf : Fr 274 a) (h1 : sl a 1 = .slice ya m yc) (h2 : sl a 2 = .int .i64 pa) (h3 : sl a 3 = .int .i64 na) (h9 : sl a 9 = .pointer (some ⟨g, 0, none⟩)) (h11 : sl a 11 = .pointer (some ⟨b11, 0, none⟩)) (h13 : sl a 13 = .pointer (some ⟨gf, 0, none⟩)) (h14 : sl a 14 = .pointer (some ⟨b14, 0, none⟩)) (h15 : sl a 15 = .int .i64 (i : Int)) (h17 : sl a 17 = .slice ao y.n co) (h20 : sl a 20 = .int .i64 (j : Int)) :
    Code.wp Try.prog (cAt [1,1,1,1,1,1,1,0,1,2,2,1,0,2,1,1,1,0,1,2,2,1,1] KDP) (Exit.then (fun a' w' => Fr 274 a' ∧ sl a' 1 = .slice ya m yc ∧ sl a' 2 = .int .i64 pa ∧ sl a' 3 = .int .i64 na ∧ sl a' 9 = .pointer (some ⟨g, 0, none⟩) ∧ sl a' 11 = .pointer (some ⟨b11, 0, none⟩) ∧ sl a' 13 = .pointer (some ⟨gf, 0, none⟩) ∧ sl a' 14 = .pointer (some ⟨b14, 0, none⟩) ∧ sl a' 15 = .int .i64 (i : Int) ∧ sl a' 17 = .slice ao y.n co ∧ sl a' 20 = .int .i64 ((j + 1 : Nat) : Int) ∧ w35b = w') Nope) a w35b := by
  obtain ⟨f, ha, hs⟩ := frKDP hf
  have e1 := (hs 1).trans h1
  have e2 := (hs 2).trans h2
  have e3 := (hs 3).trans h3
  have e9 := (hs 9).trans h9
  have e11 := (hs 11).trans h11
  have e13 := (hs 13).trans h13
  have e14 := (hs 14).trans h14
  have e15 := (hs 15).trans h15
  have e17 := (hs 17).trans h17
  have e20 := (hs 20).trans h20
  rw [e1, e2, e3, e9, e11, e13, e14, e15, e17, e20] at ha
  clear hs hf e1 h1 e2 h2 e3 h3 e9 h9 e11 h11 e13 h13 e14 h14 e15 h15 e17 h17 e20 h20
  subst ha
  refine piece2 fun J0 K0 hJ0 hK0 => ?_
  conv => arg 2; whnf
  have hw : IntKind.i64.wrap ((j : Int) + 1) = ((j + 1 : Nat) : Int) := by have := hlj.out; have := hy60.out.1; rw [IntKind.wrap_i64]; omega
  go_wp2_with fail
  refine Met.intro (hJ0 _ _ ?_)
  exact ⟨⟨rfl, rfl⟩, rfl, rfl, rfl, rfl, rfl, rfl, rfl, rfl, rfl, rfl, rfl⟩

theorem plays_own (w : World) (ya : Option Addr) (m : Nat) (yc : Nat) (pa : Int) (na : Int) (z : Nat) (g : Nat) (b11 : Nat) (gf : Nat) (kf : Dk) (b14 : Nat) (i : Nat) (y : Ac) (hy60 : Hid (y.n ≤ 60 ∧ y.fn ≤ 60)) (bx : Nat) (ao : Option Addr) (co : Nat) (wj : World) (k2 : Dk) (u2 : Option Addr) (c2 : Nat) (HMJ : Hid (Ms w wj [.row ao y.n co y.xs, .cell bx y.cs.toArray 33, .cell b11 #[.string (str k2.d), .slice u2 k2.ws.length c2] 63, .any 80 2 u2 k2.ws.length c2 (rcs k2.ws), .disk g k2, .cell b14 #[.string (str (nz z)), .slice none 0 0] 63, .disk gf kf])) (a : Act) (hf : Fr 274 a) (h1 : sl a 1 = .slice ya m yc) (h2 : sl a 2 = .int .i64 pa) (h3 : sl a 3 = .int .i64 na) (h9 : sl a 9 = .pointer (some ⟨g, 0, none⟩)) (h11 : sl a 11 = .pointer (some ⟨b11, 0, none⟩)) (h13 : sl a 13 = .pointer (some ⟨gf, 0, none⟩)) (h14 : sl a 14 = .pointer (some ⟨b14, 0, none⟩)) (h15 : sl a 15 = .int .i64 (i : Int)) (h17 : sl a 17 = .slice ao y.n co) :
    Code.wp Try.prog (cAt [1,1,1,1,1,1,1,0,1,2,2,1,0,2,1,1,1,0] KDP) (Exit.then (fun a' w' => ∃ zs : List Int, Fr 274 a' ∧ sl a' 1 = .slice ya m yc ∧ sl a' 2 = .int .i64 pa ∧ sl a' 3 = .int .i64 na ∧ sl a' 9 = .pointer (some ⟨g, 0, none⟩) ∧ sl a' 11 = .pointer (some ⟨b11, 0, none⟩) ∧ sl a' 13 = .pointer (some ⟨gf, 0, none⟩) ∧ sl a' 14 = .pointer (some ⟨b14, 0, none⟩) ∧ sl a' 15 = .int .i64 (i : Int) ∧ sl a' 17 = .slice ao y.n co ∧ Ms w w' [.row ao y.n co zs, .cell bx y.cs.toArray 33, .cell b11 #[.string (str k2.d), .slice u2 k2.ws.length c2] 63, .any 80 2 u2 k2.ws.length c2 (rcs k2.ws), .disk g k2, .cell b14 #[.string (str (nz z)), .slice none 0 0] 63, .disk gf kf]) Nope) a wj := by
  have hy60 := hy60.out
  have HMJ := HMJ.out
  refine wp_sqR (x := cAt [1,1,1,1,1,1,1,0,1,2,2,1,0,2,1,1,1,0,0] KDP) (y := cAt [1,1,1,1,1,1,1,0,1,2,2,1,0,2,1,1,1,0,1] KDP) (by kernel_rfl) (p32i ya m yc pa na g b11 gf b14 i y ao co wj a hf h1 h2 h3 h9 h11 h13 h14 h15 h17) ?_
  rintro a_32 _ ⟨hf, h1, h2, h3, h9, h11, h13, h14, h15, h17, h20, rfl⟩
  refine wp_blockR (x := cAt [1,1,1,1,1,1,1,0,1,2,2,1,0,2,1,1,1,0,1,2] KDP) (id := 3) (by kernel_rfl) ?_
  refine wp_loopR (x := cAt [1,1,1,1,1,1,1,0,1,2,2,1,0,2,1,1,1,0,1,2,2] KDP) (by kernel_rfl) (fun a' w' => ∃ j : Nat, j ≤ y.n ∧ ∃ zs : List Int, (Ms w w' [.row ao y.n co zs, .cell bx y.cs.toArray 33, .cell b11 #[.string (str k2.d), .slice u2 k2.ws.length c2] 63, .any 80 2 u2 k2.ws.length c2 (rcs k2.ws), .disk g k2, .cell b14 #[.string (str (nz z)), .slice none 0 0] 63, .disk gf kf]) ∧ Fr 274 a' ∧ sl a' 1 = .slice ya m yc ∧ sl a' 2 = .int .i64 pa ∧ sl a' 3 = .int .i64 na ∧ sl a' 9 = .pointer (some ⟨g, 0, none⟩) ∧ sl a' 11 = .pointer (some ⟨b11, 0, none⟩) ∧ sl a' 13 = .pointer (some ⟨gf, 0, none⟩) ∧ sl a' 14 = .pointer (some ⟨b14, 0, none⟩) ∧ sl a' 15 = .int .i64 (i : Int) ∧ sl a' 17 = .slice ao y.n co ∧ sl a' 20 = .int .i64 (j : Int)) (fun a' _ => y.n - (numOf (sl a' 20)).toNat) ⟨0, Nat.zero_le _, y.xs, HMJ, hf, h1, h2, h3, h9, h11, h13, h14, h15, h17, h20⟩ ?_
  rintro a_l wp32 ⟨j, hij, zs, HMO, hf, h1, h2, h3, h9, h11, h13, h14, h15, h17, h20⟩
  have hIj := h20
  by_cases hlj : j < y.n
  case neg =>
    refine wp_endX (p32x ya m yc pa na g b11 gf b14 i y ao co wp32 j hlj a_l hf h1 h2 h3 h9 h11 h13 h14 h15 h17 h20) ?_
    rintro a_33 _ ⟨hf, h1, h2, h3, h9, h11, h13, h14, h15, h17, rfl⟩
    exact thru ⟨zs, hf, h1, h2, h3, h9, h11, h13, h14, h15, h17, HMO⟩
  refine wp_sqR (x := cAt [1,1,1,1,1,1,1,0,1,2,2,1,0,2,1,1,1,0,1,2,2,0] KDP) (y := cAt [1,1,1,1,1,1,1,0,1,2,2,1,0,2,1,1,1,0,1,2,2,1] KDP) (by kernel_rfl) (p32c ya m yc pa na g b11 gf b14 i y ao co wp32 j hlj a_l hf h1 h2 h3 h9 h11 h13 h14 h15 h17 h20) ?_
  rintro a_34 _ ⟨hf, h1, h2, h3, h9, h11, h13, h14, h15, h17, h20, rfl⟩
  refine wp_sqR (x := cAt [1,1,1,1,1,1,1,0,1,2,2,1,0,2,1,1,1,0,1,2,2,1,0] KDP) (y := cAt [1,1,1,1,1,1,1,0,1,2,2,1,0,2,1,1,1,0,1,2,2,1,1] KDP) (by kernel_rfl) (R := fun a' w' => ∃ z2 : List Int, (Ms w w' [.row ao y.n co z2, .cell bx y.cs.toArray 33, .cell b11 #[.string (str k2.d), .slice u2 k2.ws.length c2] 63, .any 80 2 u2 k2.ws.length c2 (rcs k2.ws), .disk g k2, .cell b14 #[.string (str (nz z)), .slice none 0 0] 63, .disk gf kf]) ∧ Fr 274 a' ∧ sl a' 1 = .slice ya m yc ∧ sl a' 2 = .int .i64 pa ∧ sl a' 3 = .int .i64 na ∧ sl a' 9 = .pointer (some ⟨g, 0, none⟩) ∧ sl a' 11 = .pointer (some ⟨b11, 0, none⟩) ∧ sl a' 13 = .pointer (some ⟨gf, 0, none⟩) ∧ sl a' 14 = .pointer (some ⟨b14, 0, none⟩) ∧ sl a' 15 = .int .i64 (i : Int) ∧ sl a' 17 = .slice ao y.n co ∧ sl a' 20 = .int .i64 (j : Int)) ?_ ?_
  · refine wp_blockR (x := cAt [1,1,1,1,1,1,1,0,1,2,2,1,0,2,1,1,1,0,1,2,2,1,0,2] KDP) (id := 4) (by kernel_rfl) ?_
    refine wp_endR (p35 w ya m yc pa na z g b11 gf kf b14 i y bx ao co k2 u2 c2 wp32 j zs HMO hlj a_34 hf h1 h2 h3 h9 h11 h13 h14 h15 h17 h20) ?_
    rintro a_35 w35 ⟨z3, hf, h1, h2, h3, h9, h11, h13, h14, h15, h17, h20, HMP⟩
    exact ⟨z3, HMP, hf, h1, h2, h3, h9, h11, h13, h14, h15, h17, h20⟩
  rintro a_36 w35b ⟨z2, HMQ, hf, h1, h2, h3, h9, h11, h13, h14, h15, h17, h20⟩
  refine wp_endR (p32n ya m yc pa na g b11 gf b14 i y hy60 ao co j hlj w35b a_36 hf h1 h2 h3 h9 h11 h13 h14 h15 h17 h20) ?_
  rintro a_37 _ ⟨hf, h1, h2, h3, h9, h11, h13, h14, h15, h17, h20, rfl⟩
  refine ⟨⟨j + 1, hlj, z2, HMQ, hf, h1, h2, h3, h9, h11, h13, h14, h15, h17, h20⟩, ?_⟩
  rw [hIj, h20]
  simp only [numOf]
  omega

set_option maxRecDepth 100000 in
set_option maxHeartbeats 4000000 in
theorem p36i (ya : Option Addr) (m : Nat) (yc : Nat) (pa : Int) (na : Int) (g : Nat) (b11 : Nat) (gf : Nat) (b14 : Nat) (i : Nat) (y : Ac) (ao : Option Addr) (co : Nat) (w36 : World) (a : Act) (hf : Fr 274 a) (h1 : sl a 1 = .slice ya m yc) (h2 : sl a 2 = .int .i64 pa) (h3 : sl a 3 = .int .i64 na) (h9 : sl a 9 = .pointer (some ⟨g, 0, none⟩)) (h11 : sl a 11 = .pointer (some ⟨b11, 0, none⟩)) (h13 : sl a 13 = .pointer (some ⟨gf, 0, none⟩)) (h14 : sl a 14 = .pointer (some ⟨b14, 0, none⟩)) (h15 : sl a 15 = .int .i64 (i : Int)) (h17 : sl a 17 = .slice ao y.n co) :
    Code.wp Try.prog (cAt [1,1,1,1,1,1,1,0,1,2,2,1,0,2,1,1,1,1,0] KDP) (Exit.then (fun a' w' => Fr 274 a' ∧ sl a' 1 = .slice ya m yc ∧ sl a' 2 = .int .i64 pa ∧ sl a' 3 = .int .i64 na ∧ sl a' 9 = .pointer (some ⟨g, 0, none⟩) ∧ sl a' 11 = .pointer (some ⟨b11, 0, none⟩) ∧ sl a' 13 = .pointer (some ⟨gf, 0, none⟩) ∧ sl a' 14 = .pointer (some ⟨b14, 0, none⟩) ∧ sl a' 15 = .int .i64 (i : Int) ∧ sl a' 17 = .slice ao y.n co ∧ sl a' 21 = .int .i64 0 ∧ w36 = w') Nope) a w36 := by
  obtain ⟨f, ha, hs⟩ := frKDP hf
  have e1 := (hs 1).trans h1
  have e2 := (hs 2).trans h2
  have e3 := (hs 3).trans h3
  have e9 := (hs 9).trans h9
  have e11 := (hs 11).trans h11
  have e13 := (hs 13).trans h13
  have e14 := (hs 14).trans h14
  have e15 := (hs 15).trans h15
  have e17 := (hs 17).trans h17
  rw [e1, e2, e3, e9, e11, e13, e14, e15, e17] at ha
  clear hs hf e1 h1 e2 h2 e3 h3 e9 h9 e11 h11 e13 h13 e14 h14 e15 h15 e17 h17
  subst ha
  refine piece2 fun J0 K0 hJ0 hK0 => ?_
  conv => arg 2; whnf
  go_wp2_with fail
  refine Met.intro (hJ0 _ _ ?_)
  exact ⟨⟨rfl, rfl⟩, rfl, rfl, rfl, rfl, rfl, rfl, rfl, rfl, rfl, rfl, rfl⟩

set_option maxRecDepth 100000 in
set_option maxHeartbeats 4000000 in
theorem p36x (ya : Option Addr) (m : Nat) (yc : Nat) (pa : Int) (na : Int) (g : Nat) (b11 : Nat) (gf : Nat) (b14 : Nat) (i : Nat) (y : Ac) (ao : Option Addr) (co : Nat) (wp36 : World) (t : Nat) (hlt : Hid (¬ t < 2)) (a : Act) (hf : Fr 274 a) (h1 : sl a 1 = .slice ya m yc) (h2 : sl a 2 = .int .i64 pa) (h3 : sl a 3 = .int .i64 na) (h9 : sl a 9 = .pointer (some ⟨g, 0, none⟩)) (h11 : sl a 11 = .pointer (some ⟨b11, 0, none⟩)) (h13 : sl a 13 = .pointer (some ⟨gf, 0, none⟩)) (h14 : sl a 14 = .pointer (some ⟨b14, 0, none⟩)) (h15 : sl a 15 = .int .i64 (i : Int)) (h17 : sl a 17 = .slice ao y.n co) (h21 : sl a 21 = .int .i64 (t : Int)) :
    Code.wp Try.prog (cAt [1,1,1,1,1,1,1,0,1,2,2,1,0,2,1,1,1,1,1,2,2] KDP) (Outs 5 (fun a' w' => Fr 274 a' ∧ sl a' 1 = .slice ya m yc ∧ sl a' 2 = .int .i64 pa ∧ sl a' 3 = .int .i64 na ∧ sl a' 9 = .pointer (some ⟨g, 0, none⟩) ∧ sl a' 11 = .pointer (some ⟨b11, 0, none⟩) ∧ sl a' 13 = .pointer (some ⟨gf, 0, none⟩) ∧ sl a' 14 = .pointer (some ⟨b14, 0, none⟩) ∧ sl a' 15 = .int .i64 (i : Int) ∧ sl a' 17 = .slice ao y.n co ∧ wp36 = w')) a wp36 := by
  obtain ⟨f, ha, hs⟩ := frKDP hf
  have e1 := (hs 1).trans h1
  have e2 := (hs 2).trans h2
  have e3 := (hs 3).trans h3
  have e9 := (hs 9).trans h9
  have e11 := (hs 11).trans h11
  have e13 := (hs 13).trans h13
  have e14 := (hs 14).trans h14
  have e15 := (hs 15).trans h15
  have e17 := (hs 17).trans h17
  have e21 := (hs 21).trans h21
  rw [e1, e2, e3, e9, e11, e13, e14, e15, e17, e21] at ha
  clear hs hf e1 h1 e2 h2 e3 h3 e9 h9 e11 h11 e13 h13 e14 h14 e15 h15 e17 h17 e21 h21
  subst ha
  conv => arg 2; whnf
  have hi2 : ¬ (t : Int) < (2 : Int) := by have := hlt.out; omega
  go_wp2_with fail
  exact ⟨rfl, ⟨rfl, rfl⟩, rfl, rfl, rfl, rfl, rfl, rfl, rfl, rfl, rfl, rfl⟩

set_option maxRecDepth 100000 in
set_option maxHeartbeats 4000000 in
theorem p36c (ya : Option Addr) (m : Nat) (yc : Nat) (pa : Int) (na : Int) (g : Nat) (b11 : Nat) (gf : Nat) (b14 : Nat) (i : Nat) (y : Ac) (ao : Option Addr) (co : Nat) (wp36 : World) (t : Nat) (hlt : Hid (t < 2)) (a : Act) (hf : Fr 274 a) (h1 : sl a 1 = .slice ya m yc) (h2 : sl a 2 = .int .i64 pa) (h3 : sl a 3 = .int .i64 na) (h9 : sl a 9 = .pointer (some ⟨g, 0, none⟩)) (h11 : sl a 11 = .pointer (some ⟨b11, 0, none⟩)) (h13 : sl a 13 = .pointer (some ⟨gf, 0, none⟩)) (h14 : sl a 14 = .pointer (some ⟨b14, 0, none⟩)) (h15 : sl a 15 = .int .i64 (i : Int)) (h17 : sl a 17 = .slice ao y.n co) (h21 : sl a 21 = .int .i64 (t : Int)) :
    Code.wp Try.prog (cAt [1,1,1,1,1,1,1,0,1,2,2,1,0,2,1,1,1,1,1,2,2,0] KDP) (Exit.then (fun a' w' => Fr 274 a' ∧ sl a' 1 = .slice ya m yc ∧ sl a' 2 = .int .i64 pa ∧ sl a' 3 = .int .i64 na ∧ sl a' 9 = .pointer (some ⟨g, 0, none⟩) ∧ sl a' 11 = .pointer (some ⟨b11, 0, none⟩) ∧ sl a' 13 = .pointer (some ⟨gf, 0, none⟩) ∧ sl a' 14 = .pointer (some ⟨b14, 0, none⟩) ∧ sl a' 15 = .int .i64 (i : Int) ∧ sl a' 17 = .slice ao y.n co ∧ sl a' 21 = .int .i64 (t : Int) ∧ wp36 = w') Nope) a wp36 := by
  obtain ⟨f, ha, hs⟩ := frKDP hf
  have e1 := (hs 1).trans h1
  have e2 := (hs 2).trans h2
  have e3 := (hs 3).trans h3
  have e9 := (hs 9).trans h9
  have e11 := (hs 11).trans h11
  have e13 := (hs 13).trans h13
  have e14 := (hs 14).trans h14
  have e15 := (hs 15).trans h15
  have e17 := (hs 17).trans h17
  have e21 := (hs 21).trans h21
  rw [e1, e2, e3, e9, e11, e13, e14, e15, e17, e21] at ha
  clear hs hf e1 h1 e2 h2 e3 h3 e9 h9 e11 h11 e13 h13 e14 h14 e15 h15 e17 h17 e21 h21
  subst ha
  refine piece2 fun J0 K0 hJ0 hK0 => ?_
  conv => arg 2; whnf
  have hi2 : (t : Int) < (2 : Int) := by have := hlt.out; omega
  go_wp2_with fail
  refine Met.intro (hJ0 _ _ ?_)
  exact ⟨⟨rfl, rfl⟩, rfl, rfl, rfl, rfl, rfl, rfl, rfl, rfl, rfl, rfl, rfl⟩

set_option maxRecDepth 100000 in
set_option maxHeartbeats 4000000 in
theorem p39 (w : World) (ya : Option Addr) (m : Nat) (yc : Nat) (pa : Int) (na : Int) (HIP : Hid (I64 pa)) (z : Nat) (g : Nat) (b11 : Nat) (gf : Nat) (kf : Dk) (b14 : Nat) (i : Nat) (y : Ac) (bx : Nat) (ao : Option Addr) (co : Nat) (k2 : Dk) (u2 : Option Addr) (c2 : Nat) (zs : List Int) (xs1 : List Int) (hx1 : Hid (rdV (nowP k2.d k2.ws) k2.d pa na = xs1)) (wp36 : World) (t : Nat) (HMT : Hid (Ms w wp36 [.row ao y.n co zs, .cell bx y.cs.toArray 33, .cell b11 #[.string (str k2.d), .slice u2 k2.ws.length c2] 63, .any 80 2 u2 k2.ws.length c2 (rcs k2.ws), .disk g k2, .cell b14 #[.string (str (nz z)), .slice none 0 0] 63, .disk gf kf])) (a : Act) (hf : Fr 274 a) (h1 : sl a 1 = .slice ya m yc) (h2 : sl a 2 = .int .i64 pa) (h3 : sl a 3 = .int .i64 na) (h9 : sl a 9 = .pointer (some ⟨g, 0, none⟩)) (h11 : sl a 11 = .pointer (some ⟨b11, 0, none⟩)) (h13 : sl a 13 = .pointer (some ⟨gf, 0, none⟩)) (h14 : sl a 14 = .pointer (some ⟨b14, 0, none⟩)) (h15 : sl a 15 = .int .i64 (i : Int)) (h17 : sl a 17 = .slice ao y.n co) (h21 : sl a 21 = .int .i64 (t : Int)) :
    Code.wp Try.prog (cAt [1,1,1,1,1,1,1,0,1,2,2,1,0,2,1,1,1,1,1,2,2,1,0,2,0] KDP) (Exit.then (fun a' w' => ∃ a1 : Option Addr, ∃ n1 : Nat, ∃ c1 : Nat, Fr 274 a' ∧ sl a' 1 = .slice ya m yc ∧ sl a' 2 = .int .i64 pa ∧ sl a' 3 = .int .i64 na ∧ sl a' 9 = .pointer (some ⟨g, 0, none⟩) ∧ sl a' 11 = .pointer (some ⟨b11, 0, none⟩) ∧ sl a' 13 = .pointer (some ⟨gf, 0, none⟩) ∧ sl a' 14 = .pointer (some ⟨b14, 0, none⟩) ∧ sl a' 15 = .int .i64 (i : Int) ∧ sl a' 17 = .slice ao y.n co ∧ sl a' 21 = .int .i64 (t : Int) ∧ sl a' 22 = .slice a1 n1 c1 ∧ sl a' 23 = .int .i64 (rcV k2.d pa na) ∧ Ms w w' [.row a1 n1 c1 xs1, .disk g k2, .row ao y.n co zs, .cell bx y.cs.toArray 33, .cell b11 #[.string (str k2.d), .slice u2 k2.ws.length c2] 63, .any 80 2 u2 k2.ws.length c2 (rcs k2.ws), .cell b14 #[.string (str (nz z)), .slice none 0 0] 63, .disk gf kf]) Nope) a wp36 := by
  obtain ⟨f, ha, hs⟩ := frKDP hf
  have e1 := (hs 1).trans h1
  have e2 := (hs 2).trans h2
  have e3 := (hs 3).trans h3
  have e9 := (hs 9).trans h9
  have e11 := (hs 11).trans h11
  have e13 := (hs 13).trans h13
  have e14 := (hs 14).trans h14
  have e15 := (hs 15).trans h15
  have e17 := (hs 17).trans h17
  have e21 := (hs 21).trans h21
  rw [e1, e2, e3, e9, e11, e13, e14, e15, e17, e21] at ha
  clear hs hf e1 h1 e2 h2 e3 h3 e9 h9 e11 h11 e13 h13 e14 h14 e15 h15 e17 h17 e21 h21
  subst ha
  refine piece2 fun J0 K0 hJ0 hK0 => ?_
  conv => arg 2; whnf
  have HM : Hid (Ms w wp36 [.disk g k2, .row ao y.n co zs, .cell bx y.cs.toArray 33, .cell b11 #[.string (str k2.d), .slice u2 k2.ws.length c2] 63, .any 80 2 u2 k2.ws.length c2 (rcs k2.ws), .cell b14 #[.string (str (nz z)), .slice none 0 0] 63, .disk gf kf]) := (Ms.perm HMT.out ((((List.Perm.cons _ (List.Perm.cons _ (List.Perm.cons _ (List.Perm.swap _ _ _)))).trans (List.Perm.cons _ (List.Perm.cons _ (List.Perm.swap _ _ _)))).trans (List.Perm.cons _ (List.Perm.swap _ _ _))).trans (List.Perm.swap _ _ _)))
  go_wp2_with fail
  refine (dkRead_uni w.heap.size g k2 pa na _ HM.out.hd HIP.out).mono ?_
  rintro e wz ⟨a, n, cc, rfl, ho, hb⟩
  rw [hx1.out] at ho
  have H : Hid (Ms w wz (.row a n cc xs1 :: [.disk g k2, .row ao y.n co zs, .cell bx y.cs.toArray 33, .cell b11 #[.string (str k2.d), .slice u2 k2.ws.length c2] 63, .any 80 2 u2 k2.ws.length c2 (rcs k2.ws), .cell b14 #[.string (str (nz z)), .slice none 0 0] 63, .disk gf kf])) := HM.out.add (t := .row a n cc xs1) hb ho
  clear ho hb
  obtain ⟨rc, hrc⟩ : ∃ rc, rcV k2.d pa na = rc := ⟨_, rfl⟩
  rw [hrc] at hJ0 ⊢
  clear hrc
  go_wp2_with fail
  refine Met.intro (hJ0 _ _ ?_)
  exact ⟨a, n, cc, ⟨rfl, rfl⟩, rfl, rfl, rfl, rfl, rfl, rfl, rfl, rfl, rfl, rfl, rfl, rfl, H.out⟩

set_option maxRecDepth 100000 in
set_option maxHeartbeats 4000000 in
theorem p40 (w : World) (ya : Option Addr) (m : Nat) (yc : Nat) (pa : Int) (na : Int) (HIP : Hid (I64 pa)) (z : Nat) (g : Nat) (b11 : Nat) (gf : Nat) (kf : Dk) (b14 : Nat) (i : Nat) (y : Ac) (bx : Nat) (ao : Option Addr) (co : Nat) (k2 : Dk) (u2 : Option Addr) (c2 : Nat) (zs : List Int) (xs1 : List Int) (hx1 : Hid (rdV (nowP k2.d k2.ws) k2.d pa na = xs1)) (HPL2 : Hid (PlOk k2.d k2.ws)) (t : Nat) (w39 : World) (a1 : Option Addr) (n1 : Nat) (c1 : Nat) (Hw39 : Hid (Ms w w39 [.row a1 n1 c1 xs1, .disk g k2, .row ao y.n co zs, .cell bx y.cs.toArray 33, .cell b11 #[.string (str k2.d), .slice u2 k2.ws.length c2] 63, .any 80 2 u2 k2.ws.length c2 (rcs k2.ws), .cell b14 #[.string (str (nz z)), .slice none 0 0] 63, .disk gf kf])) (a : Act) (hf : Fr 274 a) (h1 : sl a 1 = .slice ya m yc) (h2 : sl a 2 = .int .i64 pa) (h3 : sl a 3 = .int .i64 na) (h9 : sl a 9 = .pointer (some ⟨g, 0, none⟩)) (h11 : sl a 11 = .pointer (some ⟨b11, 0, none⟩)) (h13 : sl a 13 = .pointer (some ⟨gf, 0, none⟩)) (h14 : sl a 14 = .pointer (some ⟨b14, 0, none⟩)) (h15 : sl a 15 = .int .i64 (i : Int)) (h17 : sl a 17 = .slice ao y.n co) (h21 : sl a 21 = .int .i64 (t : Int)) (h22 : sl a 22 = .slice a1 n1 c1) (h23 : sl a 23 = .int .i64 (rcV k2.d pa na)) :
    Code.wp Try.prog (cAt [1,1,1,1,1,1,1,0,1,2,2,1,0,2,1,1,1,1,1,2,2,1,0,2,1,0] KDP) (Exit.then (fun a' w' => ∃ a2 : Option Addr, ∃ n2 : Nat, ∃ c2b : Nat, Fr 274 a' ∧ sl a' 1 = .slice ya m yc ∧ sl a' 2 = .int .i64 pa ∧ sl a' 3 = .int .i64 na ∧ sl a' 9 = .pointer (some ⟨g, 0, none⟩) ∧ sl a' 11 = .pointer (some ⟨b11, 0, none⟩) ∧ sl a' 13 = .pointer (some ⟨gf, 0, none⟩) ∧ sl a' 14 = .pointer (some ⟨b14, 0, none⟩) ∧ sl a' 15 = .int .i64 (i : Int) ∧ sl a' 17 = .slice ao y.n co ∧ sl a' 21 = .int .i64 (t : Int) ∧ sl a' 22 = .slice a1 n1 c1 ∧ sl a' 23 = .int .i64 (rcV k2.d pa na) ∧ sl a' 24 = .slice a2 n2 c2b ∧ sl a' 25 = .int .i64 (rcV k2.d pa na) ∧ Ms w w' [.row a2 n2 c2b xs1, .row a1 n1 c1 xs1, .disk g k2, .row ao y.n co zs, .cell bx y.cs.toArray 33, .cell b11 #[.string (str k2.d), .slice u2 k2.ws.length c2] 63, .any 80 2 u2 k2.ws.length c2 (rcs k2.ws), .cell b14 #[.string (str (nz z)), .slice none 0 0] 63, .disk gf kf]) Nope) a w39 := by
  obtain ⟨f, ha, hs⟩ := frKDP hf
  have e1 := (hs 1).trans h1
  have e2 := (hs 2).trans h2
  have e3 := (hs 3).trans h3
  have e9 := (hs 9).trans h9
  have e11 := (hs 11).trans h11
  have e13 := (hs 13).trans h13
  have e14 := (hs 14).trans h14
  have e15 := (hs 15).trans h15
  have e17 := (hs 17).trans h17
  have e21 := (hs 21).trans h21
  have e22 := (hs 22).trans h22
  have e23 := (hs 23).trans h23
  rw [e1, e2, e3, e9, e11, e13, e14, e15, e17, e21, e22, e23] at ha
  clear hs hf e1 h1 e2 h2 e3 h3 e9 h9 e11 h11 e13 h13 e14 h14 e15 h15 e17 h17 e21 h21 e22 h22 e23 h23
  subst ha
  refine piece2 fun J0 K0 hJ0 hK0 => ?_
  conv => arg 2; whnf
  have HM : Hid (Ms w w39.drew [.row a1 n1 c1 xs1, .disk g k2, .row ao y.n co zs, .cell bx y.cs.toArray 33, .cell b11 #[.string (str k2.d), .slice u2 k2.ws.length c2] 63, .any 80 2 u2 k2.ws.length c2 (rcs k2.ws), .cell b14 #[.string (str (nz z)), .slice none 0 0] 63, .disk gf kf]) := Hw39.out.past (Below.refl _ _).drew
  go_wp2_with fail
  refine wp_region_held_drew (S := fun w' => w'.heap[b11]? = some (.cells #[.string (str k2.d), .slice u2 k2.ws.length c2] 63 (0, 0))) (by kernel_rfl) (cell_ok (HM.out.ok (.cell b11 #[.string (str k2.d), .slice u2 k2.ws.length c2] 63) (by simp))) (fun hS => ?_)
  refine tk 0 157 (.agg #[.string (str k2.d), .slice u2 k2.ws.length c2]) rfl rfl (by kernel_rfl) (by kernel_rfl) (by kernel_rfl) (fun _ _ _ h => h) (Or.inl ⟨by rfl, fun w' h' => ?_⟩) hS ?_
  · have x0 := two0 h'
    have x1 := two1 h'
    go_simp
  try simp only [Act.put, List.setIfInBounds_toArray, List.set_cons_zero, List.set_cons_succ]
  refine tk 1 158 (.agg #[.string (str k2.d), .slice u2 k2.ws.length c2]) rfl rfl (by kernel_rfl) (by kernel_rfl) (by kernel_rfl) (fun _ _ _ h => h) (Or.inl ⟨by rfl, fun w' h' => ?_⟩) hS ?_
  · have x0 := two0 h'
    have x1 := two1 h'
    go_simp
  try simp only [Act.put, List.setIfInBounds_toArray, List.set_cons_zero, List.set_cons_succ]
  refine tk 3 160 (.int .i64 pa) rfl rfl (by kernel_rfl) (by kernel_rfl) (by kernel_rfl) (fun _ _ _ h => h) (Or.inl ⟨by rfl, fun w' h' => ?_⟩) hS ?_
  · go_simp
  try simp only [Act.put, List.setIfInBounds_toArray, List.set_cons_zero, List.set_cons_succ]
  refine tk 4 161 (.int .i64 na) rfl rfl (by kernel_rfl) (by kernel_rfl) (by kernel_rfl) (fun _ _ _ h => h) (Or.inl ⟨by rfl, fun w' h' => ?_⟩) hS ?_
  · go_simp
  try simp only [Act.put, List.setIfInBounds_toArray, List.set_cons_zero, List.set_cons_succ]
  refine wpAnyH_ready (rs := [2]) (by kernel_rfl) (by simp) (AllReadyH.cons rfl (fun K hK => ?_) AllReadyH.nil)
  rw [if_pos (by rfl)]
  go_wp2_with fail
  refine (show Calls Try.prog 36 #[.agg #[.string (str k2.d), .slice u2 k2.ws.length c2]] w39.drew _ from now_any ⟨k2.d, u2, c2, k2.ws⟩ w39.drew (Rk.own.lies (r := ⟨k2.d, u2, c2, k2.ws⟩) (HM.out.ok (.any 80 2 u2 k2.ws.length c2 (rcs k2.ws)) (by simp))) HPL2.out).mono ?_
  rintro e wn ⟨rfl, hb⟩
  have HM2 : Hid (Ms w wn [.row a1 n1 c1 xs1, .disk g k2, .row ao y.n co zs, .cell bx y.cs.toArray 33, .cell b11 #[.string (str k2.d), .slice u2 k2.ws.length c2] 63, .any 80 2 u2 k2.ws.length c2 (rcs k2.ws), .cell b14 #[.string (str (nz z)), .slice none 0 0] 63, .disk gf kf]) := HM.out.past hb
  clear hb
  clear hS
  refine hK.out _ _ ((cell_ok (HM2.out.ok (.cell b11 #[.string (str k2.d), .slice u2 k2.ws.length c2] 63) (by simp)))) (fun hS => ?_)
  clear hK K
  try simp only [List.set_cons_succ]
  refine wpAnyH_ready (rs := [5]) (by kernel_rfl) (by simp) (AllReadyH.cons rfl (fun K hK => ?_) AllReadyH.nil)
  rw [if_pos (by rfl)]
  go_wp2_with fail
  refine (show Calls Try.prog 35 #[.agg #[.string (str k2.d), .slice u2 k2.ws.length c2], .string (str (nowP k2.d k2.ws)), .int .i64 pa, .int .i64 na] wn _ from part_uni ⟨k2.d, u2, c2, k2.ws⟩ (nowP k2.d k2.ws) pa na wn HIP.out HPL2.out.few (nowP_len _ _) (Dm.now_byt (HM2.out.ok (.disk g k2) (by simp)))).mono ?_
  rintro e wz ⟨a, n, cc, rfl, ho, hb⟩
  have ho : Own wz wn.heap.size a n cc (rdV (nowP k2.d k2.ws) k2.d pa na) := ho
  rw [hx1.out] at ho
  have H : Hid (Ms w wz (.row a n cc xs1 :: [.row a1 n1 c1 xs1, .disk g k2, .row ao y.n co zs, .cell bx y.cs.toArray 33, .cell b11 #[.string (str k2.d), .slice u2 k2.ws.length c2] 63, .any 80 2 u2 k2.ws.length c2 (rcs k2.ws), .cell b14 #[.string (str (nz z)), .slice none 0 0] 63, .disk gf kf])) := HM2.out.add (t := .row a n cc xs1) hb ho
  clear ho hb
  clear hS
  refine hK.out _ _ ((cell_ok (H.out.ok (.cell b11 #[.string (str k2.d), .slice u2 k2.ws.length c2] 63) (by simp)))) (fun hS => ?_)
  clear hK K
  try simp only [List.set_cons_succ]
  refine tk 6 156 (.tuple #[.slice a n cc, .int .i64 (rcV k2.d pa na)]) rfl rfl (by kernel_rfl) (by kernel_rfl) (by kernel_rfl) (fun _ _ _ h => h) (Or.inl ⟨by rfl, fun w' h' => ?_⟩) hS ?_
  · go_simp
  try simp only [Act.put, List.setIfInBounds_toArray, List.set_cons_zero, List.set_cons_succ]
  refine tk 7 163 (.slice a n cc) rfl rfl (by kernel_rfl) (by kernel_rfl) (by kernel_rfl) (fun _ _ _ h => h) (Or.inl ⟨by rfl, fun w' h' => ?_⟩) hS ?_
  · go_simp
  try simp only [Act.put, List.setIfInBounds_toArray, List.set_cons_zero, List.set_cons_succ]
  refine tk 8 164 (.int .i64 (rcV k2.d pa na)) rfl rfl (by kernel_rfl) (by kernel_rfl) (by kernel_rfl) (fun _ _ _ h => h) (Or.inl ⟨by rfl, fun w' h' => ?_⟩) hS ?_
  · go_simp
  try simp only [Act.put, List.setIfInBounds_toArray, List.set_cons_zero, List.set_cons_succ]
  refine tk 9 24 (.slice a n cc) rfl rfl (by kernel_rfl) (by kernel_rfl) (by kernel_rfl) (fun _ _ _ h => h) (Or.inl ⟨by rfl, fun w' h' => ?_⟩) hS ?_
  · go_simp
  try simp only [Act.put, List.setIfInBounds_toArray, List.set_cons_zero, List.set_cons_succ]
  refine tk 10 25 (.int .i64 (rcV k2.d pa na)) rfl rfl (by kernel_rfl) (by kernel_rfl) (by kernel_rfl) (fun _ _ _ h => h) (Or.inl ⟨by rfl, fun w' h' => ?_⟩) hS ?_
  · go_simp
  refine wpAnyH_done (by kernel_rfl) ?_ _
  go_wp2_with fail
  refine Met.intro (hJ0 _ _ ?_)
  exact ⟨a, n, cc, ⟨rfl, rfl⟩, rfl, rfl, rfl, rfl, rfl, rfl, rfl, rfl, rfl, rfl, rfl, rfl, rfl, rfl, H.out⟩

set_option maxRecDepth 100000 in
set_option maxHeartbeats 4000000 in
theorem p41 (w : World) (ya : Option Addr) (m : Nat) (yc : Nat) (pa : Int) (na : Int) (HIP : Hid (I64 pa)) (z : Nat) (g : Nat) (b11 : Nat) (gf : Nat) (kf : Dk) (b14 : Nat) (i : Nat) (y : Ac) (bx : Nat) (ao : Option Addr) (co : Nat) (k2 : Dk) (u2 : Option Addr) (c2 : Nat) (zs : List Int) (xs1 : List Int) (xs2 : List Int) (hx2 : Hid (rdV k2.d k2.d pa na = xs2)) (t : Nat) (a1 : Option Addr) (n1 : Nat) (c1 : Nat) (w40 : World) (a2 : Option Addr) (n2 : Nat) (c2b : Nat) (Hw40 : Hid (Ms w w40 [.row a2 n2 c2b xs1, .row a1 n1 c1 xs1, .disk g k2, .row ao y.n co zs, .cell bx y.cs.toArray 33, .cell b11 #[.string (str k2.d), .slice u2 k2.ws.length c2] 63, .any 80 2 u2 k2.ws.length c2 (rcs k2.ws), .cell b14 #[.string (str (nz z)), .slice none 0 0] 63, .disk gf kf])) (a : Act) (hf : Fr 274 a) (h1 : sl a 1 = .slice ya m yc) (h2 : sl a 2 = .int .i64 pa) (h3 : sl a 3 = .int .i64 na) (h9 : sl a 9 = .pointer (some ⟨g, 0, none⟩)) (h11 : sl a 11 = .pointer (some ⟨b11, 0, none⟩)) (h13 : sl a 13 = .pointer (some ⟨gf, 0, none⟩)) (h14 : sl a 14 = .pointer (some ⟨b14, 0, none⟩)) (h15 : sl a 15 = .int .i64 (i : Int)) (h17 : sl a 17 = .slice ao y.n co) (h21 : sl a 21 = .int .i64 (t : Int)) (h22 : sl a 22 = .slice a1 n1 c1) (h23 : sl a 23 = .int .i64 (rcV k2.d pa na)) (h24 : sl a 24 = .slice a2 n2 c2b) (h25 : sl a 25 = .int .i64 (rcV k2.d pa na)) :
    Code.wp Try.prog (cAt [1,1,1,1,1,1,1,0,1,2,2,1,0,2,1,1,1,1,1,2,2,1,0,2,1,1,0] KDP) (Exit.then (fun a' w' => ∃ a3 : Option Addr, ∃ n3 : Nat, ∃ c3 : Nat, Fr 274 a' ∧ sl a' 1 = .slice ya m yc ∧ sl a' 2 = .int .i64 pa ∧ sl a' 3 = .int .i64 na ∧ sl a' 9 = .pointer (some ⟨g, 0, none⟩) ∧ sl a' 11 = .pointer (some ⟨b11, 0, none⟩) ∧ sl a' 13 = .pointer (some ⟨gf, 0, none⟩) ∧ sl a' 14 = .pointer (some ⟨b14, 0, none⟩) ∧ sl a' 15 = .int .i64 (i : Int) ∧ sl a' 17 = .slice ao y.n co ∧ sl a' 21 = .int .i64 (t : Int) ∧ sl a' 22 = .slice a1 n1 c1 ∧ sl a' 23 = .int .i64 (rcV k2.d pa na) ∧ sl a' 24 = .slice a2 n2 c2b ∧ sl a' 25 = .int .i64 (rcV k2.d pa na) ∧ sl a' 26 = .slice a3 n3 c3 ∧ sl a' 27 = .int .i64 (rcV k2.d pa na) ∧ Ms w w' [.row a3 n3 c3 xs2, .disk g k2, .row a2 n2 c2b xs1, .row a1 n1 c1 xs1, .row ao y.n co zs, .cell bx y.cs.toArray 33, .cell b11 #[.string (str k2.d), .slice u2 k2.ws.length c2] 63, .any 80 2 u2 k2.ws.length c2 (rcs k2.ws), .cell b14 #[.string (str (nz z)), .slice none 0 0] 63, .disk gf kf]) Nope) a w40 := by
  obtain ⟨f, ha, hs⟩ := frKDP hf
  have e1 := (hs 1).trans h1
  have e2 := (hs 2).trans h2
  have e3 := (hs 3).trans h3
  have e9 := (hs 9).trans h9
  have e11 := (hs 11).trans h11
  have e13 := (hs 13).trans h13
  have e14 := (hs 14).trans h14
  have e15 := (hs 15).trans h15
  have e17 := (hs 17).trans h17
  have e21 := (hs 21).trans h21
  have e22 := (hs 22).trans h22
  have e23 := (hs 23).trans h23
  have e24 := (hs 24).trans h24
  have e25 := (hs 25).trans h25
  rw [e1, e2, e3, e9, e11, e13, e14, e15, e17, e21, e22, e23, e24, e25] at ha
  clear hs hf e1 h1 e2 h2 e3 h3 e9 h9 e11 h11 e13 h13 e14 h14 e15 h15 e17 h17 e21 h21 e22 h22 e23 h23 e24 h24 e25 h25
  subst ha
  refine piece2 fun J0 K0 hJ0 hK0 => ?_
  conv => arg 2; whnf
  have HM : Hid (Ms w w40 [.disk g k2, .row a2 n2 c2b xs1, .row a1 n1 c1 xs1, .row ao y.n co zs, .cell bx y.cs.toArray 33, .cell b11 #[.string (str k2.d), .slice u2 k2.ws.length c2] 63, .any 80 2 u2 k2.ws.length c2 (rcs k2.ws), .cell b14 #[.string (str (nz z)), .slice none 0 0] 63, .disk gf kf]) := (Ms.perm Hw40.out ((List.Perm.cons _ (List.Perm.swap _ _ _)).trans (List.Perm.swap _ _ _)))
  go_wp2_with fail
  refine (dkDurable_uni w.heap.size g k2 pa na _ HM.out.hd HIP.out).mono ?_
  rintro e wz ⟨a, n, cc, rfl, ho, hb⟩
  rw [hx2.out] at ho
  have H : Hid (Ms w wz (.row a n cc xs2 :: [.disk g k2, .row a2 n2 c2b xs1, .row a1 n1 c1 xs1, .row ao y.n co zs, .cell bx y.cs.toArray 33, .cell b11 #[.string (str k2.d), .slice u2 k2.ws.length c2] 63, .any 80 2 u2 k2.ws.length c2 (rcs k2.ws), .cell b14 #[.string (str (nz z)), .slice none 0 0] 63, .disk gf kf])) := HM.out.add (t := .row a n cc xs2) hb ho
  clear ho hb
  obtain ⟨rc, hrc⟩ : ∃ rc, rcV k2.d pa na = rc := ⟨_, rfl⟩
  rw [hrc] at hJ0 ⊢
  clear hrc
  go_wp2_with fail
  refine Met.intro (hJ0 _ _ ?_)
  exact ⟨a, n, cc, ⟨rfl, rfl⟩, rfl, rfl, rfl, rfl, rfl, rfl, rfl, rfl, rfl, rfl, rfl, rfl, rfl, rfl, rfl, rfl, H.out⟩

set_option maxRecDepth 100000 in
set_option maxHeartbeats 4000000 in
theorem p42 (w : World) (ya : Option Addr) (m : Nat) (yc : Nat) (pa : Int) (na : Int) (HIP : Hid (I64 pa)) (z : Nat) (g : Nat) (b11 : Nat) (gf : Nat) (kf : Dk) (b14 : Nat) (i : Nat) (y : Ac) (bx : Nat) (ao : Option Addr) (co : Nat) (k2 : Dk) (u2 : Option Addr) (c2 : Nat) (zs : List Int) (xs1 : List Int) (xs2 : List Int) (hx2 : Hid (rdV k2.d k2.d pa na = xs2)) (HPL2 : Hid (PlOk k2.d k2.ws)) (t : Nat) (a1 : Option Addr) (n1 : Nat) (c1 : Nat) (a2 : Option Addr) (n2 : Nat) (c2b : Nat) (w41 : World) (a3 : Option Addr) (n3 : Nat) (c3 : Nat) (Hw41 : Hid (Ms w w41 [.row a3 n3 c3 xs2, .disk g k2, .row a2 n2 c2b xs1, .row a1 n1 c1 xs1, .row ao y.n co zs, .cell bx y.cs.toArray 33, .cell b11 #[.string (str k2.d), .slice u2 k2.ws.length c2] 63, .any 80 2 u2 k2.ws.length c2 (rcs k2.ws), .cell b14 #[.string (str (nz z)), .slice none 0 0] 63, .disk gf kf])) (a : Act) (hf : Fr 274 a) (h1 : sl a 1 = .slice ya m yc) (h2 : sl a 2 = .int .i64 pa) (h3 : sl a 3 = .int .i64 na) (h9 : sl a 9 = .pointer (some ⟨g, 0, none⟩)) (h11 : sl a 11 = .pointer (some ⟨b11, 0, none⟩)) (h13 : sl a 13 = .pointer (some ⟨gf, 0, none⟩)) (h14 : sl a 14 = .pointer (some ⟨b14, 0, none⟩)) (h15 : sl a 15 = .int .i64 (i : Int)) (h17 : sl a 17 = .slice ao y.n co) (h21 : sl a 21 = .int .i64 (t : Int)) (h22 : sl a 22 = .slice a1 n1 c1) (h23 : sl a 23 = .int .i64 (rcV k2.d pa na)) (h24 : sl a 24 = .slice a2 n2 c2b) (h25 : sl a 25 = .int .i64 (rcV k2.d pa na)) (h26 : sl a 26 = .slice a3 n3 c3) (h27 : sl a 27 = .int .i64 (rcV k2.d pa na)) :
    Code.wp Try.prog (cAt [1,1,1,1,1,1,1,0,1,2,2,1,0,2,1,1,1,1,1,2,2,1,0,2,1,1,1,0] KDP) (Exit.then (fun a' w' => ∃ a4 : Option Addr, ∃ n4 : Nat, ∃ c4 : Nat, Fr 274 a' ∧ sl a' 1 = .slice ya m yc ∧ sl a' 2 = .int .i64 pa ∧ sl a' 3 = .int .i64 na ∧ sl a' 9 = .pointer (some ⟨g, 0, none⟩) ∧ sl a' 11 = .pointer (some ⟨b11, 0, none⟩) ∧ sl a' 13 = .pointer (some ⟨gf, 0, none⟩) ∧ sl a' 14 = .pointer (some ⟨b14, 0, none⟩) ∧ sl a' 15 = .int .i64 (i : Int) ∧ sl a' 17 = .slice ao y.n co ∧ sl a' 21 = .int .i64 (t : Int) ∧ sl a' 22 = .slice a1 n1 c1 ∧ sl a' 23 = .int .i64 (rcV k2.d pa na) ∧ sl a' 24 = .slice a2 n2 c2b ∧ sl a' 25 = .int .i64 (rcV k2.d pa na) ∧ sl a' 26 = .slice a3 n3 c3 ∧ sl a' 27 = .int .i64 (rcV k2.d pa na) ∧ sl a' 28 = .slice a4 n4 c4 ∧ sl a' 29 = .int .i64 (rcV k2.d pa na) ∧ Ms w w' [.row a4 n4 c4 xs2, .row a3 n3 c3 xs2, .disk g k2, .row a2 n2 c2b xs1, .row a1 n1 c1 xs1, .row ao y.n co zs, .cell bx y.cs.toArray 33, .cell b11 #[.string (str k2.d), .slice u2 k2.ws.length c2] 63, .any 80 2 u2 k2.ws.length c2 (rcs k2.ws), .cell b14 #[.string (str (nz z)), .slice none 0 0] 63, .disk gf kf]) Nope) a w41 := by
  obtain ⟨f, ha, hs⟩ := frKDP hf
  have e1 := (hs 1).trans h1
  have e2 := (hs 2).trans h2
  have e3 := (hs 3).trans h3
  have e9 := (hs 9).trans h9
  have e11 := (hs 11).trans h11
  have e13 := (hs 13).trans h13
  have e14 := (hs 14).trans h14
  have e15 := (hs 15).trans h15
  have e17 := (hs 17).trans h17
  have e21 := (hs 21).trans h21
  have e22 := (hs 22).trans h22
  have e23 := (hs 23).trans h23
  have e24 := (hs 24).trans h24
  have e25 := (hs 25).trans h25
  have e26 := (hs 26).trans h26
  have e27 := (hs 27).trans h27
  rw [e1, e2, e3, e9, e11, e13, e14, e15, e17, e21, e22, e23, e24, e25, e26, e27] at ha
  clear hs hf e1 h1 e2 h2 e3 h3 e9 h9 e11 h11 e13 h13 e14 h14 e15 h15 e17 h17 e21 h21 e22 h22 e23 h23 e24 h24 e25 h25 e26 h26 e27 h27
  subst ha
  refine piece2 fun J0 K0 hJ0 hK0 => ?_
  conv => arg 2; whnf
  have HM : Hid (Ms w w41 [.row a3 n3 c3 xs2, .disk g k2, .row a2 n2 c2b xs1, .row a1 n1 c1 xs1, .row ao y.n co zs, .cell bx y.cs.toArray 33, .cell b11 #[.string (str k2.d), .slice u2 k2.ws.length c2] 63, .any 80 2 u2 k2.ws.length c2 (rcs k2.ws), .cell b14 #[.string (str (nz z)), .slice none 0 0] 63, .disk gf kf]) := Hw41.out
  have x0 := two0 (cell_ok (HM.out.ok (.cell b11 #[.string (str k2.d), .slice u2 k2.ws.length c2] 63) (by simp)))
  have x1 := two1 (cell_ok (HM.out.ok (.cell b11 #[.string (str k2.d), .slice u2 k2.ws.length c2] 63) (by simp)))
  have HX2 : Hid (rdV k2.d (Rk.d ⟨k2.d, u2, c2, k2.ws⟩) pa na = xs2) := hx2.out
  have HRD : Hid (rcV (Rk.d ⟨k2.d, u2, c2, k2.ws⟩) pa na = rcV k2.d pa na) := rfl
  go_wp2_with fail
  refine (show Calls Try.prog 35 #[.agg #[.string (str k2.d), .slice u2 k2.ws.length c2], .string (str k2.d), .int .i64 pa, .int .i64 na] w41 _ from part_uni ⟨k2.d, u2, c2, k2.ws⟩ k2.d pa na w41 HIP.out HPL2.out.few rfl HPL2.out.byt).mono ?_
  rintro e wz ⟨a, n, cc, rfl, ho, hb⟩
  rw [HX2.out] at ho
  have H : Hid (Ms w wz (.row a n cc xs2 :: [.row a3 n3 c3 xs2, .disk g k2, .row a2 n2 c2b xs1, .row a1 n1 c1 xs1, .row ao y.n co zs, .cell bx y.cs.toArray 33, .cell b11 #[.string (str k2.d), .slice u2 k2.ws.length c2] 63, .any 80 2 u2 k2.ws.length c2 (rcs k2.ws), .cell b14 #[.string (str (nz z)), .slice none 0 0] 63, .disk gf kf])) := HM.out.add (t := .row a n cc xs2) hb ho
  clear ho hb
  obtain ⟨rc, hrc⟩ : ∃ rc, rcV k2.d pa na = rc := ⟨_, rfl⟩
  rw [hrc] at hJ0 ⊢
  clear hrc
  go_wp2_with fail
  refine Met.intro (hJ0 _ _ ?_)
  exact ⟨a, n, cc, ⟨rfl, rfl⟩, rfl, rfl, rfl, rfl, rfl, rfl, rfl, rfl, rfl, rfl, rfl, rfl, rfl, rfl, rfl, rfl, rfl, rfl, H.out⟩

set_option maxRecDepth 100000 in
set_option maxHeartbeats 4000000 in
theorem p43 (w : World) (ya : Option Addr) (m : Nat) (yc : Nat) (pa : Int) (na : Int) (z : Nat) (g : Nat) (b11 : Nat) (gf : Nat) (kf : Dk) (b14 : Nat) (i : Nat) (y : Ac) (bx : Nat) (ao : Option Addr) (co : Nat) (k2 : Dk) (u2 : Option Addr) (c2 : Nat) (zs : List Int) (xs1 : List Int) (xs2 : List Int) (HPL2 : Hid (PlOk k2.d k2.ws)) (t : Nat) (a1 : Option Addr) (n1 : Nat) (c1 : Nat) (a2 : Option Addr) (n2 : Nat) (c2b : Nat) (a3 : Option Addr) (n3 : Nat) (c3 : Nat) (w42 : World) (a4 : Option Addr) (n4 : Nat) (c4 : Nat) (Hw42 : Hid (Ms w w42 [.row a4 n4 c4 xs2, .row a3 n3 c3 xs2, .disk g k2, .row a2 n2 c2b xs1, .row a1 n1 c1 xs1, .row ao y.n co zs, .cell bx y.cs.toArray 33, .cell b11 #[.string (str k2.d), .slice u2 k2.ws.length c2] 63, .any 80 2 u2 k2.ws.length c2 (rcs k2.ws), .cell b14 #[.string (str (nz z)), .slice none 0 0] 63, .disk gf kf])) (a : Act) (hf : Fr 274 a) (h1 : sl a 1 = .slice ya m yc) (h2 : sl a 2 = .int .i64 pa) (h3 : sl a 3 = .int .i64 na) (h9 : sl a 9 = .pointer (some ⟨g, 0, none⟩)) (h11 : sl a 11 = .pointer (some ⟨b11, 0, none⟩)) (h13 : sl a 13 = .pointer (some ⟨gf, 0, none⟩)) (h14 : sl a 14 = .pointer (some ⟨b14, 0, none⟩)) (h15 : sl a 15 = .int .i64 (i : Int)) (h17 : sl a 17 = .slice ao y.n co) (h21 : sl a 21 = .int .i64 (t : Int)) (h22 : sl a 22 = .slice a1 n1 c1) (h23 : sl a 23 = .int .i64 (rcV k2.d pa na)) (h24 : sl a 24 = .slice a2 n2 c2b) (h25 : sl a 25 = .int .i64 (rcV k2.d pa na)) (h26 : sl a 26 = .slice a3 n3 c3) (h27 : sl a 27 = .int .i64 (rcV k2.d pa na)) (h28 : sl a 28 = .slice a4 n4 c4) (h29 : sl a 29 = .int .i64 (rcV k2.d pa na)) :
    Code.wp Try.prog (cAt [1,1,1,1,1,1,1,0,1,2,2,1,0,2,1,1,1,1,1,2,2,1,0,2,1,1,1,1,0] KDP) (Exit.then (fun a' w' => ∃ ua : Option Addr, ∃ uc : Nat, ∃ UL : List Uw, Fr 274 a' ∧ sl a' 1 = .slice ya m yc ∧ sl a' 2 = .int .i64 pa ∧ sl a' 3 = .int .i64 na ∧ sl a' 9 = .pointer (some ⟨g, 0, none⟩) ∧ sl a' 11 = .pointer (some ⟨b11, 0, none⟩) ∧ sl a' 13 = .pointer (some ⟨gf, 0, none⟩) ∧ sl a' 14 = .pointer (some ⟨b14, 0, none⟩) ∧ sl a' 15 = .int .i64 (i : Int) ∧ sl a' 17 = .slice ao y.n co ∧ sl a' 21 = .int .i64 (t : Int) ∧ sl a' 22 = .slice a1 n1 c1 ∧ sl a' 23 = .int .i64 (rcV k2.d pa na) ∧ sl a' 24 = .slice a2 n2 c2b ∧ sl a' 25 = .int .i64 (rcV k2.d pa na) ∧ sl a' 26 = .slice a3 n3 c3 ∧ sl a' 27 = .int .i64 (rcV k2.d pa na) ∧ sl a' 28 = .slice a4 n4 c4 ∧ sl a' 29 = .int .i64 (rcV k2.d pa na) ∧ sl a' 30 = .slice ua UL.length uc ∧ Ms w w' [.wts ua uc UL, .disk g k2, .row a4 n4 c4 xs2, .row a3 n3 c3 xs2, .row a2 n2 c2b xs1, .row a1 n1 c1 xs1, .row ao y.n co zs, .cell bx y.cs.toArray 33, .cell b11 #[.string (str k2.d), .slice u2 k2.ws.length c2] 63, .any 80 2 u2 k2.ws.length c2 (rcs k2.ws), .cell b14 #[.string (str (nz z)), .slice none 0 0] 63, .disk gf kf] ∧ UL.map Uw.pl = k2.ws) Nope) a w42 := by
  obtain ⟨f, ha, hs⟩ := frKDP hf
  have e1 := (hs 1).trans h1
  have e2 := (hs 2).trans h2
  have e3 := (hs 3).trans h3
  have e9 := (hs 9).trans h9
  have e11 := (hs 11).trans h11
  have e13 := (hs 13).trans h13
  have e14 := (hs 14).trans h14
  have e15 := (hs 15).trans h15
  have e17 := (hs 17).trans h17
  have e21 := (hs 21).trans h21
  have e22 := (hs 22).trans h22
  have e23 := (hs 23).trans h23
  have e24 := (hs 24).trans h24
  have e25 := (hs 25).trans h25
  have e26 := (hs 26).trans h26
  have e27 := (hs 27).trans h27
  have e28 := (hs 28).trans h28
  have e29 := (hs 29).trans h29
  rw [e1, e2, e3, e9, e11, e13, e14, e15, e17, e21, e22, e23, e24, e25, e26, e27, e28, e29] at ha
  clear hs hf e1 h1 e2 h2 e3 h3 e9 h9 e11 h11 e13 h13 e14 h14 e15 h15 e17 h17 e21 h21 e22 h22 e23 h23 e24 h24 e25 h25 e26 h26 e27 h27 e28 h28 e29 h29
  subst ha
  refine piece2 fun J0 K0 hJ0 hK0 => ?_
  conv => arg 2; whnf
  have HM : Hid (Ms w w42 [.disk g k2, .row a4 n4 c4 xs2, .row a3 n3 c3 xs2, .row a2 n2 c2b xs1, .row a1 n1 c1 xs1, .row ao y.n co zs, .cell bx y.cs.toArray 33, .cell b11 #[.string (str k2.d), .slice u2 k2.ws.length c2] 63, .any 80 2 u2 k2.ws.length c2 (rcs k2.ws), .cell b14 #[.string (str (nz z)), .slice none 0 0] 63, .disk gf kf]) := (Ms.perm Hw42.out ((List.Perm.cons _ (List.Perm.swap _ _ _)).trans (List.Perm.swap _ _ _)))
  go_wp2_with fail
  refine (dkUnsynced_any w.heap.size g k2 _ HM.out.hd (by rw [ws_len]; have := HPL2.out.num; omega)).mono ?_
  rintro e wz ⟨ua, uc, UL, rfl, ho, hpl, hb⟩
  have H : Hid (Ms w wz (.wts ua uc UL :: [.disk g k2, .row a4 n4 c4 xs2, .row a3 n3 c3 xs2, .row a2 n2 c2b xs1, .row a1 n1 c1 xs1, .row ao y.n co zs, .cell bx y.cs.toArray 33, .cell b11 #[.string (str k2.d), .slice u2 k2.ws.length c2] 63, .any 80 2 u2 k2.ws.length c2 (rcs k2.ws), .cell b14 #[.string (str (nz z)), .slice none 0 0] 63, .disk gf kf]) ∧ UL.map Uw.pl = k2.ws) := ⟨HM.out.add (t := .wts ua uc UL) hb ho, hpl⟩
  clear ho hpl hb
  go_wp2_with fail
  refine Met.intro (hJ0 _ _ ?_)
  exact ⟨ua, uc, UL, ⟨rfl, rfl⟩, rfl, rfl, rfl, rfl, rfl, rfl, rfl, rfl, rfl, rfl, rfl, rfl, rfl, rfl, rfl, rfl, rfl, rfl, rfl, H.out.1, H.out.2⟩

set_option maxRecDepth 100000 in
set_option maxHeartbeats 4000000 in
theorem p44 (w : World) (ya : Option Addr) (m : Nat) (yc : Nat) (pa : Int) (na : Int) (z : Nat) (hz3 : Hid (z ≤ 300)) (g : Nat) (b11 : Nat) (gf : Nat) (kf : Dk) (b14 : Nat) (HKF : Hid (kf.d = nz z ∧ kf.ws = [])) (i : Nat) (y : Ac) (bx : Nat) (ao : Option Addr) (co : Nat) (k2 : Dk) (u2 : Option Addr) (c2 : Nat) (zs : List Int) (xs1 : List Int) (xs2 : List Int) (hxb : Hid (Byt xs1 ∧ Byt xs2)) (HPL2 : Hid (PlOk k2.d k2.ws)) (t : Nat) (a1 : Option Addr) (n1 : Nat) (c1 : Nat) (a2 : Option Addr) (n2 : Nat) (c2b : Nat) (a3 : Option Addr) (n3 : Nat) (c3 : Nat) (a4 : Option Addr) (n4 : Nat) (c4 : Nat) (w43 : World) (ua : Option Addr) (uc : Nat) (UL : List Uw) (Hw43 : Hid (Ms w w43 [.wts ua uc UL, .disk g k2, .row a4 n4 c4 xs2, .row a3 n3 c3 xs2, .row a2 n2 c2b xs1, .row a1 n1 c1 xs1, .row ao y.n co zs, .cell bx y.cs.toArray 33, .cell b11 #[.string (str k2.d), .slice u2 k2.ws.length c2] 63, .any 80 2 u2 k2.ws.length c2 (rcs k2.ws), .cell b14 #[.string (str (nz z)), .slice none 0 0] 63, .disk gf kf])) (a : Act) (hf : Fr 274 a) (h1 : sl a 1 = .slice ya m yc) (h2 : sl a 2 = .int .i64 pa) (h3 : sl a 3 = .int .i64 na) (h9 : sl a 9 = .pointer (some ⟨g, 0, none⟩)) (h11 : sl a 11 = .pointer (some ⟨b11, 0, none⟩)) (h13 : sl a 13 = .pointer (some ⟨gf, 0, none⟩)) (h14 : sl a 14 = .pointer (some ⟨b14, 0, none⟩)) (h15 : sl a 15 = .int .i64 (i : Int)) (h17 : sl a 17 = .slice ao y.n co) (h21 : sl a 21 = .int .i64 (t : Int)) (h22 : sl a 22 = .slice a1 n1 c1) (h23 : sl a 23 = .int .i64 (rcV k2.d pa na)) (h24 : sl a 24 = .slice a2 n2 c2b) (h25 : sl a 25 = .int .i64 (rcV k2.d pa na)) (h26 : sl a 26 = .slice a3 n3 c3) (h27 : sl a 27 = .int .i64 (rcV k2.d pa na)) (h28 : sl a 28 = .slice a4 n4 c4) (h29 : sl a 29 = .int .i64 (rcV k2.d pa na)) (h30 : sl a 30 = .slice ua UL.length uc) :
    Code.wp Try.prog (cAt [1,1,1,1,1,1,1,0,1,2,2,1,0,2,1,1,1,1,1,2,2,1,0,2,1,1,1,1,1,0,0] KDP) (Exit.then (fun a' w' => Fr 274 a' ∧ sl a' 1 = .slice ya m yc ∧ sl a' 2 = .int .i64 pa ∧ sl a' 3 = .int .i64 na ∧ sl a' 9 = .pointer (some ⟨g, 0, none⟩) ∧ sl a' 11 = .pointer (some ⟨b11, 0, none⟩) ∧ sl a' 13 = .pointer (some ⟨gf, 0, none⟩) ∧ sl a' 14 = .pointer (some ⟨b14, 0, none⟩) ∧ sl a' 15 = .int .i64 (i : Int) ∧ sl a' 17 = .slice ao y.n co ∧ sl a' 21 = .int .i64 (t : Int) ∧ sl a' 22 = .slice a1 n1 c1 ∧ sl a' 26 = .slice a3 n3 c3 ∧ sl a' 30 = .slice ua UL.length uc ∧ sl a' 217 = .bool false ∧ Ms w w' [.wts ua uc UL, .disk g k2, .row a4 n4 c4 xs2, .row a3 n3 c3 xs2, .row a2 n2 c2b xs1, .row a1 n1 c1 xs1, .row ao y.n co zs, .cell bx y.cs.toArray 33, .cell b11 #[.string (str k2.d), .slice u2 k2.ws.length c2] 63, .any 80 2 u2 k2.ws.length c2 (rcs k2.ws), .cell b14 #[.string (str (nz z)), .slice none 0 0] 63, .disk gf kf]) Nope) a w43 := by
  obtain ⟨f, ha, hs⟩ := frKDP hf
  have e1 := (hs 1).trans h1
  have e2 := (hs 2).trans h2
  have e3 := (hs 3).trans h3
  have e9 := (hs 9).trans h9
  have e11 := (hs 11).trans h11
  have e13 := (hs 13).trans h13
  have e14 := (hs 14).trans h14
  have e15 := (hs 15).trans h15
  have e17 := (hs 17).trans h17
  have e21 := (hs 21).trans h21
  have e22 := (hs 22).trans h22
  have e23 := (hs 23).trans h23
  have e24 := (hs 24).trans h24
  have e25 := (hs 25).trans h25
  have e26 := (hs 26).trans h26
  have e27 := (hs 27).trans h27
  have e28 := (hs 28).trans h28
  have e29 := (hs 29).trans h29
  have e30 := (hs 30).trans h30
  rw [e1, e2, e3, e9, e11, e13, e14, e15, e17, e21, e22, e23, e24, e25, e26, e27, e28, e29, e30] at ha
  clear hs hf e1 h1 e2 h2 e3 h3 e9 h9 e11 h11 e13 h13 e14 h14 e15 h15 e17 h17 e21 h21 e22 h22 e23 h23 e24 h24 e25 h25 e26 h26 e27 h27 e28 h28 e29 h29 e30 h30
  subst ha
  refine piece2 fun J0 K0 hJ0 hK0 => ?_
  conv => arg 2; whnf
  have HM : Hid (Ms w w43.drew [.wts ua uc UL, .disk g k2, .row a4 n4 c4 xs2, .row a3 n3 c3 xs2, .row a2 n2 c2b xs1, .row a1 n1 c1 xs1, .row ao y.n co zs, .cell bx y.cs.toArray 33, .cell b11 #[.string (str k2.d), .slice u2 k2.ws.length c2] 63, .any 80 2 u2 k2.ws.length c2 (rcs k2.ws), .cell b14 #[.string (str (nz z)), .slice none 0 0] 63, .disk gf kf]) := Hw43.out.past (Below.refl _ _).drew
  have HKF2 := HKF.out
  obtain ⟨rc, hrc⟩ : ∃ rc, rcV k2.d pa na = rc := ⟨_, rfl⟩
  rw [hrc]
  clear hrc
  go_wp2_with fail
  refine wp_region_held_drew (S := fun w' => Ms w w' [.wts ua uc UL, .disk g k2, .row a4 n4 c4 xs2, .row a3 n3 c3 xs2, .row a2 n2 c2b xs1, .row a1 n1 c1 xs1, .row ao y.n co zs, .cell bx y.cs.toArray 33, .cell b11 #[.string (str k2.d), .slice u2 k2.ws.length c2] 63, .any 80 2 u2 k2.ws.length c2 (rcs k2.ws), .cell b14 #[.string (str (nz z)), .slice none 0 0] 63, .disk gf kf]) (by kernel_rfl) HM.out (fun hS => ?_)
  refine tk 0 183 (.int .i64 rc) rfl rfl (by kernel_rfl) (by kernel_rfl) (by kernel_rfl) (fun _ _ _ h => h) (Or.inl ⟨by rfl, fun w' h' => ?_⟩) hS ?_
  · go_simp
  try simp only [Act.put, List.setIfInBounds_toArray, List.set_cons_zero, List.set_cons_succ]
  refine tk 1 184 (.int .i64 rc) rfl rfl (by kernel_rfl) (by kernel_rfl) (by kernel_rfl) (fun _ _ _ h => h) (Or.inl ⟨by rfl, fun w' h' => ?_⟩) hS ?_
  · go_simp
  try simp only [Act.put, List.setIfInBounds_toArray, List.set_cons_zero, List.set_cons_succ]
  refine tk 2 185 (.bool false) rfl rfl (by kernel_rfl) (by kernel_rfl) (by kernel_rfl) (fun _ _ _ h => h) (Or.inl ⟨by rfl, fun w' h' => ?_⟩) hS ?_
  · go_simp
  try simp only [Act.put, List.setIfInBounds_toArray, List.set_cons_zero, List.set_cons_succ]
  refine tk 3 186 (.bool false) rfl rfl (by kernel_rfl) (by kernel_rfl) (by kernel_rfl) (fun _ _ _ h => h) (Or.inl ⟨by rfl, fun w' h' => ?_⟩) hS ?_
  · go_simp
  try simp only [Act.put, List.setIfInBounds_toArray, List.set_cons_zero, List.set_cons_succ]
  refine tk 4 187 (.int .i64 rc) rfl rfl (by kernel_rfl) (by kernel_rfl) (by kernel_rfl) (fun _ _ _ h => h) (Or.inl ⟨by rfl, fun w' h' => ?_⟩) hS ?_
  · go_simp
  try simp only [Act.put, List.setIfInBounds_toArray, List.set_cons_zero, List.set_cons_succ]
  refine tk 5 188 (.int .i64 rc) rfl rfl (by kernel_rfl) (by kernel_rfl) (by kernel_rfl) (fun _ _ _ h => h) (Or.inl ⟨by rfl, fun w' h' => ?_⟩) hS ?_
  · go_simp
  try simp only [Act.put, List.setIfInBounds_toArray, List.set_cons_zero, List.set_cons_succ]
  refine tk 6 189 (.bool false) rfl rfl (by kernel_rfl) (by kernel_rfl) (by kernel_rfl) (fun _ _ _ h => h) (Or.inl ⟨by rfl, fun w' h' => ?_⟩) hS ?_
  · go_simp
  try simp only [Act.put, List.setIfInBounds_toArray, List.set_cons_zero, List.set_cons_succ]
  refine tk 7 190 (.bool false) rfl rfl (by kernel_rfl) (by kernel_rfl) (by kernel_rfl) (fun _ _ _ h => h) (Or.inl ⟨by rfl, fun w' h' => ?_⟩) hS ?_
  · go_simp
  try simp only [Act.put, List.setIfInBounds_toArray, List.set_cons_zero, List.set_cons_succ]
  refine tk 8 191 (.bool false) rfl rfl (by kernel_rfl) (by kernel_rfl) (by kernel_rfl) (fun _ _ _ h => h) (Or.inl ⟨by rfl, fun w' h' => ?_⟩) hS ?_
  · go_simp
  try simp only [Act.put, List.setIfInBounds_toArray, List.set_cons_zero, List.set_cons_succ]
  refine tk 9 192 (.slice a1 n1 c1) rfl rfl (by kernel_rfl) (by kernel_rfl) (by kernel_rfl) (fun _ _ _ h => h) (Or.inl ⟨by rfl, fun w' h' => ?_⟩) hS ?_
  · go_simp
  try simp only [Act.put, List.setIfInBounds_toArray, List.set_cons_zero, List.set_cons_succ]
  refine tk 10 193 (.slice a2 n2 c2b) rfl rfl (by kernel_rfl) (by kernel_rfl) (by kernel_rfl) (fun _ _ _ h => h) (Or.inl ⟨by rfl, fun w' h' => ?_⟩) hS ?_
  · go_simp
  try simp only [Act.put, List.setIfInBounds_toArray, List.set_cons_zero, List.set_cons_succ]
  refine wpAnyH_ready (rs := [11]) (by kernel_rfl) (by simp) (AllReadyH.cons rfl (fun K hK => ?_) AllReadyH.nil)
  rw [if_pos (by rfl)]
  go_wp2_with fail
  have o1 : Own w43.drew w.heap.size a1 n1 c1 xs1 := HM.out.ok (.row a1 n1 c1 xs1) (by simp)
  have o2 : Own w43.drew w.heap.size a2 n2 c2b xs1 := HM.out.ok (.row a2 n2 c2b xs1) (by simp)
  refine (same_any a1 a2 n1 c1 n2 c2b xs1 xs1 _ o1.len o2.len o1.rd o2.rd hxb.out.1 hxb.out.1).mono ?_
  rintro e wz ⟨rfl, hw⟩
  subst hw
  rw [decide_eq_true rfl]
  clear o1 o2
  clear hS
  refine hK.out _ _ (HM.out) (fun hS => ?_)
  clear hK K
  try simp only [Act.put, List.setIfInBounds_toArray, List.set_cons_zero, List.set_cons_succ]
  refine tk 12 195 (.bool false) rfl rfl (by kernel_rfl) (by kernel_rfl) (by kernel_rfl) (fun _ _ _ h => h) (Or.inl ⟨by rfl, fun w' h' => ?_⟩) hS ?_
  · go_simp
  try simp only [Act.put, List.setIfInBounds_toArray, List.set_cons_zero, List.set_cons_succ]
  refine tk 13 196 (.bool false) rfl rfl (by kernel_rfl) (by kernel_rfl) (by kernel_rfl) (fun _ _ _ h => h) (Or.inl ⟨by rfl, fun w' h' => ?_⟩) hS ?_
  · go_simp
  try simp only [Act.put, List.setIfInBounds_toArray, List.set_cons_zero, List.set_cons_succ]
  refine tk 14 197 (.bool false) rfl rfl (by kernel_rfl) (by kernel_rfl) (by kernel_rfl) (fun _ _ _ h => h) (Or.inl ⟨by rfl, fun w' h' => ?_⟩) hS ?_
  · go_simp
  try simp only [Act.put, List.setIfInBounds_toArray, List.set_cons_zero, List.set_cons_succ]
  refine tk 15 198 (.slice a3 n3 c3) rfl rfl (by kernel_rfl) (by kernel_rfl) (by kernel_rfl) (fun _ _ _ h => h) (Or.inl ⟨by rfl, fun w' h' => ?_⟩) hS ?_
  · go_simp
  try simp only [Act.put, List.setIfInBounds_toArray, List.set_cons_zero, List.set_cons_succ]
  refine tk 16 199 (.slice a4 n4 c4) rfl rfl (by kernel_rfl) (by kernel_rfl) (by kernel_rfl) (fun _ _ _ h => h) (Or.inl ⟨by rfl, fun w' h' => ?_⟩) hS ?_
  · go_simp
  try simp only [Act.put, List.setIfInBounds_toArray, List.set_cons_zero, List.set_cons_succ]
  refine wpAnyH_ready (rs := [17]) (by kernel_rfl) (by simp) (AllReadyH.cons rfl (fun K hK => ?_) AllReadyH.nil)
  rw [if_pos (by rfl)]
  go_wp2_with fail
  have o1 : Own w43.drew w.heap.size a3 n3 c3 xs2 := HM.out.ok (.row a3 n3 c3 xs2) (by simp)
  have o2 : Own w43.drew w.heap.size a4 n4 c4 xs2 := HM.out.ok (.row a4 n4 c4 xs2) (by simp)
  refine (same_any a3 a4 n3 c3 n4 c4 xs2 xs2 _ o1.len o2.len o1.rd o2.rd hxb.out.2 hxb.out.2).mono ?_
  rintro e wz ⟨rfl, hw⟩
  subst hw
  rw [decide_eq_true rfl]
  clear o1 o2
  clear hS
  refine hK.out _ _ (HM.out) (fun hS => ?_)
  clear hK K
  try simp only [Act.put, List.setIfInBounds_toArray, List.set_cons_zero, List.set_cons_succ]
  refine tk 18 201 (.bool false) rfl rfl (by kernel_rfl) (by kernel_rfl) (by kernel_rfl) (fun _ _ _ h => h) (Or.inl ⟨by rfl, fun w' h' => ?_⟩) hS ?_
  · go_simp
  try simp only [Act.put, List.setIfInBounds_toArray, List.set_cons_zero, List.set_cons_succ]
  refine tk 19 202 (.bool false) rfl rfl (by kernel_rfl) (by kernel_rfl) (by kernel_rfl) (fun _ _ _ h => h) (Or.inl ⟨by rfl, fun w' h' => ?_⟩) hS ?_
  · go_simp
  try simp only [Act.put, List.setIfInBounds_toArray, List.set_cons_zero, List.set_cons_succ]
  refine tk 20 203 (.bool false) rfl rfl (by kernel_rfl) (by kernel_rfl) (by kernel_rfl) (fun _ _ _ h => h) (Or.inl ⟨by rfl, fun w' h' => ?_⟩) hS ?_
  · go_simp
  try simp only [Act.put, List.setIfInBounds_toArray, List.set_cons_zero, List.set_cons_succ]
  refine tk 21 204 (.pointer (some ⟨g, 0, none⟩)) rfl rfl (by kernel_rfl) (by kernel_rfl) (by kernel_rfl) (fun _ _ _ h => h) (Or.inl ⟨by rfl, fun w' h' => ?_⟩) hS ?_
  · go_simp
  try simp only [Act.put, List.setIfInBounds_toArray, List.set_cons_zero, List.set_cons_succ]
  refine tk 22 205 (.agg #[.string (str k2.d), .slice u2 k2.ws.length c2]) rfl rfl (by kernel_rfl) (by kernel_rfl) (by kernel_rfl) (fun _ _ _ h => h) (Or.inl ⟨by rfl, fun w' h' => ?_⟩) hS ?_
  · have x0 := two0 (cell_ok (h'.ok (.cell b11 #[.string (str k2.d), .slice u2 k2.ws.length c2] 63) (by simp)))
    have x1 := two1 (cell_ok (h'.ok (.cell b11 #[.string (str k2.d), .slice u2 k2.ws.length c2] 63) (by simp)))
    go_simp
  try simp only [Act.put, List.setIfInBounds_toArray, List.set_cons_zero, List.set_cons_succ]
  refine wpAnyH_ready (rs := [23]) (by kernel_rfl) (by simp) (AllReadyH.cons rfl (fun K hK => ?_) AllReadyH.nil)
  rw [if_pos (by rfl)]
  go_wp2_with fail
  refine (show Calls Try.prog 37 #[.pointer (some ⟨g, 0, none⟩), .agg #[.string (str k2.d), .slice u2 k2.ws.length c2]] w43.drew _ from sameDisk_any w.heap.size g k2 ⟨k2.d, u2, c2, k2.ws⟩ w43.drew (HM.out.ok (.disk g k2) (by simp)) (Rk.own.lies (r := ⟨k2.d, u2, c2, k2.ws⟩) (HM.out.ok (.any 80 2 u2 k2.ws.length c2 (rcs k2.ws)) (by simp))) rfl rfl HPL2.out.num).mono ?_
  rintro e w6 ⟨rfl, hb⟩
  have HM6 : Hid (Ms w w6 [.wts ua uc UL, .disk g k2, .row a4 n4 c4 xs2, .row a3 n3 c3 xs2, .row a2 n2 c2b xs1, .row a1 n1 c1 xs1, .row ao y.n co zs, .cell bx y.cs.toArray 33, .cell b11 #[.string (str k2.d), .slice u2 k2.ws.length c2] 63, .any 80 2 u2 k2.ws.length c2 (rcs k2.ws), .cell b14 #[.string (str (nz z)), .slice none 0 0] 63, .disk gf kf]) := HM.out.past hb
  clear hb
  clear hS
  refine hK.out _ _ (HM6.out) (fun hS => ?_)
  clear hK K
  try simp only [Act.put, List.setIfInBounds_toArray, List.set_cons_zero, List.set_cons_succ]
  refine tk 24 207 (.bool false) rfl rfl (by kernel_rfl) (by kernel_rfl) (by kernel_rfl) (fun _ _ _ h => h) (Or.inl ⟨by rfl, fun w' h' => ?_⟩) hS ?_
  · go_simp
  try simp only [Act.put, List.setIfInBounds_toArray, List.set_cons_zero, List.set_cons_succ]
  refine tk 25 208 (.bool false) rfl rfl (by kernel_rfl) (by kernel_rfl) (by kernel_rfl) (fun _ _ _ h => h) (Or.inl ⟨by rfl, fun w' h' => ?_⟩) hS ?_
  · go_simp
  try simp only [Act.put, List.setIfInBounds_toArray, List.set_cons_zero, List.set_cons_succ]
  refine tk 26 209 (.bool false) rfl rfl (by kernel_rfl) (by kernel_rfl) (by kernel_rfl) (fun _ _ _ h => h) (Or.inl ⟨by rfl, fun w' h' => ?_⟩) hS ?_
  · go_simp
  try simp only [Act.put, List.setIfInBounds_toArray, List.set_cons_zero, List.set_cons_succ]
  refine tk 27 210 (.pointer (some ⟨g, 0, none⟩)) rfl rfl (by kernel_rfl) (by kernel_rfl) (by kernel_rfl) (fun _ _ _ h => h) (Or.inl ⟨by rfl, fun w' h' => ?_⟩) hS ?_
  · go_simp
  try simp only [Act.put, List.setIfInBounds_toArray, List.set_cons_zero, List.set_cons_succ]
  refine tk 28 211 (.pointer (some ⟨gf, 0, none⟩)) rfl rfl (by kernel_rfl) (by kernel_rfl) (by kernel_rfl) (fun _ _ _ h => h) (Or.inl ⟨by rfl, fun w' h' => ?_⟩) hS ?_
  · go_simp
  try simp only [Act.put, List.setIfInBounds_toArray, List.set_cons_zero, List.set_cons_succ]
  refine tk 30 213 (.agg #[.string (str k2.d), .slice u2 k2.ws.length c2]) rfl rfl (by kernel_rfl) (by kernel_rfl) (by kernel_rfl) (fun _ _ _ h => h) (Or.inl ⟨by rfl, fun w' h' => ?_⟩) hS ?_
  · have x0 := two0 (cell_ok (h'.ok (.cell b11 #[.string (str k2.d), .slice u2 k2.ws.length c2] 63) (by simp)))
    have x1 := two1 (cell_ok (h'.ok (.cell b11 #[.string (str k2.d), .slice u2 k2.ws.length c2] 63) (by simp)))
    go_simp
  try simp only [Act.put, List.setIfInBounds_toArray, List.set_cons_zero, List.set_cons_succ]
  refine tk 31 214 (.agg #[.string (str (nz z)), .slice none 0 0]) rfl rfl (by kernel_rfl) (by kernel_rfl) (by kernel_rfl) (fun _ _ _ h => h) (Or.inl ⟨by rfl, fun w' h' => ?_⟩) hS ?_
  · have x0 := two0 (cell_ok (h'.ok (.cell b14 #[.string (str (nz z)), .slice none 0 0] 63) (by simp)))
    have x1 := two1 (cell_ok (h'.ok (.cell b14 #[.string (str (nz z)), .slice none 0 0] 63) (by simp)))
    go_simp
  try simp only [Act.put, List.setIfInBounds_toArray, List.set_cons_zero, List.set_cons_succ]
  refine wpAnyH_ready (rs := [29]) (by kernel_rfl) (by simp) (AllReadyH.cons rfl (fun K hK => ?_) AllReadyH.nil)
  rw [if_pos (by rfl)]
  go_wp2_with fail
  refine (dkSame_any w.heap.size g w.heap.size gf k2 kf w6 (HM6.out.ok (.disk g k2) (by simp)) (HM6.out.ok (.disk gf kf) (by simp)) (by rw [ws_len]; have := HPL2.out.num; omega) (by rw [ws_len, HKF2.2]; decide)).mono ?_
  rintro e w7 ⟨rfl, hb⟩
  have HM7 : Hid (Ms w w7 [.wts ua uc UL, .disk g k2, .row a4 n4 c4 xs2, .row a3 n3 c3 xs2, .row a2 n2 c2b xs1, .row a1 n1 c1 xs1, .row ao y.n co zs, .cell bx y.cs.toArray 33, .cell b11 #[.string (str k2.d), .slice u2 k2.ws.length c2] 63, .any 80 2 u2 k2.ws.length c2 (rcs k2.ws), .cell b14 #[.string (str (nz z)), .slice none 0 0] 63, .disk gf kf]) := HM6.out.past hb
  rw [HKF2.1, HKF2.2]
  obtain ⟨bq, hbq⟩ : ∃ b, decide (k2.d = nz z ∧ k2.ws = []) = b := ⟨_, rfl⟩
  have HBQ := Lib.hid hbq
  rw [hbq]
  clear hb hbq
  clear hS
  refine hK.out _ _ (HM7.out) (fun hS => ?_)
  clear hK K
  try simp only [Act.put, List.setIfInBounds_toArray, List.set_cons_zero, List.set_cons_succ]
  refine wpAnyH_ready (rs := [32]) (by kernel_rfl) (by simp) (AllReadyH.cons rfl (fun K hK => ?_) AllReadyH.nil)
  rw [if_pos (by rfl)]
  go_wp2_with fail
  refine (show Calls Try.prog 38 #[.agg #[.string (str k2.d), .slice u2 k2.ws.length c2], .agg #[.string (str (nz z)), .slice none 0 0]] w7 _ from r13Same_any ⟨k2.d, u2, c2, k2.ws⟩ ⟨nz z, none, 0, []⟩ w7 (Rk.own.lies (r := ⟨k2.d, u2, c2, k2.ws⟩) (HM7.out.ok (.any 80 2 u2 k2.ws.length c2 (rcs k2.ws)) (by simp))) (fun h => absurd rfl h) HPL2.out ⟨by show (nz z).length ≤ 65536; have := hz3.out; simp [nz]; omega, nz_byt z, fun x hx => (List.not_mem_nil hx).elim, fun x hx => (List.not_mem_nil hx).elim, fun x hx => (List.not_mem_nil hx).elim, Nat.zero_le _⟩).mono ?_
  rintro e w8 ⟨rfl, hb⟩
  have HM8 : Hid (Ms w w8 [.wts ua uc UL, .disk g k2, .row a4 n4 c4 xs2, .row a3 n3 c3 xs2, .row a2 n2 c2b xs1, .row a1 n1 c1 xs1, .row ao y.n co zs, .cell bx y.cs.toArray 33, .cell b11 #[.string (str k2.d), .slice u2 k2.ws.length c2] 63, .any 80 2 u2 k2.ws.length c2 (rcs k2.ws), .cell b14 #[.string (str (nz z)), .slice none 0 0] 63, .disk gf kf]) := HM7.out.past hb
  rw [show decide (Rk.d ⟨k2.d, u2, c2, k2.ws⟩ = Rk.d ⟨nz z, none, 0, []⟩ ∧ Rk.L ⟨k2.d, u2, c2, k2.ws⟩ = Rk.L ⟨nz z, none, 0, []⟩) = bq from HBQ.out]
  clear hb
  clear hS
  refine hK.out _ _ (HM8.out) (fun hS => ?_)
  clear hK K
  try simp only [Act.put, List.setIfInBounds_toArray, List.set_cons_zero, List.set_cons_succ]
  refine tk 33 216 (.bool false) rfl rfl (by kernel_rfl) (by kernel_rfl) (by kernel_rfl) (fun _ _ _ h => h) (Or.inl ⟨by rfl, fun w' h' => ?_⟩) hS ?_
  · (cases bq <;> go_simp)
  try simp only [Act.put, List.setIfInBounds_toArray, List.set_cons_zero, List.set_cons_succ]
  refine tk 34 217 (.bool false) rfl rfl (by kernel_rfl) (by kernel_rfl) (by kernel_rfl) (fun _ _ _ h => h) (Or.inl ⟨by rfl, fun w' h' => ?_⟩) hS ?_
  · go_simp
  refine wpAnyH_done (by kernel_rfl) ?_ _
  go_wp2_with fail
  refine Met.intro (hJ0 _ _ ?_)
  exact ⟨⟨rfl, rfl⟩, rfl, rfl, rfl, rfl, rfl, rfl, rfl, rfl, rfl, rfl, rfl, rfl, rfl, rfl, HM8.out⟩

set_option maxRecDepth 100000 in
set_option maxHeartbeats 4000000 in
theorem p46i (ya : Option Addr) (m : Nat) (yc : Nat) (pa : Int) (na : Int) (g : Nat) (b11 : Nat) (gf : Nat) (b14 : Nat) (i : Nat) (y : Ac) (ao : Option Addr) (co : Nat) (t : Nat) (a1 : Option Addr) (n1 : Nat) (c1 : Nat) (a3 : Option Addr) (n3 : Nat) (c3 : Nat) (ua : Option Addr) (uc : Nat) (UL : List Uw) (w44 : World) (a : Act) (hf : Fr 274 a) (h1 : sl a 1 = .slice ya m yc) (h2 : sl a 2 = .int .i64 pa) (h3 : sl a 3 = .int .i64 na) (h9 : sl a 9 = .pointer (some ⟨g, 0, none⟩)) (h11 : sl a 11 = .pointer (some ⟨b11, 0, none⟩)) (h13 : sl a 13 = .pointer (some ⟨gf, 0, none⟩)) (h14 : sl a 14 = .pointer (some ⟨b14, 0, none⟩)) (h15 : sl a 15 = .int .i64 (i : Int)) (h17 : sl a 17 = .slice ao y.n co) (h21 : sl a 21 = .int .i64 (t : Int)) (h22 : sl a 22 = .slice a1 n1 c1) (h26 : sl a 26 = .slice a3 n3 c3) (h30 : sl a 30 = .slice ua UL.length uc) :
    Code.wp Try.prog (cAt [1,1,1,1,1,1,1,0,1,2,2,1,0,2,1,1,1,1,1,2,2,1,0,2,1,1,1,1,1,1,0,0] KDP) (Exit.then (fun a' w' => Fr 274 a' ∧ sl a' 1 = .slice ya m yc ∧ sl a' 2 = .int .i64 pa ∧ sl a' 3 = .int .i64 na ∧ sl a' 9 = .pointer (some ⟨g, 0, none⟩) ∧ sl a' 11 = .pointer (some ⟨b11, 0, none⟩) ∧ sl a' 13 = .pointer (some ⟨gf, 0, none⟩) ∧ sl a' 14 = .pointer (some ⟨b14, 0, none⟩) ∧ sl a' 15 = .int .i64 (i : Int) ∧ sl a' 17 = .slice ao y.n co ∧ sl a' 21 = .int .i64 (t : Int) ∧ sl a' 22 = .slice a1 n1 c1 ∧ sl a' 26 = .slice a3 n3 c3 ∧ sl a' 30 = .slice ua UL.length uc ∧ sl a' 31 = .int .i64 0 ∧ w44 = w') Nope) a w44 := by
  obtain ⟨f, ha, hs⟩ := frKDP hf
  have e1 := (hs 1).trans h1
  have e2 := (hs 2).trans h2
  have e3 := (hs 3).trans h3
  have e9 := (hs 9).trans h9
  have e11 := (hs 11).trans h11
  have e13 := (hs 13).trans h13
  have e14 := (hs 14).trans h14
  have e15 := (hs 15).trans h15
  have e17 := (hs 17).trans h17
  have e21 := (hs 21).trans h21
  have e22 := (hs 22).trans h22
  have e26 := (hs 26).trans h26
  have e30 := (hs 30).trans h30
  rw [e1, e2, e3, e9, e11, e13, e14, e15, e17, e21, e22, e26, e30] at ha
  clear hs hf e1 h1 e2 h2 e3 h3 e9 h9 e11 h11 e13 h13 e14 h14 e15 h15 e17 h17 e21 h21 e22 h22 e26 h26 e30 h30
  subst ha
  refine piece2 fun J0 K0 hJ0 hK0 => ?_
  conv => arg 2; whnf
  go_wp2_with fail
  refine Met.intro (hJ0 _ _ ?_)
  exact ⟨⟨rfl, rfl⟩, rfl, rfl, rfl, rfl, rfl, rfl, rfl, rfl, rfl, rfl, rfl, rfl, rfl, rfl, rfl⟩

set_option maxRecDepth 100000 in
set_option maxHeartbeats 4000000 in
theorem p46x (ya : Option Addr) (m : Nat) (yc : Nat) (pa : Int) (na : Int) (g : Nat) (b11 : Nat) (gf : Nat) (b14 : Nat) (i : Nat) (y : Ac) (ao : Option Addr) (co : Nat) (t : Nat) (a1 : Option Addr) (n1 : Nat) (c1 : Nat) (a3 : Option Addr) (n3 : Nat) (c3 : Nat) (ua : Option Addr) (uc : Nat) (UL : List Uw) (wp46 : World) (e : Nat) (hle : Hid (¬ e < n1)) (a : Act) (hf : Fr 274 a) (h1 : sl a 1 = .slice ya m yc) (h2 : sl a 2 = .int .i64 pa) (h3 : sl a 3 = .int .i64 na) (h9 : sl a 9 = .pointer (some ⟨g, 0, none⟩)) (h11 : sl a 11 = .pointer (some ⟨b11, 0, none⟩)) (h13 : sl a 13 = .pointer (some ⟨gf, 0, none⟩)) (h14 : sl a 14 = .pointer (some ⟨b14, 0, none⟩)) (h15 : sl a 15 = .int .i64 (i : Int)) (h17 : sl a 17 = .slice ao y.n co) (h21 : sl a 21 = .int .i64 (t : Int)) (h22 : sl a 22 = .slice a1 n1 c1) (h26 : sl a 26 = .slice a3 n3 c3) (h30 : sl a 30 = .slice ua UL.length uc) (h31 : sl a 31 = .int .i64 (e : Int)) :
    Code.wp Try.prog (cAt [1,1,1,1,1,1,1,0,1,2,2,1,0,2,1,1,1,1,1,2,2,1,0,2,1,1,1,1,1,1,0,1,2,2] KDP) (Outs 7 (fun a' w' => Fr 274 a' ∧ sl a' 1 = .slice ya m yc ∧ sl a' 2 = .int .i64 pa ∧ sl a' 3 = .int .i64 na ∧ sl a' 9 = .pointer (some ⟨g, 0, none⟩) ∧ sl a' 11 = .pointer (some ⟨b11, 0, none⟩) ∧ sl a' 13 = .pointer (some ⟨gf, 0, none⟩) ∧ sl a' 14 = .pointer (some ⟨b14, 0, none⟩) ∧ sl a' 15 = .int .i64 (i : Int) ∧ sl a' 17 = .slice ao y.n co ∧ sl a' 21 = .int .i64 (t : Int) ∧ sl a' 22 = .slice a1 n1 c1 ∧ sl a' 26 = .slice a3 n3 c3 ∧ sl a' 30 = .slice ua UL.length uc ∧ wp46 = w')) a wp46 := by
  obtain ⟨f, ha, hs⟩ := frKDP hf
  have e1 := (hs 1).trans h1
  have e2 := (hs 2).trans h2
  have e3 := (hs 3).trans h3
  have e9 := (hs 9).trans h9
  have e11 := (hs 11).trans h11
  have e13 := (hs 13).trans h13
  have e14 := (hs 14).trans h14
  have e15 := (hs 15).trans h15
  have e17 := (hs 17).trans h17
  have e21 := (hs 21).trans h21
  have e22 := (hs 22).trans h22
  have e26 := (hs 26).trans h26
  have e30 := (hs 30).trans h30
  have e31 := (hs 31).trans h31
  rw [e1, e2, e3, e9, e11, e13, e14, e15, e17, e21, e22, e26, e30, e31] at ha
  clear hs hf e1 h1 e2 h2 e3 h3 e9 h9 e11 h11 e13 h13 e14 h14 e15 h15 e17 h17 e21 h21 e22 h22 e26 h26 e30 h30 e31 h31
  subst ha
  conv => arg 2; whnf
  have hi2 : ¬ (e : Int) < (n1 : Int) := by have := hle.out; omega
  go_wp2_with fail
  exact ⟨rfl, ⟨rfl, rfl⟩, rfl, rfl, rfl, rfl, rfl, rfl, rfl, rfl, rfl, rfl, rfl, rfl, rfl, rfl⟩

set_option maxRecDepth 100000 in
set_option maxHeartbeats 4000000 in
theorem p46c (ya : Option Addr) (m : Nat) (yc : Nat) (pa : Int) (na : Int) (g : Nat) (b11 : Nat) (gf : Nat) (b14 : Nat) (i : Nat) (y : Ac) (ao : Option Addr) (co : Nat) (t : Nat) (a1 : Option Addr) (n1 : Nat) (c1 : Nat) (a3 : Option Addr) (n3 : Nat) (c3 : Nat) (ua : Option Addr) (uc : Nat) (UL : List Uw) (wp46 : World) (e : Nat) (hle : Hid (e < n1)) (a : Act) (hf : Fr 274 a) (h1 : sl a 1 = .slice ya m yc) (h2 : sl a 2 = .int .i64 pa) (h3 : sl a 3 = .int .i64 na) (h9 : sl a 9 = .pointer (some ⟨g, 0, none⟩)) (h11 : sl a 11 = .pointer (some ⟨b11, 0, none⟩)) (h13 : sl a 13 = .pointer (some ⟨gf, 0, none⟩)) (h14 : sl a 14 = .pointer (some ⟨b14, 0, none⟩)) (h15 : sl a 15 = .int .i64 (i : Int)) (h17 : sl a 17 = .slice ao y.n co) (h21 : sl a 21 = .int .i64 (t : Int)) (h22 : sl a 22 = .slice a1 n1 c1) (h26 : sl a 26 = .slice a3 n3 c3) (h30 : sl a 30 = .slice ua UL.length uc) (h31 : sl a 31 = .int .i64 (e : Int)) :
    Code.wp Try.prog (cAt [1,1,1,1,1,1,1,0,1,2,2,1,0,2,1,1,1,1,1,2,2,1,0,2,1,1,1,1,1,1,0,1,2,2,0] KDP) (Exit.then (fun a' w' => Fr 274 a' ∧ sl a' 1 = .slice ya m yc ∧ sl a' 2 = .int .i64 pa ∧ sl a' 3 = .int .i64 na ∧ sl a' 9 = .pointer (some ⟨g, 0, none⟩) ∧ sl a' 11 = .pointer (some ⟨b11, 0, none⟩) ∧ sl a' 13 = .pointer (some ⟨gf, 0, none⟩) ∧ sl a' 14 = .pointer (some ⟨b14, 0, none⟩) ∧ sl a' 15 = .int .i64 (i : Int) ∧ sl a' 17 = .slice ao y.n co ∧ sl a' 21 = .int .i64 (t : Int) ∧ sl a' 22 = .slice a1 n1 c1 ∧ sl a' 26 = .slice a3 n3 c3 ∧ sl a' 30 = .slice ua UL.length uc ∧ sl a' 31 = .int .i64 (e : Int) ∧ wp46 = w') Nope) a wp46 := by
  obtain ⟨f, ha, hs⟩ := frKDP hf
  have e1 := (hs 1).trans h1
  have e2 := (hs 2).trans h2
  have e3 := (hs 3).trans h3
  have e9 := (hs 9).trans h9
  have e11 := (hs 11).trans h11
  have e13 := (hs 13).trans h13
  have e14 := (hs 14).trans h14
  have e15 := (hs 15).trans h15
  have e17 := (hs 17).trans h17
  have e21 := (hs 21).trans h21
  have e22 := (hs 22).trans h22
  have e26 := (hs 26).trans h26
  have e30 := (hs 30).trans h30
  have e31 := (hs 31).trans h31
  rw [e1, e2, e3, e9, e11, e13, e14, e15, e17, e21, e22, e26, e30, e31] at ha
  clear hs hf e1 h1 e2 h2 e3 h3 e9 h9 e11 h11 e13 h13 e14 h14 e15 h15 e17 h17 e21 h21 e22 h22 e26 h26 e30 h30 e31 h31
  subst ha
  refine piece2 fun J0 K0 hJ0 hK0 => ?_
  conv => arg 2; whnf
  have hi2 : (e : Int) < (n1 : Int) := by have := hle.out; omega
  go_wp2_with fail
  refine Met.intro (hJ0 _ _ ?_)
  exact ⟨⟨rfl, rfl⟩, rfl, rfl, rfl, rfl, rfl, rfl, rfl, rfl, rfl, rfl, rfl, rfl, rfl, rfl, rfl⟩

set_option maxRecDepth 100000 in
set_option maxHeartbeats 4000000 in
theorem p49 (w : World) (ya : Option Addr) (m : Nat) (yc : Nat) (pa : Int) (na : Int) (z : Nat) (g : Nat) (b11 : Nat) (gf : Nat) (kf : Dk) (b14 : Nat) (i : Nat) (y : Ac) (bx : Nat) (ao : Option Addr) (co : Nat) (k2 : Dk) (u2 : Option Addr) (c2 : Nat) (zs : List Int) (t : Nat) (a1 : Option Addr) (n1 : Nat) (c1 : Nat) (a3 : Option Addr) (n3 : Nat) (c3 : Nat) (ua : Option Addr) (uc : Nat) (UL : List Uw) (wp46 : World) (e : Nat) (z1 : List Int) (z2 : List Int) (HMX : Hid (Ms w wp46 [.row a1 n1 c1 z1, .row a3 n3 c3 z2, .wts ua uc UL, .row ao y.n co zs, .cell bx y.cs.toArray 33, .cell b11 #[.string (str k2.d), .slice u2 k2.ws.length c2] 63, .any 80 2 u2 k2.ws.length c2 (rcs k2.ws), .disk g k2, .cell b14 #[.string (str (nz z)), .slice none 0 0] 63, .disk gf kf])) (hle : Hid (e < n1)) (a : Act) (hf : Fr 274 a) (h1 : sl a 1 = .slice ya m yc) (h2 : sl a 2 = .int .i64 pa) (h3 : sl a 3 = .int .i64 na) (h9 : sl a 9 = .pointer (some ⟨g, 0, none⟩)) (h11 : sl a 11 = .pointer (some ⟨b11, 0, none⟩)) (h13 : sl a 13 = .pointer (some ⟨gf, 0, none⟩)) (h14 : sl a 14 = .pointer (some ⟨b14, 0, none⟩)) (h15 : sl a 15 = .int .i64 (i : Int)) (h17 : sl a 17 = .slice ao y.n co) (h21 : sl a 21 = .int .i64 (t : Int)) (h22 : sl a 22 = .slice a1 n1 c1) (h26 : sl a 26 = .slice a3 n3 c3) (h30 : sl a 30 = .slice ua UL.length uc) (h31 : sl a 31 = .int .i64 (e : Int)) :
    Code.wp Try.prog (cAt [1,1,1,1,1,1,1,0,1,2,2,1,0,2,1,1,1,1,1,2,2,1,0,2,1,1,1,1,1,1,0,1,2,2,1,0,2,0] KDP) (Exit.then (fun a' w' => ∃ z3 : List Int, Fr 274 a' ∧ sl a' 1 = .slice ya m yc ∧ sl a' 2 = .int .i64 pa ∧ sl a' 3 = .int .i64 na ∧ sl a' 9 = .pointer (some ⟨g, 0, none⟩) ∧ sl a' 11 = .pointer (some ⟨b11, 0, none⟩) ∧ sl a' 13 = .pointer (some ⟨gf, 0, none⟩) ∧ sl a' 14 = .pointer (some ⟨b14, 0, none⟩) ∧ sl a' 15 = .int .i64 (i : Int) ∧ sl a' 17 = .slice ao y.n co ∧ sl a' 21 = .int .i64 (t : Int) ∧ sl a' 22 = .slice a1 n1 c1 ∧ sl a' 26 = .slice a3 n3 c3 ∧ sl a' 30 = .slice ua UL.length uc ∧ sl a' 31 = .int .i64 (e : Int) ∧ Ms w w' [.row a1 n1 c1 z3, .row a3 n3 c3 z2, .wts ua uc UL, .row ao y.n co zs, .cell bx y.cs.toArray 33, .cell b11 #[.string (str k2.d), .slice u2 k2.ws.length c2] 63, .any 80 2 u2 k2.ws.length c2 (rcs k2.ws), .disk g k2, .cell b14 #[.string (str (nz z)), .slice none 0 0] 63, .disk gf kf]) Nope) a wp46 := by
  obtain ⟨f, ha, hs⟩ := frKDP hf
  have e1 := (hs 1).trans h1
  have e2 := (hs 2).trans h2
  have e3 := (hs 3).trans h3
  have e9 := (hs 9).trans h9
  have e11 := (hs 11).trans h11
  have e13 := (hs 13).trans h13
  have e14 := (hs 14).trans h14
  have e15 := (hs 15).trans h15
  have e17 := (hs 17).trans h17
  have e21 := (hs 21).trans h21
  have e22 := (hs 22).trans h22
  have e26 := (hs 26).trans h26
  have e30 := (hs 30).trans h30
  have e31 := (hs 31).trans h31
  rw [e1, e2, e3, e9, e11, e13, e14, e15, e17, e21, e22, e26, e30, e31] at ha
  clear hs hf e1 h1 e2 h2 e3 h3 e9 h9 e11 h11 e13 h13 e14 h14 e15 h15 e17 h17 e21 h21 e22 h22 e26 h26 e30 h30 e31 h31
  subst ha
  refine piece2 fun J0 K0 hJ0 hK0 => ?_
  conv => arg 2; whnf
  obtain ⟨g0, hg0, hc, hfz, hset⟩ := Ms.setB HMX.out hle.out
  subst hg0
  have HSET := Lib.hid hset
  have hj2 : (e : Int) < (n1 : Int) := by have := hle.out; omega
  have hj0 : (0 : Int) ≤ (e : Int) := by omega
  clear hset
  go_wp2_with fail
  refine Met.intro (hJ0 _ _ ?_)
  exact ⟨_, ⟨rfl, rfl⟩, rfl, rfl, rfl, rfl, rfl, rfl, rfl, rfl, rfl, rfl, rfl, rfl, rfl, rfl, HSET.out _⟩

set_option maxRecDepth 100000 in
set_option maxHeartbeats 4000000 in
theorem p50 (w : World) (ya : Option Addr) (m : Nat) (yc : Nat) (pa : Int) (na : Int) (z : Nat) (g : Nat) (b11 : Nat) (gf : Nat) (kf : Dk) (b14 : Nat) (i : Nat) (y : Ac) (bx : Nat) (ao : Option Addr) (co : Nat) (k2 : Dk) (u2 : Option Addr) (c2 : Nat) (zs : List Int) (t : Nat) (a1 : Option Addr) (n1 : Nat) (c1 : Nat) (a3 : Option Addr) (n3 : Nat) (c3 : Nat) (ua : Option Addr) (uc : Nat) (UL : List Uw) (hn13 : Hid (n3 = n1 ∧ n1 ≤ 65536)) (e : Nat) (z2 : List Int) (hle : Hid (e < n1)) (w49 : World) (z3 : List Int) (HM49 : Hid (Ms w w49 [.row a1 n1 c1 z3, .row a3 n3 c3 z2, .wts ua uc UL, .row ao y.n co zs, .cell bx y.cs.toArray 33, .cell b11 #[.string (str k2.d), .slice u2 k2.ws.length c2] 63, .any 80 2 u2 k2.ws.length c2 (rcs k2.ws), .disk g k2, .cell b14 #[.string (str (nz z)), .slice none 0 0] 63, .disk gf kf])) (a : Act) (hf : Fr 274 a) (h1 : sl a 1 = .slice ya m yc) (h2 : sl a 2 = .int .i64 pa) (h3 : sl a 3 = .int .i64 na) (h9 : sl a 9 = .pointer (some ⟨g, 0, none⟩)) (h11 : sl a 11 = .pointer (some ⟨b11, 0, none⟩)) (h13 : sl a 13 = .pointer (some ⟨gf, 0, none⟩)) (h14 : sl a 14 = .pointer (some ⟨b14, 0, none⟩)) (h15 : sl a 15 = .int .i64 (i : Int)) (h17 : sl a 17 = .slice ao y.n co) (h21 : sl a 21 = .int .i64 (t : Int)) (h22 : sl a 22 = .slice a1 n1 c1) (h26 : sl a 26 = .slice a3 n3 c3) (h30 : sl a 30 = .slice ua UL.length uc) (h31 : sl a 31 = .int .i64 (e : Int)) :
    Code.wp Try.prog (cAt [1,1,1,1,1,1,1,0,1,2,2,1,0,2,1,1,1,1,1,2,2,1,0,2,1,1,1,1,1,1,0,1,2,2,1,0,2,1] KDP) (Exit.then (fun a' w' => ∃ z4 : List Int, Fr 274 a' ∧ sl a' 1 = .slice ya m yc ∧ sl a' 2 = .int .i64 pa ∧ sl a' 3 = .int .i64 na ∧ sl a' 9 = .pointer (some ⟨g, 0, none⟩) ∧ sl a' 11 = .pointer (some ⟨b11, 0, none⟩) ∧ sl a' 13 = .pointer (some ⟨gf, 0, none⟩) ∧ sl a' 14 = .pointer (some ⟨b14, 0, none⟩) ∧ sl a' 15 = .int .i64 (i : Int) ∧ sl a' 17 = .slice ao y.n co ∧ sl a' 21 = .int .i64 (t : Int) ∧ sl a' 22 = .slice a1 n1 c1 ∧ sl a' 26 = .slice a3 n3 c3 ∧ sl a' 30 = .slice ua UL.length uc ∧ sl a' 31 = .int .i64 (e : Int) ∧ Ms w w' [.row a1 n1 c1 z3, .row a3 n3 c3 z4, .wts ua uc UL, .row ao y.n co zs, .cell bx y.cs.toArray 33, .cell b11 #[.string (str k2.d), .slice u2 k2.ws.length c2] 63, .any 80 2 u2 k2.ws.length c2 (rcs k2.ws), .disk g k2, .cell b14 #[.string (str (nz z)), .slice none 0 0] 63, .disk gf kf]) Nope) a w49 := by
  obtain ⟨f, ha, hs⟩ := frKDP hf
  have e1 := (hs 1).trans h1
  have e2 := (hs 2).trans h2
  have e3 := (hs 3).trans h3
  have e9 := (hs 9).trans h9
  have e11 := (hs 11).trans h11
  have e13 := (hs 13).trans h13
  have e14 := (hs 14).trans h14
  have e15 := (hs 15).trans h15
  have e17 := (hs 17).trans h17
  have e21 := (hs 21).trans h21
  have e22 := (hs 22).trans h22
  have e26 := (hs 26).trans h26
  have e30 := (hs 30).trans h30
  have e31 := (hs 31).trans h31
  rw [e1, e2, e3, e9, e11, e13, e14, e15, e17, e21, e22, e26, e30, e31] at ha
  clear hs hf e1 h1 e2 h2 e3 h3 e9 h9 e11 h11 e13 h13 e14 h14 e15 h15 e17 h17 e21 h21 e22 h22 e26 h26 e30 h30 e31 h31
  subst ha
  refine piece2 fun J0 K0 hJ0 hK0 => ?_
  conv => arg 2; whnf
  have HM : Hid (Ms w w49 [.row a3 n3 c3 z2, .row a1 n1 c1 z3, .wts ua uc UL, .row ao y.n co zs, .cell bx y.cs.toArray 33, .cell b11 #[.string (str k2.d), .slice u2 k2.ws.length c2] 63, .any 80 2 u2 k2.ws.length c2 (rcs k2.ws), .disk g k2, .cell b14 #[.string (str (nz z)), .slice none 0 0] 63, .disk gf kf]) := Ms.to1 HM49.out
  obtain ⟨g0, hg0, hc, hfz, hset⟩ := Ms.setB HM.out (j := e) (by have := hle.out; have := hn13.out.1; omega)
  subst hg0
  have HSET := Lib.hid hset
  have hj2 : (e : Int) < (n3 : Int) := by have := hle.out; have := hn13.out.1; omega
  have hj0 : (0 : Int) ≤ (e : Int) := by omega
  clear hset
  go_wp2_with fail
  refine Met.intro (hJ0 _ _ ?_)
  exact ⟨_, ⟨rfl, rfl⟩, rfl, rfl, rfl, rfl, rfl, rfl, rfl, rfl, rfl, rfl, rfl, rfl, rfl, rfl, Ms.to1 (HSET.out _)⟩

set_option maxRecDepth 100000 in
set_option maxHeartbeats 4000000 in
theorem p46n (ya : Option Addr) (m : Nat) (yc : Nat) (pa : Int) (na : Int) (g : Nat) (b11 : Nat) (gf : Nat) (b14 : Nat) (i : Nat) (y : Ac) (ao : Option Addr) (co : Nat) (t : Nat) (a1 : Option Addr) (n1 : Nat) (c1 : Nat) (a3 : Option Addr) (n3 : Nat) (c3 : Nat) (ua : Option Addr) (uc : Nat) (UL : List Uw) (hn13 : Hid (n3 = n1 ∧ n1 ≤ 65536)) (e : Nat) (hle : Hid (e < n1)) (w51 : World) (a : Act) (hf : Fr 274 a) (h1 : sl a 1 = .slice ya m yc) (h2 : sl a 2 = .int .i64 pa) (h3 : sl a 3 = .int .i64 na) (h9 : sl a 9 = .pointer (some ⟨g, 0, none⟩)) (h11 : sl a 11 = .pointer (some ⟨b11, 0, none⟩)) (h13 : sl a 13 = .pointer (some ⟨gf, 0, none⟩)) (h14 : sl a 14 = .pointer (some ⟨b14, 0, none⟩)) (h15 : sl a 15 = .int .i64 (i : Int)) (h17 : sl a 17 = .slice ao y.n co) (h21 : sl a 21 = .int .i64 (t : Int)) (h22 : sl a 22 = .slice a1 n1 c1) (h26 : sl a 26 = .slice a3 n3 c3) (h30 : sl a 30 = .slice ua UL.length uc) (h31 : sl a 31 = .int .i64 (e : Int)) :
    Code.wp Try.prog (cAt [1,1,1,1,1,1,1,0,1,2,2,1,0,2,1,1,1,1,1,2,2,1,0,2,1,1,1,1,1,1,0,1,2,2,1,1] KDP) (Exit.then (fun a' w' => Fr 274 a' ∧ sl a' 1 = .slice ya m yc ∧ sl a' 2 = .int .i64 pa ∧ sl a' 3 = .int .i64 na ∧ sl a' 9 = .pointer (some ⟨g, 0, none⟩) ∧ sl a' 11 = .pointer (some ⟨b11, 0, none⟩) ∧ sl a' 13 = .pointer (some ⟨gf, 0, none⟩) ∧ sl a' 14 = .pointer (some ⟨b14, 0, none⟩) ∧ sl a' 15 = .int .i64 (i : Int) ∧ sl a' 17 = .slice ao y.n co ∧ sl a' 21 = .int .i64 (t : Int) ∧ sl a' 22 = .slice a1 n1 c1 ∧ sl a' 26 = .slice a3 n3 c3 ∧ sl a' 30 = .slice ua UL.length uc ∧ sl a' 31 = .int .i64 ((e + 1 : Nat) : Int) ∧ w51 = w') Nope) a w51 := by
  obtain ⟨f, ha, hs⟩ := frKDP hf
  have e1 := (hs 1).trans h1
  have e2 := (hs 2).trans h2
  have e3 := (hs 3).trans h3
  have e9 := (hs 9).trans h9
  have e11 := (hs 11).trans h11
  have e13 := (hs 13).trans h13
  have e14 := (hs 14).trans h14
  have e15 := (hs 15).trans h15
  have e17 := (hs 17).trans h17
  have e21 := (hs 21).trans h21
  have e22 := (hs 22).trans h22
  have e26 := (hs 26).trans h26
  have e30 := (hs 30).trans h30
  have e31 := (hs 31).trans h31
  rw [e1, e2, e3, e9, e11, e13, e14, e15, e17, e21, e22, e26, e30, e31] at ha
  clear hs hf e1 h1 e2 h2 e3 h3 e9 h9 e11 h11 e13 h13 e14 h14 e15 h15 e17 h17 e21 h21 e22 h22 e26 h26 e30 h30 e31 h31
  subst ha
  refine piece2 fun J0 K0 hJ0 hK0 => ?_
  conv => arg 2; whnf
  have hw : IntKind.i64.wrap ((e : Int) + 1) = ((e + 1 : Nat) : Int) := by have := hle.out; have := hn13.out.2; rw [IntKind.wrap_i64]; omega
  go_wp2_with fail
  refine Met.intro (hJ0 _ _ ?_)
  exact ⟨⟨rfl, rfl⟩, rfl, rfl, rfl, rfl, rfl, rfl, rfl, rfl, rfl, rfl, rfl, rfl, rfl, rfl, rfl⟩

theorem plays_inc (w : World) (ya : Option Addr) (m : Nat) (yc : Nat) (pa : Int) (na : Int) (HMX : Hid (m ≤ maxLen)) (z : Nat) (g : Nat) (b11 : Nat) (gf : Nat) (kf : Dk) (b14 : Nat) (i : Nat) (y : Ac) (bx : Nat) (ao : Option Addr) (co : Nat) (k2 : Dk) (u2 : Option Addr) (c2 : Nat) (zs : List Int) (xs1 : List Int) (xs2 : List Int) (t : Nat) (a1 : Option Addr) (n1 : Nat) (c1 : Nat) (a3 : Option Addr) (n3 : Nat) (c3 : Nat) (ua : Option Addr) (uc : Nat) (UL : List Uw) (w44 : World) (hn13 : Hid (n3 = n1 ∧ n1 ≤ 65536)) (HMX0 : Hid (Ms w w44 [.row a1 n1 c1 xs1, .row a3 n3 c3 xs2, .wts ua uc UL, .row ao y.n co zs, .cell bx y.cs.toArray 33, .cell b11 #[.string (str k2.d), .slice u2 k2.ws.length c2] 63, .any 80 2 u2 k2.ws.length c2 (rcs k2.ws), .disk g k2, .cell b14 #[.string (str (nz z)), .slice none 0 0] 63, .disk gf kf])) (a : Act) (hf : Fr 274 a) (h1 : sl a 1 = .slice ya m yc) (h2 : sl a 2 = .int .i64 pa) (h3 : sl a 3 = .int .i64 na) (h9 : sl a 9 = .pointer (some ⟨g, 0, none⟩)) (h11 : sl a 11 = .pointer (some ⟨b11, 0, none⟩)) (h13 : sl a 13 = .pointer (some ⟨gf, 0, none⟩)) (h14 : sl a 14 = .pointer (some ⟨b14, 0, none⟩)) (h15 : sl a 15 = .int .i64 (i : Int)) (h17 : sl a 17 = .slice ao y.n co) (h21 : sl a 21 = .int .i64 (t : Int)) (h22 : sl a 22 = .slice a1 n1 c1) (h26 : sl a 26 = .slice a3 n3 c3) (h30 : sl a 30 = .slice ua UL.length uc) :
    Code.wp Try.prog (cAt [1,1,1,1,1,1,1,0,1,2,2,1,0,2,1,1,1,1,1,2,2,1,0,2,1,1,1,1,1,1,0] KDP) (Exit.then (fun a' w' => ∃ z1 : List Int, ∃ z2 : List Int, Fr 274 a' ∧ sl a' 1 = .slice ya m yc ∧ sl a' 2 = .int .i64 pa ∧ sl a' 3 = .int .i64 na ∧ sl a' 9 = .pointer (some ⟨g, 0, none⟩) ∧ sl a' 11 = .pointer (some ⟨b11, 0, none⟩) ∧ sl a' 13 = .pointer (some ⟨gf, 0, none⟩) ∧ sl a' 14 = .pointer (some ⟨b14, 0, none⟩) ∧ sl a' 15 = .int .i64 (i : Int) ∧ sl a' 17 = .slice ao y.n co ∧ sl a' 21 = .int .i64 (t : Int) ∧ sl a' 22 = .slice a1 n1 c1 ∧ sl a' 26 = .slice a3 n3 c3 ∧ sl a' 30 = .slice ua UL.length uc ∧ Ms w w' [.row a1 n1 c1 z1, .row a3 n3 c3 z2, .wts ua uc UL, .row ao y.n co zs, .cell bx y.cs.toArray 33, .cell b11 #[.string (str k2.d), .slice u2 k2.ws.length c2] 63, .any 80 2 u2 k2.ws.length c2 (rcs k2.ws), .disk g k2, .cell b14 #[.string (str (nz z)), .slice none 0 0] 63, .disk gf kf]) Nope) a w44 := by
  have HMX := HMX.out
  have hn13 := hn13.out
  have HMX0 := HMX0.out
  refine wp_sqR (x := cAt [1,1,1,1,1,1,1,0,1,2,2,1,0,2,1,1,1,1,1,2,2,1,0,2,1,1,1,1,1,1,0,0] KDP) (y := cAt [1,1,1,1,1,1,1,0,1,2,2,1,0,2,1,1,1,1,1,2,2,1,0,2,1,1,1,1,1,1,0,1] KDP) (by kernel_rfl) (p46i ya m yc pa na g b11 gf b14 i y ao co t a1 n1 c1 a3 n3 c3 ua uc UL w44 a hf h1 h2 h3 h9 h11 h13 h14 h15 h17 h21 h22 h26 h30) ?_
  rintro a_48 _ ⟨hf, h1, h2, h3, h9, h11, h13, h14, h15, h17, h21, h22, h26, h30, h31, rfl⟩
  refine wp_blockR (x := cAt [1,1,1,1,1,1,1,0,1,2,2,1,0,2,1,1,1,1,1,2,2,1,0,2,1,1,1,1,1,1,0,1,2] KDP) (id := 7) (by kernel_rfl) ?_
  refine wp_loopR (x := cAt [1,1,1,1,1,1,1,0,1,2,2,1,0,2,1,1,1,1,1,2,2,1,0,2,1,1,1,1,1,1,0,1,2,2] KDP) (by kernel_rfl) (fun a' w' => ∃ e : Nat, e ≤ n1 ∧ ∃ z1 : List Int, ∃ z2 : List Int, (Ms w w' [.row a1 n1 c1 z1, .row a3 n3 c3 z2, .wts ua uc UL, .row ao y.n co zs, .cell bx y.cs.toArray 33, .cell b11 #[.string (str k2.d), .slice u2 k2.ws.length c2] 63, .any 80 2 u2 k2.ws.length c2 (rcs k2.ws), .disk g k2, .cell b14 #[.string (str (nz z)), .slice none 0 0] 63, .disk gf kf]) ∧ Fr 274 a' ∧ sl a' 1 = .slice ya m yc ∧ sl a' 2 = .int .i64 pa ∧ sl a' 3 = .int .i64 na ∧ sl a' 9 = .pointer (some ⟨g, 0, none⟩) ∧ sl a' 11 = .pointer (some ⟨b11, 0, none⟩) ∧ sl a' 13 = .pointer (some ⟨gf, 0, none⟩) ∧ sl a' 14 = .pointer (some ⟨b14, 0, none⟩) ∧ sl a' 15 = .int .i64 (i : Int) ∧ sl a' 17 = .slice ao y.n co ∧ sl a' 21 = .int .i64 (t : Int) ∧ sl a' 22 = .slice a1 n1 c1 ∧ sl a' 26 = .slice a3 n3 c3 ∧ sl a' 30 = .slice ua UL.length uc ∧ sl a' 31 = .int .i64 (e : Int)) (fun a' _ => n1 - (numOf (sl a' 31)).toNat) ⟨0, Nat.zero_le _, xs1, xs2, HMX0, hf, h1, h2, h3, h9, h11, h13, h14, h15, h17, h21, h22, h26, h30, h31⟩ ?_
  rintro a_l wp46 ⟨e, hie, z1, z2, HMX, hf, h1, h2, h3, h9, h11, h13, h14, h15, h17, h21, h22, h26, h30, h31⟩
  have hIe := h31
  by_cases hle : e < n1
  case neg =>
    refine wp_endX (p46x ya m yc pa na g b11 gf b14 i y ao co t a1 n1 c1 a3 n3 c3 ua uc UL wp46 e hle a_l hf h1 h2 h3 h9 h11 h13 h14 h15 h17 h21 h22 h26 h30 h31) ?_
    rintro a_49 _ ⟨hf, h1, h2, h3, h9, h11, h13, h14, h15, h17, h21, h22, h26, h30, rfl⟩
    exact thru ⟨z1, z2, hf, h1, h2, h3, h9, h11, h13, h14, h15, h17, h21, h22, h26, h30, HMX⟩
  refine wp_sqR (x := cAt [1,1,1,1,1,1,1,0,1,2,2,1,0,2,1,1,1,1,1,2,2,1,0,2,1,1,1,1,1,1,0,1,2,2,0] KDP) (y := cAt [1,1,1,1,1,1,1,0,1,2,2,1,0,2,1,1,1,1,1,2,2,1,0,2,1,1,1,1,1,1,0,1,2,2,1] KDP) (by kernel_rfl) (p46c ya m yc pa na g b11 gf b14 i y ao co t a1 n1 c1 a3 n3 c3 ua uc UL wp46 e hle a_l hf h1 h2 h3 h9 h11 h13 h14 h15 h17 h21 h22 h26 h30 h31) ?_
  rintro a_50 _ ⟨hf, h1, h2, h3, h9, h11, h13, h14, h15, h17, h21, h22, h26, h30, h31, rfl⟩
  refine wp_sqR (x := cAt [1,1,1,1,1,1,1,0,1,2,2,1,0,2,1,1,1,1,1,2,2,1,0,2,1,1,1,1,1,1,0,1,2,2,1,0] KDP) (y := cAt [1,1,1,1,1,1,1,0,1,2,2,1,0,2,1,1,1,1,1,2,2,1,0,2,1,1,1,1,1,1,0,1,2,2,1,1] KDP) (by kernel_rfl) (R := fun a' w' => ∃ z5 : List Int, ∃ z6 : List Int, (Ms w w' [.row a1 n1 c1 z5, .row a3 n3 c3 z6, .wts ua uc UL, .row ao y.n co zs, .cell bx y.cs.toArray 33, .cell b11 #[.string (str k2.d), .slice u2 k2.ws.length c2] 63, .any 80 2 u2 k2.ws.length c2 (rcs k2.ws), .disk g k2, .cell b14 #[.string (str (nz z)), .slice none 0 0] 63, .disk gf kf]) ∧ Fr 274 a' ∧ sl a' 1 = .slice ya m yc ∧ sl a' 2 = .int .i64 pa ∧ sl a' 3 = .int .i64 na ∧ sl a' 9 = .pointer (some ⟨g, 0, none⟩) ∧ sl a' 11 = .pointer (some ⟨b11, 0, none⟩) ∧ sl a' 13 = .pointer (some ⟨gf, 0, none⟩) ∧ sl a' 14 = .pointer (some ⟨b14, 0, none⟩) ∧ sl a' 15 = .int .i64 (i : Int) ∧ sl a' 17 = .slice ao y.n co ∧ sl a' 21 = .int .i64 (t : Int) ∧ sl a' 22 = .slice a1 n1 c1 ∧ sl a' 26 = .slice a3 n3 c3 ∧ sl a' 30 = .slice ua UL.length uc ∧ sl a' 31 = .int .i64 (e : Int)) ?_ ?_
  · refine wp_blockR (x := cAt [1,1,1,1,1,1,1,0,1,2,2,1,0,2,1,1,1,1,1,2,2,1,0,2,1,1,1,1,1,1,0,1,2,2,1,0,2] KDP) (id := 8) (by kernel_rfl) ?_
    refine wp_sqR (x := cAt [1,1,1,1,1,1,1,0,1,2,2,1,0,2,1,1,1,1,1,2,2,1,0,2,1,1,1,1,1,1,0,1,2,2,1,0,2,0] KDP) (y := cAt [1,1,1,1,1,1,1,0,1,2,2,1,0,2,1,1,1,1,1,2,2,1,0,2,1,1,1,1,1,1,0,1,2,2,1,0,2,1] KDP) (by kernel_rfl) (p49 w ya m yc pa na z g b11 gf kf b14 i y bx ao co k2 u2 c2 zs t a1 n1 c1 a3 n3 c3 ua uc UL wp46 e z1 z2 HMX hle a_50 hf h1 h2 h3 h9 h11 h13 h14 h15 h17 h21 h22 h26 h30 h31) ?_
    rintro a_51 w49 ⟨z3, hf, h1, h2, h3, h9, h11, h13, h14, h15, h17, h21, h22, h26, h30, h31, HM49⟩
    refine wp_endR (p50 w ya m yc pa na z g b11 gf kf b14 i y bx ao co k2 u2 c2 zs t a1 n1 c1 a3 n3 c3 ua uc UL hn13 e z2 hle w49 z3 HM49 a_51 hf h1 h2 h3 h9 h11 h13 h14 h15 h17 h21 h22 h26 h30 h31) ?_
    rintro a_52 w50 ⟨z4, hf, h1, h2, h3, h9, h11, h13, h14, h15, h17, h21, h22, h26, h30, h31, HM50⟩
    exact ⟨z3, z4, HM50, hf, h1, h2, h3, h9, h11, h13, h14, h15, h17, h21, h22, h26, h30, h31⟩
  rintro a_53 w51 ⟨z5, z6, HM51, hf, h1, h2, h3, h9, h11, h13, h14, h15, h17, h21, h22, h26, h30, h31⟩
  refine wp_endR (p46n ya m yc pa na g b11 gf b14 i y ao co t a1 n1 c1 a3 n3 c3 ua uc UL hn13 e hle w51 a_53 hf h1 h2 h3 h9 h11 h13 h14 h15 h17 h21 h22 h26 h30 h31) ?_
  rintro a_54 _ ⟨hf, h1, h2, h3, h9, h11, h13, h14, h15, h17, h21, h22, h26, h30, h31, rfl⟩
  refine ⟨⟨e + 1, hle, z5, z6, HM51, hf, h1, h2, h3, h9, h11, h13, h14, h15, h17, h21, h22, h26, h30, h31⟩, ?_⟩
  rw [hIe, h31]
  simp only [numOf]
  omega

set_option maxRecDepth 100000 in
set_option maxHeartbeats 4000000 in
theorem p51i (ya : Option Addr) (m : Nat) (yc : Nat) (pa : Int) (na : Int) (g : Nat) (b11 : Nat) (gf : Nat) (b14 : Nat) (i : Nat) (y : Ac) (ao : Option Addr) (co : Nat) (t : Nat) (a1 : Option Addr) (n1 : Nat) (c1 : Nat) (a3 : Option Addr) (n3 : Nat) (c3 : Nat) (ua : Option Addr) (uc : Nat) (UL : List Uw) (w46 : World) (a : Act) (hf : Fr 274 a) (h1 : sl a 1 = .slice ya m yc) (h2 : sl a 2 = .int .i64 pa) (h3 : sl a 3 = .int .i64 na) (h9 : sl a 9 = .pointer (some ⟨g, 0, none⟩)) (h11 : sl a 11 = .pointer (some ⟨b11, 0, none⟩)) (h13 : sl a 13 = .pointer (some ⟨gf, 0, none⟩)) (h14 : sl a 14 = .pointer (some ⟨b14, 0, none⟩)) (h15 : sl a 15 = .int .i64 (i : Int)) (h17 : sl a 17 = .slice ao y.n co) (h21 : sl a 21 = .int .i64 (t : Int)) (h22 : sl a 22 = .slice a1 n1 c1) (h26 : sl a 26 = .slice a3 n3 c3) (h30 : sl a 30 = .slice ua UL.length uc) :
    Code.wp Try.prog (cAt [1,1,1,1,1,1,1,0,1,2,2,1,0,2,1,1,1,1,1,2,2,1,0,2,1,1,1,1,1,1,1,0] KDP) (Exit.then (fun a' w' => Fr 274 a' ∧ sl a' 1 = .slice ya m yc ∧ sl a' 2 = .int .i64 pa ∧ sl a' 3 = .int .i64 na ∧ sl a' 9 = .pointer (some ⟨g, 0, none⟩) ∧ sl a' 11 = .pointer (some ⟨b11, 0, none⟩) ∧ sl a' 13 = .pointer (some ⟨gf, 0, none⟩) ∧ sl a' 14 = .pointer (some ⟨b14, 0, none⟩) ∧ sl a' 15 = .int .i64 (i : Int) ∧ sl a' 17 = .slice ao y.n co ∧ sl a' 21 = .int .i64 (t : Int) ∧ sl a' 22 = .slice a1 n1 c1 ∧ sl a' 26 = .slice a3 n3 c3 ∧ sl a' 30 = .slice ua UL.length uc ∧ sl a' 32 = .int .i64 0 ∧ w46 = w') Nope) a w46 := by
  obtain ⟨f, ha, hs⟩ := frKDP hf
  have e1 := (hs 1).trans h1
  have e2 := (hs 2).trans h2
  have e3 := (hs 3).trans h3
  have e9 := (hs 9).trans h9
  have e11 := (hs 11).trans h11
  have e13 := (hs 13).trans h13
  have e14 := (hs 14).trans h14
  have e15 := (hs 15).trans h15
  have e17 := (hs 17).trans h17
  have e21 := (hs 21).trans h21
  have e22 := (hs 22).trans h22
  have e26 := (hs 26).trans h26
  have e30 := (hs 30).trans h30
  rw [e1, e2, e3, e9, e11, e13, e14, e15, e17, e21, e22, e26, e30] at ha
  clear hs hf e1 h1 e2 h2 e3 h3 e9 h9 e11 h11 e13 h13 e14 h14 e15 h15 e17 h17 e21 h21 e22 h22 e26 h26 e30 h30
  subst ha
  refine piece2 fun J0 K0 hJ0 hK0 => ?_
  conv => arg 2; whnf
  go_wp2_with fail
  refine Met.intro (hJ0 _ _ ?_)
  exact ⟨⟨rfl, rfl⟩, rfl, rfl, rfl, rfl, rfl, rfl, rfl, rfl, rfl, rfl, rfl, rfl, rfl, rfl, rfl⟩

set_option maxRecDepth 100000 in
set_option maxHeartbeats 4000000 in
theorem p51x (ya : Option Addr) (m : Nat) (yc : Nat) (pa : Int) (na : Int) (g : Nat) (b11 : Nat) (gf : Nat) (b14 : Nat) (i : Nat) (y : Ac) (ao : Option Addr) (co : Nat) (t : Nat) (a1 : Option Addr) (n1 : Nat) (c1 : Nat) (a3 : Option Addr) (n3 : Nat) (c3 : Nat) (ua : Option Addr) (uc : Nat) (UL : List Uw) (wp51 : World) (e : Nat) (hle : Hid (¬ e < UL.length)) (a : Act) (hf : Fr 274 a) (h1 : sl a 1 = .slice ya m yc) (h2 : sl a 2 = .int .i64 pa) (h3 : sl a 3 = .int .i64 na) (h9 : sl a 9 = .pointer (some ⟨g, 0, none⟩)) (h11 : sl a 11 = .pointer (some ⟨b11, 0, none⟩)) (h13 : sl a 13 = .pointer (some ⟨gf, 0, none⟩)) (h14 : sl a 14 = .pointer (some ⟨b14, 0, none⟩)) (h15 : sl a 15 = .int .i64 (i : Int)) (h17 : sl a 17 = .slice ao y.n co) (h21 : sl a 21 = .int .i64 (t : Int)) (h22 : sl a 22 = .slice a1 n1 c1) (h26 : sl a 26 = .slice a3 n3 c3) (h30 : sl a 30 = .slice ua UL.length uc) (h32 : sl a 32 = .int .i64 (e : Int)) :
    Code.wp Try.prog (cAt [1,1,1,1,1,1,1,0,1,2,2,1,0,2,1,1,1,1,1,2,2,1,0,2,1,1,1,1,1,1,1,1,2,2] KDP) (Outs 9 (fun a' w' => Fr 274 a' ∧ sl a' 1 = .slice ya m yc ∧ sl a' 2 = .int .i64 pa ∧ sl a' 3 = .int .i64 na ∧ sl a' 9 = .pointer (some ⟨g, 0, none⟩) ∧ sl a' 11 = .pointer (some ⟨b11, 0, none⟩) ∧ sl a' 13 = .pointer (some ⟨gf, 0, none⟩) ∧ sl a' 14 = .pointer (some ⟨b14, 0, none⟩) ∧ sl a' 15 = .int .i64 (i : Int) ∧ sl a' 17 = .slice ao y.n co ∧ sl a' 21 = .int .i64 (t : Int) ∧ sl a' 22 = .slice a1 n1 c1 ∧ sl a' 26 = .slice a3 n3 c3 ∧ sl a' 30 = .slice ua UL.length uc ∧ wp51 = w')) a wp51 := by
  obtain ⟨f, ha, hs⟩ := frKDP hf
  have e1 := (hs 1).trans h1
  have e2 := (hs 2).trans h2
  have e3 := (hs 3).trans h3
  have e9 := (hs 9).trans h9
  have e11 := (hs 11).trans h11
  have e13 := (hs 13).trans h13
  have e14 := (hs 14).trans h14
  have e15 := (hs 15).trans h15
  have e17 := (hs 17).trans h17
  have e21 := (hs 21).trans h21
  have e22 := (hs 22).trans h22
  have e26 := (hs 26).trans h26
  have e30 := (hs 30).trans h30
  have e32 := (hs 32).trans h32
  rw [e1, e2, e3, e9, e11, e13, e14, e15, e17, e21, e22, e26, e30, e32] at ha
  clear hs hf e1 h1 e2 h2 e3 h3 e9 h9 e11 h11 e13 h13 e14 h14 e15 h15 e17 h17 e21 h21 e22 h22 e26 h26 e30 h30 e32 h32
  subst ha
  conv => arg 2; whnf
  have hi2 : ¬ (e : Int) < (UL.length : Int) := by have := hle.out; omega
  go_wp2_with fail
  exact ⟨rfl, ⟨rfl, rfl⟩, rfl, rfl, rfl, rfl, rfl, rfl, rfl, rfl, rfl, rfl, rfl, rfl, rfl, rfl⟩

set_option maxRecDepth 100000 in
set_option maxHeartbeats 4000000 in
theorem p51c (ya : Option Addr) (m : Nat) (yc : Nat) (pa : Int) (na : Int) (g : Nat) (b11 : Nat) (gf : Nat) (b14 : Nat) (i : Nat) (y : Ac) (ao : Option Addr) (co : Nat) (t : Nat) (a1 : Option Addr) (n1 : Nat) (c1 : Nat) (a3 : Option Addr) (n3 : Nat) (c3 : Nat) (ua : Option Addr) (uc : Nat) (UL : List Uw) (wp51 : World) (e : Nat) (hle : Hid (e < UL.length)) (a : Act) (hf : Fr 274 a) (h1 : sl a 1 = .slice ya m yc) (h2 : sl a 2 = .int .i64 pa) (h3 : sl a 3 = .int .i64 na) (h9 : sl a 9 = .pointer (some ⟨g, 0, none⟩)) (h11 : sl a 11 = .pointer (some ⟨b11, 0, none⟩)) (h13 : sl a 13 = .pointer (some ⟨gf, 0, none⟩)) (h14 : sl a 14 = .pointer (some ⟨b14, 0, none⟩)) (h15 : sl a 15 = .int .i64 (i : Int)) (h17 : sl a 17 = .slice ao y.n co) (h21 : sl a 21 = .int .i64 (t : Int)) (h22 : sl a 22 = .slice a1 n1 c1) (h26 : sl a 26 = .slice a3 n3 c3) (h30 : sl a 30 = .slice ua UL.length uc) (h32 : sl a 32 = .int .i64 (e : Int)) :
    Code.wp Try.prog (cAt [1,1,1,1,1,1,1,0,1,2,2,1,0,2,1,1,1,1,1,2,2,1,0,2,1,1,1,1,1,1,1,1,2,2,0] KDP) (Exit.then (fun a' w' => Fr 274 a' ∧ sl a' 1 = .slice ya m yc ∧ sl a' 2 = .int .i64 pa ∧ sl a' 3 = .int .i64 na ∧ sl a' 9 = .pointer (some ⟨g, 0, none⟩) ∧ sl a' 11 = .pointer (some ⟨b11, 0, none⟩) ∧ sl a' 13 = .pointer (some ⟨gf, 0, none⟩) ∧ sl a' 14 = .pointer (some ⟨b14, 0, none⟩) ∧ sl a' 15 = .int .i64 (i : Int) ∧ sl a' 17 = .slice ao y.n co ∧ sl a' 21 = .int .i64 (t : Int) ∧ sl a' 22 = .slice a1 n1 c1 ∧ sl a' 26 = .slice a3 n3 c3 ∧ sl a' 30 = .slice ua UL.length uc ∧ sl a' 32 = .int .i64 (e : Int) ∧ wp51 = w') Nope) a wp51 := by
  obtain ⟨f, ha, hs⟩ := frKDP hf
  have e1 := (hs 1).trans h1
  have e2 := (hs 2).trans h2
  have e3 := (hs 3).trans h3
  have e9 := (hs 9).trans h9
  have e11 := (hs 11).trans h11
  have e13 := (hs 13).trans h13
  have e14 := (hs 14).trans h14
  have e15 := (hs 15).trans h15
  have e17 := (hs 17).trans h17
  have e21 := (hs 21).trans h21
  have e22 := (hs 22).trans h22
  have e26 := (hs 26).trans h26
  have e30 := (hs 30).trans h30
  have e32 := (hs 32).trans h32
  rw [e1, e2, e3, e9, e11, e13, e14, e15, e17, e21, e22, e26, e30, e32] at ha
  clear hs hf e1 h1 e2 h2 e3 h3 e9 h9 e11 h11 e13 h13 e14 h14 e15 h15 e17 h17 e21 h21 e22 h22 e26 h26 e30 h30 e32 h32
  subst ha
  refine piece2 fun J0 K0 hJ0 hK0 => ?_
  conv => arg 2; whnf
  have hi2 : (e : Int) < (UL.length : Int) := by have := hle.out; omega
  go_wp2_with fail
  refine Met.intro (hJ0 _ _ ?_)
  exact ⟨⟨rfl, rfl⟩, rfl, rfl, rfl, rfl, rfl, rfl, rfl, rfl, rfl, rfl, rfl, rfl, rfl, rfl, rfl⟩

set_option maxRecDepth 100000 in
set_option maxHeartbeats 4000000 in
theorem p54i (ya : Option Addr) (m : Nat) (yc : Nat) (pa : Int) (na : Int) (g : Nat) (b11 : Nat) (gf : Nat) (b14 : Nat) (i : Nat) (y : Ac) (ao : Option Addr) (co : Nat) (t : Nat) (a1 : Option Addr) (n1 : Nat) (c1 : Nat) (a3 : Option Addr) (n3 : Nat) (c3 : Nat) (ua : Option Addr) (uc : Nat) (UL : List Uw) (wp51 : World) (e : Nat) (a : Act) (hf : Fr 274 a) (h1 : sl a 1 = .slice ya m yc) (h2 : sl a 2 = .int .i64 pa) (h3 : sl a 3 = .int .i64 na) (h9 : sl a 9 = .pointer (some ⟨g, 0, none⟩)) (h11 : sl a 11 = .pointer (some ⟨b11, 0, none⟩)) (h13 : sl a 13 = .pointer (some ⟨gf, 0, none⟩)) (h14 : sl a 14 = .pointer (some ⟨b14, 0, none⟩)) (h15 : sl a 15 = .int .i64 (i : Int)) (h17 : sl a 17 = .slice ao y.n co) (h21 : sl a 21 = .int .i64 (t : Int)) (h22 : sl a 22 = .slice a1 n1 c1) (h26 : sl a 26 = .slice a3 n3 c3) (h30 : sl a 30 = .slice ua UL.length uc) (h32 : sl a 32 = .int .i64 (e : Int)) :
    Code.wp Try.prog (cAt [1,1,1,1,1,1,1,0,1,2,2,1,0,2,1,1,1,1,1,2,2,1,0,2,1,1,1,1,1,1,1,1,2,2,1,0,2,0] KDP) (Exit.then (fun a' w' => Fr 274 a' ∧ sl a' 1 = .slice ya m yc ∧ sl a' 2 = .int .i64 pa ∧ sl a' 3 = .int .i64 na ∧ sl a' 9 = .pointer (some ⟨g, 0, none⟩) ∧ sl a' 11 = .pointer (some ⟨b11, 0, none⟩) ∧ sl a' 13 = .pointer (some ⟨gf, 0, none⟩) ∧ sl a' 14 = .pointer (some ⟨b14, 0, none⟩) ∧ sl a' 15 = .int .i64 (i : Int) ∧ sl a' 17 = .slice ao y.n co ∧ sl a' 21 = .int .i64 (t : Int) ∧ sl a' 22 = .slice a1 n1 c1 ∧ sl a' 26 = .slice a3 n3 c3 ∧ sl a' 30 = .slice ua UL.length uc ∧ sl a' 32 = .int .i64 (e : Int) ∧ sl a' 33 = .int .i64 0 ∧ wp51 = w') Nope) a wp51 := by
  obtain ⟨f, ha, hs⟩ := frKDP hf
  have e1 := (hs 1).trans h1
  have e2 := (hs 2).trans h2
  have e3 := (hs 3).trans h3
  have e9 := (hs 9).trans h9
  have e11 := (hs 11).trans h11
  have e13 := (hs 13).trans h13
  have e14 := (hs 14).trans h14
  have e15 := (hs 15).trans h15
  have e17 := (hs 17).trans h17
  have e21 := (hs 21).trans h21
  have e22 := (hs 22).trans h22
  have e26 := (hs 26).trans h26
  have e30 := (hs 30).trans h30
  have e32 := (hs 32).trans h32
  rw [e1, e2, e3, e9, e11, e13, e14, e15, e17, e21, e22, e26, e30, e32] at ha
  clear hs hf e1 h1 e2 h2 e3 h3 e9 h9 e11 h11 e13 h13 e14 h14 e15 h15 e17 h17 e21 h21 e22 h22 e26 h26 e30 h30 e32 h32
  subst ha
  refine piece2 fun J0 K0 hJ0 hK0 => ?_
  conv => arg 2; whnf
  go_wp2_with fail
  refine Met.intro (hJ0 _ _ ?_)
  exact ⟨⟨rfl, rfl⟩, rfl, rfl, rfl, rfl, rfl, rfl, rfl, rfl, rfl, rfl, rfl, rfl, rfl, rfl, rfl, rfl⟩

set_option maxRecDepth 100000 in
set_option maxHeartbeats 4000000 in
theorem p54x (w : World) (ya : Option Addr) (m : Nat) (yc : Nat) (pa : Int) (na : Int) (z : Nat) (g : Nat) (b11 : Nat) (gf : Nat) (kf : Dk) (b14 : Nat) (i : Nat) (y : Ac) (bx : Nat) (ao : Option Addr) (co : Nat) (k2 : Dk) (u2 : Option Addr) (c2 : Nat) (zs : List Int) (t : Nat) (a1 : Option Addr) (n1 : Nat) (c1 : Nat) (a3 : Option Addr) (n3 : Nat) (c3 : Nat) (ua : Option Addr) (uc : Nat) (UL : List Uw) (e : Nat) (hle : Hid (e < UL.length)) (xn : Nat) (wp54 : World) (jj : Nat) (UL3 : List Uw) (HMZ : Hid (Ms w wp54 [.wts ua uc UL3, .row ao y.n co zs, .cell bx y.cs.toArray 33, .cell b11 #[.string (str k2.d), .slice u2 k2.ws.length c2] 63, .any 80 2 u2 k2.ws.length c2 (rcs k2.ws), .disk g k2, .cell b14 #[.string (str (nz z)), .slice none 0 0] 63, .disk gf kf])) (HX3 : Hid ((UL3.length = UL.length ∧ ∀ x ∈ UL3, x.n ≤ 65536) ∧ ∃ x3, UL3[e]? = some x3 ∧ x3.n = xn)) (hljj : Hid (¬ jj < xn)) (a : Act) (hf : Fr 274 a) (h1 : sl a 1 = .slice ya m yc) (h2 : sl a 2 = .int .i64 pa) (h3 : sl a 3 = .int .i64 na) (h9 : sl a 9 = .pointer (some ⟨g, 0, none⟩)) (h11 : sl a 11 = .pointer (some ⟨b11, 0, none⟩)) (h13 : sl a 13 = .pointer (some ⟨gf, 0, none⟩)) (h14 : sl a 14 = .pointer (some ⟨b14, 0, none⟩)) (h15 : sl a 15 = .int .i64 (i : Int)) (h17 : sl a 17 = .slice ao y.n co) (h21 : sl a 21 = .int .i64 (t : Int)) (h22 : sl a 22 = .slice a1 n1 c1) (h26 : sl a 26 = .slice a3 n3 c3) (h30 : sl a 30 = .slice ua UL.length uc) (h32 : sl a 32 = .int .i64 (e : Int)) (h33 : sl a 33 = .int .i64 (jj : Int)) :
    Code.wp Try.prog (cAt [1,1,1,1,1,1,1,0,1,2,2,1,0,2,1,1,1,1,1,2,2,1,0,2,1,1,1,1,1,1,1,1,2,2,1,0,2,1,2,2] KDP) (Outs 11 (fun a' w' => Fr 274 a' ∧ sl a' 1 = .slice ya m yc ∧ sl a' 2 = .int .i64 pa ∧ sl a' 3 = .int .i64 na ∧ sl a' 9 = .pointer (some ⟨g, 0, none⟩) ∧ sl a' 11 = .pointer (some ⟨b11, 0, none⟩) ∧ sl a' 13 = .pointer (some ⟨gf, 0, none⟩) ∧ sl a' 14 = .pointer (some ⟨b14, 0, none⟩) ∧ sl a' 15 = .int .i64 (i : Int) ∧ sl a' 17 = .slice ao y.n co ∧ sl a' 21 = .int .i64 (t : Int) ∧ sl a' 22 = .slice a1 n1 c1 ∧ sl a' 26 = .slice a3 n3 c3 ∧ sl a' 30 = .slice ua UL.length uc ∧ sl a' 32 = .int .i64 (e : Int) ∧ wp54 = w')) a wp54 := by
  obtain ⟨f, ha, hs⟩ := frKDP hf
  have e1 := (hs 1).trans h1
  have e2 := (hs 2).trans h2
  have e3 := (hs 3).trans h3
  have e9 := (hs 9).trans h9
  have e11 := (hs 11).trans h11
  have e13 := (hs 13).trans h13
  have e14 := (hs 14).trans h14
  have e15 := (hs 15).trans h15
  have e17 := (hs 17).trans h17
  have e21 := (hs 21).trans h21
  have e22 := (hs 22).trans h22
  have e26 := (hs 26).trans h26
  have e30 := (hs 30).trans h30
  have e32 := (hs 32).trans h32
  have e33 := (hs 33).trans h33
  rw [e1, e2, e3, e9, e11, e13, e14, e15, e17, e21, e22, e26, e30, e32, e33] at ha
  clear hs hf e1 h1 e2 h2 e3 h3 e9 h9 e11 h11 e13 h13 e14 h14 e15 h15 e17 h17 e21 h21 e22 h22 e26 h26 e30 h30 e32 h32 e33 h33
  subst ha
  conv => arg 2; whnf
  obtain ⟨x3, hx3, hxn⟩ := HX3.out.2
  obtain ⟨gu, hgu⟩ := Uws.addr (HMZ.out.hd) (by have := (List.getElem?_eq_some_iff.1 hx3).1; omega)
  have hcc := HMZ.out.hd
  rw [hgu] at hcc
  have q1 := (Uws.cells hcc hx3).2
  rw [hxn] at q1
  have he2 : (e : Int) < (UL.length : Int) := by have := hle.out; omega
  have he0 : (0 : Int) ≤ (e : Int) := by omega
  subst hgu
  clear hcc
  have hi2 : ¬ (jj : Int) < (xn : Int) := by have := hljj.out; omega
  go_wp2_with fail
  exact ⟨rfl, ⟨rfl, rfl⟩, rfl, rfl, rfl, rfl, rfl, rfl, rfl, rfl, rfl, rfl, rfl, rfl, rfl, rfl, rfl⟩

set_option maxRecDepth 100000 in
set_option maxHeartbeats 4000000 in
theorem p54c (w : World) (ya : Option Addr) (m : Nat) (yc : Nat) (pa : Int) (na : Int) (z : Nat) (g : Nat) (b11 : Nat) (gf : Nat) (kf : Dk) (b14 : Nat) (i : Nat) (y : Ac) (bx : Nat) (ao : Option Addr) (co : Nat) (k2 : Dk) (u2 : Option Addr) (c2 : Nat) (zs : List Int) (t : Nat) (a1 : Option Addr) (n1 : Nat) (c1 : Nat) (a3 : Option Addr) (n3 : Nat) (c3 : Nat) (ua : Option Addr) (uc : Nat) (UL : List Uw) (e : Nat) (hle : Hid (e < UL.length)) (xn : Nat) (wp54 : World) (jj : Nat) (UL3 : List Uw) (HMZ : Hid (Ms w wp54 [.wts ua uc UL3, .row ao y.n co zs, .cell bx y.cs.toArray 33, .cell b11 #[.string (str k2.d), .slice u2 k2.ws.length c2] 63, .any 80 2 u2 k2.ws.length c2 (rcs k2.ws), .disk g k2, .cell b14 #[.string (str (nz z)), .slice none 0 0] 63, .disk gf kf])) (HX3 : Hid ((UL3.length = UL.length ∧ ∀ x ∈ UL3, x.n ≤ 65536) ∧ ∃ x3, UL3[e]? = some x3 ∧ x3.n = xn)) (hljj : Hid (jj < xn)) (a : Act) (hf : Fr 274 a) (h1 : sl a 1 = .slice ya m yc) (h2 : sl a 2 = .int .i64 pa) (h3 : sl a 3 = .int .i64 na) (h9 : sl a 9 = .pointer (some ⟨g, 0, none⟩)) (h11 : sl a 11 = .pointer (some ⟨b11, 0, none⟩)) (h13 : sl a 13 = .pointer (some ⟨gf, 0, none⟩)) (h14 : sl a 14 = .pointer (some ⟨b14, 0, none⟩)) (h15 : sl a 15 = .int .i64 (i : Int)) (h17 : sl a 17 = .slice ao y.n co) (h21 : sl a 21 = .int .i64 (t : Int)) (h22 : sl a 22 = .slice a1 n1 c1) (h26 : sl a 26 = .slice a3 n3 c3) (h30 : sl a 30 = .slice ua UL.length uc) (h32 : sl a 32 = .int .i64 (e : Int)) (h33 : sl a 33 = .int .i64 (jj : Int)) :
    Code.wp Try.prog (cAt [1,1,1,1,1,1,1,0,1,2,2,1,0,2,1,1,1,1,1,2,2,1,0,2,1,1,1,1,1,1,1,1,2,2,1,0,2,1,2,2,0] KDP) (Exit.then (fun a' w' => Fr 274 a' ∧ sl a' 1 = .slice ya m yc ∧ sl a' 2 = .int .i64 pa ∧ sl a' 3 = .int .i64 na ∧ sl a' 9 = .pointer (some ⟨g, 0, none⟩) ∧ sl a' 11 = .pointer (some ⟨b11, 0, none⟩) ∧ sl a' 13 = .pointer (some ⟨gf, 0, none⟩) ∧ sl a' 14 = .pointer (some ⟨b14, 0, none⟩) ∧ sl a' 15 = .int .i64 (i : Int) ∧ sl a' 17 = .slice ao y.n co ∧ sl a' 21 = .int .i64 (t : Int) ∧ sl a' 22 = .slice a1 n1 c1 ∧ sl a' 26 = .slice a3 n3 c3 ∧ sl a' 30 = .slice ua UL.length uc ∧ sl a' 32 = .int .i64 (e : Int) ∧ sl a' 33 = .int .i64 (jj : Int) ∧ wp54 = w') Nope) a wp54 := by
  obtain ⟨f, ha, hs⟩ := frKDP hf
  have e1 := (hs 1).trans h1
  have e2 := (hs 2).trans h2
  have e3 := (hs 3).trans h3
  have e9 := (hs 9).trans h9
  have e11 := (hs 11).trans h11
  have e13 := (hs 13).trans h13
  have e14 := (hs 14).trans h14
  have e15 := (hs 15).trans h15
  have e17 := (hs 17).trans h17
  have e21 := (hs 21).trans h21
  have e22 := (hs 22).trans h22
  have e26 := (hs 26).trans h26
  have e30 := (hs 30).trans h30
  have e32 := (hs 32).trans h32
  have e33 := (hs 33).trans h33
  rw [e1, e2, e3, e9, e11, e13, e14, e15, e17, e21, e22, e26, e30, e32, e33] at ha
  clear hs hf e1 h1 e2 h2 e3 h3 e9 h9 e11 h11 e13 h13 e14 h14 e15 h15 e17 h17 e21 h21 e22 h22 e26 h26 e30 h30 e32 h32 e33 h33
  subst ha
  refine piece2 fun J0 K0 hJ0 hK0 => ?_
  conv => arg 2; whnf
  obtain ⟨x3, hx3, hxn⟩ := HX3.out.2
  obtain ⟨gu, hgu⟩ := Uws.addr (HMZ.out.hd) (by have := (List.getElem?_eq_some_iff.1 hx3).1; omega)
  have hcc := HMZ.out.hd
  rw [hgu] at hcc
  have q1 := (Uws.cells hcc hx3).2
  rw [hxn] at q1
  have he2 : (e : Int) < (UL.length : Int) := by have := hle.out; omega
  have he0 : (0 : Int) ≤ (e : Int) := by omega
  subst hgu
  clear hcc
  have hi2 : (jj : Int) < (xn : Int) := by have := hljj.out; omega
  go_wp2_with fail
  refine Met.intro (hJ0 _ _ ?_)
  exact ⟨⟨rfl, rfl⟩, rfl, rfl, rfl, rfl, rfl, rfl, rfl, rfl, rfl, rfl, rfl, rfl, rfl, rfl, rfl, rfl⟩

set_option maxRecDepth 100000 in
set_option maxHeartbeats 4000000 in
theorem p57 (w : World) (ya : Option Addr) (m : Nat) (yc : Nat) (pa : Int) (na : Int) (z : Nat) (g : Nat) (b11 : Nat) (gf : Nat) (kf : Dk) (b14 : Nat) (i : Nat) (y : Ac) (bx : Nat) (ao : Option Addr) (co : Nat) (k2 : Dk) (u2 : Option Addr) (c2 : Nat) (zs : List Int) (t : Nat) (a1 : Option Addr) (n1 : Nat) (c1 : Nat) (a3 : Option Addr) (n3 : Nat) (c3 : Nat) (ua : Option Addr) (uc : Nat) (UL : List Uw) (e : Nat) (hle : Hid (e < UL.length)) (xn : Nat) (hxn2 : Hid (xn ≤ 65536)) (wp54 : World) (jj : Nat) (UL3 : List Uw) (HMZ : Hid (Ms w wp54 [.wts ua uc UL3, .row ao y.n co zs, .cell bx y.cs.toArray 33, .cell b11 #[.string (str k2.d), .slice u2 k2.ws.length c2] 63, .any 80 2 u2 k2.ws.length c2 (rcs k2.ws), .disk g k2, .cell b14 #[.string (str (nz z)), .slice none 0 0] 63, .disk gf kf])) (HX3 : Hid ((UL3.length = UL.length ∧ ∀ x ∈ UL3, x.n ≤ 65536) ∧ ∃ x3, UL3[e]? = some x3 ∧ x3.n = xn)) (hljj : Hid (jj < xn)) (a : Act) (hf : Fr 274 a) (h1 : sl a 1 = .slice ya m yc) (h2 : sl a 2 = .int .i64 pa) (h3 : sl a 3 = .int .i64 na) (h9 : sl a 9 = .pointer (some ⟨g, 0, none⟩)) (h11 : sl a 11 = .pointer (some ⟨b11, 0, none⟩)) (h13 : sl a 13 = .pointer (some ⟨gf, 0, none⟩)) (h14 : sl a 14 = .pointer (some ⟨b14, 0, none⟩)) (h15 : sl a 15 = .int .i64 (i : Int)) (h17 : sl a 17 = .slice ao y.n co) (h21 : sl a 21 = .int .i64 (t : Int)) (h22 : sl a 22 = .slice a1 n1 c1) (h26 : sl a 26 = .slice a3 n3 c3) (h30 : sl a 30 = .slice ua UL.length uc) (h32 : sl a 32 = .int .i64 (e : Int)) (h33 : sl a 33 = .int .i64 (jj : Int)) :
    Code.wp Try.prog (cAt [1,1,1,1,1,1,1,0,1,2,2,1,0,2,1,1,1,1,1,2,2,1,0,2,1,1,1,1,1,1,1,1,2,2,1,0,2,1,2,2,1,0,2] KDP) (Exit.then (fun a' w' => ∃ UL5 : List Uw, Fr 274 a' ∧ sl a' 1 = .slice ya m yc ∧ sl a' 2 = .int .i64 pa ∧ sl a' 3 = .int .i64 na ∧ sl a' 9 = .pointer (some ⟨g, 0, none⟩) ∧ sl a' 11 = .pointer (some ⟨b11, 0, none⟩) ∧ sl a' 13 = .pointer (some ⟨gf, 0, none⟩) ∧ sl a' 14 = .pointer (some ⟨b14, 0, none⟩) ∧ sl a' 15 = .int .i64 (i : Int) ∧ sl a' 17 = .slice ao y.n co ∧ sl a' 21 = .int .i64 (t : Int) ∧ sl a' 22 = .slice a1 n1 c1 ∧ sl a' 26 = .slice a3 n3 c3 ∧ sl a' 30 = .slice ua UL.length uc ∧ sl a' 32 = .int .i64 (e : Int) ∧ sl a' 33 = .int .i64 (jj : Int) ∧ Ms w w' [.wts ua uc UL5, .row ao y.n co zs, .cell bx y.cs.toArray 33, .cell b11 #[.string (str k2.d), .slice u2 k2.ws.length c2] 63, .any 80 2 u2 k2.ws.length c2 (rcs k2.ws), .disk g k2, .cell b14 #[.string (str (nz z)), .slice none 0 0] 63, .disk gf kf] ∧ ((UL5.length = UL.length ∧ ∀ x ∈ UL5, x.n ≤ 65536) ∧ ∃ x3, UL5[e]? = some x3 ∧ x3.n = xn)) Nope) a wp54 := by
  obtain ⟨f, ha, hs⟩ := frKDP hf
  have e1 := (hs 1).trans h1
  have e2 := (hs 2).trans h2
  have e3 := (hs 3).trans h3
  have e9 := (hs 9).trans h9
  have e11 := (hs 11).trans h11
  have e13 := (hs 13).trans h13
  have e14 := (hs 14).trans h14
  have e15 := (hs 15).trans h15
  have e17 := (hs 17).trans h17
  have e21 := (hs 21).trans h21
  have e22 := (hs 22).trans h22
  have e26 := (hs 26).trans h26
  have e30 := (hs 30).trans h30
  have e32 := (hs 32).trans h32
  have e33 := (hs 33).trans h33
  rw [e1, e2, e3, e9, e11, e13, e14, e15, e17, e21, e22, e26, e30, e32, e33] at ha
  clear hs hf e1 h1 e2 h2 e3 h3 e9 h9 e11 h11 e13 h13 e14 h14 e15 h15 e17 h17 e21 h21 e22 h22 e26 h26 e30 h30 e32 h32 e33 h33
  subst ha
  refine piece2 fun J0 K0 hJ0 hK0 => ?_
  conv => arg 2; whnf
  obtain ⟨x3, hx3, hxn⟩ := HX3.out.2
  obtain ⟨gu, hgu⟩ := Uws.addr (HMZ.out.hd) (by have := (List.getElem?_eq_some_iff.1 hx3).1; omega)
  have hcc := HMZ.out.hd
  rw [hgu] at hcc
  have q1 := (Uws.cells hcc hx3).2
  rw [hxn] at q1
  have he2 : (e : Int) < (UL.length : Int) := by have := hle.out; omega
  have he0 : (0 : Int) ≤ (e : Int) := by omega
  obtain ⟨g0, hg0, hc, hfz, hset⟩ := Ms.setW HMZ.out hx3 (j := jj) (by have := hljj.out; omega)
  rw [hg0] at q1
  subst hgu
  have hj2 : (jj : Int) < (xn : Int) := by have := hljj.out; omega
  have hj0 : (0 : Int) ≤ (jj : Int) := by omega
  have HSET : Hid (∀ v : Int, Ms w (wp54.setCell ⟨g0, jj, none⟩ (.int .u8 v)) (.wts (some ⟨gu, 0, none⟩) uc (UL3.set e { x3 with d := x3.d.set jj v }) :: [.row ao y.n co zs, .cell bx y.cs.toArray 33, .cell b11 #[.string (str k2.d), .slice u2 k2.ws.length c2] 63, .any 80 2 u2 k2.ws.length c2 (rcs k2.ws), .disk g k2, .cell b14 #[.string (str (nz z)), .slice none 0 0] 63, .disk gf kf]) ∧ ((UL3.set e { x3 with d := x3.d.set jj v }).length = UL.length ∧ (∀ y ∈ UL3.set e { x3 with d := x3.d.set jj v }, y.n ≤ 65536)) ∧ ∃ x4, (UL3.set e { x3 with d := x3.d.set jj v })[e]? = some x4 ∧ x4.n = xn) := fun v => by
    refine ⟨hset v, ⟨by rw [List.length_set]; exact HX3.out.1.1, fun y hy => ?_⟩, _, List.getElem?_set_self (List.getElem?_eq_some_iff.1 hx3).1, hxn⟩
    rcases List.mem_or_eq_of_mem_set hy with h | h
    · exact HX3.out.1.2 y h
    · rw [h]; show x3.n ≤ 65536; rw [hxn]; exact hxn2.out
  clear hset hx3 hcc
  go_wp2_with fail
  refine Met.intro (hJ0 _ _ ?_)
  exact ⟨_, ⟨rfl, rfl⟩, rfl, rfl, rfl, rfl, rfl, rfl, rfl, rfl, rfl, rfl, rfl, rfl, rfl, rfl, rfl, (HSET.out _).1, (HSET.out _).2⟩

set_option maxRecDepth 100000 in
set_option maxHeartbeats 4000000 in
theorem p54n (ya : Option Addr) (m : Nat) (yc : Nat) (pa : Int) (na : Int) (g : Nat) (b11 : Nat) (gf : Nat) (b14 : Nat) (i : Nat) (y : Ac) (ao : Option Addr) (co : Nat) (t : Nat) (a1 : Option Addr) (n1 : Nat) (c1 : Nat) (a3 : Option Addr) (n3 : Nat) (c3 : Nat) (ua : Option Addr) (uc : Nat) (UL : List Uw) (e : Nat) (xn : Nat) (hxn2 : Hid (xn ≤ 65536)) (jj : Nat) (hljj : Hid (jj < xn)) (w58 : World) (a : Act) (hf : Fr 274 a) (h1 : sl a 1 = .slice ya m yc) (h2 : sl a 2 = .int .i64 pa) (h3 : sl a 3 = .int .i64 na) (h9 : sl a 9 = .pointer (some ⟨g, 0, none⟩)) (h11 : sl a 11 = .pointer (some ⟨b11, 0, none⟩)) (h13 : sl a 13 = .pointer (some ⟨gf, 0, none⟩)) (h14 : sl a 14 = .pointer (some ⟨b14, 0, none⟩)) (h15 : sl a 15 = .int .i64 (i : Int)) (h17 : sl a 17 = .slice ao y.n co) (h21 : sl a 21 = .int .i64 (t : Int)) (h22 : sl a 22 = .slice a1 n1 c1) (h26 : sl a 26 = .slice a3 n3 c3) (h30 : sl a 30 = .slice ua UL.length uc) (h32 : sl a 32 = .int .i64 (e : Int)) (h33 : sl a 33 = .int .i64 (jj : Int)) :
    Code.wp Try.prog (cAt [1,1,1,1,1,1,1,0,1,2,2,1,0,2,1,1,1,1,1,2,2,1,0,2,1,1,1,1,1,1,1,1,2,2,1,0,2,1,2,2,1,1] KDP) (Exit.then (fun a' w' => Fr 274 a' ∧ sl a' 1 = .slice ya m yc ∧ sl a' 2 = .int .i64 pa ∧ sl a' 3 = .int .i64 na ∧ sl a' 9 = .pointer (some ⟨g, 0, none⟩) ∧ sl a' 11 = .pointer (some ⟨b11, 0, none⟩) ∧ sl a' 13 = .pointer (some ⟨gf, 0, none⟩) ∧ sl a' 14 = .pointer (some ⟨b14, 0, none⟩) ∧ sl a' 15 = .int .i64 (i : Int) ∧ sl a' 17 = .slice ao y.n co ∧ sl a' 21 = .int .i64 (t : Int) ∧ sl a' 22 = .slice a1 n1 c1 ∧ sl a' 26 = .slice a3 n3 c3 ∧ sl a' 30 = .slice ua UL.length uc ∧ sl a' 32 = .int .i64 (e : Int) ∧ sl a' 33 = .int .i64 ((jj + 1 : Nat) : Int) ∧ w58 = w') Nope) a w58 := by
  obtain ⟨f, ha, hs⟩ := frKDP hf
  have e1 := (hs 1).trans h1
  have e2 := (hs 2).trans h2
  have e3 := (hs 3).trans h3
  have e9 := (hs 9).trans h9
  have e11 := (hs 11).trans h11
  have e13 := (hs 13).trans h13
  have e14 := (hs 14).trans h14
  have e15 := (hs 15).trans h15
  have e17 := (hs 17).trans h17
  have e21 := (hs 21).trans h21
  have e22 := (hs 22).trans h22
  have e26 := (hs 26).trans h26
  have e30 := (hs 30).trans h30
  have e32 := (hs 32).trans h32
  have e33 := (hs 33).trans h33
  rw [e1, e2, e3, e9, e11, e13, e14, e15, e17, e21, e22, e26, e30, e32, e33] at ha
  clear hs hf e1 h1 e2 h2 e3 h3 e9 h9 e11 h11 e13 h13 e14 h14 e15 h15 e17 h17 e21 h21 e22 h22 e26 h26 e30 h30 e32 h32 e33 h33
  subst ha
  refine piece2 fun J0 K0 hJ0 hK0 => ?_
  conv => arg 2; whnf
  have hw : IntKind.i64.wrap ((jj : Int) + 1) = ((jj + 1 : Nat) : Int) := by have := hljj.out; have := hxn2.out; rw [IntKind.wrap_i64]; omega
  go_wp2_with fail
  refine Met.intro (hJ0 _ _ ?_)
  exact ⟨⟨rfl, rfl⟩, rfl, rfl, rfl, rfl, rfl, rfl, rfl, rfl, rfl, rfl, rfl, rfl, rfl, rfl, rfl, rfl⟩

theorem plays_wdat (w : World) (ya : Option Addr) (m : Nat) (yc : Nat) (pa : Int) (na : Int) (z : Nat) (g : Nat) (b11 : Nat) (gf : Nat) (kf : Dk) (b14 : Nat) (i : Nat) (y : Ac) (bx : Nat) (ao : Option Addr) (co : Nat) (k2 : Dk) (u2 : Option Addr) (c2 : Nat) (zs : List Int) (t : Nat) (a1 : Option Addr) (n1 : Nat) (c1 : Nat) (a3 : Option Addr) (n3 : Nat) (c3 : Nat) (ua : Option Addr) (uc : Nat) (UL : List Uw) (wp51 : World) (e : Nat) (UL2 : List Uw) (HMW : Hid (Ms w wp51 [.wts ua uc UL2, .row ao y.n co zs, .cell bx y.cs.toArray 33, .cell b11 #[.string (str k2.d), .slice u2 k2.ws.length c2] 63, .any 80 2 u2 k2.ws.length c2 (rcs k2.ws), .disk g k2, .cell b14 #[.string (str (nz z)), .slice none 0 0] 63, .disk gf kf])) (hle : Hid (e < UL.length)) (xn : Nat) (hxn2 : Hid (xn ≤ 65536)) (HX30 : Hid ((UL2.length = UL.length ∧ ∀ x ∈ UL2, x.n ≤ 65536) ∧ ∃ x3, UL2[e]? = some x3 ∧ x3.n = xn)) (a : Act) (hf : Fr 274 a) (h1 : sl a 1 = .slice ya m yc) (h2 : sl a 2 = .int .i64 pa) (h3 : sl a 3 = .int .i64 na) (h9 : sl a 9 = .pointer (some ⟨g, 0, none⟩)) (h11 : sl a 11 = .pointer (some ⟨b11, 0, none⟩)) (h13 : sl a 13 = .pointer (some ⟨gf, 0, none⟩)) (h14 : sl a 14 = .pointer (some ⟨b14, 0, none⟩)) (h15 : sl a 15 = .int .i64 (i : Int)) (h17 : sl a 17 = .slice ao y.n co) (h21 : sl a 21 = .int .i64 (t : Int)) (h22 : sl a 22 = .slice a1 n1 c1) (h26 : sl a 26 = .slice a3 n3 c3) (h30 : sl a 30 = .slice ua UL.length uc) (h32 : sl a 32 = .int .i64 (e : Int)) :
    Code.wp Try.prog (cAt [1,1,1,1,1,1,1,0,1,2,2,1,0,2,1,1,1,1,1,2,2,1,0,2,1,1,1,1,1,1,1,1,2,2,1,0,2] KDP) (Exit.then (fun a' w' => ∃ UL3 : List Uw, Fr 274 a' ∧ sl a' 1 = .slice ya m yc ∧ sl a' 2 = .int .i64 pa ∧ sl a' 3 = .int .i64 na ∧ sl a' 9 = .pointer (some ⟨g, 0, none⟩) ∧ sl a' 11 = .pointer (some ⟨b11, 0, none⟩) ∧ sl a' 13 = .pointer (some ⟨gf, 0, none⟩) ∧ sl a' 14 = .pointer (some ⟨b14, 0, none⟩) ∧ sl a' 15 = .int .i64 (i : Int) ∧ sl a' 17 = .slice ao y.n co ∧ sl a' 21 = .int .i64 (t : Int) ∧ sl a' 22 = .slice a1 n1 c1 ∧ sl a' 26 = .slice a3 n3 c3 ∧ sl a' 30 = .slice ua UL.length uc ∧ sl a' 32 = .int .i64 (e : Int) ∧ Ms w w' [.wts ua uc UL3, .row ao y.n co zs, .cell bx y.cs.toArray 33, .cell b11 #[.string (str k2.d), .slice u2 k2.ws.length c2] 63, .any 80 2 u2 k2.ws.length c2 (rcs k2.ws), .disk g k2, .cell b14 #[.string (str (nz z)), .slice none 0 0] 63, .disk gf kf] ∧ ((UL3.length = UL.length ∧ ∀ x ∈ UL3, x.n ≤ 65536) ∧ ∃ x3, UL3[e]? = some x3 ∧ x3.n = xn)) Nope) a wp51 := by
  have HMW := HMW.out
  have hle := hle.out
  have hxn2 := hxn2.out
  have HX30 := HX30.out
  refine wp_sqR (x := cAt [1,1,1,1,1,1,1,0,1,2,2,1,0,2,1,1,1,1,1,2,2,1,0,2,1,1,1,1,1,1,1,1,2,2,1,0,2,0] KDP) (y := cAt [1,1,1,1,1,1,1,0,1,2,2,1,0,2,1,1,1,1,1,2,2,1,0,2,1,1,1,1,1,1,1,1,2,2,1,0,2,1] KDP) (by kernel_rfl) (p54i ya m yc pa na g b11 gf b14 i y ao co t a1 n1 c1 a3 n3 c3 ua uc UL wp51 e a hf h1 h2 h3 h9 h11 h13 h14 h15 h17 h21 h22 h26 h30 h32) ?_
  rintro a_59 _ ⟨hf, h1, h2, h3, h9, h11, h13, h14, h15, h17, h21, h22, h26, h30, h32, h33, rfl⟩
  refine wp_blockR (x := cAt [1,1,1,1,1,1,1,0,1,2,2,1,0,2,1,1,1,1,1,2,2,1,0,2,1,1,1,1,1,1,1,1,2,2,1,0,2,1,2] KDP) (id := 11) (by kernel_rfl) ?_
  refine wp_loopR (x := cAt [1,1,1,1,1,1,1,0,1,2,2,1,0,2,1,1,1,1,1,2,2,1,0,2,1,1,1,1,1,1,1,1,2,2,1,0,2,1,2,2] KDP) (by kernel_rfl) (fun a' w' => ∃ jj : Nat, jj ≤ xn ∧ ∃ UL3 : List Uw, (Ms w w' [.wts ua uc UL3, .row ao y.n co zs, .cell bx y.cs.toArray 33, .cell b11 #[.string (str k2.d), .slice u2 k2.ws.length c2] 63, .any 80 2 u2 k2.ws.length c2 (rcs k2.ws), .disk g k2, .cell b14 #[.string (str (nz z)), .slice none 0 0] 63, .disk gf kf]) ∧ ((UL3.length = UL.length ∧ ∀ x ∈ UL3, x.n ≤ 65536) ∧ ∃ x3, UL3[e]? = some x3 ∧ x3.n = xn) ∧ Fr 274 a' ∧ sl a' 1 = .slice ya m yc ∧ sl a' 2 = .int .i64 pa ∧ sl a' 3 = .int .i64 na ∧ sl a' 9 = .pointer (some ⟨g, 0, none⟩) ∧ sl a' 11 = .pointer (some ⟨b11, 0, none⟩) ∧ sl a' 13 = .pointer (some ⟨gf, 0, none⟩) ∧ sl a' 14 = .pointer (some ⟨b14, 0, none⟩) ∧ sl a' 15 = .int .i64 (i : Int) ∧ sl a' 17 = .slice ao y.n co ∧ sl a' 21 = .int .i64 (t : Int) ∧ sl a' 22 = .slice a1 n1 c1 ∧ sl a' 26 = .slice a3 n3 c3 ∧ sl a' 30 = .slice ua UL.length uc ∧ sl a' 32 = .int .i64 (e : Int) ∧ sl a' 33 = .int .i64 (jj : Int)) (fun a' _ => xn - (numOf (sl a' 33)).toNat) ⟨0, Nat.zero_le _, UL2, HMW, HX30, hf, h1, h2, h3, h9, h11, h13, h14, h15, h17, h21, h22, h26, h30, h32, h33⟩ ?_
  rintro a_l wp54 ⟨jj, hijj, UL3, HMZ, HX3, hf, h1, h2, h3, h9, h11, h13, h14, h15, h17, h21, h22, h26, h30, h32, h33⟩
  have hIjj := h33
  by_cases hljj : jj < xn
  case neg =>
    refine wp_endX (p54x w ya m yc pa na z g b11 gf kf b14 i y bx ao co k2 u2 c2 zs t a1 n1 c1 a3 n3 c3 ua uc UL e hle xn wp54 jj UL3 HMZ HX3 hljj a_l hf h1 h2 h3 h9 h11 h13 h14 h15 h17 h21 h22 h26 h30 h32 h33) ?_
    rintro a_60 _ ⟨hf, h1, h2, h3, h9, h11, h13, h14, h15, h17, h21, h22, h26, h30, h32, rfl⟩
    exact thru ⟨UL3, hf, h1, h2, h3, h9, h11, h13, h14, h15, h17, h21, h22, h26, h30, h32, HMZ, HX3⟩
  refine wp_sqR (x := cAt [1,1,1,1,1,1,1,0,1,2,2,1,0,2,1,1,1,1,1,2,2,1,0,2,1,1,1,1,1,1,1,1,2,2,1,0,2,1,2,2,0] KDP) (y := cAt [1,1,1,1,1,1,1,0,1,2,2,1,0,2,1,1,1,1,1,2,2,1,0,2,1,1,1,1,1,1,1,1,2,2,1,0,2,1,2,2,1] KDP) (by kernel_rfl) (p54c w ya m yc pa na z g b11 gf kf b14 i y bx ao co k2 u2 c2 zs t a1 n1 c1 a3 n3 c3 ua uc UL e hle xn wp54 jj UL3 HMZ HX3 hljj a_l hf h1 h2 h3 h9 h11 h13 h14 h15 h17 h21 h22 h26 h30 h32 h33) ?_
  rintro a_61 _ ⟨hf, h1, h2, h3, h9, h11, h13, h14, h15, h17, h21, h22, h26, h30, h32, h33, rfl⟩
  refine wp_sqR (x := cAt [1,1,1,1,1,1,1,0,1,2,2,1,0,2,1,1,1,1,1,2,2,1,0,2,1,1,1,1,1,1,1,1,2,2,1,0,2,1,2,2,1,0] KDP) (y := cAt [1,1,1,1,1,1,1,0,1,2,2,1,0,2,1,1,1,1,1,2,2,1,0,2,1,1,1,1,1,1,1,1,2,2,1,0,2,1,2,2,1,1] KDP) (by kernel_rfl) (R := fun a' w' => ∃ UL4 : List Uw, (Ms w w' [.wts ua uc UL4, .row ao y.n co zs, .cell bx y.cs.toArray 33, .cell b11 #[.string (str k2.d), .slice u2 k2.ws.length c2] 63, .any 80 2 u2 k2.ws.length c2 (rcs k2.ws), .disk g k2, .cell b14 #[.string (str (nz z)), .slice none 0 0] 63, .disk gf kf]) ∧ ((UL4.length = UL.length ∧ ∀ x ∈ UL4, x.n ≤ 65536) ∧ ∃ x3, UL4[e]? = some x3 ∧ x3.n = xn) ∧ Fr 274 a' ∧ sl a' 1 = .slice ya m yc ∧ sl a' 2 = .int .i64 pa ∧ sl a' 3 = .int .i64 na ∧ sl a' 9 = .pointer (some ⟨g, 0, none⟩) ∧ sl a' 11 = .pointer (some ⟨b11, 0, none⟩) ∧ sl a' 13 = .pointer (some ⟨gf, 0, none⟩) ∧ sl a' 14 = .pointer (some ⟨b14, 0, none⟩) ∧ sl a' 15 = .int .i64 (i : Int) ∧ sl a' 17 = .slice ao y.n co ∧ sl a' 21 = .int .i64 (t : Int) ∧ sl a' 22 = .slice a1 n1 c1 ∧ sl a' 26 = .slice a3 n3 c3 ∧ sl a' 30 = .slice ua UL.length uc ∧ sl a' 32 = .int .i64 (e : Int) ∧ sl a' 33 = .int .i64 (jj : Int)) ?_ ?_
  · refine wp_blockR (x := cAt [1,1,1,1,1,1,1,0,1,2,2,1,0,2,1,1,1,1,1,2,2,1,0,2,1,1,1,1,1,1,1,1,2,2,1,0,2,1,2,2,1,0,2] KDP) (id := 12) (by kernel_rfl) ?_
    refine wp_endR (p57 w ya m yc pa na z g b11 gf kf b14 i y bx ao co k2 u2 c2 zs t a1 n1 c1 a3 n3 c3 ua uc UL e hle xn hxn2 wp54 jj UL3 HMZ HX3 hljj a_61 hf h1 h2 h3 h9 h11 h13 h14 h15 h17 h21 h22 h26 h30 h32 h33) ?_
    rintro a_62 w57 ⟨UL5, hf, h1, h2, h3, h9, h11, h13, h14, h15, h17, h21, h22, h26, h30, h32, h33, HM57, HX57⟩
    exact ⟨UL5, HM57, HX57, hf, h1, h2, h3, h9, h11, h13, h14, h15, h17, h21, h22, h26, h30, h32, h33⟩
  rintro a_63 w58 ⟨UL4, HM58, HX58, hf, h1, h2, h3, h9, h11, h13, h14, h15, h17, h21, h22, h26, h30, h32, h33⟩
  refine wp_endR (p54n ya m yc pa na g b11 gf b14 i y ao co t a1 n1 c1 a3 n3 c3 ua uc UL e xn hxn2 jj hljj w58 a_63 hf h1 h2 h3 h9 h11 h13 h14 h15 h17 h21 h22 h26 h30 h32 h33) ?_
  rintro a_64 _ ⟨hf, h1, h2, h3, h9, h11, h13, h14, h15, h17, h21, h22, h26, h30, h32, h33, rfl⟩
  refine ⟨⟨jj + 1, hljj, UL4, HM58, HX58, hf, h1, h2, h3, h9, h11, h13, h14, h15, h17, h21, h22, h26, h30, h32, h33⟩, ?_⟩
  rw [hIjj, h33]
  simp only [numOf]
  omega

set_option maxRecDepth 100000 in
set_option maxHeartbeats 4000000 in
theorem p51n (ya : Option Addr) (m : Nat) (yc : Nat) (pa : Int) (na : Int) (g : Nat) (b11 : Nat) (gf : Nat) (b14 : Nat) (i : Nat) (y : Ac) (ao : Option Addr) (co : Nat) (t : Nat) (a1 : Option Addr) (n1 : Nat) (c1 : Nat) (a3 : Option Addr) (n3 : Nat) (c3 : Nat) (ua : Option Addr) (uc : Nat) (UL : List Uw) (hul : Hid (UL.length ≤ 1000)) (e : Nat) (hle : Hid (e < UL.length)) (w60 : World) (a : Act) (hf : Fr 274 a) (h1 : sl a 1 = .slice ya m yc) (h2 : sl a 2 = .int .i64 pa) (h3 : sl a 3 = .int .i64 na) (h9 : sl a 9 = .pointer (some ⟨g, 0, none⟩)) (h11 : sl a 11 = .pointer (some ⟨b11, 0, none⟩)) (h13 : sl a 13 = .pointer (some ⟨gf, 0, none⟩)) (h14 : sl a 14 = .pointer (some ⟨b14, 0, none⟩)) (h15 : sl a 15 = .int .i64 (i : Int)) (h17 : sl a 17 = .slice ao y.n co) (h21 : sl a 21 = .int .i64 (t : Int)) (h22 : sl a 22 = .slice a1 n1 c1) (h26 : sl a 26 = .slice a3 n3 c3) (h30 : sl a 30 = .slice ua UL.length uc) (h32 : sl a 32 = .int .i64 (e : Int)) :
    Code.wp Try.prog (cAt [1,1,1,1,1,1,1,0,1,2,2,1,0,2,1,1,1,1,1,2,2,1,0,2,1,1,1,1,1,1,1,1,2,2,1,1] KDP) (Exit.then (fun a' w' => Fr 274 a' ∧ sl a' 1 = .slice ya m yc ∧ sl a' 2 = .int .i64 pa ∧ sl a' 3 = .int .i64 na ∧ sl a' 9 = .pointer (some ⟨g, 0, none⟩) ∧ sl a' 11 = .pointer (some ⟨b11, 0, none⟩) ∧ sl a' 13 = .pointer (some ⟨gf, 0, none⟩) ∧ sl a' 14 = .pointer (some ⟨b14, 0, none⟩) ∧ sl a' 15 = .int .i64 (i : Int) ∧ sl a' 17 = .slice ao y.n co ∧ sl a' 21 = .int .i64 (t : Int) ∧ sl a' 22 = .slice a1 n1 c1 ∧ sl a' 26 = .slice a3 n3 c3 ∧ sl a' 30 = .slice ua UL.length uc ∧ sl a' 32 = .int .i64 ((e + 1 : Nat) : Int) ∧ w60 = w') Nope) a w60 := by
  obtain ⟨f, ha, hs⟩ := frKDP hf
  have e1 := (hs 1).trans h1
  have e2 := (hs 2).trans h2
  have e3 := (hs 3).trans h3
  have e9 := (hs 9).trans h9
  have e11 := (hs 11).trans h11
  have e13 := (hs 13).trans h13
  have e14 := (hs 14).trans h14
  have e15 := (hs 15).trans h15
  have e17 := (hs 17).trans h17
  have e21 := (hs 21).trans h21
  have e22 := (hs 22).trans h22
  have e26 := (hs 26).trans h26
  have e30 := (hs 30).trans h30
  have e32 := (hs 32).trans h32
  rw [e1, e2, e3, e9, e11, e13, e14, e15, e17, e21, e22, e26, e30, e32] at ha
  clear hs hf e1 h1 e2 h2 e3 h3 e9 h9 e11 h11 e13 h13 e14 h14 e15 h15 e17 h17 e21 h21 e22 h22 e26 h26 e30 h30 e32 h32
  subst ha
  refine piece2 fun J0 K0 hJ0 hK0 => ?_
  conv => arg 2; whnf
  have hw : IntKind.i64.wrap ((e : Int) + 1) = ((e + 1 : Nat) : Int) := by have := hle.out; have := hul.out; rw [IntKind.wrap_i64]; omega
  go_wp2_with fail
  refine Met.intro (hJ0 _ _ ?_)
  exact ⟨⟨rfl, rfl⟩, rfl, rfl, rfl, rfl, rfl, rfl, rfl, rfl, rfl, rfl, rfl, rfl, rfl, rfl, rfl⟩

theorem plays_uns (w : World) (ya : Option Addr) (m : Nat) (yc : Nat) (pa : Int) (na : Int) (z : Nat) (g : Nat) (b11 : Nat) (gf : Nat) (kf : Dk) (b14 : Nat) (i : Nat) (y : Ac) (bx : Nat) (ao : Option Addr) (co : Nat) (k2 : Dk) (u2 : Option Addr) (c2 : Nat) (zs : List Int) (t : Nat) (a1 : Option Addr) (n1 : Nat) (c1 : Nat) (a3 : Option Addr) (n3 : Nat) (c3 : Nat) (ua : Option Addr) (uc : Nat) (UL : List Uw) (w46 : World) (HMW0 : Hid (Ms w w46 [.wts ua uc UL, .row ao y.n co zs, .cell bx y.cs.toArray 33, .cell b11 #[.string (str k2.d), .slice u2 k2.ws.length c2] 63, .any 80 2 u2 k2.ws.length c2 (rcs k2.ws), .disk g k2, .cell b14 #[.string (str (nz z)), .slice none 0 0] 63, .disk gf kf])) (HUN : Hid (UL.length = UL.length ∧ ∀ x ∈ UL, x.n ≤ 65536)) (hul : Hid (UL.length ≤ 1000)) (a : Act) (hf : Fr 274 a) (h1 : sl a 1 = .slice ya m yc) (h2 : sl a 2 = .int .i64 pa) (h3 : sl a 3 = .int .i64 na) (h9 : sl a 9 = .pointer (some ⟨g, 0, none⟩)) (h11 : sl a 11 = .pointer (some ⟨b11, 0, none⟩)) (h13 : sl a 13 = .pointer (some ⟨gf, 0, none⟩)) (h14 : sl a 14 = .pointer (some ⟨b14, 0, none⟩)) (h15 : sl a 15 = .int .i64 (i : Int)) (h17 : sl a 17 = .slice ao y.n co) (h21 : sl a 21 = .int .i64 (t : Int)) (h22 : sl a 22 = .slice a1 n1 c1) (h26 : sl a 26 = .slice a3 n3 c3) (h30 : sl a 30 = .slice ua UL.length uc) :
    Code.wp Try.prog (cAt [1,1,1,1,1,1,1,0,1,2,2,1,0,2,1,1,1,1,1,2,2,1,0,2,1,1,1,1,1,1,1] KDP) (Exit.then (fun a' w' => ∃ UL2 : List Uw, Fr 274 a' ∧ sl a' 1 = .slice ya m yc ∧ sl a' 2 = .int .i64 pa ∧ sl a' 3 = .int .i64 na ∧ sl a' 9 = .pointer (some ⟨g, 0, none⟩) ∧ sl a' 11 = .pointer (some ⟨b11, 0, none⟩) ∧ sl a' 13 = .pointer (some ⟨gf, 0, none⟩) ∧ sl a' 14 = .pointer (some ⟨b14, 0, none⟩) ∧ sl a' 15 = .int .i64 (i : Int) ∧ sl a' 17 = .slice ao y.n co ∧ sl a' 21 = .int .i64 (t : Int) ∧ sl a' 22 = .slice a1 n1 c1 ∧ sl a' 26 = .slice a3 n3 c3 ∧ sl a' 30 = .slice ua UL.length uc ∧ Ms w w' [.wts ua uc UL2, .row ao y.n co zs, .cell bx y.cs.toArray 33, .cell b11 #[.string (str k2.d), .slice u2 k2.ws.length c2] 63, .any 80 2 u2 k2.ws.length c2 (rcs k2.ws), .disk g k2, .cell b14 #[.string (str (nz z)), .slice none 0 0] 63, .disk gf kf] ∧ (UL2.length = UL.length ∧ ∀ x ∈ UL2, x.n ≤ 65536)) Nope) a w46 := by
  have HMW0 := HMW0.out
  have HUN := HUN.out
  have hul := hul.out
  refine wp_sqR (x := cAt [1,1,1,1,1,1,1,0,1,2,2,1,0,2,1,1,1,1,1,2,2,1,0,2,1,1,1,1,1,1,1,0] KDP) (y := cAt [1,1,1,1,1,1,1,0,1,2,2,1,0,2,1,1,1,1,1,2,2,1,0,2,1,1,1,1,1,1,1,1] KDP) (by kernel_rfl) (p51i ya m yc pa na g b11 gf b14 i y ao co t a1 n1 c1 a3 n3 c3 ua uc UL w46 a hf h1 h2 h3 h9 h11 h13 h14 h15 h17 h21 h22 h26 h30) ?_
  rintro a_56 _ ⟨hf, h1, h2, h3, h9, h11, h13, h14, h15, h17, h21, h22, h26, h30, h32, rfl⟩
  refine wp_blockR (x := cAt [1,1,1,1,1,1,1,0,1,2,2,1,0,2,1,1,1,1,1,2,2,1,0,2,1,1,1,1,1,1,1,1,2] KDP) (id := 9) (by kernel_rfl) ?_
  refine wp_loopR (x := cAt [1,1,1,1,1,1,1,0,1,2,2,1,0,2,1,1,1,1,1,2,2,1,0,2,1,1,1,1,1,1,1,1,2,2] KDP) (by kernel_rfl) (fun a' w' => ∃ e : Nat, e ≤ UL.length ∧ ∃ UL2 : List Uw, (Ms w w' [.wts ua uc UL2, .row ao y.n co zs, .cell bx y.cs.toArray 33, .cell b11 #[.string (str k2.d), .slice u2 k2.ws.length c2] 63, .any 80 2 u2 k2.ws.length c2 (rcs k2.ws), .disk g k2, .cell b14 #[.string (str (nz z)), .slice none 0 0] 63, .disk gf kf]) ∧ (UL2.length = UL.length ∧ ∀ x ∈ UL2, x.n ≤ 65536) ∧ Fr 274 a' ∧ sl a' 1 = .slice ya m yc ∧ sl a' 2 = .int .i64 pa ∧ sl a' 3 = .int .i64 na ∧ sl a' 9 = .pointer (some ⟨g, 0, none⟩) ∧ sl a' 11 = .pointer (some ⟨b11, 0, none⟩) ∧ sl a' 13 = .pointer (some ⟨gf, 0, none⟩) ∧ sl a' 14 = .pointer (some ⟨b14, 0, none⟩) ∧ sl a' 15 = .int .i64 (i : Int) ∧ sl a' 17 = .slice ao y.n co ∧ sl a' 21 = .int .i64 (t : Int) ∧ sl a' 22 = .slice a1 n1 c1 ∧ sl a' 26 = .slice a3 n3 c3 ∧ sl a' 30 = .slice ua UL.length uc ∧ sl a' 32 = .int .i64 (e : Int)) (fun a' _ => UL.length - (numOf (sl a' 32)).toNat) ⟨0, Nat.zero_le _, UL, HMW0, HUN, hf, h1, h2, h3, h9, h11, h13, h14, h15, h17, h21, h22, h26, h30, h32⟩ ?_
  rintro a_l wp51 ⟨e, hie, UL2, HMW, HUM, hf, h1, h2, h3, h9, h11, h13, h14, h15, h17, h21, h22, h26, h30, h32⟩
  have hIe := h32
  by_cases hle : e < UL.length
  case neg =>
    refine wp_endX (p51x ya m yc pa na g b11 gf b14 i y ao co t a1 n1 c1 a3 n3 c3 ua uc UL wp51 e hle a_l hf h1 h2 h3 h9 h11 h13 h14 h15 h17 h21 h22 h26 h30 h32) ?_
    rintro a_57 _ ⟨hf, h1, h2, h3, h9, h11, h13, h14, h15, h17, h21, h22, h26, h30, rfl⟩
    exact thru ⟨UL2, hf, h1, h2, h3, h9, h11, h13, h14, h15, h17, h21, h22, h26, h30, HMW, HUM⟩
  refine wp_sqR (x := cAt [1,1,1,1,1,1,1,0,1,2,2,1,0,2,1,1,1,1,1,2,2,1,0,2,1,1,1,1,1,1,1,1,2,2,0] KDP) (y := cAt [1,1,1,1,1,1,1,0,1,2,2,1,0,2,1,1,1,1,1,2,2,1,0,2,1,1,1,1,1,1,1,1,2,2,1] KDP) (by kernel_rfl) (p51c ya m yc pa na g b11 gf b14 i y ao co t a1 n1 c1 a3 n3 c3 ua uc UL wp51 e hle a_l hf h1 h2 h3 h9 h11 h13 h14 h15 h17 h21 h22 h26 h30 h32) ?_
  rintro a_58 _ ⟨hf, h1, h2, h3, h9, h11, h13, h14, h15, h17, h21, h22, h26, h30, h32, rfl⟩
  refine wp_sqR (x := cAt [1,1,1,1,1,1,1,0,1,2,2,1,0,2,1,1,1,1,1,2,2,1,0,2,1,1,1,1,1,1,1,1,2,2,1,0] KDP) (y := cAt [1,1,1,1,1,1,1,0,1,2,2,1,0,2,1,1,1,1,1,2,2,1,0,2,1,1,1,1,1,1,1,1,2,2,1,1] KDP) (by kernel_rfl) (R := fun a' w' => ∃ UL6 : List Uw, (Ms w w' [.wts ua uc UL6, .row ao y.n co zs, .cell bx y.cs.toArray 33, .cell b11 #[.string (str k2.d), .slice u2 k2.ws.length c2] 63, .any 80 2 u2 k2.ws.length c2 (rcs k2.ws), .disk g k2, .cell b14 #[.string (str (nz z)), .slice none 0 0] 63, .disk gf kf]) ∧ (UL6.length = UL.length ∧ ∀ x ∈ UL6, x.n ≤ 65536) ∧ Fr 274 a' ∧ sl a' 1 = .slice ya m yc ∧ sl a' 2 = .int .i64 pa ∧ sl a' 3 = .int .i64 na ∧ sl a' 9 = .pointer (some ⟨g, 0, none⟩) ∧ sl a' 11 = .pointer (some ⟨b11, 0, none⟩) ∧ sl a' 13 = .pointer (some ⟨gf, 0, none⟩) ∧ sl a' 14 = .pointer (some ⟨b14, 0, none⟩) ∧ sl a' 15 = .int .i64 (i : Int) ∧ sl a' 17 = .slice ao y.n co ∧ sl a' 21 = .int .i64 (t : Int) ∧ sl a' 22 = .slice a1 n1 c1 ∧ sl a' 26 = .slice a3 n3 c3 ∧ sl a' 30 = .slice ua UL.length uc ∧ sl a' 32 = .int .i64 (e : Int)) ?_ ?_
  · refine wp_blockR (x := cAt [1,1,1,1,1,1,1,0,1,2,2,1,0,2,1,1,1,1,1,2,2,1,0,2,1,1,1,1,1,1,1,1,2,2,1,0,2] KDP) (id := 10) (by kernel_rfl) ?_
    obtain ⟨x0, hx0⟩ : ∃ x, UL2[e]? = some x := ⟨_, List.getElem?_eq_getElem (by rw [HUM.1]; exact hle)⟩
    obtain ⟨xn, hxn⟩ : ∃ n, x0.n = n := ⟨_, rfl⟩
    have hxn2 : xn ≤ 65536 := by rw [← hxn]; exact HUM.2 x0 (List.mem_of_getElem? hx0)
    have HX30 : (UL2.length = UL.length ∧ ∀ x ∈ UL2, x.n ≤ 65536) ∧ ∃ x3, UL2[e]? = some x3 ∧ x3.n = xn := ⟨HUM, x0, hx0, hxn⟩
    refine wp_endR (plays_wdat w ya m yc pa na z g b11 gf kf b14 i y bx ao co k2 u2 c2 zs t a1 n1 c1 a3 n3 c3 ua uc UL wp51 e UL2 HMW hle xn hxn2 HX30 a_58 hf h1 h2 h3 h9 h11 h13 h14 h15 h17 h21 h22 h26 h30 h32) ?_
    rintro a_65 w55 ⟨UL3, hf, h1, h2, h3, h9, h11, h13, h14, h15, h17, h21, h22, h26, h30, h32, HMZ1, HX31⟩
    exact ⟨UL3, HMZ1, HX31.1, hf, h1, h2, h3, h9, h11, h13, h14, h15, h17, h21, h22, h26, h30, h32⟩
  rintro a_66 w60 ⟨UL6, HM60, HU60, hf, h1, h2, h3, h9, h11, h13, h14, h15, h17, h21, h22, h26, h30, h32⟩
  refine wp_endR (p51n ya m yc pa na g b11 gf b14 i y ao co t a1 n1 c1 a3 n3 c3 ua uc UL hul e hle w60 a_66 hf h1 h2 h3 h9 h11 h13 h14 h15 h17 h21 h22 h26 h30 h32) ?_
  rintro a_67 _ ⟨hf, h1, h2, h3, h9, h11, h13, h14, h15, h17, h21, h22, h26, h30, h32, rfl⟩
  refine ⟨⟨e + 1, hle, UL6, HM60, HU60, hf, h1, h2, h3, h9, h11, h13, h14, h15, h17, h21, h22, h26, h30, h32⟩, ?_⟩
  rw [hIe, h32]
  simp only [numOf]
  omega

theorem plays_read (w : World) (ya : Option Addr) (m : Nat) (yc : Nat) (pa : Int) (na : Int) (HMX : Hid (m ≤ maxLen)) (HIP : Hid (I64 pa)) (z : Nat) (hz3 : Hid (z ≤ 300)) (g : Nat) (b11 : Nat) (gf : Nat) (kf : Dk) (b14 : Nat) (HKF : Hid (kf.d = nz z ∧ kf.ws = [])) (i : Nat) (y : Ac) (bx : Nat) (ao : Option Addr) (co : Nat) (k2 : Dk) (u2 : Option Addr) (c2 : Nat) (zs : List Int) (xs1 : List Int) (xs2 : List Int) (hx1 : Hid (rdV (nowP k2.d k2.ws) k2.d pa na = xs1)) (hx2 : Hid (rdV k2.d k2.d pa na = xs2)) (hxb : Hid (Byt xs1 ∧ Byt xs2)) (hxl : Hid (xs1.length = xs2.length ∧ xs1.length ≤ 65536)) (HPL2 : Hid (PlOk k2.d k2.ws)) (wp36 : World) (t : Nat) (HMT : Hid (Ms w wp36 [.row ao y.n co zs, .cell bx y.cs.toArray 33, .cell b11 #[.string (str k2.d), .slice u2 k2.ws.length c2] 63, .any 80 2 u2 k2.ws.length c2 (rcs k2.ws), .disk g k2, .cell b14 #[.string (str (nz z)), .slice none 0 0] 63, .disk gf kf])) (a : Act) (hf : Fr 274 a) (h1 : sl a 1 = .slice ya m yc) (h2 : sl a 2 = .int .i64 pa) (h3 : sl a 3 = .int .i64 na) (h9 : sl a 9 = .pointer (some ⟨g, 0, none⟩)) (h11 : sl a 11 = .pointer (some ⟨b11, 0, none⟩)) (h13 : sl a 13 = .pointer (some ⟨gf, 0, none⟩)) (h14 : sl a 14 = .pointer (some ⟨b14, 0, none⟩)) (h15 : sl a 15 = .int .i64 (i : Int)) (h17 : sl a 17 = .slice ao y.n co) (h21 : sl a 21 = .int .i64 (t : Int)) :
    Code.wp Try.prog (cAt [1,1,1,1,1,1,1,0,1,2,2,1,0,2,1,1,1,1,1,2,2,1,0] KDP) (Exit.then (fun a' w' => Fr 274 a' ∧ sl a' 1 = .slice ya m yc ∧ sl a' 2 = .int .i64 pa ∧ sl a' 3 = .int .i64 na ∧ sl a' 9 = .pointer (some ⟨g, 0, none⟩) ∧ sl a' 11 = .pointer (some ⟨b11, 0, none⟩) ∧ sl a' 13 = .pointer (some ⟨gf, 0, none⟩) ∧ sl a' 14 = .pointer (some ⟨b14, 0, none⟩) ∧ sl a' 15 = .int .i64 (i : Int) ∧ sl a' 17 = .slice ao y.n co ∧ sl a' 21 = .int .i64 (t : Int) ∧ Ms w w' [.row ao y.n co zs, .cell bx y.cs.toArray 33, .cell b11 #[.string (str k2.d), .slice u2 k2.ws.length c2] 63, .any 80 2 u2 k2.ws.length c2 (rcs k2.ws), .disk g k2, .cell b14 #[.string (str (nz z)), .slice none 0 0] 63, .disk gf kf]) Nope) a wp36 := by
  have HMX := HMX.out
  have HIP := HIP.out
  have hz3 := hz3.out
  have HKF := HKF.out
  have hx1 := hx1.out
  have hx2 := hx2.out
  have hxb := hxb.out
  have hxl := hxl.out
  have HPL2 := HPL2.out
  have HMT := HMT.out
  refine wp_blockR (x := cAt [1,1,1,1,1,1,1,0,1,2,2,1,0,2,1,1,1,1,1,2,2,1,0,2] KDP) (id := 6) (by kernel_rfl) ?_
  refine wp_sqR (x := cAt [1,1,1,1,1,1,1,0,1,2,2,1,0,2,1,1,1,1,1,2,2,1,0,2,0] KDP) (y := cAt [1,1,1,1,1,1,1,0,1,2,2,1,0,2,1,1,1,1,1,2,2,1,0,2,1] KDP) (by kernel_rfl) (p39 w ya m yc pa na HIP z g b11 gf kf b14 i y bx ao co k2 u2 c2 zs xs1 hx1 wp36 t HMT a hf h1 h2 h3 h9 h11 h13 h14 h15 h17 h21) ?_
  rintro a_42 w39 ⟨a1, n1, c1, hf, h1, h2, h3, h9, h11, h13, h14, h15, h17, h21, h22, h23, Hw39⟩
  refine wp_sqR (x := cAt [1,1,1,1,1,1,1,0,1,2,2,1,0,2,1,1,1,1,1,2,2,1,0,2,1,0] KDP) (y := cAt [1,1,1,1,1,1,1,0,1,2,2,1,0,2,1,1,1,1,1,2,2,1,0,2,1,1] KDP) (by kernel_rfl) (p40 w ya m yc pa na HIP z g b11 gf kf b14 i y bx ao co k2 u2 c2 zs xs1 hx1 HPL2 t w39 a1 n1 c1 Hw39 a_42 hf h1 h2 h3 h9 h11 h13 h14 h15 h17 h21 h22 h23) ?_
  rintro a_43 w40 ⟨a2, n2, c2b, hf, h1, h2, h3, h9, h11, h13, h14, h15, h17, h21, h22, h23, h24, h25, Hw40⟩
  refine wp_sqR (x := cAt [1,1,1,1,1,1,1,0,1,2,2,1,0,2,1,1,1,1,1,2,2,1,0,2,1,1,0] KDP) (y := cAt [1,1,1,1,1,1,1,0,1,2,2,1,0,2,1,1,1,1,1,2,2,1,0,2,1,1,1] KDP) (by kernel_rfl) (p41 w ya m yc pa na HIP z g b11 gf kf b14 i y bx ao co k2 u2 c2 zs xs1 xs2 hx2 t a1 n1 c1 w40 a2 n2 c2b Hw40 a_43 hf h1 h2 h3 h9 h11 h13 h14 h15 h17 h21 h22 h23 h24 h25) ?_
  rintro a_44 w41 ⟨a3, n3, c3, hf, h1, h2, h3, h9, h11, h13, h14, h15, h17, h21, h22, h23, h24, h25, h26, h27, Hw41⟩
  refine wp_sqR (x := cAt [1,1,1,1,1,1,1,0,1,2,2,1,0,2,1,1,1,1,1,2,2,1,0,2,1,1,1,0] KDP) (y := cAt [1,1,1,1,1,1,1,0,1,2,2,1,0,2,1,1,1,1,1,2,2,1,0,2,1,1,1,1] KDP) (by kernel_rfl) (p42 w ya m yc pa na HIP z g b11 gf kf b14 i y bx ao co k2 u2 c2 zs xs1 xs2 hx2 HPL2 t a1 n1 c1 a2 n2 c2b w41 a3 n3 c3 Hw41 a_44 hf h1 h2 h3 h9 h11 h13 h14 h15 h17 h21 h22 h23 h24 h25 h26 h27) ?_
  rintro a_45 w42 ⟨a4, n4, c4, hf, h1, h2, h3, h9, h11, h13, h14, h15, h17, h21, h22, h23, h24, h25, h26, h27, h28, h29, Hw42⟩
  refine wp_sqR (x := cAt [1,1,1,1,1,1,1,0,1,2,2,1,0,2,1,1,1,1,1,2,2,1,0,2,1,1,1,1,0] KDP) (y := cAt [1,1,1,1,1,1,1,0,1,2,2,1,0,2,1,1,1,1,1,2,2,1,0,2,1,1,1,1,1] KDP) (by kernel_rfl) (p43 w ya m yc pa na z g b11 gf kf b14 i y bx ao co k2 u2 c2 zs xs1 xs2 HPL2 t a1 n1 c1 a2 n2 c2b a3 n3 c3 w42 a4 n4 c4 Hw42 a_45 hf h1 h2 h3 h9 h11 h13 h14 h15 h17 h21 h22 h23 h24 h25 h26 h27 h28 h29) ?_
  rintro a_46 w43 ⟨ua, uc, UL, hf, h1, h2, h3, h9, h11, h13, h14, h15, h17, h21, h22, h23, h24, h25, h26, h27, h28, h29, h30, Hw43, HUL⟩
  refine wp_sqG (x := cAt [1,1,1,1,1,1,1,0,1,2,2,1,0,2,1,1,1,1,1,2,2,1,0,2,1,1,1,1,1,0] KDP) (y := cAt [1,1,1,1,1,1,1,0,1,2,2,1,0,2,1,1,1,1,1,2,2,1,0,2,1,1,1,1,1,1] KDP) (by kernel_rfl) ?_
  refine wp_sqR (x := cAt [1,1,1,1,1,1,1,0,1,2,2,1,0,2,1,1,1,1,1,2,2,1,0,2,1,1,1,1,1,0,0] KDP) (y := cAt [1,1,1,1,1,1,1,0,1,2,2,1,0,2,1,1,1,1,1,2,2,1,0,2,1,1,1,1,1,0,1] KDP) (by kernel_rfl) (p44 w ya m yc pa na z hz3 g b11 gf kf b14 HKF i y bx ao co k2 u2 c2 zs xs1 xs2 hxb HPL2 t a1 n1 c1 a2 n2 c2b a3 n3 c3 a4 n4 c4 w43 ua uc UL Hw43 a_46 hf h1 h2 h3 h9 h11 h13 h14 h15 h17 h21 h22 h23 h24 h25 h26 h27 h28 h29 h30) ?_
  rintro a_47 w44 ⟨hf, h1, h2, h3, h9, h11, h13, h14, h15, h17, h21, h22, h26, h30, h217, Hw44⟩
  refine wp_onF (A := cAt [1,1,1,1,1,1,1,0,1,2,2,1,0,2,1,1,1,1,1,2,2,1,0,2,1,1,1,1,1,0,1,3] KDP) (B := cAt [1,1,1,1,1,1,1,0,1,2,2,1,0,2,1,1,1,1,1,2,2,1,0,2,1,1,1,1,1,0,1,4] KDP) (by kernel_rfl) h217 ?_
  refine wp_skipR (by kernel_rfl) ?_
  have hn1 : xs1.length = n1 := Own.len (Th.ok_row (Hw44.ok (.row a1 n1 c1 xs1) (by simp)))
  have hn3 : xs2.length = n3 := Own.len (Th.ok_row (Hw44.ok (.row a3 n3 c3 xs2) (by simp)))
  have hn13 : n3 = n1 ∧ n1 ≤ 65536 := by have h9 := hxl; omega
  have HMX0 : Ms w w44 [.row a1 n1 c1 xs1, .row a3 n3 c3 xs2, .wts ua uc UL, .row ao y.n co zs, .cell bx y.cs.toArray 33, .cell b11 #[.string (str k2.d), .slice u2 k2.ws.length c2] 63, .any 80 2 u2 k2.ws.length c2 (rcs k2.ws), .disk g k2, .cell b14 #[.string (str (nz z)), .slice none 0 0] 63, .disk gf kf] := (Ms.perm (Ms.sub (l' := [.wts ua uc UL, .disk g k2, .row a3 n3 c3 xs2, .row a1 n1 c1 xs1, .row ao y.n co zs, .cell bx y.cs.toArray 33, .cell b11 #[.string (str k2.d), .slice u2 k2.ws.length c2] 63, .any 80 2 u2 k2.ws.length c2 (rcs k2.ws), .cell b14 #[.string (str (nz z)), .slice none 0 0] 63, .disk gf kf]) Hw44 (by simp)) (((((((((List.Perm.cons _ (List.Perm.cons _ (List.Perm.swap _ _ _))).trans (List.Perm.cons _ (List.Perm.swap _ _ _))).trans (List.Perm.swap _ _ _)).trans (List.Perm.cons _ (List.Perm.cons _ (List.Perm.swap _ _ _)))).trans (List.Perm.cons _ (List.Perm.swap _ _ _))).trans (List.Perm.cons _ (List.Perm.cons _ (List.Perm.cons _ (List.Perm.swap _ _ _))))).trans (List.Perm.cons _ (List.Perm.cons _ (List.Perm.cons _ (List.Perm.cons _ (List.Perm.swap _ _ _)))))).trans (List.Perm.cons _ (List.Perm.cons _ (List.Perm.cons _ (List.Perm.cons _ (List.Perm.cons _ (List.Perm.swap _ _ _))))))).trans (List.Perm.cons _ (List.Perm.cons _ (List.Perm.cons _ (List.Perm.cons _ (List.Perm.cons _ (List.Perm.cons _ (List.Perm.swap _ _ _)))))))))
  refine wp_sqR (x := cAt [1,1,1,1,1,1,1,0,1,2,2,1,0,2,1,1,1,1,1,2,2,1,0,2,1,1,1,1,1,1,0] KDP) (y := cAt [1,1,1,1,1,1,1,0,1,2,2,1,0,2,1,1,1,1,1,2,2,1,0,2,1,1,1,1,1,1,1] KDP) (by kernel_rfl) (plays_inc w ya m yc pa na HMX z g b11 gf kf b14 i y bx ao co k2 u2 c2 zs xs1 xs2 t a1 n1 c1 a3 n3 c3 ua uc UL w44 hn13 HMX0 a_47 hf h1 h2 h3 h9 h11 h13 h14 h15 h17 h21 h22 h26 h30) ?_
  rintro a_55 w46 ⟨z1, z2, hf, h1, h2, h3, h9, h11, h13, h14, h15, h17, h21, h22, h26, h30, HMX1⟩
  have HMW0 : Ms w w46 [.wts ua uc UL, .row ao y.n co zs, .cell bx y.cs.toArray 33, .cell b11 #[.string (str k2.d), .slice u2 k2.ws.length c2] 63, .any 80 2 u2 k2.ws.length c2 (rcs k2.ws), .disk g k2, .cell b14 #[.string (str (nz z)), .slice none 0 0] 63, .disk gf kf] := HMX1.tail.tail
  have HUN : UL.length = UL.length ∧ ∀ x ∈ UL, x.n ≤ 65536 := ⟨rfl, fun x hx => by
    have h1 := (Uws.data (HMW0.hd) x hx).len
    have h2 : (x.at_, x.d) ∈ k2.ws := by rw [← HUL]; exact List.mem_map.2 ⟨x, hx, rfl⟩
    have h3 := HPL2.w1 _ h2
    have h4 := HPL2.w0 _ h2
    have h5 := HPL2.few
    simp only at h3 h4
    omega⟩
  have hul : UL.length ≤ 1000 := by have := congrArg List.length HUL; rw [List.length_map] at this; have := HPL2.num; omega
  refine wp_endR (plays_uns w ya m yc pa na z g b11 gf kf b14 i y bx ao co k2 u2 c2 zs t a1 n1 c1 a3 n3 c3 ua uc UL w46 HMW0 HUN hul a_55 hf h1 h2 h3 h9 h11 h13 h14 h15 h17 h21 h22 h26 h30) ?_
  rintro a_68 w51z ⟨UL2, hf, h1, h2, h3, h9, h11, h13, h14, h15, h17, h21, h22, h26, h30, HMW1, HUM1⟩
  exact ⟨hf, h1, h2, h3, h9, h11, h13, h14, h15, h17, h21, HMW1.tail⟩

set_option maxRecDepth 100000 in
set_option maxHeartbeats 4000000 in
theorem p36n (ya : Option Addr) (m : Nat) (yc : Nat) (pa : Int) (na : Int) (g : Nat) (b11 : Nat) (gf : Nat) (b14 : Nat) (i : Nat) (y : Ac) (ao : Option Addr) (co : Nat) (t : Nat) (hlt : Hid (t < 2)) (wt2 : World) (a : Act) (hf : Fr 274 a) (h1 : sl a 1 = .slice ya m yc) (h2 : sl a 2 = .int .i64 pa) (h3 : sl a 3 = .int .i64 na) (h9 : sl a 9 = .pointer (some ⟨g, 0, none⟩)) (h11 : sl a 11 = .pointer (some ⟨b11, 0, none⟩)) (h13 : sl a 13 = .pointer (some ⟨gf, 0, none⟩)) (h14 : sl a 14 = .pointer (some ⟨b14, 0, none⟩)) (h15 : sl a 15 = .int .i64 (i : Int)) (h17 : sl a 17 = .slice ao y.n co) (h21 : sl a 21 = .int .i64 (t : Int)) :
    Code.wp Try.prog (cAt [1,1,1,1,1,1,1,0,1,2,2,1,0,2,1,1,1,1,1,2,2,1,1] KDP) (Exit.then (fun a' w' => Fr 274 a' ∧ sl a' 1 = .slice ya m yc ∧ sl a' 2 = .int .i64 pa ∧ sl a' 3 = .int .i64 na ∧ sl a' 9 = .pointer (some ⟨g, 0, none⟩) ∧ sl a' 11 = .pointer (some ⟨b11, 0, none⟩) ∧ sl a' 13 = .pointer (some ⟨gf, 0, none⟩) ∧ sl a' 14 = .pointer (some ⟨b14, 0, none⟩) ∧ sl a' 15 = .int .i64 (i : Int) ∧ sl a' 17 = .slice ao y.n co ∧ sl a' 21 = .int .i64 ((t + 1 : Nat) : Int) ∧ wt2 = w') Nope) a wt2 := by
  obtain ⟨f, ha, hs⟩ := frKDP hf
  have e1 := (hs 1).trans h1
  have e2 := (hs 2).trans h2
  have e3 := (hs 3).trans h3
  have e9 := (hs 9).trans h9
  have e11 := (hs 11).trans h11
  have e13 := (hs 13).trans h13
  have e14 := (hs 14).trans h14
  have e15 := (hs 15).trans h15
  have e17 := (hs 17).trans h17
  have e21 := (hs 21).trans h21
  rw [e1, e2, e3, e9, e11, e13, e14, e15, e17, e21] at ha
  clear hs hf e1 h1 e2 h2 e3 h3 e9 h9 e11 h11 e13 h13 e14 h14 e15 h15 e17 h17 e21 h21
  subst ha
  refine piece2 fun J0 K0 hJ0 hK0 => ?_
  conv => arg 2; whnf
  have hw : IntKind.i64.wrap ((t : Int) + 1) = ((t + 1 : Nat) : Int) := by have := hlt.out; rw [IntKind.wrap_i64]; omega
  go_wp2_with fail
  refine Met.intro (hJ0 _ _ ?_)
  exact ⟨⟨rfl, rfl⟩, rfl, rfl, rfl, rfl, rfl, rfl, rfl, rfl, rfl, rfl, rfl⟩

theorem plays_twice (w : World) (ya : Option Addr) (m : Nat) (yc : Nat) (pa : Int) (na : Int) (HMX : Hid (m ≤ maxLen)) (HIP : Hid (I64 pa)) (z : Nat) (hz3 : Hid (z ≤ 300)) (g : Nat) (b11 : Nat) (gf : Nat) (kf : Dk) (b14 : Nat) (HKF : Hid (kf.d = nz z ∧ kf.ws = [])) (i : Nat) (y : Ac) (bx : Nat) (ao : Option Addr) (co : Nat) (k2 : Dk) (u2 : Option Addr) (c2 : Nat) (w36 : World) (zs : List Int) (HMT0 : Hid (Ms w w36 [.row ao y.n co zs, .cell bx y.cs.toArray 33, .cell b11 #[.string (str k2.d), .slice u2 k2.ws.length c2] 63, .any 80 2 u2 k2.ws.length c2 (rcs k2.ws), .disk g k2, .cell b14 #[.string (str (nz z)), .slice none 0 0] 63, .disk gf kf])) (xs1 : List Int) (xs2 : List Int) (hx1 : Hid (rdV (nowP k2.d k2.ws) k2.d pa na = xs1)) (hx2 : Hid (rdV k2.d k2.d pa na = xs2)) (hxb : Hid (Byt xs1 ∧ Byt xs2)) (hxl : Hid (xs1.length = xs2.length ∧ xs1.length ≤ 65536)) (HPL2 : Hid (PlOk k2.d k2.ws)) (a : Act) (hf : Fr 274 a) (h1 : sl a 1 = .slice ya m yc) (h2 : sl a 2 = .int .i64 pa) (h3 : sl a 3 = .int .i64 na) (h9 : sl a 9 = .pointer (some ⟨g, 0, none⟩)) (h11 : sl a 11 = .pointer (some ⟨b11, 0, none⟩)) (h13 : sl a 13 = .pointer (some ⟨gf, 0, none⟩)) (h14 : sl a 14 = .pointer (some ⟨b14, 0, none⟩)) (h15 : sl a 15 = .int .i64 (i : Int)) (h17 : sl a 17 = .slice ao y.n co) :
    Code.wp Try.prog (cAt [1,1,1,1,1,1,1,0,1,2,2,1,0,2,1,1,1,1] KDP) (Exit.then (fun a' w' => Fr 274 a' ∧ sl a' 1 = .slice ya m yc ∧ sl a' 2 = .int .i64 pa ∧ sl a' 3 = .int .i64 na ∧ sl a' 9 = .pointer (some ⟨g, 0, none⟩) ∧ sl a' 11 = .pointer (some ⟨b11, 0, none⟩) ∧ sl a' 13 = .pointer (some ⟨gf, 0, none⟩) ∧ sl a' 14 = .pointer (some ⟨b14, 0, none⟩) ∧ sl a' 15 = .int .i64 (i : Int) ∧ sl a' 17 = .slice ao y.n co ∧ Ms w w' [.row ao y.n co zs, .cell bx y.cs.toArray 33, .cell b11 #[.string (str k2.d), .slice u2 k2.ws.length c2] 63, .any 80 2 u2 k2.ws.length c2 (rcs k2.ws), .disk g k2, .cell b14 #[.string (str (nz z)), .slice none 0 0] 63, .disk gf kf]) Nope) a w36 := by
  have HMX := HMX.out
  have HIP := HIP.out
  have hz3 := hz3.out
  have HKF := HKF.out
  have HMT0 := HMT0.out
  have hx1 := hx1.out
  have hx2 := hx2.out
  have hxb := hxb.out
  have hxl := hxl.out
  have HPL2 := HPL2.out
  refine wp_sqR (x := cAt [1,1,1,1,1,1,1,0,1,2,2,1,0,2,1,1,1,1,0] KDP) (y := cAt [1,1,1,1,1,1,1,0,1,2,2,1,0,2,1,1,1,1,1] KDP) (by kernel_rfl) (p36i ya m yc pa na g b11 gf b14 i y ao co w36 a hf h1 h2 h3 h9 h11 h13 h14 h15 h17) ?_
  rintro a_39 _ ⟨hf, h1, h2, h3, h9, h11, h13, h14, h15, h17, h21, rfl⟩
  refine wp_blockR (x := cAt [1,1,1,1,1,1,1,0,1,2,2,1,0,2,1,1,1,1,1,2] KDP) (id := 5) (by kernel_rfl) ?_
  refine wp_loopR (x := cAt [1,1,1,1,1,1,1,0,1,2,2,1,0,2,1,1,1,1,1,2,2] KDP) (by kernel_rfl) (fun a' w' => ∃ t : Nat, t ≤ 2 ∧ (Ms w w' [.row ao y.n co zs, .cell bx y.cs.toArray 33, .cell b11 #[.string (str k2.d), .slice u2 k2.ws.length c2] 63, .any 80 2 u2 k2.ws.length c2 (rcs k2.ws), .disk g k2, .cell b14 #[.string (str (nz z)), .slice none 0 0] 63, .disk gf kf]) ∧ Fr 274 a' ∧ sl a' 1 = .slice ya m yc ∧ sl a' 2 = .int .i64 pa ∧ sl a' 3 = .int .i64 na ∧ sl a' 9 = .pointer (some ⟨g, 0, none⟩) ∧ sl a' 11 = .pointer (some ⟨b11, 0, none⟩) ∧ sl a' 13 = .pointer (some ⟨gf, 0, none⟩) ∧ sl a' 14 = .pointer (some ⟨b14, 0, none⟩) ∧ sl a' 15 = .int .i64 (i : Int) ∧ sl a' 17 = .slice ao y.n co ∧ sl a' 21 = .int .i64 (t : Int)) (fun a' _ => 2 - (numOf (sl a' 21)).toNat) ⟨0, Nat.zero_le _, HMT0, hf, h1, h2, h3, h9, h11, h13, h14, h15, h17, h21⟩ ?_
  rintro a_l wp36 ⟨t, hit, HMT, hf, h1, h2, h3, h9, h11, h13, h14, h15, h17, h21⟩
  have hIt := h21
  by_cases hlt : t < 2
  case neg =>
    refine wp_endX (p36x ya m yc pa na g b11 gf b14 i y ao co wp36 t hlt a_l hf h1 h2 h3 h9 h11 h13 h14 h15 h17 h21) ?_
    rintro a_40 _ ⟨hf, h1, h2, h3, h9, h11, h13, h14, h15, h17, rfl⟩
    exact thru ⟨hf, h1, h2, h3, h9, h11, h13, h14, h15, h17, HMT⟩
  refine wp_sqR (x := cAt [1,1,1,1,1,1,1,0,1,2,2,1,0,2,1,1,1,1,1,2,2,0] KDP) (y := cAt [1,1,1,1,1,1,1,0,1,2,2,1,0,2,1,1,1,1,1,2,2,1] KDP) (by kernel_rfl) (p36c ya m yc pa na g b11 gf b14 i y ao co wp36 t hlt a_l hf h1 h2 h3 h9 h11 h13 h14 h15 h17 h21) ?_
  rintro a_41 _ ⟨hf, h1, h2, h3, h9, h11, h13, h14, h15, h17, h21, rfl⟩
  refine wp_sqR (x := cAt [1,1,1,1,1,1,1,0,1,2,2,1,0,2,1,1,1,1,1,2,2,1,0] KDP) (y := cAt [1,1,1,1,1,1,1,0,1,2,2,1,0,2,1,1,1,1,1,2,2,1,1] KDP) (by kernel_rfl) (plays_read w ya m yc pa na HMX HIP z hz3 g b11 gf kf b14 HKF i y bx ao co k2 u2 c2 zs xs1 xs2 hx1 hx2 hxb hxl HPL2 wp36 t HMT a_41 hf h1 h2 h3 h9 h11 h13 h14 h15 h17 h21) ?_
  rintro a_69 wt2 ⟨hf, h1, h2, h3, h9, h11, h13, h14, h15, h17, h21, HMTN⟩
  refine wp_endR (p36n ya m yc pa na g b11 gf b14 i y ao co t hlt wt2 a_69 hf h1 h2 h3 h9 h11 h13 h14 h15 h17 h21) ?_
  rintro a_70 _ ⟨hf, h1, h2, h3, h9, h11, h13, h14, h15, h17, h21, rfl⟩
  refine ⟨⟨t + 1, hlt, HMTN, hf, h1, h2, h3, h9, h11, h13, h14, h15, h17, h21⟩, ?_⟩
  rw [hIt, h21]
  simp only [numOf]
  omega

theorem plays_act (w : World) (s : Int) (ya : Option Addr) (m : Nat) (yc : Nat) (la : List Ac) (pa : Int) (na : Int) (HLA : Hid (Acr w ya m la)) (HMX : Hid (m ≤ maxLen)) (HIP : Hid (I64 pa)) (hs : Hid (s ≤ 300 ∨ 65536 < s)) (hfew : Hid (Few la)) (z : Nat) (hz3 : Hid (z ≤ 300)) (g : Nat) (b11 : Nat) (gf : Nat) (kf : Dk) (b14 : Nat) (HKF : Hid (kf.d = nz z ∧ kf.ws = [])) (hm40 : Hid (m ≤ 40)) (wp11 : World) (i : Nat) (k : Dk) (u : Option Addr) (c : Nat) (HML : Hid (Ms w wp11 [.cell b11 #[.string (str k.d), .slice u k.ws.length c] 63, .any 80 2 u k.ws.length c (rcs k.ws), .disk g k, .cell b14 #[.string (str (nz z)), .slice none 0 0] 63, .disk gf kf])) (HK : Hid (k.d.length = z ∧ k.ws.length ≤ i)) (hli : Hid (i < m)) (a : Act) (hf : Fr 274 a) (h1 : sl a 1 = .slice ya m yc) (h2 : sl a 2 = .int .i64 pa) (h3 : sl a 3 = .int .i64 na) (h9 : sl a 9 = .pointer (some ⟨g, 0, none⟩)) (h11 : sl a 11 = .pointer (some ⟨b11, 0, none⟩)) (h13 : sl a 13 = .pointer (some ⟨gf, 0, none⟩)) (h14 : sl a 14 = .pointer (some ⟨b14, 0, none⟩)) (h15 : sl a 15 = .int .i64 (i : Int)) :
    Code.wp Try.prog (cAt [1,1,1,1,1,1,1,0,1,2,2,1,0] KDP) (Exit.then (fun a' w' => ∃ k9 : Dk, ∃ u9 : Option Addr, ∃ c9 : Nat, Fr 274 a' ∧ sl a' 1 = .slice ya m yc ∧ sl a' 2 = .int .i64 pa ∧ sl a' 3 = .int .i64 na ∧ sl a' 9 = .pointer (some ⟨g, 0, none⟩) ∧ sl a' 11 = .pointer (some ⟨b11, 0, none⟩) ∧ sl a' 13 = .pointer (some ⟨gf, 0, none⟩) ∧ sl a' 14 = .pointer (some ⟨b14, 0, none⟩) ∧ sl a' 15 = .int .i64 (i : Int) ∧ Ms w w' [.cell b11 #[.string (str k9.d), .slice u9 k9.ws.length c9] 63, .any 80 2 u9 k9.ws.length c9 (rcs k9.ws), .disk g k9, .cell b14 #[.string (str (nz z)), .slice none 0 0] 63, .disk gf kf] ∧ (k9.d.length = z ∧ k9.ws.length ≤ i + 1)) Nope) a wp11 := by
  have HLA := HLA.out
  have HMX := HMX.out
  have HIP := HIP.out
  have hs := hs.out
  have hfew := hfew.out
  have hz3 := hz3.out
  have HKF := HKF.out
  have hm40 := hm40.out
  have HML := HML.out
  have HK := HK.out
  have hli := hli.out
  refine wp_blockR (x := cAt [1,1,1,1,1,1,1,0,1,2,2,1,0,2] KDP) (id := 1) (by kernel_rfl) ?_
  obtain ⟨y, yb, yo, hy, hyok, hya, hrg⟩ := HLA.nth hli
  have hy60 := hfew.2 y (List.mem_of_getElem? hy)
  rw [hya] at h1
  have HPL : PlOk k.d k.ws := Dm.pl (HML.ok (.disk g k) (by simp)) (by omega)
  refine wp_sqR (x := cAt [1,1,1,1,1,1,1,0,1,2,2,1,0,2,0] KDP) (y := cAt [1,1,1,1,1,1,1,0,1,2,2,1,0,2,1] KDP) (by kernel_rfl) (p13 w m yc pa na z g b11 gf kf b14 wp11 i k u c HML hli y yb yo hrg a hf h1 h2 h3 h9 h11 h13 h14 h15) ?_
  rintro a_15 w13 ⟨bx, hf, h1, h2, h3, h9, h11, h13, h14, h15, h16, HM13⟩
  rw [← hya] at h1
  refine wp_sqR (x := cAt [1,1,1,1,1,1,1,0,1,2,2,1,0,2,1,0] KDP) (y := cAt [1,1,1,1,1,1,1,0,1,2,2,1,0,2,1,1] KDP) (by kernel_rfl) (p14 w ya m yc pa na z g b11 gf kf b14 i k u c y hyok hy60 w13 bx HM13 a_15 hf h1 h2 h3 h9 h11 h13 h14 h15 h16) ?_
  rintro a_16 w14 ⟨ao, co, hf, h1, h2, h3, h9, h11, h13, h14, h15, h16, h17, HM14⟩
  refine wp_sqG (x := cAt [1,1,1,1,1,1,1,0,1,2,2,1,0,2,1,1,0] KDP) (y := cAt [1,1,1,1,1,1,1,0,1,2,2,1,0,2,1,1,1] KDP) (by kernel_rfl) ?_
  refine wp_sqR (x := cAt [1,1,1,1,1,1,1,0,1,2,2,1,0,2,1,1,0,0] KDP) (y := cAt [1,1,1,1,1,1,1,0,1,2,2,1,0,2,1,1,0,1] KDP) (by kernel_rfl) (p15 w ya m yc pa na z g b11 gf kf b14 i k u c y bx w14 ao co HM14 a_16 hf h1 h2 h3 h9 h11 h13 h14 h15 h16 h17) ?_
  rintro a_17 _ ⟨q, hf, h1, h2, h3, h9, h11, h13, h14, h15, h16, h17, h87, rfl⟩
  refine wp_endR (plays_do w s ya m yc pa na hs z g b11 gf kf b14 hm40 i k u c HK hli y hyok hy60 HPL bx w14 ao co HM14 q a_17 hf h1 h2 h3 h9 h11 h13 h14 h15 h16 h17 h87) ?_
  rintro a_31 wj ⟨k2, u2, c2, hf, h1, h2, h3, h9, h11, h13, h14, h15, h17, HMJ, HJ⟩
  refine wp_sqR (x := cAt [1,1,1,1,1,1,1,0,1,2,2,1,0,2,1,1,1,0] KDP) (y := cAt [1,1,1,1,1,1,1,0,1,2,2,1,0,2,1,1,1,1] KDP) (by kernel_rfl) (plays_own w ya m yc pa na z g b11 gf kf b14 i y hy60 bx ao co wj k2 u2 c2 HMJ a_31 hf h1 h2 h3 h9 h11 h13 h14 h15 h17) ?_
  rintro a_38 w36 ⟨zs, hf, h1, h2, h3, h9, h11, h13, h14, h15, h17, HMT0⟩
  obtain ⟨xs1, hx1⟩ : ∃ x, rdV (nowP k2.d k2.ws) k2.d pa na = x := ⟨_, rfl⟩
  obtain ⟨xs2, hx2⟩ : ∃ x, rdV k2.d k2.d pa na = x := ⟨_, rfl⟩
  have hxb : Byt xs1 ∧ Byt xs2 := ⟨by rw [← hx1]; exact rdV_byt (Dm.now_byt (HMT0.ok (.disk g k2) (by simp))), by rw [← hx2]; exact rdV_byt (Dm.ok (HMT0.ok (.disk g k2) (by simp))).byt⟩
  have hxl : xs1.length = xs2.length ∧ xs1.length ≤ 65536 := by
    rw [← hx1, ← hx2]
    unfold rdV
    have h0 := HJ.1
    split
    · next h => have h3 := rcV_ok h; rw [cutD_len _ _ _ (by rw [nowP_len]; omega), cutD_len _ _ _ (by omega)]; omega
    · exact ⟨rfl, by simp⟩
  have HPL2 : PlOk k2.d k2.ws := Dm.pl (HMT0.ok (.disk g k2) (by simp)) (by have := HJ.2; omega)
  refine wp_endR (plays_twice w ya m yc pa na HMX HIP z hz3 g b11 gf kf b14 HKF i y bx ao co k2 u2 c2 w36 zs HMT0 xs1 xs2 hx1 hx2 hxb hxl HPL2 a_38 hf h1 h2 h3 h9 h11 h13 h14 h15 h17) ?_
  rintro a_71 w62 ⟨hf, h1, h2, h3, h9, h11, h13, h14, h15, h17, HMT9⟩
  exact ⟨k2, u2, c2, hf, h1, h2, h3, h9, h11, h13, h14, h15, (Ms.sub (l' := [.cell b11 #[.string (str k2.d), .slice u2 k2.ws.length c2] 63, .any 80 2 u2 k2.ws.length c2 (rcs k2.ws), .disk g k2, .cell b14 #[.string (str (nz z)), .slice none 0 0] 63, .disk gf kf]) HMT9 (by simp)), HJ⟩

set_option maxRecDepth 100000 in
set_option maxHeartbeats 4000000 in
theorem p11n (ya : Option Addr) (m : Nat) (yc : Nat) (pa : Int) (na : Int) (g : Nat) (b11 : Nat) (gf : Nat) (b14 : Nat) (hm40 : Hid (m ≤ 40)) (i : Nat) (hli : Hid (i < m)) (w99 : World) (a : Act) (hf : Fr 274 a) (h1 : sl a 1 = .slice ya m yc) (h2 : sl a 2 = .int .i64 pa) (h3 : sl a 3 = .int .i64 na) (h9 : sl a 9 = .pointer (some ⟨g, 0, none⟩)) (h11 : sl a 11 = .pointer (some ⟨b11, 0, none⟩)) (h13 : sl a 13 = .pointer (some ⟨gf, 0, none⟩)) (h14 : sl a 14 = .pointer (some ⟨b14, 0, none⟩)) (h15 : sl a 15 = .int .i64 (i : Int)) :
    Code.wp Try.prog (cAt [1,1,1,1,1,1,1,0,1,2,2,1,1] KDP) (Exit.then (fun a' w' => Fr 274 a' ∧ sl a' 1 = .slice ya m yc ∧ sl a' 2 = .int .i64 pa ∧ sl a' 3 = .int .i64 na ∧ sl a' 9 = .pointer (some ⟨g, 0, none⟩) ∧ sl a' 11 = .pointer (some ⟨b11, 0, none⟩) ∧ sl a' 13 = .pointer (some ⟨gf, 0, none⟩) ∧ sl a' 14 = .pointer (some ⟨b14, 0, none⟩) ∧ sl a' 15 = .int .i64 ((i + 1 : Nat) : Int) ∧ w99 = w') Nope) a w99 := by
  obtain ⟨f, ha, hs⟩ := frKDP hf
  have e1 := (hs 1).trans h1
  have e2 := (hs 2).trans h2
  have e3 := (hs 3).trans h3
  have e9 := (hs 9).trans h9
  have e11 := (hs 11).trans h11
  have e13 := (hs 13).trans h13
  have e14 := (hs 14).trans h14
  have e15 := (hs 15).trans h15
  rw [e1, e2, e3, e9, e11, e13, e14, e15] at ha
  clear hs hf e1 h1 e2 h2 e3 h3 e9 h9 e11 h11 e13 h13 e14 h14 e15 h15
  subst ha
  refine piece2 fun J0 K0 hJ0 hK0 => ?_
  conv => arg 2; whnf
  have hw : IntKind.i64.wrap ((i : Int) + 1) = ((i + 1 : Nat) : Int) := by have := hli.out; have := hm40.out; rw [IntKind.wrap_i64]; omega
  go_wp2_with fail
  refine Met.intro (hJ0 _ _ ?_)
  exact ⟨⟨rfl, rfl⟩, rfl, rfl, rfl, rfl, rfl, rfl, rfl, rfl, rfl⟩

theorem plays_acts (w : World) (s : Int) (ya : Option Addr) (m : Nat) (yc : Nat) (la : List Ac) (pa : Int) (na : Int) (HLA : Hid (Acr w ya m la)) (HMX : Hid (m ≤ maxLen)) (HIP : Hid (I64 pa)) (hs : Hid (s ≤ 300 ∨ 65536 < s)) (hfew : Hid (Few la)) (z : Nat) (hz3 : Hid (z ≤ 300)) (g : Nat) (k0 : Dk) (b11 : Nat) (w9 : World) (gf : Nat) (kf : Dk) (b14 : Nat) (HKF : Hid (kf.d = nz z ∧ kf.ws = [])) (HM10 : Hid (Ms w w9 [.cell b11 #[.string (str k0.d), .slice none k0.ws.length 0] 63, .any 80 2 none k0.ws.length 0 (rcs k0.ws), .disk g k0, .cell b14 #[.string (str (nz z)), .slice none 0 0] 63, .disk gf kf])) (hk0 : Hid (k0.d.length = z ∧ k0.ws.length ≤ 0)) (hm40 : Hid (m ≤ 40)) (a : Act) (hf : Fr 274 a) (h1 : sl a 1 = .slice ya m yc) (h2 : sl a 2 = .int .i64 pa) (h3 : sl a 3 = .int .i64 na) (h9 : sl a 9 = .pointer (some ⟨g, 0, none⟩)) (h11 : sl a 11 = .pointer (some ⟨b11, 0, none⟩)) (h13 : sl a 13 = .pointer (some ⟨gf, 0, none⟩)) (h14 : sl a 14 = .pointer (some ⟨b14, 0, none⟩)) :
    Code.wp Try.prog (cAt [1,1,1,1,1,1,1,0] KDP) (Exit.then (fun a' w' => ∃ k : Dk, ∃ u : Option Addr, ∃ c : Nat, Fr 274 a' ∧ sl a' 1 = .slice ya m yc ∧ sl a' 2 = .int .i64 pa ∧ sl a' 3 = .int .i64 na ∧ sl a' 9 = .pointer (some ⟨g, 0, none⟩) ∧ sl a' 11 = .pointer (some ⟨b11, 0, none⟩) ∧ sl a' 13 = .pointer (some ⟨gf, 0, none⟩) ∧ sl a' 14 = .pointer (some ⟨b14, 0, none⟩) ∧ Ms w w' [.cell b11 #[.string (str k.d), .slice u k.ws.length c] 63, .any 80 2 u k.ws.length c (rcs k.ws), .disk g k, .cell b14 #[.string (str (nz z)), .slice none 0 0] 63, .disk gf kf] ∧ (k.d.length = z ∧ k.ws.length ≤ m)) Nope) a w9 := by
  have HLA := HLA.out
  have HMX := HMX.out
  have HIP := HIP.out
  have hs := hs.out
  have hfew := hfew.out
  have hz3 := hz3.out
  have HKF := HKF.out
  have HM10 := HM10.out
  have hk0 := hk0.out
  have hm40 := hm40.out
  refine wp_sqR (x := cAt [1,1,1,1,1,1,1,0,0] KDP) (y := cAt [1,1,1,1,1,1,1,0,1] KDP) (by kernel_rfl) (p11i ya m yc pa na g b11 w9 gf b14 a hf h1 h2 h3 h9 h11 h13 h14) ?_
  rintro a_12 _ ⟨hf, h1, h2, h3, h9, h11, h13, h14, h15, rfl⟩
  refine wp_blockR (x := cAt [1,1,1,1,1,1,1,0,1,2] KDP) (id := 0) (by kernel_rfl) ?_
  refine wp_loopR (x := cAt [1,1,1,1,1,1,1,0,1,2,2] KDP) (by kernel_rfl) (fun a' w' => ∃ i : Nat, i ≤ m ∧ ∃ k : Dk, ∃ u : Option Addr, ∃ c : Nat, (Ms w w' [.cell b11 #[.string (str k.d), .slice u k.ws.length c] 63, .any 80 2 u k.ws.length c (rcs k.ws), .disk g k, .cell b14 #[.string (str (nz z)), .slice none 0 0] 63, .disk gf kf]) ∧ (k.d.length = z ∧ k.ws.length ≤ i) ∧ Fr 274 a' ∧ sl a' 1 = .slice ya m yc ∧ sl a' 2 = .int .i64 pa ∧ sl a' 3 = .int .i64 na ∧ sl a' 9 = .pointer (some ⟨g, 0, none⟩) ∧ sl a' 11 = .pointer (some ⟨b11, 0, none⟩) ∧ sl a' 13 = .pointer (some ⟨gf, 0, none⟩) ∧ sl a' 14 = .pointer (some ⟨b14, 0, none⟩) ∧ sl a' 15 = .int .i64 (i : Int)) (fun a' _ => m - (numOf (sl a' 15)).toNat) ⟨0, Nat.zero_le _, k0, none, 0, HM10, hk0, hf, h1, h2, h3, h9, h11, h13, h14, h15⟩ ?_
  rintro a_l wp11 ⟨i, hii, k, u, c, HML, HK, hf, h1, h2, h3, h9, h11, h13, h14, h15⟩
  have hIi := h15
  by_cases hli : i < m
  case neg =>
    refine wp_endX (p11x ya m yc pa na g b11 gf b14 wp11 i hli a_l hf h1 h2 h3 h9 h11 h13 h14 h15) ?_
    rintro a_13 _ ⟨hf, h1, h2, h3, h9, h11, h13, h14, rfl⟩
    have hE : i = m := by omega
    subst hE
    exact thru ⟨k, u, c, hf, h1, h2, h3, h9, h11, h13, h14, HML, HK⟩
  refine wp_sqR (x := cAt [1,1,1,1,1,1,1,0,1,2,2,0] KDP) (y := cAt [1,1,1,1,1,1,1,0,1,2,2,1] KDP) (by kernel_rfl) (p11c ya m yc pa na g b11 gf b14 wp11 i hli a_l hf h1 h2 h3 h9 h11 h13 h14 h15) ?_
  rintro a_14 _ ⟨hf, h1, h2, h3, h9, h11, h13, h14, h15, rfl⟩
  refine wp_sqR (x := cAt [1,1,1,1,1,1,1,0,1,2,2,1,0] KDP) (y := cAt [1,1,1,1,1,1,1,0,1,2,2,1,1] KDP) (by kernel_rfl) (plays_act w s ya m yc la pa na HLA HMX HIP hs hfew z hz3 g b11 gf kf b14 HKF hm40 wp11 i k u c HML HK hli a_14 hf h1 h2 h3 h9 h11 h13 h14 h15) ?_
  rintro a_72 w99 ⟨k9, u9, c9, hf, h1, h2, h3, h9, h11, h13, h14, h15, HM99, HK99⟩
  refine wp_endR (p11n ya m yc pa na g b11 gf b14 hm40 i hli w99 a_72 hf h1 h2 h3 h9 h11 h13 h14 h15) ?_
  rintro a_73 _ ⟨hf, h1, h2, h3, h9, h11, h13, h14, h15, rfl⟩
  refine ⟨⟨i + 1, hli, k9, u9, c9, HM99, HK99, hf, h1, h2, h3, h9, h11, h13, h14, h15⟩, ?_⟩
  rw [hIi, h15]
  simp only [numOf]
  omega

set_option maxRecDepth 100000 in
set_option maxHeartbeats 4000000 in
theorem p58 (w : World) (m : Nat) (z : Nat) (_hz3 : Hid (z ≤ 300)) (g : Nat) (b11 : Nat) (gf : Nat) (kf : Dk) (b14 : Nat) (HKF : Hid (kf.d = nz z ∧ kf.ws = [])) (hm40 : Hid (m ≤ 40)) (w88 : World) (k : Dk) (u : Option Addr) (c : Nat) (HM88 : Hid (Ms w w88 [.cell b11 #[.string (str k.d), .slice u k.ws.length c] 63, .any 80 2 u k.ws.length c (rcs k.ws), .disk g k, .cell b14 #[.string (str (nz z)), .slice none 0 0] 63, .disk gf kf])) (HK88 : Hid (k.d.length = z ∧ k.ws.length ≤ m)) (a : Act) (hf : Fr 274 a) (h9 : sl a 9 = .pointer (some ⟨g, 0, none⟩)) (h13 : sl a 13 = .pointer (some ⟨gf, 0, none⟩)) (h14 : sl a 14 = .pointer (some ⟨b14, 0, none⟩)) :
    Code.wp Try.prog (cAt [1,1,1,1,1,1,1,1] KDP) (bodyPost Try.prog Try.f20 (Yes w)) a w88 := by
  have x0 := two0 (cell_ok (HM88.out.ok (.cell b14 #[.string (str (nz z)), .slice none 0 0] 63) (by simp)))
  have x1 := two1 (cell_ok (HM88.out.ok (.cell b14 #[.string (str (nz z)), .slice none 0 0] 63) (by simp)))
  have HNW : Hid (k.W.length ≤ 1000000) := by show k.W.length ≤ _; rw [ws_len]; have := HK88.out.2; have := hm40.out; omega
  obtain ⟨f, ha, hs⟩ := frKDP hf
  have e9 := (hs 9).trans h9
  have e13 := (hs 13).trans h13
  have e14 := (hs 14).trans h14
  rw [e9, e13, e14] at ha
  clear hs hf e9 h9 e13 h13 e14 h14
  subst ha
  conv => arg 2; whnf
  go_wp2_with fail
  refine (show Calls Try.prog 37 #[.pointer (some ⟨gf, 0, none⟩), .agg #[.string (str (nz z)), .slice none 0 0]] w88 _ from sameDisk_any w.heap.size gf kf ⟨nz z, none, 0, []⟩ w88 (HM88.out.ok (.disk gf kf) (by simp)) (fun h => absurd rfl h) HKF.out.1.symm HKF.out.2.symm (by rw [HKF.out.2]; decide)).mono ?_
  rintro e w1 ⟨rfl, hb⟩
  have HM1 : Hid (Ms w w1 (.disk g k :: [.cell b11 #[.string (str k.d), .slice u k.ws.length c] 63, .any 80 2 u k.ws.length c (rcs k.ws), .cell b14 #[.string (str (nz z)), .slice none 0 0] 63, .disk gf kf])) := (Ms.perm (HM88.out.past hb) ((List.Perm.cons _ (List.Perm.swap _ _ _)).trans (List.Perm.swap _ _ _)))
  clear hb
  go_wp2_with fail
  refine (dkCopy_any w.heap.size g k w1 HM1.out.hd HNW.out).mono ?_
  rintro e w2 ⟨gc, kc, rfl, hc, hcd, hcl, hb⟩
  have HM2 : Hid (Ms w w2 (.disk gc kc :: .disk g k :: [.cell b11 #[.string (str k.d), .slice u k.ws.length c] 63, .any 80 2 u k.ws.length c (rcs k.ws), .cell b14 #[.string (str (nz z)), .slice none 0 0] 63, .disk gf kf]) ∧ kc.d = k.d ∧ kc.ws = k.ws) := ⟨HM1.out.add (t := .disk gc kc) hb hc, hcd, hcl⟩
  clear hc hcd hcl hb
  go_wp2_with fail
  refine (dkSame_any w.heap.size g w.heap.size gc k kc w2 (HM2.out.1.ok (.disk g k) (by simp)) HM2.out.1.hd HNW.out (by rw [ws_len, HM2.out.2.2, ← ws_len]; exact HNW.out)).mono ?_
  rintro e w3 ⟨rfl, hb⟩
  have HB3 : Hid (Below w.heap.size w w3) := (HM2.out.1.past hb).below
  rw [show decide (k.d = kc.d ∧ k.ws = kc.ws) = true from decide_eq_true ⟨HM2.out.2.1.symm, HM2.out.2.2.symm⟩]
  clear hb
  go_wp2_with fail
  refine (works13_any w3).mono ?_
  rintro e w4 ⟨rfl, hb⟩
  have H4 : Hid (Below w.heap.size w w4) := HB3.out.trans (hb.mono HB3.out.size)
  clear hb
  go_wp2_with fail
  first | exact ⟨rfl, H4.out⟩ | (go_ret; exact ⟨rfl, H4.out⟩)

theorem plays13_any (s : Int) (ya : Option Addr) (m yc : Nat) (la : List Ac) (pa na : Int) (w : World) (HLA : Acr w ya m la) (HMX : m ≤ maxLen) (HIP : I64 pa) :
    Calls Try.prog 20 #[.int .i64 s, .slice ya m yc, .int .i64 pa, .int .i64 na] w (Yes w) := by
  refine calls_of_wp (c := KDP) Try.func20 (by kernel_rfl) ?_
  have hf : Fr 274 { tmps := #[.int .i64 s, .slice ya m yc, .int .i64 pa, .int .i64 na] ++ Array.replicate (Try.f20.ntmps - (#[.int .i64 s, .slice ya m yc, .int .i64 pa, .int .i64 na] : Array Value).size) undef, defers := [] } := ⟨rfl, by simp [Try.ntmps20]⟩
  generalize ha : ({ tmps := #[.int .i64 s, .slice ya m yc, .int .i64 pa, .int .i64 na] ++ Array.replicate (Try.f20.ntmps - (#[.int .i64 s, .slice ya m yc, .int .i64 pa, .int .i64 na] : Array Value).size) undef, defers := [] } : Act) = a at hf ⊢
  have h0 : sl a 0 = .int .i64 s := by rw [← ha]; exact sl_at _ _ 0 _ rfl
  have h1 : sl a 1 = .slice ya m yc := by rw [← ha]; exact sl_at _ _ 1 _ rfl
  have h2 : sl a 2 = .int .i64 pa := by rw [← ha]; exact sl_at _ _ 2 _ rfl
  have h3 : sl a 3 = .int .i64 na := by rw [← ha]; exact sl_at _ _ 3 _ rfl
  clear ha
  refine wp_sqR (x := cAt [0] KDP) (y := cAt [1] KDP) (by kernel_rfl) (p0 w s ya m yc pa na a hf h0 h1 h2 h3) ?_
  rintro a_1 _ ⟨hf, h0, h1, h2, h3, rfl⟩
  refine wp_sqG (x := cAt [1,0] KDP) (y := cAt [1,1] KDP) (by kernel_rfl) ?_
  refine wp_sqR (x := cAt [1,0,0] KDP) (y := cAt [1,0,1] KDP) (by kernel_rfl) (p1 w s ya m yc la pa na HLA HMX a_1 hf h0 h1 h2 h3) ?_
  rintro a_2 _ ⟨bb, hf, h0, h1, h2, h3, h44, HBB, rfl⟩
  cases bb with
  | true =>
    refine wp_onT (A := cAt [1,0,1,3] KDP) (B := cAt [1,0,1,4] KDP) (by kernel_rfl) h44 ?_
    exact wp_endT (kpw w w (Below.refl _ _) a_2 hf) (fun a' w' h => h)
  | false =>
  obtain ⟨hs, hfew⟩ := HBB rfl
  refine wp_onF (A := cAt [1,0,1,3] KDP) (B := cAt [1,0,1,4] KDP) (by kernel_rfl) h44 ?_
  refine wp_skipR (by kernel_rfl) ?_
  by_cases hbad : s < 0 ∨ 65536 < s
  case pos =>
    obtain ⟨ec, hec⟩ : ∃ ec : Int, (if s < 0 then 2 else 3) = ec := ⟨_, rfl⟩
    have hec0 : ec ≠ 0 := by rw [← hec]; split <;> decide
    refine wp_sqR (x := cAt [1,1,0] KDP) (y := cAt [1,1,1] KDP) (by kernel_rfl) (p3n w s ya m yc pa na hbad ec hec a_2 hf h0 h1 h2 h3) ?_
    rintro a_3 _ ⟨hf, h0, h9, h10, rfl⟩
    refine wp_sqR (x := cAt [1,1,1,0] KDP) (y := cAt [1,1,1,1] KDP) (by kernel_rfl) (p4n w s hbad ec hec a_3 hf h0 h9 h10) ?_
    rintro a_4 w4 ⟨hf, h9, h10, h12, HB4⟩
    refine wp_sqG (x := cAt [1,1,1,1,0] KDP) (y := cAt [1,1,1,1,1] KDP) (by kernel_rfl) ?_
    refine wp_sqR (x := cAt [1,1,1,1,0,0] KDP) (y := cAt [1,1,1,1,0,1] KDP) (by kernel_rfl) (p5n ec hec0 w4 a_4 hf h9 h10 h12) ?_
    rintro a_5 _ ⟨hf, h9, h10, h12, h65, rfl⟩
    refine wp_onF (A := cAt [1,1,1,1,0,1,3] KDP) (B := cAt [1,1,1,1,0,1,4] KDP) (by kernel_rfl) h65 ?_
    refine wp_skipR (by kernel_rfl) ?_
    refine wp_sqG (x := cAt [1,1,1,1,1,0] KDP) (y := cAt [1,1,1,1,1,1] KDP) (by kernel_rfl) ?_
    refine wp_sqR (x := cAt [1,1,1,1,1,0,0] KDP) (y := cAt [1,1,1,1,1,0,1] KDP) (by kernel_rfl) (p7n ec hec0 w4 a_5 hf h9 h10 h12) ?_
    rintro a_6 _ ⟨hf, h9, h10, h12, h67, rfl⟩
    refine wp_onT (A := cAt [1,1,1,1,1,0,1,3] KDP) (B := cAt [1,1,1,1,1,0,1,4] KDP) (by kernel_rfl) h67 ?_
    exact wp_endT (kpw2 w w4 HB4 a_6 hf) (fun a' w' h => h)
  obtain ⟨z, hz⟩ : ∃ z : Nat, s = (z : Int) := ⟨s.toNat, by omega⟩
  have hz3 : z ≤ 300 := by omega
  rw [hz] at h0
  refine wp_sqR (x := cAt [1,1,0] KDP) (y := cAt [1,1,1] KDP) (by kernel_rfl) (p3 w ya m yc pa na z hz3 a_2 hf h0 h1 h2 h3) ?_
  rintro a_7 w3 ⟨g, k0, hf, h0, h1, h2, h3, h9, h10, HM3, HK0⟩
  refine wp_sqR (x := cAt [1,1,1,0] KDP) (y := cAt [1,1,1,1] KDP) (by kernel_rfl) (p4 w ya m yc pa na z hz3 w3 g k0 HM3 a_7 hf h0 h1 h2 h3 h9 h10) ?_
  rintro a_8 w4 ⟨b11, hf, h0, h1, h2, h3, h9, h10, h11, h12, HM4⟩
  refine wp_sqG (x := cAt [1,1,1,1,0] KDP) (y := cAt [1,1,1,1,1] KDP) (by kernel_rfl) ?_
  refine wp_sqR (x := cAt [1,1,1,1,0,0] KDP) (y := cAt [1,1,1,1,0,1] KDP) (by kernel_rfl) (p5 ya m yc pa na z g w4 b11 a_8 hf h0 h1 h2 h3 h9 h10 h11 h12) ?_
  rintro a_9 _ ⟨hf, h0, h1, h2, h3, h9, h10, h11, h12, h65, rfl⟩
  refine wp_onF (A := cAt [1,1,1,1,0,1,3] KDP) (B := cAt [1,1,1,1,0,1,4] KDP) (by kernel_rfl) h65 ?_
  refine wp_skipR (by kernel_rfl) ?_
  refine wp_sqG (x := cAt [1,1,1,1,1,0] KDP) (y := cAt [1,1,1,1,1,1] KDP) (by kernel_rfl) ?_
  refine wp_sqR (x := cAt [1,1,1,1,1,0,0] KDP) (y := cAt [1,1,1,1,1,0,1] KDP) (by kernel_rfl) (p7 ya m yc pa na z g w4 b11 a_9 hf h0 h1 h2 h3 h9 h10 h11 h12) ?_
  rintro a_10 _ ⟨hf, h1, h2, h3, h9, h11, h67, rfl⟩
  refine wp_onF (A := cAt [1,1,1,1,1,0,1,3] KDP) (B := cAt [1,1,1,1,1,0,1,4] KDP) (by kernel_rfl) h67 ?_
  refine wp_skipR (by kernel_rfl) ?_
  refine wp_sqR (x := cAt [1,1,1,1,1,1,0] KDP) (y := cAt [1,1,1,1,1,1,1] KDP) (by kernel_rfl) (p9 w ya m yc pa na z g k0 HK0 w4 b11 HM4 a_10 hf h1 h2 h3 h9 h11) ?_
  rintro a_11 w9 ⟨gf, kf, b14, hf, h1, h2, h3, h9, h11, h13, h14, HM9, HKF⟩
  have HM10 : Ms w w9 [.cell b11 #[.string (str k0.d), .slice none k0.ws.length 0] 63, .any 80 2 none k0.ws.length 0 (rcs k0.ws), .disk g k0, .cell b14 #[.string (str (nz z)), .slice none 0 0] 63, .disk gf kf] := by
    rw [HK0.2, HK0.1]
    exact (HM9.add (t := .any 80 2 none 0 0 []) (Below.refl _ _) (OwnG.nil _ _ _ _)).to1
  have hk0 : k0.d.length = z ∧ k0.ws.length ≤ 0 := ⟨by rw [HK0.1]; exact List.length_replicate, by rw [HK0.2]; exact Nat.le_refl _⟩
  have hm40 : m ≤ 40 := by rw [← HLA.len]; exact hfew.1
  refine wp_sqR (x := cAt [1,1,1,1,1,1,1,0] KDP) (y := cAt [1,1,1,1,1,1,1,1] KDP) (by kernel_rfl) (plays_acts w s ya m yc la pa na HLA HMX HIP hs hfew z hz3 g k0 b11 w9 gf kf b14 HKF HM10 hk0 hm40 a_11 hf h1 h2 h3 h9 h11 h13 h14) ?_
  rintro a_74 w88 ⟨k, u, c, hf, h1, h2, h3, h9, h11, h13, h14, HM88, HK88⟩
  exact p58 w m z hz3 g b11 gf kf b14 HKF hm40 w88 k u c HM88 HK88 a_74 hf h9 h13 h14
end Go.Proofs.Ytbghdlgfpfeaeaa

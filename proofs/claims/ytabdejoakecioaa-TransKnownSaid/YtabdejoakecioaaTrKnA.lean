/-
  TransKnown in pieces: what is made ahead of the loop, and the round up to its first segment. Conditions: those that the theorems name.
-/
import Derived.Test.YtabdejoakecioaaTrBack
import Derived.Test.YtabdejoakecioaaTrPuts
import Derived.Test.YtabdejoakecioaaPieces
namespace Go.Proofs.Ytabdejoakecioaa
open Go.ChangeShapes Go.WideShapes Go.ChangeAt Go.RowKit

/-- The bytes so far. -/
structure Kn (w wr : World) (a : Option Addr) (k c : Nat) (bs : List Int) : Prop where
  own : Own wr w.heap.size a k c bs
  byt : Byt bs
  below : Below w.heap.size w wr
theorem Kn.next {w wr wr' : World} {a : Option Addr} {k c : Nat} {bs : List Int} (h : Kn w wr a k c bs) (hb : Below wr.heap.size wr wr') : Kn w wr' a k c bs := ⟨h.own.below hb, h.byt, h.below.trans (hb.mono h.below.size)⟩
theorem Own.row {w : World} {base : Nat} {a : Option Addr} {n c : Nat} {xs : List Int} (h : Own w base a n c xs) (hb : Byt xs) : Row.ok w ⟨a, n, c, xs⟩ := ⟨h.len, h.le.1, h.le.2, h.rd, hb⟩
theorem Row.ok.cut {w : World} {a : Option Addr} {n c : Nat} {xs : List Int} (h : Row.ok w ⟨a, n, c, xs⟩) (m : Nat) (hm : m ≤ n) : Row.ok w ⟨a, m, c, xs.take m⟩ :=
  ⟨by rw [List.length_take, h.len]; exact Nat.min_eq_left hm, Nat.le_trans hm h.cap, h.max, h.rd.taken m, h.byt.take m⟩
/-- An append onto a slice without room is one onto no slice. -/
theorem append_empty (b0 ad : Addr) (m c ty : Nat) (w : World) (hm : 0 < m) (hm2 : m ≤ 1000) :
    (Builtin.append_ #[24, 24] ty #[.slice (some b0) 0 0, .slice (some ad) m c]).run Try.prog w = (Builtin.append_ #[24, 24] ty #[.slice none 0 0, .slice (some ad) m c]).run Try.prog w := by
  obtain ⟨i0, hi, hz0, hz1, hz2⟩ := info_parts u8_info
  have h1 : m ≠ 0 := by omega
  have h3 : ¬ 281474976710656 < m := by omega
  simp [Builtin.append_, run_underlying Try.underlying24, sizeOf, typeInfo, hi, hz2, Builtin.lenOf, Builtin.firstCells, loadCells, loadCellsFrom, h1, Builtin.nextslicecap, hm, h3]
/-- A segment that lies in a block of its own, its rows elsewhere. -/
structure SX (w3 : World) (b : Nat) (s : Sg) (wx : World) : Prop where
  below : Below w3.heap.size w3 wx
  seg : wx.rangeAt b 0 s.cs
  th : wx.there b 0 12
  ge : w3.heap.size ≤ b
  ok : s.ok w3
  lim : s.on ≤ 44 ∧ s.dn ≤ 48
theorem SX.now {w3 wx : World} {b : Nat} {s : Sg} (h : SX w3 b s wx) : s.ok wx := h.ok.below h.below
theorem SX.set {w3 wx : World} {b : Nat} {s : Sg} (h : SX w3 b s wx) (s' : Sg) (j : Nat) (hj : j < 12) (v : Value) (he : s.cs.set j v = s'.cs) (hok : s'.ok w3) (hl : s'.on ≤ 44 ∧ s'.dn ≤ 48) : SX w3 b s' (wx.setCell ⟨b, j, none⟩ v) :=
  ⟨h.below.setCell (p := ⟨b, j, none⟩) h.ge v, by rw [← he]; exact range_one h.seg h.th hj v, there_one h.th j v, h.ge, hok, hl⟩
theorem SX.put {w3 wx : World} {b : Nat} (hb : Below w3.heap.size w3 wx) (ht : wx.there b 0 12) (hg : w3.heap.size ≤ b) (s' : Sg) (hok : s'.ok w3) (hl : s'.on ≤ 44 ∧ s'.dn ≤ 48) : SX w3 b s' (wx.setCells b 0 s'.cs) :=
  ⟨Below.setCells hb b hg _ _, World.rangeAt_setCells_same _ _ _ _ ht, World.there_setCells ht _ _ _, hg, hok, hl⟩
theorem SX.new (w3 : World) (s : Sg) (hok : s.ok w3) (hl : s.on ≤ 44 ∧ s.dn ≤ 48) : SX w3 w3.heap.size s ((w3.alloc (.cells sg0.cs.toArray 26)).setCells w3.heap.size 0 s.cs) :=
  SX.put ((Below.refl _ _).alloc (Nat.le_refl _) _) (there_new _ _ _ _ rfl _ rfl) (Nat.le_refl _) s hok hl
/-- The bytes so far and the two addresses. -/
structure RW (w0 : World) (g1 k c1 : Nat) (bs : List Int) (r5 r6 : Row) (w : World) : Prop where
  d : Kn w0 w (some ⟨g1, 0, none⟩) (k + 1) c1 bs
  o5 : r5.ok w
  o6 : r6.ok w
  l5 : 4 ≤ r5.n ∧ r5.n ≤ 16
  l6 : 4 ≤ r6.n ∧ r6.n ≤ 16
theorem RW.next {w0 w w' : World} {g1 k c1 : Nat} {bs : List Int} {r5 r6 : Row} (h : RW w0 g1 k c1 bs r5 r6 w) (hb : Below w.heap.size w w') : RW w0 g1 k c1 bs r5 r6 w' := ⟨h.d.next hb, h.o5.below hb, h.o6.below hb, h.l5, h.l6⟩
def lit4 : List Int := [6, 17, 1, 58]
theorem lit4_get (r : Nat) (hr : r < 4) : 0 ≤ lit4.getD r 0 ∧ lit4.getD r 0 < 256 := by
  have : r = 0 ∨ r = 1 ∨ r = 2 ∨ r = 3 := by omega
  rcases this with rfl | rfl | rfl | rfl <;> decide
theorem byt_four (x : Int) (h : 0 ≤ x ∧ x < 256) : Byt [10, 0, 0, x] := by intro y hy; simp at hy; omega
/-- A segment of a number and data alone. -/
def sgA (p : Int) (dt : List Int) (da : Option Addr) (dn dc : Nat) : Sg := ⟨{ pl0 with pro := p, dt := dt }, none, 0, 0, da, dn, dc⟩
theorem builtA (p : Int) (dt : List Int) (da : Option Addr) (dn dc : Nat) : Try.prog.built 26 [(0, .int .u8 p), (11, .slice da dn dc)] = some (sgA p dt da dn dc).cs.toArray := by kernel_rfl
theorem sgA_ok {w : World} {p : Int} {dt : List Int} {da : Option Addr} {dn dc : Nat} (hp : 0 ≤ p ∧ p < 256) (h : Row.ok w ⟨da, dn, dc, dt⟩) : (sgA p dt da dn dc).ok w :=
  ⟨⟨hp, pl0_fit.src, pl0_fit.dst, pl0_fit.seq, pl0_fit.ack, pl0_fit.fl, pl0_fit.win, pl0_fit.urg, Byt.nil, pl0_fit.ty, pl0_fit.co, h.byt⟩, Row.no_ok _, h⟩

noncomputable def KC : Code := Try.f6.body.getD .skip
set_option maxRecDepth 100000 in
theorem fr235 {a : Act} (h : Fr 235 a) : ∃ f : Nat → Value, a = ⟨#[f 0, f 1, f 2, f 3, f 4, f 5, f 6, f 7, f 8, f 9, f 10, f 11, f 12, f 13, f 14, f 15, f 16, f 17, f 18, f 19, f 20, f 21, f 22, f 23, f 24, f 25, f 26, f 27, f 28, f 29, f 30, f 31, f 32, f 33, f 34, f 35, f 36, f 37, f 38, f 39, f 40, f 41, f 42, f 43, f 44, f 45, f 46, f 47, f 48, f 49, f 50, f 51, f 52, f 53, f 54, f 55, f 56, f 57, f 58, f 59, f 60, f 61, f 62, f 63, f 64, f 65, f 66, f 67, f 68, f 69, f 70, f 71, f 72, f 73, f 74, f 75, f 76, f 77, f 78, f 79, f 80, f 81, f 82, f 83, f 84, f 85, f 86, f 87, f 88, f 89, f 90, f 91, f 92, f 93, f 94, f 95, f 96, f 97, f 98, f 99, f 100, f 101, f 102, f 103, f 104, f 105, f 106, f 107, f 108, f 109, f 110, f 111, f 112, f 113, f 114, f 115, f 116, f 117, f 118, f 119, f 120, f 121, f 122, f 123, f 124, f 125, f 126, f 127, f 128, f 129, f 130, f 131, f 132, f 133, f 134, f 135, f 136, f 137, f 138, f 139, f 140, f 141, f 142, f 143, f 144, f 145, f 146, f 147, f 148, f 149, f 150, f 151, f 152, f 153, f 154, f 155, f 156, f 157, f 158, f 159, f 160, f 161, f 162, f 163, f 164, f 165, f 166, f 167, f 168, f 169, f 170, f 171, f 172, f 173, f 174, f 175, f 176, f 177, f 178, f 179, f 180, f 181, f 182, f 183, f 184, f 185, f 186, f 187, f 188, f 189, f 190, f 191, f 192, f 193, f 194, f 195, f 196, f 197, f 198, f 199, f 200, f 201, f 202, f 203, f 204, f 205, f 206, f 207, f 208, f 209, f 210, f 211, f 212, f 213, f 214, f 215, f 216, f 217, f 218, f 219, f 220, f 221, f 222, f 223, f 224, f 225, f 226, f 227, f 228, f 229, f 230, f 231, f 232, f 233, f 234], []⟩ ∧ ∀ i, f i = sl a i := fr_any h

set_option maxRecDepth 100000 in
set_option maxHeartbeats 4000000 in
theorem t0 (w : World) (a : Act) (hf : Fr 235 a)  :
    Code.wp Try.prog (cAt [0] KC) (Exit.then (fun a' w' => Fr 235 a' ∧ w = w') Nope) a w := by
  obtain ⟨f, ha, hs⟩ := fr235 hf
  clear hs hf
  subst ha
  refine piece2 fun J0 K0 hJ0 hK0 => ?_
  conv => arg 2; whnf
  go_wp2_with fail
  refine Met.intro (hJ0 _ _ ?_)
  exact ⟨⟨rfl, rfl⟩, rfl⟩

set_option maxRecDepth 100000 in
set_option maxHeartbeats 4000000 in
theorem t1 (w : World) (a : Act) (hf : Fr 235 a)  :
    Code.wp Try.prog (cAt [1,0] KC) (Exit.then (fun a' w' => Fr 235 a' ∧ sl a' 1 = .slice none 0 0 ∧ w = w') Nope) a w := by
  obtain ⟨f, ha, hs⟩ := fr235 hf
  clear hs hf
  subst ha
  refine piece2 fun J0 K0 hJ0 hK0 => ?_
  conv => arg 2; whnf
  go_wp2_with fail
  refine Met.intro (hJ0 _ _ ?_)
  exact ⟨⟨rfl, rfl⟩, rfl, rfl⟩

set_option maxRecDepth 100000 in
set_option maxHeartbeats 4000000 in
theorem t2 (w : World) (a : Act) (hf : Fr 235 a) (h1 : sl a 1 = .slice none 0 0) :
    Code.wp Try.prog (cAt [1,1,0] KC) (Exit.then (fun a' w' => ∃ (a2 a3 : Option Addr) (x2 x3 : List Int), Fr 235 a' ∧ sl a' 1 = .slice none 0 0 ∧ sl a' 2 = .slice a2 4 4 ∧ sl a' 3 = .slice a3 16 16 ∧ Row.ok w' ⟨a2, 4, 4, x2⟩ ∧ Row.ok w' ⟨a3, 16, 16, x3⟩ ∧ Below w.heap.size w w') Nope) a w := by
  obtain ⟨f, ha, hs⟩ := fr235 hf
  have e1 := (hs 1).trans h1
  rw [e1] at ha
  clear hs hf e1 h1
  subst ha
  refine piece2 fun J0 K0 hJ0 hK0 => ?_
  conv => arg 2; whnf
  refine wp_region_held_drew (S := fun _ => True) (by kernel_rfl) trivial (fun hS => ?_)
  have hb0 : Below w.heap.size w w.drew := (Below.refl _ _).drew
  obtain ⟨x0, hx0⟩ : ∃ y, w.drew = y := ⟨_, rfl⟩
  rw [hx0] at hb0 ⊢
  clear hx0
  refine wpAnyH_ready (rs := [0, 1]) (by kernel_rfl) (by simp) (AllReadyH.cons rfl (fun K hK => ?_) (AllReadyH.cons rfl (fun K hK => ?_) AllReadyH.nil))
  · rw [if_pos (by rfl)]
    have hb := hb0
    go_wp2_with fail
    obtain ⟨x1, hx1⟩ : ∃ y, x0.alloc (.cells (bv [10, 0, 0, 1]).toArray 5) = y := ⟨_, rfl⟩
    have hl : Own x1 w.heap.size (some ⟨x0.heap.size, 0, none⟩) 4 4 [10, 0, 0, 1] := by rw [← hx1]; exact Own.lit _ _ _ 4 rfl (by decide) hb.size
    have hbl : Below x0.heap.size x0 x1 := by rw [← hx1]; exact (Below.refl _ _).alloc (Nat.le_refl _) _
    change K _ (x0.alloc (.cells (bv [10, 0, 0, 1]).toArray 5))
    rw [hx1]
    clear hx1 hS
    refine hK.out _ _ trivial (fun hS => ?_)
    clear hK K
    try simp only [Act.put, List.setIfInBounds_toArray, List.set_cons_zero, List.set_cons_succ]
    refine tk 2 2 (.slice (some ⟨x0.heap.size, 0, none⟩) 4 4) rfl rfl (by kernel_rfl) (by kernel_rfl) (by kernel_rfl) (fun _ _ _ h => h) (Or.inl ⟨by rfl, fun w' h' => ?_⟩) hS ?_
    · go_simp
    try simp only [Act.put, List.setIfInBounds_toArray, List.set_cons_zero, List.set_cons_succ]
    refine wpAnyH_ready (rs := [1]) (by kernel_rfl) (by simp) (AllReadyH.cons rfl (fun K hK => ?_) AllReadyH.nil)
    rw [if_pos (by rfl)]
    obtain ⟨x2, hmk, hm, hbm⟩ := mk_nz x1 16 (by decide)
    have hmk' : (Instr.makeSlice 24 (.int .i64 16) (.int .i64 16)).run Try.prog x1 = .ok (.slice (some ⟨x1.heap.size, 0, none⟩) 16 16) x2 := hmk
    go_wp2_with fail
    clear hmk hmk' hS
    refine hK.out _ _ trivial (fun hS => ?_)
    clear hK K
    try simp only [Act.put, List.setIfInBounds_toArray, List.set_cons_zero, List.set_cons_succ]
    refine tk 3 3 (.slice (some ⟨x1.heap.size, 0, none⟩) 16 16) rfl rfl (by kernel_rfl) (by kernel_rfl) (by kernel_rfl) (fun _ _ _ h => h) (Or.inl ⟨by rfl, fun w' h' => ?_⟩) hS ?_
    · go_simp
    try simp only [Act.put, List.setIfInBounds_toArray, List.set_cons_zero, List.set_cons_succ]
    refine wpAnyH_done (by kernel_rfl) ?_ _
    go_wp2_with fail
    refine Met.intro (hJ0 _ _ ?_)
    exact ⟨_, _, _, _, ⟨rfl, rfl⟩, rfl, rfl, rfl, (hl.row (byt_four 1 (by decide))).below hbm, hm.row (nz_byt 16), (hb0.trans (hbl.mono hb0.size)).trans (hbm.mono (hb0.trans (hbl.mono hb0.size)).size)⟩
  · rw [if_pos (by rfl)]
    obtain ⟨x1, hmk, hm, hbm⟩ := mk_nz x0 16 (by decide)
    have hmk' : (Instr.makeSlice 24 (.int .i64 16) (.int .i64 16)).run Try.prog x0 = .ok (.slice (some ⟨x0.heap.size, 0, none⟩) 16 16) x1 := hmk
    go_wp2_with fail
    clear hmk hmk' hS
    refine hK.out _ _ trivial (fun hS => ?_)
    clear hK K
    have hb := hb0.trans (hbm.mono hb0.size)
    try simp only [Act.put, List.setIfInBounds_toArray, List.set_cons_zero, List.set_cons_succ]
    refine wpAnyH_ready (rs := [0]) (by kernel_rfl) (by simp) (AllReadyH.cons rfl (fun K hK => ?_) AllReadyH.nil)
    rw [if_pos (by rfl)]
    go_wp2_with fail
    obtain ⟨x2, hx2⟩ : ∃ y, x1.alloc (.cells (bv [10, 0, 0, 1]).toArray 5) = y := ⟨_, rfl⟩
    have hl : Own x2 w.heap.size (some ⟨x1.heap.size, 0, none⟩) 4 4 [10, 0, 0, 1] := by rw [← hx2]; exact Own.lit _ _ _ 4 rfl (by decide) hb.size
    have hbl : Below x1.heap.size x1 x2 := by rw [← hx2]; exact (Below.refl _ _).alloc (Nat.le_refl _) _
    change K _ (x1.alloc (.cells (bv [10, 0, 0, 1]).toArray 5))
    rw [hx2]
    clear hx2 hS
    refine hK.out _ _ trivial (fun hS => ?_)
    clear hK K
    try simp only [Act.put, List.setIfInBounds_toArray, List.set_cons_zero, List.set_cons_succ]
    refine tk 2 2 (.slice (some ⟨x1.heap.size, 0, none⟩) 4 4) rfl rfl (by kernel_rfl) (by kernel_rfl) (by kernel_rfl) (fun _ _ _ h => h) (Or.inl ⟨by rfl, fun w' h' => ?_⟩) hS ?_
    · go_simp
    try simp only [Act.put, List.setIfInBounds_toArray, List.set_cons_zero, List.set_cons_succ]
    refine tk 3 3 (.slice (some ⟨x0.heap.size, 0, none⟩) 16 16) rfl rfl (by kernel_rfl) (by kernel_rfl) (by kernel_rfl) (fun _ _ _ h => h) (Or.inl ⟨by rfl, fun w' h' => ?_⟩) hS ?_
    · go_simp
    try simp only [Act.put, List.setIfInBounds_toArray, List.set_cons_zero, List.set_cons_succ]
    refine wpAnyH_done (by kernel_rfl) ?_ _
    go_wp2_with fail
    refine Met.intro (hJ0 _ _ ?_)
    exact ⟨_, _, _, _, ⟨rfl, rfl⟩, rfl, rfl, rfl, hl.row (byt_four 1 (by decide)), (hm.row (nz_byt 16)).below hbl, hb.trans (hbl.mono hb.size)⟩

set_option maxRecDepth 100000 in
set_option maxHeartbeats 4000000 in
theorem t3 (w : World) (a2 a3 : Option Addr) (a : Act) (hf : Fr 235 a) (h1 : sl a 1 = .slice none 0 0) (h2 : sl a 2 = .slice a2 4 4) (h3 : sl a 3 = .slice a3 16 16) :
    Code.wp Try.prog (cAt [1,1,1,0,0] KC) (Exit.then (fun a' w' => Fr 235 a' ∧ sl a' 1 = .slice none 0 0 ∧ sl a' 2 = .slice a2 4 4 ∧ sl a' 3 = .slice a3 16 16 ∧ sl a' 4 = .int .i64 0 ∧ w = w') Nope) a w := by
  obtain ⟨f, ha, hs⟩ := fr235 hf
  have e1 := (hs 1).trans h1
  have e2 := (hs 2).trans h2
  have e3 := (hs 3).trans h3
  rw [e1, e2, e3] at ha
  clear hs hf e1 h1 e2 h2 e3 h3
  subst ha
  refine piece2 fun J0 K0 hJ0 hK0 => ?_
  conv => arg 2; whnf
  go_wp2_with fail
  refine Met.intro (hJ0 _ _ ?_)
  exact ⟨⟨rfl, rfl⟩, rfl, rfl, rfl, rfl, rfl⟩

set_option maxRecDepth 100000 in
set_option maxHeartbeats 4000000 in
theorem t4 (wr : World) (k c : Nat) (a0 : Option Addr) (hlt : k < 48) (a2 a3 : Option Addr) (a : Act) (hf : Fr 235 a) (h1 : sl a 1 = .slice a0 k c) (h2 : sl a 2 = .slice a2 4 4) (h3 : sl a 3 = .slice a3 16 16) (h4 : sl a 4 = .int .i64 (k : Int)) :
    Code.wp Try.prog (cAt [1,1,1,0,1,2,2,0] KC) (Exit.then (fun a' w' => Fr 235 a' ∧ sl a' 1 = .slice a0 k c ∧ sl a' 2 = .slice a2 4 4 ∧ sl a' 3 = .slice a3 16 16 ∧ sl a' 4 = .int .i64 (k : Int) ∧ wr = w') Nope) a wr := by
  obtain ⟨f, ha, hs⟩ := fr235 hf
  have e1 := (hs 1).trans h1
  have e2 := (hs 2).trans h2
  have e3 := (hs 3).trans h3
  have e4 := (hs 4).trans h4
  rw [e1, e2, e3, e4] at ha
  clear hs hf e1 h1 e2 h2 e3 h3 e4 h4
  subst ha
  refine piece2 fun J0 K0 hJ0 hK0 => ?_
  conv => arg 2; whnf
  have hlt' : (k : Int) < 48 := by omega
  go_wp2_with fail
  refine Met.intro (hJ0 _ _ ?_)
  exact ⟨⟨rfl, rfl⟩, rfl, rfl, rfl, rfl, rfl⟩

set_option maxRecDepth 100000 in
set_option maxHeartbeats 4000000 in
theorem t6 (w0 wr : World) (k c : Nat) (a0 : Option Addr) (bs0 : List Int) (hlt : k < 48) (a2 a3 : Option Addr) (HK : Hid (Kn w0 wr a0 k c bs0)) (a : Act) (hf : Fr 235 a) (h1 : sl a 1 = .slice a0 k c) (h2 : sl a 2 = .slice a2 4 4) (h3 : sl a 3 = .slice a3 16 16) (h4 : sl a 4 = .int .i64 (k : Int)) :
    Code.wp Try.prog (cAt [1,1,1,0,1,2,2,1,0,2,0] KC) (Exit.then (fun a' w' => ∃ g1 c1 bs, Fr 235 a' ∧ sl a' 1 = .slice (some ⟨g1, 0, none⟩) (k + 1) c1 ∧ sl a' 2 = .slice a2 4 4 ∧ sl a' 3 = .slice a3 16 16 ∧ sl a' 4 = .int .i64 (k : Int) ∧ Kn w0 w' (some ⟨g1, 0, none⟩) (k + 1) c1 bs) Nope) a wr := by
  obtain ⟨f, ha, hs⟩ := fr235 hf
  have e1 := (hs 1).trans h1
  have e2 := (hs 2).trans h2
  have e3 := (hs 3).trans h3
  have e4 := (hs 4).trans h4
  rw [e1, e2, e3, e4] at ha
  clear hs hf e1 h1 e2 h2 e3 h3 e4 h4
  subst ha
  refine piece2 fun J0 K0 hJ0 hK0 => ?_
  conv => arg 2; whnf
  obtain ⟨x, hx⟩ : ∃ x, (k : Int) * 53 % 256 = x := ⟨_, rfl⟩
  have hx0 : 0 ≤ x ∧ x < 256 := by omega
  obtain ⟨g1, c1, w1, hrun, hown1, hk1, hx1'⟩ := run_append_one wr w0.heap.size 24 24 5 (.int .u8 0) 1 1 u8_info Try.underlying24 rfl (by omega) (own_of HK.out.own) [.int .u8 x] rfl (by simp [Value.oneCell']) HK.out.below.size (by omega) (by omega)
  have HRN := Lib.hid hrun
  have HK1 : Hid (Kn w0 w1 (some ⟨g1, 0, none⟩) (k + 1) c1 (bs0 ++ [x])) :=
    ⟨⟨by rw [List.length_append, HK.out.own.len]; rfl, by rw [bv_append]; exact hown1⟩, HK.out.byt.append (by intro y hy; simp at hy; omega), HK.out.below.trans (hk1.below HK.out.below.size (fun i hi => (HK.out.own.blk_ge i hi).1))⟩
  clear hrun hown1 hk1 hx1'
  go_wp2_with (at_builtin; refine Lib.wpList_append_run _ rfl _ _ _ _ rfl _ _ rfl rfl _ _ HRN.out ?_)
  refine Met.intro (hJ0 _ _ ?_)
  exact ⟨g1, c1, _, ⟨rfl, rfl⟩, rfl, rfl, rfl, rfl, HK1.out⟩

set_option maxRecDepth 100000 in
set_option maxHeartbeats 4000000 in
theorem t7 (w0 wr : World) (k g1 c1 : Nat) (bs : List Int) (hlt : k < 48) (a2 a3 : Option Addr) (HK : Hid (Kn w0 wr (some ⟨g1, 0, none⟩) (k + 1) c1 bs)) (a : Act) (hf : Fr 235 a) (h1 : sl a 1 = .slice (some ⟨g1, 0, none⟩) (k + 1) c1) (h2 : sl a 2 = .slice a2 4 4) (h3 : sl a 3 = .slice a3 16 16) (h4 : sl a 4 = .int .i64 (k : Int)) :
    Code.wp Try.prog (cAt [1,1,1,0,1,2,2,1,0,2,1,0] KC) (Exit.then (fun a' w' => ∃ (b6 : Nat), Fr 235 a' ∧ sl a' 1 = .slice (some ⟨g1, 0, none⟩) (k + 1) c1 ∧ sl a' 2 = .slice a2 4 4 ∧ sl a' 3 = .slice a3 16 16 ∧ sl a' 4 = .int .i64 (k : Int) ∧ sl a' 5 = .slice a2 4 4 ∧ sl a' 6 = .slice (some ⟨b6, 0, none⟩) 4 4 ∧ Kn w0 w' (some ⟨g1, 0, none⟩) (k + 1) c1 bs ∧ Row.ok w' ⟨some ⟨b6, 0, none⟩, 4, 4, [10, 0, 0, (k : Int)]⟩) Nope) a wr := by
  obtain ⟨f, ha, hs⟩ := fr235 hf
  have e1 := (hs 1).trans h1
  have e2 := (hs 2).trans h2
  have e3 := (hs 3).trans h3
  have e4 := (hs 4).trans h4
  rw [e1, e2, e3, e4] at ha
  clear hs hf e1 h1 e2 h2 e3 h3 e4 h4
  subst ha
  refine piece2 fun J0 K0 hJ0 hK0 => ?_
  conv => arg 2; whnf
  have hb : Below wr.heap.size wr (wr.alloc (.cells (bv [10, 0, 0, (k : Int)]).toArray 5)) := (Below.refl _ _).alloc (Nat.le_refl _) _
  have hl : Own (wr.alloc (.cells (bv [10, 0, 0, (k : Int)]).toArray 5)) 0 (some ⟨wr.heap.size, 0, none⟩) 4 4 [10, 0, 0, (k : Int)] := Own.lit _ _ _ 4 rfl (by decide) (Nat.zero_le _)
  have HR : Hid (Kn w0 (wr.alloc (.cells (bv [10, 0, 0, (k : Int)]).toArray 5)) (some ⟨g1, 0, none⟩) (k + 1) c1 bs ∧ Row.ok (wr.alloc (.cells (bv [10, 0, 0, (k : Int)]).toArray 5)) ⟨some ⟨wr.heap.size, 0, none⟩, 4, 4, [10, 0, 0, (k : Int)]⟩) := ⟨HK.out.next hb, hl.row (byt_four _ (by omega))⟩
  clear hb hl
  go_wp2_with fail
  refine Met.intro (hJ0 _ _ ?_)
  exact ⟨_, ⟨rfl, rfl⟩, rfl, rfl, rfl, rfl, rfl, rfl, HR.out⟩

set_option maxRecDepth 100000 in
set_option maxHeartbeats 4000000 in
theorem t8 (w0 : World) (a2 a3 : Option Addr) (x2 x3 : List Int) (HC : Hid (Row.ok w0 ⟨a2, 4, 4, x2⟩ ∧ Row.ok w0 ⟨a3, 16, 16, x3⟩)) (wr : World) (k g1 c1 b6 : Nat) (bs : List Int) (hlt : k < 48) (HK : Hid (Kn w0 wr (some ⟨g1, 0, none⟩) (k + 1) c1 bs)) (H6 : Hid (Row.ok wr ⟨some ⟨b6, 0, none⟩, 4, 4, [10, 0, 0, (k : Int)]⟩)) (a : Act) (hf : Fr 235 a) (h1 : sl a 1 = .slice (some ⟨g1, 0, none⟩) (k + 1) c1) (h2 : sl a 2 = .slice a2 4 4) (h3 : sl a 3 = .slice a3 16 16) (h4 : sl a 4 = .int .i64 (k : Int)) (h5 : sl a 5 = .slice a2 4 4) (h6 : sl a 6 = .slice (some ⟨b6, 0, none⟩) 4 4) :
    Code.wp Try.prog (cAt [1,1,1,0,1,2,2,1,0,2,1,1,0] KC) (Exit.then (fun a' w' => ∃ (r5 r6 : Row), Fr 235 a' ∧ sl a' 1 = .slice (some ⟨g1, 0, none⟩) (k + 1) c1 ∧ sl a' 2 = .slice a2 4 4 ∧ sl a' 3 = .slice a3 16 16 ∧ sl a' 4 = .int .i64 (k : Int) ∧ sl a' 5 = .slice r5.a r5.n r5.c ∧ sl a' 6 = .slice r6.a r6.n r6.c ∧ RW w0 g1 k c1 bs r5 r6 w') Nope) a wr := by
  obtain ⟨f, ha, hs⟩ := fr235 hf
  have e1 := (hs 1).trans h1
  have e2 := (hs 2).trans h2
  have e3 := (hs 3).trans h3
  have e4 := (hs 4).trans h4
  have e5 := (hs 5).trans h5
  have e6 := (hs 6).trans h6
  rw [e1, e2, e3, e4, e5, e6] at ha
  clear hs hf e1 h1 e2 h2 e3 h3 e4 h4 e5 h5 e6 h6
  subst ha
  refine piece2 fun J0 K0 hJ0 hK0 => ?_
  conv => arg 2; whnf
  by_cases q : k % 5 ≤ 2
  · have q' : ¬ (2 : Int) < (k : Int) % 5 := by omega
    go_wp2_with fail
    refine Met.intro (hJ0 _ _ ?_)
    exact ⟨⟨a2, 4, 4, x2⟩, ⟨some ⟨b6, 0, none⟩, 4, 4, _⟩, ⟨rfl, rfl⟩, rfl, rfl, rfl, rfl, rfl, rfl, HK.out, HC.out.1.below HK.out.below, H6.out, by show 4 ≤ 4 ∧ 4 ≤ 16; decide, by show 4 ≤ 4 ∧ 4 ≤ 16; decide⟩
  · have q' : (2 : Int) < (k : Int) % 5 := by omega
    obtain ⟨b3, o3, rfl, _⟩ := HC.out.2.rd (by intro e; have := HC.out.2.len; rw [e] at this; simp at this)
    have H3 : Hid (Row.ok wr ⟨some ⟨b3, o3, none⟩, 16, 16, x3⟩) := HC.out.2.below HK.out.below
    obtain ⟨g, cap, w', hrun, hcp⟩ := copy_new wr _ 16 16 x3 H3.out.len H3.out.rd (by decide) (by decide)
    have hrun' : (Builtin.append_ #[24, 24] 24 #[.slice (some ⟨g1, 0, none⟩) 0 0, .slice (some ⟨b3, o3, none⟩) 16 16]).run Try.prog wr = .ok (.slice (some ⟨g, 0, none⟩) 16 cap) w' := by rw [append_empty _ _ _ _ _ _ (by decide) (by decide)]; exact hrun
    have HRN := Lib.hid hrun'
    obtain ⟨d1, f1⟩ := hcp.at_ (j := 15) (by decide)
    have hc16 : 16 ≤ cap := hcp.own.le.1
    have hc1 := HK.out.own.le.2
    unfold maxLen at hc1
    have hcm := hcp.own.le.2
    unfold maxLen at hcm
    have HS := Lib.hid (hcp.set 15 (k : Int))
    have HR : Hid (RW w0 g1 k c1 bs ⟨some ⟨b3, o3, none⟩, 16, 16, x3⟩ ⟨some ⟨g, 0, none⟩, 16, cap, x3.set 15 (k : Int)⟩ (w'.setCell ⟨g, 15, none⟩ (.int .u8 (k : Int)))) :=
      ⟨HK.out.next HS.out.below, H3.out.below HS.out.below, HS.out.own.row (H3.out.byt.set 15 (by omega)), by show 4 ≤ 16 ∧ 16 ≤ 16; decide, by show 4 ≤ 16 ∧ 16 ≤ 16; decide⟩
    clear hrun hrun' hcp
    go_wp2_with (at_builtin; refine Lib.wpList_append_run _ rfl _ _ _ _ rfl _ _ rfl rfl _ _ HRN.out ?_)
    refine Met.intro (hJ0 _ _ ?_)
    exact ⟨⟨some ⟨b3, o3, none⟩, 16, 16, x3⟩, ⟨some ⟨g, 0, none⟩, 16, cap, x3.set 15 (k : Int)⟩, ⟨rfl, rfl⟩, rfl, rfl, rfl, rfl, rfl, rfl, HR.out⟩

set_option maxRecDepth 100000 in
set_option maxHeartbeats 8000000 in
theorem t12 (w0 w3 : World) (k g1 c1 : Nat) (bs : List Int) (r5 r6 : Row) (hlt : k < 48) (a2 a3 : Option Addr) (HW : Hid (RW w0 g1 k c1 bs r5 r6 w3)) (a : Act) (hf : Fr 235 a) (h1 : sl a 1 = .slice (some ⟨g1, 0, none⟩) (k + 1) c1) (h2 : sl a 2 = .slice a2 4 4) (h3 : sl a 3 = .slice a3 16 16) (h4 : sl a 4 = .int .i64 (k : Int)) (h5 : sl a 5 = .slice r5.a r5.n r5.c) (h6 : sl a 6 = .slice r6.a r6.n r6.c) :
    Code.wp Try.prog (cAt [1,1,1,0,1,2,2,1,0,2,1,1,1,0] KC) (Exit.then (fun a' w' => ∃ (b7 : Nat) (s : Sg), Fr 235 a' ∧ sl a' 1 = .slice (some ⟨g1, 0, none⟩) (k + 1) c1 ∧ sl a' 2 = .slice a2 4 4 ∧ sl a' 3 = .slice a3 16 16 ∧ sl a' 4 = .int .i64 (k : Int) ∧ sl a' 5 = .slice r5.a r5.n r5.c ∧ sl a' 6 = .slice r6.a r6.n r6.c ∧ sl a' 7 = .pointer (some ⟨b7, 0, none⟩) ∧ SX w3 b7 s w') Nope) a w3 := by
  obtain ⟨f, ha, hs⟩ := fr235 hf
  have e1 := (hs 1).trans h1
  have e2 := (hs 2).trans h2
  have e3 := (hs 3).trans h3
  have e4 := (hs 4).trans h4
  have e5 := (hs 5).trans h5
  have e6 := (hs 6).trans h6
  rw [e1, e2, e3, e4, e5, e6] at ha
  clear hs hf e1 h1 e2 h2 e3 h3 e4 h4 e5 h5 e6 h6
  subst ha
  refine piece2 fun J0 K0 hJ0 hK0 => ?_
  conv => arg 2; whnf
  have hle := HW.out.d.own.le
  unfold maxLen at hle
  obtain ⟨hle1, hle2⟩ := hle
  obtain ⟨r, hr⟩ := Int.eq_ofNat_of_zero_le (show 0 ≤ (k : Int) % 4 by omega)
  have hr4 : r < 4 := by omega
  obtain ⟨q48, hq⟩ := Int.eq_ofNat_of_zero_le (show 0 ≤ (k : Int) * 7 % 48 by omega)
  have hq48 : q48 < 48 := by omega
  obtain ⟨m, hm⟩ : ∃ m, q48 % (k + 1) = m := ⟨_, rfl⟩
  have hmk : m ≤ k := by have := Nat.mod_lt q48 (show 0 < k + 1 by omega); omega
  have hmi : (q48 : Int) % ((k : Int) + 1) = (m : Int) := by rw [← hm]; simp
  obtain ⟨p, hp⟩ : ∃ x, lit4.getD r 0 = x := ⟨_, rfl⟩
  have hp0 := lit4_get r hr4
  rw [hp] at hp0
  have HOK : Hid (Sg.ok w3 (sgA p (bs.take m) (some ⟨g1, 0, none⟩) m c1)) := sgA_ok hp0 ((HW.out.d.own.row HW.out.d.byt).cut m (by omega))
  have HLM : Hid (((sgA p (bs.take m) (some ⟨g1, 0, none⟩) m c1)).on ≤ 44 ∧ ((sgA p (bs.take m) (some ⟨g1, 0, none⟩) m c1)).dn ≤ 48) := ⟨by show 0 ≤ 44; decide, by show m ≤ 48; omega⟩
  have i1 : (k : Int).tmod 4 = (r : Int) := by rw [Int.tmod_eq_emod_of_nonneg (by omega)]; exact hr
  have i2 : ((k : Int) * 7).tmod 48 = (q48 : Int) := by rw [Int.tmod_eq_emod_of_nonneg (by omega)]; exact hq
  have i3 : (q48 : Int).tmod ((k : Int) + 1) = (m : Int) := by rw [Int.tmod_eq_emod_of_nonneg (by omega)]; exact hmi
  have i4 : IntKind.i64.wrap (r : Int) = (r : Int) := IntWalk.i64_in _ (by omega)
  have i5 : IntKind.i64.wrap (q48 : Int) = (q48 : Int) := IntWalk.i64_in _ (by omega)
  have i6 : IntKind.i64.wrap (m : Int) = (m : Int) := IntWalk.i64_in _ (by omega)
  have i7 : IntKind.i64.wrap ((k : Int) * 7) = (k : Int) * 7 := IntWalk.i64_in _ (by omega)
  have i8 : ((k : Int) + 1 == 0) = false := by simp; omega
  have i9 : ¬ (k : Int) + 1 = 0 := by omega
  have i10 : (m : Int) ≤ (c1 : Int) := by omega
  have i11 : (r : Int) < 4 := by omega
  clear hr hq hm hmi
  refine wp_region_held_drew (S := fun w' => True) (by kernel_rfl) trivial (fun hS => ?_)
  have hb0 : Below w3.heap.size w3 w3.drew := (Below.refl _ _).drew
  obtain ⟨x0, hx0⟩ : ∃ y, w3.drew = y := ⟨_, rfl⟩
  rw [hx0] at hb0 ⊢
  clear hx0
  refine tk 1 42 (.int .i64 (k : Int)) rfl rfl (by kernel_rfl) (by kernel_rfl) (by kernel_rfl) (fun _ _ _ h => h) (Or.inl ⟨by rfl, fun w' h' => ?_⟩) hS ?_
  · go_simp
  try simp only [Act.put, List.setIfInBounds_toArray, List.set_cons_zero, List.set_cons_succ]
  refine tk 2 43 (.int .i64 (r : Int)) rfl rfl (by kernel_rfl) (by kernel_rfl) (by kernel_rfl) (fun _ _ _ h => h) (Or.inl ⟨by rfl, fun w' h' => ?_⟩) hS ?_
  · go_simp
  try simp only [Act.put, List.setIfInBounds_toArray, List.set_cons_zero, List.set_cons_succ]
  refine tk 5 46 (.slice (some ⟨g1, 0, none⟩) (k + 1) c1) rfl rfl (by kernel_rfl) (by kernel_rfl) (by kernel_rfl) (fun _ _ _ h => h) (Or.inl ⟨by rfl, fun w' h' => ?_⟩) hS ?_
  · go_simp
  try simp only [Act.put, List.setIfInBounds_toArray, List.set_cons_zero, List.set_cons_succ]
  refine tk 6 47 (.int .i64 (k : Int)) rfl rfl (by kernel_rfl) (by kernel_rfl) (by kernel_rfl) (fun _ _ _ h => h) (Or.inl ⟨by rfl, fun w' h' => ?_⟩) hS ?_
  · go_simp
  try simp only [Act.put, List.setIfInBounds_toArray, List.set_cons_zero, List.set_cons_succ]
  refine tk 7 48 (.int .i64 ((k : Int) * 7)) rfl rfl (by kernel_rfl) (by kernel_rfl) (by kernel_rfl) (fun _ _ _ h => h) (Or.inl ⟨by rfl, fun w' h' => ?_⟩) hS ?_
  · go_simp
  try simp only [Act.put, List.setIfInBounds_toArray, List.set_cons_zero, List.set_cons_succ]
  refine tk 8 49 (.int .i64 (q48 : Int)) rfl rfl (by kernel_rfl) (by kernel_rfl) (by kernel_rfl) (fun _ _ _ h => h) (Or.inl ⟨by rfl, fun w' h' => ?_⟩) hS ?_
  · go_simp
  try simp only [Act.put, List.setIfInBounds_toArray, List.set_cons_zero, List.set_cons_succ]
  refine tk 9 50 (.slice (some ⟨g1, 0, none⟩) (k + 1) c1) rfl rfl (by kernel_rfl) (by kernel_rfl) (by kernel_rfl) (fun _ _ _ h => h) (Or.inl ⟨by rfl, fun w' h' => ?_⟩) hS ?_
  · go_simp
  try simp only [Act.put, List.setIfInBounds_toArray, List.set_cons_zero, List.set_cons_succ]
  refine tk 10 51 (.int .i64 ((k : Int) + 1)) rfl rfl (by kernel_rfl) (by kernel_rfl) (by kernel_rfl) (fun _ _ _ h => h) (Or.inl ⟨by rfl, fun w' h' => ?_⟩) hS ?_
  · go_simp
  try simp only [Act.put, List.setIfInBounds_toArray, List.set_cons_zero, List.set_cons_succ]
  refine tk 11 52 (.int .i64 (m : Int)) rfl rfl (by kernel_rfl) (by kernel_rfl) (by kernel_rfl) (fun _ _ _ h => h) (Or.inl ⟨by rfl, fun w' h' => ?_⟩) hS ?_
  · go_simp
  try simp only [Act.put, List.setIfInBounds_toArray, List.set_cons_zero, List.set_cons_succ]
  refine tk 12 53 (.slice (some ⟨g1, 0, none⟩) m c1) rfl rfl (by kernel_rfl) (by kernel_rfl) (by kernel_rfl) (fun _ _ _ h => h) (Or.inl ⟨by rfl, fun w' h' => ?_⟩) hS ?_
  · go_simp
  try simp only [Act.put, List.setIfInBounds_toArray, List.set_cons_zero, List.set_cons_succ]
  refine wpAnyH_ready (rs := [0, 14]) (by kernel_rfl) (by simp) (AllReadyH.cons rfl (fun K hK => ?_) (AllReadyH.cons rfl (fun K hK => ?_) AllReadyH.nil))
  · rw [if_pos (by rfl)]
    go_wp2_with fail
    obtain ⟨x1, hx1⟩ : ∃ y, x0.alloc (.cells (bv lit4).toArray 5) = y := ⟨_, rfl⟩
    have hc : x1.cell? ⟨x0.heap.size, r, none⟩ = some (.int .u8 p) := by
      have h1 := rd_at (Own.lit x0 0 lit4 4 rfl (by decide) (Nat.zero_le _)).rd (j := r) hr4
      rw [hx1, hp, Nat.zero_add] at h1
      exact h1
    have hbl : Below x0.heap.size x0 x1 := by rw [← hx1]; exact (Below.refl _ _).alloc (Nat.le_refl _) _
    change K _ (x0.alloc (.cells (bv lit4).toArray 5))
    rw [hx1]
    clear hx1 hS
    refine hK.out _ _ trivial (fun hS => ?_)
    clear hK K
    have hb1 := hb0.trans (hbl.mono hb0.size)
    try simp only [Act.put, List.setIfInBounds_toArray, List.set_cons_zero, List.set_cons_succ]
    refine tk 3 44 (.pointer (some ⟨x0.heap.size, r, none⟩)) rfl rfl (by kernel_rfl) (by kernel_rfl) (by kernel_rfl) (fun _ _ _ h => h) (Or.inl ⟨by rfl, fun w' h' => ?_⟩) hS ?_
    · go_simp
    try simp only [Act.put, List.setIfInBounds_toArray, List.set_cons_zero, List.set_cons_succ]
    refine wpAnyH_ready (rs := [4, 14]) (by kernel_rfl) (by simp) (AllReadyH.cons rfl (fun K hK => ?_) (AllReadyH.cons rfl (fun K hK => ?_) AllReadyH.nil))
    · rw [if_pos (by rfl)]
      go_wp2_with fail
      clear hS
      refine hK.out _ _ trivial (fun hS => ?_)
      clear hK K
      try simp only [Act.put, List.setIfInBounds_toArray, List.set_cons_zero, List.set_cons_succ]
      refine tk 13 54 (.agg (sgA p (bs.take m) (some ⟨g1, 0, none⟩) m c1).cs.toArray) rfl rfl (by kernel_rfl) (by kernel_rfl) (by kernel_rfl) (fun _ _ _ h => h) (yields_build (by rfl) _ _ rfl ?_) hS ?_
      · exact builtA p (bs.take m) _ _ _
      try simp only [Act.put, List.setIfInBounds_toArray, List.set_cons_zero, List.set_cons_succ]
      refine wpAnyH_ready (rs := [14]) (by kernel_rfl) (by simp) (AllReadyH.cons rfl (fun K hK => ?_) AllReadyH.nil)
      rw [if_pos (by rfl)]
      go_wp2_with fail
      obtain ⟨x2, hx2⟩ : ∃ y, x1.alloc (.cells sg0.cs.toArray 26) = y := ⟨_, rfl⟩
      have ht : x2.there x1.heap.size 0 12 := by rw [← hx2]; exact there_new _ _ _ _ rfl _ rfl
      have hbs : Below x1.heap.size x1 x2 := by rw [← hx2]; exact (Below.refl _ _).alloc (Nat.le_refl _) _
      change K _ (x1.alloc (.cells sg0.cs.toArray 26))
      rw [hx2]
      clear hx2 hS
      refine hK.out _ _ trivial (fun hS => ?_)
      clear hK K
      have hge := hb1.size
      have hbf := hb1.trans (hbs.mono hb1.size)
      try simp only [Act.put, List.setIfInBounds_toArray, List.set_cons_zero, List.set_cons_succ]
      refine wpAnyH_ready (rs := [15]) (by kernel_rfl) (by simp) (AllReadyH.cons rfl (fun K hK => ?_) AllReadyH.nil)
      rw [if_pos (by rfl)]
      refine wp_store_mid 26 _ _ rfl (x1.heap.size) 0 (sgA p (bs.take m) (some ⟨g1, 0, none⟩) m c1).cs.toArray rfl rfl (by rw [List.size_toArray]; exact ht) (by rw [List.size_toArray]; exact infS) (all_oneCell_toArray (Sg.one _)) ?_
      have HS := Lib.hid (SX.put hbf ht (hge) (sgA p (bs.take m) (some ⟨g1, 0, none⟩) m c1) HOK.out HLM.out)
      clear hS
      refine hK.out _ _ trivial (fun hS => ?_)
      clear hK K
      refine wpAnyH_done (by kernel_rfl) ?_ _
      go_wp2_with fail
      refine Met.intro (hJ0 _ _ ?_)
      exact ⟨_, _, ⟨rfl, rfl⟩, rfl, rfl, rfl, rfl, rfl, rfl, rfl, HS.out⟩
    · rw [if_pos (by rfl)]
      go_wp2_with fail
      obtain ⟨x2, hx2⟩ : ∃ y, x1.alloc (.cells sg0.cs.toArray 26) = y := ⟨_, rfl⟩
      have ht : x2.there x1.heap.size 0 12 := by rw [← hx2]; exact there_new _ _ _ _ rfl _ rfl
      have hbs : Below x1.heap.size x1 x2 := by rw [← hx2]; exact (Below.refl _ _).alloc (Nat.le_refl _) _
      change K _ (x1.alloc (.cells sg0.cs.toArray 26))
      rw [hx2]
      clear hx2 hS
      refine hK.out _ _ trivial (fun hS => ?_)
      clear hK K
      have hge := hb1.size
      have hbf := hb1.trans (hbs.mono hb1.size)
      have hc := cell_kept hbs hc
      try simp only [Act.put, List.setIfInBounds_toArray, List.set_cons_zero, List.set_cons_succ]
      refine wpAnyH_ready (rs := [4]) (by kernel_rfl) (by simp) (AllReadyH.cons rfl (fun K hK => ?_) AllReadyH.nil)
      rw [if_pos (by rfl)]
      go_wp2_with fail
      clear hS
      refine hK.out _ _ trivial (fun hS => ?_)
      clear hK K
      try simp only [Act.put, List.setIfInBounds_toArray, List.set_cons_zero, List.set_cons_succ]
      refine tk 13 54 (.agg (sgA p (bs.take m) (some ⟨g1, 0, none⟩) m c1).cs.toArray) rfl rfl (by kernel_rfl) (by kernel_rfl) (by kernel_rfl) (fun _ _ _ h => h) (yields_build (by rfl) _ _ rfl ?_) hS ?_
      · exact builtA p (bs.take m) _ _ _
      try simp only [Act.put, List.setIfInBounds_toArray, List.set_cons_zero, List.set_cons_succ]
      refine wpAnyH_ready (rs := [15]) (by kernel_rfl) (by simp) (AllReadyH.cons rfl (fun K hK => ?_) AllReadyH.nil)
      rw [if_pos (by rfl)]
      refine wp_store_mid 26 _ _ rfl (x1.heap.size) 0 (sgA p (bs.take m) (some ⟨g1, 0, none⟩) m c1).cs.toArray rfl rfl (by rw [List.size_toArray]; exact ht) (by rw [List.size_toArray]; exact infS) (all_oneCell_toArray (Sg.one _)) ?_
      have HS := Lib.hid (SX.put hbf ht (hge) (sgA p (bs.take m) (some ⟨g1, 0, none⟩) m c1) HOK.out HLM.out)
      clear hS
      refine hK.out _ _ trivial (fun hS => ?_)
      clear hK K
      refine wpAnyH_done (by kernel_rfl) ?_ _
      go_wp2_with fail
      refine Met.intro (hJ0 _ _ ?_)
      exact ⟨_, _, ⟨rfl, rfl⟩, rfl, rfl, rfl, rfl, rfl, rfl, rfl, HS.out⟩
  · rw [if_pos (by rfl)]
    go_wp2_with fail
    obtain ⟨x1, hx1⟩ : ∃ y, x0.alloc (.cells sg0.cs.toArray 26) = y := ⟨_, rfl⟩
    have ht : x1.there x0.heap.size 0 12 := by rw [← hx1]; exact there_new _ _ _ _ rfl _ rfl
    have hbs : Below x0.heap.size x0 x1 := by rw [← hx1]; exact (Below.refl _ _).alloc (Nat.le_refl _) _
    change K _ (x0.alloc (.cells sg0.cs.toArray 26))
    rw [hx1]
    clear hx1 hS
    refine hK.out _ _ trivial (fun hS => ?_)
    clear hK K
    try simp only [Act.put, List.setIfInBounds_toArray, List.set_cons_zero, List.set_cons_succ]
    refine wpAnyH_ready (rs := [0]) (by kernel_rfl) (by simp) (AllReadyH.cons rfl (fun K hK => ?_) AllReadyH.nil)
    rw [if_pos (by rfl)]
    go_wp2_with fail
    obtain ⟨x2, hx2⟩ : ∃ y, x1.alloc (.cells (bv lit4).toArray 5) = y := ⟨_, rfl⟩
    have hc : x2.cell? ⟨x1.heap.size, r, none⟩ = some (.int .u8 p) := by
      have h1 := rd_at (Own.lit x1 0 lit4 4 rfl (by decide) (Nat.zero_le _)).rd (j := r) hr4
      rw [hx2, hp, Nat.zero_add] at h1
      exact h1
    have hbl : Below x1.heap.size x1 x2 := by rw [← hx2]; exact (Below.refl _ _).alloc (Nat.le_refl _) _
    change K _ (x1.alloc (.cells (bv lit4).toArray 5))
    rw [hx2]
    clear hx2 hS
    refine hK.out _ _ trivial (fun hS => ?_)
    clear hK K
    have hb1 := hb0.trans (hbs.mono hb0.size)
    have hbf := hb1.trans (hbl.mono hb1.size)
    have ht := there_kept' hbl ht (by decide)
    try simp only [Act.put, List.setIfInBounds_toArray, List.set_cons_zero, List.set_cons_succ]
    refine tk 3 44 (.pointer (some ⟨x1.heap.size, r, none⟩)) rfl rfl (by kernel_rfl) (by kernel_rfl) (by kernel_rfl) (fun _ _ _ h => h) (Or.inl ⟨by rfl, fun w' h' => ?_⟩) hS ?_
    · go_simp
    try simp only [Act.put, List.setIfInBounds_toArray, List.set_cons_zero, List.set_cons_succ]
    refine wpAnyH_ready (rs := [4]) (by kernel_rfl) (by simp) (AllReadyH.cons rfl (fun K hK => ?_) AllReadyH.nil)
    rw [if_pos (by rfl)]
    go_wp2_with fail
    clear hS
    refine hK.out _ _ trivial (fun hS => ?_)
    clear hK K
    try simp only [Act.put, List.setIfInBounds_toArray, List.set_cons_zero, List.set_cons_succ]
    refine tk 13 54 (.agg (sgA p (bs.take m) (some ⟨g1, 0, none⟩) m c1).cs.toArray) rfl rfl (by kernel_rfl) (by kernel_rfl) (by kernel_rfl) (fun _ _ _ h => h) (yields_build (by rfl) _ _ rfl ?_) hS ?_
    · exact builtA p (bs.take m) _ _ _
    try simp only [Act.put, List.setIfInBounds_toArray, List.set_cons_zero, List.set_cons_succ]
    refine wpAnyH_ready (rs := [15]) (by kernel_rfl) (by simp) (AllReadyH.cons rfl (fun K hK => ?_) AllReadyH.nil)
    rw [if_pos (by rfl)]
    refine wp_store_mid 26 _ _ rfl (x0.heap.size) 0 (sgA p (bs.take m) (some ⟨g1, 0, none⟩) m c1).cs.toArray rfl rfl (by rw [List.size_toArray]; exact ht) (by rw [List.size_toArray]; exact infS) (all_oneCell_toArray (Sg.one _)) ?_
    have HS := Lib.hid (SX.put hbf ht (by have := hb0.size; have := hbf.size; omega) (sgA p (bs.take m) (some ⟨g1, 0, none⟩) m c1) HOK.out HLM.out)
    clear hS
    refine hK.out _ _ trivial (fun hS => ?_)
    clear hK K
    refine wpAnyH_done (by kernel_rfl) ?_ _
    go_wp2_with fail
    refine Met.intro (hJ0 _ _ ?_)
    exact ⟨_, _, ⟨rfl, rfl⟩, rfl, rfl, rfl, rfl, rfl, rfl, rfl, HS.out⟩

end Go.Proofs.Ytabdejoakecioaa

/-
  TransKnown in pieces: the three calls, Put, and the inner loop. Conditions: those that the theorems name.
-/
import Derived.Test.YtabdejoakecioaaTrKnB
namespace Go.Proofs.Ytabdejoakecioaa
open Go.ChangeShapes Go.WideShapes Go.ChangeAt Go.RowKit

/-- The bytes, the addresses and two segments. -/
structure FX (w0 : World) (g1 k c1 : Nat) (bs : List Int) (r5 r6 : Row) (b7 b8 : Nat) (s t : Sg) (w : World) : Prop where
  rw : RW w0 g1 k c1 bs r5 r6 w
  seg : w.rangeAt b7 0 s.cs
  ok : s.ok w
  lim : s.on ≤ 44 ∧ s.dn ≤ 48
  seg2 : w.rangeAt b8 0 t.cs
  ok2 : t.ok w
  lim2 : t.on ≤ 44 ∧ t.dn ≤ 48
theorem FX.next {w0 w w' : World} {g1 k c1 : Nat} {bs : List Int} {r5 r6 : Row} {b7 b8 : Nat} {s t : Sg} (h : FX w0 g1 k c1 bs r5 r6 b7 b8 s t w) (hb : Below w.heap.size w w') : FX w0 g1 k c1 bs r5 r6 b7 b8 s t w' :=
  ⟨h.rw.next hb, range_kept hb h.seg, h.ok.below hb, h.lim, range_kept hb h.seg2, h.ok2.below hb, h.lim2⟩
/-- The bytes, the addresses, a segment and what Put made of it. -/
structure GX (w0 : World) (g1 k c1 : Nat) (bs : List Int) (r5 r6 : Row) (b7 : Nat) (s : Sg) (rb : Row) (w : World) : Prop where
  rw : RW w0 g1 k c1 bs r5 r6 w
  seg : w.rangeAt b7 0 s.cs
  ok : s.ok w
  ob : rb.ok w
  ln : rb.n ≤ 400
theorem GX.next {w0 w w' : World} {g1 k c1 : Nat} {bs : List Int} {r5 r6 : Row} {b7 : Nat} {s : Sg} {q : Row} (h : GX w0 g1 k c1 bs r5 r6 b7 s q w) (hb : Below w.heap.size w w') : GX w0 g1 k c1 bs r5 r6 b7 s q w' :=
  ⟨h.rw.next hb, range_kept hb h.seg, h.ok.below hb, h.ob.below hb, h.ln⟩
theorem ptB_le (s : Pl) (src dst : List Int) (h1 : s.op.length ≤ 44) (h2 : s.dt.length ≤ 48) : (ptB s src dst).length ≤ 400 := by
  unfold ptB
  split
  · rename_i h
    have h0 := (ptE_zero.1 h).1
    rw [sbS_len _ _ h0]
    have h20 : hdN s.pro ≤ 20 := by unfold hdN; (repeat' split) <;> omega
    omega
  · simp
/-- The copy that is turned. -/
structure YX (wj : World) (a12 : Option Addr) (n12 c12 : Nat) (x12 : List Int) (n : Nat) (w : World) : Prop where
  below : Below wj.heap.size wj w
  own : Own w wj.heap.size a12 n12 c12 x12
  byt : Byt x12
  eq : n12 = n

set_option maxRecDepth 100000 in
set_option maxHeartbeats 8000000 in
theorem t33 (w0 wx : World) (k g1 c1 : Nat) (bs : List Int) (r5 r6 : Row) (hlt : k < 48) (a2 a3 : Option Addr) (b7 b8 : Nat) (s t : Sg) (HX : Hid (FX w0 g1 k c1 bs r5 r6 b7 b8 s t wx)) (a : Act) (hf : Fr 235 a) (h1 : sl a 1 = .slice (some ⟨g1, 0, none⟩) (k + 1) c1) (h2 : sl a 2 = .slice a2 4 4) (h3 : sl a 3 = .slice a3 16 16) (h4 : sl a 4 = .int .i64 (k : Int)) (h5 : sl a 5 = .slice r5.a r5.n r5.c) (h6 : sl a 6 = .slice r6.a r6.n r6.c) (h7 : sl a 7 = .pointer (some ⟨b7, 0, none⟩)) (h8 : sl a 8 = .pointer (some ⟨b8, 0, none⟩)) :
    Code.wp Try.prog (cAt [1,1,1,0,1,2,2,1,0,2,1,1,1,1,1,1,1,0,0] KC) (Exit.then (fun a' w' => Fr 235 a' ∧ sl a' 1 = .slice (some ⟨g1, 0, none⟩) (k + 1) c1 ∧ sl a' 2 = .slice a2 4 4 ∧ sl a' 3 = .slice a3 16 16 ∧ sl a' 4 = .int .i64 (k : Int) ∧ sl a' 5 = .slice r5.a r5.n r5.c ∧ sl a' 6 = .slice r6.a r6.n r6.c ∧ sl a' 7 = .pointer (some ⟨b7, 0, none⟩) ∧ sl a' 8 = .pointer (some ⟨b8, 0, none⟩) ∧ sl a' 152 = .bool false ∧ FX w0 g1 k c1 bs r5 r6 b7 b8 s t w') Nope) a wx := by
  obtain ⟨f, ha, hs⟩ := fr235 hf
  have e1 := (hs 1).trans h1
  have e2 := (hs 2).trans h2
  have e3 := (hs 3).trans h3
  have e4 := (hs 4).trans h4
  have e5 := (hs 5).trans h5
  have e6 := (hs 6).trans h6
  have e7 := (hs 7).trans h7
  have e8 := (hs 8).trans h8
  rw [e1, e2, e3, e4, e5, e6, e7, e8] at ha
  clear hs hf e1 h1 e2 h2 e3 h3 e4 h4 e5 h5 e6 h6 e7 h7 e8 h8
  subst ha
  refine piece2 fun J0 K0 hJ0 hK0 => ?_
  conv => arg 2; whnf
  obtain ⟨d2, hd2⟩ := Int.eq_ofNat_of_zero_le (show 0 ≤ (k : Int) % 2 by omega)
  have hd : d2 < 2 := by omega
  have hl6 := HX.out.rw.l6
  have hc6 := HX.out.rw.o6.cap
  have hcm := HX.out.rw.o6.max
  unfold maxLen at hcm
  obtain ⟨e6, he⟩ : ∃ e, r6.n - d2 = e := ⟨_, rfl⟩
  have he6 : e6 ≤ r6.n := by omega
  have i1 : (k : Int).tmod 2 = (d2 : Int) := by rw [Int.tmod_eq_emod_of_nonneg (by omega)]; exact hd2
  have i2 : IntKind.i64.wrap (d2 : Int) = (d2 : Int) := IntWalk.i64_in _ (by omega)
  have i3 : (r6.n : Int) - (d2 : Int) = (e6 : Int) := by omega
  have i4 : IntKind.i64.wrap (e6 : Int) = (e6 : Int) := IntWalk.i64_in _ (by omega)
  have i5 : IntKind.i64.wrap ((k : Int) * 3) = (k : Int) * 3 := IntWalk.i64_in _ (by omega)
  have i6 : IntKind.u8.wrap ((k : Int) * 3) = (k : Int) * 3 := by rw [IntKind.wrap_u8]; omega
  have i7 : IntKind.i64.wrap (1 + (k : Int)) = 1 + (k : Int) := IntWalk.i64_in _ (by omega)
  have i8 : IntKind.u8.wrap (1 + (k : Int)) = 1 + (k : Int) := by rw [IntKind.wrap_u8]; omega
  have i9 : (e6 : Int) ≤ (r6.c : Int) := by omega
  clear hd2 he
  have hs0 : World.rangeAt wx b7 0 s.cs ∧ World.rangeAt wx b8 0 t.cs := ⟨HX.out.seg, HX.out.seg2⟩
  refine wp_region_held_drew (S := fun w' => World.rangeAt w' b7 0 s.cs ∧ World.rangeAt w' b8 0 t.cs) (by kernel_rfl) hs0 (fun hS => ?_)
  have HX0 := Lib.hid (HX.out.next (Below.refl _ _).drew)
  refine tk 0 118 (.agg (s.cs).toArray) rfl rfl (by kernel_rfl) (by kernel_rfl) (by kernel_rfl) (fun _ _ _ h => h) (yieldsIf_load_mid (by rfl) _ _ rfl (b7) (0) rfl (s.cs) _ (fun w' h' => h'.1) Try.underlying26 rfl (infS)) hS ?_
  try simp only [Act.put, List.setIfInBounds_toArray, List.set_cons_zero, List.set_cons_succ]
  refine tk 1 119 (.agg (t.cs).toArray) rfl rfl (by kernel_rfl) (by kernel_rfl) (by kernel_rfl) (fun _ _ _ h => h) (yieldsIf_load_mid (by rfl) _ _ rfl (b8) (0) rfl (t.cs) _ (fun w' h' => h'.2) Try.underlying26 rfl (infS)) hS ?_
  try simp only [Act.put, List.setIfInBounds_toArray, List.set_cons_zero, List.set_cons_succ]
  refine tk 2 120 (.slice r5.a r5.n r5.c) rfl rfl (by kernel_rfl) (by kernel_rfl) (by kernel_rfl) (fun _ _ _ h => h) (Or.inl ⟨by rfl, fun w' h' => ?_⟩) hS ?_
  · go_simp
  try simp only [Act.put, List.setIfInBounds_toArray, List.set_cons_zero, List.set_cons_succ]
  refine tk 3 121 (.slice r6.a r6.n r6.c) rfl rfl (by kernel_rfl) (by kernel_rfl) (by kernel_rfl) (fun _ _ _ h => h) (Or.inl ⟨by rfl, fun w' h' => ?_⟩) hS ?_
  · go_simp
  try simp only [Act.put, List.setIfInBounds_toArray, List.set_cons_zero, List.set_cons_succ]
  refine tk 4 122 (.int .i64 (k : Int)) rfl rfl (by kernel_rfl) (by kernel_rfl) (by kernel_rfl) (fun _ _ _ h => h) (Or.inl ⟨by rfl, fun w' h' => ?_⟩) hS ?_
  · go_simp
  try simp only [Act.put, List.setIfInBounds_toArray, List.set_cons_zero, List.set_cons_succ]
  refine tk 5 123 (.int .i64 ((k : Int) * 3)) rfl rfl (by kernel_rfl) (by kernel_rfl) (by kernel_rfl) (fun _ _ _ h => h) (Or.inl ⟨by rfl, fun w' h' => ?_⟩) hS ?_
  · go_simp
  try simp only [Act.put, List.setIfInBounds_toArray, List.set_cons_zero, List.set_cons_succ]
  refine tk 6 124 (.int .u8 ((k : Int) * 3)) rfl rfl (by kernel_rfl) (by kernel_rfl) (by kernel_rfl) (fun _ _ _ h => h) (Or.inl ⟨by rfl, fun w' h' => ?_⟩) hS ?_
  · go_simp
  try simp only [Act.put, List.setIfInBounds_toArray, List.set_cons_zero, List.set_cons_succ]
  refine wpAnyH_ready (rs := [7]) (by kernel_rfl) (by simp) (AllReadyH.cons rfl (fun K hK => ?_) AllReadyH.nil)
  rw [if_pos (by rfl)]
  go_wp2_with fail
  refine (puts7_any s t r5.a r5.n r5.c r5.xs r6.a r6.n r6.c r6.xs ((k : Int) * 3) _ HX0.out.ok HX0.out.ok2 HX0.out.rw.o5 HX0.out.rw.o6 (by omega) (by omega) (by have := HX0.out.lim; omega)).mono ?_
  rintro e wb0 ⟨rfl, hb⟩
  have HX1 := Lib.hid (HX0.out.next hb)
  have hs1 : World.rangeAt wb0 b7 0 s.cs ∧ World.rangeAt wb0 b8 0 t.cs := ⟨HX1.out.seg, HX1.out.seg2⟩
  clear hb
  clear hS
  refine hK.out _ _ (hs1) (fun hS => ?_)
  clear hK K
  try simp only [Act.put, List.setIfInBounds_toArray, List.set_cons_zero, List.set_cons_succ]
  refine tk 8 126 (.bool false) rfl rfl (by kernel_rfl) (by kernel_rfl) (by kernel_rfl) (fun _ _ _ h => h) (Or.inl ⟨by rfl, fun w' h' => ?_⟩) hS ?_
  · go_simp
  try simp only [Act.put, List.setIfInBounds_toArray, List.set_cons_zero, List.set_cons_succ]
  refine tk 9 127 (.bool false) rfl rfl (by kernel_rfl) (by kernel_rfl) (by kernel_rfl) (fun _ _ _ h => h) (Or.inl ⟨by rfl, fun w' h' => ?_⟩) hS ?_
  · go_simp
  try simp only [Act.put, List.setIfInBounds_toArray, List.set_cons_zero, List.set_cons_succ]
  refine tk 10 128 (.agg (t.cs).toArray) rfl rfl (by kernel_rfl) (by kernel_rfl) (by kernel_rfl) (fun _ _ _ h => h) (yieldsIf_load_mid (by rfl) _ _ rfl (b8) (0) rfl (t.cs) _ (fun w' h' => h'.2) Try.underlying26 rfl (infS)) hS ?_
  try simp only [Act.put, List.setIfInBounds_toArray, List.set_cons_zero, List.set_cons_succ]
  refine tk 11 129 (.agg (s.cs).toArray) rfl rfl (by kernel_rfl) (by kernel_rfl) (by kernel_rfl) (fun _ _ _ h => h) (yieldsIf_load_mid (by rfl) _ _ rfl (b7) (0) rfl (s.cs) _ (fun w' h' => h'.1) Try.underlying26 rfl (infS)) hS ?_
  try simp only [Act.put, List.setIfInBounds_toArray, List.set_cons_zero, List.set_cons_succ]
  refine tk 12 130 (.slice r5.a r5.n r5.c) rfl rfl (by kernel_rfl) (by kernel_rfl) (by kernel_rfl) (fun _ _ _ h => h) (Or.inl ⟨by rfl, fun w' h' => ?_⟩) hS ?_
  · go_simp
  try simp only [Act.put, List.setIfInBounds_toArray, List.set_cons_zero, List.set_cons_succ]
  refine tk 13 131 (.slice r6.a r6.n r6.c) rfl rfl (by kernel_rfl) (by kernel_rfl) (by kernel_rfl) (fun _ _ _ h => h) (Or.inl ⟨by rfl, fun w' h' => ?_⟩) hS ?_
  · go_simp
  try simp only [Act.put, List.setIfInBounds_toArray, List.set_cons_zero, List.set_cons_succ]
  refine tk 14 132 (.slice r6.a r6.n r6.c) rfl rfl (by kernel_rfl) (by kernel_rfl) (by kernel_rfl) (fun _ _ _ h => h) (Or.inl ⟨by rfl, fun w' h' => ?_⟩) hS ?_
  · go_simp
  try simp only [Act.put, List.setIfInBounds_toArray, List.set_cons_zero, List.set_cons_succ]
  refine tk 15 133 (.int .i64 (r6.n : Int)) rfl rfl (by kernel_rfl) (by kernel_rfl) (by kernel_rfl) (fun _ _ _ h => h) (Or.inl ⟨by rfl, fun w' h' => ?_⟩) hS ?_
  · go_simp
  try simp only [Act.put, List.setIfInBounds_toArray, List.set_cons_zero, List.set_cons_succ]
  refine tk 16 134 (.int .i64 (k : Int)) rfl rfl (by kernel_rfl) (by kernel_rfl) (by kernel_rfl) (fun _ _ _ h => h) (Or.inl ⟨by rfl, fun w' h' => ?_⟩) hS ?_
  · go_simp
  try simp only [Act.put, List.setIfInBounds_toArray, List.set_cons_zero, List.set_cons_succ]
  refine tk 17 135 (.int .i64 (d2 : Int)) rfl rfl (by kernel_rfl) (by kernel_rfl) (by kernel_rfl) (fun _ _ _ h => h) (Or.inl ⟨by rfl, fun w' h' => ?_⟩) hS ?_
  · go_simp
  try simp only [Act.put, List.setIfInBounds_toArray, List.set_cons_zero, List.set_cons_succ]
  refine tk 18 136 (.int .i64 (e6 : Int)) rfl rfl (by kernel_rfl) (by kernel_rfl) (by kernel_rfl) (fun _ _ _ h => h) (Or.inl ⟨by rfl, fun w' h' => ?_⟩) hS ?_
  · go_simp
  try simp only [Act.put, List.setIfInBounds_toArray, List.set_cons_zero, List.set_cons_succ]
  refine tk 19 137 (.slice r6.a e6 r6.c) rfl rfl (by kernel_rfl) (by kernel_rfl) (by kernel_rfl) (fun _ _ _ h => h) (Or.inl ⟨by rfl, fun w' h' => ?_⟩) hS ?_
  · go_simp
  try simp only [Act.put, List.setIfInBounds_toArray, List.set_cons_zero, List.set_cons_succ]
  refine wpAnyH_ready (rs := [20]) (by kernel_rfl) (by simp) (AllReadyH.cons rfl (fun K hK => ?_) AllReadyH.nil)
  rw [if_pos (by rfl)]
  go_wp2_with fail
  refine (puts7_any t s r5.a r5.n r5.c r5.xs r6.a e6 r6.c (r6.xs.take e6) 255 _ HX1.out.ok2 HX1.out.ok HX1.out.rw.o5 (Row.ok.cut (a := r6.a) (n := r6.n) (c := r6.c) (xs := r6.xs) HX1.out.rw.o6 e6 he6) (by decide) (by decide) (by have := HX1.out.lim2; omega)).mono ?_
  rintro e wb1 ⟨rfl, hb⟩
  have HX2 := Lib.hid (HX1.out.next hb)
  have hs2 : World.rangeAt wb1 b7 0 s.cs ∧ World.rangeAt wb1 b8 0 t.cs := ⟨HX2.out.seg, HX2.out.seg2⟩
  clear hb
  clear hS
  refine hK.out _ _ (hs2) (fun hS => ?_)
  clear hK K
  try simp only [Act.put, List.setIfInBounds_toArray, List.set_cons_zero, List.set_cons_succ]
  refine tk 21 139 (.bool false) rfl rfl (by kernel_rfl) (by kernel_rfl) (by kernel_rfl) (fun _ _ _ h => h) (Or.inl ⟨by rfl, fun w' h' => ?_⟩) hS ?_
  · go_simp
  try simp only [Act.put, List.setIfInBounds_toArray, List.set_cons_zero, List.set_cons_succ]
  refine tk 22 140 (.bool false) rfl rfl (by kernel_rfl) (by kernel_rfl) (by kernel_rfl) (fun _ _ _ h => h) (Or.inl ⟨by rfl, fun w' h' => ?_⟩) hS ?_
  · go_simp
  try simp only [Act.put, List.setIfInBounds_toArray, List.set_cons_zero, List.set_cons_succ]
  refine tk 23 141 (.bool false) rfl rfl (by kernel_rfl) (by kernel_rfl) (by kernel_rfl) (fun _ _ _ h => h) (Or.inl ⟨by rfl, fun w' h' => ?_⟩) hS ?_
  · go_simp
  try simp only [Act.put, List.setIfInBounds_toArray, List.set_cons_zero, List.set_cons_succ]
  refine tk 24 142 (.agg (s.cs).toArray) rfl rfl (by kernel_rfl) (by kernel_rfl) (by kernel_rfl) (fun _ _ _ h => h) (yieldsIf_load_mid (by rfl) _ _ rfl (b7) (0) rfl (s.cs) _ (fun w' h' => h'.1) Try.underlying26 rfl (infS)) hS ?_
  try simp only [Act.put, List.setIfInBounds_toArray, List.set_cons_zero, List.set_cons_succ]
  refine tk 25 143 (.slice r5.a r5.n r5.c) rfl rfl (by kernel_rfl) (by kernel_rfl) (by kernel_rfl) (fun _ _ _ h => h) (Or.inl ⟨by rfl, fun w' h' => ?_⟩) hS ?_
  · go_simp
  try simp only [Act.put, List.setIfInBounds_toArray, List.set_cons_zero, List.set_cons_succ]
  refine tk 26 144 (.slice r6.a r6.n r6.c) rfl rfl (by kernel_rfl) (by kernel_rfl) (by kernel_rfl) (fun _ _ _ h => h) (Or.inl ⟨by rfl, fun w' h' => ?_⟩) hS ?_
  · go_simp
  try simp only [Act.put, List.setIfInBounds_toArray, List.set_cons_zero, List.set_cons_succ]
  refine tk 27 145 (.int .i64 (k : Int)) rfl rfl (by kernel_rfl) (by kernel_rfl) (by kernel_rfl) (fun _ _ _ h => h) (Or.inl ⟨by rfl, fun w' h' => ?_⟩) hS ?_
  · go_simp
  try simp only [Act.put, List.setIfInBounds_toArray, List.set_cons_zero, List.set_cons_succ]
  refine tk 28 146 (.int .i64 ((k : Int) * 3)) rfl rfl (by kernel_rfl) (by kernel_rfl) (by kernel_rfl) (fun _ _ _ h => h) (Or.inl ⟨by rfl, fun w' h' => ?_⟩) hS ?_
  · go_simp
  try simp only [Act.put, List.setIfInBounds_toArray, List.set_cons_zero, List.set_cons_succ]
  refine tk 29 147 (.int .i64 (k : Int)) rfl rfl (by kernel_rfl) (by kernel_rfl) (by kernel_rfl) (fun _ _ _ h => h) (Or.inl ⟨by rfl, fun w' h' => ?_⟩) hS ?_
  · go_simp
  try simp only [Act.put, List.setIfInBounds_toArray, List.set_cons_zero, List.set_cons_succ]
  refine tk 30 148 (.int .i64 (1 + (k : Int))) rfl rfl (by kernel_rfl) (by kernel_rfl) (by kernel_rfl) (fun _ _ _ h => h) (Or.inl ⟨by rfl, fun w' h' => ?_⟩) hS ?_
  · go_simp
  try simp only [Act.put, List.setIfInBounds_toArray, List.set_cons_zero, List.set_cons_succ]
  refine tk 31 149 (.int .u8 (1 + (k : Int))) rfl rfl (by kernel_rfl) (by kernel_rfl) (by kernel_rfl) (fun _ _ _ h => h) (Or.inl ⟨by rfl, fun w' h' => ?_⟩) hS ?_
  · go_simp
  try simp only [Act.put, List.setIfInBounds_toArray, List.set_cons_zero, List.set_cons_succ]
  refine wpAnyH_ready (rs := [32]) (by kernel_rfl) (by simp) (AllReadyH.cons rfl (fun K hK => ?_) AllReadyH.nil)
  rw [if_pos (by rfl)]
  go_wp2_with fail
  refine (back7_any s r5.a r5.n r5.c r5.xs r6.a r6.n r6.c r6.xs ((k : Int) * 3) (1 + (k : Int)) _ HX2.out.ok HX2.out.rw.o5 HX2.out.rw.o6 (by omega) (by omega)).mono ?_
  rintro e wb2 ⟨rfl, hb⟩
  have HX3 := Lib.hid (HX2.out.next hb)
  have hs3 : World.rangeAt wb2 b7 0 s.cs ∧ World.rangeAt wb2 b8 0 t.cs := ⟨HX3.out.seg, HX3.out.seg2⟩
  clear hb
  clear hS
  refine hK.out _ _ (hs3) (fun hS => ?_)
  clear hK K
  try simp only [Act.put, List.setIfInBounds_toArray, List.set_cons_zero, List.set_cons_succ]
  refine tk 33 151 (.bool false) rfl rfl (by kernel_rfl) (by kernel_rfl) (by kernel_rfl) (fun _ _ _ h => h) (Or.inl ⟨by rfl, fun w' h' => ?_⟩) hS ?_
  · go_simp
  try simp only [Act.put, List.setIfInBounds_toArray, List.set_cons_zero, List.set_cons_succ]
  refine tk 34 152 (.bool false) rfl rfl (by kernel_rfl) (by kernel_rfl) (by kernel_rfl) (fun _ _ _ h => h) (Or.inl ⟨by rfl, fun w' h' => ?_⟩) hS ?_
  · go_simp
  refine wpAnyH_done (by kernel_rfl) ?_ _
  go_wp2_with fail
  refine Met.intro (hJ0 _ _ ?_)
  exact ⟨⟨rfl, rfl⟩, rfl, rfl, rfl, rfl, rfl, rfl, rfl, rfl, rfl, HX3.out⟩

set_option maxRecDepth 100000 in
set_option maxHeartbeats 4000000 in
theorem t34 (wx : World) (k g1 c1 b7 b8 : Nat) (r5 r6 : Row) (a2 a3 : Option Addr) (a : Act) (hf : Fr 235 a) (h1 : sl a 1 = .slice (some ⟨g1, 0, none⟩) (k + 1) c1) (h2 : sl a 2 = .slice a2 4 4) (h3 : sl a 3 = .slice a3 16 16) (h4 : sl a 4 = .int .i64 (k : Int)) (h5 : sl a 5 = .slice r5.a r5.n r5.c) (h6 : sl a 6 = .slice r6.a r6.n r6.c) (h7 : sl a 7 = .pointer (some ⟨b7, 0, none⟩)) (h8 : sl a 8 = .pointer (some ⟨b8, 0, none⟩)) (h152 : sl a 152 = .bool false) :
    Code.wp Try.prog (cAt [1,1,1,0,1,2,2,1,0,2,1,1,1,1,1,1,1,0,1] KC) (Exit.then (fun a' w' => Fr 235 a' ∧ sl a' 1 = .slice (some ⟨g1, 0, none⟩) (k + 1) c1 ∧ sl a' 2 = .slice a2 4 4 ∧ sl a' 3 = .slice a3 16 16 ∧ sl a' 4 = .int .i64 (k : Int) ∧ sl a' 5 = .slice r5.a r5.n r5.c ∧ sl a' 6 = .slice r6.a r6.n r6.c ∧ sl a' 7 = .pointer (some ⟨b7, 0, none⟩) ∧ sl a' 8 = .pointer (some ⟨b8, 0, none⟩) ∧ wx = w') Nope) a wx := by
  obtain ⟨f, ha, hs⟩ := fr235 hf
  have e1 := (hs 1).trans h1
  have e2 := (hs 2).trans h2
  have e3 := (hs 3).trans h3
  have e4 := (hs 4).trans h4
  have e5 := (hs 5).trans h5
  have e6 := (hs 6).trans h6
  have e7 := (hs 7).trans h7
  have e8 := (hs 8).trans h8
  have e152 := (hs 152).trans h152
  rw [e1, e2, e3, e4, e5, e6, e7, e8, e152] at ha
  clear hs hf e1 h1 e2 h2 e3 h3 e4 h4 e5 h5 e6 h6 e7 h7 e8 h8 e152 h152
  subst ha
  refine piece2 fun J0 K0 hJ0 hK0 => ?_
  conv => arg 2; whnf
  go_wp2_with fail
  refine Met.intro (hJ0 _ _ ?_)
  exact ⟨⟨rfl, rfl⟩, rfl, rfl, rfl, rfl, rfl, rfl, rfl, rfl, rfl⟩

set_option maxRecDepth 100000 in
set_option maxHeartbeats 4000000 in
theorem t35 (w0 wx : World) (k g1 c1 : Nat) (bs : List Int) (r5 r6 : Row) (a2 a3 : Option Addr) (b7 b8 : Nat) (s t : Sg) (HX : Hid (FX w0 g1 k c1 bs r5 r6 b7 b8 s t wx)) (a : Act) (hf : Fr 235 a) (h1 : sl a 1 = .slice (some ⟨g1, 0, none⟩) (k + 1) c1) (h2 : sl a 2 = .slice a2 4 4) (h3 : sl a 3 = .slice a3 16 16) (h4 : sl a 4 = .int .i64 (k : Int)) (h5 : sl a 5 = .slice r5.a r5.n r5.c) (h6 : sl a 6 = .slice r6.a r6.n r6.c) (h7 : sl a 7 = .pointer (some ⟨b7, 0, none⟩)) (h8 : sl a 8 = .pointer (some ⟨b8, 0, none⟩)) :
    Code.wp Try.prog (cAt [1,1,1,0,1,2,2,1,0,2,1,1,1,1,1,1,1,1,0] KC) (Exit.then (fun a' w' => ∃ (rb : Row), Fr 235 a' ∧ sl a' 1 = .slice (some ⟨g1, 0, none⟩) (k + 1) c1 ∧ sl a' 2 = .slice a2 4 4 ∧ sl a' 3 = .slice a3 16 16 ∧ sl a' 4 = .int .i64 (k : Int) ∧ sl a' 5 = .slice r5.a r5.n r5.c ∧ sl a' 6 = .slice r6.a r6.n r6.c ∧ sl a' 7 = .pointer (some ⟨b7, 0, none⟩) ∧ sl a' 9 = .slice rb.a rb.n rb.c ∧ GX w0 g1 k c1 bs r5 r6 b7 s rb w') Nope) a wx := by
  obtain ⟨f, ha, hs⟩ := fr235 hf
  have e1 := (hs 1).trans h1
  have e2 := (hs 2).trans h2
  have e3 := (hs 3).trans h3
  have e4 := (hs 4).trans h4
  have e5 := (hs 5).trans h5
  have e6 := (hs 6).trans h6
  have e7 := (hs 7).trans h7
  have e8 := (hs 8).trans h8
  rw [e1, e2, e3, e4, e5, e6, e7, e8] at ha
  clear hs hf e1 h1 e2 h2 e3 h3 e4 h4 e5 h5 e6 h6 e7 h7 e8 h8
  subst ha
  refine piece2 fun J0 K0 hJ0 hK0 => ?_
  conv => arg 2; whnf
  obtain ⟨cs, hcs⟩ : ∃ x, s.cs.toArray = x := ⟨_, rfl⟩
  have HCS := Lib.hid hcs
  clear hcs
  go_wp2_with (refine ldSg (.tmp 7) rfl (by rfl) b7 rfl s HX.out.seg ?_; rw [HCS.out])
  rw [← HCS.out]
  refine (tPut_any s r5.a r6.a r5.n r5.c r6.n r6.c r5.xs r6.xs _ HX.out.ok HX.out.rw.o5 HX.out.rw.o6 (by have := HX.out.lim; omega) (.inl (by have := HX.out.lim; omega))).mono ?_
  rintro e w2 ⟨a9, n9, c9, rfl, hown, hb⟩
  have HR : Hid (GX w0 g1 k c1 bs r5 r6 b7 s ⟨a9, n9, c9, ptB s.p r5.xs r6.xs⟩ w2) :=
    ⟨HX.out.rw.next hb, range_kept hb HX.out.seg, HX.out.ok.below hb, hown.row (ptB_byt _ _ _ HX.out.ok.fit.op HX.out.ok.fit.dt), by
      show n9 ≤ 400
      rw [← hown.len]
      exact ptB_le _ _ _ (by rw [HX.out.ok.opt.len]; exact HX.out.lim.1) (by rw [HX.out.ok.dat.len]; exact HX.out.lim.2)⟩
  obtain ⟨E, hE⟩ : ∃ x, ptE s.p r5.n r6.n = x := ⟨_, rfl⟩
  rw [hE]
  clear hown hb hE
  go_wp2_with fail
  refine Met.intro (hJ0 _ _ ?_)
  exact ⟨⟨a9, n9, c9, ptB s.p r5.xs r6.xs⟩, ⟨rfl, rfl⟩, rfl, rfl, rfl, rfl, rfl, rfl, rfl, rfl, HR.out⟩

set_option maxRecDepth 100000 in
set_option maxHeartbeats 4000000 in
theorem t36 (wx : World) (k g1 c1 b7 : Nat) (r5 r6 rb : Row) (a2 a3 : Option Addr) (a : Act) (hf : Fr 235 a) (h1 : sl a 1 = .slice (some ⟨g1, 0, none⟩) (k + 1) c1) (h2 : sl a 2 = .slice a2 4 4) (h3 : sl a 3 = .slice a3 16 16) (h4 : sl a 4 = .int .i64 (k : Int)) (h5 : sl a 5 = .slice r5.a r5.n r5.c) (h6 : sl a 6 = .slice r6.a r6.n r6.c) (h7 : sl a 7 = .pointer (some ⟨b7, 0, none⟩)) (h9 : sl a 9 = .slice rb.a rb.n rb.c) :
    Code.wp Try.prog (cAt [1,1,1,0,1,2,2,1,0,2,1,1,1,1,1,1,1,1,1,0] KC) (Exit.then (fun a' w' => Fr 235 a' ∧ sl a' 1 = .slice (some ⟨g1, 0, none⟩) (k + 1) c1 ∧ sl a' 2 = .slice a2 4 4 ∧ sl a' 3 = .slice a3 16 16 ∧ sl a' 4 = .int .i64 (k : Int) ∧ sl a' 5 = .slice r5.a r5.n r5.c ∧ sl a' 6 = .slice r6.a r6.n r6.c ∧ sl a' 7 = .pointer (some ⟨b7, 0, none⟩) ∧ sl a' 9 = .slice rb.a rb.n rb.c ∧ sl a' 11 = .int .i64 0 ∧ wx = w') Nope) a wx := by
  obtain ⟨f, ha, hs⟩ := fr235 hf
  have e1 := (hs 1).trans h1
  have e2 := (hs 2).trans h2
  have e3 := (hs 3).trans h3
  have e4 := (hs 4).trans h4
  have e5 := (hs 5).trans h5
  have e6 := (hs 6).trans h6
  have e7 := (hs 7).trans h7
  have e9 := (hs 9).trans h9
  rw [e1, e2, e3, e4, e5, e6, e7, e9] at ha
  clear hs hf e1 h1 e2 h2 e3 h3 e4 h4 e5 h5 e6 h6 e7 h7 e9 h9
  subst ha
  refine piece2 fun J0 K0 hJ0 hK0 => ?_
  conv => arg 2; whnf
  go_wp2_with fail
  refine Met.intro (hJ0 _ _ ?_)
  exact ⟨⟨rfl, rfl⟩, rfl, rfl, rfl, rfl, rfl, rfl, rfl, rfl, rfl, rfl⟩

set_option maxRecDepth 100000 in
set_option maxHeartbeats 4000000 in
theorem t37 (wx : World) (k g1 c1 b7 j : Nat) (r5 r6 rb : Row) (a2 a3 : Option Addr) (hj : j ≤ rb.n) (hk : k < 12) (a : Act) (hf : Fr 235 a) (h1 : sl a 1 = .slice (some ⟨g1, 0, none⟩) (k + 1) c1) (h2 : sl a 2 = .slice a2 4 4) (h3 : sl a 3 = .slice a3 16 16) (h4 : sl a 4 = .int .i64 (k : Int)) (h5 : sl a 5 = .slice r5.a r5.n r5.c) (h6 : sl a 6 = .slice r6.a r6.n r6.c) (h7 : sl a 7 = .pointer (some ⟨b7, 0, none⟩)) (h9 : sl a 9 = .slice rb.a rb.n rb.c) (h11 : sl a 11 = .int .i64 (j : Int)) :
    Code.wp Try.prog (cAt [1,1,1,0,1,2,2,1,0,2,1,1,1,1,1,1,1,1,1,1,2,2,0] KC) (Exit.then (fun a' w' => Fr 235 a' ∧ sl a' 1 = .slice (some ⟨g1, 0, none⟩) (k + 1) c1 ∧ sl a' 2 = .slice a2 4 4 ∧ sl a' 3 = .slice a3 16 16 ∧ sl a' 4 = .int .i64 (k : Int) ∧ sl a' 5 = .slice r5.a r5.n r5.c ∧ sl a' 6 = .slice r6.a r6.n r6.c ∧ sl a' 7 = .pointer (some ⟨b7, 0, none⟩) ∧ sl a' 9 = .slice rb.a rb.n rb.c ∧ sl a' 11 = .int .i64 (j : Int) ∧ wx = w') Nope) a wx := by
  obtain ⟨f, ha, hs⟩ := fr235 hf
  have e1 := (hs 1).trans h1
  have e2 := (hs 2).trans h2
  have e3 := (hs 3).trans h3
  have e4 := (hs 4).trans h4
  have e5 := (hs 5).trans h5
  have e6 := (hs 6).trans h6
  have e7 := (hs 7).trans h7
  have e9 := (hs 9).trans h9
  have e11 := (hs 11).trans h11
  rw [e1, e2, e3, e4, e5, e6, e7, e9, e11] at ha
  clear hs hf e1 h1 e2 h2 e3 h3 e4 h4 e5 h5 e6 h6 e7 h7 e9 h9 e11 h11
  subst ha
  refine piece2 fun J0 K0 hJ0 hK0 => ?_
  conv => arg 2; whnf
  have hj' : (j : Int) ≤ (rb.n : Int) := by omega
  have hk' : (k : Int) < 12 := by omega
  go_wp2_with fail
  refine Met.intro (hJ0 _ _ ?_)
  exact ⟨⟨rfl, rfl⟩, rfl, rfl, rfl, rfl, rfl, rfl, rfl, rfl, rfl, rfl⟩

set_option maxRecDepth 100000 in
set_option maxHeartbeats 4000000 in
theorem t37x (wx : World) (k g1 c1 b7 j : Nat) (r5 r6 rb : Row) (a2 a3 : Option Addr) (hj : rb.n < j) (a : Act) (hf : Fr 235 a) (h1 : sl a 1 = .slice (some ⟨g1, 0, none⟩) (k + 1) c1) (h2 : sl a 2 = .slice a2 4 4) (h3 : sl a 3 = .slice a3 16 16) (h4 : sl a 4 = .int .i64 (k : Int)) (h5 : sl a 5 = .slice r5.a r5.n r5.c) (h6 : sl a 6 = .slice r6.a r6.n r6.c) (h7 : sl a 7 = .pointer (some ⟨b7, 0, none⟩)) (h9 : sl a 9 = .slice rb.a rb.n rb.c) (h11 : sl a 11 = .int .i64 (j : Int)) :
    Code.wp Try.prog (cAt [1,1,1,0,1,2,2,1,0,2,1,1,1,1,1,1,1,1,1,1,2,2] KC) (Outs 4 (fun a' w' => Fr 235 a' ∧ sl a' 1 = .slice (some ⟨g1, 0, none⟩) (k + 1) c1 ∧ sl a' 2 = .slice a2 4 4 ∧ sl a' 3 = .slice a3 16 16 ∧ sl a' 4 = .int .i64 (k : Int) ∧ wx = w')) a wx := by
  obtain ⟨f, ha, hs⟩ := fr235 hf
  have e1 := (hs 1).trans h1
  have e2 := (hs 2).trans h2
  have e3 := (hs 3).trans h3
  have e4 := (hs 4).trans h4
  have e5 := (hs 5).trans h5
  have e6 := (hs 6).trans h6
  have e7 := (hs 7).trans h7
  have e9 := (hs 9).trans h9
  have e11 := (hs 11).trans h11
  rw [e1, e2, e3, e4, e5, e6, e7, e9, e11] at ha
  clear hs hf e1 h1 e2 h2 e3 h3 e4 h4 e5 h5 e6 h6 e7 h7 e9 h9 e11 h11
  subst ha
  conv => arg 2; whnf
  have hj' : ¬ (j : Int) ≤ (rb.n : Int) := by omega
  go_wp2_with fail
  exact ⟨rfl, ⟨rfl, rfl⟩, rfl, rfl, rfl, rfl, rfl⟩

set_option maxRecDepth 100000 in
set_option maxHeartbeats 4000000 in
theorem t37y (wx : World) (k g1 c1 b7 j : Nat) (r5 r6 rb : Row) (a2 a3 : Option Addr) (hj : j ≤ rb.n) (hk : 12 ≤ k) (a : Act) (hf : Fr 235 a) (h1 : sl a 1 = .slice (some ⟨g1, 0, none⟩) (k + 1) c1) (h2 : sl a 2 = .slice a2 4 4) (h3 : sl a 3 = .slice a3 16 16) (h4 : sl a 4 = .int .i64 (k : Int)) (h5 : sl a 5 = .slice r5.a r5.n r5.c) (h6 : sl a 6 = .slice r6.a r6.n r6.c) (h7 : sl a 7 = .pointer (some ⟨b7, 0, none⟩)) (h9 : sl a 9 = .slice rb.a rb.n rb.c) (h11 : sl a 11 = .int .i64 (j : Int)) :
    Code.wp Try.prog (cAt [1,1,1,0,1,2,2,1,0,2,1,1,1,1,1,1,1,1,1,1,2,2] KC) (Outs 4 (fun a' w' => Fr 235 a' ∧ sl a' 1 = .slice (some ⟨g1, 0, none⟩) (k + 1) c1 ∧ sl a' 2 = .slice a2 4 4 ∧ sl a' 3 = .slice a3 16 16 ∧ sl a' 4 = .int .i64 (k : Int) ∧ wx = w')) a wx := by
  obtain ⟨f, ha, hs⟩ := fr235 hf
  have e1 := (hs 1).trans h1
  have e2 := (hs 2).trans h2
  have e3 := (hs 3).trans h3
  have e4 := (hs 4).trans h4
  have e5 := (hs 5).trans h5
  have e6 := (hs 6).trans h6
  have e7 := (hs 7).trans h7
  have e9 := (hs 9).trans h9
  have e11 := (hs 11).trans h11
  rw [e1, e2, e3, e4, e5, e6, e7, e9, e11] at ha
  clear hs hf e1 h1 e2 h2 e3 h3 e4 h4 e5 h5 e6 h6 e7 h7 e9 h9 e11 h11
  subst ha
  conv => arg 2; whnf
  have hj' : (j : Int) ≤ (rb.n : Int) := by omega
  have hk' : ¬ (k : Int) < 12 := by omega
  go_wp2_with fail
  exact ⟨rfl, ⟨rfl, rfl⟩, rfl, rfl, rfl, rfl, rfl⟩

set_option maxRecDepth 100000 in
set_option maxHeartbeats 4000000 in
theorem t39 (w0 wj : World) (k g1 c1 : Nat) (bs : List Int) (r5 r6 : Row) (a2 a3 : Option Addr) (b7 j : Nat) (s : Sg) (rb : Row) (HG : Hid (GX w0 g1 k c1 bs r5 r6 b7 s rb wj)) (a : Act) (hf : Fr 235 a) (h1 : sl a 1 = .slice (some ⟨g1, 0, none⟩) (k + 1) c1) (h2 : sl a 2 = .slice a2 4 4) (h3 : sl a 3 = .slice a3 16 16) (h4 : sl a 4 = .int .i64 (k : Int)) (h5 : sl a 5 = .slice r5.a r5.n r5.c) (h6 : sl a 6 = .slice r6.a r6.n r6.c) (h7 : sl a 7 = .pointer (some ⟨b7, 0, none⟩)) (h9 : sl a 9 = .slice rb.a rb.n rb.c) (h11 : sl a 11 = .int .i64 (j : Int)) :
    Code.wp Try.prog (cAt [1,1,1,0,1,2,2,1,0,2,1,1,1,1,1,1,1,1,1,1,2,2,1,0,2,0] KC) (Exit.then (fun a' w' => ∃ (a12 : Option Addr) (n12 c12 : Nat) (x12 : List Int), Fr 235 a' ∧ sl a' 1 = .slice (some ⟨g1, 0, none⟩) (k + 1) c1 ∧ sl a' 2 = .slice a2 4 4 ∧ sl a' 3 = .slice a3 16 16 ∧ sl a' 4 = .int .i64 (k : Int) ∧ sl a' 5 = .slice r5.a r5.n r5.c ∧ sl a' 6 = .slice r6.a r6.n r6.c ∧ sl a' 7 = .pointer (some ⟨b7, 0, none⟩) ∧ sl a' 9 = .slice rb.a rb.n rb.c ∧ sl a' 11 = .int .i64 (j : Int) ∧ sl a' 12 = .slice a12 n12 c12 ∧ YX wj a12 n12 c12 x12 rb.n w') Nope) a wj := by
  obtain ⟨f, ha, hs⟩ := fr235 hf
  have e1 := (hs 1).trans h1
  have e2 := (hs 2).trans h2
  have e3 := (hs 3).trans h3
  have e4 := (hs 4).trans h4
  have e5 := (hs 5).trans h5
  have e6 := (hs 6).trans h6
  have e7 := (hs 7).trans h7
  have e9 := (hs 9).trans h9
  have e11 := (hs 11).trans h11
  rw [e1, e2, e3, e4, e5, e6, e7, e9, e11] at ha
  clear hs hf e1 h1 e2 h2 e3 h3 e4 h4 e5 h5 e6 h6 e7 h7 e9 h9 e11 h11
  subst ha
  refine piece2 fun J0 K0 hJ0 hK0 => ?_
  conv => arg 2; whnf
  go_wp2_with fail
  refine (join_any none rb.a 0 0 rb.n rb.c [] rb.xs _ rfl HG.out.ob.len (Rd.empty _ _) HG.out.ob.rd (by have := HG.out.ln; omega)).mono ?_
  rintro e w9 ⟨a12, n12, c12, rfl, hown, hb⟩
  rw [List.nil_append] at hown
  have HY : Hid (YX wj a12 n12 c12 rb.xs rb.n w9) := ⟨hb, hown, HG.out.ob.byt, by rw [← hown.len]; exact HG.out.ob.len⟩
  clear hown hb
  go_wp2_with fail
  refine Met.intro (hJ0 _ _ ?_)
  exact ⟨a12, n12, c12, rb.xs, ⟨rfl, rfl⟩, rfl, rfl, rfl, rfl, rfl, rfl, rfl, rfl, rfl, rfl, HY.out⟩

set_option maxRecDepth 100000 in
set_option maxHeartbeats 4000000 in
theorem t40 (wj wx : World) (k g1 c1 : Nat) (r5 r6 : Row) (a2 a3 : Option Addr) (b7 j : Nat) (rb : Row) (a12 : Option Addr) (n12 c12 : Nat) (x12 : List Int) (HY : Hid (YX wj a12 n12 c12 x12 rb.n wx)) (hj : j < rb.n) (a : Act) (hf : Fr 235 a) (h1 : sl a 1 = .slice (some ⟨g1, 0, none⟩) (k + 1) c1) (h2 : sl a 2 = .slice a2 4 4) (h3 : sl a 3 = .slice a3 16 16) (h4 : sl a 4 = .int .i64 (k : Int)) (h5 : sl a 5 = .slice r5.a r5.n r5.c) (h6 : sl a 6 = .slice r6.a r6.n r6.c) (h7 : sl a 7 = .pointer (some ⟨b7, 0, none⟩)) (h9 : sl a 9 = .slice rb.a rb.n rb.c) (h11 : sl a 11 = .int .i64 (j : Int)) (h12 : sl a 12 = .slice a12 n12 c12) :
    Code.wp Try.prog (cAt [1,1,1,0,1,2,2,1,0,2,1,1,1,1,1,1,1,1,1,1,2,2,1,0,2,1,0] KC) (Exit.then (fun a' w' => ∃ (x12 : List Int), Fr 235 a' ∧ sl a' 1 = .slice (some ⟨g1, 0, none⟩) (k + 1) c1 ∧ sl a' 2 = .slice a2 4 4 ∧ sl a' 3 = .slice a3 16 16 ∧ sl a' 4 = .int .i64 (k : Int) ∧ sl a' 5 = .slice r5.a r5.n r5.c ∧ sl a' 6 = .slice r6.a r6.n r6.c ∧ sl a' 7 = .pointer (some ⟨b7, 0, none⟩) ∧ sl a' 9 = .slice rb.a rb.n rb.c ∧ sl a' 11 = .int .i64 (j : Int) ∧ sl a' 12 = .slice a12 n12 c12 ∧ YX wj a12 n12 c12 x12 rb.n w') Nope) a wx := by
  obtain ⟨f, ha, hs⟩ := fr235 hf
  have e1 := (hs 1).trans h1
  have e2 := (hs 2).trans h2
  have e3 := (hs 3).trans h3
  have e4 := (hs 4).trans h4
  have e5 := (hs 5).trans h5
  have e6 := (hs 6).trans h6
  have e7 := (hs 7).trans h7
  have e9 := (hs 9).trans h9
  have e11 := (hs 11).trans h11
  have e12 := (hs 12).trans h12
  rw [e1, e2, e3, e4, e5, e6, e7, e9, e11, e12] at ha
  clear hs hf e1 h1 e2 h2 e3 h3 e4 h4 e5 h5 e6 h6 e7 h7 e9 h9 e11 h11 e12 h12
  subst ha
  refine piece2 fun J0 K0 hJ0 hK0 => ?_
  conv => arg 2; whnf
  have hn := HY.out.eq
  obtain ⟨g, o, rfl, _⟩ := HY.out.own.rd (by intro e; have := HY.out.own.len; rw [e] at this; simp at this; omega)
  obtain rfl : o = 0 := by
    rcases HY.out.own.cases with ⟨e, _⟩ | ⟨g', cur, e, _⟩
    · cases e
    · cases e; rfl
  have hcp : Cp wj wx g n12 c12 x12 := ⟨HY.out.own, HY.out.below⟩
  obtain ⟨d1, f1⟩ := hcp.at_ (j := j) (by omega)
  obtain ⟨v, hv⟩ : ∃ v, x12.getD j 0 = v := ⟨_, rfl⟩
  obtain ⟨v0, v1⟩ := HY.out.byt.get j
  rw [hv] at d1 v0 v1
  have hc8 : n12 ≤ c12 := hcp.own.le.1
  have hc8m : c12 ≤ 9223372036854775807 := hcp.own.le.2
  have hj' : (j : Int) < (n12 : Int) := by omega
  have hj2 : (j : Int) < (rb.n : Int) := by omega
  have HZ : Hid (∀ y, (0 ≤ y ∧ y < 256) → YX wj (some ⟨g, 0, none⟩) n12 c12 (x12.set j y) rb.n (wx.setCell ⟨g, j, none⟩ (.int .u8 y))) := fun y hy => ⟨(hcp.set j y).below, (hcp.set j y).own, HY.out.byt.set j hy, hn⟩
  clear hcp hv hn
  go_wp2_with fail
  refine Met.intro (hJ0 _ _ ?_)
  exact ⟨_, ⟨rfl, rfl⟩, rfl, rfl, rfl, rfl, rfl, rfl, rfl, rfl, rfl, rfl, HZ.out _ (by omega)⟩

set_option maxRecDepth 100000 in
set_option maxHeartbeats 4000000 in
theorem t40n (wx : World) (k g1 c1 : Nat) (r5 r6 : Row) (a2 a3 : Option Addr) (b7 j : Nat) (rb : Row) (a12 : Option Addr) (n12 c12 : Nat) (hj : rb.n ≤ j) (a : Act) (hf : Fr 235 a) (h1 : sl a 1 = .slice (some ⟨g1, 0, none⟩) (k + 1) c1) (h2 : sl a 2 = .slice a2 4 4) (h3 : sl a 3 = .slice a3 16 16) (h4 : sl a 4 = .int .i64 (k : Int)) (h5 : sl a 5 = .slice r5.a r5.n r5.c) (h6 : sl a 6 = .slice r6.a r6.n r6.c) (h7 : sl a 7 = .pointer (some ⟨b7, 0, none⟩)) (h9 : sl a 9 = .slice rb.a rb.n rb.c) (h11 : sl a 11 = .int .i64 (j : Int)) (h12 : sl a 12 = .slice a12 n12 c12) :
    Code.wp Try.prog (cAt [1,1,1,0,1,2,2,1,0,2,1,1,1,1,1,1,1,1,1,1,2,2,1,0,2,1,0] KC) (Exit.then (fun a' w' => Fr 235 a' ∧ sl a' 1 = .slice (some ⟨g1, 0, none⟩) (k + 1) c1 ∧ sl a' 2 = .slice a2 4 4 ∧ sl a' 3 = .slice a3 16 16 ∧ sl a' 4 = .int .i64 (k : Int) ∧ sl a' 5 = .slice r5.a r5.n r5.c ∧ sl a' 6 = .slice r6.a r6.n r6.c ∧ sl a' 7 = .pointer (some ⟨b7, 0, none⟩) ∧ sl a' 9 = .slice rb.a rb.n rb.c ∧ sl a' 11 = .int .i64 (j : Int) ∧ sl a' 12 = .slice a12 n12 c12 ∧ wx = w') Nope) a wx := by
  obtain ⟨f, ha, hs⟩ := fr235 hf
  have e1 := (hs 1).trans h1
  have e2 := (hs 2).trans h2
  have e3 := (hs 3).trans h3
  have e4 := (hs 4).trans h4
  have e5 := (hs 5).trans h5
  have e6 := (hs 6).trans h6
  have e7 := (hs 7).trans h7
  have e9 := (hs 9).trans h9
  have e11 := (hs 11).trans h11
  have e12 := (hs 12).trans h12
  rw [e1, e2, e3, e4, e5, e6, e7, e9, e11, e12] at ha
  clear hs hf e1 h1 e2 h2 e3 h3 e4 h4 e5 h5 e6 h6 e7 h7 e9 h9 e11 h11 e12 h12
  subst ha
  refine piece2 fun J0 K0 hJ0 hK0 => ?_
  conv => arg 2; whnf
  have hj' : ¬ (j : Int) < (rb.n : Int) := by omega
  go_wp2_with fail
  refine Met.intro (hJ0 _ _ ?_)
  exact ⟨⟨rfl, rfl⟩, rfl, rfl, rfl, rfl, rfl, rfl, rfl, rfl, rfl, rfl, rfl⟩

set_option maxRecDepth 100000 in
set_option maxHeartbeats 8000000 in
theorem t42 (w0 wj wx : World) (k g1 c1 : Nat) (bs : List Int) (r5 r6 : Row) (a2 a3 : Option Addr) (b7 j : Nat) (s : Sg) (rb : Row) (hj : j ≤ rb.n) (HGJ : Hid (GX w0 g1 k c1 bs r5 r6 b7 s rb wj)) (a12 : Option Addr) (n12 c12 : Nat) (x12 : List Int) (HY : Hid (YX wj a12 n12 c12 x12 rb.n wx)) (HG : Hid (GX w0 g1 k c1 bs r5 r6 b7 s rb wx)) (a : Act) (hf : Fr 235 a) (h1 : sl a 1 = .slice (some ⟨g1, 0, none⟩) (k + 1) c1) (h2 : sl a 2 = .slice a2 4 4) (h3 : sl a 3 = .slice a3 16 16) (h4 : sl a 4 = .int .i64 (k : Int)) (h5 : sl a 5 = .slice r5.a r5.n r5.c) (h6 : sl a 6 = .slice r6.a r6.n r6.c) (h7 : sl a 7 = .pointer (some ⟨b7, 0, none⟩)) (h9 : sl a 9 = .slice rb.a rb.n rb.c) (h11 : sl a 11 = .int .i64 (j : Int)) (h12 : sl a 12 = .slice a12 n12 c12) :
    Code.wp Try.prog (cAt [1,1,1,0,1,2,2,1,0,2,1,1,1,1,1,1,1,1,1,1,2,2,1,0,2,1,1,0] KC) (Exit.then (fun a' w' => Fr 235 a' ∧ sl a' 1 = .slice (some ⟨g1, 0, none⟩) (k + 1) c1 ∧ sl a' 2 = .slice a2 4 4 ∧ sl a' 3 = .slice a3 16 16 ∧ sl a' 4 = .int .i64 (k : Int) ∧ sl a' 5 = .slice r5.a r5.n r5.c ∧ sl a' 6 = .slice r6.a r6.n r6.c ∧ sl a' 7 = .pointer (some ⟨b7, 0, none⟩) ∧ sl a' 9 = .slice rb.a rb.n rb.c ∧ sl a' 11 = .int .i64 (j : Int) ∧ sl a' 213 = .bool false ∧ GX w0 g1 k c1 bs r5 r6 b7 s rb w') Nope) a wx := by
  obtain ⟨f, ha, hs⟩ := fr235 hf
  have e1 := (hs 1).trans h1
  have e2 := (hs 2).trans h2
  have e3 := (hs 3).trans h3
  have e4 := (hs 4).trans h4
  have e5 := (hs 5).trans h5
  have e6 := (hs 6).trans h6
  have e7 := (hs 7).trans h7
  have e9 := (hs 9).trans h9
  have e11 := (hs 11).trans h11
  have e12 := (hs 12).trans h12
  rw [e1, e2, e3, e4, e5, e6, e7, e9, e11, e12] at ha
  clear hs hf e1 h1 e2 h2 e3 h3 e4 h4 e5 h5 e6 h6 e7 h7 e9 h9 e11 h11 e12 h12
  subst ha
  refine piece2 fun J0 K0 hJ0 hK0 => ?_
  conv => arg 2; whnf
  have HP := Lib.hid HG.out.ok.fit.pro
  have hl5 := HG.out.rw.l5
  have hc5 := HG.out.rw.o5.cap
  have hcr := HG.out.ob.cap
  have hcm := HG.out.ob.max
  unfold maxLen at hcm
  have i1 : (j : Int) ≤ (rb.c : Int) := by omega
  have i2 : (3 : Int) ≤ (r5.c : Int) := by omega
  have hs0 : World.cell? wx ⟨b7, 0, none⟩ = some (.int .u8 s.p.pro) := range_cell HG.out.seg s.c0
  refine wp_region_held_drew (S := fun w' => World.cell? w' ⟨b7, 0, none⟩ = some (.int .u8 s.p.pro)) (by kernel_rfl) hs0 (fun hS => ?_)
  have HX0 : Hid (GX w0 g1 k c1 bs r5 r6 b7 s rb wx.drew ∧ YX wj a12 n12 c12 x12 rb.n wx.drew) := ⟨HG.out.next (Below.refl _ _).drew, ⟨HY.out.below.drew, HY.out.own.below (Below.refl _ _).drew, HY.out.byt, HY.out.eq⟩⟩
  refine tk 0 184 (.pointer (some ⟨b7, 0, none⟩)) rfl rfl (by kernel_rfl) (by kernel_rfl) (by kernel_rfl) (fun _ _ _ h => h) (Or.inl ⟨by rfl, fun w' h' => ?_⟩) hS ?_
  · go_simp
  try simp only [Act.put, List.setIfInBounds_toArray, List.set_cons_zero, List.set_cons_succ]
  refine tk 1 185 (.int .u8 s.p.pro) rfl rfl (by kernel_rfl) (by kernel_rfl) (by kernel_rfl) (fun _ _ _ h => h) (Or.inl ⟨by rfl, fun w' h' => ?_⟩) hS ?_
  · have hc := h'
    go_simp
  try simp only [Act.put, List.setIfInBounds_toArray, List.set_cons_zero, List.set_cons_succ]
  refine tk 2 186 (.slice rb.a rb.n rb.c) rfl rfl (by kernel_rfl) (by kernel_rfl) (by kernel_rfl) (fun _ _ _ h => h) (Or.inl ⟨by rfl, fun w' h' => ?_⟩) hS ?_
  · go_simp
  try simp only [Act.put, List.setIfInBounds_toArray, List.set_cons_zero, List.set_cons_succ]
  refine tk 3 187 (.int .i64 (j : Int)) rfl rfl (by kernel_rfl) (by kernel_rfl) (by kernel_rfl) (fun _ _ _ h => h) (Or.inl ⟨by rfl, fun w' h' => ?_⟩) hS ?_
  · go_simp
  try simp only [Act.put, List.setIfInBounds_toArray, List.set_cons_zero, List.set_cons_succ]
  refine tk 4 188 (.slice rb.a j rb.c) rfl rfl (by kernel_rfl) (by kernel_rfl) (by kernel_rfl) (fun _ _ _ h => h) (Or.inl ⟨by rfl, fun w' h' => ?_⟩) hS ?_
  · go_simp
  try simp only [Act.put, List.setIfInBounds_toArray, List.set_cons_zero, List.set_cons_succ]
  refine tk 5 189 (.slice r5.a r5.n r5.c) rfl rfl (by kernel_rfl) (by kernel_rfl) (by kernel_rfl) (fun _ _ _ h => h) (Or.inl ⟨by rfl, fun w' h' => ?_⟩) hS ?_
  · go_simp
  try simp only [Act.put, List.setIfInBounds_toArray, List.set_cons_zero, List.set_cons_succ]
  refine tk 6 190 (.slice r6.a r6.n r6.c) rfl rfl (by kernel_rfl) (by kernel_rfl) (by kernel_rfl) (fun _ _ _ h => h) (Or.inl ⟨by rfl, fun w' h' => ?_⟩) hS ?_
  · go_simp
  try simp only [Act.put, List.setIfInBounds_toArray, List.set_cons_zero, List.set_cons_succ]
  refine wpAnyH_ready (rs := [7]) (by kernel_rfl) (by simp) (AllReadyH.cons rfl (fun K hK => ?_) AllReadyH.nil)
  rw [if_pos (by rfl)]
  go_wp2_with fail
  refine (parses7_any s.p.pro rb.a j rb.c (rb.xs.take j) r5.a r5.n r5.c r5.xs r6.a r6.n r6.c r6.xs _ HP.out.1 HP.out.2 (Row.ok.cut (a := rb.a) (n := rb.n) (c := rb.c) (xs := rb.xs) HX0.out.1.ob j hj) HX0.out.1.rw.o5 HX0.out.1.rw.o6).mono ?_
  rintro e wb0 ⟨rfl, hb⟩
  have HX1 : Hid (GX w0 g1 k c1 bs r5 r6 b7 s rb wb0 ∧ YX wj a12 n12 c12 x12 rb.n wb0) := ⟨HX0.out.1.next hb, ⟨HX0.out.2.below.trans (hb.mono HX0.out.2.below.size), HX0.out.2.own.below hb, HX0.out.2.byt, HX0.out.2.eq⟩⟩
  clear hb
  clear hS
  refine hK.out _ _ (range_cell HX1.out.1.seg s.c0) (fun hS => ?_)
  clear hK K
  try simp only [Act.put, List.setIfInBounds_toArray, List.set_cons_zero, List.set_cons_succ]
  refine tk 8 192 (.bool false) rfl rfl (by kernel_rfl) (by kernel_rfl) (by kernel_rfl) (fun _ _ _ h => h) (Or.inl ⟨by rfl, fun w' h' => ?_⟩) hS ?_
  · go_simp
  try simp only [Act.put, List.setIfInBounds_toArray, List.set_cons_zero, List.set_cons_succ]
  refine tk 9 193 (.bool false) rfl rfl (by kernel_rfl) (by kernel_rfl) (by kernel_rfl) (fun _ _ _ h => h) (Or.inl ⟨by rfl, fun w' h' => ?_⟩) hS ?_
  · go_simp
  try simp only [Act.put, List.setIfInBounds_toArray, List.set_cons_zero, List.set_cons_succ]
  refine tk 10 194 (.pointer (some ⟨b7, 0, none⟩)) rfl rfl (by kernel_rfl) (by kernel_rfl) (by kernel_rfl) (fun _ _ _ h => h) (Or.inl ⟨by rfl, fun w' h' => ?_⟩) hS ?_
  · go_simp
  try simp only [Act.put, List.setIfInBounds_toArray, List.set_cons_zero, List.set_cons_succ]
  refine tk 11 195 (.int .u8 s.p.pro) rfl rfl (by kernel_rfl) (by kernel_rfl) (by kernel_rfl) (fun _ _ _ h => h) (Or.inl ⟨by rfl, fun w' h' => ?_⟩) hS ?_
  · have hc := h'
    go_simp
  try simp only [Act.put, List.setIfInBounds_toArray, List.set_cons_zero, List.set_cons_succ]
  refine tk 12 196 (.slice a12 n12 c12) rfl rfl (by kernel_rfl) (by kernel_rfl) (by kernel_rfl) (fun _ _ _ h => h) (Or.inl ⟨by rfl, fun w' h' => ?_⟩) hS ?_
  · go_simp
  try simp only [Act.put, List.setIfInBounds_toArray, List.set_cons_zero, List.set_cons_succ]
  refine tk 13 197 (.slice r5.a r5.n r5.c) rfl rfl (by kernel_rfl) (by kernel_rfl) (by kernel_rfl) (fun _ _ _ h => h) (Or.inl ⟨by rfl, fun w' h' => ?_⟩) hS ?_
  · go_simp
  try simp only [Act.put, List.setIfInBounds_toArray, List.set_cons_zero, List.set_cons_succ]
  refine tk 14 198 (.slice r6.a r6.n r6.c) rfl rfl (by kernel_rfl) (by kernel_rfl) (by kernel_rfl) (fun _ _ _ h => h) (Or.inl ⟨by rfl, fun w' h' => ?_⟩) hS ?_
  · go_simp
  try simp only [Act.put, List.setIfInBounds_toArray, List.set_cons_zero, List.set_cons_succ]
  refine wpAnyH_ready (rs := [15]) (by kernel_rfl) (by simp) (AllReadyH.cons rfl (fun K hK => ?_) AllReadyH.nil)
  rw [if_pos (by rfl)]
  go_wp2_with fail
  refine (parses7_any s.p.pro a12 n12 c12 x12 r5.a r5.n r5.c r5.xs r6.a r6.n r6.c r6.xs _ HP.out.1 HP.out.2 (HX1.out.2.own.row HX1.out.2.byt) HX1.out.1.rw.o5 HX1.out.1.rw.o6).mono ?_
  rintro e wb1 ⟨rfl, hb⟩
  have HX2 : Hid (GX w0 g1 k c1 bs r5 r6 b7 s rb wb1 ∧ YX wj a12 n12 c12 x12 rb.n wb1) := ⟨HX1.out.1.next hb, ⟨HX1.out.2.below.trans (hb.mono HX1.out.2.below.size), HX1.out.2.own.below hb, HX1.out.2.byt, HX1.out.2.eq⟩⟩
  clear hb
  clear hS
  refine hK.out _ _ (range_cell HX2.out.1.seg s.c0) (fun hS => ?_)
  clear hK K
  try simp only [Act.put, List.setIfInBounds_toArray, List.set_cons_zero, List.set_cons_succ]
  refine tk 16 200 (.bool false) rfl rfl (by kernel_rfl) (by kernel_rfl) (by kernel_rfl) (fun _ _ _ h => h) (Or.inl ⟨by rfl, fun w' h' => ?_⟩) hS ?_
  · go_simp
  try simp only [Act.put, List.setIfInBounds_toArray, List.set_cons_zero, List.set_cons_succ]
  refine tk 17 201 (.bool false) rfl rfl (by kernel_rfl) (by kernel_rfl) (by kernel_rfl) (fun _ _ _ h => h) (Or.inl ⟨by rfl, fun w' h' => ?_⟩) hS ?_
  · go_simp
  try simp only [Act.put, List.setIfInBounds_toArray, List.set_cons_zero, List.set_cons_succ]
  refine tk 18 202 (.bool false) rfl rfl (by kernel_rfl) (by kernel_rfl) (by kernel_rfl) (fun _ _ _ h => h) (Or.inl ⟨by rfl, fun w' h' => ?_⟩) hS ?_
  · go_simp
  try simp only [Act.put, List.setIfInBounds_toArray, List.set_cons_zero, List.set_cons_succ]
  refine tk 19 203 (.pointer (some ⟨b7, 0, none⟩)) rfl rfl (by kernel_rfl) (by kernel_rfl) (by kernel_rfl) (fun _ _ _ h => h) (Or.inl ⟨by rfl, fun w' h' => ?_⟩) hS ?_
  · go_simp
  try simp only [Act.put, List.setIfInBounds_toArray, List.set_cons_zero, List.set_cons_succ]
  refine tk 20 204 (.int .u8 s.p.pro) rfl rfl (by kernel_rfl) (by kernel_rfl) (by kernel_rfl) (fun _ _ _ h => h) (Or.inl ⟨by rfl, fun w' h' => ?_⟩) hS ?_
  · have hc := h'
    go_simp
  try simp only [Act.put, List.setIfInBounds_toArray, List.set_cons_zero, List.set_cons_succ]
  refine tk 21 205 (.slice a12 n12 c12) rfl rfl (by kernel_rfl) (by kernel_rfl) (by kernel_rfl) (fun _ _ _ h => h) (Or.inl ⟨by rfl, fun w' h' => ?_⟩) hS ?_
  · go_simp
  try simp only [Act.put, List.setIfInBounds_toArray, List.set_cons_zero, List.set_cons_succ]
  refine tk 24 208 (.slice r6.a r6.n r6.c) rfl rfl (by kernel_rfl) (by kernel_rfl) (by kernel_rfl) (fun _ _ _ h => h) (Or.inl ⟨by rfl, fun w' h' => ?_⟩) hS ?_
  · go_simp
  try simp only [Act.put, List.setIfInBounds_toArray, List.set_cons_zero, List.set_cons_succ]
  refine tk 25 209 (.slice r5.a r5.n r5.c) rfl rfl (by kernel_rfl) (by kernel_rfl) (by kernel_rfl) (fun _ _ _ h => h) (Or.inl ⟨by rfl, fun w' h' => ?_⟩) hS ?_
  · go_simp
  try simp only [Act.put, List.setIfInBounds_toArray, List.set_cons_zero, List.set_cons_succ]
  refine tk 26 210 (.slice r5.a 3 r5.c) rfl rfl (by kernel_rfl) (by kernel_rfl) (by kernel_rfl) (fun _ _ _ h => h) (Or.inl ⟨by rfl, fun w' h' => ?_⟩) hS ?_
  · go_simp
  try simp only [Act.put, List.setIfInBounds_toArray, List.set_cons_zero, List.set_cons_succ]
  refine wpAnyH_ready (rs := [22]) (by kernel_rfl) (by simp) (AllReadyH.cons rfl (fun K hK => ?_) AllReadyH.nil)
  rw [if_pos (by rfl)]
  go_wp2_with fail
  have hb1 : Below wb1.heap.size wb1 (wb1.alloc (.cells #[.int .u8 1] 5)) := (Below.refl _ _).alloc (Nat.le_refl _) _
  have hs9 := cell_kept hb1 (range_cell HX2.out.1.seg s.c0)
  obtain ⟨g9, c9, w9, hrun, hown9, hk9, hx9⟩ := run_append_one wb1 wj.heap.size 24 24 5 (.int .u8 0) 1 1 u8_info Try.underlying24 rfl (by omega) (own_of HX2.out.2.own) [.int .u8 1] rfl (by simp [Value.oneCell']) HX2.out.2.below.size (by have := HX2.out.2.eq; have := HG.out.ln; omega) (by have := HX2.out.2.eq; have := HG.out.ln; omega)
  have HRN := Lib.hid hrun
  have hb9 : Below wj.heap.size wj w9 := HX2.out.2.below.trans (hk9.below HX2.out.2.below.size (fun i hi => (HX2.out.2.own.blk_ge i hi).1))
  have HG9 : Hid (GX w0 g1 k c1 bs r5 r6 b7 s rb w9) := HGJ.out.next hb9
  have hl9 : (x12 ++ [1]).length = n12 + 1 := by rw [List.length_append, HX2.out.2.own.len]; rfl
  have HO9 : Hid (Row.ok w9 ⟨some ⟨g9, 0, none⟩, n12 + 1, c9, x12 ++ [1]⟩) :=
    Own.row (base := wj.heap.size) ⟨hl9, by rw [bv_append]; exact hown9⟩ (HX2.out.2.byt.append (by intro y hy; simp at hy; omega))
  clear hb1 hrun hown9 hk9 hx9 hb9 hl9
  clear hS
  refine hK.out _ _ (hs9) (fun hS => ?_)
  clear hK K
  try simp only [Act.put, List.setIfInBounds_toArray, List.set_cons_zero, List.set_cons_succ]
  refine wpAnyH_ready (rs := [23]) (by kernel_rfl) (by simp) (AllReadyH.cons rfl (fun K hK => ?_) AllReadyH.nil)
  rw [if_pos (by rfl)]
  refine Lib.wp_append_run _ (.tmp 205) (.tmp 206) _ _ rfl _ _ rfl rfl _ _ HRN.out ?_
  clear hS
  refine hK.out _ _ (range_cell HG9.out.seg s.c0) (fun hS => ?_)
  clear hK K
  try simp only [Act.put, List.setIfInBounds_toArray]
  refine wpAnyH_ready (rs := [27]) (by kernel_rfl) (by simp) (AllReadyH.cons rfl (fun K hK => ?_) AllReadyH.nil)
  rw [if_pos (by rfl)]
  go_wp2_with fail
  refine (parses7_any s.p.pro (some ⟨g9, 0, none⟩) (n12 + 1) c9 (x12 ++ [1]) r6.a r6.n r6.c r6.xs r5.a 3 r5.c (r5.xs.take 3) _ HP.out.1 HP.out.2 HO9.out HG9.out.rw.o6 (Row.ok.cut (a := r5.a) (n := r5.n) (c := r5.c) (xs := r5.xs) HG9.out.rw.o5 3 (by have := HG9.out.rw.l5; omega))).mono ?_
  rintro e wb2 ⟨rfl, hb⟩
  have HX3 := Lib.hid (HG9.out.next hb)
  clear hb
  clear hS
  refine hK.out _ _ (range_cell HX3.out.seg s.c0) (fun hS => ?_)
  clear hK K
  try simp only [Act.put, List.setIfInBounds_toArray, List.set_cons_zero, List.set_cons_succ]
  refine tk 28 212 (.bool false) rfl rfl (by kernel_rfl) (by kernel_rfl) (by kernel_rfl) (fun _ _ _ h => h) (Or.inl ⟨by rfl, fun w' h' => ?_⟩) hS ?_
  · go_simp
  try simp only [Act.put, List.setIfInBounds_toArray, List.set_cons_zero, List.set_cons_succ]
  refine tk 29 213 (.bool false) rfl rfl (by kernel_rfl) (by kernel_rfl) (by kernel_rfl) (fun _ _ _ h => h) (Or.inl ⟨by rfl, fun w' h' => ?_⟩) hS ?_
  · go_simp
  refine wpAnyH_done (by kernel_rfl) ?_ _
  go_wp2_with fail
  refine Met.intro (hJ0 _ _ ?_)
  exact ⟨⟨rfl, rfl⟩, rfl, rfl, rfl, rfl, rfl, rfl, rfl, rfl, rfl, rfl, HX3.out⟩

set_option maxRecDepth 100000 in
set_option maxHeartbeats 4000000 in
theorem t43 (wx : World) (k g1 c1 b7 j : Nat) (r5 r6 rb : Row) (a2 a3 : Option Addr) (a : Act) (hf : Fr 235 a) (h1 : sl a 1 = .slice (some ⟨g1, 0, none⟩) (k + 1) c1) (h2 : sl a 2 = .slice a2 4 4) (h3 : sl a 3 = .slice a3 16 16) (h4 : sl a 4 = .int .i64 (k : Int)) (h5 : sl a 5 = .slice r5.a r5.n r5.c) (h6 : sl a 6 = .slice r6.a r6.n r6.c) (h7 : sl a 7 = .pointer (some ⟨b7, 0, none⟩)) (h9 : sl a 9 = .slice rb.a rb.n rb.c) (h11 : sl a 11 = .int .i64 (j : Int)) (h213 : sl a 213 = .bool false) :
    Code.wp Try.prog (cAt [1,1,1,0,1,2,2,1,0,2,1,1,1,1,1,1,1,1,1,1,2,2,1,0,2,1,1,1] KC) (Exit.then (fun a' w' => Fr 235 a' ∧ sl a' 1 = .slice (some ⟨g1, 0, none⟩) (k + 1) c1 ∧ sl a' 2 = .slice a2 4 4 ∧ sl a' 3 = .slice a3 16 16 ∧ sl a' 4 = .int .i64 (k : Int) ∧ sl a' 5 = .slice r5.a r5.n r5.c ∧ sl a' 6 = .slice r6.a r6.n r6.c ∧ sl a' 7 = .pointer (some ⟨b7, 0, none⟩) ∧ sl a' 9 = .slice rb.a rb.n rb.c ∧ sl a' 11 = .int .i64 (j : Int) ∧ wx = w') Nope) a wx := by
  obtain ⟨f, ha, hs⟩ := fr235 hf
  have e1 := (hs 1).trans h1
  have e2 := (hs 2).trans h2
  have e3 := (hs 3).trans h3
  have e4 := (hs 4).trans h4
  have e5 := (hs 5).trans h5
  have e6 := (hs 6).trans h6
  have e7 := (hs 7).trans h7
  have e9 := (hs 9).trans h9
  have e11 := (hs 11).trans h11
  have e213 := (hs 213).trans h213
  rw [e1, e2, e3, e4, e5, e6, e7, e9, e11, e213] at ha
  clear hs hf e1 h1 e2 h2 e3 h3 e4 h4 e5 h5 e6 h6 e7 h7 e9 h9 e11 h11 e213 h213
  subst ha
  refine piece2 fun J0 K0 hJ0 hK0 => ?_
  conv => arg 2; whnf
  go_wp2_with fail
  refine Met.intro (hJ0 _ _ ?_)
  exact ⟨⟨rfl, rfl⟩, rfl, rfl, rfl, rfl, rfl, rfl, rfl, rfl, rfl, rfl⟩

set_option maxRecDepth 100000 in
set_option maxHeartbeats 4000000 in
theorem t38 (wx : World) (k g1 c1 b7 j : Nat) (r5 r6 rb : Row) (a2 a3 : Option Addr) (hj : j ≤ 400) (a : Act) (hf : Fr 235 a) (h1 : sl a 1 = .slice (some ⟨g1, 0, none⟩) (k + 1) c1) (h2 : sl a 2 = .slice a2 4 4) (h3 : sl a 3 = .slice a3 16 16) (h4 : sl a 4 = .int .i64 (k : Int)) (h5 : sl a 5 = .slice r5.a r5.n r5.c) (h6 : sl a 6 = .slice r6.a r6.n r6.c) (h7 : sl a 7 = .pointer (some ⟨b7, 0, none⟩)) (h9 : sl a 9 = .slice rb.a rb.n rb.c) (h11 : sl a 11 = .int .i64 (j : Int)) :
    Code.wp Try.prog (cAt [1,1,1,0,1,2,2,1,0,2,1,1,1,1,1,1,1,1,1,1,2,2,1,1] KC) (Exit.then (fun a' w' => Fr 235 a' ∧ sl a' 1 = .slice (some ⟨g1, 0, none⟩) (k + 1) c1 ∧ sl a' 2 = .slice a2 4 4 ∧ sl a' 3 = .slice a3 16 16 ∧ sl a' 4 = .int .i64 (k : Int) ∧ sl a' 5 = .slice r5.a r5.n r5.c ∧ sl a' 6 = .slice r6.a r6.n r6.c ∧ sl a' 7 = .pointer (some ⟨b7, 0, none⟩) ∧ sl a' 9 = .slice rb.a rb.n rb.c ∧ sl a' 11 = .int .i64 ((j : Int) + 1) ∧ wx = w') Nope) a wx := by
  obtain ⟨f, ha, hs⟩ := fr235 hf
  have e1 := (hs 1).trans h1
  have e2 := (hs 2).trans h2
  have e3 := (hs 3).trans h3
  have e4 := (hs 4).trans h4
  have e5 := (hs 5).trans h5
  have e6 := (hs 6).trans h6
  have e7 := (hs 7).trans h7
  have e9 := (hs 9).trans h9
  have e11 := (hs 11).trans h11
  rw [e1, e2, e3, e4, e5, e6, e7, e9, e11] at ha
  clear hs hf e1 h1 e2 h2 e3 h3 e4 h4 e5 h5 e6 h6 e7 h7 e9 h9 e11 h11
  subst ha
  refine piece2 fun J0 K0 hJ0 hK0 => ?_
  conv => arg 2; whnf
  go_wp2_with fail
  refine Met.intro (hJ0 _ _ ?_)
  exact ⟨⟨rfl, rfl⟩, rfl, rfl, rfl, rfl, rfl, rfl, rfl, rfl, rfl, rfl⟩

end Go.Proofs.Ytabdejoakecioaa

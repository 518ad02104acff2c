/-
  IpsixKnown in pieces: the round's four calls. Conditions: those that the theorems name.
-/
import Derived.Test.YthipnkaghddbhaaSxKnA
namespace Go.Proofs.Ythipnkaghddbhaa
open Go.ChangeShapes Go.WideShapes Go.ChangeAt Go.RowKit

/-- A row of bytes: the slice, and its bytes. -/
structure RwB (w : World) (a : Option Addr) (n c : Nat) (xs : List Int) : Prop where
  len : xs.length = n
  cap : n ≤ c
  max : c ≤ maxLen
  rd : Rd w a xs
  byt : Byt xs
theorem RwB.below {w w' : World} {a : Option Addr} {n c : Nat} {xs : List Int} (h : RwB w a n c xs) (hb : Below w.heap.size w w') : RwB w' a n c xs := ⟨h.len, h.cap, h.max, h.rd.below hb, h.byt⟩
theorem RwB.of {w : World} {base : Nat} {a : Option Addr} {n c : Nat} {xs : List Int} (h : Own w base a n c xs) (hb : Byt xs) : RwB w a n c xs := ⟨h.len, h.le.1, h.le.2, h.rd, hb⟩
theorem RwB.cut {w : World} {a : Option Addr} {n c : Nat} {xs : List Int} (h : RwB w a n c xs) (e : Nat) (he : e ≤ n) : RwB w a e c (xs.take e) :=
  ⟨by rw [List.length_take, h.len]; exact Nat.min_eq_left he, Nat.le_trans he h.cap, h.max, h.rd.taken e, h.byt.take e⟩
/-- The chain and a row. -/
structure ZX (wb : World) (b4 : Nat) (p : Int) (a0 : Option Addr) (m d : Nat) (es : List Ex) (ab : Option Addr) (nb cb : Nat) (xb : List Int) (w : World) : Prop where
  cn : Cn wb b4 p a0 m d es w
  rw : RwB w ab nb cb xb
theorem ZX.next {wb w w' : World} {b4 : Nat} {p : Int} {a0 ab : Option Addr} {m d nb cb : Nat} {es : List Ex} {xb : List Int} (h : ZX wb b4 p a0 m d es ab nb cb xb w) (hb : Below w.heap.size w w') : ZX wb b4 p a0 m d es ab nb cb xb w' := ⟨h.cn.next hb, h.rw.below hb⟩
def z16 : List Int := [0, 0, 0, 0, 0, 0, 0, 0, 0, 0, 0, 0, 0, 0, 0, 0]
theorem z16_byt : Byt z16 := by intro x hx; simp [z16] at hx; omega
def hA (n : Nat) : H6 := ⟨(n : Int) % 256, n, 0, 0, 1, z16, z16⟩
theorem hA_ok (n : Nat) (hn : n < 100003) : (hA n).ok := ⟨by simp only [hA]; omega, by simp only [hA]; omega, by simp only [hA]; decide, by simp only [hA]; decide, by simp only [hA]; decide, rfl, rfl, z16_byt, z16_byt⟩
theorem builtA (n : Nat) : Try.prog.built 26 [(0, .int .u8 ((n : Int) % 256)), (1, .int .u32 (n : Int)), (4, .int .u8 1)] = some (hA n).cs.toArray := by kernel_rfl
theorem builtC (a : Option Addr) (n c : Nat) : Try.prog.built 46 [(0, .slice a n c), (1, .int .u8 6)] = some #[.slice a n c, .int .u8 6] := by kernel_rfl

set_option maxRecDepth 100000 in
set_option maxHeartbeats 16000000 in
theorem u24a (w0 wb wx : World) (bk n i b4 : Nat) (p F : Int) (hp : 0 ≤ p ∧ p < 256) (hF : 0 ≤ F ∧ F < 256) (hn : n < 100003) (a0 ab : Option Addr) (m d cb : Nat) (es : List Ex) (xb : List Int) (HC : Hid (∀ r, r < 8 → w0.cell? ⟨bk, r, none⟩ = some (.int .u8 (kinds8.getD r 0)))) (HB : Hid (Below w0.heap.size w0 wx)) (HX : Hid (ZX wb b4 p a0 m d es ab 0 cb xb wx)) (a : Act) (hf : Fr 266 a) (h1 : sl a 1 = .slice (some ⟨bk, 0, none⟩) 8 8) (h2 : sl a 2 = .int .i64 (n : Int)) (h3 : sl a 3 = .int .i64 (i : Int)) (h4 : sl a 4 = .pointer (some ⟨b4, 0, none⟩)) (h8 : sl a 8 = .slice ab 0 cb) (h9 : sl a 9 = .int .u8 F) :
    Code.wp Try.prog (cAt [1,1,1,0,1,2,2,1,0,2,1,1,1,1,1,0] KC) (Exit.then (fun a' w' => Fr 266 a' ∧ sl a' 1 = .slice (some ⟨bk, 0, none⟩) 8 8 ∧ sl a' 2 = .int .i64 (n : Int) ∧ sl a' 3 = .int .i64 (i : Int) ∧ sl a' 187 = .bool false ∧ Below wx.heap.size wx w') Nope) a wx := by
  obtain ⟨f, ha, hs⟩ := fr266 hf
  have e1 := (hs 1).trans h1
  have e2 := (hs 2).trans h2
  have e3 := (hs 3).trans h3
  have e4 := (hs 4).trans h4
  have e8 := (hs 8).trans h8
  have e9 := (hs 9).trans h9
  rw [e1, e2, e3, e4, e8, e9] at ha
  clear hs hf e1 h1 e2 h2 e3 h3 e4 h4 e8 h8 e9 h9
  subst ha
  refine piece2 fun J0 K0 hJ0 hK0 => ?_
  conv => arg 2; whnf
  obtain ⟨r20, hr20⟩ := Int.eq_ofNat_of_zero_le (show 0 ≤ (n : Int) % 20 by omega)
  have hr20b : r20 < 20 := by omega
  obtain ⟨r8, hr8⟩ := Int.eq_ofNat_of_zero_le (show 0 ≤ (n : Int) % 8 by omega)
  have hr8b : r8 < 8 := by omega
  obtain ⟨d2, hd2⟩ := Int.eq_ofNat_of_zero_le (show 0 ≤ (n : Int) % 2 by omega)
  have hd2b : d2 < 2 := by omega
  have hc8 := cell_kept HB.out (HC.out r8 hr8b)
  obtain ⟨v8, hv8⟩ : ∃ x, kinds8.getD r8 0 = x := ⟨_, rfl⟩
  have hv80 := kinds8_get r8
  rw [hv8] at hc8 hv80
  have HV := Lib.hid hv80
  have he2 : 0 ≤ 0 := by omega
  have hcap := HX.out.rw.cap
  have hmax := HX.out.rw.max
  unfold maxLen at hmax
  have i1 : (n : Int).tmod 20 = (r20 : Int) := by rw [Int.tmod_eq_emod_of_nonneg (by omega)]; exact hr20
  have i2 : (n : Int).tmod 8 = (r8 : Int) := by rw [Int.tmod_eq_emod_of_nonneg (by omega)]; exact hr8
  have i3 : (n : Int).tmod 2 = (d2 : Int) := by rw [Int.tmod_eq_emod_of_nonneg (by omega)]; exact hd2
  have i4 : IntKind.i64.wrap (r20 : Int) = (r20 : Int) := IntWalk.i64_in _ (by omega)
  have i5 : IntKind.i64.wrap (r8 : Int) = (r8 : Int) := IntWalk.i64_in _ (by omega)
  have i6 : IntKind.i64.wrap (d2 : Int) = (d2 : Int) := IntWalk.i64_in _ (by omega)
  have i7 : IntKind.i64.wrap 0 = 0 := IntWalk.i64_in _ (by omega)
  have i8 : IntKind.u8.wrap (n : Int) = (n : Int) % 256 := by rw [IntKind.wrap_u8]
  have i9 : IntKind.u32.wrap (n : Int) = (n : Int) := by rw [IntKind.wrap_u32]; omega
  have i11 : (r8 : Int) < 8 := by omega
  clear hr20 hr8 hd2 hv8 hv80
  have HBX : Hid (∀ w', Below wx.drew.heap.size wx.drew w' → Below wx.heap.size wx w') := fun w' h => ⟨h.os, h.tape, h.output, h.size, h.block⟩
  have hs0 : World.rangeAt wx b4 0 [Value.slice a0 m d, .int .u8 p] ∧ World.cell? wx ⟨bk, r8, none⟩ = some (.int .u8 v8) := ⟨HX.out.cn.rng, hc8⟩
  refine wp_region_held_drew (S := fun w' => World.rangeAt w' b4 0 [Value.slice a0 m d, .int .u8 p] ∧ World.cell? w' ⟨bk, r8, none⟩ = some (.int .u8 v8)) (by kernel_rfl) hs0 (fun hS => ?_)
  have HX0 : Hid (ZX wb b4 p a0 m d es ab 0 cb xb wx.drew ∧ World.cell? wx.drew ⟨bk, r8, none⟩ = some (.int .u8 v8)) := ⟨HX.out.next (Below.refl _ _).drew, hs0.2⟩
  clear hs0
  refine tk 0 141 (.agg ([Value.slice a0 m d, .int .u8 p]).toArray) rfl rfl (by kernel_rfl) (by kernel_rfl) (by kernel_rfl) (fun _ _ _ h => h) (yieldsIf_load_mid (by rfl) _ _ rfl (b4) (0) rfl ([Value.slice a0 m d, .int .u8 p]) _ (fun w' h' => h'.1) Try.underlying46 rfl (infC2)) hS ?_
  try simp only [Act.put, List.setIfInBounds_toArray, List.set_cons_zero, List.set_cons_succ]
  refine tk 1 142 (.pointer (some ⟨b4, 0, none⟩)) rfl rfl (by kernel_rfl) (by kernel_rfl) (by kernel_rfl) (fun _ _ _ h => h) (Or.inl ⟨by rfl, fun w' h' => ?_⟩) hS ?_
  · go_simp
  try simp only [Act.put, List.setIfInBounds_toArray, List.set_cons_zero, List.set_cons_succ]
  refine tk 2 143 (.slice a0 m d) rfl rfl (by kernel_rfl) (by kernel_rfl) (by kernel_rfl) (fun _ _ _ h => h) (Or.inl ⟨by rfl, fun w' h' => ?_⟩) hS ?_
  · have hc := range_cell h'.1 (j := 0) rfl
    go_simp
  try simp only [Act.put, List.setIfInBounds_toArray, List.set_cons_zero, List.set_cons_succ]
  refine tk 3 144 (.agg #[.slice a0 m d, .int .u8 6]) rfl rfl (by kernel_rfl) (by kernel_rfl) (by kernel_rfl) (fun _ _ _ h => h) (yields_build (by rfl) _ _ rfl ?_) hS ?_
  · exact builtC _ _ _
  try simp only [Act.put, List.setIfInBounds_toArray, List.set_cons_zero, List.set_cons_succ]
  refine wpAnyH_ready (rs := [4]) (by kernel_rfl) (by simp) (AllReadyH.cons rfl (fun K hK => ?_) AllReadyH.nil)
  rw [if_pos (by rfl)]
  go_wp2_with fail
  refine (chains_any a0 a0 m d m d es es p 6 _ HX0.out.1.cn.ch.any HX0.out.1.cn.ch.any hp.1 hp.2 (by decide) (by decide)).mono ?_
  rintro e wb0 ⟨rfl, hb⟩
  have HBZ0 := Lib.hid (HBX.out _ hb)
  have HX1 : Hid (ZX wb b4 p a0 m d es ab 0 cb xb wb0 ∧ World.cell? wb0 ⟨bk, r8, none⟩ = some (.int .u8 v8)) := ⟨HX0.out.1.next hb, cell_kept hb HX0.out.2⟩
  clear hb
  clear hS
  refine hK.out _ _ (⟨HX1.out.1.cn.rng, HX1.out.2⟩) (fun hS => ?_)
  clear hK K
  try simp only [Act.put, List.setIfInBounds_toArray, List.set_cons_zero, List.set_cons_succ]
  refine tk 5 146 (.bool false) rfl rfl (by kernel_rfl) (by kernel_rfl) (by kernel_rfl) (fun _ _ _ h => h) (Or.inl ⟨by rfl, fun w' h' => ?_⟩) hS ?_
  · go_simp
  try simp only [Act.put, List.setIfInBounds_toArray, List.set_cons_zero, List.set_cons_succ]
  refine tk 6 147 (.bool false) rfl rfl (by kernel_rfl) (by kernel_rfl) (by kernel_rfl) (fun _ _ _ h => h) (Or.inl ⟨by rfl, fun w' h' => ?_⟩) hS ?_
  · go_simp
  try simp only [Act.put, List.setIfInBounds_toArray, List.set_cons_zero, List.set_cons_succ]
  refine tk 7 148 (.int .i64 (n : Int)) rfl rfl (by kernel_rfl) (by kernel_rfl) (by kernel_rfl) (fun _ _ _ h => h) (Or.inl ⟨by rfl, fun w' h' => ?_⟩) hS ?_
  · go_simp
  try simp only [Act.put, List.setIfInBounds_toArray, List.set_cons_zero, List.set_cons_succ]
  refine tk 8 149 (.int .u8 ((n : Int) % 256)) rfl rfl (by kernel_rfl) (by kernel_rfl) (by kernel_rfl) (fun _ _ _ h => h) (Or.inl ⟨by rfl, fun w' h' => ?_⟩) hS ?_
  · go_simp
  try simp only [Act.put, List.setIfInBounds_toArray, List.set_cons_zero, List.set_cons_succ]
  refine tk 9 150 (.int .i64 (n : Int)) rfl rfl (by kernel_rfl) (by kernel_rfl) (by kernel_rfl) (fun _ _ _ h => h) (Or.inl ⟨by rfl, fun w' h' => ?_⟩) hS ?_
  · go_simp
  try simp only [Act.put, List.setIfInBounds_toArray, List.set_cons_zero, List.set_cons_succ]
  refine tk 10 151 (.int .u32 (n : Int)) rfl rfl (by kernel_rfl) (by kernel_rfl) (by kernel_rfl) (fun _ _ _ h => h) (Or.inl ⟨by rfl, fun w' h' => ?_⟩) hS ?_
  · go_simp
  try simp only [Act.put, List.setIfInBounds_toArray, List.set_cons_zero, List.set_cons_succ]
  refine tk 11 152 (.agg (hA n).cs.toArray) rfl rfl (by kernel_rfl) (by kernel_rfl) (by kernel_rfl) (fun _ _ _ h => h) (yields_build (by rfl) _ _ rfl ?_) hS ?_
  · exact builtA n
  try simp only [Act.put, List.setIfInBounds_toArray, List.set_cons_zero, List.set_cons_succ]
  refine tk 12 153 (.agg ([Value.slice a0 m d, .int .u8 p]).toArray) rfl rfl (by kernel_rfl) (by kernel_rfl) (by kernel_rfl) (fun _ _ _ h => h) (yieldsIf_load_mid (by rfl) _ _ rfl (b4) (0) rfl ([Value.slice a0 m d, .int .u8 p]) _ (fun w' h' => h'.1) Try.underlying46 rfl (infC2)) hS ?_
  try simp only [Act.put, List.setIfInBounds_toArray, List.set_cons_zero, List.set_cons_succ]
  refine tk 13 154 (.int .i64 (n : Int)) rfl rfl (by kernel_rfl) (by kernel_rfl) (by kernel_rfl) (fun _ _ _ h => h) (Or.inl ⟨by rfl, fun w' h' => ?_⟩) hS ?_
  · go_simp
  try simp only [Act.put, List.setIfInBounds_toArray, List.set_cons_zero, List.set_cons_succ]
  refine tk 14 155 (.int .i64 (r20 : Int)) rfl rfl (by kernel_rfl) (by kernel_rfl) (by kernel_rfl) (fun _ _ _ h => h) (Or.inl ⟨by rfl, fun w' h' => ?_⟩) hS ?_
  · go_simp
  try simp only [Act.put, List.setIfInBounds_toArray, List.set_cons_zero, List.set_cons_succ]
  refine tk 16 157 (.int .u8 F) rfl rfl (by kernel_rfl) (by kernel_rfl) (by kernel_rfl) (fun _ _ _ h => h) (Or.inl ⟨by rfl, fun w' h' => ?_⟩) hS ?_
  · go_simp
  try simp only [Act.put, List.setIfInBounds_toArray, List.set_cons_zero, List.set_cons_succ]
  refine tk 17 158 (.slice ab 0 cb) rfl rfl (by kernel_rfl) (by kernel_rfl) (by kernel_rfl) (fun _ _ _ h => h) (Or.inl ⟨by rfl, fun w' h' => ?_⟩) hS ?_
  · go_simp
  try simp only [Act.put, List.setIfInBounds_toArray, List.set_cons_zero, List.set_cons_succ]
  refine wpAnyH_ready (rs := [15]) (by kernel_rfl) (by simp) (AllReadyH.cons rfl (fun K hK => ?_) AllReadyH.nil)
  rw [if_pos (by rfl)]
  obtain ⟨wm, hmk, hm, hbm⟩ := mk_nz wb0 r20 (by omega)
  have HM := Lib.hid (RwB.of hm (nz_byt r20))
  have HBZm := Lib.hid (HBZ0.out.trans (hbm.mono HBZ0.out.size))
  have HX2 : Hid (ZX wb b4 p a0 m d es ab 0 cb xb wm ∧ World.cell? wm ⟨bk, r8, none⟩ = some (.int .u8 v8)) := ⟨HX1.out.1.next hbm, cell_kept hbm HX1.out.2⟩
  go_wp2_with fail
  clear hmk hm hbm
  clear hS
  refine hK.out _ _ (⟨HX2.out.1.cn.rng, HX2.out.2⟩) (fun hS => ?_)
  clear hK K
  try simp only [Act.put, List.setIfInBounds_toArray, List.set_cons_zero, List.set_cons_succ]
  refine wpAnyH_ready (rs := [18]) (by kernel_rfl) (by simp) (AllReadyH.cons rfl (fun K hK => ?_) AllReadyH.nil)
  rw [if_pos (by rfl)]
  go_wp2_with fail
  refine (back_any (hA n) a0 m d es p (some ⟨wb0.heap.size, 0, none⟩) r20 r20 (nz r20) F ab 0 cb xb _ (hA_ok n hn) HX2.out.1.cn.ch.any hp.1 hp.2 HM.out.len HM.out.rd HM.out.byt hF.1 hF.2 HX2.out.1.rw.len HX2.out.1.rw.cap HX2.out.1.rw.rd HX2.out.1.rw.byt).mono ?_
  rintro e wb2 ⟨rfl, hb⟩
  have HBZ2 := Lib.hid (HBZm.out.trans (hb.mono HBZm.out.size))
  have HX3 : Hid (ZX wb b4 p a0 m d es ab 0 cb xb wb2 ∧ World.cell? wb2 ⟨bk, r8, none⟩ = some (.int .u8 v8)) := ⟨HX2.out.1.next hb, cell_kept hb HX2.out.2⟩
  clear hb
  clear hS
  refine hK.out _ _ (⟨HX3.out.1.cn.rng, HX3.out.2⟩) (fun hS => ?_)
  clear hK K
  try simp only [Act.put, List.setIfInBounds_toArray, List.set_cons_zero, List.set_cons_succ]
  refine tk 19 160 (.bool false) rfl rfl (by kernel_rfl) (by kernel_rfl) (by kernel_rfl) (fun _ _ _ h => h) (Or.inl ⟨by rfl, fun w' h' => ?_⟩) hS ?_
  · go_simp
  try simp only [Act.put, List.setIfInBounds_toArray, List.set_cons_zero, List.set_cons_succ]
  refine tk 20 161 (.bool false) rfl rfl (by kernel_rfl) (by kernel_rfl) (by kernel_rfl) (fun _ _ _ h => h) (Or.inl ⟨by rfl, fun w' h' => ?_⟩) hS ?_
  · go_simp
  try simp only [Act.put, List.setIfInBounds_toArray, List.set_cons_zero, List.set_cons_succ]
  refine tk 21 162 (.bool false) rfl rfl (by kernel_rfl) (by kernel_rfl) (by kernel_rfl) (fun _ _ _ h => h) (Or.inl ⟨by rfl, fun w' h' => ?_⟩) hS ?_
  · go_simp
  try simp only [Act.put, List.setIfInBounds_toArray, List.set_cons_zero, List.set_cons_succ]
  refine tk 22 163 (.int .u8 F) rfl rfl (by kernel_rfl) (by kernel_rfl) (by kernel_rfl) (fun _ _ _ h => h) (Or.inl ⟨by rfl, fun w' h' => ?_⟩) hS ?_
  · go_simp
  try simp only [Act.put, List.setIfInBounds_toArray, List.set_cons_zero, List.set_cons_succ]
  refine tk 23 164 (.slice ab 0 cb) rfl rfl (by kernel_rfl) (by kernel_rfl) (by kernel_rfl) (fun _ _ _ h => h) (Or.inl ⟨by rfl, fun w' h' => ?_⟩) hS ?_
  · go_simp
  try simp only [Act.put, List.setIfInBounds_toArray, List.set_cons_zero, List.set_cons_succ]
  refine tk 24 165 (.slice ab 0 cb) rfl rfl (by kernel_rfl) (by kernel_rfl) (by kernel_rfl) (fun _ _ _ h => h) (Or.inl ⟨by rfl, fun w' h' => ?_⟩) hS ?_
  · go_simp
  try simp only [Act.put, List.setIfInBounds_toArray, List.set_cons_zero, List.set_cons_succ]
  refine tk 25 166 (.int .i64 (0)) rfl rfl (by kernel_rfl) (by kernel_rfl) (by kernel_rfl) (fun _ _ _ h => h) (Or.inl ⟨by rfl, fun w' h' => ?_⟩) hS ?_
  · go_simp
  try simp only [Act.put, List.setIfInBounds_toArray, List.set_cons_zero, List.set_cons_succ]
  refine tk 26 167 (.int .i64 (n : Int)) rfl rfl (by kernel_rfl) (by kernel_rfl) (by kernel_rfl) (fun _ _ _ h => h) (Or.inl ⟨by rfl, fun w' h' => ?_⟩) hS ?_
  · go_simp
  try simp only [Act.put, List.setIfInBounds_toArray, List.set_cons_zero, List.set_cons_succ]
  refine tk 27 168 (.int .i64 (d2 : Int)) rfl rfl (by kernel_rfl) (by kernel_rfl) (by kernel_rfl) (fun _ _ _ h => h) (Or.inl ⟨by rfl, fun w' h' => ?_⟩) hS ?_
  · go_simp
  try simp only [Act.put, List.setIfInBounds_toArray, List.set_cons_zero, List.set_cons_succ]
  refine tk 28 169 (.slice ab 0 cb) rfl rfl (by kernel_rfl) (by kernel_rfl) (by kernel_rfl) (fun _ _ _ h => h) (Or.inl ⟨by rfl, fun w' h' => ?_⟩) hS ?_
  · go_simp
  try simp only [Act.put, List.setIfInBounds_toArray, List.set_cons_zero, List.set_cons_succ]
  refine tk 29 170 (.int .i64 (0)) rfl rfl (by kernel_rfl) (by kernel_rfl) (by kernel_rfl) (fun _ _ _ h => h) (Or.inl ⟨by rfl, fun w' h' => ?_⟩) hS ?_
  · go_simp
  try simp only [Act.put, List.setIfInBounds_toArray, List.set_cons_zero, List.set_cons_succ]
  refine tk 30 171 (.int .i64 0) rfl rfl (by kernel_rfl) (by kernel_rfl) (by kernel_rfl) (fun _ _ _ h => h) (Or.inl ⟨by rfl, fun w' h' => ?_⟩) hS ?_
  · go_simp
  try simp only [Act.put, List.setIfInBounds_toArray, List.set_cons_zero, List.set_cons_succ]
  refine tk 31 172 (.int .i64 0) rfl rfl (by kernel_rfl) (by kernel_rfl) (by kernel_rfl) (fun _ _ _ h => h) (Or.inl ⟨by rfl, fun w' h' => ?_⟩) hS ?_
  · go_simp
  try simp only [Act.put, List.setIfInBounds_toArray, List.set_cons_zero, List.set_cons_succ]
  refine tk 32 173 (.int .i64 0) rfl rfl (by kernel_rfl) (by kernel_rfl) (by kernel_rfl) (fun _ _ _ h => h) (Or.inl ⟨by rfl, fun w' h' => ?_⟩) hS ?_
  · go_simp
  try simp only [Act.put, List.setIfInBounds_toArray, List.set_cons_zero, List.set_cons_succ]
  refine tk 33 174 (.slice ab 0 cb) rfl rfl (by kernel_rfl) (by kernel_rfl) (by kernel_rfl) (fun _ _ _ h => h) (Or.inl ⟨by rfl, fun w' h' => ?_⟩) hS ?_
  · go_simp
  try simp only [Act.put, List.setIfInBounds_toArray, List.set_cons_zero, List.set_cons_succ]
  refine wpAnyH_ready (rs := [34]) (by kernel_rfl) (by simp) (AllReadyH.cons rfl (fun K hK => ?_) AllReadyH.nil)
  rw [if_pos (by rfl)]
  go_wp2_with fail
  refine (parses_any F ab 0 cb (xb.take 0) _ hF.1 hF.2 (HX3.out.1.rw.cut 0 he2).len (HX3.out.1.rw.cut 0 he2).cap (HX3.out.1.rw.cut 0 he2).rd (HX3.out.1.rw.cut 0 he2).byt).mono ?_
  rintro e wb3 ⟨rfl, hb⟩
  have HBZ3 := Lib.hid (HBZ2.out.trans (hb.mono HBZ2.out.size))
  have HX4 : Hid (ZX wb b4 p a0 m d es ab 0 cb xb wb3 ∧ World.cell? wb3 ⟨bk, r8, none⟩ = some (.int .u8 v8)) := ⟨HX3.out.1.next hb, cell_kept hb HX3.out.2⟩
  clear hb
  clear hS
  refine hK.out _ _ (⟨HX4.out.1.cn.rng, HX4.out.2⟩) (fun hS => ?_)
  clear hK K
  try simp only [Act.put, List.setIfInBounds_toArray, List.set_cons_zero, List.set_cons_succ]
  refine tk 35 176 (.bool false) rfl rfl (by kernel_rfl) (by kernel_rfl) (by kernel_rfl) (fun _ _ _ h => h) (Or.inl ⟨by rfl, fun w' h' => ?_⟩) hS ?_
  · go_simp
  try simp only [Act.put, List.setIfInBounds_toArray, List.set_cons_zero, List.set_cons_succ]
  refine tk 36 177 (.bool false) rfl rfl (by kernel_rfl) (by kernel_rfl) (by kernel_rfl) (fun _ _ _ h => h) (Or.inl ⟨by rfl, fun w' h' => ?_⟩) hS ?_
  · go_simp
  try simp only [Act.put, List.setIfInBounds_toArray, List.set_cons_zero, List.set_cons_succ]
  refine tk 37 178 (.bool false) rfl rfl (by kernel_rfl) (by kernel_rfl) (by kernel_rfl) (fun _ _ _ h => h) (Or.inl ⟨by rfl, fun w' h' => ?_⟩) hS ?_
  · go_simp
  try simp only [Act.put, List.setIfInBounds_toArray, List.set_cons_zero, List.set_cons_succ]
  refine tk 38 179 (.slice (some ⟨bk, 0, none⟩) 8 8) rfl rfl (by kernel_rfl) (by kernel_rfl) (by kernel_rfl) (fun _ _ _ h => h) (Or.inl ⟨by rfl, fun w' h' => ?_⟩) hS ?_
  · go_simp
  try simp only [Act.put, List.setIfInBounds_toArray, List.set_cons_zero, List.set_cons_succ]
  refine tk 39 180 (.int .i64 (n : Int)) rfl rfl (by kernel_rfl) (by kernel_rfl) (by kernel_rfl) (fun _ _ _ h => h) (Or.inl ⟨by rfl, fun w' h' => ?_⟩) hS ?_
  · go_simp
  try simp only [Act.put, List.setIfInBounds_toArray, List.set_cons_zero, List.set_cons_succ]
  refine tk 40 181 (.int .i64 (r8 : Int)) rfl rfl (by kernel_rfl) (by kernel_rfl) (by kernel_rfl) (fun _ _ _ h => h) (Or.inl ⟨by rfl, fun w' h' => ?_⟩) hS ?_
  · go_simp
  try simp only [Act.put, List.setIfInBounds_toArray, List.set_cons_zero, List.set_cons_succ]
  refine tk 41 182 (.pointer (some ⟨bk, r8, none⟩)) rfl rfl (by kernel_rfl) (by kernel_rfl) (by kernel_rfl) (fun _ _ _ h => h) (Or.inl ⟨by rfl, fun w' h' => ?_⟩) hS ?_
  · go_simp
  try simp only [Act.put, List.setIfInBounds_toArray, List.set_cons_zero, List.set_cons_succ]
  refine tk 42 183 (.int .u8 v8) rfl rfl (by kernel_rfl) (by kernel_rfl) (by kernel_rfl) (fun _ _ _ h => h) (Or.inl ⟨by rfl, fun w' h' => ?_⟩) hS ?_
  · have hc := h'.2
    go_simp
  try simp only [Act.put, List.setIfInBounds_toArray, List.set_cons_zero, List.set_cons_succ]
  refine tk 43 184 (.slice ab 0 cb) rfl rfl (by kernel_rfl) (by kernel_rfl) (by kernel_rfl) (fun _ _ _ h => h) (Or.inl ⟨by rfl, fun w' h' => ?_⟩) hS ?_
  · go_simp
  try simp only [Act.put, List.setIfInBounds_toArray, List.set_cons_zero, List.set_cons_succ]
  refine wpAnyH_ready (rs := [44]) (by kernel_rfl) (by simp) (AllReadyH.cons rfl (fun K hK => ?_) AllReadyH.nil)
  rw [if_pos (by rfl)]
  go_wp2_with fail
  refine (parses_any v8 ab 0 cb xb _ HV.out.1 HV.out.2 HX4.out.1.rw.len HX4.out.1.rw.cap HX4.out.1.rw.rd HX4.out.1.rw.byt).mono ?_
  rintro e wb4 ⟨rfl, hb⟩
  have HBZ4 := Lib.hid (HBZ3.out.trans (hb.mono HBZ3.out.size))
  have HX5 : Hid (ZX wb b4 p a0 m d es ab 0 cb xb wb4 ∧ World.cell? wb4 ⟨bk, r8, none⟩ = some (.int .u8 v8)) := ⟨HX4.out.1.next hb, cell_kept hb HX4.out.2⟩
  clear hb
  clear hS
  refine hK.out _ _ (⟨HX5.out.1.cn.rng, HX5.out.2⟩) (fun hS => ?_)
  clear hK K
  try simp only [Act.put, List.setIfInBounds_toArray, List.set_cons_zero, List.set_cons_succ]
  refine tk 45 186 (.bool false) rfl rfl (by kernel_rfl) (by kernel_rfl) (by kernel_rfl) (fun _ _ _ h => h) (Or.inl ⟨by rfl, fun w' h' => ?_⟩) hS ?_
  · go_simp
  try simp only [Act.put, List.setIfInBounds_toArray, List.set_cons_zero, List.set_cons_succ]
  refine tk 46 187 (.bool false) rfl rfl (by kernel_rfl) (by kernel_rfl) (by kernel_rfl) (fun _ _ _ h => h) (Or.inl ⟨by rfl, fun w' h' => ?_⟩) hS ?_
  · go_simp
  refine wpAnyH_done (by kernel_rfl) ?_ _
  go_wp2_with fail
  refine Met.intro (hJ0 _ _ ?_)
  exact ⟨⟨rfl, rfl⟩, rfl, rfl, rfl, rfl, HBZ4.out⟩

set_option maxRecDepth 100000 in
set_option maxHeartbeats 16000000 in
theorem u24b (w0 wb wx : World) (bk n i b4 : Nat) (p F : Int) (hp : 0 ≤ p ∧ p < 256) (hF : 0 ≤ F ∧ F < 256) (hn : n < 100003) (a0 ab : Option Addr) (m d cb : Nat) (es : List Ex) (xb : List Int) (HC : Hid (∀ r, r < 8 → w0.cell? ⟨bk, r, none⟩ = some (.int .u8 (kinds8.getD r 0)))) (HB : Hid (Below w0.heap.size w0 wx)) (HX : Hid (ZX wb b4 p a0 m d es ab 1 cb xb wx)) (a : Act) (hf : Fr 266 a) (h1 : sl a 1 = .slice (some ⟨bk, 0, none⟩) 8 8) (h2 : sl a 2 = .int .i64 (n : Int)) (h3 : sl a 3 = .int .i64 (i : Int)) (h4 : sl a 4 = .pointer (some ⟨b4, 0, none⟩)) (h8 : sl a 8 = .slice ab 1 cb) (h9 : sl a 9 = .int .u8 F) :
    Code.wp Try.prog (cAt [1,1,1,0,1,2,2,1,0,2,1,1,1,1,1,0] KC) (Exit.then (fun a' w' => Fr 266 a' ∧ sl a' 1 = .slice (some ⟨bk, 0, none⟩) 8 8 ∧ sl a' 2 = .int .i64 (n : Int) ∧ sl a' 3 = .int .i64 (i : Int) ∧ sl a' 187 = .bool false ∧ Below wx.heap.size wx w') Nope) a wx := by
  obtain ⟨f, ha, hs⟩ := fr266 hf
  have e1 := (hs 1).trans h1
  have e2 := (hs 2).trans h2
  have e3 := (hs 3).trans h3
  have e4 := (hs 4).trans h4
  have e8 := (hs 8).trans h8
  have e9 := (hs 9).trans h9
  rw [e1, e2, e3, e4, e8, e9] at ha
  clear hs hf e1 h1 e2 h2 e3 h3 e4 h4 e8 h8 e9 h9
  subst ha
  refine piece2 fun J0 K0 hJ0 hK0 => ?_
  conv => arg 2; whnf
  obtain ⟨r20, hr20⟩ := Int.eq_ofNat_of_zero_le (show 0 ≤ (n : Int) % 20 by omega)
  have hr20b : r20 < 20 := by omega
  obtain ⟨r8, hr8⟩ := Int.eq_ofNat_of_zero_le (show 0 ≤ (n : Int) % 8 by omega)
  have hr8b : r8 < 8 := by omega
  obtain ⟨d2, hd2⟩ := Int.eq_ofNat_of_zero_le (show 0 ≤ (n : Int) % 2 by omega)
  have hd2b : d2 < 2 := by omega
  have hc8 := cell_kept HB.out (HC.out r8 hr8b)
  obtain ⟨v8, hv8⟩ : ∃ x, kinds8.getD r8 0 = x := ⟨_, rfl⟩
  have hv80 := kinds8_get r8
  rw [hv8] at hc8 hv80
  have HV := Lib.hid hv80
  obtain ⟨eL, he⟩ : ∃ e : Nat, 1 - d2 = e := ⟨_, rfl⟩
  have he2 : eL ≤ 1 := by omega
  have hcap := HX.out.rw.cap
  have hmax := HX.out.rw.max
  unfold maxLen at hmax
  have i1 : (n : Int).tmod 20 = (r20 : Int) := by rw [Int.tmod_eq_emod_of_nonneg (by omega)]; exact hr20
  have i2 : (n : Int).tmod 8 = (r8 : Int) := by rw [Int.tmod_eq_emod_of_nonneg (by omega)]; exact hr8
  have i3 : (n : Int).tmod 2 = (d2 : Int) := by rw [Int.tmod_eq_emod_of_nonneg (by omega)]; exact hd2
  have i4 : IntKind.i64.wrap (r20 : Int) = (r20 : Int) := IntWalk.i64_in _ (by omega)
  have i5 : IntKind.i64.wrap (r8 : Int) = (r8 : Int) := IntWalk.i64_in _ (by omega)
  have i6 : IntKind.i64.wrap (d2 : Int) = (d2 : Int) := IntWalk.i64_in _ (by omega)
  have i7 : IntKind.i64.wrap (eL : Int) = (eL : Int) := IntWalk.i64_in _ (by omega)
  have i8 : IntKind.u8.wrap (n : Int) = (n : Int) % 256 := by rw [IntKind.wrap_u8]
  have i9 : IntKind.u32.wrap (n : Int) = (n : Int) := by rw [IntKind.wrap_u32]; omega
  have i10 : (eL : Int) ≤ (cb : Int) := by omega
  have i11 : (r8 : Int) < 8 := by omega
  have i12 : 1 - (d2 : Int) = (eL : Int) := by omega
  clear hr20 hr8 hd2 hv8 hv80 he
  have HBX : Hid (∀ w', Below wx.drew.heap.size wx.drew w' → Below wx.heap.size wx w') := fun w' h => ⟨h.os, h.tape, h.output, h.size, h.block⟩
  have hs0 : World.rangeAt wx b4 0 [Value.slice a0 m d, .int .u8 p] ∧ World.cell? wx ⟨bk, r8, none⟩ = some (.int .u8 v8) := ⟨HX.out.cn.rng, hc8⟩
  refine wp_region_held_drew (S := fun w' => World.rangeAt w' b4 0 [Value.slice a0 m d, .int .u8 p] ∧ World.cell? w' ⟨bk, r8, none⟩ = some (.int .u8 v8)) (by kernel_rfl) hs0 (fun hS => ?_)
  have HX0 : Hid (ZX wb b4 p a0 m d es ab 1 cb xb wx.drew ∧ World.cell? wx.drew ⟨bk, r8, none⟩ = some (.int .u8 v8)) := ⟨HX.out.next (Below.refl _ _).drew, hs0.2⟩
  clear hs0
  refine tk 0 141 (.agg ([Value.slice a0 m d, .int .u8 p]).toArray) rfl rfl (by kernel_rfl) (by kernel_rfl) (by kernel_rfl) (fun _ _ _ h => h) (yieldsIf_load_mid (by rfl) _ _ rfl (b4) (0) rfl ([Value.slice a0 m d, .int .u8 p]) _ (fun w' h' => h'.1) Try.underlying46 rfl (infC2)) hS ?_
  try simp only [Act.put, List.setIfInBounds_toArray, List.set_cons_zero, List.set_cons_succ]
  refine tk 1 142 (.pointer (some ⟨b4, 0, none⟩)) rfl rfl (by kernel_rfl) (by kernel_rfl) (by kernel_rfl) (fun _ _ _ h => h) (Or.inl ⟨by rfl, fun w' h' => ?_⟩) hS ?_
  · go_simp
  try simp only [Act.put, List.setIfInBounds_toArray, List.set_cons_zero, List.set_cons_succ]
  refine tk 2 143 (.slice a0 m d) rfl rfl (by kernel_rfl) (by kernel_rfl) (by kernel_rfl) (fun _ _ _ h => h) (Or.inl ⟨by rfl, fun w' h' => ?_⟩) hS ?_
  · have hc := range_cell h'.1 (j := 0) rfl
    go_simp
  try simp only [Act.put, List.setIfInBounds_toArray, List.set_cons_zero, List.set_cons_succ]
  refine tk 3 144 (.agg #[.slice a0 m d, .int .u8 6]) rfl rfl (by kernel_rfl) (by kernel_rfl) (by kernel_rfl) (fun _ _ _ h => h) (yields_build (by rfl) _ _ rfl ?_) hS ?_
  · exact builtC _ _ _
  try simp only [Act.put, List.setIfInBounds_toArray, List.set_cons_zero, List.set_cons_succ]
  refine wpAnyH_ready (rs := [4]) (by kernel_rfl) (by simp) (AllReadyH.cons rfl (fun K hK => ?_) AllReadyH.nil)
  rw [if_pos (by rfl)]
  go_wp2_with fail
  refine (chains_any a0 a0 m d m d es es p 6 _ HX0.out.1.cn.ch.any HX0.out.1.cn.ch.any hp.1 hp.2 (by decide) (by decide)).mono ?_
  rintro e wb0 ⟨rfl, hb⟩
  have HBZ0 := Lib.hid (HBX.out _ hb)
  have HX1 : Hid (ZX wb b4 p a0 m d es ab 1 cb xb wb0 ∧ World.cell? wb0 ⟨bk, r8, none⟩ = some (.int .u8 v8)) := ⟨HX0.out.1.next hb, cell_kept hb HX0.out.2⟩
  clear hb
  clear hS
  refine hK.out _ _ (⟨HX1.out.1.cn.rng, HX1.out.2⟩) (fun hS => ?_)
  clear hK K
  try simp only [Act.put, List.setIfInBounds_toArray, List.set_cons_zero, List.set_cons_succ]
  refine tk 5 146 (.bool false) rfl rfl (by kernel_rfl) (by kernel_rfl) (by kernel_rfl) (fun _ _ _ h => h) (Or.inl ⟨by rfl, fun w' h' => ?_⟩) hS ?_
  · go_simp
  try simp only [Act.put, List.setIfInBounds_toArray, List.set_cons_zero, List.set_cons_succ]
  refine tk 6 147 (.bool false) rfl rfl (by kernel_rfl) (by kernel_rfl) (by kernel_rfl) (fun _ _ _ h => h) (Or.inl ⟨by rfl, fun w' h' => ?_⟩) hS ?_
  · go_simp
  try simp only [Act.put, List.setIfInBounds_toArray, List.set_cons_zero, List.set_cons_succ]
  refine tk 7 148 (.int .i64 (n : Int)) rfl rfl (by kernel_rfl) (by kernel_rfl) (by kernel_rfl) (fun _ _ _ h => h) (Or.inl ⟨by rfl, fun w' h' => ?_⟩) hS ?_
  · go_simp
  try simp only [Act.put, List.setIfInBounds_toArray, List.set_cons_zero, List.set_cons_succ]
  refine tk 8 149 (.int .u8 ((n : Int) % 256)) rfl rfl (by kernel_rfl) (by kernel_rfl) (by kernel_rfl) (fun _ _ _ h => h) (Or.inl ⟨by rfl, fun w' h' => ?_⟩) hS ?_
  · go_simp
  try simp only [Act.put, List.setIfInBounds_toArray, List.set_cons_zero, List.set_cons_succ]
  refine tk 9 150 (.int .i64 (n : Int)) rfl rfl (by kernel_rfl) (by kernel_rfl) (by kernel_rfl) (fun _ _ _ h => h) (Or.inl ⟨by rfl, fun w' h' => ?_⟩) hS ?_
  · go_simp
  try simp only [Act.put, List.setIfInBounds_toArray, List.set_cons_zero, List.set_cons_succ]
  refine tk 10 151 (.int .u32 (n : Int)) rfl rfl (by kernel_rfl) (by kernel_rfl) (by kernel_rfl) (fun _ _ _ h => h) (Or.inl ⟨by rfl, fun w' h' => ?_⟩) hS ?_
  · go_simp
  try simp only [Act.put, List.setIfInBounds_toArray, List.set_cons_zero, List.set_cons_succ]
  refine tk 11 152 (.agg (hA n).cs.toArray) rfl rfl (by kernel_rfl) (by kernel_rfl) (by kernel_rfl) (fun _ _ _ h => h) (yields_build (by rfl) _ _ rfl ?_) hS ?_
  · exact builtA n
  try simp only [Act.put, List.setIfInBounds_toArray, List.set_cons_zero, List.set_cons_succ]
  refine tk 12 153 (.agg ([Value.slice a0 m d, .int .u8 p]).toArray) rfl rfl (by kernel_rfl) (by kernel_rfl) (by kernel_rfl) (fun _ _ _ h => h) (yieldsIf_load_mid (by rfl) _ _ rfl (b4) (0) rfl ([Value.slice a0 m d, .int .u8 p]) _ (fun w' h' => h'.1) Try.underlying46 rfl (infC2)) hS ?_
  try simp only [Act.put, List.setIfInBounds_toArray, List.set_cons_zero, List.set_cons_succ]
  refine tk 13 154 (.int .i64 (n : Int)) rfl rfl (by kernel_rfl) (by kernel_rfl) (by kernel_rfl) (fun _ _ _ h => h) (Or.inl ⟨by rfl, fun w' h' => ?_⟩) hS ?_
  · go_simp
  try simp only [Act.put, List.setIfInBounds_toArray, List.set_cons_zero, List.set_cons_succ]
  refine tk 14 155 (.int .i64 (r20 : Int)) rfl rfl (by kernel_rfl) (by kernel_rfl) (by kernel_rfl) (fun _ _ _ h => h) (Or.inl ⟨by rfl, fun w' h' => ?_⟩) hS ?_
  · go_simp
  try simp only [Act.put, List.setIfInBounds_toArray, List.set_cons_zero, List.set_cons_succ]
  refine tk 16 157 (.int .u8 F) rfl rfl (by kernel_rfl) (by kernel_rfl) (by kernel_rfl) (fun _ _ _ h => h) (Or.inl ⟨by rfl, fun w' h' => ?_⟩) hS ?_
  · go_simp
  try simp only [Act.put, List.setIfInBounds_toArray, List.set_cons_zero, List.set_cons_succ]
  refine tk 17 158 (.slice ab 1 cb) rfl rfl (by kernel_rfl) (by kernel_rfl) (by kernel_rfl) (fun _ _ _ h => h) (Or.inl ⟨by rfl, fun w' h' => ?_⟩) hS ?_
  · go_simp
  try simp only [Act.put, List.setIfInBounds_toArray, List.set_cons_zero, List.set_cons_succ]
  refine wpAnyH_ready (rs := [15]) (by kernel_rfl) (by simp) (AllReadyH.cons rfl (fun K hK => ?_) AllReadyH.nil)
  rw [if_pos (by rfl)]
  obtain ⟨wm, hmk, hm, hbm⟩ := mk_nz wb0 r20 (by omega)
  have HM := Lib.hid (RwB.of hm (nz_byt r20))
  have HBZm := Lib.hid (HBZ0.out.trans (hbm.mono HBZ0.out.size))
  have HX2 : Hid (ZX wb b4 p a0 m d es ab 1 cb xb wm ∧ World.cell? wm ⟨bk, r8, none⟩ = some (.int .u8 v8)) := ⟨HX1.out.1.next hbm, cell_kept hbm HX1.out.2⟩
  go_wp2_with fail
  clear hmk hm hbm
  clear hS
  refine hK.out _ _ (⟨HX2.out.1.cn.rng, HX2.out.2⟩) (fun hS => ?_)
  clear hK K
  try simp only [Act.put, List.setIfInBounds_toArray, List.set_cons_zero, List.set_cons_succ]
  refine wpAnyH_ready (rs := [18]) (by kernel_rfl) (by simp) (AllReadyH.cons rfl (fun K hK => ?_) AllReadyH.nil)
  rw [if_pos (by rfl)]
  go_wp2_with fail
  refine (back_any (hA n) a0 m d es p (some ⟨wb0.heap.size, 0, none⟩) r20 r20 (nz r20) F ab 1 cb xb _ (hA_ok n hn) HX2.out.1.cn.ch.any hp.1 hp.2 HM.out.len HM.out.rd HM.out.byt hF.1 hF.2 HX2.out.1.rw.len HX2.out.1.rw.cap HX2.out.1.rw.rd HX2.out.1.rw.byt).mono ?_
  rintro e wb2 ⟨rfl, hb⟩
  have HBZ2 := Lib.hid (HBZm.out.trans (hb.mono HBZm.out.size))
  have HX3 : Hid (ZX wb b4 p a0 m d es ab 1 cb xb wb2 ∧ World.cell? wb2 ⟨bk, r8, none⟩ = some (.int .u8 v8)) := ⟨HX2.out.1.next hb, cell_kept hb HX2.out.2⟩
  clear hb
  clear hS
  refine hK.out _ _ (⟨HX3.out.1.cn.rng, HX3.out.2⟩) (fun hS => ?_)
  clear hK K
  try simp only [Act.put, List.setIfInBounds_toArray, List.set_cons_zero, List.set_cons_succ]
  refine tk 19 160 (.bool false) rfl rfl (by kernel_rfl) (by kernel_rfl) (by kernel_rfl) (fun _ _ _ h => h) (Or.inl ⟨by rfl, fun w' h' => ?_⟩) hS ?_
  · go_simp
  try simp only [Act.put, List.setIfInBounds_toArray, List.set_cons_zero, List.set_cons_succ]
  refine tk 20 161 (.bool false) rfl rfl (by kernel_rfl) (by kernel_rfl) (by kernel_rfl) (fun _ _ _ h => h) (Or.inl ⟨by rfl, fun w' h' => ?_⟩) hS ?_
  · go_simp
  try simp only [Act.put, List.setIfInBounds_toArray, List.set_cons_zero, List.set_cons_succ]
  refine tk 21 162 (.bool false) rfl rfl (by kernel_rfl) (by kernel_rfl) (by kernel_rfl) (fun _ _ _ h => h) (Or.inl ⟨by rfl, fun w' h' => ?_⟩) hS ?_
  · go_simp
  try simp only [Act.put, List.setIfInBounds_toArray, List.set_cons_zero, List.set_cons_succ]
  refine tk 22 163 (.int .u8 F) rfl rfl (by kernel_rfl) (by kernel_rfl) (by kernel_rfl) (fun _ _ _ h => h) (Or.inl ⟨by rfl, fun w' h' => ?_⟩) hS ?_
  · go_simp
  try simp only [Act.put, List.setIfInBounds_toArray, List.set_cons_zero, List.set_cons_succ]
  refine tk 23 164 (.slice ab 1 cb) rfl rfl (by kernel_rfl) (by kernel_rfl) (by kernel_rfl) (fun _ _ _ h => h) (Or.inl ⟨by rfl, fun w' h' => ?_⟩) hS ?_
  · go_simp
  try simp only [Act.put, List.setIfInBounds_toArray, List.set_cons_zero, List.set_cons_succ]
  refine tk 24 165 (.slice ab 1 cb) rfl rfl (by kernel_rfl) (by kernel_rfl) (by kernel_rfl) (fun _ _ _ h => h) (Or.inl ⟨by rfl, fun w' h' => ?_⟩) hS ?_
  · go_simp
  try simp only [Act.put, List.setIfInBounds_toArray, List.set_cons_zero, List.set_cons_succ]
  refine tk 25 166 (.int .i64 (1)) rfl rfl (by kernel_rfl) (by kernel_rfl) (by kernel_rfl) (fun _ _ _ h => h) (Or.inl ⟨by rfl, fun w' h' => ?_⟩) hS ?_
  · go_simp
  try simp only [Act.put, List.setIfInBounds_toArray, List.set_cons_zero, List.set_cons_succ]
  refine tk 26 167 (.int .i64 (n : Int)) rfl rfl (by kernel_rfl) (by kernel_rfl) (by kernel_rfl) (fun _ _ _ h => h) (Or.inl ⟨by rfl, fun w' h' => ?_⟩) hS ?_
  · go_simp
  try simp only [Act.put, List.setIfInBounds_toArray, List.set_cons_zero, List.set_cons_succ]
  refine tk 27 168 (.int .i64 (d2 : Int)) rfl rfl (by kernel_rfl) (by kernel_rfl) (by kernel_rfl) (fun _ _ _ h => h) (Or.inl ⟨by rfl, fun w' h' => ?_⟩) hS ?_
  · go_simp
  try simp only [Act.put, List.setIfInBounds_toArray, List.set_cons_zero, List.set_cons_succ]
  refine tk 28 169 (.slice ab 1 cb) rfl rfl (by kernel_rfl) (by kernel_rfl) (by kernel_rfl) (fun _ _ _ h => h) (Or.inl ⟨by rfl, fun w' h' => ?_⟩) hS ?_
  · go_simp
  try simp only [Act.put, List.setIfInBounds_toArray, List.set_cons_zero, List.set_cons_succ]
  refine tk 29 170 (.int .i64 (1)) rfl rfl (by kernel_rfl) (by kernel_rfl) (by kernel_rfl) (fun _ _ _ h => h) (Or.inl ⟨by rfl, fun w' h' => ?_⟩) hS ?_
  · go_simp
  try simp only [Act.put, List.setIfInBounds_toArray, List.set_cons_zero, List.set_cons_succ]
  refine tk 30 171 (.int .i64 1) rfl rfl (by kernel_rfl) (by kernel_rfl) (by kernel_rfl) (fun _ _ _ h => h) (Or.inl ⟨by rfl, fun w' h' => ?_⟩) hS ?_
  · go_simp
  try simp only [Act.put, List.setIfInBounds_toArray, List.set_cons_zero, List.set_cons_succ]
  refine tk 31 172 (.int .i64 (d2 : Int)) rfl rfl (by kernel_rfl) (by kernel_rfl) (by kernel_rfl) (fun _ _ _ h => h) (Or.inl ⟨by rfl, fun w' h' => ?_⟩) hS ?_
  · go_simp
  try simp only [Act.put, List.setIfInBounds_toArray, List.set_cons_zero, List.set_cons_succ]
  refine tk 32 173 (.int .i64 (eL : Int)) rfl rfl (by kernel_rfl) (by kernel_rfl) (by kernel_rfl) (fun _ _ _ h => h) (Or.inl ⟨by rfl, fun w' h' => ?_⟩) hS ?_
  · go_simp
  try simp only [Act.put, List.setIfInBounds_toArray, List.set_cons_zero, List.set_cons_succ]
  refine tk 33 174 (.slice ab eL cb) rfl rfl (by kernel_rfl) (by kernel_rfl) (by kernel_rfl) (fun _ _ _ h => h) (Or.inl ⟨by rfl, fun w' h' => ?_⟩) hS ?_
  · go_simp
  try simp only [Act.put, List.setIfInBounds_toArray, List.set_cons_zero, List.set_cons_succ]
  refine wpAnyH_ready (rs := [34]) (by kernel_rfl) (by simp) (AllReadyH.cons rfl (fun K hK => ?_) AllReadyH.nil)
  rw [if_pos (by rfl)]
  go_wp2_with fail
  refine (parses_any F ab eL cb (xb.take eL) _ hF.1 hF.2 (HX3.out.1.rw.cut eL he2).len (HX3.out.1.rw.cut eL he2).cap (HX3.out.1.rw.cut eL he2).rd (HX3.out.1.rw.cut eL he2).byt).mono ?_
  rintro e wb3 ⟨rfl, hb⟩
  have HBZ3 := Lib.hid (HBZ2.out.trans (hb.mono HBZ2.out.size))
  have HX4 : Hid (ZX wb b4 p a0 m d es ab 1 cb xb wb3 ∧ World.cell? wb3 ⟨bk, r8, none⟩ = some (.int .u8 v8)) := ⟨HX3.out.1.next hb, cell_kept hb HX3.out.2⟩
  clear hb
  clear hS
  refine hK.out _ _ (⟨HX4.out.1.cn.rng, HX4.out.2⟩) (fun hS => ?_)
  clear hK K
  try simp only [Act.put, List.setIfInBounds_toArray, List.set_cons_zero, List.set_cons_succ]
  refine tk 35 176 (.bool false) rfl rfl (by kernel_rfl) (by kernel_rfl) (by kernel_rfl) (fun _ _ _ h => h) (Or.inl ⟨by rfl, fun w' h' => ?_⟩) hS ?_
  · go_simp
  try simp only [Act.put, List.setIfInBounds_toArray, List.set_cons_zero, List.set_cons_succ]
  refine tk 36 177 (.bool false) rfl rfl (by kernel_rfl) (by kernel_rfl) (by kernel_rfl) (fun _ _ _ h => h) (Or.inl ⟨by rfl, fun w' h' => ?_⟩) hS ?_
  · go_simp
  try simp only [Act.put, List.setIfInBounds_toArray, List.set_cons_zero, List.set_cons_succ]
  refine tk 37 178 (.bool false) rfl rfl (by kernel_rfl) (by kernel_rfl) (by kernel_rfl) (fun _ _ _ h => h) (Or.inl ⟨by rfl, fun w' h' => ?_⟩) hS ?_
  · go_simp
  try simp only [Act.put, List.setIfInBounds_toArray, List.set_cons_zero, List.set_cons_succ]
  refine tk 38 179 (.slice (some ⟨bk, 0, none⟩) 8 8) rfl rfl (by kernel_rfl) (by kernel_rfl) (by kernel_rfl) (fun _ _ _ h => h) (Or.inl ⟨by rfl, fun w' h' => ?_⟩) hS ?_
  · go_simp
  try simp only [Act.put, List.setIfInBounds_toArray, List.set_cons_zero, List.set_cons_succ]
  refine tk 39 180 (.int .i64 (n : Int)) rfl rfl (by kernel_rfl) (by kernel_rfl) (by kernel_rfl) (fun _ _ _ h => h) (Or.inl ⟨by rfl, fun w' h' => ?_⟩) hS ?_
  · go_simp
  try simp only [Act.put, List.setIfInBounds_toArray, List.set_cons_zero, List.set_cons_succ]
  refine tk 40 181 (.int .i64 (r8 : Int)) rfl rfl (by kernel_rfl) (by kernel_rfl) (by kernel_rfl) (fun _ _ _ h => h) (Or.inl ⟨by rfl, fun w' h' => ?_⟩) hS ?_
  · go_simp
  try simp only [Act.put, List.setIfInBounds_toArray, List.set_cons_zero, List.set_cons_succ]
  refine tk 41 182 (.pointer (some ⟨bk, r8, none⟩)) rfl rfl (by kernel_rfl) (by kernel_rfl) (by kernel_rfl) (fun _ _ _ h => h) (Or.inl ⟨by rfl, fun w' h' => ?_⟩) hS ?_
  · go_simp
  try simp only [Act.put, List.setIfInBounds_toArray, List.set_cons_zero, List.set_cons_succ]
  refine tk 42 183 (.int .u8 v8) rfl rfl (by kernel_rfl) (by kernel_rfl) (by kernel_rfl) (fun _ _ _ h => h) (Or.inl ⟨by rfl, fun w' h' => ?_⟩) hS ?_
  · have hc := h'.2
    go_simp
  try simp only [Act.put, List.setIfInBounds_toArray, List.set_cons_zero, List.set_cons_succ]
  refine tk 43 184 (.slice ab 1 cb) rfl rfl (by kernel_rfl) (by kernel_rfl) (by kernel_rfl) (fun _ _ _ h => h) (Or.inl ⟨by rfl, fun w' h' => ?_⟩) hS ?_
  · go_simp
  try simp only [Act.put, List.setIfInBounds_toArray, List.set_cons_zero, List.set_cons_succ]
  refine wpAnyH_ready (rs := [44]) (by kernel_rfl) (by simp) (AllReadyH.cons rfl (fun K hK => ?_) AllReadyH.nil)
  rw [if_pos (by rfl)]
  go_wp2_with fail
  refine (parses_any v8 ab 1 cb xb _ HV.out.1 HV.out.2 HX4.out.1.rw.len HX4.out.1.rw.cap HX4.out.1.rw.rd HX4.out.1.rw.byt).mono ?_
  rintro e wb4 ⟨rfl, hb⟩
  have HBZ4 := Lib.hid (HBZ3.out.trans (hb.mono HBZ3.out.size))
  have HX5 : Hid (ZX wb b4 p a0 m d es ab 1 cb xb wb4 ∧ World.cell? wb4 ⟨bk, r8, none⟩ = some (.int .u8 v8)) := ⟨HX4.out.1.next hb, cell_kept hb HX4.out.2⟩
  clear hb
  clear hS
  refine hK.out _ _ (⟨HX5.out.1.cn.rng, HX5.out.2⟩) (fun hS => ?_)
  clear hK K
  try simp only [Act.put, List.setIfInBounds_toArray, List.set_cons_zero, List.set_cons_succ]
  refine tk 45 186 (.bool false) rfl rfl (by kernel_rfl) (by kernel_rfl) (by kernel_rfl) (fun _ _ _ h => h) (Or.inl ⟨by rfl, fun w' h' => ?_⟩) hS ?_
  · go_simp
  try simp only [Act.put, List.setIfInBounds_toArray, List.set_cons_zero, List.set_cons_succ]
  refine tk 46 187 (.bool false) rfl rfl (by kernel_rfl) (by kernel_rfl) (by kernel_rfl) (fun _ _ _ h => h) (Or.inl ⟨by rfl, fun w' h' => ?_⟩) hS ?_
  · go_simp
  refine wpAnyH_done (by kernel_rfl) ?_ _
  go_wp2_with fail
  refine Met.intro (hJ0 _ _ ?_)
  exact ⟨⟨rfl, rfl⟩, rfl, rfl, rfl, rfl, HBZ4.out⟩

set_option maxRecDepth 100000 in
set_option maxHeartbeats 16000000 in
theorem u24c (w0 wb wx : World) (bk n i b4 : Nat) (p F : Int) (hp : 0 ≤ p ∧ p < 256) (hF : 0 ≤ F ∧ F < 256) (hn : n < 100003) (a0 ab : Option Addr) (m d nb cb : Nat) (es : List Ex) (xb : List Int) (HC : Hid (∀ r, r < 8 → w0.cell? ⟨bk, r, none⟩ = some (.int .u8 (kinds8.getD r 0)))) (HB : Hid (Below w0.heap.size w0 wx)) (HX : Hid (ZX wb b4 p a0 m d es ab nb cb xb wx)) (hnb : 1 < nb) (a : Act) (hf : Fr 266 a) (h1 : sl a 1 = .slice (some ⟨bk, 0, none⟩) 8 8) (h2 : sl a 2 = .int .i64 (n : Int)) (h3 : sl a 3 = .int .i64 (i : Int)) (h4 : sl a 4 = .pointer (some ⟨b4, 0, none⟩)) (h8 : sl a 8 = .slice ab nb cb) (h9 : sl a 9 = .int .u8 F) :
    Code.wp Try.prog (cAt [1,1,1,0,1,2,2,1,0,2,1,1,1,1,1,0] KC) (Exit.then (fun a' w' => Fr 266 a' ∧ sl a' 1 = .slice (some ⟨bk, 0, none⟩) 8 8 ∧ sl a' 2 = .int .i64 (n : Int) ∧ sl a' 3 = .int .i64 (i : Int) ∧ sl a' 187 = .bool false ∧ Below wx.heap.size wx w') Nope) a wx := by
  obtain ⟨f, ha, hs⟩ := fr266 hf
  have e1 := (hs 1).trans h1
  have e2 := (hs 2).trans h2
  have e3 := (hs 3).trans h3
  have e4 := (hs 4).trans h4
  have e8 := (hs 8).trans h8
  have e9 := (hs 9).trans h9
  rw [e1, e2, e3, e4, e8, e9] at ha
  clear hs hf e1 h1 e2 h2 e3 h3 e4 h4 e8 h8 e9 h9
  subst ha
  refine piece2 fun J0 K0 hJ0 hK0 => ?_
  conv => arg 2; whnf
  obtain ⟨r20, hr20⟩ := Int.eq_ofNat_of_zero_le (show 0 ≤ (n : Int) % 20 by omega)
  have hr20b : r20 < 20 := by omega
  obtain ⟨r8, hr8⟩ := Int.eq_ofNat_of_zero_le (show 0 ≤ (n : Int) % 8 by omega)
  have hr8b : r8 < 8 := by omega
  obtain ⟨d2, hd2⟩ := Int.eq_ofNat_of_zero_le (show 0 ≤ (n : Int) % 2 by omega)
  have hd2b : d2 < 2 := by omega
  have hc8 := cell_kept HB.out (HC.out r8 hr8b)
  obtain ⟨v8, hv8⟩ : ∃ x, kinds8.getD r8 0 = x := ⟨_, rfl⟩
  have hv80 := kinds8_get r8
  rw [hv8] at hc8 hv80
  have HV := Lib.hid hv80
  obtain ⟨eL, he⟩ : ∃ e : Nat, nb - d2 = e := ⟨_, rfl⟩
  have he2 : eL ≤ nb := by omega
  have hcap := HX.out.rw.cap
  have hmax := HX.out.rw.max
  unfold maxLen at hmax
  have i1 : (n : Int).tmod 20 = (r20 : Int) := by rw [Int.tmod_eq_emod_of_nonneg (by omega)]; exact hr20
  have i2 : (n : Int).tmod 8 = (r8 : Int) := by rw [Int.tmod_eq_emod_of_nonneg (by omega)]; exact hr8
  have i3 : (n : Int).tmod 2 = (d2 : Int) := by rw [Int.tmod_eq_emod_of_nonneg (by omega)]; exact hd2
  have i4 : IntKind.i64.wrap (r20 : Int) = (r20 : Int) := IntWalk.i64_in _ (by omega)
  have i5 : IntKind.i64.wrap (r8 : Int) = (r8 : Int) := IntWalk.i64_in _ (by omega)
  have i6 : IntKind.i64.wrap (d2 : Int) = (d2 : Int) := IntWalk.i64_in _ (by omega)
  have i7 : IntKind.i64.wrap (eL : Int) = (eL : Int) := IntWalk.i64_in _ (by omega)
  have i8 : IntKind.u8.wrap (n : Int) = (n : Int) % 256 := by rw [IntKind.wrap_u8]
  have i9 : IntKind.u32.wrap (n : Int) = (n : Int) := by rw [IntKind.wrap_u32]; omega
  have i10 : (eL : Int) ≤ (cb : Int) := by omega
  have i11 : (r8 : Int) < 8 := by omega
  have i12 : (nb : Int) - (d2 : Int) = (eL : Int) := by omega
  have i13 : (1 : Int) < (nb : Int) := by omega
  clear hr20 hr8 hd2 hv8 hv80 he
  have HBX : Hid (∀ w', Below wx.drew.heap.size wx.drew w' → Below wx.heap.size wx w') := fun w' h => ⟨h.os, h.tape, h.output, h.size, h.block⟩
  have hs0 : World.rangeAt wx b4 0 [Value.slice a0 m d, .int .u8 p] ∧ World.cell? wx ⟨bk, r8, none⟩ = some (.int .u8 v8) := ⟨HX.out.cn.rng, hc8⟩
  refine wp_region_held_drew (S := fun w' => World.rangeAt w' b4 0 [Value.slice a0 m d, .int .u8 p] ∧ World.cell? w' ⟨bk, r8, none⟩ = some (.int .u8 v8)) (by kernel_rfl) hs0 (fun hS => ?_)
  have HX0 : Hid (ZX wb b4 p a0 m d es ab nb cb xb wx.drew ∧ World.cell? wx.drew ⟨bk, r8, none⟩ = some (.int .u8 v8)) := ⟨HX.out.next (Below.refl _ _).drew, hs0.2⟩
  clear hs0
  refine tk 0 141 (.agg ([Value.slice a0 m d, .int .u8 p]).toArray) rfl rfl (by kernel_rfl) (by kernel_rfl) (by kernel_rfl) (fun _ _ _ h => h) (yieldsIf_load_mid (by rfl) _ _ rfl (b4) (0) rfl ([Value.slice a0 m d, .int .u8 p]) _ (fun w' h' => h'.1) Try.underlying46 rfl (infC2)) hS ?_
  try simp only [Act.put, List.setIfInBounds_toArray, List.set_cons_zero, List.set_cons_succ]
  refine tk 1 142 (.pointer (some ⟨b4, 0, none⟩)) rfl rfl (by kernel_rfl) (by kernel_rfl) (by kernel_rfl) (fun _ _ _ h => h) (Or.inl ⟨by rfl, fun w' h' => ?_⟩) hS ?_
  · go_simp
  try simp only [Act.put, List.setIfInBounds_toArray, List.set_cons_zero, List.set_cons_succ]
  refine tk 2 143 (.slice a0 m d) rfl rfl (by kernel_rfl) (by kernel_rfl) (by kernel_rfl) (fun _ _ _ h => h) (Or.inl ⟨by rfl, fun w' h' => ?_⟩) hS ?_
  · have hc := range_cell h'.1 (j := 0) rfl
    go_simp
  try simp only [Act.put, List.setIfInBounds_toArray, List.set_cons_zero, List.set_cons_succ]
  refine tk 3 144 (.agg #[.slice a0 m d, .int .u8 6]) rfl rfl (by kernel_rfl) (by kernel_rfl) (by kernel_rfl) (fun _ _ _ h => h) (yields_build (by rfl) _ _ rfl ?_) hS ?_
  · exact builtC _ _ _
  try simp only [Act.put, List.setIfInBounds_toArray, List.set_cons_zero, List.set_cons_succ]
  refine wpAnyH_ready (rs := [4]) (by kernel_rfl) (by simp) (AllReadyH.cons rfl (fun K hK => ?_) AllReadyH.nil)
  rw [if_pos (by rfl)]
  go_wp2_with fail
  refine (chains_any a0 a0 m d m d es es p 6 _ HX0.out.1.cn.ch.any HX0.out.1.cn.ch.any hp.1 hp.2 (by decide) (by decide)).mono ?_
  rintro e wb0 ⟨rfl, hb⟩
  have HBZ0 := Lib.hid (HBX.out _ hb)
  have HX1 : Hid (ZX wb b4 p a0 m d es ab nb cb xb wb0 ∧ World.cell? wb0 ⟨bk, r8, none⟩ = some (.int .u8 v8)) := ⟨HX0.out.1.next hb, cell_kept hb HX0.out.2⟩
  clear hb
  clear hS
  refine hK.out _ _ (⟨HX1.out.1.cn.rng, HX1.out.2⟩) (fun hS => ?_)
  clear hK K
  try simp only [Act.put, List.setIfInBounds_toArray, List.set_cons_zero, List.set_cons_succ]
  refine tk 5 146 (.bool false) rfl rfl (by kernel_rfl) (by kernel_rfl) (by kernel_rfl) (fun _ _ _ h => h) (Or.inl ⟨by rfl, fun w' h' => ?_⟩) hS ?_
  · go_simp
  try simp only [Act.put, List.setIfInBounds_toArray, List.set_cons_zero, List.set_cons_succ]
  refine tk 6 147 (.bool false) rfl rfl (by kernel_rfl) (by kernel_rfl) (by kernel_rfl) (fun _ _ _ h => h) (Or.inl ⟨by rfl, fun w' h' => ?_⟩) hS ?_
  · go_simp
  try simp only [Act.put, List.setIfInBounds_toArray, List.set_cons_zero, List.set_cons_succ]
  refine tk 7 148 (.int .i64 (n : Int)) rfl rfl (by kernel_rfl) (by kernel_rfl) (by kernel_rfl) (fun _ _ _ h => h) (Or.inl ⟨by rfl, fun w' h' => ?_⟩) hS ?_
  · go_simp
  try simp only [Act.put, List.setIfInBounds_toArray, List.set_cons_zero, List.set_cons_succ]
  refine tk 8 149 (.int .u8 ((n : Int) % 256)) rfl rfl (by kernel_rfl) (by kernel_rfl) (by kernel_rfl) (fun _ _ _ h => h) (Or.inl ⟨by rfl, fun w' h' => ?_⟩) hS ?_
  · go_simp
  try simp only [Act.put, List.setIfInBounds_toArray, List.set_cons_zero, List.set_cons_succ]
  refine tk 9 150 (.int .i64 (n : Int)) rfl rfl (by kernel_rfl) (by kernel_rfl) (by kernel_rfl) (fun _ _ _ h => h) (Or.inl ⟨by rfl, fun w' h' => ?_⟩) hS ?_
  · go_simp
  try simp only [Act.put, List.setIfInBounds_toArray, List.set_cons_zero, List.set_cons_succ]
  refine tk 10 151 (.int .u32 (n : Int)) rfl rfl (by kernel_rfl) (by kernel_rfl) (by kernel_rfl) (fun _ _ _ h => h) (Or.inl ⟨by rfl, fun w' h' => ?_⟩) hS ?_
  · go_simp
  try simp only [Act.put, List.setIfInBounds_toArray, List.set_cons_zero, List.set_cons_succ]
  refine tk 11 152 (.agg (hA n).cs.toArray) rfl rfl (by kernel_rfl) (by kernel_rfl) (by kernel_rfl) (fun _ _ _ h => h) (yields_build (by rfl) _ _ rfl ?_) hS ?_
  · exact builtA n
  try simp only [Act.put, List.setIfInBounds_toArray, List.set_cons_zero, List.set_cons_succ]
  refine tk 12 153 (.agg ([Value.slice a0 m d, .int .u8 p]).toArray) rfl rfl (by kernel_rfl) (by kernel_rfl) (by kernel_rfl) (fun _ _ _ h => h) (yieldsIf_load_mid (by rfl) _ _ rfl (b4) (0) rfl ([Value.slice a0 m d, .int .u8 p]) _ (fun w' h' => h'.1) Try.underlying46 rfl (infC2)) hS ?_
  try simp only [Act.put, List.setIfInBounds_toArray, List.set_cons_zero, List.set_cons_succ]
  refine tk 13 154 (.int .i64 (n : Int)) rfl rfl (by kernel_rfl) (by kernel_rfl) (by kernel_rfl) (fun _ _ _ h => h) (Or.inl ⟨by rfl, fun w' h' => ?_⟩) hS ?_
  · go_simp
  try simp only [Act.put, List.setIfInBounds_toArray, List.set_cons_zero, List.set_cons_succ]
  refine tk 14 155 (.int .i64 (r20 : Int)) rfl rfl (by kernel_rfl) (by kernel_rfl) (by kernel_rfl) (fun _ _ _ h => h) (Or.inl ⟨by rfl, fun w' h' => ?_⟩) hS ?_
  · go_simp
  try simp only [Act.put, List.setIfInBounds_toArray, List.set_cons_zero, List.set_cons_succ]
  refine tk 16 157 (.int .u8 F) rfl rfl (by kernel_rfl) (by kernel_rfl) (by kernel_rfl) (fun _ _ _ h => h) (Or.inl ⟨by rfl, fun w' h' => ?_⟩) hS ?_
  · go_simp
  try simp only [Act.put, List.setIfInBounds_toArray, List.set_cons_zero, List.set_cons_succ]
  refine tk 17 158 (.slice ab nb cb) rfl rfl (by kernel_rfl) (by kernel_rfl) (by kernel_rfl) (fun _ _ _ h => h) (Or.inl ⟨by rfl, fun w' h' => ?_⟩) hS ?_
  · go_simp
  try simp only [Act.put, List.setIfInBounds_toArray, List.set_cons_zero, List.set_cons_succ]
  refine wpAnyH_ready (rs := [15]) (by kernel_rfl) (by simp) (AllReadyH.cons rfl (fun K hK => ?_) AllReadyH.nil)
  rw [if_pos (by rfl)]
  obtain ⟨wm, hmk, hm, hbm⟩ := mk_nz wb0 r20 (by omega)
  have HM := Lib.hid (RwB.of hm (nz_byt r20))
  have HBZm := Lib.hid (HBZ0.out.trans (hbm.mono HBZ0.out.size))
  have HX2 : Hid (ZX wb b4 p a0 m d es ab nb cb xb wm ∧ World.cell? wm ⟨bk, r8, none⟩ = some (.int .u8 v8)) := ⟨HX1.out.1.next hbm, cell_kept hbm HX1.out.2⟩
  go_wp2_with fail
  clear hmk hm hbm
  clear hS
  refine hK.out _ _ (⟨HX2.out.1.cn.rng, HX2.out.2⟩) (fun hS => ?_)
  clear hK K
  try simp only [Act.put, List.setIfInBounds_toArray, List.set_cons_zero, List.set_cons_succ]
  refine wpAnyH_ready (rs := [18]) (by kernel_rfl) (by simp) (AllReadyH.cons rfl (fun K hK => ?_) AllReadyH.nil)
  rw [if_pos (by rfl)]
  go_wp2_with fail
  refine (back_any (hA n) a0 m d es p (some ⟨wb0.heap.size, 0, none⟩) r20 r20 (nz r20) F ab nb cb xb _ (hA_ok n hn) HX2.out.1.cn.ch.any hp.1 hp.2 HM.out.len HM.out.rd HM.out.byt hF.1 hF.2 HX2.out.1.rw.len HX2.out.1.rw.cap HX2.out.1.rw.rd HX2.out.1.rw.byt).mono ?_
  rintro e wb2 ⟨rfl, hb⟩
  have HBZ2 := Lib.hid (HBZm.out.trans (hb.mono HBZm.out.size))
  have HX3 : Hid (ZX wb b4 p a0 m d es ab nb cb xb wb2 ∧ World.cell? wb2 ⟨bk, r8, none⟩ = some (.int .u8 v8)) := ⟨HX2.out.1.next hb, cell_kept hb HX2.out.2⟩
  clear hb
  clear hS
  refine hK.out _ _ (⟨HX3.out.1.cn.rng, HX3.out.2⟩) (fun hS => ?_)
  clear hK K
  try simp only [Act.put, List.setIfInBounds_toArray, List.set_cons_zero, List.set_cons_succ]
  refine tk 19 160 (.bool false) rfl rfl (by kernel_rfl) (by kernel_rfl) (by kernel_rfl) (fun _ _ _ h => h) (Or.inl ⟨by rfl, fun w' h' => ?_⟩) hS ?_
  · go_simp
  try simp only [Act.put, List.setIfInBounds_toArray, List.set_cons_zero, List.set_cons_succ]
  refine tk 20 161 (.bool false) rfl rfl (by kernel_rfl) (by kernel_rfl) (by kernel_rfl) (fun _ _ _ h => h) (Or.inl ⟨by rfl, fun w' h' => ?_⟩) hS ?_
  · go_simp
  try simp only [Act.put, List.setIfInBounds_toArray, List.set_cons_zero, List.set_cons_succ]
  refine tk 21 162 (.bool false) rfl rfl (by kernel_rfl) (by kernel_rfl) (by kernel_rfl) (fun _ _ _ h => h) (Or.inl ⟨by rfl, fun w' h' => ?_⟩) hS ?_
  · go_simp
  try simp only [Act.put, List.setIfInBounds_toArray, List.set_cons_zero, List.set_cons_succ]
  refine tk 22 163 (.int .u8 F) rfl rfl (by kernel_rfl) (by kernel_rfl) (by kernel_rfl) (fun _ _ _ h => h) (Or.inl ⟨by rfl, fun w' h' => ?_⟩) hS ?_
  · go_simp
  try simp only [Act.put, List.setIfInBounds_toArray, List.set_cons_zero, List.set_cons_succ]
  refine tk 23 164 (.slice ab nb cb) rfl rfl (by kernel_rfl) (by kernel_rfl) (by kernel_rfl) (fun _ _ _ h => h) (Or.inl ⟨by rfl, fun w' h' => ?_⟩) hS ?_
  · go_simp
  try simp only [Act.put, List.setIfInBounds_toArray, List.set_cons_zero, List.set_cons_succ]
  refine tk 24 165 (.slice ab nb cb) rfl rfl (by kernel_rfl) (by kernel_rfl) (by kernel_rfl) (fun _ _ _ h => h) (Or.inl ⟨by rfl, fun w' h' => ?_⟩) hS ?_
  · go_simp
  try simp only [Act.put, List.setIfInBounds_toArray, List.set_cons_zero, List.set_cons_succ]
  refine tk 25 166 (.int .i64 ((nb : Int))) rfl rfl (by kernel_rfl) (by kernel_rfl) (by kernel_rfl) (fun _ _ _ h => h) (Or.inl ⟨by rfl, fun w' h' => ?_⟩) hS ?_
  · go_simp
  try simp only [Act.put, List.setIfInBounds_toArray, List.set_cons_zero, List.set_cons_succ]
  refine tk 26 167 (.int .i64 (n : Int)) rfl rfl (by kernel_rfl) (by kernel_rfl) (by kernel_rfl) (fun _ _ _ h => h) (Or.inl ⟨by rfl, fun w' h' => ?_⟩) hS ?_
  · go_simp
  try simp only [Act.put, List.setIfInBounds_toArray, List.set_cons_zero, List.set_cons_succ]
  refine tk 27 168 (.int .i64 (d2 : Int)) rfl rfl (by kernel_rfl) (by kernel_rfl) (by kernel_rfl) (fun _ _ _ h => h) (Or.inl ⟨by rfl, fun w' h' => ?_⟩) hS ?_
  · go_simp
  try simp only [Act.put, List.setIfInBounds_toArray, List.set_cons_zero, List.set_cons_succ]
  refine tk 28 169 (.slice ab nb cb) rfl rfl (by kernel_rfl) (by kernel_rfl) (by kernel_rfl) (fun _ _ _ h => h) (Or.inl ⟨by rfl, fun w' h' => ?_⟩) hS ?_
  · go_simp
  try simp only [Act.put, List.setIfInBounds_toArray, List.set_cons_zero, List.set_cons_succ]
  refine tk 29 170 (.int .i64 ((nb : Int))) rfl rfl (by kernel_rfl) (by kernel_rfl) (by kernel_rfl) (fun _ _ _ h => h) (Or.inl ⟨by rfl, fun w' h' => ?_⟩) hS ?_
  · go_simp
  try simp only [Act.put, List.setIfInBounds_toArray, List.set_cons_zero, List.set_cons_succ]
  refine tk 30 171 (.int .i64 1) rfl rfl (by kernel_rfl) (by kernel_rfl) (by kernel_rfl) (fun _ _ _ h => h) (Or.inl ⟨by rfl, fun w' h' => ?_⟩) hS ?_
  · (go_simp; intro hq; omega)
  try simp only [Act.put, List.setIfInBounds_toArray, List.set_cons_zero, List.set_cons_succ]
  refine tk 31 172 (.int .i64 (d2 : Int)) rfl rfl (by kernel_rfl) (by kernel_rfl) (by kernel_rfl) (fun _ _ _ h => h) (Or.inl ⟨by rfl, fun w' h' => ?_⟩) hS ?_
  · go_simp
  try simp only [Act.put, List.setIfInBounds_toArray, List.set_cons_zero, List.set_cons_succ]
  refine tk 32 173 (.int .i64 (eL : Int)) rfl rfl (by kernel_rfl) (by kernel_rfl) (by kernel_rfl) (fun _ _ _ h => h) (Or.inl ⟨by rfl, fun w' h' => ?_⟩) hS ?_
  · go_simp
  try simp only [Act.put, List.setIfInBounds_toArray, List.set_cons_zero, List.set_cons_succ]
  refine tk 33 174 (.slice ab eL cb) rfl rfl (by kernel_rfl) (by kernel_rfl) (by kernel_rfl) (fun _ _ _ h => h) (Or.inl ⟨by rfl, fun w' h' => ?_⟩) hS ?_
  · go_simp
  try simp only [Act.put, List.setIfInBounds_toArray, List.set_cons_zero, List.set_cons_succ]
  refine wpAnyH_ready (rs := [34]) (by kernel_rfl) (by simp) (AllReadyH.cons rfl (fun K hK => ?_) AllReadyH.nil)
  rw [if_pos (by rfl)]
  go_wp2_with fail
  refine (parses_any F ab eL cb (xb.take eL) _ hF.1 hF.2 (HX3.out.1.rw.cut eL he2).len (HX3.out.1.rw.cut eL he2).cap (HX3.out.1.rw.cut eL he2).rd (HX3.out.1.rw.cut eL he2).byt).mono ?_
  rintro e wb3 ⟨rfl, hb⟩
  have HBZ3 := Lib.hid (HBZ2.out.trans (hb.mono HBZ2.out.size))
  have HX4 : Hid (ZX wb b4 p a0 m d es ab nb cb xb wb3 ∧ World.cell? wb3 ⟨bk, r8, none⟩ = some (.int .u8 v8)) := ⟨HX3.out.1.next hb, cell_kept hb HX3.out.2⟩
  clear hb
  clear hS
  refine hK.out _ _ (⟨HX4.out.1.cn.rng, HX4.out.2⟩) (fun hS => ?_)
  clear hK K
  try simp only [Act.put, List.setIfInBounds_toArray, List.set_cons_zero, List.set_cons_succ]
  refine tk 35 176 (.bool false) rfl rfl (by kernel_rfl) (by kernel_rfl) (by kernel_rfl) (fun _ _ _ h => h) (Or.inl ⟨by rfl, fun w' h' => ?_⟩) hS ?_
  · go_simp
  try simp only [Act.put, List.setIfInBounds_toArray, List.set_cons_zero, List.set_cons_succ]
  refine tk 36 177 (.bool false) rfl rfl (by kernel_rfl) (by kernel_rfl) (by kernel_rfl) (fun _ _ _ h => h) (Or.inl ⟨by rfl, fun w' h' => ?_⟩) hS ?_
  · go_simp
  try simp only [Act.put, List.setIfInBounds_toArray, List.set_cons_zero, List.set_cons_succ]
  refine tk 37 178 (.bool false) rfl rfl (by kernel_rfl) (by kernel_rfl) (by kernel_rfl) (fun _ _ _ h => h) (Or.inl ⟨by rfl, fun w' h' => ?_⟩) hS ?_
  · go_simp
  try simp only [Act.put, List.setIfInBounds_toArray, List.set_cons_zero, List.set_cons_succ]
  refine tk 38 179 (.slice (some ⟨bk, 0, none⟩) 8 8) rfl rfl (by kernel_rfl) (by kernel_rfl) (by kernel_rfl) (fun _ _ _ h => h) (Or.inl ⟨by rfl, fun w' h' => ?_⟩) hS ?_
  · go_simp
  try simp only [Act.put, List.setIfInBounds_toArray, List.set_cons_zero, List.set_cons_succ]
  refine tk 39 180 (.int .i64 (n : Int)) rfl rfl (by kernel_rfl) (by kernel_rfl) (by kernel_rfl) (fun _ _ _ h => h) (Or.inl ⟨by rfl, fun w' h' => ?_⟩) hS ?_
  · go_simp
  try simp only [Act.put, List.setIfInBounds_toArray, List.set_cons_zero, List.set_cons_succ]
  refine tk 40 181 (.int .i64 (r8 : Int)) rfl rfl (by kernel_rfl) (by kernel_rfl) (by kernel_rfl) (fun _ _ _ h => h) (Or.inl ⟨by rfl, fun w' h' => ?_⟩) hS ?_
  · go_simp
  try simp only [Act.put, List.setIfInBounds_toArray, List.set_cons_zero, List.set_cons_succ]
  refine tk 41 182 (.pointer (some ⟨bk, r8, none⟩)) rfl rfl (by kernel_rfl) (by kernel_rfl) (by kernel_rfl) (fun _ _ _ h => h) (Or.inl ⟨by rfl, fun w' h' => ?_⟩) hS ?_
  · go_simp
  try simp only [Act.put, List.setIfInBounds_toArray, List.set_cons_zero, List.set_cons_succ]
  refine tk 42 183 (.int .u8 v8) rfl rfl (by kernel_rfl) (by kernel_rfl) (by kernel_rfl) (fun _ _ _ h => h) (Or.inl ⟨by rfl, fun w' h' => ?_⟩) hS ?_
  · have hc := h'.2
    go_simp
  try simp only [Act.put, List.setIfInBounds_toArray, List.set_cons_zero, List.set_cons_succ]
  refine tk 43 184 (.slice ab nb cb) rfl rfl (by kernel_rfl) (by kernel_rfl) (by kernel_rfl) (fun _ _ _ h => h) (Or.inl ⟨by rfl, fun w' h' => ?_⟩) hS ?_
  · go_simp
  try simp only [Act.put, List.setIfInBounds_toArray, List.set_cons_zero, List.set_cons_succ]
  refine wpAnyH_ready (rs := [44]) (by kernel_rfl) (by simp) (AllReadyH.cons rfl (fun K hK => ?_) AllReadyH.nil)
  rw [if_pos (by rfl)]
  go_wp2_with fail
  refine (parses_any v8 ab nb cb xb _ HV.out.1 HV.out.2 HX4.out.1.rw.len HX4.out.1.rw.cap HX4.out.1.rw.rd HX4.out.1.rw.byt).mono ?_
  rintro e wb4 ⟨rfl, hb⟩
  have HBZ4 := Lib.hid (HBZ3.out.trans (hb.mono HBZ3.out.size))
  have HX5 : Hid (ZX wb b4 p a0 m d es ab nb cb xb wb4 ∧ World.cell? wb4 ⟨bk, r8, none⟩ = some (.int .u8 v8)) := ⟨HX4.out.1.next hb, cell_kept hb HX4.out.2⟩
  clear hb
  clear hS
  refine hK.out _ _ (⟨HX5.out.1.cn.rng, HX5.out.2⟩) (fun hS => ?_)
  clear hK K
  try simp only [Act.put, List.setIfInBounds_toArray, List.set_cons_zero, List.set_cons_succ]
  refine tk 45 186 (.bool false) rfl rfl (by kernel_rfl) (by kernel_rfl) (by kernel_rfl) (fun _ _ _ h => h) (Or.inl ⟨by rfl, fun w' h' => ?_⟩) hS ?_
  · go_simp
  try simp only [Act.put, List.setIfInBounds_toArray, List.set_cons_zero, List.set_cons_succ]
  refine tk 46 187 (.bool false) rfl rfl (by kernel_rfl) (by kernel_rfl) (by kernel_rfl) (fun _ _ _ h => h) (Or.inl ⟨by rfl, fun w' h' => ?_⟩) hS ?_
  · go_simp
  refine wpAnyH_done (by kernel_rfl) ?_ _
  go_wp2_with fail
  refine Met.intro (hJ0 _ _ ?_)
  exact ⟨⟨rfl, rfl⟩, rfl, rfl, rfl, rfl, HBZ4.out⟩

set_option maxRecDepth 100000 in
set_option maxHeartbeats 4000000 in
theorem u25 (w : World) (bk n i : Nat) (a : Act) (hf : Fr 266 a) (h1 : sl a 1 = .slice (some ⟨bk, 0, none⟩) 8 8) (h2 : sl a 2 = .int .i64 (n : Int)) (h3 : sl a 3 = .int .i64 (i : Int)) (h187 : sl a 187 = .bool false) :
    Code.wp Try.prog (cAt [1,1,1,0,1,2,2,1,0,2,1,1,1,1,1,1] KC) (Exit.then (fun a' w' => Fr 266 a' ∧ sl a' 1 = .slice (some ⟨bk, 0, none⟩) 8 8 ∧ sl a' 2 = .int .i64 (n : Int) ∧ sl a' 3 = .int .i64 (i : Int) ∧ w = w') Nope) a w := by
  obtain ⟨f, ha, hs⟩ := fr266 hf
  have e1 := (hs 1).trans h1
  have e2 := (hs 2).trans h2
  have e3 := (hs 3).trans h3
  have e187 := (hs 187).trans h187
  rw [e1, e2, e3, e187] at ha
  clear hs hf e1 h1 e2 h2 e3 h3 e187 h187
  subst ha
  refine piece2 fun J0 K0 hJ0 hK0 => ?_
  conv => arg 2; whnf
  go_wp2_with fail
  refine Met.intro (hJ0 _ _ ?_)
  exact ⟨⟨rfl, rfl⟩, rfl, rfl, rfl, rfl⟩

set_option maxRecDepth 100000 in
set_option maxHeartbeats 4000000 in
theorem u5 (w : World) (bk n i : Nat) (hi : i < 300) (a : Act) (hf : Fr 266 a) (h1 : sl a 1 = .slice (some ⟨bk, 0, none⟩) 8 8) (h2 : sl a 2 = .int .i64 (n : Int)) (h3 : sl a 3 = .int .i64 (i : Int)) :
    Code.wp Try.prog (cAt [1,1,1,0,1,2,2,1,1] KC) (Exit.then (fun a' w' => Fr 266 a' ∧ sl a' 1 = .slice (some ⟨bk, 0, none⟩) 8 8 ∧ sl a' 2 = .int .i64 (n : Int) ∧ sl a' 3 = .int .i64 ((i : Int) + 1) ∧ w = w') Nope) a w := by
  obtain ⟨f, ha, hs⟩ := fr266 hf
  have e1 := (hs 1).trans h1
  have e2 := (hs 2).trans h2
  have e3 := (hs 3).trans h3
  rw [e1, e2, e3] at ha
  clear hs hf e1 h1 e2 h2 e3 h3
  subst ha
  refine piece2 fun J0 K0 hJ0 hK0 => ?_
  conv => arg 2; whnf
  go_wp2_with fail
  refine Met.intro (hJ0 _ _ ?_)
  exact ⟨⟨rfl, rfl⟩, rfl, rfl, rfl, rfl⟩

end Go.Proofs.Ythipnkaghddbhaa

/-
  TransKnown in pieces: the two switches of the round. Conditions: those that the theorems name.
-/
import Derived.Test.YtabdejoakecioaaTrKnA
namespace Go.Proofs.Ytabdejoakecioaa
open Go.ChangeShapes Go.WideShapes Go.ChangeAt Go.RowKit

/-- The segment of the first case. -/
def sgT (k : Int) (op : List Int) (oa : Option Addr) (on oc : Nat) (s : Sg) : Sg := ⟨⟨6, k, 80, k * 16777216, 2147483648, k * 5, 65535, k, op, 0, 0, s.p.dt⟩, oa, on, oc, s.da, s.dn, s.dc⟩
theorem builtT (k : Int) (op : List Int) (oa : Option Addr) (on oc : Nat) (s : Sg) : Try.prog.built 26 [(0, .int .u8 6), (1, .int .u16 k), (2, .int .u16 80), (3, .int .u32 (k * 16777216)), (4, .int .u32 2147483648), (5, .int .u8 (k * 5)), (6, .int .u16 65535), (7, .int .u16 k), (8, .slice oa on oc), (11, .slice s.da s.dn s.dc)] = some (sgT k op oa on oc s).cs.toArray := by kernel_rfl
theorem sgT_ok {w : World} {k : Int} {op : List Int} {oa : Option Addr} {on oc : Nat} {s : Sg} (hk : 0 ≤ k ∧ k < 48) (h : Row.ok w ⟨oa, on, oc, op⟩) (hs : s.ok w) : (sgT k op oa on oc s).ok w := by
  refine ⟨⟨?_, ?_, ?_, ?_, ?_, ?_, ?_, ?_, h.byt, pl0_fit.ty, pl0_fit.co, hs.fit.dt⟩, h, hs.dat⟩ <;> (simp only [sgT]; omega)
/-- A segment with other numbers, or other options. -/
theorem fit_src {s : Pl} (h : s.fit) (x : Int) (hx : 0 ≤ x ∧ x < 65536) : ({ s with src := x } : Pl).fit := ⟨h.pro, hx, h.dst, h.seq, h.ack, h.fl, h.win, h.urg, h.op, h.ty, h.co, h.dt⟩
theorem fit_dst {s : Pl} (h : s.fit) (x : Int) (hx : 0 ≤ x ∧ x < 65536) : ({ s with dst := x } : Pl).fit := ⟨h.pro, h.src, hx, h.seq, h.ack, h.fl, h.win, h.urg, h.op, h.ty, h.co, h.dt⟩
theorem fit_ty {s : Pl} (h : s.fit) (x : Int) (hx : 0 ≤ x ∧ x < 256) : ({ s with ty := x } : Pl).fit := ⟨h.pro, h.src, h.dst, h.seq, h.ack, h.fl, h.win, h.urg, h.op, hx, h.co, h.dt⟩
theorem fit_co {s : Pl} (h : s.fit) (x : Int) (hx : 0 ≤ x ∧ x < 256) : ({ s with co := x } : Pl).fit := ⟨h.pro, h.src, h.dst, h.seq, h.ack, h.fl, h.win, h.urg, h.op, h.ty, hx, h.dt⟩
theorem fit_pro {s : Pl} (h : s.fit) (x : Int) (hx : 0 ≤ x ∧ x < 256) : ({ s with pro := x } : Pl).fit := ⟨hx, h.src, h.dst, h.seq, h.ack, h.fl, h.win, h.urg, h.op, h.ty, h.co, h.dt⟩
theorem fit_op {s : Pl} (h : s.fit) (x : List Int) (hx : Byt x) : ({ s with op := x } : Pl).fit := ⟨h.pro, h.src, h.dst, h.seq, h.ack, h.fl, h.win, h.urg, hx, h.ty, h.co, h.dt⟩
theorem SX.cell {w3 wx : World} {b : Nat} {s : Sg} (h : SX w3 b s wx) {j : Nat} {v : Value} (hv : s.cs.toArray[j]? = some v) : wx.cell? ⟨b, j, none⟩ = some v := range_cell h.seg hv
theorem SX.may {w3 wx : World} {b : Nat} {s : Sg} (h : SX w3 b s wx) (j : Nat) (hj : j < 12) : wx.frozen? ⟨b, j, none⟩ = false := by
  have := (h.th j hj).2
  rwa [Nat.zero_add] at this

set_option maxRecDepth 100000 in
set_option maxHeartbeats 8000000 in
theorem t16a (w0 w3 : World) (k g1 c1 : Nat) (bs : List Int) (r5 r6 : Row) (hlt : k < 48) (a2 a3 : Option Addr) (HW : Hid (RW w0 g1 k c1 bs r5 r6 w3)) (b7 : Nat) (s : Sg) (wx : World) (HX : Hid (SX w3 b7 s wx)) (hr : k % 4 = 0) (a : Act) (hf : Fr 235 a) (h1 : sl a 1 = .slice (some ⟨g1, 0, none⟩) (k + 1) c1) (h2 : sl a 2 = .slice a2 4 4) (h3 : sl a 3 = .slice a3 16 16) (h4 : sl a 4 = .int .i64 (k : Int)) (h5 : sl a 5 = .slice r5.a r5.n r5.c) (h6 : sl a 6 = .slice r6.a r6.n r6.c) (h7 : sl a 7 = .pointer (some ⟨b7, 0, none⟩)) :
    Code.wp Try.prog (cAt [1,1,1,0,1,2,2,1,0,2,1,1,1,1,0] KC) (Exit.then (fun a' w' => ∃ (s' : Sg), Fr 235 a' ∧ sl a' 1 = .slice (some ⟨g1, 0, none⟩) (k + 1) c1 ∧ sl a' 2 = .slice a2 4 4 ∧ sl a' 3 = .slice a3 16 16 ∧ sl a' 4 = .int .i64 (k : Int) ∧ sl a' 5 = .slice r5.a r5.n r5.c ∧ sl a' 6 = .slice r6.a r6.n r6.c ∧ sl a' 7 = .pointer (some ⟨b7, 0, none⟩) ∧ SX w3 b7 s' w') Nope) a wx := by
  obtain ⟨f, ha, hs⟩ := fr235 hf
  have e1 := (hs 1).trans h1
  have e2 := (hs 2).trans h2
  have e3 := (hs 3).trans h3
  have e4 := (hs 4).trans h4
  have e5 := (hs 5).trans h5
  have e6 := (hs 6).trans h6
  have e7 := (hs 7).trans h7
  rw [e1, e2, e3, e4, e5, e6, e7] at ha
  clear hs hf e1 h1 e2 h2 e3 h3 e4 h4 e5 h5 e6 h6 e7 h7
  subst ha
  refine piece2 fun J0 K0 hJ0 hK0 => ?_
  conv => arg 2; whnf
  have hk0 : ((k : Int) % 4 == 0) = true := by simp; omega
  have hle := HW.out.d.own.le
  unfold maxLen at hle
  obtain ⟨hle1, hle2⟩ := hle
  obtain ⟨q4, hq⟩ := Int.eq_ofNat_of_zero_le (show 0 ≤ (k : Int) / 4 by omega)
  obtain ⟨m, hm⟩ := Int.eq_ofNat_of_zero_le (show 0 ≤ (q4 : Int) * 4 % 44 by omega)
  have hm44 : m < 44 := by omega
  have hmk : m ≤ k := by omega
  have HOK : Hid (Sg.ok w3 (sgT (k : Int) (bs.take m) (some ⟨g1, 0, none⟩) m c1 s)) := sgT_ok (by omega) ((HW.out.d.own.row HW.out.d.byt).cut m (by omega)) HX.out.ok
  have HLM : Hid (((sgT (k : Int) (bs.take m) (some ⟨g1, 0, none⟩) m c1 s)).on ≤ 44 ∧ ((sgT (k : Int) (bs.take m) (some ⟨g1, 0, none⟩) m c1 s)).dn ≤ 48) := ⟨by show m ≤ 44; omega, HX.out.lim.2⟩
  have i1 : (k : Int).tdiv 4 = (q4 : Int) := by rw [Int.tdiv_eq_ediv_of_nonneg (by omega)]; exact hq
  have i2 : ((q4 : Int) * 4).tmod 44 = (m : Int) := by rw [Int.tmod_eq_emod_of_nonneg (by omega)]; exact hm
  have i3 : IntKind.i64.wrap (q4 : Int) = (q4 : Int) := IntWalk.i64_in _ (by omega)
  have i4 : IntKind.i64.wrap (m : Int) = (m : Int) := IntWalk.i64_in _ (by omega)
  have i5 : IntKind.i64.wrap ((q4 : Int) * 4) = (q4 : Int) * 4 := IntWalk.i64_in _ (by omega)
  have i6 : IntKind.i64.wrap ((k : Int) * 5) = (k : Int) * 5 := IntWalk.i64_in _ (by omega)
  have i7 : IntKind.u32.wrap ((k : Int) * 16777216) = (k : Int) * 16777216 := by rw [IntKind.wrap_u32]; omega
  have i8 : (m : Int) ≤ (c1 : Int) := by omega
  have i9 : IntKind.u16.wrap (k : Int) = (k : Int) := by rw [IntKind.wrap_u16]; omega
  have i10 : IntKind.u32.wrap (k : Int) = (k : Int) := by rw [IntKind.wrap_u32]; omega
  have i11 : IntKind.u8.wrap ((k : Int) * 5) = (k : Int) * 5 := by rw [IntKind.wrap_u8]; omega
  have hs0 := HX.out.cell s.c11
  clear hq hm
  go_upto_region 17 with fail
  refine wp_region_held_drew (S := fun w' => World.cell? w' ⟨b7, 11, none⟩ = some (.slice s.da s.dn s.dc)) (by kernel_rfl) hs0 (fun hS => ?_)
  refine tk 0 66 (.int .i64 (k : Int)) rfl rfl (by kernel_rfl) (by kernel_rfl) (by kernel_rfl) (fun _ _ _ h => h) (Or.inl ⟨by rfl, fun w' h' => ?_⟩) hS ?_
  · go_simp
  try simp only [Act.put, List.setIfInBounds_toArray, List.set_cons_zero, List.set_cons_succ]
  refine tk 1 67 (.int .u16 (k : Int)) rfl rfl (by kernel_rfl) (by kernel_rfl) (by kernel_rfl) (fun _ _ _ h => h) (Or.inl ⟨by rfl, fun w' h' => ?_⟩) hS ?_
  · go_simp
  try simp only [Act.put, List.setIfInBounds_toArray, List.set_cons_zero, List.set_cons_succ]
  refine tk 2 68 (.int .i64 (k : Int)) rfl rfl (by kernel_rfl) (by kernel_rfl) (by kernel_rfl) (fun _ _ _ h => h) (Or.inl ⟨by rfl, fun w' h' => ?_⟩) hS ?_
  · go_simp
  try simp only [Act.put, List.setIfInBounds_toArray, List.set_cons_zero, List.set_cons_succ]
  refine tk 3 69 (.int .u32 (k : Int)) rfl rfl (by kernel_rfl) (by kernel_rfl) (by kernel_rfl) (fun _ _ _ h => h) (Or.inl ⟨by rfl, fun w' h' => ?_⟩) hS ?_
  · go_simp
  try simp only [Act.put, List.setIfInBounds_toArray, List.set_cons_zero, List.set_cons_succ]
  refine tk 4 70 (.int .u32 ((k : Int) * 16777216)) rfl rfl (by kernel_rfl) (by kernel_rfl) (by kernel_rfl) (fun _ _ _ h => h) (Or.inl ⟨by rfl, fun w' h' => ?_⟩) hS ?_
  · go_simp
  try simp only [Act.put, List.setIfInBounds_toArray, List.set_cons_zero, List.set_cons_succ]
  refine tk 5 71 (.int .i64 (k : Int)) rfl rfl (by kernel_rfl) (by kernel_rfl) (by kernel_rfl) (fun _ _ _ h => h) (Or.inl ⟨by rfl, fun w' h' => ?_⟩) hS ?_
  · go_simp
  try simp only [Act.put, List.setIfInBounds_toArray, List.set_cons_zero, List.set_cons_succ]
  refine tk 6 72 (.int .i64 ((k : Int) * 5)) rfl rfl (by kernel_rfl) (by kernel_rfl) (by kernel_rfl) (fun _ _ _ h => h) (Or.inl ⟨by rfl, fun w' h' => ?_⟩) hS ?_
  · go_simp
  try simp only [Act.put, List.setIfInBounds_toArray, List.set_cons_zero, List.set_cons_succ]
  refine tk 7 73 (.int .u8 ((k : Int) * 5)) rfl rfl (by kernel_rfl) (by kernel_rfl) (by kernel_rfl) (fun _ _ _ h => h) (Or.inl ⟨by rfl, fun w' h' => ?_⟩) hS ?_
  · go_simp
  try simp only [Act.put, List.setIfInBounds_toArray, List.set_cons_zero, List.set_cons_succ]
  refine tk 8 74 (.int .i64 (k : Int)) rfl rfl (by kernel_rfl) (by kernel_rfl) (by kernel_rfl) (fun _ _ _ h => h) (Or.inl ⟨by rfl, fun w' h' => ?_⟩) hS ?_
  · go_simp
  try simp only [Act.put, List.setIfInBounds_toArray, List.set_cons_zero, List.set_cons_succ]
  refine tk 9 75 (.int .u16 (k : Int)) rfl rfl (by kernel_rfl) (by kernel_rfl) (by kernel_rfl) (fun _ _ _ h => h) (Or.inl ⟨by rfl, fun w' h' => ?_⟩) hS ?_
  · go_simp
  try simp only [Act.put, List.setIfInBounds_toArray, List.set_cons_zero, List.set_cons_succ]
  refine tk 10 76 (.slice (some ⟨g1, 0, none⟩) (k + 1) c1) rfl rfl (by kernel_rfl) (by kernel_rfl) (by kernel_rfl) (fun _ _ _ h => h) (Or.inl ⟨by rfl, fun w' h' => ?_⟩) hS ?_
  · go_simp
  try simp only [Act.put, List.setIfInBounds_toArray, List.set_cons_zero, List.set_cons_succ]
  refine tk 11 77 (.int .i64 (k : Int)) rfl rfl (by kernel_rfl) (by kernel_rfl) (by kernel_rfl) (fun _ _ _ h => h) (Or.inl ⟨by rfl, fun w' h' => ?_⟩) hS ?_
  · go_simp
  try simp only [Act.put, List.setIfInBounds_toArray, List.set_cons_zero, List.set_cons_succ]
  refine tk 12 78 (.int .i64 (q4 : Int)) rfl rfl (by kernel_rfl) (by kernel_rfl) (by kernel_rfl) (fun _ _ _ h => h) (Or.inl ⟨by rfl, fun w' h' => ?_⟩) hS ?_
  · go_simp
  try simp only [Act.put, List.setIfInBounds_toArray, List.set_cons_zero, List.set_cons_succ]
  refine tk 13 79 (.int .i64 ((q4 : Int) * 4)) rfl rfl (by kernel_rfl) (by kernel_rfl) (by kernel_rfl) (fun _ _ _ h => h) (Or.inl ⟨by rfl, fun w' h' => ?_⟩) hS ?_
  · go_simp
  try simp only [Act.put, List.setIfInBounds_toArray, List.set_cons_zero, List.set_cons_succ]
  refine tk 14 80 (.int .i64 (m : Int)) rfl rfl (by kernel_rfl) (by kernel_rfl) (by kernel_rfl) (fun _ _ _ h => h) (Or.inl ⟨by rfl, fun w' h' => ?_⟩) hS ?_
  · go_simp
  try simp only [Act.put, List.setIfInBounds_toArray, List.set_cons_zero, List.set_cons_succ]
  refine tk 15 81 (.slice (some ⟨g1, 0, none⟩) m c1) rfl rfl (by kernel_rfl) (by kernel_rfl) (by kernel_rfl) (fun _ _ _ h => h) (Or.inl ⟨by rfl, fun w' h' => ?_⟩) hS ?_
  · go_simp
  try simp only [Act.put, List.setIfInBounds_toArray, List.set_cons_zero, List.set_cons_succ]
  refine tk 16 82 (.pointer (some ⟨b7, 11, none⟩)) rfl rfl (by kernel_rfl) (by kernel_rfl) (by kernel_rfl) (fun _ _ _ h => h) (Or.inl ⟨by rfl, fun w' h' => ?_⟩) hS ?_
  · go_simp
  try simp only [Act.put, List.setIfInBounds_toArray, List.set_cons_zero, List.set_cons_succ]
  refine tk 17 83 (.slice s.da s.dn s.dc) rfl rfl (by kernel_rfl) (by kernel_rfl) (by kernel_rfl) (fun _ _ _ h => h) (Or.inl ⟨by rfl, fun w' h' => ?_⟩) hS ?_
  · have hc := h'
    go_simp
  try simp only [Act.put, List.setIfInBounds_toArray, List.set_cons_zero, List.set_cons_succ]
  refine tk 18 84 (.agg (sgT (k : Int) (bs.take m) (some ⟨g1, 0, none⟩) m c1 s).cs.toArray) rfl rfl (by kernel_rfl) (by kernel_rfl) (by kernel_rfl) (fun _ _ _ h => h) (yields_build (by rfl) _ _ rfl ?_) hS ?_
  · exact builtT (k : Int) (bs.take m) _ _ _ s
  try simp only [Act.put, List.setIfInBounds_toArray, List.set_cons_zero, List.set_cons_succ]
  refine wpAnyH_ready (rs := [19]) (by kernel_rfl) (by simp) (AllReadyH.cons rfl (fun K hK => ?_) AllReadyH.nil)
  rw [if_pos (by rfl)]
  refine wp_store_mid 26 _ _ rfl b7 0 (sgT (k : Int) (bs.take m) (some ⟨g1, 0, none⟩) m c1 s).cs.toArray rfl rfl (by rw [List.size_toArray]; exact HX.out.th) (by rw [List.size_toArray]; exact infS) (all_oneCell_toArray (Sg.one _)) ?_
  have HS := Lib.hid (SX.put (show Below w3.heap.size w3 wx.drew from ⟨HX.out.below.os, HX.out.below.tape, HX.out.below.output, HX.out.below.size, HX.out.below.block⟩) HX.out.th HX.out.ge (sgT (k : Int) (bs.take m) (some ⟨g1, 0, none⟩) m c1 s) HOK.out HLM.out)
  clear hS
  refine hK.out _ _ (HS.out.cell (Sg.c11 (sgT (k : Int) (bs.take m) (some ⟨g1, 0, none⟩) m c1 s))) (fun hS => ?_)
  clear hK K
  refine wpAnyH_done (by kernel_rfl) ?_ _
  go_wp2_with fail
  refine Met.intro (hJ0 _ _ ?_)
  exact ⟨_, ⟨rfl, rfl⟩, rfl, rfl, rfl, rfl, rfl, rfl, rfl, HS.out⟩

set_option maxRecDepth 100000 in
set_option maxHeartbeats 4000000 in
theorem t16b (w3 : World) (k g1 c1 : Nat) (r5 r6 : Row) (hlt : k < 48) (a2 a3 : Option Addr) (b7 : Nat) (s : Sg) (wx : World) (HX : Hid (SX w3 b7 s wx)) (hr : k % 4 = 1) (a : Act) (hf : Fr 235 a) (h1 : sl a 1 = .slice (some ⟨g1, 0, none⟩) (k + 1) c1) (h2 : sl a 2 = .slice a2 4 4) (h3 : sl a 3 = .slice a3 16 16) (h4 : sl a 4 = .int .i64 (k : Int)) (h5 : sl a 5 = .slice r5.a r5.n r5.c) (h6 : sl a 6 = .slice r6.a r6.n r6.c) (h7 : sl a 7 = .pointer (some ⟨b7, 0, none⟩)) :
    Code.wp Try.prog (cAt [1,1,1,0,1,2,2,1,0,2,1,1,1,1,0] KC) (Exit.then (fun a' w' => ∃ (s' : Sg), Fr 235 a' ∧ sl a' 1 = .slice (some ⟨g1, 0, none⟩) (k + 1) c1 ∧ sl a' 2 = .slice a2 4 4 ∧ sl a' 3 = .slice a3 16 16 ∧ sl a' 4 = .int .i64 (k : Int) ∧ sl a' 5 = .slice r5.a r5.n r5.c ∧ sl a' 6 = .slice r6.a r6.n r6.c ∧ sl a' 7 = .pointer (some ⟨b7, 0, none⟩) ∧ SX w3 b7 s' w') Nope) a wx := by
  obtain ⟨f, ha, hs⟩ := fr235 hf
  have e1 := (hs 1).trans h1
  have e2 := (hs 2).trans h2
  have e3 := (hs 3).trans h3
  have e4 := (hs 4).trans h4
  have e5 := (hs 5).trans h5
  have e6 := (hs 6).trans h6
  have e7 := (hs 7).trans h7
  rw [e1, e2, e3, e4, e5, e6, e7] at ha
  clear hs hf e1 h1 e2 h2 e3 h3 e4 h4 e5 h5 e6 h6 e7 h7
  subst ha
  refine piece2 fun J0 K0 hJ0 hK0 => ?_
  conv => arg 2; whnf
  have hk0 : ((k : Int) % 4 == 0) = false := by simp; omega
  have hk1 : ((k : Int) % 4 == 1) = true := by simp; omega
  have hc1 := HX.out.cell (Sg.c1 _)
  have hm1 := HX.out.may 1 (by decide)
  have i1 : IntKind.i64.wrap ((k : Int) * 1300) = (k : Int) * 1300 := IntWalk.i64_in _ (by omega)
  have H1 := Lib.hid (HX.out.set { s with p := { s.p with src := (k : Int) * 1300 } } 1 (by decide) (.int .u16 ((k : Int) * 1300)) rfl ⟨fit_src HX.out.ok.fit _ (by omega), HX.out.ok.opt, HX.out.ok.dat⟩ HX.out.lim)
  have hc2 := H1.out.cell (Sg.c2 _)
  have hm2 := H1.out.may 2 (by decide)
  have H2 := Lib.hid (H1.out.set { s with p := { s.p with src := (k : Int) * 1300, dst := 53 } } 2 (by decide) (.int .u16 53) rfl ⟨fit_dst H1.out.ok.fit 53 (by decide), HX.out.ok.opt, HX.out.ok.dat⟩ HX.out.lim)
  go_wp2_with fail
  refine Met.intro (hJ0 _ _ ?_)
  exact ⟨_, ⟨rfl, rfl⟩, rfl, rfl, rfl, rfl, rfl, rfl, rfl, H2.out⟩

set_option maxRecDepth 100000 in
set_option maxHeartbeats 4000000 in
theorem t16c (w3 : World) (k g1 c1 : Nat) (r5 r6 : Row) (hlt : k < 48) (a2 a3 : Option Addr) (b7 : Nat) (s : Sg) (wx : World) (HX : Hid (SX w3 b7 s wx)) (hr : k % 4 = 2 ∨ k % 4 = 3) (a : Act) (hf : Fr 235 a) (h1 : sl a 1 = .slice (some ⟨g1, 0, none⟩) (k + 1) c1) (h2 : sl a 2 = .slice a2 4 4) (h3 : sl a 3 = .slice a3 16 16) (h4 : sl a 4 = .int .i64 (k : Int)) (h5 : sl a 5 = .slice r5.a r5.n r5.c) (h6 : sl a 6 = .slice r6.a r6.n r6.c) (h7 : sl a 7 = .pointer (some ⟨b7, 0, none⟩)) :
    Code.wp Try.prog (cAt [1,1,1,0,1,2,2,1,0,2,1,1,1,1,0] KC) (Exit.then (fun a' w' => ∃ (s' : Sg), Fr 235 a' ∧ sl a' 1 = .slice (some ⟨g1, 0, none⟩) (k + 1) c1 ∧ sl a' 2 = .slice a2 4 4 ∧ sl a' 3 = .slice a3 16 16 ∧ sl a' 4 = .int .i64 (k : Int) ∧ sl a' 5 = .slice r5.a r5.n r5.c ∧ sl a' 6 = .slice r6.a r6.n r6.c ∧ sl a' 7 = .pointer (some ⟨b7, 0, none⟩) ∧ SX w3 b7 s' w') Nope) a wx := by
  obtain ⟨f, ha, hs⟩ := fr235 hf
  have e1 := (hs 1).trans h1
  have e2 := (hs 2).trans h2
  have e3 := (hs 3).trans h3
  have e4 := (hs 4).trans h4
  have e5 := (hs 5).trans h5
  have e6 := (hs 6).trans h6
  have e7 := (hs 7).trans h7
  rw [e1, e2, e3, e4, e5, e6, e7] at ha
  clear hs hf e1 h1 e2 h2 e3 h3 e4 h4 e5 h5 e6 h6 e7 h7
  subst ha
  refine piece2 fun J0 K0 hJ0 hK0 => ?_
  conv => arg 2; whnf
  have hk0 : ((k : Int) % 4 == 0) = false := by simp; omega
  have hk1 : ((k : Int) % 4 == 1) = false := by simp; omega
  have hc9 := HX.out.cell (Sg.c9 _)
  have hm9 := HX.out.may 9 (by decide)
  obtain ⟨q5, hq⟩ := Int.eq_ofNat_of_zero_le (show 0 ≤ (k : Int) / 5 by omega)
  have hq5 : q5 < 10 := by omega
  have i1 : (k : Int).tdiv 5 = (q5 : Int) := by rw [Int.tdiv_eq_ediv_of_nonneg (by omega)]; exact hq
  have i2 : IntKind.i64.wrap (q5 : Int) = (q5 : Int) := IntWalk.i64_in _ (by omega)
  have H1 := Lib.hid (HX.out.set { s with p := { s.p with ty := (k : Int) } } 9 (by decide) (.int .u8 (k : Int)) rfl ⟨fit_ty HX.out.ok.fit _ (by omega), HX.out.ok.opt, HX.out.ok.dat⟩ HX.out.lim)
  have hc10 := H1.out.cell (Sg.c10 _)
  have hm10 := H1.out.may 10 (by decide)
  have H2 := Lib.hid (H1.out.set { s with p := { s.p with ty := (k : Int), co := (q5 : Int) } } 10 (by decide) (.int .u8 (q5 : Int)) rfl ⟨fit_co H1.out.ok.fit _ (by omega), HX.out.ok.opt, HX.out.ok.dat⟩ HX.out.lim)
  clear hq
  go_wp2_with fail
  refine Met.intro (hJ0 _ _ ?_)
  exact ⟨_, ⟨rfl, rfl⟩, rfl, rfl, rfl, rfl, rfl, rfl, rfl, H2.out⟩

set_option maxRecDepth 100000 in
set_option maxHeartbeats 4000000 in
theorem t21 (w5 : World) (k g1 c1 b7 : Nat) (r5 r6 : Row) (a2 a3 : Option Addr) (s : Sg) (HS : Hid (w5.rangeAt b7 0 s.cs ∧ s.ok w5 ∧ (s.on ≤ 44 ∧ s.dn ≤ 48))) (a : Act) (hf : Fr 235 a) (h1 : sl a 1 = .slice (some ⟨g1, 0, none⟩) (k + 1) c1) (h2 : sl a 2 = .slice a2 4 4) (h3 : sl a 3 = .slice a3 16 16) (h4 : sl a 4 = .int .i64 (k : Int)) (h5 : sl a 5 = .slice r5.a r5.n r5.c) (h6 : sl a 6 = .slice r6.a r6.n r6.c) (h7 : sl a 7 = .pointer (some ⟨b7, 0, none⟩)) :
    Code.wp Try.prog (cAt [1,1,1,0,1,2,2,1,0,2,1,1,1,1,1,0] KC) (Exit.then (fun a' w' => ∃ (b8 : Nat), Fr 235 a' ∧ sl a' 1 = .slice (some ⟨g1, 0, none⟩) (k + 1) c1 ∧ sl a' 2 = .slice a2 4 4 ∧ sl a' 3 = .slice a3 16 16 ∧ sl a' 4 = .int .i64 (k : Int) ∧ sl a' 5 = .slice r5.a r5.n r5.c ∧ sl a' 6 = .slice r6.a r6.n r6.c ∧ sl a' 7 = .pointer (some ⟨b7, 0, none⟩) ∧ sl a' 8 = .pointer (some ⟨b8, 0, none⟩) ∧ SX w5 b8 s w') Nope) a w5 := by
  obtain ⟨f, ha, hs⟩ := fr235 hf
  have e1 := (hs 1).trans h1
  have e2 := (hs 2).trans h2
  have e3 := (hs 3).trans h3
  have e4 := (hs 4).trans h4
  have e5 := (hs 5).trans h5
  have e6 := (hs 6).trans h6
  have e7 := (hs 7).trans h7
  rw [e1, e2, e3, e4, e5, e6, e7] at ha
  clear hs hf e1 h1 e2 h2 e3 h3 e4 h4 e5 h5 e6 h6 e7 h7
  subst ha
  refine piece2 fun J0 K0 hJ0 hK0 => ?_
  conv => arg 2; whnf
  have HN := Lib.hid (SX.new w5 s HS.out.2.1 HS.out.2.2)
  have HTW : Hid ((w5.alloc (.cells sg0.cs.toArray 26)).there w5.heap.size 0 12) := there_new _ _ _ _ rfl _ rfl
  obtain ⟨cs, hcs⟩ : ∃ x, s.cs.toArray = x := ⟨_, rfl⟩
  have HCS := Lib.hid hcs
  clear hcs
  go_wp2_with (first | (refine ldSg (.tmp 7) rfl (by rfl) b7 rfl s HS.out.1 ?_; rw [HCS.out]) | (refine stN (fun w' => Hid (SX w5 w5.heap.size s w')) 26 (.tmp 8) (.tmp 92) rfl rfl w5.heap.size 0 s.cs rfl (by rw [HCS.out]; rfl) HTW.out infS (Sg.one _) HN ?_; intro wq HF))
  refine Met.intro (hJ0 _ _ ?_)
  exact ⟨_, ⟨rfl, rfl⟩, rfl, rfl, rfl, rfl, rfl, rfl, rfl, rfl, HF.out⟩

set_option maxRecDepth 100000 in
set_option maxHeartbeats 4000000 in
theorem t22a (w5 : World) (k g1 c1 b7 : Nat) (r5 r6 : Row) (hlt : k < 48) (a2 a3 : Option Addr) (b8 : Nat) (s : Sg) (wx : World) (HX : Hid (SX w5 b8 s wx)) (hr : k % 7 = 0) (a : Act) (hf : Fr 235 a) (h1 : sl a 1 = .slice (some ⟨g1, 0, none⟩) (k + 1) c1) (h2 : sl a 2 = .slice a2 4 4) (h3 : sl a 3 = .slice a3 16 16) (h4 : sl a 4 = .int .i64 (k : Int)) (h5 : sl a 5 = .slice r5.a r5.n r5.c) (h6 : sl a 6 = .slice r6.a r6.n r6.c) (h7 : sl a 7 = .pointer (some ⟨b7, 0, none⟩)) (h8 : sl a 8 = .pointer (some ⟨b8, 0, none⟩)) :
    Code.wp Try.prog (cAt [1,1,1,0,1,2,2,1,0,2,1,1,1,1,1,1,0] KC) (Exit.then (fun a' w' => ∃ (t : Sg), Fr 235 a' ∧ sl a' 1 = .slice (some ⟨g1, 0, none⟩) (k + 1) c1 ∧ sl a' 2 = .slice a2 4 4 ∧ sl a' 3 = .slice a3 16 16 ∧ sl a' 4 = .int .i64 (k : Int) ∧ sl a' 5 = .slice r5.a r5.n r5.c ∧ sl a' 6 = .slice r6.a r6.n r6.c ∧ sl a' 7 = .pointer (some ⟨b7, 0, none⟩) ∧ sl a' 8 = .pointer (some ⟨b8, 0, none⟩) ∧ w'.rangeAt b8 0 t.cs ∧ t.ok w' ∧ (t.on ≤ 44 ∧ t.dn ≤ 48) ∧ Below w5.heap.size w5 w') Nope) a wx := by
  obtain ⟨f, ha, hs⟩ := fr235 hf
  have e1 := (hs 1).trans h1
  have e2 := (hs 2).trans h2
  have e3 := (hs 3).trans h3
  have e4 := (hs 4).trans h4
  have e5 := (hs 5).trans h5
  have e6 := (hs 6).trans h6
  have e7 := (hs 7).trans h7
  have e8 := (hs 8).trans h8
  rw [e1, e2, e3, e4, e5, e6, e7, e8] at ha
  clear hs hf e1 h1 e2 h2 e3 h3 e4 h4 e5 h5 e6 h6 e7 h7 e8 h8
  subst ha
  refine piece2 fun J0 K0 hJ0 hK0 => ?_
  conv => arg 2; whnf
  have e7 : (k : Int) % 7 = 0 := by omega
  have hc9 := HX.out.cell (Sg.c9 _)
  have hm9 := HX.out.may 9 (by decide)
  have H1 := Lib.hid (HX.out.set { s with p := { s.p with ty := 1 } } 9 (by decide) (.int .u8 1) rfl ⟨fit_ty HX.out.ok.fit 1 (by decide), HX.out.ok.opt, HX.out.ok.dat⟩ HX.out.lim)
  go_wp2_with fail
  refine Met.intro (hJ0 _ _ ?_)
  exact ⟨_, ⟨rfl, rfl⟩, rfl, rfl, rfl, rfl, rfl, rfl, rfl, rfl, H1.out.seg, H1.out.now, H1.out.lim, H1.out.below⟩

set_option maxRecDepth 100000 in
set_option maxHeartbeats 4000000 in
theorem t22b (w5 : World) (k g1 c1 b7 : Nat) (r5 r6 : Row) (hlt : k < 48) (a2 a3 : Option Addr) (b8 : Nat) (s : Sg) (wx : World) (HX : Hid (SX w5 b8 s wx)) (hr : k % 7 = 1) (a : Act) (hf : Fr 235 a) (h1 : sl a 1 = .slice (some ⟨g1, 0, none⟩) (k + 1) c1) (h2 : sl a 2 = .slice a2 4 4) (h3 : sl a 3 = .slice a3 16 16) (h4 : sl a 4 = .int .i64 (k : Int)) (h5 : sl a 5 = .slice r5.a r5.n r5.c) (h6 : sl a 6 = .slice r6.a r6.n r6.c) (h7 : sl a 7 = .pointer (some ⟨b7, 0, none⟩)) (h8 : sl a 8 = .pointer (some ⟨b8, 0, none⟩)) :
    Code.wp Try.prog (cAt [1,1,1,0,1,2,2,1,0,2,1,1,1,1,1,1,0] KC) (Exit.then (fun a' w' => ∃ (t : Sg), Fr 235 a' ∧ sl a' 1 = .slice (some ⟨g1, 0, none⟩) (k + 1) c1 ∧ sl a' 2 = .slice a2 4 4 ∧ sl a' 3 = .slice a3 16 16 ∧ sl a' 4 = .int .i64 (k : Int) ∧ sl a' 5 = .slice r5.a r5.n r5.c ∧ sl a' 6 = .slice r6.a r6.n r6.c ∧ sl a' 7 = .pointer (some ⟨b7, 0, none⟩) ∧ sl a' 8 = .pointer (some ⟨b8, 0, none⟩) ∧ w'.rangeAt b8 0 t.cs ∧ t.ok w' ∧ (t.on ≤ 44 ∧ t.dn ≤ 48) ∧ Below w5.heap.size w5 w') Nope) a wx := by
  obtain ⟨f, ha, hs⟩ := fr235 hf
  have e1 := (hs 1).trans h1
  have e2 := (hs 2).trans h2
  have e3 := (hs 3).trans h3
  have e4 := (hs 4).trans h4
  have e5 := (hs 5).trans h5
  have e6 := (hs 6).trans h6
  have e7 := (hs 7).trans h7
  have e8 := (hs 8).trans h8
  rw [e1, e2, e3, e4, e5, e6, e7, e8] at ha
  clear hs hf e1 h1 e2 h2 e3 h3 e4 h4 e5 h5 e6 h6 e7 h7 e8 h8
  subst ha
  refine piece2 fun J0 K0 hJ0 hK0 => ?_
  conv => arg 2; whnf
  have e7 : (k : Int) % 7 = 1 := by omega
  have hc1 := HX.out.cell (Sg.c1 _)
  have hm1 := HX.out.may 1 (by decide)
  have H1 := Lib.hid (HX.out.set { s with p := { s.p with src := 9 } } 1 (by decide) (.int .u16 9) rfl ⟨fit_src HX.out.ok.fit 9 (by decide), HX.out.ok.opt, HX.out.ok.dat⟩ HX.out.lim)
  go_wp2_with fail
  refine Met.intro (hJ0 _ _ ?_)
  exact ⟨_, ⟨rfl, rfl⟩, rfl, rfl, rfl, rfl, rfl, rfl, rfl, rfl, H1.out.seg, H1.out.now, H1.out.lim, H1.out.below⟩

set_option maxRecDepth 100000 in
set_option maxHeartbeats 4000000 in
theorem t22c (w0 w5 : World) (k g1 c1 b7 : Nat) (bs : List Int) (r5 r6 : Row) (hlt : k < 48) (a2 a3 : Option Addr) (HK : Hid (Kn w0 w5 (some ⟨g1, 0, none⟩) (k + 1) c1 bs)) (b8 : Nat) (s : Sg) (wx : World) (HX : Hid (SX w5 b8 s wx)) (hr : k % 7 = 2) (a : Act) (hf : Fr 235 a) (h1 : sl a 1 = .slice (some ⟨g1, 0, none⟩) (k + 1) c1) (h2 : sl a 2 = .slice a2 4 4) (h3 : sl a 3 = .slice a3 16 16) (h4 : sl a 4 = .int .i64 (k : Int)) (h5 : sl a 5 = .slice r5.a r5.n r5.c) (h6 : sl a 6 = .slice r6.a r6.n r6.c) (h7 : sl a 7 = .pointer (some ⟨b7, 0, none⟩)) (h8 : sl a 8 = .pointer (some ⟨b8, 0, none⟩)) :
    Code.wp Try.prog (cAt [1,1,1,0,1,2,2,1,0,2,1,1,1,1,1,1,0] KC) (Exit.then (fun a' w' => ∃ (t : Sg), Fr 235 a' ∧ sl a' 1 = .slice (some ⟨g1, 0, none⟩) (k + 1) c1 ∧ sl a' 2 = .slice a2 4 4 ∧ sl a' 3 = .slice a3 16 16 ∧ sl a' 4 = .int .i64 (k : Int) ∧ sl a' 5 = .slice r5.a r5.n r5.c ∧ sl a' 6 = .slice r6.a r6.n r6.c ∧ sl a' 7 = .pointer (some ⟨b7, 0, none⟩) ∧ sl a' 8 = .pointer (some ⟨b8, 0, none⟩) ∧ w'.rangeAt b8 0 t.cs ∧ t.ok w' ∧ (t.on ≤ 44 ∧ t.dn ≤ 48) ∧ Below w5.heap.size w5 w') Nope) a wx := by
  obtain ⟨f, ha, hs⟩ := fr235 hf
  have e1 := (hs 1).trans h1
  have e2 := (hs 2).trans h2
  have e3 := (hs 3).trans h3
  have e4 := (hs 4).trans h4
  have e5 := (hs 5).trans h5
  have e6 := (hs 6).trans h6
  have e7 := (hs 7).trans h7
  have e8 := (hs 8).trans h8
  rw [e1, e2, e3, e4, e5, e6, e7, e8] at ha
  clear hs hf e1 h1 e2 h2 e3 h3 e4 h4 e5 h5 e6 h6 e7 h7 e8 h8
  subst ha
  refine piece2 fun J0 K0 hJ0 hK0 => ?_
  conv => arg 2; whnf
  have e7 : (k : Int) % 7 = 2 := by omega
  have hk3 : 3 ≤ k + 1 := by omega
  have hc8 := HX.out.cell (Sg.c8 _)
  have hm8 := HX.out.may 8 (by decide)
  have hle := HK.out.own.le
  unfold maxLen at hle
  obtain ⟨hle1, hle2⟩ := hle
  have H1 := Lib.hid (HX.out.set { s with p := { s.p with op := bs.take 3 }, oa := some ⟨g1, 0, none⟩, on := 3, oc := c1 } 8 (by decide) (.slice (some ⟨g1, 0, none⟩) 3 c1) rfl ⟨fit_op HX.out.ok.fit _ (HK.out.byt.take 3), (HK.out.own.row HK.out.byt).cut 3 (by omega), HX.out.ok.dat⟩ ⟨by show 3 ≤ 44; decide, HX.out.lim.2⟩)
  rcases Nat.lt_or_eq_of_le hk3 with hk4 | hk4
  · go_wp2_with fail
    refine Met.intro (hJ0 _ _ ?_)
    exact ⟨_, ⟨rfl, rfl⟩, rfl, rfl, rfl, rfl, rfl, rfl, rfl, rfl, H1.out.seg, H1.out.now, H1.out.lim, H1.out.below⟩
  · obtain rfl : k = 2 := by omega
    go_wp2_with fail
    refine Met.intro (hJ0 _ _ ?_)
    exact ⟨_, ⟨rfl, rfl⟩, rfl, rfl, rfl, rfl, rfl, rfl, rfl, rfl, H1.out.seg, H1.out.now, H1.out.lim, H1.out.below⟩

set_option maxRecDepth 100000 in
set_option maxHeartbeats 4000000 in
theorem t22d (w5 : World) (k g1 c1 b7 : Nat) (r5 r6 : Row) (hlt : k < 48) (a2 a3 : Option Addr) (b8 : Nat) (s : Sg) (wx : World) (HX : Hid (SX w5 b8 s wx)) (hr : k % 7 = 3) (a : Act) (hf : Fr 235 a) (h1 : sl a 1 = .slice (some ⟨g1, 0, none⟩) (k + 1) c1) (h2 : sl a 2 = .slice a2 4 4) (h3 : sl a 3 = .slice a3 16 16) (h4 : sl a 4 = .int .i64 (k : Int)) (h5 : sl a 5 = .slice r5.a r5.n r5.c) (h6 : sl a 6 = .slice r6.a r6.n r6.c) (h7 : sl a 7 = .pointer (some ⟨b7, 0, none⟩)) (h8 : sl a 8 = .pointer (some ⟨b8, 0, none⟩)) :
    Code.wp Try.prog (cAt [1,1,1,0,1,2,2,1,0,2,1,1,1,1,1,1,0] KC) (Exit.then (fun a' w' => ∃ (t : Sg), Fr 235 a' ∧ sl a' 1 = .slice (some ⟨g1, 0, none⟩) (k + 1) c1 ∧ sl a' 2 = .slice a2 4 4 ∧ sl a' 3 = .slice a3 16 16 ∧ sl a' 4 = .int .i64 (k : Int) ∧ sl a' 5 = .slice r5.a r5.n r5.c ∧ sl a' 6 = .slice r6.a r6.n r6.c ∧ sl a' 7 = .pointer (some ⟨b7, 0, none⟩) ∧ sl a' 8 = .pointer (some ⟨b8, 0, none⟩) ∧ w'.rangeAt b8 0 t.cs ∧ t.ok w' ∧ (t.on ≤ 44 ∧ t.dn ≤ 48) ∧ Below w5.heap.size w5 w') Nope) a wx := by
  obtain ⟨f, ha, hs⟩ := fr235 hf
  have e1 := (hs 1).trans h1
  have e2 := (hs 2).trans h2
  have e3 := (hs 3).trans h3
  have e4 := (hs 4).trans h4
  have e5 := (hs 5).trans h5
  have e6 := (hs 6).trans h6
  have e7 := (hs 7).trans h7
  have e8 := (hs 8).trans h8
  rw [e1, e2, e3, e4, e5, e6, e7, e8] at ha
  clear hs hf e1 h1 e2 h2 e3 h3 e4 h4 e5 h5 e6 h6 e7 h7 e8 h8
  subst ha
  refine piece2 fun J0 K0 hJ0 hK0 => ?_
  conv => arg 2; whnf
  have e7 : (k : Int) % 7 = 3 := by omega
  have hc0 := HX.out.cell (Sg.c0 _)
  have hm0 := HX.out.may 0 (by decide)
  have H1 := Lib.hid (HX.out.set { s with p := { s.p with pro := (k : Int) } } 0 (by decide) (.int .u8 (k : Int)) rfl ⟨fit_pro HX.out.ok.fit _ (by omega), HX.out.ok.opt, HX.out.ok.dat⟩ HX.out.lim)
  go_wp2_with fail
  refine Met.intro (hJ0 _ _ ?_)
  exact ⟨_, ⟨rfl, rfl⟩, rfl, rfl, rfl, rfl, rfl, rfl, rfl, rfl, H1.out.seg, H1.out.now, H1.out.lim, H1.out.below⟩

set_option maxRecDepth 100000 in
set_option maxHeartbeats 4000000 in
theorem t22e (w5 : World) (k g1 c1 b7 : Nat) (r5 r6 : Row) (hlt : k < 48) (a2 a3 : Option Addr) (b8 : Nat) (s : Sg) (wx : World) (HX : Hid (SX w5 b8 s wx)) (hr : k % 7 = 4) (a : Act) (hf : Fr 235 a) (h1 : sl a 1 = .slice (some ⟨g1, 0, none⟩) (k + 1) c1) (h2 : sl a 2 = .slice a2 4 4) (h3 : sl a 3 = .slice a3 16 16) (h4 : sl a 4 = .int .i64 (k : Int)) (h5 : sl a 5 = .slice r5.a r5.n r5.c) (h6 : sl a 6 = .slice r6.a r6.n r6.c) (h7 : sl a 7 = .pointer (some ⟨b7, 0, none⟩)) (h8 : sl a 8 = .pointer (some ⟨b8, 0, none⟩)) :
    Code.wp Try.prog (cAt [1,1,1,0,1,2,2,1,0,2,1,1,1,1,1,1,0] KC) (Exit.then (fun a' w' => ∃ (t : Sg), Fr 235 a' ∧ sl a' 1 = .slice (some ⟨g1, 0, none⟩) (k + 1) c1 ∧ sl a' 2 = .slice a2 4 4 ∧ sl a' 3 = .slice a3 16 16 ∧ sl a' 4 = .int .i64 (k : Int) ∧ sl a' 5 = .slice r5.a r5.n r5.c ∧ sl a' 6 = .slice r6.a r6.n r6.c ∧ sl a' 7 = .pointer (some ⟨b7, 0, none⟩) ∧ sl a' 8 = .pointer (some ⟨b8, 0, none⟩) ∧ w'.rangeAt b8 0 t.cs ∧ t.ok w' ∧ (t.on ≤ 44 ∧ t.dn ≤ 48) ∧ Below w5.heap.size w5 w') Nope) a wx := by
  obtain ⟨f, ha, hs⟩ := fr235 hf
  have e1 := (hs 1).trans h1
  have e2 := (hs 2).trans h2
  have e3 := (hs 3).trans h3
  have e4 := (hs 4).trans h4
  have e5 := (hs 5).trans h5
  have e6 := (hs 6).trans h6
  have e7 := (hs 7).trans h7
  have e8 := (hs 8).trans h8
  rw [e1, e2, e3, e4, e5, e6, e7, e8] at ha
  clear hs hf e1 h1 e2 h2 e3 h3 e4 h4 e5 h5 e6 h6 e7 h7 e8 h8
  subst ha
  refine piece2 fun J0 K0 hJ0 hK0 => ?_
  conv => arg 2; whnf
  have e7 : (k : Int) % 7 = 4 := by omega
  have hc8 := HX.out.cell (Sg.c8 _)
  have hm8 := HX.out.may 8 (by decide)
  obtain ⟨wy, hmk, hm, hbm⟩ := mk_nz wx 44 (by decide)
  have hmk' : (Instr.makeSlice 24 (.int .i64 44) (.int .i64 44)).run Try.prog wx = .ok (.slice (some ⟨wx.heap.size, 0, none⟩) 44 44) wy := hmk
  have hlt8 : b8 < wx.heap.size := by
    obtain ⟨h1, _⟩ := HX.out.th 0 (by decide)
    obtain ⟨v, hv⟩ := Option.isSome_iff_exists.1 h1
    exact World.block_lt_of_cell? wx ⟨b8, 0 + 0, none⟩ hv
  have hc8 := cell_kept hbm hc8
  have hT := there_kept' hbm HX.out.th (by decide)
  have hm8 : wy.frozen? ⟨b8, 8, none⟩ = false := by
    have := (hT 8 (by decide)).2
    rwa [Nat.zero_add] at this
  have hbw : Below w5.heap.size w5 wy := HX.out.below.trans (hbm.mono HX.out.below.size)
  have hbz : Below w5.heap.size w5 (wy.setCell ⟨b8, 8, none⟩ (.slice (some ⟨wx.heap.size, 0, none⟩) 44 44)) := hbw.setCell (p := ⟨b8, 8, none⟩) HX.out.ge _
  have hoz : Own (wy.setCell ⟨b8, 8, none⟩ (.slice (some ⟨wx.heap.size, 0, none⟩) 44 44)) wx.heap.size (some ⟨wx.heap.size, 0, none⟩) 44 44 (nz 44) :=
    hm.keep (S := fun q => q = b8) (Kept.setCell (S := fun q => q = b8) _ _ _ rfl) (fun q e e2 => by have := (hm.blk_ge q e).1; omega)
  have HR : Hid (World.rangeAt (wy.setCell ⟨b8, 8, none⟩ (.slice (some ⟨wx.heap.size, 0, none⟩) 44 44)) b8 0 (Sg.cs { s with p := { s.p with op := nz 44 }, oa := some ⟨wx.heap.size, 0, none⟩, on := 44, oc := 44 }) ∧
      Sg.ok (wy.setCell ⟨b8, 8, none⟩ (.slice (some ⟨wx.heap.size, 0, none⟩) 44 44)) { s with p := { s.p with op := nz 44 }, oa := some ⟨wx.heap.size, 0, none⟩, on := 44, oc := 44 } ∧ (44 ≤ 44 ∧ s.dn ≤ 48) ∧
      Below w5.heap.size w5 (wy.setCell ⟨b8, 8, none⟩ (.slice (some ⟨wx.heap.size, 0, none⟩) 44 44))) :=
    ⟨range_one (cs := s.cs) (range_kept hbm HX.out.seg) hT (by show 8 < 12; decide) _, ⟨fit_op HX.out.ok.fit _ (nz_byt 44), hoz.row (nz_byt 44), HX.out.ok.dat.below hbz⟩, ⟨by decide, HX.out.lim.2⟩, hbz⟩
  clear hmk hm hbm hT hbw hbz hoz
  go_wp2_with fail
  refine Met.intro (hJ0 _ _ ?_)
  exact ⟨_, ⟨rfl, rfl⟩, rfl, rfl, rfl, rfl, rfl, rfl, rfl, rfl, HR.out⟩

set_option maxRecDepth 100000 in
set_option maxHeartbeats 4000000 in
theorem t22f (w5 : World) (k g1 c1 b7 : Nat) (r5 r6 : Row) (hlt : k < 48) (a2 a3 : Option Addr) (b8 : Nat) (s : Sg) (wx : World) (HX : Hid (SX w5 b8 s wx)) (hr : k % 7 = 5) (a : Act) (hf : Fr 235 a) (h1 : sl a 1 = .slice (some ⟨g1, 0, none⟩) (k + 1) c1) (h2 : sl a 2 = .slice a2 4 4) (h3 : sl a 3 = .slice a3 16 16) (h4 : sl a 4 = .int .i64 (k : Int)) (h5 : sl a 5 = .slice r5.a r5.n r5.c) (h6 : sl a 6 = .slice r6.a r6.n r6.c) (h7 : sl a 7 = .pointer (some ⟨b7, 0, none⟩)) (h8 : sl a 8 = .pointer (some ⟨b8, 0, none⟩)) :
    Code.wp Try.prog (cAt [1,1,1,0,1,2,2,1,0,2,1,1,1,1,1,1,0] KC) (Exit.then (fun a' w' => ∃ (t : Sg), Fr 235 a' ∧ sl a' 1 = .slice (some ⟨g1, 0, none⟩) (k + 1) c1 ∧ sl a' 2 = .slice a2 4 4 ∧ sl a' 3 = .slice a3 16 16 ∧ sl a' 4 = .int .i64 (k : Int) ∧ sl a' 5 = .slice r5.a r5.n r5.c ∧ sl a' 6 = .slice r6.a r6.n r6.c ∧ sl a' 7 = .pointer (some ⟨b7, 0, none⟩) ∧ sl a' 8 = .pointer (some ⟨b8, 0, none⟩) ∧ w'.rangeAt b8 0 t.cs ∧ t.ok w' ∧ (t.on ≤ 44 ∧ t.dn ≤ 48) ∧ Below w5.heap.size w5 w') Nope) a wx := by
  obtain ⟨f, ha, hs⟩ := fr235 hf
  have e1 := (hs 1).trans h1
  have e2 := (hs 2).trans h2
  have e3 := (hs 3).trans h3
  have e4 := (hs 4).trans h4
  have e5 := (hs 5).trans h5
  have e6 := (hs 6).trans h6
  have e7 := (hs 7).trans h7
  have e8 := (hs 8).trans h8
  rw [e1, e2, e3, e4, e5, e6, e7, e8] at ha
  clear hs hf e1 h1 e2 h2 e3 h3 e4 h4 e5 h5 e6 h6 e7 h7 e8 h8
  subst ha
  refine piece2 fun J0 K0 hJ0 hK0 => ?_
  conv => arg 2; whnf
  have e7 : (k : Int) % 7 = 5 := by omega
  go_wp2_with fail
  refine Met.intro (hJ0 _ _ ?_)
  exact ⟨_, ⟨rfl, rfl⟩, rfl, rfl, rfl, rfl, rfl, rfl, rfl, rfl, HX.out.seg, HX.out.now, HX.out.lim, HX.out.below⟩

set_option maxRecDepth 100000 in
set_option maxHeartbeats 4000000 in
theorem t22g (w5 : World) (k g1 c1 b7 : Nat) (r5 r6 : Row) (hlt : k < 48) (a2 a3 : Option Addr) (b8 : Nat) (s : Sg) (wx : World) (HX : Hid (SX w5 b8 s wx)) (hr : k % 7 = 6) (a : Act) (hf : Fr 235 a) (h1 : sl a 1 = .slice (some ⟨g1, 0, none⟩) (k + 1) c1) (h2 : sl a 2 = .slice a2 4 4) (h3 : sl a 3 = .slice a3 16 16) (h4 : sl a 4 = .int .i64 (k : Int)) (h5 : sl a 5 = .slice r5.a r5.n r5.c) (h6 : sl a 6 = .slice r6.a r6.n r6.c) (h7 : sl a 7 = .pointer (some ⟨b7, 0, none⟩)) (h8 : sl a 8 = .pointer (some ⟨b8, 0, none⟩)) :
    Code.wp Try.prog (cAt [1,1,1,0,1,2,2,1,0,2,1,1,1,1,1,1,0] KC) (Exit.then (fun a' w' => ∃ (t : Sg), Fr 235 a' ∧ sl a' 1 = .slice (some ⟨g1, 0, none⟩) (k + 1) c1 ∧ sl a' 2 = .slice a2 4 4 ∧ sl a' 3 = .slice a3 16 16 ∧ sl a' 4 = .int .i64 (k : Int) ∧ sl a' 5 = .slice r5.a r5.n r5.c ∧ sl a' 6 = .slice r6.a r6.n r6.c ∧ sl a' 7 = .pointer (some ⟨b7, 0, none⟩) ∧ sl a' 8 = .pointer (some ⟨b8, 0, none⟩) ∧ w'.rangeAt b8 0 t.cs ∧ t.ok w' ∧ (t.on ≤ 44 ∧ t.dn ≤ 48) ∧ Below w5.heap.size w5 w') Nope) a wx := by
  obtain ⟨f, ha, hs⟩ := fr235 hf
  have e1 := (hs 1).trans h1
  have e2 := (hs 2).trans h2
  have e3 := (hs 3).trans h3
  have e4 := (hs 4).trans h4
  have e5 := (hs 5).trans h5
  have e6 := (hs 6).trans h6
  have e7 := (hs 7).trans h7
  have e8 := (hs 8).trans h8
  rw [e1, e2, e3, e4, e5, e6, e7, e8] at ha
  clear hs hf e1 h1 e2 h2 e3 h3 e4 h4 e5 h5 e6 h6 e7 h7 e8 h8
  subst ha
  refine piece2 fun J0 K0 hJ0 hK0 => ?_
  conv => arg 2; whnf
  have e7 : (k : Int) % 7 = 6 := by omega
  go_wp2_with fail
  refine Met.intro (hJ0 _ _ ?_)
  exact ⟨_, ⟨rfl, rfl⟩, rfl, rfl, rfl, rfl, rfl, rfl, rfl, rfl, HX.out.seg, HX.out.now, HX.out.lim, HX.out.below⟩

end Go.Proofs.Ytabdejoakecioaa

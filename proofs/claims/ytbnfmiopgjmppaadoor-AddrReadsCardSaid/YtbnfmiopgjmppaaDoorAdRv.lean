/-
  The contract of the document's own Digit. Condition: a place from 0 to 127.
-/
import Derived.Test.YtbnfmiopgjmppaaDoorAdR2
import Derived.Test.YtbnfmiopgjmppaaDoorAdBf
import Derived.Test.YtbnfmiopgjmppaaDoorAdPc
import Derived.Test.YtbnfmiopgjmppaaDoorAdWk
import Derived.Test.YtbnfmiopgjmppaaDoorAdR13
namespace Go.Proofs.YtbnfmiopgjmppaaDoor
open Go.RowKit

/-- The digit number r of a byte, from the left. -/
def dgt (x r : Nat) : Nat := x / 2 ^ (7 - r) % 2

set_option maxRecDepth 100000 in
set_option maxHeartbeats 2000000 in
theorem r4Digit_any (s : Bool) (xs : List Int) (i : Nat) (w : World) (hl : xs.length = 16) (hb : Byt xs) (hi : i < 128) : Calls Tryd.prog 76 #[.agg (adl s xs).toArray, .int .i64 i] w (Gives w (.int .i64 (dgt (xs.getD (i / 8) 0).toNat (i % 8) : Nat))) := by
  have HA : Hid (∀ wz, w.alloc (.cells (adl s xs).toArray 27) = wz → Ab wz w.heap.size s xs ∧ Below w.heap.size w wz) := by
    rintro wz rfl
    exact ⟨Ab.new _ _ _, (Below.refl _ _).alloc (Nat.le_refl _) _⟩
  have hx := hb.get (i / 8)
  have f1 : (i : Int).tdiv 8 = ((i / 8 : Nat) : Int) := (Int.ofNat_tdiv i 8).symm
  have f2 : (i : Int).tmod 8 = ((i % 8 : Nat) : Int) := (Int.ofNat_tmod i 8).symm
  have g1 : IntKind.i64.wrap ((i / 8 : Nat) : Int) = ((i / 8 : Nat) : Int) := by rw [IntKind.wrap_i64]; omega
  have g2 : IntKind.i64.wrap ((i % 8 : Nat) : Int) = ((i % 8 : Nat) : Int) := by rw [IntKind.wrap_i64]; omega
  have hj : i / 8 < 16 := by omega
  have hr : i % 8 < 8 := by omega
  obtain ⟨j, ej⟩ : ∃ j, i / 8 = j := ⟨_, rfl⟩
  obtain ⟨r, er⟩ : ∃ r, i % 8 = r := ⟨_, rfl⟩
  rw [ej] at f1 g1 hj hx ⊢
  rw [er] at f2 g2 hr ⊢
  clear ej er hi
  obtain ⟨x, ex⟩ : ∃ x : Nat, xs.getD j 0 = (x : Int) := ⟨(xs.getD j 0).toNat, by omega⟩
  have hcell : (adl s xs)[1 + j]? = some (.int .u8 (x : Int)) := by
    have hjl : j < xs.length := by omega
    rw [List.getD_eq_getElem?_getD, List.getElem?_eq_getElem hjl, Option.getD_some] at ex
    rw [Nat.add_comm, adl, List.getElem?_cons_succ, bv, List.getElem?_map, List.getElem?_eq_getElem hjl, ex]
    rfl
  have hx1 : x < 256 := by rw [ex] at hx; omega
  have HX := Lib.hid ex
  rw [show (xs.getD j 0).toNat = x by rw [ex]; rfl]
  clear hx ex
  have hj2 : (j : Int) < 16 := by omega
  go_enter Tryd.func76, Tryd.ntmps76
  go_wp2_with fail
  obtain ⟨wz, hwz⟩ : ∃ z, w.alloc (.cells (adl s xs).toArray 27) = z := ⟨_, rfl⟩
  have HZ := Lib.hid (HA.out wz hwz)
  rw [hwz]
  clear hwz HA
  go_loopw [5, 6] (fun b_ k_ wr => ∃ k y : Nat, r ≤ k ∧ k ≤ 7 ∧ k_ = .int .i64 k ∧ b_ = .int .i64 y ∧ y < 256 ∧ Hid (y = x / 2 ^ (k - r)) ∧ wr = wz) (fun _ k_ => fun _ => 7 - (intOf k_).toNat)
  case atStart => exact ⟨r, x, Nat.le_refl _, by omega, rfl, rfl, hx1, by show _ = _; simp, rfl⟩
  case round =>
    obtain ⟨k, y, hk0, hk, rfl, rfl, hy, hq, rfl⟩ := hrel
    by_cases hlt : k < 7
    · have hlt2 : (k : Int) < 7 := by omega
      have f3 : (y : Int).tdiv 2 = ((y / 2 : Nat) : Int) := (Int.ofNat_tdiv y 2).symm
      have g3 : IntKind.i64.wrap ((y / 2 : Nat) : Int) = ((y / 2 : Nat) : Int) := by rw [IntKind.wrap_i64]; omega
      have hy2 : y / 2 < 256 := by omega
      have HY : Hid (y / 2 = x / 2 ^ (k + 1 - r)) := by
        show _ = _
        rw [hq.out, Nat.div_div_eq_div_mul, show k + 1 - r = (k - r) + 1 by omega, Nat.pow_succ]
      obtain ⟨z, hz⟩ : ∃ z, y / 2 = z := ⟨_, rfl⟩
      rw [hz] at f3 g3 hy2 HY
      clear hz
      go_wp2_with fail
      go_roundw
      case rel => exact ⟨k + 1, z, by omega, by omega, by go_num, by first | rfl | go_num, hy2, HY, by first | rfl | trivial⟩
      case measure => simp [intOf]; omega
    · obtain rfl : k = 7 := by omega
      have f3 : (y : Int).tmod 2 = ((y % 2 : Nat) : Int) := (Int.ofNat_tmod y 2).symm
      have g3 : IntKind.i64.wrap ((y % 2 : Nat) : Int) = ((y % 2 : Nat) : Int) := by rw [IntKind.wrap_i64]; omega
      have HY : Hid (dgt x r = y % 2) := by show _ = _; rw [dgt, hq.out]
      obtain ⟨z, hz⟩ : ∃ z, y % 2 = z := ⟨_, rfl⟩
      rw [hz] at f3 g3 HY
      clear hz
      go_wp2_with fail
      go_ret
      exact ⟨by rw [HY.out]; rfl, HZ.out.2⟩
end Go.Proofs.YtbnfmiopgjmppaaDoor

namespace Go.Proofs.YtbnfmiopgjmppaaDoor
open Go.RowKit

theorem msk_step_fin : ∀ (x : Fin 256) (k : Fin 8), msk (x.val : Int) k.val + ((dgt x.val k.val * 2 ^ (7 - k.val) : Nat) : Int) = msk (x.val : Int) (k.val + 1) := by decide +kernel
theorem msk_step {x : Int} (h0 : 0 ≤ x) (h1 : x < 256) {k : Nat} (hk : k < 8) : msk x k + ((dgt x.toNat k * 2 ^ (7 - k) : Nat) : Int) = msk x (k + 1) := by
  have := msk_step_fin ⟨x.toNat, by omega⟩ ⟨k, hk⟩
  simpa only [show ((x.toNat : Nat) : Int) = x by omega] using this
theorem mskb9_fin : ∀ (x : Fin 256) (k : Fin 9), 0 ≤ msk (x.val : Int) k.val ∧ msk (x.val : Int) k.val < 256 := by decide +kernel
theorem mskb9 {x : Int} (h0 : 0 ≤ x) (h1 : x < 256) {k : Nat} (hk : k < 9) : 0 ≤ msk x k ∧ msk x k < 256 := by
  have := mskb9_fin ⟨x.toNat, by omega⟩ ⟨k, hk⟩
  simpa only [show ((x.toNat : Nat) : Int) = x by omega] using this
theorem dgt_le (x r : Nat) : dgt x r ≤ 1 := by unfold dgt; omega
theorem hdL_zero {xs : List Int} (hb : Byt xs) : hdL xs 0 = zs 16 := by
  refine ext16 (hdL_len _ _) (zs_length 16) (fun i hi => ?_)
  obtain ⟨h0, h1⟩ := hb.get i
  rw [hdL_get _ _ _ hi, show kp 0 i = 0 by unfold kp; omega, (msk_8 h0 h1).2]
  exact ((by decide : ∀ i : Fin 16, (0 : Int) = (zs 16).getD i.val 0) ⟨i, hi⟩)
theorem hdL_set {xs : List Int} {i : Nat} (_hi : i < 128) : (hdL xs (i : Int)).set (i / 8) (msk (xs.getD (i / 8) 0) (i % 8 + 1)) = hdL xs ((i + 1 : Nat) : Int) := by
  refine ext16 (by rw [List.length_set, hdL_len]) (hdL_len _ _) (fun j hj => ?_)
  rw [hdL_get _ _ _ hj, List.getD_eq_getElem?_getD, List.getElem?_set, hdL_len]
  by_cases he : i / 8 = j
  · rw [if_pos he, if_pos (by omega), Option.getD_some, ← he]
    congr 1
    unfold kp; omega
  · rw [if_neg he, ← List.getD_eq_getElem?_getD, hdL_get _ _ _ hj]
    congr 1
    unfold kp; omega
theorem builtRP (s : Bool) (xs : List Int) (n : Int) (h : xs.length = 16) : Tryd.prog.built 52 [(0, .agg (adl s xs).toArray), (1, .int .i64 n)] = some (pfl s xs n).toArray := by
  obtain ⟨a, b, c, d, e, f, g, i, j, k, l, m, n, o, p, q, rfl⟩ := list16 xs h
  kernel_rfl
theorem builtRP0 : Tryd.prog.built 52 [] = some (pfl false (zs 16) 0).toArray := by kernel_rfl

/-- The memory of Cut: the address, the result's place. -/
structure Ca (w wr : World) (s : Bool) (xs : List Int) (gA gO : Nat) : Prop where
  below : Below w.heap.size w wr
  addr : wr.rangeAt gA 0 (adl s xs)
  out : wr.there gO 0 18
  og : w.heap.size ≤ gO
theorem Ca.past {w wr w' : World} {s : Bool} {xs : List Int} {gA gO : Nat} (h : Ca w wr s xs gA gO) (hb : Below wr.heap.size wr w') : Ca w w' s xs gA gO :=
  ⟨h.below.trans (hb.mono h.below.size), range_kept hb h.addr, there_kept hb h.out, h.og⟩
/-- .. and the prefix that is built. -/
structure Cb (w wr : World) (s : Bool) (xs : List Int) (gA gO g : Nat) (ys : List Int) (m : Int) : Prop where
  ca : Ca w wr s xs gA gO
  row : wr.rangeAt g 0 (pfl s ys m)
  th : wr.there g 0 18
  og : w.heap.size ≤ g
  na : gA ≠ g
  no : gO ≠ g
theorem Cb.past {w wr w' : World} {s : Bool} {xs ys : List Int} {gA gO g : Nat} {m : Int} (h : Cb w wr s xs gA gO g ys m) (hb : Below wr.heap.size wr w') : Cb w w' s xs gA gO g ys m :=
  ⟨h.ca.past hb, range_kept hb h.row, there_kept hb h.th, h.og, h.na, h.no⟩
theorem pfl_get (s : Bool) (ys : List Int) (m : Int) (hl : ys.length = 16) {j : Nat} (hj : j < 16) : (pfl s ys m)[1 + j]? = some (.int .u8 (ys.getD j 0)) := by
  have hj2 : j < ys.length := by omega
  simp [pfl, bv, Nat.add_comm 1 j, List.getElem?_append, hj2]
theorem Cb.cell {w wr : World} {s : Bool} {xs ys : List Int} {gA gO g : Nat} {m : Int} (h : Cb w wr s xs gA gO g ys m) (hl : ys.length = 16) {j : Nat} (hj : j < 16) : wr.cell? ⟨g, 1 + j, none⟩ = some (.int .u8 (ys.getD j 0)) := by
  have := h.row (1 + j) _ (pfl_get s ys m hl hj)
  rwa [Nat.zero_add] at this
theorem Cb.frozen {w wr : World} {s : Bool} {xs ys : List Int} {gA gO g : Nat} {m : Int} (h : Cb w wr s xs gA gO g ys m) {j : Nat} (hj : j < 16) : wr.frozen? ⟨g, 1 + j, none⟩ = false := by
  have := (h.th (1 + j) (by omega)).2
  rwa [Nat.zero_add] at this
theorem pfl_set (s : Bool) (ys : List Int) (m : Int) (hl : ys.length = 16) {j : Nat} (hj : j < 16) (z : Int) : (pfl s ys m).set (1 + j) (.int .u8 z) = pfl s (ys.set j z) m := by
  have hj2 : j < (bv ys).length := by rw [bv_length]; omega
  simp only [pfl, Nat.add_comm 1 j, List.set_cons_succ]
  rw [List.set_append_left _ _ hj2]
  simp [bv, List.map_set]
theorem Cb.set {w wr : World} {s : Bool} {xs ys : List Int} {gA gO g : Nat} {m : Int} (h : Cb w wr s xs gA gO g ys m) (hl : ys.length = 16) {j : Nat} (hj : j < 16) (z : Int) :
    Cb w (wr.setCell ⟨g, 1 + j, none⟩ (.int .u8 z)) s xs gA gO g (ys.set j z) m := by
  have hsm : (wr.setCell ⟨g, 1 + j, none⟩ (.int .u8 z)).cell? ⟨g, 1 + j, none⟩ = some (.int .u8 z) := World.cell?_setCell_same _ _ _ (by rw [h.cell hl hj])
  refine ⟨⟨h.ca.below.setCell (p := ⟨g, 1 + j, none⟩) h.og _, fun k v hv => ?_, fun k hk => ?_, h.ca.og⟩, fun k v hv => ?_, fun k hk => ?_, h.og, h.na, h.no⟩
  · rw [World.cell?_setCell_other _ _ _ _ (by intro e; exact h.na (congrArg Addr.block e).symm)]; exact h.ca.addr k v hv
  · have := h.ca.out k hk
    rw [World.cell?_setCell_other _ _ _ _ (by intro e; exact h.no (congrArg Addr.block e).symm), World.frozen?_setCell]
    exact this
  · rw [← pfl_set s ys m hl hj z] at hv
    by_cases e : k = 1 + j
    · subst e
      rw [List.getElem?_set_self (by rw [pfl_len s ys m hl]; omega)] at hv
      rw [Nat.zero_add, hsm]; exact hv
    · rw [List.getElem?_set_ne (fun h => e h.symm)] at hv
      rw [World.cell?_setCell_other _ _ _ _ (by intro h2; simp only [Addr.mk.injEq] at h2; omega)]
      exact h.row k v hv
  · have := h.th k hk
    rw [World.frozen?_setCell]
    refine ⟨?_, this.2⟩
    by_cases e : k = 1 + j
    · subst e; rw [Nat.zero_add, hsm]; rfl
    · rw [World.cell?_setCell_other _ _ _ _ (by intro h2; simp only [Addr.mk.injEq] at h2; omega)]; exact this.1
theorem sc_cell4 {w : World} {g : Nat} {p : Addr} (hne : p.block ≠ g) (vs : List Value) : (w.setCells g 0 vs).cell? p = w.cell? p :=
  World.cell?_setCells_out g vs 0 w p (fun h _ => absurd h hne)
/-- The prefix is laid in a block that is new. -/
theorem Ca.lay {w wr : World} {s : Bool} {xs : List Int} {gA gO : Nat} (h : Ca w wr s xs gA gO) (Z : Array Value) (hZ : Z.size = 18) (ys : List Int) (m : Int) (hl : ys.length = 16) :
    Cb w ((wr.alloc (.cells Z 52)).setCells wr.heap.size 0 (pfl s ys m)) s xs gA gO wr.heap.size ys m := by
  have h1 := h.past (bel1 wr (.cells Z 52))
  have hA : gA ≠ wr.heap.size := by
    have := World.block_lt_of_cell? wr _ (h.addr 0 (.bool s) rfl)
    simp only at this; omega
  have hO : gO ≠ wr.heap.size := by
    obtain ⟨u, hu⟩ := Option.isSome_iff_exists.1 (h.out 0 (by omega)).1
    have := World.block_lt_of_cell? wr _ hu
    simp only at this; omega
  have ht : World.there (wr.alloc (.cells Z 52)) wr.heap.size 0 18 := there_new _ _ _ _ hZ _ rfl
  exact ⟨⟨Below.setCells h1.below _ h.below.size _ _, fun k v hv => by rw [sc_cell4 hA]; exact h1.addr k v hv, World.there_setCells h1.out _ _ _, h.og⟩,
    World.rangeAt_setCells_same _ _ _ _ (by rw [pfl_len s ys m hl]; exact ht), World.there_setCells ht _ _ _, h.below.size, hA, hO⟩
theorem stNQ {ops : Array Oper} {rest : List Oper} {o : Oper} {a : Act} {w : World} {Q : Exit → Act → World → Prop} (P : World → Prop) (x y : Operand) (ho : o.op = .store 52 x y) (hgd : o.guard = none) (b off : Nat) (s : Bool) (xs : List Int) (n : Int) (hx : a.eval x = .pointer (some ⟨b, off, none⟩)) (hy : a.eval y = .agg (pfl s xs n).toArray) (hl : xs.length = 16)
    (ht : w.there b off 18) (hP : P (w.setCells b off (pfl s xs n))) (h : ∀ w', P w' → wpList Tryd.prog ops Q rest (a.put o.dst undef) w') : wpList Tryd.prog ops Q (o :: rest) a w :=
  stQ x y ho hgd b off s xs n hx hy hl ht (h _ hP)

noncomputable def KCU : Code := Tryd.f64.body.getD .skip
set_option maxRecDepth 100000 in
theorem frKCU {a : Act} (h : Fr 56 a) : ∃ f : Nat → Value, a = ⟨#[f 0, f 1, f 2, f 3, f 4, f 5, f 6, f 7, f 8, f 9, f 10, f 11, f 12, f 13, f 14, f 15, f 16, f 17, f 18, f 19, f 20, f 21, f 22, f 23, f 24, f 25, f 26, f 27, f 28, f 29, f 30, f 31, f 32, f 33, f 34, f 35, f 36, f 37, f 38, f 39, f 40, f 41, f 42, f 43, f 44, f 45, f 46, f 47, f 48, f 49, f 50, f 51, f 52, f 53, f 54, f 55], []⟩ ∧ ∀ i, f i = sl a i := fr_any h

set_option maxRecDepth 100000 in
set_option maxHeartbeats 4000000 in
theorem c0 (w : World) (s : Bool) (xs : List Int) (n : Int) (a : Act) (hf : Fr 56 a) (h0 : sl a 0 = .agg (adl s xs).toArray) (h1 : sl a 1 = .int .i64 n) :
    Code.wp Tryd.prog (cAt [0] KCU) (Exit.then (fun a' w' => ∃ gA : Nat, ∃ gO : Nat, Fr 56 a' ∧ sl a' 1 = .int .i64 n ∧ sl a' 2 = .pointer (some ⟨gA, 0, none⟩) ∧ sl a' 4 = .pointer (some ⟨gO, 0, none⟩) ∧ Ca w w' s xs gA gO) Nope) a w := by
  obtain ⟨f, ha, hs⟩ := frKCU hf
  have e0 := (hs 0).trans h0
  have e1 := (hs 1).trans h1
  rw [e0, e1] at ha
  clear hs hf e0 h0 e1 h1
  subst ha
  refine piece2 fun J0 K0 hJ0 hK0 => ?_
  conv => arg 2; whnf
  have hA : Hid (World.rangeAt ((w.alloc (.cells (adl s xs).toArray 27)).alloc (.cells (pfl false (zs 16) 0).toArray 52)) w.heap.size 0 (adl s xs)) := range_kept (bel1 _ _) (adl_range w s xs _)
  have hO : Hid (World.there ((w.alloc (.cells (adl s xs).toArray 27)).alloc (.cells (pfl false (zs 16) 0).toArray 52)) (w.heap.size + 1) 0 18) := by
    show World.there _ _ _ _
    have := there_new (w.alloc (.cells (adl s xs).toArray 27)) (pfl false (zs 16) 0).toArray 52 18 rfl _ rfl
    simpa using this
  have hb : Hid (Below w.heap.size w ((w.alloc (.cells (adl s xs).toArray 27)).alloc (.cells (pfl false (zs 16) 0).toArray 52))) := ((Below.refl _ _).alloc (Nat.le_refl _) _).alloc (by simp) _
  go_wp2_with fail
  refine Met.intro (hJ0 _ _ ?_)
  exact ⟨w.heap.size, (w.heap.size + 1), ⟨rfl, rfl⟩, rfl, rfl, rfl, ⟨hb.out, hA.out, hO.out, by omega⟩⟩

set_option maxRecDepth 100000 in
set_option maxHeartbeats 4000000 in
theorem c1 (w : World) (s : Bool) (xs : List Int) (n : Int) (HL : Hid (xs.length = 16)) (HB : Hid (Byt xs)) (w0 : World) (gA : Nat) (gO : Nat) (HM0 : Hid (Ca w w0 s xs gA gO)) (a : Act) (hf : Fr 56 a) (h1 : sl a 1 = .int .i64 n) (h2 : sl a 2 = .pointer (some ⟨gA, 0, none⟩)) (h4 : sl a 4 = .pointer (some ⟨gO, 0, none⟩)) :
    Code.wp Tryd.prog (cAt [1,0,0] KCU) (Exit.then (fun a' w' => Fr 56 a' ∧ sl a' 1 = .int .i64 n ∧ sl a' 2 = .pointer (some ⟨gA, 0, none⟩) ∧ sl a' 4 = .pointer (some ⟨gO, 0, none⟩) ∧ sl a' 11 = .bool (!(rgt s xs)) ∧ Ca w w' s xs gA gO) Nope) a w0 := by
  obtain ⟨f, ha, hs⟩ := frKCU hf
  have e1 := (hs 1).trans h1
  have e2 := (hs 2).trans h2
  have e4 := (hs 4).trans h4
  rw [e1, e2, e4] at ha
  clear hs hf e1 h1 e2 h2 e4 h4
  subst ha
  refine piece2 fun J0 K0 hJ0 hK0 => ?_
  conv => arg 2; whnf
  go_wp2_with (refine ldR (.tmp 2) rfl rfl gA 0 rfl s xs HL.out (by exact HM0.out.addr) ?_)
  refine (r4Right_any s xs _ HL.out).mono ?_
  rintro e wa ⟨rfl, hb⟩
  have HMa := Lib.hid (HM0.out.past hb)
  clear hb
  rw [rgR_rgt HL.out HB.out]
  obtain ⟨r1, hr1⟩ : ∃ r, rgt s xs = r := ⟨_, rfl⟩
  rw [hr1]
  have HV := Lib.hid hr1
  clear hr1
  cases r1
  · go_wp2_with fail
    refine Met.intro (hJ0 _ _ ?_)
    exact ⟨⟨rfl, rfl⟩, rfl, rfl, rfl, by rw [HV.out]; rfl, HMa.out⟩
  · go_wp2_with fail
    refine Met.intro (hJ0 _ _ ?_)
    exact ⟨⟨rfl, rfl⟩, rfl, rfl, rfl, by rw [HV.out]; rfl, HMa.out⟩

set_option maxRecDepth 100000 in
set_option maxHeartbeats 4000000 in
theorem cno (w wr : World) (s : Bool) (xs : List Int) (gA gO : Nat) (HM : Hid (Ca w wr s xs gA gO)) (a : Act) (hf : Fr 56 a) (h4 : sl a 4 = .pointer (some ⟨gO, 0, none⟩)) :
    Code.wp Tryd.prog (cAt [1,0,1,3] KCU) (RetsV Tryd.f64 (Gives w (.agg (pfl false (zs 16) 0).toArray))) a wr := by
  obtain ⟨f, ha, hs⟩ := frKCU hf
  have e4 := (hs 4).trans h4
  rw [e4] at ha
  clear hs hf e4 h4
  subst ha
  conv => arg 2; whnf
  go_wp2_with (first
    | (refine wpList_build_run (cells := (pfl false (zs 16) 0).toArray) rfl 52 _ rfl ?_ ?_; · exact builtRP0)
    | (refine stQ (.tmp 4) (.tmp 12) rfl rfl gO 0 false (zs 16) 0 rfl rfl (zs_length 16) HM.out.out ?_))
  refine ⟨rfl, ?_⟩
  refine bodyPost_ret (v := .agg (pfl false (zs 16) 0).toArray) (ret_mid Tryd.results64 _ _ _ _ (pfl false (zs 16) 0) _ rfl (World.rangeAt_setCells_same _ _ _ _ (by rw [pfl_len _ _ _ (zs_length 16)]; exact HM.out.out)) Tryd.underlying52 rfl (by rw [pfl_len _ _ _ (zs_length 16)]; exact infQ)) rfl ⟨rfl, ?_⟩
  exact Below.setCells HM.out.below _ HM.out.og _ _

set_option maxRecDepth 100000 in
set_option maxHeartbeats 4000000 in
theorem c3 (w : World) (s : Bool) (xs : List Int) (n : Int) (m : Int) (_HL : Hid (xs.length = 16)) (gA : Nat) (gO : Nat) (w1 : World) (HM1 : Hid (Ca w w1 s xs gA gO)) (HMM : Hid (clm s n = m)) (a : Act) (hf : Fr 56 a) (h1 : sl a 1 = .int .i64 n) (h2 : sl a 2 = .pointer (some ⟨gA, 0, none⟩)) (h4 : sl a 4 = .pointer (some ⟨gO, 0, none⟩)) :
    Code.wp Tryd.prog (cAt [1,1,0] KCU) (Exit.then (fun a' w' => Fr 56 a' ∧ sl a' 1 = .int .i64 m ∧ sl a' 2 = .pointer (some ⟨gA, 0, none⟩) ∧ sl a' 4 = .pointer (some ⟨gO, 0, none⟩) ∧ w1 = w') Nope) a w1 := by
  obtain ⟨f, ha, hs⟩ := frKCU hf
  have e1 := (hs 1).trans h1
  have e2 := (hs 2).trans h2
  have e4 := (hs 4).trans h4
  rw [e1, e2, e4] at ha
  clear hs hf e1 h1 e2 h2 e4 h4
  subst ha
  refine piece2 fun J0 K0 hJ0 hK0 => ?_
  conv => arg 2; whnf
  have hc0 : w1.cell? ⟨gA, 0, none⟩ = some (.bool s) := by have := HM1.out.addr 0 (.bool s) rfl; simpa using this
  obtain ⟨z, hz⟩ : ∃ z, szA s = z := ⟨_, rfl⟩
  have HZ := Lib.hid hz
  have hd : dgA s = 8 * z := by rw [← hz, ← dgA_sz]; omega
  have hzb := szA_b s
  rw [hz] at hzb
  have f1 : IntKind.i64.wrap (8 * z) = 8 * z := by rw [IntKind.wrap_i64]; omega
  clear hz
  have HE : Hid (m = max 0 (min n (8 * z))) := by
    show _ = _
    rw [← HMM.out]; unfold clm; rw [hd]
    (repeat' split) <;> omega
  clear hd
  go_wp2_with (refine ldR (.tmp 2) rfl rfl gA 0 rfl s xs HL.out (by exact HM1.out.addr) ?_)
  refine (r4size_any s _).mono ?_
  rintro e wa ⟨rfl, rfl⟩
  rw [HZ.out]
  go_wp2_with fail
  refine Met.intro (hJ0 _ _ ?_)
  exact ⟨⟨rfl, rfl⟩, by rw [HE.out]; rfl, rfl, rfl, rfl⟩

set_option maxRecDepth 100000 in
set_option maxHeartbeats 4000000 in
theorem c4 (w : World) (s : Bool) (xs : List Int) (m : Int) (gA : Nat) (gO : Nat) (w1 : World) (HM1 : Hid (Ca w w1 s xs gA gO)) (a : Act) (hf : Fr 56 a) (h1 : sl a 1 = .int .i64 m) (h2 : sl a 2 = .pointer (some ⟨gA, 0, none⟩)) (h4 : sl a 4 = .pointer (some ⟨gO, 0, none⟩)) :
    Code.wp Tryd.prog (cAt [1,1,1,0] KCU) (Exit.then (fun a' w' => ∃ g : Nat, Fr 56 a' ∧ sl a' 1 = .int .i64 m ∧ sl a' 2 = .pointer (some ⟨gA, 0, none⟩) ∧ sl a' 4 = .pointer (some ⟨gO, 0, none⟩) ∧ sl a' 5 = .pointer (some ⟨g, 0, none⟩) ∧ Cb w w' s xs gA gO g (zs 16) m) Nope) a w1 := by
  obtain ⟨f, ha, hs⟩ := frKCU hf
  have e1 := (hs 1).trans h1
  have e2 := (hs 2).trans h2
  have e4 := (hs 4).trans h4
  rw [e1, e2, e4] at ha
  clear hs hf e1 h1 e2 h2 e4 h4
  subst ha
  refine piece2 fun J0 K0 hJ0 hK0 => ?_
  conv => arg 2; whnf
  have hc0 : w1.cell? ⟨gA, 0, none⟩ = some (.bool s) := by have := HM1.out.addr 0 (.bool s) rfl; simpa using this
  have HF : Hid (Cb w ((w1.alloc (.cells (pfl false (zs 16) 0).toArray 52)).setCells w1.heap.size 0 (pfl s (zs 16) m)) s xs gA gO w1.heap.size (zs 16) m) := HM1.out.lay _ rfl _ _ (zs_length 16)
  go_wp2_with (first
    | (refine wpList_build_run (cells := (adl s (zs 16)).toArray) rfl 27 _ rfl ?_ ?_; · exact builtB s)
    | (refine wpList_build_run (cells := (pfl s (zs 16) m).toArray) rfl 52 _ rfl ?_ ?_; · exact builtRP s (zs 16) m (zs_length 16))
    | (refine stNQ (fun w' => Cb w w' s xs gA gO w1.heap.size (zs 16) m) (.tmp 5) (.tmp 24) rfl rfl w1.heap.size 0 s (zs 16) m rfl rfl (zs_length 16) (there_new _ _ _ _ rfl _ rfl) HF.out ?_; rintro wb hb))
  refine Met.intro (hJ0 _ _ ?_)
  exact ⟨w1.heap.size, ⟨rfl, rfl⟩, rfl, rfl, rfl, rfl, hb⟩

set_option maxRecDepth 100000 in
set_option maxHeartbeats 4000000 in
theorem c5 (m : Int) (gA : Nat) (gO : Nat) (w4 : World) (g : Nat) (a : Act) (hf : Fr 56 a) (h1 : sl a 1 = .int .i64 m) (h2 : sl a 2 = .pointer (some ⟨gA, 0, none⟩)) (h4 : sl a 4 = .pointer (some ⟨gO, 0, none⟩)) (h5 : sl a 5 = .pointer (some ⟨g, 0, none⟩)) :
    Code.wp Tryd.prog (cAt [1,1,1,1,0,0] KCU) (Exit.then (fun a' w' => Fr 56 a' ∧ sl a' 1 = .int .i64 m ∧ sl a' 2 = .pointer (some ⟨gA, 0, none⟩) ∧ sl a' 4 = .pointer (some ⟨gO, 0, none⟩) ∧ sl a' 5 = .pointer (some ⟨g, 0, none⟩) ∧ sl a' 6 = .int .i64 0 ∧ w4 = w') Nope) a w4 := by
  obtain ⟨f, ha, hs⟩ := frKCU hf
  have e1 := (hs 1).trans h1
  have e2 := (hs 2).trans h2
  have e4 := (hs 4).trans h4
  have e5 := (hs 5).trans h5
  rw [e1, e2, e4, e5] at ha
  clear hs hf e1 h1 e2 h2 e4 h4 e5 h5
  subst ha
  refine piece2 fun J0 K0 hJ0 hK0 => ?_
  conv => arg 2; whnf
  go_wp2_with fail
  refine Met.intro (hJ0 _ _ ?_)
  exact ⟨⟨rfl, rfl⟩, rfl, rfl, rfl, rfl, rfl, rfl⟩

set_option maxRecDepth 100000 in
set_option maxHeartbeats 4000000 in
theorem c6x (m : Int) (gA : Nat) (gO : Nat) (g : Nat) (wl : World) (i : Nat) (hlt : Hid (¬ (i : Int) < m)) (a : Act) (hf : Fr 56 a) (h1 : sl a 1 = .int .i64 m) (h2 : sl a 2 = .pointer (some ⟨gA, 0, none⟩)) (h4 : sl a 4 = .pointer (some ⟨gO, 0, none⟩)) (h5 : sl a 5 = .pointer (some ⟨g, 0, none⟩)) (h6 : sl a 6 = .int .i64 (i : Int)) :
    Code.wp Tryd.prog (cAt [1,1,1,1,0,1,2,2] KCU) (Outs 0 (fun a' w' => Fr 56 a' ∧ sl a' 1 = .int .i64 m ∧ sl a' 2 = .pointer (some ⟨gA, 0, none⟩) ∧ sl a' 4 = .pointer (some ⟨gO, 0, none⟩) ∧ sl a' 5 = .pointer (some ⟨g, 0, none⟩) ∧ wl = w')) a wl := by
  obtain ⟨f, ha, hs⟩ := frKCU hf
  have e1 := (hs 1).trans h1
  have e2 := (hs 2).trans h2
  have e4 := (hs 4).trans h4
  have e5 := (hs 5).trans h5
  have e6 := (hs 6).trans h6
  rw [e1, e2, e4, e5, e6] at ha
  clear hs hf e1 h1 e2 h2 e4 h4 e5 h5 e6 h6
  subst ha
  conv => arg 2; whnf
  have hi2 : ¬ (i : Int) < m := hlt.out
  go_wp2_with fail
  exact ⟨rfl, ⟨rfl, rfl⟩, rfl, rfl, rfl, rfl, rfl⟩

set_option maxRecDepth 100000 in
set_option maxHeartbeats 4000000 in
theorem c6 (m : Int) (gA : Nat) (gO : Nat) (g : Nat) (wl : World) (i : Nat) (hlt : Hid ((i : Int) < m)) (a : Act) (hf : Fr 56 a) (h1 : sl a 1 = .int .i64 m) (h2 : sl a 2 = .pointer (some ⟨gA, 0, none⟩)) (h4 : sl a 4 = .pointer (some ⟨gO, 0, none⟩)) (h5 : sl a 5 = .pointer (some ⟨g, 0, none⟩)) (h6 : sl a 6 = .int .i64 (i : Int)) :
    Code.wp Tryd.prog (cAt [1,1,1,1,0,1,2,2,0] KCU) (Exit.then (fun a' w' => Fr 56 a' ∧ sl a' 1 = .int .i64 m ∧ sl a' 2 = .pointer (some ⟨gA, 0, none⟩) ∧ sl a' 4 = .pointer (some ⟨gO, 0, none⟩) ∧ sl a' 5 = .pointer (some ⟨g, 0, none⟩) ∧ sl a' 6 = .int .i64 (i : Int) ∧ wl = w') Nope) a wl := by
  obtain ⟨f, ha, hs⟩ := frKCU hf
  have e1 := (hs 1).trans h1
  have e2 := (hs 2).trans h2
  have e4 := (hs 4).trans h4
  have e5 := (hs 5).trans h5
  have e6 := (hs 6).trans h6
  rw [e1, e2, e4, e5, e6] at ha
  clear hs hf e1 h1 e2 h2 e4 h4 e5 h5 e6 h6
  subst ha
  refine piece2 fun J0 K0 hJ0 hK0 => ?_
  conv => arg 2; whnf
  have hi2 : (i : Int) < m := hlt.out
  go_wp2_with fail
  refine Met.intro (hJ0 _ _ ?_)
  exact ⟨⟨rfl, rfl⟩, rfl, rfl, rfl, rfl, rfl, rfl⟩

set_option maxRecDepth 100000 in
set_option maxHeartbeats 4000000 in
theorem c8 (w : World) (s : Bool) (xs : List Int) (m : Int) (HL : Hid (xs.length = 16)) (HB : Hid (Byt xs)) (gA : Nat) (gO : Nat) (HMB : Hid (0 ≤ m ∧ m ≤ 128)) (g : Nat) (wl : World) (i : Nat) (HML : Hid (Cb w wl s xs gA gO g (hdL xs ((i : Nat) : Int)) m)) (hlt : Hid ((i : Int) < m)) (a : Act) (hf : Fr 56 a) (h1 : sl a 1 = .int .i64 m) (h2 : sl a 2 = .pointer (some ⟨gA, 0, none⟩)) (h4 : sl a 4 = .pointer (some ⟨gO, 0, none⟩)) (h5 : sl a 5 = .pointer (some ⟨g, 0, none⟩)) (h6 : sl a 6 = .int .i64 (i : Int)) :
    Code.wp Tryd.prog (cAt [1,1,1,1,0,1,2,2,1,0,2,0] KCU) (Exit.then (fun a' w' => ∃ d : Nat, Fr 56 a' ∧ sl a' 1 = .int .i64 m ∧ sl a' 2 = .pointer (some ⟨gA, 0, none⟩) ∧ sl a' 4 = .pointer (some ⟨gO, 0, none⟩) ∧ sl a' 5 = .pointer (some ⟨g, 0, none⟩) ∧ sl a' 6 = .int .i64 (i : Int) ∧ sl a' 7 = .int .i64 (d : Int) ∧ Cb w w' s xs gA gO g (hdL xs ((i : Nat) : Int)) m ∧ d = dgt (xs.getD (i / 8) 0).toNat (i % 8)) Nope) a wl := by
  obtain ⟨f, ha, hs⟩ := frKCU hf
  have e1 := (hs 1).trans h1
  have e2 := (hs 2).trans h2
  have e4 := (hs 4).trans h4
  have e5 := (hs 5).trans h5
  have e6 := (hs 6).trans h6
  rw [e1, e2, e4, e5, e6] at ha
  clear hs hf e1 h1 e2 h2 e4 h4 e5 h5 e6 h6
  subst ha
  refine piece2 fun J0 K0 hJ0 hK0 => ?_
  conv => arg 2; whnf
  have hi2 : i < 128 := by have := hlt.out; have := HMB.out; omega
  go_wp2_with (refine ldR (.tmp 2) rfl rfl gA 0 rfl s xs HL.out (by exact HML.out.ca.addr) ?_)
  refine (r4Digit_any s xs i _ HL.out HB.out hi2).mono ?_
  rintro e wa ⟨rfl, hb⟩
  have HMa := Lib.hid (HML.out.past hb)
  clear hb
  go_wp2_with fail
  refine Met.intro (hJ0 _ _ ?_)
  exact ⟨dgt (xs.getD (i / 8) 0).toNat (i % 8), ⟨rfl, rfl⟩, rfl, rfl, rfl, rfl, rfl, rfl, HMa.out, rfl⟩

set_option maxRecDepth 100000 in
set_option maxHeartbeats 4000000 in
theorem c9 (m : Int) (gA : Nat) (gO : Nat) (g : Nat) (i : Nat) (w8 : World) (d : Nat) (a : Act) (hf : Fr 56 a) (h1 : sl a 1 = .int .i64 m) (h2 : sl a 2 = .pointer (some ⟨gA, 0, none⟩)) (h4 : sl a 4 = .pointer (some ⟨gO, 0, none⟩)) (h5 : sl a 5 = .pointer (some ⟨g, 0, none⟩)) (h6 : sl a 6 = .int .i64 (i : Int)) (h7 : sl a 7 = .int .i64 (d : Int)) :
    Code.wp Tryd.prog (cAt [1,1,1,1,0,1,2,2,1,0,2,1,0,0] KCU) (Exit.then (fun a' w' => Fr 56 a' ∧ sl a' 1 = .int .i64 m ∧ sl a' 2 = .pointer (some ⟨gA, 0, none⟩) ∧ sl a' 4 = .pointer (some ⟨gO, 0, none⟩) ∧ sl a' 5 = .pointer (some ⟨g, 0, none⟩) ∧ sl a' 6 = .int .i64 (i : Int) ∧ sl a' 7 = .int .i64 (d : Int) ∧ sl a' 8 = .int .i64 ((i % 8 : Nat) : Int) ∧ w8 = w') Nope) a w8 := by
  obtain ⟨f, ha, hs⟩ := frKCU hf
  have e1 := (hs 1).trans h1
  have e2 := (hs 2).trans h2
  have e4 := (hs 4).trans h4
  have e5 := (hs 5).trans h5
  have e6 := (hs 6).trans h6
  have e7 := (hs 7).trans h7
  rw [e1, e2, e4, e5, e6, e7] at ha
  clear hs hf e1 h1 e2 h2 e4 h4 e5 h5 e6 h6 e7 h7
  subst ha
  refine piece2 fun J0 K0 hJ0 hK0 => ?_
  conv => arg 2; whnf
  have f2 : (i : Int).tmod 8 = ((i % 8 : Nat) : Int) := (Int.ofNat_tmod i 8).symm
  have g2 : IntKind.i64.wrap ((i % 8 : Nat) : Int) = ((i % 8 : Nat) : Int) := by rw [IntKind.wrap_i64]; omega
  obtain ⟨r, er⟩ : ∃ r, i % 8 = r := ⟨_, rfl⟩
  rw [er] at f2 g2
  have HR := Lib.hid er
  clear er
  go_wp2_with fail
  refine Met.intro (hJ0 _ _ ?_)
  exact ⟨⟨rfl, rfl⟩, rfl, rfl, rfl, rfl, rfl, rfl, by rw [HR.out]; rfl, rfl⟩

set_option maxRecDepth 100000 in
set_option maxHeartbeats 4000000 in
theorem c10x (m : Int) (gA : Nat) (gO : Nat) (g : Nat) (i : Nat) (w8 : World) (k : Nat) (y : Nat) (hlk : Hid (¬ k < 7)) (a : Act) (hf : Fr 56 a) (h1 : sl a 1 = .int .i64 m) (h2 : sl a 2 = .pointer (some ⟨gA, 0, none⟩)) (h4 : sl a 4 = .pointer (some ⟨gO, 0, none⟩)) (h5 : sl a 5 = .pointer (some ⟨g, 0, none⟩)) (h6 : sl a 6 = .int .i64 (i : Int)) (h7 : sl a 7 = .int .i64 (y : Int)) (h8 : sl a 8 = .int .i64 (k : Int)) :
    Code.wp Tryd.prog (cAt [1,1,1,1,0,1,2,2,1,0,2,1,0,1,2,2] KCU) (Outs 2 (fun a' w' => Fr 56 a' ∧ sl a' 1 = .int .i64 m ∧ sl a' 2 = .pointer (some ⟨gA, 0, none⟩) ∧ sl a' 4 = .pointer (some ⟨gO, 0, none⟩) ∧ sl a' 5 = .pointer (some ⟨g, 0, none⟩) ∧ sl a' 6 = .int .i64 (i : Int) ∧ sl a' 7 = .int .i64 (y : Int) ∧ w8 = w')) a w8 := by
  obtain ⟨f, ha, hs⟩ := frKCU hf
  have e1 := (hs 1).trans h1
  have e2 := (hs 2).trans h2
  have e4 := (hs 4).trans h4
  have e5 := (hs 5).trans h5
  have e6 := (hs 6).trans h6
  have e7 := (hs 7).trans h7
  have e8 := (hs 8).trans h8
  rw [e1, e2, e4, e5, e6, e7, e8] at ha
  clear hs hf e1 h1 e2 h2 e4 h4 e5 h5 e6 h6 e7 h7 e8 h8
  subst ha
  conv => arg 2; whnf
  have hi2 : ¬ (k : Int) < 7 := by have := hlk.out; omega
  go_wp2_with fail
  exact ⟨rfl, ⟨rfl, rfl⟩, rfl, rfl, rfl, rfl, rfl, rfl, rfl⟩

set_option maxRecDepth 100000 in
set_option maxHeartbeats 4000000 in
theorem c12 (m : Int) (gA : Nat) (gO : Nat) (g : Nat) (i : Nat) (w8 : World) (k : Nat) (y : Nat) (hlk : Hid (k < 7)) (hy2 : Hid (y ≤ 128)) (a : Act) (hf : Fr 56 a) (h1 : sl a 1 = .int .i64 m) (h2 : sl a 2 = .pointer (some ⟨gA, 0, none⟩)) (h4 : sl a 4 = .pointer (some ⟨gO, 0, none⟩)) (h5 : sl a 5 = .pointer (some ⟨g, 0, none⟩)) (h6 : sl a 6 = .int .i64 (i : Int)) (h7 : sl a 7 = .int .i64 (y : Int)) (h8 : sl a 8 = .int .i64 (k : Int)) :
    Code.wp Tryd.prog (cAt [1,1,1,1,0,1,2,2,1,0,2,1,0,1,2,2] KCU) (Exit.then (fun a' w' => Fr 56 a' ∧ sl a' 1 = .int .i64 m ∧ sl a' 2 = .pointer (some ⟨gA, 0, none⟩) ∧ sl a' 4 = .pointer (some ⟨gO, 0, none⟩) ∧ sl a' 5 = .pointer (some ⟨g, 0, none⟩) ∧ sl a' 6 = .int .i64 (i : Int) ∧ sl a' 7 = .int .i64 (2 * (y : Int)) ∧ sl a' 8 = .int .i64 ((k : Int) + 1) ∧ w8 = w') Nope) a w8 := by
  obtain ⟨f, ha, hs⟩ := frKCU hf
  have e1 := (hs 1).trans h1
  have e2 := (hs 2).trans h2
  have e4 := (hs 4).trans h4
  have e5 := (hs 5).trans h5
  have e6 := (hs 6).trans h6
  have e7 := (hs 7).trans h7
  have e8 := (hs 8).trans h8
  rw [e1, e2, e4, e5, e6, e7, e8] at ha
  clear hs hf e1 h1 e2 h2 e4 h4 e5 h5 e6 h6 e7 h7 e8 h8
  subst ha
  refine piece2 fun J0 K0 hJ0 hK0 => ?_
  conv => arg 2; whnf
  have hi2 : (k : Int) < 7 := by have := hlk.out; omega
  have g1 : IntKind.i64.wrap (2 * (y : Int)) = 2 * (y : Int) := by have := hy2.out; rw [IntKind.wrap_i64]; omega
  have g2 : IntKind.i64.wrap ((k : Int) + 1) = (k : Int) + 1 := by have := hlk.out; rw [IntKind.wrap_i64]; omega
  go_wp2_with fail
  refine Met.intro (hJ0 _ _ ?_)
  exact ⟨⟨rfl, rfl⟩, rfl, rfl, rfl, rfl, rfl, rfl, rfl, rfl⟩

theorem cut_in (xs : List Int) (m : Int) (gA : Nat) (gO : Nat) (g : Nat) (i : Nat) (w8 : World) (d : Nat) (HD8 : Hid (d = dgt (xs.getD (i / 8) 0).toNat (i % 8))) (a : Act) (hf : Fr 56 a) (h1 : sl a 1 = .int .i64 m) (h2 : sl a 2 = .pointer (some ⟨gA, 0, none⟩)) (h4 : sl a 4 = .pointer (some ⟨gO, 0, none⟩)) (h5 : sl a 5 = .pointer (some ⟨g, 0, none⟩)) (h6 : sl a 6 = .int .i64 (i : Int)) (h7 : sl a 7 = .int .i64 (d : Int)) (h8 : sl a 8 = .int .i64 ((i % 8 : Nat) : Int)) :
    Code.wp Tryd.prog (cAt [1,1,1,1,0,1,2,2,1,0,2,1,0,1] KCU) (Exit.then (fun a' w' => Fr 56 a' ∧ sl a' 1 = .int .i64 m ∧ sl a' 2 = .pointer (some ⟨gA, 0, none⟩) ∧ sl a' 4 = .pointer (some ⟨gO, 0, none⟩) ∧ sl a' 5 = .pointer (some ⟨g, 0, none⟩) ∧ sl a' 6 = .int .i64 (i : Int) ∧ sl a' 7 = .int .i64 ((d * 2 ^ (7 - i % 8) : Nat) : Int) ∧ w8 = w') Nope) a w8 := by
  have HD8 := HD8.out
  refine wp_blockR (x := cAt [1,1,1,1,0,1,2,2,1,0,2,1,0,1,2] KCU) (id := 2) (by kernel_rfl) ?_
  refine wp_loopR (x := cAt [1,1,1,1,0,1,2,2,1,0,2,1,0,1,2,2] KCU) (by kernel_rfl) (fun a' w' => ∃ k y : Nat, i % 8 ≤ k ∧ k ≤ 7 ∧ y = d * 2 ^ (k - i % 8) ∧ Fr 56 a' ∧ sl a' 1 = .int .i64 m ∧ sl a' 2 = .pointer (some ⟨gA, 0, none⟩) ∧ sl a' 4 = .pointer (some ⟨gO, 0, none⟩) ∧ sl a' 5 = .pointer (some ⟨g, 0, none⟩) ∧ sl a' 6 = .int .i64 (i : Int) ∧ sl a' 7 = .int .i64 (y : Int) ∧ sl a' 8 = .int .i64 (k : Int) ∧ w8 = w') (fun a' _ => 7 - (numOf (sl a' 8)).toNat) ⟨i % 8, d, Nat.le_refl _, by omega, by simp, hf, h1, h2, h4, h5, h6, h7, h8, rfl⟩ ?_
  rintro a_k _ ⟨k, y, hk0, hk, hy, hf, h1, h2, h4, h5, h6, h7, h8, rfl⟩
  have h8a := h8
  by_cases hlk : k < 7
  case neg =>
    refine wp_endX (c10x m gA gO g i w8 k y hlk a_k hf h1 h2 h4 h5 h6 h7 h8) ?_
    rintro a_10 _ ⟨hf, h1, h2, h4, h5, h6, h7, rfl⟩
    rw [hy, show k = 7 by omega] at h7
    exact thru ⟨hf, h1, h2, h4, h5, h6, h7, rfl⟩
  have hy2 : y ≤ 128 := by
    have h1 := dgt_le (xs.getD (i / 8) 0).toNat (i % 8)
    rw [← HD8] at h1
    have h2 : 2 ^ (k - i % 8) ≤ 2 ^ 7 := Nat.pow_le_pow_right (by decide) (by omega)
    rw [hy]
    calc d * 2 ^ (k - i % 8) ≤ 1 * 2 ^ 7 := Nat.mul_le_mul h1 h2
      _ = 128 := by decide
  refine wp_endR (c12 m gA gO g i w8 k y hlk hy2 a_k hf h1 h2 h4 h5 h6 h7 h8) ?_
  rintro a_11 _ ⟨hf, h1, h2, h4, h5, h6, h7, h8, rfl⟩
  refine ⟨⟨k + 1, 2 * y, by omega, hlk, ?_, hf, h1, h2, h4, h5, h6, by rw [h7]; push_cast; rfl, by rw [h8]; push_cast; rfl, rfl⟩, ?_⟩
  · rw [hy, show k + 1 - i % 8 = (k - i % 8) + 1 by omega, Nat.pow_succ, Nat.mul_left_comm, Nat.mul_comm 2]
  · rw [h8a, h8]
    simp only [numOf]
    omega

set_option maxRecDepth 100000 in
set_option maxHeartbeats 4000000 in
theorem c13 (w : World) (s : Bool) (xs : List Int) (m : Int) (HB : Hid (Byt xs)) (gA : Nat) (gO : Nat) (HMB : Hid (0 ≤ m ∧ m ≤ 128)) (g : Nat) (i : Nat) (hlt : Hid ((i : Int) < m)) (w8 : World) (d : Nat) (HM8 : Hid (Cb w w8 s xs gA gO g (hdL xs ((i : Nat) : Int)) m)) (HD8 : Hid (d = dgt (xs.getD (i / 8) 0).toNat (i % 8))) (a : Act) (hf : Fr 56 a) (h1 : sl a 1 = .int .i64 m) (h2 : sl a 2 = .pointer (some ⟨gA, 0, none⟩)) (h4 : sl a 4 = .pointer (some ⟨gO, 0, none⟩)) (h5 : sl a 5 = .pointer (some ⟨g, 0, none⟩)) (h6 : sl a 6 = .int .i64 (i : Int)) (h7 : sl a 7 = .int .i64 ((d * 2 ^ (7 - i % 8) : Nat) : Int)) :
    Code.wp Tryd.prog (cAt [1,1,1,1,0,1,2,2,1,0,2,1,1] KCU) (Exit.then (fun a' w' => Fr 56 a' ∧ sl a' 1 = .int .i64 m ∧ sl a' 2 = .pointer (some ⟨gA, 0, none⟩) ∧ sl a' 4 = .pointer (some ⟨gO, 0, none⟩) ∧ sl a' 5 = .pointer (some ⟨g, 0, none⟩) ∧ sl a' 6 = .int .i64 (i : Int) ∧ Cb w w' s xs gA gO g (hdL xs ((i + 1 : Nat) : Int)) m) Nope) a w8 := by
  obtain ⟨f, ha, hs⟩ := frKCU hf
  have e1 := (hs 1).trans h1
  have e2 := (hs 2).trans h2
  have e4 := (hs 4).trans h4
  have e5 := (hs 5).trans h5
  have e6 := (hs 6).trans h6
  have e7 := (hs 7).trans h7
  rw [e1, e2, e4, e5, e6, e7] at ha
  clear hs hf e1 h1 e2 h2 e4 h4 e5 h5 e6 h6 e7 h7
  subst ha
  refine piece2 fun J0 K0 hJ0 hK0 => ?_
  conv => arg 2; whnf
  have hi2 : i < 128 := by have := hlt.out; have := HMB.out; omega
  have f1 : (i : Int).tdiv 8 = ((i / 8 : Nat) : Int) := (Int.ofNat_tdiv i 8).symm
  have hj : i / 8 < 16 := by omega
  have hr : i % 8 < 8 := by omega
  obtain ⟨b0, b1⟩ := HB.out.get (i / 8)
  have hs := msk_step b0 b1 hr
  rw [← HD8.out] at hs
  obtain ⟨t0, t1⟩ := mskb9 b0 b1 (k := i % 8 + 1) (by omega)
  obtain ⟨u0, u1⟩ := mskb9 b0 b1 (k := i % 8) (by omega)
  have hg : (hdL xs (i : Int)).getD (i / 8) 0 = msk (xs.getD (i / 8) 0) (i % 8) := by
    rw [hdL_get _ _ _ hj]; congr 1; unfold kp; omega
  have hc := HM8.out.cell (hdL_len _ _) hj
  have hz := HM8.out.frozen hj
  rw [hg] at hc
  have HF := HM8.out.set (hdL_len _ _) hj (msk (xs.getD (i / 8) 0) (i % 8 + 1))
  rw [hdL_set hi2, ← hs] at HF
  have HF := Lib.hid HF
  rw [← hs] at t1
  have g1 : IntKind.i64.wrap ((i / 8 : Nat) : Int) = ((i / 8 : Nat) : Int) := by rw [IntKind.wrap_i64]; omega
  obtain ⟨j, ej⟩ : ∃ j, i / 8 = j := ⟨_, rfl⟩
  obtain ⟨y, ey⟩ : ∃ y, msk (xs.getD (i / 8) 0) (i % 8) = y := ⟨_, rfl⟩
  obtain ⟨z, ez⟩ : ∃ z, d * 2 ^ (7 - i % 8) = z := ⟨_, rfl⟩
  rw [ey] at hc HF t1 u0 u1
  rw [ez] at HF t1 ⊢
  rw [ej] at f1 g1 hc hz HF hj
  have hj2 : (j : Int) < 16 := by omega
  have g3 : IntKind.u8.wrap (z : Int) = (z : Int) := by rw [IntKind.wrap_u8]; omega
  have g4 : IntKind.u8.wrap (y + (z : Int)) = y + (z : Int) := by rw [IntKind.wrap_u8]; omega
  clear hs t0 hg ej ey ez b0 b1 hr
  go_wp2_with fail
  refine Met.intro (hJ0 _ _ ?_)
  exact ⟨⟨rfl, rfl⟩, rfl, rfl, rfl, rfl, rfl, HF.out⟩

set_option maxRecDepth 100000 in
set_option maxHeartbeats 4000000 in
theorem c7 (m : Int) (gA : Nat) (gO : Nat) (HMB : Hid (0 ≤ m ∧ m ≤ 128)) (g : Nat) (i : Nat) (hlt : Hid ((i : Int) < m)) (wm : World) (a : Act) (hf : Fr 56 a) (h1 : sl a 1 = .int .i64 m) (h2 : sl a 2 = .pointer (some ⟨gA, 0, none⟩)) (h4 : sl a 4 = .pointer (some ⟨gO, 0, none⟩)) (h5 : sl a 5 = .pointer (some ⟨g, 0, none⟩)) (h6 : sl a 6 = .int .i64 (i : Int)) :
    Code.wp Tryd.prog (cAt [1,1,1,1,0,1,2,2,1,1] KCU) (Exit.then (fun a' w' => Fr 56 a' ∧ sl a' 1 = .int .i64 m ∧ sl a' 2 = .pointer (some ⟨gA, 0, none⟩) ∧ sl a' 4 = .pointer (some ⟨gO, 0, none⟩) ∧ sl a' 5 = .pointer (some ⟨g, 0, none⟩) ∧ sl a' 6 = .int .i64 ((i + 1 : Nat) : Int) ∧ wm = w') Nope) a wm := by
  obtain ⟨f, ha, hs⟩ := frKCU hf
  have e1 := (hs 1).trans h1
  have e2 := (hs 2).trans h2
  have e4 := (hs 4).trans h4
  have e5 := (hs 5).trans h5
  have e6 := (hs 6).trans h6
  rw [e1, e2, e4, e5, e6] at ha
  clear hs hf e1 h1 e2 h2 e4 h4 e5 h5 e6 h6
  subst ha
  refine piece2 fun J0 K0 hJ0 hK0 => ?_
  conv => arg 2; whnf
  have hw : IntKind.i64.wrap ((i : Int) + 1) = ((i + 1 : Nat) : Int) := by have := hlt.out; have := HMB.out; rw [IntKind.wrap_i64]; omega
  go_wp2_with fail
  refine Met.intro (hJ0 _ _ ?_)
  exact ⟨⟨rfl, rfl⟩, rfl, rfl, rfl, rfl, rfl, rfl⟩

theorem cut_loop (w : World) (s : Bool) (xs : List Int) (m : Int) (HL : Hid (xs.length = 16)) (HB : Hid (Byt xs)) (gA : Nat) (gO : Nat) (HMB : Hid (0 ≤ m ∧ m ≤ 128)) (w4 : World) (g : Nat) (HM4 : Hid (Cb w w4 s xs gA gO g (zs 16) m)) (a : Act) (hf : Fr 56 a) (h1 : sl a 1 = .int .i64 m) (h2 : sl a 2 = .pointer (some ⟨gA, 0, none⟩)) (h4 : sl a 4 = .pointer (some ⟨gO, 0, none⟩)) (h5 : sl a 5 = .pointer (some ⟨g, 0, none⟩)) :
    Code.wp Tryd.prog (cAt [1,1,1,1,0] KCU) (Exit.then (fun a' w' => Fr 56 a' ∧ sl a' 1 = .int .i64 m ∧ sl a' 2 = .pointer (some ⟨gA, 0, none⟩) ∧ sl a' 4 = .pointer (some ⟨gO, 0, none⟩) ∧ sl a' 5 = .pointer (some ⟨g, 0, none⟩) ∧ Cb w w' s xs gA gO g (hdL xs m) m) Nope) a w4 := by
  have HL := HL.out
  have HB := HB.out
  have HMB := HMB.out
  have HM4 := HM4.out
  refine wp_sqR (x := cAt [1,1,1,1,0,0] KCU) (y := cAt [1,1,1,1,0,1] KCU) (by kernel_rfl) (c5 m gA gO w4 g a hf h1 h2 h4 h5) ?_
  rintro a_5 _ ⟨hf, h1, h2, h4, h5, h6, rfl⟩
  refine wp_blockR (x := cAt [1,1,1,1,0,1,2] KCU) (id := 0) (by kernel_rfl) ?_
  refine wp_loopR (x := cAt [1,1,1,1,0,1,2,2] KCU) (by kernel_rfl) (fun a' w' => ∃ i : Nat, (i : Int) ≤ m ∧ Cb w w' s xs gA gO g (hdL xs ((i : Nat) : Int)) m ∧ Fr 56 a' ∧ sl a' 1 = .int .i64 m ∧ sl a' 2 = .pointer (some ⟨gA, 0, none⟩) ∧ sl a' 4 = .pointer (some ⟨gO, 0, none⟩) ∧ sl a' 5 = .pointer (some ⟨g, 0, none⟩) ∧ sl a' 6 = .int .i64 (i : Int)) (fun a' _ => m.toNat - (numOf (sl a' 6)).toNat) ⟨0, HMB.1, by rw [show ((0 : Nat) : Int) = 0 from rfl, hdL_zero HB]; exact HM4, hf, h1, h2, h4, h5, h6⟩ ?_
  rintro a_l wl ⟨i, hi, HML, hf, h1, h2, h4, h5, h6⟩
  have h6a := h6
  by_cases hlt : (i : Int) < m
  case neg =>
    refine wp_endX (c6x m gA gO g wl i hlt a_l hf h1 h2 h4 h5 h6) ?_
    rintro a_6 _ ⟨hf, h1, h2, h4, h5, rfl⟩
    have him : (i : Int) = m := by omega
    rw [him] at HML
    exact thru ⟨hf, h1, h2, h4, h5, HML⟩
  refine wp_sqR (x := cAt [1,1,1,1,0,1,2,2,0] KCU) (y := cAt [1,1,1,1,0,1,2,2,1] KCU) (by kernel_rfl) (c6 m gA gO g wl i hlt a_l hf h1 h2 h4 h5 h6) ?_
  rintro a_7 _ ⟨hf, h1, h2, h4, h5, h6, rfl⟩
  refine wp_sqR (x := cAt [1,1,1,1,0,1,2,2,1,0] KCU) (y := cAt [1,1,1,1,0,1,2,2,1,1] KCU) (by kernel_rfl) (R := fun a' w' => Cb w w' s xs gA gO g (hdL xs ((i + 1 : Nat) : Int)) m ∧ Fr 56 a' ∧ sl a' 1 = .int .i64 m ∧ sl a' 2 = .pointer (some ⟨gA, 0, none⟩) ∧ sl a' 4 = .pointer (some ⟨gO, 0, none⟩) ∧ sl a' 5 = .pointer (some ⟨g, 0, none⟩) ∧ sl a' 6 = .int .i64 (i : Int)) ?_ ?_
  · refine wp_blockR (x := cAt [1,1,1,1,0,1,2,2,1,0,2] KCU) (id := 1) (by kernel_rfl) ?_
    refine wp_sqR (x := cAt [1,1,1,1,0,1,2,2,1,0,2,0] KCU) (y := cAt [1,1,1,1,0,1,2,2,1,0,2,1] KCU) (by kernel_rfl) (c8 w s xs m HL HB gA gO HMB g wl i HML hlt a_7 hf h1 h2 h4 h5 h6) ?_
    rintro a_8 w8 ⟨d, hf, h1, h2, h4, h5, h6, h7, HM8, HD8⟩
    refine wp_sqG (x := cAt [1,1,1,1,0,1,2,2,1,0,2,1,0] KCU) (y := cAt [1,1,1,1,0,1,2,2,1,0,2,1,1] KCU) (by kernel_rfl) ?_
    refine wp_sqR (x := cAt [1,1,1,1,0,1,2,2,1,0,2,1,0,0] KCU) (y := cAt [1,1,1,1,0,1,2,2,1,0,2,1,0,1] KCU) (by kernel_rfl) (c9 m gA gO g i w8 d a_8 hf h1 h2 h4 h5 h6 h7) ?_
    rintro a_9 _ ⟨hf, h1, h2, h4, h5, h6, h7, h8, rfl⟩
    refine wp_endR (cut_in xs m gA gO g i w8 d HD8 a_9 hf h1 h2 h4 h5 h6 h7 h8) ?_
    rintro a_12 _ ⟨hf, h1, h2, h4, h5, h6, h7, rfl⟩
    show (cAt [1,1,1,1,0,1,2,2,1,0,2,1,1] KCU).wp _ _ _ _
    refine wp_endR (c13 w s xs m HB gA gO HMB g i hlt w8 d HM8 HD8 a_12 hf h1 h2 h4 h5 h6 h7) ?_
    rintro a_13 w13 ⟨hf, h1, h2, h4, h5, h6, HM13⟩
    exact ⟨HM13, hf, h1, h2, h4, h5, h6⟩
  rintro a_m wm ⟨HM13, hf, h1, h2, h4, h5, h6⟩
  refine wp_endR (c7 m gA gO HMB g i hlt wm a_m hf h1 h2 h4 h5 h6) ?_
  rintro a_14 _ ⟨hf, h1, h2, h4, h5, h6, rfl⟩
  refine ⟨⟨i + 1, by omega, HM13, hf, h1, h2, h4, h5, h6⟩, ?_⟩
  rw [h6a, h6]
  simp only [numOf]
  omega

set_option maxRecDepth 100000 in
set_option maxHeartbeats 4000000 in
theorem cend (w wr : World) (s : Bool) (xs ys : List Int) (m : Int) (gA gO g : Nat) (HY : Hid (ys.length = 16)) (HM : Hid (Cb w wr s xs gA gO g ys m)) (a : Act) (hf : Fr 56 a) (h4 : sl a 4 = .pointer (some ⟨gO, 0, none⟩)) (h5 : sl a 5 = .pointer (some ⟨g, 0, none⟩)) :
    Code.wp Tryd.prog (cAt [1,1,1,1,1] KCU) (bodyPost Tryd.prog Tryd.f64 (Gives w (.agg (pfl s ys m).toArray))) a wr := by
  obtain ⟨f, ha, hs⟩ := frKCU hf
  have e4 := (hs 4).trans h4
  have e5 := (hs 5).trans h5
  rw [e4, e5] at ha
  clear hs hf e4 h4 e5 h5
  subst ha
  conv => arg 2; whnf
  go_wp2_with (first
    | (refine ldQ (.tmp 5) rfl rfl g 0 rfl s ys m HY.out (by exact HM.out.row) ?_)
    | (refine stQ (.tmp 4) (.tmp 55) rfl rfl gO 0 s ys m rfl rfl HY.out HM.out.ca.out ?_))
  refine bodyPost_ret (v := .agg (pfl s ys m).toArray) (ret_mid Tryd.results64 _ _ _ _ (pfl s ys m) _ rfl (World.rangeAt_setCells_same _ _ _ _ (by rw [pfl_len _ _ _ HY.out]; exact HM.out.ca.out)) Tryd.underlying52 rfl (by rw [pfl_len _ _ _ HY.out]; exact infQ)) rfl ⟨rfl, ?_⟩
  exact Below.setCells HM.out.ca.below _ HM.out.ca.og _ _

theorem r4Cut_any (s : Bool) (xs : List Int) (n : Int) (w : World) (HL : xs.length = 16) (HB : Byt xs) : Calls Tryd.prog 64 #[.agg (adl s xs).toArray, .int .i64 n] w (Gives w (.agg (cutV s xs n).toArray)) := by
  refine calls_of_wp (c := KCU) Tryd.func64 (by kernel_rfl) ?_
  have hf : Fr 56 { tmps := #[.agg (adl s xs).toArray, .int .i64 n] ++ Array.replicate (Tryd.f64.ntmps - (#[.agg (adl s xs).toArray, .int .i64 n] : Array Value).size) undef, defers := [] } := ⟨rfl, by simp [Tryd.ntmps64]⟩
  generalize ha : ({ tmps := #[.agg (adl s xs).toArray, .int .i64 n] ++ Array.replicate (Tryd.f64.ntmps - (#[.agg (adl s xs).toArray, .int .i64 n] : Array Value).size) undef, defers := [] } : Act) = a at hf ⊢
  have h0 : sl a 0 = .agg (adl s xs).toArray := by rw [← ha]; exact sl_at _ _ 0 _ rfl
  have h1 : sl a 1 = .int .i64 n := by rw [← ha]; exact sl_at _ _ 1 _ rfl
  clear ha
  refine wp_sqR (x := cAt [0] KCU) (y := cAt [1] KCU) (by kernel_rfl) (c0 w s xs n a hf h0 h1) ?_
  rintro a_1 w0 ⟨gA, gO, hf, h1, h2, h4, HM0⟩
  refine wp_sqG (x := cAt [1,0] KCU) (y := cAt [1,1] KCU) (by kernel_rfl) ?_
  refine wp_sqR (x := cAt [1,0,0] KCU) (y := cAt [1,0,1] KCU) (by kernel_rfl) (c1 w s xs n HL HB w0 gA gO HM0 a_1 hf h1 h2 h4) ?_
  rintro a_2 w1 ⟨hf, h1, h2, h4, h11, HM1⟩
  cases hrr : rgt s xs with
  | false =>
    rw [show (!(rgt s xs)) = true by rw [hrr]; rfl] at h11
    refine wp_onT (A := cAt [1,0,1,3] KCU) (B := cAt [1,0,1,4] KCU) (by kernel_rfl) h11 ?_
    have he : cutV s xs n = pfl false (zs 16) 0 := by unfold cutV; rw [hrr]; rfl
    rw [he]
    exact wp_endB (cno w w1 s xs gA gO HM1 a_2 hf h4) (fun a' w' h => h)
  | true =>
  rw [show (!(rgt s xs)) = false by rw [hrr]; rfl] at h11
  have HRT : Hid (rgt s xs = true) := hrr
  clear hrr
  refine wp_onF (A := cAt [1,0,1,3] KCU) (B := cAt [1,0,1,4] KCU) (by kernel_rfl) h11 ?_
  refine wp_skipR (by kernel_rfl) ?_
  have HCV : Hid (cutV s xs n = pfl s (hdL xs (clm s n)) (clm s n)) := cutV_ok HRT n
  rw [HCV.out]
  obtain ⟨m, hm⟩ : ∃ m, clm s n = m := ⟨_, rfl⟩
  rw [hm]
  have HMM : Hid (clm s n = m) := hm
  have HMB : Hid (0 ≤ m ∧ m ≤ 128) := by rw [← hm]; exact clm_b s n
  clear hm
  refine wp_sqR (x := cAt [1,1,0] KCU) (y := cAt [1,1,1] KCU) (by kernel_rfl) (c3 w s xs n m HL gA gO w1 HM1 HMM a_2 hf h1 h2 h4) ?_
  rintro a_3 _ ⟨hf, h1, h2, h4, rfl⟩
  refine wp_sqR (x := cAt [1,1,1,0] KCU) (y := cAt [1,1,1,1] KCU) (by kernel_rfl) (c4 w s xs m gA gO w1 HM1 a_3 hf h1 h2 h4) ?_
  rintro a_4 w4 ⟨g, hf, h1, h2, h4, h5, HM4⟩
  refine wp_sqR (x := cAt [1,1,1,1,0] KCU) (y := cAt [1,1,1,1,1] KCU) (by kernel_rfl) (cut_loop w s xs m HL HB gA gO HMB w4 g HM4 a_4 hf h1 h2 h4 h5) ?_
  rintro a_15 w5 ⟨hf, h1, h2, h4, h5, HM5⟩
  exact cend w w5 s xs (hdL xs m) m gA gO g (hdL_len _ _) HM5 a_15 hf h4 h5
end Go.Proofs.YtbnfmiopgjmppaaDoor

namespace Go.Proofs.YtbnfmiopgjmppaaDoor
open Go.RowKit

/-- A prefix in a block of its own. -/
structure Rq (w wr : World) (s : Bool) (xs : List Int) (n : Int) : Prop where
  below : Below w.heap.size w wr
  row : wr.rangeAt w.heap.size 0 (pfl s xs n)
theorem Rq.past {w wr w' : World} {s : Bool} {xs : List Int} {n : Int} (h : Rq w wr s xs n) (hb : Below wr.heap.size wr w') : Rq w w' s xs n := ⟨h.below.trans (hb.mono h.below.size), range_kept hb h.row⟩
theorem prt_no {s : Bool} {xs : List Int} (n : Int) (hr : rgt s xs = false) : prt s xs n = false := by
  unfold prt ctS ctX ctN
  rw [if_neg (by rw [hr]; decide), if_neg (by rw [hr]; decide), if_neg (by rw [hr]; decide)]
  apply decide_eq_false
  rintro ⟨⟨h1, h2⟩, -⟩
  rw [← h1, ← h2] at hr
  revert hr
  decide +kernel

set_option maxRecDepth 100000 in
set_option maxHeartbeats 4000000 in
theorem r4RightP_any (s : Bool) (xs : List Int) (n : Int) (w : World) (hl : xs.length = 16) (hb : Byt xs) : Calls Tryd.prog 50 #[.agg (pfl s xs n).toArray] w (Gives w (.bool (prt s xs n))) := by
  have HL := Lib.hid hl
  have HB := Lib.hid hb
  have HA : Hid (∀ wz, w.alloc (.cells (pfl s xs n).toArray 52) = wz → Rq w wz s xs n) := by
    rintro wz rfl
    exact ⟨(Below.refl _ _).alloc (Nat.le_refl _) _, pfl_range w s xs n 52⟩
  have l3 : Hid (∀ w', (Op.equalIn 10000 52 (.agg (pfl (ctS s xs) (ctX s xs n) (ctN s xs n)).toArray) (.agg (pfl s xs n).toArray)).run Tryd.prog w' = .ok (prt s xs n) w') := fun w' => eqQ w' 9996 _ _ _ _ _ _ (ctX_len _ _ _) hl
  have hg := guQ
  clear hl hb
  go_enter Tryd.func50, Tryd.ntmps50
  go_wp2_with fail
  obtain ⟨wz, hwz⟩ : ∃ z, w.alloc (.cells (pfl s xs n).toArray 52) = z := ⟨_, rfl⟩
  have HZ := Lib.hid (HA.out wz hwz)
  rw [hwz]
  clear hwz HA
  have HMd := Lib.hid (HZ.out.past (Below.refl _ _).drew)
  cases hr : rgt s xs
  · have HP := Lib.hid (prt_no (xs := xs) n hr)
    have HR := Lib.hid hr
    clear hr
    refine wp_region_held_drew (S := fun w' => Rq w w' s xs n) (by kernel_rfl) HMd.out (fun hS => ?_)
    refine tk 0 3 (.pointer (some ⟨w.heap.size, 0, none⟩)) rfl rfl (by kernel_rfl) (by kernel_rfl) (by kernel_rfl) (fun _ _ _ h => h) (Or.inl ⟨by rfl, fun w' h' => ?_⟩) hS ?_
    · go_simp
    try simp only [Act.put, List.setIfInBounds_toArray, List.set_cons_zero, List.set_cons_succ]
    refine tk 1 4 (.agg (adl s xs).toArray) rfl rfl (by kernel_rfl) (by kernel_rfl) (by kernel_rfl) (fun _ _ _ h => h) (yieldsIf_load_mid (by rfl) _ _ rfl (w.heap.size) (0) rfl (adl s xs) _ (fun w' h' => pfl_adl h'.row) Tryd.underlying27 rfl (by rw [adl_len s xs HL.out]; exact infR)) hS ?_
    try simp only [Act.put, List.setIfInBounds_toArray, List.set_cons_zero, List.set_cons_succ]
    refine wpAnyH_ready (rs := [2]) (by kernel_rfl) (by simp) (AllReadyH.cons rfl (fun K hK => ?_) AllReadyH.nil)
    rw [if_pos (by rfl)]
    go_wp2_with fail
    refine (r4Right_any s xs _ HL.out).mono ?_
    rintro e wa ⟨rfl, hb⟩
    have HMe := Lib.hid (HMd.out.past hb)
    rw [rgR_rgt HL.out HB.out, HR.out]
    clear hb
    clear hS
    refine hK.out _ _ (HMe.out) (fun hS => ?_)
    clear hK K
    try simp only [Act.put, List.setIfInBounds_toArray, List.set_cons_zero, List.set_cons_succ]
    refine tk 3 6 (.bool false) rfl rfl (by kernel_rfl) (by kernel_rfl) (by kernel_rfl) (fun _ _ _ h => h) (Or.inl ⟨by rfl, fun w' h' => ?_⟩) hS ?_
    · go_simp
    try simp only [Act.put, List.setIfInBounds_toArray, List.set_cons_zero, List.set_cons_succ]
    refine tk 4 7 undef rfl rfl (by kernel_rfl) (by kernel_rfl) (by kernel_rfl) (fun _ _ _ h => h) (Or.inr ⟨by rfl, rfl⟩) hS ?_
    try simp only [Act.put, List.setIfInBounds_toArray, List.set_cons_zero, List.set_cons_succ]
    refine tk 5 8 undef rfl rfl (by kernel_rfl) (by kernel_rfl) (by kernel_rfl) (fun _ _ _ h => h) (Or.inr ⟨by rfl, rfl⟩) hS ?_
    try simp only [Act.put, List.setIfInBounds_toArray, List.set_cons_zero, List.set_cons_succ]
    refine tk 6 9 undef rfl rfl (by kernel_rfl) (by kernel_rfl) (by kernel_rfl) (fun _ _ _ h => h) (Or.inr ⟨by rfl, rfl⟩) hS ?_
    try simp only [Act.put, List.setIfInBounds_toArray, List.set_cons_zero, List.set_cons_succ]
    refine tk 7 10 undef rfl rfl (by kernel_rfl) (by kernel_rfl) (by kernel_rfl) (fun _ _ _ h => h) (Or.inr ⟨by rfl, rfl⟩) hS ?_
    try simp only [Act.put, List.setIfInBounds_toArray, List.set_cons_zero, List.set_cons_succ]
    refine tk 8 11 undef rfl rfl (by kernel_rfl) (by kernel_rfl) (by kernel_rfl) (fun _ _ _ h => h) (Or.inr ⟨by rfl, rfl⟩) hS ?_
    try simp only [Act.put, List.setIfInBounds_toArray, List.set_cons_zero, List.set_cons_succ]
    refine tk 9 12 undef rfl rfl (by kernel_rfl) (by kernel_rfl) (by kernel_rfl) (fun _ _ _ h => h) (Or.inr ⟨by rfl, rfl⟩) hS ?_
    try simp only [Act.put, List.setIfInBounds_toArray, List.set_cons_zero, List.set_cons_succ]
    refine tk 10 13 undef rfl rfl (by kernel_rfl) (by kernel_rfl) (by kernel_rfl) (fun _ _ _ h => h) (Or.inr ⟨by rfl, rfl⟩) hS ?_
    have HMf := HMe
    try simp only [Act.put, List.setIfInBounds_toArray, List.set_cons_zero, List.set_cons_succ]
    refine tk 11 14 (.bool false) rfl rfl (by kernel_rfl) (by kernel_rfl) (by kernel_rfl) (fun _ _ _ h => h) (Or.inl ⟨by rfl, fun w' h' => ?_⟩) hS ?_
    · go_simp
    try simp only [Act.put, List.setIfInBounds_toArray, List.set_cons_zero, List.set_cons_succ]
    refine tk 12 2 (.bool false) rfl rfl (by kernel_rfl) (by kernel_rfl) (by kernel_rfl) (fun _ _ _ h => h) (Or.inl ⟨by rfl, fun w' h' => ?_⟩) hS ?_
    · go_simp
    refine wpAnyH_done (by kernel_rfl) ?_ _
    go_wp2_with fail
    go_ret
    exact ⟨by first | rfl | (rw [HP.out]; rfl), HMf.out.below⟩
  · have HR := Lib.hid hr
    have HP : Hid True := trivial
    clear hr
    refine wp_region_held_drew (S := fun w' => Rq w w' s xs n) (by kernel_rfl) HMd.out (fun hS => ?_)
    refine tk 0 3 (.pointer (some ⟨w.heap.size, 0, none⟩)) rfl rfl (by kernel_rfl) (by kernel_rfl) (by kernel_rfl) (fun _ _ _ h => h) (Or.inl ⟨by rfl, fun w' h' => ?_⟩) hS ?_
    · go_simp
    try simp only [Act.put, List.setIfInBounds_toArray, List.set_cons_zero, List.set_cons_succ]
    refine tk 1 4 (.agg (adl s xs).toArray) rfl rfl (by kernel_rfl) (by kernel_rfl) (by kernel_rfl) (fun _ _ _ h => h) (yieldsIf_load_mid (by rfl) _ _ rfl (w.heap.size) (0) rfl (adl s xs) _ (fun w' h' => pfl_adl h'.row) Tryd.underlying27 rfl (by rw [adl_len s xs HL.out]; exact infR)) hS ?_
    try simp only [Act.put, List.setIfInBounds_toArray, List.set_cons_zero, List.set_cons_succ]
    refine wpAnyH_ready (rs := [2]) (by kernel_rfl) (by simp) (AllReadyH.cons rfl (fun K hK => ?_) AllReadyH.nil)
    rw [if_pos (by rfl)]
    go_wp2_with fail
    refine (r4Right_any s xs _ HL.out).mono ?_
    rintro e wa ⟨rfl, hb⟩
    have HMe := Lib.hid (HMd.out.past hb)
    rw [rgR_rgt HL.out HB.out, HR.out]
    clear hb
    clear hS
    refine hK.out _ _ (HMe.out) (fun hS => ?_)
    clear hK K
    try simp only [Act.put, List.setIfInBounds_toArray, List.set_cons_zero, List.set_cons_succ]
    refine tk 3 6 (.bool true) rfl rfl (by kernel_rfl) (by kernel_rfl) (by kernel_rfl) (fun _ _ _ h => h) (Or.inl ⟨by rfl, fun w' h' => ?_⟩) hS ?_
    · go_simp
    try simp only [Act.put, List.setIfInBounds_toArray, List.set_cons_zero, List.set_cons_succ]
    refine tk 4 7 (.pointer (some ⟨w.heap.size, 0, none⟩)) rfl rfl (by kernel_rfl) (by kernel_rfl) (by kernel_rfl) (fun _ _ _ h => h) (Or.inl ⟨by rfl, fun w' h' => ?_⟩) hS ?_
    · go_simp
    try simp only [Act.put, List.setIfInBounds_toArray, List.set_cons_zero, List.set_cons_succ]
    refine tk 5 8 (.agg (adl s xs).toArray) rfl rfl (by kernel_rfl) (by kernel_rfl) (by kernel_rfl) (fun _ _ _ h => h) (yieldsIf_load_mid (by rfl) _ _ rfl (w.heap.size) (0) rfl (adl s xs) _ (fun w' h' => pfl_adl h'.row) Tryd.underlying27 rfl (by rw [adl_len s xs HL.out]; exact infR)) hS ?_
    try simp only [Act.put, List.setIfInBounds_toArray, List.set_cons_zero, List.set_cons_succ]
    refine tk 6 9 (.pointer (some ⟨w.heap.size, 17, none⟩)) rfl rfl (by kernel_rfl) (by kernel_rfl) (by kernel_rfl) (fun _ _ _ h => h) (Or.inl ⟨by rfl, fun w' h' => ?_⟩) hS ?_
    · go_simp
    try simp only [Act.put, List.setIfInBounds_toArray, List.set_cons_zero, List.set_cons_succ]
    refine tk 7 10 (.int .i64 n) rfl rfl (by kernel_rfl) (by kernel_rfl) (by kernel_rfl) (fun _ _ _ h => h) (Or.inl ⟨by rfl, fun w' h' => ?_⟩) hS ?_
    · have hc := pfl_n h'.row HL.out
      go_simp
    try simp only [Act.put, List.setIfInBounds_toArray, List.set_cons_zero, List.set_cons_succ]
    refine tk 9 12 (.agg (pfl s xs n).toArray) rfl rfl (by kernel_rfl) (by kernel_rfl) (by kernel_rfl) (fun _ _ _ h => h) (yieldsIf_load_mid (by rfl) _ _ rfl (w.heap.size) (0) rfl (pfl s xs n) _ (fun w' h' => h'.row) Tryd.underlying52 rfl (by rw [pfl_len s xs n HL.out]; exact infQ)) hS ?_
    try simp only [Act.put, List.setIfInBounds_toArray, List.set_cons_zero, List.set_cons_succ]
    refine wpAnyH_ready (rs := [8]) (by kernel_rfl) (by simp) (AllReadyH.cons rfl (fun K hK => ?_) AllReadyH.nil)
    rw [if_pos (by rfl)]
    go_wp2_with fail
    refine (r4Cut_any s xs n _ HL.out HB.out).mono ?_
    rintro e wb ⟨rfl, hb⟩
    have HMf := Lib.hid (HMe.out.past hb)
    rw [cutV_eq]
    clear hb
    clear hS
    refine hK.out _ _ (HMf.out) (fun hS => ?_)
    clear hK K
    try simp only [Act.put, List.setIfInBounds_toArray, List.set_cons_zero, List.set_cons_succ]
    refine tk 10 13 (.bool (prt s xs n)) rfl rfl (by kernel_rfl) (by kernel_rfl) (by kernel_rfl) (fun _ _ _ h => h) (Or.inl ⟨by rfl, fun w' h' => ?_⟩) hS ?_
    · have q := l3.out
      go_simp
    try simp only [Act.put, List.setIfInBounds_toArray, List.set_cons_zero, List.set_cons_succ]
    refine tk 11 14 (.bool (prt s xs n)) rfl rfl (by kernel_rfl) (by kernel_rfl) (by kernel_rfl) (fun _ _ _ h => h) (Or.inl ⟨by rfl, fun w' h' => ?_⟩) hS ?_
    · go_simp
    try simp only [Act.put, List.setIfInBounds_toArray, List.set_cons_zero, List.set_cons_succ]
    refine tk 12 2 (.bool (prt s xs n)) rfl rfl (by kernel_rfl) (by kernel_rfl) (by kernel_rfl) (fun _ _ _ h => h) (Or.inl ⟨by rfl, fun w' h' => ?_⟩) hS ?_
    · go_simp
    refine wpAnyH_done (by kernel_rfl) ?_ _
    go_wp2_with fail
    go_ret
    exact ⟨by first | rfl | (rw [HP.out]; rfl), HMf.out.below⟩
end Go.Proofs.YtbnfmiopgjmppaaDoor

namespace Go.Proofs.YtbnfmiopgjmppaaDoor
open Go.RowKit

theorem prt_small {s : Bool} {xs : List Int} {z : Int} (h : prt s xs z = true) : 0 ≤ z ∧ z ≤ 128 := by
  have h1 := (of_decide_eq_true h).2
  unfold ctN at h1
  split at h1
  · rw [← h1]; exact clm_b s z
  · omega
theorem pfO_some {l : Tx} {s : Bool} {xs : List Int} {z : Int} (h : pfO l = some (s, xs, z)) : adO (Lib.cut l [47]).1 = some (s, xs) ∧ numS (Lib.cut l [47]).2.1 = some z ∧ prt s xs z = true := by
  unfold pfO at h
  split at h
  · rename_i s' xs' h1
    split at h
    · rename_i z' h2
      split at h
      · rename_i h3
        have := Option.some.inj h
        simp only [Prod.mk.injEq] at this
        obtain ⟨rfl, rfl, rfl⟩ := this
        exact ⟨h1, h2, h3⟩
      · cases h
    · cases h
  · cases h
theorem pfO_dg {l : Tx} {s : Bool} {xs : List Int} {z : Int} (h : pfO l = some (s, xs, z)) : ∃ v : Nat, v < 129 ∧ z = (v : Int) ∧ (Lib.cut l [47]).2.1 = dg v := by
  obtain ⟨_, h2, h3⟩ := pfO_some h
  have h4 := prt_small h3
  refine ⟨z.toNat, by omega, by omega, (numS_len _ z.toNat (by omega)).1 ?_⟩
  rw [h2, show ((z.toNat : Nat) : Int) = z by omega]
theorem dg_ne : ∀ v : Fin 256, dg v.val ≠ [] := by decide +kernel
theorem cuts_at {l x y : Tx} (h : cuts 47 l = [x, y]) : (Lib.cut l [47]).1 = x ∧ (Lib.cut l [47]).2.1 = y := by
  rw [cuts_cut] at h
  split at h
  · simp only [List.cons.injEq] at h
    refine ⟨h.1, ?_⟩
    have := join_cuts 47 (Lib.cut l [47]).2.1
    rw [h.2] at this
    rw [← this]; rfl
  · simp at h
theorem pfO_two {l : Tx} (h : (cuts 47 l).length ≠ 2) : pfO l = none := by
  cases hp : pfO l with
  | none => rfl
  | some r =>
    obtain ⟨s, xs, z⟩ := r
    obtain ⟨v, hv, _, hd⟩ := pfO_dg hp
    exfalso
    apply h
    rw [cuts_cut]
    split
    · rw [hd, cuts_none 47 _ (free47_dg ⟨v, by omega⟩)]; rfl
    · rename_i hf
      have : (Lib.cut l [47]).2.1 = [] := by
        unfold Lib.cut at hf ⊢
        split at hf
        · rename_i h9; simp at hf
        · rename_i h9; rw [if_neg h9]
      rw [this] at hd
      exact absurd hd.symm (dg_ne ⟨v, by omega⟩)
theorem pfO_yes {l x y : Tx} {s : Bool} {xs : List Int} {n : Nat} (hc : cuts 47 l = [x, y]) (ha : adO x = some (s, xs)) (hn : numberR 10 129 y = (n, true)) (hd : digT 3 10 n = y) (hp : prt s xs n = true) : pfO l = some (s, xs, (n : Int)) := by
  obtain ⟨h1, h2⟩ := (number_len y n).1 ⟨hn, hd⟩
  have h3 := (numS_len y n h1).2 h2
  obtain ⟨e1, e2⟩ := cuts_at hc
  unfold pfO
  rw [e1, ha, e2, h3]
  simp only [hp, if_true]
theorem pfO_non {l x y : Tx} {n : Nat} {ok : Bool} (hc : cuts 47 l = [x, y]) (hn : numberR 10 129 y = (n, ok)) (h : adO x = none ∨ ok = false ∨ digT 3 10 n ≠ y ∨ ∃ s xs, adO x = some (s, xs) ∧ prt s xs n = false) : pfO l = none := by
  cases hp : pfO l with
  | none => rfl
  | some r =>
    obtain ⟨s, xs, z⟩ := r
    obtain ⟨h1, h2, h3⟩ := pfO_some hp
    obtain ⟨v, hv, rfl, hd⟩ := pfO_dg hp
    obtain ⟨e1, e2⟩ := cuts_at hc
    rw [e1] at h1
    rw [e2] at hd
    obtain ⟨h4, h5⟩ := (number_len y v).2 ⟨hv, hd⟩
    rw [hn] at h4
    simp only [Prod.mk.injEq] at h4
    obtain ⟨rfl, rfl⟩ := h4
    exfalso
    rcases h with h | h | h | ⟨s', xs', h, hq⟩
    · rw [h] at h1; cases h1
    · cases h
    · exact h h5
    · rw [h] at h1
      have := Option.some.inj h1
      simp only [Prod.mk.injEq] at this
      obtain ⟨rfl, rfl⟩ := this
      rw [hq] at h3; cases h3
/-- What the document's own Parse answers, in one form. -/
theorem r4par (l : Tx) (w : World) (hl : l.length ≤ 1000) : Calls Tryd.prog 22 #[.string ⟨l.toArray⟩] w fun e w' => Below w.heap.size w w' ∧ ∃ (s : Bool) (xs : List Int) (c : Int), e = .returned (.tuple #[.agg (adl s xs).toArray, .int .i64 c]) ∧ xs.length = 16 ∧ Byt xs ∧ ((c = 0 ∧ adO l = some (s, xs)) ∨ (c = 40 ∧ adO l = none)) := by
  refine (r4Parse_any l w hl).mono ?_
  rintro e w' ⟨hb, h2⟩
  refine ⟨hb, ?_⟩
  rcases h2 with ⟨gs, h3, rfl⟩ | ⟨h3, ds, h4, rfl⟩ | ⟨h3, h4, rfl⟩
  · have ha : adO l = some (true, gbI gs) := by unfold adO; rw [h3]
    exact ⟨_, _, _, rfl, (adO_ok ha).1, (adO_ok ha).2, .inl ⟨rfl, ha⟩⟩
  · have ha : adO l = some (false, fbI ds) := by unfold adO; rw [h3]; simp only [h4]
    exact ⟨_, _, _, rfl, (adO_ok ha).1, (adO_ok ha).2, .inl ⟨rfl, ha⟩⟩
  · have ha : adO l = none := by unfold adO; rw [h3]; simp only [h4]
    exact ⟨_, _, _, rfl, zs_length 16, byt_zs 16, .inr ⟨rfl, ha⟩⟩
theorem digB4 {v : Nat} (hv : v < 256) (w : World) : Calls Tryd.prog 39 #[.int .i64 (v : Int), .int .i64 10] w fun e w' => e = .returned (.string ⟨(digT 3 10 v).toArray⟩) ∧ Below w.heap.size w w' := by
  refine (r4Digits_any 10 (Or.inl rfl) 2 v w (Nat.lt_of_lt_of_le hv (by decide)) (by omega) (by decide)).mono ?_
  rintro e w' ⟨rfl, m, rfl⟩
  exact ⟨rfl, below_drewN (Below.refl _ _) m⟩

/-- The result's place, and the two parts. -/
structure Ro (w wr : World) (gO : Nat) : Prop where
  below : Below w.heap.size w wr
  out : wr.there gO 0 18
  og : w.heap.size ≤ gO
theorem Ro.past {w wr w' : World} {gO : Nat} (h : Ro w wr gO) (hb : Below wr.heap.size wr w') : Ro w w' gO := ⟨h.below.trans (hb.mono h.below.size), there_kept hb h.out, h.og⟩
structure Rs (w wr : World) (gO gS : Nat) (x y : Tx) : Prop where
  ro : Ro w wr gO
  c0 : wr.cell? ⟨gS, 0, none⟩ = some (.string ⟨x.toArray⟩)
  c1 : wr.cell? ⟨gS, 1, none⟩ = some (.string ⟨y.toArray⟩)
theorem Rs.past {w wr w' : World} {gO gS : Nat} {x y : Tx} (h : Rs w wr gO gS x y) (hb : Below wr.heap.size wr w') : Rs w w' gO gS x y := ⟨h.ro.past hb, cell_kept hb h.c0, cell_kept hb h.c1⟩
theorem stNR {ops : Array Oper} {rest : List Oper} {o : Oper} {a : Act} {w : World} {Q : Exit → Act → World → Prop} (P : World → Prop) (x y : Operand) (ho : o.op = .store 27 x y) (hgd : o.guard = none) (b off : Nat) (s : Bool) (xs : List Int) (hx : a.eval x = .pointer (some ⟨b, off, none⟩)) (hy : a.eval y = .agg (adl s xs).toArray) (hl : xs.length = 16)
    (ht : w.there b off 17) (hP : P (w.setCells b off (adl s xs))) (h : ∀ w', P w' → wpList Tryd.prog ops Q rest (a.put o.dst undef) w') : wpList Tryd.prog ops Q (o :: rest) a w :=
  stR x y ho hgd b off s xs hx hy hl ht (h _ hP)
theorem fresh_r (w : World) (Z : Array Value) (hZ : Z.size = 17) (s : Bool) (xs : List Int) (hl : xs.length = 16) : World.rangeAt ((w.alloc (.cells Z 27)).setCells w.heap.size 0 (adl s xs)) w.heap.size 0 (adl s xs) ∧ Below w.heap.size w ((w.alloc (.cells Z 27)).setCells w.heap.size 0 (adl s xs)) :=
  ⟨World.rangeAt_setCells_same _ _ _ _ (by rw [adl_len s xs hl]; exact there_new _ _ _ _ hZ _ rfl), Below.setCells (bel1 _ _) _ (Nat.le_refl _) _ _⟩
theorem fresh_q (w : World) (Z : Array Value) (hZ : Z.size = 18) (s : Bool) (xs : List Int) (n : Int) (hl : xs.length = 16) : World.rangeAt ((w.alloc (.cells Z 52)).setCells w.heap.size 0 (pfl s xs n)) w.heap.size 0 (pfl s xs n) ∧ Below w.heap.size w ((w.alloc (.cells Z 52)).setCells w.heap.size 0 (pfl s xs n)) :=
  ⟨World.rangeAt_setCells_same _ _ _ _ (by rw [pfl_len s xs n hl]; exact there_new _ _ _ _ hZ _ rfl), Below.setCells (bel1 _ _) _ (Nat.le_refl _) _ _⟩

noncomputable def KPU : Code := Tryd.f24.body.getD .skip
set_option maxRecDepth 100000 in
theorem frKPU {a : Act} (h : Fr 54 a) : ∃ f : Nat → Value, a = ⟨#[f 0, f 1, f 2, f 3, f 4, f 5, f 6, f 7, f 8, f 9, f 10, f 11, f 12, f 13, f 14, f 15, f 16, f 17, f 18, f 19, f 20, f 21, f 22, f 23, f 24, f 25, f 26, f 27, f 28, f 29, f 30, f 31, f 32, f 33, f 34, f 35, f 36, f 37, f 38, f 39, f 40, f 41, f 42, f 43, f 44, f 45, f 46, f 47, f 48, f 49, f 50, f 51, f 52, f 53], []⟩ ∧ ∀ i, f i = sl a i := fr_any h

set_option maxRecDepth 100000 in
set_option maxHeartbeats 4000000 in
theorem p0 (w : World) (l : Tx) (a : Act) (hf : Fr 54 a) (h0 : sl a 0 = .string ⟨l.toArray⟩) :
    Code.wp Tryd.prog (cAt [0] KPU) (Exit.then (fun a' w' => ∃ gO : Nat, Fr 54 a' ∧ sl a' 0 = .string ⟨l.toArray⟩ ∧ sl a' 2 = .pointer (some ⟨gO, 0, none⟩) ∧ sl a' 3 = .int .i64 0 ∧ Ro w w' gO) Nope) a w := by
  obtain ⟨f, ha, hs⟩ := frKPU hf
  have e0 := (hs 0).trans h0
  rw [e0] at ha
  clear hs hf e0 h0
  subst ha
  refine piece2 fun J0 K0 hJ0 hK0 => ?_
  conv => arg 2; whnf
  have ht : Hid (World.there (w.alloc (.cells (pfl false (zs 16) 0).toArray 52)) w.heap.size 0 18) := there_new _ _ _ _ rfl _ rfl
  have hb : Hid (Below w.heap.size w (w.alloc (.cells (pfl false (zs 16) 0).toArray 52))) := bel1 _ _
  go_wp2_with fail
  refine Met.intro (hJ0 _ _ ?_)
  exact ⟨w.heap.size, ⟨rfl, rfl⟩, rfl, rfl, rfl, ⟨hb.out, ht.out, Nat.le_refl _⟩⟩

set_option maxRecDepth 100000 in
set_option maxHeartbeats 4000000 in
theorem p1 (w : World) (l : Tx) (HL : Hid (l.length ≤ 1000)) (w0 : World) (gO : Nat) (HM0 : Hid (Ro w w0 gO)) (a : Act) (hf : Fr 54 a) (h0 : sl a 0 = .string ⟨l.toArray⟩) (h2 : sl a 2 = .pointer (some ⟨gO, 0, none⟩)) (h3 : sl a 3 = .int .i64 0) :
    Code.wp Tryd.prog (cAt [1,0] KPU) (Exit.then (fun a' w' => ∃ aC : Option Addr, ∃ nC : Nat, ∃ cC : Nat, Fr 54 a' ∧ sl a' 2 = .pointer (some ⟨gO, 0, none⟩) ∧ sl a' 3 = .int .i64 0 ∧ sl a' 4 = .slice aC nC cC ∧ Ro w w' gO ∧ OwnT w' w0.heap.size aC nC cC (cuts 47 l)) Nope) a w0 := by
  obtain ⟨f, ha, hs⟩ := frKPU hf
  have e0 := (hs 0).trans h0
  have e2 := (hs 2).trans h2
  have e3 := (hs 3).trans h3
  rw [e0, e2, e3] at ha
  clear hs hf e0 h0 e2 h2 e3 h3
  subst ha
  refine piece2 fun J0 K0 hJ0 hK0 => ?_
  conv => arg 2; whnf
  go_wp2_with fail
  refine (r4Cuts_any 47 l _ HL.out).mono ?_
  rintro e wa hR
  obtain ⟨aC, nC, cC, rfl, ho, hb⟩ := hR
  have HX : Hid (Ro w wa gO ∧ OwnT wa w0.heap.size aC nC cC (cuts 47 l)) := ⟨HM0.out.past hb, ho⟩
  clear hb ho
  go_wp2_with fail
  refine Met.intro (hJ0 _ _ ?_)
  exact ⟨aC, nC, cC, ⟨rfl, rfl⟩, rfl, rfl, rfl, HX.out.1, HX.out.2⟩

set_option maxRecDepth 100000 in
set_option maxHeartbeats 4000000 in
theorem pno (w wr : World) (l : Tx) (gO nC cC : Nat) (aC : Option Addr) (hn : nC ≠ 2) (HN : Hid (pfO l = none)) (HM : Hid (Ro w wr gO)) (a : Act) (hf : Fr 54 a) (h2 : sl a 2 = .pointer (some ⟨gO, 0, none⟩)) (h4 : sl a 4 = .slice aC nC cC) :
    Code.wp Tryd.prog (cAt [1,1] KPU) (bodyPost Tryd.prog Tryd.f24 (PpR w l)) a wr := by
  obtain ⟨f, ha, hs⟩ := frKPU hf
  have e2 := (hs 2).trans h2
  have e4 := (hs 4).trans h4
  rw [e2, e4] at ha
  clear hs hf e2 h2 e4 h4
  subst ha
  conv => arg 2; whnf
  have q3 : ((nC : Int) != 2) = true := by simp; omega
  clear hn
  go_wp2_with (first
    | (refine wpList_build_run (cells := (pfl false (zs 16) 0).toArray) rfl 52 #[] rfl ?_ ?_; · exact builtRP0)
    | (refine stQ (.tmp 2) (.tmp 15) rfl rfl gO 0 false (zs 16) 0 rfl rfl (zs_length 16) HM.out.out ?_))
  refine bodyPost_ret (ret_midT rfl _ _ gO 0 (pfl false (zs 16) 0) _ rfl (World.rangeAt_setCells_same _ _ _ _ (by rw [pfl_len _ _ _ (zs_length 16)]; exact HM.out.out)) Tryd.underlying52 rfl (infQ.trans (by rw [pfl_len _ _ _ (zs_length 16)]))) rfl ?_
  exact ⟨Below.setCells HM.out.below gO HM.out.og _ _, .inr ⟨HN.out, rfl⟩⟩

set_option maxRecDepth 100000 in
set_option maxHeartbeats 4000000 in
theorem p2 (gO : Nat) (w1 : World) (aC : Option Addr) (cC : Nat) (a : Act) (hf : Fr 54 a) (h2 : sl a 2 = .pointer (some ⟨gO, 0, none⟩)) (h3 : sl a 3 = .int .i64 0) (h4 : sl a 4 = .slice aC 2 cC) :
    Code.wp Tryd.prog (cAt [1,1,0] KPU) (Exit.then (fun a' w' => Fr 54 a' ∧ sl a' 2 = .pointer (some ⟨gO, 0, none⟩) ∧ sl a' 3 = .int .i64 0 ∧ sl a' 4 = .slice aC 2 cC ∧ w1 = w') Nope) a w1 := by
  obtain ⟨f, ha, hs⟩ := frKPU hf
  have e2 := (hs 2).trans h2
  have e3 := (hs 3).trans h3
  have e4 := (hs 4).trans h4
  rw [e2, e3, e4] at ha
  clear hs hf e2 h2 e3 h3 e4 h4
  subst ha
  refine piece2 fun J0 K0 hJ0 hK0 => ?_
  conv => arg 2; whnf
  go_wp2_with fail
  refine Met.intro (hJ0 _ _ ?_)
  exact ⟨⟨rfl, rfl⟩, rfl, rfl, rfl, rfl⟩

set_option maxRecDepth 100000 in
set_option maxHeartbeats 4000000 in
theorem p4 (w : World) (gO : Nat) (w1 : World) (cC : Nat) (gS : Nat) (x : Tx) (y : Tx) (HM2 : Hid (Rs w w1 gO gS x y)) (HXL : Hid (x.length ≤ 1000)) (a : Act) (hf : Fr 54 a) (h2 : sl a 2 = .pointer (some ⟨gO, 0, none⟩)) (h3 : sl a 3 = .int .i64 0) (h4 : sl a 4 = .slice (some ⟨gS, 0, none⟩) 2 cC) :
    Code.wp Tryd.prog (cAt [1,1,1,0] KPU) (Exit.then (fun a' w' => ∃ g5 : Nat, ∃ s0 : Bool, ∃ xs0 : List Int, ∃ e0 : Int, Fr 54 a' ∧ sl a' 2 = .pointer (some ⟨gO, 0, none⟩) ∧ sl a' 3 = .int .i64 0 ∧ sl a' 4 = .slice (some ⟨gS, 0, none⟩) 2 cC ∧ sl a' 5 = .pointer (some ⟨g5, 0, none⟩) ∧ sl a' 6 = .int .i64 e0 ∧ Rs w w' gO gS x y ∧ World.rangeAt w' g5 0 (adl s0 xs0) ∧ (xs0.length = 16 ∧ Byt xs0 ∧ ((e0 = 0 ∧ adO x = some (s0, xs0)) ∨ (e0 = 40 ∧ adO x = none)))) Nope) a w1 := by
  obtain ⟨f, ha, hs⟩ := frKPU hf
  have e2 := (hs 2).trans h2
  have e3 := (hs 3).trans h3
  have e4 := (hs 4).trans h4
  rw [e2, e3, e4] at ha
  clear hs hf e2 h2 e3 h3 e4 h4
  subst ha
  refine piece2 fun J0 K0 hJ0 hK0 => ?_
  conv => arg 2; whnf
  have hc := HM2.out.c0
  go_wp2_with fail
  refine (r4par x _ HXL.out).mono ?_
  rintro e wa ⟨hb, s0, xs0, e0, rfl, hl0, hb0, hor⟩
  have HMa := Lib.hid (HM2.out.past hb)
  have HF := Lib.hid (And.intro hl0 (And.intro hb0 hor))
  clear hb hl0 hb0 hor hc
  go_wp2_with (refine stNR (fun w' => World.rangeAt w' wa.heap.size 0 (adl s0 xs0) ∧ Below wa.heap.size wa w') (.tmp 5) (.tmp 21) rfl rfl wa.heap.size 0 s0 xs0 rfl rfl HF.out.1 (there_new _ _ _ _ rfl _ rfl) (fresh_r wa _ rfl s0 xs0 HF.out.1) ?_; rintro wb ⟨hr, hb⟩)
  have HMb := Lib.hid (HMa.out.past hb)
  refine Met.intro (hJ0 _ _ ?_)
  exact ⟨wa.heap.size, s0, xs0, e0, ⟨rfl, rfl⟩, rfl, rfl, rfl, rfl, rfl, HMb.out, hr, HF.out⟩

set_option maxRecDepth 100000 in
set_option maxHeartbeats 4000000 in
theorem p5 (w : World) (gO : Nat) (cC : Nat) (gS : Nat) (x : Tx) (y : Tx) (HYL : Hid (y.length ≤ 1000)) (w4 : World) (g5 : Nat) (e0 : Int) (HM4 : Hid (Rs w w4 gO gS x y)) (a : Act) (hf : Fr 54 a) (h2 : sl a 2 = .pointer (some ⟨gO, 0, none⟩)) (h3 : sl a 3 = .int .i64 0) (h4 : sl a 4 = .slice (some ⟨gS, 0, none⟩) 2 cC) (h5 : sl a 5 = .pointer (some ⟨g5, 0, none⟩)) (h6 : sl a 6 = .int .i64 e0) :
    Code.wp Tryd.prog (cAt [1,1,1,1,0] KPU) (Exit.then (fun a' w' => ∃ n : Nat, ∃ ok : Bool, Fr 54 a' ∧ sl a' 2 = .pointer (some ⟨gO, 0, none⟩) ∧ sl a' 3 = .int .i64 0 ∧ sl a' 4 = .slice (some ⟨gS, 0, none⟩) 2 cC ∧ sl a' 5 = .pointer (some ⟨g5, 0, none⟩) ∧ sl a' 6 = .int .i64 e0 ∧ sl a' 7 = .int .i64 (n : Int) ∧ sl a' 8 = .bool ok ∧ w' = w4 ∧ numberR 10 129 y = (n, ok)) Nope) a w4 := by
  obtain ⟨f, ha, hs⟩ := frKPU hf
  have e2 := (hs 2).trans h2
  have e3 := (hs 3).trans h3
  have e4 := (hs 4).trans h4
  have e5 := (hs 5).trans h5
  have e6 := (hs 6).trans h6
  rw [e2, e3, e4, e5, e6] at ha
  clear hs hf e2 h2 e3 h3 e4 h4 e5 h5 e6 h6
  subst ha
  refine piece2 fun J0 K0 hJ0 hK0 => ?_
  conv => arg 2; whnf
  have hc := HM4.out.c1
  go_wp2_with fail
  refine (r4Number_any 10 129 y _ (by decide) (by decide) (by decide) HYL.out).mono ?_
  rintro e w2 ⟨rfl, hw2⟩
  subst hw2
  obtain ⟨n, hn⟩ : ∃ n, (numberR 10 129 y).1 = n := ⟨_, rfl⟩
  obtain ⟨ok, hok⟩ : ∃ n, (numberR 10 129 y).2 = n := ⟨_, rfl⟩
  rw [hn, hok]
  have HN : Hid (numberR 10 129 y = (n, ok)) := by show _ = _; rw [← hn, ← hok]
  clear hn hok
  go_wp2_with fail
  refine Met.intro (hJ0 _ _ ?_)
  exact ⟨n, ok, ⟨rfl, rfl⟩, rfl, rfl, rfl, rfl, rfl, rfl, rfl, rfl, HN.out⟩

set_option maxRecDepth 100000 in
set_option maxHeartbeats 4000000 in
theorem p6 (w : World) (gO : Nat) (cC : Nat) (gS : Nat) (x : Tx) (y : Tx) (g5 : Nat) (s0 : Bool) (xs0 : List Int) (e0 : Int) (w5 : World) (HM4 : Hid (Rs w w5 gO gS x y)) (HR4 : Hid (World.rangeAt w5 g5 0 (adl s0 xs0))) (HF4 : Hid (xs0.length = 16 ∧ Byt xs0 ∧ ((e0 = 0 ∧ adO x = some (s0, xs0)) ∨ (e0 = 40 ∧ adO x = none)))) (n : Nat) (ok : Bool) (a : Act) (hf : Fr 54 a) (h2 : sl a 2 = .pointer (some ⟨gO, 0, none⟩)) (h3 : sl a 3 = .int .i64 0) (h4 : sl a 4 = .slice (some ⟨gS, 0, none⟩) 2 cC) (h5 : sl a 5 = .pointer (some ⟨g5, 0, none⟩)) (h6 : sl a 6 = .int .i64 e0) (h7 : sl a 7 = .int .i64 (n : Int)) (h8 : sl a 8 = .bool ok) :
    Code.wp Tryd.prog (cAt [1,1,1,1,1,0] KPU) (Exit.then (fun a' w' => ∃ g9 : Nat, Fr 54 a' ∧ sl a' 2 = .pointer (some ⟨gO, 0, none⟩) ∧ sl a' 3 = .int .i64 0 ∧ sl a' 4 = .slice (some ⟨gS, 0, none⟩) 2 cC ∧ sl a' 6 = .int .i64 e0 ∧ sl a' 7 = .int .i64 (n : Int) ∧ sl a' 8 = .bool ok ∧ sl a' 9 = .pointer (some ⟨g9, 0, none⟩) ∧ Rs w w' gO gS x y ∧ World.rangeAt w' g9 0 (pfl s0 xs0 n)) Nope) a w5 := by
  obtain ⟨f, ha, hs⟩ := frKPU hf
  have e2 := (hs 2).trans h2
  have e3 := (hs 3).trans h3
  have e4 := (hs 4).trans h4
  have e5 := (hs 5).trans h5
  have e6 := (hs 6).trans h6
  have e7 := (hs 7).trans h7
  have e8 := (hs 8).trans h8
  rw [e2, e3, e4, e5, e6, e7, e8] at ha
  clear hs hf e2 h2 e3 h3 e4 h4 e5 h5 e6 h6 e7 h7 e8 h8
  subst ha
  refine piece2 fun J0 K0 hJ0 hK0 => ?_
  conv => arg 2; whnf
  go_wp2_with (first
    | (refine ldR (.tmp 5) rfl rfl g5 0 rfl s0 xs0 HF4.out.1 (by exact HR4.out) ?_)
    | (refine wpList_build_run (cells := (pfl s0 xs0 n).toArray) rfl 52 _ rfl ?_ ?_; · exact builtRP s0 xs0 n HF4.out.1)
    | (refine stNQ (fun w' => World.rangeAt w' w5.heap.size 0 (pfl s0 xs0 n) ∧ Below w5.heap.size w5 w') (.tmp 9) (.tmp 32) rfl rfl w5.heap.size 0 s0 xs0 n rfl rfl HF4.out.1 (there_new _ _ _ _ rfl _ rfl) (fresh_q w5 _ rfl s0 xs0 n HF4.out.1) ?_; rintro wb ⟨hr, hb⟩))
  have HMb := Lib.hid (HM4.out.past hb)
  refine Met.intro (hJ0 _ _ ?_)
  exact ⟨w5.heap.size, ⟨rfl, rfl⟩, rfl, rfl, rfl, rfl, rfl, rfl, rfl, HMb.out, hr⟩

set_option maxRecDepth 100000 in
set_option maxHeartbeats 4000000 in
theorem p7 (w : World) (gO : Nat) (cC : Nat) (gS : Nat) (x : Tx) (y : Tx) (s0 : Bool) (xs0 : List Int) (e0 : Int) (HF4 : Hid (xs0.length = 16 ∧ Byt xs0 ∧ ((e0 = 0 ∧ adO x = some (s0, xs0)) ∨ (e0 = 40 ∧ adO x = none)))) (n : Nat) (ok : Bool) (HNL : Hid (n < 129)) (w6 : World) (g9 : Nat) (HM6 : Hid (Rs w w6 gO gS x y)) (HR6 : Hid (World.rangeAt w6 g9 0 (pfl s0 xs0 n))) (bb : Bool) (hbb : Hid ((!(decide (e0 = 0)) || (!ok || (!(digT 3 10 n == y) || !(prt s0 xs0 n)))) = bb)) (a : Act) (hf : Fr 54 a) (h2 : sl a 2 = .pointer (some ⟨gO, 0, none⟩)) (h3 : sl a 3 = .int .i64 0) (h4 : sl a 4 = .slice (some ⟨gS, 0, none⟩) 2 cC) (h6 : sl a 6 = .int .i64 e0) (h7 : sl a 7 = .int .i64 (n : Int)) (h8 : sl a 8 = .bool ok) (h9 : sl a 9 = .pointer (some ⟨g9, 0, none⟩)) :
    Code.wp Tryd.prog (cAt [1,1,1,1,1,1,0,0] KPU) (Exit.then (fun a' w' => Fr 54 a' ∧ sl a' 2 = .pointer (some ⟨gO, 0, none⟩) ∧ sl a' 3 = .int .i64 0 ∧ sl a' 9 = .pointer (some ⟨g9, 0, none⟩) ∧ sl a' 51 = .bool bb ∧ Ro w w' gO ∧ World.rangeAt w' g9 0 (pfl s0 xs0 n)) Nope) a w6 := by
  obtain ⟨f, ha, hs⟩ := frKPU hf
  have e2 := (hs 2).trans h2
  have e3 := (hs 3).trans h3
  have e4 := (hs 4).trans h4
  have e6 := (hs 6).trans h6
  have e7 := (hs 7).trans h7
  have e8 := (hs 8).trans h8
  have e9 := (hs 9).trans h9
  rw [e2, e3, e4, e6, e7, e8, e9] at ha
  clear hs hf e2 h2 e3 h3 e4 h4 e6 h6 e7 h7 e8 h8 e9 h9
  subst ha
  refine piece2 fun J0 K0 hJ0 hK0 => ?_
  conv => arg 2; whnf
  by_cases he : e0 = 0
  case neg =>
    have he2 : e0 = 40 := by rcases HF4.out.2.2 with h | h <;> omega
    subst he2
    have HV : Hid (bb = true) := by show _ = _; rw [← hbb.out]; rfl
    clear he
    have HMd : Hid (Rs w w6.drew gO gS x y ∧ World.rangeAt w6.drew g9 0 (pfl s0 xs0 n)) := ⟨HM6.out.past (Below.refl _ _).drew, range_kept (Below.refl _ _).drew HR6.out⟩
    refine wp_region_held_drew (S := fun w' => Rs w w' gO gS x y ∧ World.rangeAt w' g9 0 (pfl s0 xs0 n)) (by kernel_rfl) HMd.out (fun hS => ?_)
    refine tk 0 33 (.int .i64 40) rfl rfl (by kernel_rfl) (by kernel_rfl) (by kernel_rfl) (fun _ _ _ h => h) (Or.inl ⟨by rfl, fun w' h' => ?_⟩) hS ?_
    · go_simp
    try simp only [Act.put, List.setIfInBounds_toArray, List.set_cons_zero, List.set_cons_succ]
    refine tk 1 34 (.bool true) rfl rfl (by kernel_rfl) (by kernel_rfl) (by kernel_rfl) (fun _ _ _ h => h) (Or.inl ⟨by rfl, fun w' h' => ?_⟩) hS ?_
    · go_simp
    try simp only [Act.put, List.setIfInBounds_toArray, List.set_cons_zero, List.set_cons_succ]
    refine tk 2 35 (.bool true) rfl rfl (by kernel_rfl) (by kernel_rfl) (by kernel_rfl) (fun _ _ _ h => h) (Or.inl ⟨by rfl, fun w' h' => ?_⟩) hS ?_
    · go_simp
    try simp only [Act.put, List.setIfInBounds_toArray, List.set_cons_zero, List.set_cons_succ]
    refine tk 3 36 undef rfl rfl (by kernel_rfl) (by kernel_rfl) (by kernel_rfl) (fun _ _ _ h => h) (Or.inr ⟨by rfl, rfl⟩) hS ?_
    try simp only [Act.put, List.setIfInBounds_toArray, List.set_cons_zero, List.set_cons_succ]
    refine tk 4 37 undef rfl rfl (by kernel_rfl) (by kernel_rfl) (by kernel_rfl) (fun _ _ _ h => h) (Or.inr ⟨by rfl, rfl⟩) hS ?_
    try simp only [Act.put, List.setIfInBounds_toArray, List.set_cons_zero, List.set_cons_succ]
    refine tk 5 38 (.bool true) rfl rfl (by kernel_rfl) (by kernel_rfl) (by kernel_rfl) (fun _ _ _ h => h) (Or.inl ⟨by rfl, fun w' h' => ?_⟩) hS ?_
    · go_simp
    try simp only [Act.put, List.setIfInBounds_toArray, List.set_cons_zero, List.set_cons_succ]
    refine tk 6 39 (.bool true) rfl rfl (by kernel_rfl) (by kernel_rfl) (by kernel_rfl) (fun _ _ _ h => h) (Or.inl ⟨by rfl, fun w' h' => ?_⟩) hS ?_
    · go_simp
    try simp only [Act.put, List.setIfInBounds_toArray, List.set_cons_zero, List.set_cons_succ]
    refine tk 7 40 undef rfl rfl (by kernel_rfl) (by kernel_rfl) (by kernel_rfl) (fun _ _ _ h => h) (Or.inr ⟨by rfl, rfl⟩) hS ?_
    try simp only [Act.put, List.setIfInBounds_toArray, List.set_cons_zero, List.set_cons_succ]
    refine tk 8 41 undef rfl rfl (by kernel_rfl) (by kernel_rfl) (by kernel_rfl) (fun _ _ _ h => h) (Or.inr ⟨by rfl, rfl⟩) hS ?_
    try simp only [Act.put, List.setIfInBounds_toArray, List.set_cons_zero, List.set_cons_succ]
    refine tk 9 42 undef rfl rfl (by kernel_rfl) (by kernel_rfl) (by kernel_rfl) (fun _ _ _ h => h) (Or.inr ⟨by rfl, rfl⟩) hS ?_
    try simp only [Act.put, List.setIfInBounds_toArray, List.set_cons_zero, List.set_cons_succ]
    refine tk 10 43 undef rfl rfl (by kernel_rfl) (by kernel_rfl) (by kernel_rfl) (fun _ _ _ h => h) (Or.inr ⟨by rfl, rfl⟩) hS ?_
    try simp only [Act.put, List.setIfInBounds_toArray, List.set_cons_zero, List.set_cons_succ]
    refine tk 11 44 undef rfl rfl (by kernel_rfl) (by kernel_rfl) (by kernel_rfl) (fun _ _ _ h => h) (Or.inr ⟨by rfl, rfl⟩) hS ?_
    try simp only [Act.put, List.setIfInBounds_toArray, List.set_cons_zero, List.set_cons_succ]
    refine tk 12 45 undef rfl rfl (by kernel_rfl) (by kernel_rfl) (by kernel_rfl) (fun _ _ _ h => h) (Or.inr ⟨by rfl, rfl⟩) hS ?_
    try simp only [Act.put, List.setIfInBounds_toArray, List.set_cons_zero, List.set_cons_succ]
    refine tk 13 46 (.bool true) rfl rfl (by kernel_rfl) (by kernel_rfl) (by kernel_rfl) (fun _ _ _ h => h) (Or.inl ⟨by rfl, fun w' h' => ?_⟩) hS ?_
    · go_simp
    try simp only [Act.put, List.setIfInBounds_toArray, List.set_cons_zero, List.set_cons_succ]
    refine tk 14 47 (.bool true) rfl rfl (by kernel_rfl) (by kernel_rfl) (by kernel_rfl) (fun _ _ _ h => h) (Or.inl ⟨by rfl, fun w' h' => ?_⟩) hS ?_
    · go_simp
    try simp only [Act.put, List.setIfInBounds_toArray, List.set_cons_zero, List.set_cons_succ]
    refine tk 15 48 undef rfl rfl (by kernel_rfl) (by kernel_rfl) (by kernel_rfl) (fun _ _ _ h => h) (Or.inr ⟨by rfl, rfl⟩) hS ?_
    try simp only [Act.put, List.setIfInBounds_toArray, List.set_cons_zero, List.set_cons_succ]
    refine tk 16 49 undef rfl rfl (by kernel_rfl) (by kernel_rfl) (by kernel_rfl) (fun _ _ _ h => h) (Or.inr ⟨by rfl, rfl⟩) hS ?_
    try simp only [Act.put, List.setIfInBounds_toArray, List.set_cons_zero, List.set_cons_succ]
    refine tk 17 50 undef rfl rfl (by kernel_rfl) (by kernel_rfl) (by kernel_rfl) (fun _ _ _ h => h) (Or.inr ⟨by rfl, rfl⟩) hS ?_
    try simp only [Act.put, List.setIfInBounds_toArray, List.set_cons_zero, List.set_cons_succ]
    refine tk 18 51 (.bool true) rfl rfl (by kernel_rfl) (by kernel_rfl) (by kernel_rfl) (fun _ _ _ h => h) (Or.inl ⟨by rfl, fun w' h' => ?_⟩) hS ?_
    · go_simp
    refine wpAnyH_done (by kernel_rfl) ?_ _
    go_wp2_with fail
    refine Met.intro (hJ0 _ _ ?_)
    exact ⟨⟨rfl, rfl⟩, rfl, rfl, rfl, by rw [HV.out]; rfl, HMd.out.1.ro, HMd.out.2⟩
  subst he
  cases ok
  · have HV : Hid (bb = true) := by show _ = _; rw [← hbb.out]; rfl
    have HMd : Hid (Rs w w6.drew gO gS x y ∧ World.rangeAt w6.drew g9 0 (pfl s0 xs0 n)) := ⟨HM6.out.past (Below.refl _ _).drew, range_kept (Below.refl _ _).drew HR6.out⟩
    refine wp_region_held_drew (S := fun w' => Rs w w' gO gS x y ∧ World.rangeAt w' g9 0 (pfl s0 xs0 n)) (by kernel_rfl) HMd.out (fun hS => ?_)
    refine tk 0 33 (.int .i64 0) rfl rfl (by kernel_rfl) (by kernel_rfl) (by kernel_rfl) (fun _ _ _ h => h) (Or.inl ⟨by rfl, fun w' h' => ?_⟩) hS ?_
    · go_simp
    try simp only [Act.put, List.setIfInBounds_toArray, List.set_cons_zero, List.set_cons_succ]
    refine tk 1 34 (.bool false) rfl rfl (by kernel_rfl) (by kernel_rfl) (by kernel_rfl) (fun _ _ _ h => h) (Or.inl ⟨by rfl, fun w' h' => ?_⟩) hS ?_
    · go_simp
    try simp only [Act.put, List.setIfInBounds_toArray, List.set_cons_zero, List.set_cons_succ]
    refine tk 2 35 (.bool false) rfl rfl (by kernel_rfl) (by kernel_rfl) (by kernel_rfl) (fun _ _ _ h => h) (Or.inl ⟨by rfl, fun w' h' => ?_⟩) hS ?_
    · go_simp
    try simp only [Act.put, List.setIfInBounds_toArray, List.set_cons_zero, List.set_cons_succ]
    refine tk 3 36 (.bool false) rfl rfl (by kernel_rfl) (by kernel_rfl) (by kernel_rfl) (fun _ _ _ h => h) (Or.inl ⟨by rfl, fun w' h' => ?_⟩) hS ?_
    · go_simp
    try simp only [Act.put, List.setIfInBounds_toArray, List.set_cons_zero, List.set_cons_succ]
    refine tk 4 37 (.bool true) rfl rfl (by kernel_rfl) (by kernel_rfl) (by kernel_rfl) (fun _ _ _ h => h) (Or.inl ⟨by rfl, fun w' h' => ?_⟩) hS ?_
    · go_simp
    try simp only [Act.put, List.setIfInBounds_toArray, List.set_cons_zero, List.set_cons_succ]
    refine tk 5 38 (.bool true) rfl rfl (by kernel_rfl) (by kernel_rfl) (by kernel_rfl) (fun _ _ _ h => h) (Or.inl ⟨by rfl, fun w' h' => ?_⟩) hS ?_
    · go_simp
    try simp only [Act.put, List.setIfInBounds_toArray, List.set_cons_zero, List.set_cons_succ]
    refine tk 6 39 (.bool true) rfl rfl (by kernel_rfl) (by kernel_rfl) (by kernel_rfl) (fun _ _ _ h => h) (Or.inl ⟨by rfl, fun w' h' => ?_⟩) hS ?_
    · go_simp
    try simp only [Act.put, List.setIfInBounds_toArray, List.set_cons_zero, List.set_cons_succ]
    refine tk 7 40 undef rfl rfl (by kernel_rfl) (by kernel_rfl) (by kernel_rfl) (fun _ _ _ h => h) (Or.inr ⟨by rfl, rfl⟩) hS ?_
    try simp only [Act.put, List.setIfInBounds_toArray, List.set_cons_zero, List.set_cons_succ]
    refine tk 8 41 undef rfl rfl (by kernel_rfl) (by kernel_rfl) (by kernel_rfl) (fun _ _ _ h => h) (Or.inr ⟨by rfl, rfl⟩) hS ?_
    try simp only [Act.put, List.setIfInBounds_toArray, List.set_cons_zero, List.set_cons_succ]
    refine tk 9 42 undef rfl rfl (by kernel_rfl) (by kernel_rfl) (by kernel_rfl) (fun _ _ _ h => h) (Or.inr ⟨by rfl, rfl⟩) hS ?_
    try simp only [Act.put, List.setIfInBounds_toArray, List.set_cons_zero, List.set_cons_succ]
    refine tk 10 43 undef rfl rfl (by kernel_rfl) (by kernel_rfl) (by kernel_rfl) (fun _ _ _ h => h) (Or.inr ⟨by rfl, rfl⟩) hS ?_
    try simp only [Act.put, List.setIfInBounds_toArray, List.set_cons_zero, List.set_cons_succ]
    refine tk 11 44 undef rfl rfl (by kernel_rfl) (by kernel_rfl) (by kernel_rfl) (fun _ _ _ h => h) (Or.inr ⟨by rfl, rfl⟩) hS ?_
    try simp only [Act.put, List.setIfInBounds_toArray, List.set_cons_zero, List.set_cons_succ]
    refine tk 12 45 undef rfl rfl (by kernel_rfl) (by kernel_rfl) (by kernel_rfl) (fun _ _ _ h => h) (Or.inr ⟨by rfl, rfl⟩) hS ?_
    try simp only [Act.put, List.setIfInBounds_toArray, List.set_cons_zero, List.set_cons_succ]
    refine tk 13 46 (.bool true) rfl rfl (by kernel_rfl) (by kernel_rfl) (by kernel_rfl) (fun _ _ _ h => h) (Or.inl ⟨by rfl, fun w' h' => ?_⟩) hS ?_
    · go_simp
    try simp only [Act.put, List.setIfInBounds_toArray, List.set_cons_zero, List.set_cons_succ]
    refine tk 14 47 (.bool true) rfl rfl (by kernel_rfl) (by kernel_rfl) (by kernel_rfl) (fun _ _ _ h => h) (Or.inl ⟨by rfl, fun w' h' => ?_⟩) hS ?_
    · go_simp
    try simp only [Act.put, List.setIfInBounds_toArray, List.set_cons_zero, List.set_cons_succ]
    refine tk 15 48 undef rfl rfl (by kernel_rfl) (by kernel_rfl) (by kernel_rfl) (fun _ _ _ h => h) (Or.inr ⟨by rfl, rfl⟩) hS ?_
    try simp only [Act.put, List.setIfInBounds_toArray, List.set_cons_zero, List.set_cons_succ]
    refine tk 16 49 undef rfl rfl (by kernel_rfl) (by kernel_rfl) (by kernel_rfl) (fun _ _ _ h => h) (Or.inr ⟨by rfl, rfl⟩) hS ?_
    try simp only [Act.put, List.setIfInBounds_toArray, List.set_cons_zero, List.set_cons_succ]
    refine tk 17 50 undef rfl rfl (by kernel_rfl) (by kernel_rfl) (by kernel_rfl) (fun _ _ _ h => h) (Or.inr ⟨by rfl, rfl⟩) hS ?_
    try simp only [Act.put, List.setIfInBounds_toArray, List.set_cons_zero, List.set_cons_succ]
    refine tk 18 51 (.bool true) rfl rfl (by kernel_rfl) (by kernel_rfl) (by kernel_rfl) (fun _ _ _ h => h) (Or.inl ⟨by rfl, fun w' h' => ?_⟩) hS ?_
    · go_simp
    refine wpAnyH_done (by kernel_rfl) ?_ _
    go_wp2_with fail
    refine Met.intro (hJ0 _ _ ?_)
    exact ⟨⟨rfl, rfl⟩, rfl, rfl, rfl, by rw [HV.out]; rfl, HMd.out.1.ro, HMd.out.2⟩
  · obtain ⟨z, hz⟩ : ∃ z, digT 3 10 n = z := ⟨_, rfl⟩
    have HDZ := Lib.hid hz
    by_cases hzy : z = y
    case neg =>
      have HV : Hid (bb = true) := by show _ = _; rw [← hbb.out, hz]; simp [hzy]
      have HZ1 : Hid ((z == y) = false) := by show _ = _; simp [hzy]
      have HZ2 : Hid ((z != y) = true) := by show _ = _; simp [hzy]
      clear hz hzy
      have HMd : Hid (Rs w w6.drew gO gS x y ∧ World.rangeAt w6.drew g9 0 (pfl s0 xs0 n)) := ⟨HM6.out.past (Below.refl _ _).drew, range_kept (Below.refl _ _).drew HR6.out⟩
      refine wp_region_held_drew (S := fun w' => Rs w w' gO gS x y ∧ World.rangeAt w' g9 0 (pfl s0 xs0 n)) (by kernel_rfl) HMd.out (fun hS => ?_)
      refine tk 0 33 (.int .i64 0) rfl rfl (by kernel_rfl) (by kernel_rfl) (by kernel_rfl) (fun _ _ _ h => h) (Or.inl ⟨by rfl, fun w' h' => ?_⟩) hS ?_
      · go_simp
      try simp only [Act.put, List.setIfInBounds_toArray, List.set_cons_zero, List.set_cons_succ]
      refine tk 1 34 (.bool false) rfl rfl (by kernel_rfl) (by kernel_rfl) (by kernel_rfl) (fun _ _ _ h => h) (Or.inl ⟨by rfl, fun w' h' => ?_⟩) hS ?_
      · go_simp
      try simp only [Act.put, List.setIfInBounds_toArray, List.set_cons_zero, List.set_cons_succ]
      refine tk 2 35 (.bool false) rfl rfl (by kernel_rfl) (by kernel_rfl) (by kernel_rfl) (fun _ _ _ h => h) (Or.inl ⟨by rfl, fun w' h' => ?_⟩) hS ?_
      · go_simp
      try simp only [Act.put, List.setIfInBounds_toArray, List.set_cons_zero, List.set_cons_succ]
      refine tk 3 36 (.bool true) rfl rfl (by kernel_rfl) (by kernel_rfl) (by kernel_rfl) (fun _ _ _ h => h) (Or.inl ⟨by rfl, fun w' h' => ?_⟩) hS ?_
      · go_simp
      try simp only [Act.put, List.setIfInBounds_toArray, List.set_cons_zero, List.set_cons_succ]
      refine tk 4 37 (.bool false) rfl rfl (by kernel_rfl) (by kernel_rfl) (by kernel_rfl) (fun _ _ _ h => h) (Or.inl ⟨by rfl, fun w' h' => ?_⟩) hS ?_
      · go_simp
      try simp only [Act.put, List.setIfInBounds_toArray, List.set_cons_zero, List.set_cons_succ]
      refine tk 5 38 (.bool false) rfl rfl (by kernel_rfl) (by kernel_rfl) (by kernel_rfl) (fun _ _ _ h => h) (Or.inl ⟨by rfl, fun w' h' => ?_⟩) hS ?_
      · go_simp
      try simp only [Act.put, List.setIfInBounds_toArray, List.set_cons_zero, List.set_cons_succ]
      refine tk 6 39 (.bool false) rfl rfl (by kernel_rfl) (by kernel_rfl) (by kernel_rfl) (fun _ _ _ h => h) (Or.inl ⟨by rfl, fun w' h' => ?_⟩) hS ?_
      · go_simp
      try simp only [Act.put, List.setIfInBounds_toArray, List.set_cons_zero, List.set_cons_succ]
      refine tk 7 40 (.int .i64 (n : Int)) rfl rfl (by kernel_rfl) (by kernel_rfl) (by kernel_rfl) (fun _ _ _ h => h) (Or.inl ⟨by rfl, fun w' h' => ?_⟩) hS ?_
      · go_simp
      try simp only [Act.put, List.setIfInBounds_toArray, List.set_cons_zero, List.set_cons_succ]
      refine tk 9 42 (.slice (some ⟨gS, 0, none⟩) 2 cC) rfl rfl (by kernel_rfl) (by kernel_rfl) (by kernel_rfl) (fun _ _ _ h => h) (Or.inl ⟨by rfl, fun w' h' => ?_⟩) hS ?_
      · go_simp
      try simp only [Act.put, List.setIfInBounds_toArray, List.set_cons_zero, List.set_cons_succ]
      refine tk 10 43 (.pointer (some ⟨gS, 1, none⟩)) rfl rfl (by kernel_rfl) (by kernel_rfl) (by kernel_rfl) (fun _ _ _ h => h) (Or.inl ⟨by rfl, fun w' h' => ?_⟩) hS ?_
      · go_simp
      try simp only [Act.put, List.setIfInBounds_toArray, List.set_cons_zero, List.set_cons_succ]
      refine tk 11 44 (.string ⟨y.toArray⟩) rfl rfl (by kernel_rfl) (by kernel_rfl) (by kernel_rfl) (fun _ _ _ h => h) (Or.inl ⟨by rfl, fun w' h' => ?_⟩) hS ?_
      · have hc := h'.1.c1
        go_simp
      try simp only [Act.put, List.setIfInBounds_toArray, List.set_cons_zero, List.set_cons_succ]
      refine wpAnyH_ready (rs := [8]) (by kernel_rfl) (by simp) (AllReadyH.cons rfl (fun K hK => ?_) AllReadyH.nil)
      rw [if_pos (by rfl)]
      go_wp2_with fail
      refine (digB4 (by have := HNL.out; omega) _).mono ?_
      rintro e wa ⟨rfl, hb⟩
      have HMe : Hid (Rs w wa gO gS x y ∧ World.rangeAt wa g9 0 (pfl s0 xs0 n)) := ⟨HMd.out.1.past hb, range_kept hb HMd.out.2⟩
      clear hb
      rw [HDZ.out]
      clear hS
      refine hK.out _ _ (HMe.out) (fun hS => ?_)
      clear hK K
      try simp only [Act.put, List.setIfInBounds_toArray, List.set_cons_zero, List.set_cons_succ]
      refine tk 12 45 (.bool true) rfl rfl (by kernel_rfl) (by kernel_rfl) (by kernel_rfl) (fun _ _ _ h => h) (Or.inl ⟨by rfl, fun w' h' => ?_⟩) hS ?_
      · have q1 := HZ1.out
        have q2 := HZ2.out
        go_simp
      try simp only [Act.put, List.setIfInBounds_toArray, List.set_cons_zero, List.set_cons_succ]
      refine tk 13 46 (.bool true) rfl rfl (by kernel_rfl) (by kernel_rfl) (by kernel_rfl) (fun _ _ _ h => h) (Or.inl ⟨by rfl, fun w' h' => ?_⟩) hS ?_
      · go_simp
      try simp only [Act.put, List.setIfInBounds_toArray, List.set_cons_zero, List.set_cons_succ]
      refine tk 14 47 (.bool true) rfl rfl (by kernel_rfl) (by kernel_rfl) (by kernel_rfl) (fun _ _ _ h => h) (Or.inl ⟨by rfl, fun w' h' => ?_⟩) hS ?_
      · go_simp
      try simp only [Act.put, List.setIfInBounds_toArray, List.set_cons_zero, List.set_cons_succ]
      refine tk 15 48 undef rfl rfl (by kernel_rfl) (by kernel_rfl) (by kernel_rfl) (fun _ _ _ h => h) (Or.inr ⟨by rfl, rfl⟩) hS ?_
      try simp only [Act.put, List.setIfInBounds_toArray, List.set_cons_zero, List.set_cons_succ]
      refine tk 16 49 undef rfl rfl (by kernel_rfl) (by kernel_rfl) (by kernel_rfl) (fun _ _ _ h => h) (Or.inr ⟨by rfl, rfl⟩) hS ?_
      try simp only [Act.put, List.setIfInBounds_toArray, List.set_cons_zero, List.set_cons_succ]
      refine tk 17 50 undef rfl rfl (by kernel_rfl) (by kernel_rfl) (by kernel_rfl) (fun _ _ _ h => h) (Or.inr ⟨by rfl, rfl⟩) hS ?_
      try simp only [Act.put, List.setIfInBounds_toArray, List.set_cons_zero, List.set_cons_succ]
      refine tk 18 51 (.bool true) rfl rfl (by kernel_rfl) (by kernel_rfl) (by kernel_rfl) (fun _ _ _ h => h) (Or.inl ⟨by rfl, fun w' h' => ?_⟩) hS ?_
      · go_simp
      refine wpAnyH_done (by kernel_rfl) ?_ _
      go_wp2_with fail
      refine Met.intro (hJ0 _ _ ?_)
      exact ⟨⟨rfl, rfl⟩, rfl, rfl, rfl, by rw [HV.out]; rfl, HMe.out.1.ro, HMe.out.2⟩
    have HZ1 : Hid ((z == y) = true) := by show _ = _; simp [hzy]
    have HZ2 : Hid ((z != y) = false) := by show _ = _; simp [hzy]
    obtain ⟨pp, hpp⟩ : ∃ p, prt s0 xs0 n = p := ⟨_, rfl⟩
    have HPR := Lib.hid hpp
    have HV : Hid (bb = !pp) := by show _ = _; rw [← hbb.out, hz, hpp, HZ1.out]; rfl
    clear hz hzy hpp
    have HMd : Hid (Rs w w6.drew gO gS x y ∧ World.rangeAt w6.drew g9 0 (pfl s0 xs0 n)) := ⟨HM6.out.past (Below.refl _ _).drew, range_kept (Below.refl _ _).drew HR6.out⟩
    refine wp_region_held_drew (S := fun w' => Rs w w' gO gS x y ∧ World.rangeAt w' g9 0 (pfl s0 xs0 n)) (by kernel_rfl) HMd.out (fun hS => ?_)
    refine tk 0 33 (.int .i64 0) rfl rfl (by kernel_rfl) (by kernel_rfl) (by kernel_rfl) (fun _ _ _ h => h) (Or.inl ⟨by rfl, fun w' h' => ?_⟩) hS ?_
    · go_simp
    try simp only [Act.put, List.setIfInBounds_toArray, List.set_cons_zero, List.set_cons_succ]
    refine tk 1 34 (.bool false) rfl rfl (by kernel_rfl) (by kernel_rfl) (by kernel_rfl) (fun _ _ _ h => h) (Or.inl ⟨by rfl, fun w' h' => ?_⟩) hS ?_
    · go_simp
    try simp only [Act.put, List.setIfInBounds_toArray, List.set_cons_zero, List.set_cons_succ]
    refine tk 2 35 (.bool false) rfl rfl (by kernel_rfl) (by kernel_rfl) (by kernel_rfl) (fun _ _ _ h => h) (Or.inl ⟨by rfl, fun w' h' => ?_⟩) hS ?_
    · go_simp
    try simp only [Act.put, List.setIfInBounds_toArray, List.set_cons_zero, List.set_cons_succ]
    refine tk 3 36 (.bool true) rfl rfl (by kernel_rfl) (by kernel_rfl) (by kernel_rfl) (fun _ _ _ h => h) (Or.inl ⟨by rfl, fun w' h' => ?_⟩) hS ?_
    · go_simp
    try simp only [Act.put, List.setIfInBounds_toArray, List.set_cons_zero, List.set_cons_succ]
    refine tk 4 37 (.bool false) rfl rfl (by kernel_rfl) (by kernel_rfl) (by kernel_rfl) (fun _ _ _ h => h) (Or.inl ⟨by rfl, fun w' h' => ?_⟩) hS ?_
    · go_simp
    try simp only [Act.put, List.setIfInBounds_toArray, List.set_cons_zero, List.set_cons_succ]
    refine tk 5 38 (.bool false) rfl rfl (by kernel_rfl) (by kernel_rfl) (by kernel_rfl) (fun _ _ _ h => h) (Or.inl ⟨by rfl, fun w' h' => ?_⟩) hS ?_
    · go_simp
    try simp only [Act.put, List.setIfInBounds_toArray, List.set_cons_zero, List.set_cons_succ]
    refine tk 6 39 (.bool false) rfl rfl (by kernel_rfl) (by kernel_rfl) (by kernel_rfl) (fun _ _ _ h => h) (Or.inl ⟨by rfl, fun w' h' => ?_⟩) hS ?_
    · go_simp
    try simp only [Act.put, List.setIfInBounds_toArray, List.set_cons_zero, List.set_cons_succ]
    refine tk 7 40 (.int .i64 (n : Int)) rfl rfl (by kernel_rfl) (by kernel_rfl) (by kernel_rfl) (fun _ _ _ h => h) (Or.inl ⟨by rfl, fun w' h' => ?_⟩) hS ?_
    · go_simp
    try simp only [Act.put, List.setIfInBounds_toArray, List.set_cons_zero, List.set_cons_succ]
    refine tk 9 42 (.slice (some ⟨gS, 0, none⟩) 2 cC) rfl rfl (by kernel_rfl) (by kernel_rfl) (by kernel_rfl) (fun _ _ _ h => h) (Or.inl ⟨by rfl, fun w' h' => ?_⟩) hS ?_
    · go_simp
    try simp only [Act.put, List.setIfInBounds_toArray, List.set_cons_zero, List.set_cons_succ]
    refine tk 10 43 (.pointer (some ⟨gS, 1, none⟩)) rfl rfl (by kernel_rfl) (by kernel_rfl) (by kernel_rfl) (fun _ _ _ h => h) (Or.inl ⟨by rfl, fun w' h' => ?_⟩) hS ?_
    · go_simp
    try simp only [Act.put, List.setIfInBounds_toArray, List.set_cons_zero, List.set_cons_succ]
    refine tk 11 44 (.string ⟨y.toArray⟩) rfl rfl (by kernel_rfl) (by kernel_rfl) (by kernel_rfl) (fun _ _ _ h => h) (Or.inl ⟨by rfl, fun w' h' => ?_⟩) hS ?_
    · have hc := h'.1.c1
      go_simp
    try simp only [Act.put, List.setIfInBounds_toArray, List.set_cons_zero, List.set_cons_succ]
    refine wpAnyH_ready (rs := [8]) (by kernel_rfl) (by simp) (AllReadyH.cons rfl (fun K hK => ?_) AllReadyH.nil)
    rw [if_pos (by rfl)]
    go_wp2_with fail
    refine (digB4 (by have := HNL.out; omega) _).mono ?_
    rintro e wa ⟨rfl, hb⟩
    have HMe : Hid (Rs w wa gO gS x y ∧ World.rangeAt wa g9 0 (pfl s0 xs0 n)) := ⟨HMd.out.1.past hb, range_kept hb HMd.out.2⟩
    clear hb
    rw [HDZ.out]
    clear hS
    refine hK.out _ _ (HMe.out) (fun hS => ?_)
    clear hK K
    try simp only [Act.put, List.setIfInBounds_toArray, List.set_cons_zero, List.set_cons_succ]
    refine tk 12 45 (.bool false) rfl rfl (by kernel_rfl) (by kernel_rfl) (by kernel_rfl) (fun _ _ _ h => h) (Or.inl ⟨by rfl, fun w' h' => ?_⟩) hS ?_
    · have q1 := HZ1.out
      have q2 := HZ2.out
      go_simp
    try simp only [Act.put, List.setIfInBounds_toArray, List.set_cons_zero, List.set_cons_succ]
    refine tk 13 46 (.bool false) rfl rfl (by kernel_rfl) (by kernel_rfl) (by kernel_rfl) (fun _ _ _ h => h) (Or.inl ⟨by rfl, fun w' h' => ?_⟩) hS ?_
    · go_simp
    try simp only [Act.put, List.setIfInBounds_toArray, List.set_cons_zero, List.set_cons_succ]
    refine tk 14 47 (.bool false) rfl rfl (by kernel_rfl) (by kernel_rfl) (by kernel_rfl) (fun _ _ _ h => h) (Or.inl ⟨by rfl, fun w' h' => ?_⟩) hS ?_
    · go_simp
    try simp only [Act.put, List.setIfInBounds_toArray, List.set_cons_zero, List.set_cons_succ]
    refine tk 15 48 (.agg (pfl s0 xs0 n).toArray) rfl rfl (by kernel_rfl) (by kernel_rfl) (by kernel_rfl) (fun _ _ _ h => h) (yieldsIf_load_mid (by rfl) _ _ rfl (g9) (0) rfl (pfl s0 xs0 n) _ (fun w' h' => h'.2) Tryd.underlying52 rfl (by rw [pfl_len s0 xs0 n HF4.out.1]; exact infQ)) hS ?_
    try simp only [Act.put, List.setIfInBounds_toArray, List.set_cons_zero, List.set_cons_succ]
    refine wpAnyH_ready (rs := [16]) (by kernel_rfl) (by simp) (AllReadyH.cons rfl (fun K hK => ?_) AllReadyH.nil)
    rw [if_pos (by rfl)]
    go_wp2_with fail
    refine (r4RightP_any s0 xs0 n _ HF4.out.1 HF4.out.2.1).mono ?_
    rintro e wb ⟨rfl, hb⟩
    have HMf : Hid (Rs w wb gO gS x y ∧ World.rangeAt wb g9 0 (pfl s0 xs0 n)) := ⟨HMe.out.1.past hb, range_kept hb HMe.out.2⟩
    clear hb
    rw [HPR.out]
    clear hS
    refine hK.out _ _ (HMf.out) (fun hS => ?_)
    clear hK K
    try simp only [Act.put, List.setIfInBounds_toArray, List.set_cons_zero, List.set_cons_succ]
    refine tk 17 50 (.bool (!pp)) rfl rfl (by kernel_rfl) (by kernel_rfl) (by kernel_rfl) (fun _ _ _ h => h) (Or.inl ⟨by rfl, fun w' h' => ?_⟩) hS ?_
    · go_simp
    try simp only [Act.put, List.setIfInBounds_toArray, List.set_cons_zero, List.set_cons_succ]
    refine tk 18 51 (.bool (!pp)) rfl rfl (by kernel_rfl) (by kernel_rfl) (by kernel_rfl) (fun _ _ _ h => h) (Or.inl ⟨by rfl, fun w' h' => ?_⟩) hS ?_
    · go_simp
    refine wpAnyH_done (by kernel_rfl) ?_ _
    go_wp2_with fail
    refine Met.intro (hJ0 _ _ ?_)
    exact ⟨⟨rfl, rfl⟩, rfl, rfl, rfl, by rw [HV.out]; rfl, HMf.out.1.ro, HMf.out.2⟩

set_option maxRecDepth 100000 in
set_option maxHeartbeats 4000000 in
theorem pz (w wr : World) (l : Tx) (gO : Nat) (HN : Hid (pfO l = none)) (HM : Hid (Ro w wr gO)) (a : Act) (hf : Fr 54 a) (h2 : sl a 2 = .pointer (some ⟨gO, 0, none⟩)) :
    Code.wp Tryd.prog (cAt [1,1,1,1,1,1,0,1,3] KPU) (RetsV Tryd.f24 (PpR w l)) a wr := by
  obtain ⟨f, ha, hs⟩ := frKPU hf
  have e2 := (hs 2).trans h2
  rw [e2] at ha
  clear hs hf e2 h2
  subst ha
  conv => arg 2; whnf
  go_wp2_with (first
    | (refine wpList_build_run (cells := (pfl false (zs 16) 0).toArray) rfl 52 #[] rfl ?_ ?_; · exact builtRP0)
    | (refine stQ (.tmp 2) (.tmp 52) rfl rfl gO 0 false (zs 16) 0 rfl rfl (zs_length 16) HM.out.out ?_))
  refine ⟨rfl, ?_⟩
  refine bodyPost_ret (ret_midT rfl _ _ gO 0 (pfl false (zs 16) 0) _ rfl (World.rangeAt_setCells_same _ _ _ _ (by rw [pfl_len _ _ _ (zs_length 16)]; exact HM.out.out)) Tryd.underlying52 rfl (infQ.trans (by rw [pfl_len _ _ _ (zs_length 16)]))) rfl ?_
  exact ⟨Below.setCells HM.out.below gO HM.out.og _ _, .inr ⟨HN.out, rfl⟩⟩

set_option maxRecDepth 100000 in
set_option maxHeartbeats 4000000 in
theorem p9 (w wr : World) (l : Tx) (s : Bool) (xs : List Int) (n : Int) (gO g9 : Nat) (HS : Hid (pfO l = some (s, xs, n) ∧ xs.length = 16 ∧ Byt xs ∧ prt s xs n = true)) (HM : Hid (Ro w wr gO)) (HR : Hid (wr.rangeAt g9 0 (pfl s xs n))) (a : Act) (hf : Fr 54 a) (h2 : sl a 2 = .pointer (some ⟨gO, 0, none⟩)) (h3 : sl a 3 = .int .i64 0) (h9 : sl a 9 = .pointer (some ⟨g9, 0, none⟩)) :
    Code.wp Tryd.prog (cAt [1,1,1,1,1,1,1] KPU) (bodyPost Tryd.prog Tryd.f24 (PpR w l)) a wr := by
  obtain ⟨f, ha, hs⟩ := frKPU hf
  have e2 := (hs 2).trans h2
  have e3 := (hs 3).trans h3
  have e9 := (hs 9).trans h9
  rw [e2, e3, e9] at ha
  clear hs hf e2 h2 e3 h3 e9 h9
  subst ha
  conv => arg 2; whnf
  go_wp2_with (first
    | (refine ldQ (.tmp 9) rfl rfl g9 0 rfl s xs n HS.out.2.1 (by exact HR.out) ?_)
    | (refine stQ (.tmp 2) (.tmp 53) rfl rfl gO 0 s xs n rfl rfl HS.out.2.1 HM.out.out ?_))
  refine bodyPost_ret (ret_midT rfl _ _ gO 0 (pfl s xs n) _ rfl (World.rangeAt_setCells_same _ _ _ _ (by rw [pfl_len _ _ _ HS.out.2.1]; exact HM.out.out)) Tryd.underlying52 rfl (infQ.trans (by rw [pfl_len _ _ _ HS.out.2.1]))) rfl ?_
  exact ⟨Below.setCells HM.out.below gO HM.out.og _ _, .inl ⟨s, xs, n, HS.out.1, HS.out.2.1, HS.out.2.2.1, HS.out.2.2.2, rfl⟩⟩

theorem r4ParseP_any (l : Tx) (w : World) (HL : l.length ≤ 1000) : Calls Tryd.prog 24 #[.string ⟨l.toArray⟩] w (PpR w l) := by
  refine calls_of_wp (c := KPU) Tryd.func24 (by kernel_rfl) ?_
  have hf : Fr 54 { tmps := #[.string ⟨l.toArray⟩] ++ Array.replicate (Tryd.f24.ntmps - (#[.string ⟨l.toArray⟩] : Array Value).size) undef, defers := [] } := ⟨rfl, by simp [Tryd.ntmps24]⟩
  generalize ha : ({ tmps := #[.string ⟨l.toArray⟩] ++ Array.replicate (Tryd.f24.ntmps - (#[.string ⟨l.toArray⟩] : Array Value).size) undef, defers := [] } : Act) = a at hf ⊢
  have h0 : sl a 0 = .string ⟨l.toArray⟩ := by rw [← ha]; exact sl_at _ _ 0 _ rfl
  clear ha
  refine wp_sqR (x := cAt [0] KPU) (y := cAt [1] KPU) (by kernel_rfl) (p0 w l a hf h0) ?_
  rintro a_1 w0 ⟨gO, hf, h0, h2, h3, HM0⟩
  refine wp_sqR (x := cAt [1,0] KPU) (y := cAt [1,1] KPU) (by kernel_rfl) (p1 w l HL w0 gO HM0 a_1 hf h0 h2 h3) ?_
  rintro a_2 w1 ⟨aC, nC, cC, hf, h2, h3, h4, HM1, HO1⟩
  have hnC : (cuts 47 l).length = nC := OwnT.len HO1
  by_cases hn2 : nC = 2
  case neg => exact pno w w1 l gO nC cC aC hn2 (pfO_two (by omega)) HM1 a_2 hf h2 h4
  rw [hn2] at h4 HO1 hnC
  refine wp_sqR (x := cAt [1,1,0] KPU) (y := cAt [1,1,1] KPU) (by kernel_rfl) (p2 gO w1 aC cC a_2 hf h2 h3 h4) ?_
  rintro a_3 _ ⟨hf, h2, h3, h4, rfl⟩
  obtain ⟨x, y, hxy⟩ : ∃ x y, cuts 47 l = [x, y] := by
    match hq : cuts 47 l, hnC with
    | [x, y], _ => exact ⟨x, y, rfl⟩
  rw [hxy] at HO1
  obtain ⟨gS, hgS, hc0, _⟩ := OwnT.at_ HO1 (i := 0) (x := x) rfl
  obtain ⟨gS', hgS', hc1, _⟩ := OwnT.at_ HO1 (i := 1) (x := y) rfl
  rw [hgS] at h4 hgS'
  obtain rfl : gS = gS' := by simpa using hgS'
  have HM2 : Hid (Rs w w1 gO gS x y) := ⟨HM1, hc0, hc1⟩
  have HXY : Hid (cuts 47 l = [x, y]) := hxy
  have HXL : Hid (x.length ≤ 1000) := by have := (cuts_len 47 l).2 x (by rw [hxy]; simp); show _ ≤ _; omega
  have HYL : Hid (y.length ≤ 1000) := by have := (cuts_len 47 l).2 y (by rw [hxy]; simp); show _ ≤ _; omega
  clear hc0 hc1 hxy HO1 hgS hgS' hnC
  refine wp_sqR (x := cAt [1,1,1,0] KPU) (y := cAt [1,1,1,1] KPU) (by kernel_rfl) (p4 w gO w1 cC gS x y HM2 HXL a_3 hf h2 h3 h4) ?_
  rintro a_4 w4 ⟨g5, s0, xs0, e0, hf, h2, h3, h4, h5, h6, HM4, HR4, HF4⟩
  refine wp_sqR (x := cAt [1,1,1,1,0] KPU) (y := cAt [1,1,1,1,1] KPU) (by kernel_rfl) (p5 w gO cC gS x y HYL w4 g5 e0 HM4 a_4 hf h2 h3 h4 h5 h6) ?_
  rintro a_5 w5 ⟨n, ok, hf, h2, h3, h4, h5, h6, h7, h8, HW5, HN5⟩
  subst HW5
  have HNL : Hid (n < 129) := by
    show _ < _
    have h1 := HN5
    unfold numberR at h1
    split at h1
    · rename_i m hm
      simp only [Prod.mk.injEq] at h1
      rw [← h1.1]; exact nfrom_lt 10 129 y 0 m hm (by decide)
    · simp only [Prod.mk.injEq] at h1
      omega
  refine wp_sqR (x := cAt [1,1,1,1,1,0] KPU) (y := cAt [1,1,1,1,1,1] KPU) (by kernel_rfl) (p6 w gO cC gS x y g5 s0 xs0 e0 w5 HM4 HR4 HF4 n ok a_5 hf h2 h3 h4 h5 h6 h7 h8) ?_
  rintro a_6 w6 ⟨g9, hf, h2, h3, h4, h6, h7, h8, h9, HM6, HR6⟩
  obtain ⟨bb, hbb⟩ : ∃ b, (!(decide (e0 = 0)) || (!ok || (!(digT 3 10 n == y) || !(prt s0 xs0 n)))) = b := ⟨_, rfl⟩
  refine wp_sqG (x := cAt [1,1,1,1,1,1,0] KPU) (y := cAt [1,1,1,1,1,1,1] KPU) (by kernel_rfl) ?_
  refine wp_sqR (x := cAt [1,1,1,1,1,1,0,0] KPU) (y := cAt [1,1,1,1,1,1,0,1] KPU) (by kernel_rfl) (p7 w gO cC gS x y s0 xs0 e0 HF4 n ok HNL w6 g9 HM6 HR6 bb hbb a_6 hf h2 h3 h4 h6 h7 h8 h9) ?_
  rintro a_7 w7 ⟨hf, h2, h3, h9, h51, HM7, HR7⟩
  cases bb
  case true =>
    refine wp_onT (A := cAt [1,1,1,1,1,1,0,1,3] KPU) (B := cAt [1,1,1,1,1,1,0,1,4] KPU) (by kernel_rfl) h51 ?_
    have hno : pfO l = none := by
      refine pfO_non HXY HN5 ?_
      rcases HF4.2.2 with ⟨h0, ha⟩ | ⟨h0, ha⟩
      · rw [h0] at hbb
        cases hok : ok
        · exact .inr (.inl rfl)
        · by_cases hd : digT 3 10 n = y
          · refine .inr (.inr (.inr ⟨s0, xs0, ha, ?_⟩))
            rw [hok, hd] at hbb
            simpa using hbb
          · exact .inr (.inr (.inl hd))
      · exact .inl ha
    exact wp_endB (pz w w7 l gO hno HM7 a_7 hf h2) (fun a' w' h => h)
  refine wp_onF (A := cAt [1,1,1,1,1,1,0,1,3] KPU) (B := cAt [1,1,1,1,1,1,0,1,4] KPU) (by kernel_rfl) h51 ?_
  refine wp_skipR (by kernel_rfl) ?_
  have hyes : e0 = 0 ∧ ok = true ∧ digT 3 10 n = y ∧ prt s0 xs0 n = true := by
    simpa [and_assoc] using hbb
  obtain ⟨q1, q2, q3, q4⟩ := hyes
  have ha : adO x = some (s0, xs0) := by
    rcases HF4.2.2 with ⟨_, ha⟩ | ⟨h0, _⟩
    · exact ha
    · omega
  rw [q2] at HN5
  exact p9 w w7 l s0 xs0 n gO g9 ⟨pfO_yes HXY ha HN5 q3 q4, HF4.1, HF4.2.1, q4⟩ HM7 HR7 a_7 hf h2 h3 h9
end Go.Proofs.YtbnfmiopgjmppaaDoor

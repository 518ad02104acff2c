/-
  The document's own Text in pieces. Conditions: those that the theorems name. (Made by gen_adr14.py.)
-/
import Derived.Test.YtbnfmiopgjmppaaDoorAdR12
namespace Go.Proofs.YtbnfmiopgjmppaaDoor
open Go.RowKit

noncomputable def K17 : Code := Tryd.f17.body.getD .skip
set_option maxRecDepth 100000 in
theorem fr95 {a : Act} (h : Fr 95 a) : ∃ f : Nat → Value, a = ⟨#[f 0, f 1, f 2, f 3, f 4, f 5, f 6, f 7, f 8, f 9, f 10, f 11, f 12, f 13, f 14, f 15, f 16, f 17, f 18, f 19, f 20, f 21, f 22, f 23, f 24, f 25, f 26, f 27, f 28, f 29, f 30, f 31, f 32, f 33, f 34, f 35, f 36, f 37, f 38, f 39, f 40, f 41, f 42, f 43, f 44, f 45, f 46, f 47, f 48, f 49, f 50, f 51, f 52, f 53, f 54, f 55, f 56, f 57, f 58, f 59, f 60, f 61, f 62, f 63, f 64, f 65, f 66, f 67, f 68, f 69, f 70, f 71, f 72, f 73, f 74, f 75, f 76, f 77, f 78, f 79, f 80, f 81, f 82, f 83, f 84, f 85, f 86, f 87, f 88, f 89, f 90, f 91, f 92, f 93, f 94], []⟩ ∧ ∀ i, f i = sl a i := fr_any h
/-- Four bytes told. -/
def txt4 (xs : List Int) : Tx := dg (xs.getD 0 0).toNat ++ [46] ++ dg (xs.getD 1 0).toNat ++ [46] ++ dg (xs.getD 2 0).toNat ++ [46] ++ dg (xs.getD 3 0).toNat
/-- What Text answers. -/
def txA (s : Bool) (xs : List Int) : Tx := if rgR s xs = false then [] else if s = true then text6 (gN xs) else txt4 xs
/-- Out by a return. -/
def RetsT (w : World) (s : Bool) (xs : List Int) (e : Exit) (a : Act) (wr : World) : Prop := e = .ret ∧ bodyPost Tryd.prog Tryd.f17 (Gives w (.string ⟨(txA s xs).toArray⟩)) .ret a wr
theorem digB {v : Nat} {d : Tx} (hv : v < 256) (hd : Hid (dg v = d)) (w : World) (n : Nat) : Calls Tryd.prog 39 #[.int .i64 (v : Int), .int .i64 10] (w.drewN n) fun e w'' => e = .returned (.string ⟨d.toArray⟩) ∧ ∃ m, w'' = w.drewN m :=
  digQ hv (show _ = _ by rw [digT_dec (by omega)]; exact hd.out) w n
theorem dg_len {v : Nat} : (dg v).length ≤ 3 := by
  unfold dg
  repeat' split
  all_goals simp

set_option maxRecDepth 100000 in
set_option maxHeartbeats 4000000 in
theorem t0 (s : Bool) (xs : List Int) (w : World) (a : Act) (hf : Fr 95 a) (h0 : sl a 0 = .agg (adl s xs).toArray) :
    Code.wp Tryd.prog (cAt [0] K17) (Exit.then (fun a' w' => ∃ g, Fr 95 a' ∧ sl a' 1 = .pointer (some ⟨g, 0, none⟩) ∧ Ab w' g s xs ∧ Below w.heap.size w w' ∧ w.heap.size ≤ g) Nope) a w := by
  obtain ⟨f, ha, hs⟩ := fr95 hf
  have e0 := (hs 0).trans h0
  rw [e0] at ha
  clear hs hf e0 h0
  subst ha
  refine piece2 fun J0 K0 hJ0 hK0 => ?_
  conv => arg 2; whnf
  have HA : Hid (Ab (w.alloc (.cells (adl s xs).toArray 27)) w.heap.size s xs) := Ab.new _ _ _
  have HB : Hid (Below w.heap.size w (w.alloc (.cells (adl s xs).toArray 27))) := (Below.refl _ _).alloc (Nat.le_refl _) _
  go_wp2_with fail
  refine Met.intro (hJ0 _ _ ?_)
  exact ⟨_, ⟨rfl, rfl⟩, rfl, HA.out, HB.out, Nat.le_refl _⟩

set_option maxRecDepth 100000 in
set_option maxHeartbeats 4000000 in
theorem t1no (s : Bool) (xs : List Int) (g : Nat) (w wr : World) (hl : Hid (xs.length = 16)) (HA : Hid (Ab wr g s xs ∧ Below w.heap.size w wr ∧ w.heap.size ≤ g)) (hr : Hid (rgR s xs = false)) (a : Act) (hf : Fr 95 a) (h1 : sl a 1 = .pointer (some ⟨g, 0, none⟩)) :
    Code.wp Tryd.prog (cAt [1] K17) (bodyPost Tryd.prog Tryd.f17 (Gives w (.string ⟨(txA s xs).toArray⟩))) a wr := by
  obtain ⟨f, ha, hs⟩ := fr95 hf
  have e1 := (hs 1).trans h1
  rw [e1] at ha
  clear hs hf e1 h1
  subst ha
  conv => arg 2; whnf
  have HT : Hid (txA s xs = []) := by show _ = _; unfold txA; rw [if_pos hr.out]
  go_wp2_with (refine ldRg (.tmp 1) rfl (by rfl) g 0 rfl s xs hl.out (by with_reducible exact HA.out.1.range) ?_)
  refine (r4Right_any s xs _ hl.out).mono ?_
  rintro e w1 ⟨rfl, hb1⟩
  have HB := Lib.hid (HA.out.2.1.trans (hb1.mono HA.out.2.1.size))
  rw [hr.out]
  clear hb1
  go_wp2_with fail
  go_ret
  exact ⟨by rw [HT.out]; rfl, HB.out⟩
set_option maxRecDepth 100000 in
set_option maxHeartbeats 4000000 in
theorem t1 (s : Bool) (xs : List Int) (g : Nat) (w wr : World) (hl : Hid (xs.length = 16)) (HA : Hid (Ab wr g s xs ∧ Below w.heap.size w wr ∧ w.heap.size ≤ g)) (hr : Hid (rgR s xs = true)) (a : Act) (hf : Fr 95 a) (h1 : sl a 1 = .pointer (some ⟨g, 0, none⟩)) :
    Code.wp Tryd.prog (cAt [1,0] K17) (Exit.then (fun a' w' => Fr 95 a' ∧ sl a' 1 = .pointer (some ⟨g, 0, none⟩) ∧ Ab w' g s xs ∧ Below w.heap.size w w') Nope) a wr := by
  obtain ⟨f, ha, hs⟩ := fr95 hf
  have e1 := (hs 1).trans h1
  rw [e1] at ha
  clear hs hf e1 h1
  subst ha
  refine piece2 fun J0 K0 hJ0 hK0 => ?_
  conv => arg 2; whnf
  go_wp2_with (refine ldRg (.tmp 1) rfl (by rfl) g 0 rfl s xs hl.out (by with_reducible exact HA.out.1.range) ?_)
  refine (r4Right_any s xs _ hl.out).mono ?_
  rintro e w1 ⟨rfl, hb1⟩
  have HX : Hid (Ab w1 g s xs ∧ Below w.heap.size w w1) := ⟨HA.out.1.below hb1, HA.out.2.1.trans (hb1.mono HA.out.2.1.size)⟩
  rw [hr.out]
  clear hb1
  go_wp2_with fail
  refine Met.intro (hJ0 _ _ ?_)
  exact ⟨⟨rfl, rfl⟩, rfl, HX.out.1, HX.out.2⟩

set_option maxRecDepth 100000 in
set_option maxHeartbeats 4000000 in
theorem t3 (s : Bool) (xs : List Int) (g : Nat) (wr : World) (HA : Hid (Ab wr g s xs)) (a : Act) (hf : Fr 95 a) (h1 : sl a 1 = .pointer (some ⟨g, 0, none⟩)) :
    Code.wp Tryd.prog (cAt [1,1,0,0] K17) (Exit.then (fun a' w' => Fr 95 a' ∧ sl a' 1 = .pointer (some ⟨g, 0, none⟩) ∧ sl a' 12 = .bool (!s) ∧ wr = w') Nope) a wr := by
  obtain ⟨f, ha, hs⟩ := fr95 hf
  have e1 := (hs 1).trans h1
  rw [e1] at ha
  clear hs hf e1 h1
  subst ha
  refine piece2 fun J0 K0 hJ0 hK0 => ?_
  conv => arg 2; whnf
  have c := HA.out.six
  go_wp2_with fail
  refine Met.intro (hJ0 _ _ ?_)
  exact ⟨⟨rfl, rfl⟩, rfl, rfl, rfl⟩

set_option maxRecDepth 100000 in
set_option maxHeartbeats 4000000 in
theorem t4 (s : Bool) (xs : List Int) (g : Nat) (w wr : World) (hl : Hid (xs.length = 16)) (hb : Hid (Byt xs)) (HA : Hid (Ab wr g s xs ∧ Below w.heap.size w wr ∧ w.heap.size ≤ g)) (hs0 : s = false) (hr : Hid (rgR s xs = true)) (a : Act) (hf : Fr 95 a) (h1 : sl a 1 = .pointer (some ⟨g, 0, none⟩)) :
    Code.wp Tryd.prog (cAt [1,1,0,1,3] K17) (RetsT w s xs) a wr := by
  obtain ⟨f, ha, hs⟩ := fr95 hf
  have e1 := (hs 1).trans h1
  rw [e1] at ha
  clear hs hf e1 h1
  subst ha
  conv => arg 2; whnf
  subst hs0
  obtain ⟨hx0, hy0⟩ := hb.out.get 0
  have c0 : wr.cell? ⟨g, 1, none⟩ = some (.int .u8 (xs.getD 0 0)) := HA.out.1.at_ (j := 0) (by rw [hl.out]; decide)
  obtain ⟨x0, hz0⟩ : ∃ v : Nat, xs.getD 0 0 = (v : Int) := ⟨(xs.getD 0 0).toNat, by omega⟩
  rw [hz0] at hx0 hy0 c0
  have hv0 : x0 < 256 := by omega
  have ew0 : IntKind.i64.wrap (x0 : Int) = (x0 : Int) := by rw [IntKind.wrap_i64]; omega
  obtain ⟨hx1, hy1⟩ := hb.out.get 1
  have c1 : wr.cell? ⟨g, 2, none⟩ = some (.int .u8 (xs.getD 1 0)) := HA.out.1.at_ (j := 1) (by rw [hl.out]; decide)
  obtain ⟨x1, hz1⟩ : ∃ v : Nat, xs.getD 1 0 = (v : Int) := ⟨(xs.getD 1 0).toNat, by omega⟩
  rw [hz1] at hx1 hy1 c1
  have hv1 : x1 < 256 := by omega
  have ew1 : IntKind.i64.wrap (x1 : Int) = (x1 : Int) := by rw [IntKind.wrap_i64]; omega
  obtain ⟨hx2, hy2⟩ := hb.out.get 2
  have c2 : wr.cell? ⟨g, 3, none⟩ = some (.int .u8 (xs.getD 2 0)) := HA.out.1.at_ (j := 2) (by rw [hl.out]; decide)
  obtain ⟨x2, hz2⟩ : ∃ v : Nat, xs.getD 2 0 = (v : Int) := ⟨(xs.getD 2 0).toNat, by omega⟩
  rw [hz2] at hx2 hy2 c2
  have hv2 : x2 < 256 := by omega
  have ew2 : IntKind.i64.wrap (x2 : Int) = (x2 : Int) := by rw [IntKind.wrap_i64]; omega
  obtain ⟨hx3, hy3⟩ := hb.out.get 3
  have c3 : wr.cell? ⟨g, 4, none⟩ = some (.int .u8 (xs.getD 3 0)) := HA.out.1.at_ (j := 3) (by rw [hl.out]; decide)
  obtain ⟨x3, hz3⟩ : ∃ v : Nat, xs.getD 3 0 = (v : Int) := ⟨(xs.getD 3 0).toNat, by omega⟩
  rw [hz3] at hx3 hy3 c3
  have hv3 : x3 < 256 := by omega
  have ew3 : IntKind.i64.wrap (x3 : Int) = (x3 : Int) := by rw [IntKind.wrap_i64]; omega
  have HT : Hid (txA false xs = dg x0 ++ [46] ++ dg x1 ++ [46] ++ dg x2 ++ [46] ++ dg x3) := by
    show _ = _
    unfold txA txt4
    rw [if_neg (by rw [hr.out]; decide), if_neg (by decide), hz0, hz1, hz2, hz3]
    rfl
  obtain ⟨d0, hd0⟩ : ∃ d, dg x0 = d := ⟨_, rfl⟩
  have hl0 : d0.length ≤ 3 := by rw [← hd0]; exact dg_len
  have HD0 := Lib.hid hd0
  obtain ⟨d1, hd1⟩ : ∃ d, dg x1 = d := ⟨_, rfl⟩
  have hl1 : d1.length ≤ 3 := by rw [← hd1]; exact dg_len
  have HD1 := Lib.hid hd1
  obtain ⟨d2, hd2⟩ : ∃ d, dg x2 = d := ⟨_, rfl⟩
  have hl2 : d2.length ≤ 3 := by rw [← hd2]; exact dg_len
  have HD2 := Lib.hid hd2
  obtain ⟨d3, hd3⟩ : ∃ d, dg x3 = d := ⟨_, rfl⟩
  have hl3 : d3.length ≤ 3 := by rw [← hd3]; exact dg_len
  have HD3 := Lib.hid hd3
  obtain ⟨s1, hs1⟩ : ∃ s, d0 ++ [46] = s := ⟨_, rfl⟩
  have b1 : (⟨d0.toArray⟩ : ByteArray) ++ ⟨#[46]⟩ = ⟨s1.toArray⟩ := by rw [← hs1]; exact ba_app d0 [46]
  have sl1 : s1.length ≤ 4 := by rw [← hs1, List.length_append]; (try simp only [List.length_cons, List.length_nil]); omega
  have nl1 : ¬ 9223372036854775807 < d0.length + 1 := by omega
  obtain ⟨s2, hs2⟩ : ∃ s, s1 ++ d1 = s := ⟨_, rfl⟩
  have b2 : (⟨s1.toArray⟩ : ByteArray) ++ ⟨d1.toArray⟩ = ⟨s2.toArray⟩ := by rw [← hs2]; exact ba_app s1 d1
  have sl2 : s2.length ≤ 7 := by rw [← hs2, List.length_append]; (try simp only [List.length_cons, List.length_nil]); omega
  have nl2 : ¬ 9223372036854775807 < s1.length + d1.length := by omega
  obtain ⟨s3, hs3⟩ : ∃ s, s2 ++ [46] = s := ⟨_, rfl⟩
  have b3 : (⟨s2.toArray⟩ : ByteArray) ++ ⟨#[46]⟩ = ⟨s3.toArray⟩ := by rw [← hs3]; exact ba_app s2 [46]
  have sl3 : s3.length ≤ 8 := by rw [← hs3, List.length_append]; (try simp only [List.length_cons, List.length_nil]); omega
  have nl3 : ¬ 9223372036854775807 < s2.length + 1 := by omega
  obtain ⟨s4, hs4⟩ : ∃ s, s3 ++ d2 = s := ⟨_, rfl⟩
  have b4 : (⟨s3.toArray⟩ : ByteArray) ++ ⟨d2.toArray⟩ = ⟨s4.toArray⟩ := by rw [← hs4]; exact ba_app s3 d2
  have sl4 : s4.length ≤ 11 := by rw [← hs4, List.length_append]; (try simp only [List.length_cons, List.length_nil]); omega
  have nl4 : ¬ 9223372036854775807 < s3.length + d2.length := by omega
  obtain ⟨s5, hs5⟩ : ∃ s, s4 ++ [46] = s := ⟨_, rfl⟩
  have b5 : (⟨s4.toArray⟩ : ByteArray) ++ ⟨#[46]⟩ = ⟨s5.toArray⟩ := by rw [← hs5]; exact ba_app s4 [46]
  have sl5 : s5.length ≤ 12 := by rw [← hs5, List.length_append]; (try simp only [List.length_cons, List.length_nil]); omega
  have nl5 : ¬ 9223372036854775807 < s4.length + 1 := by omega
  obtain ⟨s6, hs6⟩ : ∃ s, s5 ++ d3 = s := ⟨_, rfl⟩
  have b6 : (⟨s5.toArray⟩ : ByteArray) ++ ⟨d3.toArray⟩ = ⟨s6.toArray⟩ := by rw [← hs6]; exact ba_app s5 d3
  have sl6 : s6.length ≤ 15 := by rw [← hs6, List.length_append]; (try simp only [List.length_cons, List.length_nil]); omega
  have nl6 : ¬ 9223372036854775807 < s5.length + d3.length := by omega
  have HS : Hid (txA false xs = s6) := by show _ = _; rw [HT.out, hd0, hd1, hd2, hd3, hs1, hs2, hs3, hs4, hs5, hs6]
  clear HT hd0 hd1 hd2 hd3 hs1 hs2 hs3 hs4 hs5 hs6 sl1 sl2 sl3 sl4 sl5 sl6 hl0 hl1 hl2 hl3
  have HB : Hid (∀ m, Below w.heap.size w (wr.drewN m)) := fun m => HA.out.2.1.trans ⟨rfl, rfl, rfl, Nat.le_refl _, fun _ _ => rfl⟩
  clear hz0 hz1 hz2 hz3 hx0 hx1 hx2 hx3 hy0 hy1 hy2 hy3
  go_wp2_with fail
  go_quiet ((go_at_call 39; with_reducible first | exact digB hv0 HD0 _ _ | exact digB hv1 HD1 _ _ | exact digB hv2 HD2 _ _ | exact digB hv3 HD3 _ _))
  go_wp2_with fail
  refine ⟨rfl, ?_⟩
  go_ret
  exact ⟨by rw [HS.out]; rfl, HB.out _⟩
end Go.Proofs.YtbnfmiopgjmppaaDoor

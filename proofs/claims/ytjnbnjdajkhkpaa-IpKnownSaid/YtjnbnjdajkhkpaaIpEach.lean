/-
  The options that bytes are, and the contracts of eachOption and of its iterator, for whatever a round keeps. Conditions: bytes that lie where the slice leads, fewer than a million.
-/
import Derived.Test.YtjnbnjdajkhkpaaIpFirst
import Derived.RangeFuncNested
import Derived.RangeFuncBound
import Derived.RangeFuncCalls
import Derived.RangeFuncLeaves
import Derived.RangeFuncBox
import Derived.Shelf.Abstract
import Derived.Shelf.RegionOpen
import Derived.OwnWalkIn
import Derived.TacticsInMore
import Derived.LoopNIn
import Derived.LoopIn
namespace Go.Proofs.Ytjnbnjdajkhkpaa
open Go.RowKit Go.Shelf
attribute [local go_sem] Oper.semAt_some

/-- The options of bytes, with some rounds; enough of them: as many as there are bytes. -/
def optl : Nat → List Int → Option (List (Int × List Int))
  | 0, _ => some []
  | f + 1, xs =>
    if xs.length = 0 ∨ xs.getD 0 0 = 0 then some []
    else if xs.getD 0 0 = 1 then optl f (xs.drop 1)
    else if foB xs = true then none
    else (optl f (xs.drop (xs.getD 1 0).toNat)).map ((xs.getD 0 0, (xs.drop 2).take ((xs.getD 1 0).toNat - 2)) :: ·)
theorem foB_no {xs : List Int} (h : foB xs = false) : 2 ≤ xs.length ∧ 2 ≤ xs.getD 1 0 ∧ xs.getD 1 0 ≤ xs.length := by
  simp only [foB, Bool.or_eq_false_iff, decide_eq_false_iff_not] at h
  omega
theorem optl_fuel : ∀ (f g : Nat) (xs : List Int), xs.length ≤ f → xs.length ≤ g → optl f xs = optl g xs := by
  intro f
  induction f with
  | zero =>
    intro g xs h _
    cases g with
    | zero => rfl
    | succ g => rw [optl, optl, if_pos (.inl (by omega))]
  | succ f ih =>
    intro g xs h hg
    cases g with
    | zero => rw [optl, optl, if_pos (.inl (by omega))]
    | succ g =>
      rw [optl, optl]
      by_cases h0 : xs.length = 0 ∨ xs.getD 0 0 = 0
      · rw [if_pos h0, if_pos h0]
      · rw [if_neg h0, if_neg h0]
        by_cases h1 : xs.getD 0 0 = 1
        · rw [if_pos h1, if_pos h1]
          exact ih g _ (by rw [List.length_drop]; omega) (by rw [List.length_drop]; omega)
        · rw [if_neg h1, if_neg h1]
          by_cases h2 : foB xs = true
          · rw [if_pos h2, if_pos h2]
          · rw [if_neg h2, if_neg h2]
            obtain ⟨a, b, c⟩ := foB_no (xs := xs) (by simpa using h2)
            rw [ih g _ (by rw [List.length_drop]; omega) (by rw [List.length_drop]; omega)]
/-- The options of bytes. -/
def opts (xs : List Int) : Option (List (Int × List Int)) := optl xs.length xs
theorem opts_at (f : Nat) (xs : List Int) (h : xs.length ≤ f) : optl f xs = opts xs := optl_fuel _ _ _ h (Nat.le_refl _)
theorem opts_end {xs : List Int} (h : xs.length = 0 ∨ xs.getD 0 0 = 0) : opts xs = some [] := by
  rw [← opts_at (xs.length + 1) xs (by omega), optl, if_pos h]
theorem opts_one {xs : List Int} (h : xs.length ≠ 0) (h1 : xs.getD 0 0 = 1) : opts xs = opts (xs.drop 1) := by
  rw [← opts_at (xs.length + 1) xs (by omega), optl, if_neg (by omega), if_pos h1, opts_at _ _ (by rw [List.length_drop]; omega)]
theorem opts_bad {xs : List Int} (h : xs.length ≠ 0) (h0 : xs.getD 0 0 ≠ 0) (h1 : xs.getD 0 0 ≠ 1) (h2 : foB xs = true) : opts xs = none := by
  rw [← opts_at (xs.length + 1) xs (by omega), optl, if_neg (by omega), if_neg h1, if_pos h2]
theorem opts_more {xs : List Int} (h : xs.length ≠ 0) (h0 : xs.getD 0 0 ≠ 0) (h1 : xs.getD 0 0 ≠ 1) (h2 : foB xs = false) :
    opts xs = (opts (xs.drop (xs.getD 1 0).toNat)).map ((xs.getD 0 0, (xs.drop 2).take ((xs.getD 1 0).toNat - 2)) :: ·) := by
  rw [← opts_at (xs.length + 1) xs (by omega), optl, if_neg (by omega), if_neg h1, if_neg (by rw [h2]; simp), opts_at _ _ (by rw [List.length_drop]; omega)]

/-- An option: its kind, where its data lie, and they. -/
structure Op1 where
  k : Int
  a : Option Addr
  n : Nat
  c : Nat
  xs : List Int
def Op1.at_ (o : Op1) : Int × List Int := (o.k, o.xs)

/-- What is left of bytes lies where another slice leads. -/
def Tail (a : Option Addr) (xs : List Int) (a' : Option Addr) (ys : List Int) : Prop := ∀ W : World, Rd W a xs → Rd W a' ys
theorem run_slice_tail (w : World) (bb oo n cap s : Nat) (hs : s ≤ n) (hc : n ≤ cap) :
    (Instr.sliceAt 24 (.slice (some ⟨bb, oo, none⟩) n cap) (some (.int .i64 s)) none none).run Try.prog w = .ok (.slice (if cap = s then some ⟨bb, oo, none⟩ else some ⟨bb, oo + s, none⟩) (n - s) (cap - s)) w := by
  have h3 : (s : Int) ≤ (n : Int) := by omega
  have h4 : (s : Int) ≤ (cap : Int) := by omega
  have h5 : (0 : Int) ≤ (s : Int) := by omega
  go_simp
theorem Tail.drop {a : Option Addr} {xs ys : List Int} {bb oo n cap s : Nat} (h : Tail a xs (some ⟨bb, oo, none⟩) ys) (hn : ys.length = n) (hs : s ≤ n) (hc : n ≤ cap) :
    Tail a xs (if cap = s then some ⟨bb, oo, none⟩ else some ⟨bb, oo + s, none⟩) (ys.drop s) := fun W hr => by
  by_cases e : cap = s
  · rw [List.drop_of_length_le (by omega)]; exact Rd.empty _ _
  · rw [if_neg e]
    have := (h W hr).cut (q := s) (m := n - s) (by omega)
    rwa [List.take_of_length_le (by rw [List.length_drop]; omega)] at this

theorem iEach_any (a : Option Addr) (n cap : Nat) (w : World) :
    Calls Try.prog 46 #[.slice a n cap] w fun e w' => e = .returned (.func (.func 59) #[] #[.pointer (some ⟨w.heap.size, 0, none⟩)]) ∧ w' = w.alloc (.cells #[.slice a n cap] 24) := by
  go_enter Try.func46, Try.ntmps46
  go_wp2
  go_ret
  exact ⟨rfl, rfl⟩

/-- How long a slice is. -/
def slen : Value → Nat
  | .slice _ n _ => n
  | _ => 0

set_option maxRecDepth 100000 in
set_option maxHeartbeats 2000000 in
theorem iEach1_in (m l H : Nat) (a : Option Addr) (n cap : Nat) (xs : List Int) (J : List Op1 → World → Prop) (Jx : World → Prop)
    (hJ : ∀ pre W W', J pre W → Below W.heap.size W W' → J pre W') (hJr : ∀ pre W, J pre W → Rd W a xs)
    (hY : ∀ pre (x : Op1) W0 W, J pre W0 → pre.length < n → Below W0.heap.size W0 W → Own W W0.heap.size x.a x.n x.c x.xs →
      YieldAt Fence.wide (m - 1) Try.prog l #[.agg #[.int .u8 x.k, .slice x.a x.n x.c], .int .i64 0] W fun e W' => e = .returned (.bool true) ∧ J (pre ++ [x]) W')
    (hE : ∀ pre W, J pre W → YieldAt Fence.wide (m - 1) Try.prog l #[.agg #[.int .u8 0, .slice none 0 0], .int .i64 51] W fun e W' => e = .returned (.bool false) ∧ Jx W')
    (hn : xs.length = n) (hb : Byt xs) (hl : n ≤ 1000000) (hc : n ≤ cap) (W : World) (hcell : W.cell? ⟨H, 0, none⟩ = some (.slice a n cap)) (h0 : J [] W) :
    CallsIn Fence.wide m Try.prog 59 #[.func (.yield l) #[] #[], .pointer (some ⟨H, 0, none⟩)] W fun e W' => (∃ v, e = .returned v) ∧
      ((∃ os, opts xs = some (os.map Op1.at_) ∧ J os W') ∨ (opts xs = none ∧ Jx W')) := by
  have HJ := Lib.hid hJ
  have HJR := Lib.hid hJr
  have HY := Lib.hid hY
  have HE := Lib.hid hE
  have HN := Lib.hid hn
  have HB := Lib.hid hb
  have H0 := Lib.hid h0
  clear hJ hJr hY hE hn hb h0
  refine callsIn_of_wp Try.func59 rfl trivial ?_ rfl
  simp only [Try.ntmps59, List.size_toArray, List.length_cons, List.length_nil, Nat.reduceAdd, Nat.reduceSub, Array.replicate_succ, Array.replicate_zero, List.push_toArray, List.append_toArray, List.nil_append, List.cons_append]
  gi_wp2
  gi_loopw [3] (fun s wr => ∃ (pre : List Op1) (a' : Option Addr) (n' cap' : Nat) (ys : List Int), s = .slice a' n' cap' ∧ n' ≤ cap' ∧ n' ≤ 1000000 ∧ Hid (ys.length = n' ∧ Byt ys) ∧ Hid (Tail a xs a' ys) ∧
      Hid (opts xs = (opts ys).map (fun l => pre.map Op1.at_ ++ l)) ∧ Hid (pre.length + n' ≤ n) ∧ Hid (J pre wr)) (fun s _ => slen s)
  case atStart => exact ⟨[], a, n, cap, xs, rfl, hc, hl, ⟨HN.out, HB.out⟩, fun _ h => h, by show _ = _; cases opts xs <;> simp, by show _ ≤ _; simp, H0.out⟩
  case round =>
    obtain ⟨pre, a', n', cap', ys, rfl, hc', hl', hy1, hta, hop, hpl, hj⟩ := hrel
    by_cases hz : n' = 0
    · have HEND : Hid (opts xs = some (pre.map Op1.at_)) := by
        show _ = _
        rw [hop.out, opts_end (.inl (by rw [hy1.out.1]; exact hz))]
        simp
      subst hz
      gi_wp2
      go_end0
      exact ⟨⟨_, rfl⟩, .inl ⟨pre, HEND.out, hj.out⟩⟩
    · have hrd := hta.out wr (HJR.out pre wr hj.out)
      obtain ⟨bb, oo, rfl, hcells⟩ := hrd (by intro e; have := hy1.out.1; rw [e] at this; simp at this; omega)
      have hx0 := hcells 0 (by rw [hy1.out.1]; omega)
      rw [Nat.add_zero] at hx0
      have HRD := Lib.hid hrd
      have hp : (0 : Int) < (n' : Int) := by omega
      have HNZ : Hid (ys.length ≠ 0) := by show _ ≠ _; rw [hy1.out.1]; exact hz
      obtain ⟨x0, hx0e⟩ : ∃ x, ys.getD 0 0 = x := ⟨_, rfl⟩
      rw [hx0e] at hx0
      have HX0 := Lib.hid hx0e
      clear hcells hrd hx0e
      by_cases h0 : x0 = 0
      · have HEND : Hid (opts xs = some (pre.map Op1.at_)) := by
          show _ = _
          rw [hop.out, opts_end (.inr (by rw [HX0.out]; exact h0))]
          simp
        subst h0
        gi_wp2
        go_end0
        exact ⟨⟨_, rfl⟩, .inl ⟨pre, HEND.out, hj.out⟩⟩
      · have h0' : (x0 != 0) = true := by simpa using h0
        by_cases h1 : x0 = 1
        · subst h1
          have hsl : ∀ w' : World, (Instr.sliceAt 24 (.slice (some ⟨bb, oo, none⟩) n' cap') (some (.int .i64 1)) none none).run Try.prog w' = .ok (.slice (if cap' = 1 then some ⟨bb, oo, none⟩ else some ⟨bb, oo + 1, none⟩) (n' - 1) (cap' - 1)) w' :=
            fun w' => run_slice_tail w' bb oo n' cap' 1 (by omega) hc'
          have HT2 := Lib.hid (hta.out.drop (s := 1) hy1.out.1 (by omega) hc')
          obtain ⟨a2, ha2⟩ : ∃ x : Option Addr, (if cap' = 1 then some ⟨bb, oo, none⟩ else some ⟨bb, oo + 1, none⟩) = x := ⟨_, rfl⟩
          rw [ha2] at hsl HT2
          clear ha2
          gi_wp2
          go_roundw
          case rel =>
            exact ⟨pre, a2, n' - 1, cap' - 1, ys.drop 1, rfl, by omega, by omega, ⟨by rw [List.length_drop, hy1.out.1], hy1.out.2.drop 1⟩, HT2.out, by show _ = _; rw [hop.out, opts_one HNZ.out HX0.out], by have := hpl.out; show _ ≤ _; omega, hj.out⟩
          case measure => simp [slen]; omega
        · have h1' : (x0 == 1) = false := by simpa using h1
          gi_wp2
          refine ⟨trivial, fun h => by simp [Fence.wide] at h, (callsIn_wide.2 (iFirst_any bb oo n' cap' ys _ hy1.out.1 HRD.out hy1.out.2 (by omega) hl' hc')).mono ?_⟩
          rintro e w2 ⟨hb2, ⟨hf, rfl⟩ | ⟨hf, a3, n3, c3, rfl, hown⟩⟩
          · have HB2 := Lib.hid hb2
            have HBAD : Hid (opts xs = none) := by
              show _ = _
              rw [hop.out, opts_bad HNZ.out (by rw [HX0.out]; exact h0) (by rw [HX0.out]; exact h1) hf]
              rfl
            obtain ⟨fn, tmps, assign, body, hy, hR⟩ := HE.out pre _ (HJ.out pre wr (w2.alloc (.cells #[.int .u8 0, .slice none 0 0] 54)) hj.out (hb2.alloc hb2.size _))
            have HRR := Lib.hid hR
            clear hb2 hf hR
            rw [show (ocs 0 none 0 0).toArray = #[.int .u8 0, .slice none 0 0] from rfl]
            gi_wp2
            refine ⟨fun h => by simp [Fence.wide] at h, HRR.out.mono ?_⟩
            rintro e W3 ⟨rfl, hJx3⟩
            gi_wp2
            refine bodyPost_ret (results_none rfl _ _ _) rfl ?_
            exact ⟨⟨_, rfl⟩, .inr ⟨HBAD.out, hJx3⟩⟩
          · obtain ⟨s2, s3, s4⟩ := foB_no hf
            obtain ⟨s, hs⟩ := Int.eq_ofNat_of_zero_le (show 0 ≤ ys.getD 1 0 by omega)
            have hsn : s ≤ n' := by have := hy1.out.1; omega
            have hs2 : 2 ≤ s := by omega
            have hT : (ys.getD 1 0).toNat = s := by rw [hs]; rfl
            have HOPT : Hid (opts xs = (opts (ys.drop s)).map (fun l => pre.map Op1.at_ ++ ((x0, (ys.drop 2).take (s - 2)) :: l))) := by
              show _ = _
              rw [hop.out, opts_more HNZ.out (by rw [HX0.out]; exact h0) (by rw [HX0.out]; exact h1) hf, hT, HX0.out]
              cases opts (ys.drop s) <;> rfl
            rw [hT] at hown
            rw [HX0.out, hs, show (ocs x0 a3 n3 c3).toArray = #[.int .u8 x0, .slice a3 n3 c3] from rfl]
            have hsl : ∀ w' : World, (Instr.sliceAt 24 (.slice (some ⟨bb, oo, none⟩) n' cap') (some (.int .i64 s)) none none).run Try.prog w' = .ok (.slice (if cap' = s then some ⟨bb, oo, none⟩ else some ⟨bb, oo + s, none⟩) (n' - s) (cap' - s)) w' :=
              fun w' => run_slice_tail w' bb oo n' cap' s hsn hc'
            have HT2 := Lib.hid (hta.out.drop (s := s) hy1.out.1 hsn hc')
            obtain ⟨a2, ha2⟩ : ∃ x : Option Addr, (if cap' = s then some ⟨bb, oo, none⟩ else some ⟨bb, oo + s, none⟩) = x := ⟨_, rfl⟩
            rw [ha2] at hsl HT2
            have HSN := Lib.hid hsn
            have HS2 := Lib.hid hs2
            have hp2 : Below w2.heap.size w2 (w2.alloc (.cells #[.int .u8 x0, .slice a3 n3 c3] 54)) := (Below.refl _ _).alloc (Nat.le_refl _) _
            obtain ⟨fn, tmps, assign, body, hy, hR⟩ := HY.out pre ⟨x0, a3, n3, c3, (ys.drop 2).take (s - 2)⟩ wr _ hj.out (by have := hpl.out; omega) (hb2.trans (hp2.mono hb2.size)) (hown.below3 hp2)
            dsimp only at hy hR
            have HRR := Lib.hid hR
            clear ha2 hb2 hf hR hown hp2 hT hs s2 s3 s4 hsn hs2
            gi_wp2
            refine ⟨fun h => by simp [Fence.wide] at h, HRR.out.mono ?_⟩
            rintro e W3 ⟨rfl, hJ3⟩
            have HJ3 := Lib.hid hJ3
            clear hJ3
            gi_wp2
            go_roundw
            case rel =>
              refine ⟨_, a2, n' - s, cap' - s, ys.drop s, rfl, by have := HSN.out; omega, by omega, ⟨by rw [List.length_drop, hy1.out.1], hy1.out.2.drop s⟩, HT2.out, ?_, by have := hpl.out; have := HSN.out; have := HS2.out; show _ ≤ _; simp; omega, HJ3.out⟩
              show _ = _
              rw [HOPT.out]
              congr 1
              funext l
              simp [Op1.at_]
            case measure =>
              have := HS2.out
              have := HSN.out
              simp [slen]; omega
end Go.Proofs.Ytjnbnjdajkhkpaa

/-
  The contract of Same of package ipsix, and of what it calls. Conditions: chains that lie in memory.
-/
import Derived.Test.YthipnkaghddbhaaSxChain
namespace Go.Proofs.Ythipnkaghddbhaa
open Go.RowKit

theorem bEqual_any (a b : Option Addr) (n c m d : Nat) (xs ys : List Int) (w : World) (hn : xs.length = n) (hm : ys.length = m) (hx : Rd w a xs) (hy : Rd w b ys) (bx : Byt xs) (by_ : Byt ys) :
    Calls Try.prog 50 #[.slice a n c, .slice b m d] w fun e w' => e = .returned (.bool (decide (xs = ys))) ∧ w = w' := by
  have h1 := run_string_rd w c hn hx bx
  have h2 := run_string_rd w d hm hy by_
  have HI : Hid (ub xs = ub ys → xs = ys) := ub_inj bx by_
  clear hn hm hx hy bx by_
  go_enter Try.func50, Try.ntmps50
  go_wp2
  go_ret
  have he : (ub xs == ub ys) = decide (xs = ys) := by
    rw [Bool.eq_iff_iff, decide_eq_true_eq, beq_iff_eq]
    exact ⟨HI.out, fun h => by rw [h]⟩
  exact ⟨by rw [he]; rfl, rfl⟩
/-- Two headers behind are the same. -/
def smX (x y : Int × List Int) : Bool := decide (x.1 = y.1) && decide (x.2 = y.2)
theorem sxSame1_any (x y : Ex) (w : World) (hx : x.ok w) (hy : y.ok w) : Calls Try.prog 49 #[x.val, y.val] w (Gives w (.bool (smX x.two y.two))) := by
  obtain ⟨k, a, n, c, xs⟩ := x
  obtain ⟨l, b, m, d, ys⟩ := y
  have hbA : Below w.heap.size w ((w.alloc (.cells #[.int .u8 k, .slice a n c] 71)).alloc (.cells #[.int .u8 l, .slice b m d] 71)) := ((Below.refl _ _).alloc (Nat.le_refl _) _).alloc (by simp) _
  have HB := Lib.hid hbA
  have HX := Lib.hid (hx.below hbA)
  have HY := Lib.hid (hy.below hbA)
  clear hx hy hbA
  show Calls _ _ #[.agg #[.int .u8 k, .slice a n c], .agg #[.int .u8 l, .slice b m d]] _ _
  by_cases h : k = l
  · subst h
    have HS : Hid (smX (Ex.two ⟨k, a, n, c, xs⟩) (Ex.two ⟨k, b, m, d, ys⟩) = decide (xs = ys)) := by show (decide (k = k) && decide (xs = ys)) = _; rw [decide_eq_true rfl, Bool.true_and]
    go_enter Try.func49, Try.ntmps49
    go_wp2_with fail
    refine (bEqual_any a b n c m d xs ys _ HX.out.len HY.out.len HX.out.rd HY.out.rd HX.out.byt HY.out.byt).mono ?_
    rintro e w1 ⟨rfl, rfl⟩
    go_wp2_with fail
    go_ret
    exact ⟨by rw [HS.out]; rfl, HB.out⟩
  · have hb : (k == l) = false := by simpa using h
    have HS : Hid (smX (Ex.two ⟨k, a, n, c, xs⟩) (Ex.two ⟨l, b, m, d, ys⟩) = false) := by show _ = _; simp [smX, Ex.two, h]
    go_enter Try.func49, Try.ntmps49
    go_wp2_with fail
    go_ret
    exact ⟨by rw [HS.out]; rfl, HB.out⟩
theorem smX_iff {x y : Int × List Int} : smX x y = true ↔ x = y := by
  obtain ⟨a, b⟩ := x
  obtain ⟨c, d⟩ := y
  simp [smX]
theorem take_step {α : Type} {E F : List α} {j : Nat} (h : E.take j = F.take j) {x y : α} (hx : E[j]? = some x) (hy : F[j]? = some y) (e : x = y) : E.take (j + 1) = F.take (j + 1) := by
  rw [List.take_add_one, List.take_add_one, h, hx, hy, e]
set_option maxRecDepth 100000 in
set_option maxHeartbeats 1000000 in
theorem slEqF_any (a b : Option Addr) (n c m d : Nat) (es fs : List Ex) (w : World) (hx : Ch w a n c es) (hy : Ch w b m d fs) :
    Calls Try.prog 48 #[.slice a n c, .slice b m d, .func (.func 49) #[] #[]] w (Gives w (.bool (decide (es.map Ex.two = fs.map Ex.two)))) := by
  have HX := Lib.hid hx
  have HY := Lib.hid hy
  have HLX := Lib.hid hx.len
  have HLY := Lib.hid hy.len
  have hnm : n ≤ 9223372036854775807 := by have h1 := hx.cap; have h2 := hx.max; unfold maxLen at h2; omega
  have hmm : m ≤ 9223372036854775807 := by have h1 := hy.cap; have h2 := hy.max; unfold maxLen at h2; omega
  have hcn : n ≤ c := hx.cap
  have hcm : m ≤ d := hy.cap
  have HB0 : Hid (Below w.heap.size w w) := Below.refl _ _
  clear hx hy
  by_cases hl : n = m
  · subst hl
    have HT0 : Hid ((es.map Ex.two).take 0 = (fs.map Ex.two).take 0) := by show _ = _; rfl
    go_enter Try.func48, Try.ntmps48
    go_wp2_with fail
    go_loopw [17] (fun i wr => ∃ j : Nat, j ≤ n ∧ i = .int .i64 j ∧ Hid ((es.map Ex.two).take j = (fs.map Ex.two).take j ∧ Below w.heap.size w wr)) (fun i _ => n - (intOf i).toNat)
    case atStart => exact ⟨0, Nat.zero_le _, rfl, HT0.out, HB0.out⟩
    case round =>
      obtain ⟨j, hj, rfl, hst⟩ := hrel
      rename World => wr
      clear HB0 HT0
      by_cases hlt : j < n
      · have hlt' : (j : Int) < (n : Int) := by omega
        obtain ⟨x, hx⟩ : ∃ x, es[j]? = some x := ⟨_, List.getElem?_eq_getElem (by rw [HLX.out]; exact hlt)⟩
        obtain ⟨y, hy⟩ : ∃ y, fs[j]? = some y := ⟨_, List.getElem?_eq_getElem (by rw [HLY.out]; exact hlt)⟩
        have hb1 : Below w.heap.size w wr := hst.out.2
        have hcx := HX.out.below hb1
        have hcy := HY.out.below hb1
        obtain ⟨b1, o1, rfl, hcl1⟩ := hcx.cells (by intro e; rw [e] at hx; simp at hx)
        obtain ⟨b2, o2, rfl, hcl2⟩ := hcy.cells (by intro e; rw [e] at hy; simp at hy)
        obtain ⟨hx0, hx1⟩ := hcl1 j x hx
        obtain ⟨hy0, hy1⟩ := hcl2 j y hy
        obtain ⟨k, xa, xn, xc, xs⟩ := x
        obtain ⟨l, ya, yn, yc, ys⟩ := y
        have hxo := hcx.ok _ (List.mem_of_getElem? hx)
        have hyo := hcy.ok _ (List.mem_of_getElem? hy)
        have ha1 : Below wr.heap.size wr (wr.alloc (.cells #[.int .u8 k, .slice xa xn xc] 71)) := (Below.refl _ _).alloc (Nat.le_refl _) _
        have ha2 : Below wr.heap.size wr ((wr.alloc (.cells #[.int .u8 k, .slice xa xn xc] 71)).alloc (.cells #[.int .u8 l, .slice ya yn yc] 71)) := ha1.alloc (by simp) _
        have hz0 := cell_kept ha1 hy0
        have hz1 := cell_kept ha1 hy1
        have HXO := Lib.hid (hxo.below ha2)
        have HYO := Lib.hid (hyo.below ha2)
        have HB2 : Hid (Below w.heap.size w ((wr.alloc (.cells #[.int .u8 k, .slice xa xn xc] 71)).alloc (.cells #[.int .u8 l, .slice ya yn yc] 71))) := hb1.trans (ha2.mono hb1.size)
        have HMX : Hid ((es.map Ex.two)[j]? = some (k, xs)) := by show _ = _; rw [List.getElem?_map, hx]; rfl
        have HMY : Hid ((fs.map Ex.two)[j]? = some (l, ys)) := by show _ = _; rw [List.getElem?_map, hy]; rfl
        obtain ⟨S, hS⟩ : ∃ v, smX (k, xs) (l, ys) = v := ⟨_, rfl⟩
        have HS := Lib.hid hS
        clear hS hx hy hcx hcy hcl1 hcl2 hxo hyo ha1 ha2 hb1
        go_wp2_with fail
        refine (sxSame1_any ⟨k, xa, xn, xc, xs⟩ ⟨l, ya, yn, yc, ys⟩ _ HXO.out HYO.out).mono ?_
        rintro e w1 ⟨rfl, hb⟩
        have hss : smX (Ex.two ⟨k, xa, xn, xc, xs⟩) (Ex.two ⟨l, ya, yn, yc, ys⟩) = S := HS.out
        rw [hss]
        have HB3 : Hid (Below w.heap.size w w1) := HB2.out.trans (hb.mono HB2.out.size)
        clear hb hss
        cases S with
        | true =>
          have HTN : Hid ((es.map Ex.two).take (j + 1) = (fs.map Ex.two).take (j + 1)) := take_step hst.out.1 HMX.out HMY.out (smX_iff.1 HS.out)
          go_wp2_with fail
          go_roundw
          case rel => exact ⟨j + 1, by omega, by go_num, HTN.out, HB3.out⟩
          case measure => simp [intOf]; omega
        | false =>
          have HF : Hid (decide (es.map Ex.two = fs.map Ex.two) = false) := by
            show _ = _
            rw [decide_eq_false_iff_not]
            intro e
            have h1 := HMX.out
            rw [e, HMY.out] at h1
            have h2 := smX_iff.2 (Option.some.inj h1).symm
            rw [HS.out] at h2
            cases h2
          go_wp2_with fail
          go_ret
          exact ⟨by rw [HF.out]; rfl, HB3.out⟩
      · obtain rfl : j = n := by omega
        have HF : Hid (decide (es.map Ex.two = fs.map Ex.two) = true) := by
          show _ = _
          rw [decide_eq_true_eq]
          have h1 := hst.out.1
          rwa [List.take_of_length_le (by rw [List.length_map, HLX.out]; exact Nat.le_refl _), List.take_of_length_le (by rw [List.length_map, HLY.out]; exact Nat.le_refl _)] at h1
        have HB3 : Hid (Below w.heap.size w wr) := hst.out.2
        clear hst
        go_wp2_with fail
        go_ret
        exact ⟨by rw [HF.out]; rfl, HB3.out⟩
  · have hb : ((n : Int) != (m : Int)) = true := by simp; omega
    have HF : Hid (decide (es.map Ex.two = fs.map Ex.two) = false) := by
      show _ = _
      rw [decide_eq_false_iff_not]
      intro e
      have h1 := congrArg List.length e
      rw [List.length_map, List.length_map, HLX.out, HLY.out] at h1
      exact hl h1
    go_enter Try.func48, Try.ntmps48
    go_wp2_with fail
    go_ret
    exact ⟨by rw [HF.out]; rfl, HB0.out⟩
def smC (es fs : List Ex) (p q : Int) : Bool := decide (p = q) && decide (es.map Ex.two = fs.map Ex.two)
theorem sxSame_any (a b : Option Addr) (n c m d : Nat) (es fs : List Ex) (p q : Int) (w : World) (hx : Ch w a n c es) (hy : Ch w b m d fs) :
    Calls Try.prog 25 #[.agg #[.slice a n c, .int .u8 p], .agg #[.slice b m d, .int .u8 q]] w (Gives w (.bool (smC es fs p q))) := by
  have hbA : Below w.heap.size w ((w.alloc (.cells #[.slice a n c, .int .u8 p] 46)).alloc (.cells #[.slice b m d, .int .u8 q] 46)) := ((Below.refl _ _).alloc (Nat.le_refl _) _).alloc (by simp) _
  have HB := Lib.hid hbA
  have HX := Lib.hid (hx.below hbA)
  have HY := Lib.hid (hy.below hbA)
  clear hx hy hbA
  by_cases h : p = q
  · subst h
    go_enter Try.func25, Try.ntmps25
    go_wp2_with fail
    refine (slEqF_any a b n c m d es fs _ HX.out HY.out).mono ?_
    rintro e w1 ⟨rfl, hb1⟩
    have HB1 := Lib.hid (HB.out.trans (hb1.mono HB.out.size))
    have HS : Hid (smC es fs p p = decide (es.map Ex.two = fs.map Ex.two)) := by show (decide (p = p) && _) = _; rw [decide_eq_true rfl, Bool.true_and]
    clear hb1
    go_wp2_with fail
    go_ret
    exact ⟨by rw [HS.out]; rfl, HB1.out⟩
  · have hb : (p == q) = false := by simpa using h
    have HS : Hid (smC es fs p q = false) := by show _ = _; simp [smC, h]
    go_enter Try.func25, Try.ntmps25
    go_wp2_with fail
    go_ret
    exact ⟨by rw [HS.out]; rfl, HB.out⟩
end Go.Proofs.Ythipnkaghddbhaa

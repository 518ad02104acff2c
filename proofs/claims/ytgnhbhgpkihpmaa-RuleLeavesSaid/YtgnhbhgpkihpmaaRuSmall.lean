/-
  The contracts of the small functions of package rule: isVersion, version, isPrefix, hasPorts, hold, anyPorts, and of addr.Within. Conditions: rows of sixteen bytes.
-/
import Derived.Test.YtgnhbhgpkihpmaaRuLeaf
namespace Go.Proofs.Ytgnhbhgpkihpmaa
open Go.RowKit

def vr (s : Bool) : Int := if s then 6 else 4
def isV (v : Int) : Bool := decide (v = 0) || (decide (v = 4) || decide (v = 6))
def z18 (s : Bool) (xs : List Int) (n : Int) : Bool := decide ((s = false ∧ xs = zs 16) ∧ n = 0)
def ipx (s : Bool) (xs : List Int) (n v : Int) : Bool := z18 s xs n || (prt s xs n && (decide (v = 0) || decide (v = vr s)))
def hpB (p : Int) : Bool := decide (p = 6) || decide (p = 17)
def hldB (lo hi a b : Int) : Bool := decide (lo ≤ a) && decide (b ≤ hi)
def wthB (s : Bool) (xs : List Int) (n : Int) (t : Bool) (ys : List Int) (m : Int) : Bool := prt s xs n && (phs t ys m s xs && decide (m ≤ n))

/-- A prefix is compared with the zero one. -/
theorem eqZ {ops : Array Oper} {rest : List Oper} {o : Oper} {a : Act} {w : World} {Q : Exit → Act → World → Prop} (r : TypeId) (x y : Operand) (s : Bool) (xs : List Int) (n : Int) (v : Bool) (hl : xs.length = 16) (hz : z18 s xs n = v)
    (ho : o.op = .binOp .eql 39 x y r) (hgd : o.guard = none) (hx : a.eval x = .agg (pfl s xs n).toArray) (hy : a.eval y = .agg (pfl false (zs 16) 0).toArray)
    (h : wpList Try.prog ops Q rest (a.put o.dst (.bool v)) w) : wpList Try.prog ops Q (o :: rest) a w :=
  eqC 39 r x y v _ _ ho hgd guP hx hy (by rw [← hz]; exact eqP w 9996 _ _ _ _ _ _ hl (zs_length 16)) h

theorem isVersion_any (v : Int) (w : World) : Calls Try.prog 27 #[.int .i64 v] w (Gives w (.bool (isV v))) := by
  have hv : v = 0 ∨ v = 4 ∨ v = 6 ∨ (v ≠ 0 ∧ v ≠ 4 ∧ v ≠ 6) := by omega
  rcases hv with rfl | rfl | rfl | ⟨h0, h4, h6⟩
  · go_enter Try.func27, Try.ntmps27
    go_wp2_with fail
    go_ret
    exact ⟨rfl, Below.refl _ _⟩
  · go_enter Try.func27, Try.ntmps27
    go_wp2_with fail
    go_ret
    exact ⟨rfl, Below.refl _ _⟩
  · go_enter Try.func27, Try.ntmps27
    go_wp2_with fail
    go_ret
    exact ⟨rfl, Below.refl _ _⟩
  · have b0 : (v == 0) = false := by simpa using h0
    have b4 : (v == 4) = false := by simpa using h4
    have b6 : (v == 6) = false := by simpa using h6
    go_enter Try.func27, Try.ntmps27
    go_wp2_with fail
    go_ret
    exact ⟨by simp [isV, h0, h4, h6], Below.refl _ _⟩

theorem hasPorts_any (p : Int) (w : World) : Calls Try.prog 50 #[.int .u8 p] w (Gives w (.bool (hpB p))) := by
  have hv : p = 6 ∨ p = 17 ∨ (p ≠ 6 ∧ p ≠ 17) := by omega
  rcases hv with rfl | rfl | ⟨h0, h4⟩
  · go_enter Try.func50, Try.ntmps50
    go_wp2_with fail
    go_ret
    exact ⟨rfl, Below.refl _ _⟩
  · go_enter Try.func50, Try.ntmps50
    go_wp2_with fail
    go_ret
    exact ⟨rfl, Below.refl _ _⟩
  · have b0 : (p == 6) = false := by simpa using h0
    have b4 : (p == 17) = false := by simpa using h4
    go_enter Try.func50, Try.ntmps50
    go_wp2_with fail
    go_ret
    exact ⟨by simp [hpB, h0, h4], Below.refl _ _⟩

theorem version_any (s : Bool) (xs : List Int) (w : World) : Calls Try.prog 30 #[.agg (adl s xs).toArray] w (Gives w (.int .i64 (vr s))) := by
  have hC : (adl s xs).toArray[0]? = some (.bool s) := by simp [adl]
  cases s <;>
  · go_enter Try.func30, Try.ntmps30
    go_wp2_with fail
    go_ret
    exact ⟨rfl, (Below.refl _ _).alloc (Nat.le_refl _) _⟩

theorem hold_any (lo hi a b : Int) (w : World) : Calls Try.prog 51 #[.agg (prl lo hi).toArray, .int .u16 a, .int .u16 b] w (Gives w (.bool (hldB lo hi a b))) := by
  have c0 : (prl lo hi).toArray[0]? = some (.int .u16 lo) := rfl
  have c1 : (prl lo hi).toArray[1]? = some (.int .u16 hi) := rfl
  by_cases h0 : lo ≤ a
  · by_cases h1 : b ≤ hi
    · go_enter Try.func51, Try.ntmps51
      go_wp2_with fail
      go_ret
      exact ⟨by simp [hldB, h0, h1], (Below.refl _ _).alloc (Nat.le_refl _) _⟩
    · go_enter Try.func51, Try.ntmps51
      go_wp2_with fail
      go_ret
      exact ⟨by simp [hldB, h1], (Below.refl _ _).alloc (Nat.le_refl _) _⟩
  · go_enter Try.func51, Try.ntmps51
    go_wp2_with fail
    go_ret
    exact ⟨by simp [hldB]; omega, (Below.refl _ _).alloc (Nat.le_refl _) _⟩

theorem anyPorts_any (w : World) : Calls Try.prog 19 #[] w (Gives w (.agg (prl 0 65535).toArray)) := by
  go_enter Try.func19, Try.ntmps19
  go_wp2_with (first
    | (refine wpList_build_run (cells := (prl 0 65535).toArray) rfl 41 _ rfl ?_ ?_; · exact builtPo 0 65535)
    | (refine stC _ _ _ rfl rfl _ _ (prl 0 65535) rfl rfl (there_new _ _ _ _ rfl _ rfl) infPo (prl_one _ _) ?_))
  refine bodyPost_ret (v := .agg (prl 0 65535).toArray) (ret_mid Try.results19 _ _ _ _ (prl 0 65535) _ rfl (World.rangeAt_setCells_same _ _ _ _ ?_) Try.underlying41 rfl infPo) rfl ⟨rfl, ?_⟩
  · exact there_new _ _ _ _ rfl _ rfl
  · exact Below.setCells ((Below.refl _ _).alloc (Nat.le_refl _) _) _ (by simp) _ _

set_option maxHeartbeats 1000000 in
theorem within_any (s : Bool) (xs : List Int) (n : Int) (t : Bool) (ys : List Int) (m : Int) (w : World) (hl : xs.length = 16) (hb : Byt xs) (hm : ys.length = 16) :
    Calls Try.prog 42 #[.agg (pfl s xs n).toArray, .agg (pfl t ys m).toArray] w (Gives w (.bool (wthB s xs n t ys m))) := by
  have HL := Lib.hid hl
  have HM := Lib.hid hm
  have HB := Lib.hid hb
  have HBA := Lib.hid (((Below.refl w.heap.size w).alloc (Nat.le_refl _) (.cells (pfl s xs n).toArray 39)).alloc (by simp) (.cells (pfl t ys m).toArray 39))
  have H1 : Hid (((w.alloc (.cells (pfl s xs n).toArray 39)).alloc (.cells (pfl t ys m).toArray 39)).rangeAt w.heap.size 0 (pfl s xs n)) := World.rangeAt_alloc (pfl_range w s xs n 39) _
  have H2 : Hid (((w.alloc (.cells (pfl s xs n).toArray 39)).alloc (.cells (pfl t ys m).toArray 39)).rangeAt (w.heap.size + 1) 0 (pfl t ys m)) := by
    have := pfl_range (w.alloc (.cells (pfl s xs n).toArray 39)) t ys m 39
    show World.rangeAt _ _ _ _
    simpa using this
  clear hl hm hb
  go_enter Try.func42, Try.ntmps42
  go_wp2_with (refine ldP _ rfl rfl _ _ rfl s xs n HL.out H1.out ?_)
  refine (pRight_any s xs n _ HL.out HB.out).mono ?_
  rintro e w1 ⟨rfl, hb1⟩
  have H11 := Lib.hid (range_kept hb1 H1.out)
  have H21 := Lib.hid (range_kept hb1 H2.out)
  have HB1 := Lib.hid (HBA.out.trans (hb1.mono HBA.out.size))
  clear hb1
  cases hp : prt s xs n with
  | false =>
    have HP := Lib.hid hp
    clear hp
    go_wp2_with fail
    go_ret
    exact ⟨by simp [wthB, HP.out], HB1.out⟩
  | true =>
    have HP := Lib.hid hp
    clear hp
    go_wp2_with (first
      | (refine ldPg _ rfl (by rfl) _ _ rfl t ys m HM.out H21.out ?_)
      | (refine ldAg _ rfl (by rfl) _ _ rfl s xs HL.out (pfl_adl H11.out) ?_))
    refine (pHas_any t ys m s xs _ HM.out HL.out HB.out).mono ?_
    rintro e w2 ⟨rfl, hb2⟩
    have h12 := pfl_n (range_kept hb2 H11.out) HL.out
    have h22 := pfl_n (range_kept hb2 H21.out) HM.out
    have HB2 := Lib.hid (HB1.out.trans (hb2.mono HB1.out.size))
    clear hb2
    cases hq : phs t ys m s xs with
    | false =>
      have HQ := Lib.hid hq
      clear hq
      go_wp2_with fail
      go_ret
      exact ⟨by simp [wthB, HQ.out], HB2.out⟩
    | true =>
      have HQ := Lib.hid hq
      clear hq
      go_wp2_with fail
      go_ret
      exact ⟨by simp [wthB, HP.out, HQ.out], HB2.out⟩

set_option maxHeartbeats 1000000 in
theorem isPrefix_any (s : Bool) (xs : List Int) (n v : Int) (w : World) (hl : xs.length = 16) (hb : Byt xs) :
    Calls Try.prog 37 #[.agg (pfl s xs n).toArray, .int .i64 v] w (Gives w (.bool (ipx s xs n v))) := by
  have HL := Lib.hid hl
  have HB := Lib.hid hb
  have HBA := Lib.hid ((Below.refl w.heap.size w).alloc (Nat.le_refl _) (.cells (pfl s xs n).toArray 39))
  have H1 := Lib.hid (pfl_range w s xs n 39)
  clear hl hb
  cases hz : z18 s xs n with
  | true =>
    have HZ := Lib.hid hz
    clear hz
    go_enter Try.func37, Try.ntmps37
    go_wp2_with (first
      | (refine ldP _ rfl rfl _ _ rfl s xs n HL.out H1.out ?_)
      | (refine wpList_build_run (cells := (pfl false (zs 16) 0).toArray) rfl 39 _ rfl ?_ ?_; · exact builtP0)
      | (refine eqZ _ _ _ s xs n _ HL.out HZ.out rfl rfl rfl rfl ?_; go_wp2_with fail))
    go_ret
    exact ⟨by simp [ipx, HZ.out], HBA.out⟩
  | false =>
    have HZ := Lib.hid hz
    clear hz
    go_enter Try.func37, Try.ntmps37
    go_wp2_with (first
      | (refine ldP _ rfl rfl _ _ rfl s xs n HL.out H1.out ?_)
      | (refine wpList_build_run (cells := (pfl false (zs 16) 0).toArray) rfl 39 _ rfl ?_ ?_; · exact builtP0)
      | (refine eqZ _ _ _ s xs n _ HL.out HZ.out rfl rfl rfl rfl ?_; go_wp2_with (refine ldPg _ rfl (by rfl) _ _ rfl s xs n HL.out H1.out ?_)))
    refine (pRight_any s xs n _ HL.out HB.out).mono ?_
    rintro e w1 ⟨rfl, hb1⟩
    have H11 := Lib.hid (range_kept hb1 H1.out)
    have HB1 := Lib.hid (HBA.out.trans (hb1.mono HBA.out.size))
    clear hb1
    cases hp : prt s xs n with
    | false =>
      have HP := Lib.hid hp
      clear hp
      go_wp2_with fail
      go_ret
      exact ⟨by simp [ipx, HZ.out, HP.out], HB1.out⟩
    | true =>
      have HP := Lib.hid hp
      clear hp
      by_cases h0 : v = 0
      · subst h0
        go_wp2_with fail
        go_ret
        exact ⟨by simp [ipx, HP.out], HB1.out⟩
      · have b0 : (v == 0) = false := by simpa using h0
        have H0 := Lib.hid h0
        clear h0
        go_wp2_with (refine ldAg _ rfl (by rfl) _ _ rfl s xs HL.out (pfl_adl H11.out) ?_)
        refine (version_any s xs _).mono ?_
        rintro e w2 ⟨rfl, hb2⟩
        have HB2 := Lib.hid (HB1.out.trans (hb2.mono HB1.out.size))
        clear hb2
        go_wp2_with fail
        go_ret
        exact ⟨by simp [ipx, HZ.out, HP.out, H0.out]; rfl, HB2.out⟩
end Go.Proofs.Ytgnhbhgpkihpmaa

/-
  The contracts of the document's own functions for buckets (New, Fill, Take, When). Conditions: numbers that fit their Go types, no more tokens than the burst.
-/
import Derived.Test.YtpigpeehhadkjaaSbWait
import Derived.Deep.MidRow
namespace Go.Proofs.Ytpigpeehhadkjaa.Bkt
open Go.RowKit

/-- A bucket of the document's lies there. -/
def Rk (w : World) (g : Nat) (b : Bu) : Prop := w.heap[g]? = some (.cells b.cs.toArray 101 (0, 0))
section
variable {w w' : World} {g : Nat} {b : Bu}
theorem Rk.c0 (h : Rk w g b) : w.cell? ⟨g, 0, none⟩ = some (.int .u64 b.r) := by rw [cell_of_row w g 0 _ _ (0, 0) h]; rfl
theorem Rk.c1 (h : Rk w g b) : w.cell? ⟨g, 1, none⟩ = some (.int .u64 b.B) := by rw [cell_of_row w g 1 _ _ (0, 0) h]; rfl
theorem Rk.c2 (h : Rk w g b) : w.cell? ⟨g, 2, none⟩ = some (.int .u64 b.T) := by rw [cell_of_row w g 2 _ _ (0, 0) h]; rfl
theorem Rk.c3 (h : Rk w g b) : w.cell? ⟨g, 3, none⟩ = some (.int .u64 b.K) := by rw [cell_of_row w g 3 _ _ (0, 0) h]; rfl
theorem Rk.frozen (h : Rk w g b) (j : Nat) : w.frozen? ⟨g, j, none⟩ = false := frozen_of_row w g j _ _ h
theorem Rk.lt (h : Rk w g b) : g < w.heap.size := (Array.getElem?_eq_some_iff.1 h).1
theorem Rk.keep {S : Nat → Prop} (h : Rk w g b) (k : Kept S w w') (hs : ¬ S g) : Rk w' g b := k.heap h hs
theorem Rk.below (h : Rk w g b) (k : Below w.heap.size w w') : Rk w' g b := h.keep (S := fun _ => False) (Kept.of_below k (fun i hi hi' => by omega)) id
theorem Rk.tick (h : Rk w g b) (t : Int) : Rk (w.setCell ⟨g, 2, none⟩ (.int .u64 t)) g { b with T := t } := by unfold Rk; rw [heap_setCell_same w g 2 _ _ _ h]; rfl
theorem Rk.tokens (h : Rk w g b) (k : Int) : Rk (w.setCell ⟨g, 3, none⟩ (.int .u64 k)) g { b with K := k } := by unfold Rk; rw [heap_setCell_same w g 3 _ _ _ h]; rfl
end
theorem most_any (w : World) : Calls Try.prog 79 #[] w fun e w' => e = .returned (.int .u64 18446744073709551615) ∧ w' = w := by
  go_enter Try.func79, Try.ntmps79
  go_wp2_with fail
  go_ret
  exact ⟨rfl, rfl⟩
/-- A sum, at most the greatest number. -/
def plV (a b : Int) : Int := if 18446744073709551615 - b < a then 18446744073709551615 else a + b
theorem plus_any (a b : Int) (w : World) (a0 : 0 ≤ a) (a1 : a ≤ 18446744073709551615) (b0 : 0 ≤ b) (b1 : b ≤ 18446744073709551615) : Calls Try.prog 74 #[.int .u64 a, .int .u64 b] w fun e w' => e = .returned (.int .u64 (plV a b)) ∧ w' = w := by
  have HP : Hid (plV a b = if 18446744073709551615 - b < a then 18446744073709551615 else a + b) := rfl
  by_cases h : 18446744073709551615 - b < a
  · go_enter Try.func74, Try.ntmps74
    go_wp2_with fail
    refine (most_any _).mono ?_
    rintro e w1 ⟨rfl, rfl⟩
    go_wp2_with fail
    refine (most_any _).mono ?_
    rintro e w1 ⟨rfl, rfl⟩
    go_wp2_with fail
    go_ret
    exact ⟨by rw [HP.out, if_pos h]; rfl, rfl⟩
  · go_enter Try.func74, Try.ntmps74
    go_wp2_with fail
    refine (most_any _).mono ?_
    rintro e w1 ⟨rfl, rfl⟩
    go_wp2_with fail
    go_ret
    exact ⟨by rw [HP.out, if_neg (Int.not_lt.2 h)]; rfl, rfl⟩
theorem times_any (a b : Int) (w : World) (a0 : 0 ≤ a) (a1 : a ≤ 18446744073709551615) (b0 : 0 ≤ b) (_b1 : b ≤ 18446744073709551615) : Calls Try.prog 75 #[.int .u64 a, .int .u64 b] w fun e w' => e = .returned (.int .u64 (cmV a b)) ∧ w' = w := by
  by_cases h0 : 0 < a
  · have f1 : (18446744073709551615 : Int).tdiv a = 18446744073709551615 / a := Int.tdiv_eq_ediv_of_nonneg (by decide)
    obtain ⟨q, hq⟩ : ∃ q, (18446744073709551615 : Int) / a = q := ⟨_, rfl⟩
    have q0 : 0 ≤ q := by rw [← hq]; exact Int.ediv_nonneg (by decide) a0
    have q1 : q ≤ 18446744073709551615 := by rw [← hq]; exact Int.ediv_le_self _ (by decide)
    have hlo := Int.ediv_mul_le 18446744073709551615 (show a ≠ 0 by omega)
    have hhi := Int.lt_ediv_add_one_mul_self 18446744073709551615 h0
    rw [hq] at f1 hlo hhi
    have f2 : IntKind.u64.wrap q = q := by rw [IntKind.wrap_u64]; omega
    by_cases h : q < b
    · have h1 : (q + 1) * a ≤ b * a := Int.mul_le_mul_of_nonneg_right (by omega) a0
      have HC : Hid (cmV a b = 18446744073709551615) := by show cmV a b = _; rw [cmV, if_pos (by rw [Int.mul_comm a b]; omega)]
      clear hq hlo hhi h1
      go_enter Try.func75, Try.ntmps75
      go_wp2_with fail
      refine (most_any _).mono ?_
      rintro e w1 ⟨rfl, rfl⟩
      go_wp2_with fail
      refine (most_any _).mono ?_
      rintro e w1 ⟨rfl, rfl⟩
      go_wp2_with fail
      go_ret
      exact ⟨by rw [HC.out]; rfl, rfl⟩
    · have h1 : b * a ≤ q * a := Int.mul_le_mul_of_nonneg_right (by omega) a0
      have h2 := Int.mul_nonneg a0 b0
      rw [Int.mul_comm b a] at h1
      have HC : Hid (cmV a b = a * b) := by show cmV a b = _; rw [cmV, if_neg (by omega)]
      have f3 : IntKind.u64.wrap (a * b) = a * b := by rw [IntKind.wrap_u64]; omega
      clear hq hlo hhi h1 h2
      go_enter Try.func75, Try.ntmps75
      go_wp2_with fail
      refine (most_any _).mono ?_
      rintro e w1 ⟨rfl, rfl⟩
      go_wp2_with fail
      go_ret
      exact ⟨by rw [HC.out]; rfl, rfl⟩
  · have ha : a = 0 := by omega
    subst ha
    have HC : Hid (cmV 0 b = 0) := by show cmV 0 b = _; rw [cmV, if_neg (by omega)]; omega
    go_enter Try.func75, Try.ntmps75
    go_wp2_with fail
    go_ret
    exact ⟨by rw [HC.out]; simp, rfl⟩
theorem pl_fill {b : Bu} (h : b.ok) {t : Int} (ht : b.T < t) : min b.B (plV b.K (cmV b.r (t - b.T))) = (b.fill t).K := by
  have h0 := Int.mul_nonneg h.r0 (show 0 ≤ t - b.T by omega)
  have h1 := h.K0
  have h2 := h.KB
  have h3 := h.B1
  rw [fill_K ht]
  unfold plV cmV
  generalize b.r * (t - b.T) = p at *
  split <;> split <;> omega
theorem pl_fit {a b : Int} (a0 : 0 ≤ a) (a1 : a ≤ 18446744073709551615) (b0 : 0 ≤ b) (_b1 : b ≤ 18446744073709551615) : 0 ≤ plV a b ∧ plV a b ≤ 18446744073709551615 := by
  unfold plV
  split <;> omega

/-- What is answered; all that was there is as it was. -/
def Gives (w : World) (v : Value) (e : Ending) (w' : World) : Prop := e = .returned v ∧ Below w.heap.size w w'

set_option maxRecDepth 100000 in
set_option maxHeartbeats 2000000 in
theorem rNew_any (r B T : Int) (w : World) : Calls Try.prog 29 #[.int .u64 r, .int .u64 B, .int .u64 T] w (Gives w (.agg (⟨r, B, T, B⟩ : Bu).cs.toArray)) := by
  go_enter Try.func29, Try.ntmps29
  go_wp2_with fail
  refine bodyPost_ret (v := .agg #[.int .u64 r, .int .u64 B, .int .u64 T, .int .u64 B]) (by simp [results, Try.results29, go_sem]) rfl ?_
  exact ⟨rfl, (Below.refl _ _).alloc (Nat.le_refl _) _⟩

section
variable {ops : Array Oper} {rest : List Oper} {o : Oper} {a : Act} {w : World} {Q : Exit → Act → World → Prop}
theorem infB : (Try.prog.info? 101).map (·.size) = some 4 := by kernel_rfl
theorem Bu.one (b : Bu) : ∀ v ∈ b.cs, v.oneCell' = true := by
  intro v hv
  simp [Bu.cs] at hv
  rcases hv with rfl | rfl | rfl | rfl <;> rfl
theorem Rk.put {b : Bu} {g : Nat} (h : Rk w g b) (c : Bu) : Rk (w.setCells g 0 c.cs) g c := by
  unfold Rk Bu.cs
  simp only [World.setCells]
  rw [heap_setCell_same _ g _ _ _ _ (heap_setCell_same _ g _ _ _ _ (heap_setCell_same _ g _ _ _ _ (heap_setCell_same _ g _ _ _ _ h)))]
  rfl
theorem Rk.there {b : Bu} {g : Nat} (h : Rk w g b) : w.there g 0 4 := fun j hj => by
  rw [cell_of_row w g (0 + j) _ _ (0, 0) h, frozen_of_row w g (0 + j) _ _ h]
  exact ⟨by simp [Bu.cs]; omega, rfl⟩
theorem Kept.setCells {S : Nat → Prop} {w w' : World} (g : Nat) (hg : S g) : ∀ (vs : List Value) (o : Nat), Kept S w w' → Kept S w (w'.setCells g o vs)
  | [], _, h => h
  | v :: r, o, h => by rw [World.setCells]; exact Kept.setCells g hg r (o + 1) (h.trans (Kept.setCell (S := S) w' ⟨g, o, none⟩ v hg) (fun _ _ h => h))
/-- A whole bucket is stored; of the memory no more is kept in mind. -/
theorem stB (x y : Operand) (ho : o.op = .store 101 x y) (hgd : o.guard = none) (g : Nat) (b b0 : Bu) (hx : a.eval x = .pointer (some ⟨g, 0, none⟩)) (hy : a.eval y = .agg #[.int .u64 b.r, .int .u64 b.B, .int .u64 b.T, .int .u64 b.K]) (hk : Rk w g b0)
    (h : ∀ w', Rk w' g b → Kept (fun x => x = g) w w' → wpList Try.prog ops Q rest (a.put o.dst undef) w') : wpList Try.prog ops Q (o :: rest) a w :=
  wpList_store_mid hgd _ x y ho g 0 b.cs.toArray hx hy hk.there infB (all_oneCell_toArray b.one) (h _ (hk.put b) (Kept.setCells (S := fun x => x = g) g rfl _ 0 (Kept.refl _ _)))
end
/-- The two blocks of a call: its bucket, and what it answers. -/
theorem rk_two (w : World) (b : Bu) : ∀ wz, (w.alloc (.cells #[.int .u64 b.r, .int .u64 b.B, .int .u64 b.T, .int .u64 b.K] 101)).alloc (.cells #[.int .u64 0, .int .u64 0, .int .u64 0, .int .u64 0] 101) = wz →
    Rk wz w.heap.size b ∧ Rk wz (w.heap.size + 1) ⟨0, 0, 0, 0⟩ ∧ Below w.heap.size w wz := by
  rintro wz rfl
  refine ⟨?_, ?_, ((Below.refl _ _).alloc (Nat.le_refl _) _).alloc (by simp) _⟩
  · show ((w.alloc _).alloc _).heap[w.heap.size]? = _
    rw [Below.heap_alloc _ _ _ (by simp)]
    exact Blk_new _ _ _
  · have := Blk_new (w.alloc (.cells #[.int .u64 b.r, .int .u64 b.B, .int .u64 b.T, .int .u64 b.K] 101)) #[.int .u64 0, .int .u64 0, .int .u64 0, .int .u64 0] 101
    rw [show (w.alloc (.cells #[.int .u64 b.r, .int .u64 b.B, .int .u64 b.T, .int .u64 b.K] 101)).heap.size = w.heap.size + 1 by simp] at this
    exact this

set_option maxRecDepth 100000 in
set_option maxHeartbeats 2000000 in
theorem rFill_any (b : Bu) (t : Int) (w : World) (hb : b.ok) (h0 : 0 ≤ t) (h1 : t ≤ 18446744073709551615) : Calls Try.prog 60 #[.agg b.cs.toArray, .int .u64 t] w (Gives w (.agg (b.fill t).cs.toArray)) := by
  have hcs : b.cs.toArray = #[.int .u64 b.r, .int .u64 b.B, .int .u64 b.T, .int .u64 b.K] := rfl
  rw [hcs]
  clear hcs
  by_cases ht : t ≤ b.T
  · rw [fill_low b ht]
    go_enter Try.func60, Try.ntmps60
    go_wp2_with fail
    refine bodyPost_ret (v := .agg #[.int .u64 b.r, .int .u64 b.B, .int .u64 b.T, .int .u64 b.K]) (by simp [results, Try.results60, go_sem]) rfl ?_
    exact ⟨rfl, ((Below.refl _ _).alloc (Nat.le_refl _) _).alloc (by simp) _⟩
  · have HZ := Lib.hid (rk_two w b)
    obtain ⟨v0, v1⟩ := cmV_fit hb.r0 (show 0 ≤ t - b.T by omega)
    have hcm := times_any b.r (t - b.T)
    have hK := pl_fill hb (show b.T < t by omega)
    have hok := hb.fill h1
    have hfl : b.fill t = ⟨b.r, b.B, t, (b.fill t).K⟩ := by rw [Bu.fill, if_neg ht]
    obtain ⟨v, hv⟩ : ∃ v, cmV b.r (t - b.T) = v := ⟨_, rfl⟩
    rw [hv] at v0 v1 hK hcm
    have hpl := plus_any b.K v
    have K0 := hb.K0
    have KB := hb.KB
    have B1 := hb.B1
    have r0 := hb.r0
    have r1 := hb.r1
    have T0 := hb.T0
    obtain ⟨p0, p1⟩ := pl_fit K0 (by omega) v0 v1
    obtain ⟨p, hp⟩ : ∃ p, plV b.K v = p := ⟨_, rfl⟩
    rw [hp] at hK hpl p0 p1
    obtain ⟨k, hk⟩ : ∃ k, (b.fill t).K = k := ⟨_, rfl⟩
    rw [hk] at hK hfl
    rw [hfl]
    have HCM := Lib.hid hcm
    have HPL := Lib.hid hpl
    have e1 : IntKind.u64.wrap (t - b.T) = t - b.T := by rw [IntKind.wrap_u64]; omega
    clear hb hok hfl hv hp hk hcm hpl
    go_enter Try.func60, Try.ntmps60
    go_wp2_with fail
    obtain ⟨wz, hwz⟩ : ∃ z, (w.alloc (.cells #[.int .u64 b.r, .int .u64 b.B, .int .u64 b.T, .int .u64 b.K] 101)).alloc (.cells #[.int .u64 0, .int .u64 0, .int .u64 0, .int .u64 0] 101) = z := ⟨_, rfl⟩
    obtain ⟨hz, hy, hbl⟩ := HZ.out wz hwz
    rw [hwz]
    have c0 := hz.c0
    have c1 := hz.c1
    have c2 := hz.c2
    have c3 := hz.c3
    clear hwz
    go_still_tail 14, (by kernel_rfl)
    still_call (HCM.out _ r0 r1 (by omega) (by omega))
    repeat still_step
    still_call (HPL.out _ K0 (by omega) v0 v1)
    repeat still_step
    apply wpStill_nil
    refine @id (wpList _ _ _ _ _ wz.drew) ?_
    have e0 : (if p < b.B then p else b.B) = k := by
      rw [← hK, Int.min_def]
      split <;> (try split) <;> omega
    rw [e0]
    have hz2 : Rk wz.drew w.heap.size b := hz
    have hy2 : Rk wz.drew (w.heap.size + 1) ⟨0, 0, 0, 0⟩ := hy
    have HBL : Hid (Below w.heap.size w wz.drew) := hbl.drew
    clear c0 c1 c2 c3 e0 e1 hz hy hbl
    obtain ⟨w2, hw2⟩ : ∃ z, wz.drew = z := ⟨_, rfl⟩
    rw [hw2] at hz2 hy2 HBL ⊢
    clear hw2
    obtain ⟨g, hg⟩ : ∃ g, w.heap.size = g := ⟨_, rfl⟩
    rw [hg] at hz2 hy2 HBL ⊢
    have HG := Lib.hid hg
    have c0 := hz2.c0
    have c1 := hz2.c1
    have c2 := hz2.c2
    have c3 := hz2.c3
    have f2 := hz2.frozen 2
    have f3 := hz2.frozen 3
    have y0 := hy2.c0
    have y1 := hy2.c1
    have y2 := hy2.c2
    have y3 := hy2.c3
    have z0 := hy2.frozen 0
    have z1 := hy2.frozen 1
    have z2 := hy2.frozen 2
    have z3 := hy2.frozen 3
    clear hg hz2 hy2 HZ HCM HPL
    go_wp2_with fail
    refine bodyPost_ret (v := .agg #[.int .u64 b.r, .int .u64 b.B, .int .u64 t, .int .u64 k]) (by simp [results, Try.results60, go_sem, y0, y1, y2, y3]) rfl ?_
    have hg := HG.out
    refine ⟨rfl, ?_⟩
    rw [hg]
    exact (((((HBL.out.setCell (p := ⟨g, 3, none⟩) (Nat.le_refl _) _).setCell (p := ⟨g, 2, none⟩) (Nat.le_refl _) _).setCell (p := ⟨g + 1, 0, none⟩) (Nat.le_succ _) _).setCell (p := ⟨g + 1, 1, none⟩) (Nat.le_succ _) _).setCell (p := ⟨g + 1, 2, none⟩) (Nat.le_succ _) _).setCell (p := ⟨g + 1, 3, none⟩) (Nat.le_succ _) _

set_option maxRecDepth 100000 in
set_option maxHeartbeats 4000000 in
theorem rTake_any (b : Bu) (t n : Int) (w : World) (hb : b.ok) (h0 : 0 ≤ t) (h1 : t ≤ 18446744073709551615) (n0 : 0 ≤ n) :
    Calls Try.prog 49 #[.agg b.cs.toArray, .int .u64 t, .int .u64 n] w (Gives w (.tuple #[.agg (b.took t n).cs.toArray, .bool (decide (n ≤ (b.fill t).K))])) := by
  have hcs : b.cs.toArray = #[.int .u64 b.r, .int .u64 b.B, .int .u64 b.T, .int .u64 b.K] := rfl
  have HF := Lib.hid (rFill_any b t)
  have hok := hb.fill h1
  have htk : b.took t n = if n ≤ (b.fill t).K then { b.fill t with K := (b.fill t).K - n } else b.fill t := rfl
  have HOK := Lib.hid hb
  have HZ := Lib.hid (rk_two w b)
  obtain ⟨f, hf⟩ : ∃ f, b.fill t = f := ⟨_, rfl⟩
  rw [hf] at HF hok htk ⊢
  have hfs : f.cs.toArray = #[.int .u64 f.r, .int .u64 f.B, .int .u64 f.T, .int .u64 f.K] := rfl
  rw [hcs] at HF ⊢
  rw [hfs] at HF
  rw [htk]
  have K0 := hok.K0
  have KB := hok.KB
  have B1 := hok.B1
  clear hcs hb hok htk hf hfs
  by_cases hlt : f.K < n
  · rw [if_neg (show ¬ n ≤ f.K by omega), decide_eq_false (show ¬ n ≤ f.K by omega)]
    go_enter Try.func49, Try.ntmps49
    go_wp2_with fail
    refine (HF.out _ HOK.out h0 h1).mono ?_
    obtain ⟨wz, hwz⟩ : ∃ z, (w.alloc (.cells #[.int .u64 b.r, .int .u64 b.B, .int .u64 b.T, .int .u64 b.K] 101)).alloc (.cells #[.int .u64 0, .int .u64 0, .int .u64 0, .int .u64 0] 101) = z := ⟨_, rfl⟩
    obtain ⟨hz, hy, hbl⟩ := HZ.out wz hwz
    rw [hwz]
    rintro e w2 ⟨rfl, hb2⟩
    have hz2 := hz.below hb2
    have hy2 := hy.below hb2
    have HBL := Lib.hid (hbl.trans (hb2.mono hbl.size))
    clear hwz hz hy hbl hb2 HZ HF HOK
    obtain ⟨g, hg⟩ : ∃ g, w.heap.size = g := ⟨_, rfl⟩
    rw [hg] at hz2 hy2 HBL ⊢
    have HG := Lib.hid hg
    have HZ2 := Lib.hid hz2
    have HY2 := Lib.hid hy2
    have HSZ : Hid (g ≤ w2.heap.size) := by have := HBL.out.size; show g ≤ _; omega
    clear hg hz2 hy2
    go_wp2_with (first
      | (refine stB (.tmp 3) (.tmp 10) rfl rfl g f _ rfl rfl HZ2.out ?_; intro w3 hr3 hk3; have HY3 := Lib.hid (HY2.out.keep hk3 (Nat.succ_ne_self g)); have HB3 := Lib.hid (HBL.out.trans (hk3.below HSZ.out (fun k e => Nat.le_of_eq e.symm))); have HSZ3 := Lib.hid (Nat.le_trans HSZ.out hk3.size); have c0 := hr3.c0; have c1 := hr3.c1; have c2 := hr3.c2; have c3 := hr3.c3; have f3 := hr3.frozen 3; clear hk3 HZ2 HY2 HBL)
      | (refine stB (.tmp 6) (.tmp 15) rfl rfl (g + 1) f _ rfl rfl HY3.out ?_; intro w4 hr4 hk4; have HB4 := Lib.hid (HB3.out.trans (hk4.below HSZ3.out (fun k e => Nat.le_trans (Nat.le_succ g) (Nat.le_of_eq e.symm)))); clear hk4 HY3 HB3))
    have q0 := hr4.c0
    have q1 := hr4.c1
    have q2 := hr4.c2
    have q3 := hr4.c3
    refine bodyPost_ret (v := .tuple #[.agg #[.int .u64 f.r, .int .u64 f.B, .int .u64 f.T, .int .u64 f.K], .bool false]) (by simp [results, Try.results49, go_sem, q0, q1, q2, q3]) rfl ?_
    refine ⟨rfl, ?_⟩
    rw [HG.out]
    exact HB4.out
  · rw [if_pos (show n ≤ f.K by omega), decide_eq_true (show n ≤ f.K by omega)]
    have e1 : IntKind.u64.wrap (f.K - n) = f.K - n := by rw [IntKind.wrap_u64]; omega
    go_enter Try.func49, Try.ntmps49
    go_wp2_with fail
    refine (HF.out _ HOK.out h0 h1).mono ?_
    obtain ⟨wz, hwz⟩ : ∃ z, (w.alloc (.cells #[.int .u64 b.r, .int .u64 b.B, .int .u64 b.T, .int .u64 b.K] 101)).alloc (.cells #[.int .u64 0, .int .u64 0, .int .u64 0, .int .u64 0] 101) = z := ⟨_, rfl⟩
    obtain ⟨hz, hy, hbl⟩ := HZ.out wz hwz
    rw [hwz]
    rintro e w2 ⟨rfl, hb2⟩
    have hz2 := hz.below hb2
    have hy2 := hy.below hb2
    have HBL := Lib.hid (hbl.trans (hb2.mono hbl.size))
    clear hwz hz hy hbl hb2 HZ HF HOK
    obtain ⟨g, hg⟩ : ∃ g, w.heap.size = g := ⟨_, rfl⟩
    rw [hg] at hz2 hy2 HBL ⊢
    have HG := Lib.hid hg
    have HZ2 := Lib.hid hz2
    have HY2 := Lib.hid hy2
    have HSZ : Hid (g ≤ w2.heap.size) := by have := HBL.out.size; show g ≤ _; omega
    clear hg hz2 hy2
    go_wp2_with (first
      | (refine stB (.tmp 3) (.tmp 10) rfl rfl g f _ rfl rfl HZ2.out ?_; intro w3 hr3 hk3; have HY3 := Lib.hid (HY2.out.keep hk3 (Nat.succ_ne_self g)); have HB3 := Lib.hid (HBL.out.trans (hk3.below HSZ.out (fun k e => Nat.le_of_eq e.symm))); have HSZ3 := Lib.hid (Nat.le_trans HSZ.out hk3.size); have c0 := hr3.c0; have c1 := hr3.c1; have c2 := hr3.c2; have c3 := hr3.c3; have f3 := hr3.frozen 3; clear hk3 HZ2 HY2 HBL)
      | (refine stB (.tmp 6) (.tmp 21) rfl rfl (g + 1) { f with K := f.K - n } _ rfl rfl (HY3.out.keep (Kept.setCell (S := fun x => x = g) w3 ⟨g, 3, none⟩ (.int .u64 (f.K - n)) rfl) (Nat.succ_ne_self g)) ?_; intro w4 hr4 hk4; have HB4 := Lib.hid ((HB3.out.setCell (p := ⟨g, 3, none⟩) (Nat.le_refl _) _).trans (hk4.below (by simpa [World.setCell] using HSZ3.out) (fun k e => Nat.le_trans (Nat.le_succ g) (Nat.le_of_eq e.symm)))); clear hk4 HY3 HB3))
    have q0 := hr4.c0
    have q1 := hr4.c1
    have q2 := hr4.c2
    have q3 := hr4.c3
    refine bodyPost_ret (v := .tuple #[.agg #[.int .u64 f.r, .int .u64 f.B, .int .u64 f.T, .int .u64 (f.K - n)], .bool true]) (by simp [results, Try.results49, go_sem, q0, q1, q2, q3]) rfl ?_
    refine ⟨rfl, ?_⟩
    rw [HG.out]
    exact HB4.out

theorem drewN_below {B : Nat} (w : World) (m : Nat) : Below B w (w.drewN m) := ⟨rfl, rfl, rfl, Nat.le_refl _, fun _ _ => rfl⟩
theorem wait_ceil {m r : Int} (hr : 0 < r) : (0 < m % r ∧ (m - 1) / r = m / r) ∨ (m % r = 0 ∧ (m - 1) / r + 1 = m / r) := by
  have h1 := Int.emod_add_mul_ediv m r
  have h2 := Int.emod_nonneg m (show r ≠ 0 by omega)
  have h3 := Int.emod_lt_of_pos m hr
  rcases Int.le_iff_lt_or_eq.1 h2 with h | h
  · refine .inl ⟨h, ?_⟩
    rw [Int.ediv_eq_iff_of_pos hr]
    rw [Int.mul_comm]
    omega
  · refine .inr ⟨h.symm, ?_⟩
    have e : (m - 1) / r = m / r - 1 := by
      rw [Int.ediv_eq_iff_of_pos hr, Int.mul_comm, Int.mul_sub, Int.mul_one]
      omega
    omega

set_option maxRecDepth 100000 in
set_option maxHeartbeats 4000000 in
theorem rWhen_any (b : Bu) (n : Int) (w : World) (hb : b.ok) (n0 : 0 ≤ n) (n1 : n ≤ 18446744073709551615) :
    Calls Try.prog 72 #[.agg b.cs.toArray, .int .u64 n] w (Gives w (.tuple #[.int .u64 (whV b n), .bool (whB b n)])) := by
  have hcs : b.cs.toArray = #[.int .u64 b.r, .int .u64 b.B, .int .u64 b.T, .int .u64 b.K] := rfl
  rw [hcs]
  have r0 := hb.r0
  have r1 := hb.r1
  have T0 := hb.T0
  have T1 := hb.T1
  have K0 := hb.K0
  have KB := hb.KB
  have B1 := hb.B1
  have HW : Hid (whB b n = (decide (n ≤ b.K) || (decide (n ≤ b.B) && (decide (b.r ≠ 0) && decide (wtN b.r (n - b.K) ≤ 18446744073709551615 - b.T))))) := rfl
  have HV : Hid (whV b n = if whB b n = true then (if n ≤ b.K then b.T else b.T + wtN b.r (n - b.K)) else 0) := rfl
  have HBL : Hid (Below w.heap.size w (w.alloc (.cells #[.int .u64 b.r, .int .u64 b.B, .int .u64 b.T, .int .u64 b.K] 101))) := (Below.refl _ _).alloc (Nat.le_refl _) _
  clear hb hcs
  by_cases hK : n ≤ b.K
  · have hW : whB b n = true := by rw [HW.out, decide_eq_true hK]; rfl
    have hV : whV b n = b.T := by rw [HV.out, hW, if_pos rfl, if_pos hK]
    rw [hW, hV]
    clear HW HV hW hV
    go_enter Try.func72, Try.ntmps72
    go_wp2_with fail
    go_ret2
    exact ⟨rfl, HBL.out⟩
  by_cases hB : b.B < n
  · have hW : whB b n = false := by rw [HW.out, decide_eq_false hK, decide_eq_false (show ¬ n ≤ b.B by omega)]; rfl
    have hV : whV b n = 0 := by rw [HV.out, hW]; rfl
    rw [hW, hV]
    clear HW HV hW hV
    go_enter Try.func72, Try.ntmps72
    go_wp2_with fail
    go_ret2
    exact ⟨rfl, HBL.out⟩
  by_cases hr : b.r = 0
  · have hW : whB b n = false := by rw [HW.out, decide_eq_false hK, decide_eq_true (show n ≤ b.B by omega), decide_eq_false (show ¬ b.r ≠ 0 by omega)]; rfl
    have hV : whV b n = 0 := by rw [HV.out, hW]; rfl
    have hr2 : (b.r == 0) = true := by simp [hr]
    rw [hW, hV]
    clear HW HV hW hV hr
    go_enter Try.func72, Try.ntmps72
    go_wp2_with fail
    go_ret2
    exact ⟨rfl, HBL.out⟩
  have hr2 : (b.r == 0) = false := by simp [hr]
  obtain ⟨m, hm⟩ : ∃ m, n - b.K = m := ⟨_, rfl⟩
  have m0 : 0 < m ∧ m ≤ 18446744073709551615 := by omega
  have hc := wait_ceil (m := m) (r := b.r) (by omega)
  obtain ⟨q, hq⟩ : ∃ q, m / b.r = q := ⟨_, rfl⟩
  obtain ⟨x, hx⟩ : ∃ x, m % b.r = x := ⟨_, rfl⟩
  have q0 : 0 ≤ q := by rw [← hq]; exact Int.ediv_nonneg (by omega) r0
  have q1 : q ≤ m := by rw [← hq]; exact Int.ediv_le_self _ (by omega)
  have q2 : (m - 1) / b.r ≤ m - 1 := Int.ediv_le_self _ (by omega)
  have x0 : 0 ≤ x := by rw [← hx]; exact Int.emod_nonneg _ hr
  have hx1 : x < b.r := by rw [← hx]; exact Int.emod_lt_of_pos _ (by omega)
  rw [hm] at HW HV
  rw [hx, hq] at hc
  have e1 : IntKind.u64.wrap (n - b.K) = m := by rw [IntKind.wrap_u64]; omega
  have e2 : m.tdiv b.r = q := by rw [Int.tdiv_eq_ediv_of_nonneg (by omega), hq]
  have e3 : m.tmod b.r = x := by rw [Int.tmod_eq_emod_of_nonneg (by omega), hx]
  have e4 : IntKind.u64.wrap q = q := by rw [IntKind.wrap_u64]; omega
  have HRB : Hid (n ≤ b.B) := by show n ≤ b.B; omega
  have HR0 : Hid (b.r ≠ 0) := hr
  clear hm hq hx hr
  rcases hc with ⟨hx2, hc⟩ | ⟨hx2, hc⟩
  · have hw : wtN b.r m = (q + 1) := by rw [wtN]; omega
    rw [hw] at HW HV
    have e5 : IntKind.u64.wrap (q + 1) = q + 1 := by rw [IntKind.wrap_u64]; omega
    clear hw hc
    by_cases hov : 18446744073709551615 - b.T < (q + 1)
    · have hW : whB b n = false := by rw [HW.out, decide_eq_false hK, decide_eq_false (show ¬ (q + 1) ≤ 18446744073709551615 - b.T by omega)]; simp
      have hV : whV b n = 0 := by rw [HV.out, hW]; rfl
      rw [hW, hV]
      clear HW HV hW hV
      go_enter Try.func72, Try.ntmps72
      go_wp2_with fail
      go_quiet ((go_at_call 79; exact Calls.quiet_of_same (most_any _)))
      go_wp2_with fail
      go_ret2
      exact ⟨rfl, HBL.out.trans (drewN_below _ _)⟩
    · have hW : whB b n = true := by rw [HW.out, decide_eq_false hK, decide_eq_true HRB.out, decide_eq_true HR0.out, decide_eq_true (show (q + 1) ≤ 18446744073709551615 - b.T by omega)]; rfl
      have hV : whV b n = b.T + (q + 1) := by rw [HV.out, hW, if_pos rfl, if_neg hK]
      rw [hW, hV]
      clear HW HV hW hV
      have e6 : IntKind.u64.wrap (b.T + (q + 1)) = b.T + (q + 1) := by rw [IntKind.wrap_u64]; omega
      go_enter Try.func72, Try.ntmps72
      go_wp2_with fail
      go_quiet ((go_at_call 79; exact Calls.quiet_of_same (most_any _)))
      go_wp2_with fail
      go_ret2
      exact ⟨rfl, HBL.out.trans (drewN_below _ _)⟩
  · have hw : wtN b.r m = q := by rw [wtN]; omega
    rw [hw] at HW HV
    subst hx2
    clear hw hc
    by_cases hov : 18446744073709551615 - b.T < q
    · have hW : whB b n = false := by rw [HW.out, decide_eq_false hK, decide_eq_false (show ¬ q ≤ 18446744073709551615 - b.T by omega)]; simp
      have hV : whV b n = 0 := by rw [HV.out, hW]; rfl
      rw [hW, hV]
      clear HW HV hW hV
      go_enter Try.func72, Try.ntmps72
      go_wp2_with fail
      go_quiet ((go_at_call 79; exact Calls.quiet_of_same (most_any _)))
      go_wp2_with fail
      go_ret2
      exact ⟨rfl, HBL.out.trans (drewN_below _ _)⟩
    · have hW : whB b n = true := by rw [HW.out, decide_eq_false hK, decide_eq_true HRB.out, decide_eq_true HR0.out, decide_eq_true (show q ≤ 18446744073709551615 - b.T by omega)]; rfl
      have hV : whV b n = b.T + q := by rw [HV.out, hW, if_pos rfl, if_neg hK]
      rw [hW, hV]
      clear HW HV hW hV
      have e6 : IntKind.u64.wrap (b.T + q) = b.T + q := by rw [IntKind.wrap_u64]; omega
      go_enter Try.func72, Try.ntmps72
      go_wp2_with fail
      go_quiet ((go_at_call 79; exact Calls.quiet_of_same (most_any _)))
      go_wp2_with fail
      go_ret2
      exact ⟨rfl, HBL.out.trans (drewN_below _ _)⟩
end Go.Proofs.Ytpigpeehhadkjaa.Bkt

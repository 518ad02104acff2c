/-
  A bucket's numbers and where they lie; the contracts of Mul64 and of what a bucket calls of its own (comes, setTick, fill), and of New, Tick, Copy. Conditions: numbers that fit their Go types, no more tokens than the burst.
-/
import Derived.Test.YtpigpeehhadkjaaBase
import Derived.Lib.Mul64
import Derived.Laws.Bits64b
import Derived.Defers
import Derived.StillTailTactics
namespace Go.Proofs.Ytpigpeehhadkjaa.Bkt
open Go.RowKit

namespace Mul64
theorem maskN (a : Nat) (ha : a < 18446744073709551616) : bits .and .u64 (a : Int) 4294967295 = ((a % 4294967296 : Nat) : Int) := by
  have h := bits_and_u64_nat a 4294967295 ha (by omega)
  have e : a &&& 4294967295 = a % 4294967296 := Nat.and_two_pow_sub_one_eq_mod a 32
  rw [e] at h
  exact h
theorem divN (a : Nat) : (a : Int) / 4294967296 = ((a / 4294967296 : Nat) : Int) := by omega
theorem mulN (a b : Nat) : (a : Int) * (b : Int) = ((a * b : Nat) : Int) := (Int.natCast_mul a b).symm
theorem addN (a b : Nat) : (a : Int) + (b : Int) = ((a + b : Nat) : Int) := (Int.natCast_add a b).symm
theorem wrapN (a : Nat) (ha : a < 18446744073709551616) : IntKind.u64.wrap (a : Int) = (a : Int) := by rw [IntKind.wrap_u64]; omega
theorem wrapM (a : Nat) : IntKind.u64.wrap (a : Int) = ((a % 18446744073709551616 : Nat) : Int) := by rw [IntKind.wrap_u64]; omega
end Mul64
set_option maxHeartbeats 1000000 in
theorem mul64_nat (x y : Nat) (hx : x < 18446744073709551616) (hy : y < 18446744073709551616) (w : World) :
    Calls Try.prog 81 #[.int .u64 x, .int .u64 y] w fun e w' => e = .returned (.tuple #[.int .u64 ((x * y / 18446744073709551616 : Nat) : Int), .int .u64 ((x * y % 18446744073709551616 : Nat) : Int)]) ∧ w' = w := by
  obtain ⟨bd, bt, bw, hhi⟩ := Lib.mul64_hi x y hx hy
  have ba := Lib.half_mul_le (a := x / 4294967296) (b := y / 4294967296) (by omega) (by omega)
  have bb := Lib.half_mul_le (a := x / 4294967296) (b := y % 4294967296) (by omega) (by omega)
  have bc := Lib.half_mul_le (a := x % 4294967296) (b := y / 4294967296) (by omega) (by omega)
  have ba' : x / 4294967296 * (y / 4294967296) < 18446744073709551616 := by omega
  have bb' : x / 4294967296 * (y % 4294967296) < 18446744073709551616 := by omega
  have bc' : x % 4294967296 * (y / 4294967296) < 18446744073709551616 := by omega
  have bh1 : x / 4294967296 * (y / 4294967296) + (x / 4294967296 * (y % 4294967296) + x % 4294967296 * (y % 4294967296) / 4294967296) / 4294967296 < 18446744073709551616 := by omega
  have bh : x / 4294967296 * (y / 4294967296) + (x / 4294967296 * (y % 4294967296) + x % 4294967296 * (y % 4294967296) / 4294967296) / 4294967296 + ((x / 4294967296 * (y % 4294967296) + x % 4294967296 * (y % 4294967296) / 4294967296) % 4294967296 + x % 4294967296 * (y / 4294967296)) / 4294967296 < 18446744073709551616 := by omega
  go_enter Try.func81, Try.ntmps81
  go_wp2
  simp only [Mul64.maskN x hx, Mul64.maskN y hy, Mul64.divN, Mul64.mulN, Mul64.addN, Mul64.wrapN _ bd, Mul64.wrapN _ bb', Mul64.wrapN _ bt, Mul64.maskN _ bt, Mul64.wrapN _ bc', Mul64.wrapN _ bw, Mul64.wrapN _ ba', Mul64.wrapN _ bh1, Mul64.wrapN _ bh, Mul64.wrapM (x * y)]
  rw [hhi]
  go_ret2
  exact ⟨rfl, rfl⟩

theorem mul64_any (x y : Int) (hx : 0 ≤ x) (hx1 : x ≤ 18446744073709551615) (hy : 0 ≤ y) (hy1 : y ≤ 18446744073709551615) (w : World) :
    Calls Try.prog 81 #[.int .u64 x, .int .u64 y] w fun e w' => e = .returned (.tuple #[.int .u64 (x * y / 18446744073709551616), .int .u64 (x * y % 18446744073709551616)]) ∧ w' = w := by
  obtain ⟨n, rfl⟩ := Int.eq_ofNat_of_zero_le hx
  obtain ⟨m, rfl⟩ := Int.eq_ofNat_of_zero_le hy
  refine (mul64_nat n m (by omega) (by omega) w).mono ?_
  rintro e w' ⟨rfl, rfl⟩
  exact ⟨by rw [Int.natCast_ediv, Int.natCast_emod, Int.natCast_mul]; rfl, rfl⟩

/-- A bucket's numbers: rate, burst, tick, tokens. -/
structure Bu where
  r : Int
  B : Int
  T : Int
  K : Int
def Bu.cs (b : Bu) : List Value := [.int .u64 b.r, .int .u64 b.B, .int .u64 b.T, .int .u64 b.K]
structure Bu.ok (b : Bu) : Prop where
  r0 : 0 ≤ b.r
  r1 : b.r ≤ 18446744073709551615
  B1 : b.B ≤ 18446744073709551615
  T0 : 0 ≤ b.T
  T1 : b.T ≤ 18446744073709551615
  K0 : 0 ≤ b.K
  KB : b.K ≤ b.B
/-- A bucket lies there. -/
def Bk (w : World) (g : Nat) (b : Bu) : Prop := b.ok ∧ w.heap[g]? = some (.cells b.cs.toArray 124 (0, 0))
/-- What comes in so many ticks. -/
def cmV (r d : Int) : Int := if 18446744073709551616 ≤ r * d then 18446744073709551615 else r * d
/-- Filled up to a tick. -/
def Bu.fill (b : Bu) (t : Int) : Bu := if t ≤ b.T then b else ⟨b.r, b.B, t, min b.B (b.K + b.r * (t - b.T))⟩
theorem cmV_fit {r d : Int} (hr : 0 ≤ r) (hd : 0 ≤ d) : 0 ≤ cmV r d ∧ cmV r d ≤ 18446744073709551615 := by
  have h := Int.mul_nonneg hr hd
  unfold cmV
  split <;> omega
theorem fill_some {b : Bu} (h : b.ok) {t : Int} (ht : b.T < t) : b.K + min (cmV b.r (t - b.T)) (b.B - b.K) = min b.B (b.K + b.r * (t - b.T)) := by
  have h0 := Int.mul_nonneg h.r0 (show 0 ≤ t - b.T by omega)
  have h1 := h.K0
  have h2 := h.KB
  have h3 := h.B1
  unfold cmV
  generalize b.r * (t - b.T) = p at *
  split <;> omega
theorem Bu.ok.fill {b : Bu} (h : b.ok) {t : Int} (h1 : t ≤ 18446744073709551615) : (b.fill t).ok := by
  unfold Bu.fill
  split
  · exact h
  · rename_i ht
    have h0 := Int.mul_nonneg h.r0 (show 0 ≤ t - b.T by omega)
    have h2 := h.K0
    have h3 := h.KB
    have h4 := h.T0
    exact ⟨h.r0, h.r1, h.B1, by show 0 ≤ t; omega, h1, by show 0 ≤ min b.B (b.K + b.r * (t - b.T)); omega, by show min b.B (b.K + b.r * (t - b.T)) ≤ b.B; omega⟩
section
variable {w w' : World} {g : Nat} {b : Bu}
theorem Bk.c0 (h : Bk w g b) : w.cell? ⟨g, 0, none⟩ = some (.int .u64 b.r) := by rw [cell_of_row w g 0 _ _ (0, 0) h.2]; rfl
theorem Bk.c1 (h : Bk w g b) : w.cell? ⟨g, 1, none⟩ = some (.int .u64 b.B) := by rw [cell_of_row w g 1 _ _ (0, 0) h.2]; rfl
theorem Bk.c2 (h : Bk w g b) : w.cell? ⟨g, 2, none⟩ = some (.int .u64 b.T) := by rw [cell_of_row w g 2 _ _ (0, 0) h.2]; rfl
theorem Bk.c3 (h : Bk w g b) : w.cell? ⟨g, 3, none⟩ = some (.int .u64 b.K) := by rw [cell_of_row w g 3 _ _ (0, 0) h.2]; rfl
theorem Bk.frozen (h : Bk w g b) (j : Nat) : w.frozen? ⟨g, j, none⟩ = false := frozen_of_row w g j _ _ h.2
theorem Bk.lt (h : Bk w g b) : g < w.heap.size := (Array.getElem?_eq_some_iff.1 h.2).1
theorem Bk.keep {S : Nat → Prop} (h : Bk w g b) (k : Kept S w w') (hs : ¬ S g) : Bk w' g b := ⟨h.1, k.heap h.2 hs⟩
theorem Bk.drew (h : Bk w g b) : Bk w.drew g b := h
theorem Bk.tick (h : Bk w g b) {t : Int} (h0 : 0 ≤ t) (h1 : t ≤ 18446744073709551615) : Bk (w.setCell ⟨g, 2, none⟩ (.int .u64 t)) g { b with T := t } :=
  ⟨⟨h.1.r0, h.1.r1, h.1.B1, h0, h1, h.1.K0, h.1.KB⟩, by rw [heap_setCell_same w g 2 _ _ _ h.2]; rfl⟩
theorem Bk.tokens (h : Bk w g b) {k : Int} (h0 : 0 ≤ k) (h1 : k ≤ b.B) : Bk (w.setCell ⟨g, 3, none⟩ (.int .u64 k)) g { b with K := k } :=
  ⟨⟨h.1.r0, h.1.r1, h.1.B1, h.1.T0, h.1.T1, h0, h1⟩, by rw [heap_setCell_same w g 3 _ _ _ h.2]; rfl⟩
end

theorem comes_any (g : Nat) (b : Bu) (d : Int) (w : World) (hb : Bk w g b) (h0 : 0 ≤ d) (h1 : d ≤ 18446744073709551615) :
    Calls Try.prog 78 #[.pointer (some ⟨g, 0, none⟩), .int .u64 d] w fun e w' => e = .returned (.int .u64 (cmV b.r d)) ∧ w' = w := by
  have hc := hb.c0
  have hr0 := hb.1.r0
  have hr1 := hb.1.r1
  have HM := Lib.hid (Int.mul_nonneg hr0 h0)
  have HV : Hid (cmV b.r d = if 18446744073709551616 ≤ b.r * d then 18446744073709551615 else b.r * d) := rfl
  clear hb
  go_enter Try.func78, Try.ntmps78
  go_wp2_with fail
  refine (mul64_any _ _ hr0 hr1 h0 h1 _).mono ?_
  rintro e w' ⟨rfl, rfl⟩
  obtain ⟨p, hp⟩ : ∃ p, b.r * d = p := ⟨_, rfl⟩
  rw [hp] at HM HV ⊢
  clear hp
  by_cases hq : 0 < p / 18446744073709551616
  · go_wp2_with fail
    go_ret
    have := HM.out
    exact ⟨by rw [HV.out, if_pos (by omega)]; rfl, rfl⟩
  · go_wp2_with fail
    go_ret
    have := HM.out
    have he : p % 18446744073709551616 = p := by omega
    exact ⟨by rw [HV.out, if_neg (by omega)]; exact congrArg (fun z => Ending.returned (.int .u64 z)) he, rfl⟩

theorem setTick_deferred (g : Nat) (t : Int) (u : FrameMode) (b : Bu) (w : World) (hb : Bk w g b) (h0 : 0 ≤ t) (h1 : t ≤ 18446744073709551615) :
    CallsD Try.prog 80 #[.pointer (some ⟨g, 0, none⟩), .int .u64 t] u w fun e u' w' => u' = u ∧ (e = .returned (.tuple #[]) ∧ Bk w' g { b with T := t } ∧ Kept (fun x => x = g) w w') := by
  have hc := hb.c2
  have hf := hb.frozen 2
  have HB := Lib.hid (hb.tick h0 h1)
  clear hb
  go_enter_d Try.func80, Try.ntmps80
  go_wp2_with fail
  go_end0
  exact ⟨rfl, HB.out, Kept.setCell _ _ _ rfl⟩

set_option maxRecDepth 100000 in
set_option maxHeartbeats 2000000 in
theorem fill_any (g : Nat) (t : Int) (b : Bu) (w : World) (hb : Bk w g b) (h0 : 0 ≤ t) (h1 : t ≤ 18446744073709551615) :
    Calls Try.prog 77 #[.pointer (some ⟨g, 0, none⟩), .int .u64 t, .func (.func 78) #[.pointer (some ⟨g, 0, none⟩)] #[]] w
      fun e w' => e = .returned (.tuple #[]) ∧ Bk w' g (b.fill t) ∧ Kept (fun x => x = g) w w' := by
  have c0 := hb.c0
  have c1 := hb.c1
  have c2 := hb.c2
  have c3 := hb.c3
  have f3 := hb.frozen 3
  have hT0 := hb.1.T0
  have hT1 := hb.1.T1
  have hK0 := hb.1.K0
  have hKB := hb.1.KB
  have hB1 := hb.1.B1
  have HB := Lib.hid hb
  by_cases ht : t ≤ b.T
  · have HF : Hid (b.fill t = b) := by show _ = _; rw [Bu.fill, if_pos ht]
    clear hb
    go_enter_defers Try.func77, Try.ntmps77
    go_wp2_with fail
    exact ⟨_, results_none rfl _ _ _, rfl, by rw [HF.out]; exact HB.out, Kept.refl _ _⟩
  · have HF : Hid (b.fill t = ⟨b.r, b.B, t, b.K + min (cmV b.r (t - b.T)) (b.B - b.K)⟩) := by show _ = _; rw [Bu.fill, if_neg ht, fill_some hb.1 (by omega)]
    obtain ⟨v0, v1⟩ := cmV_fit hb.1.r0 (show 0 ≤ t - b.T by omega)
    have hC := comes_any g b (t - b.T) w.drew hb.drew (by omega) (by omega)
    obtain ⟨v, hv⟩ : ∃ v, cmV b.r (t - b.T) = v := ⟨_, rfl⟩
    rw [hv] at v0 v1 hC HF
    clear hb hv
    go_enter_defers Try.func77, Try.ntmps77
    go_wp2_with fail
    have e1 : IntKind.u64.wrap (t - b.T) = t - b.T := by rw [IntKind.wrap_u64]; omega
    have e2 : IntKind.u64.wrap (b.B - b.K) = b.B - b.K := by rw [IntKind.wrap_u64]; omega
    go_still_tail 25, (by kernel_rfl)
    still_call hC
    repeat still_step
    apply wpStill_nil
    have e0 : (if b.B - b.K < v then b.B - b.K else v) = min v (b.B - b.K) := by
      rw [Int.min_def]
      split <;> (try split) <;> omega
    have m0 : 0 ≤ min v (b.B - b.K) ∧ min v (b.B - b.K) ≤ b.B - b.K := by omega
    rw [e0]
    obtain ⟨m, hm⟩ : ∃ m, min v (b.B - b.K) = m := ⟨_, rfl⟩
    rw [hm] at HF m0 ⊢
    have e3 : IntKind.u64.wrap (b.K + m) = b.K + m := by rw [IntKind.wrap_u64]; omega
    have z0 : 0 ≤ b.K + m ∧ b.K + m ≤ b.B := by omega
    rw [e3]
    refine @id (wpList _ _ _ _ _ w.drew) ?_
    have HW : Hid (Bk w.drew g b ∧ Kept (fun x => x = g) w w.drew) := ⟨HB.out.drew, (Kept.refl _ _).drew⟩
    clear c0 c1 c2 c3 f3 hC e0 e1 e2 e3 hm
    obtain ⟨w2, hw2⟩ : ∃ w2, w.drew = w2 := ⟨_, rfl⟩
    obtain ⟨z, hz⟩ : ∃ z, b.K + m = z := ⟨_, rfl⟩
    rw [hw2] at HW ⊢
    rw [hz] at HF z0 ⊢
    have c3 := HW.out.1.c3
    have f3 := HW.out.1.frozen 3
    clear hw2 hz
    go_wp2_with fail
    refine leaves_cons (f := 80) (args := #[.pointer (some ⟨g, 0, none⟩), .int .u64 t]) (by simp) (by simp [go_sem]) ?_
    have HB3 := HW.out.1.tokens z0.1 z0.2
    refine (setTick_deferred g t .returning _ _ HB3 h0 h1).mono ?_
    rintro e u' w3 ⟨rfl, rfl, hb3, hk3⟩
    exact ⟨_, results_none rfl _ _ _, rfl, by rw [HF.out]; exact hb3, (HW.out.2.trans (Kept.setCell (S := fun x => x = g) _ ⟨g, 3, none⟩ _ rfl) (fun _ _ h => h)).trans hk3 (fun _ _ h => h)⟩
end Go.Proofs.Ytpigpeehhadkjaa.Bkt

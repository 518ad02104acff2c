/-
  The contracts of a bucket's New, Copy, Tick, Level, Take, When, and of a bucket that is not there. Conditions: numbers that fit their Go types, no more tokens than the burst.
-/
import Derived.Test.YtpigpeehhadkjaaSbLeaf
namespace Go.Proofs.Ytpigpeehhadkjaa.Bkt
open Go.RowKit

/-- A new bucket. -/
def NewB (w : World) (b : Bu) (e : Ending) (w' : World) : Prop := ∃ g, e = .returned (.pointer (some ⟨g, 0, none⟩)) ∧ w.heap.size ≤ g ∧ Bk w' g b ∧ Below w.heap.size w w'
theorem bk_new (w : World) (b : Bu) (h : b.ok) : Bk (w.alloc (.cells b.cs.toArray 124)) w.heap.size b := ⟨h, Blk_new _ _ _⟩

set_option maxRecDepth 100000 in
set_option maxHeartbeats 2000000 in
theorem new_any (r B T : Int) (w : World) (h : Bu.ok ⟨r, B, T, B⟩) : Calls Try.prog 27 #[.int .u64 r, .int .u64 B, .int .u64 T] w (NewB w ⟨r, B, T, B⟩) := by
  have HN := Lib.hid (bk_new w _ h)
  clear h
  go_enter Try.func27, Try.ntmps27
  go_wp2_with fail
  go_ret
  exact ⟨_, rfl, Nat.le_refl _, HN.out, (Below.refl _ _).alloc (Nat.le_refl _) _⟩

/-- What a call does to a bucket, and what it answers. -/
def Does (w : World) (g : Nat) (b : Bu) (v : Value) (e : Ending) (w' : World) : Prop := e = .returned v ∧ Bk w' g b ∧ Kept (fun x => x = g) w w'

set_option maxRecDepth 100000 in
set_option maxHeartbeats 2000000 in
theorem level_any (g : Nat) (t : Int) (b : Bu) (w : World) (hb : Bk w g b) (h0 : 0 ≤ t) (h1 : t ≤ 18446744073709551615) :
    Calls Try.prog 70 #[.pointer (some ⟨g, 0, none⟩), .int .u64 t] w (Does w g (b.fill t) (.int .u64 (b.fill t).K)) := by
  have HB := Lib.hid hb
  have hmf : ∀ (fn : Fn) (first cap : Array Value) (w : World), (Instr.makeFunc fn first cap).run Try.prog w = .ok (.func fn first cap) w := fun _ _ _ _ => rfl
  clear hb
  go_enter Try.func70, Try.ntmps70
  go_wp2_with fail
  refine (fill_any g t b _ HB.out h0 h1).mono ?_
  rintro e w1 ⟨rfl, hb1, hk1⟩
  have c3 := hb1.c3
  have HR : Hid (Bk w1 g (b.fill t) ∧ Kept (fun x => x = g) w w1) := ⟨hb1, hk1⟩
  clear hb1 hk1
  go_wp2_with fail
  go_ret
  exact ⟨rfl, HR.out.1, HR.out.2⟩
theorem level_nil (t : Int) (w : World) : Calls Try.prog 70 #[.pointer none, .int .u64 t] w fun e w' => e = .returned (.int .u64 0) ∧ w' = w := by
  go_enter Try.func70, Try.ntmps70
  go_wp2_with fail
  go_ret
  exact ⟨rfl, rfl⟩

/-- Tokens taken. -/
def Bu.took (b : Bu) (t n : Int) : Bu := if n ≤ (b.fill t).K then { b.fill t with K := (b.fill t).K - n } else b.fill t
theorem Bu.ok.took {b : Bu} (h : b.ok) {t n : Int} (h1 : t ≤ 18446744073709551615) (hn : 0 ≤ n) : (b.took t n).ok := by
  have hf := h.fill h1
  unfold Bu.took
  split
  · have := hf.KB
    exact ⟨hf.r0, hf.r1, hf.B1, hf.T0, hf.T1, by show 0 ≤ (b.fill t).K - n; omega, by show (b.fill t).K - n ≤ (b.fill t).B; omega⟩
  · exact hf

set_option maxRecDepth 100000 in
set_option maxHeartbeats 2000000 in
theorem take_any (g : Nat) (t n : Int) (b : Bu) (w : World) (hb : Bk w g b) (h0 : 0 ≤ t) (h1 : t ≤ 18446744073709551615) (hn : 0 ≤ n) :
    Calls Try.prog 56 #[.pointer (some ⟨g, 0, none⟩), .int .u64 t, .int .u64 n] w (Does w g (b.took t n) (.bool (decide (n ≤ (b.fill t).K)))) := by
  have HB := Lib.hid hb
  have HT : Hid (b.took t n = if n ≤ (b.fill t).K then { b.fill t with K := (b.fill t).K - n } else b.fill t) := rfl
  have hL := level_any g t b w hb h0 h1
  obtain ⟨f, hf⟩ : ∃ f, b.fill t = f := ⟨_, rfl⟩
  rw [hf] at hL HT ⊢
  have HL := Lib.hid hL
  clear hb hL
  go_enter Try.func56, Try.ntmps56
  go_wp2_with fail
  refine HL.out.mono ?_
  rintro e w1 ⟨rfl, hb1, hk1⟩
  have c3 := hb1.c3
  have f3 := hb1.frozen 3
  have K0 := hb1.1.K0
  have KB := hb1.1.KB
  have B1 := hb1.1.B1
  have HR : Hid (Bk w1 g f ∧ Kept (fun x => x = g) w w1) := ⟨hb1, hk1⟩
  clear hb1 hk1 hf
  by_cases hlt : f.K < n
  · go_wp2_with fail
    go_ret
    exact ⟨by rw [decide_eq_false (show ¬ n ≤ f.K by omega)]; rfl, by rw [HT.out, if_neg (by omega)]; exact HR.out.1, HR.out.2⟩
  · have HS := Lib.hid (HR.out.1.tokens (k := f.K - n) (by omega) (by omega))
    go_wp2_with fail
    go_ret
    exact ⟨by rw [decide_eq_true (show n ≤ f.K by omega)]; rfl, by rw [HT.out, if_pos (by omega)]; exact HS.out, HR.out.2.trans (Kept.setCell (S := fun x => x = g) _ ⟨g, 3, none⟩ _ rfl) (fun _ _ h => h)⟩
theorem take_nil (t n : Int) (w : World) : Calls Try.prog 56 #[.pointer none, .int .u64 t, .int .u64 n] w fun e w' => e = .returned (.bool false) ∧ w' = w := by
  go_enter Try.func56, Try.ntmps56
  go_wp2_with fail
  go_ret
  exact ⟨rfl, rfl⟩

/-- How many ticks till there are so many tokens. -/
def wtN (r m : Int) : Int := (m - 1) / r + 1
/-- The first tick with so many tokens; is there one? -/
def whB (b : Bu) (n : Int) : Bool := decide (n ≤ b.K) || (decide (n ≤ b.B) && (decide (b.r ≠ 0) && decide (wtN b.r (n - b.K) ≤ 18446744073709551615 - b.T)))
def whV (b : Bu) (n : Int) : Int := if whB b n = true then (if n ≤ b.K then b.T else b.T + wtN b.r (n - b.K)) else 0
/-- An answer; the world has but drawn. -/
def Tells (w : World) (v : Value) (e : Ending) (w' : World) : Prop := e = .returned v ∧ ∃ m, w' = w.drewN m

set_option maxRecDepth 100000 in
set_option maxHeartbeats 2000000 in
theorem when_any (g : Nat) (n : Int) (b : Bu) (w : World) (hb : Bk w g b) (hn : 0 ≤ n) (hn1 : n ≤ 18446744073709551615) :
    Calls Try.prog 69 #[.pointer (some ⟨g, 0, none⟩), .int .u64 n] w (Tells w (.tuple #[.int .u64 (whV b n), .bool (whB b n)])) := by
  have c0 := hb.c0
  have c1 := hb.c1
  have c2 := hb.c2
  have c3 := hb.c3
  have r0 := hb.1.r0
  have r1 := hb.1.r1
  have T0 := hb.1.T0
  have T1 := hb.1.T1
  have K0 := hb.1.K0
  have KB := hb.1.KB
  have B1 := hb.1.B1
  have HW : Hid (whB b n = (decide (n ≤ b.K) || (decide (n ≤ b.B) && (decide (b.r ≠ 0) && decide (wtN b.r (n - b.K) ≤ 18446744073709551615 - b.T))))) := rfl
  have HV : Hid (whV b n = if whB b n = true then (if n ≤ b.K then b.T else b.T + wtN b.r (n - b.K)) else 0) := rfl
  clear hb
  by_cases hB : b.B < n
  · have hW : whB b n = false := by rw [HW.out, decide_eq_false (show ¬ n ≤ b.K by omega), decide_eq_false (show ¬ n ≤ b.B by omega)]; rfl
    have hV : whV b n = 0 := by rw [HV.out, hW]; rfl
    rw [hW, hV]
    clear HW HV hW hV
    go_enter Try.func69, Try.ntmps69
    go_wp2_with fail
    go_ret2
    exact ⟨rfl, 0, rfl⟩
  by_cases hK : n ≤ b.K
  · have hW : whB b n = true := by rw [HW.out, decide_eq_true hK]; rfl
    have hV : whV b n = b.T := by rw [HV.out, hW, if_pos rfl, if_pos hK]
    rw [hW, hV]
    clear HW HV hW hV
    go_enter Try.func69, Try.ntmps69
    go_wp2_with fail
    go_ret2
    exact ⟨rfl, 0, rfl⟩
  by_cases hr : b.r = 0
  · have hW : whB b n = false := by rw [HW.out, decide_eq_false hK, decide_eq_true (show n ≤ b.B by omega), decide_eq_false (show ¬ b.r ≠ 0 by omega)]; rfl
    have hV : whV b n = 0 := by rw [HV.out, hW]; rfl
    have hr2 : (b.r == 0) = true := by simp [hr]
    rw [hW, hV]
    clear HW HV hW hV hr
    go_enter Try.func69, Try.ntmps69
    go_wp2_with fail
    go_ret2
    exact ⟨rfl, 0, rfl⟩
  have hr2 : (b.r == 0) = false := by simp [hr]
  obtain ⟨q, hq⟩ : ∃ q, (n - b.K - 1) / b.r = q := ⟨_, rfl⟩
  have q0 : 0 ≤ q := by rw [← hq]; exact Int.ediv_nonneg (by omega) r0
  have q1 : q ≤ n - b.K - 1 := by rw [← hq]; exact Int.ediv_le_self _ (by omega)
  have hw : wtN b.r (n - b.K) = q + 1 := by rw [wtN, hq]
  have e1 : IntKind.u64.wrap (n - b.K) = n - b.K := by rw [IntKind.wrap_u64]; omega
  have e2 : IntKind.u64.wrap (n - b.K - 1) = n - b.K - 1 := by rw [IntKind.wrap_u64]; omega
  have e3 : (n - b.K - 1).tdiv b.r = q := by rw [Int.tdiv_eq_ediv_of_nonneg (by omega), hq]
  have e4 : IntKind.u64.wrap (q + 1) = q + 1 := by rw [IntKind.wrap_u64]; omega
  have e5 : IntKind.u64.wrap q = q := by rw [IntKind.wrap_u64]; omega
  rw [hw] at HW HV
  clear hw hq
  by_cases hov : 18446744073709551615 - b.T < q + 1
  · have hW : whB b n = false := by rw [HW.out, decide_eq_false hK, decide_eq_false (show ¬ q + 1 ≤ 18446744073709551615 - b.T by omega)]; simp
    have hV : whV b n = 0 := by rw [HV.out, hW]; rfl
    rw [hW, hV]
    clear HW HV hW hV
    go_enter Try.func69, Try.ntmps69
    go_wp2_with fail
    go_quiet (fail)
    go_wp2_with fail
    go_ret2
    exact ⟨rfl, _, rfl⟩
  · have hW : whB b n = true := by rw [HW.out, decide_eq_false hK, decide_eq_true (show n ≤ b.B by omega), decide_eq_true (show b.r ≠ 0 from hr), decide_eq_true (show q + 1 ≤ 18446744073709551615 - b.T by omega)]; rfl
    have hV : whV b n = b.T + (q + 1) := by rw [HV.out, hW, if_pos rfl, if_neg hK]
    rw [hW, hV]
    clear HW HV hW hV
    go_enter Try.func69, Try.ntmps69
    go_wp2_with fail
    go_quiet (fail)
    go_wp2_with fail
    go_ret2
    exact ⟨rfl, _, rfl⟩
theorem when_nil (n : Int) (w : World) : Calls Try.prog 69 #[.pointer none, .int .u64 n] w fun e w' => e = .returned (.tuple #[.int .u64 0, .bool false]) ∧ w' = w := by
  go_enter Try.func69, Try.ntmps69
  go_wp2_with fail
  go_ret2
  exact ⟨rfl, rfl⟩
end Go.Proofs.Ytpigpeehhadkjaa.Bkt

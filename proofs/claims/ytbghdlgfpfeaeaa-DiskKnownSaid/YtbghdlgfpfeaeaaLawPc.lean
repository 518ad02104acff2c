/-
  What a law's pieces are put together with; the kit's Pick. Conditions: those that the theorems name.
-/
import Derived.Test.YtbghdlgfpfeaeaaPieces
namespace Go.Proofs.Ytbghdlgfpfeaeaa
open Go.RowKit

/-- The call returns here. -/
def RetsV (fn : Func) (R : Ending → World → Prop) (e : Exit) (a : Act) (w : World) : Prop := e = .ret ∧ bodyPost Try.prog fn R .ret a w
theorem wp_endT {x : Code} {fn : Func} {R : Ending → World → Prop} {a : Act} {w : World} {Q : Exit → Act → World → Prop} (h1 : x.wp Try.prog (RetsV fn R) a w) (h2 : ∀ a' w', bodyPost Try.prog fn R .ret a' w' → Q .ret a' w') : x.wp Try.prog Q a w := by
  refine wp_mono h1 ?_
  rintro e a' w' ⟨rfl, hq⟩
  exact h2 _ _ hq
theorem wp_onT {P : Program} {c A B : Code} {Q : Exit → Act → World → Prop} {a : Act} {w : World} {i : Nat} (hc : c = .cond (.tmp i) A B) (h : sl a i = .bool true) (h1 : A.wp P Q a w) : c.wp P Q a w := by
  subst hc
  exact wp_cond_true (by rw [← h]; rfl) h1
theorem wp_onF {P : Program} {c A B : Code} {Q : Exit → Act → World → Prop} {a : Act} {w : World} {i : Nat} (hc : c = .cond (.tmp i) A B) (h : sl a i = .bool false) (h1 : B.wp P Q a w) : c.wp P Q a w := by
  subst hc
  exact wp_cond_false (by rw [← h]; rfl) h1
theorem wp_skipR {P : Program} {c : Code} {Q : Exit → Act → World → Prop} {a : Act} {w : World} (hc : c = .skip) (h : Q .normal a w) : c.wp P Q a w := by
  subst hc
  exact wp_skip h
theorem wp_sqG {P : Program} {c x y : Code} {Q : Exit → Act → World → Prop} {a : Act} {w : World} (hc : c = .seq x y) (h : x.wp P (Exit.then (y.wp P Q) Q) a w) : c.wp P Q a w := by
  subst hc
  exact wp_seq h
theorem sl_at (xs : Array Value) (m i : Nat) (v : Value) (h : xs[i]? = some v) : sl ⟨xs ++ Array.replicate m undef, []⟩ i = v := by
  have hi := (Array.getElem?_eq_some_iff.1 h).1
  simp [sl, Array.getElem?_append, hi]
  exact (Array.getElem?_eq_some_iff.1 h).2
def numOf : Value → Int
  | .int _ i => i
  | _ => 0
theorem tmod_pick (d n : Int) (hn : 0 < n) : -n < d.tmod n ∧ d.tmod n < n ∧ (d.tmod n + n) % n = d % n := by
  rcases Int.le_total 0 d with h | h
  · rw [Int.tmod_eq_emod_of_nonneg h]
    have h1 := Int.emod_nonneg d (show n ≠ 0 by omega)
    have h2 := Int.emod_lt_of_pos d hn
    refine ⟨by omega, by omega, ?_⟩
    rw [Int.add_emod_right, Int.emod_emod]
  · have h0 := Int.tmod_nonneg n (a := -d) (by omega)
    have h1 := Int.tmod_lt_of_pos (-d) hn
    rw [Int.neg_tmod] at h0 h1
    refine ⟨by omega, by omega, ?_⟩
    rw [Int.add_emod_right]
    have h3 := Int.mul_tdiv_add_tmod d n
    conv => rhs; rw [← h3]
    rw [Int.mul_add_emod_self_left]
theorem kPick_any (d n : Int) (w : World) (hn : 0 < n) (hn2 : n ≤ 4611686018427387903) : Calls Try.prog 6 #[.int .i64 d, .int .i64 n] w fun e w' => e = .returned (.int .i64 (d % n)) ∧ w = w' := by
  obtain ⟨h1, h2, h3⟩ := tmod_pick d n hn
  have HT := Lib.hid h3
  clear h3
  go_enter Try.func6, Try.ntmps6
  go_wp2_with fail
  go_ret
  exact ⟨by rw [← HT.out]; rfl, rfl⟩
end Go.Proofs.Ytbghdlgfpfeaeaa

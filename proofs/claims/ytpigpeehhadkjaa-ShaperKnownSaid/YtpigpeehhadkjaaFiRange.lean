/-
  A range over a method value: what entering it lays. No program is named here; conditions: those that the theorem names.
-/
import Derived.Test.YtpigpeehhadkjaaRange
namespace Go.Proofs.Ytpigpeehhadkjaa
open Go.RowKit Go.Shelf

theorem range_enterF {F : Fence} {P : Program} {n : Nat} {g : Operand} {ps : Array Tmp} {assign body : Code} {Q : Exit → Act → World → Prop} {a : Act} {w : World} {gf : Nat} {p : Value}
    (hF : ∀ f, F.fn f) (hro : F.round = none) (h1 : 1 ≤ n) (hg : a.eval g = .func (.func gf) #[p] #[]) (eg : ∀ args w, (callFunc gf args).run P w = .ok (.enter gf args) w)
    (h : ∀ (fn : FuncId) (lp : LoopState → Option Code → Loop) (W1 : World), lp = lpr fn a.tmps ps assign body w.heap.size → W1 = (w.alloc (.deferred (some []))).alloc (.loop (lp .ready none)) →
      CallsIn F (n - 1) P gf #[p, .func (.yield (w.heap.size + 1)) #[] #[]] W1 (rangePost F n P (w.heap.size + 1) Q { a with defers := [{ target := .collected w.heap.size, args := #[] }] ++ a.defers })) :
    (Code.rangeFunc g ps assign body).wpIn F n P Q a w := by
  refine wpIn_rangeFunc (F := F) (n := n) (P := P) ?_
  intro fn _
  rw [hro]
  obtain ⟨W1, hW1⟩ : ∃ W1, (w.alloc (.deferred (some []))).alloc (.loop (lpr fn a.tmps ps assign body w.heap.size .ready none)) = W1 := ⟨_, rfl⟩
  refine ⟨w.heap.size + 1, [{ target := .collected w.heap.size, args := #[] }], W1, { target := .fn (.func gf) #[], args := #[p, .func (.yield (w.heap.size + 1)) #[] #[]] }, W1, gf,
    #[p, .func (.yield (w.heap.size + 1)) #[] #[]], W1, ?_, ?_, ?_, ?_, fun _ => h1, ?_⟩
  · rw [← hW1]; exact run_enterLoop_outer _ _ _ _ _
  · simp only [resolve, hg]
    simp [go_sem]
  · exact fun _ _ => hF _
  · simp [invoke, go_sem, eg]
  · exact h fn _ W1 rfl hW1.symm
end Go.Proofs.Ytpigpeehhadkjaa

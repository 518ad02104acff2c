/-
  A range over a function, where both the function and the loop's body are the program's own: what entering it lays, and one round of it. No program is named here; conditions: those that each theorem names.
-/
import Derived.RangeFuncNested
import Derived.RangeFuncBound
import Derived.RangeFuncCalls
import Derived.RangeFuncLeaves
import Derived.Shelf.Abstract
namespace Go.Proofs.Ytpigpeehhadkjaa
open Go.RowKit Go.Shelf

/-- The loop's record, by its state and the jump that a round has left. -/
def lpr (fn : FuncId) (tmps : Array Value) (ps : Array Tmp) (assign body : Code) (d : Nat) (st : LoopState) (pe : Option Code) : Loop :=
  { state := st, pending := pe, fn := fn, tmps := tmps, params := ps, assign := assign, body := body, defers := d }

/-- The statement is entered: the iterator is called, with the record and the block of deferred calls laid. -/
theorem range_enter {F : Fence} {P : Program} {n : Nat} {g : Operand} {ps : Array Tmp} {assign body : Code} {Q : Exit → Act → World → Prop} {a : Act} {w : World} {gf : Nat} {lb : Array Value}
    (hF : ∀ f, F.fn f) (hro : F.round = none) (h1 : 1 ≤ n) (hg : a.eval g = .func (.func gf) #[] lb) (eg : ∀ args w, (callFunc gf args).run P w = .ok (.enter gf args) w)
    (h : ∀ (fn : FuncId) (lp : LoopState → Option Code → Loop) (W1 : World), lp = lpr fn a.tmps ps assign body w.heap.size → W1 = (w.alloc (.deferred (some []))).alloc (.loop (lp .ready none)) →
      CallsIn F (n - 1) P gf (#[.func (.yield (w.heap.size + 1)) #[] #[]] ++ lb) W1 (rangePost F n P (w.heap.size + 1) Q { a with defers := [{ target := .collected w.heap.size, args := #[] }] ++ a.defers })) :
    (Code.rangeFunc g ps assign body).wpIn F n P Q a w := by
  refine wpIn_rangeFunc (F := F) (n := n) (P := P) ?_
  intro fn _
  rw [hro]
  obtain ⟨W1, hW1⟩ : ∃ W1, (w.alloc (.deferred (some []))).alloc (.loop (lpr fn a.tmps ps assign body w.heap.size .ready none)) = W1 := ⟨_, rfl⟩
  refine ⟨w.heap.size + 1, [{ target := .collected w.heap.size, args := #[] }], W1, { target := .fn (.func gf) lb, args := #[.func (.yield (w.heap.size + 1)) #[] #[]] }, W1, gf,
    #[.func (.yield (w.heap.size + 1)) #[] #[]] ++ lb, W1, ?_, ?_, ?_, ?_, fun _ => h1, ?_⟩
  · rw [← hW1]; exact run_enterLoop_outer _ _ _ _ _
  · simp only [resolve, hg]
    simp [go_sem]
  · exact fun _ _ => hF _
  · simp [invoke, go_sem, eg]
  · exact h fn _ W1 rfl hW1.symm

/-- One round, out of the walks of its assignments and of its body. -/
theorem range_round {P : Program} {m l : Nat} {fn : FuncId} {tmps : Array Value} {ps : Array Tmp} {assign body : Code} {d : Nat} {lp : LoopState → Option Code → Loop} {W : World} {args : Array Value} {R : Ending → World → Prop}
    (hlp : lp = lpr fn tmps ps assign body d) (hl : W.heap[l]? = some (.loop (lp .ready none))) (hs : args.size = ps.size)
    (h : assign.wpIn (Fence.wide.inRound l) m P (Exit.then (fun a₁ w₁ => w₁.heap[l]? = some (.loop (lp .ready none)) ∧
      body.wpIn (Fence.wide.inRound l) m P (roundPost P l R) a₁ (w₁.putObj l (.loop (lp .busy none)))) (fun _ _ _ => False))
      { tmps := (ps.zip args).foldl (fun tmps (t, a) => tmps.setIfInBounds t a) tmps, defers := [] } W) :
    YieldAt Fence.wide m P l args W R := by
  subst hlp
  refine ⟨fn, _, assign, body, run_yield hl hs, roundIn_of_wpIn trivial (wpIn_mono h ?_)⟩
  intro e a₁ w₁ hq
  cases e with
  | normal => exact ⟨_, run_beginRound hq.1 rfl, hq.2⟩
  | ret => exact hq
  | exit id => exact hq
  | goto t => exact hq
  | panic c => exact hq
  | outgrown => exact hq
theorem round_on {P : Program} {l : Nat} {fn : FuncId} {tmps : Array Value} {ps : Array Tmp} {assign body : Code} {d : Nat} {lp : LoopState → Option Code → Loop} {W : World} {R : Ending → World → Prop} {a : Act}
    (hlp : lp = lpr fn tmps ps assign body d) (hl : W.heap[l]? = some (.loop (lp .busy none))) (h : R (.returned (.bool true)) (W.putObj l (.loop (lp .ready none)))) : roundPost P l R .normal a W := by
  subst hlp
  exact ⟨_, _, run_endRound none hl, h⟩
theorem round_ret {P : Program} {l : Nat} {fn : FuncId} {tmps : Array Value} {ps : Array Tmp} {assign body : Code} {d : Nat} {lp : LoopState → Option Code → Loop} {W : World} {R : Ending → World → Prop} {a : Act}
    (hlp : lp = lpr fn tmps ps assign body d) (hl : W.heap[l]? = some (.loop (lp .busy none))) (h : R (.returned (.bool false)) (W.putObj l (.loop (lp .done (some .ret))))) : roundPost P l R .ret a W := by
  subst hlp
  exact ⟨_, _, run_endRound (some .ret) hl, h⟩
theorem range_done {P : Program} {l : Nat} {fn : FuncId} {tmps : Array Value} {ps : Array Tmp} {assign body : Code} {d : Nat} {lp : LoopState → Option Code → Loop} {W : World}
    (hlp : lp = lpr fn tmps ps assign body d) (hl : W.heap[l]? = some (.loop (lp .ready none))) : (Instr.endLoop l).run P W = .ok none (W.putObj l (.loop (lp .exhausted none))) := by
  subst hlp
  exact run_endLoop hl (by simp [lpr])
theorem range_left {P : Program} {l : Nat} {fn : FuncId} {tmps : Array Value} {ps : Array Tmp} {assign body : Code} {d : Nat} {lp : LoopState → Option Code → Loop} {W : World} {c : Code}
    (hlp : lp = lpr fn tmps ps assign body d) (hl : W.heap[l]? = some (.loop (lp .done (some c)))) : (Instr.endLoop l).run P W = .ok (some c) (W.putObj l (.loop (lp .exhausted (some c)))) := by
  subst hlp
  exact run_endLoop hl (by simp [lpr])
end Go.Proofs.Ytpigpeehhadkjaa

/-
  A great function's code in pieces, each piece's contract a theorem of its own. Conditions: those that the theorems name.
-/
import Derived.Test.YtbnfmiopgjmppaaDoorBase
import Derived.Deep.CutRange
namespace Go.Proofs.YtbnfmiopgjmppaaDoor

/-- A part of a code: 0 and 1: a sequence's first, and its rest; 2: what a block or a loop holds; 3 and 4: an if's two ways. -/
def cAt : List Nat → Code → Code
  | [], c => c
  | k :: p, c => match k, c with
    | 0, .seq x _ => cAt p x
    | 1, .seq _ y => cAt p y
    | 2, .block _ x => cAt p x
    | 2, .loop x => cAt p x
    | 3, .cond _ x _ => cAt p x
    | 4, .cond _ _ y => cAt p y
    | _, c => c
/-- No way out but the plain one. -/
def Nope (_ : Exit) (_ : Act) (_ : World) : Prop := False
/-- Out by this way alone. -/
def Outs (id : Nat) (R : Act → World → Prop) (e : Exit) (a : Act) (w : World) : Prop := e = .exit id ∧ R a w
section
variable {P : Program} {a : Act} {w : World} {R : Act → World → Prop} {Q : Exit → Act → World → Prop}
theorem piece {s : Code} (h : ∀ K : Act → World → Prop, (∀ a' w', Met R a' w' → K a' w') → s.wp P (Exit.then K Nope) a w) : s.wp P (Exit.then R Nope) a w := h R (fun _ _ q => q)
/-- The same, the relation behind a name that the walk does not open. -/
theorem piece2 {s : Code} (h : ∀ J K : Act → World → Prop, (∀ a' w', R a' w' → J a' w') → (∀ a' w', Met J a' w' → K a' w') → s.wp P (Exit.then K Nope) a w) : s.wp P (Exit.then R Nope) a w := h R R (fun _ _ q => q) (fun _ _ q => q)
theorem wp_endR {x : Code} (h1 : x.wp P (Exit.then R Nope) a w) (h2 : ∀ a' w', R a' w' → Q .normal a' w') : x.wp P Q a w := by
  refine wp_mono h1 ?_
  intro e a' w' hq
  cases e with
  | normal => exact h2 _ _ hq
  | exit id => exact hq.elim
  | goto l => exact hq.elim
  | ret => exact hq.elim
  | panic ch => exact hq.elim
  | outgrown => exact hq.elim
theorem wp_endX {x : Code} {id : Nat} (h1 : x.wp P (Outs id R) a w) (h2 : ∀ a' w', R a' w' → Q (.exit id) a' w') : x.wp P Q a w := by
  refine wp_mono h1 ?_
  rintro e a' w' ⟨rfl, hq⟩
  exact h2 _ _ hq
theorem wp_sqR {c x y : Code} (hc : c = .seq x y) (h1 : x.wp P (Exit.then R Nope) a w) (h2 : ∀ a' w', R a' w' → y.wp P Q a' w') : c.wp P Q a w := by
  subst hc
  exact wp_seq (wp_endR h1 h2)
theorem thru {id : Nat} {I : Act → World → Prop} (h : Q .normal a w) : Exit.then I (Exit.inBlock id Q) (.exit id) a w := by
  show (if id = id then Q .normal a w else Q (.exit id) a w)
  rw [if_pos rfl]
  exact h
theorem wp_blockR {c x : Code} {id : Nat} (hc : c = .block id x) (h : x.wp P (Exit.inBlock id Q) a w) : c.wp P Q a w := by
  subst hc
  exact wp_block h
theorem wp_loopR {c x : Code} (hc : c = .loop x) (I : Act → World → Prop) (μ : Act → World → Nat) (h₀ : I a w) (round : ∀ a w, I a w → x.wp P (Exit.then (fun a' w' => I a' w' ∧ μ a' w' < μ a w) Q) a w) : c.wp P Q a w := by
  subst hc
  exact wp_loop I μ h₀ round
end
/-- A frame of so many slots; what a slot holds. -/
structure Fr (N : Nat) (a : Act) : Prop where
  df : a.defers = []
  sz : a.tmps.size = N
def sl (a : Act) (i : Nat) : Value := a.tmps.getD i undef
theorem fr_any {N : Nat} {a : Act} (h : Fr N a) : ∃ f : Nat → Value, a = ⟨((List.range N).map f).toArray, []⟩ ∧ ∀ i, f i = sl a i := by
  obtain ⟨t, d⟩ := a
  obtain ⟨h1, h2⟩ := h
  simp only at h1 h2
  subst h1
  refine ⟨fun i => t.getD i undef, ?_, fun i => rfl⟩
  congr 1
  apply Array.ext
  · simp [h2]
  · intro i hi hj
    simp [Array.getD, hi]
end Go.Proofs.YtbnfmiopgjmppaaDoor

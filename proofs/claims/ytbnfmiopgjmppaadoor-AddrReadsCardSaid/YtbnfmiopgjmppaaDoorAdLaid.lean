/-
  How arguments that are addresses or prefixes are opened; what the row's listed variables and the world's shape give. Conditions: those that the theorems name.
-/
import Derived.Test.YtbnfmiopgjmppaaDoorAdGl
import Derived.Test.YtbnfmiopgjmppaaDoorAdPc
import Derived.Test.YtbnfmiopgjmppaaDoorRows
import Derived.Laws.IdiomArrays
import Derived.LaidMore
import Derived.OpenShut
import Derived.Stop.LaidErr
import Derived.Stop.Joined
import Derived.Shelf.Vars
import Derived.Lib.LaidTab
import Derived.ProofKit
import Derived.MakeChecks
namespace Go.Proofs.YtbnfmiopgjmppaaDoor
open Go.ChangeShapes Go.WideShapes Go.ChangeAt Go.RowKit

theorem addr_cells : Tryd.prog.cellsOf 24 = 17 := by kernel_rfl
theorem pfx_cells : Tryd.prog.cellsOf 48 = 18 := by kernel_rfl
theorem u8_cells : Tryd.prog.cellsOf 5 = 1 := by kernel_rfl
theorem bool_cells : Tryd.prog.cellsOf 4 = 1 := by kernel_rfl
theorem int_cells : Tryd.prog.cellsOf 3 = 1 := by kernel_rfl
theorem arr16_cells : Tryd.prog.cellsOf 22 = 16 := by kernel_rfl

section
variable {H : Type} {enc : TypeId × Value → H} {w : World} {base : Nat} {spare : Nat → Bool} {held : Bool} {fuel : Nat}
theorem open16 {cs : List Value} {x : DataW H × List MemPlace} (h : DataW.trod enc Tryd.prog w base spare held fuel 22 cs = some x) :
    ∃ xs : List Int, cs = bv xs ∧ xs.length = 16 ∧ Byt xs := by
  obtain ⟨ys, m, _, _, hl, hy, hf⟩ := DataW.trod_array Tryd.underlying22 h
  rw [arr16_cells] at hl
  have hall : ∀ i, i < 16 → ∃ z, cs[i]? = some (.int .u8 z) ∧ (Lit.int .u8 z).wf = true := by
    intro i hi
    have h1 := hf i hi
    rw [u8_cells, Nat.mul_one] at h1
    have hli : i < cs.length := by omega
    have e : (cs.drop i).take 1 = [cs[i]] := by
      rw [List.drop_eq_getElem_cons hli]; rfl
    rw [e, List.getElem?_eq_getElem (show i < ys.length by omega)] at h1
    obtain ⟨z, hz, _, hw⟩ := DataW.trod_int Tryd.underlying5 h1
    simp only [List.cons.injEq, and_true] at hz
    exact ⟨z, by rw [List.getElem?_eq_getElem hli, hz], hw⟩
  refine ⟨cs.map numOf, ?_, by rw [List.length_map, hl], byt_of fun y hy => ?_⟩
  · apply List.ext_getElem?
    intro i
    by_cases hi : i < 16
    · obtain ⟨z, hz, _⟩ := hall i hi
      simp [bv, hz, numOf]
    · rw [List.getElem?_eq_none (by omega), List.getElem?_eq_none (by simp [bv]; omega)]
  · obtain ⟨v, hv, rfl⟩ := List.mem_map.1 hy
    obtain ⟨i, hi⟩ := List.mem_iff_getElem?.1 hv
    have hlt : i < 16 := by have := (List.getElem?_eq_some_iff.1 hi).1; omega
    obtain ⟨z, hz, hw⟩ := hall i hlt
    rw [hi] at hz
    rw [Option.some.inj hz]
    exact hw
/-- A part of cells, and what is behind. -/
theorem cut_at (cs : List Value) (o n : Nat) : cs.drop o = (cs.drop o).take n ++ cs.drop (o + n) := by
  rw [← List.drop_drop, List.take_append_drop]
theorem cut_end (cs : List Value) (o n : Nat) (h : cs.length = o + n) : cs.drop o = (cs.drop o).take n := by
  rw [List.take_of_length_le (by simp; omega)]
theorem open_addr {cs : List Value} {x : DataW H × List MemPlace} (h : DataW.trod enc Tryd.prog w base spare held fuel 24 cs = some x) : ∃ (s : Bool) (xs : List Int), cs = adl s xs ∧ xs.length = 16 ∧ Byt xs := by
  obtain ⟨ys, n, _, _, hlen, hyl, hf⟩ := DataW.trod_struct Tryd.underlying24 h
  rw [addr_cells] at hlen
  have hfld := fun (i : Nat) f hi => (hf i f hi).trans (List.getElem?_eq_getElem (by have := (Array.getElem?_eq_some_iff.1 hi).1; omega))
  have g0 : DataW.trod enc Tryd.prog w base spare held n 4 ((cs.drop 0).take (Tryd.prog.cellsOf 4)) = some _ := hfld 0 _ rfl
  have g1 : DataW.trod enc Tryd.prog w base spare held n 22 ((cs.drop 1).take (Tryd.prog.cellsOf 22)) = some _ := hfld 1 _ rfl
  rw [bool_cells] at g0
  rw [arr16_cells] at g1
  obtain ⟨s, hs, _⟩ := DataW.trod_bool Tryd.underlying4 g0
  obtain ⟨xs, hx, hl, hb⟩ := open16 g1
  refine ⟨s, xs, ?_, hl, hb⟩
  have e0 := cut_at cs 0 1
  have e1 := cut_end cs 1 16 (by omega)
  rw [List.drop_zero] at e0 hs
  rw [e0, hs, Nat.zero_add, e1, hx]
  rfl
theorem open_pfx {cs : List Value} {x : DataW H × List MemPlace} (h : DataW.trod enc Tryd.prog w base spare held fuel 48 cs = some x) : ∃ (s : Bool) (xs : List Int) (m : Int), cs = pfl s xs m ∧ xs.length = 16 ∧ Byt xs := by
  obtain ⟨ys, n, _, _, hlen, hyl, hf⟩ := DataW.trod_struct Tryd.underlying48 h
  rw [pfx_cells] at hlen
  have hfld := fun (i : Nat) f hi => (hf i f hi).trans (List.getElem?_eq_getElem (by have := (Array.getElem?_eq_some_iff.1 hi).1; omega))
  have g0 : DataW.trod enc Tryd.prog w base spare held n 24 ((cs.drop 0).take (Tryd.prog.cellsOf 24)) = some _ := hfld 0 _ rfl
  have g1 : DataW.trod enc Tryd.prog w base spare held n 3 ((cs.drop 17).take (Tryd.prog.cellsOf 3)) = some _ := hfld 1 _ rfl
  rw [addr_cells] at g0
  rw [int_cells] at g1
  obtain ⟨s, xs, hx, hl, hb⟩ := open_addr g0
  obtain ⟨z, hz, _, _⟩ := DataW.trod_int Tryd.underlying3 g1
  refine ⟨s, xs, z, ?_, hl, hb⟩
  have e0 := cut_at cs 0 17
  have e1 := cut_end cs 17 1 (by omega)
  rw [List.drop_zero] at e0 hx
  rw [e0, hx, Nat.zero_add, e1, hz]
  rfl
end

/-! ### The listed variables -/
abbrev laid4 : List (String × DataW Unit) := Rows.addrBackRow.laid
def debTab : List Int := [0, 1, 56, 2, 57, 49, 28, 3, 61, 58, 42, 50, 38, 29, 17, 4, 62, 47, 59, 36, 45, 43, 51, 22, 53, 39, 33, 30, 24, 18, 12, 5, 63, 55, 48, 27, 60, 41, 37, 16, 46, 35, 44, 21, 52, 32, 23, 11, 54, 26, 40, 15, 34, 20, 31, 10, 25, 14, 19, 9, 13, 8, 7, 6]
theorem star4 : "*" ++ "errors.errorString" = "*errors.errorString" := by decide
theorem rowES (u : TypeId) (h : Tryd.prog.typeName? 3 u = some "*errors.errorString") : u = 144 :=
  typeName_ptr_named (nm := "errors.errorString") (by rw [star4]; kernel_rfl) (by kernel_rfl) (by decide) u (by rw [star4]; exact h)
theorem gSyn_at : Tryd.prog.globalNamed "strconv.ErrSyntax" = some 1 := by kernel_rfl
theorem gSyn_ty : (Tryd.prog.globals[1]?).map (·.type) = some 99 := by kernel_rfl
theorem gRng_at : Tryd.prog.globalNamed "strconv.ErrRange" = some 2 := by kernel_rfl
theorem gRng_ty : (Tryd.prog.globals[2]?).map (·.type) = some 99 := by kernel_rfl
theorem gPow_at : Tryd.prog.globalNamed "internal/strconv.uint64pow10" = some 3 := by kernel_rfl
theorem gPow_ty : (Tryd.prog.globals[3]?).map (·.type) = some 140 := by kernel_rfl
theorem gDb_at : Tryd.prog.globalNamed "math/bits.deBruijn64tab" = some 5 := by kernel_rfl
theorem gDb_ty : (Tryd.prog.globals[5]?).map (·.type) = some 149 := by kernel_rfl
theorem gl_of_laid {W : World} (hL : laidMetH Tryd.prog laid4 W) (hsh : W.ShapedOpen Tryd.prog) : Gl W := by
  rw [MakeChecks.laidMetH_plain _ _ _ (by kernel_rfl)] at hL
  have h1 := hL.tail
  have hdeb : Lib.TabIs Tryd.prog W "math/bits.deBruijn64tab" .u8 debTab := Lib.tabIs_of_head gDb_at gDb_ty Tryd.underlying149 Tryd.underlying5 (by kernel_rfl) (by kernel_rfl) h1
  have h2 := h1.tail
  have hpow : Lib.TabIs Tryd.prog W "internal/strconv.uint64pow10" .u64 Lib.pow10Tab := Lib.tabIs_of_head gPow_at gPow_ty Tryd.underlying140 Tryd.underlying104 (by kernel_rfl) (by kernel_rfl) h2
  have h3 := h2.tail
  obtain ⟨a0, s0, hv0, -, -, -⟩ := laid_sentinel h3 gRng_at gRng_ty Tryd.underlying99 rowES Tryd.underlying144 Tryd.underlying146 rfl rfl Tryd.underlying9 (by kernel_rfl) (by kernel_rfl)
  obtain ⟨a1, s1, hv1, -, -, -⟩ := laid_sentinel h3.tail gSyn_at gSyn_ty Tryd.underlying99 rowES Tryd.underlying144 Tryd.underlying146 rfl rfl Tryd.underlying9 (by kernel_rfl) (by kernel_rfl)
  refine ⟨?_, ⟨144, .pointer (some a1), ?_⟩, ⟨144, .pointer (some a0), ?_⟩, hpow, ?_⟩
  · exact Go.Proofs.cell_of_shapedOpen_int (zero := #[.int .i64 0]) (t := 3) hsh (of_decide_eq_true (by kernel_rfl)) (by kernel_rfl) rfl (by kernel_rfl) (by kernel_rfl) Tryd.underlying3
  · have h0 := World.var?_cell gSyn_at hv1 0; simpa using h0
  · have h0 := World.var?_cell gRng_at hv0 0; simpa using h0
  · exact hdeb.cell gDb_at 15 (by decide)

/-! ### The witness: the heap that the door's own run leaves -/
theorem door_met (os : Os) (args : Array Value) : laidMetH Tryd.prog laid4 ((World.doorLaid Tryd.prog 65 os).forCall (fun _ _ => 0) ⟨#[], args, []⟩).memory :=
  laidMetH_of_parts3 (fuel := 8) (laidMet_of_run' 8 (by kernel_rfl) (by kernel_rfl)) (by kernel_rfl) (by kernel_rfl)

/-- The wrap: the listed variables' condition and the world's shape are handed to the contract. -/
theorem returnsInHanded_laid {H : Type} {enc : TypeId × Value → H} {a : Assume} {C : Checked} {os : Os} {f : FuncId} {fn : Func} {s : ChangeSpec} {conds : List PathCond} {apart fresh handsOn again : Bool} {X : World → Array Value → Prop}
    (hX : ∀ (w w' : World) (args : Array Value), w.heap = w'.heap → X w args → X w' args)
    (own : ownKnob C.prog.godebug = none) (started : os.Started) (noInit : C.prog.inits.idxOf? f = none) (hfn : C.prog.funcs[f]? = some fn)
    (witness : ∃ (w : World) (tape : Tape) (i : Input), w.os = os ∧ (w.forCall tape i).Shaped C.prog ∧ i.vars = [] ∧ Input.okWide C.prog (w.forCall tape i) .any w.heap.size f i ∧
      ((s.pre enc C.prog fn conds apart (w.forCall tape i).memory i.args ∧ X (w.forCall tape i).memory i.args) ∧ sizedMet enc C.prog fn (OpenSpec.ofChange s) apart (w.forCall tape i).memory i.args) ∧ a.holds C.prog (lone (Frame.enter C.prog f i.args .normal) [] (w.forCall tape i)))
    (contract : ∀ (W : World) (base : Nat) (args : Array Value) (ds gs : List (DataW H)) (before : List MemPlace),
      (∀ (j : Nat) t v, fn.params[j]? = some t → args[j]? = some v → Value.okWide C.prog W .any base t v) →
      DataW.Whole enc C.prog fn.params.toList s.vars apart W args.toList ds gs before →
      X W args → W.ShapedOpen C.prog →
      Calls C.prog f args W fun e W' => ∃ v, e = .returned v ∧ s.post enc C.prog fn apart fresh handsOn again W args v W') :
    ReturnsInHanded a C os f .any (fun w args => (s.pre enc C.prog fn conds apart w args ∧ X w args) ∧ sizedMet enc C.prog fn (OpenSpec.ofChange s) apart w args) (s.post enc C.prog fn apart fresh handsOn again) := by
  refine returnsInHanded_of_calls own started noInit witness ?_
  intro w tape i _ hsh _ hok hpre _
  obtain ⟨_, _, _, fn', hfn', _, _, _, _, hval⟩ := hok
  obtain rfl : fn' = fn := Option.some.inj (hfn'.symm.trans hfn)
  obtain ⟨⟨⟨ds, gs, before, hw, _⟩, hx⟩, _⟩ := hpre
  refine (contract (w.forCall tape i) w.heap.size i.args ds gs before hval (DataW.Whole.of_heap (w' := w.forCall tape i) (by rfl) hw) (hX _ _ _ (by rfl) hx) hsh).mono fun e W' ⟨v, he, hp⟩ => ?_
  subst he
  exact ChangeSpec.post_blind hp
end Go.Proofs.YtbnfmiopgjmppaaDoor

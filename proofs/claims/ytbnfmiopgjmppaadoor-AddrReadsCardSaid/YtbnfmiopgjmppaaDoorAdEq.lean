/-
  How addresses, their bytes and prefixes are compared as wholes. Condition: sixteen bytes.
-/
import Derived.Test.YtbnfmiopgjmppaaDoorAdLeaf
namespace Go.Proofs.YtbnfmiopgjmppaaDoor
open Go.RowKit

theorem size_u8 (w : World) : (sizeOf 5).run Tryd.prog w = .ok 1 w := by
  obtain ⟨i0, hi, _, hz1, _⟩ := info_parts u8_info
  simp [sizeOf, typeInfo, hi, hz1]
theorem part_u8 (w : World) (xs : List Int) (i : Nat) (h : i < xs.length) : (part 5 (bv xs).toArray i).run Tryd.prog w = .ok (.int .u8 (xs.getD i 0)) w := by
  simp [part, isAgg, run_underlying Tryd.underlying5, bv, h]
theorem drop_part {xs ys : List Int} {i : Nat} (hx : i < xs.length) (hy : i < ys.length) : (xs.drop i = ys.drop i) ↔ (xs.getD i 0 = ys.getD i 0 ∧ xs.drop (i + 1) = ys.drop (i + 1)) := by
  rw [List.drop_eq_getElem_cons hx, List.drop_eq_getElem_cons hy, List.cons.injEq]
  simp only [List.getD_eq_getElem?_getD, List.getElem?_eq_getElem hx, List.getElem?_eq_getElem hy, Option.getD_some]

theorem eqLoop (d : Nat) (xs ys : List Int) (hx : xs.length = 16) (hy : ys.length = 16) : ∀ (n i : Nat) (w : World), i + n = 16 →
    (forIn (List.range' i n) ((none : Option Bool), ()) fun i __s => (do
      let a ← part 5 (bv xs).toArray (i * 1)
      let b ← part 5 (bv ys).toArray (i * 1)
      let r ← Op.equalIn (d + 1) 5 a b
      if (!r) = true then pure (ForInStep.done (some false, ())) else pure (ForInStep.yield (none, ())) : Sem (ForInStep (Option Bool × Unit)))).run Tryd.prog w
      = .ok (if xs.drop i = ys.drop i then (none, ()) else (some false, ())) w
  | 0, i, w, h => by
    have e1 : xs.drop i = [] := List.drop_eq_nil_of_le (by omega)
    have e2 : ys.drop i = [] := List.drop_eq_nil_of_le (by omega)
    simp [e1, e2]
  | n + 1, i, w, h => by
    have ih := eqLoop d xs ys hx hy n (i + 1) w (by omega)
    have hi : i < xs.length := by omega
    have hj : i < ys.length := by omega
    simp only [List.range'_succ, List.forIn_cons, Sem.run_bind, Nat.mul_one, part_u8 w xs i hi, part_u8 w ys i hj, Result.andThen_ok, run_equalIn_int (P := Tryd.prog) w d 5 .u8 .u8 _ _ Tryd.underlying5] at ih ⊢
    by_cases e : xs.getD i 0 = ys.getD i 0
    · simp only [e, beq_self_eq_true, Bool.not_true, Bool.false_eq_true, if_false, Sem.run_pure, Result.andThen_ok]
      rw [ih]
      simp only [drop_part hi hj, e, true_and]
    · have e' : (xs.getD i 0 == ys.getD i 0) = false := by simpa using e
      simp only [e', Bool.not_false, if_true, Sem.run_pure, Result.andThen_ok]
      rw [if_neg (by rw [drop_part hi hj]; exact fun h => e h.1)]

theorem eqArr (w : World) (d : Nat) (xs ys : List Int) (hx : xs.length = 16) (hy : ys.length = 16) :
    (Op.equalIn (d + 2) 22 (.agg (bv xs).toArray) (.agg (bv ys).toArray)).run Tryd.prog w = .ok (decide (xs = ys)) w := by
  rw [Op.equalIn]
  simp only [Sem.run_bind, run_underlying Tryd.underlying22, Result.andThen_ok, size_u8, Std.Legacy.Range.forIn_eq_forIn_range']
  have := eqLoop d xs ys hx hy 16 0 w rfl
  simp only [List.drop_zero] at this
  rw [show [:16].size = 16 from rfl, this]
  by_cases e : xs = ys <;> simp [e]

theorem adl_cut (s : Bool) (xs : List Int) (h : xs.length = 16) : (adl s xs).toArray.extract 1 17 = (bv xs).toArray := by
  apply Array.ext'
  simp [adl, bv, List.extract]
  exact List.take_of_length_le (by simp [h])
theorem pfl_cut (s : Bool) (xs : List Int) (n : Int) (h : xs.length = 16) : (pfl s xs n).toArray.extract 0 17 = (adl s xs).toArray ∧ (pfl s xs n).toArray[17]? = some (.int .i64 n) := by
  constructor
  · apply Array.ext'
    simp [pfl, adl, bv, h]
    rw [show Value.bool s :: (List.map (Value.int IntKind.u8) xs ++ [Value.int IntKind.i64 n]) = (Value.bool s :: List.map (Value.int IntKind.u8) xs) ++ [Value.int IntKind.i64 n] from rfl, List.dropLast_concat]
  · simp [pfl, bv, h]
theorem size_arr (w : World) : (sizeOf 22).run Tryd.prog w = .ok 16 w := by
  cases hq : Tryd.prog.info? 22 with
  | none => have := inf16; simp [hq] at this
  | some i => have := inf16; simp [hq] at this; simp [sizeOf, typeInfo, hq, this]
theorem part_arr (w : World) (s : Bool) (xs : List Int) (h : xs.length = 16) : (part 22 (adl s xs).toArray 1).run Tryd.prog w = .ok (.agg (bv xs).toArray) w := by
  simp only [part, isAgg, Sem.run_bind, run_underlying Tryd.underlying22, Result.andThen_ok, Sem.run_pure, if_true, size_arr, adl_cut s xs h]
theorem part_six (w : World) (s : Bool) (xs : List Int) : (part 4 (adl s xs).toArray 0).run Tryd.prog w = .ok (.bool s) w := by
  simp [part, isAgg, run_underlying Tryd.underlying4, adl]
theorem fieldsA : (Tryd.prog.fieldsOf 24).toList.map (fun f => (f.name, f.type, f.offset)) = [("Six", 4, 0), ("B", 22, 1)] := by kernel_rfl
theorem fieldsR : (Tryd.prog.fieldsOf 27).toList.map (fun f => (f.name, f.type, f.offset)) = [("Six", 4, 0), ("B", 22, 1)] := by kernel_rfl
theorem two_of {fs : List Field} {a b : String × TypeId × Nat} (h : fs.map (fun f => (f.name, f.type, f.offset)) = [a, b]) : ∃ f g, fs = [f, g] ∧ (f.name, f.type, f.offset) = a ∧ (g.name, g.type, g.offset) = b := by
  match fs, h with
  | [f, g], h => simp at h; exact ⟨f, g, rfl, h.1, h.2⟩

theorem eqAd (w : World) (d : Nat) (fs : List Field) (h : fs.map (fun f => (f.name, f.type, f.offset)) = [("Six", 4, 0), ("B", 22, 1)]) (s t : Bool) (xs ys : List Int) (hx : xs.length = 16) (hy : ys.length = 16) :
    (Op.eqFields (d + 2) (adl s xs).toArray (adl t ys).toArray fs).run Tryd.prog w = .ok (decide (s = t ∧ xs = ys)) w := by
  obtain ⟨f, g, rfl, hf, hg⟩ := two_of h
  simp only [Prod.mk.injEq] at hf hg
  obtain ⟨f1, f2, f3⟩ := hf
  obtain ⟨g1, g2, g3⟩ := hg
  simp only [Op.eqFields, f1, f2, f3, g1, g2, g3, Sem.run_bind, Sem.run_ite, part_six, part_arr _ _ _ hx, part_arr _ _ _ hy, Result.andThen_ok, run_equalIn_bool' (P := Tryd.prog) _ _ 4 _ _ Tryd.underlying4, eqArr _ d xs ys hx hy, Sem.run_pure]
  by_cases e1 : s = t <;> by_cases e2 : xs = ys <;> simp [e1, e2]

theorem guA : Tryd.prog.eqGuardType Tryd.prog.depth 24 = false := by kernel_rfl
theorem guR : Tryd.prog.eqGuardType Tryd.prog.depth 27 = false := by kernel_rfl
theorem guP : Tryd.prog.eqGuardType Tryd.prog.depth 48 = false := by kernel_rfl
theorem guQ : Tryd.prog.eqGuardType Tryd.prog.depth 52 = false := by kernel_rfl
theorem guB : Tryd.prog.eqGuardType Tryd.prog.depth 22 = false := by kernel_rfl
theorem stA_ : Tryd.prog.stoodInHeld 24 = false := by kernel_rfl
theorem stR_ : Tryd.prog.stoodInHeld 27 = false := by kernel_rfl
theorem stP_ : Tryd.prog.stoodInHeld 48 = false := by kernel_rfl
theorem stQ_ : Tryd.prog.stoodInHeld 52 = false := by kernel_rfl
theorem unA : Tryd.prog.underlying 24 = some (.struct (Tryd.prog.fieldsOf 24)) := by kernel_rfl
theorem unR : Tryd.prog.underlying 27 = some (.struct (Tryd.prog.fieldsOf 27)) := by kernel_rfl
theorem unP : Tryd.prog.underlying 48 = some (.struct (Tryd.prog.fieldsOf 48)) := by kernel_rfl
theorem unQ : Tryd.prog.underlying 52 = some (.struct (Tryd.prog.fieldsOf 52)) := by kernel_rfl

theorem eqA (w : World) (d : Nat) (s t : Bool) (xs ys : List Int) (hx : xs.length = 16) (hy : ys.length = 16) :
    (Op.equalIn (d + 3) 24 (.agg (adl s xs).toArray) (.agg (adl t ys).toArray)).run Tryd.prog w = .ok (decide (s = t ∧ xs = ys)) w := by
  rw [run_equalIn_struct w (d + 2) _ _ _ unA stA_]; exact eqAd w d _ fieldsA s t xs ys hx hy
theorem eqR (w : World) (d : Nat) (s t : Bool) (xs ys : List Int) (hx : xs.length = 16) (hy : ys.length = 16) :
    (Op.equalIn (d + 3) 27 (.agg (adl s xs).toArray) (.agg (adl t ys).toArray)).run Tryd.prog w = .ok (decide (s = t ∧ xs = ys)) w := by
  rw [run_equalIn_struct w (d + 2) _ _ _ unR stR_]; exact eqAd w d _ fieldsR s t xs ys hx hy

theorem fieldsP : (Tryd.prog.fieldsOf 48).toList.map (fun f => (f.name, f.type, f.offset)) = [("A", 24, 0), ("Len", 3, 17)] := by kernel_rfl
theorem fieldsQ : (Tryd.prog.fieldsOf 52).toList.map (fun f => (f.name, f.type, f.offset)) = [("A", 27, 0), ("Len", 3, 17)] := by kernel_rfl
theorem size_of {t n : Nat} (h : (Tryd.prog.info? t).map (·.size) = some n) (w : World) : (sizeOf t).run Tryd.prog w = .ok n w := by
  cases hq : Tryd.prog.info? t with
  | none => simp [hq] at h
  | some i => simp [hq] at h; simp [sizeOf, typeInfo, hq, h]
theorem part_A (w : World) (t : TypeId) (ht : Tryd.prog.underlying t = some (.struct (Tryd.prog.fieldsOf t))) (hi : (Tryd.prog.info? t).map (·.size) = some 17) (s : Bool) (xs : List Int) (n : Int) (h : xs.length = 16) : (part t (pfl s xs n).toArray 0).run Tryd.prog w = .ok (.agg (adl s xs).toArray) w := by
  simp only [part, isAgg, Sem.run_bind, run_underlying ht, Result.andThen_ok, Sem.run_pure, if_true, size_of hi, Nat.zero_add, (pfl_cut s xs n h).1]
theorem part_L (w : World) (s : Bool) (xs : List Int) (n : Int) (h : xs.length = 16) : (part 3 (pfl s xs n).toArray 17).run Tryd.prog w = .ok (.int .i64 n) w := by
  simp only [part, isAgg, Sem.run_bind, run_underlying Tryd.underlying3, Result.andThen_ok, Sem.run_pure, Bool.false_eq_true, if_false, (pfl_cut s xs n h).2]
theorem eqP (w : World) (d : Nat) (s t : Bool) (xs ys : List Int) (m n : Int) (hx : xs.length = 16) (hy : ys.length = 16) :
    (Op.equalIn (d + 4) 48 (.agg (pfl s xs m).toArray) (.agg (pfl t ys n).toArray)).run Tryd.prog w = .ok (decide ((s = t ∧ xs = ys) ∧ m = n)) w := by
  rw [run_equalIn_struct w (d + 3) _ _ _ unP stP_]
  obtain ⟨f, g, e, hf, hg⟩ := two_of fieldsP
  rw [e]
  simp only [Prod.mk.injEq] at hf hg
  obtain ⟨f1, f2, f3⟩ := hf
  obtain ⟨g1, g2, g3⟩ := hg
  simp only [Op.eqFields, f1, f2, f3, g1, g2, g3, Sem.run_bind, Sem.run_ite, part_A _ _ unA infA _ _ _ hx, part_A _ _ unA infA _ _ _ hy, part_L _ _ _ _ hx, part_L _ _ _ _ hy, Result.andThen_ok, run_equalIn_int (P := Tryd.prog) _ _ 3 .i64 .i64 _ _ Tryd.underlying3, eqA _ d s t xs ys hx hy, Sem.run_pure]
  by_cases e1 : (s = t ∧ xs = ys) <;> by_cases e2 : m = n <;> simp [e1, e2]
theorem eqQ (w : World) (d : Nat) (s t : Bool) (xs ys : List Int) (m n : Int) (hx : xs.length = 16) (hy : ys.length = 16) :
    (Op.equalIn (d + 4) 52 (.agg (pfl s xs m).toArray) (.agg (pfl t ys n).toArray)).run Tryd.prog w = .ok (decide ((s = t ∧ xs = ys) ∧ m = n)) w := by
  rw [run_equalIn_struct w (d + 3) _ _ _ unQ stQ_]
  obtain ⟨f, g, e, hf, hg⟩ := two_of fieldsQ
  rw [e]
  simp only [Prod.mk.injEq] at hf hg
  obtain ⟨f1, f2, f3⟩ := hf
  obtain ⟨g1, g2, g3⟩ := hg
  simp only [Op.eqFields, f1, f2, f3, g1, g2, g3, Sem.run_bind, Sem.run_ite, part_A _ _ unR infR _ _ _ hx, part_A _ _ unR infR _ _ _ hy, part_L _ _ _ _ hx, part_L _ _ _ _ hy, Result.andThen_ok, run_equalIn_int (P := Tryd.prog) _ _ 3 .i64 .i64 _ _ Tryd.underlying3, eqR _ d s t xs ys hx hy, Sem.run_pure]
  by_cases e1 : (s = t ∧ xs = ys) <;> by_cases e2 : m = n <;> simp [e1, e2]
end Go.Proofs.YtbnfmiopgjmppaaDoor

/-
  How headers of IPv6 are compared as wholes. Conditions: sixteen bytes in each address.
-/
import Derived.Test.YthipnkaghddbhaaSxWorks
namespace Go.Proofs.Ythipnkaghddbhaa
open Go.RowKit

theorem size_u8 (w : World) : (sizeOf 5).run Try.prog w = .ok 1 w := by
  obtain ⟨i0, hi, _, hz1, _⟩ := info_parts u8_info
  simp [sizeOf, typeInfo, hi, hz1]
theorem part_u8 (w : World) (xs : List Int) (i : Nat) (h : i < xs.length) : (part 5 (bv xs).toArray i).run Try.prog w = .ok (.int .u8 (xs.getD i 0)) w := by
  simp [part, isAgg, run_underlying Try.underlying5, bv, h]
theorem drop_part {xs ys : List Int} {i : Nat} (hx : i < xs.length) (hy : i < ys.length) : (xs.drop i = ys.drop i) ↔ (xs.getD i 0 = ys.getD i 0 ∧ xs.drop (i + 1) = ys.drop (i + 1)) := by
  rw [List.drop_eq_getElem_cons hx, List.drop_eq_getElem_cons hy, List.cons.injEq]
  simp only [List.getD_eq_getElem?_getD, List.getElem?_eq_getElem hx, List.getElem?_eq_getElem hy, Option.getD_some]

theorem eqLoop (d : Nat) (xs ys : List Int) (hx : xs.length = 16) (hy : ys.length = 16) : ∀ (n i : Nat) (w : World), i + n = 16 →
    (forIn (List.range' i n) ((none : Option Bool), ()) fun i __s => (do
      let a ← part 5 (bv xs).toArray (i * 1)
      let b ← part 5 (bv ys).toArray (i * 1)
      let r ← Op.equalIn (d + 1) 5 a b
      if (!r) = true then pure (ForInStep.done (some false, ())) else pure (ForInStep.yield (none, ())) : Sem (ForInStep (Option Bool × Unit)))).run Try.prog w
      = .ok (if xs.drop i = ys.drop i then (none, ()) else (some false, ())) w
  | 0, i, w, h => by
    have e1 : xs.drop i = [] := List.drop_eq_nil_of_le (by omega)
    have e2 : ys.drop i = [] := List.drop_eq_nil_of_le (by omega)
    simp [e1, e2]
  | n + 1, i, w, h => by
    have ih := eqLoop d xs ys hx hy n (i + 1) w (by omega)
    have hi : i < xs.length := by omega
    have hj : i < ys.length := by omega
    simp only [List.range'_succ, List.forIn_cons, Sem.run_bind, Nat.mul_one, part_u8 w xs i hi, part_u8 w ys i hj, Result.andThen_ok, run_equalIn_int (P := Try.prog) w d 5 .u8 .u8 _ _ Try.underlying5] at ih ⊢
    by_cases e : xs.getD i 0 = ys.getD i 0
    · simp only [e, beq_self_eq_true, Bool.not_true, Bool.false_eq_true, if_false, Sem.run_pure, Result.andThen_ok]
      rw [ih]
      simp only [drop_part hi hj, e, true_and]
    · have e' : (xs.getD i 0 == ys.getD i 0) = false := by simpa using e
      simp only [e', Bool.not_false, if_true, Sem.run_pure, Result.andThen_ok]
      rw [if_neg (by rw [drop_part hi hj]; exact fun h => e h.1)]

theorem eqArr (w : World) (d : Nat) (xs ys : List Int) (hx : xs.length = 16) (hy : ys.length = 16) :
    (Op.equalIn (d + 2) 24 (.agg (bv xs).toArray) (.agg (bv ys).toArray)).run Try.prog w = .ok (decide (xs = ys)) w := by
  rw [Op.equalIn]
  simp only [Sem.run_bind, run_underlying Try.underlying24, Result.andThen_ok, size_u8, Std.Legacy.Range.forIn_eq_forIn_range']
  have := eqLoop d xs ys hx hy 16 0 w rfl
  simp only [List.drop_zero] at this
  rw [show [:16].size = 16 from rfl, this]
  by_cases e : xs = ys <;> simp [e]

theorem size_of {t n : Nat} (h : (Try.prog.info? t).map (·.size) = some n) (w : World) : (sizeOf t).run Try.prog w = .ok n w := by
  cases hq : Try.prog.info? t with
  | none => simp [hq] at h
  | some i => simp [hq] at h; simp [sizeOf, typeInfo, hq, h]
theorem cs_cut (h : H6) (k : h.ok) : h.cs.toArray.extract 5 21 = (bv h.src).toArray ∧ h.cs.toArray.extract 21 37 = (bv h.dst).toArray := by
  have l1 : (bv h.src).length = 16 := by rw [bv_length, k.src]
  have l2 : (bv h.dst).length = 16 := by rw [bv_length, k.dst]
  constructor
  · apply Array.ext'
    simp only [H6.cs, List.extract_toArray, List.extract]
    show ((bv h.src ++ bv h.dst).take 16) = _
    rw [← l1, List.take_left]
  · apply Array.ext'
    simp only [H6.cs, List.extract_toArray, List.extract]
    show (((bv h.src ++ bv h.dst).drop 16).take 16) = _
    rw [← l1, List.drop_left, l1, ← l2, List.take_length]
theorem size_arr (w : World) : (sizeOf 24).run Try.prog w = .ok 16 w := size_of inf16 w
theorem part_one {h : H6} (w : World) (t : TypeId) (q : IntKind) (i : Nat) (v : Value) (hu : Try.prog.underlying t = some (.int q)) (hv : h.cs.toArray[i]? = some v) : (part t h.cs.toArray i).run Try.prog w = .ok v w := by
  simp only [part, isAgg, Sem.run_bind, run_underlying hu, Result.andThen_ok, Sem.run_pure, Bool.false_eq_true, if_false, hv]
theorem part_src {h : H6} (k : h.ok) (w : World) : (part 24 h.cs.toArray 5).run Try.prog w = .ok (.agg (bv h.src).toArray) w := by
  simp only [part, isAgg, Sem.run_bind, run_underlying Try.underlying24, Result.andThen_ok, Sem.run_pure, if_true, size_arr, (cs_cut h k).1]
theorem part_dst {h : H6} (k : h.ok) (w : World) : (part 24 h.cs.toArray 21).run Try.prog w = .ok (.agg (bv h.dst).toArray) w := by
  simp only [part, isAgg, Sem.run_bind, run_underlying Try.underlying24, Result.andThen_ok, Sem.run_pure, if_true, size_arr, (cs_cut h k).2]
theorem fields6 : (Try.prog.fieldsOf 26).toList.map (fun f => (f.name, f.type, f.offset)) = [("Class", 5, 0), ("Flow", 22, 1), ("Length", 23, 2), ("Next", 5, 3), ("Hops", 5, 4), ("Src", 24, 5), ("Dst", 24, 21)] := by kernel_rfl
theorem seven_of {fs : List Field} {a b c d e f g : String × TypeId × Nat} (h : fs.map (fun f => (f.name, f.type, f.offset)) = [a, b, c, d, e, f, g]) : ∃ p q r s t u v, fs = [p, q, r, s, t, u, v] ∧ (p.name, p.type, p.offset) = a ∧ (q.name, q.type, q.offset) = b ∧ (r.name, r.type, r.offset) = c ∧ (s.name, s.type, s.offset) = d ∧ (t.name, t.type, t.offset) = e ∧ (u.name, u.type, u.offset) = f ∧ (v.name, v.type, v.offset) = g := by
  match fs, h with
  | [p, q, r, s, t, u, v], h => simp at h; exact ⟨p, q, r, s, t, u, v, rfl, h.1, h.2.1, h.2.2.1, h.2.2.2.1, h.2.2.2.2.1, h.2.2.2.2.2.1, h.2.2.2.2.2.2⟩
theorem gu6 : Try.prog.eqGuardType Try.prog.depth 26 = false := by kernel_rfl
theorem st6 : Try.prog.stoodInHeld 26 = false := by kernel_rfl
theorem un6 : Try.prog.underlying 26 = some (.struct (Try.prog.fieldsOf 26)) := by kernel_rfl
/-- A header is the same as itself. -/
theorem eq6 (w : World) (d : Nat) (h : H6) (k : h.ok) : (Op.equalIn (d + 3) 26 (.agg h.cs.toArray) (.agg h.cs.toArray)).run Try.prog w = .ok true w := by
  rw [run_equalIn_struct w (d + 2) _ _ _ un6 st6]
  obtain ⟨p, q, r, s, t, u, v, e, hp, hq, hr, hs, ht, hu, hv⟩ := seven_of fields6
  rw [e]
  simp only [Prod.mk.injEq] at hp hq hr hs ht hu hv
  obtain ⟨_, p2, p3⟩ := hp
  obtain ⟨_, q2, q3⟩ := hq
  obtain ⟨_, r2, r3⟩ := hr
  obtain ⟨_, s2, s3⟩ := hs
  obtain ⟨_, t2, t3⟩ := ht
  obtain ⟨_, u2, u3⟩ := hu
  obtain ⟨_, v2, v3⟩ := hv
  have e0 := fun w' => part_one w' 5 _ 0 _ Try.underlying5 h.c0
  have e1 := fun w' => part_one w' 22 _ 1 _ Try.underlying22 h.c1
  have e2 := fun w' => part_one w' 23 _ 2 _ Try.underlying23 h.c2
  have e3 := fun w' => part_one w' 5 _ 3 _ Try.underlying5 h.c3
  have e4 := fun w' => part_one w' 5 _ 4 _ Try.underlying5 h.c4
  simp only [Op.eqFields, p2, p3, q2, q3, r2, r3, s2, s3, t2, t3, u2, u3, v2, v3, Sem.run_bind, Sem.run_ite, e0, e1, e2, e3, e4, part_src k, part_dst k, Result.andThen_ok, run_equalIn_int (P := Try.prog) _ _ 5 .u8 .u8 _ _ Try.underlying5, run_equalIn_int (P := Try.prog) _ _ 23 .u16 .u16 _ _ Try.underlying23, run_equalIn_int (P := Try.prog) _ _ 22 .u32 .u32 _ _ Try.underlying22, eqArr _ d _ _ k.src k.src, eqArr _ d _ _ k.dst k.dst, Sem.run_pure]
  simp
theorem run_eq6 (w : World) (h : H6) (k : h.ok) : (binOp .eql 26 (.agg h.cs.toArray) (.agg h.cs.toArray)).run Try.prog w = .ok (.bool true) w := by
  rw [run_eql_struct, eq6 w 9997 h k]
  rfl
/-- The document's headers, one and the same. -/
theorem eqr6 (w : World) (h : H6) : (Op.equalIn 10000 30 (.agg (r6c h).toArray) (.agg (r6c h).toArray)).run Try.prog w = .ok true w := by
  have t29 := Try.underlying30
  simp only [r6c]
  go_simp
theorem run_neqr6 (w : World) (h : H6) : (binOp .neq 30 (.agg (r6c h).toArray) (.agg (r6c h).toArray)).run Try.prog w = .ok (.bool false) w := by
  rw [run_neq_struct, eqr6]
  rfl
end Go.Proofs.Ythipnkaghddbhaa

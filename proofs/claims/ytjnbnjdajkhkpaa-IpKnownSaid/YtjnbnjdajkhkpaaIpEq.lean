/-
  How headers are compared: four bytes as a whole, headers as the document has them, and texts of bytes. Conditions: bytes; four of them in an address.
-/
import Derived.Test.YtjnbnjdajkhkpaaIpRPut
namespace Go.Proofs.Ytjnbnjdajkhkpaa
open Go.RowKit

theorem size_u8 (w : World) : (sizeOf 5).run Try.prog w = .ok 1 w := by
  obtain ⟨i0, hi, _, hz1, _⟩ := info_parts u8_info
  simp [sizeOf, typeInfo, hi, hz1]
theorem part_u8 (w : World) (xs : List Int) (i : Nat) (h : i < xs.length) : (part 5 (bv xs).toArray i).run Try.prog w = .ok (.int .u8 (xs.getD i 0)) w := by
  simp [part, isAgg, run_underlying Try.underlying5, bv, h]
theorem drop_part {xs ys : List Int} {i : Nat} (hx : i < xs.length) (hy : i < ys.length) : (xs.drop i = ys.drop i) ↔ (xs.getD i 0 = ys.getD i 0 ∧ xs.drop (i + 1) = ys.drop (i + 1)) := by
  rw [List.drop_eq_getElem_cons hx, List.drop_eq_getElem_cons hy, List.cons.injEq]
  simp only [List.getD_eq_getElem?_getD, List.getElem?_eq_getElem hx, List.getElem?_eq_getElem hy, Option.getD_some]
theorem eqLoop4 (d : Nat) (xs ys : List Int) (hx : xs.length = 4) (hy : ys.length = 4) : ∀ (n i : Nat) (w : World), i + n = 4 →
    (forIn (List.range' i n) ((none : Option Bool), ()) fun i __s => (do
      let a ← part 5 (bv xs).toArray (i * 1)
      let b ← part 5 (bv ys).toArray (i * 1)
      let r ← Op.equalIn (d + 1) 5 a b
      if (!r) = true then pure (ForInStep.done (some false, ())) else pure (ForInStep.yield (none, ())) : Sem (ForInStep (Option Bool × Unit)))).run Try.prog w
      = .ok (if xs.drop i = ys.drop i then (none, ()) else (some false, ())) w
  | 0, i, w, h => by
    have e1 : xs.drop i = [] := List.drop_eq_nil_of_le (by omega)
    have e2 : ys.drop i = [] := List.drop_eq_nil_of_le (by omega)
    simp [e1, e2]
  | n + 1, i, w, h => by
    have ih := eqLoop4 d xs ys hx hy n (i + 1) w (by omega)
    have hi : i < xs.length := by omega
    have hj : i < ys.length := by omega
    simp only [List.range'_succ, List.forIn_cons, Sem.run_bind, Nat.mul_one, part_u8 w xs i hi, part_u8 w ys i hj, Result.andThen_ok, run_equalIn_int (P := Try.prog) w d 5 .u8 .u8 _ _ Try.underlying5] at ih ⊢
    by_cases e : xs.getD i 0 = ys.getD i 0
    · simp only [e, beq_self_eq_true, Bool.not_true, Bool.false_eq_true, if_false, Sem.run_pure, Result.andThen_ok]
      rw [ih]
      simp only [drop_part hi hj, e, true_and]
    · have e' : (xs.getD i 0 == ys.getD i 0) = false := by simpa using e
      simp only [e', Bool.not_false, if_true, Sem.run_pure, Result.andThen_ok]
      rw [if_neg (by rw [drop_part hi hj]; exact fun h => e h.1)]
theorem eqArr4 (w : World) (d : Nat) (xs ys : List Int) (hx : xs.length = 4) (hy : ys.length = 4) :
    (Op.equalIn (d + 2) 23 (.agg (bv xs).toArray) (.agg (bv ys).toArray)).run Try.prog w = .ok (decide (xs = ys)) w := by
  rw [Op.equalIn]
  simp only [Sem.run_bind, run_underlying Try.underlying23, Result.andThen_ok, size_u8, Std.Legacy.Range.forIn_eq_forIn_range']
  have := eqLoop4 d xs ys hx hy 4 0 w rfl
  simp only [List.drop_zero] at this
  rw [show [:4].size = 4 from rfl, this]
  by_cases e : xs = ys <;> simp [e]
theorem run_eqArr4 (w : World) (xs ys : List Int) (hx : xs.length = 4) (hy : ys.length = 4) : (binOp .eql 23 (.agg (bv xs).toArray) (.agg (bv ys).toArray)).run Try.prog w = .ok (.bool (decide (xs = ys))) w := by
  rw [run_eql_struct, eqArr4 w 9998 xs ys hx hy]
  rfl
/-- Are two headers the same, part by part? -/
def smH (h g : Hd) : Bool :=
  decide (h.tos = g.tos) && (decide (h.tot = g.tot) && (decide (h.id = g.id) && (decide (h.df = g.df) && (decide (h.mf = g.mf) && (decide (h.frag = g.frag) && (decide (h.ttl = g.ttl) && (decide (h.pro = g.pro) && (decide (h.src = g.src) && (decide (h.dst = g.dst) && decide (h.op = g.op))))))))))
theorem str_eq {xs ys : List Int} (hx : Byt xs) (hy : Byt ys) : ((str xs).toList = (str ys).toList) ↔ xs = ys := by
  rw [str_list, str_list]
  exact ⟨ub_inj hx hy, fun h => by rw [h]⟩
theorem run_eqRH (w : World) (h g : Hd) {w1 w2 : World} (k : h.ok w1) (l : g.ok w2) : (binOp .eql 29 (.agg (rhc h).toArray) (.agg (rhc g).toArray)).run Try.prog w = .ok (.bool (smH h g)) w := by
  rw [run_eql_struct]
  have t29 := Try.underlying29
  have e1 := str_eq k.srcb l.srcb
  have e2 := str_eq k.dstb l.dstb
  have e3 := str_eq k.row.byt l.row.byt
  clear k l
  simp only [rhc]
  go_simp
  unfold smH
  (repeat' split) <;> simp_all

theorem bEqual_any (a b : Option Addr) (n c m d : Nat) (xs ys : List Int) (w : World) (hn : xs.length = n) (hm : ys.length = m) (hx : Rd w a xs) (hy : Rd w b ys) (bx : Byt xs) (by_ : Byt ys) :
    Calls Try.prog 33 #[.slice a n c, .slice b m d] w fun e w' => e = .returned (.bool (decide (xs = ys))) ∧ w = w' := by
  have h1 := run_string_rd w c hn hx bx
  have h2 := run_string_rd w d hm hy by_
  have HI : Hid (ub xs = ub ys → xs = ys) := ub_inj bx by_
  clear hn hm hx hy bx by_
  go_enter Try.func33, Try.ntmps33
  go_wp2
  go_ret
  have he : (ub xs == ub ys) = decide (xs = ys) := by
    rw [Bool.eq_iff_iff, decide_eq_true_eq, beq_iff_eq]
    exact ⟨HI.out, fun h => by rw [h]⟩
  exact ⟨by rw [he]; rfl, rfl⟩

theorem srcRange {w : World} {b : Nat} {h : Hd} (hr : w.rangeAt b 0 h.cs) : w.rangeAt b 8 (bv h.src) := fun j v hv => by
  have hj := (List.getElem?_eq_some_iff.1 hv).1
  have := hr (8 + j) v (by
    have e : h.cs[8 + j]? = (bv h.src ++ (bv h.dst ++ [.slice h.a h.n h.c]))[j]? := by rw [Nat.add_comm]; rfl
    rw [e, List.getElem?_append_left hj]; exact hv)
  rwa [Nat.zero_add] at this
theorem dstRange {w : World} {b : Nat} {h : Hd} (hs : h.src.length = 4) (hr : w.rangeAt b 0 h.cs) : w.rangeAt b 12 (bv h.dst) := fun j v hv => by
  have hj := (List.getElem?_eq_some_iff.1 hv).1
  have := hr (12 + j) v (by
    have e : h.cs[12 + j]? = (bv h.src ++ (bv h.dst ++ [.slice h.a h.n h.c]))[4 + j]? := by rw [show 12 + j = (4 + j) + 8 by omega]; rfl
    rw [e, List.getElem?_append_right (by rw [bv_length]; omega), bv_length, hs, Nat.add_sub_cancel_left, List.getElem?_append_left hj]; exact hv)
  rwa [Nat.zero_add] at this
/-- Four bytes are loaded, under a guard that lets it be. -/
theorem ld4g {ops : Array Oper} {rest : List Oper} {o : Oper} {a : Act} {w : World} {Q : Exit → Act → World → Prop} (x : Operand) (ho : o.op = .load 23 x) (hw : Region.wanted o (yielded ops a.tmps) = true) (b off : Nat) (hx : a.eval x = .pointer (some ⟨b, off, none⟩)) (xs : List Int) (hl : xs.length = 4) (hc : w.rangeAt b off (bv xs))
    (k : wpList Try.prog ops Q rest (a.put o.dst (.agg (bv xs).toArray)) w) : wpList Try.prog ops Q (o :: rest) a w :=
  wpList_step fun K hK => by rw [if_pos hw]; exact wp_load_mid _ x ho b off hx (bv xs) _ hc Try.underlying23 rfl (by rw [bv_length, hl]; exact inf4) (hK _ _ k)
end Go.Proofs.Ytjnbnjdajkhkpaa

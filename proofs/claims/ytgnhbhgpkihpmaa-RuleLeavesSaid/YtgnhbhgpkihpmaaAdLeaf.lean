/-
  Addresses as they lie in slots and in memory, and the laws by which they are loaded, stored, built and compared as wholes. Conditions: sixteen bytes.
-/
import Derived.Test.YtgnhbhgpkihpmaaKit
import Derived.Outline
import Derived.Laws.StructEq
import Derived.WalkMore
import Derived.Deep.MidRow
namespace Go.Proofs.Ytgnhbhgpkihpmaa
open Go.RowKit

/-- The cells of an address. -/
def adl (s : Bool) (xs : List Int) : List Value := .bool s :: bv xs
/-- The cells of a prefix. -/
def pfl (s : Bool) (xs : List Int) (n : Int) : List Value := .bool s :: (bv xs ++ [.int .i64 n])
theorem adl_len (s : Bool) (xs : List Int) (h : xs.length = 16) : (adl s xs).length = 17 := by simp [adl, bv, h]
theorem pfl_len (s : Bool) (xs : List Int) (n : Int) (h : xs.length = 16) : (pfl s xs n).length = 18 := by simp [pfl, bv, h]
theorem adl_one (s : Bool) (xs : List Int) : ∀ v ∈ adl s xs, v.oneCell' = true := by
  intro v hv
  rcases List.mem_cons.1 hv with rfl | hv
  · rfl
  · exact bv_one xs v hv
theorem pfl_one (s : Bool) (xs : List Int) (n : Int) : ∀ v ∈ pfl s xs n, v.oneCell' = true := by
  intro v hv
  rcases List.mem_cons.1 hv with rfl | hv
  · rfl
  · rcases List.mem_append.1 hv with hv | hv
    · exact bv_one xs v hv
    · simp at hv; subst hv; rfl

theorem inf16 : (Try.prog.info? 23).map (·.size) = some 16 := by kernel_rfl
theorem infA : (Try.prog.info? 25).map (·.size) = some 17 := by kernel_rfl
theorem infP : (Try.prog.info? 39).map (·.size) = some 18 := by kernel_rfl
/-- A list of sixteen is so many things. -/
theorem list16 {α : Type} (xs : List α) (h : xs.length = 16) : ∃ a b c d e f g i j k l m n o p q, xs = [a, b, c, d, e, f, g, i, j, k, l, m, n, o, p, q] := by
  match xs, h with
  | [a, b, c, d, e, f, g, i, j, k, l, m, n, o, p, q], _ => exact ⟨a, b, c, d, e, f, g, i, j, k, l, m, n, o, p, q, rfl⟩

theorem wpList_build_run {P : Program} {ops : Array Oper} {rest : List Oper} {o : Oper} {a : Act} {w : World} {Q : Exit → Act → World → Prop} (hgd : o.guard = none) (t : TypeId) (parts : Array (Nat × Operand)) (ho : o.op = .build t parts)
    {cells : Array Value} (hc : P.built t (parts.toList.map fun x => (x.1, a.eval x.2)) = some cells) (h : wpList P ops Q rest (a.put o.dst (.agg cells)) w) : wpList P ops Q (o :: rest) a w :=
  wpList_plain hgd fun _ hK => by
    have hc' : P.built t (parts.map fun (i, x) => (i, a.eval x)).toList = some cells := by rw [← hc]; simp
    unfold Oper.wp execOp
    simp only [ho, Sem.run_bind, run_build w t _ cells hc', Result.andThen_ok]
    exact hK _ _ h

theorem adl_range (w : World) (s : Bool) (xs : List Int) (t : TypeId) : (w.alloc (.cells (adl s xs).toArray t)).rangeAt w.heap.size 0 (adl s xs) := fun j v hv => by
  rw [cell_of_row _ w.heap.size (0 + j) _ t (0, 0) (Blk_new w _ _)]; simpa using hv
theorem adl_bytes {w : World} {b : Nat} {s : Bool} {xs : List Int} (h : w.rangeAt b 0 (adl s xs)) : w.rangeAt b 1 (bv xs) := fun j v hv => by
  have := h (j + 1) v (by simpa [adl] using hv)
  rw [show 0 + (j + 1) = 1 + j by omega] at this; exact this
theorem adl_six {w : World} {b : Nat} {s : Bool} {xs : List Int} (h : w.rangeAt b 0 (adl s xs)) : w.cell? ⟨b, 0, none⟩ = some (.bool s) := h 0 _ rfl

section
variable {ops : Array Oper} {rest : List Oper} {o : Oper} {a : Act} {w : World} {Q : Exit → Act → World → Prop}
/-- Sixteen bytes are loaded. -/
theorem ld16 (x : Operand) (ho : o.op = .load 23 x) (hgd : o.guard = none) (b off : Nat) (hx : a.eval x = .pointer (some ⟨b, off, none⟩)) (xs : List Int) (hl : xs.length = 16) (hc : w.rangeAt b off (bv xs))
    (h : wpList Try.prog ops Q rest (a.put o.dst (.agg (bv xs).toArray)) w) : wpList Try.prog ops Q (o :: rest) a w :=
  wpList_load_mid hgd _ x ho b off hx (bv xs) _ hc Try.underlying23 rfl (by rw [bv_length, hl]; exact inf16) h
/-- An address is loaded. -/
theorem ldA (x : Operand) (ho : o.op = .load 25 x) (hgd : o.guard = none) (b off : Nat) (hx : a.eval x = .pointer (some ⟨b, off, none⟩)) (s : Bool) (xs : List Int) (hl : xs.length = 16) (hc : w.rangeAt b off (adl s xs))
    (h : wpList Try.prog ops Q rest (a.put o.dst (.agg (adl s xs).toArray)) w) : wpList Try.prog ops Q (o :: rest) a w :=
  wpList_load_mid hgd _ x ho b off hx (adl s xs) _ hc Try.underlying25 rfl (by rw [adl_len s xs hl]; exact infA) h
theorem ldP (x : Operand) (ho : o.op = .load 39 x) (hgd : o.guard = none) (b off : Nat) (hx : a.eval x = .pointer (some ⟨b, off, none⟩)) (s : Bool) (xs : List Int) (n : Int) (hl : xs.length = 16) (hc : w.rangeAt b off (pfl s xs n))
    (h : wpList Try.prog ops Q rest (a.put o.dst (.agg (pfl s xs n).toArray)) w) : wpList Try.prog ops Q (o :: rest) a w :=
  wpList_load_mid hgd _ x ho b off hx (pfl s xs n) _ hc Try.underlying39 rfl (by rw [pfl_len s xs n hl]; exact infP) h
/-- Cells are stored, as one thing. -/
theorem stC (t : TypeId) (x y : Operand) (ho : o.op = .store t x y) (hgd : o.guard = none) (b off : Nat) (cs : List Value) (hx : a.eval x = .pointer (some ⟨b, off, none⟩)) (hy : a.eval y = .agg cs.toArray)
    (ht : w.there b off cs.length) (hi : (Try.prog.info? t).map (·.size) = some cs.length) (h1 : ∀ v ∈ cs, v.oneCell' = true)
    (h : wpList Try.prog ops Q rest (a.put o.dst undef) (w.setCells b off cs)) : wpList Try.prog ops Q (o :: rest) a w :=
  wpList_store_mid hgd t x y ho b off cs.toArray hx hy (by simpa using ht) (by simpa using hi) (all_oneCell_toArray h1) (by simpa using h)
theorem stA (x y : Operand) (ho : o.op = .store 25 x y) (hgd : o.guard = none) (b off : Nat) (s : Bool) (xs : List Int) (hx : a.eval x = .pointer (some ⟨b, off, none⟩)) (hy : a.eval y = .agg (adl s xs).toArray) (hl : xs.length = 16)
    (ht : w.there b off 17) (h : wpList Try.prog ops Q rest (a.put o.dst undef) (w.setCells b off (adl s xs))) : wpList Try.prog ops Q (o :: rest) a w :=
  stC _ x y ho hgd b off _ hx hy (by rw [adl_len s xs hl]; exact ht) (by rw [adl_len s xs hl]; exact infA) (adl_one s xs) h
theorem stP (x y : Operand) (ho : o.op = .store 39 x y) (hgd : o.guard = none) (b off : Nat) (s : Bool) (xs : List Int) (n : Int) (hx : a.eval x = .pointer (some ⟨b, off, none⟩)) (hy : a.eval y = .agg (pfl s xs n).toArray) (hl : xs.length = 16)
    (ht : w.there b off 18) (h : wpList Try.prog ops Q rest (a.put o.dst undef) (w.setCells b off (pfl s xs n))) : wpList Try.prog ops Q (o :: rest) a w :=
  stC _ x y ho hgd b off _ hx hy (by rw [pfl_len s xs n hl]; exact ht) (by rw [pfl_len s xs n hl]; exact infP) (pfl_one s xs n) h
theorem st16 (x y : Operand) (ho : o.op = .store 23 x y) (hgd : o.guard = none) (b off : Nat) (xs : List Int) (hx : a.eval x = .pointer (some ⟨b, off, none⟩)) (hy : a.eval y = .agg (bv xs).toArray) (hl : xs.length = 16)
    (ht : w.there b off 16) (h : wpList Try.prog ops Q rest (a.put o.dst undef) (w.setCells b off (bv xs))) : wpList Try.prog ops Q (o :: rest) a w :=
  stC _ x y ho hgd b off _ hx hy (by rw [bv_length, hl]; exact ht) (by rw [bv_length, hl]; exact inf16) (bv_one xs) h
end
theorem ret_mid {P : Program} {fn : Func} {p : Tmp} {ty : TypeId} (h : fn.results = #[.cell p ty]) (tmps : Array Value) (w : World) (b off : Nat) (cs : List Value) (d : TypeDesc) (hp : tmps.getD p undef = .pointer (some ⟨b, off, none⟩)) (hc : w.rangeAt b off cs)
    (hu : P.underlying ty = some d) (hd : d.isRow = true) (hi : (P.info? ty).map (·.size) = some cs.length) : (results fn tmps).run P w = .ok (.agg cs.toArray) w := by
  have hp' : tmps[p]?.getD undef = .pointer (some ⟨b, off, none⟩) := by simpa using hp
  simp [results, h, hp', asAddr, run_loadVar_mid w b off ty cs d hc hu hd hi]
theorem Below.setCells {B : Nat} {w w' : World} (h : Below B w w') (b : Nat) (hb : B ≤ b) : ∀ (vs : List Value) (off : Nat) , Below B w (w'.setCells b off vs)
  | [], _ => h
  | v :: r, off => by rw [World.setCells]; exact Below.setCells (h.setCell (p := ⟨b, off, none⟩) hb v) b hb r (off + 1)
theorem there_new (w : World) (cs : Array Value) (t : TypeId) (n : Nat) (hn : cs.size = n) (g : Nat) (hg : w.heap.size = g) : (w.alloc (.cells cs t)).there g 0 n := fun j hj => by
  subst hg
  rw [cell_of_row _ w.heap.size (0 + j) _ t (0, 0) (Blk_new w _ _), frozen_of_row _ w.heap.size (0 + j) cs t (Blk_new w _ _)]
  simp [hn, hj]

/-- What is handed back; the world has new blocks at most. -/
def Gives (w : World) (v : Value) (e : Ending) (w' : World) : Prop := e = .returned v ∧ Below w.heap.size w w'

/-- How many bytes, and binary digits, an address has. -/
def szA (s : Bool) : Int := if s then 16 else 4
def dgA (s : Bool) : Int := if s then 128 else 32
theorem szA_b (s : Bool) : 4 ≤ szA s ∧ szA s ≤ 16 := by cases s <;> decide
theorem dgA_b (s : Bool) : 32 ≤ dgA s ∧ dgA s ≤ 128 := by cases s <;> decide
theorem dgA_sz (s : Bool) : szA s * 8 = dgA s := by cases s <;> decide
theorem aSize_any (s : Bool) (xs : List Int) (w : World) : Calls Try.prog 62 #[.agg (adl s xs).toArray] w (Gives w (.int .i64 (szA s))) := by
  have hC : (adl s xs).toArray[0]? = some (.bool s) := by simp [adl]
  cases s <;>
  · go_enter Try.func62, Try.ntmps62
    go_wp2_with fail
    go_ret
    exact ⟨rfl, (Below.refl _ _).alloc (Nat.le_refl _) _⟩

theorem aDigits_any (s : Bool) (xs : List Int) (w : World) (hl : xs.length = 16) : Calls Try.prog 61 #[.agg (adl s xs).toArray] w (Gives w (.int .i64 (dgA s))) := by
  have HL := Lib.hid hl
  clear hl
  go_enter Try.func61, Try.ntmps61
  go_wp2_with (first
    | (refine ldA _ rfl rfl _ _ rfl s xs HL.out (adl_range w s xs _) ?_))
  refine (aSize_any s xs _).mono ?_
  rintro e w1 ⟨rfl, hb⟩
  have HB := Lib.hid hb
  have HD := Lib.hid (dgA_sz s)
  obtain ⟨h1, h2⟩ := szA_b s
  obtain ⟨z, hz⟩ : ∃ z, szA s = z := ⟨_, rfl⟩
  rw [hz] at HD h1 h2 ⊢
  clear hb hz
  go_wp2_with fail
  go_ret
  exact ⟨by rw [HD.out]; rfl, ((Below.refl _ _).alloc (Nat.le_refl _) _).trans (HB.out.mono (by simp))⟩

end Go.Proofs.Ytgnhbhgpkihpmaa

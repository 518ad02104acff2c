/-
  Addresses as they lie in slots and in memory, and the laws by which they are loaded, stored, built and compared as wholes. Conditions: sixteen bytes.
-/
import Derived.Test.YtbnfmiopgjmppaaDoorKit
import Derived.Outline
import Derived.Laws.StructEq
import Derived.WalkMore
import Derived.Deep.MidRow
namespace Go.Proofs.YtbnfmiopgjmppaaDoor
open Go.RowKit

/-- The cells of an address. -/
def adl (s : Bool) (xs : List Int) : List Value := .bool s :: bv xs
/-- The cells of a prefix. -/
def pfl (s : Bool) (xs : List Int) (n : Int) : List Value := .bool s :: (bv xs ++ [.int .i64 n])
theorem adl_len (s : Bool) (xs : List Int) (h : xs.length = 16) : (adl s xs).length = 17 := by simp [adl, bv, h]
theorem pfl_len (s : Bool) (xs : List Int) (n : Int) (h : xs.length = 16) : (pfl s xs n).length = 18 := by simp [pfl, bv, h]
theorem adl_one (s : Bool) (xs : List Int) : ∀ v ∈ adl s xs, v.oneCell' = true := by
  intro v hv
  rcases List.mem_cons.1 hv with rfl | hv
  · rfl
  · exact bv_one xs v hv
theorem pfl_one (s : Bool) (xs : List Int) (n : Int) : ∀ v ∈ pfl s xs n, v.oneCell' = true := by
  intro v hv
  rcases List.mem_cons.1 hv with rfl | hv
  · rfl
  · rcases List.mem_append.1 hv with hv | hv
    · exact bv_one xs v hv
    · simp at hv; subst hv; rfl

theorem inf16 : (Tryd.prog.info? 22).map (·.size) = some 16 := by kernel_rfl
theorem infA : (Tryd.prog.info? 24).map (·.size) = some 17 := by kernel_rfl
theorem infR : (Tryd.prog.info? 27).map (·.size) = some 17 := by kernel_rfl
theorem infP : (Tryd.prog.info? 48).map (·.size) = some 18 := by kernel_rfl
theorem infQ : (Tryd.prog.info? 52).map (·.size) = some 18 := by kernel_rfl

/-- A list of sixteen is so many things. -/
theorem list16 {α : Type} (xs : List α) (h : xs.length = 16) : ∃ a b c d e f g i j k l m n o p q, xs = [a, b, c, d, e, f, g, i, j, k, l, m, n, o, p, q] := by
  match xs, h with
  | [a, b, c, d, e, f, g, i, j, k, l, m, n, o, p, q], _ => exact ⟨a, b, c, d, e, f, g, i, j, k, l, m, n, o, p, q, rfl⟩

theorem builtR (s : Bool) (xs : List Int) (h : xs.length = 16) : Tryd.prog.built 27 [(0, .bool s), (1, .agg (bv xs).toArray)] = some (adl s xs).toArray := by
  obtain ⟨a, b, c, d, e, f, g, i, j, k, l, m, n, o, p, q, rfl⟩ := list16 xs h
  kernel_rfl

theorem wpList_build_run {P : Program} {ops : Array Oper} {rest : List Oper} {o : Oper} {a : Act} {w : World} {Q : Exit → Act → World → Prop} (hgd : o.guard = none) (t : TypeId) (parts : Array (Nat × Operand)) (ho : o.op = .build t parts)
    {cells : Array Value} (hc : P.built t (parts.toList.map fun x => (x.1, a.eval x.2)) = some cells) (h : wpList P ops Q rest (a.put o.dst (.agg cells)) w) : wpList P ops Q (o :: rest) a w :=
  wpList_plain hgd fun _ hK => by
    have hc' : P.built t (parts.map fun (i, x) => (i, a.eval x)).toList = some cells := by rw [← hc]; simp
    unfold Oper.wp execOp
    simp only [ho, Sem.run_bind, run_build w t _ cells hc', Result.andThen_ok]
    exact hK _ _ h

theorem adl_range (w : World) (s : Bool) (xs : List Int) (t : TypeId) : (w.alloc (.cells (adl s xs).toArray t)).rangeAt w.heap.size 0 (adl s xs) := fun j v hv => by
  rw [cell_of_row _ w.heap.size (0 + j) _ t (0, 0) (Blk_new w _ _)]; simpa using hv
theorem adl_bytes {w : World} {b : Nat} {s : Bool} {xs : List Int} (h : w.rangeAt b 0 (adl s xs)) : w.rangeAt b 1 (bv xs) := fun j v hv => by
  have := h (j + 1) v (by simpa [adl] using hv)
  rw [show 0 + (j + 1) = 1 + j by omega] at this; exact this
theorem adl_six {w : World} {b : Nat} {s : Bool} {xs : List Int} (h : w.rangeAt b 0 (adl s xs)) : w.cell? ⟨b, 0, none⟩ = some (.bool s) := h 0 _ rfl

section
variable {ops : Array Oper} {rest : List Oper} {o : Oper} {a : Act} {w : World} {Q : Exit → Act → World → Prop}
/-- Sixteen bytes are loaded. -/
theorem ld16 (x : Operand) (ho : o.op = .load 22 x) (hgd : o.guard = none) (b off : Nat) (hx : a.eval x = .pointer (some ⟨b, off, none⟩)) (xs : List Int) (hl : xs.length = 16) (hc : w.rangeAt b off (bv xs))
    (h : wpList Tryd.prog ops Q rest (a.put o.dst (.agg (bv xs).toArray)) w) : wpList Tryd.prog ops Q (o :: rest) a w :=
  wpList_load_mid hgd _ x ho b off hx (bv xs) _ hc Tryd.underlying22 rfl (by rw [bv_length, hl]; exact inf16) h
/-- An address is loaded. -/
theorem ldA (x : Operand) (ho : o.op = .load 24 x) (hgd : o.guard = none) (b off : Nat) (hx : a.eval x = .pointer (some ⟨b, off, none⟩)) (s : Bool) (xs : List Int) (hl : xs.length = 16) (hc : w.rangeAt b off (adl s xs))
    (h : wpList Tryd.prog ops Q rest (a.put o.dst (.agg (adl s xs).toArray)) w) : wpList Tryd.prog ops Q (o :: rest) a w :=
  wpList_load_mid hgd _ x ho b off hx (adl s xs) _ hc Tryd.underlying24 rfl (by rw [adl_len s xs hl]; exact infA) h
theorem ldR (x : Operand) (ho : o.op = .load 27 x) (hgd : o.guard = none) (b off : Nat) (hx : a.eval x = .pointer (some ⟨b, off, none⟩)) (s : Bool) (xs : List Int) (hl : xs.length = 16) (hc : w.rangeAt b off (adl s xs))
    (h : wpList Tryd.prog ops Q rest (a.put o.dst (.agg (adl s xs).toArray)) w) : wpList Tryd.prog ops Q (o :: rest) a w :=
  wpList_load_mid hgd _ x ho b off hx (adl s xs) _ hc Tryd.underlying27 rfl (by rw [adl_len s xs hl]; exact infR) h
theorem ldP (x : Operand) (ho : o.op = .load 48 x) (hgd : o.guard = none) (b off : Nat) (hx : a.eval x = .pointer (some ⟨b, off, none⟩)) (s : Bool) (xs : List Int) (n : Int) (hl : xs.length = 16) (hc : w.rangeAt b off (pfl s xs n))
    (h : wpList Tryd.prog ops Q rest (a.put o.dst (.agg (pfl s xs n).toArray)) w) : wpList Tryd.prog ops Q (o :: rest) a w :=
  wpList_load_mid hgd _ x ho b off hx (pfl s xs n) _ hc Tryd.underlying48 rfl (by rw [pfl_len s xs n hl]; exact infP) h
theorem ldQ (x : Operand) (ho : o.op = .load 52 x) (hgd : o.guard = none) (b off : Nat) (hx : a.eval x = .pointer (some ⟨b, off, none⟩)) (s : Bool) (xs : List Int) (n : Int) (hl : xs.length = 16) (hc : w.rangeAt b off (pfl s xs n))
    (h : wpList Tryd.prog ops Q rest (a.put o.dst (.agg (pfl s xs n).toArray)) w) : wpList Tryd.prog ops Q (o :: rest) a w :=
  wpList_load_mid hgd _ x ho b off hx (pfl s xs n) _ hc Tryd.underlying52 rfl (by rw [pfl_len s xs n hl]; exact infQ) h
/-- Cells are stored, as one thing. -/
theorem stC (t : TypeId) (x y : Operand) (ho : o.op = .store t x y) (hgd : o.guard = none) (b off : Nat) (cs : List Value) (hx : a.eval x = .pointer (some ⟨b, off, none⟩)) (hy : a.eval y = .agg cs.toArray)
    (ht : w.there b off cs.length) (hi : (Tryd.prog.info? t).map (·.size) = some cs.length) (h1 : ∀ v ∈ cs, v.oneCell' = true)
    (h : wpList Tryd.prog ops Q rest (a.put o.dst undef) (w.setCells b off cs)) : wpList Tryd.prog ops Q (o :: rest) a w :=
  wpList_store_mid hgd t x y ho b off cs.toArray hx hy (by simpa using ht) (by simpa using hi) (all_oneCell_toArray h1) (by simpa using h)
theorem stA (x y : Operand) (ho : o.op = .store 24 x y) (hgd : o.guard = none) (b off : Nat) (s : Bool) (xs : List Int) (hx : a.eval x = .pointer (some ⟨b, off, none⟩)) (hy : a.eval y = .agg (adl s xs).toArray) (hl : xs.length = 16)
    (ht : w.there b off 17) (h : wpList Tryd.prog ops Q rest (a.put o.dst undef) (w.setCells b off (adl s xs))) : wpList Tryd.prog ops Q (o :: rest) a w :=
  stC _ x y ho hgd b off _ hx hy (by rw [adl_len s xs hl]; exact ht) (by rw [adl_len s xs hl]; exact infA) (adl_one s xs) h
theorem stR (x y : Operand) (ho : o.op = .store 27 x y) (hgd : o.guard = none) (b off : Nat) (s : Bool) (xs : List Int) (hx : a.eval x = .pointer (some ⟨b, off, none⟩)) (hy : a.eval y = .agg (adl s xs).toArray) (hl : xs.length = 16)
    (ht : w.there b off 17) (h : wpList Tryd.prog ops Q rest (a.put o.dst undef) (w.setCells b off (adl s xs))) : wpList Tryd.prog ops Q (o :: rest) a w :=
  stC _ x y ho hgd b off _ hx hy (by rw [adl_len s xs hl]; exact ht) (by rw [adl_len s xs hl]; exact infR) (adl_one s xs) h
theorem stP (x y : Operand) (ho : o.op = .store 48 x y) (hgd : o.guard = none) (b off : Nat) (s : Bool) (xs : List Int) (n : Int) (hx : a.eval x = .pointer (some ⟨b, off, none⟩)) (hy : a.eval y = .agg (pfl s xs n).toArray) (hl : xs.length = 16)
    (ht : w.there b off 18) (h : wpList Tryd.prog ops Q rest (a.put o.dst undef) (w.setCells b off (pfl s xs n))) : wpList Tryd.prog ops Q (o :: rest) a w :=
  stC _ x y ho hgd b off _ hx hy (by rw [pfl_len s xs n hl]; exact ht) (by rw [pfl_len s xs n hl]; exact infP) (pfl_one s xs n) h
theorem stQ (x y : Operand) (ho : o.op = .store 52 x y) (hgd : o.guard = none) (b off : Nat) (s : Bool) (xs : List Int) (n : Int) (hx : a.eval x = .pointer (some ⟨b, off, none⟩)) (hy : a.eval y = .agg (pfl s xs n).toArray) (hl : xs.length = 16)
    (ht : w.there b off 18) (h : wpList Tryd.prog ops Q rest (a.put o.dst undef) (w.setCells b off (pfl s xs n))) : wpList Tryd.prog ops Q (o :: rest) a w :=
  stC _ x y ho hgd b off _ hx hy (by rw [pfl_len s xs n hl]; exact ht) (by rw [pfl_len s xs n hl]; exact infQ) (pfl_one s xs n) h
theorem st16 (x y : Operand) (ho : o.op = .store 22 x y) (hgd : o.guard = none) (b off : Nat) (xs : List Int) (hx : a.eval x = .pointer (some ⟨b, off, none⟩)) (hy : a.eval y = .agg (bv xs).toArray) (hl : xs.length = 16)
    (ht : w.there b off 16) (h : wpList Tryd.prog ops Q rest (a.put o.dst undef) (w.setCells b off (bv xs))) : wpList Tryd.prog ops Q (o :: rest) a w :=
  stC _ x y ho hgd b off _ hx hy (by rw [bv_length, hl]; exact ht) (by rw [bv_length, hl]; exact inf16) (bv_one xs) h
end
theorem ret_mid {P : Program} {fn : Func} {p : Tmp} {ty : TypeId} (h : fn.results = #[.cell p ty]) (tmps : Array Value) (w : World) (b off : Nat) (cs : List Value) (d : TypeDesc) (hp : tmps.getD p undef = .pointer (some ⟨b, off, none⟩)) (hc : w.rangeAt b off cs)
    (hu : P.underlying ty = some d) (hd : d.isRow = true) (hi : (P.info? ty).map (·.size) = some cs.length) : (results fn tmps).run P w = .ok (.agg cs.toArray) w := by
  have hp' : tmps[p]?.getD undef = .pointer (some ⟨b, off, none⟩) := by simpa using hp
  simp [results, h, hp', asAddr, run_loadVar_mid w b off ty cs d hc hu hd hi]
theorem Below.setCells {B : Nat} {w w' : World} (h : Below B w w') (b : Nat) (hb : B ≤ b) : ∀ (vs : List Value) (off : Nat) , Below B w (w'.setCells b off vs)
  | [], _ => h
  | v :: r, off => by rw [World.setCells]; exact Below.setCells (h.setCell (p := ⟨b, off, none⟩) hb v) b hb r (off + 1)
theorem there_new (w : World) (cs : Array Value) (t : TypeId) (n : Nat) (hn : cs.size = n) (g : Nat) (hg : w.heap.size = g) : (w.alloc (.cells cs t)).there g 0 n := fun j hj => by
  subst hg
  rw [cell_of_row _ w.heap.size (0 + j) _ t (0, 0) (Blk_new w _ _), frozen_of_row _ w.heap.size (0 + j) cs t (Blk_new w _ _)]
  simp [hn, hj]

/-- What is handed back; the world has new blocks at most. -/
def Gives (w : World) (v : Value) (e : Ending) (w' : World) : Prop := e = .returned v ∧ Below w.heap.size w w'

set_option maxHeartbeats 1000000 in
theorem dAddr_any (s : Bool) (xs : List Int) (w : World) (hl : xs.length = 16) : Calls Tryd.prog 7 #[.agg (adl s xs).toArray] w (Gives w (.agg (adl s xs).toArray)) := by
  have HL := Lib.hid hl
  have hC : (adl s xs).toArray[0]? = some (.bool s) := by simp [adl]
  clear hl
  go_enter Tryd.func7, Tryd.ntmps7
  go_wp2_with (first
    | (refine ld16 _ rfl rfl _ _ rfl xs HL.out (World.rangeAt_alloc (adl_bytes (adl_range w s xs _)) _) ?_)
    | (refine wpList_build_run (cells := (adl s xs).toArray) rfl 27 _ rfl ?_ ?_; · exact builtR s xs HL.out)
    | (refine stR _ _ rfl rfl _ _ s xs rfl rfl HL.out (there_new _ _ _ _ rfl _ (by simp)) ?_))
  refine bodyPost_ret (v := .agg (adl s xs).toArray) (ret_mid Tryd.results7 _ _ _ _ (adl s xs) _ rfl (World.rangeAt_setCells_same _ _ _ _ ?_) Tryd.underlying27 rfl ?_) rfl ⟨rfl, ?_⟩
  · rw [adl_len s xs HL.out]; exact there_new _ _ _ _ rfl _ (by simp)
  · rw [adl_len s xs HL.out]; exact infR
  · exact Below.setCells (((Below.refl _ _).alloc (Nat.le_refl _) _).alloc (by simp) _) _ (by simp) _ _

/-- How many bytes, and binary digits, an address has. -/
def szA (s : Bool) : Int := if s then 16 else 4
def dgA (s : Bool) : Int := if s then 128 else 32
theorem szA_b (s : Bool) : 4 ≤ szA s ∧ szA s ≤ 16 := by cases s <;> decide
theorem dgA_b (s : Bool) : 32 ≤ dgA s ∧ dgA s ≤ 128 := by cases s <;> decide
theorem dgA_sz (s : Bool) : szA s * 8 = dgA s := by cases s <;> decide
theorem aSize_any (s : Bool) (xs : List Int) (w : World) : Calls Tryd.prog 32 #[.agg (adl s xs).toArray] w (Gives w (.int .i64 (szA s))) := by
  have hC : (adl s xs).toArray[0]? = some (.bool s) := by simp [adl]
  cases s <;>
  · go_enter Tryd.func32, Tryd.ntmps32
    go_wp2_with fail
    go_ret
    exact ⟨rfl, (Below.refl _ _).alloc (Nat.le_refl _) _⟩

theorem aDigits_any (s : Bool) (xs : List Int) (w : World) (hl : xs.length = 16) : Calls Tryd.prog 34 #[.agg (adl s xs).toArray] w (Gives w (.int .i64 (dgA s))) := by
  have HL := Lib.hid hl
  clear hl
  go_enter Tryd.func34, Tryd.ntmps34
  go_wp2_with (first
    | (refine ldA _ rfl rfl _ _ rfl s xs HL.out (adl_range w s xs _) ?_))
  refine (aSize_any s xs _).mono ?_
  rintro e w1 ⟨rfl, hb⟩
  have HB := Lib.hid hb
  have HD := Lib.hid (dgA_sz s)
  obtain ⟨h1, h2⟩ := szA_b s
  obtain ⟨z, hz⟩ : ∃ z, szA s = z := ⟨_, rfl⟩
  rw [hz] at HD h1 h2 ⊢
  clear hb hz
  go_wp2_with fail
  go_ret
  exact ⟨by rw [HD.out]; rfl, ((Below.refl _ _).alloc (Nat.le_refl _) _).trans (HB.out.mono (by simp))⟩

theorem r4size_any (s : Bool) (w : World) : Calls Tryd.prog 35 #[.bool s] w (fun e w' => e = .returned (.int .i64 (szA s)) ∧ w = w') := by
  cases s <;>
  · go_enter Tryd.func35, Tryd.ntmps35
    go_wp2_with fail
    go_ret
    exact ⟨rfl, rfl⟩
end Go.Proofs.YtbnfmiopgjmppaaDoor

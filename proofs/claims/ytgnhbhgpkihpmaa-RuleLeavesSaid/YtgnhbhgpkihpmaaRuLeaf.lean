/-
  Rules and keys as they lie in slots and in memory, and the laws by which they and their parts are loaded, stored and compared. Conditions: rows of sixteen bytes, numbers that fit their Go types.
-/
import Derived.Test.YtgnhbhgpkihpmaaAdP
namespace Go.Proofs.Ytgnhbhgpkihpmaa
open Go.RowKit

/-- A rule's parts. -/
structure Rl where
  v : Int
  p : Int
  s6 : Bool
  sx : List Int
  sn : Int
  d6 : Bool
  dx : List Int
  dn : Int
  sl : Int
  sh : Int
  dl : Int
  dh : Int
  dy : Bool
  c : Int
def prl (a b : Int) : List Value := [.int .u16 a, .int .u16 b]
def Rl.cs (r : Rl) : List Value :=
  [.int .i64 r.v, .int .i64 r.p] ++ (pfl r.s6 r.sx r.sn ++ (pfl r.d6 r.dx r.dn ++ (prl r.sl r.sh ++ (prl r.dl r.dh ++ [.bool r.dy, .int .i64 r.c]))))
structure Rl.ok (r : Rl) : Prop where
  sx : r.sx.length = 16
  sb : Byt r.sx
  dx : r.dx.length = 16
  db : Byt r.dx
  sl : 0 ≤ r.sl ∧ r.sl < 65536
  sh : 0 ≤ r.sh ∧ r.sh < 65536
  dl : 0 ≤ r.dl ∧ r.dl < 65536
  dh : 0 ≤ r.dh ∧ r.dh < 65536
/-- A key's parts. -/
structure Ky where
  s6 : Bool
  sx : List Int
  d6 : Bool
  dx : List Int
  pr : Int
  sp : Int
  dp : Int
def Ky.cs (k : Ky) : List Value := adl k.s6 k.sx ++ (adl k.d6 k.dx ++ [.int .u8 k.pr, .int .u16 k.sp, .int .u16 k.dp])
structure Ky.ok (k : Ky) : Prop where
  sx : k.sx.length = 16
  sb : Byt k.sx
  dx : k.dx.length = 16
  db : Byt k.dx
  pr : 0 ≤ k.pr ∧ k.pr < 256
  sp : 0 ≤ k.sp ∧ k.sp < 65536
  dp : 0 ≤ k.dp ∧ k.dp < 65536

theorem Rl.len {r : Rl} (h : r.ok) : r.cs.length = 44 := by simp [Rl.cs, pfl_len _ _ _ h.sx, pfl_len _ _ _ h.dx, prl]
theorem Ky.len {k : Ky} (h : k.ok) : k.cs.length = 37 := by simp [Ky.cs, adl_len _ _ h.sx, adl_len _ _ h.dx]
theorem prl_one (a b : Int) : ∀ v ∈ prl a b, v.oneCell' = true := by intro v hv; simp [prl] at hv; rcases hv with rfl | rfl <;> rfl
theorem Rl.one (r : Rl) : ∀ v ∈ r.cs, v.oneCell' = true := by
  intro v hv
  simp only [Rl.cs, List.mem_append] at hv
  rcases hv with hv | hv | hv | hv | hv | hv
  · simp at hv; rcases hv with rfl | rfl <;> rfl
  · exact pfl_one _ _ _ v hv
  · exact pfl_one _ _ _ v hv
  · exact prl_one _ _ v hv
  · exact prl_one _ _ v hv
  · simp at hv; rcases hv with rfl | rfl <;> rfl
theorem Ky.one (k : Ky) : ∀ v ∈ k.cs, v.oneCell' = true := by
  intro v hv
  simp only [Ky.cs, List.mem_append] at hv
  rcases hv with hv | hv | hv
  · exact adl_one _ _ v hv
  · exact adl_one _ _ v hv
  · simp at hv; rcases hv with rfl | rfl | rfl <;> rfl
theorem infU : (Try.prog.info? 43).map (·.size) = some 44 := by kernel_rfl
theorem infK : (Try.prog.info? 28).map (·.size) = some 37 := by kernel_rfl
theorem infPo : (Try.prog.info? 41).map (·.size) = some 2 := by kernel_rfl
theorem infPt : (Try.prog.info? 68).map (·.size) = some 4 := by kernel_rfl

/-- Cells behind others. -/
theorem range_mid {w : World} {b o : Nat} {xs ys zs : List Value} (h : w.rangeAt b o (xs ++ (ys ++ zs))) {n : Nat} (hn : xs.length = n) : w.rangeAt b (o + n) ys := fun j v hv => by
  subst hn
  have := h (xs.length + j) v (by
    rw [List.getElem?_append_right (by omega), show xs.length + j - xs.length = j by omega, List.getElem?_append_left (by exact (List.getElem?_eq_some_iff.1 hv).1)]; exact hv)
  rwa [← Nat.add_assoc] at this
theorem range_end {w : World} {b o : Nat} {xs ys : List Value} (h : w.rangeAt b o (xs ++ ys)) {n : Nat} (hn : xs.length = n) : w.rangeAt b (o + n) ys :=
  range_mid (zs := []) (by simpa using h) hn
theorem range_head {w : World} {b o : Nat} {xs ys : List Value} (h : w.rangeAt b o (xs ++ ys)) : w.rangeAt b o xs := fun j v hv =>
  h j v (by rw [List.getElem?_append_left (by exact (List.getElem?_eq_some_iff.1 hv).1)]; exact hv)
theorem range_at {w : World} {b o : Nat} {cs : List Value} (h : w.rangeAt b o cs) (j : Nat) {v : Value} (hv : cs[j]? = some v) : w.cell? ⟨b, o + j, none⟩ = some v := h j v hv
theorem range_new (w : World) (cs : List Value) (t : TypeId) : (w.alloc (.cells cs.toArray t)).rangeAt w.heap.size 0 cs := fun j v hv => by
  rw [cell_of_row _ w.heap.size (0 + j) _ t (0, 0) (Blk_new w _ _)]; simpa using hv

section
variable {w : World} {b o : Nat}
theorem Rl.rv {r : Rl} (h : w.rangeAt b o r.cs) : w.cell? ⟨b, o, none⟩ = some (.int .i64 r.v) := range_at h 0 rfl
theorem Rl.rp {r : Rl} (h : w.rangeAt b o r.cs) : w.cell? ⟨b, o + 1, none⟩ = some (.int .i64 r.p) := range_at h 1 rfl
theorem Rl.rest {r : Rl} (h : w.rangeAt b o r.cs) : w.rangeAt b (o + 2) (pfl r.s6 r.sx r.sn ++ (pfl r.d6 r.dx r.dn ++ (prl r.sl r.sh ++ (prl r.dl r.dh ++ [.bool r.dy, .int .i64 r.c])))) := range_end h rfl
theorem Rl.src {r : Rl} (h : w.rangeAt b o r.cs) : w.rangeAt b (o + 2) (pfl r.s6 r.sx r.sn) := range_head (Rl.rest h)
theorem Rl.rest2 {r : Rl} (hr : r.ok) (h : w.rangeAt b o r.cs) : w.rangeAt b (o + 20) (pfl r.d6 r.dx r.dn ++ (prl r.sl r.sh ++ (prl r.dl r.dh ++ [.bool r.dy, .int .i64 r.c]))) := range_end (Rl.rest h) (pfl_len _ _ _ hr.sx)
theorem Rl.dst {r : Rl} (hr : r.ok) (h : w.rangeAt b o r.cs) : w.rangeAt b (o + 20) (pfl r.d6 r.dx r.dn) := range_head (Rl.rest2 hr h)
theorem Rl.rest3 {r : Rl} (hr : r.ok) (h : w.rangeAt b o r.cs) : w.rangeAt b (o + 38) (prl r.sl r.sh ++ (prl r.dl r.dh ++ [.bool r.dy, .int .i64 r.c])) := range_end (Rl.rest2 hr h) (pfl_len _ _ _ hr.dx)
theorem Rl.sps {r : Rl} (hr : r.ok) (h : w.rangeAt b o r.cs) : w.rangeAt b (o + 38) (prl r.sl r.sh) := range_head (Rl.rest3 hr h)
theorem Rl.rest4 {r : Rl} (hr : r.ok) (h : w.rangeAt b o r.cs) : w.rangeAt b (o + 40) (prl r.dl r.dh ++ [.bool r.dy, .int .i64 r.c]) := range_end (Rl.rest3 hr h) rfl
theorem Rl.dps {r : Rl} (hr : r.ok) (h : w.rangeAt b o r.cs) : w.rangeAt b (o + 40) (prl r.dl r.dh) := range_head (Rl.rest4 hr h)
theorem Rl.rdy {r : Rl} (hr : r.ok) (h : w.rangeAt b o r.cs) : w.cell? ⟨b, o + 42, none⟩ = some (.bool r.dy) := range_at (Rl.rest4 hr h) 2 rfl
theorem Rl.rc {r : Rl} (hr : r.ok) (h : w.rangeAt b o r.cs) : w.cell? ⟨b, o + 43, none⟩ = some (.int .i64 r.c) := range_at (Rl.rest4 hr h) 3 rfl
theorem Ky.src {k : Ky} (h : w.rangeAt b o k.cs) : w.rangeAt b o (adl k.s6 k.sx) := range_head h
theorem Ky.rest {k : Ky} (hk : k.ok) (h : w.rangeAt b o k.cs) : w.rangeAt b (o + 17) (adl k.d6 k.dx ++ [.int .u8 k.pr, .int .u16 k.sp, .int .u16 k.dp]) := range_end h (adl_len _ _ hk.sx)
theorem Ky.dst {k : Ky} (hk : k.ok) (h : w.rangeAt b o k.cs) : w.rangeAt b (o + 17) (adl k.d6 k.dx) := range_head (Ky.rest hk h)
theorem Ky.tail {k : Ky} (hk : k.ok) (h : w.rangeAt b o k.cs) : w.rangeAt b (o + 34) [.int .u8 k.pr, .int .u16 k.sp, .int .u16 k.dp] := range_end (Ky.rest hk h) (adl_len _ _ hk.dx)
theorem Ky.rpr {k : Ky} (hk : k.ok) (h : w.rangeAt b o k.cs) : w.cell? ⟨b, o + 34, none⟩ = some (.int .u8 k.pr) := range_at (Ky.tail hk h) 0 rfl
theorem Ky.rsp {k : Ky} (hk : k.ok) (h : w.rangeAt b o k.cs) : w.cell? ⟨b, o + 35, none⟩ = some (.int .u16 k.sp) := range_at (Ky.tail hk h) 1 rfl
theorem Ky.rdp {k : Ky} (hk : k.ok) (h : w.rangeAt b o k.cs) : w.cell? ⟨b, o + 36, none⟩ = some (.int .u16 k.dp) := range_at (Ky.tail hk h) 2 rfl
end

section
variable {ops : Array Oper} {rest : List Oper} {o : Oper} {a : Act} {w : World} {Q : Exit → Act → World → Prop}
theorem ldU (x : Operand) (ho : o.op = .load 43 x) (hgd : o.guard = none) (b off : Nat) (hx : a.eval x = .pointer (some ⟨b, off, none⟩)) (r : Rl) (hr : r.ok) (hc : w.rangeAt b off r.cs)
    (h : wpList Try.prog ops Q rest (a.put o.dst (.agg r.cs.toArray)) w) : wpList Try.prog ops Q (o :: rest) a w :=
  wpList_load_mid hgd _ x ho b off hx r.cs _ hc Try.underlying43 rfl (by rw [Rl.len hr]; exact infU) h
theorem ldK (x : Operand) (ho : o.op = .load 28 x) (hgd : o.guard = none) (b off : Nat) (hx : a.eval x = .pointer (some ⟨b, off, none⟩)) (k : Ky) (hk : k.ok) (hc : w.rangeAt b off k.cs)
    (h : wpList Try.prog ops Q rest (a.put o.dst (.agg k.cs.toArray)) w) : wpList Try.prog ops Q (o :: rest) a w :=
  wpList_load_mid hgd _ x ho b off hx k.cs _ hc Try.underlying28 rfl (by rw [Ky.len hk]; exact infK) h
theorem ldPo (x : Operand) (ho : o.op = .load 41 x) (hgd : o.guard = none) (b off : Nat) (hx : a.eval x = .pointer (some ⟨b, off, none⟩)) (m n : Int) (hc : w.rangeAt b off (prl m n))
    (h : wpList Try.prog ops Q rest (a.put o.dst (.agg (prl m n).toArray)) w) : wpList Try.prog ops Q (o :: rest) a w :=
  wpList_load_mid hgd _ x ho b off hx (prl m n) _ hc Try.underlying41 rfl infPo h
theorem ldCg (t : TypeId) (x : Operand) (cs : List Value) {d : TypeDesc} (ho : o.op = .load t x) (hw : Region.wanted o (yielded ops a.tmps) = true) (b off : Nat) (hx : a.eval x = .pointer (some ⟨b, off, none⟩)) (hc : w.rangeAt b off cs)
    (hu : Try.prog.underlying t = some d) (hd : d.isRow = true) (hi : (Try.prog.info? t).map (·.size) = some cs.length)
    (k : wpList Try.prog ops Q rest (a.put o.dst (.agg cs.toArray)) w) : wpList Try.prog ops Q (o :: rest) a w :=
  wpList_step fun K hK => by rw [if_pos hw]; exact wp_load_mid _ x ho b off hx cs _ hc hu hd hi (hK _ _ k)
theorem ldUg (x : Operand) (ho : o.op = .load 43 x) (hw : Region.wanted o (yielded ops a.tmps) = true) (b off : Nat) (hx : a.eval x = .pointer (some ⟨b, off, none⟩)) (r : Rl) (hr : r.ok) (hc : w.rangeAt b off r.cs)
    (k : wpList Try.prog ops Q rest (a.put o.dst (.agg r.cs.toArray)) w) : wpList Try.prog ops Q (o :: rest) a w :=
  ldCg _ x r.cs ho hw b off hx hc Try.underlying43 rfl (by rw [Rl.len hr]; exact infU) k
theorem ldKg (x : Operand) (ho : o.op = .load 28 x) (hw : Region.wanted o (yielded ops a.tmps) = true) (b off : Nat) (hx : a.eval x = .pointer (some ⟨b, off, none⟩)) (q : Ky) (hq : q.ok) (hc : w.rangeAt b off q.cs)
    (k : wpList Try.prog ops Q rest (a.put o.dst (.agg q.cs.toArray)) w) : wpList Try.prog ops Q (o :: rest) a w :=
  ldCg _ x q.cs ho hw b off hx hc Try.underlying28 rfl (by rw [Ky.len hq]; exact infK) k
theorem ldPog (x : Operand) (ho : o.op = .load 41 x) (hw : Region.wanted o (yielded ops a.tmps) = true) (b off : Nat) (hx : a.eval x = .pointer (some ⟨b, off, none⟩)) (m n : Int) (hc : w.rangeAt b off (prl m n))
    (k : wpList Try.prog ops Q rest (a.put o.dst (.agg (prl m n).toArray)) w) : wpList Try.prog ops Q (o :: rest) a w :=
  ldCg _ x (prl m n) ho hw b off hx hc Try.underlying41 rfl infPo k
theorem ldPg (x : Operand) (ho : o.op = .load 39 x) (hw : Region.wanted o (yielded ops a.tmps) = true) (b off : Nat) (hx : a.eval x = .pointer (some ⟨b, off, none⟩)) (s : Bool) (xs : List Int) (n : Int) (hl : xs.length = 16) (hc : w.rangeAt b off (pfl s xs n))
    (k : wpList Try.prog ops Q rest (a.put o.dst (.agg (pfl s xs n).toArray)) w) : wpList Try.prog ops Q (o :: rest) a w :=
  ldCg _ x (pfl s xs n) ho hw b off hx hc Try.underlying39 rfl (by rw [pfl_len _ _ _ hl]; exact infP) k
theorem ldAg (x : Operand) (ho : o.op = .load 25 x) (hw : Region.wanted o (yielded ops a.tmps) = true) (b off : Nat) (hx : a.eval x = .pointer (some ⟨b, off, none⟩)) (s : Bool) (xs : List Int) (hl : xs.length = 16) (hc : w.rangeAt b off (adl s xs))
    (k : wpList Try.prog ops Q rest (a.put o.dst (.agg (adl s xs).toArray)) w) : wpList Try.prog ops Q (o :: rest) a w :=
  ldCg _ x (adl s xs) ho hw b off hx hc Try.underlying25 rfl (by rw [adl_len _ _ hl]; exact infA) k
theorem ldPt (x : Operand) (ho : o.op = .load 68 x) (hgd : o.guard = none) (b off : Nat) (hx : a.eval x = .pointer (some ⟨b, off, none⟩)) (cs : List Value) (hn : cs.length = 4) (hc : w.rangeAt b off cs)
    (h : wpList Try.prog ops Q rest (a.put o.dst (.agg cs.toArray)) w) : wpList Try.prog ops Q (o :: rest) a w :=
  wpList_load_mid hgd _ x ho b off hx cs _ hc Try.underlying68 rfl (by rw [hn]; exact infPt) h
theorem ldPtg (x : Operand) (ho : o.op = .load 68 x) (hw : Region.wanted o (yielded ops a.tmps) = true) (b off : Nat) (hx : a.eval x = .pointer (some ⟨b, off, none⟩)) (cs : List Value) (hn : cs.length = 4) (hc : w.rangeAt b off cs)
    (k : wpList Try.prog ops Q rest (a.put o.dst (.agg cs.toArray)) w) : wpList Try.prog ops Q (o :: rest) a w :=
  ldCg _ x cs ho hw b off hx hc Try.underlying68 rfl (by rw [hn]; exact infPt) k
/-- Cells are stored; of the memory only P is kept in mind. -/
theorem stN (P : World → Prop) (t : TypeId) (x y : Operand) (ho : o.op = .store t x y) (hgd : o.guard = none) (b off : Nat) (cs : List Value) (hx : a.eval x = .pointer (some ⟨b, off, none⟩)) (hy : a.eval y = .agg cs.toArray)
    (ht : w.there b off cs.length) (hi : (Try.prog.info? t).map (·.size) = some cs.length) (h1 : ∀ v ∈ cs, v.oneCell' = true) (hP : P (w.setCells b off cs))
    (h : ∀ w', P w' → wpList Try.prog ops Q rest (a.put o.dst undef) w') : wpList Try.prog ops Q (o :: rest) a w :=
  stC t x y ho hgd b off cs hx hy ht hi h1 (h _ hP)
end

section
variable {ops : Array Oper} {rest : List Oper} {o : Oper} {a : Act} {w : World} {Q : Exit → Act → World → Prop}
/-- Two wholes are compared. -/
theorem eqC (t r : TypeId) (x y : Operand) (v : Bool) (xs ys : Array Value) (ho : o.op = .binOp .eql t x y r) (hgd : o.guard = none) (hm : Try.prog.eqGuardType Try.prog.depth t = false) (hx : a.eval x = .agg xs) (hy : a.eval y = .agg ys)
    (he : (Op.equalIn 10000 t (.agg xs) (.agg ys)).run Try.prog w = .ok v w) (h : wpList Try.prog ops Q rest (a.put o.dst (.bool v)) w) : wpList Try.prog ops Q (o :: rest) a w :=
  wpList_plain hgd fun _ hK => by
    unfold Oper.wp execOp
    simp only [ho, hx, hy, Sem.run_bind, run_eqGuard_agg (hm := hm), run_eql_struct, he, Result.andThen_ok, Sem.run_pure]
    exact hK _ _ h
end
theorem guPo : Try.prog.eqGuardType Try.prog.depth 41 = false := by kernel_rfl
theorem stPo_ : Try.prog.stoodInHeld 41 = false := by kernel_rfl
theorem unPo : Try.prog.underlying 41 = some (.struct (Try.prog.fieldsOf 41)) := by kernel_rfl
theorem fieldsPo : (Try.prog.fieldsOf 41).toList.map (fun f => (f.name, f.type, f.offset)) = [("Lo", 26, 0), ("Hi", 26, 1)] := by kernel_rfl
theorem part_lo (w : World) (a b : Int) : (part 26 (prl a b).toArray 0).run Try.prog w = .ok (.int .u16 a) w := by simp [part, isAgg, run_underlying Try.underlying26, prl]
theorem part_hi (w : World) (a b : Int) : (part 26 (prl a b).toArray 1).run Try.prog w = .ok (.int .u16 b) w := by simp [part, isAgg, run_underlying Try.underlying26, prl]
theorem eqPo (w : World) (d : Nat) (a b m n : Int) : (Op.equalIn (d + 4) 41 (.agg (prl a b).toArray) (.agg (prl m n).toArray)).run Try.prog w = .ok (decide (a = m ∧ b = n)) w := by
  rw [run_equalIn_struct w (d + 3) _ _ _ unPo stPo_]
  obtain ⟨f, g, e, hf, hg⟩ := two_of fieldsPo
  rw [e]
  simp only [Prod.mk.injEq] at hf hg
  obtain ⟨f1, f2, f3⟩ := hf
  obtain ⟨g1, g2, g3⟩ := hg
  simp only [Op.eqFields, f1, f2, f3, g1, g2, g3, Sem.run_bind, Sem.run_ite, part_lo, part_hi, Result.andThen_ok, run_equalIn_int (P := Try.prog) _ _ 26 .u16 .u16 _ _ Try.underlying26, Sem.run_pure]
  by_cases e1 : a = m <;> by_cases e2 : b = n <;> simp [e1, e2]
theorem builtPo (a b : Int) : Try.prog.built 41 [(0, .int .u16 a), (1, .int .u16 b)] = some (prl a b).toArray := by kernel_rfl
end Go.Proofs.Ytgnhbhgpkihpmaa

/-
  Segments of layer 7: their plain parts, how they lie in slots and in memory, and what of them is right. Conditions: a segment's numbers fit their Go types, its options and data lie where the slices lead.
-/
import Derived.Test.YtabdejoakecioaaStr
import Derived.Test.YtabdejoakecioaaSet
import Derived.Test.YtabdejoakecioaaWr3
import Derived.Test.YtabdejoakecioaaSumRef
import Derived.Deep.RegionHeld3
namespace Go.Proofs.Ytabdejoakecioaa
open Go.RowKit

/-- A segment's parts. -/
structure Pl where
  pro : Int
  src : Int
  dst : Int
  seq : Int
  ack : Int
  fl : Int
  win : Int
  urg : Int
  op : List Int
  ty : Int
  co : Int
  dt : List Int
/-- Its numbers fit; its rows are bytes. -/
structure Pl.fit (s : Pl) : Prop where
  pro : 0 ≤ s.pro ∧ s.pro < 256
  src : 0 ≤ s.src ∧ s.src < 65536
  dst : 0 ≤ s.dst ∧ s.dst < 65536
  seq : 0 ≤ s.seq ∧ s.seq < 4294967296
  ack : 0 ≤ s.ack ∧ s.ack < 4294967296
  fl : 0 ≤ s.fl ∧ s.fl < 256
  win : 0 ≤ s.win ∧ s.win < 65536
  urg : 0 ≤ s.urg ∧ s.urg < 65536
  op : Byt s.op
  ty : 0 ≤ s.ty ∧ s.ty < 256
  co : 0 ≤ s.co ∧ s.co < 256
  dt : Byt s.dt
/-- The parts are the same. -/
def smP (s t : Pl) : Bool :=
  decide (s.pro = t.pro) && (decide (s.src = t.src) && (decide (s.dst = t.dst) && (decide (s.seq = t.seq) && (decide (s.ack = t.ack) && (decide (s.fl = t.fl) && (decide (s.win = t.win) && (decide (s.urg = t.urg) && (decide (s.ty = t.ty) && (decide (s.co = t.co) && (decide (s.op = t.op) && decide (s.dt = t.dt)))))))))))
theorem smP_iff (s t : Pl) : smP s t = true ↔ s = t := by
  obtain ⟨a0, a1, a2, a3, a4, a5, a6, a7, a8, a9, a10, a11⟩ := s
  obtain ⟨b0, b1, b2, b3, b4, b5, b6, b7, b8, b9, b10, b11⟩ := t
  simp only [smP, Bool.and_eq_true, decide_eq_true_eq, Pl.mk.injEq]
  constructor
  · rintro ⟨h0, h1, h2, h3, h4, h5, h6, h7, h9, h10, h8, h11⟩
    exact ⟨h0, h1, h2, h3, h4, h5, h6, h7, h8, h9, h10, h11⟩
  · rintro ⟨h0, h1, h2, h3, h4, h5, h6, h7, h8, h9, h10, h11⟩
    exact ⟨h0, h1, h2, h3, h4, h5, h6, h7, h9, h10, h8, h11⟩
theorem smP_self (s : Pl) : smP s s = true := (smP_iff s s).2 rfl
/-- No segment. -/
def pl0 : Pl := ⟨0, 0, 0, 0, 0, 0, 0, 0, [], 0, 0, []⟩
theorem pl0_fit : pl0.fit := ⟨by decide, by decide, by decide, by decide, by decide, by decide, by decide, by decide, Byt.nil, by decide, by decide, Byt.nil⟩

/-- A segment: its parts, and the slices of its options and its data. -/
structure Sg where
  p : Pl
  oa : Option Addr
  on : Nat
  oc : Nat
  da : Option Addr
  dn : Nat
  dc : Nat
def Sg.cs (s : Sg) : List Value :=
  [.int .u8 s.p.pro, .int .u16 s.p.src, .int .u16 s.p.dst, .int .u32 s.p.seq, .int .u32 s.p.ack, .int .u8 s.p.fl, .int .u16 s.p.win, .int .u16 s.p.urg, .slice s.oa s.on s.oc, .int .u8 s.p.ty, .int .u8 s.p.co, .slice s.da s.dn s.dc]
structure Sg.ok (w : World) (s : Sg) : Prop where
  fit : s.p.fit
  opt : Row.ok w ⟨s.oa, s.on, s.oc, s.p.op⟩
  dat : Row.ok w ⟨s.da, s.dn, s.dc, s.p.dt⟩
theorem Sg.ok.below {w w' : World} {s : Sg} (h : s.ok w) (hb : Below w.heap.size w w') : s.ok w' := ⟨h.fit, h.opt.below hb, h.dat.below hb⟩
theorem Sg.len (s : Sg) : s.cs.length = 12 := rfl
theorem Sg.one (s : Sg) : ∀ v ∈ s.cs, v.oneCell' = true := by
  intro v hv
  simp only [Sg.cs, List.mem_cons, List.not_mem_nil, or_false] at hv
  rcases hv with rfl | rfl | rfl | rfl | rfl | rfl | rfl | rfl | rfl | rfl | rfl | rfl <;> rfl
/-- The zero segment. -/
def sg0 : Sg := ⟨pl0, none, 0, 0, none, 0, 0⟩
theorem sg0_ok (w : World) : sg0.ok w := ⟨pl0_fit, Row.no_ok w, Row.no_ok w⟩
theorem Sg.c0 (s : Sg) : s.cs.toArray[0]? = some (.int .u8 s.p.pro) := rfl
theorem Sg.c1 (s : Sg) : s.cs.toArray[1]? = some (.int .u16 s.p.src) := rfl
theorem Sg.c2 (s : Sg) : s.cs.toArray[2]? = some (.int .u16 s.p.dst) := rfl
theorem Sg.c3 (s : Sg) : s.cs.toArray[3]? = some (.int .u32 s.p.seq) := rfl
theorem Sg.c4 (s : Sg) : s.cs.toArray[4]? = some (.int .u32 s.p.ack) := rfl
theorem Sg.c5 (s : Sg) : s.cs.toArray[5]? = some (.int .u8 s.p.fl) := rfl
theorem Sg.c6 (s : Sg) : s.cs.toArray[6]? = some (.int .u16 s.p.win) := rfl
theorem Sg.c7 (s : Sg) : s.cs.toArray[7]? = some (.int .u16 s.p.urg) := rfl
theorem Sg.c8 (s : Sg) : s.cs.toArray[8]? = some (.slice s.oa s.on s.oc) := rfl
theorem Sg.c9 (s : Sg) : s.cs.toArray[9]? = some (.int .u8 s.p.ty) := rfl
theorem Sg.c10 (s : Sg) : s.cs.toArray[10]? = some (.int .u8 s.p.co) := rfl
theorem Sg.c11 (s : Sg) : s.cs.toArray[11]? = some (.slice s.da s.dn s.dc) := rfl
theorem infS : (Try.prog.info? 26).map (·.size) = some 12 := by kernel_rfl
theorem infRS : (Try.prog.info? 30).map (·.size) = some 12 := by kernel_rfl
/-- What is handed back; the world has new blocks at most. -/
def Gives (w : World) (v : Value) (e : Ending) (w' : World) : Prop := e = .returned v ∧ Below w.heap.size w w'
theorem range_kept {w wr : World} (h : Below w.heap.size w wr) {b o : Nat} {cs : List Value} (hc : w.rangeAt b o cs) : wr.rangeAt b o cs := fun j v hv => cell_kept h (hc j v hv)
theorem range_cell {w : World} {b : Nat} {cs : List Value} (h : w.rangeAt b 0 cs) {j : Nat} {v : Value} (hv : cs.toArray[j]? = some v) : w.cell? ⟨b, j, none⟩ = some v := by
  have := h j v (by simpa using hv)
  rwa [Nat.zero_add] at this
theorem range_new (w : World) (cs : List Value) (t : TypeId) : (w.alloc (.cells cs.toArray t)).rangeAt w.heap.size 0 cs := fun j v hv => by
  rw [cell_of_row _ w.heap.size (0 + j) _ t (0, 0) (Blk_new w _ _)]; simpa using hv
theorem there_new (w : World) (cs : Array Value) (t : TypeId) (n : Nat) (hn : cs.size = n) (g : Nat) (hg : w.heap.size = g) : (w.alloc (.cells cs t)).there g 0 n := fun j hj => by
  subst hg
  rw [cell_of_row _ w.heap.size (0 + j) _ t (0, 0) (Blk_new w _ _), frozen_of_row _ w.heap.size (0 + j) cs t (Blk_new w _ _)]
  simp [hn, hj]
theorem Below.setCells {B : Nat} {w w' : World} (h : Below B w w') (b : Nat) (hb : B ≤ b) : ∀ (vs : List Value) (off : Nat) , Below B w (w'.setCells b off vs)
  | [], _ => h
  | v :: r, off => by rw [World.setCells]; exact Below.setCells (h.setCell (p := ⟨b, off, none⟩) hb v) b hb r (off + 1)
theorem undrew {w w' : World} (h : Below w.drew.heap.size w.drew w') : Below w.heap.size w w' := ⟨h.os, h.tape, h.output, h.size, h.block⟩
section
variable {ops : Array Oper} {rest : List Oper} {o : Oper} {a : Act} {w : World} {Q : Exit → Act → World → Prop}
/-- A segment is loaded, whole. -/
theorem ldS (x : Operand) (ho : o.op = .load 26 x) (hgd : o.guard = none) (b : Nat) (hx : a.eval x = .pointer (some ⟨b, 0, none⟩)) (s : Sg) (hc : w.rangeAt b 0 s.cs)
    (k : wpList Try.prog ops Q rest (a.put o.dst (.agg s.cs.toArray)) w) : wpList Try.prog ops Q (o :: rest) a w :=
  wpList_load_mid hgd _ x ho b 0 hx s.cs _ hc Try.underlying26 rfl infS k
theorem ldSg (x : Operand) (ho : o.op = .load 26 x) (hw : Region.wanted o (yielded ops a.tmps) = true) (b : Nat) (hx : a.eval x = .pointer (some ⟨b, 0, none⟩)) (s : Sg) (hc : w.rangeAt b 0 s.cs)
    (k : wpList Try.prog ops Q rest (a.put o.dst (.agg s.cs.toArray)) w) : wpList Try.prog ops Q (o :: rest) a w :=
  wpList_step fun K hK => by rw [if_pos hw]; exact wp_load_mid _ x ho b 0 hx s.cs _ hc Try.underlying26 rfl infS (hK _ _ k)
/-- Cells are stored, as one thing. -/
theorem stC (t : TypeId) (x y : Operand) (ho : o.op = .store t x y) (hgd : o.guard = none) (b off : Nat) (cs : List Value) (hx : a.eval x = .pointer (some ⟨b, off, none⟩)) (hy : a.eval y = .agg cs.toArray)
    (ht : w.there b off cs.length) (hi : (Try.prog.info? t).map (·.size) = some cs.length) (h1 : ∀ v ∈ cs, v.oneCell' = true)
    (h : wpList Try.prog ops Q rest (a.put o.dst undef) (w.setCells b off cs)) : wpList Try.prog ops Q (o :: rest) a w :=
  wpList_store_mid hgd t x y ho b off cs.toArray hx hy (by simpa using ht) (by simpa using hi) (all_oneCell_toArray h1) (by simpa using h)
/-- The same; of the memory only P is kept in mind. -/
theorem stN (P : World → Prop) (t : TypeId) (x y : Operand) (ho : o.op = .store t x y) (hgd : o.guard = none) (b off : Nat) (cs : List Value) (hx : a.eval x = .pointer (some ⟨b, off, none⟩)) (hy : a.eval y = .agg cs.toArray)
    (ht : w.there b off cs.length) (hi : (Try.prog.info? t).map (·.size) = some cs.length) (h1 : ∀ v ∈ cs, v.oneCell' = true) (hP : P (w.setCells b off cs))
    (h : ∀ w', P w' → wpList Try.prog ops Q rest (a.put o.dst undef) w') : wpList Try.prog ops Q (o :: rest) a w :=
  stC t x y ho hgd b off cs hx hy ht hi h1 (h _ hP)
end
/-- In a region that draws its order: what yields in every world that meets S is taken first. -/
theorem tk {P : Program} {md : Region.Mode} {ops : Array Oper} {Q : Exit → Act → World → Prop} {S : World → Prop} (i d : Nat) (v : Value) {oi : Oper} {fuel : Nat} {listed : Array Bool} {a : Act} {w : World} (hi : ops[i]? = some oi) (hd : oi.dst = some d)
    (hs : Region.noSelect ops = true) (hf : Region.free md ops listed i = true) (hr : (Region.ready md ops listed).contains i = true)
    (hQ : ∀ c a w, Q (.panic c) (a.put (some d) v) w → Q (.panic c) a w) (hy : YieldsIf P ops S oi v a) (hS : S w)
    (h : wpAnyH P md ops Q S fuel (listed.setIfInBounds i true) (a.put (some d) v) w) : wpAnyH P md ops Q S (fuel + 1) listed a w :=
  wpAnyH_take hi hs hf hr (by rw [hd]; exact hQ) hy hS (by rw [hd]; exact h)
theorem wpList_build_run {P : Program} {ops : Array Oper} {rest : List Oper} {o : Oper} {a : Act} {w : World} {Q : Exit → Act → World → Prop} (hgd : o.guard = none) (t : TypeId) (parts : Array (Nat × Operand)) (ho : o.op = .build t parts)
    {cells : Array Value} (hc : P.built t (parts.toList.map fun x => (x.1, a.eval x.2)) = some cells) (h : wpList P ops Q rest (a.put o.dst (.agg cells)) w) : wpList P ops Q (o :: rest) a w :=
  wpList_plain hgd fun _ hK => by
    have hc' : P.built t (parts.map fun (i, x) => (i, a.eval x)).toList = some cells := by rw [← hc]; simp
    unfold Oper.wp execOp
    simp only [ho, Sem.run_bind, run_build w t _ cells hc', Result.andThen_ok]
    exact hK _ _ h
end Go.Proofs.Ytabdejoakecioaa

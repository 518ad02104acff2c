/-
  What ParseChain of package ipsix answers, as a rule on bytes, and the state of its reader of chains. Conditions: those that each theorem names.
-/
import Derived.Test.YthipnkaghddbhaaSxPutD
import Derived.Test.YthipnkaghddbhaaRd2
import Derived.Deep.MidRow
namespace Go.Proofs.Ythipnkaghddbhaa
open Go.RowKit

/-- The error, the size and the data of the header behind that stands there, when some are read. -/
def hdS (k : Int) (xs : List Int) : Nat := 2 + (dsz k (xs.getD 1 0)).toNat
def hdD (k : Int) (xs : List Int) : List Int := (xs.drop 2).take (dsz k (xs.getD 1 0)).toNat
def hdE (k : Int) (c : Nat) (xs : List Int) : Int :=
  if c = 16 ∨ (k = 0 ∧ 0 < c) then 60 else if xs.length < 2 then 10 else if xs.length < hdS k xs then 10 else
  if scE k (hdD k xs) = xs.getD 1 0 ∧ rtE k (hdD k xs) = true then 0 else 60
theorem dsz_range {k s : Int} (h0 : 0 ≤ s) (h1 : s < 256) : 6 ≤ dsz k s ∧ dsz k s ≤ 2046 := by unfold dsz; split <;> omega
/-- What ParseChain answers, going on from what was read: the error, the headers, what comes next, how many bytes. -/
def pcC : Nat → List (Int × List Int) → Int → List Int → Int → Int × List (Int × List Int) × Int × Int
  | 0, _, _, _, _ => (60, [], 0, 0)
  | f + 1, acc, k, xs, t =>
    if knd k = false then (0, acc, k, t) else if hdE k acc.length xs ≠ 0 then (hdE k acc.length xs, [], 0, 0)
    else if ltE k (hdD k xs) = true then (0, acc ++ [(k, hdD k xs)], xs.getD 0 0, t + hdS k xs)
    else pcC f (acc ++ [(k, hdD k xs)]) (xs.getD 0 0) (xs.drop (hdS k xs)) (t + hdS k xs)
def pcV (k : Int) (xs : List Int) : Int × List (Int × List Int) × Int × Int := pcC 17 [] k xs 0

def xcs (x : Ex) : List Value := [.int .u8 x.k, .slice x.a x.n x.c]
theorem xcs_one (x : Ex) : ∀ v ∈ xcs x, v.oneCell' = true := by intro v hv; simp [xcs] at hv; rcases hv with rfl | rfl <;> rfl
theorem infX : (Try.prog.info? 71).map (fun i => (i.zero, i.size, i.bytes)) = some (some (.agg #[.int .u8 0, .slice none 0 0]), 2, 32) := by kernel_rfl
theorem infX2 : (Try.prog.info? 71).map (·.size) = some 2 := by kernel_rfl
/-- A header behind whose data are the call's own. -/
structure XOk (base : Nat) (w : World) (x : Ex) : Prop where
  kind : 0 ≤ x.k ∧ x.k < 256
  own : Own w base x.a x.n x.c x.xs
  byt : Byt x.xs
  few : x.n ≤ 2046
theorem XOk.ok {base : Nat} {w : World} {x : Ex} (h : XOk base w x) : x.ok w := ⟨h.kind, h.own.len, h.own.le.1, h.own.le.2, h.own.rd, h.byt⟩
theorem XOk.keep {S : Nat → Prop} {base : Nat} {w w' : World} {x : Ex} (h : XOk base w x) (k : Kept S w w') (hn : ∀ b, blk x.a = some b → ¬ S b) : XOk base w' x := ⟨h.kind, h.own.keep k hn, h.byt, h.few⟩
theorem XOk.mono {base base' : Nat} {w : World} {x : Ex} (h : XOk base w x) (hb : base' ≤ base) : XOk base' w x := ⟨h.kind, h.own.mono hb, h.byt, h.few⟩
/-- A reader of chains at g, its reader of bytes at gr, with the headers that it has read. -/
structure Cr (base g gr : Nat) (w : World) (ea : Option Addr) (en ec : Nat) (es : List Ex) (p : Int) (ra : Option Addr) (rn rc : Nat) (rest : List Int) (t : Int) : Prop where
  lo : base ≤ gr
  lt : gr < g
  at_ : w.heap[g]? = some (.cells #[.slice ea en ec, .int .u8 p, .pointer (some ⟨gr, 0, none⟩)] 98 (0, 0))
  row : OwnG w (g + 1) 71 2 ea en ec (es.flatMap xcs)
  len : es.length = en
  few : en ≤ 16
  kind : 0 ≤ p ∧ p < 256
  exts : ∀ x ∈ es, XOk (g + 1) w x
  rd : Rr w gr ra rn rc t rest
  rb : ∀ b, blk ra = some b → base ≤ b ∧ b < g
  t0 : 0 ≤ t
  t1 : t + rest.length ≤ 1099511627776
section
variable {base g gr : Nat} {w w' : World} {ea : Option Addr} {en ec : Nat} {es : List Ex} {p : Int} {ra : Option Addr} {rn rc : Nat} {rest : List Int} {t : Int}
theorem Cr.below (h : Cr base g gr w ea en ec es p ra rn rc rest t) (hb : Below w.heap.size w w') : Cr base g gr w' ea en ec es p ra rn rc rest t := by
  have hk : Kept (fun _ => False) w w' := Kept.of_below hb (fun i hi hi' => by omega)
  exact ⟨h.lo, h.lt, hk.heap h.at_ id, h.row.keep hk (fun _ _ => id), h.len, h.few, h.kind, fun x hx => (h.exts x hx).keep hk (fun _ _ => id), h.rd.keep hk id (fun _ _ => id), h.rb, h.t0, h.t1⟩
theorem Cr.gl (h : Cr base g gr w ea en ec es p ra rn rc rest t) : g < w.heap.size := (Array.getElem?_eq_some_iff.1 h.at_).1
theorem Cr.c0 (h : Cr base g gr w ea en ec es p ra rn rc rest t) : w.cell? ⟨g, 0, none⟩ = some (.slice ea en ec) := by rw [cell_of_row w g 0 _ _ (0, 0) h.at_]; rfl
theorem Cr.c1 (h : Cr base g gr w ea en ec es p ra rn rc rest t) : w.cell? ⟨g, 1, none⟩ = some (.int .u8 p) := by rw [cell_of_row w g 1 _ _ (0, 0) h.at_]; rfl
theorem Cr.c2 (h : Cr base g gr w ea en ec es p ra rn rc rest t) : w.cell? ⟨g, 2, none⟩ = some (.pointer (some ⟨gr, 0, none⟩)) := by rw [cell_of_row w g 2 _ _ (0, 0) h.at_]; rfl
theorem Cr.fz (h : Cr base g gr w ea en ec es p ra rn rc rest t) (j : Nat) : w.frozen? ⟨g, j, none⟩ = false := frozen_of_row w g j _ _ h.at_
theorem Cr.cap (h : Cr base g gr w ea en ec es p ra rn rc rest t) : en ≤ ec := h.row.le.1
/-- The reader of bytes alone has gone on. -/
theorem Cr.took (h : Cr base g gr w ea en ec es p ra rn rc rest t) (hk : Kept (fun k => k = gr) w w') {ra' : Option Addr} {rn' rc' : Nat} {rest' : List Int} {t' : Int} (hr : Rr w' gr ra' rn' rc' t' rest') (hb : blk ra' = blk ra)
    (t0 : 0 ≤ t') (t1 : t' + rest'.length ≤ 1099511627776) : Cr base g gr w' ea en ec es p ra' rn' rc' rest' t' :=
  ⟨h.lo, h.lt, hk.heap h.at_ (fun e => by have := h.lt; omega), h.row.keep hk (fun b e k => by have := (h.row.blk_ge b e).1; have := h.lt; omega), h.len, h.few, h.kind,
    fun x hx => (h.exts x hx).keep hk (fun b e k => by have := ((h.exts x hx).own.blk_ge b e).1; have := h.lt; omega), hr, by rw [hb]; exact h.rb, t0, t1⟩
end
/-- What header leaves. -/
def HdR (base g gr : Nat) (w : World) (es : List Ex) (p : Int) (rest : List Int) (t : Int) (e : Ending) (w' : World) : Prop :=
  Below base w w' ∧ ((hdE p es.length rest ≠ 0 ∧ e = .returned (.tuple #[.agg #[.int .u8 0, .slice none 0 0], .int .i64 (hdE p es.length rest)])) ∨
    (hdE p es.length rest = 0 ∧ ∃ x : Ex, x.k = p ∧ x.xs = hdD p rest ∧ XOk (g + 1) w' x ∧ e = .returned (.tuple #[.agg (xcs x).toArray, .int .i64 0]) ∧
      ∃ ea en ec ra rn rc, Cr base g gr w' ea en ec (es ++ [x]) (rest.getD 0 0) ra rn rc (rest.drop (hdS p rest)) (t + hdS p rest)))
theorem ret_mid3 {P : Program} {fn : Func} {p q r : Tmp} {ty : TypeId} (h : fn.results = #[.cell p ty, .tmp q, .tmp r]) (tmps : Array Value) (w : World) (b off : Nat) (cs : List Value) (d : TypeDesc) (hp : tmps.getD p undef = .pointer (some ⟨b, off, none⟩)) (hc : w.rangeAt b off cs)
    (hu : P.underlying ty = some d) (hd : d.isRow = true) (hi : (P.info? ty).map (·.size) = some cs.length) (u v : Value) (hq : tmps.getD q undef = u) (hr : tmps.getD r undef = v) : (results fn tmps).run P w = .ok (.tuple #[.agg cs.toArray, u, v]) w := by
  have hp' : tmps[p]?.getD undef = .pointer (some ⟨b, off, none⟩) := by simpa using hp
  have hq' : tmps[q]?.getD undef = u := by simpa using hq
  have hr' : tmps[r]?.getD undef = v := by simpa using hr
  simp [results, h, hp', hq', hr', asAddr, run_loadVar_mid w b off ty cs d hc hu hd hi]
theorem ret_mid2 {P : Program} {fn : Func} {p q : Tmp} {ty : TypeId} (h : fn.results = #[.cell p ty, .tmp q]) (tmps : Array Value) (w : World) (b off : Nat) (cs : List Value) (d : TypeDesc) (hp : tmps.getD p undef = .pointer (some ⟨b, off, none⟩)) (hc : w.rangeAt b off cs)
    (hu : P.underlying ty = some d) (hd : d.isRow = true) (hi : (P.info? ty).map (·.size) = some cs.length) (u : Value) (hq : tmps.getD q undef = u) : (results fn tmps).run P w = .ok (.tuple #[.agg cs.toArray, u]) w := by
  have hp' : tmps[p]?.getD undef = .pointer (some ⟨b, off, none⟩) := by simpa using hp
  have hq' : tmps[q]?.getD undef = u := by simpa using hq
  simp [results, h, hp', hq', asAddr, run_loadVar_mid w b off ty cs d hc hu hd hi]
theorem range_two {w : World} {b : Nat} {u v : Value} (h0 : w.cell? ⟨b, 0, none⟩ = some u) (h1 : w.cell? ⟨b, 1, none⟩ = some v) : w.rangeAt b 0 [u, v] := fun j x hx => by
  rw [Nat.zero_add]
  match j, hx with
  | 0, hx => rw [h0]; simpa using hx
  | 1, hx => rw [h1]; simpa using hx
  | j + 2, hx => simp at hx
section
variable {ops : Array Oper} {rest : List Oper} {o : Oper} {a : Act} {w : World} {Q : Exit → Act → World → Prop}
/-- Cells are stored, as one thing. -/
theorem stC (t : TypeId) (x y : Operand) (ho : o.op = .store t x y) (hgd : o.guard = none) (b off : Nat) (cs : List Value) (hx : a.eval x = .pointer (some ⟨b, off, none⟩)) (hy : a.eval y = .agg cs.toArray)
    (ht : w.there b off cs.length) (hi : (Try.prog.info? t).map (·.size) = some cs.length) (h1 : ∀ v ∈ cs, v.oneCell' = true)
    (h : wpList Try.prog ops Q rest (a.put o.dst undef) (w.setCells b off cs)) : wpList Try.prog ops Q (o :: rest) a w :=
  wpList_store_mid hgd t x y ho b off cs.toArray hx hy (by simpa using ht) (by simpa using hi) (all_oneCell_toArray h1) (by simpa using h)
/-- Cells are loaded, as one thing. -/
theorem ldC (t : TypeId) (x : Operand) (ho : o.op = .load t x) (hgd : o.guard = none) (b : Nat) (hx : a.eval x = .pointer (some ⟨b, 0, none⟩)) (cs : List Value) (hc : w.rangeAt b 0 cs) (d : TypeDesc) (hu : Try.prog.underlying t = some d) (hd : d.isRow = true)
    (hi : (Try.prog.info? t).map (·.size) = some cs.length) (k : wpList Try.prog ops Q rest (a.put o.dst (.agg cs.toArray)) w) : wpList Try.prog ops Q (o :: rest) a w :=
  wpList_load_mid hgd t x ho b 0 hx cs d hc hu hd hi k
end
theorem Below.setCells {B : Nat} {w w' : World} (h : Below B w w') (b : Nat) (hb : B ≤ b) : ∀ (vs : List Value) (off : Nat) , Below B w (w'.setCells b off vs)
  | [], _ => h
  | v :: r, off => by rw [World.setCells]; exact Below.setCells (h.setCell (p := ⟨b, off, none⟩) hb v) b hb r (off + 1)
theorem row_there {w : World} {b : Nat} {cs : Array Value} {t : TypeId} (h : w.heap[b]? = some (.cells cs t (0, 0))) (n : Nat) (hn : cs.size = n) : w.there b 0 n := fun j hj => by
  rw [cell_of_row _ b (0 + j) _ t (0, 0) h, frozen_of_row _ b (0 + j) cs t h]
  simp [hn, hj]
theorem Kept.setCells {w : World} (b : Nat) (vs : List Value) : ∀ (off : Nat) (w0 : World), Kept (fun k => k = b) w0 w → Kept (fun k => k = b) w0 (w.setCells b off vs) := by
  induction vs generalizing w with
  | nil => intro off w0 h; exact h
  | cons v r ih => intro off w0 h; rw [World.setCells]; exact ih (off + 1) w0 (h.trans (Kept.setCell (S := fun k => k = b) _ _ _ rfl) (fun _ _ e => e))
theorem ret_mid {P : Program} {fn : Func} {p : Tmp} {ty : TypeId} (h : fn.results = #[.cell p ty]) (tmps : Array Value) (w : World) (b off : Nat) (cs : List Value) (d : TypeDesc) (hp : tmps.getD p undef = .pointer (some ⟨b, off, none⟩)) (hc : w.rangeAt b off cs)
    (hu : P.underlying ty = some d) (hd : d.isRow = true) (hi : (P.info? ty).map (·.size) = some cs.length) : (results fn tmps).run P w = .ok (.agg cs.toArray) w := by
  have hp' : tmps[p]?.getD undef = .pointer (some ⟨b, off, none⟩) := by simpa using hp
  simp [results, h, hp', asAddr, run_loadVar_mid w b off ty cs d hc hu hd hi]
theorem yields_build {P : Program} {ops : Array Oper} {S : World → Prop} {op : Oper} {a : Act} (hw : Region.wanted op (yielded ops a.tmps) = true) (t : TypeId) (parts : Array (Nat × Operand)) (ho : op.op = .build t parts) {cells : Array Value}
    (hc : P.built t (parts.toList.map fun x => (x.1, a.eval x.2)) = some cells) : YieldsIf P ops S op (.agg cells) a :=
  .inl ⟨hw, fun w _ => by
    have hc' : P.built t (parts.map fun (i, x) => (i, a.eval x)).toList = some cells := by rw [← hc]; simp
    unfold execOp
    simp only [ho, Sem.run_bind, run_build w t _ cells hc', Result.andThen_ok]
    rfl⟩
theorem cell_other {w : World} {p q : Addr} {v u : Value} (h : p ≠ q) (hc : w.cell? q = some u) : (w.setCell p v).cell? q = some u := by rw [World.cell?_setCell_other (h := h)]; exact hc
def x0 : List Value := [.int .u8 0, .slice none 0 0]
theorem x0_one : ∀ v ∈ x0, v.oneCell' = true := by intro v hv; simp [x0] at hv; rcases hv with rfl | rfl <;> rfl
theorem heap_kept {w wr : World} (h : Below w.heap.size w wr) {b : Nat} {o : Obj} (hc : w.heap[b]? = some o) : wr.heap[b]? = some o :=
  (Kept.of_below (S := fun _ => False) h (fun i hi hi' => by omega)).heap hc id
theorem set2_heap {w : World} {b : Nat} {x y : Value} {t : TypeId} (h : w.heap[b]? = some (.cells #[x, y] t (0, 0))) (v : Value) : (w.setCell ⟨b, 1, none⟩ v).heap[b]? = some (.cells #[x, v] t (0, 0)) := heap_setCell_same w b 1 _ _ v h
theorem range_row2 {w : World} {b : Nat} {u v : Value} {t : TypeId} (h : w.heap[b]? = some (.cells #[u, v] t (0, 0))) : w.rangeAt b 0 [u, v] :=
  range_two (by rw [cell_of_row _ b 0 _ _ (0, 0) h]; rfl) (by rw [cell_of_row _ b 1 _ _ (0, 0) h]; rfl)
theorem XOk.apart {base : Nat} {w : World} {x : Ex} (h : XOk base w x) {z : Nat} {c : Array Value} {f : Nat × Nat} (hz : w.heap[z]? = some (.cells c 71 f)) : ∀ b, blk x.a = some b → b ≠ z := by
  rintro b hb rfl
  rcases h.own.cases with ⟨h1, _⟩ | ⟨q, cur, h1, _, h2, _⟩
  · rw [h1] at hb; cases hb
  · rw [h1] at hb; simp [blk] at hb; subst hb
    rw [h2] at hz
    simp at hz
/-- A header more stands in the row, and what comes next is told. -/
theorem Cr.pushed {base g gr : Nat} {w : World} {ea : Option Addr} {en ec : Nat} {es : List Ex} {p : Int} {ra : Option Addr} {rn rc : Nat} {rest : List Int} {t : Int} (h : Cr base g gr w ea en ec es p ra rn rc rest t)
    {x : Ex} (hx : XOk (g + 1) w x) {ga ca : Nat} {w6 : World} (ho : OwnG w6 (g + 1) 71 2 (some ⟨ga, 0, none⟩) (en + 1) ca (es.flatMap xcs ++ xcs x)) (hk : Kept (fun k => blk ea = some k) w w6) (hlt : en < 16) (nx : Int) (hn : 0 ≤ nx ∧ nx < 256) :
    Cr base g gr ((w6.setCell ⟨g, 0, none⟩ (.slice (some ⟨ga, 0, none⟩) (en + 1) ca)).setCell ⟨g, 1, none⟩ (.int .u8 nx)) (some ⟨ga, 0, none⟩) (en + 1) ca (es ++ [x]) nx ra rn rc rest t := by
  have hek : ∀ b, blk ea = some b → g + 1 ≤ b := fun b hb => (h.row.blk_ge b hb).1
  have hat := hk.heap h.at_ (fun e => by have := hek _ e; omega)
  have e1 := heap_setCell_same w6 g 0 _ _ (.slice (some ⟨ga, 0, none⟩) (en + 1) ca) hat
  have e2 := heap_setCell_same _ g 1 _ _ (.int .u8 nx) e1
  have hkg : Kept (fun k => k = g) w6 ((w6.setCell ⟨g, 0, none⟩ (.slice (some ⟨ga, 0, none⟩) (en + 1) ca)).setCell ⟨g, 1, none⟩ (.int .u8 nx)) :=
    (Kept.setCell (S := fun k => k = g) w6 _ _ rfl).trans (Kept.setCell (S := fun k => k = g) _ _ _ rfl) (fun _ _ e => e)
  have hlt' := h.lt
  have one : ∀ y, XOk (g + 1) w y → XOk (g + 1) ((w6.setCell ⟨g, 0, none⟩ (.slice (some ⟨ga, 0, none⟩) (en + 1) ca)).setCell ⟨g, 1, none⟩ (.int .u8 nx)) y := fun y hy =>
    (hy.keep hk (fun b hb k => (OwnG.apart (own_of hy.own) h.row (by decide)) b hb k)).keep hkg (fun b hb k => by have := (hy.own.blk_ge b hb).1; omega)
  refine ⟨h.lo, h.lt, e2, ?_, by rw [List.length_append, h.len]; rfl, by omega, hn, ?_, ?_, h.rb, h.t0, h.t1⟩
  · rw [List.flatMap_append, show [x].flatMap xcs = xcs x by simp]
    exact ho.keep hkg (fun b hb k => by have := (ho.blk_ge b hb).1; omega)
  · intro y hy
    rcases List.mem_append.1 hy with hy | hy
    · exact one y (h.exts y hy)
    · rw [List.mem_singleton.1 hy]; exact one x hx
  · refine (h.rd.keep hk (fun e => by have := hek _ e; omega) (fun b hb e => by have := hek _ e; have := (h.rb b hb).2; omega)).keep hkg (by omega) (fun b hb e => by have := (h.rb b hb).2; omega)
/-- A block of another kind changes. -/
theorem Cr.keepz {base g gr : Nat} {w w' : World} {ea : Option Addr} {en ec : Nat} {es : List Ex} {p : Int} {ra : Option Addr} {rn rc : Nat} {rest : List Int} {t : Int} (h : Cr base g gr w ea en ec es p ra rn rc rest t) {z : Nat} (hk : Kept (fun k => k = z) w w')
    (hz : g < z) (hea : blk ea ≠ some z) {c : Array Value} {f : Nat × Nat} (hc : w.heap[z]? = some (.cells c 71 f)) : Cr base g gr w' ea en ec es p ra rn rc rest t := by
  have hlt := h.lt
  refine ⟨h.lo, h.lt, hk.heap h.at_ (by omega), h.row.keep hk (fun b hb e => hea (by rw [hb, e])), h.len, h.few, h.kind, fun x hx => (h.exts x hx).keep hk ((h.exts x hx).apart hc), h.rd.keep hk (by omega) (fun b hb e => by have := (h.rb b hb).2; omega), h.rb, h.t0, h.t1⟩
end Go.Proofs.Ythipnkaghddbhaa

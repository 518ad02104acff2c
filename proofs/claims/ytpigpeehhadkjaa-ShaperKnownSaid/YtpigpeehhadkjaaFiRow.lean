/-
  Rows of items: as their cells lie behind one another; copy and clear of rows whose elements have several cells. No conditions but those that the theorems name.
-/
import Derived.Test.YtpigpeehhadkjaaBase
import Derived.Deep.MidRow
import Derived.Laws.CopyRow
import Derived.Laws.OwnMore
import Derived.Lib.SliceRun
namespace Go.Proofs.Ytpigpeehhadkjaa
open Go.RowKit

theorem run_copy_wide {P : Program} (w : World) (dT sT ty elem : TypeId) (s : Nat) (g o dLen dCap : Nat) (a : Addr) (sLen sCap : Nat) (cur : Array Value) (t : TypeId) (cs : List Value)
    (hu : P.underlying dT = some (.slice elem)) (hs : (P.info? elem).map (·.size) = some s)
    (hg : w.heap[g]? = some (.cells cur t (0, 0))) (hn : cs.length = Nat.min sLen dLen * s)
    (hsrc : ∀ j v, cs[j]? = some v → w.cell? (a.add j) = some v) (hfit : o + cs.length ≤ cur.size) (h1 : ∀ v ∈ cs, v.oneCell' = true) :
    (Builtin.copy_ #[dT, sT] ty #[.slice (some ⟨g, o, none⟩) dLen dCap, .slice (some a) sLen sCap]).run P w =
      .ok (goInt (Nat.min sLen dLen)) (w.setRow g (cur.toList.take o ++ cs ++ cur.toList.drop (o + cs.length)).toArray) := by
  have hl := run_loadCells_list (P := P) w a cs hsrc
  have hst := run_storeCells_at P g o t cs 0 cur w hg (by simpa using hfit) h1
  cases hq : P.info? elem with
  | none => simp [hq] at hs
  | some i =>
    have hi : i.size = s := by simpa [hq] using hs
    simp [Builtin.copy_, run_underlying hu, Builtin.lenOf, Builtin.firstCells, sizeOf, typeInfo, hq, hi, ← hn, hl, hst]

theorem run_clear_wide {P : Program} (w : World) (t e ty : TypeId) (z : Value) (ht : P.underlying t = some (.slice e)) (hv : ∀ w, (zeroValue e).run P w = .ok z w) (g : Nat) (cur : Array Value) (tt : TypeId) (n c : Nat) (hn : 0 < n)
    (hg : w.heap[g]? = some (.cells cur tt (0, 0))) (vs : List Value) (hvs : (Builtin.zeroCells z.cells n).toList = vs) (hl : vs.length = cur.size) (h1 : ∀ v ∈ vs, v.oneCell' = true) :
    (Builtin.clear_ #[t] ty #[.slice (some ⟨g, 0, none⟩) n c]).run P w = .ok (.tuple #[]) (w.setRow g vs.toArray) := by
  have hst := run_storeCells_at P g 0 tt vs 0 cur w hg (by omega) h1
  have e1 : (cur.toList.take (0 + 0) ++ vs ++ cur.toList.drop (0 + 0 + vs.length)).toArray = vs.toArray := by
    rw [List.drop_of_length_le (by simp; omega)]; simp
  rw [e1] at hst
  obtain ⟨m, rfl⟩ : ∃ m, n = m + 1 := ⟨n - 1, by omega⟩
  simp [Builtin.clear_, run_underlying ht, hv, hvs, hst]

theorem flat_at {α : Type} (f : α → List Value) (m : Nat) : ∀ (es : List α) (_ : ∀ x ∈ es, (f x).length = m) (i : Nat) (x : α), es[i]? = some x → ∀ j, j < m → (es.flatMap f)[i * m + j]? = (f x)[j]?
  | [], _, i, x, h, _, _ => by simp at h
  | y :: t, hf, 0, x, h, j, hj => by
    simp at h; subst h
    have := hf y List.mem_cons_self
    rw [List.flatMap_cons, List.getElem?_append_left (by omega)]
    simp
  | y :: t, hf, i + 1, x, h, j, hj => by
    have h1 := hf y List.mem_cons_self
    have ih := flat_at f m t (fun z hz => hf z (List.mem_cons_of_mem _ hz)) i x (by simpa using h) j hj
    rw [List.flatMap_cons, List.getElem?_append_right (by rw [h1, Nat.add_mul]; omega), h1, ← ih]
    congr 1
    rw [Nat.add_mul]; omega
theorem flat_len {α : Type} (f : α → List Value) (m : Nat) : ∀ (es : List α) (_ : ∀ x ∈ es, (f x).length = m), (es.flatMap f).length = es.length * m
  | [], _ => by simp
  | y :: t, hf => by
    rw [List.flatMap_cons, List.length_append, flat_len f m t (fun z hz => hf z (List.mem_cons_of_mem _ hz)), hf y List.mem_cons_self, List.length_cons, Nat.add_mul]
    omega
theorem flat_take {α : Type} (f : α → List Value) (m : Nat) (es : List α) (h : ∀ x ∈ es, (f x).length = m) (k : Nat) (hk : k ≤ es.length) : (es.flatMap f).take (k * m) = (es.take k).flatMap f := by
  have e := List.take_append_drop k es
  have h1 : ((es.take k).flatMap f).length = k * m := by
    rw [flat_len f m _ (fun x hx => h x (List.mem_of_mem_take hx)), List.length_take, Nat.min_eq_left hk]
  conv => lhs; rw [← e, List.flatMap_append]
  rw [List.take_append_of_le_length (by omega), List.take_of_length_le (by omega)]
theorem flat_drop {α : Type} (f : α → List Value) (m : Nat) (es : List α) (h : ∀ x ∈ es, (f x).length = m) (k : Nat) (hk : k ≤ es.length) : (es.flatMap f).drop (k * m) = (es.drop k).flatMap f := by
  have e := List.take_append_drop k es
  have h1 : ((es.take k).flatMap f).length = k * m := by
    rw [flat_len f m _ (fun x hx => h x (List.mem_of_mem_take hx)), List.length_take, Nat.min_eq_left hk]
  conv => lhs; rw [← e, List.flatMap_append]
  rw [List.drop_append_of_le_length (by omega), List.drop_of_length_le (by omega), List.nil_append]

/-- An item: its number, its size, where its data lie, and they. -/
structure Pi where
  no : Int
  sz : Int
  a : Option Addr
  n : Nat
  c : Nat
  d : List Int
def Pi.cs (x : Pi) : List Value := [.int .u64 x.no, .int .i64 x.sz, .slice x.a x.n x.c]
def Pi.v (x : Pi) : Value := .agg x.cs.toArray
/-- No item. -/
def pz : Pi := ⟨0, 0, none, 0, 0, []⟩
def rws (l : List Pi) : List Value := l.flatMap Pi.cs
theorem Pi.len (x : Pi) : x.cs.length = 3 := rfl
theorem Pi.one (x : Pi) : ∀ v ∈ x.cs, v.oneCell' = true := by
  intro v hv
  simp [Pi.cs] at hv
  rcases hv with rfl | rfl | rfl <;> rfl
theorem rws_len (l : List Pi) : (rws l).length = l.length * 3 := flat_len _ _ _ (fun x _ => x.len)
theorem rws_one (l : List Pi) : ∀ v ∈ rws l, v.oneCell' = true := by
  intro v hv
  obtain ⟨x, _, hv⟩ := List.mem_flatMap.1 hv
  exact x.one v hv
theorem rws_append (l m : List Pi) : rws (l ++ m) = rws l ++ rws m := by simp [rws]
theorem rws_at {l : List Pi} {i : Nat} {x : Pi} (h : l[i]? = some x) (j : Nat) (hj : j < 3) : (rws l)[i * 3 + j]? = x.cs[j]? := flat_at _ 3 l (fun x _ => x.len) i x h j hj
theorem rws_set : ∀ (l : List Pi) (i : Nat) (x : Pi), i < l.length → (((rws l).set (i * 3) (.int .u64 x.no)).set (i * 3 + 1) (.int .i64 x.sz)).set (i * 3 + 2) (.slice x.a x.n x.c) = rws (l.set i x)
  | [], i, x, h => by simp at h
  | y :: t, 0, x, _ => by simp [rws, Pi.cs]
  | y :: t, i + 1, x, h => by
    have ih := rws_set t i x (by simpa using h)
    have e : rws (y :: t) = .int .u64 y.no :: .int .i64 y.sz :: .slice y.a y.n y.c :: rws t := by simp [rws, Pi.cs]
    have e2 : rws ((y :: t).set (i + 1) x) = .int .u64 y.no :: .int .i64 y.sz :: .slice y.a y.n y.c :: rws (t.set i x) := by simp [rws, Pi.cs]
    rw [e, e2, ← ih, show (i + 1) * 3 = i * 3 + 1 + 1 + 1 by omega, show i * 3 + 1 + 1 + 1 + 1 = i * 3 + 1 + 1 + 1 + 1 from rfl]
    simp only [List.set_cons_succ, show i * 3 + 1 + 1 + 1 + 2 = (i * 3 + 2) + 1 + 1 + 1 by omega]
/-- A ring's block, an item stored at a place. -/
theorem ring_set {w : World} {r : Nat} {t : TypeId} {l : List Pi} (h : w.heap[r]? = some (.cells (rws l).toArray t (0, 0))) {i : Nat} (hi : i < l.length) (x : Pi) : (w.setCells r (i * 3) x.cs).heap[r]? = some (.cells (rws (l.set i x)).toArray t (0, 0)) := by
  unfold Pi.cs
  simp only [World.setCells]
  rw [heap_setCell_same _ r _ _ _ _ (heap_setCell_same _ r _ _ _ _ (heap_setCell_same _ r _ _ _ _ h))]
  congr 2
  have := rws_set l i x hi
  rw [← this]
  simp
theorem ring_at {w : World} {r : Nat} {t : TypeId} {l : List Pi} (h : w.heap[r]? = some (.cells (rws l).toArray t (0, 0))) {i : Nat} {x : Pi} (hx : l[i]? = some x) : w.rangeAt r (i * 3) x.cs := fun j v hv => by
  have hj : j < 3 := (List.getElem?_eq_some_iff.1 hv).1
  rw [cell_of_row w r (i * 3 + j) _ _ (0, 0) h, List.getElem?_toArray, rws_at hx j hj]
  exact hv
theorem ring_there {w : World} {r : Nat} {t : TypeId} {l : List Pi} (h : w.heap[r]? = some (.cells (rws l).toArray t (0, 0))) {i : Nat} (hi : i < l.length) : w.there r (i * 3) 3 := fun j hj => by
  rw [cell_of_row w r (i * 3 + j) _ _ (0, 0) h, frozen_of_row w r (i * 3 + j) _ _ h]
  refine ⟨?_, rfl⟩
  have := rws_len l
  rw [List.getElem?_toArray, List.getElem?_eq_getElem (by omega)]
  rfl
theorem Kept.setCells {S : Nat → Prop} {w w' : World} (g : Nat) (hg : S g) : ∀ (vs : List Value) (o : Nat), Kept S w w' → Kept S w (w'.setCells g o vs)
  | [], _, h => h
  | v :: r, o, h => by rw [World.setCells]; exact Kept.setCells g hg r (o + 1) (h.trans (Kept.setCell (S := S) w' ⟨g, o, none⟩ v hg) (fun _ _ h => h))
theorem Kept.drewN {S : Nat → Prop} {w : World} : ∀ (m : Nat), Kept S w (w.drewN m)
  | _ => ⟨rfl, rfl, rfl, Nat.le_refl _, fun _ _ _ => rfl⟩
theorem Kept.setRow {S : Nat → Prop} (w : World) (g : Nat) (c : Array Value) (hg : S g) : Kept S w (w.setRow g c) := by
  refine ⟨by simp [World.setRow], by simp [World.setRow], by simp [World.setRow], by simp [World.setRow], fun k hk hn => ?_⟩
  have : g ≠ k := fun e => hn (e ▸ hg)
  simp [World.setRow, Array.getElem?_modify, this]
/-- A row of no items. -/
theorem rws_pz : ∀ (n : Nat), rws (List.replicate n pz) = (madeCells #[.int .u64 0, .int .i64 0, .slice none 0 0] (n * 3)).toList := by
  intro n
  apply List.ext_getElem?
  intro j
  by_cases hj : j < n * 3
  · have hi : (List.replicate n pz)[j / 3]? = some pz := by rw [List.getElem?_replicate, if_pos (by omega)]
    have h1 := rws_at hi (j % 3) (by omega)
    rw [show j / 3 * 3 + j % 3 = j by omega] at h1
    rw [h1]
    have : j % 3 = 0 ∨ j % 3 = 1 ∨ j % 3 = 2 := by omega
    rcases this with e | e | e <;> simp [madeCells, hj, e, pz, Pi.cs]
  · rw [List.getElem?_eq_none (by rw [rws_len]; simp; omega), List.getElem?_eq_none (by simp [madeCells]; omega)]
end Go.Proofs.Ytpigpeehhadkjaa

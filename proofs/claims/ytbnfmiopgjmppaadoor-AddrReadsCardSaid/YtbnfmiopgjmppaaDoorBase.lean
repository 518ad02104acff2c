/-
  What every seat's proofs lean on: rows of bytes and of integers in memory, rows of the call's own and what append does to them, what stays as it was, how slices that come in are opened. Conditions: those that each theorem names.
-/
import Derived.Test.YtbnfmiopgjmppaaDoorRows
import Derived.Test.YtbnfmiopgjmppaaDoorMath
import Derived.WalkKit
import Derived.WalkSpells
import Derived.WalkLawsBesides
import Derived.Lib.Hide
import Derived.Laws.BitsAllLaws
import Derived.Laws.IdiomStrings
import Derived.Maps.AppendAt
import Derived.Lib.AppendZerosOnto
import Derived.ProofKit
import Derived.OpenShut
import Derived.ShutString
import Derived.ChangeOld
import Derived.Deep.QuietTactic
import Derived.BigQuiet
namespace Go.Proofs.YtbnfmiopgjmppaaDoor
open Go.ChangeShapes Go.WideShapes Go.ChangeAt Go.RowKit

/-- A number of a uint64. -/
def U64 (v : Int) : Prop := 0 ≤ v ∧ v < pw 8
/-- A number of an int. -/
def I64 (n : Int) : Prop := -9223372036854775808 ≤ n ∧ n ≤ 9223372036854775807
theorem div_pw_succ (v : Int) (k : Nat) : v / pw (k + 1) = v / pw k / 256 := by
  rw [pw_succ, Int.ediv_ediv_of_nonneg (by have := pw_pos k; omega)]
theorem div_pw_pos {v : Int} {k : Nat} (h : 255 < v / pw k) : pw (k + 1) ≤ v := by
  have hp := pw_pos k
  have h1 : 256 ≤ v / pw k := by omega
  have h2 := (Int.le_ediv_iff_mul_le (by omega)).1 h1
  rw [pw_succ]; omega
theorem div_pw_lt {v : Int} {k : Nat} (h : v / pw k ≤ 255) : v < pw (k + 1) := by
  have hp := pw_pos k
  have h1 : v / pw k < 256 := by omega
  have h2 := (Int.ediv_lt_iff_lt_mul (by omega)).1 h1
  rw [pw_succ]; omega
theorem lst_of {v : Int} {k : Nat} (hv : v < pw 8) (hk : k ≤ 7) (h0 : pw k ≤ v ∨ k = 0) (h : v / pw k ≤ 255) : lst v = k + 1 := by
  have h1 := (lst_iff hv (k + 1) (by omega) (by omega)).2 (div_pw_lt h)
  have h2 := lst_pos v
  rcases h0 with h0 | rfl
  · by_cases e : lst v ≤ k
    · have := (lst_iff hv k (by omega) (by omega)).1 e
      omega
    · omega
  · omega

/-- A slice's address leads to these bytes. -/
def Rd (w : World) (a : Option Addr) (xs : List Int) : Prop :=
  xs ≠ [] → ∃ b o, a = some ⟨b, o, none⟩ ∧ ∀ i, i < xs.length → w.cell? ⟨b, o + i, none⟩ = some (.int .u8 (xs.getD i 0))
/-- Bytes. -/
def Byt (xs : List Int) : Prop := ∀ x ∈ xs, 0 ≤ x ∧ x < 256
theorem Byt.get {xs : List Int} (h : Byt xs) (i : Nat) : 0 ≤ xs.getD i 0 ∧ xs.getD i 0 < 256 := by
  rw [List.getD_eq_getElem?_getD]
  by_cases hi : i < xs.length
  · rw [List.getElem?_eq_getElem hi]; exact h _ (List.getElem_mem hi)
  · rw [List.getElem?_eq_none (by omega)]; simp
theorem Byt.take {xs : List Int} (h : Byt xs) (k : Nat) : Byt (xs.take k) := fun x hx => h x (List.mem_of_mem_take hx)
theorem Byt.drop {xs : List Int} (h : Byt xs) (k : Nat) : Byt (xs.drop k) := fun x hx => h x (List.mem_of_mem_drop hx)
theorem Byt.append {xs ys : List Int} (h : Byt xs) (k : Byt ys) : Byt (xs ++ ys) := fun x hx => by
  rcases List.mem_append.1 hx with hx | hx
  · exact h x hx
  · exact k x hx
theorem Byt.nil : Byt [] := fun x hx => by simp at hx
theorem getD_cut (xs : List Int) (q m i : Nat) (h : i < m) : ((xs.drop q).take m).getD i 0 = xs.getD (q + i) 0 := by
  simp only [List.getD_eq_getElem?_getD, List.getElem?_take, if_pos h, List.getElem?_drop]
theorem Rd.cut {w : World} {b o : Nat} {xs : List Int} (h : Rd w (some ⟨b, o, none⟩) xs) {q m : Nat} (hm : q + m ≤ xs.length) : Rd w (some ⟨b, o + q, none⟩) ((xs.drop q).take m) := by
  intro hne
  have hl : ((xs.drop q).take m).length = m := by simp; omega
  have hm0 : 0 < m := by
    rcases Nat.eq_zero_or_pos m with e | e
    · subst e; simp at hne
    · exact e
  obtain ⟨b', o', e, hc⟩ := h (by intro e; subst e; simp at hm; omega)
  simp only [Option.some.injEq, Addr.mk.injEq, and_true] at e
  obtain ⟨rfl, rfl⟩ := e
  refine ⟨b, o + q, rfl, fun i hi => ?_⟩
  rw [getD_cut _ _ _ _ (by omega), Nat.add_assoc]
  exact hc (q + i) (by omega)
theorem take_snoc (xs : List Int) (k : Nat) (h : k < xs.length) : xs.take (k + 1) = xs.take k ++ [xs.getD k 0] := by
  rw [List.take_succ_eq_append_getElem h]; simp [List.getElem?_eq_getElem h]
theorem num_take (xs : List Int) (k : Nat) (h : k < xs.length) : num (xs.take (k + 1)) = num (xs.take k) * 256 + xs.getD k 0 := by
  rw [take_snoc xs k h, num_snoc]
theorem or_join (a b : Int) (h0 : 0 ≤ a) (h1 : a < 72057594037927936) (hb : 0 ≤ b) (hb' : b < 256) : bits .or .u64 (a * 256) b = a * 256 + b := by
  rw [u64_or _ _ (by omega) (by omega) hb (by omega), nat_join 8 _ _ (by omega) (by omega)]
  omega

/-- The block that a slice's address names. -/
def blk (a : Option Addr) : Option Nat := a.map (·.block)
def bv (xs : List Int) : List Value := xs.map (Value.int .u8)
theorem ownBlock_eq (a : Option Addr) (n c : Nat) : (Value.slice a n c).ownBlock = blk a := by cases a <;> rfl
theorem bv_append (xs ys : List Int) : bv (xs ++ ys) = bv xs ++ bv ys := by simp [bv]
theorem bv_length (xs : List Int) : (bv xs).length = xs.length := by simp [bv]
theorem bv_get (xs : List Int) (i : Nat) (h : i < xs.length) : (bv xs)[i]? = some (.int .u8 (xs.getD i 0)) := by
  simp [bv, List.getElem?_eq_getElem h]
theorem bv_one (xs : List Int) : ∀ u ∈ bv xs, u.oneCell' = true := by
  intro u hu
  obtain ⟨x, _, rfl⟩ := List.mem_map.1 hu
  rfl

/-- All blocks but some are as they were; new ones may be there. -/
structure Kept (S : Nat → Prop) (w w' : World) : Prop where
  os : w'.os = w.os
  tape : w'.tape = w.tape
  output : w'.output = w.output
  size : w.heap.size ≤ w'.heap.size
  block : ∀ k, k < w.heap.size → ¬ S k → w'.heap[k]? = w.heap[k]?

theorem Kept.refl (S : Nat → Prop) (w : World) : Kept S w w := ⟨rfl, rfl, rfl, Nat.le_refl _, fun _ _ _ => rfl⟩
theorem Kept.trans {S T : Nat → Prop} {a b c : World} (h : Kept S a b) (k : Kept T b c) (hs : ∀ i, i < a.heap.size → T i → S i) : Kept S a c :=
  ⟨k.os.trans h.os, k.tape.trans h.tape, k.output.trans h.output, Nat.le_trans h.size k.size,
    fun i hi hn => (k.block i (Nat.lt_of_lt_of_le hi h.size) (fun ht => hn (hs i hi ht))).trans (h.block i hi hn)⟩
theorem Kept.mono {S T : Nat → Prop} {a b : World} (h : Kept S a b) (hs : ∀ i, i < a.heap.size → S i → T i) : Kept T a b :=
  ⟨h.os, h.tape, h.output, h.size, fun i hi hn => h.block i hi (fun s => hn (hs i hi s))⟩
theorem Kept.grown {S : Nat → Prop} {w w' : World} {r : Option Nat} (h : w.grownBy w' r) (hs : ∀ k, r = some k → S k) : Kept S w w' :=
  ⟨h.os, h.tape, h.output, h.size, fun k hk hn => h.block k hk (fun e => hn (hs k e.symm))⟩
theorem Kept.alloc (S : Nat → Prop) (w : World) (o : Obj) : Kept S w (w.alloc o) := ⟨rfl, rfl, rfl, by simp, fun k hk _ => Below.heap_alloc w o k hk⟩
theorem Kept.setCell {S : Nat → Prop} (w : World) (p : Addr) (u : Value) (hs : S p.block) : Kept S w (w.setCell p u) :=
  ⟨rfl, rfl, rfl, by simp [World.setCell], fun k _ hn => Below.heap_setCell w p u k (fun e => hn (by rw [e]; exact hs))⟩
theorem Kept.of_below {S : Nat → Prop} {B : Nat} {w w' : World} (h : Below B w w') (hs : ∀ k, k < w.heap.size → B ≤ k → S k) : Kept S w w' :=
  ⟨h.os, h.tape, h.output, h.size, fun k hk hn => h.block k (by
    rcases Nat.lt_or_ge k B with e | e
    · exact e
    · exact absurd (hs k hk e) hn)⟩
theorem Kept.below {S : Nat → Prop} {B : Nat} {w w' : World} (h : Kept S w w') (hB : B ≤ w.heap.size) (hs : ∀ k, S k → B ≤ k) : Below B w w' :=
  ⟨h.os, h.tape, h.output, h.size, fun k hk => h.block k (by omega) (fun s => by have := hs k s; omega)⟩
theorem Kept.drew {S : Nat → Prop} {w w' : World} (h : Kept S w w') : Kept S w w'.drew := ⟨h.os, h.tape, h.output, h.size, h.block⟩
theorem Kept.heap {S : Nat → Prop} {w w' : World} (h : Kept S w w') {g : Nat} {o : Obj} (hg : w.heap[g]? = some o) (hn : ¬ S g) : w'.heap[g]? = some o := by
  rw [h.block g (by
    rcases Nat.lt_or_ge g w.heap.size with e | e
    · exact e
    · rw [Array.getElem?_eq_none e] at hg; cases hg) hn]
  exact hg

theorem Rd.keep {S : Nat → Prop} {w w' : World} {a : Option Addr} {xs : List Int} (h : Rd w a xs) (k : Kept S w w') (hn : ∀ b, blk a = some b → ¬ S b) : Rd w' a xs := by
  intro hne
  obtain ⟨b, o, rfl, hc⟩ := h hne
  refine ⟨b, o, rfl, fun i hi => ?_⟩
  have h1 := hc i hi
  rw [← h1]
  exact World.cell?_of_block (k.block b (World.block_lt_of_cell? w ⟨b, o + i, none⟩ h1) (hn b rfl))
theorem Rd.below {w w' : World} {a : Option Addr} {xs : List Int} (h : Rd w a xs) (k : Below w.heap.size w w') : Rd w' a xs :=
  h.keep (S := fun _ => False) (Kept.of_below k (fun i hi hi' => by omega)) (fun _ _ => id)
theorem Rd.empty (w : World) (a : Option Addr) : Rd w a [] := fun h => absurd rfl h

/-- A slice at the head of a row of the call's own, with these bytes. -/
def Own (w : World) (base : Nat) (a : Option Addr) (n cap : Nat) (xs : List Int) : Prop :=
  xs.length = n ∧ w.ownsRow base 5 1 (.slice a n cap) n (bv xs)

theorem Own.len {w : World} {base : Nat} {a : Option Addr} {n cap : Nat} {xs : List Int} (h : Own w base a n cap xs) : xs.length = n := h.1
theorem Own.nil (w : World) (base : Nat) : Own w base none 0 0 [] := ⟨rfl, World.ownsRow_nil _ _ _ _⟩
theorem Own.cases {w : World} {base : Nat} {a : Option Addr} {n cap : Nat} {xs : List Int} (h : Own w base a n cap xs) :
    (a = none ∧ n = 0 ∧ cap = 0 ∧ xs = []) ∨
    ∃ g cur, a = some ⟨g, 0, none⟩ ∧ base ≤ g ∧ w.heap[g]? = some (.cells cur 5 (0, 0)) ∧ n ≤ cap ∧ cap ≤ maxLen ∧ cur.size = cap ∧ cur.toList.take n = bv xs := by
  obtain ⟨hl, h1, h2⟩ := h
  rcases h2 with ⟨he, h0⟩ | ⟨g, cap', cur, he, hb, hg, hnc, hcm, hcs, ht⟩
  · simp only [Value.slice.injEq] at he
    obtain ⟨rfl, rfl, rfl⟩ := he
    exact .inl ⟨rfl, rfl, rfl, List.eq_nil_of_length_eq_zero hl⟩
  · simp only [Value.slice.injEq, true_and] at he
    obtain ⟨rfl, rfl⟩ := he
    exact .inr ⟨g, cur, rfl, hb, hg, hnc, hcm, by simpa using hcs, by simpa using ht⟩
theorem Own.le {w : World} {base : Nat} {a : Option Addr} {n cap : Nat} {xs : List Int} (h : Own w base a n cap xs) : n ≤ cap ∧ cap ≤ maxLen := by
  rcases h.cases with ⟨rfl, rfl, rfl, rfl⟩ | ⟨g, cur, rfl, _, _, h1, h2, _⟩
  · exact ⟨Nat.le_refl _, Nat.zero_le _⟩
  · exact ⟨h1, h2⟩
theorem Own.blk_ge {w : World} {base : Nat} {a : Option Addr} {n cap : Nat} {xs : List Int} (h : Own w base a n cap xs) : ∀ k, blk a = some k → base ≤ k ∧ k < w.heap.size := by
  intro k hk
  rcases h.cases with ⟨rfl, rfl, rfl, rfl⟩ | ⟨g, cur, rfl, hb, hg, _⟩
  · simp [blk] at hk
  · simp [blk] at hk
    subst hk
    exact ⟨hb, (Array.getElem?_eq_some_iff.1 hg).1⟩
theorem Own.rd {w : World} {base : Nat} {a : Option Addr} {n cap : Nat} {xs : List Int} (h : Own w base a n cap xs) : Rd w a xs := by
  rcases h.cases with ⟨rfl, rfl, rfl, rfl⟩ | ⟨g, cur, rfl, _, hg, _, _, _, ht⟩
  · exact Rd.empty _ _
  · intro _
    refine ⟨g, 0, rfl, fun i hi => ?_⟩
    rw [cell_of_row w g (0 + i) cur _ (0, 0) hg, Nat.zero_add]
    have h1 := bv_get xs i hi
    rw [← ht, List.getElem?_take] at h1
    split at h1
    · simpa using h1
    · cases h1
theorem Own.keep {S : Nat → Prop} {w w' : World} {base : Nat} {a : Option Addr} {n cap : Nat} {xs : List Int} (h : Own w base a n cap xs) (k : Kept S w w') (hn : ∀ b, blk a = some b → ¬ S b) : Own w' base a n cap xs := by
  refine ⟨h.1, h.2.1, ?_⟩
  rcases h.2.2 with h0 | ⟨g, cap', cur, he, hb, hg, r⟩
  · exact .inl h0
  · refine .inr ⟨g, cap', cur, he, hb, k.heap hg (hn g ?_), r⟩
    simp only [Value.slice.injEq] at he
    rw [he.1]; rfl
theorem Own.mono {w : World} {base base' : Nat} {a : Option Addr} {n cap : Nat} {xs : List Int} (h : Own w base a n cap xs) (hb : base' ≤ base) : Own w base' a n cap xs := by
  refine ⟨h.1, h.2.1, ?_⟩
  rcases h.2.2 with h0 | ⟨g, cap', cur, he, hbb, r⟩
  · exact .inl h0
  · exact .inr ⟨g, cap', cur, he, by omega, r⟩

theorem u8_info : (Tryd.prog.info? 5).map (fun i => (i.zero, i.size, i.bytes)) = some (some (.int .u8 0), 1, 1) := by kernel_rfl

/-- append(row, bytes...), the row of the call's own, the bytes anywhere. -/
theorem run_append_rd (w : World) (base ty : Nat) {a : Option Addr} {n cap : Nat} {xs : List Int} (hown : Own w base a n cap xs) {b : Option Addr} {m : Nat} (c : Nat) {ys : List Int} (hm : ys.length = m) (hr : Rd w b ys)
    (hlim : n + m ≤ 140737488355328) (hbase : base ≤ w.heap.size) :
    ∃ a' cap' w', (Builtin.append_ #[25, 25] ty #[.slice a n cap, .slice b m c]).run Tryd.prog w = .ok (.slice a' (n + m) cap') w' ∧ Own w' base a' (n + m) cap' (xs ++ ys) ∧ w.grownBy w' (blk a) ∧
      (blk a' = blk a ∨ blk a' = some w.heap.size) := by
  obtain ⟨i0, hi, hz0, hz1, hz2⟩ := info_parts u8_info
  have hl : (xs ++ ys).length = n + m := by rw [List.length_append, hown.1, hm]
  cases b with
  | none =>
    have hy : ys = [] := by
      cases ys with
      | nil => rfl
      | cons y ys => obtain ⟨_, _, h, _⟩ := hr (by simp); cases h
    subst hy
    simp at hm
    subst hm
    refine ⟨a, cap, w, ?_, by simpa using hown, ⟨rfl, rfl, rfl, Nat.le_refl _, fun _ _ _ => rfl⟩, .inl rfl⟩
    rcases hown.cases with ⟨rfl, rfl, rfl, rfl⟩ | ⟨g, cur, rfl, _, _, hnc, _⟩
    · simp [Builtin.append_, run_underlying Tryd.underlying25, sizeOf, typeInfo, hi, Builtin.lenOf, Builtin.firstCells]
    · simp [Builtin.append_, run_underlying Tryd.underlying25, sizeOf, typeInfo, hi, Builtin.lenOf, Builtin.firstCells, hnc, storeCells]
  | some ad =>
    have hcells : ∀ j u, (bv ys)[j]? = some u → w.cell? (ad.add j) = some u := by
      intro j u hu
      have hj : j < ys.length := by
        have := (List.getElem?_eq_some_iff.1 hu).1
        rwa [bv_length] at this
      rw [bv_get ys j hj] at hu
      obtain ⟨b, o, e, hc⟩ := hr (by intro e; subst e; simp at hj)
      simp only [Option.some.injEq] at e
      subst e
      rw [Addr.add_lit, hc j hj]
      exact hu
    obtain ⟨v', w', hrun, h2, h3, _, h5⟩ := run_append_own_at (P := Tryd.prog) w base 25 ty 5 i0 _ 1 1 Tryd.underlying25 hi hz0 hz1 hz2 rfl (by omega) (.slice a n cap) n (bv xs) hown.2 ad m c (bv ys)
      (by rw [bv_length, hm]; omega) hcells (bv_one ys) (by simp only [maxLen]; omega) (by omega) hbase
    rcases h2.2 with ⟨rfl, h0⟩ | ⟨g, cap', cur, rfl, r⟩
    · refine ⟨none, 0, w', by rw [h0]; exact hrun, ⟨hl, ?_⟩, by rw [ownBlock_eq] at h3; exact h3, ?_⟩
      · rw [h0] at h2 ⊢; rw [bv_append]; exact h2
      · rw [ownBlock_eq, ownBlock_eq] at h5; exact h5
    · refine ⟨some ⟨g, 0, none⟩, cap', w', hrun, ⟨hl, by rw [bv_append]; exact h2⟩, by rw [ownBlock_eq] at h3; exact h3, ?_⟩
      rw [ownBlock_eq, ownBlock_eq] at h5; exact h5

def zs (k : Nat) : List Int := List.replicate k 0
theorem zs_length (k : Nat) : (zs k).length = k := by simp [zs]

theorem zeroCells_bv (k : Nat) : Builtin.zeroCells (Value.int .u8 0).cells k = (bv (zs k)).toArray := by
  apply Array.ext
  · simp [Builtin.zeroCells, Value.cells, bv, zs]
  · intro i h1 h2
    simp [Builtin.zeroCells, Value.cells, bv, zs, Nat.mod_one]

theorem grown_drew_alloc (w : World) (o : Obj) (r : Option Nat) : w.grownBy (w.drew.alloc o) r := ⟨rfl, rfl, rfl, by simp, fun j hj _ => Below.heap_alloc w.drew o j hj⟩

/-- append(row, make([]byte, k)...), the row of the call's own. -/
theorem run_append_zeros (w : World) (base ty : Nat) {a : Option Addr} {n cap : Nat} {xs : List Int} (hown : Own w base a n cap xs) (k : Nat) (h0 : 0 < k)
    (hlim : n + k ≤ 140737488355328) (hbase : base ≤ w.heap.size) :
    ∃ a' cap' w', (Builtin.append_ #[25, 3] ty #[.slice a n cap, .int .i64 k]).run Tryd.prog w = .ok (.slice a' (n + k) cap') w' ∧ Own w' base a' (n + k) cap' (xs ++ zs k) ∧ w.grownBy w' (blk a) ∧
      (blk a' = blk a ∨ blk a' = some w.heap.size) := by
  obtain ⟨i0, hi, hz0, hz1, hz2⟩ := info_parts u8_info
  have hl : (xs ++ zs k).length = n + k := by rw [List.length_append, hown.1, zs_length]
  have hge := grownCap_ge w (n + k) cap 5
  have hcm : grownCap w (n + k) cap 5 ≤ maxLen := grownCap_le_maxLen w (n + k) cap _ (by simp only [maxLen]; omega)
  have big : ∀ (ol : Array Value), ol = (bv xs).toArray →
      Own (w.drew.alloc (.cells (ol ++ Builtin.zeroCells (Value.int .u8 0).cells k ++ Builtin.zeroCells (Value.int .u8 0).cells (grownCap w (n + k) cap 5 - (n + k))) 5)) base (some ⟨w.heap.size, 0, none⟩) (n + k) (grownCap w (n + k) cap 5) (xs ++ zs k) := by
    intro ol hol
    subst hol
    refine ⟨hl, by rw [bv_length, hl]; omega, .inr ⟨w.heap.size, _, _, rfl, hbase, heap_alloc_new w.drew _, hge, hcm, ?_, ?_⟩⟩
    · simp only [Array.size_append, List.size_toArray, zeroCells_bv, bv_length, zs_length, hown.1]; omega
    · simp only [zeroCells_bv, Array.toList_append]
      rw [← bv_append, List.take_append_of_le_length (by rw [bv_length, hl]; omega)]
      exact List.take_of_length_le (by rw [bv_length, hl]; omega)
  rcases hown.cases with ⟨rfl, rfl, rfl, rfl⟩ | ⟨g, cur, rfl, hbg, hg, hnc, hcm', hcs, ht⟩
  · have hr := Lib.run_append_nil_zeros (P := Tryd.prog) w 25 3 ty 5 i0 _ .i64 .i64 Tryd.underlying25 Tryd.underlying3 hi hz0 k h0 (by omega) (by omega) (by rw [hz2]; omega)
    refine ⟨_, _, _, by rw [Nat.zero_add]; exact hr, ?_, grown_drew_alloc w _ _, .inr rfl⟩
    have := big #[] rfl
    simpa using this
  · by_cases hroom : n + k ≤ cap
    · have hst := run_storeCells_at Tryd.prog g n 5 (bv (zs k)) 0 cur w hg (by rw [bv_length, zs_length]; omega) (bv_one _)
      have hk : k ≠ 0 := by omega
      have hw : IntKind.i64.wrap (k : Int) = k := by rw [IntKind.wrap_i64]; omega
      have h48i : ¬ (281474976710656 < (k : Int)) := by omega
      have hneg : ¬ ((k : Int) < 0) := by omega
      simp only [Nat.add_zero] at hst
      refine ⟨some ⟨g, 0, none⟩, cap, w.setRow g (cur.toList.take n ++ bv (zs k) ++ cur.toList.drop (n + (bv (zs k)).length)).toArray, ?_, ⟨hl, by rw [bv_length, hl]; omega, .inr ⟨g, cap, _, rfl, hbg, setRow_heap w g cur _ _ _ hg, hroom, hcm', ?_, ?_⟩⟩,
        ⟨rfl, rfl, rfl, by simp, fun j _ hj => setRow_other w g j _ (fun e => hj (by simp [blk, e]))⟩, .inl rfl⟩
      · simp [Builtin.append_, run_underlying Tryd.underlying25, run_underlying Tryd.underlying3, sizeOf, typeInfo, zeroValue, hi, hz0, hz1, hz2, asInt, asIntOf, hw, hk, hneg, h48i, hroom, zeroCells_bv, Addr.add_lit, hst]
      · simp only [List.size_toArray, List.length_append, List.length_take, List.length_drop, Array.length_toList, bv_length, zs_length]; omega
      · rw [ht, ← bv_append]
        have e1 : (n + k) * 1 = (bv (xs ++ zs k)).length := by rw [bv_length, hl]; omega
        rw [e1]
        exact List.take_left
    · have hold : (Builtin.firstCells i0.size n (.slice (some ⟨g, 0, none⟩) n cap)).run Tryd.prog w.drew = .ok (bv xs).toArray w.drew := by
        rw [hz1]
        have := run_firstCells_some (P := Tryd.prog) w.drew 1 n ⟨g, 0, none⟩ n cap (bv xs) (by rw [bv_length, hown.1]; omega) (hown.2.cells (g := g) rfl)
        exact this
      have hr := Lib.run_append_grow_zeros (P := Tryd.prog) w 25 3 ty 5 i0 _ .i64 .i64 Tryd.underlying25 Tryd.underlying3 hi hz0 (some ⟨g, 0, none⟩) n cap (bv xs) hold k h0 (by omega) (by omega) (by omega) (by rw [hz2]; omega) (by rw [hz2]; exact growslice_fits (by omega) (by omega))
      exact ⟨_, _, _, hr, big _ rfl, grown_drew_alloc w _ _, .inr rfl⟩

/-- A new row of the call's own is handed back; all that was there is as it was. -/
def Made (w : World) (xs : List Int) (e : Ending) (w' : World) : Prop :=
  ∃ a n cap, e = .returned (.slice a n cap) ∧ Own w' w.heap.size a n cap xs ∧ Below w.heap.size w w'
theorem Rd.one (w : World) (x : Int) : Rd (w.alloc (.cells #[.int .u8 x] 5)) (some ⟨w.heap.size, 0, none⟩) [x] := by
  intro _
  refine ⟨w.heap.size, 0, rfl, fun i hi => ?_⟩
  have : i = 0 := by simp at hi; omega
  subst this
  simp
/-- The bytes, as Go's own type has them. -/
def ub (xs : List Int) : List UInt8 := xs.map fun x => UInt8.ofNat x.toNat
theorem ub_inj : ∀ {xs ys : List Int}, Byt xs → Byt ys → ub xs = ub ys → xs = ys
  | [], [], _, _, _ => rfl
  | [], _ :: _, _, _, h => by simp [ub] at h
  | _ :: _, [], _, _, h => by simp [ub] at h
  | x :: xs, y :: ys, hx, hy, h => by
    simp only [ub, List.map_cons, List.cons.injEq] at h
    have e := ub_inj (xs := xs) (ys := ys) (fun z hz => hx z (by simp [hz])) (fun z hz => hy z (by simp [hz])) h.2
    have h1 := hx x (by simp)
    have h2 := hy y (by simp)
    have h3 := congrArg UInt8.toNat h.1
    simp only [UInt8.toNat_ofNat'] at h3
    have : x = y := by omega
    rw [this, e]
theorem run_string_rd (w : World) {a : Option Addr} {n : Nat} (c : Nat) {xs : List Int} (hn : xs.length = n) (hr : Rd w a xs) (hb : Byt xs) :
    (convert 25 9 (.slice a n c)).run Tryd.prog w = .ok (.string ⟨(ub xs).toArray⟩) w := by
  have hl : (ub xs).length = n := by simp [ub, hn]
  cases a with
  | none =>
    have hy : xs = [] := by
      cases xs with
      | nil => rfl
      | cons y ys => obtain ⟨_, _, h, _⟩ := hr (by simp); cases h
    subst hy
    simp at hn
    subst hn
    rw [run_convert_bytes_string w _ _ _ none 0 c Tryd.underlying25 Tryd.underlying5 Tryd.underlying9]
    rfl
  | some ad =>
    rw [← hl]
    refine run_convert_bytes_back w _ _ _ ad c (ub xs) Tryd.underlying25 Tryd.underlying5 Tryd.underlying9 (fun j hj => ?_)
    have hj' : j < xs.length := by rw [hl] at hj; omega
    obtain ⟨b, o, e, hc⟩ := hr (by intro e; subst e; simp at hj')
    simp only [Option.some.injEq] at e
    subst e
    rw [Addr.add_lit, hc j hj']
    have h1 := hb.get j
    have h2 : (ub xs)[j].toNat = (xs.getD j 0).toNat := by
      simp only [ub, List.getElem_map, List.getD_eq_getElem?_getD, List.getElem?_eq_getElem hj', Option.getD_some, UInt8.toNat_ofNat']
      have := hb _ (List.getElem_mem hj')
      omega
    rw [h2]
    congr 2
    omega

theorem Blk_new (w : World) (cs : Array Value) (t : TypeId) : (w.alloc (.cells cs t)).heap[w.heap.size]? = some (.cells cs t (0, 0)) := heap_alloc_new w _
theorem Own.lit (w : World) (base : Nat) (xs : List Int) (n : Nat) (hn : xs.length = n) (hm : n ≤ maxLen) (hb : base ≤ w.heap.size) : Own (w.alloc (.cells (bv xs).toArray 5)) base (some ⟨w.heap.size, 0, none⟩) n n xs :=
  ⟨hn, by rw [bv_length]; omega, .inr ⟨w.heap.size, n, (bv xs).toArray, rfl, hb, Blk_new w _ _, Nat.le_refl _, hm, by simp [bv]; omega, by simp only [Nat.mul_one]; exact List.take_of_length_le (by rw [bv_length]; omega)⟩⟩
theorem u64_small {v : Int} (h0 : 0 ≤ v) (h : v < 1000000) : U64 v := ⟨h0, by rw [pw_eight]; omega⟩

theorem Rd.dropped {w : World} {b o : Nat} {xs : List Int} (h : Rd w (some ⟨b, o, none⟩) xs) {m : Nat} (hm : m ≤ xs.length) : Rd w (some ⟨b, o + m, none⟩) (xs.drop m) := by
  have h1 := h.cut (q := m) (m := xs.length - m) (by omega)
  rwa [List.take_of_length_le (by simp)] at h1

theorem Rd.taken {w : World} {a : Option Addr} {xs : List Int} (h : Rd w a xs) (m : Nat) : Rd w a (xs.take m) := by
  intro hne
  obtain ⟨b, o, rfl, hc⟩ := h (by rintro rfl; simp at hne)
  refine ⟨b, o, rfl, fun i hi => ?_⟩
  have hi' : i < m ∧ i < xs.length := by simp at hi; omega
  rw [hc i hi'.2]
  simp [hi'.1]

theorem Own.set {w : World} {base g n cap : Nat} {xs : List Int} (h : Own w base (some ⟨g, 0, none⟩) n cap xs) (j : Nat) (z : Int) : Own (w.setCell ⟨g, j, none⟩ (.int .u8 z)) base (some ⟨g, 0, none⟩) n cap (xs.set j z) := by
  have h1 := (h.2.stored j (.int .u8 z)).1
  refine ⟨by rw [List.length_set]; exact h.1, ?_⟩
  have e : bv (xs.set j z) = (bv xs).set j (.int .u8 z) := by simp [bv, List.map_set]
  rw [e]
  exact h1

/-- Some bytes stand in a row of the call's own; but for it all is as it was. -/
def Inc (w0 : World) (base : Nat) (a : Option Addr) (n cap : Nat) (w : World) : Prop :=
  ∃ zs, Own w base a n cap zs ∧ Kept (fun k => blk a = some k) w0 w

theorem Inc.start {w : World} {base : Nat} {a : Option Addr} {n cap : Nat} {xs : List Int} (h : Own w base a n cap xs) : Inc w base a n cap w := ⟨xs, h, Kept.refl _ _⟩
theorem Inc.at_ {w0 w : World} {base : Nat} {a : Option Addr} {n cap k : Nat} (h : Inc w0 base a n cap w) (hk : k < n) :
    ∃ g z, a = some ⟨g, 0, none⟩ ∧ w.cell? ⟨g, k, none⟩ = some (.int .u8 z) ∧ w.frozen? ⟨g, k, none⟩ = false ∧ ∀ y, Inc w0 base (some ⟨g, 0, none⟩) n cap (w.setCell ⟨g, k, none⟩ (.int .u8 y)) := by
  obtain ⟨zs, ho, hkp⟩ := h
  rcases ho.cases with ⟨_, h0, _⟩ | ⟨g, cur, rfl, _, hg, _⟩
  · omega
  obtain ⟨b, o, e, hc⟩ := ho.rd (by intro e; have := ho.len; rw [e] at this; simp at this; omega)
  simp only [Option.some.injEq, Addr.mk.injEq, and_true] at e
  obtain ⟨rfl, rfl⟩ := e
  have hck := hc k (by rw [ho.len]; exact hk)
  rw [Nat.zero_add] at hck
  exact ⟨g, _, rfl, hck, frozen_of_row w g k cur _ hg, fun y => ⟨zs.set k y, ho.set k y, hkp.trans (Kept.setCell (S := fun k => blk (some ⟨g, 0, none⟩) = some k) _ _ _ rfl) (fun _ _ e => e)⟩⟩

theorem own : ownKnob Tryd.prog.godebug = none := by kernel_rfl
theorem laidOut : laidOutB Tryd.prog = true := by kernel_rfl
/-- A slice's address leads to these integers. -/
def RdK (k : IntKind) (w : World) (a : Option Addr) (xs : List Int) : Prop :=
  xs ≠ [] → ∃ b o, a = some ⟨b, o, none⟩ ∧ ∀ i, i < xs.length → w.cell? ⟨b, o + i, none⟩ = some (.int k (xs.getD i 0))
theorem RdK.below {k : IntKind} {w w' : World} {a : Option Addr} {xs : List Int} (h : RdK k w a xs) (hb : Below w.heap.size w w') : RdK k w' a xs := by
  intro hne
  obtain ⟨b, o, rfl, hc⟩ := h hne
  refine ⟨b, o, rfl, fun i hi => ?_⟩
  have h1 := hc i hi
  rw [← h1]
  exact World.cell?_of_block (hb.block b (World.block_lt_of_cell? w ⟨b, o + i, none⟩ h1))
theorem open_row {H : Type} {enc : TypeId × Value → H} {w : World} {base : Nat} {spare : Nat → Bool} {held : Bool} {fuel : Nat} {t e : TypeId} {k : IntKind} {a : Option Addr} {n cap : Nat} {x : DataW H × List MemPlace}
    (ht : Tryd.prog.underlying t = some (.slice e)) (he : Tryd.prog.underlying e = some (.int k)) (hc : Tryd.prog.cellsOf e = 1)
    (h : DataW.trod enc Tryd.prog w base spare held fuel t [.slice a n cap] = some x) (hsp : ∀ b, spare b = true) :
    ∃ xs : List Int, xs.length = n ∧ n ≤ cap ∧ cap ≤ maxLen ∧ RdK k w a xs ∧ ∀ y ∈ xs, (Lit.int k y).wf = true := by
  rcases open_ints ht he hc h with ⟨hcs, _⟩ | ⟨ad, l, c, zs, hcs, _, hl, hm, hz, _, hcell, hwz⟩
  · simp at hcs
    obtain ⟨rfl, rfl, rfl⟩ := hcs
    exact ⟨[], rfl, Nat.le_refl _, Nat.zero_le _, fun h => absurd rfl h, fun y hy => by simp at hy⟩
  · simp at hcs
    obtain ⟨rfl, rfl, rfl⟩ := hcs
    rw [if_pos (hsp _)] at hz
    refine ⟨zs.take n, by simp; omega, hl, hm, fun hne => ?_, fun y hy => hwz y (List.mem_of_mem_take hy)⟩
    have hn0 : 0 < n := by
      rcases Nat.eq_zero_or_pos n with e | e
      · subst e; simp at hne
      · exact e
    obtain ⟨b, o, spot⟩ := ad
    have h0 := hcell 0 (by omega)
    have hspot : spot = none := by simpa [Addr.add] using World.cell?_spot h0
    subst hspot
    refine ⟨b, o, rfl, fun i hi => ?_⟩
    have hi' : i < n := by simp at hi; omega
    have h1 := hcell i (by omega)
    rw [Addr.add_lit] at h1
    rw [h1]
    simp [hi']
theorem rd_of {w : World} {a : Option Addr} {xs : List Int} (h : RdK .u8 w a xs) : Rd w a xs := h
theorem byt_of {xs : List Int} (h : ∀ y ∈ xs, (Lit.int .u8 y).wf = true) : Byt xs := fun y hy => by
  have := bounds_u8 (h y hy); omega
theorem u64_of {v : Int} (h : (Lit.int .u64 v).wf = true) : U64 v := by
  have := bounds_u64 h
  exact ⟨this.1, by rw [pw_eight]; omega⟩

theorem cell_kept {w wr : World} (h : Below w.heap.size w wr) {b o : Nat} {u : Value} (hc : w.cell? ⟨b, o, none⟩ = some u) : wr.cell? ⟨b, o, none⟩ = some u := by
  rw [h.cell (p := ⟨b, o, none⟩) (World.block_lt_of_cell? w ⟨b, o, none⟩ hc)]; exact hc
theorem wf_get {k : IntKind} {xs : List Int} (h : ∀ y ∈ xs, (Lit.int k y).wf = true) {i : Nat} (hi : i < xs.length) : (Lit.int k (xs.getD i 0)).wf = true :=
  h _ (by rw [List.getD_eq_getElem?_getD, List.getElem?_eq_getElem hi]; exact List.getElem_mem hi)
theorem quiet_l {P : Program} {f : FuncId} {args : Array Value} {w : World} {n : Nat} {v : Value}
    (h : Calls P f args (w.drewN n) fun e w' => e = .returned v ∧ w.drewN n = w') : Calls P f args (w.drewN n) fun e w'' => e = .returned v ∧ ∃ m, w'' = w.drewN m :=
  h.mono fun _ _ ⟨he, hm⟩ => ⟨he, n, hm.symm⟩

/-- A slice at the head of a row of the call's own. -/
def OwnG (w : World) (base e size : Nat) (a : Option Addr) (n cap : Nat) (vs : List Value) : Prop := w.ownsRow base e size (.slice a n cap) n vs

section
variable {w w' : World} {base e size : Nat} {a : Option Addr} {n cap : Nat} {vs : List Value}
theorem OwnG.nil (w : World) (base e size : Nat) : OwnG w base e size none 0 0 [] := World.ownsRow_nil _ _ _ _
theorem OwnG.cases (h : OwnG w base e size a n cap vs) :
    (a = none ∧ n = 0 ∧ cap = 0 ∧ vs = []) ∨
    ∃ g cur, a = some ⟨g, 0, none⟩ ∧ base ≤ g ∧ w.heap[g]? = some (.cells cur e (0, 0)) ∧ n ≤ cap ∧ cap ≤ maxLen ∧ cur.size = cap * size ∧ cur.toList.take (n * size) = vs := by
  obtain ⟨h1, h2⟩ := h
  rcases h2 with ⟨he, h0⟩ | ⟨g, cap', cur, he, hb, hg, hnc, hcm, hcs, ht⟩
  · simp only [Value.slice.injEq] at he
    obtain ⟨rfl, rfl, rfl⟩ := he
    exact .inl ⟨rfl, rfl, rfl, List.eq_nil_of_length_eq_zero (by simpa using h1)⟩
  · simp only [Value.slice.injEq, true_and] at he
    obtain ⟨rfl, rfl⟩ := he
    exact .inr ⟨g, cur, rfl, hb, hg, hnc, hcm, hcs, ht⟩
theorem OwnG.le (h : OwnG w base e size a n cap vs) : n ≤ cap ∧ cap ≤ maxLen := by
  rcases h.cases with ⟨rfl, rfl, rfl, rfl⟩ | ⟨g, cur, rfl, _, _, h1, h2, _⟩
  · exact ⟨Nat.le_refl _, Nat.zero_le _⟩
  · exact ⟨h1, h2⟩
theorem OwnG.blk_ge (h : OwnG w base e size a n cap vs) : ∀ k, blk a = some k → base ≤ k ∧ k < w.heap.size := by
  intro k hk
  rcases h.cases with ⟨rfl, _⟩ | ⟨g, cur, rfl, hb, hg, _⟩
  · simp [blk] at hk
  · simp [blk] at hk
    subst hk
    exact ⟨hb, (Array.getElem?_eq_some_iff.1 hg).1⟩
theorem OwnG.keep {S : Nat → Prop} (h : OwnG w base e size a n cap vs) (k : Kept S w w') (hn : ∀ b, blk a = some b → ¬ S b) : OwnG w' base e size a n cap vs := by
  refine ⟨h.1, ?_⟩
  rcases h.2 with h0 | ⟨g, cap', cur, he, hb, hg, r⟩
  · exact .inl h0
  · refine .inr ⟨g, cap', cur, he, hb, k.heap hg (hn g ?_), r⟩
    simp only [Value.slice.injEq] at he
    rw [he.1]; rfl
theorem OwnG.below (h : OwnG w base e size a n cap vs) (hb : Below w.heap.size w w') : OwnG w' base e size a n cap vs :=
  h.keep (S := fun _ => False) (Kept.of_below hb (fun i hi hi' => by omega)) (fun _ _ => id)
theorem OwnG.apart {base' e' size' : Nat} {a' : Option Addr} {n' cap' : Nat} {vs' : List Value} (h : OwnG w base e size a n cap vs) (h' : OwnG w base' e' size' a' n' cap' vs') (hne : e ≠ e') : ∀ b, blk a = some b → ¬ blk a' = some b := by
  intro b hb hb'
  rcases h.cases with ⟨rfl, _⟩ | ⟨g, cur, rfl, _, hg, _⟩
  · cases hb
  rcases h'.cases with ⟨rfl, _⟩ | ⟨g', cur', rfl, _, hg', _⟩
  · cases hb'
  simp [blk] at hb hb'
  subst hb hb'
  rw [hg] at hg'
  simp at hg'
  exact hne hg'.2
theorem OwnG.cell (h : OwnG w base e size a n cap vs) (hv : vs ≠ []) : ∃ g, a = some ⟨g, 0, none⟩ ∧ ∀ j u, vs[j]? = some u → w.cell? ⟨g, 0 + j, none⟩ = some u := by
  rcases h.cases with ⟨_, _, _, rfl⟩ | ⟨g, cur, rfl, _, hg, _, _, _, ht⟩
  · exact absurd rfl hv
  · refine ⟨g, rfl, fun j u hu => ?_⟩
    rw [cell_of_row w g (0 + j) cur _ (0, 0) hg, Nat.zero_add]
    rw [← ht, List.getElem?_take] at hu
    split at hu
    · simpa using hu
    · cases hu
theorem own_of {xs : List Int} (h : Own w base a n cap xs) : OwnG w base 5 1 a n cap (bv xs) := h.2
end

theorem OwnG.rdk {w : World} {base e : Nat} {k : IntKind} {a : Option Addr} {n cap : Nat} {xs : List Int} (h : OwnG w base e 1 a n cap (xs.map (Value.int k))) : RdK k w a xs := by
  intro hne
  obtain ⟨g, rfl, hc⟩ := h.cell (by simpa using hne)
  refine ⟨g, 0, rfl, fun i hi => hc i _ ?_⟩
  simp [List.getElem?_eq_getElem hi]
theorem OwnG.len {w : World} {base e : Nat} {k : IntKind} {a : Option Addr} {n cap : Nat} {xs : List Int} (h : OwnG w base e 1 a n cap (xs.map (Value.int k))) : xs.length = n := by
  have := h.1; simpa using this

/-- append(row, x), the row of the call's own. -/
theorem run_append_one (w : World) (base ty t e : Nat) (z : Value) (size bytes : Nat) (hinfo : (Tryd.prog.info? e).map (fun i => (i.zero, i.size, i.bytes)) = some (some z, size, bytes)) (ht : Tryd.prog.underlying t = some (.slice e))
    (hzs : z.cells.size = size) (hsz : 0 < size) {a : Option Addr} {n cap : Nat} {vs : List Value} (hown : OwnG w base e size a n cap vs) (news : List Value) (hl : news.length = size) (h1 : ∀ u ∈ news, u.oneCell' = true)
    (hb : base ≤ w.heap.size) (hlim : (n + 1) * bytes ≤ 140737488355328) (hn : n ≤ 1099511627776) :
    ∃ g cap' w', (Builtin.append_ #[t, t] ty #[.slice a n cap, .slice (some ⟨w.heap.size, 0, none⟩) 1 1]).run Tryd.prog (w.alloc (.cells news.toArray e)) = .ok (.slice (some ⟨g, 0, none⟩) (n + 1) cap') w' ∧
      OwnG w' base e size (some ⟨g, 0, none⟩) (n + 1) cap' (vs ++ news) ∧ Kept (fun k => blk a = some k) w w' ∧ (blk a = some g ∨ w.heap.size < g) := by
  obtain ⟨i0, hi, hz0, hz1, hz2⟩ := info_parts hinfo
  have hk := Kept.alloc (fun _ => False) w (.cells news.toArray e)
  have ho : OwnG (w.alloc (.cells news.toArray e)) base e size a n cap vs := hown.keep hk (fun _ _ => id)
  obtain ⟨v', w', hrun, h2, h3, h4, h5⟩ := run_append_own_at (P := Tryd.prog) (w.alloc (.cells news.toArray e)) base t ty e i0 z size bytes ht hi hz0 hz1 hz2 hzs hsz (.slice a n cap) n vs ho ⟨w.heap.size, 0, none⟩ 1 1 news
    (by rw [hl, Nat.one_mul]) (fun j u hu => by
      rw [Addr.add_lit, cell_of_row _ w.heap.size (0 + j) news.toArray e (0, 0) (Blk_new w _ _)]
      simpa using hu) h1 (by simp only [maxLen]; omega) hlim (by simp; omega)
  rw [ownBlock_eq] at h3
  rcases h2.2 with ⟨rfl, h0⟩ | ⟨g, cap', cur, rfl, r⟩
  · omega
  · rw [ownBlock_eq, ownBlock_eq] at h5
    refine ⟨g, cap', w', hrun, h2, (hk.mono (T := fun k => blk a = some k) (fun _ _ h => h.elim)).trans (Kept.grown h3 (S := fun k => blk a = some k) (fun _ e => e)) (fun _ _ e => e), ?_⟩
    rcases h5 with e | e
    · exact .inl (by rw [← e]; rfl)
    · simp [blk] at e; exact .inr (by omega)

theorem u64_info : (Tryd.prog.info? 104).map (fun i => (i.zero, i.size, i.bytes)) = some (some (.int .u64 0), 1, 8) := by kernel_rfl
theorem int_info : (Tryd.prog.info? 3).map (fun i => (i.zero, i.size, i.bytes)) = some (some (.int .i64 0), 1, 8) := by kernel_rfl

theorem RdK.lit (k : IntKind) (w : World) (e : TypeId) (xs : List Int) : RdK k (w.alloc (.cells (xs.map (Value.int k)).toArray e)) (some ⟨w.heap.size, 0, none⟩) xs := by
  intro _
  refine ⟨w.heap.size, 0, rfl, fun i hi => ?_⟩
  rw [cell_of_row _ w.heap.size (0 + i) _ e (0, 0) (Blk_new w _ _)]
  simp [List.getElem?_eq_getElem hi]
end Go.Proofs.YtbnfmiopgjmppaaDoor

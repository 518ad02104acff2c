/-
  Headers of IPv4 as they lie in slots and in memory, and the contracts of Right, flagsWord, clone and word. Conditions: a header's numbers fit their Go types, its addresses have four bytes each, its options lie where the slice leads.
-/
import Derived.Test.YtjnbnjdajkhkpaaSet
import Derived.Test.YtjnbnjdajkhkpaaWr3
import Derived.Test.YtjnbnjdajkhkpaaRef
import Derived.Test.YtjnbnjdajkhkpaaSumRef
import Derived.Outline
import Derived.Laws.StructEq
import Derived.WalkMore
import Derived.Deep.MidRow
import Derived.Deep.RegionHeld3
namespace Go.Proofs.Ytjnbnjdajkhkpaa
open Go.RowKit

/-- A header: its numbers and flags, its addresses' bytes, the slice of its options, and they. -/
structure Hd where
  tos : Int
  tot : Int
  id : Int
  df : Bool
  mf : Bool
  frag : Int
  ttl : Int
  pro : Int
  src : List Int
  dst : List Int
  a : Option Addr
  n : Nat
  c : Nat
  op : List Int
/-- Its cells. -/
def Hd.cs (h : Hd) : List Value :=
  .int .u8 h.tos :: .int .u16 h.tot :: .int .u16 h.id :: .bool h.df :: .bool h.mf :: .int .u16 h.frag :: .int .u8 h.ttl :: .int .u8 h.pro :: (bv h.src ++ (bv h.dst ++ [.slice h.a h.n h.c]))
/-- Its numbers fit, its addresses have four bytes, its options lie where the slice leads. -/
structure Hd.ok (w : World) (h : Hd) : Prop where
  tos : 0 ≤ h.tos ∧ h.tos < 256
  tot : 0 ≤ h.tot ∧ h.tot < 65536
  id : 0 ≤ h.id ∧ h.id < 65536
  frag : 0 ≤ h.frag ∧ h.frag < 65536
  ttl : 0 ≤ h.ttl ∧ h.ttl < 256
  pro : 0 ≤ h.pro ∧ h.pro < 256
  src : h.src.length = 4
  dst : h.dst.length = 4
  srcb : Byt h.src
  dstb : Byt h.dst
  row : Row.ok w ⟨h.a, h.n, h.c, h.op⟩
theorem Hd.ok.below {w w' : World} {h : Hd} (k : h.ok w) (hb : Below w.heap.size w w') : h.ok w' := ⟨k.tos, k.tot, k.id, k.frag, k.ttl, k.pro, k.src, k.dst, k.srcb, k.dstb, k.row.below hb⟩
theorem Hd.ok.len {w : World} {h : Hd} (k : h.ok w) : h.cs.length = 17 := by simp [Hd.cs, bv, k.src, k.dst]
theorem Hd.one (h : Hd) : ∀ v ∈ h.cs, v.oneCell' = true := by
  intro v hv
  simp only [Hd.cs, List.mem_cons, List.mem_append] at hv
  rcases hv with rfl | rfl | rfl | rfl | rfl | rfl | rfl | rfl | hv | hv | rfl | hv
  any_goals rfl
  · exact bv_one _ v hv
  · exact bv_one _ v hv
  · simp at hv
theorem Hd.c0 (h : Hd) : h.cs.toArray[0]? = some (.int .u8 h.tos) := rfl
theorem Hd.c1 (h : Hd) : h.cs.toArray[1]? = some (.int .u16 h.tot) := rfl
theorem Hd.c2 (h : Hd) : h.cs.toArray[2]? = some (.int .u16 h.id) := rfl
theorem Hd.c3 (h : Hd) : h.cs.toArray[3]? = some (.bool h.df) := rfl
theorem Hd.c4 (h : Hd) : h.cs.toArray[4]? = some (.bool h.mf) := rfl
theorem Hd.c5 (h : Hd) : h.cs.toArray[5]? = some (.int .u16 h.frag) := rfl
theorem Hd.c6 (h : Hd) : h.cs.toArray[6]? = some (.int .u8 h.ttl) := rfl
theorem Hd.c7 (h : Hd) : h.cs.toArray[7]? = some (.int .u8 h.pro) := rfl
theorem Hd.ok.c16 {w : World} {h : Hd} (k : h.ok w) : h.cs.toArray[16]? = some (.slice h.a h.n h.c) := by
  have h1 := k.src
  have h2 := k.dst
  simp [Hd.cs, bv, h1, h2]

theorem Hd.c16' (h : Hd) {w : World} (k : h.ok w) : h.cs.toArray[16]? = some (.slice h.a h.n h.c) := k.c16

theorem inf4 : (Try.prog.info? 23).map (·.size) = some 4 := by kernel_rfl
theorem infH : (Try.prog.info? 26).map (·.size) = some 17 := by kernel_rfl
theorem infRH : (Try.prog.info? 29).map (·.size) = some 11 := by kernel_rfl

/-- A header lies in a block of its own. -/
theorem Hd.range (w : World) (h : Hd) (t : TypeId) : (w.alloc (.cells h.cs.toArray t)).rangeAt w.heap.size 0 h.cs := fun j v hv => by
  rw [cell_of_row _ w.heap.size (0 + j) _ t (0, 0) (Blk_new w _ _)]; simpa using hv
theorem range_kept {w wr : World} (h : Below w.heap.size w wr) {b o : Nat} {cs : List Value} (hc : w.rangeAt b o cs) : wr.rangeAt b o cs := fun j v hv => cell_kept h (hc j v hv)
theorem range_cell {w : World} {b : Nat} {cs : List Value} (h : w.rangeAt b 0 cs) {j : Nat} {v : Value} (hv : cs.toArray[j]? = some v) : w.cell? ⟨b, j, none⟩ = some v := by
  have := h j v (by simpa using hv)
  rwa [Nat.zero_add] at this
theorem Hd.ok.srcAt {w w' : World} {b : Nat} {h : Hd} (k : h.ok w') (hr : w.rangeAt b 0 h.cs) : Rd w (some ⟨b, 8, none⟩) h.src := fun _ => ⟨b, 8, rfl, fun i hi => by
  have h1 := k.src
  have := hr (8 + i) (.int .u8 (h.src.getD i 0)) (by
    have e : h.cs[8 + i]? = (bv h.src ++ (bv h.dst ++ [.slice h.a h.n h.c]))[i]? := by rw [Nat.add_comm]; rfl
    rw [e, List.getElem?_append_left (by rw [bv_length]; exact hi), bv_get _ i hi])
  rwa [Nat.zero_add] at this⟩
theorem Hd.ok.dstAt {w w' : World} {b : Nat} {h : Hd} (k : h.ok w') (hr : w.rangeAt b 0 h.cs) : Rd w (some ⟨b, 12, none⟩) h.dst := fun _ => ⟨b, 12, rfl, fun i hi => by
  have h1 := k.src
  have := hr (12 + i) (.int .u8 (h.dst.getD i 0)) (by
    have e : h.cs[12 + i]? = (bv h.src ++ (bv h.dst ++ [.slice h.a h.n h.c]))[4 + i]? := by rw [show 12 + i = (4 + i) + 8 by omega]; rfl
    rw [e, List.getElem?_append_right (by rw [bv_length]; omega), bv_length, h1, Nat.add_sub_cancel_left, List.getElem?_append_left (by rw [bv_length]; exact hi), bv_get _ i hi])
  rwa [Nat.zero_add] at this⟩

section
variable {ops : Array Oper} {rest : List Oper} {o : Oper} {a : Act} {w : World} {Q : Exit → Act → World → Prop}
/-- A header is loaded. -/
theorem ldH (x : Operand) (ho : o.op = .load 26 x) (hgd : o.guard = none) (b : Nat) (hx : a.eval x = .pointer (some ⟨b, 0, none⟩)) (h : Hd) (hl : h.cs.length = 17) (hc : w.rangeAt b 0 h.cs)
    (k : wpList Try.prog ops Q rest (a.put o.dst (.agg h.cs.toArray)) w) : wpList Try.prog ops Q (o :: rest) a w :=
  wpList_load_mid hgd _ x ho b 0 hx h.cs _ hc Try.underlying26 rfl (by rw [hl]; exact infH) k
/-- The same, under a guard that lets it be. -/
theorem ldHg (x : Operand) (ho : o.op = .load 26 x) (hw : Region.wanted o (yielded ops a.tmps) = true) (b : Nat) (hx : a.eval x = .pointer (some ⟨b, 0, none⟩)) (h : Hd) (hl : h.cs.length = 17) (hc : w.rangeAt b 0 h.cs)
    (k : wpList Try.prog ops Q rest (a.put o.dst (.agg h.cs.toArray)) w) : wpList Try.prog ops Q (o :: rest) a w :=
  wpList_step fun K hK => by rw [if_pos hw]; exact wp_load_mid _ x ho b 0 hx h.cs _ hc Try.underlying26 rfl (by rw [hl]; exact infH) (hK _ _ k)
/-- Cells are stored, as one thing. -/
theorem stC (t : TypeId) (x y : Operand) (ho : o.op = .store t x y) (hgd : o.guard = none) (b off : Nat) (cs : List Value) (hx : a.eval x = .pointer (some ⟨b, off, none⟩)) (hy : a.eval y = .agg cs.toArray)
    (ht : w.there b off cs.length) (hi : (Try.prog.info? t).map (·.size) = some cs.length) (h1 : ∀ v ∈ cs, v.oneCell' = true)
    (h : wpList Try.prog ops Q rest (a.put o.dst undef) (w.setCells b off cs)) : wpList Try.prog ops Q (o :: rest) a w :=
  wpList_store_mid hgd t x y ho b off cs.toArray hx hy (by simpa using ht) (by simpa using hi) (all_oneCell_toArray h1) (by simpa using h)
theorem stH (x y : Operand) (ho : o.op = .store 26 x y) (hgd : o.guard = none) (b : Nat) (h : Hd) (hx : a.eval x = .pointer (some ⟨b, 0, none⟩)) (hy : a.eval y = .agg h.cs.toArray) (hl : h.cs.length = 17)
    (ht : w.there b 0 17) (k : wpList Try.prog ops Q rest (a.put o.dst undef) (w.setCells b 0 h.cs)) : wpList Try.prog ops Q (o :: rest) a w :=
  stC _ x y ho hgd b 0 _ hx hy (by rw [hl]; exact ht) (by rw [hl]; exact infH) h.one k
end
theorem Below.setCells {B : Nat} {w w' : World} (h : Below B w w') (b : Nat) (hb : B ≤ b) : ∀ (vs : List Value) (off : Nat) , Below B w (w'.setCells b off vs)
  | [], _ => h
  | v :: r, off => by rw [World.setCells]; exact Below.setCells (h.setCell (p := ⟨b, off, none⟩) hb v) b hb r (off + 1)
theorem there_new (w : World) (cs : Array Value) (t : TypeId) (n : Nat) (hn : cs.size = n) (g : Nat) (hg : w.heap.size = g) : (w.alloc (.cells cs t)).there g 0 n := fun j hj => by
  subst hg
  rw [cell_of_row _ w.heap.size (0 + j) _ t (0, 0) (Blk_new w _ _), frozen_of_row _ w.heap.size (0 + j) cs t (Blk_new w _ _)]
  simp [hn, hj]

/-- What is handed back; the world has new blocks at most. -/
def Gives (w : World) (v : Value) (e : Ending) (w' : World) : Prop := e = .returned v ∧ Below w.heap.size w w'

/-- Is a header right? -/
def rgH (frag tot : Int) (n : Nat) : Bool := decide (frag ≤ 8191) && (decide (n % 4 = 0) && (decide (n ≤ 40) && decide (20 + (n : Int) ≤ tot)))

set_option maxHeartbeats 1000000 in
theorem iRight_any (h : Hd) (w w0 : World) (k : h.ok w0) (hm : h.n ≤ 9000000000000) : Calls Try.prog 13 #[.agg h.cs.toArray] w (Gives w (.bool (rgH h.frag h.tot h.n))) := by
  have c1 := h.c1
  have c5 := h.c5
  have c16 := k.c16
  obtain ⟨f0, f1⟩ := k.frag
  obtain ⟨t0, t1⟩ := k.tot
  have HB := Lib.hid ((Below.refl w.heap.size w).alloc (Nat.le_refl _) (.cells h.cs.toArray 26))
  have HR : Hid (rgH h.frag h.tot h.n = rgH h.frag h.tot h.n) := rfl
  obtain ⟨cs, hcs⟩ : ∃ cs, h.cs.toArray = cs := ⟨_, rfl⟩
  obtain ⟨fr, hfr⟩ : ∃ x, h.frag = x := ⟨_, rfl⟩
  obtain ⟨tt, htt⟩ : ∃ x, h.tot = x := ⟨_, rfl⟩
  obtain ⟨n, hn⟩ : ∃ x, h.n = x := ⟨_, rfl⟩
  obtain ⟨a, ha⟩ : ∃ x, h.a = x := ⟨_, rfl⟩
  obtain ⟨c, hc⟩ : ∃ x, h.c = x := ⟨_, rfl⟩
  rw [hcs, hfr] at c5
  rw [hcs, htt] at c1
  rw [hcs, hn, ha, hc] at c16
  rw [hfr, htt, hn]
  rw [hcs] at HB ⊢
  rw [hfr] at f0 f1
  rw [htt] at t0 t1
  rw [hn] at hm
  clear HR hcs hfr htt hn ha hc k
  by_cases h1 : fr ≤ 8191
  · by_cases h2 : n % 4 = 0
    · have h2' : ((n : Int) % 4 == 0) = true := by simp; omega
      by_cases h3 : n ≤ 40
      · by_cases h4 : 20 + (n : Int) ≤ tt
        · go_enter Try.func13, Try.ntmps13
          go_wp2_with fail
          go_ret
          exact ⟨by simp [rgH, h1, h2, h3, h4], HB.out⟩
        · go_enter Try.func13, Try.ntmps13
          go_wp2_with fail
          go_ret
          exact ⟨by simp [rgH, h1, h2, h3, h4], HB.out⟩
      · go_enter Try.func13, Try.ntmps13
        go_wp2_with fail
        go_ret
        exact ⟨by simp [rgH, h1, h2, h3], HB.out⟩
    · have h2' : ((n : Int) % 4 == 0) = false := by simp; omega
      go_enter Try.func13, Try.ntmps13
      go_wp2_with fail
      go_ret
      exact ⟨by simp [rgH, h1, h2], HB.out⟩
  · go_enter Try.func13, Try.ntmps13
    go_wp2_with fail
    go_ret
    exact ⟨by simp [rgH]; omega, HB.out⟩
end Go.Proofs.Ytjnbnjdajkhkpaa

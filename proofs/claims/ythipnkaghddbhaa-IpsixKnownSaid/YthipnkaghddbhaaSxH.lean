/-
  What a writer of layer 6 holds, step by step, and headers of IPv6 as they lie in slots and in memory. Conditions: those that each theorem names.
-/
import Derived.Test.YthipnkaghddbhaaSxComes
namespace Go.Proofs.Ythipnkaghddbhaa
open Go.RowKit

/-- A writer at g with these bytes, the row its own since w1; but for it all is as it was then. -/
structure PS (w1 : World) (g : Nat) (w : World) (xs : List Int) : Prop where
  wr : ∃ a n cap, Wr w w1.heap.size g a n cap xs
  kept : Kept (fun k => k = g) w1 w
theorem PS.cell {w1 w : World} {g : Nat} {xs : List Int} (h : PS w1 g w xs) {b o : Nat} {u : Value} (hc : w1.cell? ⟨b, o, none⟩ = some u) (hb : b ≠ g) : w.cell? ⟨b, o, none⟩ = some u := by
  rw [← hc]; exact World.cell?_of_block (h.kept.block b (World.block_lt_of_cell? w1 ⟨b, o, none⟩ hc) hb)
theorem PS.range {w1 w : World} {g : Nat} {xs : List Int} (h : PS w1 g w xs) {b o : Nat} {cs : List Value} (hc : w1.rangeAt b o cs) (hb : b ≠ g) : w.rangeAt b o cs := fun j v hv => h.cell (hc j v hv) hb
theorem PS.rd {w1 w : World} {g : Nat} {xs : List Int} (h : PS w1 g w xs) {a : Option Addr} {ys : List Int} (hr : Rd w1 a ys) (hb : ys ≠ [] → blk a ≠ some g) : Rd w a ys := by
  by_cases e : ys = []
  · subst e; exact Rd.empty _ _
  · exact hr.keep h.kept (fun b e2 k => hb e (by rw [e2, k]))
theorem Rd.apart {w : World} {a : Option Addr} {ys : List Int} (hr : Rd w a ys) {g : Nat} (hg : w.heap.size ≤ g) : ys ≠ [] → blk a ≠ some g := by
  intro hne e
  obtain ⟨b, o, rfl, hc⟩ := hr hne
  have h1 := World.block_lt_of_cell? w ⟨b, o + 0, none⟩ (hc 0 (List.length_pos_iff.2 hne))
  simp [blk] at e
  simp only at h1
  omega
theorem PS.drew {w1 w : World} {g : Nat} {xs : List Int} (h : PS w1 g w xs) : PS w1 g w.drew xs := by
  obtain ⟨a, n, c, h1, h2⟩ := h.wr
  exact ⟨⟨a, n, c, h1, h2⟩, h.kept.drew⟩
theorem PS.below {w1 w w' : World} {g : Nat} {xs : List Int} (h : PS w1 g w xs) (hb : Below w.heap.size w w') : PS w1 g w' xs := by
  obtain ⟨a, n, c, hw⟩ := h.wr
  have hk : Kept (fun _ => False) w w' := Kept.of_below hb (fun i hi hi' => by omega)
  exact ⟨⟨a, n, c, hw.keep hk id (fun _ _ => id)⟩, h.kept.trans hk (fun _ _ e => e.elim)⟩
theorem PS.size {w1 w : World} {g : Nat} {xs : List Int} (h : PS w1 g w xs) : w1.heap.size ≤ w.heap.size := h.kept.size
theorem PS.next {w1 w w' : World} {g : Nat} {xs ys : List Int} {a : Option Addr} (h : PS w1 g w xs) {n cap : Nat} (hw : Wr w w1.heap.size g a n cap xs) (hr : Wrote w w1.heap.size g a ys w') : PS w1 g w' ys := by
  obtain ⟨a', n', c', hw', hk, _⟩ := hr
  exact ⟨⟨a', n', c', hw'⟩, h.kept.trans hk (fun i hi e => by
    rcases e with e | e
    · exact e
    · have := (hw.2.blk_ge i e).1; omega)⟩
theorem PS.put {w1 w : World} {g : Nat} {xs : List Int} (h : PS w1 g w xs) (v k : Int) (hv : U64 v ∧ fitB v k = true) (hl : xs.length ≤ 1000) :
    Calls Try.prog 32 #[.pointer (some ⟨g, 0, none⟩), .int .u64 v, .int .i64 k] w fun e w' => e = .returned (.int .i64 0) ∧ PS w1 g w' (xs ++ be k.toNat v) := by
  obtain ⟨a, n, c, hw⟩ := h.wr
  refine (wPut_fit _ _ _ _ _ _ v k _ hw hv.1 hv.2 (by have := hw.2.len; omega) h.kept.size).mono ?_
  rintro e w' ⟨rfl, hr⟩
  exact ⟨rfl, h.next hw hr⟩
theorem PS.raw {w1 w : World} {g : Nat} {xs : List Int} (h : PS w1 g w xs) (b : Option Addr) (m d : Nat) (ys : List Int) (hm : ys.length = m) (hy : Rd w b ys) (hl : xs.length + m ≤ 1000000000) :
    Calls Try.prog 33 #[.pointer (some ⟨g, 0, none⟩), .slice b m d] w fun e w' => e = .returned (.int .i64 0) ∧ PS w1 g w' (xs ++ ys) := by
  obtain ⟨a, n, c, hw⟩ := h.wr
  refine (wRaw_any _ _ _ _ _ _ b m d ys _ hw hm hy (by have := hw.2.len; omega) h.kept.size).mono ?_
  rintro e w' ⟨rfl, hr⟩
  exact ⟨rfl, h.next hw hr⟩
theorem PS.bytes {w1 w : World} {g : Nat} {xs : List Int} (h : PS w1 g w xs) (hl : xs.length ≤ 1000000000) :
    Calls Try.prog 34 #[.pointer (some ⟨g, 0, none⟩)] w (Made w xs) := by
  obtain ⟨a, n, cap, hw⟩ := h.wr
  exact wBytes_any _ _ _ _ _ _ _ hw (by have := hw.2.len; omega)
theorem PS.fresh (w : World) : PS (w.alloc (.cells #[.slice none 0 0] 76)) w.heap.size (w.alloc (.cells #[.slice none 0 0] 76)) [] := ⟨⟨none, 0, 0, Wr.new w _⟩, Kept.refl _ _⟩
/-- Seen from an elder world that differs by new blocks alone. -/
theorem PS.elder {w0 w1 w : World} {g : Nat} {xs : List Int} (h : PS w1 g w xs) (hb : Below w0.heap.size w0 w1) : PS w0 g w xs := by
  obtain ⟨a, n, c, hw⟩ := h.wr
  have hk : Kept (fun _ => False) w0 w1 := Kept.of_below hb (fun i hi hi' => by omega)
  exact ⟨⟨a, n, c, hw.1, hw.2.mono hb.size⟩, (hk.mono (T := fun k => k = g) (fun _ _ e => e.elim)).trans h.kept (fun _ _ e => e)⟩
theorem PS.belowNew {w1 w : World} {g : Nat} {xs : List Int} (h : PS w1 g w xs) (w0 : World) (hb : Below w0.heap.size w0 w1) (hg : w0.heap.size ≤ g) : Below w0.heap.size w0 w :=
  hb.trans (h.kept.below hb.size (fun k e => by omega))
theorem Rd.drw {w : World} {a : Option Addr} {xs : List Int} (h : Rd w a xs) : Rd w.drew a xs := h
theorem undrew {w w' : World} (h : Below w.drew.heap.size w.drew w') : Below w.heap.size w w' := ⟨h.os, h.tape, h.output, h.size, h.block⟩
/-- A header: its numbers, its addresses' bytes. -/
structure H6 where
  cl : Int
  fl : Int
  ln : Int
  nx : Int
  hp : Int
  src : List Int
  dst : List Int
def H6.cs (h : H6) : List Value := .int .u8 h.cl :: .int .u32 h.fl :: .int .u16 h.ln :: .int .u8 h.nx :: .int .u8 h.hp :: (bv h.src ++ bv h.dst)
structure H6.ok (h : H6) : Prop where
  cl : 0 ≤ h.cl ∧ h.cl < 256
  fl : 0 ≤ h.fl ∧ h.fl < 4294967296
  ln : 0 ≤ h.ln ∧ h.ln < 65536
  nx : 0 ≤ h.nx ∧ h.nx < 256
  hp : 0 ≤ h.hp ∧ h.hp < 256
  src : h.src.length = 16
  dst : h.dst.length = 16
  srcb : Byt h.src
  dstb : Byt h.dst
theorem H6.ok.len {h : H6} (k : h.ok) : h.cs.length = 37 := by simp [H6.cs, bv, k.src, k.dst]
theorem H6.range (w : World) (h : H6) (t : TypeId) : (w.alloc (.cells h.cs.toArray t)).rangeAt w.heap.size 0 h.cs := fun j v hv => by
  rw [cell_of_row _ w.heap.size (0 + j) _ t (0, 0) (Blk_new w _ _)]; simpa using hv
theorem range_kept {w wr : World} (h : Below w.heap.size w wr) {b o : Nat} {cs : List Value} (hc : w.rangeAt b o cs) : wr.rangeAt b o cs := fun j v hv => cell_kept h (hc j v hv)
theorem range_cell {w : World} {b : Nat} {cs : List Value} (h : w.rangeAt b 0 cs) {j : Nat} {v : Value} (hv : cs.toArray[j]? = some v) : w.cell? ⟨b, j, none⟩ = some v := by
  have := h j v (by simpa using hv)
  rwa [Nat.zero_add] at this
theorem H6.c0 (h : H6) : h.cs.toArray[0]? = some (.int .u8 h.cl) := rfl
theorem H6.c1 (h : H6) : h.cs.toArray[1]? = some (.int .u32 h.fl) := rfl
theorem H6.c2 (h : H6) : h.cs.toArray[2]? = some (.int .u16 h.ln) := rfl
theorem H6.c3 (h : H6) : h.cs.toArray[3]? = some (.int .u8 h.nx) := rfl
theorem H6.c4 (h : H6) : h.cs.toArray[4]? = some (.int .u8 h.hp) := rfl
theorem H6.srcAt {w : World} {b : Nat} {h : H6} (hr : w.rangeAt b 0 h.cs) : Rd w (some ⟨b, 5, none⟩) h.src := fun _ => ⟨b, 5, rfl, fun i hi => by
  have hv : h.cs[5 + i]? = some (.int .u8 (h.src.getD i 0)) := by
    show (Value.int .u8 h.cl :: .int .u32 h.fl :: .int .u16 h.ln :: .int .u8 h.nx :: .int .u8 h.hp :: (bv h.src ++ bv h.dst))[5 + i]? = _
    rw [Nat.add_comm 5 i]
    simp only [List.getElem?_cons_succ]
    rw [List.getElem?_append_left (by simpa [bv] using hi)]
    exact bv_get _ i hi
  have := hr (5 + i) _ hv
  rwa [Nat.zero_add] at this⟩
theorem H6.dstAt {w : World} {b : Nat} {h : H6} (hs : h.src.length = 16) (hr : w.rangeAt b 0 h.cs) : Rd w (some ⟨b, 21, none⟩) h.dst := fun _ => ⟨b, 21, rfl, fun i hi => by
  have hv : h.cs[21 + i]? = some (.int .u8 (h.dst.getD i 0)) := by
    show (Value.int .u8 h.cl :: .int .u32 h.fl :: .int .u16 h.ln :: .int .u8 h.nx :: .int .u8 h.hp :: (bv h.src ++ bv h.dst))[21 + i]? = _
    rw [show 21 + i = (16 + i) + 5 by omega]
    simp only [List.getElem?_cons_succ]
    rw [List.getElem?_append_right (by simp [bv, hs])]
    have e : 16 + i - (bv h.src).length = i := by simp [bv, hs]
    rw [e]
    exact bv_get _ i hi
  have := hr (21 + i) _ hv
  rwa [Nat.zero_add] at this⟩
end Go.Proofs.Ythipnkaghddbhaa

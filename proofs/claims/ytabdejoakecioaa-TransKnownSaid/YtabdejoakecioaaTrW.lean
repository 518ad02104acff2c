/-
  What a writer of layer 7 holds, step by step: the contract of the function that Put hands over. Conditions: rows shorter than a thousand million bytes, numbers that fit their Go types.
-/
import Derived.Test.YtabdejoakecioaaTrSeg
namespace Go.Proofs.Ytabdejoakecioaa
open Go.RowKit

theorem fit2 {c : Int} (h0 : 0 ≤ c) (h1 : c ≤ 65535) : U64 c ∧ fitB c 2 = true := by
  have hu : U64 c := u64_small h0 (by omega)
  exact ⟨hu, (fitB_iff hu).2 ⟨by omega, by omega, by have := pw_lits.2.1; show c < pw 2; omega⟩⟩
theorem fit1 {c : Int} (h0 : 0 ≤ c) (h1 : c ≤ 255) : U64 c ∧ fitB c 1 = true := by
  have hu : U64 c := u64_small h0 (by omega)
  exact ⟨hu, (fitB_iff hu).2 ⟨by omega, by omega, by have := pw_lits.1; show c < pw 1; omega⟩⟩

/-- A writer at g with these bytes, the row its own since w1; but for it all is as it was then. -/
structure PS (w1 : World) (g : Nat) (w : World) (xs : List Int) : Prop where
  wr : ∃ a n cap, Wr w w1.heap.size g a n cap xs
  kept : Kept (fun k => k = g) w1 w
theorem PS.cell {w1 w : World} {g : Nat} {xs : List Int} (h : PS w1 g w xs) {b o : Nat} {u : Value} (hc : w1.cell? ⟨b, o, none⟩ = some u) (hb : b ≠ g) : w.cell? ⟨b, o, none⟩ = some u := by
  rw [← hc]; exact World.cell?_of_block (h.kept.block b (World.block_lt_of_cell? w1 ⟨b, o, none⟩ hc) hb)
theorem PS.range {w1 w : World} {g : Nat} {xs : List Int} (h : PS w1 g w xs) {b o : Nat} {cs : List Value} (hc : w1.rangeAt b o cs) (hb : b ≠ g) : w.rangeAt b o cs := fun j v hv => h.cell (hc j v hv) hb
theorem PS.rd {w1 w : World} {g : Nat} {xs : List Int} (h : PS w1 g w xs) {a : Option Addr} {ys : List Int} (hr : Rd w1 a ys) (hb : ys ≠ [] → blk a ≠ some g) : Rd w a ys := by
  by_cases e : ys = []
  · subst e; exact Rd.empty _ _
  · exact hr.keep h.kept (fun b e2 k => hb e (by rw [e2, k]))
theorem Rd.apart {w : World} {a : Option Addr} {ys : List Int} (hr : Rd w a ys) {g : Nat} (hg : w.heap.size ≤ g) : ys ≠ [] → blk a ≠ some g := by
  intro hne e
  obtain ⟨b, o, rfl, hc⟩ := hr hne
  have h1 := World.block_lt_of_cell? w ⟨b, o + 0, none⟩ (hc 0 (List.length_pos_iff.2 hne))
  simp [blk] at e
  simp only at h1
  omega
theorem PS.drew {w1 w : World} {g : Nat} {xs : List Int} (h : PS w1 g w xs) : PS w1 g w.drew xs := by
  obtain ⟨a, n, c, h1, h2⟩ := h.wr
  exact ⟨⟨a, n, c, h1, h2⟩, h.kept.drew⟩
theorem PS.below {w1 w w' : World} {g : Nat} {xs : List Int} (h : PS w1 g w xs) (hb : Below w.heap.size w w') : PS w1 g w' xs := by
  obtain ⟨a, n, c, hw⟩ := h.wr
  have hk : Kept (fun _ => False) w w' := Kept.of_below hb (fun i hi hi' => by omega)
  exact ⟨⟨a, n, c, hw.keep hk id (fun _ _ => id)⟩, h.kept.trans hk (fun _ _ e => e.elim)⟩
theorem PS.size {w1 w : World} {g : Nat} {xs : List Int} (h : PS w1 g w xs) : w1.heap.size ≤ w.heap.size := h.kept.size
theorem PS.next {w1 w w' : World} {g : Nat} {xs ys : List Int} {a : Option Addr} (h : PS w1 g w xs) {n cap : Nat} (hw : Wr w w1.heap.size g a n cap xs) (hr : Wrote w w1.heap.size g a ys w') : PS w1 g w' ys := by
  obtain ⟨a', n', c', hw', hk, _⟩ := hr
  exact ⟨⟨a', n', c', hw'⟩, h.kept.trans hk (fun i hi e => by
    rcases e with e | e
    · exact e
    · have := (hw.2.blk_ge i e).1; omega)⟩
theorem PS.put {w1 w : World} {g : Nat} {xs : List Int} (h : PS w1 g w xs) (v k : Int) (hv : U64 v ∧ fitB v k = true) (hl : xs.length ≤ 1000) :
    Calls Try.prog 34 #[.pointer (some ⟨g, 0, none⟩), .int .u64 v, .int .i64 k] w fun e w' => e = .returned (.int .i64 0) ∧ PS w1 g w' (xs ++ be k.toNat v) := by
  obtain ⟨a, n, c, hw⟩ := h.wr
  refine (wPut_fit _ _ _ _ _ _ v k _ hw hv.1 hv.2 (by have := hw.2.len; omega) h.kept.size).mono ?_
  rintro e w' ⟨rfl, hr⟩
  exact ⟨rfl, h.next hw hr⟩
theorem PS.raw {w1 w : World} {g : Nat} {xs : List Int} (h : PS w1 g w xs) (b : Option Addr) (m d : Nat) (ys : List Int) (hm : ys.length = m) (hy : Rd w b ys) (hl : xs.length + m ≤ 1000000000) :
    Calls Try.prog 35 #[.pointer (some ⟨g, 0, none⟩), .slice b m d] w fun e w' => e = .returned (.int .i64 0) ∧ PS w1 g w' (xs ++ ys) := by
  obtain ⟨a, n, c, hw⟩ := h.wr
  refine (wRaw_any _ _ _ _ _ _ b m d ys _ hw hm hy (by have := hw.2.len; omega) h.kept.size).mono ?_
  rintro e w' ⟨rfl, hr⟩
  exact ⟨rfl, h.next hw hr⟩
theorem PS.bytes {w1 w : World} {g : Nat} {xs : List Int} (h : PS w1 g w xs) (hl : xs.length ≤ 1000000000) :
    Calls Try.prog 38 #[.pointer (some ⟨g, 0, none⟩)] w (Made w xs) := by
  obtain ⟨a, n, cap, hw⟩ := h.wr
  exact wBytes_any _ _ _ _ _ _ _ hw (by have := hw.2.len; omega)
theorem PS.fresh (w : World) : PS (w.alloc (.cells #[.slice none 0 0] 67)) w.heap.size (w.alloc (.cells #[.slice none 0 0] 67)) [] := ⟨⟨none, 0, 0, Wr.new w _⟩, Kept.refl _ _⟩
/-- Seen from an elder world that differs by new blocks alone. -/
theorem PS.elder {w0 w1 w : World} {g : Nat} {xs : List Int} (h : PS w1 g w xs) (hb : Below w0.heap.size w0 w1) : PS w0 g w xs := by
  obtain ⟨a, n, c, hw⟩ := h.wr
  have hk : Kept (fun _ => False) w0 w1 := Kept.of_below hb (fun i hi hi' => by omega)
  exact ⟨⟨a, n, c, hw.1, hw.2.mono hb.size⟩, (hk.mono (T := fun k => k = g) (fun _ _ e => e.elim)).trans h.kept (fun _ _ e => e)⟩
theorem PS.belowNew {w1 w : World} {g : Nat} {xs : List Int} (h : PS w1 g w xs) (w0 : World) (hb : Below w0.heap.size w0 w1) (hg : w0.heap.size ≤ g) : Below w0.heap.size w0 w :=
  hb.trans (h.kept.below hb.size (fun k e => by omega))
theorem fit4 {c : Int} (h0 : 0 ≤ c) (h1 : c < 4294967296) : U64 c ∧ fitB c 4 = true := by
  have hu : U64 c := ⟨h0, by rw [pw_eight]; omega⟩
  exact ⟨hu, (fitB_iff hu).2 ⟨by omega, by omega, by have := pw_lits.2.2.2.1; show c < pw 4; omega⟩⟩
theorem PS.begin {w : World} {g : Nat} (h : w.heap[g]? = some (.cells #[.slice none 0 0] 67 (0, 0))) : PS w g w [] := ⟨⟨none, 0, 0, h, Own.nil _ _⟩, Kept.refl _ _⟩
theorem PS.set {w1 w : World} {g : Nat} {xs : List Int} (h : PS w1 g w xs) (p : Nat) (c : Int) (hl : xs.length ≤ 1000000000) (hp : p + 2 ≤ xs.length) (c0 : 0 ≤ c) (c1 : c ≤ 65535) :
    Calls Try.prog 39 #[.pointer (some ⟨g, 0, none⟩), .int .i64 p, .int .u64 c, .int .i64 2] w fun e w' => e = .returned (.int .i64 0) ∧ PS w1 g w' (splice xs p (be 2 c)) := by
  obtain ⟨a, n, cap, hw⟩ := h.wr
  obtain ⟨hu, hf⟩ := fit2 c0 c1
  have hlen := hw.2.len
  have hs : setB n (p : Int) c 2 = true := by
    simp only [setB, hf, Bool.true_and, Bool.and_eq_true, decide_eq_true_eq]
    omega
  refine (wSet_fit _ _ _ _ _ xs (p : Int) c 2 _ hw hu (by omega) hs).mono ?_
  rintro e w' ⟨rfl, hr⟩
  exact ⟨rfl, h.next hw hr⟩
theorem PS.part {w1 w : World} {g : Nat} {xs : List Int} (h : PS w1 g w xs) (v k : Int) (hv : U64 v ∧ fitB v k = true) (hl : xs.length ≤ 1000) :
    Calls Try.prog 33 #[.int .u64 v, .int .i64 k, .pointer (some ⟨g, 0, none⟩)] w fun e w' => e = .returned (.tuple #[]) ∧ PS w1 g w' (xs ++ be k.toNat v) := by
  have HP := Lib.hid h
  have HV := Lib.hid hv
  clear h hv
  go_enter Try.func33, Try.ntmps33
  go_wp2_with fail
  refine (HP.out.put v k HV.out hl).mono ?_
  rintro e w' ⟨rfl, hp⟩
  have HP2 := Lib.hid hp
  clear hp
  go_wp2_with fail
  go_end0
  exact ⟨rfl, HP2.out⟩
end Go.Proofs.Ytabdejoakecioaa

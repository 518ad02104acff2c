/-
  Contracts of the reader's Take, and of Read, of package bits. Conditions: rows shorter than 2 to the 40, numbers that fit their Go types.
-/
import Derived.Test.YthipnkaghddbhaaRd
namespace Go.Proofs.Ythipnkaghddbhaa
open Go.RowKit

theorem Rr.keep {S : Nat → Prop} {w w' : World} {g : Nat} {a : Option Addr} {n c : Nat} {p : Int} {xs : List Int} (h : Rr w g a n c p xs) (k : Kept S w w') (hg : ¬ S g) (hn : ∀ b, blk a = some b → ¬ S b) : Rr w' g a n c p xs :=
  ⟨k.heap h.at_ hg, h.len, h.cap, h.max, h.rd.keep k hn, h.byt, h.ne⟩
theorem Rr.lt {w : World} {g : Nat} {a : Option Addr} {n c : Nat} {p : Int} {xs : List Int} (h : Rr w g a n c p xs) : g < w.heap.size := (Array.getElem?_eq_some_iff.1 h.at_).1

theorem rTake_neg (g : Nat) (k : Int) (w : World) (hk : k < 0) :
    Calls Try.prog 64 #[.pointer (some ⟨g, 0, none⟩), .int .i64 k] w fun e w' => e = .returned (.tuple #[.slice none 0 0, .int .i64 2]) ∧ w = w' := by
  go_enter Try.func64, Try.ntmps64
  go_wp2_with fail
  go_ret2
  exact ⟨rfl, rfl⟩

theorem rTake_short (g : Nat) (a : Option Addr) (n c : Nat) (p k : Int) (xs : List Int) (w : World) (h : Rr w g a n c p xs) (hk : (n : Int) < k) :
    Calls Try.prog 64 #[.pointer (some ⟨g, 0, none⟩), .int .i64 k] w fun e w' => e = .returned (.tuple #[.slice none 0 0, .int .i64 10]) ∧ w = w' := by
  have h0 := h.cell0
  have hx := h.max
  have HD : Hid (decide (k ≤ (n : Int) - 0) = false) := decide_eq_false (by omega)
  clear h
  go_enter Try.func64, Try.ntmps64
  go_wp2_with fail
  refine (reaches_any _ _ _ _ _ _ (by omega) (by omega) (by omega)).mono ?_
  rintro e w' ⟨rfl, rfl⟩
  rw [HD.out]
  go_wp2_with fail
  go_ret2
  exact ⟨rfl, rfl⟩

/-- What a Take leaves: a new row with the bytes, and the reader behind them. -/
def Took (w : World) (g : Nat) (a : Option Addr) (xs : List Int) (m : Nat) (p : Int) (e : Ending) (w' : World) : Prop :=
  ∃ a1 n1 c1 a' n' c', e = .returned (.tuple #[.slice a1 n1 c1, .int .i64 0]) ∧ Own w' w.heap.size a1 n1 c1 (xs.take m) ∧ Rr w' g a' n' c' (p + m) (xs.drop m) ∧ Kept (fun k => k = g) w w' ∧ blk a' = blk a

set_option maxHeartbeats 400000 in
theorem rTake_yes (g : Nat) (a : Option Addr) (n c m : Nat) (p : Int) (xs : List Int) (w : World) (h : Rr w g a n c p xs) (hm : m ≤ n) (hp : 0 ≤ p) (hp2 : p ≤ 1099511627776) :
    Calls Try.prog 64 #[.pointer (some ⟨g, 0, none⟩), .int .i64 m] w (Took w g a xs m p) := by
  have h0 := h.cell0
  have hx := h.max
  have hc := h.cap
  have HH := Lib.hid h
  have HD : Hid (decide ((m : Int) ≤ (n : Int) - 0) = true) := decide_eq_true (by omega)
  have HL : Hid ((xs.take m).length = m) := by show (xs.take m).length = m; rw [List.length_take, h.len]; omega
  clear h
  go_enter Try.func64, Try.ntmps64
  go_wp2_with fail
  refine (reaches_any _ _ _ _ _ _ (by omega) (by omega) (by omega)).mono ?_
  rintro e w' ⟨rfl, rfl⟩
  rw [HD.out]
  go_wp2_with fail
  refine (clone_any _ _ _ (xs.take m) _ HL.out (HH.out.rd.taken m) (by omega)).mono ?_
  rintro e w1 ⟨a1, n1, c1, rfl, hown, hb⟩
  have HB : Hid (Below w.heap.size w w1) := hb
  have HO : Hid (Own w1 w.heap.size a1 n1 c1 (xs.take m)) := hown
  have HR : Hid (Rr w1 g a n c p xs) := HH.out.keep (S := fun _ => False) (Kept.of_below hb (fun i hi hi' => by omega)) id (fun _ _ => id)
  clear hown hb h0
  go_wp2_with fail
  refine (skip_any _ _ _ _ _ _ _ _ HR.out hm hp hp2).mono ?_
  rintro e w2 ⟨rfl, a', n', c', hr, hk, hbl⟩
  have HF : Hid (Took w g a xs m p (.returned (.tuple #[.slice a1 n1 c1, .int .i64 0])) w2) := by
    refine ⟨a1, n1, c1, a', n', c', rfl, HO.out.keep hk (fun b hb e => ?_), hr, (Kept.of_below (S := fun k => k = g) HB.out (fun i hi hi' => by omega)).trans hk (fun _ _ e => e), hbl⟩
    have h1 := (HO.out.blk_ge b hb).1
    have h2 := HH.out.lt
    omega
  clear hr hk hbl
  go_wp2_with fail
  go_ret2
  exact HF.out

theorem rTake_int (g : Nat) (a : Option Addr) (n c : Nat) (k p : Int) (xs : List Int) (w : World) (h : Rr w g a n c p xs) (h0 : 0 ≤ k) (hm : k ≤ n) (hp : 0 ≤ p) (hp2 : p ≤ 1099511627776) :
    Calls Try.prog 64 #[.pointer (some ⟨g, 0, none⟩), .int .i64 k] w (Took w g a xs k.toNat p) := by
  obtain ⟨m, rfl⟩ := Int.eq_ofNat_of_zero_le h0
  rw [Int.toNat_natCast]
  exact rTake_yes g a n c m p xs w h (by omega) hp hp2

/-- What Read leaves: a reader of its own at the row's beginning. -/
def ReadOk (w : World) (xs : List Int) (e : Ending) (w' : World) : Prop :=
  ∃ g a n c, e = .returned (.pointer (some ⟨g, 0, none⟩)) ∧ Rr w' g a n c 0 xs ∧ w.heap.size ≤ g ∧ (∀ b, blk a = some b → w.heap.size ≤ b ∧ b < w'.heap.size) ∧ Below w.heap.size w w'

theorem read_any (a : Option Addr) (n c : Nat) (xs : List Int) (w : World) (hn : xs.length = n) (hr : Rd w a xs) (hb : Byt xs) (hl : n ≤ 1099511627776) :
    Calls Try.prog 51 #[.slice a n c] w (ReadOk w xs) := by
  have HN := Lib.hid hn
  have HR := Lib.hid hr
  have HB := Lib.hid hb
  clear hn hr hb
  go_enter Try.func51, Try.ntmps51
  go_wp2_with fail
  refine (clone_any _ _ _ xs _ HN.out HR.out (by omega)).mono ?_
  rintro e w1 ⟨a1, n1, c1, rfl, hown, hb⟩
  have HF : Hid (ReadOk w xs (.returned (.pointer (some ⟨w1.heap.size, 0, none⟩))) (w1.alloc (.cells #[.slice a1 n1 c1, .int .i64 0] 105))) := by
    have hk := Kept.alloc (fun _ => False) w1 (.cells #[.slice a1 n1 c1, .int .i64 0] 105)
    refine ⟨w1.heap.size, a1, n1, c1, rfl, ⟨Blk_new w1 _ _, hown.len, hown.le.1, ?_, (hown.keep hk (fun _ _ => id)).rd, HB.out, ?_⟩, hb.size, fun b hb' => ⟨(hown.blk_ge b hb').1, by have := (hown.blk_ge b hb').2; simp; omega⟩, hb.alloc hb.size _⟩
    · have := hown.len; have := HN.out; omega
    · intro e; have := (hown.blk_ge _ e).2; omega
  clear hown hb
  go_wp2_with fail
  go_ret
  exact HF.out
end Go.Proofs.Ythipnkaghddbhaa

/-
  Contracts of lay and of the writer's methods of package bits. Conditions: rows shorter than 2 to the 40, numbers that fit their Go types.
-/
import Derived.Test.YthipnkaghddbhaaClone
namespace Go.Proofs.Ythipnkaghddbhaa
open Go.RowKit

/-- Bytes in place of others, from a place on. -/
def splice (xs : List Int) (p : Nat) (ys : List Int) : List Int := xs.take p ++ ys ++ xs.drop (p + ys.length)
/-- The i-th byte from the end. -/
def byteAt (v : Int) (i : Nat) : Int := v / pw i % 256

theorem be_get (n : Nat) : ∀ (v : Int) (j : Nat), j < n → (be n v).getD j 0 = byteAt v (n - 1 - j) := by
  induction n with
  | zero => intro v j h; omega
  | succ n ih =>
    intro v j h
    simp only [be, List.getD_eq_getElem?_getD]
    by_cases e : j < n
    · rw [List.getElem?_append_left (by rw [be_length]; exact e)]
      have := ih (v / 256) j e
      rw [List.getD_eq_getElem?_getD] at this
      rw [this]
      have e2 : n + 1 - 1 - j = (n - 1 - j) + 1 := by omega
      rw [e2]
      unfold byteAt
      rw [pw_succ, Int.mul_comm, ← Int.ediv_ediv_of_nonneg (by omega)]
    · have ej : j = n := by omega
      subst ej
      rw [List.getElem?_append_right (by rw [be_length]; omega), be_length]
      simp [byteAt, pw_zero]

/-- The last k of n cells from o on hold the number's last k bytes. -/
def LayAt (cur cur' : Array Value) (o n k : Nat) (v : Int) : Prop :=
  cur'.size = cur.size ∧ ∀ i, cur'[i]? = if o + n ≤ i + k ∧ i < o + n then some (.int .u8 (byteAt v (o + n - 1 - i))) else cur[i]?

theorem two_pow (k : Nat) : (2 : Int) ^ (8 * k) = pw k := by
  unfold pw; rw [Int.pow_mul]; rfl
theorem lay_step {cur cur' : Array Value} {o n k : Nat} {v : Int} (h : LayAt cur cur' o n k v) (hk : k < n) (ho : o + n ≤ cur.size) : LayAt cur (cur'.setIfInBounds (o + (n - 1 - k)) (.int .u8 (v / pw k % 256))) o n (k + 1) v := by
  refine ⟨by rw [Array.size_setIfInBounds]; exact h.1, fun i => ?_⟩
  have hs := h.1
  have hi := h.2 i
  rw [Array.getElem?_setIfInBounds]
  by_cases e : o + (n - 1 - k) = i
  · rw [if_pos e, if_pos (by omega), if_pos (by omega)]
    have e2 : o + n - 1 - i = k := by omega
    rw [e2]; rfl
  · rw [if_neg e, hi]
    by_cases e3 : o + n ≤ i + k ∧ i < o + n
    · rw [if_pos e3, if_pos (by omega)]
    · rw [if_neg e3, if_neg (by omega)]

set_option maxHeartbeats 400000 in
theorem lay_any (g o n c : Nat) (cur : Array Value) (v : Int) (w : World) (hg : w.heap[g]? = some (.cells cur 5 (0, 0))) (hn : n ≤ 8) (ho : o + n ≤ cur.size) (hv : U64 v) :
    Calls Try.prog 56 #[.slice (some ⟨g, o, none⟩) n c, .int .u64 v] w fun e w' => e = .returned (.tuple #[]) ∧ ∃ cur', w'.heap[g]? = some (.cells cur' 5 (0, 0)) ∧ LayAt cur cur' o n n v ∧ Kept (fun k => k = g) w w' := by
  have hv0 := hv.1
  have hv1 : v ≤ 18446744073709551615 := by have := hv.2; rw [pw_eight] at this; omega
  have HG := Lib.hid hg
  clear hv hg
  go_enter Try.func56, Try.ntmps56
  go_wp2
  go_loopw [7] (fun i wr => ∃ k : Nat, k ≤ n ∧ i = .int .i64 k ∧ ∃ cur', wr.heap[g]? = some (.cells cur' 5 (0, 0)) ∧ LayAt cur cur' o n k v ∧ Kept (fun k => k = g) w wr) (fun i _ => n - (intOf i).toNat)
  case atStart => exact ⟨0, Nat.zero_le _, rfl, cur, HG.out, ⟨rfl, fun i => by rw [if_neg (by omega)]⟩, Kept.refl _ _⟩
  case round =>
    obtain ⟨k, hk, rfl, cur', hg', hl, hkp⟩ := hrel
    have HG' := Lib.hid hg'
    have HL := Lib.hid hl
    have HK := Lib.hid hkp
    clear hg' hl hkp
    by_cases hlt : k < n
    · have hcell : ∃ u, wr.cell? ⟨g, o + (n - 1 - k), none⟩ = some u := by
        rw [cell_of_row wr g _ cur' _ (0, 0) HG'.out]
        have : o + (n - 1 - k) < cur'.size := by have := HL.out.1; omega
        exact ⟨_, Array.getElem?_eq_getElem this⟩
      obtain ⟨u, hu⟩ := hcell
      have hfr : wr.frozen? ⟨g, o + (n - 1 - k), none⟩ = false := frozen_of_row wr g _ cur' _ HG'.out
      go_wp2
      go_roundw
      case rel =>
        rw [two_pow k]
        exact ⟨k + 1, by omega, by go_num, _, heap_setCell_same wr g _ cur' _ _ HG'.out, lay_step HL.out hlt ho, HK.out.trans (Kept.setCell (S := fun k => k = g) _ _ _ rfl) (fun _ _ h => h)⟩
      case measure => simp [intOf]; omega
    · go_wp2
      go_end0
      obtain rfl : k = n := by omega
      exact ⟨rfl, cur', HG'.out, HL.out, HK.out⟩
end Go.Proofs.Ythipnkaghddbhaa

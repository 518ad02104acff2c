/-
  Contracts of what makes and compares rows of bytes: clone, Join, Same, the document's Put; append of zeros to a row of the call's own. Conditions: lengths below 2 to the 46, numbers that fit their Go types.
-/
import Derived.Test.YtfkangknnaohaaaMem
import Derived.Laws.IdiomStrings
namespace Go.Proofs.Ytfkangknnaohaaa
open Go.RowKit

def zs (k : Nat) : List Int := List.replicate k 0
theorem zs_length (k : Nat) : (zs k).length = k := by simp [zs]

theorem zeroCells_bv (k : Nat) : Builtin.zeroCells (Value.int .u8 0).cells k = (bv (zs k)).toArray := by
  apply Array.ext
  · simp [Builtin.zeroCells, Value.cells, bv, zs]
  · intro i h1 h2
    simp [Builtin.zeroCells, Value.cells, bv, zs, Nat.mod_one]

theorem grown_drew_alloc (w : World) (o : Obj) (r : Option Nat) : w.grownBy (w.drew.alloc o) r := ⟨rfl, rfl, rfl, by simp, fun j hj _ => Below.heap_alloc w.drew o j hj⟩

/-- append(row, make([]byte, k)...), the row of the call's own. -/
theorem run_append_zeros (w : World) (base ty : Nat) {a : Option Addr} {n cap : Nat} {xs : List Int} (hown : Own w base a n cap xs) (k : Nat) (h0 : 0 < k)
    (hlim : n + k ≤ 140737488355328) (hbase : base ≤ w.heap.size) :
    ∃ a' cap' w', (Builtin.append_ #[25, 3] ty #[.slice a n cap, .int .i64 k]).run Try.prog w = .ok (.slice a' (n + k) cap') w' ∧ Own w' base a' (n + k) cap' (xs ++ zs k) ∧ w.grownBy w' (blk a) ∧
      (blk a' = blk a ∨ blk a' = some w.heap.size) := by
  obtain ⟨i0, hi, hz0, hz1, hz2⟩ := info_parts u8_info
  have hl : (xs ++ zs k).length = n + k := by rw [List.length_append, hown.1, zs_length]
  have hge := grownCap_ge w (n + k) cap 5
  have hcm : grownCap w (n + k) cap 5 ≤ maxLen := grownCap_le_maxLen w (n + k) cap _ (by simp only [maxLen]; omega)
  have big : ∀ (ol : Array Value), ol = (bv xs).toArray →
      Own (w.drew.alloc (.cells (ol ++ Builtin.zeroCells (Value.int .u8 0).cells k ++ Builtin.zeroCells (Value.int .u8 0).cells (grownCap w (n + k) cap 5 - (n + k))) 5)) base (some ⟨w.heap.size, 0, none⟩) (n + k) (grownCap w (n + k) cap 5) (xs ++ zs k) := by
    intro ol hol
    subst hol
    refine ⟨hl, by rw [bv_length, hl]; omega, .inr ⟨w.heap.size, _, _, rfl, hbase, heap_alloc_new w.drew _, hge, hcm, ?_, ?_⟩⟩
    · simp only [Array.size_append, List.size_toArray, zeroCells_bv, bv_length, zs_length, hown.1]; omega
    · simp only [zeroCells_bv, Array.toList_append]
      rw [← bv_append, List.take_append_of_le_length (by rw [bv_length, hl]; omega)]
      exact List.take_of_length_le (by rw [bv_length, hl]; omega)
  rcases hown.cases with ⟨rfl, rfl, rfl, rfl⟩ | ⟨g, cur, rfl, hbg, hg, hnc, hcm', hcs, ht⟩
  · have hr := Lib.run_append_nil_zeros (P := Try.prog) w 25 3 ty 5 i0 _ .i64 .i64 Try.underlying25 Try.underlying3 hi hz0 k h0 (by omega) (by omega) (by rw [hz2]; omega)
    refine ⟨_, _, _, by rw [Nat.zero_add]; exact hr, ?_, grown_drew_alloc w _ _, .inr rfl⟩
    have := big #[] rfl
    simpa using this
  · by_cases hroom : n + k ≤ cap
    · have hst := run_storeCells_at Try.prog g n 5 (bv (zs k)) 0 cur w hg (by rw [bv_length, zs_length]; omega) (bv_one _)
      have hk : k ≠ 0 := by omega
      have hw : IntKind.i64.wrap (k : Int) = k := by rw [IntKind.wrap_i64]; omega
      have h48i : ¬ (281474976710656 < (k : Int)) := by omega
      have hneg : ¬ ((k : Int) < 0) := by omega
      simp only [Nat.add_zero] at hst
      refine ⟨some ⟨g, 0, none⟩, cap, w.setRow g (cur.toList.take n ++ bv (zs k) ++ cur.toList.drop (n + (bv (zs k)).length)).toArray, ?_, ⟨hl, by rw [bv_length, hl]; omega, .inr ⟨g, cap, _, rfl, hbg, setRow_heap w g cur _ _ _ hg, hroom, hcm', ?_, ?_⟩⟩,
        ⟨rfl, rfl, rfl, by simp, fun j _ hj => setRow_other w g j _ (fun e => hj (by simp [blk, e]))⟩, .inl rfl⟩
      · simp [Builtin.append_, run_underlying Try.underlying25, run_underlying Try.underlying3, sizeOf, typeInfo, zeroValue, hi, hz0, hz1, hz2, asInt, asIntOf, hw, hk, hneg, h48i, hroom, zeroCells_bv, Addr.add_lit, hst]
      · simp only [List.size_toArray, List.length_append, List.length_take, List.length_drop, Array.length_toList, bv_length, zs_length]; omega
      · rw [ht, ← bv_append]
        have e1 : (n + k) * 1 = (bv (xs ++ zs k)).length := by rw [bv_length, hl]; omega
        rw [e1]
        exact List.take_left
    · have hold : (Builtin.firstCells i0.size n (.slice (some ⟨g, 0, none⟩) n cap)).run Try.prog w.drew = .ok (bv xs).toArray w.drew := by
        rw [hz1]
        have := run_firstCells_some (P := Try.prog) w.drew 1 n ⟨g, 0, none⟩ n cap (bv xs) (by rw [bv_length, hown.1]; omega) (hown.2.cells (g := g) rfl)
        exact this
      have hr := Lib.run_append_grow_zeros (P := Try.prog) w 25 3 ty 5 i0 _ .i64 .i64 Try.underlying25 Try.underlying3 hi hz0 (some ⟨g, 0, none⟩) n cap (bv xs) hold k h0 (by omega) (by omega) (by omega) (by rw [hz2]; omega) (by rw [hz2]; exact growslice_fits (by omega) (by omega))
      exact ⟨_, _, _, hr, big _ rfl, grown_drew_alloc w _ _, .inr rfl⟩
end Go.Proofs.Ytfkangknnaohaaa

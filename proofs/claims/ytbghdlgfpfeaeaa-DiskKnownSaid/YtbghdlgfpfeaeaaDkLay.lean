/-
  copy onto a row of bytes of the call's own; the contract of a write's lay. Conditions: those that the theorems name.
-/
import Derived.Test.YtbghdlgfpfeaeaaDkLeaf
namespace Go.Proofs.Ytbghdlgfpfeaeaa
open Go.RowKit

/-- A piece that begins at f, with the bytes d laid over it from the place p on, as far as both meet. -/
def layL (xs d : List Int) (p f : Int) : List Int := xs.take (p - f).toNat ++ ((d.drop (f - p).toNat).take (xs.length - (p - f).toNat)) ++ xs.drop ((p - f).toNat + ((d.drop (f - p).toNat).take (xs.length - (p - f).toNat)).length)
theorem layL_len (xs d : List Int) (p f : Int) : (layL xs d p f).length = xs.length := by
  simp only [layL, List.length_append, List.length_take, List.length_drop]
  omega
theorem layL_far (xs d : List Int) (p f : Int) (h : xs.length ≤ (p - f).toNat ∨ d.length ≤ (f - p).toNat) : layL xs d p f = xs := by
  unfold layL
  rcases h with h | h
  · rw [Nat.sub_eq_zero_of_le h, List.take_zero, List.append_nil, List.take_of_length_le h, List.drop_of_length_le (by simp; omega), List.append_nil]
  · rw [List.drop_of_length_le h, List.take_nil, List.append_nil, List.length_nil, Nat.add_zero, List.take_append_drop]
/-- What a byte of the piece is then. -/
theorem layL_get (xs d : List Int) (p f : Int) (i : Nat) (hi : i < xs.length) : (layL xs d p f).getD i 0 = if p ≤ f + i ∧ f + i < p + d.length then d.getD (f + i - p).toNat 0 else xs.getD i 0 := by
  obtain ⟨b, hb⟩ : ∃ z, (p - f).toNat = z := ⟨_, rfl⟩
  obtain ⟨h, hh⟩ : ∃ z, (f - p).toNat = z := ⟨_, rfl⟩
  unfold layL
  rw [hb, hh]
  simp only [List.getD_eq_getElem?_getD]
  by_cases h1 : i < b
  · rw [if_neg (by omega), List.append_assoc, List.getElem?_append_left (by simp; omega), List.getElem?_take, if_pos h1]
  · by_cases h2 : f + i < p + d.length
    · rw [if_pos (by omega), List.append_assoc, List.getElem?_append_right (by simp; omega), List.getElem?_append_left (by simp; omega), List.getElem?_take, if_pos (by simp; omega), List.getElem?_drop]
      congr 2
      simp
      omega
    · rw [if_neg (by omega), List.getElem?_append_right (by simp; omega), List.getElem?_drop]
      congr 2
      simp
      omega

theorem Kept.setRow {S : Nat → Prop} (w : World) (g : Nat) (c : Array Value) (hg : S g) : Kept S w (w.setRow g c) := by
  refine ⟨by simp [World.setRow], by simp [World.setRow], by simp [World.setRow], by simp [World.setRow], fun k hk hn => ?_⟩
  have : g ≠ k := fun e => hn (e ▸ hg)
  simp [World.setRow, Array.getElem?_modify, this]
/-- A row of no items. -/
theorem infU8 : (Try.prog.info? 5).map (·.size) = some 1 := by kernel_rfl
theorem run_copy_own (w : World) {base g m mc : Nat} {xs : List Int} (hp : Own w base (some ⟨g, 0, none⟩) m mc xs) (b dc : Nat) (hb : b ≤ m) {ad : Addr} {n c : Nat} {ys : List Int} (hn : ys.length = n) (hr : Rd w (some ad) ys) (hy : 0 < n) :
    ∃ k w', (Builtin.copy_ #[31, 31] 3 #[.slice (some ⟨g, b, none⟩) (m - b) dc, .slice (some ad) n c]).run Try.prog w = .ok (.int .i64 k) w' ∧ Own w' base (some ⟨g, 0, none⟩) m mc (xs.take b ++ ys.take (m - b) ++ xs.drop (b + (ys.take (m - b)).length)) ∧ Kept (fun k => k = g) w w' := by
  obtain ⟨g', cur, e, hbg, hg, hnc, hcm, hcs, ht⟩ := hp.cases.resolve_left (by rintro ⟨h, _⟩; cases h)
  simp only [Option.some.injEq, Addr.mk.injEq, and_true] at e
  subst e
  obtain ⟨r, o, e, hcc⟩ := hr (by rintro rfl; simp at hn; omega)
  simp only [Option.some.injEq] at e
  subst e
  have hcell : ∀ j v, (bv (ys.take (m - b)))[j]? = some v → w.cell? (Addr.add ⟨r, o, none⟩ j) = some v := fun j v hv => by
    have hj : j < (ys.take (m - b)).length := by have := (List.getElem?_eq_some_iff.1 hv).1; rwa [bv_length] at this
    rw [Addr.add_lit, hcc j (by simp at hj; omega)]
    rw [bv_get _ _ hj] at hv
    rw [← hv]
    simp only [List.getD_eq_getElem?_getD, List.getElem?_take]
    rw [if_pos (by simp at hj; omega)]
  have hlen : (bv (ys.take (m - b))).length = Nat.min n (m - b) := by rw [bv_length, List.length_take, hn]; exact Nat.min_comm _ _
  have hmin : Nat.min n (m - b) ≤ m - b := Nat.min_le_right _ _
  have hrun := run_copy_row (P := Try.prog) w 31 31 3 5 g b (m - b) dc ⟨r, o, none⟩ n c cur 5 (bv (ys.take (m - b))) Try.underlying31 infU8 hg hlen hcell (by omega) (bv_one _)
  refine ⟨_, _, hrun, ⟨?_, ?_, .inr ⟨g, mc, _, rfl, hbg, setRow_heap w g _ _ _ _ hg, hnc, hcm, ?_, ?_⟩⟩, Kept.setRow (S := fun k => k = g) _ _ _ rfl⟩
  · have := hp.len
    rw [bv_length] at hlen
    simp only [List.length_append, List.length_take, List.length_drop] at hlen ⊢
    omega
  · have := hp.len
    rw [bv_length] at hlen
    simp only [bv_length, List.length_append, List.length_take, List.length_drop] at hlen ⊢
    omega
  · simp only [List.size_toArray, List.length_append, List.length_take, List.length_drop, Array.length_toList]
    rw [hlen]
    omega
  · have hl := hp.len
    have hlt : (ys.take (m - b)).length ≤ m - b := by simp; omega
    obtain ⟨Y, hY⟩ : ∃ z, ys.take (m - b) = z := ⟨_, rfl⟩
    rw [hY] at hlt ⊢
    obtain ⟨R, hR⟩ : ∃ z, cur.toList.drop m = z := ⟨_, rfl⟩
    have hC : cur.toList = bv xs ++ R := by rw [← ht, ← hR, List.take_append_drop]
    have hb2 : (bv xs).length = m := by rw [bv_length, hl]
    have e1 : (bv xs).take b = bv (xs.take b) := by simp [bv, List.map_take]
    have e2 : (bv xs).drop (b + Y.length) = bv (xs.drop (b + Y.length)) := by simp [bv, List.map_drop]
    have e3 : (bv xs ++ R).take b = bv (xs.take b) := by rw [List.take_append_of_le_length (by omega), e1]
    have e4 : (bv xs ++ R).drop (b + Y.length) = bv (xs.drop (b + Y.length)) ++ R := by rw [List.drop_append_of_le_length (by omega), e2]
    rw [hC, bv_length, e3, e4, ← List.append_assoc, ← bv_append, ← bv_append, Nat.mul_one, List.take_append_of_le_length (by simp [bv_length]; omega), List.take_of_length_le (by simp [bv_length]; omega)]

/-- A row of bytes, from a place on. -/
theorem run_from_bytes (w : World) (r o n c s : Nat) (_hs : s ≤ n) (hc : n ≤ c) (_hm : c ≤ maxLen) (hl : s < n) :
    (Instr.sliceAt 31 (.slice (some ⟨r, o, none⟩) n c) (some (.int .i64 s)) none none).run Try.prog w = .ok (.slice (some ⟨r, o + s, none⟩) (n - s) (c - s)) w := by
  have h3 : (s : Int) ≤ (n : Int) := by omega
  have h4 : (n : Int) ≤ (c : Int) := by omega
  have h5 : (0 : Int) ≤ (s : Int) := by omega
  have h6 : ¬ c = s := by omega
  have h7 : ¬ (c : Int) = (s : Int) := by omega
  go_simp
end Go.Proofs.Ytbghdlgfpfeaeaa

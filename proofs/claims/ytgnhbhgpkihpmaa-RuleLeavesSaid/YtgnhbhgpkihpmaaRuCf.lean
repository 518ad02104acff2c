/-
  Classifiers as they lie in memory; the contracts of Which and of calls of a nil classifier. Conditions: a classifier that was made, keys whose numbers fit their Go types. (Made by gen_rucf.py.)
-/
import Derived.Test.YtgnhbhgpkihpmaaRuAny
namespace Go.Proofs.Ytgnhbhgpkihpmaa
open Go.RowKit

/-- A classifier's cells. -/
def ccs (a : Option Addr) (n c : Nat) (o : Rl) (hs : List Int) : List Value := [.slice a n c] ++ (o.cs ++ hs.map (Value.int .u64))
/-- A classifier with these rules, and this one for others, lies there. -/
structure CfB (w : World) (b : Nat) (a : Option Addr) (n c : Nat) (l : List Rl) (o : Rl) (hs : List Int) : Prop where
  ok : o.ok
  few : l.length ≤ 64
  blk : w.heap[b]? = some (.cells (ccs a n c o hs).toArray 59 (0, 0))
  own : OwnU w 0 a n c l
  len : hs.length = 65
  fit : ∀ h ∈ hs, 0 ≤ h ∧ h ≤ 18446744073709551615
def Cf (w : World) (b : Nat) (l : List Rl) (o : Rl) : Prop := ∃ a n c hs, CfB w b a n c l o hs
section
variable {w w' : World} {b : Nat} {a : Option Addr} {n c : Nat} {l : List Rl} {o : Rl} {hs : List Int}
theorem CfB.range (h : CfB w b a n c l o hs) : w.rangeAt b 0 (ccs a n c o hs) := fun j v hv => by
  rw [cell_of_row w b (0 + j) _ _ (0, 0) h.blk]; simpa using hv
theorem CfB.slice (h : CfB w b a n c l o hs) : w.cell? ⟨b, 0, none⟩ = some (.slice a n c) := range_at h.range 0 rfl
theorem CfB.oth (h : CfB w b a n c l o hs) : w.rangeAt b 1 o.cs := range_mid h.range rfl
theorem CfB.hit (h : CfB w b a n c l o hs) (j : Nat) (hj : j < 65) : w.cell? ⟨b, 45 + j, none⟩ = some (.int .u64 (hs.getD j 0)) := by
  have h1 : w.rangeAt b (0 + 1 + 44) (hs.map (Value.int .u64)) := range_end (range_end h.range rfl) (Rl.len h.ok)
  have := range_at h1 j (v := .int .u64 (hs.getD j 0)) (by simp [List.getElem?_eq_getElem (show j < hs.length by rw [h.len]; exact hj)])
  simpa using this
theorem CfB.frozen (h : CfB w b a n c l o hs) (j : Nat) : w.frozen? ⟨b, j, none⟩ = false := frozen_of_row w b j _ _ h.blk
theorem CfB.hit_fit (h : CfB w b a n c l o hs) (j : Nat) : 0 ≤ hs.getD j 0 ∧ hs.getD j 0 ≤ 18446744073709551615 := by
  rw [List.getD_eq_getElem?_getD]
  by_cases hi : j < hs.length
  · rw [List.getElem?_eq_getElem hi]; exact h.fit _ (List.getElem_mem hi)
  · rw [List.getElem?_eq_none (by omega)]; simp
theorem CfB.lt (h : CfB w b a n c l o hs) : b < w.heap.size := (Array.getElem?_eq_some_iff.1 h.blk).1
theorem tRule_ne : (43 : TypeId) ≠ 59 := by decide
/-- The rules lie in no classifier's block. -/
theorem OwnU.off {base : Nat} (h : OwnU w base a n c l) {d : Nat} {cs : Array Value} (hd : w.heap[d]? = some (.cells cs 59 (0, 0))) : ∀ k, Go.Proofs.Ytgnhbhgpkihpmaa.blk a = some k → ¬ k = d := by
  rintro k hk rfl
  rcases h.row.cases with ⟨rfl, _⟩ | ⟨g, cur, rfl, _, hg, _⟩
  · cases hk
  · simp [Go.Proofs.Ytgnhbhgpkihpmaa.blk] at hk
    subst hk
    rw [hg] at hd
    simp at hd
theorem CfB.keep {S : Nat → Prop} (h : CfB w b a n c l o hs) (k : Kept S w w') (hb : ¬ S b) (ha : ∀ i, Go.Proofs.Ytgnhbhgpkihpmaa.blk a = some i → ¬ S i) : CfB w' b a n c l o hs :=
  ⟨h.ok, h.few, k.heap h.blk hb, h.own.keep k ha, h.len, h.fit⟩
theorem CfB.below (h : CfB w b a n c l o hs) (hb : Below w.heap.size w w') : CfB w' b a n c l o hs :=
  h.keep (S := fun _ => False) (Kept.of_below hb (fun i hi hi' => by omega)) (fun h => h) (fun _ _ h => h)
theorem Cf.below (h : Cf w b l o) (hb : Below w.heap.size w w') : Cf w' b l o := by
  obtain ⟨a, n, c, hs, h⟩ := h
  exact ⟨a, n, c, hs, h.below hb⟩
theorem Cf.lt (h : Cf w b l o) : b < w.heap.size := by
  obtain ⟨a, n, c, hs, h⟩ := h
  exact h.lt
/-- Another classifier counts. -/
theorem Cf.other {d : Nat} {m : List Rl} {p : Rl} (h : Cf w b l o) (hd : Cf w d m p) (hne : b ≠ d) (k : Kept (fun x => x = d) w w') : Cf w' b l o := by
  obtain ⟨a, n, c, hs, h⟩ := h
  obtain ⟨_, _, _, _, hd⟩ := hd
  exact ⟨a, n, c, hs, h.keep k hne (h.own.off hd.blk)⟩
theorem CfB.count (h : CfB w b a n c l o hs) (j : Nat) (hj : j < 65) (z : Int) (hz : 0 ≤ z ∧ z ≤ 18446744073709551615) : CfB (w.setCell ⟨b, 45 + j, none⟩ (.int .u64 z)).drew b a n c l o (hs.set j z) := by
  refine ⟨h.ok, h.few, ?_, h.own.keep (S := fun x => x = b) (Kept.setCell (S := fun x => x = b) w ⟨b, 45 + j, none⟩ _ rfl).drew (h.own.off h.blk), by rw [List.length_set]; exact h.len, fun x hx => ?_⟩
  · show (w.setCell ⟨b, 45 + j, none⟩ (.int .u64 z)).heap[b]? = _
    rw [heap_setCell_same w b (45 + j) _ _ _ h.blk]
    have hl := Rl.len h.ok
    have e : (ccs a n c o hs).toArray.setIfInBounds (45 + j) (.int .u64 z) = (ccs a n c o (hs.set j z)).toArray := by
      simp only [List.setIfInBounds_toArray, ccs]
      congr 1
      rw [List.set_append_right _ _ (by simp; omega), List.set_append_right _ _ (by simp; omega), List.map_set]
      congr 3
      simp; omega
    first
      | rw [e]
      | (simp only [e])
  · rcases List.mem_or_eq_of_mem_set hx with h1 | rfl
    · exact h.fit x h1
    · exact hz
end
/-- What is told: the first rule that fits, or the one for others. -/
def told (f : Rl → Bool) (o : Rl) : List Rl → Rl
  | [] => o
  | r :: l => if f r then r else told f o l
theorem told_fsi (f : Rl → Bool) (o : Rl) : ∀ l : List Rl, (fsi f l = -1 ∧ told f o l = o) ∨ ∃ k : Nat, k < l.length ∧ fsi f l = k ∧ l[k]? = some (told f o l)
  | [] => .inl ⟨rfl, rfl⟩
  | r :: l => by
    cases hf : f r with
    | true => exact .inr ⟨0, by simp, by simp [fsi, hf], by simp [told, hf]⟩
    | false =>
      rcases told_fsi f o l with ⟨h1, h2⟩ | ⟨k, hk, h1, h2⟩
      · exact .inl ⟨by simp [fsi, hf, h1], by simp [told, hf, h2]⟩
      · refine .inr ⟨k + 1, by simp; omega, ?_, by simp [told, hf, h2]⟩
        simp only [fsi, hf, h1]
        rw [if_neg (by decide), if_neg (by omega)]
        omega

set_option maxRecDepth 100000 in
set_option maxHeartbeats 2000000 in
theorem uWhich_any (b : Nat) (l : List Rl) (o : Rl) (k : Ky) (w : World) (hc : Cf w b l o) (hk : k.ok) : Calls Try.prog 12 #[.pointer (some ⟨b, 0, none⟩), .agg k.cs.toArray] w (Gives w (.int .i64 (fsi (fit k) l))) := by
  obtain ⟨a, n, c, hs, hcf⟩ := hc
  have hb : Below w.heap.size w (w.alloc (.cells k.cs.toArray 28)) := (Below.refl _ _).alloc (Nat.le_refl _) _
  have hbd : Below w.heap.size w (w.alloc (.cells k.cs.toArray 28)).drew := hb.drew
  have HS : Hid (World.cell? (w.alloc (.cells k.cs.toArray 28)) ⟨b, 0, none⟩ = some (.slice a n c) ∧ World.rangeAt (w.alloc (.cells k.cs.toArray 28)) w.heap.size 0 k.cs) := ⟨(hcf.below hb).slice, range_new w k.cs 28⟩
  have HL := Lib.hid (hcf.own.rls.below hbd)
  have HN : Hid (n ≤ 70368744177664) := by have h1 := hcf.few; have h2 := hcf.own.len; show n ≤ _; omega
  have HB := Lib.hid hb
  have HK := Lib.hid hk
  clear hcf hb hbd hk
  go_enter Try.func12, Try.ntmps12
  go_wp2_with fail
  refine wp_region_held_drew (S := fun w' => World.cell? w' ⟨b, 0, none⟩ = some (.slice a n c) ∧ World.rangeAt w' w.heap.size 0 k.cs) (by kernel_rfl) HS.out (fun hS => ?_)
  refine tk 0 7 (.pointer (some ⟨b, 0, none⟩)) rfl rfl (by kernel_rfl) (by kernel_rfl) (by kernel_rfl) (fun _ _ _ h => h) (Or.inl ⟨by rfl, fun w' h' => ?_⟩) hS ?_
  · go_simp
  try simp only [Act.put, List.setIfInBounds_toArray, List.set_cons_zero, List.set_cons_succ]
  refine tk 1 8 (.pointer (some ⟨b, 0, none⟩)) rfl rfl (by kernel_rfl) (by kernel_rfl) (by kernel_rfl) (fun _ _ _ h => h) (Or.inl ⟨by rfl, fun w' h' => ?_⟩) hS ?_
  · go_simp
  try simp only [Act.put, List.setIfInBounds_toArray, List.set_cons_zero, List.set_cons_succ]
  refine tk 2 9 (.pointer (some ⟨b, 0, none⟩)) rfl rfl (by kernel_rfl) (by kernel_rfl) (by kernel_rfl) (fun _ _ _ h => h) (Or.inl ⟨by rfl, fun w' h' => ?_⟩) hS ?_
  · go_simp
  try simp only [Act.put, List.setIfInBounds_toArray, List.set_cons_zero, List.set_cons_succ]
  refine tk 3 10 (.slice a n c) rfl rfl (by kernel_rfl) (by kernel_rfl) (by kernel_rfl) (fun _ _ _ h => h) (Or.inl ⟨by rfl, fun w' h' => ?_⟩) hS ?_
  · have hc := h'.1
    go_simp
  try simp only [Act.put, List.setIfInBounds_toArray, List.set_cons_zero, List.set_cons_succ]
  refine tk 4 11 (.agg (k.cs).toArray) rfl rfl (by kernel_rfl) (by kernel_rfl) (by kernel_rfl) (fun _ _ _ h => h) (yieldsIf_load_mid (by rfl) _ _ rfl (w.heap.size) (0) rfl (k.cs) _ (fun w' h' => h'.2) Try.underlying28 rfl (by rw [Ky.len HK.out]; exact infK)) hS ?_
  try simp only [Act.put, List.setIfInBounds_toArray, List.set_cons_zero, List.set_cons_succ]
  refine wpAnyH_ready (rs := [5]) (by kernel_rfl) (by simp) (AllReadyH.cons rfl (fun K hK => ?_) AllReadyH.nil)
  rw [if_pos (by rfl)]
  go_wp2_with fail
  refine (firstFit_any a n c l k _ HL.out HN.out HK.out).mono ?_
  rintro e wa ⟨rfl, hba'⟩
  have hra := And.intro (cell_kept (undrew hba') HS.out.1) (range_kept (undrew hba') HS.out.2)
  have HBa := Lib.hid (HB.out.trans ((undrew hba').mono (by simp)))
  clear hba'
  clear hS
  refine hK.out _ _ (hra) (fun hS => ?_)
  clear hK K
  try simp only [Act.put, List.setIfInBounds_toArray, List.set_cons_zero, List.set_cons_succ]
  refine tk 6 4 (.int .i64 (fsi (fit k) l)) rfl rfl (by kernel_rfl) (by kernel_rfl) (by kernel_rfl) (fun _ _ _ h => h) (Or.inl ⟨by rfl, fun w' h' => ?_⟩) hS ?_
  · go_simp
  refine wpAnyH_done (by kernel_rfl) ?_ _
  go_wp2_with fail
  go_ret
  exact ⟨rfl, HBa.out⟩

theorem uWhich_nil (k : Ky) (w : World) : Calls Try.prog 12 #[.pointer none, .agg k.cs.toArray] w (Gives w (.int .i64 (-1))) := by
  have HB := Lib.hid ((Below.refl w.heap.size w).alloc (Nat.le_refl _) (.cells k.cs.toArray 28))
  go_enter Try.func12, Try.ntmps12
  go_wp2_with fail
  go_ret
  exact ⟨rfl, HB.out⟩
theorem uHits_nil (w : World) : Calls Try.prog 13 #[.pointer none] w (Gives w (.slice none 0 0)) := by
  go_enter Try.func13, Try.ntmps13
  go_wp2_with fail
  go_ret
  exact ⟨rfl, Below.refl _ _⟩
theorem uDead_nil (w : World) : Calls Try.prog 8 #[.pointer none] w (Gives w (.slice none 0 0)) := by
  go_enter Try.func8, Try.ntmps8
  go_wp2_with fail
  go_ret
  exact ⟨rfl, Below.refl _ _⟩
theorem uClass_nil (k : Ky) (w : World) : Calls Try.prog 7 #[.pointer none, .agg k.cs.toArray] w (Gives w (.tuple #[.int .i64 0, .int .i64 1])) := by
  have HB := Lib.hid ((Below.refl w.heap.size w).alloc (Nat.le_refl _) (.cells k.cs.toArray 28))
  go_enter Try.func7, Try.ntmps7
  go_wp2_with fail
  go_ret2
  exact ⟨rfl, HB.out⟩
end Go.Proofs.Ytgnhbhgpkihpmaa

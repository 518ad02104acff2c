/-
  The document's own Parse of layer 5, where the first bytes tell that it is refused. Conditions: bytes that lie where the slice leads, fewer than 100,000.
-/
import Derived.Test.YtjnbnjdajkhkpaaIpBody
namespace Go.Proofs.Ytjnbnjdajkhkpaa
open Go.RowKit

theorem rh0_one : ∀ v ∈ rh0, v.oneCell' = true := by
  intro v hv; simp only [rh0, List.mem_cons, List.not_mem_nil, or_false] at hv
  rcases hv with rfl | rfl | rfl | rfl | rfl | rfl | rfl | rfl | rfl | rfl | rfl <;> rfl
theorem builtR0 : Try.prog.built 29 [] = some rh0.toArray := by kernel_rfl
theorem ldR0 {ops : Array Oper} {rest : List Oper} {o : Oper} {a : Act} {w : World} {Q : Exit → Act → World → Prop} (x : Operand) (ho : o.op = .load 29 x) (hgd : o.guard = none) (b : Nat) (hx : a.eval x = .pointer (some ⟨b, 0, none⟩)) (hc : w.rangeAt b 0 rh0)
    (k : wpList Try.prog ops Q rest (a.put o.dst (.agg rh0.toArray)) w) : wpList Try.prog ops Q (o :: rest) a w :=
  wpList_load_mid hgd _ x ho b 0 hx rh0 _ hc Try.underlying29 rfl infRH k
/-- What the document's Parse holds, before it answers. -/
def R5 (w w' : World) : Prop := Below w.heap.size w w' ∧ w'.rangeAt (w.heap.size + 1) 0 rh0 ∧ w'.there w.heap.size 0 11
def R5z (w w' : World) : Prop := Below w.heap.size w w' ∧ w'.rangeAt w.heap.size 0 rh0
theorem R5.z {w w' : World} (h : R5 w w') : R5z w (w'.setCells w.heap.size 0 rh0) := ⟨Below.setCells h.1 _ (Nat.le_refl _) _ _, World.rangeAt_setCells_same _ _ _ _ h.2.2⟩
theorem R5.start (w : World) : R5 w (((w.alloc (.cells rh0.toArray 29)).alloc (.cells rh0.toArray 29)).setCells (w.heap.size + 1) 0 rh0) ∧ ((w.alloc (.cells rh0.toArray 29)).alloc (.cells rh0.toArray 29)).there (w.heap.size + 1) 0 11 := by
  have hbA : Below w.heap.size w (w.alloc (.cells rh0.toArray 29)) := (Below.refl _ _).alloc (Nat.le_refl _) _
  have hsA : (w.alloc (.cells rh0.toArray 29)).heap.size = w.heap.size + 1 := by simp
  have ht : ((w.alloc (.cells rh0.toArray 29)).alloc (.cells rh0.toArray 29)).there (w.heap.size + 1) 0 11 := there_new _ _ _ _ rfl _ hsA
  have hbB : Below (w.alloc (.cells rh0.toArray 29)).heap.size (w.alloc (.cells rh0.toArray 29)) (((w.alloc (.cells rh0.toArray 29)).alloc (.cells rh0.toArray 29)).setCells (w.heap.size + 1) 0 rh0) := Below.setCells ((Below.refl _ _).alloc (Nat.le_refl _) _) _ (by omega) _ _
  exact ⟨⟨hbA.trans (hbB.mono hbA.size), World.rangeAt_setCells_same _ _ _ _ ht, there_kept hbB (there_new _ _ _ _ rfl _ rfl)⟩, ht⟩

set_option maxRecDepth 100000 in
set_option maxHeartbeats 1000000 in
theorem r5Parse_first (a : Option Addr) (n cap : Nat) (xs : List Int) (w : World) (hn : xs.length = n) (hr : Rd w a xs) (hb : Byt xs) (hl : n ≤ 100000) (hz : szE xs ≠ 0) :
    Calls Try.prog 17 #[.slice a n cap] w fun e w' => e = .returned (.tuple #[.agg rh0.toArray, .int .i64 0, .int .i64 (szE xs)]) ∧ Below w.heap.size w w' := by
  have HN := Lib.hid hn
  have HR := Lib.hid hr
  have HB := Lib.hid hb
  obtain ⟨s1, s2⟩ := R5.start w
  have HS : Hid (R5 w (((w.alloc (.cells rh0.toArray 29)).alloc (.cells rh0.toArray 29)).setCells (w.heap.size + 1) 0 rh0)) := s1
  have HT := Lib.hid s2
  clear s1 s2 hr hb
  by_cases h20 : n < 20
  · have HE : Hid (szE xs = 10) := by show _ = _; unfold szE; rw [if_pos (by omega)]
    clear hn hz
    go_enter Try.func17, Try.ntmps17
    go_wp2_with (first
      | (refine wpList_build_run (cells := rh0.toArray) rfl 29 _ rfl ?_ ?_; · exact builtR0)
      | (refine stN (fun w' => Hid (R5 w w')) 29 (.tmp 5) (.tmp 13) rfl rfl (w.heap.size + 1) 0 rh0 rfl rfl HT.out infRH rh0_one HS ?_; intro wc HF)
      | (refine ldR0 (.tmp 5) rfl rfl (w.heap.size + 1) rfl HF.out.2.1 ?_)
      | (refine stN (fun w' => Hid (R5z w w')) 29 (.tmp 2) (.tmp 17) rfl rfl w.heap.size 0 rh0 rfl rfl HF.out.2.2 infRH rh0_one HF.out.z ?_; intro wz HZ))
    refine bodyPost_ret (ret_mid3 Try.results17 _ _ _ _ rh0 _ rfl HZ.out.2 Try.underlying29 rfl infRH _ _ rfl rfl) rfl ⟨?_, HZ.out.1⟩
    rw [HE.out]
    rfl
  have hq := HB.out.get 0
  obtain ⟨bb, oo, rfl, hcl⟩ := HR.out (by intro e; rw [e] at hn; simp at hn; omega)
  have hc0 := hcl 0 (by omega)
  rw [Nat.add_zero] at hc0
  obtain ⟨q, hqq⟩ : ∃ q, xs.getD 0 0 = q := ⟨_, rfl⟩
  rw [hqq] at hq hc0
  have HQ := Lib.hid hqq
  have hd16 : q.tdiv 16 = q / 16 := Int.tdiv_eq_ediv_of_nonneg hq.1
  have hm16 : q.tmod 16 = q % 16 := Int.tmod_eq_emod_of_nonneg hq.1
  clear hcl hqq
  by_cases h4 : q / 16 = 4
  · by_cases h5 : q % 16 * 4 < 20
    · have HE : Hid (szE xs = 51) := by show _ = _; unfold szE; rw [HQ.out, if_neg (by omega), if_neg (by omega), if_pos h5]
      clear hn hz
      go_enter Try.func17, Try.ntmps17
      go_wp2_with (first
        | (refine wpList_build_run (cells := rh0.toArray) rfl 29 _ rfl ?_ ?_; · exact builtR0)
        | (refine stN (fun w' => Hid (R5 w w')) 29 (.tmp 5) (.tmp 13) rfl rfl (w.heap.size + 1) 0 rh0 rfl rfl HT.out infRH rh0_one HS ?_; intro wc HF; have hcell := cell_kept HF.out.1 hc0)
        | (refine ldR0 (.tmp 5) rfl rfl (w.heap.size + 1) rfl HF.out.2.1 ?_)
        | (refine stN (fun w' => Hid (R5z w w')) 29 (.tmp 2) (.tmp 32) rfl rfl w.heap.size 0 rh0 rfl rfl HF.out.2.2 infRH rh0_one HF.out.z ?_; intro wz HZ))
      refine bodyPost_ret (ret_mid3 Try.results17 _ _ _ _ rh0 _ rfl HZ.out.2 Try.underlying29 rfl infRH _ _ rfl rfl) rfl ⟨?_, HZ.out.1⟩
      rw [HE.out]
      rfl
    · have HE : Hid (szE xs = 10) := by
        show _ = _
        unfold szE at hz ⊢
        rw [HQ.out, if_neg (by omega), if_neg (by omega), if_neg h5] at hz ⊢
        by_cases hlt : (xs.length : Int) < q % 16 * 4
        · rw [if_pos hlt]
        · rw [if_neg hlt] at hz; exact absurd rfl hz
      have hlt : (n : Int) < q % 16 * 4 := by
        rw [← hn]
        by_cases hlt : (xs.length : Int) < q % 16 * 4
        · exact hlt
        · exfalso
          unfold szE at hz
          rw [HQ.out, if_neg (by omega), if_neg (by omega), if_neg h5, if_neg hlt] at hz
          exact hz rfl
      clear hn hz
      go_enter Try.func17, Try.ntmps17
      go_wp2_with (first
        | (refine wpList_build_run (cells := rh0.toArray) rfl 29 _ rfl ?_ ?_; · exact builtR0)
        | (refine stN (fun w' => Hid (R5 w w')) 29 (.tmp 5) (.tmp 13) rfl rfl (w.heap.size + 1) 0 rh0 rfl rfl HT.out infRH rh0_one HS ?_; intro wc HF; have hcell := cell_kept HF.out.1 hc0)
        | (refine ldR0 (.tmp 5) rfl rfl (w.heap.size + 1) rfl HF.out.2.1 ?_)
        | (refine stN (fun w' => Hid (R5z w w')) 29 (.tmp 2) (.tmp 37) rfl rfl w.heap.size 0 rh0 rfl rfl HF.out.2.2 infRH rh0_one HF.out.z ?_; intro wz HZ))
      refine bodyPost_ret (ret_mid3 Try.results17 _ _ _ _ rh0 _ rfl HZ.out.2 Try.underlying29 rfl infRH _ _ rfl rfl) rfl ⟨?_, HZ.out.1⟩
      rw [HE.out]
      rfl
  · have HE : Hid (szE xs = 50) := by show _ = _; unfold szE; rw [HQ.out, if_neg (by omega), if_pos h4]
    clear hn hz
    go_enter Try.func17, Try.ntmps17
    go_wp2_with (first
      | (refine wpList_build_run (cells := rh0.toArray) rfl 29 _ rfl ?_ ?_; · exact builtR0)
      | (refine stN (fun w' => Hid (R5 w w')) 29 (.tmp 5) (.tmp 13) rfl rfl (w.heap.size + 1) 0 rh0 rfl rfl HT.out infRH rh0_one HS ?_; intro wc HF; have hcell := cell_kept HF.out.1 hc0)
      | (refine ldR0 (.tmp 5) rfl rfl (w.heap.size + 1) rfl HF.out.2.1 ?_)
      | (refine stN (fun w' => Hid (R5z w w')) 29 (.tmp 2) (.tmp 23) rfl rfl w.heap.size 0 rh0 rfl rfl HF.out.2.2 infRH rh0_one HF.out.z ?_; intro wz HZ))
    refine bodyPost_ret (ret_mid3 Try.results17 _ _ _ _ rh0 _ rfl HZ.out.2 Try.underlying29 rfl infRH _ _ rfl rfl) rfl ⟨?_, HZ.out.1⟩
    rw [HE.out]
    rfl
end Go.Proofs.Ytjnbnjdajkhkpaa

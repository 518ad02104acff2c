/-
  The contract of read of package ip. Conditions: at least 20 bytes, that lie where the slice leads, rows shorter than a million.
-/
import Derived.Test.YtjnbnjdajkhkpaaIpPut
namespace Go.Proofs.Ytjnbnjdajkhkpaa
open Go.RowKit

/-- The header that stands in a header's bytes, its options where a slice leads. -/
def hdOf (xs : List Int) (a : Option Addr) (n c : Nat) : Hd :=
  ⟨xs.getD 1 0, wordAt xs 2, wordAt xs 4, decide (wordAt xs 6 / 16384 % 2 = 1), decide (wordAt xs 6 / 8192 % 2 = 1), wordAt xs 6 % 8192, xs.getD 8 0, xs.getD 9 0, (xs.drop 12).take 4, (xs.drop 16).take 4, a, n, c, xs.drop 20⟩
theorem run_arr4 (w : World) (a : Addr) (c : Nat) : (Instr.arrayAt 23 (.slice (some a) 4 c)).run Try.prog w = .ok (.pointer (some a)) w := by
  simp [Instr.arrayAt, run_underlying Try.underlying23, Sem.run_bind, Result.andThen]
theorem yields_build {P : Program} {ops : Array Oper} {S : World → Prop} {op : Oper} {a : Act} (hw : Region.wanted op (yielded ops a.tmps) = true) (t : TypeId) (parts : Array (Nat × Operand)) (ho : op.op = .build t parts) {cells : Array Value}
    (hc : P.built t (parts.toList.map fun x => (x.1, a.eval x.2)) = some cells) : YieldsIf P ops S op (.agg cells) a :=
  .inl ⟨hw, fun w _ => by
    have hc' : P.built t (parts.map fun (i, x) => (i, a.eval x)).toList = some cells := by rw [← hc]; simp
    unfold execOp
    simp only [ho, Sem.run_bind, run_build w t _ cells hc', Result.andThen_ok]
    rfl⟩
theorem list4 {α : Type} (xs : List α) (h : xs.length = 4) : ∃ a b c d, xs = [a, b, c, d] := by
  match xs, h with
  | [a, b, c, d], _ => exact ⟨a, b, c, d, rfl⟩
theorem builtH (h : Hd) (h1 : h.src.length = 4) (h2 : h.dst.length = 4) : Try.prog.built 26 [(0, .int .u8 h.tos), (1, .int .u16 h.tot), (2, .int .u16 h.id), (3, .bool h.df), (4, .bool h.mf), (5, .int .u16 h.frag), (6, .int .u8 h.ttl), (7, .int .u8 h.pro), (8, .agg (bv h.src).toArray), (9, .agg (bv h.dst).toArray), (10, .slice h.a h.n h.c)] = some h.cs.toArray := by
  obtain ⟨tos, tot, id, df, mf, frag, ttl, pro, src, dst, a, n, c, op⟩ := h
  obtain ⟨a1, b1, c1, d1, rfl⟩ := list4 src h1
  obtain ⟨a2, b2, c2, d2, rfl⟩ := list4 dst h2
  kernel_rfl
theorem cut4 (xs : List Int) (q : Nat) (h : q + 4 ≤ xs.length) : ((xs.drop q).take 4).length = 4 := by simp; omega
theorem range_cut {w : World} {b o : Nat} {xs : List Int} (h : w.rangeAt b o (bv xs)) (q m : Nat) : w.rangeAt b (o + q) (bv ((xs.drop q).take m)) := fun j v hv => by
  have hj := (List.getElem?_eq_some_iff.1 hv).1
  rw [bv_length] at hj
  rw [bv_get _ j hj] at hv
  simp only [List.length_take, List.length_drop] at hj
  have := h (q + j) v (by rw [bv_get xs (q + j) (by omega), ← getD_cut xs q m j (by omega)]; exact hv)
  rw [Nat.add_assoc]; exact this
theorem range_byte {w : World} {b o : Nat} {xs : List Int} (h : w.rangeAt b o (bv xs)) (j : Nat) (hj : j < xs.length) : w.cell? ⟨b, o + j, none⟩ = some (.int .u8 (xs.getD j 0)) := h j _ (bv_get xs j hj)
theorem rd_range {w : World} {b o : Nat} {xs : List Int} (h : Rd w (some ⟨b, o, none⟩) xs) : w.rangeAt b o (bv xs) := fun j v hv => by
  have hj := (List.getElem?_eq_some_iff.1 hv).1
  rw [bv_length] at hj
  rw [bv_get _ j hj] at hv
  rw [← hv]
  exact rd_at h hj
theorem range_rd {w : World} {b o : Nat} {xs : List Int} (h : w.rangeAt b o (bv xs)) : Rd w (some ⟨b, o, none⟩) xs := fun _ => ⟨b, o, rfl, fun i hi => range_byte h i hi⟩
theorem and_pow (n k : Nat) : n &&& 2 ^ k = if n.testBit k then 2 ^ k else 0 := by
  apply Nat.eq_of_testBit_eq
  intro i
  rw [Nat.testBit_and, Nat.testBit_two_pow]
  by_cases e : k = i
  · subst e
    cases h : n.testBit k <;> simp
  · cases h : n.testBit k <;> simp [e]
theorem and_bit (x : Int) (k : Nat) (p : Int) (h0 : 0 ≤ x) (h1 : x < 65536) (hk : k < 16) (hp : ((2 ^ k : Nat) : Int) = p) : (bits .and .u16 x p != 0) = decide (x / p % 2 = 1) := by
  have hp' : (2 ^ k : Nat) < 2 ^ 16 := Nat.pow_lt_pow_right (by omega) hk
  have hp2 : 0 < (2 ^ k : Nat) := Nat.two_pow_pos k
  obtain ⟨n, rfl⟩ := Int.eq_ofNat_of_zero_le h0
  subst hp
  rw [u16_and _ _ h0 h1 (Int.natCast_nonneg _) (by omega)]
  simp only [Int.toNat_natCast]
  rw [and_pow n k]
  have hb : (((n : Int) / ((2 ^ k : Nat) : Int)) % 2 = 1) ↔ n.testBit k = true := by
    rw [Nat.testBit_eq_decide_div_mod_eq, decide_eq_true_eq]
    rw [← Int.natCast_ediv]
    omega
  cases ht : n.testBit k with
  | true =>
    rw [decide_eq_true (hb.2 ht)]
    have h2 : ((2 ^ k : Nat) : Int) ≠ 0 := by omega
    simpa using h2
  | false =>
    rw [decide_eq_false (fun h => by rw [hb.1 h] at ht; cases ht)]
    simp
theorem and_low13 (x : Int) (h0 : 0 ≤ x) (h1 : x < 65536) : bits .and .u16 x 8191 = x % 8192 := by
  rw [u16_and _ _ h0 h1 (by omega) (by omega), show (8191 : Int).toNat = 2 ^ 13 - 1 from rfl, Nat.and_two_pow_sub_one_eq_mod]
  omega
theorem ret_mid {P : Program} {fn : Func} {p : Tmp} {ty : TypeId} (h : fn.results = #[.cell p ty]) (tmps : Array Value) (w : World) (b off : Nat) (cs : List Value) (d : TypeDesc) (hp : tmps.getD p undef = .pointer (some ⟨b, off, none⟩)) (hc : w.rangeAt b off cs)
    (hu : P.underlying ty = some d) (hd : d.isRow = true) (hi : (P.info? ty).map (·.size) = some cs.length) : (results fn tmps).run P w = .ok (.agg cs.toArray) w := by
  have hp' : tmps[p]?.getD undef = .pointer (some ⟨b, off, none⟩) := by simpa using hp
  simp [results, h, hp', asAddr, run_loadVar_mid w b off ty cs d hc hu hd hi]
theorem there_kept {w w' : World} (h : Below w.heap.size w w') {b o n : Nat} (ht : w.there b o n) : w'.there b o n := fun j hj => by
  obtain ⟨h1, h2⟩ := ht j hj
  obtain ⟨u, hu⟩ := Option.isSome_iff_exists.1 h1
  have hlt := World.block_lt_of_cell? w ⟨b, o + j, none⟩ hu
  refine ⟨by rw [cell_kept h hu]; rfl, ?_⟩
  rw [← h2]
  exact World.frozen?_of_block (h.block b hlt)
theorem Kept.setCells {w : World} (b : Nat) (vs : List Value) : ∀ (off : Nat) (w0 : World), Kept (fun k => k = b) w0 w → Kept (fun k => k = b) w0 (w.setCells b off vs) := by
  induction vs generalizing w with
  | nil => intro off w0 h; exact h
  | cons v r ih => intro off w0 h; rw [World.setCells]; exact ih (off + 1) w0 (h.trans (Kept.setCell (S := fun k => k = b) _ _ _ rfl) (fun _ _ e => e))
/-- The header that is nothing. -/
def hd0 : Hd := ⟨0, 0, 0, false, false, 0, 0, 0, [0, 0, 0, 0], [0, 0, 0, 0], none, 0, 0, []⟩
/-- What read answers. -/
def ReadH (w : World) (xs : List Int) (e : Ending) (w' : World) : Prop :=
  ∃ a n c, e = .returned (.agg (hdOf xs a n c).cs.toArray) ∧ Own w' w.heap.size a n c (xs.drop 20) ∧ Below w.heap.size w w'

set_option maxRecDepth 100000 in
set_option maxHeartbeats 1000000 in
theorem iRead_any (bb oo n cap : Nat) (xs : List Int) (w : World) (hn : xs.length = n) (hr : Rd w (some ⟨bb, oo, none⟩) xs) (hb : Byt xs) (h20 : 20 ≤ n) (hl : n ≤ 1000000) (hc : n ≤ cap) :
    Calls Try.prog 39 #[.slice (some ⟨bb, oo, none⟩) n cap] w (ReadH w xs) := by
  have HN := Lib.hid hn
  have HR := Lib.hid (rd_range hr)
  have HRD := Lib.hid hr
  have HB := Lib.hid hb
  have HLT : Hid (bb < w.heap.size) := World.block_lt_of_cell? w ⟨bb, oo + 0, none⟩ (rd_at hr (by omega))
  obtain ⟨F, hF⟩ : ∃ F, wordAt xs 6 = F := ⟨_, rfl⟩
  have hfr := wordAt_range hb 6
  rw [hF] at hfr
  obtain ⟨A14, hA14⟩ : ∃ x, bits .and .u16 F 16384 = x := ⟨_, rfl⟩
  obtain ⟨A17, hA17⟩ : ∃ x, bits .and .u16 F 8192 = x := ⟨_, rfl⟩
  have hD := and_bit F 14 16384 hfr.1 (by omega) (by omega) rfl
  have hM := and_bit F 13 8192 hfr.1 (by omega) (by omega) rfl
  rw [hA14] at hD
  rw [hA17] at hM
  obtain ⟨D, hDe⟩ : ∃ x, decide (F / 16384 % 2 = 1) = x := ⟨_, rfl⟩
  obtain ⟨M, hMe⟩ : ∃ x, decide (F / 8192 % 2 = 1) = x := ⟨_, rfl⟩
  obtain ⟨G, hG⟩ : ∃ x, F % 8192 = x := ⟨_, rfl⟩
  have hA20 := and_low13 F hfr.1 (by omega)
  rw [hG] at hA20
  rw [hDe] at hD
  rw [hMe] at hM
  obtain ⟨W2, hW2⟩ : ∃ x, wordAt xs 2 = x := ⟨_, rfl⟩
  obtain ⟨W4, hW4⟩ : ∃ x, wordAt xs 4 = x := ⟨_, rfl⟩
  have HF := Lib.hid hF
  have HW2 := Lib.hid hW2
  have HW4 := Lib.hid hW4
  have HFIN : Hid (∀ a n' c, hdOf xs a n' c = ⟨xs.getD 1 0, W2, W4, D, M, G, xs.getD 8 0, xs.getD 9 0, (xs.drop 12).take 4, (xs.drop 16).take 4, a, n', c, xs.drop 20⟩) := by
    intro a n' c
    unfold hdOf
    rw [hF, hDe, hMe, hG, hW2, hW4]
  have HL1 := Lib.hid (cut4 xs 12 (by omega))
  have HL2 := Lib.hid (cut4 xs 16 (by omega))
  obtain ⟨wA, hwA⟩ : ∃ x, w.alloc (.cells hd0.cs.toArray 26) = x := ⟨_, rfl⟩
  have hBA : Below w.heap.size w wA := by rw [← hwA]; exact (Below.refl _ _).alloc (Nat.le_refl _) _
  have HBA := Lib.hid hBA
  have HRA := Lib.hid (hr.below hBA)
  have HRG : Hid (wA.rangeAt bb oo (bv xs)) := rd_range (hr.below hBA)
  have HTH : Hid (wA.there w.heap.size 0 17) := by rw [← hwA]; exact there_new _ _ _ _ rfl _ rfl
  have HSZ : Hid (wA.heap.size = w.heap.size + 1) := by rw [← hwA]; show _ = _; simp
  obtain ⟨a20, ha20⟩ : ∃ x : Option Addr, (if cap = 20 then some ⟨bb, oo, none⟩ else some ⟨bb, oo + 20, none⟩) = x := ⟨_, rfl⟩
  clear hBA hn hr hb hF hW2 hW4 hDe hMe hG hfr
  go_enter Try.func39, Try.ntmps39
  go_wp2_with fail
  show Calls _ _ _ (w.alloc (.cells hd0.cs.toArray 26)) _
  rw [hwA]
  refine (iWord_any _ _ _ xs 6 _ HN.out HRA.out HB.out (by omega) hc (by omega)).mono ?_
  rintro e w1 ⟨rfl, rfl⟩
  rw [HF.out]
  go_wp2_with fail
  have HSL : Hid (Rd wA a20 (xs.drop 20)) := by
    show Rd _ _ _
    rw [← ha20]
    by_cases e : cap = 20
    · rw [if_pos e, List.drop_of_length_le (by rw [HN.out]; omega)]; exact Rd.empty _ _
    · rw [if_neg e]
      have := HRA.out.cut (q := 20) (m := n - 20) (by rw [HN.out]; omega)
      rwa [List.take_of_length_le (by rw [List.length_drop, HN.out]; omega)] at this
  have i1 : (1 : Int) < (n : Int) := by omega
  have i8 : (8 : Int) < (n : Int) := by omega
  have i9 : (9 : Int) < (n : Int) := by omega
  have i20 : (20 : Int) ≤ (n : Int) := by omega
  have i21 : (20 : Int) ≤ (cap : Int) := by omega
  have i16 : (16 : Int) ≤ (cap : Int) := by omega
  have i12 : ¬ cap = 12 := by omega
  have i17 : ¬ cap = 16 := by omega
  have hrr := HRG.out
  refine wp_region_held_drew (S := fun w' => World.rangeAt w' bb oo (bv xs)) (by kernel_rfl) hrr (fun hS => ?_)
  refine tk 0 6 (.slice (some ⟨bb, oo, none⟩) n cap) rfl rfl (by kernel_rfl) (by kernel_rfl) (by kernel_rfl) (fun _ _ _ h => h) (Or.inl ⟨by rfl, fun w' h => ?_⟩) hS ?_
  · go_simp
  refine tk 1 7 (.pointer (some ⟨bb, oo + 1, none⟩)) rfl rfl (by kernel_rfl) (by kernel_rfl) (by kernel_rfl) (fun _ _ _ h => h) (Or.inl ⟨by rfl, fun w' h => ?_⟩) hS ?_
  · go_simp
  refine tk 2 8 (.int .u8 (xs.getD 1 0)) rfl rfl (by kernel_rfl) (by kernel_rfl) (by kernel_rfl) (fun _ _ _ h => h) (Or.inl ⟨by rfl, fun w' h => ?_⟩) hS ?_
  · have hcell := range_byte h 1 (by rw [HN.out]; omega)
    go_simp
  refine tk 3 9 (.slice (some ⟨bb, oo, none⟩) n cap) rfl rfl (by kernel_rfl) (by kernel_rfl) (by kernel_rfl) (fun _ _ _ h => h) (Or.inl ⟨by rfl, fun w' h => ?_⟩) hS ?_
  · go_simp
  refine tk 5 11 (.slice (some ⟨bb, oo, none⟩) n cap) rfl rfl (by kernel_rfl) (by kernel_rfl) (by kernel_rfl) (fun _ _ _ h => h) (Or.inl ⟨by rfl, fun w' h => ?_⟩) hS ?_
  · go_simp
  refine tk 7 13 (.int .u16 F) rfl rfl (by kernel_rfl) (by kernel_rfl) (by kernel_rfl) (fun _ _ _ h => h) (Or.inl ⟨by rfl, fun w' h => ?_⟩) hS ?_
  · go_simp
  refine tk 8 14 (.int .u16 A14) rfl rfl (by kernel_rfl) (by kernel_rfl) (by kernel_rfl) (fun _ _ _ h => h) (Or.inl ⟨by rfl, fun w' h => ?_⟩) hS ?_
  · go_simp
  refine tk 9 15 (.bool D) rfl rfl (by kernel_rfl) (by kernel_rfl) (by kernel_rfl) (fun _ _ _ h => h) (Or.inl ⟨by rfl, fun w' h => ?_⟩) hS ?_
  · go_simp
  refine tk 10 16 (.int .u16 F) rfl rfl (by kernel_rfl) (by kernel_rfl) (by kernel_rfl) (fun _ _ _ h => h) (Or.inl ⟨by rfl, fun w' h => ?_⟩) hS ?_
  · go_simp
  refine tk 11 17 (.int .u16 A17) rfl rfl (by kernel_rfl) (by kernel_rfl) (by kernel_rfl) (fun _ _ _ h => h) (Or.inl ⟨by rfl, fun w' h => ?_⟩) hS ?_
  · go_simp
  refine tk 12 18 (.bool M) rfl rfl (by kernel_rfl) (by kernel_rfl) (by kernel_rfl) (fun _ _ _ h => h) (Or.inl ⟨by rfl, fun w' h => ?_⟩) hS ?_
  · go_simp
  refine tk 13 19 (.int .u16 F) rfl rfl (by kernel_rfl) (by kernel_rfl) (by kernel_rfl) (fun _ _ _ h => h) (Or.inl ⟨by rfl, fun w' h => ?_⟩) hS ?_
  · go_simp
  refine tk 14 20 (.int .u16 G) rfl rfl (by kernel_rfl) (by kernel_rfl) (by kernel_rfl) (fun _ _ _ h => h) (Or.inl ⟨by rfl, fun w' h => ?_⟩) hS ?_
  · go_simp
  refine tk 15 21 (.slice (some ⟨bb, oo, none⟩) n cap) rfl rfl (by kernel_rfl) (by kernel_rfl) (by kernel_rfl) (fun _ _ _ h => h) (Or.inl ⟨by rfl, fun w' h => ?_⟩) hS ?_
  · go_simp
  refine tk 16 22 (.pointer (some ⟨bb, oo + 8, none⟩)) rfl rfl (by kernel_rfl) (by kernel_rfl) (by kernel_rfl) (fun _ _ _ h => h) (Or.inl ⟨by rfl, fun w' h => ?_⟩) hS ?_
  · go_simp
  refine tk 17 23 (.int .u8 (xs.getD 8 0)) rfl rfl (by kernel_rfl) (by kernel_rfl) (by kernel_rfl) (fun _ _ _ h => h) (Or.inl ⟨by rfl, fun w' h => ?_⟩) hS ?_
  · have hcell := range_byte h 8 (by rw [HN.out]; omega)
    go_simp
  refine tk 18 24 (.slice (some ⟨bb, oo, none⟩) n cap) rfl rfl (by kernel_rfl) (by kernel_rfl) (by kernel_rfl) (fun _ _ _ h => h) (Or.inl ⟨by rfl, fun w' h => ?_⟩) hS ?_
  · go_simp
  refine tk 19 25 (.pointer (some ⟨bb, oo + 9, none⟩)) rfl rfl (by kernel_rfl) (by kernel_rfl) (by kernel_rfl) (fun _ _ _ h => h) (Or.inl ⟨by rfl, fun w' h => ?_⟩) hS ?_
  · go_simp
  refine tk 20 26 (.int .u8 (xs.getD 9 0)) rfl rfl (by kernel_rfl) (by kernel_rfl) (by kernel_rfl) (fun _ _ _ h => h) (Or.inl ⟨by rfl, fun w' h => ?_⟩) hS ?_
  · have hcell := range_byte h 9 (by rw [HN.out]; omega)
    go_simp
  refine tk 21 27 (.slice (some ⟨bb, oo, none⟩) n cap) rfl rfl (by kernel_rfl) (by kernel_rfl) (by kernel_rfl) (fun _ _ _ h => h) (Or.inl ⟨by rfl, fun w' h => ?_⟩) hS ?_
  · go_simp
  refine tk 22 28 (.slice (some ⟨bb, oo + 12, none⟩) 4 (cap - 12)) rfl rfl (by kernel_rfl) (by kernel_rfl) (by kernel_rfl) (fun _ _ _ h => h) (Or.inl ⟨by rfl, fun w' h => ?_⟩) hS ?_
  · go_simp
  refine tk 23 29 (.pointer (some ⟨bb, oo + 12, none⟩)) rfl rfl (by kernel_rfl) (by kernel_rfl) (by kernel_rfl) (fun _ _ _ h => h) (Or.inl ⟨by rfl, fun w' h => ?_⟩) hS ?_
  · have harr := run_arr4 w' ⟨bb, oo + 12, none⟩ (cap - 12)
    go_simp
  try simp only [Act.put, List.setIfInBounds_toArray, List.set_cons_zero, List.set_cons_succ]
  refine tk 24 30 (.agg (bv ((xs.drop 12).take 4)).toArray) rfl rfl (by kernel_rfl) (by kernel_rfl) (by kernel_rfl) (fun _ _ _ h => h) (yieldsIf_load_mid (by rfl) _ _ rfl bb (oo + 12) rfl (bv ((xs.drop 12).take 4)) _ (fun w' h => range_cut h 12 4) Try.underlying23 rfl (by rw [bv_length, HL1.out]; exact inf4)) hS ?_
  refine tk 25 31 (.slice (some ⟨bb, oo, none⟩) n cap) rfl rfl (by kernel_rfl) (by kernel_rfl) (by kernel_rfl) (fun _ _ _ h => h) (Or.inl ⟨by rfl, fun w' h => ?_⟩) hS ?_
  · go_simp
  refine tk 26 32 (.slice (some ⟨bb, oo + 16, none⟩) 4 (cap - 16)) rfl rfl (by kernel_rfl) (by kernel_rfl) (by kernel_rfl) (fun _ _ _ h => h) (Or.inl ⟨by rfl, fun w' h => ?_⟩) hS ?_
  · go_simp
  refine tk 27 33 (.pointer (some ⟨bb, oo + 16, none⟩)) rfl rfl (by kernel_rfl) (by kernel_rfl) (by kernel_rfl) (fun _ _ _ h => h) (Or.inl ⟨by rfl, fun w' h => ?_⟩) hS ?_
  · have harr := run_arr4 w' ⟨bb, oo + 16, none⟩ (cap - 16)
    go_simp
  try simp only [Act.put, List.setIfInBounds_toArray, List.set_cons_zero, List.set_cons_succ]
  refine tk 28 34 (.agg (bv ((xs.drop 16).take 4)).toArray) rfl rfl (by kernel_rfl) (by kernel_rfl) (by kernel_rfl) (fun _ _ _ h => h) (yieldsIf_load_mid (by rfl) _ _ rfl bb (oo + 16) rfl (bv ((xs.drop 16).take 4)) _ (fun w' h => range_cut h 16 4) Try.underlying23 rfl (by rw [bv_length, HL2.out]; exact inf4)) hS ?_
  refine tk 29 35 (.slice (some ⟨bb, oo, none⟩) n cap) rfl rfl (by kernel_rfl) (by kernel_rfl) (by kernel_rfl) (fun _ _ _ h => h) (Or.inl ⟨by rfl, fun w' h => ?_⟩) hS ?_
  · go_simp
  refine tk 30 36 (.slice a20 (n - 20) (cap - 20)) rfl rfl (by kernel_rfl) (by kernel_rfl) (by kernel_rfl) (fun _ _ _ h => h) (Or.inl ⟨by rfl, fun w' h => ?_⟩) hS ?_
  · rw [← ha20]
    go_simp
  try simp only [Act.put, List.setIfInBounds_toArray, List.set_cons_zero, List.set_cons_succ]
  refine wpAnyH_ready (rs := [4]) (by kernel_rfl) (by simp) (AllReadyH.cons rfl (fun K hK => ?_) AllReadyH.nil)
  rw [if_pos (by rfl)]
  go_wp2_with fail
  refine (iWord_any _ _ _ xs 2 _ HN.out (range_rd hS) HB.out (by omega) hc (by omega)).mono ?_
  rintro e wx ⟨rfl, rfl⟩
  rw [HW2.out]
  have hS' := hS
  clear hS
  refine hK.out _ _ hS' (fun hS => ?_)
  clear hK K hS'
  try simp only [Act.put, List.setIfInBounds_toArray, List.set_cons_zero, List.set_cons_succ]
  refine wpAnyH_ready (rs := [6]) (by kernel_rfl) (by simp) (AllReadyH.cons rfl (fun K hK => ?_) AllReadyH.nil)
  rw [if_pos (by rfl)]
  go_wp2_with fail
  refine (iWord_any _ _ _ xs 4 _ HN.out (range_rd hS) HB.out (by omega) hc (by omega)).mono ?_
  rintro e wx ⟨rfl, rfl⟩
  rw [HW4.out]
  have hS' := hS
  clear hS
  refine hK.out _ _ hS' (fun hS => ?_)
  clear hK K hS'
  try simp only [Act.put, List.setIfInBounds_toArray, List.set_cons_zero, List.set_cons_succ]
  refine wpAnyH_ready (rs := [31]) (by kernel_rfl) (by simp) (AllReadyH.cons rfl (fun K hK => ?_) AllReadyH.nil)
  rw [if_pos (by rfl)]
  go_wp2_with fail
  refine (iClone_any _ _ _ (xs.drop 20) _ (by rw [List.length_drop, HN.out]) HSL.out.drw (by omega)).mono ?_
  rintro e w2 ⟨a2, n2, c2, rfl, hown, hb2⟩
  have hra := range_kept hb2 hS
  have HO2 := Lib.hid hown
  have HB2 := Lib.hid (undrew hb2)
  clear hb2 hown
  clear hS
  refine hK.out _ _ hra (fun hS => ?_)
  clear hK K
  refine tk 32 38 (.agg (hdOf xs a2 n2 c2).cs.toArray) rfl rfl (by kernel_rfl) (by kernel_rfl) (by kernel_rfl) (fun _ _ _ h => h) (yields_build (by rfl) _ _ rfl ?_) hS ?_
  · rw [HFIN.out a2 n2 c2]
    exact builtH ⟨xs.getD 1 0, W2, W4, D, M, G, xs.getD 8 0, xs.getD 9 0, (xs.drop 12).take 4, (xs.drop 16).take 4, a2, n2, c2, xs.drop 20⟩ HL1.out HL2.out
  try simp only [Act.put, List.setIfInBounds_toArray, List.set_cons_zero, List.set_cons_succ]
  refine wpAnyH_ready (rs := [33]) (by kernel_rfl) (by simp) (AllReadyH.cons rfl (fun K hK => ?_) AllReadyH.nil)
  rw [if_pos (by rfl)]
  have HLN : Hid ((hdOf xs a2 n2 c2).cs.length = 17) := by show _ = 17; have := HN.out; simp [Hd.cs, bv, hdOf]; omega
  have HLE : (hdOf xs a2 n2 c2).cs.toArray.size = 17 := by rw [List.size_toArray]; exact HLN.out
  refine wp_store_mid 26 _ _ rfl w.heap.size 0 (hdOf xs a2 n2 c2).cs.toArray rfl rfl ?_ ?_ (all_oneCell_toArray (Hd.one _)) ?_
  · rw [HLE]; exact (there_kept HB2.out HTH.out)
  · rw [HLE]; exact infH
  have hrz : (w2.setCells w.heap.size 0 (hdOf xs a2 n2 c2).cs).rangeAt bb oo (bv xs) := World.rangeAt_setCells_apart hra _ _ _ (.inl (by have := HLT.out; omega))
  clear hS
  refine hK.out _ _ hrz (fun hS => ?_)
  clear hK K
  refine wpAnyH_done (by kernel_rfl) ?_ _
  go_wp2_with fail
  refine bodyPost_ret (v := .agg (hdOf xs a2 n2 c2).cs.toArray) (ret_mid Try.results39 _ _ _ _ (hdOf xs a2 n2 c2).cs _ rfl (World.rangeAt_setCells_same _ _ _ _ ?_) Try.underlying26 rfl ?_) rfl ⟨a2, n2, c2, rfl, ?_, ?_⟩
  · rw [HLN.out]; exact (there_kept HB2.out HTH.out)
  · rw [HLN.out]; exact infH
  · have h1 : Own w2 wA.heap.size a2 n2 c2 (xs.drop 20) := HO2.out
    have h2 : wA.heap.size = w.heap.size + 1 := HSZ.out
    exact (h1.keep (S := fun k => k = w.heap.size) (Kept.setCells _ _ _ _ (Kept.refl _ _)) (fun k hk e => by have := (h1.blk_ge k hk).1; omega)).mono (by omega)
  · exact Below.setCells (HBA.out.trans (HB2.out.mono (by have := HSZ.out; omega))) _ (Nat.le_refl _) _ _
end Go.Proofs.Ytjnbnjdajkhkpaa

/-
  Contracts of the document's own functions on addresses: Right, group, run, Cmp. Conditions: sixteen bytes.
-/
import Derived.Test.YtbnfmiopgjmppaaDoorAdR1
namespace Go.Proofs.YtbnfmiopgjmppaaDoor
open Go.RowKit

/-- An address of the document's lies there. -/
def Ab (w : World) (g : Nat) (s : Bool) (xs : List Int) : Prop := w.heap[g]? = some (.cells (adl s xs).toArray 27 (0, 0))
section
variable {w w' : World} {g : Nat} {s : Bool} {xs : List Int}
theorem Ab.new (w : World) (s : Bool) (xs : List Int) : Ab (w.alloc (.cells (adl s xs).toArray 27)) w.heap.size s xs := Blk_new _ _ _
theorem Ab.six (h : Ab w g s xs) : w.cell? ⟨g, 0, none⟩ = some (.bool s) := by rw [cell_of_row w g 0 _ _ (0, 0) h]; rfl
theorem Ab.at_ (h : Ab w g s xs) {j : Nat} (hj : j < xs.length) : w.cell? ⟨g, 1 + j, none⟩ = some (.int .u8 (xs.getD j 0)) := by
  rw [cell_of_row w g (1 + j) _ _ (0, 0) h]
  simp [adl, bv, Nat.add_comm 1 j, hj]
theorem Ab.keep {S : Nat → Prop} (h : Ab w g s xs) (k : Kept S w w') (hs : ¬ S g) : Ab w' g s xs := k.heap h hs
theorem Ab.below (h : Ab w g s xs) (k : Below w.heap.size w w') : Ab w' g s xs := h.keep (S := fun _ => False) (Kept.of_below k (fun i hi hi' => by omega)) id
theorem Ab.range (h : Ab w g s xs) : w.rangeAt g 0 (adl s xs) := fun j v hv => by
  rw [cell_of_row w g (0 + j) _ _ (0, 0) h]; simpa using hv
end
/-- No other bytes behind four. -/
def rgR (s : Bool) (xs : List Int) : Bool := s || decide (∀ j : Fin 16, 4 ≤ j.val → xs.getD j.val 0 = 0)

set_option maxRecDepth 100000 in
set_option maxHeartbeats 2000000 in
theorem r4Right_any (s : Bool) (xs : List Int) (w : World) (hl : xs.length = 16) : Calls Tryd.prog 13 #[.agg (adl s xs).toArray] w (Gives w (.bool (rgR s xs))) := by
  have HA : Hid (∀ wz, w.alloc (.cells (adl s xs).toArray 27) = wz → Ab wz w.heap.size s xs ∧ Below w.heap.size w wz) := by
    rintro wz rfl
    exact ⟨Ab.new _ _ _, (Below.refl _ _).alloc (Nat.le_refl _) _⟩
  have HL := Lib.hid hl
  clear hl
  go_enter Tryd.func13, Tryd.ntmps13
  go_wp2_with fail
  obtain ⟨wz, hwz⟩ : ∃ z, w.alloc (.cells (adl s xs).toArray 27) = z := ⟨_, rfl⟩
  have HZ := Lib.hid (HA.out wz hwz)
  rw [hwz]
  clear hwz HA
  go_loopw [3] (fun i_ wr => ∃ k : Nat, 4 ≤ k ∧ k ≤ 16 ∧ i_ = .int .i64 k ∧ Hid (s = true ∨ ∀ j, j < k → 4 ≤ j → xs.getD j 0 = 0) ∧ wr = wz) (fun i_ => fun _ => 16 - (intOf i_).toNat)
  case atStart => exact ⟨4, Nat.le_refl _, by omega, rfl, .inr (fun j h1 h2 => by omega), rfl⟩
  case round =>
    obtain ⟨k, hk4, hk, rfl, hq, rfl⟩ := hrel
    by_cases hlt : k < 16
    · have c0 := HZ.out.1.six
      have ck := HZ.out.1.at_ (j := k) (by rw [HL.out]; exact hlt)
      cases s with
      | true =>
        have hlt2 : (k : Int) < 16 := by omega
        go_wp2_with fail
        go_roundw
        case rel => exact ⟨k + 1, by omega, by omega, by go_num, Or.inl (by first | rfl | trivial), by first | rfl | trivial⟩
        case measure => simp [intOf]; omega
      | false =>
        have hlt2 : (k : Int) < 16 := by omega
        obtain ⟨x, hx⟩ : ∃ x, xs.getD k 0 = x := ⟨_, rfl⟩
        have HX := Lib.hid hx
        rw [hx] at ck
        by_cases h0 : x = 0
        · have hne : (x != 0) = false := by simp [h0]
          clear hx
          go_wp2_with fail
          go_roundw
          case rel =>
            refine ⟨k + 1, by omega, by omega, by go_num, .inr (fun j h1 h2 => ?_), by first | rfl | trivial⟩
            by_cases e : j = k
            · rw [e, HX.out, h0]
            · rcases hq.out with h | h
              · cases h
              · exact h j (by omega) h2
          case measure => simp [intOf]; omega
        · have hne : (x != 0) = true := by simp [h0]
          have HF : Hid (rgR false xs = false) := by
            show _ = _
            rw [rgR, Bool.false_or, decide_eq_false]
            intro h
            exact h0 (by rw [← HX.out]; exact h ⟨k, by omega⟩ hk4)
          clear hx
          go_wp2_with fail
          go_ret
          exact ⟨by rw [HF.out]; rfl, HZ.out.2⟩
    · obtain rfl : k = 16 := by omega
      have HT : Hid (rgR s xs = true) := by
        show _ = _
        rw [rgR]
        rcases hq.out with h | h
        · rw [h]; rfl
        · rw [decide_eq_true (fun j : Fin 16 => h j.val j.isLt), Bool.or_true]
      clear hq
      go_wp2_with fail
      go_ret
      exact ⟨by rw [HT.out]; rfl, HZ.out.2⟩

/-- One of the eight groups. -/
def grp (xs : List Int) (i : Nat) : Int := xs.getD (2 * i) 0 * 256 + xs.getD (2 * i + 1) 0
set_option maxRecDepth 100000 in
set_option maxHeartbeats 2000000 in
theorem r4group_any (s : Bool) (xs : List Int) (i : Nat) (w : World) (hl : xs.length = 16) (hb : Byt xs) (hi : i < 8) : Calls Tryd.prog 41 #[.agg (adl s xs).toArray, .int .i64 i] w (Gives w (.int .i64 (grp xs i))) := by
  have HA : Hid (∀ wz, w.alloc (.cells (adl s xs).toArray 27) = wz → Ab wz w.heap.size s xs ∧ Below w.heap.size w wz) := by
    rintro wz rfl
    exact ⟨Ab.new _ _ _, (Below.refl _ _).alloc (Nat.le_refl _) _⟩
  have hx := hb.get (2 * i)
  have hy := hb.get (2 * i + 1)
  have HG : Hid (grp xs i = xs.getD (2 * i) 0 * 256 + xs.getD (2 * i + 1) 0) := rfl
  go_enter Tryd.func41, Tryd.ntmps41
  go_wp2_with fail
  obtain ⟨wz, hwz⟩ : ∃ z, w.alloc (.cells (adl s xs).toArray 27) = z := ⟨_, rfl⟩
  have HZ := Lib.hid (HA.out wz hwz)
  rw [hwz]
  have c1 := HZ.out.1.at_ (j := 2 * i) (by omega)
  have c2 := HZ.out.1.at_ (j := 2 * i + 1) (by omega)
  clear hwz HA
  obtain ⟨x, hxx⟩ : ∃ x, xs.getD (2 * i) 0 = x := ⟨_, rfl⟩
  obtain ⟨y, hyy⟩ : ∃ y, xs.getD (2 * i + 1) 0 = y := ⟨_, rfl⟩
  rw [hxx] at c1 hx HG
  rw [hyy] at c2 hy HG
  obtain ⟨hx0, hx1⟩ := hx
  obtain ⟨hy0, hy1⟩ := hy
  clear hxx hyy hb hl
  obtain ⟨j, hj⟩ : ∃ j, 2 * i = j := ⟨_, rfl⟩
  rw [hj] at c1 c2
  have e1 : IntKind.i64.wrap (2 * (i : Int)) = (j : Int) := by rw [IntKind.wrap_i64]; omega
  have e2 : IntKind.i64.wrap ((j : Int) + 1) = ((j + 1 : Nat) : Int) := by rw [IntKind.wrap_i64]; omega
  have q1 : (j : Int) < 16 := by omega
  have q2 : ((j + 1 : Nat) : Int) < 16 := by omega
  clear hj
  go_quiet (fail)
  go_wp2_with fail
  go_ret
  exact ⟨by rw [HG.out]; rfl, HZ.out.2.trans ⟨rfl, rfl, rfl, Nat.le_refl _, fun _ _ => rfl⟩⟩

/-- All eight. -/
def gN (xs : List Int) : List Nat := (List.range 8).map fun i => (grp xs i).toNat
theorem gN_len (xs : List Int) : (gN xs).length = 8 := by simp [gN]
theorem gN_get (xs : List Int) {i : Nat} (h : i < 8) : (gN xs)[i]? = some (grp xs i).toNat := by simp [gN, h]
theorem grp_fit {xs : List Int} (hb : Byt xs) (i : Nat) : 0 ≤ grp xs i ∧ grp xs i < 65536 := by
  have h1 := hb.get (2 * i)
  have h2 := hb.get (2 * i + 1)
  unfold grp
  omega
theorem gN_lt {xs : List Int} (hb : Byt xs) : ∀ g ∈ gN xs, g < 65536 := by
  intro g hg
  obtain ⟨i, _, rfl⟩ := List.mem_map.1 hg
  have := grp_fit hb i
  omega
theorem zr_here {xs : List Int} (hb : Byt xs) {i : Nat} (h : i < 8) : zr (gN xs) i = if grp xs i = 0 then zr (gN xs) (i + 1) + 1 else 0 := by
  rw [zr_step, gN_get xs h]
  have := grp_fit hb i
  simp only
  by_cases e : grp xs i = 0
  · rw [if_pos (by omega), if_pos e]
  · rw [if_neg (by omega), if_neg e]
theorem zr_end (xs : List Int) : zr (gN xs) 8 = 0 := by
  unfold zr
  rw [List.drop_of_length_le (by rw [gN_len]; exact Nat.le_refl _)]
  rfl
section
variable {ops : Array Oper} {rest : List Oper} {o : Oper} {a : Act} {w : World} {Q : Exit → Act → World → Prop}
theorem ldRg (x : Operand) (ho : o.op = .load 27 x) (hw : Region.wanted o (yielded ops a.tmps) = true) (b off : Nat) (hx : a.eval x = .pointer (some ⟨b, off, none⟩)) (s : Bool) (xs : List Int) (hl : xs.length = 16) (hc : w.rangeAt b off (adl s xs))
    (k : wpList Tryd.prog ops Q rest (a.put o.dst (.agg (adl s xs).toArray)) w) : wpList Tryd.prog ops Q (o :: rest) a w :=
  wpList_step fun K hK => by rw [if_pos hw]; exact wp_load_mid _ x ho b off hx (adl s xs) _ hc Tryd.underlying27 rfl (by rw [adl_len s xs hl]; exact infR) (hK _ _ k)
end
set_option maxRecDepth 100000 in
set_option maxHeartbeats 2000000 in
theorem r4run_any (s : Bool) (xs : List Int) (i : Nat) (w : World) (hl : xs.length = 16) (hb : Byt xs) (hi : i ≤ 8) : Calls Tryd.prog 40 #[.agg (adl s xs).toArray, .int .i64 i] w (Gives w (.int .i64 (zr (gN xs) i : Nat))) := by
  have HA : Hid (∀ wz, w.alloc (.cells (adl s xs).toArray 27) = wz → Ab wz w.heap.size s xs ∧ Below w.heap.size w wz) := by
    rintro wz rfl
    exact ⟨Ab.new _ _ _, (Below.refl _ _).alloc (Nat.le_refl _) _⟩
  have HL := Lib.hid hl
  have HB := Lib.hid hb
  clear hl hb
  go_enter Tryd.func40, Tryd.ntmps40
  go_wp2_with fail
  obtain ⟨wz, hwz⟩ : ∃ z, w.alloc (.cells (adl s xs).toArray 27) = z := ⟨_, rfl⟩
  have HZ := Lib.hid (HA.out wz hwz)
  rw [hwz]
  clear hwz HA
  obtain ⟨g, hg⟩ : ∃ g, w.heap.size = g := ⟨_, rfl⟩
  rw [hg] at HZ ⊢
  have HG := Lib.hid hg
  clear hg
  go_loopw [5] (fun n_ wr => ∃ k : Nat, i + k ≤ 8 ∧ n_ = .int .i64 k ∧ Hid (zr (gN xs) i = k + zr (gN xs) (i + k)) ∧ Hid (Ab wr g s xs ∧ Below g w wr)) (fun n_ => fun _ => 8 - i - (intOf n_).toNat)
  case atStart => exact ⟨0, hi, rfl, (Nat.zero_add _).symm, HZ.out⟩
  case round =>
    obtain ⟨k, hk, rfl, hq, hw⟩ := hrel
    clear HZ
    have e1 : IntKind.i64.wrap ((i : Int) + (k : Int)) = ((i + k : Nat) : Int) := by rw [IntKind.wrap_i64]; omega
    by_cases hlt : i + k < 8
    · have hlt2 : ((i + k : Nat) : Int) < 8 := by omega
      have hz := zr_here HB.out hlt
      obtain ⟨v, hv⟩ : ∃ v, grp xs (i + k) = v := ⟨_, rfl⟩
      rw [hv] at hz
      have HV := Lib.hid hv
      have HZR := Lib.hid hz
      obtain ⟨j, hj⟩ : ∃ j, i + k = j := ⟨_, rfl⟩
      rw [hj] at e1 hlt2 hlt
      have HJ := Lib.hid hj
      clear hv hz hj
      go_wp2_with (refine ldRg (.tmp 2) rfl (by rfl) g 0 rfl s xs HL.out (by with_reducible exact hw.out.1.range) ?_)
      refine (r4group_any s xs j _ HL.out HB.out hlt).mono ?_
      rintro e w1 ⟨rfl, hb1⟩
      have hvj : grp xs j = v := by rw [← HJ.out]; exact HV.out
      rw [hvj]
      have HW1 : Hid (Ab w1 g s xs ∧ Below g w w1) := ⟨hw.out.1.below hb1, hw.out.2.trans (hb1.mono (by have := hw.out.1; exact Nat.le_of_lt (Array.getElem?_eq_some_iff.1 this).1))⟩
      clear hb1 hvj
      by_cases h0 : v = 0
      · have hne : (v == 0) = true := by simp [h0]
        have HNX : Hid (zr (gN xs) i = (k + 1) + zr (gN xs) (i + (k + 1))) := by show _ = _; rw [hq.out, HZR.out, if_pos h0, show i + (k + 1) = i + k + 1 by omega]; omega
        go_wp2_with fail
        go_roundw
        case rel => exact ⟨k + 1, by have := HJ.out; omega, by go_num, HNX, HW1⟩
        case measure => have := HJ.out; simp [intOf]; omega
      · have hne : (v == 0) = false := by simp [h0]
        have HNX : Hid (zr (gN xs) i = k) := by show _ = _; rw [hq.out, HZR.out, if_neg h0]; omega
        go_wp2_with fail
        go_ret
        exact ⟨by rw [HNX.out]; rfl, by rw [HG.out]; exact HW1.out.2⟩
    · have hlt2 : ¬ ((i + k : Nat) : Int) < 8 := by omega
      have HNX : Hid (zr (gN xs) i = k) := by show _ = _; rw [hq.out, show i + k = 8 by have := hlt; omega, zr_end]; exact Nat.add_zero k
      obtain ⟨j, hj⟩ : ∃ j, i + k = j := ⟨_, rfl⟩
      rw [hj] at e1 hlt2
      clear hq hj
      go_wp2_with fail
      go_ret
      exact ⟨by rw [HNX.out]; rfl, by rw [HG.out]; exact hw.out.2⟩
end Go.Proofs.YtbnfmiopgjmppaaDoor

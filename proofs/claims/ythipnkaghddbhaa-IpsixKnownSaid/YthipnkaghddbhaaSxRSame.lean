/-
  The contract of the document's own Same for layer 6. Conditions: chains that lie in memory.
-/
import Derived.Test.YthipnkaghddbhaaSxDCh
import Derived.BigQuiet
namespace Go.Proofs.Ythipnkaghddbhaa
open Go.RowKit

theorem str_eqb {xs ys : List Int} (hx : Byt xs) (hy : Byt ys) : ((str xs).toList == (str ys).toList) = decide (xs = ys) := by
  rw [Bool.eq_iff_iff, beq_iff_eq, decide_eq_true_eq, str_list, str_list]
  exact ⟨ub_inj hx hy, fun h => by rw [h]⟩
/-- Are two chains the same, as the document has them? -/
def smR (es fs : List (Int × List Int)) (p q : Int) : Bool := decide (es = fs) && decide (p = q)
set_option maxRecDepth 100000 in
set_option maxHeartbeats 2000000 in
theorem r6Same_any (a b : Option Addr) (n c m d : Nat) (es fs : List (Int × List Int)) (p q : Int) (w : World) (hx : ChR w a n c es) (hy : ChR w b m d fs) :
    Calls Try.prog 26 #[.agg #[.slice a n c, .int .u8 p], .agg #[.slice b m d, .int .u8 q]] w (Gives w (.bool (smR es fs p q))) := by
  have HX := Lib.hid hx
  have HY := Lib.hid hy
  have HLX := Lib.hid hx.len
  have HLY := Lib.hid hy.len
  have hnm : n ≤ 9223372036854775807 := by have h1 := hx.cap; have h2 := hx.max; unfold maxLen at h2; omega
  have hmm : m ≤ 9223372036854775807 := by have h1 := hy.cap; have h2 := hy.max; unfold maxLen at h2; omega
  have hcn : n ≤ c := hx.cap
  have hcm : m ≤ d := hy.cap
  obtain ⟨wA, hwA⟩ : ∃ x, w.alloc (.cells #[.slice a n c, .int .u8 p] 50) = x := ⟨_, rfl⟩
  have hbA : Below w.heap.size w wA := by rw [← hwA]; exact (Below.refl _ _).alloc (Nat.le_refl _) _
  have hsA : wA.heap.size = w.heap.size + 1 := by rw [← hwA]; simp
  obtain ⟨wB, hwB⟩ : ∃ x, wA.alloc (.cells #[.slice b m d, .int .u8 q] 50) = x := ⟨_, rfl⟩
  have hbB : Below wA.heap.size wA wB := by rw [← hwB]; exact (Below.refl _ _).alloc (Nat.le_refl _) _
  have hA0 : wA.cell? ⟨w.heap.size, 0, none⟩ = some (.slice a n c) := by rw [← hwA]; exact World.cell?_alloc_new _ _ _ _
  have hA1 : wA.cell? ⟨w.heap.size, 1, none⟩ = some (.int .u8 p) := by rw [← hwA]; exact World.cell?_alloc_new _ _ _ _
  have hB0 : wB.cell? ⟨w.heap.size + 1, 0, none⟩ = some (.slice b m d) := by rw [← hwB, ← hsA]; exact World.cell?_alloc_new _ _ _ _
  have hB1 : wB.cell? ⟨w.heap.size + 1, 1, none⟩ = some (.int .u8 q) := by rw [← hwB, ← hsA]; exact World.cell?_alloc_new _ _ _ _
  have hA0' := cell_kept hbB hA0
  have hA1' := cell_kept hbB hA1
  have HB : Hid (Below w.heap.size w wB) := hbA.trans (hbB.mono hbA.size)
  have HW := Lib.hid hwA
  have HWB := Lib.hid hwB
  clear hx hy hbA hbB hA0 hA1 hwA hwB
  go_enter Try.func26, Try.ntmps26
  go_upto_region 1 with fail
  rw [HW.out, ← hsA, HWB.out, hsA]
  clear HW HWB hsA
  by_cases hl : n = m
  · subst hl
    have HT0 : Hid (es.take 0 = fs.take 0 ∧ ∃ k, wB = wB.drewN k) := ⟨rfl, 0, rfl⟩
    go_wp2_with fail
    go_loopw [5] (fun i wr => ∃ j : Nat, j ≤ n ∧ i = .int .i64 j ∧ Hid (es.take j = fs.take j ∧ ∃ k, wr = wB.drewN k)) (fun i _ => n - (intOf i).toNat)
    case atStart => exact ⟨0, Nat.zero_le _, rfl, HT0.out⟩
    case round =>
      obtain ⟨j, hj, rfl, hst⟩ := hrel
      rename World => wr
      clear HT0
      obtain ⟨htk, nq0, hwr⟩ := hst.out
      have HTK := Lib.hid htk
      have HWR := Lib.hid hwr
      clear hst htk
      by_cases hlt : j < n
      · have hlt' : (j : Int) < (n : Int) := by omega
        obtain ⟨⟨k, xs⟩, hx⟩ : ∃ x, es[j]? = some x := ⟨_, List.getElem?_eq_getElem (by rw [HLX.out]; exact hlt)⟩
        obtain ⟨⟨l, ys⟩, hy⟩ : ∃ x, fs[j]? = some x := ⟨_, List.getElem?_eq_getElem (by rw [HLY.out]; exact hlt)⟩
        obtain ⟨b1, o1, rfl, _, hcl1⟩ := HX.out.nth hx
        obtain ⟨b2, o2, rfl, _, hcl2⟩ := HY.out.nth hy
        have hbr : Below w.heap.size w wr := by rw [hwr]; exact below_drewN HB.out nq0
        obtain ⟨hx0, hx1⟩ := hcl1 wr hbr
        obtain ⟨hy0, hy1⟩ := hcl2 wr hbr
        have hz0 : wr.cell? ⟨w.heap.size, 0, none⟩ = some (.slice (some ⟨b1, o1, none⟩) n c) := by rw [hwr]; exact hA0'
        have hz1 : wr.cell? ⟨w.heap.size + 1, 0, none⟩ = some (.slice (some ⟨b2, o2, none⟩) n d) := by rw [hwr]; exact hB0
        have hbx := (HX.out.ok _ (List.mem_of_getElem? hx)).2.1
        have hby := (HY.out.ok _ (List.mem_of_getElem? hy)).2.1
        have HSE := Lib.hid (str_eqb hbx hby)
        have HMX := Lib.hid hx
        have HMY := Lib.hid hy
        clear hcl1 hcl2 hbr hx hy hbx hby hwr
        have hcj : (j : Int) < (n : Int) := hlt'
        by_cases hk : k = l
        · subst hk
          by_cases hxy : xs = ys
          · subst hxy
            have HTN : Hid (es.take (j + 1) = fs.take (j + 1)) := take_step HTK.out HMX.out HMY.out rfl
            go_wp2_with fail
            go_quiet (fail)
            go_wp2_with fail
            go_roundw
            case rel => exact ⟨j + 1, by omega, by go_num, HTN.out, nq0 + nq, by rw [HWR.out, World.drewN_drewN]⟩
            case measure => simp [intOf]; omega
          · have HF : Hid (smR es fs p q = false) := by
              show _ = _
              unfold smR
              rw [decide_eq_false (fun e => hxy (by have h1 := HMX.out; rw [e, HMY.out] at h1; exact (Prod.mk.inj (Option.some.inj h1)).2.symm))]
              rfl
            have hse := HSE.out
            rw [decide_eq_false hxy] at hse
            obtain ⟨S1, hS1⟩ : ∃ y, str xs = y := ⟨_, rfl⟩
            obtain ⟨S2, hS2⟩ : ∃ y, str ys = y := ⟨_, rfl⟩
            rw [hS1] at hx1 hse
            rw [hS2] at hy1 hse
            clear hS1 hS2
            go_wp2_with fail
            go_quiet (fail)
            go_wp2_with fail
            go_ret
            exact ⟨by rw [HF.out]; rfl, by rw [HWR.out, World.drewN_drewN]; exact below_drewN HB.out _⟩
        · have HF : Hid (smR es fs p q = false) := by
            show _ = _
            unfold smR
            rw [decide_eq_false (fun e => hk (by have h1 := HMX.out; rw [e, HMY.out] at h1; exact (Prod.mk.inj (Option.some.inj h1)).1.symm))]
            rfl
          have hkb : (k == l) = false := by simpa using hk
          go_wp2_with fail
          go_quiet (fail)
          go_wp2_with fail
          go_ret
          exact ⟨by rw [HF.out]; rfl, by rw [HWR.out, World.drewN_drewN]; exact below_drewN HB.out _⟩
      · obtain rfl : j = n := by omega
        have HE : Hid (es = fs) := by
          have h1 := HTK.out
          rwa [List.take_of_length_le (by rw [HLX.out]; exact Nat.le_refl _), List.take_of_length_le (by rw [HLY.out]; exact Nat.le_refl _)] at h1
        have hz0 : wr.cell? ⟨w.heap.size, 0, none⟩ = some (.slice a j c) := by rw [hwr]; exact hA0'
        have hz1 : wr.cell? ⟨w.heap.size, 1, none⟩ = some (.int .u8 p) := by rw [hwr]; exact hA1'
        have hz2 : wr.cell? ⟨w.heap.size + 1, 1, none⟩ = some (.int .u8 q) := by rw [hwr]; exact hB1
        have HF : Hid (smR es fs p q = (p == q)) := by
          show _ = _
          unfold smR
          rw [decide_eq_true HE.out, Bool.true_and]
          rfl
        clear hwr
        go_wp2_with fail
        go_ret
        exact ⟨by rw [HF.out]; rfl, by rw [HWR.out]; exact below_drewN HB.out _⟩
  · have HF : Hid (smR es fs p q = false) := by
      show _ = _
      unfold smR
      rw [decide_eq_false (fun e => hl (by rw [← HLX.out, ← HLY.out, e]))]
      rfl
    have hb : ((n : Int) != (m : Int)) = true := by simp; omega
    go_wp2_with fail
    go_ret
    exact ⟨by rw [HF.out]; rfl, HB.out⟩
end Go.Proofs.Ythipnkaghddbhaa

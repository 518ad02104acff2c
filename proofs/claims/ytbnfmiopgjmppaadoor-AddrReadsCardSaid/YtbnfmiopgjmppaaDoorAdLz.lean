/-
  The contract of longestZeros. Condition: eight groups below 65536.
-/
import Derived.Test.YtbnfmiopgjmppaaDoorAdGr
import Derived.WalkMore
namespace Go.Proofs.YtbnfmiopgjmppaaDoor
open Go.RowKit

/-- What the inner loop knows: the row begun, and the longest one till now. -/
def LzI (gs : List Nat) (s e F T : Nat) : Prop := s ≤ e ∧ e ≤ 8 ∧ zr gs s = (e - s) + zr gs e ∧ F ≤ T ∧ T ≤ 8 ∧
  (((lz gs s).2 - (lz gs s).1 < e - s ∧ F = s ∧ T = e) ∨ (e - s ≤ (lz gs s).2 - (lz gs s).1 ∧ F = (lz gs s).1 ∧ T = (lz gs s).2))
/-- What the outer loop knows. -/
def LzO (gs : List Nat) (s F T : Nat) : Prop := lz gs s = (F, T) ∧ F ≤ T ∧ T ≤ 8
theorem LzO.zero (gs : List Nat) : LzO gs 0 0 0 := ⟨rfl, Nat.le_refl _, by omega⟩
theorem LzO.begin_ {gs : List Nat} {s F T : Nat} (h : LzO gs s F T) (hs : s ≤ 8) : LzI gs s s F T := by
  obtain ⟨h1, h2, h3⟩ := h
  refine ⟨Nat.le_refl _, hs, by omega, h2, h3, .inr ⟨by omega, ?_, ?_⟩⟩
  · rw [h1]
  · rw [h1]
theorem LzI.done {gs : List Nat} {s e F T : Nat} (h : LzI gs s e F T) (hz : zr gs e = 0) : LzO gs (s + 1) F T := by
  obtain ⟨h1, h2, h3, h4, h5, h6⟩ := h
  refine ⟨?_, h4, h5⟩
  rw [hz] at h3
  rw [lz]
  rcases h6 with ⟨a, b, c⟩ | ⟨a, b, c⟩
  · rw [if_pos (by omega), b, c, h3]
    congr 1
    omega
  · rw [if_neg (by omega), b, c]
theorem LzI.yes {gs : List Nat} {s e F T : Nat} (h : LzI gs s e F T) (hz : gs[e]? = some 0) (he : e < 8) (hc : T - F < e + 1 - s) : LzI gs s (e + 1) s (e + 1) := by
  obtain ⟨h1, h2, h3, h4, h5, h6⟩ := h
  have h7 := zr_step gs e
  rw [hz] at h7
  simp at h7
  refine ⟨by omega, by omega, by omega, by omega, by omega, .inl ⟨?_, rfl, rfl⟩⟩
  rcases h6 with ⟨a, b, c⟩ | ⟨a, b, c⟩ <;> omega
theorem LzI.no {gs : List Nat} {s e F T : Nat} (h : LzI gs s e F T) (hz : gs[e]? = some 0) (he : e < 8) (hc : e + 1 - s ≤ T - F) : LzI gs s (e + 1) F T := by
  obtain ⟨h1, h2, h3, h4, h5, h6⟩ := h
  have h7 := zr_step gs e
  rw [hz] at h7
  simp at h7
  refine ⟨by omega, by omega, by omega, h4, h5, .inr ?_⟩
  rcases h6 with ⟨a, b, c⟩ | ⟨a, b, c⟩
  · omega
  · exact ⟨by omega, b, c⟩
theorem zr_no {gs : List Nat} {e v : Nat} (h : gs[e]? = some v) (hv : v ≠ 0) : zr gs e = 0 := by
  have h7 := zr_step gs e
  rw [h] at h7
  simp [hv] at h7
  exact h7
theorem zr_at8 {gs : List Nat} (h : gs.length = 8) : zr gs 8 = 0 := by
  have := zr_le gs 8 (by omega)
  omega

set_option maxRecDepth 100000 in
set_option maxHeartbeats 4000000 in
theorem aLongest_any (gs : List Nat) (w : World) (hl : gs.length = 8) (hb : ∀ g ∈ gs, g < 65536) : Calls Tryd.prog 52 #[.agg (gv gs).toArray] w (Gives w (.tuple #[.int .i64 ((lz gs 8).1 : Nat), .int .i64 ((lz gs 8).2 : Nat)])) := by
  have HL := Lib.hid hl
  have HBy := Lib.hid hb
  clear hl hb
  go_enter Tryd.func52, Tryd.ntmps52
  go_wp2_with fail
  go_step3
  go_wp2_with fail
  go_step3
  go_wp2_with fail
  have HB0 : Hid (Bkv (w.alloc (.cells (gv gs).toArray 66)) w.heap.size 66 (gv gs)) := Bkv.new _ _ _
  have HBe : Hid (Below w.heap.size w (w.alloc (.cells (gv gs).toArray 66))) := bel1 _ _
  obtain ⟨w1, hw1⟩ : ∃ x, w.alloc (.cells (gv gs).toArray 66) = x := ⟨_, rfl⟩
  rw [hw1] at HB0 HBe ⊢
  clear hw1
  obtain ⟨g, hgg⟩ : ∃ g, w.heap.size = g := ⟨_, rfl⟩
  rw [hgg] at HB0 ⊢
  clear hgg
  go_loop [2, 3, 6] (fun vf vt vi => ∃ s F T : Nat, vf = .int .i64 (F : Int) ∧ vt = .int .i64 (T : Int) ∧ vi = .int .i64 (s : Int) ∧ s ≤ 8 ∧ Hid (LzO gs s F T)) (fun _ _ vi => 8 - (intOf vi).toNat)
  case atStart => exact ⟨0, 0, 0, rfl, rfl, rfl, by omega, LzO.zero gs⟩
  case round =>
    obtain ⟨s, F, T, rfl, rfl, rfl, hs, ho⟩ := hrel
    by_cases hlt : s < 8
    · have s8 : (s : Int) < 8 := by omega
      have HI := Lib.hid (ho.out.begin_ hs)
      clear ho
      go_wp2_with fail
      go_loop [2, 3, 5] (fun vf vt vi => ∃ e F T : Nat, vf = .int .i64 (F : Int) ∧ vt = .int .i64 (T : Int) ∧ vi = .int .i64 (e : Int) ∧ e ≤ 8 ∧ s ≤ e ∧ F ≤ T ∧ T ≤ 8 ∧ Hid (LzI gs s e F T)) (fun _ _ vi => 8 - (intOf vi).toNat)
      case atStart => exact ⟨s, F, T, rfl, rfl, rfl, by omega, Nat.le_refl _, HI.out.2.2.2.1, HI.out.2.2.2.2.1, HI⟩
      case round =>
        obtain ⟨e, F, T, rfl, rfl, rfl, he, hse, hFT, hT, hi⟩ := hrel
        clear HI
        by_cases hle : e < 8
        · have e8 : (e : Int) < 8 := by omega
          obtain ⟨v, hv⟩ : ∃ v, gs[e]? = some v := ⟨_, List.getElem?_eq_getElem (by rw [HL.out]; exact hle)⟩
          have hvl := HBy.out v (List.mem_of_getElem? hv)
          have hc : w1.cell? ⟨g, e, none⟩ = some (.int .u16 (v : Int)) := HB0.out.cell (by simp [gv, hv])
          by_cases hv0 : v = 0
          · subst hv0
            rw [show (((0 : Nat) : Int)) = 0 from rfl] at hc
            have k1 : IntKind.i64.wrap ((e : Int) + 1 - (s : Int)) = (e : Int) + 1 - s := by rw [IntKind.wrap_i64]; omega
            have k2 : IntKind.i64.wrap ((T : Int) - (F : Int)) = (T : Int) - F := by rw [IntKind.wrap_i64]; omega
            by_cases hcmp : T - F < e + 1 - s
            · have c1 : (T : Int) - F < (e : Int) + 1 - s := by omega
              have HN := Lib.hid (hi.out.yes hv hle hcmp)
              clear hi hv hvl hcmp
              go_wp2_with fail
              refine ⟨⟨e + 1, s, e + 1, rfl, rfl, rfl, by omega, by omega, by omega, by omega, HN⟩, by simp [intOf]; omega⟩
            · have c1 : (e : Int) + 1 - s ≤ (T : Int) - F := by omega
              have HN := Lib.hid (hi.out.no hv hle (by omega))
              clear hi hv hvl hcmp
              go_wp2_with fail
              refine ⟨⟨e + 1, F, T, rfl, rfl, rfl, by omega, by omega, by omega, by omega, HN⟩, by simp [intOf]; omega⟩
          · have hvi : ¬ ((v : Int) = 0) := by omega
            have HN := Lib.hid (hi.out.done (zr_no hv hv0))
            clear hi hv
            go_wp2_with fail
            refine ⟨⟨s + 1, F, T, rfl, rfl, rfl, by omega, HN⟩, by simp [intOf]; omega⟩
        · have HN : Hid (LzO gs (s + 1) F T) := by
            have h8 : e = 8 := by omega
            subst h8
            exact hi.out.done (zr_at8 HL.out)
          have e8 : ¬ ((e : Int) < 8) := by omega
          clear hi
          go_wp2_with fail
          refine ⟨⟨s + 1, F, T, rfl, rfl, rfl, by omega, HN⟩, by simp [intOf]; omega⟩
    · have HE : Hid (lz gs 8 = (F, T)) := by
        have h8 : s = 8 := by omega
        subst h8
        exact ho.out.1
      have s8 : ¬ ((s : Int) < 8) := by omega
      clear ho
      go_wp2_with fail
      go_ret2
      exact ⟨by rw [HE.out]; rfl, HBe.out⟩
end Go.Proofs.YtbnfmiopgjmppaaDoor

/-
  The library's variables as the addresses' functions need them, and the contract of number. Conditions: texts below 2 to the 48.
-/
import Derived.Test.YtbnfmiopgjmppaaDoorAdBytes
import Derived.Test.YtbnfmiopgjmppaaDoorAdT
import Derived.Test.YtbnfmiopgjmppaaDoorShelfA
import Derived.Lib.AtoiAllCases
import Derived.Lib.AppendIntMem
import Derived.Lib.AtoiErrMem
namespace Go.Proofs.YtbnfmiopgjmppaaDoor
open Go.RowKit

/-- The library's variables hold what they should. -/
structure Gl (w : World) : Prop where
  max : ∃ m, w.cell? ⟨0, 0, none⟩ = some (.int .i64 m)
  syn : ∃ te pe, w.cell? ⟨1, 0, none⟩ = some (.iface te pe)
  rng : ∃ te pe, w.cell? ⟨2, 0, none⟩ = some (.iface te pe)
  pow : Lib.TabIs Tryd.prog w "internal/strconv.uint64pow10" .u64 Lib.pow10Tab
  deb : w.cell? ⟨5, 15, none⟩ = some (.int .u8 4)
theorem Gl.below {w w' : World} (h : Gl w) (hb : Below w.heap.size w w') : Gl w' := by
  obtain ⟨⟨m, h1⟩, ⟨t2, p2, h2⟩, ⟨t3, p3, h3⟩, h4, h5⟩ := h
  refine ⟨⟨m, cell_kept hb h1⟩, ⟨t2, p2, cell_kept hb h2⟩, ⟨t3, p3, cell_kept hb h3⟩, ?_, cell_kept hb h5⟩
  unfold Lib.TabIs World.var? at h4 ⊢
  cases hg : Tryd.prog.globalNamed "internal/strconv.uint64pow10" with
  | none => rw [hg] at h4; simp at h4
  | some g =>
    rw [hg] at h4
    simp only [Option.bind_some] at h4 ⊢
    have hlt : g < w.heap.size := by
      rcases Nat.lt_or_ge g w.heap.size with e | e
      · exact e
      · rw [Array.getElem?_eq_none e] at h4; cases h4
    rw [hb.block g hlt]
    exact h4

/-- What number answers. -/
def NumR (w : World) (l : List UInt8) (e : Ending) (w' : World) : Prop :=
  ∃ v : Int, e = .returned (.tuple #[.int .i64 v, .bool (numS l).isSome]) ∧ (∀ u, numS l = some u → v = u) ∧ I64 v ∧ Below w.heap.size w w'

set_option maxRecDepth 100000 in
set_option maxHeartbeats 2000000 in
theorem aNumber_any (s : ByteArray) (w : World) (hg : Gl w) (hs : s.size ≤ 281474976710656) : Calls Tryd.prog 49 #[.string s] w (NumR w s.data.toList) := by
  have HG := Lib.hid hg
  have HS := Lib.hid hs
  clear hg hs
  cases ha : Lib.atoiAll s.data.toList
  case ok v =>
    have HA := Lib.hid ha
    obtain ⟨v0, v1⟩ := Lib.atoiAll_bounds ha
    clear ha
    go_enter Tryd.func49, Tryd.ntmps49
    go_wp2_with fail
    refine (Tryd.strconv_Atoi_ok s (by have := HS.out; omega) v HA.out _).mono ?_
    rintro e w1 ⟨rfl, hw⟩
    have HB1 : Hid (Below w.heap.size w w1) := by
      rcases hw with rfl | ⟨t, rfl⟩
      · exact Below.refl _ _
      · exact Lib.bytesWorld_below _ _ _
    clear hw
    go_wp2_with fail
    refine (Tryd.strconv_Itoa v v0 v1 _ (HG.out.below HB1.out).pow).mono ?_
    rintro e w2 ⟨rfl, k, os, rfl⟩
    have HB2 := Lib.hid (HB1.out.trans (Lib.below_grow w.heap.size w1 HB1.out.size k os))
    clear HB1
    by_cases he : Lib.itoa v = s.data.toList
    · have HN : Hid (numS s.data.toList = some v) := by show _ = _; unfold numS; rw [HA.out]; simp only [he, if_true]
      go_wp2_with fail
      go_ret2
      exact ⟨v, by rw [HN.out]; rfl, fun u hu => by rw [HN.out] at hu; exact Option.some.inj hu, ⟨v0, v1⟩, HB2.out⟩
    · have HN : Hid (numS s.data.toList = none) := by show _ = _; unfold numS; rw [HA.out]; simp only [he, if_false]
      have hq : (Lib.itoa v == s.toList) = false := by rw [ByteArray.toList_eq]; simpa using he
      go_wp2_with fail
      go_ret2
      exact ⟨v, by rw [HN.out]; rfl, fun u hu => (by rw [HN.out] at hu; cases hu), ⟨v0, v1⟩, HB2.out⟩
  · have HN : Hid (numS s.data.toList = none) := by unfold numS; rw [ha]; rfl
    have HA := Lib.hid ha
    obtain ⟨te, pe, hc⟩ := HG.out.syn
    have HC := Lib.hid hc
    clear ha hc
    go_enter Tryd.func49, Tryd.ntmps49
    go_wp2_with fail
    refine (Tryd.strconv_Atoi_syntax s HS.out (fun v e => by rw [HA.out] at e; cases e) (fun e => by rw [HA.out] at e; cases e) _ _ HC.out (.inr ⟨te, pe, rfl⟩)).mono ?_
    rintro e w1 ⟨N, rfl, _, _, hb⟩
    have HB := Lib.hid hb
    clear hb
    go_wp2_with fail
    go_ret2
    exact ⟨0, by rw [HN.out]; rfl, fun u hu => (by rw [HN.out] at hu; cases hu), ⟨by omega, by omega⟩, HB.out⟩
  · have HN : Hid (numS s.data.toList = none) := by unfold numS; rw [ha]; rfl
    have HA := Lib.hid ha
    obtain ⟨te, pe, hc⟩ := HG.out.rng
    have HC := Lib.hid hc
    clear ha hc
    go_enter Tryd.func49, Tryd.ntmps49
    go_wp2_with fail
    refine (Tryd.strconv_Atoi_range s HS.out HA.out _ _ HC.out (.inr ⟨te, pe, rfl⟩)).mono ?_
    rintro e w1 ⟨N, rfl, _, _, hb⟩
    have HB := Lib.hid hb
    have HV : Hid (I64 (Lib.atoiSat s.data.toList)) := by unfold Lib.atoiSat; (repeat' split) <;> exact ⟨by omega, by omega⟩
    obtain ⟨z, hz⟩ : ∃ z, Lib.atoiSat s.data.toList = z := ⟨_, rfl⟩
    rw [hz] at HV ⊢
    clear hb hz
    go_wp2_with fail
    go_ret2
    exact ⟨z, by rw [HN.out]; rfl, fun u hu => (by rw [HN.out] at hu; cases hu), HV.out, HB.out⟩
end Go.Proofs.YtbnfmiopgjmppaaDoor

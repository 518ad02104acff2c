/-
  How an argument that is rows of rows of bytes is opened. Conditions: those that the theorem names.
-/
import Derived.Test.YtpbopghnoinlbaaSumRows
import Derived.Deep.Matrix
namespace Go.Proofs.Ytpbopghnoinlbaa
open Go.ChangeShapes Go.WideShapes Go.ChangeAt Go.RowKit

theorem open_rows {H : Type} {enc : TypeId × Value → H} {w : World} {held : Bool} {fuel : Nat} {a : Option Addr} {n cap : Nat} {x : DataW H × List MemPlace}
    (h : DataW.trod enc Try.prog w 0 (fun _ => true) held fuel 22 [.slice a n cap] = some x) : ∃ l : List Row, l.length = n ∧ n ≤ cap ∧ cap ≤ maxLen ∧ RdR w a l := by
  rcases Go.Deep.open_int_rows Try.underlying22 Try.underlying24 Try.underlying5 (by kernel_rfl) (by kernel_rfl) h with ⟨hcs, _⟩ | ⟨ad, len, cap', A, L, C, Z, hcs, _, hl, hm, _, hrow⟩
  · simp at hcs
    obtain ⟨rfl, rfl, rfl⟩ := hcs
    exact ⟨[], rfl, Nat.le_refl _, Nat.zero_le _, fun h => absurd rfl h, fun r hr => by simp at hr⟩
  · simp at hcs
    obtain ⟨rfl, rfl, rfl⟩ := hcs
    refine ⟨(List.range n).map fun r => ⟨A r, L r, C r, (Z r).take (L r)⟩, by simp, hl, hm, fun hne => ?_, fun r hr => ?_⟩
    · have hn0 : 0 < n := by
        rcases Nat.eq_zero_or_pos n with e | e
        · subst e; simp at hne
        · exact e
      obtain ⟨b, o, spot⟩ := ad
      have h0 := (hrow 0 (by omega)).1
      have hspot : spot = none := by simpa [Addr.add] using World.cell?_spot h0
      subst hspot
      refine ⟨b, o, rfl, fun i hi => ?_⟩
      have hi' : i < n := by simpa using hi
      have h1 := (hrow i (by omega)).1
      rw [Addr.add_lit] at h1
      rw [h1]
      simp [Row.val, hi']
    · obtain ⟨i, hi, rfl⟩ := List.mem_map.1 hr
      have hi' : i < n := by simpa using hi
      obtain ⟨_, h2, h3, h4, h5, h6, h7⟩ := hrow i (by omega)
      refine ⟨by simp [h4]; omega, h2, h3, fun hne => ?_, fun y hy => ?_⟩
      · have hL : 0 < L i := by
          rcases Nat.eq_zero_or_pos (L i) with e | e
          · exfalso; apply hne; simp [e]
          · exact e
        cases hA : A i with
        | none => have := h6 hA; omega
        | some a' =>
          obtain ⟨_, hc⟩ := h7 a' hA
          obtain ⟨b, o, spot⟩ := a'
          have h0 := hc 0 (by omega)
          have hspot : spot = none := by simpa [Addr.add] using World.cell?_spot h0
          subst hspot
          refine ⟨b, o, rfl, fun j hj => ?_⟩
          have hj' : j < L i := by simp at hj; omega
          have h1 := hc j (by omega)
          rw [Addr.add_lit] at h1
          rw [h1]
          simp [hj']
      · have := bounds_u8 (h5 y (List.mem_of_mem_take hy)); omega
end Go.Proofs.Ytpbopghnoinlbaa

/-
  What comes in a place of a chain. Conditions: a chain that lies in memory.
-/
import Derived.Test.YthipnkaghddbhaaSxRRight
namespace Go.Proofs.Ythipnkaghddbhaa
open Go.RowKit

/-- What comes in a place of a chain. -/
def cmE (es : List Ex) (p : Int) (i : Nat) : Int := match es[i]? with | some x => x.k | none => p
theorem cmE_range {w : World} {a : Option Addr} {n c : Nat} {es : List Ex} {p : Int} (h : Ch w a n c es) (p0 : 0 ≤ p) (p1 : p < 256) (i : Nat) : 0 ≤ cmE es p i ∧ cmE es p i < 256 := by
  unfold cmE
  split
  · rename_i x hx
    exact (h.ok x (List.mem_of_getElem? hx)).kind
  · exact ⟨p0, p1⟩
set_option maxHeartbeats 1000000 in
theorem sxComes_any (a : Option Addr) (n c : Nat) (es : List Ex) (p : Int) (i : Nat) (w : World) (h : Ch w a n c es) : Calls Try.prog 38 #[.agg #[.slice a n c, .int .u8 p], .int .i64 i] w (Gives w (.int .u8 (cmE es p i))) := by
  have hbA : Below w.heap.size w (w.alloc (.cells #[.slice a n c, .int .u8 p] 46)) := (Below.refl _ _).alloc (Nat.le_refl _) _
  have HB := Lib.hid hbA
  have HC := Lib.hid (h.below hbA)
  have hnm : n ≤ 9223372036854775807 := by have h1 := h.cap; have h2 := h.max; unfold maxLen at h2; omega
  have HL := Lib.hid h.len
  clear h hbA
  by_cases hlt : i < n
  · have hlt' : (i : Int) < (n : Int) := by omega
    obtain ⟨x, hx⟩ : ∃ x, es[i]? = some x := ⟨_, List.getElem?_eq_getElem (by rw [HL.out]; exact hlt)⟩
    obtain ⟨b, o, rfl, hcl⟩ := HC.out.cells (by intro e; rw [e] at hx; simp at hx)
    obtain ⟨hc0, hc1⟩ := hcl i x hx
    have HM : Hid (cmE es p i = x.k) := by show _ = _; unfold cmE; rw [hx]
    have hcn : n ≤ c := HC.out.cap
    clear hcl hx hc1
    go_enter Try.func38, Try.ntmps38
    go_wp2_with fail
    go_ret
    exact ⟨by rw [HM.out]; rfl, HB.out⟩
  · have hlt' : ¬ (i : Int) < (n : Int) := by omega
    have HM : Hid (cmE es p i = p) := by show _ = _; unfold cmE; rw [List.getElem?_eq_none (by rw [HL.out]; omega)]
    go_enter Try.func38, Try.ntmps38
    go_wp2_with fail
    go_ret
    exact ⟨by rw [HM.out]; rfl, HB.out⟩
end Go.Proofs.Ythipnkaghddbhaa

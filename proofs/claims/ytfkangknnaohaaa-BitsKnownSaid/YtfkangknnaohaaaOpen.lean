/-
  How a slice of integers that comes in as an argument is opened to its cells. No conditions.
-/
import Derived.Test.YtfkangknnaohaaaWorks
import Derived.ProofKit
import Derived.OpenShut
import Derived.ShutString
import Derived.ChangeOld
namespace Go.Proofs.Ytfkangknnaohaaa
open Go.ChangeShapes Go.WideShapes Go.ChangeAt Go.RowKit

theorem own : ownKnob Try.prog.godebug = none := by kernel_rfl
theorem laidOut : laidOutB Try.prog = true := by kernel_rfl

/-- A slice's address leads to these integers. -/
def RdK (k : IntKind) (w : World) (a : Option Addr) (xs : List Int) : Prop :=
  xs ≠ [] → ∃ b o, a = some ⟨b, o, none⟩ ∧ ∀ i, i < xs.length → w.cell? ⟨b, o + i, none⟩ = some (.int k (xs.getD i 0))

theorem RdK.below {k : IntKind} {w w' : World} {a : Option Addr} {xs : List Int} (h : RdK k w a xs) (hb : Below w.heap.size w w') : RdK k w' a xs := by
  intro hne
  obtain ⟨b, o, rfl, hc⟩ := h hne
  refine ⟨b, o, rfl, fun i hi => ?_⟩
  have h1 := hc i hi
  rw [← h1]
  exact World.cell?_of_block (hb.block b (World.block_lt_of_cell? w ⟨b, o + i, none⟩ h1))

theorem open_row {H : Type} {enc : TypeId × Value → H} {w : World} {base : Nat} {spare : Nat → Bool} {held : Bool} {fuel : Nat} {t e : TypeId} {k : IntKind} {a : Option Addr} {n cap : Nat} {x : DataW H × List MemPlace}
    (ht : Try.prog.underlying t = some (.slice e)) (he : Try.prog.underlying e = some (.int k)) (hc : Try.prog.cellsOf e = 1)
    (h : DataW.trod enc Try.prog w base spare held fuel t [.slice a n cap] = some x) (hsp : ∀ b, spare b = true) :
    ∃ xs : List Int, xs.length = n ∧ n ≤ cap ∧ cap ≤ maxLen ∧ RdK k w a xs ∧ ∀ y ∈ xs, (Lit.int k y).wf = true := by
  rcases open_ints ht he hc h with ⟨hcs, _⟩ | ⟨ad, l, c, zs, hcs, _, hl, hm, hz, _, hcell, hwz⟩
  · simp at hcs
    obtain ⟨rfl, rfl, rfl⟩ := hcs
    exact ⟨[], rfl, Nat.le_refl _, Nat.zero_le _, fun h => absurd rfl h, fun y hy => by simp at hy⟩
  · simp at hcs
    obtain ⟨rfl, rfl, rfl⟩ := hcs
    rw [if_pos (hsp _)] at hz
    refine ⟨zs.take n, by simp; omega, hl, hm, fun hne => ?_, fun y hy => hwz y (List.mem_of_mem_take hy)⟩
    have hn0 : 0 < n := by
      rcases Nat.eq_zero_or_pos n with e | e
      · subst e; simp at hne
      · exact e
    obtain ⟨b, o, spot⟩ := ad
    have h0 := hcell 0 (by omega)
    have hspot : spot = none := by simpa [Addr.add] using World.cell?_spot h0
    subst hspot
    refine ⟨b, o, rfl, fun i hi => ?_⟩
    have hi' : i < n := by simp at hi; omega
    have h1 := hcell i (by omega)
    rw [Addr.add_lit] at h1
    rw [h1]
    simp [hi']

theorem rd_of {w : World} {a : Option Addr} {xs : List Int} (h : RdK .u8 w a xs) : Rd w a xs := h
theorem byt_of {xs : List Int} (h : ∀ y ∈ xs, (Lit.int .u8 y).wf = true) : Byt xs := fun y hy => by
  have := bounds_u8 (h y hy); omega
theorem u64_of {v : Int} (h : (Lit.int .u64 v).wf = true) : U64 v := by
  have := bounds_u64 h
  exact ⟨this.1, by rw [pw_eight]; omega⟩
end Go.Proofs.Ytfkangknnaohaaa

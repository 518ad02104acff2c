/-
  Rows of the call's own whose bytes are written over, one by one. No conditions.
-/
import Derived.Test.YtfkangknnaohaaaRd2
namespace Go.Proofs.Ytfkangknnaohaaa
open Go.RowKit

theorem Own.set {w : World} {base g n cap : Nat} {xs : List Int} (h : Own w base (some ⟨g, 0, none⟩) n cap xs) (j : Nat) (z : Int) : Own (w.setCell ⟨g, j, none⟩ (.int .u8 z)) base (some ⟨g, 0, none⟩) n cap (xs.set j z) := by
  have h1 := (h.2.stored j (.int .u8 z)).1
  refine ⟨by rw [List.length_set]; exact h.1, ?_⟩
  have e : bv (xs.set j z) = (bv xs).set j (.int .u8 z) := by simp [bv, List.map_set]
  rw [e]
  exact h1

/-- Some bytes stand in a row of the call's own; but for it all is as it was. -/
def Inc (w0 : World) (base : Nat) (a : Option Addr) (n cap : Nat) (w : World) : Prop :=
  ∃ zs, Own w base a n cap zs ∧ Kept (fun k => blk a = some k) w0 w

theorem Inc.start {w : World} {base : Nat} {a : Option Addr} {n cap : Nat} {xs : List Int} (h : Own w base a n cap xs) : Inc w base a n cap w := ⟨xs, h, Kept.refl _ _⟩
theorem Inc.at_ {w0 w : World} {base : Nat} {a : Option Addr} {n cap k : Nat} (h : Inc w0 base a n cap w) (hk : k < n) :
    ∃ g z, a = some ⟨g, 0, none⟩ ∧ w.cell? ⟨g, k, none⟩ = some (.int .u8 z) ∧ w.frozen? ⟨g, k, none⟩ = false ∧ ∀ y, Inc w0 base (some ⟨g, 0, none⟩) n cap (w.setCell ⟨g, k, none⟩ (.int .u8 y)) := by
  obtain ⟨zs, ho, hkp⟩ := h
  rcases ho.cases with ⟨_, h0, _⟩ | ⟨g, cur, rfl, _, hg, _⟩
  · omega
  obtain ⟨b, o, e, hc⟩ := ho.rd (by intro e; have := ho.len; rw [e] at this; simp at this; omega)
  simp only [Option.some.injEq, Addr.mk.injEq, and_true] at e
  obtain ⟨rfl, rfl⟩ := e
  have hck := hc k (by rw [ho.len]; exact hk)
  rw [Nat.zero_add] at hck
  exact ⟨g, _, rfl, hck, frozen_of_row w g k cur _ hg, fun y => ⟨zs.set k y, ho.set k y, hkp.trans (Kept.setCell (S := fun k => blk (some ⟨g, 0, none⟩) = some k) _ _ _ rfl) (fun _ _ e => e)⟩⟩
end Go.Proofs.Ytfkangknnaohaaa

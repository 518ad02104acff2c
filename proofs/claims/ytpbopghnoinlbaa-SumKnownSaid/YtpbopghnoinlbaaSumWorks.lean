/-
  The contracts of the statements' own small test and of joined, for layer 3. Conditions: rows that lie where the slices lead.
-/
import Derived.Test.YtpbopghnoinlbaaSumRef
import Derived.Test.YtpbopghnoinlbaaRefRows
namespace Go.Proofs.Ytpbopghnoinlbaa
open Go.RowKit

theorem Row.lit (w : World) (xs : List Int) (n : Nat) (hn : xs.length = n) (hm : n ≤ maxLen) (hb : Byt xs) (g : Nat) (hg : w.heap.size = g) : Row.ok (w.alloc (.cells (bv xs).toArray 5)) ⟨some ⟨g, 0, none⟩, n, n, xs⟩ := by
  subst hg
  exact ⟨hn, Nat.le_refl _, hm, (Own.lit w w.heap.size xs n hn hm (Nat.le_refl _)).rd, hb⟩
theorem RdR.lit (w : World) (t : TypeId) (l : List Row) (h : ∀ r ∈ l, r.ok w) : RdR (w.alloc (.cells (l.map Row.val).toArray t)) (some ⟨w.heap.size, 0, none⟩) l := by
  refine ⟨fun _ => ⟨w.heap.size, 0, rfl, fun i hi => ?_⟩, fun r hr => (h r hr).below ((Below.refl _ _).alloc (Nat.le_refl _) _)⟩
  rw [cell_of_row _ w.heap.size (0 + i) _ t (0, 0) (Blk_new w _ _)]
  simp [List.getElem?_eq_getElem hi]
theorem Row.ok.alloc {w : World} {r : Row} (h : r.ok w) (o : Obj) : r.ok (w.alloc o) := h.below ((Below.refl _ _).alloc (Nat.le_refl _) _)
theorem RdR.nil (w : World) (a : Option Addr) : RdR w a [] := ⟨fun h => absurd rfl h, fun r hr => by simp at hr⟩

/-- Of, and Whole, of rows that are laid for the call. -/
theorem of_lit (w : World) (l : List Row) (g m : Nat) (cs : Array Value) (hg : w.heap.size = g) (hm : l.length = m) (hcs : cs = (l.map Row.val).toArray) (h : ∀ r ∈ l, r.ok w) (hl : m ≤ 1000) (hr : ∀ r ∈ l, r.n ≤ 1000) :
    Calls Try.prog 10 #[.slice (some ⟨g, 0, none⟩) m m] (w.alloc (.cells cs 24)) fun e w' => e = .returned (.int .u16 (65535 - fld (ws 0 (cat l)))) ∧ Below w.heap.size w w' := by
  subst hg hcs
  refine (of_any _ _ _ l _ hm (RdR.lit w _ l h) hl hr).mono ?_
  rintro e w' ⟨rfl, hb⟩
  exact ⟨rfl, ((Below.refl _ _).alloc (Nat.le_refl _) _).trans (hb.mono (by simp))⟩
theorem whole_lit (w : World) (l : List Row) (g m : Nat) (cs : Array Value) (hg : w.heap.size = g) (hm : l.length = m) (hcs : cs = (l.map Row.val).toArray) (h : ∀ r ∈ l, r.ok w) (hl : m ≤ 1000) (hr : ∀ r ∈ l, r.n ≤ 1000) :
    Calls Try.prog 12 #[.slice (some ⟨g, 0, none⟩) m m] (w.alloc (.cells cs 24)) fun e w' => e = .returned (.bool (whl (ws 0 (cat l)))) ∧ Below w.heap.size w w' := by
  subst hg hcs
  refine (whole_any _ _ _ l _ hm (RdR.lit w _ l h) hl hr).mono ?_
  rintro e w' ⟨rfl, hb⟩
  exact ⟨rfl, ((Below.refl _ _).alloc (Nat.le_refl _) _).trans (hb.mono (by simp))⟩
theorem all_one {p : Row → Prop} {r : Row} (h : p r) : ∀ x ∈ [r], p x := by intro x hx; simp at hx; subst hx; exact h
theorem all_two {p : Row → Prop} {r s : Row} (h : p r) (k : p s) : ∀ x ∈ [r, s], p x := by intro x hx; simp at hx; rcases hx with rfl | rfl <;> assumption

theorem byt_lit {xs : List Int} (h : xs.all (fun x => decide (0 ≤ x ∧ x < 256)) = true) : Byt xs := by
  intro x hx
  have := List.all_eq_true.1 h x hx
  simpa using this

set_option maxHeartbeats 1000000 in
theorem works3_any (w : World) : Calls Try.prog 8 #[] w fun e w' => e = .returned (.bool true) ∧ Below w.heap.size w w' := by
  go_enter Try.func8, Try.ntmps8
  go_wp2_with fail
  refine (of_lit _ [⟨some ⟨w.heap.size, 0, none⟩, 2, 2, [1, 2]⟩, ⟨some ⟨w.heap.size + 1, 0, none⟩, 1, 1, [3]⟩] _ 2 _ (by simp) rfl rfl
    (all_two ((Row.lit w [1, 2] 2 rfl (by decide) (byt_lit (by decide)) _ rfl).alloc _) (Row.lit _ [3] 1 rfl (by decide) (byt_lit (by decide)) _ (by simp))) (by omega) (all_two (show 2 ≤ 1000 by omega) (show 1 ≤ 1000 by omega))).mono ?_
  rintro e w1 ⟨rfl, hb⟩
  have HB1 : Hid (Below w.heap.size w w1) := (((Below.refl _ _).alloc (Nat.le_refl _) _).alloc (by simp) _).trans (hb.mono (by simp; omega))
  clear hb
  rw [show 65535 - fld (ws 0 (cat [⟨some ⟨w.heap.size, 0, none⟩, 2, 2, [1, 2]⟩, ⟨some ⟨w.heap.size + 1, 0, none⟩, 1, 1, [3]⟩])) = 64509 from rfl]
  go_wp2_with fail
  refine (of_any _ 0 _ [] _ rfl (RdR.nil _ _) (by omega) (by simp)).mono ?_
  rintro e w2 ⟨rfl, hb⟩
  have HB2 : Hid (Below w.heap.size w w2) := HB1.out.trans (hb.mono HB1.out.size)
  clear hb HB1
  rw [show 65535 - fld (ws 0 (cat [])) = 65535 from rfl]
  go_wp2_with fail
  refine (whole_lit _ [⟨some ⟨w2.heap.size, 0, none⟩, 2, 2, [0, 0]⟩] _ 1 _ (by simp) rfl rfl
    (all_one (Row.lit w2 [0, 0] 2 rfl (by decide) (byt_lit (by decide)) _ rfl)) (by omega) (all_one (show _ ≤ 1000 by simp))).mono ?_
  rintro e w3 ⟨rfl, hb⟩
  have HB3 : Hid (Below w.heap.size w w3) := (HB2.out.alloc HB2.out.size _).trans (hb.mono (by have := HB2.out.size; simp; omega))
  clear hb HB2
  rw [show whl (ws 0 (cat [⟨some ⟨w2.heap.size, 0, none⟩, 2, 2, [0, 0]⟩])) = true from rfl]
  go_wp2_with fail
  refine (whole_lit _ [⟨some ⟨w3.heap.size, 0, none⟩, 4, 4, [1, 2, 254, 253]⟩] _ 1 _ (by simp) rfl rfl
    (all_one (Row.lit w3 [1, 2, 254, 253] 4 rfl (by decide) (byt_lit (by decide)) _ rfl)) (by omega) (all_one (show _ ≤ 1000 by simp))).mono ?_
  rintro e w4 ⟨rfl, hb⟩
  have HB4 : Hid (Below w.heap.size w w4) := (HB3.out.alloc HB3.out.size _).trans (hb.mono (by have := HB3.out.size; simp; omega))
  clear hb HB3
  rw [show whl (ws 0 (cat [⟨some ⟨w3.heap.size, 0, none⟩, 4, 4, [1, 2, 254, 253]⟩])) = true from rfl]
  go_wp2_with fail
  refine (change_any _ _ _ _ (by omega) (by omega) (by omega) (by omega) (by omega) (by omega)).mono ?_
  rintro e w5 ⟨rfl, rfl⟩
  rw [show chg 64509 768 769 = 64508 from rfl]
  go_wp2_with fail
  go_ret
  exact ⟨rfl, HB4.out⟩
end Go.Proofs.Ytpbopghnoinlbaa

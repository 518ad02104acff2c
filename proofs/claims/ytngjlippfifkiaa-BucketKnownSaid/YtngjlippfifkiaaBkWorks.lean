/-
  The contract of the statements' own small test (the chapter's examples), and BucketNone's walk. Conditions: none.
-/
import Derived.Test.YtngjlippfifkiaaBkAll
namespace Go.Proofs.Ytngjlippfifkiaa
open Go.RowKit

/-- It returns true, and what was there is as it was. -/
def Yes (w : World) (e : Ending) (w' : World) : Prop := e = .returned (.bool true) ∧ Below w.heap.size w w'
/-- A bucket of the call's own, and all that was there at first as it was. -/
structure St (w wr : World) (g : Nat) (b : Bu) : Prop where
  bk : Bk wr g b
  below : Below w.heap.size w wr
  own : w.heap.size ≤ g
theorem St.next {w wr w' : World} {g : Nat} {b b' : Bu} (h : St w wr g b) (hb : Bk w' g b') (hk : Kept (fun x => x = g) wr w') : St w w' g b' :=
  ⟨hb, h.below.trans (hk.below h.below.size (fun k e => by have := h.own; omega)), h.own⟩
theorem Bk.below {w w' : World} {g : Nat} {b : Bu} (h : Bk w g b) (k : Below w.heap.size w w') : Bk w' g b :=
  h.keep (S := fun _ => False) (Kept.of_below k (fun i hi hi' => by omega)) id
theorem St.past {w wr w' : World} {g : Nat} {b : Bu} (h : St w wr g b) (k : Below wr.heap.size wr w') : St w w' g b :=
  ⟨h.bk.below k, h.below.trans (k.mono h.below.size), h.own⟩
theorem St.start {w w' : World} {g : Nat} {b : Bu} (ho : w.heap.size ≤ g) (hb : Bk w' g b) (hl : Below w.heap.size w w') : St w w' g b := ⟨hb, hl, ho⟩
theorem Kept.drewN {S : Nat → Prop} {w : World} : ∀ (m : Nat), Kept S w (w.drewN m)
  | _ => ⟨rfl, rfl, rfl, Nat.le_refl _, fun _ _ _ => rfl⟩
theorem St.drewN {w wr : World} {g : Nat} {b : Bu} (h : St w wr g b) (m : Nat) : St w (wr.drewN m) g b := h.next (h.bk.keep (Kept.drewN (S := fun _ => False) m) id) (Kept.drewN m)

set_option maxRecDepth 100000 in
set_option maxHeartbeats 4000000 in
theorem works10_any (w : World) : Calls Try.prog 8 #[] w (Yes w) := by
  go_enter Try.func8, Try.ntmps8
  go_wp2_with fail
  refine (new_any 3 10 5 _ ⟨by decide, by decide, by decide, by decide, by decide, by decide, by decide⟩).mono ?_
  rintro e w1 ⟨g, rfl, ho, hb1, hl1⟩
  have H1 := Lib.hid (St.start ho hb1 hl1)
  clear hb1 hl1 ho
  go_wp2_with fail
  refine (take_any g 5 8 _ _ H1.out.bk (by decide) (by decide) (by decide)).mono ?_
  rintro e w2 ⟨rfl, hb, hk⟩
  have H2 : Hid (St w w2 g ⟨3, 10, 5, 2⟩) := H1.out.next hb hk
  have he : decide ((8 : Int) ≤ ((⟨3, 10, 5, 10⟩ : Bu).fill 5).K) = true := by decide
  rw [he]
  clear hb hk he
  go_wp2_with fail
  refine (level_any g 6 _ _ H2.out.bk (by decide) (by decide)).mono ?_
  rintro e w3 ⟨rfl, hb, hk⟩
  have H3 : Hid (St w w3 g ⟨3, 10, 6, 5⟩) := H2.out.next hb hk
  have he : ((⟨3, 10, 5, 2⟩ : Bu).fill 6).K = 5 := by decide
  rw [he]
  clear hb hk he
  go_wp2_with fail
  refine (take_any g 6 6 _ _ H3.out.bk (by decide) (by decide) (by decide)).mono ?_
  rintro e w4 ⟨rfl, hb, hk⟩
  have H4 : Hid (St w w4 g ⟨3, 10, 6, 5⟩) := H3.out.next hb hk
  have he : decide ((6 : Int) ≤ ((⟨3, 10, 6, 5⟩ : Bu).fill 6).K) = false := by decide
  rw [he]
  clear hb hk he
  go_wp2_with fail
  refine (when_any g 6 _ _ H4.out.bk (by decide) (by decide)).mono ?_
  rintro e w5 ⟨rfl, m, rfl⟩
  have H5 := Lib.hid (H4.out.drewN m)
  have he : whV ⟨3, 10, 6, 5⟩ 6 = 7 := by decide
  have he2 : whB ⟨3, 10, 6, 5⟩ 6 = true := by decide
  rw [he, he2]
  obtain ⟨w5, hw5⟩ : ∃ w5, w4.drewN m = w5 := ⟨_, rfl⟩
  rw [hw5] at H5 ⊢
  clear he he2 hw5
  go_wp2_with fail
  refine (take_any g 7 6 _ _ H5.out.bk (by decide) (by decide) (by decide)).mono ?_
  rintro e w6 ⟨rfl, hb, hk⟩
  have H6 : Hid (St w w6 g ⟨3, 10, 7, 2⟩) := H5.out.next hb hk
  have he : decide ((6 : Int) ≤ ((⟨3, 10, 6, 5⟩ : Bu).fill 7).K) = true := by decide
  rw [he]
  clear hb hk he
  go_wp2_with fail
  refine (level_any g 4 _ _ H6.out.bk (by decide) (by decide)).mono ?_
  rintro e w7 ⟨rfl, hb, hk⟩
  have H7 : Hid (St w w7 g ⟨3, 10, 7, 2⟩) := H6.out.next hb hk
  have he : ((⟨3, 10, 7, 2⟩ : Bu).fill 4).K = 2 := by decide
  rw [he]
  clear hb hk he
  go_wp2_with fail
  refine (level_any g 100 _ _ H7.out.bk (by decide) (by decide)).mono ?_
  rintro e w8 ⟨rfl, hb, hk⟩
  have H8 := Lib.hid (H7.out.next hb hk).below
  have he : ((⟨3, 10, 7, 2⟩ : Bu).fill 100).K = 10 := by decide
  rw [he]
  clear hb hk he
  go_wp2_with fail
  go_ret
  exact ⟨rfl, H8.out⟩

set_option maxRecDepth 100000 in
set_option maxHeartbeats 4000000 in
theorem none10_any (t n : Int) (w : World) : Calls Try.prog 6 #[.int .u64 t, .int .u64 n] w (Yes w) := by
  go_enter Try.func6, Try.ntmps6
  go_wp2_with fail
  refine (when_nil n _).mono ?_
  rintro e w1 ⟨rfl, rfl⟩
  go_wp2_with fail
  refine (level_nil t _).mono ?_
  rintro e w1 ⟨rfl, rfl⟩
  go_wp2_with fail
  refine (take_nil t n _).mono ?_
  rintro e w1 ⟨rfl, rfl⟩
  go_wp2_with fail
  refine (copy_nil _).mono ?_
  rintro e w1 ⟨rfl, rfl⟩
  go_wp2_with fail
  refine (tick_nil _).mono ?_
  rintro e w1 ⟨rfl, rfl⟩
  go_wp2_with fail
  refine (works10_any _).mono ?_
  rintro e w1 ⟨rfl, hb⟩
  have HB := Lib.hid hb
  clear hb
  go_wp2_with fail
  go_ret
  exact ⟨rfl, HB.out⟩
end Go.Proofs.Ytngjlippfifkiaa

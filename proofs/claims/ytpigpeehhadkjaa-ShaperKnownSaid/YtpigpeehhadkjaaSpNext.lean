/-
  The contracts of a shaper's Next, Offer. Conditions: those that the theorems name.
-/
import Derived.Test.YtpigpeehhadkjaaSpHeads1
namespace Go.Proofs.Ytpigpeehhadkjaa
open Go.RowKit Bkt

set_option maxRecDepth 100000 in
set_option maxHeartbeats 1000000 in
theorem sNext_any (B g : Nat) (s : Sh) (w : World) (h : Sw w B g s) (h1 : 1 ≤ s.n) :
    Calls Try.prog 19 #[.pointer (some ⟨g, 0, none⟩)] w (Gives w (.tuple #[.int .u64 (nx s.T s.abs).t, .bool (nx s.T s.abs).k])) := by
  have HS := Lib.hid h
  have H1 := Lib.hid h1
  clear h h1
  go_enter Try.func19, Try.ntmps19
  go_wp2_with fail
  refine (heads_any B g s w HS.out).mono ?_
  rintro e w1 ⟨b1, b3, gt, l, rfl, hb, hw, h1, h3, hg⟩
  have HW : Hid (Below w.heap.size w w1 ∧ Hw w1 w1 B g b1 b3 gt s l ∧ w.heap.size ≤ gt) := ⟨hb, hw, hg⟩
  clear hb hw h1 h3 hg
  go_wp2_with fail
  refine (heads1_any w1 B g b1 b3 gt s l HW.out.2.1 H1.out).mono ?_
  rintro e w2 ⟨rfl, l2, hw2, _⟩
  have HB : Hid (Below w.heap.size w w2) := HW.out.1.trans (hw2.kept.below HW.out.1.size (fun k e => by have := HW.out.2.2; omega))
  clear hw2
  go_wp2_with fail
  go_ret2
  exact ⟨rfl, HB.out⟩
theorem sNext_nil (w : World) : Calls Try.prog 19 #[.pointer none] w fun e w' => e = .returned (.tuple #[.int .u64 0, .bool false]) ∧ w' = w := by
  go_enter Try.func19, Try.ntmps19
  go_wp2_with fail
  go_ret2
  exact ⟨rfl, rfl⟩

/-- An offer, as the document has it: the class must be there, the size right. -/
def offOk (ls : List Ab) (c : Int) (x : It) : Bool := decide (0 ≤ c) && (decide (c < ls.length) && (decide (0 ≤ x.sz) && decide (x.sz ≤ 2048)))
def offL (ls : List Ab) (c : Int) (x : It) : List Ab := if offOk ls c x = true then ls.set c.toNat ((ls.getD c.toNat az).push x) else ls
def offC (ls : List Ab) (c : Int) (x : It) : Int := if offOk ls c x = true then (ls.getD c.toNat az).A.code x else 2
/-- What an offer does. -/
def OffR (w : World) (B g : Nat) (s : Sh) (c : Int) (x : It) (e : Ending) (w' : World) : Prop :=
  e = .returned (.int .i64 (offC s.abs c x)) ∧ ∃ ls, Sw w' B g { s with ls := ls } ∧ ls.map La.abs = offL s.abs c x ∧ Kept (s.foot g) w w' ∧ ∀ k, Sh.foot { s with ls := ls } g k → s.foot g k ∨ w.heap.size ≤ k
theorem off_no {w w' : World} {B g : Nat} {s : Sh} {c : Int} {x : It} (h : Sw w B g s) (hb : Below w.heap.size w w') (ho : offOk s.abs c x = false) : OffR w B g s c x (.returned (.int .i64 2)) w' := by
  refine ⟨by unfold offC; rw [ho]; rfl, s.ls, h.below hb, by unfold offL; rw [ho]; rfl, Kept.of_below hb (fun i hi hi' => by omega), fun k hk => .inl hk⟩

set_option maxRecDepth 100000 in
set_option maxHeartbeats 1000000 in
theorem sOffer_any (B g : Nat) (s : Sh) (c : Int) (x : Pi) (w : World) (h : Sw w B g s) (hx : x.at_ w) (hd : x.d ≠ [] → ∀ b, blk x.a = some b → ¬ s.foot g b) (hB : B ≤ w.heap.size) (hD : ∀ l ∈ s.ls, l.q.D < 18446744073709551615) :
    Calls Try.prog 17 #[.pointer (some ⟨g, 0, none⟩), .int .i64 c, x.v] w (OffR w B g s c x.it) := by
  have HX := Lib.hid hx
  have HSW := Lib.hid h
  have HD := Lib.hid hd
  have HDD := Lib.hid hD
  have HB := Lib.hid hB
  obtain ⟨no, sz, a, n, cc, d⟩ := x
  show Calls Try.prog 17 #[.pointer (some ⟨g, 0, none⟩), .int .i64 c, .agg #[.int .u64 no, .int .i64 sz, .slice a n cc]] w _
  have hal : Below w.heap.size w (w.alloc (.cells #[.int .u64 no, .int .i64 sz, .slice a n cc] 40)) := (Below.refl _ _).alloc (Nat.le_refl _) _
  have hr0 : (w.alloc (.cells #[.int .u64 no, .int .i64 sz, .slice a n cc] 40)).heap[w.heap.size]? = some (.cells #[.int .u64 no, .int .i64 sz, .slice a n cc] 40 (0, 0)) := Blk_new _ _ _
  obtain ⟨w0, hw0⟩ : ∃ z, w.alloc (.cells #[.int .u64 no, .int .i64 sz, .slice a n cc] 40) = z := ⟨_, rfl⟩
  rw [hw0] at hal hr0
  have H0 : Hid (Below w.heap.size w w0 ∧ Sw w0 B g s) := ⟨hal, h.below hal⟩
  have x0 := q3_0 hr0
  have x1 := q3_1 hr0
  have x2 := q3_2 hr0
  have hlen : (s.abs.length : Int) = (s.n : Int) := by rw [abs_len, h.len]
  have HLEN := Lib.hid hlen
  clear h hx hd hB hD hal hr0 hlen
  by_cases hc : 0 ≤ c ∧ c < (s.n : Int)
  case neg =>
    have HF : Hid (OffR w B g s c (Pi.it ⟨no, sz, a, n, cc, d⟩) (.returned (.int .i64 2)) w0) := off_no HSW.out H0.out.1 (by
      unfold offOk
      rw [HLEN.out]
      refine Bool.eq_false_iff.2 fun e => hc ?_
      simp only [Bool.and_eq_true, decide_eq_true_eq] at e
      exact ⟨e.1, e.2.1⟩)
    have HC : Hid (c < 0 ∨ (s.n : Int) ≤ c) := by show _ ∨ _; omega
    clear hc
    go_enter Try.func17, Try.ntmps17
    go_wp2_with fail
    refine (sLane_no B g s c w0 H0.out.2 HC.out).mono ?_
    rintro e w1 ⟨rfl, hw1⟩
    rw [hw1]
    go_wp2_with fail
    go_ret
    exact HF.out
  case pos =>
  obtain ⟨i, rfl⟩ : ∃ i : Nat, c = (i : Int) := ⟨c.toNat, by omega⟩
  obtain ⟨l, hl, hlw⟩ := H0.out.2.lane (i := i) (by omega)
  have HL : Hid (s.ls[i]? = some l ∧ Lw w0 B l) := ⟨hl, hlw⟩
  have HC : Hid ((i : Int) < (s.n : Int)) := hc.2
  clear hl hlw hc
  by_cases hs : 0 ≤ sz ∧ sz ≤ 2048
  case neg =>
    have HF : Hid (OffR w B g s i (Pi.it ⟨no, sz, a, n, cc, d⟩) (.returned (.int .i64 2)) w0) := off_no HSW.out H0.out.1 (by
      unfold offOk
      refine Bool.eq_false_iff.2 fun e => hs ?_
      simp only [Bool.and_eq_true, decide_eq_true_eq] at e
      exact ⟨e.2.2.1, e.2.2.2⟩)
    by_cases h0 : sz < 0
    · clear hs
      go_enter Try.func17, Try.ntmps17
      go_wp2_with fail
      refine (sLane_yes B g s i l w0 H0.out.2 HL.out.1).mono ?_
      rintro e w1 ⟨rfl, hw1⟩
      rw [hw1]
      go_wp2_with fail
      go_ret
      exact HF.out
    · have h2 : 2048 < sz := by omega
      clear hs
      go_enter Try.func17, Try.ntmps17
      go_wp2_with fail
      refine (sLane_yes B g s i l w0 H0.out.2 HL.out.1).mono ?_
      rintro e w1 ⟨rfl, hw1⟩
      rw [hw1]
      go_wp2_with fail
      go_ret
      exact HF.out
  case pos =>
  have h0 : ¬ sz < 0 := by omega
  have h2 : ¬ 2048 < sz := by omega
  have hok : offOk s.abs (i : Int) (Pi.it ⟨no, sz, a, n, cc, d⟩) = true := by
    unfold offOk
    have h3 := HC.out
    rw [HLEN.out]
    simp only [Bool.and_eq_true, decide_eq_true_eq]
    exact ⟨by omega, h3, hs.1, hs.2⟩
  have HOK := Lib.hid hok
  have HS1 : Hid (sz ≤ 9223372036854775807) := by show _ ≤ _; omega
  clear hs hok
  go_enter Try.func17, Try.ntmps17
  go_wp2_with fail
  refine (sLane_yes B g s i l w0 H0.out.2 HL.out.1).mono ?_
  rintro e w1 ⟨rfl, hw1⟩
  rw [hw1]
  clear hw1
  go_wp2_with fail
  refine (offer_any B l ⟨no, sz, a, n, cc, d⟩ w0 HL.out.2 (HX.out.below H0.out.1) (fun hne b hb e => HD.out hne b hb (.inr ⟨l, List.mem_of_getElem? HL.out.1, e⟩)) (Nat.le_trans HB.out H0.out.1.size) HS1.out (HDD.out l (List.mem_of_getElem? HL.out.1))).mono ?_
  rintro e w2 ⟨rfl, l', hl', ha', hg', hk', hf'⟩
  have HF : Hid (OffR w B g s i (Pi.it ⟨no, sz, a, n, cc, d⟩) (.returned (.int .i64 (l.q.abs.code (Pi.it ⟨no, sz, a, n, cc, d⟩)))) w2) := by
    have hget : s.abs.getD i az = l.abs := abs_get HL.out.1
    refine ⟨?_, s.ls.set i l', H0.out.2.step HL.out.1 hl' hg' hk' hf', ?_, ?_, ?_⟩
    · unfold offC
      rw [HOK.out, if_pos rfl, Int.toNat_natCast, hget]; rfl
    · unfold offL
      rw [HOK.out, if_pos rfl, Int.toNat_natCast, hget, List.map_set, ha']; rfl
    · have hk0 : Kept (s.foot g) w w0 := Kept.of_below H0.out.1 (fun i hi hi' => by omega)
      exact hk0.trans hk' (fun k _ e => .inr ⟨l, List.mem_of_getElem? HL.out.1, e⟩)
    · rintro k (e | ⟨m, hm, e⟩)
      · exact .inl (.inl e)
      · rcases List.mem_or_eq_of_mem_set hm with hm | rfl
        · exact .inl (.inr ⟨m, hm, e⟩)
        · rcases hf' k e with e | e
          · exact .inl (.inr ⟨l, List.mem_of_getElem? HL.out.1, e⟩)
          · exact .inr (Nat.le_trans H0.out.1.size e)
  clear hl' ha' hg' hk' hf'
  obtain ⟨co, hco⟩ : ∃ z, l.q.abs.code (Pi.it ⟨no, sz, a, n, cc, d⟩) = z := ⟨_, rfl⟩
  rw [hco] at HF ⊢
  go_wp2_with fail
  go_ret
  exact HF.out
theorem sOffer_nil (c : Int) (x : Pi) (w : World) : Calls Try.prog 17 #[.pointer none, .int .i64 c, x.v] w (Gives w (.int .i64 1)) := by
  obtain ⟨no, sz, a, n, cc, d⟩ := x
  show Calls Try.prog 17 #[.pointer none, .int .i64 c, .agg #[.int .u64 no, .int .i64 sz, .slice a n cc]] w _
  go_enter Try.func17, Try.ntmps17
  go_wp2_with fail
  go_ret
  exact ⟨rfl, (Below.refl _ _).alloc (Nat.le_refl _) _⟩
end Go.Proofs.Ytpigpeehhadkjaa

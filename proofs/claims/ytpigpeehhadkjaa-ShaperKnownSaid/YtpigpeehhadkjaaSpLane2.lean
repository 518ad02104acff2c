/-
  The contracts of a lane's offer, head, stat. Conditions: those that the theorems name. (Made by gen_splane.py.)
-/
import Derived.Test.YtpigpeehhadkjaaSpLane
namespace Go.Proofs.Ytpigpeehhadkjaa
open Go.RowKit Bkt

/-- What an offer answers. -/
def OfferR (w : World) (B : Nat) (l : La) (x : It) (e : Ending) (w' : World) : Prop :=
  e = .returned (.int .i64 (l.q.abs.code x)) ∧ ∃ l', Lw w' B l' ∧ l'.abs = l.abs.push x ∧ l'.g = l.g ∧ Kept l.foot w w' ∧ ∀ k, l'.foot k → l.foot k ∨ w.heap.size ≤ k

set_option maxRecDepth 100000 in
set_option maxHeartbeats 1000000 in
theorem offer_any (B : Nat) (l : La) (x : Pi) (w : World) (h : Lw w B l) (hx : x.at_ w) (hd : x.d ≠ [] → ∀ b, blk x.a = some b → ¬ l.foot b) (hB : B ≤ w.heap.size) (hs1 : x.sz ≤ 9223372036854775807) (hD : l.q.D < 18446744073709551615) :
    Calls Try.prog 40 #[.pointer (some ⟨l.g, 0, none⟩), x.v] w (OfferR w B l x.it) := by
  have HL := Lib.hid h
  have HX := Lib.hid hx
  have HD := Lib.hid hd
  have HB := Lib.hid hB
  have HS1 := Lib.hid hs1
  have HDD := Lib.hid hD
  obtain ⟨no, sz, a, n, c, d⟩ := x
  show Calls Try.prog 40 #[.pointer (some ⟨l.g, 0, none⟩), .agg #[.int .u64 no, .int .i64 sz, .slice a n c]] w _
  have hal : Below w.heap.size w (w.alloc (.cells #[.int .u64 no, .int .i64 sz, .slice a n c] 40)) := (Below.refl _ _).alloc (Nat.le_refl _) _
  have hbx : (w.alloc (.cells #[.int .u64 no, .int .i64 sz, .slice a n c] 40)).heap[w.heap.size]? = some (.cells #[.int .u64 no, .int .i64 sz, .slice a n c] 40 (0, 0)) := Blk_new _ _ _
  clear h hx hd hB hs1 hD
  go_enter Try.func40, Try.ntmps40
  go_wp2_with fail
  obtain ⟨bx, hbx'⟩ : ∃ z, w.heap.size = z := ⟨_, rfl⟩
  obtain ⟨w1, hw1⟩ : ∃ z, w.alloc (.cells #[.int .u64 no, .int .i64 sz, .slice a n c] 40) = z := ⟨_, rfl⟩
  have H1 : Hid (Below w.heap.size w w1.drew ∧ Lw w1.drew B l ∧ bx = w.heap.size) := by
    have : Below w.heap.size w w1.drew := by rw [← hw1]; exact hal.drew
    exact ⟨this, HL.out.below this, hbx'.symm⟩
  rw [hw1, hbx'] at hbx ⊢
  clear hal hw1 hbx'
  have HS : Hid (w1.drew.heap[bx]? = some (.cells #[.int .u64 no, .int .i64 sz, .slice a n c] 40 (0, 0)) ∧ w1.drew.cell? ⟨l.g, 5, none⟩ = some (.pointer (some ⟨l.gq, 0, none⟩))) := ⟨hbx, H1.out.2.1.c5⟩
  clear hbx
  refine wp_region_held_drew (S := fun w' => w'.heap[bx]? = some (.cells #[.int .u64 no, .int .i64 sz, .slice a n c] 40 (0, 0)) ∧ w'.cell? ⟨l.g, 5, none⟩ = some (.pointer (some ⟨l.gq, 0, none⟩))) (by kernel_rfl) HS.out (fun hS => ?_)
  refine tk 0 6 (.pointer (some ⟨l.g, 0, none⟩)) rfl rfl (by kernel_rfl) (by kernel_rfl) (by kernel_rfl) (fun _ _ _ h => h) (Or.inl ⟨by rfl, fun w' h' => ?_⟩) hS ?_
  · go_simp
  try simp only [Act.put, List.setIfInBounds_toArray, List.set_cons_zero, List.set_cons_succ]
  refine tk 1 7 (.pointer (some ⟨l.g, 0, none⟩)) rfl rfl (by kernel_rfl) (by kernel_rfl) (by kernel_rfl) (fun _ _ _ h => h) (Or.inl ⟨by rfl, fun w' h' => ?_⟩) hS ?_
  · go_simp
  try simp only [Act.put, List.setIfInBounds_toArray, List.set_cons_zero, List.set_cons_succ]
  refine tk 2 8 (.pointer (some ⟨l.g, 5, none⟩)) rfl rfl (by kernel_rfl) (by kernel_rfl) (by kernel_rfl) (fun _ _ _ h => h) (Or.inl ⟨by rfl, fun w' h' => ?_⟩) hS ?_
  · go_simp
  try simp only [Act.put, List.setIfInBounds_toArray, List.set_cons_zero, List.set_cons_succ]
  refine tk 3 9 (.pointer (some ⟨l.gq, 0, none⟩)) rfl rfl (by kernel_rfl) (by kernel_rfl) (by kernel_rfl) (fun _ _ _ h => h) (Or.inl ⟨by rfl, fun w' h' => ?_⟩) hS ?_
  · have c5 := h'.2
    go_simp
  try simp only [Act.put, List.setIfInBounds_toArray, List.set_cons_zero, List.set_cons_succ]
  refine tk 4 10 (.agg #[.int .u64 no, .int .i64 sz, .slice a n c]) rfl rfl (by kernel_rfl) (by kernel_rfl) (by kernel_rfl) (fun _ _ _ h => h) (Or.inl ⟨by rfl, fun w' h' => ?_⟩) hS ?_
  · have c0 := q3_0 h'.1
    have c1 := q3_1 h'.1
    have c2 := q3_2 h'.1
    go_simp
  try simp only [Act.put, List.setIfInBounds_toArray, List.set_cons_zero, List.set_cons_succ]
  refine wpAnyH_ready (rs := [5]) (by kernel_rfl) (by simp) (AllReadyH.cons rfl (fun K hK => ?_) AllReadyH.nil)
  rw [if_pos (by rfl)]
  go_wp2_with fail
  refine (fPush_any B l.gq l.q ⟨no, sz, a, n, c, d⟩ _ H1.out.2.1.qu (HX.out.below H1.out.1) (fun hne b hb e => HD.out hne b hb (.inr (.inr e))) (Nat.le_trans HB.out H1.out.1.size) HS1.out HDD.out).mono ?_
  rintro e w2 ⟨rfl, q', hq', ha', hk', hf'⟩
  obtain ⟨hl2, hk2⟩ := H1.out.2.1.queue hq' hk'
  have hkw : Kept l.foot w w1.drew := Kept.of_below H1.out.1 (fun i hi hi' => by omega)
  have HH : Hid (Lw w2 B { l with q := q' } ∧ Kept l.foot w w2 ∧ (∀ k, La.foot { l with q := q' } k → l.foot k ∨ w.heap.size ≤ k) ∧ q'.abs = l.q.abs.push (Pi.it ⟨no, sz, a, n, c, d⟩)) := by
    refine ⟨hl2, hkw.trans hk2 (fun _ _ e => e), ?_, ha'⟩
    rintro k (e | e | e)
    · exact .inl (.inl e)
    · exact .inl (.inr (.inl e))
    · rcases hf' k e with e | e
      · exact .inl (.inr (.inr e))
      · have := H1.out.1.size
        exact .inr (by omega)
  have hbx2 : w2.heap[bx]? = some (.cells #[.int .u64 no, .int .i64 sz, .slice a n c] 40 (0, 0)) := hk'.heap HS.out.1 (fun e => by
    have := H1.out.2.2
    have := (HL.out.foot_lt (k := bx) (.inr (.inr e))).2
    omega)
  have HS2 : Hid (w2.heap[bx]? = some (.cells #[.int .u64 no, .int .i64 sz, .slice a n c] 40 (0, 0)) ∧ w2.cell? ⟨l.g, 5, none⟩ = some (.pointer (some ⟨l.gq, 0, none⟩))) := ⟨hbx2, hl2.c5⟩
  obtain ⟨co, hco⟩ : ∃ z, l.q.abs.code (Pi.it ⟨no, sz, a, n, c, d⟩) = z := ⟨_, rfl⟩
  rw [hco]
  have HCO := Lib.hid hco
  clear hq' ha' hk' hf' hl2 hk2 hkw hbx2 hco HS
  clear hS
  refine hK.out _ _ (HS2.out) (fun hS => ?_)
  clear hK K
  try simp only [Act.put, List.setIfInBounds_toArray, List.set_cons_zero, List.set_cons_succ]
  refine tk 6 5 (.int .i64 co) rfl rfl (by kernel_rfl) (by kernel_rfl) (by kernel_rfl) (fun _ _ _ h => h) (Or.inl ⟨by rfl, fun w' h' => ?_⟩) hS ?_
  · go_simp
  refine wpAnyH_done (by kernel_rfl) ?_ _
  clear HS2
  go_wp2_with fail
  refine (cntO_any B _ 1 w2 HH.out.1).mono ?_
  rintro e w3 ⟨rfl, hl3, hk3⟩
  have H3 : Hid (Lw w3 B { l with q := q', o := up l.o 1 } ∧ Kept l.foot w w3) := ⟨hl3, by
    have hk1 := HH.out.2.1
    refine ⟨hk3.os.trans hk1.os, hk3.tape.trans hk1.tape, hk3.output.trans hk1.output, Nat.le_trans hk1.size hk3.size, fun k hk hs => ?_⟩
    have hz := hk1.size
    rw [hk3.block k (by omega) (fun e => by
      rcases HH.out.2.2.1 k e with e | e
      · exact hs e
      · omega)]
    exact hk1.block k hk hs⟩
  clear hl3 hk3
  have habs : l.abs.push (Pi.it ⟨no, sz, a, n, c, d⟩) = { l.abs with A := l.q.abs.push (Pi.it ⟨no, sz, a, n, c, d⟩), o := up l.o 1, d := if co = 110 then up l.d 1 else l.d } := by
    unfold Ab.push
    show Ab.mk _ _ _ (if l.q.abs.code _ = 110 then _ else _) _ _ = _
    rw [HCO.out]; rfl
  have HA := Lib.hid habs
  clear habs
  by_cases h110 : co = 110
  · subst h110
    go_wp2_with fail
    refine (cntD_any B _ 1 w3 H3.out.1).mono ?_
    rintro e w4 ⟨rfl, hl4, hk4⟩
    have HF : Hid (OfferR w B l (Pi.it ⟨no, sz, a, n, c, d⟩) (.returned (.int .i64 110)) w4) := by
      refine ⟨by rw [HCO.out], _, hl4, ?_, rfl, ?_, HH.out.2.2.1⟩
      · rw [HA.out, ← HH.out.2.2.2]; rfl
      · have hk1 := H3.out.2
        refine ⟨hk4.os.trans hk1.os, hk4.tape.trans hk1.tape, hk4.output.trans hk1.output, Nat.le_trans hk1.size hk4.size, fun k hk hs => ?_⟩
        have hz := hk1.size
        rw [hk4.block k (by omega) (fun e => by
          rcases HH.out.2.2.1 k e with e | e
          · exact hs e
          · omega)]
        exact hk1.block k hk hs
    clear hl4 hk4
    go_wp2_with fail
    go_ret
    exact HF.out
  · have HF : Hid (OfferR w B l (Pi.it ⟨no, sz, a, n, c, d⟩) (.returned (.int .i64 co)) w3) := ⟨by rw [HCO.out], _, H3.out.1, by rw [HA.out, ← HH.out.2.2.2, if_neg h110]; rfl, rfl, H3.out.2, HH.out.2.2.1⟩
    go_wp2_with fail
    go_ret
    exact HF.out

/-- A turn in memory: when, if ever, once it was asked. -/
def Tu.v (t : Tu) : Value := .agg #[.int .u64 t.at_, .bool t.ev, .bool true]
/-- What head answers. -/
def HeadA (w : World) (l : La) (T : Int) (e : Ending) (w' : World) : Prop := e = .returned (tuV T l.abs).v ∧ Below w.heap.size w w'
theorem turn_two (w : World) : Below w.heap.size w (w.alloc (.cells #[.int .u64 0, .bool false, .bool false] 140)) := (Below.refl _ _).alloc (Nat.le_refl _) _

set_option maxRecDepth 100000 in
set_option maxHeartbeats 1000000 in
theorem head_any (B : Nat) (l : La) (T : Int) (w : World) (h : Lw w B l) :
    Calls Try.prog 54 #[.pointer (some ⟨l.g, 0, none⟩), .int .u64 T] w (HeadA w l T) := by
  obtain ⟨w0, hw0⟩ : ∃ z, w.alloc (.cells #[.int .u64 0, .bool false, .bool false] 140) = z := ⟨_, rfl⟩
  have hb0 : Below w.heap.size w w0 := by rw [← hw0]; exact turn_two w
  have hr0 : w0.heap[w.heap.size]? = some (.cells #[.int .u64 0, .bool false, .bool false] 140 (0, 0)) := by rw [← hw0]; exact Blk_new _ _ _
  have HL := Lib.hid h
  have H0 : Hid (Below w.heap.size w w0 ∧ Lw w0 B l ∧ w0.heap[w.heap.size]? = some (.cells #[.int .u64 0, .bool false, .bool false] 140 (0, 0)) ∧ w.heap.size < w0.heap.size) := ⟨hb0, h.below hb0, hr0, (Array.getElem?_eq_some_iff.1 hr0).1⟩
  have c5 := H0.out.2.1.c5
  clear h hb0 hr0
  go_enter Try.func54, Try.ntmps54
  go_wp2_with fail
  clear hw0
  refine (fHead_any B l.gq l.q w0 H0.out.2.1.qu).mono ?_
  rintro e w1 ⟨hb1, hcase⟩
  have hb01 : Below w.heap.size w w1 := H0.out.1.trans (hb1.mono H0.out.1.size)
  have hr1 : w1.heap[w.heap.size]? = some (.cells #[.int .u64 0, .bool false, .bool false] 140 (0, 0)) := (hb1.block _ H0.out.2.2.2).trans H0.out.2.2.1
  have H1 : Hid (Below w.heap.size w w1 ∧ Lw w1 B l ∧ w1.heap[w.heap.size]? = some (.cells #[.int .u64 0, .bool false, .bool false] 140 (0, 0)) ∧ w.heap.size < w1.heap.size) := ⟨hb01, HL.out.below hb01, hr1, (Array.getElem?_eq_some_iff.1 hr1).1⟩
  clear hb1 hb01 hr1 c5 H0
  rcases hcase with ⟨h0, rfl⟩ | ⟨x, L, y, hL, rfl, hty⟩
  · have hv : Hid ((tuV T l.abs).v = .agg #[.int .u64 0, .bool false, .bool true]) := by
      have : l.abs.A.l = [] := by show l.q.L.map Pi.it = []; rw [h0]; rfl
      show _ = _
      unfold tuV
      rw [if_pos this]; rfl
    clear h0
    rw [show pz.v = .agg #[.int .u64 0, .int .i64 0, .slice none 0 0] from rfl]
    have hb2 : Below w.heap.size w (w1.alloc (.cells #[.int .u64 0, .int .i64 0, .slice none 0 0] 40)) := H1.out.1.alloc H1.out.1.size _
    have hr2 : (w1.alloc (.cells #[.int .u64 0, .int .i64 0, .slice none 0 0] 40)).heap[w.heap.size]? = some (.cells #[.int .u64 0, .bool false, .bool false] 140 (0, 0)) := by rw [Below.heap_alloc _ _ _ H1.out.2.2.2]; exact H1.out.2.2.1
    have a0 := q3_0 hr2
    have a1 := q3_1 hr2
    have a2 := q3_2 hr2
    have g0 : (w1.alloc (.cells #[.int .u64 0, .int .i64 0, .slice none 0 0] 40)).frozen? ⟨w.heap.size, 0, none⟩ = false := frozen_of_row (w1.alloc (.cells #[.int .u64 0, .int .i64 0, .slice none 0 0] 40)) _ 0 _ _ hr2
    have g1 : (w1.alloc (.cells #[.int .u64 0, .int .i64 0, .slice none 0 0] 40)).frozen? ⟨w.heap.size, 1, none⟩ = false := frozen_of_row (w1.alloc (.cells #[.int .u64 0, .int .i64 0, .slice none 0 0] 40)) _ 1 _ _ hr2
    have g2 : (w1.alloc (.cells #[.int .u64 0, .int .i64 0, .slice none 0 0] 40)).frozen? ⟨w.heap.size, 2, none⟩ = false := frozen_of_row (w1.alloc (.cells #[.int .u64 0, .int .i64 0, .slice none 0 0] 40)) _ 2 _ _ hr2
    have HF : Hid (∀ v0 v1 v2, Below w.heap.size w ((((w1.alloc (.cells #[.int .u64 0, .int .i64 0, .slice none 0 0] 40)).setCell ⟨w.heap.size, 0, none⟩ v0).setCell ⟨w.heap.size, 1, none⟩ v1).setCell ⟨w.heap.size, 2, none⟩ v2)) := fun v0 v1 v2 =>
      ((hb2.setCell (p := ⟨w.heap.size, 0, none⟩) (Nat.le_refl _) v0).setCell (p := ⟨w.heap.size, 1, none⟩) (Nat.le_refl _) v1).setCell (p := ⟨w.heap.size, 2, none⟩) (Nat.le_refl _) v2
    clear hb2 hr2
    go_wp2_with fail
    refine bodyPost_ret (v := .agg #[.int .u64 0, .bool false, .bool true]) (by simp [results, Try.results54, go_sem, *]) rfl ?_
    exact ⟨by rw [hv.out], HF.out _ _ _⟩
  · have hys : 0 ≤ y.sz ∧ y.sz ≤ 9223372036854775807 := by
      have hx : x ∈ l.q.L := by rw [hL]; exact List.mem_cons_self
      have e1 := HL.out.qu.ok.sz x hx
      have e2 := HL.out.qu.ok.sum
      have e3 := HL.out.qu.ok.S1
      rw [hL, sumS_cons] at e2
      have e4 := sumS_pos (l := L) (fun z hz => HL.out.qu.ok.sz z (by rw [hL]; exact List.mem_cons_of_mem _ hz))
      rw [hty.sz]
      omega
    have hv : (tuV T l.abs).v = .agg #[.int .u64 (max (whV l.b y.sz) T), .bool (whB l.b y.sz), .bool true] := by
      have h1 : l.abs.A.l ≠ [] := by show l.q.L.map Pi.it ≠ []; rw [hL]; simp
      have h2 : l.abs.A.hd.sz = y.sz := by show l.q.abs.hd.sz = _; rw [abs_hd hL]; exact hty.sz.symm
      unfold tuV
      rw [if_neg h1, h2]; rfl
    have HV := Lib.hid hv
    have HFIT := Lib.hid (wh_fit l.b HL.out.bk.1 y.sz)
    clear hL hty hv
    obtain ⟨yno, ysz, ya, yn, yc, yd⟩ := y
    simp only at hys HV HFIT
    have ew : IntKind.u64.wrap ysz = ysz := by rw [IntKind.wrap_u64]; omega
    have HE := Lib.hid ew
    have HYS := Lib.hid hys
    clear ew hys
    rw [show (Pi.v ⟨yno, ysz, ya, yn, yc, yd⟩) = .agg #[.int .u64 yno, .int .i64 ysz, .slice ya yn yc] from rfl]
    have hb2 : Below w.heap.size w (w1.alloc (.cells #[.int .u64 yno, .int .i64 ysz, .slice ya yn yc] 40)) := H1.out.1.alloc H1.out.1.size _
    have hr2 : (w1.alloc (.cells #[.int .u64 yno, .int .i64 ysz, .slice ya yn yc] 40)).heap[w.heap.size]? = some (.cells #[.int .u64 0, .bool false, .bool false] 140 (0, 0)) := by rw [Below.heap_alloc _ _ _ H1.out.2.2.2]; exact H1.out.2.2.1
    have hx2 : (w1.alloc (.cells #[.int .u64 yno, .int .i64 ysz, .slice ya yn yc] 40)).heap[w1.heap.size]? = some (.cells #[.int .u64 yno, .int .i64 ysz, .slice ya yn yc] 40 (0, 0)) := Blk_new _ _ _
    obtain ⟨w2, hw2⟩ : ∃ z, w1.alloc (.cells #[.int .u64 yno, .int .i64 ysz, .slice ya yn yc] 40) = z := ⟨_, rfl⟩
    obtain ⟨b2, hb2'⟩ : ∃ z, w1.heap.size = z := ⟨_, rfl⟩
    rw [hw2, hb2'] at hx2
    rw [hw2] at hb2 hr2
    go_wp2_with fail
    have H2 : Hid (Below w.heap.size w w2.drew ∧ Lw w2.drew B l ∧ w2.drew.heap[w.heap.size]? = some (.cells #[.int .u64 0, .bool false, .bool false] 140 (0, 0))) := ⟨hb2.drew, HL.out.below hb2.drew, hr2⟩
    clear hw2 hb2 hr2 hb2' H1
    have HS : Hid (w2.drew.heap[b2]? = some (.cells #[.int .u64 yno, .int .i64 ysz, .slice ya yn yc] 40 (0, 0)) ∧ w2.drew.cell? ⟨l.g, 4, none⟩ = some (.pointer (some ⟨l.gb, 0, none⟩))) := ⟨hx2, H2.out.2.1.c4⟩
    clear hx2
    refine wp_region_held_drew (S := fun w' => w'.heap[b2]? = some (.cells #[.int .u64 yno, .int .i64 ysz, .slice ya yn yc] 40 (0, 0)) ∧ w'.cell? ⟨l.g, 4, none⟩ = some (.pointer (some ⟨l.gb, 0, none⟩))) (by kernel_rfl) HS.out (fun hS => ?_)
    refine tk 0 20 (.pointer (some ⟨l.g, 0, none⟩)) rfl rfl (by kernel_rfl) (by kernel_rfl) (by kernel_rfl) (fun _ _ _ h => h) (Or.inl ⟨by rfl, fun w' h' => ?_⟩) hS ?_
    · go_simp
    try simp only [Act.put, List.setIfInBounds_toArray, List.set_cons_zero, List.set_cons_succ]
    refine tk 1 21 (.pointer (some ⟨l.g, 0, none⟩)) rfl rfl (by kernel_rfl) (by kernel_rfl) (by kernel_rfl) (fun _ _ _ h => h) (Or.inl ⟨by rfl, fun w' h' => ?_⟩) hS ?_
    · go_simp
    try simp only [Act.put, List.setIfInBounds_toArray, List.set_cons_zero, List.set_cons_succ]
    refine tk 2 22 (.pointer (some ⟨l.g, 4, none⟩)) rfl rfl (by kernel_rfl) (by kernel_rfl) (by kernel_rfl) (fun _ _ _ h => h) (Or.inl ⟨by rfl, fun w' h' => ?_⟩) hS ?_
    · go_simp
    try simp only [Act.put, List.setIfInBounds_toArray, List.set_cons_zero, List.set_cons_succ]
    refine tk 3 23 (.pointer (some ⟨l.gb, 0, none⟩)) rfl rfl (by kernel_rfl) (by kernel_rfl) (by kernel_rfl) (fun _ _ _ h => h) (Or.inl ⟨by rfl, fun w' h' => ?_⟩) hS ?_
    · have c4 := h'.2
      go_simp
    try simp only [Act.put, List.setIfInBounds_toArray, List.set_cons_zero, List.set_cons_succ]
    refine tk 4 24 (.pointer (some ⟨b2, 1, none⟩)) rfl rfl (by kernel_rfl) (by kernel_rfl) (by kernel_rfl) (fun _ _ _ h => h) (Or.inl ⟨by rfl, fun w' h' => ?_⟩) hS ?_
    · go_simp
    try simp only [Act.put, List.setIfInBounds_toArray, List.set_cons_zero, List.set_cons_succ]
    refine tk 5 25 (.int .i64 ysz) rfl rfl (by kernel_rfl) (by kernel_rfl) (by kernel_rfl) (fun _ _ _ h => h) (Or.inl ⟨by rfl, fun w' h' => ?_⟩) hS ?_
    · have c1 := q3_1 h'.1
      go_simp
    try simp only [Act.put, List.setIfInBounds_toArray, List.set_cons_zero, List.set_cons_succ]
    refine tk 6 26 (.int .u64 ysz) rfl rfl (by kernel_rfl) (by kernel_rfl) (by kernel_rfl) (fun _ _ _ h => h) (Or.inl ⟨by rfl, fun w' h' => ?_⟩) hS ?_
    · have ew := HE.out
      go_simp
    try simp only [Act.put, List.setIfInBounds_toArray, List.set_cons_zero, List.set_cons_succ]
    refine wpAnyH_ready (rs := [7]) (by kernel_rfl) (by simp) (AllReadyH.cons rfl (fun K hK => ?_) AllReadyH.nil)
    rw [if_pos (by rfl)]
    go_wp2_with fail
    refine (when_any l.gb ysz l.b _ H2.out.2.1.bk HYS.out.1 (by have := HYS.out.2; omega)).mono ?_
    rintro e w3 ⟨rfl, m, rfl⟩
    have H3 : Hid (Below w.heap.size w (w2.drew.drewN m) ∧ (w2.drew.drewN m).heap[w.heap.size]? = some (.cells #[.int .u64 0, .bool false, .bool false] 140 (0, 0))) := ⟨H2.out.1.trans (drewN_below _ m), H2.out.2.2⟩
    have HS3 : Hid ((w2.drew.drewN m).heap[b2]? = some (.cells #[.int .u64 yno, .int .i64 ysz, .slice ya yn yc] 40 (0, 0)) ∧ (w2.drew.drewN m).cell? ⟨l.g, 4, none⟩ = some (.pointer (some ⟨l.gb, 0, none⟩))) := HS.out
    obtain ⟨w4, hw4⟩ : ∃ z, w2.drew.drewN m = z := ⟨_, rfl⟩
    rw [hw4] at H3 HS3 ⊢
    obtain ⟨wv, hwv⟩ : ∃ z, whV l.b ysz = z := ⟨_, rfl⟩
    obtain ⟨wb, hwb⟩ : ∃ z, whB l.b ysz = z := ⟨_, rfl⟩
    rw [hwv, hwb]
    rw [hwv, hwb] at HV
    rw [hwv] at HFIT
    clear hw4 hwv hwb H2 HS
    clear hS
    refine hK.out _ _ (HS3.out) (fun hS => ?_)
    clear hK K
    try simp only [Act.put, List.setIfInBounds_toArray, List.set_cons_zero, List.set_cons_succ]
    refine tk 8 19 (.tuple #[.int .u64 wv, .bool wb]) rfl rfl (by kernel_rfl) (by kernel_rfl) (by kernel_rfl) (fun _ _ _ h => h) (Or.inl ⟨by rfl, fun w' h' => ?_⟩) hS ?_
    · go_simp
    try simp only [Act.put, List.setIfInBounds_toArray, List.set_cons_zero, List.set_cons_succ]
    refine tk 9 28 (.int .u64 wv) rfl rfl (by kernel_rfl) (by kernel_rfl) (by kernel_rfl) (fun _ _ _ h => h) (Or.inl ⟨by rfl, fun w' h' => ?_⟩) hS ?_
    · go_simp
    try simp only [Act.put, List.setIfInBounds_toArray, List.set_cons_zero, List.set_cons_succ]
    refine tk 10 29 (.bool wb) rfl rfl (by kernel_rfl) (by kernel_rfl) (by kernel_rfl) (fun _ _ _ h => h) (Or.inl ⟨by rfl, fun w' h' => ?_⟩) hS ?_
    · go_simp
    try simp only [Act.put, List.setIfInBounds_toArray, List.set_cons_zero, List.set_cons_succ]
    refine tk 11 7 (.int .u64 wv) rfl rfl (by kernel_rfl) (by kernel_rfl) (by kernel_rfl) (fun _ _ _ h => h) (Or.inl ⟨by rfl, fun w' h' => ?_⟩) hS ?_
    · go_simp
    try simp only [Act.put, List.setIfInBounds_toArray, List.set_cons_zero, List.set_cons_succ]
    refine tk 12 6 (.bool wb) rfl rfl (by kernel_rfl) (by kernel_rfl) (by kernel_rfl) (fun _ _ _ h => h) (Or.inl ⟨by rfl, fun w' h' => ?_⟩) hS ?_
    · go_simp
    refine wpAnyH_done (by kernel_rfl) ?_ _
    have a0 := q3_0 H3.out.2
    have a1 := q3_1 H3.out.2
    have a2 := q3_2 H3.out.2
    have g0 : w4.frozen? ⟨w.heap.size, 0, none⟩ = false := frozen_of_row w4 _ 0 _ _ H3.out.2
    have g1 : w4.frozen? ⟨w.heap.size, 1, none⟩ = false := frozen_of_row w4 _ 1 _ _ H3.out.2
    have g2 : w4.frozen? ⟨w.heap.size, 2, none⟩ = false := frozen_of_row w4 _ 2 _ _ H3.out.2
    have HF : Hid (∀ v0 v1 v2, Below w.heap.size w (((w4.setCell ⟨w.heap.size, 0, none⟩ v0).setCell ⟨w.heap.size, 1, none⟩ v1).setCell ⟨w.heap.size, 2, none⟩ v2)) := fun v0 v1 v2 =>
      ((H3.out.1.setCell (p := ⟨w.heap.size, 0, none⟩) (Nat.le_refl _) v0).setCell (p := ⟨w.heap.size, 1, none⟩) (Nat.le_refl _) v1).setCell (p := ⟨w.heap.size, 2, none⟩) (Nat.le_refl _) v2
    clear HS3 H3
    rcases Int.lt_or_le wv T with hlt | hle
    · have hm : max wv T = T := by omega
      rw [hm] at HV
      clear hm
      go_wp2_with fail
      refine bodyPost_ret (v := .agg #[.int .u64 T, .bool wb, .bool true]) (by simp [results, Try.results54, go_sem, *]) rfl ?_
      exact ⟨by rw [HV.out], HF.out _ _ _⟩
    · have hm : max wv T = wv := by omega
      rw [hm] at HV
      clear hm
      go_wp2_with fail
      refine bodyPost_ret (v := .agg #[.int .u64 wv, .bool wb, .bool true]) (by simp [results, Try.results54, go_sem, *]) rfl ?_
      exact ⟨by rw [HV.out], HF.out _ _ _⟩
end Go.Proofs.Ytpigpeehhadkjaa

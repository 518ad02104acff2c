/-
  The contract of a queue's Push. Conditions: numbers that fit their Go types, items of at most a million bytes, apart from the queue. (Made by gen_fipush.py.)
-/
import Derived.Test.YtpigpeehhadkjaaFiWiden
namespace Go.Proofs.Ytpigpeehhadkjaa
open Go.RowKit

/-- An item as the document has it. -/
structure It where
  no : Int
  sz : Int
  d : List Int
def Pi.it (x : Pi) : It := ⟨x.no, x.sz, x.d⟩
/-- A queue as the document has it. -/
structure Aq where
  I : Int
  S : Int
  l : List It
  D : Int
def Aq.size (a : Aq) : Int := (a.l.map It.sz).sum
def Aq.room (a : Aq) (s : Int) : Bool := decide (0 ≤ s) && (decide ((a.l.length : Int) < a.I) && decide (s ≤ a.S - a.size))
def Aq.push (a : Aq) (x : It) : Aq := if x.sz < 0 then a else if a.room x.sz = true then { a with l := a.l ++ [x] } else { a with D := a.D + 1 }
def Aq.code (a : Aq) (x : It) : Int := if x.sz < 0 then 2 else if a.room x.sz = true then 0 else 110
def Qs.abs (q : Qs) : Aq := ⟨q.I, q.S, q.L.map Pi.it, q.D⟩
theorem abs_size (q : Qs) : q.abs.size = sumS q.L := by simp [Qs.abs, Aq.size, sumS, List.map_map]; rfl
theorem abs_room (q : Qs) (s : Int) : q.abs.room s = q.room s := by
  unfold Aq.room Qs.room
  rw [abs_size]
  have e : q.abs.l.length = q.L.length := by simp [Qs.abs]
  rw [e]
  rfl
theorem Pi.k0 {x : Pi} {w : World} {b : Nat} {t : TypeId} (h : w.heap[b]? = some (.cells x.cs.toArray t (0, 0))) : w.cell? ⟨b, 0, none⟩ = some (.int .u64 x.no) := by rw [cell_of_row w b 0 _ _ (0, 0) h]; rfl
theorem Pi.k1 {x : Pi} {w : World} {b : Nat} {t : TypeId} (h : w.heap[b]? = some (.cells x.cs.toArray t (0, 0))) : w.cell? ⟨b, 1, none⟩ = some (.int .i64 x.sz) := by rw [cell_of_row w b 1 _ _ (0, 0) h]; rfl
theorem Pi.k2 {x : Pi} {w : World} {b : Nat} {t : TypeId} (h : w.heap[b]? = some (.cells x.cs.toArray t (0, 0))) : w.cell? ⟨b, 2, none⟩ = some (.slice x.a x.n x.c) := by rw [cell_of_row w b 2 _ _ (0, 0) h]; rfl
theorem Qu.ringAt {w : World} {B g r : Nat} {q : Qs} (h : Qu w B g q) (ha : q.a = some ⟨r, 0, none⟩) : B ≤ r ∧ w.heap[r]? = some (.cells (rws q.R).toArray 40 (0, 0)) := by
  have hne : q.R ≠ [] := fun e => by rw [(h.ok.nil e).1] at ha; cases ha
  obtain ⟨r', e, hb, hr⟩ := h.ring hne
  rw [ha] at e
  simp at e
  subst e
  exact ⟨hb, hr⟩
section
variable {q : Qs} {w : World} {g : Nat} {t : TypeId}
theorem Qs.k2 (h : w.heap[g]? = some (.cells q.cs.toArray t (0, 0))) : w.cell? ⟨g, 2, none⟩ = some (.slice q.a q.R.length q.R.length) := by rw [cell_of_row w g 2 _ _ (0, 0) h]; rfl
theorem Qs.k4 (h : w.heap[g]? = some (.cells q.cs.toArray t (0, 0))) : w.cell? ⟨g, 4, none⟩ = some (.int .i64 q.L.length) := by rw [cell_of_row w g 4 _ _ (0, 0) h]; rfl
theorem Qs.k5 (h : w.heap[g]? = some (.cells q.cs.toArray t (0, 0))) : w.cell? ⟨g, 5, none⟩ = some (.int .i64 (sumS q.L)) := by rw [cell_of_row w g 5 _ _ (0, 0) h]; rfl
end
theorem Pi.at_.keep2 {x : Pi} {S : Nat → Prop} {w w' : World} (h : x.at_ w) (k : Kept S w w') (hn : x.d ≠ [] → ∀ b, blk x.a = some b → ¬ S b) : x.at_ w' :=
  ⟨h.len, fun hne => h.rd.keep k (hn hne) hne, h.byt, h.few⟩
/-- What Push does. -/
def PushR (w : World) (B g : Nat) (q : Qs) (x : Pi) (e : Ending) (w' : World) : Prop :=
  e = .returned (.int .i64 (q.abs.code x.it)) ∧ ∃ q', Qu w' B g q' ∧ q'.abs = q.abs.push x.it ∧ Kept (q.foot g) w w' ∧ ∀ k, q'.foot g k → q.foot g k ∨ w.heap.size ≤ k
theorem mod_ne {f i k m : Nat} (hf : f < m) (hi : i < k) (hk : k < m) : (f + i) % m ≠ (f + k) % m := by
  have h : ∀ j, j < m → (f + j) % m = if f + j < m then f + j else f + j - m := fun j hj => by
    split
    · exact Nat.mod_eq_of_lt (by assumption)
    · rw [Nat.mod_eq_sub_mod (by omega), Nat.mod_eq_of_lt (by omega)]
  rw [h i (by omega), h k hk]
  split <;> split <;> omega
theorem push_fin {w8 : World} {B g r p : Nat} {q : Qs} {y : Pi} (ok : q.ok) (hlt : q.L.length < q.R.length) (hp : (q.f + q.L.length) % q.R.length = p) (ha : q.a = some ⟨r, 0, none⟩) (hBr : B ≤ r) (hBg : B ≤ g)
    (row : w8.heap[g]? = some (.cells (Qs.cs { q with R := q.R.set p y, L := q.L ++ [y] }).toArray 122 (0, 0))) (ring : w8.heap[r]? = some (.cells (rws (q.R.set p y)).toArray 40 (0, 0)))
    (data : ∀ x ∈ q.L, Own w8 B x.a x.n x.c x.d ∧ Byt x.d ∧ x.n ≤ 1000000) (dy : Own w8 B y.a y.n y.c y.d ∧ Byt y.d ∧ y.n ≤ 1000000) (hsz : 0 ≤ y.sz) (hsum : y.sz ≤ q.S - sumS q.L) : Qu w8 B g { q with R := q.R.set p y, L := q.L ++ [y] } := by
  have hne : q.R ≠ [] := by intro e; rw [e] at hlt; simp at hlt
  have hf := ok.fl hne
  have hpm : p < q.R.length := by rw [← hp]; exact Nat.mod_lt _ (by omega)
  refine ⟨⟨fun e => ?_, fun i x hx => ?_, ?_, fun _ => ?_, ?_, ok.I1, ok.S1, fun x hx => ?_, ?_, ok.D0, ok.D1⟩, row, fun _ => ⟨r, ha, hBr, ring⟩, fun x hx => ?_, hBg⟩
  · simp at e
    exact absurd e hne
  · show (q.R.set p y)[(q.f + i) % (q.R.set p y).length]? = some x
    rw [List.length_set]
    replace hx : (q.L ++ [y])[i]? = some x := hx
    by_cases hi : i < q.L.length
    · rw [List.getElem?_append_left hi] at hx
      rw [List.getElem?_set_ne (by rw [← hp]; exact fun e => mod_ne hf hi hlt e.symm)]
      exact ok.at_ i x hx
    · have hi2 := (List.getElem?_eq_some_iff.1 hx).1
      simp at hi2
      obtain rfl : i = q.L.length := by omega
      rw [hp, List.getElem?_set_self hpm]
      simpa using hx
  · show (q.L ++ [y]).length ≤ (q.R.set p y).length
    simp
    omega
  · show q.f < (q.R.set p y).length
    rw [List.length_set]; exact hf
  · show ((q.R.set p y).length : Int) ≤ q.I
    rw [List.length_set]; exact ok.mI
  · replace hx : x ∈ q.L ++ [y] := hx
    rcases List.mem_append.1 hx with hx | hx
    · exact ok.sz x hx
    · simp at hx; subst hx; exact hsz
  · show sumS (q.L ++ [y]) ≤ q.S
    rw [sumS_snoc]
    omega
  · replace hx : x ∈ q.L ++ [y] := hx
    rcases List.mem_append.1 hx with hx | hx
    · exact data x hx
    · simp at hx; subst hx; exact dy

/-- The item is stored; the queue's numbers are as they were. -/
structure Pushed (w w5 : World) (B g r p : Nat) (q q1 : Qs) (x y : Pi) : Prop where
  row : w5.heap[g]? = some (.cells q1.cs.toArray 122 (0, 0))
  box : w5.heap[w.heap.size]? = some (.cells x.cs.toArray 40 (0, 0))
  ring : w5.heap[r]? = some (.cells (rws (q1.R.set p y)).toArray 40 (0, 0))
  data : ∀ z ∈ q1.L, Own w5 B z.a z.n z.c z.d ∧ Byt z.d ∧ z.n ≤ 1000000
  dy : Twin (w.heap.size + 1) x y w5 ∧ Byt y.d ∧ y.n ≤ 1000000
  kept : Kept (q.foot g) w w5
theorem Pushed.u8 {w w5 : World} {B g r p : Nat} {q q1 : Qs} {x y : Pi} (h : Pushed w w5 B g r p q q1 x y) {B' : Nat} {z : Option Addr} {n c : Nat} {d : List Int} (ho : Own w5 B' z n c d) : ∀ b, blk z = some b → ¬ b = g := fun b hb e => by
  rcases ho.cases with ⟨e3, _⟩ | ⟨b', cur, e3, _, hb2, _⟩
  · rw [e3] at hb; cases hb
  · rw [e3] at hb
    simp [blk] at hb
    rw [hb, e] at hb2
    have := hb2.symm.trans h.row
    simp at this
theorem pushed {w w4 w5 : World} {B g r p : Nat} {q q1 : Qs} {x y : Pi} (hq : Qu w4 B g q1) (hb : w4.heap[w.heap.size]? = some (.cells x.cs.toArray 40 (0, 0))) (hk : Kept (q.foot g) w w4) (ht : Twin (w.heap.size + 1) x y w4) (hx : x.at_ w) (ha : q1.a = some ⟨r, 0, none⟩)
    (hfr : q.foot g r ∨ w.heap.size + 1 ≤ r) (hrb : w.heap.size ≠ r) (hk5 : Kept (fun k => k = r) w4 w5) (hr5 : w5.heap[r]? = some (.cells (rws (q1.R.set p y)).toArray 40 (0, 0))) : Pushed w w5 B g r p q q1 x y := by
  obtain ⟨hBr, hring⟩ := hq.ringAt ha
  have hu8 : ∀ {B' : Nat} {z : Option Addr} {n c : Nat} {d : List Int}, Own w4 B' z n c d → ∀ b, blk z = some b → ¬ b = r := fun ho b hb e => by
    rcases ho.cases with ⟨e3, _⟩ | ⟨b', cur, e3, _, hb2, _⟩
    · rw [e3] at hb; cases hb
    · rw [e3] at hb
      simp [blk] at hb
      rw [hb, e] at hb2
      have := hb2.symm.trans hring
      simp at this
  have hgr : ¬ g = r := fun e => by
    have := hq.row
    rw [e, hring] at this
    simp at this
  refine ⟨hk5.heap hq.row hgr, hk5.heap hb hrb, hr5, fun z hz => ⟨(hq.data z hz).1.keep hk5 (hu8 (hq.data z hz).1), (hq.data z hz).2⟩, ⟨⟨ht.no, ht.sz, ht.d, ht.own.keep hk5 (hu8 ht.own)⟩, (ht.at_ hx).byt, (ht.at_ hx).few⟩, hk.trans hk5 (fun i hi e => ?_)⟩
  subst e
  rcases hfr with e | e
  · exact e
  · omega

set_option maxRecDepth 100000 in
set_option maxHeartbeats 4000000 in
theorem fPush_nil (x : Pi) (w : World) : Calls Try.prog 51 #[.pointer none, x.v] w fun e w' => e = .returned (.int .i64 1) ∧ Below w.heap.size w w' := by
  obtain ⟨no, sz, a, n, c, d⟩ := x
  show Calls Try.prog 51 #[.pointer none, .agg #[.int .u64 no, .int .i64 sz, .slice a n c]] w _
  go_enter Try.func51, Try.ntmps51
  go_wp2_with fail
  go_ret
  exact ⟨rfl, (Below.refl _ _).alloc (Nat.le_refl _) _⟩

set_option maxRecDepth 100000 in
set_option maxHeartbeats 4000000 in
theorem fPush_any (B g : Nat) (q : Qs) (x : Pi) (w : World) (h : Qu w B g q) (hx : x.at_ w) (hd : x.d ≠ [] → ∀ b, blk x.a = some b → ¬ q.foot g b) (hB : B ≤ w.heap.size) (hs1 : x.sz ≤ 9223372036854775807) (hD : q.D < 18446744073709551615) :
    Calls Try.prog 51 #[.pointer (some ⟨g, 0, none⟩), x.v] w (PushR w B g q x) := by
  have HQ := Lib.hid h
  have HX := Lib.hid hx
  have HD := Lib.hid hd
  have HDD := Lib.hid hD
  have HRM := Lib.hid (abs_room q x.sz)
  have HC : Hid (q.abs.code x.it = (if x.sz < 0 then 2 else if q.abs.room x.sz = true then 0 else 110)) := rfl
  have HP : Hid (q.abs.push x.it = (if x.sz < 0 then q.abs else if q.abs.room x.sz = true then { q.abs with l := q.abs.l ++ [x.it] } else { q.abs with D := q.abs.D + 1 })) := rfl
  obtain ⟨no, sz, a, n, c, d⟩ := x
  simp only at hs1 HC HP HRM
  show Calls Try.prog 51 #[.pointer (some ⟨g, 0, none⟩), .agg #[.int .u64 no, .int .i64 sz, .slice a n c]] w _
  clear h hx hd hD
  by_cases h0 : sz < 0
  · have HE : Hid (PushR w B g q ⟨no, sz, a, n, c, d⟩ (.returned (.int .i64 2)) (w.alloc (.cells #[.int .u64 no, .int .i64 sz, .slice a n c] 40))) := by
      have hb : Below w.heap.size w (w.alloc (.cells #[.int .u64 no, .int .i64 sz, .slice a n c] 40)) := (Below.refl _ _).alloc (Nat.le_refl _) _
      refine ⟨by rw [HC.out, if_pos h0], q, HQ.out.below hb, by rw [HP.out, if_pos h0], Kept.of_below hb (fun i hi hi' => by omega), fun k hk => .inl hk⟩
    go_enter Try.func51, Try.ntmps51
    go_wp2_with fail
    go_ret
    exact HE.out
  obtain ⟨w0, hw0⟩ : ∃ z, w.alloc (.cells #[.int .u64 no, .int .i64 sz, .slice a n c] 40) = z := ⟨_, rfl⟩
  have hb0 : Below w.heap.size w w0 := by rw [← hw0]; exact (Below.refl _ _).alloc (Nat.le_refl _) _
  have hr0 : w0.heap[w.heap.size]? = some (.cells (Pi.cs ⟨no, sz, a, n, c, d⟩).toArray 40 (0, 0)) := by rw [← hw0]; exact Blk_new w _ _
  have hz0 : w0.heap.size = w.heap.size + 1 := by rw [← hw0]; simp
  have hq0 := HQ.out.below hb0
  have HW0 : Hid (Below w.heap.size w w0 ∧ w0.heap[w.heap.size]? = some (.cells (Pi.cs ⟨no, sz, a, n, c, d⟩).toArray 40 (0, 0)) ∧ w0.heap.size = w.heap.size + 1 ∧ Qu w0 B g q) := ⟨hb0, hr0, hz0, hq0⟩
  have c1 : w0.cell? ⟨w.heap.size, 1, none⟩ = some (.int .i64 sz) := by rw [cell_of_row w0 _ 1 _ _ (0, 0) hr0]; rfl
  have HW := Lib.hid hw0
  clear hb0 hr0 hz0 hq0 hw0
  by_cases hrm : q.room sz = true
  case neg =>
    have hrf : q.room sz = false := by simpa using hrm
    have HE : Hid (∀ w1 w2, (∃ m, w1 = w0.drewN m) → Qu w2 B g { q with D := if q.D < 18446744073709551615 then q.D + 1 else q.D } → Kept (fun k => k = g) w1 w2 → PushR w B g q ⟨no, sz, a, n, c, d⟩ (.returned (.int .i64 110)) w2) := by
      rintro w1 w2 ⟨m, rfl⟩ hq2 hk2
      refine ⟨by rw [HC.out, if_neg h0, HRM.out, if_neg hrm], _, hq2, ?_, ?_, fun k hk => .inl hk⟩
      · rw [HP.out, if_neg h0, HRM.out, if_neg hrm]
        simp only [Qs.abs]
        rw [if_pos HDD.out]
      · have hkd : Kept (q.foot g) w w0 := Kept.of_below HW0.out.1 (fun i hi hi' => by omega)
        exact (hkd.trans (Kept.drewN (S := fun _ => False) m) (fun _ _ e => e.elim)).trans hk2 (fun i _ e => .inl e)
    go_enter Try.func51, Try.ntmps51
    go_wp2_with fail
    rw [HW.out]
    refine (fRoom_any B g q sz w0 HW0.out.2.2.2).mono ?_
    rintro e w1 ⟨rfl, m, hw1⟩
    rw [hrf]
    have HQ1 : Hid (Qu w1 B g q) := by rw [hw1]; exact HW0.out.2.2.2.drewN m
    have HW1 : Hid (∃ m, w1 = w0.drewN m) := ⟨m, hw1⟩
    clear hw1 c1
    go_wp2_with fail
    refine (fDrop_any B g q w1 HQ1.out).mono ?_
    rintro e w2 ⟨rfl, hq2, hk2⟩
    have HF := Lib.hid (HE.out w1 w2 HW1.out hq2 hk2)
    clear hq2 hk2
    go_wp2_with fail
    go_ret
    exact HF.out
  case pos =>
  have hI : (q.L.length : Int) < q.I ∧ sz ≤ q.S - sumS q.L := by
    simp only [Qs.room, Bool.and_eq_true, decide_eq_true_eq] at hrm
    exact hrm.2
  have HI := Lib.hid hI
  have HRT := Lib.hid hrm
  have h0' : 0 ≤ sz := by omega
  clear hI
  go_enter Try.func51, Try.ntmps51
  go_wp2_with fail
  rw [HW.out]
  refine (fRoom_any B g q sz w0 HW0.out.2.2.2).mono ?_
  rintro e w1 ⟨rfl, m, hw1⟩
  rw [hrm]
  have H1 : Hid (Qu w1 B g q ∧ Kept (fun _ => False) w0 w1) := by rw [hw1]; exact ⟨HW0.out.2.2.2.drewN m, Kept.drewN m⟩
  clear hw1 c1
  go_wp2_with fail
  refine (fWiden_any B g q w1 H1.out.1 HI.out.1 (by have := HW0.out.2.2.1; have := H1.out.2.size; omega)).mono ?_
  rintro e w2 ⟨rfl, q1, hq1, hL, hqI, hqS, hqD, hlt, hk1, hft⟩
  have hft2 : ∀ k, q1.foot g k → q.foot g k ∨ w.heap.size + 1 ≤ k := fun k hk => by
    rcases hft k hk with e | e
    · exact .inl e
    · exact .inr (by have := H1.out.2.size; have := HW0.out.2.2.1; omega)
  have hk0 : Kept (q.foot g) w w2 := (Kept.of_below HW0.out.1 (fun i hi hi' => by omega)).trans ((H1.out.2.mono (T := q.foot g) (fun _ _ e => e.elim)).trans hk1 (fun _ _ e => e)) (fun _ _ e => e)
  have hnb : ¬ q.foot g w.heap.size := fun e => by have := HQ.out.foot_lt e; omega
  have hbx : w2.heap[w.heap.size]? = some (.cells (Pi.cs ⟨no, sz, a, n, c, d⟩).toArray 40 (0, 0)) := hk1.heap (H1.out.2.heap HW0.out.2.1 id) hnb
  have hz2 : w.heap.size + 1 ≤ w2.heap.size := by have := hk1.size; have := H1.out.2.size; have := HW0.out.2.2.1; omega
  have hne : q1.R ≠ [] := by intro e; rw [e] at hlt; simp at hlt
  obtain ⟨r, ha, hBr, hring⟩ := hq1.ring hne
  have hrb : w.heap.size ≠ r := fun e => by
    rcases hft2 r (.inr (.inl (by rw [ha]; rfl))) with e2 | e2
    · exact hnb (e ▸ e2)
    · omega
  obtain ⟨m, hm⟩ : ∃ z, q1.R.length = z := ⟨_, rfl⟩
  have hm1 : m ≤ 65536 := by have h1 := hq1.ok.mI; have h2 := hq1.ok.I1; omega
  have hf1 := hq1.ok.fl hne
  obtain ⟨p, hp⟩ : ∃ z, (q1.f + q1.L.length) % m = z := ⟨_, rfl⟩
  have hpm : p < m := by rw [← hp]; exact Nat.mod_lt _ (by omega)
  have hpi : (p : Int) < (m : Int) := by omega
  have hp0 : (0 : Int) ≤ (p : Int) := by omega
  have HM : Hid (q1.a = some ⟨r, 0, none⟩ ∧ q1.R.length = m ∧ (q1.f + q1.L.length) % m = p ∧ q1.f < m ∧ q1.L.length < m ∧ m ≤ 65536 ∧ p < m) := ⟨ha, hm, hp, by omega, by rw [hL]; omega, hm1, hpm⟩
  have H2 : Hid (Qu w2 B g q1 ∧ w2.heap[w.heap.size]? = some (.cells (Pi.cs ⟨no, sz, a, n, c, d⟩).toArray 40 (0, 0)) ∧ Pi.at_ ⟨no, sz, a, n, c, d⟩ w2 ∧ Kept (q.foot g) w w2 ∧ w.heap.size + 1 ≤ w2.heap.size) := ⟨hq1, hbx, HX.out.keep2 hk0 HD.out, hk0, hz2⟩
  have H2Q : Hid (q1.L = q.L ∧ q1.I = q.I ∧ q1.S = q.S ∧ q1.D = q.D ∧ (∀ k, q1.foot g k → q.foot g k ∨ w.heap.size + 1 ≤ k) ∧ w.heap.size ≠ r ∧ B ≤ r ∧ w.heap.size ≠ g) := ⟨hL, hqI, hqS, hqD, hft2, hrb, hBr, fun e => hnb (.inl e)⟩
  have hp3 : p < 1000000 := by omega
  clear hq1 hL hqI hqS hqD hlt hk1 hft hft2 hk0 hnb hbx hz2 hne ha hBr hring hrb hm hm1 hf1 hp hpm
  go_wp2_with fail
  have HS : Hid (Qu w2.drew B g q1 ∧ w2.drew.heap[w.heap.size]? = some (.cells (Pi.cs ⟨no, sz, a, n, c, d⟩).toArray 40 (0, 0))) := ⟨H2.out.1.drewN 1, H2.out.2.1⟩
  refine wp_region_held_drew (S := fun w' => w'.heap[g]? = some (.cells q1.cs.toArray 122 (0, 0)) ∧ w'.heap[w.heap.size]? = some (.cells (Pi.cs ⟨no, sz, a, n, c, d⟩).toArray 40 (0, 0))) (by kernel_rfl) ⟨HS.out.1.row, HS.out.2⟩ (fun hS => ?_)
  refine tk 0 22 (.pointer (some ⟨g, 0, none⟩)) rfl rfl (by kernel_rfl) (by kernel_rfl) (by kernel_rfl) (fun _ _ _ h => h) (Or.inl ⟨by rfl, fun w' h' => ?_⟩) hS ?_
  · go_simp
  try simp only [Act.put, List.setIfInBounds_toArray, List.set_cons_zero, List.set_cons_succ]
  refine tk 1 23 (.pointer (some ⟨g, 0, none⟩)) rfl rfl (by kernel_rfl) (by kernel_rfl) (by kernel_rfl) (fun _ _ _ h => h) (Or.inl ⟨by rfl, fun w' h' => ?_⟩) hS ?_
  · go_simp
  try simp only [Act.put, List.setIfInBounds_toArray, List.set_cons_zero, List.set_cons_succ]
  refine tk 2 24 (.pointer (some ⟨g, 2, none⟩)) rfl rfl (by kernel_rfl) (by kernel_rfl) (by kernel_rfl) (fun _ _ _ h => h) (Or.inl ⟨by rfl, fun w' h' => ?_⟩) hS ?_
  · go_simp
  try simp only [Act.put, List.setIfInBounds_toArray, List.set_cons_zero, List.set_cons_succ]
  refine tk 3 25 (.slice (some ⟨r, 0, none⟩) m m) rfl rfl (by kernel_rfl) (by kernel_rfl) (by kernel_rfl) (fun _ _ _ h => h) (Or.inl ⟨by rfl, fun w' h' => ?_⟩) hS ?_
  · have c2 := Qs.k2 h'.1
    rw [HM.out.1, HM.out.2.1] at c2
    go_simp
  try simp only [Act.put, List.setIfInBounds_toArray, List.set_cons_zero, List.set_cons_succ]
  refine tk 4 26 (.pointer (some ⟨g, 0, none⟩)) rfl rfl (by kernel_rfl) (by kernel_rfl) (by kernel_rfl) (fun _ _ _ h => h) (Or.inl ⟨by rfl, fun w' h' => ?_⟩) hS ?_
  · go_simp
  try simp only [Act.put, List.setIfInBounds_toArray, List.set_cons_zero, List.set_cons_succ]
  refine tk 5 27 (.pointer (some ⟨g, 0, none⟩)) rfl rfl (by kernel_rfl) (by kernel_rfl) (by kernel_rfl) (fun _ _ _ h => h) (Or.inl ⟨by rfl, fun w' h' => ?_⟩) hS ?_
  · go_simp
  try simp only [Act.put, List.setIfInBounds_toArray, List.set_cons_zero, List.set_cons_succ]
  refine tk 6 28 (.pointer (some ⟨g, 0, none⟩)) rfl rfl (by kernel_rfl) (by kernel_rfl) (by kernel_rfl) (fun _ _ _ h => h) (Or.inl ⟨by rfl, fun w' h' => ?_⟩) hS ?_
  · go_simp
  try simp only [Act.put, List.setIfInBounds_toArray, List.set_cons_zero, List.set_cons_succ]
  refine tk 7 29 (.pointer (some ⟨g, 4, none⟩)) rfl rfl (by kernel_rfl) (by kernel_rfl) (by kernel_rfl) (fun _ _ _ h => h) (Or.inl ⟨by rfl, fun w' h' => ?_⟩) hS ?_
  · go_simp
  try simp only [Act.put, List.setIfInBounds_toArray, List.set_cons_zero, List.set_cons_succ]
  refine tk 8 30 (.int .i64 (q1.L.length : Int)) rfl rfl (by kernel_rfl) (by kernel_rfl) (by kernel_rfl) (fun _ _ _ h => h) (Or.inl ⟨by rfl, fun w' h' => ?_⟩) hS ?_
  · have c4 := Qs.k4 h'.1
    go_simp
  try simp only [Act.put, List.setIfInBounds_toArray, List.set_cons_zero, List.set_cons_succ]
  refine tk 10 32 (.agg #[.int .u64 no, .int .i64 sz, .slice a n c]) rfl rfl (by kernel_rfl) (by kernel_rfl) (by kernel_rfl) (fun _ _ _ h => h) (Or.inl ⟨by rfl, fun w' h' => ?_⟩) hS ?_
  · have c0 := Pi.k0 h'.2
    have c1 := Pi.k1 h'.2
    have c2 := Pi.k2 h'.2
    simp only at c0 c1 c2
    go_simp
  try simp only [Act.put, List.setIfInBounds_toArray, List.set_cons_zero, List.set_cons_succ]
  refine wpAnyH_ready (rs := [9]) (by kernel_rfl) (by simp) (AllReadyH.cons rfl (fun K hK => ?_) AllReadyH.nil)
  rw [if_pos (by rfl)]
  go_wp2_with fail
  refine (fPlace_any g q1.f q1.L.length m (some ⟨r, 0, none⟩) _ (by have c2 := HS.out.1.c2; rw [HM.out.1, HM.out.2.1] at c2; exact c2) HS.out.1.c3 (by have := HM.out.2.2.2.1; omega) (by have := HM.out.2.2.2.2.2.1; omega) (by have := HM.out.2.2.2.1; have := HM.out.2.2.2.2.2.1; omega) (by have := HM.out.2.2.2.2.1; have := HM.out.2.2.2.2.2.1; omega)).mono ?_
  rintro e w3 ⟨rfl, md, hmd⟩
  rw [HM.out.2.2.1]
  have h3 : Kept (fun _ => False) w2 w3 := by rw [hmd]; exact (Kept.refl _ w2).drew.trans (Kept.drewN md) (fun _ _ e => e)
  have H3 : Hid (Qu w3 B g q1 ∧ w3.heap[w.heap.size]? = some (.cells (Pi.cs ⟨no, sz, a, n, c, d⟩).toArray 40 (0, 0)) ∧ Pi.at_ ⟨no, sz, a, n, c, d⟩ w3 ∧ Kept (q.foot g) w w3 ∧ w.heap.size + 1 ≤ w3.heap.size) :=
    ⟨H2.out.1.keep h3 (fun _ _ e => e), h3.heap H2.out.2.1 id, H2.out.2.2.1.keep h3 (fun _ _ e => e), H2.out.2.2.2.1.trans h3 (fun _ _ e => e.elim), Nat.le_trans H2.out.2.2.2.2 h3.size⟩
  clear h3 hmd HS
  clear hS
  refine hK.out _ _ (⟨H3.out.1.row, H3.out.2.1⟩) (fun hS => ?_)
  clear hK K
  try simp only [Act.put, List.setIfInBounds_toArray, List.set_cons_zero, List.set_cons_succ]
  refine wpAnyH_ready (rs := [11]) (by kernel_rfl) (by simp) (AllReadyH.cons rfl (fun K hK => ?_) AllReadyH.nil)
  rw [if_pos (by rfl)]
  go_wp2_with fail
  refine (copied_any ⟨no, sz, a, n, c, d⟩ _ H3.out.2.2.1).mono ?_
  rintro e w4 ⟨y, rfl, hty, hby⟩
  have H4 : Hid (Qu w4 B g q1 ∧ w4.heap[w.heap.size]? = some (.cells (Pi.cs ⟨no, sz, a, n, c, d⟩).toArray 40 (0, 0)) ∧ Kept (q.foot g) w w4 ∧ Twin (w.heap.size + 1) ⟨no, sz, a, n, c, d⟩ y w4 ∧ w.heap.size + 1 ≤ w4.heap.size) :=
    ⟨H3.out.1.below hby, by rw [hby.block _ (by have := H3.out.2.2.2.2; omega)]; exact H3.out.2.1, H3.out.2.2.2.1.trans (Kept.of_below (S := fun _ => False) hby (fun i hi hi' => by omega)) (fun _ _ e => e.elim), ⟨hty.no, hty.sz, hty.d, hty.own.mono H3.out.2.2.2.2⟩, Nat.le_trans H3.out.2.2.2.2 hby.size⟩
  clear hty hby
  clear hS
  refine hK.out _ _ (⟨H4.out.1.row, H4.out.2.1⟩) (fun hS => ?_)
  clear hK K
  try simp only [Act.put, List.setIfInBounds_toArray, List.set_cons_zero, List.set_cons_succ]
  refine tk 12 34 (.pointer (some ⟨r, p * 3, none⟩)) rfl rfl (by kernel_rfl) (by kernel_rfl) (by kernel_rfl) (fun _ _ _ h => h) (Or.inl ⟨by rfl, fun w' h' => ?_⟩) hS ?_
  · go_simp
  try simp only [Act.put, List.setIfInBounds_toArray, List.set_cons_zero, List.set_cons_succ]
  refine wpAnyH_ready (rs := [13]) (by kernel_rfl) (by simp) (AllReadyH.cons rfl (fun K hK => ?_) AllReadyH.nil)
  rw [if_pos (by rfl)]
  have hq4 := H4.out.1
  obtain ⟨hBr, hring⟩ := hq4.ringAt HM.out.1
  refine wp_store_mid 40 (.tmp 34) (.tmp 33) rfl r (p * 3) y.cs.toArray rfl rfl (ring_there hring (by rw [HM.out.2.1]; exact HM.out.2.2.2.2.2.2)) infI3 (all_oneCell_toArray y.one) ?_
  change K _ (w4.setCells r (p * 3) y.cs)
  have hk5 : Kept (fun k => k = r) w4 (w4.setCells r (p * 3) y.cs) := Kept.setCells (S := fun k => k = r) r rfl _ _ (Kept.refl _ _)
  have hr5 := ring_set hring (i := p) (by rw [HM.out.2.1]; exact HM.out.2.2.2.2.2.2) y
  obtain ⟨w5, hw5⟩ : ∃ z, w4.setCells r (p * 3) y.cs = z := ⟨_, rfl⟩
  rw [hw5] at hk5 hr5 ⊢
  have H5 : Hid (Pushed w w5 B g r p q q1 ⟨no, sz, a, n, c, d⟩ y) := pushed hq4 H4.out.2.1 H4.out.2.2.1 H4.out.2.2.2.1 HX.out HM.out.1 (H2Q.out.2.2.2.2.1 r (.inr (.inl (by rw [HM.out.1]; rfl)))) H2Q.out.2.2.2.2.2.1 hk5 hr5
  clear hq4 hBr hring hk5 hr5 hw5 H4 H3
  clear hS
  refine hK.out _ _ (⟨H5.out.row, H5.out.box⟩) (fun hS => ?_)
  clear hK K
  refine wpAnyH_done (by kernel_rfl) ?_ _
  have c4 := Qs.k4 H5.out.row
  have f4 := frozen_of_row w5 g 4 _ _ H5.out.row
  obtain ⟨k1, hk1⟩ : ∃ z : Int, z = (q1.L.length : Int) + 1 := ⟨_, rfl⟩
  have e6 : IntKind.i64.wrap ((q1.L.length : Int) + 1) = k1 := by have := HM.out.2.2.2.2.1; have := HM.out.2.2.2.2.2.1; rw [IntKind.wrap_i64]; omega
  have HK1 := Lib.hid hk1
  clear hk1
  go_wp2_with fail
  have hk6 : Kept (fun k => k = g) w5 (w5.setCell ⟨g, 4, none⟩ (.int .i64 k1)) := Kept.setCell (S := fun k => k = g) _ _ _ rfl
  have row6 : (w5.setCell ⟨g, 4, none⟩ (.int .i64 k1)).heap[g]? = some (.cells #[.int .i64 q1.I, .int .i64 q1.S, .slice q1.a q1.R.length q1.R.length, .int .i64 q1.f, .int .i64 k1, .int .i64 (sumS q1.L), .int .u64 q1.D] 122 (0, 0)) := by
    rw [heap_setCell_same _ g 4 _ _ _ H5.out.row]; rfl
  obtain ⟨w6, hw6⟩ : ∃ z, w5.setCell ⟨g, 4, none⟩ (.int .i64 k1) = z := ⟨_, rfl⟩
  rw [hw6] at hk6 row6 ⊢
  have H6 : Hid (Kept (fun k => k = g) w5 w6 ∧ w6.heap[g]? = some (.cells #[.int .i64 q1.I, .int .i64 q1.S, .slice q1.a q1.R.length q1.R.length, .int .i64 q1.f, .int .i64 k1, .int .i64 (sumS q1.L), .int .u64 q1.D] 122 (0, 0)) ∧ w6.heap[w.heap.size]? = some (.cells (Pi.cs ⟨no, sz, a, n, c, d⟩).toArray 40 (0, 0))) := ⟨hk6, row6, hk6.heap H5.out.box H2Q.out.2.2.2.2.2.2.2⟩
  clear hk6 row6 hw6 c4 f4
  obtain ⟨s1, hs1'⟩ : ∃ z : Int, z = sumS q1.L := ⟨_, rfl⟩
  obtain ⟨s2, hs2'⟩ : ∃ z : Int, z = s1 + sz := ⟨_, rfl⟩
  have hs3 : 0 ≤ s1 ∧ s1 ≤ 9223372036854775807 ∧ s2 ≤ 9223372036854775807 := by
    have h1 := H2.out.1.ok.sum
    have h2 := H2.out.1.ok.S1
    have h3 := sumS_pos H2.out.1.ok.sz
    have h4 := HI.out.2
    rw [← H2Q.out.1, ← H2Q.out.2.2.1] at h4
    omega
  have E7 : Hid (IntKind.i64.wrap (s1 + sz) = s2) := by have := hs3; show _ = _; rw [IntKind.wrap_i64]; omega
  have HSS : Hid (s1 = sumS q1.L ∧ s2 = s1 + sz) := ⟨hs1', hs2'⟩
  have c5 : w6.drew.cell? ⟨g, 5, none⟩ = some (.int .i64 s1) := by
    have := cell_of_row w6 g 5 _ _ (0, 0) H6.out.2.1
    rw [HSS.out.1]
    exact this
  have f5 : w6.drew.frozen? ⟨g, 5, none⟩ = false := frozen_of_row w6 g 5 _ _ H6.out.2.1
  have HS : Hid (w6.drew.heap[w.heap.size]? = some (.cells (Pi.cs ⟨no, sz, a, n, c, d⟩).toArray 40 (0, 0))) := H6.out.2.2
  clear hs1' hs2' hs3
  refine wp_region_held_drew (S := fun w' => w'.heap[w.heap.size]? = some (.cells (Pi.cs ⟨no, sz, a, n, c, d⟩).toArray 40 (0, 0))) (by kernel_rfl) HS.out (fun hS => ?_)
  refine tk 0 42 (.pointer (some ⟨g, 0, none⟩)) rfl rfl (by kernel_rfl) (by kernel_rfl) (by kernel_rfl) (fun _ _ _ h => h) (Or.inl ⟨by rfl, fun w' h' => ?_⟩) hS ?_
  · go_simp
  try simp only [Act.put, List.setIfInBounds_toArray, List.set_cons_zero, List.set_cons_succ]
  refine tk 1 43 (.pointer (some ⟨g, 0, none⟩)) rfl rfl (by kernel_rfl) (by kernel_rfl) (by kernel_rfl) (fun _ _ _ h => h) (Or.inl ⟨by rfl, fun w' h' => ?_⟩) hS ?_
  · go_simp
  try simp only [Act.put, List.setIfInBounds_toArray, List.set_cons_zero, List.set_cons_succ]
  refine tk 2 44 (.pointer (some ⟨g, 5, none⟩)) rfl rfl (by kernel_rfl) (by kernel_rfl) (by kernel_rfl) (fun _ _ _ h => h) (Or.inl ⟨by rfl, fun w' h' => ?_⟩) hS ?_
  · go_simp
  try simp only [Act.put, List.setIfInBounds_toArray, List.set_cons_zero, List.set_cons_succ]
  refine tk 4 46 (.pointer (some ⟨w.heap.size, 1, none⟩)) rfl rfl (by kernel_rfl) (by kernel_rfl) (by kernel_rfl) (fun _ _ _ h => h) (Or.inl ⟨by rfl, fun w' h' => ?_⟩) hS ?_
  · go_simp
  try simp only [Act.put, List.setIfInBounds_toArray, List.set_cons_zero, List.set_cons_succ]
  refine tk 5 47 (.int .i64 sz) rfl rfl (by kernel_rfl) (by kernel_rfl) (by kernel_rfl) (fun _ _ _ h => h) (Or.inl ⟨by rfl, fun w' h' => ?_⟩) hS ?_
  · have c1 := Pi.k1 h'
    simp only at c1
    go_simp
  try simp only [Act.put, List.setIfInBounds_toArray, List.set_cons_zero, List.set_cons_succ]
  refine wpAnyH_ready (rs := [3]) (by kernel_rfl) (by simp) (AllReadyH.cons rfl (fun K hK => ?_) AllReadyH.nil)
  rw [if_pos (by rfl)]
  go_wp2_with fail
  clear hS
  refine hK.out _ _ (HS.out) (fun hS => ?_)
  clear hK K
  try simp only [Act.put, List.setIfInBounds_toArray, List.set_cons_zero, List.set_cons_succ]
  refine tk 6 48 (.int .i64 s2) rfl rfl (by kernel_rfl) (by kernel_rfl) (by kernel_rfl) (fun _ _ _ h => h) (Or.inl ⟨by rfl, fun w' h' => ?_⟩) hS ?_
  · have e7 := E7.out
    go_simp
  try simp only [Act.put, List.setIfInBounds_toArray, List.set_cons_zero, List.set_cons_succ]
  refine tk 7 49 (.pointer (some ⟨g, 0, none⟩)) rfl rfl (by kernel_rfl) (by kernel_rfl) (by kernel_rfl) (fun _ _ _ h => h) (Or.inl ⟨by rfl, fun w' h' => ?_⟩) hS ?_
  · go_simp
  try simp only [Act.put, List.setIfInBounds_toArray, List.set_cons_zero, List.set_cons_succ]
  refine tk 8 50 (.pointer (some ⟨g, 5, none⟩)) rfl rfl (by kernel_rfl) (by kernel_rfl) (by kernel_rfl) (fun _ _ _ h => h) (Or.inl ⟨by rfl, fun w' h' => ?_⟩) hS ?_
  · go_simp
  try simp only [Act.put, List.setIfInBounds_toArray, List.set_cons_zero, List.set_cons_succ]
  refine wpAnyH_ready (rs := [9]) (by kernel_rfl) (by simp) (AllReadyH.cons rfl (fun K hK => ?_) AllReadyH.nil)
  rw [if_pos (by rfl)]
  go_wp2_with fail
  have hk7 : Kept (fun k => k = g) w6.drew (w6.drew.setCell ⟨g, 5, none⟩ (.int .i64 s2)) := Kept.setCell (S := fun k => k = g) _ _ _ rfl
  have row7 : (w6.drew.setCell ⟨g, 5, none⟩ (.int .i64 s2)).heap[g]? = some (.cells #[.int .i64 q1.I, .int .i64 q1.S, .slice q1.a q1.R.length q1.R.length, .int .i64 q1.f, .int .i64 k1, .int .i64 s2, .int .u64 q1.D] 122 (0, 0)) := by
    rw [heap_setCell_same _ g 5 _ _ _ (show w6.drew.heap[g]? = _ from H6.out.2.1)]; rfl
  obtain ⟨w7, hw7⟩ : ∃ z, w6.drew.setCell ⟨g, 5, none⟩ (.int .i64 s2) = z := ⟨_, rfl⟩
  rw [hw7] at hk7 row7
  change K _ (w6.drew.setCell ⟨g, 5, none⟩ (.int .i64 s2))
  rw [hw7]
  have H7 : Hid (Kept (fun k => k = g) w5 w7 ∧ w7.heap[g]? = some (.cells #[.int .i64 q1.I, .int .i64 q1.S, .slice q1.a q1.R.length q1.R.length, .int .i64 q1.f, .int .i64 k1, .int .i64 s2, .int .u64 q1.D] 122 (0, 0)) ∧ w7.heap[w.heap.size]? = some (.cells (Pi.cs ⟨no, sz, a, n, c, d⟩).toArray 40 (0, 0))) := ⟨H6.out.1.trans ((Kept.refl (fun k => k = g) w6).drew.trans hk7 (fun _ _ e => e)) (fun _ _ e => e), row7, hk7.heap HS.out H2Q.out.2.2.2.2.2.2.2⟩
  clear hk7 row7 hw7 H6 c5 f5 HS
  clear hS
  refine hK.out _ _ (H7.out.2.2) (fun hS => ?_)
  clear hK K
  refine wpAnyH_done (by kernel_rfl) ?_ _
  go_wp2_with fail
  go_ret
  refine ⟨by rw [HC.out, if_neg (Int.not_lt.2 h0'), HRM.out, if_pos HRT.out]; rfl, { q1 with R := q1.R.set p y, L := q1.L ++ [y] }, ?_, ?_, ?_, ?_⟩
  · have h2 := H2.out.1
    have hk7 := H7.out.1
    have hbr := (h2.ringAt HM.out.1).1
    refine push_fin h2.ok (by rw [HM.out.2.1]; exact HM.out.2.2.2.2.1) (by rw [HM.out.2.1]; exact HM.out.2.2.1) HM.out.1 hbr h2.base ?_ (hk7.heap H5.out.ring ?_) (fun z hz => ⟨(H5.out.data z hz).1.keep hk7 ?_, (H5.out.data z hz).2⟩) ⟨(H5.out.dy.1.own.mono (by omega)).keep hk7 ?_, H5.out.dy.2⟩ ?_ ?_
    · rw [H7.out.2.1]
      simp [Qs.cs, sumS_snoc, HK1.out, HSS.out.1, HSS.out.2, H5.out.dy.1.sz]
    · intro e
      have h1 := H5.out.ring
      rw [e, H5.out.row] at h1
      simp at h1
    · exact fun b hb e => H5.out.u8 (H5.out.data z hz).1 b hb e
    · exact fun b hb e => H5.out.u8 H5.out.dy.1.own b hb e
    · rw [H5.out.dy.1.sz]; exact h0'
    · rw [H5.out.dy.1.sz, H2Q.out.1, H2Q.out.2.2.1]; exact HI.out.2
  · rw [HP.out, if_neg (Int.not_lt.2 h0'), HRM.out, if_pos HRT.out]
    simp only [Qs.abs, H2Q.out.1, H2Q.out.2.1, H2Q.out.2.2.1, H2Q.out.2.2.2.1, List.map_append, List.map_cons, List.map_nil]
    have hit : y.it = Pi.it ⟨no, sz, a, n, c, d⟩ := by simp only [Pi.it, H5.out.dy.1.no, H5.out.dy.1.sz, H5.out.dy.1.d]
    rw [hit]
  · exact H5.out.kept.trans H7.out.1 (fun i _ e => .inl e)
  · intro k hk
    rcases hk with e | e | ⟨z, hz, e⟩
    · exact .inl (.inl e)
    · rcases H2Q.out.2.2.2.2.1 k (.inr (.inl e)) with h | h
      · exact .inl h
      · exact .inr (by omega)
    · rcases List.mem_append.1 hz with hz | hz
      · rcases H2Q.out.2.2.2.2.1 k (.inr (.inr ⟨z, hz, e⟩)) with h | h
        · exact .inl h
        · exact .inr (by omega)
      · simp at hz
        rw [hz] at e
        have := (H5.out.dy.1.own.blk_ge k e).1
        exact .inr (by omega)
end Go.Proofs.Ytpigpeehhadkjaa

/-
  What follows of what goes out up to a tick: plain facts. Conditions: those that the theorems name.
-/
import Derived.Test.YtpigpeehhadkjaaSpNew
namespace Go.Proofs.Ytpigpeehhadkjaa
open Go.RowKit Bkt

/-- What holds at first, and is kept by each one that goes out, holds at last. -/
theorem rel_ind (tick : Int) (P : Int → List Ab → List Ot → Prop)
    (step : ∀ (T : Int) (ls : List Ab) (o : List Ot), Oks ls T → P T ls o → (nx T ls).k = true → (nx T ls).t ≤ tick → P (nx T ls).t (ls.set (nx T ls).c ((ls.getD (nx T ls).c az).send (nx T ls).t)) (o ++ [⟨(nx T ls).t, (nx T ls).c, (ls.getD (nx T ls).c az).A.hd⟩])) :
    ∀ (m : Nat) (T : Int) (ls : List Ab) (o : List Ot), tot ls = m → Oks ls T → T ≤ tick → P T ls o →
      ∃ T', T ≤ T' ∧ T' ≤ tick ∧ Oks (rel tick T ls).1 T' ∧ P T' (rel tick T ls).1 (o ++ (rel tick T ls).2) ∧ ¬ ((nx T' (rel tick T ls).1).k = true ∧ (nx T' (rel tick T ls).1).t ≤ tick) := by
  intro m
  induction m with
  | zero =>
    intro T ls o hm hok hT hP
    have hg : ¬ ((nx T ls).k = true ∧ (nx T ls).t ≤ tick) := fun hg => by
      obtain ⟨h1, h2, _⟩ := (Inv.refl T ls).step hok hg.1
      have := tot_send h1 h2 (nx T ls).t
      omega
    rw [rel_no hg]
    exact ⟨T, Int.le_refl _, hT, hok, by simpa using hP, hg⟩
  | succ m ih =>
    intro T ls o hm hok hT hP
    by_cases hg : (nx T ls).k = true ∧ (nx T ls).t ≤ tick
    · obtain ⟨h1, h2, h3, _, _, _, h5, _⟩ := (Inv.refl T ls).step hok hg.1
      have hts := tot_send h1 h2 (nx T ls).t
      rw [rel_yes hok (Inv.refl T ls) hg.1 hg.2]
      obtain ⟨T', q1, q2, q3, q4, q5⟩ := ih _ _ _ (by omega) h5 hg.2 (step T ls o hok hP hg.1 hg.2)
      refine ⟨T', by omega, q2, q3, ?_, q5⟩
      simpa using q4
    · rw [rel_no hg]
      exact ⟨T, Int.le_refl _, hT, hok, by simpa using hP, hg⟩
/-- The drops have a bound. -/
def DB (N : Int) (ls : List Ab) : Prop := ∀ l ∈ ls, l.A.D ≤ N
theorem DB.set {N : Int} {ls : List Ab} (h : DB N ls) (c : Nat) {l : Ab} (hl : l.A.D ≤ N) : DB N (ls.set c l) := fun x hx => by
  rcases List.mem_or_eq_of_mem_set hx with hx | rfl
  · exact h x hx
  · exact hl
theorem DB.get {N : Int} {ls : List Ab} (h : DB N ls) (h0 : 0 ≤ N) (c : Nat) : (ls.getD c az).A.D ≤ N := by
  rw [List.getD_eq_getElem?_getD]
  cases hc : ls[c]? with
  | none => exact h0
  | some x => exact h x (List.mem_of_getElem? hc)
theorem DB.more {N M : Int} {ls : List Ab} (h : DB N ls) (hm : N ≤ M) : DB M ls := fun l hl => Int.le_trans (h l hl) hm
theorem DB.off {N : Int} {ls : List Ab} (h : DB N ls) (h0 : 0 ≤ N) (c : Int) (x : It) : DB (N + 1) (offL ls c x) := by
  unfold offL
  split
  · refine (h.more (by omega)).set _ ?_
    show ((ls.getD c.toNat az).A.push x).D ≤ _
    have := h.get h0 c.toNat
    unfold Aq.push
    split
    · omega
    · split
      · show (ls.getD c.toNat az).A.D ≤ _
        omega
      · show (ls.getD c.toNat az).A.D + 1 ≤ _
        omega
  · exact h.more (by omega)
/-- Behind a release no head is covered; the lanes are as they can be at its tick. -/
theorem rel_fin {tick T : Int} {ls : List Ab} {N : Int} (hok : Oks ls T) (hT : T ≤ tick) (htk : tick ≤ 18446744073709551615) (hD : DB N ls) (h0 : 0 ≤ N) :
    Oks (rel tick T ls).1 tick ∧ DB N (rel tick T ls).1 ∧ (rel tick T ls).1.length = ls.length ∧ ((nx tick (rel tick T ls).1).k = true → tick < (nx tick (rel tick T ls).1).t) := by
  obtain ⟨T', q1, q2, q3, q4, q5⟩ := rel_ind tick (fun _ l _ => DB N l ∧ l.length = ls.length) (fun T l o _ hP hk ht => ⟨hP.1.set _ (hP.1.get h0 _), by rw [List.length_set]; exact hP.2⟩) _ T ls [] rfl hok hT ⟨hD, rfl⟩
  have hoks : Oks (rel tick T ls).1 tick := fun l hl => (q3 l hl).later q2 htk
  refine ⟨hoks, q4.1, q4.2, fun hk => ?_⟩
  obtain ⟨b1, b2, b3, b4, _⟩ := best_yes (tn tick (rel tick T ls).1) _ hk
  have hb1 : (nx tick (rel tick T ls).1).c < (rel tick T ls).1.length := b1
  have hev : (tn T' (rel tick T ls).1 (nx tick (rel tick T ls).1).c).ev = true := by
    unfold tn
    rw [tu_iff T' tick]
    exact b2
  cases hk' : (nx T' (rel tick T ls).1).k with
  | false =>
    have := (best_no (tn T' (rel tick T ls).1) _ hk').2 _ hb1
    rw [this] at hev
    cases hev
  | true =>
    obtain ⟨_, _, _, c4, _⟩ := best_yes (tn T' (rel tick T ls).1) _ hk'
    have h2 : (nx T' (rel tick T ls).1).t ≤ (tn T' (rel tick T ls).1 (nx tick (rel tick T ls).1).c).at_ := c4 _ hb1 hev
    have h3 : tick < (nx T' (rel tick T ls).1).t := by
      rcases Int.lt_or_le tick (nx T' (rel tick T ls).1).t with h | h
      · exact h
      · exact absurd ⟨hk', h⟩ q5
    have e1 : (tn tick (rel tick T ls).1 (nx tick (rel tick T ls).1).c).at_ = max (whV ((rel tick T ls).1.getD (nx tick (rel tick T ls).1).c az).b ((rel tick T ls).1.getD (nx tick (rel tick T ls).1).c az).A.hd.sz) tick := (tu_ev b2).2.2
    have e2 : (tn T' (rel tick T ls).1 (nx tick (rel tick T ls).1).c).at_ = max (whV ((rel tick T ls).1.getD (nx tick (rel tick T ls).1).c az).b ((rel tick T ls).1.getD (nx tick (rel tick T ls).1).c az).A.hd.sz) T' := (tu_ev hev).2.2
    have h5 : (nx tick (rel tick T ls).1).t = (tn tick (rel tick T ls).1 (nx tick (rel tick T ls).1).c).at_ := b3.symm
    omega
/-- A shaper's lanes are as they can be. -/
theorem Sw.oks {W : World} {B g : Nat} {s : Sh} (h : Sw W B g s) {N : Int} (hD : DB N s.abs) (hN : N < 18446744073709551615) (hb : ∀ l ∈ s.abs, l.b.T ≤ s.T) (T0 : 0 ≤ s.T) (T1 : s.T ≤ 18446744073709551615) : Oks s.abs s.T := fun l hl => by
  obtain ⟨m, hm, rfl⟩ := List.mem_map.1 hl
  have hq := (h.lws m hm).qu
  have hd := hD _ hl
  replace hd : m.q.D ≤ N := hd
  refine ⟨(h.lws m hm).bk.1, ⟨fun x hx => ?_, ?_, hq.ok.S1, hq.ok.D0, by show m.q.D < _; omega, ?_, fun x hx => ?_⟩, hb _ hl, T0, T1⟩
  · obtain ⟨y, hy, rfl⟩ := List.mem_map.1 hx
    exact hq.ok.sz y hy
  · have := hq.ok.sum
    rw [← abs_size] at this
    exact this
  · have h1 := hq.ok.le
    have h2 := hq.ok.mI
    have h3 := hq.ok.I1
    show (m.q.L.map Pi.it).length ≤ _
    rw [List.length_map]
    omega
  · obtain ⟨y, hy, rfl⟩ := List.mem_map.1 hx
    exact (hq.data y hy).2.1
theorem off_bT {ls : List Ab} {T : Int} (h : ∀ l ∈ ls, l.b.T ≤ T) (h0 : 0 ≤ T) (c : Int) (x : It) : ∀ l ∈ offL ls c x, l.b.T ≤ T := by
  unfold offL
  split
  · intro l hl
    rcases List.mem_or_eq_of_mem_set hl with hl | rfl
    · exact h l hl
    · show (ls.getD c.toNat az).b.T ≤ T
      rw [List.getD_eq_getElem?_getD]
      cases hc : ls[c.toNat]? with
      | none => exact h0
      | some y => exact h y (List.mem_of_getElem? hc)
  · exact h
theorem off_len (ls : List Ab) (c : Int) (x : It) : (offL ls c x).length = ls.length := by
  unfold offL
  split
  · rw [List.length_set]
  · rfl
/-- A shaper that a law's call has made. -/
structure Lv (w W : World) (g : Nat) (s : Sh) (N : Int) : Prop where
  sw : Sw W w.heap.size g s
  n1 : 1 ≤ s.n
  below : Below w.heap.size w W
  db : DB N s.abs
  bT : ∀ l ∈ s.abs, l.b.T ≤ s.T
  T0 : 0 ≤ s.T
  T1 : s.T ≤ 18446744073709551615
  N0 : 0 ≤ N
theorem Lv.past {w W W' : World} {g : Nat} {s : Sh} {N : Int} (h : Lv w W g s N) (k : Below W.heap.size W W') : Lv w W' g s N := ⟨h.sw.below k, h.n1, h.below.trans (k.mono h.below.size), h.db, h.bT, h.T0, h.T1, h.N0⟩
theorem Lv.oks {w W : World} {g : Nat} {s : Sh} {N : Int} (h : Lv w W g s N) (hN : N < 18446744073709551615) : Oks s.abs s.T := h.sw.oks h.db hN h.bT h.T0 h.T1
theorem Lv.len {w W : World} {g : Nat} {s : Sh} {N : Int} (h : Lv w W g s N) : s.abs.length = s.n := by rw [abs_len]; exact h.sw.len

/-- New, for a law. -/
theorem lvNew {w : World} {W : World} (T : Int) (xa : Option Addr) (n c : Nat) (l : List Cs) (hr : Rcs W xa n l) (T0 : 0 ≤ T) (T1 : T ≤ 18446744073709551615) (hb : Below w.heap.size w W) (hm : mayB l = true) :
    Calls Try.prog 10 #[.int .u64 T, .slice xa n c] W fun e W' => ∃ g s, e = .returned (.tuple #[.pointer (some ⟨g, 0, none⟩), .int .i64 0]) ∧ Lv w W' g s 0 ∧ s.T = T ∧ s.n = l.length ∧ s.abs = l.map (Cs.new T) ∧ W.heap.size ≤ g ∧ Below W.heap.size W W' :=
  (sNew_any T xa n c l W hr T0 T1).mono (by
    rintro e W' ⟨hb', h | h⟩
    · obtain ⟨_, g, s, he, hsw, hT, hn, hab⟩ := h
      refine ⟨g, s, he, ⟨?_, ?_, hb.trans (hb'.mono hb.size), ?_, ?_, by omega, by omega, Int.le_refl _⟩, hT, hn, hab, hsw.base, hb'⟩
      · exact ⟨hsw.row, ⟨hsw.ptrs.1, by
          rcases hsw.ptrs.2 with h | ⟨r, c2, cur, h1, h2, h3⟩
          · exact .inl h
          · exact .inr ⟨r, c2, cur, h1, Nat.le_trans hb.size h2, h3⟩⟩, fun m hm => by
          have := hsw.lws m hm
          exact ⟨this.row, this.bk, ⟨this.qu.ok, this.qu.row, fun hne => by
            obtain ⟨r, e1, e2, e3⟩ := this.qu.ring hne
            exact ⟨r, e1, Nat.le_trans hb.size e2, e3⟩, fun x hx => ⟨(this.qu.data x hx).1.mono hb.size, (this.qu.data x hx).2⟩, Nat.le_trans hb.size this.qu.base⟩, Nat.le_trans hb.size this.bg, Nat.le_trans hb.size this.bb⟩, hsw.dis, hsw.len, hsw.le, Nat.le_trans hb.size hsw.base⟩
      · unfold mayB at hm
        simp only [Bool.and_eq_true, decide_eq_true_eq] at hm
        omega
      · rw [hab]
        intro x hx
        obtain ⟨y, _, rfl⟩ := List.mem_map.1 hx
        exact Int.le_refl _
      · rw [hab]
        intro x hx
        obtain ⟨y, _, rfl⟩ := List.mem_map.1 hx
        show T ≤ s.T
        omega
    · rw [hm] at h; cases h.1)
/-- Offer, for a law. -/
theorem lvOffer {w W : World} {g : Nat} {s : Sh} {N : Int} (h : Lv w W g s N) (hN : N < 18446744073709551615) (c : Int) (x : Pi) (hx : x.at_ W) (hd : x.d ≠ [] → ∀ b, blk x.a = some b → ¬ s.foot g b) :
    Calls Try.prog 17 #[.pointer (some ⟨g, 0, none⟩), .int .i64 c, x.v] W fun e W' => e = .returned (.int .i64 (offC s.abs c x.it)) ∧ ∃ s', Lv w W' g s' (N + 1) ∧ s'.T = s.T ∧ s'.n = s.n ∧ s'.abs = offL s.abs c x.it ∧ Kept (s.foot g) W W' ∧ ∀ k, s'.foot g k → s.foot g k ∨ W.heap.size ≤ k :=
  (sOffer_any w.heap.size g s c x W h.sw hx hd h.below.size (fun l hl => by
    have := h.db _ (List.mem_map.2 ⟨l, hl, rfl⟩)
    replace this : l.q.D ≤ N := this
    omega)).mono (by
    rintro e W' ⟨rfl, ls, hsw, hab, hk, hf⟩
    refine ⟨rfl, { s with ls := ls }, ⟨hsw, h.n1, h.below.trans (hk.below h.below.size (fun k hk => (h.sw.foot_lt hk).1)), ?_, ?_, h.T0, h.T1, by have := h.N0; omega⟩, rfl, rfl, hab, hk, hf⟩
    · show DB _ (ls.map La.abs)
      rw [hab]; exact h.db.off h.N0 _ _
    · show ∀ l ∈ ls.map La.abs, _
      rw [hab]; exact off_bT h.bT h.T0 _ _)
/-- Release, for a law. -/
theorem lvRelease {w W : World} {g : Nat} {s : Sh} {N : Int} (h : Lv w W g s N) (hN : N < 18446744073709551615) (tick : Int) (htk : tick ≤ 18446744073709551615) :
    Calls Try.prog 18 #[.pointer (some ⟨g, 0, none⟩), .int .u64 tick] W fun e W' => ∃ v n cap ys s', e = .returned (.slice v n cap) ∧ Ops W' W.heap.size v n cap ys ∧ ys.map Po.ot = (rel (max tick s.T) s.T s.abs).2 ∧ Lv w W' g s' N ∧ s'.T = max tick s.T ∧ s'.n = s.n ∧ s'.abs = (rel (max tick s.T) s.T s.abs).1 ∧ Kept (s.foot g) W W' ∧ ∀ k, s'.foot g k → s.foot g k :=
  (sRelease_any w.heap.size g s tick W h.sw h.n1 (h.oks hN) htk).mono (by
    rintro e W' ⟨v, n, cap, ys, ls, rfl, hops, hot, hsw, hab, hk, hf⟩
    have hT1 := h.T1
    have hfin := rel_fin (tick := max tick s.T) (h.oks hN) (by omega) (by omega) h.db h.N0
    refine ⟨v, n, cap, ys, { s with T := max tick s.T, ls := ls }, rfl, hops, hot, ⟨hsw, h.n1, h.below.trans (hk.below h.below.size (fun k hk => (h.sw.foot_lt hk).1)), ?_, ?_, ?_, ?_, h.N0⟩, rfl, rfl, hab, hk, hf⟩
    · show DB _ (ls.map La.abs)
      rw [hab]; exact hfin.2.1
    · show ∀ l ∈ ls.map La.abs, _ ≤ max tick s.T
      rw [hab]; exact fun l hl => (hfin.1 l hl).bT
    · show 0 ≤ max tick s.T
      have := h.T0; omega
    · show max tick s.T ≤ _
      omega)
end Go.Proofs.Ytpigpeehhadkjaa

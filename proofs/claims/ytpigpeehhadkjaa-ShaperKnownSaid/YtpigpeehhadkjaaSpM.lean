/-
  A shaper as the document has it: its lanes, the head that goes next, what goes out up to a tick; and plain facts on them. Conditions: those that the theorems name.
-/
import Derived.Test.YtpigpeehhadkjaaFiRef3
import Derived.Test.YtpigpeehhadkjaaSbRef
namespace Go.Proofs.Ytpigpeehhadkjaa
open Go.RowKit Bkt

/-- A lane, as the document has it: its bucket, its queue, what is counted. -/
structure Ab where
  b : Bu
  A : Aq
  o : Int
  d : Int
  u : Int
  y : Int
structure Tu where
  at_ : Int
  ev : Bool
/-- When a lane's head goes out, from a tick on. -/
def tuV (T : Int) (l : Ab) : Tu := if l.A.l = [] then ⟨0, false⟩ else ⟨max (whV l.b l.A.hd.sz) T, whB l.b l.A.hd.sz⟩
structure Be where
  c : Nat
  t : Int
  k : Bool
/-- The first of the least ones. -/
def bestF (ts : Nat → Tu) : Nat → Be
  | 0 => ⟨0, 0, false⟩
  | n + 1 => if (ts n).ev = true ∧ ((bestF ts n).k = false ∨ (ts n).at_ < (bestF ts n).t) then ⟨n, (ts n).at_, true⟩ else bestF ts n
def az : Ab := ⟨⟨0, 0, 0, 0⟩, ⟨0, 0, [], 0⟩, 0, 0, 0, 0⟩
def tn (T : Int) (ls : List Ab) (i : Nat) : Tu := tuV T (ls.getD i az)
def nx (T : Int) (ls : List Ab) : Be := bestF (tn T ls) ls.length
def up (x n : Int) : Int := IntKind.u64.wrap (x + n)
def Ab.push (l : Ab) (x : It) : Ab := { l with A := l.A.push x, o := up l.o 1, d := if l.A.code x = 110 then up l.d 1 else l.d }
def Ab.send (l : Ab) (t : Int) : Ab := { l with b := l.b.took t l.A.hd.sz, A := l.A.pop, u := up l.u 1, y := up l.y l.A.hd.sz }
def Ab.clear (l : Ab) : Ab := { l with A := { l.A with l := [] } }
structure Ot where
  t : Int
  c : Nat
  x : It
def tot (ls : List Ab) : Nat := (ls.map fun l => l.A.l.length).sum
/-- What goes out up to a tick, one after the other. -/
def relF (tick : Int) : Nat → Int → List Ab → List Ab × List Ot
  | 0, _, ls => (ls, [])
  | n + 1, T, ls => if (nx T ls).k = true ∧ (nx T ls).t ≤ tick then
      ((relF tick n (nx T ls).t (ls.set (nx T ls).c ((ls.getD (nx T ls).c az).send (nx T ls).t))).1,
        ⟨(nx T ls).t, (nx T ls).c, (ls.getD (nx T ls).c az).A.hd⟩ :: (relF tick n (nx T ls).t (ls.set (nx T ls).c ((ls.getD (nx T ls).c az).send (nx T ls).t))).2)
    else (ls, [])
def rel (tick T : Int) (ls : List Ab) : List Ab × List Ot := relF tick (tot ls) T ls

theorem best_no (ts : Nat → Tu) : ∀ n, (bestF ts n).k = false → bestF ts n = ⟨0, 0, false⟩ ∧ ∀ i, i < n → (ts i).ev = false
  | 0, _ => ⟨rfl, fun i h => by omega⟩
  | n + 1, h => by
    by_cases hc : (ts n).ev = true ∧ ((bestF ts n).k = false ∨ (ts n).at_ < (bestF ts n).t)
    · rw [bestF, if_pos hc] at h; cases h
    · rw [bestF, if_neg hc] at h ⊢
      obtain ⟨h1, h2⟩ := best_no ts n h
      refine ⟨h1, fun i hi => ?_⟩
      by_cases e : i = n
      · subst e
        cases he : (ts i).ev
        · rfl
        · exact absurd ⟨he, .inl h⟩ hc
      · exact h2 i (by omega)
theorem best_yes (ts : Nat → Tu) : ∀ n, (bestF ts n).k = true → (bestF ts n).c < n ∧ (ts (bestF ts n).c).ev = true ∧ (ts (bestF ts n).c).at_ = (bestF ts n).t ∧ (∀ i, i < n → (ts i).ev = true → (bestF ts n).t ≤ (ts i).at_) ∧ ∀ i, i < (bestF ts n).c → (ts i).ev = true → (bestF ts n).t < (ts i).at_
  | 0, h => by cases h
  | n + 1, h => by
    by_cases hc : (ts n).ev = true ∧ ((bestF ts n).k = false ∨ (ts n).at_ < (bestF ts n).t)
    · rw [bestF, if_pos hc]
      refine ⟨Nat.lt_succ_self n, hc.1, rfl, fun i hi he => ?_, fun i hi he => ?_⟩
      · show (ts n).at_ ≤ _
        by_cases e : i = n
        · subst e; omega
        · rcases hc.2 with hk | hk
          · have := (best_no ts n hk).2 i (by omega)
            rw [this] at he; cases he
          · cases hb : (bestF ts n).k with
            | false => have := (best_no ts n hb).2 i (by omega); rw [this] at he; cases he
            | true => have := (best_yes ts n hb).2.2.2.1 i (by omega) he; omega
      · show (ts n).at_ < _
        have hi : i < n := hi
        rcases hc.2 with hk | hk
        · have := (best_no ts n hk).2 i (by omega)
          rw [this] at he; cases he
        · cases hb : (bestF ts n).k with
          | false => have := (best_no ts n hb).2 i (by omega); rw [this] at he; cases he
          | true => have := (best_yes ts n hb).2.2.2.1 i (by omega) he; omega
    · rw [bestF, if_neg hc] at h ⊢
      obtain ⟨h1, h2, h3, h4, h5⟩ := best_yes ts n h
      refine ⟨by omega, h2, h3, fun i hi he => ?_, h5⟩
      by_cases e : i = n
      · subst e
        rcases Int.lt_or_le (ts i).at_ (bestF ts i).t with hl | hl
        · exact absurd ⟨he, .inr hl⟩ hc
        · exact hl
      · exact h4 i (by omega) he
theorem best_congr {ts us : Nat → Tu} : ∀ n, (∀ i, i < n → (ts i).ev = (us i).ev ∧ ((ts i).ev = true → (ts i).at_ = (us i).at_)) → bestF ts n = bestF us n
  | 0, _ => rfl
  | n + 1, h => by
    have ih := best_congr (ts := ts) (us := us) n (fun i hi => h i (by omega))
    obtain ⟨h1, h2⟩ := h n (by omega)
    rw [bestF, bestF, ih, h1]
    by_cases he : (us n).ev = true
    · rw [h2 (by rw [h1]; exact he)]
    · simp [he]

theorem fill_mono {b : Bu} (h : b.ok) {t s : Int} (hts : t ≤ s) : (b.fill t).K ≤ (b.fill s).K := by
  have hr := h.r0
  have hK := h.KB
  by_cases h1 : s ≤ b.T
  · rw [fill_low b h1, fill_low b (show t ≤ b.T by omega)]; exact Int.le_refl _
  · rw [fill_K (b := b) (show b.T < s by omega)]
    have hs : 0 ≤ b.r * (s - b.T) := Int.mul_nonneg hr (by omega)
    by_cases h2 : t ≤ b.T
    · rw [fill_low b h2]; omega
    · rw [fill_K (b := b) (show b.T < t by omega)]
      have : b.r * (t - b.T) ≤ b.r * (s - b.T) := Int.mul_le_mul_of_nonneg_left (by omega) hr
      omega
theorem wh_ge {b : Bu} (h : b.ok) {n : Int} (hw : whB b n = true) : b.T ≤ whV b n ∧ whV b n ≤ 18446744073709551615 := by
  by_cases hn : n ≤ b.K
  · have hv : whV b n = b.T := by rw [whV, if_pos hw, if_pos hn]
    rw [hv]
    exact ⟨Int.le_refl _, h.T1⟩
  · have := wait_yes h (show b.K < n by omega) hw
    omega
theorem covered {b : Bu} (h : b.ok) {n t : Int} (hw : whB b n = true) (ht : whV b n ≤ t) : n ≤ (b.fill t).K := by
  by_cases hn : n ≤ b.K
  · have hv : whV b n = b.T := by rw [whV, if_pos hw, if_pos hn]
    have h1 := fill_mono h (t := b.T) (s := t) (by omega)
    rw [fill_low b (Int.le_refl _)] at h1
    omega
  · have := (wait_yes h (show b.K < n by omega) hw).2.2.2
    have := fill_mono h ht
    omega
theorem wh_fit (b : Bu) (h : b.ok) (n : Int) : 0 ≤ whV b n ∧ whV b n ≤ 18446744073709551615 := by
  cases hw : whB b n with
  | false => rw [whV, hw]; simp
  | true => have := wh_ge h hw; have := h.T0; omega
theorem fill_T {b : Bu} {t : Int} (h : b.T ≤ t) : (b.fill t).T = t := by
  by_cases h1 : t ≤ b.T
  · rw [fill_low b h1]; omega
  · rw [Bu.fill, if_neg h1]
theorem took_T (b : Bu) (t n : Int) : (b.took t n).T = (b.fill t).T := by
  unfold Bu.took
  split <;> rfl
theorem fill_rB (b : Bu) (t : Int) : (b.fill t).r = b.r ∧ (b.fill t).B = b.B := by
  unfold Bu.fill
  split <;> exact ⟨rfl, rfl⟩
theorem took_rB (b : Bu) (t n : Int) : (b.took t n).r = b.r ∧ (b.took t n).B = b.B := by
  unfold Bu.took
  split <;> exact fill_rB b t

/-- A lane as it can be at a tick. -/
structure Ab.ok (l : Ab) (T : Int) : Prop where
  b : l.b.ok
  A : l.A.ok
  bT : l.b.T ≤ T
  T0 : 0 ≤ T
  T1 : T ≤ 18446744073709551615
theorem hd_mem {A : Aq} (h : A.l ≠ []) : A.hd ∈ A.l := by
  unfold Aq.hd
  cases hl : A.l with
  | nil => exact absurd hl h
  | cons x t => simp
theorem Ab.ok.hd {l : Ab} {T : Int} (h : l.ok T) (hne : l.A.l ≠ []) : 0 ≤ l.A.hd.sz ∧ l.A.hd.sz ≤ 9223372036854775807 := by
  have h0 := h.A.sz _ (hd_mem hne)
  refine ⟨h0, ?_⟩
  have hs := h.A.sum
  have h1 := h.A.S1
  unfold Aq.size at hs
  cases hl : l.A.l with
  | nil => exact absurd hl hne
  | cons x t =>
    have : l.A.hd = x := by unfold Aq.hd; rw [hl]; rfl
    rw [this]
    rw [hl] at hs
    have ht : 0 ≤ (t.map It.sz).sum := szs_pos (fun y hy => h.A.sz y (by rw [hl]; exact List.mem_cons_of_mem _ hy))
    simp only [List.map_cons, List.sum_cons] at hs
    omega
theorem tu_ev {T : Int} {l : Ab} (h : (tuV T l).ev = true) : l.A.l ≠ [] ∧ whB l.b l.A.hd.sz = true ∧ (tuV T l).at_ = max (whV l.b l.A.hd.sz) T := by
  unfold tuV at h ⊢
  by_cases hl : l.A.l = []
  · rw [if_pos hl] at h; cases h
  · rw [if_neg hl] at h ⊢; exact ⟨hl, h, rfl⟩
theorem tu_iff (T T' : Int) (l : Ab) : (tuV T l).ev = (tuV T' l).ev := by
  unfold tuV
  split <;> rfl
theorem pop_ok {A : Aq} (h : A.ok) : A.pop.ok := by
  have ht : ∀ x ∈ A.l.tail, x ∈ A.l := fun x hx => List.mem_of_mem_tail hx
  refine ⟨fun x hx => h.sz x (ht x hx), ?_, h.S1, h.D0, h.D1, ?_, fun x hx => h.byt x (ht x hx)⟩
  · have := h.sum
    unfold Aq.size at this ⊢
    show (A.l.tail.map It.sz).sum ≤ A.S
    cases hl : A.l with
    | nil => rw [hl] at this; exact this
    | cons x t =>
      rw [hl] at this
      have := h.sz x (by rw [hl]; exact List.mem_cons_self)
      simp at this ⊢
      simp at *
      omega
  · have := h.len
    show A.l.tail.length ≤ 65536
    rw [List.length_tail]
    omega
theorem Ab.ok.send {l : Ab} {T t : Int} (h : l.ok T) (hne : l.A.l ≠ []) (ht : T ≤ t) (h1 : t ≤ 18446744073709551615) : (l.send t).ok t := by
  have hh := h.hd hne
  have hT := h.bT
  have h0 := h.T0
  refine ⟨h.b.took h1 hh.1, pop_ok h.A, ?_, by omega, h1⟩
  show (l.b.took t _).T ≤ t
  rw [took_T, fill_T (by omega)]
  exact Int.le_refl _
theorem Ab.ok.later {l : Ab} {T t : Int} (h : l.ok T) (ht : T ≤ t) (h1 : t ≤ 18446744073709551615) : l.ok t := ⟨h.b, h.A, by have := h.bT; omega, by have := h.T0; omega, h1⟩
def Oks (ls : List Ab) (T : Int) : Prop := ∀ l ∈ ls, l.ok T
theorem Oks.get {ls : List Ab} {T : Int} (h : Oks ls T) {i : Nat} (hi : i < ls.length) : (ls.getD i az).ok T := by
  rw [List.getD_eq_getElem?_getD, List.getElem?_eq_getElem hi]
  exact h _ (List.getElem_mem hi)
theorem Oks.set {ls : List Ab} {T t : Int} (h : Oks ls T) (ht : T ≤ t) (h1 : t ≤ 18446744073709551615) (c : Nat) {l : Ab} (hl : l.ok t) : Oks (ls.set c l) t := fun x hx => by
  rcases List.mem_or_eq_of_mem_set hx with hx | rfl
  · exact (h x hx).later ht h1
  · exact hl
theorem getD_set_self {α : Type} (ls : List α) (c : Nat) (l z : α) (hc : c < ls.length) : (ls.set c l).getD c z = l := by
  rw [List.getD_eq_getElem?_getD, List.getElem?_set_self hc]; rfl
theorem getD_set_ne {α : Type} (ls : List α) (c i : Nat) (l z : α) (hc : c ≠ i) : (ls.set c l).getD i z = ls.getD i z := by
  rw [List.getD_eq_getElem?_getD, List.getElem?_set_ne hc, ← List.getD_eq_getElem?_getD]
/-- The tick at which the shaper's turns were first asked, and one behind it, tell the same. -/
structure Inv (T0 T : Int) (ls : List Ab) : Prop where
  le : T0 ≤ T
  at_ : ∀ i, i < ls.length → (tn T0 ls i).ev = true → T ≤ (tn T0 ls i).at_
theorem Inv.refl (T : Int) (ls : List Ab) : Inv T T ls := ⟨Int.le_refl _, fun _ _ h => by
  have := (tu_ev h).2.2
  unfold tn
  omega⟩
theorem Inv.same {T0 T : Int} {ls : List Ab} (h : Inv T0 T ls) {i : Nat} (hi : i < ls.length) (he : (tn T0 ls i).ev = true) : (tn T0 ls i).at_ = (tn T ls i).at_ := by
  have h1 := h.at_ i hi he
  have h2 := h.le
  have e0 := (tu_ev he).2.2
  have e1 := (tu_ev (T := T) (l := ls.getD i az) (by rw [tu_iff T T0]; exact he)).2.2
  unfold tn at *
  omega
theorem Inv.nxE {T0 T : Int} {ls : List Ab} (h : Inv T0 T ls) : nx T0 ls = nx T ls :=
  best_congr ls.length fun _ hi => ⟨tu_iff _ _ _, fun he => h.same hi he⟩
theorem Inv.step {T0 T : Int} {ls : List Ab} (h : Inv T0 T ls) (hok : Oks ls T) (hk : (nx T ls).k = true) :
    (nx T ls).c < ls.length ∧ (ls.getD (nx T ls).c az).A.l ≠ [] ∧ T ≤ (nx T ls).t ∧ (nx T ls).t ≤ 18446744073709551615 ∧ whB (ls.getD (nx T ls).c az).b (ls.getD (nx T ls).c az).A.hd.sz = true ∧ whV (ls.getD (nx T ls).c az).b (ls.getD (nx T ls).c az).A.hd.sz ≤ (nx T ls).t ∧
      Oks (ls.set (nx T ls).c ((ls.getD (nx T ls).c az).send (nx T ls).t)) (nx T ls).t ∧
      Inv T0 (nx T ls).t (ls.set (nx T ls).c ((ls.getD (nx T ls).c az).send (nx T ls).t)) := by
  obtain ⟨h1, h2, h3, h4, h5⟩ := best_yes (tn T ls) ls.length hk
  rw [show bestF (tn T ls) ls.length = nx T ls from rfl] at h1 h2 h3 h4 h5
  have hlen : (nx T ls).c < ls.length := h1
  have hc := hok.get hlen
  obtain ⟨e1, e2, e3⟩ := tu_ev h2
  have hh := hc.hd e1
  have hw := wh_ge hc.b e2
  have e4 : (nx T ls).t = max (whV (ls.getD (nx T ls).c az).b (ls.getD (nx T ls).c az).A.hd.sz) T := h3.symm.trans e3
  have hT1 := hc.T1
  have hTt : T ≤ (nx T ls).t := by omega
  have ht1 : (nx T ls).t ≤ 18446744073709551615 := by
    have := hw.2
    omega
  have hsend := hc.send e1 hTt ht1
  have hle := h.le
  refine ⟨hlen, e1, hTt, ht1, e2, by omega, hok.set hTt ht1 _ hsend, by omega, fun i hi he => ?_⟩
  rw [List.length_set] at hi
  by_cases e : (nx T ls).c = i
  · subst e
    unfold tn at he ⊢
    rw [getD_set_self _ _ _ _ hlen] at he ⊢
    obtain ⟨f1, f2, f3⟩ := tu_ev he
    have hg := wh_ge hsend.b f2
    have hT' : ((ls.getD (nx T ls).c az).send (nx T ls).t).b.T = (nx T ls).t := by
      show (Bu.took _ _ _).T = _
      rw [took_T, fill_T (by have := hc.bT; omega)]
    omega
  · unfold tn at he ⊢
    rw [getD_set_ne _ _ _ _ _ e] at he ⊢
    have hi2 : (tn T ls i).ev = true := by unfold tn; rw [tu_iff T T0]; exact he
    have := h4 i hi hi2
    have hs := h.same hi he
    unfold tn at this hs
    omega
theorem tot_set (ls : List Ab) (c : Nat) (l : Ab) (hc : c < ls.length) : tot (ls.set c l) + (ls.getD c az).A.l.length = tot ls + l.A.l.length := by
  induction ls generalizing c with
  | nil => simp at hc
  | cons x t ih =>
    cases c with
    | zero => simp [tot]; omega
    | succ c =>
      have := ih c (by simpa using hc)
      simp only [tot, List.set_cons_succ, List.map_cons, List.sum_cons, List.getD_cons_succ] at this ⊢
      omega
theorem tot_send {ls : List Ab} {c : Nat} (hc : c < ls.length) (hne : (ls.getD c az).A.l ≠ []) (t : Int) : tot (ls.set c ((ls.getD c az).send t)) + 1 = tot ls := by
  have := tot_set ls c ((ls.getD c az).send t) hc
  have h2 : ((ls.getD c az).send t).A.l.length = (ls.getD c az).A.l.length - 1 := by
    show ((ls.getD c az).A.l.tail).length = _
    rw [List.length_tail]
  have h3 : 0 < (ls.getD c az).A.l.length := List.length_pos_iff.2 hne
  omega
/-- One more goes out. -/
theorem rel_yes {tick T T0 : Int} {ls : List Ab} (hok : Oks ls T) (hi : Inv T0 T ls) (hk : (nx T ls).k = true) (ht : (nx T ls).t ≤ tick) :
    rel tick T ls = ((rel tick (nx T ls).t (ls.set (nx T ls).c ((ls.getD (nx T ls).c az).send (nx T ls).t))).1,
      ⟨(nx T ls).t, (nx T ls).c, (ls.getD (nx T ls).c az).A.hd⟩ :: (rel tick (nx T ls).t (ls.set (nx T ls).c ((ls.getD (nx T ls).c az).send (nx T ls).t))).2) := by
  obtain ⟨h1, h2, _⟩ := hi.step hok hk
  have h3 := tot_send h1 h2 (nx T ls).t
  conv => lhs; rw [rel, ← h3, relF, if_pos ⟨hk, ht⟩]
  rfl
/-- No more goes out. -/
theorem rel_no {tick T : Int} {ls : List Ab} (h : ¬ ((nx T ls).k = true ∧ (nx T ls).t ≤ tick)) : rel tick T ls = (ls, []) := by
  unfold rel
  cases tot ls with
  | zero => rfl
  | succ n => rw [relF, if_neg h]
end Go.Proofs.Ytpigpeehhadkjaa

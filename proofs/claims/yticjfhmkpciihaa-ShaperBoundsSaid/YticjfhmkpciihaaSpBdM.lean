/-
  ShaperBounds' plain facts: what goes out is within its class's burst and rate, in the order of its offers. Conditions: those that the theorems name.
-/
import Derived.Test.YticjfhmkpciihaaSpEaM
namespace Go.Proofs.Yticjfhmkpciihaa
open Go.RowKit Bkt

/-- What one class's items have together. -/
def smC (c : Nat) : List Ot → Int
  | [] => 0
  | x :: t => (if x.c = c then x.x.sz else 0) + smC c t
theorem smC_app (c : Nat) : ∀ (l m : List Ot), smC c (l ++ m) = smC c l + smC c m
  | [], m => by simp [smC]
  | x :: t, m => by rw [List.cons_append, smC, smC, smC_app c t m]; omega
/-- Its items' numbers. -/
def noC (c : Nat) (o : List Ot) : List Int := (o.filter fun x => x.c == c).map fun x => x.x.no
/-- Within each class's burst and rate. -/
def BdP (l : List Cs) (o : List Ot) : Prop := ∀ (i k : Nat) (x y : Ot) (cl : Cs), o[i]? = some x → o[k]? = some y → i ≤ k → y.c = x.c → l[x.c]? = some cl → x.t ≤ y.t ∧ smC x.c ((o.take (k + 1)).drop i) ≤ cl.B + cl.r * (y.t - x.t)
/-- A shaper and what went out of it. -/
structure Bd (l : List Cs) (off : Nat → List Int) (M : Int) (T : Int) (ls : List Ab) (o : List Ot) : Prop where
  len : ls.length = l.length
  rb : ∀ (c : Nat) (cl : Cs), l[c]? = some cl → (ls.getD c az).b.r = cl.r ∧ (ls.getD c az).b.B = cl.B ∧ (ls.getD c az).A.I = cl.I ∧ (ls.getD c az).A.S = cl.S
  cls : ∀ x ∈ o, x.c < ls.length ∧ 0 ≤ x.x.sz ∧ 0 ≤ x.t ∧ x.t ≤ T ∧ x.x.sz ≤ 2048
  srt : ∀ (i : Nat) (x y : Ot), o[i]? = some x → o[i + 1]? = some y → x.t ≤ y.t
  q : ∀ c, c < ls.length → ∀ x ∈ (ls.getD c az).A.l, x.sz ≤ 2048
  bi : ∀ (i : Nat) (x : Ot), o[i]? = some x → x.t ≤ (ls.getD x.c az).b.T ∧ smC x.c (o.drop i) + (ls.getD x.c az).b.K ≤ (ls.getD x.c az).b.B + (ls.getD x.c az).b.r * ((ls.getD x.c az).b.T - x.t)
  bp : BdP l o
  off : ∀ c, c < ls.length → off c = noC c o ++ (ls.getD c az).A.l.map It.no
  cnt : (o.length : Int) + (tot ls : Int) ≤ M
theorem drop_snoc {α : Type} (o : List α) (z : α) (i : Nat) (hi : i ≤ o.length) : (o ++ [z]).drop i = o.drop i ++ [z] := by rw [List.drop_append_of_le_length hi]
theorem hd_no {A : Aq} (h : A.l ≠ []) : A.l.map It.no = A.hd.no :: A.pop.l.map It.no := by
  unfold Aq.hd Aq.pop
  cases hl : A.l with
  | nil => exact absurd hl h
  | cons x t => rfl
theorem Bd.step {l : List Cs} {off : Nat → List Int} {M T : Int} {ls : List Ab} {o : List Ot} (h : Bd l off M T ls o) (hok : Oks ls T) (hk : (nx T ls).k = true) :
    Bd l off M (nx T ls).t (ls.set (nx T ls).c ((ls.getD (nx T ls).c az).send (nx T ls).t)) (o ++ [⟨(nx T ls).t, (nx T ls).c, (ls.getD (nx T ls).c az).A.hd⟩]) := by
  obtain ⟨h1, h2, h3, h4, hwb, hwv, h5, h6⟩ := (Inv.refl T ls).step hok hk
  have hc := hok.get h1
  have hh := hc.hd h2
  generalize hz : nx T ls = z at *
  obtain ⟨zc, zt, zk⟩ := z
  simp only at h1 h2 h3 h4 hwb hwv h5 h6 hc hh ⊢
  have htot := tot_send h1 h2 zt
  have hcov := covered hc.b hwb hwv
  have hbT := hc.bT
  have hT0 := hc.T0
  have hself := getD_set_self ls zc ((ls.getD zc az).send zt) az h1
  have hne : ∀ i, zc ≠ i → (ls.set zc ((ls.getD zc az).send zt)).getD i az = ls.getD i az := fun i hi => getD_set_ne _ _ _ _ _ hi
  have hst : ((ls.getD zc az).send zt).b = (ls.getD zc az).b.took zt (ls.getD zc az).A.hd.sz := rfl
  have htr := took_rB (ls.getD zc az).b zt (ls.getD zc az).A.hd.sz
  have htT : ((ls.getD zc az).b.took zt (ls.getD zc az).A.hd.sz).T = zt := by rw [took_T, fill_T (by omega)]
  have htK : ((ls.getD zc az).b.took zt (ls.getD zc az).A.hd.sz).K = ((ls.getD zc az).b.fill zt).K - (ls.getD zc az).A.hd.sz := by
    unfold Bu.took
    rw [if_pos hcov]
  have hfK : ((ls.getD zc az).b.fill zt).K ≤ (ls.getD zc az).b.K + (ls.getD zc az).b.r * (zt - (ls.getD zc az).b.T) := by
    by_cases e : zt ≤ (ls.getD zc az).b.T
    · rw [fill_low _ e]
      have : zt - (ls.getD zc az).b.T = 0 := by omega
      rw [this, Int.mul_zero]
      omega
    · rw [fill_K (by omega)]
      omega
  have hfB := fill_le hc.b zt
  have hhs : (ls.getD zc az).A.hd.sz ≤ 2048 := h.q zc h1 _ (hd_mem h2)
  -- the bucket's bound, for each item of the class
  have hbi : ∀ (i : Nat) (x : Ot), (o ++ [Ot.mk zt zc (ls.getD zc az).A.hd])[i]? = some x → x.t ≤ ((ls.set zc ((ls.getD zc az).send zt)).getD x.c az).b.T ∧ smC x.c ((o ++ [Ot.mk zt zc (ls.getD zc az).A.hd]).drop i) + ((ls.set zc ((ls.getD zc az).send zt)).getD x.c az).b.K ≤ ((ls.set zc ((ls.getD zc az).send zt)).getD x.c az).b.B + ((ls.set zc ((ls.getD zc az).send zt)).getD x.c az).b.r * (((ls.set zc ((ls.getD zc az).send zt)).getD x.c az).b.T - x.t) := by
    intro i x hx
    have hi := (List.getElem?_eq_some_iff.1 hx).1
    rw [List.length_append] at hi
    simp at hi
    by_cases hlt : i < o.length
    · rw [List.getElem?_append_left hlt] at hx
      have hb := h.bi i x hx
      have hxT := (h.cls x (List.mem_of_getElem? hx)).2.2.2.1
      rw [drop_snoc o _ i (by omega), smC_app]
      by_cases e : zc = x.c
      · rw [← e] at hb
        rw [← e, hself, hst, htT, htK, htr.1, htr.2]
        have e2 : smC zc [Ot.mk zt zc (ls.getD zc az).A.hd] = (ls.getD zc az).A.hd.sz := by simp [smC]
        rw [e2]
        have e3 : (ls.getD zc az).b.r * (zt - x.t) = (ls.getD zc az).b.r * (zt - (ls.getD zc az).b.T) + (ls.getD zc az).b.r * ((ls.getD zc az).b.T - x.t) := by rw [← Int.mul_add]; congr 1; omega
        omega
      · rw [hne _ e]
        have e2 : smC x.c [Ot.mk zt zc (ls.getD zc az).A.hd] = 0 := by simp [smC, e]
        rw [e2]
        omega
    · have hio : i = o.length := by omega
      rw [List.getElem?_append_right (by omega), hio, Nat.sub_self] at hx
      simp at hx
      subst hx
      rw [hio, drop_snoc o _ _ (Nat.le_refl _), List.drop_length, List.nil_append, hself, hst, htT, htK, htr.1, htr.2]
      have e2 : smC zc [Ot.mk zt zc (ls.getD zc az).A.hd] = (ls.getD zc az).A.hd.sz := by simp [smC]
      show _ ∧ smC zc [_] + _ ≤ _ + _ * (zt - zt)
      rw [e2, Int.sub_self, Int.mul_zero]
      refine ⟨Int.le_refl _, ?_⟩
      omega
  refine ⟨by rw [List.length_set]; exact h.len, fun c cl hcl => ?_, fun x hx => ?_, fun i x y hx hy => ?_, fun c hcl x hx => ?_, hbi, fun i k x y cl hx hy hik hyc hcl => ?_, fun c hcl => ?_, ?_⟩
  · by_cases e : zc = c
    · subst e
      rw [hself, hst, htr.1, htr.2]
      exact h.rb zc cl hcl
    · rw [hne _ e]; exact h.rb c cl hcl
  · rw [List.length_set]
    rcases List.mem_append.1 hx with hx | hx
    · have := h.cls x hx
      refine ⟨this.1, this.2.1, this.2.2.1, by omega, this.2.2.2.2⟩
    · simp at hx
      subst hx
      exact ⟨h1, hh.1, by show 0 ≤ zt; omega, Int.le_refl _, hhs⟩
  · rcases snoc_at hx hy with ⟨e1, e2⟩ | ⟨e1, e2⟩
    · exact h.srt i x y e1 e2
    · subst e2
      have := (h.cls x (List.mem_of_getLast? e1)).2.2.2.1
      show x.t ≤ zt
      omega
  · rw [List.length_set] at hcl
    by_cases e : zc = c
    · subst e
      rw [hself] at hx
      exact h.q zc hcl x (List.mem_of_mem_tail hx)
    · rw [hne _ e] at hx
      exact h.q c hcl x hx
  · have hk2 := (List.getElem?_eq_some_iff.1 hy).1
    rw [List.length_append] at hk2
    simp at hk2
    by_cases hlt : k < o.length
    · rw [List.getElem?_append_left hlt] at hy
      rw [List.getElem?_append_left (by omega)] at hx
      rw [List.take_append_of_le_length (by omega)]
      exact h.bp i k x y cl hx hy hik hyc hcl
    · have hko : k = o.length := by omega
      rw [List.getElem?_append_right (by omega), hko, Nat.sub_self] at hy
      simp at hy
      subst hy
      have hb := hbi i x hx
      have hxc : zc = x.c := hyc
      have hrb := h.rb x.c cl hcl
      rw [List.take_of_length_le (by simp; omega)]
      rw [← hxc] at hb hrb ⊢
      rw [hself, hst, htT, htr.1, htr.2, hrb.1, hrb.2.1, htK] at hb
      refine ⟨hb.1, ?_⟩
      have := hb.2
      show smC zc _ ≤ cl.B + cl.r * (zt - x.t)
      omega
  · rw [List.length_set] at hcl
    have hoff := h.off c hcl
    have e0 : noC c (o ++ [Ot.mk zt zc (ls.getD zc az).A.hd]) = noC c o ++ (if zc = c then [(ls.getD zc az).A.hd.no] else []) := by
      unfold noC
      rw [List.filter_append, List.map_append]
      congr 1
      by_cases e : zc = c
      · simp [e]
      · simp [e]
    rw [e0]
    by_cases e : zc = c
    · subst e
      rw [hself, if_pos rfl, hoff, hd_no h2, List.append_assoc]
      rfl
    · rw [hne _ e, if_neg e, List.append_nil]
      exact hoff
  · have h1 := h.cnt
    have e : (o ++ [Ot.mk zt zc (ls.getD zc az).A.hd]).length = o.length + 1 := by simp
    rw [e]
    omega
/-- Behind a release. -/
theorem Bd.rel {l : List Cs} {off : Nat → List Int} {M T tick : Int} {ls : List Ab} {o : List Ot} (h : Bd l off M T ls o) (hok : Oks ls T) (hT : T ≤ tick) : Bd l off M tick (rel tick T ls).1 (o ++ (Go.Proofs.Yticjfhmkpciihaa.rel tick T ls).2) := by
  obtain ⟨T', _, q2, _, hP, _⟩ := rel_ind tick (fun T l' o' => Bd l off M T l' o') (fun T l' o' ho hP hk _ => hP.step ho hk) _ T ls o rfl hok hT h
  exact ⟨hP.len, hP.rb, fun x hx => (by have := hP.cls x hx; exact ⟨this.1, this.2.1, this.2.2.1, by omega, this.2.2.2.2⟩), hP.srt, hP.q, hP.bi, hP.bp, hP.off, hP.cnt⟩
/-- Behind an offer: a class's queue has one more, or not. -/
theorem Bd.off_ok {l : List Cs} {off : Nat → List Int} {M T : Int} {ls : List Ab} {o : List Ot} (h : Bd l off M T ls o) {c : Nat} (hc : c < ls.length) {x : It} (hok : offOk ls (c : Int) x = true) (hr : (ls.getD c az).A.room x.sz = true) :
    Bd l (fun d => if d = c then off d ++ [x.no] else off d) (M + 1) T (offL ls (c : Int) x) o := by
  have hx : 0 ≤ x.sz ∧ x.sz ≤ 2048 := by
    unfold offOk at hok
    simp only [Bool.and_eq_true, decide_eq_true_eq] at hok
    exact hok.2.2
  have hL : offL ls (c : Int) x = ls.set c ((ls.getD c az).push x) := by unfold offL; rw [hok, if_pos rfl, Int.toNat_natCast]
  rw [hL]
  have hp : (ls.getD c az).A.push x = { (ls.getD c az).A with l := (ls.getD c az).A.l ++ [x] } := by
    unfold Aq.push
    rw [if_neg (by omega), if_pos hr]
  have hself := getD_set_self ls c ((ls.getD c az).push x) az hc
  have hne : ∀ i, c ≠ i → (ls.set c ((ls.getD c az).push x)).getD i az = ls.getD i az := fun i hi => getD_set_ne _ _ _ _ _ hi
  have hb : ((ls.getD c az).push x).b = (ls.getD c az).b := rfl
  have hA : ((ls.getD c az).push x).A = { (ls.getD c az).A with l := (ls.getD c az).A.l ++ [x] } := hp
  refine ⟨by rw [List.length_set]; exact h.len, fun d cl hcl => ?_, fun y hy => by rw [List.length_set]; exact h.cls y hy, h.srt, fun d hd y hy => ?_, fun i y hy => ?_, h.bp, fun d hd => ?_, ?_⟩
  · by_cases e : c = d
    · subst e; rw [hself, hb, hA]; exact h.rb c cl hcl
    · rw [hne _ e]; exact h.rb d cl hcl
  · rw [List.length_set] at hd
    by_cases e : c = d
    · subst e
      rw [hself, hA] at hy
      rcases List.mem_append.1 hy with hy | hy
      · exact h.q c hc y hy
      · simp at hy; subst hy; exact hx.2
    · rw [hne _ e] at hy; exact h.q d hd y hy
  · by_cases e : c = y.c
    · rw [← e, hself, hb]
      have := h.bi i y hy
      rw [← e] at this
      exact this
    · rw [hne _ e]; exact h.bi i y hy
  · rw [List.length_set] at hd
    by_cases e : d = c
    · subst e
      rw [hself, hA, if_pos rfl, h.off d hd, List.map_append, List.append_assoc]; rfl
    · rw [hne _ (fun e2 => e e2.symm), if_neg e]; exact h.off d hd
  · have h1 := h.cnt
    have h2 := tot_set ls c ((ls.getD c az).push x) hc
    have h3 : ((ls.getD c az).push x).A.l.length = (ls.getD c az).A.l.length + 1 := by rw [hA]; simp
    omega
theorem Bd.off_no {l : List Cs} {off : Nat → List Int} {M T : Int} {ls : List Ab} {o : List Ot} (h : Bd l off M T ls o) {c : Nat} (hc : c < ls.length) {x : It} (hr : offOk ls (c : Int) x = false ∨ (ls.getD c az).A.room x.sz = false) :
    Bd l off (M + 1) T (offL ls (c : Int) x) o := by
  have hcnt := h.cnt
  cases hok : offOk ls (c : Int) x with
  | false =>
    have hL : offL ls (c : Int) x = ls := by unfold offL; rw [hok]; rfl
    rw [hL]
    exact ⟨h.len, h.rb, h.cls, h.srt, h.q, h.bi, h.bp, h.off, by omega⟩
  | true =>
    have hr2 : (ls.getD c az).A.room x.sz = false := by
      rcases hr with e | e
      · rw [hok] at e; cases e
      · exact e
    have hx : 0 ≤ x.sz := by
      unfold offOk at hok
      simp only [Bool.and_eq_true, decide_eq_true_eq] at hok
      exact hok.2.2.1
    have hL : offL ls (c : Int) x = ls.set c ((ls.getD c az).push x) := by unfold offL; rw [hok, if_pos rfl, Int.toNat_natCast]
    rw [hL]
    have hp : (ls.getD c az).A.push x = { (ls.getD c az).A with D := (ls.getD c az).A.D + 1 } := by
      unfold Aq.push
      rw [if_neg (by omega), if_neg (by rw [hr2]; decide)]
    have hself := getD_set_self ls c ((ls.getD c az).push x) az hc
    have hne : ∀ i, c ≠ i → (ls.set c ((ls.getD c az).push x)).getD i az = ls.getD i az := fun i hi => getD_set_ne _ _ _ _ _ hi
    have hb : ((ls.getD c az).push x).b = (ls.getD c az).b := rfl
    have hA : ((ls.getD c az).push x).A = { (ls.getD c az).A with D := (ls.getD c az).A.D + 1 } := hp
    refine ⟨by rw [List.length_set]; exact h.len, fun d cl hcl => ?_, fun y hy => by rw [List.length_set]; exact h.cls y hy, h.srt, fun d hd y hy => ?_, fun i y hy => ?_, h.bp, fun d hd => ?_, ?_⟩
    · by_cases e : c = d
      · subst e; rw [hself, hb, hA]; exact h.rb c cl hcl
      · rw [hne _ e]; exact h.rb d cl hcl
    · rw [List.length_set] at hd
      by_cases e : c = d
      · subst e
        rw [hself, hA] at hy
        exact h.q c hc y hy
      · rw [hne _ e] at hy; exact h.q d hd y hy
    · by_cases e : c = y.c
      · rw [← e, hself, hb]
        have := h.bi i y hy
        rw [← e] at this
        exact this
      · rw [hne _ e]; exact h.bi i y hy
    · rw [List.length_set] at hd
      by_cases e : c = d
      · subst e
        rw [hself, hA]; exact h.off c hd
      · rw [hne _ e]; exact h.off d hd
    · have h2 := tot_set ls c ((ls.getD c az).push x) hc
      have h3 : ((ls.getD c az).push x).A.l.length = (ls.getD c az).A.l.length := by rw [hA]
      omega
theorem tot_new : ∀ (l : List Cs), tot (l.map (Cs.new 0)) = 0
  | [] => rfl
  | x :: t => by
    have := tot_new t
    unfold tot at this ⊢
    simpa [Cs.new] using this
theorem Bd.new (l : List Cs) : Bd l (fun _ => []) 0 0 (l.map (Cs.new 0)) [] := by
  have hget : ∀ c, ((l.map (Cs.new 0)).getD c az).A.l = [] := fun c => by
    rw [List.getD_eq_getElem?_getD, List.getElem?_map]
    cases l[c]? <;> rfl
  refine ⟨by simp, fun c cl hcl => ?_, fun x hx => (by cases hx), fun i x y hx => (by simp at hx), fun c _ x hx => ?_, fun i x hx => (by simp at hx), fun i k x y cl hx => (by simp at hx), fun c _ => ?_, ?_⟩
  · rw [List.getD_eq_getElem?_getD, List.getElem?_map, hcl]
    exact ⟨rfl, rfl, rfl, rfl⟩
  · rw [hget] at hx; cases hx
  · rw [hget]; rfl
  · rw [tot_new]
    simp
end Go.Proofs.Yticjfhmkpciihaa

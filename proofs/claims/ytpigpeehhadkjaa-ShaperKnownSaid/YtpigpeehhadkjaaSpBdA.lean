/-
  ShaperBounds' plain facts: what goes out is within its class's burst and rate, in the order of its offers. Conditions: those that the theorems name.
-/
import Derived.Test.YtpigpeehhadkjaaSpEaM
import Derived.Deep.RegionWith
namespace Go.Proofs.Ytpigpeehhadkjaa
open Go.RowKit Bkt
set_option maxRecDepth 100000
set_option maxHeartbeats 4000000
theorem tkB {P : Program} {md : Region.Mode} {ops : Array Oper} {Q : Exit → Act → World → Prop} {S : World → Prop} (i d : Nat) (v : Value) {oi : Oper} {fuel : Nat} {listed : Array Bool} {a : Act} {w : World}
    (hy : ∀ w', S w' → (execOp a.eval oi).run P w' = .ok (.value v) w') (hS : S w) (h : wpAnyH P md ops Q S fuel (listed.setIfInBounds i true) (a.put (some d) v) w)
    (hi : ops[i]? = some oi := by rfl) (hd : oi.dst = some d := by rfl) (hs : Region.noSelect ops = true := by kernel_rfl) (hf : Region.free md ops listed i = true := by kernel_rfl) (hr : (Region.ready md ops listed).contains i = true := by kernel_rfl)
    (hQ : ∀ c a w, Q (.panic c) (a.put (some d) v) w → Q (.panic c) a w := by exact fun _ _ _ h => h) (hw : Region.wanted oi (yielded ops a.tmps) = true := by rfl) : wpAnyH P md ops Q S (fuel + 1) listed a w :=
  tk i d v hi hd hs hf hr hQ (Or.inl ⟨hw, hy⟩) hS h
theorem tkBq {P : Program} {p : List Nat} {c : Code} {a : Act} {w : World} {R : Act → World → Prop} {Q : Exit → Act → World → Prop} (h1 : (cAt (p ++ [0]) c).wp P (Exit.then R Nope) a w) (h2 : ∀ a' w', R a' w' → (cAt (p ++ [1]) c).wp P Q a' w') (hc : cAt p c = .seq (cAt (p ++ [0]) c) (cAt (p ++ [1]) c) := by kernel_rfl) : (cAt p c).wp P Q a w :=
  wp_sqR hc h1 h2

/-- What one class's items have together. -/
def smC (c : Nat) : List Ot → Int
  | [] => 0
  | x :: t => (if x.c = c then x.x.sz else 0) + smC c t
theorem smC_app (c : Nat) : ∀ (l m : List Ot), smC c (l ++ m) = smC c l + smC c m
  | [], m => by simp [smC]
  | x :: t, m => by rw [List.cons_append, smC, smC, smC_app c t m]; omega
/-- Its items' numbers. -/
def noC (c : Nat) (o : List Ot) : List Int := (o.filter fun x => x.c == c).map fun x => x.x.no
/-- Within each class's burst and rate. -/
def BdP (l : List Cs) (o : List Ot) : Prop := ∀ (i k : Nat) (x y : Ot) (cl : Cs), o[i]? = some x → o[k]? = some y → i ≤ k → y.c = x.c → l[x.c]? = some cl → x.t ≤ y.t ∧ smC x.c ((o.take (k + 1)).drop i) ≤ cl.B + cl.r * (y.t - x.t)
/-- A shaper and what went out of it. -/
structure Bd (l : List Cs) (off : Nat → List Int) (M : Int) (T : Int) (ls : List Ab) (o : List Ot) : Prop where
  len : ls.length = l.length
  rb : ∀ (c : Nat) (cl : Cs), l[c]? = some cl → (ls.getD c az).b.r = cl.r ∧ (ls.getD c az).b.B = cl.B ∧ (ls.getD c az).A.I = cl.I ∧ (ls.getD c az).A.S = cl.S
  cls : ∀ x ∈ o, x.c < ls.length ∧ 0 ≤ x.x.sz ∧ 0 ≤ x.t ∧ x.t ≤ T ∧ x.x.sz ≤ 2048
  srt : ∀ (i : Nat) (x y : Ot), o[i]? = some x → o[i + 1]? = some y → x.t ≤ y.t
  q : ∀ c, c < ls.length → ∀ x ∈ (ls.getD c az).A.l, x.sz ≤ 2048
  bi : ∀ (i : Nat) (x : Ot), o[i]? = some x → x.t ≤ (ls.getD x.c az).b.T ∧ smC x.c (o.drop i) + (ls.getD x.c az).b.K ≤ (ls.getD x.c az).b.B + (ls.getD x.c az).b.r * ((ls.getD x.c az).b.T - x.t)
  bp : BdP l o
  off : ∀ c, c < ls.length → off c = noC c o ++ (ls.getD c az).A.l.map It.no
  cnt : (o.length : Int) + (tot ls : Int) ≤ M
theorem drop_snoc {α : Type} (o : List α) (z : α) (i : Nat) (hi : i ≤ o.length) : (o ++ [z]).drop i = o.drop i ++ [z] := by rw [List.drop_append_of_le_length hi]
theorem hd_no {A : Aq} (h : A.l ≠ []) : A.l.map It.no = A.hd.no :: A.pop.l.map It.no := by
  unfold Aq.hd Aq.pop
  cases hl : A.l with
  | nil => exact absurd hl h
  | cons x t => rfl
theorem Bd.step {l : List Cs} {off : Nat → List Int} {M T : Int} {ls : List Ab} {o : List Ot} (h : Bd l off M T ls o) (hok : Oks ls T) (hk : (nx T ls).k = true) :
    Bd l off M (nx T ls).t (ls.set (nx T ls).c ((ls.getD (nx T ls).c az).send (nx T ls).t)) (o ++ [⟨(nx T ls).t, (nx T ls).c, (ls.getD (nx T ls).c az).A.hd⟩]) := by
  obtain ⟨h1, h2, h3, h4, hwb, hwv, h5, h6⟩ := (Inv.refl T ls).step hok hk
  have hc := hok.get h1
  have hh := hc.hd h2
  generalize hz : nx T ls = z at *
  obtain ⟨zc, zt, zk⟩ := z
  simp only at h1 h2 h3 h4 hwb hwv h5 h6 hc hh ⊢
  have htot := tot_send h1 h2 zt
  have hcov := covered hc.b hwb hwv
  have hbT := hc.bT
  have hT0 := hc.T0
  have hself := getD_set_self ls zc ((ls.getD zc az).send zt) az h1
  have hne : ∀ i, zc ≠ i → (ls.set zc ((ls.getD zc az).send zt)).getD i az = ls.getD i az := fun i hi => getD_set_ne _ _ _ _ _ hi
  have hst : ((ls.getD zc az).send zt).b = (ls.getD zc az).b.took zt (ls.getD zc az).A.hd.sz := rfl
  have htr := took_rB (ls.getD zc az).b zt (ls.getD zc az).A.hd.sz
  have htT : ((ls.getD zc az).b.took zt (ls.getD zc az).A.hd.sz).T = zt := by rw [took_T, fill_T (by omega)]
  have htK : ((ls.getD zc az).b.took zt (ls.getD zc az).A.hd.sz).K = ((ls.getD zc az).b.fill zt).K - (ls.getD zc az).A.hd.sz := by
    unfold Bu.took
    rw [if_pos hcov]
  have hfK : ((ls.getD zc az).b.fill zt).K ≤ (ls.getD zc az).b.K + (ls.getD zc az).b.r * (zt - (ls.getD zc az).b.T) := by
    by_cases e : zt ≤ (ls.getD zc az).b.T
    · rw [fill_low _ e]
      have : zt - (ls.getD zc az).b.T = 0 := by omega
      rw [this, Int.mul_zero]
      omega
    · rw [fill_K (by omega)]
      omega
  have hfB := fill_le hc.b zt
  have hhs : (ls.getD zc az).A.hd.sz ≤ 2048 := h.q zc h1 _ (hd_mem h2)
  -- the bucket's bound, for each item of the class
  have hbi : ∀ (i : Nat) (x : Ot), (o ++ [Ot.mk zt zc (ls.getD zc az).A.hd])[i]? = some x → x.t ≤ ((ls.set zc ((ls.getD zc az).send zt)).getD x.c az).b.T ∧ smC x.c ((o ++ [Ot.mk zt zc (ls.getD zc az).A.hd]).drop i) + ((ls.set zc ((ls.getD zc az).send zt)).getD x.c az).b.K ≤ ((ls.set zc ((ls.getD zc az).send zt)).getD x.c az).b.B + ((ls.set zc ((ls.getD zc az).send zt)).getD x.c az).b.r * (((ls.set zc ((ls.getD zc az).send zt)).getD x.c az).b.T - x.t) := by
    intro i x hx
    have hi := (List.getElem?_eq_some_iff.1 hx).1
    rw [List.length_append] at hi
    simp at hi
    by_cases hlt : i < o.length
    · rw [List.getElem?_append_left hlt] at hx
      have hb := h.bi i x hx
      have hxT := (h.cls x (List.mem_of_getElem? hx)).2.2.2.1
      rw [drop_snoc o _ i (by omega), smC_app]
      by_cases e : zc = x.c
      · rw [← e] at hb
        rw [← e, hself, hst, htT, htK, htr.1, htr.2]
        have e2 : smC zc [Ot.mk zt zc (ls.getD zc az).A.hd] = (ls.getD zc az).A.hd.sz := by simp [smC]
        rw [e2]
        have e3 : (ls.getD zc az).b.r * (zt - x.t) = (ls.getD zc az).b.r * (zt - (ls.getD zc az).b.T) + (ls.getD zc az).b.r * ((ls.getD zc az).b.T - x.t) := by rw [← Int.mul_add]; congr 1; omega
        omega
      · rw [hne _ e]
        have e2 : smC x.c [Ot.mk zt zc (ls.getD zc az).A.hd] = 0 := by simp [smC, e]
        rw [e2]
        omega
    · have hio : i = o.length := by omega
      rw [List.getElem?_append_right (by omega), hio, Nat.sub_self] at hx
      simp at hx
      subst hx
      rw [hio, drop_snoc o _ _ (Nat.le_refl _), List.drop_length, List.nil_append, hself, hst, htT, htK, htr.1, htr.2]
      have e2 : smC zc [Ot.mk zt zc (ls.getD zc az).A.hd] = (ls.getD zc az).A.hd.sz := by simp [smC]
      show _ ∧ smC zc [_] + _ ≤ _ + _ * (zt - zt)
      rw [e2, Int.sub_self, Int.mul_zero]
      refine ⟨Int.le_refl _, ?_⟩
      omega
  refine ⟨by rw [List.length_set]; exact h.len, fun c cl hcl => ?_, fun x hx => ?_, fun i x y hx hy => ?_, fun c hcl x hx => ?_, hbi, fun i k x y cl hx hy hik hyc hcl => ?_, fun c hcl => ?_, ?_⟩
  · by_cases e : zc = c
    · subst e
      rw [hself, hst, htr.1, htr.2]
      exact h.rb zc cl hcl
    · rw [hne _ e]; exact h.rb c cl hcl
  · rw [List.length_set]
    rcases List.mem_append.1 hx with hx | hx
    · have := h.cls x hx
      refine ⟨this.1, this.2.1, this.2.2.1, by omega, this.2.2.2.2⟩
    · simp at hx
      subst hx
      exact ⟨h1, hh.1, by show 0 ≤ zt; omega, Int.le_refl _, hhs⟩
  · rcases snoc_at hx hy with ⟨e1, e2⟩ | ⟨e1, e2⟩
    · exact h.srt i x y e1 e2
    · subst e2
      have := (h.cls x (List.mem_of_getLast? e1)).2.2.2.1
      show x.t ≤ zt
      omega
  · rw [List.length_set] at hcl
    by_cases e : zc = c
    · subst e
      rw [hself] at hx
      exact h.q zc hcl x (List.mem_of_mem_tail hx)
    · rw [hne _ e] at hx
      exact h.q c hcl x hx
  · have hk2 := (List.getElem?_eq_some_iff.1 hy).1
    rw [List.length_append] at hk2
    simp at hk2
    by_cases hlt : k < o.length
    · rw [List.getElem?_append_left hlt] at hy
      rw [List.getElem?_append_left (by omega)] at hx
      rw [List.take_append_of_le_length (by omega)]
      exact h.bp i k x y cl hx hy hik hyc hcl
    · have hko : k = o.length := by omega
      rw [List.getElem?_append_right (by omega), hko, Nat.sub_self] at hy
      simp at hy
      subst hy
      have hb := hbi i x hx
      have hxc : zc = x.c := hyc
      have hrb := h.rb x.c cl hcl
      rw [List.take_of_length_le (by simp; omega)]
      rw [← hxc] at hb hrb ⊢
      rw [hself, hst, htT, htr.1, htr.2, hrb.1, hrb.2.1, htK] at hb
      refine ⟨hb.1, ?_⟩
      have := hb.2
      show smC zc _ ≤ cl.B + cl.r * (zt - x.t)
      omega
  · rw [List.length_set] at hcl
    have hoff := h.off c hcl
    have e0 : noC c (o ++ [Ot.mk zt zc (ls.getD zc az).A.hd]) = noC c o ++ (if zc = c then [(ls.getD zc az).A.hd.no] else []) := by
      unfold noC
      rw [List.filter_append, List.map_append]
      congr 1
      by_cases e : zc = c
      · simp [e]
      · simp [e]
    rw [e0]
    by_cases e : zc = c
    · subst e
      rw [hself, if_pos rfl, hoff, hd_no h2, List.append_assoc]
      rfl
    · rw [hne _ e, if_neg e, List.append_nil]
      exact hoff
  · have h1 := h.cnt
    have e : (o ++ [Ot.mk zt zc (ls.getD zc az).A.hd]).length = o.length + 1 := by simp
    rw [e]
    omega
/-- Behind a release. -/
theorem Bd.rel {l : List Cs} {off : Nat → List Int} {M T tick : Int} {ls : List Ab} {o : List Ot} (h : Bd l off M T ls o) (hok : Oks ls T) (hT : T ≤ tick) : Bd l off M tick (rel tick T ls).1 (o ++ (Go.Proofs.Ytpigpeehhadkjaa.rel tick T ls).2) := by
  obtain ⟨T', _, q2, _, hP, _⟩ := rel_ind tick (fun T l' o' => Bd l off M T l' o') (fun T l' o' ho hP hk _ => hP.step ho hk) _ T ls o rfl hok hT h
  exact ⟨hP.len, hP.rb, fun x hx => (by have := hP.cls x hx; exact ⟨this.1, this.2.1, this.2.2.1, by omega, this.2.2.2.2⟩), hP.srt, hP.q, hP.bi, hP.bp, hP.off, hP.cnt⟩
/-- Behind an offer: a class's queue has one more, or not. -/
theorem Bd.off_ok {l : List Cs} {off : Nat → List Int} {M T : Int} {ls : List Ab} {o : List Ot} (h : Bd l off M T ls o) {c : Nat} (hc : c < ls.length) {x : It} (hok : offOk ls (c : Int) x = true) (hr : (ls.getD c az).A.room x.sz = true) :
    Bd l (fun d => if d = c then off d ++ [x.no] else off d) (M + 1) T (offL ls (c : Int) x) o := by
  have hx : 0 ≤ x.sz ∧ x.sz ≤ 2048 := by
    unfold offOk at hok
    simp only [Bool.and_eq_true, decide_eq_true_eq] at hok
    exact hok.2.2
  have hL : offL ls (c : Int) x = ls.set c ((ls.getD c az).push x) := by unfold offL; rw [hok, if_pos rfl, Int.toNat_natCast]
  rw [hL]
  have hp : (ls.getD c az).A.push x = { (ls.getD c az).A with l := (ls.getD c az).A.l ++ [x] } := by
    unfold Aq.push
    rw [if_neg (by omega), if_pos hr]
  have hself := getD_set_self ls c ((ls.getD c az).push x) az hc
  have hne : ∀ i, c ≠ i → (ls.set c ((ls.getD c az).push x)).getD i az = ls.getD i az := fun i hi => getD_set_ne _ _ _ _ _ hi
  have hb : ((ls.getD c az).push x).b = (ls.getD c az).b := rfl
  have hA : ((ls.getD c az).push x).A = { (ls.getD c az).A with l := (ls.getD c az).A.l ++ [x] } := hp
  refine ⟨by rw [List.length_set]; exact h.len, fun d cl hcl => ?_, fun y hy => by rw [List.length_set]; exact h.cls y hy, h.srt, fun d hd y hy => ?_, fun i y hy => ?_, h.bp, fun d hd => ?_, ?_⟩
  · by_cases e : c = d
    · subst e; rw [hself, hb, hA]; exact h.rb c cl hcl
    · rw [hne _ e]; exact h.rb d cl hcl
  · rw [List.length_set] at hd
    by_cases e : c = d
    · subst e
      rw [hself, hA] at hy
      rcases List.mem_append.1 hy with hy | hy
      · exact h.q c hc y hy
      · simp at hy; subst hy; exact hx.2
    · rw [hne _ e] at hy; exact h.q d hd y hy
  · by_cases e : c = y.c
    · rw [← e, hself, hb]
      have := h.bi i y hy
      rw [← e] at this
      exact this
    · rw [hne _ e]; exact h.bi i y hy
  · rw [List.length_set] at hd
    by_cases e : d = c
    · subst e
      rw [hself, hA, if_pos rfl, h.off d hd, List.map_append, List.append_assoc]; rfl
    · rw [hne _ (fun e2 => e e2.symm), if_neg e]; exact h.off d hd
  · have h1 := h.cnt
    have h2 := tot_set ls c ((ls.getD c az).push x) hc
    have h3 : ((ls.getD c az).push x).A.l.length = (ls.getD c az).A.l.length + 1 := by rw [hA]; simp
    omega
theorem Bd.off_no {l : List Cs} {off : Nat → List Int} {M T : Int} {ls : List Ab} {o : List Ot} (h : Bd l off M T ls o) {c : Nat} (hc : c < ls.length) {x : It} (hr : offOk ls (c : Int) x = false ∨ (ls.getD c az).A.room x.sz = false) :
    Bd l off (M + 1) T (offL ls (c : Int) x) o := by
  have hcnt := h.cnt
  cases hok : offOk ls (c : Int) x with
  | false =>
    have hL : offL ls (c : Int) x = ls := by unfold offL; rw [hok]; rfl
    rw [hL]
    exact ⟨h.len, h.rb, h.cls, h.srt, h.q, h.bi, h.bp, h.off, by omega⟩
  | true =>
    have hr2 : (ls.getD c az).A.room x.sz = false := by
      rcases hr with e | e
      · rw [hok] at e; cases e
      · exact e
    have hx : 0 ≤ x.sz := by
      unfold offOk at hok
      simp only [Bool.and_eq_true, decide_eq_true_eq] at hok
      exact hok.2.2.1
    have hL : offL ls (c : Int) x = ls.set c ((ls.getD c az).push x) := by unfold offL; rw [hok, if_pos rfl, Int.toNat_natCast]
    rw [hL]
    have hp : (ls.getD c az).A.push x = { (ls.getD c az).A with D := (ls.getD c az).A.D + 1 } := by
      unfold Aq.push
      rw [if_neg (by omega), if_neg (by rw [hr2]; decide)]
    have hself := getD_set_self ls c ((ls.getD c az).push x) az hc
    have hne : ∀ i, c ≠ i → (ls.set c ((ls.getD c az).push x)).getD i az = ls.getD i az := fun i hi => getD_set_ne _ _ _ _ _ hi
    have hb : ((ls.getD c az).push x).b = (ls.getD c az).b := rfl
    have hA : ((ls.getD c az).push x).A = { (ls.getD c az).A with D := (ls.getD c az).A.D + 1 } := hp
    refine ⟨by rw [List.length_set]; exact h.len, fun d cl hcl => ?_, fun y hy => by rw [List.length_set]; exact h.cls y hy, h.srt, fun d hd y hy => ?_, fun i y hy => ?_, h.bp, fun d hd => ?_, ?_⟩
    · by_cases e : c = d
      · subst e; rw [hself, hb, hA]; exact h.rb c cl hcl
      · rw [hne _ e]; exact h.rb d cl hcl
    · rw [List.length_set] at hd
      by_cases e : c = d
      · subst e
        rw [hself, hA] at hy
        exact h.q c hc y hy
      · rw [hne _ e] at hy; exact h.q d hd y hy
    · by_cases e : c = y.c
      · rw [← e, hself, hb]
        have := h.bi i y hy
        rw [← e] at this
        exact this
      · rw [hne _ e]; exact h.bi i y hy
    · rw [List.length_set] at hd
      by_cases e : c = d
      · subst e
        rw [hself, hA]; exact h.off c hd
      · rw [hne _ e]; exact h.off d hd
    · have h2 := tot_set ls c ((ls.getD c az).push x) hc
      have h3 : ((ls.getD c az).push x).A.l.length = (ls.getD c az).A.l.length := by rw [hA]
      omega
theorem tot_new : ∀ (l : List Cs), tot (l.map (Cs.new 0)) = 0
  | [] => rfl
  | x :: t => by
    have := tot_new t
    unfold tot at this ⊢
    simpa [Cs.new] using this
theorem Bd.new (l : List Cs) : Bd l (fun _ => []) 0 0 (l.map (Cs.new 0)) [] := by
  have hget : ∀ c, ((l.map (Cs.new 0)).getD c az).A.l = [] := fun c => by
    rw [List.getD_eq_getElem?_getD, List.getElem?_map]
    cases l[c]? <;> rfl
  refine ⟨by simp, fun c cl hcl => ?_, fun x hx => (by cases hx), fun i x y hx => (by simp at hx), fun c _ x hx => ?_, fun i x hx => (by simp at hx), fun i k x y cl hx => (by simp at hx), fun c _ => ?_, ?_⟩
  · rw [List.getD_eq_getElem?_getD, List.getElem?_map, hcl]
    exact ⟨rfl, rfl, rfl, rfl⟩
  · rw [hget] at hx; cases hx
  · rw [hget]; rfl
  · rw [tot_new]
    simp
end Go.Proofs.Ytpigpeehhadkjaa

namespace Go.Proofs.Ytpigpeehhadkjaa
open Go.RowKit Bkt
set_option maxRecDepth 100000
set_option maxHeartbeats 4000000

noncomputable def KBd : Code := Try.f21.body.getD .skip
theorem frKBd {a : Act} (h : Fr 89 a) : ∃ f : Nat → Value, a = ⟨#[f 0, f 1, f 2, f 3, f 4, f 5, f 6, f 7, f 8, f 9, f 10, f 11, f 12, f 13, f 14, f 15, f 16, f 17, f 18, f 19, f 20, f 21, f 22, f 23, f 24, f 25, f 26, f 27, f 28, f 29, f 30, f 31, f 32, f 33, f 34, f 35, f 36, f 37, f 38, f 39, f 40, f 41, f 42, f 43, f 44, f 45, f 46, f 47, f 48, f 49, f 50, f 51, f 52, f 53, f 54, f 55, f 56, f 57, f 58, f 59, f 60, f 61, f 62, f 63, f 64, f 65, f 66, f 67, f 68, f 69, f 70, f 71, f 72, f 73, f 74, f 75, f 76, f 77, f 78, f 79, f 80, f 81, f 82, f 83, f 84, f 85, f 86, f 87, f 88], []⟩ ∧ ∀ i, f i = sl a i := fr_any h

theorem q0 (wr : World) (xb xo n c0 : Nat) (vo : Option Addr) (no co : Nat) (a : Act) (hf : Fr 89 a) (h0 : sl a 0 = .slice (some ⟨xb, xo, none⟩) n c0) (h1 : sl a 1 = .slice vo no co) :
    Code.wp Try.prog (cAt [0] KBd) (Exit.then (fun a' w' => Fr 89 a' ∧ sl a' 0 = .slice (some ⟨xb, xo, none⟩) n c0 ∧ sl a' 1 = .slice vo no co ∧ wr = w') Nope) a wr := by
  obtain ⟨f, ha, hs⟩ := frKBd hf
  rw [(hs 0).trans h0, (hs 1).trans h1] at ha
  clear hs hf h0 h1
  subst ha
  refine piece2 fun J0 K0 hJ0 hK0 => ?_
  conv => arg 2; whnf
  go_wp2_with fail
  refine Met.intro (hJ0 _ _ ?_)
  exact ⟨⟨rfl, rfl⟩, rfl, rfl, rfl⟩

theorem q1 (wr : World) (xb xo n c0 : Nat) (vo : Option Addr) (no co : Nat) (a : Act) (hf : Fr 89 a) (h0 : sl a 0 = .slice (some ⟨xb, xo, none⟩) n c0) (h1 : sl a 1 = .slice vo no co) :
    Code.wp Try.prog (cAt [1,0,0] KBd) (Exit.then (fun a' w' => Fr 89 a' ∧ sl a' 0 = .slice (some ⟨xb, xo, none⟩) n c0 ∧ sl a' 1 = .slice vo no co ∧ sl a' 5 = .int .i64 0 ∧ wr = w') Nope) a wr := by
  obtain ⟨f, ha, hs⟩ := frKBd hf
  rw [(hs 0).trans h0, (hs 1).trans h1] at ha
  clear hs hf h0 h1
  subst ha
  refine piece2 fun J0 K0 hJ0 hK0 => ?_
  conv => arg 2; whnf
  go_wp2_with fail
  refine Met.intro (hJ0 _ _ ?_)
  exact ⟨⟨rfl, rfl⟩, rfl, rfl, rfl, rfl⟩

theorem q2 (wr : World) (xb xo n c0 : Nat) (vo : Option Addr) (no co : Nat) (i : Nat) (hi : i < no) (a : Act) (hf : Fr 89 a) (h0 : sl a 0 = .slice (some ⟨xb, xo, none⟩) n c0) (h1 : sl a 1 = .slice vo no co) (h5 : sl a 5 = .int .i64 (i : Int)) :
    Code.wp Try.prog (cAt [1,0,1,2,2,0] KBd) (Exit.then (fun a' w' => Fr 89 a' ∧ sl a' 0 = .slice (some ⟨xb, xo, none⟩) n c0 ∧ sl a' 1 = .slice vo no co ∧ sl a' 5 = .int .i64 (i : Int) ∧ wr = w') Nope) a wr := by
  obtain ⟨f, ha, hs⟩ := frKBd hf
  rw [(hs 0).trans h0, (hs 1).trans h1, (hs 5).trans h5] at ha
  clear hs hf h0 h1 h5
  subst ha
  refine piece2 fun J0 K0 hJ0 hK0 => ?_
  conv => arg 2; whnf
  have hi2 : (i : Int) < (no : Int) := by omega
  go_wp2_with fail
  refine Met.intro (hJ0 _ _ ?_)
  exact ⟨⟨rfl, rfl⟩, rfl, rfl, rfl, rfl⟩

theorem q2x (wr : World) (xb xo n c0 : Nat) (vo : Option Addr) (no co : Nat) (i : Nat) (hi : ¬ i < no) (a : Act) (hf : Fr 89 a) (h0 : sl a 0 = .slice (some ⟨xb, xo, none⟩) n c0) (h1 : sl a 1 = .slice vo no co) (h5 : sl a 5 = .int .i64 (i : Int)) :
    Code.wp Try.prog (cAt [1,0,1,2,2] KBd) (Outs 0 (fun a' w' => Fr 89 a' ∧ wr = w')) a wr := by
  obtain ⟨f, ha, hs⟩ := frKBd hf
  rw [(hs 0).trans h0, (hs 1).trans h1, (hs 5).trans h5] at ha
  clear hs hf h0 h1 h5
  subst ha
  conv => arg 2; whnf
  go_wp2_with fail
  exact ⟨rfl, ⟨rfl, rfl⟩, rfl⟩

theorem q3 (wr : World) (xb xo n c0 : Nat) (vo : Option Addr) (no co : Nat) (i : Nat) (hi : i < 1000000) (a : Act) (hf : Fr 89 a) (h0 : sl a 0 = .slice (some ⟨xb, xo, none⟩) n c0) (h1 : sl a 1 = .slice vo no co) (h5 : sl a 5 = .int .i64 (i : Int)) :
    Code.wp Try.prog (cAt [1,0,1,2,2,1,1] KBd) (Exit.then (fun a' w' => Fr 89 a' ∧ sl a' 0 = .slice (some ⟨xb, xo, none⟩) n c0 ∧ sl a' 1 = .slice vo no co ∧ sl a' 5 = .int .i64 ((i : Int) + 1) ∧ wr = w') Nope) a wr := by
  obtain ⟨f, ha, hs⟩ := frKBd hf
  rw [(hs 0).trans h0, (hs 1).trans h1, (hs 5).trans h5] at ha
  clear hs hf h0 h1 h5
  subst ha
  refine piece2 fun J0 K0 hJ0 hK0 => ?_
  conv => arg 2; whnf
  have hw : IntKind.i64.wrap ((i : Int) + 1) = (i : Int) + 1 := by rw [IntKind.wrap_i64]; omega
  go_wp2_with fail
  refine Met.intro (hJ0 _ _ ?_)
  exact ⟨⟨rfl, rfl⟩, rfl, rfl, rfl, rfl⟩

theorem q4 (wr : World) (xb xo n c0 : Nat) (vo : Option Addr) (no co : Nat) (i : Nat) (a : Act) (hf : Fr 89 a) (h0 : sl a 0 = .slice (some ⟨xb, xo, none⟩) n c0) (h1 : sl a 1 = .slice vo no co) (h5 : sl a 5 = .int .i64 (i : Int)) :
    Code.wp Try.prog (cAt [1,0,1,2,2,1,0,2,0] KBd) (Exit.then (fun a' w' => Fr 89 a' ∧ sl a' 0 = .slice (some ⟨xb, xo, none⟩) n c0 ∧ sl a' 1 = .slice vo no co ∧ sl a' 5 = .int .i64 (i : Int) ∧ sl a' 6 = .int .u64 0 ∧ wr = w') Nope) a wr := by
  obtain ⟨f, ha, hs⟩ := frKBd hf
  rw [(hs 0).trans h0, (hs 1).trans h1, (hs 5).trans h5] at ha
  clear hs hf h0 h1 h5
  subst ha
  refine piece2 fun J0 K0 hJ0 hK0 => ?_
  conv => arg 2; whnf
  go_wp2_with fail
  refine Met.intro (hJ0 _ _ ?_)
  exact ⟨⟨rfl, rfl⟩, rfl, rfl, rfl, rfl, rfl⟩

theorem q5 (wr : World) (xb xo n c0 ro no co i cc : Nat) (HC : Hid (wr.cell? ⟨ro, i * 5 + 1, none⟩ = some (.int .i64 (cc : Int)))) (hi : i < no) (a : Act) (hf : Fr 89 a) (h0 : sl a 0 = .slice (some ⟨xb, xo, none⟩) n c0) (h1 : sl a 1 = .slice (some ⟨ro, 0, none⟩) no co) (h5 : sl a 5 = .int .i64 (i : Int)) (h6 : sl a 6 = .int .u64 0) :
    Code.wp Try.prog (cAt [1,0,1,2,2,1,0,2,1,0] KBd) (Exit.then (fun a' w' => Fr 89 a' ∧ sl a' 0 = .slice (some ⟨xb, xo, none⟩) n c0 ∧ sl a' 1 = .slice (some ⟨ro, 0, none⟩) no co ∧ sl a' 5 = .int .i64 (i : Int) ∧ sl a' 6 = .int .u64 0 ∧ sl a' 7 = .int .i64 (cc : Int) ∧ wr = w') Nope) a wr := by
  obtain ⟨f, ha, hs⟩ := frKBd hf
  rw [(hs 0).trans h0, (hs 1).trans h1, (hs 5).trans h5, (hs 6).trans h6] at ha
  clear hs hf h0 h1 h5 h6
  subst ha
  refine piece2 fun J0 K0 hJ0 hK0 => ?_
  conv => arg 2; whnf
  have c1 := HC.out
  have hi2 : (i : Int) < (no : Int) := by omega
  have hi0 : (0 : Int) ≤ (i : Int) := by omega
  go_wp2_with fail
  refine Met.intro (hJ0 _ _ ?_)
  exact ⟨⟨rfl, rfl⟩, rfl, rfl, rfl, rfl, rfl, rfl⟩

theorem q6 (wr : World) (xb xo n c0 ro no co i cc : Nat) (hc : cc < n) (a : Act) (hf : Fr 89 a) (h0 : sl a 0 = .slice (some ⟨xb, xo, none⟩) n c0) (h1 : sl a 1 = .slice (some ⟨ro, 0, none⟩) no co) (h5 : sl a 5 = .int .i64 (i : Int)) (h6 : sl a 6 = .int .u64 0) (h7 : sl a 7 = .int .i64 (cc : Int)) :
    Code.wp Try.prog (cAt [1,0,1,2,2,1,0,2,1,1,0,0] KBd) (Exit.then (fun a' w' => Fr 89 a' ∧ sl a' 0 = .slice (some ⟨xb, xo, none⟩) n c0 ∧ sl a' 1 = .slice (some ⟨ro, 0, none⟩) no co ∧ sl a' 5 = .int .i64 (i : Int) ∧ sl a' 6 = .int .u64 0 ∧ sl a' 7 = .int .i64 (cc : Int) ∧ sl a' 27 = .bool false ∧ wr = w') Nope) a wr := by
  obtain ⟨f, ha, hs⟩ := frKBd hf
  rw [(hs 0).trans h0, (hs 1).trans h1, (hs 5).trans h5, (hs 6).trans h6, (hs 7).trans h7] at ha
  clear hs hf h0 h1 h5 h6 h7
  subst ha
  refine piece2 fun J0 K0 hJ0 hK0 => ?_
  conv => arg 2; whnf
  have hc2 : ¬ (n : Int) ≤ (cc : Int) := by omega
  have hc3 : ¬ (cc : Int) < 0 := by omega
  go_wp2_with fail
  refine Met.intro (hJ0 _ _ ?_)
  exact ⟨⟨rfl, rfl⟩, rfl, rfl, rfl, rfl, rfl, rfl, rfl⟩

theorem q8 (wr : World) (xb xo n c0 ro no co i cc : Nat) (a : Act) (hf : Fr 89 a) (h0 : sl a 0 = .slice (some ⟨xb, xo, none⟩) n c0) (h1 : sl a 1 = .slice (some ⟨ro, 0, none⟩) no co) (h5 : sl a 5 = .int .i64 (i : Int)) (h6 : sl a 6 = .int .u64 0) (h7 : sl a 7 = .int .i64 (cc : Int)) :
    Code.wp Try.prog (cAt [1,0,1,2,2,1,0,2,1,1,1,0] KBd) (Exit.then (fun a' w' => Fr 89 a' ∧ sl a' 0 = .slice (some ⟨xb, xo, none⟩) n c0 ∧ sl a' 1 = .slice (some ⟨ro, 0, none⟩) no co ∧ sl a' 5 = .int .i64 (i : Int) ∧ sl a' 6 = .int .u64 0 ∧ sl a' 7 = .int .i64 (cc : Int) ∧ sl a' 8 = .int .i64 (i : Int) ∧ wr = w') Nope) a wr := by
  obtain ⟨f, ha, hs⟩ := frKBd hf
  rw [(hs 0).trans h0, (hs 1).trans h1, (hs 5).trans h5, (hs 6).trans h6, (hs 7).trans h7] at ha
  clear hs hf h0 h1 h5 h6 h7
  subst ha
  refine piece2 fun J0 K0 hJ0 hK0 => ?_
  conv => arg 2; whnf
  go_wp2_with fail
  refine Met.intro (hJ0 _ _ ?_)
  exact ⟨⟨rfl, rfl⟩, rfl, rfl, rfl, rfl, rfl, rfl, rfl⟩

theorem q9 (wr : World) (xb xo n c0 ro no co i cc k : Nat) (sm : Int) (hk : k < no) (a : Act) (hf : Fr 89 a) (h0 : sl a 0 = .slice (some ⟨xb, xo, none⟩) n c0) (h1 : sl a 1 = .slice (some ⟨ro, 0, none⟩) no co) (h5 : sl a 5 = .int .i64 (i : Int)) (h6 : sl a 6 = .int .u64 sm) (h7 : sl a 7 = .int .i64 (cc : Int)) (h8 : sl a 8 = .int .i64 (k : Int)) :
    Code.wp Try.prog (cAt [1,0,1,2,2,1,0,2,1,1,1,1,2,2,0] KBd) (Exit.then (fun a' w' => Fr 89 a' ∧ sl a' 0 = .slice (some ⟨xb, xo, none⟩) n c0 ∧ sl a' 1 = .slice (some ⟨ro, 0, none⟩) no co ∧ sl a' 5 = .int .i64 (i : Int) ∧ sl a' 6 = .int .u64 sm ∧ sl a' 7 = .int .i64 (cc : Int) ∧ sl a' 8 = .int .i64 (k : Int) ∧ wr = w') Nope) a wr := by
  obtain ⟨f, ha, hs⟩ := frKBd hf
  rw [(hs 0).trans h0, (hs 1).trans h1, (hs 5).trans h5, (hs 6).trans h6, (hs 7).trans h7, (hs 8).trans h8] at ha
  clear hs hf h0 h1 h5 h6 h7 h8
  subst ha
  refine piece2 fun J0 K0 hJ0 hK0 => ?_
  conv => arg 2; whnf
  have hk2 : (k : Int) < (no : Int) := by omega
  go_wp2_with fail
  refine Met.intro (hJ0 _ _ ?_)
  exact ⟨⟨rfl, rfl⟩, rfl, rfl, rfl, rfl, rfl, rfl, rfl⟩

theorem q9x (wr : World) (xb xo n c0 ro no co i cc k : Nat) (sm : Int) (hk : ¬ k < no) (a : Act) (hf : Fr 89 a) (h0 : sl a 0 = .slice (some ⟨xb, xo, none⟩) n c0) (h1 : sl a 1 = .slice (some ⟨ro, 0, none⟩) no co) (h5 : sl a 5 = .int .i64 (i : Int)) (h6 : sl a 6 = .int .u64 sm) (h7 : sl a 7 = .int .i64 (cc : Int)) (h8 : sl a 8 = .int .i64 (k : Int)) :
    Code.wp Try.prog (cAt [1,0,1,2,2,1,0,2,1,1,1,1,2,2] KBd) (Outs 2 (fun a' w' => Fr 89 a' ∧ sl a' 0 = .slice (some ⟨xb, xo, none⟩) n c0 ∧ sl a' 1 = .slice (some ⟨ro, 0, none⟩) no co ∧ sl a' 5 = .int .i64 (i : Int) ∧ wr = w')) a wr := by
  obtain ⟨f, ha, hs⟩ := frKBd hf
  rw [(hs 0).trans h0, (hs 1).trans h1, (hs 5).trans h5, (hs 6).trans h6, (hs 7).trans h7, (hs 8).trans h8] at ha
  clear hs hf h0 h1 h5 h6 h7 h8
  subst ha
  conv => arg 2; whnf
  go_wp2_with fail
  exact ⟨rfl, ⟨rfl, rfl⟩, rfl, rfl, rfl, rfl⟩

theorem q10 (wr : World) (xb xo n c0 ro no co i cc k : Nat) (sm : Int) (hk : k < 1000000) (a : Act) (hf : Fr 89 a) (h0 : sl a 0 = .slice (some ⟨xb, xo, none⟩) n c0) (h1 : sl a 1 = .slice (some ⟨ro, 0, none⟩) no co) (h5 : sl a 5 = .int .i64 (i : Int)) (h6 : sl a 6 = .int .u64 sm) (h7 : sl a 7 = .int .i64 (cc : Int)) (h8 : sl a 8 = .int .i64 (k : Int)) :
    Code.wp Try.prog (cAt [1,0,1,2,2,1,0,2,1,1,1,1,2,2,1,1] KBd) (Exit.then (fun a' w' => Fr 89 a' ∧ sl a' 0 = .slice (some ⟨xb, xo, none⟩) n c0 ∧ sl a' 1 = .slice (some ⟨ro, 0, none⟩) no co ∧ sl a' 5 = .int .i64 (i : Int) ∧ sl a' 6 = .int .u64 sm ∧ sl a' 7 = .int .i64 (cc : Int) ∧ sl a' 8 = .int .i64 ((k : Int) + 1) ∧ wr = w') Nope) a wr := by
  obtain ⟨f, ha, hs⟩ := frKBd hf
  rw [(hs 0).trans h0, (hs 1).trans h1, (hs 5).trans h5, (hs 6).trans h6, (hs 7).trans h7, (hs 8).trans h8] at ha
  clear hs hf h0 h1 h5 h6 h7 h8
  subst ha
  refine piece2 fun J0 K0 hJ0 hK0 => ?_
  conv => arg 2; whnf
  have hw : IntKind.i64.wrap ((k : Int) + 1) = (k : Int) + 1 := by rw [IntKind.wrap_i64]; omega
  go_wp2_with fail
  refine Met.intro (hJ0 _ _ ?_)
  exact ⟨⟨rfl, rfl⟩, rfl, rfl, rfl, rfl, rfl, rfl, rfl⟩

theorem q11 (wr : World) (xb xo n c0 ro no co i cc k : Nat) (sm : Int) (dc : Nat) (HC : Hid (wr.cell? ⟨ro, k * 5 + 1, none⟩ = some (.int .i64 (dc : Int)))) (hk : k < no) (a : Act) (hf : Fr 89 a) (h0 : sl a 0 = .slice (some ⟨xb, xo, none⟩) n c0) (h1 : sl a 1 = .slice (some ⟨ro, 0, none⟩) no co) (h5 : sl a 5 = .int .i64 (i : Int)) (h6 : sl a 6 = .int .u64 sm) (h7 : sl a 7 = .int .i64 (cc : Int)) (h8 : sl a 8 = .int .i64 (k : Int)) :
    Code.wp Try.prog (cAt [1,0,1,2,2,1,0,2,1,1,1,1,2,2,1,0,2,0,0] KBd) (Exit.then (fun a' w' => Fr 89 a' ∧ sl a' 0 = .slice (some ⟨xb, xo, none⟩) n c0 ∧ sl a' 1 = .slice (some ⟨ro, 0, none⟩) no co ∧ sl a' 5 = .int .i64 (i : Int) ∧ sl a' 6 = .int .u64 sm ∧ sl a' 7 = .int .i64 (cc : Int) ∧ sl a' 8 = .int .i64 (k : Int) ∧ sl a' 41 = .bool (decide (dc ≠ cc)) ∧ wr = w') Nope) a wr := by
  obtain ⟨f, ha, hs⟩ := frKBd hf
  rw [(hs 0).trans h0, (hs 1).trans h1, (hs 5).trans h5, (hs 6).trans h6, (hs 7).trans h7, (hs 8).trans h8] at ha
  clear hs hf h0 h1 h5 h6 h7 h8
  subst ha
  refine piece2 fun J0 K0 hJ0 hK0 => ?_
  conv => arg 2; whnf
  have c1 := HC.out
  have hi2 : (k : Int) < (no : Int) := by omega
  have hi0 : (0 : Int) ≤ (k : Int) := by omega
  by_cases e : dc = cc
  · subst e
    go_wp2_with fail
    refine Met.intro (hJ0 _ _ ?_)
    exact ⟨⟨rfl, rfl⟩, rfl, rfl, rfl, rfl, rfl, rfl, by rw [decide_eq_false (show ¬ dc ≠ dc from fun h => h rfl)]; rfl, rfl⟩
  · have e2 : ((dc : Int) != (cc : Int)) = true := bne_iff_ne.2 (by omega)
    have e3 : ¬ (dc : Int) = (cc : Int) := by omega
    go_wp2_with fail
    refine Met.intro (hJ0 _ _ ?_)
    exact ⟨⟨rfl, rfl⟩, rfl, rfl, rfl, rfl, rfl, rfl, by rw [decide_eq_true (show dc ≠ cc from e)]; rfl, rfl⟩

theorem q11x (wr : World) (xb xo n c0 ro no co i cc k : Nat) (sm : Int) (a : Act) (hf : Fr 89 a) (h0 : sl a 0 = .slice (some ⟨xb, xo, none⟩) n c0) (h1 : sl a 1 = .slice (some ⟨ro, 0, none⟩) no co) (h5 : sl a 5 = .int .i64 (i : Int)) (h6 : sl a 6 = .int .u64 sm) (h7 : sl a 7 = .int .i64 (cc : Int)) (h8 : sl a 8 = .int .i64 (k : Int)) :
    Code.wp Try.prog (cAt [1,0,1,2,2,1,0,2,1,1,1,1,2,2,1,0,2,0,1,3] KBd) (Outs 3 (fun a' w' => Fr 89 a' ∧ sl a' 0 = .slice (some ⟨xb, xo, none⟩) n c0 ∧ sl a' 1 = .slice (some ⟨ro, 0, none⟩) no co ∧ sl a' 5 = .int .i64 (i : Int) ∧ sl a' 6 = .int .u64 sm ∧ sl a' 7 = .int .i64 (cc : Int) ∧ sl a' 8 = .int .i64 (k : Int) ∧ wr = w')) a wr := by
  obtain ⟨f, ha, hs⟩ := frKBd hf
  rw [(hs 0).trans h0, (hs 1).trans h1, (hs 5).trans h5, (hs 6).trans h6, (hs 7).trans h7, (hs 8).trans h8] at ha
  clear hs hf h0 h1 h5 h6 h7 h8
  subst ha
  conv => arg 2; whnf
  go_wp2_with fail
  exact ⟨rfl, ⟨rfl, rfl⟩, rfl, rfl, rfl, rfl, rfl, rfl, rfl⟩

theorem q12 (wr : World) (xb xo n c0 ro no co i cc k : Nat) (sm : Int) (sz : Int) (HC : Hid (wr.cell? ⟨ro, k * 5 + 2 + 1, none⟩ = some (.int .i64 sz))) (hk : k < no) (s0 : 0 ≤ sz) (s1 : sz ≤ 2048) (m0 : 0 ≤ sm) (m1 : sm ≤ 10000000000000000) (a : Act) (hf : Fr 89 a) (h0 : sl a 0 = .slice (some ⟨xb, xo, none⟩) n c0) (h1 : sl a 1 = .slice (some ⟨ro, 0, none⟩) no co) (h5 : sl a 5 = .int .i64 (i : Int)) (h6 : sl a 6 = .int .u64 sm) (h7 : sl a 7 = .int .i64 (cc : Int)) (h8 : sl a 8 = .int .i64 (k : Int)) :
    Code.wp Try.prog (cAt [1,0,1,2,2,1,0,2,1,1,1,1,2,2,1,0,2,1,0] KBd) (Exit.then (fun a' w' => Fr 89 a' ∧ sl a' 0 = .slice (some ⟨xb, xo, none⟩) n c0 ∧ sl a' 1 = .slice (some ⟨ro, 0, none⟩) no co ∧ sl a' 5 = .int .i64 (i : Int) ∧ sl a' 6 = .int .u64 (sm + sz) ∧ sl a' 7 = .int .i64 (cc : Int) ∧ sl a' 8 = .int .i64 (k : Int) ∧ wr = w') Nope) a wr := by
  obtain ⟨f, ha, hs⟩ := frKBd hf
  rw [(hs 0).trans h0, (hs 1).trans h1, (hs 5).trans h5, (hs 6).trans h6, (hs 7).trans h7, (hs 8).trans h8] at ha
  clear hs hf h0 h1 h5 h6 h7 h8
  subst ha
  refine piece2 fun J0 K0 hJ0 hK0 => ?_
  conv => arg 2; whnf
  have c1 := HC.out
  have hi2 : (k : Int) < (no : Int) := by omega
  have hi0 : (0 : Int) ≤ (k : Int) := by omega
  have e1 : IntKind.u64.wrap sz = sz := by rw [IntKind.wrap_u64]; omega
  have e2 : IntKind.u64.wrap (sm + sz) = sm + sz := by rw [IntKind.wrap_u64]; omega
  go_wp2_with fail
  refine Met.intro (hJ0 _ _ ?_)
  exact ⟨⟨rfl, rfl⟩, rfl, rfl, rfl, rfl, rfl, rfl, rfl⟩

theorem q13 (wr : World) (xb xo n c0 ro no co i cc k : Nat) (sm : Int) (tk_ ti r B D P : Int) (HC : Hid (wr.cell? ⟨ro, k * 5, none⟩ = some (.int .u64 tk_) ∧ wr.cell? ⟨ro, i * 5, none⟩ = some (.int .u64 ti) ∧ wr.cell? ⟨xb, xo + cc * 4, none⟩ = some (.int .u64 r) ∧ wr.cell? ⟨xb, xo + cc * 4 + 1, none⟩ = some (.int .u64 B))) (hi : i < no) (hk : k < no) (hcn : cc < n) (hD : D = tk_ - ti) (hP : r * D = P) (d0 : 0 ≤ D) (d1 : D ≤ 4294967296) (p0 : 0 ≤ P) (p1 : P ≤ 10000000000000000) (b0 : 0 ≤ B) (b1 : B ≤ 1048576) (hs : sm ≤ B + P) (a : Act) (hf : Fr 89 a) (h0 : sl a 0 = .slice (some ⟨xb, xo, none⟩) n c0) (h1 : sl a 1 = .slice (some ⟨ro, 0, none⟩) no co) (h5 : sl a 5 = .int .i64 (i : Int)) (h6 : sl a 6 = .int .u64 sm) (h7 : sl a 7 = .int .i64 (cc : Int)) (h8 : sl a 8 = .int .i64 (k : Int)) :
    Code.wp Try.prog (cAt [1,0,1,2,2,1,0,2,1,1,1,1,2,2,1,0,2,1,1,0] KBd) (Exit.then (fun a' w' => Fr 89 a' ∧ sl a' 0 = .slice (some ⟨xb, xo, none⟩) n c0 ∧ sl a' 1 = .slice (some ⟨ro, 0, none⟩) no co ∧ sl a' 5 = .int .i64 (i : Int) ∧ sl a' 6 = .int .u64 sm ∧ sl a' 7 = .int .i64 (cc : Int) ∧ sl a' 8 = .int .i64 (k : Int) ∧ sl a' 88 = .bool false ∧ Below wr.heap.size wr w') Nope) a wr := by
  obtain ⟨f, ha, hs⟩ := frKBd hf
  rw [(hs 0).trans h0, (hs 1).trans h1, (hs 5).trans h5, (hs 6).trans h6, (hs 7).trans h7, (hs 8).trans h8] at ha
  clear hs hf h0 h1 h5 h6 h7 h8
  subst ha
  refine piece2 fun J0 K0 hJ0 hK0 => ?_
  conv => arg 2; whnf
  have hi2 : (i : Int) < (no : Int) := by omega
  have hi0 : (0 : Int) ≤ (i : Int) := by omega
  have hk2 : (k : Int) < (no : Int) := by omega
  have hk0 : (0 : Int) ≤ (k : Int) := by omega
  have hc2 : (cc : Int) < (n : Int) := by omega
  have hc0 : (0 : Int) ≤ (cc : Int) := by omega
  have e1 : IntKind.u64.wrap (tk_ - ti) = D := by rw [IntKind.wrap_u64]; omega
  have e2 : IntKind.u64.wrap (r * D) = P := by rw [hP, IntKind.wrap_u64]; omega
  have e3 : IntKind.u64.wrap (B + P) = B + P := by rw [IntKind.wrap_u64]; omega
  have hlt : ¬ tk_ < ti := by omega
  have hsm : ¬ B + P < sm := by omega
  clear hP hD
  refine wp_region_held_drew (S := fun w' => w'.cell? ⟨ro, k * 5, none⟩ = some (.int .u64 tk_) ∧ w'.cell? ⟨ro, i * 5, none⟩ = some (.int .u64 ti) ∧ w'.cell? ⟨xb, xo + cc * 4, none⟩ = some (.int .u64 r) ∧ w'.cell? ⟨xb, xo + cc * 4 + 1, none⟩ = some (.int .u64 B)) (by kernel_rfl) HC.out (fun hS => ?_)
  refine tkB 0 51 (.slice (some ⟨ro, 0, none⟩) no co) (fun w' h' => ?_) hS ?_
  · go_simp
  refine tkB 1 52 (.int .i64 (k : Int)) (fun w' h' => ?_) hS ?_
  · go_simp
  try simp only [Act.put, List.setIfInBounds_toArray, List.set_cons_zero, List.set_cons_succ]
  refine tkB 2 53 (.pointer (some ⟨ro, k * 5, none⟩)) (fun w' h' => ?_) hS ?_
  · go_simp
  refine tkB 3 54 (.pointer (some ⟨ro, k * 5, none⟩)) (fun w' h' => ?_) hS ?_
  · go_simp
  try simp only [Act.put, List.setIfInBounds_toArray, List.set_cons_zero, List.set_cons_succ]
  refine tkB 4 55 (.int .u64 tk_) (fun w' h' => ?_) hS ?_
  · have q1 := h'.1
    go_simp
  refine tkB 5 56 (.slice (some ⟨ro, 0, none⟩) no co) (fun w' h' => ?_) hS ?_
  · go_simp
  try simp only [Act.put, List.setIfInBounds_toArray, List.set_cons_zero, List.set_cons_succ]
  refine tkB 6 57 (.int .i64 (i : Int)) (fun w' h' => ?_) hS ?_
  · go_simp
  refine tkB 7 58 (.pointer (some ⟨ro, i * 5, none⟩)) (fun w' h' => ?_) hS ?_
  · go_simp
  try simp only [Act.put, List.setIfInBounds_toArray, List.set_cons_zero, List.set_cons_succ]
  refine tkB 8 59 (.pointer (some ⟨ro, i * 5, none⟩)) (fun w' h' => ?_) hS ?_
  · go_simp
  refine tkB 9 60 (.int .u64 ti) (fun w' h' => ?_) hS ?_
  · have q1 := h'.2.1
    go_simp
  try simp only [Act.put, List.setIfInBounds_toArray, List.set_cons_zero, List.set_cons_succ]
  refine tkB 10 61 (.bool false) (fun w' h' => ?_) hS ?_
  · go_simp
  refine tkB 11 62 (.bool false) (fun w' h' => ?_) hS ?_
  · go_simp
  try simp only [Act.put, List.setIfInBounds_toArray, List.set_cons_zero, List.set_cons_succ]
  refine tkB 12 63 (.int .u64 sm) (fun w' h' => ?_) hS ?_
  · go_simp
  refine tkB 13 64 (.slice (some ⟨xb, xo, none⟩) n c0) (fun w' h' => ?_) hS ?_
  · go_simp
  try simp only [Act.put, List.setIfInBounds_toArray, List.set_cons_zero, List.set_cons_succ]
  refine tkB 14 65 (.int .i64 (cc : Int)) (fun w' h' => ?_) hS ?_
  · go_simp
  refine tkB 15 66 (.pointer (some ⟨xb, xo + cc * 4, none⟩)) (fun w' h' => ?_) hS ?_
  · go_simp
  try simp only [Act.put, List.setIfInBounds_toArray, List.set_cons_zero, List.set_cons_succ]
  refine tkB 16 67 (.pointer (some ⟨xb, xo + cc * 4 + 1, none⟩)) (fun w' h' => ?_) hS ?_
  · go_simp
  refine tkB 17 68 (.int .u64 B) (fun w' h' => ?_) hS ?_
  · have q1 := h'.2.2.2
    go_simp
  try simp only [Act.put, List.setIfInBounds_toArray, List.set_cons_zero, List.set_cons_succ]
  refine tkB 18 69 (.slice (some ⟨xb, xo, none⟩) n c0) (fun w' h' => ?_) hS ?_
  · go_simp
  refine tkB 19 70 (.int .i64 (cc : Int)) (fun w' h' => ?_) hS ?_
  · go_simp
  try simp only [Act.put, List.setIfInBounds_toArray, List.set_cons_zero, List.set_cons_succ]
  refine tkB 20 71 (.pointer (some ⟨xb, xo + cc * 4, none⟩)) (fun w' h' => ?_) hS ?_
  · go_simp
  refine tkB 21 72 (.pointer (some ⟨xb, xo + cc * 4, none⟩)) (fun w' h' => ?_) hS ?_
  · go_simp
  try simp only [Act.put, List.setIfInBounds_toArray, List.set_cons_zero, List.set_cons_succ]
  refine tkB 22 73 (.int .u64 r) (fun w' h' => ?_) hS ?_
  · have q1 := h'.2.2.1
    go_simp
  refine tkB 23 74 (.slice (some ⟨ro, 0, none⟩) no co) (fun w' h' => ?_) hS ?_
  · go_simp
  try simp only [Act.put, List.setIfInBounds_toArray, List.set_cons_zero, List.set_cons_succ]
  refine tkB 24 75 (.int .i64 (k : Int)) (fun w' h' => ?_) hS ?_
  · go_simp
  refine tkB 25 76 (.pointer (some ⟨ro, k * 5, none⟩)) (fun w' h' => ?_) hS ?_
  · go_simp
  try simp only [Act.put, List.setIfInBounds_toArray, List.set_cons_zero, List.set_cons_succ]
  refine tkB 26 77 (.pointer (some ⟨ro, k * 5, none⟩)) (fun w' h' => ?_) hS ?_
  · go_simp
  refine tkB 27 78 (.int .u64 tk_) (fun w' h' => ?_) hS ?_
  · have q1 := h'.1
    go_simp
  try simp only [Act.put, List.setIfInBounds_toArray, List.set_cons_zero, List.set_cons_succ]
  refine tkB 28 79 (.slice (some ⟨ro, 0, none⟩) no co) (fun w' h' => ?_) hS ?_
  · go_simp
  refine tkB 29 80 (.int .i64 (i : Int)) (fun w' h' => ?_) hS ?_
  · go_simp
  try simp only [Act.put, List.setIfInBounds_toArray, List.set_cons_zero, List.set_cons_succ]
  refine tkB 30 81 (.pointer (some ⟨ro, i * 5, none⟩)) (fun w' h' => ?_) hS ?_
  · go_simp
  refine tkB 31 82 (.pointer (some ⟨ro, i * 5, none⟩)) (fun w' h' => ?_) hS ?_
  · go_simp
  try simp only [Act.put, List.setIfInBounds_toArray, List.set_cons_zero, List.set_cons_succ]
  refine tkB 32 83 (.int .u64 ti) (fun w' h' => ?_) hS ?_
  · have q1 := h'.2.1
    go_simp
  refine tkB 33 84 (.int .u64 D) (fun w' h' => ?_) hS ?_
  · go_simp
  try simp only [Act.put, List.setIfInBounds_toArray, List.set_cons_zero, List.set_cons_succ]
  refine tkB 34 85 (.int .u64 P) (fun w' h' => ?_) hS ?_
  · go_simp
  refine tkB 35 86 (.int .u64 (B + P)) (fun w' h' => ?_) hS ?_
  · go_simp
  try simp only [Act.put, List.setIfInBounds_toArray, List.set_cons_zero, List.set_cons_succ]
  refine tkB 36 87 (.bool false) (fun w' h' => ?_) hS ?_
  · go_simp
  refine tkB 37 88 (.bool false) (fun w' h' => ?_) hS ?_
  · go_simp
  refine wpAnyH_done (by kernel_rfl) ?_ _
  go_wp2_with fail
  refine Met.intro (hJ0 _ _ ?_)
  exact ⟨⟨rfl, rfl⟩, rfl, rfl, rfl, rfl, rfl, rfl, rfl, (Below.refl _ _).drew⟩

theorem q15 (wr : World) (R : Ending → World → Prop) (HR : R (.returned (.bool true)) wr) (a : Act) (hf : Fr 89 a) :
    Code.wp Try.prog (cAt [1,1] KBd) (bodyPost Try.prog Try.f21 R) a wr := by
  have H := Lib.hid HR
  clear HR
  obtain ⟨f, ha, hs⟩ := frKBd hf
  clear hs hf 
  subst ha
  conv => arg 2; whnf
  go_wp2_with fail
  first | exact H.out | (go_ret; exact H.out)

/-- What bounded needs of what went out. -/
structure BdO (l : List Cs) (o : List Ot) : Prop where
  bp : BdP l o
  cls : ∀ x ∈ o, x.c < l.length ∧ 0 ≤ x.x.sz ∧ x.x.sz ≤ 2048 ∧ 0 ≤ x.t ∧ x.t < 4294967296
  cl : ∀ x ∈ l, 0 ≤ x.r ∧ x.r < 1048576 ∧ 0 ≤ x.B ∧ x.B < 1048576
theorem smC_pos (c : Nat) : ∀ (l : List Ot), (∀ x ∈ l, 0 ≤ x.x.sz) → 0 ≤ smC c l
  | [], _ => Int.le_refl _
  | x :: t, h => by
    have := smC_pos c t (fun y hy => h y (List.mem_cons_of_mem _ hy))
    have := h x List.mem_cons_self
    rw [smC]
    split <;> omega
theorem smC_snoc (c : Nat) (o : List Ot) {i k : Nat} (hik : i ≤ k) {y : Ot} (hy : o[k]? = some y) : smC c ((o.take (k + 1)).drop i) = smC c ((o.take k).drop i) + (if y.c = c then y.x.sz else 0) := by
  have hk := (List.getElem?_eq_some_iff.1 hy).1
  rw [List.take_add_one, hy, Option.toList_some, drop_snoc _ _ _ (by rw [List.length_take]; omega), smC_app]
  simp [smC]
theorem bounded_any (xb xo n c0 : Nat) (l : List Cs) (hlen : l.length = n) (vo : Option Addr) (no co : Nat) (ys : List Po) (B : Nat) (w : World) (hl : ∀ (i : Nat) (x : Cs), l[i]? = some x → w.rangeAt xb (xo + i * 4) x.cs) (ho : Ops w B vo no co ys) (h : BdO l (ys.map Po.ot)) (hn : no ≤ 100000) :
    Calls Try.prog 21 #[.slice (some ⟨xb, xo, none⟩) n c0, .slice vo no co] w (Yes w) := by
  have hno := ho.len
  refine calls_of_wp (c := KBd) Try.func21 (by kernel_rfl) ?_
  have hf : Fr 89 { tmps := #[.slice (some ⟨xb, xo, none⟩) n c0, .slice vo no co] ++ Array.replicate (Try.f21.ntmps - (#[.slice (some ⟨xb, xo, none⟩) n c0, .slice vo no co] : Array Value).size) undef, defers := [] } := ⟨rfl, by simp [Try.ntmps21]⟩
  refine wp_sqR (x := cAt [0] KBd) (y := cAt [1] KBd) (by kernel_rfl) (q0 w xb xo n c0 vo no co _ hf (sl_at _ _ 0 _ rfl) (sl_at _ _ 1 _ rfl)) ?_
  rintro a1 _ ⟨hf, h0, h1, rfl⟩
  refine tkBq (R := fun a' w' => Below w.heap.size w w' ∧ Fr 89 a') ?_ ?_
  · refine tkBq (q1 w xb xo n c0 vo no co a1 hf h0 h1) ?_
    rintro a2 _ ⟨hf, h0, h1, h5, rfl⟩
    refine wp_blockR (x := cAt [1,0,1,2] KBd) (id := 0) (by kernel_rfl) ?_
    refine wp_loopR (x := cAt [1,0,1,2,2] KBd) (by kernel_rfl) (fun a' w' => ∃ i : Nat, i ≤ no ∧ Below w.heap.size w w' ∧ Fr 89 a' ∧ sl a' 0 = .slice (some ⟨xb, xo, none⟩) n c0 ∧ sl a' 1 = .slice vo no co ∧ sl a' 5 = .int .i64 (i : Int)) (fun a' _ => no - (intOf (sl a' 5)).toNat) ⟨0, Nat.zero_le _, Below.refl _ _, hf, h0, h1, h5⟩ ?_
    rintro a3 w3 ⟨i, hi, hb, hf, h0, h1, h5⟩
    by_cases hlt : i < no
    case neg =>
      refine wp_endX (q2x w3 xb xo n c0 vo no co i hlt a3 hf h0 h1 h5) ?_
      rintro a4 _ ⟨hf, rfl⟩
      exact thru ⟨hb, hf⟩
    refine tkBq (q2 w3 xb xo n c0 vo no co i hlt a3 hf h0 h1 h5) ?_
    rintro a4 _ ⟨hf, h0, h1, h5', rfl⟩
    obtain ⟨p, hp⟩ : ∃ p, ys[i]? = some p := ⟨_, List.getElem?_eq_getElem (by omega)⟩
    obtain ⟨ro, hvo, hrg⟩ := (ho.below hb).nth hp
    have hpc := h.cls p.ot (List.mem_map.2 ⟨p, List.mem_of_getElem? hp, rfl⟩)
    have hpi : (ys.map Po.ot)[i]? = some p.ot := by rw [List.getElem?_map, hp]; rfl
    obtain ⟨cl, hcl⟩ : ∃ cl, l[p.c]? = some cl := ⟨_, List.getElem?_eq_getElem hpc.1⟩
    have hclb := h.cl cl (List.mem_of_getElem? hcl)
    rw [hvo] at h1
    refine tkBq (R := fun a' w' => Below w.heap.size w w' ∧ Fr 89 a' ∧ sl a' 0 = .slice (some ⟨xb, xo, none⟩) n c0 ∧ sl a' 1 = .slice vo no co ∧ sl a' 5 = .int .i64 (i : Int)) ?_ ?_
    · refine wp_blockR (x := cAt [1,0,1,2,2,1,0,2] KBd) (id := 1) (by kernel_rfl) ?_
      refine tkBq (q4 w3 xb xo n c0 (some ⟨ro, 0, none⟩) no co i a4 hf h0 h1 h5') ?_
      rintro a5 _ ⟨hf, h0, h1, h5', h6, rfl⟩
      refine tkBq (q5 w3 xb xo n c0 ro no co i p.c (hrg 1 _ rfl) hlt a5 hf h0 h1 h5' h6) ?_
      rintro a6 _ ⟨hf, h0, h1, h5', h6, h7, rfl⟩
      refine tkBq (R := fun a' w' => w3 = w' ∧ Fr 89 a' ∧ sl a' 0 = .slice (some ⟨xb, xo, none⟩) n c0 ∧ sl a' 1 = .slice (some ⟨ro, 0, none⟩) no co ∧ sl a' 5 = .int .i64 (i : Int) ∧ sl a' 6 = .int .u64 0 ∧ sl a' 7 = .int .i64 (p.c : Int)) ?_ ?_
      · refine tkBq (q6 w3 xb xo n c0 ro no co i p.c (by have := hpc.1; show p.ot.c < n; omega) a6 hf h0 h1 h5' h6 h7) ?_
        rintro a7 _ ⟨hf, h0, h1, h5', h6, h7, h27, rfl⟩
        refine wp_onF (A := cAt [1,0,1,2,2,1,0,2,1,1,0,1,3] KBd) (B := cAt [1,0,1,2,2,1,0,2,1,1,0,1,4] KBd) (by kernel_rfl) h27 ?_
        exact wp_skipR (by kernel_rfl) ⟨rfl, hf, h0, h1, h5', h6, h7⟩
      rintro a7 _ ⟨rfl, hf, h0, h1, h5', h6, h7⟩
      refine tkBq (q8 w3 xb xo n c0 ro no co i p.c a7 hf h0 h1 h5' h6 h7) ?_
      rintro a8 _ ⟨hf, h0, h1, h5', h6, h7, h8, rfl⟩
      refine wp_blockR (x := cAt [1,0,1,2,2,1,0,2,1,1,1,1,2] KBd) (id := 2) (by kernel_rfl) ?_
      refine wp_loopR (x := cAt [1,0,1,2,2,1,0,2,1,1,1,1,2,2] KBd) (by kernel_rfl) (fun a' w' => ∃ k : Nat, i ≤ k ∧ k ≤ no ∧ Below w.heap.size w w' ∧ Fr 89 a' ∧ sl a' 0 = .slice (some ⟨xb, xo, none⟩) n c0 ∧ sl a' 1 = .slice (some ⟨ro, 0, none⟩) no co ∧ sl a' 5 = .int .i64 (i : Int) ∧ sl a' 6 = .int .u64 (smC p.c (((ys.map Po.ot).take k).drop i)) ∧ sl a' 7 = .int .i64 (p.c : Int) ∧ sl a' 8 = .int .i64 (k : Int)) (fun a' _ => no - (intOf (sl a' 8)).toNat) ⟨i, Nat.le_refl _, by omega, hb, hf, h0, h1, h5', by rw [h6]; congr 1; rw [List.drop_of_length_le (by rw [List.length_take]; omega)]; rfl, h7, h8⟩ ?_
      rintro a9 w9 ⟨k, hik, hk, hb9, hf, h0, h1, h5', h6, h7, h8⟩
      by_cases hkl : k < no
      case neg =>
        refine wp_endX (q9x w9 xb xo n c0 ro no co i p.c k _ hkl a9 hf h0 h1 h5' h6 h7 h8) ?_
        rintro a10 _ ⟨hf, h0, h1, h5', rfl⟩
        refine thru ?_
        rw [← hvo] at h1
        exact ⟨hb9, hf, h0, h1, h5'⟩
      refine tkBq (q9 w9 xb xo n c0 ro no co i p.c k _ hkl a9 hf h0 h1 h5' h6 h7 h8) ?_
      rintro a10 _ ⟨hf, h0, h1, h5', h6, h7, h8', rfl⟩
      obtain ⟨q, hq⟩ : ∃ q, ys[k]? = some q := ⟨_, List.getElem?_eq_getElem (by omega)⟩
      obtain ⟨ro2, hvo2, hrgk⟩ := (ho.below hb9).nth hq
      have hrr : ro2 = ro := by rw [hvo] at hvo2; simpa using hvo2.symm
      subst hrr
      have hqk : (ys.map Po.ot)[k]? = some q.ot := by rw [List.getElem?_map, hq]; rfl
      have hqc := h.cls q.ot (List.mem_map.2 ⟨q, List.mem_of_getElem? hq, rfl⟩)
      have hsn := smC_snoc p.c (ys.map Po.ot) hik hqk
      have hpos : 0 ≤ smC p.c (((ys.map Po.ot).take k).drop i) := smC_pos _ _ (fun x hx => (h.cls x (List.mem_of_mem_take (List.mem_of_mem_drop hx))).2.1)
      refine tkBq (R := fun a' w' => Below w.heap.size w w' ∧ Fr 89 a' ∧ sl a' 0 = .slice (some ⟨xb, xo, none⟩) n c0 ∧ sl a' 1 = .slice (some ⟨ro2, 0, none⟩) no co ∧ sl a' 5 = .int .i64 (i : Int) ∧ sl a' 6 = .int .u64 (smC p.c (((ys.map Po.ot).take (k + 1)).drop i)) ∧ sl a' 7 = .int .i64 (p.c : Int) ∧ sl a' 8 = .int .i64 (k : Int)) ?_ ?_
      · refine wp_blockR (x := cAt [1,0,1,2,2,1,0,2,1,1,1,1,2,2,1,0,2] KBd) (id := 3) (by kernel_rfl) ?_
        refine wp_sqG (x := cAt [1,0,1,2,2,1,0,2,1,1,1,1,2,2,1,0,2,0] KBd) (y := cAt [1,0,1,2,2,1,0,2,1,1,1,1,2,2,1,0,2,1] KBd) (by kernel_rfl) ?_
        refine tkBq (q11 w9 xb xo n c0 ro2 no co i p.c k _ q.c (hrgk 1 _ rfl) hkl a10 hf h0 h1 h5' h6 h7 h8') ?_
        rintro a11 _ ⟨hf, h0, h1, h5', h6, h7, h8', h41, rfl⟩
        by_cases hcc : q.c = p.c
        · rw [decide_eq_false (fun hne => hne hcc)] at h41
          refine wp_onF (A := cAt [1,0,1,2,2,1,0,2,1,1,1,1,2,2,1,0,2,0,1,3] KBd) (B := cAt [1,0,1,2,2,1,0,2,1,1,1,1,2,2,1,0,2,0,1,4] KBd) (by kernel_rfl) h41 ?_
          refine wp_skipR (by kernel_rfl) ?_
          have hbp := h.bp i k p.ot q.ot cl hpi hqk hik hcc hcl
          rw [show p.ot.c = p.c from rfl, hsn, if_pos (show q.ot.c = p.c from hcc)] at hbp
          have ht0 := hpc.2.2.2.1
          have ht1 := hqc.2.2.2.2
          have hd0 : 0 ≤ q.t - p.t := by have := hbp.1; show 0 ≤ q.ot.t - p.ot.t; omega
          have hd1 : q.t - p.t ≤ 4294967296 := by show q.ot.t - p.ot.t ≤ _; omega
          have hP0 : 0 ≤ cl.r * (q.t - p.t) := Int.mul_nonneg hclb.1 hd0
          have hP1 : cl.r * (q.t - p.t) ≤ 1048576 * 4294967296 := Int.mul_le_mul (by omega) hd1 hd0 (by decide)
          have hs2 : smC p.c (((ys.map Po.ot).take k).drop i) + q.y.sz ≤ cl.B + cl.r * (q.t - p.t) := hbp.2
          have hz0 : 0 ≤ q.y.sz := hqc.2.1
          have hz1 : q.y.sz ≤ 2048 := hqc.2.2.1
          refine tkBq (q12 w9 xb xo n c0 ro2 no co i p.c k _ q.y.sz (hrgk 3 _ rfl) hkl hz0 hz1 hpos (by omega) a11 hf h0 h1 h5' h6 h7 h8') ?_
          rintro a12 _ ⟨hf, h0, h1, h5', h6, h7, h8', rfl⟩
          obtain ⟨ro3, hvo3, hrgi⟩ := (ho.below hb9).nth hp
          have hrr3 : ro3 = ro2 := by rw [hvo] at hvo3; simpa using hvo3.symm
          rw [hrr3] at hrgi
          have hrc := range_kept hb9 (hl p.c cl hcl)
          refine tkBq (q13 w9 xb xo n c0 ro2 no co i p.c k _ q.t p.t cl.r cl.B (q.t - p.t) (cl.r * (q.t - p.t)) ⟨hrgk 0 _ rfl, hrgi 0 _ rfl, hrc 0 _ rfl, hrc 1 _ rfl⟩ hlt hkl (by have := hpc.1; show p.ot.c < n; omega) rfl rfl hd0 hd1 hP0 (by omega) hclb.2.2.1 (by omega) hs2 a12 hf h0 h1 h5' h6 h7 h8') ?_
          rintro a13 w13 ⟨hf, h0, h1, h5', h6, h7, h8', h88, hb13⟩
          refine wp_onF (A := cAt [1,0,1,2,2,1,0,2,1,1,1,1,2,2,1,0,2,1,1,1,3] KBd) (B := cAt [1,0,1,2,2,1,0,2,1,1,1,1,2,2,1,0,2,1,1,1,4] KBd) (by kernel_rfl) h88 ?_
          refine wp_skipR (by kernel_rfl) ?_
          refine ⟨hb9.trans (hb13.mono hb9.size), hf, h0, h1, h5', ?_, h7, h8'⟩
          rw [h6, hsn, if_pos (show q.ot.c = p.c from hcc)]; rfl
        · rw [decide_eq_true hcc] at h41
          refine wp_onT (A := cAt [1,0,1,2,2,1,0,2,1,1,1,1,2,2,1,0,2,0,1,3] KBd) (B := cAt [1,0,1,2,2,1,0,2,1,1,1,1,2,2,1,0,2,0,1,4] KBd) (by kernel_rfl) h41 ?_
          refine wp_endX (q11x w9 xb xo n c0 ro2 no co i p.c k _ a11 hf h0 h1 h5' h6 h7 h8') ?_
          rintro a12 _ ⟨hf, h0, h1, h5', h6, h7, h8', rfl⟩
          refine thru ?_
          refine ⟨hb9, hf, h0, h1, h5', ?_, h7, h8'⟩
          rw [h6, hsn, if_neg (show ¬ q.ot.c = p.c from hcc), Int.add_zero]
      rintro a11 w11 ⟨hb11, hf, h0, h1, h5', h6, h7, h8'⟩
      refine wp_endR (q10 w11 xb xo n c0 ro2 no co i p.c k _ (by omega) a11 hf h0 h1 h5' h6 h7 h8') ?_
      rintro a12 _ ⟨hf, h0, h1, h5', h6, h7, h8'', rfl⟩
      refine ⟨⟨k + 1, by omega, hkl, hb11, hf, h0, h1, h5', h6, h7, by rw [h8'']; rfl⟩, ?_⟩
      rw [h8, h8'']
      simp only [intOf]
      omega
    rintro a5 w5 ⟨hb5, hf, h0, h1, h5'⟩
    refine wp_endR (q3 w5 xb xo n c0 vo no co i (by omega) a5 hf h0 h1 h5') ?_
    rintro a6 _ ⟨hf, h0, h1, h5'', rfl⟩
    refine ⟨⟨i + 1, hlt, hb5, hf, h0, h1, by rw [h5'']; rfl⟩, ?_⟩
    rw [h5, h5'']
    simp only [intOf]
    omega
  rintro a2 w2 ⟨hb2, hf⟩
  exact q15 w2 _ ⟨rfl, hb2⟩ a2 hf
end Go.Proofs.Ytpigpeehhadkjaa

/-
  ShaperEarly's plain facts, and two shapers' memory. Conditions: those that the theorems name.
-/
import Derived.Test.YtpigpeehhadkjaaSpNone
namespace Go.Proofs.Ytpigpeehhadkjaa
open Go.RowKit Bkt

theorem relF_nx {tick T T' : Int} {ls : List Ab} (h : nx T ls = nx T' ls) : ∀ n, relF tick n T ls = relF tick n T' ls
  | 0 => rfl
  | n + 1 => by rw [relF, relF, h]
/-- Up to one tick, and then up to another, is up to the other at once. -/
theorem rel_split (t1 t2 : Int) (h12 : t1 ≤ t2) : ∀ (m : Nat) (T : Int) (ls : List Ab), tot ls = m → Oks ls T → T ≤ t1 →
    rel t2 T ls = ((rel t2 t1 (rel t1 T ls).1).1, (rel t1 T ls).2 ++ (rel t2 t1 (rel t1 T ls).1).2) := by
  intro m
  induction m with
  | zero =>
    intro T ls hm hok hT
    have hg : ∀ t, ¬ ((nx T ls).k = true ∧ (nx T ls).t ≤ t) := fun t hg => by
      obtain ⟨h1, h2, _⟩ := (Inv.refl T ls).step hok hg.1
      have := tot_send h1 h2 (nx T ls).t
      omega
    rw [rel_no (hg t1)]
    have e : rel t2 t1 ls = (ls, []) := by unfold rel; rw [hm]; rfl
    show rel t2 T ls = ((rel t2 t1 ls).1, [] ++ (rel t2 t1 ls).2)
    rw [e, rel_no (hg t2)]; rfl
  | succ m ih =>
    intro T ls hm hok hT
    by_cases hg : (nx T ls).k = true ∧ (nx T ls).t ≤ t1
    · obtain ⟨h1, h2, _, _, _, _, h5, _⟩ := (Inv.refl T ls).step hok hg.1
      have hts := tot_send h1 h2 (nx T ls).t
      rw [rel_yes hok (Inv.refl T ls) hg.1 hg.2, rel_yes hok (Inv.refl T ls) hg.1 (Int.le_trans hg.2 h12), ih _ _ (by omega) h5 hg.2]
      rfl
    · rw [rel_no hg]
      have hnx : nx T ls = nx t1 ls := by
        refine Inv.nxE ⟨hT, fun i hi he => ?_⟩
        cases hk : (nx T ls).k with
        | false => have := (best_no (tn T ls) _ hk).2 i hi; rw [this] at he; cases he
        | true =>
          have h4 : (nx T ls).t ≤ (tn T ls i).at_ := (best_yes (tn T ls) _ hk).2.2.2.1 i hi he
          have h5 : t1 < (nx T ls).t := by
            rcases Int.lt_or_le t1 (nx T ls).t with h | h
            · exact h
            · exact absurd ⟨hk, h⟩ hg
          omega
      show rel t2 T ls = ((rel t2 t1 ls).1, [] ++ (rel t2 t1 ls).2)
      unfold rel
      rw [relF_nx hnx]
      rfl
/-- Where nothing is covered before, what goes out does so between; of one tick the classes rise. -/
structure Ris (lo tick T : Int) (ls : List Ab) (o : List Ot) : Prop where
  rng : ∀ x ∈ o, lo ≤ x.t ∧ x.t ≤ tick
  nx : (nx T ls).k = true → lo ≤ (nx T ls).t
  cls : ∀ x ∈ o, x.c < ls.length
  ris : ∀ (i : Nat) (x y : Ot), o[i]? = some x → o[i + 1]? = some y → x.t ≤ y.t ∧ (x.t = y.t → x.c ≤ y.c)
  last : ∀ x, o.getLast? = some x → x.t ≤ T ∧ ((Go.Proofs.Ytpigpeehhadkjaa.nx T ls).k = true → (Go.Proofs.Ytpigpeehhadkjaa.nx T ls).t = x.t → x.c ≤ (Go.Proofs.Ytpigpeehhadkjaa.nx T ls).c)
theorem snoc_at {α : Type} {o : List α} {z x y : α} {i : Nat} (hx : (o ++ [z])[i]? = some x) (hy : (o ++ [z])[i + 1]? = some y) : (o[i]? = some x ∧ o[i + 1]? = some y) ∨ (o.getLast? = some x ∧ y = z) := by
  have hi := (List.getElem?_eq_some_iff.1 hy).1
  rw [List.length_append] at hi
  simp at hi
  by_cases h : i + 1 < o.length
  · left
    rw [List.getElem?_append_left (by omega)] at hx
    rw [List.getElem?_append_left h] at hy
    exact ⟨hx, hy⟩
  · right
    have e : o.length = i + 1 := by omega
    rw [List.getElem?_append_left (by omega)] at hx
    rw [List.getElem?_append_right (by omega), e, Nat.sub_self] at hy
    simp at hy
    exact ⟨by rw [List.getLast?_eq_getElem?, e, Nat.add_sub_cancel]; exact hx, hy.symm⟩
theorem ris_step {lo tick T : Int} {ls : List Ab} {o : List Ot} (hok : Oks ls T) (h : Ris lo tick T ls o) (hk : (nx T ls).k = true) (ht : (nx T ls).t ≤ tick) :
    Ris lo tick (nx T ls).t (ls.set (nx T ls).c ((ls.getD (nx T ls).c az).send (nx T ls).t)) (o ++ [⟨(nx T ls).t, (nx T ls).c, (ls.getD (nx T ls).c az).A.hd⟩]) := by
  obtain ⟨h1, h2, h3, h4, _, _, h5, h6⟩ := (Inv.refl T ls).step hok hk
  obtain ⟨b1, b2, b3, b4, b5⟩ := best_yes (tn T ls) _ hk
  have hlo := h.nx hk
  have hnt : ∀ (l : List Ab) (t : Int), Oks l t → (nx t l).k = true → t ≤ (nx t l).t := fun l t ho hk2 => ((Inv.refl t l).step ho hk2).2.2.1
  refine ⟨fun x hx => ?_, fun hk2 => ?_, fun x hx => ?_, fun i x y hx hy => ?_, fun x hx => ?_⟩
  · rcases List.mem_append.1 hx with hx | hx
    · exact h.rng x hx
    · simp at hx
      subst hx
      exact ⟨hlo, ht⟩
  · have := hnt _ _ h5 hk2
    omega
  · rw [List.length_set]
    rcases List.mem_append.1 hx with hx | hx
    · exact h.cls x hx
    · simp at hx
      subst hx
      exact h1
  · rcases snoc_at hx hy with ⟨e1, e2⟩ | ⟨e1, e2⟩
    · exact h.ris i x y e1 e2
    · subst e2
      have hl := h.last x e1
      exact ⟨Int.le_trans hl.1 h3, fun e => hl.2 hk e.symm⟩
  · rw [List.getLast?_append] at hx
    simp at hx
    subst hx
    refine ⟨Int.le_refl _, fun hk2 ht2 => ?_⟩
    show (nx T ls).c ≤ _
    obtain ⟨d1, d2, d3, _, _⟩ := best_yes (tn (nx T ls).t (ls.set (nx T ls).c ((ls.getD (nx T ls).c az).send (nx T ls).t))) _ hk2
    rcases Nat.lt_or_ge (nx (nx T ls).t (ls.set (nx T ls).c ((ls.getD (nx T ls).c az).send (nx T ls).t))).c (nx T ls).c with hlt | hge
    · exfalso
      generalize hz : (nx (nx T ls).t (ls.set (nx T ls).c ((ls.getD (nx T ls).c az).send (nx T ls).t))) = z at *
      have d2' : (tn (nx T ls).t (ls.set (nx T ls).c ((ls.getD (nx T ls).c az).send (nx T ls).t)) z.c).ev = true := by rw [← hz]; exact d2
      have d3' : (tn (nx T ls).t (ls.set (nx T ls).c ((ls.getD (nx T ls).c az).send (nx T ls).t)) z.c).at_ = z.t := by rw [← hz]; exact d3
      have hne : (nx T ls).c ≠ z.c := by omega
      have e1 := tu_ev d2'
      unfold tn at d2' d3'
      rw [getD_set_ne _ _ _ _ _ hne] at d2' d3'
      have hev : (tn T ls z.c).ev = true := by unfold tn; rw [tu_iff T (nx T ls).t]; exact d2'
      have q1 := b5 z.c hlt hev
      have q2 := (tu_ev hev).2.2
      have q3 := (tu_ev d2').2.2
      have q4 : (bestF (tn T ls) ls.length).t = (nx T ls).t := rfl
      have q5 : (tn T ls z.c).at_ = (tuV T (ls.getD z.c az)).at_ := rfl
      have ht2' : z.t = (nx T ls).t := ht2
      omega
    · exact hge
theorem rel_ris {lo tick T : Int} {ls : List Ab} (hok : Oks ls T) (hT : T ≤ tick) (hn : (nx T ls).k = true → lo ≤ (nx T ls).t) :
    (∀ x ∈ (rel tick T ls).2, lo ≤ x.t ∧ x.t ≤ tick ∧ x.c < ls.length) ∧ ∀ (i : Nat) (x y : Ot), (rel tick T ls).2[i]? = some x → (rel tick T ls).2[i + 1]? = some y → x.t ≤ y.t ∧ (x.t = y.t → x.c ≤ y.c) := by
  obtain ⟨T', _, _, _, hP, _⟩ := rel_ind tick (fun T l o => Ris lo tick T l o ∧ l.length = ls.length) (fun T l o ho hP hk ht => ⟨ris_step ho hP.1 hk ht, by rw [List.length_set]; exact hP.2⟩) _ T ls [] rfl hok hT ⟨⟨fun x hx => (by cases hx), hn, fun x hx => (by cases hx), fun i x y hx _ => (by simp at hx), fun x hx => (by simp at hx)⟩, rfl⟩
  rw [List.nil_append] at hP
  refine ⟨fun x hx => ⟨(hP.1.rng x hx).1, (hP.1.rng x hx).2, ?_⟩, hP.1.ris⟩
  have := hP.1.cls x hx
  rwa [hP.2] at this

/-- One row of what went out behind another. -/
theorem Ops.cat {W : World} {B B2 : Nat} {v v2 : Option Addr} {n cap m c2 : Nat} {ys zs : List Po} (h : Ops W B v n cap ys) (h2 : Ops W B2 v2 m c2 zs) (hB : B ≤ B2) (hb : B ≤ W.heap.size)
    (hap : ∀ o ∈ ys, ∀ p ∈ zs, ∀ k, blk o.y.a = some k → blk p.y.a ≠ some k) (hn : n + m ≤ 1000000) :
    ∃ v' cap' w', (Builtin.append_ #[47, 47] 47 #[.slice v n cap, .slice v2 m c2]).run Try.prog W = .ok (.slice v' (n + m) cap') w' ∧ Ops w' B v' (n + m) cap' (ys ++ zs) ∧ Kept (fun k => blk v = some k) W w' ∧ (∀ k, blk v' = some k → blk v = some k ∨ W.heap.size ≤ k) := by
  obtain ⟨i0, hi, hz0, hz1, hz2⟩ := info_parts infOut
  have hl1 := h.len
  have hl2 := h2.len
  have data : ∀ w' : World, Kept (fun k => blk v = some k) W w' → ∀ y ∈ ys ++ zs, Own w' B y.y.a y.y.n y.y.c y.y.d ∧ Byt y.y.d ∧ y.y.n ≤ 1000000 := fun w' hk y hy => by
    have hky : ∀ z : Po, Own W B z.y.a z.y.n z.y.c z.y.d → Own w' B z.y.a z.y.n z.y.c z.y.d := fun z hz => hz.keep hk (fun b hb e => by
      rcases h.row.cases with ⟨e2, _⟩ | ⟨r2, cur2, e2, _, hr2, _⟩
      · rw [e2] at e; cases e
      · rw [e2] at e
        simp [blk] at e
        subst e
        obtain ⟨cur3, hr3⟩ := hz.kind hb
        rw [hr2] at hr3
        simp at hr3)
    rcases List.mem_append.1 hy with hy | hy
    · exact ⟨hky y (h.data y hy).1, (h.data y hy).2⟩
    · exact ⟨hky y ((h2.data y hy).1.mono hB), (h2.data y hy).2⟩
  have pw : (ys ++ zs).Pairwise (fun o p => ∀ k, blk o.y.a = some k → blk p.y.a ≠ some k) := by
    rw [List.pairwise_append]
    exact ⟨h.apart, h2.apart, hap⟩
  rcases h2.row.cases with ⟨rfl, rfl, rfl, e0⟩ | ⟨r2, cur2, e2, _, hr2, _⟩
  · have hzs : zs = [] := by
      cases zs with
      | nil => rfl
      | cons z t => simp at hl2
    subst hzs
    refine ⟨v, cap, W, run_append_owned_none W B _ _ _ i0 5 Try.underlying47 hi _ n _ h.row, ?_, Kept.refl _ _, fun k hk => .inl hk⟩
    rw [List.append_nil]
    exact h
  · have hcells : ∀ j u, (zs.flatMap Po.cs)[j]? = some u → W.cell? ((⟨r2, 0, none⟩ : Addr).add j) = some u := by
      intro j u hu
      obtain ⟨r3, e3, hc⟩ := h2.row.cell (by intro e; rw [e] at hu; simp at hu)
      rw [e2] at e3
      simp at e3
      rw [Addr.add_lit, e3]
      exact hc j u hu
    obtain ⟨v', w', hrun, q2, q3, _, q5⟩ := run_append_own_at (P := Try.prog) W B 47 47 61 i0 _ 5 56 Try.underlying47 hi hz0 hz1 hz2 (by rfl) (by omega) (.slice v n cap) n _ h.row ⟨r2, 0, none⟩ m c2 (zs.flatMap Po.cs)
      (by rw [flat_len Po.cs 5 zs (fun x _ => x.len), hl2]) hcells (fun u hu => by
        obtain ⟨z, _, hz⟩ := List.mem_flatMap.1 hu
        exact z.one u hz) (by simp only [maxLen]; omega) (by omega) hb
    rw [ownBlock_eq] at q3 q5
    have hk : Kept (fun k => blk v = some k) W w' := Kept.grown q3 (fun _ e => e)
    rw [e2]
    rcases q2.2 with ⟨rfl, h0⟩ | ⟨g, cap', cur, rfl, r⟩
    · refine ⟨none, 0, w', by rw [hrun, h0], ⟨?_, data w' hk, pw⟩, hk, fun k e => by cases e⟩
      rw [List.flatMap_append, h0]
      rw [h0] at q2
      exact q2
    · refine ⟨some ⟨g, 0, none⟩, cap', w', hrun, ⟨?_, data w' hk, pw⟩, hk, fun k e => ?_⟩
      · rw [List.flatMap_append]
        exact q2
      · rw [ownBlock_eq] at q5
        rcases q5 with q5 | q5
        · exact .inl (by rw [← q5]; exact e)
        · rw [q5] at e
          simp at e
          exact .inr (by omega)

/-- Two shapers, apart. -/
structure L2 (w W : World) (ga gb : Nat) (sa sb : Sh) (N : Int) : Prop where
  a : Lv w W ga sa N
  b : Lv w W gb sb N
  dis : ∀ k, sa.foot ga k → ¬ sb.foot gb k
theorem Sw.ptrs_no {W : World} {B B2 g g2 : Nat} {s s2 : Sh} (h : Sw W B g s) (h2 : Sw W B2 g2 s2) {b : Nat} (hb : blk s.a = some b) : ¬ s2.foot g2 b := by
  rcases h.ptrs.cases with ⟨e, _⟩ | ⟨r, cur, e, _, hr, _⟩
  · rw [e] at hb; cases hb
  · rw [e] at hb
    simp [blk] at hb
    subst hb
    rintro (rfl | ⟨l, hl, hk⟩)
    · rw [h2.row] at hr; simp at hr
    · exact (h2.lws l hl).apart hr (by decide) (by decide) (by decide) (by decide) (by decide) hk
/-- One of them has changed. -/
theorem L2.left {w W W' : World} {ga gb : Nat} {sa sa' sb : Sh} {N M : Int} (h : L2 w W ga gb sa sb N) (hNM : N ≤ M) (ha : Lv w W' ga sa' M) (k : Kept (sa.foot ga) W W') (hf : ∀ k, sa'.foot ga k → sa.foot ga k ∨ W.heap.size ≤ k) : L2 w W' ga gb sa' sb M :=
  ⟨ha, ⟨h.b.sw.keep k (fun i hi e => h.dis i e hi) (fun b hb => h.b.sw.ptrs_no h.a.sw hb), h.b.n1, ha.below, h.b.db.more hNM, h.b.bT, h.b.T0, h.b.T1, ha.N0⟩, fun i hi hj => by
    rcases hf i hi with e | e
    · exact h.dis i e hj
    · have := (h.b.sw.foot_lt hj).2; omega⟩
theorem L2.swap {w W : World} {ga gb : Nat} {sa sb : Sh} {N : Int} (h : L2 w W ga gb sa sb N) : L2 w W gb ga sb sa N := ⟨h.b, h.a, fun k hb ha => h.dis k ha hb⟩
end Go.Proofs.Ytpigpeehhadkjaa

/-
  Rows that grow in a closed statement: fates, and acts that lead to them. Conditions: those that the theorems name.
-/
import Derived.Test.YtbghdlgfpfeaeaaDkPlays
import Derived.Test.YtbghdlgfpfeaeaaDkKeepsA
import Derived.Test.YtbghdlgfpfeaeaaDkNone
namespace Go.Proofs.Ytbghdlgfpfeaeaa
open Go.RowKit

/-- append of one element where the row moves: all that was there is as it was. -/
theorem grown_apart {wr w' : World} {base e t size bytes : Nat} {z : Value} (hinfo : (Try.prog.info? e).map (fun i => (i.zero, i.size, i.bytes)) = some (some z, size, bytes)) (ht : Try.prog.underlying t = some (.slice e)) {a : Option Addr} {n cap : Nat} {vs : List Value} (h : OwnG wr base e size a n cap vs) (_hzs : z.cells.size = size) (_hsz : 0 < size)
    (news : List Value) (hl : news.length = size) (h1 : ∀ u ∈ news, u.oneCell' = true) (hn : n ≤ 1000) (hbt : bytes ≤ 1000) {g cap' : Nat}
    (hrun : (Builtin.append_ #[t, t] t #[.slice a n cap, .slice (some ⟨wr.heap.size, 0, none⟩) 1 1]).run Try.prog (wr.alloc (.cells news.toArray e)) = .ok (.slice (some ⟨g, 0, none⟩) (n + 1) cap') w')
    (hk : Kept (fun k => blk a = some k) wr w') (hg : wr.heap.size < g) : Kept (fun _ => False) wr w' := by
  obtain ⟨i0, hi, hz0, hz1, hz2⟩ := info_parts hinfo
  rcases h.cases with ⟨rfl, _⟩ | ⟨g0, cur, rfl, _, hg0, hnc, hcm, hcs, ht0⟩
  · exact hk.mono (fun _ _ e => by cases e)
  · have hlt : g0 < wr.heap.size := (Array.getElem?_eq_some_iff.1 hg0).1
    have hnews : ∀ j u, news[j]? = some u → (wr.alloc (.cells news.toArray e)).cell? ((⟨wr.heap.size, 0, none⟩ : Addr).add j) = some u := fun j u hu => by
      rw [Addr.add_lit, cell_of_row _ wr.heap.size (0 + j) news.toArray _ (0, 0) (Blk_new wr _ _)]
      simpa using hu
    have hgA : (wr.alloc (.cells news.toArray e)).heap[g0]? = some (.cells cur e (0, 0)) := by rw [Below.heap_alloc _ _ _ hlt]; exact hg0
    by_cases hroom : n + 1 ≤ cap
    · have hr := run_append_room (P := Try.prog) (wr.alloc (.cells news.toArray e)) t t e i0 ht hi g0 n cap cur hgA ⟨wr.heap.size, 0, none⟩ 1 1 news (by rw [hz1, hl, Nat.one_mul]) hnews
        h1 hroom (by rw [hz1, hcs, hl, show n * size + size = (n + 1) * size by rw [Nat.add_mul, Nat.one_mul]]; exact Nat.mul_le_mul_right _ hroom)
      rw [hr] at hrun
      simp only [Result.ok.injEq, Value.slice.injEq, Option.some.injEq, Addr.mk.injEq] at hrun
      omega
    · have hold := h.keep (Kept.alloc (fun _ => False) wr (.cells news.toArray e)) (fun _ _ => id)
      have hr := run_append_grow (P := Try.prog) (wr.alloc (.cells news.toArray e)) t t e i0 _ ht hi hz0 ⟨g0, 0, none⟩ n cap vs (by rw [hz1, h.1]) (World.ownsRow.cells hold (g := g0) rfl) ⟨wr.heap.size, 0, none⟩ 1 1 news (by rw [hz1, hl, Nat.one_mul]) hnews
        (by omega) (by omega) (by rw [hz2]; exact growslice_fits (by omega) (Nat.le_trans (Nat.mul_le_mul (show n + 1 ≤ 1001 by omega) hbt) (by decide)))
      rw [hr] at hrun
      simp only [Result.ok.injEq] at hrun
      rw [← hrun.2]
      exact (Kept.alloc (fun _ => False) wr _).trans (S := fun _ => False) (T := fun _ => False) ⟨rfl, rfl, rfl, by simp, fun j hj _ => Below.heap_alloc (World.drew _) _ j hj⟩ (fun _ _ e => e)
/-- A row that is held grows by one; where it moves, the elder one is held too. -/
theorem Ms.push {w wr : World} {e t size bytes : Nat} {z : Value} (hinfo : (Try.prog.info? e).map (fun i => (i.zero, i.size, i.bytes)) = some (some z, size, bytes)) (ht : Try.prog.underlying t = some (.slice e)) {l : List Th} {a : Option Addr} {n cap : Nat} {vs : List Value} (h : Ms w wr (.any e size a n cap vs :: l)) (hzs : z.cells.size = size) (hsz : 0 < size)
    (news : List Value) (hl : news.length = size) (h1 : ∀ u ∈ news, u.oneCell' = true) (hn : n ≤ 1000) (hbt : bytes ≤ 1000) :
    ∃ g cap' w', (Builtin.append_ #[t, t] t #[.slice a n cap, .slice (some ⟨wr.heap.size, 0, none⟩) 1 1]).run Try.prog (wr.alloc (.cells news.toArray e)) = .ok (.slice (some ⟨g, 0, none⟩) (n + 1) cap') w' ∧
      ((blk a = some g ∧ Ms w w' (.any e size (some ⟨g, 0, none⟩) (n + 1) cap' (vs ++ news) :: l)) ∨ Ms w w' (.any e size (some ⟨g, 0, none⟩) (n + 1) cap' (vs ++ news) :: .any e size a n cap vs :: l)) := by
  have ho : OwnG wr w.heap.size e size a n cap vs := h.hd
  have hb2 : (n + 1) * bytes ≤ 140737488355328 := Nat.le_trans (Nat.mul_le_mul (show n + 1 ≤ 1001 by omega) hbt) (by decide)
  obtain ⟨g, cap', w', hrun, hown, hk, hor⟩ := run_append_one wr w.heap.size t t e z size bytes hinfo ht hzs hsz ho news hl h1 h.below.size hb2 (by omega)
  refine ⟨g, cap', w', hrun, ?_⟩
  rcases hor with hs | hs
  · exact .inl ⟨hs, h.step (t' := .any e size (some ⟨g, 0, none⟩) (n + 1) cap' (vs ++ news)) hown hk (fun i hi => .inl (show blk a = some i by rw [show i = g by simpa [Th.foot, blk] using hi.symm]; exact hs))⟩
  · have hkf := grown_apart hinfo ht ho hzs hsz news hl h1 hn hbt hrun hk hs
    have hb : Below wr.heap.size wr w' := hkf.below (Nat.le_refl _) (fun _ e => e.elim)
    refine .inr (h.add (t := .any e size (some ⟨g, 0, none⟩) (n + 1) cap' (vs ++ news)) hb ?_)
    refine ⟨hown.1, ?_⟩
    rcases hown.cases with ⟨e2, _⟩ | ⟨g2, cur, e2, hb2, hg2, hnc, hcm, hcs, ht2⟩
    · cases e2
    · simp only [Option.some.injEq, Addr.mk.injEq, and_true] at e2
      subst e2
      exact .inr ⟨g, cap', cur, rfl, by omega, hg2, hnc, hcm, hcs, ht2⟩
def acs (l : List Ac) : List Value := l.flatMap Ac.cs
theorem acs_len (l : List Ac) : (acs l).length = l.length * 4 := by
  induction l with
  | nil => rfl
  | cons x l ih => simp only [acs, List.flatMap_cons, List.length_append, List.length_cons] at ih ⊢; rw [ih]; simp [Ac.cs]; omega
theorem acs_snoc (l : List Ac) (y : Ac) : acs (l ++ [y]) = acs l ++ y.cs := by simp [acs]
theorem acs_at : ∀ {l : List Ac} {i : Nat} {y : Ac}, l[i]? = some y → ∀ j v, y.cs[j]? = some v → (acs l)[i * 4 + j]? = some v
  | y :: l, 0, x, h, j, v, hv => by
    simp at h
    subst h
    have hj := (List.getElem?_eq_some_iff.1 hv).1
    simp only [acs, List.flatMap_cons]
    rw [List.getElem?_append_left (by omega), ← hv]
    congr 1
    omega
  | y :: l, i + 1, x, h, j, v, hv => by
    have h4 : y.cs.length = 4 := rfl
    have := acs_at (l := l) (i := i) (y := x) (by simpa using h) j v hv
    simp only [acs, List.flatMap_cons] at this ⊢
    rw [List.getElem?_append_right (by omega), ← this]
    congr 1
    omega
/-- A thing that holds an act's fates. -/
def FRef (y : Ac) (t : Th) : Prop := ∃ r c off fl, t = .any 44 2 (some ⟨r, 0, none⟩) fl.length c (fcs fl) ∧ y.fa = some ⟨r, off * 2, none⟩ ∧ off + y.fn ≤ fl.length ∧ y.fl = (fl.drop off).take y.fn
/-- A thing that holds an act's bytes. -/
def DRef (y : Ac) (t : Th) : Prop := ∃ r c xs, t = .row (some ⟨r, 0, none⟩) xs.length c xs ∧ y.a = some ⟨r, 0, none⟩ ∧ y.n ≤ xs.length ∧ y.xs = xs.take y.n ∧ Byt xs
/-- The two rows while they grow. -/
structure Kg (w wr : World) (fv : Option Addr) (fc : Nat) (fl : List Ft) (av : Option Addr) (ac : Nat) (la : List Ac) : Prop where
  ex : ∃ L, Ms w wr (.any 44 2 fv fl.length fc (fcs fl) :: .any 33 4 av la.length ac (acs la) :: L) ∧ (∀ y ∈ la, ∃ t ∈ (.any 44 2 fv fl.length fc (fcs fl) :: L), FRef y t) ∧ (∀ y ∈ la, ∃ t ∈ L, DRef y t)
  nums : ∀ y ∈ la, I64 y.d ∧ I64 y.p ∧ y.fn ≤ 1000
theorem Kg.past {w wr w' : World} {fv : Option Addr} {fc : Nat} {fl : List Ft} {av : Option Addr} {ac : Nat} {la : List Ac} (h : Kg w wr fv fc fl av ac la) (hb : Below wr.heap.size wr w') : Kg w w' fv fc fl av ac la := by
  obtain ⟨L, h1, h2, h3⟩ := h.ex
  exact ⟨⟨L, h1.past hb, h2, h3⟩, h.nums⟩
theorem Kg.below {w wr : World} {fv : Option Addr} {fc : Nat} {fl : List Ft} {av : Option Addr} {ac : Nat} {la : List Ac} (h : Kg w wr fv fc fl av ac la) : Below w.heap.size w wr := by
  obtain ⟨L, h1, _⟩ := h.ex
  exact h1.below
/-- What holds an act's bytes is a row of bytes. -/
theorem fcs_snoc2 (fl : List Ft) (f : Ft) : fcs fl ++ [Value.int .i64 f.1, Value.int .i64 f.2] = fcs (fl ++ [f]) := (fcs_snoc fl f).symm
theorem Kg.fate {w wr : World} {fv : Option Addr} {fc : Nat} {fl : List Ft} {av : Option Addr} {ac : Nat} {la : List Ac} (h : Kg w wr fv fc fl av ac la) (f : Ft) (hn : fl.length ≤ 100) :
    ∃ g cap' w', (Builtin.append_ #[23, 23] 23 #[.slice fv fl.length fc, .slice (some ⟨wr.heap.size, 0, none⟩) 1 1]).run Try.prog (wr.alloc (.cells #[.int .i64 f.1, .int .i64 f.2] 44)) = .ok (.slice (some ⟨g, 0, none⟩) (fl.length + 1) cap') w' ∧ Kg w w' (some ⟨g, 0, none⟩) cap' (fl ++ [f]) av ac la := by
  obtain ⟨L, h1, h2, h3⟩ := h.ex
  obtain ⟨g, cap', w', hrun, hor⟩ := Ms.push infFtF Try.underlying23 h1 rfl (by omega) [.int .i64 f.1, .int .i64 f.2] rfl (by intro u hu; simp at hu; rcases hu with rfl | rfl <;> rfl) (by omega) (by omega)
  have hlen : (fl ++ [f]).length = fl.length + 1 := by simp
  refine ⟨g, cap', w', hrun, ?_, h.nums⟩
  rw [fcs_snoc2] at hor
  rcases hor with ⟨hs, hm⟩ | hm
  · refine ⟨L, by rw [hlen]; exact hm, fun y hy => ?_, h3⟩
    obtain ⟨t, ht, r, c, off, fl2, e, h4, h5, h6⟩ := h2 y hy
    rcases List.mem_cons.1 ht with rfl | ht
    · simp only [Th.any.injEq, true_and] at e
      obtain ⟨e1, e2, e3, e4⟩ := e
      have e5 : fl2 = fl := by
        have : ∀ (p q : List Ft), fcs p = fcs q → p = q := by
          intro p
          induction p with
          | nil => intro q hq; cases q with | nil => rfl | cons x l => cases hq
          | cons x p ih =>
            intro q hq
            cases q with
            | nil => cases hq
            | cons x2 q =>
              have e : fcs (x :: p) = [Value.int .i64 x.1, Value.int .i64 x.2] ++ fcs p := rfl
              have e' : fcs (x2 :: q) = [Value.int .i64 x2.1, Value.int .i64 x2.2] ++ fcs q := rfl
              rw [e, e'] at hq
              simp only [List.cons_append, List.nil_append, List.cons.injEq, Value.int.injEq, true_and] at hq
              rw [ih q hq.2.2, Prod.ext hq.1 hq.2.1]
        exact (this _ _ e4).symm
      subst e5
      rw [e1] at hs
      simp [blk] at hs
      subst hs
      refine ⟨_, List.mem_cons_self .., r, cap', off, fl2 ++ [f], by rw [hlen], h4, by rw [hlen]; omega, ?_⟩
      rw [h6, List.drop_append_of_le_length (by omega), List.take_append_of_le_length (by rw [List.length_drop]; omega)]
    · exact ⟨t, List.mem_cons_of_mem _ ht, r, c, off, fl2, e, h4, h5, h6⟩
  · refine ⟨.any 44 2 fv fl.length fc (fcs fl) :: L, by rw [hlen]; exact hm.perm (List.Perm.cons _ (List.Perm.swap _ _ _)), fun y hy => ?_, fun y hy => ?_⟩
    · obtain ⟨t, ht, hr⟩ := h2 y hy
      exact ⟨t, List.mem_cons_of_mem _ ht, hr⟩
    · obtain ⟨t, ht, hr⟩ := h3 y hy
      exact ⟨t, List.mem_cons_of_mem _ ht, hr⟩
theorem infActF : (Try.prog.info? 33).map (fun i => (i.zero, i.size, i.bytes)) = some (some (.agg #[.int .i64 0, .int .i64 0, .slice none 0 0, .slice none 0 0]), 4, 64) := by kernel_rfl
/-- A row of bytes is laid. -/
theorem Kg.act {w wr w1 : World} {fv : Nat} {fc : Nat} {fl : List Ft} {av : Option Addr} {ac : Nat} {la : List Ac} (h : Kg w wr (some ⟨fv, 0, none⟩) fc fl av ac la) (hb : Below wr.heap.size wr w1) {r : Nat} {xs : List Int} (hxs : Own w1 wr.heap.size (some ⟨r, 0, none⟩) xs.length xs.length xs) (hxb : Byt xs) (y : Ac) (hya : y.a = some ⟨r, 0, none⟩) (hyn : y.n ≤ xs.length) (hyx : y.xs = xs.take y.n)
    {off : Nat} (hyf : y.fa = some ⟨fv, off * 2, none⟩) (hyo : off + y.fn ≤ fl.length) (hyl : y.fl = (fl.drop off).take y.fn) (hnum : I64 y.d ∧ I64 y.p ∧ y.fn ≤ 1000) (hn : la.length ≤ 100) :
    ∃ g cap' w', (Builtin.append_ #[22, 22] 22 #[.slice av la.length ac, .slice (some ⟨w1.heap.size, 0, none⟩) 1 1]).run Try.prog (w1.alloc (.cells y.cs.toArray 33)) = .ok (.slice (some ⟨g, 0, none⟩) (la.length + 1) cap') w' ∧ Kg w w' (some ⟨fv, 0, none⟩) fc fl (some ⟨g, 0, none⟩) cap' (la ++ [y]) := by
  obtain ⟨L, h1, h2, h3⟩ := h.ex
  have h4 : Ms w w1 (.any 33 4 av la.length ac (acs la) :: .row (some ⟨r, 0, none⟩) xs.length xs.length xs :: .any 44 2 (some ⟨fv, 0, none⟩) fl.length fc (fcs fl) :: L) := (h1.add (t := .row (some ⟨r, 0, none⟩) xs.length xs.length xs) hb hxs).to2
  obtain ⟨g, cap', w', hrun, hor⟩ := Ms.push infActF Try.underlying22 h4 rfl (by omega) y.cs rfl y.one (by omega) (by omega)
  have hlen : (la ++ [y]).length = la.length + 1 := by simp
  refine ⟨g, cap', w', hrun, ?_, fun z hz => ?_⟩
  · rw [← acs_snoc] at hor
    have key : ∀ L', Ms w w' (.any 44 2 (some ⟨fv, 0, none⟩) fl.length fc (fcs fl) :: .any 33 4 (some ⟨g, 0, none⟩) (la.length + 1) cap' (acs (la ++ [y])) :: .row (some ⟨r, 0, none⟩) xs.length xs.length xs :: L') → (∀ t ∈ L, t ∈ L') → ∃ L, Ms w w' (.any 44 2 (some ⟨fv, 0, none⟩) fl.length fc (fcs fl) :: .any 33 4 (some ⟨g, 0, none⟩) (la ++ [y]).length cap' (acs (la ++ [y])) :: L) ∧ (∀ y' ∈ la ++ [y], ∃ t ∈ (.any 44 2 (some ⟨fv, 0, none⟩) fl.length fc (fcs fl) :: L), FRef y' t) ∧ (∀ y' ∈ la ++ [y], ∃ t ∈ L, DRef y' t) := by
      intro L' hm hL
      refine ⟨.row (some ⟨r, 0, none⟩) xs.length xs.length xs :: L', by rw [hlen]; exact hm, fun y' hy' => ?_, fun y' hy' => ?_⟩
      · rcases List.mem_append.1 hy' with hy' | hy'
        · obtain ⟨t, ht, hr⟩ := h2 y' hy'
          rcases List.mem_cons.1 ht with rfl | ht
          · exact ⟨_, List.mem_cons_self .., hr⟩
          · exact ⟨t, List.mem_cons_of_mem _ (List.mem_cons_of_mem _ (hL t ht)), hr⟩
        · simp at hy'
          subst hy'
          exact ⟨_, List.mem_cons_self .., fv, fc, off, fl, rfl, hyf, hyo, hyl⟩
      · rcases List.mem_append.1 hy' with hy' | hy'
        · obtain ⟨t, ht, hr⟩ := h3 y' hy'
          exact ⟨t, List.mem_cons_of_mem _ (hL t ht), hr⟩
        · simp at hy'
          subst hy'
          exact ⟨_, List.mem_cons_self .., r, xs.length, xs, rfl, hya, hyn, hyx, hxb⟩
    rcases hor with ⟨_, hm⟩ | hm
    · exact key L (hm.to2.perm (List.Perm.cons _ (List.Perm.refl _))) (fun _ h => h)
    · refine key (.any 33 4 av la.length ac (acs la) :: L) (hm.to3.perm (List.Perm.cons _ (List.Perm.cons _ (List.Perm.swap _ _ _)))) (fun _ h => List.mem_cons_of_mem _ h)
  · rcases List.mem_append.1 hz with hz | hz
    · exact h.nums z hz
    · simp at hz
      subst hz
      exact hnum
theorem Kg.faddr {w wr : World} {fv : Option Addr} {fc : Nat} {fl : List Ft} {av : Option Addr} {ac : Nat} {la : List Ac} (h : Kg w wr fv fc fl av ac la) (hn : 0 < fl.length) : ∃ g, fv = some ⟨g, 0, none⟩ ∧ fl.length ≤ fc ∧ fc ≤ maxLen := by
  obtain ⟨L, h1, _⟩ := h.ex
  have ho : OwnG wr w.heap.size 44 2 fv fl.length fc (fcs fl) := h1.hd
  rcases ho.cases with ⟨_, h0, _⟩ | ⟨g, cur, e, _, _, h2, h3, _⟩
  · omega
  · exact ⟨g, e, h2, h3⟩
/-- A row of fates, from a place on. -/
theorem run_from_fates (w : World) (r n c s : Nat) (hc : n ≤ c) (hl : s < n) :
    (Instr.sliceAt 23 (.slice (some ⟨r, 0, none⟩) n c) (some (.int .i64 s)) none none).run Try.prog w = .ok (.slice (some ⟨r, s * 2, none⟩) (n - s) (c - s)) w := by
  have h3 : (s : Int) ≤ (n : Int) := by omega
  have h4 : (n : Int) ≤ (c : Int) := by omega
  have h5 : (0 : Int) ≤ (s : Int) := by omega
  have h6 : ¬ c = s := by omega
  have h7 : ¬ (c : Int) = (s : Int) := by omega
  have hi := infFt
  go_simp
/-- The acts, as a statement takes them. -/
theorem Kg.acr {w wr : World} {fv : Option Addr} {fc : Nat} {fl : List Ft} {av : Option Addr} {ac : Nat} {la : List Ac} (h : Kg w wr fv fc fl av ac la) : Acr wr av la.length la := by
  obtain ⟨L, h1, h2, h3⟩ := h.ex
  refine ⟨rfl, fun y hy => ?_, fun hne => ?_⟩
  · obtain ⟨t, ht, r, c, off, fl2, rfl, h4, h5, h6⟩ := h2 y hy
    obtain ⟨t', ht', r', c', xs, rfl, g4, g5, g6, g7⟩ := h3 y hy
    have hnum := h.nums y hy
    have ho : OwnG wr w.heap.size 44 2 (some ⟨r, 0, none⟩) fl2.length c (fcs fl2) := h1.ok (.any 44 2 (some ⟨r, 0, none⟩) fl2.length c (fcs fl2)) (by
      rcases List.mem_cons.1 ht with e | e
      · rw [e]; exact List.mem_cons_self ..
      · exact List.mem_cons_of_mem _ (List.mem_cons_of_mem _ e))
    have hf := fts_ownT ho
    have hx : Own wr w.heap.size (some ⟨r', 0, none⟩) xs.length c' xs := h1.ok (.row (some ⟨r', 0, none⟩) xs.length c' xs) (List.mem_cons_of_mem _ (List.mem_cons_of_mem _ ht'))
    refine ⟨hnum.1, hnum.2.1, by rw [g6, List.length_take]; omega, ?_, by rw [g6]; exact g7.take _, ?_, by have := hnum.2.2; unfold maxLen; omega⟩
    · rw [g4, g6]
      exact hx.rd.taken _
    · refine ⟨by rw [h6, List.length_take, List.length_drop]; omega, fun hne => ⟨r, off * 2, h4, fun i f hi => ?_⟩⟩
      rw [h6] at hi
      have hi2 : i < y.fn := by have := (List.getElem?_eq_some_iff.1 hi).1; rw [List.length_take] at this; omega
      rw [List.getElem?_take, if_pos hi2, List.getElem?_drop] at hi
      have hne2 : fl2 ≠ [] := by intro e; rw [e] at hi; simp at hi
      obtain ⟨r2, o2, e, hc⟩ := hf.2 hne2
      simp only [Option.some.injEq, Addr.mk.injEq, and_true] at e
      obtain ⟨rfl, rfl⟩ := e
      have := hc (off + i) f hi
      rw [show off * 2 + i * 2 = 0 + (off + i) * 2 by omega]
      exact this
  · have ho : OwnG wr w.heap.size 33 4 av la.length ac (acs la) := h1.ok (.any 33 4 av la.length ac (acs la)) (List.mem_cons_of_mem _ (List.mem_cons_self ..))
    obtain ⟨g, e, hc⟩ := ho.cell (by intro e; have := acs_len la; rw [e] at this; cases hL : la with | nil => exact hne hL | cons x l => rw [hL] at this; simp at this)
    refine ⟨g, 0, e, fun i y hy j v hv => ?_⟩
    have := hc _ _ (acs_at hy j v hv)
    rw [show 0 + (i * 4 + j) = 0 + i * 4 + j by omega] at this
    exact this
end Go.Proofs.Ytbghdlgfpfeaeaa

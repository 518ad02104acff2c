/-
  The contract of a queue's Pop. Conditions: a queue. (Made by gen_fipop.py.)
-/
import Derived.Test.YtpigpeehhadkjaaFiAll
namespace Go.Proofs.Ytpigpeehhadkjaa
open Go.RowKit

theorem Qs.k3 {q : Qs} {w : World} {g : Nat} {t : TypeId} (h : w.heap[g]? = some (.cells q.cs.toArray t (0, 0))) : w.cell? ⟨g, 3, none⟩ = some (.int .i64 q.f) := by rw [cell_of_row w g 3 _ _ (0, 0) h]; rfl
/-- What Pop does. -/
def PopR (w : World) (B g : Nat) (q : Qs) (e : Ending) (w' : World) : Prop :=
  (q.L = [] ∧ e = .returned (.tuple #[pz.v, .bool false]) ∧ Below w.heap.size w w') ∨
  ∃ x l y q', q.L = x :: l ∧ e = .returned (.tuple #[y.v, .bool true]) ∧ Twin w.heap.size x y w' ∧ Qu w' B g q' ∧ q'.abs = { q.abs with l := l.map Pi.it } ∧ Kept (q.foot g) w w' ∧ ∀ k, q'.foot g k → q.foot g k
theorem popd_no {w w1 : World} (h : Below w.heap.size w w1) {u v x : Value} {o : Obj} : Below w.heap.size w ((((w1.setCell ⟨w.heap.size, 0, none⟩ u).setCell ⟨w.heap.size, 1, none⟩ v).setCell ⟨w.heap.size, 2, none⟩ x).alloc o) := by
  have h3 := ((h.setCell (p := ⟨w.heap.size, 0, none⟩) (Nat.le_refl _) u).setCell (p := ⟨w.heap.size, 1, none⟩) (Nat.le_refl _) v).setCell (p := ⟨w.heap.size, 2, none⟩) (Nat.le_refl _) x
  exact h3.alloc h3.size _
def popQ (q : Qs) (l : List Pi) : Qs := { q with f := (q.f + 1) % q.R.length, R := q.R.set q.f pz, L := l }
theorem pop_fin {w8 : World} {B g r : Nat} {q : Qs} {x : Pi} {l : List Pi} (ok : q.ok) (hL : q.L = x :: l) (ha : q.a = some ⟨r, 0, none⟩) (hBr : B ≤ r) (hBg : B ≤ g)
    (row : w8.heap[g]? = some (.cells (popQ q l).cs.toArray 122 (0, 0))) (ring : w8.heap[r]? = some (.cells (rws (q.R.set q.f pz)).toArray 40 (0, 0)))
    (data : ∀ z ∈ q.L, Own w8 B z.a z.n z.c z.d ∧ Byt z.d ∧ z.n ≤ 1000000) : Qu w8 B g (popQ q l) := by
  have hlt : q.L.length ≤ q.R.length := ok.le
  have hLl : q.L.length = l.length + 1 := by rw [hL]; rfl
  have hne : q.R ≠ [] := by intro e; rw [e, hLl] at hlt; simp at hlt
  have hf := ok.fl hne
  have hml : ∀ z ∈ l, z ∈ q.L := fun z hz => by rw [hL]; exact List.mem_cons_of_mem _ hz
  refine ⟨⟨fun e => ?_, fun i z hz => ?_, ?_, fun _ => ?_, ?_, ok.I1, ok.S1, fun z hz => ok.sz z (hml z hz), ?_, ok.D0, ok.D1⟩, row, fun _ => ⟨r, ha, hBr, ring⟩, fun z hz => data z (hml z hz), hBg⟩
  · have e2 : q.R.set q.f pz = [] := e
    simp at e2
    exact absurd e2 hne
  · replace hz : l[i]? = some z := hz
    show (q.R.set q.f pz)[((q.f + 1) % q.R.length + i) % (q.R.set q.f pz).length]? = some z
    have hi := (List.getElem?_eq_some_iff.1 hz).1
    have h1 := ok.at_ (i + 1) z (by rw [hL]; simpa using hz)
    have h0 : (q.f + 0) % q.R.length = q.f := Nat.mod_eq_of_lt (by omega)
    have h2 := mod_ne (f := q.f) (i := 0) (k := i + 1) (m := q.R.length) hf (by omega) (by omega)
    rw [List.length_set, Nat.mod_add_mod, show q.f + 1 + i = q.f + (i + 1) by omega, List.getElem?_set_ne (by rw [h0] at h2; exact h2)]
    exact h1
  · show l.length ≤ (q.R.set q.f pz).length
    rw [List.length_set]; omega
  · show (q.f + 1) % q.R.length < (q.R.set q.f pz).length
    rw [List.length_set]; exact Nat.mod_lt _ (by omega)
  · show ((q.R.set q.f pz).length : Int) ≤ q.I
    rw [List.length_set]; exact ok.mI
  · have h1 := ok.sum
    have h2 := ok.sz x (by rw [hL]; exact List.mem_cons_self)
    rw [hL, sumS_cons] at h1
    show sumS l ≤ q.S
    omega
theorem res_ct {P : Program} {fn : Func} {p t : Nat} {u : Nat} (h : fn.results = #[.cell p t, .tmp u]) (tmps : Array Value) (w : World) (a : Addr) (hp : tmps.getD p undef = .pointer (some a)) (x y : Value) (hy : tmps.getD u undef = y)
    (h1 : (loadVar t a).run P w = .ok x w) : (results fn tmps).run P w = .ok (.tuple #[x, y]) w := by
  have hp' : tmps[p]?.getD undef = .pointer (some a) := by simpa using hp
  have hy' : tmps[u]?.getD undef = y := by simpa using hy
  simp [results, h, hp', hy', asAddr, h1]
/-- While an item is taken away: the result's block, the box of what was the first one, the queue's numbers, its ring, its items' data. -/
structure Pops (w W : World) (B g r b1 : Nat) (q : Qs) (y : Pi) (R : List Pi) (cs : Array Value) : Prop where
  res : W.heap[w.heap.size]? = some (.cells pz.cs.toArray 40 (0, 0))
  box : W.heap[b1]? = some (.cells y.cs.toArray 40 (0, 0))
  row : W.heap[g]? = some (.cells cs 122 (0, 0))
  ring : W.heap[r]? = some (.cells (rws R).toArray 40 (0, 0))
  data : ∀ z ∈ q.L, Own W B z.a z.n z.c z.d ∧ Byt z.d ∧ z.n ≤ 1000000
  own : Own W (w.heap.size + 1) y.a y.n y.c y.d
  kept : Kept (q.foot g) w W
theorem Own.kind {w : World} {B : Nat} {a : Option Addr} {n c : Nat} {d : List Int} (h : Own w B a n c d) {b : Nat} (hb : blk a = some b) : ∃ cur, w.heap[b]? = some (.cells cur 5 (0, 0)) := by
  rcases h.cases with ⟨e3, _⟩ | ⟨b', cur, e3, _, hb2, _⟩
  · rw [e3] at hb; cases hb
  · rw [e3] at hb
    simp [blk] at hb
    exact ⟨cur, hb ▸ hb2⟩
section
variable {w W W' : World} {B g r b1 : Nat} {q : Qs} {y : Pi} {R : List Pi} {cs : Array Value}
theorem Pops.drewN (h : Pops w W B g r b1 q y R cs) (m : Nat) : Pops w (W.drewN m) B g r b1 q y R cs :=
  ⟨h.res, h.box, h.row, h.ring, fun z hz => ⟨(h.data z hz).1.keep (Kept.drewN (S := fun _ => False) m) (fun _ _ e => e), (h.data z hz).2⟩, h.own.keep (Kept.drewN (S := fun _ => False) m) (fun _ _ e => e), h.kept.trans (Kept.drewN (S := fun _ => False) m) (fun _ _ e => e.elim)⟩
/-- A cell of the queue's numbers is stored. -/
theorem Pops.put (h : Pops w W B g r b1 q y R cs) (j : Nat) (v : Value) : Pops w (W.setCell ⟨g, j, none⟩ v) B g r b1 q y R (cs.setIfInBounds j v) := by
  have hk : Kept (fun k => k = g) W (W.setCell ⟨g, j, none⟩ v) := Kept.setCell (S := fun k => k = g) _ _ _ rfl
  have ne : ∀ {b : Nat} {cur : Array Value} {t : TypeId}, W.heap[b]? = some (.cells cur t (0, 0)) → t ≠ 122 → ¬ b = g := fun hb ht e => by
    rw [e, h.row] at hb
    simp at hb
    exact ht hb.2.symm
  refine ⟨hk.heap h.res (ne h.res (by decide)), hk.heap h.box (ne h.box (by decide)), heap_setCell_same W g j _ _ _ h.row, hk.heap h.ring (ne h.ring (by decide)), fun z hz => ⟨(h.data z hz).1.keep hk (fun b hb => ?_), (h.data z hz).2⟩, h.own.keep hk (fun b hb => ?_), h.kept.trans hk (fun i _ e => .inl e)⟩
  · obtain ⟨cur, hc⟩ := (h.data z hz).1.kind hb
    exact ne hc (by decide)
  · obtain ⟨cur, hc⟩ := h.own.kind hb
    exact ne hc (by decide)
/-- A place of the ring is stored. -/
theorem Pops.ringSet (h : Pops w W B g r b1 q y R cs) {i : Nat} (hi : i < R.length) (x : Pi) (h1 : w.heap.size ≠ r) (h2 : b1 ≠ r) (hf : q.foot g r) : Pops w (W.setCells r (i * 3) x.cs) B g r b1 q y (R.set i x) cs := by
  have hk : Kept (fun k => k = r) W (W.setCells r (i * 3) x.cs) := Kept.setCells (S := fun k => k = r) r rfl _ _ (Kept.refl _ _)
  have ne : ∀ {b : Nat} {cur : Array Value} {t : TypeId}, W.heap[b]? = some (.cells cur t (0, 0)) → t ≠ 40 → ¬ b = r := fun hb ht e => by
    rw [e, h.ring] at hb
    simp at hb
    exact ht hb.2.symm
  refine ⟨hk.heap h.res h1, hk.heap h.box h2, hk.heap h.row (ne h.row (by decide)), ring_set h.ring hi x, fun z hz => ⟨(h.data z hz).1.keep hk (fun b hb => ?_), (h.data z hz).2⟩, h.own.keep hk (fun b hb => ?_), h.kept.trans hk (fun i _ e => e ▸ hf)⟩
  · obtain ⟨cur, hc⟩ := (h.data z hz).1.kind hb
    exact ne hc (by decide)
  · obtain ⟨cur, hc⟩ := h.own.kind hb
    exact ne hc (by decide)
end

set_option maxRecDepth 100000 in
set_option maxHeartbeats 4000000 in
theorem fPop_any (B g : Nat) (q : Qs) (w : World) (h : Qu w B g q) : Calls Try.prog 55 #[.pointer (some ⟨g, 0, none⟩)] w (PopR w B g q) := by
  have HQ := Lib.hid h
  clear h
  go_enter Try.func55, Try.ntmps55
  go_wp2_with fail
  have hb0 : Below w.heap.size w (w.alloc (.cells #[.int .u64 0, .int .i64 0, .slice none 0 0] 40)) := (Below.refl _ _).alloc (Nat.le_refl _) _
  have hr0 : (w.alloc (.cells #[.int .u64 0, .int .i64 0, .slice none 0 0] 40)).heap[w.heap.size]? = some (.cells pz.cs.toArray 40 (0, 0)) := Blk_new w _ _
  have hz0 : (w.alloc (.cells #[.int .u64 0, .int .i64 0, .slice none 0 0] 40)).heap.size = w.heap.size + 1 := by simp
  obtain ⟨w0, hw0⟩ : ∃ z, w.alloc (.cells #[.int .u64 0, .int .i64 0, .slice none 0 0] 40) = z := ⟨_, rfl⟩
  rw [hw0] at hb0 hr0 hz0 ⊢
  clear hw0
  refine (fHead_any B g q w0 (HQ.out.below hb0)).mono ?_
  rintro e w1 ⟨hb1, ⟨hL, rfl⟩ | ⟨x, l, y, hL, rfl, hty⟩⟩
  · have hs1 := hb1.size
    have H1 : Hid (Below w.heap.size w w1 ∧ w1.heap[w.heap.size]? = some (.cells pz.cs.toArray 40 (0, 0)) ∧ w.heap.size + 1 ≤ w1.heap.size) := ⟨hb0.trans (hb1.mono (by omega)), (hb1.block _ (by omega)).trans hr0, by omega⟩
    have HL := Lib.hid hL
    clear hb0 hr0 hz0 hb1 hL hs1
    rw [show pz.v = .agg #[.int .u64 0, .int .i64 0, .slice none 0 0] from rfl]
    have d0 := Pi.k0 H1.out.2.1
    have d1 := Pi.k1 H1.out.2.1
    have d2 := Pi.k2 H1.out.2.1
    have g0 : w1.frozen? ⟨w.heap.size, 0, none⟩ = false := frozen_of_row w1 _ 0 _ _ H1.out.2.1
    have g1 : w1.frozen? ⟨w.heap.size, 1, none⟩ = false := frozen_of_row w1 _ 1 _ _ H1.out.2.1
    have g2 : w1.frozen? ⟨w.heap.size, 2, none⟩ = false := frozen_of_row w1 _ 2 _ _ H1.out.2.1
    simp only [pz] at d0 d1 d2
    have hlt : w.heap.size < w1.heap.size := by have := H1.out.2.2; omega
    go_wp2_with fail
    refine bodyPost_ret (v := .tuple #[.agg #[.int .u64 0, .int .i64 0, .slice none 0 0], .bool false]) (by simp [results, Try.results55, go_sem, *]) rfl ?_
    exact .inl ⟨HL.out, rfl, (popd_no H1.out.1)⟩
  have hs1 := hb1.size
  have hq1 : Qu w1 B g q := HQ.out.below (hb0.trans (hb1.mono (by omega)))
  have hne : q.R ≠ [] := by
    intro e
    have := hq1.ok.le
    rw [e, hL] at this
    simp at this
  obtain ⟨r, ha, hBr, hring⟩ := hq1.ring hne
  have hrf : q.foot g r := .inr (.inl (by rw [ha]; rfl))
  have hrl := (HQ.out.foot_lt hrf).2
  have hf1 := hq1.ok.fl hne
  obtain ⟨m, hm⟩ : ∃ z, q.R.length = z := ⟨_, rfl⟩
  have hm1 : m ≤ 65536 := by have h1 := hq1.ok.mI; have h2 := hq1.ok.I1; omega
  rw [hm] at hf1
  have H1 : Hid (Pops w (w1.alloc (.cells y.cs.toArray 40)) B g r w1.heap.size q y q.R q.cs.toArray) := by
    have hal : Below w1.heap.size w1 (w1.alloc (.cells y.cs.toArray 40)) := (Below.refl _ _).alloc (Nat.le_refl _) _
    have hq2 := hq1.below hal
    have hb2 : Below w.heap.size w (w1.alloc (.cells y.cs.toArray 40)) := (hb0.trans (hb1.mono (by omega))).trans (hal.mono (by omega))
    exact ⟨(hal.block _ (by omega)).trans ((hb1.block _ (by omega)).trans hr0), Blk_new w1 _ _, hq2.row, (hal.block _ (by omega)).trans hring, hq2.data, by rw [← hz0]; exact hty.own.keep (Kept.of_below (S := fun _ => False) hal (fun i hi hi' => by omega)) (fun _ _ e => e), Kept.of_below hb2 (fun i hi hi' => by omega)⟩
  have HM : Hid (q.a = some ⟨r, 0, none⟩ ∧ q.R.length = m ∧ q.f < m ∧ m ≤ 65536 ∧ B ≤ r ∧ q.foot g r ∧ r < w.heap.size ∧ w.heap.size + 1 ≤ w1.heap.size) := ⟨ha, hm, hf1, hm1, hBr, hrf, hrl, by omega⟩
  have HT : Hid (q.L = x :: l ∧ y.no = x.no ∧ y.sz = x.sz ∧ y.d = x.d) := ⟨hL, hty.no, hty.sz, hty.d⟩
  clear hb0 hr0 hz0 hb1 hs1 hq1 hne ha hBr hring hrf hrl hf1 hm hm1 hL hty
  obtain ⟨no, sz, ya, yn, yc, yd⟩ := y
  rw [show (Pi.v ⟨no, sz, ya, yn, yc, yd⟩) = .agg #[.int .u64 no, .int .i64 sz, .slice ya yn yc] from rfl]
  have hal : (w1.alloc (.cells (Pi.cs ⟨no, sz, ya, yn, yc, yd⟩).toArray 40)) = w1.alloc (.cells #[.int .u64 no, .int .i64 sz, .slice ya yn yc] 40) := rfl
  rw [hal] at H1
  go_wp2_with fail
  obtain ⟨b1, hb1⟩ : ∃ z, w1.heap.size = z := ⟨_, rfl⟩
  obtain ⟨w2, hw2⟩ : ∃ z, w1.alloc (.cells #[.int .u64 no, .int .i64 sz, .slice ya yn yc] 40) = z := ⟨_, rfl⟩
  rw [hw2, hb1]
  rw [hw2, hb1] at H1
  rw [hb1] at HM
  clear hw2 hb1 hal
  have hfi : (q.f : Int) < (m : Int) := by have := HM.out.2.2.1; omega
  have hf0 : (0 : Int) ≤ (q.f : Int) := by omega
  have hf3 : q.f < 1000000 := by have := HM.out.2.2.1; have := HM.out.2.2.2.1; omega
  have HP := Lib.hid (H1.out.drewN 1)
  have HS : Hid (w2.drew.heap[g]? = some (.cells q.cs.toArray 122 (0, 0))) := HP.out.row
  refine wp_region_held_drew (S := fun w' => w'.heap[g]? = some (.cells q.cs.toArray 122 (0, 0))) (by kernel_rfl) HS.out (fun hS => ?_)
  refine tk 0 14 (.pointer (some ⟨g, 0, none⟩)) rfl rfl (by kernel_rfl) (by kernel_rfl) (by kernel_rfl) (fun _ _ _ h => h) (Or.inl ⟨by rfl, fun w' h' => ?_⟩) hS ?_
  · go_simp
  try simp only [Act.put, List.setIfInBounds_toArray, List.set_cons_zero, List.set_cons_succ]
  refine tk 1 15 (.pointer (some ⟨g, 0, none⟩)) rfl rfl (by kernel_rfl) (by kernel_rfl) (by kernel_rfl) (fun _ _ _ h => h) (Or.inl ⟨by rfl, fun w' h' => ?_⟩) hS ?_
  · go_simp
  try simp only [Act.put, List.setIfInBounds_toArray, List.set_cons_zero, List.set_cons_succ]
  refine tk 2 16 (.pointer (some ⟨g, 2, none⟩)) rfl rfl (by kernel_rfl) (by kernel_rfl) (by kernel_rfl) (fun _ _ _ h => h) (Or.inl ⟨by rfl, fun w' h' => ?_⟩) hS ?_
  · go_simp
  try simp only [Act.put, List.setIfInBounds_toArray, List.set_cons_zero, List.set_cons_succ]
  refine tk 3 17 (.slice (some ⟨r, 0, none⟩) m m) rfl rfl (by kernel_rfl) (by kernel_rfl) (by kernel_rfl) (fun _ _ _ h => h) (Or.inl ⟨by rfl, fun w' h' => ?_⟩) hS ?_
  · have c2 := Qs.k2 h'
    rw [HM.out.1, HM.out.2.1] at c2
    go_simp
  try simp only [Act.put, List.setIfInBounds_toArray, List.set_cons_zero, List.set_cons_succ]
  refine tk 4 18 (.pointer (some ⟨g, 0, none⟩)) rfl rfl (by kernel_rfl) (by kernel_rfl) (by kernel_rfl) (fun _ _ _ h => h) (Or.inl ⟨by rfl, fun w' h' => ?_⟩) hS ?_
  · go_simp
  try simp only [Act.put, List.setIfInBounds_toArray, List.set_cons_zero, List.set_cons_succ]
  refine tk 5 19 (.pointer (some ⟨g, 0, none⟩)) rfl rfl (by kernel_rfl) (by kernel_rfl) (by kernel_rfl) (fun _ _ _ h => h) (Or.inl ⟨by rfl, fun w' h' => ?_⟩) hS ?_
  · go_simp
  try simp only [Act.put, List.setIfInBounds_toArray, List.set_cons_zero, List.set_cons_succ]
  refine tk 6 20 (.pointer (some ⟨g, 3, none⟩)) rfl rfl (by kernel_rfl) (by kernel_rfl) (by kernel_rfl) (fun _ _ _ h => h) (Or.inl ⟨by rfl, fun w' h' => ?_⟩) hS ?_
  · go_simp
  try simp only [Act.put, List.setIfInBounds_toArray, List.set_cons_zero, List.set_cons_succ]
  refine tk 7 21 (.int .i64 (q.f : Int)) rfl rfl (by kernel_rfl) (by kernel_rfl) (by kernel_rfl) (fun _ _ _ h => h) (Or.inl ⟨by rfl, fun w' h' => ?_⟩) hS ?_
  · have c3 := Qs.k3 h'
    go_simp
  try simp only [Act.put, List.setIfInBounds_toArray, List.set_cons_zero, List.set_cons_succ]
  refine tk 8 22 (.agg #[.int .u64 0, .int .i64 0, .slice none 0 0]) rfl rfl (by kernel_rfl) (by kernel_rfl) (by kernel_rfl) (fun _ _ _ h => h) (Or.inl ⟨by rfl, fun w' h' => ?_⟩) hS ?_
  · go_simp
  try simp only [Act.put, List.setIfInBounds_toArray, List.set_cons_zero, List.set_cons_succ]
  refine tk 9 23 (.pointer (some ⟨r, q.f * 3, none⟩)) rfl rfl (by kernel_rfl) (by kernel_rfl) (by kernel_rfl) (fun _ _ _ h => h) (Or.inl ⟨by rfl, fun w' h' => ?_⟩) hS ?_
  · go_simp
  try simp only [Act.put, List.setIfInBounds_toArray, List.set_cons_zero, List.set_cons_succ]
  refine wpAnyH_ready (rs := [10]) (by kernel_rfl) (by simp) (AllReadyH.cons rfl (fun K hK => ?_) AllReadyH.nil)
  rw [if_pos (by rfl)]
  refine wp_store_mid 40 (.tmp 23) (.tmp 22) rfl r (q.f * 3) pz.cs.toArray rfl rfl (ring_there HP.out.ring (by rw [HM.out.2.1]; exact HM.out.2.2.1)) infI3 (all_oneCell_toArray pz.one) ?_
  change K _ (w2.drew.setCells r (q.f * 3) pz.cs)
  have H3 := Lib.hid (HP.out.ringSet (i := q.f) (by rw [HM.out.2.1]; exact HM.out.2.2.1) pz (by have := HM.out.2.2.2.2.2.2.1; omega) (by have := HM.out.2.2.2.2.2.2.1; have := HM.out.2.2.2.2.2.2.2; omega) HM.out.2.2.2.2.2.1)
  change Hid (Pops w (w2.drew.setCells r (q.f * 3) pz.cs) B g r b1 q _ _ _) at H3
  obtain ⟨w3, hw3⟩ : ∃ z, w2.drew.setCells r (q.f * 3) pz.cs = z := ⟨_, rfl⟩
  rw [hw3] at H3 ⊢
  clear hw3 HP HS
  clear hS
  refine hK.out _ _ (H3.out.row) (fun hS => ?_)
  clear hK K
  refine wpAnyH_done (by kernel_rfl) ?_ _
  clear H1
  go_wp2_with fail
  refine (fPlace_any g q.f 1 m (some ⟨r, 0, none⟩) _ (by have c2 := Qs.k2 H3.out.row; rw [HM.out.1, HM.out.2.1] at c2; exact c2) (Qs.k3 H3.out.row) (by have := HM.out.2.2.1; omega) (by have := HM.out.2.2.2.1; omega) (by have := HM.out.2.2.1; have := HM.out.2.2.2.1; omega) (by omega)).mono ?_
  rintro e w4 ⟨rfl, md, hmd⟩
  have H4 := Lib.hid (H3.out.drewN md)
  rw [← hmd] at H4
  obtain ⟨p, hp⟩ : ∃ z, (q.f + 1) % m = z := ⟨_, rfl⟩
  have HPP : Hid ((q.f + 1) % m = p) := hp
  rw [hp]
  have c3 := Qs.k3 H4.out.row
  have c4 := Qs.k4 H4.out.row
  have f3 : w4.frozen? ⟨g, 3, none⟩ = false := frozen_of_row w4 g 3 _ _ H4.out.row
  have f4 : w4.frozen? ⟨g, 4, none⟩ = false := frozen_of_row w4 g 4 _ _ H4.out.row
  obtain ⟨k1, hk1⟩ : ∃ z : Int, z = (q.L.length : Int) - 1 := ⟨_, rfl⟩
  have e6 : IntKind.i64.wrap ((q.L.length : Int) - 1) = k1 := by have h1 := HQ.out.ok.le; have h2 := HM.out.2.1; have h3 := HM.out.2.2.2.1; rw [IntKind.wrap_i64]; omega
  have HK1 := Lib.hid hk1
  clear hmd hp hk1 H3
  go_wp2_with fail
  have H6 := Lib.hid ((H4.out.put 3 (.int .i64 p)).put 4 (.int .i64 k1))
  obtain ⟨w6, hw6⟩ : ∃ z, (w4.setCell ⟨g, 3, none⟩ (.int .i64 p)).setCell ⟨g, 4, none⟩ (.int .i64 k1) = z := ⟨_, rfl⟩
  rw [hw6] at H6 ⊢
  clear hw6 c3 c4 f3 f4 H4
  obtain ⟨s1, hs1'⟩ : ∃ z : Int, z = sumS q.L := ⟨_, rfl⟩
  obtain ⟨s2, hs2'⟩ : ∃ z : Int, z = s1 - sz := ⟨_, rfl⟩
  have hs3 : 0 ≤ s2 ∧ s2 ≤ 9223372036854775807 := by
    have h1 := HQ.out.ok.sum
    have h2 := HQ.out.ok.S1
    have h3 := HQ.out.ok.sz
    have h5 := HT.out.2.2.1
    rw [HT.out.1] at hs1' h1 h3
    have h4 := sumS_pos (l := l) (fun z hz => h3 z (List.mem_cons_of_mem _ hz))
    have h6 := h3 x List.mem_cons_self
    rw [sumS_cons] at hs1' h1
    omega
  have E7 : Hid (IntKind.i64.wrap (s1 - sz) = s2) := by have := hs3; show _ = _; rw [IntKind.wrap_i64]; omega
  have HSS : Hid (s1 = sumS q.L ∧ s2 = s1 - sz) := ⟨hs1', hs2'⟩
  have c5 : w6.drew.cell? ⟨g, 5, none⟩ = some (.int .i64 s1) := by
    have := cell_of_row w6 g 5 _ _ (0, 0) H6.out.row
    rw [HSS.out.1]
    exact this
  have f5 : w6.drew.frozen? ⟨g, 5, none⟩ = false := frozen_of_row w6 g 5 _ _ H6.out.row
  have HS : Hid (w6.drew.heap[b1]? = some (.cells (Pi.cs ⟨no, sz, ya, yn, yc, yd⟩).toArray 40 (0, 0))) := H6.out.box
  clear hs1' hs2' hs3
  refine wp_region_held_drew (S := fun w' => w'.heap[b1]? = some (.cells (Pi.cs ⟨no, sz, ya, yn, yc, yd⟩).toArray 40 (0, 0))) (by kernel_rfl) HS.out (fun hS => ?_)
  refine tk 0 36 (.pointer (some ⟨g, 0, none⟩)) rfl rfl (by kernel_rfl) (by kernel_rfl) (by kernel_rfl) (fun _ _ _ h => h) (Or.inl ⟨by rfl, fun w' h' => ?_⟩) hS ?_
  · go_simp
  try simp only [Act.put, List.setIfInBounds_toArray, List.set_cons_zero, List.set_cons_succ]
  refine tk 1 37 (.pointer (some ⟨g, 0, none⟩)) rfl rfl (by kernel_rfl) (by kernel_rfl) (by kernel_rfl) (fun _ _ _ h => h) (Or.inl ⟨by rfl, fun w' h' => ?_⟩) hS ?_
  · go_simp
  try simp only [Act.put, List.setIfInBounds_toArray, List.set_cons_zero, List.set_cons_succ]
  refine tk 2 38 (.pointer (some ⟨g, 5, none⟩)) rfl rfl (by kernel_rfl) (by kernel_rfl) (by kernel_rfl) (fun _ _ _ h => h) (Or.inl ⟨by rfl, fun w' h' => ?_⟩) hS ?_
  · go_simp
  try simp only [Act.put, List.setIfInBounds_toArray, List.set_cons_zero, List.set_cons_succ]
  refine tk 4 40 (.pointer (some ⟨b1, 1, none⟩)) rfl rfl (by kernel_rfl) (by kernel_rfl) (by kernel_rfl) (fun _ _ _ h => h) (Or.inl ⟨by rfl, fun w' h' => ?_⟩) hS ?_
  · go_simp
  try simp only [Act.put, List.setIfInBounds_toArray, List.set_cons_zero, List.set_cons_succ]
  refine tk 5 41 (.int .i64 sz) rfl rfl (by kernel_rfl) (by kernel_rfl) (by kernel_rfl) (fun _ _ _ h => h) (Or.inl ⟨by rfl, fun w' h' => ?_⟩) hS ?_
  · have c1 := Pi.k1 h'
    simp only at c1
    go_simp
  try simp only [Act.put, List.setIfInBounds_toArray, List.set_cons_zero, List.set_cons_succ]
  refine wpAnyH_ready (rs := [3]) (by kernel_rfl) (by simp) (AllReadyH.cons rfl (fun K hK => ?_) AllReadyH.nil)
  rw [if_pos (by rfl)]
  go_wp2_with fail
  clear hS
  refine hK.out _ _ (HS.out) (fun hS => ?_)
  clear hK K
  try simp only [Act.put, List.setIfInBounds_toArray, List.set_cons_zero, List.set_cons_succ]
  refine tk 6 42 (.int .i64 s2) rfl rfl (by kernel_rfl) (by kernel_rfl) (by kernel_rfl) (fun _ _ _ h => h) (Or.inl ⟨by rfl, fun w' h' => ?_⟩) hS ?_
  · have e7 := E7.out
    go_simp
  try simp only [Act.put, List.setIfInBounds_toArray, List.set_cons_zero, List.set_cons_succ]
  refine tk 7 43 (.pointer (some ⟨g, 0, none⟩)) rfl rfl (by kernel_rfl) (by kernel_rfl) (by kernel_rfl) (fun _ _ _ h => h) (Or.inl ⟨by rfl, fun w' h' => ?_⟩) hS ?_
  · go_simp
  try simp only [Act.put, List.setIfInBounds_toArray, List.set_cons_zero, List.set_cons_succ]
  refine tk 8 44 (.pointer (some ⟨g, 5, none⟩)) rfl rfl (by kernel_rfl) (by kernel_rfl) (by kernel_rfl) (fun _ _ _ h => h) (Or.inl ⟨by rfl, fun w' h' => ?_⟩) hS ?_
  · go_simp
  try simp only [Act.put, List.setIfInBounds_toArray, List.set_cons_zero, List.set_cons_succ]
  refine wpAnyH_ready (rs := [9]) (by kernel_rfl) (by simp) (AllReadyH.cons rfl (fun K hK => ?_) AllReadyH.nil)
  rw [if_pos (by rfl)]
  go_wp2_with fail
  have H7 := Lib.hid ((H6.out.drewN 1).put 5 (.int .i64 s2))
  change K _ (w6.drew.setCell ⟨g, 5, none⟩ (.int .i64 s2))
  change Hid (Pops w (w6.drew.setCell ⟨g, 5, none⟩ (.int .i64 s2)) B g r b1 q _ _ _) at H7
  obtain ⟨w7, hw7⟩ : ∃ z, w6.drew.setCell ⟨g, 5, none⟩ (.int .i64 s2) = z := ⟨_, rfl⟩
  rw [hw7] at H7 ⊢
  clear hw7 H6 c5 f5 HS
  clear hS
  refine hK.out _ _ (H7.out.box) (fun hS => ?_)
  clear hK K
  refine wpAnyH_done (by kernel_rfl) ?_ _
  have d0 := Pi.k0 H7.out.res
  have d1 := Pi.k1 H7.out.res
  have d2 := Pi.k2 H7.out.res
  have g0 : w7.frozen? ⟨w.heap.size, 0, none⟩ = false := frozen_of_row w7 _ 0 _ _ H7.out.res
  have g1 : w7.frozen? ⟨w.heap.size, 1, none⟩ = false := frozen_of_row w7 _ 1 _ _ H7.out.res
  have g2 : w7.frozen? ⟨w.heap.size, 2, none⟩ = false := frozen_of_row w7 _ 2 _ _ H7.out.res
  have b0 := Pi.k0 H7.out.box
  have b2 := Pi.k1 H7.out.box
  have b3 := Pi.k2 H7.out.box
  simp only [pz] at d0 d1 d2 b0 b2 b3
  go_wp2_with fail
  refine bodyPost_ret (v := .tuple #[.agg #[.int .u64 no, .int .i64 sz, .slice ya yn yc], .bool true]) (by simp [results, Try.results55, go_sem, *]) rfl ?_
  have hk8 : Kept (fun k => k = w.heap.size) w7 (((w7.setCell ⟨w.heap.size, 0, none⟩ (.int .u64 no)).setCell ⟨w.heap.size, 1, none⟩ (.int .i64 sz)).setCell ⟨w.heap.size, 2, none⟩ (.slice ya yn yc)) :=
    ((Kept.setCell (S := fun k => k = w.heap.size) _ _ _ rfl).trans (Kept.setCell (S := fun k => k = w.heap.size) _ _ _ rfl) (fun _ _ h => h)).trans (Kept.setCell (S := fun k => k = w.heap.size) _ _ _ rfl) (fun _ _ h => h)
  have h7 := H7.out
  have hgl := HQ.out.lt
  have hrl := HM.out.2.2.2.2.2.2.1
  refine .inr ⟨x, l, ⟨no, sz, ya, yn, yc, yd⟩, popQ q l, HT.out.1, rfl, ⟨HT.out.2.1, HT.out.2.2.1, HT.out.2.2.2, (h7.own.mono (by omega)).keep hk8 (fun b hb e => ?_)⟩, ?_, rfl, h7.kept.trans hk8 (fun i hi e => by omega), ?_⟩
  · have := (h7.own.blk_ge b hb).1
    omega
  · refine pop_fin HQ.out.ok HT.out.1 HM.out.1 HM.out.2.2.2.2.1 HQ.out.base ?_ (hk8.heap h7.ring (by omega)) (fun z hz => ⟨(h7.data z hz).1.keep hk8 (fun b hb e => ?_), (h7.data z hz).2⟩)
    · rw [hk8.heap h7.row (by omega)]
      have e1 : sumS l = s2 := by
        have h1 := HSS.out.1
        have h2 := HSS.out.2
        have h5 := HT.out.2.2.1
        rw [HT.out.1, sumS_cons] at h1
        omega
      have e2 : (l.length : Int) = k1 := by
        have h1 := HK1.out
        rw [HT.out.1] at h1
        simp at h1
        omega
      simp [Qs.cs, popQ, e1, e2, HM.out.2.1, HPP.out]
    · have := (HQ.out.data z hz).1.blk_ge b hb
      omega
  · intro k hk
    rcases hk with e | e | ⟨z, hz, e⟩
    · exact .inl e
    · exact .inr (.inl e)
    · exact .inr (.inr ⟨z, by rw [HT.out.1]; exact List.mem_cons_of_mem _ hz, e⟩)

theorem fPop_nil (w : World) : Calls Try.prog 55 #[.pointer none] w fun e w' => e = .returned (.tuple #[pz.v, .bool false]) ∧ Below w.heap.size w w' := by
  go_enter Try.func55, Try.ntmps55
  go_wp2_with fail
  have hb0 : Below w.heap.size w (w.alloc (.cells #[.int .u64 0, .int .i64 0, .slice none 0 0] 40)) := (Below.refl _ _).alloc (Nat.le_refl _) _
  have hr0 : (w.alloc (.cells #[.int .u64 0, .int .i64 0, .slice none 0 0] 40)).heap[w.heap.size]? = some (.cells pz.cs.toArray 40 (0, 0)) := Blk_new w _ _
  have hz0 : (w.alloc (.cells #[.int .u64 0, .int .i64 0, .slice none 0 0] 40)).heap.size = w.heap.size + 1 := by simp
  obtain ⟨w0, hw0⟩ : ∃ z, w.alloc (.cells #[.int .u64 0, .int .i64 0, .slice none 0 0] 40) = z := ⟨_, rfl⟩
  rw [hw0] at hb0 hr0 hz0 ⊢
  clear hw0
  refine (fHead_nil w0).mono ?_
  rintro e w1 ⟨hb1, ⟨_, rfl⟩ | ⟨x, l, y, hL, _⟩⟩
  · have hs1 := hb1.size
    have H1 : Hid (Below w.heap.size w w1 ∧ w1.heap[w.heap.size]? = some (.cells pz.cs.toArray 40 (0, 0)) ∧ w.heap.size + 1 ≤ w1.heap.size) := ⟨hb0.trans (hb1.mono (by omega)), (hb1.block _ (by omega)).trans hr0, by omega⟩
    clear hb0 hr0 hz0 hb1 hs1
    rw [show pz.v = .agg #[.int .u64 0, .int .i64 0, .slice none 0 0] from rfl]
    have d0 := Pi.k0 H1.out.2.1
    have d1 := Pi.k1 H1.out.2.1
    have d2 := Pi.k2 H1.out.2.1
    have g0 : w1.frozen? ⟨w.heap.size, 0, none⟩ = false := frozen_of_row w1 _ 0 _ _ H1.out.2.1
    have g1 : w1.frozen? ⟨w.heap.size, 1, none⟩ = false := frozen_of_row w1 _ 1 _ _ H1.out.2.1
    have g2 : w1.frozen? ⟨w.heap.size, 2, none⟩ = false := frozen_of_row w1 _ 2 _ _ H1.out.2.1
    simp only [pz] at d0 d1 d2
    have hlt : w.heap.size < w1.heap.size := by have := H1.out.2.2; omega
    go_wp2_with fail
    refine bodyPost_ret (v := .tuple #[.agg #[.int .u64 0, .int .i64 0, .slice none 0 0], .bool false]) (by simp [results, Try.results55, go_sem, *]) rfl ?_
    exact ⟨rfl, (popd_no H1.out.1)⟩
  · cases hL
end Go.Proofs.Ytpigpeehhadkjaa

/-
  The contract of the document's Offer. Conditions: a shaper in memory, queues whose numbers are in their bounds. (Made by gen_spdoff.py.)
-/
import Derived.Test.YtpigpeehhadkjaaSpDoc5
import Derived.Test.YtpigpeehhadkjaaSpNew
import Derived.Deep.RegionWith
namespace Go.Proofs.Ytpigpeehhadkjaa
open Go.RowKit Bkt
set_option maxRecDepth 100000
set_option maxHeartbeats 4000000
theorem tkD {P : Program} {md : Region.Mode} {ops : Array Oper} {Q : Exit → Act → World → Prop} {S : World → Prop} (i d : Nat) (v : Value) {oi : Oper} {fuel : Nat} {listed : Array Bool} {a : Act} {w : World}
    (hy : ∀ w', S w' → (execOp a.eval oi).run P w' = .ok (.value v) w') (hS : S w) (h : wpAnyH P md ops Q S fuel (listed.setIfInBounds i true) (a.put (some d) v) w)
    (hi : ops[i]? = some oi := by rfl) (hd : oi.dst = some d := by rfl) (hs : Region.noSelect ops = true := by kernel_rfl) (hf : Region.free md ops listed i = true := by kernel_rfl) (hr : (Region.ready md ops listed).contains i = true := by kernel_rfl)
    (hQ : ∀ c a w, Q (.panic c) (a.put (some d) v) w → Q (.panic c) a w := by exact fun _ _ _ h => h) (hw : Region.wanted oi (yielded ops a.tmps) = true := by rfl) : wpAnyH P md ops Q S (fuel + 1) listed a w :=
  tk i d v hi hd hs hf hr hQ (Or.inl ⟨hw, hy⟩) hS h
theorem tkDq {P : Program} {p : List Nat} {c : Code} {a : Act} {w : World} {R : Act → World → Prop} {Q : Exit → Act → World → Prop} (h1 : (cAt (p ++ [0]) c).wp P (Exit.then R Nope) a w) (h2 : ∀ a' w', R a' w' → (cAt (p ++ [1]) c).wp P Q a' w') (hc : cAt p c = .seq (cAt (p ++ [0]) c) (cAt (p ++ [1]) c) := by kernel_rfl) : (cAt p c).wp P Q a w :=
  wp_sqR hc h1 h2

def Dl.queued (x : Dl) (A : Aq) (a : Option Addr) (n c : Nat) : Dl := ⟨{ x.ab with A := A }, a, n, c⟩
def Dl.offd (x : Dl) : Dl := { x with ab := { x.ab with o := up x.ab.o 1 } }
def Dl.drpd (x : Dl) : Dl := { x with ab := { x.ab with d := up x.ab.d 1 } }
/-- An offer on its way: its item stands in a box. -/
structure Od (w wr : World) (B g i px : Nat) (d : Ds) (y : Dl) (x : It) : Prop where
  dw : Dw wr B g d
  hy : d.ls[i]? = some y
  row : wr.heap[px]? = some (.cells x.cs.toArray 63 (0, 0))
  below : Below w.heap.size w wr
  lt : i < d.n
  n8 : d.n ≤ 8
  ok : y.ab.A.ok
theorem Od.past {w wr w' : World} {B g i px : Nat} {d : Ds} {y : Dl} {x : It} (h : Od w wr B g i px d y x) (k : Below wr.heap.size wr w') : Od w w' B g i px d y x :=
  ⟨h.dw.below k, h.hy, (k.block _ (Array.getElem?_eq_some_iff.1 h.row).1).trans h.row, h.below.trans (k.mono h.below.size), h.lt, h.n8, h.ok⟩
/-- The document's shaper, a lane of it another one. -/
structure Oe (w wr : World) (B g i : Nat) (d : Ds) (y z : Dl) : Prop where
  dw : Dw wr B g { d with ls := d.ls.set i z }
  hy : d.ls[i]? = some y
  kept : Kept (d.foot g) w wr
  lt : i < d.n
  n8 : d.n ≤ 8
theorem Oe.at_ {w wr : World} {B g i : Nat} {d : Ds} {y z : Dl} (h : Oe w wr B g i d y z) : (d.ls.set i z)[i]? = some z := by
  rw [List.getElem?_set_self (List.getElem?_eq_some_iff.1 h.hy).1]
/-- What an offer does. -/
def DOffR (w : World) (B g : Nat) (d : Ds) (c : Int) (x : It) (e : Ending) (w' : World) : Prop :=
  e = .returned (.int .i64 (offC d.abs c x)) ∧ ∃ ls, Dw w' B g { d with ls := ls } ∧ ls.map Dl.ab = offL d.abs c x ∧ Kept (d.foot g) w w'
theorem doff_no {w w' : World} {B g : Nat} {d : Ds} {c : Int} {x : It} (h : Dw w B g d) (hb : Below w.heap.size w w') (ho : offOk d.abs c x = false) : DOffR w B g d c x (.returned (.int .i64 2)) w' :=
  ⟨by unfold offC; rw [ho]; rfl, d.ls, h.below hb, by unfold offL; rw [ho]; rfl, Kept.of_below hb (fun i hi hi' => by omega)⟩

noncomputable def KDO : Code := Try.f34.body.getD .skip
theorem frKDO {a : Act} (h : Fr 67 a) : ∃ f : Nat → Value, a = ⟨#[f 0, f 1, f 2, f 3, f 4, f 5, f 6, f 7, f 8, f 9, f 10, f 11, f 12, f 13, f 14, f 15, f 16, f 17, f 18, f 19, f 20, f 21, f 22, f 23, f 24, f 25, f 26, f 27, f 28, f 29, f 30, f 31, f 32, f 33, f 34, f 35, f 36, f 37, f 38, f 39, f 40, f 41, f 42, f 43, f 44, f 45, f 46, f 47, f 48, f 49, f 50, f 51, f 52, f 53, f 54, f 55, f 56, f 57, f 58, f 59, f 60, f 61, f 62, f 63, f 64, f 65, f 66], []⟩ ∧ ∀ i, f i = sl a i := fr_any h

theorem o0 (w : World) (g i : Nat) (no sz : Int) (xd : List Int) (a : Act) (hf : Fr 67 a) (h0 : sl a 0 = .pointer (some ⟨g, 0, none⟩)) (h1 : sl a 1 = .int .i64 (i : Int)) (h2 : sl a 2 = It.v ⟨no, sz, xd⟩) :
    Code.wp Try.prog (cAt [0] KDO) (Exit.then (fun a' w' => ∃ (px : Nat), Fr 67 a' ∧ sl a' 0 = .pointer (some ⟨g, 0, none⟩) ∧ sl a' 1 = .int .i64 (i : Int) ∧ sl a' 5 = .pointer (some ⟨px, 0, none⟩) ∧ Below w.heap.size w w' ∧ w'.heap[px]? = some (.cells (It.cs ⟨no, sz, xd⟩).toArray 63 (0, 0))) Nope) a w := by
  obtain ⟨f, ha, hs⟩ := frKDO hf
  rw [(hs 0).trans h0, (hs 1).trans h1, (hs 2).trans h2] at ha
  clear hs hf h0 h1 h2
  subst ha
  refine piece2 fun J0 K0 hJ0 hK0 => ?_
  conv => arg 2; whnf
  obtain ⟨T, hT⟩ : ∃ z, str xd = z := ⟨_, rfl⟩
  have HT : Hid (It.v ⟨no, sz, xd⟩ = .agg #[.int .u64 no, .int .i64 sz, .string T] ∧ (It.cs ⟨no, sz, xd⟩) = [.int .u64 no, .int .i64 sz, .string T]) := ⟨by rw [← hT]; rfl, by rw [← hT]; rfl⟩
  clear hT
  rw [HT.out.1]
  have hb : Below w.heap.size w (w.alloc (.cells #[.int .u64 no, .int .i64 sz, .string T] 63)) := (Below.refl _ _).alloc (Nat.le_refl _) _
  have hr : (w.alloc (.cells #[.int .u64 no, .int .i64 sz, .string T] 63)).heap[w.heap.size]? = some (.cells #[.int .u64 no, .int .i64 sz, .string T] 63 (0, 0)) := Blk_new w _ _
  have H : Hid (Below w.heap.size w (w.alloc (.cells #[.int .u64 no, .int .i64 sz, .string T] 63)) ∧ (w.alloc (.cells #[.int .u64 no, .int .i64 sz, .string T] 63)).heap[w.heap.size]? = some (.cells (It.cs ⟨no, sz, xd⟩).toArray 63 (0, 0))) := ⟨hb, by rw [HT.out.2]; exact hr⟩
  clear hb hr
  go_wp2_with fail
  refine Met.intro (hJ0 _ _ ?_)
  exact ⟨_, ⟨rfl, rfl⟩, rfl, rfl, rfl, H.out.1, H.out.2⟩

theorem o1 (B g i px : Nat) (d : Ds) (y : Dl) (no sz : Int) (xd : List Int) (w wr : World) (HO : Hid (Od w wr B g i px d y ⟨no, sz, xd⟩)) (h0 : 0 ≤ sz) (h2 : sz ≤ 2048) (a : Act) (hf : Fr 67 a) (h0 : sl a 0 = .pointer (some ⟨g, 0, none⟩)) (h1 : sl a 1 = .int .i64 (i : Int)) (h5 : sl a 5 = .pointer (some ⟨px, 0, none⟩)) :
    Code.wp Try.prog (cAt [1,0,0] KDO) (Exit.then (fun a' w' => Fr 67 a' ∧ sl a' 0 = .pointer (some ⟨g, 0, none⟩) ∧ sl a' 1 = .int .i64 (i : Int) ∧ sl a' 5 = .pointer (some ⟨px, 0, none⟩) ∧ sl a' 22 = .bool false ∧ wr = w') Nope) a wr := by
  obtain ⟨f, ha, hs⟩ := frKDO hf
  rw [(hs 0).trans h0, (hs 1).trans h1, (hs 5).trans h5] at ha
  clear hs hf h0 h1 h5
  subst ha
  refine piece2 fun J0 K0 hJ0 hK0 => ?_
  conv => arg 2; whnf
  have ht : thB d.n (i : Int) = true := by
    have := HO.out.lt
    unfold thB
    rw [decide_eq_true (show (0 : Int) ≤ (i : Int) by omega), decide_eq_true (show (i : Int) < (d.n : Int) by omega)]; rfl
  have HTH := Lib.hid ht
  have c1 : wr.cell? ⟨px, 1, none⟩ = some (.int .i64 sz) := It.k1 HO.out.row
  have h0' : ¬ sz < 0 := by omega
  have h2' : ¬ 2048 < sz := by omega
  have HSZ : Hid (¬ sz < 0 ∧ ¬ 2048 < sz) := ⟨h0', h2'⟩
  clear ht h0 h2
  go_wp2_with fail
  refine (dThere_any B g d (i : Int) wr HO.out.dw).mono ?_
  rintro e w1 ⟨rfl, hw⟩
  subst hw
  rw [HTH.out]
  go_wp2_with fail
  refine Met.intro (hJ0 _ _ ?_)
  exact ⟨⟨rfl, rfl⟩, rfl, rfl, rfl, (by show Value.bool (decide (sz < 0) || decide (2048 < sz)) = _; rw [decide_eq_false (show ¬ sz < 0 by have := HSZ.out.1; omega), decide_eq_false (show ¬ 2048 < sz by have := HSZ.out.2; omega)]; rfl), rfl⟩

theorem o3 (B g i px : Nat) (d : Ds) (y : Dl) (no sz : Int) (xd : List Int) (w wr : World) (HO : Hid (Od w wr B g i px d y ⟨no, sz, xd⟩)) (A : Aq) (cd : Int) (HA : Hid (y.ab.A.push ⟨no, sz, xd⟩ = A)) (HCD : Hid (y.ab.A.code ⟨no, sz, xd⟩ = cd)) (a : Act) (hf : Fr 67 a) (h0 : sl a 0 = .pointer (some ⟨g, 0, none⟩)) (h1 : sl a 1 = .int .i64 (i : Int)) (h5 : sl a 5 = .pointer (some ⟨px, 0, none⟩)) :
    Code.wp Try.prog (cAt [1,1,0] KDO) (Exit.then (fun a' w' => ∃ (bn : Nat) (a1 : Option Addr) (n1 c1 : Nat), Fr 67 a' ∧ sl a' 0 = .pointer (some ⟨g, 0, none⟩) ∧ sl a' 1 = .int .i64 (i : Int) ∧ sl a' 5 = .pointer (some ⟨px, 0, none⟩) ∧ sl a' 7 = .pointer (some ⟨bn, 0, none⟩) ∧ sl a' 8 = .int .i64 cd ∧ Below wr.heap.size wr w' ∧ w'.heap[bn]? = some (.cells #[.slice a1 n1 c1, .int .i64 A.I, .int .i64 A.S, .int .u64 A.D] 96 (0, 0)) ∧ Rt w' a1 n1 A.l ∧ n1 ≤ c1) Nope) a wr := by
  obtain ⟨f, ha, hs⟩ := frKDO hf
  rw [(hs 0).trans h0, (hs 1).trans h1, (hs 5).trans h5] at ha
  clear hs hf h0 h1 h5
  subst ha
  refine piece2 fun J0 K0 hJ0 hK0 => ?_
  conv => arg 2; whnf
  obtain ⟨T, hT⟩ : ∃ z, str xd = z := ⟨_, rfl⟩
  have HP : Hid (∀ W : World, Rt W y.a y.n y.ab.A.l → Calls Try.prog 47 #[.agg #[.slice y.a y.n y.c, .int .i64 y.ab.A.I, .int .i64 y.ab.A.S, .int .u64 y.ab.A.D], .agg #[.int .u64 no, .int .i64 sz, .string T]] W (RPushR W y.ab.A ⟨no, sz, xd⟩)) := fun W h => by
    rw [← hT]
    exact rPush_any y.a y.n y.c y.ab.A ⟨no, sz, xd⟩ W h (HO.out.dw.its y (List.mem_of_getElem? HO.out.hy)).2 HO.out.ok
  obtain ⟨rq, hvq, hrq, _⟩ := HO.out.dw.qs.nth Dl.ql (by decide) HO.out.hy
  have HR0 : Hid (Rt wr y.a y.n y.ab.A.l) := (HO.out.dw.its y (List.mem_of_getElem? HO.out.hy)).1
  have c2 := HO.out.dw.c2
  rw [hvq] at c2
  have HS0 : Hid (wr.cell? ⟨g, 2, none⟩ = some (.slice (some ⟨rq, 0, none⟩) d.n d.cq) ∧ wr.cell? ⟨rq, i * 4, none⟩ = some (.slice y.a y.n y.c) ∧ wr.cell? ⟨rq, i * 4 + 1, none⟩ = some (.int .i64 y.ab.A.I) ∧ wr.cell? ⟨rq, i * 4 + 2, none⟩ = some (.int .i64 y.ab.A.S) ∧ wr.cell? ⟨rq, i * 4 + 3, none⟩ = some (.int .u64 y.ab.A.D) ∧ wr.cell? ⟨px, 0, none⟩ = some (.int .u64 no) ∧ wr.cell? ⟨px, 1, none⟩ = some (.int .i64 sz) ∧ wr.cell? ⟨px, 2, none⟩ = some (.string T)) := ⟨c2, hrq 0 _ rfl, hrq 1 _ rfl, hrq 2 _ rfl, hrq 3 _ rfl, It.k0 HO.out.row, It.k1 HO.out.row, by rw [← hT]; exact It.k2 HO.out.row⟩
  have hlt2 : (i : Int) < (d.n : Int) := by have := HO.out.lt; omega
  have hi0 : (0 : Int) ≤ (i : Int) := by omega
  have hck : (i : Int) < 1000 := by have := HO.out.n8; have := HO.out.lt; omega
  clear hT hvq hrq c2
  go_wp2_with fail
  have H0 : Hid (Below wr.heap.size wr wr.drew) := (Below.refl _ _).drew
  have HS : Hid (wr.drew.cell? ⟨g, 2, none⟩ = some (.slice (some ⟨rq, 0, none⟩) d.n d.cq) ∧ wr.drew.cell? ⟨rq, i * 4, none⟩ = some (.slice y.a y.n y.c) ∧ wr.drew.cell? ⟨rq, i * 4 + 1, none⟩ = some (.int .i64 y.ab.A.I) ∧ wr.drew.cell? ⟨rq, i * 4 + 2, none⟩ = some (.int .i64 y.ab.A.S) ∧ wr.drew.cell? ⟨rq, i * 4 + 3, none⟩ = some (.int .u64 y.ab.A.D) ∧ wr.drew.cell? ⟨px, 0, none⟩ = some (.int .u64 no) ∧ wr.drew.cell? ⟨px, 1, none⟩ = some (.int .i64 sz) ∧ wr.drew.cell? ⟨px, 2, none⟩ = some (.string T)) := HS0.out
  refine wp_region_held_drew (S := fun w' => w'.cell? ⟨g, 2, none⟩ = some (.slice (some ⟨rq, 0, none⟩) d.n d.cq) ∧ w'.cell? ⟨rq, i * 4, none⟩ = some (.slice y.a y.n y.c) ∧ w'.cell? ⟨rq, i * 4 + 1, none⟩ = some (.int .i64 y.ab.A.I) ∧ w'.cell? ⟨rq, i * 4 + 2, none⟩ = some (.int .i64 y.ab.A.S) ∧ w'.cell? ⟨rq, i * 4 + 3, none⟩ = some (.int .u64 y.ab.A.D) ∧ w'.cell? ⟨px, 0, none⟩ = some (.int .u64 no) ∧ w'.cell? ⟨px, 1, none⟩ = some (.int .i64 sz) ∧ w'.cell? ⟨px, 2, none⟩ = some (.string T)) (by kernel_rfl) HS.out (fun hS => ?_)
  refine tkD 0 24 (.pointer (some ⟨g, 0, none⟩)) (fun w' h' => ?_) hS ?_
  · go_simp
  refine tkD 1 25 (.pointer (some ⟨g, 0, none⟩)) (fun w' h' => ?_) hS ?_
  · go_simp
  try simp only [Act.put, List.setIfInBounds_toArray, List.set_cons_zero, List.set_cons_succ]
  refine tkD 2 26 (.pointer (some ⟨g, 2, none⟩)) (fun w' h' => ?_) hS ?_
  · go_simp
  refine tkD 3 27 (.slice (some ⟨rq, 0, none⟩) (d.n) (d.cq)) (fun w' h' => ?_) hS ?_
  · have c2 := h'.1
    go_simp
  try simp only [Act.put, List.setIfInBounds_toArray, List.set_cons_zero, List.set_cons_succ]
  refine tkD 4 28 (.int .i64 (i : Int)) (fun w' h' => ?_) hS ?_
  · go_simp
  refine tkD 5 29 (.pointer (some ⟨rq, i * 4, none⟩)) (fun w' h' => ?_) hS ?_
  · go_simp
  try simp only [Act.put, List.setIfInBounds_toArray, List.set_cons_zero, List.set_cons_succ]
  refine tkD 6 30 (.agg #[.slice y.a y.n y.c, .int .i64 y.ab.A.I, .int .i64 y.ab.A.S, .int .u64 y.ab.A.D]) (fun w' h' => ?_) hS ?_
  · have c0 := h'.2.1
    have c1 := h'.2.2.1
    have c2 := h'.2.2.2.1
    have c3 := h'.2.2.2.2.1
    go_simp
  refine tkD 7 31 (.agg #[.int .u64 no, .int .i64 sz, .string T]) (fun w' h' => ?_) hS ?_
  · have c0 := h'.2.2.2.2.2.1
    have c1 := h'.2.2.2.2.2.2.1
    have c2 := h'.2.2.2.2.2.2.2
    go_simp
  try simp only [Act.put, List.setIfInBounds_toArray, List.set_cons_zero, List.set_cons_succ]
  refine wpAnyH_ready (rs := [8, 12]) (by kernel_rfl) (by simp) (AllReadyH.cons rfl (fun K hK => ?_) (AllReadyH.cons rfl (fun K hK => ?_) AllReadyH.nil))
  · rw [if_pos (by rfl)]
    go_wp2_with fail
    refine (HP.out _ (HR0.out.below H0.out)).mono ?_
    rintro e w1 ⟨hb, a1, n1, c1, rfl, hr1, hc1⟩
    rw [HA.out] at hr1
    rw [HA.out, HCD.out]
    rw [show rqv a1 n1 c1 A = .agg #[.slice a1 n1 c1, .int .i64 A.I, .int .i64 A.S, .int .u64 A.D] from rfl]
    have H1 : Hid (Below wr.heap.size wr w1) := H0.out.trans (hb.mono H0.out.size)
    have HR1 : Hid (Rt w1 a1 n1 A.l ∧ n1 ≤ c1) := ⟨hr1, hc1⟩
    clear hb hr1 hc1
    clear hS
    refine hK.out _ _ (⟨cell_kept H1.out HS0.out.1, cell_kept H1.out HS0.out.2.1, cell_kept H1.out HS0.out.2.2.1, cell_kept H1.out HS0.out.2.2.2.1, cell_kept H1.out HS0.out.2.2.2.2.1, cell_kept H1.out HS0.out.2.2.2.2.2.1, cell_kept H1.out HS0.out.2.2.2.2.2.2.1, cell_kept H1.out HS0.out.2.2.2.2.2.2.2⟩) (fun hS => ?_)
    clear hK K
    refine tkD 9 23 (.tuple #[.agg #[.slice a1 n1 c1, .int .i64 A.I, .int .i64 A.S, .int .u64 A.D], .int .i64 cd]) (fun w' h' => ?_) hS ?_
    · go_simp
    try simp only [Act.put, List.setIfInBounds_toArray, List.set_cons_zero, List.set_cons_succ]
    refine tkD 10 33 (.agg #[.slice a1 n1 c1, .int .i64 A.I, .int .i64 A.S, .int .u64 A.D]) (fun w' h' => ?_) hS ?_
    · go_simp
    refine tkD 11 34 (.int .i64 cd) (fun w' h' => ?_) hS ?_
    · go_simp
    try simp only [Act.put, List.setIfInBounds_toArray, List.set_cons_zero, List.set_cons_succ]
    refine wpAnyH_ready (rs := [12]) (by kernel_rfl) (by simp) (AllReadyH.cons rfl (fun K hK => ?_) AllReadyH.nil)
    rw [if_pos (by rfl)]
    have HB : Hid (Below wr.heap.size wr (w1.alloc (.cells #[.slice none 0 0, .int .i64 0, .int .i64 0, .int .u64 0] 96))) := H1.out.trans (((Below.refl w1.heap.size w1).alloc (Nat.le_refl _) _).mono H1.out.size)
    have HZ2 : Hid ((w1.alloc (.cells #[.slice none 0 0, .int .i64 0, .int .i64 0, .int .u64 0] 96)).heap[w1.heap.size]? = some (.cells #[.slice none 0 0, .int .i64 0, .int .i64 0, .int .u64 0] 96 (0, 0))) := Blk_new w1 _ _
    have HR2 : Hid (Rt (w1.alloc (.cells #[.slice none 0 0, .int .i64 0, .int .i64 0, .int .u64 0] 96)) a1 n1 A.l ∧ n1 ≤ c1) := ⟨HR1.out.1.below ((Below.refl _ _).alloc (Nat.le_refl _) _), HR1.out.2⟩
    go_wp2_with fail
    obtain ⟨w2, hw⟩ : ∃ z, w1.alloc (.cells #[.slice none 0 0, .int .i64 0, .int .i64 0, .int .u64 0] 96) = z := ⟨_, rfl⟩
    first | rw [hw] | (change K _ (w1.alloc (.cells #[.slice none 0 0, .int .i64 0, .int .i64 0, .int .u64 0] 96)); rw [hw])
    rw [hw] at HB HZ2 HR2
    obtain ⟨bn, hp⟩ : ∃ z, w1.heap.size = z := ⟨_, rfl⟩
    rw [hp] at HZ2
    first | rw [hp] | skip
    have HL : Hid (wr.heap.size ≤ bn) := by
      show _ ≤ _
      have := H1.out.size
      omega
    have H2 : Hid (Below wr.heap.size wr w2) := HB.out
    clear hw hp HB
    clear hS
    refine hK.out _ _ (⟨cell_kept H2.out HS0.out.1, cell_kept H2.out HS0.out.2.1, cell_kept H2.out HS0.out.2.2.1, cell_kept H2.out HS0.out.2.2.2.1, cell_kept H2.out HS0.out.2.2.2.2.1, cell_kept H2.out HS0.out.2.2.2.2.2.1, cell_kept H2.out HS0.out.2.2.2.2.2.2.1, cell_kept H2.out HS0.out.2.2.2.2.2.2.2⟩) (fun hS => ?_)
    clear hK K
    try simp only [Act.put, List.setIfInBounds_toArray, List.set_cons_zero, List.set_cons_succ]
    refine wpAnyH_ready (rs := [13]) (by kernel_rfl) (by simp) (AllReadyH.cons rfl (fun K hK => ?_) AllReadyH.nil)
    rw [if_pos (by rfl)]
    refine wp_store_mid 96 (.tmp 7) (.tmp 33) rfl bn 0 #[.slice a1 n1 c1, .int .i64 A.I, .int .i64 A.S, .int .u64 A.D] rfl rfl (row_there HZ2.out (by simp)) infQ4 (by simp [Value.oneCell']) ?_
    change K _ (w2.setCells bn 0 [.slice a1 n1 c1, .int .i64 A.I, .int .i64 A.S, .int .u64 A.D])
    have hr4 := row4_set HZ2.out (.slice a1 n1 c1) (.int .i64 A.I) (.int .i64 A.S) (.int .u64 A.D)
    have hk4 : Kept (fun i => i = bn) w2 (w2.setCells bn 0 [.slice a1 n1 c1, .int .i64 A.I, .int .i64 A.S, .int .u64 A.D]) := Kept.setCells (S := fun i => i = bn) bn rfl _ _ (Kept.refl _ _)
    obtain ⟨w9, hw⟩ : ∃ z, w2.setCells bn 0 [.slice a1 n1 c1, .int .i64 A.I, .int .i64 A.S, .int .u64 A.D] = z := ⟨_, rfl⟩
    rw [hw] at hk4 hr4 ⊢
    have hb4 : Below wr.heap.size wr w9 := H2.out.trans (hk4.below H2.out.size (fun i e => by have := HL.out; omega))
    have H9 : Hid (Below wr.heap.size wr w9 ∧ w9.heap[bn]? = some (.cells #[.slice a1 n1 c1, .int .i64 A.I, .int .i64 A.S, .int .u64 A.D] 96 (0, 0)) ∧ Rt w9 a1 n1 A.l ∧ n1 ≤ c1) := ⟨hb4, hr4, HR2.out.1.keep hk4 (fun b cur hb e => by rw [e, HZ2.out] at hb; simp at hb), HR2.out.2⟩
    clear hr4 hk4 hb4 hw
    clear hS
    refine hK.out _ _ (⟨cell_kept H9.out.1 HS0.out.1, cell_kept H9.out.1 HS0.out.2.1, cell_kept H9.out.1 HS0.out.2.2.1, cell_kept H9.out.1 HS0.out.2.2.2.1, cell_kept H9.out.1 HS0.out.2.2.2.2.1, cell_kept H9.out.1 HS0.out.2.2.2.2.2.1, cell_kept H9.out.1 HS0.out.2.2.2.2.2.2.1, cell_kept H9.out.1 HS0.out.2.2.2.2.2.2.2⟩) (fun hS => ?_)
    clear hK K
    refine tkD 14 8 (.int .i64 cd) (fun w' h' => ?_) hS ?_
    · go_simp
    refine wpAnyH_done (by kernel_rfl) ?_ _
    go_wp2_with fail
    refine Met.intro (hJ0 _ _ ?_)
    exact ⟨bn, a1, n1, c1, ⟨rfl, rfl⟩, rfl, rfl, rfl, rfl, rfl, H9.out⟩
  · rw [if_pos (by rfl)]
    have HB : Hid (Below wr.heap.size wr (wr.drew.alloc (.cells #[.slice none 0 0, .int .i64 0, .int .i64 0, .int .u64 0] 96))) := H0.out.trans (((Below.refl wr.drew.heap.size wr.drew).alloc (Nat.le_refl _) _).mono H0.out.size)
    have HZ1 : Hid ((wr.drew.alloc (.cells #[.slice none 0 0, .int .i64 0, .int .i64 0, .int .u64 0] 96)).heap[wr.heap.size]? = some (.cells #[.slice none 0 0, .int .i64 0, .int .i64 0, .int .u64 0] 96 (0, 0))) := Blk_new wr.drew _ _
    go_wp2_with fail
    obtain ⟨w1, hw⟩ : ∃ z, wr.drew.alloc (.cells #[.slice none 0 0, .int .i64 0, .int .i64 0, .int .u64 0] 96) = z := ⟨_, rfl⟩
    first | rw [hw] | (change K _ (wr.drew.alloc (.cells #[.slice none 0 0, .int .i64 0, .int .i64 0, .int .u64 0] 96)); rw [hw])
    rw [hw] at HB HZ1
    obtain ⟨bn, hp⟩ : ∃ z, wr.heap.size = z := ⟨_, rfl⟩
    rw [hp] at HZ1
    first | rw [hp] | skip
    have HL : Hid (wr.heap.size ≤ bn) := by
      show _ ≤ _
      have := H0.out.size
      omega
    have H1 : Hid (Below wr.heap.size wr w1) := HB.out
    clear hw hp HB
    clear hS
    refine hK.out _ _ (⟨cell_kept H1.out HS0.out.1, cell_kept H1.out HS0.out.2.1, cell_kept H1.out HS0.out.2.2.1, cell_kept H1.out HS0.out.2.2.2.1, cell_kept H1.out HS0.out.2.2.2.2.1, cell_kept H1.out HS0.out.2.2.2.2.2.1, cell_kept H1.out HS0.out.2.2.2.2.2.2.1, cell_kept H1.out HS0.out.2.2.2.2.2.2.2⟩) (fun hS => ?_)
    clear hK K
    try simp only [Act.put, List.setIfInBounds_toArray, List.set_cons_zero, List.set_cons_succ]
    refine wpAnyH_ready (rs := [8]) (by kernel_rfl) (by simp) (AllReadyH.cons rfl (fun K hK => ?_) AllReadyH.nil)
    rw [if_pos (by rfl)]
    go_wp2_with fail
    refine (HP.out _ (HR0.out.below H1.out)).mono ?_
    rintro e w2 ⟨hb, a1, n1, c1, rfl, hr1, hc1⟩
    rw [HA.out] at hr1
    rw [HA.out, HCD.out]
    rw [show rqv a1 n1 c1 A = .agg #[.slice a1 n1 c1, .int .i64 A.I, .int .i64 A.S, .int .u64 A.D] from rfl]
    have H2 : Hid (Below wr.heap.size wr w2) := H1.out.trans (hb.mono H1.out.size)
    have HR2 : Hid (Rt w2 a1 n1 A.l ∧ n1 ≤ c1) := ⟨hr1, hc1⟩
    have HZ2 : Hid (w2.heap[bn]? = some (.cells #[.slice none 0 0, .int .i64 0, .int .i64 0, .int .u64 0] 96 (0, 0))) := (hb.block _ (Array.getElem?_eq_some_iff.1 HZ1.out).1).trans HZ1.out
    clear hb hr1 hc1
    clear hS
    refine hK.out _ _ (⟨cell_kept H2.out HS0.out.1, cell_kept H2.out HS0.out.2.1, cell_kept H2.out HS0.out.2.2.1, cell_kept H2.out HS0.out.2.2.2.1, cell_kept H2.out HS0.out.2.2.2.2.1, cell_kept H2.out HS0.out.2.2.2.2.2.1, cell_kept H2.out HS0.out.2.2.2.2.2.2.1, cell_kept H2.out HS0.out.2.2.2.2.2.2.2⟩) (fun hS => ?_)
    clear hK K
    refine tkD 9 23 (.tuple #[.agg #[.slice a1 n1 c1, .int .i64 A.I, .int .i64 A.S, .int .u64 A.D], .int .i64 cd]) (fun w' h' => ?_) hS ?_
    · go_simp
    try simp only [Act.put, List.setIfInBounds_toArray, List.set_cons_zero, List.set_cons_succ]
    refine tkD 10 33 (.agg #[.slice a1 n1 c1, .int .i64 A.I, .int .i64 A.S, .int .u64 A.D]) (fun w' h' => ?_) hS ?_
    · go_simp
    refine tkD 11 34 (.int .i64 cd) (fun w' h' => ?_) hS ?_
    · go_simp
    try simp only [Act.put, List.setIfInBounds_toArray, List.set_cons_zero, List.set_cons_succ]
    refine wpAnyH_ready (rs := [13]) (by kernel_rfl) (by simp) (AllReadyH.cons rfl (fun K hK => ?_) AllReadyH.nil)
    rw [if_pos (by rfl)]
    refine wp_store_mid 96 (.tmp 7) (.tmp 33) rfl bn 0 #[.slice a1 n1 c1, .int .i64 A.I, .int .i64 A.S, .int .u64 A.D] rfl rfl (row_there HZ2.out (by simp)) infQ4 (by simp [Value.oneCell']) ?_
    change K _ (w2.setCells bn 0 [.slice a1 n1 c1, .int .i64 A.I, .int .i64 A.S, .int .u64 A.D])
    have hr4 := row4_set HZ2.out (.slice a1 n1 c1) (.int .i64 A.I) (.int .i64 A.S) (.int .u64 A.D)
    have hk4 : Kept (fun i => i = bn) w2 (w2.setCells bn 0 [.slice a1 n1 c1, .int .i64 A.I, .int .i64 A.S, .int .u64 A.D]) := Kept.setCells (S := fun i => i = bn) bn rfl _ _ (Kept.refl _ _)
    obtain ⟨w9, hw⟩ : ∃ z, w2.setCells bn 0 [.slice a1 n1 c1, .int .i64 A.I, .int .i64 A.S, .int .u64 A.D] = z := ⟨_, rfl⟩
    rw [hw] at hk4 hr4 ⊢
    have hb4 : Below wr.heap.size wr w9 := H2.out.trans (hk4.below H2.out.size (fun i e => by have := HL.out; omega))
    have H9 : Hid (Below wr.heap.size wr w9 ∧ w9.heap[bn]? = some (.cells #[.slice a1 n1 c1, .int .i64 A.I, .int .i64 A.S, .int .u64 A.D] 96 (0, 0)) ∧ Rt w9 a1 n1 A.l ∧ n1 ≤ c1) := ⟨hb4, hr4, HR2.out.1.keep hk4 (fun b cur hb e => by rw [e, HZ2.out] at hb; simp at hb), HR2.out.2⟩
    clear hr4 hk4 hb4 hw
    clear hS
    refine hK.out _ _ (⟨cell_kept H9.out.1 HS0.out.1, cell_kept H9.out.1 HS0.out.2.1, cell_kept H9.out.1 HS0.out.2.2.1, cell_kept H9.out.1 HS0.out.2.2.2.1, cell_kept H9.out.1 HS0.out.2.2.2.2.1, cell_kept H9.out.1 HS0.out.2.2.2.2.2.1, cell_kept H9.out.1 HS0.out.2.2.2.2.2.2.1, cell_kept H9.out.1 HS0.out.2.2.2.2.2.2.2⟩) (fun hS => ?_)
    clear hK K
    refine tkD 14 8 (.int .i64 cd) (fun w' h' => ?_) hS ?_
    · go_simp
    refine wpAnyH_done (by kernel_rfl) ?_ _
    go_wp2_with fail
    refine Met.intro (hJ0 _ _ ?_)
    exact ⟨bn, a1, n1, c1, ⟨rfl, rfl⟩, rfl, rfl, rfl, rfl, rfl, H9.out⟩

theorem o4 (B g i px : Nat) (d : Ds) (y : Dl) (no sz : Int) (xd : List Int) (w wr : World) (HO : Hid (Od w wr B g i px d y ⟨no, sz, xd⟩)) (A : Aq) (cd : Int) (bn : Nat) (a1 : Option Addr) (n1 c1 : Nat) (HN : Hid (wr.heap[bn]? = some (.cells #[.slice a1 n1 c1, .int .i64 A.I, .int .i64 A.S, .int .u64 A.D] 96 (0, 0)) ∧ Rt wr a1 n1 A.l ∧ n1 ≤ c1)) (a : Act) (hf : Fr 67 a) (h0 : sl a 0 = .pointer (some ⟨g, 0, none⟩)) (h1 : sl a 1 = .int .i64 (i : Int)) (h5 : sl a 5 = .pointer (some ⟨px, 0, none⟩)) (h7 : sl a 7 = .pointer (some ⟨bn, 0, none⟩)) (h8 : sl a 8 = .int .i64 cd) :
    Code.wp Try.prog (cAt [1,1,1,0] KDO) (Exit.then (fun a' w' => Fr 67 a' ∧ sl a' 0 = .pointer (some ⟨g, 0, none⟩) ∧ sl a' 1 = .int .i64 (i : Int) ∧ sl a' 8 = .int .i64 cd ∧ Oe w w' B g i d y (y.queued A a1 n1 c1)) Nope) a wr := by
  obtain ⟨f, ha, hs⟩ := frKDO hf
  rw [(hs 0).trans h0, (hs 1).trans h1, (hs 5).trans h5, (hs 7).trans h7, (hs 8).trans h8] at ha
  clear hs hf h0 h1 h5 h7 h8
  subst ha
  refine piece2 fun J0 K0 hJ0 hK0 => ?_
  conv => arg 2; whnf
  obtain ⟨rq, hvq, hrq, hth⟩ := HO.out.dw.qs.nth Dl.ql (by decide) HO.out.hy
  have c2 := HO.out.dw.c2
  rw [hvq] at c2
  have hst : Oe w (wr.drew.setCells rq (i * 4) [.slice a1 n1 c1, .int .i64 A.I, .int .i64 A.S, .int .u64 A.D]) B g i d y (y.queued A a1 n1 c1) := by
    have hdr : Below wr.heap.size wr wr.drew := (Below.refl _ _).drew
    have hD := HO.out.dw.below hdr
    have hk : Kept (fun k => k = rq) wr.drew (wr.drew.setCells rq (i * 4) [.slice a1 n1 c1, .int .i64 A.I, .int .i64 A.S, .int .u64 A.D]) := Kept.setCells (S := fun k => k = rq) rq rfl _ _ (Kept.refl _ _)
    have h1 := hD.qs
    rw [hvq] at h1
    have h2 := h1.put Dl.ql (i := i) (by rw [HO.out.dw.len]; exact HO.out.lt) (y.queued A a1 n1 c1)
    refine ⟨hD.queue HO.out.hy hvq rfl rfl (by rw [hvq]; exact h2) hk ⟨HN.out.2.1.below hdr, HN.out.2.2⟩, HO.out.hy, ?_, HO.out.lt, HO.out.n8⟩
    have k0 : Kept (d.foot g) w wr := Kept.of_below HO.out.below (fun i hi hi' => by omega)
    have k1 : Kept (d.foot g) wr wr.drew := Kept.of_below hdr (fun i hi hi' => by omega)
    exact (k0.trans k1 (fun _ _ e => e)).trans hk (fun k _ e => .inr (.inr (.inl (by rw [e, hvq]; rfl))))
  have H4 : Hid (Oe w (wr.drew.setCells rq (i * 4) [.slice a1 n1 c1, .int .i64 A.I, .int .i64 A.S, .int .u64 A.D]) B g i d y (y.queued A a1 n1 c1)) := hst
  have HVQ := Lib.hid hvq
  have HTH : Hid (wr.there rq (i * 4) 4) := hth
  have HS0 : Hid (wr.cell? ⟨g, 2, none⟩ = some (.slice (some ⟨rq, 0, none⟩) d.n d.cq)) := c2
  have hlt2 : (i : Int) < (d.n : Int) := by have := HO.out.lt; omega
  have hi0 : (0 : Int) ≤ (i : Int) := by omega
  have hck : (i : Int) < 1000 := by have := HO.out.n8; have := HO.out.lt; omega
  clear hvq hrq hth c2 hst
  go_wp2_with fail
  have HS : Hid (wr.drew.cell? ⟨g, 2, none⟩ = some (.slice (some ⟨rq, 0, none⟩) d.n d.cq)) := HS0.out
  refine wp_region_held_drew (S := fun w' => w'.cell? ⟨g, 2, none⟩ = some (.slice (some ⟨rq, 0, none⟩) d.n d.cq)) (by kernel_rfl) HS.out (fun hS => ?_)
  refine tkD 0 35 (.pointer (some ⟨g, 0, none⟩)) (fun w' h' => ?_) hS ?_
  · go_simp
  try simp only [Act.put, List.setIfInBounds_toArray, List.set_cons_zero, List.set_cons_succ]
  refine tkD 1 36 (.pointer (some ⟨g, 0, none⟩)) (fun w' h' => ?_) hS ?_
  · go_simp
  refine tkD 2 37 (.pointer (some ⟨g, 2, none⟩)) (fun w' h' => ?_) hS ?_
  · go_simp
  try simp only [Act.put, List.setIfInBounds_toArray, List.set_cons_zero, List.set_cons_succ]
  refine tkD 3 38 (.slice (some ⟨rq, 0, none⟩) (d.n) (d.cq)) (fun w' h' => ?_) hS ?_
  · have c2 := h'
    go_simp
  refine tkD 4 39 (.int .i64 (i : Int)) (fun w' h' => ?_) hS ?_
  · go_simp
  have b0 : wr.drew.cell? ⟨bn, 0, none⟩ = some (.slice a1 n1 c1) := q4_0 HN.out.1
  have b1 : wr.drew.cell? ⟨bn, 1, none⟩ = some (.int .i64 A.I) := q4_1 HN.out.1
  have b2 : wr.drew.cell? ⟨bn, 2, none⟩ = some (.int .i64 A.S) := q4_2 HN.out.1
  have b3 : wr.drew.cell? ⟨bn, 3, none⟩ = some (.int .u64 A.D) := q4_3 HN.out.1
  try simp only [Act.put, List.setIfInBounds_toArray, List.set_cons_zero, List.set_cons_succ]
  refine wpAnyH_ready (rs := [5]) (by kernel_rfl) (by simp) (AllReadyH.cons rfl (fun K hK => ?_) AllReadyH.nil)
  rw [if_pos (by rfl)]
  go_wp2_with fail
  clear b0 b1 b2 b3
  clear hS
  refine hK.out _ _ (HS.out) (fun hS => ?_)
  clear hK K
  refine tkD 6 41 (.pointer (some ⟨rq, i * 4, none⟩)) (fun w' h' => ?_) hS ?_
  · go_simp
  try simp only [Act.put, List.setIfInBounds_toArray, List.set_cons_zero, List.set_cons_succ]
  refine wpAnyH_ready (rs := [7]) (by kernel_rfl) (by simp) (AllReadyH.cons rfl (fun K hK => ?_) AllReadyH.nil)
  rw [if_pos (by rfl)]
  refine wp_store_mid 96 (.tmp 41) (.tmp 40) rfl rq (i * 4) #[.slice a1 n1 c1, .int .i64 A.I, .int .i64 A.S, .int .u64 A.D] rfl rfl (show wr.there rq (i * 4) 4 from HTH.out) infQ4 (by simp [Value.oneCell']) ?_
  change K _ (wr.drew.setCells rq (i * 4) [.slice a1 n1 c1, .int .i64 A.I, .int .i64 A.S, .int .u64 A.D])
  obtain ⟨w9, hw⟩ : ∃ z, wr.drew.setCells rq (i * 4) [.slice a1 n1 c1, .int .i64 A.I, .int .i64 A.S, .int .u64 A.D] = z := ⟨_, rfl⟩
  rw [hw] at H4 ⊢
  clear hw
  have hv9 := H4.out.dw.c2
  simp only at hv9
  rw [HVQ.out] at hv9
  clear hS
  refine hK.out _ _ (hv9) (fun hS => ?_)
  clear hK K
  refine wpAnyH_done (by kernel_rfl) ?_ _
  go_wp2_with fail
  refine Met.intro (hJ0 _ _ ?_)
  exact ⟨⟨rfl, rfl⟩, rfl, rfl, rfl, H4.out⟩

theorem o5 (B g i : Nat) (d : Ds) (y z : Dl) (cd : Int) (w wr : World) (HE : Hid (Oe w wr B g i d y z)) (a : Act) (hf : Fr 67 a) (h0 : sl a 0 = .pointer (some ⟨g, 0, none⟩)) (h1 : sl a 1 = .int .i64 (i : Int)) (h8 : sl a 8 = .int .i64 cd) :
    Code.wp Try.prog (cAt [1,1,1,1,0] KDO) (Exit.then (fun a' w' => Fr 67 a' ∧ sl a' 0 = .pointer (some ⟨g, 0, none⟩) ∧ sl a' 1 = .int .i64 (i : Int) ∧ sl a' 8 = .int .i64 cd ∧ Oe w w' B g i d y z.offd) Nope) a wr := by
  obtain ⟨f, ha, hs⟩ := frKDO hf
  rw [(hs 0).trans h0, (hs 1).trans h1, (hs 8).trans h8] at ha
  clear hs hf h0 h1 h8
  subst ha
  refine piece2 fun J0 K0 hJ0 hK0 => ?_
  conv => arg 2; whnf
  have hat := HE.out.at_
  obtain ⟨rs, hvs, hrs, hts⟩ := HE.out.dw.ss.nth Dl.sl (by decide) hat
  simp only at hvs
  have c3 := HE.out.dw.c3
  simp only at c3
  rw [hvs] at c3
  have s0 : wr.cell? ⟨rs, i * 4, none⟩ = some (.int .u64 z.ab.o) := hrs 0 _ rfl
  have f0 : wr.frozen? ⟨rs, i * 4, none⟩ = false := by have := (hts 0 (by decide)).2; simpa using this
  have hst : Oe w (wr.setCell ⟨rs, i * 4, none⟩ (.int .u64 (up z.ab.o 1))) B g i d y z.offd := by
    have h1 := HE.out.dw.ss
    simp only at h1
    rw [hvs] at h1
    have h2 := h1.one (j := 0) (v := .int .u64 (up z.ab.o 1)) (y := z.offd) Dl.sl hat (by decide) rfl
    have hk : Kept (fun k => k = rs) wr (wr.setCell ⟨rs, i * 4, none⟩ (.int .u64 (up z.ab.o 1))) := Kept.setCell _ _ _ rfl
    rw [Nat.add_zero] at h2
    have h3 := HE.out.dw.stat (d := { d with ls := d.ls.set i z }) (y := z.offd) hat hvs rfl rfl rfl ⟨rfl, rfl, rfl⟩ (by rw [hvs]; exact h2) hk
    simp only [List.set_set] at h3
    exact ⟨h3, HE.out.hy, HE.out.kept.trans hk (fun k _ e => .inr (.inr (.inr (by rw [e, hvs]; rfl)))), HE.out.lt, HE.out.n8⟩
  have H5 := Lib.hid hst
  have hlt2 : (i : Int) < (d.n : Int) := by have := HE.out.lt; omega
  have hi0 : (0 : Int) ≤ (i : Int) := by omega
  have hck : (i : Int) < 1000 := by have := HE.out.n8; have := HE.out.lt; omega
  have hup : IntKind.u64.wrap (z.ab.o + 1) = up z.ab.o 1 := rfl
  clear hat hrs hts hst hvs
  go_wp2_with fail
  refine Met.intro (hJ0 _ _ ?_)
  exact ⟨⟨rfl, rfl⟩, rfl, rfl, rfl, H5.out⟩

theorem o6 (g i : Nat) (cd : Int) (wr : World) (a : Act) (hf : Fr 67 a) (h0 : sl a 0 = .pointer (some ⟨g, 0, none⟩)) (h1 : sl a 1 = .int .i64 (i : Int)) (h8 : sl a 8 = .int .i64 cd) :
    Code.wp Try.prog (cAt [1,1,1,1,1,0,0] KDO) (Exit.then (fun a' w' => Fr 67 a' ∧ sl a' 0 = .pointer (some ⟨g, 0, none⟩) ∧ sl a' 1 = .int .i64 (i : Int) ∧ sl a' 8 = .int .i64 cd ∧ sl a' 54 = .bool (decide (cd = 110)) ∧ wr = w') Nope) a wr := by
  obtain ⟨f, ha, hs⟩ := frKDO hf
  rw [(hs 0).trans h0, (hs 1).trans h1, (hs 8).trans h8] at ha
  clear hs hf h0 h1 h8
  subst ha
  refine piece2 fun J0 K0 hJ0 hK0 => ?_
  conv => arg 2; whnf
  by_cases h : cd = 110
  · subst h
    go_wp2_with fail
    refine Met.intro (hJ0 _ _ ?_)
    exact ⟨⟨rfl, rfl⟩, rfl, rfl, rfl, rfl, rfl⟩
  · have hb : (cd == 110) = false := by simpa using h
    have hd : decide (cd = 110) = false := decide_eq_false h
    rw [hd] at hJ0
    clear hd
    go_wp2_with fail
    refine Met.intro (hJ0 _ _ ?_)
    exact ⟨⟨rfl, rfl⟩, rfl, rfl, rfl, rfl, rfl⟩

theorem o7 (B g i : Nat) (d : Ds) (y z : Dl) (cd : Int) (w wr : World) (HE : Hid (Oe w wr B g i d y z)) (a : Act) (hf : Fr 67 a) (h0 : sl a 0 = .pointer (some ⟨g, 0, none⟩)) (h1 : sl a 1 = .int .i64 (i : Int)) (h8 : sl a 8 = .int .i64 cd) :
    Code.wp Try.prog (cAt [1,1,1,1,1,0,1,3] KDO) (Exit.then (fun a' w' => Fr 67 a' ∧ sl a' 0 = .pointer (some ⟨g, 0, none⟩) ∧ sl a' 1 = .int .i64 (i : Int) ∧ sl a' 8 = .int .i64 cd ∧ Oe w w' B g i d y z.drpd) Nope) a wr := by
  obtain ⟨f, ha, hs⟩ := frKDO hf
  rw [(hs 0).trans h0, (hs 1).trans h1, (hs 8).trans h8] at ha
  clear hs hf h0 h1 h8
  subst ha
  refine piece2 fun J0 K0 hJ0 hK0 => ?_
  conv => arg 2; whnf
  have hat := HE.out.at_
  obtain ⟨rs, hvs, hrs, hts⟩ := HE.out.dw.ss.nth Dl.sl (by decide) hat
  simp only at hvs
  have c3 := HE.out.dw.c3
  simp only at c3
  rw [hvs] at c3
  have s0 : wr.cell? ⟨rs, i * 4 + 1, none⟩ = some (.int .u64 z.ab.d) := hrs 1 _ rfl
  have f0 : wr.frozen? ⟨rs, i * 4 + 1, none⟩ = false := by have := (hts 1 (by decide)).2; simpa using this
  have hst : Oe w (wr.setCell ⟨rs, i * 4 + 1, none⟩ (.int .u64 (up z.ab.d 1))) B g i d y z.drpd := by
    have h1 := HE.out.dw.ss
    simp only at h1
    rw [hvs] at h1
    have h2 := h1.one (j := 1) (v := .int .u64 (up z.ab.d 1)) (y := z.drpd) Dl.sl hat (by decide) rfl
    have hk : Kept (fun k => k = rs) wr (wr.setCell ⟨rs, i * 4 + 1, none⟩ (.int .u64 (up z.ab.d 1))) := Kept.setCell _ _ _ rfl
    have h3 := HE.out.dw.stat (d := { d with ls := d.ls.set i z }) (y := z.drpd) hat hvs rfl rfl rfl ⟨rfl, rfl, rfl⟩ (by rw [hvs]; exact h2) hk
    simp only [List.set_set] at h3
    exact ⟨h3, HE.out.hy, HE.out.kept.trans hk (fun k _ e => .inr (.inr (.inr (by rw [e, hvs]; rfl)))), HE.out.lt, HE.out.n8⟩
  have H5 := Lib.hid hst
  have hlt2 : (i : Int) < (d.n : Int) := by have := HE.out.lt; omega
  have hi0 : (0 : Int) ≤ (i : Int) := by omega
  have hck : (i : Int) < 1000 := by have := HE.out.n8; have := HE.out.lt; omega
  have hup : IntKind.u64.wrap (z.ab.d + 1) = up z.ab.d 1 := rfl
  clear hat hrs hts hst hvs
  go_wp2_with fail
  refine Met.intro (hJ0 _ _ ?_)
  exact ⟨⟨rfl, rfl⟩, rfl, rfl, rfl, H5.out⟩

theorem o8 (cd : Int) (wr : World) (R : Ending → World → Prop) (HR : R (.returned (.int .i64 cd)) wr) (a : Act) (hf : Fr 67 a) (h8 : sl a 8 = .int .i64 cd) :
    Code.wp Try.prog (cAt [1,1,1,1,1,1] KDO) (RetsV Try.f34 R) a wr := by
  have H := Lib.hid HR
  clear HR
  obtain ⟨f, ha, hs⟩ := frKDO hf
  rw [(hs 8).trans h8] at ha
  clear hs hf h8
  subst ha
  conv => arg 2; whnf
  go_wp2_with fail
  refine ⟨rfl, ?_⟩
  go_ret
  exact H.out

theorem dOffer_any (B g : Nat) (d : Ds) (c : Int) (x : It) (w : World) (h : Dw w B g d) (hn : d.n ≤ 8) (hok : ∀ y ∈ d.ls, y.ab.A.ok) :
    Calls Try.prog 34 #[.pointer (some ⟨g, 0, none⟩), .int .i64 c, x.v] w (DOffR w B g d c x) := by
  obtain ⟨no, sz, xd⟩ := x
  have hlen : (d.abs.length : Int) = (d.n : Int) := by rw [Ds.abs_len, h.len]
  by_cases hcc : 0 ≤ c ∧ c < (d.n : Int)
  case neg =>
    have HF : Hid (∀ w', Below w.heap.size w w' → DOffR w B g d c ⟨no, sz, xd⟩ (.returned (.int .i64 2)) w') := fun w' hb => doff_no h hb (by
      unfold offOk
      rw [hlen]
      refine Bool.eq_false_iff.2 fun e => hcc ?_
      simp only [Bool.and_eq_true, decide_eq_true_eq] at e
      exact ⟨e.1, e.2.1⟩)
    have ht : thB d.n c = false := by
      unfold thB
      refine Bool.eq_false_iff.2 fun e => hcc ?_
      simp only [Bool.and_eq_true, decide_eq_true_eq] at e
      exact e
    have HT := Lib.hid ht
    have HD := Lib.hid h
    obtain ⟨T, hT⟩ : ∃ z, str xd = z := ⟨_, rfl⟩
    have hv : It.v ⟨no, sz, xd⟩ = .agg #[.int .u64 no, .int .i64 sz, .string T] := by rw [← hT]; rfl
    rw [hv]
    clear hv hT ht hcc h hlen hok
    have hb : Below w.heap.size w (w.alloc (.cells #[.int .u64 no, .int .i64 sz, .string T] 63)) := (Below.refl _ _).alloc (Nat.le_refl _) _
    have HB := Lib.hid hb
    clear hb
    go_enter Try.func34, Try.ntmps34
    go_wp2_with fail
    refine (dThere_any B g d c _ (HD.out.below HB.out)).mono ?_
    rintro e w1 ⟨rfl, hw⟩
    subst hw
    rw [HT.out]
    go_wp2_with fail
    go_ret
    exact HF.out _ HB.out
  case pos =>
  obtain ⟨i, rfl⟩ : ∃ i : Nat, c = (i : Int) := ⟨c.toNat, by omega⟩
  have hi : i < d.n := by omega
  have ht : thB d.n (i : Int) = true := by
    unfold thB
    rw [decide_eq_true hcc.1, decide_eq_true hcc.2]; rfl
  by_cases hs : 0 ≤ sz ∧ sz ≤ 2048
  case neg =>
    have HF : Hid (∀ w', Below w.heap.size w w' → DOffR w B g d i ⟨no, sz, xd⟩ (.returned (.int .i64 2)) w') := fun w' hb => doff_no h hb (by
      unfold offOk
      refine Bool.eq_false_iff.2 fun e => hs ?_
      simp only [Bool.and_eq_true, decide_eq_true_eq] at e
      exact ⟨e.2.2.1, e.2.2.2⟩)
    have HT := Lib.hid ht
    have HD := Lib.hid h
    obtain ⟨T, hT⟩ : ∃ z, str xd = z := ⟨_, rfl⟩
    have hv : It.v ⟨no, sz, xd⟩ = .agg #[.int .u64 no, .int .i64 sz, .string T] := by rw [← hT]; rfl
    rw [hv]
    have hb : Below w.heap.size w (w.alloc (.cells #[.int .u64 no, .int .i64 sz, .string T] 63)) := (Below.refl _ _).alloc (Nat.le_refl _) _
    have hr : (w.alloc (.cells #[.int .u64 no, .int .i64 sz, .string T] 63)).heap[w.heap.size]? = some (.cells #[.int .u64 no, .int .i64 sz, .string T] 63 (0, 0)) := Blk_new w _ _
    have HB := Lib.hid hb
    have hc1 := q3_1 hr
    by_cases h0 : sz < 0
    · clear hs hv hT ht hcc h hlen hok hb hr hi
      go_enter Try.func34, Try.ntmps34
      go_wp2_with fail
      refine (dThere_any B g d i _ (HD.out.below HB.out)).mono ?_
      rintro e w1 ⟨rfl, hw⟩
      subst hw
      rw [HT.out]
      go_wp2_with fail
      go_ret
      exact HF.out _ HB.out
    · have h2 : 2048 < sz := by omega
      clear hs hv hT ht hcc h hlen hok hb hr hi
      go_enter Try.func34, Try.ntmps34
      go_wp2_with fail
      refine (dThere_any B g d i _ (HD.out.below HB.out)).mono ?_
      rintro e w1 ⟨rfl, hw⟩
      subst hw
      rw [HT.out]
      go_wp2_with fail
      go_ret
      exact HF.out _ HB.out
  case pos =>
  obtain ⟨y, hy⟩ : ∃ y, d.ls[i]? = some y := ⟨_, List.getElem?_eq_getElem (by rw [h.len]; exact hi)⟩
  have hym := List.mem_of_getElem? hy
  have hofk : offOk d.abs (i : Int) ⟨no, sz, xd⟩ = true := by
    unfold offOk
    rw [hlen]
    simp only [Bool.and_eq_true, decide_eq_true_eq]
    exact ⟨hcc.1, hcc.2, hs.1, hs.2⟩
  have hget : d.abs.getD i az = y.ab := by
    unfold Ds.abs
    rw [List.getD_eq_getElem?_getD, List.getElem?_map, hy]; rfl
  have hfin : ∀ (A : Aq) (a1 : Option Addr) (n1 c1 : Nat) (z : Dl) (wf : World), y.ab.A.push ⟨no, sz, xd⟩ = A → Oe w wf B g i d y z → z.ab = y.ab.push ⟨no, sz, xd⟩ → DOffR w B g d i ⟨no, sz, xd⟩ (.returned (.int .i64 (y.ab.A.code ⟨no, sz, xd⟩))) wf := fun A a1 n1 c1 z wf hA he hz => by
    refine ⟨?_, d.ls.set i z, he.dw, ?_, he.kept⟩
    · unfold offC
      rw [hofk, if_pos rfl, Int.toNat_natCast, hget]
    · unfold offL
      rw [hofk, if_pos rfl, Int.toNat_natCast, hget, List.map_set, hz]; rfl
  refine calls_of_wp (c := KDO) Try.func34 (by kernel_rfl) ?_
  have hf : Fr 67 { tmps := #[.pointer (some ⟨g, 0, none⟩), .int .i64 (i : Int), It.v ⟨no, sz, xd⟩] ++ Array.replicate (Try.f34.ntmps - (#[.pointer (some ⟨g, 0, none⟩), .int .i64 (i : Int), It.v ⟨no, sz, xd⟩] : Array Value).size) undef, defers := [] } := ⟨rfl, by rw [Try.ntmps34]; simp⟩
  refine wp_sqR (x := (cAt [0] KDO)) (y := (cAt [1] KDO)) (by kernel_rfl) (o0 w g i no sz xd _ hf (sl_at _ _ 0 _ rfl) (sl_at _ _ 1 _ rfl) (sl_at _ _ 2 _ rfl)) ?_
  rintro a1 w1 ⟨px, hf, h0, h1, h5, hb, hrow⟩
  have HO : Hid (Od w w1 B g i px d y ⟨no, sz, xd⟩) := ⟨h.below hb, hy, hrow, hb, hi, hn, hok y hym⟩
  have fin : ∀ (a : Act) (wf : World), Fr 67 a → sl a 8 = .int .i64 (y.ab.A.code ⟨no, sz, xd⟩) → DOffR w B g d i ⟨no, sz, xd⟩ (.returned (.int .i64 (y.ab.A.code ⟨no, sz, xd⟩))) wf → Code.wp Try.prog ((cAt [1,1,1,1,1,1] KDO)) (bodyPost Try.prog Try.f34 (DOffR w B g d i ⟨no, sz, xd⟩)) a wf := fun a wf hf h8 hr => wp_endT (o8 _ wf _ hr a hf h8) (fun _ _ q => q)
  refine wp_sqR (x := (cAt [1,0] KDO)) (y := (cAt [1,1] KDO)) (R := fun a' w' => w1 = w' ∧ Fr 67 a' ∧ sl a' 0 = .pointer (some ⟨g, 0, none⟩) ∧ sl a' 1 = .int .i64 (i : Int) ∧ sl a' 5 = .pointer (some ⟨px, 0, none⟩)) (by kernel_rfl) ?_ ?_
  · refine tkDq (o1 B g i px d y no sz xd w w1 HO hs.1 hs.2 a1 hf h0 h1 h5) ?_
    rintro a2 _ ⟨hf, h0, h1, h5, h22, rfl⟩
    refine wp_onF (A := (cAt [1,0,1,3] KDO)) (B := (cAt [1,0,1,4] KDO)) (by kernel_rfl) h22 ?_
    have hsk : (cAt [1,0,1,4] KDO) = Code.skip := by kernel_rfl
    rw [hsk]
    exact wp_skip ⟨rfl, hf, h0, h1, h5⟩
  rintro a2 _ ⟨rfl, hf, h0, h1, h5⟩
  refine tkDq (o3 B g i px d y no sz xd w w1 HO (y.ab.A.push ⟨no, sz, xd⟩) (y.ab.A.code ⟨no, sz, xd⟩) (Lib.hid rfl) (Lib.hid rfl) a2 hf h0 h1 h5) ?_
  rintro a3 w3 ⟨bn, q1, n1, c1, hf, h0, h1, h5, h7, h8, hb3, hbox, hrt, hnc⟩
  refine tkDq (o4 B g i px d y no sz xd w w3 (HO.out.past hb3) (y.ab.A.push ⟨no, sz, xd⟩) (y.ab.A.code ⟨no, sz, xd⟩) bn q1 n1 c1 ⟨hbox, hrt, hnc⟩ a3 hf h0 h1 h5 h7 h8) ?_
  rintro a4 w4 ⟨hf, h0, h1, h8, he4⟩
  refine tkDq (o5 B g i d y _ _ w w4 he4 a4 hf h0 h1 h8) ?_
  rintro a5 w5 ⟨hf, h0, h1, h8, he5⟩
  by_cases hcd : y.ab.A.code ⟨no, sz, xd⟩ = 110
  · refine wp_sqR (x := (cAt [1,1,1,1,1,0] KDO)) (y := (cAt [1,1,1,1,1,1] KDO)) (R := fun a' w' => Oe w w' B g i d y (y.queued (y.ab.A.push ⟨no, sz, xd⟩) q1 n1 c1).offd.drpd ∧ Fr 67 a' ∧ sl a' 8 = .int .i64 (y.ab.A.code ⟨no, sz, xd⟩)) (by kernel_rfl) ?_ ?_
    · refine tkDq (o6 g i _ w5 a5 hf h0 h1 h8) ?_
      rintro a6 _ ⟨hf, h0, h1, h8, h54, rfl⟩
      rw [decide_eq_true hcd] at h54
      refine wp_onT (A := (cAt [1,1,1,1,1,0,1,3] KDO)) (B := (cAt [1,1,1,1,1,0,1,4] KDO)) (by kernel_rfl) h54 ?_
      refine wp_endR (o7 B g i d y _ _ w w5 he5 a6 hf h0 h1 h8) ?_
      rintro a7 w7 ⟨hf, h0, h1, h8, he7⟩
      exact ⟨he7, hf, h8⟩
    rintro a7 w7 ⟨he7, hf, h8⟩
    refine fin a7 w7 hf h8 (hfin _ q1 n1 c1 _ w7 rfl he7 ?_)
    unfold Ab.push
    rw [if_pos hcd]
    rfl
  · refine wp_sqR (x := (cAt [1,1,1,1,1,0] KDO)) (y := (cAt [1,1,1,1,1,1] KDO)) (R := fun a' w' => w5 = w' ∧ Fr 67 a' ∧ sl a' 8 = .int .i64 (y.ab.A.code ⟨no, sz, xd⟩)) (by kernel_rfl) ?_ ?_
    · refine tkDq (o6 g i _ w5 a5 hf h0 h1 h8) ?_
      rintro a6 _ ⟨hf, h0, h1, h8, h54, rfl⟩
      rw [decide_eq_false hcd] at h54
      refine wp_onF (A := (cAt [1,1,1,1,1,0,1,3] KDO)) (B := (cAt [1,1,1,1,1,0,1,4] KDO)) (by kernel_rfl) h54 ?_
      have hsk : (cAt [1,1,1,1,1,0,1,4] KDO) = Code.skip := by kernel_rfl
      rw [hsk]
      exact wp_skip ⟨rfl, hf, h8⟩
    rintro a7 _ ⟨rfl, hf, h8⟩
    refine fin a7 w5 hf h8 (hfin _ q1 n1 c1 _ w5 rfl he5 ?_)
    unfold Ab.push
    rw [if_neg hcd]
    rfl
end Go.Proofs.Ytpigpeehhadkjaa

namespace Go.Proofs.Ytpigpeehhadkjaa
open Go.RowKit Bkt
set_option maxRecDepth 100000
set_option maxHeartbeats 4000000

def Ot.cs (x : Ot) : List Value := [.int .u64 x.t, .int .i64 (x.c : Int), .int .u64 x.x.no, .int .i64 x.x.sz, .string (str x.x.d)]
theorem Ot.len (x : Ot) : x.cs.length = 5 := rfl
theorem Ot.one (x : Ot) : ∀ v ∈ x.cs, v.oneCell' = true := by
  intro v hv
  simp only [Ot.cs, List.mem_cons, List.not_mem_nil, or_false] at hv
  rcases hv with rfl | rfl | rfl | rfl | rfl <;> rfl
theorem infROut : (Try.prog.info? 130).map (fun i => (i.zero, i.size, i.bytes)) = some (some (.agg #[.int .u64 0, .int .i64 0, .int .u64 0, .int .i64 0, .string ⟨#[]⟩]), 5, 48) := by kernel_rfl
theorem infR10 : (Try.prog.info? 101).map (·.size) = some 4 := by kernel_rfl
def Dl.tookd (x : Dl) (t n : Int) : Dl := { x with ab := { x.ab with b := x.ab.b.took t n } }
def Dl.outd (x : Dl) : Dl := { x with ab := { x.ab with u := up x.ab.u 1 } }
def Dl.bytd (x : Dl) (n : Int) : Dl := { x with ab := { x.ab with y := up x.ab.y n } }
/-- Release, on its way. -/
structure Rdl (w wr : World) (B g : Nat) (d : Ds) (v : Option Addr) (n cap : Nat) (os : List Ot) : Prop where
  dw : Dw wr B g d
  kept : Kept (d.foot g) w wr
  out : OwnG wr w.heap.size 130 5 v n cap (os.flatMap Ot.cs)
  top : ∀ k, d.foot g k → k < w.heap.size
theorem Dw.foot_lt {W : World} {B g : Nat} {d : Ds} (h : Dw W B g d) {k : Nat} (hk : d.foot g k) : B ≤ k ∧ k < W.heap.size := by
  rcases hk with rfl | hk | hk | hk
  · exact ⟨h.base, (Array.getElem?_eq_some_iff.1 h.row).1⟩
  · exact h.bs.blk_ge _ hk
  · exact h.qs.blk_ge _ hk
  · exact h.ss.blk_ge _ hk
section
variable {w wr w' : World} {B g : Nat} {d : Ds} {v : Option Addr} {n cap : Nat} {os : List Ot}
theorem Rdl.did (h : Rdl w wr B g d v n cap os) {T : Int} {ls : List Dl} (hd : Dw w' B g { d with T := T, ls := ls }) (k : Kept (d.foot g) wr w') : Rdl w w' B g { d with T := T, ls := ls } v n cap os :=
  ⟨hd, h.kept.trans k (fun _ _ e => e), h.out.keep k (fun b hb e => by
    have h1 := h.top b e
    have h2 := (h.out.blk_ge b hb).1
    omega), h.top⟩
theorem Rdl.past (h : Rdl w wr B g d v n cap os) (k : Below wr.heap.size wr w') : Rdl w w' B g d v n cap os :=
  h.did (T := d.T) (ls := d.ls) (h.dw.below k) (Kept.of_below k (fun i hi hi' => by omega))
/-- One more goes out. -/
theorem Rdl.more (h : Rdl w wr B g d v n cap os) {r n' cap' : Nat} {os' : List Ot} (ho : OwnG w' w.heap.size 130 5 (some ⟨r, 0, none⟩) n' cap' (os'.flatMap Ot.cs)) (k : Kept (fun k => blk v = some k) wr w') : Rdl w w' B g d (some ⟨r, 0, none⟩) n' cap' os' := by
  have hge : ∀ b, blk v = some b → w.heap.size ≤ b := fun b hb => (h.out.blk_ge b hb).1
  have hgk : ∀ b, blk v = some b → ∃ cur, wr.heap[b]? = some (.cells cur 130 (0, 0)) := fun b hb => h.out.blkr hb
  have hd := h.dw
  refine ⟨⟨k.heap hd.row (fun e => by have := hge _ e; have := h.top g (.inl rfl); omega), hd.bs.keep k (fun b hb e => by have := hge _ e; have := h.top b (.inr (.inl hb)); omega), hd.qs.keep k (fun b hb e => by have := hge _ e; have := h.top b (.inr (.inr (.inl hb))); omega), hd.ss.keep k (fun b hb e => by have := hge _ e; have := h.top b (.inr (.inr (.inr hb))); omega), fun x hx => ⟨(hd.its x hx).1.keep k (fun b cur hb e => ?_), (hd.its x hx).2⟩, hd.base⟩, ?_, ho, h.top⟩
  · obtain ⟨cur2, hc⟩ := hgk b e
    rw [hb] at hc
    simp at hc
  · refine ⟨k.os.trans h.kept.os, k.tape.trans h.kept.tape, k.output.trans h.kept.output, Nat.le_trans h.kept.size k.size, fun i hi hn => ?_⟩
    rw [k.block i (Nat.lt_of_lt_of_le hi h.kept.size) (fun e => by have := hge _ e; omega)]
    exact h.kept.block i hi hn
/-- The item that goes out stands in a box. -/
structure Ofx (w wr : World) (B g i px : Nat) (d : Ds) (y z : Dl) (x : It) : Prop where
  oe : Oe w wr B g i d y z
  row : wr.heap[px]? = some (.cells x.cs.toArray 63 (0, 0))
end
theorem Dw.ne {W : World} {B g : Nat} {d : Ds} (h : Dw W B g d) {px : Nat} {cur : Array Value} (hr : W.heap[px]? = some (.cells cur 63 (0, 0))) : ¬ d.foot g px := fun hk => by
  rcases hk with rfl | hk | hk | hk
  · rw [h.row] at hr
    simp at hr
  · obtain ⟨c, hc⟩ := h.bs.blkr hk
    rw [hc] at hr
    simp at hr
  · obtain ⟨c, hc⟩ := h.qs.blkr hk
    rw [hc] at hr
    simp at hr
  · obtain ⟨c, hc⟩ := h.ss.blkr hk
    rw [hc] at hr
    simp at hr

noncomputable def KDR : Code := Try.f36.body.getD .skip
theorem frKDR {a : Act} (h : Fr 115 a) : ∃ f : Nat → Value, a = ⟨#[f 0, f 1, f 2, f 3, f 4, f 5, f 6, f 7, f 8, f 9, f 10, f 11, f 12, f 13, f 14, f 15, f 16, f 17, f 18, f 19, f 20, f 21, f 22, f 23, f 24, f 25, f 26, f 27, f 28, f 29, f 30, f 31, f 32, f 33, f 34, f 35, f 36, f 37, f 38, f 39, f 40, f 41, f 42, f 43, f 44, f 45, f 46, f 47, f 48, f 49, f 50, f 51, f 52, f 53, f 54, f 55, f 56, f 57, f 58, f 59, f 60, f 61, f 62, f 63, f 64, f 65, f 66, f 67, f 68, f 69, f 70, f 71, f 72, f 73, f 74, f 75, f 76, f 77, f 78, f 79, f 80, f 81, f 82, f 83, f 84, f 85, f 86, f 87, f 88, f 89, f 90, f 91, f 92, f 93, f 94, f 95, f 96, f 97, f 98, f 99, f 100, f 101, f 102, f 103, f 104, f 105, f 106, f 107, f 108, f 109, f 110, f 111, f 112, f 113, f 114], []⟩ ∧ ∀ i, f i = sl a i := fr_any h

theorem e0 (w : World) (g : Nat) (tick : Int) (a : Act) (hf : Fr 115 a) (h0 : sl a 0 = .pointer (some ⟨g, 0, none⟩)) (h1 : sl a 1 = .int .u64 tick) :
    Code.wp Try.prog (cAt [0] KDR) (Exit.then (fun a' w' => Fr 115 a' ∧ sl a' 0 = .pointer (some ⟨g, 0, none⟩) ∧ sl a' 1 = .int .u64 tick ∧ w = w') Nope) a w := by
  obtain ⟨f, ha, hs⟩ := frKDR hf
  rw [(hs 0).trans h0, (hs 1).trans h1] at ha
  clear hs hf h0 h1
  subst ha
  refine piece2 fun J0 K0 hJ0 hK0 => ?_
  conv => arg 2; whnf
  go_wp2_with fail
  refine Met.intro (hJ0 _ _ ?_)
  exact ⟨⟨rfl, rfl⟩, rfl, rfl, rfl⟩

theorem e1 (w : World) (g : Nat) (tick : Int) (a : Act) (hf : Fr 115 a) (h0 : sl a 0 = .pointer (some ⟨g, 0, none⟩)) (h1 : sl a 1 = .int .u64 tick) :
    Code.wp Try.prog (cAt [1,0] KDR) (Exit.then (fun a' w' => Fr 115 a' ∧ sl a' 0 = .pointer (some ⟨g, 0, none⟩) ∧ sl a' 1 = .int .u64 tick ∧ sl a' 5 = .slice none 0 0 ∧ w = w') Nope) a w := by
  obtain ⟨f, ha, hs⟩ := frKDR hf
  rw [(hs 0).trans h0, (hs 1).trans h1] at ha
  clear hs hf h0 h1
  subst ha
  refine piece2 fun J0 K0 hJ0 hK0 => ?_
  conv => arg 2; whnf
  go_wp2_with fail
  refine Met.intro (hJ0 _ _ ?_)
  exact ⟨⟨rfl, rfl⟩, rfl, rfl, rfl, rfl⟩

theorem e2 (w : World) (B g : Nat) (d : Ds) (tick : Int) (HD : Hid (Dw w B g d)) (a : Act) (hf : Fr 115 a) (h0 : sl a 0 = .pointer (some ⟨g, 0, none⟩)) (h1 : sl a 1 = .int .u64 tick) (h5 : sl a 5 = .slice none 0 0) :
    Code.wp Try.prog (cAt [1,1,0] KDR) (Exit.then (fun a' w' => Fr 115 a' ∧ sl a' 0 = .pointer (some ⟨g, 0, none⟩) ∧ sl a' 1 = .int .u64 (max tick d.T) ∧ sl a' 5 = .slice none 0 0 ∧ w = w') Nope) a w := by
  obtain ⟨f, ha, hs⟩ := frKDR hf
  rw [(hs 0).trans h0, (hs 1).trans h1, (hs 5).trans h5] at ha
  clear hs hf h0 h1 h5
  subst ha
  refine piece2 fun J0 K0 hJ0 hK0 => ?_
  conv => arg 2; whnf
  have t0 := HD.out.c0
  rcases Int.lt_or_le tick d.T with hlt | hle
  · have hm : max tick d.T = d.T := by omega
    rw [hm] at hJ0
    clear hm
    go_wp2_with fail
    refine Met.intro (hJ0 _ _ ?_)
    exact ⟨⟨rfl, rfl⟩, rfl, rfl, rfl, rfl⟩
  · have hm : max tick d.T = tick := by omega
    rw [hm] at hJ0
    clear hm
    go_wp2_with fail
    refine Met.intro (hJ0 _ _ ?_)
    exact ⟨⟨rfl, rfl⟩, rfl, rfl, rfl, rfl⟩

theorem e3 (w wr : World) (B g : Nat) (d : Ds) (v : Option Addr) (n cap : Nat) (os : List Ot) (tq : Int) (HR : Hid (Rdl w wr B g d v n cap os)) (ok : ∀ x ∈ d.ls, x.ab.ok d.T) (hn8 : d.n ≤ 8) (a : Act) (hf : Fr 115 a) (h0 : sl a 0 = .pointer (some ⟨g, 0, none⟩)) (h1 : sl a 1 = .int .u64 tq) (h5 : sl a 5 = .slice v n cap) :
    Code.wp Try.prog (cAt [1,1,1,2,2,2,0] KDR) (Exit.then (fun a' w' => Fr 115 a' ∧ sl a' 0 = .pointer (some ⟨g, 0, none⟩) ∧ sl a' 1 = .int .u64 tq ∧ sl a' 5 = .slice v n cap ∧ sl a' 6 = .int .u64 (nx d.T d.abs).t ∧ sl a' 7 = .int .i64 (clV (nx d.T d.abs)) ∧ Below wr.heap.size wr w') Nope) a wr := by
  obtain ⟨f, ha, hs⟩ := frKDR hf
  rw [(hs 0).trans h0, (hs 1).trans h1, (hs 5).trans h5] at ha
  clear hs hf h0 h1 h5
  subst ha
  refine piece2 fun J0 K0 hJ0 hK0 => ?_
  conv => arg 2; whnf
  have HOK := Lib.hid ok
  have HN := Lib.hid hn8
  clear ok hn8
  go_wp2_with fail
  refine (dnext_any B g d wr HR.out.dw HOK.out HN.out).mono ?_
  rintro e w1 ⟨rfl, hb⟩
  have HB := Lib.hid hb
  clear hb
  obtain ⟨zt, hzt⟩ : ∃ z, (nx d.T d.abs).t = z := ⟨_, rfl⟩
  obtain ⟨zc, hzc⟩ : ∃ z, clV (nx d.T d.abs) = z := ⟨_, rfl⟩
  rw [hzt, hzc] at hJ0 ⊢
  clear hzt hzc
  go_wp2_with fail
  refine Met.intro (hJ0 _ _ ?_)
  exact ⟨⟨rfl, rfl⟩, rfl, rfl, rfl, rfl, rfl, HB.out⟩

theorem e4 (wr : World) (g : Nat) (v : Option Addr) (n cap : Nat) (tq zt zc : Int) (a : Act) (hf : Fr 115 a) (h0 : sl a 0 = .pointer (some ⟨g, 0, none⟩)) (h1 : sl a 1 = .int .u64 tq) (h5 : sl a 5 = .slice v n cap) (h6 : sl a 6 = .int .u64 zt) (h7 : sl a 7 = .int .i64 zc) :
    Code.wp Try.prog (cAt [1,1,1,2,2,2,1,0,0] KDR) (Exit.then (fun a' w' => Fr 115 a' ∧ sl a' 0 = .pointer (some ⟨g, 0, none⟩) ∧ sl a' 1 = .int .u64 tq ∧ sl a' 5 = .slice v n cap ∧ sl a' 6 = .int .u64 zt ∧ sl a' 7 = .int .i64 zc ∧ sl a' 28 = .bool (decide (zc < 0 ∨ tq < zt)) ∧ wr = w') Nope) a wr := by
  obtain ⟨f, ha, hs⟩ := frKDR hf
  rw [(hs 0).trans h0, (hs 1).trans h1, (hs 5).trans h5, (hs 6).trans h6, (hs 7).trans h7] at ha
  clear hs hf h0 h1 h5 h6 h7
  subst ha
  refine piece2 fun J0 K0 hJ0 hK0 => ?_
  conv => arg 2; whnf
  by_cases h0 : zc < 0
  · have hd : decide (zc < 0 ∨ tq < zt) = true := decide_eq_true (.inl h0)
    rw [hd] at hJ0
    clear hd
    go_wp2_with fail
    refine Met.intro (hJ0 _ _ ?_)
    exact ⟨⟨rfl, rfl⟩, rfl, rfl, rfl, rfl, rfl, rfl, rfl⟩
  · by_cases h1 : tq < zt
    · have hd : decide (zc < 0 ∨ tq < zt) = true := decide_eq_true (.inr h1)
      rw [hd] at hJ0
      clear hd
      go_wp2_with fail
      refine Met.intro (hJ0 _ _ ?_)
      exact ⟨⟨rfl, rfl⟩, rfl, rfl, rfl, rfl, rfl, rfl, rfl⟩
    · have hd : decide (zc < 0 ∨ tq < zt) = false := decide_eq_false (by omega)
      rw [hd] at hJ0
      clear hd
      go_wp2_with fail
      refine Met.intro (hJ0 _ _ ?_)
      exact ⟨⟨rfl, rfl⟩, rfl, rfl, rfl, rfl, rfl, rfl, rfl⟩

theorem e5 (wr : World) (B g : Nat) (d : Ds) (v : Option Addr) (n cap : Nat) (tq : Int) (HD : Hid (Dw wr B g d)) (R : Ending → World → Prop) (HR : R (.returned (.slice v n cap)) (wr.setCell ⟨g, 0, none⟩ (.int .u64 tq))) (a : Act) (hf : Fr 115 a) (h0 : sl a 0 = .pointer (some ⟨g, 0, none⟩)) (h1 : sl a 1 = .int .u64 tq) (h5 : sl a 5 = .slice v n cap) :
    Code.wp Try.prog (cAt [1,1,1,2,2,2,1,0,1,3] KDR) (RetsV Try.f36 R) a wr := by
  have H := Lib.hid HR
  have t0 := HD.out.c0
  have f0 : wr.frozen? ⟨g, 0, none⟩ = false := frozen_of_row wr g 0 _ _ HD.out.row
  clear HR
  obtain ⟨f, ha, hs⟩ := frKDR hf
  rw [(hs 0).trans h0, (hs 1).trans h1, (hs 5).trans h5] at ha
  clear hs hf h0 h1 h5
  subst ha
  conv => arg 2; whnf
  go_wp2_with fail
  refine ⟨rfl, ?_⟩
  go_ret
  exact H.out

theorem e7 (wr : World) (B g : Nat) (d : Ds) (v : Option Addr) (n cap : Nat) (tq zt zc : Int) (HD : Hid (Dw wr B g d)) (a : Act) (hf : Fr 115 a) (h0 : sl a 0 = .pointer (some ⟨g, 0, none⟩)) (h1 : sl a 1 = .int .u64 tq) (h5 : sl a 5 = .slice v n cap) (h6 : sl a 6 = .int .u64 zt) (h7 : sl a 7 = .int .i64 zc) :
    Code.wp Try.prog (cAt [1,1,1,2,2,2,1,1,0] KDR) (Exit.then (fun a' w' => Fr 115 a' ∧ sl a' 0 = .pointer (some ⟨g, 0, none⟩) ∧ sl a' 1 = .int .u64 tq ∧ sl a' 5 = .slice v n cap ∧ sl a' 6 = .int .u64 zt ∧ sl a' 7 = .int .i64 zc ∧ wr.setCell ⟨g, 0, none⟩ (.int .u64 zt) = w') Nope) a wr := by
  obtain ⟨f, ha, hs⟩ := frKDR hf
  rw [(hs 0).trans h0, (hs 1).trans h1, (hs 5).trans h5, (hs 6).trans h6, (hs 7).trans h7] at ha
  clear hs hf h0 h1 h5 h6 h7
  subst ha
  refine piece2 fun J0 K0 hJ0 hK0 => ?_
  conv => arg 2; whnf
  have t0 := HD.out.c0
  have f0 : wr.frozen? ⟨g, 0, none⟩ = false := frozen_of_row wr g 0 _ _ HD.out.row
  go_wp2_with fail
  refine Met.intro (hJ0 _ _ ?_)
  exact ⟨⟨rfl, rfl⟩, rfl, rfl, rfl, rfl, rfl, rfl⟩

theorem e8 (wr : World) (B g i : Nat) (d : Ds) (y : Dl) (v : Option Addr) (n cap : Nat) (tq zt : Int) (HD : Hid (Dw wr B g d)) (hy : d.ls[i]? = some y) (hlt : i < d.n) (hn8 : d.n ≤ 8) (h6 : y.ab.A.l.length ≤ 65536) (a : Act) (hf : Fr 115 a) (h0 : sl a 0 = .pointer (some ⟨g, 0, none⟩)) (h1 : sl a 1 = .int .u64 tq) (h5 : sl a 5 = .slice v n cap) (h6 : sl a 6 = .int .u64 zt) (h7 : sl a 7 = .int .i64 (i : Int)) :
    Code.wp Try.prog (cAt [1,1,1,2,2,2,1,1,1,0] KDR) (Exit.then (fun a' w' => ∃ (bn px : Nat) (a1 : Option Addr) (n1 c1 : Nat), Fr 115 a' ∧ sl a' 0 = .pointer (some ⟨g, 0, none⟩) ∧ sl a' 1 = .int .u64 tq ∧ sl a' 5 = .slice v n cap ∧ sl a' 6 = .int .u64 zt ∧ sl a' 7 = .int .i64 (i : Int) ∧ sl a' 8 = .pointer (some ⟨bn, 0, none⟩) ∧ sl a' 9 = .pointer (some ⟨px, 0, none⟩) ∧ Below wr.heap.size wr w' ∧ w'.heap[bn]? = some (.cells #[.slice a1 n1 c1, .int .i64 y.ab.A.pop.I, .int .i64 y.ab.A.pop.S, .int .u64 y.ab.A.pop.D] 96 (0, 0)) ∧ w'.heap[px]? = some (.cells y.ab.A.hd.cs.toArray 63 (0, 0)) ∧ Rt w' a1 n1 y.ab.A.pop.l ∧ n1 ≤ c1) Nope) a wr := by
  obtain ⟨f, ha, hs⟩ := frKDR hf
  rw [(hs 0).trans h0, (hs 1).trans h1, (hs 5).trans h5, (hs 6).trans h6, (hs 7).trans h7] at ha
  clear hs hf h0 h1 h5 h6 h7
  subst ha
  refine piece2 fun J0 K0 hJ0 hK0 => ?_
  conv => arg 2; whnf
  have HY := Lib.hid hy
  obtain ⟨rq, hvq, hrq, _⟩ := HD.out.qs.nth Dl.ql (by decide) hy
  have t2 := HD.out.c2
  rw [hvq] at t2
  have c0 : wr.cell? ⟨rq, i * 4, none⟩ = some (.slice y.a y.n y.c) := hrq 0 _ rfl
  have c1 : wr.cell? ⟨rq, i * 4 + 1, none⟩ = some (.int .i64 y.ab.A.I) := hrq 1 _ rfl
  have c2 : wr.cell? ⟨rq, i * 4 + 2, none⟩ = some (.int .i64 y.ab.A.S) := hrq 2 _ rfl
  have c3 : wr.cell? ⟨rq, i * 4 + 3, none⟩ = some (.int .u64 y.ab.A.D) := hrq 3 _ rfl
  have hlt2 : (i : Int) < (d.n : Int) := by omega
  have hi0 : (0 : Int) ≤ (i : Int) := by omega
  have hck : (i : Int) < 1000 := by omega
  have HIT := Lib.hid (HD.out.its y (List.mem_of_getElem? hy))
  have HLEN : Hid (y.n ≤ 65536) := by
    have h1 := HIT.out.1.len
    show _ ≤ _
    omega
  have HCALL : Hid (Calls Try.prog 48 #[.agg #[.slice y.a y.n y.c, .int .i64 y.ab.A.I, .int .i64 y.ab.A.S, .int .u64 y.ab.A.D]] wr (RPopR wr y.ab.A)) := rPop_any y.a y.n y.c y.ab.A wr HIT.out.1 HIT.out.2 HLEN.out
  clear hvq hrq hy hlt hn8 h6
  go_wp2_with fail
  refine HCALL.out.mono ?_
  rintro e w1 ⟨hb1, a1, n1, c1', rfl, hr1, hc1⟩
  obtain ⟨hno, hsz, hs, hhd⟩ : ∃ (hno hsz : Int) (hs : ByteArray), y.ab.A.hd.v = .agg #[.int .u64 hno, .int .i64 hsz, .string hs] ∧ y.ab.A.hd.cs.toArray = #[.int .u64 hno, .int .i64 hsz, .string hs] := ⟨y.ab.A.hd.no, y.ab.A.hd.sz, str y.ab.A.hd.d, rfl, rfl⟩
  have hq : rqv a1 n1 c1' y.ab.A.pop = .agg #[.slice a1 n1 c1', .int .i64 y.ab.A.I, .int .i64 y.ab.A.S, .int .u64 y.ab.A.D] := rfl
  obtain ⟨hbo, hbq2⟩ : ∃ z, y.ab.A.has = z := ⟨_, rfl⟩
  rw [hhd.1, hq, hbq2]
  clear hbq2
  have hal : Below w1.heap.size w1 ((w1.alloc (.cells #[.slice a1 n1 c1', .int .i64 y.ab.A.I, .int .i64 y.ab.A.S, .int .u64 y.ab.A.D] 96)).alloc (.cells #[.int .u64 hno, .int .i64 hsz, .string hs] 63)) := ((Below.refl _ _).alloc (Nat.le_refl _) _).alloc (by simp) _
  have hbx : ((w1.alloc (.cells #[.slice a1 n1 c1', .int .i64 y.ab.A.I, .int .i64 y.ab.A.S, .int .u64 y.ab.A.D] 96)).alloc (.cells #[.int .u64 hno, .int .i64 hsz, .string hs] 63)).heap[w1.heap.size + 1]? = some (.cells #[.int .u64 hno, .int .i64 hsz, .string hs] 63 (0, 0)) := by
    have := Blk_new (w1.alloc (.cells #[.slice a1 n1 c1', .int .i64 y.ab.A.I, .int .i64 y.ab.A.S, .int .u64 y.ab.A.D] 96)) #[.int .u64 hno, .int .i64 hsz, .string hs] 63
    simpa using this
  have hbq : ((w1.alloc (.cells #[.slice a1 n1 c1', .int .i64 y.ab.A.I, .int .i64 y.ab.A.S, .int .u64 y.ab.A.D] 96)).alloc (.cells #[.int .u64 hno, .int .i64 hsz, .string hs] 63)).heap[w1.heap.size]? = some (.cells #[.slice a1 n1 c1', .int .i64 y.ab.A.I, .int .i64 y.ab.A.S, .int .u64 y.ab.A.D] 96 (0, 0)) := by
    have h1 := Blk_new w1 #[.slice a1 n1 c1', .int .i64 y.ab.A.I, .int .i64 y.ab.A.S, .int .u64 y.ab.A.D] 96
    exact ((show Below (w1.alloc (.cells #[.slice a1 n1 c1', .int .i64 y.ab.A.I, .int .i64 y.ab.A.S, .int .u64 y.ab.A.D] 96)).heap.size (w1.alloc (.cells #[.slice a1 n1 c1', .int .i64 y.ab.A.I, .int .i64 y.ab.A.S, .int .u64 y.ab.A.D] 96)) _ from (Below.refl _ _).alloc (Nat.le_refl _) _).block _ (Array.getElem?_eq_some_iff.1 h1).1).trans h1
  rw [← hhd.2] at hbx
  have H1 : Hid (Below wr.heap.size wr ((w1.alloc (.cells #[.slice a1 n1 c1', .int .i64 y.ab.A.I, .int .i64 y.ab.A.S, .int .u64 y.ab.A.D] 96)).alloc (.cells #[.int .u64 hno, .int .i64 hsz, .string hs] 63)) ∧ ((w1.alloc (.cells #[.slice a1 n1 c1', .int .i64 y.ab.A.I, .int .i64 y.ab.A.S, .int .u64 y.ab.A.D] 96)).alloc (.cells #[.int .u64 hno, .int .i64 hsz, .string hs] 63)).heap[w1.heap.size]? = some (.cells #[.slice a1 n1 c1', .int .i64 y.ab.A.pop.I, .int .i64 y.ab.A.pop.S, .int .u64 y.ab.A.pop.D] 96 (0, 0)) ∧ ((w1.alloc (.cells #[.slice a1 n1 c1', .int .i64 y.ab.A.I, .int .i64 y.ab.A.S, .int .u64 y.ab.A.D] 96)).alloc (.cells #[.int .u64 hno, .int .i64 hsz, .string hs] 63)).heap[w1.heap.size + 1]? = some (.cells y.ab.A.hd.cs.toArray 63 (0, 0)) ∧ Rt ((w1.alloc (.cells #[.slice a1 n1 c1', .int .i64 y.ab.A.I, .int .i64 y.ab.A.S, .int .u64 y.ab.A.D] 96)).alloc (.cells #[.int .u64 hno, .int .i64 hsz, .string hs] 63)) a1 n1 y.ab.A.pop.l ∧ n1 ≤ c1') :=
    ⟨hb1.trans (hal.mono hb1.size), hbq, by rw [← hhd.2]; exact hbx, hr1.below hal, hc1⟩
  clear hal hbx hb1 hq hhd hbq hr1 hc1 c0 c1 c2 c3 t2 HCALL
  go_wp2_with fail
  refine Met.intro (hJ0 _ _ ?_)
  exact ⟨w1.heap.size, w1.heap.size + 1, a1, n1, c1', ⟨rfl, rfl⟩, rfl, rfl, rfl, rfl, rfl, rfl, rfl, H1.out⟩

theorem e9 (w wr : World) (B g i px : Nat) (d : Ds) (y : Dl) (x : It) (v : Option Addr) (n cap : Nat) (tq zt : Int) (HO : Hid (Od w wr B g i px d y x)) (A : Aq) (bn : Nat) (a1 : Option Addr) (n1 c1 : Nat) (HN : Hid (wr.heap[bn]? = some (.cells #[.slice a1 n1 c1, .int .i64 A.I, .int .i64 A.S, .int .u64 A.D] 96 (0, 0)) ∧ Rt wr a1 n1 A.l ∧ n1 ≤ c1)) (a : Act) (hf : Fr 115 a) (h0 : sl a 0 = .pointer (some ⟨g, 0, none⟩)) (h1 : sl a 1 = .int .u64 tq) (h5 : sl a 5 = .slice v n cap) (h6 : sl a 6 = .int .u64 zt) (h7 : sl a 7 = .int .i64 (i : Int)) (h8 : sl a 8 = .pointer (some ⟨bn, 0, none⟩)) (h9 : sl a 9 = .pointer (some ⟨px, 0, none⟩)) :
    Code.wp Try.prog (cAt [1,1,1,2,2,2,1,1,1,1,0] KDR) (Exit.then (fun a' w' => Fr 115 a' ∧ sl a' 0 = .pointer (some ⟨g, 0, none⟩) ∧ sl a' 1 = .int .u64 tq ∧ sl a' 5 = .slice v n cap ∧ sl a' 6 = .int .u64 zt ∧ sl a' 7 = .int .i64 (i : Int) ∧ sl a' 9 = .pointer (some ⟨px, 0, none⟩) ∧ Ofx w w' B g i px d y (y.queued A a1 n1 c1) x) Nope) a wr := by
  obtain ⟨f, ha, hs⟩ := frKDR hf
  rw [(hs 0).trans h0, (hs 1).trans h1, (hs 5).trans h5, (hs 6).trans h6, (hs 7).trans h7, (hs 8).trans h8, (hs 9).trans h9] at ha
  clear hs hf h0 h1 h5 h6 h7 h8 h9
  subst ha
  refine piece2 fun J0 K0 hJ0 hK0 => ?_
  conv => arg 2; whnf
  obtain ⟨rq, hvq, hrq, hth⟩ := HO.out.dw.qs.nth Dl.ql (by decide) HO.out.hy
  have c2 := HO.out.dw.c2
  rw [hvq] at c2
  have hst : Ofx w (wr.drew.setCells rq (i * 4) [.slice a1 n1 c1, .int .i64 A.I, .int .i64 A.S, .int .u64 A.D]) B g i px d y (y.queued A a1 n1 c1) x := by
    have hdr : Below wr.heap.size wr wr.drew := (Below.refl _ _).drew
    have hD := HO.out.dw.below hdr
    have hk : Kept (fun k => k = rq) wr.drew (wr.drew.setCells rq (i * 4) [.slice a1 n1 c1, .int .i64 A.I, .int .i64 A.S, .int .u64 A.D]) := Kept.setCells (S := fun k => k = rq) rq rfl _ _ (Kept.refl _ _)
    have h1 := hD.qs
    rw [hvq] at h1
    have h2 := h1.put Dl.ql (i := i) (by rw [HO.out.dw.len]; exact HO.out.lt) (y.queued A a1 n1 c1)
    have hfr : ∀ k, k = rq → d.foot g k := fun k e => .inr (.inr (.inl (by rw [e, hvq]; rfl)))
    refine ⟨⟨hD.queue HO.out.hy hvq rfl rfl (by rw [hvq]; exact h2) hk ⟨HN.out.2.1.below hdr, HN.out.2.2⟩, HO.out.hy, ?_, HO.out.lt, HO.out.n8⟩, hk.heap (show wr.drew.heap[px]? = _ from HO.out.row) (fun e => hD.ne (show wr.drew.heap[px]? = _ from HO.out.row) (hfr _ e))⟩
    have k0 : Kept (d.foot g) w wr := Kept.of_below HO.out.below (fun i hi hi' => by omega)
    have k1 : Kept (d.foot g) wr wr.drew := Kept.of_below hdr (fun i hi hi' => by omega)
    exact (k0.trans k1 (fun _ _ e => e)).trans hk (fun k _ e => hfr k e)
  have H4 : Hid (Ofx w (wr.drew.setCells rq (i * 4) [.slice a1 n1 c1, .int .i64 A.I, .int .i64 A.S, .int .u64 A.D]) B g i px d y (y.queued A a1 n1 c1) x) := hst
  have HVQ := Lib.hid hvq
  have HTH : Hid (wr.there rq (i * 4) 4) := hth
  have HS0 : Hid (wr.cell? ⟨g, 2, none⟩ = some (.slice (some ⟨rq, 0, none⟩) d.n d.cq)) := c2
  have hlt2 : (i : Int) < (d.n : Int) := by have := HO.out.lt; omega
  have hi0 : (0 : Int) ≤ (i : Int) := by omega
  have hck : (i : Int) < 1000 := by have := HO.out.n8; have := HO.out.lt; omega
  clear hvq hrq hth c2 hst
  go_wp2_with fail
  have HS : Hid (wr.drew.cell? ⟨g, 2, none⟩ = some (.slice (some ⟨rq, 0, none⟩) d.n d.cq)) := HS0.out
  refine wp_region_held_drew (S := fun w' => w'.cell? ⟨g, 2, none⟩ = some (.slice (some ⟨rq, 0, none⟩) d.n d.cq)) (by kernel_rfl) HS.out (fun hS => ?_)
  refine tkD 0 50 (.pointer (some ⟨g, 0, none⟩)) (fun w' h' => ?_) hS ?_
  · go_simp
  refine tkD 1 51 (.pointer (some ⟨g, 0, none⟩)) (fun w' h' => ?_) hS ?_
  · go_simp
  try simp only [Act.put, List.setIfInBounds_toArray, List.set_cons_zero, List.set_cons_succ]
  refine tkD 2 52 (.pointer (some ⟨g, 2, none⟩)) (fun w' h' => ?_) hS ?_
  · go_simp
  refine tkD 3 53 (.slice (some ⟨rq, 0, none⟩) (d.n) (d.cq)) (fun w' h' => ?_) hS ?_
  · have c2 := h'
    go_simp
  try simp only [Act.put, List.setIfInBounds_toArray, List.set_cons_zero, List.set_cons_succ]
  refine tkD 4 54 (.int .i64 (i : Int)) (fun w' h' => ?_) hS ?_
  · go_simp
  have b0 : wr.drew.cell? ⟨bn, 0, none⟩ = some (.slice a1 n1 c1) := q4_0 HN.out.1
  have b1 : wr.drew.cell? ⟨bn, 1, none⟩ = some (.int .i64 A.I) := q4_1 HN.out.1
  have b2 : wr.drew.cell? ⟨bn, 2, none⟩ = some (.int .i64 A.S) := q4_2 HN.out.1
  have b3 : wr.drew.cell? ⟨bn, 3, none⟩ = some (.int .u64 A.D) := q4_3 HN.out.1
  try simp only [Act.put, List.setIfInBounds_toArray, List.set_cons_zero, List.set_cons_succ]
  refine wpAnyH_ready (rs := [5]) (by kernel_rfl) (by simp) (AllReadyH.cons rfl (fun K hK => ?_) AllReadyH.nil)
  rw [if_pos (by rfl)]
  go_wp2_with fail
  clear b0 b1 b2 b3
  clear hS
  refine hK.out _ _ (HS.out) (fun hS => ?_)
  clear hK K
  refine tkD 6 56 (.pointer (some ⟨rq, i * 4, none⟩)) (fun w' h' => ?_) hS ?_
  · go_simp
  try simp only [Act.put, List.setIfInBounds_toArray, List.set_cons_zero, List.set_cons_succ]
  refine wpAnyH_ready (rs := [7]) (by kernel_rfl) (by simp) (AllReadyH.cons rfl (fun K hK => ?_) AllReadyH.nil)
  rw [if_pos (by rfl)]
  refine wp_store_mid 96 (.tmp 56) (.tmp 55) rfl rq (i * 4) #[.slice a1 n1 c1, .int .i64 A.I, .int .i64 A.S, .int .u64 A.D] rfl rfl (show wr.there rq (i * 4) 4 from HTH.out) infQ4 (by simp [Value.oneCell']) ?_
  change K _ (wr.drew.setCells rq (i * 4) [.slice a1 n1 c1, .int .i64 A.I, .int .i64 A.S, .int .u64 A.D])
  obtain ⟨w9, hw⟩ : ∃ z, wr.drew.setCells rq (i * 4) [.slice a1 n1 c1, .int .i64 A.I, .int .i64 A.S, .int .u64 A.D] = z := ⟨_, rfl⟩
  rw [hw] at H4 ⊢
  clear hw
  have hv9 := H4.out.oe.dw.c2
  simp only at hv9
  rw [HVQ.out] at hv9
  clear hS
  refine hK.out _ _ (hv9) (fun hS => ?_)
  clear hK K
  refine wpAnyH_done (by kernel_rfl) ?_ _
  go_wp2_with fail
  refine Met.intro (hJ0 _ _ ?_)
  exact ⟨⟨rfl, rfl⟩, rfl, rfl, rfl, rfl, rfl, rfl, H4.out⟩

theorem e10 (w wr : World) (B g i px : Nat) (d : Ds) (y z : Dl) (no sz : Int) (xd : List Int) (v : Option Addr) (n cap : Nat) (tq zt : Int) (HF : Hid (Ofx w wr B g i px d y z ⟨no, sz, xd⟩)) (hbk : z.ab.b.ok) (zt0 : 0 ≤ zt) (zt1 : zt ≤ 18446744073709551615) (sz0 : 0 ≤ sz) (sz1 : sz ≤ 9223372036854775807) (a : Act) (hf : Fr 115 a) (h0 : sl a 0 = .pointer (some ⟨g, 0, none⟩)) (h1 : sl a 1 = .int .u64 tq) (h5 : sl a 5 = .slice v n cap) (h6 : sl a 6 = .int .u64 zt) (h7 : sl a 7 = .int .i64 (i : Int)) (h9 : sl a 9 = .pointer (some ⟨px, 0, none⟩)) :
    Code.wp Try.prog (cAt [1,1,1,2,2,2,1,1,1,1,1,0] KDR) (Exit.then (fun a' w' => Fr 115 a' ∧ sl a' 0 = .pointer (some ⟨g, 0, none⟩) ∧ sl a' 1 = .int .u64 tq ∧ sl a' 5 = .slice v n cap ∧ sl a' 6 = .int .u64 zt ∧ sl a' 7 = .int .i64 (i : Int) ∧ sl a' 9 = .pointer (some ⟨px, 0, none⟩) ∧ Ofx w w' B g i px d y (z.tookd zt sz) ⟨no, sz, xd⟩) Nope) a wr := by
  obtain ⟨f, ha, hs⟩ := frKDR hf
  rw [(hs 0).trans h0, (hs 1).trans h1, (hs 5).trans h5, (hs 6).trans h6, (hs 7).trans h7, (hs 9).trans h9] at ha
  clear hs hf h0 h1 h5 h6 h7 h9
  subst ha
  refine piece2 fun J0 K0 hJ0 hK0 => ?_
  conv => arg 2; whnf
  have hat := HF.out.oe.at_
  obtain ⟨rb, hvb, hrb, hth⟩ := HF.out.oe.dw.bs.nth Dl.bl (by decide) hat
  simp only at hvb
  have c1 := HF.out.oe.dw.c1
  simp only at c1
  rw [hvb] at c1
  have HAT : Hid ((d.ls.set i z)[i]? = some z ∧ d.vb = some ⟨rb, 0, none⟩ ∧ wr.there rb (i * 4) 4) := ⟨hat, hvb, hth⟩
  have HS0 : Hid (wr.cell? ⟨g, 1, none⟩ = some (.slice (some ⟨rb, 0, none⟩) d.n d.cb) ∧ wr.cell? ⟨px, 1, none⟩ = some (.int .i64 sz)) := ⟨c1, It.k1 HF.out.row⟩
  have HRB : Hid (wr.rangeAt rb (i * 4) z.bv) := hrb
  have HCALL : Hid (∀ W : World, Calls Try.prog 49 #[.agg #[.int .u64 z.ab.b.r, .int .u64 z.ab.b.B, .int .u64 z.ab.b.T, .int .u64 z.ab.b.K], .int .u64 zt, .int .u64 sz] W (Gives W (.tuple #[.agg (z.ab.b.took zt sz).cs.toArray, .bool (decide (sz ≤ (z.ab.b.fill zt).K))]))) := fun W => rTake_any z.ab.b zt sz W hbk zt0 zt1 sz0
  have hwz : IntKind.u64.wrap sz = sz := by rw [IntKind.wrap_u64]; omega
  have hsz2 : sz ≤ 9223372036854775807 := sz1
  have hlt2 : (i : Int) < (d.n : Int) := by have := HF.out.oe.lt; omega
  have hi0 : (0 : Int) ≤ (i : Int) := by omega
  have hck : (i : Int) < 1000 := by have := HF.out.oe.n8; have := HF.out.oe.lt; omega
  clear hat hvb hrb hth c1 zt0 zt1 sz1 hbk
  go_wp2_with fail
  have H0 : Hid (Below wr.heap.size wr wr.drew) := (Below.refl _ _).drew
  have HS : Hid (wr.drew.cell? ⟨g, 1, none⟩ = some (.slice (some ⟨rb, 0, none⟩) d.n d.cb) ∧ wr.drew.cell? ⟨px, 1, none⟩ = some (.int .i64 sz)) := HS0.out
  refine wp_region_held_drew (S := fun w' => w'.cell? ⟨g, 1, none⟩ = some (.slice (some ⟨rb, 0, none⟩) d.n d.cb) ∧ w'.cell? ⟨px, 1, none⟩ = some (.int .i64 sz)) (by kernel_rfl) HS.out (fun hS => ?_)
  refine tkD 0 58 (.pointer (some ⟨g, 0, none⟩)) (fun w' h' => ?_) hS ?_
  · go_simp
  refine tkD 1 59 (.pointer (some ⟨g, 0, none⟩)) (fun w' h' => ?_) hS ?_
  · go_simp
  try simp only [Act.put, List.setIfInBounds_toArray, List.set_cons_zero, List.set_cons_succ]
  refine tkD 2 60 (.pointer (some ⟨g, 1, none⟩)) (fun w' h' => ?_) hS ?_
  · go_simp
  refine tkD 3 61 (.slice (some ⟨rb, 0, none⟩) (d.n) (d.cb)) (fun w' h' => ?_) hS ?_
  · have c1 := h'.1
    go_simp
  try simp only [Act.put, List.setIfInBounds_toArray, List.set_cons_zero, List.set_cons_succ]
  refine tkD 4 62 (.int .i64 (i : Int)) (fun w' h' => ?_) hS ?_
  · go_simp
  refine tkD 5 63 (.pointer (some ⟨g, 0, none⟩)) (fun w' h' => ?_) hS ?_
  · go_simp
  try simp only [Act.put, List.setIfInBounds_toArray, List.set_cons_zero, List.set_cons_succ]
  refine tkD 6 64 (.pointer (some ⟨g, 0, none⟩)) (fun w' h' => ?_) hS ?_
  · go_simp
  refine tkD 7 65 (.pointer (some ⟨g, 1, none⟩)) (fun w' h' => ?_) hS ?_
  · go_simp
  try simp only [Act.put, List.setIfInBounds_toArray, List.set_cons_zero, List.set_cons_succ]
  refine tkD 8 66 (.slice (some ⟨rb, 0, none⟩) (d.n) (d.cb)) (fun w' h' => ?_) hS ?_
  · have c1 := h'.1
    go_simp
  refine tkD 9 67 (.int .i64 (i : Int)) (fun w' h' => ?_) hS ?_
  · go_simp
  try simp only [Act.put, List.setIfInBounds_toArray, List.set_cons_zero, List.set_cons_succ]
  refine tkD 10 68 (.pointer (some ⟨rb, i * 4, none⟩)) (fun w' h' => ?_) hS ?_
  · go_simp
  refine tkD 12 70 (.int .u64 zt) (fun w' h' => ?_) hS ?_
  · go_simp
  try simp only [Act.put, List.setIfInBounds_toArray, List.set_cons_zero, List.set_cons_succ]
  refine tkD 13 71 (.pointer (some ⟨px, 1, none⟩)) (fun w' h' => ?_) hS ?_
  · go_simp
  refine tkD 14 72 (.int .i64 sz) (fun w' h' => ?_) hS ?_
  · have c1 := h'.2
    go_simp
  try simp only [Act.put, List.setIfInBounds_toArray, List.set_cons_zero, List.set_cons_succ]
  refine tkD 15 73 (.int .u64 sz) (fun w' h' => ?_) hS ?_
  · go_simp
  have b0 : wr.drew.cell? ⟨rb, i * 4, none⟩ = some (.int .u64 z.ab.b.r) := HRB.out 0 _ rfl
  have b1 : wr.drew.cell? ⟨rb, i * 4 + 1, none⟩ = some (.int .u64 z.ab.b.B) := HRB.out 1 _ rfl
  have b2 : wr.drew.cell? ⟨rb, i * 4 + 2, none⟩ = some (.int .u64 z.ab.b.T) := HRB.out 2 _ rfl
  have b3 : wr.drew.cell? ⟨rb, i * 4 + 3, none⟩ = some (.int .u64 z.ab.b.K) := HRB.out 3 _ rfl
  try simp only [Act.put, List.setIfInBounds_toArray, List.set_cons_zero, List.set_cons_succ]
  refine wpAnyH_ready (rs := [11]) (by kernel_rfl) (by simp) (AllReadyH.cons rfl (fun K hK => ?_) AllReadyH.nil)
  rw [if_pos (by rfl)]
  go_wp2_with fail
  clear b0 b1 b2 b3
  clear hS
  refine hK.out _ _ (HS.out) (fun hS => ?_)
  clear hK K
  try simp only [Act.put, List.setIfInBounds_toArray, List.set_cons_zero, List.set_cons_succ]
  refine wpAnyH_ready (rs := [16]) (by kernel_rfl) (by simp) (AllReadyH.cons rfl (fun K hK => ?_) AllReadyH.nil)
  rw [if_pos (by rfl)]
  go_wp2_with fail
  refine (HCALL.out _).mono ?_
  rintro e w2 ⟨rfl, hb2⟩
  rw [show (z.ab.b.took zt sz).cs.toArray = #[.int .u64 (z.ab.b.took zt sz).r, .int .u64 (z.ab.b.took zt sz).B, .int .u64 (z.ab.b.took zt sz).T, .int .u64 (z.ab.b.took zt sz).K] from rfl]
  obtain ⟨bo, hbo⟩ : ∃ b, decide (sz ≤ (z.ab.b.fill zt).K) = b := ⟨_, rfl⟩
  rw [hbo]
  have H2 : Hid (Below wr.heap.size wr w2) := H0.out.trans (hb2.mono H0.out.size)
  clear hb2 hbo
  clear hS
  refine hK.out _ _ (⟨cell_kept H2.out HS0.out.1, cell_kept H2.out HS0.out.2⟩) (fun hS => ?_)
  clear hK K
  refine tkD 17 57 (.tuple #[.agg #[.int .u64 (z.ab.b.took zt sz).r, .int .u64 (z.ab.b.took zt sz).B, .int .u64 (z.ab.b.took zt sz).T, .int .u64 (z.ab.b.took zt sz).K], .bool bo]) (fun w' h' => ?_) hS ?_
  · go_simp
  try simp only [Act.put, List.setIfInBounds_toArray, List.set_cons_zero, List.set_cons_succ]
  refine tkD 18 75 (.agg #[.int .u64 (z.ab.b.took zt sz).r, .int .u64 (z.ab.b.took zt sz).B, .int .u64 (z.ab.b.took zt sz).T, .int .u64 (z.ab.b.took zt sz).K]) (fun w' h' => ?_) hS ?_
  · go_simp
  refine tkD 19 76 (.bool bo) (fun w' h' => ?_) hS ?_
  · go_simp
  try simp only [Act.put, List.setIfInBounds_toArray, List.set_cons_zero, List.set_cons_succ]
  refine tkD 20 77 (.pointer (some ⟨rb, i * 4, none⟩)) (fun w' h' => ?_) hS ?_
  · go_simp
  have hst : Ofx w (w2.setCells rb (i * 4) [.int .u64 (z.ab.b.took zt sz).r, .int .u64 (z.ab.b.took zt sz).B, .int .u64 (z.ab.b.took zt sz).T, .int .u64 (z.ab.b.took zt sz).K]) B g i px d y (z.tookd zt sz) ⟨no, sz, xd⟩ := by
    have hD := HF.out.oe.dw.below H2.out
    have hk : Kept (fun k => k = rb) w2 (w2.setCells rb (i * 4) [.int .u64 (z.ab.b.took zt sz).r, .int .u64 (z.ab.b.took zt sz).B, .int .u64 (z.ab.b.took zt sz).T, .int .u64 (z.ab.b.took zt sz).K]) := Kept.setCells (S := fun k => k = rb) rb rfl _ _ (Kept.refl _ _)
    have h1 := hD.bs
    simp only at h1
    rw [HAT.out.2.1] at h1
    have hle := List.getElem?_eq_some_iff.1 HAT.out.1
    have h2 := h1.put Dl.bl (i := i) hle.1 (z.tookd zt sz)
    have h3 := hD.buck (d := { d with ls := d.ls.set i z }) (y := z.tookd zt sz) HAT.out.1 HAT.out.2.1 rfl rfl rfl ⟨rfl, rfl, rfl⟩ (by rw [HAT.out.2.1]; exact h2) hk
    simp only [List.set_set] at h3
    have hfr : ∀ k, k = rb → d.foot g k := fun k e => .inr (.inl (by rw [e, HAT.out.2.1]; rfl))
    have hr2 : w2.heap[px]? = some (.cells (It.cs ⟨no, sz, xd⟩).toArray 63 (0, 0)) := (H2.out.block _ (Array.getElem?_eq_some_iff.1 HF.out.row).1).trans HF.out.row
    have k1 : Kept (d.foot g) wr w2 := Kept.of_below H2.out (fun i hi hi' => by omega)
    exact ⟨⟨h3, HF.out.oe.hy, (HF.out.oe.kept.trans k1 (fun _ _ e => e)).trans hk (fun k _ e => hfr k e), HF.out.oe.lt, HF.out.oe.n8⟩, hk.heap hr2 (fun e => hD.ne hr2 (hfr _ e))⟩
  have H4 : Hid (Ofx w (w2.setCells rb (i * 4) [.int .u64 (z.ab.b.took zt sz).r, .int .u64 (z.ab.b.took zt sz).B, .int .u64 (z.ab.b.took zt sz).T, .int .u64 (z.ab.b.took zt sz).K]) B g i px d y (z.tookd zt sz) ⟨no, sz, xd⟩) := hst
  have HTH : Hid (w2.there rb (i * 4) 4) := by
    obtain ⟨rb2, e2, _, th2⟩ := (HF.out.oe.dw.below H2.out).bs.nth Dl.bl (by decide) HAT.out.1
    simp only at e2
    rw [HAT.out.2.1] at e2
    cases e2
    exact th2
  clear hst
  try simp only [Act.put, List.setIfInBounds_toArray, List.set_cons_zero, List.set_cons_succ]
  refine wpAnyH_ready (rs := [21]) (by kernel_rfl) (by simp) (AllReadyH.cons rfl (fun K hK => ?_) AllReadyH.nil)
  rw [if_pos (by rfl)]
  refine wp_store_mid 101 (.tmp 77) (.tmp 75) rfl rb (i * 4) #[.int .u64 (z.ab.b.took zt sz).r, .int .u64 (z.ab.b.took zt sz).B, .int .u64 (z.ab.b.took zt sz).T, .int .u64 (z.ab.b.took zt sz).K] rfl rfl (show w2.there rb (i * 4) 4 from HTH.out) infR10 (by simp [Value.oneCell']) ?_
  change K _ (w2.setCells rb (i * 4) [.int .u64 (z.ab.b.took zt sz).r, .int .u64 (z.ab.b.took zt sz).B, .int .u64 (z.ab.b.took zt sz).T, .int .u64 (z.ab.b.took zt sz).K])
  obtain ⟨w9, hw⟩ : ∃ q, w2.setCells rb (i * 4) [.int .u64 (z.ab.b.took zt sz).r, .int .u64 (z.ab.b.took zt sz).B, .int .u64 (z.ab.b.took zt sz).T, .int .u64 (z.ab.b.took zt sz).K] = q := ⟨_, rfl⟩
  rw [hw] at H4 ⊢
  clear hw
  have hv9 := H4.out.oe.dw.c1
  simp only at hv9
  rw [HAT.out.2.1] at hv9
  clear hS
  refine hK.out _ _ (⟨hv9, It.k1 H4.out.row⟩) (fun hS => ?_)
  clear hK K
  refine wpAnyH_done (by kernel_rfl) ?_ _
  go_wp2_with fail
  refine Met.intro (hJ0 _ _ ?_)
  exact ⟨⟨rfl, rfl⟩, rfl, rfl, rfl, rfl, rfl, rfl, H4.out⟩

theorem e11 (w wr : World) (B g i px : Nat) (d : Ds) (y z : Dl) (no sz : Int) (xd : List Int) (v : Option Addr) (n cap : Nat) (tq zt : Int) (HF : Hid (Ofx w wr B g i px d y z ⟨no, sz, xd⟩)) (a : Act) (hf : Fr 115 a) (h0 : sl a 0 = .pointer (some ⟨g, 0, none⟩)) (h1 : sl a 1 = .int .u64 tq) (h5 : sl a 5 = .slice v n cap) (h6 : sl a 6 = .int .u64 zt) (h7 : sl a 7 = .int .i64 (i : Int)) (h9 : sl a 9 = .pointer (some ⟨px, 0, none⟩)) :
    Code.wp Try.prog (cAt [1,1,1,2,2,2,1,1,1,1,1,1,0] KDR) (Exit.then (fun a' w' => Fr 115 a' ∧ sl a' 0 = .pointer (some ⟨g, 0, none⟩) ∧ sl a' 1 = .int .u64 tq ∧ sl a' 5 = .slice v n cap ∧ sl a' 6 = .int .u64 zt ∧ sl a' 7 = .int .i64 (i : Int) ∧ sl a' 9 = .pointer (some ⟨px, 0, none⟩) ∧ Ofx w w' B g i px d y z.outd ⟨no, sz, xd⟩) Nope) a wr := by
  obtain ⟨f, ha, hs⟩ := frKDR hf
  rw [(hs 0).trans h0, (hs 1).trans h1, (hs 5).trans h5, (hs 6).trans h6, (hs 7).trans h7, (hs 9).trans h9] at ha
  clear hs hf h0 h1 h5 h6 h7 h9
  subst ha
  refine piece2 fun J0 K0 hJ0 hK0 => ?_
  conv => arg 2; whnf
  have hat := HF.out.oe.at_
  obtain ⟨rs, hvs, hrs, hts⟩ := HF.out.oe.dw.ss.nth Dl.sl (by decide) hat
  simp only at hvs
  have c3 := HF.out.oe.dw.c3
  simp only at c3
  rw [hvs] at c3
  have s0 : wr.cell? ⟨rs, i * 4 + 2, none⟩ = some (.int .u64 z.ab.u) := hrs 2 _ rfl
  have f0 : wr.frozen? ⟨rs, i * 4 + 2, none⟩ = false := by have := (hts 2 (by decide)).2; simpa using this
  have hst : Ofx w (wr.setCell ⟨rs, i * 4 + 2, none⟩ (.int .u64 (up z.ab.u 1))) B g i px d y (z.outd) ⟨no, sz, xd⟩ := by
    have hdr : Below wr.heap.size wr wr := Below.refl _ _
    have hD := HF.out.oe.dw.below hdr
    have h1 := hD.ss
    simp only at h1
    rw [hvs] at h1
    have h2 := h1.one (j := 2) (v := .int .u64 (up z.ab.u 1)) (y := z.outd) Dl.sl hat (by decide) rfl
    have hk : Kept (fun k => k = rs) wr (wr.setCell ⟨rs, i * 4 + 2, none⟩ (.int .u64 (up z.ab.u 1))) := Kept.setCell _ _ _ rfl
    have h3 := hD.stat (d := { d with ls := d.ls.set i z }) (y := z.outd) hat hvs rfl rfl rfl ⟨rfl, rfl, rfl⟩ (by rw [hvs]; exact h2) hk
    simp only [List.set_set] at h3
    have hfr : ∀ k, k = rs → d.foot g k := fun k e => .inr (.inr (.inr (by rw [e, hvs]; rfl)))
    have k1 : Kept (d.foot g) wr wr := Kept.of_below hdr (fun i hi hi' => by omega)
    have hr2 : wr.heap[px]? = some (.cells (It.cs ⟨no, sz, xd⟩).toArray 63 (0, 0)) := HF.out.row
    exact ⟨⟨h3, HF.out.oe.hy, (HF.out.oe.kept.trans k1 (fun _ _ e => e)).trans hk (fun k _ e => hfr k e), HF.out.oe.lt, HF.out.oe.n8⟩, hk.heap hr2 (fun e => hD.ne hr2 (hfr _ e))⟩
  have H5 := Lib.hid hst
  have hlt2 : (i : Int) < (d.n : Int) := by have := HF.out.oe.lt; omega
  have hi0 : (0 : Int) ≤ (i : Int) := by omega
  have hck : (i : Int) < 1000 := by have := HF.out.oe.n8; have := HF.out.oe.lt; omega
  have hup : IntKind.u64.wrap (z.ab.u + 1) = up z.ab.u 1 := rfl
  clear hat hrs hts hst hvs
  go_wp2_with fail
  refine Met.intro (hJ0 _ _ ?_)
  exact ⟨⟨rfl, rfl⟩, rfl, rfl, rfl, rfl, rfl, rfl, H5.out⟩

theorem e12 (w wr : World) (B g i px : Nat) (d : Ds) (y z : Dl) (no sz : Int) (xd : List Int) (v : Option Addr) (n cap : Nat) (tq zt : Int) (HF : Hid (Ofx w wr B g i px d y z ⟨no, sz, xd⟩)) (sz0 : 0 ≤ sz) (sz1 : sz ≤ 9223372036854775807) (a : Act) (hf : Fr 115 a) (h0 : sl a 0 = .pointer (some ⟨g, 0, none⟩)) (h1 : sl a 1 = .int .u64 tq) (h5 : sl a 5 = .slice v n cap) (h6 : sl a 6 = .int .u64 zt) (h7 : sl a 7 = .int .i64 (i : Int)) (h9 : sl a 9 = .pointer (some ⟨px, 0, none⟩)) :
    Code.wp Try.prog (cAt [1,1,1,2,2,2,1,1,1,1,1,1,1,0] KDR) (Exit.then (fun a' w' => Fr 115 a' ∧ sl a' 0 = .pointer (some ⟨g, 0, none⟩) ∧ sl a' 1 = .int .u64 tq ∧ sl a' 5 = .slice v n cap ∧ sl a' 6 = .int .u64 zt ∧ sl a' 7 = .int .i64 (i : Int) ∧ sl a' 9 = .pointer (some ⟨px, 0, none⟩) ∧ Ofx w w' B g i px d y (z.bytd sz) ⟨no, sz, xd⟩) Nope) a wr := by
  obtain ⟨f, ha, hs⟩ := frKDR hf
  rw [(hs 0).trans h0, (hs 1).trans h1, (hs 5).trans h5, (hs 6).trans h6, (hs 7).trans h7, (hs 9).trans h9] at ha
  clear hs hf h0 h1 h5 h6 h7 h9
  subst ha
  refine piece2 fun J0 K0 hJ0 hK0 => ?_
  conv => arg 2; whnf
  have hat := HF.out.oe.at_
  obtain ⟨rs, hvs, hrs, hts⟩ := HF.out.oe.dw.ss.nth Dl.sl (by decide) hat
  simp only at hvs
  have c3 := HF.out.oe.dw.c3
  simp only at c3
  rw [hvs] at c3
  have s0 : wr.cell? ⟨rs, i * 4 + 3, none⟩ = some (.int .u64 z.ab.y) := hrs 3 _ rfl
  have f0 : wr.drew.frozen? ⟨rs, i * 4 + 3, none⟩ = false := by have := (hts 3 (by decide)).2; simpa using this
  have hst : Ofx w (wr.drew.setCell ⟨rs, i * 4 + 3, none⟩ (.int .u64 (up z.ab.y sz))) B g i px d y (z.bytd sz) ⟨no, sz, xd⟩ := by
    have hdr : Below wr.heap.size wr wr.drew := (Below.refl _ _).drew
    have hD := HF.out.oe.dw.below hdr
    have h1 := hD.ss
    simp only at h1
    rw [hvs] at h1
    have h2 := h1.one (j := 3) (v := .int .u64 (up z.ab.y sz)) (y := z.bytd sz) Dl.sl hat (by decide) rfl
    have hk : Kept (fun k => k = rs) wr.drew (wr.drew.setCell ⟨rs, i * 4 + 3, none⟩ (.int .u64 (up z.ab.y sz))) := Kept.setCell _ _ _ rfl
    have h3 := hD.stat (d := { d with ls := d.ls.set i z }) (y := z.bytd sz) hat hvs rfl rfl rfl ⟨rfl, rfl, rfl⟩ (by rw [hvs]; exact h2) hk
    simp only [List.set_set] at h3
    have hfr : ∀ k, k = rs → d.foot g k := fun k e => .inr (.inr (.inr (by rw [e, hvs]; rfl)))
    have k1 : Kept (d.foot g) wr wr.drew := Kept.of_below hdr (fun i hi hi' => by omega)
    have hr2 : wr.drew.heap[px]? = some (.cells (It.cs ⟨no, sz, xd⟩).toArray 63 (0, 0)) := HF.out.row
    exact ⟨⟨h3, HF.out.oe.hy, (HF.out.oe.kept.trans k1 (fun _ _ e => e)).trans hk (fun k _ e => hfr k e), HF.out.oe.lt, HF.out.oe.n8⟩, hk.heap hr2 (fun e => hD.ne hr2 (hfr _ e))⟩
  have H5 := Lib.hid hst
  have hlt2 : (i : Int) < (d.n : Int) := by have := HF.out.oe.lt; omega
  have hi0 : (0 : Int) ≤ (i : Int) := by omega
  have hck : (i : Int) < 1000 := by have := HF.out.oe.n8; have := HF.out.oe.lt; omega
  have hup : IntKind.u64.wrap (z.ab.y + sz) = up z.ab.y sz := rfl
  have HS0 : Hid (wr.cell? ⟨g, 3, none⟩ = some (.slice (some ⟨rs, 0, none⟩) d.n d.cs) ∧ wr.cell? ⟨px, 1, none⟩ = some (.int .i64 sz)) := ⟨c3, It.k1 HF.out.row⟩
  have HS3 : Hid (wr.cell? ⟨rs, i * 4 + 3, none⟩ = some (.int .u64 z.ab.y) ∧ d.vs = some ⟨rs, 0, none⟩) := ⟨s0, hvs⟩
  have hwz : IntKind.u64.wrap sz = sz := by rw [IntKind.wrap_u64]; omega
  have hF0 := Lib.hid f0
  clear hat hrs hts hst hvs c3 s0 f0
  go_wp2_with fail
  have HS : Hid (wr.drew.cell? ⟨g, 3, none⟩ = some (.slice (some ⟨rs, 0, none⟩) d.n d.cs) ∧ wr.drew.cell? ⟨px, 1, none⟩ = some (.int .i64 sz)) := HS0.out
  refine wp_region_held_drew (S := fun w' => w'.cell? ⟨g, 3, none⟩ = some (.slice (some ⟨rs, 0, none⟩) d.n d.cs) ∧ w'.cell? ⟨px, 1, none⟩ = some (.int .i64 sz)) (by kernel_rfl) HS.out (fun hS => ?_)
  refine tkD 0 89 (.pointer (some ⟨g, 0, none⟩)) (fun w' h' => ?_) hS ?_
  · go_simp
  refine tkD 1 90 (.pointer (some ⟨g, 0, none⟩)) (fun w' h' => ?_) hS ?_
  · go_simp
  try simp only [Act.put, List.setIfInBounds_toArray, List.set_cons_zero, List.set_cons_succ]
  refine tkD 2 91 (.pointer (some ⟨g, 3, none⟩)) (fun w' h' => ?_) hS ?_
  · go_simp
  refine tkD 3 92 (.slice (some ⟨rs, 0, none⟩) (d.n) (d.cs)) (fun w' h' => ?_) hS ?_
  · have c3 := h'.1
    go_simp
  try simp only [Act.put, List.setIfInBounds_toArray, List.set_cons_zero, List.set_cons_succ]
  refine tkD 4 93 (.int .i64 (i : Int)) (fun w' h' => ?_) hS ?_
  · go_simp
  refine tkD 5 94 (.pointer (some ⟨g, 0, none⟩)) (fun w' h' => ?_) hS ?_
  · go_simp
  try simp only [Act.put, List.setIfInBounds_toArray, List.set_cons_zero, List.set_cons_succ]
  refine tkD 6 95 (.pointer (some ⟨g, 0, none⟩)) (fun w' h' => ?_) hS ?_
  · go_simp
  refine tkD 7 96 (.pointer (some ⟨g, 3, none⟩)) (fun w' h' => ?_) hS ?_
  · go_simp
  try simp only [Act.put, List.setIfInBounds_toArray, List.set_cons_zero, List.set_cons_succ]
  refine tkD 8 97 (.slice (some ⟨rs, 0, none⟩) (d.n) (d.cs)) (fun w' h' => ?_) hS ?_
  · have c3 := h'.1
    go_simp
  refine tkD 9 98 (.int .i64 (i : Int)) (fun w' h' => ?_) hS ?_
  · go_simp
  try simp only [Act.put, List.setIfInBounds_toArray, List.set_cons_zero, List.set_cons_succ]
  refine tkD 10 99 (.pointer (some ⟨rs, i * 4, none⟩)) (fun w' h' => ?_) hS ?_
  · go_simp
  refine tkD 11 100 (.pointer (some ⟨rs, i * 4 + 3, none⟩)) (fun w' h' => ?_) hS ?_
  · go_simp
  try simp only [Act.put, List.setIfInBounds_toArray, List.set_cons_zero, List.set_cons_succ]
  refine tkD 13 102 (.pointer (some ⟨px, 1, none⟩)) (fun w' h' => ?_) hS ?_
  · go_simp
  refine tkD 14 103 (.int .i64 sz) (fun w' h' => ?_) hS ?_
  · have c1 := h'.2
    go_simp
  try simp only [Act.put, List.setIfInBounds_toArray, List.set_cons_zero, List.set_cons_succ]
  refine tkD 15 104 (.int .u64 sz) (fun w' h' => ?_) hS ?_
  · go_simp
  have s0 : wr.drew.cell? ⟨rs, i * 4 + 3, none⟩ = some (.int .u64 z.ab.y) := HS3.out.1
  try simp only [Act.put, List.setIfInBounds_toArray, List.set_cons_zero, List.set_cons_succ]
  refine wpAnyH_ready (rs := [12]) (by kernel_rfl) (by simp) (AllReadyH.cons rfl (fun K hK => ?_) AllReadyH.nil)
  rw [if_pos (by rfl)]
  go_wp2_with fail
  clear s0
  clear hS
  refine hK.out _ _ (HS.out) (fun hS => ?_)
  clear hK K
  refine tkD 16 105 (.int .u64 (up z.ab.y sz)) (fun w' h' => ?_) hS ?_
  · go_simp
  try simp only [Act.put, List.setIfInBounds_toArray, List.set_cons_zero, List.set_cons_succ]
  refine tkD 17 106 (.pointer (some ⟨rs, i * 4, none⟩)) (fun w' h' => ?_) hS ?_
  · go_simp
  refine tkD 18 107 (.pointer (some ⟨rs, i * 4 + 3, none⟩)) (fun w' h' => ?_) hS ?_
  · go_simp
  have s0 : wr.drew.cell? ⟨rs, i * 4 + 3, none⟩ = some (.int .u64 z.ab.y) := HS3.out.1
  have f0 := hF0.out
  try simp only [Act.put, List.setIfInBounds_toArray, List.set_cons_zero, List.set_cons_succ]
  refine wpAnyH_ready (rs := [19]) (by kernel_rfl) (by simp) (AllReadyH.cons rfl (fun K hK => ?_) AllReadyH.nil)
  rw [if_pos (by rfl)]
  go_wp2_with fail
  change K _ (wr.drew.setCell ⟨rs, i * 4 + 3, none⟩ (.int .u64 (up z.ab.y sz)))
  obtain ⟨w9, hw⟩ : ∃ q, wr.drew.setCell ⟨rs, i * 4 + 3, none⟩ (.int .u64 (up z.ab.y sz)) = q := ⟨_, rfl⟩
  rw [hw] at H5 ⊢
  clear hw s0 f0
  have hv9 := H5.out.oe.dw.c3
  simp only at hv9
  rw [HS3.out.2] at hv9
  clear hS
  refine hK.out _ _ (⟨hv9, It.k1 H5.out.row⟩) (fun hS => ?_)
  clear hK K
  refine wpAnyH_done (by kernel_rfl) ?_ _
  go_wp2_with fail
  refine Met.intro (hJ0 _ _ ?_)
  exact ⟨⟨rfl, rfl⟩, rfl, rfl, rfl, rfl, rfl, rfl, H5.out⟩

theorem e13 (w wr : World) (B g i px : Nat) (d : Ds) (no sz : Int) (xd : List Int) (v : Option Addr) (n cap : Nat) (tq zt : Int) (os : List Ot) (HR : Hid (Rdl w wr B g d v n cap os)) (HX : Hid (wr.heap[px]? = some (.cells (It.cs ⟨no, sz, xd⟩).toArray 63 (0, 0)))) (hn : n ≤ 1000000) (hw : w.heap.size ≤ wr.heap.size) (a : Act) (hf : Fr 115 a) (h0 : sl a 0 = .pointer (some ⟨g, 0, none⟩)) (h1 : sl a 1 = .int .u64 tq) (h5 : sl a 5 = .slice v n cap) (h6 : sl a 6 = .int .u64 zt) (h7 : sl a 7 = .int .i64 (i : Int)) (h9 : sl a 9 = .pointer (some ⟨px, 0, none⟩)) :
    Code.wp Try.prog (cAt [1,1,1,2,2,2,1,1,1,1,1,1,1,1] KDR) (Exit.then (fun a' w' => ∃ (r cap' : Nat), Fr 115 a' ∧ sl a' 0 = .pointer (some ⟨g, 0, none⟩) ∧ sl a' 1 = .int .u64 tq ∧ sl a' 5 = .slice (some ⟨r, 0, none⟩) (n + 1) cap' ∧ Rdl w w' B g d (some ⟨r, 0, none⟩) (n + 1) cap' (os ++ [⟨zt, i, ⟨no, sz, xd⟩⟩])) Nope) a wr := by
  obtain ⟨f, ha, hs⟩ := frKDR hf
  rw [(hs 0).trans h0, (hs 1).trans h1, (hs 5).trans h5, (hs 6).trans h6, (hs 7).trans h7, (hs 9).trans h9] at ha
  clear hs hf h0 h1 h5 h6 h7 h9
  subst ha
  refine piece2 fun J0 K0 hJ0 hK0 => ?_
  conv => arg 2; whnf
  obtain ⟨r, cap', w2, hrun, hown, hk, _⟩ := run_append_one wr w.heap.size 109 109 130 _ 5 48 infROut Try.underlying109 (by decide) (by decide) HR.out.out (Ot.cs ⟨zt, i, ⟨no, sz, xd⟩⟩) rfl (Ot.one _) hw (by omega) (by omega)
  have H3 : Hid (Rdl w w2 B g d (some ⟨r, 0, none⟩) (n + 1) cap' (os ++ [⟨zt, i, ⟨no, sz, xd⟩⟩])) := HR.out.more (by rw [List.flatMap_append]; simpa using hown) hk
  obtain ⟨T, hT⟩ : ∃ z, str xd = z := ⟨_, rfl⟩
  have HRUN : Hid ((Builtin.append_ #[109, 109] 109 #[.slice v n cap, .slice (some ⟨wr.heap.size, 0, none⟩) 1 1]).run Try.prog (wr.alloc (.cells #[.int .u64 zt, .int .i64 (i : Int), .int .u64 no, .int .i64 sz, .string T] 130)) = .ok (.slice (some ⟨r, 0, none⟩) (n + 1) cap') w2) := by rw [← hT]; exact hrun
  have c0 : wr.cell? ⟨px, 0, none⟩ = some (.int .u64 no) := It.k0 HX.out
  have c1 : wr.cell? ⟨px, 1, none⟩ = some (.int .i64 sz) := It.k1 HX.out
  have c2 : wr.cell? ⟨px, 2, none⟩ = some (.string T) := by rw [← hT]; exact It.k2 HX.out
  clear hrun hown hk hT hn hw
  go_wp2_with (at_builtin; first | (refine Lib.wpList_append_run _ rfl (.tmp 108) (.tmp 113) _ _ rfl _ _ rfl rfl _ _ HRUN.out ?_) | fail)
  refine Met.intro (hJ0 _ _ ?_)
  exact ⟨r, cap', ⟨rfl, rfl⟩, rfl, rfl, rfl, H3.out⟩

/-- What Release does. -/
def DRelR (w : World) (B g : Nat) (d : Ds) (tick : Int) (e : Ending) (w' : World) : Prop :=
  ∃ v n cap ls, e = .returned (.slice v n cap) ∧ OwnG w' w.heap.size 130 5 v n cap ((rel (max tick d.T) d.T d.abs).2.flatMap Ot.cs) ∧ Dw w' B g { d with T := max tick d.T, ls := ls } ∧ ls.map Dl.ab = (rel (max tick d.T) d.T d.abs).1 ∧ Kept (d.foot g) w w'
/-- The loop's state. -/
def RdlS (w : World) (B g : Nat) (d0 : Ds) (tq : Int) (a' : Act) (w' : World) : Prop :=
  ∃ (T : Int) (ls : List Dl) (v : Option Addr) (n cap : Nat) (os : List Ot), Rdl w w' B g { d0 with T := T, ls := ls } v n cap os ∧ Oks (ls.map Dl.ab) T ∧ T ≤ tq ∧ rel tq d0.T d0.abs = ((rel tq T (ls.map Dl.ab)).1, os ++ (rel tq T (ls.map Dl.ab)).2) ∧ n + tot (ls.map Dl.ab) ≤ 524288 ∧ Fr 115 a' ∧ sl a' 0 = .pointer (some ⟨g, 0, none⟩) ∧ sl a' 1 = .int .u64 tq ∧ sl a' 5 = .slice v n cap
theorem drel_round (w wr : World) (B g : Nat) (d : Ds) (v : Option Addr) (n cap : Nat) (os : List Ot) (tq : Int) (HR : Rdl w wr B g d v n cap os) (hok : Oks d.abs d.T) (hn8 : d.n ≤ 8) (hT0 : 0 ≤ d.T) (hn : n ≤ 1000000) (hk : (nx d.T d.abs).k = true) (a : Act) (hf : Fr 115 a) (h0 : sl a 0 = .pointer (some ⟨g, 0, none⟩)) (h1 : sl a 1 = .int .u64 tq) (h5 : sl a 5 = .slice v n cap) (h6 : sl a 6 = .int .u64 (nx d.T d.abs).t) (h7 : sl a 7 = .int .i64 ((nx d.T d.abs).c : Int)) :
    Code.wp Try.prog (cAt [1,1,1,2,2,2,1,1] KDR) (Exit.then (fun a' w' => ∃ (r cap' : Nat) (ls : List Dl), Rdl w w' B g { d with T := (nx d.T d.abs).t, ls := ls } (some ⟨r, 0, none⟩) (n + 1) cap' (os ++ [⟨(nx d.T d.abs).t, (nx d.T d.abs).c, (d.abs.getD (nx d.T d.abs).c az).A.hd⟩]) ∧ ls.map Dl.ab = d.abs.set (nx d.T d.abs).c ((d.abs.getD (nx d.T d.abs).c az).send (nx d.T d.abs).t) ∧ Fr 115 a' ∧ sl a' 0 = .pointer (some ⟨g, 0, none⟩) ∧ sl a' 1 = .int .u64 tq ∧ sl a' 5 = .slice (some ⟨r, 0, none⟩) (n + 1) cap') Nope) a wr := by
  obtain ⟨q1, q2, q3, q4, _, _, q5, _⟩ := (Inv.refl d.T d.abs).step hok hk
  obtain ⟨z, hz⟩ : ∃ z, nx d.T d.abs = z := ⟨_, rfl⟩
  rw [hz] at q1 q2 q3 q4 h6 h7 ⊢
  obtain ⟨i, zt, zk⟩ := z
  simp only at q1 q2 q3 q4 h6 h7 ⊢
  have hld : d.abs.length = d.n := by rw [Ds.abs_len, HR.dw.len]
  obtain ⟨y, hy⟩ : ∃ y, d.ls[i]? = some y := ⟨_, List.getElem?_eq_getElem (by rw [HR.dw.len]; omega)⟩
  have hget : d.abs.getD i az = y.ab := by
    unfold Ds.abs
    rw [List.getD_eq_getElem?_getD, List.getElem?_map, hy]; rfl
  have hoky : y.ab.ok d.T := hget ▸ hok.get q1
  rw [hget] at q2 ⊢
  have hhd := hoky.hd q2
  obtain ⟨x, hx⟩ : ∃ x, y.ab.A.hd = x := ⟨_, rfl⟩
  obtain ⟨no, sz, xd⟩ := x
  rw [hx] at hhd
  simp only at hhd
  refine tkDq (e7 wr B g d v n cap tq zt i HR.dw a hf h0 h1 h5 h6 h7) ?_
  rintro a1 _ ⟨hf, h0, h1, h5, h6, h7, rfl⟩
  have hd1 := HR.dw.tick zt
  have hR1 := HR.did (T := zt) (ls := d.ls) hd1 (Kept.setCell _ _ _ (.inl rfl))
  obtain ⟨w1, hw1⟩ : ∃ q, wr.setCell ⟨g, 0, none⟩ (.int .u64 zt) = q := ⟨_, rfl⟩
  rw [hw1] at hR1 hd1 ⊢
  refine tkDq (e8 w1 B g i { d with T := zt } y v n cap tq zt hd1 hy (by show i < d.n; omega) hn8 hoky.A.len a1 hf h0 h1 h5 h6 h7) ?_
  rintro a2 w2 ⟨bn, px, a1', n1, c1, hf, h0, h1, h5, h6, h7, h8, h9, hb2, hbn, hpx, hrt, hnc⟩
  have hR2 := hR1.past hb2
  rw [hx] at hpx
  have HO : Hid (Od w2 w2 B g i px { d with T := zt } y ⟨no, sz, xd⟩) := ⟨hR2.dw, hy, hpx, Below.refl _ _, by show i < d.n; omega, hn8, hoky.A⟩
  refine tkDq (e9 w2 w2 B g i px { d with T := zt } y _ v n cap tq zt HO y.ab.A.pop bn a1' n1 c1 ⟨hbn, hrt, hnc⟩ a2 hf h0 h1 h5 h6 h7 h8 h9) ?_
  rintro a3 w3 ⟨hf, h0, h1, h5, h6, h7, h9, hf3⟩
  refine tkDq (e10 w2 w3 B g i px { d with T := zt } y _ no sz xd v n cap tq zt hf3 hoky.b (by omega) q4 hhd.1 hhd.2 a3 hf h0 h1 h5 h6 h7 h9) ?_
  rintro a4 w4 ⟨hf, h0, h1, h5, h6, h7, h9, hf4⟩
  refine tkDq (e11 w2 w4 B g i px { d with T := zt } y _ no sz xd v n cap tq zt hf4 a4 hf h0 h1 h5 h6 h7 h9) ?_
  rintro a5 w5 ⟨hf, h0, h1, h5, h6, h7, h9, hf5⟩
  refine tkDq (e12 w2 w5 B g i px { d with T := zt } y _ no sz xd v n cap tq zt hf5 hhd.1 hhd.2 a5 hf h0 h1 h5 h6 h7 h9) ?_
  rintro a6 w6 ⟨hf, h0, h1, h5, h6, h7, h9, hf6⟩
  have hR6 := hR2.did (T := zt) hf6.oe.dw hf6.oe.kept
  refine wp_endR (e13 w w6 B g i px _ no sz xd v n cap tq zt os hR6 hf6.row hn hR6.kept.size a6 hf h0 h1 h5 h6 h7 h9) ?_
  rintro a7 w7 ⟨r, cap', hf, h0, h1, h5, hR7⟩
  refine ⟨r, cap', _, by rw [hx]; exact hR7, ?_, hf, h0, h1, h5⟩
  rw [List.map_set]
  show d.abs.set i _ = _
  congr 1
  show (⟨y.ab.b.took zt sz, y.ab.A.pop, y.ab.o, y.ab.d, up y.ab.u 1, up y.ab.y sz⟩ : Ab) = y.ab.send zt
  unfold Ab.send
  rw [hx]
theorem dRelease_any (B g : Nat) (d : Ds) (tick : Int) (w : World) (h : Dw w B g d) (hn : d.n ≤ 8) (hok : Oks d.abs d.T) (h1 : 1 ≤ d.n) (_hB : B ≤ w.heap.size) (_htk : tick ≤ 18446744073709551615) (htot : tot d.abs ≤ 524288) :
    Calls Try.prog 36 #[.pointer (some ⟨g, 0, none⟩), .int .u64 tick] w (DRelR w B g d tick) := by
  obtain ⟨tq, hq0⟩ : ∃ z, max tick d.T = z := ⟨_, rfl⟩
  have hdl : d.abs.length = d.n := by rw [Ds.abs_len, h.len]
  have hTT : 0 ≤ d.T ∧ d.T ≤ 18446744073709551615 := by
    have h0 := hok.get (i := 0) (by omega)
    exact ⟨h0.T0, h0.T1⟩
  refine calls_of_wp (c := KDR) Try.func36 (by kernel_rfl) ?_
  have hf : Fr 115 { tmps := #[.pointer (some ⟨g, 0, none⟩), .int .u64 tick] ++ Array.replicate (Try.f36.ntmps - (#[.pointer (some ⟨g, 0, none⟩), .int .u64 tick] : Array Value).size) undef, defers := [] } := ⟨rfl, by rw [Try.ntmps36]; simp⟩
  refine wp_sqR (x := (cAt [0] KDR)) (y := (cAt [1] KDR)) (by kernel_rfl) (e0 w g tick _ hf (sl_at _ _ 0 _ rfl) (sl_at _ _ 1 _ rfl)) ?_
  rintro a1 _ ⟨hf, h0, h1, rfl⟩
  refine tkDq (e1 w g tick a1 hf h0 h1) ?_
  rintro a2 _ ⟨hf, h0, h1, h5, rfl⟩
  refine tkDq (e2 w B g d tick h a2 hf h0 h1 h5) ?_
  rintro a3 _ ⟨hf, h0, h1, h5, rfl⟩
  rw [hq0] at h1
  have hR0 : Rdl w w B g d none 0 0 [] := ⟨h, Kept.refl _ _, OwnG.nil _ _ _ _, fun k hk => (h.foot_lt hk).2⟩
  refine wp_blockR (x := (cAt [1,1,1,2] KDR)) (id := 0) (by kernel_rfl) ?_
  refine wp_loopR (x := (cAt [1,1,1,2,2] KDR)) (by kernel_rfl) (RdlS w B g d tq) (fun a' _ => 600000 - lenOf (sl a' 5)) ⟨d.T, d.ls, none, 0, 0, [], hR0, hok, by omega, rfl, by show 0 + tot d.abs ≤ _; omega, hf, h0, h1, h5⟩ ?_
  rintro a4 w4 ⟨T, ls, v, n, cap, os, hR, hoks, hTk, hrel, hto, hf, h0, h1, h5⟩
  have h5o := h5
  obtain ⟨dd, hdd⟩ : ∃ z : Ds, { d with T := T, ls := ls } = z := ⟨_, rfl⟩
  have hdT : dd.T = T := by rw [← hdd]
  have hda : dd.abs = ls.map Dl.ab := by rw [← hdd]; rfl
  have hdn : dd.n = d.n := by rw [← hdd]
  refine wp_blockR (x := (cAt [1,1,1,2,2,2] KDR)) (id := 1) (by kernel_rfl) ?_
  rw [hdd] at hR
  rw [← hda] at hoks hrel hto
  rw [← hdT] at hoks hrel hTk
  have hdl2 : dd.abs.length = dd.n := by rw [Ds.abs_len, hR.dw.len]
  have hT2 : 0 ≤ dd.T := (hoks.get (i := 0) (by omega)).T0
  refine tkDq (e3 w w4 B g dd v n cap os tq hR (fun x hx => hoks _ (List.mem_map.2 ⟨x, hx, rfl⟩)) (by omega) a4 hf h0 h1 h5) ?_
  rintro a5 w5 ⟨hf, h0, h1, h5, h6, h7, hb5⟩
  have hR5 := hR.past hb5
  by_cases hg : (nx dd.T dd.abs).k = true ∧ (nx dd.T dd.abs).t ≤ tq
  case neg =>
    have hc : decide (clV (nx dd.T dd.abs) < 0 ∨ tq < (nx dd.T dd.abs).t) = true := decide_eq_true (by
      rcases Int.lt_or_le tq (nx dd.T dd.abs).t with h | h
      · exact .inr h
      · refine .inl ((clV_neg _).2 ?_)
        cases hk : (nx dd.T dd.abs).k with
        | false => rfl
        | true => exact absurd ⟨hk, h⟩ hg)
    refine wp_seq ?_
    refine wp_sqR (x := (cAt [1,1,1,2,2,2,1,0,0] KDR)) (y := (cAt [1,1,1,2,2,2,1,0,1] KDR)) (by kernel_rfl) (e4 w5 g v n cap tq _ _ a5 hf h0 h1 h5 h6 h7) ?_
    rintro a6 _ ⟨hf, h0, h1, h5, h6, h7, h28, rfl⟩
    rw [hc] at h28
    refine wp_onT (A := (cAt [1,1,1,2,2,2,1,0,1,3] KDR)) (B := (cAt [1,1,1,2,2,2,1,0,1,4] KDR)) (by kernel_rfl) h28 ?_
    refine wp_endT (e5 w5 B g dd v n cap tq hR5.dw (DRelR w B g d tick) ?_ a6 hf h0 h1 h5) (fun _ _ q => q)
    have hr2 := rel_no hg
    unfold DRelR
    rw [hq0, hrel, hr2, List.append_nil]
    have hR6 := hR5.did (hR5.dw.tick tq) (Kept.setCell _ _ _ (.inl rfl))
    subst hdd
    exact ⟨v, n, cap, ls, rfl, hR6.out, hR6.dw, rfl, hR6.kept⟩
  case pos =>
    have hc : decide (clV (nx dd.T dd.abs) < 0 ∨ tq < (nx dd.T dd.abs).t) = false := decide_eq_false (by
      intro e
      rcases e with e | e
      · rw [clV_neg, hg.1] at e; cases e
      · omega)
    have hcl : clV (nx dd.T dd.abs) = ((nx dd.T dd.abs).c : Int) := by unfold clV; rw [if_pos hg.1]
    refine tkDq (R := fun a' w' => w5 = w' ∧ Fr 115 a' ∧ sl a' 0 = .pointer (some ⟨g, 0, none⟩) ∧ sl a' 1 = .int .u64 tq ∧ sl a' 5 = .slice v n cap ∧ sl a' 6 = .int .u64 (nx dd.T dd.abs).t ∧ sl a' 7 = .int .i64 (clV (nx dd.T dd.abs)))  ?_ ?_
    · refine tkDq (e4 w5 g v n cap tq _ _ a5 hf h0 h1 h5 h6 h7) ?_
      rintro a6 _ ⟨hf, h0, h1, h5, h6, h7, h28, rfl⟩
      rw [hc] at h28
      refine wp_onF (A := (cAt [1,1,1,2,2,2,1,0,1,3] KDR)) (B := (cAt [1,1,1,2,2,2,1,0,1,4] KDR)) (by kernel_rfl) h28 ?_
      exact wp_skipR (by kernel_rfl) ⟨rfl, hf, h0, h1, h5, h6, h7⟩
    rintro a6 _ ⟨rfl, hf, h0, h1, h5, h6, h7⟩
    rw [hcl] at h7
    obtain ⟨q1, q2, q3, q4, _, _, q5, _⟩ := (Inv.refl dd.T dd.abs).step hoks hg.1
    have hyes := rel_yes hoks (Inv.refl dd.T dd.abs) hg.1 hg.2
    have htt := tot_send q1 q2 (nx dd.T dd.abs).t
    refine wp_endR (drel_round w w5 B g dd v n cap os tq hR5 hoks (by omega) hT2 (by omega) hg.1 a6 hf h0 h1 h5 h6 h7) ?_
    rintro a7 w7 ⟨r, cap', ls', hR7, hab, hf, h0, h1, h5'⟩
    refine ⟨⟨(nx dd.T dd.abs).t, ls', some ⟨r, 0, none⟩, n + 1, cap', os ++ [⟨(nx dd.T dd.abs).t, (nx dd.T dd.abs).c, (dd.abs.getD (nx dd.T dd.abs).c az).A.hd⟩], ?_, by rw [hab]; exact q5, hg.2, ?_, by rw [hab]; omega, hf, h0, h1, h5'⟩, ?_⟩
    · have := hR7
      rw [← hdd] at this ⊢
      exact this
    · rw [hrel, hyes, hab, List.append_assoc]; rfl
    · rw [h5o, h5']
      simp only [lenOf]
      omega
end Go.Proofs.Ytpigpeehhadkjaa

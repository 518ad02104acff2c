/-
  octroidocs.Prefix, and AddrReads' walk, in pieces and put together. Condition: the library's variables hold what they should. (Made by gen_adrd.py.)
-/
import Derived.Test.YtbnfmiopgjmppaaDoorAdRv
import Derived.Test.YtbnfmiopgjmppaaDoorAdLaid
import Derived.Test.YtbnfmiopgjmppaaDoorTie
import Derived.Test.YtbnfmiopgjmppaaDoorCards
import Derived.SevenTiedAt
namespace Go.Proofs.YtbnfmiopgjmppaaDoor
open Go.RowKit

theorem yields_build4 {P : Program} {ops : Array Oper} {S : World → Prop} {op : Oper} {a : Act} (hw : Region.wanted op (yielded ops a.tmps) = true) (t : TypeId) (parts : Array (Nat × Operand)) (ho : op.op = .build t parts) {cells : Array Value}
    (hc : P.built t (parts.toList.map fun x => (x.1, a.eval x.2)) = some cells) : YieldsIf P ops S op (.agg cells) a :=
  .inl ⟨hw, fun w _ => by
    have hc' : P.built t (parts.map fun (i, x) => (i, a.eval x)).toList = some cells := by rw [← hc]; simp
    unfold execOp
    simp only [ho, Sem.run_bind, run_build w t _ cells hc', Result.andThen_ok]
    rfl⟩
structure Dq (w wr : World) (s : Bool) (xs : List Int) (n : Int) : Prop where
  below : Below w.heap.size w wr
  row : wr.rangeAt w.heap.size 0 (pfl s xs n)
  out : wr.there (w.heap.size + 1) 0 18
theorem Dq.past {w wr w' : World} {s : Bool} {xs : List Int} {n : Int} (h : Dq w wr s xs n) (hb : Below wr.heap.size wr w') : Dq w w' s xs n := ⟨h.below.trans (hb.mono h.below.size), range_kept hb h.row, there_kept hb h.out⟩
theorem Dq.lay {w wr : World} {s : Bool} {xs : List Int} {n : Int} (h : Dq w wr s xs n) (hl : xs.length = 16) : Dq w (wr.setCells (w.heap.size + 1) 0 (pfl s xs n)) s xs n ∧ (wr.setCells (w.heap.size + 1) 0 (pfl s xs n)).rangeAt (w.heap.size + 1) 0 (pfl s xs n) :=
  ⟨⟨Below.setCells h.below _ (by omega) _ _, fun k v hv => by rw [sc_cell4 (by simp)]; exact h.row k v hv, World.there_setCells h.out _ _ _⟩, World.rangeAt_setCells_same _ _ _ _ (by rw [pfl_len s xs n hl]; exact h.out)⟩
set_option maxRecDepth 100000 in
set_option maxHeartbeats 4000000 in
theorem dPrefix_any (s : Bool) (xs : List Int) (n : Int) (w : World) (hl : xs.length = 16) : Calls Tryd.prog 25 #[.agg (pfl s xs n).toArray] w (Gives w (.agg (pfl s xs n).toArray)) := by
  have HL := Lib.hid hl
  have HA : Hid (∀ wz, (w.alloc (.cells (pfl s xs n).toArray 48)).alloc (.cells (pfl false (zs 16) 0).toArray 52) = wz → Dq w wz s xs n) := by
    rintro wz rfl
    refine ⟨((Below.refl _ _).alloc (Nat.le_refl _) _).alloc (by simp) _, range_kept (bel1 _ _) (pfl_range w s xs n 48), ?_⟩
    have := there_new (w.alloc (.cells (pfl s xs n).toArray 48)) (pfl false (zs 16) 0).toArray 52 18 rfl _ rfl
    simpa using this
  clear hl
  go_enter Tryd.func25, Tryd.ntmps25
  go_wp2_with fail
  obtain ⟨wz, hwz⟩ : ∃ z, (w.alloc (.cells (pfl s xs n).toArray 48)).alloc (.cells (pfl false (zs 16) 0).toArray 52) = z := ⟨_, rfl⟩
  have HZ := Lib.hid (HA.out wz hwz)
  change Code.wp _ _ _ _ ((w.alloc (.cells (pfl s xs n).toArray 48)).alloc (.cells (pfl false (zs 16) 0).toArray 52))
  rw [hwz]
  clear hwz HA
  have HMd := Lib.hid (HZ.out.past (Below.refl _ _).drew)
  refine wp_region_held_drew (S := fun w' => Dq w w' s xs n) (by kernel_rfl) HMd.out (fun hS => ?_)
  refine tk 0 3 (.pointer (some ⟨w.heap.size, 0, none⟩)) rfl rfl (by kernel_rfl) (by kernel_rfl) (by kernel_rfl) (fun _ _ _ h => h) (Or.inl ⟨by rfl, fun w' h' => ?_⟩) hS ?_
  · go_simp
  try simp only [Act.put, List.setIfInBounds_toArray, List.set_cons_zero, List.set_cons_succ]
  refine tk 1 4 (.agg (adl s xs).toArray) rfl rfl (by kernel_rfl) (by kernel_rfl) (by kernel_rfl) (fun _ _ _ h => h) (yieldsIf_load_mid (by rfl) _ _ rfl (w.heap.size) (0) rfl (adl s xs) _ (fun w' h' => pfl_adl h'.row) Tryd.underlying24 rfl (by rw [adl_len s xs HL.out]; exact infA)) hS ?_
  try simp only [Act.put, List.setIfInBounds_toArray, List.set_cons_zero, List.set_cons_succ]
  refine tk 3 6 (.pointer (some ⟨w.heap.size, 17, none⟩)) rfl rfl (by kernel_rfl) (by kernel_rfl) (by kernel_rfl) (fun _ _ _ h => h) (Or.inl ⟨by rfl, fun w' h' => ?_⟩) hS ?_
  · go_simp
  try simp only [Act.put, List.setIfInBounds_toArray, List.set_cons_zero, List.set_cons_succ]
  refine tk 4 7 (.int .i64 n) rfl rfl (by kernel_rfl) (by kernel_rfl) (by kernel_rfl) (fun _ _ _ h => h) (Or.inl ⟨by rfl, fun w' h' => ?_⟩) hS ?_
  · have hc := pfl_n h'.row HL.out
    go_simp
  try simp only [Act.put, List.setIfInBounds_toArray, List.set_cons_zero, List.set_cons_succ]
  refine wpAnyH_ready (rs := [2]) (by kernel_rfl) (by simp) (AllReadyH.cons rfl (fun K hK => ?_) AllReadyH.nil)
  rw [if_pos (by rfl)]
  go_wp2_with fail
  refine (dAddr_any s xs _ HL.out).mono ?_
  rintro e wa ⟨rfl, hb⟩
  have HMe := Lib.hid (HMd.out.past hb)
  clear hb
  clear hS
  refine hK.out _ _ (HMe.out) (fun hS => ?_)
  clear hK K
  try simp only [Act.put, List.setIfInBounds_toArray, List.set_cons_zero, List.set_cons_succ]
  refine tk 5 8 (.agg (pfl s xs n).toArray) rfl rfl (by kernel_rfl) (by kernel_rfl) (by kernel_rfl) (fun _ _ _ h => h) (yields_build4 (by rfl) 52 #[(0, .tmp 5), (1, .tmp 7)] rfl (builtRP s xs n HL.out)) hS ?_
  try simp only [Act.put, List.setIfInBounds_toArray, List.set_cons_zero, List.set_cons_succ]
  refine wpAnyH_ready (rs := [6]) (by kernel_rfl) (by simp) (AllReadyH.cons rfl (fun K hK => ?_) AllReadyH.nil)
  rw [if_pos (by rfl)]
  have e18 : (pfl s xs n).toArray.size = 18 := by rw [List.size_toArray, pfl_len s xs n HL.out]
  refine wp_store_mid 52 (.tmp 2) (.tmp 8) rfl (w.heap.size + 1) 0 (pfl s xs n).toArray rfl rfl (by rw [e18]; exact HMe.out.out) (by rw [e18]; exact infQ) (all_oneCell_toArray (pfl_one s xs n)) ?_
  have hf := HMe.out.lay HL.out
  obtain ⟨wy, hwy⟩ : ∃ y, wa.setCells (w.heap.size + 1) 0 (pfl s xs n) = y := ⟨_, rfl⟩
  rw [hwy] at hf
  change K _ (wa.setCells (w.heap.size + 1) 0 (pfl s xs n))
  rw [hwy]
  clear hwy e18
  have HF := Lib.hid hf
  clear hf hS
  refine hK.out _ _ HF.out.1 (fun hS => ?_)
  clear hK K
  refine wpAnyH_done (by kernel_rfl) ?_ _
  go_wp2_with fail
  refine bodyPost_ret (v := .agg (pfl s xs n).toArray) (ret_mid Tryd.results25 _ _ _ _ (pfl s xs n) _ rfl HF.out.2 Tryd.underlying52 rfl (by rw [pfl_len _ _ _ HL.out]; exact infQ)) rfl ⟨rfl, HF.out.1.below⟩

/-- Ranges that are held; what was there stays. -/
def Hs (w wr : World) (l : List (Nat × List Value)) : Prop := Below w.heap.size w wr ∧ ∀ x ∈ l, wr.rangeAt x.1 0 x.2
theorem Hs.past {w wr w' : World} {l : List (Nat × List Value)} (h : Hs w wr l) (hb : Below wr.heap.size wr w') : Hs w w' l := ⟨h.1.trans (hb.mono h.1.size), fun x hx => range_kept hb (h.2 x hx)⟩
theorem Hs.add {w wr w' : World} {l : List (Nat × List Value)} (h : Hs w wr l) (hb : Below wr.heap.size wr w') {g : Nat} {cs : List Value} (hr : w'.rangeAt g 0 cs) : Hs w w' ((g, cs) :: l) :=
  ⟨(h.past hb).1, fun x hx => by
    rcases List.mem_cons.1 hx with rfl | hx
    · exact hr
    · exact (h.past hb).2 x hx⟩
theorem Hs.gl {w wr : World} {l : List (Nat × List Value)} (h : Hs w wr l) (hg : Gl w) : Gl wr := hg.below h.1
theorem Hs.at_ {w wr : World} {l : List (Nat × List Value)} (h : Hs w wr l) (g : Nat) (cs : List Value) (hx : (g, cs) ∈ l) : wr.rangeAt g 0 cs := h.2 _ hx
/-- What the law answers. -/
def YesB (w : World) (e : Ending) (w' : World) : Prop := e = .returned (.bool true) ∧ Below w.heap.size w w'
/-- What is read of a text. -/
def adT (l : Tx) : Bool × List Int × Int := match adO l with | some (s, xs) => (s, xs, 0) | none => (false, zs 16, 40)
def pfT (l : Tx) : Bool × List Int × Int × Int := match pfO l with | some (s, xs, n) => (s, xs, n, 0) | none => (false, zs 16, 0, 40)
theorem adT_len (l : Tx) : (adT l).2.1.length = 16 := by
  unfold adT
  cases h : adO l with
  | none => exact zs_length 16
  | some r => obtain ⟨s, xs⟩ := r; exact (adO_ok h).1
theorem pfT_len (l : Tx) : (pfT l).2.1.length = 16 := by
  unfold pfT
  cases h : pfO l with
  | none => exact zs_length 16
  | some r => obtain ⟨s, xs, n⟩ := r; exact (adO_ok (pfO_some h).1).1
theorem apT (l : Tx) (w : World) (hg : Gl w) (hl : l.length ≤ 100) {s : Bool} {xs : List Int} {c : Int} (h : adT l = (s, xs, c)) : Calls Tryd.prog 21 #[.string ⟨l.toArray⟩] w fun e w' => e = .returned (.tuple #[.agg (adl s xs).toArray, .int .i64 c]) ∧ Below w.heap.size w w' := by
  refine (aParse_adO l w hg (by omega)).mono ?_
  rintro e w' ⟨hb, h2⟩
  refine ⟨?_, hb⟩
  unfold adT at h
  rcases h2 with ⟨s', xs', h3, rfl⟩ | ⟨h3, rfl⟩
  · rw [h3] at h; simp only [Prod.mk.injEq] at h; obtain ⟨rfl, rfl, rfl⟩ := h; rfl
  · rw [h3] at h; simp only [Prod.mk.injEq] at h; obtain ⟨rfl, rfl, rfl⟩ := h; rfl
theorem rpT (l : Tx) (w : World) (hl : l.length ≤ 100) {s : Bool} {xs : List Int} {c : Int} (h : adT l = (s, xs, c)) : Calls Tryd.prog 22 #[.string ⟨l.toArray⟩] w fun e w' => e = .returned (.tuple #[.agg (adl s xs).toArray, .int .i64 c]) ∧ Below w.heap.size w w' := by
  refine (r4Parse_any l w (by omega)).mono ?_
  rintro e w' ⟨hb, h2⟩
  refine ⟨?_, hb⟩
  unfold adT adO at h
  rcases h2 with ⟨gs, h3, rfl⟩ | ⟨h3, ds, h4, rfl⟩ | ⟨h3, h4, rfl⟩
  · rw [h3] at h; simp only [Prod.mk.injEq] at h; obtain ⟨rfl, rfl, rfl⟩ := h; rfl
  · rw [h3, h4] at h; simp only [Prod.mk.injEq] at h; obtain ⟨rfl, rfl, rfl⟩ := h; rfl
  · rw [h3, h4] at h; simp only [Prod.mk.injEq] at h; obtain ⟨rfl, rfl, rfl⟩ := h; rfl
theorem ppT {l : Tx} {w w' : World} {e : Ending} (hp : PpR w l e w') {s : Bool} {xs : List Int} {n c : Int} (h : pfT l = (s, xs, n, c)) : e = .returned (.tuple #[.agg (pfl s xs n).toArray, .int .i64 c]) ∧ Below w.heap.size w w' := by
  obtain ⟨hb, h2⟩ := hp
  refine ⟨?_, hb⟩
  unfold pfT at h
  rcases h2 with ⟨s', xs', n', h3, _, _, _, rfl⟩ | ⟨h3, rfl⟩
  · rw [h3] at h; simp only [Prod.mk.injEq] at h; obtain ⟨rfl, rfl, rfl, rfl⟩ := h; rfl
  · rw [h3] at h; simp only [Prod.mk.injEq] at h; obtain ⟨rfl, rfl, rfl, rfl⟩ := h; rfl

noncomputable def KRD : Code := Tryd.f4.body.getD .skip
set_option maxRecDepth 100000 in
theorem frKRD {a : Act} (h : Fr 58 a) : ∃ f : Nat → Value, a = ⟨#[f 0, f 1, f 2, f 3, f 4, f 5, f 6, f 7, f 8, f 9, f 10, f 11, f 12, f 13, f 14, f 15, f 16, f 17, f 18, f 19, f 20, f 21, f 22, f 23, f 24, f 25, f 26, f 27, f 28, f 29, f 30, f 31, f 32, f 33, f 34, f 35, f 36, f 37, f 38, f 39, f 40, f 41, f 42, f 43, f 44, f 45, f 46, f 47, f 48, f 49, f 50, f 51, f 52, f 53, f 54, f 55, f 56, f 57], []⟩ ∧ ∀ i, f i = sl a i := fr_any h

set_option maxRecDepth 100000 in
set_option maxHeartbeats 4000000 in
theorem r0 (w : World) (l : Tx) (a : Act) (hf : Fr 58 a) (h0 : sl a 0 = .string ⟨l.toArray⟩) :
    Code.wp Tryd.prog (cAt [0] KRD) (Exit.then (fun a' w' => Fr 58 a' ∧ sl a' 0 = .string ⟨l.toArray⟩ ∧ sl a' 2 = .bool false ∧ w = w') Nope) a w := by
  obtain ⟨f, ha, hs⟩ := frKRD hf
  have e0 := (hs 0).trans h0
  rw [e0] at ha
  clear hs hf e0 h0
  subst ha
  refine piece2 fun J0 K0 hJ0 hK0 => ?_
  conv => arg 2; whnf
  go_wp2_with fail
  refine Met.intro (hJ0 _ _ ?_)
  exact ⟨⟨rfl, rfl⟩, rfl, rfl, rfl⟩

set_option maxRecDepth 100000 in
set_option maxHeartbeats 4000000 in
theorem r1 (w : World) (l : Tx) (bb : Bool) (hbb : Hid (decide (100 < l.length) = bb)) (a : Act) (hf : Fr 58 a) (h0 : sl a 0 = .string ⟨l.toArray⟩) (h2 : sl a 2 = .bool false) :
    Code.wp Tryd.prog (cAt [1,0,0] KRD) (Exit.then (fun a' w' => Fr 58 a' ∧ sl a' 0 = .string ⟨l.toArray⟩ ∧ sl a' 2 = .bool false ∧ sl a' 13 = .bool bb ∧ w = w') Nope) a w := by
  obtain ⟨f, ha, hs⟩ := frKRD hf
  have e0 := (hs 0).trans h0
  have e2 := (hs 2).trans h2
  rw [e0, e2] at ha
  clear hs hf e0 h0 e2 h2
  subst ha
  refine piece2 fun J0 K0 hJ0 hK0 => ?_
  conv => arg 2; whnf
  by_cases hc : 100 < l.length
  · have HV : Hid (bb = true) := by show _ = _; rw [← hbb.out]; exact decide_eq_true hc
    have hc2 : (100 : Int) < (l.length : Int) := by omega
    go_wp2_with fail
    refine Met.intro (hJ0 _ _ ?_)
    exact ⟨⟨rfl, rfl⟩, rfl, rfl, by rw [HV.out]; rfl, rfl⟩
  · have HV : Hid (bb = false) := by show _ = _; rw [← hbb.out]; exact decide_eq_false hc
    have hc2 : ¬ (100 : Int) < (l.length : Int) := by omega
    go_wp2_with fail
    refine Met.intro (hJ0 _ _ ?_)
    exact ⟨⟨rfl, rfl⟩, rfl, rfl, by rw [HV.out]; rfl, rfl⟩

set_option maxRecDepth 100000 in
set_option maxHeartbeats 4000000 in
theorem rw_ (w : World) (HG : Hid (Gl w)) (a : Act) (hf : Fr 58 a) :
    Code.wp Tryd.prog (cAt [1,0,1,3] KRD) (RetsV Tryd.f4 (YesB w)) a w := by
  obtain ⟨f, ha, hs⟩ := frKRD hf
  clear hs hf 
  subst ha
  conv => arg 2; whnf
  go_wp2_with fail
  refine (l4works_any _ HG.out).mono ?_
  rintro e w1 ⟨rfl, hb1⟩
  have HF := Lib.hid hb1
  clear hb1
  go_wp2_with fail
  refine ⟨rfl, rfl, .bool true, ?_, ⟨rfl, HF.out⟩⟩
  simp [results, Tryd.results4, go_sem]

set_option maxRecDepth 100000 in
set_option maxHeartbeats 4000000 in
theorem r3 (w : World) (l : Tx) (HG : Hid (Gl w)) (s : Bool) (xs : List Int) (c : Int) (HLZ : Hid (l.length ≤ 100)) (hT : Hid (adT l = (s, xs, c))) (HX : Hid (xs.length = 16)) (a : Act) (hf : Fr 58 a) (h0 : sl a 0 = .string ⟨l.toArray⟩) (h2 : sl a 2 = .bool false) :
    Code.wp Tryd.prog (cAt [1,1,0] KRD) (Exit.then (fun a' w' => ∃ g3 : Nat, Fr 58 a' ∧ sl a' 0 = .string ⟨l.toArray⟩ ∧ sl a' 2 = .bool false ∧ sl a' 3 = .pointer (some ⟨g3, 0, none⟩) ∧ sl a' 4 = .int .i64 c ∧ Hs w w' [(g3, adl s xs)]) Nope) a w := by
  obtain ⟨f, ha, hs⟩ := frKRD hf
  have e0 := (hs 0).trans h0
  have e2 := (hs 2).trans h2
  rw [e0, e2] at ha
  clear hs hf e0 h0 e2 h2
  subst ha
  refine piece2 fun J0 K0 hJ0 hK0 => ?_
  conv => arg 2; whnf
  have HM0 : Hid (Hs w w []) := ⟨Below.refl _ _, fun x hx => by cases hx⟩
  go_wp2_with fail
  refine (apT l _ (HM0.out.gl HG.out) HLZ.out hT.out).mono ?_
  rintro e wa ⟨rfl, hb⟩
  have HMa := Lib.hid (HM0.out.past hb)
  clear hb
  go_wp2_with (refine stNA (fun w' => World.rangeAt w' wa.heap.size 0 (adl s xs) ∧ Below wa.heap.size wa w') (.tmp 3) (.tmp 18) rfl rfl wa.heap.size 0 s xs rfl rfl HX.out (there_new _ _ _ _ rfl _ rfl) (fresh_a wa _ rfl s xs HX.out) ?_; rintro wb ⟨hr, hb⟩)
  have HMb := Lib.hid (HMa.out.add hb hr)
  refine Met.intro (hJ0 _ _ ?_)
  exact ⟨wa.heap.size, ⟨rfl, rfl⟩, rfl, rfl, rfl, rfl, HMb.out⟩

set_option maxRecDepth 100000 in
set_option maxHeartbeats 4000000 in
theorem r4 (w : World) (l : Tx) (s : Bool) (xs : List Int) (c : Int) (HLZ : Hid (l.length ≤ 100)) (hT : Hid (adT l = (s, xs, c))) (HX : Hid (xs.length = 16)) (w3 : World) (g3 : Nat) (HMw3 : Hid (Hs w w3 [(g3, adl s xs)])) (a : Act) (hf : Fr 58 a) (h0 : sl a 0 = .string ⟨l.toArray⟩) (h2 : sl a 2 = .bool false) (h3 : sl a 3 = .pointer (some ⟨g3, 0, none⟩)) (h4 : sl a 4 = .int .i64 c) :
    Code.wp Tryd.prog (cAt [1,1,1,0] KRD) (Exit.then (fun a' w' => ∃ g5 : Nat, Fr 58 a' ∧ sl a' 0 = .string ⟨l.toArray⟩ ∧ sl a' 2 = .bool false ∧ sl a' 3 = .pointer (some ⟨g3, 0, none⟩) ∧ sl a' 4 = .int .i64 c ∧ sl a' 5 = .pointer (some ⟨g5, 0, none⟩) ∧ sl a' 6 = .int .i64 c ∧ Hs w w' [(g5, adl s xs), (g3, adl s xs)]) Nope) a w3 := by
  obtain ⟨f, ha, hs⟩ := frKRD hf
  have e0 := (hs 0).trans h0
  have e2 := (hs 2).trans h2
  have e3 := (hs 3).trans h3
  have e4 := (hs 4).trans h4
  rw [e0, e2, e3, e4] at ha
  clear hs hf e0 h0 e2 h2 e3 h3 e4 h4
  subst ha
  refine piece2 fun J0 K0 hJ0 hK0 => ?_
  conv => arg 2; whnf
  have HM0 := HMw3
  go_wp2_with fail
  refine (rpT l _ HLZ.out hT.out).mono ?_
  rintro e wa ⟨rfl, hb⟩
  have HMa := Lib.hid (HM0.out.past hb)
  clear hb
  go_wp2_with (refine stNR (fun w' => World.rangeAt w' wa.heap.size 0 (adl s xs) ∧ Below wa.heap.size wa w') (.tmp 5) (.tmp 23) rfl rfl wa.heap.size 0 s xs rfl rfl HX.out (there_new _ _ _ _ rfl _ rfl) (fresh_r wa _ rfl s xs HX.out) ?_; rintro wb ⟨hr, hb⟩)
  have HMb := Lib.hid (HMa.out.add hb hr)
  refine Met.intro (hJ0 _ _ ?_)
  exact ⟨wa.heap.size, ⟨rfl, rfl⟩, rfl, rfl, rfl, rfl, rfl, rfl, HMb.out⟩

set_option maxRecDepth 100000 in
set_option maxHeartbeats 4000000 in
theorem r5 (w : World) (l : Tx) (HG : Hid (Gl w)) (s : Bool) (t : Bool) (xs : List Int) (ys : List Int) (c : Int) (n : Int) (d : Int) (HLZ : Hid (l.length ≤ 100)) (hP : Hid (pfT l = (t, ys, n, d))) (HY : Hid (ys.length = 16)) (g3 : Nat) (w4 : World) (g5 : Nat) (HMw4 : Hid (Hs w w4 [(g5, adl s xs), (g3, adl s xs)])) (a : Act) (hf : Fr 58 a) (h0 : sl a 0 = .string ⟨l.toArray⟩) (h2 : sl a 2 = .bool false) (h3 : sl a 3 = .pointer (some ⟨g3, 0, none⟩)) (h4 : sl a 4 = .int .i64 c) (h5 : sl a 5 = .pointer (some ⟨g5, 0, none⟩)) (h6 : sl a 6 = .int .i64 c) :
    Code.wp Tryd.prog (cAt [1,1,1,1,0] KRD) (Exit.then (fun a' w' => ∃ g7 : Nat, Fr 58 a' ∧ sl a' 0 = .string ⟨l.toArray⟩ ∧ sl a' 2 = .bool false ∧ sl a' 3 = .pointer (some ⟨g3, 0, none⟩) ∧ sl a' 4 = .int .i64 c ∧ sl a' 5 = .pointer (some ⟨g5, 0, none⟩) ∧ sl a' 6 = .int .i64 c ∧ sl a' 7 = .pointer (some ⟨g7, 0, none⟩) ∧ sl a' 8 = .int .i64 d ∧ Hs w w' [(g7, pfl t ys n), (g5, adl s xs), (g3, adl s xs)]) Nope) a w4 := by
  obtain ⟨f, ha, hs⟩ := frKRD hf
  have e0 := (hs 0).trans h0
  have e2 := (hs 2).trans h2
  have e3 := (hs 3).trans h3
  have e4 := (hs 4).trans h4
  have e5 := (hs 5).trans h5
  have e6 := (hs 6).trans h6
  rw [e0, e2, e3, e4, e5, e6] at ha
  clear hs hf e0 h0 e2 h2 e3 h3 e4 h4 e5 h5 e6 h6
  subst ha
  refine piece2 fun J0 K0 hJ0 hK0 => ?_
  conv => arg 2; whnf
  have HM0 := HMw4
  go_wp2_with fail
  refine (aParseP_any l _ (HM0.out.gl HG.out) (by have := HLZ.out; omega)).mono ?_
  rintro e wa hp
  obtain ⟨rfl, hb⟩ := ppT hp hP.out
  clear hp
  have HMa := Lib.hid (HM0.out.past hb)
  clear hb
  go_wp2_with (refine stNP (fun w' => World.rangeAt w' wa.heap.size 0 (pfl t ys n) ∧ Below wa.heap.size wa w') (.tmp 7) (.tmp 28) rfl rfl wa.heap.size 0 t ys n rfl rfl HY.out (there_new _ _ _ _ rfl _ rfl) (fresh_p wa _ rfl t ys n HY.out) ?_; rintro wb ⟨hr, hb⟩)
  have HMb := Lib.hid (HMa.out.add hb hr)
  refine Met.intro (hJ0 _ _ ?_)
  exact ⟨wa.heap.size, ⟨rfl, rfl⟩, rfl, rfl, rfl, rfl, rfl, rfl, rfl, rfl, HMb.out⟩

set_option maxRecDepth 100000 in
set_option maxHeartbeats 4000000 in
theorem r6 (w : World) (l : Tx) (s : Bool) (t : Bool) (xs : List Int) (ys : List Int) (c : Int) (n : Int) (d : Int) (HLZ : Hid (l.length ≤ 100)) (hP : Hid (pfT l = (t, ys, n, d))) (HY : Hid (ys.length = 16)) (g3 : Nat) (g5 : Nat) (w5 : World) (g7 : Nat) (HMw5 : Hid (Hs w w5 [(g7, pfl t ys n), (g5, adl s xs), (g3, adl s xs)])) (a : Act) (hf : Fr 58 a) (h0 : sl a 0 = .string ⟨l.toArray⟩) (h2 : sl a 2 = .bool false) (h3 : sl a 3 = .pointer (some ⟨g3, 0, none⟩)) (h4 : sl a 4 = .int .i64 c) (h5 : sl a 5 = .pointer (some ⟨g5, 0, none⟩)) (h6 : sl a 6 = .int .i64 c) (h7 : sl a 7 = .pointer (some ⟨g7, 0, none⟩)) (h8 : sl a 8 = .int .i64 d) :
    Code.wp Tryd.prog (cAt [1,1,1,1,1,0] KRD) (Exit.then (fun a' w' => ∃ g9 : Nat, Fr 58 a' ∧ sl a' 0 = .string ⟨l.toArray⟩ ∧ sl a' 2 = .bool false ∧ sl a' 3 = .pointer (some ⟨g3, 0, none⟩) ∧ sl a' 4 = .int .i64 c ∧ sl a' 5 = .pointer (some ⟨g5, 0, none⟩) ∧ sl a' 6 = .int .i64 c ∧ sl a' 7 = .pointer (some ⟨g7, 0, none⟩) ∧ sl a' 8 = .int .i64 d ∧ sl a' 9 = .pointer (some ⟨g9, 0, none⟩) ∧ sl a' 10 = .int .i64 d ∧ Hs w w' [(g9, pfl t ys n), (g7, pfl t ys n), (g5, adl s xs), (g3, adl s xs)]) Nope) a w5 := by
  obtain ⟨f, ha, hs⟩ := frKRD hf
  have e0 := (hs 0).trans h0
  have e2 := (hs 2).trans h2
  have e3 := (hs 3).trans h3
  have e4 := (hs 4).trans h4
  have e5 := (hs 5).trans h5
  have e6 := (hs 6).trans h6
  have e7 := (hs 7).trans h7
  have e8 := (hs 8).trans h8
  rw [e0, e2, e3, e4, e5, e6, e7, e8] at ha
  clear hs hf e0 h0 e2 h2 e3 h3 e4 h4 e5 h5 e6 h6 e7 h7 e8 h8
  subst ha
  refine piece2 fun J0 K0 hJ0 hK0 => ?_
  conv => arg 2; whnf
  have HM0 := HMw5
  go_wp2_with fail
  refine (r4ParseP_any l _ (by have := HLZ.out; omega)).mono ?_
  rintro e wa hp
  obtain ⟨rfl, hb⟩ := ppT hp hP.out
  clear hp
  have HMa := Lib.hid (HM0.out.past hb)
  clear hb
  go_wp2_with (refine stNQ (fun w' => World.rangeAt w' wa.heap.size 0 (pfl t ys n) ∧ Below wa.heap.size wa w') (.tmp 9) (.tmp 33) rfl rfl wa.heap.size 0 t ys n rfl rfl HY.out (there_new _ _ _ _ rfl _ rfl) (fresh_q wa _ rfl t ys n HY.out) ?_; rintro wb ⟨hr, hb⟩)
  have HMb := Lib.hid (HMa.out.add hb hr)
  refine Met.intro (hJ0 _ _ ?_)
  exact ⟨wa.heap.size, ⟨rfl, rfl⟩, rfl, rfl, rfl, rfl, rfl, rfl, rfl, rfl, rfl, rfl, HMb.out⟩

set_option maxRecDepth 100000 in
set_option maxHeartbeats 4000000 in
theorem r7 (w : World) (l : Tx) (HG : Hid (Gl w)) (s : Bool) (t : Bool) (xs : List Int) (ys : List Int) (c : Int) (n : Int) (d : Int) (HX : Hid (xs.length = 16)) (HY : Hid (ys.length = 16)) (g3 : Nat) (g5 : Nat) (g7 : Nat) (w6 : World) (g9 : Nat) (HMw6 : Hid (Hs w w6 [(g9, pfl t ys n), (g7, pfl t ys n), (g5, adl s xs), (g3, adl s xs)])) (a : Act) (hf : Fr 58 a) (h0 : sl a 0 = .string ⟨l.toArray⟩) (h2 : sl a 2 = .bool false) (h3 : sl a 3 = .pointer (some ⟨g3, 0, none⟩)) (h4 : sl a 4 = .int .i64 c) (h5 : sl a 5 = .pointer (some ⟨g5, 0, none⟩)) (h6 : sl a 6 = .int .i64 c) (h7 : sl a 7 = .pointer (some ⟨g7, 0, none⟩)) (h8 : sl a 8 = .int .i64 d) (h9 : sl a 9 = .pointer (some ⟨g9, 0, none⟩)) (h10 : sl a 10 = .int .i64 d) :
    Code.wp Tryd.prog (cAt [1,1,1,1,1,1,0] KRD) (Exit.then (fun a' w' => Fr 58 a' ∧ sl a' 2 = .bool true ∧ Below w.heap.size w w') Nope) a w6 := by
  obtain ⟨f, ha, hs⟩ := frKRD hf
  have e0 := (hs 0).trans h0
  have e2 := (hs 2).trans h2
  have e3 := (hs 3).trans h3
  have e4 := (hs 4).trans h4
  have e5 := (hs 5).trans h5
  have e6 := (hs 6).trans h6
  have e7 := (hs 7).trans h7
  have e8 := (hs 8).trans h8
  have e9 := (hs 9).trans h9
  have e10 := (hs 10).trans h10
  rw [e0, e2, e3, e4, e5, e6, e7, e8, e9, e10] at ha
  clear hs hf e0 h0 e2 h2 e3 h3 e4 h4 e5 h5 e6 h6 e7 h7 e8 h8 e9 h9 e10 h10
  subst ha
  refine piece2 fun J0 K0 hJ0 hK0 => ?_
  conv => arg 2; whnf
  have HMd := Lib.hid (HMw6.out.past (Below.refl _ _).drew)
  refine wp_region_held_drew (S := fun w' => Hs w w' [(g9, pfl t ys n), (g7, pfl t ys n), (g5, adl s xs), (g3, adl s xs)]) (by kernel_rfl) HMd.out (fun hS => ?_)
  refine tk 0 35 (.agg (adl s xs).toArray) rfl rfl (by kernel_rfl) (by kernel_rfl) (by kernel_rfl) (fun _ _ _ h => h) (yieldsIf_load_mid (by rfl) _ _ rfl (g3) (0) rfl (adl s xs) _ (fun w' h' => h'.at_ g3 (adl s xs) (by simp)) Tryd.underlying24 rfl (by rw [adl_len s xs HX.out]; exact infA)) hS ?_
  try simp only [Act.put, List.setIfInBounds_toArray, List.set_cons_zero, List.set_cons_succ]
  refine tk 2 37 (.agg (adl s xs).toArray) rfl rfl (by kernel_rfl) (by kernel_rfl) (by kernel_rfl) (fun _ _ _ h => h) (yieldsIf_load_mid (by rfl) _ _ rfl (g5) (0) rfl (adl s xs) _ (fun w' h' => h'.at_ g5 (adl s xs) (by simp)) Tryd.underlying27 rfl (by rw [adl_len s xs HX.out]; exact infR)) hS ?_
  try simp only [Act.put, List.setIfInBounds_toArray, List.set_cons_zero, List.set_cons_succ]
  refine wpAnyH_ready (rs := [1]) (by kernel_rfl) (by simp) (AllReadyH.cons rfl (fun K hK => ?_) AllReadyH.nil)
  rw [if_pos (by rfl)]
  go_wp2_with fail
  refine (dAddr_any s xs _ HX.out).mono ?_
  rintro e wa ⟨rfl, hb⟩
  have HMe := Lib.hid (HMd.out.past hb)
  clear hb
  clear hS
  refine hK.out _ _ (HMe.out) (fun hS => ?_)
  clear hK K
  try simp only [Act.put, List.setIfInBounds_toArray, List.set_cons_zero, List.set_cons_succ]
  refine tk 3 38 (.bool true) rfl rfl (by kernel_rfl) (by kernel_rfl) (by kernel_rfl) (fun _ _ _ h => h) (Or.inl ⟨by rfl, fun w' h' => ?_⟩) hS ?_
  · have q : ∀ w', (Op.equalIn 10000 27 (.agg (adl s xs).toArray) (.agg (adl s xs).toArray)).run Tryd.prog w' = .ok true w' := fun w' => by rw [eqR w' 9997 _ _ _ _ HX.out HX.out, decide_eq_true (And.intro rfl rfl)]
    go_simp
  try simp only [Act.put, List.setIfInBounds_toArray, List.set_cons_zero, List.set_cons_succ]
  refine tk 4 39 (.bool true) rfl rfl (by kernel_rfl) (by kernel_rfl) (by kernel_rfl) (fun _ _ _ h => h) (Or.inl ⟨by rfl, fun w' h' => ?_⟩) hS ?_
  · go_simp
  try simp only [Act.put, List.setIfInBounds_toArray, List.set_cons_zero, List.set_cons_succ]
  refine tk 5 40 (.int .i64 c) rfl rfl (by kernel_rfl) (by kernel_rfl) (by kernel_rfl) (fun _ _ _ h => h) (Or.inl ⟨by rfl, fun w' h' => ?_⟩) hS ?_
  · go_simp
  try simp only [Act.put, List.setIfInBounds_toArray, List.set_cons_zero, List.set_cons_succ]
  refine tk 6 41 (.int .i64 c) rfl rfl (by kernel_rfl) (by kernel_rfl) (by kernel_rfl) (fun _ _ _ h => h) (Or.inl ⟨by rfl, fun w' h' => ?_⟩) hS ?_
  · go_simp
  try simp only [Act.put, List.setIfInBounds_toArray, List.set_cons_zero, List.set_cons_succ]
  refine tk 7 42 (.bool true) rfl rfl (by kernel_rfl) (by kernel_rfl) (by kernel_rfl) (fun _ _ _ h => h) (Or.inl ⟨by rfl, fun w' h' => ?_⟩) hS ?_
  · go_simp
  try simp only [Act.put, List.setIfInBounds_toArray, List.set_cons_zero, List.set_cons_succ]
  refine tk 8 43 (.bool true) rfl rfl (by kernel_rfl) (by kernel_rfl) (by kernel_rfl) (fun _ _ _ h => h) (Or.inl ⟨by rfl, fun w' h' => ?_⟩) hS ?_
  · go_simp
  try simp only [Act.put, List.setIfInBounds_toArray, List.set_cons_zero, List.set_cons_succ]
  refine tk 9 44 (.bool true) rfl rfl (by kernel_rfl) (by kernel_rfl) (by kernel_rfl) (fun _ _ _ h => h) (Or.inl ⟨by rfl, fun w' h' => ?_⟩) hS ?_
  · go_simp
  try simp only [Act.put, List.setIfInBounds_toArray, List.set_cons_zero, List.set_cons_succ]
  refine tk 10 45 (.agg (pfl t ys n).toArray) rfl rfl (by kernel_rfl) (by kernel_rfl) (by kernel_rfl) (fun _ _ _ h => h) (yieldsIf_load_mid (by rfl) _ _ rfl (g7) (0) rfl (pfl t ys n) _ (fun w' h' => h'.at_ g7 (pfl t ys n) (by simp)) Tryd.underlying48 rfl (by rw [pfl_len t ys n HY.out]; exact infP)) hS ?_
  try simp only [Act.put, List.setIfInBounds_toArray, List.set_cons_zero, List.set_cons_succ]
  refine tk 12 47 (.agg (pfl t ys n).toArray) rfl rfl (by kernel_rfl) (by kernel_rfl) (by kernel_rfl) (fun _ _ _ h => h) (yieldsIf_load_mid (by rfl) _ _ rfl (g9) (0) rfl (pfl t ys n) _ (fun w' h' => h'.at_ g9 (pfl t ys n) (by simp)) Tryd.underlying52 rfl (by rw [pfl_len t ys n HY.out]; exact infQ)) hS ?_
  try simp only [Act.put, List.setIfInBounds_toArray, List.set_cons_zero, List.set_cons_succ]
  refine wpAnyH_ready (rs := [11]) (by kernel_rfl) (by simp) (AllReadyH.cons rfl (fun K hK => ?_) AllReadyH.nil)
  rw [if_pos (by rfl)]
  go_wp2_with fail
  refine (dPrefix_any t ys n _ HY.out).mono ?_
  rintro e wb ⟨rfl, hb⟩
  have HMf := Lib.hid (HMe.out.past hb)
  clear hb
  clear hS
  refine hK.out _ _ (HMf.out) (fun hS => ?_)
  clear hK K
  try simp only [Act.put, List.setIfInBounds_toArray, List.set_cons_zero, List.set_cons_succ]
  refine tk 13 48 (.bool true) rfl rfl (by kernel_rfl) (by kernel_rfl) (by kernel_rfl) (fun _ _ _ h => h) (Or.inl ⟨by rfl, fun w' h' => ?_⟩) hS ?_
  · have q : ∀ w', (Op.equalIn 10000 52 (.agg (pfl t ys n).toArray) (.agg (pfl t ys n).toArray)).run Tryd.prog w' = .ok true w' := fun w' => by rw [eqQ w' 9996 _ _ _ _ _ _ HY.out HY.out, decide_eq_true (And.intro (And.intro rfl rfl) rfl)]
    go_simp
  try simp only [Act.put, List.setIfInBounds_toArray, List.set_cons_zero, List.set_cons_succ]
  refine tk 14 49 (.bool true) rfl rfl (by kernel_rfl) (by kernel_rfl) (by kernel_rfl) (fun _ _ _ h => h) (Or.inl ⟨by rfl, fun w' h' => ?_⟩) hS ?_
  · go_simp
  try simp only [Act.put, List.setIfInBounds_toArray, List.set_cons_zero, List.set_cons_succ]
  refine tk 15 50 (.bool true) rfl rfl (by kernel_rfl) (by kernel_rfl) (by kernel_rfl) (fun _ _ _ h => h) (Or.inl ⟨by rfl, fun w' h' => ?_⟩) hS ?_
  · go_simp
  try simp only [Act.put, List.setIfInBounds_toArray, List.set_cons_zero, List.set_cons_succ]
  refine tk 16 51 (.int .i64 d) rfl rfl (by kernel_rfl) (by kernel_rfl) (by kernel_rfl) (fun _ _ _ h => h) (Or.inl ⟨by rfl, fun w' h' => ?_⟩) hS ?_
  · go_simp
  try simp only [Act.put, List.setIfInBounds_toArray, List.set_cons_zero, List.set_cons_succ]
  refine tk 17 52 (.int .i64 d) rfl rfl (by kernel_rfl) (by kernel_rfl) (by kernel_rfl) (fun _ _ _ h => h) (Or.inl ⟨by rfl, fun w' h' => ?_⟩) hS ?_
  · go_simp
  try simp only [Act.put, List.setIfInBounds_toArray, List.set_cons_zero, List.set_cons_succ]
  refine tk 18 53 (.bool true) rfl rfl (by kernel_rfl) (by kernel_rfl) (by kernel_rfl) (fun _ _ _ h => h) (Or.inl ⟨by rfl, fun w' h' => ?_⟩) hS ?_
  · go_simp
  try simp only [Act.put, List.setIfInBounds_toArray, List.set_cons_zero, List.set_cons_succ]
  refine tk 19 54 (.bool true) rfl rfl (by kernel_rfl) (by kernel_rfl) (by kernel_rfl) (fun _ _ _ h => h) (Or.inl ⟨by rfl, fun w' h' => ?_⟩) hS ?_
  · go_simp
  try simp only [Act.put, List.setIfInBounds_toArray, List.set_cons_zero, List.set_cons_succ]
  refine tk 20 55 (.bool true) rfl rfl (by kernel_rfl) (by kernel_rfl) (by kernel_rfl) (fun _ _ _ h => h) (Or.inl ⟨by rfl, fun w' h' => ?_⟩) hS ?_
  · go_simp
  try simp only [Act.put, List.setIfInBounds_toArray, List.set_cons_zero, List.set_cons_succ]
  refine wpAnyH_ready (rs := [21]) (by kernel_rfl) (by simp) (AllReadyH.cons rfl (fun K hK => ?_) AllReadyH.nil)
  rw [if_pos (by rfl)]
  go_wp2_with fail
  refine (l4works_any _ (HMf.out.gl HG.out)).mono ?_
  rintro e wc ⟨rfl, hb⟩
  have HMg := Lib.hid (HMf.out.past hb)
  clear hb
  clear hS
  refine hK.out _ _ (HMg.out) (fun hS => ?_)
  clear hK K
  try simp only [Act.put, List.setIfInBounds_toArray, List.set_cons_zero, List.set_cons_succ]
  refine tk 22 57 (.bool true) rfl rfl (by kernel_rfl) (by kernel_rfl) (by kernel_rfl) (fun _ _ _ h => h) (Or.inl ⟨by rfl, fun w' h' => ?_⟩) hS ?_
  · go_simp
  try simp only [Act.put, List.setIfInBounds_toArray, List.set_cons_zero, List.set_cons_succ]
  refine tk 23 2 (.bool true) rfl rfl (by kernel_rfl) (by kernel_rfl) (by kernel_rfl) (fun _ _ _ h => h) (Or.inl ⟨by rfl, fun w' h' => ?_⟩) hS ?_
  · go_simp
  refine wpAnyH_done (by kernel_rfl) ?_ _
  go_wp2_with fail
  refine Met.intro (hJ0 _ _ ?_)
  exact ⟨⟨rfl, rfl⟩, rfl, HMg.out.1⟩

set_option maxRecDepth 100000 in
set_option maxHeartbeats 4000000 in
theorem rend (w wr : World) (hb : Below w.heap.size w wr) (a : Act) (hf : Fr 58 a) (h2 : sl a 2 = .bool true) :
    Code.wp Tryd.prog (cAt [1,1,1,1,1,1,1] KRD) (bodyPost Tryd.prog Tryd.f4 (YesB w)) a wr := by
  have HB := Lib.hid hb
  clear hb
  obtain ⟨f, ha, hs⟩ := frKRD hf
  have e2 := (hs 2).trans h2
  rw [e2] at ha
  clear hs hf e2 h2
  subst ha
  conv => arg 2; whnf
  go_wp2_with fail
  refine ⟨rfl, .bool true, ?_, ⟨rfl, HB.out⟩⟩
  simp [results, Tryd.results4, go_sem]

theorem reads4_any (l : Tx) (w : World) (HG : Gl w) : Calls Tryd.prog 4 #[.string ⟨l.toArray⟩] w (YesB w) := by
  refine calls_of_wp (c := KRD) Tryd.func4 (by kernel_rfl) ?_
  have hf : Fr 58 { tmps := #[.string ⟨l.toArray⟩] ++ Array.replicate (Tryd.f4.ntmps - (#[.string ⟨l.toArray⟩] : Array Value).size) undef, defers := [] } := ⟨rfl, by simp [Tryd.ntmps4]⟩
  generalize ha : ({ tmps := #[.string ⟨l.toArray⟩] ++ Array.replicate (Tryd.f4.ntmps - (#[.string ⟨l.toArray⟩] : Array Value).size) undef, defers := [] } : Act) = a at hf ⊢
  have h0 : sl a 0 = .string ⟨l.toArray⟩ := by rw [← ha]; exact sl_at _ _ 0 _ rfl
  clear ha
  refine wp_sqR (x := cAt [0] KRD) (y := cAt [1] KRD) (by kernel_rfl) (r0 w l a hf h0) ?_
  rintro a_1 _ ⟨hf, h0, h2, rfl⟩
  obtain ⟨bb, hbb⟩ : ∃ b, decide (100 < l.length) = b := ⟨_, rfl⟩
  refine wp_sqG (x := cAt [1,0] KRD) (y := cAt [1,1] KRD) (by kernel_rfl) ?_
  refine wp_sqR (x := cAt [1,0,0] KRD) (y := cAt [1,0,1] KRD) (by kernel_rfl) (r1 w l bb hbb a_1 hf h0 h2) ?_
  rintro a_2 _ ⟨hf, h0, h2, h13, rfl⟩
  cases bb
  case true =>
    refine wp_onT (A := cAt [1,0,1,3] KRD) (B := cAt [1,0,1,4] KRD) (by kernel_rfl) h13 ?_
    exact wp_endB (rw_ w HG a_2 hf) (fun a' w' h => h)
  refine wp_onF (A := cAt [1,0,1,3] KRD) (B := cAt [1,0,1,4] KRD) (by kernel_rfl) h13 ?_
  refine wp_skipR (by kernel_rfl) ?_
  have HLZ : Hid (l.length ≤ 100) := by have := of_decide_eq_false hbb; show _ ≤ _; omega
  obtain ⟨s, xs, c, hT⟩ : ∃ s xs c, adT l = (s, xs, c) := ⟨_, _, _, rfl⟩
  obtain ⟨t, ys, n, d, hP⟩ : ∃ t ys n d, pfT l = (t, ys, n, d) := ⟨_, _, _, _, rfl⟩
  have HX : Hid (xs.length = 16) := by have := adT_len l; rw [hT] at this; exact this
  have HY : Hid (ys.length = 16) := by have := pfT_len l; rw [hP] at this; exact this
  refine wp_sqR (x := cAt [1,1,0] KRD) (y := cAt [1,1,1] KRD) (by kernel_rfl) (r3 w l HG s xs c HLZ hT HX a_2 hf h0 h2) ?_
  rintro a_3 w3 ⟨g3, hf, h0, h2, h3, h4, HMw3⟩
  refine wp_sqR (x := cAt [1,1,1,0] KRD) (y := cAt [1,1,1,1] KRD) (by kernel_rfl) (r4 w l s xs c HLZ hT HX w3 g3 HMw3 a_3 hf h0 h2 h3 h4) ?_
  rintro a_4 w4 ⟨g5, hf, h0, h2, h3, h4, h5, h6, HMw4⟩
  refine wp_sqR (x := cAt [1,1,1,1,0] KRD) (y := cAt [1,1,1,1,1] KRD) (by kernel_rfl) (r5 w l HG s t xs ys c n d HLZ hP HY g3 w4 g5 HMw4 a_4 hf h0 h2 h3 h4 h5 h6) ?_
  rintro a_5 w5 ⟨g7, hf, h0, h2, h3, h4, h5, h6, h7, h8, HMw5⟩
  refine wp_sqR (x := cAt [1,1,1,1,1,0] KRD) (y := cAt [1,1,1,1,1,1] KRD) (by kernel_rfl) (r6 w l s t xs ys c n d HLZ hP HY g3 g5 w5 g7 HMw5 a_5 hf h0 h2 h3 h4 h5 h6 h7 h8) ?_
  rintro a_6 w6 ⟨g9, hf, h0, h2, h3, h4, h5, h6, h7, h8, h9, h10, HMw6⟩
  refine wp_sqR (x := cAt [1,1,1,1,1,1,0] KRD) (y := cAt [1,1,1,1,1,1,1] KRD) (by kernel_rfl) (r7 w l HG s t xs ys c n d HX HY g3 g5 g7 w6 g9 HMw6 a_6 hf h0 h2 h3 h4 h5 h6 h7 h8 h9 h10) ?_
  rintro a_7 w7 ⟨hf, h2, HM7⟩
  exact rend w w7 HM7 a_7 hf h2
end Go.Proofs.YtbnfmiopgjmppaaDoor

namespace Go.Proofs.YtbnfmiopgjmppaaDoor
open Go.ChangeShapes Go.WideShapes Go.ChangeAt Go.RowKit

set_option maxRecDepth 100000 in
theorem reads4_lifted (os : Os) (started : os.Started) (H : Type) (enc : TypeId × Value → H) :
    ReturnsInHanded {} Tryd.checked os 4 .any (fun w args => (Rows.addrReadsSpec.pre enc Tryd.prog Tryd.f4 [] false w args ∧ laidMetH Tryd.prog laid4 w) ∧ sizedMet enc Tryd.prog Tryd.f4 (OpenSpec.ofChange Rows.addrReadsSpec) false w args)
      (Rows.addrReadsSpec.post enc Tryd.prog Tryd.f4 false true false false) := by
  refine returnsInHanded_laid (C := Tryd.checked) (X := fun w _ => laidMetH Tryd.prog laid4 w) (fun _ _ _ hh h => h.of_heap hh) own started (by kernel_rfl) Tryd.func4
    (ChangeSpec.witness_shaped (enc := enc) (C := Tryd.checked) (os := os) (X := fun w _ => laidMetH Tryd.prog laid4 w) false (World.doorLaid Tryd.prog 65 os) #[.string ⟨#[]⟩] 8 rfl (World.shaped_of_RefB (by kernel_rfl) (by kernel_rfl)) (by kernel_rfl) (by kernel_rfl) (by kernel_rfl) (door_met os _)) ?_
  intro W base args ds gs before hval0 hW hL hsh
  have hval : ∀ (j : Nat) t v, Tryd.f4.params[j]? = some t → args[j]? = some v → Value.okWide Tryd.prog W .any base t v := hval0
  have hW' := hW
  obtain ⟨p, q, hA0, hV, rfl, hfz, hnd⟩ := hW
  have hA : DataW.TrodAll enc Tryd.prog W 0 (fun _ => true) true Tryd.f4.params.toList args.toList ds p := hA0
  rw [Tryd.params4] at hA hval
  obtain ⟨v0, vs0, d0, ds0, p0, q0, hargs, rfl, rfl, h0, r0⟩ := trodAll_cons hA
  obtain ⟨rfl, rfl, rfl⟩ := trodAll_nil r0
  obtain rfl : args = #[v0] := by cases args; simp_all
  obtain ⟨rfl, rfl⟩ := trodVars_none hV
  have k0 := h0
  obtain ⟨b0, rfl, rfl, rfl, hz0⟩ := Go.ChangeMaps.open_string Tryd.underlying9 (hval 0 9 v0 rfl rfl) h0
  have lt0 : ∀ x ∈ ([] : List MemPlace), x.block < W.heap.size := fun x hx => by cases hx
  obtain ⟨l, rfl⟩ : ∃ l : List UInt8, b0 = ⟨l.toArray⟩ := ⟨b0.data.toList, by cases b0; simp⟩
  have hg := gl_of_laid hL hsh
  clear hA0 hval0
  refine (reads4_any l W hg).mono fun e W' ⟨he, bel⟩ => ?_
  subst he
  exact ⟨_, rfl, _, _, _, [], _, [], hW', trodAll_mk1 (shut_bool Tryd.underlying4 _), (trodAll_cons_mk (Below.trod laidOut (by kernel_rfl) (of_decide_eq_true (by kernel_rfl)) k0 bel lt0) trodAll_mk0), rfl, bel.frame _, fun h => by cases h⟩

theorem reads4_row : Rows.AddrReadsSaid :=
  OpenClaim.holds_of_wide 4 Tryd.f4 rfl rfl rfl rfl rfl rfl rfl ⟨rfl, rfl, rfl, rfl, rfl⟩ rfl rfl rfl rfl rfl (by kernel_rfl) Tryd.func4 (by kernel_rfl)
    (of_decide_eq_true (by kernel_rfl)) (by unfold Func.isWrapper; first | (rw [if_pos (by decide +kernel)]; kernel_rfl) | (rw [if_neg (by decide +kernel)]; exact ⟨rfl, rfl⟩))
    (fun os started H enc _ => reads4_lifted os started H enc)

theorem reads4_holds : Rows.AddrReadsCardSaid :=
  Claim7.holds_tied_plain_at .later [] [.data, .data, .data, .sentinel, .sentinel] true (true, "d765c7bff311505dba8c1fbb2a976845b1b3d64d6e3bfceb2f418aba48108a5e") true
    reads4_row (fun _ h => by cases h) (by kernel_rfl) (fun _ h => by cases h) addrReads_row_tie rfl ⟨rfl, rfl⟩ (by kernel_rfl) rfl
    (fun f fn hf hfn => by
      obtain rfl : f = 4 := Option.some.inj ((show Tryd.prog.funcNamed "octroi/octroilaw04.AddrReads" = some 4 by kernel_rfl).symm.trans hf) |>.symm
      obtain rfl : fn = Tryd.f4 := (Option.some.inj (Tryd.func4.symm.trans hfn)).symm
      exact ⟨by kernel_rfl, fun j t ht => by
        rw [Tryd.params4] at ht
        have hm : t ∈ [9] := by simpa using Array.mem_of_getElem? ht
        have hall : ([9].all fun u => !Tryd.prog.wantsStandIn u) = true := by kernel_rfl
        exact (show Tryd.prog.wantsStandIn t = false by simpa using List.all_eq_true.1 hall t hm)⟩)
    (by kernel_rfl)
#print axioms reads4_holds
end Go.Proofs.YtbnfmiopgjmppaaDoor

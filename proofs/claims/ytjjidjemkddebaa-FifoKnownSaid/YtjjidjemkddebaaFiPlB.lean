/-
  FifoPlays' arms in pieces. Conditions: those that the theorems name. (Made by gen_fipl.py.)
-/
import Derived.Test.YtjjidjemkddebaaFiPlA
namespace Go.Proofs.Ytjjidjemkddebaa
open Go.RowKit

set_option maxRecDepth 100000 in
set_option maxHeartbeats 4000000 in
theorem p26 (w wr : World) (n c g br k xb xo px : Nat) (q : Qs) (ra : Option Addr) (m rc : Nat) (HW : Hid (Pw w wr g br q ra m rc)) (a : Act) (hf : Fr 158 a) (h2 : sl a 2 = .slice (some ⟨xb, xo, none⟩) n c) (h7 : sl a 7 = .pointer (some ⟨g, 0, none⟩)) (h9 : sl a 9 = .pointer (some ⟨br, 0, none⟩)) (h11 : sl a 11 = .int .i64 (k : Int)) (h12 : sl a 12 = .pointer (some ⟨px, 0, none⟩)) :
    Code.wp Try.prog (cAt [1,1,1,1,1,1,0,1,2,2,1,0,2,1,1,1,0,1,2,1,3,0] KP) (Exit.then (fun a' w' => ∃ (b13 b14 : Nat) (a1 : Option Addr) (n1 c1 : Nat), Fr 158 a' ∧ sl a' 2 = .slice (some ⟨xb, xo, none⟩) n c ∧ sl a' 7 = .pointer (some ⟨g, 0, none⟩) ∧ sl a' 9 = .pointer (some ⟨br, 0, none⟩) ∧ sl a' 11 = .int .i64 (k : Int) ∧ sl a' 12 = .pointer (some ⟨px, 0, none⟩) ∧ sl a' 13 = .pointer (some ⟨b13, 0, none⟩) ∧ sl a' 14 = .pointer (some ⟨b14, 0, none⟩) ∧ sl a' 15 = .bool q.abs.has ∧ Below wr.heap.size wr w' ∧ w'.heap[b13]? = some (.cells #[.slice a1 n1 c1, .int .i64 q.I, .int .i64 q.S, .int .u64 q.D] 32 (0, 0)) ∧ w'.heap[b14]? = some (.cells q.abs.hd.cs.toArray 42 (0, 0)) ∧ Rt w' a1 n1 q.abs.pop.l ∧ n1 ≤ c1) Nope) a wr := by
  obtain ⟨f, ha, hs⟩ := fr158 hf
  have e2 := (hs 2).trans h2
  have e7 := (hs 7).trans h7
  have e9 := (hs 9).trans h9
  have e11 := (hs 11).trans h11
  have e12 := (hs 12).trans h12
  rw [e2, e7, e9, e11, e12] at ha
  clear hs hf e2 h2 e7 h7 e9 h9 e11 h11 e12 h12
  subst ha
  refine piece2 fun J0 K0 hJ0 hK0 => ?_
  conv => arg 2; whnf
  have c0 := q4_0 HW.out.box
  have c1 := q4_1 HW.out.box
  have c2 := q4_2 HW.out.box
  have c3 := q4_3 HW.out.box
  go_wp2_with fail
  refine (rPop_any ra m rc q.abs wr HW.out.rt HW.out.nc HW.out.m6).mono ?_
  rintro e w1 ⟨hb1, a1, n1, c1', rfl, hr1, hc1⟩
  obtain ⟨hno, hsz, hs, hhd⟩ : ∃ (hno hsz : Int) (hs : ByteArray), q.abs.hd.v = .agg #[.int .u64 hno, .int .i64 hsz, .string hs] ∧ q.abs.hd.cs.toArray = #[.int .u64 hno, .int .i64 hsz, .string hs] := ⟨q.abs.hd.no, q.abs.hd.sz, str q.abs.hd.d, rfl, rfl⟩
  have hq : rqv a1 n1 c1' q.abs.pop = .agg #[.slice a1 n1 c1', .int .i64 q.I, .int .i64 q.S, .int .u64 q.D] := rfl
  rw [hhd.1, hq]
  have hal : Below w1.heap.size w1 ((w1.alloc (.cells #[.slice a1 n1 c1', .int .i64 q.I, .int .i64 q.S, .int .u64 q.D] 32)).alloc (.cells #[.int .u64 hno, .int .i64 hsz, .string hs] 42)) := ((Below.refl _ _).alloc (Nat.le_refl _) _).alloc (by simp) _
  have hbx : ((w1.alloc (.cells #[.slice a1 n1 c1', .int .i64 q.I, .int .i64 q.S, .int .u64 q.D] 32)).alloc (.cells #[.int .u64 hno, .int .i64 hsz, .string hs] 42)).heap[w1.heap.size + 1]? = some (.cells #[.int .u64 hno, .int .i64 hsz, .string hs] 42 (0, 0)) := by
    have := Blk_new (w1.alloc (.cells #[.slice a1 n1 c1', .int .i64 q.I, .int .i64 q.S, .int .u64 q.D] 32)) #[.int .u64 hno, .int .i64 hsz, .string hs] 42
    simpa using this
  have hbq : ((w1.alloc (.cells #[.slice a1 n1 c1', .int .i64 q.I, .int .i64 q.S, .int .u64 q.D] 32)).alloc (.cells #[.int .u64 hno, .int .i64 hsz, .string hs] 42)).heap[w1.heap.size]? = some (.cells #[.slice a1 n1 c1', .int .i64 q.I, .int .i64 q.S, .int .u64 q.D] 32 (0, 0)) := by
    have h1 := Blk_new w1 #[.slice a1 n1 c1', .int .i64 q.I, .int .i64 q.S, .int .u64 q.D] 32
    exact ((show Below (w1.alloc (.cells #[.slice a1 n1 c1', .int .i64 q.I, .int .i64 q.S, .int .u64 q.D] 32)).heap.size (w1.alloc (.cells #[.slice a1 n1 c1', .int .i64 q.I, .int .i64 q.S, .int .u64 q.D] 32)) _ from (Below.refl _ _).alloc (Nat.le_refl _) _).block _ (Array.getElem?_eq_some_iff.1 h1).1).trans h1
  rw [← hhd.2] at hbx
  have H1 : Hid (Below wr.heap.size wr ((w1.alloc (.cells #[.slice a1 n1 c1', .int .i64 q.I, .int .i64 q.S, .int .u64 q.D] 32)).alloc (.cells #[.int .u64 hno, .int .i64 hsz, .string hs] 42)) ∧ ((w1.alloc (.cells #[.slice a1 n1 c1', .int .i64 q.I, .int .i64 q.S, .int .u64 q.D] 32)).alloc (.cells #[.int .u64 hno, .int .i64 hsz, .string hs] 42)).heap[w1.heap.size]? = some (.cells #[.slice a1 n1 c1', .int .i64 q.I, .int .i64 q.S, .int .u64 q.D] 32 (0, 0)) ∧ ((w1.alloc (.cells #[.slice a1 n1 c1', .int .i64 q.I, .int .i64 q.S, .int .u64 q.D] 32)).alloc (.cells #[.int .u64 hno, .int .i64 hsz, .string hs] 42)).heap[w1.heap.size + 1]? = some (.cells q.abs.hd.cs.toArray 42 (0, 0)) ∧ Rt ((w1.alloc (.cells #[.slice a1 n1 c1', .int .i64 q.I, .int .i64 q.S, .int .u64 q.D] 32)).alloc (.cells #[.int .u64 hno, .int .i64 hsz, .string hs] 42)) a1 n1 q.abs.pop.l ∧ n1 ≤ c1') :=
    ⟨hb1.trans (hal.mono hb1.size), hbq, by rw [← hhd.2]; exact hbx, hr1.below hal, hc1⟩
  clear hal hbx hb1 hq hhd hbq hr1 hc1 c0 c1 c2 c3
  go_wp2_with fail
  refine Met.intro (hJ0 _ _ ?_)
  exact ⟨w1.heap.size, w1.heap.size + 1, a1, n1, c1', ⟨rfl, rfl⟩, rfl, rfl, rfl, rfl, rfl, rfl, rfl, rfl, H1.out⟩

set_option maxRecDepth 100000 in
set_option maxHeartbeats 4000000 in
theorem p27 (w wr : World) (n c g br k xb xo px : Nat) (q : Qs) (ra : Option Addr) (m rc : Nat) (b13 b14 : Nat) (a1 : Option Addr) (n1 c1 : Nat) (hb : Bool) (HW : Hid (Pw w wr g br q ra m rc)) (HN : Hid (wr.heap[b13]? = some (.cells #[.slice a1 n1 c1, .int .i64 q.I, .int .i64 q.S, .int .u64 q.D] 32 (0, 0)))) (H14 : Hid (wr.heap[b14]? = some (.cells q.abs.hd.cs.toArray 42 (0, 0)))) (HR : Hid (Rt wr a1 n1 q.abs.pop.l)) (hc1 : n1 ≤ c1) (a : Act) (hf : Fr 158 a) (h2 : sl a 2 = .slice (some ⟨xb, xo, none⟩) n c) (h7 : sl a 7 = .pointer (some ⟨g, 0, none⟩)) (h9 : sl a 9 = .pointer (some ⟨br, 0, none⟩)) (h11 : sl a 11 = .int .i64 (k : Int)) (h12 : sl a 12 = .pointer (some ⟨px, 0, none⟩)) (h13 : sl a 13 = .pointer (some ⟨b13, 0, none⟩)) (h14 : sl a 14 = .pointer (some ⟨b14, 0, none⟩)) (h15 : sl a 15 = .bool hb) :
    Code.wp Try.prog (cAt [1,1,1,1,1,1,0,1,2,2,1,0,2,1,1,1,0,1,2,1,3,1,0] KP) (Exit.then (fun a' w' => ∃ (q' : Qs) (b16 : Nat) (y : Pi), Fr 158 a' ∧ sl a' 2 = .slice (some ⟨xb, xo, none⟩) n c ∧ sl a' 7 = .pointer (some ⟨g, 0, none⟩) ∧ sl a' 9 = .pointer (some ⟨br, 0, none⟩) ∧ sl a' 11 = .int .i64 (k : Int) ∧ sl a' 12 = .pointer (some ⟨px, 0, none⟩) ∧ sl a' 13 = .pointer (some ⟨b13, 0, none⟩) ∧ sl a' 14 = .pointer (some ⟨b14, 0, none⟩) ∧ sl a' 15 = .bool hb ∧ sl a' 16 = .pointer (some ⟨b16, 0, none⟩) ∧ sl a' 17 = .bool q.abs.has ∧ Pp w w' g br b13 q' a1 n1 c1 ∧ q'.D = q.D ∧ w'.heap[b14]? = some (.cells q.abs.hd.cs.toArray 42 (0, 0)) ∧ w'.heap[b16]? = some (.cells y.cs.toArray 37 (0, 0)) ∧ y.at_ w' ∧ y.it = q.abs.hd) Nope) a wr := by
  obtain ⟨f, ha, hs⟩ := fr158 hf
  have e2 := (hs 2).trans h2
  have e7 := (hs 7).trans h7
  have e9 := (hs 9).trans h9
  have e11 := (hs 11).trans h11
  have e12 := (hs 12).trans h12
  have e13 := (hs 13).trans h13
  have e14 := (hs 14).trans h14
  have e15 := (hs 15).trans h15
  rw [e2, e7, e9, e11, e12, e13, e14, e15] at ha
  clear hs hf e2 h2 e7 h7 e9 h9 e11 h11 e12 h12 e13 h13 e14 h14 e15 h15
  subst ha
  refine piece2 fun J0 K0 hJ0 hK0 => ?_
  conv => arg 2; whnf
  go_wp2_with fail
  refine (pop_uni w.heap.size g q wr HW.out.qu).mono ?_
  rintro e w1 ⟨y, q', rfl, hyi, hya, hq, ha, hk⟩
  obtain ⟨no, sz, ya, yn, yc, yd⟩ := y
  have hal : Below w1.heap.size w1 (w1.alloc (.cells #[.int .u64 no, .int .i64 sz, .slice ya yn yc] 37)) := (Below.refl _ _).alloc (Nat.le_refl _) _
  have hI : q'.I = q.I := congrArg Aq.I ha
  have hS : q'.S = q.S := congrArg Aq.S ha
  have hD : q'.D = q.D := congrArg Aq.D ha
  have h14 := hk.heap H14.out (HW.out.qu.apart H14.out (by decide) (by decide) (by decide))
  have hp : Pp w w1 g br b13 q' a1 n1 c1 := HW.out.step hq hk (by rw [ha]; exact HR.out) hc1 (by rw [hI, hS, hD]; exact HN.out)
  have H1 : Hid (Pp w (w1.alloc (.cells #[.int .u64 no, .int .i64 sz, .slice ya yn yc] 37)) g br b13 q' a1 n1 c1 ∧ q'.D = q.D ∧ (w1.alloc (.cells #[.int .u64 no, .int .i64 sz, .slice ya yn yc] 37)).heap[b14]? = some (.cells q.abs.hd.cs.toArray 42 (0, 0)) ∧ (w1.alloc (.cells #[.int .u64 no, .int .i64 sz, .slice ya yn yc] 37)).heap[w1.heap.size]? = some (.cells #[.int .u64 no, .int .i64 sz, .slice ya yn yc] 37 (0, 0)) ∧ Pi.at_ ⟨no, sz, ya, yn, yc, yd⟩ (w1.alloc (.cells #[.int .u64 no, .int .i64 sz, .slice ya yn yc] 37)) ∧ Pi.it ⟨no, sz, ya, yn, yc, yd⟩ = q.abs.hd) :=
    ⟨hp.past hal, hD, (hal.block _ (Array.getElem?_eq_some_iff.1 h14).1).trans h14, Blk_new w1 _ _, hya.below hal, hyi⟩
  rw [show (Pi.v ⟨no, sz, ya, yn, yc, yd⟩) = .agg #[.int .u64 no, .int .i64 sz, .slice ya yn yc] from rfl]
  clear hal hI hS hD h14 hp hyi hya hq ha hk
  go_wp2_with fail
  refine Met.intro (hJ0 _ _ ?_)
  exact ⟨q', w1.heap.size, ⟨no, sz, ya, yn, yc, yd⟩, ⟨rfl, rfl⟩, rfl, rfl, rfl, rfl, rfl, rfl, rfl, rfl, rfl, rfl, H1.out⟩

set_option maxRecDepth 100000 in
set_option maxHeartbeats 4000000 in
theorem p28 (wr : World) (n c g br k xb xo px : Nat) (b13 b14 b16 : Nat) (hb : Bool) (y : Pi) (H9 : Hid (wr.heap[b16]? = some (.cells y.cs.toArray 37 (0, 0)))) (HAT : Hid (y.at_ wr)) (H12 : Hid (wr.heap[b14]? = some (.cells y.it.cs.toArray 42 (0, 0)))) (a : Act) (hf : Fr 158 a) (h2 : sl a 2 = .slice (some ⟨xb, xo, none⟩) n c) (h7 : sl a 7 = .pointer (some ⟨g, 0, none⟩)) (h9 : sl a 9 = .pointer (some ⟨br, 0, none⟩)) (h11 : sl a 11 = .int .i64 (k : Int)) (h12 : sl a 12 = .pointer (some ⟨px, 0, none⟩)) (h13 : sl a 13 = .pointer (some ⟨b13, 0, none⟩)) (h14 : sl a 14 = .pointer (some ⟨b14, 0, none⟩)) (h15 : sl a 15 = .bool hb) (h16 : sl a 16 = .pointer (some ⟨b16, 0, none⟩)) (h17 : sl a 17 = .bool hb) :
    Code.wp Try.prog (cAt [1,1,1,1,1,1,0,1,2,2,1,0,2,1,1,1,0,1,2,1,3,1,1,0] KP) (Exit.then (fun a' w' => Fr 158 a' ∧ sl a' 2 = .slice (some ⟨xb, xo, none⟩) n c ∧ sl a' 7 = .pointer (some ⟨g, 0, none⟩) ∧ sl a' 9 = .pointer (some ⟨br, 0, none⟩) ∧ sl a' 11 = .int .i64 (k : Int) ∧ sl a' 12 = .pointer (some ⟨px, 0, none⟩) ∧ sl a' 13 = .pointer (some ⟨b13, 0, none⟩) ∧ Below wr.heap.size wr w') Nope) a wr := by
  obtain ⟨f, ha, hs⟩ := fr158 hf
  have e2 := (hs 2).trans h2
  have e7 := (hs 7).trans h7
  have e9 := (hs 9).trans h9
  have e11 := (hs 11).trans h11
  have e12 := (hs 12).trans h12
  have e13 := (hs 13).trans h13
  have e14 := (hs 14).trans h14
  have e15 := (hs 15).trans h15
  have e16 := (hs 16).trans h16
  have e17 := (hs 17).trans h17
  rw [e2, e7, e9, e11, e12, e13, e14, e15, e16, e17] at ha
  clear hs hf e2 h2 e7 h7 e9 h9 e11 h11 e12 h12 e13 h13 e14 h14 e15 h15 e16 h16 e17 h17
  subst ha
  refine piece2 fun J0 K0 hJ0 hK0 => ?_
  conv => arg 2; whnf
  obtain ⟨no, sz, ya, yn, yc, yd⟩ := y
  obtain ⟨T, hT⟩ : ∃ z, str yd = z := ⟨_, rfl⟩
  have HT := Lib.hid hT
  have hbd : Below wr.heap.size wr wr.drew := (Below.refl _ _).drew
  have H0 : Hid (Pi.at_ ⟨no, sz, ya, yn, yc, yd⟩ wr.drew) := HAT.out.below hbd
  have HS : Hid (wr.drew.heap[b16]? = some (.cells #[.int .u64 no, .int .i64 sz, .slice ya yn yc] 37 (0, 0)) ∧ wr.drew.heap[b14]? = some (.cells #[.int .u64 no, .int .i64 sz, .string T] 42 (0, 0))) := ⟨H9.out, by rw [← hT]; exact H12.out⟩
  clear hT hbd
  go_wp2_with fail
  refine wp_region_held_drew (S := fun w' => w'.heap[b16]? = some (.cells #[.int .u64 no, .int .i64 sz, .slice ya yn yc] 37 (0, 0)) ∧ w'.heap[b14]? = some (.cells #[.int .u64 no, .int .i64 sz, .string T] 42 (0, 0))) (by kernel_rfl) HS.out (fun hS => ?_)
  refine tk 0 119 (.bool hb) rfl rfl (by kernel_rfl) (by kernel_rfl) (by kernel_rfl) (fun _ _ _ h => h) (Or.inl ⟨by rfl, fun w' h' => ?_⟩) hS ?_
  · go_simp
  try simp only [Act.put, List.setIfInBounds_toArray, List.set_cons_zero, List.set_cons_succ]
  refine tk 1 120 (.bool hb) rfl rfl (by kernel_rfl) (by kernel_rfl) (by kernel_rfl) (fun _ _ _ h => h) (Or.inl ⟨by rfl, fun w' h' => ?_⟩) hS ?_
  · go_simp
  try simp only [Act.put, List.setIfInBounds_toArray, List.set_cons_zero, List.set_cons_succ]
  refine tk 2 121 (.bool false) rfl rfl (by kernel_rfl) (by kernel_rfl) (by kernel_rfl) (fun _ _ _ h => h) (Or.inl ⟨by rfl, fun w' h' => ?_⟩) hS ?_
  · go_simp
  try simp only [Act.put, List.setIfInBounds_toArray, List.set_cons_zero, List.set_cons_succ]
  refine tk 3 122 (.bool false) rfl rfl (by kernel_rfl) (by kernel_rfl) (by kernel_rfl) (fun _ _ _ h => h) (Or.inl ⟨by rfl, fun w' h' => ?_⟩) hS ?_
  · go_simp
  try simp only [Act.put, List.setIfInBounds_toArray, List.set_cons_zero, List.set_cons_succ]
  refine tk 4 123 (.agg #[.int .u64 no, .int .i64 sz, .slice ya yn yc]) rfl rfl (by kernel_rfl) (by kernel_rfl) (by kernel_rfl) (fun _ _ _ h => h) (Or.inl ⟨by rfl, fun w' h' => ?_⟩) hS ?_
  · have c0 := q3_0 h'.1
    have c1 := q3_1 h'.1
    have c2 := q3_2 h'.1
    go_simp
  try simp only [Act.put, List.setIfInBounds_toArray, List.set_cons_zero, List.set_cons_succ]
  refine tk 6 125 (.agg #[.int .u64 no, .int .i64 sz, .string T]) rfl rfl (by kernel_rfl) (by kernel_rfl) (by kernel_rfl) (fun _ _ _ h => h) (Or.inl ⟨by rfl, fun w' h' => ?_⟩) hS ?_
  · have c0 := q3_0 h'.2
    have c1 := q3_1 h'.2
    have c2 := q3_2 h'.2
    go_simp
  try simp only [Act.put, List.setIfInBounds_toArray, List.set_cons_zero, List.set_cons_succ]
  refine wpAnyH_ready (rs := [5]) (by kernel_rfl) (by simp) (AllReadyH.cons rfl (fun K hK => ?_) AllReadyH.nil)
  rw [if_pos (by rfl)]
  go_wp2_with fail
  refine (item_any ⟨no, sz, ya, yn, yc, yd⟩ _ H0.out).mono ?_
  rintro e w1 ⟨rfl, hb1⟩
  rw [show It.v (Pi.it ⟨no, sz, ya, yn, yc, yd⟩) = .agg #[.int .u64 no, .int .i64 sz, .string (str yd)] from rfl, HT.out]
  have hbw : Below wr.heap.size wr w1 := ⟨hb1.os, hb1.tape, hb1.output, hb1.size, hb1.block⟩
  have H1 : Hid (Below wr.heap.size wr w1) := hbw
  have HS1 : Hid (w1.heap[b16]? = some (.cells #[.int .u64 no, .int .i64 sz, .slice ya yn yc] 37 (0, 0)) ∧ w1.heap[b14]? = some (.cells #[.int .u64 no, .int .i64 sz, .string T] 42 (0, 0))) := ⟨(hb1.block _ (Array.getElem?_eq_some_iff.1 HS.out.1).1).trans HS.out.1, (hb1.block _ (Array.getElem?_eq_some_iff.1 HS.out.2).1).trans HS.out.2⟩
  clear hb1 hbw
  clear hS
  refine hK.out _ _ (HS1.out) (fun hS => ?_)
  clear hK K
  try simp only [Act.put, List.setIfInBounds_toArray, List.set_cons_zero, List.set_cons_succ]
  refine tk 7 126 (.bool false) rfl rfl (by kernel_rfl) (by kernel_rfl) (by kernel_rfl) (fun _ _ _ h => h) (Or.inl ⟨by rfl, fun w' h' => ?_⟩) hS ?_
  · go_simp
  try simp only [Act.put, List.setIfInBounds_toArray, List.set_cons_zero, List.set_cons_succ]
  refine tk 8 127 (.bool false) rfl rfl (by kernel_rfl) (by kernel_rfl) (by kernel_rfl) (fun _ _ _ h => h) (Or.inl ⟨by rfl, fun w' h' => ?_⟩) hS ?_
  · go_simp
  refine wpAnyH_done (by kernel_rfl) ?_ _
  go_wp2_with fail
  refine Met.intro (hJ0 _ _ ?_)
  exact ⟨⟨rfl, rfl⟩, rfl, rfl, rfl, rfl, rfl, rfl, H1.out⟩

set_option maxRecDepth 100000 in
set_option maxHeartbeats 4000000 in
theorem p30 (w wr : World) (n c g br k xb xo px bn : Nat) (q : Qs) (ra : Option Addr) (m rc : Nat) (HP : Hid (Pp w wr g br bn q ra m rc)) (a : Act) (hf : Fr 158 a) (h2 : sl a 2 = .slice (some ⟨xb, xo, none⟩) n c) (h7 : sl a 7 = .pointer (some ⟨g, 0, none⟩)) (h9 : sl a 9 = .pointer (some ⟨br, 0, none⟩)) (h11 : sl a 11 = .int .i64 (k : Int)) (h12 : sl a 12 = .pointer (some ⟨px, 0, none⟩)) (h13 : sl a 13 = .pointer (some ⟨bn, 0, none⟩)) :
    Code.wp Try.prog (cAt [1,1,1,1,1,1,0,1,2,2,1,0,2,1,1,1,0,1,2,1,3,1,1,1] KP) (Exit.then (fun a' w' => Fr 158 a' ∧ sl a' 2 = .slice (some ⟨xb, xo, none⟩) n c ∧ sl a' 7 = .pointer (some ⟨g, 0, none⟩) ∧ sl a' 9 = .pointer (some ⟨br, 0, none⟩) ∧ sl a' 11 = .int .i64 (k : Int) ∧ Pw w w' g br q ra m rc) Nope) a wr := by
  obtain ⟨f, ha, hs⟩ := fr158 hf
  have e2 := (hs 2).trans h2
  have e7 := (hs 7).trans h7
  have e9 := (hs 9).trans h9
  have e11 := (hs 11).trans h11
  have e12 := (hs 12).trans h12
  have e13 := (hs 13).trans h13
  rw [e2, e7, e9, e11, e12, e13] at ha
  clear hs hf e2 h2 e7 h7 e9 h9 e11 h11 e12 h12 e13 h13
  subst ha
  refine piece2 fun J0 K0 hJ0 hK0 => ?_
  conv => arg 2; whnf
  obtain ⟨u0, u1, u2, u3, hbx⟩ := HP.out.box
  have HBX := Lib.hid hbx
  have c0 := q4_0 HP.out.nu
  have c1 := q4_1 HP.out.nu
  have c2 := q4_2 HP.out.nu
  have c3 := q4_3 HP.out.nu
  have HZ := Lib.hid HP.out.store
  have d0 := q4_0 HBX.out
  have d1 := q4_1 HBX.out
  have d2 := q4_2 HBX.out
  have d3 := q4_3 HBX.out
  have f0 : wr.frozen? ⟨br, 0, none⟩ = false := frozen_of_row wr br 0 _ _ HBX.out
  have f1 : wr.frozen? ⟨br, 1, none⟩ = false := frozen_of_row wr br 1 _ _ HBX.out
  have f2 : wr.frozen? ⟨br, 2, none⟩ = false := frozen_of_row wr br 2 _ _ HBX.out
  have f3 : wr.frozen? ⟨br, 3, none⟩ = false := frozen_of_row wr br 3 _ _ HBX.out
  clear hbx
  go_wp2_with fail
  refine Met.intro (hJ0 _ _ ?_)
  exact ⟨⟨rfl, rfl⟩, rfl, rfl, rfl, rfl, HZ.out⟩

set_option maxRecDepth 100000 in
set_option maxHeartbeats 4000000 in
theorem p32 (w wr : World) (n c g br k xb xo px : Nat) (q : Qs) (ra : Option Addr) (m rc : Nat) (x : Pi) (HX : Hid (Xw w wr g br px q x)) (HW : Hid (Pw w wr g br q ra m rc)) (HOK : Hid q.abs.ok) (a : Act) (hf : Fr 158 a) (h2 : sl a 2 = .slice (some ⟨xb, xo, none⟩) n c) (h7 : sl a 7 = .pointer (some ⟨g, 0, none⟩)) (h9 : sl a 9 = .pointer (some ⟨br, 0, none⟩)) (h11 : sl a 11 = .int .i64 (k : Int)) (h12 : sl a 12 = .pointer (some ⟨px, 0, none⟩)) :
    Code.wp Try.prog (cAt [1,1,1,1,1,1,0,1,2,2,1,0,2,1,1,1,0,1,2,1,4,1,3] KP) (Exit.then (fun a' w' => Fr 158 a' ∧ sl a' 2 = .slice (some ⟨xb, xo, none⟩) n c ∧ sl a' 7 = .pointer (some ⟨g, 0, none⟩) ∧ sl a' 9 = .pointer (some ⟨br, 0, none⟩) ∧ sl a' 11 = .int .i64 (k : Int) ∧ sl a' 12 = .pointer (some ⟨px, 0, none⟩) ∧ Below wr.heap.size wr w') Nope) a wr := by
  obtain ⟨f, ha, hs⟩ := fr158 hf
  have e2 := (hs 2).trans h2
  have e7 := (hs 7).trans h7
  have e9 := (hs 9).trans h9
  have e11 := (hs 11).trans h11
  have e12 := (hs 12).trans h12
  rw [e2, e7, e9, e11, e12] at ha
  clear hs hf e2 h2 e7 h7 e9 h9 e11 h11 e12 h12
  subst ha
  refine piece2 fun J0 K0 hJ0 hK0 => ?_
  conv => arg 2; whnf
  obtain ⟨no, sz, ya, yn, yc, yd⟩ := x
  have HS : Hid (wr.drew.heap[br]? = some (.cells #[.slice ra m rc, .int .i64 q.I, .int .i64 q.S, .int .u64 q.D] 32 (0, 0)) ∧ wr.drew.heap[px]? = some (.cells #[.int .u64 no, .int .i64 sz, .slice ya yn yc] 37 (0, 0))) := ⟨HW.out.box, HX.out.row⟩
  have H0 : Hid (Below wr.heap.size wr wr.drew) := (Below.refl _ _).drew
  go_wp2_with fail
  refine wp_region_held_drew (S := fun w' => w'.heap[br]? = some (.cells #[.slice ra m rc, .int .i64 q.I, .int .i64 q.S, .int .u64 q.D] 32 (0, 0)) ∧ w'.heap[px]? = some (.cells #[.int .u64 no, .int .i64 sz, .slice ya yn yc] 37 (0, 0))) (by kernel_rfl) HS.out (fun hS => ?_)
  refine tk 0 131 (.pointer (some ⟨g, 0, none⟩)) rfl rfl (by kernel_rfl) (by kernel_rfl) (by kernel_rfl) (fun _ _ _ h => h) (Or.inl ⟨by rfl, fun w' h' => ?_⟩) hS ?_
  · go_simp
  try simp only [Act.put, List.setIfInBounds_toArray, List.set_cons_zero, List.set_cons_succ]
  refine tk 1 132 (.pointer (some ⟨px, 1, none⟩)) rfl rfl (by kernel_rfl) (by kernel_rfl) (by kernel_rfl) (fun _ _ _ h => h) (Or.inl ⟨by rfl, fun w' h' => ?_⟩) hS ?_
  · go_simp
  try simp only [Act.put, List.setIfInBounds_toArray, List.set_cons_zero, List.set_cons_succ]
  refine tk 2 133 (.int .i64 sz) rfl rfl (by kernel_rfl) (by kernel_rfl) (by kernel_rfl) (fun _ _ _ h => h) (Or.inl ⟨by rfl, fun w' h' => ?_⟩) hS ?_
  · have c1 := q3_1 h'.2
    go_simp
  try simp only [Act.put, List.setIfInBounds_toArray, List.set_cons_zero, List.set_cons_succ]
  refine tk 4 135 (.agg #[.slice ra m rc, .int .i64 q.I, .int .i64 q.S, .int .u64 q.D]) rfl rfl (by kernel_rfl) (by kernel_rfl) (by kernel_rfl) (fun _ _ _ h => h) (Or.inl ⟨by rfl, fun w' h' => ?_⟩) hS ?_
  · have c0 := q4_0 h'.1
    have c1 := q4_1 h'.1
    have c2 := q4_2 h'.1
    have c3 := q4_3 h'.1
    go_simp
  try simp only [Act.put, List.setIfInBounds_toArray, List.set_cons_zero, List.set_cons_succ]
  refine tk 5 136 (.pointer (some ⟨px, 1, none⟩)) rfl rfl (by kernel_rfl) (by kernel_rfl) (by kernel_rfl) (fun _ _ _ h => h) (Or.inl ⟨by rfl, fun w' h' => ?_⟩) hS ?_
  · go_simp
  try simp only [Act.put, List.setIfInBounds_toArray, List.set_cons_zero, List.set_cons_succ]
  refine tk 6 137 (.int .i64 sz) rfl rfl (by kernel_rfl) (by kernel_rfl) (by kernel_rfl) (fun _ _ _ h => h) (Or.inl ⟨by rfl, fun w' h' => ?_⟩) hS ?_
  · have c1 := q3_1 h'.2
    go_simp
  try simp only [Act.put, List.setIfInBounds_toArray, List.set_cons_zero, List.set_cons_succ]
  refine wpAnyH_ready (rs := [3]) (by kernel_rfl) (by simp) (AllReadyH.cons rfl (fun K hK => ?_) AllReadyH.nil)
  rw [if_pos (by rfl)]
  go_wp2_with fail
  refine (fRoom_any w.heap.size g q sz _ (HW.out.past H0.out).qu).mono ?_
  rintro e w1 ⟨rfl, md, hmd⟩
  have hbd : Below wr.heap.size wr w1 := by rw [hmd]; exact ⟨rfl, rfl, rfl, Nat.le_refl _, fun _ _ => rfl⟩
  have H1 : Hid (Below wr.heap.size wr w1) := hbd
  clear hmd hbd
  rw [← abs_room]
  obtain ⟨rb, hrb⟩ : ∃ z, q.abs.room sz = z := ⟨_, rfl⟩
  have HRB := Lib.hid hrb
  rw [hrb]
  clear hrb
  clear hS
  refine hK.out _ _ (⟨(HW.out.past H1.out).box, (HX.out.past H1.out).row⟩) (fun hS => ?_)
  clear hK K
  try simp only [Act.put, List.setIfInBounds_toArray, List.set_cons_zero, List.set_cons_succ]
  refine wpAnyH_ready (rs := [7]) (by kernel_rfl) (by simp) (AllReadyH.cons rfl (fun K hK => ?_) AllReadyH.nil)
  rw [if_pos (by rfl)]
  go_wp2_with fail
  refine (rRoom_any ra m rc q.abs sz _ (HW.out.past H1.out).rt HOK.out).mono ?_
  rintro e w2 ⟨rfl, hb2⟩
  have H2 : Hid (Below wr.heap.size wr w2) := H1.out.trans (hb2.mono H1.out.size)
  clear hb2
  rw [HRB.out]
  clear hS
  refine hK.out _ _ (⟨(HW.out.past H2.out).box, (HX.out.past H2.out).row⟩) (fun hS => ?_)
  clear hK K
  try simp only [Act.put, List.setIfInBounds_toArray, List.set_cons_zero, List.set_cons_succ]
  refine tk 8 139 (.bool false) rfl rfl (by kernel_rfl) (by kernel_rfl) (by kernel_rfl) (fun _ _ _ h => h) (Or.inl ⟨by rfl, fun w' h' => ?_⟩) hS ?_
  · go_simp
  refine wpAnyH_done (by kernel_rfl) ?_ _
  go_wp2_with fail
  refine Met.intro (hJ0 _ _ ?_)
  exact ⟨⟨rfl, rfl⟩, rfl, rfl, rfl, rfl, rfl, H2.out⟩

set_option maxRecDepth 100000 in
set_option maxHeartbeats 4000000 in
theorem p35 (w wr : World) (n c g br k xb xo px : Nat) (q : Qs) (x : Pi) (HX : Hid (Xw w wr g br px q x)) (a : Act) (hf : Fr 158 a) (h2 : sl a 2 = .slice (some ⟨xb, xo, none⟩) n c) (h7 : sl a 7 = .pointer (some ⟨g, 0, none⟩)) (h9 : sl a 9 = .pointer (some ⟨br, 0, none⟩)) (h11 : sl a 11 = .int .i64 (k : Int)) (h12 : sl a 12 = .pointer (some ⟨px, 0, none⟩)) :
    Code.wp Try.prog (cAt [1,1,1,1,1,1,0,1,2,2,1,0,2,1,1,1,0,1,2,1,4,1,4,1,3,0] KP) (Exit.then (fun a' w' => Fr 158 a' ∧ sl a' 2 = .slice (some ⟨xb, xo, none⟩) n c ∧ sl a' 7 = .pointer (some ⟨g, 0, none⟩) ∧ sl a' 9 = .pointer (some ⟨br, 0, none⟩) ∧ sl a' 11 = .int .i64 (k : Int) ∧ sl a' 12 = .pointer (some ⟨px, 0, none⟩) ∧ wr = w' ∧ IsB (sl a' 145)) Nope) a wr := by
  obtain ⟨f, ha, hs⟩ := fr158 hf
  have e2 := (hs 2).trans h2
  have e7 := (hs 7).trans h7
  have e9 := (hs 9).trans h9
  have e11 := (hs 11).trans h11
  have e12 := (hs 12).trans h12
  rw [e2, e7, e9, e11, e12] at ha
  clear hs hf e2 h2 e7 h7 e9 h9 e11 h11 e12 h12
  subst ha
  refine piece2 fun J0 K0 hJ0 hK0 => ?_
  conv => arg 2; whnf
  obtain ⟨no, sz, ya, yn, yc, yd⟩ := x
  have c0 : wr.cell? ⟨px, 0, none⟩ = some (.int .u64 no) := q3_0 HX.out.row
  go_wp2_with fail
  refine Met.intro (hJ0 _ _ ?_)
  exact ⟨⟨rfl, rfl⟩, rfl, rfl, rfl, rfl, rfl, rfl, ⟨_, rfl⟩⟩

set_option maxRecDepth 100000 in
set_option maxHeartbeats 4000000 in
theorem p36 (w wr : World) (n c g br k xb xo px : Nat) (q : Qs) (ra : Option Addr) (m rc : Nat) (x : Pi) (HX : Hid (Xw w wr g br px q x)) (HW : Hid (Pw w wr g br q ra m rc)) (a : Act) (hf : Fr 158 a) (h2 : sl a 2 = .slice (some ⟨xb, xo, none⟩) n c) (h7 : sl a 7 = .pointer (some ⟨g, 0, none⟩)) (h9 : sl a 9 = .pointer (some ⟨br, 0, none⟩)) (h11 : sl a 11 = .int .i64 (k : Int)) (h12 : sl a 12 = .pointer (some ⟨px, 0, none⟩)) :
    Code.wp Try.prog (cAt [1,1,1,1,1,1,0,1,2,2,1,0,2,1,1,1,0,1,2,1,4,1,4,1,3,1,3,0] KP) (Exit.then (fun a' w' => ∃ (q' : Qs), Fr 158 a' ∧ sl a' 2 = .slice (some ⟨xb, xo, none⟩) n c ∧ sl a' 7 = .pointer (some ⟨g, 0, none⟩) ∧ sl a' 9 = .pointer (some ⟨br, 0, none⟩) ∧ sl a' 11 = .int .i64 (k : Int) ∧ sl a' 12 = .pointer (some ⟨px, 0, none⟩) ∧ Qu w' w.heap.size g q' ∧ q'.abs = { q.abs with l := [] } ∧ w'.heap[br]? = some (.cells #[.slice ra m rc, .int .i64 q.I, .int .i64 q.S, .int .u64 q.D] 32 (0, 0)) ∧ Below w.heap.size w w') Nope) a wr := by
  obtain ⟨f, ha, hs⟩ := fr158 hf
  have e2 := (hs 2).trans h2
  have e7 := (hs 7).trans h7
  have e9 := (hs 9).trans h9
  have e11 := (hs 11).trans h11
  have e12 := (hs 12).trans h12
  rw [e2, e7, e9, e11, e12] at ha
  clear hs hf e2 h2 e7 h7 e9 h9 e11 h11 e12 h12
  subst ha
  refine piece2 fun J0 K0 hJ0 hK0 => ?_
  conv => arg 2; whnf
  obtain ⟨no, sz, ya, yn, yc, yd⟩ := x
  have HS : Hid (wr.drew.heap[br]? = some (.cells #[.slice ra m rc, .int .i64 q.I, .int .i64 q.S, .int .u64 q.D] 32 (0, 0)) ∧ wr.drew.heap[px]? = some (.cells #[.int .u64 no, .int .i64 sz, .slice ya yn yc] 37 (0, 0))) := ⟨HW.out.box, HX.out.row⟩
  have H0 : Hid (Below wr.heap.size wr wr.drew) := (Below.refl _ _).drew
  have hml : ((q.L.length : Nat) : Int) = (m : Int) := by rw [HW.out.len]
  have HML := Lib.hid hml
  clear hml
  go_wp2_with fail
  refine wp_region_held_drew (S := fun w' => w'.heap[br]? = some (.cells #[.slice ra m rc, .int .i64 q.I, .int .i64 q.S, .int .u64 q.D] 32 (0, 0)) ∧ w'.heap[px]? = some (.cells #[.int .u64 no, .int .i64 sz, .slice ya yn yc] 37 (0, 0))) (by kernel_rfl) HS.out (fun hS => ?_)
  refine tk 0 146 (.pointer (some ⟨g, 0, none⟩)) rfl rfl (by kernel_rfl) (by kernel_rfl) (by kernel_rfl) (fun _ _ _ h => h) (Or.inl ⟨by rfl, fun w' h' => ?_⟩) hS ?_
  · go_simp
  try simp only [Act.put, List.setIfInBounds_toArray, List.set_cons_zero, List.set_cons_succ]
  refine tk 2 148 (.pointer (some ⟨br, 0, none⟩)) rfl rfl (by kernel_rfl) (by kernel_rfl) (by kernel_rfl) (fun _ _ _ h => h) (Or.inl ⟨by rfl, fun w' h' => ?_⟩) hS ?_
  · go_simp
  try simp only [Act.put, List.setIfInBounds_toArray, List.set_cons_zero, List.set_cons_succ]
  refine tk 3 149 (.slice ra m rc) rfl rfl (by kernel_rfl) (by kernel_rfl) (by kernel_rfl) (fun _ _ _ h => h) (Or.inl ⟨by rfl, fun w' h' => ?_⟩) hS ?_
  · have c0 := q4_0 h'.1
    go_simp
  try simp only [Act.put, List.setIfInBounds_toArray, List.set_cons_zero, List.set_cons_succ]
  refine tk 4 150 (.int .i64 (m : Int)) rfl rfl (by kernel_rfl) (by kernel_rfl) (by kernel_rfl) (fun _ _ _ h => h) (Or.inl ⟨by rfl, fun w' h' => ?_⟩) hS ?_
  · go_simp
  try simp only [Act.put, List.setIfInBounds_toArray, List.set_cons_zero, List.set_cons_succ]
  refine wpAnyH_ready (rs := [1]) (by kernel_rfl) (by simp) (AllReadyH.cons rfl (fun K hK => ?_) AllReadyH.nil)
  rw [if_pos (by rfl)]
  go_wp2_with fail
  refine (fClear_any w.heap.size g q _ (HW.out.past H0.out).qu).mono ?_
  rintro e w1 ⟨rfl, q', hq, ha, hk, _⟩
  rw [HML.out]
  have hd := (HW.out.past H0.out).did hk
  have H1 : Hid (Qu w1 w.heap.size g q' ∧ q'.abs = { q.abs with l := [] } ∧ (w1.heap[br]? = some (.cells #[.slice ra m rc, .int .i64 q.I, .int .i64 q.S, .int .u64 q.D] 32 (0, 0)) ∧ w1.heap[px]? = some (.cells #[.int .u64 no, .int .i64 sz, .slice ya yn yc] 37 (0, 0))) ∧ Below w.heap.size w w1) := ⟨hq, ha, ⟨hd.2.1, hk.heap (show wr.drew.heap[px]? = _ from HX.out.row) HX.out.npx⟩, hd.2.2⟩
  clear hq ha hk hd
  clear hS
  refine hK.out _ _ (H1.out.2.2.1) (fun hS => ?_)
  clear hK K
  try simp only [Act.put, List.setIfInBounds_toArray, List.set_cons_zero, List.set_cons_succ]
  refine tk 5 151 (.bool false) rfl rfl (by kernel_rfl) (by kernel_rfl) (by kernel_rfl) (fun _ _ _ h => h) (Or.inl ⟨by rfl, fun w' h' => ?_⟩) hS ?_
  · go_simp
  refine wpAnyH_done (by kernel_rfl) ?_ _
  go_wp2_with fail
  refine Met.intro (hJ0 _ _ ?_)
  exact ⟨q', ⟨rfl, rfl⟩, rfl, rfl, rfl, rfl, rfl, H1.out.1, H1.out.2.1, H1.out.2.2.1.1, H1.out.2.2.2⟩

set_option maxRecDepth 100000 in
set_option maxHeartbeats 4000000 in
theorem p38 (w wr : World) (n c g br k xb xo px : Nat) (q : Qs) (ra : Option Addr) (m rc : Nat) (q' : Qs) (HQ : Hid (Qu wr w.heap.size g q')) (HA : Hid (q'.abs = { q.abs with l := [] })) (HB : Hid (wr.heap[br]? = some (.cells #[.slice ra m rc, .int .i64 q.I, .int .i64 q.S, .int .u64 q.D] 32 (0, 0)))) (HL : Hid (Below w.heap.size w wr)) (hbr : w.heap.size ≤ br) (a : Act) (hf : Fr 158 a) (h2 : sl a 2 = .slice (some ⟨xb, xo, none⟩) n c) (h7 : sl a 7 = .pointer (some ⟨g, 0, none⟩)) (h9 : sl a 9 = .pointer (some ⟨br, 0, none⟩)) (h11 : sl a 11 = .int .i64 (k : Int)) (h12 : sl a 12 = .pointer (some ⟨px, 0, none⟩)) :
    Code.wp Try.prog (cAt [1,1,1,1,1,1,0,1,2,2,1,0,2,1,1,1,0,1,2,1,4,1,4,1,3,1,3,1] KP) (Exit.then (fun a' w' => Fr 158 a' ∧ sl a' 2 = .slice (some ⟨xb, xo, none⟩) n c ∧ sl a' 7 = .pointer (some ⟨g, 0, none⟩) ∧ sl a' 9 = .pointer (some ⟨br, 0, none⟩) ∧ sl a' 11 = .int .i64 (k : Int) ∧ sl a' 12 = .pointer (some ⟨px, 0, none⟩) ∧ Pw w w' g br q' none 0 0) Nope) a wr := by
  obtain ⟨f, ha, hs⟩ := fr158 hf
  have e2 := (hs 2).trans h2
  have e7 := (hs 7).trans h7
  have e9 := (hs 9).trans h9
  have e11 := (hs 11).trans h11
  have e12 := (hs 12).trans h12
  rw [e2, e7, e9, e11, e12] at ha
  clear hs hf e2 h2 e7 h7 e9 h9 e11 h11 e12 h12
  subst ha
  refine piece2 fun J0 K0 hJ0 hK0 => ?_
  conv => arg 2; whnf
  have c0 := q4_0 HB.out
  have f0 : wr.frozen? ⟨br, 0, none⟩ = false := frozen_of_row wr br 0 _ _ HB.out
  have hk : Kept (fun i => i = br) wr (wr.setCell ⟨br, 0, none⟩ (.slice none 0 0)) := Kept.setCell _ _ _ rfl
  have hr : (wr.setCell ⟨br, 0, none⟩ (.slice none 0 0)).heap[br]? = some (.cells #[.slice none 0 0, .int .i64 q.I, .int .i64 q.S, .int .u64 q.D] 32 (0, 0)) := by rw [heap_setCell_same wr br 0 _ _ _ HB.out]; rfl
  have hI : q'.I = q.I := by have h := congrArg Aq.I HA.out; exact h
  have hS : q'.S = q.S := by have h := congrArg Aq.S HA.out; exact h
  have hD : q'.D = q.D := by have h := congrArg Aq.D HA.out; exact h
  have hbf : ¬ q'.foot g br := HQ.out.apart HB.out (by decide) (by decide) (by decide)
  have H1 : Hid (Pw w (wr.setCell ⟨br, 0, none⟩ (.slice none 0 0)) g br q' none 0 0) := ⟨HQ.out.keep hk (fun i hi e => hbf (e ▸ hi)), by rw [HA.out]; exact Rt.nil _, Nat.le_refl _, by rw [hI, hS, hD]; exact hr, hbr, HL.out.trans (hk.below HL.out.size (fun i e => by omega))⟩
  clear hk hr hI hS hD hbf
  go_wp2_with fail
  refine Met.intro (hJ0 _ _ ?_)
  exact ⟨⟨rfl, rfl⟩, rfl, rfl, rfl, rfl, rfl, H1.out⟩

set_option maxRecDepth 100000 in
set_option maxHeartbeats 4000000 in
theorem p16 (w wr : World) (n c g br k xb xo px : Nat) (q : Qs) (ra : Option Addr) (m rc : Nat) (x : Pi) (HX : Hid (Xw w wr g br px q x)) (HW : Hid (Pw w wr g br q ra m rc)) (HOK : Hid q.abs.ok) (A : Aq) (cd : Int) (HA : Hid (q.abs.push x.it = A)) (HCD : Hid (q.abs.code x.it = cd)) (a : Act) (hf : Fr 158 a) (h2 : sl a 2 = .slice (some ⟨xb, xo, none⟩) n c) (h7 : sl a 7 = .pointer (some ⟨g, 0, none⟩)) (h9 : sl a 9 = .pointer (some ⟨br, 0, none⟩)) (h11 : sl a 11 = .int .i64 (k : Int)) (h12 : sl a 12 = .pointer (some ⟨px, 0, none⟩)) :
    Code.wp Try.prog (cAt [1,1,1,1,1,1,0,1,2,2,1,0,2,1,1,1,0,1,2,1,4,1,4,1,4,0] KP) (Exit.then (fun a' w' => ∃ (b18 : Nat) (a1 : Option Addr) (n1 c1 : Nat), Fr 158 a' ∧ sl a' 2 = .slice (some ⟨xb, xo, none⟩) n c ∧ sl a' 7 = .pointer (some ⟨g, 0, none⟩) ∧ sl a' 9 = .pointer (some ⟨br, 0, none⟩) ∧ sl a' 11 = .int .i64 (k : Int) ∧ sl a' 12 = .pointer (some ⟨px, 0, none⟩) ∧ sl a' 18 = .pointer (some ⟨b18, 0, none⟩) ∧ sl a' 19 = .int .i64 cd ∧ Below wr.heap.size wr w' ∧ w'.heap[b18]? = some (.cells #[.slice a1 n1 c1, .int .i64 A.I, .int .i64 A.S, .int .u64 A.D] 32 (0, 0)) ∧ Rt w' a1 n1 A.l ∧ n1 ≤ c1 ∧ wr.heap.size ≤ b18) Nope) a wr := by
  obtain ⟨f, ha, hs⟩ := fr158 hf
  have e2 := (hs 2).trans h2
  have e7 := (hs 7).trans h7
  have e9 := (hs 9).trans h9
  have e11 := (hs 11).trans h11
  have e12 := (hs 12).trans h12
  rw [e2, e7, e9, e11, e12] at ha
  clear hs hf e2 h2 e7 h7 e9 h9 e11 h11 e12 h12
  subst ha
  refine piece2 fun J0 K0 hJ0 hK0 => ?_
  conv => arg 2; whnf
  obtain ⟨no, sz, ya, yn, yc, yd⟩ := x
  have HS : Hid (wr.drew.heap[br]? = some (.cells #[.slice ra m rc, .int .i64 q.I, .int .i64 q.S, .int .u64 q.D] 32 (0, 0)) ∧ wr.drew.heap[px]? = some (.cells #[.int .u64 no, .int .i64 sz, .slice ya yn yc] 37 (0, 0))) := ⟨HW.out.box, HX.out.row⟩
  have H0 : Hid (Below wr.heap.size wr wr.drew) := (Below.refl _ _).drew
  obtain ⟨T, hT⟩ : ∃ z, str yd = z := ⟨_, rfl⟩
  have HT := Lib.hid hT
  have HP : Hid (∀ W : World, Rt W ra m q.abs.l → Calls Try.prog 18 #[.agg #[.slice ra m rc, .int .i64 q.I, .int .i64 q.S, .int .u64 q.D], .agg #[.int .u64 no, .int .i64 sz, .string T]] W (RPushR W q.abs (Pi.it ⟨no, sz, ya, yn, yc, yd⟩))) := fun W h => by
    rw [← hT]
    exact rPush_any ra m rc q.abs (Pi.it ⟨no, sz, ya, yn, yc, yd⟩) W h HW.out.nc HOK.out
  clear hT
  go_wp2_with fail
  refine wp_region_held_drew (S := fun w' => w'.heap[br]? = some (.cells #[.slice ra m rc, .int .i64 q.I, .int .i64 q.S, .int .u64 q.D] 32 (0, 0)) ∧ w'.heap[px]? = some (.cells #[.int .u64 no, .int .i64 sz, .slice ya yn yc] 37 (0, 0))) (by kernel_rfl) HS.out (fun hS => ?_)
  refine tk 0 79 (.agg #[.slice ra m rc, .int .i64 q.I, .int .i64 q.S, .int .u64 q.D]) rfl rfl (by kernel_rfl) (by kernel_rfl) (by kernel_rfl) (fun _ _ _ h => h) (Or.inl ⟨by rfl, fun w' h' => ?_⟩) hS ?_
  · have c0 := q4_0 h'.1
    have c1 := q4_1 h'.1
    have c2 := q4_2 h'.1
    have c3 := q4_3 h'.1
    go_simp
  try simp only [Act.put, List.setIfInBounds_toArray, List.set_cons_zero, List.set_cons_succ]
  refine tk 1 80 (.agg #[.int .u64 no, .int .i64 sz, .slice ya yn yc]) rfl rfl (by kernel_rfl) (by kernel_rfl) (by kernel_rfl) (fun _ _ _ h => h) (Or.inl ⟨by rfl, fun w' h' => ?_⟩) hS ?_
  · have c0 := q3_0 h'.2
    have c1 := q3_1 h'.2
    have c2 := q3_2 h'.2
    go_simp
  try simp only [Act.put, List.setIfInBounds_toArray, List.set_cons_zero, List.set_cons_succ]
  refine wpAnyH_ready (rs := [2, 7]) (by kernel_rfl) (by simp) (AllReadyH.cons rfl (fun K hK => ?_) (AllReadyH.cons rfl (fun K hK => ?_) AllReadyH.nil))
  · rw [if_pos (by rfl)]
    go_wp2_with fail
    refine (item_any ⟨no, sz, ya, yn, yc, yd⟩ _ (HX.out.past H0.out).at_).mono ?_
    rintro e w1 ⟨rfl, hb⟩
    rw [show It.v (Pi.it ⟨no, sz, ya, yn, yc, yd⟩) = .agg #[.int .u64 no, .int .i64 sz, .string (str yd)] from rfl, HT.out]
    have H1 : Hid (Below wr.heap.size wr w1) := H0.out.trans (hb.mono H0.out.size)
    clear hb
    clear hS
    refine hK.out _ _ (⟨(HW.out.past H1.out).box, (HX.out.past H1.out).row⟩) (fun hS => ?_)
    clear hK K
    try simp only [Act.put, List.setIfInBounds_toArray, List.set_cons_zero, List.set_cons_succ]
    refine wpAnyH_ready (rs := [3, 7]) (by kernel_rfl) (by simp) (AllReadyH.cons rfl (fun K hK => ?_) (AllReadyH.cons rfl (fun K hK => ?_) AllReadyH.nil))
    · rw [if_pos (by rfl)]
      go_wp2_with fail
      refine (HP.out _ (HW.out.past H1.out).rt).mono ?_
      rintro e w2 ⟨hb, a1, n1, c1, rfl, hr1, hc1⟩
      rw [HA.out] at hr1
      rw [HA.out, HCD.out]
      rw [show rqv a1 n1 c1 A = .agg #[.slice a1 n1 c1, .int .i64 A.I, .int .i64 A.S, .int .u64 A.D] from rfl]
      have H2 : Hid (Below wr.heap.size wr w2) := H1.out.trans (hb.mono H1.out.size)
      have HR2 : Hid (Rt w2 a1 n1 A.l ∧ n1 ≤ c1) := ⟨hr1, hc1⟩
      clear hb hr1 hc1
      clear hS
      refine hK.out _ _ (⟨(HW.out.past H2.out).box, (HX.out.past H2.out).row⟩) (fun hS => ?_)
      clear hK K
      try simp only [Act.put, List.setIfInBounds_toArray, List.set_cons_zero, List.set_cons_succ]
      refine tk 4 78 (.tuple #[.agg #[.slice a1 n1 c1, .int .i64 A.I, .int .i64 A.S, .int .u64 A.D], .int .i64 cd]) rfl rfl (by kernel_rfl) (by kernel_rfl) (by kernel_rfl) (fun _ _ _ h => h) (Or.inl ⟨by rfl, fun w' h' => ?_⟩) hS ?_
      · go_simp
      try simp only [Act.put, List.setIfInBounds_toArray, List.set_cons_zero, List.set_cons_succ]
      refine tk 5 83 (.agg #[.slice a1 n1 c1, .int .i64 A.I, .int .i64 A.S, .int .u64 A.D]) rfl rfl (by kernel_rfl) (by kernel_rfl) (by kernel_rfl) (fun _ _ _ h => h) (Or.inl ⟨by rfl, fun w' h' => ?_⟩) hS ?_
      · go_simp
      try simp only [Act.put, List.setIfInBounds_toArray, List.set_cons_zero, List.set_cons_succ]
      refine tk 6 84 (.int .i64 cd) rfl rfl (by kernel_rfl) (by kernel_rfl) (by kernel_rfl) (fun _ _ _ h => h) (Or.inl ⟨by rfl, fun w' h' => ?_⟩) hS ?_
      · go_simp
      try simp only [Act.put, List.setIfInBounds_toArray, List.set_cons_zero, List.set_cons_succ]
      refine wpAnyH_ready (rs := [7]) (by kernel_rfl) (by simp) (AllReadyH.cons rfl (fun K hK => ?_) AllReadyH.nil)
      rw [if_pos (by rfl)]
      have HB : Hid (Below wr.heap.size wr (w2.alloc (.cells #[.slice none 0 0, .int .i64 0, .int .i64 0, .int .u64 0] 32))) := H2.out.trans (((Below.refl w2.heap.size w2).alloc (Nat.le_refl _) _).mono H2.out.size)
      have HZ3 : Hid ((w2.alloc (.cells #[.slice none 0 0, .int .i64 0, .int .i64 0, .int .u64 0] 32)).heap[w2.heap.size]? = some (.cells #[.slice none 0 0, .int .i64 0, .int .i64 0, .int .u64 0] 32 (0, 0))) := Blk_new w2 _ _
      have HR3 : Hid (Rt (w2.alloc (.cells #[.slice none 0 0, .int .i64 0, .int .i64 0, .int .u64 0] 32)) a1 n1 A.l ∧ n1 ≤ c1) := ⟨HR2.out.1.below ((Below.refl _ _).alloc (Nat.le_refl _) _), HR2.out.2⟩
      go_wp2_with fail
      obtain ⟨w3, hw⟩ : ∃ z, w2.alloc (.cells #[.slice none 0 0, .int .i64 0, .int .i64 0, .int .u64 0] 32) = z := ⟨_, rfl⟩
      first | rw [hw] | (change K _ (w2.alloc (.cells #[.slice none 0 0, .int .i64 0, .int .i64 0, .int .u64 0] 32)); rw [hw])
      rw [hw] at HB HZ3 HR3
      obtain ⟨b18, hp⟩ : ∃ z, w2.heap.size = z := ⟨_, rfl⟩
      rw [hp] at HZ3
      first | rw [hp] | skip
      have HL : Hid (wr.heap.size ≤ b18) := by
        show _ ≤ _
        have := H2.out.size
        omega
      have H3 : Hid (Below wr.heap.size wr w3) := HB.out
      clear hw hp HB
      clear hS
      refine hK.out _ _ (⟨(HW.out.past H3.out).box, (HX.out.past H3.out).row⟩) (fun hS => ?_)
      clear hK K
      try simp only [Act.put, List.setIfInBounds_toArray, List.set_cons_zero, List.set_cons_succ]
      refine wpAnyH_ready (rs := [8]) (by kernel_rfl) (by simp) (AllReadyH.cons rfl (fun K hK => ?_) AllReadyH.nil)
      rw [if_pos (by rfl)]
      refine wp_store_mid 32 (.tmp 18) (.tmp 83) rfl b18 0 #[.slice a1 n1 c1, .int .i64 A.I, .int .i64 A.S, .int .u64 A.D] rfl rfl (row_there HZ3.out (by simp)) infQ4 (by simp [Value.oneCell']) ?_
      change K _ (w3.setCells b18 0 [.slice a1 n1 c1, .int .i64 A.I, .int .i64 A.S, .int .u64 A.D])
      have hr4 := row4_set HZ3.out (.slice a1 n1 c1) (.int .i64 A.I) (.int .i64 A.S) (.int .u64 A.D)
      have hk4 : Kept (fun i => i = b18) w3 (w3.setCells b18 0 [.slice a1 n1 c1, .int .i64 A.I, .int .i64 A.S, .int .u64 A.D]) := Kept.setCells (S := fun i => i = b18) b18 rfl _ _ (Kept.refl _ _)
      obtain ⟨w9, hw⟩ : ∃ z, w3.setCells b18 0 [.slice a1 n1 c1, .int .i64 A.I, .int .i64 A.S, .int .u64 A.D] = z := ⟨_, rfl⟩
      rw [hw] at hk4 hr4 ⊢
      have hb4 : Below wr.heap.size wr w9 := H3.out.trans (hk4.below H3.out.size (fun i e => by have := HL.out; omega))
      have H9 : Hid (Below wr.heap.size wr w9 ∧ w9.heap[b18]? = some (.cells #[.slice a1 n1 c1, .int .i64 A.I, .int .i64 A.S, .int .u64 A.D] 32 (0, 0)) ∧ Rt w9 a1 n1 A.l ∧ n1 ≤ c1 ∧ wr.heap.size ≤ b18) := ⟨hb4, hr4, HR3.out.1.keep hk4 (fun b cur hb e => by rw [e, HZ3.out] at hb; simp at hb), HR3.out.2, HL.out⟩
      clear hr4 hk4 hb4 hw
      clear hS
      refine hK.out _ _ (⟨(HW.out.past H9.out.1).box, (HX.out.past H9.out.1).row⟩) (fun hS => ?_)
      clear hK K
      try simp only [Act.put, List.setIfInBounds_toArray]
      refine tk 9 19 (.int .i64 cd) rfl rfl (by kernel_rfl) (by kernel_rfl) (by kernel_rfl) (fun _ _ _ h => h) (Or.inl ⟨by rfl, fun w' h' => ?_⟩) hS ?_
      · go_simp
      refine wpAnyH_done (by kernel_rfl) ?_ _
      go_wp2_with fail
      refine Met.intro (hJ0 _ _ ?_)
      exact ⟨b18, a1, n1, c1, ⟨rfl, rfl⟩, rfl, rfl, rfl, rfl, rfl, rfl, rfl, H9.out⟩
    · rw [if_pos (by rfl)]
      have HB : Hid (Below wr.heap.size wr (w1.alloc (.cells #[.slice none 0 0, .int .i64 0, .int .i64 0, .int .u64 0] 32))) := H1.out.trans (((Below.refl w1.heap.size w1).alloc (Nat.le_refl _) _).mono H1.out.size)
      have HZ2 : Hid ((w1.alloc (.cells #[.slice none 0 0, .int .i64 0, .int .i64 0, .int .u64 0] 32)).heap[w1.heap.size]? = some (.cells #[.slice none 0 0, .int .i64 0, .int .i64 0, .int .u64 0] 32 (0, 0))) := Blk_new w1 _ _
      go_wp2_with fail
      obtain ⟨w2, hw⟩ : ∃ z, w1.alloc (.cells #[.slice none 0 0, .int .i64 0, .int .i64 0, .int .u64 0] 32) = z := ⟨_, rfl⟩
      first | rw [hw] | (change K _ (w1.alloc (.cells #[.slice none 0 0, .int .i64 0, .int .i64 0, .int .u64 0] 32)); rw [hw])
      rw [hw] at HB HZ2
      obtain ⟨b18, hp⟩ : ∃ z, w1.heap.size = z := ⟨_, rfl⟩
      rw [hp] at HZ2
      first | rw [hp] | skip
      have HL : Hid (wr.heap.size ≤ b18) := by
        show _ ≤ _
        have := H1.out.size
        omega
      have H2 : Hid (Below wr.heap.size wr w2) := HB.out
      clear hw hp HB
      clear hS
      refine hK.out _ _ (⟨(HW.out.past H2.out).box, (HX.out.past H2.out).row⟩) (fun hS => ?_)
      clear hK K
      try simp only [Act.put, List.setIfInBounds_toArray, List.set_cons_zero, List.set_cons_succ]
      refine wpAnyH_ready (rs := [3]) (by kernel_rfl) (by simp) (AllReadyH.cons rfl (fun K hK => ?_) AllReadyH.nil)
      rw [if_pos (by rfl)]
      go_wp2_with fail
      refine (HP.out _ (HW.out.past H2.out).rt).mono ?_
      rintro e w3 ⟨hb, a1, n1, c1, rfl, hr1, hc1⟩
      rw [HA.out] at hr1
      rw [HA.out, HCD.out]
      rw [show rqv a1 n1 c1 A = .agg #[.slice a1 n1 c1, .int .i64 A.I, .int .i64 A.S, .int .u64 A.D] from rfl]
      have H3 : Hid (Below wr.heap.size wr w3) := H2.out.trans (hb.mono H2.out.size)
      have HR3 : Hid (Rt w3 a1 n1 A.l ∧ n1 ≤ c1) := ⟨hr1, hc1⟩
      have HZ3 : Hid (w3.heap[b18]? = some (.cells #[.slice none 0 0, .int .i64 0, .int .i64 0, .int .u64 0] 32 (0, 0))) := (hb.block _ (Array.getElem?_eq_some_iff.1 HZ2.out).1).trans HZ2.out
      clear hb hr1 hc1
      clear hS
      refine hK.out _ _ (⟨(HW.out.past H3.out).box, (HX.out.past H3.out).row⟩) (fun hS => ?_)
      clear hK K
      try simp only [Act.put, List.setIfInBounds_toArray, List.set_cons_zero, List.set_cons_succ]
      refine tk 4 78 (.tuple #[.agg #[.slice a1 n1 c1, .int .i64 A.I, .int .i64 A.S, .int .u64 A.D], .int .i64 cd]) rfl rfl (by kernel_rfl) (by kernel_rfl) (by kernel_rfl) (fun _ _ _ h => h) (Or.inl ⟨by rfl, fun w' h' => ?_⟩) hS ?_
      · go_simp
      try simp only [Act.put, List.setIfInBounds_toArray, List.set_cons_zero, List.set_cons_succ]
      refine tk 5 83 (.agg #[.slice a1 n1 c1, .int .i64 A.I, .int .i64 A.S, .int .u64 A.D]) rfl rfl (by kernel_rfl) (by kernel_rfl) (by kernel_rfl) (fun _ _ _ h => h) (Or.inl ⟨by rfl, fun w' h' => ?_⟩) hS ?_
      · go_simp
      try simp only [Act.put, List.setIfInBounds_toArray, List.set_cons_zero, List.set_cons_succ]
      refine tk 6 84 (.int .i64 cd) rfl rfl (by kernel_rfl) (by kernel_rfl) (by kernel_rfl) (fun _ _ _ h => h) (Or.inl ⟨by rfl, fun w' h' => ?_⟩) hS ?_
      · go_simp
      try simp only [Act.put, List.setIfInBounds_toArray, List.set_cons_zero, List.set_cons_succ]
      refine wpAnyH_ready (rs := [8]) (by kernel_rfl) (by simp) (AllReadyH.cons rfl (fun K hK => ?_) AllReadyH.nil)
      rw [if_pos (by rfl)]
      refine wp_store_mid 32 (.tmp 18) (.tmp 83) rfl b18 0 #[.slice a1 n1 c1, .int .i64 A.I, .int .i64 A.S, .int .u64 A.D] rfl rfl (row_there HZ3.out (by simp)) infQ4 (by simp [Value.oneCell']) ?_
      change K _ (w3.setCells b18 0 [.slice a1 n1 c1, .int .i64 A.I, .int .i64 A.S, .int .u64 A.D])
      have hr4 := row4_set HZ3.out (.slice a1 n1 c1) (.int .i64 A.I) (.int .i64 A.S) (.int .u64 A.D)
      have hk4 : Kept (fun i => i = b18) w3 (w3.setCells b18 0 [.slice a1 n1 c1, .int .i64 A.I, .int .i64 A.S, .int .u64 A.D]) := Kept.setCells (S := fun i => i = b18) b18 rfl _ _ (Kept.refl _ _)
      obtain ⟨w9, hw⟩ : ∃ z, w3.setCells b18 0 [.slice a1 n1 c1, .int .i64 A.I, .int .i64 A.S, .int .u64 A.D] = z := ⟨_, rfl⟩
      rw [hw] at hk4 hr4 ⊢
      have hb4 : Below wr.heap.size wr w9 := H3.out.trans (hk4.below H3.out.size (fun i e => by have := HL.out; omega))
      have H9 : Hid (Below wr.heap.size wr w9 ∧ w9.heap[b18]? = some (.cells #[.slice a1 n1 c1, .int .i64 A.I, .int .i64 A.S, .int .u64 A.D] 32 (0, 0)) ∧ Rt w9 a1 n1 A.l ∧ n1 ≤ c1 ∧ wr.heap.size ≤ b18) := ⟨hb4, hr4, HR3.out.1.keep hk4 (fun b cur hb e => by rw [e, HZ3.out] at hb; simp at hb), HR3.out.2, HL.out⟩
      clear hr4 hk4 hb4 hw
      clear hS
      refine hK.out _ _ (⟨(HW.out.past H9.out.1).box, (HX.out.past H9.out.1).row⟩) (fun hS => ?_)
      clear hK K
      try simp only [Act.put, List.setIfInBounds_toArray]
      refine tk 9 19 (.int .i64 cd) rfl rfl (by kernel_rfl) (by kernel_rfl) (by kernel_rfl) (fun _ _ _ h => h) (Or.inl ⟨by rfl, fun w' h' => ?_⟩) hS ?_
      · go_simp
      refine wpAnyH_done (by kernel_rfl) ?_ _
      go_wp2_with fail
      refine Met.intro (hJ0 _ _ ?_)
      exact ⟨b18, a1, n1, c1, ⟨rfl, rfl⟩, rfl, rfl, rfl, rfl, rfl, rfl, rfl, H9.out⟩
  · rw [if_pos (by rfl)]
    have HB : Hid (Below wr.heap.size wr (wr.drew.alloc (.cells #[.slice none 0 0, .int .i64 0, .int .i64 0, .int .u64 0] 32))) := H0.out.trans (((Below.refl wr.drew.heap.size wr.drew).alloc (Nat.le_refl _) _).mono H0.out.size)
    have HZ1 : Hid ((wr.drew.alloc (.cells #[.slice none 0 0, .int .i64 0, .int .i64 0, .int .u64 0] 32)).heap[wr.heap.size]? = some (.cells #[.slice none 0 0, .int .i64 0, .int .i64 0, .int .u64 0] 32 (0, 0))) := Blk_new wr.drew _ _
    go_wp2_with fail
    obtain ⟨w1, hw⟩ : ∃ z, wr.drew.alloc (.cells #[.slice none 0 0, .int .i64 0, .int .i64 0, .int .u64 0] 32) = z := ⟨_, rfl⟩
    first | rw [hw] | (change K _ (wr.drew.alloc (.cells #[.slice none 0 0, .int .i64 0, .int .i64 0, .int .u64 0] 32)); rw [hw])
    rw [hw] at HB HZ1
    obtain ⟨b18, hp⟩ : ∃ z, wr.heap.size = z := ⟨_, rfl⟩
    rw [hp] at HZ1
    first | rw [hp] | skip
    have HL : Hid (wr.heap.size ≤ b18) := by
      show _ ≤ _
      have := H0.out.size
      omega
    have H1 : Hid (Below wr.heap.size wr w1) := HB.out
    clear hw hp HB
    clear hS
    refine hK.out _ _ (⟨(HW.out.past H1.out).box, (HX.out.past H1.out).row⟩) (fun hS => ?_)
    clear hK K
    try simp only [Act.put, List.setIfInBounds_toArray, List.set_cons_zero, List.set_cons_succ]
    refine wpAnyH_ready (rs := [2]) (by kernel_rfl) (by simp) (AllReadyH.cons rfl (fun K hK => ?_) AllReadyH.nil)
    rw [if_pos (by rfl)]
    go_wp2_with fail
    refine (item_any ⟨no, sz, ya, yn, yc, yd⟩ _ (HX.out.past H1.out).at_).mono ?_
    rintro e w2 ⟨rfl, hb⟩
    rw [show It.v (Pi.it ⟨no, sz, ya, yn, yc, yd⟩) = .agg #[.int .u64 no, .int .i64 sz, .string (str yd)] from rfl, HT.out]
    have H2 : Hid (Below wr.heap.size wr w2) := H1.out.trans (hb.mono H1.out.size)
    have HZ2 : Hid (w2.heap[b18]? = some (.cells #[.slice none 0 0, .int .i64 0, .int .i64 0, .int .u64 0] 32 (0, 0))) := (hb.block _ (Array.getElem?_eq_some_iff.1 HZ1.out).1).trans HZ1.out
    clear hb
    clear hS
    refine hK.out _ _ (⟨(HW.out.past H2.out).box, (HX.out.past H2.out).row⟩) (fun hS => ?_)
    clear hK K
    try simp only [Act.put, List.setIfInBounds_toArray, List.set_cons_zero, List.set_cons_succ]
    refine wpAnyH_ready (rs := [3]) (by kernel_rfl) (by simp) (AllReadyH.cons rfl (fun K hK => ?_) AllReadyH.nil)
    rw [if_pos (by rfl)]
    go_wp2_with fail
    refine (HP.out _ (HW.out.past H2.out).rt).mono ?_
    rintro e w3 ⟨hb, a1, n1, c1, rfl, hr1, hc1⟩
    rw [HA.out] at hr1
    rw [HA.out, HCD.out]
    rw [show rqv a1 n1 c1 A = .agg #[.slice a1 n1 c1, .int .i64 A.I, .int .i64 A.S, .int .u64 A.D] from rfl]
    have H3 : Hid (Below wr.heap.size wr w3) := H2.out.trans (hb.mono H2.out.size)
    have HR3 : Hid (Rt w3 a1 n1 A.l ∧ n1 ≤ c1) := ⟨hr1, hc1⟩
    have HZ3 : Hid (w3.heap[b18]? = some (.cells #[.slice none 0 0, .int .i64 0, .int .i64 0, .int .u64 0] 32 (0, 0))) := (hb.block _ (Array.getElem?_eq_some_iff.1 HZ2.out).1).trans HZ2.out
    clear hb hr1 hc1
    clear hS
    refine hK.out _ _ (⟨(HW.out.past H3.out).box, (HX.out.past H3.out).row⟩) (fun hS => ?_)
    clear hK K
    try simp only [Act.put, List.setIfInBounds_toArray, List.set_cons_zero, List.set_cons_succ]
    refine tk 4 78 (.tuple #[.agg #[.slice a1 n1 c1, .int .i64 A.I, .int .i64 A.S, .int .u64 A.D], .int .i64 cd]) rfl rfl (by kernel_rfl) (by kernel_rfl) (by kernel_rfl) (fun _ _ _ h => h) (Or.inl ⟨by rfl, fun w' h' => ?_⟩) hS ?_
    · go_simp
    try simp only [Act.put, List.setIfInBounds_toArray, List.set_cons_zero, List.set_cons_succ]
    refine tk 5 83 (.agg #[.slice a1 n1 c1, .int .i64 A.I, .int .i64 A.S, .int .u64 A.D]) rfl rfl (by kernel_rfl) (by kernel_rfl) (by kernel_rfl) (fun _ _ _ h => h) (Or.inl ⟨by rfl, fun w' h' => ?_⟩) hS ?_
    · go_simp
    try simp only [Act.put, List.setIfInBounds_toArray, List.set_cons_zero, List.set_cons_succ]
    refine tk 6 84 (.int .i64 cd) rfl rfl (by kernel_rfl) (by kernel_rfl) (by kernel_rfl) (fun _ _ _ h => h) (Or.inl ⟨by rfl, fun w' h' => ?_⟩) hS ?_
    · go_simp
    try simp only [Act.put, List.setIfInBounds_toArray, List.set_cons_zero, List.set_cons_succ]
    refine wpAnyH_ready (rs := [8]) (by kernel_rfl) (by simp) (AllReadyH.cons rfl (fun K hK => ?_) AllReadyH.nil)
    rw [if_pos (by rfl)]
    refine wp_store_mid 32 (.tmp 18) (.tmp 83) rfl b18 0 #[.slice a1 n1 c1, .int .i64 A.I, .int .i64 A.S, .int .u64 A.D] rfl rfl (row_there HZ3.out (by simp)) infQ4 (by simp [Value.oneCell']) ?_
    change K _ (w3.setCells b18 0 [.slice a1 n1 c1, .int .i64 A.I, .int .i64 A.S, .int .u64 A.D])
    have hr4 := row4_set HZ3.out (.slice a1 n1 c1) (.int .i64 A.I) (.int .i64 A.S) (.int .u64 A.D)
    have hk4 : Kept (fun i => i = b18) w3 (w3.setCells b18 0 [.slice a1 n1 c1, .int .i64 A.I, .int .i64 A.S, .int .u64 A.D]) := Kept.setCells (S := fun i => i = b18) b18 rfl _ _ (Kept.refl _ _)
    obtain ⟨w9, hw⟩ : ∃ z, w3.setCells b18 0 [.slice a1 n1 c1, .int .i64 A.I, .int .i64 A.S, .int .u64 A.D] = z := ⟨_, rfl⟩
    rw [hw] at hk4 hr4 ⊢
    have hb4 : Below wr.heap.size wr w9 := H3.out.trans (hk4.below H3.out.size (fun i e => by have := HL.out; omega))
    have H9 : Hid (Below wr.heap.size wr w9 ∧ w9.heap[b18]? = some (.cells #[.slice a1 n1 c1, .int .i64 A.I, .int .i64 A.S, .int .u64 A.D] 32 (0, 0)) ∧ Rt w9 a1 n1 A.l ∧ n1 ≤ c1 ∧ wr.heap.size ≤ b18) := ⟨hb4, hr4, HR3.out.1.keep hk4 (fun b cur hb e => by rw [e, HZ3.out] at hb; simp at hb), HR3.out.2, HL.out⟩
    clear hr4 hk4 hb4 hw
    clear hS
    refine hK.out _ _ (⟨(HW.out.past H9.out.1).box, (HX.out.past H9.out.1).row⟩) (fun hS => ?_)
    clear hK K
    try simp only [Act.put, List.setIfInBounds_toArray]
    refine tk 9 19 (.int .i64 cd) rfl rfl (by kernel_rfl) (by kernel_rfl) (by kernel_rfl) (fun _ _ _ h => h) (Or.inl ⟨by rfl, fun w' h' => ?_⟩) hS ?_
    · go_simp
    refine wpAnyH_done (by kernel_rfl) ?_ _
    go_wp2_with fail
    refine Met.intro (hJ0 _ _ ?_)
    exact ⟨b18, a1, n1, c1, ⟨rfl, rfl⟩, rfl, rfl, rfl, rfl, rfl, rfl, rfl, H9.out⟩

set_option maxRecDepth 100000 in
set_option maxHeartbeats 4000000 in
theorem p17 (w wr : World) (n c g br k xb xo px : Nat) (q : Qs) (ra : Option Addr) (m rc : Nat) (x : Pi) (HX : Hid (Xw w wr g br px q x)) (HW : Hid (Pw w wr g br q ra m rc)) (A : Aq) (cd : Int) (HA : Hid (q.abs.push x.it = A)) (HCD : Hid (q.abs.code x.it = cd)) (b18 : Nat) (a1 : Option Addr) (n1 c1 : Nat) (HN : Hid (wr.heap[b18]? = some (.cells #[.slice a1 n1 c1, .int .i64 A.I, .int .i64 A.S, .int .u64 A.D] 32 (0, 0)))) (HR : Hid (Rt wr a1 n1 A.l)) (hc1 : n1 ≤ c1) (hs1 : x.sz ≤ 9223372036854775807) (hD : q.D < 18446744073709551615) (a : Act) (hf : Fr 158 a) (h2 : sl a 2 = .slice (some ⟨xb, xo, none⟩) n c) (h7 : sl a 7 = .pointer (some ⟨g, 0, none⟩)) (h9 : sl a 9 = .pointer (some ⟨br, 0, none⟩)) (h11 : sl a 11 = .int .i64 (k : Int)) (h12 : sl a 12 = .pointer (some ⟨px, 0, none⟩)) (h18 : sl a 18 = .pointer (some ⟨b18, 0, none⟩)) (h19 : sl a 19 = .int .i64 cd) :
    Code.wp Try.prog (cAt [1,1,1,1,1,1,0,1,2,2,1,0,2,1,1,1,0,1,2,1,4,1,4,1,4,1,0] KP) (Exit.then (fun a' w' => ∃ (q' : Qs), Fr 158 a' ∧ sl a' 2 = .slice (some ⟨xb, xo, none⟩) n c ∧ sl a' 7 = .pointer (some ⟨g, 0, none⟩) ∧ sl a' 9 = .pointer (some ⟨br, 0, none⟩) ∧ sl a' 11 = .int .i64 (k : Int) ∧ sl a' 12 = .pointer (some ⟨px, 0, none⟩) ∧ sl a' 18 = .pointer (some ⟨b18, 0, none⟩) ∧ Pp w w' g br b18 q' a1 n1 c1 ∧ Xw w w' g br px q' x ∧ q'.D ≤ q.D + 1) Nope) a wr := by
  obtain ⟨f, ha, hs⟩ := fr158 hf
  have e2 := (hs 2).trans h2
  have e7 := (hs 7).trans h7
  have e9 := (hs 9).trans h9
  have e11 := (hs 11).trans h11
  have e12 := (hs 12).trans h12
  have e18 := (hs 18).trans h18
  have e19 := (hs 19).trans h19
  rw [e2, e7, e9, e11, e12, e18, e19] at ha
  clear hs hf e2 h2 e7 h7 e9 h9 e11 h11 e12 h12 e18 h18 e19 h19
  subst ha
  refine piece2 fun J0 K0 hJ0 hK0 => ?_
  conv => arg 2; whnf
  obtain ⟨no, sz, ya, yn, yc, yd⟩ := x
  have hrow : wr.heap[px]? = some (.cells #[.int .u64 no, .int .i64 sz, .slice ya yn yc] 37 (0, 0)) := HX.out.row
  have k0 := q3_0 hrow
  have k1 := q3_1 hrow
  have k2 := q3_2 hrow
  have HS1 := Lib.hid hs1
  have HDD := Lib.hid hD
  clear hrow hs1 hD
  go_wp2_with fail
  refine (fPush_any w.heap.size g q ⟨no, sz, ya, yn, yc, yd⟩ wr HW.out.qu HX.out.at_ (fun _ => HX.out.nf) HW.out.below.size HS1.out HDD.out).mono ?_
  rintro e w1 ⟨rfl, q', hq, ha, hk, hf⟩
  rw [HCD.out]
  have hA : q'.abs = A := ha.trans HA.out
  have hI : q'.I = A.I := congrArg Aq.I hA
  have hS : q'.S = A.S := congrArg Aq.S hA
  have hD : q'.D = A.D := congrArg Aq.D hA
  have hle : q'.D ≤ q.D + 1 := by
    have h1 : q'.D = (q.abs.push (Pi.it ⟨no, sz, ya, yn, yc, yd⟩)).D := congrArg Aq.D ha
    rw [h1]
    unfold Aq.push
    split
    · show q.D ≤ _
      omega
    · split
      · show q.D ≤ _
        omega
      · exact Int.le_refl _
  have H1 : Hid (Pp w w1 g br b18 q' a1 n1 c1 ∧ Xw w w1 g br px q' ⟨no, sz, ya, yn, yc, yd⟩ ∧ q'.D ≤ q.D + 1) := ⟨HW.out.step hq hk (by rw [hA]; exact HR.out) hc1 (by rw [hI, hS, hD]; exact HN.out), HX.out.did hk hf, hle⟩
  clear hA hI hS hD hle hq ha hk hf k0 k1 k2
  go_wp2_with fail
  refine Met.intro (hJ0 _ _ ?_)
  exact ⟨q', ⟨rfl, rfl⟩, rfl, rfl, rfl, rfl, rfl, rfl, H1.out⟩

set_option maxRecDepth 100000 in
set_option maxHeartbeats 4000000 in
theorem p19 (w wr : World) (n c g br k xb xo px bn : Nat) (q : Qs) (ra : Option Addr) (m rc : Nat) (HP : Hid (Pp w wr g br bn q ra m rc)) (x : Pi) (HX : Hid (Xw w wr g br px q x)) (a : Act) (hf : Fr 158 a) (h2 : sl a 2 = .slice (some ⟨xb, xo, none⟩) n c) (h7 : sl a 7 = .pointer (some ⟨g, 0, none⟩)) (h9 : sl a 9 = .pointer (some ⟨br, 0, none⟩)) (h11 : sl a 11 = .int .i64 (k : Int)) (h12 : sl a 12 = .pointer (some ⟨px, 0, none⟩)) (h18 : sl a 18 = .pointer (some ⟨bn, 0, none⟩)) :
    Code.wp Try.prog (cAt [1,1,1,1,1,1,0,1,2,2,1,0,2,1,1,1,0,1,2,1,4,1,4,1,4,1,1,0] KP) (Exit.then (fun a' w' => Fr 158 a' ∧ sl a' 2 = .slice (some ⟨xb, xo, none⟩) n c ∧ sl a' 7 = .pointer (some ⟨g, 0, none⟩) ∧ sl a' 9 = .pointer (some ⟨br, 0, none⟩) ∧ sl a' 11 = .int .i64 (k : Int) ∧ sl a' 12 = .pointer (some ⟨px, 0, none⟩) ∧ Pw w w' g br q ra m rc ∧ Xw w w' g br px q x) Nope) a wr := by
  obtain ⟨f, ha, hs⟩ := fr158 hf
  have e2 := (hs 2).trans h2
  have e7 := (hs 7).trans h7
  have e9 := (hs 9).trans h9
  have e11 := (hs 11).trans h11
  have e12 := (hs 12).trans h12
  have e18 := (hs 18).trans h18
  rw [e2, e7, e9, e11, e12, e18] at ha
  clear hs hf e2 h2 e7 h7 e9 h9 e11 h11 e12 h12 e18 h18
  subst ha
  refine piece2 fun J0 K0 hJ0 hK0 => ?_
  conv => arg 2; whnf
  obtain ⟨u0, u1, u2, u3, hbx⟩ := HP.out.box
  have HBX := Lib.hid hbx
  have c0 := q4_0 HP.out.nu
  have c1 := q4_1 HP.out.nu
  have c2 := q4_2 HP.out.nu
  have c3 := q4_3 HP.out.nu
  have HZ := Lib.hid HP.out.store
  have d0 := q4_0 HBX.out
  have d1 := q4_1 HBX.out
  have d2 := q4_2 HBX.out
  have d3 := q4_3 HBX.out
  have f0 : wr.frozen? ⟨br, 0, none⟩ = false := frozen_of_row wr br 0 _ _ HBX.out
  have f1 : wr.frozen? ⟨br, 1, none⟩ = false := frozen_of_row wr br 1 _ _ HBX.out
  have f2 : wr.frozen? ⟨br, 2, none⟩ = false := frozen_of_row wr br 2 _ _ HBX.out
  have f3 : wr.frozen? ⟨br, 3, none⟩ = false := frozen_of_row wr br 3 _ _ HBX.out
  have HZX : Hid (Xw w (wr.setCells br 0 [.slice ra m rc, .int .i64 q.I, .int .i64 q.S, .int .u64 q.D]) g br px q x) := HX.out.store HBX.out (Kept.setCells (S := fun i => i = br) br rfl _ _ (Kept.refl _ _))
  clear hbx
  go_wp2_with fail
  refine Met.intro (hJ0 _ _ ?_)
  exact ⟨⟨rfl, rfl⟩, rfl, rfl, rfl, rfl, rfl, HZ.out, HZX.out⟩

set_option maxRecDepth 100000 in
set_option maxHeartbeats 4000000 in
theorem p20 (wr : World) (n c g br k xb xo px : Nat) (a : Act) (hf : Fr 158 a) (h2 : sl a 2 = .slice (some ⟨xb, xo, none⟩) n c) (h7 : sl a 7 = .pointer (some ⟨g, 0, none⟩)) (h9 : sl a 9 = .pointer (some ⟨br, 0, none⟩)) (h11 : sl a 11 = .int .i64 (k : Int)) (h12 : sl a 12 = .pointer (some ⟨px, 0, none⟩)) :
    Code.wp Try.prog (cAt [1,1,1,1,1,1,0,1,2,2,1,0,2,1,1,1,0,1,2,1,4,1,4,1,4,1,1,1,0] KP) (Exit.then (fun a' w' => Fr 158 a' ∧ sl a' 2 = .slice (some ⟨xb, xo, none⟩) n c ∧ sl a' 7 = .pointer (some ⟨g, 0, none⟩) ∧ sl a' 9 = .pointer (some ⟨br, 0, none⟩) ∧ sl a' 11 = .int .i64 (k : Int) ∧ sl a' 12 = .pointer (some ⟨px, 0, none⟩) ∧ sl a' 20 = .int .i64 0 ∧ wr = w') Nope) a wr := by
  obtain ⟨f, ha, hs⟩ := fr158 hf
  have e2 := (hs 2).trans h2
  have e7 := (hs 7).trans h7
  have e9 := (hs 9).trans h9
  have e11 := (hs 11).trans h11
  have e12 := (hs 12).trans h12
  rw [e2, e7, e9, e11, e12] at ha
  clear hs hf e2 h2 e7 h7 e9 h9 e11 h11 e12 h12
  subst ha
  refine piece2 fun J0 K0 hJ0 hK0 => ?_
  conv => arg 2; whnf
  go_wp2_with fail
  refine Met.intro (hJ0 _ _ ?_)
  exact ⟨⟨rfl, rfl⟩, rfl, rfl, rfl, rfl, rfl, rfl, rfl⟩

set_option maxRecDepth 100000 in
set_option maxHeartbeats 4000000 in
theorem p21 (wr : World) (n c g br k xb xo px j : Nat) (ya : Option Addr) (yn yc : Nat) (HC : Hid (wr.cell? ⟨px, 2, none⟩ = some (.slice ya yn yc))) (hj : j < yn) (a : Act) (hf : Fr 158 a) (h2 : sl a 2 = .slice (some ⟨xb, xo, none⟩) n c) (h7 : sl a 7 = .pointer (some ⟨g, 0, none⟩)) (h9 : sl a 9 = .pointer (some ⟨br, 0, none⟩)) (h11 : sl a 11 = .int .i64 (k : Int)) (h12 : sl a 12 = .pointer (some ⟨px, 0, none⟩)) (h20 : sl a 20 = .int .i64 (j : Int)) :
    Code.wp Try.prog (cAt [1,1,1,1,1,1,0,1,2,2,1,0,2,1,1,1,0,1,2,1,4,1,4,1,4,1,1,1,1,2,2,0] KP) (Exit.then (fun a' w' => Fr 158 a' ∧ sl a' 2 = .slice (some ⟨xb, xo, none⟩) n c ∧ sl a' 7 = .pointer (some ⟨g, 0, none⟩) ∧ sl a' 9 = .pointer (some ⟨br, 0, none⟩) ∧ sl a' 11 = .int .i64 (k : Int) ∧ sl a' 12 = .pointer (some ⟨px, 0, none⟩) ∧ sl a' 20 = .int .i64 (j : Int) ∧ wr = w') Nope) a wr := by
  obtain ⟨f, ha, hs⟩ := fr158 hf
  have e2 := (hs 2).trans h2
  have e7 := (hs 7).trans h7
  have e9 := (hs 9).trans h9
  have e11 := (hs 11).trans h11
  have e12 := (hs 12).trans h12
  have e20 := (hs 20).trans h20
  rw [e2, e7, e9, e11, e12, e20] at ha
  clear hs hf e2 h2 e7 h7 e9 h9 e11 h11 e12 h12 e20 h20
  subst ha
  refine piece2 fun J0 K0 hJ0 hK0 => ?_
  conv => arg 2; whnf
  have hc := HC.out
  have hj2 : (j : Int) < (yn : Int) := by omega
  go_wp2_with fail
  refine Met.intro (hJ0 _ _ ?_)
  exact ⟨⟨rfl, rfl⟩, rfl, rfl, rfl, rfl, rfl, rfl, rfl⟩

set_option maxRecDepth 100000 in
set_option maxHeartbeats 4000000 in
theorem p21x (wr : World) (n c g br k xb xo px j : Nat) (ya : Option Addr) (yn yc : Nat) (HC : Hid (wr.cell? ⟨px, 2, none⟩ = some (.slice ya yn yc))) (hj : ¬ j < yn) (a : Act) (hf : Fr 158 a) (h2 : sl a 2 = .slice (some ⟨xb, xo, none⟩) n c) (h7 : sl a 7 = .pointer (some ⟨g, 0, none⟩)) (h9 : sl a 9 = .pointer (some ⟨br, 0, none⟩)) (h11 : sl a 11 = .int .i64 (k : Int)) (h12 : sl a 12 = .pointer (some ⟨px, 0, none⟩)) (h20 : sl a 20 = .int .i64 (j : Int)) :
    Code.wp Try.prog (cAt [1,1,1,1,1,1,0,1,2,2,1,0,2,1,1,1,0,1,2,1,4,1,4,1,4,1,1,1,1,2,2] KP) (Outs 3 (fun a' w' => Fr 158 a' ∧ sl a' 2 = .slice (some ⟨xb, xo, none⟩) n c ∧ sl a' 7 = .pointer (some ⟨g, 0, none⟩) ∧ sl a' 9 = .pointer (some ⟨br, 0, none⟩) ∧ sl a' 11 = .int .i64 (k : Int) ∧ sl a' 12 = .pointer (some ⟨px, 0, none⟩) ∧ wr = w')) a wr := by
  obtain ⟨f, ha, hs⟩ := fr158 hf
  have e2 := (hs 2).trans h2
  have e7 := (hs 7).trans h7
  have e9 := (hs 9).trans h9
  have e11 := (hs 11).trans h11
  have e12 := (hs 12).trans h12
  have e20 := (hs 20).trans h20
  rw [e2, e7, e9, e11, e12, e20] at ha
  clear hs hf e2 h2 e7 h7 e9 h9 e11 h11 e12 h12 e20 h20
  subst ha
  conv => arg 2; whnf
  have hc := HC.out
  go_wp2_with fail
  exact ⟨rfl, ⟨rfl, rfl⟩, rfl, rfl, rfl, rfl, rfl, rfl⟩

set_option maxRecDepth 100000 in
set_option maxHeartbeats 4000000 in
theorem p23 (wr : World) (base n c g br k xb xo px j yg yn yc : Nat) (z : Int) (w0 : World) (HC : Hid (wr.cell? ⟨px, 2, none⟩ = some (.slice (some ⟨yg, 0, none⟩) yn yc))) (hj : j < yn) (HZ : Hid (wr.cell? ⟨yg, j, none⟩ = some (.int .u8 z))) (HF : Hid (wr.frozen? ⟨yg, j, none⟩ = false)) (HI : Hid (∀ x, Inc w0 base (some ⟨yg, 0, none⟩) yn yc (wr.setCell ⟨yg, j, none⟩ (.int .u8 x)))) (a : Act) (hf : Fr 158 a) (h2 : sl a 2 = .slice (some ⟨xb, xo, none⟩) n c) (h7 : sl a 7 = .pointer (some ⟨g, 0, none⟩)) (h9 : sl a 9 = .pointer (some ⟨br, 0, none⟩)) (h11 : sl a 11 = .int .i64 (k : Int)) (h12 : sl a 12 = .pointer (some ⟨px, 0, none⟩)) (h20 : sl a 20 = .int .i64 (j : Int)) :
    Code.wp Try.prog (cAt [1,1,1,1,1,1,0,1,2,2,1,0,2,1,1,1,0,1,2,1,4,1,4,1,4,1,1,1,1,2,2,1,0,2] KP) (Exit.then (fun a' w' => Fr 158 a' ∧ sl a' 2 = .slice (some ⟨xb, xo, none⟩) n c ∧ sl a' 7 = .pointer (some ⟨g, 0, none⟩) ∧ sl a' 9 = .pointer (some ⟨br, 0, none⟩) ∧ sl a' 11 = .int .i64 (k : Int) ∧ sl a' 12 = .pointer (some ⟨px, 0, none⟩) ∧ sl a' 20 = .int .i64 (j : Int) ∧ Inc w0 base (some ⟨yg, 0, none⟩) yn yc w') Nope) a wr := by
  obtain ⟨f, ha, hs⟩ := fr158 hf
  have e2 := (hs 2).trans h2
  have e7 := (hs 7).trans h7
  have e9 := (hs 9).trans h9
  have e11 := (hs 11).trans h11
  have e12 := (hs 12).trans h12
  have e20 := (hs 20).trans h20
  rw [e2, e7, e9, e11, e12, e20] at ha
  clear hs hf e2 h2 e7 h7 e9 h9 e11 h11 e12 h12 e20 h20
  subst ha
  refine piece2 fun J0 K0 hJ0 hK0 => ?_
  conv => arg 2; whnf
  have hc := HC.out
  have hz := HZ.out
  have hfz := HF.out
  have hj2 : (j : Int) < (yn : Int) := by omega
  have hj0 : (0 : Int) ≤ (j : Int) := by omega
  go_wp2_with fail
  refine Met.intro (hJ0 _ _ ?_)
  exact ⟨⟨rfl, rfl⟩, rfl, rfl, rfl, rfl, rfl, rfl, HI.out _⟩

set_option maxRecDepth 100000 in
set_option maxHeartbeats 4000000 in
theorem p22 (wr : World) (n c g br k xb xo px j : Nat) (hj : j < 1000000) (a : Act) (hf : Fr 158 a) (h2 : sl a 2 = .slice (some ⟨xb, xo, none⟩) n c) (h7 : sl a 7 = .pointer (some ⟨g, 0, none⟩)) (h9 : sl a 9 = .pointer (some ⟨br, 0, none⟩)) (h11 : sl a 11 = .int .i64 (k : Int)) (h12 : sl a 12 = .pointer (some ⟨px, 0, none⟩)) (h20 : sl a 20 = .int .i64 (j : Int)) :
    Code.wp Try.prog (cAt [1,1,1,1,1,1,0,1,2,2,1,0,2,1,1,1,0,1,2,1,4,1,4,1,4,1,1,1,1,2,2,1,1] KP) (Exit.then (fun a' w' => Fr 158 a' ∧ sl a' 2 = .slice (some ⟨xb, xo, none⟩) n c ∧ sl a' 7 = .pointer (some ⟨g, 0, none⟩) ∧ sl a' 9 = .pointer (some ⟨br, 0, none⟩) ∧ sl a' 11 = .int .i64 (k : Int) ∧ sl a' 12 = .pointer (some ⟨px, 0, none⟩) ∧ sl a' 20 = .int .i64 ((j : Int) + 1) ∧ wr = w') Nope) a wr := by
  obtain ⟨f, ha, hs⟩ := fr158 hf
  have e2 := (hs 2).trans h2
  have e7 := (hs 7).trans h7
  have e9 := (hs 9).trans h9
  have e11 := (hs 11).trans h11
  have e12 := (hs 12).trans h12
  have e20 := (hs 20).trans h20
  rw [e2, e7, e9, e11, e12, e20] at ha
  clear hs hf e2 h2 e7 h7 e9 h9 e11 h11 e12 h12 e20 h20
  subst ha
  refine piece2 fun J0 K0 hJ0 hK0 => ?_
  conv => arg 2; whnf
  go_wp2_with fail
  refine Met.intro (hJ0 _ _ ?_)
  exact ⟨⟨rfl, rfl⟩, rfl, rfl, rfl, rfl, rfl, rfl, rfl⟩

set_option maxRecDepth 100000 in
set_option maxHeartbeats 4000000 in
theorem p39 (w wr : World) (n c g br k xb xo : Nat) (q : Qs) (ra : Option Addr) (m rc : Nat) (HW : Hid (Pw w wr g br q ra m rc)) (hD : q.D < 18446744073709551615) (a : Act) (hf : Fr 158 a) (h2 : sl a 2 = .slice (some ⟨xb, xo, none⟩) n c) (h7 : sl a 7 = .pointer (some ⟨g, 0, none⟩)) (h9 : sl a 9 = .pointer (some ⟨br, 0, none⟩)) (h11 : sl a 11 = .int .i64 (k : Int)) :
    Code.wp Try.prog (cAt [1,1,1,1,1,1,0,1,2,2,1,0,2,1,1,1,1] KP) (Exit.then (fun a' w' => Fr 158 a' ∧ sl a' 2 = .slice (some ⟨xb, xo, none⟩) n c ∧ sl a' 7 = .pointer (some ⟨g, 0, none⟩) ∧ sl a' 9 = .pointer (some ⟨br, 0, none⟩) ∧ sl a' 11 = .int .i64 (k : Int) ∧ Pw w w' g br q ra m rc) Nope) a wr := by
  obtain ⟨f, ha, hs⟩ := fr158 hf
  have e2 := (hs 2).trans h2
  have e7 := (hs 7).trans h7
  have e9 := (hs 9).trans h9
  have e11 := (hs 11).trans h11
  rw [e2, e7, e9, e11] at ha
  clear hs hf e2 h2 e7 h7 e9 h9 e11 h11
  subst ha
  refine piece2 fun J0 K0 hJ0 hK0 => ?_
  conv => arg 2; whnf
  have c0 := q4_0 HW.out.box
  have c1 := q4_1 HW.out.box
  have c2 := q4_2 HW.out.box
  have c3 := q4_3 HW.out.box
  have HDD := Lib.hid hD
  clear hD
  go_wp2_with fail
  refine (is_any w.heap.size g q ra m rc wr HW.out.qu HW.out.rt HW.out.nc HDD.out).mono ?_
  rintro e w1 ⟨rfl, hb1⟩
  have H1 := Lib.hid (HW.out.past hb1)
  clear hb1 c0 c1 c2 c3
  go_wp2_with fail
  refine Met.intro (hJ0 _ _ ?_)
  exact ⟨⟨rfl, rfl⟩, rfl, rfl, rfl, rfl, H1.out⟩

set_option maxRecDepth 100000 in
set_option maxHeartbeats 4000000 in
theorem p41 (w wr : World) (HB : Hid (Below w.heap.size w wr)) (a : Act) (hf : Fr 158 a) :
    Code.wp Try.prog (cAt [1,1,1,1,1,1,1] KP) (bodyPost Try.prog Try.f3 (Yes w)) a wr := by
  obtain ⟨f, ha, hs⟩ := fr158 hf
  clear hs hf 
  subst ha
  conv => arg 2; whnf
  go_wp2_with fail
  refine (works11_any _).mono ?_
  rintro e w1 ⟨rfl, hb⟩
  have H1 : Hid (Below w.heap.size w w1) := HB.out.trans (hb.mono HB.out.size)
  clear hb
  go_wp2_with fail
  go_ret
  exact ⟨rfl, H1.out⟩

end Go.Proofs.Ytjjidjemkddebaa

/-
  The contract of SameDisk: of a disk that is the document's it is true. Conditions: at most a thousand unsynced writes. (Made by gen_dksd.py.)
-/
import Derived.Test.YtbghdlgfpfeaeaaDkRCr
namespace Go.Proofs.Ytbghdlgfpfeaeaa
open Go.RowKit

theorem Dm.pl {w : World} {B g : Nat} {k : Dk} (h : Dm w B g k) (hn : k.ws.length ≤ 1000) : PlOk k.d k.ws := ⟨h.ok.few, h.ok.byt,
  fun x hx => by obtain ⟨y, hy, rfl⟩ := List.mem_map.1 hx; exact h.ok.wbyt y hy, fun x hx => by obtain ⟨y, hy, rfl⟩ := List.mem_map.1 hx; exact h.ok.at0 y hy,
  fun x hx => by obtain ⟨y, hy, rfl⟩ := List.mem_map.1 hx; exact h.ok.at1 y hy, hn⟩
/-- What SameDisk holds. -/
structure Sd (w : World) (B g : Nat) (k : Dk) (b0 : Nat) (u : Option Addr) (m c : Nat) (a1 : Option Addr) (c1 : Nat) (a2 : Option Addr) (c2 : Nat) (ua : Option Addr) (uc : Nat) (UL : List Uw) (n : Nat) (w' : World) : Prop where
  below : Below w.heap.size w w'
  dm : Dm w' B g k
  row : w'.heap[b0]? = some (.cells #[.string (str k.d), .slice u m c] 63 (0, 0))
  lies : Rk.lies w' ⟨k.d, u, c, k.ws⟩
  o1 : Own w' w.heap.size a1 n c1 (nowP k.d k.ws)
  o2 : Own w' w.heap.size a2 n c2 k.d
  wr : Uws w' w.heap.size ua uc UL
theorem Sd.past {w w1 w2 : World} {B g : Nat} {k : Dk} {b0 : Nat} {u : Option Addr} {m c : Nat} {a1 : Option Addr} {c1 : Nat} {a2 : Option Addr} {c2 : Nat} {ua : Option Addr} {uc : Nat} {UL : List Uw} {n : Nat} (h : Sd w B g k b0 u m c a1 c1 a2 c2 ua uc UL n w1) (hk : Below w1.heap.size w1 w2) : Sd w B g k b0 u m c a1 c1 a2 c2 ua uc UL n w2 :=
  have kk : Kept (fun _ => False) w1 w2 := Kept.of_below hk (fun i hi hi2 => by omega)
  ⟨h.below.trans (hk.mono h.below.size), h.dm.below hk, (hk.block _ (Array.getElem?_eq_some_iff.1 h.row).1).trans h.row, h.lies.below hk, h.o1.keep kk (fun _ _ => id), h.o2.keep kk (fun _ _ => id), h.wr.below hk⟩
noncomputable def KSD : Code := Try.f37.body.getD .skip
set_option maxRecDepth 100000 in
theorem frKSD {a : Act} (h : Fr 96 a) : ∃ f : Nat → Value, a = ⟨#[f 0, f 1, f 2, f 3, f 4, f 5, f 6, f 7, f 8, f 9, f 10, f 11, f 12, f 13, f 14, f 15, f 16, f 17, f 18, f 19, f 20, f 21, f 22, f 23, f 24, f 25, f 26, f 27, f 28, f 29, f 30, f 31, f 32, f 33, f 34, f 35, f 36, f 37, f 38, f 39, f 40, f 41, f 42, f 43, f 44, f 45, f 46, f 47, f 48, f 49, f 50, f 51, f 52, f 53, f 54, f 55, f 56, f 57, f 58, f 59, f 60, f 61, f 62, f 63, f 64, f 65, f 66, f 67, f 68, f 69, f 70, f 71, f 72, f 73, f 74, f 75, f 76, f 77, f 78, f 79, f 80, f 81, f 82, f 83, f 84, f 85, f 86, f 87, f 88, f 89, f 90, f 91, f 92, f 93, f 94, f 95], []⟩ ∧ ∀ i, f i = sl a i := fr_any h

set_option maxRecDepth 100000 in
set_option maxHeartbeats 4000000 in
theorem s0 (w : World) (g : Nat) (k : Dk) (u : Option Addr) (c : Nat) (m : Nat) (a : Act) (hf : Fr 96 a) (h0 : sl a 0 = .pointer (some ⟨g, 0, none⟩)) (h1 : sl a 1 = .agg #[.string (str k.d), .slice u m c]) :
    Code.wp Try.prog (cAt [0] KSD) (Exit.then (fun a' w' => ∃ b0 : Nat, Fr 96 a' ∧ sl a' 0 = .pointer (some ⟨g, 0, none⟩) ∧ sl a' 3 = .pointer (some ⟨b0, 0, none⟩) ∧ Below w.heap.size w w' ∧ w'.heap[b0]? = some (.cells #[.string (str k.d), .slice u m c] 63 (0, 0))) Nope) a w := by
  obtain ⟨f, ha, hs⟩ := frKSD hf
  have e0 := (hs 0).trans h0
  have e1 := (hs 1).trans h1
  rw [e0, e1] at ha
  clear hs hf e0 h0 e1 h1
  subst ha
  refine piece2 fun J0 K0 hJ0 hK0 => ?_
  conv => arg 2; whnf
  have r0 := Blk_new w #[.string (str k.d), .slice u m c] 63
  have H := Lib.hid (And.intro (al w (.cells #[.string (str k.d), .slice u m c] 63)) r0)
  clear r0
  go_wp2_with fail
  refine Met.intro (hJ0 _ _ ?_)
  exact ⟨w.heap.size, ⟨rfl, rfl⟩, rfl, rfl, H.out.1, H.out.2⟩

set_option maxRecDepth 100000 in
set_option maxHeartbeats 4000000 in
theorem s1 (g : Nat) (k : Dk) (u : Option Addr) (c : Nat) (n : Nat) (m : Nat) (HN : Hid (k.d.length = n)) (w1 : World) (b0 : Nat) (HR0 : Hid (w1.heap[b0]? = some (.cells #[.string (str k.d), .slice u m c] 63 (0, 0)))) (a : Act) (hf : Fr 96 a) (h0 : sl a 0 = .pointer (some ⟨g, 0, none⟩)) (h3 : sl a 3 = .pointer (some ⟨b0, 0, none⟩)) :
    Code.wp Try.prog (cAt [1,0] KSD) (Exit.then (fun a' w' => Fr 96 a' ∧ sl a' 0 = .pointer (some ⟨g, 0, none⟩) ∧ sl a' 3 = .pointer (some ⟨b0, 0, none⟩) ∧ sl a' 5 = .int .i64 (n : Int) ∧ w1 = w') Nope) a w1 := by
  obtain ⟨f, ha, hs⟩ := frKSD hf
  have e0 := (hs 0).trans h0
  have e3 := (hs 3).trans h3
  rw [e0, e3] at ha
  clear hs hf e0 h0 e3 h3
  subst ha
  refine piece2 fun J0 K0 hJ0 hK0 => ?_
  conv => arg 2; whnf
  have x0 := two0 HR0.out
  have hsx : (str k.d).size = k.d.length := str_size k.d
  rw [HN.out] at hsx
  go_wp2_with fail
  refine Met.intro (hJ0 _ _ ?_)
  exact ⟨⟨rfl, rfl⟩, rfl, rfl, rfl, rfl⟩

set_option maxRecDepth 100000 in
set_option maxHeartbeats 4000000 in
theorem s2 (w : World) (B : Nat) (g : Nat) (k : Dk) (n : Nat) (HDM : Hid (Dm w B g k)) (HN : Hid (k.d.length = n)) (w1 : World) (b0 : Nat) (HB1 : Hid (Below w.heap.size w w1)) (a : Act) (hf : Fr 96 a) (h0 : sl a 0 = .pointer (some ⟨g, 0, none⟩)) (h3 : sl a 3 = .pointer (some ⟨b0, 0, none⟩)) (h5 : sl a 5 = .int .i64 (n : Int)) :
    Code.wp Try.prog (cAt [1,1,0] KSD) (Exit.then (fun a' w' => ∃ a1 : Option Addr, ∃ c1 : Nat, Fr 96 a' ∧ sl a' 0 = .pointer (some ⟨g, 0, none⟩) ∧ sl a' 3 = .pointer (some ⟨b0, 0, none⟩) ∧ sl a' 5 = .int .i64 (n : Int) ∧ sl a' 6 = .slice a1 n c1 ∧ sl a' 7 = .int .i64 0 ∧ Own w' w.heap.size a1 n c1 (nowP k.d k.ws) ∧ Below w.heap.size w w' ∧ Below w1.heap.size w1 w') Nope) a w1 := by
  obtain ⟨f, ha, hs⟩ := frKSD hf
  have e0 := (hs 0).trans h0
  have e3 := (hs 3).trans h3
  have e5 := (hs 5).trans h5
  rw [e0, e3, e5] at ha
  clear hs hf e0 h0 e3 h3 e5 h5
  subst ha
  refine piece2 fun J0 K0 hJ0 hK0 => ?_
  conv => arg 2; whnf
  go_wp2_with fail
  refine (dkRead_step B g k 0 n w1 (HDM.out.below HB1.out) (by rw [HN.out]; omega)).mono ?_
  rintro e wz ⟨a1, n1, c1, rfl, ho, hb⟩
  have e1 : cutD (nowP k.d k.ws) 0 n = (nowP k.d k.ws) := by have := cutD_all (nowP k.d k.ws); rw [nowP_len, HN.out] at this; exact this
  rw [e1] at ho
  have hn : n = n1 := by rw [← ho.len, nowP_len, HN.out]
  subst hn
  have H : Hid (Own wz w.heap.size a1 n c1 (nowP k.d k.ws) ∧ Below w.heap.size w wz ∧ Below w1.heap.size w1 wz) := ⟨ho.mono HB1.out.size, HB1.out.trans (hb.mono HB1.out.size), hb⟩
  clear ho hb e1
  go_wp2_with fail
  refine Met.intro (hJ0 _ _ ?_)
  exact ⟨a1, c1, ⟨rfl, rfl⟩, rfl, rfl, rfl, rfl, rfl, H.out.1, H.out.2.1, H.out.2.2⟩

set_option maxRecDepth 100000 in
set_option maxHeartbeats 4000000 in
theorem s3 (w : World) (B : Nat) (g : Nat) (k : Dk) (n : Nat) (HDM : Hid (Dm w B g k)) (HN : Hid (k.d.length = n)) (b0 : Nat) (w2 : World) (a1 : Option Addr) (c1 : Nat) (HB2 : Hid (Below w.heap.size w w2)) (a : Act) (hf : Fr 96 a) (h0 : sl a 0 = .pointer (some ⟨g, 0, none⟩)) (h3 : sl a 3 = .pointer (some ⟨b0, 0, none⟩)) (h5 : sl a 5 = .int .i64 (n : Int)) (h6 : sl a 6 = .slice a1 n c1) (h7 : sl a 7 = .int .i64 0) :
    Code.wp Try.prog (cAt [1,1,1,0] KSD) (Exit.then (fun a' w' => ∃ a2 : Option Addr, ∃ c2 : Nat, Fr 96 a' ∧ sl a' 0 = .pointer (some ⟨g, 0, none⟩) ∧ sl a' 3 = .pointer (some ⟨b0, 0, none⟩) ∧ sl a' 5 = .int .i64 (n : Int) ∧ sl a' 6 = .slice a1 n c1 ∧ sl a' 7 = .int .i64 0 ∧ sl a' 8 = .slice a2 n c2 ∧ sl a' 9 = .int .i64 0 ∧ Own w' w.heap.size a2 n c2 k.d ∧ Below w.heap.size w w' ∧ Below w2.heap.size w2 w') Nope) a w2 := by
  obtain ⟨f, ha, hs⟩ := frKSD hf
  have e0 := (hs 0).trans h0
  have e3 := (hs 3).trans h3
  have e5 := (hs 5).trans h5
  have e6 := (hs 6).trans h6
  have e7 := (hs 7).trans h7
  rw [e0, e3, e5, e6, e7] at ha
  clear hs hf e0 h0 e3 h3 e5 h5 e6 h6 e7 h7
  subst ha
  refine piece2 fun J0 K0 hJ0 hK0 => ?_
  conv => arg 2; whnf
  go_wp2_with fail
  refine (dkDurable_any B g k 0 n w2 (HDM.out.below HB2.out) (by rw [HN.out]; omega)).mono ?_
  rintro e wz ⟨a2, n1, c2, rfl, ho, hb⟩
  have e1 : cutD k.d 0 n = k.d := by have := cutD_all k.d; rw [HN.out] at this; exact this
  rw [e1] at ho
  have hn : n = n1 := by rw [← ho.len, HN.out]
  subst hn
  have H : Hid (Own wz w.heap.size a2 n c2 k.d ∧ Below w.heap.size w wz ∧ Below w2.heap.size w2 wz) := ⟨ho.mono HB2.out.size, HB2.out.trans (hb.mono HB2.out.size), hb⟩
  clear ho hb e1
  go_wp2_with fail
  refine Met.intro (hJ0 _ _ ?_)
  exact ⟨a2, c2, ⟨rfl, rfl⟩, rfl, rfl, rfl, rfl, rfl, rfl, rfl, H.out.1, H.out.2.1, H.out.2.2⟩

set_option maxRecDepth 100000 in
set_option maxHeartbeats 4000000 in
theorem s4 (w : World) (B : Nat) (g : Nat) (k : Dk) (u : Option Addr) (c : Nat) (n : Nat) (m : Nat) (HDM : Hid (Dm w B g k)) (HRL : Hid (Rk.lies w ⟨k.d, u, c, k.ws⟩)) (HPL : Hid (PlOk k.d k.ws)) (HM : Hid (k.ws.length = m)) (w1 : World) (b0 : Nat) (HR0 : Hid (w1.heap[b0]? = some (.cells #[.string (str k.d), .slice u m c] 63 (0, 0)))) (w2 : World) (a1 : Option Addr) (c1 : Nat) (HO1 : Hid (Own w2 w.heap.size a1 n c1 (nowP k.d k.ws))) (HB12 : Hid (Below w1.heap.size w1 w2)) (w3 : World) (a2 : Option Addr) (c2 : Nat) (HO2 : Hid (Own w3 w.heap.size a2 n c2 k.d)) (HB3 : Hid (Below w.heap.size w w3)) (HB23 : Hid (Below w2.heap.size w2 w3)) (a : Act) (hf : Fr 96 a) (h0 : sl a 0 = .pointer (some ⟨g, 0, none⟩)) (h3 : sl a 3 = .pointer (some ⟨b0, 0, none⟩)) (h5 : sl a 5 = .int .i64 (n : Int)) (h6 : sl a 6 = .slice a1 n c1) (h7 : sl a 7 = .int .i64 0) (h8 : sl a 8 = .slice a2 n c2) (h9 : sl a 9 = .int .i64 0) :
    Code.wp Try.prog (cAt [1,1,1,1,0] KSD) (Exit.then (fun a' w' => ∃ ua : Option Addr, ∃ uc : Nat, ∃ UL : List Uw, Fr 96 a' ∧ sl a' 0 = .pointer (some ⟨g, 0, none⟩) ∧ sl a' 3 = .pointer (some ⟨b0, 0, none⟩) ∧ sl a' 5 = .int .i64 (n : Int) ∧ sl a' 6 = .slice a1 n c1 ∧ sl a' 7 = .int .i64 0 ∧ sl a' 8 = .slice a2 n c2 ∧ sl a' 9 = .int .i64 0 ∧ sl a' 10 = .slice ua m uc ∧ Sd w B g k b0 u m c a1 c1 a2 c2 ua uc UL n w' ∧ UL.map Uw.pl = k.ws) Nope) a w3 := by
  obtain ⟨f, ha, hs⟩ := frKSD hf
  have e0 := (hs 0).trans h0
  have e3 := (hs 3).trans h3
  have e5 := (hs 5).trans h5
  have e6 := (hs 6).trans h6
  have e7 := (hs 7).trans h7
  have e8 := (hs 8).trans h8
  have e9 := (hs 9).trans h9
  rw [e0, e3, e5, e6, e7, e8, e9] at ha
  clear hs hf e0 h0 e3 h3 e5 h5 e6 h6 e7 h7 e8 h8 e9 h9
  subst ha
  refine piece2 fun J0 K0 hJ0 hK0 => ?_
  conv => arg 2; whnf
  go_wp2_with fail
  refine (dkUnsynced_any B g k w3 (HDM.out.below HB3.out) (by rw [ws_len, HM.out]; have := HPL.out.num; rw [HM.out] at this; omega)).mono ?_
  rintro e wz ⟨ua, uc, UL, rfl, ho, hpl, hb⟩
  have hul : UL.length = m := by rw [← HM.out, ← hpl, List.length_map]
  rw [hul]
  have H : Hid (Sd w B g k b0 u m c a1 c1 a2 c2 ua uc UL n wz ∧ UL.map Uw.pl = k.ws) := ⟨⟨HB3.out.trans (hb.mono HB3.out.size), HDM.out.below (HB3.out.trans (hb.mono HB3.out.size)), (hb.block _ (by have := (Array.getElem?_eq_some_iff.1 HR0.out).1; have := HB12.out.size; have := HB23.out.size; omega)).trans ((HB23.out.block _ (by have := (Array.getElem?_eq_some_iff.1 HR0.out).1; have := HB12.out.size; omega)).trans ((HB12.out.block _ (Array.getElem?_eq_some_iff.1 HR0.out).1).trans HR0.out)), HRL.out.below (HB3.out.trans (hb.mono HB3.out.size)), (Th.keep (t := .row a1 n c1 (nowP k.d k.ws)) HO1.out (Kept.of_below (S := fun _ => False) (HB23.out.trans (hb.mono HB23.out.size)) (fun i hi hi2 => by omega)) (fun _ _ => id)), (Th.keep (t := .row a2 n c2 k.d) HO2.out (Kept.of_below (S := fun _ => False) hb (fun i hi hi2 => by omega)) (fun _ _ => id)), ho.mono HB3.out.size⟩, hpl⟩
  clear ho hpl hb hul
  go_wp2_with fail
  refine Met.intro (hJ0 _ _ ?_)
  exact ⟨ua, uc, UL, ⟨rfl, rfl⟩, rfl, rfl, rfl, rfl, rfl, rfl, rfl, rfl, H.out.1, H.out.2⟩

set_option maxRecDepth 100000 in
set_option maxHeartbeats 4000000 in
theorem s5 (w : World) (B : Nat) (g : Nat) (k : Dk) (u : Option Addr) (c : Nat) (n : Nat) (m : Nat) (HDM : Hid (Dm w B g k)) (HPL : Hid (PlOk k.d k.ws)) (HN : Hid (k.d.length = n)) (HM : Hid (k.ws.length = m)) (b0 : Nat) (a1 : Option Addr) (c1 : Nat) (a2 : Option Addr) (c2 : Nat) (w4 : World) (ua : Option Addr) (uc : Nat) (UL : List Uw) (HSD : Hid (Sd w B g k b0 u m c a1 c1 a2 c2 ua uc UL n w4)) (a : Act) (hf : Fr 96 a) (h0 : sl a 0 = .pointer (some ⟨g, 0, none⟩)) (h3 : sl a 3 = .pointer (some ⟨b0, 0, none⟩)) (h5 : sl a 5 = .int .i64 (n : Int)) (h6 : sl a 6 = .slice a1 n c1) (h7 : sl a 7 = .int .i64 0) (h8 : sl a 8 = .slice a2 n c2) (h9 : sl a 9 = .int .i64 0) (h10 : sl a 10 = .slice ua m uc) :
    Code.wp Try.prog (cAt [1,1,1,1,1,0,0] KSD) (Exit.then (fun a' w' => Fr 96 a' ∧ sl a' 3 = .pointer (some ⟨b0, 0, none⟩) ∧ sl a' 10 = .slice ua m uc ∧ sl a' 62 = .bool false ∧ Sd w B g k b0 u m c a1 c1 a2 c2 ua uc UL n w') Nope) a w4 := by
  obtain ⟨f, ha, hs⟩ := frKSD hf
  have e0 := (hs 0).trans h0
  have e3 := (hs 3).trans h3
  have e5 := (hs 5).trans h5
  have e6 := (hs 6).trans h6
  have e7 := (hs 7).trans h7
  have e8 := (hs 8).trans h8
  have e9 := (hs 9).trans h9
  have e10 := (hs 10).trans h10
  rw [e0, e3, e5, e6, e7, e8, e9, e10] at ha
  clear hs hf e0 h0 e3 h3 e5 h5 e6 h6 e7 h7 e8 h8 e9 h9 e10 h10
  subst ha
  refine piece2 fun J0 K0 hJ0 hK0 => ?_
  conv => arg 2; whnf
  have HS : Hid (Sd w B g k b0 u m c a1 c1 a2 c2 ua uc UL n w4.drew) := HSD.out.past (Below.refl _ _).drew
  have HBY : Hid (Byt (nowP k.d k.ws) ∧ Byt k.d) := ⟨Dm.now_byt HDM.out, HPL.out.byt⟩
  go_wp2_with fail
  refine wp_region_held_drew (S := fun w' => Sd w B g k b0 u m c a1 c1 a2 c2 ua uc UL n w') (by kernel_rfl) HS.out (fun hS => ?_)
  refine tk 0 29 (.pointer (some ⟨g, 0, none⟩)) rfl rfl (by kernel_rfl) (by kernel_rfl) (by kernel_rfl) (fun _ _ _ h => h) (Or.inl ⟨by rfl, fun w' h' => ?_⟩) hS ?_
  · go_simp
  try simp only [Act.put, List.setIfInBounds_toArray, List.set_cons_zero, List.set_cons_succ]
  refine tk 2 31 (.int .i64 (n : Int)) rfl rfl (by kernel_rfl) (by kernel_rfl) (by kernel_rfl) (fun _ _ _ h => h) (Or.inl ⟨by rfl, fun w' h' => ?_⟩) hS ?_
  · go_simp
  try simp only [Act.put, List.setIfInBounds_toArray, List.set_cons_zero, List.set_cons_succ]
  refine wpAnyH_ready (rs := [1]) (by kernel_rfl) (by simp) (AllReadyH.cons rfl (fun K hK => ?_) AllReadyH.nil)
  rw [if_pos (by rfl)]
  go_wp2_with fail
  refine (dkSize_any B g k w4.drew HS.out.dm).mono ?_
  rintro e wz ⟨rfl, hw⟩
  subst hw
  rw [HN.out]
  clear hS
  refine hK.out _ _ (HS.out) (fun hS => ?_)
  clear hK K
  try simp only [Act.put, List.setIfInBounds_toArray, List.set_cons_zero, List.set_cons_succ]
  refine tk 3 32 (.bool false) rfl rfl (by kernel_rfl) (by kernel_rfl) (by kernel_rfl) (fun _ _ _ h => h) (Or.inl ⟨by rfl, fun w' h' => ?_⟩) hS ?_
  · go_simp
  try simp only [Act.put, List.setIfInBounds_toArray, List.set_cons_zero, List.set_cons_succ]
  refine tk 4 33 (.bool false) rfl rfl (by kernel_rfl) (by kernel_rfl) (by kernel_rfl) (fun _ _ _ h => h) (Or.inl ⟨by rfl, fun w' h' => ?_⟩) hS ?_
  · go_simp
  try simp only [Act.put, List.setIfInBounds_toArray, List.set_cons_zero, List.set_cons_succ]
  refine tk 5 34 (.int .i64 0) rfl rfl (by kernel_rfl) (by kernel_rfl) (by kernel_rfl) (fun _ _ _ h => h) (Or.inl ⟨by rfl, fun w' h' => ?_⟩) hS ?_
  · go_simp
  try simp only [Act.put, List.setIfInBounds_toArray, List.set_cons_zero, List.set_cons_succ]
  refine tk 6 35 (.bool false) rfl rfl (by kernel_rfl) (by kernel_rfl) (by kernel_rfl) (fun _ _ _ h => h) (Or.inl ⟨by rfl, fun w' h' => ?_⟩) hS ?_
  · go_simp
  try simp only [Act.put, List.setIfInBounds_toArray, List.set_cons_zero, List.set_cons_succ]
  refine tk 7 36 (.bool false) rfl rfl (by kernel_rfl) (by kernel_rfl) (by kernel_rfl) (fun _ _ _ h => h) (Or.inl ⟨by rfl, fun w' h' => ?_⟩) hS ?_
  · go_simp
  try simp only [Act.put, List.setIfInBounds_toArray, List.set_cons_zero, List.set_cons_succ]
  refine tk 8 37 (.bool false) rfl rfl (by kernel_rfl) (by kernel_rfl) (by kernel_rfl) (fun _ _ _ h => h) (Or.inl ⟨by rfl, fun w' h' => ?_⟩) hS ?_
  · go_simp
  try simp only [Act.put, List.setIfInBounds_toArray, List.set_cons_zero, List.set_cons_succ]
  refine tk 9 38 (.int .i64 0) rfl rfl (by kernel_rfl) (by kernel_rfl) (by kernel_rfl) (fun _ _ _ h => h) (Or.inl ⟨by rfl, fun w' h' => ?_⟩) hS ?_
  · go_simp
  try simp only [Act.put, List.setIfInBounds_toArray, List.set_cons_zero, List.set_cons_succ]
  refine tk 10 39 (.bool false) rfl rfl (by kernel_rfl) (by kernel_rfl) (by kernel_rfl) (fun _ _ _ h => h) (Or.inl ⟨by rfl, fun w' h' => ?_⟩) hS ?_
  · go_simp
  try simp only [Act.put, List.setIfInBounds_toArray, List.set_cons_zero, List.set_cons_succ]
  refine tk 11 40 (.bool false) rfl rfl (by kernel_rfl) (by kernel_rfl) (by kernel_rfl) (fun _ _ _ h => h) (Or.inl ⟨by rfl, fun w' h' => ?_⟩) hS ?_
  · go_simp
  try simp only [Act.put, List.setIfInBounds_toArray, List.set_cons_zero, List.set_cons_succ]
  refine tk 12 41 (.bool false) rfl rfl (by kernel_rfl) (by kernel_rfl) (by kernel_rfl) (fun _ _ _ h => h) (Or.inl ⟨by rfl, fun w' h' => ?_⟩) hS ?_
  · go_simp
  try simp only [Act.put, List.setIfInBounds_toArray, List.set_cons_zero, List.set_cons_succ]
  refine tk 13 42 (.slice a1 n c1) rfl rfl (by kernel_rfl) (by kernel_rfl) (by kernel_rfl) (fun _ _ _ h => h) (Or.inl ⟨by rfl, fun w' h' => ?_⟩) hS ?_
  · go_simp
  try simp only [Act.put, List.setIfInBounds_toArray, List.set_cons_zero, List.set_cons_succ]
  refine tk 14 43 (.string (str (nowP k.d k.ws))) rfl rfl (by kernel_rfl) (by kernel_rfl) (by kernel_rfl) (fun _ _ _ h => h) (Or.inl ⟨by rfl, fun w' h' => ?_⟩) hS ?_
  · have f1 := run_string_rd w' c1 h'.o1.len h'.o1.rd HBY.out.1
    (first | exact f1 | (go_simp; rfl) | go_simp)
  try simp only [Act.put, List.setIfInBounds_toArray, List.set_cons_zero, List.set_cons_succ]
  refine tk 15 44 (.agg #[.string (str k.d), .slice u m c]) rfl rfl (by kernel_rfl) (by kernel_rfl) (by kernel_rfl) (fun _ _ _ h => h) (Or.inl ⟨by rfl, fun w' h' => ?_⟩) hS ?_
  · have x1 := two0 h'.row
    have x2 := two1 h'.row
    go_simp
  try simp only [Act.put, List.setIfInBounds_toArray, List.set_cons_zero, List.set_cons_succ]
  refine wpAnyH_ready (rs := [16]) (by kernel_rfl) (by simp) (AllReadyH.cons rfl (fun K hK => ?_) AllReadyH.nil)
  rw [if_pos (by rfl)]
  go_wp2_with fail
  refine (show Calls Try.prog 36 #[.agg #[.string (str k.d), .slice u m c]] w4.drew _ from (by rw [← HM.out]; exact now_any ⟨k.d, u, c, k.ws⟩ w4.drew HS.out.lies HPL.out)).mono ?_
  rintro e wz ⟨rfl, hb⟩
  have HS2 : Hid (Sd w B g k b0 u m c a1 c1 a2 c2 ua uc UL n wz) := HS.out.past hb
  clear hb
  clear hS
  refine hK.out _ _ (HS2.out) (fun hS => ?_)
  clear hK K
  try simp only [List.set_cons_succ]
  refine tk 17 46 (.bool false) rfl rfl (by kernel_rfl) (by kernel_rfl) (by kernel_rfl) (fun _ _ _ h => h) (Or.inl ⟨by rfl, fun w' h' => ?_⟩) hS ?_
  · go_simp
  try simp only [Act.put, List.setIfInBounds_toArray, List.set_cons_zero, List.set_cons_succ]
  refine tk 18 47 (.bool false) rfl rfl (by kernel_rfl) (by kernel_rfl) (by kernel_rfl) (fun _ _ _ h => h) (Or.inl ⟨by rfl, fun w' h' => ?_⟩) hS ?_
  · go_simp
  try simp only [Act.put, List.setIfInBounds_toArray, List.set_cons_zero, List.set_cons_succ]
  refine tk 19 48 (.bool false) rfl rfl (by kernel_rfl) (by kernel_rfl) (by kernel_rfl) (fun _ _ _ h => h) (Or.inl ⟨by rfl, fun w' h' => ?_⟩) hS ?_
  · go_simp
  try simp only [Act.put, List.setIfInBounds_toArray, List.set_cons_zero, List.set_cons_succ]
  refine tk 20 49 (.slice a2 n c2) rfl rfl (by kernel_rfl) (by kernel_rfl) (by kernel_rfl) (fun _ _ _ h => h) (Or.inl ⟨by rfl, fun w' h' => ?_⟩) hS ?_
  · go_simp
  try simp only [Act.put, List.setIfInBounds_toArray, List.set_cons_zero, List.set_cons_succ]
  refine tk 21 50 (.string (str k.d)) rfl rfl (by kernel_rfl) (by kernel_rfl) (by kernel_rfl) (fun _ _ _ h => h) (Or.inl ⟨by rfl, fun w' h' => ?_⟩) hS ?_
  · have f1 := run_string_rd w' c2 h'.o2.len h'.o2.rd HBY.out.2
    (first | exact f1 | (go_simp; rfl) | go_simp)
  try simp only [Act.put, List.setIfInBounds_toArray, List.set_cons_zero, List.set_cons_succ]
  refine tk 22 51 (.pointer (some ⟨b0, 0, none⟩)) rfl rfl (by kernel_rfl) (by kernel_rfl) (by kernel_rfl) (fun _ _ _ h => h) (Or.inl ⟨by rfl, fun w' h' => ?_⟩) hS ?_
  · go_simp
  try simp only [Act.put, List.setIfInBounds_toArray, List.set_cons_zero, List.set_cons_succ]
  refine tk 23 52 (.string (str k.d)) rfl rfl (by kernel_rfl) (by kernel_rfl) (by kernel_rfl) (fun _ _ _ h => h) (Or.inl ⟨by rfl, fun w' h' => ?_⟩) hS ?_
  · have x1 := two0 h'.row
    go_simp
  try simp only [Act.put, List.setIfInBounds_toArray, List.set_cons_zero, List.set_cons_succ]
  refine tk 24 53 (.bool false) rfl rfl (by kernel_rfl) (by kernel_rfl) (by kernel_rfl) (fun _ _ _ h => h) (Or.inl ⟨by rfl, fun w' h' => ?_⟩) hS ?_
  · go_simp
  try simp only [Act.put, List.setIfInBounds_toArray, List.set_cons_zero, List.set_cons_succ]
  refine tk 25 54 (.bool false) rfl rfl (by kernel_rfl) (by kernel_rfl) (by kernel_rfl) (fun _ _ _ h => h) (Or.inl ⟨by rfl, fun w' h' => ?_⟩) hS ?_
  · go_simp
  try simp only [Act.put, List.setIfInBounds_toArray, List.set_cons_zero, List.set_cons_succ]
  refine tk 26 55 (.bool false) rfl rfl (by kernel_rfl) (by kernel_rfl) (by kernel_rfl) (fun _ _ _ h => h) (Or.inl ⟨by rfl, fun w' h' => ?_⟩) hS ?_
  · go_simp
  try simp only [Act.put, List.setIfInBounds_toArray, List.set_cons_zero, List.set_cons_succ]
  refine tk 27 56 (.slice ua m uc) rfl rfl (by kernel_rfl) (by kernel_rfl) (by kernel_rfl) (fun _ _ _ h => h) (Or.inl ⟨by rfl, fun w' h' => ?_⟩) hS ?_
  · go_simp
  try simp only [Act.put, List.setIfInBounds_toArray, List.set_cons_zero, List.set_cons_succ]
  refine tk 28 57 (.int .i64 (m : Int)) rfl rfl (by kernel_rfl) (by kernel_rfl) (by kernel_rfl) (fun _ _ _ h => h) (Or.inl ⟨by rfl, fun w' h' => ?_⟩) hS ?_
  · go_simp
  try simp only [Act.put, List.setIfInBounds_toArray, List.set_cons_zero, List.set_cons_succ]
  refine tk 29 58 (.pointer (some ⟨b0, 1, none⟩)) rfl rfl (by kernel_rfl) (by kernel_rfl) (by kernel_rfl) (fun _ _ _ h => h) (Or.inl ⟨by rfl, fun w' h' => ?_⟩) hS ?_
  · go_simp
  try simp only [Act.put, List.setIfInBounds_toArray, List.set_cons_zero, List.set_cons_succ]
  refine tk 30 59 (.slice u m c) rfl rfl (by kernel_rfl) (by kernel_rfl) (by kernel_rfl) (fun _ _ _ h => h) (Or.inl ⟨by rfl, fun w' h' => ?_⟩) hS ?_
  · have x1 := two1 h'.row
    go_simp
  try simp only [Act.put, List.setIfInBounds_toArray, List.set_cons_zero, List.set_cons_succ]
  refine tk 31 60 (.int .i64 (m : Int)) rfl rfl (by kernel_rfl) (by kernel_rfl) (by kernel_rfl) (fun _ _ _ h => h) (Or.inl ⟨by rfl, fun w' h' => ?_⟩) hS ?_
  · go_simp
  try simp only [Act.put, List.setIfInBounds_toArray, List.set_cons_zero, List.set_cons_succ]
  refine tk 32 61 (.bool false) rfl rfl (by kernel_rfl) (by kernel_rfl) (by kernel_rfl) (fun _ _ _ h => h) (Or.inl ⟨by rfl, fun w' h' => ?_⟩) hS ?_
  · go_simp
  try simp only [Act.put, List.setIfInBounds_toArray, List.set_cons_zero, List.set_cons_succ]
  refine tk 33 62 (.bool false) rfl rfl (by kernel_rfl) (by kernel_rfl) (by kernel_rfl) (fun _ _ _ h => h) (Or.inl ⟨by rfl, fun w' h' => ?_⟩) hS ?_
  · go_simp
  refine wpAnyH_done (by kernel_rfl) ?_ _
  go_wp2_with fail
  refine Met.intro (hJ0 _ _ ?_)
  exact ⟨⟨rfl, rfl⟩, rfl, rfl, rfl, HS2.out⟩

set_option maxRecDepth 100000 in
set_option maxHeartbeats 4000000 in
theorem s7 (m : Nat) (b0 : Nat) (ua : Option Addr) (uc : Nat) (w5 : World) (a : Act) (hf : Fr 96 a) (h3 : sl a 3 = .pointer (some ⟨b0, 0, none⟩)) (h10 : sl a 10 = .slice ua m uc) :
    Code.wp Try.prog (cAt [1,1,1,1,1,1,0,0] KSD) (Exit.then (fun a' w' => Fr 96 a' ∧ sl a' 3 = .pointer (some ⟨b0, 0, none⟩) ∧ sl a' 10 = .slice ua m uc ∧ sl a' 11 = .int .i64 0 ∧ w5 = w') Nope) a w5 := by
  obtain ⟨f, ha, hs⟩ := frKSD hf
  have e3 := (hs 3).trans h3
  have e10 := (hs 10).trans h10
  rw [e3, e10] at ha
  clear hs hf e3 h3 e10 h10
  subst ha
  refine piece2 fun J0 K0 hJ0 hK0 => ?_
  conv => arg 2; whnf
  go_wp2_with fail
  refine Met.intro (hJ0 _ _ ?_)
  exact ⟨⟨rfl, rfl⟩, rfl, rfl, rfl, rfl⟩

set_option maxRecDepth 100000 in
set_option maxHeartbeats 4000000 in
theorem s8x (m : Nat) (b0 : Nat) (ua : Option Addr) (uc : Nat) (wl : World) (i : Nat) (hlt : Hid (¬ i < m)) (a : Act) (hf : Fr 96 a) (h3 : sl a 3 = .pointer (some ⟨b0, 0, none⟩)) (h10 : sl a 10 = .slice ua m uc) (h11 : sl a 11 = .int .i64 (i : Int)) :
    Code.wp Try.prog (cAt [1,1,1,1,1,1,0,1,2,2] KSD) (Outs 0 (fun a' w' => Fr 96 a' ∧ wl = w')) a wl := by
  obtain ⟨f, ha, hs⟩ := frKSD hf
  have e3 := (hs 3).trans h3
  have e10 := (hs 10).trans h10
  have e11 := (hs 11).trans h11
  rw [e3, e10, e11] at ha
  clear hs hf e3 h3 e10 h10 e11 h11
  subst ha
  conv => arg 2; whnf
  have hi2 : ¬ (i : Int) < (m : Int) := by have := hlt.out; omega
  go_wp2_with fail
  exact ⟨rfl, ⟨rfl, rfl⟩, rfl⟩

set_option maxRecDepth 100000 in
set_option maxHeartbeats 4000000 in
theorem s8 (m : Nat) (b0 : Nat) (ua : Option Addr) (uc : Nat) (wl : World) (i : Nat) (hlt : Hid (i < m)) (a : Act) (hf : Fr 96 a) (h3 : sl a 3 = .pointer (some ⟨b0, 0, none⟩)) (h10 : sl a 10 = .slice ua m uc) (h11 : sl a 11 = .int .i64 (i : Int)) :
    Code.wp Try.prog (cAt [1,1,1,1,1,1,0,1,2,2,0] KSD) (Exit.then (fun a' w' => Fr 96 a' ∧ sl a' 3 = .pointer (some ⟨b0, 0, none⟩) ∧ sl a' 10 = .slice ua m uc ∧ sl a' 11 = .int .i64 (i : Int) ∧ wl = w') Nope) a wl := by
  obtain ⟨f, ha, hs⟩ := frKSD hf
  have e3 := (hs 3).trans h3
  have e10 := (hs 10).trans h10
  have e11 := (hs 11).trans h11
  rw [e3, e10, e11] at ha
  clear hs hf e3 h3 e10 h10 e11 h11
  subst ha
  refine piece2 fun J0 K0 hJ0 hK0 => ?_
  conv => arg 2; whnf
  have hi2 : (i : Int) < (m : Int) := by have := hlt.out; omega
  go_wp2_with fail
  refine Met.intro (hJ0 _ _ ?_)
  exact ⟨⟨rfl, rfl⟩, rfl, rfl, rfl, rfl⟩

set_option maxRecDepth 100000 in
set_option maxHeartbeats 4000000 in
theorem s10 (w : World) (B : Nat) (g : Nat) (k : Dk) (u : Option Addr) (c : Nat) (n : Nat) (m : Nat) (HPL : Hid (PlOk k.d k.ws)) (HM : Hid (k.ws.length = m)) (b0 : Nat) (a1 : Option Addr) (c1 : Nat) (a2 : Option Addr) (c2 : Nat) (ua : Option Addr) (uc : Nat) (UL : List Uw) (HUL : Hid (UL.map Uw.pl = k.ws)) (wl : World) (i : Nat) (HSL : Hid (Sd w B g k b0 u m c a1 c1 a2 c2 ua uc UL n wl)) (hlt : Hid (i < m)) (a : Act) (hf : Fr 96 a) (h3 : sl a 3 = .pointer (some ⟨b0, 0, none⟩)) (h10 : sl a 10 = .slice ua m uc) (h11 : sl a 11 = .int .i64 (i : Int)) :
    Code.wp Try.prog (cAt [1,1,1,1,1,1,0,1,2,2,1,0,2,0] KSD) (Exit.then (fun a' w' => Fr 96 a' ∧ sl a' 3 = .pointer (some ⟨b0, 0, none⟩) ∧ sl a' 10 = .slice ua m uc ∧ sl a' 11 = .int .i64 (i : Int) ∧ sl a' 95 = .bool false ∧ Sd w B g k b0 u m c a1 c1 a2 c2 ua uc UL n w') Nope) a wl := by
  obtain ⟨f, ha, hs⟩ := frKSD hf
  have e3 := (hs 3).trans h3
  have e10 := (hs 10).trans h10
  have e11 := (hs 11).trans h11
  rw [e3, e10, e11] at ha
  clear hs hf e3 h3 e10 h10 e11 h11
  subst ha
  refine piece2 fun J0 K0 hJ0 hK0 => ?_
  conv => arg 2; whnf
  obtain ⟨x, hx⟩ : ∃ x, UL[i]? = some x := ⟨_, List.getElem?_eq_getElem (by have h := congrArg List.length HUL.out; rw [List.length_map, HM.out] at h; have := hlt.out; omega)⟩
  have HX : Hid (UL[i]? = some x ∧ k.ws[i]? = some (x.at_, x.d)) := ⟨hx, by rw [← HUL.out, List.getElem?_map, hx]; rfl⟩
  have HXB : Hid (Byt x.d) := HPL.out.wb _ (List.mem_of_getElem? HX.out.2)
  obtain ⟨gu, hgu⟩ := HSL.out.wr.addr (by have := (List.getElem?_eq_some_iff.1 hx).1; omega)
  obtain ⟨ru, ro, hru, hrc⟩ := HSL.out.lies (fun e => by have e2 : k.ws = [] := e; have h2 := HX.out.2; rw [e2] at h2; cases h2)
  have hru : u = some ⟨ru, ro, none⟩ := hru
  subst hgu hru
  clear hrc hx
  have HS : Hid (Sd w B g k b0 (some ⟨ru, ro, none⟩) m c a1 c1 a2 c2 (some ⟨gu, 0, none⟩) uc UL n wl.drew) := HSL.out.past (Below.refl _ _).drew
  have hi2 : (i : Int) < (m : Int) := by have := hlt.out; omega
  have hi0 : (0 : Int) ≤ (i : Int) := by omega
  have HRC : Hid (∀ W, Sd w B g k b0 (some ⟨ru, ro, none⟩) m c a1 c1 a2 c2 (some ⟨gu, 0, none⟩) uc UL n W → W.cell? ⟨ru, ro + i * 2, none⟩ = some (.int .i64 x.at_) ∧ W.cell? ⟨ru, ro + i * 2 + 1, none⟩ = some (.string (str x.d))) := fun W h => by
    obtain ⟨ru2, ro2, e, hc⟩ := h.lies (fun e => by have e2 : k.ws = [] := e; have h2 := HX.out.2; rw [e2] at h2; cases h2)
    have e : some (Addr.mk ru ro none) = some ⟨ru2, ro2, none⟩ := e
    simp only [Option.some.injEq, Addr.mk.injEq, and_true] at e
    obtain ⟨rfl, rfl⟩ := e
    exact hc i (x.at_, x.d) HX.out.2
  go_wp2_with fail
  refine wp_region_held_drew (S := fun w' => Sd w B g k b0 (some ⟨ru, ro, none⟩) m c a1 c1 a2 c2 (some ⟨gu, 0, none⟩) uc UL n w') (by kernel_rfl) HS.out (fun hS => ?_)
  refine tk 0 69 (.slice (some ⟨gu, 0, none⟩) m uc) rfl rfl (by kernel_rfl) (by kernel_rfl) (by kernel_rfl) (fun _ _ _ h => h) (Or.inl ⟨by rfl, fun w' h' => ?_⟩) hS ?_
  · go_simp
  try simp only [Act.put, List.setIfInBounds_toArray, List.set_cons_zero, List.set_cons_succ]
  refine tk 1 70 (.int .i64 (i : Int)) rfl rfl (by kernel_rfl) (by kernel_rfl) (by kernel_rfl) (fun _ _ _ h => h) (Or.inl ⟨by rfl, fun w' h' => ?_⟩) hS ?_
  · go_simp
  try simp only [Act.put, List.setIfInBounds_toArray, List.set_cons_zero, List.set_cons_succ]
  refine tk 2 71 (.pointer (some ⟨gu, i * 2, none⟩)) rfl rfl (by kernel_rfl) (by kernel_rfl) (by kernel_rfl) (fun _ _ _ h => h) (Or.inl ⟨by rfl, fun w' h' => ?_⟩) hS ?_
  · go_simp
  try simp only [Act.put, List.setIfInBounds_toArray, List.set_cons_zero, List.set_cons_succ]
  refine tk 3 72 (.pointer (some ⟨gu, i * 2, none⟩)) rfl rfl (by kernel_rfl) (by kernel_rfl) (by kernel_rfl) (fun _ _ _ h => h) (Or.inl ⟨by rfl, fun w' h' => ?_⟩) hS ?_
  · go_simp
  try simp only [Act.put, List.setIfInBounds_toArray, List.set_cons_zero, List.set_cons_succ]
  refine tk 4 73 (.int .i64 x.at_) rfl rfl (by kernel_rfl) (by kernel_rfl) (by kernel_rfl) (fun _ _ _ h => h) (Or.inl ⟨by rfl, fun w' h' => ?_⟩) hS ?_
  · have x1 := (h'.wr.cells HX.out.1).1
    go_simp
  try simp only [Act.put, List.setIfInBounds_toArray, List.set_cons_zero, List.set_cons_succ]
  refine tk 5 74 (.pointer (some ⟨b0, 1, none⟩)) rfl rfl (by kernel_rfl) (by kernel_rfl) (by kernel_rfl) (fun _ _ _ h => h) (Or.inl ⟨by rfl, fun w' h' => ?_⟩) hS ?_
  · go_simp
  try simp only [Act.put, List.setIfInBounds_toArray, List.set_cons_zero, List.set_cons_succ]
  refine tk 6 75 (.slice (some ⟨ru, ro, none⟩) m c) rfl rfl (by kernel_rfl) (by kernel_rfl) (by kernel_rfl) (fun _ _ _ h => h) (Or.inl ⟨by rfl, fun w' h' => ?_⟩) hS ?_
  · have x1 := two1 h'.row
    go_simp
  try simp only [Act.put, List.setIfInBounds_toArray, List.set_cons_zero, List.set_cons_succ]
  refine tk 7 76 (.int .i64 (i : Int)) rfl rfl (by kernel_rfl) (by kernel_rfl) (by kernel_rfl) (fun _ _ _ h => h) (Or.inl ⟨by rfl, fun w' h' => ?_⟩) hS ?_
  · go_simp
  try simp only [Act.put, List.setIfInBounds_toArray, List.set_cons_zero, List.set_cons_succ]
  refine tk 8 77 (.pointer (some ⟨ru, ro + i * 2, none⟩)) rfl rfl (by kernel_rfl) (by kernel_rfl) (by kernel_rfl) (fun _ _ _ h => h) (Or.inl ⟨by rfl, fun w' h' => ?_⟩) hS ?_
  · go_simp
  try simp only [Act.put, List.setIfInBounds_toArray, List.set_cons_zero, List.set_cons_succ]
  refine tk 9 78 (.pointer (some ⟨ru, ro + i * 2, none⟩)) rfl rfl (by kernel_rfl) (by kernel_rfl) (by kernel_rfl) (fun _ _ _ h => h) (Or.inl ⟨by rfl, fun w' h' => ?_⟩) hS ?_
  · go_simp
  try simp only [Act.put, List.setIfInBounds_toArray, List.set_cons_zero, List.set_cons_succ]
  refine tk 10 79 (.int .i64 x.at_) rfl rfl (by kernel_rfl) (by kernel_rfl) (by kernel_rfl) (fun _ _ _ h => h) (Or.inl ⟨by rfl, fun w' h' => ?_⟩) hS ?_
  · have x1 := (HRC.out w' h').1
    go_simp
  try simp only [Act.put, List.setIfInBounds_toArray, List.set_cons_zero, List.set_cons_succ]
  refine tk 11 80 (.bool false) rfl rfl (by kernel_rfl) (by kernel_rfl) (by kernel_rfl) (fun _ _ _ h => h) (Or.inl ⟨by rfl, fun w' h' => ?_⟩) hS ?_
  · go_simp
  try simp only [Act.put, List.setIfInBounds_toArray, List.set_cons_zero, List.set_cons_succ]
  refine tk 12 81 (.bool false) rfl rfl (by kernel_rfl) (by kernel_rfl) (by kernel_rfl) (fun _ _ _ h => h) (Or.inl ⟨by rfl, fun w' h' => ?_⟩) hS ?_
  · go_simp
  try simp only [Act.put, List.setIfInBounds_toArray, List.set_cons_zero, List.set_cons_succ]
  refine tk 13 82 (.slice (some ⟨gu, 0, none⟩) m uc) rfl rfl (by kernel_rfl) (by kernel_rfl) (by kernel_rfl) (fun _ _ _ h => h) (Or.inl ⟨by rfl, fun w' h' => ?_⟩) hS ?_
  · go_simp
  try simp only [Act.put, List.setIfInBounds_toArray, List.set_cons_zero, List.set_cons_succ]
  refine tk 14 83 (.int .i64 (i : Int)) rfl rfl (by kernel_rfl) (by kernel_rfl) (by kernel_rfl) (fun _ _ _ h => h) (Or.inl ⟨by rfl, fun w' h' => ?_⟩) hS ?_
  · go_simp
  try simp only [Act.put, List.setIfInBounds_toArray, List.set_cons_zero, List.set_cons_succ]
  refine tk 15 84 (.pointer (some ⟨gu, i * 2, none⟩)) rfl rfl (by kernel_rfl) (by kernel_rfl) (by kernel_rfl) (fun _ _ _ h => h) (Or.inl ⟨by rfl, fun w' h' => ?_⟩) hS ?_
  · go_simp
  try simp only [Act.put, List.setIfInBounds_toArray, List.set_cons_zero, List.set_cons_succ]
  refine tk 16 85 (.pointer (some ⟨gu, i * 2 + 1, none⟩)) rfl rfl (by kernel_rfl) (by kernel_rfl) (by kernel_rfl) (fun _ _ _ h => h) (Or.inl ⟨by rfl, fun w' h' => ?_⟩) hS ?_
  · go_simp
  try simp only [Act.put, List.setIfInBounds_toArray, List.set_cons_zero, List.set_cons_succ]
  refine tk 17 86 (.slice x.a x.n x.c) rfl rfl (by kernel_rfl) (by kernel_rfl) (by kernel_rfl) (fun _ _ _ h => h) (Or.inl ⟨by rfl, fun w' h' => ?_⟩) hS ?_
  · have x1 := (h'.wr.cells HX.out.1).2
    go_simp
  try simp only [Act.put, List.setIfInBounds_toArray, List.set_cons_zero, List.set_cons_succ]
  refine tk 18 87 (.string (str x.d)) rfl rfl (by kernel_rfl) (by kernel_rfl) (by kernel_rfl) (fun _ _ _ h => h) (Or.inl ⟨by rfl, fun w' h' => ?_⟩) hS ?_
  · have f1 := run_string_rd w' x.c (h'.wr.data x (List.mem_of_getElem? HX.out.1)).len (h'.wr.data x (List.mem_of_getElem? HX.out.1)).rd HXB.out
    (first | exact f1 | (go_simp; rfl) | go_simp)
  try simp only [Act.put, List.setIfInBounds_toArray, List.set_cons_zero, List.set_cons_succ]
  refine tk 19 88 (.pointer (some ⟨b0, 1, none⟩)) rfl rfl (by kernel_rfl) (by kernel_rfl) (by kernel_rfl) (fun _ _ _ h => h) (Or.inl ⟨by rfl, fun w' h' => ?_⟩) hS ?_
  · go_simp
  try simp only [Act.put, List.setIfInBounds_toArray, List.set_cons_zero, List.set_cons_succ]
  refine tk 20 89 (.slice (some ⟨ru, ro, none⟩) m c) rfl rfl (by kernel_rfl) (by kernel_rfl) (by kernel_rfl) (fun _ _ _ h => h) (Or.inl ⟨by rfl, fun w' h' => ?_⟩) hS ?_
  · have x1 := two1 h'.row
    go_simp
  try simp only [Act.put, List.setIfInBounds_toArray, List.set_cons_zero, List.set_cons_succ]
  refine tk 21 90 (.int .i64 (i : Int)) rfl rfl (by kernel_rfl) (by kernel_rfl) (by kernel_rfl) (fun _ _ _ h => h) (Or.inl ⟨by rfl, fun w' h' => ?_⟩) hS ?_
  · go_simp
  try simp only [Act.put, List.setIfInBounds_toArray, List.set_cons_zero, List.set_cons_succ]
  refine tk 22 91 (.pointer (some ⟨ru, ro + i * 2, none⟩)) rfl rfl (by kernel_rfl) (by kernel_rfl) (by kernel_rfl) (fun _ _ _ h => h) (Or.inl ⟨by rfl, fun w' h' => ?_⟩) hS ?_
  · go_simp
  try simp only [Act.put, List.setIfInBounds_toArray, List.set_cons_zero, List.set_cons_succ]
  refine tk 23 92 (.pointer (some ⟨ru, ro + i * 2 + 1, none⟩)) rfl rfl (by kernel_rfl) (by kernel_rfl) (by kernel_rfl) (fun _ _ _ h => h) (Or.inl ⟨by rfl, fun w' h' => ?_⟩) hS ?_
  · go_simp
  try simp only [Act.put, List.setIfInBounds_toArray, List.set_cons_zero, List.set_cons_succ]
  refine tk 24 93 (.string (str x.d)) rfl rfl (by kernel_rfl) (by kernel_rfl) (by kernel_rfl) (fun _ _ _ h => h) (Or.inl ⟨by rfl, fun w' h' => ?_⟩) hS ?_
  · have x1 := (HRC.out w' h').2
    go_simp
  try simp only [Act.put, List.setIfInBounds_toArray, List.set_cons_zero, List.set_cons_succ]
  refine tk 25 94 (.bool false) rfl rfl (by kernel_rfl) (by kernel_rfl) (by kernel_rfl) (fun _ _ _ h => h) (Or.inl ⟨by rfl, fun w' h' => ?_⟩) hS ?_
  · go_simp
  try simp only [Act.put, List.setIfInBounds_toArray, List.set_cons_zero, List.set_cons_succ]
  refine tk 26 95 (.bool false) rfl rfl (by kernel_rfl) (by kernel_rfl) (by kernel_rfl) (fun _ _ _ h => h) (Or.inl ⟨by rfl, fun w' h' => ?_⟩) hS ?_
  · go_simp
  refine wpAnyH_done (by kernel_rfl) ?_ _
  go_wp2_with fail
  refine Met.intro (hJ0 _ _ ?_)
  exact ⟨⟨rfl, rfl⟩, rfl, rfl, rfl, rfl, HS.out⟩

theorem sd_one (w : World) (B : Nat) (g : Nat) (k : Dk) (u : Option Addr) (c : Nat) (n : Nat) (m : Nat) (HPL : Hid (PlOk k.d k.ws)) (HM : Hid (k.ws.length = m)) (b0 : Nat) (a1 : Option Addr) (c1 : Nat) (a2 : Option Addr) (c2 : Nat) (ua : Option Addr) (uc : Nat) (UL : List Uw) (HUL : Hid (UL.map Uw.pl = k.ws)) (wl : World) (i : Nat) (HSL : Hid (Sd w B g k b0 u m c a1 c1 a2 c2 ua uc UL n wl)) (hlt : Hid (i < m)) (a : Act) (hf : Fr 96 a) (h3 : sl a 3 = .pointer (some ⟨b0, 0, none⟩)) (h10 : sl a 10 = .slice ua m uc) (h11 : sl a 11 = .int .i64 (i : Int)) :
    Code.wp Try.prog (cAt [1,1,1,1,1,1,0,1,2,2,1,0] KSD) (Exit.then (fun a' w' => Fr 96 a' ∧ sl a' 3 = .pointer (some ⟨b0, 0, none⟩) ∧ sl a' 10 = .slice ua m uc ∧ sl a' 11 = .int .i64 (i : Int) ∧ Sd w B g k b0 u m c a1 c1 a2 c2 ua uc UL n w') Nope) a wl := by
  have HPL := HPL.out
  have HM := HM.out
  have HUL := HUL.out
  have HSL := HSL.out
  have hlt := hlt.out
  refine wp_blockR (x := cAt [1,1,1,1,1,1,0,1,2,2,1,0,2] KSD) (id := 1) (by kernel_rfl) ?_
  refine wp_sqR (x := cAt [1,1,1,1,1,1,0,1,2,2,1,0,2,0] KSD) (y := cAt [1,1,1,1,1,1,0,1,2,2,1,0,2,1] KSD) (by kernel_rfl) (s10 w B g k u c n m HPL HM b0 a1 c1 a2 c2 ua uc UL HUL wl i HSL hlt a hf h3 h10 h11) ?_
  rintro a_10 w10 ⟨hf, h3, h10, h11, h95, HS10⟩
  refine wp_onF (A := cAt [1,1,1,1,1,1,0,1,2,2,1,0,2,1,3] KSD) (B := cAt [1,1,1,1,1,1,0,1,2,2,1,0,2,1,4] KSD) (by kernel_rfl) h95 ?_
  refine wp_skipR (by kernel_rfl) ?_
  exact ⟨hf, h3, h10, h11, HS10⟩

set_option maxRecDepth 100000 in
set_option maxHeartbeats 4000000 in
theorem s9 (k : Dk) (m : Nat) (HPL : Hid (PlOk k.d k.ws)) (HM : Hid (k.ws.length = m)) (b0 : Nat) (ua : Option Addr) (uc : Nat) (i : Nat) (hlt : Hid (i < m)) (wn : World) (a : Act) (hf : Fr 96 a) (h3 : sl a 3 = .pointer (some ⟨b0, 0, none⟩)) (h10 : sl a 10 = .slice ua m uc) (h11 : sl a 11 = .int .i64 (i : Int)) :
    Code.wp Try.prog (cAt [1,1,1,1,1,1,0,1,2,2,1,1] KSD) (Exit.then (fun a' w' => Fr 96 a' ∧ sl a' 3 = .pointer (some ⟨b0, 0, none⟩) ∧ sl a' 10 = .slice ua m uc ∧ sl a' 11 = .int .i64 ((i + 1 : Nat) : Int) ∧ wn = w') Nope) a wn := by
  obtain ⟨f, ha, hs⟩ := frKSD hf
  have e3 := (hs 3).trans h3
  have e10 := (hs 10).trans h10
  have e11 := (hs 11).trans h11
  rw [e3, e10, e11] at ha
  clear hs hf e3 h3 e10 h10 e11 h11
  subst ha
  refine piece2 fun J0 K0 hJ0 hK0 => ?_
  conv => arg 2; whnf
  have hw : IntKind.i64.wrap ((i : Int) + 1) = ((i + 1 : Nat) : Int) := by have := hlt.out; have := HM.out; have := HPL.out.num; rw [IntKind.wrap_i64]; omega
  go_wp2_with fail
  refine Met.intro (hJ0 _ _ ?_)
  exact ⟨⟨rfl, rfl⟩, rfl, rfl, rfl, rfl⟩

theorem sd_loop (w : World) (B : Nat) (g : Nat) (k : Dk) (u : Option Addr) (c : Nat) (n : Nat) (m : Nat) (HPL : Hid (PlOk k.d k.ws)) (HM : Hid (k.ws.length = m)) (b0 : Nat) (a1 : Option Addr) (c1 : Nat) (a2 : Option Addr) (c2 : Nat) (ua : Option Addr) (uc : Nat) (UL : List Uw) (HUL : Hid (UL.map Uw.pl = k.ws)) (w5 : World) (HS5 : Hid (Sd w B g k b0 u m c a1 c1 a2 c2 ua uc UL n w5)) (a : Act) (hf : Fr 96 a) (h3 : sl a 3 = .pointer (some ⟨b0, 0, none⟩)) (h10 : sl a 10 = .slice ua m uc) :
    Code.wp Try.prog (cAt [1,1,1,1,1,1,0] KSD) (Exit.then (fun a' w' => Fr 96 a' ∧ Sd w B g k b0 u m c a1 c1 a2 c2 ua uc UL n w') Nope) a w5 := by
  have HPL := HPL.out
  have HM := HM.out
  have HUL := HUL.out
  have HS5 := HS5.out
  refine wp_sqR (x := cAt [1,1,1,1,1,1,0,0] KSD) (y := cAt [1,1,1,1,1,1,0,1] KSD) (by kernel_rfl) (s7 m b0 ua uc w5 a hf h3 h10) ?_
  rintro a_7 _ ⟨hf, h3, h10, h11, rfl⟩
  refine wp_blockR (x := cAt [1,1,1,1,1,1,0,1,2] KSD) (id := 0) (by kernel_rfl) ?_
  refine wp_loopR (x := cAt [1,1,1,1,1,1,0,1,2,2] KSD) (by kernel_rfl) (fun a' w' => ∃ i : Nat, i ≤ m ∧ Sd w B g k b0 u m c a1 c1 a2 c2 ua uc UL n w' ∧ Fr 96 a' ∧ sl a' 3 = .pointer (some ⟨b0, 0, none⟩) ∧ sl a' 10 = .slice ua m uc ∧ sl a' 11 = .int .i64 (i : Int)) (fun a' _ => m - (numOf (sl a' 11)).toNat) ⟨0, Nat.zero_le _, HS5, hf, h3, h10, h11⟩ ?_
  rintro a_l wl ⟨i, hi, HSL, hf, h3, h10, h11⟩
  have h11a := h11
  by_cases hlt : i < m
  case neg =>
    refine wp_endX (s8x m b0 ua uc wl i hlt a_l hf h3 h10 h11) ?_
    rintro a_8 _ ⟨hf, rfl⟩
    exact thru ⟨hf, HSL⟩
  refine wp_sqR (x := cAt [1,1,1,1,1,1,0,1,2,2,0] KSD) (y := cAt [1,1,1,1,1,1,0,1,2,2,1] KSD) (by kernel_rfl) (s8 m b0 ua uc wl i hlt a_l hf h3 h10 h11) ?_
  rintro a_9 _ ⟨hf, h3, h10, h11, rfl⟩
  refine wp_sqR (x := cAt [1,1,1,1,1,1,0,1,2,2,1,0] KSD) (y := cAt [1,1,1,1,1,1,0,1,2,2,1,1] KSD) (by kernel_rfl) (sd_one w B g k u c n m HPL HM b0 a1 c1 a2 c2 ua uc UL HUL wl i HSL hlt a_9 hf h3 h10 h11) ?_
  rintro a_11 wn ⟨hf, h3, h10, h11, HSN⟩
  refine wp_endR (s9 k m HPL HM b0 ua uc i hlt wn a_11 hf h3 h10 h11) ?_
  rintro a_12 _ ⟨hf, h3, h10, h11, rfl⟩
  refine ⟨⟨i + 1, hlt, HSN, hf, h3, h10, h11⟩, ?_⟩
  rw [h11a, h11]
  simp only [numOf]
  omega

set_option maxRecDepth 100000 in
set_option maxHeartbeats 4000000 in
theorem s12 (w : World) (B : Nat) (g : Nat) (k : Dk) (u : Option Addr) (c : Nat) (n : Nat) (m : Nat) (b0 : Nat) (a1 : Option Addr) (c1 : Nat) (a2 : Option Addr) (c2 : Nat) (ua : Option Addr) (uc : Nat) (UL : List Uw) (w9 : World) (HS9 : Hid (Sd w B g k b0 u m c a1 c1 a2 c2 ua uc UL n w9)) (a : Act) (hf : Fr 96 a) :
    Code.wp Try.prog (cAt [1,1,1,1,1,1,1] KSD) (bodyPost Try.prog Try.f37 (Gives w (.bool true))) a w9 := by
  obtain ⟨f, ha, hs⟩ := frKSD hf
  clear hs hf 
  subst ha
  conv => arg 2; whnf
  go_wp2_with fail
  first | exact ⟨rfl, HS9.out.below⟩ | (go_ret; exact ⟨rfl, HS9.out.below⟩)

theorem sameDisk_any (B g : Nat) (k : Dk) (r : Rk) (w : World) (HDM : Dm w B g k) (HRL : r.lies w) (hd : r.d = k.d) (hl : r.L = k.ws) (hnum : k.ws.length ≤ 1000) :
    Calls Try.prog 37 #[.pointer (some ⟨g, 0, none⟩), r.v] w (Gives w (.bool true)) := by
  obtain ⟨rd, u, c, rL⟩ := r
  have hd : rd = k.d := hd
  have hl : rL = k.ws := hl
  subst hd hl
  have HPL := HDM.pl hnum
  obtain ⟨n, HN⟩ : ∃ n, k.d.length = n := ⟨_, rfl⟩
  obtain ⟨m, HM⟩ : ∃ m, k.ws.length = m := ⟨_, rfl⟩
  show Calls Try.prog 37 #[.pointer (some ⟨g, 0, none⟩), .agg #[.string (str k.d), .slice u k.ws.length c]] w _
  rw [HM]
  refine calls_of_wp (c := KSD) Try.func37 (by kernel_rfl) ?_
  have hf : Fr 96 { tmps := #[.pointer (some ⟨g, 0, none⟩), .agg #[.string (str k.d), .slice u m c]] ++ Array.replicate (Try.f37.ntmps - (#[.pointer (some ⟨g, 0, none⟩), .agg #[.string (str k.d), .slice u m c]] : Array Value).size) undef, defers := [] } := ⟨rfl, by simp [Try.ntmps37]⟩
  generalize ha : ({ tmps := #[.pointer (some ⟨g, 0, none⟩), .agg #[.string (str k.d), .slice u m c]] ++ Array.replicate (Try.f37.ntmps - (#[.pointer (some ⟨g, 0, none⟩), .agg #[.string (str k.d), .slice u m c]] : Array Value).size) undef, defers := [] } : Act) = a at hf ⊢
  have h0 : sl a 0 = .pointer (some ⟨g, 0, none⟩) := by rw [← ha]; exact sl_at _ _ 0 _ rfl
  have h1 : sl a 1 = .agg #[.string (str k.d), .slice u m c] := by rw [← ha]; exact sl_at _ _ 1 _ rfl
  clear ha
  refine wp_sqR (x := cAt [0] KSD) (y := cAt [1] KSD) (by kernel_rfl) (s0 w g k u c m a hf h0 h1) ?_
  rintro a_1 w1 ⟨b0, hf, h0, h3, HB1, HR0⟩
  refine wp_sqR (x := cAt [1,0] KSD) (y := cAt [1,1] KSD) (by kernel_rfl) (s1 g k u c n m HN w1 b0 HR0 a_1 hf h0 h3) ?_
  rintro a_2 _ ⟨hf, h0, h3, h5, rfl⟩
  refine wp_sqR (x := cAt [1,1,0] KSD) (y := cAt [1,1,1] KSD) (by kernel_rfl) (s2 w B g k n HDM HN w1 b0 HB1 a_2 hf h0 h3 h5) ?_
  rintro a_3 w2 ⟨a1, c1, hf, h0, h3, h5, h6, h7, HO1, HB2, HB12⟩
  refine wp_sqR (x := cAt [1,1,1,0] KSD) (y := cAt [1,1,1,1] KSD) (by kernel_rfl) (s3 w B g k n HDM HN b0 w2 a1 c1 HB2 a_3 hf h0 h3 h5 h6 h7) ?_
  rintro a_4 w3 ⟨a2, c2, hf, h0, h3, h5, h6, h7, h8, h9, HO2, HB3, HB23⟩
  refine wp_sqR (x := cAt [1,1,1,1,0] KSD) (y := cAt [1,1,1,1,1] KSD) (by kernel_rfl) (s4 w B g k u c n m HDM HRL HPL HM w1 b0 HR0 w2 a1 c1 HO1 HB12 w3 a2 c2 HO2 HB3 HB23 a_4 hf h0 h3 h5 h6 h7 h8 h9) ?_
  rintro a_5 w4 ⟨ua, uc, UL, hf, h0, h3, h5, h6, h7, h8, h9, h10, HSD, HUL⟩
  refine wp_sqG (x := cAt [1,1,1,1,1,0] KSD) (y := cAt [1,1,1,1,1,1] KSD) (by kernel_rfl) ?_
  refine wp_sqR (x := cAt [1,1,1,1,1,0,0] KSD) (y := cAt [1,1,1,1,1,0,1] KSD) (by kernel_rfl) (s5 w B g k u c n m HDM HPL HN HM b0 a1 c1 a2 c2 w4 ua uc UL HSD a_5 hf h0 h3 h5 h6 h7 h8 h9 h10) ?_
  rintro a_6 w5 ⟨hf, h3, h10, h62, HS5⟩
  refine wp_onF (A := cAt [1,1,1,1,1,0,1,3] KSD) (B := cAt [1,1,1,1,1,0,1,4] KSD) (by kernel_rfl) h62 ?_
  refine wp_skipR (by kernel_rfl) ?_
  refine wp_sqR (x := cAt [1,1,1,1,1,1,0] KSD) (y := cAt [1,1,1,1,1,1,1] KSD) (by kernel_rfl) (sd_loop w B g k u c n m HPL HM b0 a1 c1 a2 c2 ua uc UL HUL w5 HS5 a_6 hf h3 h10) ?_
  rintro a_13 w9 ⟨hf, HS9⟩
  exact s12 w B g k u c n m b0 a1 c1 a2 c2 ua uc UL w9 HS9 a_13 hf
end Go.Proofs.Ytbghdlgfpfeaeaa

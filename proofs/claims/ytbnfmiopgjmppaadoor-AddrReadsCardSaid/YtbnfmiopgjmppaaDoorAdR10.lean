/-
  The contract of the document's own From. Condition: bytes that lie there. (Made by gen_adr10.py.)
-/
import Derived.Test.YtbnfmiopgjmppaaDoorAdR8
import Derived.Test.YtbnfmiopgjmppaaDoorAdR9
namespace Go.Proofs.YtbnfmiopgjmppaaDoor
open Go.RowKit

/-- What From answers. -/
def FrR (w : World) (bs : List Int) (e : Ending) (w' : World) : Prop :=
  Below w.heap.size w w' ∧ (((bs.length = 4 ∨ bs.length = 16) ∧ e = .returned (.tuple #[.agg (adl (decide (bs.length = 16)) (bs ++ zs (16 - bs.length))).toArray, .int .i64 0])) ∨ (¬ (bs.length = 4 ∨ bs.length = 16) ∧ e = .returned (.tuple #[.agg (adl false (zs 16)).toArray, .int .i64 2])))
/-- The address that is filled, and the bytes. -/
structure Fs (w wr : World) (gO g : Nat) (xb : Option Addr) (bs : List Int) (s : Bool) (ys : List Int) : Prop where
  out : wr.there gO 0 17
  row : wr.rangeAt g 0 (adl s ys)
  th : wr.there g 0 17
  rd : Rd wr xb bs
  below : Below w.heap.size w wr
  og : w.heap.size ≤ gO
  ne : gO < g
  ap : ∀ k, blk xb = some k → k < g
theorem Fs.set {w wr : World} {gO g : Nat} {xb : Option Addr} {bs ys : List Int} {s : Bool} (h : Fs w wr gO g xb bs s ys) (hl : ys.length = 16) {j : Nat} (hj : j < 16) (z : Int) : Fs w (wr.setCell ⟨g, 1 + j, none⟩ (.int .u8 z)) gO g xb bs s (ys.set j z) := by
  have hk := Kept.setCell (S := fun x => x = g) wr ⟨g, 1 + j, none⟩ (.int .u8 z) rfl
  refine ⟨there_keep hk (by have := h.ne; omega) h.out, ?_, World.there_setCells h.th _ _ [.int .u8 z], h.rd.keep hk (fun k h1 e => by have := h.ap k h1; omega), h.below.trans (hk.below h.below.size (fun k e => by have := h.ne; have := h.og; omega)), h.og, h.ne, h.ap⟩
  have := range_set h.row (j := 1 + j) (by rw [adl_len _ _ hl]; omega) (.int .u8 z)
  rwa [adl_set] at this
theorem builtB (s : Bool) : Tryd.prog.built 27 [(0, .bool s)] = some (adl s (zs 16)).toArray := by
  cases s
  · kernel_rfl
  · kernel_rfl
theorem put_step {bs : List Int} {k : Nat} (hk : k < bs.length) : (bs.take k ++ zs (16 - k)).set k (bs.getD k 0) = bs.take (k + 1) ++ zs (16 - (k + 1)) ∨ 16 ≤ k := by
  by_cases h : k < 16
  · refine .inl ?_
    have hz : zs (16 - k) = 0 :: zs (16 - (k + 1)) := by
      rw [show 16 - k = (16 - (k + 1)) + 1 by omega]; rfl
    have hA : (bs.take k).length = k := by simp; omega
    have ht : bs.take (k + 1) = bs.take k ++ [bs.getD k 0] := by
      rw [List.take_succ_eq_append_getElem hk]
      simp [List.getElem?_eq_getElem hk]
    obtain ⟨v, hv⟩ : ∃ v, bs.getD k 0 = v := ⟨_, rfl⟩
    rw [hv] at ht ⊢
    rw [ht, hz, List.set_append_right _ _ (by omega), hA, Nat.sub_self]
    simp
  · exact .inr (by omega)

noncomputable def K9 : Code := Tryd.f9.body.getD .skip
set_option maxRecDepth 100000 in
theorem fr33 {a : Act} (h : Fr 33 a) : ∃ f : Nat → Value, a = ⟨#[f 0, f 1, f 2, f 3, f 4, f 5, f 6, f 7, f 8, f 9, f 10, f 11, f 12, f 13, f 14, f 15, f 16, f 17, f 18, f 19, f 20, f 21, f 22, f 23, f 24, f 25, f 26, f 27, f 28, f 29, f 30, f 31, f 32], []⟩ ∧ ∀ i, f i = sl a i := fr_any h
set_option maxRecDepth 100000 in
set_option maxHeartbeats 4000000 in
theorem f0 (xb : Option Addr) (n c : Nat) (w : World) (a : Act) (hf : Fr 33 a) (h0 : sl a 0 = .slice xb n c) :
    Code.wp Tryd.prog (cAt [0] K9) (Exit.then (fun a' w' => ∃ gO, Fr 33 a' ∧ sl a' 0 = .slice xb n c ∧ sl a' 2 = .pointer (some ⟨gO, 0, none⟩) ∧ Ab w' gO false (zs 16) ∧ Below w.heap.size w w' ∧ w.heap.size ≤ gO) Nope) a w := by
  obtain ⟨f, ha, hs⟩ := fr33 hf
  have e0 := (hs 0).trans h0
  rw [e0] at ha
  clear hs hf e0 h0
  subst ha
  refine piece2 fun J0 K0 hJ0 hK0 => ?_
  conv => arg 2; whnf
  have HA : Hid (Ab (w.alloc (.cells (adl false (zs 16)).toArray 27)) w.heap.size false (zs 16)) := Ab.new _ _ _
  have HB : Hid (Below w.heap.size w (w.alloc (.cells (adl false (zs 16)).toArray 27))) := (Below.refl _ _).alloc (Nat.le_refl _) _
  go_wp2_with fail
  refine Met.intro (hJ0 _ _ ?_)
  exact ⟨_, ⟨rfl, rfl⟩, rfl, rfl, HA.out, HB.out, Nat.le_refl _⟩

set_option maxRecDepth 100000 in
set_option maxHeartbeats 4000000 in
theorem f1 (bs : List Int) (s : Bool) (gO : Nat) (xb : Option Addr) (n c : Nat) (w wr : World) (hs : ((n : Int) == 16) = s) (HA : Hid (Ab wr gO false (zs 16) ∧ Below w.heap.size w wr ∧ w.heap.size ≤ gO ∧ Rd wr xb bs ∧ ∀ k, blk xb = some k → k < w.heap.size)) (a : Act) (hf : Fr 33 a) (h0 : sl a 0 = .slice xb n c) (h2 : sl a 2 = .pointer (some ⟨gO, 0, none⟩)) :
    Code.wp Tryd.prog (cAt [1,0] K9) (Exit.then (fun a' w' => ∃ g, Fr 33 a' ∧ sl a' 0 = .slice xb n c ∧ sl a' 2 = .pointer (some ⟨gO, 0, none⟩) ∧ sl a' 4 = .pointer (some ⟨g, 0, none⟩) ∧ Fs w w' gO g xb bs s (zs 16)) Nope) a wr := by
  obtain ⟨f, ha, hs⟩ := fr33 hf
  have e0 := (hs 0).trans h0
  have e2 := (hs 2).trans h2
  rw [e0, e2] at ha
  clear hs hf e0 h0 e2 h2
  subst ha
  refine piece2 fun J0 K0 hJ0 hK0 => ?_
  conv => arg 2; whnf
  have HTN : Hid ((wr.alloc (.cells (adl false (zs 16)).toArray 27)).there wr.heap.size 0 17) := there_new _ _ _ _ rfl _ rfl
  have HF : Hid (Fs w ((wr.alloc (.cells (adl false (zs 16)).toArray 27)).setCells wr.heap.size 0 (adl s (zs 16))) gO wr.heap.size xb bs s (zs 16)) := by
    obtain ⟨h1, h2, h3, h4, h5⟩ := HA.out
    have hb : Below wr.heap.size wr (wr.alloc (.cells (adl false (zs 16)).toArray 27)) := (Below.refl _ _).alloc (Nat.le_refl _) _
    have hb2 : Below wr.heap.size wr ((wr.alloc (.cells (adl false (zs 16)).toArray 27)).setCells wr.heap.size 0 (adl s (zs 16))) := Below.setCells hb _ (Nat.le_refl _) _ _
    exact ⟨there_kpt hb2 (h1.there rfl), World.rangeAt_setCells_same _ _ _ _ HTN.out, World.there_setCells HTN.out _ _ _, h4.below hb2, h2.trans (hb2.mono h2.size), h3, (Array.getElem?_eq_some_iff.1 h1).1, fun k h => Nat.lt_of_lt_of_le (h5 k h) h2.size⟩
  go_wp2_with (first
    | (refine wpList_build_run (cells := (adl s (zs 16)).toArray) rfl 27 #[(0, .tmp 8)] rfl ?_ ?_; · exact builtB s)
    | (refine stR (.tmp 4) (.tmp 9) rfl rfl _ 0 s (zs 16) rfl rfl rfl HTN.out ?_))
  refine Met.intro (hJ0 _ _ ?_)
  exact ⟨_, ⟨rfl, rfl⟩, rfl, rfl, rfl, HF.out⟩

set_option maxRecDepth 100000 in
set_option maxHeartbeats 4000000 in
theorem f2 (gO g : Nat) (xb : Option Addr) (n c : Nat) (wr : World) (hn : n = 4 ∨ n = 16) (a : Act) (hf : Fr 33 a) (h0 : sl a 0 = .slice xb n c) (h2 : sl a 2 = .pointer (some ⟨gO, 0, none⟩)) (h4 : sl a 4 = .pointer (some ⟨g, 0, none⟩)) :
    Code.wp Tryd.prog (cAt [1,1,0] K9) (Exit.then (fun a' w' => Fr 33 a' ∧ sl a' 0 = .slice xb n c ∧ sl a' 2 = .pointer (some ⟨gO, 0, none⟩) ∧ sl a' 4 = .pointer (some ⟨g, 0, none⟩) ∧ wr = w') Nope) a wr := by
  obtain ⟨f, ha, hs⟩ := fr33 hf
  have e0 := (hs 0).trans h0
  have e2 := (hs 2).trans h2
  have e4 := (hs 4).trans h4
  rw [e0, e2, e4] at ha
  clear hs hf e0 h0 e2 h2 e4 h4
  subst ha
  refine piece2 fun J0 K0 hJ0 hK0 => ?_
  conv => arg 2; whnf
  rcases hn with rfl | rfl
  · go_wp2_with fail
    refine Met.intro (hJ0 _ _ ?_)
    exact ⟨⟨rfl, rfl⟩, rfl, rfl, rfl, rfl⟩
  · go_wp2_with fail
    refine Met.intro (hJ0 _ _ ?_)
    exact ⟨⟨rfl, rfl⟩, rfl, rfl, rfl, rfl⟩

set_option maxRecDepth 100000 in
set_option maxHeartbeats 4000000 in
theorem f2no (bs : List Int) (s : Bool) (gO g : Nat) (xb : Option Addr) (n c : Nat) (w wr : World) (hn : ¬ (n = 4 ∨ n = 16)) (hl : Hid (bs.length = n)) (HF : Hid (Fs w wr gO g xb bs s (zs 16))) (a : Act) (hf : Fr 33 a) (h0 : sl a 0 = .slice xb n c) (h2 : sl a 2 = .pointer (some ⟨gO, 0, none⟩)) (h4 : sl a 4 = .pointer (some ⟨g, 0, none⟩)) :
    Code.wp Tryd.prog (cAt [1,1] K9) (bodyPost Tryd.prog Tryd.f9 (FrR w bs)) a wr := by
  obtain ⟨f, ha, hs⟩ := fr33 hf
  have e0 := (hs 0).trans h0
  have e2 := (hs 2).trans h2
  have e4 := (hs 4).trans h4
  rw [e0, e2, e4] at ha
  clear hs hf e0 h0 e2 h2 e4 h4
  subst ha
  conv => arg 2; whnf
  have HN : Hid (¬ (bs.length = 4 ∨ bs.length = 16)) := by rw [hl.out]; exact hn
  have q2 : ((n : Int) != 16) = true := by simp; omega
  have q3 : ((n : Int) != 4) = true := by simp; omega
  clear hn
  go_wp2_with (first
    | (refine wpList_build_run (cells := (adl false (zs 16)).toArray) rfl 27 #[] rfl ?_ ?_; · exact built0)
    | (refine stR (.tmp 2) (.tmp 18) rfl rfl gO 0 false (zs 16) rfl rfl rfl HF.out.out ?_))
  refine bodyPost_ret (ret_midT rfl _ _ gO 0 (adl false (zs 16)) _ rfl (World.rangeAt_setCells_same _ _ _ _ HF.out.out) Tryd.underlying27 rfl infR) rfl ?_
  exact ⟨Below.setCells HF.out.below gO HF.out.og _ _, .inr ⟨HN.out, rfl⟩⟩
set_option maxRecDepth 100000 in
set_option maxHeartbeats 4000000 in
theorem f4 (gO g : Nat) (xb : Option Addr) (n c : Nat) (wr : World) (a : Act) (hf : Fr 33 a) (h0 : sl a 0 = .slice xb n c) (h2 : sl a 2 = .pointer (some ⟨gO, 0, none⟩)) (h4 : sl a 4 = .pointer (some ⟨g, 0, none⟩)) :
    Code.wp Tryd.prog (cAt [1,1,1,0,0] K9) (Exit.then (fun a' w' => Fr 33 a' ∧ sl a' 0 = .slice xb n c ∧ sl a' 2 = .pointer (some ⟨gO, 0, none⟩) ∧ sl a' 4 = .pointer (some ⟨g, 0, none⟩) ∧ sl a' 5 = .int .i64 0 ∧ wr = w') Nope) a wr := by
  obtain ⟨f, ha, hs⟩ := fr33 hf
  have e0 := (hs 0).trans h0
  have e2 := (hs 2).trans h2
  have e4 := (hs 4).trans h4
  rw [e0, e2, e4] at ha
  clear hs hf e0 h0 e2 h2 e4 h4
  subst ha
  refine piece2 fun J0 K0 hJ0 hK0 => ?_
  conv => arg 2; whnf
  go_wp2_with fail
  refine Met.intro (hJ0 _ _ ?_)
  exact ⟨⟨rfl, rfl⟩, rfl, rfl, rfl, rfl, rfl⟩

set_option maxRecDepth 100000 in
set_option maxHeartbeats 4000000 in
theorem f5 (bs : List Int) (s : Bool) (gO g k : Nat) (xb : Option Addr) (n c : Nat) (w wr : World) (hk : k < n) (hn : n ≤ 16) (hl : bs.length = n) (hf0 : Hid (Fs w wr gO g xb bs s (bs.take k ++ zs (16 - k)))) (a : Act) (hf : Fr 33 a) (h0 : sl a 0 = .slice xb n c) (h2 : sl a 2 = .pointer (some ⟨gO, 0, none⟩)) (h4 : sl a 4 = .pointer (some ⟨g, 0, none⟩)) (h5 : sl a 5 = .int .i64 (k : Int)) :
    Code.wp Tryd.prog (cAt [1,1,1,0,1,2,2] K9) (Exit.then (fun a' w' => Fr 33 a' ∧ sl a' 0 = .slice xb n c ∧ sl a' 2 = .pointer (some ⟨gO, 0, none⟩) ∧ sl a' 4 = .pointer (some ⟨g, 0, none⟩) ∧ sl a' 5 = .int .i64 ((k : Int) + 1) ∧ Fs w w' gO g xb bs s (bs.take (k + 1) ++ zs (16 - (k + 1)))) Nope) a wr := by
  obtain ⟨f, ha, hs⟩ := fr33 hf
  have e0 := (hs 0).trans h0
  have e2 := (hs 2).trans h2
  have e4 := (hs 4).trans h4
  have e5 := (hs 5).trans h5
  rw [e0, e2, e4, e5] at ha
  clear hs hf e0 h0 e2 h2 e4 h4 e5 h5
  subst ha
  refine piece2 fun J0 K0 hJ0 hK0 => ?_
  conv => arg 2; whnf
  have hk2 : (k : Int) < (n : Int) := by omega
  have hk16 : (k : Int) < 16 := by omega
  have hb16 : (bs.take k ++ zs (16 - k)).length = 16 := by simp [zs]; omega
  obtain ⟨b, q, he, hc⟩ := hf0.out.rd (by intro e; rw [e] at hl; simp at hl; omega)
  subst he
  have ck := hc k (by omega)
  have HS := hf0.out.set hb16 (j := k) (by omega) (bs.getD k 0)
  rcases put_step (bs := bs) (k := k) (by omega) with hp | hp
  rotate_left
  · omega
  rw [hp] at HS
  obtain ⟨x, hx⟩ : ∃ x, bs.getD k 0 = x := ⟨_, rfl⟩
  rw [hx] at ck HS
  have t1 := hf0.out.th (1 + k) (by omega)
  rw [Nat.zero_add] at t1
  obtain ⟨u1, hu1⟩ := Option.isSome_iff_exists.1 t1.1
  have hf1 := t1.2
  have HSH := Lib.hid HS
  clear hf0 hc HS hp hx t1 hb16 hl
  go_wp2_with fail
  refine Met.intro (hJ0 _ _ ?_)
  exact ⟨⟨rfl, rfl⟩, rfl, rfl, rfl, rfl, HSH.out⟩

set_option maxRecDepth 100000 in
set_option maxHeartbeats 4000000 in
theorem f5x (gO g : Nat) (xb : Option Addr) (n c : Nat) (wr : World) (a : Act) (hf : Fr 33 a) (h0 : sl a 0 = .slice xb n c) (h2 : sl a 2 = .pointer (some ⟨gO, 0, none⟩)) (h4 : sl a 4 = .pointer (some ⟨g, 0, none⟩)) (h5 : sl a 5 = .int .i64 (n : Int)) :
    Code.wp Tryd.prog (cAt [1,1,1,0,1,2,2] K9) (Outs 0 (fun a' w' => Fr 33 a' ∧ sl a' 0 = .slice xb n c ∧ sl a' 2 = .pointer (some ⟨gO, 0, none⟩) ∧ sl a' 4 = .pointer (some ⟨g, 0, none⟩) ∧ wr = w')) a wr := by
  obtain ⟨f, ha, hs⟩ := fr33 hf
  have e0 := (hs 0).trans h0
  have e2 := (hs 2).trans h2
  have e4 := (hs 4).trans h4
  have e5 := (hs 5).trans h5
  rw [e0, e2, e4, e5] at ha
  clear hs hf e0 h0 e2 h2 e4 h4 e5 h5
  subst ha
  conv => arg 2; whnf
  go_wp2_with fail
  exact ⟨rfl, ⟨rfl, rfl⟩, rfl, rfl, rfl, rfl⟩

set_option maxRecDepth 100000 in
set_option maxHeartbeats 4000000 in
theorem f8 (bs : List Int) (s : Bool) (gO g : Nat) (xb : Option Addr) (n c : Nat) (w wr : World) (hn : n = 4 ∨ n = 16) (hl : bs.length = n) (hs : ((n : Int) == 16) = s) (HF : Hid (Fs w wr gO g xb bs s (bs ++ zs (16 - n)))) (a : Act) (hf : Fr 33 a) (h0 : sl a 0 = .slice xb n c) (h2 : sl a 2 = .pointer (some ⟨gO, 0, none⟩)) (h4 : sl a 4 = .pointer (some ⟨g, 0, none⟩)) :
    Code.wp Tryd.prog (cAt [1,1,1,1] K9) (bodyPost Tryd.prog Tryd.f9 (FrR w bs)) a wr := by
  obtain ⟨f, ha, hs⟩ := fr33 hf
  have e0 := (hs 0).trans h0
  have e2 := (hs 2).trans h2
  have e4 := (hs 4).trans h4
  rw [e0, e2, e4] at ha
  clear hs hf e0 h0 e2 h2 e4 h4
  subst ha
  conv => arg 2; whnf
  obtain ⟨ys, hys⟩ : ∃ ys, bs ++ zs (16 - n) = ys := ⟨_, rfl⟩
  have H16 : Hid (ys.length = 16) := by show _ = _; rw [← hys]; simp [zs]; omega
  have HE : Hid (FrR w bs (.returned (.tuple #[.agg (adl s ys).toArray, .int .i64 0])) (wr.setCells gO 0 (adl s ys))) := by
    refine ⟨Below.setCells HF.out.below gO HF.out.og _ _, .inl ⟨by rw [hl]; exact hn, ?_⟩⟩
    have hd : decide (n = 16) = s := by
      rw [← hs]
      rcases hn with rfl | rfl <;> rfl
    rw [hl, hd, hys]
  rw [hys] at HF
  clear hys hs hn hl
  go_wp2_with (first
    | (refine ldRg (.tmp 4) rfl (by rfl) g 0 rfl s ys H16.out (by with_reducible exact HF.out.row) ?_)
    | (refine stR (.tmp 2) (.tmp 32) rfl rfl gO 0 s ys rfl rfl H16.out HF.out.out ?_))
  refine bodyPost_ret (ret_midT rfl _ _ gO 0 (adl s ys) _ rfl (World.rangeAt_setCells_same _ _ _ _ (by have := HF.out.out; rwa [adl_len _ _ H16.out])) Tryd.underlying27 rfl (infR.trans (by rw [adl_len _ _ H16.out]))) rfl ?_
  exact HE.out

set_option maxRecDepth 100000 in
set_option maxHeartbeats 4000000 in
theorem r4From_any (bs : List Int) (xb : Option Addr) (n c : Nat) (w : World) (hl : bs.length = n) (hr : Rd w xb bs) (hap : ∀ k, blk xb = some k → k < w.heap.size) : Calls Tryd.prog 9 #[.slice xb n c] w (FrR w bs) := by
  refine calls_of_wp (c := K9) Tryd.func9 (by kernel_rfl) ?_
  have hf : Fr 33 { tmps := #[.slice xb n c] ++ Array.replicate (Tryd.f9.ntmps - (#[.slice xb n c] : Array Value).size) undef, defers := [] } := ⟨rfl, by rw [Tryd.ntmps9]; simp⟩
  refine wp_sqR (x := cAt [0] K9) (y := cAt [1] K9) (by kernel_rfl) (f0 xb n c w _ hf (sl_arg _ _ 0 _ rfl)) ?_
  rintro a0 w0 ⟨gO, hf, h0, h2, ha, hb, hg⟩
  obtain ⟨s, hs⟩ : ∃ s, ((n : Int) == 16) = s := ⟨_, rfl⟩
  refine wp_sqR (x := cAt [1,0] K9) (y := cAt [1,1] K9) (by kernel_rfl) (f1 bs s gO xb n c w w0 hs ⟨ha, hb, hg, hr.below hb, hap⟩ a0 hf h0 h2) ?_
  rintro a1 w1 ⟨g, hf, h0, h2, h4, hF⟩
  by_cases hn : n = 4 ∨ n = 16
  · refine wp_sqR (x := cAt [1,1,0] K9) (y := cAt [1,1,1] K9) (by kernel_rfl) (f2 gO g xb n c w1 hn a1 hf h0 h2 h4) ?_
    rintro a2 _ ⟨hf, h0, h2, h4, rfl⟩
    refine wp_sqR (R := fun a' w' => Fr 33 a' ∧ sl a' 0 = .slice xb n c ∧ sl a' 2 = .pointer (some ⟨gO, 0, none⟩) ∧ sl a' 4 = .pointer (some ⟨g, 0, none⟩) ∧ Fs w w' gO g xb bs s (bs ++ zs (16 - n))) (x := cAt [1,1,1,0] K9) (y := cAt [1,1,1,1] K9) (by kernel_rfl) ?_ ?_
    · refine wp_sqR (x := cAt [1,1,1,0,0] K9) (y := cAt [1,1,1,0,1] K9) (by kernel_rfl) (f4 gO g xb n c w1 a2 hf h0 h2 h4) ?_
      rintro a3 _ ⟨hf, h0, h2, h4, h5, rfl⟩
      refine wp_blockR (x := cAt [1,1,1,0,1,2] K9) (id := 0) (by kernel_rfl) ?_
      refine wp_loopR (x := cAt [1,1,1,0,1,2,2] K9) (by kernel_rfl) (fun a' w' => ∃ k : Nat, Fr 33 a' ∧ sl a' 0 = .slice xb n c ∧ sl a' 2 = .pointer (some ⟨gO, 0, none⟩) ∧ sl a' 4 = .pointer (some ⟨g, 0, none⟩) ∧ sl a' 5 = .int .i64 (k : Int) ∧ k ≤ n ∧ Fs w w' gO g xb bs s (bs.take k ++ zs (16 - k))) (fun a' _ => n - (intOf (sl a' 5)).toNat) ⟨0, hf, h0, h2, h4, h5, Nat.zero_le _, by rw [List.take_zero, List.nil_append]; exact hF⟩ ?_
      rintro a' w' ⟨k, hf, h0, h2, h4, h5, hk, hfs⟩
      by_cases hlt : k < n
      · refine wp_endR (f5 bs s gO g k xb n c w w' hlt (by omega) hl hfs a' hf h0 h2 h4 h5) ?_
        rintro b2 w2 ⟨hf', h0', h2', h4', h5', hfs'⟩
        refine ⟨⟨k + 1, hf', h0', h2', h4', by rw [h5']; rfl, by omega, hfs'⟩, ?_⟩
        rw [h5, h5']
        simp only [intOf]
        omega
      · have hkn : k = n := by omega
        rw [hkn] at h5 hfs
        refine wp_endX (f5x gO g xb n c w' a' hf h0 h2 h4 h5) ?_
        rintro b2 _ ⟨hf', h0', h2', h4', rfl⟩
        refine thru ?_
        refine ⟨hf', h0', h2', h4', ?_⟩
        rw [List.take_of_length_le (by omega)] at hfs
        exact hfs
    · rintro a3 w3 ⟨hf, h0, h2, h4, hF⟩
      exact f8 bs s gO g xb n c w w3 hn hl hs hF a3 hf h0 h2 h4
  · exact f2no bs s gO g xb n c w w1 hn hl hF a1 hf h0 h2 h4
end Go.Proofs.YtbnfmiopgjmppaaDoor

/-
  AddrBack's walk, in pieces and put together. Conditions: sixteen bytes each; the library's variables hold what they should. (Made by gen_adback.py.)
-/
import Derived.Test.YtbnfmiopgjmppaaDoorAdBf
import Derived.Test.YtbnfmiopgjmppaaDoorAdPc
namespace Go.Proofs.YtbnfmiopgjmppaaDoor
open Go.RowKit

/-- Ranges that are held; what was there stays. -/
def Hs (w wr : World) (l : List (Nat × List Value)) : Prop := Below w.heap.size w wr ∧ ∀ x ∈ l, wr.rangeAt x.1 0 x.2
theorem Hs.past {w wr w' : World} {l : List (Nat × List Value)} (h : Hs w wr l) (hb : Below wr.heap.size wr w') : Hs w w' l := ⟨h.1.trans (hb.mono h.1.size), fun x hx => range_kept hb (h.2 x hx)⟩
theorem Hs.drew {w wr : World} {l : List (Nat × List Value)} (h : Hs w wr l) : Hs w wr.drew l := h.past (Below.refl _ _).drew
theorem Hs.add {w wr w' : World} {l : List (Nat × List Value)} (h : Hs w wr l) (hb : Below wr.heap.size wr w') {g : Nat} {cs : List Value} (hr : w'.rangeAt g 0 cs) : Hs w w' ((g, cs) :: l) :=
  ⟨(h.past hb).1, fun x hx => by
    rcases List.mem_cons.1 hx with rfl | hx
    · exact hr
    · exact (h.past hb).2 x hx⟩
theorem Hs.gl {w wr : World} {l : List (Nat × List Value)} (h : Hs w wr l) (hg : Gl w) : Gl wr := hg.below h.1
theorem Hs.at_ {w wr : World} {l : List (Nat × List Value)} (h : Hs w wr l) (g : Nat) (cs : List Value) (hx : (g, cs) ∈ l) : wr.rangeAt g 0 cs := h.2 _ hx
/-- What the law answers. -/
def YesB (w : World) (e : Ending) (w' : World) : Prop := e = .returned (.bool true) ∧ Below w.heap.size w w'

theorem pp_yes {l : Tx} {s : Bool} {xs : List Int} {n : Int} (h : pfO l = some (s, xs, n)) (w : World) (hg : Gl w) (hl : l.length ≤ 1000000) : Calls Tryd.prog 23 #[.string ⟨l.toArray⟩] w fun e w' => e = .returned (.tuple #[.agg (pfl s xs n).toArray, .int .i64 0]) ∧ Below w.heap.size w w' := by
  refine (aParseP_any l w hg hl).mono ?_
  rintro e w' ⟨hb, h2⟩
  rcases h2 with ⟨s', xs', n', h3, _, _, _, rfl⟩ | ⟨h3, _⟩
  · rw [h] at h3
    have := Option.some.inj h3
    simp only [Prod.mk.injEq] at this
    obtain ⟨rfl, rfl, rfl⟩ := this
    exact ⟨rfl, hb⟩
  · rw [h] at h3; cases h3
theorem txQ_le (s : Bool) (xs : List Int) (n : Int) : (txQ s xs n).length ≤ 1000000 := by
  unfold txQ
  split
  · simp
  · have h1 := txP_le s xs
    have h2 := dg_len (v := n.toNat)
    simp only [List.length_append, List.length_cons, List.length_nil]
    omega
theorem sc_cell {w : World} {g : Nat} {p : Addr} (hne : p.block ≠ g) (vs : List Value) : (w.setCells g 0 vs).cell? p = w.cell? p :=
  World.cell?_setCells_out g vs 0 w p (fun h _ => absurd h hne)
theorem sc_range {w : World} {b g : Nat} (hne : b ≠ g) (vs : List Value) {cs : List Value} (h : w.rangeAt b 0 cs) : (w.setCells g 0 vs).rangeAt b 0 cs := fun j v hv => by
  rw [sc_cell (by exact hne)]; exact h j v hv
theorem sc_heap (g : Nat) : ∀ (vs : List Value) (o : Nat) (w : World) (b : Nat), b ≠ g → (w.setCells g o vs).heap[b]? = w.heap[b]?
  | [], _, _, _, _ => rfl
  | v :: r, o, w, b, h => by
    rw [World.setCells, sc_heap g r (o + 1) _ b h, heap_setCell_other _ _ _ _ h]
/-- The first of two new prefixes is stored. -/
theorem two_store1 {w wr : World} {l : List (Nat × List Value)} {g h : Nat} (hne : g ≠ h) (hg : Pp wr g false (zs 16) 0) (hh : Pp wr h false (zs 16) 0) (hb : w.heap.size ≤ g) (hl : Hs w wr l) (s : Bool) (xs : List Int) (n : Int) (hx : xs.length = 16) (hlt : ∀ x ∈ l, x.1 ≠ g) :
    Hs w (wr.setCells g 0 (pfl s xs n)) l ∧ (wr.setCells g 0 (pfl s xs n)).rangeAt g 0 (pfl s xs n) ∧ Pp (wr.setCells g 0 (pfl s xs n)) h false (zs 16) 0 :=
  ⟨⟨Below.setCells hl.1 _ hb _ _, fun x hx2 => sc_range (hlt x hx2) _ (hl.2 x hx2)⟩, World.rangeAt_setCells_same _ _ _ _ (by rw [pfl_len s xs n hx]; exact hg.there (zs_length 16)), by show (World.setCells _ _ _ _).heap[h]? = _; rw [sc_heap g _ 0 wr h (Ne.symm hne)]; exact hh⟩
theorem two_store2 {w wr : World} {l : List (Nat × List Value)} {g h : Nat} {c1 : List Value} (hne : g ≠ h) (hg : wr.rangeAt g 0 c1) (hh : Pp wr h false (zs 16) 0) (hb : w.heap.size ≤ h) (hl : Hs w wr l) (s : Bool) (xs : List Int) (n : Int) (hx : xs.length = 16) (hlt : ∀ x ∈ l, x.1 ≠ h) :
    Hs w (wr.setCells h 0 (pfl s xs n)) l ∧ Hs w (wr.setCells h 0 (pfl s xs n)) ((h, pfl s xs n) :: (g, c1) :: l) := by
  have h1 : Hs w (wr.setCells h 0 (pfl s xs n)) l := ⟨Below.setCells hl.1 _ hb _ _, fun x hx2 => sc_range (hlt x hx2) _ (hl.2 x hx2)⟩
  refine ⟨h1, h1.1, fun x hx2 => ?_⟩
  rcases List.mem_cons.1 hx2 with rfl | hx2
  · exact World.rangeAt_setCells_same _ _ _ _ (by rw [pfl_len s xs n hx]; exact hh.there (zs_length 16))
  · rcases List.mem_cons.1 hx2 with rfl | hx2
    · exact sc_range hne _ hg
    · exact h1.2 x hx2

noncomputable def KBK : Code := Tryd.f5.body.getD .skip
set_option maxRecDepth 100000 in
theorem frKBK {a : Act} (h : Fr 170 a) : ∃ f : Nat → Value, a = ⟨#[f 0, f 1, f 2, f 3, f 4, f 5, f 6, f 7, f 8, f 9, f 10, f 11, f 12, f 13, f 14, f 15, f 16, f 17, f 18, f 19, f 20, f 21, f 22, f 23, f 24, f 25, f 26, f 27, f 28, f 29, f 30, f 31, f 32, f 33, f 34, f 35, f 36, f 37, f 38, f 39, f 40, f 41, f 42, f 43, f 44, f 45, f 46, f 47, f 48, f 49, f 50, f 51, f 52, f 53, f 54, f 55, f 56, f 57, f 58, f 59, f 60, f 61, f 62, f 63, f 64, f 65, f 66, f 67, f 68, f 69, f 70, f 71, f 72, f 73, f 74, f 75, f 76, f 77, f 78, f 79, f 80, f 81, f 82, f 83, f 84, f 85, f 86, f 87, f 88, f 89, f 90, f 91, f 92, f 93, f 94, f 95, f 96, f 97, f 98, f 99, f 100, f 101, f 102, f 103, f 104, f 105, f 106, f 107, f 108, f 109, f 110, f 111, f 112, f 113, f 114, f 115, f 116, f 117, f 118, f 119, f 120, f 121, f 122, f 123, f 124, f 125, f 126, f 127, f 128, f 129, f 130, f 131, f 132, f 133, f 134, f 135, f 136, f 137, f 138, f 139, f 140, f 141, f 142, f 143, f 144, f 145, f 146, f 147, f 148, f 149, f 150, f 151, f 152, f 153, f 154, f 155, f 156, f 157, f 158, f 159, f 160, f 161, f 162, f 163, f 164, f 165, f 166, f 167, f 168, f 169], []⟩ ∧ ∀ i, f i = sl a i := fr_any h

set_option maxRecDepth 100000 in
set_option maxHeartbeats 4000000 in
theorem k0 (w : World) (s : Bool) (t : Bool) (xs : List Int) (ys : List Int) (m : Int) (n : Int) (a : Act) (hf : Fr 170 a) (h0 : sl a 0 = .agg (adl s xs).toArray) (h1 : sl a 1 = .agg (adl t ys).toArray) (h2 : sl a 2 = .int .i64 m) (h3 : sl a 3 = .int .i64 n) :
    Code.wp Tryd.prog (cAt [0] KBK) (Exit.then (fun a' w' => ∃ g4 : Nat, ∃ g5 : Nat, Fr 170 a' ∧ sl a' 2 = .int .i64 m ∧ sl a' 3 = .int .i64 n ∧ sl a' 4 = .pointer (some ⟨g4, 0, none⟩) ∧ sl a' 5 = .pointer (some ⟨g5, 0, none⟩) ∧ Hs w w' [(g4, adl s xs), (g5, adl t ys)]) Nope) a w := by
  obtain ⟨f, ha, hs⟩ := frKBK hf
  have e0 := (hs 0).trans h0
  have e1 := (hs 1).trans h1
  have e2 := (hs 2).trans h2
  have e3 := (hs 3).trans h3
  rw [e0, e1, e2, e3] at ha
  clear hs hf e0 h0 e1 h1 e2 h2 e3 h3
  subst ha
  refine piece2 fun J0 K0 hJ0 hK0 => ?_
  conv => arg 2; whnf
  have hr1 : Hid (World.rangeAt ((w.alloc (.cells (adl s xs).toArray 24)).alloc (.cells (adl t ys).toArray 24)) w.heap.size 0 (adl s xs)) := range_kept (bel1 _ _) (adl_range w s xs _)
  have hr2 : Hid (World.rangeAt ((w.alloc (.cells (adl s xs).toArray 24)).alloc (.cells (adl t ys).toArray 24)) (w.heap.size + 1) 0 (adl t ys)) := by
    show World.rangeAt _ _ _ _
    have := adl_range (w.alloc (.cells (adl s xs).toArray 24)) t ys 24
    simpa using this
  have hb : Hid (Below w.heap.size w ((w.alloc (.cells (adl s xs).toArray 24)).alloc (.cells (adl t ys).toArray 24))) := ((Below.refl _ _).alloc (Nat.le_refl _) _).alloc (by simp) _
  go_wp2_with fail
  refine Met.intro (hJ0 _ _ ?_)
  exact ⟨w.heap.size, (w.heap.size + 1), ⟨rfl, rfl⟩, rfl, rfl, rfl, rfl, ⟨hb.out, fun x hx => by simp only [List.mem_cons, List.not_mem_nil, or_false] at hx; rcases hx with rfl | rfl; exact hr1.out; exact hr2.out⟩⟩

set_option maxRecDepth 100000 in
set_option maxHeartbeats 4000000 in
theorem k1 (w : World) (s : Bool) (t : Bool) (xs : List Int) (ys : List Int) (m : Int) (n : Int) (HLX : Hid (xs.length = 16)) (HLY : Hid (ys.length = 16)) (HBX : Hid (Byt xs)) (HBY : Hid (Byt ys)) (w0 : World) (g4 : Nat) (g5 : Nat) (HM0 : Hid (Hs w w0 [(g4, adl s xs), (g5, adl t ys)])) (a : Act) (hf : Fr 170 a) (h2 : sl a 2 = .int .i64 m) (h3 : sl a 3 = .int .i64 n) (h4 : sl a 4 = .pointer (some ⟨g4, 0, none⟩)) (h5 : sl a 5 = .pointer (some ⟨g5, 0, none⟩)) :
    Code.wp Tryd.prog (cAt [1,0,0] KBK) (Exit.then (fun a' w' => Fr 170 a' ∧ sl a' 2 = .int .i64 m ∧ sl a' 3 = .int .i64 n ∧ sl a' 4 = .pointer (some ⟨g4, 0, none⟩) ∧ sl a' 5 = .pointer (some ⟨g5, 0, none⟩) ∧ sl a' 27 = .bool (!(rgt s xs && rgt t ys)) ∧ Hs w w' [(g4, adl s xs), (g5, adl t ys)]) Nope) a w0 := by
  obtain ⟨f, ha, hs⟩ := frKBK hf
  have e2 := (hs 2).trans h2
  have e3 := (hs 3).trans h3
  have e4 := (hs 4).trans h4
  have e5 := (hs 5).trans h5
  rw [e2, e3, e4, e5] at ha
  clear hs hf e2 h2 e3 h3 e4 h4 e5 h5
  subst ha
  refine piece2 fun J0 K0 hJ0 hK0 => ?_
  conv => arg 2; whnf
  go_wp2_with (refine ldA (.tmp 4) rfl rfl g4 0 rfl s xs HLX.out (by exact HM0.out.at_ g4 (adl s xs) (by simp)) ?_)
  refine (dAddr_any s xs _ HLX.out).mono ?_
  rintro e wa ⟨rfl, hb⟩
  have HMa := Lib.hid (HM0.out.past hb)
  clear hb
  go_wp2_with fail
  refine (r4Right_any s xs _ HLX.out).mono ?_
  rintro e wb ⟨rfl, hb⟩
  have HMy := Lib.hid (HMa.out.past hb)
  clear hb
  rw [rgR_rgt HLX.out HBX.out]
  obtain ⟨r1, hr1⟩ : ∃ r, rgt s xs = r := ⟨_, rfl⟩
  rw [hr1]
  cases r1
  · have HMz := HMy
    have HV : Hid ((!(rgt s xs && rgt t ys)) = true) := by show _ = _; rw [hr1]; rfl
    clear hr1
    go_wp2_with fail
    refine Met.intro (hJ0 _ _ ?_)
    exact ⟨⟨rfl, rfl⟩, rfl, rfl, rfl, rfl, (by rw [HV.out]; rfl), HMz.out⟩
  · go_wp2_with (refine ldAg (.tmp 5) rfl (by rfl) g5 0 rfl t ys HLY.out (by exact HMy.out.at_ g5 (adl t ys) (by simp)) ?_)
    refine (dAddr_any t ys _ HLY.out).mono ?_
    rintro e wa ⟨rfl, hb⟩
    have HMa := Lib.hid (HMy.out.past hb)
    clear hb
    go_wp2_with fail
    refine (r4Right_any t ys _ HLY.out).mono ?_
    rintro e wb ⟨rfl, hb⟩
    have HMz := Lib.hid (HMa.out.past hb)
    clear hb
    rw [rgR_rgt HLY.out HBY.out]
    obtain ⟨r2, hr2⟩ : ∃ r, rgt t ys = r := ⟨_, rfl⟩
    rw [hr2]
    have HV : Hid ((!(rgt s xs && rgt t ys)) = !r2) := by show _ = _; rw [hr1, hr2]; rfl
    clear hr1 hr2
    cases r2
    · go_wp2_with fail
      refine Met.intro (hJ0 _ _ ?_)
      exact ⟨⟨rfl, rfl⟩, rfl, rfl, rfl, rfl, (by rw [HV.out]; rfl), HMz.out⟩
    · go_wp2_with fail
      refine Met.intro (hJ0 _ _ ?_)
      exact ⟨⟨rfl, rfl⟩, rfl, rfl, rfl, rfl, (by rw [HV.out]; rfl), HMz.out⟩

set_option maxRecDepth 100000 in
set_option maxHeartbeats 4000000 in
theorem kw (w wr : World) (HG : Hid (Gl w)) (hb : Below w.heap.size w wr) (a : Act) (hf : Fr 170 a) :
    Code.wp Tryd.prog (cAt [1,0,1,3] KBK) (RetsV Tryd.f5 (YesB w)) a wr := by
  have HB := Lib.hid hb
  clear hb
  obtain ⟨f, ha, hs⟩ := frKBK hf
  clear hs hf 
  subst ha
  conv => arg 2; whnf
  go_wp2_with fail
  refine (l4works_any _ (HG.out.below HB.out)).mono ?_
  rintro e w1 ⟨rfl, hb1⟩
  have HF : Hid (Below w.heap.size w w1) := HB.out.trans (hb1.mono HB.out.size)
  clear hb1
  go_wp2_with fail
  refine ⟨rfl, rfl, .bool true, ?_, ⟨rfl, HF.out⟩⟩
  simp [results, Tryd.results5, go_sem]

set_option maxRecDepth 100000 in
set_option maxHeartbeats 4000000 in
theorem k3 (w : World) (s : Bool) (t : Bool) (xs : List Int) (ys : List Int) (m : Int) (n : Int) (HG : Hid (Gl w)) (HLX : Hid (xs.length = 16)) (HBX : Hid (Byt xs)) (g4 : Nat) (g5 : Nat) (w1 : World) (HM1 : Hid (Hs w w1 [(g4, adl s xs), (g5, adl t ys)])) (HRX : Hid (rgt s xs = true)) (a : Act) (hf : Fr 170 a) (h2 : sl a 2 = .int .i64 m) (h3 : sl a 3 = .int .i64 n) (h4 : sl a 4 = .pointer (some ⟨g4, 0, none⟩)) (h5 : sl a 5 = .pointer (some ⟨g5, 0, none⟩)) :
    Code.wp Tryd.prog (cAt [1,1,0] KBK) (Exit.then (fun a' w' => ∃ g9 : Nat, Fr 170 a' ∧ sl a' 2 = .int .i64 m ∧ sl a' 3 = .int .i64 n ∧ sl a' 4 = .pointer (some ⟨g4, 0, none⟩) ∧ sl a' 5 = .pointer (some ⟨g5, 0, none⟩) ∧ sl a' 9 = .pointer (some ⟨g9, 0, none⟩) ∧ sl a' 10 = .int .i64 0 ∧ Hs w w' [(g9, adl s xs), (g4, adl s xs), (g5, adl t ys)]) Nope) a w1 := by
  obtain ⟨f, ha, hs⟩ := frKBK hf
  have e2 := (hs 2).trans h2
  have e3 := (hs 3).trans h3
  have e4 := (hs 4).trans h4
  have e5 := (hs 5).trans h5
  rw [e2, e3, e4, e5] at ha
  clear hs hf e2 h2 e3 h3 e4 h4 e5 h5
  subst ha
  refine piece2 fun J0 K0 hJ0 hK0 => ?_
  conv => arg 2; whnf
  go_wp2_with (refine ldA (.tmp 4) rfl rfl g4 0 rfl s xs HLX.out (by exact HM1.out.at_ g4 (adl s xs) (by simp)) ?_)
  refine (aText_any s xs _ (HM1.out.gl HG.out) HLX.out HBX.out).mono ?_
  rintro e wa ⟨rfl, hb⟩
  have HMa := Lib.hid (HM1.out.past hb)
  clear hb
  go_wp2_with fail
  refine (par_yes (adO_txP HLX.out HBX.out HRX.out) _ (HMa.out.gl HG.out) (by have := txP_le s xs; omega)).mono ?_
  rintro e wb ⟨rfl, hb⟩
  have HMb := Lib.hid (HMa.out.past hb)
  clear hb
  go_wp2_with (refine stNA (fun w' => World.rangeAt w' wb.heap.size 0 (adl s xs) ∧ Below wb.heap.size wb w') (.tmp 9) (.tmp 33) rfl rfl wb.heap.size 0 s xs rfl rfl HLX.out (there_new _ _ _ _ rfl _ rfl) (fresh_a wb _ rfl s xs HLX.out) ?_; rintro wc ⟨hr, hb⟩)
  have HMc := Lib.hid (HMb.out.add hb hr)
  refine Met.intro (hJ0 _ _ ?_)
  exact ⟨wb.heap.size, ⟨rfl, rfl⟩, rfl, rfl, rfl, rfl, rfl, rfl, HMc.out⟩

set_option maxRecDepth 100000 in
set_option maxHeartbeats 4000000 in
theorem k4 (w : World) (s : Bool) (t : Bool) (xs : List Int) (ys : List Int) (m : Int) (n : Int) (HLX : Hid (xs.length = 16)) (HBX : Hid (Byt xs)) (g4 : Nat) (g5 : Nat) (HRX : Hid (rgt s xs = true)) (w3 : World) (g9 : Nat) (HM3 : Hid (Hs w w3 [(g9, adl s xs), (g4, adl s xs), (g5, adl t ys)])) (a : Act) (hf : Fr 170 a) (h2 : sl a 2 = .int .i64 m) (h3 : sl a 3 = .int .i64 n) (h4 : sl a 4 = .pointer (some ⟨g4, 0, none⟩)) (h5 : sl a 5 = .pointer (some ⟨g5, 0, none⟩)) (h9 : sl a 9 = .pointer (some ⟨g9, 0, none⟩)) (h10 : sl a 10 = .int .i64 0) :
    Code.wp Tryd.prog (cAt [1,1,1,0] KBK) (Exit.then (fun a' w' => ∃ g11 : Nat, Fr 170 a' ∧ sl a' 2 = .int .i64 m ∧ sl a' 3 = .int .i64 n ∧ sl a' 4 = .pointer (some ⟨g4, 0, none⟩) ∧ sl a' 5 = .pointer (some ⟨g5, 0, none⟩) ∧ sl a' 9 = .pointer (some ⟨g9, 0, none⟩) ∧ sl a' 10 = .int .i64 0 ∧ sl a' 11 = .pointer (some ⟨g11, 0, none⟩) ∧ sl a' 12 = .int .i64 0 ∧ Hs w w' [(g11, adl s xs), (g9, adl s xs), (g4, adl s xs), (g5, adl t ys)]) Nope) a w3 := by
  obtain ⟨f, ha, hs⟩ := frKBK hf
  have e2 := (hs 2).trans h2
  have e3 := (hs 3).trans h3
  have e4 := (hs 4).trans h4
  have e5 := (hs 5).trans h5
  have e9 := (hs 9).trans h9
  have e10 := (hs 10).trans h10
  rw [e2, e3, e4, e5, e9, e10] at ha
  clear hs hf e2 h2 e3 h3 e4 h4 e5 h5 e9 h9 e10 h10
  subst ha
  refine piece2 fun J0 K0 hJ0 hK0 => ?_
  conv => arg 2; whnf
  go_wp2_with (refine ldA (.tmp 4) rfl rfl g4 0 rfl s xs HLX.out (by exact HM3.out.at_ g4 (adl s xs) (by simp)) ?_)
  refine (aBytes_any s xs _ HLX.out).mono ?_
  rintro e wa ⟨a, l, cap, rfl, ho, hb⟩
  have HMa := Lib.hid (HM3.out.past hb)
  have HO := Lib.hid ho
  obtain ⟨q1, q2, q3⟩ := byA_eq HLX.out HBX.out HRX.out
  have HQ := Lib.hid (And.intro q1 (And.intro q2 q3))
  have hll := ho.len
  have HLL := Lib.hid hll
  have l16 : l ≤ 16 := by rw [← hll]; rcases q1 with h | h <;> omega
  clear hb ho q1 q2 q3 hll
  go_wp2_with fail
  refine (aFrom_any (byA s xs) a l cap _ HLL.out HO.out.rd (by omega)).mono ?_
  rintro e wb ⟨hb, hk⟩
  have hk2 := (hk.resolve_right (fun h => h.1 HQ.out.1)).2
  rw [HQ.out.2.1, HQ.out.2.2] at hk2
  subst hk2
  have HMb := Lib.hid (HMa.out.past hb)
  clear hb hk
  go_wp2_with (refine stNA (fun w' => World.rangeAt w' wb.heap.size 0 (adl s xs) ∧ Below wb.heap.size wb w') (.tmp 11) (.tmp 39) rfl rfl wb.heap.size 0 s xs rfl rfl HLX.out (there_new _ _ _ _ rfl _ rfl) (fresh_a wb _ rfl s xs HLX.out) ?_; rintro wc ⟨hr, hb⟩)
  have HMc := Lib.hid (HMb.out.add hb hr)
  refine Met.intro (hJ0 _ _ ?_)
  exact ⟨wb.heap.size, ⟨rfl, rfl⟩, rfl, rfl, rfl, rfl, rfl, rfl, rfl, rfl, HMc.out⟩

set_option maxRecDepth 100000 in
set_option maxHeartbeats 4000000 in
theorem k5 (w : World) (s : Bool) (t : Bool) (xs : List Int) (ys : List Int) (m : Int) (n : Int) (HG : Hid (Gl w)) (HLX : Hid (xs.length = 16)) (HLY : Hid (ys.length = 16)) (HBX : Hid (Byt xs)) (HBY : Hid (Byt ys)) (g4 : Nat) (g5 : Nat) (HRX : Hid (rgt s xs = true)) (HRY : Hid (rgt t ys = true)) (g9 : Nat) (w4 : World) (g11 : Nat) (HM4 : Hid (Hs w w4 [(g11, adl s xs), (g9, adl s xs), (g4, adl s xs), (g5, adl t ys)])) (b0 : Bool) (hb0 : Hid (decide (s = t ∧ xs = ys) = b0)) (a : Act) (hf : Fr 170 a) (h2 : sl a 2 = .int .i64 m) (h3 : sl a 3 = .int .i64 n) (h4 : sl a 4 = .pointer (some ⟨g4, 0, none⟩)) (h5 : sl a 5 = .pointer (some ⟨g5, 0, none⟩)) (h9 : sl a 9 = .pointer (some ⟨g9, 0, none⟩)) (h10 : sl a 10 = .int .i64 0) (h11 : sl a 11 = .pointer (some ⟨g11, 0, none⟩)) (h12 : sl a 12 = .int .i64 0) :
    Code.wp Tryd.prog (cAt [1,1,1,1,0,0] KBK) (Exit.then (fun a' w' => Fr 170 a' ∧ sl a' 2 = .int .i64 m ∧ sl a' 3 = .int .i64 n ∧ sl a' 4 = .pointer (some ⟨g4, 0, none⟩) ∧ sl a' 5 = .pointer (some ⟨g5, 0, none⟩) ∧ sl a' 77 = .bool false ∧ Hs w w' [(g11, adl s xs), (g9, adl s xs), (g4, adl s xs), (g5, adl t ys)]) Nope) a w4 := by
  obtain ⟨f, ha, hs⟩ := frKBK hf
  have e2 := (hs 2).trans h2
  have e3 := (hs 3).trans h3
  have e4 := (hs 4).trans h4
  have e5 := (hs 5).trans h5
  have e9 := (hs 9).trans h9
  have e10 := (hs 10).trans h10
  have e11 := (hs 11).trans h11
  have e12 := (hs 12).trans h12
  rw [e2, e3, e4, e5, e9, e10, e11, e12] at ha
  clear hs hf e2 h2 e3 h3 e4 h4 e5 h5 e9 h9 e10 h10 e11 h11 e12 h12
  subst ha
  refine piece2 fun J0 K0 hJ0 hK0 => ?_
  conv => arg 2; whnf
  have HTXE : Hid ((txP s xs == txP t ys) = b0) := by
    show _ = _
    have h := txP_inj HLX.out HBX.out HRX.out HLY.out HBY.out HRY.out
    rw [← hb0.out]
    cases hd : decide (s = t ∧ xs = ys)
    · have h2 : ¬ (txP s xs = txP t ys) := fun e => of_decide_eq_false hd (h.1 e)
      simpa using h2
    · have h2 : txP s xs = txP t ys := h.2 (of_decide_eq_true hd)
      simp [h2]
  have HCME : Hid ((cmpA s xs t ys == 0) = b0) := by
    show _ = _
    rw [← hb0.out]
    exact decide_eq_decide.2 (cmpA_zero HLX.out HLY.out)
  have HMd := Lib.hid HM4.out.drew
  refine wp_region_held_drew (S := fun w' => Hs w w' [(g11, adl s xs), (g9, adl s xs), (g4, adl s xs), (g5, adl t ys)]) (by kernel_rfl) HMd.out (fun hS => ?_)
  refine tk 0 41 (.agg (adl s xs).toArray) rfl rfl (by kernel_rfl) (by kernel_rfl) (by kernel_rfl) (fun _ _ _ h => h) (yieldsIf_load_mid (by rfl) _ _ rfl (g9) (0) rfl (adl s xs) _ (fun w' h' => h'.at_ g9 (adl s xs) (by simp)) Tryd.underlying24 rfl (by rw [adl_len s xs HLX.out]; exact infA)) hS ?_
  try simp only [Act.put, List.setIfInBounds_toArray, List.set_cons_zero, List.set_cons_succ]
  refine tk 1 42 (.agg (adl s xs).toArray) rfl rfl (by kernel_rfl) (by kernel_rfl) (by kernel_rfl) (fun _ _ _ h => h) (yieldsIf_load_mid (by rfl) _ _ rfl (g4) (0) rfl (adl s xs) _ (fun w' h' => h'.at_ g4 (adl s xs) (by simp)) Tryd.underlying24 rfl (by rw [adl_len s xs HLX.out]; exact infA)) hS ?_
  try simp only [Act.put, List.setIfInBounds_toArray, List.set_cons_zero, List.set_cons_succ]
  refine tk 2 43 (.bool false) rfl rfl (by kernel_rfl) (by kernel_rfl) (by kernel_rfl) (fun _ _ _ h => h) (Or.inl ⟨by rfl, fun w' h' => ?_⟩) hS ?_
  · have q : ∀ w', (Op.equalIn 10000 24 (.agg (adl s xs).toArray) (.agg (adl s xs).toArray)).run Tryd.prog w' = .ok true w' := fun w' => by rw [eqA w' 9997 _ _ _ _ HLX.out HLX.out, decide_eq_true (And.intro rfl rfl)]
    go_simp
  try simp only [Act.put, List.setIfInBounds_toArray, List.set_cons_zero, List.set_cons_succ]
  refine tk 3 44 (.bool false) rfl rfl (by kernel_rfl) (by kernel_rfl) (by kernel_rfl) (fun _ _ _ h => h) (Or.inl ⟨by rfl, fun w' h' => ?_⟩) hS ?_
  · go_simp
  try simp only [Act.put, List.setIfInBounds_toArray, List.set_cons_zero, List.set_cons_succ]
  refine tk 4 45 (.int .i64 0) rfl rfl (by kernel_rfl) (by kernel_rfl) (by kernel_rfl) (fun _ _ _ h => h) (Or.inl ⟨by rfl, fun w' h' => ?_⟩) hS ?_
  · go_simp
  try simp only [Act.put, List.setIfInBounds_toArray, List.set_cons_zero, List.set_cons_succ]
  refine tk 5 46 (.bool false) rfl rfl (by kernel_rfl) (by kernel_rfl) (by kernel_rfl) (fun _ _ _ h => h) (Or.inl ⟨by rfl, fun w' h' => ?_⟩) hS ?_
  · go_simp
  try simp only [Act.put, List.setIfInBounds_toArray, List.set_cons_zero, List.set_cons_succ]
  refine tk 6 47 (.bool false) rfl rfl (by kernel_rfl) (by kernel_rfl) (by kernel_rfl) (fun _ _ _ h => h) (Or.inl ⟨by rfl, fun w' h' => ?_⟩) hS ?_
  · go_simp
  try simp only [Act.put, List.setIfInBounds_toArray, List.set_cons_zero, List.set_cons_succ]
  refine tk 7 48 (.bool false) rfl rfl (by kernel_rfl) (by kernel_rfl) (by kernel_rfl) (fun _ _ _ h => h) (Or.inl ⟨by rfl, fun w' h' => ?_⟩) hS ?_
  · go_simp
  try simp only [Act.put, List.setIfInBounds_toArray, List.set_cons_zero, List.set_cons_succ]
  refine tk 8 49 (.agg (adl s xs).toArray) rfl rfl (by kernel_rfl) (by kernel_rfl) (by kernel_rfl) (fun _ _ _ h => h) (yieldsIf_load_mid (by rfl) _ _ rfl (g11) (0) rfl (adl s xs) _ (fun w' h' => h'.at_ g11 (adl s xs) (by simp)) Tryd.underlying24 rfl (by rw [adl_len s xs HLX.out]; exact infA)) hS ?_
  try simp only [Act.put, List.setIfInBounds_toArray, List.set_cons_zero, List.set_cons_succ]
  refine tk 9 50 (.agg (adl s xs).toArray) rfl rfl (by kernel_rfl) (by kernel_rfl) (by kernel_rfl) (fun _ _ _ h => h) (yieldsIf_load_mid (by rfl) _ _ rfl (g4) (0) rfl (adl s xs) _ (fun w' h' => h'.at_ g4 (adl s xs) (by simp)) Tryd.underlying24 rfl (by rw [adl_len s xs HLX.out]; exact infA)) hS ?_
  try simp only [Act.put, List.setIfInBounds_toArray, List.set_cons_zero, List.set_cons_succ]
  refine tk 10 51 (.bool false) rfl rfl (by kernel_rfl) (by kernel_rfl) (by kernel_rfl) (fun _ _ _ h => h) (Or.inl ⟨by rfl, fun w' h' => ?_⟩) hS ?_
  · have q : ∀ w', (Op.equalIn 10000 24 (.agg (adl s xs).toArray) (.agg (adl s xs).toArray)).run Tryd.prog w' = .ok true w' := fun w' => by rw [eqA w' 9997 _ _ _ _ HLX.out HLX.out, decide_eq_true (And.intro rfl rfl)]
    go_simp
  try simp only [Act.put, List.setIfInBounds_toArray, List.set_cons_zero, List.set_cons_succ]
  refine tk 11 52 (.bool false) rfl rfl (by kernel_rfl) (by kernel_rfl) (by kernel_rfl) (fun _ _ _ h => h) (Or.inl ⟨by rfl, fun w' h' => ?_⟩) hS ?_
  · go_simp
  try simp only [Act.put, List.setIfInBounds_toArray, List.set_cons_zero, List.set_cons_succ]
  refine tk 12 53 (.bool false) rfl rfl (by kernel_rfl) (by kernel_rfl) (by kernel_rfl) (fun _ _ _ h => h) (Or.inl ⟨by rfl, fun w' h' => ?_⟩) hS ?_
  · go_simp
  try simp only [Act.put, List.setIfInBounds_toArray, List.set_cons_zero, List.set_cons_succ]
  refine tk 13 54 (.int .i64 0) rfl rfl (by kernel_rfl) (by kernel_rfl) (by kernel_rfl) (fun _ _ _ h => h) (Or.inl ⟨by rfl, fun w' h' => ?_⟩) hS ?_
  · go_simp
  try simp only [Act.put, List.setIfInBounds_toArray, List.set_cons_zero, List.set_cons_succ]
  refine tk 14 55 (.bool false) rfl rfl (by kernel_rfl) (by kernel_rfl) (by kernel_rfl) (fun _ _ _ h => h) (Or.inl ⟨by rfl, fun w' h' => ?_⟩) hS ?_
  · go_simp
  try simp only [Act.put, List.setIfInBounds_toArray, List.set_cons_zero, List.set_cons_succ]
  refine tk 15 56 (.bool false) rfl rfl (by kernel_rfl) (by kernel_rfl) (by kernel_rfl) (fun _ _ _ h => h) (Or.inl ⟨by rfl, fun w' h' => ?_⟩) hS ?_
  · go_simp
  try simp only [Act.put, List.setIfInBounds_toArray, List.set_cons_zero, List.set_cons_succ]
  refine tk 16 57 (.bool false) rfl rfl (by kernel_rfl) (by kernel_rfl) (by kernel_rfl) (fun _ _ _ h => h) (Or.inl ⟨by rfl, fun w' h' => ?_⟩) hS ?_
  · go_simp
  try simp only [Act.put, List.setIfInBounds_toArray, List.set_cons_zero, List.set_cons_succ]
  refine tk 17 58 (.agg (adl s xs).toArray) rfl rfl (by kernel_rfl) (by kernel_rfl) (by kernel_rfl) (fun _ _ _ h => h) (yieldsIf_load_mid (by rfl) _ _ rfl (g4) (0) rfl (adl s xs) _ (fun w' h' => h'.at_ g4 (adl s xs) (by simp)) Tryd.underlying24 rfl (by rw [adl_len s xs HLX.out]; exact infA)) hS ?_
  try simp only [Act.put, List.setIfInBounds_toArray, List.set_cons_zero, List.set_cons_succ]
  refine tk 19 60 (.agg (adl t ys).toArray) rfl rfl (by kernel_rfl) (by kernel_rfl) (by kernel_rfl) (fun _ _ _ h => h) (yieldsIf_load_mid (by rfl) _ _ rfl (g5) (0) rfl (adl t ys) _ (fun w' h' => h'.at_ g5 (adl t ys) (by simp)) Tryd.underlying24 rfl (by rw [adl_len t ys HLY.out]; exact infA)) hS ?_
  try simp only [Act.put, List.setIfInBounds_toArray, List.set_cons_zero, List.set_cons_succ]
  refine tk 22 63 (.agg (adl s xs).toArray) rfl rfl (by kernel_rfl) (by kernel_rfl) (by kernel_rfl) (fun _ _ _ h => h) (yieldsIf_load_mid (by rfl) _ _ rfl (g4) (0) rfl (adl s xs) _ (fun w' h' => h'.at_ g4 (adl s xs) (by simp)) Tryd.underlying24 rfl (by rw [adl_len s xs HLX.out]; exact infA)) hS ?_
  try simp only [Act.put, List.setIfInBounds_toArray, List.set_cons_zero, List.set_cons_succ]
  refine tk 23 64 (.agg (adl t ys).toArray) rfl rfl (by kernel_rfl) (by kernel_rfl) (by kernel_rfl) (fun _ _ _ h => h) (yieldsIf_load_mid (by rfl) _ _ rfl (g5) (0) rfl (adl t ys) _ (fun w' h' => h'.at_ g5 (adl t ys) (by simp)) Tryd.underlying24 rfl (by rw [adl_len t ys HLY.out]; exact infA)) hS ?_
  try simp only [Act.put, List.setIfInBounds_toArray, List.set_cons_zero, List.set_cons_succ]
  refine tk 24 65 (.bool b0) rfl rfl (by kernel_rfl) (by kernel_rfl) (by kernel_rfl) (fun _ _ _ h => h) (Or.inl ⟨by rfl, fun w' h' => ?_⟩) hS ?_
  · have q : ∀ w', (Op.equalIn 10000 24 (.agg (adl s xs).toArray) (.agg (adl t ys).toArray)).run Tryd.prog w' = .ok b0 w' := fun w' => by rw [eqA w' 9997 _ _ _ _ HLX.out HLY.out, hb0.out]
    go_simp
  try simp only [Act.put, List.setIfInBounds_toArray, List.set_cons_zero, List.set_cons_succ]
  refine wpAnyH_ready (rs := [18]) (by kernel_rfl) (by simp) (AllReadyH.cons rfl (fun K hK => ?_) AllReadyH.nil)
  rw [if_pos (by rfl)]
  go_wp2_with fail
  refine (aText_any s xs _ (HMd.out.gl HG.out) HLX.out HBX.out).mono ?_
  rintro e we ⟨rfl, hb⟩
  have HMe := Lib.hid (HMd.out.past hb)
  clear hb
  clear hS
  refine hK.out _ _ (HMe.out) (fun hS => ?_)
  clear hK K
  try simp only [Act.put, List.setIfInBounds_toArray, List.set_cons_zero, List.set_cons_succ]
  refine wpAnyH_ready (rs := [20]) (by kernel_rfl) (by simp) (AllReadyH.cons rfl (fun K hK => ?_) AllReadyH.nil)
  rw [if_pos (by rfl)]
  go_wp2_with fail
  refine (aText_any t ys _ (HMe.out.gl HG.out) HLY.out HBY.out).mono ?_
  rintro e wf ⟨rfl, hb⟩
  have HMf := Lib.hid (HMe.out.past hb)
  clear hb
  clear hS
  refine hK.out _ _ (HMf.out) (fun hS => ?_)
  clear hK K
  try simp only [Act.put, List.setIfInBounds_toArray, List.set_cons_zero, List.set_cons_succ]
  refine tk 21 62 (.bool b0) rfl rfl (by kernel_rfl) (by kernel_rfl) (by kernel_rfl) (fun _ _ _ h => h) (Or.inl ⟨by rfl, fun w' h' => ?_⟩) hS ?_
  · have q := HTXE.out
    go_simp
  try simp only [Act.put, List.setIfInBounds_toArray, List.set_cons_zero, List.set_cons_succ]
  refine tk 25 66 (.bool false) rfl rfl (by kernel_rfl) (by kernel_rfl) (by kernel_rfl) (fun _ _ _ h => h) (Or.inl ⟨by rfl, fun w' h' => ?_⟩) hS ?_
  · go_simp
  try simp only [Act.put, List.setIfInBounds_toArray, List.set_cons_zero, List.set_cons_succ]
  refine tk 26 67 (.bool false) rfl rfl (by kernel_rfl) (by kernel_rfl) (by kernel_rfl) (fun _ _ _ h => h) (Or.inl ⟨by rfl, fun w' h' => ?_⟩) hS ?_
  · go_simp
  try simp only [Act.put, List.setIfInBounds_toArray, List.set_cons_zero, List.set_cons_succ]
  refine tk 27 68 (.bool false) rfl rfl (by kernel_rfl) (by kernel_rfl) (by kernel_rfl) (fun _ _ _ h => h) (Or.inl ⟨by rfl, fun w' h' => ?_⟩) hS ?_
  · go_simp
  try simp only [Act.put, List.setIfInBounds_toArray, List.set_cons_zero, List.set_cons_succ]
  refine tk 28 69 (.agg (adl s xs).toArray) rfl rfl (by kernel_rfl) (by kernel_rfl) (by kernel_rfl) (fun _ _ _ h => h) (yieldsIf_load_mid (by rfl) _ _ rfl (g4) (0) rfl (adl s xs) _ (fun w' h' => h'.at_ g4 (adl s xs) (by simp)) Tryd.underlying24 rfl (by rw [adl_len s xs HLX.out]; exact infA)) hS ?_
  try simp only [Act.put, List.setIfInBounds_toArray, List.set_cons_zero, List.set_cons_succ]
  refine tk 29 70 (.agg (adl t ys).toArray) rfl rfl (by kernel_rfl) (by kernel_rfl) (by kernel_rfl) (fun _ _ _ h => h) (yieldsIf_load_mid (by rfl) _ _ rfl (g5) (0) rfl (adl t ys) _ (fun w' h' => h'.at_ g5 (adl t ys) (by simp)) Tryd.underlying24 rfl (by rw [adl_len t ys HLY.out]; exact infA)) hS ?_
  try simp only [Act.put, List.setIfInBounds_toArray, List.set_cons_zero, List.set_cons_succ]
  refine tk 32 73 (.agg (adl s xs).toArray) rfl rfl (by kernel_rfl) (by kernel_rfl) (by kernel_rfl) (fun _ _ _ h => h) (yieldsIf_load_mid (by rfl) _ _ rfl (g4) (0) rfl (adl s xs) _ (fun w' h' => h'.at_ g4 (adl s xs) (by simp)) Tryd.underlying24 rfl (by rw [adl_len s xs HLX.out]; exact infA)) hS ?_
  try simp only [Act.put, List.setIfInBounds_toArray, List.set_cons_zero, List.set_cons_succ]
  refine tk 33 74 (.agg (adl t ys).toArray) rfl rfl (by kernel_rfl) (by kernel_rfl) (by kernel_rfl) (fun _ _ _ h => h) (yieldsIf_load_mid (by rfl) _ _ rfl (g5) (0) rfl (adl t ys) _ (fun w' h' => h'.at_ g5 (adl t ys) (by simp)) Tryd.underlying24 rfl (by rw [adl_len t ys HLY.out]; exact infA)) hS ?_
  try simp only [Act.put, List.setIfInBounds_toArray, List.set_cons_zero, List.set_cons_succ]
  refine tk 34 75 (.bool b0) rfl rfl (by kernel_rfl) (by kernel_rfl) (by kernel_rfl) (fun _ _ _ h => h) (Or.inl ⟨by rfl, fun w' h' => ?_⟩) hS ?_
  · have q : ∀ w', (Op.equalIn 10000 24 (.agg (adl s xs).toArray) (.agg (adl t ys).toArray)).run Tryd.prog w' = .ok b0 w' := fun w' => by rw [eqA w' 9997 _ _ _ _ HLX.out HLY.out, hb0.out]
    go_simp
  try simp only [Act.put, List.setIfInBounds_toArray, List.set_cons_zero, List.set_cons_succ]
  refine wpAnyH_ready (rs := [30]) (by kernel_rfl) (by simp) (AllReadyH.cons rfl (fun K hK => ?_) AllReadyH.nil)
  rw [if_pos (by rfl)]
  go_wp2_with fail
  refine (aCmp_any s xs t ys _ HLX.out HLY.out HBX.out HBY.out).mono ?_
  rintro e wg ⟨rfl, hb⟩
  have HMg := Lib.hid (HMf.out.past hb)
  clear hb
  clear hS
  refine hK.out _ _ (HMg.out) (fun hS => ?_)
  clear hK K
  try simp only [Act.put, List.setIfInBounds_toArray, List.set_cons_zero, List.set_cons_succ]
  refine tk 31 72 (.bool b0) rfl rfl (by kernel_rfl) (by kernel_rfl) (by kernel_rfl) (fun _ _ _ h => h) (Or.inl ⟨by rfl, fun w' h' => ?_⟩) hS ?_
  · have q := HCME.out
    go_simp
  try simp only [Act.put, List.setIfInBounds_toArray, List.set_cons_zero, List.set_cons_succ]
  refine tk 35 76 (.bool false) rfl rfl (by kernel_rfl) (by kernel_rfl) (by kernel_rfl) (fun _ _ _ h => h) (Or.inl ⟨by rfl, fun w' h' => ?_⟩) hS ?_
  · go_simp
  try simp only [Act.put, List.setIfInBounds_toArray, List.set_cons_zero, List.set_cons_succ]
  refine tk 36 77 (.bool false) rfl rfl (by kernel_rfl) (by kernel_rfl) (by kernel_rfl) (fun _ _ _ h => h) (Or.inl ⟨by rfl, fun w' h' => ?_⟩) hS ?_
  · go_simp
  refine wpAnyH_done (by kernel_rfl) ?_ _
  go_wp2_with fail
  refine Met.intro (hJ0 _ _ ?_)
  exact ⟨⟨rfl, rfl⟩, rfl, rfl, rfl, rfl, rfl, HMg.out⟩

set_option maxRecDepth 100000 in
set_option maxHeartbeats 4000000 in
theorem k7 (w : World) (s : Bool) (t : Bool) (xs : List Int) (ys : List Int) (m : Int) (n : Int) (HLX : Hid (xs.length = 16)) (HLY : Hid (ys.length = 16)) (HBX : Hid (Byt xs)) (HBY : Hid (Byt ys)) (g4 : Nat) (g5 : Nat) (w5 : World) (HM5b : Hid (Hs w w5 [(g4, adl s xs), (g5, adl t ys)])) (k1 : Int) (k2 : Int) (px : List Int) (qy : List Int) (HPL : Hid (px.length = 16)) (HQL : Hid (qy.length = 16)) (HCP : Hid (cutV s xs m = pfl s px k1)) (HCQ : Hid (cutV t ys n = pfl t qy k2)) (a : Act) (hf : Fr 170 a) (h2 : sl a 2 = .int .i64 m) (h3 : sl a 3 = .int .i64 n) (h4 : sl a 4 = .pointer (some ⟨g4, 0, none⟩)) (h5 : sl a 5 = .pointer (some ⟨g5, 0, none⟩)) :
    Code.wp Tryd.prog (cAt [1,1,1,1,1,0] KBK) (Exit.then (fun a' w' => ∃ g13 : Nat, ∃ g14 : Nat, Fr 170 a' ∧ sl a' 2 = .int .i64 m ∧ sl a' 3 = .int .i64 n ∧ sl a' 4 = .pointer (some ⟨g4, 0, none⟩) ∧ sl a' 5 = .pointer (some ⟨g5, 0, none⟩) ∧ sl a' 13 = .pointer (some ⟨g13, 0, none⟩) ∧ sl a' 14 = .pointer (some ⟨g14, 0, none⟩) ∧ Hs w w' [(g14, pfl t qy k2), (g13, pfl s px k1), (g4, adl s xs), (g5, adl t ys)]) Nope) a w5 := by
  obtain ⟨f, ha, hs⟩ := frKBK hf
  have e2 := (hs 2).trans h2
  have e3 := (hs 3).trans h3
  have e4 := (hs 4).trans h4
  have e5 := (hs 5).trans h5
  rw [e2, e3, e4, e5] at ha
  clear hs hf e2 h2 e3 h3 e4 h4 e5 h5
  subst ha
  refine piece2 fun J0 K0 hJ0 hK0 => ?_
  conv => arg 2; whnf
  have HMd := Lib.hid HM5b.out.drew
  have hq0 : Hid (w5.heap.size ≤ w5.drew.heap.size) := Nat.le_refl _
  have HLT : Hid (g4 < w5.heap.size ∧ g5 < w5.heap.size) := ⟨World.block_lt_of_cell? w5 ⟨g4, 0, none⟩ (adl_six (HM5b.out.at_ g4 (adl s xs) (by simp))), World.block_lt_of_cell? w5 ⟨g5, 0, none⟩ (adl_six (HM5b.out.at_ g5 (adl t ys) (by simp)))⟩
  refine wp_region_held_drew (S := fun w' => Hs w w' [(g4, adl s xs), (g5, adl t ys)]) (by kernel_rfl) HMd.out (fun hS => ?_)
  refine tk 0 78 (.agg (adl s xs).toArray) rfl rfl (by kernel_rfl) (by kernel_rfl) (by kernel_rfl) (fun _ _ _ h => h) (yieldsIf_load_mid (by rfl) _ _ rfl (g4) (0) rfl (adl s xs) _ (fun w' h' => h'.at_ g4 (adl s xs) (by simp)) Tryd.underlying24 rfl (by rw [adl_len s xs HLX.out]; exact infA)) hS ?_
  try simp only [Act.put, List.setIfInBounds_toArray, List.set_cons_zero, List.set_cons_succ]
  refine tk 1 79 (.int .i64 m) rfl rfl (by kernel_rfl) (by kernel_rfl) (by kernel_rfl) (fun _ _ _ h => h) (Or.inl ⟨by rfl, fun w' h' => ?_⟩) hS ?_
  · go_simp
  try simp only [Act.put, List.setIfInBounds_toArray, List.set_cons_zero, List.set_cons_succ]
  refine tk 3 81 (.agg (adl t ys).toArray) rfl rfl (by kernel_rfl) (by kernel_rfl) (by kernel_rfl) (fun _ _ _ h => h) (yieldsIf_load_mid (by rfl) _ _ rfl (g5) (0) rfl (adl t ys) _ (fun w' h' => h'.at_ g5 (adl t ys) (by simp)) Tryd.underlying24 rfl (by rw [adl_len t ys HLY.out]; exact infA)) hS ?_
  try simp only [Act.put, List.setIfInBounds_toArray, List.set_cons_zero, List.set_cons_succ]
  refine tk 4 82 (.int .i64 n) rfl rfl (by kernel_rfl) (by kernel_rfl) (by kernel_rfl) (fun _ _ _ h => h) (Or.inl ⟨by rfl, fun w' h' => ?_⟩) hS ?_
  · go_simp
  try simp only [Act.put, List.setIfInBounds_toArray, List.set_cons_zero, List.set_cons_succ]
  refine wpAnyH_ready (rs := [2, 6, 7]) (by kernel_rfl) (by simp) (AllReadyH.cons rfl (fun K hK => ?_) (AllReadyH.cons rfl (fun K hK => ?_) (AllReadyH.cons rfl (fun K hK => ?_) AllReadyH.nil)))
  · rw [if_pos (by rfl)]
    go_wp2_with fail
    refine (aCut_any s xs m _ HLX.out HBX.out).mono ?_
    rintro e x1 ⟨rfl, hb⟩
    rw [HCP.out]
    have HX1 := Lib.hid (HMd.out.past hb)
    have hq1 : Hid (w5.heap.size ≤ x1.heap.size) := Nat.le_trans hq0.out hb.size
    clear hb hS
    refine hK.out _ _ HX1.out (fun hS => ?_)
    clear hK K
    try simp only [Act.put, List.setIfInBounds_toArray, List.set_cons_zero, List.set_cons_succ]
    refine wpAnyH_ready (rs := [5, 6, 7]) (by kernel_rfl) (by simp) (AllReadyH.cons rfl (fun K hK => ?_) (AllReadyH.cons rfl (fun K hK => ?_) (AllReadyH.cons rfl (fun K hK => ?_) AllReadyH.nil)))
    · rw [if_pos (by rfl)]
      go_wp2_with fail
      refine (aCut_any t ys n _ HLY.out HBY.out).mono ?_
      rintro e x2 ⟨rfl, hb⟩
      rw [HCQ.out]
      have HX2 := Lib.hid (HX1.out.past hb)
      have hq2 : Hid (w5.heap.size ≤ x2.heap.size) := Nat.le_trans hq1.out hb.size
      clear hb hS
      refine hK.out _ _ HX2.out (fun hS => ?_)
      clear hK K
      try simp only [Act.put, List.setIfInBounds_toArray, List.set_cons_zero, List.set_cons_succ]
      refine wpAnyH_ready (rs := [6, 7]) (by kernel_rfl) (by simp) (AllReadyH.cons rfl (fun K hK => ?_) (AllReadyH.cons rfl (fun K hK => ?_) AllReadyH.nil))
      · rw [if_pos (by rfl)]
        go_wp2_with fail
        obtain ⟨x3, hx3⟩ : ∃ y, x2.alloc (.cells (pfl false (zs 16) 0).toArray 48) = y := ⟨_, rfl⟩
        have hb : Below x2.heap.size x2 x3 := by rw [← hx3]; exact bel1 _ _
        have hp6 : Hid (Pp x3 x2.heap.size false (zs 16) 0) := by rw [← hx3]; exact Pp.at_ rfl _ _ _
        have hz6 : Hid (x2.heap.size + 1 = x3.heap.size) := by rw [← hx3]; show _ = _; simp
        have hw6 : Hid (w.heap.size ≤ x2.heap.size) := HX2.out.1.size
        change K _ (x2.alloc (.cells (pfl false (zs 16) 0).toArray 48))
        rw [hx3]
        clear hx3
        have HX3 := Lib.hid (HX2.out.past hb)
        have hv6 : Hid (w5.heap.size ≤ x2.heap.size) := hq2.out
        have hq3 : Hid (w5.heap.size ≤ x3.heap.size) := Nat.le_trans hq2.out hb.size
        clear hb hS
        refine hK.out _ _ HX3.out (fun hS => ?_)
        clear hK K
        try simp only [Act.put, List.setIfInBounds_toArray, List.set_cons_zero, List.set_cons_succ]
        refine wpAnyH_ready (rs := [7]) (by kernel_rfl) (by simp) (AllReadyH.cons rfl (fun K hK => ?_) AllReadyH.nil)
        · rw [if_pos (by rfl)]
          go_wp2_with fail
          obtain ⟨x4, hx4⟩ : ∃ y, x3.alloc (.cells (pfl false (zs 16) 0).toArray 48) = y := ⟨_, rfl⟩
          have hb : Below x3.heap.size x3 x4 := by rw [← hx4]; exact bel1 _ _
          have hp7 : Hid (Pp x4 x3.heap.size false (zs 16) 0) := by rw [← hx4]; exact Pp.at_ rfl _ _ _
          have hz7 : Hid (x3.heap.size + 1 = x4.heap.size) := by rw [← hx4]; show _ = _; simp
          have hw7 : Hid (w.heap.size ≤ x3.heap.size) := HX3.out.1.size
          change K _ (x3.alloc (.cells (pfl false (zs 16) 0).toArray 48))
          rw [hx4]
          clear hx4
          have HX4 := Lib.hid (HX3.out.past hb)
          have hv7 : Hid (w5.heap.size ≤ x3.heap.size) := hq3.out
          replace hp6 := Lib.hid (hp6.out.below hb)
          have hy63 : Hid (x3.heap.size ≤ x4.heap.size) := hb.size
          have hq4 : Hid (w5.heap.size ≤ x4.heap.size) := Nat.le_trans hq3.out hb.size
          clear hb hS
          refine hK.out _ _ HX4.out (fun hS => ?_)
          clear hK K
          have hneq : x2.heap.size ≠ x3.heap.size := by
            have e1 := hz6.out
            omega
          try simp only [Act.put, List.setIfInBounds_toArray, List.set_cons_zero, List.set_cons_succ]
          refine wpAnyH_ready (rs := [8]) (by kernel_rfl) (by simp) (AllReadyH.cons rfl (fun K hK => ?_) AllReadyH.nil)
          rw [if_pos (by rfl)]
          refine wp_store_mid 48 (.tmp 13) (.tmp 80) rfl x2.heap.size 0 (pfl s px k1).toArray rfl rfl (by have h := hp6.out.there (zs_length 16); have e : (pfl s px k1).toArray.size = 18 := (by rw [List.size_toArray, pfl_len s px k1 HPL.out]); rw [e]; exact h) (by have e : (pfl s px k1).toArray.size = 18 := (by rw [List.size_toArray, pfl_len s px k1 HPL.out]); rw [e]; exact infP) (all_oneCell_toArray (pfl_one s px k1)) ?_
          have hf := two_store1 hneq hp6.out hp7.out hw6.out HX4.out s px k1 HPL.out (by intro x hx; simp only [List.mem_cons, List.not_mem_nil, or_false] at hx; have h1 := HLT.out; have h2 := hv6.out; rcases hx with rfl | rfl <;> (show _ ≠ _; omega))
          obtain ⟨wy, hwy⟩ : ∃ y, x4.setCells x2.heap.size 0 (pfl s px k1) = y := ⟨_, rfl⟩
          rw [hwy] at hf
          change K _ (x4.setCells x2.heap.size 0 (pfl s px k1))
          rw [hwy]
          clear hwy
          have HF := Lib.hid hf
          clear hf hS
          refine hK.out _ _ HF.out.1 (fun hS => ?_)
          clear hK K
          try simp only [Act.put, List.setIfInBounds_toArray]
          refine wpAnyH_ready (rs := [9]) (by kernel_rfl) (by simp) (AllReadyH.cons rfl (fun K hK => ?_) AllReadyH.nil)
          rw [if_pos (by rfl)]
          refine wp_store_mid 48 (.tmp 14) (.tmp 83) rfl x3.heap.size 0 (pfl t qy k2).toArray rfl rfl (by have h := HF.out.2.2.there (zs_length 16); have e : (pfl t qy k2).toArray.size = 18 := (by rw [List.size_toArray, pfl_len t qy k2 HQL.out]); rw [e]; exact h) (by have e : (pfl t qy k2).toArray.size = 18 := (by rw [List.size_toArray, pfl_len t qy k2 HQL.out]); rw [e]; exact infP) (all_oneCell_toArray (pfl_one t qy k2)) ?_
          have hf := two_store2 hneq HF.out.2.1 HF.out.2.2 hw7.out HF.out.1 t qy k2 HQL.out (by intro x hx; simp only [List.mem_cons, List.not_mem_nil, or_false] at hx; have h1 := HLT.out; have h2 := hv7.out; rcases hx with rfl | rfl <;> (show _ ≠ _; omega))
          obtain ⟨wz, hwz⟩ : ∃ y, wy.setCells x3.heap.size 0 (pfl t qy k2) = y := ⟨_, rfl⟩
          rw [hwz] at hf
          change K _ (wy.setCells x3.heap.size 0 (pfl t qy k2))
          rw [hwz]
          clear hwz
          have HE := Lib.hid hf
          clear hf hS
          refine hK.out _ _ HE.out.1 (fun hS => ?_)
          clear hK K
          try simp only [Act.put]
          refine wpAnyH_done (by kernel_rfl) ?_ _
          go_wp2_with fail
          refine Met.intro (hJ0 _ _ ?_)
          exact ⟨x2.heap.size, x3.heap.size, ⟨rfl, rfl⟩, rfl, rfl, rfl, rfl, rfl, rfl, HE.out.2⟩
      · rw [if_pos (by rfl)]
        go_wp2_with fail
        obtain ⟨x3, hx3⟩ : ∃ y, x2.alloc (.cells (pfl false (zs 16) 0).toArray 48) = y := ⟨_, rfl⟩
        have hb : Below x2.heap.size x2 x3 := by rw [← hx3]; exact bel1 _ _
        have hp7 : Hid (Pp x3 x2.heap.size false (zs 16) 0) := by rw [← hx3]; exact Pp.at_ rfl _ _ _
        have hz7 : Hid (x2.heap.size + 1 = x3.heap.size) := by rw [← hx3]; show _ = _; simp
        have hw7 : Hid (w.heap.size ≤ x2.heap.size) := HX2.out.1.size
        change K _ (x2.alloc (.cells (pfl false (zs 16) 0).toArray 48))
        rw [hx3]
        clear hx3
        have HX3 := Lib.hid (HX2.out.past hb)
        have hv7 : Hid (w5.heap.size ≤ x2.heap.size) := hq2.out
        have hq3 : Hid (w5.heap.size ≤ x3.heap.size) := Nat.le_trans hq2.out hb.size
        clear hb hS
        refine hK.out _ _ HX3.out (fun hS => ?_)
        clear hK K
        try simp only [Act.put, List.setIfInBounds_toArray, List.set_cons_zero, List.set_cons_succ]
        refine wpAnyH_ready (rs := [6]) (by kernel_rfl) (by simp) (AllReadyH.cons rfl (fun K hK => ?_) AllReadyH.nil)
        · rw [if_pos (by rfl)]
          go_wp2_with fail
          obtain ⟨x4, hx4⟩ : ∃ y, x3.alloc (.cells (pfl false (zs 16) 0).toArray 48) = y := ⟨_, rfl⟩
          have hb : Below x3.heap.size x3 x4 := by rw [← hx4]; exact bel1 _ _
          have hp6 : Hid (Pp x4 x3.heap.size false (zs 16) 0) := by rw [← hx4]; exact Pp.at_ rfl _ _ _
          have hz6 : Hid (x3.heap.size + 1 = x4.heap.size) := by rw [← hx4]; show _ = _; simp
          have hw6 : Hid (w.heap.size ≤ x3.heap.size) := HX3.out.1.size
          change K _ (x3.alloc (.cells (pfl false (zs 16) 0).toArray 48))
          rw [hx4]
          clear hx4
          have HX4 := Lib.hid (HX3.out.past hb)
          have hv6 : Hid (w5.heap.size ≤ x3.heap.size) := hq3.out
          replace hp7 := Lib.hid (hp7.out.below hb)
          have hy73 : Hid (x3.heap.size ≤ x4.heap.size) := hb.size
          have hq4 : Hid (w5.heap.size ≤ x4.heap.size) := Nat.le_trans hq3.out hb.size
          clear hb hS
          refine hK.out _ _ HX4.out (fun hS => ?_)
          clear hK K
          have hneq : x3.heap.size ≠ x2.heap.size := by
            have e1 := hz7.out
            omega
          try simp only [Act.put, List.setIfInBounds_toArray, List.set_cons_zero, List.set_cons_succ]
          refine wpAnyH_ready (rs := [8]) (by kernel_rfl) (by simp) (AllReadyH.cons rfl (fun K hK => ?_) AllReadyH.nil)
          rw [if_pos (by rfl)]
          refine wp_store_mid 48 (.tmp 13) (.tmp 80) rfl x3.heap.size 0 (pfl s px k1).toArray rfl rfl (by have h := hp6.out.there (zs_length 16); have e : (pfl s px k1).toArray.size = 18 := (by rw [List.size_toArray, pfl_len s px k1 HPL.out]); rw [e]; exact h) (by have e : (pfl s px k1).toArray.size = 18 := (by rw [List.size_toArray, pfl_len s px k1 HPL.out]); rw [e]; exact infP) (all_oneCell_toArray (pfl_one s px k1)) ?_
          have hf := two_store1 hneq hp6.out hp7.out hw6.out HX4.out s px k1 HPL.out (by intro x hx; simp only [List.mem_cons, List.not_mem_nil, or_false] at hx; have h1 := HLT.out; have h2 := hv6.out; rcases hx with rfl | rfl <;> (show _ ≠ _; omega))
          obtain ⟨wy, hwy⟩ : ∃ y, x4.setCells x3.heap.size 0 (pfl s px k1) = y := ⟨_, rfl⟩
          rw [hwy] at hf
          change K _ (x4.setCells x3.heap.size 0 (pfl s px k1))
          rw [hwy]
          clear hwy
          have HF := Lib.hid hf
          clear hf hS
          refine hK.out _ _ HF.out.1 (fun hS => ?_)
          clear hK K
          try simp only [Act.put, List.setIfInBounds_toArray]
          refine wpAnyH_ready (rs := [9]) (by kernel_rfl) (by simp) (AllReadyH.cons rfl (fun K hK => ?_) AllReadyH.nil)
          rw [if_pos (by rfl)]
          refine wp_store_mid 48 (.tmp 14) (.tmp 83) rfl x2.heap.size 0 (pfl t qy k2).toArray rfl rfl (by have h := HF.out.2.2.there (zs_length 16); have e : (pfl t qy k2).toArray.size = 18 := (by rw [List.size_toArray, pfl_len t qy k2 HQL.out]); rw [e]; exact h) (by have e : (pfl t qy k2).toArray.size = 18 := (by rw [List.size_toArray, pfl_len t qy k2 HQL.out]); rw [e]; exact infP) (all_oneCell_toArray (pfl_one t qy k2)) ?_
          have hf := two_store2 hneq HF.out.2.1 HF.out.2.2 hw7.out HF.out.1 t qy k2 HQL.out (by intro x hx; simp only [List.mem_cons, List.not_mem_nil, or_false] at hx; have h1 := HLT.out; have h2 := hv7.out; rcases hx with rfl | rfl <;> (show _ ≠ _; omega))
          obtain ⟨wz, hwz⟩ : ∃ y, wy.setCells x2.heap.size 0 (pfl t qy k2) = y := ⟨_, rfl⟩
          rw [hwz] at hf
          change K _ (wy.setCells x2.heap.size 0 (pfl t qy k2))
          rw [hwz]
          clear hwz
          have HE := Lib.hid hf
          clear hf hS
          refine hK.out _ _ HE.out.1 (fun hS => ?_)
          clear hK K
          try simp only [Act.put]
          refine wpAnyH_done (by kernel_rfl) ?_ _
          go_wp2_with fail
          refine Met.intro (hJ0 _ _ ?_)
          exact ⟨x3.heap.size, x2.heap.size, ⟨rfl, rfl⟩, rfl, rfl, rfl, rfl, rfl, rfl, HE.out.2⟩
    · rw [if_pos (by rfl)]
      go_wp2_with fail
      obtain ⟨x2, hx2⟩ : ∃ y, x1.alloc (.cells (pfl false (zs 16) 0).toArray 48) = y := ⟨_, rfl⟩
      have hb : Below x1.heap.size x1 x2 := by rw [← hx2]; exact bel1 _ _
      have hp6 : Hid (Pp x2 x1.heap.size false (zs 16) 0) := by rw [← hx2]; exact Pp.at_ rfl _ _ _
      have hz6 : Hid (x1.heap.size + 1 = x2.heap.size) := by rw [← hx2]; show _ = _; simp
      have hw6 : Hid (w.heap.size ≤ x1.heap.size) := HX1.out.1.size
      change K _ (x1.alloc (.cells (pfl false (zs 16) 0).toArray 48))
      rw [hx2]
      clear hx2
      have HX2 := Lib.hid (HX1.out.past hb)
      have hv6 : Hid (w5.heap.size ≤ x1.heap.size) := hq1.out
      have hq2 : Hid (w5.heap.size ≤ x2.heap.size) := Nat.le_trans hq1.out hb.size
      clear hb hS
      refine hK.out _ _ HX2.out (fun hS => ?_)
      clear hK K
      try simp only [Act.put, List.setIfInBounds_toArray, List.set_cons_zero, List.set_cons_succ]
      refine wpAnyH_ready (rs := [5, 7]) (by kernel_rfl) (by simp) (AllReadyH.cons rfl (fun K hK => ?_) (AllReadyH.cons rfl (fun K hK => ?_) AllReadyH.nil))
      · rw [if_pos (by rfl)]
        go_wp2_with fail
        refine (aCut_any t ys n _ HLY.out HBY.out).mono ?_
        rintro e x3 ⟨rfl, hb⟩
        rw [HCQ.out]
        have HX3 := Lib.hid (HX2.out.past hb)
        replace hp6 := Lib.hid (hp6.out.below hb)
        have hy62 : Hid (x2.heap.size ≤ x3.heap.size) := hb.size
        have hq3 : Hid (w5.heap.size ≤ x3.heap.size) := Nat.le_trans hq2.out hb.size
        clear hb hS
        refine hK.out _ _ HX3.out (fun hS => ?_)
        clear hK K
        try simp only [Act.put, List.setIfInBounds_toArray, List.set_cons_zero, List.set_cons_succ]
        refine wpAnyH_ready (rs := [7]) (by kernel_rfl) (by simp) (AllReadyH.cons rfl (fun K hK => ?_) AllReadyH.nil)
        · rw [if_pos (by rfl)]
          go_wp2_with fail
          obtain ⟨x4, hx4⟩ : ∃ y, x3.alloc (.cells (pfl false (zs 16) 0).toArray 48) = y := ⟨_, rfl⟩
          have hb : Below x3.heap.size x3 x4 := by rw [← hx4]; exact bel1 _ _
          have hp7 : Hid (Pp x4 x3.heap.size false (zs 16) 0) := by rw [← hx4]; exact Pp.at_ rfl _ _ _
          have hz7 : Hid (x3.heap.size + 1 = x4.heap.size) := by rw [← hx4]; show _ = _; simp
          have hw7 : Hid (w.heap.size ≤ x3.heap.size) := HX3.out.1.size
          change K _ (x3.alloc (.cells (pfl false (zs 16) 0).toArray 48))
          rw [hx4]
          clear hx4
          have HX4 := Lib.hid (HX3.out.past hb)
          have hv7 : Hid (w5.heap.size ≤ x3.heap.size) := hq3.out
          replace hp6 := Lib.hid (hp6.out.below hb)
          have hy63 : Hid (x3.heap.size ≤ x4.heap.size) := hb.size
          have hq4 : Hid (w5.heap.size ≤ x4.heap.size) := Nat.le_trans hq3.out hb.size
          clear hb hS
          refine hK.out _ _ HX4.out (fun hS => ?_)
          clear hK K
          have hneq : x1.heap.size ≠ x3.heap.size := by
            have e1 := hz6.out
            have e2 := hy62.out
            omega
          try simp only [Act.put, List.setIfInBounds_toArray, List.set_cons_zero, List.set_cons_succ]
          refine wpAnyH_ready (rs := [8]) (by kernel_rfl) (by simp) (AllReadyH.cons rfl (fun K hK => ?_) AllReadyH.nil)
          rw [if_pos (by rfl)]
          refine wp_store_mid 48 (.tmp 13) (.tmp 80) rfl x1.heap.size 0 (pfl s px k1).toArray rfl rfl (by have h := hp6.out.there (zs_length 16); have e : (pfl s px k1).toArray.size = 18 := (by rw [List.size_toArray, pfl_len s px k1 HPL.out]); rw [e]; exact h) (by have e : (pfl s px k1).toArray.size = 18 := (by rw [List.size_toArray, pfl_len s px k1 HPL.out]); rw [e]; exact infP) (all_oneCell_toArray (pfl_one s px k1)) ?_
          have hf := two_store1 hneq hp6.out hp7.out hw6.out HX4.out s px k1 HPL.out (by intro x hx; simp only [List.mem_cons, List.not_mem_nil, or_false] at hx; have h1 := HLT.out; have h2 := hv6.out; rcases hx with rfl | rfl <;> (show _ ≠ _; omega))
          obtain ⟨wy, hwy⟩ : ∃ y, x4.setCells x1.heap.size 0 (pfl s px k1) = y := ⟨_, rfl⟩
          rw [hwy] at hf
          change K _ (x4.setCells x1.heap.size 0 (pfl s px k1))
          rw [hwy]
          clear hwy
          have HF := Lib.hid hf
          clear hf hS
          refine hK.out _ _ HF.out.1 (fun hS => ?_)
          clear hK K
          try simp only [Act.put, List.setIfInBounds_toArray]
          refine wpAnyH_ready (rs := [9]) (by kernel_rfl) (by simp) (AllReadyH.cons rfl (fun K hK => ?_) AllReadyH.nil)
          rw [if_pos (by rfl)]
          refine wp_store_mid 48 (.tmp 14) (.tmp 83) rfl x3.heap.size 0 (pfl t qy k2).toArray rfl rfl (by have h := HF.out.2.2.there (zs_length 16); have e : (pfl t qy k2).toArray.size = 18 := (by rw [List.size_toArray, pfl_len t qy k2 HQL.out]); rw [e]; exact h) (by have e : (pfl t qy k2).toArray.size = 18 := (by rw [List.size_toArray, pfl_len t qy k2 HQL.out]); rw [e]; exact infP) (all_oneCell_toArray (pfl_one t qy k2)) ?_
          have hf := two_store2 hneq HF.out.2.1 HF.out.2.2 hw7.out HF.out.1 t qy k2 HQL.out (by intro x hx; simp only [List.mem_cons, List.not_mem_nil, or_false] at hx; have h1 := HLT.out; have h2 := hv7.out; rcases hx with rfl | rfl <;> (show _ ≠ _; omega))
          obtain ⟨wz, hwz⟩ : ∃ y, wy.setCells x3.heap.size 0 (pfl t qy k2) = y := ⟨_, rfl⟩
          rw [hwz] at hf
          change K _ (wy.setCells x3.heap.size 0 (pfl t qy k2))
          rw [hwz]
          clear hwz
          have HE := Lib.hid hf
          clear hf hS
          refine hK.out _ _ HE.out.1 (fun hS => ?_)
          clear hK K
          try simp only [Act.put]
          refine wpAnyH_done (by kernel_rfl) ?_ _
          go_wp2_with fail
          refine Met.intro (hJ0 _ _ ?_)
          exact ⟨x1.heap.size, x3.heap.size, ⟨rfl, rfl⟩, rfl, rfl, rfl, rfl, rfl, rfl, HE.out.2⟩
      · rw [if_pos (by rfl)]
        go_wp2_with fail
        obtain ⟨x3, hx3⟩ : ∃ y, x2.alloc (.cells (pfl false (zs 16) 0).toArray 48) = y := ⟨_, rfl⟩
        have hb : Below x2.heap.size x2 x3 := by rw [← hx3]; exact bel1 _ _
        have hp7 : Hid (Pp x3 x2.heap.size false (zs 16) 0) := by rw [← hx3]; exact Pp.at_ rfl _ _ _
        have hz7 : Hid (x2.heap.size + 1 = x3.heap.size) := by rw [← hx3]; show _ = _; simp
        have hw7 : Hid (w.heap.size ≤ x2.heap.size) := HX2.out.1.size
        change K _ (x2.alloc (.cells (pfl false (zs 16) 0).toArray 48))
        rw [hx3]
        clear hx3
        have HX3 := Lib.hid (HX2.out.past hb)
        have hv7 : Hid (w5.heap.size ≤ x2.heap.size) := hq2.out
        replace hp6 := Lib.hid (hp6.out.below hb)
        have hy62 : Hid (x2.heap.size ≤ x3.heap.size) := hb.size
        have hq3 : Hid (w5.heap.size ≤ x3.heap.size) := Nat.le_trans hq2.out hb.size
        clear hb hS
        refine hK.out _ _ HX3.out (fun hS => ?_)
        clear hK K
        try simp only [Act.put, List.setIfInBounds_toArray, List.set_cons_zero, List.set_cons_succ]
        refine wpAnyH_ready (rs := [5]) (by kernel_rfl) (by simp) (AllReadyH.cons rfl (fun K hK => ?_) AllReadyH.nil)
        · rw [if_pos (by rfl)]
          go_wp2_with fail
          refine (aCut_any t ys n _ HLY.out HBY.out).mono ?_
          rintro e x4 ⟨rfl, hb⟩
          rw [HCQ.out]
          have HX4 := Lib.hid (HX3.out.past hb)
          replace hp6 := Lib.hid (hp6.out.below hb)
          have hy63 : Hid (x3.heap.size ≤ x4.heap.size) := hb.size
          replace hp7 := Lib.hid (hp7.out.below hb)
          have hy73 : Hid (x3.heap.size ≤ x4.heap.size) := hb.size
          have hq4 : Hid (w5.heap.size ≤ x4.heap.size) := Nat.le_trans hq3.out hb.size
          clear hb hS
          refine hK.out _ _ HX4.out (fun hS => ?_)
          clear hK K
          have hneq : x1.heap.size ≠ x2.heap.size := by
            have e1 := hz6.out
            omega
          try simp only [Act.put, List.setIfInBounds_toArray, List.set_cons_zero, List.set_cons_succ]
          refine wpAnyH_ready (rs := [8]) (by kernel_rfl) (by simp) (AllReadyH.cons rfl (fun K hK => ?_) AllReadyH.nil)
          rw [if_pos (by rfl)]
          refine wp_store_mid 48 (.tmp 13) (.tmp 80) rfl x1.heap.size 0 (pfl s px k1).toArray rfl rfl (by have h := hp6.out.there (zs_length 16); have e : (pfl s px k1).toArray.size = 18 := (by rw [List.size_toArray, pfl_len s px k1 HPL.out]); rw [e]; exact h) (by have e : (pfl s px k1).toArray.size = 18 := (by rw [List.size_toArray, pfl_len s px k1 HPL.out]); rw [e]; exact infP) (all_oneCell_toArray (pfl_one s px k1)) ?_
          have hf := two_store1 hneq hp6.out hp7.out hw6.out HX4.out s px k1 HPL.out (by intro x hx; simp only [List.mem_cons, List.not_mem_nil, or_false] at hx; have h1 := HLT.out; have h2 := hv6.out; rcases hx with rfl | rfl <;> (show _ ≠ _; omega))
          obtain ⟨wy, hwy⟩ : ∃ y, x4.setCells x1.heap.size 0 (pfl s px k1) = y := ⟨_, rfl⟩
          rw [hwy] at hf
          change K _ (x4.setCells x1.heap.size 0 (pfl s px k1))
          rw [hwy]
          clear hwy
          have HF := Lib.hid hf
          clear hf hS
          refine hK.out _ _ HF.out.1 (fun hS => ?_)
          clear hK K
          try simp only [Act.put, List.setIfInBounds_toArray]
          refine wpAnyH_ready (rs := [9]) (by kernel_rfl) (by simp) (AllReadyH.cons rfl (fun K hK => ?_) AllReadyH.nil)
          rw [if_pos (by rfl)]
          refine wp_store_mid 48 (.tmp 14) (.tmp 83) rfl x2.heap.size 0 (pfl t qy k2).toArray rfl rfl (by have h := HF.out.2.2.there (zs_length 16); have e : (pfl t qy k2).toArray.size = 18 := (by rw [List.size_toArray, pfl_len t qy k2 HQL.out]); rw [e]; exact h) (by have e : (pfl t qy k2).toArray.size = 18 := (by rw [List.size_toArray, pfl_len t qy k2 HQL.out]); rw [e]; exact infP) (all_oneCell_toArray (pfl_one t qy k2)) ?_
          have hf := two_store2 hneq HF.out.2.1 HF.out.2.2 hw7.out HF.out.1 t qy k2 HQL.out (by intro x hx; simp only [List.mem_cons, List.not_mem_nil, or_false] at hx; have h1 := HLT.out; have h2 := hv7.out; rcases hx with rfl | rfl <;> (show _ ≠ _; omega))
          obtain ⟨wz, hwz⟩ : ∃ y, wy.setCells x2.heap.size 0 (pfl t qy k2) = y := ⟨_, rfl⟩
          rw [hwz] at hf
          change K _ (wy.setCells x2.heap.size 0 (pfl t qy k2))
          rw [hwz]
          clear hwz
          have HE := Lib.hid hf
          clear hf hS
          refine hK.out _ _ HE.out.1 (fun hS => ?_)
          clear hK K
          try simp only [Act.put]
          refine wpAnyH_done (by kernel_rfl) ?_ _
          go_wp2_with fail
          refine Met.intro (hJ0 _ _ ?_)
          exact ⟨x1.heap.size, x2.heap.size, ⟨rfl, rfl⟩, rfl, rfl, rfl, rfl, rfl, rfl, HE.out.2⟩
    · rw [if_pos (by rfl)]
      go_wp2_with fail
      obtain ⟨x2, hx2⟩ : ∃ y, x1.alloc (.cells (pfl false (zs 16) 0).toArray 48) = y := ⟨_, rfl⟩
      have hb : Below x1.heap.size x1 x2 := by rw [← hx2]; exact bel1 _ _
      have hp7 : Hid (Pp x2 x1.heap.size false (zs 16) 0) := by rw [← hx2]; exact Pp.at_ rfl _ _ _
      have hz7 : Hid (x1.heap.size + 1 = x2.heap.size) := by rw [← hx2]; show _ = _; simp
      have hw7 : Hid (w.heap.size ≤ x1.heap.size) := HX1.out.1.size
      change K _ (x1.alloc (.cells (pfl false (zs 16) 0).toArray 48))
      rw [hx2]
      clear hx2
      have HX2 := Lib.hid (HX1.out.past hb)
      have hv7 : Hid (w5.heap.size ≤ x1.heap.size) := hq1.out
      have hq2 : Hid (w5.heap.size ≤ x2.heap.size) := Nat.le_trans hq1.out hb.size
      clear hb hS
      refine hK.out _ _ HX2.out (fun hS => ?_)
      clear hK K
      try simp only [Act.put, List.setIfInBounds_toArray, List.set_cons_zero, List.set_cons_succ]
      refine wpAnyH_ready (rs := [5, 6]) (by kernel_rfl) (by simp) (AllReadyH.cons rfl (fun K hK => ?_) (AllReadyH.cons rfl (fun K hK => ?_) AllReadyH.nil))
      · rw [if_pos (by rfl)]
        go_wp2_with fail
        refine (aCut_any t ys n _ HLY.out HBY.out).mono ?_
        rintro e x3 ⟨rfl, hb⟩
        rw [HCQ.out]
        have HX3 := Lib.hid (HX2.out.past hb)
        replace hp7 := Lib.hid (hp7.out.below hb)
        have hy72 : Hid (x2.heap.size ≤ x3.heap.size) := hb.size
        have hq3 : Hid (w5.heap.size ≤ x3.heap.size) := Nat.le_trans hq2.out hb.size
        clear hb hS
        refine hK.out _ _ HX3.out (fun hS => ?_)
        clear hK K
        try simp only [Act.put, List.setIfInBounds_toArray, List.set_cons_zero, List.set_cons_succ]
        refine wpAnyH_ready (rs := [6]) (by kernel_rfl) (by simp) (AllReadyH.cons rfl (fun K hK => ?_) AllReadyH.nil)
        · rw [if_pos (by rfl)]
          go_wp2_with fail
          obtain ⟨x4, hx4⟩ : ∃ y, x3.alloc (.cells (pfl false (zs 16) 0).toArray 48) = y := ⟨_, rfl⟩
          have hb : Below x3.heap.size x3 x4 := by rw [← hx4]; exact bel1 _ _
          have hp6 : Hid (Pp x4 x3.heap.size false (zs 16) 0) := by rw [← hx4]; exact Pp.at_ rfl _ _ _
          have hz6 : Hid (x3.heap.size + 1 = x4.heap.size) := by rw [← hx4]; show _ = _; simp
          have hw6 : Hid (w.heap.size ≤ x3.heap.size) := HX3.out.1.size
          change K _ (x3.alloc (.cells (pfl false (zs 16) 0).toArray 48))
          rw [hx4]
          clear hx4
          have HX4 := Lib.hid (HX3.out.past hb)
          have hv6 : Hid (w5.heap.size ≤ x3.heap.size) := hq3.out
          replace hp7 := Lib.hid (hp7.out.below hb)
          have hy73 : Hid (x3.heap.size ≤ x4.heap.size) := hb.size
          have hq4 : Hid (w5.heap.size ≤ x4.heap.size) := Nat.le_trans hq3.out hb.size
          clear hb hS
          refine hK.out _ _ HX4.out (fun hS => ?_)
          clear hK K
          have hneq : x3.heap.size ≠ x1.heap.size := by
            have e1 := hz7.out
            have e2 := hy72.out
            omega
          try simp only [Act.put, List.setIfInBounds_toArray, List.set_cons_zero, List.set_cons_succ]
          refine wpAnyH_ready (rs := [8]) (by kernel_rfl) (by simp) (AllReadyH.cons rfl (fun K hK => ?_) AllReadyH.nil)
          rw [if_pos (by rfl)]
          refine wp_store_mid 48 (.tmp 13) (.tmp 80) rfl x3.heap.size 0 (pfl s px k1).toArray rfl rfl (by have h := hp6.out.there (zs_length 16); have e : (pfl s px k1).toArray.size = 18 := (by rw [List.size_toArray, pfl_len s px k1 HPL.out]); rw [e]; exact h) (by have e : (pfl s px k1).toArray.size = 18 := (by rw [List.size_toArray, pfl_len s px k1 HPL.out]); rw [e]; exact infP) (all_oneCell_toArray (pfl_one s px k1)) ?_
          have hf := two_store1 hneq hp6.out hp7.out hw6.out HX4.out s px k1 HPL.out (by intro x hx; simp only [List.mem_cons, List.not_mem_nil, or_false] at hx; have h1 := HLT.out; have h2 := hv6.out; rcases hx with rfl | rfl <;> (show _ ≠ _; omega))
          obtain ⟨wy, hwy⟩ : ∃ y, x4.setCells x3.heap.size 0 (pfl s px k1) = y := ⟨_, rfl⟩
          rw [hwy] at hf
          change K _ (x4.setCells x3.heap.size 0 (pfl s px k1))
          rw [hwy]
          clear hwy
          have HF := Lib.hid hf
          clear hf hS
          refine hK.out _ _ HF.out.1 (fun hS => ?_)
          clear hK K
          try simp only [Act.put, List.setIfInBounds_toArray]
          refine wpAnyH_ready (rs := [9]) (by kernel_rfl) (by simp) (AllReadyH.cons rfl (fun K hK => ?_) AllReadyH.nil)
          rw [if_pos (by rfl)]
          refine wp_store_mid 48 (.tmp 14) (.tmp 83) rfl x1.heap.size 0 (pfl t qy k2).toArray rfl rfl (by have h := HF.out.2.2.there (zs_length 16); have e : (pfl t qy k2).toArray.size = 18 := (by rw [List.size_toArray, pfl_len t qy k2 HQL.out]); rw [e]; exact h) (by have e : (pfl t qy k2).toArray.size = 18 := (by rw [List.size_toArray, pfl_len t qy k2 HQL.out]); rw [e]; exact infP) (all_oneCell_toArray (pfl_one t qy k2)) ?_
          have hf := two_store2 hneq HF.out.2.1 HF.out.2.2 hw7.out HF.out.1 t qy k2 HQL.out (by intro x hx; simp only [List.mem_cons, List.not_mem_nil, or_false] at hx; have h1 := HLT.out; have h2 := hv7.out; rcases hx with rfl | rfl <;> (show _ ≠ _; omega))
          obtain ⟨wz, hwz⟩ : ∃ y, wy.setCells x1.heap.size 0 (pfl t qy k2) = y := ⟨_, rfl⟩
          rw [hwz] at hf
          change K _ (wy.setCells x1.heap.size 0 (pfl t qy k2))
          rw [hwz]
          clear hwz
          have HE := Lib.hid hf
          clear hf hS
          refine hK.out _ _ HE.out.1 (fun hS => ?_)
          clear hK K
          try simp only [Act.put]
          refine wpAnyH_done (by kernel_rfl) ?_ _
          go_wp2_with fail
          refine Met.intro (hJ0 _ _ ?_)
          exact ⟨x3.heap.size, x1.heap.size, ⟨rfl, rfl⟩, rfl, rfl, rfl, rfl, rfl, rfl, HE.out.2⟩
      · rw [if_pos (by rfl)]
        go_wp2_with fail
        obtain ⟨x3, hx3⟩ : ∃ y, x2.alloc (.cells (pfl false (zs 16) 0).toArray 48) = y := ⟨_, rfl⟩
        have hb : Below x2.heap.size x2 x3 := by rw [← hx3]; exact bel1 _ _
        have hp6 : Hid (Pp x3 x2.heap.size false (zs 16) 0) := by rw [← hx3]; exact Pp.at_ rfl _ _ _
        have hz6 : Hid (x2.heap.size + 1 = x3.heap.size) := by rw [← hx3]; show _ = _; simp
        have hw6 : Hid (w.heap.size ≤ x2.heap.size) := HX2.out.1.size
        change K _ (x2.alloc (.cells (pfl false (zs 16) 0).toArray 48))
        rw [hx3]
        clear hx3
        have HX3 := Lib.hid (HX2.out.past hb)
        have hv6 : Hid (w5.heap.size ≤ x2.heap.size) := hq2.out
        replace hp7 := Lib.hid (hp7.out.below hb)
        have hy72 : Hid (x2.heap.size ≤ x3.heap.size) := hb.size
        have hq3 : Hid (w5.heap.size ≤ x3.heap.size) := Nat.le_trans hq2.out hb.size
        clear hb hS
        refine hK.out _ _ HX3.out (fun hS => ?_)
        clear hK K
        try simp only [Act.put, List.setIfInBounds_toArray, List.set_cons_zero, List.set_cons_succ]
        refine wpAnyH_ready (rs := [5]) (by kernel_rfl) (by simp) (AllReadyH.cons rfl (fun K hK => ?_) AllReadyH.nil)
        · rw [if_pos (by rfl)]
          go_wp2_with fail
          refine (aCut_any t ys n _ HLY.out HBY.out).mono ?_
          rintro e x4 ⟨rfl, hb⟩
          rw [HCQ.out]
          have HX4 := Lib.hid (HX3.out.past hb)
          replace hp7 := Lib.hid (hp7.out.below hb)
          have hy73 : Hid (x3.heap.size ≤ x4.heap.size) := hb.size
          replace hp6 := Lib.hid (hp6.out.below hb)
          have hy63 : Hid (x3.heap.size ≤ x4.heap.size) := hb.size
          have hq4 : Hid (w5.heap.size ≤ x4.heap.size) := Nat.le_trans hq3.out hb.size
          clear hb hS
          refine hK.out _ _ HX4.out (fun hS => ?_)
          clear hK K
          have hneq : x2.heap.size ≠ x1.heap.size := by
            have e1 := hz7.out
            omega
          try simp only [Act.put, List.setIfInBounds_toArray, List.set_cons_zero, List.set_cons_succ]
          refine wpAnyH_ready (rs := [8]) (by kernel_rfl) (by simp) (AllReadyH.cons rfl (fun K hK => ?_) AllReadyH.nil)
          rw [if_pos (by rfl)]
          refine wp_store_mid 48 (.tmp 13) (.tmp 80) rfl x2.heap.size 0 (pfl s px k1).toArray rfl rfl (by have h := hp6.out.there (zs_length 16); have e : (pfl s px k1).toArray.size = 18 := (by rw [List.size_toArray, pfl_len s px k1 HPL.out]); rw [e]; exact h) (by have e : (pfl s px k1).toArray.size = 18 := (by rw [List.size_toArray, pfl_len s px k1 HPL.out]); rw [e]; exact infP) (all_oneCell_toArray (pfl_one s px k1)) ?_
          have hf := two_store1 hneq hp6.out hp7.out hw6.out HX4.out s px k1 HPL.out (by intro x hx; simp only [List.mem_cons, List.not_mem_nil, or_false] at hx; have h1 := HLT.out; have h2 := hv6.out; rcases hx with rfl | rfl <;> (show _ ≠ _; omega))
          obtain ⟨wy, hwy⟩ : ∃ y, x4.setCells x2.heap.size 0 (pfl s px k1) = y := ⟨_, rfl⟩
          rw [hwy] at hf
          change K _ (x4.setCells x2.heap.size 0 (pfl s px k1))
          rw [hwy]
          clear hwy
          have HF := Lib.hid hf
          clear hf hS
          refine hK.out _ _ HF.out.1 (fun hS => ?_)
          clear hK K
          try simp only [Act.put, List.setIfInBounds_toArray]
          refine wpAnyH_ready (rs := [9]) (by kernel_rfl) (by simp) (AllReadyH.cons rfl (fun K hK => ?_) AllReadyH.nil)
          rw [if_pos (by rfl)]
          refine wp_store_mid 48 (.tmp 14) (.tmp 83) rfl x1.heap.size 0 (pfl t qy k2).toArray rfl rfl (by have h := HF.out.2.2.there (zs_length 16); have e : (pfl t qy k2).toArray.size = 18 := (by rw [List.size_toArray, pfl_len t qy k2 HQL.out]); rw [e]; exact h) (by have e : (pfl t qy k2).toArray.size = 18 := (by rw [List.size_toArray, pfl_len t qy k2 HQL.out]); rw [e]; exact infP) (all_oneCell_toArray (pfl_one t qy k2)) ?_
          have hf := two_store2 hneq HF.out.2.1 HF.out.2.2 hw7.out HF.out.1 t qy k2 HQL.out (by intro x hx; simp only [List.mem_cons, List.not_mem_nil, or_false] at hx; have h1 := HLT.out; have h2 := hv7.out; rcases hx with rfl | rfl <;> (show _ ≠ _; omega))
          obtain ⟨wz, hwz⟩ : ∃ y, wy.setCells x1.heap.size 0 (pfl t qy k2) = y := ⟨_, rfl⟩
          rw [hwz] at hf
          change K _ (wy.setCells x1.heap.size 0 (pfl t qy k2))
          rw [hwz]
          clear hwz
          have HE := Lib.hid hf
          clear hf hS
          refine hK.out _ _ HE.out.1 (fun hS => ?_)
          clear hK K
          try simp only [Act.put]
          refine wpAnyH_done (by kernel_rfl) ?_ _
          go_wp2_with fail
          refine Met.intro (hJ0 _ _ ?_)
          exact ⟨x2.heap.size, x1.heap.size, ⟨rfl, rfl⟩, rfl, rfl, rfl, rfl, rfl, rfl, HE.out.2⟩
  · rw [if_pos (by rfl)]
    go_wp2_with fail
    obtain ⟨x1, hx1⟩ : ∃ y, w5.drew.alloc (.cells (pfl false (zs 16) 0).toArray 48) = y := ⟨_, rfl⟩
    have hb : Below w5.drew.heap.size w5.drew x1 := by rw [← hx1]; exact bel1 _ _
    have hp6 : Hid (Pp x1 w5.drew.heap.size false (zs 16) 0) := by rw [← hx1]; exact Pp.at_ rfl _ _ _
    have hz6 : Hid (w5.drew.heap.size + 1 = x1.heap.size) := by rw [← hx1]; show _ = _; simp
    have hw6 : Hid (w.heap.size ≤ w5.drew.heap.size) := HMd.out.1.size
    change K _ (w5.drew.alloc (.cells (pfl false (zs 16) 0).toArray 48))
    rw [hx1]
    clear hx1
    have HX1 := Lib.hid (HMd.out.past hb)
    have hv6 : Hid (w5.heap.size ≤ w5.drew.heap.size) := hq0.out
    have hq1 : Hid (w5.heap.size ≤ x1.heap.size) := Nat.le_trans hq0.out hb.size
    clear hb hS
    refine hK.out _ _ HX1.out (fun hS => ?_)
    clear hK K
    try simp only [Act.put, List.setIfInBounds_toArray, List.set_cons_zero, List.set_cons_succ]
    refine wpAnyH_ready (rs := [2, 7]) (by kernel_rfl) (by simp) (AllReadyH.cons rfl (fun K hK => ?_) (AllReadyH.cons rfl (fun K hK => ?_) AllReadyH.nil))
    · rw [if_pos (by rfl)]
      go_wp2_with fail
      refine (aCut_any s xs m _ HLX.out HBX.out).mono ?_
      rintro e x2 ⟨rfl, hb⟩
      rw [HCP.out]
      have HX2 := Lib.hid (HX1.out.past hb)
      replace hp6 := Lib.hid (hp6.out.below hb)
      have hy61 : Hid (x1.heap.size ≤ x2.heap.size) := hb.size
      have hq2 : Hid (w5.heap.size ≤ x2.heap.size) := Nat.le_trans hq1.out hb.size
      clear hb hS
      refine hK.out _ _ HX2.out (fun hS => ?_)
      clear hK K
      try simp only [Act.put, List.setIfInBounds_toArray, List.set_cons_zero, List.set_cons_succ]
      refine wpAnyH_ready (rs := [5, 7]) (by kernel_rfl) (by simp) (AllReadyH.cons rfl (fun K hK => ?_) (AllReadyH.cons rfl (fun K hK => ?_) AllReadyH.nil))
      · rw [if_pos (by rfl)]
        go_wp2_with fail
        refine (aCut_any t ys n _ HLY.out HBY.out).mono ?_
        rintro e x3 ⟨rfl, hb⟩
        rw [HCQ.out]
        have HX3 := Lib.hid (HX2.out.past hb)
        replace hp6 := Lib.hid (hp6.out.below hb)
        have hy62 : Hid (x2.heap.size ≤ x3.heap.size) := hb.size
        have hq3 : Hid (w5.heap.size ≤ x3.heap.size) := Nat.le_trans hq2.out hb.size
        clear hb hS
        refine hK.out _ _ HX3.out (fun hS => ?_)
        clear hK K
        try simp only [Act.put, List.setIfInBounds_toArray, List.set_cons_zero, List.set_cons_succ]
        refine wpAnyH_ready (rs := [7]) (by kernel_rfl) (by simp) (AllReadyH.cons rfl (fun K hK => ?_) AllReadyH.nil)
        · rw [if_pos (by rfl)]
          go_wp2_with fail
          obtain ⟨x4, hx4⟩ : ∃ y, x3.alloc (.cells (pfl false (zs 16) 0).toArray 48) = y := ⟨_, rfl⟩
          have hb : Below x3.heap.size x3 x4 := by rw [← hx4]; exact bel1 _ _
          have hp7 : Hid (Pp x4 x3.heap.size false (zs 16) 0) := by rw [← hx4]; exact Pp.at_ rfl _ _ _
          have hz7 : Hid (x3.heap.size + 1 = x4.heap.size) := by rw [← hx4]; show _ = _; simp
          have hw7 : Hid (w.heap.size ≤ x3.heap.size) := HX3.out.1.size
          change K _ (x3.alloc (.cells (pfl false (zs 16) 0).toArray 48))
          rw [hx4]
          clear hx4
          have HX4 := Lib.hid (HX3.out.past hb)
          have hv7 : Hid (w5.heap.size ≤ x3.heap.size) := hq3.out
          replace hp6 := Lib.hid (hp6.out.below hb)
          have hy63 : Hid (x3.heap.size ≤ x4.heap.size) := hb.size
          have hq4 : Hid (w5.heap.size ≤ x4.heap.size) := Nat.le_trans hq3.out hb.size
          clear hb hS
          refine hK.out _ _ HX4.out (fun hS => ?_)
          clear hK K
          have hneq : w5.drew.heap.size ≠ x3.heap.size := by
            have e1 := hz6.out
            have e2 := hy61.out
            have e3 := hy62.out
            omega
          try simp only [Act.put, List.setIfInBounds_toArray, List.set_cons_zero, List.set_cons_succ]
          refine wpAnyH_ready (rs := [8]) (by kernel_rfl) (by simp) (AllReadyH.cons rfl (fun K hK => ?_) AllReadyH.nil)
          rw [if_pos (by rfl)]
          refine wp_store_mid 48 (.tmp 13) (.tmp 80) rfl w5.drew.heap.size 0 (pfl s px k1).toArray rfl rfl (by have h := hp6.out.there (zs_length 16); have e : (pfl s px k1).toArray.size = 18 := (by rw [List.size_toArray, pfl_len s px k1 HPL.out]); rw [e]; exact h) (by have e : (pfl s px k1).toArray.size = 18 := (by rw [List.size_toArray, pfl_len s px k1 HPL.out]); rw [e]; exact infP) (all_oneCell_toArray (pfl_one s px k1)) ?_
          have hf := two_store1 hneq hp6.out hp7.out hw6.out HX4.out s px k1 HPL.out (by intro x hx; simp only [List.mem_cons, List.not_mem_nil, or_false] at hx; have h1 := HLT.out; have h2 := hv6.out; rcases hx with rfl | rfl <;> (show _ ≠ _; omega))
          obtain ⟨wy, hwy⟩ : ∃ y, x4.setCells w5.drew.heap.size 0 (pfl s px k1) = y := ⟨_, rfl⟩
          rw [hwy] at hf
          change K _ (x4.setCells w5.drew.heap.size 0 (pfl s px k1))
          rw [hwy]
          clear hwy
          have HF := Lib.hid hf
          clear hf hS
          refine hK.out _ _ HF.out.1 (fun hS => ?_)
          clear hK K
          try simp only [Act.put, List.setIfInBounds_toArray]
          refine wpAnyH_ready (rs := [9]) (by kernel_rfl) (by simp) (AllReadyH.cons rfl (fun K hK => ?_) AllReadyH.nil)
          rw [if_pos (by rfl)]
          refine wp_store_mid 48 (.tmp 14) (.tmp 83) rfl x3.heap.size 0 (pfl t qy k2).toArray rfl rfl (by have h := HF.out.2.2.there (zs_length 16); have e : (pfl t qy k2).toArray.size = 18 := (by rw [List.size_toArray, pfl_len t qy k2 HQL.out]); rw [e]; exact h) (by have e : (pfl t qy k2).toArray.size = 18 := (by rw [List.size_toArray, pfl_len t qy k2 HQL.out]); rw [e]; exact infP) (all_oneCell_toArray (pfl_one t qy k2)) ?_
          have hf := two_store2 hneq HF.out.2.1 HF.out.2.2 hw7.out HF.out.1 t qy k2 HQL.out (by intro x hx; simp only [List.mem_cons, List.not_mem_nil, or_false] at hx; have h1 := HLT.out; have h2 := hv7.out; rcases hx with rfl | rfl <;> (show _ ≠ _; omega))
          obtain ⟨wz, hwz⟩ : ∃ y, wy.setCells x3.heap.size 0 (pfl t qy k2) = y := ⟨_, rfl⟩
          rw [hwz] at hf
          change K _ (wy.setCells x3.heap.size 0 (pfl t qy k2))
          rw [hwz]
          clear hwz
          have HE := Lib.hid hf
          clear hf hS
          refine hK.out _ _ HE.out.1 (fun hS => ?_)
          clear hK K
          try simp only [Act.put]
          refine wpAnyH_done (by kernel_rfl) ?_ _
          go_wp2_with fail
          refine Met.intro (hJ0 _ _ ?_)
          exact ⟨w5.drew.heap.size, x3.heap.size, ⟨rfl, rfl⟩, rfl, rfl, rfl, rfl, rfl, rfl, HE.out.2⟩
      · rw [if_pos (by rfl)]
        go_wp2_with fail
        obtain ⟨x3, hx3⟩ : ∃ y, x2.alloc (.cells (pfl false (zs 16) 0).toArray 48) = y := ⟨_, rfl⟩
        have hb : Below x2.heap.size x2 x3 := by rw [← hx3]; exact bel1 _ _
        have hp7 : Hid (Pp x3 x2.heap.size false (zs 16) 0) := by rw [← hx3]; exact Pp.at_ rfl _ _ _
        have hz7 : Hid (x2.heap.size + 1 = x3.heap.size) := by rw [← hx3]; show _ = _; simp
        have hw7 : Hid (w.heap.size ≤ x2.heap.size) := HX2.out.1.size
        change K _ (x2.alloc (.cells (pfl false (zs 16) 0).toArray 48))
        rw [hx3]
        clear hx3
        have HX3 := Lib.hid (HX2.out.past hb)
        have hv7 : Hid (w5.heap.size ≤ x2.heap.size) := hq2.out
        replace hp6 := Lib.hid (hp6.out.below hb)
        have hy62 : Hid (x2.heap.size ≤ x3.heap.size) := hb.size
        have hq3 : Hid (w5.heap.size ≤ x3.heap.size) := Nat.le_trans hq2.out hb.size
        clear hb hS
        refine hK.out _ _ HX3.out (fun hS => ?_)
        clear hK K
        try simp only [Act.put, List.setIfInBounds_toArray, List.set_cons_zero, List.set_cons_succ]
        refine wpAnyH_ready (rs := [5]) (by kernel_rfl) (by simp) (AllReadyH.cons rfl (fun K hK => ?_) AllReadyH.nil)
        · rw [if_pos (by rfl)]
          go_wp2_with fail
          refine (aCut_any t ys n _ HLY.out HBY.out).mono ?_
          rintro e x4 ⟨rfl, hb⟩
          rw [HCQ.out]
          have HX4 := Lib.hid (HX3.out.past hb)
          replace hp6 := Lib.hid (hp6.out.below hb)
          have hy63 : Hid (x3.heap.size ≤ x4.heap.size) := hb.size
          replace hp7 := Lib.hid (hp7.out.below hb)
          have hy73 : Hid (x3.heap.size ≤ x4.heap.size) := hb.size
          have hq4 : Hid (w5.heap.size ≤ x4.heap.size) := Nat.le_trans hq3.out hb.size
          clear hb hS
          refine hK.out _ _ HX4.out (fun hS => ?_)
          clear hK K
          have hneq : w5.drew.heap.size ≠ x2.heap.size := by
            have e1 := hz6.out
            have e2 := hy61.out
            omega
          try simp only [Act.put, List.setIfInBounds_toArray, List.set_cons_zero, List.set_cons_succ]
          refine wpAnyH_ready (rs := [8]) (by kernel_rfl) (by simp) (AllReadyH.cons rfl (fun K hK => ?_) AllReadyH.nil)
          rw [if_pos (by rfl)]
          refine wp_store_mid 48 (.tmp 13) (.tmp 80) rfl w5.drew.heap.size 0 (pfl s px k1).toArray rfl rfl (by have h := hp6.out.there (zs_length 16); have e : (pfl s px k1).toArray.size = 18 := (by rw [List.size_toArray, pfl_len s px k1 HPL.out]); rw [e]; exact h) (by have e : (pfl s px k1).toArray.size = 18 := (by rw [List.size_toArray, pfl_len s px k1 HPL.out]); rw [e]; exact infP) (all_oneCell_toArray (pfl_one s px k1)) ?_
          have hf := two_store1 hneq hp6.out hp7.out hw6.out HX4.out s px k1 HPL.out (by intro x hx; simp only [List.mem_cons, List.not_mem_nil, or_false] at hx; have h1 := HLT.out; have h2 := hv6.out; rcases hx with rfl | rfl <;> (show _ ≠ _; omega))
          obtain ⟨wy, hwy⟩ : ∃ y, x4.setCells w5.drew.heap.size 0 (pfl s px k1) = y := ⟨_, rfl⟩
          rw [hwy] at hf
          change K _ (x4.setCells w5.drew.heap.size 0 (pfl s px k1))
          rw [hwy]
          clear hwy
          have HF := Lib.hid hf
          clear hf hS
          refine hK.out _ _ HF.out.1 (fun hS => ?_)
          clear hK K
          try simp only [Act.put, List.setIfInBounds_toArray]
          refine wpAnyH_ready (rs := [9]) (by kernel_rfl) (by simp) (AllReadyH.cons rfl (fun K hK => ?_) AllReadyH.nil)
          rw [if_pos (by rfl)]
          refine wp_store_mid 48 (.tmp 14) (.tmp 83) rfl x2.heap.size 0 (pfl t qy k2).toArray rfl rfl (by have h := HF.out.2.2.there (zs_length 16); have e : (pfl t qy k2).toArray.size = 18 := (by rw [List.size_toArray, pfl_len t qy k2 HQL.out]); rw [e]; exact h) (by have e : (pfl t qy k2).toArray.size = 18 := (by rw [List.size_toArray, pfl_len t qy k2 HQL.out]); rw [e]; exact infP) (all_oneCell_toArray (pfl_one t qy k2)) ?_
          have hf := two_store2 hneq HF.out.2.1 HF.out.2.2 hw7.out HF.out.1 t qy k2 HQL.out (by intro x hx; simp only [List.mem_cons, List.not_mem_nil, or_false] at hx; have h1 := HLT.out; have h2 := hv7.out; rcases hx with rfl | rfl <;> (show _ ≠ _; omega))
          obtain ⟨wz, hwz⟩ : ∃ y, wy.setCells x2.heap.size 0 (pfl t qy k2) = y := ⟨_, rfl⟩
          rw [hwz] at hf
          change K _ (wy.setCells x2.heap.size 0 (pfl t qy k2))
          rw [hwz]
          clear hwz
          have HE := Lib.hid hf
          clear hf hS
          refine hK.out _ _ HE.out.1 (fun hS => ?_)
          clear hK K
          try simp only [Act.put]
          refine wpAnyH_done (by kernel_rfl) ?_ _
          go_wp2_with fail
          refine Met.intro (hJ0 _ _ ?_)
          exact ⟨w5.drew.heap.size, x2.heap.size, ⟨rfl, rfl⟩, rfl, rfl, rfl, rfl, rfl, rfl, HE.out.2⟩
    · rw [if_pos (by rfl)]
      go_wp2_with fail
      obtain ⟨x2, hx2⟩ : ∃ y, x1.alloc (.cells (pfl false (zs 16) 0).toArray 48) = y := ⟨_, rfl⟩
      have hb : Below x1.heap.size x1 x2 := by rw [← hx2]; exact bel1 _ _
      have hp7 : Hid (Pp x2 x1.heap.size false (zs 16) 0) := by rw [← hx2]; exact Pp.at_ rfl _ _ _
      have hz7 : Hid (x1.heap.size + 1 = x2.heap.size) := by rw [← hx2]; show _ = _; simp
      have hw7 : Hid (w.heap.size ≤ x1.heap.size) := HX1.out.1.size
      change K _ (x1.alloc (.cells (pfl false (zs 16) 0).toArray 48))
      rw [hx2]
      clear hx2
      have HX2 := Lib.hid (HX1.out.past hb)
      have hv7 : Hid (w5.heap.size ≤ x1.heap.size) := hq1.out
      replace hp6 := Lib.hid (hp6.out.below hb)
      have hy61 : Hid (x1.heap.size ≤ x2.heap.size) := hb.size
      have hq2 : Hid (w5.heap.size ≤ x2.heap.size) := Nat.le_trans hq1.out hb.size
      clear hb hS
      refine hK.out _ _ HX2.out (fun hS => ?_)
      clear hK K
      try simp only [Act.put, List.setIfInBounds_toArray, List.set_cons_zero, List.set_cons_succ]
      refine wpAnyH_ready (rs := [2]) (by kernel_rfl) (by simp) (AllReadyH.cons rfl (fun K hK => ?_) AllReadyH.nil)
      · rw [if_pos (by rfl)]
        go_wp2_with fail
        refine (aCut_any s xs m _ HLX.out HBX.out).mono ?_
        rintro e x3 ⟨rfl, hb⟩
        rw [HCP.out]
        have HX3 := Lib.hid (HX2.out.past hb)
        replace hp6 := Lib.hid (hp6.out.below hb)
        have hy62 : Hid (x2.heap.size ≤ x3.heap.size) := hb.size
        replace hp7 := Lib.hid (hp7.out.below hb)
        have hy72 : Hid (x2.heap.size ≤ x3.heap.size) := hb.size
        have hq3 : Hid (w5.heap.size ≤ x3.heap.size) := Nat.le_trans hq2.out hb.size
        clear hb hS
        refine hK.out _ _ HX3.out (fun hS => ?_)
        clear hK K
        try simp only [Act.put, List.setIfInBounds_toArray, List.set_cons_zero, List.set_cons_succ]
        refine wpAnyH_ready (rs := [5]) (by kernel_rfl) (by simp) (AllReadyH.cons rfl (fun K hK => ?_) AllReadyH.nil)
        · rw [if_pos (by rfl)]
          go_wp2_with fail
          refine (aCut_any t ys n _ HLY.out HBY.out).mono ?_
          rintro e x4 ⟨rfl, hb⟩
          rw [HCQ.out]
          have HX4 := Lib.hid (HX3.out.past hb)
          replace hp6 := Lib.hid (hp6.out.below hb)
          have hy63 : Hid (x3.heap.size ≤ x4.heap.size) := hb.size
          replace hp7 := Lib.hid (hp7.out.below hb)
          have hy73 : Hid (x3.heap.size ≤ x4.heap.size) := hb.size
          have hq4 : Hid (w5.heap.size ≤ x4.heap.size) := Nat.le_trans hq3.out hb.size
          clear hb hS
          refine hK.out _ _ HX4.out (fun hS => ?_)
          clear hK K
          have hneq : w5.drew.heap.size ≠ x1.heap.size := by
            have e1 := hz6.out
            omega
          try simp only [Act.put, List.setIfInBounds_toArray, List.set_cons_zero, List.set_cons_succ]
          refine wpAnyH_ready (rs := [8]) (by kernel_rfl) (by simp) (AllReadyH.cons rfl (fun K hK => ?_) AllReadyH.nil)
          rw [if_pos (by rfl)]
          refine wp_store_mid 48 (.tmp 13) (.tmp 80) rfl w5.drew.heap.size 0 (pfl s px k1).toArray rfl rfl (by have h := hp6.out.there (zs_length 16); have e : (pfl s px k1).toArray.size = 18 := (by rw [List.size_toArray, pfl_len s px k1 HPL.out]); rw [e]; exact h) (by have e : (pfl s px k1).toArray.size = 18 := (by rw [List.size_toArray, pfl_len s px k1 HPL.out]); rw [e]; exact infP) (all_oneCell_toArray (pfl_one s px k1)) ?_
          have hf := two_store1 hneq hp6.out hp7.out hw6.out HX4.out s px k1 HPL.out (by intro x hx; simp only [List.mem_cons, List.not_mem_nil, or_false] at hx; have h1 := HLT.out; have h2 := hv6.out; rcases hx with rfl | rfl <;> (show _ ≠ _; omega))
          obtain ⟨wy, hwy⟩ : ∃ y, x4.setCells w5.drew.heap.size 0 (pfl s px k1) = y := ⟨_, rfl⟩
          rw [hwy] at hf
          change K _ (x4.setCells w5.drew.heap.size 0 (pfl s px k1))
          rw [hwy]
          clear hwy
          have HF := Lib.hid hf
          clear hf hS
          refine hK.out _ _ HF.out.1 (fun hS => ?_)
          clear hK K
          try simp only [Act.put, List.setIfInBounds_toArray]
          refine wpAnyH_ready (rs := [9]) (by kernel_rfl) (by simp) (AllReadyH.cons rfl (fun K hK => ?_) AllReadyH.nil)
          rw [if_pos (by rfl)]
          refine wp_store_mid 48 (.tmp 14) (.tmp 83) rfl x1.heap.size 0 (pfl t qy k2).toArray rfl rfl (by have h := HF.out.2.2.there (zs_length 16); have e : (pfl t qy k2).toArray.size = 18 := (by rw [List.size_toArray, pfl_len t qy k2 HQL.out]); rw [e]; exact h) (by have e : (pfl t qy k2).toArray.size = 18 := (by rw [List.size_toArray, pfl_len t qy k2 HQL.out]); rw [e]; exact infP) (all_oneCell_toArray (pfl_one t qy k2)) ?_
          have hf := two_store2 hneq HF.out.2.1 HF.out.2.2 hw7.out HF.out.1 t qy k2 HQL.out (by intro x hx; simp only [List.mem_cons, List.not_mem_nil, or_false] at hx; have h1 := HLT.out; have h2 := hv7.out; rcases hx with rfl | rfl <;> (show _ ≠ _; omega))
          obtain ⟨wz, hwz⟩ : ∃ y, wy.setCells x1.heap.size 0 (pfl t qy k2) = y := ⟨_, rfl⟩
          rw [hwz] at hf
          change K _ (wy.setCells x1.heap.size 0 (pfl t qy k2))
          rw [hwz]
          clear hwz
          have HE := Lib.hid hf
          clear hf hS
          refine hK.out _ _ HE.out.1 (fun hS => ?_)
          clear hK K
          try simp only [Act.put]
          refine wpAnyH_done (by kernel_rfl) ?_ _
          go_wp2_with fail
          refine Met.intro (hJ0 _ _ ?_)
          exact ⟨w5.drew.heap.size, x1.heap.size, ⟨rfl, rfl⟩, rfl, rfl, rfl, rfl, rfl, rfl, HE.out.2⟩
  · rw [if_pos (by rfl)]
    go_wp2_with fail
    obtain ⟨x1, hx1⟩ : ∃ y, w5.drew.alloc (.cells (pfl false (zs 16) 0).toArray 48) = y := ⟨_, rfl⟩
    have hb : Below w5.drew.heap.size w5.drew x1 := by rw [← hx1]; exact bel1 _ _
    have hp7 : Hid (Pp x1 w5.drew.heap.size false (zs 16) 0) := by rw [← hx1]; exact Pp.at_ rfl _ _ _
    have hz7 : Hid (w5.drew.heap.size + 1 = x1.heap.size) := by rw [← hx1]; show _ = _; simp
    have hw7 : Hid (w.heap.size ≤ w5.drew.heap.size) := HMd.out.1.size
    change K _ (w5.drew.alloc (.cells (pfl false (zs 16) 0).toArray 48))
    rw [hx1]
    clear hx1
    have HX1 := Lib.hid (HMd.out.past hb)
    have hv7 : Hid (w5.heap.size ≤ w5.drew.heap.size) := hq0.out
    have hq1 : Hid (w5.heap.size ≤ x1.heap.size) := Nat.le_trans hq0.out hb.size
    clear hb hS
    refine hK.out _ _ HX1.out (fun hS => ?_)
    clear hK K
    try simp only [Act.put, List.setIfInBounds_toArray, List.set_cons_zero, List.set_cons_succ]
    refine wpAnyH_ready (rs := [2, 6]) (by kernel_rfl) (by simp) (AllReadyH.cons rfl (fun K hK => ?_) (AllReadyH.cons rfl (fun K hK => ?_) AllReadyH.nil))
    · rw [if_pos (by rfl)]
      go_wp2_with fail
      refine (aCut_any s xs m _ HLX.out HBX.out).mono ?_
      rintro e x2 ⟨rfl, hb⟩
      rw [HCP.out]
      have HX2 := Lib.hid (HX1.out.past hb)
      replace hp7 := Lib.hid (hp7.out.below hb)
      have hy71 : Hid (x1.heap.size ≤ x2.heap.size) := hb.size
      have hq2 : Hid (w5.heap.size ≤ x2.heap.size) := Nat.le_trans hq1.out hb.size
      clear hb hS
      refine hK.out _ _ HX2.out (fun hS => ?_)
      clear hK K
      try simp only [Act.put, List.setIfInBounds_toArray, List.set_cons_zero, List.set_cons_succ]
      refine wpAnyH_ready (rs := [5, 6]) (by kernel_rfl) (by simp) (AllReadyH.cons rfl (fun K hK => ?_) (AllReadyH.cons rfl (fun K hK => ?_) AllReadyH.nil))
      · rw [if_pos (by rfl)]
        go_wp2_with fail
        refine (aCut_any t ys n _ HLY.out HBY.out).mono ?_
        rintro e x3 ⟨rfl, hb⟩
        rw [HCQ.out]
        have HX3 := Lib.hid (HX2.out.past hb)
        replace hp7 := Lib.hid (hp7.out.below hb)
        have hy72 : Hid (x2.heap.size ≤ x3.heap.size) := hb.size
        have hq3 : Hid (w5.heap.size ≤ x3.heap.size) := Nat.le_trans hq2.out hb.size
        clear hb hS
        refine hK.out _ _ HX3.out (fun hS => ?_)
        clear hK K
        try simp only [Act.put, List.setIfInBounds_toArray, List.set_cons_zero, List.set_cons_succ]
        refine wpAnyH_ready (rs := [6]) (by kernel_rfl) (by simp) (AllReadyH.cons rfl (fun K hK => ?_) AllReadyH.nil)
        · rw [if_pos (by rfl)]
          go_wp2_with fail
          obtain ⟨x4, hx4⟩ : ∃ y, x3.alloc (.cells (pfl false (zs 16) 0).toArray 48) = y := ⟨_, rfl⟩
          have hb : Below x3.heap.size x3 x4 := by rw [← hx4]; exact bel1 _ _
          have hp6 : Hid (Pp x4 x3.heap.size false (zs 16) 0) := by rw [← hx4]; exact Pp.at_ rfl _ _ _
          have hz6 : Hid (x3.heap.size + 1 = x4.heap.size) := by rw [← hx4]; show _ = _; simp
          have hw6 : Hid (w.heap.size ≤ x3.heap.size) := HX3.out.1.size
          change K _ (x3.alloc (.cells (pfl false (zs 16) 0).toArray 48))
          rw [hx4]
          clear hx4
          have HX4 := Lib.hid (HX3.out.past hb)
          have hv6 : Hid (w5.heap.size ≤ x3.heap.size) := hq3.out
          replace hp7 := Lib.hid (hp7.out.below hb)
          have hy73 : Hid (x3.heap.size ≤ x4.heap.size) := hb.size
          have hq4 : Hid (w5.heap.size ≤ x4.heap.size) := Nat.le_trans hq3.out hb.size
          clear hb hS
          refine hK.out _ _ HX4.out (fun hS => ?_)
          clear hK K
          have hneq : x3.heap.size ≠ w5.drew.heap.size := by
            have e1 := hz7.out
            have e2 := hy71.out
            have e3 := hy72.out
            omega
          try simp only [Act.put, List.setIfInBounds_toArray, List.set_cons_zero, List.set_cons_succ]
          refine wpAnyH_ready (rs := [8]) (by kernel_rfl) (by simp) (AllReadyH.cons rfl (fun K hK => ?_) AllReadyH.nil)
          rw [if_pos (by rfl)]
          refine wp_store_mid 48 (.tmp 13) (.tmp 80) rfl x3.heap.size 0 (pfl s px k1).toArray rfl rfl (by have h := hp6.out.there (zs_length 16); have e : (pfl s px k1).toArray.size = 18 := (by rw [List.size_toArray, pfl_len s px k1 HPL.out]); rw [e]; exact h) (by have e : (pfl s px k1).toArray.size = 18 := (by rw [List.size_toArray, pfl_len s px k1 HPL.out]); rw [e]; exact infP) (all_oneCell_toArray (pfl_one s px k1)) ?_
          have hf := two_store1 hneq hp6.out hp7.out hw6.out HX4.out s px k1 HPL.out (by intro x hx; simp only [List.mem_cons, List.not_mem_nil, or_false] at hx; have h1 := HLT.out; have h2 := hv6.out; rcases hx with rfl | rfl <;> (show _ ≠ _; omega))
          obtain ⟨wy, hwy⟩ : ∃ y, x4.setCells x3.heap.size 0 (pfl s px k1) = y := ⟨_, rfl⟩
          rw [hwy] at hf
          change K _ (x4.setCells x3.heap.size 0 (pfl s px k1))
          rw [hwy]
          clear hwy
          have HF := Lib.hid hf
          clear hf hS
          refine hK.out _ _ HF.out.1 (fun hS => ?_)
          clear hK K
          try simp only [Act.put, List.setIfInBounds_toArray]
          refine wpAnyH_ready (rs := [9]) (by kernel_rfl) (by simp) (AllReadyH.cons rfl (fun K hK => ?_) AllReadyH.nil)
          rw [if_pos (by rfl)]
          refine wp_store_mid 48 (.tmp 14) (.tmp 83) rfl w5.drew.heap.size 0 (pfl t qy k2).toArray rfl rfl (by have h := HF.out.2.2.there (zs_length 16); have e : (pfl t qy k2).toArray.size = 18 := (by rw [List.size_toArray, pfl_len t qy k2 HQL.out]); rw [e]; exact h) (by have e : (pfl t qy k2).toArray.size = 18 := (by rw [List.size_toArray, pfl_len t qy k2 HQL.out]); rw [e]; exact infP) (all_oneCell_toArray (pfl_one t qy k2)) ?_
          have hf := two_store2 hneq HF.out.2.1 HF.out.2.2 hw7.out HF.out.1 t qy k2 HQL.out (by intro x hx; simp only [List.mem_cons, List.not_mem_nil, or_false] at hx; have h1 := HLT.out; have h2 := hv7.out; rcases hx with rfl | rfl <;> (show _ ≠ _; omega))
          obtain ⟨wz, hwz⟩ : ∃ y, wy.setCells w5.drew.heap.size 0 (pfl t qy k2) = y := ⟨_, rfl⟩
          rw [hwz] at hf
          change K _ (wy.setCells w5.drew.heap.size 0 (pfl t qy k2))
          rw [hwz]
          clear hwz
          have HE := Lib.hid hf
          clear hf hS
          refine hK.out _ _ HE.out.1 (fun hS => ?_)
          clear hK K
          try simp only [Act.put]
          refine wpAnyH_done (by kernel_rfl) ?_ _
          go_wp2_with fail
          refine Met.intro (hJ0 _ _ ?_)
          exact ⟨x3.heap.size, w5.drew.heap.size, ⟨rfl, rfl⟩, rfl, rfl, rfl, rfl, rfl, rfl, HE.out.2⟩
      · rw [if_pos (by rfl)]
        go_wp2_with fail
        obtain ⟨x3, hx3⟩ : ∃ y, x2.alloc (.cells (pfl false (zs 16) 0).toArray 48) = y := ⟨_, rfl⟩
        have hb : Below x2.heap.size x2 x3 := by rw [← hx3]; exact bel1 _ _
        have hp6 : Hid (Pp x3 x2.heap.size false (zs 16) 0) := by rw [← hx3]; exact Pp.at_ rfl _ _ _
        have hz6 : Hid (x2.heap.size + 1 = x3.heap.size) := by rw [← hx3]; show _ = _; simp
        have hw6 : Hid (w.heap.size ≤ x2.heap.size) := HX2.out.1.size
        change K _ (x2.alloc (.cells (pfl false (zs 16) 0).toArray 48))
        rw [hx3]
        clear hx3
        have HX3 := Lib.hid (HX2.out.past hb)
        have hv6 : Hid (w5.heap.size ≤ x2.heap.size) := hq2.out
        replace hp7 := Lib.hid (hp7.out.below hb)
        have hy72 : Hid (x2.heap.size ≤ x3.heap.size) := hb.size
        have hq3 : Hid (w5.heap.size ≤ x3.heap.size) := Nat.le_trans hq2.out hb.size
        clear hb hS
        refine hK.out _ _ HX3.out (fun hS => ?_)
        clear hK K
        try simp only [Act.put, List.setIfInBounds_toArray, List.set_cons_zero, List.set_cons_succ]
        refine wpAnyH_ready (rs := [5]) (by kernel_rfl) (by simp) (AllReadyH.cons rfl (fun K hK => ?_) AllReadyH.nil)
        · rw [if_pos (by rfl)]
          go_wp2_with fail
          refine (aCut_any t ys n _ HLY.out HBY.out).mono ?_
          rintro e x4 ⟨rfl, hb⟩
          rw [HCQ.out]
          have HX4 := Lib.hid (HX3.out.past hb)
          replace hp7 := Lib.hid (hp7.out.below hb)
          have hy73 : Hid (x3.heap.size ≤ x4.heap.size) := hb.size
          replace hp6 := Lib.hid (hp6.out.below hb)
          have hy63 : Hid (x3.heap.size ≤ x4.heap.size) := hb.size
          have hq4 : Hid (w5.heap.size ≤ x4.heap.size) := Nat.le_trans hq3.out hb.size
          clear hb hS
          refine hK.out _ _ HX4.out (fun hS => ?_)
          clear hK K
          have hneq : x2.heap.size ≠ w5.drew.heap.size := by
            have e1 := hz7.out
            have e2 := hy71.out
            omega
          try simp only [Act.put, List.setIfInBounds_toArray, List.set_cons_zero, List.set_cons_succ]
          refine wpAnyH_ready (rs := [8]) (by kernel_rfl) (by simp) (AllReadyH.cons rfl (fun K hK => ?_) AllReadyH.nil)
          rw [if_pos (by rfl)]
          refine wp_store_mid 48 (.tmp 13) (.tmp 80) rfl x2.heap.size 0 (pfl s px k1).toArray rfl rfl (by have h := hp6.out.there (zs_length 16); have e : (pfl s px k1).toArray.size = 18 := (by rw [List.size_toArray, pfl_len s px k1 HPL.out]); rw [e]; exact h) (by have e : (pfl s px k1).toArray.size = 18 := (by rw [List.size_toArray, pfl_len s px k1 HPL.out]); rw [e]; exact infP) (all_oneCell_toArray (pfl_one s px k1)) ?_
          have hf := two_store1 hneq hp6.out hp7.out hw6.out HX4.out s px k1 HPL.out (by intro x hx; simp only [List.mem_cons, List.not_mem_nil, or_false] at hx; have h1 := HLT.out; have h2 := hv6.out; rcases hx with rfl | rfl <;> (show _ ≠ _; omega))
          obtain ⟨wy, hwy⟩ : ∃ y, x4.setCells x2.heap.size 0 (pfl s px k1) = y := ⟨_, rfl⟩
          rw [hwy] at hf
          change K _ (x4.setCells x2.heap.size 0 (pfl s px k1))
          rw [hwy]
          clear hwy
          have HF := Lib.hid hf
          clear hf hS
          refine hK.out _ _ HF.out.1 (fun hS => ?_)
          clear hK K
          try simp only [Act.put, List.setIfInBounds_toArray]
          refine wpAnyH_ready (rs := [9]) (by kernel_rfl) (by simp) (AllReadyH.cons rfl (fun K hK => ?_) AllReadyH.nil)
          rw [if_pos (by rfl)]
          refine wp_store_mid 48 (.tmp 14) (.tmp 83) rfl w5.drew.heap.size 0 (pfl t qy k2).toArray rfl rfl (by have h := HF.out.2.2.there (zs_length 16); have e : (pfl t qy k2).toArray.size = 18 := (by rw [List.size_toArray, pfl_len t qy k2 HQL.out]); rw [e]; exact h) (by have e : (pfl t qy k2).toArray.size = 18 := (by rw [List.size_toArray, pfl_len t qy k2 HQL.out]); rw [e]; exact infP) (all_oneCell_toArray (pfl_one t qy k2)) ?_
          have hf := two_store2 hneq HF.out.2.1 HF.out.2.2 hw7.out HF.out.1 t qy k2 HQL.out (by intro x hx; simp only [List.mem_cons, List.not_mem_nil, or_false] at hx; have h1 := HLT.out; have h2 := hv7.out; rcases hx with rfl | rfl <;> (show _ ≠ _; omega))
          obtain ⟨wz, hwz⟩ : ∃ y, wy.setCells w5.drew.heap.size 0 (pfl t qy k2) = y := ⟨_, rfl⟩
          rw [hwz] at hf
          change K _ (wy.setCells w5.drew.heap.size 0 (pfl t qy k2))
          rw [hwz]
          clear hwz
          have HE := Lib.hid hf
          clear hf hS
          refine hK.out _ _ HE.out.1 (fun hS => ?_)
          clear hK K
          try simp only [Act.put]
          refine wpAnyH_done (by kernel_rfl) ?_ _
          go_wp2_with fail
          refine Met.intro (hJ0 _ _ ?_)
          exact ⟨x2.heap.size, w5.drew.heap.size, ⟨rfl, rfl⟩, rfl, rfl, rfl, rfl, rfl, rfl, HE.out.2⟩
    · rw [if_pos (by rfl)]
      go_wp2_with fail
      obtain ⟨x2, hx2⟩ : ∃ y, x1.alloc (.cells (pfl false (zs 16) 0).toArray 48) = y := ⟨_, rfl⟩
      have hb : Below x1.heap.size x1 x2 := by rw [← hx2]; exact bel1 _ _
      have hp6 : Hid (Pp x2 x1.heap.size false (zs 16) 0) := by rw [← hx2]; exact Pp.at_ rfl _ _ _
      have hz6 : Hid (x1.heap.size + 1 = x2.heap.size) := by rw [← hx2]; show _ = _; simp
      have hw6 : Hid (w.heap.size ≤ x1.heap.size) := HX1.out.1.size
      change K _ (x1.alloc (.cells (pfl false (zs 16) 0).toArray 48))
      rw [hx2]
      clear hx2
      have HX2 := Lib.hid (HX1.out.past hb)
      have hv6 : Hid (w5.heap.size ≤ x1.heap.size) := hq1.out
      replace hp7 := Lib.hid (hp7.out.below hb)
      have hy71 : Hid (x1.heap.size ≤ x2.heap.size) := hb.size
      have hq2 : Hid (w5.heap.size ≤ x2.heap.size) := Nat.le_trans hq1.out hb.size
      clear hb hS
      refine hK.out _ _ HX2.out (fun hS => ?_)
      clear hK K
      try simp only [Act.put, List.setIfInBounds_toArray, List.set_cons_zero, List.set_cons_succ]
      refine wpAnyH_ready (rs := [2]) (by kernel_rfl) (by simp) (AllReadyH.cons rfl (fun K hK => ?_) AllReadyH.nil)
      · rw [if_pos (by rfl)]
        go_wp2_with fail
        refine (aCut_any s xs m _ HLX.out HBX.out).mono ?_
        rintro e x3 ⟨rfl, hb⟩
        rw [HCP.out]
        have HX3 := Lib.hid (HX2.out.past hb)
        replace hp7 := Lib.hid (hp7.out.below hb)
        have hy72 : Hid (x2.heap.size ≤ x3.heap.size) := hb.size
        replace hp6 := Lib.hid (hp6.out.below hb)
        have hy62 : Hid (x2.heap.size ≤ x3.heap.size) := hb.size
        have hq3 : Hid (w5.heap.size ≤ x3.heap.size) := Nat.le_trans hq2.out hb.size
        clear hb hS
        refine hK.out _ _ HX3.out (fun hS => ?_)
        clear hK K
        try simp only [Act.put, List.setIfInBounds_toArray, List.set_cons_zero, List.set_cons_succ]
        refine wpAnyH_ready (rs := [5]) (by kernel_rfl) (by simp) (AllReadyH.cons rfl (fun K hK => ?_) AllReadyH.nil)
        · rw [if_pos (by rfl)]
          go_wp2_with fail
          refine (aCut_any t ys n _ HLY.out HBY.out).mono ?_
          rintro e x4 ⟨rfl, hb⟩
          rw [HCQ.out]
          have HX4 := Lib.hid (HX3.out.past hb)
          replace hp7 := Lib.hid (hp7.out.below hb)
          have hy73 : Hid (x3.heap.size ≤ x4.heap.size) := hb.size
          replace hp6 := Lib.hid (hp6.out.below hb)
          have hy63 : Hid (x3.heap.size ≤ x4.heap.size) := hb.size
          have hq4 : Hid (w5.heap.size ≤ x4.heap.size) := Nat.le_trans hq3.out hb.size
          clear hb hS
          refine hK.out _ _ HX4.out (fun hS => ?_)
          clear hK K
          have hneq : x1.heap.size ≠ w5.drew.heap.size := by
            have e1 := hz7.out
            omega
          try simp only [Act.put, List.setIfInBounds_toArray, List.set_cons_zero, List.set_cons_succ]
          refine wpAnyH_ready (rs := [8]) (by kernel_rfl) (by simp) (AllReadyH.cons rfl (fun K hK => ?_) AllReadyH.nil)
          rw [if_pos (by rfl)]
          refine wp_store_mid 48 (.tmp 13) (.tmp 80) rfl x1.heap.size 0 (pfl s px k1).toArray rfl rfl (by have h := hp6.out.there (zs_length 16); have e : (pfl s px k1).toArray.size = 18 := (by rw [List.size_toArray, pfl_len s px k1 HPL.out]); rw [e]; exact h) (by have e : (pfl s px k1).toArray.size = 18 := (by rw [List.size_toArray, pfl_len s px k1 HPL.out]); rw [e]; exact infP) (all_oneCell_toArray (pfl_one s px k1)) ?_
          have hf := two_store1 hneq hp6.out hp7.out hw6.out HX4.out s px k1 HPL.out (by intro x hx; simp only [List.mem_cons, List.not_mem_nil, or_false] at hx; have h1 := HLT.out; have h2 := hv6.out; rcases hx with rfl | rfl <;> (show _ ≠ _; omega))
          obtain ⟨wy, hwy⟩ : ∃ y, x4.setCells x1.heap.size 0 (pfl s px k1) = y := ⟨_, rfl⟩
          rw [hwy] at hf
          change K _ (x4.setCells x1.heap.size 0 (pfl s px k1))
          rw [hwy]
          clear hwy
          have HF := Lib.hid hf
          clear hf hS
          refine hK.out _ _ HF.out.1 (fun hS => ?_)
          clear hK K
          try simp only [Act.put, List.setIfInBounds_toArray]
          refine wpAnyH_ready (rs := [9]) (by kernel_rfl) (by simp) (AllReadyH.cons rfl (fun K hK => ?_) AllReadyH.nil)
          rw [if_pos (by rfl)]
          refine wp_store_mid 48 (.tmp 14) (.tmp 83) rfl w5.drew.heap.size 0 (pfl t qy k2).toArray rfl rfl (by have h := HF.out.2.2.there (zs_length 16); have e : (pfl t qy k2).toArray.size = 18 := (by rw [List.size_toArray, pfl_len t qy k2 HQL.out]); rw [e]; exact h) (by have e : (pfl t qy k2).toArray.size = 18 := (by rw [List.size_toArray, pfl_len t qy k2 HQL.out]); rw [e]; exact infP) (all_oneCell_toArray (pfl_one t qy k2)) ?_
          have hf := two_store2 hneq HF.out.2.1 HF.out.2.2 hw7.out HF.out.1 t qy k2 HQL.out (by intro x hx; simp only [List.mem_cons, List.not_mem_nil, or_false] at hx; have h1 := HLT.out; have h2 := hv7.out; rcases hx with rfl | rfl <;> (show _ ≠ _; omega))
          obtain ⟨wz, hwz⟩ : ∃ y, wy.setCells w5.drew.heap.size 0 (pfl t qy k2) = y := ⟨_, rfl⟩
          rw [hwz] at hf
          change K _ (wy.setCells w5.drew.heap.size 0 (pfl t qy k2))
          rw [hwz]
          clear hwz
          have HE := Lib.hid hf
          clear hf hS
          refine hK.out _ _ HE.out.1 (fun hS => ?_)
          clear hK K
          try simp only [Act.put]
          refine wpAnyH_done (by kernel_rfl) ?_ _
          go_wp2_with fail
          refine Met.intro (hJ0 _ _ ?_)
          exact ⟨x1.heap.size, w5.drew.heap.size, ⟨rfl, rfl⟩, rfl, rfl, rfl, rfl, rfl, rfl, HE.out.2⟩

set_option maxRecDepth 100000 in
set_option maxHeartbeats 4000000 in
theorem k8 (w : World) (s : Bool) (t : Bool) (xs : List Int) (ys : List Int) (m : Int) (n : Int) (HG : Hid (Gl w)) (g4 : Nat) (g5 : Nat) (k1 : Int) (k2 : Int) (px : List Int) (qy : List Int) (HPL : Hid (px.length = 16)) (HPB : Hid (Byt px)) (HPT : Hid (pfO (txQ s px k1) = some (s, px, k1))) (w7 : World) (g13 : Nat) (g14 : Nat) (HM7 : Hid (Hs w w7 [(g14, pfl t qy k2), (g13, pfl s px k1), (g4, adl s xs), (g5, adl t ys)])) (a : Act) (hf : Fr 170 a) (h2 : sl a 2 = .int .i64 m) (h3 : sl a 3 = .int .i64 n) (h4 : sl a 4 = .pointer (some ⟨g4, 0, none⟩)) (h5 : sl a 5 = .pointer (some ⟨g5, 0, none⟩)) (h13 : sl a 13 = .pointer (some ⟨g13, 0, none⟩)) (h14 : sl a 14 = .pointer (some ⟨g14, 0, none⟩)) :
    Code.wp Tryd.prog (cAt [1,1,1,1,1,1,0] KBK) (Exit.then (fun a' w' => ∃ g15 : Nat, Fr 170 a' ∧ sl a' 2 = .int .i64 m ∧ sl a' 3 = .int .i64 n ∧ sl a' 4 = .pointer (some ⟨g4, 0, none⟩) ∧ sl a' 5 = .pointer (some ⟨g5, 0, none⟩) ∧ sl a' 13 = .pointer (some ⟨g13, 0, none⟩) ∧ sl a' 14 = .pointer (some ⟨g14, 0, none⟩) ∧ sl a' 15 = .pointer (some ⟨g15, 0, none⟩) ∧ sl a' 16 = .int .i64 0 ∧ Hs w w' [(g15, pfl s px k1), (g14, pfl t qy k2), (g13, pfl s px k1), (g4, adl s xs), (g5, adl t ys)]) Nope) a w7 := by
  obtain ⟨f, ha, hs⟩ := frKBK hf
  have e2 := (hs 2).trans h2
  have e3 := (hs 3).trans h3
  have e4 := (hs 4).trans h4
  have e5 := (hs 5).trans h5
  have e13 := (hs 13).trans h13
  have e14 := (hs 14).trans h14
  rw [e2, e3, e4, e5, e13, e14] at ha
  clear hs hf e2 h2 e3 h3 e4 h4 e5 h5 e13 h13 e14 h14
  subst ha
  refine piece2 fun J0 K0 hJ0 hK0 => ?_
  conv => arg 2; whnf
  go_wp2_with (refine ldP (.tmp 13) rfl rfl g13 0 rfl s px k1 HPL.out (by exact HM7.out.at_ g13 (pfl s px k1) (by simp)) ?_)
  refine (pText_any s px k1 _ (HM7.out.gl HG.out) HPL.out HPB.out).mono ?_
  rintro e wa ⟨rfl, hb⟩
  have HMa := Lib.hid (HM7.out.past hb)
  clear hb
  go_wp2_with fail
  refine (pp_yes HPT.out _ (HMa.out.gl HG.out) (txQ_le s px k1)).mono ?_
  rintro e wb ⟨rfl, hb⟩
  have HMb := Lib.hid (HMa.out.past hb)
  clear hb
  go_wp2_with (refine stNP (fun w' => World.rangeAt w' wb.heap.size 0 (pfl s px k1) ∧ Below wb.heap.size wb w') (.tmp 15) (.tmp 88) rfl rfl wb.heap.size 0 s px k1 rfl rfl HPL.out (there_new _ _ _ _ rfl _ rfl) (fresh_p wb _ rfl s px k1 HPL.out) ?_; rintro wc ⟨hr, hb⟩)
  have HMc := Lib.hid (HMb.out.add hb hr)
  refine Met.intro (hJ0 _ _ ?_)
  exact ⟨wb.heap.size, ⟨rfl, rfl⟩, rfl, rfl, rfl, rfl, rfl, rfl, rfl, rfl, HMc.out⟩

set_option maxRecDepth 100000 in
set_option maxHeartbeats 4000000 in
theorem k9 (w : World) (s : Bool) (t : Bool) (xs : List Int) (ys : List Int) (m : Int) (n : Int) (HLX : Hid (xs.length = 16)) (HBX : Hid (Byt xs)) (g4 : Nat) (g5 : Nat) (k1 : Int) (k2 : Int) (px : List Int) (qy : List Int) (HPL : Hid (px.length = 16)) (HQL : Hid (qy.length = 16)) (HPB : Hid (Byt px)) (HPR : Hid (prt s px k1 = true)) (HHA : Hid (phs s px k1 s xs = true)) (HWP : Hid (wiP s px k1 s px k1 = true)) (HWQ : Hid (wiP s px k1 t qy k2 = (phs t qy k2 s px && decide (k2 ≤ k1)))) (g13 : Nat) (g14 : Nat) (w8 : World) (g15 : Nat) (HM8 : Hid (Hs w w8 [(g15, pfl s px k1), (g14, pfl t qy k2), (g13, pfl s px k1), (g4, adl s xs), (g5, adl t ys)])) (a : Act) (hf : Fr 170 a) (h2 : sl a 2 = .int .i64 m) (h3 : sl a 3 = .int .i64 n) (h4 : sl a 4 = .pointer (some ⟨g4, 0, none⟩)) (h5 : sl a 5 = .pointer (some ⟨g5, 0, none⟩)) (h13 : sl a 13 = .pointer (some ⟨g13, 0, none⟩)) (h14 : sl a 14 = .pointer (some ⟨g14, 0, none⟩)) (h15 : sl a 15 = .pointer (some ⟨g15, 0, none⟩)) (h16 : sl a 16 = .int .i64 0) :
    Code.wp Tryd.prog (cAt [1,1,1,1,1,1,1,0,0] KBK) (Exit.then (fun a' w' => Fr 170 a' ∧ sl a' 2 = .int .i64 m ∧ sl a' 3 = .int .i64 n ∧ sl a' 4 = .pointer (some ⟨g4, 0, none⟩) ∧ sl a' 5 = .pointer (some ⟨g5, 0, none⟩) ∧ sl a' 13 = .pointer (some ⟨g13, 0, none⟩) ∧ sl a' 14 = .pointer (some ⟨g14, 0, none⟩) ∧ sl a' 15 = .pointer (some ⟨g15, 0, none⟩) ∧ sl a' 16 = .int .i64 0 ∧ sl a' 130 = .bool false ∧ Hs w w' [(g15, pfl s px k1), (g14, pfl t qy k2), (g13, pfl s px k1), (g4, adl s xs), (g5, adl t ys)]) Nope) a w8 := by
  obtain ⟨f, ha, hs⟩ := frKBK hf
  have e2 := (hs 2).trans h2
  have e3 := (hs 3).trans h3
  have e4 := (hs 4).trans h4
  have e5 := (hs 5).trans h5
  have e13 := (hs 13).trans h13
  have e14 := (hs 14).trans h14
  have e15 := (hs 15).trans h15
  have e16 := (hs 16).trans h16
  rw [e2, e3, e4, e5, e13, e14, e15, e16] at ha
  clear hs hf e2 h2 e3 h3 e4 h4 e5 h5 e13 h13 e14 h14 e15 h15 e16 h16
  subst ha
  refine piece2 fun J0 K0 hJ0 hK0 => ?_
  conv => arg 2; whnf
  by_cases hle : k2 ≤ k1
  · have hkk : Hid (k2 ≤ k1) := hle
    obtain ⟨b1, hb1⟩ : ∃ b, phs t qy k2 s px = b := ⟨_, rfl⟩
    have HB2 := Lib.hid hb1
    have HB1 : Hid (wiP s px k1 t qy k2 = b1) := by show _ = _; rw [HWQ.out, hb1, decide_eq_true hle, Bool.and_true]
    clear hb1 hle
    have HMd := Lib.hid HM8.out.drew
    refine wp_region_held_drew (S := fun w' => Hs w w' [(g15, pfl s px k1), (g14, pfl t qy k2), (g13, pfl s px k1), (g4, adl s xs), (g5, adl t ys)]) (by kernel_rfl) HMd.out (fun hS => ?_)
    refine tk 0 90 (.agg (pfl s px k1).toArray) rfl rfl (by kernel_rfl) (by kernel_rfl) (by kernel_rfl) (fun _ _ _ h => h) (yieldsIf_load_mid (by rfl) _ _ rfl (g13) (0) rfl (pfl s px k1) _ (fun w' h' => h'.at_ g13 (pfl s px k1) (by simp)) Tryd.underlying48 rfl (by rw [pfl_len s px k1 HPL.out]; exact infP)) hS ?_
    try simp only [Act.put, List.setIfInBounds_toArray, List.set_cons_zero, List.set_cons_succ]
    refine wpAnyH_ready (rs := [1]) (by kernel_rfl) (by simp) (AllReadyH.cons rfl (fun K hK => ?_) AllReadyH.nil)
    rw [if_pos (by rfl)]
    go_wp2_with fail
    refine (pRight_any s px k1 _ HPL.out HPB.out).mono ?_
    rintro e we ⟨rfl, hb⟩
    have HMe := Lib.hid (HMd.out.past hb)
    rw [HPR.out]
    clear hb
    clear hS
    refine hK.out _ _ (HMe.out) (fun hS => ?_)
    clear hK K
    try simp only [Act.put, List.setIfInBounds_toArray, List.set_cons_zero, List.set_cons_succ]
    refine tk 2 92 (.bool false) rfl rfl (by kernel_rfl) (by kernel_rfl) (by kernel_rfl) (fun _ _ _ h => h) (Or.inl ⟨by rfl, fun w' h' => ?_⟩) hS ?_
    · go_simp
    try simp only [Act.put, List.setIfInBounds_toArray, List.set_cons_zero, List.set_cons_succ]
    refine tk 3 93 (.bool false) rfl rfl (by kernel_rfl) (by kernel_rfl) (by kernel_rfl) (fun _ _ _ h => h) (Or.inl ⟨by rfl, fun w' h' => ?_⟩) hS ?_
    · go_simp
    try simp only [Act.put, List.setIfInBounds_toArray, List.set_cons_zero, List.set_cons_succ]
    refine tk 4 94 (.agg (pfl s px k1).toArray) rfl rfl (by kernel_rfl) (by kernel_rfl) (by kernel_rfl) (fun _ _ _ h => h) (yieldsIf_load_mid (by rfl) _ _ rfl (g13) (0) rfl (pfl s px k1) _ (fun w' h' => h'.at_ g13 (pfl s px k1) (by simp)) Tryd.underlying48 rfl (by rw [pfl_len s px k1 HPL.out]; exact infP)) hS ?_
    try simp only [Act.put, List.setIfInBounds_toArray, List.set_cons_zero, List.set_cons_succ]
    refine tk 5 95 (.agg (adl s xs).toArray) rfl rfl (by kernel_rfl) (by kernel_rfl) (by kernel_rfl) (fun _ _ _ h => h) (yieldsIf_load_mid (by rfl) _ _ rfl (g4) (0) rfl (adl s xs) _ (fun w' h' => h'.at_ g4 (adl s xs) (by simp)) Tryd.underlying24 rfl (by rw [adl_len s xs HLX.out]; exact infA)) hS ?_
    try simp only [Act.put, List.setIfInBounds_toArray, List.set_cons_zero, List.set_cons_succ]
    refine wpAnyH_ready (rs := [6]) (by kernel_rfl) (by simp) (AllReadyH.cons rfl (fun K hK => ?_) AllReadyH.nil)
    rw [if_pos (by rfl)]
    go_wp2_with fail
    refine (pHas_any s px k1 s xs _ HPL.out HLX.out HBX.out).mono ?_
    rintro e wf ⟨rfl, hb⟩
    have HMf := Lib.hid (HMe.out.past hb)
    rw [HHA.out]
    clear hb
    clear hS
    refine hK.out _ _ (HMf.out) (fun hS => ?_)
    clear hK K
    try simp only [Act.put, List.setIfInBounds_toArray, List.set_cons_zero, List.set_cons_succ]
    refine tk 7 97 (.bool false) rfl rfl (by kernel_rfl) (by kernel_rfl) (by kernel_rfl) (fun _ _ _ h => h) (Or.inl ⟨by rfl, fun w' h' => ?_⟩) hS ?_
    · go_simp
    try simp only [Act.put, List.setIfInBounds_toArray, List.set_cons_zero, List.set_cons_succ]
    refine tk 8 98 (.bool false) rfl rfl (by kernel_rfl) (by kernel_rfl) (by kernel_rfl) (fun _ _ _ h => h) (Or.inl ⟨by rfl, fun w' h' => ?_⟩) hS ?_
    · go_simp
    try simp only [Act.put, List.setIfInBounds_toArray, List.set_cons_zero, List.set_cons_succ]
    refine tk 9 99 (.bool false) rfl rfl (by kernel_rfl) (by kernel_rfl) (by kernel_rfl) (fun _ _ _ h => h) (Or.inl ⟨by rfl, fun w' h' => ?_⟩) hS ?_
    · go_simp
    try simp only [Act.put, List.setIfInBounds_toArray, List.set_cons_zero, List.set_cons_succ]
    refine tk 10 100 (.agg (pfl s px k1).toArray) rfl rfl (by kernel_rfl) (by kernel_rfl) (by kernel_rfl) (fun _ _ _ h => h) (yieldsIf_load_mid (by rfl) _ _ rfl (g15) (0) rfl (pfl s px k1) _ (fun w' h' => h'.at_ g15 (pfl s px k1) (by simp)) Tryd.underlying48 rfl (by rw [pfl_len s px k1 HPL.out]; exact infP)) hS ?_
    try simp only [Act.put, List.setIfInBounds_toArray, List.set_cons_zero, List.set_cons_succ]
    refine tk 11 101 (.agg (pfl s px k1).toArray) rfl rfl (by kernel_rfl) (by kernel_rfl) (by kernel_rfl) (fun _ _ _ h => h) (yieldsIf_load_mid (by rfl) _ _ rfl (g13) (0) rfl (pfl s px k1) _ (fun w' h' => h'.at_ g13 (pfl s px k1) (by simp)) Tryd.underlying48 rfl (by rw [pfl_len s px k1 HPL.out]; exact infP)) hS ?_
    try simp only [Act.put, List.setIfInBounds_toArray, List.set_cons_zero, List.set_cons_succ]
    refine tk 12 102 (.bool false) rfl rfl (by kernel_rfl) (by kernel_rfl) (by kernel_rfl) (fun _ _ _ h => h) (Or.inl ⟨by rfl, fun w' h' => ?_⟩) hS ?_
    · have q : ∀ w', (Op.equalIn 10000 48 (.agg (pfl s px k1).toArray) (.agg (pfl s px k1).toArray)).run Tryd.prog w' = .ok true w' := fun w' => by rw [eqP w' 9996 _ _ _ _ _ _ HPL.out HPL.out, decide_eq_true (And.intro (And.intro rfl rfl) rfl)]
      go_simp
    try simp only [Act.put, List.setIfInBounds_toArray, List.set_cons_zero, List.set_cons_succ]
    refine tk 13 103 (.bool false) rfl rfl (by kernel_rfl) (by kernel_rfl) (by kernel_rfl) (fun _ _ _ h => h) (Or.inl ⟨by rfl, fun w' h' => ?_⟩) hS ?_
    · go_simp
    try simp only [Act.put, List.setIfInBounds_toArray, List.set_cons_zero, List.set_cons_succ]
    refine tk 14 104 (.bool false) rfl rfl (by kernel_rfl) (by kernel_rfl) (by kernel_rfl) (fun _ _ _ h => h) (Or.inl ⟨by rfl, fun w' h' => ?_⟩) hS ?_
    · go_simp
    try simp only [Act.put, List.setIfInBounds_toArray, List.set_cons_zero, List.set_cons_succ]
    refine tk 15 105 (.int .i64 0) rfl rfl (by kernel_rfl) (by kernel_rfl) (by kernel_rfl) (fun _ _ _ h => h) (Or.inl ⟨by rfl, fun w' h' => ?_⟩) hS ?_
    · go_simp
    try simp only [Act.put, List.setIfInBounds_toArray, List.set_cons_zero, List.set_cons_succ]
    refine tk 16 106 (.bool false) rfl rfl (by kernel_rfl) (by kernel_rfl) (by kernel_rfl) (fun _ _ _ h => h) (Or.inl ⟨by rfl, fun w' h' => ?_⟩) hS ?_
    · go_simp
    try simp only [Act.put, List.setIfInBounds_toArray, List.set_cons_zero, List.set_cons_succ]
    refine tk 17 107 (.bool false) rfl rfl (by kernel_rfl) (by kernel_rfl) (by kernel_rfl) (fun _ _ _ h => h) (Or.inl ⟨by rfl, fun w' h' => ?_⟩) hS ?_
    · go_simp
    try simp only [Act.put, List.setIfInBounds_toArray, List.set_cons_zero, List.set_cons_succ]
    refine tk 18 108 (.bool false) rfl rfl (by kernel_rfl) (by kernel_rfl) (by kernel_rfl) (fun _ _ _ h => h) (Or.inl ⟨by rfl, fun w' h' => ?_⟩) hS ?_
    · go_simp
    try simp only [Act.put, List.setIfInBounds_toArray, List.set_cons_zero, List.set_cons_succ]
    refine tk 19 109 (.agg (pfl s px k1).toArray) rfl rfl (by kernel_rfl) (by kernel_rfl) (by kernel_rfl) (fun _ _ _ h => h) (yieldsIf_load_mid (by rfl) _ _ rfl (g13) (0) rfl (pfl s px k1) _ (fun w' h' => h'.at_ g13 (pfl s px k1) (by simp)) Tryd.underlying48 rfl (by rw [pfl_len s px k1 HPL.out]; exact infP)) hS ?_
    try simp only [Act.put, List.setIfInBounds_toArray, List.set_cons_zero, List.set_cons_succ]
    refine tk 20 110 (.agg (pfl s px k1).toArray) rfl rfl (by kernel_rfl) (by kernel_rfl) (by kernel_rfl) (fun _ _ _ h => h) (yieldsIf_load_mid (by rfl) _ _ rfl (g13) (0) rfl (pfl s px k1) _ (fun w' h' => h'.at_ g13 (pfl s px k1) (by simp)) Tryd.underlying48 rfl (by rw [pfl_len s px k1 HPL.out]; exact infP)) hS ?_
    try simp only [Act.put, List.setIfInBounds_toArray, List.set_cons_zero, List.set_cons_succ]
    refine wpAnyH_ready (rs := [21]) (by kernel_rfl) (by simp) (AllReadyH.cons rfl (fun K hK => ?_) AllReadyH.nil)
    rw [if_pos (by rfl)]
    go_wp2_with fail
    refine (aWithin_any s px k1 s px k1 _ HPL.out HPL.out HPB.out).mono ?_
    rintro e wg ⟨rfl, hb⟩
    have HMg := Lib.hid (HMf.out.past hb)
    rw [HWP.out]
    clear hb
    clear hS
    refine hK.out _ _ (HMg.out) (fun hS => ?_)
    clear hK K
    try simp only [Act.put, List.setIfInBounds_toArray, List.set_cons_zero, List.set_cons_succ]
    refine tk 22 112 (.bool false) rfl rfl (by kernel_rfl) (by kernel_rfl) (by kernel_rfl) (fun _ _ _ h => h) (Or.inl ⟨by rfl, fun w' h' => ?_⟩) hS ?_
    · go_simp
    try simp only [Act.put, List.setIfInBounds_toArray, List.set_cons_zero, List.set_cons_succ]
    refine tk 23 113 (.bool false) rfl rfl (by kernel_rfl) (by kernel_rfl) (by kernel_rfl) (fun _ _ _ h => h) (Or.inl ⟨by rfl, fun w' h' => ?_⟩) hS ?_
    · go_simp
    try simp only [Act.put, List.setIfInBounds_toArray, List.set_cons_zero, List.set_cons_succ]
    refine tk 24 114 (.bool false) rfl rfl (by kernel_rfl) (by kernel_rfl) (by kernel_rfl) (fun _ _ _ h => h) (Or.inl ⟨by rfl, fun w' h' => ?_⟩) hS ?_
    · go_simp
    try simp only [Act.put, List.setIfInBounds_toArray, List.set_cons_zero, List.set_cons_succ]
    refine tk 25 115 (.agg (pfl s px k1).toArray) rfl rfl (by kernel_rfl) (by kernel_rfl) (by kernel_rfl) (fun _ _ _ h => h) (yieldsIf_load_mid (by rfl) _ _ rfl (g13) (0) rfl (pfl s px k1) _ (fun w' h' => h'.at_ g13 (pfl s px k1) (by simp)) Tryd.underlying48 rfl (by rw [pfl_len s px k1 HPL.out]; exact infP)) hS ?_
    try simp only [Act.put, List.setIfInBounds_toArray, List.set_cons_zero, List.set_cons_succ]
    refine tk 26 116 (.agg (pfl t qy k2).toArray) rfl rfl (by kernel_rfl) (by kernel_rfl) (by kernel_rfl) (fun _ _ _ h => h) (yieldsIf_load_mid (by rfl) _ _ rfl (g14) (0) rfl (pfl t qy k2) _ (fun w' h' => h'.at_ g14 (pfl t qy k2) (by simp)) Tryd.underlying48 rfl (by rw [pfl_len t qy k2 HQL.out]; exact infP)) hS ?_
    try simp only [Act.put, List.setIfInBounds_toArray, List.set_cons_zero, List.set_cons_succ]
    refine tk 28 118 (.pointer (some ⟨g13, 17, none⟩)) rfl rfl (by kernel_rfl) (by kernel_rfl) (by kernel_rfl) (fun _ _ _ h => h) (Or.inl ⟨by rfl, fun w' h' => ?_⟩) hS ?_
    · go_simp
    try simp only [Act.put, List.setIfInBounds_toArray, List.set_cons_zero, List.set_cons_succ]
    refine tk 29 119 (.int .i64 k1) rfl rfl (by kernel_rfl) (by kernel_rfl) (by kernel_rfl) (fun _ _ _ h => h) (Or.inl ⟨by rfl, fun w' h' => ?_⟩) hS ?_
    · have c := pfl_n (h'.at_ g13 (pfl s px k1) (by simp)) HPL.out
      go_simp
    try simp only [Act.put, List.setIfInBounds_toArray, List.set_cons_zero, List.set_cons_succ]
    refine tk 30 120 (.pointer (some ⟨g14, 17, none⟩)) rfl rfl (by kernel_rfl) (by kernel_rfl) (by kernel_rfl) (fun _ _ _ h => h) (Or.inl ⟨by rfl, fun w' h' => ?_⟩) hS ?_
    · go_simp
    try simp only [Act.put, List.setIfInBounds_toArray, List.set_cons_zero, List.set_cons_succ]
    refine tk 31 121 (.int .i64 k2) rfl rfl (by kernel_rfl) (by kernel_rfl) (by kernel_rfl) (fun _ _ _ h => h) (Or.inl ⟨by rfl, fun w' h' => ?_⟩) hS ?_
    · have c := pfl_n (h'.at_ g14 (pfl t qy k2) (by simp)) HQL.out
      go_simp
    try simp only [Act.put, List.setIfInBounds_toArray, List.set_cons_zero, List.set_cons_succ]
    refine tk 32 122 (.bool true) rfl rfl (by kernel_rfl) (by kernel_rfl) (by kernel_rfl) (fun _ _ _ h => h) (Or.inl ⟨by rfl, fun w' h' => ?_⟩) hS ?_
    · have q := hkk.out
      go_simp
    try simp only [Act.put, List.setIfInBounds_toArray, List.set_cons_zero, List.set_cons_succ]
    refine wpAnyH_ready (rs := [27]) (by kernel_rfl) (by simp) (AllReadyH.cons rfl (fun K hK => ?_) AllReadyH.nil)
    rw [if_pos (by rfl)]
    go_wp2_with fail
    refine (aWithin_any s px k1 t qy k2 _ HPL.out HQL.out HPB.out).mono ?_
    rintro e wh ⟨rfl, hb⟩
    have HMh := Lib.hid (HMg.out.past hb)
    rw [HB1.out]
    clear hb
    clear hS
    refine hK.out _ _ (HMh.out) (fun hS => ?_)
    clear hK K
    try simp only [Act.put, List.setIfInBounds_toArray, List.set_cons_zero, List.set_cons_succ]
    refine tk 33 123 (.bool true) rfl rfl (by kernel_rfl) (by kernel_rfl) (by kernel_rfl) (fun _ _ _ h => h) (Or.inl ⟨by rfl, fun w' h' => ?_⟩) hS ?_
    · go_simp
    try simp only [Act.put, List.setIfInBounds_toArray, List.set_cons_zero, List.set_cons_succ]
    refine tk 34 124 (.agg (pfl t qy k2).toArray) rfl rfl (by kernel_rfl) (by kernel_rfl) (by kernel_rfl) (fun _ _ _ h => h) (yieldsIf_load_mid (by rfl) _ _ rfl (g14) (0) rfl (pfl t qy k2) _ (fun w' h' => h'.at_ g14 (pfl t qy k2) (by simp)) Tryd.underlying48 rfl (by rw [pfl_len t qy k2 HQL.out]; exact infP)) hS ?_
    try simp only [Act.put, List.setIfInBounds_toArray, List.set_cons_zero, List.set_cons_succ]
    refine tk 35 125 (.pointer (some ⟨g13, 0, none⟩)) rfl rfl (by kernel_rfl) (by kernel_rfl) (by kernel_rfl) (fun _ _ _ h => h) (Or.inl ⟨by rfl, fun w' h' => ?_⟩) hS ?_
    · go_simp
    try simp only [Act.put, List.setIfInBounds_toArray, List.set_cons_zero, List.set_cons_succ]
    refine tk 36 126 (.agg (adl s px).toArray) rfl rfl (by kernel_rfl) (by kernel_rfl) (by kernel_rfl) (fun _ _ _ h => h) (yieldsIf_load_mid (by rfl) _ _ rfl (g13) (0) rfl (adl s px) _ (fun w' h' => pfl_adl (h'.at_ g13 (pfl s px k1) (by simp))) Tryd.underlying24 rfl (by rw [adl_len s px HPL.out]; exact infA)) hS ?_
    try simp only [Act.put, List.setIfInBounds_toArray, List.set_cons_zero, List.set_cons_succ]
    refine wpAnyH_ready (rs := [37]) (by kernel_rfl) (by simp) (AllReadyH.cons rfl (fun K hK => ?_) AllReadyH.nil)
    rw [if_pos (by rfl)]
    go_wp2_with fail
    refine (pHas_any t qy k2 s px _ HQL.out HPL.out HPB.out).mono ?_
    rintro e wi ⟨rfl, hb⟩
    have HMi := Lib.hid (HMh.out.past hb)
    rw [HB2.out]
    clear hb
    clear hS
    refine hK.out _ _ (HMi.out) (fun hS => ?_)
    clear hK K
    try simp only [Act.put, List.setIfInBounds_toArray, List.set_cons_zero, List.set_cons_succ]
    refine tk 38 128 (.bool b1) rfl rfl (by kernel_rfl) (by kernel_rfl) (by kernel_rfl) (fun _ _ _ h => h) (Or.inl ⟨by rfl, fun w' h' => ?_⟩) hS ?_
    · go_simp
    try simp only [Act.put, List.setIfInBounds_toArray, List.set_cons_zero, List.set_cons_succ]
    refine tk 39 129 (.bool false) rfl rfl (by kernel_rfl) (by kernel_rfl) (by kernel_rfl) (fun _ _ _ h => h) (Or.inl ⟨by rfl, fun w' h' => ?_⟩) hS ?_
    · go_simp
    try simp only [Act.put, List.setIfInBounds_toArray, List.set_cons_zero, List.set_cons_succ]
    refine tk 40 130 (.bool false) rfl rfl (by kernel_rfl) (by kernel_rfl) (by kernel_rfl) (fun _ _ _ h => h) (Or.inl ⟨by rfl, fun w' h' => ?_⟩) hS ?_
    · go_simp
    refine wpAnyH_done (by kernel_rfl) ?_ _
    go_wp2_with fail
    refine Met.intro (hJ0 _ _ ?_)
    exact ⟨⟨rfl, rfl⟩, rfl, rfl, rfl, rfl, rfl, rfl, rfl, rfl, rfl, HMi.out⟩
  · have hkk : Hid (¬ k2 ≤ k1) := hle
    have HB1 : Hid (wiP s px k1 t qy k2 = false) := by show _ = _; rw [HWQ.out, decide_eq_false hle, Bool.and_false]
    clear hle
    have HMd := Lib.hid HM8.out.drew
    refine wp_region_held_drew (S := fun w' => Hs w w' [(g15, pfl s px k1), (g14, pfl t qy k2), (g13, pfl s px k1), (g4, adl s xs), (g5, adl t ys)]) (by kernel_rfl) HMd.out (fun hS => ?_)
    refine tk 0 90 (.agg (pfl s px k1).toArray) rfl rfl (by kernel_rfl) (by kernel_rfl) (by kernel_rfl) (fun _ _ _ h => h) (yieldsIf_load_mid (by rfl) _ _ rfl (g13) (0) rfl (pfl s px k1) _ (fun w' h' => h'.at_ g13 (pfl s px k1) (by simp)) Tryd.underlying48 rfl (by rw [pfl_len s px k1 HPL.out]; exact infP)) hS ?_
    try simp only [Act.put, List.setIfInBounds_toArray, List.set_cons_zero, List.set_cons_succ]
    refine wpAnyH_ready (rs := [1]) (by kernel_rfl) (by simp) (AllReadyH.cons rfl (fun K hK => ?_) AllReadyH.nil)
    rw [if_pos (by rfl)]
    go_wp2_with fail
    refine (pRight_any s px k1 _ HPL.out HPB.out).mono ?_
    rintro e we ⟨rfl, hb⟩
    have HMe := Lib.hid (HMd.out.past hb)
    rw [HPR.out]
    clear hb
    clear hS
    refine hK.out _ _ (HMe.out) (fun hS => ?_)
    clear hK K
    try simp only [Act.put, List.setIfInBounds_toArray, List.set_cons_zero, List.set_cons_succ]
    refine tk 2 92 (.bool false) rfl rfl (by kernel_rfl) (by kernel_rfl) (by kernel_rfl) (fun _ _ _ h => h) (Or.inl ⟨by rfl, fun w' h' => ?_⟩) hS ?_
    · go_simp
    try simp only [Act.put, List.setIfInBounds_toArray, List.set_cons_zero, List.set_cons_succ]
    refine tk 3 93 (.bool false) rfl rfl (by kernel_rfl) (by kernel_rfl) (by kernel_rfl) (fun _ _ _ h => h) (Or.inl ⟨by rfl, fun w' h' => ?_⟩) hS ?_
    · go_simp
    try simp only [Act.put, List.setIfInBounds_toArray, List.set_cons_zero, List.set_cons_succ]
    refine tk 4 94 (.agg (pfl s px k1).toArray) rfl rfl (by kernel_rfl) (by kernel_rfl) (by kernel_rfl) (fun _ _ _ h => h) (yieldsIf_load_mid (by rfl) _ _ rfl (g13) (0) rfl (pfl s px k1) _ (fun w' h' => h'.at_ g13 (pfl s px k1) (by simp)) Tryd.underlying48 rfl (by rw [pfl_len s px k1 HPL.out]; exact infP)) hS ?_
    try simp only [Act.put, List.setIfInBounds_toArray, List.set_cons_zero, List.set_cons_succ]
    refine tk 5 95 (.agg (adl s xs).toArray) rfl rfl (by kernel_rfl) (by kernel_rfl) (by kernel_rfl) (fun _ _ _ h => h) (yieldsIf_load_mid (by rfl) _ _ rfl (g4) (0) rfl (adl s xs) _ (fun w' h' => h'.at_ g4 (adl s xs) (by simp)) Tryd.underlying24 rfl (by rw [adl_len s xs HLX.out]; exact infA)) hS ?_
    try simp only [Act.put, List.setIfInBounds_toArray, List.set_cons_zero, List.set_cons_succ]
    refine wpAnyH_ready (rs := [6]) (by kernel_rfl) (by simp) (AllReadyH.cons rfl (fun K hK => ?_) AllReadyH.nil)
    rw [if_pos (by rfl)]
    go_wp2_with fail
    refine (pHas_any s px k1 s xs _ HPL.out HLX.out HBX.out).mono ?_
    rintro e wf ⟨rfl, hb⟩
    have HMf := Lib.hid (HMe.out.past hb)
    rw [HHA.out]
    clear hb
    clear hS
    refine hK.out _ _ (HMf.out) (fun hS => ?_)
    clear hK K
    try simp only [Act.put, List.setIfInBounds_toArray, List.set_cons_zero, List.set_cons_succ]
    refine tk 7 97 (.bool false) rfl rfl (by kernel_rfl) (by kernel_rfl) (by kernel_rfl) (fun _ _ _ h => h) (Or.inl ⟨by rfl, fun w' h' => ?_⟩) hS ?_
    · go_simp
    try simp only [Act.put, List.setIfInBounds_toArray, List.set_cons_zero, List.set_cons_succ]
    refine tk 8 98 (.bool false) rfl rfl (by kernel_rfl) (by kernel_rfl) (by kernel_rfl) (fun _ _ _ h => h) (Or.inl ⟨by rfl, fun w' h' => ?_⟩) hS ?_
    · go_simp
    try simp only [Act.put, List.setIfInBounds_toArray, List.set_cons_zero, List.set_cons_succ]
    refine tk 9 99 (.bool false) rfl rfl (by kernel_rfl) (by kernel_rfl) (by kernel_rfl) (fun _ _ _ h => h) (Or.inl ⟨by rfl, fun w' h' => ?_⟩) hS ?_
    · go_simp
    try simp only [Act.put, List.setIfInBounds_toArray, List.set_cons_zero, List.set_cons_succ]
    refine tk 10 100 (.agg (pfl s px k1).toArray) rfl rfl (by kernel_rfl) (by kernel_rfl) (by kernel_rfl) (fun _ _ _ h => h) (yieldsIf_load_mid (by rfl) _ _ rfl (g15) (0) rfl (pfl s px k1) _ (fun w' h' => h'.at_ g15 (pfl s px k1) (by simp)) Tryd.underlying48 rfl (by rw [pfl_len s px k1 HPL.out]; exact infP)) hS ?_
    try simp only [Act.put, List.setIfInBounds_toArray, List.set_cons_zero, List.set_cons_succ]
    refine tk 11 101 (.agg (pfl s px k1).toArray) rfl rfl (by kernel_rfl) (by kernel_rfl) (by kernel_rfl) (fun _ _ _ h => h) (yieldsIf_load_mid (by rfl) _ _ rfl (g13) (0) rfl (pfl s px k1) _ (fun w' h' => h'.at_ g13 (pfl s px k1) (by simp)) Tryd.underlying48 rfl (by rw [pfl_len s px k1 HPL.out]; exact infP)) hS ?_
    try simp only [Act.put, List.setIfInBounds_toArray, List.set_cons_zero, List.set_cons_succ]
    refine tk 12 102 (.bool false) rfl rfl (by kernel_rfl) (by kernel_rfl) (by kernel_rfl) (fun _ _ _ h => h) (Or.inl ⟨by rfl, fun w' h' => ?_⟩) hS ?_
    · have q : ∀ w', (Op.equalIn 10000 48 (.agg (pfl s px k1).toArray) (.agg (pfl s px k1).toArray)).run Tryd.prog w' = .ok true w' := fun w' => by rw [eqP w' 9996 _ _ _ _ _ _ HPL.out HPL.out, decide_eq_true (And.intro (And.intro rfl rfl) rfl)]
      go_simp
    try simp only [Act.put, List.setIfInBounds_toArray, List.set_cons_zero, List.set_cons_succ]
    refine tk 13 103 (.bool false) rfl rfl (by kernel_rfl) (by kernel_rfl) (by kernel_rfl) (fun _ _ _ h => h) (Or.inl ⟨by rfl, fun w' h' => ?_⟩) hS ?_
    · go_simp
    try simp only [Act.put, List.setIfInBounds_toArray, List.set_cons_zero, List.set_cons_succ]
    refine tk 14 104 (.bool false) rfl rfl (by kernel_rfl) (by kernel_rfl) (by kernel_rfl) (fun _ _ _ h => h) (Or.inl ⟨by rfl, fun w' h' => ?_⟩) hS ?_
    · go_simp
    try simp only [Act.put, List.setIfInBounds_toArray, List.set_cons_zero, List.set_cons_succ]
    refine tk 15 105 (.int .i64 0) rfl rfl (by kernel_rfl) (by kernel_rfl) (by kernel_rfl) (fun _ _ _ h => h) (Or.inl ⟨by rfl, fun w' h' => ?_⟩) hS ?_
    · go_simp
    try simp only [Act.put, List.setIfInBounds_toArray, List.set_cons_zero, List.set_cons_succ]
    refine tk 16 106 (.bool false) rfl rfl (by kernel_rfl) (by kernel_rfl) (by kernel_rfl) (fun _ _ _ h => h) (Or.inl ⟨by rfl, fun w' h' => ?_⟩) hS ?_
    · go_simp
    try simp only [Act.put, List.setIfInBounds_toArray, List.set_cons_zero, List.set_cons_succ]
    refine tk 17 107 (.bool false) rfl rfl (by kernel_rfl) (by kernel_rfl) (by kernel_rfl) (fun _ _ _ h => h) (Or.inl ⟨by rfl, fun w' h' => ?_⟩) hS ?_
    · go_simp
    try simp only [Act.put, List.setIfInBounds_toArray, List.set_cons_zero, List.set_cons_succ]
    refine tk 18 108 (.bool false) rfl rfl (by kernel_rfl) (by kernel_rfl) (by kernel_rfl) (fun _ _ _ h => h) (Or.inl ⟨by rfl, fun w' h' => ?_⟩) hS ?_
    · go_simp
    try simp only [Act.put, List.setIfInBounds_toArray, List.set_cons_zero, List.set_cons_succ]
    refine tk 19 109 (.agg (pfl s px k1).toArray) rfl rfl (by kernel_rfl) (by kernel_rfl) (by kernel_rfl) (fun _ _ _ h => h) (yieldsIf_load_mid (by rfl) _ _ rfl (g13) (0) rfl (pfl s px k1) _ (fun w' h' => h'.at_ g13 (pfl s px k1) (by simp)) Tryd.underlying48 rfl (by rw [pfl_len s px k1 HPL.out]; exact infP)) hS ?_
    try simp only [Act.put, List.setIfInBounds_toArray, List.set_cons_zero, List.set_cons_succ]
    refine tk 20 110 (.agg (pfl s px k1).toArray) rfl rfl (by kernel_rfl) (by kernel_rfl) (by kernel_rfl) (fun _ _ _ h => h) (yieldsIf_load_mid (by rfl) _ _ rfl (g13) (0) rfl (pfl s px k1) _ (fun w' h' => h'.at_ g13 (pfl s px k1) (by simp)) Tryd.underlying48 rfl (by rw [pfl_len s px k1 HPL.out]; exact infP)) hS ?_
    try simp only [Act.put, List.setIfInBounds_toArray, List.set_cons_zero, List.set_cons_succ]
    refine wpAnyH_ready (rs := [21]) (by kernel_rfl) (by simp) (AllReadyH.cons rfl (fun K hK => ?_) AllReadyH.nil)
    rw [if_pos (by rfl)]
    go_wp2_with fail
    refine (aWithin_any s px k1 s px k1 _ HPL.out HPL.out HPB.out).mono ?_
    rintro e wg ⟨rfl, hb⟩
    have HMg := Lib.hid (HMf.out.past hb)
    rw [HWP.out]
    clear hb
    clear hS
    refine hK.out _ _ (HMg.out) (fun hS => ?_)
    clear hK K
    try simp only [Act.put, List.setIfInBounds_toArray, List.set_cons_zero, List.set_cons_succ]
    refine tk 22 112 (.bool false) rfl rfl (by kernel_rfl) (by kernel_rfl) (by kernel_rfl) (fun _ _ _ h => h) (Or.inl ⟨by rfl, fun w' h' => ?_⟩) hS ?_
    · go_simp
    try simp only [Act.put, List.setIfInBounds_toArray, List.set_cons_zero, List.set_cons_succ]
    refine tk 23 113 (.bool false) rfl rfl (by kernel_rfl) (by kernel_rfl) (by kernel_rfl) (fun _ _ _ h => h) (Or.inl ⟨by rfl, fun w' h' => ?_⟩) hS ?_
    · go_simp
    try simp only [Act.put, List.setIfInBounds_toArray, List.set_cons_zero, List.set_cons_succ]
    refine tk 24 114 (.bool false) rfl rfl (by kernel_rfl) (by kernel_rfl) (by kernel_rfl) (fun _ _ _ h => h) (Or.inl ⟨by rfl, fun w' h' => ?_⟩) hS ?_
    · go_simp
    try simp only [Act.put, List.setIfInBounds_toArray, List.set_cons_zero, List.set_cons_succ]
    refine tk 25 115 (.agg (pfl s px k1).toArray) rfl rfl (by kernel_rfl) (by kernel_rfl) (by kernel_rfl) (fun _ _ _ h => h) (yieldsIf_load_mid (by rfl) _ _ rfl (g13) (0) rfl (pfl s px k1) _ (fun w' h' => h'.at_ g13 (pfl s px k1) (by simp)) Tryd.underlying48 rfl (by rw [pfl_len s px k1 HPL.out]; exact infP)) hS ?_
    try simp only [Act.put, List.setIfInBounds_toArray, List.set_cons_zero, List.set_cons_succ]
    refine tk 26 116 (.agg (pfl t qy k2).toArray) rfl rfl (by kernel_rfl) (by kernel_rfl) (by kernel_rfl) (fun _ _ _ h => h) (yieldsIf_load_mid (by rfl) _ _ rfl (g14) (0) rfl (pfl t qy k2) _ (fun w' h' => h'.at_ g14 (pfl t qy k2) (by simp)) Tryd.underlying48 rfl (by rw [pfl_len t qy k2 HQL.out]; exact infP)) hS ?_
    try simp only [Act.put, List.setIfInBounds_toArray, List.set_cons_zero, List.set_cons_succ]
    refine tk 28 118 (.pointer (some ⟨g13, 17, none⟩)) rfl rfl (by kernel_rfl) (by kernel_rfl) (by kernel_rfl) (fun _ _ _ h => h) (Or.inl ⟨by rfl, fun w' h' => ?_⟩) hS ?_
    · go_simp
    try simp only [Act.put, List.setIfInBounds_toArray, List.set_cons_zero, List.set_cons_succ]
    refine tk 29 119 (.int .i64 k1) rfl rfl (by kernel_rfl) (by kernel_rfl) (by kernel_rfl) (fun _ _ _ h => h) (Or.inl ⟨by rfl, fun w' h' => ?_⟩) hS ?_
    · have c := pfl_n (h'.at_ g13 (pfl s px k1) (by simp)) HPL.out
      go_simp
    try simp only [Act.put, List.setIfInBounds_toArray, List.set_cons_zero, List.set_cons_succ]
    refine tk 30 120 (.pointer (some ⟨g14, 17, none⟩)) rfl rfl (by kernel_rfl) (by kernel_rfl) (by kernel_rfl) (fun _ _ _ h => h) (Or.inl ⟨by rfl, fun w' h' => ?_⟩) hS ?_
    · go_simp
    try simp only [Act.put, List.setIfInBounds_toArray, List.set_cons_zero, List.set_cons_succ]
    refine tk 31 121 (.int .i64 k2) rfl rfl (by kernel_rfl) (by kernel_rfl) (by kernel_rfl) (fun _ _ _ h => h) (Or.inl ⟨by rfl, fun w' h' => ?_⟩) hS ?_
    · have c := pfl_n (h'.at_ g14 (pfl t qy k2) (by simp)) HQL.out
      go_simp
    try simp only [Act.put, List.setIfInBounds_toArray, List.set_cons_zero, List.set_cons_succ]
    refine tk 32 122 (.bool false) rfl rfl (by kernel_rfl) (by kernel_rfl) (by kernel_rfl) (fun _ _ _ h => h) (Or.inl ⟨by rfl, fun w' h' => ?_⟩) hS ?_
    · have q := hkk.out
      go_simp
    try simp only [Act.put, List.setIfInBounds_toArray, List.set_cons_zero, List.set_cons_succ]
    refine wpAnyH_ready (rs := [27]) (by kernel_rfl) (by simp) (AllReadyH.cons rfl (fun K hK => ?_) AllReadyH.nil)
    rw [if_pos (by rfl)]
    go_wp2_with fail
    refine (aWithin_any s px k1 t qy k2 _ HPL.out HQL.out HPB.out).mono ?_
    rintro e wh ⟨rfl, hb⟩
    have HMh := Lib.hid (HMg.out.past hb)
    rw [HB1.out]
    clear hb
    clear hS
    refine hK.out _ _ (HMh.out) (fun hS => ?_)
    clear hK K
    try simp only [Act.put, List.setIfInBounds_toArray, List.set_cons_zero, List.set_cons_succ]
    refine tk 33 123 (.bool false) rfl rfl (by kernel_rfl) (by kernel_rfl) (by kernel_rfl) (fun _ _ _ h => h) (Or.inl ⟨by rfl, fun w' h' => ?_⟩) hS ?_
    · go_simp
    try simp only [Act.put, List.setIfInBounds_toArray, List.set_cons_zero, List.set_cons_succ]
    refine tk 34 124 undef rfl rfl (by kernel_rfl) (by kernel_rfl) (by kernel_rfl) (fun _ _ _ h => h) (Or.inr ⟨by rfl, rfl⟩) hS ?_
    try simp only [Act.put, List.setIfInBounds_toArray, List.set_cons_zero, List.set_cons_succ]
    refine tk 35 125 undef rfl rfl (by kernel_rfl) (by kernel_rfl) (by kernel_rfl) (fun _ _ _ h => h) (Or.inr ⟨by rfl, rfl⟩) hS ?_
    try simp only [Act.put, List.setIfInBounds_toArray, List.set_cons_zero, List.set_cons_succ]
    refine tk 36 126 undef rfl rfl (by kernel_rfl) (by kernel_rfl) (by kernel_rfl) (fun _ _ _ h => h) (Or.inr ⟨by rfl, rfl⟩) hS ?_
    try simp only [Act.put, List.setIfInBounds_toArray, List.set_cons_zero, List.set_cons_succ]
    refine tk 37 127 undef rfl rfl (by kernel_rfl) (by kernel_rfl) (by kernel_rfl) (fun _ _ _ h => h) (Or.inr ⟨by rfl, rfl⟩) hS ?_
    have HMi := HMh
    try simp only [Act.put, List.setIfInBounds_toArray, List.set_cons_zero, List.set_cons_succ]
    refine tk 38 128 (.bool false) rfl rfl (by kernel_rfl) (by kernel_rfl) (by kernel_rfl) (fun _ _ _ h => h) (Or.inl ⟨by rfl, fun w' h' => ?_⟩) hS ?_
    · go_simp
    try simp only [Act.put, List.setIfInBounds_toArray, List.set_cons_zero, List.set_cons_succ]
    refine tk 39 129 (.bool false) rfl rfl (by kernel_rfl) (by kernel_rfl) (by kernel_rfl) (fun _ _ _ h => h) (Or.inl ⟨by rfl, fun w' h' => ?_⟩) hS ?_
    · go_simp
    try simp only [Act.put, List.setIfInBounds_toArray, List.set_cons_zero, List.set_cons_succ]
    refine tk 40 130 (.bool false) rfl rfl (by kernel_rfl) (by kernel_rfl) (by kernel_rfl) (fun _ _ _ h => h) (Or.inl ⟨by rfl, fun w' h' => ?_⟩) hS ?_
    · go_simp
    refine wpAnyH_done (by kernel_rfl) ?_ _
    go_wp2_with fail
    refine Met.intro (hJ0 _ _ ?_)
    exact ⟨⟨rfl, rfl⟩, rfl, rfl, rfl, rfl, rfl, rfl, rfl, rfl, rfl, HMi.out⟩

set_option maxRecDepth 100000 in
set_option maxHeartbeats 4000000 in
theorem k11 (w : World) (s : Bool) (t : Bool) (xs : List Int) (ys : List Int) (m : Int) (n : Int) (HLX : Hid (xs.length = 16)) (HBX : Hid (Byt xs)) (g4 : Nat) (g5 : Nat) (k1 : Int) (k2 : Int) (k3 : Int) (px : List Int) (qy : List Int) (sx : List Int) (HSL : Hid (sx.length = 16)) (HCS : Hid (cutV s xs n = pfl s sx k3)) (g13 : Nat) (g14 : Nat) (g15 : Nat) (w9 : World) (HM9 : Hid (Hs w w9 [(g15, pfl s px k1), (g14, pfl t qy k2), (g13, pfl s px k1), (g4, adl s xs), (g5, adl t ys)])) (a : Act) (hf : Fr 170 a) (h2 : sl a 2 = .int .i64 m) (h3 : sl a 3 = .int .i64 n) (h4 : sl a 4 = .pointer (some ⟨g4, 0, none⟩)) (h5 : sl a 5 = .pointer (some ⟨g5, 0, none⟩)) (h13 : sl a 13 = .pointer (some ⟨g13, 0, none⟩)) (h14 : sl a 14 = .pointer (some ⟨g14, 0, none⟩)) (h15 : sl a 15 = .pointer (some ⟨g15, 0, none⟩)) (h16 : sl a 16 = .int .i64 0) :
    Code.wp Tryd.prog (cAt [1,1,1,1,1,1,1,1,0] KBK) (Exit.then (fun a' w' => ∃ g17 : Nat, Fr 170 a' ∧ sl a' 2 = .int .i64 m ∧ sl a' 3 = .int .i64 n ∧ sl a' 4 = .pointer (some ⟨g4, 0, none⟩) ∧ sl a' 5 = .pointer (some ⟨g5, 0, none⟩) ∧ sl a' 13 = .pointer (some ⟨g13, 0, none⟩) ∧ sl a' 14 = .pointer (some ⟨g14, 0, none⟩) ∧ sl a' 15 = .pointer (some ⟨g15, 0, none⟩) ∧ sl a' 16 = .int .i64 0 ∧ sl a' 17 = .pointer (some ⟨g17, 0, none⟩) ∧ Hs w w' [(g17, pfl s sx k3), (g15, pfl s px k1), (g14, pfl t qy k2), (g13, pfl s px k1), (g4, adl s xs), (g5, adl t ys)]) Nope) a w9 := by
  obtain ⟨f, ha, hs⟩ := frKBK hf
  have e2 := (hs 2).trans h2
  have e3 := (hs 3).trans h3
  have e4 := (hs 4).trans h4
  have e5 := (hs 5).trans h5
  have e13 := (hs 13).trans h13
  have e14 := (hs 14).trans h14
  have e15 := (hs 15).trans h15
  have e16 := (hs 16).trans h16
  rw [e2, e3, e4, e5, e13, e14, e15, e16] at ha
  clear hs hf e2 h2 e3 h3 e4 h4 e5 h5 e13 h13 e14 h14 e15 h15 e16 h16
  subst ha
  refine piece2 fun J0 K0 hJ0 hK0 => ?_
  conv => arg 2; whnf
  go_wp2_with (refine ldA (.tmp 4) rfl rfl g4 0 rfl s xs HLX.out (by exact HM9.out.at_ g4 (adl s xs) (by simp)) ?_)
  refine (aCut_any s xs n _ HLX.out HBX.out).mono ?_
  rintro e wb ⟨rfl, hb⟩
  rw [HCS.out]
  have HMb := Lib.hid (HM9.out.past hb)
  clear hb
  go_wp2_with (refine stNP (fun w' => World.rangeAt w' wb.heap.size 0 (pfl s sx k3) ∧ Below wb.heap.size wb w') (.tmp 17) (.tmp 133) rfl rfl wb.heap.size 0 s sx k3 rfl rfl HSL.out (there_new _ _ _ _ rfl _ rfl) (fresh_p wb _ rfl s sx k3 HSL.out) ?_; rintro wc ⟨hr, hb⟩)
  have HMc := Lib.hid (HMb.out.add hb hr)
  refine Met.intro (hJ0 _ _ ?_)
  exact ⟨wb.heap.size, ⟨rfl, rfl⟩, rfl, rfl, rfl, rfl, rfl, rfl, rfl, rfl, rfl, HMc.out⟩

set_option maxRecDepth 100000 in
set_option maxHeartbeats 4000000 in
theorem k12 (w : World) (s : Bool) (t : Bool) (xs : List Int) (ys : List Int) (m : Int) (n : Int) (HLX : Hid (xs.length = 16)) (HBX : Hid (Byt xs)) (g4 : Nat) (g5 : Nat) (k1 : Int) (k2 : Int) (k3 : Int) (px : List Int) (qy : List Int) (sx : List Int) (HPL : Hid (px.length = 16)) (HQL : Hid (qy.length = 16)) (HSL : Hid (sx.length = 16)) (HPB : Hid (Byt px)) (HCS : Hid (cutV s xs n = pfl s sx k3)) (HWS : Hid ((n ≤ m → wiP s px k1 s sx k3 = true))) (HHQ : Hid (phs t qy k2 s xs = (decide (s = t) && decide ((s = t ∧ sx = qy) ∧ k3 = k2)))) (g13 : Nat) (g14 : Nat) (g15 : Nat) (w11 : World) (g17 : Nat) (HM11 : Hid (Hs w w11 [(g17, pfl s sx k3), (g15, pfl s px k1), (g14, pfl t qy k2), (g13, pfl s px k1), (g4, adl s xs), (g5, adl t ys)])) (a : Act) (hf : Fr 170 a) (h2 : sl a 2 = .int .i64 m) (h3 : sl a 3 = .int .i64 n) (h4 : sl a 4 = .pointer (some ⟨g4, 0, none⟩)) (h5 : sl a 5 = .pointer (some ⟨g5, 0, none⟩)) (h13 : sl a 13 = .pointer (some ⟨g13, 0, none⟩)) (h14 : sl a 14 = .pointer (some ⟨g14, 0, none⟩)) (h15 : sl a 15 = .pointer (some ⟨g15, 0, none⟩)) (h16 : sl a 16 = .int .i64 0) (h17 : sl a 17 = .pointer (some ⟨g17, 0, none⟩)) :
    Code.wp Tryd.prog (cAt [1,1,1,1,1,1,1,1,1,0,0] KBK) (Exit.then (fun a' w' => Fr 170 a' ∧ sl a' 2 = .int .i64 m ∧ sl a' 3 = .int .i64 n ∧ sl a' 4 = .pointer (some ⟨g4, 0, none⟩) ∧ sl a' 5 = .pointer (some ⟨g5, 0, none⟩) ∧ sl a' 13 = .pointer (some ⟨g13, 0, none⟩) ∧ sl a' 14 = .pointer (some ⟨g14, 0, none⟩) ∧ sl a' 17 = .pointer (some ⟨g17, 0, none⟩) ∧ sl a' 160 = .bool false ∧ Hs w w' [(g17, pfl s sx k3), (g15, pfl s px k1), (g14, pfl t qy k2), (g13, pfl s px k1), (g4, adl s xs), (g5, adl t ys)]) Nope) a w11 := by
  obtain ⟨f, ha, hs⟩ := frKBK hf
  have e2 := (hs 2).trans h2
  have e3 := (hs 3).trans h3
  have e4 := (hs 4).trans h4
  have e5 := (hs 5).trans h5
  have e13 := (hs 13).trans h13
  have e14 := (hs 14).trans h14
  have e15 := (hs 15).trans h15
  have e16 := (hs 16).trans h16
  have e17 := (hs 17).trans h17
  rw [e2, e3, e4, e5, e13, e14, e15, e16, e17] at ha
  clear hs hf e2 h2 e3 h3 e4 h4 e5 h5 e13 h13 e14 h14 e15 h15 e16 h16 e17 h17
  subst ha
  refine piece2 fun J0 K0 hJ0 hK0 => ?_
  conv => arg 2; whnf
  by_cases hs : s = t
  · have hst : Hid ((s == t) = true) := by show _ = _; rw [hs]; exact beq_self_eq_true t
    obtain ⟨b2, hb2⟩ : ∃ b, decide ((s = t ∧ sx = qy) ∧ k3 = k2) = b := ⟨_, rfl⟩
    have HB2 : Hid (phs t qy k2 s xs = b2) := by show _ = _; rw [HHQ.out, hb2, decide_eq_true hs, Bool.true_and]
    have HE2 : Hid (∀ w', (Op.equalIn 10000 48 (.agg (pfl s sx k3).toArray) (.agg (pfl t qy k2).toArray)).run Tryd.prog w' = .ok b2 w') := fun w' => by rw [eqP w' 9996 _ _ _ _ _ _ HSL.out HQL.out, hb2]
    clear hb2 hs
    by_cases hnm0 : n ≤ m
    · have hnm : Hid (n ≤ m) := hnm0
      clear hnm0
      have HMd := Lib.hid HM11.out.drew
      refine wp_region_held_drew (S := fun w' => Hs w w' [(g17, pfl s sx k3), (g15, pfl s px k1), (g14, pfl t qy k2), (g13, pfl s px k1), (g4, adl s xs), (g5, adl t ys)]) (by kernel_rfl) HMd.out (fun hS => ?_)
      refine tk 0 134 (.int .i64 m) rfl rfl (by kernel_rfl) (by kernel_rfl) (by kernel_rfl) (fun _ _ _ h => h) (Or.inl ⟨by rfl, fun w' h' => ?_⟩) hS ?_
      · go_simp
      try simp only [Act.put, List.setIfInBounds_toArray, List.set_cons_zero, List.set_cons_succ]
      refine tk 1 135 (.int .i64 n) rfl rfl (by kernel_rfl) (by kernel_rfl) (by kernel_rfl) (fun _ _ _ h => h) (Or.inl ⟨by rfl, fun w' h' => ?_⟩) hS ?_
      · go_simp
      try simp only [Act.put, List.setIfInBounds_toArray, List.set_cons_zero, List.set_cons_succ]
      refine tk 2 136 (.bool true) rfl rfl (by kernel_rfl) (by kernel_rfl) (by kernel_rfl) (fun _ _ _ h => h) (Or.inl ⟨by rfl, fun w' h' => ?_⟩) hS ?_
      · have q := hnm.out
        go_simp
      try simp only [Act.put, List.setIfInBounds_toArray, List.set_cons_zero, List.set_cons_succ]
      refine tk 3 137 (.bool true) rfl rfl (by kernel_rfl) (by kernel_rfl) (by kernel_rfl) (fun _ _ _ h => h) (Or.inl ⟨by rfl, fun w' h' => ?_⟩) hS ?_
      · go_simp
      try simp only [Act.put, List.setIfInBounds_toArray, List.set_cons_zero, List.set_cons_succ]
      refine tk 4 138 (.agg (pfl s px k1).toArray) rfl rfl (by kernel_rfl) (by kernel_rfl) (by kernel_rfl) (fun _ _ _ h => h) (yieldsIf_load_mid (by rfl) _ _ rfl (g13) (0) rfl (pfl s px k1) _ (fun w' h' => h'.at_ g13 (pfl s px k1) (by simp)) Tryd.underlying48 rfl (by rw [pfl_len s px k1 HPL.out]; exact infP)) hS ?_
      try simp only [Act.put, List.setIfInBounds_toArray, List.set_cons_zero, List.set_cons_succ]
      refine tk 5 139 (.agg (pfl s sx k3).toArray) rfl rfl (by kernel_rfl) (by kernel_rfl) (by kernel_rfl) (fun _ _ _ h => h) (yieldsIf_load_mid (by rfl) _ _ rfl (g17) (0) rfl (pfl s sx k3) _ (fun w' h' => h'.at_ g17 (pfl s sx k3) (by simp)) Tryd.underlying48 rfl (by rw [pfl_len s sx k3 HSL.out]; exact infP)) hS ?_
      try simp only [Act.put, List.setIfInBounds_toArray, List.set_cons_zero, List.set_cons_succ]
      refine wpAnyH_ready (rs := [6]) (by kernel_rfl) (by simp) (AllReadyH.cons rfl (fun K hK => ?_) AllReadyH.nil)
      rw [if_pos (by rfl)]
      go_wp2_with fail
      refine (aWithin_any s px k1 s sx k3 _ HPL.out HSL.out HPB.out).mono ?_
      rintro e we ⟨rfl, hb⟩
      have HMe := Lib.hid (HMd.out.past hb)
      rw [(HWS.out hnm.out)]
      clear hb
      clear hS
      refine hK.out _ _ (HMe.out) (fun hS => ?_)
      clear hK K
      try simp only [Act.put, List.setIfInBounds_toArray, List.set_cons_zero, List.set_cons_succ]
      refine tk 7 141 (.bool false) rfl rfl (by kernel_rfl) (by kernel_rfl) (by kernel_rfl) (fun _ _ _ h => h) (Or.inl ⟨by rfl, fun w' h' => ?_⟩) hS ?_
      · go_simp
      try simp only [Act.put, List.setIfInBounds_toArray, List.set_cons_zero, List.set_cons_succ]
      refine tk 8 142 (.bool false) rfl rfl (by kernel_rfl) (by kernel_rfl) (by kernel_rfl) (fun _ _ _ h => h) (Or.inl ⟨by rfl, fun w' h' => ?_⟩) hS ?_
      · go_simp
      try simp only [Act.put, List.setIfInBounds_toArray, List.set_cons_zero, List.set_cons_succ]
      refine tk 9 143 (.bool false) rfl rfl (by kernel_rfl) (by kernel_rfl) (by kernel_rfl) (fun _ _ _ h => h) (Or.inl ⟨by rfl, fun w' h' => ?_⟩) hS ?_
      · go_simp
      try simp only [Act.put, List.setIfInBounds_toArray, List.set_cons_zero, List.set_cons_succ]
      refine tk 10 144 (.agg (pfl t qy k2).toArray) rfl rfl (by kernel_rfl) (by kernel_rfl) (by kernel_rfl) (fun _ _ _ h => h) (yieldsIf_load_mid (by rfl) _ _ rfl (g14) (0) rfl (pfl t qy k2) _ (fun w' h' => h'.at_ g14 (pfl t qy k2) (by simp)) Tryd.underlying48 rfl (by rw [pfl_len t qy k2 HQL.out]; exact infP)) hS ?_
      try simp only [Act.put, List.setIfInBounds_toArray, List.set_cons_zero, List.set_cons_succ]
      refine tk 11 145 (.agg (adl s xs).toArray) rfl rfl (by kernel_rfl) (by kernel_rfl) (by kernel_rfl) (fun _ _ _ h => h) (yieldsIf_load_mid (by rfl) _ _ rfl (g4) (0) rfl (adl s xs) _ (fun w' h' => h'.at_ g4 (adl s xs) (by simp)) Tryd.underlying24 rfl (by rw [adl_len s xs HLX.out]; exact infA)) hS ?_
      try simp only [Act.put, List.setIfInBounds_toArray, List.set_cons_zero, List.set_cons_succ]
      refine tk 13 147 (.pointer (some ⟨g4, 0, none⟩)) rfl rfl (by kernel_rfl) (by kernel_rfl) (by kernel_rfl) (fun _ _ _ h => h) (Or.inl ⟨by rfl, fun w' h' => ?_⟩) hS ?_
      · go_simp
      try simp only [Act.put, List.setIfInBounds_toArray, List.set_cons_zero, List.set_cons_succ]
      refine tk 14 148 (.bool s) rfl rfl (by kernel_rfl) (by kernel_rfl) (by kernel_rfl) (fun _ _ _ h => h) (Or.inl ⟨by rfl, fun w' h' => ?_⟩) hS ?_
      · have c := adl_six (h'.at_ g4 (adl s xs) (by simp))
        go_simp
      try simp only [Act.put, List.setIfInBounds_toArray, List.set_cons_zero, List.set_cons_succ]
      refine tk 15 149 (.pointer (some ⟨g5, 0, none⟩)) rfl rfl (by kernel_rfl) (by kernel_rfl) (by kernel_rfl) (fun _ _ _ h => h) (Or.inl ⟨by rfl, fun w' h' => ?_⟩) hS ?_
      · go_simp
      try simp only [Act.put, List.setIfInBounds_toArray, List.set_cons_zero, List.set_cons_succ]
      refine tk 16 150 (.bool t) rfl rfl (by kernel_rfl) (by kernel_rfl) (by kernel_rfl) (fun _ _ _ h => h) (Or.inl ⟨by rfl, fun w' h' => ?_⟩) hS ?_
      · have c := adl_six (h'.at_ g5 (adl t ys) (by simp))
        go_simp
      try simp only [Act.put, List.setIfInBounds_toArray, List.set_cons_zero, List.set_cons_succ]
      refine tk 17 151 (.bool true) rfl rfl (by kernel_rfl) (by kernel_rfl) (by kernel_rfl) (fun _ _ _ h => h) (Or.inl ⟨by rfl, fun w' h' => ?_⟩) hS ?_
      · have q := hst.out
        go_simp
      try simp only [Act.put, List.setIfInBounds_toArray, List.set_cons_zero, List.set_cons_succ]
      refine wpAnyH_ready (rs := [12]) (by kernel_rfl) (by simp) (AllReadyH.cons rfl (fun K hK => ?_) AllReadyH.nil)
      rw [if_pos (by rfl)]
      go_wp2_with fail
      refine (pHas_any t qy k2 s xs _ HQL.out HLX.out HBX.out).mono ?_
      rintro e wf ⟨rfl, hb⟩
      have HMf := Lib.hid (HMe.out.past hb)
      rw [HB2.out]
      clear hb
      clear hS
      refine hK.out _ _ (HMf.out) (fun hS => ?_)
      clear hK K
      try simp only [Act.put, List.setIfInBounds_toArray, List.set_cons_zero, List.set_cons_succ]
      refine tk 18 152 (.bool true) rfl rfl (by kernel_rfl) (by kernel_rfl) (by kernel_rfl) (fun _ _ _ h => h) (Or.inl ⟨by rfl, fun w' h' => ?_⟩) hS ?_
      · go_simp
      try simp only [Act.put, List.setIfInBounds_toArray, List.set_cons_zero, List.set_cons_succ]
      refine tk 19 153 (.agg (adl s xs).toArray) rfl rfl (by kernel_rfl) (by kernel_rfl) (by kernel_rfl) (fun _ _ _ h => h) (yieldsIf_load_mid (by rfl) _ _ rfl (g4) (0) rfl (adl s xs) _ (fun w' h' => h'.at_ g4 (adl s xs) (by simp)) Tryd.underlying24 rfl (by rw [adl_len s xs HLX.out]; exact infA)) hS ?_
      try simp only [Act.put, List.setIfInBounds_toArray, List.set_cons_zero, List.set_cons_succ]
      refine tk 20 154 (.int .i64 n) rfl rfl (by kernel_rfl) (by kernel_rfl) (by kernel_rfl) (fun _ _ _ h => h) (Or.inl ⟨by rfl, fun w' h' => ?_⟩) hS ?_
      · go_simp
      try simp only [Act.put, List.setIfInBounds_toArray, List.set_cons_zero, List.set_cons_succ]
      refine tk 22 156 (.agg (pfl t qy k2).toArray) rfl rfl (by kernel_rfl) (by kernel_rfl) (by kernel_rfl) (fun _ _ _ h => h) (yieldsIf_load_mid (by rfl) _ _ rfl (g14) (0) rfl (pfl t qy k2) _ (fun w' h' => h'.at_ g14 (pfl t qy k2) (by simp)) Tryd.underlying48 rfl (by rw [pfl_len t qy k2 HQL.out]; exact infP)) hS ?_
      try simp only [Act.put, List.setIfInBounds_toArray, List.set_cons_zero, List.set_cons_succ]
      refine wpAnyH_ready (rs := [21]) (by kernel_rfl) (by simp) (AllReadyH.cons rfl (fun K hK => ?_) AllReadyH.nil)
      rw [if_pos (by rfl)]
      go_wp2_with fail
      refine (aCut_any s xs n _ HLX.out HBX.out).mono ?_
      rintro e wi ⟨rfl, hb⟩
      have HMi := Lib.hid (HMf.out.past hb)
      rw [HCS.out]
      clear hb
      clear hS
      refine hK.out _ _ (HMi.out) (fun hS => ?_)
      clear hK K
      try simp only [Act.put, List.setIfInBounds_toArray, List.set_cons_zero, List.set_cons_succ]
      refine tk 23 157 (.bool b2) rfl rfl (by kernel_rfl) (by kernel_rfl) (by kernel_rfl) (fun _ _ _ h => h) (Or.inl ⟨by rfl, fun w' h' => ?_⟩) hS ?_
      · have q := fun w' => HE2.out w'
        go_simp
      try simp only [Act.put, List.setIfInBounds_toArray, List.set_cons_zero, List.set_cons_succ]
      refine tk 24 158 (.bool b2) rfl rfl (by kernel_rfl) (by kernel_rfl) (by kernel_rfl) (fun _ _ _ h => h) (Or.inl ⟨by rfl, fun w' h' => ?_⟩) hS ?_
      · go_simp
      try simp only [Act.put, List.setIfInBounds_toArray, List.set_cons_zero, List.set_cons_succ]
      refine tk 25 159 (.bool false) rfl rfl (by kernel_rfl) (by kernel_rfl) (by kernel_rfl) (fun _ _ _ h => h) (Or.inl ⟨by rfl, fun w' h' => ?_⟩) hS ?_
      · go_simp
      try simp only [Act.put, List.setIfInBounds_toArray, List.set_cons_zero, List.set_cons_succ]
      refine tk 26 160 (.bool false) rfl rfl (by kernel_rfl) (by kernel_rfl) (by kernel_rfl) (fun _ _ _ h => h) (Or.inl ⟨by rfl, fun w' h' => ?_⟩) hS ?_
      · go_simp
      refine wpAnyH_done (by kernel_rfl) ?_ _
      go_wp2_with fail
      refine Met.intro (hJ0 _ _ ?_)
      exact ⟨⟨rfl, rfl⟩, rfl, rfl, rfl, rfl, rfl, rfl, rfl, rfl, HMi.out⟩
    · have hnm : Hid (¬ n ≤ m) := hnm0
      clear hnm0
      have HMd := Lib.hid HM11.out.drew
      refine wp_region_held_drew (S := fun w' => Hs w w' [(g17, pfl s sx k3), (g15, pfl s px k1), (g14, pfl t qy k2), (g13, pfl s px k1), (g4, adl s xs), (g5, adl t ys)]) (by kernel_rfl) HMd.out (fun hS => ?_)
      refine tk 0 134 (.int .i64 m) rfl rfl (by kernel_rfl) (by kernel_rfl) (by kernel_rfl) (fun _ _ _ h => h) (Or.inl ⟨by rfl, fun w' h' => ?_⟩) hS ?_
      · go_simp
      try simp only [Act.put, List.setIfInBounds_toArray, List.set_cons_zero, List.set_cons_succ]
      refine tk 1 135 (.int .i64 n) rfl rfl (by kernel_rfl) (by kernel_rfl) (by kernel_rfl) (fun _ _ _ h => h) (Or.inl ⟨by rfl, fun w' h' => ?_⟩) hS ?_
      · go_simp
      try simp only [Act.put, List.setIfInBounds_toArray, List.set_cons_zero, List.set_cons_succ]
      refine tk 2 136 (.bool false) rfl rfl (by kernel_rfl) (by kernel_rfl) (by kernel_rfl) (fun _ _ _ h => h) (Or.inl ⟨by rfl, fun w' h' => ?_⟩) hS ?_
      · have q := hnm.out
        go_simp
      try simp only [Act.put, List.setIfInBounds_toArray, List.set_cons_zero, List.set_cons_succ]
      refine tk 3 137 (.bool false) rfl rfl (by kernel_rfl) (by kernel_rfl) (by kernel_rfl) (fun _ _ _ h => h) (Or.inl ⟨by rfl, fun w' h' => ?_⟩) hS ?_
      · go_simp
      try simp only [Act.put, List.setIfInBounds_toArray, List.set_cons_zero, List.set_cons_succ]
      refine tk 4 138 undef rfl rfl (by kernel_rfl) (by kernel_rfl) (by kernel_rfl) (fun _ _ _ h => h) (Or.inr ⟨by rfl, rfl⟩) hS ?_
      try simp only [Act.put, List.setIfInBounds_toArray, List.set_cons_zero, List.set_cons_succ]
      refine tk 5 139 undef rfl rfl (by kernel_rfl) (by kernel_rfl) (by kernel_rfl) (fun _ _ _ h => h) (Or.inr ⟨by rfl, rfl⟩) hS ?_
      try simp only [Act.put, List.setIfInBounds_toArray, List.set_cons_zero, List.set_cons_succ]
      refine tk 6 140 undef rfl rfl (by kernel_rfl) (by kernel_rfl) (by kernel_rfl) (fun _ _ _ h => h) (Or.inr ⟨by rfl, rfl⟩) hS ?_
      try simp only [Act.put, List.setIfInBounds_toArray, List.set_cons_zero, List.set_cons_succ]
      refine tk 7 141 undef rfl rfl (by kernel_rfl) (by kernel_rfl) (by kernel_rfl) (fun _ _ _ h => h) (Or.inr ⟨by rfl, rfl⟩) hS ?_
      try simp only [Act.put, List.setIfInBounds_toArray, List.set_cons_zero, List.set_cons_succ]
      refine tk 8 142 (.bool false) rfl rfl (by kernel_rfl) (by kernel_rfl) (by kernel_rfl) (fun _ _ _ h => h) (Or.inl ⟨by rfl, fun w' h' => ?_⟩) hS ?_
      · go_simp
      try simp only [Act.put, List.setIfInBounds_toArray, List.set_cons_zero, List.set_cons_succ]
      refine tk 9 143 (.bool false) rfl rfl (by kernel_rfl) (by kernel_rfl) (by kernel_rfl) (fun _ _ _ h => h) (Or.inl ⟨by rfl, fun w' h' => ?_⟩) hS ?_
      · go_simp
      try simp only [Act.put, List.setIfInBounds_toArray, List.set_cons_zero, List.set_cons_succ]
      refine tk 10 144 (.agg (pfl t qy k2).toArray) rfl rfl (by kernel_rfl) (by kernel_rfl) (by kernel_rfl) (fun _ _ _ h => h) (yieldsIf_load_mid (by rfl) _ _ rfl (g14) (0) rfl (pfl t qy k2) _ (fun w' h' => h'.at_ g14 (pfl t qy k2) (by simp)) Tryd.underlying48 rfl (by rw [pfl_len t qy k2 HQL.out]; exact infP)) hS ?_
      try simp only [Act.put, List.setIfInBounds_toArray, List.set_cons_zero, List.set_cons_succ]
      refine tk 11 145 (.agg (adl s xs).toArray) rfl rfl (by kernel_rfl) (by kernel_rfl) (by kernel_rfl) (fun _ _ _ h => h) (yieldsIf_load_mid (by rfl) _ _ rfl (g4) (0) rfl (adl s xs) _ (fun w' h' => h'.at_ g4 (adl s xs) (by simp)) Tryd.underlying24 rfl (by rw [adl_len s xs HLX.out]; exact infA)) hS ?_
      try simp only [Act.put, List.setIfInBounds_toArray, List.set_cons_zero, List.set_cons_succ]
      refine tk 13 147 (.pointer (some ⟨g4, 0, none⟩)) rfl rfl (by kernel_rfl) (by kernel_rfl) (by kernel_rfl) (fun _ _ _ h => h) (Or.inl ⟨by rfl, fun w' h' => ?_⟩) hS ?_
      · go_simp
      try simp only [Act.put, List.setIfInBounds_toArray, List.set_cons_zero, List.set_cons_succ]
      refine tk 14 148 (.bool s) rfl rfl (by kernel_rfl) (by kernel_rfl) (by kernel_rfl) (fun _ _ _ h => h) (Or.inl ⟨by rfl, fun w' h' => ?_⟩) hS ?_
      · have c := adl_six (h'.at_ g4 (adl s xs) (by simp))
        go_simp
      try simp only [Act.put, List.setIfInBounds_toArray, List.set_cons_zero, List.set_cons_succ]
      refine tk 15 149 (.pointer (some ⟨g5, 0, none⟩)) rfl rfl (by kernel_rfl) (by kernel_rfl) (by kernel_rfl) (fun _ _ _ h => h) (Or.inl ⟨by rfl, fun w' h' => ?_⟩) hS ?_
      · go_simp
      try simp only [Act.put, List.setIfInBounds_toArray, List.set_cons_zero, List.set_cons_succ]
      refine tk 16 150 (.bool t) rfl rfl (by kernel_rfl) (by kernel_rfl) (by kernel_rfl) (fun _ _ _ h => h) (Or.inl ⟨by rfl, fun w' h' => ?_⟩) hS ?_
      · have c := adl_six (h'.at_ g5 (adl t ys) (by simp))
        go_simp
      try simp only [Act.put, List.setIfInBounds_toArray, List.set_cons_zero, List.set_cons_succ]
      refine tk 17 151 (.bool true) rfl rfl (by kernel_rfl) (by kernel_rfl) (by kernel_rfl) (fun _ _ _ h => h) (Or.inl ⟨by rfl, fun w' h' => ?_⟩) hS ?_
      · have q := hst.out
        go_simp
      try simp only [Act.put, List.setIfInBounds_toArray, List.set_cons_zero, List.set_cons_succ]
      refine wpAnyH_ready (rs := [12]) (by kernel_rfl) (by simp) (AllReadyH.cons rfl (fun K hK => ?_) AllReadyH.nil)
      rw [if_pos (by rfl)]
      go_wp2_with fail
      refine (pHas_any t qy k2 s xs _ HQL.out HLX.out HBX.out).mono ?_
      rintro e wf ⟨rfl, hb⟩
      have HMf := Lib.hid (HMd.out.past hb)
      rw [HB2.out]
      clear hb
      clear hS
      refine hK.out _ _ (HMf.out) (fun hS => ?_)
      clear hK K
      try simp only [Act.put, List.setIfInBounds_toArray, List.set_cons_zero, List.set_cons_succ]
      refine tk 18 152 (.bool true) rfl rfl (by kernel_rfl) (by kernel_rfl) (by kernel_rfl) (fun _ _ _ h => h) (Or.inl ⟨by rfl, fun w' h' => ?_⟩) hS ?_
      · go_simp
      try simp only [Act.put, List.setIfInBounds_toArray, List.set_cons_zero, List.set_cons_succ]
      refine tk 19 153 (.agg (adl s xs).toArray) rfl rfl (by kernel_rfl) (by kernel_rfl) (by kernel_rfl) (fun _ _ _ h => h) (yieldsIf_load_mid (by rfl) _ _ rfl (g4) (0) rfl (adl s xs) _ (fun w' h' => h'.at_ g4 (adl s xs) (by simp)) Tryd.underlying24 rfl (by rw [adl_len s xs HLX.out]; exact infA)) hS ?_
      try simp only [Act.put, List.setIfInBounds_toArray, List.set_cons_zero, List.set_cons_succ]
      refine tk 20 154 (.int .i64 n) rfl rfl (by kernel_rfl) (by kernel_rfl) (by kernel_rfl) (fun _ _ _ h => h) (Or.inl ⟨by rfl, fun w' h' => ?_⟩) hS ?_
      · go_simp
      try simp only [Act.put, List.setIfInBounds_toArray, List.set_cons_zero, List.set_cons_succ]
      refine tk 22 156 (.agg (pfl t qy k2).toArray) rfl rfl (by kernel_rfl) (by kernel_rfl) (by kernel_rfl) (fun _ _ _ h => h) (yieldsIf_load_mid (by rfl) _ _ rfl (g14) (0) rfl (pfl t qy k2) _ (fun w' h' => h'.at_ g14 (pfl t qy k2) (by simp)) Tryd.underlying48 rfl (by rw [pfl_len t qy k2 HQL.out]; exact infP)) hS ?_
      try simp only [Act.put, List.setIfInBounds_toArray, List.set_cons_zero, List.set_cons_succ]
      refine wpAnyH_ready (rs := [21]) (by kernel_rfl) (by simp) (AllReadyH.cons rfl (fun K hK => ?_) AllReadyH.nil)
      rw [if_pos (by rfl)]
      go_wp2_with fail
      refine (aCut_any s xs n _ HLX.out HBX.out).mono ?_
      rintro e wi ⟨rfl, hb⟩
      have HMi := Lib.hid (HMf.out.past hb)
      rw [HCS.out]
      clear hb
      clear hS
      refine hK.out _ _ (HMi.out) (fun hS => ?_)
      clear hK K
      try simp only [Act.put, List.setIfInBounds_toArray, List.set_cons_zero, List.set_cons_succ]
      refine tk 23 157 (.bool b2) rfl rfl (by kernel_rfl) (by kernel_rfl) (by kernel_rfl) (fun _ _ _ h => h) (Or.inl ⟨by rfl, fun w' h' => ?_⟩) hS ?_
      · have q := fun w' => HE2.out w'
        go_simp
      try simp only [Act.put, List.setIfInBounds_toArray, List.set_cons_zero, List.set_cons_succ]
      refine tk 24 158 (.bool b2) rfl rfl (by kernel_rfl) (by kernel_rfl) (by kernel_rfl) (fun _ _ _ h => h) (Or.inl ⟨by rfl, fun w' h' => ?_⟩) hS ?_
      · go_simp
      try simp only [Act.put, List.setIfInBounds_toArray, List.set_cons_zero, List.set_cons_succ]
      refine tk 25 159 (.bool false) rfl rfl (by kernel_rfl) (by kernel_rfl) (by kernel_rfl) (fun _ _ _ h => h) (Or.inl ⟨by rfl, fun w' h' => ?_⟩) hS ?_
      · go_simp
      try simp only [Act.put, List.setIfInBounds_toArray, List.set_cons_zero, List.set_cons_succ]
      refine tk 26 160 (.bool false) rfl rfl (by kernel_rfl) (by kernel_rfl) (by kernel_rfl) (fun _ _ _ h => h) (Or.inl ⟨by rfl, fun w' h' => ?_⟩) hS ?_
      · go_simp
      refine wpAnyH_done (by kernel_rfl) ?_ _
      go_wp2_with fail
      refine Met.intro (hJ0 _ _ ?_)
      exact ⟨⟨rfl, rfl⟩, rfl, rfl, rfl, rfl, rfl, rfl, rfl, rfl, HMi.out⟩
  · have hst : Hid ((s == t) = false) := by show _ = _; simpa using hs
    have HB2 : Hid (phs t qy k2 s xs = false) := by show _ = _; rw [HHQ.out, decide_eq_false hs, Bool.false_and]
    clear hs
    by_cases hnm0 : n ≤ m
    · have hnm : Hid (n ≤ m) := hnm0
      clear hnm0
      have HMd := Lib.hid HM11.out.drew
      refine wp_region_held_drew (S := fun w' => Hs w w' [(g17, pfl s sx k3), (g15, pfl s px k1), (g14, pfl t qy k2), (g13, pfl s px k1), (g4, adl s xs), (g5, adl t ys)]) (by kernel_rfl) HMd.out (fun hS => ?_)
      refine tk 0 134 (.int .i64 m) rfl rfl (by kernel_rfl) (by kernel_rfl) (by kernel_rfl) (fun _ _ _ h => h) (Or.inl ⟨by rfl, fun w' h' => ?_⟩) hS ?_
      · go_simp
      try simp only [Act.put, List.setIfInBounds_toArray, List.set_cons_zero, List.set_cons_succ]
      refine tk 1 135 (.int .i64 n) rfl rfl (by kernel_rfl) (by kernel_rfl) (by kernel_rfl) (fun _ _ _ h => h) (Or.inl ⟨by rfl, fun w' h' => ?_⟩) hS ?_
      · go_simp
      try simp only [Act.put, List.setIfInBounds_toArray, List.set_cons_zero, List.set_cons_succ]
      refine tk 2 136 (.bool true) rfl rfl (by kernel_rfl) (by kernel_rfl) (by kernel_rfl) (fun _ _ _ h => h) (Or.inl ⟨by rfl, fun w' h' => ?_⟩) hS ?_
      · have q := hnm.out
        go_simp
      try simp only [Act.put, List.setIfInBounds_toArray, List.set_cons_zero, List.set_cons_succ]
      refine tk 3 137 (.bool true) rfl rfl (by kernel_rfl) (by kernel_rfl) (by kernel_rfl) (fun _ _ _ h => h) (Or.inl ⟨by rfl, fun w' h' => ?_⟩) hS ?_
      · go_simp
      try simp only [Act.put, List.setIfInBounds_toArray, List.set_cons_zero, List.set_cons_succ]
      refine tk 4 138 (.agg (pfl s px k1).toArray) rfl rfl (by kernel_rfl) (by kernel_rfl) (by kernel_rfl) (fun _ _ _ h => h) (yieldsIf_load_mid (by rfl) _ _ rfl (g13) (0) rfl (pfl s px k1) _ (fun w' h' => h'.at_ g13 (pfl s px k1) (by simp)) Tryd.underlying48 rfl (by rw [pfl_len s px k1 HPL.out]; exact infP)) hS ?_
      try simp only [Act.put, List.setIfInBounds_toArray, List.set_cons_zero, List.set_cons_succ]
      refine tk 5 139 (.agg (pfl s sx k3).toArray) rfl rfl (by kernel_rfl) (by kernel_rfl) (by kernel_rfl) (fun _ _ _ h => h) (yieldsIf_load_mid (by rfl) _ _ rfl (g17) (0) rfl (pfl s sx k3) _ (fun w' h' => h'.at_ g17 (pfl s sx k3) (by simp)) Tryd.underlying48 rfl (by rw [pfl_len s sx k3 HSL.out]; exact infP)) hS ?_
      try simp only [Act.put, List.setIfInBounds_toArray, List.set_cons_zero, List.set_cons_succ]
      refine wpAnyH_ready (rs := [6]) (by kernel_rfl) (by simp) (AllReadyH.cons rfl (fun K hK => ?_) AllReadyH.nil)
      rw [if_pos (by rfl)]
      go_wp2_with fail
      refine (aWithin_any s px k1 s sx k3 _ HPL.out HSL.out HPB.out).mono ?_
      rintro e we ⟨rfl, hb⟩
      have HMe := Lib.hid (HMd.out.past hb)
      rw [(HWS.out hnm.out)]
      clear hb
      clear hS
      refine hK.out _ _ (HMe.out) (fun hS => ?_)
      clear hK K
      try simp only [Act.put, List.setIfInBounds_toArray, List.set_cons_zero, List.set_cons_succ]
      refine tk 7 141 (.bool false) rfl rfl (by kernel_rfl) (by kernel_rfl) (by kernel_rfl) (fun _ _ _ h => h) (Or.inl ⟨by rfl, fun w' h' => ?_⟩) hS ?_
      · go_simp
      try simp only [Act.put, List.setIfInBounds_toArray, List.set_cons_zero, List.set_cons_succ]
      refine tk 8 142 (.bool false) rfl rfl (by kernel_rfl) (by kernel_rfl) (by kernel_rfl) (fun _ _ _ h => h) (Or.inl ⟨by rfl, fun w' h' => ?_⟩) hS ?_
      · go_simp
      try simp only [Act.put, List.setIfInBounds_toArray, List.set_cons_zero, List.set_cons_succ]
      refine tk 9 143 (.bool false) rfl rfl (by kernel_rfl) (by kernel_rfl) (by kernel_rfl) (fun _ _ _ h => h) (Or.inl ⟨by rfl, fun w' h' => ?_⟩) hS ?_
      · go_simp
      try simp only [Act.put, List.setIfInBounds_toArray, List.set_cons_zero, List.set_cons_succ]
      refine tk 10 144 (.agg (pfl t qy k2).toArray) rfl rfl (by kernel_rfl) (by kernel_rfl) (by kernel_rfl) (fun _ _ _ h => h) (yieldsIf_load_mid (by rfl) _ _ rfl (g14) (0) rfl (pfl t qy k2) _ (fun w' h' => h'.at_ g14 (pfl t qy k2) (by simp)) Tryd.underlying48 rfl (by rw [pfl_len t qy k2 HQL.out]; exact infP)) hS ?_
      try simp only [Act.put, List.setIfInBounds_toArray, List.set_cons_zero, List.set_cons_succ]
      refine tk 11 145 (.agg (adl s xs).toArray) rfl rfl (by kernel_rfl) (by kernel_rfl) (by kernel_rfl) (fun _ _ _ h => h) (yieldsIf_load_mid (by rfl) _ _ rfl (g4) (0) rfl (adl s xs) _ (fun w' h' => h'.at_ g4 (adl s xs) (by simp)) Tryd.underlying24 rfl (by rw [adl_len s xs HLX.out]; exact infA)) hS ?_
      try simp only [Act.put, List.setIfInBounds_toArray, List.set_cons_zero, List.set_cons_succ]
      refine tk 13 147 (.pointer (some ⟨g4, 0, none⟩)) rfl rfl (by kernel_rfl) (by kernel_rfl) (by kernel_rfl) (fun _ _ _ h => h) (Or.inl ⟨by rfl, fun w' h' => ?_⟩) hS ?_
      · go_simp
      try simp only [Act.put, List.setIfInBounds_toArray, List.set_cons_zero, List.set_cons_succ]
      refine tk 14 148 (.bool s) rfl rfl (by kernel_rfl) (by kernel_rfl) (by kernel_rfl) (fun _ _ _ h => h) (Or.inl ⟨by rfl, fun w' h' => ?_⟩) hS ?_
      · have c := adl_six (h'.at_ g4 (adl s xs) (by simp))
        go_simp
      try simp only [Act.put, List.setIfInBounds_toArray, List.set_cons_zero, List.set_cons_succ]
      refine tk 15 149 (.pointer (some ⟨g5, 0, none⟩)) rfl rfl (by kernel_rfl) (by kernel_rfl) (by kernel_rfl) (fun _ _ _ h => h) (Or.inl ⟨by rfl, fun w' h' => ?_⟩) hS ?_
      · go_simp
      try simp only [Act.put, List.setIfInBounds_toArray, List.set_cons_zero, List.set_cons_succ]
      refine tk 16 150 (.bool t) rfl rfl (by kernel_rfl) (by kernel_rfl) (by kernel_rfl) (fun _ _ _ h => h) (Or.inl ⟨by rfl, fun w' h' => ?_⟩) hS ?_
      · have c := adl_six (h'.at_ g5 (adl t ys) (by simp))
        go_simp
      try simp only [Act.put, List.setIfInBounds_toArray, List.set_cons_zero, List.set_cons_succ]
      refine tk 17 151 (.bool false) rfl rfl (by kernel_rfl) (by kernel_rfl) (by kernel_rfl) (fun _ _ _ h => h) (Or.inl ⟨by rfl, fun w' h' => ?_⟩) hS ?_
      · have q := hst.out
        go_simp
      try simp only [Act.put, List.setIfInBounds_toArray, List.set_cons_zero, List.set_cons_succ]
      refine wpAnyH_ready (rs := [12]) (by kernel_rfl) (by simp) (AllReadyH.cons rfl (fun K hK => ?_) AllReadyH.nil)
      rw [if_pos (by rfl)]
      go_wp2_with fail
      refine (pHas_any t qy k2 s xs _ HQL.out HLX.out HBX.out).mono ?_
      rintro e wf ⟨rfl, hb⟩
      have HMf := Lib.hid (HMe.out.past hb)
      rw [HB2.out]
      clear hb
      clear hS
      refine hK.out _ _ (HMf.out) (fun hS => ?_)
      clear hK K
      try simp only [Act.put, List.setIfInBounds_toArray, List.set_cons_zero, List.set_cons_succ]
      refine tk 18 152 (.bool false) rfl rfl (by kernel_rfl) (by kernel_rfl) (by kernel_rfl) (fun _ _ _ h => h) (Or.inl ⟨by rfl, fun w' h' => ?_⟩) hS ?_
      · go_simp
      try simp only [Act.put, List.setIfInBounds_toArray, List.set_cons_zero, List.set_cons_succ]
      refine tk 19 153 undef rfl rfl (by kernel_rfl) (by kernel_rfl) (by kernel_rfl) (fun _ _ _ h => h) (Or.inr ⟨by rfl, rfl⟩) hS ?_
      try simp only [Act.put, List.setIfInBounds_toArray, List.set_cons_zero, List.set_cons_succ]
      refine tk 20 154 undef rfl rfl (by kernel_rfl) (by kernel_rfl) (by kernel_rfl) (fun _ _ _ h => h) (Or.inr ⟨by rfl, rfl⟩) hS ?_
      try simp only [Act.put, List.setIfInBounds_toArray, List.set_cons_zero, List.set_cons_succ]
      refine tk 21 155 undef rfl rfl (by kernel_rfl) (by kernel_rfl) (by kernel_rfl) (fun _ _ _ h => h) (Or.inr ⟨by rfl, rfl⟩) hS ?_
      try simp only [Act.put, List.setIfInBounds_toArray, List.set_cons_zero, List.set_cons_succ]
      refine tk 22 156 undef rfl rfl (by kernel_rfl) (by kernel_rfl) (by kernel_rfl) (fun _ _ _ h => h) (Or.inr ⟨by rfl, rfl⟩) hS ?_
      try simp only [Act.put, List.setIfInBounds_toArray, List.set_cons_zero, List.set_cons_succ]
      refine tk 23 157 undef rfl rfl (by kernel_rfl) (by kernel_rfl) (by kernel_rfl) (fun _ _ _ h => h) (Or.inr ⟨by rfl, rfl⟩) hS ?_
      have HMi := HMf
      try simp only [Act.put, List.setIfInBounds_toArray, List.set_cons_zero, List.set_cons_succ]
      refine tk 24 158 (.bool false) rfl rfl (by kernel_rfl) (by kernel_rfl) (by kernel_rfl) (fun _ _ _ h => h) (Or.inl ⟨by rfl, fun w' h' => ?_⟩) hS ?_
      · go_simp
      try simp only [Act.put, List.setIfInBounds_toArray, List.set_cons_zero, List.set_cons_succ]
      refine tk 25 159 (.bool false) rfl rfl (by kernel_rfl) (by kernel_rfl) (by kernel_rfl) (fun _ _ _ h => h) (Or.inl ⟨by rfl, fun w' h' => ?_⟩) hS ?_
      · go_simp
      try simp only [Act.put, List.setIfInBounds_toArray, List.set_cons_zero, List.set_cons_succ]
      refine tk 26 160 (.bool false) rfl rfl (by kernel_rfl) (by kernel_rfl) (by kernel_rfl) (fun _ _ _ h => h) (Or.inl ⟨by rfl, fun w' h' => ?_⟩) hS ?_
      · go_simp
      refine wpAnyH_done (by kernel_rfl) ?_ _
      go_wp2_with fail
      refine Met.intro (hJ0 _ _ ?_)
      exact ⟨⟨rfl, rfl⟩, rfl, rfl, rfl, rfl, rfl, rfl, rfl, rfl, HMi.out⟩
    · have hnm : Hid (¬ n ≤ m) := hnm0
      clear hnm0
      have HMd := Lib.hid HM11.out.drew
      refine wp_region_held_drew (S := fun w' => Hs w w' [(g17, pfl s sx k3), (g15, pfl s px k1), (g14, pfl t qy k2), (g13, pfl s px k1), (g4, adl s xs), (g5, adl t ys)]) (by kernel_rfl) HMd.out (fun hS => ?_)
      refine tk 0 134 (.int .i64 m) rfl rfl (by kernel_rfl) (by kernel_rfl) (by kernel_rfl) (fun _ _ _ h => h) (Or.inl ⟨by rfl, fun w' h' => ?_⟩) hS ?_
      · go_simp
      try simp only [Act.put, List.setIfInBounds_toArray, List.set_cons_zero, List.set_cons_succ]
      refine tk 1 135 (.int .i64 n) rfl rfl (by kernel_rfl) (by kernel_rfl) (by kernel_rfl) (fun _ _ _ h => h) (Or.inl ⟨by rfl, fun w' h' => ?_⟩) hS ?_
      · go_simp
      try simp only [Act.put, List.setIfInBounds_toArray, List.set_cons_zero, List.set_cons_succ]
      refine tk 2 136 (.bool false) rfl rfl (by kernel_rfl) (by kernel_rfl) (by kernel_rfl) (fun _ _ _ h => h) (Or.inl ⟨by rfl, fun w' h' => ?_⟩) hS ?_
      · have q := hnm.out
        go_simp
      try simp only [Act.put, List.setIfInBounds_toArray, List.set_cons_zero, List.set_cons_succ]
      refine tk 3 137 (.bool false) rfl rfl (by kernel_rfl) (by kernel_rfl) (by kernel_rfl) (fun _ _ _ h => h) (Or.inl ⟨by rfl, fun w' h' => ?_⟩) hS ?_
      · go_simp
      try simp only [Act.put, List.setIfInBounds_toArray, List.set_cons_zero, List.set_cons_succ]
      refine tk 4 138 undef rfl rfl (by kernel_rfl) (by kernel_rfl) (by kernel_rfl) (fun _ _ _ h => h) (Or.inr ⟨by rfl, rfl⟩) hS ?_
      try simp only [Act.put, List.setIfInBounds_toArray, List.set_cons_zero, List.set_cons_succ]
      refine tk 5 139 undef rfl rfl (by kernel_rfl) (by kernel_rfl) (by kernel_rfl) (fun _ _ _ h => h) (Or.inr ⟨by rfl, rfl⟩) hS ?_
      try simp only [Act.put, List.setIfInBounds_toArray, List.set_cons_zero, List.set_cons_succ]
      refine tk 6 140 undef rfl rfl (by kernel_rfl) (by kernel_rfl) (by kernel_rfl) (fun _ _ _ h => h) (Or.inr ⟨by rfl, rfl⟩) hS ?_
      try simp only [Act.put, List.setIfInBounds_toArray, List.set_cons_zero, List.set_cons_succ]
      refine tk 7 141 undef rfl rfl (by kernel_rfl) (by kernel_rfl) (by kernel_rfl) (fun _ _ _ h => h) (Or.inr ⟨by rfl, rfl⟩) hS ?_
      try simp only [Act.put, List.setIfInBounds_toArray, List.set_cons_zero, List.set_cons_succ]
      refine tk 8 142 (.bool false) rfl rfl (by kernel_rfl) (by kernel_rfl) (by kernel_rfl) (fun _ _ _ h => h) (Or.inl ⟨by rfl, fun w' h' => ?_⟩) hS ?_
      · go_simp
      try simp only [Act.put, List.setIfInBounds_toArray, List.set_cons_zero, List.set_cons_succ]
      refine tk 9 143 (.bool false) rfl rfl (by kernel_rfl) (by kernel_rfl) (by kernel_rfl) (fun _ _ _ h => h) (Or.inl ⟨by rfl, fun w' h' => ?_⟩) hS ?_
      · go_simp
      try simp only [Act.put, List.setIfInBounds_toArray, List.set_cons_zero, List.set_cons_succ]
      refine tk 10 144 (.agg (pfl t qy k2).toArray) rfl rfl (by kernel_rfl) (by kernel_rfl) (by kernel_rfl) (fun _ _ _ h => h) (yieldsIf_load_mid (by rfl) _ _ rfl (g14) (0) rfl (pfl t qy k2) _ (fun w' h' => h'.at_ g14 (pfl t qy k2) (by simp)) Tryd.underlying48 rfl (by rw [pfl_len t qy k2 HQL.out]; exact infP)) hS ?_
      try simp only [Act.put, List.setIfInBounds_toArray, List.set_cons_zero, List.set_cons_succ]
      refine tk 11 145 (.agg (adl s xs).toArray) rfl rfl (by kernel_rfl) (by kernel_rfl) (by kernel_rfl) (fun _ _ _ h => h) (yieldsIf_load_mid (by rfl) _ _ rfl (g4) (0) rfl (adl s xs) _ (fun w' h' => h'.at_ g4 (adl s xs) (by simp)) Tryd.underlying24 rfl (by rw [adl_len s xs HLX.out]; exact infA)) hS ?_
      try simp only [Act.put, List.setIfInBounds_toArray, List.set_cons_zero, List.set_cons_succ]
      refine tk 13 147 (.pointer (some ⟨g4, 0, none⟩)) rfl rfl (by kernel_rfl) (by kernel_rfl) (by kernel_rfl) (fun _ _ _ h => h) (Or.inl ⟨by rfl, fun w' h' => ?_⟩) hS ?_
      · go_simp
      try simp only [Act.put, List.setIfInBounds_toArray, List.set_cons_zero, List.set_cons_succ]
      refine tk 14 148 (.bool s) rfl rfl (by kernel_rfl) (by kernel_rfl) (by kernel_rfl) (fun _ _ _ h => h) (Or.inl ⟨by rfl, fun w' h' => ?_⟩) hS ?_
      · have c := adl_six (h'.at_ g4 (adl s xs) (by simp))
        go_simp
      try simp only [Act.put, List.setIfInBounds_toArray, List.set_cons_zero, List.set_cons_succ]
      refine tk 15 149 (.pointer (some ⟨g5, 0, none⟩)) rfl rfl (by kernel_rfl) (by kernel_rfl) (by kernel_rfl) (fun _ _ _ h => h) (Or.inl ⟨by rfl, fun w' h' => ?_⟩) hS ?_
      · go_simp
      try simp only [Act.put, List.setIfInBounds_toArray, List.set_cons_zero, List.set_cons_succ]
      refine tk 16 150 (.bool t) rfl rfl (by kernel_rfl) (by kernel_rfl) (by kernel_rfl) (fun _ _ _ h => h) (Or.inl ⟨by rfl, fun w' h' => ?_⟩) hS ?_
      · have c := adl_six (h'.at_ g5 (adl t ys) (by simp))
        go_simp
      try simp only [Act.put, List.setIfInBounds_toArray, List.set_cons_zero, List.set_cons_succ]
      refine tk 17 151 (.bool false) rfl rfl (by kernel_rfl) (by kernel_rfl) (by kernel_rfl) (fun _ _ _ h => h) (Or.inl ⟨by rfl, fun w' h' => ?_⟩) hS ?_
      · have q := hst.out
        go_simp
      try simp only [Act.put, List.setIfInBounds_toArray, List.set_cons_zero, List.set_cons_succ]
      refine wpAnyH_ready (rs := [12]) (by kernel_rfl) (by simp) (AllReadyH.cons rfl (fun K hK => ?_) AllReadyH.nil)
      rw [if_pos (by rfl)]
      go_wp2_with fail
      refine (pHas_any t qy k2 s xs _ HQL.out HLX.out HBX.out).mono ?_
      rintro e wf ⟨rfl, hb⟩
      have HMf := Lib.hid (HMd.out.past hb)
      rw [HB2.out]
      clear hb
      clear hS
      refine hK.out _ _ (HMf.out) (fun hS => ?_)
      clear hK K
      try simp only [Act.put, List.setIfInBounds_toArray, List.set_cons_zero, List.set_cons_succ]
      refine tk 18 152 (.bool false) rfl rfl (by kernel_rfl) (by kernel_rfl) (by kernel_rfl) (fun _ _ _ h => h) (Or.inl ⟨by rfl, fun w' h' => ?_⟩) hS ?_
      · go_simp
      try simp only [Act.put, List.setIfInBounds_toArray, List.set_cons_zero, List.set_cons_succ]
      refine tk 19 153 undef rfl rfl (by kernel_rfl) (by kernel_rfl) (by kernel_rfl) (fun _ _ _ h => h) (Or.inr ⟨by rfl, rfl⟩) hS ?_
      try simp only [Act.put, List.setIfInBounds_toArray, List.set_cons_zero, List.set_cons_succ]
      refine tk 20 154 undef rfl rfl (by kernel_rfl) (by kernel_rfl) (by kernel_rfl) (fun _ _ _ h => h) (Or.inr ⟨by rfl, rfl⟩) hS ?_
      try simp only [Act.put, List.setIfInBounds_toArray, List.set_cons_zero, List.set_cons_succ]
      refine tk 21 155 undef rfl rfl (by kernel_rfl) (by kernel_rfl) (by kernel_rfl) (fun _ _ _ h => h) (Or.inr ⟨by rfl, rfl⟩) hS ?_
      try simp only [Act.put, List.setIfInBounds_toArray, List.set_cons_zero, List.set_cons_succ]
      refine tk 22 156 undef rfl rfl (by kernel_rfl) (by kernel_rfl) (by kernel_rfl) (fun _ _ _ h => h) (Or.inr ⟨by rfl, rfl⟩) hS ?_
      try simp only [Act.put, List.setIfInBounds_toArray, List.set_cons_zero, List.set_cons_succ]
      refine tk 23 157 undef rfl rfl (by kernel_rfl) (by kernel_rfl) (by kernel_rfl) (fun _ _ _ h => h) (Or.inr ⟨by rfl, rfl⟩) hS ?_
      have HMi := HMf
      try simp only [Act.put, List.setIfInBounds_toArray, List.set_cons_zero, List.set_cons_succ]
      refine tk 24 158 (.bool false) rfl rfl (by kernel_rfl) (by kernel_rfl) (by kernel_rfl) (fun _ _ _ h => h) (Or.inl ⟨by rfl, fun w' h' => ?_⟩) hS ?_
      · go_simp
      try simp only [Act.put, List.setIfInBounds_toArray, List.set_cons_zero, List.set_cons_succ]
      refine tk 25 159 (.bool false) rfl rfl (by kernel_rfl) (by kernel_rfl) (by kernel_rfl) (fun _ _ _ h => h) (Or.inl ⟨by rfl, fun w' h' => ?_⟩) hS ?_
      · go_simp
      try simp only [Act.put, List.setIfInBounds_toArray, List.set_cons_zero, List.set_cons_succ]
      refine tk 26 160 (.bool false) rfl rfl (by kernel_rfl) (by kernel_rfl) (by kernel_rfl) (fun _ _ _ h => h) (Or.inl ⟨by rfl, fun w' h' => ?_⟩) hS ?_
      · go_simp
      refine wpAnyH_done (by kernel_rfl) ?_ _
      go_wp2_with fail
      refine Met.intro (hJ0 _ _ ?_)
      exact ⟨⟨rfl, rfl⟩, rfl, rfl, rfl, rfl, rfl, rfl, rfl, rfl, HMi.out⟩

set_option maxRecDepth 100000 in
set_option maxHeartbeats 4000000 in
theorem k14 (w : World) (s : Bool) (t : Bool) (xs : List Int) (ys : List Int) (m : Int) (n : Int) (HG : Hid (Gl w)) (g4 : Nat) (g5 : Nat) (k1 : Int) (k2 : Int) (k3 : Int) (px : List Int) (qy : List Int) (sx : List Int) (HPL : Hid (px.length = 16)) (HPB : Hid (Byt px)) (HCM : Hid (cutV s px m = pfl s px k1)) (g13 : Nat) (g14 : Nat) (g15 : Nat) (g17 : Nat) (w12 : World) (HM12 : Hid (Hs w w12 [(g17, pfl s sx k3), (g15, pfl s px k1), (g14, pfl t qy k2), (g13, pfl s px k1), (g4, adl s xs), (g5, adl t ys)])) (a : Act) (hf : Fr 170 a) (h2 : sl a 2 = .int .i64 m) (h3 : sl a 3 = .int .i64 n) (h4 : sl a 4 = .pointer (some ⟨g4, 0, none⟩)) (h5 : sl a 5 = .pointer (some ⟨g5, 0, none⟩)) (h13 : sl a 13 = .pointer (some ⟨g13, 0, none⟩)) (h14 : sl a 14 = .pointer (some ⟨g14, 0, none⟩)) (h17 : sl a 17 = .pointer (some ⟨g17, 0, none⟩)) :
    Code.wp Tryd.prog (cAt [1,1,1,1,1,1,1,1,1,1,0] KBK) (Exit.then (fun a' w' => Fr 170 a' ∧ sl a' 8 = .bool true ∧ Below w.heap.size w w') Nope) a w12 := by
  obtain ⟨f, ha, hs⟩ := frKBK hf
  have e2 := (hs 2).trans h2
  have e3 := (hs 3).trans h3
  have e4 := (hs 4).trans h4
  have e5 := (hs 5).trans h5
  have e13 := (hs 13).trans h13
  have e14 := (hs 14).trans h14
  have e17 := (hs 17).trans h17
  rw [e2, e3, e4, e5, e13, e14, e17] at ha
  clear hs hf e2 h2 e3 h3 e4 h4 e5 h5 e13 h13 e14 h14 e17 h17
  subst ha
  refine piece2 fun J0 K0 hJ0 hK0 => ?_
  conv => arg 2; whnf
  have HMd := Lib.hid HM12.out.drew
  refine wp_region_held_drew (S := fun w' => Hs w w' [(g17, pfl s sx k3), (g15, pfl s px k1), (g14, pfl t qy k2), (g13, pfl s px k1), (g4, adl s xs), (g5, adl t ys)]) (by kernel_rfl) HMd.out (fun hS => ?_)
  refine tk 0 161 (.pointer (some ⟨g13, 0, none⟩)) rfl rfl (by kernel_rfl) (by kernel_rfl) (by kernel_rfl) (fun _ _ _ h => h) (Or.inl ⟨by rfl, fun w' h' => ?_⟩) hS ?_
  · go_simp
  try simp only [Act.put, List.setIfInBounds_toArray, List.set_cons_zero, List.set_cons_succ]
  refine tk 1 162 (.agg (adl s px).toArray) rfl rfl (by kernel_rfl) (by kernel_rfl) (by kernel_rfl) (fun _ _ _ h => h) (yieldsIf_load_mid (by rfl) _ _ rfl (g13) (0) rfl (adl s px) _ (fun w' h' => pfl_adl (h'.at_ g13 (pfl s px k1) (by simp))) Tryd.underlying24 rfl (by rw [adl_len s px HPL.out]; exact infA)) hS ?_
  try simp only [Act.put, List.setIfInBounds_toArray, List.set_cons_zero, List.set_cons_succ]
  refine tk 2 163 (.int .i64 m) rfl rfl (by kernel_rfl) (by kernel_rfl) (by kernel_rfl) (fun _ _ _ h => h) (Or.inl ⟨by rfl, fun w' h' => ?_⟩) hS ?_
  · go_simp
  try simp only [Act.put, List.setIfInBounds_toArray, List.set_cons_zero, List.set_cons_succ]
  refine tk 4 165 (.agg (pfl s px k1).toArray) rfl rfl (by kernel_rfl) (by kernel_rfl) (by kernel_rfl) (fun _ _ _ h => h) (yieldsIf_load_mid (by rfl) _ _ rfl (g13) (0) rfl (pfl s px k1) _ (fun w' h' => h'.at_ g13 (pfl s px k1) (by simp)) Tryd.underlying48 rfl (by rw [pfl_len s px k1 HPL.out]; exact infP)) hS ?_
  try simp only [Act.put, List.setIfInBounds_toArray, List.set_cons_zero, List.set_cons_succ]
  refine wpAnyH_ready (rs := [3]) (by kernel_rfl) (by simp) (AllReadyH.cons rfl (fun K hK => ?_) AllReadyH.nil)
  rw [if_pos (by rfl)]
  go_wp2_with fail
  refine (aCut_any s px m _ HPL.out HPB.out).mono ?_
  rintro e we ⟨rfl, hb⟩
  have HMe := Lib.hid (HMd.out.past hb)
  rw [HCM.out]
  clear hb
  clear hS
  refine hK.out _ _ (HMe.out) (fun hS => ?_)
  clear hK K
  try simp only [Act.put, List.setIfInBounds_toArray, List.set_cons_zero, List.set_cons_succ]
  refine tk 5 166 (.bool true) rfl rfl (by kernel_rfl) (by kernel_rfl) (by kernel_rfl) (fun _ _ _ h => h) (Or.inl ⟨by rfl, fun w' h' => ?_⟩) hS ?_
  · have q : ∀ w', (Op.equalIn 10000 48 (.agg (pfl s px k1).toArray) (.agg (pfl s px k1).toArray)).run Tryd.prog w' = .ok true w' := fun w' => by rw [eqP w' 9996 _ _ _ _ _ _ HPL.out HPL.out, decide_eq_true (And.intro (And.intro rfl rfl) rfl)]
    go_simp
  try simp only [Act.put, List.setIfInBounds_toArray, List.set_cons_zero, List.set_cons_succ]
  refine tk 6 167 (.bool true) rfl rfl (by kernel_rfl) (by kernel_rfl) (by kernel_rfl) (fun _ _ _ h => h) (Or.inl ⟨by rfl, fun w' h' => ?_⟩) hS ?_
  · go_simp
  try simp only [Act.put, List.setIfInBounds_toArray, List.set_cons_zero, List.set_cons_succ]
  refine wpAnyH_ready (rs := [7]) (by kernel_rfl) (by simp) (AllReadyH.cons rfl (fun K hK => ?_) AllReadyH.nil)
  rw [if_pos (by rfl)]
  go_wp2_with fail
  refine (l4works_any _ (HMe.out.gl HG.out)).mono ?_
  rintro e wf ⟨rfl, hb⟩
  have HMf := Lib.hid (HMe.out.past hb)
  clear hb
  clear hS
  refine hK.out _ _ (HMf.out) (fun hS => ?_)
  clear hK K
  try simp only [Act.put, List.setIfInBounds_toArray, List.set_cons_zero, List.set_cons_succ]
  refine tk 8 169 (.bool true) rfl rfl (by kernel_rfl) (by kernel_rfl) (by kernel_rfl) (fun _ _ _ h => h) (Or.inl ⟨by rfl, fun w' h' => ?_⟩) hS ?_
  · go_simp
  try simp only [Act.put, List.setIfInBounds_toArray, List.set_cons_zero, List.set_cons_succ]
  refine tk 9 8 (.bool true) rfl rfl (by kernel_rfl) (by kernel_rfl) (by kernel_rfl) (fun _ _ _ h => h) (Or.inl ⟨by rfl, fun w' h' => ?_⟩) hS ?_
  · go_simp
  refine wpAnyH_done (by kernel_rfl) ?_ _
  go_wp2_with fail
  refine Met.intro (hJ0 _ _ ?_)
  exact ⟨⟨rfl, rfl⟩, rfl, HMf.out.1⟩

set_option maxRecDepth 100000 in
set_option maxHeartbeats 4000000 in
theorem kend (w wr : World) (hb : Below w.heap.size w wr) (a : Act) (hf : Fr 170 a) (h8 : sl a 8 = .bool true) :
    Code.wp Tryd.prog (cAt [1,1,1,1,1,1,1,1,1,1,1] KBK) (RetsV Tryd.f5 (YesB w)) a wr := by
  have HB := Lib.hid hb
  clear hb
  obtain ⟨f, ha, hs⟩ := frKBK hf
  have e8 := (hs 8).trans h8
  rw [e8] at ha
  clear hs hf e8 h8
  subst ha
  conv => arg 2; whnf
  go_wp2_with fail
  refine ⟨rfl, rfl, .bool true, ?_, ⟨rfl, HB.out⟩⟩
  simp [results, Tryd.results5, go_sem]

theorem back4_any (s t : Bool) (xs ys : List Int) (m n : Int) (w : World) (HG : Gl w) (HLX : xs.length = 16) (HLY : ys.length = 16) (HBX : Byt xs) (HBY : Byt ys) :
    Calls Tryd.prog 5 #[.agg (adl s xs).toArray, .agg (adl t ys).toArray, .int .i64 m, .int .i64 n] w (YesB w) := by
  refine calls_of_wp (c := KBK) Tryd.func5 (by kernel_rfl) ?_
  have hf : Fr 170 { tmps := #[.agg (adl s xs).toArray, .agg (adl t ys).toArray, .int .i64 m, .int .i64 n] ++ Array.replicate (Tryd.f5.ntmps - (#[.agg (adl s xs).toArray, .agg (adl t ys).toArray, .int .i64 m, .int .i64 n] : Array Value).size) undef, defers := [] } := ⟨rfl, by simp [Tryd.ntmps5]⟩
  generalize ha : ({ tmps := #[.agg (adl s xs).toArray, .agg (adl t ys).toArray, .int .i64 m, .int .i64 n] ++ Array.replicate (Tryd.f5.ntmps - (#[.agg (adl s xs).toArray, .agg (adl t ys).toArray, .int .i64 m, .int .i64 n] : Array Value).size) undef, defers := [] } : Act) = a at hf ⊢
  have h0 : sl a 0 = .agg (adl s xs).toArray := by rw [← ha]; exact sl_at _ _ 0 _ rfl
  have h1 : sl a 1 = .agg (adl t ys).toArray := by rw [← ha]; exact sl_at _ _ 1 _ rfl
  have h2 : sl a 2 = .int .i64 m := by rw [← ha]; exact sl_at _ _ 2 _ rfl
  have h3 : sl a 3 = .int .i64 n := by rw [← ha]; exact sl_at _ _ 3 _ rfl
  clear ha
  refine wp_sqR (x := cAt [0] KBK) (y := cAt [1] KBK) (by kernel_rfl) (k0 w s t xs ys m n a hf h0 h1 h2 h3) ?_
  rintro a_1 w0 ⟨g4, g5, hf, h2, h3, h4, h5, HM0⟩
  refine wp_sqG (x := cAt [1,0] KBK) (y := cAt [1,1] KBK) (by kernel_rfl) ?_
  refine wp_sqR (x := cAt [1,0,0] KBK) (y := cAt [1,0,1] KBK) (by kernel_rfl) (k1 w s t xs ys m n HLX HLY HBX HBY w0 g4 g5 HM0 a_1 hf h2 h3 h4 h5) ?_
  rintro a_2 w1 ⟨hf, h2, h3, h4, h5, h27, HM1⟩
  by_cases hrr : (rgt s xs && rgt t ys) = true
  case neg =>
    rw [show (!(rgt s xs && rgt t ys)) = true by rw [eq_false_of_ne_true hrr]; rfl] at h27
    refine wp_onT (A := cAt [1,0,1,3] KBK) (B := cAt [1,0,1,4] KBK) (by kernel_rfl) h27 ?_
    exact wp_endB (kw w w1 HG HM1.1 a_2 hf) (fun a' w' h => h)
  rw [show (!(rgt s xs && rgt t ys)) = false by rw [hrr]; rfl] at h27
  obtain ⟨HRX, HRY⟩ := Bool.and_eq_true_iff.1 hrr
  clear hrr
  refine wp_onF (A := cAt [1,0,1,3] KBK) (B := cAt [1,0,1,4] KBK) (by kernel_rfl) h27 ?_
  refine wp_skipR (by kernel_rfl) ?_
  refine wp_sqR (x := cAt [1,1,0] KBK) (y := cAt [1,1,1] KBK) (by kernel_rfl) (k3 w s t xs ys m n HG HLX HBX g4 g5 w1 HM1 HRX a_2 hf h2 h3 h4 h5) ?_
  rintro a_3 w3 ⟨g9, hf, h2, h3, h4, h5, h9, h10, HM3⟩
  refine wp_sqR (x := cAt [1,1,1,0] KBK) (y := cAt [1,1,1,1] KBK) (by kernel_rfl) (k4 w s t xs ys m n HLX HBX g4 g5 HRX w3 g9 HM3 a_3 hf h2 h3 h4 h5 h9 h10) ?_
  rintro a_4 w4 ⟨g11, hf, h2, h3, h4, h5, h9, h10, h11, h12, HM4⟩
  obtain ⟨b0, hb0⟩ : ∃ b, decide (s = t ∧ xs = ys) = b := ⟨_, rfl⟩
  refine wp_sqG (x := cAt [1,1,1,1,0] KBK) (y := cAt [1,1,1,1,1] KBK) (by kernel_rfl) ?_
  refine wp_sqR (x := cAt [1,1,1,1,0,0] KBK) (y := cAt [1,1,1,1,0,1] KBK) (by kernel_rfl) (k5 w s t xs ys m n HG HLX HLY HBX HBY g4 g5 HRX HRY g9 w4 g11 HM4 b0 hb0 a_4 hf h2 h3 h4 h5 h9 h10 h11 h12) ?_
  rintro a_5 w5 ⟨hf, h2, h3, h4, h5, h77, HM5⟩
  refine wp_onF (A := cAt [1,1,1,1,0,1,3] KBK) (B := cAt [1,1,1,1,0,1,4] KBK) (by kernel_rfl) h77 ?_
  refine wp_skipR (by kernel_rfl) ?_
  have HM5b : Hs w w5 [(g4, adl s xs), (g5, adl t ys)] := ⟨HM5.1, fun x hx => HM5.2 x (by simp only [List.mem_cons, List.not_mem_nil, or_false] at hx ⊢; rcases hx with rfl | rfl <;> simp)⟩
  obtain ⟨k1, hk1⟩ : ∃ z, clm s m = z := ⟨_, rfl⟩
  obtain ⟨k2, hk2⟩ : ∃ z, clm t n = z := ⟨_, rfl⟩
  obtain ⟨k3, hk3⟩ : ∃ z, clm s n = z := ⟨_, rfl⟩
  obtain ⟨px, hpx⟩ : ∃ z, hdL xs k1 = z := ⟨_, rfl⟩
  obtain ⟨qy, hqy⟩ : ∃ z, hdL ys k2 = z := ⟨_, rfl⟩
  obtain ⟨sx, hsx⟩ : ∃ z, hdL xs k3 = z := ⟨_, rfl⟩
  have HPL : px.length = 16 := by rw [← hpx]; exact hdL_len _ _
  have HQL : qy.length = 16 := by rw [← hqy]; exact hdL_len _ _
  have HSL : sx.length = 16 := by rw [← hsx]; exact hdL_len _ _
  have HPB : Byt px := by rw [← hpx]; exact hdL_byt HBX _
  have HQB : Byt qy := by rw [← hqy]; exact hdL_byt HBY _
  have HSB : Byt sx := by rw [← hsx]; exact hdL_byt HBX _
  have HCP : cutV s xs m = pfl s px k1 := by rw [cutV_ok HRX, hk1, hpx]
  have HCQ : cutV t ys n = pfl t qy k2 := by rw [cutV_ok HRY, hk2, hqy]
  have HCS : cutV s xs n = pfl s sx k3 := by rw [cutV_ok HRX, hk3, hsx]
  have h1k := clm_le s m
  have h3k := clm_le s n
  rw [hk1] at h1k
  rw [hk3] at h3k
  have HRP : rgt s px = true := by rw [← hpx]; exact rgt_hd HBX h1k.2
  have HPR : prt s px k1 = true := by have h := prt_ok (s := s) HBX m; rw [hk1, hpx] at h; exact h
  have HPT : pfO (txQ s px k1) = some (s, px, k1) := pfO_txQ HPL HPB HRP HPR
  have HHA : phs s px k1 s xs = true := by have h := has_self HRX m; rw [hk1, hpx] at h; exact h
  have HPP : phs s px k1 s px = true := by have h := cut_has (s := s) HBX m k1 h1k.1 (by omega); rw [hk1, hpx] at h; exact h
  have HWP : wiP s px k1 s px k1 = true := by unfold wiP; rw [HPR, HPP, decide_eq_true (Int.le_refl k1)]; rfl
  have HWQ : wiP s px k1 t qy k2 = (phs t qy k2 s px && decide (k2 ≤ k1)) := by unfold wiP; rw [HPR, Bool.true_and]
  have HWS : (n ≤ m → wiP s px k1 s sx k3 = true) := fun hnm => by
    have hle := clm_mono s hnm
    rw [hk1, hk3] at hle
    have h := cut_has (s := s) HBX m k3 h3k.1 (by omega)
    rw [hk1, hpx, hsx] at h
    unfold wiP
    rw [HPR, h, decide_eq_true hle]
    rfl
  have HHQ : phs t qy k2 s xs = (decide (s = t) && decide ((s = t ∧ sx = qy) ∧ k3 = k2)) := by have h := has_eq (t := t) (ys := ys) HRX n; rw [hk2, hqy, hk3, hsx] at h; exact h
  have HCM : cutV s px m = pfl s px k1 := by rw [cutV_ok HRP, hk1, ← hpx, hdL_hdL HBX, show min k1 k1 = k1 by omega]
  refine wp_sqR (x := cAt [1,1,1,1,1,0] KBK) (y := cAt [1,1,1,1,1,1] KBK) (by kernel_rfl) (k7 w s t xs ys m n HLX HLY HBX HBY g4 g5 w5 HM5b k1 k2 px qy HPL HQL HCP HCQ a_5 hf h2 h3 h4 h5) ?_
  rintro a_6 w7 ⟨g13, g14, hf, h2, h3, h4, h5, h13, h14, HM7⟩
  refine wp_sqR (x := cAt [1,1,1,1,1,1,0] KBK) (y := cAt [1,1,1,1,1,1,1] KBK) (by kernel_rfl) (k8 w s t xs ys m n HG g4 g5 k1 k2 px qy HPL HPB HPT w7 g13 g14 HM7 a_6 hf h2 h3 h4 h5 h13 h14) ?_
  rintro a_7 w8 ⟨g15, hf, h2, h3, h4, h5, h13, h14, h15, h16, HM8⟩
  refine wp_sqG (x := cAt [1,1,1,1,1,1,1,0] KBK) (y := cAt [1,1,1,1,1,1,1,1] KBK) (by kernel_rfl) ?_
  refine wp_sqR (x := cAt [1,1,1,1,1,1,1,0,0] KBK) (y := cAt [1,1,1,1,1,1,1,0,1] KBK) (by kernel_rfl) (k9 w s t xs ys m n HLX HBX g4 g5 k1 k2 px qy HPL HQL HPB HPR HHA HWP HWQ g13 g14 w8 g15 HM8 a_7 hf h2 h3 h4 h5 h13 h14 h15 h16) ?_
  rintro a_8 w9 ⟨hf, h2, h3, h4, h5, h13, h14, h15, h16, h130, HM9⟩
  refine wp_onF (A := cAt [1,1,1,1,1,1,1,0,1,3] KBK) (B := cAt [1,1,1,1,1,1,1,0,1,4] KBK) (by kernel_rfl) h130 ?_
  refine wp_skipR (by kernel_rfl) ?_
  refine wp_sqR (x := cAt [1,1,1,1,1,1,1,1,0] KBK) (y := cAt [1,1,1,1,1,1,1,1,1] KBK) (by kernel_rfl) (k11 w s t xs ys m n HLX HBX g4 g5 k1 k2 k3 px qy sx HSL HCS g13 g14 g15 w9 HM9 a_8 hf h2 h3 h4 h5 h13 h14 h15 h16) ?_
  rintro a_9 w11 ⟨g17, hf, h2, h3, h4, h5, h13, h14, h15, h16, h17, HM11⟩
  refine wp_sqG (x := cAt [1,1,1,1,1,1,1,1,1,0] KBK) (y := cAt [1,1,1,1,1,1,1,1,1,1] KBK) (by kernel_rfl) ?_
  refine wp_sqR (x := cAt [1,1,1,1,1,1,1,1,1,0,0] KBK) (y := cAt [1,1,1,1,1,1,1,1,1,0,1] KBK) (by kernel_rfl) (k12 w s t xs ys m n HLX HBX g4 g5 k1 k2 k3 px qy sx HPL HQL HSL HPB HCS HWS HHQ g13 g14 g15 w11 g17 HM11 a_9 hf h2 h3 h4 h5 h13 h14 h15 h16 h17) ?_
  rintro a_10 w12 ⟨hf, h2, h3, h4, h5, h13, h14, h17, h160, HM12⟩
  refine wp_onF (A := cAt [1,1,1,1,1,1,1,1,1,0,1,3] KBK) (B := cAt [1,1,1,1,1,1,1,1,1,0,1,4] KBK) (by kernel_rfl) h160 ?_
  refine wp_skipR (by kernel_rfl) ?_
  refine wp_sqR (x := cAt [1,1,1,1,1,1,1,1,1,1,0] KBK) (y := cAt [1,1,1,1,1,1,1,1,1,1,1] KBK) (by kernel_rfl) (k14 w s t xs ys m n HG g4 g5 k1 k2 k3 px qy sx HPL HPB HCM g13 g14 g15 g17 w12 HM12 a_10 hf h2 h3 h4 h5 h13 h14 h17) ?_
  rintro a_11 w14 ⟨hf, h8, HM14⟩
  exact wp_endB (kend w w14 HM14 a_11 hf h8) (fun a' w' h => h)
end Go.Proofs.YtbnfmiopgjmppaaDoor

/-
  The contract of ParsePrefix. Conditions: a text of at most 1000000 bytes; the library's variables hold what they should.
-/
import Derived.Test.YtbnfmiopgjmppaaDoorAdCmp
namespace Go.Proofs.YtbnfmiopgjmppaaDoor
open Go.RowKit

/-- The address that a text tells, or none. -/
def adO (l : Tx) : Option (Bool × List Int) := match parse6 l with
  | some gs => some (true, gbI gs)
  | none => match parse4 l with
    | some ds => some (false, fbI ds)
    | none => none
theorem adO_ok {l : Tx} {s : Bool} {xs : List Int} (h : adO l = some (s, xs)) : xs.length = 16 ∧ Byt xs := by
  unfold adO at h
  cases h6 : parse6 l with
  | some gs =>
    rw [h6] at h
    simp at h
    rw [← h.2]
    exact ⟨by rw [gb_len, gbI_fit h6], byt_gb (parse6_lt h6)⟩
  | none =>
    rw [h6] at h
    cases h4 : parse4 l with
    | some ds =>
      rw [h4] at h
      simp at h
      rw [← h.2]
      exact ⟨fb_len (parse4_lt h4).2, byt_fb (parse4_lt h4).1⟩
    | none => rw [h4] at h; simp at h
/-- Parse, in these words. -/
theorem aParse_adO (l : Tx) (w : World) (hg : Gl w) (hl : l.length ≤ 1000000) : Calls Tryd.prog 21 #[.string ⟨l.toArray⟩] w fun e w' => Below w.heap.size w w' ∧
    ((∃ s xs, adO l = some (s, xs) ∧ e = .returned (.tuple #[.agg (adl s xs).toArray, .int .i64 0])) ∨ (adO l = none ∧ e = .returned (.tuple #[.agg (adl false (zs 16)).toArray, .int .i64 40]))) := by
  refine (aParse_any l w hg hl).mono ?_
  rintro e w' ⟨hb, h⟩
  refine ⟨hb, ?_⟩
  unfold adO
  rcases h with ⟨gs, h6, rfl⟩ | ⟨h6, ds, h4, rfl⟩ | ⟨h6, h4, rfl⟩
  · rw [h6]; exact .inl ⟨_, _, rfl, rfl⟩
  · rw [h6, h4]; exact .inl ⟨_, _, rfl, rfl⟩
  · rw [h6, h4]; exact .inr ⟨rfl, rfl⟩
/-- The prefix that a text tells, or none. -/
def pfO (l : Tx) : Option (Bool × List Int × Int) := match adO (Lib.cut l [47]).1 with
  | some (s, xs) => match numS (Lib.cut l [47]).2.1 with
    | some z => if prt s xs z = true then some (s, xs, z) else none
    | none => none
  | none => none
/-- What ParsePrefix answers. -/
def PpR (w : World) (l : Tx) (e : Ending) (w' : World) : Prop :=
  Below w.heap.size w w' ∧ ((∃ s xs n, pfO l = some (s, xs, n) ∧ xs.length = 16 ∧ Byt xs ∧ prt s xs n = true ∧ e = .returned (.tuple #[.agg (pfl s xs n).toArray, .int .i64 0])) ∨ (pfO l = none ∧ e = .returned (.tuple #[.agg (pfl false (zs 16) 0).toArray, .int .i64 40])))
/-- A block that is a prefix. -/
def Pp (w : World) (g : Nat) (s : Bool) (xs : List Int) (n : Int) : Prop := w.heap[g]? = some (.cells (pfl s xs n).toArray 48 (0, 0))
theorem Pp.range {w : World} {g : Nat} {s : Bool} {xs : List Int} {n : Int} (h : Pp w g s xs n) : w.rangeAt g 0 (pfl s xs n) := fun j v hv => by
  rw [cell_of_row w g (0 + j) _ _ (0, 0) h]; simpa using hv
theorem Pp.there {w : World} {g : Nat} {s : Bool} {xs : List Int} {n : Int} (h : Pp w g s xs n) (hl : xs.length = 16) : w.there g 0 18 := fun j hj => by
  rw [cell_of_row w g (0 + j) _ _ (0, 0) h, frozen_of_row w g (0 + j) _ _ h]
  have : j < (pfl s xs n).length := by rw [pfl_len s xs n hl]; exact hj
  simp [List.getElem?_eq_getElem this]
theorem Pp.at_ {w : World} {g : Nat} (hg : w.heap.size = g) (s : Bool) (xs : List Int) (n : Int) : Pp (w.alloc (.cells (pfl s xs n).toArray 48)) g s xs n := by subst hg; exact Blk_new w _ _
theorem Pp.keep {S : Nat → Prop} {w w' : World} {g : Nat} {s : Bool} {xs : List Int} {n : Int} (h : Pp w g s xs n) (k : Kept S w w') (hs : ¬ S g) : Pp w' g s xs n := k.heap h hs
theorem Pp.below {w w' : World} {g : Nat} {s : Bool} {xs : List Int} {n : Int} (h : Pp w g s xs n) (hb : Below w.heap.size w w') : Pp w' g s xs n := h.keep (S := fun _ => False) (Kept.of_below hb (fun i hi hi' => by omega)) id
/-- The prefix is stored, and handed back. -/
theorem pp_fin (w wr : World) (l : Tx) (hb : Below w.heap.size w wr) (s : Bool) (xs : List Int) (n : Int) (h : pfO l = some (s, xs, n)) (hl : xs.length = 16) (hx : Byt xs) (hp : prt s xs n = true) : PpR w l (.returned (.tuple #[.agg (pfl s xs n).toArray, .int .i64 0])) (wr.setCells w.heap.size 0 (pfl s xs n)) :=
  ⟨Below.setCells hb _ (Nat.le_refl _) _ _, .inl ⟨s, xs, n, h, hl, hx, hp, rfl⟩⟩
theorem pp_no (w wr : World) (l : Tx) (hb : Below w.heap.size w wr) (h : pfO l = none) : PpR w l (.returned (.tuple #[.agg (pfl false (zs 16) 0).toArray, .int .i64 40])) (wr.setCells w.heap.size 0 (pfl false (zs 16) 0)) :=
  ⟨Below.setCells hb _ (Nat.le_refl _) _ _, .inr ⟨h, rfl⟩⟩
/-- Stores into a new block, the world forgotten but for a fact. -/
theorem stNA {ops : Array Oper} {rest : List Oper} {o : Oper} {a : Act} {w : World} {Q : Exit → Act → World → Prop} (P : World → Prop) (x y : Operand) (ho : o.op = .store 24 x y) (hgd : o.guard = none) (b off : Nat) (s : Bool) (xs : List Int) (hx : a.eval x = .pointer (some ⟨b, off, none⟩)) (hy : a.eval y = .agg (adl s xs).toArray) (hl : xs.length = 16)
    (ht : w.there b off 17) (hP : P (w.setCells b off (adl s xs))) (h : ∀ w', P w' → wpList Tryd.prog ops Q rest (a.put o.dst undef) w') : wpList Tryd.prog ops Q (o :: rest) a w :=
  stA x y ho hgd b off s xs hx hy hl ht (h _ hP)
theorem stNP {ops : Array Oper} {rest : List Oper} {o : Oper} {a : Act} {w : World} {Q : Exit → Act → World → Prop} (P : World → Prop) (x y : Operand) (ho : o.op = .store 48 x y) (hgd : o.guard = none) (b off : Nat) (s : Bool) (xs : List Int) (n : Int) (hx : a.eval x = .pointer (some ⟨b, off, none⟩)) (hy : a.eval y = .agg (pfl s xs n).toArray) (hl : xs.length = 16)
    (ht : w.there b off 18) (hP : P (w.setCells b off (pfl s xs n))) (h : ∀ w', P w' → wpList Tryd.prog ops Q rest (a.put o.dst undef) w') : wpList Tryd.prog ops Q (o :: rest) a w :=
  stP x y ho hgd b off s xs n hx hy hl ht (h _ hP)
theorem fresh_a (w : World) (Z : Array Value) (hZ : Z.size = 17) (s : Bool) (xs : List Int) (hl : xs.length = 16) : World.rangeAt ((w.alloc (.cells Z 24)).setCells w.heap.size 0 (adl s xs)) w.heap.size 0 (adl s xs) ∧ Below w.heap.size w ((w.alloc (.cells Z 24)).setCells w.heap.size 0 (adl s xs)) :=
  ⟨World.rangeAt_setCells_same _ _ _ _ (by rw [adl_len s xs hl]; exact there_new _ _ _ _ hZ _ rfl), Below.setCells (bel1 _ _) _ (Nat.le_refl _) _ _⟩
theorem fresh_p (w : World) (Z : Array Value) (hZ : Z.size = 18) (s : Bool) (xs : List Int) (n : Int) (hl : xs.length = 16) : World.rangeAt ((w.alloc (.cells Z 48)).setCells w.heap.size 0 (pfl s xs n)) w.heap.size 0 (pfl s xs n) ∧ Below w.heap.size w ((w.alloc (.cells Z 48)).setCells w.heap.size 0 (pfl s xs n)) :=
  ⟨World.rangeAt_setCells_same _ _ _ _ (by rw [pfl_len s xs n hl]; exact there_new _ _ _ _ hZ _ rfl), Below.setCells (bel1 _ _) _ (Nat.le_refl _) _ _⟩
set_option maxRecDepth 100000 in
set_option maxHeartbeats 4000000 in
theorem aParseP_any (l : Tx) (w : World) (hg : Gl w) (hl : l.length ≤ 1000000) : Calls Tryd.prog 23 #[.string ⟨l.toArray⟩] w (PpR w l) := by
  have HG := Lib.hid hg
  have HL := Lib.hid hl
  clear hg hl
  go_enter Tryd.func23, Tryd.ntmps23
  go_wp2_with fail
  obtain ⟨w0, hw0⟩ : ∃ x, (w.alloc (.cells (pfl false (zs 16) 0).toArray 48)) = x := ⟨_, rfl⟩
  have HP0 : Hid (Pp w0 w.heap.size false (zs 16) 0) := by rw [← hw0]; exact Pp.at_ rfl _ _ _
  have HB0 : Hid (Below w.heap.size w w0) := by rw [← hw0]; exact bel1 _ _
  change Calls Tryd.prog 48 #[.string ⟨l.toArray⟩, .string ⟨#[47]⟩] (w.alloc (.cells (pfl false (zs 16) 0).toArray 48)) _
  rw [hw0]
  clear hw0
  obtain ⟨mx, hm⟩ := (HG.out.below HB0.out).max
  refine (Tryd.strings_Cut ⟨l.toArray⟩ ⟨#[47]⟩ mx _ (by have := HL.out; simp only [ByteArray.size, List.size_toArray]; omega) hm).mono ?_
  rintro e w1 ⟨rfl, nn, rfl⟩
  have e1 : (⟨l.toArray⟩ : ByteArray).data.toList = l := by simp
  have e2 : (⟨#[47]⟩ : ByteArray).data.toList = [47] := rfl
  rw [e1, e2]
  clear e1 e2 hm
  obtain ⟨x, hx⟩ : ∃ x, (Lib.cut l [47]).1 = x := ⟨_, rfl⟩
  obtain ⟨y, hy⟩ : ∃ y, (Lib.cut l [47]).2.1 = y := ⟨_, rfl⟩
  obtain ⟨b, hb⟩ : ∃ b, (Lib.cut l [47]).2.2 = b := ⟨_, rfl⟩
  have hle := cut_le l 47
  rw [hx, hy] at hle
  rw [hx, hy, hb]
  have HO : Hid (pfO l = match adO x with | some (s, xs) => (match numS y with | some z => if prt s xs z = true then some (s, xs, z) else none | none => none) | none => none) := by show _ = _; unfold pfO; rw [hx, hy]
  have HXL : Hid (x.length ≤ 1000000) := by have := HL.out; show _ ≤ _; omega
  have HYL : Hid (y.length ≤ 1000000) := by have := HL.out; show _ ≤ _; omega
  have HP1 : Hid (Pp (w0.drewN nn) w.heap.size false (zs 16) 0) := HP0.out.below ⟨rfl, rfl, rfl, Nat.le_refl _, fun _ _ => rfl⟩
  have HB1 := Lib.hid (bdN HB0.out nn)
  obtain ⟨wr, hwr⟩ : ∃ x, w0.drewN nn = x := ⟨_, rfl⟩
  rw [hwr] at HP1 HB1 ⊢
  clear hwr hx hy hb hle HP0 HB0
  go_wp2_with fail
  refine (aParse_adO x _ (HG.out.below HB1.out) HXL.out).mono ?_
  rintro e w2 ⟨hb2, hr⟩
  have HP2 := Lib.hid (HP1.out.below hb2)
  have HB2 := Lib.hid (HB1.out.trans (hb2.mono HB1.out.size))
  clear hb2 HP1 HB1
  rcases hr with ⟨s, xs, had, rfl⟩ | ⟨had, rfl⟩
  · obtain ⟨hl16, hby⟩ := adO_ok had
    have HAD := Lib.hid had
    have H16 := Lib.hid hl16
    have HBY := Lib.hid hby
    clear had hl16 hby
    go_wp2_with (refine stNA (fun w' => World.rangeAt w' w2.heap.size 0 (adl s xs) ∧ Below w2.heap.size w2 w') (.tmp 7) (.tmp 21) rfl rfl w2.heap.size 0 s xs rfl rfl H16.out (there_new _ _ _ _ rfl _ rfl) (fresh_a w2 _ rfl s xs H16.out) ?_; rintro w3 ⟨hr3, hb3⟩)
    have HR3 := Lib.hid hr3
    have HP3 := Lib.hid (HP2.out.below hb3)
    have HB3 := Lib.hid (HB2.out.trans (hb3.mono HB2.out.size))
    clear hr3 hb3
    refine (aNumber_any ⟨y.toArray⟩ _ (HG.out.below HB3.out) (by have := HYL.out; simp only [ByteArray.size, List.size_toArray]; omega)).mono ?_
    rintro e w4 ⟨v, rfl, hv, hvi, hb4⟩
    have ey : (⟨y.toArray⟩ : ByteArray).data.toList = y := by simp
    rw [ey] at hv ⊢
    have HR4 := Lib.hid (range_kept hb4 HR3.out)
    have HP4 := Lib.hid (HP3.out.below hb4)
    have HB4 := Lib.hid (HB3.out.trans (hb4.mono HB3.out.size))
    have HV := Lib.hid hv
    clear ey hb4 hv hvi
    cases hn : numS y with
    | none =>
      have HNO : Hid (pfO l = none) := by show _ = _; rw [HO.out, HAD.out, hn]
      simp only [Option.isSome_none]
      clear hn
      go_wp2_with (first
      | (refine ldA (.tmp 7) rfl rfl w2.heap.size 0 rfl s xs H16.out (by with_reducible exact HR4.out) ?_)
      | (refine wpList_build_run (cells := (pfl s xs v).toArray) rfl 48 _ rfl ?_ ?_; · exact builtP s xs v H16.out)
      | (refine stNP (fun w' => World.rangeAt w' w4.heap.size 0 (pfl s xs v) ∧ Below w4.heap.size w4 w') (.tmp 11) (.tmp 30) rfl rfl w4.heap.size 0 s xs v rfl rfl H16.out (there_new _ _ _ _ rfl _ rfl) (fresh_p w4 _ rfl s xs v H16.out) ?_; rintro w5 ⟨hr5, hb5⟩)
      | (refine wpList_build_run (cells := (pfl false (zs 16) 0).toArray) rfl 48 _ rfl ?_ ?_; · exact builtP0)
      | (refine stP (.tmp 2) (.tmp 42) rfl rfl w.heap.size 0 false (zs 16) 0 rfl rfl (zs_length 16) (by with_reducible exact (HP4.out.below hb5).there (zs_length 16)) ?_))
      refine bodyPost_ret (ret_midT rfl _ _ w.heap.size 0 (pfl false (zs 16) 0) _ rfl (World.rangeAt_setCells_same _ _ _ _ (by have := (HP4.out.below hb5).there (zs_length 16); rwa [← pfl_len false (zs 16) 0 (zs_length 16)] at this)) Tryd.underlying48 rfl (infP.trans (by rw [pfl_len _ _ _ (zs_length 16)]))) rfl ?_
      exact pp_no w w5 l (HB4.out.trans (hb5.mono HB4.out.size)) HNO.out
    | some z =>
      have hvz := HV.out z hn
      subst hvz
      simp only [Option.isSome_some]
      have HN := Lib.hid hn
      clear hn
      go_wp2_with (first
      | (refine ldA (.tmp 7) rfl rfl w2.heap.size 0 rfl s xs H16.out (by with_reducible exact HR4.out) ?_)
      | (refine wpList_build_run (cells := (pfl s xs v).toArray) rfl 48 _ rfl ?_ ?_; · exact builtP s xs v H16.out)
      | (refine stNP (fun w' => World.rangeAt w' w4.heap.size 0 (pfl s xs v) ∧ Below w4.heap.size w4 w') (.tmp 11) (.tmp 30) rfl rfl w4.heap.size 0 s xs v rfl rfl H16.out (there_new _ _ _ _ rfl _ rfl) (fresh_p w4 _ rfl s xs v H16.out) ?_; rintro w5 ⟨hr5, hb5⟩)
      | (refine ldPg (.tmp 11) rfl (by rfl) w4.heap.size 0 rfl s xs v H16.out (by with_reducible exact hr5) ?_))
      have HR5 := Lib.hid hr5
      have HP5 := Lib.hid (HP4.out.below hb5)
      have HB5 := Lib.hid (HB4.out.trans (hb5.mono HB4.out.size))
      clear hr5 hb5
      refine (pRight_any s xs v _ H16.out HBY.out).mono ?_
      rintro e w6 ⟨rfl, hb6⟩
      have HR6 := Lib.hid (range_kept hb6 HR5.out)
      have HP6 := Lib.hid (HP5.out.below hb6)
      have HB6 := Lib.hid (HB5.out.trans (hb6.mono HB5.out.size))
      obtain ⟨q, hq⟩ : ∃ q, prt s xs v = q := ⟨_, rfl⟩
      rw [hq]
      have HQ := Lib.hid hq
      clear hb6 hq
      cases q
      · have HNO : Hid (pfO l = none) := by show _ = _; rw [HO.out, HAD.out]; simp only [HN.out]; rw [HQ.out]; rfl
        go_wp2_with (first
          | (refine wpList_build_run (cells := (pfl false (zs 16) 0).toArray) rfl 48 _ rfl ?_ ?_; · exact builtP0)
          | (refine stP (.tmp 2) (.tmp 42) rfl rfl w.heap.size 0 false (zs 16) 0 rfl rfl (zs_length 16) (by with_reducible exact HP6.out.there (zs_length 16)) ?_))
        refine bodyPost_ret (ret_midT rfl _ _ w.heap.size 0 (pfl false (zs 16) 0) _ rfl (World.rangeAt_setCells_same _ _ _ _ (by have := HP6.out.there (zs_length 16); rwa [← pfl_len false (zs 16) 0 (zs_length 16)] at this)) Tryd.underlying48 rfl (infP.trans (by rw [pfl_len _ _ _ (zs_length 16)]))) rfl ?_
        exact pp_no w w6 l HB6.out HNO.out
      · have HYE : Hid (pfO l = some (s, xs, v)) := by show _ = _; rw [HO.out, HAD.out]; simp only [HN.out]; rw [if_pos HQ.out]
        go_wp2_with (first
          | (refine ldP (.tmp 11) rfl rfl w4.heap.size 0 rfl s xs v H16.out (by with_reducible exact HR6.out) ?_)
          | (refine stP (.tmp 2) (.tmp 43) rfl rfl w.heap.size 0 s xs v rfl rfl H16.out (by with_reducible exact HP6.out.there (zs_length 16)) ?_))
        refine bodyPost_ret (ret_midT rfl _ _ w.heap.size 0 (pfl s xs v) _ rfl (World.rangeAt_setCells_same _ _ _ _ (by have := HP6.out.there (zs_length 16); rwa [← pfl_len s xs v H16.out] at this)) Tryd.underlying48 rfl (infP.trans (by rw [pfl_len _ _ _ H16.out]))) rfl ?_
        exact pp_fin w w6 l HB6.out s xs v HYE.out H16.out HBY.out HQ.out
  · have HNO : Hid (pfO l = none) := by show _ = _; rw [HO.out, had]
    clear had
    go_wp2_with (refine stNA (fun w' => World.rangeAt w' w2.heap.size 0 (adl false (zs 16)) ∧ Below w2.heap.size w2 w') (.tmp 7) (.tmp 21) rfl rfl w2.heap.size 0 false (zs 16) rfl rfl (zs_length 16) (there_new _ _ _ _ rfl _ rfl) (fresh_a w2 _ rfl false (zs 16) (zs_length 16)) ?_; rintro w3 ⟨hr3, hb3⟩)
    have HR3 := Lib.hid hr3
    have HP3 := Lib.hid (HP2.out.below hb3)
    have HB3 := Lib.hid (HB2.out.trans (hb3.mono HB2.out.size))
    clear hr3 hb3
    refine (aNumber_any ⟨y.toArray⟩ _ (HG.out.below HB3.out) (by have := HYL.out; simp only [ByteArray.size, List.size_toArray]; omega)).mono ?_
    rintro e w4 ⟨v, rfl, hv, hvi, hb4⟩
    have ey : (⟨y.toArray⟩ : ByteArray).data.toList = y := by simp
    rw [ey] at hv ⊢
    have HR4 := Lib.hid (range_kept hb4 HR3.out)
    have HP4 := Lib.hid (HP3.out.below hb4)
    have HB4 := Lib.hid (HB3.out.trans (hb4.mono HB3.out.size))
    have HV := Lib.hid hv
    clear ey hb4 hv hvi
    obtain ⟨q, hq⟩ : ∃ q, (numS y).isSome = q := ⟨_, rfl⟩
    rw [hq]
    clear hq
    go_wp2_with (first
      | (refine ldA (.tmp 7) rfl rfl w2.heap.size 0 rfl false (zs 16) (zs_length 16) (by with_reducible exact HR4.out) ?_)
      | (refine wpList_build_run (cells := (pfl false (zs 16) v).toArray) rfl 48 _ rfl ?_ ?_; · exact builtP false (zs 16) v (zs_length 16))
      | (refine stNP (fun w' => World.rangeAt w' w4.heap.size 0 (pfl false (zs 16) v) ∧ Below w4.heap.size w4 w') (.tmp 11) (.tmp 30) rfl rfl w4.heap.size 0 false (zs 16) v rfl rfl (zs_length 16) (there_new _ _ _ _ rfl _ rfl) (fresh_p w4 _ rfl false (zs 16) v (zs_length 16)) ?_; rintro w5 ⟨hr5, hb5⟩)
      | (refine wpList_build_run (cells := (pfl false (zs 16) 0).toArray) rfl 48 _ rfl ?_ ?_; · exact builtP0)
      | (refine stP (.tmp 2) (.tmp 42) rfl rfl w.heap.size 0 false (zs 16) 0 rfl rfl (zs_length 16) (by with_reducible exact (HP4.out.below hb5).there (zs_length 16)) ?_))
    refine bodyPost_ret (ret_midT rfl _ _ w.heap.size 0 (pfl false (zs 16) 0) _ rfl (World.rangeAt_setCells_same _ _ _ _ (by have := (HP4.out.below hb5).there (zs_length 16); rwa [← pfl_len false (zs 16) 0 (zs_length 16)] at this)) Tryd.underlying48 rfl (infP.trans (by rw [pfl_len _ _ _ (zs_length 16)]))) rfl ?_
    exact pp_no w w5 l (HB4.out.trans (hb5.mono HB4.out.size)) HNO.out
end Go.Proofs.YtbnfmiopgjmppaaDoor

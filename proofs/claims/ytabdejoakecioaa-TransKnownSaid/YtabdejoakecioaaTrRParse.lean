/-
  The document's Parse of layer 7. Conditions: a text of at most a million bytes.
-/
import Derived.Test.YtabdejoakecioaaTrDoc2
import Derived.Test.YtabdejoakecioaaTrKind
namespace Go.Proofs.Ytabdejoakecioaa
open Go.RowKit

theorem there_kept' {w w' : World} (h : Below w.heap.size w w') {b n : Nat} (ht : w.there b 0 n) (hn : n ≠ 0) : w'.there b 0 n := by
  have hlt : b < w.heap.size := by
    obtain ⟨h1, _⟩ := ht 0 (by omega)
    obtain ⟨v, hv⟩ := Option.isSome_iff_exists.1 h1
    exact World.block_lt_of_cell? w ⟨b, 0 + 0, none⟩ hv
  exact there_heap ht (h.block b hlt)
theorem rnum2 (xs : List Int) (j : Nat) (w : World) (u : ByteArray) (hu : str xs = u) (hb : Byt xs) (hl : xs.length ≤ 1000000) (hj : j + 2 ≤ xs.length) : Calls Try.prog 41 #[.string u, .int .i64 j, .int .i64 2] w (Gives w (.int .u64 (wordAt xs j))) := by
  rw [← (get_two xs j (by omega)).2, ← hu]; exact r7number_any xs j 2 w hb hl
theorem rnum4 (xs : List Int) (j : Nat) (w : World) (u : ByteArray) (hu : str xs = u) (hb : Byt xs) (hl : xs.length ≤ 1000000) (hj : j + 4 ≤ xs.length) : Calls Try.prog 41 #[.string u, .int .i64 j, .int .i64 4] w (Gives w (.int .u64 (lng xs j))) := by
  rw [← get_four xs j (by omega), ← hu]; exact r7number_any xs j 4 w hb hl
/-- What lies in memory while the document's Parse goes on. -/
structure GR (w : World) (b2 : Nat) (cs : List Value) (w' : World) : Prop where
  below : Below w.heap.size w w'
  lt : w.heap.size < b2 ∧ b2 < w'.heap.size
  res : w'.there w.heap.size 0 12
  seg : w'.rangeAt b2 0 cs
  room : w'.there b2 0 12
theorem GR.next {w w1 w2 : World} {b2 : Nat} {cs : List Value} (h : GR w b2 cs w1) (hb : Below w1.heap.size w1 w2) : GR w b2 cs w2 :=
  ⟨h.below.trans (hb.mono h.below.size), ⟨h.lt.1, Nat.lt_of_lt_of_le h.lt.2 hb.size⟩, there_kept' hb h.res (by decide), range_kept hb h.seg, there_kept' hb h.room (by decide)⟩
theorem GR.put {w w1 : World} {b2 : Nat} {cs : List Value} (h : GR w b2 cs w1) (hc : cs.length = 12) (j : Nat) (hj : j < 12) (v : Value) : GR w b2 (cs.set j v) (w1.setCell ⟨b2, j, none⟩ v) := by
  have hk : Kept (fun k => k = b2) w1 (w1.setCell ⟨b2, j, none⟩ v) := Kept.setCell (S := fun k => k = b2) _ _ _ rfl
  have l1 := h.lt
  exact ⟨h.below.trans (hk.below h.below.size (fun k e => by omega)), ⟨l1.1, by have := hk.size; omega⟩, there_heap h.res (hk.block _ (by omega) (by omega)), range_one h.seg (by rw [hc]; exact h.room) (by omega) v, there_one h.room j v⟩
theorem GR.set {w w1 : World} {b2 : Nat} {cs ds : List Value} (h : GR w b2 cs w1) (hd : ds.length = 12) : GR w b2 ds (w1.setCells b2 0 ds) := by
  have hk : Kept (fun k => k = b2) w1 (w1.setCells b2 0 ds) := Kept.setCells _ _ _ _ (Kept.refl _ _)
  have l1 := h.lt
  exact ⟨h.below.trans (hk.below h.below.size (fun k e => by omega)), ⟨l1.1, by have := hk.size; omega⟩, there_heap h.res (hk.block _ (by omega) (by omega)), World.rangeAt_setCells_same _ _ _ _ (by rw [hd]; exact h.room), World.there_setCells h.room _ _ _⟩
theorem GR.fin {w w1 : World} {b2 : Nat} {cs : List Value} (h : GR w b2 cs w1) (hd : cs.length = 12) : Below w.heap.size w (w1.setCells w.heap.size 0 cs) ∧ (w1.setCells w.heap.size 0 cs).rangeAt w.heap.size 0 cs :=
  ⟨Below.setCells h.below _ (Nat.le_refl _) _ _, World.rangeAt_setCells_same _ _ _ _ (by rw [hd]; exact h.res)⟩
theorem GR.start (w : World) (ds : List Value) (hd : ds.length = 12) (wA : World) (h : Below w.heap.size w wA) (hs : wA.heap.size = w.heap.size + 1) (ht : wA.there w.heap.size 0 12) : GR w wA.heap.size ds ((wA.alloc (.cells rc0.toArray 30)).setCells wA.heap.size 0 ds) := by
  obtain ⟨hb, hr, _⟩ := put_new wA ds rc0 30 (by rw [hd]; rfl)
  have t1 : (wA.alloc (.cells rc0.toArray 30)).there wA.heap.size 0 12 := there_new _ _ _ _ rfl _ rfl
  have hsz : ((wA.alloc (.cells rc0.toArray 30)).setCells wA.heap.size 0 ds).heap.size = wA.heap.size + 1 := by rw [size_setCells]; simp
  exact ⟨h.trans (hb.mono h.size), ⟨by omega, by omega⟩, there_kept' hb ht (by decide), hr, World.there_setCells t1 _ _ _⟩

theorem hdN_pro2 {p : Int} (h : hdN p ≠ 0) : p = 6 ∨ p = 17 ∨ p = 1 ∨ p = 58 := by
  unfold hdN at h
  split at h
  · exact .inl (by assumption)
  split at h
  · exact .inr (.inl (by assumption))
  split at h
  · exact .inr (.inr (.inl (by assumption)))
  split at h
  · exact .inr (.inr (.inr (by assumption)))
  · exact absurd rfl h
set_option maxRecDepth 100000 in
set_option maxHeartbeats 8000000 in
theorem r7Parse_any (p : Int) (xs : List Int) (w : World) (hb : Byt xs) (hl : xs.length ≤ 1000000) : Calls Try.prog 18 #[.int .u8 p, .string (str xs)] w (Gives w (.tuple #[.agg (rcs (prP p xs)).toArray, .int .i64 (prE p xs)])) := by
  obtain ⟨wA, hwA⟩ : ∃ x, w.alloc (.cells rc0.toArray 30) = x := ⟨_, rfl⟩
  have hbA : Below w.heap.size w wA := by rw [← hwA]; exact (Below.refl _ _).alloc (Nat.le_refl _) _
  have hsA : wA.heap.size = w.heap.size + 1 := by rw [← hwA]; simp
  have htA : wA.there w.heap.size 0 12 := by rw [← hwA]; exact there_new _ _ _ _ rfl _ rfl
  have HA : Hid (Below w.heap.size w wA ∧ wA.there w.heap.size 0 12) := ⟨hbA, htA⟩
  have HSZ := Lib.hid hsA
  have HSA : Hid (Below w.heap.size w (wA.setCells w.heap.size 0 rc0) ∧ (wA.setCells w.heap.size 0 rc0).rangeAt w.heap.size 0 rc0) := ⟨Below.setCells hbA _ (Nat.le_refl _) _ _, World.rangeAt_setCells_same _ _ _ _ htA⟩
  have HR0 : Hid (∀ v ∈ rc0, v.oneCell' = true) := rcs_one pl0
  have hwA' : w.alloc (.cells #[.int .u8 0, .int .u16 0, .int .u16 0, .int .u32 0, .int .u32 0, .int .u8 0, .int .u16 0, .int .u16 0, .string ⟨#[]⟩, .int .u8 0, .int .u8 0, .string ⟨#[]⟩] 30) = wA := hwA
  have hz : (str xs).size = xs.length := str_size _
  have HX := Lib.hid (And.intro hb hl)
  obtain ⟨n, hn⟩ : ∃ x, xs.length = x := ⟨_, rfl⟩
  have HN := Lib.hid hn
  have hix := fun (i : Nat) (hi : i < xs.length) => run_str_index hb i hi
  have hct := fun (i j : Nat) (h1 : i ≤ j) (h2 : j ≤ xs.length) => run_str_cut i j h1 h2 .i64 .i64
  have hfr := fun (i : Nat) (hi : i ≤ xs.length) => run_str_from i hi .i64
  obtain ⟨u, hu⟩ : ∃ x, str xs = x := ⟨_, rfl⟩
  have HU := Lib.hid hu
  rw [hn] at hz hl hix hct hfr
  rw [hu] at hz hix hct hfr ⊢
  have HIX := Lib.hid hix
  have HCT := Lib.hid hct
  have HFR := Lib.hid hfr
  have hzi : (u.size : Int) = (n : Int) := by rw [hz]
  clear hwA hbA hsA htA hb hn hix hct hfr hu hz
  by_cases h0 : hdN p = 0
  · have HE : Hid (prE p xs = 70) := by show _ = _; unfold prE; rw [if_pos h0]
    have HPE : Hid (prP p xs = pl0) := by show _ = _; unfold prP; rw [if_neg (by rw [HE.out]; decide)]
    have h0i : ((hdN p : Nat) : Int) = 0 := by omega
    clear h0
    go_enter Try.func18, Try.ntmps18
    go_wp2_with fail
    refine (r7Head_any p _).mono ?_
    rintro e wz ⟨rfl, rfl⟩
    rw [h0i]
    go_wp2_with (first
      | (refine wpList_build_run (cells := rc0.toArray) rfl 30 _ rfl builtR0 ?_)
      | (refine stN (fun w' => Hid (Below w.heap.size w w' ∧ w'.rangeAt w.heap.size 0 rc0)) 30 (.tmp 4) (.tmp 12) rfl rfl w.heap.size 0 rc0 rfl rfl HA.out.2 infR HR0.out HSA ?_; intro w4 H4))
    refine bodyPost_ret (v := .tuple #[.agg rc0.toArray, .int .i64 70]) (ret_mid2 Try.results18 _ _ _ _ rc0 _ rfl H4.out.2 Try.underlying30 rfl infR (.int .i64 70) rfl) rfl ⟨by rw [HE.out, HPE.out]; rfl, H4.out.1⟩
  have HH := Lib.hid h0
  have hdb : ((hdN p : Int) == 0) = false := by simp; exact h0
  have hd20 : hdN p ≤ 20 := by unfold hdN; (repeat' split) <;> omega
  obtain ⟨D, hD⟩ : ∃ x, hdN p = x := ⟨_, rfl⟩
  have HD := Lib.hid hD
  rw [hD] at hdb hd20
  by_cases h1 : n < D
  · have HE : Hid (prE p xs = 10) := by show _ = _; unfold prE bdE; rw [if_neg h0, if_pos (by rw [HN.out, hD]; omega)]
    have HPE : Hid (prP p xs = pl0) := by show _ = _; unfold prP; rw [if_neg (by rw [HE.out]; decide)]
    have h1i : (n : Int) < (D : Int) := by omega
    clear h0 hD h1
    go_enter Try.func18, Try.ntmps18
    go_wp2_with fail
    refine (r7Head_any p _).mono ?_
    rintro e wz ⟨rfl, rfl⟩
    rw [HD.out]
    go_wp2_with fail
    refine (r7Head_any p _).mono ?_
    rintro e wz ⟨rfl, rfl⟩
    rw [HD.out]
    go_wp2_with (first
      | (refine wpList_build_run (cells := rc0.toArray) rfl 30 _ rfl builtR0 ?_)
      | (refine stN (fun w' => Hid (Below w.heap.size w w' ∧ w'.rangeAt w.heap.size 0 rc0)) 30 (.tmp 4) (.tmp 18) rfl rfl w.heap.size 0 rc0 rfl rfl HA.out.2 infR HR0.out HSA ?_; intro w4 H4))
    refine bodyPost_ret (v := .tuple #[.agg rc0.toArray, .int .i64 10]) (ret_mid2 Try.results18 _ _ _ _ rc0 _ rfl H4.out.2 Try.underlying30 rfl infR (.int .i64 10) rfl) rfl ⟨by rw [HE.out, HPE.out]; rfl, H4.out.1⟩
  have h1i : ¬ (n : Int) < (D : Int) := by omega
  by_cases h2 : 65535 < n
  · have HE : Hid (prE p xs = 51) := by show _ = _; unfold prE bdE; rw [if_neg h0, if_neg (by rw [HN.out, hD]; omega), if_pos (by rw [HN.out]; exact h2)]
    have HPE : Hid (prP p xs = pl0) := by show _ = _; unfold prP; rw [if_neg (by rw [HE.out]; decide)]
    have h2i : (65535 : Int) < (n : Int) := by omega
    clear h0 hD h1 h2
    go_enter Try.func18, Try.ntmps18
    go_wp2_with fail
    refine (r7Head_any p _).mono ?_
    rintro e wz ⟨rfl, rfl⟩
    rw [HD.out]
    go_wp2_with fail
    refine (r7Head_any p _).mono ?_
    rintro e wz ⟨rfl, rfl⟩
    rw [HD.out]
    go_wp2_with (first
      | (refine wpList_build_run (cells := rc0.toArray) rfl 30 _ rfl builtR0 ?_)
      | (refine stN (fun w' => Hid (Below w.heap.size w w' ∧ w'.rangeAt w.heap.size 0 rc0)) 30 (.tmp 4) (.tmp 22) rfl rfl w.heap.size 0 rc0 rfl rfl HA.out.2 infR HR0.out HSA ?_; intro w4 H4))
    refine bodyPost_ret (v := .tuple #[.agg rc0.toArray, .int .i64 51]) (ret_mid2 Try.results18 _ _ _ _ rc0 _ rfl H4.out.2 Try.underlying30 rfl infR (.int .i64 51) rfl) rfl ⟨by rw [HE.out, HPE.out]; rfl, H4.out.1⟩
  have h2i : ¬ (65535 : Int) < (n : Int) := by omega
  have HEB : Hid (prE p xs = if bdH p xs < hdN p ∨ bdA p xs < hdN p then 51 else if (n : Int) < bdH p xs ∨ (n : Int) < bdA p xs then 10 else 0) := by
    show _ = _; unfold prE bdE; rw [if_neg h0, HN.out, if_neg (by rw [hD]; omega), if_neg (by omega)]
  have HST : Hid (GR w wA.heap.size (rcs { pl0 with pro := p }) ((wA.alloc (.cells rc0.toArray 30)).setCells wA.heap.size 0 (rcs { pl0 with pro := p }))) := GR.start w _ rfl wA HA.out.1 HSZ.out HA.out.2
  have HTB : Hid ((wA.alloc (.cells rc0.toArray 30)).there wA.heap.size 0 12) := there_new _ _ _ _ rfl _ rfl
  have HLT : Hid (D ≤ n ∧ n ≤ 65535) := by show _ ∧ _; omega
  clear hD h1 h2 h0 HSA
  go_enter Try.func18, Try.ntmps18
  go_wp2_with fail
  refine (r7Head_any p _).mono ?_
  rintro e wz ⟨rfl, rfl⟩
  rw [HD.out]
  go_wp2_with fail
  refine (r7Head_any p _).mono ?_
  rintro e wz ⟨rfl, rfl⟩
  rw [HD.out]
  go_upto_region 8 with (first
    | (refine wpList_build_run (cells := (rcs { pl0 with pro := p }).toArray) rfl 30 _ rfl (builtRp p) ?_)
    | (refine stN (fun w' => Hid (GR w wA.heap.size (rcs { pl0 with pro := p }) w')) 30 (.tmp 6) (.tmp 24) rfl rfl wA.heap.size 0 (rcs { pl0 with pro := p }) rfl rfl HTB.out infR (rcs_one _) HST ?_; intro w3 H3))
  clear HST HTB hdb h1i h2i
  obtain ⟨b2, hb2⟩ : ∃ x, wA.heap.size = x := ⟨_, rfl⟩
  rw [hb2] at H3 ⊢
  clear hb2 HSZ HA
  have HSE : Hid (Below w.heap.size w (w3.setCells w.heap.size 0 rc0) ∧ (w3.setCells w.heap.size 0 rc0).rangeAt w.heap.size 0 rc0) := ⟨Below.setCells H3.out.below _ (Nat.le_refl _) _ _, World.rangeAt_setCells_same _ _ _ _ H3.out.res⟩
  by_cases h6 : p = 6
  · subst h6
    have hD20 : D = 20 := by rw [← HD.out]; rfl
    subst hD20
    have hi12 : ∀ w', (Instr.index 9 (.string u) (.int .i64 12)).run Try.prog w' = .ok (.int .u8 (xs.getD 12 0)) w' := fun w' => HIX.out 12 (by have := HLT.out; omega) .i64 w'
    have hxr := HX.out.1.get 12
    obtain ⟨x, hx⟩ : ∃ y, xs.getD 12 0 = y := ⟨_, rfl⟩
    rw [hx] at hi12 hxr
    have HXX := Lib.hid hx
    obtain ⟨H, hH⟩ : ∃ y : Nat, x / 16 * 4 = (y : Int) := ⟨(x / 16 * 4).toNat, by omega⟩
    have HBH : Hid (bdH 6 xs = (H : Int)) := by show _ = _; unfold bdH; rw [if_pos rfl, HXX.out, hH]
    have HBA : Hid (bdA 6 xs = (n : Int)) := by show _ = _; unfold bdA; rw [if_neg (by decide), HN.out]
    have hH60 : H ≤ 60 := by omega
    have hd : x.tdiv 16 = x / 16 := Int.tdiv_eq_ediv_of_nonneg hxr.1
    have hwd : IntKind.i64.wrap (x / 16) = x / 16 := by rw [IntKind.wrap_i64]; omega
    have hwm : IntKind.i64.wrap (x / 16 * 4) = (H : Int) := by rw [IntKind.wrap_i64, hH]; omega
    have hwx : IntKind.i64.wrap x = x := by rw [IntKind.wrap_i64]; omega
    rw [show ((hdN 6 : Nat) : Int) = 20 from rfl, HBH.out, HBA.out] at HEB
    clear hx hH
    by_cases q1 : H < 20
    · have HE : Hid (prE 6 xs = 51) := by show _ = _; rw [HEB.out, if_pos (.inl (by omega))]
      have HPE : Hid (prP 6 xs = pl0) := by show _ = _; unfold prP; rw [if_neg (by rw [HE.out]; decide)]
      have q1i : (H : Int) < 20 := by omega
      clear HEB q1
      go_wp2_with (first
        | (refine wpList_build_run (cells := rc0.toArray) rfl 30 _ rfl builtR0 ?_)
        | (refine stN (fun w' => Hid (Below w.heap.size w w' ∧ w'.rangeAt w.heap.size 0 rc0)) 30 (.tmp 4) (.tmp 44) rfl rfl w.heap.size 0 rc0 rfl rfl H3.out.res infR HR0.out HSE ?_; intro w4 H4))
      refine bodyPost_ret (v := .tuple #[.agg rc0.toArray, .int .i64 51]) (ret_mid2 Try.results18 _ _ _ _ rc0 _ rfl H4.out.2 Try.underlying30 rfl infR (.int .i64 51) rfl) rfl ⟨by rw [HE.out, HPE.out]; rfl, H4.out.1⟩
    have q1i : ¬ (H : Int) < 20 := by omega
    by_cases q2 : n < H
    · have HE : Hid (prE 6 xs = 10) := by show _ = _; rw [HEB.out, if_neg (by have := HLT.out; omega), if_pos (.inl (by omega))]
      have HPE : Hid (prP 6 xs = pl0) := by show _ = _; unfold prP; rw [if_neg (by rw [HE.out]; decide)]
      have q2i : (n : Int) < (H : Int) := by omega
      clear HEB q1 q2
      go_wp2_with (first
        | (refine wpList_build_run (cells := rc0.toArray) rfl 30 _ rfl builtR0 ?_)
        | (refine stN (fun w' => Hid (Below w.heap.size w w' ∧ w'.rangeAt w.heap.size 0 rc0)) 30 (.tmp 4) (.tmp 49) rfl rfl w.heap.size 0 rc0 rfl rfl H3.out.res infR HR0.out HSE ?_; intro w4 H4))
      refine bodyPost_ret (v := .tuple #[.agg rc0.toArray, .int .i64 10]) (ret_mid2 Try.results18 _ _ _ _ rc0 _ rfl H4.out.2 Try.underlying30 rfl infR (.int .i64 10) rfl) rfl ⟨by rw [HE.out, HPE.out]; rfl, H4.out.1⟩
    have q2i : ¬ (n : Int) < (H : Int) := by omega
    have HE : Hid (prE 6 xs = 0) := by show _ = _; rw [HEB.out, if_neg (by have := HLT.out; omega), if_neg (by omega)]
    have HHN : Hid (20 ≤ H ∧ H ≤ n) := by show _ ∧ _; omega
    clear HEB q1 q2 HSE
    obtain ⟨T, hT⟩ : ∃ t : Pl, t = ⟨6, wordAt xs 0, wordAt xs 2, lng xs 4, lng xs 8, xs.getD 13 0, wordAt xs 14, wordAt xs 18, (xs.drop 20).take (H - 20), 0, 0, xs.drop H⟩ := ⟨_, rfl⟩
    have HTP : Hid (prP 6 xs = T) := by
      show _ = _
      unfold prP
      rw [if_pos HE.out, HBH.out, HBA.out, hT]
      have hdr : (xs.drop H).take (n - H) = xs.drop H := List.take_of_length_le (by rw [List.length_drop, HN.out]; omega)
      simp only [gtP, if_pos, pl0, Int.toNat_natCast, hdr, show hdN 6 = 20 from rfl]
    have HTT := Lib.hid hT
    have HIX13 : Hid (∀ w', (Instr.index 9 (.string u) (.int .i64 13)).run Try.prog w' = .ok (.int .u8 (xs.getD 13 0)) w') := fun w' => HIX.out 13 (by have := HLT.out; omega) .i64 w'
    have HC1 : Hid (∀ w', (Instr.sliceAt 9 (.string u) (some (.int .i64 20)) (some (.int .i64 (H : Int))) none).run Try.prog w' = .ok (.string (str ((xs.drop 20).take (H - 20)))) w') := fun w' => HCT.out 20 H HHN.out.1 HHN.out.2 w'
    have HC2 : Hid (∀ w', (Instr.sliceAt 9 (.string u) (some (.int .i64 (H : Int))) none none).run Try.prog w' = .ok (.string (str (xs.drop H))) w') := fun w' => HFR.out H HHN.out.2 w'
    have HW16 : Hid (∀ j, IntKind.u16.wrap (wordAt xs j) = wordAt xs j) := fun j => by have := wordAt_range HX.out.1 j; rw [IntKind.wrap_u16]; omega
    have HW32 : Hid (∀ j, IntKind.u32.wrap (lng xs j) = lng xs j) := fun j => by have := lng_range HX.out.1 j; rw [IntKind.wrap_u32]; omega
    clear hT
    go_wp2_with fail
    refine wp_region_held_drew (S := fun w' => True) (by kernel_rfl) trivial (fun hS => ?_)
    refine tk 0 50 (.int .u8 6) rfl rfl (by kernel_rfl) (by kernel_rfl) (by kernel_rfl) (fun _ _ _ h => h) (Or.inl ⟨by rfl, fun w' h' => ?_⟩) hS ?_
    · go_simp
    try simp only [Act.put, List.setIfInBounds_toArray, List.set_cons_zero, List.set_cons_succ]
    refine tk 1 51 (.string u) rfl rfl (by kernel_rfl) (by kernel_rfl) (by kernel_rfl) (fun _ _ _ h => h) (Or.inl ⟨by rfl, fun w' h' => ?_⟩) hS ?_
    · go_simp
    try simp only [Act.put, List.setIfInBounds_toArray, List.set_cons_zero, List.set_cons_succ]
    refine tk 4 54 (.string u) rfl rfl (by kernel_rfl) (by kernel_rfl) (by kernel_rfl) (fun _ _ _ h => h) (Or.inl ⟨by rfl, fun w' h' => ?_⟩) hS ?_
    · go_simp
    try simp only [Act.put, List.setIfInBounds_toArray, List.set_cons_zero, List.set_cons_succ]
    refine tk 7 57 (.string u) rfl rfl (by kernel_rfl) (by kernel_rfl) (by kernel_rfl) (fun _ _ _ h => h) (Or.inl ⟨by rfl, fun w' h' => ?_⟩) hS ?_
    · go_simp
    try simp only [Act.put, List.setIfInBounds_toArray, List.set_cons_zero, List.set_cons_succ]
    refine tk 10 60 (.string u) rfl rfl (by kernel_rfl) (by kernel_rfl) (by kernel_rfl) (fun _ _ _ h => h) (Or.inl ⟨by rfl, fun w' h' => ?_⟩) hS ?_
    · go_simp
    try simp only [Act.put, List.setIfInBounds_toArray, List.set_cons_zero, List.set_cons_succ]
    refine tk 13 63 (.string u) rfl rfl (by kernel_rfl) (by kernel_rfl) (by kernel_rfl) (fun _ _ _ h => h) (Or.inl ⟨by rfl, fun w' h' => ?_⟩) hS ?_
    · go_simp
    try simp only [Act.put, List.setIfInBounds_toArray, List.set_cons_zero, List.set_cons_succ]
    refine tk 14 64 (.int .u8 (xs.getD 13 0)) rfl rfl (by kernel_rfl) (by kernel_rfl) (by kernel_rfl) (fun _ _ _ h => h) (Or.inl ⟨by rfl, fun w' h' => ?_⟩) hS ?_
    · have hx := HIX13.out
      go_simp
    try simp only [Act.put, List.setIfInBounds_toArray, List.set_cons_zero, List.set_cons_succ]
    refine tk 15 65 (.string u) rfl rfl (by kernel_rfl) (by kernel_rfl) (by kernel_rfl) (fun _ _ _ h => h) (Or.inl ⟨by rfl, fun w' h' => ?_⟩) hS ?_
    · go_simp
    try simp only [Act.put, List.setIfInBounds_toArray, List.set_cons_zero, List.set_cons_succ]
    refine tk 18 68 (.string u) rfl rfl (by kernel_rfl) (by kernel_rfl) (by kernel_rfl) (fun _ _ _ h => h) (Or.inl ⟨by rfl, fun w' h' => ?_⟩) hS ?_
    · go_simp
    try simp only [Act.put, List.setIfInBounds_toArray, List.set_cons_zero, List.set_cons_succ]
    refine tk 21 71 (.string u) rfl rfl (by kernel_rfl) (by kernel_rfl) (by kernel_rfl) (fun _ _ _ h => h) (Or.inl ⟨by rfl, fun w' h' => ?_⟩) hS ?_
    · go_simp
    try simp only [Act.put, List.setIfInBounds_toArray, List.set_cons_zero, List.set_cons_succ]
    refine tk 22 72 (.int .i64 (H : Int)) rfl rfl (by kernel_rfl) (by kernel_rfl) (by kernel_rfl) (fun _ _ _ h => h) (Or.inl ⟨by rfl, fun w' h' => ?_⟩) hS ?_
    · go_simp
    try simp only [Act.put, List.setIfInBounds_toArray, List.set_cons_zero, List.set_cons_succ]
    refine tk 23 73 (.string (str ((xs.drop 20).take (H - 20)))) rfl rfl (by kernel_rfl) (by kernel_rfl) (by kernel_rfl) (fun _ _ _ h => h) (Or.inl ⟨by rfl, fun w' h' => ?_⟩) hS ?_
    · have hx := HC1.out
      go_simp
    try simp only [Act.put, List.setIfInBounds_toArray, List.set_cons_zero, List.set_cons_succ]
    refine tk 24 74 (.string u) rfl rfl (by kernel_rfl) (by kernel_rfl) (by kernel_rfl) (fun _ _ _ h => h) (Or.inl ⟨by rfl, fun w' h' => ?_⟩) hS ?_
    · go_simp
    try simp only [Act.put, List.setIfInBounds_toArray, List.set_cons_zero, List.set_cons_succ]
    refine tk 25 75 (.int .i64 (H : Int)) rfl rfl (by kernel_rfl) (by kernel_rfl) (by kernel_rfl) (fun _ _ _ h => h) (Or.inl ⟨by rfl, fun w' h' => ?_⟩) hS ?_
    · go_simp
    try simp only [Act.put, List.setIfInBounds_toArray, List.set_cons_zero, List.set_cons_succ]
    refine tk 26 76 (.string (str (xs.drop H))) rfl rfl (by kernel_rfl) (by kernel_rfl) (by kernel_rfl) (fun _ _ _ h => h) (Or.inl ⟨by rfl, fun w' h' => ?_⟩) hS ?_
    · have hx := HC2.out
      go_simp
    try simp only [Act.put, List.setIfInBounds_toArray, List.set_cons_zero, List.set_cons_succ]
    refine wpAnyH_ready (rs := [2]) (by kernel_rfl) (by simp) (AllReadyH.cons rfl (fun K hK => ?_) AllReadyH.nil)
    rw [if_pos (by rfl)]
    go_wp2_with fail
    refine (rnum2 xs 0 _ u HU.out HX.out.1 HX.out.2 (by rw [HN.out]; have := HLT.out; omega)).mono ?_
    rintro e wq0 ⟨rfl, hbq⟩
    have HQ0 := Lib.hid (H3.out.next (undrew hbq))
    clear hbq H3
    clear hS
    refine hK.out _ _ (trivial) (fun hS => ?_)
    clear hK K
    try simp only [Act.put, List.setIfInBounds_toArray, List.set_cons_zero, List.set_cons_succ]
    refine tk 3 53 (.int .u16 (wordAt xs 0)) rfl rfl (by kernel_rfl) (by kernel_rfl) (by kernel_rfl) (fun _ _ _ h => h) (Or.inl ⟨by rfl, fun w' h' => ?_⟩) hS ?_
    · have hw := HW16.out 0
      go_simp
    try simp only [Act.put, List.setIfInBounds_toArray, List.set_cons_zero, List.set_cons_succ]
    refine wpAnyH_ready (rs := [5]) (by kernel_rfl) (by simp) (AllReadyH.cons rfl (fun K hK => ?_) AllReadyH.nil)
    rw [if_pos (by rfl)]
    go_wp2_with fail
    refine (rnum2 xs 2 _ u HU.out HX.out.1 HX.out.2 (by rw [HN.out]; have := HLT.out; omega)).mono ?_
    rintro e wq1 ⟨rfl, hbq⟩
    have HQ1 := Lib.hid (HQ0.out.next hbq)
    clear hbq HQ0
    clear hS
    refine hK.out _ _ (trivial) (fun hS => ?_)
    clear hK K
    try simp only [Act.put, List.setIfInBounds_toArray, List.set_cons_zero, List.set_cons_succ]
    refine tk 6 56 (.int .u16 (wordAt xs 2)) rfl rfl (by kernel_rfl) (by kernel_rfl) (by kernel_rfl) (fun _ _ _ h => h) (Or.inl ⟨by rfl, fun w' h' => ?_⟩) hS ?_
    · have hw := HW16.out 2
      go_simp
    try simp only [Act.put, List.setIfInBounds_toArray, List.set_cons_zero, List.set_cons_succ]
    refine wpAnyH_ready (rs := [8]) (by kernel_rfl) (by simp) (AllReadyH.cons rfl (fun K hK => ?_) AllReadyH.nil)
    rw [if_pos (by rfl)]
    go_wp2_with fail
    refine (rnum4 xs 4 _ u HU.out HX.out.1 HX.out.2 (by rw [HN.out]; have := HLT.out; omega)).mono ?_
    rintro e wq2 ⟨rfl, hbq⟩
    have HQ2 := Lib.hid (HQ1.out.next hbq)
    clear hbq HQ1
    clear hS
    refine hK.out _ _ (trivial) (fun hS => ?_)
    clear hK K
    try simp only [Act.put, List.setIfInBounds_toArray, List.set_cons_zero, List.set_cons_succ]
    refine tk 9 59 (.int .u32 (lng xs 4)) rfl rfl (by kernel_rfl) (by kernel_rfl) (by kernel_rfl) (fun _ _ _ h => h) (Or.inl ⟨by rfl, fun w' h' => ?_⟩) hS ?_
    · have hw := HW32.out 4
      go_simp
    try simp only [Act.put, List.setIfInBounds_toArray, List.set_cons_zero, List.set_cons_succ]
    refine wpAnyH_ready (rs := [11]) (by kernel_rfl) (by simp) (AllReadyH.cons rfl (fun K hK => ?_) AllReadyH.nil)
    rw [if_pos (by rfl)]
    go_wp2_with fail
    refine (rnum4 xs 8 _ u HU.out HX.out.1 HX.out.2 (by rw [HN.out]; have := HLT.out; omega)).mono ?_
    rintro e wq3 ⟨rfl, hbq⟩
    have HQ3 := Lib.hid (HQ2.out.next hbq)
    clear hbq HQ2
    clear hS
    refine hK.out _ _ (trivial) (fun hS => ?_)
    clear hK K
    try simp only [Act.put, List.setIfInBounds_toArray, List.set_cons_zero, List.set_cons_succ]
    refine tk 12 62 (.int .u32 (lng xs 8)) rfl rfl (by kernel_rfl) (by kernel_rfl) (by kernel_rfl) (fun _ _ _ h => h) (Or.inl ⟨by rfl, fun w' h' => ?_⟩) hS ?_
    · have hw := HW32.out 8
      go_simp
    try simp only [Act.put, List.setIfInBounds_toArray, List.set_cons_zero, List.set_cons_succ]
    refine wpAnyH_ready (rs := [16]) (by kernel_rfl) (by simp) (AllReadyH.cons rfl (fun K hK => ?_) AllReadyH.nil)
    rw [if_pos (by rfl)]
    go_wp2_with fail
    refine (rnum2 xs 14 _ u HU.out HX.out.1 HX.out.2 (by rw [HN.out]; have := HLT.out; omega)).mono ?_
    rintro e wq4 ⟨rfl, hbq⟩
    have HQ4 := Lib.hid (HQ3.out.next hbq)
    clear hbq HQ3
    clear hS
    refine hK.out _ _ (trivial) (fun hS => ?_)
    clear hK K
    try simp only [Act.put, List.setIfInBounds_toArray, List.set_cons_zero, List.set_cons_succ]
    refine tk 17 67 (.int .u16 (wordAt xs 14)) rfl rfl (by kernel_rfl) (by kernel_rfl) (by kernel_rfl) (fun _ _ _ h => h) (Or.inl ⟨by rfl, fun w' h' => ?_⟩) hS ?_
    · have hw := HW16.out 14
      go_simp
    try simp only [Act.put, List.setIfInBounds_toArray, List.set_cons_zero, List.set_cons_succ]
    refine wpAnyH_ready (rs := [19]) (by kernel_rfl) (by simp) (AllReadyH.cons rfl (fun K hK => ?_) AllReadyH.nil)
    rw [if_pos (by rfl)]
    go_wp2_with fail
    refine (rnum2 xs 18 _ u HU.out HX.out.1 HX.out.2 (by rw [HN.out]; have := HLT.out; omega)).mono ?_
    rintro e wq5 ⟨rfl, hbq⟩
    have HQ5 := Lib.hid (HQ4.out.next hbq)
    clear hbq HQ4
    clear hS
    refine hK.out _ _ (trivial) (fun hS => ?_)
    clear hK K
    try simp only [Act.put, List.setIfInBounds_toArray, List.set_cons_zero, List.set_cons_succ]
    refine tk 20 70 (.int .u16 (wordAt xs 18)) rfl rfl (by kernel_rfl) (by kernel_rfl) (by kernel_rfl) (fun _ _ _ h => h) (Or.inl ⟨by rfl, fun w' h' => ?_⟩) hS ?_
    · have hw := HW16.out 18
      go_simp
    try simp only [Act.put, List.setIfInBounds_toArray, List.set_cons_zero, List.set_cons_succ]
    refine tk 27 77 (.agg (rcs T).toArray) rfl rfl (by kernel_rfl) (by kernel_rfl) (by kernel_rfl) (fun _ _ _ h => h) (yields_build (by rfl) _ _ rfl ?_) hS ?_
    · rw [HTT.out]; exact builtR ⟨6, wordAt xs 0, wordAt xs 2, lng xs 4, lng xs 8, xs.getD 13 0, wordAt xs 14, wordAt xs 18, (xs.drop 20).take (H - 20), 0, 0, xs.drop H⟩
    try simp only [Act.put, List.setIfInBounds_toArray, List.set_cons_zero, List.set_cons_succ]
    refine wpAnyH_ready (rs := [28]) (by kernel_rfl) (by simp) (AllReadyH.cons rfl (fun K hK => ?_) AllReadyH.nil)
    rw [if_pos (by rfl)]
    refine wp_store_mid 30 _ _ rfl b2 0 (rcs T).toArray rfl rfl HQ5.out.room infR (all_oneCell_toArray (rcs_one _)) ?_
    have HG : Hid (GR w b2 (rcs T) (wq5.setCells b2 0 (rcs T))) := HQ5.out.set rfl
    obtain ⟨wG, hwG⟩ : ∃ y, wq5.setCells b2 0 (rcs T) = y := ⟨_, rfl⟩
    rw [hwG] at HG
    have hwG' : wq5.setCells b2 0 (rcs T).toArray.toList = wG := hwG
    rw [hwG']
    have HGF := Lib.hid (HG.out.fin rfl)
    clear hwG hwG' HQ5
    clear hS
    refine hK.out _ _ (trivial) (fun hS => ?_)
    clear hK K
    refine wpAnyH_done (by kernel_rfl) ?_ _
    go_wp2_with (first
      | (refine ldC 30 (.tmp 6) rfl rfl b2 rfl (rcs T) HG.out.seg _ Try.underlying30 rfl infR ?_)
      | (refine stN (fun w' => Hid (Below w.heap.size w w' ∧ w'.rangeAt w.heap.size 0 (rcs T))) 30 (.tmp 4) (.tmp 103) rfl rfl w.heap.size 0 (rcs T) rfl rfl HG.out.res infR (rcs_one _) HGF ?_; intro wE HEN))
    refine bodyPost_ret (v := .tuple #[.agg (rcs T).toArray, .int .i64 0]) (ret_mid2 Try.results18 _ _ _ _ (rcs T) _ rfl HEN.out.2 Try.underlying30 rfl infR (.int .i64 0) rfl) rfl ⟨by rw [HE.out, HTP.out], HEN.out.1⟩
  have h6b : (p == 6) = false := by simpa using h6
  by_cases h17 : p = 17
  · subst h17
    have hD8 : D = 8 := by rw [← HD.out]; rfl
    subst hD8
    have hyr := wordAt_range HX.out.1 4
    have HBH : Hid (bdH 17 xs = 8) := by show _ = _; unfold bdH; rw [if_neg (by decide), if_pos rfl]
    have HBA0 : Hid (bdA 17 xs = wordAt xs 4) := by show _ = _; unfold bdA; rw [if_pos rfl]
    obtain ⟨A, hA⟩ : ∃ y : Nat, wordAt xs 4 = (y : Int) := ⟨(wordAt xs 4).toNat, by omega⟩
    have HAA := Lib.hid hA
    have HBA : Hid (bdA 17 xs = (A : Int)) := by show _ = _; rw [HBA0.out, hA]
    have hA16 : A ≤ 65535 := by omega
    rw [show ((hdN 17 : Nat) : Int) = 8 from rfl, HBH.out, HBA.out] at HEB
    have hwA : IntKind.i64.wrap (A : Int) = (A : Int) := by rw [IntKind.wrap_i64]; omega
    clear hA hyr HBA0 h6
    go_wp2_with fail
    refine (rnum2 xs 4 _ u HU.out HX.out.1 HX.out.2 (by rw [HN.out]; have := HLT.out; omega)).mono ?_
    rintro e w4 ⟨rfl, hb4⟩
    rw [HAA.out]
    have H4 := Lib.hid (H3.out.next hb4)
    clear hb4 HSE H3
    have HSE : Hid (Below w.heap.size w (w4.setCells w.heap.size 0 rc0) ∧ (w4.setCells w.heap.size 0 rc0).rangeAt w.heap.size 0 rc0) := ⟨Below.setCells H4.out.below _ (Nat.le_refl _) _ _, World.rangeAt_setCells_same _ _ _ _ H4.out.res⟩
    by_cases q1 : A < 8
    · have HE : Hid (prE 17 xs = 51) := by show _ = _; rw [HEB.out, if_pos (.inr (by omega))]
      have HPE : Hid (prP 17 xs = pl0) := by show _ = _; unfold prP; rw [if_neg (by rw [HE.out]; decide)]
      have q1i : (A : Int) < 8 := by omega
      clear HEB q1
      go_wp2_with (first
        | (refine wpList_build_run (cells := rc0.toArray) rfl 30 _ rfl builtR0 ?_)
        | (refine stN (fun w' => Hid (Below w.heap.size w w' ∧ w'.rangeAt w.heap.size 0 rc0)) 30 (.tmp 4) (.tmp 85) rfl rfl w.heap.size 0 rc0 rfl rfl H4.out.res infR HR0.out HSE ?_; intro w4 H4))
      refine bodyPost_ret (v := .tuple #[.agg rc0.toArray, .int .i64 51]) (ret_mid2 Try.results18 _ _ _ _ rc0 _ rfl H4.out.2 Try.underlying30 rfl infR (.int .i64 51) rfl) rfl ⟨by rw [HE.out, HPE.out]; rfl, H4.out.1⟩
    have q1i : ¬ (A : Int) < 8 := by omega
    by_cases q2 : n < A
    · have HE : Hid (prE 17 xs = 10) := by show _ = _; rw [HEB.out, if_neg (by omega), if_pos (.inr (by omega))]
      have HPE : Hid (prP 17 xs = pl0) := by show _ = _; unfold prP; rw [if_neg (by rw [HE.out]; decide)]
      have q2i : (n : Int) < (A : Int) := by omega
      clear HEB q1 q2
      go_wp2_with (first
        | (refine wpList_build_run (cells := rc0.toArray) rfl 30 _ rfl builtR0 ?_)
        | (refine stN (fun w' => Hid (Below w.heap.size w w' ∧ w'.rangeAt w.heap.size 0 rc0)) 30 (.tmp 4) (.tmp 90) rfl rfl w.heap.size 0 rc0 rfl rfl H4.out.res infR HR0.out HSE ?_; intro w4 H4))
      refine bodyPost_ret (v := .tuple #[.agg rc0.toArray, .int .i64 10]) (ret_mid2 Try.results18 _ _ _ _ rc0 _ rfl H4.out.2 Try.underlying30 rfl infR (.int .i64 10) rfl) rfl ⟨by rw [HE.out, HPE.out]; rfl, H4.out.1⟩
    have q2i : ¬ (n : Int) < (A : Int) := by omega
    have HE : Hid (prE 17 xs = 0) := by show _ = _; rw [HEB.out, if_neg (by omega), if_neg (by have := HLT.out; omega)]
    have HHN : Hid (8 ≤ A ∧ A ≤ n) := by show _ ∧ _; omega
    clear HEB q1 q2 HSE
    obtain ⟨T, hT⟩ : ∃ t : Pl, t = ⟨17, wordAt xs 0, wordAt xs 2, 0, 0, 0, 0, 0, [], 0, 0, (xs.drop 8).take (A - 8)⟩ := ⟨_, rfl⟩
    have HTP : Hid (prP 17 xs = T) := by
      show _ = _
      unfold prP
      rw [if_pos HE.out, HBH.out, HBA.out, hT]
      simp only [gtP, pl0, Int.toNat_natCast, show hdN 17 = 8 from rfl, show ¬ (17 : Int) = 6 from by decide, if_false, if_true, show (8 : Int).toNat = 8 from rfl, Nat.sub_self, List.take_zero]
    have hct : ∀ w', (Instr.sliceAt 9 (.string u) (some (.int .i64 8)) (some (.int .i64 (A : Int))) none).run Try.prog w' = .ok (.string (str ((xs.drop 8).take (A - 8)))) w' := fun w' => HCT.out 8 A HHN.out.1 HHN.out.2 w'
    have HW16 : Hid (∀ j, IntKind.u16.wrap (wordAt xs j) = wordAt xs j) := fun j => by have := wordAt_range HX.out.1 j; rw [IntKind.wrap_u16]; omega
    have HL2 : Hid (8 ≤ xs.length) := by show _ ≤ _; rw [HN.out]; exact HLT.out.1
    have hw0 := HW16.out 0
    have hw2 := HW16.out 2
    go_wp2_with fail
    refine (rnum2 xs 0 _ u HU.out HX.out.1 HX.out.2 (by have := HL2.out; omega)).mono ?_
    rintro e w5 ⟨rfl, hb5⟩
    have H5 := Lib.hid (H4.out.next hb5)
    clear hb5 H4
    have c1 := range_cell H5.out.seg (j := 1) (v := .int .u16 0) rfl
    have f1 := (H5.out.room 1 (by omega)).2
    rw [Nat.zero_add] at f1
    go_upto_region 26 with fail
    have H6 := Lib.hid (H5.out.put rfl 1 (by omega) (.int .u16 (wordAt xs 0)))
    obtain ⟨w6, hw6⟩ : ∃ y, w5.setCell ⟨b2, 1, none⟩ (.int .u16 (wordAt xs 0)) = y := ⟨_, rfl⟩
    rw [hw6] at H6 ⊢
    clear hw6 c1 f1 H5
    go_wp2_with fail
    refine (rnum2 xs 2 _ u HU.out HX.out.1 HX.out.2 (by have := HL2.out; omega)).mono ?_
    rintro e w7 ⟨rfl, hb7⟩
    have H7 := Lib.hid (H6.out.next hb7)
    clear hb7 H6
    have c2 := range_cell H7.out.seg (j := 2) (v := .int .u16 0) rfl
    have f2 := (H7.out.room 2 (by omega)).2
    rw [Nat.zero_add] at f2
    go_upto_region 27 with fail
    have H8 := Lib.hid (H7.out.put rfl 2 (by omega) (.int .u16 (wordAt xs 2)))
    obtain ⟨w8, hw8⟩ : ∃ y, w7.setCell ⟨b2, 2, none⟩ (.int .u16 (wordAt xs 2)) = y := ⟨_, rfl⟩
    rw [hw8] at H8 ⊢
    clear hw8 c2 f2 H7
    have c11 := range_cell H8.out.seg (j := 11) (v := .string ⟨#[]⟩) rfl
    have f11 := (H8.out.room 11 (by omega)).2
    rw [Nat.zero_add] at f11
    go_upto_region 28 with fail
    have HG := Lib.hid (H8.out.put rfl 11 (by omega) (.string (str ((xs.drop 8).take (A - 8)))))
    obtain ⟨w9, hw9⟩ : ∃ y, w8.setCell ⟨b2, 11, none⟩ (.string (str ((xs.drop 8).take (A - 8)))) = y := ⟨_, rfl⟩
    rw [hw9] at HG ⊢
    have hTc : rcs T = ((((rcs { pl0 with pro := 17 }).set 1 (.int .u16 (wordAt xs 0))).set 2 (.int .u16 (wordAt xs 2))).set 11 (.string (str ((xs.drop 8).take (A - 8))))) := by rw [hT]; rfl
    rw [← hTc] at HG
    have HGF := Lib.hid (HG.out.fin rfl)
    clear hw9 c11 f11 H8 hTc hT
    go_wp2_with (first
      | (refine ldC 30 (.tmp 6) rfl rfl b2 rfl (rcs T) HG.out.seg _ Try.underlying30 rfl infR ?_)
      | (refine stN (fun w' => Hid (Below w.heap.size w w' ∧ w'.rangeAt w.heap.size 0 (rcs T))) 30 (.tmp 4) (.tmp 103) rfl rfl w.heap.size 0 (rcs T) rfl rfl HG.out.res infR (rcs_one _) HGF ?_; intro wE HEN))
    refine bodyPost_ret (v := .tuple #[.agg (rcs T).toArray, .int .i64 0]) (ret_mid2 Try.results18 _ _ _ _ (rcs T) _ rfl HEN.out.2 Try.underlying30 rfl infR (.int .i64 0) rfl) rfl ⟨by rw [HE.out, HTP.out], HEN.out.1⟩
  have h17b : (p == 17) = false := by simpa using h17
  have hD4 : D = 4 := by
    rcases hdN_pro2 HH.out with e | e | e | e
    · exact absurd e h6
    · exact absurd e h17
    · rw [← HD.out, e]; rfl
    · rw [← HD.out, e]; rfl
  subst hD4
  have HE : Hid (prE p xs = 0) := by
    have e1 : bdH p xs = 4 := by unfold bdH; rw [if_neg h6, if_neg h17]
    have e2 : bdA p xs = (n : Int) := by unfold bdA; rw [if_neg h17, HN.out]
    show _ = _; rw [HEB.out, HD.out, e1, e2, if_neg (by have := HLT.out; omega), if_neg (by have := HLT.out; omega)]
  obtain ⟨T, hT⟩ : ∃ t : Pl, t = ⟨p, 0, 0, 0, 0, 0, 0, 0, [], xs.getD 0 0, xs.getD 1 0, xs.drop 4⟩ := ⟨_, rfl⟩
  have HTP : Hid (prP p xs = T) := by
    have e1 : bdH p xs = 4 := by unfold bdH; rw [if_neg h6, if_neg h17]
    have e2 : bdA p xs = (n : Int) := by unfold bdA; rw [if_neg h17, HN.out]
    have hdr : (xs.drop 4).take (n - 4) = xs.drop 4 := List.take_of_length_le (by rw [List.length_drop, HN.out]; omega)
    show _ = _
    unfold prP
    rw [if_pos HE.out, e1, e2, hT]
    simp only [gtP, pl0, Int.toNat_natCast, HD.out, if_neg h6, if_neg h17, show (4 : Int).toNat = 4 from rfl, hdr, Nat.sub_self, List.take_zero]
  have hi0 : ∀ w', (Instr.index 9 (.string u) (.int .i64 0)).run Try.prog w' = .ok (.int .u8 (xs.getD 0 0)) w' := fun w' => HIX.out 0 (by have := HLT.out; omega) .i64 w'
  have hi1 : ∀ w', (Instr.index 9 (.string u) (.int .i64 1)).run Try.prog w' = .ok (.int .u8 (xs.getD 1 0)) w' := fun w' => HIX.out 1 (by have := HLT.out; omega) .i64 w'
  have hf4 : ∀ w', (Instr.sliceAt 9 (.string u) (some (.int .i64 4)) none none).run Try.prog w' = .ok (.string (str (xs.drop 4))) w' := fun w' => HFR.out 4 (by have := HLT.out; omega) w'
  obtain ⟨x0, hx0⟩ : ∃ y, xs.getD 0 0 = y := ⟨_, rfl⟩
  obtain ⟨x1, hx1⟩ : ∃ y, xs.getD 1 0 = y := ⟨_, rfl⟩
  rw [hx0] at hi0 hT
  rw [hx1] at hi1 hT
  clear hx0 hx1
  clear h6 h17 HEB HSE
  have c9 := range_cell H3.out.seg (j := 9) (v := .int .u8 0) rfl
  have f9 := (H3.out.room 9 (by omega)).2
  rw [Nat.zero_add] at f9
  go_upto_region 10 with fail
  have H6 := Lib.hid (H3.out.put rfl 9 (by omega) (.int .u8 (x0)))
  obtain ⟨w6, hw6⟩ : ∃ y, w3.setCell ⟨b2, 9, none⟩ (.int .u8 (x0)) = y := ⟨_, rfl⟩
  rw [hw6] at H6 ⊢
  clear hw6 c9 f9 H3
  have c10 := range_cell H6.out.seg (j := 10) (v := .int .u8 0) rfl
  have f10 := (H6.out.room 10 (by omega)).2
  rw [Nat.zero_add] at f10
  go_upto_region 11 with fail
  have H8 := Lib.hid (H6.out.put rfl 10 (by omega) (.int .u8 (x1)))
  obtain ⟨w8, hw8⟩ : ∃ y, w6.setCell ⟨b2, 10, none⟩ (.int .u8 (x1)) = y := ⟨_, rfl⟩
  rw [hw8] at H8 ⊢
  clear hw8 c10 f10 H6
  have c11 := range_cell H8.out.seg (j := 11) (v := .string ⟨#[]⟩) rfl
  have f11 := (H8.out.room 11 (by omega)).2
  rw [Nat.zero_add] at f11
  go_upto_region 28 with fail
  have HG := Lib.hid (H8.out.put rfl 11 (by omega) (.string (str (xs.drop 4))))
  obtain ⟨w9, hw9⟩ : ∃ y, w8.setCell ⟨b2, 11, none⟩ (.string (str (xs.drop 4))) = y := ⟨_, rfl⟩
  rw [hw9] at HG ⊢
  have hTc : rcs T = ((((rcs { pl0 with pro := p }).set 9 (.int .u8 (x0))).set 10 (.int .u8 (x1))).set 11 (.string (str (xs.drop 4)))) := by rw [hT]; rfl
  rw [← hTc] at HG
  have HGF := Lib.hid (HG.out.fin rfl)
  clear hw9 c11 f11 H8 hTc hT
  go_wp2_with (first
    | (refine ldC 30 (.tmp 6) rfl rfl b2 rfl (rcs T) HG.out.seg _ Try.underlying30 rfl infR ?_)
    | (refine stN (fun w' => Hid (Below w.heap.size w w' ∧ w'.rangeAt w.heap.size 0 (rcs T))) 30 (.tmp 4) (.tmp 103) rfl rfl w.heap.size 0 (rcs T) rfl rfl HG.out.res infR (rcs_one _) HGF ?_; intro wE HEN))
  refine bodyPost_ret (v := .tuple #[.agg (rcs T).toArray, .int .i64 0]) (ret_mid2 Try.results18 _ _ _ _ (rcs T) _ rfl HEN.out.2 Try.underlying30 rfl infR (.int .i64 0) rfl) rfl ⟨by rw [HE.out, HTP.out], HEN.out.1⟩
end Go.Proofs.Ytabdejoakecioaa

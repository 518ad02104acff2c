/-
  The contract of Parse of package trans. Conditions: bytes that lie where the slice leads, fewer than a million million.
-/
import Derived.Test.YtabdejoakecioaaTrRight
import Derived.Test.YtabdejoakecioaaTrBounds
import Derived.Test.YtabdejoakecioaaTrGet
namespace Go.Proofs.Ytabdejoakecioaa
open Go.RowKit

theorem run_slice_any (a : Option Addr) (n cap lo hi : Nat) (xs : List Int) (w : World) (hn : xs.length = n) (hc : n ≤ cap) (h1 : lo ≤ hi) (h2 : hi ≤ n) (h4 : 1 ≤ n) (hr : Rd w a xs) :
    ∃ a2, (∀ w', (Instr.sliceAt 24 (.slice a n cap) (some (.int .i64 (lo : Int))) (some (.int .i64 (hi : Int))) none).run Try.prog w' = .ok (.slice a2 (hi - lo) (cap - lo)) w') ∧ (∀ w', Rd w' a xs → Rd w' a2 ((xs.drop lo).take (hi - lo))) := by
  obtain ⟨b, o, rfl, _⟩ := hr (by intro e; rw [e] at hn; simp at hn; omega)
  refine ⟨if cap = lo then some ⟨b, o, none⟩ else some ⟨b, o + lo, none⟩, fun w' => ?_, fun w' hr' => ?_⟩
  · have h3 : (lo : Int) ≤ (hi : Int) := by omega
    have h4 : (hi : Int) ≤ (cap : Int) := by omega
    have h5 : (0 : Int) ≤ (hi : Int) := by omega
    have h6 : (0 : Int) ≤ (lo : Int) := by omega
    go_simp
  · by_cases e : cap = lo
    · have : hi - lo = 0 := by omega
      rw [this, List.take_zero]; exact Rd.empty _ _
    · rw [if_neg e]; exact hr'.cut (by omega)
theorem there_kept {w w' : World} (h : Below w.heap.size w w') {b n : Nat} (ht : w.there b 0 n) : n ≠ 0 → w'.there b 0 n := fun hn => by
  have hlt : b < w.heap.size := by
    obtain ⟨h1, _⟩ := ht 0 (by omega)
    obtain ⟨v, hv⟩ := Option.isSome_iff_exists.1 h1
    exact World.block_lt_of_cell? w ⟨b, 0 + 0, none⟩ hv
  exact there_heap ht (h.block b hlt)
theorem kd_head (p : Int) (h : hdN p ≠ 0) : (kdV p).toArray[0]? = some (.int .i64 (hdN p)) := by
  rcases hdN_pro h with rfl | rfl | rfl | rfl <;> rfl
theorem builtZ : Try.prog.built 26 [] = some sg0.cs.toArray := by kernel_rfl
/-- What Parse answers. -/
structure ParseA (w : World) (p : Int) (xs : List Int) (e : Ending) (w' : World) : Prop where
  out : ∃ s : Sg, e = .returned (.tuple #[.agg s.cs.toArray, .int .i64 (prE p xs)]) ∧ s.p = prP p xs ∧ Own w' w.heap.size s.oa s.on s.oc s.p.op ∧ Own w' w.heap.size s.da s.dn s.dc s.p.dt ∧ ∀ k, blk s.oa = some k → blk s.da ≠ some k
  below : Below w.heap.size w w'
/-- What lies in memory while Parse goes on. -/
structure QF (w : World) (b1 : Nat) (ks : List Value) (r : Row) (w' : World) : Prop where
  below : Below w.heap.size w w'
  lt : w.heap.size < b1 ∧ b1 < w'.heap.size
  knd : w'.rangeAt b1 0 ks
  res : w'.there w.heap.size 0 12
  row : r.ok w'
theorem QF.next {w w1 w2 : World} {b1 : Nat} {ks : List Value} {r : Row} (h : QF w b1 ks r w1) (hb : Below w1.heap.size w1 w2) : QF w b1 ks r w2 :=
  ⟨h.below.trans (hb.mono h.below.size), ⟨h.lt.1, Nat.lt_of_lt_of_le h.lt.2 hb.size⟩, range_kept hb h.knd, there_kept hb h.res (by decide), h.row.below hb⟩
theorem q_stored (w w1 : World) (ks : List Value) (hk : ks.length = 8) (r : Row) (h : Below w.heap.size w w1) (hs : w.heap.size < w1.heap.size) (ht : w1.there w.heap.size 0 12) (k : r.ok w1) :
    QF w w1.heap.size ks r ((w1.alloc (.cells kZ.toArray 63)).setCells w1.heap.size 0 ks) := by
  obtain ⟨hb, hrk, _⟩ := put_new w1 ks kZ 63 (by rw [hk]; rfl)
  have hsz : ((w1.alloc (.cells kZ.toArray 63)).setCells w1.heap.size 0 ks).heap.size = w1.heap.size + 1 := by rw [size_setCells]; simp
  exact ⟨h.trans (hb.mono h.size), ⟨hs, by omega⟩, hrk, there_kept hb ht (by decide), k.below hb⟩
theorem res_stored {w w2 : World} {b1 : Nat} {ks : List Value} {r : Row} (h : QF w b1 ks r w2) (cs : List Value) (hc : cs.length = 12) : Below w.heap.size w (w2.setCells w.heap.size 0 cs) ∧ (w2.setCells w.heap.size 0 cs).rangeAt w.heap.size 0 cs :=
  ⟨Below.setCells h.below _ (Nat.le_refl _) _ _, World.rangeAt_setCells_same _ _ _ _ (by rw [hc]; exact h.res)⟩
/-- The segment's own block. -/
structure GF (w : World) (b1 b2 : Nat) (ks : List Value) (r : Row) (cs : List Value) (w' : World) : Prop where
  q : QF w b1 ks r w'
  lt : b1 < b2 ∧ b2 < w'.heap.size
  seg : w'.rangeAt b2 0 cs
  room : w'.there b2 0 12
theorem GF.next {w w1 w2 : World} {b1 b2 : Nat} {ks : List Value} {r : Row} {cs : List Value} (h : GF w b1 b2 ks r cs w1) (hb : Below w1.heap.size w1 w2) : GF w b1 b2 ks r cs w2 :=
  ⟨h.q.next hb, ⟨h.lt.1, Nat.lt_of_lt_of_le h.lt.2 hb.size⟩, range_kept hb h.seg, there_kept hb h.room (by decide)⟩
theorem GF.start {w w1 : World} {b1 : Nat} {ks : List Value} {r : Row} (cs : List Value) (hc : cs.length = 12) (h : QF w b1 ks r w1) : GF w b1 w1.heap.size ks r cs ((w1.alloc (.cells sg0.cs.toArray 26)).setCells w1.heap.size 0 cs) := by
  obtain ⟨hb, hrk, _⟩ := put_new w1 cs sg0.cs 26 (by rw [hc]; rfl)
  have hsz : ((w1.alloc (.cells sg0.cs.toArray 26)).setCells w1.heap.size 0 cs).heap.size = w1.heap.size + 1 := by rw [size_setCells]; simp
  have t1 : (w1.alloc (.cells sg0.cs.toArray 26)).there w1.heap.size 0 12 := there_new _ _ _ _ rfl _ rfl
  exact ⟨h.next hb, ⟨h.lt.2, by omega⟩, hrk, World.there_setCells t1 _ _ _⟩
theorem GF.put {w w1 : World} {b1 b2 : Nat} {ks : List Value} {r : Row} {cs : List Value} (h : GF w b1 b2 ks r cs w1) (hc : cs.length = 12) (hr : r.xs ≠ [] → blk r.a ≠ some b2) (j : Nat) (hj : j < 12) (v : Value) : GF w b1 b2 ks r (cs.set j v) (w1.setCell ⟨b2, j, none⟩ v) := by
  have hk : Kept (fun k => k = b2) w1 (w1.setCell ⟨b2, j, none⟩ v) := Kept.setCell (S := fun k => k = b2) _ _ _ rfl
  have l1 := h.lt
  have l2 := h.q.lt
  refine ⟨⟨h.q.below.trans (hk.below h.q.below.size (fun k e => by omega)), ⟨l2.1, by have := hk.size; omega⟩, range_by h.q.knd hk l2.2 (by omega), there_heap h.q.res (hk.block _ (by omega) (by omega)), ⟨h.q.row.len, h.q.row.cap, h.q.row.max, ?_, h.q.row.byt⟩⟩, ⟨l1.1, by have := hk.size; omega⟩, range_one h.seg (by rw [hc]; exact h.room) (by omega) v, there_one h.room j v⟩
  by_cases e : r.xs = []
  · rw [e]; exact Rd.empty _ _
  · exact h.q.row.rd.keep hk (fun b e2 k => hr e (by rw [e2, k]))
theorem gtS_len (p : Int) (xs : List Int) : (gtS p xs).cs.length = 12 := rfl

set_option maxRecDepth 100000 in
set_option maxHeartbeats 4000000 in
theorem parse_by (F : Nat) (p : Int) (a : Option Addr) (n cap : Nat) (xs : List Int) (w : World) (hcf : ∀ args w, (callFunc F args).run Try.prog w = .ok (.enter F args) w) (hh : hdN p ≠ 0) (hk6 : (kdV p).toArray[6]? = some (.func (.func F) #[] #[]))
    (hF : prE p xs = 0 → ∀ w1, Rd w1 a xs → Calls Try.prog F #[.slice a n cap] w1 (Gives w1 (.agg (gtS p xs).cs.toArray)))
    (hx : Row.ok w ⟨a, n, cap, xs⟩) (hn : n ≤ 1099511627776) : Calls Try.prog 19 #[.int .u8 p, .slice a n cap] w (ParseA w p xs) := by
  obtain ⟨wA, hwA⟩ : ∃ x, w.alloc (.cells sg0.cs.toArray 26) = x := ⟨_, rfl⟩
  have hbA : Below w.heap.size w wA := by rw [← hwA]; exact (Below.refl _ _).alloc (Nat.le_refl _) _
  have hsA : w.heap.size < wA.heap.size := by rw [← hwA]; simp
  have htA : wA.there w.heap.size 0 12 := by rw [← hwA]; exact there_new _ _ _ _ rfl _ rfl
  have HA : Hid (Below w.heap.size w wA ∧ w.heap.size < wA.heap.size ∧ wA.there w.heap.size 0 12 ∧ Row.ok wA ⟨a, n, cap, xs⟩) := ⟨hbA, hsA, htA, hx.below hbA⟩
  have hwA' : w.alloc (.cells #[.int .u8 0, .int .u16 0, .int .u16 0, .int .u32 0, .int .u32 0, .int .u8 0, .int .u16 0, .int .u16 0, .slice none 0 0, .int .u8 0, .int .u8 0, .slice none 0 0] 26) = wA := hwA
  have HF := Lib.hid hF
  have H6 := Lib.hid hk6
  have HH := Lib.hid hh
  have HX := Lib.hid (And.intro hx.len (And.intro hx.cap hx.byt))
  have HXA : Hid (∀ g, w.heap.size ≤ g → xs ≠ [] → blk a ≠ some g) := fun g hg => hx.rd.apart hg
  have HE : Hid (prE p xs = bdE p xs) := by show _ = _; unfold prE; rw [if_neg hh]
  obtain ⟨kc, hkc⟩ : ∃ kc, (kdV p).toArray = kc := ⟨_, rfl⟩
  have HKC := Lib.hid hkc
  have HKO : Hid (∀ w, Calls Try.prog 30 #[.int .u8 p] w (Gives w (.tuple #[.agg kc, .bool true]))) := fun w => by have := tKindOf_any p w; rw [hkc, decide_eq_true hh] at this; exact this
  have HZ : Hid (∀ w1 : World, (w1.alloc (.cells kZ.toArray 63)).there w1.heap.size 0 (kdV p).length) := fun w1 => there_new _ _ _ _ (by rw [kdV_len]; rfl) _ rfl
  have HIK : Hid ((Try.prog.info? 63).map (·.size) = some (kdV p).length) := by show _ = _; rw [kdV_len]; exact infK
  clear hF hk6 hh hx hbA hsA htA hkc hwA
  go_enter Try.func19, Try.ntmps19
  go_wp2_with fail
  refine (HKO.out _).mono ?_
  rintro e w1 ⟨rfl, hb1⟩
  have HP1 := Lib.hid (q_stored w w1 (kdV p) (kdV_len p) ⟨a, n, cap, xs⟩ (HA.out.1.trans (hb1.mono HA.out.1.size)) (Nat.lt_of_lt_of_le HA.out.2.1 hb1.size) (there_kept hb1 HA.out.2.2.1 (by decide)) (HA.out.2.2.2.below hb1))
  clear hb1 HA
  go_upto_region 4 with (refine stN (fun w' => Hid (QF w w1.heap.size (kdV p) ⟨a, n, cap, xs⟩ w')) 63 (.tmp 6) (.tmp 15) rfl rfl w1.heap.size 0 (kdV p) rfl (by rw [HKC.out]; rfl) (HZ.out w1) HIK.out (kdV_one _) HP1 ?_; intro w2 H2)
  clear HP1
  obtain ⟨b1, hb⟩ : ∃ x, w1.heap.size = x := ⟨_, rfl⟩
  rw [hb] at H2 ⊢
  clear hb
  go_wp2_with (first
    | (refine ldC 63 (.tmp 6) rfl rfl b1 rfl (kdV p) H2.out.knd _ Try.underlying63 rfl HIK.out ?_; rw [HKC.out]))
  rw [← HKC.out]
  refine (tkBounds_any p a n cap xs w2 w2 HH.out (Below.refl _ _) H2.out.row hn).mono ?_
  rintro e w3 ⟨rfl, hb3⟩
  have H3 := Lib.hid (H2.out.next hb3)
  rw [HKC.out]
  clear hb3 H2
  obtain ⟨E, hE⟩ : ∃ x, bdE p xs = x := ⟨_, rfl⟩
  rw [hE] at HE ⊢
  by_cases he : E = 0
  case neg =>
    have hvb : (E != 0) = true := by simpa using he
    have HPE : Hid (prP p xs = pl0) := by show _ = _; unfold prP; rw [if_neg (by rw [HE.out]; exact he)]
    have HS := Lib.hid (res_stored H3.out sg0.cs rfl)
    have HEE := Lib.hid HE.out
    clear he hE HE
    go_wp2_with (first
      | (refine wpList_build_run (cells := sg0.cs.toArray) rfl 26 _ rfl builtZ ?_)
      | (refine stN (fun w' => Hid (Below w.heap.size w w' ∧ w'.rangeAt w.heap.size 0 sg0.cs)) 26 (.tmp 4) (.tmp 29) rfl rfl w.heap.size 0 sg0.cs rfl rfl H3.out.res infS (Sg.one _) HS ?_; intro w4 H4))
    refine bodyPost_ret (v := .tuple #[.agg sg0.cs.toArray, .int .i64 E]) (ret_mid2 Try.results19 _ _ _ _ sg0.cs _ rfl H4.out.2 Try.underlying26 rfl infS (.int .i64 E) rfl) rfl ⟨⟨sg0, by rw [HEE.out], HPE.out.symm, Own.nil _ _, Own.nil _ _, fun k e => by cases e⟩, H4.out.1⟩
  subst he
  have HPZ := Lib.hid HE.out
  obtain ⟨k1, k2, k3, k4, k5, k6⟩ := bdE_zero hE
  have k7 := bdH_le HE.out
  rw [HX.out.1] at k1 k2 k5 k6
  obtain ⟨D, hD⟩ : ∃ x : Nat, hdN p = x := ⟨_, rfl⟩
  obtain ⟨H, hH⟩ : ∃ x : Nat, bdH p xs = (x : Int) := ⟨(bdH p xs).toNat, by omega⟩
  obtain ⟨A, hA⟩ : ∃ x : Nat, bdA p xs = (x : Int) := ⟨(bdA p xs).toNat, by omega⟩
  have hd4 : D ≠ 0 := by rw [← hD]; exact HH.out
  rw [hD] at k1 k3 k4
  rw [hH] at k3 k5 k7
  rw [hA] at k4 k6 k7
  obtain ⟨a2, hsl1, hrd1⟩ := run_slice_any a n cap D H xs w3 HX.out.1 HX.out.2.1 (by omega) (by omega) (by omega) H3.out.row.rd
  obtain ⟨a3, hsl2, hrd2⟩ := run_slice_any a n cap H A xs w3 HX.out.1 HX.out.2.1 (by omega) (by omega) (by omega) H3.out.row.rd
  have HPP : Hid (prP p xs = { gtP p xs with pro := p, op := (xs.drop D).take (H - D), dt := (xs.drop H).take (A - H) }) := by
    show _ = _
    unfold prP
    rw [if_pos HPZ.out, hD, hH, hA, Int.toNat_natCast, Int.toNat_natCast]
  have HR1 := Lib.hid hrd1
  have HR2 := Lib.hid hrd2
  have HDD := Lib.hid hD
  have o1 : okN 0 (bdH p xs) = (H : Int) := by unfold okN; rw [if_pos rfl, hH]
  have o2 : okN 0 (bdA p xs) = (A : Int) := by unfold okN; rw [if_pos rfl, hA]
  rw [o1, o2]
  have c6 := range_cell H3.out.knd H6.out
  have HKN := Lib.hid (And.intro k1 (And.intro k5 (And.intro k6 k7)))
  clear hE HE k1 k2 k3 k4 k5 k6 k7 hD hH hA hrd1 hrd2 o1 o2 hd4 H6
  go_wp2_with fail
  refine (HF.out HPZ.out _ H3.out.row.rd).mono ?_
  rintro e w4 ⟨rfl, hb4⟩
  have H4 := Lib.hid (GF.start (gtS p xs).cs rfl (H3.out.next hb4))
  clear hb4 c6 H3
  obtain ⟨G, hG⟩ : ∃ x, (gtS p xs).cs.toArray = x := ⟨_, rfl⟩
  have HG := Lib.hid hG
  have HT4 : Hid ((w4.alloc (.cells sg0.cs.toArray 26)).there w4.heap.size 0 12) := there_new _ _ _ _ rfl _ rfl
  rw [hG]
  clear hG
  go_upto_region 8 with (first | (refine stN (fun w' => Hid (GF w b1 w4.heap.size (kdV p) ⟨a, n, cap, xs⟩ (gtS p xs).cs w')) 26 (.tmp 11) (.tmp 34) rfl rfl w4.heap.size 0 (gtS p xs).cs rfl (by rw [HG.out]; rfl) HT4.out infS (Sg.one _) H4 ?_; intro w5 H5))
  clear H4 HT4
  obtain ⟨b2, hb⟩ : ∃ x, w4.heap.size = x := ⟨_, rfl⟩
  rw [hb] at H5 ⊢
  clear hb
  have HAP : Hid (xs ≠ [] → blk a ≠ some b2) := HXA.out b2 (by have h1 := H5.out.lt; have h2 := H5.out.q.lt; omega)
  have q0 := range_cell H5.out.seg (gtS p xs).c0
  have f0 := (H5.out.room 0 (by omega)).2
  rw [Nat.zero_add] at f0
  have q1 := range_cell H5.out.q.knd (kd_head p HH.out)
  rw [HDD.out] at q1
  go_upto_region 9 with fail
  have H6 := Lib.hid (H5.out.put rfl HAP.out 0 (by omega) (.int .u8 p))
  obtain ⟨w6, hw6⟩ : ∃ x, w5.setCell ⟨b2, 0, none⟩ (.int .u8 p) = x := ⟨_, rfl⟩
  rw [hw6] at H6 ⊢
  clear hw6 q0 f0 q1 H5
  have q1 := range_cell H6.out.q.knd (kd_head p HH.out)
  rw [HDD.out] at q1
  go_wp2_with fail
  refine (tClone_any a2 (H - D) (cap - D) ((xs.drop D).take (H - D)) _ (by rw [List.length_take, List.length_drop, HX.out.1]; have := HKN.out; omega) (HR1.out _ H6.out.q.row.rd) (by have := HKN.out; omega)).mono ?_
  rintro e w7 ⟨oa, on, oc, rfl, hown, hb7⟩
  have H7 := Lib.hid (H6.out.next hb7)
  have HO1 := Lib.hid hown
  have HS1 : Hid (b2 < w6.heap.size) := H6.out.lt.2
  clear hown hb7 q1 H6
  have q8 := range_cell H7.out.seg (j := 8) (v := .slice none 0 0) rfl
  have f8 := (H7.out.room 8 (by omega)).2
  rw [Nat.zero_add] at f8
  go_upto_region 10 with fail
  have H8 := Lib.hid (H7.out.put rfl HAP.out 8 (by omega) (.slice oa on oc))
  obtain ⟨w8, hw8⟩ : ∃ x, w7.setCell ⟨b2, 8, none⟩ (.slice oa on oc) = x := ⟨_, rfl⟩
  have HO2 : Hid (Own w8 w6.heap.size oa on oc ((xs.drop D).take (H - D))) := HO1.out.keep (S := fun k => k = b2) (by rw [← hw8]; exact Kept.setCell (S := fun k => k = b2) _ _ _ rfl) (fun b e k => by have h1 := (HO1.out.blk_ge b e).1; have h2 := HS1.out; have h3 : b = b2 := k; omega)
  rw [hw8] at H8 ⊢
  clear hw8 q8 f8 H7 HO1
  go_wp2_with fail
  refine (tClone_any a3 (A - H) (cap - H) ((xs.drop H).take (A - H)) _ (by rw [List.length_take, List.length_drop, HX.out.1]; have := HKN.out; omega) (HR2.out _ H8.out.q.row.rd) (by have := HKN.out; omega)).mono ?_
  rintro e w9 ⟨da, dn, dc, rfl, hown, hb9⟩
  have H9 := Lib.hid (H8.out.next hb9)
  have HO3 := Lib.hid hown
  have HO4 := Lib.hid (HO2.out.below hb9)
  have HS2 : Hid (b2 < w8.heap.size) := H8.out.lt.2
  have HAPT0 : Hid (∀ k, blk oa = some k → blk da ≠ some k) := fun k e e2 => by have h1 := (HO2.out.blk_ge k e).2; have h2 := (HO3.out.blk_ge k e2).1; omega
  clear hown hb9 H8 HO2
  have q11 := range_cell H9.out.seg (j := 11) (v := .slice none 0 0) rfl
  have f11 := (H9.out.room 11 (by omega)).2
  rw [Nat.zero_add] at f11
  go_upto_region 11 with fail
  have HX1 := Lib.hid (H9.out.put rfl HAP.out 11 (by omega) (.slice da dn dc))
  obtain ⟨wX, hwX⟩ : ∃ x, w9.setCell ⟨b2, 11, none⟩ (.slice da dn dc) = x := ⟨_, rfl⟩
  have hkX : Kept (fun k => k = b2) w9 wX := by rw [← hwX]; exact Kept.setCell (S := fun k => k = b2) _ _ _ rfl
  have HO5 : Hid (Own wX w6.heap.size oa on oc ((xs.drop D).take (H - D))) := HO4.out.keep hkX (fun b e k => by have h1 := (HO4.out.blk_ge b e).1; have h2 := HS1.out; have h3 : b = b2 := k; omega)
  have HO6 : Hid (Own wX w8.heap.size da dn dc ((xs.drop H).take (A - H))) := HO3.out.keep hkX (fun b e k => by have h1 := (HO3.out.blk_ge b e).1; have h2 := HS2.out; have h3 : b = b2 := k; omega)
  rw [hwX] at HX1 ⊢
  obtain ⟨s, hs⟩ : ∃ s : Sg, s = ⟨prP p xs, oa, on, oc, da, dn, dc⟩ := ⟨_, rfl⟩
  have hcs : s.cs = (((gtS p xs).cs.set 0 (.int .u8 p)).set 8 (.slice oa on oc)).set 11 (.slice da dn dc) := by rw [hs, HPP.out]; rfl
  rw [← hcs] at HX1
  have HOS : Hid (s.p = prP p xs ∧ Own wX w6.heap.size s.oa s.on s.oc s.p.op ∧ Own wX w8.heap.size s.da s.dn s.dc s.p.dt) := by
    rw [hs]
    exact ⟨rfl, by show Own _ _ _ _ _ (prP p xs).op; rw [HPP.out]; exact HO5.out, by show Own _ _ _ _ _ (prP p xs).dt; rw [HPP.out]; exact HO6.out⟩
  have HAPT : Hid (∀ k, blk s.oa = some k → blk s.da ≠ some k) := by show ∀ k, _; rw [hs]; exact HAPT0.out
  have HRS := Lib.hid (res_stored HX1.out.q s.cs rfl)
  have HRL : Hid (w.heap.size ≤ w6.heap.size ∧ w.heap.size ≤ w8.heap.size) := by have h1 := HX1.out.lt; have h2 := HX1.out.q.lt; have h3 := HS1.out; have h4 := HS2.out; exact ⟨by omega, by omega⟩
  have HSK : Hid (Kept (fun k => k = w.heap.size) wX (wX.setCells w.heap.size 0 s.cs)) := Kept.setCells _ _ _ _ (Kept.refl _ _)
  have HLTS : Hid (w.heap.size < b2) := by have h1 := HX1.out.lt; have h2 := HX1.out.q.lt; show _ < _; omega
  clear hwX hkX hs hcs q11 f11 H9 HO3 HO4 HO5 HO6
  go_wp2_with (first
    | (refine ldS (.tmp 11) rfl rfl b2 rfl s HX1.out.seg ?_)
    | (refine stN (fun w' => Hid (w' = wX.setCells w.heap.size 0 s.cs)) 26 (.tmp 4) (.tmp 50) rfl rfl w.heap.size 0 s.cs rfl rfl HX1.out.q.res infS (Sg.one _) rfl ?_; intro wY HY))
  have hY := HY.out
  refine bodyPost_ret (v := .tuple #[.agg s.cs.toArray, .int .i64 0]) (ret_mid2 Try.results19 _ _ _ _ s.cs _ rfl (by rw [hY]; exact HRS.out.2) Try.underlying26 rfl infS (.int .i64 0) rfl) rfl ⟨⟨s, by rw [HPZ.out], HOS.out.1, ?_, ?_, HAPT.out⟩, by rw [hY]; exact HRS.out.1⟩
  · rw [hY]; exact (HOS.out.2.1.keep HSK.out (fun b e k => by have h1 := (HOS.out.2.1.blk_ge b e).1; have h2 := HS1.out; have h3 := HLTS.out; have h4 : b = w.heap.size := k; omega)).mono HRL.out.1
  · rw [hY]; exact (HOS.out.2.2.keep HSK.out (fun b e k => by have h1 := (HOS.out.2.2.blk_ge b e).1; have h2 := HS2.out; have h3 := HLTS.out; have h4 : b = w.heap.size := k; omega)).mono HRL.out.2
theorem kd_none (p : Int) (hh : hdN p = 0) : kdV p = kZ := by
  unfold hdN at hh; unfold kdV
  split at hh
  · cases hh
  split at hh
  · cases hh
  split at hh
  · cases hh
  split at hh
  · cases hh
  · rw [if_neg (by assumption), if_neg (by assumption), if_neg (by assumption), if_neg (by assumption)]
theorem kZ_one : ∀ v ∈ kZ, v.oneCell' = true := by intro v hv; simp only [kZ, List.mem_cons, List.not_mem_nil, or_false] at hv; rcases hv with rfl | rfl | rfl | rfl | rfl | rfl | rfl | rfl <;> rfl
set_option maxRecDepth 100000 in
set_option maxHeartbeats 1000000 in
theorem parse_no (p : Int) (a : Option Addr) (n cap : Nat) (xs : List Int) (w : World) (hh : hdN p = 0) (hx : Row.ok w ⟨a, n, cap, xs⟩) : Calls Try.prog 19 #[.int .u8 p, .slice a n cap] w (ParseA w p xs) := by
  obtain ⟨wA, hwA⟩ : ∃ x, w.alloc (.cells sg0.cs.toArray 26) = x := ⟨_, rfl⟩
  have hbA : Below w.heap.size w wA := by rw [← hwA]; exact (Below.refl _ _).alloc (Nat.le_refl _) _
  have hsA : w.heap.size < wA.heap.size := by rw [← hwA]; simp
  have htA : wA.there w.heap.size 0 12 := by rw [← hwA]; exact there_new _ _ _ _ rfl _ rfl
  have HA : Hid (Below w.heap.size w wA ∧ w.heap.size < wA.heap.size ∧ wA.there w.heap.size 0 12 ∧ Row.ok wA ⟨a, n, cap, xs⟩) := ⟨hbA, hsA, htA, hx.below hbA⟩
  have hwA' : w.alloc (.cells #[.int .u8 0, .int .u16 0, .int .u16 0, .int .u32 0, .int .u32 0, .int .u8 0, .int .u16 0, .int .u16 0, .slice none 0 0, .int .u8 0, .int .u8 0, .slice none 0 0] 26) = wA := hwA
  have HE : Hid (prE p xs = 70) := by show _ = _; unfold prE; rw [if_pos hh]
  have HPE : Hid (prP p xs = pl0) := by show _ = _; unfold prP; rw [if_neg (by rw [HE.out]; decide)]
  have HKO : Hid (∀ w, Calls Try.prog 30 #[.int .u8 p] w (Gives w (.tuple #[.agg kZ.toArray, .bool false]))) := fun w => by
    have h1 := tKindOf_any p w
    rw [decide_eq_false (by rw [hh]; decide), kd_none p hh] at h1
    exact h1
  have HZ : Hid (∀ w1 : World, (w1.alloc (.cells kZ.toArray 63)).there w1.heap.size 0 kZ.length) := fun w1 => there_new _ _ _ _ rfl _ rfl
  clear hh hx hbA hsA htA hwA
  go_enter Try.func19, Try.ntmps19
  go_wp2_with fail
  refine (HKO.out _).mono ?_
  rintro e w1 ⟨rfl, hb1⟩
  have HP1 := Lib.hid (q_stored w w1 kZ rfl ⟨a, n, cap, xs⟩ (HA.out.1.trans (hb1.mono HA.out.1.size)) (Nat.lt_of_lt_of_le HA.out.2.1 hb1.size) (there_kept hb1 HA.out.2.2.1 (by decide)) (HA.out.2.2.2.below hb1))
  clear hb1 HA
  go_wp2_with (first
    | (refine stN (fun w' => Hid (QF w w1.heap.size kZ ⟨a, n, cap, xs⟩ w')) 63 (.tmp 6) (.tmp 15) rfl rfl w1.heap.size 0 kZ rfl rfl (HZ.out w1) infK kZ_one HP1 ?_; intro w2 H2; have HS := Lib.hid (res_stored H2.out sg0.cs rfl))
    | (refine wpList_build_run (cells := sg0.cs.toArray) rfl 26 _ rfl builtZ ?_)
    | (refine stN (fun w' => Hid (Below w.heap.size w w' ∧ w'.rangeAt w.heap.size 0 sg0.cs)) 26 (.tmp 4) (.tmp 19) rfl rfl w.heap.size 0 sg0.cs rfl rfl H2.out.res infS (Sg.one _) HS ?_; intro w4 H4))
  refine bodyPost_ret (v := .tuple #[.agg sg0.cs.toArray, .int .i64 70]) (ret_mid2 Try.results19 _ _ _ _ sg0.cs _ rfl H4.out.2 Try.underlying26 rfl infS (.int .i64 70) rfl) rfl ⟨⟨sg0, by rw [HE.out], HPE.out.symm, Own.nil _ _, Own.nil _ _, fun k e => by cases e⟩, H4.out.1⟩
theorem call_getT (args : Array Value) (w : World) : (callFunc 57 args).run Try.prog w = .ok (.enter 57 args) w := rfl
theorem call_getU (args : Array Value) (w : World) : (callFunc 61 args).run Try.prog w = .ok (.enter 61 args) w := rfl
theorem call_getI (args : Array Value) (w : World) : (callFunc 53 args).run Try.prog w = .ok (.enter 53 args) w := rfl
theorem prE_head {p : Int} {xs : List Int} (h : prE p xs = 0) : hdN p ≤ xs.length := (bdE_zero (prE_zero h).2).1
theorem tParse_any (p : Int) (a : Option Addr) (n cap : Nat) (xs : List Int) (w : World) (hx : Row.ok w ⟨a, n, cap, xs⟩) (hn : n ≤ 1099511627776) : Calls Try.prog 19 #[.int .u8 p, .slice a n cap] w (ParseA w p xs) := by
  by_cases hh : hdN p = 0
  · exact parse_no p a n cap xs w hh hx
  have hl : xs.length = n := hx.len
  rcases hdN_pro hh with rfl | rfl | rfl | rfl
  · exact parse_by 57 6 a n cap xs w call_getT hh rfl (fun h w1 hr => tGetT_any a n cap xs w1 hl hr hx.byt hn hx.cap (by have h1 := prE_head h; rw [hl] at h1; exact h1)) hx hn
  · exact parse_by 61 17 a n cap xs w call_getU hh rfl (fun h w1 hr => tGetU_any a n cap xs w1 hl hr hx.byt hn hx.cap (by have h1 := prE_head h; rw [hl] at h1; exact h1)) hx hn
  · exact parse_by 53 1 a n cap xs w call_getI hh rfl (fun h w1 hr => tGetI_any 1 (by decide) (by decide) a n cap xs w1 hl hr (by have h1 := prE_head h; rw [hl] at h1; exact h1)) hx hn
  · exact parse_by 53 58 a n cap xs w call_getI hh rfl (fun h w1 hr => tGetI_any 58 (by decide) (by decide) a n cap xs w1 hl hr (by have h1 := prE_head h; rw [hl] at h1; exact h1)) hx hn
end Go.Proofs.Ytabdejoakecioaa

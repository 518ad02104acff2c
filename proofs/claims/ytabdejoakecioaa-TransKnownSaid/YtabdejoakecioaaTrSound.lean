/-
  The contract of Sound of package trans. Conditions: bytes and addresses that lie where the slices lead, at most 1000 bytes.
-/
import Derived.Test.YtabdejoakecioaaTrParse
import Derived.Test.YtabdejoakecioaaTrPut
namespace Go.Proofs.Ytabdejoakecioaa
open Go.RowKit

theorem run_slice_head (a : Option Addr) (n cap hi : Nat) (xs : List Int) (w : World) (hn : xs.length = n) (hc : n ≤ cap) (h2 : hi ≤ n) (h4 : 1 ≤ n) (hr : Rd w a xs) :
    ∀ w', (Instr.sliceAt 24 (.slice a n cap) none (some (.int .i64 (hi : Int))) none).run Try.prog w' = .ok (.slice a hi cap) w' := by
  obtain ⟨b, o, rfl, _⟩ := hr (by intro e; rw [e] at hn; simp at hn; omega)
  intro w'
  have h3 : (hi : Int) ≤ (cap : Int) := by omega
  have h5 : (0 : Int) ≤ (hi : Int) := by omega
  go_simp
/-- What lies in memory while Sound goes on. -/
structure SF (w : World) (b1 : Nat) (ks : List Value) (r r1 r2 : Row) (w' : World) : Prop where
  below : Below w.heap.size w w'
  knd : w'.rangeAt b1 0 ks
  row : r.ok w'
  r1 : r1.ok w'
  r2 : r2.ok w'
theorem SF.next {w w1 w2 : World} {b1 : Nat} {ks : List Value} {r r1 r2 : Row} (h : SF w b1 ks r r1 r2 w1) (hb : Below w1.heap.size w1 w2) : SF w b1 ks r r1 r2 w2 :=
  ⟨h.below.trans (hb.mono h.below.size), range_kept hb h.knd, h.row.below hb, h.r1.below hb, h.r2.below hb⟩
theorem s_stored (w w1 : World) (ks : List Value) (hk : ks.length = 8) (r r1 r2 : Row) (h : Below w.heap.size w w1) (k : r.ok w) (k1 : r1.ok w) (k2 : r2.ok w) :
    SF w w1.heap.size ks r r1 r2 ((w1.alloc (.cells kZ.toArray 63)).setCells w1.heap.size 0 ks) := by
  obtain ⟨hb, hrk, _⟩ := put_new w1 ks kZ 63 (by rw [hk]; rfl)
  exact ⟨h.trans (hb.mono h.size), hrk, (k.below h).below hb, (k1.below h).below hb, (k2.below h).below hb⟩
theorem snd_no {p : Int} {xs src dst : List Int} (h : prE p xs ≠ 0) : snd p xs src dst = false := by unfold snd; rw [decide_eq_false h]; rfl

set_option maxRecDepth 100000 in
set_option maxHeartbeats 1000000 in
theorem sound_no (p : Int) (a sa da : Option Addr) (n cap sn sc dn dc : Nat) (xs src dst : List Int) (w : World) (hh : hdN p = 0) : Calls Try.prog 20 #[.int .u8 p, .slice a n cap, .slice sa sn sc, .slice da dn dc] w (Gives w (.bool (snd p xs src dst))) := by
  have HS : Hid (snd p xs src dst = false) := snd_no (by unfold prE; rw [if_pos hh]; decide)
  have HKO : Hid (∀ w, Calls Try.prog 30 #[.int .u8 p] w (Gives w (.tuple #[.agg kZ.toArray, .bool false]))) := fun w => by
    have h1 := tKindOf_any p w
    rw [decide_eq_false (by rw [hh]; decide), kd_none p hh] at h1
    exact h1
  have HZ : Hid (∀ w1 : World, (w1.alloc (.cells kZ.toArray 63)).there w1.heap.size 0 kZ.length) := fun w1 => there_new _ _ _ _ rfl _ rfl
  have HZB : Hid (∀ w1 : World, Below w.heap.size w w1 → Below w.heap.size w ((w1.alloc (.cells kZ.toArray 63)).setCells w1.heap.size 0 kZ)) := fun w1 h => h.trans ((put_new w1 kZ kZ 63 rfl).1.mono h.size)
  rw [HS.out]
  clear hh HS
  go_enter Try.func20, Try.ntmps20
  go_wp2_with fail
  refine (HKO.out _).mono ?_
  rintro e w1 ⟨rfl, hb1⟩
  have HP1 := Lib.hid (HZB.out w1 hb1)
  clear hb1
  go_wp2_with (refine stN (fun w' => Hid (Below w.heap.size w w')) 63 (.tmp 9) (.tmp 17) rfl rfl w1.heap.size 0 kZ rfl rfl (HZ.out w1) infK kZ_one HP1 ?_; intro w2 H2)
  go_ret
  exact ⟨rfl, H2.out⟩

set_option maxRecDepth 100000 in
set_option maxHeartbeats 8000000 in
theorem sound_yes (p : Int) (a sa da : Option Addr) (n cap sn sc dn dc : Nat) (xs src dst : List Int) (w : World) (hh : hdN p ≠ 0) (hx : Row.ok w ⟨a, n, cap, xs⟩) (hs : Row.ok w ⟨sa, sn, sc, src⟩) (hd : Row.ok w ⟨da, dn, dc, dst⟩) (hn : n ≤ 1000) :
    Calls Try.prog 20 #[.int .u8 p, .slice a n cap, .slice sa sn sc, .slice da dn dc] w (Gives w (.bool (snd p xs src dst))) := by
  have hls : src.length = sn := hs.len
  have hld : dst.length = dn := hd.len
  have hsn : sn ≤ 9223372036854775807 := by have h1 := hs.cap; have h2 := hs.max; simp only [maxLen] at h1 h2; omega
  have hdnn : dn ≤ 9223372036854775807 := by have h1 := hd.cap; have h2 := hd.max; simp only [maxLen] at h1 h2; omega
  have HH := Lib.hid hh
  have HLS := Lib.hid hls
  have HLD := Lib.hid hld
  have HLIM := Lib.hid (And.intro hsn hdnn)
  have HX := Lib.hid hx
  have hxl : xs.length = n := hx.len
  have HE : Hid (prE p xs = bdE p xs) := by show _ = _; unfold prE; rw [if_neg hh]
  obtain ⟨kc, hkc⟩ : ∃ kc, (kdV p).toArray = kc := ⟨_, rfl⟩
  have HKC := Lib.hid hkc
  have HKO : Hid (∀ w, Calls Try.prog 30 #[.int .u8 p] w (Gives w (.tuple #[.agg kc, .bool true]))) := fun w => by have := tKindOf_any p w; rw [hkc, decide_eq_true hh] at this; exact this
  have HZ : Hid (∀ w1 : World, (w1.alloc (.cells kZ.toArray 63)).there w1.heap.size 0 (kdV p).length) := fun w1 => there_new _ _ _ _ (by rw [kdV_len]; rfl) _ rfl
  have HIK : Hid ((Try.prog.info? 63).map (·.size) = some (kdV p).length) := by show _ = _; rw [kdV_len]; exact infK
  have HST : Hid (∀ w1, Below w.heap.size w w1 → SF w w1.heap.size (kdV p) ⟨a, n, cap, xs⟩ ⟨sa, sn, sc, src⟩ ⟨da, dn, dc, dst⟩ ((w1.alloc (.cells kZ.toArray 63)).setCells w1.heap.size 0 (kdV p))) := fun w1 h => s_stored w w1 (kdV p) (kdV_len p) _ _ _ h hx hs hd
  clear hh hls hld hsn hdnn hx hs hd hkc
  go_enter Try.func20, Try.ntmps20
  go_wp2_with fail
  refine (HKO.out _).mono ?_
  rintro e w1 ⟨rfl, hb1⟩
  have HP1 := Lib.hid (HST.out w1 hb1)
  clear hb1 HST
  go_upto_region 2 with (refine stN (fun w' => Hid (SF w w1.heap.size (kdV p) ⟨a, n, cap, xs⟩ ⟨sa, sn, sc, src⟩ ⟨da, dn, dc, dst⟩ w')) 63 (.tmp 9) (.tmp 17) rfl rfl w1.heap.size 0 (kdV p) rfl (by rw [HKC.out]; rfl) (HZ.out w1) HIK.out (kdV_one _) HP1 ?_; intro w2 H2)
  clear HP1
  obtain ⟨b1, hb⟩ : ∃ x, w1.heap.size = x := ⟨_, rfl⟩
  rw [hb] at H2 ⊢
  clear hb
  go_wp2_with fail
  refine (tAreAddrs_any sa da sn sc dn dc _ HLIM.out.1 HLIM.out.2).mono ?_
  rintro e wz ⟨rfl, rfl⟩
  cases had : adB sn dn with
  | false =>
    have HV : Hid (snd p xs src dst = false) := by show _ = _; unfold snd; rw [HLS.out, HLD.out, had]; simp
    clear had
    go_wp2_with fail
    go_ret
    exact ⟨by rw [HV.out]; rfl, H2.out.below⟩
  | true =>
  have HAD := Lib.hid had
  clear had
  go_wp2_with (first
    | (refine ldC 63 (.tmp 9) rfl rfl b1 rfl (kdV p) H2.out.knd _ Try.underlying63 rfl HIK.out ?_; rw [HKC.out]))
  rw [← HKC.out]
  refine (tkBounds_any p a n cap xs w2 w2 HH.out (Below.refl _ _) H2.out.row (by omega)).mono ?_
  rintro e w3 ⟨rfl, hb3⟩
  have H3 := Lib.hid (H2.out.next hb3)
  rw [HKC.out]
  clear hb3 H2
  obtain ⟨E, hE⟩ : ∃ x, bdE p xs = x := ⟨_, rfl⟩
  rw [hE] at HE ⊢
  by_cases he : E = 0
  case neg =>
    have hvb : (E != 0) = true := by simpa using he
    have HV : Hid (snd p xs src dst = false) := snd_no (by rw [HE.out]; exact he)
    clear he hE HE
    go_wp2_with fail
    go_ret
    exact ⟨by rw [HV.out]; rfl, H3.out.below⟩
  subst he
  have HPZ := Lib.hid HE.out
  obtain ⟨k1, k2, k3, k4, k5, k6⟩ := bdE_zero hE
  rw [hxl] at k1 k2 k5 k6
  obtain ⟨A, hA⟩ : ∃ x : Nat, bdA p xs = (x : Int) := ⟨(bdA p xs).toNat, by omega⟩
  have o2 : okN 0 (bdA p xs) = (A : Int) := by unfold okN; rw [if_pos rfl, hA]
  rw [o2]
  obtain ⟨A0, hA0⟩ : ∃ x, okN 0 (bdH p xs) = x := ⟨_, rfl⟩
  rw [hA0]
  have hn1 : 1 ≤ n := by have := Nat.pos_of_ne_zero HH.out; omega
  have hAn : A ≤ n := by omega
  have HSL := Lib.hid (run_slice_head a n cap A xs w3 HX.out.len HX.out.cap hAn hn1 H3.out.row.rd)
  have HTK : Hid (∀ w', Row.ok w' ⟨a, n, cap, xs⟩ → Row.ok w' ⟨a, A, cap, xs.take A⟩) := fun w' h => ⟨by show (xs.take A).length = A; rw [List.length_take, hxl]; omega, by have := HX.out.cap; show A ≤ cap; exact Nat.le_trans hAn this, h.max, h.rd.taken A, h.byt.take A⟩
  have HV : Hid (snd p xs src dst = ((decide (p = 17) && (decide (sn = 4) && decide (wordAt xs 6 = 0))) || whl (ws 0 (cov p (xs.take A) src dst)))) := by
    show _ = _; unfold snd; rw [HPZ.out, HLS.out, HLD.out, HAD.out, hA, Int.toNat_natCast]; simp
  have HN := Lib.hid (And.intro k1 hAn)
  have c3 := range_cell H3.out.knd (kd_blank p HH.out)
  clear hE HE k1 k2 k3 k4 k5 k6 hA o2 hA0 hn1
  by_cases h17 : p = 17
  · subst h17
    have c1 : w3.cell? ⟨b1, 1, none⟩ = some (.int .i64 6) := range_cell H3.out.knd rfl
    rw [decide_eq_true rfl] at c3
    by_cases h4 : sn = 4
    · subst h4
      go_wp2_with fail
      refine (tNum2 a n cap xs 6 _ HX.out.len H3.out.row.rd HX.out.byt (by omega) HX.out.cap (by have h1 := HN.out.1; have h2 : hdN 17 = 8 := rfl; omega)).mono ?_
      rintro e wz ⟨rfl, rfl⟩
      by_cases h0 : wordAt xs 6 = 0
      · have q0 : (wordAt xs 6 == 0) = true := by simpa using h0
        have HR : Hid (snd 17 xs src dst = true) := by show _ = _; rw [HV.out, decide_eq_true h0]; rfl
        clear h0 HV
        go_wp2_with fail
        go_ret
        exact ⟨by rw [HR.out]; rfl, H3.out.below⟩
      · have q0 : (wordAt xs 6 == 0) = false := by simpa using h0
        have HR : Hid (snd 17 xs src dst = whl (ws 0 (cov 17 (xs.take A) src dst))) := by show _ = _; rw [HV.out, decide_eq_false h0]; simp
        clear h0 HV
        go_wp2_with fail
        refine wp_region_held_drew (S := fun w' => World.rangeAt w' b1 0 (kdV 17)) (by kernel_rfl) H3.out.knd (fun hS => ?_)
        refine tk 0 50 (.agg (kdV 17).toArray) rfl rfl (by kernel_rfl) (by kernel_rfl) (by kernel_rfl) (fun _ _ _ h => h) (yieldsIf_load_mid (by rfl) _ _ rfl (b1) (0) rfl (kdV 17) _ (fun w' h' => h') Try.underlying63 rfl (HIK.out)) hS ?_
        try simp only [Act.put, List.setIfInBounds_toArray, List.set_cons_zero, List.set_cons_succ]
        refine tk 1 51 (.int .u8 17) rfl rfl (by kernel_rfl) (by kernel_rfl) (by kernel_rfl) (fun _ _ _ h => h) (Or.inl ⟨by rfl, fun w' h' => ?_⟩) hS ?_
        · go_simp
        try simp only [Act.put, List.setIfInBounds_toArray, List.set_cons_zero, List.set_cons_succ]
        refine tk 2 52 (.slice a n cap) rfl rfl (by kernel_rfl) (by kernel_rfl) (by kernel_rfl) (fun _ _ _ h => h) (Or.inl ⟨by rfl, fun w' h' => ?_⟩) hS ?_
        · go_simp
        try simp only [Act.put, List.setIfInBounds_toArray, List.set_cons_zero, List.set_cons_succ]
        refine tk 3 53 (.int .i64 (A : Int)) rfl rfl (by kernel_rfl) (by kernel_rfl) (by kernel_rfl) (fun _ _ _ h => h) (Or.inl ⟨by rfl, fun w' h' => ?_⟩) hS ?_
        · go_simp
        try simp only [Act.put, List.setIfInBounds_toArray, List.set_cons_zero, List.set_cons_succ]
        refine tk 4 54 (.slice a A cap) rfl rfl (by kernel_rfl) (by kernel_rfl) (by kernel_rfl) (fun _ _ _ h => h) (Or.inl ⟨by rfl, fun w' h' => ?_⟩) hS ?_
        · have hsl := HSL.out
          go_simp
        try simp only [Act.put, List.setIfInBounds_toArray, List.set_cons_zero, List.set_cons_succ]
        refine tk 5 55 (.slice sa 4 sc) rfl rfl (by kernel_rfl) (by kernel_rfl) (by kernel_rfl) (fun _ _ _ h => h) (Or.inl ⟨by rfl, fun w' h' => ?_⟩) hS ?_
        · go_simp
        try simp only [Act.put, List.setIfInBounds_toArray, List.set_cons_zero, List.set_cons_succ]
        refine tk 6 56 (.slice da dn dc) rfl rfl (by kernel_rfl) (by kernel_rfl) (by kernel_rfl) (fun _ _ _ h => h) (Or.inl ⟨by rfl, fun w' h' => ?_⟩) hS ?_
        · go_simp
        try simp only [Act.put, List.setIfInBounds_toArray, List.set_cons_zero, List.set_cons_succ]
        refine wpAnyH_ready (rs := [7]) (by kernel_rfl) (by simp) (AllReadyH.cons rfl (fun K hK => ?_) AllReadyH.nil)
        rw [if_pos (by rfl)]
        go_wp2_with fail
        refine (tCovered_any 17 a sa da A cap 4 sc dn dc (xs.take A) src dst _ _ (Below.refl _ _) HH.out (HTK.out _ (H3.out.next (Below.refl _ _).drew).row) (H3.out.next (Below.refl _ _).drew).r1 (H3.out.next (Below.refl _ _).drew).r2 HAD.out (by omega)).mono ?_
        rintro e w9 ⟨⟨g2, l, rfl, hrr, hl2, hcat, hrn⟩, hb9⟩
        have hS9 : World.rangeAt w9 b1 0 (kdV 17) := range_kept (undrew hb9) H3.out.knd
        have H9 := Lib.hid (H3.out.below.trans ((undrew hb9).mono H3.out.below.size))
        have HL := Lib.hid (And.intro hrr (And.intro hl2 (And.intro hcat hrn)))
        clear hrr hl2 hcat hrn hb9
        clear hS
        refine hK.out _ _ (hS9) (fun hS => ?_)
        clear hK K
        try simp only [Act.put, List.setIfInBounds_toArray, List.set_cons_zero, List.set_cons_succ]
        refine wpAnyH_ready (rs := [8]) (by kernel_rfl) (by simp) (AllReadyH.cons rfl (fun K hK => ?_) AllReadyH.nil)
        rw [if_pos (by rfl)]
        go_wp2_with fail
        refine (whole_any (some ⟨g2, 0, none⟩) l.length l.length l _ rfl HL.out.1 (by have := HL.out.2.1; omega) (fun r hr => by have h1 := HL.out.2.2.2 r hr; have h2 : (xs.take A).length ≤ A := List.length_take_le A xs; omega)).mono ?_
        rintro e wX ⟨rfl, hbX⟩
        have hSX : World.rangeAt wX b1 0 (kdV 17) := range_kept hbX hS9
        have HX9 := Lib.hid (H9.out.trans (hbX.mono H9.out.size))
        rw [HL.out.2.2.1, ← HR.out]
        clear hbX
        clear hS
        refine hK.out _ _ (hSX) (fun hS => ?_)
        clear hK K
        try simp only [Act.put, List.setIfInBounds_toArray, List.set_cons_zero, List.set_cons_succ]
        refine tk 9 8 (.bool (snd 17 xs src dst)) rfl rfl (by kernel_rfl) (by kernel_rfl) (by kernel_rfl) (fun _ _ _ h => h) (Or.inl ⟨by rfl, fun w' h' => ?_⟩) hS ?_
        · go_simp
        refine wpAnyH_done (by kernel_rfl) ?_ _
        go_wp2_with fail
        go_ret
        exact ⟨rfl, HX9.out⟩
    · have q4 : ((sn : Int) == 4) = false := by simp; omega
      have HR : Hid (snd 17 xs src dst = whl (ws 0 (cov 17 (xs.take A) src dst))) := by show _ = _; rw [HV.out, decide_eq_false h4]; simp
      clear h4 HV
      go_wp2_with fail
      refine wp_region_held_drew (S := fun w' => World.rangeAt w' b1 0 (kdV 17)) (by kernel_rfl) H3.out.knd (fun hS => ?_)
      refine tk 0 50 (.agg (kdV 17).toArray) rfl rfl (by kernel_rfl) (by kernel_rfl) (by kernel_rfl) (fun _ _ _ h => h) (yieldsIf_load_mid (by rfl) _ _ rfl (b1) (0) rfl (kdV 17) _ (fun w' h' => h') Try.underlying63 rfl (HIK.out)) hS ?_
      try simp only [Act.put, List.setIfInBounds_toArray, List.set_cons_zero, List.set_cons_succ]
      refine tk 1 51 (.int .u8 17) rfl rfl (by kernel_rfl) (by kernel_rfl) (by kernel_rfl) (fun _ _ _ h => h) (Or.inl ⟨by rfl, fun w' h' => ?_⟩) hS ?_
      · go_simp
      try simp only [Act.put, List.setIfInBounds_toArray, List.set_cons_zero, List.set_cons_succ]
      refine tk 2 52 (.slice a n cap) rfl rfl (by kernel_rfl) (by kernel_rfl) (by kernel_rfl) (fun _ _ _ h => h) (Or.inl ⟨by rfl, fun w' h' => ?_⟩) hS ?_
      · go_simp
      try simp only [Act.put, List.setIfInBounds_toArray, List.set_cons_zero, List.set_cons_succ]
      refine tk 3 53 (.int .i64 (A : Int)) rfl rfl (by kernel_rfl) (by kernel_rfl) (by kernel_rfl) (fun _ _ _ h => h) (Or.inl ⟨by rfl, fun w' h' => ?_⟩) hS ?_
      · go_simp
      try simp only [Act.put, List.setIfInBounds_toArray, List.set_cons_zero, List.set_cons_succ]
      refine tk 4 54 (.slice a A cap) rfl rfl (by kernel_rfl) (by kernel_rfl) (by kernel_rfl) (fun _ _ _ h => h) (Or.inl ⟨by rfl, fun w' h' => ?_⟩) hS ?_
      · have hsl := HSL.out
        go_simp
      try simp only [Act.put, List.setIfInBounds_toArray, List.set_cons_zero, List.set_cons_succ]
      refine tk 5 55 (.slice sa sn sc) rfl rfl (by kernel_rfl) (by kernel_rfl) (by kernel_rfl) (fun _ _ _ h => h) (Or.inl ⟨by rfl, fun w' h' => ?_⟩) hS ?_
      · go_simp
      try simp only [Act.put, List.setIfInBounds_toArray, List.set_cons_zero, List.set_cons_succ]
      refine tk 6 56 (.slice da dn dc) rfl rfl (by kernel_rfl) (by kernel_rfl) (by kernel_rfl) (fun _ _ _ h => h) (Or.inl ⟨by rfl, fun w' h' => ?_⟩) hS ?_
      · go_simp
      try simp only [Act.put, List.setIfInBounds_toArray, List.set_cons_zero, List.set_cons_succ]
      refine wpAnyH_ready (rs := [7]) (by kernel_rfl) (by simp) (AllReadyH.cons rfl (fun K hK => ?_) AllReadyH.nil)
      rw [if_pos (by rfl)]
      go_wp2_with fail
      refine (tCovered_any 17 a sa da A cap sn sc dn dc (xs.take A) src dst _ _ (Below.refl _ _) HH.out (HTK.out _ (H3.out.next (Below.refl _ _).drew).row) (H3.out.next (Below.refl _ _).drew).r1 (H3.out.next (Below.refl _ _).drew).r2 HAD.out (by omega)).mono ?_
      rintro e w9 ⟨⟨g2, l, rfl, hrr, hl2, hcat, hrn⟩, hb9⟩
      have hS9 : World.rangeAt w9 b1 0 (kdV 17) := range_kept (undrew hb9) H3.out.knd
      have H9 := Lib.hid (H3.out.below.trans ((undrew hb9).mono H3.out.below.size))
      have HL := Lib.hid (And.intro hrr (And.intro hl2 (And.intro hcat hrn)))
      clear hrr hl2 hcat hrn hb9
      clear hS
      refine hK.out _ _ (hS9) (fun hS => ?_)
      clear hK K
      try simp only [Act.put, List.setIfInBounds_toArray, List.set_cons_zero, List.set_cons_succ]
      refine wpAnyH_ready (rs := [8]) (by kernel_rfl) (by simp) (AllReadyH.cons rfl (fun K hK => ?_) AllReadyH.nil)
      rw [if_pos (by rfl)]
      go_wp2_with fail
      refine (whole_any (some ⟨g2, 0, none⟩) l.length l.length l _ rfl HL.out.1 (by have := HL.out.2.1; omega) (fun r hr => by have h1 := HL.out.2.2.2 r hr; have h2 : (xs.take A).length ≤ A := List.length_take_le A xs; omega)).mono ?_
      rintro e wX ⟨rfl, hbX⟩
      have hSX : World.rangeAt wX b1 0 (kdV 17) := range_kept hbX hS9
      have HX9 := Lib.hid (H9.out.trans (hbX.mono H9.out.size))
      rw [HL.out.2.2.1, ← HR.out]
      clear hbX
      clear hS
      refine hK.out _ _ (hSX) (fun hS => ?_)
      clear hK K
      try simp only [Act.put, List.setIfInBounds_toArray, List.set_cons_zero, List.set_cons_succ]
      refine tk 9 8 (.bool (snd 17 xs src dst)) rfl rfl (by kernel_rfl) (by kernel_rfl) (by kernel_rfl) (fun _ _ _ h => h) (Or.inl ⟨by rfl, fun w' h' => ?_⟩) hS ?_
      · go_simp
      refine wpAnyH_done (by kernel_rfl) ?_ _
      go_wp2_with fail
      go_ret
      exact ⟨rfl, HX9.out⟩
  · rw [decide_eq_false h17] at c3
    have HR : Hid (snd p xs src dst = whl (ws 0 (cov p (xs.take A) src dst))) := by show _ = _; rw [HV.out, decide_eq_false h17]; simp
    clear h17 HV
    go_wp2_with fail
    refine wp_region_held_drew (S := fun w' => World.rangeAt w' b1 0 (kdV p)) (by kernel_rfl) H3.out.knd (fun hS => ?_)
    refine tk 0 50 (.agg (kdV p).toArray) rfl rfl (by kernel_rfl) (by kernel_rfl) (by kernel_rfl) (fun _ _ _ h => h) (yieldsIf_load_mid (by rfl) _ _ rfl (b1) (0) rfl (kdV p) _ (fun w' h' => h') Try.underlying63 rfl (HIK.out)) hS ?_
    try simp only [Act.put, List.setIfInBounds_toArray, List.set_cons_zero, List.set_cons_succ]
    refine tk 1 51 (.int .u8 p) rfl rfl (by kernel_rfl) (by kernel_rfl) (by kernel_rfl) (fun _ _ _ h => h) (Or.inl ⟨by rfl, fun w' h' => ?_⟩) hS ?_
    · go_simp
    try simp only [Act.put, List.setIfInBounds_toArray, List.set_cons_zero, List.set_cons_succ]
    refine tk 2 52 (.slice a n cap) rfl rfl (by kernel_rfl) (by kernel_rfl) (by kernel_rfl) (fun _ _ _ h => h) (Or.inl ⟨by rfl, fun w' h' => ?_⟩) hS ?_
    · go_simp
    try simp only [Act.put, List.setIfInBounds_toArray, List.set_cons_zero, List.set_cons_succ]
    refine tk 3 53 (.int .i64 (A : Int)) rfl rfl (by kernel_rfl) (by kernel_rfl) (by kernel_rfl) (fun _ _ _ h => h) (Or.inl ⟨by rfl, fun w' h' => ?_⟩) hS ?_
    · go_simp
    try simp only [Act.put, List.setIfInBounds_toArray, List.set_cons_zero, List.set_cons_succ]
    refine tk 4 54 (.slice a A cap) rfl rfl (by kernel_rfl) (by kernel_rfl) (by kernel_rfl) (fun _ _ _ h => h) (Or.inl ⟨by rfl, fun w' h' => ?_⟩) hS ?_
    · have hsl := HSL.out
      go_simp
    try simp only [Act.put, List.setIfInBounds_toArray, List.set_cons_zero, List.set_cons_succ]
    refine tk 5 55 (.slice sa sn sc) rfl rfl (by kernel_rfl) (by kernel_rfl) (by kernel_rfl) (fun _ _ _ h => h) (Or.inl ⟨by rfl, fun w' h' => ?_⟩) hS ?_
    · go_simp
    try simp only [Act.put, List.setIfInBounds_toArray, List.set_cons_zero, List.set_cons_succ]
    refine tk 6 56 (.slice da dn dc) rfl rfl (by kernel_rfl) (by kernel_rfl) (by kernel_rfl) (fun _ _ _ h => h) (Or.inl ⟨by rfl, fun w' h' => ?_⟩) hS ?_
    · go_simp
    try simp only [Act.put, List.setIfInBounds_toArray, List.set_cons_zero, List.set_cons_succ]
    refine wpAnyH_ready (rs := [7]) (by kernel_rfl) (by simp) (AllReadyH.cons rfl (fun K hK => ?_) AllReadyH.nil)
    rw [if_pos (by rfl)]
    go_wp2_with fail
    refine (tCovered_any p a sa da A cap sn sc dn dc (xs.take A) src dst _ _ (Below.refl _ _) HH.out (HTK.out _ (H3.out.next (Below.refl _ _).drew).row) (H3.out.next (Below.refl _ _).drew).r1 (H3.out.next (Below.refl _ _).drew).r2 HAD.out (by omega)).mono ?_
    rintro e w9 ⟨⟨g2, l, rfl, hrr, hl2, hcat, hrn⟩, hb9⟩
    have hS9 : World.rangeAt w9 b1 0 (kdV p) := range_kept (undrew hb9) H3.out.knd
    have H9 := Lib.hid (H3.out.below.trans ((undrew hb9).mono H3.out.below.size))
    have HL := Lib.hid (And.intro hrr (And.intro hl2 (And.intro hcat hrn)))
    clear hrr hl2 hcat hrn hb9
    clear hS
    refine hK.out _ _ (hS9) (fun hS => ?_)
    clear hK K
    try simp only [Act.put, List.setIfInBounds_toArray, List.set_cons_zero, List.set_cons_succ]
    refine wpAnyH_ready (rs := [8]) (by kernel_rfl) (by simp) (AllReadyH.cons rfl (fun K hK => ?_) AllReadyH.nil)
    rw [if_pos (by rfl)]
    go_wp2_with fail
    refine (whole_any (some ⟨g2, 0, none⟩) l.length l.length l _ rfl HL.out.1 (by have := HL.out.2.1; omega) (fun r hr => by have h1 := HL.out.2.2.2 r hr; have h2 : (xs.take A).length ≤ A := List.length_take_le A xs; omega)).mono ?_
    rintro e wX ⟨rfl, hbX⟩
    have hSX : World.rangeAt wX b1 0 (kdV p) := range_kept hbX hS9
    have HX9 := Lib.hid (H9.out.trans (hbX.mono H9.out.size))
    rw [HL.out.2.2.1, ← HR.out]
    clear hbX
    clear hS
    refine hK.out _ _ (hSX) (fun hS => ?_)
    clear hK K
    try simp only [Act.put, List.setIfInBounds_toArray, List.set_cons_zero, List.set_cons_succ]
    refine tk 9 8 (.bool (snd p xs src dst)) rfl rfl (by kernel_rfl) (by kernel_rfl) (by kernel_rfl) (fun _ _ _ h => h) (Or.inl ⟨by rfl, fun w' h' => ?_⟩) hS ?_
    · go_simp
    refine wpAnyH_done (by kernel_rfl) ?_ _
    go_wp2_with fail
    go_ret
    exact ⟨rfl, HX9.out⟩
theorem tSound_any (p : Int) (a sa da : Option Addr) (n cap sn sc dn dc : Nat) (xs src dst : List Int) (w : World) (hx : Row.ok w ⟨a, n, cap, xs⟩) (hs : Row.ok w ⟨sa, sn, sc, src⟩) (hd : Row.ok w ⟨da, dn, dc, dst⟩) (hn : n ≤ 1000) :
    Calls Try.prog 20 #[.int .u8 p, .slice a n cap, .slice sa sn sc, .slice da dn dc] w (Gives w (.bool (snd p xs src dst))) := by
  by_cases hh : hdN p = 0
  · exact sound_no p a sa da n cap sn sc dn dc xs src dst w hh
  · exact sound_yes p a sa da n cap sn sc dn dc xs src dst w hh hx hs hd hn
end Go.Proofs.Ytabdejoakecioaa

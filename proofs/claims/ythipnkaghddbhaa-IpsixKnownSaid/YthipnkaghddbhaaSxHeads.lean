/-
  IpsixHeads, walked: for a header whose numbers fit their Go types and bytes that lie where the slice leads the call answers true.
-/
import Derived.Test.YthipnkaghddbhaaSxHeadsM
namespace Go.Proofs.Ythipnkaghddbhaa
open Go.RowKit

set_option maxRecDepth 100000 in
set_option maxHeartbeats 4000000 in
theorem heads_any (h : H6) (a : Option Addr) (n c : Nat) (xs : List Int) (w : World) (k : h.ok) (hn : xs.length = n) (hc : n ≤ c) (hr : Rd w a xs) (hb : Byt xs) :
    Calls Try.prog 3 #[.agg h.cs.toArray, .slice a n c] w (Gives w (.bool true)) := by
  have HK := Lib.hid k
  have HN := Lib.hid hn
  have HBY := Lib.hid hb
  obtain ⟨wA, hwA⟩ : ∃ x, w.alloc (.cells h.cs.toArray 26) = x := ⟨_, rfl⟩
  have hBA : Below w.heap.size w wA := by rw [← hwA]; exact (Below.refl _ _).alloc (Nat.le_refl _) _
  have hrA : wA.rangeAt w.heap.size 0 h.cs := by rw [← hwA]; exact H6.range w h _
  have HSZ : Hid (wA.heap.size = w.heap.size + 1) := by rw [← hwA]; show _ = _; simp
  have HFA : Hid (Fw wA (fun z => Below w.heap.size w z ∧ z.rangeAt w.heap.size 0 h.cs ∧ Rd z a xs)) := (Fw.blw hBA hBA.size).and ((Fw.range hrA).and (Fw.rd (hr.below hBA)))
  have HI6 : Hid ((Try.prog.info? 26).map (·.size) = some h.cs.length) := by show _ = _; rw [k.len]; exact inf6
  have HBS : Hid (h.cs.toArray.size = 37) := by show _ = _; rw [List.size_toArray]; exact k.len
  obtain ⟨cs, hcs⟩ : ∃ x, h.cs.toArray = x := ⟨_, rfl⟩
  have HCS := Lib.hid hcs
  rw [hcs] at hwA ⊢
  clear k hn hr hb hBA hrA hcs
  by_cases hl : 100 < n
  · have HW := Lib.hid hwA
    clear hwA
    go_enter Try.func3, Try.ntmps3
    go_upto_region 1 with fail
    rw [HW.out]
    go_wp2_with fail
    refine (works6_any _).mono ?_
    rintro e w1 ⟨rfl, hb1⟩
    have HB1 := Lib.hid (HFA.out.next hb1).here.1
    clear hb1
    go_wp2_with fail
    go_ret
    exact ⟨rfl, HB1.out⟩
  have hl' : n ≤ 100 := by omega
  have HW := Lib.hid hwA
  clear hwA
  go_enter Try.func3, Try.ntmps3
  go_upto_region 1 with fail
  rw [HW.out]
  clear HW
  go_wp2_with (refine ldC 26 (.tmp 2) rfl rfl w.heap.size rfl h.cs HFA.out.here.2.1 _ Try.underlying26 rfl HI6.out ?_)
  refine (d6Ipsix_any h _ HK.out).mono ?_
  rintro e w1 ⟨rfl, hb1⟩
  have HF1 := Lib.hid (HFA.out.next hb1)
  obtain ⟨hp1, hp2⟩ := put_new w1 (r6c h) r60 30 rfl
  have HP1 := Lib.hid hp1
  have HT1 := Lib.hid hp2
  clear hb1 hp1 hp2 HFA
  go_wp2_with (first
    | (refine stN (fun w' => Hid (Below w1.heap.size w1 w' ∧ w'.rangeAt w1.heap.size 0 (r6c h))) 30 (.tmp 5) (.tmp 21) rfl rfl w1.heap.size 0 (r6c h) rfl rfl HT1.out infR6 (r6c_one h) HP1 ?_; intro wB HZB; have HFB := Lib.hid ((HF1.out.next HZB.out.1).and (Fw.range HZB.out.2)); clear HZB HF1 HP1 HT1)
    | (refine ldC 26 (.tmp 2) rfl rfl w.heap.size rfl h.cs HFB.out.here.1.2.1 _ Try.underlying26 rfl HI6.out ?_))
  refine (sxPut_any h _ HK.out).mono ?_
  intro e w2 hp
  obtain ⟨hb2, a2, n2, c2, rfl, ho2⟩ := hp.one
  have HSB : Hid (w.heap.size < wB.heap.size) := World.block_lt_of_cell? wB ⟨w.heap.size, 0, none⟩ (range_cell HFB.out.here.1.2.1 (H6.c0 h))
  have HF2 := Lib.hid ((HFB.out.next hb2).and ((Fw.own ho2).and (Fw.blw hb2 hb2.size)))
  have HG2 := Lib.hid (fun q (e : blk a2 = some q) => (ho2.blk_ge q e).1)
  have HL2 := Lib.hid ho2.len
  obtain ⟨z, hz⟩ : ∃ x, pz6 h = x := ⟨_, rfl⟩
  have HZ := Lib.hid hz
  rw [hz]
  clear hp hb2 ho2 hz HFB
  go_wp2_with (refine ldC 30 (.tmp 5) rfl rfl w1.heap.size rfl (r6c h) HF2.out.here.1.2 _ Try.underlying30 rfl infR6 ?_)
  refine (r6Put_any h _ HK.out).mono ?_
  intro e w3 hp
  obtain ⟨hb3, a3, n3, c3, rfl, ho3⟩ := hp.one
  have HF3 := Lib.hid ((HF2.out.next hb3).and (Fw.own ho3))
  have HL3 := Lib.hid ho3.len
  rw [HZ.out]
  clear hp hb3 ho3 HF2
  go_wp2_with fail
  refine (sxParse_any a n c xs _ HN.out HF3.out.here.1.1.1.2.2 HBY.out (by omega) hc).mono ?_
  rintro e w4 ⟨rfl, hb4⟩
  have HF4 := Lib.hid (HF3.out.next hb4)
  have HOP := Lib.hid (h6P_ok HBY.out)
  obtain ⟨hp1, hp2⟩ := put_new w4 (h6P xs).cs h60.cs 26 (by rw [HOP.out.len]; rfl)
  have HP1 := Lib.hid hp1
  have HT1 := Lib.hid hp2
  have HI4 : Hid ((Try.prog.info? 26).map (·.size) = some (h6P xs).cs.length) := by show _ = _; rw [HOP.out.len]; exact inf6
  obtain ⟨E, hE⟩ : ∃ x, peE xs = x := ⟨_, rfl⟩
  have HE := Lib.hid hE
  rw [hE]
  clear hb4 hp1 hp2 HF3 hE
  go_wp2_with (first
    | (refine stN (fun w' => Hid (Below w4.heap.size w4 w' ∧ w'.rangeAt w4.heap.size 0 (h6P xs).cs)) 26 (.tmp 10) (.tmp 35) rfl rfl w4.heap.size 0 (h6P xs).cs rfl rfl HT1.out HI4.out (H6.one _) HP1 ?_; intro wC HZC; have HFC := Lib.hid ((HF4.out.next HZC.out.1).and (Fw.range HZC.out.2)); clear HZC HF4 HP1 HT1))
  refine (kOwn_any a n c xs _ HN.out HFC.out.here.1.1.1.1.2.2 (by omega)).mono ?_
  rintro e w5 ⟨a5, n5, c5, rfl, ho5, hb5⟩
  have HF5 := Lib.hid (HFC.out.next hb5)
  have HO5 := Lib.hid ho5
  have hn5 : n5 = n := by have h1 := ho5.len; have h2 := HN.out; omega
  subst hn5
  clear ho5 hb5 HFC
  go_wp2_with fail
  refine (r6Parse_any a5 n5 c5 xs _ HN.out HO5.out.rd HBY.out (by omega) HO5.out.le.1).mono ?_
  rintro e w6 ⟨rfl, hb6⟩
  have HF6 := Lib.hid (HF5.out.next hb6)
  rw [HE.out]
  have HLP : Hid ((r6P xs).length = 7) := by show _ = _; unfold r6P; split <;> rfl
  have HOP1 : Hid (∀ v ∈ r6P xs, v.oneCell' = true) := by unfold r6P; split; exact r6c_one _; exact r60_one
  have HI7 : Hid ((Try.prog.info? 30).map (·.size) = some (r6P xs).length) := by show _ = _; rw [HLP.out]; exact infR6
  obtain ⟨hp1, hp2⟩ := put_new w6 (r6P xs) r60 30 (by rw [HLP.out]; rfl)
  have HP1 := Lib.hid hp1
  have HT1 := Lib.hid hp2
  clear hb6 hp1 hp2 HF5 HO5
  go_wp2_with (first
    | (refine stN (fun w' => Hid (Below w6.heap.size w6 w' ∧ w'.rangeAt w6.heap.size 0 (r6P xs))) 30 (.tmp 12) (.tmp 41) rfl rfl w6.heap.size 0 (r6P xs) rfl rfl HT1.out HI7.out HOP1.out HP1 ?_; intro wD HZD; have HFD := Lib.hid ((HF6.out.next HZD.out.1).and (Fw.range HZD.out.2)); clear HZD HF6 HP1 HT1))
  have hs0 : Below wD.heap.size wD wD.drew := to_drew wD
  have HPB := Lib.hid (pb6_byt HK.out)
  have HPL := Lib.hid (pb6_len HK.out)
  refine wp_region_held_drew (S := fun w' => Below wD.heap.size wD w') (by kernel_rfl) hs0 (fun hS => ?_)
  refine tk 0 43 (.int .i64 z) rfl rfl (by kernel_rfl) (by kernel_rfl) (by kernel_rfl) (fun _ _ _ h => h) (Or.inl ⟨by rfl, fun w' h' => ?_⟩) hS ?_
  · go_simp
  try simp only [Act.put, List.setIfInBounds_toArray, List.set_cons_zero, List.set_cons_succ]
  refine tk 1 44 (.int .i64 z) rfl rfl (by kernel_rfl) (by kernel_rfl) (by kernel_rfl) (fun _ _ _ h => h) (Or.inl ⟨by rfl, fun w' h' => ?_⟩) hS ?_
  · go_simp
  try simp only [Act.put, List.setIfInBounds_toArray, List.set_cons_zero, List.set_cons_succ]
  refine tk 2 45 (.bool false) rfl rfl (by kernel_rfl) (by kernel_rfl) (by kernel_rfl) (fun _ _ _ h => h) (Or.inl ⟨by rfl, fun w' h' => ?_⟩) hS ?_
  · go_simp
  try simp only [Act.put, List.setIfInBounds_toArray, List.set_cons_zero, List.set_cons_succ]
  refine tk 3 46 (.bool false) rfl rfl (by kernel_rfl) (by kernel_rfl) (by kernel_rfl) (fun _ _ _ h => h) (Or.inl ⟨by rfl, fun w' h' => ?_⟩) hS ?_
  · go_simp
  try simp only [Act.put, List.setIfInBounds_toArray, List.set_cons_zero, List.set_cons_succ]
  refine tk 4 47 (.slice a2 n2 c2) rfl rfl (by kernel_rfl) (by kernel_rfl) (by kernel_rfl) (fun _ _ _ h => h) (Or.inl ⟨by rfl, fun w' h' => ?_⟩) hS ?_
  · go_simp
  try simp only [Act.put, List.setIfInBounds_toArray, List.set_cons_zero, List.set_cons_succ]
  refine tk 5 48 (.slice a3 n3 c3) rfl rfl (by kernel_rfl) (by kernel_rfl) (by kernel_rfl) (fun _ _ _ h => h) (Or.inl ⟨by rfl, fun w' h' => ?_⟩) hS ?_
  · go_simp
  try simp only [Act.put, List.setIfInBounds_toArray, List.set_cons_zero, List.set_cons_succ]
  refine wpAnyH_ready (rs := [6]) (by kernel_rfl) (by simp) (AllReadyH.cons rfl (fun K hK => ?_) AllReadyH.nil)
  rw [if_pos (by rfl)]
  go_wp2_with fail
  refine (kSame_any a2 a3 n2 c2 n3 c3 (pb6 h) (pb6 h) _ HL2.out HL3.out ((HFD.out.next hs0).here.1.1.1.2.1.rd) ((HFD.out.next hs0).here.1.1.2.rd) (by have h1 := HL2.out; have h2 := HPL.out; omega) (by have h1 := HL3.out; have h2 := HPL.out; omega)).mono ?_
  rintro e x1 ⟨rfl, m1, rfl⟩
  rw [decide_eq_true rfl]
  have hs1 : Below wD.heap.size wD (wD.drew.drewN m1) := below_drewN hs0 m1
  clear hS
  refine hK.out _ _ (hs1) (fun hS => ?_)
  clear hK K
  try simp only [Act.put, List.setIfInBounds_toArray, List.set_cons_zero, List.set_cons_succ]
  refine tk 7 50 (.bool false) rfl rfl (by kernel_rfl) (by kernel_rfl) (by kernel_rfl) (fun _ _ _ h => h) (Or.inl ⟨by rfl, fun w' h' => ?_⟩) hS ?_
  · go_simp
  try simp only [Act.put, List.setIfInBounds_toArray, List.set_cons_zero, List.set_cons_succ]
  refine tk 8 51 (.bool false) rfl rfl (by kernel_rfl) (by kernel_rfl) (by kernel_rfl) (fun _ _ _ h => h) (Or.inl ⟨by rfl, fun w' h' => ?_⟩) hS ?_
  · go_simp
  try simp only [Act.put, List.setIfInBounds_toArray, List.set_cons_zero, List.set_cons_succ]
  refine tk 9 52 (.bool false) rfl rfl (by kernel_rfl) (by kernel_rfl) (by kernel_rfl) (fun _ _ _ h => h) (Or.inl ⟨by rfl, fun w' h' => ?_⟩) hS ?_
  · go_simp
  try simp only [Act.put, List.setIfInBounds_toArray, List.set_cons_zero, List.set_cons_succ]
  refine tk 10 53 (.int .i64 E) rfl rfl (by kernel_rfl) (by kernel_rfl) (by kernel_rfl) (fun _ _ _ h => h) (Or.inl ⟨by rfl, fun w' h' => ?_⟩) hS ?_
  · go_simp
  try simp only [Act.put, List.setIfInBounds_toArray, List.set_cons_zero, List.set_cons_succ]
  refine tk 11 54 (.int .i64 E) rfl rfl (by kernel_rfl) (by kernel_rfl) (by kernel_rfl) (fun _ _ _ h => h) (Or.inl ⟨by rfl, fun w' h' => ?_⟩) hS ?_
  · go_simp
  try simp only [Act.put, List.setIfInBounds_toArray, List.set_cons_zero, List.set_cons_succ]
  refine tk 12 55 (.bool false) rfl rfl (by kernel_rfl) (by kernel_rfl) (by kernel_rfl) (fun _ _ _ h => h) (Or.inl ⟨by rfl, fun w' h' => ?_⟩) hS ?_
  · go_simp
  try simp only [Act.put, List.setIfInBounds_toArray, List.set_cons_zero, List.set_cons_succ]
  refine tk 13 56 (.bool false) rfl rfl (by kernel_rfl) (by kernel_rfl) (by kernel_rfl) (fun _ _ _ h => h) (Or.inl ⟨by rfl, fun w' h' => ?_⟩) hS ?_
  · go_simp
  try simp only [Act.put, List.setIfInBounds_toArray, List.set_cons_zero, List.set_cons_succ]
  refine tk 14 57 (.bool false) rfl rfl (by kernel_rfl) (by kernel_rfl) (by kernel_rfl) (fun _ _ _ h => h) (Or.inl ⟨by rfl, fun w' h' => ?_⟩) hS ?_
  · go_simp
  try simp only [Act.put, List.setIfInBounds_toArray, List.set_cons_zero, List.set_cons_succ]
  refine tk 15 58 (.agg ((h6P xs).cs).toArray) rfl rfl (by kernel_rfl) (by kernel_rfl) (by kernel_rfl) (fun _ _ _ h => h) (yieldsIf_load_mid (by rfl) _ _ rfl (w4.heap.size) (0) rfl ((h6P xs).cs) _ (fun w' h' => (HFD.out w' h').1.2) Try.underlying26 rfl (HI4.out)) hS ?_
  try simp only [Act.put, List.setIfInBounds_toArray, List.set_cons_zero, List.set_cons_succ]
  refine tk 17 60 (.agg (r6P xs).toArray) rfl rfl (by kernel_rfl) (by kernel_rfl) (by kernel_rfl) (fun _ _ _ h => h) (yieldsIf_load_mid (by rfl) _ _ rfl (w6.heap.size) (0) rfl (r6P xs) _ (fun w' h' => (HFD.out w' h').2) Try.underlying30 rfl (HI7.out)) hS ?_
  try simp only [Act.put, List.setIfInBounds_toArray, List.set_cons_zero, List.set_cons_succ]
  refine wpAnyH_ready (rs := [16]) (by kernel_rfl) (by simp) (AllReadyH.cons rfl (fun K hK => ?_) AllReadyH.nil)
  rw [if_pos (by rfl)]
  go_wp2_with fail
  refine (d6Ipsix_any (h6P xs) _ HOP.out).mono ?_
  rintro e x2 ⟨rfl, hb⟩
  have hs2 : Below wD.heap.size wD x2 := (below_drewN (Below.refl _ _) (1 + m1)).trans hb
  clear hb
  clear hS
  refine hK.out _ _ (hs2) (fun hS => ?_)
  clear hK K
  try simp only [Act.put, List.setIfInBounds_toArray, List.set_cons_zero, List.set_cons_succ]
  refine wpAnyH_ready (rs := [18]) (by kernel_rfl) (by simp) (AllReadyH.cons rfl (fun K hK => ?_) AllReadyH.nil)
  rw [if_pos (by rfl)]
  go_wp2_with fail
  refine (no6 xs HBY.out _).mono ?_
  rintro e x3 ⟨rfl, hb⟩
  have hs3 : Below wD.heap.size wD x3 := hs2.trans (hb.mono hs2.size)
  clear hb
  clear hS
  refine hK.out _ _ (hs3) (fun hS => ?_)
  clear hK K
  try simp only [Act.put, List.setIfInBounds_toArray, List.set_cons_zero, List.set_cons_succ]
  refine tk 19 62 (.bool false) rfl rfl (by kernel_rfl) (by kernel_rfl) (by kernel_rfl) (fun _ _ _ h => h) (Or.inl ⟨by rfl, fun w' h' => ?_⟩) hS ?_
  · exact exec_eqr6 (h := h6P xs) rfl rfl rfl
  try simp only [Act.put, List.setIfInBounds_toArray, List.set_cons_zero, List.set_cons_succ]
  refine tk 20 63 (.bool false) rfl rfl (by kernel_rfl) (by kernel_rfl) (by kernel_rfl) (fun _ _ _ h => h) (Or.inl ⟨by rfl, fun w' h' => ?_⟩) hS ?_
  · go_simp
  refine wpAnyH_done (by kernel_rfl) ?_ _
  have HFX := Lib.hid (HFD.out.next hs3)
  clear hs0 hs1 hs2 hs3 HFD hS
  by_cases hfl : h.fl < 1048576
  · have hz0 : z = 0 := by rw [← HZ.out, pz6, if_pos hfl]
    have HPX : Hid (pb6 h = h6b h) := by show _ = _; rw [pb6, if_pos hfl]
    have HBK := Lib.hid (back6 h HK.out hfl xs)
    have HPH : Hid (h6P (h6b h ++ xs) = h) := by show _ = _; rw [h6P, if_pos HBK.out.1]; exact HBK.out.2
    subst hz0
    have HO := Lib.hid HFX.out.here.1.1.1.2.1
    have HSX := Lib.hid HFX.out.here.1.1.1.2.2.size
    rw [HPX.out] at HO
    obtain ⟨a7, n7, c7, w7, hrun, rfl, ho7, hk7⟩ := app6 x3 wB.heap.size a2 n2 c2 (h6b h) xs HO.out a n5 c HN.out HFX.out.here.1.1.1.1.1.2.2 (by have h1 := HL2.out; have h2 := HPL.out; omega) HSX.out
    have HRUN := Lib.hid hrun
    have HO7 := Lib.hid ho7
    have hnb : ¬ blk a2 = some w.heap.size := fun e => by have h1 := HG2.out _ e; have h2 := HSB.out; omega
    have HBX : Hid (w7.rangeAt w.heap.size 0 h.cs) := range_keep HFX.out.here.1.1.1.1.1.2.1 hk7 hnb
    have HB7 : Hid (Below w.heap.size w w7) := HFX.out.here.1.1.1.1.1.1.trans (hk7.below HFX.out.here.1.1.1.1.1.1.size (fun q e => by have h1 := HG2.out q e; have h2 := HSB.out; omega))
    clear hrun ho7 hk7 HO HFX
    go_wp2_with (at_builtin; refine Lib.wpList_append_run _ rfl _ _ _ _ rfl _ _ rfl rfl _ _ HRUN.out ?_)
    have hl7 := HO7.out.len
    refine (sxParse_any a7 _ c7 (h6b h ++ xs) _ HO7.out.len HO7.out.rd ((h6b_byt HK.out).append HBY.out) (by have h1 := HL2.out; have h2 := HPL.out; omega) HO7.out.le.1).mono ?_
    rintro e w8 ⟨rfl, hb8⟩
    rw [HPH.out, HBK.out.1]
    have HF8 : Hid (Fw w8 (fun y => Below w.heap.size w y ∧ y.rangeAt w.heap.size 0 h.cs)) := Fw.next ((Fw.blw HB7.out HB7.out.size).and (Fw.range HBX.out)) hb8
    obtain ⟨hp1, hp2⟩ := put_new w8 h.cs h60.cs 26 (by rw [HK.out.len]; rfl)
    have HP1 := Lib.hid hp1
    have HT1 := Lib.hid hp2
    clear hb8 hp1 hp2 HB7 HBX HO7 HRUN hl7
    go_wp2_with (first
      | (refine stN (fun w' => Hid (Below w8.heap.size w8 w' ∧ w'.rangeAt w8.heap.size 0 h.cs)) 26 (.tmp 14) (.tmp 71) rfl rfl w8.heap.size 0 h.cs rfl rfl HT1.out HI6.out (H6.one _) HP1 ?_; intro wE HZE; have HFE := Lib.hid ((HF8.out.next HZE.out.1).and (Fw.range HZE.out.2)); clear HZE HF8 HP1 HT1)
      | (refine ldCg 26 (.tmp 14) rfl (by rfl) w8.heap.size rfl h.cs HFE.out.here.2 _ Try.underlying26 rfl HI6.out ?_)
      | (refine ldCg 26 (.tmp 2) rfl (by rfl) w.heap.size rfl h.cs HFE.out.here.1.2 _ Try.underlying26 rfl HI6.out ?_)
      | (refine eqCg (.tmp 76) (.tmp 77) _ rfl (by rfl) h HK.out rfl rfl ?_))
    refine (works6_any _).mono ?_
    rintro e w9 ⟨rfl, hb9⟩
    have HB9 := Lib.hid (HFE.out.next hb9).here.1.1
    clear hb9
    go_wp2_with fail
    go_ret
    exact ⟨rfl, HB9.out⟩
  · have hz0 : z = 51 := by rw [← HZ.out, pz6, if_neg hfl]
    subst hz0
    go_wp2_with fail
    refine (works6_any _).mono ?_
    rintro e w9 ⟨rfl, hb9⟩
    have HB9 := Lib.hid (HFX.out.next hb9).here.1.1.1.1.1.1
    clear hb9
    go_wp2_with fail
    go_ret
    exact ⟨rfl, HB9.out⟩
end Go.Proofs.Ythipnkaghddbhaa

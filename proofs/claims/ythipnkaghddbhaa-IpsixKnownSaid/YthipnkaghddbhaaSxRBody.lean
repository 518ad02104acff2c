/-
  The contract of the document's own Body for layer 6. Conditions: bytes that lie where the slice leads, fewer than a million.
-/
import Derived.Test.YthipnkaghddbhaaSxBody
namespace Go.Proofs.Ythipnkaghddbhaa
open Go.RowKit

/-- What the document's Body answers. -/
def RBodyS (w : World) (xs : List Int) (e : Ending) (w' : World) : Prop :=
  Below w.heap.size w w' ∧ ((bdE xs ≠ 0 ∧ e = .returned (.tuple #[.agg r60.toArray, .agg #[.slice none 0 0, .int .u8 0], .slice none 0 0, .int .i64 (bdE xs)])) ∨
    (bdE xs = 0 ∧ ∃ a n c b m d, e = .returned (.tuple #[.agg (r6c (h6Of xs)).toArray, .agg #[.slice a n c, .int .u8 (bdC xs).2.2.1], .slice b m d, .int .i64 0]) ∧ OwnR w' w.heap.size a n c (bdC xs).2.1 ∧ (bdB xs).length = m ∧ Rd w' b (bdB xs)))
theorem RPCR.some_ {w w' : World} {v : Int × List (Int × List Int) × Int × Int} {e : Ending} (h : RPCR w v e w') (hv : v.1 = 0) : Below w.heap.size w w' ∧ ∃ a n c, e = .returned (.tuple #[.agg #[.slice a n c, .int .u8 v.2.2.1], .int .i64 v.2.2.2, .int .i64 0]) ∧ OwnR w' w.heap.size a n c v.2.1 := by
  rcases h.2 with ⟨h2, _⟩ | ⟨_, h2⟩
  · exact absurd hv h2
  · exact ⟨h.1, h2⟩
theorem RPCR.none_ {w w' : World} {v : Int × List (Int × List Int) × Int × Int} {e : Ending} (h : RPCR w v e w') (hv : v.1 ≠ 0) : Below w.heap.size w w' ∧ e = .returned (.tuple #[.agg #[.slice none 0 0, .int .u8 0], .int .i64 0, .int .i64 v.1]) := by
  rcases h.2 with ⟨_, h2⟩ | ⟨h2, _⟩
  · exact ⟨h.1, h2⟩
  · exact absurd h2 hv
theorem Rd.setc {w : World} {a : Option Addr} {ys : List Int} (h : Rd w a ys) (b : Nat) (hb : ys ≠ [] → blk a ≠ some b) (vs : List Value) : Rd (w.setCells b 0 vs) a ys := by
  by_cases e : ys = []
  · subst e; exact Rd.empty _ _
  · exact h.keep (Kept.setCells b vs 0 w (Kept.refl _ _)) (fun q e2 k => hb e (by rw [e2, k]))

set_option maxRecDepth 100000 in
set_option maxHeartbeats 4000000 in
theorem r6Body_any (a : Option Addr) (n cap : Nat) (xs : List Int) (w : World) (hn : xs.length = n) (hr : Rd w a xs) (hb : Byt xs) (hl : n ≤ 1000000) (hc : n ≤ cap) :
    Calls Try.prog 30 #[.slice a n cap] w (RBodyS w xs) := by
  have HN := Lib.hid hn
  have HBY := Lib.hid hb
  have HRD := Lib.hid hr
  obtain ⟨wA, hwA⟩ : ∃ x, w.alloc (.cells r60.toArray 30) = x := ⟨_, rfl⟩
  have hbA : Below w.heap.size w wA := by rw [← hwA]; exact (Below.refl _ _).alloc (Nat.le_refl _) _
  have hsA : wA.heap.size = w.heap.size + 1 := by rw [← hwA]; simp
  have hTA : wA.there w.heap.size 0 7 := by rw [← hwA]; exact there_new _ _ _ _ rfl _ rfl
  obtain ⟨wB, hwB⟩ : ∃ x, wA.alloc (.cells #[.slice none 0 0, .int .u8 0] 50) = x := ⟨_, rfl⟩
  have hbB : Below wA.heap.size wA wB := by rw [← hwB]; exact (Below.refl _ _).alloc (Nat.le_refl _) _
  have hsB : wB.heap.size = w.heap.size + 2 := by rw [← hwB]; simp [hsA]
  have HFB : Hid (Fw wB (fun z => Below w.heap.size w z ∧ z.there w.heap.size 0 7 ∧ z.there (w.heap.size + 1) 0 2)) := fun z hz => ⟨(hbA.trans (hbB.mono hbA.size)).trans (hz.mono (by omega)), there_kept hz (there_kept hbB hTA), there_kept hz (by rw [← hwB]; exact there_new _ _ _ _ rfl _ hsA)⟩
  have HW := Lib.hid hwA
  have HWB := Lib.hid hwB
  have HSB := Lib.hid hsB
  have HLP : Hid ((r6P xs).length = 7) := by show _ = _; unfold r6P; split <;> rfl
  have HOP1 : Hid (∀ v ∈ r6P xs, v.oneCell' = true) := by unfold r6P; split; exact r6c_one _; exact r60_one
  have HI4 : Hid ((Try.prog.info? 30).map (·.size) = some (r6P xs).length) := by show _ = _; rw [HLP.out]; exact infR6
  clear hn hr hb hbA hbB hwA hwB hsA hTA hsB
  go_enter Try.func30, Try.ntmps30
  go_upto_region 1 with fail
  change Code.wp _ _ _ _ ((w.alloc (.cells r60.toArray 30)).alloc (.cells #[.slice none 0 0, .int .u8 0] 50))
  rw [HW.out, HWB.out]
  go_wp2_with fail
  refine (r6Parse_any a n cap xs _ HN.out (HRD.out.below HFB.out.here.1) HBY.out hl hc).mono ?_
  rintro e w1 ⟨rfl, hb1⟩
  have HF1 := Lib.hid (HFB.out.next hb1)
  have HS1 : Hid (w.heap.size + 2 ≤ w1.heap.size) := by have h1 := hb1.size; have h2 := HSB.out; show _ ≤ _; omega
  obtain ⟨hp1, hp2⟩ := put_new w1 (r6P xs) r60 30 (by rw [HLP.out]; rfl)
  have HP1 := Lib.hid hp1
  have HT1 := Lib.hid hp2
  obtain ⟨E, hE⟩ : ∃ x, peE xs = x := ⟨_, rfl⟩
  have HPE := Lib.hid hE
  rw [hE]
  clear hb1 hp1 hp2 HFB hE HW HWB
  go_upto_region 2 with (first
    | (refine stN (fun w' => Hid (Below w1.heap.size w1 w' ∧ w'.rangeAt w1.heap.size 0 (r6P xs))) 30 (.tmp 6) (.tmp 14) rfl rfl w1.heap.size 0 (r6P xs) rfl rfl HT1.out HI4.out HOP1.out HP1 ?_; intro wC HZC; have HFC := Lib.hid ((HF1.out.next HZC.out.1).and (Fw.range HZC.out.2)); clear HF1 HP1 HT1))
  by_cases hE0 : E = 0
  · subst hE0
    have HH : Hid (r6P xs = r6c (h6Of xs)) := by show _ = _; unfold r6P; rw [HPE.out, if_pos rfl]
    have h40 : 40 ≤ n := by
      have h1 := HPE.out
      unfold peE at h1
      split at h1
      · cases h1
      · have := HN.out; omega
    have HO := Lib.hid (h6Of_ok HBY.out (by rw [HN.out]; exact h40))
    rw [HH.out] at HFC
    have h2c := range_cell HFC.out.here.2 (j := 2) (v := .int .u16 (h6Of xs).ln) rfl
    have h3c := range_cell HFC.out.here.2 (j := 3) (v := .int .u8 (h6Of xs).nx) rfl
    have hlr := HO.out.ln
    have hnr := HO.out.nx
    obtain ⟨l, hll⟩ : ∃ q : Nat, (h6Of xs).ln = (q : Int) := ⟨(h6Of xs).ln.toNat, by omega⟩
    obtain ⟨NX, hnx⟩ : ∃ q, (h6Of xs).nx = q := ⟨_, rfl⟩
    rw [hll] at h2c hlr
    rw [hnx] at h3c hnr
    have HLL := Lib.hid hll
    have HNX := Lib.hid hnx
    have hl65 : l < 65536 := by omega
    have HRC : Hid (Rd wC a xs) := HRD.out.below HFC.out.here.1.1
    obtain ⟨bb, oo, rfl, _⟩ := HRC.out (by intro e; have := HN.out; rw [e] at this; simp at this; omega)
    clear hll hnx hlr
    by_cases hlt : n < 40 + l
    · have HE : Hid (bdE xs = 10) := by show _ = _; unfold bdE; rw [HPE.out, if_neg (by omega), HLL.out, if_pos (by have h1 := HN.out; omega)]
      have HBZ : Hid (Below w.heap.size w wC) := HFC.out.here.1.1
      have HTZ : Hid (wC.there w.heap.size 0 7 ∧ wC.there (w.heap.size + 1) 0 2) := HFC.out.here.1.2
      have HSZ : Hid (Below w.heap.size w (wC.setCells w.heap.size 0 r60) ∧ (wC.setCells w.heap.size 0 r60).there (w.heap.size + 1) 0 2 ∧ (wC.setCells w.heap.size 0 r60).rangeAt w.heap.size 0 r60) :=
        ⟨Below.setCells HBZ.out _ (Nat.le_refl _) _ _, there_set HTZ.out.2 _ (by omega), World.rangeAt_setCells_same _ _ _ _ HTZ.out.1⟩

      go_wp2_with (first
        | (refine wpList_build_run (cells := r60.toArray) rfl 30 _ rfl ?_ ?_; · exact built0)
        | (refine stN (fun w' => Hid (Below w.heap.size w w' ∧ w'.there (w.heap.size + 1) 0 2 ∧ w'.rangeAt w.heap.size 0 r60)) 30 (.tmp 2) (.tmp 28) rfl rfl w.heap.size 0 r60 rfl rfl HTZ.out.1 infR6 r60_one HSZ ?_; intro wy HY)
        | (refine stC 50 (.tmp 3) (.tmp 29) rfl rfl (w.heap.size + 1) 0 [.slice none 0 0, .int .u8 0] rfl rfl HY.out.2.1 infRC2 (cch_one _ _ _ _) ?_))
      refine bodyPost_ret (R := RBodyS w xs) (ret_mid4 Try.results30 _ _ _ _ r60 _ rfl (World.rangeAt_setCells_apart HY.out.2.2 _ _ _ (.inl (by omega))) Try.underlying30 rfl infR6 _ _ [.slice none 0 0, .int .u8 0] _ rfl (World.rangeAt_setCells_same _ _ _ _ HY.out.2.1) Try.underlying50 rfl infRC2 _ _ rfl rfl) rfl ⟨Below.setCells HY.out.1 _ (Nat.le_succ _) _ _, .inl ⟨by rw [HE.out]; decide, by rw [HE.out]; rfl⟩⟩
    have q40 : (40 : Int) + (l : Int) ≤ (cap : Int) := by omega
    have q41 : (40 : Int) ≤ (40 : Int) + (l : Int) := by omega
    go_upto_region 7 with fail
    obtain ⟨o40, ha40⟩ : ∃ q : Nat, (if cap = 40 then some (⟨bb, oo, none⟩ : Addr) else some ⟨bb, oo + 40, none⟩) = some ⟨bb, q, none⟩ := by
      split
      · exact ⟨oo, rfl⟩
      · exact ⟨oo + 40, rfl⟩
    rw [ha40, show 40 + l - 40 = l by omega]
    have HR40 : Hid (Rd wC (some ⟨bb, o40, none⟩) (xs.drop 40)) := by show Rd _ _ _; rw [← ha40]; exact rd_from HRC.out (by rw [HN.out]; exact h40) (by rw [HN.out]; exact hc)
    obtain ⟨c40, hc40⟩ : ∃ q, cap - 40 = q := ⟨_, rfl⟩
    rw [hc40]
    have HN40 : Hid ((xs.drop 40).length = n - 40) := by show _ = _; rw [List.length_drop, HN.out]
    have hlc : l ≤ c40 := by omega
    clear ha40 hc40 q40 q41
    have HBR : Hid (bdR xs = (xs.drop 40).take l) := by show _ = _; unfold bdR; rw [HLL.out, Int.toNat_natCast]
    obtain ⟨ys, hys⟩ : ∃ y, bdR xs = y := ⟨_, rfl⟩
    have HYS := Lib.hid hys
    have HYL : Hid (ys.length = l) := by show _ = _; rw [← hys, HBR.out, List.length_take, HN40.out]; omega
    have HYR : Hid (Rd wC (some ⟨bb, o40, none⟩) ys) := by show Rd _ _ _; rw [← hys, HBR.out]; exact HR40.out.taken l
    have HYB : Hid (Byt ys) := by show Byt _; rw [← hys, HBR.out]; exact (HBY.out.drop 40).take l
    obtain ⟨V, hV⟩ : ∃ v, pcV NX ys = v := ⟨_, rfl⟩
    have HV : Hid (bdC xs = V) := by show _ = _; unfold bdC; rw [HNX.out, hys, hV]
    have HVV := Lib.hid hV
    have HBE : Hid (bdE xs = V.1) := by show _ = _; unfold bdE; rw [HPE.out, if_neg (by omega), HLL.out, if_neg (by have h1 := HN.out; omega), HV.out]
    clear hys hV
    go_wp2_with fail
    refine (r6ParseChain_any NX (some ⟨bb, o40, none⟩) l c40 ys _ V hnr.1 hnr.2 HYL.out HYR.out HYB.out (by omega) hlc HVV.out.symm).mono ?_
    intro e w2 hpc
    by_cases hv0 : V.1 = 0
    · obtain ⟨hb2, a2, n2, c2, rfl, hoc⟩ := hpc.some_ hv0
      have hte := pcC_end 17 [] NX ys 0 HYB.out (by show (pcV NX ys).1 = 0; rw [HVV.out]; exact hv0)
      rw [show pcC 17 [] NX ys 0 = V from HVV.out, HYL.out] at hte
      obtain ⟨T, hT⟩ : ∃ q : Nat, V.2.2.2 = (q : Int) := ⟨V.2.2.2.toNat, by omega⟩
      obtain ⟨PP, hPP⟩ : ∃ q, V.2.2.1 = q := ⟨_, rfl⟩
      have HPP := Lib.hid hPP
      have HTT := Lib.hid hT
      have hTl : T ≤ l := by omega
      rw [hPP, hT]
      have HE0 : Hid (bdE xs = 0) := by show _ = _; rw [HBE.out]; exact hv0
      obtain ⟨w3, hw3⟩ : ∃ y, w2.alloc (.cells #[.slice a2 n2 c2, .int .u8 PP] 50) = y := ⟨_, rfl⟩
      have hal : Below w2.heap.size w2 w3 := by rw [← hw3]; exact (Below.refl _ _).alloc (Nat.le_refl _) _
      have hb3 : Below wC.heap.size wC w3 := hb2.trans (hal.mono hb2.size)
      have hr9 : w3.rangeAt w2.heap.size 0 [.slice a2 n2 c2, .int .u8 PP] := by rw [← hw3]; exact range_row2 (Blk_new w2 _ _)
      have HO3 := Lib.hid (hoc.below hal)
      have HF3 := Lib.hid (((HFC.out.next hb3).and (Fw.range hr9)))
      have HWC : Hid (w1.heap.size < wC.heap.size ∧ wC.heap.size ≤ w2.heap.size ∧ w2.heap.size ≤ w3.heap.size) := ⟨by have h1 := World.block_lt_of_cell? wC ⟨w1.heap.size, 0, none⟩ (range_cell HFC.out.here.2 (j := 0) (v := .int .u8 (h6Of xs).cl) rfl); exact h1, hb2.size, hal.size⟩
      have HYR3 : Hid (Rd w3 (some ⟨bb, o40, none⟩) ys) := HYR.out.below hb3
      have HI6 : Hid ((Try.prog.info? 30).map (·.size) = some (r6c (h6Of xs)).length) := by show _ = _; exact infR6
      have HW3 := Lib.hid hw3
      clear hoc hT hPP hte hpc hb2 hb3 hal hr9 hw3 h2c h3c
      have hvz : ((V.1 : Int) != 0) = false := by simp; exact hv0
      go_upto_region 10 with fail
      rw [HW3.out]
      obtain ⟨a53, ha53⟩ : ∃ x : Option Addr, (if c40 = T then some (⟨bb, o40, none⟩ : Addr) else some ⟨bb, o40 + T, none⟩) = x := ⟨_, rfl⟩
      have HR53 : Hid (Rd w3 a53 (ys.drop T)) := by show Rd _ _ _; rw [← ha53]; exact rd_from HYR3.out (by rw [HYL.out]; exact hTl) (by rw [HYL.out]; omega)
      have HBD : Hid (bdB xs = ys.drop T) := by show _ = _; unfold bdB; rw [HYS.out, HV.out, HTT.out, Int.toNat_natCast]
      have HNA : Hid ((ys.drop T ≠ [] → blk a53 ≠ some w.heap.size) ∧ (ys.drop T ≠ [] → blk a53 ≠ some (w.heap.size + 1))) := by
        have hbb : ys.drop T ≠ [] → bb < w.heap.size := fun _ => by
          obtain ⟨b', o', e, hcc⟩ := HRD.out (by intro e; have := HN.out; rw [e] at this; simp at this; omega)
          simp only [Option.some.injEq, Addr.mk.injEq, and_true] at e
          obtain ⟨rfl, rfl⟩ := e
          exact World.block_lt_of_cell? w ⟨bb, oo + 0, none⟩ (hcc 0 (by rw [HN.out]; omega))
        have hba : blk a53 = some bb := by rw [← ha53]; split <;> rfl
        exact ⟨fun h e => by rw [hba] at e; have := hbb h; simp at e; omega, fun h e => by rw [hba] at e; have := hbb h; simp at e; omega⟩
      have HB4 : Hid (Below w.heap.size w w3.drew) := ⟨HF3.out.here.1.1.1.os, HF3.out.here.1.1.1.tape, HF3.out.here.1.1.1.output, HF3.out.here.1.1.1.size, HF3.out.here.1.1.1.block⟩
      have HTH : Hid (w3.drew.there w.heap.size 0 (r6c (h6Of xs)).length) := HF3.out.here.1.1.2.1
      have HTG : Hid ((w3.drew.setCells w.heap.size 0 (r6c (h6Of xs))).there (w.heap.size + 1) 0 2) := there_set (show w3.drew.there (w.heap.size + 1) 0 2 from HF3.out.here.1.1.2.2) _ (by omega)
      have HO4 : Hid (OwnR w3.drew wC.heap.size a2 n2 c2 V.2.1) := HO3.out.below (to_drew w3)
      have hs0 : w3.drew.rangeAt w1.heap.size 0 (r6c (h6Of xs)) ∧ w3.drew.rangeAt w2.heap.size 0 [.slice a2 n2 c2, .int .u8 PP] := ⟨HF3.out.here.1.2, HF3.out.here.2⟩
      refine wp_region_held_drew (S := fun w' => World.rangeAt w' w1.heap.size 0 (r6c (h6Of xs)) ∧ World.rangeAt w' w2.heap.size 0 [.slice a2 n2 c2, .int .u8 PP]) (by kernel_rfl) hs0 (fun hS => ?_)
      refine tk 0 49 (.agg ((r6c (h6Of xs))).toArray) rfl rfl (by kernel_rfl) (by kernel_rfl) (by kernel_rfl) (fun _ _ _ h => h) (yieldsIf_load_mid (by rfl) _ _ rfl (w1.heap.size) (0) rfl ((r6c (h6Of xs))) _ (fun w' h' => h'.1) Try.underlying30 rfl (HI6.out)) hS ?_
      try simp only [Act.put, List.setIfInBounds_toArray, List.set_cons_zero, List.set_cons_succ]
      refine tk 1 50 (.agg ([Value.slice a2 n2 c2, .int .u8 PP]).toArray) rfl rfl (by kernel_rfl) (by kernel_rfl) (by kernel_rfl) (fun _ _ _ h => h) (yieldsIf_load_mid (by rfl) _ _ rfl (w2.heap.size) (0) rfl ([Value.slice a2 n2 c2, .int .u8 PP]) _ (fun w' h' => h'.2) Try.underlying50 rfl (infRC2)) hS ?_
      try simp only [Act.put, List.setIfInBounds_toArray, List.set_cons_zero, List.set_cons_succ]
      refine tk 2 51 (.slice (some ⟨bb, o40, none⟩) l c40) rfl rfl (by kernel_rfl) (by kernel_rfl) (by kernel_rfl) (fun _ _ _ h => h) (Or.inl ⟨by rfl, fun w' h' => ?_⟩) hS ?_
      · go_simp
      try simp only [Act.put, List.setIfInBounds_toArray, List.set_cons_zero, List.set_cons_succ]
      refine tk 3 52 (.int .i64 (T : Int)) rfl rfl (by kernel_rfl) (by kernel_rfl) (by kernel_rfl) (fun _ _ _ h => h) (Or.inl ⟨by rfl, fun w' h' => ?_⟩) hS ?_
      · go_simp
      try simp only [Act.put, List.setIfInBounds_toArray, List.set_cons_zero, List.set_cons_succ]
      refine tk 4 53 (.slice a53 (l - T) (c40 - T)) rfl rfl (by kernel_rfl) (by kernel_rfl) (by kernel_rfl) (fun _ _ _ h => h) (Or.inl ⟨by rfl, fun w' h' => ?_⟩) hS ?_
      · rw [← ha53]
        have q1 : (T : Int) ≤ (l : Int) := by omega
        have q2 : (l : Int) ≤ (c40 : Int) := by omega
        go_simp
      try simp only [Act.put, List.setIfInBounds_toArray, List.set_cons_zero, List.set_cons_succ]
      refine wpAnyH_ready (rs := [5]) (by kernel_rfl) (by simp) (AllReadyH.cons rfl (fun K hK => ?_) AllReadyH.nil)
      rw [if_pos (by rfl)]
      refine wp_store_mid 30 _ _ rfl w.heap.size 0 (r6c (h6Of xs)).toArray rfl rfl (by rw [List.size_toArray]; exact HTH.out) (by rw [List.size_toArray]; exact infR6) (all_oneCell_toArray (r6c_one _)) ?_
      have hs5 : (w3.drew.setCells w.heap.size 0 (r6c (h6Of xs))).rangeAt w1.heap.size 0 (r6c (h6Of xs)) ∧ (w3.drew.setCells w.heap.size 0 (r6c (h6Of xs))).rangeAt w2.heap.size 0 [.slice a2 n2 c2, .int .u8 PP] :=
        ⟨World.rangeAt_setCells_apart hs0.1 _ _ _ (.inl (by have := HS1.out; omega)), World.rangeAt_setCells_apart hs0.2 _ _ _ (.inl (by have h1 := HWC.out; have h2 := HS1.out; omega))⟩
      obtain ⟨w5, hw5⟩ : ∃ y, w3.drew.setCells w.heap.size 0 (r6c (h6Of xs)) = y := ⟨_, rfl⟩
      change K _ (w3.drew.setCells w.heap.size 0 (r6c (h6Of xs)))
      have HT5 : Hid (w5.there (w.heap.size + 1) 0 2) := by show World.there _ _ _ _; rw [← hw5]; exact HTG.out
      have HR5 : Hid (w5.rangeAt w.heap.size 0 (r6c (h6Of xs))) := by show World.rangeAt _ _ _ _; rw [← hw5]; exact World.rangeAt_setCells_same _ _ _ _ HTH.out
      have HB5 : Hid (Below w.heap.size w w5) := by show Below _ _ _; rw [← hw5]; exact Below.setCells HB4.out _ (Nat.le_refl _) _ _
      have HO5 : Hid (OwnR w5 wC.heap.size a2 n2 c2 V.2.1) := by show OwnR _ _ _ _ _ _; rw [← hw5]; exact HO4.out.setc _ _ (fun q e k => by have h1 := (HO4.out.row.blk_ge q e).1; have h2 := HWC.out; have h3 := HS1.out; omega)
      have HD5 : Hid (Rd w5 a53 (ys.drop T)) := by show Rd _ _ _; rw [← hw5]; exact (show Rd w3.drew a53 (ys.drop T) from HR53.out).setc _ HNA.out.1 _
      rw [hw5] at hs5
      rw [hw5]
      clear hw5
      clear hS
      refine hK.out _ _ (hs5) (fun hS => ?_)
      clear hK K
      try simp only [Act.put, List.setIfInBounds_toArray]
      refine wpAnyH_ready (rs := [6]) (by kernel_rfl) (by simp) (AllReadyH.cons rfl (fun K hK => ?_) AllReadyH.nil)
      rw [if_pos (by rfl)]
      refine wp_store_mid 50 _ _ rfl (w.heap.size + 1) 0 #[.slice a2 n2 c2, .int .u8 PP] rfl rfl HT5.out infRC2 (all_oneCell_toArray (cch_one a2 n2 c2 PP)) ?_
      have hs6 : (w5.setCells (w.heap.size + 1) 0 [.slice a2 n2 c2, .int .u8 PP]).rangeAt w1.heap.size 0 (r6c (h6Of xs)) ∧ (w5.setCells (w.heap.size + 1) 0 [.slice a2 n2 c2, .int .u8 PP]).rangeAt w2.heap.size 0 [.slice a2 n2 c2, .int .u8 PP] :=
        ⟨World.rangeAt_setCells_apart hs5.1 _ _ _ (.inl (by have := HS1.out; omega)), World.rangeAt_setCells_apart hs5.2 _ _ _ (.inl (by have h1 := HWC.out; have h2 := HS1.out; omega))⟩
      clear hS
      refine hK.out _ _ (hs6) (fun hS => ?_)
      clear hK K
      refine tk 7 4 (.slice a53 (l - T) (c40 - T)) rfl rfl (by kernel_rfl) (by kernel_rfl) (by kernel_rfl) (fun _ _ _ h => h) (Or.inl ⟨by rfl, fun w' h' => ?_⟩) hS ?_
      · go_simp
      refine tk 8 5 (.int .i64 0) rfl rfl (by kernel_rfl) (by kernel_rfl) (by kernel_rfl) (fun _ _ _ h => h) (Or.inl ⟨by rfl, fun w' h' => ?_⟩) hS ?_
      · go_simp
      refine wpAnyH_done (by kernel_rfl) ?_ _
      go_wp2_with fail
      refine bodyPost_ret (R := RBodyS w xs) (ret_mid4 Try.results30 _ _ _ _ (r6c (h6Of xs)) _ rfl (World.rangeAt_setCells_apart HR5.out _ _ _ (.inl (by omega))) Try.underlying30 rfl HI6.out _ _ [.slice a2 n2 c2, .int .u8 PP] _ rfl (World.rangeAt_setCells_same _ _ _ _ HT5.out) Try.underlying50 rfl infRC2 _ _ rfl rfl) rfl ⟨Below.setCells HB5.out _ (Nat.le_succ _) _ _, .inr ⟨HE0.out, a2, n2, c2, a53, l - T, c40 - T, ?_, ?_, ?_, ?_⟩⟩
      · rw [HV.out, HPP.out]; rfl
      · rw [HV.out]
        exact (HO5.out.setc _ _ (fun q e k => by have h1 := (HO5.out.row.blk_ge q e).1; have h2 := HWC.out; have h3 := HS1.out; omega)).mono (by have := HWC.out; have := HS1.out; omega)
      · rw [HBD.out, List.length_drop, HYL.out]
      · rw [HBD.out]
        exact HD5.out.setc _ HNA.out.2 _
    · obtain ⟨hb2, rfl⟩ := hpc.none_ hv0
      obtain ⟨E2, hE2⟩ : ∃ v, V.1 = v := ⟨_, rfl⟩
      rw [hE2] at HBE hv0 ⊢
      have HE := HBE
      obtain ⟨w3, hw3⟩ : ∃ y, w2.alloc (.cells #[.slice none 0 0, .int .u8 0] 50) = y := ⟨_, rfl⟩
      have hb3 : Below wC.heap.size wC w3 := by rw [← hw3]; exact hb2.alloc hb2.size _
      have HBZ : Hid (Below w.heap.size w w3) := (HFC.out.next hb3).here.1.1
      have HTZ : Hid (w3.there w.heap.size 0 7 ∧ w3.there (w.heap.size + 1) 0 2) := (HFC.out.next hb3).here.1.2
      have HW3 := Lib.hid hw3
      have hEb : (E2 != 0) = true := by simpa using hv0
      clear hb2 hb3 hw3 hpc h2c h3c
      go_upto_region 8 with fail
      rw [HW3.out]
      have HSZ : Hid (Below w.heap.size w (w3.setCells w.heap.size 0 r60) ∧ (w3.setCells w.heap.size 0 r60).there (w.heap.size + 1) 0 2 ∧ (w3.setCells w.heap.size 0 r60).rangeAt w.heap.size 0 r60) :=
        ⟨Below.setCells HBZ.out _ (Nat.le_refl _) _ _, there_set HTZ.out.2 _ (by omega), World.rangeAt_setCells_same _ _ _ _ HTZ.out.1⟩

      go_wp2_with (first
        | (refine wpList_build_run (cells := r60.toArray) rfl 30 _ rfl ?_ ?_; · exact built0)
        | (refine stN (fun w' => Hid (Below w.heap.size w w' ∧ w'.there (w.heap.size + 1) 0 2 ∧ w'.rangeAt w.heap.size 0 r60)) 30 (.tmp 2) (.tmp 46) rfl rfl w.heap.size 0 r60 rfl rfl HTZ.out.1 infR6 r60_one HSZ ?_; intro wy HY)
        | (refine stC 50 (.tmp 3) (.tmp 47) rfl rfl (w.heap.size + 1) 0 [.slice none 0 0, .int .u8 0] rfl rfl HY.out.2.1 infRC2 (cch_one _ _ _ _) ?_))
      refine bodyPost_ret (R := RBodyS w xs) (ret_mid4 Try.results30 _ _ _ _ r60 _ rfl (World.rangeAt_setCells_apart HY.out.2.2 _ _ _ (.inl (by omega))) Try.underlying30 rfl infR6 _ _ [.slice none 0 0, .int .u8 0] _ rfl (World.rangeAt_setCells_same _ _ _ _ HY.out.2.1) Try.underlying50 rfl infRC2 _ _ rfl rfl) rfl ⟨Below.setCells HY.out.1 _ (Nat.le_succ _) _ _, .inl ⟨by rw [HE.out]; exact hv0, by rw [HE.out]; rfl⟩⟩
  · have HE : Hid (bdE xs = E) := by show _ = _; unfold bdE; rw [HPE.out, if_pos hE0]
    have hEb : (E != 0) = true := by simpa using hE0
    have HBZ : Hid (Below w.heap.size w wC) := HFC.out.here.1.1
    have HTZ : Hid (wC.there w.heap.size 0 7 ∧ wC.there (w.heap.size + 1) 0 2) := HFC.out.here.1.2
    have HSZ : Hid (Below w.heap.size w (wC.setCells w.heap.size 0 r60) ∧ (wC.setCells w.heap.size 0 r60).there (w.heap.size + 1) 0 2 ∧ (wC.setCells w.heap.size 0 r60).rangeAt w.heap.size 0 r60) :=
      ⟨Below.setCells HBZ.out _ (Nat.le_refl _) _ _, there_set HTZ.out.2 _ (by omega), World.rangeAt_setCells_same _ _ _ _ HTZ.out.1⟩

    go_wp2_with (first
      | (refine wpList_build_run (cells := r60.toArray) rfl 30 _ rfl ?_ ?_; · exact built0)
      | (refine stN (fun w' => Hid (Below w.heap.size w w' ∧ w'.there (w.heap.size + 1) 0 2 ∧ w'.rangeAt w.heap.size 0 r60)) 30 (.tmp 2) (.tmp 18) rfl rfl w.heap.size 0 r60 rfl rfl HTZ.out.1 infR6 r60_one HSZ ?_; intro wy HY)
      | (refine stC 50 (.tmp 3) (.tmp 19) rfl rfl (w.heap.size + 1) 0 [.slice none 0 0, .int .u8 0] rfl rfl HY.out.2.1 infRC2 (cch_one _ _ _ _) ?_))
    refine bodyPost_ret (R := RBodyS w xs) (ret_mid4 Try.results30 _ _ _ _ r60 _ rfl (World.rangeAt_setCells_apart HY.out.2.2 _ _ _ (.inl (by omega))) Try.underlying30 rfl infR6 _ _ [.slice none 0 0, .int .u8 0] _ rfl (World.rangeAt_setCells_same _ _ _ _ HY.out.2.1) Try.underlying50 rfl infRC2 _ _ rfl rfl) rfl ⟨Below.setCells HY.out.1 _ (Nat.le_succ _) _ _, .inl ⟨by rw [HE.out]; exact hE0, by rw [HE.out]; rfl⟩⟩
end Go.Proofs.Ythipnkaghddbhaa

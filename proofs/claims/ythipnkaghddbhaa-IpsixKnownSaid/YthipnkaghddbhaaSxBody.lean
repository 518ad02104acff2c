/-
  The contract of Body of package ipsix. Conditions: bytes that lie where the slice leads, fewer than a million.
-/
import Derived.Test.YthipnkaghddbhaaSxRPCh
namespace Go.Proofs.Ythipnkaghddbhaa
open Go.RowKit

/-- What Body answers: the error, the chain's reading, and the bytes behind. -/
def bdR (xs : List Int) : List Int := (xs.drop 40).take (h6Of xs).ln.toNat
def bdC (xs : List Int) : Int × List (Int × List Int) × Int × Int := pcV (h6Of xs).nx (bdR xs)
def bdE (xs : List Int) : Int := if peE xs ≠ 0 then peE xs else if (xs.length : Int) < 40 + (h6Of xs).ln then 10 else (bdC xs).1
def bdB (xs : List Int) : List Int := (bdR xs).drop (bdC xs).2.2.2.toNat
def BodyS (w : World) (xs : List Int) (e : Ending) (w' : World) : Prop :=
  Below w.heap.size w w' ∧ ((bdE xs ≠ 0 ∧ e = .returned (.tuple #[.agg h60.cs.toArray, .agg #[.slice none 0 0, .int .u8 0], .slice none 0 0, .int .i64 (bdE xs)])) ∨
    (bdE xs = 0 ∧ ∃ es a n c b m d, e = .returned (.tuple #[.agg (h6Of xs).cs.toArray, .agg #[.slice a n c, .int .u8 (bdC xs).2.2.1], .slice b m d, .int .i64 0]) ∧ es.map Ex.two = (bdC xs).2.1 ∧ OwnC w' w.heap.size a n c es ∧ (0 ≤ (bdC xs).2.2.1 ∧ (bdC xs).2.2.1 < 256) ∧ Own w' w.heap.size b m d (bdB xs)))
theorem ret_mid4 {P : Program} {fn : Func} {p q r s : Tmp} {ty uy : TypeId} (h : fn.results = #[.cell p ty, .cell q uy, .tmp r, .tmp s]) (tmps : Array Value) (w : World) (b off : Nat) (cs : List Value) (d : TypeDesc) (hp : tmps.getD p undef = .pointer (some ⟨b, off, none⟩)) (hc : w.rangeAt b off cs)
    (hu : P.underlying ty = some d) (hd : d.isRow = true) (hi : (P.info? ty).map (·.size) = some cs.length) (b2 off2 : Nat) (cs2 : List Value) (d2 : TypeDesc) (hp2 : tmps.getD q undef = .pointer (some ⟨b2, off2, none⟩)) (hc2 : w.rangeAt b2 off2 cs2)
    (hu2 : P.underlying uy = some d2) (hd2 : d2.isRow = true) (hi2 : (P.info? uy).map (·.size) = some cs2.length) (u v : Value) (hq : tmps.getD r undef = u) (hr : tmps.getD s undef = v) : (results fn tmps).run P w = .ok (.tuple #[.agg cs.toArray, .agg cs2.toArray, u, v]) w := by
  have hp' : tmps[p]?.getD undef = .pointer (some ⟨b, off, none⟩) := by simpa using hp
  have hp2' : tmps[q]?.getD undef = .pointer (some ⟨b2, off2, none⟩) := by simpa using hp2
  have hq' : tmps[r]?.getD undef = u := by simpa using hq
  have hr' : tmps[s]?.getD undef = v := by simpa using hr
  simp [results, h, hp', hp2', hq', hr', asAddr, run_loadVar_mid w b off ty cs d hc hu hd hi, run_loadVar_mid w b2 off2 uy cs2 d2 hc2 hu2 hd2 hi2]
theorem sxClone_any (a : Option Addr) (n c : Nat) (xs : List Int) (w : World) (hn : xs.length = n) (hr : Rd w a xs) (hlim : n ≤ 70368744177664) :
    Calls Try.prog 54 #[.slice a n c] w (Made w xs) := by
  obtain ⟨a', cap', w1, hrun, hown, hg, hb⟩ := run_append_rd w w.heap.size 27 (Own.nil w w.heap.size) c hn hr (by omega) (Nat.le_refl _)
  rw [List.nil_append] at hown
  have HR := Lib.hid hrun
  have HF : Hid (Made w xs (.returned (.slice a' (0 + n) cap')) w1) := ⟨a', 0 + n, cap', rfl, hown, (Below.refl _ _).grown hg (Nat.le_refl _) (by simp [blk])⟩
  clear hrun hown hg hb hn hr
  rw [Nat.zero_add] at HR HF
  go_enter Try.func54, Try.ntmps54
  go_wp2_with (at_builtin; refine Lib.wpList_append_run _ rfl _ _ _ _ rfl _ _ rfl rfl _ _ HR.out ?_)
  go_ret
  exact HF.out
/-- Bytes from a place on, where a slice leads that may stand at its capacity. -/
theorem rd_from {w : World} {b o : Nat} {xs : List Int} (h : Rd w (some ⟨b, o, none⟩) xs) {k c : Nat} (hk : k ≤ xs.length) (hc : xs.length ≤ c) : Rd w (if c = k then some ⟨b, o, none⟩ else some ⟨b, o + k, none⟩) (xs.drop k) := by
  split
  · rw [List.drop_eq_nil_of_le (by omega)]; exact Rd.empty _ _
  · exact h.dropped hk

theorem pcC_end : ∀ (f : Nat) (acc : List (Int × List Int)) (k : Int) (xs : List Int) (t : Int), Byt xs → (pcC f acc k xs t).1 = 0 → t ≤ (pcC f acc k xs t).2.2.2 ∧ (pcC f acc k xs t).2.2.2 ≤ t + xs.length
  | 0, _, _, _, _, _, h => by simp [pcC] at h
  | f + 1, acc, k, xs, t, hb, h => by
    rw [pcC_step] at h ⊢
    split at h
    · rename_i hk
      rw [if_pos hk]
      exact ⟨Int.le_refl _, by show t ≤ _; omega⟩
    · rename_i hk
      rw [if_neg hk]
      split at h
      · rename_i he
        exact absurd h he
      · rename_i he
        rw [if_neg he]
        have hs : hdS k xs ≤ xs.length := by
          have he' : hdE k acc.length xs = 0 := Decidable.not_not.1 he
          unfold hdE at he'
          split at he'
          · cases he'
          split at he'
          · cases he'
          split at he'
          · cases he'
          · omega
        split at h
        · rename_i hl
          rw [if_pos hl]
          exact ⟨by show t ≤ t + _; omega, by show t + (hdS k xs : Int) ≤ _; omega⟩
        · rename_i hl
          rw [if_neg hl]
          have ih := pcC_end f _ _ _ _ (hb.drop _) h
          rw [List.length_drop] at ih
          omega
theorem OwnC.setc {w : World} {base : Nat} {a : Option Addr} {n c : Nat} {es : List Ex} (h : OwnC w base a n c es) (b : Nat) (hb : b < base) (vs : List Value) : OwnC (w.setCells b 0 vs) base a n c es := by
  have hk : Kept (fun q => q = b) w (w.setCells b 0 vs) := Kept.setCells _ _ _ _ (Kept.refl _ _)
  exact ⟨h.len, h.few, h.row.keep hk (fun q e k => by have := (h.row.blk_ge q e).1; omega), fun x hx => (h.exts x hx).keep hk (fun q e k => by have := ((h.exts x hx).own.blk_ge q e).1; omega)⟩
theorem Own.setc {w : World} {base : Nat} {a : Option Addr} {n c : Nat} {ys : List Int} (h : Own w base a n c ys) (b : Nat) (hb : b < base) (vs : List Value) : Own (w.setCells b 0 vs) base a n c ys :=
  h.keep (S := fun q => q = b) (Kept.setCells _ _ _ _ (Kept.refl _ _)) (fun q e k => by have := (h.blk_ge q e).1; omega)

set_option maxRecDepth 100000 in
set_option maxHeartbeats 4000000 in
theorem sxBody_any (a : Option Addr) (n cap : Nat) (xs : List Int) (w : World) (hn : xs.length = n) (hr : Rd w a xs) (hb : Byt xs) (hl : n ≤ 1000000) (hc : n ≤ cap) :
    Calls Try.prog 29 #[.slice a n cap] w (BodyS w xs) := by
  have HN := Lib.hid hn
  have HBY := Lib.hid hb
  have HRD := Lib.hid hr
  obtain ⟨wA, hwA⟩ : ∃ x, w.alloc (.cells h60.cs.toArray 26) = x := ⟨_, rfl⟩
  have hbA : Below w.heap.size w wA := by rw [← hwA]; exact (Below.refl _ _).alloc (Nat.le_refl _) _
  have hsA : wA.heap.size = w.heap.size + 1 := by rw [← hwA]; simp
  have hTA : wA.there w.heap.size 0 37 := by rw [← hwA]; exact there_new _ _ _ _ rfl _ rfl
  obtain ⟨wB, hwB⟩ : ∃ x, wA.alloc (.cells #[.slice none 0 0, .int .u8 0] 46) = x := ⟨_, rfl⟩
  have hbB : Below wA.heap.size wA wB := by rw [← hwB]; exact (Below.refl _ _).alloc (Nat.le_refl _) _
  have hsB : wB.heap.size = w.heap.size + 2 := by rw [← hwB]; simp [hsA]
  have HFB : Hid (Fw wB (fun z => Below w.heap.size w z ∧ z.there w.heap.size 0 37 ∧ z.there (w.heap.size + 1) 0 2)) := fun z hz => ⟨(hbA.trans (hbB.mono hbA.size)).trans (hz.mono (by omega)), there_kept hz (there_kept hbB hTA), there_kept hz (by rw [← hwB]; exact there_new _ _ _ _ rfl _ hsA)⟩
  have HW := Lib.hid hwA
  have HWB := Lib.hid hwB
  have HSB := Lib.hid hsB
  have HOP := Lib.hid (h6P_ok hb)
  have HI4 : Hid ((Try.prog.info? 26).map (·.size) = some (h6P xs).cs.length) := by show _ = _; rw [HOP.out.len]; exact inf6
  clear hn hr hb hbA hbB hwA hwB hsA hTA hsB
  go_enter Try.func29, Try.ntmps29
  go_upto_region 1 with fail
  change Code.wp _ _ _ _ ((w.alloc (.cells h60.cs.toArray 26)).alloc (.cells #[.slice none 0 0, .int .u8 0] 46))
  rw [HW.out, HWB.out]
  go_wp2_with fail
  refine (sxParse_any a n cap xs _ HN.out (HRD.out.below HFB.out.here.1) HBY.out hl hc).mono ?_
  rintro e w1 ⟨rfl, hb1⟩
  have HF1 := Lib.hid (HFB.out.next hb1)
  have HS1 : Hid (w.heap.size + 2 ≤ w1.heap.size) := by have h1 := hb1.size; have h2 := HSB.out; show _ ≤ _; omega
  obtain ⟨hp1, hp2⟩ := put_new w1 (h6P xs).cs h60.cs 26 (by rw [HOP.out.len]; rfl)
  have HP1 := Lib.hid hp1
  have HT1 := Lib.hid hp2
  obtain ⟨E, hE⟩ : ∃ x, peE xs = x := ⟨_, rfl⟩
  have HPE := Lib.hid hE
  rw [hE]
  clear hb1 hp1 hp2 HFB hE HW HWB
  go_upto_region 2 with (first
    | (refine stN (fun w' => Hid (Below w1.heap.size w1 w' ∧ w'.rangeAt w1.heap.size 0 (h6P xs).cs)) 26 (.tmp 6) (.tmp 14) rfl rfl w1.heap.size 0 (h6P xs).cs rfl rfl HT1.out HI4.out (H6.one _) HP1 ?_; intro wC HZC; have HFC := Lib.hid ((HF1.out.next HZC.out.1).and (Fw.range HZC.out.2)); clear HF1 HP1 HT1))
  by_cases hE0 : E = 0
  · subst hE0
    have HH : Hid (h6P xs = h6Of xs) := by show _ = _; unfold h6P; rw [HPE.out, if_pos rfl]
    have h40 : 40 ≤ n := by
      have h1 := HPE.out
      unfold peE at h1
      split at h1
      · cases h1
      · have := HN.out; omega
    have HO := Lib.hid (h6Of_ok HBY.out (by rw [HN.out]; exact h40))
    rw [HH.out] at HFC HOP
    have h2c := range_cell HFC.out.here.2 (H6.c2 (h6Of xs))
    have h3c := range_cell HFC.out.here.2 (H6.c3 (h6Of xs))
    have hlr := HO.out.ln
    have hnr := HO.out.nx
    obtain ⟨l, hll⟩ : ∃ q : Nat, (h6Of xs).ln = (q : Int) := ⟨(h6Of xs).ln.toNat, by omega⟩
    obtain ⟨NX, hnx⟩ : ∃ q, (h6Of xs).nx = q := ⟨_, rfl⟩
    rw [hll] at h2c hlr
    rw [hnx] at h3c hnr
    have HLL := Lib.hid hll
    have HNX := Lib.hid hnx
    have hl65 : l < 65536 := by omega
    have HRC : Hid (Rd wC a xs) := HRD.out.below HFC.out.here.1.1
    obtain ⟨bb, oo, rfl, _⟩ := HRC.out (by intro e; have := HN.out; rw [e] at this; simp at this; omega)
    clear hll hnx hlr
    go_upto_region 5 with fail
    obtain ⟨o40, ha40⟩ : ∃ q : Nat, (if cap = 40 then some (⟨bb, oo, none⟩ : Addr) else some ⟨bb, oo + 40, none⟩) = some ⟨bb, q, none⟩ := by
      split
      · exact ⟨oo, rfl⟩
      · exact ⟨oo + 40, rfl⟩
    rw [ha40]
    have HR40 : Hid (Rd wC (some ⟨bb, o40, none⟩) (xs.drop 40)) := by show Rd _ _ _; rw [← ha40]; exact rd_from HRC.out (by rw [HN.out]; exact h40) (by rw [HN.out]; exact hc)
    obtain ⟨n40, hn40⟩ : ∃ q, n - 40 = q := ⟨_, rfl⟩
    obtain ⟨c40, hc40⟩ : ∃ q, cap - 40 = q := ⟨_, rfl⟩
    rw [hn40, hc40]
    have HN40 : Hid ((xs.drop 40).length = n40) := by show _ = _; rw [List.length_drop, HN.out, hn40]
    have hcn40 : n40 ≤ c40 := by omega
    have HNN : Hid (n = n40 + 40) := by show _ = _; omega
    have hl40 : n40 ≤ 1000000 := by omega
    clear ha40 hn40 hc40
    by_cases hlt : n40 < l
    · have HE : Hid (bdE xs = 10) := by show _ = _; unfold bdE; rw [HPE.out, if_neg (by omega), HLL.out, if_pos (by have h1 := HN.out; have h2 := HNN.out; omega)]
      have HBZ : Hid (Below w.heap.size w wC) := HFC.out.here.1.1
      have HTZ : Hid (wC.there w.heap.size 0 37 ∧ wC.there (w.heap.size + 1) 0 2) := HFC.out.here.1.2
      have HSZ : Hid (Below w.heap.size w (wC.setCells w.heap.size 0 h60.cs) ∧ (wC.setCells w.heap.size 0 h60.cs).there (w.heap.size + 1) 0 2 ∧ (wC.setCells w.heap.size 0 h60.cs).rangeAt w.heap.size 0 h60.cs) :=
        ⟨Below.setCells HBZ.out _ (Nat.le_refl _) _ _, there_set HTZ.out.2 _ (by omega), World.rangeAt_setCells_same _ _ _ _ HTZ.out.1⟩

      go_wp2_with (first
        | (refine wpList_build_run (cells := h60.cs.toArray) rfl 26 _ rfl ?_ ?_; · exact built60)
        | (refine stN (fun w' => Hid (Below w.heap.size w w' ∧ w'.there (w.heap.size + 1) 0 2 ∧ w'.rangeAt w.heap.size 0 h60.cs)) 26 (.tmp 2) (.tmp 29) rfl rfl w.heap.size 0 h60.cs rfl rfl HTZ.out.1 inf6 (H6.one h60) HSZ ?_; intro wy HY)
        | (refine stC 46 (.tmp 3) (.tmp 30) rfl rfl (w.heap.size + 1) 0 [.slice none 0 0, .int .u8 0] rfl rfl HY.out.2.1 infC2 (cch_one _ _ _ _) ?_))
      refine bodyPost_ret (R := BodyS w xs) (ret_mid4 Try.results29 _ _ _ _ h60.cs _ rfl (World.rangeAt_setCells_apart HY.out.2.2 _ _ _ (.inl (by omega))) Try.underlying26 rfl inf6 _ _ [.slice none 0 0, .int .u8 0] _ rfl (World.rangeAt_setCells_same _ _ _ _ HY.out.2.1) Try.underlying46 rfl infC2 _ _ rfl rfl) rfl ⟨Below.setCells HY.out.1 _ (Nat.le_succ _) _ _, .inl ⟨by rw [HE.out]; decide, by rw [HE.out]; rfl⟩⟩
    have HBR : Hid (bdR xs = (xs.drop 40).take l) := by show _ = _; unfold bdR; rw [HLL.out, Int.toNat_natCast]
    obtain ⟨ys, hys⟩ : ∃ y, bdR xs = y := ⟨_, rfl⟩
    have HYS := Lib.hid hys
    have HYL : Hid (ys.length = l) := by show _ = _; rw [← hys, HBR.out, List.length_take, HN40.out]; omega
    have HYR : Hid (Rd wC (some ⟨bb, o40, none⟩) ys) := by show Rd _ _ _; rw [← hys, HBR.out]; exact HR40.out.taken l
    have HYB : Hid (Byt ys) := by show Byt _; rw [← hys, HBR.out]; exact (HBY.out.drop 40).take l
    obtain ⟨V, hV⟩ : ∃ v, pcV NX ys = v := ⟨_, rfl⟩
    have HV : Hid (bdC xs = V) := by show _ = _; unfold bdC; rw [HNX.out, hys, hV]
    have HVV := Lib.hid hV
    have HBE : Hid (bdE xs = V.1) := by show _ = _; unfold bdE; rw [HPE.out, if_neg (by omega), HLL.out, if_neg (by have h1 := HN.out; have h2 := HNN.out; omega), HV.out]
    clear hys hV
    go_wp2_with fail
    refine (sxParseChain_any NX (some ⟨bb, o40, none⟩) l c40 ys _ V hnr.1 hnr.2 HYL.out HYR.out HYB.out (by omega) HVV.out.symm).mono ?_
    intro e w2 hpc
    by_cases hv0 : V.1 = 0
    · obtain ⟨hb2, es, a2, n2, c2, rfl, hes, hoc, hk0, hk1⟩ := hpc.some_ hv0
      have hte := pcC_end 17 [] NX ys 0 HYB.out (by show (pcV NX ys).1 = 0; rw [HVV.out]; exact hv0)
      rw [show pcC 17 [] NX ys 0 = V from HVV.out, HYL.out] at hte
      obtain ⟨T, hT⟩ : ∃ q : Nat, V.2.2.2 = (q : Int) := ⟨V.2.2.2.toNat, by omega⟩
      obtain ⟨PP, hPP⟩ : ∃ q, V.2.2.1 = q := ⟨_, rfl⟩
      have HPP := Lib.hid hPP
      have HTT := Lib.hid hT
      have hTl : T ≤ l := by omega
      rw [hPP] at hk0 hk1
      rw [hPP, hT]
      have HES := Lib.hid hes
      have HKK := Lib.hid (And.intro hk0 hk1)
      have HE0 : Hid (bdE xs = 0) := by show _ = _; rw [HBE.out]; exact hv0
      obtain ⟨w3, hw3⟩ : ∃ y, w2.alloc (.cells #[.slice a2 n2 c2, .int .u8 PP] 46) = y := ⟨_, rfl⟩
      have hal : Below w2.heap.size w2 w3 := by rw [← hw3]; exact (Below.refl _ _).alloc (Nat.le_refl _) _
      have hb3 : Below wC.heap.size wC w3 := hb2.trans (hal.mono hb2.size)
      have hr9 : w3.rangeAt w2.heap.size 0 [.slice a2 n2 c2, .int .u8 PP] := by rw [← hw3]; exact range_row2 (Blk_new w2 _ _)
      have HO3 := Lib.hid (hoc.keep hal)
      have HF3 := Lib.hid (((HFC.out.next hb3).and (Fw.range hr9)))
      have HWC : Hid (w1.heap.size < wC.heap.size ∧ wC.heap.size ≤ w2.heap.size ∧ w2.heap.size ≤ w3.heap.size) := ⟨by have h1 := World.block_lt_of_cell? wC ⟨w1.heap.size, 0, none⟩ (range_cell HFC.out.here.2 (H6.c0 _)); exact h1, hb2.size, hal.size⟩
      have HYR3 : Hid (Rd w3 (some ⟨bb, o40, none⟩) ys) := HYR.out.below hb3
      have HI6 : Hid ((Try.prog.info? 26).map (·.size) = some (h6Of xs).cs.length) := by show _ = _; rw [HO.out.len]; exact inf6
      have HW3 := Lib.hid hw3
      clear hes hoc hk0 hk1 hT hPP hte hpc hb2 hb3 hal hr9 hw3 h2c h3c
      have hvz : ((V.1 : Int) != 0) = false := by simp; exact hv0
      go_upto_region 11 with fail
      rw [HW3.out]
      obtain ⟨a53, ha53⟩ : ∃ x : Option Addr, (if c40 = T then some (⟨bb, o40, none⟩ : Addr) else some ⟨bb, o40 + T, none⟩) = x := ⟨_, rfl⟩
      have HR53 : Hid (Rd w3 a53 (ys.drop T)) := by show Rd _ _ _; rw [← ha53]; exact rd_from HYR3.out (by rw [HYL.out]; exact hTl) (by rw [HYL.out]; omega)
      have hs0 : w3.drew.rangeAt w1.heap.size 0 (h6Of xs).cs ∧ w3.drew.rangeAt w2.heap.size 0 [.slice a2 n2 c2, .int .u8 PP] := ⟨HF3.out.here.1.2, HF3.out.here.2⟩
      refine wp_region_held_drew (S := fun w' => World.rangeAt w' w1.heap.size 0 (h6Of xs).cs ∧ World.rangeAt w' w2.heap.size 0 [.slice a2 n2 c2, .int .u8 PP]) (by kernel_rfl) hs0 (fun hS => ?_)
      refine tk 0 48 (.agg ((h6Of xs).cs).toArray) rfl rfl (by kernel_rfl) (by kernel_rfl) (by kernel_rfl) (fun _ _ _ h => h) (yieldsIf_load_mid (by rfl) _ _ rfl (w1.heap.size) (0) rfl ((h6Of xs).cs) _ (fun w' h' => h'.1) Try.underlying26 rfl (HI6.out)) hS ?_
      try simp only [Act.put, List.setIfInBounds_toArray, List.set_cons_zero, List.set_cons_succ]
      refine tk 1 49 (.agg ([Value.slice a2 n2 c2, .int .u8 PP]).toArray) rfl rfl (by kernel_rfl) (by kernel_rfl) (by kernel_rfl) (fun _ _ _ h => h) (yieldsIf_load_mid (by rfl) _ _ rfl (w2.heap.size) (0) rfl ([Value.slice a2 n2 c2, .int .u8 PP]) _ (fun w' h' => h'.2) Try.underlying46 rfl (infC2)) hS ?_
      try simp only [Act.put, List.setIfInBounds_toArray, List.set_cons_zero, List.set_cons_succ]
      refine tk 2 50 (.slice (some ⟨bb, o40, none⟩) l c40) rfl rfl (by kernel_rfl) (by kernel_rfl) (by kernel_rfl) (fun _ _ _ h => h) (Or.inl ⟨by rfl, fun w' h' => ?_⟩) hS ?_
      · go_simp
      try simp only [Act.put, List.setIfInBounds_toArray, List.set_cons_zero, List.set_cons_succ]
      refine tk 3 51 (.int .i64 (T : Int)) rfl rfl (by kernel_rfl) (by kernel_rfl) (by kernel_rfl) (fun _ _ _ h => h) (Or.inl ⟨by rfl, fun w' h' => ?_⟩) hS ?_
      · go_simp
      try simp only [Act.put, List.setIfInBounds_toArray, List.set_cons_zero, List.set_cons_succ]
      refine tk 4 52 (.slice a53 (l - T) (c40 - T)) rfl rfl (by kernel_rfl) (by kernel_rfl) (by kernel_rfl) (fun _ _ _ h => h) (Or.inl ⟨by rfl, fun w' h' => ?_⟩) hS ?_
      · rw [← ha53]
        have q1 : (T : Int) ≤ (l : Int) := by omega
        have q2 : (l : Int) ≤ (c40 : Int) := by omega
        go_simp
      try simp only [Act.put, List.setIfInBounds_toArray, List.set_cons_zero, List.set_cons_succ]
      refine wpAnyH_ready (rs := [5]) (by kernel_rfl) (by simp) (AllReadyH.cons rfl (fun K hK => ?_) AllReadyH.nil)
      rw [if_pos (by rfl)]
      go_wp2_with fail
      refine (sxClone_any a53 (l - T) (c40 - T) (ys.drop T) _ (by rw [List.length_drop, HYL.out]) HR53.out.drw (by omega)).mono ?_
      rintro e w4 ⟨bq, mq, dq, rfl, hoq, hb4⟩
      have hb4' := undrew hb4
      have hs4 : w4.rangeAt w1.heap.size 0 (h6Of xs).cs ∧ w4.rangeAt w2.heap.size 0 [.slice a2 n2 c2, .int .u8 PP] := ⟨(HF3.out.next hb4').here.1.2, (HF3.out.next hb4').here.2⟩
      have HB4 : Hid (Below w.heap.size w w4) := (HF3.out.next hb4').here.1.1.1
      have HTH0 : Hid (w4.there w.heap.size 0 37) := (HF3.out.next hb4').here.1.1.2.1
      have HTG0 : Hid (w4.there (w.heap.size + 1) 0 2) := (HF3.out.next hb4').here.1.1.2.2
      have HO4 := Lib.hid (HO3.out.keep hb4')
      have HOQ : Hid (Own w4 w3.heap.size bq mq dq (ys.drop T)) := hoq
      have HTH : Hid (w4.there w.heap.size 0 (h6Of xs).cs.length) := by rw [HO.out.len]; exact HTH0.out
      have HTG : Hid ((w4.setCells w.heap.size 0 (h6Of xs).cs).there (w.heap.size + 1) 0 2) := there_set HTG0.out _ (by omega)
      clear hb4 hb4' hoq
      clear hS
      refine hK.out _ _ (hs4) (fun hS => ?_)
      clear hK K
      try simp only [Act.put, List.setIfInBounds_toArray, List.set_cons_zero, List.set_cons_succ]
      refine wpAnyH_ready (rs := [6]) (by kernel_rfl) (by simp) (AllReadyH.cons rfl (fun K hK => ?_) AllReadyH.nil)
      rw [if_pos (by rfl)]
      refine wp_store_mid 26 _ _ rfl w.heap.size 0 (h6Of xs).cs.toArray rfl rfl (by rw [List.size_toArray]; exact HTH.out) (by rw [List.size_toArray]; exact HI6.out) (all_oneCell_toArray (H6.one _)) ?_
      have hs5 : (w4.setCells w.heap.size 0 (h6Of xs).cs).rangeAt w1.heap.size 0 (h6Of xs).cs ∧ (w4.setCells w.heap.size 0 (h6Of xs).cs).rangeAt w2.heap.size 0 [.slice a2 n2 c2, .int .u8 PP] :=
        ⟨World.rangeAt_setCells_apart hs4.1 _ _ _ (.inl (by have := HS1.out; omega)), World.rangeAt_setCells_apart hs4.2 _ _ _ (.inl (by have h1 := HWC.out; have h2 := HS1.out; omega))⟩
      clear hS
      refine hK.out _ _ (hs5) (fun hS => ?_)
      clear hK K
      try simp only [Act.put, List.setIfInBounds_toArray]
      refine wpAnyH_ready (rs := [7]) (by kernel_rfl) (by simp) (AllReadyH.cons rfl (fun K hK => ?_) AllReadyH.nil)
      rw [if_pos (by rfl)]
      refine wp_store_mid 46 _ _ rfl (w.heap.size + 1) 0 #[.slice a2 n2 c2, .int .u8 PP] rfl rfl HTG.out infC2 (all_oneCell_toArray (cch_one a2 n2 c2 PP)) ?_
      have hs6 : ((w4.setCells w.heap.size 0 (h6Of xs).cs).setCells (w.heap.size + 1) 0 [.slice a2 n2 c2, .int .u8 PP]).rangeAt w1.heap.size 0 (h6Of xs).cs ∧ ((w4.setCells w.heap.size 0 (h6Of xs).cs).setCells (w.heap.size + 1) 0 [.slice a2 n2 c2, .int .u8 PP]).rangeAt w2.heap.size 0 [.slice a2 n2 c2, .int .u8 PP] :=
        ⟨World.rangeAt_setCells_apart hs5.1 _ _ _ (.inl (by have := HS1.out; omega)), World.rangeAt_setCells_apart hs5.2 _ _ _ (.inl (by have h1 := HWC.out; have h2 := HS1.out; omega))⟩
      clear hS
      refine hK.out _ _ (hs6) (fun hS => ?_)
      clear hK K
      refine tk 8 4 (.slice bq mq dq) rfl rfl (by kernel_rfl) (by kernel_rfl) (by kernel_rfl) (fun _ _ _ h => h) (Or.inl ⟨by rfl, fun w' h' => ?_⟩) hS ?_
      · go_simp
      refine tk 9 5 (.int .i64 0) rfl rfl (by kernel_rfl) (by kernel_rfl) (by kernel_rfl) (fun _ _ _ h => h) (Or.inl ⟨by rfl, fun w' h' => ?_⟩) hS ?_
      · go_simp
      refine wpAnyH_done (by kernel_rfl) ?_ _
      go_wp2_with fail
      refine bodyPost_ret (R := BodyS w xs) (ret_mid4 Try.results29 _ _ _ _ (h6Of xs).cs _ rfl (World.rangeAt_setCells_apart (World.rangeAt_setCells_same _ _ _ _ HTH.out) _ _ _ (.inl (by omega))) Try.underlying26 rfl HI6.out _ _ [.slice a2 n2 c2, .int .u8 PP] _ rfl (World.rangeAt_setCells_same _ _ _ _ HTG.out) Try.underlying46 rfl infC2 _ _ rfl rfl) rfl ⟨Below.setCells (Below.setCells HB4.out _ (Nat.le_refl _) _ _) _ (Nat.le_succ _) _ _, .inr ⟨HE0.out, es, a2, n2, c2, bq, mq, dq, ?_, ?_, ?_, ?_, ?_⟩⟩
      · rw [HV.out, HPP.out]; rfl
      · rw [HV.out]; exact HES.out
      · exact ((HO4.out.setc _ (by have := HWC.out; have := HS1.out; omega) _).setc _ (by have := HWC.out; have := HS1.out; omega) _).mono (by have := HWC.out; have := HS1.out; omega)
      · rw [HV.out, HPP.out]; exact HKK.out
      · have h1 := ((HOQ.out.setc w.heap.size (by have h1 := HWC.out; have h2 := HS1.out; show _ < w3.heap.size; omega) (h6Of xs).cs).setc (w.heap.size + 1) (by have h1 := HWC.out; have h2 := HS1.out; show _ < w3.heap.size; omega) [.slice a2 n2 c2, .int .u8 PP]).mono (base' := w.heap.size) (by have h1 := HWC.out; have h2 := HS1.out; show _ ≤ w3.heap.size; omega)
        have e1 : bdB xs = ys.drop T := by unfold bdB; rw [HYS.out, HV.out, HTT.out, Int.toNat_natCast]
        rw [e1]
        exact h1
    · obtain ⟨hb2, rfl⟩ := hpc.none_ hv0
      obtain ⟨E2, hE2⟩ : ∃ v, V.1 = v := ⟨_, rfl⟩
      rw [hE2] at HBE hv0 ⊢
      have HE := HBE
      obtain ⟨w3, hw3⟩ : ∃ y, w2.alloc (.cells #[.slice none 0 0, .int .u8 0] 46) = y := ⟨_, rfl⟩
      have hb3 : Below wC.heap.size wC w3 := by rw [← hw3]; exact hb2.alloc hb2.size _
      have HBZ : Hid (Below w.heap.size w w3) := (HFC.out.next hb3).here.1.1
      have HTZ : Hid (w3.there w.heap.size 0 37 ∧ w3.there (w.heap.size + 1) 0 2) := (HFC.out.next hb3).here.1.2
      have HW3 := Lib.hid hw3
      have hEb : (E2 != 0) = true := by simpa using hv0
      clear hb2 hb3 hw3 hpc h2c h3c
      go_upto_region 9 with fail
      rw [HW3.out]
      have HSZ : Hid (Below w.heap.size w (w3.setCells w.heap.size 0 h60.cs) ∧ (w3.setCells w.heap.size 0 h60.cs).there (w.heap.size + 1) 0 2 ∧ (w3.setCells w.heap.size 0 h60.cs).rangeAt w.heap.size 0 h60.cs) :=
        ⟨Below.setCells HBZ.out _ (Nat.le_refl _) _ _, there_set HTZ.out.2 _ (by omega), World.rangeAt_setCells_same _ _ _ _ HTZ.out.1⟩

      go_wp2_with (first
        | (refine wpList_build_run (cells := h60.cs.toArray) rfl 26 _ rfl ?_ ?_; · exact built60)
        | (refine stN (fun w' => Hid (Below w.heap.size w w' ∧ w'.there (w.heap.size + 1) 0 2 ∧ w'.rangeAt w.heap.size 0 h60.cs)) 26 (.tmp 2) (.tmp 45) rfl rfl w.heap.size 0 h60.cs rfl rfl HTZ.out.1 inf6 (H6.one h60) HSZ ?_; intro wy HY)
        | (refine stC 46 (.tmp 3) (.tmp 46) rfl rfl (w.heap.size + 1) 0 [.slice none 0 0, .int .u8 0] rfl rfl HY.out.2.1 infC2 (cch_one _ _ _ _) ?_))
      refine bodyPost_ret (R := BodyS w xs) (ret_mid4 Try.results29 _ _ _ _ h60.cs _ rfl (World.rangeAt_setCells_apart HY.out.2.2 _ _ _ (.inl (by omega))) Try.underlying26 rfl inf6 _ _ [.slice none 0 0, .int .u8 0] _ rfl (World.rangeAt_setCells_same _ _ _ _ HY.out.2.1) Try.underlying46 rfl infC2 _ _ rfl rfl) rfl ⟨Below.setCells HY.out.1 _ (Nat.le_succ _) _ _, .inl ⟨by rw [HE.out]; exact hv0, by rw [HE.out]; rfl⟩⟩
  · have HE : Hid (bdE xs = E) := by show _ = _; unfold bdE; rw [HPE.out, if_pos hE0]
    have hEb : (E != 0) = true := by simpa using hE0
    have HBZ : Hid (Below w.heap.size w wC) := HFC.out.here.1.1
    have HTZ : Hid (wC.there w.heap.size 0 37 ∧ wC.there (w.heap.size + 1) 0 2) := HFC.out.here.1.2
    have HSZ : Hid (Below w.heap.size w (wC.setCells w.heap.size 0 h60.cs) ∧ (wC.setCells w.heap.size 0 h60.cs).there (w.heap.size + 1) 0 2 ∧ (wC.setCells w.heap.size 0 h60.cs).rangeAt w.heap.size 0 h60.cs) :=
      ⟨Below.setCells HBZ.out _ (Nat.le_refl _) _ _, there_set HTZ.out.2 _ (by omega), World.rangeAt_setCells_same _ _ _ _ HTZ.out.1⟩

    go_wp2_with (first
      | (refine wpList_build_run (cells := h60.cs.toArray) rfl 26 _ rfl ?_ ?_; · exact built60)
      | (refine stN (fun w' => Hid (Below w.heap.size w w' ∧ w'.there (w.heap.size + 1) 0 2 ∧ w'.rangeAt w.heap.size 0 h60.cs)) 26 (.tmp 2) (.tmp 18) rfl rfl w.heap.size 0 h60.cs rfl rfl HTZ.out.1 inf6 (H6.one h60) HSZ ?_; intro wy HY)
      | (refine stC 46 (.tmp 3) (.tmp 19) rfl rfl (w.heap.size + 1) 0 [.slice none 0 0, .int .u8 0] rfl rfl HY.out.2.1 infC2 (cch_one _ _ _ _) ?_))
    refine bodyPost_ret (R := BodyS w xs) (ret_mid4 Try.results29 _ _ _ _ h60.cs _ rfl (World.rangeAt_setCells_apart HY.out.2.2 _ _ _ (.inl (by omega))) Try.underlying26 rfl inf6 _ _ [.slice none 0 0, .int .u8 0] _ rfl (World.rangeAt_setCells_same _ _ _ _ HY.out.2.1) Try.underlying46 rfl infC2 _ _ rfl rfl) rfl ⟨Below.setCells HY.out.1 _ (Nat.le_succ _) _ _, .inl ⟨by rw [HE.out]; exact hE0, by rw [HE.out]; rfl⟩⟩
end Go.Proofs.Ythipnkaghddbhaa

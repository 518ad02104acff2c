/-
  The contract of Parse. Conditions: a text of at most 1000000 bytes; the library's variables hold what they should.
-/
import Derived.Test.YtbnfmiopgjmppaaDoorAdFrom
namespace Go.Proofs.YtbnfmiopgjmppaaDoor
open Go.RowKit

theorem parse6_lt {l : Tx} {gs : List Nat} (h : parse6 l = some gs) : ∀ g ∈ gs, g < 65536 := by
  unfold parse6 at h
  split at h
  · cases ha : gr0 (Lib.cut l [58, 58]).1 with
    | none => rw [ha] at h; cases h
    | some a =>
      cases hb : gr0 (Lib.cut l [58, 58]).2.1 with
      | none => rw [ha, hb] at h; cases h
      | some b =>
        rw [ha, hb] at h
        simp only at h
        split at h
        · rw [← Option.some.inj h]
          intro g hg
          rcases List.mem_append.1 hg with hg | hg
          · exact gr0_lt ha g hg
          · rcases List.mem_append.1 hg with hg | hg
            · have := List.eq_of_mem_replicate hg; omega
            · exact gr0_lt hb g hg
        · cases h
  · cases ha : gr0 l with
    | none => rw [ha] at h; cases h
    | some a =>
      rw [ha] at h
      simp only at h
      split at h
      · rw [← Option.some.inj h]; exact gr0_lt ha
      · cases h
theorem allO_dec : ∀ (ps : List Tx) (r : List Nat), allO decO ps = some r → ∀ v ∈ r, v < 256
  | [], r, h, v, hv => by simp [allO] at h; subst h; cases hv
  | p :: ps, r, h, v, hv => by
    rw [allO] at h
    cases hd : decO p with
    | none => rw [hd] at h; cases h
    | some u =>
      rw [hd] at h
      cases ha : allO decO ps with
      | none => rw [ha] at h; cases h
      | some q =>
        rw [ha] at h
        simp at h
        subst h
        rcases List.mem_cons.1 hv with rfl | hv
        · exact ((decO_iff p v).1 hd).1
        · exact allO_dec ps q ha v hv
theorem parse4_lt {l : Tx} {ds : List Nat} (h : parse4 l = some ds) : (∀ v ∈ ds, v < 256) ∧ ds.length = 4 := by
  refine ⟨?_, (four_yes h).2⟩
  unfold parse4 at h
  split at h
  · exact allO_dec _ _ h
  · cases h
theorem byt_cast {ds : List Nat} (h : ∀ v ∈ ds, v < 256) : Byt (ds.map fun v : Nat => (v : Int)) := by
  intro x hx
  obtain ⟨v, hv, rfl⟩ := List.mem_map.1 hx
  have := h v hv
  omega
theorem byt_zs (k : Nat) : Byt (zs k) := by
  intro x hx
  have := List.eq_of_mem_replicate hx
  omega
theorem byt_fb {ds : List Nat} (h : ∀ v ∈ ds, v < 256) : Byt (fbI ds) := (byt_cast h).append (byt_zs 12)
theorem byt_gb : ∀ {gs : List Nat}, (∀ v ∈ gs, v < 65536) → Byt (gbI gs)
  | [], _ => by intro x hx; simp [gbI, gby] at hx
  | v :: r, h => by
    rw [gbI_cons]
    refine Byt.append ?_ (byt_gb (fun u hu => h u (by simp [hu])))
    have := h v (by simp)
    intro x hx
    simp at hx
    omega
theorem fb_len {ds : List Nat} (h : ds.length = 4) : (fbI ds).length = 16 := by simp [fbI, h, zs]
set_option maxRecDepth 100000 in
set_option maxHeartbeats 4000000 in
theorem aParse_any (l : Tx) (w : World) (hg : Gl w) (hl : l.length ≤ 1000000) : Calls Tryd.prog 21 #[.string ⟨l.toArray⟩] w (PaR w l) := by
  have HG := Lib.hid hg
  have HL := Lib.hid hl
  clear hg hl
  go_enter Tryd.func21, Tryd.ntmps21
  go_wp2_with fail
  obtain ⟨w0, hw0⟩ : ∃ x, (w.alloc (.cells (adl false (zs 16)).toArray 24)) = x := ⟨_, rfl⟩
  have HA0 : Hid (Aa w0 w.heap.size false (zs 16)) := by rw [← hw0]; exact Aa.at_ rfl _ _
  have HB0 : Hid (Below w.heap.size w w0) := by rw [← hw0]; exact bel1 _ _
  change Calls Tryd.prog 43 #[.string ⟨l.toArray⟩] (w.alloc (.cells (adl false (zs 16)).toArray 24)) _
  rw [hw0]
  clear hw0
  refine (aReadFour_any l _ (HG.out.below HB0.out) HL.out).mono ?_
  rintro e w1 ⟨a, n, cap, rfl, hb1, hr⟩
  have HA1 := Lib.hid (HA0.out.below hb1)
  have HB1 := Lib.hid (HB0.out.trans (hb1.mono HB0.out.size))
  cases hp4 : parse4 l with
  | some ds =>
    obtain ⟨hd1, hd2⟩ := parse4_lt hp4
    obtain ⟨hn, hrd, _⟩ := hr ds hp4
    have hn4 : n = 4 := by rw [hn, hd2]
    subst hn4
    have HRD := Lib.hid hrd
    have H4 := Lib.hid hp4
    have HLD := Lib.hid hd2
    have HF : Hid (∀ w', Below w.heap.size w w' → PaR w l (.returned (.tuple #[.agg (adl false (fbI ds)).toArray, .int .i64 0])) w') := fun w' hb => ⟨hb, .inr (.inl ⟨parse_one hp4, ds, hp4, rfl⟩)⟩
    clear hr hb1 hp4 hn hrd hd1 hd2 HA0 HB0
    go_wp2_with fail
    refine (aFrom_any (ds.map fun v : Nat => (v : Int)) a 4 cap _ (by rw [List.length_map]; exact HLD.out) HRD.out (by omega)).mono ?_
    rintro e w2 ⟨hb2, hk⟩
    have hk2 := (hk.resolve_right (fun h => h.1 (.inl (by rw [List.length_map]; exact HLD.out)))).2
    rw [List.length_map, HLD.out] at hk2
    have hk3 : e = .returned (.tuple #[.agg (adl false (fbI ds)).toArray, .int .i64 0]) := hk2
    subst hk3
    have HA2 := Lib.hid (HA1.out.below hb2)
    have HB2 := Lib.hid (HB1.out.trans (hb2.mono HB1.out.size))
    have HY : Hid ((fbI ds).length = 16) := fb_len HLD.out
    clear hb2 hk hk2
    go_wp2_with (refine stA (.tmp 2) (.tmp 16) rfl rfl w.heap.size 0 false (fbI ds) rfl rfl HY.out (by with_reducible exact HA2.out.there (zs_length 16)) ?_)
    refine bodyPost_ret (ret_midT rfl _ _ w.heap.size 0 (adl false (fbI ds)) _ rfl (World.rangeAt_setCells_same _ _ _ _ (by have := HA2.out.there (zs_length 16); rwa [← adl_len false (fbI ds) HY.out] at this)) Tryd.underlying24 rfl (infA.trans (by rw [adl_len _ _ HY.out]))) rfl ?_
    exact HF.out _ (Below.setCells HB2.out _ (Nat.le_refl _) _ _)
  | none =>
    have H4 := Lib.hid hp4
    clear hr hb1 hp4 HA0 HB0
    go_wp2_with fail
    refine (aReadSix_any l _ (HG.out.below HB1.out) HL.out).mono ?_
    rintro e w2 ⟨a2, n2, cap2, rfl, hb2, hr⟩
    have HA2 := Lib.hid (HA1.out.below hb2)
    have HB2 := Lib.hid (HB1.out.trans (hb2.mono HB1.out.size))
    cases hp6 : parse6 l with
    | some gs =>
      have hg8 := gbI_fit hp6
      rw [hp6] at hr
      obtain ⟨hn, hrd, _⟩ := hr (gby gs) rfl
      have hgl : (gbI gs).length = 16 := by rw [gb_len, hg8]
      have hn16 : n2 = 16 := by rw [hn]; simpa [gbI] using hgl
      subst hn16
      have HRD : Hid (Rd w2 a2 (gbI gs)) := hrd
      have HLD := Lib.hid hgl
      have HF : Hid (∀ w', Below w.heap.size w w' → PaR w l (.returned (.tuple #[.agg (adl true (gbI gs)).toArray, .int .i64 0])) w') := fun w' hb => ⟨hb, .inl ⟨gs, hp6, rfl⟩⟩
      simp only [Option.map_some, Option.isSome_some]
      clear hr hb2 hn hrd hgl hp6 hg8 HA1 HB1
      go_wp2_with fail
      refine (aFrom_any (gbI gs) a2 16 cap2 _ HLD.out HRD.out (by omega)).mono ?_
      rintro e w3 ⟨hb3, hk⟩
      have hk2 := (hk.resolve_right (fun h => h.1 (.inr HLD.out))).2
      rw [HLD.out] at hk2
      have e0 : gbI gs ++ zs (16 - 16) = gbI gs := by simp [zs]
      rw [e0] at hk2
      have hk3 : e = .returned (.tuple #[.agg (adl true (gbI gs)).toArray, .int .i64 0]) := hk2
      subst hk3
      have HA3 := Lib.hid (HA2.out.below hb3)
      have HB3 := Lib.hid (HB2.out.trans (hb3.mono HB2.out.size))
      clear hb3 hk hk2 e0
      go_wp2_with (refine stA (.tmp 2) (.tmp 26) rfl rfl w.heap.size 0 true (gbI gs) rfl rfl HLD.out (by with_reducible exact HA3.out.there (zs_length 16)) ?_)
      refine bodyPost_ret (ret_midT rfl _ _ w.heap.size 0 (adl true (gbI gs)) _ rfl (World.rangeAt_setCells_same _ _ _ _ (by have := HA3.out.there (zs_length 16); rwa [← adl_len true (gbI gs) HLD.out] at this)) Tryd.underlying24 rfl (infA.trans (by rw [adl_len _ _ HLD.out]))) rfl ?_
      exact HF.out _ (Below.setCells HB3.out _ (Nat.le_refl _) _ _)
    | none =>
      have HF : Hid (∀ w', Below w.heap.size w w' → PaR w l (.returned (.tuple #[.agg (adl false (zs 16)).toArray, .int .i64 40])) w') := fun w' hb => ⟨hb, .inr (.inr ⟨hp6, H4.out, rfl⟩)⟩
      simp only [Option.map_none, Option.isSome_none]
      clear hr hb2 hp6 HA1 HB1
      go_wp2_with (first
        | (refine wpList_build_run (cells := (adl false (zs 16)).toArray) rfl 24 _ rfl ?_ ?_; · exact builtA0)
        | (refine stA (.tmp 2) (.tmp 28) rfl rfl w.heap.size 0 false (zs 16) rfl rfl (zs_length 16) (by with_reducible exact HA2.out.there (zs_length 16)) ?_))
      refine bodyPost_ret (ret_midT rfl _ _ w.heap.size 0 (adl false (zs 16)) _ rfl (World.rangeAt_setCells_same _ _ _ _ (by have := HA2.out.there (zs_length 16); rwa [← adl_len false (zs 16) (zs_length 16)] at this)) Tryd.underlying24 rfl (infA.trans (by rw [adl_len _ _ (zs_length 16)]))) rfl ?_
      exact HF.out _ (Below.setCells HB2.out _ (Nat.le_refl _) _ _)
end Go.Proofs.YtbnfmiopgjmppaaDoor

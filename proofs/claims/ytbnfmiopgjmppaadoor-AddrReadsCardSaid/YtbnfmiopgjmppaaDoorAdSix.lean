/-
  The contracts of sixText, of an address' Text, and of a prefix's. Conditions: the library's variables hold what they should; sixteen bytes. (Made by gen_adsix.py.)
-/
import Derived.Test.YtbnfmiopgjmppaaDoorAdLz
namespace Go.Proofs.YtbnfmiopgjmppaaDoor
open Go.RowKit

theorem arrG : Tryd.prog.arrayLen 66 = 8 := by kernel_rfl
theorem elmG : Tryd.prog.elem 66 = 65 := by kernel_rfl
theorem undG : Tryd.prog.underlying 66 = some (.array (Tryd.prog.arrayLen 66) (Tryd.prog.elem 66)) := by rw [arrG, elmG]; exact Tryd.underlying66
theorem slG_all (g : Nat) (w : World) : (Instr.sliceAt 66 (.pointer (some ⟨g, 0, none⟩)) none none none).run Tryd.prog w = .ok (.slice (some ⟨g, 0, none⟩) 8 8) w := by
  rw [run_sliceAt_array_all w 66 _ undG, elmG, arrG]
  simp only [Tryd.sizeOf65, Result.andThen_ok, slicedAt]
  rw [if_neg (by omega), Addr.add_lit]
theorem slG_to (g p : Nat) (hp : p ≤ 8) (w : World) : (Instr.sliceAt 66 (.pointer (some ⟨g, 0, none⟩)) none (some (.int .i64 (p : Int))) none).run Tryd.prog w = .ok (.slice (some ⟨g, 0, none⟩) p 8) w := by
  rw [run_sliceAt_array_h w 66 _ undG .i64 (p : Int) (by omega) (by rw [arrG]; omega), elmG, arrG]
  simp only [Tryd.sizeOf65, Result.andThen_ok, slicedAt, Int.toNat_natCast]
  rw [if_neg (by omega), Addr.add_lit]
  simp
/-- Where the later groups begin. -/
def offG (p : Nat) : Nat := if 8 = p then 0 else p
theorem slG_from (g p : Nat) (hp : p ≤ 8) (w : World) : (Instr.sliceAt 66 (.pointer (some ⟨g, 0, none⟩)) (some (.int .i64 (p : Int))) none none).run Tryd.prog w = .ok (.slice (some ⟨g, offG p, none⟩) (8 - p) (8 - p)) w := by
  rw [run_sliceAt_array_l w 66 _ undG .i64 (p : Int) (by omega) (by rw [arrG]; omega), elmG, arrG]
  simp only [Tryd.sizeOf65, Result.andThen_ok, slicedAt, Int.toNat_natCast]
  unfold offG
  split
  · rfl
  · rw [Addr.add_lit]; simp
theorem rdk_from {w : World} {b : Nat} {t : TypeId} {gs : List Nat} (h : Bkv w b t (gv gs)) (hl : gs.length = 8) (p : Nat) (hp : p ≤ 8) : RdK .u16 w (some ⟨b, offG p, none⟩) ((gs.drop p).map fun v : Nat => (v : Int)) := by
  intro hne
  have hp8 : ¬ 8 = p := by
    rintro rfl
    apply hne
    rw [List.drop_eq_nil_of_le (by omega)]; rfl
  refine ⟨b, offG p, rfl, fun i hi => ?_⟩
  simp at hi
  unfold offG
  rw [if_neg hp8]
  have hx := List.getElem?_eq_getElem (l := gs) (i := p + i) (by omega)
  rw [h.cell (v := .int .u16 ((gs[p + i]'(by omega) : Nat) : Int)) (by simp [gv, hx])]
  simp [hx]
theorem rdk_to {w : World} {b : Nat} {t : TypeId} {gs : List Nat} (h : Bkv w b t (gv gs)) (p : Nat) : RdK .u16 w (some ⟨b, 0, none⟩) ((gs.take p).map fun v : Nat => (v : Int)) := by
  intro hne
  refine ⟨b, 0, rfl, fun i hi => ?_⟩
  simp at hi
  have hx := List.getElem?_eq_getElem (l := gs) (i := i) (by omega)
  rw [Nat.zero_add, h.cell (v := .int .u16 ((gs[i]'(by omega) : Nat) : Int)) (by simp [gv, hx])]
  have hx2 : (gs.take p)[i]? = some (gs[i]'(by omega)) := by rw [List.getElem?_take, if_pos (by omega), hx]
  rw [List.getD_eq_getElem?_getD, List.getElem?_map, hx2]
  rfl
theorem grT_le (vs : List Nat) : (grT vs).length ≤ vs.length * 5 := by
  have h := joinT_le 58 4 (vs.map hxT) (fun x hx => by obtain ⟨v, _, rfl⟩ := List.mem_map.1 hx; exact hxT_len v)
  simpa [grT] using h
theorem mem_of_take {α : Type} {l : List α} {n : Nat} {P : α → Prop} (h : ∀ x ∈ l, P x) : ∀ x ∈ l.take n, P x := fun x hx => h x (List.mem_of_mem_take hx)
theorem mem_of_drop {α : Type} {l : List α} {n : Nat} {P : α → Prop} (h : ∀ x ∈ l, P x) : ∀ x ∈ l.drop n, P x := fun x hx => h x (List.mem_of_mem_drop hx)
theorem lz_bounds {gs : List Nat} (hl : gs.length = 8) : (lz gs 8).1 ≤ (lz gs 8).2 ∧ (lz gs 8).2 ≤ 8 := by
  obtain ⟨h1, h2⟩ := lz_bst gs 8 (Nat.le_refl _)
  refine ⟨h1, ?_⟩
  rcases h2 with ⟨a, b⟩ | ⟨a, b, c, d⟩
  · have : ∀ s, s ≤ 8 → (lz gs s).2 ≤ 8 := by
      intro s
      induction s with
      | zero => intro _; simp [lz]
      | succ s ih =>
        intro hs
        rw [lz]
        split
        · have := zr_le gs s (by omega); simp; omega
        · exact ih (by omega)
    exact this 8 (Nat.le_refl _)
  · have := zr_le gs (lz gs 8).1 (by omega)
    omega

set_option maxRecDepth 100000 in
set_option maxHeartbeats 4000000 in
theorem aSixText_any (gs : List Nat) (w : World) (hg : Gl w) (hl : gs.length = 8) (hb : ∀ g ∈ gs, g < 65536) : Calls Tryd.prog 36 #[.agg (gv gs).toArray] w (GivesT w (text6 gs)) := by
  have HG := Lib.hid hg
  have HL := Lib.hid hl
  have HBy := Lib.hid hb
  obtain ⟨hFT, hT8⟩ := lz_bounds hl
  obtain ⟨F, hF⟩ : ∃ F, (lz gs 8).1 = F := ⟨_, rfl⟩
  obtain ⟨T, hT⟩ : ∃ T, (lz gs 8).2 = T := ⟨_, rfl⟩
  have hTX : text6 gs = if T - F < 2 then grT gs else grT (gs.take F) ++ 58 :: 58 :: grT (gs.drop T) := by unfold text6; rw [hF, hT]
  rw [hF, hT] at hFT
  rw [hT] at hT8
  have HF := Lib.hid hF
  have HT := Lib.hid hT
  have HTO := Lib.hid hTX
  clear hg hl hb hF hT hTX
  have hF8 : F ≤ 8 := by omega
  go_enter Tryd.func36, Tryd.ntmps36
  go_wp2_with (refine wpList_load_mid rfl _ _ rfl _ 0 rfl (gv gs) _ (Bkv.new _ _ _).range Tryd.underlying66 rfl (by rw [gv_len, HL.out]; exact infG) ?_)
  have HBK0 : Hid (Bkv (w.alloc (.cells (gv gs).toArray 66)) w.heap.size 66 (gv gs)) := Bkv.new _ _ _
  have HBE0 : Hid (Below w.heap.size w (w.alloc (.cells (gv gs).toArray 66))) := bel1 _ _
  obtain ⟨w1, hw1⟩ : ∃ x, w.alloc (.cells (gv gs).toArray 66) = x := ⟨_, rfl⟩
  rw [hw1] at HBK0 HBE0 ⊢
  clear hw1
  obtain ⟨g, hgg⟩ : ∃ g, w.heap.size = g := ⟨_, rfl⟩
  rw [hgg] at HBK0 ⊢
  clear hgg
  refine (aLongest_any gs _ HL.out HBy.out).mono ?_
  rintro e wl ⟨rfl, hbl⟩
  have HBK : Hid (Bkv wl g 66 (gv gs)) := HBK0.out.below hbl
  have HBE : Hid (Below w.heap.size w wl) := HBE0.out.trans (hbl.mono HBE0.out.size)
  rw [HF.out, HT.out]
  clear hbl HBK0 HBE0
  have kw : IntKind.i64.wrap ((T : Int) - (F : Int)) = (T : Int) - F := by rw [IntKind.wrap_i64]; omega
  by_cases h2 : T - F < 2
  · have HTX : Hid (text6 gs = grT gs) := by show _ = _; rw [HTO.out, if_pos h2]
    have c1 : (T : Int) - F < 2 := by omega
    have hsl := slG_all g
    go_wp2_with fail
    refine (aGroupsText_any (some ⟨g, 0, none⟩) 8 8 gs _ (HG.out.below HBE.out) HL.out (by omega) HBy.out (by have h := rdk_to HBK.out 8; rw [List.take_of_length_le (by rw [HL.out]; exact Nat.le_refl _)] at h; exact h)).mono ?_
    rintro e w2 ⟨rfl, hb2⟩
    have HB2 := Lib.hid (HBE.out.trans (hb2.mono HBE.out.size))
    clear hb2
    go_wp2_with fail
    go_ret
    exact ⟨by rw [HTX.out]; rfl, HB2.out⟩
  · have hTX2 : text6 gs = grT (gs.take F) ++ 58 :: 58 :: grT (gs.drop T) := by rw [HTO.out, if_neg h2]
    have c1 : ¬ ((T : Int) - F < 2) := by omega
    obtain ⟨X1, hX1⟩ : ∃ X1, grT (gs.take F) = X1 := ⟨_, rfl⟩
    obtain ⟨X2, hX2⟩ : ∃ X2, grT (gs.drop T) = X2 := ⟨_, rfl⟩
    have l1 := grT_le (gs.take F)
    have l2 := grT_le (gs.drop T)
    have l3 := HL.out
    have l4 : (gs.take F).length ≤ 8 := by rw [List.length_take]; omega
    have l5 : (gs.drop T).length ≤ 8 := by rw [List.length_drop]; omega
    rw [hX1] at l1
    rw [hX2] at l2
    rw [hX1, hX2] at hTX2
    obtain ⟨X3, hX3⟩ : ∃ X3, X1 ++ [58, 58] = X3 := ⟨_, rfl⟩
    obtain ⟨X4, hX4⟩ : ∃ X4, X3 ++ X2 = X4 := ⟨_, rfl⟩
    have l6 : X3.length = X1.length + 2 := by rw [← hX3]; simp
    have HTX : Hid (text6 gs = X4) := by show _ = _; rw [hTX2, ← hX4, ← hX3]; simp
    have HN1 : Hid (¬ 9223372036854775807 < X1.length + 2) := by show ¬ _; omega
    have HN2 : Hid (¬ 9223372036854775807 < X3.length + X2.length) := by show ¬ _; omega
    have HA1 : Hid ((⟨X1.toArray⟩ : ByteArray) ++ ⟨#[58, 58]⟩ = ⟨X3.toArray⟩) := by show _ = _; rw [← hX3]; exact ba_app X1 [58, 58]
    have HA2 : Hid ((⟨X3.toArray⟩ : ByteArray) ++ ⟨X2.toArray⟩ = ⟨X4.toArray⟩) := by show _ = _; rw [← hX4]; exact ba_app X3 X2
    clear hX3 hX4 l6
    have HX1 := Lib.hid hX1
    have HX2 := Lib.hid hX2
    clear hTX2 hX1 hX2 l1 l2 l3 l4 l5
    go_wp2_with fail
    refine wp_region_held_drew (S := fun w' => Bkv w' g 66 (gv gs)) (by kernel_rfl) HBK.out (fun hS => ?_)
    refine tk 0 16 (.int .i64 (F : Int)) rfl rfl (by kernel_rfl) (by kernel_rfl) (by kernel_rfl) (fun _ _ _ h => h) (Or.inl ⟨by rfl, fun w' h' => ?_⟩) hS ?_
    · go_simp
    try simp only [Act.put, List.setIfInBounds_toArray, List.set_cons_zero, List.set_cons_succ]
    refine tk 1 17 (.slice (some ⟨g, 0, none⟩) F 8) rfl rfl (by kernel_rfl) (by kernel_rfl) (by kernel_rfl) (fun _ _ _ h => h) (Or.inl ⟨by rfl, fun w' h' => ?_⟩) hS ?_
    · have h1 := slG_to g F hF8 w'
      go_simp
    try simp only [Act.put, List.setIfInBounds_toArray, List.set_cons_zero, List.set_cons_succ]
    refine tk 4 20 (.int .i64 (T : Int)) rfl rfl (by kernel_rfl) (by kernel_rfl) (by kernel_rfl) (fun _ _ _ h => h) (Or.inl ⟨by rfl, fun w' h' => ?_⟩) hS ?_
    · go_simp
    try simp only [Act.put, List.setIfInBounds_toArray, List.set_cons_zero, List.set_cons_succ]
    refine tk 5 21 (.slice (some ⟨g, offG T, none⟩) (8 - T) (8 - T)) rfl rfl (by kernel_rfl) (by kernel_rfl) (by kernel_rfl) (fun _ _ _ h => h) (Or.inl ⟨by rfl, fun w' h' => ?_⟩) hS ?_
    · have h1 := slG_from g T hT8 w'
      go_simp
    try simp only [Act.put, List.setIfInBounds_toArray, List.set_cons_zero, List.set_cons_succ]
    refine wpAnyH_ready (rs := [2]) (by kernel_rfl) (by simp) (AllReadyH.cons rfl (fun K hK => ?_) AllReadyH.nil)
    rw [if_pos (by rfl)]
    go_wp2_with fail
    refine (aGroupsText_any (some ⟨g, 0, none⟩) F 8 (gs.take F) _ (HG.out.below HBE.out.drew) (by rw [List.length_take, HL.out]; omega) (by omega) (mem_of_take HBy.out) (rdk_to HBK.out.drew F)).mono ?_
    rintro e w2 ⟨rfl, hb2⟩
    have HB2 := Lib.hid (HBE.out.trans ((undrew hb2).mono HBE.out.size))
    have HK2 : Hid (Bkv w2 g 66 (gv gs)) := HBK.out.drew.below hb2
    rw [show joinT 58 ((gs.take F).map hxT) = X1 from HX1.out]
    clear hb2
    clear hS
    refine hK.out _ _ (HK2.out) (fun hS => ?_)
    clear hK K
    try simp only [Act.put, List.setIfInBounds_toArray, List.set_cons_zero, List.set_cons_succ]
    refine tk 3 19 (.string ⟨X3.toArray⟩) rfl rfl (by kernel_rfl) (by kernel_rfl) (by kernel_rfl) (fun _ _ _ h => h) (Or.inl ⟨by rfl, fun w' h' => ?_⟩) hS ?_
    · have ea := HA1.out
      (go_simp; have := HN1.out; omega)
    try simp only [Act.put, List.setIfInBounds_toArray, List.set_cons_zero, List.set_cons_succ]
    refine wpAnyH_ready (rs := [6]) (by kernel_rfl) (by simp) (AllReadyH.cons rfl (fun K hK => ?_) AllReadyH.nil)
    rw [if_pos (by rfl)]
    go_wp2_with fail
    refine (aGroupsText_any (some ⟨g, offG T, none⟩) (8 - T) (8 - T) (gs.drop T) _ (HG.out.below HB2.out) (by rw [List.length_drop, HL.out]) (by omega) (mem_of_drop HBy.out) (rdk_from HK2.out HL.out T hT8)).mono ?_
    rintro e w3 ⟨rfl, hb3⟩
    have HB3 := Lib.hid (HB2.out.trans (hb3.mono HB2.out.size))
    have HK3 : Hid (Bkv w3 g 66 (gv gs)) := HK2.out.below hb3
    rw [show joinT 58 ((gs.drop T).map hxT) = X2 from HX2.out]
    clear hb3
    clear hS
    refine hK.out _ _ (HK3.out) (fun hS => ?_)
    clear hK K
    try simp only [Act.put, List.setIfInBounds_toArray, List.set_cons_zero, List.set_cons_succ]
    refine tk 7 23 (.string ⟨X4.toArray⟩) rfl rfl (by kernel_rfl) (by kernel_rfl) (by kernel_rfl) (fun _ _ _ h => h) (Or.inl ⟨by rfl, fun w' h' => ?_⟩) hS ?_
    · have ea := HA2.out
      (go_simp; have := HN2.out; omega)
    try simp only [Act.put, List.setIfInBounds_toArray, List.set_cons_zero, List.set_cons_succ]
    refine tk 8 2 (.string ⟨X4.toArray⟩) rfl rfl (by kernel_rfl) (by kernel_rfl) (by kernel_rfl) (fun _ _ _ h => h) (Or.inl ⟨by rfl, fun w' h' => ?_⟩) hS ?_
    · go_simp
    refine wpAnyH_done (by kernel_rfl) ?_ _
    clear hS
    go_wp2_with fail
    go_ret
    exact ⟨by rw [HTX.out]; rfl, HB3.out⟩

/-- The numbers of bytes. -/
def nb (xs : List Int) : List Nat := xs.map Int.toNat
theorem nb_cast {xs : List Int} (h : Byt xs) : (nb xs).map (fun v : Nat => (v : Int)) = xs := by
  unfold nb
  rw [List.map_map]
  conv => rhs; rw [← List.map_id xs]
  apply List.map_congr_left
  intro x hx
  have := h x hx
  simp
  omega
theorem nb_lt {xs : List Int} (h : Byt xs) : ∀ v ∈ nb xs, v < 256 := by
  intro v hv
  obtain ⟨x, hx, rfl⟩ := List.mem_map.1 hv
  have := h x hx
  omega
/-- What an address' Text answers. -/
def txP (s : Bool) (xs : List Int) : Tx := if rgt s xs = false then [] else if s = true then text6 (gN xs) else joinT 46 ((nb (xs.take 4)).map dg)
set_option maxRecDepth 100000 in
set_option maxHeartbeats 4000000 in
theorem aText_any (s : Bool) (xs : List Int) (w : World) (hg : Gl w) (hl : xs.length = 16) (hb : Byt xs) : Calls Tryd.prog 16 #[.agg (adl s xs).toArray] w (GivesT w (txP s xs)) := by
  have HG := Lib.hid hg
  have HL := Lib.hid hl
  have HBy := Lib.hid hb
  clear hg hl hb
  go_enter Tryd.func16, Tryd.ntmps16
  go_wp2_with (refine ldA _ rfl rfl _ _ rfl s xs HL.out (adl_range w s xs _) ?_)
  have HR0 : Hid (World.rangeAt (w.alloc (.cells (adl s xs).toArray 24)) w.heap.size 0 (adl s xs)) := adl_range w s xs _
  have HBE0 : Hid (Below w.heap.size w (w.alloc (.cells (adl s xs).toArray 24))) := bel1 _ _
  obtain ⟨w0, hw0⟩ : ∃ x, w.alloc (.cells (adl s xs).toArray 24) = x := ⟨_, rfl⟩
  rw [hw0] at HR0 HBE0 ⊢
  clear hw0
  obtain ⟨g, hgg⟩ : ∃ g, w.heap.size = g := ⟨_, rfl⟩
  rw [hgg] at HR0 ⊢
  clear hgg
  refine (aRight_any s xs _ HL.out HBy.out).mono ?_
  rintro e w1 ⟨rfl, hb1⟩
  have HR := Lib.hid (range_kept hb1 HR0.out)
  have HBE := Lib.hid (HBE0.out.trans (hb1.mono HBE0.out.size))
  clear hb1 HR0 HBE0
  obtain ⟨r, hr⟩ : ∃ r, rgt s xs = r := ⟨_, rfl⟩
  rw [hr]
  have HRR := Lib.hid hr
  clear hr
  cases r
  · have HT : Hid (txP s xs = []) := by show _ = _; unfold txP; rw [if_pos HRR.out]
    go_wp2_with fail
    go_ret
    exact ⟨by rw [HT.out]; rfl, HBE.out⟩
  · have hs := adl_six HR.out
    cases s
    · have HT : Hid (txP false xs = joinT 46 ((nb (xs.take 4)).map dg)) := by show _ = _; unfold txP; rw [if_neg (by rw [HRR.out]; decide), if_neg (by decide)]
      go_wp2_with (refine ldA _ rfl rfl _ _ rfl false xs HL.out (by with_reducible exact HR.out) ?_)
      refine (aBytes_any false xs _ HL.out).mono ?_
      rintro e w2 ⟨a, n, cap, rfl, ho, hb2⟩
      have HO := Lib.hid ho
      have HB2 := Lib.hid (HBE.out.trans (hb2.mono HBE.out.size))
      have hn : n = 4 := by have h := ho.len; simp [byA, HL.out] at h; omega
      subst hn
      clear ho hb2
      go_wp2_with fail
      refine (aFourText_any a 4 cap (nb (xs.take 4)) _ (HG.out.below HB2.out) (by simp [nb, HL.out]) (by omega) (nb_lt (HBy.out.take 4)) (by rw [nb_cast (HBy.out.take 4)]; exact HO.out.rd)).mono ?_
      rintro e w3 ⟨rfl, hb3⟩
      have HB3 := Lib.hid (HB2.out.trans (hb3.mono HB2.out.size))
      clear hb3
      go_wp2_with fail
      go_ret
      exact ⟨by rw [HT.out]; rfl, HB3.out⟩
    · have HT : Hid (txP true xs = text6 (gN xs)) := by show _ = _; unfold txP; rw [if_neg (by rw [HRR.out]; decide), if_pos rfl]
      go_wp2_with (refine ld16 _ rfl rfl _ _ rfl xs HL.out (by with_reducible exact adl_bytes HR.out) ?_)
      refine (aGroups_any xs _ HL.out HBy.out).mono ?_
      rintro e w2 ⟨rfl, hb2⟩
      have HB2 := Lib.hid (HBE.out.trans (hb2.mono HBE.out.size))
      clear hb2
      go_wp2_with fail
      refine (aSixText_any (gN xs) _ (HG.out.below HB2.out) (gN_len xs) (gN_lt HBy.out)).mono ?_
      rintro e w3 ⟨rfl, hb3⟩
      have HB3 := Lib.hid (HB2.out.trans (hb3.mono HB2.out.size))
      clear hb3
      go_wp2_with fail
      go_ret
      exact ⟨by rw [HT.out]; rfl, HB3.out⟩
theorem txP_le (s : Bool) (xs : List Int) : (txP s xs).length ≤ 100 := by
  unfold txP
  split
  · simp
  · split
    · unfold text6
      have h1 := grT_le (gN xs)
      have h2 := grT_le ((gN xs).take (lz (gN xs) 8).1)
      have h3 := grT_le ((gN xs).drop (lz (gN xs) 8).2)
      rw [List.length_take, gN_len] at h2
      rw [List.length_drop, gN_len] at h3
      rw [gN_len] at h1
      split
      · omega
      · simp only [List.length_append, List.length_cons]; omega
    · have h := joinT_le 46 3 ((nb (xs.take 4)).map dg) (fun x hx => by obtain ⟨v, _, rfl⟩ := List.mem_map.1 hx; exact dg_len)
      have h2 : ((nb (xs.take 4)).map dg).length ≤ 4 := by simp [nb]; omega
      omega
theorem prt_n {s : Bool} {xs : List Int} {n : Int} (h : prt s xs n = true) : 0 ≤ n ∧ n ≤ 128 := by
  unfold prt at h
  have h1 := (of_decide_eq_true h).2
  unfold ctN at h1
  split at h1
  · have := clm_b s n; omega
  · omega
/-- What a prefix's Text answers. -/
def txQ (s : Bool) (xs : List Int) (n : Int) : Tx := if prt s xs n = false then [] else (txP s xs ++ [47]) ++ dg n.toNat
set_option maxRecDepth 100000 in
set_option maxHeartbeats 4000000 in
theorem pText_any (s : Bool) (xs : List Int) (n : Int) (w : World) (hg : Gl w) (hl : xs.length = 16) (hb : Byt xs) : Calls Tryd.prog 27 #[.agg (pfl s xs n).toArray] w (GivesT w (txQ s xs n)) := by
  have HG := Lib.hid hg
  have HL := Lib.hid hl
  have HBy := Lib.hid hb
  clear hg hl hb
  go_enter Tryd.func27, Tryd.ntmps27
  go_wp2_with (refine ldP _ rfl rfl _ _ rfl s xs n HL.out (pfl_range w s xs n _) ?_)
  have HR0 : Hid (World.rangeAt (w.alloc (.cells (pfl s xs n).toArray 48)) w.heap.size 0 (pfl s xs n)) := pfl_range w s xs n _
  have HBE0 : Hid (Below w.heap.size w (w.alloc (.cells (pfl s xs n).toArray 48))) := bel1 _ _
  obtain ⟨w0, hw0⟩ : ∃ x, w.alloc (.cells (pfl s xs n).toArray 48) = x := ⟨_, rfl⟩
  rw [hw0] at HR0 HBE0 ⊢
  clear hw0
  obtain ⟨g, hgg⟩ : ∃ g, w.heap.size = g := ⟨_, rfl⟩
  rw [hgg] at HR0 ⊢
  clear hgg
  refine (pRight_any s xs n _ HL.out HBy.out).mono ?_
  rintro e w1 ⟨rfl, hb1⟩
  have HRP := Lib.hid (range_kept hb1 HR0.out)
  have HBE := Lib.hid (HBE0.out.trans (hb1.mono HBE0.out.size))
  clear hb1 HR0 HBE0
  obtain ⟨r, hr⟩ : ∃ r, prt s xs n = r := ⟨_, rfl⟩
  rw [hr]
  cases r
  · have HT : Hid (txQ s xs n = []) := by show _ = _; unfold txQ; rw [if_pos hr]
    clear hr
    go_wp2_with fail
    go_ret
    exact ⟨by rw [HT.out]; rfl, HBE.out⟩
  · obtain ⟨n0, n1⟩ := prt_n hr
    have hT : txQ s xs n = (txP s xs ++ [47]) ++ dg n.toNat := by unfold txQ; rw [if_neg (by rw [hr]; decide)]
    obtain ⟨k, hkn⟩ : ∃ k : Nat, n = (k : Int) := ⟨n.toNat, by omega⟩
    have hk : k < 256 := by omega
    have HC := Lib.hid (pfl_n HRP.out HL.out)
    have HR := Lib.hid (pfl_adl HRP.out)
    subst hkn
    rw [Int.toNat_natCast] at hT
    obtain ⟨X1, hX1⟩ : ∃ X1, txP s xs = X1 := ⟨_, rfl⟩
    obtain ⟨X2, hX2⟩ : ∃ X2, dg k = X2 := ⟨_, rfl⟩
    have l1 := txP_le s xs
    have l2 := dg_len (v := k)
    rw [hX1] at l1 hT
    rw [hX2] at l2 hT
    obtain ⟨X3, hX3⟩ : ∃ X3, X1 ++ [47] = X3 := ⟨_, rfl⟩
    obtain ⟨X4, hX4⟩ : ∃ X4, X3 ++ X2 = X4 := ⟨_, rfl⟩
    have l6 : X3.length = X1.length + 1 := by rw [← hX3]; simp
    have HTX : Hid (txQ s xs k = X4) := by show _ = _; rw [hT, ← hX4, ← hX3]
    have HN1 : Hid (¬ 9223372036854775807 < X1.length + 1) := by show ¬ _; omega
    have HN2 : Hid (¬ 9223372036854775807 < X3.length + X2.length) := by show ¬ _; omega
    have HA1 : Hid ((⟨X1.toArray⟩ : ByteArray) ++ ⟨#[47]⟩ = ⟨X3.toArray⟩) := by show _ = _; rw [← hX3]; exact ba_app X1 [47]
    have HA2 : Hid ((⟨X3.toArray⟩ : ByteArray) ++ ⟨X2.toArray⟩ = ⟨X4.toArray⟩) := by show _ = _; rw [← hX4]; exact ba_app X3 X2
    have HX1 := Lib.hid hX1
    have HX2' := Lib.hid hX2
    clear hr hT hX1 hX2 hX3 hX4 l1 l2 l6 n0 n1
    go_wp2_with fail
    refine wp_region_held_drew (S := fun w' => World.rangeAt w' g 0 (adl s xs) ∧ w'.cell? ⟨g, 17, none⟩ = some (.int .i64 (k : Int))) (by kernel_rfl) ⟨HR.out, HC.out⟩ (fun hS => ?_)
    refine tk 0 6 (.pointer (some ⟨g, 0, none⟩)) rfl rfl (by kernel_rfl) (by kernel_rfl) (by kernel_rfl) (fun _ _ _ h => h) (Or.inl ⟨by rfl, fun w' h' => ?_⟩) hS ?_
    · go_simp
    try simp only [Act.put, List.setIfInBounds_toArray, List.set_cons_zero, List.set_cons_succ]
    refine tk 1 7 (.agg (adl s xs).toArray) rfl rfl (by kernel_rfl) (by kernel_rfl) (by kernel_rfl) (fun _ _ _ h => h) (yieldsIf_load_mid (by rfl) _ _ rfl (g) (0) rfl (adl s xs) _ (fun w' h' => h'.1) Tryd.underlying24 rfl (by rw [adl_len s xs HL.out]; exact infA)) hS ?_
    try simp only [Act.put, List.setIfInBounds_toArray, List.set_cons_zero, List.set_cons_succ]
    refine tk 4 10 (.pointer (some ⟨g, 17, none⟩)) rfl rfl (by kernel_rfl) (by kernel_rfl) (by kernel_rfl) (fun _ _ _ h => h) (Or.inl ⟨by rfl, fun w' h' => ?_⟩) hS ?_
    · go_simp
    try simp only [Act.put, List.setIfInBounds_toArray, List.set_cons_zero, List.set_cons_succ]
    refine tk 5 11 (.int .i64 (k : Int)) rfl rfl (by kernel_rfl) (by kernel_rfl) (by kernel_rfl) (fun _ _ _ h => h) (Or.inl ⟨by rfl, fun w' h' => ?_⟩) hS ?_
    · have hc := h'.2
      go_simp
    try simp only [Act.put, List.setIfInBounds_toArray, List.set_cons_zero, List.set_cons_succ]
    refine wpAnyH_ready (rs := [2]) (by kernel_rfl) (by simp) (AllReadyH.cons rfl (fun K hK => ?_) AllReadyH.nil)
    rw [if_pos (by rfl)]
    go_wp2_with fail
    refine (aText_any s xs _ (HG.out.below HBE.out.drew) HL.out HBy.out).mono ?_
    rintro e w2 ⟨rfl, hb2⟩
    have HB2 := Lib.hid (HBE.out.trans ((undrew hb2).mono HBE.out.size))
    have HX2 : Hid (World.rangeAt w2 g 0 (adl s xs) ∧ w2.cell? ⟨g, 17, none⟩ = some (.int .i64 (k : Int))) := ⟨range_kept (undrew hb2) HR.out, cell_kept (undrew hb2) HC.out⟩
    rw [HX1.out]
    clear hb2
    clear hS
    refine hK.out _ _ (HX2.out) (fun hS => ?_)
    clear hK K
    try simp only [Act.put, List.setIfInBounds_toArray, List.set_cons_zero, List.set_cons_succ]
    refine tk 3 9 (.string ⟨X3.toArray⟩) rfl rfl (by kernel_rfl) (by kernel_rfl) (by kernel_rfl) (fun _ _ _ h => h) (Or.inl ⟨by rfl, fun w' h' => ?_⟩) hS ?_
    · have ea := HA1.out
      (go_simp; have := HN1.out; omega)
    try simp only [Act.put, List.setIfInBounds_toArray, List.set_cons_zero, List.set_cons_succ]
    refine wpAnyH_ready (rs := [6]) (by kernel_rfl) (by simp) (AllReadyH.cons rfl (fun K hK => ?_) AllReadyH.nil)
    rw [if_pos (by rfl)]
    go_wp2_with fail
    refine (itoa_any k hk _ (HG.out.below HB2.out)).mono ?_
    rintro e w3 ⟨rfl, hb3⟩
    have HB3 := Lib.hid (HB2.out.trans (hb3.mono HB2.out.size))
    have HX3 : Hid (World.rangeAt w3 g 0 (adl s xs) ∧ w3.cell? ⟨g, 17, none⟩ = some (.int .i64 (k : Int))) := ⟨range_kept hb3 HX2.out.1, cell_kept hb3 HX2.out.2⟩
    rw [HX2'.out]
    clear hb3
    clear hS
    refine hK.out _ _ (HX3.out) (fun hS => ?_)
    clear hK K
    try simp only [Act.put, List.setIfInBounds_toArray, List.set_cons_zero, List.set_cons_succ]
    refine tk 7 13 (.string ⟨X4.toArray⟩) rfl rfl (by kernel_rfl) (by kernel_rfl) (by kernel_rfl) (fun _ _ _ h => h) (Or.inl ⟨by rfl, fun w' h' => ?_⟩) hS ?_
    · have ea := HA2.out
      (go_simp; have := HN2.out; omega)
    try simp only [Act.put, List.setIfInBounds_toArray, List.set_cons_zero, List.set_cons_succ]
    refine tk 8 2 (.string ⟨X4.toArray⟩) rfl rfl (by kernel_rfl) (by kernel_rfl) (by kernel_rfl) (fun _ _ _ h => h) (Or.inl ⟨by rfl, fun w' h' => ?_⟩) hS ?_
    · go_simp
    refine wpAnyH_done (by kernel_rfl) ?_ _
    clear hS
    go_wp2_with fail
    go_ret
    exact ⟨by rw [HTX.out]; rfl, HB3.out⟩
end Go.Proofs.YtbnfmiopgjmppaaDoor

/-
  The contracts of getTCP, getUDP and getICMP of package trans. Conditions: bytes that lie where the slice leads, as many as a head has.
-/
import Derived.Test.YtabdejoakecioaaTrM
namespace Go.Proofs.Ytabdejoakecioaa
open Go.RowKit

/-- What the head tells, as a segment. -/
def gtS (p : Int) (xs : List Int) : Sg := ⟨gtP p xs, none, 0, 0, none, 0, 0⟩
theorem gt_tcp (xs : List Int) : gtS 6 xs = ⟨⟨0, wordAt xs 0, wordAt xs 2, lng xs 4, lng xs 8, xs.getD 13 0, wordAt xs 14, wordAt xs 18, [], 0, 0, []⟩, none, 0, 0, none, 0, 0⟩ := by unfold gtS gtP; rw [if_pos rfl]; rfl
theorem gt_udp (xs : List Int) : gtS 17 xs = ⟨⟨0, wordAt xs 0, wordAt xs 2, 0, 0, 0, 0, 0, [], 0, 0, []⟩, none, 0, 0, none, 0, 0⟩ := by unfold gtS gtP; rw [if_neg (by decide), if_pos rfl]; rfl
theorem gt_icmp (p : Int) (xs : List Int) (h6 : ¬ p = 6) (h17 : ¬ p = 17) : gtS p xs = ⟨⟨0, 0, 0, 0, 0, 0, 0, 0, [], xs.getD 0 0, xs.getD 1 0, []⟩, none, 0, 0, none, 0, 0⟩ := by unfold gtS gtP; rw [if_neg h6, if_neg h17]; rfl
theorem builtGT (a b c d e f g : Int) : Try.prog.built 26 [(1, .int .u16 a), (2, .int .u16 b), (3, .int .u32 c), (4, .int .u32 d), (5, .int .u8 e), (6, .int .u16 f), (7, .int .u16 g)] = some (Sg.cs ⟨⟨0, a, b, c, d, e, f, g, [], 0, 0, []⟩, none, 0, 0, none, 0, 0⟩).toArray := by kernel_rfl
theorem builtGU (a b : Int) : Try.prog.built 26 [(1, .int .u16 a), (2, .int .u16 b)] = some (Sg.cs ⟨⟨0, a, b, 0, 0, 0, 0, 0, [], 0, 0, []⟩, none, 0, 0, none, 0, 0⟩).toArray := by kernel_rfl
theorem builtGI (a b : Int) : Try.prog.built 26 [(9, .int .u8 a), (10, .int .u8 b)] = some (Sg.cs ⟨⟨0, 0, 0, 0, 0, 0, 0, 0, [], a, b, []⟩, none, 0, 0, none, 0, 0⟩).toArray := by kernel_rfl
theorem u16_wrap (x : Int) (h0 : 0 ≤ x) (h1 : x ≤ 65535) : IntKind.u16.wrap x = x := by rw [IntKind.wrap_u16]; omega
theorem u32_wrap (x : Int) (h0 : 0 ≤ x) (h1 : x < 4294967296) : IntKind.u32.wrap x = x := by rw [IntKind.wrap_u32]; omega

set_option maxRecDepth 100000 in
set_option maxHeartbeats 2000000 in
theorem tGetT_any (a : Option Addr) (n cap : Nat) (xs : List Int) (w : World) (hn : xs.length = n) (hr : Rd w a xs) (hb : Byt xs) (hl : n ≤ 1099511627776) (hc : n ≤ cap) (h20 : 20 ≤ n) :
    Calls Try.prog 57 #[.slice a n cap] w (Gives w (.agg (gtS 6 xs).cs.toArray)) := by
  obtain ⟨wA, hwA⟩ : ∃ x, w.alloc (.cells #[.int .u8 0, .int .u16 0, .int .u16 0, .int .u32 0, .int .u32 0, .int .u8 0, .int .u16 0, .int .u16 0, .slice none 0 0, .int .u8 0, .int .u8 0, .slice none 0 0] 26) = x := ⟨_, rfl⟩
  have HBA : Hid (Below w.heap.size w wA) := by show Below _ _ _; rw [← hwA]; exact (Below.refl _ _).alloc (Nat.le_refl _) _
  have HT : Hid (wA.there w.heap.size 0 12) := by show World.there _ _ _ _; rw [← hwA]; exact there_new _ _ _ _ rfl _ rfl
  have HN := Lib.hid hn
  have HR := Lib.hid (hr.below HBA.out)
  have HB := Lib.hid hb
  obtain ⟨b, oo, rfl, hcell⟩ := HR.out (by intro e; rw [e] at hn; simp at hn; omega)
  have h13 := hcell 13 (by omega)
  obtain ⟨b', o', e', HOLD⟩ := hr (by intro e; rw [e] at hn; simp at hn; omega)
  simp only [Option.some.injEq, Addr.mk.injEq, and_true] at e'
  obtain ⟨rfl, rfl⟩ := e'
  have HG := Lib.hid (gt_tcp xs)
  rw [HG.out]
  obtain ⟨v0, hv0⟩ : ∃ x, wordAt xs 0 = x := ⟨_, rfl⟩
  have Wv0 : Hid (IntKind.u16.wrap v0 = v0) := by have h := wordAt_range hb 0; rw [hv0] at h; exact u16_wrap _ h.1 h.2
  have Ev0 := Lib.hid hv0
  rw [hv0]
  clear hv0
  obtain ⟨v2, hv2⟩ : ∃ x, wordAt xs 2 = x := ⟨_, rfl⟩
  have Wv2 : Hid (IntKind.u16.wrap v2 = v2) := by have h := wordAt_range hb 2; rw [hv2] at h; exact u16_wrap _ h.1 h.2
  have Ev2 := Lib.hid hv2
  rw [hv2]
  clear hv2
  obtain ⟨v4, hv4⟩ : ∃ x, lng xs 4 = x := ⟨_, rfl⟩
  have Wv4 : Hid (IntKind.u32.wrap v4 = v4) := by have h := lng_range hb 4; rw [hv4] at h; exact u32_wrap _ h.1 h.2
  have Ev4 := Lib.hid hv4
  rw [hv4]
  clear hv4
  obtain ⟨v8, hv8⟩ : ∃ x, lng xs 8 = x := ⟨_, rfl⟩
  have Wv8 : Hid (IntKind.u32.wrap v8 = v8) := by have h := lng_range hb 8; rw [hv8] at h; exact u32_wrap _ h.1 h.2
  have Ev8 := Lib.hid hv8
  rw [hv8]
  clear hv8
  obtain ⟨v14, hv14⟩ : ∃ x, wordAt xs 14 = x := ⟨_, rfl⟩
  have Wv14 : Hid (IntKind.u16.wrap v14 = v14) := by have h := wordAt_range hb 14; rw [hv14] at h; exact u16_wrap _ h.1 h.2
  have Ev14 := Lib.hid hv14
  rw [hv14]
  clear hv14
  obtain ⟨v18, hv18⟩ : ∃ x, wordAt xs 18 = x := ⟨_, rfl⟩
  have Wv18 : Hid (IntKind.u16.wrap v18 = v18) := by have h := wordAt_range hb 18; rw [hv18] at h; exact u16_wrap _ h.1 h.2
  have Ev18 := Lib.hid hv18
  rw [hv18]
  clear hv18
  obtain ⟨x13, hx13⟩ : ∃ x, xs.getD 13 0 = x := ⟨_, rfl⟩
  rw [hx13] at h13 ⊢
  have i13 : (13 : Int) < (n : Int) := by omega
  have HX : Hid (∀ cs : List Value, wA.drew.cell? ⟨b, oo + 13, none⟩ = some (.int .u8 x13) → (wA.drew.setCells w.heap.size 0 cs).cell? ⟨b, oo + 13, none⟩ = some (.int .u8 x13)) := fun cs h => by
    have hlt := World.block_lt_of_cell? w ⟨b, oo + 13, none⟩ (HOLD 13 (by rw [HN.out]; omega))
    have hk := Below.setCells (B := w.heap.size) (Below.refl w.heap.size wA.drew) w.heap.size (Nat.le_refl _) cs 0
    rw [hk.cell (p := ⟨b, oo + 13, none⟩) hlt]; exact h
  clear hr hb hcell hn hx13 HG HOLD
  go_enter Try.func57, Try.ntmps57
  go_wp2_with fail
  refine wp_region_held_drew (S := fun w' => w'.cell? ⟨b, oo + 13, none⟩ = some (.int .u8 x13)) (by kernel_rfl) h13 (fun hS => ?_)
  refine tk 0 3 (.slice (some ⟨b, oo, none⟩) n cap) rfl rfl (by kernel_rfl) (by kernel_rfl) (by kernel_rfl) (fun _ _ _ h => h) (Or.inl ⟨by rfl, fun w' h' => ?_⟩) hS ?_
  · go_simp
  try simp only [Act.put, List.setIfInBounds_toArray, List.set_cons_zero, List.set_cons_succ]
  refine tk 3 6 (.slice (some ⟨b, oo, none⟩) n cap) rfl rfl (by kernel_rfl) (by kernel_rfl) (by kernel_rfl) (fun _ _ _ h => h) (Or.inl ⟨by rfl, fun w' h' => ?_⟩) hS ?_
  · go_simp
  try simp only [Act.put, List.setIfInBounds_toArray, List.set_cons_zero, List.set_cons_succ]
  refine tk 6 9 (.slice (some ⟨b, oo, none⟩) n cap) rfl rfl (by kernel_rfl) (by kernel_rfl) (by kernel_rfl) (fun _ _ _ h => h) (Or.inl ⟨by rfl, fun w' h' => ?_⟩) hS ?_
  · go_simp
  try simp only [Act.put, List.setIfInBounds_toArray, List.set_cons_zero, List.set_cons_succ]
  refine tk 9 12 (.slice (some ⟨b, oo, none⟩) n cap) rfl rfl (by kernel_rfl) (by kernel_rfl) (by kernel_rfl) (fun _ _ _ h => h) (Or.inl ⟨by rfl, fun w' h' => ?_⟩) hS ?_
  · go_simp
  try simp only [Act.put, List.setIfInBounds_toArray, List.set_cons_zero, List.set_cons_succ]
  refine tk 12 15 (.slice (some ⟨b, oo, none⟩) n cap) rfl rfl (by kernel_rfl) (by kernel_rfl) (by kernel_rfl) (fun _ _ _ h => h) (Or.inl ⟨by rfl, fun w' h' => ?_⟩) hS ?_
  · go_simp
  try simp only [Act.put, List.setIfInBounds_toArray, List.set_cons_zero, List.set_cons_succ]
  refine tk 13 16 (.pointer (some ⟨b, oo + 13, none⟩)) rfl rfl (by kernel_rfl) (by kernel_rfl) (by kernel_rfl) (fun _ _ _ h => h) (Or.inl ⟨by rfl, fun w' h' => ?_⟩) hS ?_
  · go_simp
  try simp only [Act.put, List.setIfInBounds_toArray, List.set_cons_zero, List.set_cons_succ]
  refine tk 14 17 (.int .u8 x13) rfl rfl (by kernel_rfl) (by kernel_rfl) (by kernel_rfl) (fun _ _ _ h => h) (Or.inl ⟨by rfl, fun w' h' => ?_⟩) hS ?_
  · have hc := h'
    go_simp
  try simp only [Act.put, List.setIfInBounds_toArray, List.set_cons_zero, List.set_cons_succ]
  refine tk 15 18 (.slice (some ⟨b, oo, none⟩) n cap) rfl rfl (by kernel_rfl) (by kernel_rfl) (by kernel_rfl) (fun _ _ _ h => h) (Or.inl ⟨by rfl, fun w' h' => ?_⟩) hS ?_
  · go_simp
  try simp only [Act.put, List.setIfInBounds_toArray, List.set_cons_zero, List.set_cons_succ]
  refine tk 18 21 (.slice (some ⟨b, oo, none⟩) n cap) rfl rfl (by kernel_rfl) (by kernel_rfl) (by kernel_rfl) (fun _ _ _ h => h) (Or.inl ⟨by rfl, fun w' h' => ?_⟩) hS ?_
  · go_simp
  try simp only [Act.put, List.setIfInBounds_toArray, List.set_cons_zero, List.set_cons_succ]
  refine wpAnyH_ready (rs := [1]) (by kernel_rfl) (by simp) (AllReadyH.cons rfl (fun K hK => ?_) AllReadyH.nil)
  rw [if_pos (by rfl)]
  go_wp2_with fail
  refine (tNum2 (some ⟨b, oo, none⟩) n cap xs 0 _ HN.out (show Rd wA.drew _ _ from HR.out) HB.out hl hc (by omega)).mono ?_
  rintro e w1 ⟨rfl, rfl⟩
  rw [Ev0.out]
  clear hS
  refine hK.out _ _ (h13) (fun hS => ?_)
  clear hK K
  try simp only [Act.put, List.setIfInBounds_toArray, List.set_cons_zero, List.set_cons_succ]
  refine tk 2 5 (.int .u16 v0) rfl rfl (by kernel_rfl) (by kernel_rfl) (by kernel_rfl) (fun _ _ _ h => h) (Or.inl ⟨by rfl, fun w' h' => ?_⟩) hS ?_
  · have hw := Wv0.out
    go_simp
  try simp only [Act.put, List.setIfInBounds_toArray, List.set_cons_zero, List.set_cons_succ]
  refine wpAnyH_ready (rs := [4]) (by kernel_rfl) (by simp) (AllReadyH.cons rfl (fun K hK => ?_) AllReadyH.nil)
  rw [if_pos (by rfl)]
  go_wp2_with fail
  refine (tNum2 (some ⟨b, oo, none⟩) n cap xs 2 _ HN.out (show Rd wA.drew _ _ from HR.out) HB.out hl hc (by omega)).mono ?_
  rintro e w1 ⟨rfl, rfl⟩
  rw [Ev2.out]
  clear hS
  refine hK.out _ _ (h13) (fun hS => ?_)
  clear hK K
  try simp only [Act.put, List.setIfInBounds_toArray, List.set_cons_zero, List.set_cons_succ]
  refine tk 5 8 (.int .u16 v2) rfl rfl (by kernel_rfl) (by kernel_rfl) (by kernel_rfl) (fun _ _ _ h => h) (Or.inl ⟨by rfl, fun w' h' => ?_⟩) hS ?_
  · have hw := Wv2.out
    go_simp
  try simp only [Act.put, List.setIfInBounds_toArray, List.set_cons_zero, List.set_cons_succ]
  refine wpAnyH_ready (rs := [7]) (by kernel_rfl) (by simp) (AllReadyH.cons rfl (fun K hK => ?_) AllReadyH.nil)
  rw [if_pos (by rfl)]
  go_wp2_with fail
  refine (tNum4 (some ⟨b, oo, none⟩) n cap xs 4 _ HN.out (show Rd wA.drew _ _ from HR.out) HB.out hl hc (by omega)).mono ?_
  rintro e w1 ⟨rfl, rfl⟩
  rw [Ev4.out]
  clear hS
  refine hK.out _ _ (h13) (fun hS => ?_)
  clear hK K
  try simp only [Act.put, List.setIfInBounds_toArray, List.set_cons_zero, List.set_cons_succ]
  refine tk 8 11 (.int .u32 v4) rfl rfl (by kernel_rfl) (by kernel_rfl) (by kernel_rfl) (fun _ _ _ h => h) (Or.inl ⟨by rfl, fun w' h' => ?_⟩) hS ?_
  · have hw := Wv4.out
    go_simp
  try simp only [Act.put, List.setIfInBounds_toArray, List.set_cons_zero, List.set_cons_succ]
  refine wpAnyH_ready (rs := [10]) (by kernel_rfl) (by simp) (AllReadyH.cons rfl (fun K hK => ?_) AllReadyH.nil)
  rw [if_pos (by rfl)]
  go_wp2_with fail
  refine (tNum4 (some ⟨b, oo, none⟩) n cap xs 8 _ HN.out (show Rd wA.drew _ _ from HR.out) HB.out hl hc (by omega)).mono ?_
  rintro e w1 ⟨rfl, rfl⟩
  rw [Ev8.out]
  clear hS
  refine hK.out _ _ (h13) (fun hS => ?_)
  clear hK K
  try simp only [Act.put, List.setIfInBounds_toArray, List.set_cons_zero, List.set_cons_succ]
  refine tk 11 14 (.int .u32 v8) rfl rfl (by kernel_rfl) (by kernel_rfl) (by kernel_rfl) (fun _ _ _ h => h) (Or.inl ⟨by rfl, fun w' h' => ?_⟩) hS ?_
  · have hw := Wv8.out
    go_simp
  try simp only [Act.put, List.setIfInBounds_toArray, List.set_cons_zero, List.set_cons_succ]
  refine wpAnyH_ready (rs := [16]) (by kernel_rfl) (by simp) (AllReadyH.cons rfl (fun K hK => ?_) AllReadyH.nil)
  rw [if_pos (by rfl)]
  go_wp2_with fail
  refine (tNum2 (some ⟨b, oo, none⟩) n cap xs 14 _ HN.out (show Rd wA.drew _ _ from HR.out) HB.out hl hc (by omega)).mono ?_
  rintro e w1 ⟨rfl, rfl⟩
  rw [Ev14.out]
  clear hS
  refine hK.out _ _ (h13) (fun hS => ?_)
  clear hK K
  try simp only [Act.put, List.setIfInBounds_toArray, List.set_cons_zero, List.set_cons_succ]
  refine tk 17 20 (.int .u16 v14) rfl rfl (by kernel_rfl) (by kernel_rfl) (by kernel_rfl) (fun _ _ _ h => h) (Or.inl ⟨by rfl, fun w' h' => ?_⟩) hS ?_
  · have hw := Wv14.out
    go_simp
  try simp only [Act.put, List.setIfInBounds_toArray, List.set_cons_zero, List.set_cons_succ]
  refine wpAnyH_ready (rs := [19]) (by kernel_rfl) (by simp) (AllReadyH.cons rfl (fun K hK => ?_) AllReadyH.nil)
  rw [if_pos (by rfl)]
  go_wp2_with fail
  refine (tNum2 (some ⟨b, oo, none⟩) n cap xs 18 _ HN.out (show Rd wA.drew _ _ from HR.out) HB.out hl hc (by omega)).mono ?_
  rintro e w1 ⟨rfl, rfl⟩
  rw [Ev18.out]
  clear hS
  refine hK.out _ _ (h13) (fun hS => ?_)
  clear hK K
  try simp only [Act.put, List.setIfInBounds_toArray, List.set_cons_zero, List.set_cons_succ]
  refine tk 20 23 (.int .u16 v18) rfl rfl (by kernel_rfl) (by kernel_rfl) (by kernel_rfl) (fun _ _ _ h => h) (Or.inl ⟨by rfl, fun w' h' => ?_⟩) hS ?_
  · have hw := Wv18.out
    go_simp
  try simp only [Act.put, List.setIfInBounds_toArray, List.set_cons_zero, List.set_cons_succ]
  refine tk 21 24 (.agg (Sg.cs ⟨⟨0, v0, v2, v4, v8, x13, v14, v18, [], 0, 0, []⟩, none, 0, 0, none, 0, 0⟩).toArray) rfl rfl (by kernel_rfl) (by kernel_rfl) (by kernel_rfl) (fun _ _ _ h => h) (yields_build (by rfl) _ _ rfl ?_) hS ?_
  · exact builtGT _ _ _ _ _ _ _
  try simp only [Act.put, List.setIfInBounds_toArray, List.set_cons_zero, List.set_cons_succ]
  refine wpAnyH_ready (rs := [22]) (by kernel_rfl) (by simp) (AllReadyH.cons rfl (fun K hK => ?_) AllReadyH.nil)
  rw [if_pos (by rfl)]
  refine wp_store_mid 26 _ _ rfl (w.heap.size) 0 (Sg.cs ⟨⟨0, v0, v2, v4, v8, x13, v14, v18, [], 0, 0, []⟩, none, 0, 0, none, 0, 0⟩).toArray rfl rfl HT.out infS (all_oneCell_toArray (Sg.one _)) ?_
  have h13' : ((wA.drew.setCells w.heap.size 0 (Sg.cs ⟨⟨0, v0, v2, v4, v8, x13, v14, v18, [], 0, 0, []⟩, none, 0, 0, none, 0, 0⟩))).cell? ⟨b, oo + 13, none⟩ = some (.int .u8 x13) := HX.out _ h13
  clear hS
  refine hK.out _ _ (h13') (fun hS => ?_)
  clear hK K
  refine wpAnyH_done (by kernel_rfl) ?_ _
  go_wp2_with fail
  refine bodyPost_ret (v := .agg (Sg.cs ⟨⟨0, v0, v2, v4, v8, x13, v14, v18, [], 0, 0, []⟩, none, 0, 0, none, 0, 0⟩).toArray) (ret_mid Try.results57 _ _ _ _ (Sg.cs ⟨⟨0, v0, v2, v4, v8, x13, v14, v18, [], 0, 0, []⟩, none, 0, 0, none, 0, 0⟩) _ rfl (World.rangeAt_setCells_same _ _ _ _ HT.out) Try.underlying26 rfl infS) rfl ⟨rfl, ?_⟩
  exact Below.setCells (w' := wA.drew) ⟨HBA.out.os, HBA.out.tape, HBA.out.output, HBA.out.size, HBA.out.block⟩ _ (by omega) _ _

set_option maxHeartbeats 1000000 in
theorem tGetU_any (a : Option Addr) (n cap : Nat) (xs : List Int) (w : World) (hn : xs.length = n) (hr : Rd w a xs) (hb : Byt xs) (hl : n ≤ 1099511627776) (hc : n ≤ cap) (h20 : 8 ≤ n) :
    Calls Try.prog 61 #[.slice a n cap] w (Gives w (.agg (gtS 17 xs).cs.toArray)) := by
  obtain ⟨wA, hwA⟩ : ∃ x, w.alloc (.cells #[.int .u8 0, .int .u16 0, .int .u16 0, .int .u32 0, .int .u32 0, .int .u8 0, .int .u16 0, .int .u16 0, .slice none 0 0, .int .u8 0, .int .u8 0, .slice none 0 0] 26) = x := ⟨_, rfl⟩
  have HBA : Hid (Below w.heap.size w wA) := by show Below _ _ _; rw [← hwA]; exact (Below.refl _ _).alloc (Nat.le_refl _) _
  have HT : Hid (wA.there w.heap.size 0 12) := by show World.there _ _ _ _; rw [← hwA]; exact there_new _ _ _ _ rfl _ rfl
  have HN := Lib.hid hn
  have HR := Lib.hid (hr.below HBA.out)
  have HB := Lib.hid hb
  rw [gt_udp xs]
  obtain ⟨v0, hv0⟩ : ∃ x, wordAt xs 0 = x := ⟨_, rfl⟩
  have Wv0 : Hid (IntKind.u16.wrap v0 = v0) := by have h := wordAt_range hb 0; rw [hv0] at h; exact u16_wrap _ h.1 h.2
  have Ev0 := Lib.hid hv0
  rw [hv0]
  clear hv0
  obtain ⟨v2, hv2⟩ : ∃ x, wordAt xs 2 = x := ⟨_, rfl⟩
  have Wv2 : Hid (IntKind.u16.wrap v2 = v2) := by have h := wordAt_range hb 2; rw [hv2] at h; exact u16_wrap _ h.1 h.2
  have Ev2 := Lib.hid hv2
  rw [hv2]
  clear hv2
  clear hr hb hn
  go_enter Try.func61, Try.ntmps61
  go_wp2_with fail
  refine (tNum2 a n cap xs 0 _ HN.out HR.out HB.out hl hc (by omega)).mono ?_
  rintro e w1 ⟨rfl, rfl⟩
  rw [Ev0.out]
  have hw := Wv0.out
  go_wp2_with fail
  refine (tNum2 a n cap xs 2 _ HN.out HR.out HB.out hl hc (by omega)).mono ?_
  rintro e w1 ⟨rfl, rfl⟩
  rw [Ev2.out]
  have hw2 := Wv2.out
  go_wp2_with (first | (refine wpList_build_run (cells := (Sg.cs ⟨⟨0, v0, v2, 0, 0, 0, 0, 0, [], 0, 0, []⟩, none, 0, 0, none, 0, 0⟩).toArray) rfl 26 _ rfl ?_ ?_; · exact builtGU _ _) | (refine stC 26 _ _ rfl rfl (w.heap.size) 0 (Sg.cs ⟨⟨0, v0, v2, 0, 0, 0, 0, 0, [], 0, 0, []⟩, none, 0, 0, none, 0, 0⟩) rfl rfl HT.out infS (Sg.one _) ?_))
  refine bodyPost_ret (v := .agg (Sg.cs ⟨⟨0, v0, v2, 0, 0, 0, 0, 0, [], 0, 0, []⟩, none, 0, 0, none, 0, 0⟩).toArray) (ret_mid Try.results61 _ _ _ _ (Sg.cs ⟨⟨0, v0, v2, 0, 0, 0, 0, 0, [], 0, 0, []⟩, none, 0, 0, none, 0, 0⟩) _ rfl (World.rangeAt_setCells_same _ _ _ _ HT.out) Try.underlying26 rfl infS) rfl ⟨rfl, Below.setCells HBA.out _ (by omega) _ _⟩

set_option maxRecDepth 100000 in
set_option maxHeartbeats 1000000 in
theorem tGetI_any (p : Int) (h6 : ¬ p = 6) (h17 : ¬ p = 17) (a : Option Addr) (n cap : Nat) (xs : List Int) (w : World) (hn : xs.length = n) (hr : Rd w a xs) (h4 : 4 ≤ n) :
    Calls Try.prog 53 #[.slice a n cap] w (Gives w (.agg (gtS p xs).cs.toArray)) := by
  obtain ⟨wA, hwA⟩ : ∃ x, w.alloc (.cells #[.int .u8 0, .int .u16 0, .int .u16 0, .int .u32 0, .int .u32 0, .int .u8 0, .int .u16 0, .int .u16 0, .slice none 0 0, .int .u8 0, .int .u8 0, .slice none 0 0] 26) = x := ⟨_, rfl⟩
  have HBA : Hid (Below w.heap.size w wA) := by show Below _ _ _; rw [← hwA]; exact (Below.refl _ _).alloc (Nat.le_refl _) _
  have HT : Hid (wA.there w.heap.size 0 12) := by show World.there _ _ _ _; rw [← hwA]; exact there_new _ _ _ _ rfl _ rfl
  obtain ⟨b, oo, rfl, hcell⟩ := hr (by intro e; rw [e] at hn; simp at hn; omega)
  have h0 := cell_kept HBA.out (hcell 0 (by omega))
  have h1 := cell_kept HBA.out (hcell 1 (by omega))
  have hlt0 := World.block_lt_of_cell? w ⟨b, oo + 0, none⟩ (hcell 0 (by omega))
  have HLT : Hid (b < w.heap.size) := hlt0
  rw [Nat.add_zero] at h0
  rw [gt_icmp p xs h6 h17]
  obtain ⟨x0, hx0⟩ : ∃ x, xs.getD 0 0 = x := ⟨_, rfl⟩
  obtain ⟨x1, hx1⟩ : ∃ x, xs.getD 1 0 = x := ⟨_, rfl⟩
  rw [hx0] at h0 ⊢
  rw [hx1] at h1 ⊢
  have i0 : (0 : Int) < (n : Int) := by omega
  have i0' : ¬ n = 0 := by omega
  have i1 : (1 : Int) < (n : Int) := by omega
  have HX : Hid (∀ (cs : List Value) (j : Nat) (u : Value), wA.drew.cell? ⟨b, j, none⟩ = some u → (wA.drew.setCells w.heap.size 0 cs).cell? ⟨b, j, none⟩ = some u) := fun cs j u h => by
    have hk := Below.setCells (B := w.heap.size) (Below.refl w.heap.size wA.drew) w.heap.size (Nat.le_refl _) cs 0
    rw [hk.cell (p := ⟨b, j, none⟩) HLT.out]; exact h
  clear hr hn hcell hx0 hx1 hlt0
  go_enter Try.func53, Try.ntmps53
  go_wp2_with fail
  refine wp_region_held_drew (S := fun w' => w'.cell? ⟨b, oo, none⟩ = some (.int .u8 x0) ∧ w'.cell? ⟨b, oo + 1, none⟩ = some (.int .u8 x1)) (by kernel_rfl) ⟨h0, h1⟩ (fun hS => ?_)
  refine tk 0 3 (.slice (some ⟨b, oo, none⟩) n cap) rfl rfl (by kernel_rfl) (by kernel_rfl) (by kernel_rfl) (fun _ _ _ h => h) (Or.inl ⟨by rfl, fun w' h' => ?_⟩) hS ?_
  · go_simp
  try simp only [Act.put, List.setIfInBounds_toArray, List.set_cons_zero, List.set_cons_succ]
  refine tk 1 4 (.pointer (some ⟨b, oo, none⟩)) rfl rfl (by kernel_rfl) (by kernel_rfl) (by kernel_rfl) (fun _ _ _ h => h) (Or.inl ⟨by rfl, fun w' h' => ?_⟩) hS ?_
  · go_simp
  try simp only [Act.put, List.setIfInBounds_toArray, List.set_cons_zero, List.set_cons_succ]
  refine tk 2 5 (.int .u8 x0) rfl rfl (by kernel_rfl) (by kernel_rfl) (by kernel_rfl) (fun _ _ _ h => h) (Or.inl ⟨by rfl, fun w' h' => ?_⟩) hS ?_
  · have hc := h'.1
    go_simp
  try simp only [Act.put, List.setIfInBounds_toArray, List.set_cons_zero, List.set_cons_succ]
  refine tk 3 6 (.slice (some ⟨b, oo, none⟩) n cap) rfl rfl (by kernel_rfl) (by kernel_rfl) (by kernel_rfl) (fun _ _ _ h => h) (Or.inl ⟨by rfl, fun w' h' => ?_⟩) hS ?_
  · go_simp
  try simp only [Act.put, List.setIfInBounds_toArray, List.set_cons_zero, List.set_cons_succ]
  refine tk 4 7 (.pointer (some ⟨b, oo + 1, none⟩)) rfl rfl (by kernel_rfl) (by kernel_rfl) (by kernel_rfl) (fun _ _ _ h => h) (Or.inl ⟨by rfl, fun w' h' => ?_⟩) hS ?_
  · go_simp
  try simp only [Act.put, List.setIfInBounds_toArray, List.set_cons_zero, List.set_cons_succ]
  refine tk 5 8 (.int .u8 x1) rfl rfl (by kernel_rfl) (by kernel_rfl) (by kernel_rfl) (fun _ _ _ h => h) (Or.inl ⟨by rfl, fun w' h' => ?_⟩) hS ?_
  · have hc := h'.2
    go_simp
  try simp only [Act.put, List.setIfInBounds_toArray, List.set_cons_zero, List.set_cons_succ]
  refine tk 6 9 (.agg (Sg.cs ⟨⟨0, 0, 0, 0, 0, 0, 0, 0, [], x0, x1, []⟩, none, 0, 0, none, 0, 0⟩).toArray) rfl rfl (by kernel_rfl) (by kernel_rfl) (by kernel_rfl) (fun _ _ _ h => h) (yields_build (by rfl) _ _ rfl ?_) hS ?_
  · exact builtGI _ _
  try simp only [Act.put, List.setIfInBounds_toArray, List.set_cons_zero, List.set_cons_succ]
  refine wpAnyH_ready (rs := [7]) (by kernel_rfl) (by simp) (AllReadyH.cons rfl (fun K hK => ?_) AllReadyH.nil)
  rw [if_pos (by rfl)]
  refine wp_store_mid 26 _ _ rfl (w.heap.size) 0 (Sg.cs ⟨⟨0, 0, 0, 0, 0, 0, 0, 0, [], x0, x1, []⟩, none, 0, 0, none, 0, 0⟩).toArray rfl rfl HT.out infS (all_oneCell_toArray (Sg.one _)) ?_
  clear hS
  refine hK.out _ _ (⟨HX.out _ _ _ h0, HX.out _ _ _ h1⟩) (fun hS => ?_)
  clear hK K
  refine wpAnyH_done (by kernel_rfl) ?_ _
  go_wp2_with fail
  refine bodyPost_ret (v := .agg (Sg.cs ⟨⟨0, 0, 0, 0, 0, 0, 0, 0, [], x0, x1, []⟩, none, 0, 0, none, 0, 0⟩).toArray) (ret_mid Try.results53 _ _ _ _ (Sg.cs ⟨⟨0, 0, 0, 0, 0, 0, 0, 0, [], x0, x1, []⟩, none, 0, 0, none, 0, 0⟩) _ rfl (World.rangeAt_setCells_same _ _ _ _ HT.out) Try.underlying26 rfl infS) rfl ⟨rfl, ?_⟩
  exact Below.setCells (w' := wA.drew) ⟨HBA.out.os, HBA.out.tape, HBA.out.output, HBA.out.size, HBA.out.block⟩ _ (by omega) _ _
end Go.Proofs.Ytabdejoakecioaa

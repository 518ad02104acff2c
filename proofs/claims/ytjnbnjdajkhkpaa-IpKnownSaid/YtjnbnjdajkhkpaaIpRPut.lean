/-
  The contract of the document's own Put for layer 5. Conditions: a header whose numbers fit their Go types.
-/
import Derived.Test.YtjnbnjdajkhkpaaIpStands
import Derived.Test.YtjnbnjdajkhkpaaSumRef
namespace Go.Proofs.Ytjnbnjdajkhkpaa
open Go.RowKit

theorem splice_mid (xs ys zs vs : List Int) (h : vs.length = ys.length) : splice (xs ++ ys ++ zs) xs.length vs = xs ++ vs ++ zs := by
  unfold splice
  have e1 : (xs ++ ys ++ zs).take xs.length = xs := by rw [List.append_assoc]; exact List.take_left
  have e2 : (xs ++ ys ++ zs).drop (xs.length + vs.length) = zs := by rw [h, ← List.length_append]; exact List.drop_left
  rw [e1, e2]
theorem hfull_eq (h : Hd) : hfull h = hby h (hck h) := by
  unfold hfull
  have e : ∀ c, hby h c = (((((((([] : List Int) ++ be 1 (64 + (5 + (h.n / 4 : Nat) : Int))) ++ be 1 h.tos) ++ be 2 h.tot) ++ be 2 h.id) ++ be 2 (flw h.df h.mf h.frag)) ++ be 1 h.ttl) ++ be 1 h.pro) ++ be 2 c ++ (h.src ++ h.dst ++ h.op) := fun c => by simp [hby]
  rw [e 0, e (hck h)]
  have hl : ((((((([] : List Int) ++ be 1 (64 + (5 + (h.n / 4 : Nat) : Int))) ++ be 1 h.tos) ++ be 2 h.tot) ++ be 2 h.id) ++ be 2 (flw h.df h.mf h.frag)) ++ be 1 h.ttl ++ be 1 h.pro).length = 10 := by simp [be_length]
  have := splice_mid ((((((([] : List Int) ++ be 1 (64 + (5 + (h.n / 4 : Nat) : Int))) ++ be 1 h.tos) ++ be 2 h.tot) ++ be 2 h.id) ++ be 2 (flw h.df h.mf h.frag)) ++ be 1 h.ttl ++ be 1 h.pro) (be 2 0) (h.src ++ h.dst ++ h.op) (be 2 (hck h)) (by rw [be_length, be_length])
  rw [hl] at this
  exact this

set_option maxRecDepth 100000 in
set_option maxHeartbeats 2000000 in
theorem r5Put_any (h : Hd) (w w0 : World) (k : h.ok w0) (hm : h.n ≤ 9000000000000) : Calls Try.prog 10 #[.agg (rhc h).toArray] w (PutH w h) := by
  have HK := Lib.hid k
  have HM := Lib.hid hm
  have HR := Lib.hid (rh_range w h 29)
  have HB1 : Hid (Below w.heap.size w (w.alloc (.cells (rhc h).toArray 29))) := (Below.refl w.heap.size w).alloc (Nat.le_refl _) _
  clear k hm
  cases hrg : rgH h.frag h.tot h.n with
  | false =>
    have HG := Lib.hid hrg
    clear hrg
    go_enter Try.func10, Try.ntmps10
    go_wp2_with (refine ldRH _ rfl rfl _ rfl h HR.out ?_)
    refine (r5Right_any h _ _ HK.out HM.out).mono ?_
    rintro e w1 ⟨rfl, hb⟩
    have HB2 : Hid (Below w.heap.size w w1) := HB1.out.trans (hb.mono (by simp))
    clear hb
    rw [HG.out]
    go_wp2_with fail
    go_ret2
    exact ⟨HB2.out, .inr ⟨HG.out, rfl⟩⟩
  | true =>
    have HG := Lib.hid hrg
    clear hrg
    obtain ⟨f1, f2, f3, f4⟩ := rgH_iff.1 HG.out
    have HF1 := Lib.hid f1
    have HF2 := Lib.hid f2
    have HF3 := Lib.hid f3
    have HLN := Lib.hid (fun c => hby_len h c HK.out.src HK.out.dst HK.out.row.len)
    have HBY := Lib.hid (fun c => hby_byt h c HK.out.srcb HK.out.dstb HK.out.row.byt)
    obtain ⟨r0, r1⟩ := @fld_range (ws 0 (hby h 0)) (ws_range _ 0 (HBY.out 0)).1
    have HC : Hid (0 ≤ hck h ∧ hck h ≤ 65535) := by show _ ∧ _; unfold hck; omega
    clear f1 f2 f3 f4 r0 r1
    go_enter Try.func10, Try.ntmps10
    go_wp2_with (refine ldRH _ rfl rfl _ rfl h HR.out ?_)
    refine (r5Right_any h _ _ HK.out HM.out).mono ?_
    rintro e w1 ⟨rfl, hb⟩
    have HB2 : Hid (Below w.heap.size w w1) := HB1.out.trans (hb.mono (by simp))
    have hr1 := range_kept hb HR.out
    clear hb
    rw [HG.out]
    go_wp2_with fail
    refine wp_region_held_drew (S := fun w' => World.rangeAt w' w.heap.size 0 (rhc h)) (by kernel_rfl) hr1 (fun hS => ?_)
    refine tk 0 7 (.agg (rhc h).toArray) rfl rfl (by kernel_rfl) (by kernel_rfl) (by kernel_rfl) (fun _ _ _ h => h) (yieldsIf_load_mid (by rfl) _ _ rfl (w.heap.size) 0 rfl (rhc h) _ (fun w' h' => h') Try.underlying29 rfl (infRH)) hS ?_
    refine tk 1 8 (.agg (rhc h).toArray) rfl rfl (by kernel_rfl) (by kernel_rfl) (by kernel_rfl) (fun _ _ _ h => h) (yieldsIf_load_mid (by rfl) _ _ rfl (w.heap.size) 0 rfl (rhc h) _ (fun w' h' => h') Try.underlying29 rfl (infRH)) hS ?_
    try simp only [Act.put, List.setIfInBounds_toArray, List.set_cons_zero, List.set_cons_succ]
    refine wpAnyH_ready (rs := [2]) (by kernel_rfl) (by simp) (AllReadyH.cons rfl (fun K hK => ?_) AllReadyH.nil)
    rw [if_pos (by rfl)]
    go_wp2_with fail
    refine (r5stands_any h 0 _ _ HK.out HF1.out (by have := HF3.out; omega) (by omega) (by omega) HF2.out).mono ?_
    rintro e w2 ⟨a2, n2, c2, rfl, hown, hb2⟩
    have hr2 := range_kept (undrew hb2) hr1
    have HB3 : Hid (Below w.heap.size w w2) := HB2.out.trans ((undrew hb2).mono HB2.out.size)
    have HO2 := Lib.hid hown
    clear hb2 hown
    clear hS
    refine hK.out _ _ hr2 (fun hS => ?_)
    clear hK K
    try simp only [Act.put, List.setIfInBounds_toArray, List.set_cons_zero, List.set_cons_succ]
    refine wpAnyH_ready (rs := [3]) (by kernel_rfl) (by simp) (AllReadyH.cons rfl (fun K hK => ?_) AllReadyH.nil)
    rw [if_pos (by rfl)]
    go_wp2_with fail
    refine (r3Of_any _ _ _ (hby h 0) _ HO2.out.len HO2.out.rd (HBY.out 0) (by have h1 := HO2.out.len; have h2 := HLN.out 0; have h3 := HF3.out; omega)).mono ?_
    rintro e w3 ⟨rfl, hb3⟩
    have hr3 := range_kept hb3 hr2
    have HB4 : Hid (Below w.heap.size w w3) := HB3.out.trans (hb3.mono HB3.out.size)
    clear hb3
    rw [show 65535 - fld (ws 0 (hby h 0)) = hck h from rfl]
    clear hS
    refine hK.out _ _ hr3 (fun hS => ?_)
    clear hK K
    try simp only [Act.put, List.setIfInBounds_toArray, List.set_cons_zero, List.set_cons_succ]
    refine wpAnyH_ready (rs := [4]) (by kernel_rfl) (by simp) (AllReadyH.cons rfl (fun K hK => ?_) AllReadyH.nil)
    rw [if_pos (by rfl)]
    go_wp2_with fail
    refine (r5stands_any h (hck h) _ _ HK.out HF1.out (by have := HF3.out; omega) HC.out.1 HC.out.2 HF2.out).mono ?_
    rintro e w4 ⟨a4, n4, c4, rfl, hown, hb4⟩
    have hr4 := range_kept hb4 hr3
    have HB5 : Hid (Below w.heap.size w w4) := HB4.out.trans (hb4.mono HB4.out.size)
    have HO4 : Hid (Own w4 w.heap.size a4 n4 c4 (hfull h)) := by show Own _ _ _ _ _ _; rw [hfull_eq]; exact hown.mono HB4.out.size
    clear hb4 hown
    clear hS
    refine hK.out _ _ hr4 (fun hS => ?_)
    clear hK K
    refine tk 5 2 (.slice a4 n4 c4) rfl rfl (by kernel_rfl) (by kernel_rfl) (by kernel_rfl) (fun _ _ _ h => h) (Or.inl ⟨by rfl, fun w' h => ?_⟩) hS ?_
    · go_simp
    refine tk 6 3 (.int .i64 0) rfl rfl (by kernel_rfl) (by kernel_rfl) (by kernel_rfl) (fun _ _ _ h => h) (Or.inl ⟨by rfl, fun w' h => ?_⟩) hS ?_
    · go_simp
    refine wpAnyH_done (by kernel_rfl) ?_ _
    go_wp2_with fail
    go_ret2
    exact ⟨HB5.out, .inl ⟨HG.out, a4, n4, c4, rfl, HO4.out⟩⟩
end Go.Proofs.Ytjnbnjdajkhkpaa

/-
  The contract of a queue's iterator, for whatever a round keeps. Conditions: a queue. (Made by gen_fieach.py.)
-/
import Derived.Test.YtpigpeehhadkjaaFiPush
import Derived.Test.YtpigpeehhadkjaaFiRange
import Derived.RangeFuncNested
import Derived.RangeFuncBound
import Derived.RangeFuncCalls
import Derived.RangeFuncLeaves
import Derived.RangeFuncBox
import Derived.Shelf.Abstract
import Derived.Shelf.RegionOpen
import Derived.OwnWalkIn
import Derived.TacticsInMore
import Derived.LoopNIn
import Derived.LoopIn
namespace Go.Proofs.Ytpigpeehhadkjaa
open Go.RowKit Go.Shelf
attribute [local go_sem] Oper.semAt_some

theorem run_makeCopied (W : World) (v : Value) : (Instr.makeFunc (.func 63) #[v] #[]).run Try.prog W = .ok (.func (.func 63) #[v] #[]) W := rfl

set_option maxRecDepth 100000 in
set_option maxHeartbeats 2000000 in
theorem each_in (m l B g : Nat) (q : Qs) (J : Nat → World → Prop) (Jx : World → Prop)
    (hJ : ∀ k W W', J k W → Below W.heap.size W W' → J k W') (hJq : ∀ k W, J k W → Qu W B g q)
    (hY : ∀ k x W, J k W → q.L[k]? = some x → YieldAt Fence.wide (m - 1) Try.prog l #[.func (.func 63) #[x.v] #[]] W fun e W' => (e = .returned (.bool true) ∧ J (k + 1) W') ∨ (e = .returned (.bool false) ∧ Jx W'))
    (W : World) (h0 : J 0 W) :
    CallsIn Fence.wide m Try.prog 50 #[.pointer (some ⟨g, 0, none⟩), .func (.yield l) #[] #[]] W fun e W' => (∃ v, e = .returned v) ∧ (J q.L.length W' ∨ Jx W') := by
  have HJ := Lib.hid hJ
  have HJQ := Lib.hid hJq
  have HY := Lib.hid hY
  have H0 := Lib.hid h0
  have hlen : q.L.length ≤ 65536 := by
    have h := (hJq 0 W h0).ok
    have h1 := h.le
    have h2 := h.mI
    have h3 := h.I1
    omega
  clear hJ hJq hY h0
  refine callsIn_of_wp Try.func50 rfl trivial ?_ rfl
  simp only [Try.ntmps50, List.size_toArray, List.length_cons, List.length_nil, Nat.reduceAdd, Nat.reduceSub, Array.replicate_succ, Array.replicate_zero, List.push_toArray, List.append_toArray, List.nil_append, List.cons_append]
  gi_wp2
  refine ⟨trivial, fun h => by simp [Fence.wide] at h, (callsIn_wide.2 (fLen_any B g q _ (HJQ.out 0 W H0.out))).mono ?_⟩
  rintro e w1 ⟨rfl, hw1⟩
  subst hw1
  gi_wp2
  gi_loopw [7] (fun s wr => ∃ k : Nat, k ≤ q.L.length ∧ s = .int .i64 k ∧ Hid (J k wr)) (fun s _ => q.L.length - (intOf s).toNat)
  case atStart => exact ⟨0, Nat.zero_le _, rfl, H0.out⟩
  case round =>
    obtain ⟨k, hk, rfl, hj⟩ := hrel
    by_cases hlt : k < q.L.length
    · have hlti : (k : Int) < (q.L.length : Int) := by omega
      obtain ⟨x, hx⟩ : ∃ x, q.L[k]? = some x := ⟨_, List.getElem?_eq_getElem hlt⟩
      have HXK := Lib.hid hx
      have hq := HJQ.out k _ hj.out
      have hne : q.R ≠ [] := by
        intro e
        have := hq.ok.le
        rw [e] at this
        simp at this
        rw [this] at hlt
        simp at hlt
      obtain ⟨r, ha, hBr, hring⟩ := hq.ring hne
      obtain ⟨mm, hm⟩ : ∃ z, q.R.length = z := ⟨_, rfl⟩
      have hm1 : mm ≤ 65536 := by have h1 := hq.ok.mI; have h2 := hq.ok.I1; omega
      have hf1 := hq.ok.fl hne
      have hxr := hq.ok.at_ k x hx
      obtain ⟨p, hp⟩ : ∃ z, (q.f + k) % mm = z := ⟨_, rfl⟩
      rw [hm, hp] at hxr
      have hpm : p < mm := by rw [← hp]; exact Nat.mod_lt _ (by omega)
      have hpi : (p : Int) < (mm : Int) := by omega
      have hp0 : (0 : Int) ≤ (p : Int) := by omega
      have hp3 : p < 1000000 := by omega
      have HM : Hid (q.a = some ⟨r, 0, none⟩ ∧ q.R.length = mm ∧ (q.f + k) % mm = p ∧ q.f < mm ∧ mm ≤ 65536 ∧ q.R[p]? = some x) := ⟨ha, hm, hp, by omega, hm1, hxr⟩
      have HK : Hid (k < q.L.length) := hlt
      clear hx hq hne ha hBr hring hm hm1 hf1 hxr hp hpm hlt
      gi_wp2
      refine wpIn_region_any (by kernel_rfl) ?_
      have hbd : Below wr.heap.size wr wr.drew := (Below.refl _ _).drew
      have H1 := Lib.hid (HJ.out k wr wr.drew hj.out hbd)
      obtain ⟨w1, hw1⟩ : ∃ z, wr.drew = z := ⟨_, rfl⟩
      change wpAnyIn _ _ _ _ _ _ _ _ _ wr.drew
      rw [hw1]
      rw [hw1] at H1
      clear hw1 hbd hj
      refine wpAnyIn_take (i := 0) (v := .func (.yield l) #[] #[]) rfl rfl (by kernel_rfl) (by kernel_rfl) (by kernel_rfl) (fun _ _ _ h => h) ⟨Or.inl ⟨by rfl, fun w' => by go_simp⟩, fun _ => rfl⟩ ?_
      try simp only [Act.put, List.setIfInBounds_toArray]
      refine wpAnyIn_take (i := 1) (v := .pointer (some ⟨g, 0, none⟩)) rfl rfl (by kernel_rfl) (by kernel_rfl) (by kernel_rfl) (fun _ _ _ h => h) ⟨Or.inl ⟨by rfl, fun w' => by go_simp⟩, fun _ => rfl⟩ ?_
      try simp only [Act.put]
      refine wpAnyIn_take (i := 2) (v := .pointer (some ⟨g, 0, none⟩)) rfl rfl (by kernel_rfl) (by kernel_rfl) (by kernel_rfl) (fun _ _ _ h => h) ⟨Or.inl ⟨by rfl, fun w' => by go_simp⟩, fun _ => rfl⟩ ?_
      try simp only [Act.put]
      refine wpAnyIn_take (i := 3) (v := .pointer (some ⟨g, 2, none⟩)) rfl rfl (by kernel_rfl) (by kernel_rfl) (by kernel_rfl) (fun _ _ _ h => h) ⟨Or.inl ⟨by rfl, fun w' => by go_simp⟩, fun _ => rfl⟩ ?_
      try simp only [Act.put]
      refine wpAnyIn_take (i := 5) (v := .pointer (some ⟨g, 0, none⟩)) rfl rfl (by kernel_rfl) (by kernel_rfl) (by kernel_rfl) (fun _ _ _ h => h) ⟨Or.inl ⟨by rfl, fun w' => by go_simp⟩, fun _ => rfl⟩ ?_
      try simp only [Act.put]
      refine wpAnyIn_take (i := 6) (v := .int .i64 (k : Int)) rfl rfl (by kernel_rfl) (by kernel_rfl) (by kernel_rfl) (fun _ _ _ h => h) ⟨Or.inl ⟨by rfl, fun w' => by go_simp⟩, fun _ => rfl⟩ ?_
      try simp only [Act.put]
      refine wpAnyIn_ready (rs := [4, 7]) (by kernel_rfl) (by simp) (AllReadyIn.cons rfl (fun K hK => ?_) (AllReadyIn.cons rfl (fun K hK => ?_) AllReadyIn.nil))
      · rw [if_pos (by rfl)]
        have c2 : w1.cell? ⟨g, 2, none⟩ = some (.slice (some ⟨r, 0, none⟩) mm mm) := by have := (HJQ.out k _ H1.out).c2; rw [HM.out.1, HM.out.2.1] at this; exact this
        go_simp
        refine hK _ _ ?_
        clear hK K
        clear c2
        try simp only [Act.put, List.setIfInBounds_toArray, List.set_cons_zero, List.set_cons_succ]
        refine wpAnyIn_ready (rs := [7]) (by kernel_rfl) (by simp) (AllReadyIn.cons rfl (fun K hK => ?_) AllReadyIn.nil)
        rw [if_pos (by rfl)]
        gi_wp2
        refine ⟨trivial, fun h => by simp [Fence.wide] at h, (callsIn_wide.2 (fPlace_any g q.f k mm (some ⟨r, 0, none⟩) _ (by have := (HJQ.out k _ H1.out).c2; rw [HM.out.1, HM.out.2.1] at this; exact this) (HJQ.out k _ H1.out).c3 (by have := HM.out.2.2.2.1; omega) (by have := HM.out.2.2.2.2.1; omega) (by have := HM.out.2.2.2.1; have := HM.out.2.2.2.2.1; omega) (by omega))).mono ?_⟩
        rintro e w2 ⟨rfl, md, hmd⟩
        rw [HM.out.2.2.1]
        have H2 : Hid (J k w2) := HJ.out k w1 w2 H1.out (by rw [hmd]; exact ⟨rfl, rfl, rfl, Nat.le_refl _, fun _ _ => rfl⟩)
        clear hmd H1
        refine hK _ _ ?_
        clear hK K
        try simp only [Act.put, List.setIfInBounds_toArray, List.set_cons_zero, List.set_cons_succ]
        refine wpAnyIn_take (i := 8) (v := .pointer (some ⟨r, p * 3, none⟩)) rfl rfl (by kernel_rfl) (by kernel_rfl) (by kernel_rfl) (fun _ _ _ h => h) ⟨Or.inl ⟨by rfl, fun w' => by go_simp⟩, fun _ => rfl⟩ ?_
        have hq := HJQ.out k _ H2.out
        obtain ⟨_, hring⟩ := hq.ringAt HM.out.1
        have hcs := ring_at hring HM.out.2.2.2.2.2
        have d0 : w2.cell? ⟨r, p * 3, none⟩ = some (.int .u64 x.no) := hcs 0 _ rfl
        have d1 : w2.cell? ⟨r, p * 3 + 1, none⟩ = some (.int .i64 x.sz) := hcs 1 _ rfl
        have d2 : w2.cell? ⟨r, p * 3 + 2, none⟩ = some (.slice x.a x.n x.c) := hcs 2 _ rfl
        clear hq hring hcs
        try simp only [Act.put, List.setIfInBounds_toArray]
        refine wpAnyIn_ready (rs := [9]) (by kernel_rfl) (by simp) (AllReadyIn.cons rfl (fun K hK => ?_) AllReadyIn.nil)
        go_simp
        refine hK _ _ ?_
        clear hK K
        clear d0 d1 d2
        try simp only [Act.put, List.setIfInBounds_toArray, List.set_cons_zero, List.set_cons_succ]
        refine wpAnyIn_take (i := 10) (v := .func (.func 63) #[.agg #[.int .u64 x.no, .int .i64 x.sz, .slice x.a x.n x.c]] #[]) rfl rfl (by kernel_rfl) (by kernel_rfl) (by kernel_rfl) (fun _ _ _ h => h) ⟨Or.inl ⟨by rfl, fun w' => by go_simp⟩, fun _ => rfl⟩ ?_
        have hYk : YieldAt Fence.wide (m - 1) Try.prog l #[.func (.func 63) #[.agg #[.int .u64 x.no, .int .i64 x.sz, .slice x.a x.n x.c]] #[]] w2 (fun e W' => (e = .returned (.bool true) ∧ J (k + 1) W') ∨ (e = .returned (.bool false) ∧ Jx W')) := HY.out k x _ H2.out HXK.out
        obtain ⟨fn, tmps, assign, body, hy, hR⟩ := hYk
        have HRR := Lib.hid hR
        clear hR
        try simp only [Act.put, List.setIfInBounds_toArray]
        refine wpAnyIn_ready (rs := [11]) (by kernel_rfl) (by simp) (AllReadyIn.cons rfl (fun K hK => ?_) AllReadyIn.nil)
        rw [if_pos (by rfl)]
        gi_wp2
        refine ⟨fun h => by simp [Fence.wide] at h, HRR.out.mono ?_⟩
        rintro e W3 (⟨rfl, hJ3⟩ | ⟨rfl, hX3⟩)
        · have HJ3 := Lib.hid hJ3
          clear hJ3
          refine hK _ _ ?_
          clear hK K
          try simp only [Act.put, List.setIfInBounds_toArray, List.set_cons_zero, List.set_cons_succ]
          refine wpAnyIn_take (i := 12) (v := .bool false) rfl rfl (by kernel_rfl) (by kernel_rfl) (by kernel_rfl) (fun _ _ _ h => h) ⟨Or.inl ⟨by rfl, fun w' => by go_simp⟩, fun _ => rfl⟩ ?_
          refine wpAnyIn_done (by kernel_rfl) ?_ _
          gi_wp2
          go_roundw
          case rel => exact ⟨k + 1, HK.out, by go_num, HJ3.out⟩
          case measure =>
            have := HK.out
            simp [intOf]
            omega
        · have HX3 := Lib.hid hX3
          clear hX3
          refine hK _ _ ?_
          clear hK K
          try simp only [Act.put, List.setIfInBounds_toArray, List.set_cons_zero, List.set_cons_succ]
          refine wpAnyIn_take (i := 12) (v := .bool true) rfl rfl (by kernel_rfl) (by kernel_rfl) (by kernel_rfl) (fun _ _ _ h => h) ⟨Or.inl ⟨by rfl, fun w' => by go_simp⟩, fun _ => rfl⟩ ?_
          refine wpAnyIn_done (by kernel_rfl) ?_ _
          gi_wp2
          refine bodyPost_ret (results_none rfl _ _ _) rfl ?_
          exact ⟨⟨_, rfl⟩, .inr HX3.out⟩
      · rw [if_pos (by rfl)]
        gi_wp2
        refine ⟨trivial, fun h => by simp [Fence.wide] at h, (callsIn_wide.2 (fPlace_any g q.f k mm (some ⟨r, 0, none⟩) _ (by have := (HJQ.out k _ H1.out).c2; rw [HM.out.1, HM.out.2.1] at this; exact this) (HJQ.out k _ H1.out).c3 (by have := HM.out.2.2.2.1; omega) (by have := HM.out.2.2.2.2.1; omega) (by have := HM.out.2.2.2.1; have := HM.out.2.2.2.2.1; omega) (by omega))).mono ?_⟩
        rintro e w2 ⟨rfl, md, hmd⟩
        rw [HM.out.2.2.1]
        have H2 : Hid (J k w2) := HJ.out k w1 w2 H1.out (by rw [hmd]; exact ⟨rfl, rfl, rfl, Nat.le_refl _, fun _ _ => rfl⟩)
        clear hmd H1
        refine hK _ _ ?_
        clear hK K
        have c2 : w2.cell? ⟨g, 2, none⟩ = some (.slice (some ⟨r, 0, none⟩) mm mm) := by have := (HJQ.out k _ H2.out).c2; rw [HM.out.1, HM.out.2.1] at this; exact this
        try simp only [Act.put, List.setIfInBounds_toArray, List.set_cons_zero, List.set_cons_succ]
        refine wpAnyIn_ready (rs := [4]) (by kernel_rfl) (by simp) (AllReadyIn.cons rfl (fun K hK => ?_) AllReadyIn.nil)
        rw [if_pos (by rfl)]
        go_simp
        refine hK _ _ ?_
        clear hK K
        clear c2
        try simp only [Act.put, List.setIfInBounds_toArray, List.set_cons_zero, List.set_cons_succ]
        refine wpAnyIn_take (i := 8) (v := .pointer (some ⟨r, p * 3, none⟩)) rfl rfl (by kernel_rfl) (by kernel_rfl) (by kernel_rfl) (fun _ _ _ h => h) ⟨Or.inl ⟨by rfl, fun w' => by go_simp⟩, fun _ => rfl⟩ ?_
        have hq := HJQ.out k _ H2.out
        obtain ⟨_, hring⟩ := hq.ringAt HM.out.1
        have hcs := ring_at hring HM.out.2.2.2.2.2
        have d0 : w2.cell? ⟨r, p * 3, none⟩ = some (.int .u64 x.no) := hcs 0 _ rfl
        have d1 : w2.cell? ⟨r, p * 3 + 1, none⟩ = some (.int .i64 x.sz) := hcs 1 _ rfl
        have d2 : w2.cell? ⟨r, p * 3 + 2, none⟩ = some (.slice x.a x.n x.c) := hcs 2 _ rfl
        clear hq hring hcs
        try simp only [Act.put, List.setIfInBounds_toArray]
        refine wpAnyIn_ready (rs := [9]) (by kernel_rfl) (by simp) (AllReadyIn.cons rfl (fun K hK => ?_) AllReadyIn.nil)
        go_simp
        refine hK _ _ ?_
        clear hK K
        clear d0 d1 d2
        try simp only [Act.put, List.setIfInBounds_toArray, List.set_cons_zero, List.set_cons_succ]
        refine wpAnyIn_take (i := 10) (v := .func (.func 63) #[.agg #[.int .u64 x.no, .int .i64 x.sz, .slice x.a x.n x.c]] #[]) rfl rfl (by kernel_rfl) (by kernel_rfl) (by kernel_rfl) (fun _ _ _ h => h) ⟨Or.inl ⟨by rfl, fun w' => by go_simp⟩, fun _ => rfl⟩ ?_
        have hYk : YieldAt Fence.wide (m - 1) Try.prog l #[.func (.func 63) #[.agg #[.int .u64 x.no, .int .i64 x.sz, .slice x.a x.n x.c]] #[]] w2 (fun e W' => (e = .returned (.bool true) ∧ J (k + 1) W') ∨ (e = .returned (.bool false) ∧ Jx W')) := HY.out k x _ H2.out HXK.out
        obtain ⟨fn, tmps, assign, body, hy, hR⟩ := hYk
        have HRR := Lib.hid hR
        clear hR
        try simp only [Act.put, List.setIfInBounds_toArray]
        refine wpAnyIn_ready (rs := [11]) (by kernel_rfl) (by simp) (AllReadyIn.cons rfl (fun K hK => ?_) AllReadyIn.nil)
        rw [if_pos (by rfl)]
        gi_wp2
        refine ⟨fun h => by simp [Fence.wide] at h, HRR.out.mono ?_⟩
        rintro e W3 (⟨rfl, hJ3⟩ | ⟨rfl, hX3⟩)
        · have HJ3 := Lib.hid hJ3
          clear hJ3
          refine hK _ _ ?_
          clear hK K
          try simp only [Act.put, List.setIfInBounds_toArray, List.set_cons_zero, List.set_cons_succ]
          refine wpAnyIn_take (i := 12) (v := .bool false) rfl rfl (by kernel_rfl) (by kernel_rfl) (by kernel_rfl) (fun _ _ _ h => h) ⟨Or.inl ⟨by rfl, fun w' => by go_simp⟩, fun _ => rfl⟩ ?_
          refine wpAnyIn_done (by kernel_rfl) ?_ _
          gi_wp2
          go_roundw
          case rel => exact ⟨k + 1, HK.out, by go_num, HJ3.out⟩
          case measure =>
            have := HK.out
            simp [intOf]
            omega
        · have HX3 := Lib.hid hX3
          clear hX3
          refine hK _ _ ?_
          clear hK K
          try simp only [Act.put, List.setIfInBounds_toArray, List.set_cons_zero, List.set_cons_succ]
          refine wpAnyIn_take (i := 12) (v := .bool true) rfl rfl (by kernel_rfl) (by kernel_rfl) (by kernel_rfl) (fun _ _ _ h => h) ⟨Or.inl ⟨by rfl, fun w' => by go_simp⟩, fun _ => rfl⟩ ?_
          refine wpAnyIn_done (by kernel_rfl) ?_ _
          gi_wp2
          refine bodyPost_ret (results_none rfl _ _ _) rfl ?_
          exact ⟨⟨_, rfl⟩, .inr HX3.out⟩
    · have hkl : k = q.L.length := by omega
      have HJL : Hid (J q.L.length wr) := by rw [← hkl]; exact hj.out
      have hlti : ¬ (k : Int) < (q.L.length : Int) := by omega
      clear hj hkl hlt
      gi_wp2
      go_end0
      exact ⟨⟨_, rfl⟩, .inl HJL.out⟩
end Go.Proofs.Ytpigpeehhadkjaa

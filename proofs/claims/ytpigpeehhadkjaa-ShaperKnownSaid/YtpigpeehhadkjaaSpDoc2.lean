/-
  The document's shaper: when. Conditions: a lane with its numbers in their bounds. (Made by gen_spdoc.py.)
-/
import Derived.Test.YtpigpeehhadkjaaSpDoc
namespace Go.Proofs.Ytpigpeehhadkjaa
open Go.RowKit Bkt

structure WS (g rb rq xb xo i : Nat) (d : Ds) (x : Dl) (w : World) : Prop where
  c0 : w.cell? ⟨g, 0, none⟩ = some (.int .u64 d.T)
  c1 : w.cell? ⟨g, 1, none⟩ = some (.slice (some ⟨rb, 0, none⟩) d.n d.cb)
  c2 : w.cell? ⟨g, 2, none⟩ = some (.slice (some ⟨rq, 0, none⟩) d.n d.cq)
  rg : w.rangeAt rb (i * 4) x.ab.b.cs
  q0 : w.cell? ⟨rq, i * 4, none⟩ = some (.slice (some ⟨xb, xo, none⟩) x.n x.c)
  sz : w.cell? ⟨xb, xo + 1, none⟩ = some (.int .i64 x.ab.A.hd.sz)
theorem WS.below {g rb rq xb xo i : Nat} {d : Ds} {x : Dl} {w w' : World} (h : WS g rb rq xb xo i d x w) (k : Below w.heap.size w w') : WS g rb rq xb xo i d x w' :=
  ⟨cell_kept k h.c0, cell_kept k h.c1, cell_kept k h.c2, range_kept k h.rg, cell_kept k h.q0, cell_kept k h.sz⟩

set_option maxRecDepth 100000 in
set_option maxHeartbeats 1000000 in
/-- when: the head of a lane's queue goes out. -/
theorem dWhen_any (B g : Nat) (d : Ds) (i : Nat) (x : Dl) (w : World) (h : Dw w B g d) (hx : d.ls[i]? = some x) (ok : x.ab.ok d.T) :
    Calls Try.prog 58 #[.pointer (some ⟨g, 0, none⟩), .int .i64 (i : Int)] w (Gives w (.tuple #[.int .u64 (tuV d.T x.ab).at_, .bool (tuV d.T x.ab).ev])) := by
  have c0 := h.c0
  have c1 := h.c1
  have c2 := h.c2
  obtain ⟨rb, hvb, hrb, _⟩ := h.bs.nth Dl.bl (by decide) hx
  obtain ⟨rq, hvq, hrq, _⟩ := h.qs.nth Dl.ql (by decide) hx
  obtain ⟨hit, hnc⟩ := h.its x (List.mem_of_getElem? hx)
  have hi := (List.getElem?_eq_some_iff.1 hx).1
  rw [h.len] at hi
  have hi2 : (i : Int) < (d.n : Int) := by omega
  have hi0 : (0 : Int) ≤ (i : Int) := by omega
  have hxl := hit.len
  rw [hvb] at c1
  rw [hvq] at c2
  have q0 : w.cell? ⟨rq, i * 4, none⟩ = some (.slice x.a x.n x.c) := hrq 0 _ rfl
  by_cases hn : x.n = 0
  · have hl : tuV d.T x.ab = ⟨0, false⟩ := by
      unfold tuV
      rw [if_pos (List.length_eq_zero_iff.1 (by omega))]
    rw [hn] at q0
    rw [hl]
    clear hl h hx ok hrb hrq hit hn hxl hnc
    go_enter Try.func58, Try.ntmps58
    go_wp2_with fail
    refine bodyPost_ret (v := .tuple #[.int .u64 0, .bool false]) (by simp [results, Try.results58, go_sem, *]) rfl ?_
    exact ⟨rfl, Below.refl _ _⟩
  · have hne : x.ab.A.l ≠ [] := fun e => by rw [e] at hxl; simp at hxl; omega
    have hl : tuV d.T x.ab = ⟨max (whV x.ab.b x.ab.A.hd.sz) d.T, whB x.ab.b x.ab.A.hd.sz⟩ := by
      unfold tuV
      rw [if_neg hne]
    rw [hl]
    obtain ⟨y, xb, xo, hy, hxa, hyr⟩ := hit.nth (k := 0) (by omega)
    have hhd : x.ab.A.hd = y := by
      unfold Aq.hd
      cases e : x.ab.A.l with
      | nil => exact absurd e hne
      | cons z t => rw [e] at hy; simpa using hy
    rw [hxa] at q0
    have hws : WS g rb rq xb xo i d x w := ⟨c0, c1, c2, hrb, q0, by rw [hhd]; have := hyr 1 _ rfl; simpa using this⟩
    have hh := ok.A
    have hz0 : 0 ≤ x.ab.A.hd.sz := ok.A.sz _ (hd_mem hne)
    have hz1 : x.ab.A.hd.sz ≤ 9223372036854775807 := by
      have h1 := szs_le ok.A.sz 1
      have h2 := ok.A.sum
      have h3 := ok.A.S1
      have h4 : szs (x.ab.A.l.take 1) = x.ab.A.hd.sz := by
        rw [hhd]
        cases e : x.ab.A.l with
        | nil => exact absurd e hne
        | cons z t => rw [e] at hy; simp at hy; subst hy; simp [szs]
      have h5 : x.ab.A.size = szs x.ab.A.l := rfl
      omega
    have HZ := Lib.hid (And.intro hz0 hz1)
    have HOK := Lib.hid ok.b
    have HWS := Lib.hid hws
    have ew : Hid (IntKind.u64.wrap x.ab.A.hd.sz = x.ab.A.hd.sz) := by show _ = _; rw [IntKind.wrap_u64]; omega
    have hn1 : (0 : Int) < (x.n : Int) := by omega
    have hn2 : (x.n == 0) = false := by simpa using hn
    obtain ⟨sz, hsz⟩ : ∃ z, x.ab.A.hd.sz = z := ⟨_, rfl⟩
    clear hl h hx ok hrb hrq hit hxl hnc hne hy hyr hhd hh hz0 hz1 hws hsz sz
    go_enter Try.func58, Try.ntmps58
    go_wp2_with fail
    have HS : Hid (WS g rb rq xb xo i d x w.drew) := HWS.out.below ((Below.refl _ _).drew)
    refine wp_region_held_drew (S := fun w' => WS g rb rq xb xo i d x w') (by kernel_rfl) HS.out (fun hS => ?_)
    refine tk 0 19 (.pointer (some ⟨g, 0, none⟩)) rfl rfl (by kernel_rfl) (by kernel_rfl) (by kernel_rfl) (fun _ _ _ h => h) (Or.inl ⟨by rfl, fun w' h' => ?_⟩) hS ?_
    · go_simp
    try simp only [Act.put, List.setIfInBounds_toArray, List.set_cons_zero, List.set_cons_succ]
    refine tk 1 20 (.pointer (some ⟨g, 0, none⟩)) rfl rfl (by kernel_rfl) (by kernel_rfl) (by kernel_rfl) (fun _ _ _ h => h) (Or.inl ⟨by rfl, fun w' h' => ?_⟩) hS ?_
    · go_simp
    try simp only [Act.put, List.setIfInBounds_toArray, List.set_cons_zero, List.set_cons_succ]
    refine tk 2 21 (.pointer (some ⟨g, 1, none⟩)) rfl rfl (by kernel_rfl) (by kernel_rfl) (by kernel_rfl) (fun _ _ _ h => h) (Or.inl ⟨by rfl, fun w' h' => ?_⟩) hS ?_
    · go_simp
    try simp only [Act.put, List.setIfInBounds_toArray, List.set_cons_zero, List.set_cons_succ]
    refine tk 3 22 (.slice (some ⟨rb, 0, none⟩) (d.n) (d.cb)) rfl rfl (by kernel_rfl) (by kernel_rfl) (by kernel_rfl) (fun _ _ _ h => h) (Or.inl ⟨by rfl, fun w' h' => ?_⟩) hS ?_
    · have a1 := h'.c1
      go_simp
    try simp only [Act.put, List.setIfInBounds_toArray, List.set_cons_zero, List.set_cons_succ]
    refine tk 4 23 (.int .i64 (i : Int)) rfl rfl (by kernel_rfl) (by kernel_rfl) (by kernel_rfl) (fun _ _ _ h => h) (Or.inl ⟨by rfl, fun w' h' => ?_⟩) hS ?_
    · go_simp
    try simp only [Act.put, List.setIfInBounds_toArray, List.set_cons_zero, List.set_cons_succ]
    refine tk 5 24 (.pointer (some ⟨rb, i * 4, none⟩)) rfl rfl (by kernel_rfl) (by kernel_rfl) (by kernel_rfl) (fun _ _ _ h => h) (Or.inl ⟨by rfl, fun w' h' => ?_⟩) hS ?_
    · go_simp
    try simp only [Act.put, List.setIfInBounds_toArray, List.set_cons_zero, List.set_cons_succ]
    refine tk 6 25 (.agg (x.ab.b.cs).toArray) rfl rfl (by kernel_rfl) (by kernel_rfl) (by kernel_rfl) (fun _ _ _ h => h) (yieldsIf_load_mid (by rfl) _ _ rfl (rb) (i * 4) rfl (x.ab.b.cs) _ (fun w' h' => h'.rg) Try.underlying101 rfl (infB)) hS ?_
    try simp only [Act.put, List.setIfInBounds_toArray, List.set_cons_zero, List.set_cons_succ]
    refine tk 7 26 (.pointer (some ⟨g, 0, none⟩)) rfl rfl (by kernel_rfl) (by kernel_rfl) (by kernel_rfl) (fun _ _ _ h => h) (Or.inl ⟨by rfl, fun w' h' => ?_⟩) hS ?_
    · go_simp
    try simp only [Act.put, List.setIfInBounds_toArray, List.set_cons_zero, List.set_cons_succ]
    refine tk 8 27 (.pointer (some ⟨g, 0, none⟩)) rfl rfl (by kernel_rfl) (by kernel_rfl) (by kernel_rfl) (fun _ _ _ h => h) (Or.inl ⟨by rfl, fun w' h' => ?_⟩) hS ?_
    · go_simp
    try simp only [Act.put, List.setIfInBounds_toArray, List.set_cons_zero, List.set_cons_succ]
    refine tk 9 28 (.pointer (some ⟨g, 2, none⟩)) rfl rfl (by kernel_rfl) (by kernel_rfl) (by kernel_rfl) (fun _ _ _ h => h) (Or.inl ⟨by rfl, fun w' h' => ?_⟩) hS ?_
    · go_simp
    try simp only [Act.put, List.setIfInBounds_toArray, List.set_cons_zero, List.set_cons_succ]
    refine tk 10 29 (.slice (some ⟨rq, 0, none⟩) (d.n) (d.cq)) rfl rfl (by kernel_rfl) (by kernel_rfl) (by kernel_rfl) (fun _ _ _ h => h) (Or.inl ⟨by rfl, fun w' h' => ?_⟩) hS ?_
    · have a1 := h'.c2
      go_simp
    try simp only [Act.put, List.setIfInBounds_toArray, List.set_cons_zero, List.set_cons_succ]
    refine tk 11 30 (.int .i64 (i : Int)) rfl rfl (by kernel_rfl) (by kernel_rfl) (by kernel_rfl) (fun _ _ _ h => h) (Or.inl ⟨by rfl, fun w' h' => ?_⟩) hS ?_
    · go_simp
    try simp only [Act.put, List.setIfInBounds_toArray, List.set_cons_zero, List.set_cons_succ]
    refine tk 12 31 (.pointer (some ⟨rq, i * 4, none⟩)) rfl rfl (by kernel_rfl) (by kernel_rfl) (by kernel_rfl) (fun _ _ _ h => h) (Or.inl ⟨by rfl, fun w' h' => ?_⟩) hS ?_
    · go_simp
    try simp only [Act.put, List.setIfInBounds_toArray, List.set_cons_zero, List.set_cons_succ]
    refine tk 13 32 (.pointer (some ⟨rq, i * 4, none⟩)) rfl rfl (by kernel_rfl) (by kernel_rfl) (by kernel_rfl) (fun _ _ _ h => h) (Or.inl ⟨by rfl, fun w' h' => ?_⟩) hS ?_
    · go_simp
    try simp only [Act.put, List.setIfInBounds_toArray, List.set_cons_zero, List.set_cons_succ]
    refine tk 14 33 (.slice (some ⟨xb, xo, none⟩) (x.n) (x.c)) rfl rfl (by kernel_rfl) (by kernel_rfl) (by kernel_rfl) (fun _ _ _ h => h) (Or.inl ⟨by rfl, fun w' h' => ?_⟩) hS ?_
    · have a1 := h'.q0
      go_simp
    try simp only [Act.put, List.setIfInBounds_toArray, List.set_cons_zero, List.set_cons_succ]
    refine tk 15 34 (.pointer (some ⟨xb, xo, none⟩)) rfl rfl (by kernel_rfl) (by kernel_rfl) (by kernel_rfl) (fun _ _ _ h => h) (Or.inl ⟨by rfl, fun w' h' => ?_⟩) hS ?_
    · go_simp
    try simp only [Act.put, List.setIfInBounds_toArray, List.set_cons_zero, List.set_cons_succ]
    refine tk 16 35 (.pointer (some ⟨xb, xo + 1, none⟩)) rfl rfl (by kernel_rfl) (by kernel_rfl) (by kernel_rfl) (fun _ _ _ h => h) (Or.inl ⟨by rfl, fun w' h' => ?_⟩) hS ?_
    · go_simp
    try simp only [Act.put, List.setIfInBounds_toArray, List.set_cons_zero, List.set_cons_succ]
    refine tk 17 36 (.int .i64 x.ab.A.hd.sz) rfl rfl (by kernel_rfl) (by kernel_rfl) (by kernel_rfl) (fun _ _ _ h => h) (Or.inl ⟨by rfl, fun w' h' => ?_⟩) hS ?_
    · have a1 := h'.sz
      go_simp
    try simp only [Act.put, List.setIfInBounds_toArray, List.set_cons_zero, List.set_cons_succ]
    refine tk 18 37 (.int .u64 x.ab.A.hd.sz) rfl rfl (by kernel_rfl) (by kernel_rfl) (by kernel_rfl) (fun _ _ _ h => h) (Or.inl ⟨by rfl, fun w' h' => ?_⟩) hS ?_
    · have e1 := ew.out
      go_simp
    try simp only [Act.put, List.setIfInBounds_toArray, List.set_cons_zero, List.set_cons_succ]
    refine wpAnyH_ready (rs := [19]) (by kernel_rfl) (by simp) (AllReadyH.cons rfl (fun K hK => ?_) AllReadyH.nil)
    rw [if_pos (by rfl)]
    go_wp2_with fail
    refine (rWhen_any x.ab.b x.ab.A.hd.sz _ HOK.out HZ.out.1 (by have := HZ.out.2; omega)).mono ?_
    rintro e w2 ⟨rfl, hb2⟩
    have H2 : Hid (Below w.heap.size w w2 ∧ WS g rb rq xb xo i d x w2) := ⟨((Below.refl _ _).drew).trans (hb2.mono (Nat.le_refl _)), HS.out.below hb2⟩
    clear hb2 HS
    clear hS
    refine hK.out _ _ (H2.out.2) (fun hS => ?_)
    clear hK K
    try simp only [Act.put, List.setIfInBounds_toArray, List.set_cons_zero, List.set_cons_succ]
    refine tk 20 18 (.tuple #[.int .u64 (whV x.ab.b x.ab.A.hd.sz), .bool (whB x.ab.b x.ab.A.hd.sz)]) rfl rfl (by kernel_rfl) (by kernel_rfl) (by kernel_rfl) (fun _ _ _ h => h) (Or.inl ⟨by rfl, fun w' h' => ?_⟩) hS ?_
    · go_simp
    try simp only [Act.put, List.setIfInBounds_toArray, List.set_cons_zero, List.set_cons_succ]
    refine tk 21 39 (.int .u64 (whV x.ab.b x.ab.A.hd.sz)) rfl rfl (by kernel_rfl) (by kernel_rfl) (by kernel_rfl) (fun _ _ _ h => h) (Or.inl ⟨by rfl, fun w' h' => ?_⟩) hS ?_
    · go_simp
    try simp only [Act.put, List.setIfInBounds_toArray, List.set_cons_zero, List.set_cons_succ]
    refine tk 22 40 (.bool (whB x.ab.b x.ab.A.hd.sz)) rfl rfl (by kernel_rfl) (by kernel_rfl) (by kernel_rfl) (fun _ _ _ h => h) (Or.inl ⟨by rfl, fun w' h' => ?_⟩) hS ?_
    · go_simp
    try simp only [Act.put, List.setIfInBounds_toArray, List.set_cons_zero, List.set_cons_succ]
    refine tk 23 6 (.int .u64 (whV x.ab.b x.ab.A.hd.sz)) rfl rfl (by kernel_rfl) (by kernel_rfl) (by kernel_rfl) (fun _ _ _ h => h) (Or.inl ⟨by rfl, fun w' h' => ?_⟩) hS ?_
    · go_simp
    try simp only [Act.put, List.setIfInBounds_toArray, List.set_cons_zero, List.set_cons_succ]
    refine tk 24 7 (.bool (whB x.ab.b x.ab.A.hd.sz)) rfl rfl (by kernel_rfl) (by kernel_rfl) (by kernel_rfl) (fun _ _ _ h => h) (Or.inl ⟨by rfl, fun w' h' => ?_⟩) hS ?_
    · go_simp
    refine wpAnyH_done (by kernel_rfl) ?_ _
    have cT := H2.out.2.c0
    obtain ⟨v, hv⟩ : ∃ z, whV x.ab.b x.ab.A.hd.sz = z := ⟨_, rfl⟩
    obtain ⟨bo, hbo⟩ : ∃ z, whB x.ab.b x.ab.A.hd.sz = z := ⟨_, rfl⟩
    rw [hv, hbo]
    by_cases hm : v < d.T
    · have hmx : max v d.T = d.T := by omega
      go_wp2_with fail
      go_ret2
      exact ⟨by first | rfl | (rw [hv, hbo, hmx]; rfl) | (rw [hmx]; rfl), H2.out.1⟩
    · have hmx : max v d.T = v := by omega
      go_wp2_with fail
      go_ret2
      exact ⟨by first | rfl | (rw [hv, hbo, hmx]; rfl) | (rw [hmx]; rfl), H2.out.1⟩
end Go.Proofs.Ytpigpeehhadkjaa

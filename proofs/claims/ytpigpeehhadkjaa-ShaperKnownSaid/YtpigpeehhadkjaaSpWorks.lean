/-
  The chapter's examples; ShaperNone's walk. Conditions: an act with at most so many bytes.
-/
import Derived.Test.YtpigpeehhadkjaaSpRelM
namespace Go.Proofs.Ytpigpeehhadkjaa
open Go.RowKit Bkt

def Yes (w : World) (e : Ending) (w' : World) : Prop := e = .returned (.bool true) ∧ Below w.heap.size w w'
def ix (n : Int) : It := ⟨0, n, []⟩
def wM0 : List Ab := [⟨1, 2048, 9, 9000⟩, ⟨2, 2048, 9, 9000⟩].map (Cs.new 5)
def wM1 : List Ab := offL wM0 1 (ix 2048)
def wM2 : List Ab := offL wM1 0 (ix 2000)
def wM3 : List Ab := offL wM2 1 (ix 3)
def wM4 : List Ab := (rel 5 5 wM3).1
theorem wF1 : offC wM0 1 (ix 2048) = 0 ∧ offC wM1 0 (ix 2000) = 0 ∧ offC wM2 1 (ix 3) = 0 := by refine ⟨?_, ?_, ?_⟩ <;> kernel_rfl
theorem wF2 : (rel 5 5 wM3).2 = [⟨5, 0, ix 2000⟩, ⟨5, 1, ix 2048⟩] := by kernel_rfl
theorem wF3 : nx 5 wM4 = ⟨1, 7, true⟩ := by kernel_rfl
theorem wF4 : (rel 9 5 wM4).2 = [⟨7, 1, ix 3⟩] := by kernel_rfl
theorem pn_at (n : Int) (W : World) : Pi.at_ ⟨0, n, none, 0, 0, []⟩ W := ⟨rfl, Rd.empty _ _, Byt.nil, by show 0 ≤ 1000000; decide⟩
theorem sRelease_nil (t : Int) (w : World) : Calls Try.prog 18 #[.pointer none, .int .u64 t] w fun e w' => e = .returned (.slice none 0 0) ∧ w' = w := by
  go_enter Try.func18, Try.ntmps18
  go_wp2_with fail
  go_ret
  exact ⟨rfl, rfl⟩
/-- What went out: cells of one. -/
theorem Ops.nth {W : World} {base : Nat} {v : Option Addr} {n cap : Nat} {ys : List Po} (h : Ops W base v n cap ys) {i : Nat} {p : Po} (hp : ys[i]? = some p) : ∃ r, v = some ⟨r, 0, none⟩ ∧ W.rangeAt r (i * 5) p.cs := by
  obtain ⟨r, e, h1, _⟩ := h.row.nth Po.len (by decide) hp
  exact ⟨r, e, h1⟩
theorem Ops.len {W : World} {base : Nat} {v : Option Addr} {n cap : Nat} {ys : List Po} (h : Ops W base v n cap ys) : ys.length = n := h.row.flat Po.len (by decide)

set_option maxRecDepth 100000 in
set_option maxHeartbeats 4000000 in
theorem works12_any (w : World) : Calls Try.prog 9 #[] w (Yes w) := by
  have hal : Below w.heap.size w (w.alloc (.cells #[.int .u64 1, .int .u64 2048, .int .i64 9, .int .i64 9000, .int .u64 2, .int .u64 2048, .int .i64 9, .int .i64 9000] 45)) := (Below.refl _ _).alloc (Nat.le_refl _) _
  have hr0 : (w.alloc (.cells #[.int .u64 1, .int .u64 2048, .int .i64 9, .int .i64 9000, .int .u64 2, .int .u64 2048, .int .i64 9, .int .i64 9000] 45)).heap[w.heap.size]? = some (.cells (([⟨1, 2048, 9, 9000⟩, ⟨2, 2048, 9, 9000⟩] : List Cs).flatMap Cs.cs).toArray 45 (0, 0)) := Blk_new _ _ _
  have HC : Hid (Rcs (w.alloc (.cells #[.int .u64 1, .int .u64 2048, .int .i64 9, .int .i64 9000, .int .u64 2, .int .u64 2048, .int .i64 9, .int .i64 9000] 45)) (some ⟨w.heap.size, 0, none⟩) 2 [⟨1, 2048, 9, 9000⟩, ⟨2, 2048, 9, 9000⟩]) := by
    refine ⟨rfl, fun x hx => ?_, fun _ => ⟨_, 0, rfl, fun i x hx => ?_⟩⟩
    · simp only [List.mem_cons, List.not_mem_nil, or_false] at hx
      rcases hx with rfl | rfl <;> exact ⟨by decide, by decide, by decide, by decide, by decide, by decide, by decide, by decide⟩
    · rw [Nat.zero_add]; exact frow_at Cs.len hr0 hx
  have HAL := Lib.hid hal
  have HM : Hid (mayB [⟨1, 2048, 9, 9000⟩, ⟨2, 2048, 9, 9000⟩] = true) := by show _ = _; kernel_rfl
  clear hal hr0
  go_enter Try.func9, Try.ntmps9
  go_wp2_with fail
  refine (lvNew 5 _ 2 2 _ HC.out (by decide) (by decide) HAL.out HM.out).mono ?_
  rintro e w1 ⟨g, s, rfl, hv, hT, hn, hab, _, _⟩
  have H1 : Hid (Lv w w1 g s 0 ∧ s.T = 5 ∧ s.abs = wM0) := ⟨hv, hT, hab⟩
  clear hv hT hn hab HC HM HAL
  go_wp2_with fail
  refine (lvOffer H1.out.1 (by decide) 1 ⟨0, 2048, none, 0, 0, []⟩ (pn_at _ _) (fun h => absurd rfl h)).mono ?_
  rintro e w2 ⟨rfl, s2, hv, hT, _, hab, _, _⟩
  rw [H1.out.2.2, show offC wM0 1 (Pi.it ⟨0, 2048, none, 0, 0, []⟩) = 0 from wF1.1]
  have H2 : Hid (Lv w w2 g s2 1 ∧ s2.T = 5 ∧ s2.abs = wM1) := ⟨hv, hT.trans H1.out.2.1, by rw [hab, H1.out.2.2]; rfl⟩
  clear hv hT hab H1
  go_wp2_with fail
  refine (lvOffer H2.out.1 (by decide) 0 ⟨0, 2000, none, 0, 0, []⟩ (pn_at _ _) (fun h => absurd rfl h)).mono ?_
  rintro e w3 ⟨rfl, s3, hv, hT, _, hab, _, _⟩
  rw [H2.out.2.2, show offC wM1 0 (Pi.it ⟨0, 2000, none, 0, 0, []⟩) = 0 from wF1.2.1]
  have H3 : Hid (Lv w w3 g s3 2 ∧ s3.T = 5 ∧ s3.abs = wM2) := ⟨hv, hT.trans H2.out.2.1, by rw [hab, H2.out.2.2]; rfl⟩
  clear hv hT hab H2
  go_wp2_with fail
  refine (lvOffer H3.out.1 (by decide) 1 ⟨0, 3, none, 0, 0, []⟩ (pn_at _ _) (fun h => absurd rfl h)).mono ?_
  rintro e w4 ⟨rfl, s4, hv, hT, _, hab, _, _⟩
  rw [H3.out.2.2, show offC wM2 1 (Pi.it ⟨0, 3, none, 0, 0, []⟩) = 0 from wF1.2.2]
  have H4 : Hid (Lv w w4 g s4 3 ∧ s4.T = 5 ∧ s4.abs = wM3) := ⟨hv, hT.trans H3.out.2.1, by rw [hab, H3.out.2.2]; rfl⟩
  clear hv hT hab H3
  go_wp2_with fail
  refine (lvRelease H4.out.1 (by decide) 5 (by decide)).mono ?_
  rintro e w5 ⟨v, n, cap, ys, s5, rfl, ho, hot, hv, hT, _, hab, _, hf5⟩
  rw [H4.out.2.1, show max (5 : Int) 5 = 5 by decide] at hT hot hab
  rw [H4.out.2.2] at hot hab
  have HTOP : Hid (∀ k, s5.foot g k → k < w4.heap.size) := fun k hk => (H4.out.1.sw.foot_lt (hf5 k hk)).2
  rw [wF2] at hot
  have H5 : Hid (Lv w w5 g s5 3 ∧ s5.T = 5 ∧ s5.abs = wM4 ∧ Ops w5 w4.heap.size v n cap ys ∧ ys.map Po.ot = [⟨5, 0, ix 2000⟩, ⟨5, 1, ix 2048⟩]) := ⟨hv, hT, hab, ho, hot⟩
  have hn2 : n = 2 := by
    rw [← ho.len]
    have := congrArg List.length hot
    simpa using this
  subst hn2
  clear hv hT hab ho hot H4 hf5
  go_wp2_with fail
  refine (sNext_any w.heap.size g s5 w5 H5.out.1.sw H5.out.1.n1).mono ?_
  rintro e w6 ⟨rfl, hb6⟩
  rw [H5.out.2.1, H5.out.2.2.1, wF3]
  have H6 : Hid (Lv w w6 g s5 3 ∧ s5.T = 5 ∧ s5.abs = wM4 ∧ Ops w6 w4.heap.size v 2 cap ys ∧ ys.map Po.ot = [⟨5, 0, ix 2000⟩, ⟨5, 1, ix 2048⟩]) := ⟨H5.out.1.past hb6, H5.out.2.1, H5.out.2.2.1, H5.out.2.2.2.1.below hb6, H5.out.2.2.2.2⟩
  clear hb6 H5
  go_wp2_with fail
  refine (lvRelease H6.out.1 (by decide) 9 (by decide)).mono ?_
  rintro e w7 ⟨v2, n2, cap2, ys2, s7, rfl, ho, hot, hv, hT, _, hab, hk, hf⟩
  rw [H6.out.2.1, H6.out.2.2.1, show max (9 : Int) 5 = 9 by decide] at hot
  rw [wF4] at hot
  have hn2 : n2 = 1 := by
    rw [← ho.len]
    have := congrArg List.length hot
    simpa using this
  subst hn2
  have ho1 := H6.out.2.2.2.1.keep hk (fun i hi hb => by have := HTOP.out i hi; omega)
  have HB : Hid (Below w.heap.size w w7) := hv.below
  obtain ⟨p0, p1, hys⟩ : ∃ p0 p1, ys = [p0, p1] := by
    have := H6.out.2.2.2.2
    match ys, this with
    | [p0, p1], _ => exact ⟨p0, p1, rfl⟩
  obtain ⟨q0, hqs⟩ : ∃ q0, ys2 = [q0] := by
    match ys2, hot with
    | [q0], _ => exact ⟨q0, rfl⟩
  have h2 := H6.out.2.2.2.2
  rw [hys] at h2 ho1
  rw [hqs] at hot ho
  simp only [List.map_cons, List.map_nil, List.cons.injEq, and_true] at h2 hot
  obtain ⟨r, e1, g0⟩ := ho1.nth (i := 0) (p := p0) rfl
  obtain ⟨r', e2, g1⟩ := ho1.nth (i := 1) (p := p1) rfl
  obtain ⟨r2, e3, g2⟩ := ho.nth (i := 0) (p := q0) rfl
  have hrr : r' = r := by rw [e1] at e2; simpa using e2.symm
  subst hrr
  have t0 : p0.t = 5 := congrArg Ot.t h2.1
  have t1 : p1.t = 5 := congrArg Ot.t h2.2
  have t2 : q0.t = 7 := congrArg Ot.t hot
  have u0 : p0.c = 0 := congrArg Ot.c h2.1
  have u1 : p1.c = 1 := congrArg Ot.c h2.2
  have u2 : q0.c = 1 := congrArg Ot.c hot
  have a0 : w7.cell? ⟨r', 0, none⟩ = some (.int .u64 5) := by rw [← t0]; exact g0 0 _ rfl
  have a1 : w7.cell? ⟨r', 1, none⟩ = some (.int .i64 0) := by have := g0 1 _ rfl; rw [u0] at this; exact this
  have a5 : w7.cell? ⟨r', 5, none⟩ = some (.int .u64 5) := by rw [← t1]; exact g1 0 _ rfl
  have a6 : w7.cell? ⟨r', 6, none⟩ = some (.int .i64 1) := by have := g1 1 _ rfl; rw [u1] at this; exact this
  have b0 : w7.cell? ⟨r2, 0, none⟩ = some (.int .u64 7) := by rw [← t2]; exact g2 0 _ rfl
  have b1 : w7.cell? ⟨r2, 1, none⟩ = some (.int .i64 1) := by have := g2 1 _ rfl; rw [u2] at this; exact this
  rw [e1, e3]
  clear hot ho hv hT hab hk hf ho1 h2 g0 g1 g2 t0 t1 t2 u0 u1 u2 e1 e2 e3 H6 HTOP hys hqs
  go_wp2_with fail
  go_ret
  exact ⟨rfl, HB.out⟩
end Go.Proofs.Ytpigpeehhadkjaa

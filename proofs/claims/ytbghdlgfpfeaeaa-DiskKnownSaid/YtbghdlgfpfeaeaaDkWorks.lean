/-
  The chapter's examples. No conditions.
-/
import Derived.Test.YtbghdlgfpfeaeaaDkLv
import Derived.Test.YtbghdlgfpfeaeaaRefRows
namespace Go.Proofs.Ytbghdlgfpfeaeaa
open Go.RowKit

def Yes (w : World) (e : Ending) (w' : World) : Prop := e = .returned (.bool true) ∧ Below w.heap.size w w'
theorem byt_lit {xs : List Int} (h : xs.all (fun x => decide (0 ≤ x ∧ x < 256)) = true) : Byt xs := by
  intro x hx
  have := List.all_eq_true.1 h x hx
  simpa using this
theorem rd_lit (w : World) (xs : List Int) : Rd (w.alloc (.cells (bv xs).toArray 5)) (some ⟨w.heap.size, 0, none⟩) xs := rd_of (RdK.lit .u8 w 5 xs)
theorem fts_lit (w : World) (f : Ft) : Fts (w.alloc (.cells #[.int .i64 f.1, .int .i64 f.2] 44)) (some ⟨w.heap.size, 0, none⟩) 1 [f] := by
  refine ⟨rfl, fun _ => ⟨w.heap.size, 0, rfl, fun i q hq => ?_⟩⟩
  match i, hq with
  | 0, hq =>
    simp at hq
    subst hq
    exact ⟨by rw [cell_of_row _ _ _ _ _ (0, 0) (Blk_new w _ _)]; rfl, by rw [cell_of_row _ _ _ _ _ (0, 0) (Blk_new w _ _)]; rfl⟩
theorem al (w : World) (o : Obj) : Below w.heap.size w (w.alloc o) := (Below.refl _ _).alloc (Nat.le_refl _) _
def wL1 : List (Int × List Int) := [(0, [1, 2])]
def wD1 : List Int := [1, 2, 0, 0, 0, 0, 0, 0]
def wL2 : List (Int × List Int) := [(1, [3, 4, 5])]
theorem wF1 : rcV (nz 8) 0 2 = 0 ∧ putP (nz 8) [] 0 [1, 2] = wL1 ∧ nowP (nz 8) wL1 = wD1 ∧ rcV wD1 1 3 = 0 ∧ putP wD1 [] 1 [3, 4, 5] = wL2 := by refine ⟨?_, ?_, ?_, ?_, ?_⟩ <;> decide
theorem wF2 : cutD (nowP wD1 wL2) 0 4 = [1, 3, 4, 5] ∧ cutD wD1 0 4 = [1, 2, 0, 0] ∧ nowP wD1 (trimP wL2 [(2, 2)]) = [1, 3, 4, 0, 0, 0, 0, 0] ∧ nowP wD1 (trimP wL2 []) = wD1 := by refine ⟨?_, ?_, ?_, ?_⟩ <;> decide
theorem wF3 : cutD (nowP [1, 3, 4, 0, 0, 0, 0, 0] []) 0 4 = [1, 3, 4, 0] ∧ cutD (nowP wD1 []) 0 4 = [1, 2, 0, 0] ∧ rcV [1, 3, 4, 0, 0, 0, 0, 0] 7 2 = 130 := by refine ⟨?_, ?_, ?_⟩ <;> decide
theorem dec_true {p : Prop} [Decidable p] (h : p) : decide p = true := decide_eq_true h

set_option maxRecDepth 100000 in
set_option maxHeartbeats 4000000 in
theorem works13_any (w : World) : Calls Try.prog 8 #[] w (Yes w) := by
  go_enter Try.func8, Try.ntmps8
  go_wp2_with fail
  refine (dkNew_any 8 w (by decide)).mono ?_
  rintro e w1 ⟨g, rfl, hg, ⟨a, c, hd⟩, hb⟩
  have H1 : Hid (∃ k, Ms w w1 [.disk g k] ∧ k.d = nz 8 ∧ k.ws = []) := ⟨_, (Ms.nil w).add (t := .disk g _) hb hd, rfl, rfl⟩
  clear hg hd hb a c
  obtain ⟨k1, HM1, hk1, hl1⟩ := H1.out
  have HK1 : Hid (Ms w w1 [.disk g k1] ∧ k1.d = nz 8 ∧ k1.ws = []) := ⟨HM1, hk1, hl1⟩
  clear H1 HM1 hk1 hl1
  go_wp2_with fail
  refine (dkWrite_step w.heap.size g k1 0 (some ⟨w1.heap.size, 0, none⟩) 2 2 [1, 2] _ (HK1.out.1.past (al _ _)).hd (by unfold I64; decide) rfl (rd_lit w1 [1, 2]) (byt_lit (by decide)) (by rw [ws_len, HK1.out.2.2]; decide)).mono ?_
  rintro e w2 ⟨rfl, k2, hs, hd, hl⟩
  rw [HK1.out.2.1, show rcV (nz 8) 0 ((2 : Nat) : Int) = 0 from wF1.1]
  have HK2 : Hid (Ms w w2 [.disk g k2] ∧ k2.d = nz 8 ∧ k2.ws = wL1) := ⟨(HK1.out.1.past (al _ _)).disk hs, hd.trans HK1.out.2.1, by rw [hl, HK1.out.2.1, HK1.out.2.2]; exact wF1.2.1⟩
  clear hs hd hl HK1
  go_wp2_with fail
  refine (dkSync_step w.heap.size g k2 _ HK2.out.1.hd).mono ?_
  rintro e w3 ⟨rfl, k3, hs, hd, hl⟩
  have HK3 : Hid (Ms w w3 [.disk g k3] ∧ k3.d = wD1 ∧ k3.ws = []) := ⟨HK2.out.1.disk hs, by rw [hd, HK2.out.2.1, HK2.out.2.2]; exact wF1.2.2.1, hl⟩
  clear hs hd hl HK2
  go_wp2_with fail
  refine (dkWrite_step w.heap.size g k3 1 (some ⟨w3.heap.size, 0, none⟩) 3 3 [3, 4, 5] _ (HK3.out.1.past (al _ _)).hd (by unfold I64; decide) rfl (rd_lit w3 [3, 4, 5]) (byt_lit (by decide)) (by rw [ws_len, HK3.out.2.2]; decide)).mono ?_
  rintro e w4 ⟨rfl, k4, hs, hd, hl⟩
  rw [HK3.out.2.1, show rcV wD1 1 ((3 : Nat) : Int) = 0 from wF1.2.2.2.1]
  have HK4 : Hid (Ms w w4 [.disk g k4] ∧ k4.d = wD1 ∧ k4.ws = wL2) := ⟨(HK3.out.1.past (al _ _)).disk hs, hd.trans HK3.out.2.1, by rw [hl, HK3.out.2.1, HK3.out.2.2]; exact wF1.2.2.2.2⟩
  clear hs hd hl HK3
  go_wp2_with fail
  refine (dkRead_step w.heap.size g k4 0 4 _ HK4.out.1.hd (by rw [HK4.out.2.1]; decide)).mono ?_
  rintro e w5 ⟨a1, n1, c1, rfl, ho, hb⟩
  rw [HK4.out.2.1, HK4.out.2.2, wF2.1] at ho
  have HK5 : Hid (Ms w w5 [.disk g k4, .row a1 n1 c1 [1, 3, 4, 5]]) := (HK4.out.1.add (t := .row a1 n1 c1 [1, 3, 4, 5]) hb ho).to1
  clear ho hb
  go_wp2_with fail
  refine (dkDurable_any w.heap.size g k4 0 4 _ HK5.out.hd (by rw [HK4.out.2.1]; decide)).mono ?_
  rintro e w6 ⟨a2, n2, c2, rfl, ho, hb⟩
  rw [HK4.out.2.1, wF2.2.1] at ho
  have HK6 : Hid (Ms w w6 [.disk g k4, .row a2 n2 c2 [1, 2, 0, 0], .row a1 n1 c1 [1, 3, 4, 5]]) := (HK5.out.add (t := .row a2 n2 c2 [1, 2, 0, 0]) hb ho).to1
  clear ho hb HK5
  go_wp2_with fail
  refine (dkCopy_any w.heap.size g k4 _ HK6.out.hd (by rw [ws_len, HK4.out.2.2]; decide)).mono ?_
  rintro e w7 ⟨h, kc, rfl, hc, hcd, hcl, hb⟩
  have HK7 : Hid (Ms w w7 [.disk g k4, .disk h kc, .row a2 n2 c2 [1, 2, 0, 0], .row a1 n1 c1 [1, 3, 4, 5]] ∧ kc.d = wD1 ∧ kc.ws = wL2) := ⟨(HK6.out.add (t := .disk h kc) hb hc).to1, hcd.trans HK4.out.2.1, hcl.trans HK4.out.2.2⟩
  clear hc hcd hcl hb HK6
  go_wp2_with fail
  refine (dkCrash_step w.heap.size g k4 (some ⟨w7.heap.size, 0, none⟩) 1 1 [(2, 2)] _ (HK7.out.1.past (al _ _)).hd (fts_lit w7 (2, 2)) (by decide) (fun _ r hr hr2 => ?_)).mono ?_
  · have := (Th.lt HK7.out.1.hd (i := r) (.inr (.inl hr2))).2
    simp [blk] at hr
    omega
  rintro e w8 ⟨rfl, k8, hs, hd, hl⟩
  have HK8 : Hid (Ms w w8 [.disk h kc, .disk g k8, .row a2 n2 c2 [1, 2, 0, 0], .row a1 n1 c1 [1, 3, 4, 5]] ∧ k8.d = [1, 3, 4, 0, 0, 0, 0, 0] ∧ k8.ws = []) := ⟨((HK7.out.1.past (al _ _)).disk hs).to1, by rw [hd, HK4.out.2.1, HK4.out.2.2]; exact wF2.2.2.1, hl⟩
  have HC := Lib.hid HK7.out.2
  clear hs hd hl HK7 HK4
  go_wp2_with fail
  refine (dkCrash_step w.heap.size h kc none 0 0 [] _ HK8.out.1.hd ⟨rfl, fun h => absurd rfl h⟩ (by decide) (fun _ r hr => by cases hr)).mono ?_
  rintro e w9 ⟨rfl, k9, hs, hd, hl⟩
  have HK9 : Hid (Ms w w9 [.disk g k8, .disk h k9, .row a2 n2 c2 [1, 2, 0, 0], .row a1 n1 c1 [1, 3, 4, 5]] ∧ k9.d = wD1 ∧ k9.ws = []) := ⟨(HK8.out.1.disk hs).to1, by rw [hd, HC.out.1, HC.out.2]; exact wF2.2.2.2, hl⟩
  have HG := Lib.hid HK8.out.2
  clear hs hd hl HK8 HC
  go_wp2_with fail
  refine (dkRead_step w.heap.size g k8 0 4 _ HK9.out.1.hd (by rw [HG.out.1]; decide)).mono ?_
  rintro e w10 ⟨a3, n3, c3, rfl, ho, hb⟩
  rw [HG.out.1, HG.out.2, wF3.1] at ho
  have HK10 : Hid (Ms w w10 [.disk h k9, .disk g k8, .row a3 n3 c3 [1, 3, 4, 0], .row a2 n2 c2 [1, 2, 0, 0], .row a1 n1 c1 [1, 3, 4, 5]]) := (HK9.out.1.add (t := .row a3 n3 c3 [1, 3, 4, 0]) hb ho).to2.perm (List.Perm.cons _ (List.Perm.swap _ _ _))
  clear ho hb
  go_wp2_with fail
  refine (dkRead_step w.heap.size h k9 0 4 _ HK10.out.hd (by rw [HK9.out.2.1]; decide)).mono ?_
  rintro e w11 ⟨a4, n4, c4, rfl, ho, hb⟩
  rw [HK9.out.2.1, HK9.out.2.2, wF3.2.1] at ho
  have HK11 : Hid (Ms w w11 [.disk g k8, .row a4 n4 c4 [1, 2, 0, 0], .disk h k9, .row a3 n3 c3 [1, 3, 4, 0], .row a2 n2 c2 [1, 2, 0, 0], .row a1 n1 c1 [1, 3, 4, 5]]) := (HK10.out.add (t := .row a4 n4 c4 [1, 2, 0, 0]) hb ho).to2
  clear ho hb HK9 HK10
  have P1 : Hid (∀ W, Below w11.heap.size w11 W → Own W w.heap.size a1 n1 c1 [1, 3, 4, 5] ∧ Own W w.heap.size a2 n2 c2 [1, 2, 0, 0] ∧ Own W w.heap.size a3 n3 c3 [1, 3, 4, 0] ∧ Own W w.heap.size a4 n4 c4 [1, 2, 0, 0]) := fun W hW =>
    ⟨(HK11.out.past hW).ok (.row a1 n1 c1 [1, 3, 4, 5]) (by simp), (HK11.out.past hW).ok (.row a2 n2 c2 [1, 2, 0, 0]) (by simp), (HK11.out.past hW).ok (.row a3 n3 c3 [1, 3, 4, 0]) (by simp), (HK11.out.past hW).ok (.row a4 n4 c4 [1, 2, 0, 0]) (by simp)⟩
  have hN := P1.out w11 (Below.refl _ _)
  have hn1 : 4 = n1 := hN.1.len
  have hn2 : 4 = n2 := hN.2.1.len
  have hn3 : 4 = n3 := hN.2.2.1.len
  have hn4 : 4 = n4 := hN.2.2.2.len
  subst hn1 hn2 hn3 hn4
  clear hN
  obtain ⟨x0, hx0⟩ : ∃ z, w11.alloc (.cells #[.int .u8 1, .int .u8 3, .int .u8 4, .int .u8 5] 5) = z := ⟨_, rfl⟩
  have Hx0 : Hid (Below w11.heap.size w11 x0 ∧ Rd x0 (some ⟨w11.heap.size, 0, none⟩) [1, 3, 4, 5]) := ⟨by rw [← hx0]; exact al _ _, by rw [← hx0]; exact rd_lit w11 [1, 3, 4, 5]⟩
  have HBx0 : Hid (Below w11.heap.size w11 x0) := Hx0.out.1
  have HEx0 := Lib.hid hx0
  clear hx0
  obtain ⟨x1, hx1⟩ : ∃ z, x0.alloc (.cells #[.int .u8 1, .int .u8 2, .int .u8 0, .int .u8 0] 5) = z := ⟨_, rfl⟩
  have Hx1 : Hid (Below x0.heap.size x0 x1 ∧ Rd x1 (some ⟨x0.heap.size, 0, none⟩) [1, 2, 0, 0]) := ⟨by rw [← hx1]; exact al _ _, by rw [← hx1]; exact rd_lit x0 [1, 2, 0, 0]⟩
  have HBx1 : Hid (Below w11.heap.size w11 x1) := HBx0.out.trans (Hx1.out.1.mono HBx0.out.size)
  have HEx1 := Lib.hid hx1
  clear hx1
  obtain ⟨x2, hx2⟩ : ∃ z, x1.alloc (.cells #[.int .u8 1, .int .u8 3, .int .u8 4, .int .u8 0] 5) = z := ⟨_, rfl⟩
  have Hx2 : Hid (Below x1.heap.size x1 x2 ∧ Rd x2 (some ⟨x1.heap.size, 0, none⟩) [1, 3, 4, 0]) := ⟨by rw [← hx2]; exact al _ _, by rw [← hx2]; exact rd_lit x1 [1, 3, 4, 0]⟩
  have HBx2 : Hid (Below w11.heap.size w11 x2) := HBx1.out.trans (Hx2.out.1.mono HBx1.out.size)
  have HEx2 := Lib.hid hx2
  clear hx2
  obtain ⟨x3, hx3⟩ : ∃ z, x2.alloc (.cells #[.int .u8 1, .int .u8 2, .int .u8 0, .int .u8 0] 5) = z := ⟨_, rfl⟩
  have Hx3 : Hid (Below x2.heap.size x2 x3 ∧ Rd x3 (some ⟨x2.heap.size, 0, none⟩) [1, 2, 0, 0]) := ⟨by rw [← hx3]; exact al _ _, by rw [← hx3]; exact rd_lit x2 [1, 2, 0, 0]⟩
  have HBx3 : Hid (Below w11.heap.size w11 x3) := HBx2.out.trans (Hx3.out.1.mono HBx2.out.size)
  have HEx3 := Lib.hid hx3
  clear hx3
  obtain ⟨x4, hx4⟩ : ∃ z, x3.alloc (.cells #[.int .u8 1, .int .u8 2] 5) = z := ⟨_, rfl⟩
  have Hx4 : Hid (Below x3.heap.size x3 x4 ∧ Rd x4 (some ⟨x3.heap.size, 0, none⟩) [1, 2]) := ⟨by rw [← hx4]; exact al _ _, by rw [← hx4]; exact rd_lit x3 [1, 2]⟩
  have HM4 : Hid (Ms w x4 [.disk g k8]) := ((HK11.out.past HBx3.out).past Hx4.out.1).sub (by simp)
  have HEx4 := Lib.hid hx4
  clear hx4
  go_wp2_with fail
  rw [HEx0.out]
  refine (same_any a1 (some ⟨w11.heap.size, 0, none⟩) 4 c1 4 4 [1, 3, 4, 5] [1, 3, 4, 5] x0 rfl rfl (P1.out _ HBx0.out).1.rd Hx0.out.2 (byt_lit (by decide)) (byt_lit (by decide))).mono ?_
  rintro e wz ⟨rfl, hw⟩
  subst hw
  rw [dec_true rfl]
  go_wp2_with fail
  rw [HEx1.out]
  refine (same_any a2 (some ⟨x0.heap.size, 0, none⟩) 4 c2 4 4 [1, 2, 0, 0] [1, 2, 0, 0] x1 rfl rfl (P1.out _ HBx1.out).2.1.rd Hx1.out.2 (byt_lit (by decide)) (byt_lit (by decide))).mono ?_
  rintro e wz ⟨rfl, hw⟩
  subst hw
  rw [dec_true rfl]
  go_wp2_with fail
  rw [HEx2.out]
  refine (same_any a3 (some ⟨x1.heap.size, 0, none⟩) 4 c3 4 4 [1, 3, 4, 0] [1, 3, 4, 0] x2 rfl rfl (P1.out _ HBx2.out).2.2.1.rd Hx2.out.2 (byt_lit (by decide)) (byt_lit (by decide))).mono ?_
  rintro e wz ⟨rfl, hw⟩
  subst hw
  rw [dec_true rfl]
  go_wp2_with fail
  rw [HEx3.out]
  refine (same_any a4 (some ⟨x2.heap.size, 0, none⟩) 4 c4 4 4 [1, 2, 0, 0] [1, 2, 0, 0] x3 rfl rfl (P1.out _ HBx3.out).2.2.2.rd Hx3.out.2 (byt_lit (by decide)) (byt_lit (by decide))).mono ?_
  rintro e wz ⟨rfl, hw⟩
  subst hw
  rw [dec_true rfl]
  go_wp2_with fail
  rw [HEx4.out]
  refine (dkWrite_step w.heap.size g k8 7 (some ⟨x3.heap.size, 0, none⟩) 2 2 [1, 2] x4 HM4.out.hd (by unfold I64; decide) rfl Hx4.out.2 (byt_lit (by decide)) (by rw [ws_len, HG.out.2]; decide)).mono ?_
  rintro e wz ⟨rfl, kz, hs, _, _⟩
  rw [HG.out.1, show rcV [1, 3, 4, 0, 0, 0, 0, 0] 7 ((2 : Nat) : Int) = 130 from wF3.2.2]
  have HZ : Hid (Below w.heap.size w wz) := (HM4.out.disk hs).below
  clear hs
  go_wp2_with fail
  go_ret
  exact ⟨rfl, HZ.out⟩
end Go.Proofs.Ytbghdlgfpfeaeaa

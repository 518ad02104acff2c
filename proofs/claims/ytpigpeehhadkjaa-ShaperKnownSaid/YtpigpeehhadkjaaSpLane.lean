/-
  The contracts of a lane's send, offer, head, stat. Conditions: those that the theorems name.
-/
import Derived.Test.YtpigpeehhadkjaaSpLeaf
namespace Go.Proofs.Ytpigpeehhadkjaa
open Go.RowKit Bkt

theorem Kept.set3 {S : Nat → Prop} (w : World) (p q r : Addr) (u v x : Value) (hS : S p.block) (h2 : S q.block) (h3 : S r.block) : Kept S w (((w.setCell p u).setCell q v).setCell r x) :=
  ((Kept.setCell (S := S) w p u hS).trans (Kept.setCell (S := S) _ q v h2) (fun _ _ e => e)).trans (Kept.setCell (S := S) _ r x h3) (fun _ _ e => e)
/-- What send has: a lane, the result's block, the item's. -/
structure Sn (w W : World) (B : Nat) (m l : La) (n1 : Nat) (y : Pi) : Prop where
  lw : Lw W B l
  res : ∃ u0 u1 u2, W.heap[w.heap.size]? = some (.cells #[u0, u1, u2] 40 (0, 0))
  box : W.heap[n1]? = some (.cells y.cs.toArray 40 (0, 0))
  own : Own W (w.heap.size + 1) y.a y.n y.c y.d
  ge : w.heap.size + 1 ≤ n1
  nb : ∀ b, blk y.a = some b → b ≠ n1
  lt : ∀ k, l.foot k → m.foot k
  top : ∀ k, m.foot k → k < w.heap.size
  kept : Kept m.foot w W
theorem Sn.did {w W W' : World} {B : Nat} {m l l' : La} {n1 : Nat} {y : Pi} (h : Sn w W B m l n1 y) (hl : Lw W' B l') (k : Kept l.foot W W') (hf : ∀ k, l'.foot k → l.foot k) : Sn w W' B m l' n1 y := by
  have hn : ∀ k, w.heap.size ≤ k → ¬ l.foot k := fun k hk e => by have := h.top k (h.lt k e); omega
  refine ⟨hl, ?_, k.heap h.box (hn _ (by have := h.ge; omega)), h.own.keep k (fun b hb => hn b (by have := (h.own.blk_ge b hb).1; omega)), h.ge, h.nb, fun i hi => h.lt i (hf i hi), h.top, h.kept.trans k (fun i _ e => h.lt i e)⟩
  obtain ⟨u0, u1, u2, hr⟩ := h.res
  exact ⟨u0, u1, u2, k.heap hr (hn _ (Nat.le_refl _))⟩
/-- What a send answers. -/
def SendR (w : World) (B : Nat) (l : La) (t : Int) (e : Ending) (w' : World) : Prop :=
  ∃ (x y : Pi) (l' : La), e = .returned y.v ∧ l.q.L.head? = some x ∧ Twin w.heap.size x y w' ∧ Lw w' B l' ∧ l'.abs = l.abs.send t ∧ l'.g = l.g ∧ Kept l.foot w w' ∧ ∀ k, l'.foot k → l.foot k
theorem abs_hd {q : Qs} {x : Pi} {L : List Pi} (h : q.L = x :: L) : q.abs.hd = x.it := by
  unfold Aq.hd Qs.abs
  rw [h]; rfl

set_option maxRecDepth 100000 in
set_option maxHeartbeats 1000000 in
theorem send_any (B : Nat) (l : La) (t : Int) (w : World) (h : Lw w B l) (hne : l.q.L ≠ []) (t0 : 0 ≤ t) (t1 : t ≤ 18446744073709551615) :
    Calls Try.prog 42 #[.pointer (some ⟨l.g, 0, none⟩), .int .u64 t] w (SendR w B l t) := by
  have hb0 : ∀ o, Below w.heap.size w (w.alloc o) := fun o => (Below.refl _ _).alloc (Nat.le_refl _) _
  have H0 : Hid (∀ o, Lw (w.alloc o) B l) := fun o => h.below (hb0 o)
  have HL := Lib.hid h
  have HB0 := Lib.hid hb0
  have HNE := Lib.hid hne
  have c5 : (w.alloc (.cells #[.int .u64 0, .int .i64 0, .slice none 0 0] 40)).cell? ⟨l.g, 5, none⟩ = some (.pointer (some ⟨l.gq, 0, none⟩)) := (H0.out _).c5
  have hr0 : Hid ((w.alloc (.cells #[.int .u64 0, .int .i64 0, .slice none 0 0] 40)).heap[w.heap.size]? = some (.cells #[.int .u64 0, .int .i64 0, .slice none 0 0] 40 (0, 0))) := Blk_new _ _ _
  clear h hb0 hne
  go_enter Try.func42, Try.ntmps42
  go_wp2_with fail
  refine (fPop_any B l.gq l.q _ (H0.out _).qu).mono ?_
  rintro e w1 hp
  rcases hp with ⟨h0, _⟩ | ⟨x, L, y, q1, hL, rfl, hty, hq1, ha1, hk1, hf1⟩
  · exact absurd h0 HNE.out
  have hal := HL.out
  have hsz0 : (w.alloc (.cells #[.int .u64 0, .int .i64 0, .slice none 0 0] 40)).heap.size = w.heap.size + 1 := by simp
  rw [hsz0] at hty
  obtain ⟨hl1, hk1'⟩ := (H0.out (.cells #[.int .u64 0, .int .i64 0, .slice none 0 0] 40)).queue hq1 hk1
  have hz1 : w.heap.size + 1 ≤ w1.heap.size := by have := hk1.size; rw [hsz0] at this; exact this
  have hlt : ∀ k, l.foot k → k < w.heap.size := fun k hk => (HL.out.foot_lt hk).2
  have hres1 : w1.heap[w.heap.size]? = some (.cells #[.int .u64 0, .int .i64 0, .slice none 0 0] 40 (0, 0)) := hk1'.heap hr0.out (fun e => by have := hlt _ e; omega)
  have hys : 0 ≤ y.sz ∧ y.sz ≤ 9223372036854775807 := by
    have hx : x ∈ l.q.L := by rw [hL]; exact List.mem_cons_self
    have e1 := HL.out.qu.ok.sz x hx
    have e2 := HL.out.qu.ok.sum
    have e3 := HL.out.qu.ok.S1
    rw [hL, sumS_cons] at e2
    have e4 := sumS_pos (l := L) (fun z hz => HL.out.qu.ok.sz z (by rw [hL]; exact List.mem_cons_of_mem _ hz))
    rw [hty.sz]
    omega
  have HTY := Lib.hid hty
  have HX : Hid (l.q.L = x :: L) := hL
  have HA1 := Lib.hid ha1
  obtain ⟨yno, ysz, ya, yn, yc, yd⟩ := y
  simp only at hys
  have ew : IntKind.u64.wrap ysz = ysz := by rw [IntKind.wrap_u64]; omega
  have H2 : Hid (∀ W2 : World, Below w1.heap.size w1 W2 → W2.heap[w1.heap.size]? = some (.cells (Pi.cs ⟨yno, ysz, ya, yn, yc, yd⟩).toArray 40 (0, 0)) → Sn w W2 B l { l with q := q1 } w1.heap.size ⟨yno, ysz, ya, yn, yc, yd⟩) := by
    intro W2 hal1 hbx
    have hk2 : Kept l.foot w w1 := (Kept.alloc _ w _).trans hk1' (fun _ _ e => e)
    have hk3 : Kept (fun _ => False) w1 W2 := Kept.of_below hal1 (fun i hi hi' => by omega)
    refine ⟨hl1.below hal1, ⟨_, _, _, (hal1.block _ (by omega)).trans hres1⟩, hbx, ?_, hz1, fun b hb e => ?_, ?_, hlt, hk2.trans hk3 (fun _ _ e => e.elim)⟩
    · exact hty.own.keep hk3 (fun _ _ => id)
    · have := (hty.own.blk_ge b hb).2
      omega
    · rintro k (rfl | rfl | hk)
      · exact .inl rfl
      · exact .inr (.inl rfl)
      · exact .inr (.inr (hf1 k hk))
  have HS := Lib.hid hys
  clear hal hty hq1 ha1 hk1 hf1 hl1 hk1' hz1 hlt hres1 hL c5 hr0 hsz0
  rw [show (Pi.v ⟨yno, ysz, ya, yn, yc, yd⟩) = .agg #[.int .u64 yno, .int .i64 ysz, .slice ya yn yc] from rfl]
  have H3 : Hid (Sn w (w1.alloc (.cells #[.int .u64 yno, .int .i64 ysz, .slice ya yn yc] 40)) B l { l with q := q1 } w1.heap.size ⟨yno, ysz, ya, yn, yc, yd⟩) := H2.out _ ((Below.refl _ _).alloc (Nat.le_refl _) _) (Blk_new w1 _ _)
  have c4 : (w1.alloc (.cells #[.int .u64 yno, .int .i64 ysz, .slice ya yn yc] 40)).cell? ⟨l.g, 4, none⟩ = some (.pointer (some ⟨l.gb, 0, none⟩)) := H3.out.lw.c4
  clear H2
  go_wp2_with fail
  refine (take_any l.gb t ysz l.b _ H3.out.lw.bk t0 t1 HS.out.1).mono ?_
  rintro e w2 ⟨rfl, hb2, hk2⟩
  obtain ⟨hl2, hk2'⟩ := H3.out.lw.bucket hb2 hk2
  have H4 : Hid (Sn w w2 B l { l with q := q1, b := l.b.took t ysz } w1.heap.size ⟨yno, ysz, ya, yn, yc, yd⟩) := H3.out.did hl2 hk2' (fun _ h => h)
  clear hb2 hk2 hl2 hk2' H3 c4
  go_wp2_with fail
  refine (cntU_any B _ 1 w2 H4.out.lw).mono ?_
  rintro e w3 ⟨rfl, hl3, hk3⟩
  have H5 : Hid (Sn w w3 B l { l with q := q1, b := l.b.took t ysz, u := up l.u 1 } w1.heap.size ⟨yno, ysz, ya, yn, yc, yd⟩) := H4.out.did hl3 hk3 (fun _ h => h)
  clear hl3 hk3 H4
  go_wp2_with fail
  refine (cntY_any B _ ysz w3 H5.out.lw).mono ?_
  rintro e w4 ⟨rfl, hl4, hk4⟩
  have H6 : Hid (Sn w w4 B l { l with q := q1, b := l.b.took t ysz, u := up l.u 1, y := up l.y ysz } w1.heap.size ⟨yno, ysz, ya, yn, yc, yd⟩) := H5.out.did hl4 hk4 (fun _ h => h)
  clear hl4 hk4 H5
  obtain ⟨u0, u1, u2, hr⟩ := H6.out.res
  have a0 := q3_0 hr
  have a1 := q3_1 hr
  have a2 := q3_2 hr
  have g0 : w4.frozen? ⟨w.heap.size, 0, none⟩ = false := frozen_of_row w4 _ 0 _ _ hr
  have g1 : w4.frozen? ⟨w.heap.size, 1, none⟩ = false := frozen_of_row w4 _ 1 _ _ hr
  have g2 : w4.frozen? ⟨w.heap.size, 2, none⟩ = false := frozen_of_row w4 _ 2 _ _ hr
  have b0 : w4.cell? ⟨w1.heap.size, 0, none⟩ = some (.int .u64 yno) := q3_0 H6.out.box
  have b1 : w4.cell? ⟨w1.heap.size, 1, none⟩ = some (.int .i64 ysz) := q3_1 H6.out.box
  have b2 : w4.cell? ⟨w1.heap.size, 2, none⟩ = some (.slice ya yn yc) := q3_2 H6.out.box
  have HF : Hid (∀ v0 v1 v2, SendR w B l t (.returned (.agg #[.int .u64 yno, .int .i64 ysz, .slice ya yn yc])) (((w4.setCell ⟨w.heap.size, 0, none⟩ v0).setCell ⟨w.heap.size, 1, none⟩ v1).setCell ⟨w.heap.size, 2, none⟩ v2)) := by
    intro v0 v1 v2
    have kk : Kept (fun i => i = w.heap.size) w4 (((w4.setCell ⟨w.heap.size, 0, none⟩ v0).setCell ⟨w.heap.size, 1, none⟩ v1).setCell ⟨w.heap.size, 2, none⟩ v2) := Kept.set3 w4 _ _ _ _ _ _ rfl rfl rfl
    have hn : ∀ k, l.foot k → k ≠ w.heap.size := fun k hk e => by have := H6.out.top k hk; omega
    refine ⟨x, ⟨yno, ysz, ya, yn, yc, yd⟩, _, rfl, by rw [HX.out]; rfl, ⟨HTY.out.no, HTY.out.sz, HTY.out.d, ?_⟩, H6.out.lw.keep kk (fun i hi e => hn i (H6.out.lt i hi) e), ?_, rfl, ?_, H6.out.lt⟩
    · exact (H6.out.own.keep kk (fun b hb e => by have := (H6.out.own.blk_ge b hb).1; omega)).mono (by omega)
    · have hh : l.abs.A.hd.sz = ysz := by
        show l.q.abs.hd.sz = ysz
        rw [abs_hd HX.out]
        exact HTY.out.sz.symm
      have hA : l.abs.A.pop = q1.abs := by
        show l.q.abs.pop = q1.abs
        rw [HA1.out]
        unfold Aq.pop Qs.abs
        rw [HX.out]
        rfl
      unfold Ab.send
      rw [hh, hA]
      rfl
    · refine ⟨kk.os.trans H6.out.kept.os, kk.tape.trans H6.out.kept.tape, kk.output.trans H6.out.kept.output, Nat.le_trans H6.out.kept.size kk.size, fun k hk hs => ?_⟩
      have := H6.out.kept.size
      rw [kk.block k (by omega) (by omega)]
      exact H6.out.kept.block k hk hs
  clear hr
  go_wp2_with fail
  refine bodyPost_ret (v := .agg #[.int .u64 yno, .int .i64 ysz, .slice ya yn yc]) (by simp [results, Try.results42, go_sem, *]) rfl ?_
  exact HF.out _ _ _
end Go.Proofs.Ytpigpeehhadkjaa

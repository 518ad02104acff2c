/-
  Plain facts: what Put answers is parsed as the header that it was; what is parsed is what Put answers, but for the checksum; a byte that is changed; a hop. Conditions: a header that is right, whose numbers fit their Go types.
-/
import Derived.Test.YtjnbnjdajkhkpaaIpRPut
import Derived.Test.YtjnbnjdajkhkpaaIpParses
namespace Go.Proofs.Ytjnbnjdajkhkpaa
open Go.RowKit

theorem be_one (v : Int) : be 1 v = [v % 256] := by simp [be]
theorem four {xs : List Int} (h : xs.length = 4) : ∃ a b c d, xs = [a, b, c, d] := by
  match xs, h with
  | [a, b, c, d], _ => exact ⟨a, b, c, d, rfl⟩
/-- A header's bytes, one by one. -/
def hcl (v t0 t1 t2 i1 i2 f1 f2 tt pp c1 c2 : Int) (s d op : List Int) : List Int := v :: t0 :: t1 :: t2 :: i1 :: i2 :: f1 :: f2 :: tt :: pp :: c1 :: c2 :: (s ++ (d ++ op))
theorem hby_cells {w : World} {h : Hd} {c : Int} (k : h.ok w) (hr : rgH h.frag h.tot h.n = true) (c0 : 0 ≤ c) (c1 : c ≤ 65535) :
    hby h c = hcl (69 + ((h.n / 4 : Nat) : Int)) h.tos (h.tot / 256) (h.tot % 256) (h.id / 256) (h.id % 256) (flw h.df h.mf h.frag / 256) (flw h.df h.mf h.frag % 256) h.ttl h.pro (c / 256) (c % 256) h.src h.dst h.op := by
  obtain ⟨r1, r2, r3, r4⟩ := rgH_iff.1 hr
  obtain ⟨x0, x1⟩ := @flw_range h.df h.mf h.frag k.frag.1 r1
  obtain ⟨f, hf⟩ : ∃ f, flw h.df h.mf h.frag = f := ⟨_, rfl⟩
  have q1 := k.tos
  have q2 := k.tot
  have q3 := k.id
  have q4 := k.ttl
  have q5 := k.pro
  have e1 : (64 + (5 + ((h.n / 4 : Nat) : Int))) % 256 = 69 + ((h.n / 4 : Nat) : Int) := by omega
  have e2 : h.tos % 256 = h.tos := by omega
  have e3 : h.tot / 256 % 256 = h.tot / 256 := by omega
  have e4 : h.id / 256 % 256 = h.id / 256 := by omega
  have e5 : flw h.df h.mf h.frag / 256 % 256 = flw h.df h.mf h.frag / 256 := by omega
  have e6 : h.ttl % 256 = h.ttl := by omega
  have e7 : h.pro % 256 = h.pro := by omega
  have e8 : c / 256 % 256 = c / 256 := by omega
  unfold hby hcl
  simp only [be_one, be_two, e1, e2, e3, e4, e5, e6, e7, e8, List.nil_append, List.cons_append, List.append_assoc]
theorem hdOf_hby {w : World} {h : Hd} {c : Int} (k : h.ok w) (hr : rgH h.frag h.tot h.n = true) (c0 : 0 ≤ c) (c1 : c ≤ 65535) (a : Option Addr) (n c' : Nat) :
    hdOf (hby h c) a n c' = { h with a := a, n := n, c := c' } := by
  obtain ⟨r1, r2, r3, r4⟩ := rgH_iff.1 hr
  obtain ⟨s0, s1, s2, s3, hs⟩ := four k.src
  obtain ⟨d0, d1, d2, d3, hd⟩ := four k.dst
  have w2 : h.tot / 256 * 256 + h.tot % 256 = h.tot := by omega
  have w4 : h.id / 256 * 256 + h.id % 256 = h.id := by omega
  have w6 : flw h.df h.mf h.frag / 256 * 256 + flw h.df h.mf h.frag % 256 = flw h.df h.mf h.frag := by omega
  have hfr := k.frag
  have b1 : decide (flw h.df h.mf h.frag / 16384 % 2 = 1) = h.df := by
    unfold flw; cases h.df <;> cases h.mf <;> simp <;> omega
  have b2 : decide (flw h.df h.mf h.frag / 8192 % 2 = 1) = h.mf := by
    unfold flw; cases h.df <;> cases h.mf <;> simp <;> omega
  have b3 : flw h.df h.mf h.frag % 8192 = h.frag := by
    unfold flw; cases h.df <;> cases h.mf <;> simp <;> omega
  rw [hby_cells k hr c0 c1, hs, hd]
  unfold hdOf hcl wordAt
  simp only [List.getD_cons_zero, List.getD_cons_succ, List.cons_append, List.nil_append, List.drop_succ_cons, List.drop_zero, List.take_succ_cons, List.take_zero, w2, w4, w6, b1, b2, b3]
theorem ws_hcl (v t0 t1 t2 i1 i2 f1 f2 tt pp c1 c2 s0 s1 s2 s3 d0 d1 d2 d3 : Int) (op : List Int) :
    ws 0 (hcl v t0 t1 t2 i1 i2 f1 f2 tt pp c1 c2 [s0, s1, s2, s3] [d0, d1, d2, d3] op) = v * 256 + t0 + (t1 * 256 + t2) + (i1 * 256 + i2) + (f1 * 256 + f2) + (tt * 256 + pp) + (c1 * 256 + c2) + (s0 * 256 + s1) + (s2 * 256 + s3) + (d0 * 256 + d1) + (d2 * 256 + d3) + ws 0 op := by
  have e : ws 20 op = ws 0 op := ws_par (by omega) op
  unfold hcl
  simp only [List.cons_append, List.nil_append, ws, wt, Nat.zero_add, Nat.reduceAdd, Nat.reduceMod, if_true, reduceIte, e, Nat.one_ne_zero]
  omega
/-- The sum of a header's bytes, with another checksum. -/
theorem ws_hby {w : World} {h : Hd} {c : Int} (k : h.ok w) (hr : rgH h.frag h.tot h.n = true) (c0 : 0 ≤ c) (c1 : c ≤ 65535) : ws 0 (hby h c) = ws 0 (hby h 0) + c := by
  obtain ⟨s0, s1, s2, s3, hs⟩ := four k.src
  obtain ⟨d0, d1, d2, d3, hd⟩ := four k.dst
  rw [hby_cells k hr c0 c1, hby_cells k hr (Int.le_refl 0) (by omega), hs, hd, ws_hcl, ws_hcl]
  omega
theorem hck_range {w : World} {h : Hd} (k : h.ok w) : 0 ≤ hck h ∧ hck h ≤ 65535 := by
  have := @fld_range (ws 0 (hby h 0)) (ws_range _ 0 (hby_byt h 0 k.srcb k.dstb k.row.byt)).1
  unfold hck; omega
theorem whl_hby {w : World} {h : Hd} (k : h.ok w) (hr : rgH h.frag h.tot h.n = true) : whl (ws 0 (hby h (hck h))) = true := by
  obtain ⟨r0, r1⟩ := hck_range k
  rw [ws_hby k hr r0 r1, whl, decide_eq_true_eq]
  have h1 := @fld_mod (ws 0 (hby h 0)) (ws_range _ 0 (hby_byt h 0 k.srcb k.dstb k.row.byt)).1
  unfold hck
  omega
/-- What Put answers, with bytes behind it, is parsed. -/
theorem psE_hby {w : World} {h : Hd} {c : Int} (k : h.ok w) (hr : rgH h.frag h.tot h.n = true) (c0 : 0 ≤ c) (c1 : c ≤ 65535) (hw : whl (ws 0 (hby h c)) = true) (ys : List Int) :
    psE (hby h c ++ ys) = 0 ∧ szV (hby h c ++ ys) = 20 + (h.n : Int) ∧ (hby h c ++ ys).take (20 + h.n) = hby h c ∧ (hby h c ++ ys).drop (20 + h.n) = ys := by
  obtain ⟨r1, r2, r3, r4⟩ := rgH_iff.1 hr
  obtain ⟨x0, x1⟩ := @flw_range h.df h.mf h.frag k.frag.1 r1
  have hl := hby_len h c k.src k.dst k.row.len
  have ht : (hby h c ++ ys).take (20 + h.n) = hby h c := by rw [← hl]; exact List.take_left
  have hd : (hby h c ++ ys).drop (20 + h.n) = ys := by rw [← hl]; exact List.drop_left
  have hl2 : (hby h c ++ ys).length = 20 + h.n + ys.length := by rw [List.length_append, hl]
  have g0 : (hby h c ++ ys).getD 0 0 = 69 + ((h.n / 4 : Nat) : Int) := by rw [hby_cells k hr c0 c1]; rfl
  have g2 : wordAt (hby h c ++ ys) 2 = h.tot / 256 * 256 + h.tot % 256 := by rw [hby_cells k hr c0 c1]; rfl
  have g6 : wordAt (hby h c ++ ys) 6 = flw h.df h.mf h.frag / 256 * 256 + flw h.df h.mf h.frag % 256 := by rw [hby_cells k hr c0 c1]; rfl
  have hz : szE (hby h c ++ ys) = 0 := by
    unfold szE
    rw [g0, if_neg (by omega), if_neg (by omega), if_neg (by omega), if_neg (by omega)]
  have hv : szV (hby h c ++ ys) = 20 + (h.n : Int) := by
    unfold szV
    rw [if_pos hz, g0]
    omega
  refine ⟨?_, hv, ht, hd⟩
  unfold psE
  have e : (20 + (h.n : Int)).toNat = 20 + h.n := by omega
  rw [if_neg (by omega), hv, e, ht, g2, g6, if_neg (by omega), if_pos hw]
/-- What is parsed is what Put answers, but for the checksum. -/
theorem uncons {xs : List Int} {n : Nat} (h : n + 1 ≤ xs.length) : ∃ x t, xs = x :: t ∧ n ≤ t.length := by
  cases xs with
  | nil => simp at h
  | cons x t => exact ⟨x, t, rfl, by simpa using h⟩
theorem twenty {xs : List Int} (h : 20 ≤ xs.length) : ∃ v t0 t1 t2 i1 i2 f1 f2 tt pp c1 c2 s d op, xs = hcl v t0 t1 t2 i1 i2 f1 f2 tt pp c1 c2 s d op ∧ s.length = 4 ∧ d.length = 4 := by
  obtain ⟨v, x0, rfl, h0⟩ := uncons h
  obtain ⟨t0, x1, rfl, h1⟩ := uncons h0
  obtain ⟨t1, x2, rfl, h2⟩ := uncons h1
  obtain ⟨t2, x3, rfl, h3⟩ := uncons h2
  obtain ⟨i1, x4, rfl, h4⟩ := uncons h3
  obtain ⟨i2, x5, rfl, h5⟩ := uncons h4
  obtain ⟨f1, x6, rfl, h6⟩ := uncons h5
  obtain ⟨f2, x7, rfl, h7⟩ := uncons h6
  obtain ⟨tt, x8, rfl, h8⟩ := uncons h7
  obtain ⟨pp, x9, rfl, h9⟩ := uncons h8
  obtain ⟨c1, x10, rfl, h10⟩ := uncons h9
  obtain ⟨c2, x11, rfl, h11⟩ := uncons h10
  obtain ⟨s0, x12, rfl, h12⟩ := uncons h11
  obtain ⟨s1, x13, rfl, h13⟩ := uncons h12
  obtain ⟨s2, x14, rfl, h14⟩ := uncons h13
  obtain ⟨s3, x15, rfl, h15⟩ := uncons h14
  obtain ⟨d0, x16, rfl, h16⟩ := uncons h15
  obtain ⟨d1, x17, rfl, h17⟩ := uncons h16
  obtain ⟨d2, x18, rfl, h18⟩ := uncons h17
  obtain ⟨d3, x19, rfl, h19⟩ := uncons h18
  exact ⟨v, t0, t1, t2, i1, i2, f1, f2, tt, pp, c1, c2, [s0, s1, s2, s3], [d0, d1, d2, d3], x19, rfl, rfl, rfl⟩
theorem hby_same {h g : Hd} (c : Int) (hn : h.op.length = h.n) (gn : g.op.length = g.n) (hs : smH h g = true) : hby h c = hby g c := by
  simp only [smH, Bool.and_eq_true, decide_eq_true_eq] at hs
  obtain ⟨a1, a2, a3, a4, a5, a6, a7, a8, a9, a10, a11⟩ := hs
  have en : h.n = g.n := by rw [← hn, ← gn, a11]
  unfold hby
  rw [en, a1, a2, a3, a4, a5, a6, a7, a8, a9, a10, a11]
theorem rebuild {ys : List Int} (hb : Byt ys) (hp : psE ys = 0) (a : Option Addr) (cc : Nat) :
    ys.take (szV ys).toNat = hby (hdOf (ys.take (szV ys).toNat) a ((szV ys).toNat - 20) cc) (wordAt ys 10) := by
  obtain ⟨m, hm, m20, m60, mn, mt⟩ := psE_zero hp hb
  have hz : szE ys = 0 := by
    unfold psE at hp; split at hp
    · omega
    · omega
  obtain ⟨k, hk, k5, k15, kn⟩ := szE_zero hz hb
  have hbig : wordAt ys 6 < 32768 := by
    unfold psE at hp
    rw [if_neg (by omega)] at hp
    split at hp
    · omega
    · omega
  have h0 : ys.getD 0 0 = 64 + (k : Int) := by
    have hx := hb.get 0
    have h1 := hz
    unfold szE at h1
    have h2 := hk
    unfold szV at h2
    rw [if_pos hz] at h2
    split at h1
    · omega
    split at h1
    · omega
    omega
  rw [hm, Int.toNat_natCast]
  have hmk : m = 4 * k := by omega
  have hzl : (ys.take m).length = m := by rw [List.length_take]; omega
  have hzb := hb.take m
  have g0 : (ys.take m).getD 0 0 = 64 + (k : Int) := by rw [take_getD _ _ _ (by omega), h0]
  have g6 : wordAt (ys.take m) 6 < 32768 := by rw [take_word _ _ _ (by omega)]; exact hbig
  rw [← take_word ys m 10 (by omega)]
  obtain ⟨zs, hzs⟩ : ∃ zs, ys.take m = zs := ⟨_, rfl⟩
  rw [hzs] at hzl hzb g0 g6 ⊢
  obtain ⟨v, t0, t1, t2, i1, i2, f1, f2, tt, pp, c1, c2, s, d, op, rfl, hs, hd⟩ := twenty (show 20 ≤ zs.length by omega)
  obtain ⟨s0, s1, s2, s3, rfl⟩ := four hs
  obtain ⟨d0, d1, d2, d3, rfl⟩ := four hd
  have b := fun j => hzb.get j
  have b0 : v = 64 + (k : Int) := g0
  have b1 : 0 ≤ t0 ∧ t0 < 256 := b 1
  have b2 : 0 ≤ t1 ∧ t1 < 256 := b 2
  have b3 : 0 ≤ t2 ∧ t2 < 256 := b 3
  have b4 : 0 ≤ i1 ∧ i1 < 256 := b 4
  have b5 : 0 ≤ i2 ∧ i2 < 256 := b 5
  have b6 : 0 ≤ f1 ∧ f1 < 256 := b 6
  have b7 : 0 ≤ f2 ∧ f2 < 256 := b 7
  have b8 : 0 ≤ tt ∧ tt < 256 := b 8
  have b9 : 0 ≤ pp ∧ pp < 256 := b 9
  have b10 : 0 ≤ c1 ∧ c1 < 256 := b 10
  have b11 : 0 ≤ c2 ∧ c2 < 256 := b 11
  have g6' : f1 * 256 + f2 < 32768 := g6
  have fl : flw (decide ((f1 * 256 + f2) / 16384 % 2 = 1)) (decide ((f1 * 256 + f2) / 8192 % 2 = 1)) ((f1 * 256 + f2) % 8192) = f1 * 256 + f2 := by
    unfold flw
    simp only [decide_eq_true_eq]
    split <;> split <;> omega
  have e0 : (64 + (5 + (((m - 20) / 4 : Nat) : Int))) % 256 = v := by omega
  have e1 : t0 % 256 = t0 := by omega
  have e2 : (t1 * 256 + t2) / 256 % 256 = t1 := by omega
  have e3 : (t1 * 256 + t2) % 256 = t2 := by omega
  have e4 : (i1 * 256 + i2) / 256 % 256 = i1 := by omega
  have e5 : (i1 * 256 + i2) % 256 = i2 := by omega
  have e6 : (f1 * 256 + f2) / 256 % 256 = f1 := by omega
  have e7 : (f1 * 256 + f2) % 256 = f2 := by omega
  have e8 : tt % 256 = tt := by omega
  have e9 : pp % 256 = pp := by omega
  have e10 : (c1 * 256 + c2) / 256 % 256 = c1 := by omega
  have e11 : (c1 * 256 + c2) % 256 = c2 := by omega
  unfold hby hdOf hcl wordAt
  simp only [be_one, be_two, List.getD_cons_zero, List.getD_cons_succ, List.cons_append, List.nil_append, List.drop_succ_cons, List.drop_zero, List.take_succ_cons, List.take_zero, fl, e0, e1, e2, e3, e4, e5, e6, e7, e8, e9, e10, e11]
/-- A byte that is changed, but the checksum's, is told. -/
theorem changed {w : World} {h : Hd} {c : Int} (k : h.ok w) (hr : rgH h.frag h.tot h.n = true) (c0 : 0 ≤ c) (c1 : c ≤ 65535) {q : Nat} {v : Int} (hq : q < 20 + h.n) (h10 : q ≠ 10) (h11 : q ≠ 11) (hv : 0 ≤ v ∧ v < 256) (hne : v ≠ (hby h c).getD q 0)
    (hp : psE ((hby h c).set q v) = 0) (a : Option Addr) (n cc : Nat) : smH (hdOf (((hby h c).set q v).take (szV ((hby h c).set q v)).toNat) a n cc) h = false := by
  have hl := hby_len h c k.src k.dst k.row.len
  have hb : Byt ((hby h c).set q v) := (hby_byt h c k.srcb k.dstb k.row.byt).set q hv
  cases hs : smH (hdOf (((hby h c).set q v).take (szV ((hby h c).set q v)).toNat) a n cc) h with
  | false => rfl
  | true =>
    exfalso
    obtain ⟨ys, hys⟩ : ∃ ys, (hby h c).set q v = ys := ⟨_, rfl⟩
    have hyl : ys.length = 20 + h.n := by rw [← hys, List.length_set, hl]
    have hyq : ys.getD q 0 = v := by rw [← hys]; exact getD_set_same _ _ _ (by omega)
    rw [hys] at hp hb hs
    obtain ⟨m, hm, m20, m60, mn, mt⟩ := psE_zero hp hb
    have hre := rebuild hb hp a cc
    have htl : (ys.take (szV ys).toNat).length = m := by rw [hm, Int.toNat_natCast, List.length_take]; omega
    have hs' : smH (hdOf (ys.take (szV ys).toNat) a ((szV ys).toNat - 20) cc) h = true := hs
    have hop : (hdOf (ys.take (szV ys).toNat) a ((szV ys).toNat - 20) cc).op.length = (szV ys).toNat - 20 := by
      show ((ys.take (szV ys).toNat).drop 20).length = _
      rw [List.length_drop, htl, hm, Int.toNat_natCast]
    rw [hby_same (wordAt ys 10) hop k.row.len hs'] at hre
    have hw10 := wordAt_range hb 10
    have hl2 := hby_len h (wordAt ys 10) k.src k.dst k.row.len
    have hmm : m = 20 + h.n := by rw [← htl, hre, hl2]
    have hyy : ys = hby h (wordAt ys 10) := by
      rw [← hre, hm, Int.toNat_natCast]
      exact (List.take_of_length_le (by omega)).symm
    have key : ∀ c', 0 ≤ c' → c' ≤ 65535 → (hby h c').getD q 0 = (hby h 0).getD q 0 := fun c' y0 y1 => by
      have e1 := hby_cells k hr y0 y1
      have e2 := hby_cells k hr (Int.le_refl 0) (show (0 : Int) ≤ 65535 by omega)
      rw [e1, e2]
      unfold hcl
      rcases Nat.lt_or_ge q 10 with hlt | hge
      · have hx : q = 0 ∨ q = 1 ∨ q = 2 ∨ q = 3 ∨ q = 4 ∨ q = 5 ∨ q = 6 ∨ q = 7 ∨ q = 8 ∨ q = 9 := by omega
        rcases hx with rfl | rfl | rfl | rfl | rfl | rfl | rfl | rfl | rfl | rfl <;> rfl
      · obtain ⟨j, rfl⟩ : ∃ j, q = j + 12 := ⟨q - 12, by omega⟩
        rfl
    rw [hyy, key _ hw10.1 hw10.2] at hyq
    rw [key _ c0 c1] at hne
    exact hne hyq.symm
/-- A hop. -/
theorem hop_hby {w : World} {h : Hd} {c : Int} (k : h.ok w) (hr : rgH h.frag h.tot h.n = true) (c0 : 0 ≤ c) (c1 : c ≤ 65535) (hw : whl (ws 0 (hby h c)) = true) (ht : h.ttl ≠ 0) (ys : List Int) :
    ∃ c', 0 ≤ c' ∧ c' ≤ 65535 ∧ hopV (hby h c ++ ys) = hby { h with ttl := h.ttl - 1 } c' ++ ys ∧ whl (ws 0 (hby { h with ttl := h.ttl - 1 } c')) = true := by
  have q4 := k.ttl
  have q5 := k.pro
  have k' : ({ h with ttl := h.ttl - 1 } : Hd).ok w := ⟨k.tos, k.tot, k.id, k.frag, by show 0 ≤ h.ttl - 1 ∧ h.ttl - 1 < 256; omega, k.pro, k.src, k.dst, k.srcb, k.dstb, k.row⟩
  have g10 : wordAt (hby h c ++ ys) 10 = c := by
    rw [hby_cells k hr c0 c1]
    show c / 256 * 256 + c % 256 = c
    omega
  have g8 : wordAt (hby h c ++ ys) 8 = h.ttl * 256 + h.pro := by rw [hby_cells k hr c0 c1]; rfl
  have g80 : (hby h c ++ ys).getD 8 0 = h.ttl := by rw [hby_cells k hr c0 c1]; rfl
  have hC : hopC (hby h c ++ ys) = chg c (h.ttl * 256 + h.pro) (h.ttl * 256 + h.pro - 256) := by unfold hopC; rw [g10, g8]
  obtain ⟨y0, y1⟩ := @chg_range c (h.ttl * 256 + h.pro) (h.ttl * 256 + h.pro - 256) (by omega)
  refine ⟨chg c (h.ttl * 256 + h.pro) (h.ttl * 256 + h.pro - 256), y0, y1, ?_, ?_⟩
  · unfold hopV
    rw [hC, g80, hby_cells k hr c0 c1, hby_cells k' hr y0 y1]
    rfl
  · have e0 := ws_hby k hr c0 c1
    have e1 := ws_hby k' hr y0 y1
    have e2 : ws 0 (hby { h with ttl := h.ttl - 1 } 0) = ws 0 (hby h 0) - 256 := by
      obtain ⟨s0, s1, s2, s3, hs⟩ := four k.src
      obtain ⟨d0, d1, d2, d3, hd⟩ := four k.dst
      have f1 : hby { h with ttl := h.ttl - 1 } 0 = hcl (69 + ((h.n / 4 : Nat) : Int)) h.tos (h.tot / 256) (h.tot % 256) (h.id / 256) (h.id % 256) (flw h.df h.mf h.frag / 256) (flw h.df h.mf h.frag % 256) (h.ttl - 1) h.pro (0 / 256) (0 % 256) h.src h.dst h.op := hby_cells k' hr (Int.le_refl 0) (show (0 : Int) ≤ 65535 by omega)
      have f2 := hby_cells k hr (Int.le_refl 0) (show (0 : Int) ≤ 65535 by omega)
      rw [f1, f2, hs, hd, ws_hcl, ws_hcl]
      omega
    rw [e0, whl, decide_eq_true_eq] at hw
    rw [e1, e2, whl, decide_eq_true_eq]
    have hf := @fld_mod (65535 - c + (65535 - (h.ttl * 256 + h.pro)) + (h.ttl * 256 + h.pro - 256)) (by omega)
    unfold chg
    omega
end Go.Proofs.Ytjnbnjdajkhkpaa

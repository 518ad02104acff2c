/-
  ShaperEarly in pieces. Conditions: those that the theorems name. (Made by gen_spearly.py.)
-/
import Derived.Test.YticjfhmkpciihaaSpEaM
import Derived.Deep.RegionWith
namespace Go.Proofs.Yticjfhmkpciihaa
open Go.RowKit Bkt

theorem relF_len (tick : Int) : ∀ (n : Nat) (T : Int) (ls : List Ab), (relF tick n T ls).2.length ≤ n
  | 0, _, _ => Nat.le_refl _
  | n + 1, T, ls => by
    rw [relF]
    split
    · have := relF_len tick n (nx T ls).t (ls.set (nx T ls).c ((ls.getD (nx T ls).c az).send (nx T ls).t))
      simp only [List.length_cons]
      omega
    · simp
theorem rel_len (tick T : Int) (ls : List Ab) : (rel tick T ls).2.length ≤ tot ls := relF_len tick _ T ls
theorem arg_blk {w : World} {y : Pi} (h : y.ar w) (hne : y.d ≠ []) : ∀ b, blk y.a = some b → b < w.heap.size := fun b hb => by
  obtain ⟨b', o, e, hc⟩ := h.rd hne
  rw [e] at hb
  simp [blk] at hb
  subst hb
  exact World.block_lt_of_cell? w _ (hc 0 (List.length_pos_iff.2 hne))
/-- Two shapers that are the same, offered to alike. -/
structure E1 (w W : World) (ga gb : Nat) (sa sb : Sh) (N : Int) : Prop where
  l2 : L2 w W ga gb sa sb N
  ta : sa.T = 7
  tb : sb.T = 7
  ab : sa.abs = sb.abs
/-- What one gave at once, and the other's so far. -/
structure E2 (w W : World) (gb : Nat) (sb : Sh) (N : Int) (bw bg : Nat) (vw : Option Addr) (nw cw : Nat) (yw : List Po) (vg : Option Addr) (ng cg : Nat) (yg : List Po) : Prop where
  lb : Lv w W gb sb N
  want : Ops W bw vw nw cw yw
  got : Ops W bg vg ng cg yg
  top : ∀ k, sb.foot gb k → k < bw
  wtop : (∀ k, blk vw = some k → k < bg) ∧ ∀ y ∈ yw, ∀ k, blk y.y.a = some k → k < bg
  ord : w.heap.size ≤ bw ∧ bw ≤ bg ∧ bg ≤ W.heap.size
section
variable {w W W' : World} {gb : Nat} {sb sb' : Sh} {N : Int} {bw bg : Nat} {vw : Option Addr} {nw cw : Nat} {yw : List Po} {vg : Option Addr} {ng cg : Nat} {yg : List Po}
theorem E2.past (h : E2 w W gb sb N bw bg vw nw cw yw vg ng cg yg) (k : Below W.heap.size W W') : E2 w W' gb sb N bw bg vw nw cw yw vg ng cg yg :=
  ⟨h.lb.past k, h.want.below k, h.got.below k, h.top, h.wtop, h.ord.1, h.ord.2.1, Nat.le_trans h.ord.2.2 k.size⟩
theorem E2.rel (h : E2 w W gb sb N bw bg vw nw cw yw vg ng cg yg) (hb : Lv w W' gb sb' N) (k : Kept (sb.foot gb) W W') (hf : ∀ k, sb'.foot gb k → sb.foot gb k) : E2 w W' gb sb' N bw bg vw nw cw yw vg ng cg yg :=
  ⟨hb, h.want.keep k (fun i hi hj => by have := h.top i hi; omega), h.got.keep k (fun i hi hj => by have := h.top i hi; have := h.ord; omega), fun j hj => h.top j (hf j hj), h.wtop, h.ord.1, h.ord.2.1, Nat.le_trans h.ord.2.2 k.size⟩
theorem E2.cat (h : E2 w W gb sb N bw bg vw nw cw yw vg ng cg yg) {v' : Option Addr} {n' c' : Nat} {y' : List Po} (ho : Ops W' bg v' n' c' y') (k : Kept (fun i => blk vg = some i) W W') : E2 w W' gb sb N bw bg vw nw cw yw v' n' c' y' := by
  have hg : ∀ i, blk vg = some i → bg ≤ i ∧ ∃ cur, W.heap[i]? = some (.cells cur 61 (0, 0)) := fun i hi => by
    refine ⟨(h.got.row.blk_ge i hi).1, ?_⟩
    rcases h.got.row.cases with ⟨e, _⟩ | ⟨r, cur, e, _, hr, _⟩
    · rw [e] at hi; cases hi
    · rw [e] at hi
      simp [blk] at hi
      subst hi
      exact ⟨cur, hr⟩
  have hord := h.ord
  refine ⟨⟨h.lb.sw.keep k (fun i hi e => ?_) (fun b hb e => ?_), h.lb.n1, h.lb.below.trans (k.below h.lb.below.size (fun i hi => by have := (hg i hi).1; omega)), h.lb.db, h.lb.bT, h.lb.T0, h.lb.T1, h.lb.N0⟩, ⟨h.want.row.keep k (fun b hb e => ?_), fun y hy => ⟨(h.want.data y hy).1.keep k (fun b hb e => ?_), (h.want.data y hy).2⟩, h.want.apart⟩, ho, h.top, h.wtop, hord.1, hord.2.1, Nat.le_trans hord.2.2 k.size⟩
  · have := h.top i hi; have := (hg i e).1; omega
  · obtain ⟨cur, hr⟩ := (hg b e).2
    rcases h.lb.sw.ptrs.cases with ⟨e2, _⟩ | ⟨r2, cur2, e2, _, hr2, _⟩
    · rw [e2] at hb; cases hb
    · rw [e2] at hb
      simp [blk] at hb
      subst hb
      rw [hr] at hr2
      simp at hr2
  · have := h.wtop.1 b hb; have := (hg b e).1; omega
  · have := h.wtop.2 y hy b hb; have := (hg b e).1; omega
end

noncomputable def KE : Code := Try.f5.body.getD .skip
set_option maxRecDepth 100000 in
theorem frKE {a : Act} (h : Fr 183 a) : ∃ f : Nat → Value, a = ⟨#[f 0, f 1, f 2, f 3, f 4, f 5, f 6, f 7, f 8, f 9, f 10, f 11, f 12, f 13, f 14, f 15, f 16, f 17, f 18, f 19, f 20, f 21, f 22, f 23, f 24, f 25, f 26, f 27, f 28, f 29, f 30, f 31, f 32, f 33, f 34, f 35, f 36, f 37, f 38, f 39, f 40, f 41, f 42, f 43, f 44, f 45, f 46, f 47, f 48, f 49, f 50, f 51, f 52, f 53, f 54, f 55, f 56, f 57, f 58, f 59, f 60, f 61, f 62, f 63, f 64, f 65, f 66, f 67, f 68, f 69, f 70, f 71, f 72, f 73, f 74, f 75, f 76, f 77, f 78, f 79, f 80, f 81, f 82, f 83, f 84, f 85, f 86, f 87, f 88, f 89, f 90, f 91, f 92, f 93, f 94, f 95, f 96, f 97, f 98, f 99, f 100, f 101, f 102, f 103, f 104, f 105, f 106, f 107, f 108, f 109, f 110, f 111, f 112, f 113, f 114, f 115, f 116, f 117, f 118, f 119, f 120, f 121, f 122, f 123, f 124, f 125, f 126, f 127, f 128, f 129, f 130, f 131, f 132, f 133, f 134, f 135, f 136, f 137, f 138, f 139, f 140, f 141, f 142, f 143, f 144, f 145, f 146, f 147, f 148, f 149, f 150, f 151, f 152, f 153, f 154, f 155, f 156, f 157, f 158, f 159, f 160, f 161, f 162, f 163, f 164, f 165, f 166, f 167, f 168, f 169, f 170, f 171, f 172, f 173, f 174, f 175, f 176, f 177, f 178, f 179, f 180, f 181, f 182], []⟩ ∧ ∀ i, f i = sl a i := fr_any h

set_option maxRecDepth 100000 in
set_option maxHeartbeats 4000000 in
theorem y0 (w : World) (xa : Option Addr) (n c : Nat) (ya : Option Addr) (m c2 : Nat) (tv : Int) (a : Act) (hf : Fr 183 a) (h0 : sl a 0 = .slice xa n c) (h1 : sl a 1 = .slice ya m c2) (h2 : sl a 2 = .int .u8 tv) :
    Code.wp Try.prog (cAt [0] KE) (Exit.then (fun a' w' => Fr 183 a' ∧ sl a' 0 = .slice xa n c ∧ sl a' 1 = .slice ya m c2 ∧ sl a' 2 = .int .u8 tv ∧ w = w') Nope) a w := by
  obtain ⟨f, ha, hs⟩ := frKE hf
  have e0 := (hs 0).trans h0
  have e1 := (hs 1).trans h1
  have e2 := (hs 2).trans h2
  rw [e0, e1, e2] at ha
  clear hs hf e0 h0 e1 h1 e2 h2
  subst ha
  refine piece2 fun J0 K0 hJ0 hK0 => ?_
  conv => arg 2; whnf
  go_wp2_with fail
  refine Met.intro (hJ0 _ _ ?_)
  exact ⟨⟨rfl, rfl⟩, rfl, rfl, rfl, rfl⟩

set_option maxRecDepth 100000 in
set_option maxHeartbeats 4000000 in
theorem y1 (w : World) (xa : Option Addr) (n c : Nat) (ya : Option Addr) (m c2 : Nat) (tv : Int) (l : List Ac) (hl : Acr w ya m l) (hm : m ≤ maxLen) (a : Act) (hf : Fr 183 a) (h0 : sl a 0 = .slice xa n c) (h1 : sl a 1 = .slice ya m c2) (h2 : sl a 2 = .int .u8 tv) :
    Code.wp Try.prog (cAt [1,0,0] KE) (Exit.then (fun a' w' => ∃ bb, Fr 183 a' ∧ sl a' 0 = .slice xa n c ∧ sl a' 1 = .slice ya m c2 ∧ sl a' 2 = .int .u8 tv ∧ sl a' 26 = .bool bb ∧ (bb = false ↔ n ≤ 6 ∧ Few 12 l) ∧ w = w') Nope) a w := by
  obtain ⟨f, ha, hs⟩ := frKE hf
  have e0 := (hs 0).trans h0
  have e1 := (hs 1).trans h1
  have e2 := (hs 2).trans h2
  rw [e0, e1, e2] at ha
  clear hs hf e0 h0 e1 h1 e2 h2
  subst ha
  refine piece2 fun J0 K0 hJ0 hK0 => ?_
  conv => arg 2; whnf
  have HL := Lib.hid hl
  clear hl
  by_cases h6 : 6 < n
  · have h62 : (6 : Int) < (n : Int) := by omega
    go_wp2_with fail
    refine Met.intro (hJ0 _ _ ?_)
    exact ⟨true, ⟨rfl, rfl⟩, rfl, rfl, rfl, rfl, ⟨fun h => (by cases h), fun h => (by omega)⟩, rfl⟩
  · have h62 : ¬ (6 : Int) < (n : Int) := by omega
    go_wp2_with fail
    refine (few_any ya m c2 l w 12 (by decide) HL.out hm).mono ?_
    rintro e w1 ⟨b, rfl, hb, hw⟩
    subst hw
    have HB := Lib.hid hb
    clear hb
    go_wp2_with fail
    refine Met.intro (hJ0 _ _ ?_)
    refine ⟨!b, ⟨rfl, rfl⟩, rfl, rfl, rfl, rfl, ?_, rfl⟩
    cases b
    · exact ⟨fun h => (by cases h), fun h => (by have := HB.out.2 h.2; cases this)⟩
    · exact ⟨fun _ => ⟨by omega, HB.out.1 rfl⟩, fun _ => rfl⟩

set_option maxRecDepth 100000 in
set_option maxHeartbeats 4000000 in
theorem y2 (w wr : World) (hb : Below w.heap.size w wr) (a : Act) (hf : Fr 183 a)  :
    Code.wp Try.prog (cAt [1,0,1,3] KE) (RetsV Try.f5 (Yes w)) a wr := by
  have HB := Lib.hid hb
  clear hb
  obtain ⟨f, ha, hs⟩ := frKE hf
  clear hs hf 
  subst ha
  conv => arg 2; whnf
  go_wp2_with fail
  refine (works12_any wr).mono ?_
  rintro e w1 ⟨rfl, hb1⟩
  have HF : Hid (Below w.heap.size w w1) := HB.out.trans (hb1.mono HB.out.size)
  clear hb1
  go_wp2_with fail
  refine ⟨rfl, rfl, .bool true, ?_, ⟨rfl, HF.out⟩⟩
  simp [results, Try.results5, go_sem]

set_option maxRecDepth 100000 in
set_option maxHeartbeats 4000000 in
theorem y3 (w : World) (xa : Option Addr) (n c : Nat) (ya : Option Addr) (m c2 : Nat) (tv : Int) (l : List Cs) (HR : Hid (Rcs w xa n l)) (HM : Hid (mayB l = true)) (a : Act) (hf : Fr 183 a) (h0 : sl a 0 = .slice xa n c) (h1 : sl a 1 = .slice ya m c2) (h2 : sl a 2 = .int .u8 tv) :
    Code.wp Try.prog (cAt [1,1,0] KE) (Exit.then (fun a' w' => ∃ ga sa, Fr 183 a' ∧ sl a' 0 = .slice xa n c ∧ sl a' 1 = .slice ya m c2 ∧ sl a' 2 = .int .u8 tv ∧ sl a' 7 = .pointer (some ⟨ga, 0, none⟩) ∧ sl a' 8 = .int .i64 0 ∧ Lv w w' ga sa 0 ∧ sa.T = 7 ∧ sa.abs = l.map (Cs.new 7)) Nope) a w := by
  obtain ⟨f, ha, hs⟩ := frKE hf
  have e0 := (hs 0).trans h0
  have e1 := (hs 1).trans h1
  have e2 := (hs 2).trans h2
  rw [e0, e1, e2] at ha
  clear hs hf e0 h0 e1 h1 e2 h2
  subst ha
  refine piece2 fun J0 K0 hJ0 hK0 => ?_
  conv => arg 2; whnf
  go_wp2_with fail
  refine (lvNew 7 xa n c l HR.out (by decide) (by decide) (Below.refl w.heap.size w) HM.out).mono ?_
  rintro e w1 ⟨ga, sa, rfl, hv, hT, _, hab, _, _⟩
  have H1 : Hid (Lv w w1 ga sa 0 ∧ sa.T = 7 ∧ sa.abs = l.map (Cs.new 7)) := ⟨hv, hT, hab⟩
  clear hv hT hab
  go_wp2_with fail
  refine Met.intro (hJ0 _ _ ?_)
  exact ⟨ga, sa, ⟨rfl, rfl⟩, rfl, rfl, rfl, rfl, rfl, H1.out⟩

set_option maxRecDepth 100000 in
set_option maxHeartbeats 4000000 in
theorem y4 (w wr : World) (xa : Option Addr) (n c : Nat) (ya : Option Addr) (m c2 : Nat) (tv : Int) (l : List Cs) (ga : Nat) (sa : Sh) (HR : Hid (Rcs wr xa n l)) (HM : Hid (mayB l = true)) (HA : Hid (Lv w wr ga sa 0 ∧ sa.T = 7 ∧ sa.abs = l.map (Cs.new 7))) (a : Act) (hf : Fr 183 a) (h0 : sl a 0 = .slice xa n c) (h1 : sl a 1 = .slice ya m c2) (h2 : sl a 2 = .int .u8 tv) (h7 : sl a 7 = .pointer (some ⟨ga, 0, none⟩)) (h8 : sl a 8 = .int .i64 0) :
    Code.wp Try.prog (cAt [1,1,1,0] KE) (Exit.then (fun a' w' => ∃ gb sb, Fr 183 a' ∧ sl a' 0 = .slice xa n c ∧ sl a' 1 = .slice ya m c2 ∧ sl a' 2 = .int .u8 tv ∧ sl a' 7 = .pointer (some ⟨ga, 0, none⟩) ∧ sl a' 8 = .int .i64 0 ∧ sl a' 9 = .pointer (some ⟨gb, 0, none⟩) ∧ sl a' 10 = .int .i64 0 ∧ E1 w w' ga gb sa sb 0) Nope) a wr := by
  obtain ⟨f, ha, hs⟩ := frKE hf
  have e0 := (hs 0).trans h0
  have e1 := (hs 1).trans h1
  have e2 := (hs 2).trans h2
  have e7 := (hs 7).trans h7
  have e8 := (hs 8).trans h8
  rw [e0, e1, e2, e7, e8] at ha
  clear hs hf e0 h0 e1 h1 e2 h2 e7 h7 e8 h8
  subst ha
  refine piece2 fun J0 K0 hJ0 hK0 => ?_
  conv => arg 2; whnf
  go_wp2_with fail
  refine (sNew_any 7 xa n c l wr HR.out (by decide) (by decide)).mono ?_
  rintro e w1 ⟨hb1, h | h⟩
  case inr => rw [HM.out] at h; cases h.1
  obtain ⟨_, gb, sb, rfl, hsw, hT, hn, hab⟩ := h
  have hm := HM.out
  unfold mayB at hm
  simp only [Bool.and_eq_true, decide_eq_true_eq] at hm
  have hA1 := HA.out.1.past hb1
  have H1 : Hid (E1 w w1 ga gb sa sb 0) := by
    have hsz := HA.out.1.below.size
    refine ⟨⟨hA1, ⟨?_, by omega, hA1.below, ?_, ?_, by omega, by omega, Int.le_refl _⟩, fun k hk hk2 => ?_⟩, HA.out.2.1, hT, by rw [HA.out.2.2, hab]⟩
    · exact ⟨hsw.row, ⟨hsw.ptrs.1, by
          rcases hsw.ptrs.2 with h | ⟨r, c2, cur, h1, h2, h3⟩
          · exact .inl h
          · exact .inr ⟨r, c2, cur, h1, Nat.le_trans hsz h2, h3⟩⟩, fun m hm => by
          have := hsw.lws m hm
          exact ⟨this.row, this.bk, ⟨this.qu.ok, this.qu.row, fun hne => by
            obtain ⟨r, e1, e2, e3⟩ := this.qu.ring hne
            exact ⟨r, e1, Nat.le_trans hsz e2, e3⟩, fun x hx => ⟨(this.qu.data x hx).1.mono hsz, (this.qu.data x hx).2⟩, Nat.le_trans hsz this.qu.base⟩, Nat.le_trans hsz this.bg, Nat.le_trans hsz this.bb⟩, hsw.dis, hsw.len, hsw.le, Nat.le_trans hsz hsw.base⟩
    · rw [hab]
      intro x hx
      obtain ⟨y, _, rfl⟩ := List.mem_map.1 hx
      exact Int.le_refl _
    · rw [hab]
      intro x hx
      obtain ⟨y, _, rfl⟩ := List.mem_map.1 hx
      show (7 : Int) ≤ sb.T
      omega
    · have h1 := (HA.out.1.sw.foot_lt hk).2
      have h2 := (hsw.foot_lt hk2).1
      omega
  clear hb1 hsw hT hn hab hm hA1
  go_wp2_with fail
  refine Met.intro (hJ0 _ _ ?_)
  exact ⟨gb, sb, ⟨rfl, rfl⟩, rfl, rfl, rfl, rfl, rfl, rfl, rfl, H1.out⟩

set_option maxRecDepth 100000 in
set_option maxHeartbeats 4000000 in
theorem y3n (w : World) (xa : Option Addr) (n c : Nat) (ya : Option Addr) (m c2 : Nat) (tv : Int) (l : List Cs) (HR : Hid (Rcs w xa n l)) (HM : Hid (mayB l = false)) (a : Act) (hf : Fr 183 a) (h0 : sl a 0 = .slice xa n c) (h1 : sl a 1 = .slice ya m c2) (h2 : sl a 2 = .int .u8 tv) :
    Code.wp Try.prog (cAt [1,1,0] KE) (Exit.then (fun a' w' => Fr 183 a' ∧ sl a' 0 = .slice xa n c ∧ sl a' 1 = .slice ya m c2 ∧ sl a' 2 = .int .u8 tv ∧ sl a' 7 = .pointer none ∧ sl a' 8 = .int .i64 2 ∧ Below w.heap.size w w') Nope) a w := by
  obtain ⟨f, ha, hs⟩ := frKE hf
  have e0 := (hs 0).trans h0
  have e1 := (hs 1).trans h1
  have e2 := (hs 2).trans h2
  rw [e0, e1, e2] at ha
  clear hs hf e0 h0 e1 h1 e2 h2
  subst ha
  refine piece2 fun J0 K0 hJ0 hK0 => ?_
  conv => arg 2; whnf
  go_wp2_with fail
  refine (sNew_any 7 xa n c l w HR.out (by decide) (by decide)).mono ?_
  rintro e w1 ⟨hb1, h | h⟩
  · rw [HM.out] at h; cases h.1
  obtain ⟨_, rfl⟩ := h
  have H1 := Lib.hid hb1
  clear hb1
  go_wp2_with fail
  refine Met.intro (hJ0 _ _ ?_)
  exact ⟨⟨rfl, rfl⟩, rfl, rfl, rfl, rfl, rfl, H1.out⟩

set_option maxRecDepth 100000 in
set_option maxHeartbeats 4000000 in
theorem y4n (wr : World) (xa : Option Addr) (n c : Nat) (ya : Option Addr) (m c2 : Nat) (tv : Int) (l : List Cs) (HR : Hid (Rcs wr xa n l)) (HM : Hid (mayB l = false)) (a : Act) (hf : Fr 183 a) (h0 : sl a 0 = .slice xa n c) (h1 : sl a 1 = .slice ya m c2) (h2 : sl a 2 = .int .u8 tv) (h7 : sl a 7 = .pointer none) (h8 : sl a 8 = .int .i64 2) :
    Code.wp Try.prog (cAt [1,1,1,0] KE) (Exit.then (fun a' w' => Fr 183 a' ∧ sl a' 8 = .int .i64 2 ∧ sl a' 10 = .int .i64 2 ∧ Below wr.heap.size wr w') Nope) a wr := by
  obtain ⟨f, ha, hs⟩ := frKE hf
  have e0 := (hs 0).trans h0
  have e1 := (hs 1).trans h1
  have e2 := (hs 2).trans h2
  have e7 := (hs 7).trans h7
  have e8 := (hs 8).trans h8
  rw [e0, e1, e2, e7, e8] at ha
  clear hs hf e0 h0 e1 h1 e2 h2 e7 h7 e8 h8
  subst ha
  refine piece2 fun J0 K0 hJ0 hK0 => ?_
  conv => arg 2; whnf
  go_wp2_with fail
  refine (sNew_any 7 xa n c l wr HR.out (by decide) (by decide)).mono ?_
  rintro e w1 ⟨hb1, h | h⟩
  · rw [HM.out] at h; cases h.1
  obtain ⟨_, rfl⟩ := h
  have H1 := Lib.hid hb1
  clear hb1
  go_wp2_with fail
  refine Met.intro (hJ0 _ _ ?_)
  exact ⟨⟨rfl, rfl⟩, rfl, rfl, H1.out⟩

set_option maxRecDepth 100000 in
set_option maxHeartbeats 4000000 in
theorem y5n (wr : World) (a : Act) (hf : Fr 183 a) (h8 : sl a 8 = .int .i64 2) (h10 : sl a 10 = .int .i64 2) :
    Code.wp Try.prog (cAt [1,1,1,1,0,0] KE) (Exit.then (fun a' w' => Fr 183 a' ∧ sl a' 8 = .int .i64 2 ∧ sl a' 10 = .int .i64 2 ∧ sl a' 43 = .bool true ∧ wr = w') Nope) a wr := by
  obtain ⟨f, ha, hs⟩ := frKE hf
  have e8 := (hs 8).trans h8
  have e10 := (hs 10).trans h10
  rw [e8, e10] at ha
  clear hs hf e8 h8 e10 h10
  subst ha
  refine piece2 fun J0 K0 hJ0 hK0 => ?_
  conv => arg 2; whnf
  go_wp2_with fail
  refine Met.intro (hJ0 _ _ ?_)
  exact ⟨⟨rfl, rfl⟩, rfl, rfl, rfl, rfl⟩

set_option maxRecDepth 100000 in
set_option maxHeartbeats 4000000 in
theorem y6 (w wr : World) (hb : Below w.heap.size w wr) (a : Act) (hf : Fr 183 a) (h8 : sl a 8 = .int .i64 2) (h10 : sl a 10 = .int .i64 2) :
    Code.wp Try.prog (cAt [1,1,1,1,0,1,3] KE) (RetsV Try.f5 (Yes w)) a wr := by
  have HB := Lib.hid hb
  clear hb
  obtain ⟨f, ha, hs⟩ := frKE hf
  have e8 := (hs 8).trans h8
  have e10 := (hs 10).trans h10
  rw [e8, e10] at ha
  clear hs hf e8 h8 e10 h10
  subst ha
  conv => arg 2; whnf
  go_wp2_with fail
  refine (works12_any wr).mono ?_
  rintro e w1 ⟨rfl, hb1⟩
  have HF : Hid (Below w.heap.size w w1) := HB.out.trans (hb1.mono HB.out.size)
  clear hb1
  go_wp2_with fail
  refine ⟨rfl, rfl, .bool true, ?_, ⟨rfl, HF.out⟩⟩
  simp [results, Try.results5, go_sem]

set_option maxRecDepth 100000 in
set_option maxHeartbeats 4000000 in
theorem y5 (wr : World) (xa : Option Addr) (n c : Nat) (ya : Option Addr) (m c2 : Nat) (tv : Int) (ga gb : Nat) (a : Act) (hf : Fr 183 a) (h0 : sl a 0 = .slice xa n c) (h1 : sl a 1 = .slice ya m c2) (h2 : sl a 2 = .int .u8 tv) (h7 : sl a 7 = .pointer (some ⟨ga, 0, none⟩)) (h8 : sl a 8 = .int .i64 0) (h9 : sl a 9 = .pointer (some ⟨gb, 0, none⟩)) (h10 : sl a 10 = .int .i64 0) :
    Code.wp Try.prog (cAt [1,1,1,1,0,0] KE) (Exit.then (fun a' w' => Fr 183 a' ∧ sl a' 1 = .slice ya m c2 ∧ sl a' 2 = .int .u8 tv ∧ sl a' 7 = .pointer (some ⟨ga, 0, none⟩) ∧ sl a' 9 = .pointer (some ⟨gb, 0, none⟩) ∧ sl a' 43 = .bool false ∧ wr = w') Nope) a wr := by
  obtain ⟨f, ha, hs⟩ := frKE hf
  have e0 := (hs 0).trans h0
  have e1 := (hs 1).trans h1
  have e2 := (hs 2).trans h2
  have e7 := (hs 7).trans h7
  have e8 := (hs 8).trans h8
  have e9 := (hs 9).trans h9
  have e10 := (hs 10).trans h10
  rw [e0, e1, e2, e7, e8, e9, e10] at ha
  clear hs hf e0 h0 e1 h1 e2 h2 e7 h7 e8 h8 e9 h9 e10 h10
  subst ha
  refine piece2 fun J0 K0 hJ0 hK0 => ?_
  conv => arg 2; whnf
  go_wp2_with fail
  refine Met.intro (hJ0 _ _ ?_)
  exact ⟨⟨rfl, rfl⟩, rfl, rfl, rfl, rfl, rfl, rfl⟩

set_option maxRecDepth 100000 in
set_option maxHeartbeats 4000000 in
theorem y7 (wr : World) (ya : Option Addr) (m c2 : Nat) (tv : Int) (ga gb : Nat) (a : Act) (hf : Fr 183 a) (h1 : sl a 1 = .slice ya m c2) (h2 : sl a 2 = .int .u8 tv) (h7 : sl a 7 = .pointer (some ⟨ga, 0, none⟩)) (h9 : sl a 9 = .pointer (some ⟨gb, 0, none⟩)) :
    Code.wp Try.prog (cAt [1,1,1,1,1,0,0] KE) (Exit.then (fun a' w' => Fr 183 a' ∧ sl a' 1 = .slice ya m c2 ∧ sl a' 2 = .int .u8 tv ∧ sl a' 7 = .pointer (some ⟨ga, 0, none⟩) ∧ sl a' 9 = .pointer (some ⟨gb, 0, none⟩) ∧ sl a' 11 = .int .i64 0 ∧ wr = w') Nope) a wr := by
  obtain ⟨f, ha, hs⟩ := frKE hf
  have e1 := (hs 1).trans h1
  have e2 := (hs 2).trans h2
  have e7 := (hs 7).trans h7
  have e9 := (hs 9).trans h9
  rw [e1, e2, e7, e9] at ha
  clear hs hf e1 h1 e2 h2 e7 h7 e9 h9
  subst ha
  refine piece2 fun J0 K0 hJ0 hK0 => ?_
  conv => arg 2; whnf
  go_wp2_with fail
  refine Met.intro (hJ0 _ _ ?_)
  exact ⟨⟨rfl, rfl⟩, rfl, rfl, rfl, rfl, rfl, rfl⟩

set_option maxRecDepth 100000 in
set_option maxHeartbeats 4000000 in
theorem y8 (wr : World) (ya : Option Addr) (m c2 : Nat) (tv : Int) (ga gb : Nat) (i : Nat) (hi : i < m) (a : Act) (hf : Fr 183 a) (h1 : sl a 1 = .slice ya m c2) (h2 : sl a 2 = .int .u8 tv) (h7 : sl a 7 = .pointer (some ⟨ga, 0, none⟩)) (h9 : sl a 9 = .pointer (some ⟨gb, 0, none⟩)) (h11 : sl a 11 = .int .i64 (i : Int)) :
    Code.wp Try.prog (cAt [1,1,1,1,1,0,1,2,2,0] KE) (Exit.then (fun a' w' => Fr 183 a' ∧ sl a' 1 = .slice ya m c2 ∧ sl a' 2 = .int .u8 tv ∧ sl a' 7 = .pointer (some ⟨ga, 0, none⟩) ∧ sl a' 9 = .pointer (some ⟨gb, 0, none⟩) ∧ sl a' 11 = .int .i64 (i : Int) ∧ wr = w') Nope) a wr := by
  obtain ⟨f, ha, hs⟩ := frKE hf
  have e1 := (hs 1).trans h1
  have e2 := (hs 2).trans h2
  have e7 := (hs 7).trans h7
  have e9 := (hs 9).trans h9
  have e11 := (hs 11).trans h11
  rw [e1, e2, e7, e9, e11] at ha
  clear hs hf e1 h1 e2 h2 e7 h7 e9 h9 e11 h11
  subst ha
  refine piece2 fun J0 K0 hJ0 hK0 => ?_
  conv => arg 2; whnf
  have hi2 : (i : Int) < (m : Int) := by omega
  go_wp2_with fail
  refine Met.intro (hJ0 _ _ ?_)
  exact ⟨⟨rfl, rfl⟩, rfl, rfl, rfl, rfl, rfl, rfl⟩

set_option maxRecDepth 100000 in
set_option maxHeartbeats 4000000 in
theorem y8x (wr : World) (ya : Option Addr) (m c2 : Nat) (tv : Int) (ga gb : Nat) (i : Nat) (hi : ¬ i < m) (a : Act) (hf : Fr 183 a) (h1 : sl a 1 = .slice ya m c2) (h2 : sl a 2 = .int .u8 tv) (h7 : sl a 7 = .pointer (some ⟨ga, 0, none⟩)) (h9 : sl a 9 = .pointer (some ⟨gb, 0, none⟩)) (h11 : sl a 11 = .int .i64 (i : Int)) :
    Code.wp Try.prog (cAt [1,1,1,1,1,0,1,2,2] KE) (Outs 0 (fun a' w' => Fr 183 a' ∧ sl a' 1 = .slice ya m c2 ∧ sl a' 2 = .int .u8 tv ∧ sl a' 7 = .pointer (some ⟨ga, 0, none⟩) ∧ sl a' 9 = .pointer (some ⟨gb, 0, none⟩) ∧ wr = w')) a wr := by
  obtain ⟨f, ha, hs⟩ := frKE hf
  have e1 := (hs 1).trans h1
  have e2 := (hs 2).trans h2
  have e7 := (hs 7).trans h7
  have e9 := (hs 9).trans h9
  have e11 := (hs 11).trans h11
  rw [e1, e2, e7, e9, e11] at ha
  clear hs hf e1 h1 e2 h2 e7 h7 e9 h9 e11 h11
  subst ha
  conv => arg 2; whnf
  go_wp2_with fail
  exact ⟨rfl, ⟨rfl, rfl⟩, rfl, rfl, rfl, rfl, rfl⟩

set_option maxRecDepth 100000 in
set_option maxHeartbeats 4000000 in
theorem y9 (wr : World) (ya : Option Addr) (m c2 : Nat) (tv : Int) (ga gb : Nat) (i : Nat) (hi : i < 1000) (a : Act) (hf : Fr 183 a) (h1 : sl a 1 = .slice ya m c2) (h2 : sl a 2 = .int .u8 tv) (h7 : sl a 7 = .pointer (some ⟨ga, 0, none⟩)) (h9 : sl a 9 = .pointer (some ⟨gb, 0, none⟩)) (h11 : sl a 11 = .int .i64 (i : Int)) :
    Code.wp Try.prog (cAt [1,1,1,1,1,0,1,2,2,1,1] KE) (Exit.then (fun a' w' => Fr 183 a' ∧ sl a' 1 = .slice ya m c2 ∧ sl a' 2 = .int .u8 tv ∧ sl a' 7 = .pointer (some ⟨ga, 0, none⟩) ∧ sl a' 9 = .pointer (some ⟨gb, 0, none⟩) ∧ sl a' 11 = .int .i64 ((i : Int) + 1) ∧ wr = w') Nope) a wr := by
  obtain ⟨f, ha, hs⟩ := frKE hf
  have e1 := (hs 1).trans h1
  have e2 := (hs 2).trans h2
  have e7 := (hs 7).trans h7
  have e9 := (hs 9).trans h9
  have e11 := (hs 11).trans h11
  rw [e1, e2, e7, e9, e11] at ha
  clear hs hf e1 h1 e2 h2 e7 h7 e9 h9 e11 h11
  subst ha
  refine piece2 fun J0 K0 hJ0 hK0 => ?_
  conv => arg 2; whnf
  have hw : IntKind.i64.wrap ((i : Int) + 1) = (i : Int) + 1 := by rw [IntKind.wrap_i64]; omega
  go_wp2_with fail
  refine Met.intro (hJ0 _ _ ?_)
  exact ⟨⟨rfl, rfl⟩, rfl, rfl, rfl, rfl, rfl, rfl⟩

set_option maxRecDepth 100000 in
set_option maxHeartbeats 4000000 in
theorem y10 (w wr : World) (yb yo m c2 : Nat) (tv : Int) (ga gb i : Nat) (sa sb : Sh) (N : Int) (y : Ac) (HE : Hid (E1 w wr ga gb sa sb N)) (HG : Hid (World.rangeAt wr yb (yo + i * 6) y.cs)) (HY : Hid (World.rangeAt w yb (yo + i * 6) y.cs)) (HX : Hid (y.ok w)) (hx20 : y.x.n ≤ 20) (HN : Hid (N < 1000)) (hi : i < m) (a : Act) (hf : Fr 183 a) (h1 : sl a 1 = .slice (some ⟨yb, yo, none⟩) m c2) (h2 : sl a 2 = .int .u8 tv) (h7 : sl a 7 = .pointer (some ⟨ga, 0, none⟩)) (h9 : sl a 9 = .pointer (some ⟨gb, 0, none⟩)) (h11 : sl a 11 = .int .i64 (i : Int)) :
    Code.wp Try.prog (cAt [1,1,1,1,1,0,1,2,2,1,0,2,0] KE) (Exit.then (fun a' w' => ∃ sa' sb', Fr 183 a' ∧ sl a' 1 = .slice (some ⟨yb, yo, none⟩) m c2 ∧ sl a' 2 = .int .u8 tv ∧ sl a' 7 = .pointer (some ⟨ga, 0, none⟩) ∧ sl a' 9 = .pointer (some ⟨gb, 0, none⟩) ∧ sl a' 11 = .int .i64 (i : Int) ∧ sl a' 80 = .bool false ∧ E1 w w' ga gb sa' sb' (N + 2)) Nope) a wr := by
  obtain ⟨f, ha, hs⟩ := frKE hf
  have e1 := (hs 1).trans h1
  have e2 := (hs 2).trans h2
  have e7 := (hs 7).trans h7
  have e9 := (hs 9).trans h9
  have e11 := (hs 11).trans h11
  rw [e1, e2, e7, e9, e11] at ha
  clear hs hf e1 h1 e2 h2 e7 h7 e9 h9 e11 h11
  subst ha
  refine piece2 fun J0 K0 hJ0 hK0 => ?_
  conv => arg 2; whnf
  have hi2 : (i : Int) < (m : Int) := by omega
  have hi0 : (0 : Int) ≤ (i : Int) := by omega
  obtain ⟨yd, yc, ⟨no, sz, xa, xn, xc, xd⟩, yt⟩ := y
  have hbd : Below wr.heap.size wr wr.drew := (Below.refl _ _).drew
  have H0 : Hid (L2 w wr.drew ga gb sa sb N) := ⟨HE.out.l2.a.past hbd, HE.out.l2.b.past hbd, HE.out.l2.dis⟩
  have HS : Hid (World.rangeAt wr.drew yb (yo + i * 6) (Ac.cs ⟨yd, yc, ⟨no, sz, xa, xn, xc, xd⟩, yt⟩)) := range_kept hbd HG.out
  clear hbd
  go_wp2_with fail
  refine wp_region_held_drew (S := fun w' => World.rangeAt w' yb (yo + i * 6) (Ac.cs ⟨yd, yc, ⟨no, sz, xa, xn, xc, xd⟩, yt⟩)) (by kernel_rfl) HS.out (fun hS => ?_)
  refine tk 0 56 (.pointer (some ⟨ga, 0, none⟩)) rfl rfl (by kernel_rfl) (by kernel_rfl) (by kernel_rfl) (fun _ _ _ h => h) (Or.inl ⟨by rfl, fun w' h' => ?_⟩) hS ?_
  · go_simp
  try simp only [Act.put, List.setIfInBounds_toArray, List.set_cons_zero, List.set_cons_succ]
  refine tk 1 57 (.slice (some ⟨yb, yo, none⟩) m c2) rfl rfl (by kernel_rfl) (by kernel_rfl) (by kernel_rfl) (fun _ _ _ h => h) (Or.inl ⟨by rfl, fun w' h' => ?_⟩) hS ?_
  · go_simp
  try simp only [Act.put, List.setIfInBounds_toArray, List.set_cons_zero, List.set_cons_succ]
  refine tk 2 58 (.int .i64 (i : Int)) rfl rfl (by kernel_rfl) (by kernel_rfl) (by kernel_rfl) (fun _ _ _ h => h) (Or.inl ⟨by rfl, fun w' h' => ?_⟩) hS ?_
  · go_simp
  try simp only [Act.put, List.setIfInBounds_toArray, List.set_cons_zero, List.set_cons_succ]
  refine tk 3 59 (.pointer (some ⟨yb, yo + i * 6, none⟩)) rfl rfl (by kernel_rfl) (by kernel_rfl) (by kernel_rfl) (fun _ _ _ h => h) (Or.inl ⟨by rfl, fun w' h' => ?_⟩) hS ?_
  · go_simp
  try simp only [Act.put, List.setIfInBounds_toArray, List.set_cons_zero, List.set_cons_succ]
  refine tk 4 60 (.pointer (some ⟨yb, yo + i * 6 + 1, none⟩)) rfl rfl (by kernel_rfl) (by kernel_rfl) (by kernel_rfl) (fun _ _ _ h => h) (Or.inl ⟨by rfl, fun w' h' => ?_⟩) hS ?_
  · go_simp
  try simp only [Act.put, List.setIfInBounds_toArray, List.set_cons_zero, List.set_cons_succ]
  refine tk 5 61 (.int .i64 yc) rfl rfl (by kernel_rfl) (by kernel_rfl) (by kernel_rfl) (fun _ _ _ h => h) (Or.inl ⟨by rfl, fun w' h' => ?_⟩) hS ?_
  · have q1 := Ac.r1 h'
    go_simp
  try simp only [Act.put, List.setIfInBounds_toArray, List.set_cons_zero, List.set_cons_succ]
  refine tk 6 62 (.slice (some ⟨yb, yo, none⟩) m c2) rfl rfl (by kernel_rfl) (by kernel_rfl) (by kernel_rfl) (fun _ _ _ h => h) (Or.inl ⟨by rfl, fun w' h' => ?_⟩) hS ?_
  · go_simp
  try simp only [Act.put, List.setIfInBounds_toArray, List.set_cons_zero, List.set_cons_succ]
  refine tk 7 63 (.int .i64 (i : Int)) rfl rfl (by kernel_rfl) (by kernel_rfl) (by kernel_rfl) (fun _ _ _ h => h) (Or.inl ⟨by rfl, fun w' h' => ?_⟩) hS ?_
  · go_simp
  try simp only [Act.put, List.setIfInBounds_toArray, List.set_cons_zero, List.set_cons_succ]
  refine tk 8 64 (.pointer (some ⟨yb, yo + i * 6, none⟩)) rfl rfl (by kernel_rfl) (by kernel_rfl) (by kernel_rfl) (fun _ _ _ h => h) (Or.inl ⟨by rfl, fun w' h' => ?_⟩) hS ?_
  · go_simp
  try simp only [Act.put, List.setIfInBounds_toArray, List.set_cons_zero, List.set_cons_succ]
  refine tk 9 65 (.pointer (some ⟨yb, yo + i * 6 + 2, none⟩)) rfl rfl (by kernel_rfl) (by kernel_rfl) (by kernel_rfl) (fun _ _ _ h => h) (Or.inl ⟨by rfl, fun w' h' => ?_⟩) hS ?_
  · go_simp
  try simp only [Act.put, List.setIfInBounds_toArray, List.set_cons_zero, List.set_cons_succ]
  refine tk 10 66 (.agg #[.int .u64 no, .int .i64 sz, .slice xa xn xc]) rfl rfl (by kernel_rfl) (by kernel_rfl) (by kernel_rfl) (fun _ _ _ h => h) (Or.inl ⟨by rfl, fun w' h' => ?_⟩) hS ?_
  · have q2 : w'.cell? ⟨yb, yo + i * 6 + 2, none⟩ = some (.int .u64 no) := Ac.r2 h'
    have q3 : w'.cell? ⟨yb, yo + i * 6 + 2 + 1, none⟩ = some (.int .i64 sz) := Ac.r3 h'
    have q4 : w'.cell? ⟨yb, yo + i * 6 + 2 + 2, none⟩ = some (.slice xa xn xc) := Ac.r4 h'
    go_simp
  try simp only [Act.put, List.setIfInBounds_toArray, List.set_cons_zero, List.set_cons_succ]
  refine tk 12 68 (.pointer (some ⟨gb, 0, none⟩)) rfl rfl (by kernel_rfl) (by kernel_rfl) (by kernel_rfl) (fun _ _ _ h => h) (Or.inl ⟨by rfl, fun w' h' => ?_⟩) hS ?_
  · go_simp
  try simp only [Act.put, List.setIfInBounds_toArray, List.set_cons_zero, List.set_cons_succ]
  refine tk 13 69 (.slice (some ⟨yb, yo, none⟩) m c2) rfl rfl (by kernel_rfl) (by kernel_rfl) (by kernel_rfl) (fun _ _ _ h => h) (Or.inl ⟨by rfl, fun w' h' => ?_⟩) hS ?_
  · go_simp
  try simp only [Act.put, List.setIfInBounds_toArray, List.set_cons_zero, List.set_cons_succ]
  refine tk 14 70 (.int .i64 (i : Int)) rfl rfl (by kernel_rfl) (by kernel_rfl) (by kernel_rfl) (fun _ _ _ h => h) (Or.inl ⟨by rfl, fun w' h' => ?_⟩) hS ?_
  · go_simp
  try simp only [Act.put, List.setIfInBounds_toArray, List.set_cons_zero, List.set_cons_succ]
  refine tk 15 71 (.pointer (some ⟨yb, yo + i * 6, none⟩)) rfl rfl (by kernel_rfl) (by kernel_rfl) (by kernel_rfl) (fun _ _ _ h => h) (Or.inl ⟨by rfl, fun w' h' => ?_⟩) hS ?_
  · go_simp
  try simp only [Act.put, List.setIfInBounds_toArray, List.set_cons_zero, List.set_cons_succ]
  refine tk 16 72 (.pointer (some ⟨yb, yo + i * 6 + 1, none⟩)) rfl rfl (by kernel_rfl) (by kernel_rfl) (by kernel_rfl) (fun _ _ _ h => h) (Or.inl ⟨by rfl, fun w' h' => ?_⟩) hS ?_
  · go_simp
  try simp only [Act.put, List.setIfInBounds_toArray, List.set_cons_zero, List.set_cons_succ]
  refine tk 17 73 (.int .i64 yc) rfl rfl (by kernel_rfl) (by kernel_rfl) (by kernel_rfl) (fun _ _ _ h => h) (Or.inl ⟨by rfl, fun w' h' => ?_⟩) hS ?_
  · have q1 := Ac.r1 h'
    go_simp
  try simp only [Act.put, List.setIfInBounds_toArray, List.set_cons_zero, List.set_cons_succ]
  refine tk 18 74 (.slice (some ⟨yb, yo, none⟩) m c2) rfl rfl (by kernel_rfl) (by kernel_rfl) (by kernel_rfl) (fun _ _ _ h => h) (Or.inl ⟨by rfl, fun w' h' => ?_⟩) hS ?_
  · go_simp
  try simp only [Act.put, List.setIfInBounds_toArray, List.set_cons_zero, List.set_cons_succ]
  refine tk 19 75 (.int .i64 (i : Int)) rfl rfl (by kernel_rfl) (by kernel_rfl) (by kernel_rfl) (fun _ _ _ h => h) (Or.inl ⟨by rfl, fun w' h' => ?_⟩) hS ?_
  · go_simp
  try simp only [Act.put, List.setIfInBounds_toArray, List.set_cons_zero, List.set_cons_succ]
  refine tk 20 76 (.pointer (some ⟨yb, yo + i * 6, none⟩)) rfl rfl (by kernel_rfl) (by kernel_rfl) (by kernel_rfl) (fun _ _ _ h => h) (Or.inl ⟨by rfl, fun w' h' => ?_⟩) hS ?_
  · go_simp
  try simp only [Act.put, List.setIfInBounds_toArray, List.set_cons_zero, List.set_cons_succ]
  refine tk 21 77 (.pointer (some ⟨yb, yo + i * 6 + 2, none⟩)) rfl rfl (by kernel_rfl) (by kernel_rfl) (by kernel_rfl) (fun _ _ _ h => h) (Or.inl ⟨by rfl, fun w' h' => ?_⟩) hS ?_
  · go_simp
  try simp only [Act.put, List.setIfInBounds_toArray, List.set_cons_zero, List.set_cons_succ]
  refine tk 22 78 (.agg #[.int .u64 no, .int .i64 sz, .slice xa xn xc]) rfl rfl (by kernel_rfl) (by kernel_rfl) (by kernel_rfl) (fun _ _ _ h => h) (Or.inl ⟨by rfl, fun w' h' => ?_⟩) hS ?_
  · have q2 : w'.cell? ⟨yb, yo + i * 6 + 2, none⟩ = some (.int .u64 no) := Ac.r2 h'
    have q3 : w'.cell? ⟨yb, yo + i * 6 + 2 + 1, none⟩ = some (.int .i64 sz) := Ac.r3 h'
    have q4 : w'.cell? ⟨yb, yo + i * 6 + 2 + 2, none⟩ = some (.slice xa xn xc) := Ac.r4 h'
    go_simp
  try simp only [Act.put, List.setIfInBounds_toArray, List.set_cons_zero, List.set_cons_succ]
  refine wpAnyH_ready (rs := [11]) (by kernel_rfl) (by simp) (AllReadyH.cons rfl (fun K hK => ?_) AllReadyH.nil)
  rw [if_pos (by rfl)]
  go_wp2_with fail
  refine (lvOffer H0.out.a (by have := HN.out; omega) yc ⟨no, sz, xa, xn, xc, xd⟩ ((HX.out.x.below (HE.out.l2.a.below.trans ((Below.refl _ _).drew))).at_ (Nat.le_trans hx20 (by decide))) (fun hne b hb e => by have := arg_blk HX.out.x hne b hb; have := (H0.out.a.sw.foot_lt e).1; omega)).mono ?_
  rintro e w1 ⟨rfl, sa', hv, hT, _, hab, hk, hf⟩
  have hl2 := H0.out.left (by omega) hv hk hf
  have H1 : Hid (L2 w w1 ga gb sa' sb (N + 1) ∧ sa'.T = 7 ∧ sa'.abs = offL sa.abs yc (Pi.it ⟨no, sz, xa, xn, xc, xd⟩)) := ⟨hl2, hT.trans HE.out.ta, hab⟩
  have hrg : World.rangeAt w1 yb (yo + i * 6) (Ac.cs ⟨yd, yc, ⟨no, sz, xa, xn, xc, xd⟩, yt⟩) := range_kept hv.below HY.out
  have HS1 := Lib.hid hrg
  obtain ⟨co, hco⟩ : ∃ z, offC sa.abs yc (Pi.it ⟨no, sz, xa, xn, xc, xd⟩) = z := ⟨_, rfl⟩
  rw [hco]
  have HCO := Lib.hid hco
  clear hv hT hab hk hf hl2 hrg hco H0 HS
  clear hS
  refine hK.out _ _ (HS1.out) (fun hS => ?_)
  clear hK K
  try simp only [Act.put, List.setIfInBounds_toArray, List.set_cons_zero, List.set_cons_succ]
  refine wpAnyH_ready (rs := [23]) (by kernel_rfl) (by simp) (AllReadyH.cons rfl (fun K hK => ?_) AllReadyH.nil)
  rw [if_pos (by rfl)]
  go_wp2_with fail
  refine (lvOffer H1.out.1.b (by have := HN.out; omega) yc ⟨no, sz, xa, xn, xc, xd⟩ ((HX.out.x.below H1.out.1.b.below).at_ (Nat.le_trans hx20 (by decide))) (fun hne b hb e => by have := arg_blk HX.out.x hne b hb; have := (H1.out.1.b.sw.foot_lt e).1; omega)).mono ?_
  rintro e w2 ⟨rfl, sb', hv, hT, _, hab, hk, hf⟩
  have hl2 := (H1.out.1.swap.left (by omega) hv hk hf).swap
  have H2 : Hid (E1 w w2 ga gb sa' sb' (N + 2)) := ⟨⟨⟨hl2.a.sw, hl2.a.n1, hl2.a.below, hl2.a.db.more (by omega), hl2.a.bT, hl2.a.T0, hl2.a.T1, by have := hl2.a.N0; omega⟩, ⟨hl2.b.sw, hl2.b.n1, hl2.b.below, hl2.b.db.more (by omega), hl2.b.bT, hl2.b.T0, hl2.b.T1, by have := hl2.a.N0; omega⟩, hl2.dis⟩, H1.out.2.1, hT.trans HE.out.tb, by rw [H1.out.2.2, hab, HE.out.ab]⟩
  have hrg : World.rangeAt w2 yb (yo + i * 6) (Ac.cs ⟨yd, yc, ⟨no, sz, xa, xn, xc, xd⟩, yt⟩) := range_kept hv.below HY.out
  have HS2 := Lib.hid hrg
  rw [← HE.out.ab, HCO.out]
  clear hv hT hab hk hf hl2 hrg H1 HS1
  clear hS
  refine hK.out _ _ (HS2.out) (fun hS => ?_)
  clear hK K
  try simp only [Act.put, List.setIfInBounds_toArray, List.set_cons_zero, List.set_cons_succ]
  refine tk 24 80 (.bool false) rfl rfl (by kernel_rfl) (by kernel_rfl) (by kernel_rfl) (fun _ _ _ h => h) (Or.inl ⟨by rfl, fun w' h' => ?_⟩) hS ?_
  · go_simp
  refine wpAnyH_done (by kernel_rfl) ?_ _
  go_wp2_with fail
  refine Met.intro (hJ0 _ _ ?_)
  exact ⟨_, _, ⟨rfl, rfl⟩, rfl, rfl, rfl, rfl, rfl, rfl, H2.out⟩

set_option maxRecDepth 100000 in
set_option maxHeartbeats 4000000 in
theorem y12 (wr : World) (ya : Option Addr) (m c2 : Nat) (tv : Int) (ga gb : Nat) (nn : Nat) (hnn : tv.tmod 200 = (nn : Int)) (hn2 : nn < 200) (a : Act) (hf : Fr 183 a) (h1 : sl a 1 = .slice ya m c2) (h2 : sl a 2 = .int .u8 tv) (h7 : sl a 7 = .pointer (some ⟨ga, 0, none⟩)) (h9 : sl a 9 = .pointer (some ⟨gb, 0, none⟩)) :
    Code.wp Try.prog (cAt [1,1,1,1,1,1,0] KE) (Exit.then (fun a' w' => Fr 183 a' ∧ sl a' 7 = .pointer (some ⟨ga, 0, none⟩) ∧ sl a' 9 = .pointer (some ⟨gb, 0, none⟩) ∧ sl a' 12 = .int .u64 (nn : Int) ∧ wr = w') Nope) a wr := by
  obtain ⟨f, ha, hs⟩ := frKE hf
  have e1 := (hs 1).trans h1
  have e2 := (hs 2).trans h2
  have e7 := (hs 7).trans h7
  have e9 := (hs 9).trans h9
  rw [e1, e2, e7, e9] at ha
  clear hs hf e1 h1 e2 h2 e7 h7 e9 h9
  subst ha
  refine piece2 fun J0 K0 hJ0 hK0 => ?_
  conv => arg 2; whnf
  have e1 : IntKind.u64.wrap (nn : Int) = nn := by rw [IntKind.wrap_u64]; omega
  have e0 : IntKind.u8.wrap (nn : Int) = nn := by rw [IntKind.wrap_u8]; omega
  go_wp2_with fail
  refine Met.intro (hJ0 _ _ ?_)
  exact ⟨⟨rfl, rfl⟩, rfl, rfl, rfl, rfl⟩

set_option maxRecDepth 100000 in
set_option maxHeartbeats 4000000 in
theorem y13 (w wr : World) (ga gb nn : Nat) (sa sb : Sh) (N : Int) (HE : Hid (E1 w wr ga gb sa sb N)) (HN : Hid (N < 1000)) (hn2 : nn < 200) (a : Act) (hf : Fr 183 a) (h7 : sl a 7 = .pointer (some ⟨ga, 0, none⟩)) (h9 : sl a 9 = .pointer (some ⟨gb, 0, none⟩)) (h12 : sl a 12 = .int .u64 (nn : Int)) :
    Code.wp Try.prog (cAt [1,1,1,1,1,1,1,0] KE) (Exit.then (fun a' w' => ∃ vw nw cw yw, Fr 183 a' ∧ sl a' 9 = .pointer (some ⟨gb, 0, none⟩) ∧ sl a' 12 = .int .u64 (nn : Int) ∧ sl a' 13 = .slice vw nw cw ∧ E2 w w' gb sb N wr.heap.size w'.heap.size vw nw cw yw none 0 0 [] ∧ yw.map Po.ot = (rel (7 + (nn : Int)) 7 sa.abs).2) Nope) a wr := by
  obtain ⟨f, ha, hs⟩ := frKE hf
  have e7 := (hs 7).trans h7
  have e9 := (hs 9).trans h9
  have e12 := (hs 12).trans h12
  rw [e7, e9, e12] at ha
  clear hs hf e7 h7 e9 h9 e12 h12
  subst ha
  refine piece2 fun J0 K0 hJ0 hK0 => ?_
  conv => arg 2; whnf
  have e1 : IntKind.u64.wrap (7 + (nn : Int)) = 7 + nn := by rw [IntKind.wrap_u64]; omega
  go_wp2_with fail
  refine (lvRelease HE.out.l2.a (by have := HN.out; omega) (7 + (nn : Int)) (by omega)).mono ?_
  rintro e w1 ⟨vw, nw, cw, yw, sa', rfl, ho, hot, hv, hT, _, hab, hk, hf⟩
  rw [HE.out.ta, show max (7 + (nn : Int)) 7 = 7 + nn by omega] at hot
  have hl2 := HE.out.l2.left (Int.le_refl _) hv hk (fun k hk => .inl (hf k hk))
  have H1 : Hid (E2 w w1 gb sb N wr.heap.size w1.heap.size vw nw cw yw none 0 0 [] ∧ yw.map Po.ot = (rel (7 + (nn : Int)) 7 sa.abs).2) :=
    ⟨⟨hl2.b, ho, Ops.nil _ _, fun k hk => (HE.out.l2.b.sw.foot_lt hk).2, ⟨fun k hk => (ho.row.blk_ge k hk).2, fun y hy k hk => ((ho.data y hy).1.blk_ge k hk).2⟩, HE.out.l2.a.below.size, hk.size, Nat.le_refl _⟩, hot⟩
  clear ho hot hv hT hab hk hf hl2
  go_wp2_with fail
  refine Met.intro (hJ0 _ _ ?_)
  exact ⟨vw, nw, cw, yw, ⟨rfl, rfl⟩, rfl, rfl, rfl, H1.out⟩

set_option maxRecDepth 100000 in
set_option maxHeartbeats 4000000 in
theorem y14 (wr : World) (gb nn : Nat) (vw : Option Addr) (nw cw : Nat) (a : Act) (hf : Fr 183 a) (h9 : sl a 9 = .pointer (some ⟨gb, 0, none⟩)) (h12 : sl a 12 = .int .u64 (nn : Int)) (h13 : sl a 13 = .slice vw nw cw) :
    Code.wp Try.prog (cAt [1,1,1,1,1,1,1,1,0] KE) (Exit.then (fun a' w' => Fr 183 a' ∧ sl a' 9 = .pointer (some ⟨gb, 0, none⟩) ∧ sl a' 12 = .int .u64 (nn : Int) ∧ sl a' 13 = .slice vw nw cw ∧ sl a' 14 = .slice none 0 0 ∧ wr = w') Nope) a wr := by
  obtain ⟨f, ha, hs⟩ := frKE hf
  have e9 := (hs 9).trans h9
  have e12 := (hs 12).trans h12
  have e13 := (hs 13).trans h13
  rw [e9, e12, e13] at ha
  clear hs hf e9 h9 e12 h12 e13 h13
  subst ha
  refine piece2 fun J0 K0 hJ0 hK0 => ?_
  conv => arg 2; whnf
  go_wp2_with fail
  refine Met.intro (hJ0 _ _ ?_)
  exact ⟨⟨rfl, rfl⟩, rfl, rfl, rfl, rfl, rfl⟩

set_option maxRecDepth 100000 in
set_option maxHeartbeats 4000000 in
theorem y15 (wr : World) (gb nn : Nat) (vw : Option Addr) (nw cw : Nat) (a : Act) (hf : Fr 183 a) (h9 : sl a 9 = .pointer (some ⟨gb, 0, none⟩)) (h12 : sl a 12 = .int .u64 (nn : Int)) (h13 : sl a 13 = .slice vw nw cw) (h14 : sl a 14 = .slice none 0 0) :
    Code.wp Try.prog (cAt [1,1,1,1,1,1,1,1,1,0,0] KE) (Exit.then (fun a' w' => Fr 183 a' ∧ sl a' 9 = .pointer (some ⟨gb, 0, none⟩) ∧ sl a' 12 = .int .u64 (nn : Int) ∧ sl a' 13 = .slice vw nw cw ∧ sl a' 14 = .slice none 0 0 ∧ sl a' 15 = .int .u64 0 ∧ wr = w') Nope) a wr := by
  obtain ⟨f, ha, hs⟩ := frKE hf
  have e9 := (hs 9).trans h9
  have e12 := (hs 12).trans h12
  have e13 := (hs 13).trans h13
  have e14 := (hs 14).trans h14
  rw [e9, e12, e13, e14] at ha
  clear hs hf e9 h9 e12 h12 e13 h13 e14 h14
  subst ha
  refine piece2 fun J0 K0 hJ0 hK0 => ?_
  conv => arg 2; whnf
  go_wp2_with fail
  refine Met.intro (hJ0 _ _ ?_)
  exact ⟨⟨rfl, rfl⟩, rfl, rfl, rfl, rfl, rfl, rfl⟩

set_option maxRecDepth 100000 in
set_option maxHeartbeats 4000000 in
theorem y16 (wr : World) (gb nn : Nat) (vw : Option Addr) (nw cw : Nat) (vg : Option Addr) (ng cg t : Nat) (ht : t ≤ nn) (a : Act) (hf : Fr 183 a) (h9 : sl a 9 = .pointer (some ⟨gb, 0, none⟩)) (h12 : sl a 12 = .int .u64 (nn : Int)) (h13 : sl a 13 = .slice vw nw cw) (h14 : sl a 14 = .slice vg ng cg) (h15 : sl a 15 = .int .u64 (t : Int)) :
    Code.wp Try.prog (cAt [1,1,1,1,1,1,1,1,1,0,1,2,2,0] KE) (Exit.then (fun a' w' => Fr 183 a' ∧ sl a' 9 = .pointer (some ⟨gb, 0, none⟩) ∧ sl a' 12 = .int .u64 (nn : Int) ∧ sl a' 13 = .slice vw nw cw ∧ sl a' 14 = .slice vg ng cg ∧ sl a' 15 = .int .u64 (t : Int) ∧ wr = w') Nope) a wr := by
  obtain ⟨f, ha, hs⟩ := frKE hf
  have e9 := (hs 9).trans h9
  have e12 := (hs 12).trans h12
  have e13 := (hs 13).trans h13
  have e14 := (hs 14).trans h14
  have e15 := (hs 15).trans h15
  rw [e9, e12, e13, e14, e15] at ha
  clear hs hf e9 h9 e12 h12 e13 h13 e14 h14 e15 h15
  subst ha
  refine piece2 fun J0 K0 hJ0 hK0 => ?_
  conv => arg 2; whnf
  have ht2 : (t : Int) ≤ (nn : Int) := by omega
  go_wp2_with fail
  refine Met.intro (hJ0 _ _ ?_)
  exact ⟨⟨rfl, rfl⟩, rfl, rfl, rfl, rfl, rfl, rfl⟩

set_option maxRecDepth 100000 in
set_option maxHeartbeats 4000000 in
theorem y16x (wr : World) (gb nn : Nat) (vw : Option Addr) (nw cw : Nat) (vg : Option Addr) (ng cg t : Nat) (ht : ¬ t ≤ nn) (a : Act) (hf : Fr 183 a) (h9 : sl a 9 = .pointer (some ⟨gb, 0, none⟩)) (h12 : sl a 12 = .int .u64 (nn : Int)) (h13 : sl a 13 = .slice vw nw cw) (h14 : sl a 14 = .slice vg ng cg) (h15 : sl a 15 = .int .u64 (t : Int)) :
    Code.wp Try.prog (cAt [1,1,1,1,1,1,1,1,1,0,1,2,2] KE) (Outs 2 (fun a' w' => Fr 183 a' ∧ sl a' 13 = .slice vw nw cw ∧ sl a' 14 = .slice vg ng cg ∧ wr = w')) a wr := by
  obtain ⟨f, ha, hs⟩ := frKE hf
  have e9 := (hs 9).trans h9
  have e12 := (hs 12).trans h12
  have e13 := (hs 13).trans h13
  have e14 := (hs 14).trans h14
  have e15 := (hs 15).trans h15
  rw [e9, e12, e13, e14, e15] at ha
  clear hs hf e9 h9 e12 h12 e13 h13 e14 h14 e15 h15
  subst ha
  conv => arg 2; whnf
  have ht2 : ¬ (t : Int) ≤ (nn : Int) := by omega
  go_wp2_with fail
  exact ⟨rfl, ⟨rfl, rfl⟩, rfl, rfl, rfl⟩

set_option maxRecDepth 100000 in
set_option maxHeartbeats 4000000 in
theorem y17 (wr : World) (gb nn : Nat) (vw : Option Addr) (nw cw : Nat) (vg : Option Addr) (ng cg t : Nat) (ht : t < 1000) (a : Act) (hf : Fr 183 a) (h9 : sl a 9 = .pointer (some ⟨gb, 0, none⟩)) (h12 : sl a 12 = .int .u64 (nn : Int)) (h13 : sl a 13 = .slice vw nw cw) (h14 : sl a 14 = .slice vg ng cg) (h15 : sl a 15 = .int .u64 (t : Int)) :
    Code.wp Try.prog (cAt [1,1,1,1,1,1,1,1,1,0,1,2,2,1,1] KE) (Exit.then (fun a' w' => Fr 183 a' ∧ sl a' 9 = .pointer (some ⟨gb, 0, none⟩) ∧ sl a' 12 = .int .u64 (nn : Int) ∧ sl a' 13 = .slice vw nw cw ∧ sl a' 14 = .slice vg ng cg ∧ sl a' 15 = .int .u64 ((t : Int) + 1) ∧ wr = w') Nope) a wr := by
  obtain ⟨f, ha, hs⟩ := frKE hf
  have e9 := (hs 9).trans h9
  have e12 := (hs 12).trans h12
  have e13 := (hs 13).trans h13
  have e14 := (hs 14).trans h14
  have e15 := (hs 15).trans h15
  rw [e9, e12, e13, e14, e15] at ha
  clear hs hf e9 h9 e12 h12 e13 h13 e14 h14 e15 h15
  subst ha
  refine piece2 fun J0 K0 hJ0 hK0 => ?_
  conv => arg 2; whnf
  have hw : IntKind.u64.wrap ((t : Int) + 1) = (t : Int) + 1 := by rw [IntKind.wrap_u64]; omega
  go_wp2_with fail
  refine Met.intro (hJ0 _ _ ?_)
  exact ⟨⟨rfl, rfl⟩, rfl, rfl, rfl, rfl, rfl, rfl⟩

set_option maxRecDepth 100000 in
set_option maxHeartbeats 4000000 in
theorem y18 (w wr : World) (gb nn : Nat) (vw : Option Addr) (nw cw : Nat) (vg : Option Addr) (ng cg t : Nat) (sb : Sh) (N : Int) (bw bg : Nat) (yw yg : List Po) (HE : Hid (E2 w wr gb sb N bw bg vw nw cw yw vg ng cg yg)) (HN : Hid (N < 1000)) (ht : t ≤ 200) (hT : sb.T ≤ 7 + (t : Int)) (a : Act) (hf : Fr 183 a) (h9 : sl a 9 = .pointer (some ⟨gb, 0, none⟩)) (h12 : sl a 12 = .int .u64 (nn : Int)) (h13 : sl a 13 = .slice vw nw cw) (h14 : sl a 14 = .slice vg ng cg) (h15 : sl a 15 = .int .u64 (t : Int)) :
    Code.wp Try.prog (cAt [1,1,1,1,1,1,1,1,1,0,1,2,2,1,0,2,0] KE) (Exit.then (fun a' w' => ∃ v1 n1 c1 y1 sb', Fr 183 a' ∧ sl a' 9 = .pointer (some ⟨gb, 0, none⟩) ∧ sl a' 12 = .int .u64 (nn : Int) ∧ sl a' 13 = .slice vw nw cw ∧ sl a' 14 = .slice vg ng cg ∧ sl a' 15 = .int .u64 (t : Int) ∧ sl a' 16 = .slice v1 n1 c1 ∧ E2 w w' gb sb' N bw bg vw nw cw yw vg ng cg yg ∧ Ops w' wr.heap.size v1 n1 c1 y1 ∧ y1.map Po.ot = (rel (7 + (t : Int)) sb.T sb.abs).2 ∧ sb'.T = 7 + (t : Int) ∧ sb'.abs = (rel (7 + (t : Int)) sb.T sb.abs).1) Nope) a wr := by
  obtain ⟨f, ha, hs⟩ := frKE hf
  have e9 := (hs 9).trans h9
  have e12 := (hs 12).trans h12
  have e13 := (hs 13).trans h13
  have e14 := (hs 14).trans h14
  have e15 := (hs 15).trans h15
  rw [e9, e12, e13, e14, e15] at ha
  clear hs hf e9 h9 e12 h12 e13 h13 e14 h14 e15 h15
  subst ha
  refine piece2 fun J0 K0 hJ0 hK0 => ?_
  conv => arg 2; whnf
  have e1 : IntKind.u64.wrap (7 + (t : Int)) = 7 + t := by rw [IntKind.wrap_u64]; omega
  go_wp2_with fail
  refine (lvRelease HE.out.lb (by have := HN.out; omega) (7 + (t : Int)) (by omega)).mono ?_
  rintro e w1 ⟨v1, n1, c1, y1, sb', rfl, ho, hot, hv, hT2, _, hab, hk, hf⟩
  rw [show max (7 + (t : Int)) sb.T = 7 + t by omega] at hot hT2 hab
  have H1 : Hid (E2 w w1 gb sb' N bw bg vw nw cw yw vg ng cg yg ∧ Ops w1 wr.heap.size v1 n1 c1 y1 ∧ y1.map Po.ot = (rel (7 + (t : Int)) sb.T sb.abs).2 ∧ sb'.T = 7 + (t : Int) ∧ sb'.abs = (rel (7 + (t : Int)) sb.T sb.abs).1) := ⟨HE.out.rel hv hk hf, ho, hot, hT2, hab⟩
  clear ho hot hv hT2 hab hk hf
  go_wp2_with fail
  refine Met.intro (hJ0 _ _ ?_)
  exact ⟨v1, n1, c1, y1, sb', ⟨rfl, rfl⟩, rfl, rfl, rfl, rfl, rfl, rfl, H1.out⟩

set_option maxRecDepth 100000 in
set_option maxHeartbeats 4000000 in
theorem y19 (wr : World) (gb nn : Nat) (vw : Option Addr) (nw cw : Nat) (vg : Option Addr) (ng cg t : Nat) (v1 : Option Addr) (n1 c1 : Nat) (a : Act) (hf : Fr 183 a) (h9 : sl a 9 = .pointer (some ⟨gb, 0, none⟩)) (h12 : sl a 12 = .int .u64 (nn : Int)) (h13 : sl a 13 = .slice vw nw cw) (h14 : sl a 14 = .slice vg ng cg) (h15 : sl a 15 = .int .u64 (t : Int)) (h16 : sl a 16 = .slice v1 n1 c1) :
    Code.wp Try.prog (cAt [1,1,1,1,1,1,1,1,1,0,1,2,2,1,0,2,1,0,0] KE) (Exit.then (fun a' w' => Fr 183 a' ∧ sl a' 9 = .pointer (some ⟨gb, 0, none⟩) ∧ sl a' 12 = .int .u64 (nn : Int) ∧ sl a' 13 = .slice vw nw cw ∧ sl a' 14 = .slice vg ng cg ∧ sl a' 15 = .int .u64 (t : Int) ∧ sl a' 16 = .slice v1 n1 c1 ∧ sl a' 17 = .int .i64 0 ∧ wr = w') Nope) a wr := by
  obtain ⟨f, ha, hs⟩ := frKE hf
  have e9 := (hs 9).trans h9
  have e12 := (hs 12).trans h12
  have e13 := (hs 13).trans h13
  have e14 := (hs 14).trans h14
  have e15 := (hs 15).trans h15
  have e16 := (hs 16).trans h16
  rw [e9, e12, e13, e14, e15, e16] at ha
  clear hs hf e9 h9 e12 h12 e13 h13 e14 h14 e15 h15 e16 h16
  subst ha
  refine piece2 fun J0 K0 hJ0 hK0 => ?_
  conv => arg 2; whnf
  go_wp2_with fail
  refine Met.intro (hJ0 _ _ ?_)
  exact ⟨⟨rfl, rfl⟩, rfl, rfl, rfl, rfl, rfl, rfl, rfl, rfl⟩

set_option maxRecDepth 100000 in
set_option maxHeartbeats 4000000 in
theorem y20 (wr : World) (gb nn : Nat) (vw : Option Addr) (nw cw : Nat) (vg : Option Addr) (ng cg t : Nat) (v1 : Option Addr) (n1 c1 : Nat) (i : Nat) (hi : i < n1) (a : Act) (hf : Fr 183 a) (h9 : sl a 9 = .pointer (some ⟨gb, 0, none⟩)) (h12 : sl a 12 = .int .u64 (nn : Int)) (h13 : sl a 13 = .slice vw nw cw) (h14 : sl a 14 = .slice vg ng cg) (h15 : sl a 15 = .int .u64 (t : Int)) (h16 : sl a 16 = .slice v1 n1 c1) (h17 : sl a 17 = .int .i64 (i : Int)) :
    Code.wp Try.prog (cAt [1,1,1,1,1,1,1,1,1,0,1,2,2,1,0,2,1,0,1,2,2,0] KE) (Exit.then (fun a' w' => Fr 183 a' ∧ sl a' 9 = .pointer (some ⟨gb, 0, none⟩) ∧ sl a' 12 = .int .u64 (nn : Int) ∧ sl a' 13 = .slice vw nw cw ∧ sl a' 14 = .slice vg ng cg ∧ sl a' 15 = .int .u64 (t : Int) ∧ sl a' 16 = .slice v1 n1 c1 ∧ sl a' 17 = .int .i64 (i : Int) ∧ wr = w') Nope) a wr := by
  obtain ⟨f, ha, hs⟩ := frKE hf
  have e9 := (hs 9).trans h9
  have e12 := (hs 12).trans h12
  have e13 := (hs 13).trans h13
  have e14 := (hs 14).trans h14
  have e15 := (hs 15).trans h15
  have e16 := (hs 16).trans h16
  have e17 := (hs 17).trans h17
  rw [e9, e12, e13, e14, e15, e16, e17] at ha
  clear hs hf e9 h9 e12 h12 e13 h13 e14 h14 e15 h15 e16 h16 e17 h17
  subst ha
  refine piece2 fun J0 K0 hJ0 hK0 => ?_
  conv => arg 2; whnf
  have hi2 : (i : Int) < (n1 : Int) := by omega
  go_wp2_with fail
  refine Met.intro (hJ0 _ _ ?_)
  exact ⟨⟨rfl, rfl⟩, rfl, rfl, rfl, rfl, rfl, rfl, rfl, rfl⟩

set_option maxRecDepth 100000 in
set_option maxHeartbeats 4000000 in
theorem y20x (wr : World) (gb nn : Nat) (vw : Option Addr) (nw cw : Nat) (vg : Option Addr) (ng cg t : Nat) (v1 : Option Addr) (n1 c1 : Nat) (i : Nat) (hi : ¬ i < n1) (a : Act) (hf : Fr 183 a) (h9 : sl a 9 = .pointer (some ⟨gb, 0, none⟩)) (h12 : sl a 12 = .int .u64 (nn : Int)) (h13 : sl a 13 = .slice vw nw cw) (h14 : sl a 14 = .slice vg ng cg) (h15 : sl a 15 = .int .u64 (t : Int)) (h16 : sl a 16 = .slice v1 n1 c1) (h17 : sl a 17 = .int .i64 (i : Int)) :
    Code.wp Try.prog (cAt [1,1,1,1,1,1,1,1,1,0,1,2,2,1,0,2,1,0,1,2,2] KE) (Outs 4 (fun a' w' => Fr 183 a' ∧ sl a' 9 = .pointer (some ⟨gb, 0, none⟩) ∧ sl a' 12 = .int .u64 (nn : Int) ∧ sl a' 13 = .slice vw nw cw ∧ sl a' 14 = .slice vg ng cg ∧ sl a' 15 = .int .u64 (t : Int) ∧ sl a' 16 = .slice v1 n1 c1 ∧ wr = w')) a wr := by
  obtain ⟨f, ha, hs⟩ := frKE hf
  have e9 := (hs 9).trans h9
  have e12 := (hs 12).trans h12
  have e13 := (hs 13).trans h13
  have e14 := (hs 14).trans h14
  have e15 := (hs 15).trans h15
  have e16 := (hs 16).trans h16
  have e17 := (hs 17).trans h17
  rw [e9, e12, e13, e14, e15, e16, e17] at ha
  clear hs hf e9 h9 e12 h12 e13 h13 e14 h14 e15 h15 e16 h16 e17 h17
  subst ha
  conv => arg 2; whnf
  go_wp2_with fail
  exact ⟨rfl, ⟨rfl, rfl⟩, rfl, rfl, rfl, rfl, rfl, rfl, rfl⟩

set_option maxRecDepth 100000 in
set_option maxHeartbeats 4000000 in
theorem y21 (wr : World) (gb nn : Nat) (vw : Option Addr) (nw cw : Nat) (vg : Option Addr) (ng cg t : Nat) (v1 : Option Addr) (n1 c1 : Nat) (i : Nat) (hi : i < 1000000) (a : Act) (hf : Fr 183 a) (h9 : sl a 9 = .pointer (some ⟨gb, 0, none⟩)) (h12 : sl a 12 = .int .u64 (nn : Int)) (h13 : sl a 13 = .slice vw nw cw) (h14 : sl a 14 = .slice vg ng cg) (h15 : sl a 15 = .int .u64 (t : Int)) (h16 : sl a 16 = .slice v1 n1 c1) (h17 : sl a 17 = .int .i64 (i : Int)) :
    Code.wp Try.prog (cAt [1,1,1,1,1,1,1,1,1,0,1,2,2,1,0,2,1,0,1,2,2,1,1] KE) (Exit.then (fun a' w' => Fr 183 a' ∧ sl a' 9 = .pointer (some ⟨gb, 0, none⟩) ∧ sl a' 12 = .int .u64 (nn : Int) ∧ sl a' 13 = .slice vw nw cw ∧ sl a' 14 = .slice vg ng cg ∧ sl a' 15 = .int .u64 (t : Int) ∧ sl a' 16 = .slice v1 n1 c1 ∧ sl a' 17 = .int .i64 ((i : Int) + 1) ∧ wr = w') Nope) a wr := by
  obtain ⟨f, ha, hs⟩ := frKE hf
  have e9 := (hs 9).trans h9
  have e12 := (hs 12).trans h12
  have e13 := (hs 13).trans h13
  have e14 := (hs 14).trans h14
  have e15 := (hs 15).trans h15
  have e16 := (hs 16).trans h16
  have e17 := (hs 17).trans h17
  rw [e9, e12, e13, e14, e15, e16, e17] at ha
  clear hs hf e9 h9 e12 h12 e13 h13 e14 h14 e15 h15 e16 h16 e17 h17
  subst ha
  refine piece2 fun J0 K0 hJ0 hK0 => ?_
  conv => arg 2; whnf
  have hw : IntKind.i64.wrap ((i : Int) + 1) = (i : Int) + 1 := by rw [IntKind.wrap_i64]; omega
  go_wp2_with fail
  refine Met.intro (hJ0 _ _ ?_)
  exact ⟨⟨rfl, rfl⟩, rfl, rfl, rfl, rfl, rfl, rfl, rfl, rfl⟩

set_option maxRecDepth 100000 in
set_option maxHeartbeats 4000000 in
theorem y22a (wr : World) (gb nn : Nat) (vw : Option Addr) (nw cw : Nat) (vg : Option Addr) (ng cg t : Nat) (r1 : Nat) (n1 c1 : Nat) (i : Nat) (hi : i < n1) (ht : t ≤ 200) (HC : Hid (wr.cell? ⟨r1, i * 5, none⟩ = some (.int .u64 (7 + (t : Int))))) (h0 : i = 0) (a : Act) (hf : Fr 183 a) (h9 : sl a 9 = .pointer (some ⟨gb, 0, none⟩)) (h12 : sl a 12 = .int .u64 (nn : Int)) (h13 : sl a 13 = .slice vw nw cw) (h14 : sl a 14 = .slice vg ng cg) (h15 : sl a 15 = .int .u64 (t : Int)) (h16 : sl a 16 = .slice (some ⟨r1, 0, none⟩) n1 c1) (h17 : sl a 17 = .int .i64 (i : Int)) :
    Code.wp Try.prog (cAt [1,1,1,1,1,1,1,1,1,0,1,2,2,1,0,2,1,0,1,2,2,1,0,2,0] KE) (Exit.then (fun a' w' => Fr 183 a' ∧ sl a' 9 = .pointer (some ⟨gb, 0, none⟩) ∧ sl a' 12 = .int .u64 (nn : Int) ∧ sl a' 13 = .slice vw nw cw ∧ sl a' 14 = .slice vg ng cg ∧ sl a' 15 = .int .u64 (t : Int) ∧ sl a' 16 = .slice (some ⟨r1, 0, none⟩) n1 c1 ∧ sl a' 17 = .int .i64 (i : Int) ∧ sl a' 128 = .bool false ∧ Below wr.heap.size wr w') Nope) a wr := by
  obtain ⟨f, ha, hs⟩ := frKE hf
  have e9 := (hs 9).trans h9
  have e12 := (hs 12).trans h12
  have e13 := (hs 13).trans h13
  have e14 := (hs 14).trans h14
  have e15 := (hs 15).trans h15
  have e16 := (hs 16).trans h16
  have e17 := (hs 17).trans h17
  rw [e9, e12, e13, e14, e15, e16, e17] at ha
  clear hs hf e9 h9 e12 h12 e13 h13 e14 h14 e15 h15 e16 h16 e17 h17
  subst ha
  refine piece2 fun J0 K0 hJ0 hK0 => ?_
  conv => arg 2; whnf
  have hi2 : (i : Int) < (n1 : Int) := by omega
  have hi0 : (0 : Int) ≤ (i : Int) := by omega
  have e1 : IntKind.u64.wrap (7 + (t : Int)) = 7 + t := by rw [IntKind.wrap_u64]; omega
  have hi4 : ¬ (0 : Int) < (i : Int) := by omega
  have HZ := Lib.hid h0
  clear h0
  refine wp_region_held_drew (S := fun w' => w'.cell? ⟨r1, i * 5, none⟩ = some (.int .u64 (7 + (t : Int)))) (by kernel_rfl) HC.out (fun hS => ?_)
  refine tk 0 103 (.slice (some ⟨r1, 0, none⟩) n1 c1) rfl rfl (by kernel_rfl) (by kernel_rfl) (by kernel_rfl) (fun _ _ _ h => h) (Or.inl ⟨by rfl, fun w' h' => ?_⟩) hS ?_
  · go_simp
  try simp only [Act.put, List.setIfInBounds_toArray, List.set_cons_zero, List.set_cons_succ]
  refine tk 1 104 (.int .i64 (i : Int)) rfl rfl (by kernel_rfl) (by kernel_rfl) (by kernel_rfl) (fun _ _ _ h => h) (Or.inl ⟨by rfl, fun w' h' => ?_⟩) hS ?_
  · go_simp
  try simp only [Act.put, List.setIfInBounds_toArray, List.set_cons_zero, List.set_cons_succ]
  refine tk 2 105 (.pointer (some ⟨r1, i * 5, none⟩)) rfl rfl (by kernel_rfl) (by kernel_rfl) (by kernel_rfl) (fun _ _ _ h => h) (Or.inl ⟨by rfl, fun w' h' => ?_⟩) hS ?_
  · go_simp
  try simp only [Act.put, List.setIfInBounds_toArray, List.set_cons_zero, List.set_cons_succ]
  refine tk 3 106 (.pointer (some ⟨r1, i * 5, none⟩)) rfl rfl (by kernel_rfl) (by kernel_rfl) (by kernel_rfl) (fun _ _ _ h => h) (Or.inl ⟨by rfl, fun w' h' => ?_⟩) hS ?_
  · go_simp
  try simp only [Act.put, List.setIfInBounds_toArray, List.set_cons_zero, List.set_cons_succ]
  refine tk 4 107 (.int .u64 (7 + (t : Int))) rfl rfl (by kernel_rfl) (by kernel_rfl) (by kernel_rfl) (fun _ _ _ h => h) (Or.inl ⟨by rfl, fun w' h' => ?_⟩) hS ?_
  · have q1 := h'
    go_simp
  try simp only [Act.put, List.setIfInBounds_toArray, List.set_cons_zero, List.set_cons_succ]
  refine tk 5 108 (.int .u64 (t : Int)) rfl rfl (by kernel_rfl) (by kernel_rfl) (by kernel_rfl) (fun _ _ _ h => h) (Or.inl ⟨by rfl, fun w' h' => ?_⟩) hS ?_
  · go_simp
  try simp only [Act.put, List.setIfInBounds_toArray, List.set_cons_zero, List.set_cons_succ]
  refine tk 6 109 (.int .u64 (7 + (t : Int))) rfl rfl (by kernel_rfl) (by kernel_rfl) (by kernel_rfl) (fun _ _ _ h => h) (Or.inl ⟨by rfl, fun w' h' => ?_⟩) hS ?_
  · go_simp
  try simp only [Act.put, List.setIfInBounds_toArray, List.set_cons_zero, List.set_cons_succ]
  refine tk 7 110 (.bool false) rfl rfl (by kernel_rfl) (by kernel_rfl) (by kernel_rfl) (fun _ _ _ h => h) (Or.inl ⟨by rfl, fun w' h' => ?_⟩) hS ?_
  · go_simp
  try simp only [Act.put, List.setIfInBounds_toArray, List.set_cons_zero, List.set_cons_succ]
  refine tk 8 111 (.bool false) rfl rfl (by kernel_rfl) (by kernel_rfl) (by kernel_rfl) (fun _ _ _ h => h) (Or.inl ⟨by rfl, fun w' h' => ?_⟩) hS ?_
  · go_simp
  try simp only [Act.put, List.setIfInBounds_toArray, List.set_cons_zero, List.set_cons_succ]
  refine tk 9 112 (.int .i64 (i : Int)) rfl rfl (by kernel_rfl) (by kernel_rfl) (by kernel_rfl) (fun _ _ _ h => h) (Or.inl ⟨by rfl, fun w' h' => ?_⟩) hS ?_
  · go_simp
  try simp only [Act.put, List.setIfInBounds_toArray, List.set_cons_zero, List.set_cons_succ]
  refine tk 10 113 (.bool false) rfl rfl (by kernel_rfl) (by kernel_rfl) (by kernel_rfl) (fun _ _ _ h => h) (Or.inl ⟨by rfl, fun w' h' => ?_⟩) hS ?_
  · (go_simp; exact HZ.out)
  try simp only [Act.put, List.setIfInBounds_toArray, List.set_cons_zero, List.set_cons_succ]
  refine tk 11 114 (.bool false) rfl rfl (by kernel_rfl) (by kernel_rfl) (by kernel_rfl) (fun _ _ _ h => h) (Or.inl ⟨by rfl, fun w' h' => ?_⟩) hS ?_
  · go_simp
  try simp only [Act.put, List.setIfInBounds_toArray, List.set_cons_zero, List.set_cons_succ]
  refine tk 12 115 undef rfl rfl (by kernel_rfl) (by kernel_rfl) (by kernel_rfl) (fun _ _ _ h => h) (Or.inr ⟨by rfl, rfl⟩) hS ?_
  try simp only [Act.put, List.setIfInBounds_toArray, List.set_cons_zero, List.set_cons_succ]
  refine tk 13 116 undef rfl rfl (by kernel_rfl) (by kernel_rfl) (by kernel_rfl) (fun _ _ _ h => h) (Or.inr ⟨by rfl, rfl⟩) hS ?_
  try simp only [Act.put, List.setIfInBounds_toArray, List.set_cons_zero, List.set_cons_succ]
  refine tk 14 117 undef rfl rfl (by kernel_rfl) (by kernel_rfl) (by kernel_rfl) (fun _ _ _ h => h) (Or.inr ⟨by rfl, rfl⟩) hS ?_
  try simp only [Act.put, List.setIfInBounds_toArray, List.set_cons_zero, List.set_cons_succ]
  refine tk 15 118 undef rfl rfl (by kernel_rfl) (by kernel_rfl) (by kernel_rfl) (fun _ _ _ h => h) (Or.inr ⟨by rfl, rfl⟩) hS ?_
  try simp only [Act.put, List.setIfInBounds_toArray, List.set_cons_zero, List.set_cons_succ]
  refine tk 16 119 undef rfl rfl (by kernel_rfl) (by kernel_rfl) (by kernel_rfl) (fun _ _ _ h => h) (Or.inr ⟨by rfl, rfl⟩) hS ?_
  try simp only [Act.put, List.setIfInBounds_toArray, List.set_cons_zero, List.set_cons_succ]
  refine tk 17 120 undef rfl rfl (by kernel_rfl) (by kernel_rfl) (by kernel_rfl) (fun _ _ _ h => h) (Or.inr ⟨by rfl, rfl⟩) hS ?_
  try simp only [Act.put, List.setIfInBounds_toArray, List.set_cons_zero, List.set_cons_succ]
  refine tk 18 121 undef rfl rfl (by kernel_rfl) (by kernel_rfl) (by kernel_rfl) (fun _ _ _ h => h) (Or.inr ⟨by rfl, rfl⟩) hS ?_
  try simp only [Act.put, List.setIfInBounds_toArray, List.set_cons_zero, List.set_cons_succ]
  refine tk 19 122 undef rfl rfl (by kernel_rfl) (by kernel_rfl) (by kernel_rfl) (fun _ _ _ h => h) (Or.inr ⟨by rfl, rfl⟩) hS ?_
  try simp only [Act.put, List.setIfInBounds_toArray, List.set_cons_zero, List.set_cons_succ]
  refine tk 20 123 undef rfl rfl (by kernel_rfl) (by kernel_rfl) (by kernel_rfl) (fun _ _ _ h => h) (Or.inr ⟨by rfl, rfl⟩) hS ?_
  try simp only [Act.put, List.setIfInBounds_toArray, List.set_cons_zero, List.set_cons_succ]
  refine tk 21 124 undef rfl rfl (by kernel_rfl) (by kernel_rfl) (by kernel_rfl) (fun _ _ _ h => h) (Or.inr ⟨by rfl, rfl⟩) hS ?_
  try simp only [Act.put, List.setIfInBounds_toArray, List.set_cons_zero, List.set_cons_succ]
  refine tk 22 125 undef rfl rfl (by kernel_rfl) (by kernel_rfl) (by kernel_rfl) (fun _ _ _ h => h) (Or.inr ⟨by rfl, rfl⟩) hS ?_
  try simp only [Act.put, List.setIfInBounds_toArray, List.set_cons_zero, List.set_cons_succ]
  refine tk 23 126 undef rfl rfl (by kernel_rfl) (by kernel_rfl) (by kernel_rfl) (fun _ _ _ h => h) (Or.inr ⟨by rfl, rfl⟩) hS ?_
  try simp only [Act.put, List.setIfInBounds_toArray, List.set_cons_zero, List.set_cons_succ]
  refine tk 24 127 (.bool false) rfl rfl (by kernel_rfl) (by kernel_rfl) (by kernel_rfl) (fun _ _ _ h => h) (Or.inl ⟨by rfl, fun w' h' => ?_⟩) hS ?_
  · go_simp
  try simp only [Act.put, List.setIfInBounds_toArray, List.set_cons_zero, List.set_cons_succ]
  refine tk 25 128 (.bool false) rfl rfl (by kernel_rfl) (by kernel_rfl) (by kernel_rfl) (fun _ _ _ h => h) (Or.inl ⟨by rfl, fun w' h' => ?_⟩) hS ?_
  · go_simp
  refine wpAnyH_done (by kernel_rfl) ?_ _
  go_wp2_with fail
  refine Met.intro (hJ0 _ _ ?_)
  exact ⟨⟨rfl, rfl⟩, rfl, rfl, rfl, rfl, rfl, rfl, rfl, rfl, (Below.refl _ _).drew⟩

set_option maxRecDepth 100000 in
set_option maxHeartbeats 4000000 in
theorem y22b (wr : World) (gb nn : Nat) (vw : Option Addr) (nw cw : Nat) (vg : Option Addr) (ng cg t : Nat) (r1 : Nat) (p q : Ot) (n1 c1 : Nat) (i : Nat) (hi : i < n1) (ht : t ≤ 200) (HC : Hid (wr.cell? ⟨r1, i * 5, none⟩ = some (.int .u64 (7 + (t : Int))) ∧ wr.cell? ⟨r1, i * 5 + 1, none⟩ = some (.int .i64 (p.c : Int)) ∧ wr.cell? ⟨r1, (i - 1) * 5 + 1, none⟩ = some (.int .i64 (q.c : Int)))) (h0 : 0 < i) (hle : q.c ≤ p.c) (hn1 : n1 ≤ 1000000) (a : Act) (hf : Fr 183 a) (h9 : sl a 9 = .pointer (some ⟨gb, 0, none⟩)) (h12 : sl a 12 = .int .u64 (nn : Int)) (h13 : sl a 13 = .slice vw nw cw) (h14 : sl a 14 = .slice vg ng cg) (h15 : sl a 15 = .int .u64 (t : Int)) (h16 : sl a 16 = .slice (some ⟨r1, 0, none⟩) n1 c1) (h17 : sl a 17 = .int .i64 (i : Int)) :
    Code.wp Try.prog (cAt [1,1,1,1,1,1,1,1,1,0,1,2,2,1,0,2,1,0,1,2,2,1,0,2,0] KE) (Exit.then (fun a' w' => Fr 183 a' ∧ sl a' 9 = .pointer (some ⟨gb, 0, none⟩) ∧ sl a' 12 = .int .u64 (nn : Int) ∧ sl a' 13 = .slice vw nw cw ∧ sl a' 14 = .slice vg ng cg ∧ sl a' 15 = .int .u64 (t : Int) ∧ sl a' 16 = .slice (some ⟨r1, 0, none⟩) n1 c1 ∧ sl a' 17 = .int .i64 (i : Int) ∧ sl a' 128 = .bool false ∧ Below wr.heap.size wr w') Nope) a wr := by
  obtain ⟨f, ha, hs⟩ := frKE hf
  have e9 := (hs 9).trans h9
  have e12 := (hs 12).trans h12
  have e13 := (hs 13).trans h13
  have e14 := (hs 14).trans h14
  have e15 := (hs 15).trans h15
  have e16 := (hs 16).trans h16
  have e17 := (hs 17).trans h17
  rw [e9, e12, e13, e14, e15, e16, e17] at ha
  clear hs hf e9 h9 e12 h12 e13 h13 e14 h14 e15 h15 e16 h16 e17 h17
  subst ha
  refine piece2 fun J0 K0 hJ0 hK0 => ?_
  conv => arg 2; whnf
  have hi2 : (i : Int) < (n1 : Int) := by omega
  have hi0 : (0 : Int) ≤ (i : Int) := by omega
  have e1 : IntKind.u64.wrap (7 + (t : Int)) = 7 + t := by rw [IntKind.wrap_u64]; omega
  have e2 : IntKind.i64.wrap ((i : Int) - 1) = ((i - 1 : Nat) : Int) := by rw [IntKind.wrap_i64]; omega
  have hi3 : ((i - 1 : Nat) : Int) < (n1 : Int) := by omega
  have hi5 : (0 : Int) ≤ ((i - 1 : Nat) : Int) := by omega
  have hi4 : (0 : Int) < (i : Int) := by omega
  have hcc : ¬ (p.c : Int) < (q.c : Int) := by omega
  clear h0 hle
  refine wp_region_held_drew (S := fun w' => w'.cell? ⟨r1, i * 5, none⟩ = some (.int .u64 (7 + (t : Int))) ∧ w'.cell? ⟨r1, i * 5 + 1, none⟩ = some (.int .i64 (p.c : Int)) ∧ w'.cell? ⟨r1, (i - 1) * 5 + 1, none⟩ = some (.int .i64 (q.c : Int))) (by kernel_rfl) HC.out (fun hS => ?_)
  refine tk 0 103 (.slice (some ⟨r1, 0, none⟩) n1 c1) rfl rfl (by kernel_rfl) (by kernel_rfl) (by kernel_rfl) (fun _ _ _ h => h) (Or.inl ⟨by rfl, fun w' h' => ?_⟩) hS ?_
  · go_simp
  try simp only [Act.put, List.setIfInBounds_toArray, List.set_cons_zero, List.set_cons_succ]
  refine tk 1 104 (.int .i64 (i : Int)) rfl rfl (by kernel_rfl) (by kernel_rfl) (by kernel_rfl) (fun _ _ _ h => h) (Or.inl ⟨by rfl, fun w' h' => ?_⟩) hS ?_
  · go_simp
  try simp only [Act.put, List.setIfInBounds_toArray, List.set_cons_zero, List.set_cons_succ]
  refine tk 2 105 (.pointer (some ⟨r1, i * 5, none⟩)) rfl rfl (by kernel_rfl) (by kernel_rfl) (by kernel_rfl) (fun _ _ _ h => h) (Or.inl ⟨by rfl, fun w' h' => ?_⟩) hS ?_
  · go_simp
  try simp only [Act.put, List.setIfInBounds_toArray, List.set_cons_zero, List.set_cons_succ]
  refine tk 3 106 (.pointer (some ⟨r1, i * 5, none⟩)) rfl rfl (by kernel_rfl) (by kernel_rfl) (by kernel_rfl) (fun _ _ _ h => h) (Or.inl ⟨by rfl, fun w' h' => ?_⟩) hS ?_
  · go_simp
  try simp only [Act.put, List.setIfInBounds_toArray, List.set_cons_zero, List.set_cons_succ]
  refine tk 4 107 (.int .u64 (7 + (t : Int))) rfl rfl (by kernel_rfl) (by kernel_rfl) (by kernel_rfl) (fun _ _ _ h => h) (Or.inl ⟨by rfl, fun w' h' => ?_⟩) hS ?_
  · have q1 := h'.1
    go_simp
  try simp only [Act.put, List.setIfInBounds_toArray, List.set_cons_zero, List.set_cons_succ]
  refine tk 5 108 (.int .u64 (t : Int)) rfl rfl (by kernel_rfl) (by kernel_rfl) (by kernel_rfl) (fun _ _ _ h => h) (Or.inl ⟨by rfl, fun w' h' => ?_⟩) hS ?_
  · go_simp
  try simp only [Act.put, List.setIfInBounds_toArray, List.set_cons_zero, List.set_cons_succ]
  refine tk 6 109 (.int .u64 (7 + (t : Int))) rfl rfl (by kernel_rfl) (by kernel_rfl) (by kernel_rfl) (fun _ _ _ h => h) (Or.inl ⟨by rfl, fun w' h' => ?_⟩) hS ?_
  · go_simp
  try simp only [Act.put, List.setIfInBounds_toArray, List.set_cons_zero, List.set_cons_succ]
  refine tk 7 110 (.bool false) rfl rfl (by kernel_rfl) (by kernel_rfl) (by kernel_rfl) (fun _ _ _ h => h) (Or.inl ⟨by rfl, fun w' h' => ?_⟩) hS ?_
  · go_simp
  try simp only [Act.put, List.setIfInBounds_toArray, List.set_cons_zero, List.set_cons_succ]
  refine tk 8 111 (.bool false) rfl rfl (by kernel_rfl) (by kernel_rfl) (by kernel_rfl) (fun _ _ _ h => h) (Or.inl ⟨by rfl, fun w' h' => ?_⟩) hS ?_
  · go_simp
  try simp only [Act.put, List.setIfInBounds_toArray, List.set_cons_zero, List.set_cons_succ]
  refine tk 9 112 (.int .i64 (i : Int)) rfl rfl (by kernel_rfl) (by kernel_rfl) (by kernel_rfl) (fun _ _ _ h => h) (Or.inl ⟨by rfl, fun w' h' => ?_⟩) hS ?_
  · go_simp
  try simp only [Act.put, List.setIfInBounds_toArray, List.set_cons_zero, List.set_cons_succ]
  refine tk 10 113 (.bool true) rfl rfl (by kernel_rfl) (by kernel_rfl) (by kernel_rfl) (fun _ _ _ h => h) (Or.inl ⟨by rfl, fun w' h' => ?_⟩) hS ?_
  · (go_simp; omega)
  try simp only [Act.put, List.setIfInBounds_toArray, List.set_cons_zero, List.set_cons_succ]
  refine tk 11 114 (.bool true) rfl rfl (by kernel_rfl) (by kernel_rfl) (by kernel_rfl) (fun _ _ _ h => h) (Or.inl ⟨by rfl, fun w' h' => ?_⟩) hS ?_
  · go_simp
  try simp only [Act.put, List.setIfInBounds_toArray, List.set_cons_zero, List.set_cons_succ]
  refine tk 12 115 (.slice (some ⟨r1, 0, none⟩) n1 c1) rfl rfl (by kernel_rfl) (by kernel_rfl) (by kernel_rfl) (fun _ _ _ h => h) (Or.inl ⟨by rfl, fun w' h' => ?_⟩) hS ?_
  · go_simp
  try simp only [Act.put, List.setIfInBounds_toArray, List.set_cons_zero, List.set_cons_succ]
  refine tk 13 116 (.int .i64 (i : Int)) rfl rfl (by kernel_rfl) (by kernel_rfl) (by kernel_rfl) (fun _ _ _ h => h) (Or.inl ⟨by rfl, fun w' h' => ?_⟩) hS ?_
  · go_simp
  try simp only [Act.put, List.setIfInBounds_toArray, List.set_cons_zero, List.set_cons_succ]
  refine tk 14 117 (.pointer (some ⟨r1, i * 5, none⟩)) rfl rfl (by kernel_rfl) (by kernel_rfl) (by kernel_rfl) (fun _ _ _ h => h) (Or.inl ⟨by rfl, fun w' h' => ?_⟩) hS ?_
  · go_simp
  try simp only [Act.put, List.setIfInBounds_toArray, List.set_cons_zero, List.set_cons_succ]
  refine tk 15 118 (.pointer (some ⟨r1, i * 5 + 1, none⟩)) rfl rfl (by kernel_rfl) (by kernel_rfl) (by kernel_rfl) (fun _ _ _ h => h) (Or.inl ⟨by rfl, fun w' h' => ?_⟩) hS ?_
  · go_simp
  try simp only [Act.put, List.setIfInBounds_toArray, List.set_cons_zero, List.set_cons_succ]
  refine tk 16 119 (.int .i64 (p.c : Int)) rfl rfl (by kernel_rfl) (by kernel_rfl) (by kernel_rfl) (fun _ _ _ h => h) (Or.inl ⟨by rfl, fun w' h' => ?_⟩) hS ?_
  · have q1 := h'.2.1
    go_simp
  try simp only [Act.put, List.setIfInBounds_toArray, List.set_cons_zero, List.set_cons_succ]
  refine tk 17 120 (.slice (some ⟨r1, 0, none⟩) n1 c1) rfl rfl (by kernel_rfl) (by kernel_rfl) (by kernel_rfl) (fun _ _ _ h => h) (Or.inl ⟨by rfl, fun w' h' => ?_⟩) hS ?_
  · go_simp
  try simp only [Act.put, List.setIfInBounds_toArray, List.set_cons_zero, List.set_cons_succ]
  refine tk 18 121 (.int .i64 (i : Int)) rfl rfl (by kernel_rfl) (by kernel_rfl) (by kernel_rfl) (fun _ _ _ h => h) (Or.inl ⟨by rfl, fun w' h' => ?_⟩) hS ?_
  · go_simp
  try simp only [Act.put, List.setIfInBounds_toArray, List.set_cons_zero, List.set_cons_succ]
  refine tk 19 122 (.int .i64 ((i - 1 : Nat) : Int)) rfl rfl (by kernel_rfl) (by kernel_rfl) (by kernel_rfl) (fun _ _ _ h => h) (Or.inl ⟨by rfl, fun w' h' => ?_⟩) hS ?_
  · go_simp
  try simp only [Act.put, List.setIfInBounds_toArray, List.set_cons_zero, List.set_cons_succ]
  refine tk 20 123 (.pointer (some ⟨r1, (i - 1) * 5, none⟩)) rfl rfl (by kernel_rfl) (by kernel_rfl) (by kernel_rfl) (fun _ _ _ h => h) (Or.inl ⟨by rfl, fun w' h' => ?_⟩) hS ?_
  · go_simp
  try simp only [Act.put, List.setIfInBounds_toArray, List.set_cons_zero, List.set_cons_succ]
  refine tk 21 124 (.pointer (some ⟨r1, (i - 1) * 5 + 1, none⟩)) rfl rfl (by kernel_rfl) (by kernel_rfl) (by kernel_rfl) (fun _ _ _ h => h) (Or.inl ⟨by rfl, fun w' h' => ?_⟩) hS ?_
  · go_simp
  try simp only [Act.put, List.setIfInBounds_toArray, List.set_cons_zero, List.set_cons_succ]
  refine tk 22 125 (.int .i64 (q.c : Int)) rfl rfl (by kernel_rfl) (by kernel_rfl) (by kernel_rfl) (fun _ _ _ h => h) (Or.inl ⟨by rfl, fun w' h' => ?_⟩) hS ?_
  · have q1 := h'.2.2
    go_simp
  try simp only [Act.put, List.setIfInBounds_toArray, List.set_cons_zero, List.set_cons_succ]
  refine tk 23 126 (.bool false) rfl rfl (by kernel_rfl) (by kernel_rfl) (by kernel_rfl) (fun _ _ _ h => h) (Or.inl ⟨by rfl, fun w' h' => ?_⟩) hS ?_
  · go_simp
  try simp only [Act.put, List.setIfInBounds_toArray, List.set_cons_zero, List.set_cons_succ]
  refine tk 24 127 (.bool false) rfl rfl (by kernel_rfl) (by kernel_rfl) (by kernel_rfl) (fun _ _ _ h => h) (Or.inl ⟨by rfl, fun w' h' => ?_⟩) hS ?_
  · go_simp
  try simp only [Act.put, List.setIfInBounds_toArray, List.set_cons_zero, List.set_cons_succ]
  refine tk 25 128 (.bool false) rfl rfl (by kernel_rfl) (by kernel_rfl) (by kernel_rfl) (fun _ _ _ h => h) (Or.inl ⟨by rfl, fun w' h' => ?_⟩) hS ?_
  · go_simp
  refine wpAnyH_done (by kernel_rfl) ?_ _
  go_wp2_with fail
  refine Met.intro (hJ0 _ _ ?_)
  exact ⟨⟨rfl, rfl⟩, rfl, rfl, rfl, rfl, rfl, rfl, rfl, rfl, (Below.refl _ _).drew⟩

set_option maxRecDepth 100000 in
set_option maxHeartbeats 4000000 in
theorem y24 (w wr : World) (gb nn : Nat) (vw : Option Addr) (nw cw : Nat) (vg : Option Addr) (ng cg t : Nat) (sb : Sh) (N : Int) (bw bg : Nat) (yw yg : List Po) (v1 : Option Addr) (n1 c1 : Nat) (y1 : List Po) (B1 : Nat) (HE : Hid (E2 w wr gb sb N bw bg vw nw cw yw vg ng cg yg)) (HO : Hid (Ops wr B1 v1 n1 c1 y1 ∧ bg ≤ B1)) (HAP : Hid (∀ o ∈ yg, ∀ p ∈ y1, ∀ k, blk o.y.a = some k → blk p.y.a ≠ some k)) (hn : ng + n1 ≤ 1000000) (a : Act) (hf : Fr 183 a) (h9 : sl a 9 = .pointer (some ⟨gb, 0, none⟩)) (h12 : sl a 12 = .int .u64 (nn : Int)) (h13 : sl a 13 = .slice vw nw cw) (h14 : sl a 14 = .slice vg ng cg) (h15 : sl a 15 = .int .u64 (t : Int)) (h16 : sl a 16 = .slice v1 n1 c1) :
    Code.wp Try.prog (cAt [1,1,1,1,1,1,1,1,1,0,1,2,2,1,0,2,1,1] KE) (Exit.then (fun a' w' => ∃ v2 n2 c3, Fr 183 a' ∧ sl a' 9 = .pointer (some ⟨gb, 0, none⟩) ∧ sl a' 12 = .int .u64 (nn : Int) ∧ sl a' 13 = .slice vw nw cw ∧ sl a' 14 = .slice v2 n2 c3 ∧ sl a' 15 = .int .u64 (t : Int) ∧ E2 w w' gb sb N bw bg vw nw cw yw v2 n2 c3 (yg ++ y1) ∧ n2 = ng + n1 ∧ ∀ k, blk v2 = some k → blk vg = some k ∨ wr.heap.size ≤ k) Nope) a wr := by
  obtain ⟨f, ha, hs⟩ := frKE hf
  have e9 := (hs 9).trans h9
  have e12 := (hs 12).trans h12
  have e13 := (hs 13).trans h13
  have e14 := (hs 14).trans h14
  have e15 := (hs 15).trans h15
  have e16 := (hs 16).trans h16
  rw [e9, e12, e13, e14, e15, e16] at ha
  clear hs hf e9 h9 e12 h12 e13 h13 e14 h14 e15 h15 e16 h16
  subst ha
  refine piece2 fun J0 K0 hJ0 hK0 => ?_
  conv => arg 2; whnf
  obtain ⟨v2, c3, w2, hrun, hops, hk, hv⟩ := HE.out.got.cat HO.out.1 HO.out.2 HE.out.ord.2.2 HAP.out hn
  have H1 : Hid (E2 w w2 gb sb N bw bg vw nw cw yw v2 (ng + n1) c3 (yg ++ y1) ∧ ng + n1 = ng + n1 ∧ ∀ k, blk v2 = some k → blk vg = some k ∨ wr.heap.size ≤ k) := ⟨HE.out.cat hops hk, rfl, hv⟩
  have HRUN := Lib.hid hrun
  clear hrun hops hk hv
  go_wp2_with (at_builtin; first | (refine Lib.wpList_append_run _ rfl (.tmp 129) (.tmp 130) _ _ rfl _ _ rfl rfl _ _ HRUN.out ?_) | fail)
  refine Met.intro (hJ0 _ _ ?_)
  exact ⟨v2, _, c3, ⟨rfl, rfl⟩, rfl, rfl, rfl, rfl, rfl, H1.out.1, rfl, H1.out.2.2⟩

set_option maxRecDepth 100000 in
set_option maxHeartbeats 4000000 in
theorem y25 (wr : World) (vw : Option Addr) (nw cw : Nat) (vg : Option Addr) (ng cg : Nat) (he : ng = nw) (a : Act) (hf : Fr 183 a) (h13 : sl a 13 = .slice vw nw cw) (h14 : sl a 14 = .slice vg ng cg) :
    Code.wp Try.prog (cAt [1,1,1,1,1,1,1,1,1,1,0,0] KE) (Exit.then (fun a' w' => Fr 183 a' ∧ sl a' 13 = .slice vw nw cw ∧ sl a' 14 = .slice vg ng cg ∧ sl a' 136 = .bool false ∧ wr = w') Nope) a wr := by
  obtain ⟨f, ha, hs⟩ := frKE hf
  have e13 := (hs 13).trans h13
  have e14 := (hs 14).trans h14
  rw [e13, e14] at ha
  clear hs hf e13 h13 e14 h14
  subst ha
  refine piece2 fun J0 K0 hJ0 hK0 => ?_
  conv => arg 2; whnf
  subst he
  go_wp2_with fail
  refine Met.intro (hJ0 _ _ ?_)
  exact ⟨⟨rfl, rfl⟩, rfl, rfl, rfl, rfl⟩

set_option maxRecDepth 100000 in
set_option maxHeartbeats 4000000 in
theorem y27 (wr : World) (vw : Option Addr) (nw cw : Nat) (vg : Option Addr) (ng cg : Nat) (a : Act) (hf : Fr 183 a) (h13 : sl a 13 = .slice vw nw cw) (h14 : sl a 14 = .slice vg ng cg) :
    Code.wp Try.prog (cAt [1,1,1,1,1,1,1,1,1,1,1,0,0] KE) (Exit.then (fun a' w' => Fr 183 a' ∧ sl a' 13 = .slice vw nw cw ∧ sl a' 14 = .slice vg ng cg ∧ sl a' 18 = .int .i64 0 ∧ wr = w') Nope) a wr := by
  obtain ⟨f, ha, hs⟩ := frKE hf
  have e13 := (hs 13).trans h13
  have e14 := (hs 14).trans h14
  rw [e13, e14] at ha
  clear hs hf e13 h13 e14 h14
  subst ha
  refine piece2 fun J0 K0 hJ0 hK0 => ?_
  conv => arg 2; whnf
  go_wp2_with fail
  refine Met.intro (hJ0 _ _ ?_)
  exact ⟨⟨rfl, rfl⟩, rfl, rfl, rfl, rfl⟩

set_option maxRecDepth 100000 in
set_option maxHeartbeats 4000000 in
theorem y28 (wr : World) (vw : Option Addr) (nw cw : Nat) (vg : Option Addr) (ng cg : Nat) (i : Nat) (hi : i < ng) (a : Act) (hf : Fr 183 a) (h13 : sl a 13 = .slice vw nw cw) (h14 : sl a 14 = .slice vg ng cg) (h18 : sl a 18 = .int .i64 (i : Int)) :
    Code.wp Try.prog (cAt [1,1,1,1,1,1,1,1,1,1,1,0,1,2,2,0] KE) (Exit.then (fun a' w' => Fr 183 a' ∧ sl a' 13 = .slice vw nw cw ∧ sl a' 14 = .slice vg ng cg ∧ sl a' 18 = .int .i64 (i : Int) ∧ wr = w') Nope) a wr := by
  obtain ⟨f, ha, hs⟩ := frKE hf
  have e13 := (hs 13).trans h13
  have e14 := (hs 14).trans h14
  have e18 := (hs 18).trans h18
  rw [e13, e14, e18] at ha
  clear hs hf e13 h13 e14 h14 e18 h18
  subst ha
  refine piece2 fun J0 K0 hJ0 hK0 => ?_
  conv => arg 2; whnf
  have hi2 : (i : Int) < (ng : Int) := by omega
  go_wp2_with fail
  refine Met.intro (hJ0 _ _ ?_)
  exact ⟨⟨rfl, rfl⟩, rfl, rfl, rfl, rfl⟩

set_option maxRecDepth 100000 in
set_option maxHeartbeats 4000000 in
theorem y28x (wr : World) (vw : Option Addr) (nw cw : Nat) (vg : Option Addr) (ng cg : Nat) (i : Nat) (hi : ¬ i < ng) (a : Act) (hf : Fr 183 a) (h13 : sl a 13 = .slice vw nw cw) (h14 : sl a 14 = .slice vg ng cg) (h18 : sl a 18 = .int .i64 (i : Int)) :
    Code.wp Try.prog (cAt [1,1,1,1,1,1,1,1,1,1,1,0,1,2,2] KE) (Outs 6 (fun a' w' => Fr 183 a' ∧ wr = w')) a wr := by
  obtain ⟨f, ha, hs⟩ := frKE hf
  have e13 := (hs 13).trans h13
  have e14 := (hs 14).trans h14
  have e18 := (hs 18).trans h18
  rw [e13, e14, e18] at ha
  clear hs hf e13 h13 e14 h14 e18 h18
  subst ha
  conv => arg 2; whnf
  go_wp2_with fail
  exact ⟨rfl, ⟨rfl, rfl⟩, rfl⟩

set_option maxRecDepth 100000 in
set_option maxHeartbeats 4000000 in
theorem y29 (wr : World) (vw : Option Addr) (nw cw : Nat) (vg : Option Addr) (ng cg : Nat) (i : Nat) (hi : i < 1000000) (a : Act) (hf : Fr 183 a) (h13 : sl a 13 = .slice vw nw cw) (h14 : sl a 14 = .slice vg ng cg) (h18 : sl a 18 = .int .i64 (i : Int)) :
    Code.wp Try.prog (cAt [1,1,1,1,1,1,1,1,1,1,1,0,1,2,2,1,1] KE) (Exit.then (fun a' w' => Fr 183 a' ∧ sl a' 13 = .slice vw nw cw ∧ sl a' 14 = .slice vg ng cg ∧ sl a' 18 = .int .i64 ((i : Int) + 1) ∧ wr = w') Nope) a wr := by
  obtain ⟨f, ha, hs⟩ := frKE hf
  have e13 := (hs 13).trans h13
  have e14 := (hs 14).trans h14
  have e18 := (hs 18).trans h18
  rw [e13, e14, e18] at ha
  clear hs hf e13 h13 e14 h14 e18 h18
  subst ha
  refine piece2 fun J0 K0 hJ0 hK0 => ?_
  conv => arg 2; whnf
  have hw : IntKind.i64.wrap ((i : Int) + 1) = (i : Int) + 1 := by rw [IntKind.wrap_i64]; omega
  go_wp2_with fail
  refine Met.intro (hJ0 _ _ ?_)
  exact ⟨⟨rfl, rfl⟩, rfl, rfl, rfl, rfl⟩

set_option maxRecDepth 100000 in
set_option maxHeartbeats 4000000 in
theorem y30 (wr : World) (rw nw cw rg ng cg i : Nat) (p q : Po) (hi : i < ng) (hi3' : i < nw) (HG : Hid (wr.rangeAt rg (i * 5) p.cs ∧ wr.rangeAt rw (i * 5) q.cs)) (HPQ : Hid (p.ot = q.ot)) (HAT : Hid (p.y.at_ wr ∧ q.y.at_ wr)) (a : Act) (hf : Fr 183 a) (h13 : sl a 13 = .slice (some ⟨rw, 0, none⟩) nw cw) (h14 : sl a 14 = .slice (some ⟨rg, 0, none⟩) ng cg) (h18 : sl a 18 = .int .i64 (i : Int)) :
    Code.wp Try.prog (cAt [1,1,1,1,1,1,1,1,1,1,1,0,1,2,2,1,0,2,0] KE) (Exit.then (fun a' w' => Fr 183 a' ∧ sl a' 13 = .slice (some ⟨rw, 0, none⟩) nw cw ∧ sl a' 14 = .slice (some ⟨rg, 0, none⟩) ng cg ∧ sl a' 18 = .int .i64 (i : Int) ∧ sl a' 181 = .bool false ∧ Below wr.heap.size wr w') Nope) a wr := by
  obtain ⟨f, ha, hs⟩ := frKE hf
  have e13 := (hs 13).trans h13
  have e14 := (hs 14).trans h14
  have e18 := (hs 18).trans h18
  rw [e13, e14, e18] at ha
  clear hs hf e13 h13 e14 h14 e18 h18
  subst ha
  refine piece2 fun J0 K0 hJ0 hK0 => ?_
  conv => arg 2; whnf
  obtain ⟨pt, pc, ⟨no, sz, xa, xn, xc, xd⟩⟩ := p
  obtain ⟨qt, qc, ⟨no2, sz2, xa2, xn2, xc2, xd2⟩⟩ := q
  have hpq := HPQ.out
  simp only [Po.ot, Pi.it, Ot.mk.injEq, It.mk.injEq] at hpq
  obtain ⟨rfl, rfl, rfl, rfl, rfl⟩ := hpq
  have hi2 : (i : Int) < (ng : Int) := by omega
  have hi3 : (i : Int) < (nw : Int) := by omega
  have hi0 : (0 : Int) ≤ (i : Int) := by omega
  obtain ⟨TT, hT⟩ : ∃ z, str xd = z := ⟨_, rfl⟩
  have HT := Lib.hid hT
  have hbd : Below wr.heap.size wr wr.drew := (Below.refl _ _).drew
  have HA : Hid (Pi.at_ ⟨no, sz, xa, xn, xc, xd⟩ wr.drew ∧ Pi.at_ ⟨no, sz, xa2, xn2, xc2, xd⟩ wr.drew ∧ Below wr.heap.size wr wr.drew) := ⟨HAT.out.1.below hbd, HAT.out.2.below hbd, hbd⟩
  have HS : Hid (World.rangeAt wr.drew rg (i * 5) (Po.cs ⟨pt, pc, ⟨no, sz, xa, xn, xc, xd⟩⟩) ∧ World.rangeAt wr.drew rw (i * 5) (Po.cs ⟨pt, pc, ⟨no, sz, xa2, xn2, xc2, xd⟩⟩)) := ⟨range_kept hbd HG.out.1, range_kept hbd HG.out.2⟩
  clear hbd hT
  go_wp2_with fail
  refine wp_region_held_drew (S := fun w' => World.rangeAt w' rg (i * 5) (Po.cs ⟨pt, pc, ⟨no, sz, xa, xn, xc, xd⟩⟩) ∧ World.rangeAt w' rw (i * 5) (Po.cs ⟨pt, pc, ⟨no, sz, xa2, xn2, xc2, xd⟩⟩)) (by kernel_rfl) HS.out (fun hS => ?_)
  refine tk 0 143 (.slice (some ⟨rg, 0, none⟩) ng cg) rfl rfl (by kernel_rfl) (by kernel_rfl) (by kernel_rfl) (fun _ _ _ h => h) (Or.inl ⟨by rfl, fun w' h' => ?_⟩) hS ?_
  · go_simp
  try simp only [Act.put, List.setIfInBounds_toArray, List.set_cons_zero, List.set_cons_succ]
  refine tk 1 144 (.int .i64 (i : Int)) rfl rfl (by kernel_rfl) (by kernel_rfl) (by kernel_rfl) (fun _ _ _ h => h) (Or.inl ⟨by rfl, fun w' h' => ?_⟩) hS ?_
  · go_simp
  try simp only [Act.put, List.setIfInBounds_toArray, List.set_cons_zero, List.set_cons_succ]
  refine tk 2 145 (.pointer (some ⟨rg, i * 5, none⟩)) rfl rfl (by kernel_rfl) (by kernel_rfl) (by kernel_rfl) (fun _ _ _ h => h) (Or.inl ⟨by rfl, fun w' h' => ?_⟩) hS ?_
  · go_simp
  try simp only [Act.put, List.setIfInBounds_toArray, List.set_cons_zero, List.set_cons_succ]
  refine tk 3 146 (.pointer (some ⟨rg, i * 5, none⟩)) rfl rfl (by kernel_rfl) (by kernel_rfl) (by kernel_rfl) (fun _ _ _ h => h) (Or.inl ⟨by rfl, fun w' h' => ?_⟩) hS ?_
  · go_simp
  try simp only [Act.put, List.setIfInBounds_toArray, List.set_cons_zero, List.set_cons_succ]
  refine tk 4 147 (.int .u64 pt) rfl rfl (by kernel_rfl) (by kernel_rfl) (by kernel_rfl) (fun _ _ _ h => h) (Or.inl ⟨by rfl, fun w' h' => ?_⟩) hS ?_
  · have q1 : w'.cell? ⟨rg, i * 5, none⟩ = some (.int .u64 pt) := h'.1 0 _ rfl
    go_simp
  try simp only [Act.put, List.setIfInBounds_toArray, List.set_cons_zero, List.set_cons_succ]
  refine tk 5 148 (.slice (some ⟨rw, 0, none⟩) nw cw) rfl rfl (by kernel_rfl) (by kernel_rfl) (by kernel_rfl) (fun _ _ _ h => h) (Or.inl ⟨by rfl, fun w' h' => ?_⟩) hS ?_
  · go_simp
  try simp only [Act.put, List.setIfInBounds_toArray, List.set_cons_zero, List.set_cons_succ]
  refine tk 6 149 (.int .i64 (i : Int)) rfl rfl (by kernel_rfl) (by kernel_rfl) (by kernel_rfl) (fun _ _ _ h => h) (Or.inl ⟨by rfl, fun w' h' => ?_⟩) hS ?_
  · go_simp
  try simp only [Act.put, List.setIfInBounds_toArray, List.set_cons_zero, List.set_cons_succ]
  refine tk 7 150 (.pointer (some ⟨rw, i * 5, none⟩)) rfl rfl (by kernel_rfl) (by kernel_rfl) (by kernel_rfl) (fun _ _ _ h => h) (Or.inl ⟨by rfl, fun w' h' => ?_⟩) hS ?_
  · go_simp
  try simp only [Act.put, List.setIfInBounds_toArray, List.set_cons_zero, List.set_cons_succ]
  refine tk 8 151 (.pointer (some ⟨rw, i * 5, none⟩)) rfl rfl (by kernel_rfl) (by kernel_rfl) (by kernel_rfl) (fun _ _ _ h => h) (Or.inl ⟨by rfl, fun w' h' => ?_⟩) hS ?_
  · go_simp
  try simp only [Act.put, List.setIfInBounds_toArray, List.set_cons_zero, List.set_cons_succ]
  refine tk 9 152 (.int .u64 pt) rfl rfl (by kernel_rfl) (by kernel_rfl) (by kernel_rfl) (fun _ _ _ h => h) (Or.inl ⟨by rfl, fun w' h' => ?_⟩) hS ?_
  · have q1 : w'.cell? ⟨rw, i * 5, none⟩ = some (.int .u64 pt) := h'.2 0 _ rfl
    go_simp
  try simp only [Act.put, List.setIfInBounds_toArray, List.set_cons_zero, List.set_cons_succ]
  refine tk 10 153 (.bool false) rfl rfl (by kernel_rfl) (by kernel_rfl) (by kernel_rfl) (fun _ _ _ h => h) (Or.inl ⟨by rfl, fun w' h' => ?_⟩) hS ?_
  · go_simp
  try simp only [Act.put, List.setIfInBounds_toArray, List.set_cons_zero, List.set_cons_succ]
  refine tk 11 154 (.bool false) rfl rfl (by kernel_rfl) (by kernel_rfl) (by kernel_rfl) (fun _ _ _ h => h) (Or.inl ⟨by rfl, fun w' h' => ?_⟩) hS ?_
  · go_simp
  try simp only [Act.put, List.setIfInBounds_toArray, List.set_cons_zero, List.set_cons_succ]
  refine tk 12 155 (.slice (some ⟨rg, 0, none⟩) ng cg) rfl rfl (by kernel_rfl) (by kernel_rfl) (by kernel_rfl) (fun _ _ _ h => h) (Or.inl ⟨by rfl, fun w' h' => ?_⟩) hS ?_
  · go_simp
  try simp only [Act.put, List.setIfInBounds_toArray, List.set_cons_zero, List.set_cons_succ]
  refine tk 13 156 (.int .i64 (i : Int)) rfl rfl (by kernel_rfl) (by kernel_rfl) (by kernel_rfl) (fun _ _ _ h => h) (Or.inl ⟨by rfl, fun w' h' => ?_⟩) hS ?_
  · go_simp
  try simp only [Act.put, List.setIfInBounds_toArray, List.set_cons_zero, List.set_cons_succ]
  refine tk 14 157 (.pointer (some ⟨rg, i * 5, none⟩)) rfl rfl (by kernel_rfl) (by kernel_rfl) (by kernel_rfl) (fun _ _ _ h => h) (Or.inl ⟨by rfl, fun w' h' => ?_⟩) hS ?_
  · go_simp
  try simp only [Act.put, List.setIfInBounds_toArray, List.set_cons_zero, List.set_cons_succ]
  refine tk 15 158 (.pointer (some ⟨rg, i * 5 + 1, none⟩)) rfl rfl (by kernel_rfl) (by kernel_rfl) (by kernel_rfl) (fun _ _ _ h => h) (Or.inl ⟨by rfl, fun w' h' => ?_⟩) hS ?_
  · go_simp
  try simp only [Act.put, List.setIfInBounds_toArray, List.set_cons_zero, List.set_cons_succ]
  refine tk 16 159 (.int .i64 (pc : Int)) rfl rfl (by kernel_rfl) (by kernel_rfl) (by kernel_rfl) (fun _ _ _ h => h) (Or.inl ⟨by rfl, fun w' h' => ?_⟩) hS ?_
  · have q1 : w'.cell? ⟨rg, i * 5 + 1, none⟩ = some (.int .i64 (pc : Int)) := h'.1 1 _ rfl
    go_simp
  try simp only [Act.put, List.setIfInBounds_toArray, List.set_cons_zero, List.set_cons_succ]
  refine tk 17 160 (.slice (some ⟨rw, 0, none⟩) nw cw) rfl rfl (by kernel_rfl) (by kernel_rfl) (by kernel_rfl) (fun _ _ _ h => h) (Or.inl ⟨by rfl, fun w' h' => ?_⟩) hS ?_
  · go_simp
  try simp only [Act.put, List.setIfInBounds_toArray, List.set_cons_zero, List.set_cons_succ]
  refine tk 18 161 (.int .i64 (i : Int)) rfl rfl (by kernel_rfl) (by kernel_rfl) (by kernel_rfl) (fun _ _ _ h => h) (Or.inl ⟨by rfl, fun w' h' => ?_⟩) hS ?_
  · go_simp
  try simp only [Act.put, List.setIfInBounds_toArray, List.set_cons_zero, List.set_cons_succ]
  refine tk 19 162 (.pointer (some ⟨rw, i * 5, none⟩)) rfl rfl (by kernel_rfl) (by kernel_rfl) (by kernel_rfl) (fun _ _ _ h => h) (Or.inl ⟨by rfl, fun w' h' => ?_⟩) hS ?_
  · go_simp
  try simp only [Act.put, List.setIfInBounds_toArray, List.set_cons_zero, List.set_cons_succ]
  refine tk 20 163 (.pointer (some ⟨rw, i * 5 + 1, none⟩)) rfl rfl (by kernel_rfl) (by kernel_rfl) (by kernel_rfl) (fun _ _ _ h => h) (Or.inl ⟨by rfl, fun w' h' => ?_⟩) hS ?_
  · go_simp
  try simp only [Act.put, List.setIfInBounds_toArray, List.set_cons_zero, List.set_cons_succ]
  refine tk 21 164 (.int .i64 (pc : Int)) rfl rfl (by kernel_rfl) (by kernel_rfl) (by kernel_rfl) (fun _ _ _ h => h) (Or.inl ⟨by rfl, fun w' h' => ?_⟩) hS ?_
  · have q1 : w'.cell? ⟨rw, i * 5 + 1, none⟩ = some (.int .i64 (pc : Int)) := h'.2 1 _ rfl
    go_simp
  try simp only [Act.put, List.setIfInBounds_toArray, List.set_cons_zero, List.set_cons_succ]
  refine tk 22 165 (.bool false) rfl rfl (by kernel_rfl) (by kernel_rfl) (by kernel_rfl) (fun _ _ _ h => h) (Or.inl ⟨by rfl, fun w' h' => ?_⟩) hS ?_
  · go_simp
  try simp only [Act.put, List.setIfInBounds_toArray, List.set_cons_zero, List.set_cons_succ]
  refine tk 23 166 (.bool false) rfl rfl (by kernel_rfl) (by kernel_rfl) (by kernel_rfl) (fun _ _ _ h => h) (Or.inl ⟨by rfl, fun w' h' => ?_⟩) hS ?_
  · go_simp
  try simp only [Act.put, List.setIfInBounds_toArray, List.set_cons_zero, List.set_cons_succ]
  refine tk 24 167 (.bool false) rfl rfl (by kernel_rfl) (by kernel_rfl) (by kernel_rfl) (fun _ _ _ h => h) (Or.inl ⟨by rfl, fun w' h' => ?_⟩) hS ?_
  · go_simp
  try simp only [Act.put, List.setIfInBounds_toArray, List.set_cons_zero, List.set_cons_succ]
  refine tk 25 168 (.slice (some ⟨rg, 0, none⟩) ng cg) rfl rfl (by kernel_rfl) (by kernel_rfl) (by kernel_rfl) (fun _ _ _ h => h) (Or.inl ⟨by rfl, fun w' h' => ?_⟩) hS ?_
  · go_simp
  try simp only [Act.put, List.setIfInBounds_toArray, List.set_cons_zero, List.set_cons_succ]
  refine tk 26 169 (.int .i64 (i : Int)) rfl rfl (by kernel_rfl) (by kernel_rfl) (by kernel_rfl) (fun _ _ _ h => h) (Or.inl ⟨by rfl, fun w' h' => ?_⟩) hS ?_
  · go_simp
  try simp only [Act.put, List.setIfInBounds_toArray, List.set_cons_zero, List.set_cons_succ]
  refine tk 27 170 (.pointer (some ⟨rg, i * 5, none⟩)) rfl rfl (by kernel_rfl) (by kernel_rfl) (by kernel_rfl) (fun _ _ _ h => h) (Or.inl ⟨by rfl, fun w' h' => ?_⟩) hS ?_
  · go_simp
  try simp only [Act.put, List.setIfInBounds_toArray, List.set_cons_zero, List.set_cons_succ]
  refine tk 28 171 (.pointer (some ⟨rg, i * 5 + 2, none⟩)) rfl rfl (by kernel_rfl) (by kernel_rfl) (by kernel_rfl) (fun _ _ _ h => h) (Or.inl ⟨by rfl, fun w' h' => ?_⟩) hS ?_
  · go_simp
  try simp only [Act.put, List.setIfInBounds_toArray, List.set_cons_zero, List.set_cons_succ]
  refine tk 29 172 (.agg #[.int .u64 no, .int .i64 sz, .slice xa xn xc]) rfl rfl (by kernel_rfl) (by kernel_rfl) (by kernel_rfl) (fun _ _ _ h => h) (Or.inl ⟨by rfl, fun w' h' => ?_⟩) hS ?_
  · have q2 : w'.cell? ⟨rg, i * 5 + 2, none⟩ = some (.int .u64 no) := h'.1 2 _ rfl
    have q3 : w'.cell? ⟨rg, i * 5 + 2 + 1, none⟩ = some (.int .i64 sz) := h'.1 3 _ rfl
    have q4 : w'.cell? ⟨rg, i * 5 + 2 + 2, none⟩ = some (.slice xa xn xc) := h'.1 4 _ rfl
    go_simp
  try simp only [Act.put, List.setIfInBounds_toArray, List.set_cons_zero, List.set_cons_succ]
  refine tk 31 174 (.slice (some ⟨rw, 0, none⟩) nw cw) rfl rfl (by kernel_rfl) (by kernel_rfl) (by kernel_rfl) (fun _ _ _ h => h) (Or.inl ⟨by rfl, fun w' h' => ?_⟩) hS ?_
  · go_simp
  try simp only [Act.put, List.setIfInBounds_toArray, List.set_cons_zero, List.set_cons_succ]
  refine tk 32 175 (.int .i64 (i : Int)) rfl rfl (by kernel_rfl) (by kernel_rfl) (by kernel_rfl) (fun _ _ _ h => h) (Or.inl ⟨by rfl, fun w' h' => ?_⟩) hS ?_
  · go_simp
  try simp only [Act.put, List.setIfInBounds_toArray, List.set_cons_zero, List.set_cons_succ]
  refine tk 33 176 (.pointer (some ⟨rw, i * 5, none⟩)) rfl rfl (by kernel_rfl) (by kernel_rfl) (by kernel_rfl) (fun _ _ _ h => h) (Or.inl ⟨by rfl, fun w' h' => ?_⟩) hS ?_
  · go_simp
  try simp only [Act.put, List.setIfInBounds_toArray, List.set_cons_zero, List.set_cons_succ]
  refine tk 34 177 (.pointer (some ⟨rw, i * 5 + 2, none⟩)) rfl rfl (by kernel_rfl) (by kernel_rfl) (by kernel_rfl) (fun _ _ _ h => h) (Or.inl ⟨by rfl, fun w' h' => ?_⟩) hS ?_
  · go_simp
  try simp only [Act.put, List.setIfInBounds_toArray, List.set_cons_zero, List.set_cons_succ]
  refine tk 35 178 (.agg #[.int .u64 no, .int .i64 sz, .slice xa2 xn2 xc2]) rfl rfl (by kernel_rfl) (by kernel_rfl) (by kernel_rfl) (fun _ _ _ h => h) (Or.inl ⟨by rfl, fun w' h' => ?_⟩) hS ?_
  · have q2 : w'.cell? ⟨rw, i * 5 + 2, none⟩ = some (.int .u64 no) := h'.2 2 _ rfl
    have q3 : w'.cell? ⟨rw, i * 5 + 2 + 1, none⟩ = some (.int .i64 sz) := h'.2 3 _ rfl
    have q4 : w'.cell? ⟨rw, i * 5 + 2 + 2, none⟩ = some (.slice xa2 xn2 xc2) := h'.2 4 _ rfl
    go_simp
  try simp only [Act.put, List.setIfInBounds_toArray, List.set_cons_zero, List.set_cons_succ]
  refine wpAnyH_ready (rs := [30]) (by kernel_rfl) (by simp) (AllReadyH.cons rfl (fun K hK => ?_) AllReadyH.nil)
  rw [if_pos (by rfl)]
  go_wp2_with fail
  refine (item_any _ _ HA.out.1).mono ?_
  rintro e w30 ⟨rfl, hb1⟩
  rw [show It.v (Pi.it ⟨no, sz, _, _, _, xd⟩) = .agg #[.int .u64 no, .int .i64 sz, .string (str xd)] from rfl, HT.out]
  have HA1 : Hid (Pi.at_ ⟨no, sz, xa2, xn2, xc2, xd⟩ w30 ∧ Below wr.heap.size wr w30) := ⟨HA.out.2.1.below hb1, HA.out.2.2.trans hb1⟩
  have HS1 : Hid (World.rangeAt w30 rg (i * 5) (Po.cs ⟨pt, pc, ⟨no, sz, xa, xn, xc, xd⟩⟩) ∧ World.rangeAt w30 rw (i * 5) (Po.cs ⟨pt, pc, ⟨no, sz, xa2, xn2, xc2, xd⟩⟩)) := ⟨range_kept hb1 HS.out.1, range_kept hb1 HS.out.2⟩
  clear hb1 HS
  clear hS
  refine hK.out _ _ (HS1.out) (fun hS => ?_)
  clear hK K
  try simp only [Act.put, List.setIfInBounds_toArray, List.set_cons_zero, List.set_cons_succ]
  refine wpAnyH_ready (rs := [36]) (by kernel_rfl) (by simp) (AllReadyH.cons rfl (fun K hK => ?_) AllReadyH.nil)
  rw [if_pos (by rfl)]
  go_wp2_with fail
  refine (item_any _ _ HA1.out.1).mono ?_
  rintro e w36 ⟨rfl, hb1⟩
  rw [show It.v (Pi.it ⟨no, sz, _, _, _, xd⟩) = .agg #[.int .u64 no, .int .i64 sz, .string (str xd)] from rfl, HT.out]
  have HA2 : Hid (Below wr.heap.size wr w36) := HA1.out.2.trans (hb1.mono HA1.out.2.size)
  have HS2 : Hid (World.rangeAt w36 rg (i * 5) (Po.cs ⟨pt, pc, ⟨no, sz, xa, xn, xc, xd⟩⟩) ∧ World.rangeAt w36 rw (i * 5) (Po.cs ⟨pt, pc, ⟨no, sz, xa2, xn2, xc2, xd⟩⟩)) := ⟨range_kept hb1 HS1.out.1, range_kept hb1 HS1.out.2⟩
  clear hb1 HS1
  clear hS
  refine hK.out _ _ (HS2.out) (fun hS => ?_)
  clear hK K
  try simp only [Act.put, List.setIfInBounds_toArray, List.set_cons_zero, List.set_cons_succ]
  refine tk 37 180 (.bool false) rfl rfl (by kernel_rfl) (by kernel_rfl) (by kernel_rfl) (fun _ _ _ h => h) (Or.inl ⟨by rfl, fun w' h' => ?_⟩) hS ?_
  · go_simp
  try simp only [Act.put, List.setIfInBounds_toArray, List.set_cons_zero, List.set_cons_succ]
  refine tk 38 181 (.bool false) rfl rfl (by kernel_rfl) (by kernel_rfl) (by kernel_rfl) (fun _ _ _ h => h) (Or.inl ⟨by rfl, fun w' h' => ?_⟩) hS ?_
  · go_simp
  refine wpAnyH_done (by kernel_rfl) ?_ _
  go_wp2_with fail
  refine Met.intro (hJ0 _ _ ?_)
  exact ⟨⟨rfl, rfl⟩, rfl, rfl, rfl, rfl, HA2.out⟩

set_option maxRecDepth 100000 in
set_option maxHeartbeats 4000000 in
theorem y32 (w wr : World) (hb : Below w.heap.size w wr) (a : Act) (hf : Fr 183 a)  :
    Code.wp Try.prog (cAt [1,1,1,1,1,1,1,1,1,1,1,1] KE) (bodyPost Try.prog Try.f5 (Yes w)) a wr := by
  have HB := Lib.hid hb
  clear hb
  obtain ⟨f, ha, hs⟩ := frKE hf
  clear hs hf 
  subst ha
  conv => arg 2; whnf
  go_wp2_with fail
  refine (works12_any wr).mono ?_
  rintro e w1 ⟨rfl, hb1⟩
  have HF : Hid (Below w.heap.size w w1) := HB.out.trans (hb1.mono HB.out.size)
  clear hb1
  go_wp2_with fail
  first | exact ⟨rfl, HF.out⟩ | (go_ret; exact ⟨rfl, HF.out⟩)

end Go.Proofs.Yticjfhmkpciihaa

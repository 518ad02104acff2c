/-
  ShaperEarly in pieces. Conditions: those that the theorems name. (Made by gen_spearly.py.)
-/
import Derived.Test.YtpigpeehhadkjaaSpEaM
import Derived.Deep.RegionWith
namespace Go.Proofs.Ytpigpeehhadkjaa
open Go.RowKit Bkt
set_option maxRecDepth 100000
set_option maxHeartbeats 4000000
theorem tkE {P : Program} {md : Region.Mode} {ops : Array Oper} {Q : Exit → Act → World → Prop} {S : World → Prop} (i d : Nat) (v : Value) {oi : Oper} {fuel : Nat} {listed : Array Bool} {a : Act} {w : World}
    (hy : ∀ w', S w' → (execOp a.eval oi).run P w' = .ok (.value v) w') (hS : S w) (h : wpAnyH P md ops Q S fuel (listed.setIfInBounds i true) (a.put (some d) v) w)
    (hi : ops[i]? = some oi := by rfl) (hd : oi.dst = some d := by rfl) (hs : Region.noSelect ops = true := by kernel_rfl) (hf : Region.free md ops listed i = true := by kernel_rfl) (hr : (Region.ready md ops listed).contains i = true := by kernel_rfl)
    (hQ : ∀ c a w, Q (.panic c) (a.put (some d) v) w → Q (.panic c) a w := by exact fun _ _ _ h => h) (hw : Region.wanted oi (yielded ops a.tmps) = true := by rfl) : wpAnyH P md ops Q S (fuel + 1) listed a w :=
  tk i d v hi hd hs hf hr hQ (Or.inl ⟨hw, hy⟩) hS h
theorem tkEq {P : Program} {p : List Nat} {c : Code} {a : Act} {w : World} {R : Act → World → Prop} {Q : Exit → Act → World → Prop} (h1 : (cAt (p ++ [0]) c).wp P (Exit.then R Nope) a w) (h2 : ∀ a' w', R a' w' → (cAt (p ++ [1]) c).wp P Q a' w') (hc : cAt p c = .seq (cAt (p ++ [0]) c) (cAt (p ++ [1]) c) := by kernel_rfl) : (cAt p c).wp P Q a w :=
  wp_sqR hc h1 h2

theorem relF_len (tick : Int) : ∀ (n : Nat) (T : Int) (ls : List Ab), (relF tick n T ls).2.length ≤ n
  | 0, _, _ => Nat.le_refl _
  | n + 1, T, ls => by
    rw [relF]
    split
    · have := relF_len tick n (nx T ls).t (ls.set (nx T ls).c ((ls.getD (nx T ls).c az).send (nx T ls).t))
      simp only [List.length_cons]
      omega
    · simp
theorem rel_len (tick T : Int) (ls : List Ab) : (rel tick T ls).2.length ≤ tot ls := relF_len tick _ T ls
theorem arg_blk {w : World} {y : Pi} (h : y.ar w) (hne : y.d ≠ []) : ∀ b, blk y.a = some b → b < w.heap.size := fun b hb => by
  obtain ⟨b', o, e, hc⟩ := h.rd hne
  rw [e] at hb
  simp [blk] at hb
  subst hb
  exact World.block_lt_of_cell? w _ (hc 0 (List.length_pos_iff.2 hne))
/-- Two shapers that are the same, offered to alike. -/
structure E1 (w W : World) (ga gb : Nat) (sa sb : Sh) (N : Int) : Prop where
  l2 : L2 w W ga gb sa sb N
  ta : sa.T = 7
  tb : sb.T = 7
  ab : sa.abs = sb.abs
/-- What one gave at once, and the other's so far. -/
structure E2 (w W : World) (gb : Nat) (sb : Sh) (N : Int) (bw bg : Nat) (vw : Option Addr) (nw cw : Nat) (yw : List Po) (vg : Option Addr) (ng cg : Nat) (yg : List Po) : Prop where
  lb : Lv w W gb sb N
  want : Ops W bw vw nw cw yw
  got : Ops W bg vg ng cg yg
  top : ∀ k, sb.foot gb k → k < bw
  wtop : (∀ k, blk vw = some k → k < bg) ∧ ∀ y ∈ yw, ∀ k, blk y.y.a = some k → k < bg
  ord : w.heap.size ≤ bw ∧ bw ≤ bg ∧ bg ≤ W.heap.size
section
variable {w W W' : World} {gb : Nat} {sb sb' : Sh} {N : Int} {bw bg : Nat} {vw : Option Addr} {nw cw : Nat} {yw : List Po} {vg : Option Addr} {ng cg : Nat} {yg : List Po}
theorem E2.past (h : E2 w W gb sb N bw bg vw nw cw yw vg ng cg yg) (k : Below W.heap.size W W') : E2 w W' gb sb N bw bg vw nw cw yw vg ng cg yg :=
  ⟨h.lb.past k, h.want.below k, h.got.below k, h.top, h.wtop, h.ord.1, h.ord.2.1, Nat.le_trans h.ord.2.2 k.size⟩
theorem E2.rel (h : E2 w W gb sb N bw bg vw nw cw yw vg ng cg yg) (hb : Lv w W' gb sb' N) (k : Kept (sb.foot gb) W W') (hf : ∀ k, sb'.foot gb k → sb.foot gb k) : E2 w W' gb sb' N bw bg vw nw cw yw vg ng cg yg :=
  ⟨hb, h.want.keep k (fun i hi hj => by have := h.top i hi; omega), h.got.keep k (fun i hi hj => by have := h.top i hi; have := h.ord; omega), fun j hj => h.top j (hf j hj), h.wtop, h.ord.1, h.ord.2.1, Nat.le_trans h.ord.2.2 k.size⟩
theorem E2.cat (h : E2 w W gb sb N bw bg vw nw cw yw vg ng cg yg) {v' : Option Addr} {n' c' : Nat} {y' : List Po} (ho : Ops W' bg v' n' c' y') (k : Kept (fun i => blk vg = some i) W W') : E2 w W' gb sb N bw bg vw nw cw yw v' n' c' y' := by
  have hg : ∀ i, blk vg = some i → bg ≤ i ∧ ∃ cur, W.heap[i]? = some (.cells cur 61 (0, 0)) := fun i hi => by
    refine ⟨(h.got.row.blk_ge i hi).1, ?_⟩
    rcases h.got.row.cases with ⟨e, _⟩ | ⟨r, cur, e, _, hr, _⟩
    · rw [e] at hi; cases hi
    · rw [e] at hi
      simp [blk] at hi
      subst hi
      exact ⟨cur, hr⟩
  have hord := h.ord
  refine ⟨⟨h.lb.sw.keep k (fun i hi e => ?_) (fun b hb e => ?_), h.lb.n1, h.lb.below.trans (k.below h.lb.below.size (fun i hi => by have := (hg i hi).1; omega)), h.lb.db, h.lb.bT, h.lb.T0, h.lb.T1, h.lb.N0⟩, ⟨h.want.row.keep k (fun b hb e => ?_), fun y hy => ⟨(h.want.data y hy).1.keep k (fun b hb e => ?_), (h.want.data y hy).2⟩, h.want.apart⟩, ho, h.top, h.wtop, hord.1, hord.2.1, Nat.le_trans hord.2.2 k.size⟩
  · have := h.top i hi; have := (hg i e).1; omega
  · obtain ⟨cur, hr⟩ := (hg b e).2
    rcases h.lb.sw.ptrs.cases with ⟨e2, _⟩ | ⟨r2, cur2, e2, _, hr2, _⟩
    · rw [e2] at hb; cases hb
    · rw [e2] at hb
      simp [blk] at hb
      subst hb
      rw [hr] at hr2
      simp at hr2
  · have := h.wtop.1 b hb; have := (hg b e).1; omega
  · have := h.wtop.2 y hy b hb; have := (hg b e).1; omega
end

noncomputable def KE : Code := Try.f5.body.getD .skip
theorem frKE {a : Act} (h : Fr 183 a) : ∃ f : Nat → Value, a = ⟨#[f 0, f 1, f 2, f 3, f 4, f 5, f 6, f 7, f 8, f 9, f 10, f 11, f 12, f 13, f 14, f 15, f 16, f 17, f 18, f 19, f 20, f 21, f 22, f 23, f 24, f 25, f 26, f 27, f 28, f 29, f 30, f 31, f 32, f 33, f 34, f 35, f 36, f 37, f 38, f 39, f 40, f 41, f 42, f 43, f 44, f 45, f 46, f 47, f 48, f 49, f 50, f 51, f 52, f 53, f 54, f 55, f 56, f 57, f 58, f 59, f 60, f 61, f 62, f 63, f 64, f 65, f 66, f 67, f 68, f 69, f 70, f 71, f 72, f 73, f 74, f 75, f 76, f 77, f 78, f 79, f 80, f 81, f 82, f 83, f 84, f 85, f 86, f 87, f 88, f 89, f 90, f 91, f 92, f 93, f 94, f 95, f 96, f 97, f 98, f 99, f 100, f 101, f 102, f 103, f 104, f 105, f 106, f 107, f 108, f 109, f 110, f 111, f 112, f 113, f 114, f 115, f 116, f 117, f 118, f 119, f 120, f 121, f 122, f 123, f 124, f 125, f 126, f 127, f 128, f 129, f 130, f 131, f 132, f 133, f 134, f 135, f 136, f 137, f 138, f 139, f 140, f 141, f 142, f 143, f 144, f 145, f 146, f 147, f 148, f 149, f 150, f 151, f 152, f 153, f 154, f 155, f 156, f 157, f 158, f 159, f 160, f 161, f 162, f 163, f 164, f 165, f 166, f 167, f 168, f 169, f 170, f 171, f 172, f 173, f 174, f 175, f 176, f 177, f 178, f 179, f 180, f 181, f 182], []⟩ ∧ ∀ i, f i = sl a i := fr_any h

theorem y0 (w : World) (xa : Option Addr) (n c : Nat) (ya : Option Addr) (m c2 : Nat) (tv : Int) (a : Act) (hf : Fr 183 a) (h0 : sl a 0 = .slice xa n c) (h1 : sl a 1 = .slice ya m c2) (h2 : sl a 2 = .int .u8 tv) :
    Code.wp Try.prog (cAt [0] KE) (Exit.then (fun a' w' => Fr 183 a' ∧ sl a' 0 = .slice xa n c ∧ sl a' 1 = .slice ya m c2 ∧ sl a' 2 = .int .u8 tv ∧ w = w') Nope) a w := by
  obtain ⟨f, ha, hs⟩ := frKE hf
  rw [(hs 0).trans h0, (hs 1).trans h1, (hs 2).trans h2] at ha
  clear hs hf h0 h1 h2
  subst ha
  refine piece2 fun J0 K0 hJ0 hK0 => ?_
  conv => arg 2; whnf
  go_wp2_with fail
  refine Met.intro (hJ0 _ _ ?_)
  exact ⟨⟨rfl, rfl⟩, rfl, rfl, rfl, rfl⟩

theorem y1 (w : World) (xa : Option Addr) (n c : Nat) (ya : Option Addr) (m c2 : Nat) (tv : Int) (l : List Ac) (hl : Acr w ya m l) (hm : m ≤ maxLen) (a : Act) (hf : Fr 183 a) (h0 : sl a 0 = .slice xa n c) (h1 : sl a 1 = .slice ya m c2) (h2 : sl a 2 = .int .u8 tv) :
    Code.wp Try.prog (cAt [1,0,0] KE) (Exit.then (fun a' w' => ∃ bb, Fr 183 a' ∧ sl a' 0 = .slice xa n c ∧ sl a' 1 = .slice ya m c2 ∧ sl a' 2 = .int .u8 tv ∧ sl a' 26 = .bool bb ∧ (bb = false ↔ n ≤ 6 ∧ Few 12 l) ∧ w = w') Nope) a w := by
  obtain ⟨f, ha, hs⟩ := frKE hf
  rw [(hs 0).trans h0, (hs 1).trans h1, (hs 2).trans h2] at ha
  clear hs hf h0 h1 h2
  subst ha
  refine piece2 fun J0 K0 hJ0 hK0 => ?_
  conv => arg 2; whnf
  have HL := Lib.hid hl
  clear hl
  by_cases h6 : 6 < n
  · have h62 : (6 : Int) < (n : Int) := by omega
    go_wp2_with fail
    refine Met.intro (hJ0 _ _ ?_)
    exact ⟨true, ⟨rfl, rfl⟩, rfl, rfl, rfl, rfl, ⟨fun h => (by cases h), fun h => (by omega)⟩, rfl⟩
  · have h62 : ¬ (6 : Int) < (n : Int) := by omega
    go_wp2_with fail
    refine (few_any ya m c2 l w 12 (by decide) HL.out hm).mono ?_
    rintro e w1 ⟨b, rfl, hb, hw⟩
    subst hw
    have HB := Lib.hid hb
    clear hb
    go_wp2_with fail
    refine Met.intro (hJ0 _ _ ?_)
    refine ⟨!b, ⟨rfl, rfl⟩, rfl, rfl, rfl, rfl, ?_, rfl⟩
    cases b
    · exact ⟨fun h => (by cases h), fun h => (by have := HB.out.2 h.2; cases this)⟩
    · exact ⟨fun _ => ⟨by omega, HB.out.1 rfl⟩, fun _ => rfl⟩

theorem y2 (w wr : World) (hb : Below w.heap.size w wr) (a : Act) (hf : Fr 183 a)  :
    Code.wp Try.prog (cAt [1,0,1,3] KE) (RetsV Try.f5 (Yes w)) a wr := by
  have HB := Lib.hid hb
  clear hb
  obtain ⟨f, ha, hs⟩ := frKE hf
  clear hs hf 
  subst ha
  conv => arg 2; whnf
  go_wp2_with fail
  refine (works12_any wr).mono ?_
  rintro e w1 ⟨rfl, hb1⟩
  have HF : Hid (Below w.heap.size w w1) := HB.out.trans (hb1.mono HB.out.size)
  clear hb1
  go_wp2_with fail
  refine ⟨rfl, rfl, .bool true, ?_, ⟨rfl, HF.out⟩⟩
  simp [results, Try.results5, go_sem]

theorem y3 (w : World) (xa : Option Addr) (n c : Nat) (ya : Option Addr) (m c2 : Nat) (tv : Int) (l : List Cs) (HR : Hid (Rcs w xa n l)) (HM : Hid (mayB l = true)) (a : Act) (hf : Fr 183 a) (h0 : sl a 0 = .slice xa n c) (h1 : sl a 1 = .slice ya m c2) (h2 : sl a 2 = .int .u8 tv) :
    Code.wp Try.prog (cAt [1,1,0] KE) (Exit.then (fun a' w' => ∃ ga sa, Fr 183 a' ∧ sl a' 0 = .slice xa n c ∧ sl a' 1 = .slice ya m c2 ∧ sl a' 2 = .int .u8 tv ∧ sl a' 7 = .pointer (some ⟨ga, 0, none⟩) ∧ sl a' 8 = .int .i64 0 ∧ Lv w w' ga sa 0 ∧ sa.T = 7 ∧ sa.abs = l.map (Cs.new 7)) Nope) a w := by
  obtain ⟨f, ha, hs⟩ := frKE hf
  rw [(hs 0).trans h0, (hs 1).trans h1, (hs 2).trans h2] at ha
  clear hs hf h0 h1 h2
  subst ha
  refine piece2 fun J0 K0 hJ0 hK0 => ?_
  conv => arg 2; whnf
  go_wp2_with fail
  refine (lvNew 7 xa n c l HR.out (by decide) (by decide) (Below.refl w.heap.size w) HM.out).mono ?_
  rintro e w1 ⟨ga, sa, rfl, hv, hT, _, hab, _, _⟩
  have H1 : Hid (Lv w w1 ga sa 0 ∧ sa.T = 7 ∧ sa.abs = l.map (Cs.new 7)) := ⟨hv, hT, hab⟩
  clear hv hT hab
  go_wp2_with fail
  refine Met.intro (hJ0 _ _ ?_)
  exact ⟨ga, sa, ⟨rfl, rfl⟩, rfl, rfl, rfl, rfl, rfl, H1.out⟩

theorem y4 (w wr : World) (xa : Option Addr) (n c : Nat) (ya : Option Addr) (m c2 : Nat) (tv : Int) (l : List Cs) (ga : Nat) (sa : Sh) (HR : Hid (Rcs wr xa n l)) (HM : Hid (mayB l = true)) (HA : Hid (Lv w wr ga sa 0 ∧ sa.T = 7 ∧ sa.abs = l.map (Cs.new 7))) (a : Act) (hf : Fr 183 a) (h0 : sl a 0 = .slice xa n c) (h1 : sl a 1 = .slice ya m c2) (h2 : sl a 2 = .int .u8 tv) (h7 : sl a 7 = .pointer (some ⟨ga, 0, none⟩)) (h8 : sl a 8 = .int .i64 0) :
    Code.wp Try.prog (cAt [1,1,1,0] KE) (Exit.then (fun a' w' => ∃ gb sb, Fr 183 a' ∧ sl a' 0 = .slice xa n c ∧ sl a' 1 = .slice ya m c2 ∧ sl a' 2 = .int .u8 tv ∧ sl a' 7 = .pointer (some ⟨ga, 0, none⟩) ∧ sl a' 8 = .int .i64 0 ∧ sl a' 9 = .pointer (some ⟨gb, 0, none⟩) ∧ sl a' 10 = .int .i64 0 ∧ E1 w w' ga gb sa sb 0) Nope) a wr := by
  obtain ⟨f, ha, hs⟩ := frKE hf
  rw [(hs 0).trans h0, (hs 1).trans h1, (hs 2).trans h2, (hs 7).trans h7, (hs 8).trans h8] at ha
  clear hs hf h0 h1 h2 h7 h8
  subst ha
  refine piece2 fun J0 K0 hJ0 hK0 => ?_
  conv => arg 2; whnf
  go_wp2_with fail
  refine (sNew_any 7 xa n c l wr HR.out (by decide) (by decide)).mono ?_
  rintro e w1 ⟨hb1, h | h⟩
  case inr => rw [HM.out] at h; cases h.1
  obtain ⟨_, gb, sb, rfl, hsw, hT, hn, hab⟩ := h
  have hm := HM.out
  unfold mayB at hm
  simp only [Bool.and_eq_true, decide_eq_true_eq] at hm
  have hA1 := HA.out.1.past hb1
  have H1 : Hid (E1 w w1 ga gb sa sb 0) := by
    have hsz := HA.out.1.below.size
    refine ⟨⟨hA1, ⟨?_, by omega, hA1.below, ?_, ?_, by omega, by omega, Int.le_refl _⟩, fun k hk hk2 => ?_⟩, HA.out.2.1, hT, by rw [HA.out.2.2, hab]⟩
    · exact ⟨hsw.row, ⟨hsw.ptrs.1, by
          rcases hsw.ptrs.2 with h | ⟨r, c2, cur, h1, h2, h3⟩
          · exact .inl h
          · exact .inr ⟨r, c2, cur, h1, Nat.le_trans hsz h2, h3⟩⟩, fun m hm => by
          have := hsw.lws m hm
          exact ⟨this.row, this.bk, ⟨this.qu.ok, this.qu.row, fun hne => by
            obtain ⟨r, e1, e2, e3⟩ := this.qu.ring hne
            exact ⟨r, e1, Nat.le_trans hsz e2, e3⟩, fun x hx => ⟨(this.qu.data x hx).1.mono hsz, (this.qu.data x hx).2⟩, Nat.le_trans hsz this.qu.base⟩, Nat.le_trans hsz this.bg, Nat.le_trans hsz this.bb⟩, hsw.dis, hsw.len, hsw.le, Nat.le_trans hsz hsw.base⟩
    · rw [hab]
      intro x hx
      obtain ⟨y, _, rfl⟩ := List.mem_map.1 hx
      exact Int.le_refl _
    · rw [hab]
      intro x hx
      obtain ⟨y, _, rfl⟩ := List.mem_map.1 hx
      show (7 : Int) ≤ sb.T
      omega
    · have h1 := (HA.out.1.sw.foot_lt hk).2
      have h2 := (hsw.foot_lt hk2).1
      omega
  clear hb1 hsw hT hn hab hm hA1
  go_wp2_with fail
  refine Met.intro (hJ0 _ _ ?_)
  exact ⟨gb, sb, ⟨rfl, rfl⟩, rfl, rfl, rfl, rfl, rfl, rfl, rfl, H1.out⟩

theorem y3n (w : World) (xa : Option Addr) (n c : Nat) (ya : Option Addr) (m c2 : Nat) (tv : Int) (l : List Cs) (HR : Hid (Rcs w xa n l)) (HM : Hid (mayB l = false)) (a : Act) (hf : Fr 183 a) (h0 : sl a 0 = .slice xa n c) (h1 : sl a 1 = .slice ya m c2) (h2 : sl a 2 = .int .u8 tv) :
    Code.wp Try.prog (cAt [1,1,0] KE) (Exit.then (fun a' w' => Fr 183 a' ∧ sl a' 0 = .slice xa n c ∧ sl a' 1 = .slice ya m c2 ∧ sl a' 2 = .int .u8 tv ∧ sl a' 7 = .pointer none ∧ sl a' 8 = .int .i64 2 ∧ Below w.heap.size w w') Nope) a w := by
  obtain ⟨f, ha, hs⟩ := frKE hf
  rw [(hs 0).trans h0, (hs 1).trans h1, (hs 2).trans h2] at ha
  clear hs hf h0 h1 h2
  subst ha
  refine piece2 fun J0 K0 hJ0 hK0 => ?_
  conv => arg 2; whnf
  go_wp2_with fail
  refine (sNew_any 7 xa n c l w HR.out (by decide) (by decide)).mono ?_
  rintro e w1 ⟨hb1, h | h⟩
  · rw [HM.out] at h; cases h.1
  obtain ⟨_, rfl⟩ := h
  have H1 := Lib.hid hb1
  clear hb1
  go_wp2_with fail
  refine Met.intro (hJ0 _ _ ?_)
  exact ⟨⟨rfl, rfl⟩, rfl, rfl, rfl, rfl, rfl, H1.out⟩

theorem y4n (wr : World) (xa : Option Addr) (n c : Nat) (ya : Option Addr) (m c2 : Nat) (tv : Int) (l : List Cs) (HR : Hid (Rcs wr xa n l)) (HM : Hid (mayB l = false)) (a : Act) (hf : Fr 183 a) (h0 : sl a 0 = .slice xa n c) (h1 : sl a 1 = .slice ya m c2) (h2 : sl a 2 = .int .u8 tv) (h7 : sl a 7 = .pointer none) (h8 : sl a 8 = .int .i64 2) :
    Code.wp Try.prog (cAt [1,1,1,0] KE) (Exit.then (fun a' w' => Fr 183 a' ∧ sl a' 8 = .int .i64 2 ∧ sl a' 10 = .int .i64 2 ∧ Below wr.heap.size wr w') Nope) a wr := by
  obtain ⟨f, ha, hs⟩ := frKE hf
  rw [(hs 0).trans h0, (hs 1).trans h1, (hs 2).trans h2, (hs 7).trans h7, (hs 8).trans h8] at ha
  clear hs hf h0 h1 h2 h7 h8
  subst ha
  refine piece2 fun J0 K0 hJ0 hK0 => ?_
  conv => arg 2; whnf
  go_wp2_with fail
  refine (sNew_any 7 xa n c l wr HR.out (by decide) (by decide)).mono ?_
  rintro e w1 ⟨hb1, h | h⟩
  · rw [HM.out] at h; cases h.1
  obtain ⟨_, rfl⟩ := h
  have H1 := Lib.hid hb1
  clear hb1
  go_wp2_with fail
  refine Met.intro (hJ0 _ _ ?_)
  exact ⟨⟨rfl, rfl⟩, rfl, rfl, H1.out⟩

theorem y5n (wr : World) (a : Act) (hf : Fr 183 a) (h8 : sl a 8 = .int .i64 2) (h10 : sl a 10 = .int .i64 2) :
    Code.wp Try.prog (cAt [1,1,1,1,0,0] KE) (Exit.then (fun a' w' => Fr 183 a' ∧ sl a' 8 = .int .i64 2 ∧ sl a' 10 = .int .i64 2 ∧ sl a' 43 = .bool true ∧ wr = w') Nope) a wr := by
  obtain ⟨f, ha, hs⟩ := frKE hf
  rw [(hs 8).trans h8, (hs 10).trans h10] at ha
  clear hs hf h8 h10
  subst ha
  refine piece2 fun J0 K0 hJ0 hK0 => ?_
  conv => arg 2; whnf
  go_wp2_with fail
  refine Met.intro (hJ0 _ _ ?_)
  exact ⟨⟨rfl, rfl⟩, rfl, rfl, rfl, rfl⟩

theorem y6 (w wr : World) (hb : Below w.heap.size w wr) (a : Act) (hf : Fr 183 a) (h8 : sl a 8 = .int .i64 2) (h10 : sl a 10 = .int .i64 2) :
    Code.wp Try.prog (cAt [1,1,1,1,0,1,3] KE) (RetsV Try.f5 (Yes w)) a wr := by
  have HB := Lib.hid hb
  clear hb
  obtain ⟨f, ha, hs⟩ := frKE hf
  rw [(hs 8).trans h8, (hs 10).trans h10] at ha
  clear hs hf h8 h10
  subst ha
  conv => arg 2; whnf
  go_wp2_with fail
  refine (works12_any wr).mono ?_
  rintro e w1 ⟨rfl, hb1⟩
  have HF : Hid (Below w.heap.size w w1) := HB.out.trans (hb1.mono HB.out.size)
  clear hb1
  go_wp2_with fail
  refine ⟨rfl, rfl, .bool true, ?_, ⟨rfl, HF.out⟩⟩
  simp [results, Try.results5, go_sem]

theorem y5 (wr : World) (xa : Option Addr) (n c : Nat) (ya : Option Addr) (m c2 : Nat) (tv : Int) (ga gb : Nat) (a : Act) (hf : Fr 183 a) (h0 : sl a 0 = .slice xa n c) (h1 : sl a 1 = .slice ya m c2) (h2 : sl a 2 = .int .u8 tv) (h7 : sl a 7 = .pointer (some ⟨ga, 0, none⟩)) (h8 : sl a 8 = .int .i64 0) (h9 : sl a 9 = .pointer (some ⟨gb, 0, none⟩)) (h10 : sl a 10 = .int .i64 0) :
    Code.wp Try.prog (cAt [1,1,1,1,0,0] KE) (Exit.then (fun a' w' => Fr 183 a' ∧ sl a' 1 = .slice ya m c2 ∧ sl a' 2 = .int .u8 tv ∧ sl a' 7 = .pointer (some ⟨ga, 0, none⟩) ∧ sl a' 9 = .pointer (some ⟨gb, 0, none⟩) ∧ sl a' 43 = .bool false ∧ wr = w') Nope) a wr := by
  obtain ⟨f, ha, hs⟩ := frKE hf
  rw [(hs 0).trans h0, (hs 1).trans h1, (hs 2).trans h2, (hs 7).trans h7, (hs 8).trans h8, (hs 9).trans h9, (hs 10).trans h10] at ha
  clear hs hf h0 h1 h2 h7 h8 h9 h10
  subst ha
  refine piece2 fun J0 K0 hJ0 hK0 => ?_
  conv => arg 2; whnf
  go_wp2_with fail
  refine Met.intro (hJ0 _ _ ?_)
  exact ⟨⟨rfl, rfl⟩, rfl, rfl, rfl, rfl, rfl, rfl⟩

theorem y7 (wr : World) (ya : Option Addr) (m c2 : Nat) (tv : Int) (ga gb : Nat) (a : Act) (hf : Fr 183 a) (h1 : sl a 1 = .slice ya m c2) (h2 : sl a 2 = .int .u8 tv) (h7 : sl a 7 = .pointer (some ⟨ga, 0, none⟩)) (h9 : sl a 9 = .pointer (some ⟨gb, 0, none⟩)) :
    Code.wp Try.prog (cAt [1,1,1,1,1,0,0] KE) (Exit.then (fun a' w' => Fr 183 a' ∧ sl a' 1 = .slice ya m c2 ∧ sl a' 2 = .int .u8 tv ∧ sl a' 7 = .pointer (some ⟨ga, 0, none⟩) ∧ sl a' 9 = .pointer (some ⟨gb, 0, none⟩) ∧ sl a' 11 = .int .i64 0 ∧ wr = w') Nope) a wr := by
  obtain ⟨f, ha, hs⟩ := frKE hf
  rw [(hs 1).trans h1, (hs 2).trans h2, (hs 7).trans h7, (hs 9).trans h9] at ha
  clear hs hf h1 h2 h7 h9
  subst ha
  refine piece2 fun J0 K0 hJ0 hK0 => ?_
  conv => arg 2; whnf
  go_wp2_with fail
  refine Met.intro (hJ0 _ _ ?_)
  exact ⟨⟨rfl, rfl⟩, rfl, rfl, rfl, rfl, rfl, rfl⟩

theorem y8 (wr : World) (ya : Option Addr) (m c2 : Nat) (tv : Int) (ga gb : Nat) (i : Nat) (hi : i < m) (a : Act) (hf : Fr 183 a) (h1 : sl a 1 = .slice ya m c2) (h2 : sl a 2 = .int .u8 tv) (h7 : sl a 7 = .pointer (some ⟨ga, 0, none⟩)) (h9 : sl a 9 = .pointer (some ⟨gb, 0, none⟩)) (h11 : sl a 11 = .int .i64 (i : Int)) :
    Code.wp Try.prog (cAt [1,1,1,1,1,0,1,2,2,0] KE) (Exit.then (fun a' w' => Fr 183 a' ∧ sl a' 1 = .slice ya m c2 ∧ sl a' 2 = .int .u8 tv ∧ sl a' 7 = .pointer (some ⟨ga, 0, none⟩) ∧ sl a' 9 = .pointer (some ⟨gb, 0, none⟩) ∧ sl a' 11 = .int .i64 (i : Int) ∧ wr = w') Nope) a wr := by
  obtain ⟨f, ha, hs⟩ := frKE hf
  rw [(hs 1).trans h1, (hs 2).trans h2, (hs 7).trans h7, (hs 9).trans h9, (hs 11).trans h11] at ha
  clear hs hf h1 h2 h7 h9 h11
  subst ha
  refine piece2 fun J0 K0 hJ0 hK0 => ?_
  conv => arg 2; whnf
  have hi2 : (i : Int) < (m : Int) := by omega
  go_wp2_with fail
  refine Met.intro (hJ0 _ _ ?_)
  exact ⟨⟨rfl, rfl⟩, rfl, rfl, rfl, rfl, rfl, rfl⟩

theorem y8x (wr : World) (ya : Option Addr) (m c2 : Nat) (tv : Int) (ga gb : Nat) (i : Nat) (hi : ¬ i < m) (a : Act) (hf : Fr 183 a) (h1 : sl a 1 = .slice ya m c2) (h2 : sl a 2 = .int .u8 tv) (h7 : sl a 7 = .pointer (some ⟨ga, 0, none⟩)) (h9 : sl a 9 = .pointer (some ⟨gb, 0, none⟩)) (h11 : sl a 11 = .int .i64 (i : Int)) :
    Code.wp Try.prog (cAt [1,1,1,1,1,0,1,2,2] KE) (Outs 0 (fun a' w' => Fr 183 a' ∧ sl a' 1 = .slice ya m c2 ∧ sl a' 2 = .int .u8 tv ∧ sl a' 7 = .pointer (some ⟨ga, 0, none⟩) ∧ sl a' 9 = .pointer (some ⟨gb, 0, none⟩) ∧ wr = w')) a wr := by
  obtain ⟨f, ha, hs⟩ := frKE hf
  rw [(hs 1).trans h1, (hs 2).trans h2, (hs 7).trans h7, (hs 9).trans h9, (hs 11).trans h11] at ha
  clear hs hf h1 h2 h7 h9 h11
  subst ha
  conv => arg 2; whnf
  go_wp2_with fail
  exact ⟨rfl, ⟨rfl, rfl⟩, rfl, rfl, rfl, rfl, rfl⟩

theorem y9 (wr : World) (ya : Option Addr) (m c2 : Nat) (tv : Int) (ga gb : Nat) (i : Nat) (hi : i < 1000) (a : Act) (hf : Fr 183 a) (h1 : sl a 1 = .slice ya m c2) (h2 : sl a 2 = .int .u8 tv) (h7 : sl a 7 = .pointer (some ⟨ga, 0, none⟩)) (h9 : sl a 9 = .pointer (some ⟨gb, 0, none⟩)) (h11 : sl a 11 = .int .i64 (i : Int)) :
    Code.wp Try.prog (cAt [1,1,1,1,1,0,1,2,2,1,1] KE) (Exit.then (fun a' w' => Fr 183 a' ∧ sl a' 1 = .slice ya m c2 ∧ sl a' 2 = .int .u8 tv ∧ sl a' 7 = .pointer (some ⟨ga, 0, none⟩) ∧ sl a' 9 = .pointer (some ⟨gb, 0, none⟩) ∧ sl a' 11 = .int .i64 ((i : Int) + 1) ∧ wr = w') Nope) a wr := by
  obtain ⟨f, ha, hs⟩ := frKE hf
  rw [(hs 1).trans h1, (hs 2).trans h2, (hs 7).trans h7, (hs 9).trans h9, (hs 11).trans h11] at ha
  clear hs hf h1 h2 h7 h9 h11
  subst ha
  refine piece2 fun J0 K0 hJ0 hK0 => ?_
  conv => arg 2; whnf
  have hw : IntKind.i64.wrap ((i : Int) + 1) = (i : Int) + 1 := by rw [IntKind.wrap_i64]; omega
  go_wp2_with fail
  refine Met.intro (hJ0 _ _ ?_)
  exact ⟨⟨rfl, rfl⟩, rfl, rfl, rfl, rfl, rfl, rfl⟩

theorem y10 (w wr : World) (yb yo m c2 : Nat) (tv : Int) (ga gb i : Nat) (sa sb : Sh) (N : Int) (y : Ac) (HE : Hid (E1 w wr ga gb sa sb N)) (HG : Hid (World.rangeAt wr yb (yo + i * 6) y.cs)) (HY : Hid (World.rangeAt w yb (yo + i * 6) y.cs)) (HX : Hid (y.ok w)) (hx20 : y.x.n ≤ 20) (HN : Hid (N < 1000)) (hi : i < m) (a : Act) (hf : Fr 183 a) (h1 : sl a 1 = .slice (some ⟨yb, yo, none⟩) m c2) (h2 : sl a 2 = .int .u8 tv) (h7 : sl a 7 = .pointer (some ⟨ga, 0, none⟩)) (h9 : sl a 9 = .pointer (some ⟨gb, 0, none⟩)) (h11 : sl a 11 = .int .i64 (i : Int)) :
    Code.wp Try.prog (cAt [1,1,1,1,1,0,1,2,2,1,0,2,0] KE) (Exit.then (fun a' w' => ∃ sa' sb', Fr 183 a' ∧ sl a' 1 = .slice (some ⟨yb, yo, none⟩) m c2 ∧ sl a' 2 = .int .u8 tv ∧ sl a' 7 = .pointer (some ⟨ga, 0, none⟩) ∧ sl a' 9 = .pointer (some ⟨gb, 0, none⟩) ∧ sl a' 11 = .int .i64 (i : Int) ∧ sl a' 80 = .bool false ∧ E1 w w' ga gb sa' sb' (N + 2)) Nope) a wr := by
  obtain ⟨f, ha, hs⟩ := frKE hf
  rw [(hs 1).trans h1, (hs 2).trans h2, (hs 7).trans h7, (hs 9).trans h9, (hs 11).trans h11] at ha
  clear hs hf h1 h2 h7 h9 h11
  subst ha
  refine piece2 fun J0 K0 hJ0 hK0 => ?_
  conv => arg 2; whnf
  have hi2 : (i : Int) < (m : Int) := by omega
  have hi0 : (0 : Int) ≤ (i : Int) := by omega
  obtain ⟨yd, yc, ⟨no, sz, xa, xn, xc, xd⟩, yt⟩ := y
  have hbd : Below wr.heap.size wr wr.drew := (Below.refl _ _).drew
  have H0 : Hid (L2 w wr.drew ga gb sa sb N) := ⟨HE.out.l2.a.past hbd, HE.out.l2.b.past hbd, HE.out.l2.dis⟩
  have HS : Hid (World.rangeAt wr.drew yb (yo + i * 6) (Ac.cs ⟨yd, yc, ⟨no, sz, xa, xn, xc, xd⟩, yt⟩)) := range_kept hbd HG.out
  clear hbd
  go_wp2_with fail
  refine wp_region_held_drew (S := fun w' => World.rangeAt w' yb (yo + i * 6) (Ac.cs ⟨yd, yc, ⟨no, sz, xa, xn, xc, xd⟩, yt⟩)) (by kernel_rfl) HS.out (fun hS => ?_)
  refine tkE 0 56 (.pointer (some ⟨ga, 0, none⟩)) (fun w' h' => ?_) hS ?_
  · go_simp
  refine tkE 1 57 (.slice (some ⟨yb, yo, none⟩) m c2) (fun w' h' => ?_) hS ?_
  · go_simp
  try simp only [Act.put, List.setIfInBounds_toArray, List.set_cons_zero, List.set_cons_succ]
  refine tkE 2 58 (.int .i64 (i : Int)) (fun w' h' => ?_) hS ?_
  · go_simp
  refine tkE 3 59 (.pointer (some ⟨yb, yo + i * 6, none⟩)) (fun w' h' => ?_) hS ?_
  · go_simp
  try simp only [Act.put, List.setIfInBounds_toArray, List.set_cons_zero, List.set_cons_succ]
  refine tkE 4 60 (.pointer (some ⟨yb, yo + i * 6 + 1, none⟩)) (fun w' h' => ?_) hS ?_
  · go_simp
  refine tkE 5 61 (.int .i64 yc) (fun w' h' => ?_) hS ?_
  · have q1 := Ac.r1 h'
    go_simp
  try simp only [Act.put, List.setIfInBounds_toArray, List.set_cons_zero, List.set_cons_succ]
  refine tkE 6 62 (.slice (some ⟨yb, yo, none⟩) m c2) (fun w' h' => ?_) hS ?_
  · go_simp
  refine tkE 7 63 (.int .i64 (i : Int)) (fun w' h' => ?_) hS ?_
  · go_simp
  try simp only [Act.put, List.setIfInBounds_toArray, List.set_cons_zero, List.set_cons_succ]
  refine tkE 8 64 (.pointer (some ⟨yb, yo + i * 6, none⟩)) (fun w' h' => ?_) hS ?_
  · go_simp
  refine tkE 9 65 (.pointer (some ⟨yb, yo + i * 6 + 2, none⟩)) (fun w' h' => ?_) hS ?_
  · go_simp
  try simp only [Act.put, List.setIfInBounds_toArray, List.set_cons_zero, List.set_cons_succ]
  refine tkE 10 66 (.agg #[.int .u64 no, .int .i64 sz, .slice xa xn xc]) (fun w' h' => ?_) hS ?_
  · have q2 : w'.cell? ⟨yb, yo + i * 6 + 2, none⟩ = some (.int .u64 no) := Ac.r2 h'
    have q3 : w'.cell? ⟨yb, yo + i * 6 + 2 + 1, none⟩ = some (.int .i64 sz) := Ac.r3 h'
    have q4 : w'.cell? ⟨yb, yo + i * 6 + 2 + 2, none⟩ = some (.slice xa xn xc) := Ac.r4 h'
    go_simp
  refine tkE 12 68 (.pointer (some ⟨gb, 0, none⟩)) (fun w' h' => ?_) hS ?_
  · go_simp
  try simp only [Act.put, List.setIfInBounds_toArray, List.set_cons_zero, List.set_cons_succ]
  refine tkE 13 69 (.slice (some ⟨yb, yo, none⟩) m c2) (fun w' h' => ?_) hS ?_
  · go_simp
  refine tkE 14 70 (.int .i64 (i : Int)) (fun w' h' => ?_) hS ?_
  · go_simp
  try simp only [Act.put, List.setIfInBounds_toArray, List.set_cons_zero, List.set_cons_succ]
  refine tkE 15 71 (.pointer (some ⟨yb, yo + i * 6, none⟩)) (fun w' h' => ?_) hS ?_
  · go_simp
  refine tkE 16 72 (.pointer (some ⟨yb, yo + i * 6 + 1, none⟩)) (fun w' h' => ?_) hS ?_
  · go_simp
  try simp only [Act.put, List.setIfInBounds_toArray, List.set_cons_zero, List.set_cons_succ]
  refine tkE 17 73 (.int .i64 yc) (fun w' h' => ?_) hS ?_
  · have q1 := Ac.r1 h'
    go_simp
  refine tkE 18 74 (.slice (some ⟨yb, yo, none⟩) m c2) (fun w' h' => ?_) hS ?_
  · go_simp
  try simp only [Act.put, List.setIfInBounds_toArray, List.set_cons_zero, List.set_cons_succ]
  refine tkE 19 75 (.int .i64 (i : Int)) (fun w' h' => ?_) hS ?_
  · go_simp
  refine tkE 20 76 (.pointer (some ⟨yb, yo + i * 6, none⟩)) (fun w' h' => ?_) hS ?_
  · go_simp
  try simp only [Act.put, List.setIfInBounds_toArray, List.set_cons_zero, List.set_cons_succ]
  refine tkE 21 77 (.pointer (some ⟨yb, yo + i * 6 + 2, none⟩)) (fun w' h' => ?_) hS ?_
  · go_simp
  refine tkE 22 78 (.agg #[.int .u64 no, .int .i64 sz, .slice xa xn xc]) (fun w' h' => ?_) hS ?_
  · have q2 : w'.cell? ⟨yb, yo + i * 6 + 2, none⟩ = some (.int .u64 no) := Ac.r2 h'
    have q3 : w'.cell? ⟨yb, yo + i * 6 + 2 + 1, none⟩ = some (.int .i64 sz) := Ac.r3 h'
    have q4 : w'.cell? ⟨yb, yo + i * 6 + 2 + 2, none⟩ = some (.slice xa xn xc) := Ac.r4 h'
    go_simp
  try simp only [Act.put, List.setIfInBounds_toArray, List.set_cons_zero, List.set_cons_succ]
  refine wpAnyH_ready (rs := [11]) (by kernel_rfl) (by simp) (AllReadyH.cons rfl (fun K hK => ?_) AllReadyH.nil)
  rw [if_pos (by rfl)]
  go_wp2_with fail
  refine (lvOffer H0.out.a (by have := HN.out; omega) yc ⟨no, sz, xa, xn, xc, xd⟩ ((HX.out.x.below (HE.out.l2.a.below.trans ((Below.refl _ _).drew))).at_ (Nat.le_trans hx20 (by decide))) (fun hne b hb e => by have := arg_blk HX.out.x hne b hb; have := (H0.out.a.sw.foot_lt e).1; omega)).mono ?_
  rintro e w1 ⟨rfl, sa', hv, hT, _, hab, hk, hf⟩
  have hl2 := H0.out.left (by omega) hv hk hf
  have H1 : Hid (L2 w w1 ga gb sa' sb (N + 1) ∧ sa'.T = 7 ∧ sa'.abs = offL sa.abs yc (Pi.it ⟨no, sz, xa, xn, xc, xd⟩)) := ⟨hl2, hT.trans HE.out.ta, hab⟩
  have hrg : World.rangeAt w1 yb (yo + i * 6) (Ac.cs ⟨yd, yc, ⟨no, sz, xa, xn, xc, xd⟩, yt⟩) := range_kept hv.below HY.out
  have HS1 := Lib.hid hrg
  obtain ⟨co, hco⟩ : ∃ z, offC sa.abs yc (Pi.it ⟨no, sz, xa, xn, xc, xd⟩) = z := ⟨_, rfl⟩
  rw [hco]
  have HCO := Lib.hid hco
  clear hv hT hab hk hf hl2 hrg hco H0 HS
  clear hS
  refine hK.out _ _ (HS1.out) (fun hS => ?_)
  clear hK K
  try simp only [Act.put, List.setIfInBounds_toArray, List.set_cons_zero, List.set_cons_succ]
  refine wpAnyH_ready (rs := [23]) (by kernel_rfl) (by simp) (AllReadyH.cons rfl (fun K hK => ?_) AllReadyH.nil)
  rw [if_pos (by rfl)]
  go_wp2_with fail
  refine (lvOffer H1.out.1.b (by have := HN.out; omega) yc ⟨no, sz, xa, xn, xc, xd⟩ ((HX.out.x.below H1.out.1.b.below).at_ (Nat.le_trans hx20 (by decide))) (fun hne b hb e => by have := arg_blk HX.out.x hne b hb; have := (H1.out.1.b.sw.foot_lt e).1; omega)).mono ?_
  rintro e w2 ⟨rfl, sb', hv, hT, _, hab, hk, hf⟩
  have hl2 := (H1.out.1.swap.left (by omega) hv hk hf).swap
  have H2 : Hid (E1 w w2 ga gb sa' sb' (N + 2)) := ⟨⟨⟨hl2.a.sw, hl2.a.n1, hl2.a.below, hl2.a.db.more (by omega), hl2.a.bT, hl2.a.T0, hl2.a.T1, by have := hl2.a.N0; omega⟩, ⟨hl2.b.sw, hl2.b.n1, hl2.b.below, hl2.b.db.more (by omega), hl2.b.bT, hl2.b.T0, hl2.b.T1, by have := hl2.a.N0; omega⟩, hl2.dis⟩, H1.out.2.1, hT.trans HE.out.tb, by rw [H1.out.2.2, hab, HE.out.ab]⟩
  have hrg : World.rangeAt w2 yb (yo + i * 6) (Ac.cs ⟨yd, yc, ⟨no, sz, xa, xn, xc, xd⟩, yt⟩) := range_kept hv.below HY.out
  have HS2 := Lib.hid hrg
  rw [← HE.out.ab, HCO.out]
  clear hv hT hab hk hf hl2 hrg H1 HS1
  clear hS
  refine hK.out _ _ (HS2.out) (fun hS => ?_)
  clear hK K
  refine tkE 24 80 (.bool false) (fun w' h' => ?_) hS ?_
  · go_simp
  refine wpAnyH_done (by kernel_rfl) ?_ _
  go_wp2_with fail
  refine Met.intro (hJ0 _ _ ?_)
  exact ⟨_, _, ⟨rfl, rfl⟩, rfl, rfl, rfl, rfl, rfl, rfl, H2.out⟩

theorem y12 (wr : World) (ya : Option Addr) (m c2 : Nat) (tv : Int) (ga gb : Nat) (nn : Nat) (hnn : tv.tmod 200 = (nn : Int)) (hn2 : nn < 200) (a : Act) (hf : Fr 183 a) (h1 : sl a 1 = .slice ya m c2) (h2 : sl a 2 = .int .u8 tv) (h7 : sl a 7 = .pointer (some ⟨ga, 0, none⟩)) (h9 : sl a 9 = .pointer (some ⟨gb, 0, none⟩)) :
    Code.wp Try.prog (cAt [1,1,1,1,1,1,0] KE) (Exit.then (fun a' w' => Fr 183 a' ∧ sl a' 7 = .pointer (some ⟨ga, 0, none⟩) ∧ sl a' 9 = .pointer (some ⟨gb, 0, none⟩) ∧ sl a' 12 = .int .u64 (nn : Int) ∧ wr = w') Nope) a wr := by
  obtain ⟨f, ha, hs⟩ := frKE hf
  rw [(hs 1).trans h1, (hs 2).trans h2, (hs 7).trans h7, (hs 9).trans h9] at ha
  clear hs hf h1 h2 h7 h9
  subst ha
  refine piece2 fun J0 K0 hJ0 hK0 => ?_
  conv => arg 2; whnf
  have e1 : IntKind.u64.wrap (nn : Int) = nn := by rw [IntKind.wrap_u64]; omega
  have e0 : IntKind.u8.wrap (nn : Int) = nn := by rw [IntKind.wrap_u8]; omega
  go_wp2_with fail
  refine Met.intro (hJ0 _ _ ?_)
  exact ⟨⟨rfl, rfl⟩, rfl, rfl, rfl, rfl⟩

theorem y13 (w wr : World) (ga gb nn : Nat) (sa sb : Sh) (N : Int) (HE : Hid (E1 w wr ga gb sa sb N)) (HN : Hid (N < 1000)) (hn2 : nn < 200) (a : Act) (hf : Fr 183 a) (h7 : sl a 7 = .pointer (some ⟨ga, 0, none⟩)) (h9 : sl a 9 = .pointer (some ⟨gb, 0, none⟩)) (h12 : sl a 12 = .int .u64 (nn : Int)) :
    Code.wp Try.prog (cAt [1,1,1,1,1,1,1,0] KE) (Exit.then (fun a' w' => ∃ vw nw cw yw, Fr 183 a' ∧ sl a' 9 = .pointer (some ⟨gb, 0, none⟩) ∧ sl a' 12 = .int .u64 (nn : Int) ∧ sl a' 13 = .slice vw nw cw ∧ E2 w w' gb sb N wr.heap.size w'.heap.size vw nw cw yw none 0 0 [] ∧ yw.map Po.ot = (rel (7 + (nn : Int)) 7 sa.abs).2) Nope) a wr := by
  obtain ⟨f, ha, hs⟩ := frKE hf
  rw [(hs 7).trans h7, (hs 9).trans h9, (hs 12).trans h12] at ha
  clear hs hf h7 h9 h12
  subst ha
  refine piece2 fun J0 K0 hJ0 hK0 => ?_
  conv => arg 2; whnf
  have e1 : IntKind.u64.wrap (7 + (nn : Int)) = 7 + nn := by rw [IntKind.wrap_u64]; omega
  go_wp2_with fail
  refine (lvRelease HE.out.l2.a (by have := HN.out; omega) (7 + (nn : Int)) (by omega)).mono ?_
  rintro e w1 ⟨vw, nw, cw, yw, sa', rfl, ho, hot, hv, hT, _, hab, hk, hf⟩
  rw [HE.out.ta, show max (7 + (nn : Int)) 7 = 7 + nn by omega] at hot
  have hl2 := HE.out.l2.left (Int.le_refl _) hv hk (fun k hk => .inl (hf k hk))
  have H1 : Hid (E2 w w1 gb sb N wr.heap.size w1.heap.size vw nw cw yw none 0 0 [] ∧ yw.map Po.ot = (rel (7 + (nn : Int)) 7 sa.abs).2) :=
    ⟨⟨hl2.b, ho, Ops.nil _ _, fun k hk => (HE.out.l2.b.sw.foot_lt hk).2, ⟨fun k hk => (ho.row.blk_ge k hk).2, fun y hy k hk => ((ho.data y hy).1.blk_ge k hk).2⟩, HE.out.l2.a.below.size, hk.size, Nat.le_refl _⟩, hot⟩
  clear ho hot hv hT hab hk hf hl2
  go_wp2_with fail
  refine Met.intro (hJ0 _ _ ?_)
  exact ⟨vw, nw, cw, yw, ⟨rfl, rfl⟩, rfl, rfl, rfl, H1.out⟩

theorem y14 (wr : World) (gb nn : Nat) (vw : Option Addr) (nw cw : Nat) (a : Act) (hf : Fr 183 a) (h9 : sl a 9 = .pointer (some ⟨gb, 0, none⟩)) (h12 : sl a 12 = .int .u64 (nn : Int)) (h13 : sl a 13 = .slice vw nw cw) :
    Code.wp Try.prog (cAt [1,1,1,1,1,1,1,1,0] KE) (Exit.then (fun a' w' => Fr 183 a' ∧ sl a' 9 = .pointer (some ⟨gb, 0, none⟩) ∧ sl a' 12 = .int .u64 (nn : Int) ∧ sl a' 13 = .slice vw nw cw ∧ sl a' 14 = .slice none 0 0 ∧ wr = w') Nope) a wr := by
  obtain ⟨f, ha, hs⟩ := frKE hf
  rw [(hs 9).trans h9, (hs 12).trans h12, (hs 13).trans h13] at ha
  clear hs hf h9 h12 h13
  subst ha
  refine piece2 fun J0 K0 hJ0 hK0 => ?_
  conv => arg 2; whnf
  go_wp2_with fail
  refine Met.intro (hJ0 _ _ ?_)
  exact ⟨⟨rfl, rfl⟩, rfl, rfl, rfl, rfl, rfl⟩

theorem y15 (wr : World) (gb nn : Nat) (vw : Option Addr) (nw cw : Nat) (a : Act) (hf : Fr 183 a) (h9 : sl a 9 = .pointer (some ⟨gb, 0, none⟩)) (h12 : sl a 12 = .int .u64 (nn : Int)) (h13 : sl a 13 = .slice vw nw cw) (h14 : sl a 14 = .slice none 0 0) :
    Code.wp Try.prog (cAt [1,1,1,1,1,1,1,1,1,0,0] KE) (Exit.then (fun a' w' => Fr 183 a' ∧ sl a' 9 = .pointer (some ⟨gb, 0, none⟩) ∧ sl a' 12 = .int .u64 (nn : Int) ∧ sl a' 13 = .slice vw nw cw ∧ sl a' 14 = .slice none 0 0 ∧ sl a' 15 = .int .u64 0 ∧ wr = w') Nope) a wr := by
  obtain ⟨f, ha, hs⟩ := frKE hf
  rw [(hs 9).trans h9, (hs 12).trans h12, (hs 13).trans h13, (hs 14).trans h14] at ha
  clear hs hf h9 h12 h13 h14
  subst ha
  refine piece2 fun J0 K0 hJ0 hK0 => ?_
  conv => arg 2; whnf
  go_wp2_with fail
  refine Met.intro (hJ0 _ _ ?_)
  exact ⟨⟨rfl, rfl⟩, rfl, rfl, rfl, rfl, rfl, rfl⟩

theorem y16 (wr : World) (gb nn : Nat) (vw : Option Addr) (nw cw : Nat) (vg : Option Addr) (ng cg t : Nat) (ht : t ≤ nn) (a : Act) (hf : Fr 183 a) (h9 : sl a 9 = .pointer (some ⟨gb, 0, none⟩)) (h12 : sl a 12 = .int .u64 (nn : Int)) (h13 : sl a 13 = .slice vw nw cw) (h14 : sl a 14 = .slice vg ng cg) (h15 : sl a 15 = .int .u64 (t : Int)) :
    Code.wp Try.prog (cAt [1,1,1,1,1,1,1,1,1,0,1,2,2,0] KE) (Exit.then (fun a' w' => Fr 183 a' ∧ sl a' 9 = .pointer (some ⟨gb, 0, none⟩) ∧ sl a' 12 = .int .u64 (nn : Int) ∧ sl a' 13 = .slice vw nw cw ∧ sl a' 14 = .slice vg ng cg ∧ sl a' 15 = .int .u64 (t : Int) ∧ wr = w') Nope) a wr := by
  obtain ⟨f, ha, hs⟩ := frKE hf
  rw [(hs 9).trans h9, (hs 12).trans h12, (hs 13).trans h13, (hs 14).trans h14, (hs 15).trans h15] at ha
  clear hs hf h9 h12 h13 h14 h15
  subst ha
  refine piece2 fun J0 K0 hJ0 hK0 => ?_
  conv => arg 2; whnf
  have ht2 : (t : Int) ≤ (nn : Int) := by omega
  go_wp2_with fail
  refine Met.intro (hJ0 _ _ ?_)
  exact ⟨⟨rfl, rfl⟩, rfl, rfl, rfl, rfl, rfl, rfl⟩

theorem y16x (wr : World) (gb nn : Nat) (vw : Option Addr) (nw cw : Nat) (vg : Option Addr) (ng cg t : Nat) (ht : ¬ t ≤ nn) (a : Act) (hf : Fr 183 a) (h9 : sl a 9 = .pointer (some ⟨gb, 0, none⟩)) (h12 : sl a 12 = .int .u64 (nn : Int)) (h13 : sl a 13 = .slice vw nw cw) (h14 : sl a 14 = .slice vg ng cg) (h15 : sl a 15 = .int .u64 (t : Int)) :
    Code.wp Try.prog (cAt [1,1,1,1,1,1,1,1,1,0,1,2,2] KE) (Outs 2 (fun a' w' => Fr 183 a' ∧ sl a' 13 = .slice vw nw cw ∧ sl a' 14 = .slice vg ng cg ∧ wr = w')) a wr := by
  obtain ⟨f, ha, hs⟩ := frKE hf
  rw [(hs 9).trans h9, (hs 12).trans h12, (hs 13).trans h13, (hs 14).trans h14, (hs 15).trans h15] at ha
  clear hs hf h9 h12 h13 h14 h15
  subst ha
  conv => arg 2; whnf
  have ht2 : ¬ (t : Int) ≤ (nn : Int) := by omega
  go_wp2_with fail
  exact ⟨rfl, ⟨rfl, rfl⟩, rfl, rfl, rfl⟩

theorem y17 (wr : World) (gb nn : Nat) (vw : Option Addr) (nw cw : Nat) (vg : Option Addr) (ng cg t : Nat) (ht : t < 1000) (a : Act) (hf : Fr 183 a) (h9 : sl a 9 = .pointer (some ⟨gb, 0, none⟩)) (h12 : sl a 12 = .int .u64 (nn : Int)) (h13 : sl a 13 = .slice vw nw cw) (h14 : sl a 14 = .slice vg ng cg) (h15 : sl a 15 = .int .u64 (t : Int)) :
    Code.wp Try.prog (cAt [1,1,1,1,1,1,1,1,1,0,1,2,2,1,1] KE) (Exit.then (fun a' w' => Fr 183 a' ∧ sl a' 9 = .pointer (some ⟨gb, 0, none⟩) ∧ sl a' 12 = .int .u64 (nn : Int) ∧ sl a' 13 = .slice vw nw cw ∧ sl a' 14 = .slice vg ng cg ∧ sl a' 15 = .int .u64 ((t : Int) + 1) ∧ wr = w') Nope) a wr := by
  obtain ⟨f, ha, hs⟩ := frKE hf
  rw [(hs 9).trans h9, (hs 12).trans h12, (hs 13).trans h13, (hs 14).trans h14, (hs 15).trans h15] at ha
  clear hs hf h9 h12 h13 h14 h15
  subst ha
  refine piece2 fun J0 K0 hJ0 hK0 => ?_
  conv => arg 2; whnf
  have hw : IntKind.u64.wrap ((t : Int) + 1) = (t : Int) + 1 := by rw [IntKind.wrap_u64]; omega
  go_wp2_with fail
  refine Met.intro (hJ0 _ _ ?_)
  exact ⟨⟨rfl, rfl⟩, rfl, rfl, rfl, rfl, rfl, rfl⟩

theorem y18 (w wr : World) (gb nn : Nat) (vw : Option Addr) (nw cw : Nat) (vg : Option Addr) (ng cg t : Nat) (sb : Sh) (N : Int) (bw bg : Nat) (yw yg : List Po) (HE : Hid (E2 w wr gb sb N bw bg vw nw cw yw vg ng cg yg)) (HN : Hid (N < 1000)) (ht : t ≤ 200) (hT : sb.T ≤ 7 + (t : Int)) (a : Act) (hf : Fr 183 a) (h9 : sl a 9 = .pointer (some ⟨gb, 0, none⟩)) (h12 : sl a 12 = .int .u64 (nn : Int)) (h13 : sl a 13 = .slice vw nw cw) (h14 : sl a 14 = .slice vg ng cg) (h15 : sl a 15 = .int .u64 (t : Int)) :
    Code.wp Try.prog (cAt [1,1,1,1,1,1,1,1,1,0,1,2,2,1,0,2,0] KE) (Exit.then (fun a' w' => ∃ v1 n1 c1 y1 sb', Fr 183 a' ∧ sl a' 9 = .pointer (some ⟨gb, 0, none⟩) ∧ sl a' 12 = .int .u64 (nn : Int) ∧ sl a' 13 = .slice vw nw cw ∧ sl a' 14 = .slice vg ng cg ∧ sl a' 15 = .int .u64 (t : Int) ∧ sl a' 16 = .slice v1 n1 c1 ∧ E2 w w' gb sb' N bw bg vw nw cw yw vg ng cg yg ∧ Ops w' wr.heap.size v1 n1 c1 y1 ∧ y1.map Po.ot = (rel (7 + (t : Int)) sb.T sb.abs).2 ∧ sb'.T = 7 + (t : Int) ∧ sb'.abs = (rel (7 + (t : Int)) sb.T sb.abs).1) Nope) a wr := by
  obtain ⟨f, ha, hs⟩ := frKE hf
  rw [(hs 9).trans h9, (hs 12).trans h12, (hs 13).trans h13, (hs 14).trans h14, (hs 15).trans h15] at ha
  clear hs hf h9 h12 h13 h14 h15
  subst ha
  refine piece2 fun J0 K0 hJ0 hK0 => ?_
  conv => arg 2; whnf
  have e1 : IntKind.u64.wrap (7 + (t : Int)) = 7 + t := by rw [IntKind.wrap_u64]; omega
  go_wp2_with fail
  refine (lvRelease HE.out.lb (by have := HN.out; omega) (7 + (t : Int)) (by omega)).mono ?_
  rintro e w1 ⟨v1, n1, c1, y1, sb', rfl, ho, hot, hv, hT2, _, hab, hk, hf⟩
  rw [show max (7 + (t : Int)) sb.T = 7 + t by omega] at hot hT2 hab
  have H1 : Hid (E2 w w1 gb sb' N bw bg vw nw cw yw vg ng cg yg ∧ Ops w1 wr.heap.size v1 n1 c1 y1 ∧ y1.map Po.ot = (rel (7 + (t : Int)) sb.T sb.abs).2 ∧ sb'.T = 7 + (t : Int) ∧ sb'.abs = (rel (7 + (t : Int)) sb.T sb.abs).1) := ⟨HE.out.rel hv hk hf, ho, hot, hT2, hab⟩
  clear ho hot hv hT2 hab hk hf
  go_wp2_with fail
  refine Met.intro (hJ0 _ _ ?_)
  exact ⟨v1, n1, c1, y1, sb', ⟨rfl, rfl⟩, rfl, rfl, rfl, rfl, rfl, rfl, H1.out⟩

theorem y19 (wr : World) (gb nn : Nat) (vw : Option Addr) (nw cw : Nat) (vg : Option Addr) (ng cg t : Nat) (v1 : Option Addr) (n1 c1 : Nat) (a : Act) (hf : Fr 183 a) (h9 : sl a 9 = .pointer (some ⟨gb, 0, none⟩)) (h12 : sl a 12 = .int .u64 (nn : Int)) (h13 : sl a 13 = .slice vw nw cw) (h14 : sl a 14 = .slice vg ng cg) (h15 : sl a 15 = .int .u64 (t : Int)) (h16 : sl a 16 = .slice v1 n1 c1) :
    Code.wp Try.prog (cAt [1,1,1,1,1,1,1,1,1,0,1,2,2,1,0,2,1,0,0] KE) (Exit.then (fun a' w' => Fr 183 a' ∧ sl a' 9 = .pointer (some ⟨gb, 0, none⟩) ∧ sl a' 12 = .int .u64 (nn : Int) ∧ sl a' 13 = .slice vw nw cw ∧ sl a' 14 = .slice vg ng cg ∧ sl a' 15 = .int .u64 (t : Int) ∧ sl a' 16 = .slice v1 n1 c1 ∧ sl a' 17 = .int .i64 0 ∧ wr = w') Nope) a wr := by
  obtain ⟨f, ha, hs⟩ := frKE hf
  rw [(hs 9).trans h9, (hs 12).trans h12, (hs 13).trans h13, (hs 14).trans h14, (hs 15).trans h15, (hs 16).trans h16] at ha
  clear hs hf h9 h12 h13 h14 h15 h16
  subst ha
  refine piece2 fun J0 K0 hJ0 hK0 => ?_
  conv => arg 2; whnf
  go_wp2_with fail
  refine Met.intro (hJ0 _ _ ?_)
  exact ⟨⟨rfl, rfl⟩, rfl, rfl, rfl, rfl, rfl, rfl, rfl, rfl⟩

theorem y20 (wr : World) (gb nn : Nat) (vw : Option Addr) (nw cw : Nat) (vg : Option Addr) (ng cg t : Nat) (v1 : Option Addr) (n1 c1 : Nat) (i : Nat) (hi : i < n1) (a : Act) (hf : Fr 183 a) (h9 : sl a 9 = .pointer (some ⟨gb, 0, none⟩)) (h12 : sl a 12 = .int .u64 (nn : Int)) (h13 : sl a 13 = .slice vw nw cw) (h14 : sl a 14 = .slice vg ng cg) (h15 : sl a 15 = .int .u64 (t : Int)) (h16 : sl a 16 = .slice v1 n1 c1) (h17 : sl a 17 = .int .i64 (i : Int)) :
    Code.wp Try.prog (cAt [1,1,1,1,1,1,1,1,1,0,1,2,2,1,0,2,1,0,1,2,2,0] KE) (Exit.then (fun a' w' => Fr 183 a' ∧ sl a' 9 = .pointer (some ⟨gb, 0, none⟩) ∧ sl a' 12 = .int .u64 (nn : Int) ∧ sl a' 13 = .slice vw nw cw ∧ sl a' 14 = .slice vg ng cg ∧ sl a' 15 = .int .u64 (t : Int) ∧ sl a' 16 = .slice v1 n1 c1 ∧ sl a' 17 = .int .i64 (i : Int) ∧ wr = w') Nope) a wr := by
  obtain ⟨f, ha, hs⟩ := frKE hf
  rw [(hs 9).trans h9, (hs 12).trans h12, (hs 13).trans h13, (hs 14).trans h14, (hs 15).trans h15, (hs 16).trans h16, (hs 17).trans h17] at ha
  clear hs hf h9 h12 h13 h14 h15 h16 h17
  subst ha
  refine piece2 fun J0 K0 hJ0 hK0 => ?_
  conv => arg 2; whnf
  have hi2 : (i : Int) < (n1 : Int) := by omega
  go_wp2_with fail
  refine Met.intro (hJ0 _ _ ?_)
  exact ⟨⟨rfl, rfl⟩, rfl, rfl, rfl, rfl, rfl, rfl, rfl, rfl⟩

theorem y20x (wr : World) (gb nn : Nat) (vw : Option Addr) (nw cw : Nat) (vg : Option Addr) (ng cg t : Nat) (v1 : Option Addr) (n1 c1 : Nat) (i : Nat) (hi : ¬ i < n1) (a : Act) (hf : Fr 183 a) (h9 : sl a 9 = .pointer (some ⟨gb, 0, none⟩)) (h12 : sl a 12 = .int .u64 (nn : Int)) (h13 : sl a 13 = .slice vw nw cw) (h14 : sl a 14 = .slice vg ng cg) (h15 : sl a 15 = .int .u64 (t : Int)) (h16 : sl a 16 = .slice v1 n1 c1) (h17 : sl a 17 = .int .i64 (i : Int)) :
    Code.wp Try.prog (cAt [1,1,1,1,1,1,1,1,1,0,1,2,2,1,0,2,1,0,1,2,2] KE) (Outs 4 (fun a' w' => Fr 183 a' ∧ sl a' 9 = .pointer (some ⟨gb, 0, none⟩) ∧ sl a' 12 = .int .u64 (nn : Int) ∧ sl a' 13 = .slice vw nw cw ∧ sl a' 14 = .slice vg ng cg ∧ sl a' 15 = .int .u64 (t : Int) ∧ sl a' 16 = .slice v1 n1 c1 ∧ wr = w')) a wr := by
  obtain ⟨f, ha, hs⟩ := frKE hf
  rw [(hs 9).trans h9, (hs 12).trans h12, (hs 13).trans h13, (hs 14).trans h14, (hs 15).trans h15, (hs 16).trans h16, (hs 17).trans h17] at ha
  clear hs hf h9 h12 h13 h14 h15 h16 h17
  subst ha
  conv => arg 2; whnf
  go_wp2_with fail
  exact ⟨rfl, ⟨rfl, rfl⟩, rfl, rfl, rfl, rfl, rfl, rfl, rfl⟩

theorem y21 (wr : World) (gb nn : Nat) (vw : Option Addr) (nw cw : Nat) (vg : Option Addr) (ng cg t : Nat) (v1 : Option Addr) (n1 c1 : Nat) (i : Nat) (hi : i < 1000000) (a : Act) (hf : Fr 183 a) (h9 : sl a 9 = .pointer (some ⟨gb, 0, none⟩)) (h12 : sl a 12 = .int .u64 (nn : Int)) (h13 : sl a 13 = .slice vw nw cw) (h14 : sl a 14 = .slice vg ng cg) (h15 : sl a 15 = .int .u64 (t : Int)) (h16 : sl a 16 = .slice v1 n1 c1) (h17 : sl a 17 = .int .i64 (i : Int)) :
    Code.wp Try.prog (cAt [1,1,1,1,1,1,1,1,1,0,1,2,2,1,0,2,1,0,1,2,2,1,1] KE) (Exit.then (fun a' w' => Fr 183 a' ∧ sl a' 9 = .pointer (some ⟨gb, 0, none⟩) ∧ sl a' 12 = .int .u64 (nn : Int) ∧ sl a' 13 = .slice vw nw cw ∧ sl a' 14 = .slice vg ng cg ∧ sl a' 15 = .int .u64 (t : Int) ∧ sl a' 16 = .slice v1 n1 c1 ∧ sl a' 17 = .int .i64 ((i : Int) + 1) ∧ wr = w') Nope) a wr := by
  obtain ⟨f, ha, hs⟩ := frKE hf
  rw [(hs 9).trans h9, (hs 12).trans h12, (hs 13).trans h13, (hs 14).trans h14, (hs 15).trans h15, (hs 16).trans h16, (hs 17).trans h17] at ha
  clear hs hf h9 h12 h13 h14 h15 h16 h17
  subst ha
  refine piece2 fun J0 K0 hJ0 hK0 => ?_
  conv => arg 2; whnf
  have hw : IntKind.i64.wrap ((i : Int) + 1) = (i : Int) + 1 := by rw [IntKind.wrap_i64]; omega
  go_wp2_with fail
  refine Met.intro (hJ0 _ _ ?_)
  exact ⟨⟨rfl, rfl⟩, rfl, rfl, rfl, rfl, rfl, rfl, rfl, rfl⟩

theorem y22a (wr : World) (gb nn : Nat) (vw : Option Addr) (nw cw : Nat) (vg : Option Addr) (ng cg t : Nat) (r1 : Nat) (n1 c1 : Nat) (i : Nat) (hi : i < n1) (ht : t ≤ 200) (HC : Hid (wr.cell? ⟨r1, i * 5, none⟩ = some (.int .u64 (7 + (t : Int))))) (h0 : i = 0) (a : Act) (hf : Fr 183 a) (h9 : sl a 9 = .pointer (some ⟨gb, 0, none⟩)) (h12 : sl a 12 = .int .u64 (nn : Int)) (h13 : sl a 13 = .slice vw nw cw) (h14 : sl a 14 = .slice vg ng cg) (h15 : sl a 15 = .int .u64 (t : Int)) (h16 : sl a 16 = .slice (some ⟨r1, 0, none⟩) n1 c1) (h17 : sl a 17 = .int .i64 (i : Int)) :
    Code.wp Try.prog (cAt [1,1,1,1,1,1,1,1,1,0,1,2,2,1,0,2,1,0,1,2,2,1,0,2,0] KE) (Exit.then (fun a' w' => Fr 183 a' ∧ sl a' 9 = .pointer (some ⟨gb, 0, none⟩) ∧ sl a' 12 = .int .u64 (nn : Int) ∧ sl a' 13 = .slice vw nw cw ∧ sl a' 14 = .slice vg ng cg ∧ sl a' 15 = .int .u64 (t : Int) ∧ sl a' 16 = .slice (some ⟨r1, 0, none⟩) n1 c1 ∧ sl a' 17 = .int .i64 (i : Int) ∧ sl a' 128 = .bool false ∧ Below wr.heap.size wr w') Nope) a wr := by
  obtain ⟨f, ha, hs⟩ := frKE hf
  rw [(hs 9).trans h9, (hs 12).trans h12, (hs 13).trans h13, (hs 14).trans h14, (hs 15).trans h15, (hs 16).trans h16, (hs 17).trans h17] at ha
  clear hs hf h9 h12 h13 h14 h15 h16 h17
  subst ha
  refine piece2 fun J0 K0 hJ0 hK0 => ?_
  conv => arg 2; whnf
  have hi2 : (i : Int) < (n1 : Int) := by omega
  have hi0 : (0 : Int) ≤ (i : Int) := by omega
  have e1 : IntKind.u64.wrap (7 + (t : Int)) = 7 + t := by rw [IntKind.wrap_u64]; omega
  have hi4 : ¬ (0 : Int) < (i : Int) := by omega
  have HZ := Lib.hid h0
  clear h0
  refine wp_region_held_drew (S := fun w' => w'.cell? ⟨r1, i * 5, none⟩ = some (.int .u64 (7 + (t : Int)))) (by kernel_rfl) HC.out (fun hS => ?_)
  refine tkE 0 103 (.slice (some ⟨r1, 0, none⟩) n1 c1) (fun w' h' => ?_) hS ?_
  · go_simp
  try simp only [Act.put, List.setIfInBounds_toArray, List.set_cons_zero, List.set_cons_succ]
  refine tkE 1 104 (.int .i64 (i : Int)) (fun w' h' => ?_) hS ?_
  · go_simp
  refine tkE 2 105 (.pointer (some ⟨r1, i * 5, none⟩)) (fun w' h' => ?_) hS ?_
  · go_simp
  try simp only [Act.put, List.setIfInBounds_toArray, List.set_cons_zero, List.set_cons_succ]
  refine tkE 3 106 (.pointer (some ⟨r1, i * 5, none⟩)) (fun w' h' => ?_) hS ?_
  · go_simp
  refine tkE 4 107 (.int .u64 (7 + (t : Int))) (fun w' h' => ?_) hS ?_
  · have q1 := h'
    go_simp
  try simp only [Act.put, List.setIfInBounds_toArray, List.set_cons_zero, List.set_cons_succ]
  refine tkE 5 108 (.int .u64 (t : Int)) (fun w' h' => ?_) hS ?_
  · go_simp
  refine tkE 6 109 (.int .u64 (7 + (t : Int))) (fun w' h' => ?_) hS ?_
  · go_simp
  try simp only [Act.put, List.setIfInBounds_toArray, List.set_cons_zero, List.set_cons_succ]
  refine tkE 7 110 (.bool false) (fun w' h' => ?_) hS ?_
  · go_simp
  refine tkE 8 111 (.bool false) (fun w' h' => ?_) hS ?_
  · go_simp
  try simp only [Act.put, List.setIfInBounds_toArray, List.set_cons_zero, List.set_cons_succ]
  refine tkE 9 112 (.int .i64 (i : Int)) (fun w' h' => ?_) hS ?_
  · go_simp
  refine tkE 10 113 (.bool false) (fun w' h' => ?_) hS ?_
  · (go_simp; exact HZ.out)
  try simp only [Act.put, List.setIfInBounds_toArray, List.set_cons_zero, List.set_cons_succ]
  refine tkE 11 114 (.bool false) (fun w' h' => ?_) hS ?_
  · go_simp
  try simp only [Act.put, List.setIfInBounds_toArray, List.set_cons_zero, List.set_cons_succ]
  refine tk 12 115 undef rfl rfl (by kernel_rfl) (by kernel_rfl) (by kernel_rfl) (fun _ _ _ h => h) (Or.inr ⟨by rfl, rfl⟩) hS ?_
  try simp only [Act.put, List.setIfInBounds_toArray, List.set_cons_zero, List.set_cons_succ]
  refine tk 13 116 undef rfl rfl (by kernel_rfl) (by kernel_rfl) (by kernel_rfl) (fun _ _ _ h => h) (Or.inr ⟨by rfl, rfl⟩) hS ?_
  try simp only [Act.put, List.setIfInBounds_toArray, List.set_cons_zero, List.set_cons_succ]
  refine tk 14 117 undef rfl rfl (by kernel_rfl) (by kernel_rfl) (by kernel_rfl) (fun _ _ _ h => h) (Or.inr ⟨by rfl, rfl⟩) hS ?_
  try simp only [Act.put, List.setIfInBounds_toArray, List.set_cons_zero, List.set_cons_succ]
  refine tk 15 118 undef rfl rfl (by kernel_rfl) (by kernel_rfl) (by kernel_rfl) (fun _ _ _ h => h) (Or.inr ⟨by rfl, rfl⟩) hS ?_
  try simp only [Act.put, List.setIfInBounds_toArray, List.set_cons_zero, List.set_cons_succ]
  refine tk 16 119 undef rfl rfl (by kernel_rfl) (by kernel_rfl) (by kernel_rfl) (fun _ _ _ h => h) (Or.inr ⟨by rfl, rfl⟩) hS ?_
  try simp only [Act.put, List.setIfInBounds_toArray, List.set_cons_zero, List.set_cons_succ]
  refine tk 17 120 undef rfl rfl (by kernel_rfl) (by kernel_rfl) (by kernel_rfl) (fun _ _ _ h => h) (Or.inr ⟨by rfl, rfl⟩) hS ?_
  try simp only [Act.put, List.setIfInBounds_toArray, List.set_cons_zero, List.set_cons_succ]
  refine tk 18 121 undef rfl rfl (by kernel_rfl) (by kernel_rfl) (by kernel_rfl) (fun _ _ _ h => h) (Or.inr ⟨by rfl, rfl⟩) hS ?_
  try simp only [Act.put, List.setIfInBounds_toArray, List.set_cons_zero, List.set_cons_succ]
  refine tk 19 122 undef rfl rfl (by kernel_rfl) (by kernel_rfl) (by kernel_rfl) (fun _ _ _ h => h) (Or.inr ⟨by rfl, rfl⟩) hS ?_
  try simp only [Act.put, List.setIfInBounds_toArray, List.set_cons_zero, List.set_cons_succ]
  refine tk 20 123 undef rfl rfl (by kernel_rfl) (by kernel_rfl) (by kernel_rfl) (fun _ _ _ h => h) (Or.inr ⟨by rfl, rfl⟩) hS ?_
  try simp only [Act.put, List.setIfInBounds_toArray, List.set_cons_zero, List.set_cons_succ]
  refine tk 21 124 undef rfl rfl (by kernel_rfl) (by kernel_rfl) (by kernel_rfl) (fun _ _ _ h => h) (Or.inr ⟨by rfl, rfl⟩) hS ?_
  try simp only [Act.put, List.setIfInBounds_toArray, List.set_cons_zero, List.set_cons_succ]
  refine tk 22 125 undef rfl rfl (by kernel_rfl) (by kernel_rfl) (by kernel_rfl) (fun _ _ _ h => h) (Or.inr ⟨by rfl, rfl⟩) hS ?_
  try simp only [Act.put, List.setIfInBounds_toArray, List.set_cons_zero, List.set_cons_succ]
  refine tk 23 126 undef rfl rfl (by kernel_rfl) (by kernel_rfl) (by kernel_rfl) (fun _ _ _ h => h) (Or.inr ⟨by rfl, rfl⟩) hS ?_
  refine tkE 24 127 (.bool false) (fun w' h' => ?_) hS ?_
  · go_simp
  try simp only [Act.put, List.setIfInBounds_toArray, List.set_cons_zero, List.set_cons_succ]
  refine tkE 25 128 (.bool false) (fun w' h' => ?_) hS ?_
  · go_simp
  refine wpAnyH_done (by kernel_rfl) ?_ _
  go_wp2_with fail
  refine Met.intro (hJ0 _ _ ?_)
  exact ⟨⟨rfl, rfl⟩, rfl, rfl, rfl, rfl, rfl, rfl, rfl, rfl, (Below.refl _ _).drew⟩

theorem y22b (wr : World) (gb nn : Nat) (vw : Option Addr) (nw cw : Nat) (vg : Option Addr) (ng cg t : Nat) (r1 : Nat) (p q : Ot) (n1 c1 : Nat) (i : Nat) (hi : i < n1) (ht : t ≤ 200) (HC : Hid (wr.cell? ⟨r1, i * 5, none⟩ = some (.int .u64 (7 + (t : Int))) ∧ wr.cell? ⟨r1, i * 5 + 1, none⟩ = some (.int .i64 (p.c : Int)) ∧ wr.cell? ⟨r1, (i - 1) * 5 + 1, none⟩ = some (.int .i64 (q.c : Int)))) (h0 : 0 < i) (hle : q.c ≤ p.c) (hn1 : n1 ≤ 1000000) (a : Act) (hf : Fr 183 a) (h9 : sl a 9 = .pointer (some ⟨gb, 0, none⟩)) (h12 : sl a 12 = .int .u64 (nn : Int)) (h13 : sl a 13 = .slice vw nw cw) (h14 : sl a 14 = .slice vg ng cg) (h15 : sl a 15 = .int .u64 (t : Int)) (h16 : sl a 16 = .slice (some ⟨r1, 0, none⟩) n1 c1) (h17 : sl a 17 = .int .i64 (i : Int)) :
    Code.wp Try.prog (cAt [1,1,1,1,1,1,1,1,1,0,1,2,2,1,0,2,1,0,1,2,2,1,0,2,0] KE) (Exit.then (fun a' w' => Fr 183 a' ∧ sl a' 9 = .pointer (some ⟨gb, 0, none⟩) ∧ sl a' 12 = .int .u64 (nn : Int) ∧ sl a' 13 = .slice vw nw cw ∧ sl a' 14 = .slice vg ng cg ∧ sl a' 15 = .int .u64 (t : Int) ∧ sl a' 16 = .slice (some ⟨r1, 0, none⟩) n1 c1 ∧ sl a' 17 = .int .i64 (i : Int) ∧ sl a' 128 = .bool false ∧ Below wr.heap.size wr w') Nope) a wr := by
  obtain ⟨f, ha, hs⟩ := frKE hf
  rw [(hs 9).trans h9, (hs 12).trans h12, (hs 13).trans h13, (hs 14).trans h14, (hs 15).trans h15, (hs 16).trans h16, (hs 17).trans h17] at ha
  clear hs hf h9 h12 h13 h14 h15 h16 h17
  subst ha
  refine piece2 fun J0 K0 hJ0 hK0 => ?_
  conv => arg 2; whnf
  have hi2 : (i : Int) < (n1 : Int) := by omega
  have hi0 : (0 : Int) ≤ (i : Int) := by omega
  have e1 : IntKind.u64.wrap (7 + (t : Int)) = 7 + t := by rw [IntKind.wrap_u64]; omega
  have e2 : IntKind.i64.wrap ((i : Int) - 1) = ((i - 1 : Nat) : Int) := by rw [IntKind.wrap_i64]; omega
  have hi3 : ((i - 1 : Nat) : Int) < (n1 : Int) := by omega
  have hi5 : (0 : Int) ≤ ((i - 1 : Nat) : Int) := by omega
  have hi4 : (0 : Int) < (i : Int) := by omega
  have hcc : ¬ (p.c : Int) < (q.c : Int) := by omega
  clear h0 hle
  refine wp_region_held_drew (S := fun w' => w'.cell? ⟨r1, i * 5, none⟩ = some (.int .u64 (7 + (t : Int))) ∧ w'.cell? ⟨r1, i * 5 + 1, none⟩ = some (.int .i64 (p.c : Int)) ∧ w'.cell? ⟨r1, (i - 1) * 5 + 1, none⟩ = some (.int .i64 (q.c : Int))) (by kernel_rfl) HC.out (fun hS => ?_)
  refine tkE 0 103 (.slice (some ⟨r1, 0, none⟩) n1 c1) (fun w' h' => ?_) hS ?_
  · go_simp
  refine tkE 1 104 (.int .i64 (i : Int)) (fun w' h' => ?_) hS ?_
  · go_simp
  try simp only [Act.put, List.setIfInBounds_toArray, List.set_cons_zero, List.set_cons_succ]
  refine tkE 2 105 (.pointer (some ⟨r1, i * 5, none⟩)) (fun w' h' => ?_) hS ?_
  · go_simp
  refine tkE 3 106 (.pointer (some ⟨r1, i * 5, none⟩)) (fun w' h' => ?_) hS ?_
  · go_simp
  try simp only [Act.put, List.setIfInBounds_toArray, List.set_cons_zero, List.set_cons_succ]
  refine tkE 4 107 (.int .u64 (7 + (t : Int))) (fun w' h' => ?_) hS ?_
  · have q1 := h'.1
    go_simp
  refine tkE 5 108 (.int .u64 (t : Int)) (fun w' h' => ?_) hS ?_
  · go_simp
  try simp only [Act.put, List.setIfInBounds_toArray, List.set_cons_zero, List.set_cons_succ]
  refine tkE 6 109 (.int .u64 (7 + (t : Int))) (fun w' h' => ?_) hS ?_
  · go_simp
  refine tkE 7 110 (.bool false) (fun w' h' => ?_) hS ?_
  · go_simp
  try simp only [Act.put, List.setIfInBounds_toArray, List.set_cons_zero, List.set_cons_succ]
  refine tkE 8 111 (.bool false) (fun w' h' => ?_) hS ?_
  · go_simp
  refine tkE 9 112 (.int .i64 (i : Int)) (fun w' h' => ?_) hS ?_
  · go_simp
  try simp only [Act.put, List.setIfInBounds_toArray, List.set_cons_zero, List.set_cons_succ]
  refine tkE 10 113 (.bool true) (fun w' h' => ?_) hS ?_
  · (go_simp; omega)
  refine tkE 11 114 (.bool true) (fun w' h' => ?_) hS ?_
  · go_simp
  try simp only [Act.put, List.setIfInBounds_toArray, List.set_cons_zero, List.set_cons_succ]
  refine tkE 12 115 (.slice (some ⟨r1, 0, none⟩) n1 c1) (fun w' h' => ?_) hS ?_
  · go_simp
  refine tkE 13 116 (.int .i64 (i : Int)) (fun w' h' => ?_) hS ?_
  · go_simp
  try simp only [Act.put, List.setIfInBounds_toArray, List.set_cons_zero, List.set_cons_succ]
  refine tkE 14 117 (.pointer (some ⟨r1, i * 5, none⟩)) (fun w' h' => ?_) hS ?_
  · go_simp
  refine tkE 15 118 (.pointer (some ⟨r1, i * 5 + 1, none⟩)) (fun w' h' => ?_) hS ?_
  · go_simp
  try simp only [Act.put, List.setIfInBounds_toArray, List.set_cons_zero, List.set_cons_succ]
  refine tkE 16 119 (.int .i64 (p.c : Int)) (fun w' h' => ?_) hS ?_
  · have q1 := h'.2.1
    go_simp
  refine tkE 17 120 (.slice (some ⟨r1, 0, none⟩) n1 c1) (fun w' h' => ?_) hS ?_
  · go_simp
  try simp only [Act.put, List.setIfInBounds_toArray, List.set_cons_zero, List.set_cons_succ]
  refine tkE 18 121 (.int .i64 (i : Int)) (fun w' h' => ?_) hS ?_
  · go_simp
  refine tkE 19 122 (.int .i64 ((i - 1 : Nat) : Int)) (fun w' h' => ?_) hS ?_
  · go_simp
  try simp only [Act.put, List.setIfInBounds_toArray, List.set_cons_zero, List.set_cons_succ]
  refine tkE 20 123 (.pointer (some ⟨r1, (i - 1) * 5, none⟩)) (fun w' h' => ?_) hS ?_
  · go_simp
  refine tkE 21 124 (.pointer (some ⟨r1, (i - 1) * 5 + 1, none⟩)) (fun w' h' => ?_) hS ?_
  · go_simp
  try simp only [Act.put, List.setIfInBounds_toArray, List.set_cons_zero, List.set_cons_succ]
  refine tkE 22 125 (.int .i64 (q.c : Int)) (fun w' h' => ?_) hS ?_
  · have q1 := h'.2.2
    go_simp
  refine tkE 23 126 (.bool false) (fun w' h' => ?_) hS ?_
  · go_simp
  try simp only [Act.put, List.setIfInBounds_toArray, List.set_cons_zero, List.set_cons_succ]
  refine tkE 24 127 (.bool false) (fun w' h' => ?_) hS ?_
  · go_simp
  refine tkE 25 128 (.bool false) (fun w' h' => ?_) hS ?_
  · go_simp
  refine wpAnyH_done (by kernel_rfl) ?_ _
  go_wp2_with fail
  refine Met.intro (hJ0 _ _ ?_)
  exact ⟨⟨rfl, rfl⟩, rfl, rfl, rfl, rfl, rfl, rfl, rfl, rfl, (Below.refl _ _).drew⟩

theorem y24 (w wr : World) (gb nn : Nat) (vw : Option Addr) (nw cw : Nat) (vg : Option Addr) (ng cg t : Nat) (sb : Sh) (N : Int) (bw bg : Nat) (yw yg : List Po) (v1 : Option Addr) (n1 c1 : Nat) (y1 : List Po) (B1 : Nat) (HE : Hid (E2 w wr gb sb N bw bg vw nw cw yw vg ng cg yg)) (HO : Hid (Ops wr B1 v1 n1 c1 y1 ∧ bg ≤ B1)) (HAP : Hid (∀ o ∈ yg, ∀ p ∈ y1, ∀ k, blk o.y.a = some k → blk p.y.a ≠ some k)) (hn : ng + n1 ≤ 1000000) (a : Act) (hf : Fr 183 a) (h9 : sl a 9 = .pointer (some ⟨gb, 0, none⟩)) (h12 : sl a 12 = .int .u64 (nn : Int)) (h13 : sl a 13 = .slice vw nw cw) (h14 : sl a 14 = .slice vg ng cg) (h15 : sl a 15 = .int .u64 (t : Int)) (h16 : sl a 16 = .slice v1 n1 c1) :
    Code.wp Try.prog (cAt [1,1,1,1,1,1,1,1,1,0,1,2,2,1,0,2,1,1] KE) (Exit.then (fun a' w' => ∃ v2 n2 c3, Fr 183 a' ∧ sl a' 9 = .pointer (some ⟨gb, 0, none⟩) ∧ sl a' 12 = .int .u64 (nn : Int) ∧ sl a' 13 = .slice vw nw cw ∧ sl a' 14 = .slice v2 n2 c3 ∧ sl a' 15 = .int .u64 (t : Int) ∧ E2 w w' gb sb N bw bg vw nw cw yw v2 n2 c3 (yg ++ y1) ∧ n2 = ng + n1 ∧ ∀ k, blk v2 = some k → blk vg = some k ∨ wr.heap.size ≤ k) Nope) a wr := by
  obtain ⟨f, ha, hs⟩ := frKE hf
  rw [(hs 9).trans h9, (hs 12).trans h12, (hs 13).trans h13, (hs 14).trans h14, (hs 15).trans h15, (hs 16).trans h16] at ha
  clear hs hf h9 h12 h13 h14 h15 h16
  subst ha
  refine piece2 fun J0 K0 hJ0 hK0 => ?_
  conv => arg 2; whnf
  obtain ⟨v2, c3, w2, hrun, hops, hk, hv⟩ := HE.out.got.cat HO.out.1 HO.out.2 HE.out.ord.2.2 HAP.out hn
  have H1 : Hid (E2 w w2 gb sb N bw bg vw nw cw yw v2 (ng + n1) c3 (yg ++ y1) ∧ ng + n1 = ng + n1 ∧ ∀ k, blk v2 = some k → blk vg = some k ∨ wr.heap.size ≤ k) := ⟨HE.out.cat hops hk, rfl, hv⟩
  have HRUN := Lib.hid hrun
  clear hrun hops hk hv
  go_wp2_with (at_builtin; first | (refine Lib.wpList_append_run _ rfl (.tmp 129) (.tmp 130) _ _ rfl _ _ rfl rfl _ _ HRUN.out ?_) | fail)
  refine Met.intro (hJ0 _ _ ?_)
  exact ⟨v2, _, c3, ⟨rfl, rfl⟩, rfl, rfl, rfl, rfl, rfl, H1.out.1, rfl, H1.out.2.2⟩

theorem y25 (wr : World) (vw : Option Addr) (nw cw : Nat) (vg : Option Addr) (ng cg : Nat) (he : ng = nw) (a : Act) (hf : Fr 183 a) (h13 : sl a 13 = .slice vw nw cw) (h14 : sl a 14 = .slice vg ng cg) :
    Code.wp Try.prog (cAt [1,1,1,1,1,1,1,1,1,1,0,0] KE) (Exit.then (fun a' w' => Fr 183 a' ∧ sl a' 13 = .slice vw nw cw ∧ sl a' 14 = .slice vg ng cg ∧ sl a' 136 = .bool false ∧ wr = w') Nope) a wr := by
  obtain ⟨f, ha, hs⟩ := frKE hf
  rw [(hs 13).trans h13, (hs 14).trans h14] at ha
  clear hs hf h13 h14
  subst ha
  refine piece2 fun J0 K0 hJ0 hK0 => ?_
  conv => arg 2; whnf
  subst he
  go_wp2_with fail
  refine Met.intro (hJ0 _ _ ?_)
  exact ⟨⟨rfl, rfl⟩, rfl, rfl, rfl, rfl⟩

theorem y27 (wr : World) (vw : Option Addr) (nw cw : Nat) (vg : Option Addr) (ng cg : Nat) (a : Act) (hf : Fr 183 a) (h13 : sl a 13 = .slice vw nw cw) (h14 : sl a 14 = .slice vg ng cg) :
    Code.wp Try.prog (cAt [1,1,1,1,1,1,1,1,1,1,1,0,0] KE) (Exit.then (fun a' w' => Fr 183 a' ∧ sl a' 13 = .slice vw nw cw ∧ sl a' 14 = .slice vg ng cg ∧ sl a' 18 = .int .i64 0 ∧ wr = w') Nope) a wr := by
  obtain ⟨f, ha, hs⟩ := frKE hf
  rw [(hs 13).trans h13, (hs 14).trans h14] at ha
  clear hs hf h13 h14
  subst ha
  refine piece2 fun J0 K0 hJ0 hK0 => ?_
  conv => arg 2; whnf
  go_wp2_with fail
  refine Met.intro (hJ0 _ _ ?_)
  exact ⟨⟨rfl, rfl⟩, rfl, rfl, rfl, rfl⟩

theorem y28 (wr : World) (vw : Option Addr) (nw cw : Nat) (vg : Option Addr) (ng cg : Nat) (i : Nat) (hi : i < ng) (a : Act) (hf : Fr 183 a) (h13 : sl a 13 = .slice vw nw cw) (h14 : sl a 14 = .slice vg ng cg) (h18 : sl a 18 = .int .i64 (i : Int)) :
    Code.wp Try.prog (cAt [1,1,1,1,1,1,1,1,1,1,1,0,1,2,2,0] KE) (Exit.then (fun a' w' => Fr 183 a' ∧ sl a' 13 = .slice vw nw cw ∧ sl a' 14 = .slice vg ng cg ∧ sl a' 18 = .int .i64 (i : Int) ∧ wr = w') Nope) a wr := by
  obtain ⟨f, ha, hs⟩ := frKE hf
  rw [(hs 13).trans h13, (hs 14).trans h14, (hs 18).trans h18] at ha
  clear hs hf h13 h14 h18
  subst ha
  refine piece2 fun J0 K0 hJ0 hK0 => ?_
  conv => arg 2; whnf
  have hi2 : (i : Int) < (ng : Int) := by omega
  go_wp2_with fail
  refine Met.intro (hJ0 _ _ ?_)
  exact ⟨⟨rfl, rfl⟩, rfl, rfl, rfl, rfl⟩

theorem y28x (wr : World) (vw : Option Addr) (nw cw : Nat) (vg : Option Addr) (ng cg : Nat) (i : Nat) (hi : ¬ i < ng) (a : Act) (hf : Fr 183 a) (h13 : sl a 13 = .slice vw nw cw) (h14 : sl a 14 = .slice vg ng cg) (h18 : sl a 18 = .int .i64 (i : Int)) :
    Code.wp Try.prog (cAt [1,1,1,1,1,1,1,1,1,1,1,0,1,2,2] KE) (Outs 6 (fun a' w' => Fr 183 a' ∧ wr = w')) a wr := by
  obtain ⟨f, ha, hs⟩ := frKE hf
  rw [(hs 13).trans h13, (hs 14).trans h14, (hs 18).trans h18] at ha
  clear hs hf h13 h14 h18
  subst ha
  conv => arg 2; whnf
  go_wp2_with fail
  exact ⟨rfl, ⟨rfl, rfl⟩, rfl⟩

theorem y29 (wr : World) (vw : Option Addr) (nw cw : Nat) (vg : Option Addr) (ng cg : Nat) (i : Nat) (hi : i < 1000000) (a : Act) (hf : Fr 183 a) (h13 : sl a 13 = .slice vw nw cw) (h14 : sl a 14 = .slice vg ng cg) (h18 : sl a 18 = .int .i64 (i : Int)) :
    Code.wp Try.prog (cAt [1,1,1,1,1,1,1,1,1,1,1,0,1,2,2,1,1] KE) (Exit.then (fun a' w' => Fr 183 a' ∧ sl a' 13 = .slice vw nw cw ∧ sl a' 14 = .slice vg ng cg ∧ sl a' 18 = .int .i64 ((i : Int) + 1) ∧ wr = w') Nope) a wr := by
  obtain ⟨f, ha, hs⟩ := frKE hf
  rw [(hs 13).trans h13, (hs 14).trans h14, (hs 18).trans h18] at ha
  clear hs hf h13 h14 h18
  subst ha
  refine piece2 fun J0 K0 hJ0 hK0 => ?_
  conv => arg 2; whnf
  have hw : IntKind.i64.wrap ((i : Int) + 1) = (i : Int) + 1 := by rw [IntKind.wrap_i64]; omega
  go_wp2_with fail
  refine Met.intro (hJ0 _ _ ?_)
  exact ⟨⟨rfl, rfl⟩, rfl, rfl, rfl, rfl⟩

theorem y30 (wr : World) (rw nw cw rg ng cg i : Nat) (p q : Po) (hi : i < ng) (hi3' : i < nw) (HG : Hid (wr.rangeAt rg (i * 5) p.cs ∧ wr.rangeAt rw (i * 5) q.cs)) (HPQ : Hid (p.ot = q.ot)) (HAT : Hid (p.y.at_ wr ∧ q.y.at_ wr)) (a : Act) (hf : Fr 183 a) (h13 : sl a 13 = .slice (some ⟨rw, 0, none⟩) nw cw) (h14 : sl a 14 = .slice (some ⟨rg, 0, none⟩) ng cg) (h18 : sl a 18 = .int .i64 (i : Int)) :
    Code.wp Try.prog (cAt [1,1,1,1,1,1,1,1,1,1,1,0,1,2,2,1,0,2,0] KE) (Exit.then (fun a' w' => Fr 183 a' ∧ sl a' 13 = .slice (some ⟨rw, 0, none⟩) nw cw ∧ sl a' 14 = .slice (some ⟨rg, 0, none⟩) ng cg ∧ sl a' 18 = .int .i64 (i : Int) ∧ sl a' 181 = .bool false ∧ Below wr.heap.size wr w') Nope) a wr := by
  obtain ⟨f, ha, hs⟩ := frKE hf
  rw [(hs 13).trans h13, (hs 14).trans h14, (hs 18).trans h18] at ha
  clear hs hf h13 h14 h18
  subst ha
  refine piece2 fun J0 K0 hJ0 hK0 => ?_
  conv => arg 2; whnf
  obtain ⟨pt, pc, ⟨no, sz, xa, xn, xc, xd⟩⟩ := p
  obtain ⟨qt, qc, ⟨no2, sz2, xa2, xn2, xc2, xd2⟩⟩ := q
  have hpq := HPQ.out
  simp only [Po.ot, Pi.it, Ot.mk.injEq, It.mk.injEq] at hpq
  obtain ⟨rfl, rfl, rfl, rfl, rfl⟩ := hpq
  have hi2 : (i : Int) < (ng : Int) := by omega
  have hi3 : (i : Int) < (nw : Int) := by omega
  have hi0 : (0 : Int) ≤ (i : Int) := by omega
  obtain ⟨TT, hT⟩ : ∃ z, str xd = z := ⟨_, rfl⟩
  have HT := Lib.hid hT
  have hbd : Below wr.heap.size wr wr.drew := (Below.refl _ _).drew
  have HA : Hid (Pi.at_ ⟨no, sz, xa, xn, xc, xd⟩ wr.drew ∧ Pi.at_ ⟨no, sz, xa2, xn2, xc2, xd⟩ wr.drew ∧ Below wr.heap.size wr wr.drew) := ⟨HAT.out.1.below hbd, HAT.out.2.below hbd, hbd⟩
  have HS : Hid (World.rangeAt wr.drew rg (i * 5) (Po.cs ⟨pt, pc, ⟨no, sz, xa, xn, xc, xd⟩⟩) ∧ World.rangeAt wr.drew rw (i * 5) (Po.cs ⟨pt, pc, ⟨no, sz, xa2, xn2, xc2, xd⟩⟩)) := ⟨range_kept hbd HG.out.1, range_kept hbd HG.out.2⟩
  clear hbd hT
  go_wp2_with fail
  refine wp_region_held_drew (S := fun w' => World.rangeAt w' rg (i * 5) (Po.cs ⟨pt, pc, ⟨no, sz, xa, xn, xc, xd⟩⟩) ∧ World.rangeAt w' rw (i * 5) (Po.cs ⟨pt, pc, ⟨no, sz, xa2, xn2, xc2, xd⟩⟩)) (by kernel_rfl) HS.out (fun hS => ?_)
  refine tkE 0 143 (.slice (some ⟨rg, 0, none⟩) ng cg) (fun w' h' => ?_) hS ?_
  · go_simp
  try simp only [Act.put, List.setIfInBounds_toArray, List.set_cons_zero, List.set_cons_succ]
  refine tkE 1 144 (.int .i64 (i : Int)) (fun w' h' => ?_) hS ?_
  · go_simp
  refine tkE 2 145 (.pointer (some ⟨rg, i * 5, none⟩)) (fun w' h' => ?_) hS ?_
  · go_simp
  try simp only [Act.put, List.setIfInBounds_toArray, List.set_cons_zero, List.set_cons_succ]
  refine tkE 3 146 (.pointer (some ⟨rg, i * 5, none⟩)) (fun w' h' => ?_) hS ?_
  · go_simp
  refine tkE 4 147 (.int .u64 pt) (fun w' h' => ?_) hS ?_
  · have q1 : w'.cell? ⟨rg, i * 5, none⟩ = some (.int .u64 pt) := h'.1 0 _ rfl
    go_simp
  try simp only [Act.put, List.setIfInBounds_toArray, List.set_cons_zero, List.set_cons_succ]
  refine tkE 5 148 (.slice (some ⟨rw, 0, none⟩) nw cw) (fun w' h' => ?_) hS ?_
  · go_simp
  refine tkE 6 149 (.int .i64 (i : Int)) (fun w' h' => ?_) hS ?_
  · go_simp
  try simp only [Act.put, List.setIfInBounds_toArray, List.set_cons_zero, List.set_cons_succ]
  refine tkE 7 150 (.pointer (some ⟨rw, i * 5, none⟩)) (fun w' h' => ?_) hS ?_
  · go_simp
  refine tkE 8 151 (.pointer (some ⟨rw, i * 5, none⟩)) (fun w' h' => ?_) hS ?_
  · go_simp
  try simp only [Act.put, List.setIfInBounds_toArray, List.set_cons_zero, List.set_cons_succ]
  refine tkE 9 152 (.int .u64 pt) (fun w' h' => ?_) hS ?_
  · have q1 : w'.cell? ⟨rw, i * 5, none⟩ = some (.int .u64 pt) := h'.2 0 _ rfl
    go_simp
  refine tkE 10 153 (.bool false) (fun w' h' => ?_) hS ?_
  · go_simp
  try simp only [Act.put, List.setIfInBounds_toArray, List.set_cons_zero, List.set_cons_succ]
  refine tkE 11 154 (.bool false) (fun w' h' => ?_) hS ?_
  · go_simp
  refine tkE 12 155 (.slice (some ⟨rg, 0, none⟩) ng cg) (fun w' h' => ?_) hS ?_
  · go_simp
  try simp only [Act.put, List.setIfInBounds_toArray, List.set_cons_zero, List.set_cons_succ]
  refine tkE 13 156 (.int .i64 (i : Int)) (fun w' h' => ?_) hS ?_
  · go_simp
  refine tkE 14 157 (.pointer (some ⟨rg, i * 5, none⟩)) (fun w' h' => ?_) hS ?_
  · go_simp
  try simp only [Act.put, List.setIfInBounds_toArray, List.set_cons_zero, List.set_cons_succ]
  refine tkE 15 158 (.pointer (some ⟨rg, i * 5 + 1, none⟩)) (fun w' h' => ?_) hS ?_
  · go_simp
  refine tkE 16 159 (.int .i64 (pc : Int)) (fun w' h' => ?_) hS ?_
  · have q1 : w'.cell? ⟨rg, i * 5 + 1, none⟩ = some (.int .i64 (pc : Int)) := h'.1 1 _ rfl
    go_simp
  try simp only [Act.put, List.setIfInBounds_toArray, List.set_cons_zero, List.set_cons_succ]
  refine tkE 17 160 (.slice (some ⟨rw, 0, none⟩) nw cw) (fun w' h' => ?_) hS ?_
  · go_simp
  refine tkE 18 161 (.int .i64 (i : Int)) (fun w' h' => ?_) hS ?_
  · go_simp
  try simp only [Act.put, List.setIfInBounds_toArray, List.set_cons_zero, List.set_cons_succ]
  refine tkE 19 162 (.pointer (some ⟨rw, i * 5, none⟩)) (fun w' h' => ?_) hS ?_
  · go_simp
  refine tkE 20 163 (.pointer (some ⟨rw, i * 5 + 1, none⟩)) (fun w' h' => ?_) hS ?_
  · go_simp
  try simp only [Act.put, List.setIfInBounds_toArray, List.set_cons_zero, List.set_cons_succ]
  refine tkE 21 164 (.int .i64 (pc : Int)) (fun w' h' => ?_) hS ?_
  · have q1 : w'.cell? ⟨rw, i * 5 + 1, none⟩ = some (.int .i64 (pc : Int)) := h'.2 1 _ rfl
    go_simp
  refine tkE 22 165 (.bool false) (fun w' h' => ?_) hS ?_
  · go_simp
  try simp only [Act.put, List.setIfInBounds_toArray, List.set_cons_zero, List.set_cons_succ]
  refine tkE 23 166 (.bool false) (fun w' h' => ?_) hS ?_
  · go_simp
  refine tkE 24 167 (.bool false) (fun w' h' => ?_) hS ?_
  · go_simp
  try simp only [Act.put, List.setIfInBounds_toArray, List.set_cons_zero, List.set_cons_succ]
  refine tkE 25 168 (.slice (some ⟨rg, 0, none⟩) ng cg) (fun w' h' => ?_) hS ?_
  · go_simp
  refine tkE 26 169 (.int .i64 (i : Int)) (fun w' h' => ?_) hS ?_
  · go_simp
  try simp only [Act.put, List.setIfInBounds_toArray, List.set_cons_zero, List.set_cons_succ]
  refine tkE 27 170 (.pointer (some ⟨rg, i * 5, none⟩)) (fun w' h' => ?_) hS ?_
  · go_simp
  refine tkE 28 171 (.pointer (some ⟨rg, i * 5 + 2, none⟩)) (fun w' h' => ?_) hS ?_
  · go_simp
  try simp only [Act.put, List.setIfInBounds_toArray, List.set_cons_zero, List.set_cons_succ]
  refine tkE 29 172 (.agg #[.int .u64 no, .int .i64 sz, .slice xa xn xc]) (fun w' h' => ?_) hS ?_
  · have q2 : w'.cell? ⟨rg, i * 5 + 2, none⟩ = some (.int .u64 no) := h'.1 2 _ rfl
    have q3 : w'.cell? ⟨rg, i * 5 + 2 + 1, none⟩ = some (.int .i64 sz) := h'.1 3 _ rfl
    have q4 : w'.cell? ⟨rg, i * 5 + 2 + 2, none⟩ = some (.slice xa xn xc) := h'.1 4 _ rfl
    go_simp
  refine tkE 31 174 (.slice (some ⟨rw, 0, none⟩) nw cw) (fun w' h' => ?_) hS ?_
  · go_simp
  try simp only [Act.put, List.setIfInBounds_toArray, List.set_cons_zero, List.set_cons_succ]
  refine tkE 32 175 (.int .i64 (i : Int)) (fun w' h' => ?_) hS ?_
  · go_simp
  refine tkE 33 176 (.pointer (some ⟨rw, i * 5, none⟩)) (fun w' h' => ?_) hS ?_
  · go_simp
  try simp only [Act.put, List.setIfInBounds_toArray, List.set_cons_zero, List.set_cons_succ]
  refine tkE 34 177 (.pointer (some ⟨rw, i * 5 + 2, none⟩)) (fun w' h' => ?_) hS ?_
  · go_simp
  refine tkE 35 178 (.agg #[.int .u64 no, .int .i64 sz, .slice xa2 xn2 xc2]) (fun w' h' => ?_) hS ?_
  · have q2 : w'.cell? ⟨rw, i * 5 + 2, none⟩ = some (.int .u64 no) := h'.2 2 _ rfl
    have q3 : w'.cell? ⟨rw, i * 5 + 2 + 1, none⟩ = some (.int .i64 sz) := h'.2 3 _ rfl
    have q4 : w'.cell? ⟨rw, i * 5 + 2 + 2, none⟩ = some (.slice xa2 xn2 xc2) := h'.2 4 _ rfl
    go_simp
  try simp only [Act.put, List.setIfInBounds_toArray, List.set_cons_zero, List.set_cons_succ]
  refine wpAnyH_ready (rs := [30]) (by kernel_rfl) (by simp) (AllReadyH.cons rfl (fun K hK => ?_) AllReadyH.nil)
  rw [if_pos (by rfl)]
  go_wp2_with fail
  refine (item_any _ _ HA.out.1).mono ?_
  rintro e w30 ⟨rfl, hb1⟩
  rw [show It.v (Pi.it ⟨no, sz, _, _, _, xd⟩) = .agg #[.int .u64 no, .int .i64 sz, .string (str xd)] from rfl, HT.out]
  have HA1 : Hid (Pi.at_ ⟨no, sz, xa2, xn2, xc2, xd⟩ w30 ∧ Below wr.heap.size wr w30) := ⟨HA.out.2.1.below hb1, HA.out.2.2.trans hb1⟩
  have HS1 : Hid (World.rangeAt w30 rg (i * 5) (Po.cs ⟨pt, pc, ⟨no, sz, xa, xn, xc, xd⟩⟩) ∧ World.rangeAt w30 rw (i * 5) (Po.cs ⟨pt, pc, ⟨no, sz, xa2, xn2, xc2, xd⟩⟩)) := ⟨range_kept hb1 HS.out.1, range_kept hb1 HS.out.2⟩
  clear hb1 HS
  clear hS
  refine hK.out _ _ (HS1.out) (fun hS => ?_)
  clear hK K
  try simp only [Act.put, List.setIfInBounds_toArray, List.set_cons_zero, List.set_cons_succ]
  refine wpAnyH_ready (rs := [36]) (by kernel_rfl) (by simp) (AllReadyH.cons rfl (fun K hK => ?_) AllReadyH.nil)
  rw [if_pos (by rfl)]
  go_wp2_with fail
  refine (item_any _ _ HA1.out.1).mono ?_
  rintro e w36 ⟨rfl, hb1⟩
  rw [show It.v (Pi.it ⟨no, sz, _, _, _, xd⟩) = .agg #[.int .u64 no, .int .i64 sz, .string (str xd)] from rfl, HT.out]
  have HA2 : Hid (Below wr.heap.size wr w36) := HA1.out.2.trans (hb1.mono HA1.out.2.size)
  have HS2 : Hid (World.rangeAt w36 rg (i * 5) (Po.cs ⟨pt, pc, ⟨no, sz, xa, xn, xc, xd⟩⟩) ∧ World.rangeAt w36 rw (i * 5) (Po.cs ⟨pt, pc, ⟨no, sz, xa2, xn2, xc2, xd⟩⟩)) := ⟨range_kept hb1 HS1.out.1, range_kept hb1 HS1.out.2⟩
  clear hb1 HS1
  clear hS
  refine hK.out _ _ (HS2.out) (fun hS => ?_)
  clear hK K
  refine tkE 37 180 (.bool false) (fun w' h' => ?_) hS ?_
  · go_simp
  try simp only [Act.put, List.setIfInBounds_toArray, List.set_cons_zero, List.set_cons_succ]
  refine tkE 38 181 (.bool false) (fun w' h' => ?_) hS ?_
  · go_simp
  refine wpAnyH_done (by kernel_rfl) ?_ _
  go_wp2_with fail
  refine Met.intro (hJ0 _ _ ?_)
  exact ⟨⟨rfl, rfl⟩, rfl, rfl, rfl, rfl, HA2.out⟩

theorem y32 (w wr : World) (hb : Below w.heap.size w wr) (a : Act) (hf : Fr 183 a)  :
    Code.wp Try.prog (cAt [1,1,1,1,1,1,1,1,1,1,1,1] KE) (bodyPost Try.prog Try.f5 (Yes w)) a wr := by
  have HB := Lib.hid hb
  clear hb
  obtain ⟨f, ha, hs⟩ := frKE hf
  clear hs hf 
  subst ha
  conv => arg 2; whnf
  go_wp2_with fail
  refine (works12_any wr).mono ?_
  rintro e w1 ⟨rfl, hb1⟩
  have HF : Hid (Below w.heap.size w w1) := HB.out.trans (hb1.mono HB.out.size)
  clear hb1
  go_wp2_with fail
  first | exact ⟨rfl, HF.out⟩ | (go_ret; exact ⟨rfl, HF.out⟩)

end Go.Proofs.Ytpigpeehhadkjaa

namespace Go.Proofs.Ytpigpeehhadkjaa
open Go.RowKit Bkt
set_option maxRecDepth 100000
set_option maxHeartbeats 4000000

theorem Acr.cell {w : World} {yb yo : Nat} {m : Nat} {l : List Ac} (h : Acr w (some ⟨yb, yo, none⟩) m l) {i : Nat} {y : Ac} (hy : l[i]? = some y) : w.rangeAt yb (yo + i * 6) y.cs := by
  obtain ⟨b, o, e, hc⟩ := h.cells (by intro e; rw [e] at hy; simp at hy)
  simp only [Option.some.injEq, Addr.mk.injEq, and_true] at e
  obtain ⟨rfl, rfl⟩ := e
  exact hc i y hy
theorem wp_onTs {P : Program} {c A B : Code} {Q : Exit → Act → World → Prop} {a : Act} {w : World} {i : Nat} (hc : c = .cond (.tmp i) A B) (hA : A = .skip) (h : sl a i = .bool true) (hq : Q .normal a w) : c.wp P Q a w := wp_onT hc h (wp_skipR hA hq)

/-- The offers. -/
theorem early_offers (w wr : World) (ya : Option Addr) (m c2 : Nat) (tv : Int) (l : List Ac) (hl : Acr w ya m l) (hfew : Few 12 l) (ga gb : Nat) (sa sb : Sh) (HE : E1 w wr ga gb sa sb 0) (a : Act) (hf : Fr 183 a) (h1 : sl a 1 = .slice ya m c2) (h2 : sl a 2 = .int .u8 tv) (h7 : sl a 7 = .pointer (some ⟨ga, 0, none⟩)) (h9 : sl a 9 = .pointer (some ⟨gb, 0, none⟩)) :
    Code.wp Try.prog (cAt [1,1,1,1,1,0] KE) (Exit.then (fun a' w' => ∃ sa sb, E1 w w' ga gb sa sb 24 ∧ Fr 183 a' ∧ sl a' 1 = .slice ya m c2 ∧ sl a' 2 = .int .u8 tv ∧ sl a' 7 = .pointer (some ⟨ga, 0, none⟩) ∧ sl a' 9 = .pointer (some ⟨gb, 0, none⟩)) Nope) a wr := by
  have hm12 : m ≤ 12 := by rw [← hl.len]; exact hfew.1
  refine tkEq (y7 wr ya m c2 tv ga gb a hf h1 h2 h7 h9) ?_
  rintro a1 _ ⟨hf, h1, h2, h7, h9, h11, rfl⟩
  refine wp_blockR (x := cAt [1,1,1,1,1,0,1,2] KE) (id := 0) (by kernel_rfl) ?_
  refine wp_loopR (x := cAt [1,1,1,1,1,0,1,2,2] KE) (by kernel_rfl) (fun a' w' => ∃ (i : Nat) (sa sb : Sh), i ≤ m ∧ E1 w w' ga gb sa sb (2 * (i : Int)) ∧ Fr 183 a' ∧ sl a' 1 = .slice ya m c2 ∧ sl a' 2 = .int .u8 tv ∧ sl a' 7 = .pointer (some ⟨ga, 0, none⟩) ∧ sl a' 9 = .pointer (some ⟨gb, 0, none⟩) ∧ sl a' 11 = .int .i64 (i : Int)) (fun a' _ => m - (intOf (sl a' 11)).toNat) ⟨0, sa, sb, Nat.zero_le _, HE, hf, h1, h2, h7, h9, h11⟩ ?_
  rintro a2 w2 ⟨i, sa, sb, hi, HE, hf, h1, h2, h7, h9, h11⟩
  by_cases hlt : i < m
  · refine tkEq (y8 w2 ya m c2 tv ga gb i hlt a2 hf h1 h2 h7 h9 h11) ?_
    rintro a3 _ ⟨hf, h1, h2, h7, h9, h11', rfl⟩
    obtain ⟨y, yb, yo, hy, hyok, hya, hrg⟩ := hl.nth hlt
    have hy20 := hfew.2 y (List.mem_of_getElem? hy)
    rw [hya] at h1
    refine tkEq (R := fun a' w' => ∃ sa sb, E1 w w' ga gb sa sb (2 * (i : Int) + 2) ∧ Fr 183 a' ∧ sl a' 1 = .slice ya m c2 ∧ sl a' 2 = .int .u8 tv ∧ sl a' 7 = .pointer (some ⟨ga, 0, none⟩) ∧ sl a' 9 = .pointer (some ⟨gb, 0, none⟩) ∧ sl a' 11 = .int .i64 (i : Int)) ?_ ?_
    · refine wp_blockR (x := cAt [1,1,1,1,1,0,1,2,2,1,0,2] KE) (id := 1) (by kernel_rfl) ?_
      refine tkEq (y10 w w2 yb yo m c2 tv ga gb i sa sb _ y HE (range_kept HE.l2.a.below hrg) hrg hyok hy20 (show (_ : Int) < _ by omega) hlt a3 hf h1 h2 h7 h9 h11') ?_
      rintro a4 w4 ⟨sa', sb', hf, h1, h2, h7, h9, h11', h80, HE'⟩
      refine wp_onF (A := cAt [1,1,1,1,1,0,1,2,2,1,0,2,1,3] KE) (B := cAt [1,1,1,1,1,0,1,2,2,1,0,2,1,4] KE) (by kernel_rfl) h80 ?_
      refine wp_skipR (by kernel_rfl) ?_
      rw [← hya] at h1
      exact ⟨sa', sb', HE', hf, h1, h2, h7, h9, h11'⟩
    rintro a4 w4 ⟨sa', sb', HE', hf, h1, h2, h7, h9, h11'⟩
    refine wp_endR (y9 w4 ya m c2 tv ga gb i (by omega) a4 hf h1 h2 h7 h9 h11') ?_
    rintro a5 _ ⟨hf, h1, h2, h7, h9, h11'', rfl⟩
    refine ⟨⟨i + 1, sa', sb', hlt, ?_, hf, h1, h2, h7, h9, by rw [h11'']; rfl⟩, ?_⟩
    · rw [show 2 * ((i + 1 : Nat) : Int) = 2 * (i : Int) + 2 by omega]; exact HE'
    · rw [h11, h11'']
      simp only [intOf]
      omega
  · refine wp_endX (y8x w2 ya m c2 tv ga gb i hlt a2 hf h1 h2 h7 h9 h11) ?_
    rintro a3 _ ⟨hf, h1, h2, h7, h9, rfl⟩
    refine thru ?_
    have hl2 := HE.l2
    refine ⟨sa, sb, ⟨⟨⟨hl2.a.sw, hl2.a.n1, hl2.a.below, hl2.a.db.more (by omega), hl2.a.bT, hl2.a.T0, hl2.a.T1, by omega⟩, ⟨hl2.b.sw, hl2.b.n1, hl2.b.below, hl2.b.db.more (by omega), hl2.b.bT, hl2.b.T0, hl2.b.T1, by omega⟩, hl2.dis⟩, HE.ta, HE.tb, HE.ab⟩, hf, h1, h2, h7, h9⟩

/-- One tick's items: each at that tick, the classes rise. -/
theorem early_one (wr : World) (gb nn : Nat) (vw : Option Addr) (nw cw : Nat) (vg : Option Addr) (ng cg t : Nat) (v1 : Option Addr) (n1 c1 : Nat) (y1 : List Po) (B1 : Nat) (ht : t ≤ 200) (HO : Ops wr B1 v1 n1 c1 y1) (hn1 : n1 ≤ 1000000)
    (hat : ∀ x ∈ y1.map Po.ot, x.t = 7 + (t : Int)) (hris : ∀ (i : Nat) (x y : Ot), (y1.map Po.ot)[i]? = some x → (y1.map Po.ot)[i + 1]? = some y → x.c ≤ y.c) (a : Act) (hf : Fr 183 a) (h9 : sl a 9 = .pointer (some ⟨gb, 0, none⟩)) (h12 : sl a 12 = .int .u64 (nn : Int)) (h13 : sl a 13 = .slice vw nw cw) (h14 : sl a 14 = .slice vg ng cg) (h15 : sl a 15 = .int .u64 (t : Int)) (h16 : sl a 16 = .slice v1 n1 c1) :
    Code.wp Try.prog (cAt [1,1,1,1,1,1,1,1,1,0,1,2,2,1,0,2,1,0] KE) (Exit.then (fun a' w' => Below wr.heap.size wr w' ∧ Fr 183 a' ∧ sl a' 9 = .pointer (some ⟨gb, 0, none⟩) ∧ sl a' 12 = .int .u64 (nn : Int) ∧ sl a' 13 = .slice vw nw cw ∧ sl a' 14 = .slice vg ng cg ∧ sl a' 15 = .int .u64 (t : Int) ∧ sl a' 16 = .slice v1 n1 c1) Nope) a wr := by
  refine tkEq (y19 wr gb nn vw nw cw vg ng cg t v1 n1 c1 a hf h9 h12 h13 h14 h15 h16) ?_
  rintro a1 _ ⟨hf, h9, h12, h13, h14, h15, h16, h17, rfl⟩
  refine wp_blockR (x := cAt [1,1,1,1,1,1,1,1,1,0,1,2,2,1,0,2,1,0,1,2] KE) (id := 4) (by kernel_rfl) ?_
  refine wp_loopR (x := cAt [1,1,1,1,1,1,1,1,1,0,1,2,2,1,0,2,1,0,1,2,2] KE) (by kernel_rfl) (fun a' w' => ∃ i : Nat, i ≤ n1 ∧ Below wr.heap.size wr w' ∧ Fr 183 a' ∧ sl a' 9 = .pointer (some ⟨gb, 0, none⟩) ∧ sl a' 12 = .int .u64 (nn : Int) ∧ sl a' 13 = .slice vw nw cw ∧ sl a' 14 = .slice vg ng cg ∧ sl a' 15 = .int .u64 (t : Int) ∧ sl a' 16 = .slice v1 n1 c1 ∧ sl a' 17 = .int .i64 (i : Int)) (fun a' _ => n1 - (intOf (sl a' 17)).toNat) ⟨0, Nat.zero_le _, Below.refl _ _, hf, h9, h12, h13, h14, h15, h16, h17⟩ ?_
  rintro a2 w2 ⟨i, hi, hb, hf, h9, h12, h13, h14, h15, h16, h17⟩
  by_cases hlt : i < n1
  · refine tkEq (y20 w2 gb nn vw nw cw vg ng cg t v1 n1 c1 i hlt a2 hf h9 h12 h13 h14 h15 h16 h17) ?_
    rintro a3 _ ⟨hf, h9, h12, h13, h14, h15, h16, h17', rfl⟩
    have HO2 := HO.below hb
    have hlen := HO.len
    obtain ⟨p, hp⟩ : ∃ p, y1[i]? = some p := ⟨_, List.getElem?_eq_getElem (by omega)⟩
    obtain ⟨r1, hv1, hrg⟩ := HO2.nth hp
    have hpt : p.t = 7 + (t : Int) := hat p.ot (List.mem_map.2 ⟨p, List.mem_of_getElem? hp, rfl⟩)
    have c0 : w2.cell? ⟨r1, i * 5, none⟩ = some (.int .u64 (7 + (t : Int))) := by rw [← hpt]; exact hrg 0 _ rfl
    rw [hv1] at h16
    refine tkEq (R := fun a' w' => Below wr.heap.size wr w' ∧ Fr 183 a' ∧ sl a' 9 = .pointer (some ⟨gb, 0, none⟩) ∧ sl a' 12 = .int .u64 (nn : Int) ∧ sl a' 13 = .slice vw nw cw ∧ sl a' 14 = .slice vg ng cg ∧ sl a' 15 = .int .u64 (t : Int) ∧ sl a' 16 = .slice v1 n1 c1 ∧ sl a' 17 = .int .i64 (i : Int)) ?_ ?_
    · refine wp_blockR (x := cAt [1,1,1,1,1,1,1,1,1,0,1,2,2,1,0,2,1,0,1,2,2,1,0,2] KE) (id := 5) (by kernel_rfl) ?_
      have key : ∀ (a4 : Act) (w4 : World), Fr 183 a4 ∧ sl a4 9 = .pointer (some ⟨gb, 0, none⟩) ∧ sl a4 12 = .int .u64 (nn : Int) ∧ sl a4 13 = .slice vw nw cw ∧ sl a4 14 = .slice vg ng cg ∧ sl a4 15 = .int .u64 (t : Int) ∧ sl a4 16 = .slice (some ⟨r1, 0, none⟩) n1 c1 ∧ sl a4 17 = .int .i64 (i : Int) ∧ sl a4 128 = .bool false → Below w2.heap.size w2 w4 → Code.wp Try.prog (cAt [1,1,1,1,1,1,1,1,1,0,1,2,2,1,0,2,1,0,1,2,2,1,0,2,1] KE) (Exit.inBlock 5 (Exit.then (fun a' w' => Below wr.heap.size wr w' ∧ Fr 183 a' ∧ sl a' 9 = .pointer (some ⟨gb, 0, none⟩) ∧ sl a' 12 = .int .u64 (nn : Int) ∧ sl a' 13 = .slice vw nw cw ∧ sl a' 14 = .slice vg ng cg ∧ sl a' 15 = .int .u64 (t : Int) ∧ sl a' 16 = .slice v1 n1 c1 ∧ sl a' 17 = .int .i64 (i : Int)) Nope)) a4 w4 := by
        rintro a4 w4 ⟨hf, h9, h12, h13, h14, h15, h16, h17', h128⟩ hb4
        refine wp_onF (A := cAt [1,1,1,1,1,1,1,1,1,0,1,2,2,1,0,2,1,0,1,2,2,1,0,2,1,3] KE) (B := cAt [1,1,1,1,1,1,1,1,1,0,1,2,2,1,0,2,1,0,1,2,2,1,0,2,1,4] KE) (by kernel_rfl) h128 ?_
        refine wp_skipR (by kernel_rfl) ?_
        rw [← hv1] at h16
        exact ⟨hb.trans (hb4.mono hb.size), hf, h9, h12, h13, h14, h15, h16, h17'⟩
      by_cases h0 : i = 0
      · refine tkEq (y22a w2 gb nn vw nw cw vg ng cg t r1 n1 c1 i hlt ht c0 h0 a3 hf h9 h12 h13 h14 h15 h16 h17') ?_
        rintro a4 w4 ⟨hf, h9, h12, h13, h14, h15, h16, h17', h128, hb4⟩
        exact key a4 w4 ⟨hf, h9, h12, h13, h14, h15, h16, h17', h128⟩ hb4
      · obtain ⟨q, hq⟩ : ∃ q, y1[i - 1]? = some q := ⟨_, List.getElem?_eq_getElem (by omega)⟩
        obtain ⟨r2, hv2, hrg2⟩ := HO2.nth hq
        have hrr : r2 = r1 := by rw [hv1] at hv2; simpa using hv2.symm
        subst hrr
        have hle : q.c ≤ p.c := hris (i - 1) q.ot p.ot (by rw [List.getElem?_map, hq]; rfl) (by rw [show i - 1 + 1 = i by omega, List.getElem?_map, hp]; rfl)
        refine tkEq (y22b w2 gb nn vw nw cw vg ng cg t r2 p.ot q.ot n1 c1 i hlt ht ⟨c0, hrg 1 _ rfl, hrg2 1 _ rfl⟩ (by omega) hle hn1 a3 hf h9 h12 h13 h14 h15 h16 h17') ?_
        rintro a4 w4 ⟨hf, h9, h12, h13, h14, h15, h16, h17', h128, hb4⟩
        exact key a4 w4 ⟨hf, h9, h12, h13, h14, h15, h16, h17', h128⟩ hb4
    rintro a4 w4 ⟨hb4, hf, h9, h12, h13, h14, h15, h16, h17'⟩
    refine wp_endR (y21 w4 gb nn vw nw cw vg ng cg t v1 n1 c1 i (by omega) a4 hf h9 h12 h13 h14 h15 h16 h17') ?_
    rintro a5 _ ⟨hf, h9, h12, h13, h14, h15, h16, h17'', rfl⟩
    refine ⟨⟨i + 1, hlt, hb4, hf, h9, h12, h13, h14, h15, h16, by rw [h17'']; rfl⟩, ?_⟩
    rw [h17, h17'']
    simp only [intOf]
    omega
  · refine wp_endX (y20x w2 gb nn vw nw cw vg ng cg t v1 n1 c1 i hlt a2 hf h9 h12 h13 h14 h15 h16 h17) ?_
    rintro a3 _ ⟨hf, h9, h12, h13, h14, h15, h16, rfl⟩
    refine thru ?_
    exact ⟨hb, hf, h9, h12, h13, h14, h15, h16⟩

/-- The second one's, so far, is the first one's beginning. -/
structure EI (S : List Ab) (nn : Nat) (t : Nat) (sb : Sh) (yg : List Po) : Prop where
  eq : rel (7 + (nn : Int)) 7 S = ((rel (7 + (nn : Int)) sb.T sb.abs).1, yg.map Po.ot ++ (rel (7 + (nn : Int)) sb.T sb.abs).2)
  T : sb.T ≤ 7 + (t : Int)
  nx : (nx sb.T sb.abs).k = true → 7 + (t : Int) ≤ (nx sb.T sb.abs).t
theorem EI.step {S : List Ab} {nn t : Nat} {sb sb' : Sh} {yg y1 : List Po} {N : Int} (h : EI S nn t sb yg) (hok : Oks sb.abs sb.T) (hD : DB N sb.abs) (h0 : 0 ≤ N) (ht : t ≤ nn) (hn : nn < 1000) (hy : y1.map Po.ot = (rel (7 + (t : Int)) sb.T sb.abs).2) (hT : sb'.T = 7 + (t : Int)) (hab : sb'.abs = (rel (7 + (t : Int)) sb.T sb.abs).1) :
    EI S nn (t + 1) sb' (yg ++ y1) ∧ (∀ x ∈ y1.map Po.ot, x.t = 7 + (t : Int)) ∧ ∀ (i : Nat) (x y : Ot), (y1.map Po.ot)[i]? = some x → (y1.map Po.ot)[i + 1]? = some y → x.c ≤ y.c := by
  have hsp := rel_split (7 + (t : Int)) (7 + (nn : Int)) (by omega) _ _ _ rfl hok h.T
  have hfin := rel_fin hok h.T (by omega) hD h0
  have hris := rel_ris (lo := 7 + (t : Int)) hok h.T h.nx
  refine ⟨⟨?_, by omega, fun hk => ?_⟩, fun x hx => ?_, fun i x y hx hy2 => ?_⟩
  · rw [h.eq, hsp, hT, hab, List.map_append, hy, List.append_assoc]
  · rw [hT, hab] at hk ⊢
    have := hfin.2.2.2 hk
    omega
  · rw [hy] at hx
    have := hris.1 x hx
    omega
  · rw [hy] at hx hy2
    have h1 := hris.1 x (List.mem_of_getElem? hx)
    have h2 := hris.1 y (List.mem_of_getElem? hy2)
    exact (hris.2 i x y hx hy2).2 (by omega)
theorem EI.len {S : List Ab} {nn t : Nat} {sb : Sh} {yg : List Po} (h : EI S nn t sb yg) : yg.length ≤ tot S := by
  have h1 := rel_len (7 + (nn : Int)) 7 S
  rw [h.eq] at h1
  simp at h1
  omega
theorem EI.fin {S : List Ab} {nn : Nat} {sb : Sh} {yg : List Po} (h : EI S nn (nn + 1) sb yg) : (rel (7 + (nn : Int)) 7 S).2 = yg.map Po.ot := by
  have : rel (7 + (nn : Int)) sb.T sb.abs = (sb.abs, []) := rel_no (fun hg => by
    have := h.nx hg.1
    have := hg.2
    omega)
  rw [h.eq, this, List.append_nil]

/-- Tick by tick. -/
theorem early_ticks (w wr : World) (gb nn : Nat) (vw : Option Addr) (nw cw : Nat) (S : List Ab) (sb : Sh) (bw bg : Nat) (yw : List Po) (HE : E2 w wr gb sb 24 bw bg vw nw cw yw none 0 0 []) (HI : EI S nn 0 sb []) (hn2 : nn < 200) (htot : tot S ≤ 600000) (a : Act) (hf : Fr 183 a) (h9 : sl a 9 = .pointer (some ⟨gb, 0, none⟩)) (h12 : sl a 12 = .int .u64 (nn : Int)) (h13 : sl a 13 = .slice vw nw cw) (h14 : sl a 14 = .slice none 0 0) :
    Code.wp Try.prog (cAt [1,1,1,1,1,1,1,1,1,0] KE) (Exit.then (fun a' w' => ∃ vg ng cg yg sb', E2 w w' gb sb' 24 bw bg vw nw cw yw vg ng cg yg ∧ EI S nn (nn + 1) sb' yg ∧ Fr 183 a' ∧ sl a' 13 = .slice vw nw cw ∧ sl a' 14 = .slice vg ng cg) Nope) a wr := by
  refine tkEq (y15 wr gb nn vw nw cw a hf h9 h12 h13 h14) ?_
  rintro a1 _ ⟨hf, h9, h12, h13, h14, h15, rfl⟩
  refine wp_blockR (x := cAt [1,1,1,1,1,1,1,1,1,0,1,2] KE) (id := 2) (by kernel_rfl) ?_
  refine wp_loopR (x := cAt [1,1,1,1,1,1,1,1,1,0,1,2,2] KE) (by kernel_rfl) (fun a' w' => ∃ (t : Nat) (vg : Option Addr) (ng cg : Nat) (yg : List Po) (sb : Sh), t ≤ nn + 1 ∧ E2 w w' gb sb 24 bw bg vw nw cw yw vg ng cg yg ∧ EI S nn t sb yg ∧ Fr 183 a' ∧ sl a' 9 = .pointer (some ⟨gb, 0, none⟩) ∧ sl a' 12 = .int .u64 (nn : Int) ∧ sl a' 13 = .slice vw nw cw ∧ sl a' 14 = .slice vg ng cg ∧ sl a' 15 = .int .u64 (t : Int)) (fun a' _ => nn + 1 - (intOf (sl a' 15)).toNat) ⟨0, none, 0, 0, [], sb, Nat.zero_le _, HE, HI, hf, h9, h12, h13, h14, h15⟩ ?_
  rintro a2 w2 ⟨t, vg, ng, cg, yg, sb, ht, HE, HI, hf, h9, h12, h13, h14, h15⟩
  by_cases hlt : t ≤ nn
  · refine tkEq (y16 w2 gb nn vw nw cw vg ng cg t hlt a2 hf h9 h12 h13 h14 h15) ?_
    rintro a3 _ ⟨hf, h9, h12, h13, h14, h15', rfl⟩
    refine tkEq (R := fun a' w' => ∃ (vg : Option Addr) (ng cg : Nat) (yg : List Po) (sb : Sh), E2 w w' gb sb 24 bw bg vw nw cw yw vg ng cg yg ∧ EI S nn (t + 1) sb yg ∧ Fr 183 a' ∧ sl a' 9 = .pointer (some ⟨gb, 0, none⟩) ∧ sl a' 12 = .int .u64 (nn : Int) ∧ sl a' 13 = .slice vw nw cw ∧ sl a' 14 = .slice vg ng cg ∧ sl a' 15 = .int .u64 (t : Int)) ?_ ?_
    · refine wp_blockR (x := cAt [1,1,1,1,1,1,1,1,1,0,1,2,2,1,0,2] KE) (id := 3) (by kernel_rfl) ?_
      refine tkEq (y18 w w2 gb nn vw nw cw vg ng cg t sb 24 bw bg yw yg HE (show (24 : Int) < 1000 by decide) (by omega) HI.T a3 hf h9 h12 h13 h14 h15') ?_
      rintro a4 w4 ⟨v1, n1, c1, y1, sb', hf, h9, h12, h13, h14, h15', h16, HE4, HO4, hot, hT4, hab4⟩
      have hst := HI.step (HE.lb.oks (by decide)) HE.lb.db HE.lb.N0 hlt (by omega) hot hT4 hab4
      have hln := hst.1.len
      rw [List.length_append] at hln
      have hl1 := HO4.len
      have hlg := HE.got.len
      refine tkEq (early_one w4 gb nn vw nw cw vg ng cg t v1 n1 c1 y1 w2.heap.size (by omega) HO4 (by omega) hst.2.1 hst.2.2 a4 hf h9 h12 h13 h14 h15' h16) ?_
      rintro a5 w5 ⟨hb5, hf, h9, h12, h13, h14, h15', h16⟩
      refine wp_endR (y24 w w5 gb nn vw nw cw vg ng cg t sb' 24 bw bg yw yg v1 n1 c1 y1 w2.heap.size (HE4.past hb5) ⟨HO4.below hb5, HE.ord.2.2⟩ (fun o ho p hp k hk e => ?_) (by omega) a5 hf h9 h12 h13 h14 h15' h16) ?_
      · have h1 := ((HE.got.data o ho).1.blk_ge k hk).2
        have h2 := ((HO4.data p hp).1.blk_ge k e).1
        omega
      rintro a6 w6 ⟨v2, n2, c3, hf, h9, h12, h13, h14, h15', HE6, _, _⟩
      exact ⟨v2, n2, c3, yg ++ y1, sb', HE6, hst.1, hf, h9, h12, h13, h14, h15'⟩
    rintro a4 w4 ⟨vg, ng, cg, yg, sb, HE4, HI4, hf, h9, h12, h13, h14, h15'⟩
    refine wp_endR (y17 w4 gb nn vw nw cw vg ng cg t (by omega) a4 hf h9 h12 h13 h14 h15') ?_
    rintro a5 _ ⟨hf, h9, h12, h13, h14, h15'', rfl⟩
    refine ⟨⟨t + 1, vg, ng, cg, yg, sb, by omega, HE4, HI4, hf, h9, h12, h13, h14, by rw [h15'']; rfl⟩, ?_⟩
    rw [h15, h15'']
    simp only [intOf]
    omega
  · have htn : t = nn + 1 := by omega
    rw [htn] at HI
    refine wp_endX (y16x w2 gb nn vw nw cw vg ng cg t hlt a2 hf h9 h12 h13 h14 h15) ?_
    rintro a3 _ ⟨hf, h13, h14, rfl⟩
    refine thru ?_
    exact ⟨vg, ng, cg, yg, sb, HE, HI, hf, h13, h14⟩

/-- Both are the same. -/
theorem early_same (w wr : World) (gb : Nat) (sb : Sh) (N : Int) (bw bg : Nat) (vw : Option Addr) (nw cw : Nat) (yw : List Po) (vg : Option Addr) (ng cg : Nat) (yg : List Po) (HE : E2 w wr gb sb N bw bg vw nw cw yw vg ng cg yg) (heq : yw.map Po.ot = yg.map Po.ot) (hn : ng ≤ 600000) (a : Act) (hf : Fr 183 a) (h13 : sl a 13 = .slice vw nw cw) (h14 : sl a 14 = .slice vg ng cg) :
    Code.wp Try.prog (cAt [1,1,1,1,1,1,1,1,1,1,1] KE) (bodyPost Try.prog Try.f5 (Yes w)) a wr := by
  have hlw := HE.want.len
  have hlg := HE.got.len
  have hle : yw.length = yg.length := by have := congrArg List.length heq; simpa using this
  refine tkEq (R := fun a' w' => Below wr.heap.size wr w' ∧ Fr 183 a') ?_ ?_
  · refine tkEq (y27 wr vw nw cw vg ng cg a hf h13 h14) ?_
    rintro a1 _ ⟨hf, h13, h14, h18, rfl⟩
    refine wp_blockR (x := cAt [1,1,1,1,1,1,1,1,1,1,1,0,1,2] KE) (id := 6) (by kernel_rfl) ?_
    refine wp_loopR (x := cAt [1,1,1,1,1,1,1,1,1,1,1,0,1,2,2] KE) (by kernel_rfl) (fun a' w' => ∃ i : Nat, i ≤ ng ∧ Below wr.heap.size wr w' ∧ Fr 183 a' ∧ sl a' 13 = .slice vw nw cw ∧ sl a' 14 = .slice vg ng cg ∧ sl a' 18 = .int .i64 (i : Int)) (fun a' _ => ng - (intOf (sl a' 18)).toNat) ⟨0, Nat.zero_le _, Below.refl _ _, hf, h13, h14, h18⟩ ?_
    rintro a2 w2 ⟨i, hi, hb, hf, h13, h14, h18⟩
    by_cases hlt : i < ng
    · refine tkEq (y28 w2 vw nw cw vg ng cg i hlt a2 hf h13 h14 h18) ?_
      rintro a3 _ ⟨hf, h13, h14, h18', rfl⟩
      have HE2 := HE.past hb
      obtain ⟨p, hp⟩ : ∃ p, yg[i]? = some p := ⟨_, List.getElem?_eq_getElem (by omega)⟩
      obtain ⟨q, hq⟩ : ∃ q, yw[i]? = some q := ⟨_, List.getElem?_eq_getElem (by omega)⟩
      obtain ⟨rg, hvg, hrg⟩ := HE2.got.nth hp
      obtain ⟨rw_, hvw, hrw⟩ := HE2.want.nth hq
      have hpq : p.ot = q.ot := by
        have h1 : (yg.map Po.ot)[i]? = some p.ot := by rw [List.getElem?_map, hp]; rfl
        rw [← heq, List.getElem?_map, hq] at h1
        simpa using h1.symm
      have hat : ∀ (B : Nat) (z : Po), Own w2 B z.y.a z.y.n z.y.c z.y.d ∧ Byt z.y.d ∧ z.y.n ≤ 1000000 → z.y.at_ w2 := fun B z h => ⟨h.1.len, h.1.rd, h.2.1, h.2.2⟩
      rw [hvg] at h14
      rw [hvw] at h13
      refine tkEq (R := fun a' w' => Below wr.heap.size wr w' ∧ Fr 183 a' ∧ sl a' 13 = .slice vw nw cw ∧ sl a' 14 = .slice vg ng cg ∧ sl a' 18 = .int .i64 (i : Int)) ?_ ?_
      · refine wp_blockR (x := cAt [1,1,1,1,1,1,1,1,1,1,1,0,1,2,2,1,0,2] KE) (id := 7) (by kernel_rfl) ?_
        refine tkEq (y30 w2 rw_ nw cw rg ng cg i p q hlt (by omega) ⟨hrg, hrw⟩ hpq ⟨hat _ p (HE2.got.data p (List.mem_of_getElem? hp)), hat _ q (HE2.want.data q (List.mem_of_getElem? hq))⟩ a3 hf h13 h14 h18') ?_
        rintro a4 w4 ⟨hf, h13, h14, h18', h181, hb4⟩
        refine wp_onF (A := cAt [1,1,1,1,1,1,1,1,1,1,1,0,1,2,2,1,0,2,1,3] KE) (B := cAt [1,1,1,1,1,1,1,1,1,1,1,0,1,2,2,1,0,2,1,4] KE) (by kernel_rfl) h181 ?_
        refine wp_skipR (by kernel_rfl) ?_
        rw [← hvg] at h14
        rw [← hvw] at h13
        exact ⟨hb.trans (hb4.mono hb.size), hf, h13, h14, h18'⟩
      rintro a4 w4 ⟨hb4, hf, h13, h14, h18'⟩
      refine wp_endR (y29 w4 vw nw cw vg ng cg i (by omega) a4 hf h13 h14 h18') ?_
      rintro a5 _ ⟨hf, h13, h14, h18'', rfl⟩
      refine ⟨⟨i + 1, hlt, hb4, hf, h13, h14, by rw [h18'']; rfl⟩, ?_⟩
      rw [h18, h18'']
      simp only [intOf]
      omega
    · refine wp_endX (y28x w2 vw nw cw vg ng cg i hlt a2 hf h13 h14 h18) ?_
      rintro a3 _ ⟨hf, rfl⟩
      refine thru ?_
      exact ⟨hb, hf⟩
  rintro a1 w1 ⟨hb1, hf⟩
  exact y32 w w1 (HE.lb.below.trans (hb1.mono HE.lb.below.size)) a1 hf

theorem early_any (xa : Option Addr) (n c : Nat) (l : List Cs) (ya : Option Addr) (m c2 : Nat) (la : List Ac) (tv : Int) (w : World) (hl : Rcs w xa n l) (hm : Acr w ya m la) (hmx : m ≤ maxLen) (t0 : 0 ≤ tv) (_t1 : tv ≤ 255) :
    Calls Try.prog 5 #[.slice xa n c, .slice ya m c2, .int .u8 tv] w (Yes w) := by
  refine calls_of_wp (c := KE) Try.func5 (by kernel_rfl) ?_
  have hf : Fr 183 { tmps := #[.slice xa n c, .slice ya m c2, .int .u8 tv] ++ Array.replicate (Try.f5.ntmps - (#[.slice xa n c, .slice ya m c2, .int .u8 tv] : Array Value).size) undef, defers := [] } := ⟨rfl, by simp [Try.ntmps5]⟩
  refine wp_sqR (x := cAt [0] KE) (y := cAt [1] KE) (by kernel_rfl) (y0 w xa n c ya m c2 tv _ hf (sl_at _ _ 0 _ rfl) (sl_at _ _ 1 _ rfl) (sl_at _ _ 2 _ rfl)) ?_
  rintro a1 _ ⟨hf, h0, h1, h2, rfl⟩
  refine wp_sqG (x := cAt [1,0] KE) (y := cAt [1,1] KE) (by kernel_rfl) ?_
  refine tkEq (y1 w xa n c ya m c2 tv la hm hmx a1 hf h0 h1 h2) ?_
  rintro a2 _ ⟨bb, hf, h0, h1, h2, h26, hbb, rfl⟩
  cases bb with
  | true =>
    refine wp_onT (A := cAt [1,0,1,3] KE) (B := cAt [1,0,1,4] KE) (by kernel_rfl) h26 ?_
    exact wp_endT (y2 w w (Below.refl _ _) a2 hf) (fun a' w' h => h)
  | false =>
  obtain ⟨h6, hfew⟩ := hbb.1 rfl
  refine wp_onF (A := cAt [1,0,1,3] KE) (B := cAt [1,0,1,4] KE) (by kernel_rfl) h26 ?_
  refine wp_skipR (by kernel_rfl) ?_
  cases hmay : mayB l with
  | false =>
    refine tkEq (y3n w xa n c ya m c2 tv l hl hmay a2 hf h0 h1 h2) ?_
    rintro a3 w3 ⟨hf, h0, h1, h2, h7, h8, hb3⟩
    refine tkEq (y4n w3 xa n c ya m c2 tv l (hl.below hb3) hmay a3 hf h0 h1 h2 h7 h8) ?_
    rintro a4 w4 ⟨hf, h8, h10, hb4⟩
    refine wp_sqG (x := cAt [1,1,1,1,0] KE) (y := cAt [1,1,1,1,1] KE) (by kernel_rfl) ?_
    refine tkEq (y5n w4 a4 hf h8 h10) ?_
    rintro a5 _ ⟨hf, h8, h10, h43, rfl⟩
    refine wp_onT (A := cAt [1,1,1,1,0,1,3] KE) (B := cAt [1,1,1,1,0,1,4] KE) (by kernel_rfl) h43 ?_
    exact wp_endT (y6 w w4 (hb3.trans (hb4.mono hb3.size)) a5 hf h8 h10) (fun a' w' h => h)
  | true =>
  have hmp := hmay
  unfold mayB at hmp
  simp only [Bool.and_eq_true, decide_eq_true_eq] at hmp
  refine tkEq (y3 w xa n c ya m c2 tv l hl hmay a2 hf h0 h1 h2) ?_
  rintro a3 w3 ⟨ga, sa, hf, h0, h1, h2, h7, h8, hv, hT, hab⟩
  refine tkEq (y4 w w3 xa n c ya m c2 tv l ga sa (hl.below hv.below) hmay ⟨hv, hT, hab⟩ a3 hf h0 h1 h2 h7 h8) ?_
  rintro a4 w4 ⟨gb, sb, hf, h0, h1, h2, h7, h8, h9, h10, HE⟩
  refine wp_sqG (x := cAt [1,1,1,1,0] KE) (y := cAt [1,1,1,1,1] KE) (by kernel_rfl) ?_
  refine tkEq (y5 w4 xa n c ya m c2 tv ga gb a4 hf h0 h1 h2 h7 h8 h9 h10) ?_
  rintro a5 _ ⟨hf, h1, h2, h7, h9, h43, rfl⟩
  refine wp_onF (A := cAt [1,1,1,1,0,1,3] KE) (B := cAt [1,1,1,1,0,1,4] KE) (by kernel_rfl) h43 ?_
  refine wp_skipR (by kernel_rfl) ?_
  refine tkEq (early_offers w w4 ya m c2 tv la hm hfew ga gb sa sb HE a5 hf h1 h2 h7 h9) ?_
  rintro a6 w6 ⟨sa, sb, HE6, hf, h1, h2, h7, h9⟩
  obtain ⟨nn, hnn⟩ : ∃ nn : Nat, tv.tmod 200 = (nn : Int) := ⟨(tv % 200).toNat, by rw [Int.tmod_eq_emod_of_nonneg t0]; omega⟩
  have hn2 : nn < 200 := by
    rw [Int.tmod_eq_emod_of_nonneg t0] at hnn
    omega
  refine tkEq (y12 w6 ya m c2 tv ga gb nn hnn hn2 a6 hf h1 h2 h7 h9) ?_
  rintro a7 _ ⟨hf, h7, h9, h12, rfl⟩
  refine tkEq (y13 w w6 ga gb nn sa sb 24 HE6 (show (24 : Int) < 1000 by decide) hn2 a7 hf h7 h9 h12) ?_
  rintro a8 w8 ⟨vw, nw, cw, yw, hf, h9, h12, h13, HE8, hyw⟩
  refine tkEq (y14 w8 gb nn vw nw cw a8 hf h9 h12 h13) ?_
  rintro a9 _ ⟨hf, h9, h12, h13, h14, rfl⟩
  have htot : tot sa.abs ≤ 600000 := by
    have h1 := HE6.l2.a.sw.sum sa.n
    have h2 := HE6.l2.a.sw.le
    have h3 := HE6.l2.a.len
    rw [List.take_of_length_le (by omega)] at h1
    omega
  have HI : EI sa.abs nn 0 sb [] := by
    refine ⟨by rw [HE6.tb, HE6.ab]; rfl, by rw [HE6.tb]; decide, fun hk => ?_⟩
    have := ((Inv.refl sb.T sb.abs).step (HE8.lb.oks (by decide)) hk).2.2.1
    rw [HE6.tb] at this
    rw [HE6.tb]
    simpa using this
  refine tkEq (early_ticks w w8 gb nn vw nw cw sa.abs sb _ _ yw HE8 HI hn2 htot a9 hf h9 h12 h13 h14) ?_
  rintro a10 w10 ⟨vg, ng, cg, yg, sb', HE10, HI10, hf, h13, h14⟩
  have heq : yw.map Po.ot = yg.map Po.ot := hyw.trans HI10.fin
  have hle : ng = nw := by
    have h1 := HE10.want.len
    have h2 := HE10.got.len
    have h3 := congrArg List.length heq
    simp at h3
    omega
  have hng : ng ≤ 600000 := by
    have := HI10.len
    have := HE10.got.len
    omega
  refine wp_sqG (x := cAt [1,1,1,1,1,1,1,1,1,1,0] KE) (y := cAt [1,1,1,1,1,1,1,1,1,1,1] KE) (by kernel_rfl) ?_
  refine tkEq (y25 w10 vw nw cw vg ng cg hle a10 hf h13 h14) ?_
  rintro a11 _ ⟨hf, h13, h14, h136, rfl⟩
  refine wp_onF (A := cAt [1,1,1,1,1,1,1,1,1,1,0,1,3] KE) (B := cAt [1,1,1,1,1,1,1,1,1,1,0,1,4] KE) (by kernel_rfl) h136 ?_
  refine wp_skipR (by kernel_rfl) ?_
  exact early_same w w10 gb sb' 24 _ _ vw nw cw yw vg ng cg yg HE10 heq hng a11 hf h13 h14
end Go.Proofs.Ytpigpeehhadkjaa

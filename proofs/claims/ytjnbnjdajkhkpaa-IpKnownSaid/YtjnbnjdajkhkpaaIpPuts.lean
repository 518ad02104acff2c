/-
  IpPuts, walked: for headers whose numbers fit their Go types and whose options lie where the slices lead the call answers true. The contract of Same is a premise here.
-/
import Derived.Test.YtjnbnjdajkhkpaaIpEq
import Derived.Test.YtjnbnjdajkhkpaaIpWorks
namespace Go.Proofs.Ytjnbnjdajkhkpaa
open Go.RowKit

/-- What Put answers, in one. -/
def pz (h : Hd) : Int := if rgH h.frag h.tot h.n = true then 0 else 51
def pb (h : Hd) : List Int := if rgH h.frag h.tot h.n = true then hfull h else []
theorem PutH.one {w w' : World} {h : Hd} {e : Ending} (p : PutH w h e w') : Below w.heap.size w w' ∧ ∃ a n cap, e = .returned (.tuple #[.slice a n cap, .int .i64 (pz h)]) ∧ Own w' w.heap.size a n cap (pb h) := by
  obtain ⟨hb, ⟨hr, a, n, c, he, ho⟩ | ⟨hr, he⟩⟩ := p
  · exact ⟨hb, a, n, c, by rw [he, pz, if_pos hr], by rw [pb, if_pos hr]; exact ho⟩
  · exact ⟨hb, none, 0, 0, by rw [he, pz, if_neg (by rw [hr]; decide)], by rw [pb, if_neg (by rw [hr]; decide)]; exact Own.nil _ _⟩
theorem pb_byt {w : World} {h : Hd} (k : h.ok w) : Byt (pb h) := by
  unfold pb; split
  · rw [hfull_eq]; exact hby_byt h _ k.srcb k.dstb k.row.byt
  · exact Byt.nil
theorem Hd.ok.at_ {w0 w : World} {h : Hd} (k : h.ok w0) (hr : Rd w h.a h.op) : h.ok w := ⟨k.tos, k.tot, k.id, k.frag, k.ttl, k.pro, k.src, k.dst, k.srcb, k.dstb, ⟨k.row.len, k.row.cap, k.row.max, hr, k.row.byt⟩⟩
theorem Own.below {w w' : World} {base : Nat} {a : Option Addr} {n cap : Nat} {xs : List Int} (h : Own w base a n cap xs) (hb : Below w.heap.size w w') : Own w' base a n cap xs :=
  h.keep (S := fun _ => False) (Kept.of_below hb (fun i hi hi' => by omega)) (fun _ _ => id)
theorem Inc.blw {w1 w2 wr : World} {a : Option Addr} {n c : Nat} {xs : List Int} (ho : Own w2 w1.heap.size a n c xs) (h2 : Below w1.heap.size w1 w2) (hi : Inc w2 w1.heap.size a n c wr) : Below w1.heap.size w1 wr := by
  obtain ⟨_, _, hkp⟩ := hi
  exact h2.trans (hkp.below h2.size (fun i e => (ho.blk_ge i e).1))
theorem rh_one (h : Hd) : ∀ v ∈ rhc h, v.oneCell' = true := by
  intro v hv; simp only [rhc, List.mem_cons, List.not_mem_nil, or_false] at hv
  rcases hv with rfl | rfl | rfl | rfl | rfl | rfl | rfl | rfl | rfl | rfl | rfl <;> rfl
/-- Cells are stored, as one thing; of the memory only P is kept in mind. -/
theorem stN {ops : Array Oper} {rest : List Oper} {o : Oper} {a : Act} {w : World} {Q : Exit → Act → World → Prop} (P : World → Prop) (t : TypeId) (x y : Operand) (ho : o.op = .store t x y) (hgd : o.guard = none) (b off : Nat) (cs : List Value) (hx : a.eval x = .pointer (some ⟨b, off, none⟩)) (hy : a.eval y = .agg cs.toArray)
    (ht : w.there b off cs.length) (hi : (Try.prog.info? t).map (·.size) = some cs.length) (h1 : ∀ v ∈ cs, v.oneCell' = true) (hP : P (w.setCells b off cs))
    (h : ∀ w', P w' → wpList Try.prog ops Q rest (a.put o.dst undef) w') : wpList Try.prog ops Q (o :: rest) a w :=
  stC t x y ho hgd b off cs hx hy ht hi h1 (h _ hP)
/-- Headers as the document has them are compared. -/
theorem exec_eqRH {ρ : Operand → Value} {o : Oper} {x y : Operand} {r : TypeId} {h g : Hd} {v : Bool} {w : World} (ho : o.op = .binOp .eql 29 x y r) (hx : ρ x = .agg (rhc h).toArray) (hy : ρ y = .agg (rhc g).toArray)
    (hr : (binOp .eql 29 (.agg (rhc h).toArray) (.agg (rhc g).toArray)).run Try.prog w = .ok (.bool v) w) : (execOp ρ o).run Try.prog w = .ok (.value (.bool v)) w := by
  unfold execOp
  simp only [ho, hx, hy, Sem.run_bind, run_eqGuard_agg (hm := Try.eqGuardType29), Result.andThen_ok, hr, Sem.run_pure]
/-- What the last lines read. -/
def S5 (w : World) (h g : Hd) (b : Nat) (w' : World) : Prop :=
  (World.rangeAt w' w.heap.size 0 h.cs ∧ World.rangeAt w' (w.heap.size + 1) 0 g.cs) ∧ World.rangeAt w' b 0 (rhc h) ∧ Rd w' h.a h.op ∧ Rd w' g.a g.op
theorem S5.below {w w1 w2 : World} {h g : Hd} {b : Nat} (s : S5 w h g b w1) (hb : Below w1.heap.size w1 w2) : S5 w h g b w2 := ⟨⟨range_kept hb s.1.1, range_kept hb s.1.2⟩, range_kept hb s.2.1, s.2.2.1.below hb, s.2.2.2.below hb⟩

set_option maxRecDepth 100000 in
set_option maxHeartbeats 4000000 in
theorem puts_any (HSAME : ∀ (h g : Hd) (w : World), h.ok w → g.ok w → Calls Try.prog 15 #[.agg h.cs.toArray, .agg g.cs.toArray] w (Gives w (.bool (smH h g))))
    (h g : Hd) (w : World) (k : h.ok w) (l : g.ok w) : Calls Try.prog 3 #[.agg h.cs.toArray, .agg g.cs.toArray] w fun e w' => e = .returned (.bool true) ∧ Below w.heap.size w w' := by
  have hbA : Below w.heap.size w (w.alloc (.cells h.cs.toArray 26)) := (Below.refl _ _).alloc (Nat.le_refl _) _
  have hbB : Below (w.alloc (.cells h.cs.toArray 26)).heap.size (w.alloc (.cells h.cs.toArray 26)) ((w.alloc (.cells h.cs.toArray 26)).alloc (.cells g.cs.toArray 26)) := (Below.refl _ _).alloc (Nat.le_refl _) _
  have hr1 := range_kept hbB (Hd.range w h 26)
  have hr2 := Hd.range (w.alloc (.cells h.cs.toArray 26)) g 26
  have HB : Hid (Below w.heap.size w ((w.alloc (.cells h.cs.toArray 26)).alloc (.cells g.cs.toArray 26))) := hbA.trans (hbB.mono hbA.size)
  rw [World.size_alloc] at hr2
  have HK := Lib.hid k
  have HL := Lib.hid l
  have HLH := Lib.hid k.len
  have HLG := Lib.hid l.len
  have HR := Lib.hid (And.intro hr1 hr2)
  have c16 := k.c16
  have d16 := l.c16
  obtain ⟨cs, hcs⟩ : ∃ x, h.cs.toArray = x := ⟨_, rfl⟩
  obtain ⟨ds, hds⟩ : ∃ x, g.cs.toArray = x := ⟨_, rfl⟩
  rw [hcs, hds] at HB HR
  rw [hcs] at c16
  rw [hds] at d16
  obtain ⟨n1, hn1⟩ : ∃ x, h.n = x := ⟨_, rfl⟩
  obtain ⟨n2, hn2⟩ : ∃ x, g.n = x := ⟨_, rfl⟩
  rw [hn1] at c16
  rw [hn2] at d16
  have HN1 := Lib.hid hn1
  have HN2 := Lib.hid hn2
  have HC := Lib.hid hcs
  have HD := Lib.hid hds
  rw [hcs, hds]
  clear k l hbA hbB hr1 hr2 hn1 hn2 hcs hds
  by_cases ha : 100 < n1
  · go_enter Try.func3, Try.ntmps3
    go_wp2_with fail
    refine (works5_any _).mono ?_
    rintro e w1 ⟨rfl, hb1⟩
    have HB1 := Lib.hid (HB.out.trans (hb1.mono HB.out.size))
    clear hb1
    go_wp2_with fail
    go_ret
    exact ⟨rfl, HB1.out⟩
  by_cases hc : 100 < n2
  · go_enter Try.func3, Try.ntmps3
    go_wp2_with fail
    refine (works5_any _).mono ?_
    rintro e w1 ⟨rfl, hb1⟩
    have HB1 := Lib.hid (HB.out.trans (hb1.mono HB.out.size))
    clear hb1
    go_wp2_with fail
    go_ret
    exact ⟨rfl, HB1.out⟩
  have HM : Hid (h.n ≤ 9000000000000) := by show _ ≤ _; rw [HN1.out]; omega
  have HMG : Hid (g.n ≤ 9000000000000) := by show _ ≤ _; rw [HN2.out]; omega
  go_enter Try.func3, Try.ntmps3
  go_wp2_with (refine ldH _ rfl rfl _ rfl h HLH.out HR.out.1 ?_)
  refine (dIp_any h _ (HK.out.below HB.out)).mono ?_
  rintro e w1 ⟨rfl, hb1⟩
  have HB1 := Lib.hid (HB.out.trans (hb1.mono HB.out.size))
  have HB1Z := HB1.out.size
  have HSA := Lib.hid (show w.heap.size + 2 ≤ w1.heap.size by have := hb1.size; simp at this; omega)
  have HB2 : Hid (Below w1.heap.size w1 ((w1.alloc (.cells rh0.toArray 29)).setCells w1.heap.size 0 (rhc h))) := Below.setCells ((Below.refl _ _).alloc (Nat.le_refl _) _) _ (Nat.le_refl _) _ _
  have HTW : Hid ((w1.alloc (.cells rh0.toArray 29)).there w1.heap.size 0 11) := there_new _ _ _ _ rfl _ rfl
  have HR1 := Lib.hid (And.intro (range_kept hb1 HR.out.1) (range_kept hb1 HR.out.2))
  have HR2 := Lib.hid (And.intro (range_kept HB2.out HR1.out.1) (range_kept HB2.out HR1.out.2))
  have HRR : Hid (((w1.alloc (.cells rh0.toArray 29)).setCells w1.heap.size 0 (rhc h)).rangeAt w1.heap.size 0 (rhc h)) := World.rangeAt_setCells_same _ _ _ _ HTW.out
  have HB3 := Lib.hid (HB1.out.trans (HB2.out.mono HB1.out.size))
  have HS0 : Hid (S5 w h g w1.heap.size ((w1.alloc (.cells rh0.toArray 29)).setCells w1.heap.size 0 (rhc h))) := ⟨HR2.out, HRR.out, HK.out.row.rd.below HB3.out, HL.out.row.rd.below HB3.out⟩
  clear hb1 c16 d16 HB1Z
  have HF0 : Hid (Below w.heap.size w ((w1.alloc (.cells rh0.toArray 29)).setCells w1.heap.size 0 (rhc h)) ∧ S5 w h g w1.heap.size ((w1.alloc (.cells rh0.toArray 29)).setCells w1.heap.size 0 (rhc h))) := ⟨HB3.out, HS0.out⟩
  clear HB3 HS0 HRR HR2 HR1 HB2
  go_wp2_with (first | (refine stN (fun w' => Hid (Below w.heap.size w w' ∧ S5 w h g w1.heap.size w')) 29 (.tmp 5) (.tmp 24) rfl rfl w1.heap.size 0 (rhc h) rfl rfl HTW.out infRH (rh_one h) HF0 ?_; intro wc HF) | (refine ldRH (.tmp 5) rfl rfl w1.heap.size rfl h HF.out.2.2.1 ?_))
  refine (r5Put_any h _ _ (HK.out.below HF.out.1) HM.out).mono ?_
  rintro e w2 hp
  obtain ⟨hb2, a1, m1, c1, rfl, ho1⟩ := hp.one
  have HB4 := Lib.hid (HF.out.1.trans (hb2.mono HF.out.1.size))
  have HS1 := Lib.hid (HF.out.2.below hb2)
  have HO1 := Lib.hid ho1
  have HBY := Lib.hid (pb_byt HK.out)
  obtain ⟨z, hz⟩ : ∃ x, pz h = x := ⟨_, rfl⟩
  have HZ := Lib.hid hz
  obtain ⟨bs, hbs⟩ : ∃ x, pb h = x := ⟨_, rfl⟩
  rw [hbs] at HO1 HBY
  have HPB := Lib.hid hbs
  rw [hz]
  clear hb2 hp ho1 hz hbs HR HTW HF HF0
  go_wp2_with fail
  have HI0 : Hid (Below w.heap.size w w2 ∧ S5 w h g w1.heap.size w2 ∧ Own w2 wc.heap.size a1 m1 c1 bs) := ⟨HB4.out, HS1.out, HO1.out⟩
  clear HB4 HS1 HO1
  go_loopw [8] (fun i wr => ∃ t : Nat, t ≤ 2 ∧ i = .int .i64 t ∧ Hid (Below w.heap.size w wr ∧ S5 w h g w1.heap.size wr ∧ Own wr wc.heap.size a1 m1 c1 bs)) (fun i _ => 2 - (intOf i).toNat)
  case atStart => exact ⟨0, by omega, rfl, HI0⟩
  case round =>
    obtain ⟨t, ht, rfl, hbt⟩ := hrel
    rename World => wt
    clear HI0
    by_cases hlt : t < 2
    · have hlt' : (t : Int) < 2 := by omega
      go_wp2_with (refine ldH (.tmp 2) rfl rfl w.heap.size rfl h HLH.out hbt.out.2.1.1.1 ?_)
      refine (iPut_any h _ (HK.out.below hbt.out.1) HM.out).mono ?_
      rintro e w3 hp
      obtain ⟨hb3, a2, m2, c2, rfl, ho2⟩ := hp.one
      rw [HPB.out] at ho2
      rw [HZ.out]
      have HO2 := Lib.hid ho2
      have HB3 := Lib.hid hb3
      have HO3 : Hid (Own w3 wc.heap.size a1 m1 c1 bs) := hbt.out.2.2.below hb3
      clear hp hb3 ho2
      go_wp2_with fail
      refine (same_any a2 a1 m2 c2 m1 c1 bs bs _ HO2.out.len HO3.out.len HO2.out.rd HO3.out.rd HBY.out HBY.out).mono ?_
      rintro e w4 ⟨rfl, rfl⟩
      rw [decide_eq_true (rfl : bs = bs)]
      have HJ0 : Hid (Inc w3 wt.heap.size a2 m2 c2 w3) := Inc.start HO2.out
      go_wp2_with fail
      go_loopw [11] (fun i wr => ∃ q : Nat, q ≤ m2 ∧ i = .int .i64 q ∧ Hid (Inc w3 wt.heap.size a2 m2 c2 wr)) (fun i _ => m2 - (intOf i).toNat)
      case atStart => exact ⟨0, Nat.zero_le _, rfl, HJ0⟩
      case round =>
        obtain ⟨q, hq, rfl, hin⟩ := hrel
        rename World => wi
        clear HJ0
        by_cases hlq : q < m2
        · obtain ⟨gd, zz, rfl, hzz, hf, hnext⟩ := hin.out.at_ hlq
          have HX := Lib.hid hnext
          clear hnext
          have hmx : m2 ≤ 9223372036854775807 := by have h1 := HO2.out.le; have h2 : c2 ≤ 9223372036854775807 := h1.2; omega
          go_wp2_with fail
          go_roundw
          case rel => exact ⟨q + 1, by omega, by go_num, HX.out _⟩
          case measure => simp [intOf]; omega
        · have HBI : Hid (Below wt.heap.size wt wi) := Inc.blw HO2.out HB3.out hin.out
          have HN : Hid (Below w.heap.size w wi ∧ S5 w h g w1.heap.size wi ∧ Own wi wc.heap.size a1 m1 c1 bs) := ⟨hbt.out.1.trans (HBI.out.mono hbt.out.1.size), hbt.out.2.1.below HBI.out, hbt.out.2.2.below HBI.out⟩
          go_wp2_with fail
          go_roundw
          case rel => exact ⟨t + 1, by omega, by go_num, HN⟩
          case measure => simp [intOf]; omega
    · have ht2 : t = 2 := by omega
      subst ht2
      have HB1 := Lib.hid hbt.out.1
      have hs0 := hbt.out.2.1
      obtain ⟨rg, hrg⟩ : ∃ x, rgH h.frag h.tot h.n = x := ⟨_, rfl⟩
      have HRG := Lib.hid hrg
      obtain ⟨sm, hsm⟩ : ∃ x, smH h g = x := ⟨_, rfl⟩
      have HSM := Lib.hid hsm
      have HSS : Hid (smH h h = true) := by show smH h h = true; simp [smH]
      clear hbt hrg hsm
      go_wp2_with fail
      refine wp_region_held_drew (S := fun w' => S5 w h g w1.heap.size w') (by kernel_rfl) hs0 (fun hS => ?_)
      refine tk 0 60 (.agg (h.cs).toArray) rfl rfl (by kernel_rfl) (by kernel_rfl) (by kernel_rfl) (fun _ _ _ h => h) (yieldsIf_load_mid (by rfl) _ _ rfl (w.heap.size) 0 rfl (h.cs) _ (fun w' h' => h'.1.1) Try.underlying26 rfl (by rw [HLH.out]; exact infH)) hS ?_
      refine tk 2 62 (.agg (rhc h).toArray) rfl rfl (by kernel_rfl) (by kernel_rfl) (by kernel_rfl) (fun _ _ _ h => h) (yieldsIf_load_mid (by rfl) _ _ rfl (w1.heap.size) 0 rfl (rhc h) _ (fun w' h' => h'.2.1) Try.underlying29 rfl (infRH)) hS ?_
      try simp only [Act.put, List.setIfInBounds_toArray, List.set_cons_zero, List.set_cons_succ]
      refine wpAnyH_ready (rs := [1]) (by kernel_rfl) (by simp) (AllReadyH.cons rfl (fun K hK => ?_) AllReadyH.nil)
      rw [if_pos (by rfl)]
      go_wp2_with fail
      refine (iRight_any h _ _ HK.out HM.out).mono ?_
      rintro e x1 ⟨rfl, hb⟩
      have hs1 : S5 w h g w1.heap.size x1 := S5.below hs0 (undrew hb)
      have HX1 : Hid (Below w.heap.size w x1) := HB1.out.trans ((undrew hb).mono HB1.out.size)
      clear hb
      rw [HRG.out]
      clear hS
      refine hK.out _ _ hs1 (fun hS => ?_)
      clear hK K
      try simp only [Act.put, List.setIfInBounds_toArray, List.set_cons_zero, List.set_cons_succ]
      refine wpAnyH_ready (rs := [3]) (by kernel_rfl) (by simp) (AllReadyH.cons rfl (fun K hK => ?_) AllReadyH.nil)
      rw [if_pos (by rfl)]
      go_wp2_with fail
      refine (r5Right_any h _ _ HK.out HM.out).mono ?_
      rintro e x2 ⟨rfl, hb⟩
      have hs2 : S5 w h g w1.heap.size x2 := S5.below hs1 hb
      have HX2 : Hid (Below w.heap.size w x2) := HX1.out.trans (hb.mono HX1.out.size)
      clear hb
      rw [HRG.out]
      clear hS
      refine hK.out _ _ hs2 (fun hS => ?_)
      clear hK K
      try simp only [Act.put, List.setIfInBounds_toArray, List.set_cons_zero, List.set_cons_succ]
      refine tk 4 64 (.bool true) rfl rfl (by kernel_rfl) (by kernel_rfl) (by kernel_rfl) (fun _ _ _ h => h) (Or.inl ⟨by rfl, fun w' h' => ?_⟩) hS ?_
      · go_simp
      refine tk 5 65 (.bool true) rfl rfl (by kernel_rfl) (by kernel_rfl) (by kernel_rfl) (fun _ _ _ h => h) (Or.inl ⟨by rfl, fun w' h' => ?_⟩) hS ?_
      · go_simp
      refine tk 6 66 (.agg (h.cs).toArray) rfl rfl (by kernel_rfl) (by kernel_rfl) (by kernel_rfl) (fun _ _ _ h => h) (yieldsIf_load_mid (by rfl) _ _ rfl (w.heap.size) 0 rfl (h.cs) _ (fun w' h' => h'.1.1) Try.underlying26 rfl (by rw [HLH.out]; exact infH)) hS ?_
      refine tk 7 67 (.agg (g.cs).toArray) rfl rfl (by kernel_rfl) (by kernel_rfl) (by kernel_rfl) (fun _ _ _ h => h) (yieldsIf_load_mid (by rfl) _ _ rfl ((w.heap.size + 1)) 0 rfl (g.cs) _ (fun w' h' => h'.1.2) Try.underlying26 rfl (by rw [HLG.out]; exact infH)) hS ?_
      refine tk 9 69 (.agg (rhc h).toArray) rfl rfl (by kernel_rfl) (by kernel_rfl) (by kernel_rfl) (fun _ _ _ h => h) (yieldsIf_load_mid (by rfl) _ _ rfl (w1.heap.size) 0 rfl (rhc h) _ (fun w' h' => h'.2.1) Try.underlying29 rfl (infRH)) hS ?_
      refine tk 10 70 (.agg (g.cs).toArray) rfl rfl (by kernel_rfl) (by kernel_rfl) (by kernel_rfl) (fun _ _ _ h => h) (yieldsIf_load_mid (by rfl) _ _ rfl ((w.heap.size + 1)) 0 rfl (g.cs) _ (fun w' h' => h'.1.2) Try.underlying26 rfl (by rw [HLG.out]; exact infH)) hS ?_
      try simp only [Act.put, List.setIfInBounds_toArray, List.set_cons_zero, List.set_cons_succ]
      refine wpAnyH_ready (rs := [8]) (by kernel_rfl) (by simp) (AllReadyH.cons rfl (fun K hK => ?_) AllReadyH.nil)
      rw [if_pos (by rfl)]
      go_wp2_with fail
      refine (HSAME h g _ (HK.out.at_ hs2.2.2.1) (HL.out.at_ hs2.2.2.2)).mono ?_
      rintro e x3 ⟨rfl, hb⟩
      have hs3 : S5 w h g w1.heap.size x3 := S5.below hs2 hb
      have HX3 : Hid (Below w.heap.size w x3) := HX2.out.trans (hb.mono HX2.out.size)
      clear hb
      rw [HSM.out]
      clear hS
      refine hK.out _ _ hs3 (fun hS => ?_)
      clear hK K
      try simp only [Act.put, List.setIfInBounds_toArray, List.set_cons_zero, List.set_cons_succ]
      refine wpAnyH_ready (rs := [11]) (by kernel_rfl) (by simp) (AllReadyH.cons rfl (fun K hK => ?_) AllReadyH.nil)
      rw [if_pos (by rfl)]
      go_wp2_with fail
      refine (dIp_any g _ (HL.out.at_ hs3.2.2.2)).mono ?_
      rintro e x4 ⟨rfl, hb⟩
      have hs4 : S5 w h g w1.heap.size x4 := S5.below hs3 hb
      have HX4 : Hid (Below w.heap.size w x4) := HX3.out.trans (hb.mono HX3.out.size)
      clear hb
      clear hS
      refine hK.out _ _ hs4 (fun hS => ?_)
      clear hK K
      try simp only [Act.put, List.setIfInBounds_toArray, List.set_cons_zero, List.set_cons_succ]
      refine tk 12 72 (.bool sm) rfl rfl (by kernel_rfl) (by kernel_rfl) (by kernel_rfl) (fun _ _ _ h => h) (Or.inl ⟨by rfl, fun w' h' => ?_⟩) hS ?_
      · have hq := run_eqRH w' h g HK.out HL.out
        rw [HSM.out] at hq
        exact exec_eqRH rfl rfl rfl hq
      refine tk 13 73 (.bool true) rfl rfl (by kernel_rfl) (by kernel_rfl) (by kernel_rfl) (fun _ _ _ h => h) (Or.inl ⟨by rfl, fun w' h' => ?_⟩) hS ?_
      · go_simp
      refine tk 14 74 (.bool true) rfl rfl (by kernel_rfl) (by kernel_rfl) (by kernel_rfl) (fun _ _ _ h => h) (Or.inl ⟨by rfl, fun w' h' => ?_⟩) hS ?_
      · go_simp
      refine tk 15 75 (.bool true) rfl rfl (by kernel_rfl) (by kernel_rfl) (by kernel_rfl) (fun _ _ _ h => h) (Or.inl ⟨by rfl, fun w' h' => ?_⟩) hS ?_
      · go_simp
      refine tk 16 76 (.agg (h.cs).toArray) rfl rfl (by kernel_rfl) (by kernel_rfl) (by kernel_rfl) (fun _ _ _ h => h) (yieldsIf_load_mid (by rfl) _ _ rfl (w.heap.size) 0 rfl (h.cs) _ (fun w' h' => h'.1.1) Try.underlying26 rfl (by rw [HLH.out]; exact infH)) hS ?_
      refine tk 17 77 (.agg (h.cs).toArray) rfl rfl (by kernel_rfl) (by kernel_rfl) (by kernel_rfl) (fun _ _ _ h => h) (yieldsIf_load_mid (by rfl) _ _ rfl (w.heap.size) 0 rfl (h.cs) _ (fun w' h' => h'.1.1) Try.underlying26 rfl (by rw [HLH.out]; exact infH)) hS ?_
      try simp only [Act.put, List.setIfInBounds_toArray, List.set_cons_zero, List.set_cons_succ]
      refine wpAnyH_ready (rs := [18]) (by kernel_rfl) (by simp) (AllReadyH.cons rfl (fun K hK => ?_) AllReadyH.nil)
      rw [if_pos (by rfl)]
      go_wp2_with fail
      refine (HSAME h h _ (HK.out.at_ hs4.2.2.1) (HK.out.at_ hs4.2.2.1)).mono ?_
      rintro e x5 ⟨rfl, hb⟩
      have hs5 : S5 w h g w1.heap.size x5 := S5.below hs4 hb
      have HX5 : Hid (Below w.heap.size w x5) := HX4.out.trans (hb.mono HX4.out.size)
      clear hb
      rw [HSS.out]
      clear hS
      refine hK.out _ _ hs5 (fun hS => ?_)
      clear hK K
      try simp only [Act.put, List.setIfInBounds_toArray, List.set_cons_zero, List.set_cons_succ]
      refine tk 19 79 (.bool true) rfl rfl (by kernel_rfl) (by kernel_rfl) (by kernel_rfl) (fun _ _ _ h => h) (Or.inl ⟨by rfl, fun w' h' => ?_⟩) hS ?_
      · go_simp
      refine tk 20 80 (.bool true) rfl rfl (by kernel_rfl) (by kernel_rfl) (by kernel_rfl) (fun _ _ _ h => h) (Or.inl ⟨by rfl, fun w' h' => ?_⟩) hS ?_
      · go_simp
      refine tk 21 81 (.agg (h.cs).toArray) rfl rfl (by kernel_rfl) (by kernel_rfl) (by kernel_rfl) (fun _ _ _ h => h) (yieldsIf_load_mid (by rfl) _ _ rfl (w.heap.size) 0 rfl (h.cs) _ (fun w' h' => h'.1.1) Try.underlying26 rfl (by rw [HLH.out]; exact infH)) hS ?_
      refine tk 23 83 (.agg (rhc h).toArray) rfl rfl (by kernel_rfl) (by kernel_rfl) (by kernel_rfl) (fun _ _ _ h => h) (yieldsIf_load_mid (by rfl) _ _ rfl (w1.heap.size) 0 rfl (rhc h) _ (fun w' h' => h'.2.1) Try.underlying29 rfl (infRH)) hS ?_
      try simp only [Act.put, List.setIfInBounds_toArray, List.set_cons_zero, List.set_cons_succ]
      refine wpAnyH_ready (rs := [22]) (by kernel_rfl) (by simp) (AllReadyH.cons rfl (fun K hK => ?_) AllReadyH.nil)
      rw [if_pos (by rfl)]
      go_wp2_with fail
      refine (dIp_any h _ (HK.out.at_ hs5.2.2.1)).mono ?_
      rintro e x6 ⟨rfl, hb⟩
      have hs6 : S5 w h g w1.heap.size x6 := S5.below hs5 hb
      have HX6 : Hid (Below w.heap.size w x6) := HX5.out.trans (hb.mono HX5.out.size)
      clear hb
      clear hS
      refine hK.out _ _ hs6 (fun hS => ?_)
      clear hK K
      try simp only [Act.put, List.setIfInBounds_toArray, List.set_cons_zero, List.set_cons_succ]
      refine tk 24 84 (.bool true) rfl rfl (by kernel_rfl) (by kernel_rfl) (by kernel_rfl) (fun _ _ _ h => h) (Or.inl ⟨by rfl, fun w' h' => ?_⟩) hS ?_
      · have hq := run_eqRH w' h h HK.out HK.out
        rw [HSS.out] at hq
        exact exec_eqRH rfl rfl rfl hq
      refine tk 25 85 (.bool true) rfl rfl (by kernel_rfl) (by kernel_rfl) (by kernel_rfl) (fun _ _ _ h => h) (Or.inl ⟨by rfl, fun w' h' => ?_⟩) hS ?_
      · go_simp
      refine tk 26 86 (.bool true) rfl rfl (by kernel_rfl) (by kernel_rfl) (by kernel_rfl) (fun _ _ _ h => h) (Or.inl ⟨by rfl, fun w' h' => ?_⟩) hS ?_
      · go_simp
      try simp only [Act.put, List.setIfInBounds_toArray, List.set_cons_zero, List.set_cons_succ]
      refine wpAnyH_ready (rs := [27]) (by kernel_rfl) (by simp) (AllReadyH.cons rfl (fun K hK => ?_) AllReadyH.nil)
      rw [if_pos (by rfl)]
      go_wp2_with fail
      refine (works5_any _).mono ?_
      rintro e x7 ⟨rfl, hb⟩
      have hs7 : S5 w h g w1.heap.size x7 := S5.below hs6 hb
      have HX7 : Hid (Below w.heap.size w x7) := HX6.out.trans (hb.mono HX6.out.size)
      clear hb
      clear hS
      refine hK.out _ _ hs7 (fun hS => ?_)
      clear hK K
      try simp only [Act.put, List.setIfInBounds_toArray, List.set_cons_zero, List.set_cons_succ]
      refine tk 28 88 (.bool true) rfl rfl (by kernel_rfl) (by kernel_rfl) (by kernel_rfl) (fun _ _ _ h => h) (Or.inl ⟨by rfl, fun w' h' => ?_⟩) hS ?_
      · go_simp
      refine tk 29 4 (.bool true) rfl rfl (by kernel_rfl) (by kernel_rfl) (by kernel_rfl) (fun _ _ _ h => h) (Or.inl ⟨by rfl, fun w' h' => ?_⟩) hS ?_
      · go_simp
      refine wpAnyH_done (by kernel_rfl) ?_ _
      go_wp2_with fail
      go_ret
      exact ⟨rfl, HX7.out⟩
end Go.Proofs.Ytjnbnjdajkhkpaa

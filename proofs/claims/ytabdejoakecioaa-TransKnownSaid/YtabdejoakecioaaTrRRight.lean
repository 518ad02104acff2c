/-
  Right of package trans, few, and the document's Right of layer 7. Conditions: a segment whose numbers fit their Go types and whose rows lie where the slices lead.
-/
import Derived.Test.YtabdejoakecioaaTrDoc2
import Derived.Test.YtabdejoakecioaaTrPut
namespace Go.Proofs.Ytabdejoakecioaa
open Go.RowKit

section
variable {ops : Array Oper} {rest : List Oper} {o : Oper} {a : Act} {w : World} {Q : Exit → Act → World → Prop}
theorem ldCw (t : TypeId) (x : Operand) (ho : o.op = .load t x) (hw : Region.wanted o (yielded ops a.tmps) = true) (b : Nat) (hx : a.eval x = .pointer (some ⟨b, 0, none⟩)) (cs : List Value) (hc : w.rangeAt b 0 cs) (d : TypeDesc) (hu : Try.prog.underlying t = some d) (hd : d.isRow = true)
    (hi : (Try.prog.info? t).map (·.size) = some cs.length) (k : wpList Try.prog ops Q rest (a.put o.dst (.agg cs.toArray)) w) : wpList Try.prog ops Q (o :: rest) a w :=
  wpList_step fun K hK => by rw [if_pos hw]; exact wp_load_mid _ x ho b 0 hx cs d hc hu hd hi (hK _ _ k)
end
theorem rgP_no {s : Pl} (h : hdN s.pro = 0) : rgP s = false := by unfold rgP; rw [decide_eq_false (by simp [h])]; rfl
set_option maxRecDepth 100000 in
set_option maxHeartbeats 2000000 in
theorem tRight_any (s : Sg) (w : World) (k : s.ok w) (hon9 : s.on ≤ 1000000000000) (hdn9 : s.dn ≤ 281474976710656) : Calls Try.prog 13 #[.agg s.cs.toArray] w (Gives w (.bool (rgP s.p))) := by
  obtain ⟨wA, hwA⟩ : ∃ x, w.alloc (.cells s.cs.toArray 26) = x := ⟨_, rfl⟩
  have hbA : Below w.heap.size w wA := by rw [← hwA]; exact (Below.refl _ _).alloc (Nat.le_refl _) _
  have hsA : w.heap.size < wA.heap.size := by rw [← hwA]; simp
  have hrA : wA.rangeAt w.heap.size 0 s.cs := by rw [← hwA]; exact range_new _ _ _
  have c0 := range_cell hrA s.c0
  have HA : Hid (Below w.heap.size w wA ∧ w.heap.size < wA.heap.size ∧ wA.rangeAt w.heap.size 0 s.cs ∧ s.ok wA) := ⟨hbA, hsA, hrA, k.below hbA⟩
  have HL := Lib.hid (And.intro hon9 hdn9)
  obtain ⟨cs, hcs⟩ : ∃ cs, s.cs.toArray = cs := ⟨_, rfl⟩
  have HCS := Lib.hid hcs
  obtain ⟨kc, hkc⟩ : ∃ kc, (kdV s.p.pro).toArray = kc := ⟨_, rfl⟩
  have HKC := Lib.hid hkc
  have HZ : Hid (∀ w1 : World, (w1.alloc (.cells kZ.toArray 63)).there w1.heap.size 0 (kdV s.p.pro).length) := fun w1 => there_new _ _ _ _ (by rw [kdV_len]; rfl) _ rfl
  have HIK : Hid ((Try.prog.info? 63).map (·.size) = some (kdV s.p.pro).length) := by show _ = _; rw [kdV_len]; exact infK
  obtain ⟨q, hq⟩ : ∃ q, decide (hdN s.p.pro ≠ 0) = q := ⟨_, rfl⟩
  have HQ := Lib.hid hq
  rw [hcs] at hwA ⊢
  clear k hon9 hdn9 hbA hsA hrA hcs hkc hq
  go_enter Try.func13, Try.ntmps13
  go_wp2_with fail
  refine (tKindOf_any s.p.pro _).mono ?_
  rintro e w1 ⟨rfl, hb1⟩
  rw [HKC.out, HQ.out]
  have HP1 := Lib.hid (kind_stored w w1 s Row.no Row.no (HA.out.1.trans (hb1.mono HA.out.1.size)) (Nat.lt_of_lt_of_le HA.out.2.1 hb1.size) (range_kept hb1 HA.out.2.2.1) (HA.out.2.2.2.below hb1) (Row.no_ok _) (Row.no_ok _))
  clear hb1 HA
  go_upto_region 2 with (refine stN (fun w' => Hid (PF w w1.heap.size s Row.no Row.no w')) 63 (.tmp 3) (.tmp 9) rfl rfl w1.heap.size 0 (kdV s.p.pro) rfl (by rw [HKC.out]; rfl) (HZ.out w1) HIK.out (kdV_one _) HP1 ?_; intro w2 H2)
  clear HP1
  obtain ⟨b1, hb⟩ : ∃ x, w1.heap.size = x := ⟨_, rfl⟩
  rw [hb] at H2 ⊢
  clear hb
  cases q with
  | false =>
    have hh : hdN s.p.pro = 0 := by have := HQ.out; simpa using this
    have HV := Lib.hid (rgP_no hh)
    clear hh
    go_wp2_with fail
    go_ret
    exact ⟨by rw [HV.out]; rfl, H2.out.below⟩
  | true =>
    have HH : Hid (hdN s.p.pro ≠ 0) := by have := HQ.out; show _ ≠ _; simpa using this
    go_wp2_with (first
      | (refine ldCw 63 (.tmp 3) rfl (by rfl) b1 rfl (kdV s.p.pro) H2.out.knd _ Try.underlying63 rfl HIK.out ?_; rw [HKC.out])
      | (refine ldSg (.tmp 1) rfl (by rfl) w.heap.size rfl s H2.out.seg ?_; rw [HCS.out]))
    rw [← HKC.out, ← HCS.out]
    refine (tkRight_any s _ w2 H2.out.ok (Below.refl _ _) HH.out HL.out.1 HL.out.2).mono ?_
    rintro e w3 ⟨rfl, hb3⟩
    have HB3 := Lib.hid (H2.out.below.trans (hb3.mono H2.out.below.size))
    clear hb3
    go_wp2_with fail
    go_ret
    exact ⟨rfl, HB3.out⟩

/-- Not too long? -/
def fwS (s : Sg) : Bool := decide (s.on ≤ 100) && (decide (s.dn ≤ 300) || decide (65535 < s.dn))
set_option maxHeartbeats 1000000 in
theorem few7_any (s : Sg) (w : World) : Calls Try.prog 7 #[.agg s.cs.toArray] w (Gives w (.bool (fwS s))) := by
  obtain ⟨wA, hwA⟩ : ∃ x, w.alloc (.cells s.cs.toArray 26) = x := ⟨_, rfl⟩
  have hbA : Below w.heap.size w wA := by rw [← hwA]; exact (Below.refl _ _).alloc (Nat.le_refl _) _
  have hrA : wA.rangeAt w.heap.size 0 s.cs := by rw [← hwA]; exact range_new _ _ _
  have c8 := range_cell hrA s.c8
  have c11 := range_cell hrA s.c11
  have HB := Lib.hid hbA
  have HF : Hid (fwS s = (decide (s.on ≤ 100) && (decide (s.dn ≤ 300) || decide (65535 < s.dn)))) := rfl
  obtain ⟨cs, hcs⟩ : ∃ cs, s.cs.toArray = cs := ⟨_, rfl⟩
  obtain ⟨n, hn⟩ : ∃ x, s.on = x := ⟨_, rfl⟩
  obtain ⟨m, hm⟩ : ∃ x, s.dn = x := ⟨_, rfl⟩
  rw [hn] at c8 HF
  rw [hm] at c11 HF
  rw [hcs] at hwA ⊢
  clear hbA hrA hcs hn hm
  by_cases h1 : n ≤ 100
  · have h1i : (n : Int) ≤ 100 := by omega
    by_cases h2 : m ≤ 300
    · have h2i : (m : Int) ≤ 300 := by omega
      have HV : Hid (fwS s = true) := by show _ = _; rw [HF.out, decide_eq_true h1, decide_eq_true h2]; rfl
      clear h1 h2 HF
      go_enter Try.func7, Try.ntmps7
      go_wp2_with fail
      go_ret
      exact ⟨by rw [HV.out]; rfl, HB.out⟩
    · have h2i : ¬ (m : Int) ≤ 300 := by omega
      by_cases h3 : 65535 < m
      · have h3i : (65535 : Int) < (m : Int) := by omega
        have HV : Hid (fwS s = true) := by show _ = _; rw [HF.out, decide_eq_true h1, decide_eq_true h3]; simp
        clear h1 h2 h3 HF
        go_enter Try.func7, Try.ntmps7
        go_wp2_with fail
        go_ret
        exact ⟨by rw [HV.out]; rfl, HB.out⟩
      · have h3i : ¬ (65535 : Int) < (m : Int) := by omega
        have HV : Hid (fwS s = false) := by show _ = _; rw [HF.out, decide_eq_false h2, decide_eq_false h3]; simp
        clear h1 h2 h3 HF
        go_enter Try.func7, Try.ntmps7
        go_wp2_with fail
        go_ret
        exact ⟨by rw [HV.out]; rfl, HB.out⟩
  · have h1i : ¬ (n : Int) ≤ 100 := by omega
    have HV : Hid (fwS s = false) := by show _ = _; rw [HF.out, decide_eq_false h1]; rfl
    clear h1 HF
    go_enter Try.func7, Try.ntmps7
    go_wp2_with fail
    go_ret
    exact ⟨by rw [HV.out]; rfl, HB.out⟩

/-- Has it nothing of TCP's own? -/
def tcB (s : Pl) : Bool := decide (s.seq = 0) && (decide (s.ack = 0) && (decide (s.fl = 0) && (decide (s.win = 0) && (decide (s.urg = 0) && decide (s.op = [])))))
def owB (s : Pl) : Bool := if s.pro = 6 then decide (s.ty = 0) && decide (s.co = 0) else if s.pro = 17 then tcB s && (decide (s.ty = 0) && decide (s.co = 0)) else tcB s && (decide (s.src = 0) && decide (s.dst = 0))
theorem own_same (s : Pl) : smP s (ownP s s.pro) = owB s := by
  rw [Bool.eq_iff_iff, smP_iff]
  obtain ⟨pro, src, dst, seq, ack, fl, win, urg, op, ty, co, dt⟩ := s
  unfold ownP owB tcB
  by_cases h6 : pro = 6
  · simp [h6]
  · by_cases h17 : pro = 17
    · simp [h17, pl0]
      exact ⟨fun ⟨a, b, c, d, e, f, g, h⟩ => ⟨⟨a, b, c, d, e, f⟩, g, h⟩, fun ⟨⟨a, b, c, d, e, f⟩, g, h⟩ => ⟨a, b, c, d, e, f, g, h⟩⟩
    · simp only [if_neg h6, if_neg h17, pl0, Pl.mk.injEq, Bool.and_eq_true, decide_eq_true_eq, true_and, and_true]
      exact ⟨fun ⟨g, h, a, b, c, d, e, f⟩ => ⟨⟨a, b, c, d, e, f⟩, g, h⟩, fun ⟨⟨a, b, c, d, e, f⟩, g, h⟩ => ⟨g, h, a, b, c, d, e, f⟩⟩
theorem rgP_by (s : Pl) (h : hdN s.pro ≠ 0) : rgP s = (owB s && (decide (s.op.length % 4 = 0) && (decide (s.op.length ≤ 40) && decide (hdN s.pro + s.op.length + s.dt.length ≤ 65535)))) := by
  unfold rgP; rw [decide_eq_true h, own_same, Bool.true_and]
set_option maxRecDepth 100000 in
set_option maxHeartbeats 8000000 in
theorem r7Right_any (s : Pl) (w : World) (ho : s.op.length ≤ 1000000) (hd : s.dt.length ≤ 1000000000000000) : Calls Try.prog 14 #[.agg (rcs s).toArray] w (Gives w (.bool (rgP s))) := by
  obtain ⟨wA, hwA⟩ : ∃ x, w.alloc (.cells (rcs s).toArray 30) = x := ⟨_, rfl⟩
  have hbA : Below w.heap.size w wA := by rw [← hwA]; exact (Below.refl _ _).alloc (Nat.le_refl _) _
  have hrA : wA.rangeAt w.heap.size 0 (rcs s) := by rw [← hwA]; exact range_new _ _ _
  have c0 := range_cell hrA (rcs_c s).1
  have HA := Lib.hid (And.intro hbA hrA)
  have HL := Lib.hid (And.intro ho hd)
  obtain ⟨cs, hcs⟩ : ∃ cs, (rcs s).toArray = cs := ⟨_, rfl⟩
  have HCS := Lib.hid hcs
  rw [hcs] at hwA ⊢
  clear hbA hrA hcs
  by_cases hh : hdN s.pro = 0
  · have HV := Lib.hid (rgP_no hh)
    have hhi : ((hdN s.pro : Nat) : Int) = 0 := by omega
    clear hh ho hd
    go_enter Try.func14, Try.ntmps14
    go_wp2_with fail
    refine (r7Head_any s.pro _).mono ?_
    rintro e wz ⟨rfl, rfl⟩
    rw [hhi]
    go_wp2_with fail
    go_ret
    exact ⟨by rw [HV.out]; rfl, HA.out.1⟩
  have hhb : ((hdN s.pro : Int) == 0) = false := by simp; exact hh
  have HG := Lib.hid (rgP_by s hh)
  have HSZ : Hid ((str s.op).size = s.op.length) := str_size _
  obtain ⟨d, hd'⟩ : ∃ x, hdN s.pro = x := ⟨_, rfl⟩
  have HD := Lib.hid hd'
  obtain ⟨n, hn'⟩ : ∃ x, s.op.length = x := ⟨_, rfl⟩
  have HN := Lib.hid hn'
  obtain ⟨m, hm'⟩ : ∃ x, s.dt.length = x := ⟨_, rfl⟩
  have HM := Lib.hid hm'
  rw [hd'] at hhb HG
  rw [hn'] at HG ho HSZ
  rw [hm'] at HG hd
  obtain ⟨r, hr⟩ : ∃ x, (n : Int).tmod 4 = x := ⟨_, rfl⟩
  have hr' : (r = 0) = (n % 4 = 0) := by rw [← hr, Int.tmod_eq_emod_of_nonneg (by omega)]; simp only [eq_iff_iff]; omega
  have hrw : IntKind.i64.wrap r = r := by rw [IntKind.wrap_i64, ← hr, Int.tmod_eq_emod_of_nonneg (by omega)]; omega
  have HR' := Lib.hid hr'
  have HRR := Lib.hid (And.intro hr hrw)
  clear hh hd' hn' hm' ho hd hr hr' hrw
  go_enter Try.func14, Try.ntmps14
  go_wp2_with fail
  refine (r7Head_any s.pro _).mono ?_
  rintro e wz ⟨rfl, rfl⟩
  rw [HD.out]
  go_wp2_with (refine ldCw 30 (.tmp 1) rfl (by rfl) w.heap.size rfl (rcs s) HA.out.2 _ Try.underlying30 rfl infR ?_; rw [HCS.out])
  rw [← HCS.out]
  refine (r7Length_any s _ HL.out.1 HL.out.2).mono ?_
  rintro e w2 ⟨rfl, hb2⟩
  rw [HD.out, HN.out, HM.out, HCS.out]
  have hr2 := range_kept hb2 HA.out.2
  have HB2 := Lib.hid (HA.out.1.trans (hb2.mono HA.out.1.size))
  by_cases hL : 65535 < d + n + m
  · have hLi : (65535 : Int) < (d : Int) + (n : Int) + (m : Int) := by omega
    have HV : Hid (rgP s = false) := by show _ = _; rw [HG.out, decide_eq_false (show ¬ d + n + m ≤ 65535 by omega)]; simp
    clear hL HG hr2 hb2 c0
    go_wp2_with fail
    go_ret
    exact ⟨by rw [HV.out]; rfl, HB2.out⟩
  have hLi : ¬ (65535 : Int) < (d : Int) + (n : Int) + (m : Int) := by omega
  have hsz := HSZ.out
  have c8 := range_cell hr2 (rcs_c s).2.1
  obtain ⟨u, hu⟩ : ∃ x, str s.op = x := ⟨_, rfl⟩
  rw [hu] at hsz c8
  have HU := Lib.hid hu
  have hszi : (u.size : Int) = (n : Int) := by rw [hsz]
  obtain ⟨hr, hrw⟩ := HRR.out
  clear hsz hu
  by_cases h4 : r = 0
  case neg =>
    have h4b : (r != 0) = true := by simpa using h4
    have HV : Hid (rgP s = false) := by show _ = _; rw [HG.out, decide_eq_false (show ¬ n % 4 = 0 by rw [← HR'.out]; exact h4)]; simp
    clear h4 HG hr2 hb2 c0 hL
    go_wp2_with fail
    go_ret
    exact ⟨by rw [HV.out]; rfl, HB2.out⟩
  have h4b : (r != 0) = false := by simpa using h4
  by_cases h40 : 40 < n
  · have h40i : (40 : Int) < (n : Int) := by omega
    have HV : Hid (rgP s = false) := by show _ = _; rw [HG.out, decide_eq_false (show ¬ n ≤ 40 by omega)]; simp
    clear h4 h40 HG hr2 hb2 c0 hL
    go_wp2_with fail
    go_ret
    exact ⟨by rw [HV.out]; rfl, HB2.out⟩
  have h40i : ¬ (40 : Int) < (n : Int) := by omega
  have HGO : Hid (rgP s = owB s) := by show _ = _; rw [HG.out, decide_eq_true (show n % 4 = 0 by rw [← HR'.out]; exact h4), decide_eq_true (show n ≤ 40 by omega), decide_eq_true (show d + n + m ≤ 65535 by omega)]; simp
  have d0 := range_cell hr2 (rcs_c s).1
  have d1 : w2.cell? ⟨w.heap.size, 1, none⟩ = some (.int .u16 s.src) := range_cell hr2 rfl
  have d2 : w2.cell? ⟨w.heap.size, 2, none⟩ = some (.int .u16 s.dst) := range_cell hr2 rfl
  have d3 : w2.cell? ⟨w.heap.size, 3, none⟩ = some (.int .u32 s.seq) := range_cell hr2 rfl
  have d4 : w2.cell? ⟨w.heap.size, 4, none⟩ = some (.int .u32 s.ack) := range_cell hr2 rfl
  have d5 : w2.cell? ⟨w.heap.size, 5, none⟩ = some (.int .u8 s.fl) := range_cell hr2 rfl
  have d6 : w2.cell? ⟨w.heap.size, 6, none⟩ = some (.int .u16 s.win) := range_cell hr2 rfl
  have d7 : w2.cell? ⟨w.heap.size, 7, none⟩ = some (.int .u16 s.urg) := range_cell hr2 rfl
  have d9 : w2.cell? ⟨w.heap.size, 9, none⟩ = some (.int .u8 s.ty) := range_cell hr2 rfl
  have d10 : w2.cell? ⟨w.heap.size, 10, none⟩ = some (.int .u8 s.co) := range_cell hr2 rfl
  have HOW : Hid (owB s = if s.pro = 6 then decide (s.ty = 0) && decide (s.co = 0) else if s.pro = 17 then tcB s && (decide (s.ty = 0) && decide (s.co = 0)) else tcB s && (decide (s.src = 0) && decide (s.dst = 0))) := rfl
  have HTC : Hid (tcB s = (decide (s.seq = 0) && (decide (s.ack = 0) && (decide (s.fl = 0) && (decide (s.win = 0) && (decide (s.urg = 0) && decide (s.op = []))))))) := rfl
  have HUE : Hid (u.toList = [] ↔ s.op = []) := by
    show _ ↔ _
    rw [← HU.out, str_list]
    constructor
    · intro h; have h2 := ub_len s.op; rw [h] at h2; exact List.eq_nil_of_length_eq_zero h2.symm
    · intro h; rw [h]; rfl
  obtain ⟨P, hP⟩ : ∃ x, s.pro = x := ⟨_, rfl⟩
  obtain ⟨V1, hV1⟩ : ∃ x, s.src = x := ⟨_, rfl⟩
  obtain ⟨V2, hV2⟩ : ∃ x, s.dst = x := ⟨_, rfl⟩
  obtain ⟨V3, hV3⟩ : ∃ x, s.seq = x := ⟨_, rfl⟩
  obtain ⟨V4, hV4⟩ : ∃ x, s.ack = x := ⟨_, rfl⟩
  obtain ⟨V5, hV5⟩ : ∃ x, s.fl = x := ⟨_, rfl⟩
  obtain ⟨V6, hV6⟩ : ∃ x, s.win = x := ⟨_, rfl⟩
  obtain ⟨V7, hV7⟩ : ∃ x, s.urg = x := ⟨_, rfl⟩
  obtain ⟨V9, hV9⟩ : ∃ x, s.ty = x := ⟨_, rfl⟩
  obtain ⟨V10, hV10⟩ : ∃ x, s.co = x := ⟨_, rfl⟩
  rw [hP] at d0 HOW
  rw [hV1] at d1 HOW
  rw [hV2] at d2 HOW
  rw [hV3] at d3 HTC
  rw [hV4] at d4 HTC
  rw [hV5] at d5 HTC
  rw [hV6] at d6 HTC
  rw [hV7] at d7 HTC
  rw [hV9] at d9 HOW
  rw [hV10] at d10 HOW
  clear hP hV1 hV2 hV3 hV4 hV5 hV6 hV7 hV9 hV10 hL h4 h40 HG hr2 hb2 c0
  go_upto_region 3 with fail
  by_cases e3 : V3 = 0
  case neg =>
    have e3b : (V3 == 0) = false := by simpa using e3
    have HTV : Hid (tcB s = false) := by show _ = _; rw [HTC.out, decide_eq_false e3]; simp
    clear e3
    by_cases h6 : P = 6
    · subst h6
      by_cases e9 : V9 = 0
      · subst e9
        have HV : Hid (owB s = (V10 == 0)) := by show _ = _; rw [HOW.out, if_pos rfl]; rfl
        go_wp2_with fail
        go_ret
        exact ⟨by rw [HGO.out, HV.out]; rfl, HB2.out⟩
      · have e9b : (V9 == 0) = false := by simpa using e9
        have HV : Hid (owB s = false) := by show _ = _; rw [HOW.out, if_pos rfl, decide_eq_false e9]; rfl
        clear e9
        go_wp2_with fail
        go_ret
        exact ⟨by rw [HGO.out, HV.out]; rfl, HB2.out⟩
    have h6b : (P == 6) = false := by simpa using h6
    by_cases h17 : P = 17
    · subst h17
      have HV : Hid (owB s = false) := by show _ = _; rw [HOW.out, if_neg (by decide), if_pos rfl, HTV.out]; rfl
      clear h6
      go_wp2_with fail
      go_ret
      exact ⟨by rw [HGO.out, HV.out]; rfl, HB2.out⟩
    have h17b : (P == 17) = false := by simpa using h17
    have HV : Hid (owB s = false) := by show _ = _; rw [HOW.out, if_neg h6, if_neg h17, HTV.out]; rfl
    clear h6 h17
    go_wp2_with fail
    go_ret
    exact ⟨by rw [HGO.out, HV.out]; rfl, HB2.out⟩
  have e3b : (V3 == 0) = true := by simpa using e3
  by_cases e4 : V4 = 0
  case neg =>
    have e4b : (V4 == 0) = false := by simpa using e4
    have HTV : Hid (tcB s = false) := by show _ = _; rw [HTC.out, decide_eq_false e4]; simp
    clear e4
    by_cases h6 : P = 6
    · subst h6
      by_cases e9 : V9 = 0
      · subst e9
        have HV : Hid (owB s = (V10 == 0)) := by show _ = _; rw [HOW.out, if_pos rfl]; rfl
        go_wp2_with fail
        go_ret
        exact ⟨by rw [HGO.out, HV.out]; rfl, HB2.out⟩
      · have e9b : (V9 == 0) = false := by simpa using e9
        have HV : Hid (owB s = false) := by show _ = _; rw [HOW.out, if_pos rfl, decide_eq_false e9]; rfl
        clear e9
        go_wp2_with fail
        go_ret
        exact ⟨by rw [HGO.out, HV.out]; rfl, HB2.out⟩
    have h6b : (P == 6) = false := by simpa using h6
    by_cases h17 : P = 17
    · subst h17
      have HV : Hid (owB s = false) := by show _ = _; rw [HOW.out, if_neg (by decide), if_pos rfl, HTV.out]; rfl
      clear h6
      go_wp2_with fail
      go_ret
      exact ⟨by rw [HGO.out, HV.out]; rfl, HB2.out⟩
    have h17b : (P == 17) = false := by simpa using h17
    have HV : Hid (owB s = false) := by show _ = _; rw [HOW.out, if_neg h6, if_neg h17, HTV.out]; rfl
    clear h6 h17
    go_wp2_with fail
    go_ret
    exact ⟨by rw [HGO.out, HV.out]; rfl, HB2.out⟩
  have e4b : (V4 == 0) = true := by simpa using e4
  by_cases e5 : V5 = 0
  case neg =>
    have e5b : (V5 == 0) = false := by simpa using e5
    have HTV : Hid (tcB s = false) := by show _ = _; rw [HTC.out, decide_eq_false e5]; simp
    clear e5
    by_cases h6 : P = 6
    · subst h6
      by_cases e9 : V9 = 0
      · subst e9
        have HV : Hid (owB s = (V10 == 0)) := by show _ = _; rw [HOW.out, if_pos rfl]; rfl
        go_wp2_with fail
        go_ret
        exact ⟨by rw [HGO.out, HV.out]; rfl, HB2.out⟩
      · have e9b : (V9 == 0) = false := by simpa using e9
        have HV : Hid (owB s = false) := by show _ = _; rw [HOW.out, if_pos rfl, decide_eq_false e9]; rfl
        clear e9
        go_wp2_with fail
        go_ret
        exact ⟨by rw [HGO.out, HV.out]; rfl, HB2.out⟩
    have h6b : (P == 6) = false := by simpa using h6
    by_cases h17 : P = 17
    · subst h17
      have HV : Hid (owB s = false) := by show _ = _; rw [HOW.out, if_neg (by decide), if_pos rfl, HTV.out]; rfl
      clear h6
      go_wp2_with fail
      go_ret
      exact ⟨by rw [HGO.out, HV.out]; rfl, HB2.out⟩
    have h17b : (P == 17) = false := by simpa using h17
    have HV : Hid (owB s = false) := by show _ = _; rw [HOW.out, if_neg h6, if_neg h17, HTV.out]; rfl
    clear h6 h17
    go_wp2_with fail
    go_ret
    exact ⟨by rw [HGO.out, HV.out]; rfl, HB2.out⟩
  have e5b : (V5 == 0) = true := by simpa using e5
  by_cases e6 : V6 = 0
  case neg =>
    have e6b : (V6 == 0) = false := by simpa using e6
    have HTV : Hid (tcB s = false) := by show _ = _; rw [HTC.out, decide_eq_false e6]; simp
    clear e6
    by_cases h6 : P = 6
    · subst h6
      by_cases e9 : V9 = 0
      · subst e9
        have HV : Hid (owB s = (V10 == 0)) := by show _ = _; rw [HOW.out, if_pos rfl]; rfl
        go_wp2_with fail
        go_ret
        exact ⟨by rw [HGO.out, HV.out]; rfl, HB2.out⟩
      · have e9b : (V9 == 0) = false := by simpa using e9
        have HV : Hid (owB s = false) := by show _ = _; rw [HOW.out, if_pos rfl, decide_eq_false e9]; rfl
        clear e9
        go_wp2_with fail
        go_ret
        exact ⟨by rw [HGO.out, HV.out]; rfl, HB2.out⟩
    have h6b : (P == 6) = false := by simpa using h6
    by_cases h17 : P = 17
    · subst h17
      have HV : Hid (owB s = false) := by show _ = _; rw [HOW.out, if_neg (by decide), if_pos rfl, HTV.out]; rfl
      clear h6
      go_wp2_with fail
      go_ret
      exact ⟨by rw [HGO.out, HV.out]; rfl, HB2.out⟩
    have h17b : (P == 17) = false := by simpa using h17
    have HV : Hid (owB s = false) := by show _ = _; rw [HOW.out, if_neg h6, if_neg h17, HTV.out]; rfl
    clear h6 h17
    go_wp2_with fail
    go_ret
    exact ⟨by rw [HGO.out, HV.out]; rfl, HB2.out⟩
  have e6b : (V6 == 0) = true := by simpa using e6
  by_cases e7 : V7 = 0
  case neg =>
    have e7b : (V7 == 0) = false := by simpa using e7
    have HTV : Hid (tcB s = false) := by show _ = _; rw [HTC.out, decide_eq_false e7]; simp
    clear e7
    by_cases h6 : P = 6
    · subst h6
      by_cases e9 : V9 = 0
      · subst e9
        have HV : Hid (owB s = (V10 == 0)) := by show _ = _; rw [HOW.out, if_pos rfl]; rfl
        go_wp2_with fail
        go_ret
        exact ⟨by rw [HGO.out, HV.out]; rfl, HB2.out⟩
      · have e9b : (V9 == 0) = false := by simpa using e9
        have HV : Hid (owB s = false) := by show _ = _; rw [HOW.out, if_pos rfl, decide_eq_false e9]; rfl
        clear e9
        go_wp2_with fail
        go_ret
        exact ⟨by rw [HGO.out, HV.out]; rfl, HB2.out⟩
    have h6b : (P == 6) = false := by simpa using h6
    by_cases h17 : P = 17
    · subst h17
      have HV : Hid (owB s = false) := by show _ = _; rw [HOW.out, if_neg (by decide), if_pos rfl, HTV.out]; rfl
      clear h6
      go_wp2_with fail
      go_ret
      exact ⟨by rw [HGO.out, HV.out]; rfl, HB2.out⟩
    have h17b : (P == 17) = false := by simpa using h17
    have HV : Hid (owB s = false) := by show _ = _; rw [HOW.out, if_neg h6, if_neg h17, HTV.out]; rfl
    clear h6 h17
    go_wp2_with fail
    go_ret
    exact ⟨by rw [HGO.out, HV.out]; rfl, HB2.out⟩
  have e7b : (V7 == 0) = true := by simpa using e7
  by_cases e8 : s.op = []
  case neg =>
    have HTV : Hid (tcB s = false) := by show _ = _; rw [HTC.out, decide_eq_false e8]; simp
    have e8u : ¬ u.toList = [] := fun h => e8 (HUE.out.1 h)
    have e8b : (u.toList == []) = false := by simpa using e8u
    clear e8
    by_cases h6 : P = 6
    · subst h6
      by_cases e9 : V9 = 0
      · subst e9
        have HV : Hid (owB s = (V10 == 0)) := by show _ = _; rw [HOW.out, if_pos rfl]; rfl
        go_wp2_with fail
        go_ret
        exact ⟨by rw [HGO.out, HV.out]; rfl, HB2.out⟩
      · have e9b : (V9 == 0) = false := by simpa using e9
        have HV : Hid (owB s = false) := by show _ = _; rw [HOW.out, if_pos rfl, decide_eq_false e9]; rfl
        clear e9
        go_wp2_with fail
        go_ret
        exact ⟨by rw [HGO.out, HV.out]; rfl, HB2.out⟩
    have h6b : (P == 6) = false := by simpa using h6
    by_cases h17 : P = 17
    · subst h17
      have HV : Hid (owB s = false) := by show _ = _; rw [HOW.out, if_neg (by decide), if_pos rfl, HTV.out]; rfl
      clear h6
      go_wp2_with fail
      go_ret
      exact ⟨by rw [HGO.out, HV.out]; rfl, HB2.out⟩
    have h17b : (P == 17) = false := by simpa using h17
    have HV : Hid (owB s = false) := by show _ = _; rw [HOW.out, if_neg h6, if_neg h17, HTV.out]; rfl
    clear h6 h17
    go_wp2_with fail
    go_ret
    exact ⟨by rw [HGO.out, HV.out]; rfl, HB2.out⟩
  have HTV : Hid (tcB s = true) := by show _ = _; rw [HTC.out, decide_eq_true e3, decide_eq_true e4, decide_eq_true e5, decide_eq_true e6, decide_eq_true e7, decide_eq_true e8]; rfl
  have e8u : u.toList = [] := HUE.out.2 e8
  have e8b : (u.toList == []) = true := by simpa using e8u
  clear e3 e4 e5 e6 e7 e8
  by_cases h6 : P = 6
  · subst h6
    by_cases e9 : V9 = 0
    · subst e9
      have HV : Hid (owB s = (V10 == 0)) := by show _ = _; rw [HOW.out, if_pos rfl]; rfl
      go_wp2_with fail
      go_ret
      exact ⟨by rw [HGO.out, HV.out]; rfl, HB2.out⟩
    · have e9b : (V9 == 0) = false := by simpa using e9
      have HV : Hid (owB s = false) := by show _ = _; rw [HOW.out, if_pos rfl, decide_eq_false e9]; rfl
      clear e9
      go_wp2_with fail
      go_ret
      exact ⟨by rw [HGO.out, HV.out]; rfl, HB2.out⟩
  have h6b : (P == 6) = false := by simpa using h6
  by_cases h17 : P = 17
  · subst h17
    by_cases e9 : V9 = 0
    · subst e9
      have HV : Hid (owB s = (V10 == 0)) := by show _ = _; rw [HOW.out, if_neg (by decide), if_pos rfl, HTV.out]; rfl
      clear h6
      go_wp2_with fail
      go_ret
      exact ⟨by rw [HGO.out, HV.out]; rfl, HB2.out⟩
    · have e9b : (V9 == 0) = false := by simpa using e9
      have HV : Hid (owB s = false) := by show _ = _; rw [HOW.out, if_neg (by decide), if_pos rfl, decide_eq_false e9]; simp
      clear e9 h6
      go_wp2_with fail
      go_ret
      exact ⟨by rw [HGO.out, HV.out]; rfl, HB2.out⟩
  have h17b : (P == 17) = false := by simpa using h17
  by_cases e1 : V1 = 0
  · subst e1
    have HV : Hid (owB s = (V2 == 0)) := by show _ = _; rw [HOW.out, if_neg h6, if_neg h17, HTV.out]; rfl
    clear h6 h17
    go_wp2_with fail
    go_ret
    exact ⟨by rw [HGO.out, HV.out]; rfl, HB2.out⟩
  · have e1b : (V1 == 0) = false := by simpa using e1
    have HV : Hid (owB s = false) := by show _ = _; rw [HOW.out, if_neg h6, if_neg h17, decide_eq_false e1]; simp
    clear e1 h6 h17
    go_wp2_with fail
    go_ret
    exact ⟨by rw [HGO.out, HV.out]; rfl, HB2.out⟩
end Go.Proofs.Ytabdejoakecioaa

/-
  TransBack, walked: for a segment, addresses, a place and a number that lie where the slices lead the call answers true.
-/
import Derived.Test.YtabdejoakecioaaTrBackM
import Derived.Test.YtabdejoakecioaaTrWorks
namespace Go.Proofs.Ytabdejoakecioaa
open Go.RowKit

theorem Cp.blw {w0 w w' : World} {g n cap : Nat} {zs : List Int} (h : Cp w0 w g n cap zs) (hb : Below w.heap.size w w') : Cp w0 w' g n cap zs :=
  ⟨h.own.below hb, h.below.trans (hb.mono h.below.size)⟩
theorem Made.cp {w w2 : World} {xs : List Int} {e : Ending} {n : Nat} (h : Made w xs e w2) (hn : xs.length = n) (hp : 0 < n) : ∃ g cap, e = .returned (.slice (some ⟨g, 0, none⟩) n cap) ∧ Cp w w2 g n cap xs ∧ w.heap.size ≤ g := by
  obtain ⟨a, m, cap, he, hown, hb⟩ := h
  have hm : n = m := by rw [← hn]; exact hown.len
  subst hm
  rcases hown.cases with ⟨_, h0, _⟩ | ⟨g, cur, rfl, _⟩
  · omega
  · exact ⟨g, cap, he, ⟨hown, hb⟩, (hown.blk_ge g rfl).1⟩
/-- What lies in memory while TransBack goes on. -/
structure BF (w : World) (s : Sg) (r1 r2 : Row) (w' : World) : Prop where
  below : Below w.heap.size w w'
  seg : w'.rangeAt w.heap.size 0 s.cs
  ok : s.ok w'
  r1 : r1.ok w'
  r2 : r2.ok w'
theorem BF.next {w w1 w2 : World} {s : Sg} {r1 r2 : Row} (h : BF w s r1 r2 w1) (hb : Below w1.heap.size w1 w2) : BF w s r1 r2 w2 :=
  ⟨h.below.trans (hb.mono h.below.size), range_kept hb h.seg, h.ok.below hb, h.r1.below hb, h.r2.below hb⟩
theorem BF.start (w : World) (s : Sg) (r1 r2 : Row) (k : s.ok w) (k1 : r1.ok w) (k2 : r2.ok w) : BF w s r1 r2 (w.alloc (.cells s.cs.toArray 26)) := by
  have hb : Below w.heap.size w (w.alloc (.cells s.cs.toArray 26)) := (Below.refl _ _).alloc (Nat.le_refl _) _
  exact ⟨hb, range_new _ _ _, k.below hb, k1.below hb, k2.below hb⟩
theorem shorter_yes (p j : Int) (a : Option Addr) (n c : Nat) (w : World) (h : p = 17) (hj : j = 4 ∨ j = 5) : Calls Try.prog 24 #[.int .u8 p, .slice a n c, .int .i64 j] w fun e w' => e = .returned (.bool true) ∧ w = w' := by
  subst h
  rcases hj with rfl | rfl
  · go_enter Try.func24, Try.ntmps24
    go_wp2_with fail
    go_ret
    exact ⟨rfl, rfl⟩
  · go_enter Try.func24, Try.ntmps24
    go_wp2_with fail
    go_ret
    exact ⟨rfl, rfl⟩
theorem turn_ne {x b : Int} (_hx : 0 ≤ x ∧ x < 256) (hb : 0 < b ∧ b < 256) : (0 ≤ IntKind.u8.wrap (x + b) ∧ IntKind.u8.wrap (x + b) < 256) ∧ IntKind.u8.wrap (x + b) ≠ x := by
  rw [IntKind.wrap_u8]; omega
theorem wrap8_range (x : Int) : 0 ≤ IntKind.u8.wrap x ∧ IntKind.u8.wrap x < 256 := by rw [IntKind.wrap_u8]; omega
section
variable {ops : Array Oper} {rest : List Oper} {o : Oper} {a : Act} {w : World} {Q : Exit → Act → World → Prop}
/-- A segment is loaded where a guard asks for it. -/
theorem ldSw (x : Operand) (ho : o.op = .load 26 x) (hw : Region.wanted o (yielded ops a.tmps) = true) (b : Nat) (hx : a.eval x = .pointer (some ⟨b, 0, none⟩)) (s : Sg) (hc : w.rangeAt b 0 s.cs)
    (k : wpList Try.prog ops Q rest (a.put o.dst (.agg s.cs.toArray)) w) : wpList Try.prog ops Q (o :: rest) a w := ldSg x ho hw b hx s hc k
end

set_option maxRecDepth 100000 in
set_option maxHeartbeats 8000000 in
theorem back7_any (s : Sg) (sa : Option Addr) (sn sc : Nat) (src : List Int) (da : Option Addr) (dn dc : Nat) (dst : List Int) (t B : Int) (w : World) (k : s.ok w) (hs : Row.ok w ⟨sa, sn, sc, src⟩) (hd : Row.ok w ⟨da, dn, dc, dst⟩) (b0 : 0 ≤ B) (b1 : B < 256) :
    Calls Try.prog 5 #[.agg s.cs.toArray, .slice sa sn sc, .slice da dn dc, .int .i64 t, .int .u8 B] w (Gives w (.bool true)) := by
  have HA := Lib.hid (BF.start w s ⟨sa, sn, sc, src⟩ ⟨da, dn, dc, dst⟩ k hs hd)
  have hls : src.length = sn := hs.len
  have hld : dst.length = dn := hd.len
  have HLS := Lib.hid hls
  have HLD := Lib.hid hld
  have HON : Hid (s.p.op.length = s.on) := k.opt.len
  have HDN : Hid (s.p.dt.length = s.dn) := k.dat.len
  have HFIT := Lib.hid k.fit
  have HSB := Lib.hid (And.intro hs.byt hd.byt)
  obtain ⟨wA, hwA⟩ : ∃ x, w.alloc (.cells s.cs.toArray 26) = x := ⟨_, rfl⟩
  rw [hwA] at HA
  obtain ⟨cs, hcs⟩ : ∃ cs, s.cs.toArray = cs := ⟨_, rfl⟩
  have HCS := Lib.hid hcs
  have c8 := range_cell HA.out.seg s.c8
  have c11 := range_cell HA.out.seg s.c11
  have HB0 := Lib.hid (And.intro b0 b1)
  obtain ⟨on, hon⟩ : ∃ x, s.on = x := ⟨_, rfl⟩
  obtain ⟨sd, hsd⟩ : ∃ x, s.dn = x := ⟨_, rfl⟩
  rw [hon] at c8
  rw [hsd] at c11
  have HO1 := Lib.hid hon
  have HO2 := Lib.hid hsd
  rw [hcs] at hwA ⊢
  clear k hs hd hls hld hcs hon hsd b0 b1
  by_cases q1 : 100 < on
  · have q1' : (100 : Int) < (on : Int) := by omega
    go_enter Try.func5, Try.ntmps5
    go_wp2_with fail
    refine (works7_any _).mono ?_
    rintro e wk ⟨rfl, hbk⟩
    have HBK := Lib.hid (HA.out.below.trans (hbk.mono HA.out.below.size))
    clear hbk
    go_wp2_with fail
    go_ret
    exact ⟨rfl, HBK.out⟩
  have q1' : ¬ (100 : Int) < (on : Int) := by omega
  by_cases q2 : 300 < sd
  · have q2' : (300 : Int) < (sd : Int) := by omega
    go_enter Try.func5, Try.ntmps5
    go_wp2_with fail
    refine (works7_any _).mono ?_
    rintro e wk ⟨rfl, hbk⟩
    have HBK := Lib.hid (HA.out.below.trans (hbk.mono HA.out.below.size))
    clear hbk
    go_wp2_with fail
    go_ret
    exact ⟨rfl, HBK.out⟩
  have q2' : ¬ (300 : Int) < (sd : Int) := by omega
  by_cases q3 : 40 < sn
  · have q3' : (40 : Int) < (sn : Int) := by omega
    go_enter Try.func5, Try.ntmps5
    go_wp2_with fail
    refine (works7_any _).mono ?_
    rintro e wk ⟨rfl, hbk⟩
    have HBK := Lib.hid (HA.out.below.trans (hbk.mono HA.out.below.size))
    clear hbk
    go_wp2_with fail
    go_ret
    exact ⟨rfl, HBK.out⟩
  have q3' : ¬ (40 : Int) < (sn : Int) := by omega
  by_cases q4 : 40 < dn
  · have q4' : (40 : Int) < (dn : Int) := by omega
    go_enter Try.func5, Try.ntmps5
    go_wp2_with fail
    refine (works7_any _).mono ?_
    rintro e wk ⟨rfl, hbk⟩
    have HBK := Lib.hid (HA.out.below.trans (hbk.mono HA.out.below.size))
    clear hbk
    go_wp2_with fail
    go_ret
    exact ⟨rfl, HBK.out⟩
  have q4' : ¬ (40 : Int) < (dn : Int) := by omega
  have HLIM : Hid (on ≤ 100 ∧ sd ≤ 300) := by show _ ∧ _; omega
  clear q1 q2 q3 q4
  go_enter Try.func5, Try.ntmps5
  go_upto_region 3 with fail
  clear q1' q2' q3' q4' c8 c11
  go_wp2_with (refine ldS (.tmp 5) rfl rfl w.heap.size rfl s HA.out.seg ?_; rw [HCS.out])
  rw [← HCS.out]
  refine (tPut_any s sa da sn sc dn dc src dst _ HA.out.ok HA.out.r1 HA.out.r2 (by rw [HO1.out]; exact HLIM.out.1) (.inl (by rw [HO2.out]; exact HLIM.out.2))).mono ?_
  rintro e w2 ⟨a1, n1, c1, rfl, hown, hb2⟩
  rw [HCS.out]
  have H2 := Lib.hid (HA.out.next hb2)
  by_cases he : ptE s.p sn dn = 0
  case neg =>
    have hp0 : ptB s.p src dst = [] := by unfold ptB; rw [HLS.out, HLD.out, if_neg he]
    rw [hp0] at hown
    have hn0 : n1 = 0 := hown.len.symm
    subst hn0
    obtain ⟨E, hE⟩ : ∃ x, ptE s.p sn dn = x := ⟨_, rfl⟩
    rw [hE] at he ⊢
    have heb : (E != 0) = true := by simpa using he
    clear he hE hown hb2 hp0 HA
    go_wp2_with fail
    refine (works7_any _).mono ?_
    rintro e wk ⟨rfl, hbk⟩
    have HBK := Lib.hid (H2.out.below.trans (hbk.mono H2.out.below.size))
    clear hbk
    go_wp2_with fail
    go_ret
    exact ⟨rfl, HBK.out⟩
  obtain ⟨h0, hrg, had⟩ := ptE_zero.1 he
  have hpX : ptB s.p src dst = sbS s.p (ckS s.p src dst) := by unfold ptB; rw [HLS.out, HLD.out, if_pos he]
  have hbk := back_any s.p (ckS s.p src dst) HFIT.out hrg
  have hsnd := put_sound s.p src dst HFIT.out hrg HSB.out.1 HSB.out.2 (by rw [HLS.out, HLD.out]; exact had)
  have hfnd := fun j v => back_find s.p src dst j v HFIT.out hrg HSB.out.1 HSB.out.2 (by rw [HLS.out, HLD.out]; exact had) (sbS s.p (ckS s.p src dst)) rfl
  have hby := sbS_byt s.p (ckS s.p src dst) HFIT.out.op HFIT.out.dt
  have hlen := sbS_len s.p (ckS s.p src dst) h0
  rw [HON.out, HDN.out, HO1.out, HO2.out] at hlen
  have hhd : 4 ≤ hdN s.p.pro ∧ hdN s.p.pro ≤ 20 ∧ (s.p.pro = 17 → hdN s.p.pro = 8) := by
    rcases hdN_pro' h0 with e | e | e | e <;> rw [e] <;> simp [hdN]
  rw [hpX] at hown
  obtain ⟨X, hX⟩ : ∃ x, sbS s.p (ckS s.p src dst) = x := ⟨_, rfl⟩
  rw [hX] at hown hbk hsnd hfnd hby hlen
  rw [he]
  have hnx : X.length = n1 := hown.len
  have HN1 : Hid (4 ≤ n1 ∧ n1 ≤ 420 ∧ (s.p.pro = 17 → 8 ≤ n1)) := by
    have h1 := HLIM.out
    exact ⟨by omega, by omega, fun e => by have := hhd.2.2 e; omega⟩
  have HX := Lib.hid (And.intro hnx hby)
  have HSND := Lib.hid hsnd
  have HFND := Lib.hid hfnd
  have HBKE := Lib.hid hbk.e
  have HBKP := Lib.hid hbk.p
  have HR2 : Hid (Row.ok w2 ⟨a1, n1, c1, X⟩) := ⟨hnx, hown.le.1, hown.le.2, hown.rd, hby⟩
  have q0 := range_cell H2.out.seg s.c0
  clear he h0 hrg had hpX hbk hsnd hfnd hby hlen hhd hX hown hb2 hnx HA HON HDN HO1 HO2 HLIM hwA HFIT HSB
  go_wp2_with fail
  refine (tParse_any s.p.pro a1 n1 c1 X _ HR2.out (by have := HN1.out; omega)).mono ?_
  rintro e w3 ⟨⟨s3, rfl, hp3, ho3, hd3, _⟩, hb3⟩
  rw [HBKE.out]
  rw [HBKP.out] at hp3
  have hf3 : s3.p.fit := by rw [hp3]; exact H2.out.ok.fit
  have hk3 : s3.ok w3 := ⟨hf3, ⟨ho3.len, ho3.le.1, ho3.le.2, ho3.rd, hf3.op⟩, ⟨hd3.len, hd3.le.1, hd3.le.2, hd3.rd, hf3.dt⟩⟩
  obtain ⟨hs1, hs2, hs3⟩ := seg_stored w w3 s3 (H2.out.below.trans (hb3.mono H2.out.below.size))
  have HT3 : Hid ((w3.alloc (.cells sg0.cs.toArray 26)).there w3.heap.size 0 12) := there_new _ _ _ _ rfl _ rfl
  have HS3 : Hid (BF w s ⟨sa, sn, sc, src⟩ ⟨da, dn, dc, dst⟩ ((w3.alloc (.cells sg0.cs.toArray 26)).setCells w3.heap.size 0 s3.cs) ∧ ((w3.alloc (.cells sg0.cs.toArray 26)).setCells w3.heap.size 0 s3.cs).rangeAt w3.heap.size 0 s3.cs ∧ s3.ok ((w3.alloc (.cells sg0.cs.toArray 26)).setCells w3.heap.size 0 s3.cs) ∧ Row.ok ((w3.alloc (.cells sg0.cs.toArray 26)).setCells w3.heap.size 0 s3.cs) ⟨a1, n1, c1, X⟩) :=
    ⟨(H2.out.next hb3).next hs2, hs3, hk3.below hs2, (HR2.out.below hb3).below hs2⟩
  have HSM : Hid (smP s3.p s.p = true) := by show _ = _; rw [hp3]; exact smP_self _
  clear hp3 ho3 hd3 hb3 hf3 hk3 hs1 hs2 hs3 q0 H2 HR2
  obtain ⟨g3, hg3⟩ : ∃ x, s3.cs.toArray = x := ⟨_, rfl⟩
  have HG3 := Lib.hid hg3
  rw [hg3]
  clear hg3
  go_upto_region 7 with (refine stN (fun w' => Hid (BF w s ⟨sa, sn, sc, src⟩ ⟨da, dn, dc, dst⟩ w' ∧ w'.rangeAt w3.heap.size 0 s3.cs ∧ s3.ok w' ∧ Row.ok w' ⟨a1, n1, c1, X⟩)) 26 (.tmp 13) (.tmp 58) rfl rfl w3.heap.size 0 s3.cs rfl (by rw [HG3.out]; rfl) HT3.out infS (Sg.one _) HS3 ?_; intro w4 H4)
  clear HS3 HT3
  go_wp2_with (first
    | (refine ldSw (.tmp 13) rfl (by rfl) w3.heap.size rfl s3 H4.out.2.1 ?_; rw [HG3.out])
    | (refine ldSw (.tmp 5) rfl (by rfl) w.heap.size rfl s H4.out.1.seg ?_; rw [HCS.out]))
  rw [← HG3.out, ← HCS.out]
  refine (tSame_any s3 s _ H4.out.2.2.1 H4.out.1.ok).mono ?_
  rintro e w5 ⟨rfl, hb5⟩
  rw [HSM.out, HG3.out, HCS.out]
  have H5 := Lib.hid (And.intro (H4.out.1.next hb5) (H4.out.2.2.2.below hb5))
  clear hb5 H4
  have q0 := range_cell H5.out.1.seg s.c0
  go_wp2_with fail
  refine (tSound_any s.p.pro a1 sa da n1 c1 sn sc dn dc X src dst _ H5.out.2 H5.out.1.r1 H5.out.1.r2 (by have := HN1.out; omega)).mono ?_
  rintro e w6 ⟨rfl, hb6⟩
  rw [HSND.out.1]
  have H6 := Lib.hid (And.intro (H5.out.1.next hb6) (H5.out.2.below hb6))
  clear hb6 H5 q0
  have q0 := range_cell H6.out.1.seg s.c0
  go_wp2_with fail
  refine (tSound_any s.p.pro a1 da sa n1 c1 dn dc sn sc X dst src _ H6.out.2 H6.out.1.r2 H6.out.1.r1 (by have := HN1.out; omega)).mono ?_
  rintro e w7 ⟨rfl, hb7⟩
  rw [HSND.out.2]
  have H7 := Lib.hid (And.intro (H6.out.1.next hb7) (H6.out.2.below hb7))
  clear hb7 H6 q0
  go_wp2_with fail
  refine (join_any none a1 0 0 n1 c1 [] X _ rfl HX.out.1 (Rd.empty _ _) H7.out.2.rd (by have := HN1.out; omega)).mono ?_
  intro e w8 hm
  obtain ⟨g, cap, rfl, hcp, _⟩ := Made.cp (n := n1) (by rw [List.nil_append] at hm; exact hm) HX.out.1 (by have := HN1.out; omega)
  have H8 := Lib.hid (H7.out.1.next hcp.below)
  have H7B := Lib.hid H7.out.1
  have HCP := Lib.hid hcp
  have HS7 : Hid (w.heap.size ≤ w7.heap.size) := H7.out.1.below.size
  clear hm hcp H7
  have hmx : (1 : Int) < (n1 : Int) := by have := HN1.out; omega
  go_wp2_with fail
  clear hmx
  have hmx1 : (0 : Int) < (n1 : Int) := by have := HN1.out; omega
  refine (kPick_any t (n1 : Int) _ hmx1 (by have := HN1.out; omega)).mono ?_
  rintro e wz ⟨rfl, rfl⟩
  obtain ⟨j, hj⟩ : ∃ j : Nat, t % (n1 : Int) = (j : Int) := ⟨(t % (n1 : Int)).toNat, by have := Int.emod_nonneg t (show (n1 : Int) ≠ 0 by omega); omega⟩
  have hjn : j < n1 := by have := Int.emod_lt_of_pos t hmx1; omega
  rw [hj]
  clear hj hmx1
  obtain ⟨x, hx⟩ : ∃ x, X.getD j 0 = x := ⟨_, rfl⟩
  obtain ⟨cl, cf⟩ := HCP.out.at_ hjn
  rw [hx] at cl
  have hxr : 0 ≤ x ∧ x < 256 := by rw [← hx]; exact HX.out.2.get j
  have hji : (j : Int) < (n1 : Int) := by omega
  obtain ⟨v, hv⟩ : ∃ v, IntKind.u8.wrap (x + B) = v := ⟨_, rfl⟩
  have hv8 : 0 ≤ v ∧ v < 256 := by rw [← hv]; exact wrap8_range _
  have HVN : Hid (0 < B → v ≠ x) := fun hB => by rw [← hv]; exact (turn_ne hxr ⟨hB, HB0.out.2⟩).2
  have HXJ := Lib.hid hx
  have HV8 := Lib.hid hv8
  clear hx hxr hv8
  go_upto_region 12 with fail
  have HC9 := Lib.hid (HCP.out.set j v)
  have hk9 : Kept (fun b => b = g) w8 (w8.setCell ⟨g, j, none⟩ (.int .u8 v)) := Kept.setCell (S := fun b => b = g) _ _ _ rfl
  obtain ⟨w9, hw9⟩ : ∃ y, w8.setCell ⟨g, j, none⟩ (.int .u8 v) = y := ⟨_, rfl⟩
  have HGE : Hid (w7.heap.size ≤ g) := (HCP.out.own.blk_ge g rfl).1
  rw [hw9] at HC9 hk9 ⊢
  have H9 : Hid (BF w s ⟨sa, sn, sc, src⟩ ⟨da, dn, dc, dst⟩ w9) := by
    have hlt : w.heap.size < w7.heap.size ∨ w.heap.size ≤ w7.heap.size := .inr HS7.out
    have hb : Below w7.heap.size w7 w9 := HC9.out.below
    exact ⟨H7B.out.below.trans (hb.mono H7B.out.below.size), range_kept hb H7B.out.seg, H7B.out.ok.below hb, H7B.out.r1.below hb, H7B.out.r2.below hb⟩
  obtain ⟨Y, hY⟩ : ∃ y, X.set j v = y := ⟨_, rfl⟩
  rw [hY] at HC9
  have HYY := Lib.hid hY
  have HYB : Hid (Byt Y) := by show Byt _; rw [← hY]; exact HX.out.2.set j HV8.out
  have HYR : Hid (Row.ok w9 ⟨some ⟨g, 0, none⟩, n1, cap, Y⟩) := ⟨HC9.out.own.len, HC9.out.own.le.1, HC9.out.own.le.2, HC9.out.own.rd, HYB.out⟩
  have HF9 : Hid (0 < B → ¬ (s.p.pro = 17 ∧ Y.getD 6 0 = 0 ∧ Y.getD 7 0 = 0) → ¬ (s.p.pro = 17 ∧ (j = 4 ∨ j = 5)) → snd s.p.pro Y src dst = false) := fun hB h1 h2 => by
    have := HFND.out j v (by rw [HX.out.1]; exact hjn) HV8.out (by rw [HXJ.out]; exact HVN.out hB)
    rw [hY] at this
    exact this h1 h2
  have q0 := range_cell H9.out.seg s.c0
  have HBY := HB0.out
  clear hY hw9 hk9 HCP H8 cl cf hji hv HX HXJ HV8 HVN HFND HSND HBKE HBKP HSM
  obtain ⟨P, hP⟩ : ∃ x, s.p.pro = x := ⟨_, rfl⟩
  have HPP := Lib.hid hP
  rw [hP] at q0 HF9
  have HN8 : Hid (P = 17 → 8 ≤ n1) := fun e => HN1.out.2.2 (by rw [HPP.out]; exact e)
  clear hP
  obtain ⟨hb0, hb1⟩ := HBY
  by_cases hB : B = 0
  · subst hB
    by_cases h17 : P = 17
    · subst h17
      have z6 := (HC9.out.at_ (j := 6) (by have := HN8.out rfl; omega)).1
      have z7 := (HC9.out.at_ (j := 7) (by have := HN8.out rfl; omega)).1
      have n6 : (6 : Int) < (n1 : Int) := by have := HN8.out rfl; omega
      have n7 : (7 : Int) < (n1 : Int) := by have := HN8.out rfl; omega
      obtain ⟨y6, hy6⟩ : ∃ y, Y.getD 6 0 = y := ⟨_, rfl⟩
      obtain ⟨y7, hy7⟩ : ∃ y, Y.getD 7 0 = y := ⟨_, rfl⟩
      rw [hy6] at z6
      rw [hy7] at z7
      clear hy6 hy7
      by_cases e6 : y6 = 0
      · subst e6
        by_cases e7 : y7 = 0
        · subst e7
          go_wp2_with fail
          refine (works7_any _).mono ?_
          rintro e wk ⟨rfl, hbk⟩
          have HBK := Lib.hid (H9.out.below.trans (hbk.mono H9.out.below.size))
          clear hbk
          go_wp2_with fail
          go_ret
          exact ⟨rfl, HBK.out⟩
        · have e7b : (y7 == 0) = false := by simpa using e7
          clear e7
          go_wp2_with fail
          refine (works7_any _).mono ?_
          rintro e wk ⟨rfl, hbk⟩
          have HBK := Lib.hid (H9.out.below.trans (hbk.mono H9.out.below.size))
          clear hbk
          go_wp2_with fail
          go_ret
          exact ⟨rfl, HBK.out⟩
      · have e6b : (y6 == 0) = false := by simpa using e6
        clear e6
        go_wp2_with fail
        refine (works7_any _).mono ?_
        rintro e wk ⟨rfl, hbk⟩
        have HBK := Lib.hid (H9.out.below.trans (hbk.mono H9.out.below.size))
        clear hbk
        go_wp2_with fail
        go_ret
        exact ⟨rfl, HBK.out⟩
    · have h17b : (P == 17) = false := by simpa using h17
      clear h17
      go_wp2_with fail
      refine (works7_any _).mono ?_
      rintro e wk ⟨rfl, hbk⟩
      have HBK := Lib.hid (H9.out.below.trans (hbk.mono H9.out.below.size))
      clear hbk
      go_wp2_with fail
      go_ret
      exact ⟨rfl, HBK.out⟩
  have hBp : 0 < B := by omega
  clear hB hb0
  by_cases h17 : P = 17
  · subst h17
    have z6 := (HC9.out.at_ (j := 6) (by have := HN8.out rfl; omega)).1
    have z7 := (HC9.out.at_ (j := 7) (by have := HN8.out rfl; omega)).1
    have n6 : (6 : Int) < (n1 : Int) := by have := HN8.out rfl; omega
    have n7 : (7 : Int) < (n1 : Int) := by have := HN8.out rfl; omega
    obtain ⟨y6, hy6⟩ : ∃ y, Y.getD 6 0 = y := ⟨_, rfl⟩
    obtain ⟨y7, hy7⟩ : ∃ y, Y.getD 7 0 = y := ⟨_, rfl⟩
    rw [hy6] at z6
    rw [hy7] at z7
    have HY6 := Lib.hid hy6
    have HY7 := Lib.hid hy7
    clear hy6 hy7
    by_cases e6 : y6 = 0
    · by_cases e7 : y7 = 0
      · subst e6
        subst e7
        go_wp2_with fail
        refine (works7_any _).mono ?_
        rintro e wk ⟨rfl, hbk⟩
        have HBK := Lib.hid (H9.out.below.trans (hbk.mono H9.out.below.size))
        clear hbk
        go_wp2_with fail
        go_ret
        exact ⟨rfl, HBK.out⟩
      · have HNO : Hid (¬ ((17 : Int) = 17 ∧ Y.getD 6 0 = 0 ∧ Y.getD 7 0 = 0)) := fun h => e7 (by rw [← HY7.out]; exact h.2.2)
        have e7b : (y7 == 0) = false := by simpa using e7
        subst e6
        clear e7
        go_wp2_with fail
        refine (tSound_any 17 (some ⟨g, 0, none⟩) sa da n1 cap sn sc dn dc Y src dst _ HYR.out H9.out.r1 H9.out.r2 (by have := HN1.out; omega)).mono ?_
        rintro e wS ⟨rfl, hbS⟩
        have HSB := Lib.hid (H9.out.next hbS)
        have q0' := range_cell HSB.out.seg s.c0
        rw [HPP.out] at q0'
        clear hbS q0
        by_cases hsh : j = 4 ∨ j = 5
        · cases hsv : snd 17 Y src dst with
          | false =>
            clear hsv
            go_wp2_with fail
            refine (works7_any _).mono ?_
            rintro e wk ⟨rfl, hbk⟩
            have HBK := Lib.hid (HSB.out.below.trans (hbk.mono HSB.out.below.size))
            clear hbk
            go_wp2_with fail
            go_ret
            exact ⟨rfl, HBK.out⟩
          | true =>
            clear hsv
            go_wp2_with fail
            refine (shorter_yes 17 (j : Int) (some ⟨g, 0, none⟩) n1 cap _ rfl (by omega)).mono ?_
            rintro e wz ⟨rfl, rfl⟩
            go_wp2_with fail
            refine (works7_any _).mono ?_
            rintro e wk ⟨rfl, hbk⟩
            have HBK := Lib.hid (HSB.out.below.trans (hbk.mono HSB.out.below.size))
            clear hbk
            go_wp2_with fail
            go_ret
            exact ⟨rfl, HBK.out⟩
        · have hsv := HF9.out hBp HNO.out (fun h => hsh h.2)
          rw [hsv]
          clear hsv
          go_wp2_with fail
          refine (works7_any _).mono ?_
          rintro e wk ⟨rfl, hbk⟩
          have HBK := Lib.hid (HSB.out.below.trans (hbk.mono HSB.out.below.size))
          clear hbk
          go_wp2_with fail
          go_ret
          exact ⟨rfl, HBK.out⟩
    · have HNO : Hid (¬ ((17 : Int) = 17 ∧ Y.getD 6 0 = 0 ∧ Y.getD 7 0 = 0)) := fun h => e6 (by rw [← HY6.out]; exact h.2.1)
      have e6b : (y6 == 0) = false := by simpa using e6
      clear e6
      go_wp2_with fail
      refine (tSound_any 17 (some ⟨g, 0, none⟩) sa da n1 cap sn sc dn dc Y src dst _ HYR.out H9.out.r1 H9.out.r2 (by have := HN1.out; omega)).mono ?_
      rintro e wS ⟨rfl, hbS⟩
      have HSB := Lib.hid (H9.out.next hbS)
      have q0' := range_cell HSB.out.seg s.c0
      rw [HPP.out] at q0'
      clear hbS q0
      by_cases hsh : j = 4 ∨ j = 5
      · cases hsv : snd 17 Y src dst with
        | false =>
          clear hsv
          go_wp2_with fail
          refine (works7_any _).mono ?_
          rintro e wk ⟨rfl, hbk⟩
          have HBK := Lib.hid (HSB.out.below.trans (hbk.mono HSB.out.below.size))
          clear hbk
          go_wp2_with fail
          go_ret
          exact ⟨rfl, HBK.out⟩
        | true =>
          clear hsv
          go_wp2_with fail
          refine (shorter_yes 17 (j : Int) (some ⟨g, 0, none⟩) n1 cap _ rfl (by omega)).mono ?_
          rintro e wz ⟨rfl, rfl⟩
          go_wp2_with fail
          refine (works7_any _).mono ?_
          rintro e wk ⟨rfl, hbk⟩
          have HBK := Lib.hid (HSB.out.below.trans (hbk.mono HSB.out.below.size))
          clear hbk
          go_wp2_with fail
          go_ret
          exact ⟨rfl, HBK.out⟩
      · have hsv := HF9.out hBp HNO.out (fun h => hsh h.2)
        rw [hsv]
        clear hsv
        go_wp2_with fail
        refine (works7_any _).mono ?_
        rintro e wk ⟨rfl, hbk⟩
        have HBK := Lib.hid (HSB.out.below.trans (hbk.mono HSB.out.below.size))
        clear hbk
        go_wp2_with fail
        go_ret
        exact ⟨rfl, HBK.out⟩
  · have HNO : Hid (¬ (P = 17 ∧ Y.getD 6 0 = 0 ∧ Y.getD 7 0 = 0)) := fun h => h17 h.1
    have h17b : (P == 17) = false := by simpa using h17
    have HSF := Lib.hid (HF9.out hBp HNO.out (fun h => h17 h.1))
    clear h17
    go_wp2_with fail
    refine (tSound_any P (some ⟨g, 0, none⟩) sa da n1 cap sn sc dn dc Y src dst _ HYR.out H9.out.r1 H9.out.r2 (by have := HN1.out; omega)).mono ?_
    rintro e wS ⟨rfl, hbS⟩
    have HSB := Lib.hid (H9.out.next hbS)
    have q0' := range_cell HSB.out.seg s.c0
    rw [HPP.out] at q0'
    clear hbS q0
    rw [HSF.out]
    go_wp2_with fail
    refine (works7_any _).mono ?_
    rintro e wk ⟨rfl, hbk⟩
    have HBK := Lib.hid (HSB.out.below.trans (hbk.mono HSB.out.below.size))
    clear hbk
    go_wp2_with fail
    go_ret
    exact ⟨rfl, HBK.out⟩
end Go.Proofs.Ytabdejoakecioaa

/-
  BucketBounds' walk. Conditions: rows of numbers that fit their Go types. (Made by gen_bkbounds.py.)
-/
import Derived.Test.YtngjlippfifkiaaBkBoundsM
namespace Go.Proofs.Ytngjlippfifkiaa
open Go.RowKit

theorem rdk_cell {k : IntKind} {w : World} {a : Option Addr} {xs : List Int} (h : RdK k w a xs) {i : Nat} (hi : i < xs.length) : ∃ b o, a = some ⟨b, o, none⟩ ∧ w.cell? ⟨b, o + i, none⟩ = some (.int k (xs.getD i 0)) := by
  obtain ⟨b, o, rfl, hc⟩ := h (by intro e; rw [e] at hi; simp at hi)
  exact ⟨b, o, rfl, hc i hi⟩
/-- Two rows of the call's own, one grown by a number behind the other. -/
theorem Bs.grow {w wr : World} {g : Nat} {b' : Bu} {i : Nat} {aA aT : Option Addr} {cA cT : Nat} {ats tks : List Int} {t v : Int} (hS : St w wr g b') (hA : OwnG wr w.heap.size 22 1 aA i cA (ats.map (Value.int .u64))) (hT : OwnG wr w.heap.size 22 1 aT i cT (tks.map (Value.int .u64)))
    (hap : ∀ k, blk aA = some k → ¬ blk aT = some k) (hi : i ≤ 60) (hB : Bnd b' (ats ++ [t]) (tks ++ [v])) :
    ∃ gA cA' w1 gT cT' w2, (Builtin.append_ #[40, 40] 40 #[.slice aA i cA, .slice (some ⟨wr.heap.size, 0, none⟩) 1 1]).run Try.prog (wr.alloc (.cells #[.int .u64 t] 22)) = .ok (.slice (some ⟨gA, 0, none⟩) (i + 1) cA') w1 ∧
      (Builtin.append_ #[40, 40] 40 #[.slice aT i cT, .slice (some ⟨w1.heap.size, 0, none⟩) 1 1]).run Try.prog (w1.alloc (.cells #[.int .u64 v] 22)) = .ok (.slice (some ⟨gT, 0, none⟩) (i + 1) cT') w2 ∧
      Bs w w2 g b' (i + 1) (some ⟨gA, 0, none⟩) cA' (ats ++ [t]) (some ⟨gT, 0, none⟩) cT' (tks ++ [v]) := by
  obtain ⟨gA, cA', w1, hr1, ho1, hk1, hx1⟩ := run_append_one wr w.heap.size 40 40 22 (.int .u64 0) 1 8 u64_info Try.underlying40 rfl (by omega) hA [.int .u64 t] rfl (by simp [Value.oneCell']) hS.below.size (by omega) (by omega)
  have hT1 := hT.keep hk1 (fun k hk h => hap k h hk)
  have hS1 : St w w1 g b' := ⟨hS.bk.keep hk1 (fun h => hA.offB hS.bk tU64_ne g h rfl), hS.below.trans (hk1.below hS.below.size (fun k h => (hA.blk_ge k h).1)), hS.own⟩
  obtain ⟨gT, cT', w2, hr2, ho2, hk2, hx2⟩ := run_append_one w1 w.heap.size 40 40 22 (.int .u64 0) 1 8 u64_info Try.underlying40 rfl (by omega) hT1 [.int .u64 v] rfl (by simp [Value.oneCell']) hS1.below.size (by omega) (by omega)
  have hne : ∀ k, blk (some ⟨gA, 0, none⟩) = some k → ¬ blk aT = some k := by
    intro k hk h
    simp [blk] at hk
    subst hk
    rcases hx1 with hx | hx
    · exact hap _ hx h
    · have := (hT.blk_ge _ h).2
      omega
  refine ⟨gA, cA', w1, gT, cT', w2, hr1, hr2, ⟨hS1.bk.keep hk2 (fun h => hT1.offB hS1.bk tU64_ne g h rfl), hS1.below.trans (hk2.below hS1.below.size (fun k h => (hT1.blk_ge k h).1)), hS.own⟩, ?_, ?_, ?_, hB⟩
  · rw [List.map_append]
    exact ho1.keep hk2 (fun k hk h => hne k hk h)
  · rw [List.map_append]
    exact ho2
  · intro k hk h
    simp [blk] at hk h
    subst hk
    rcases hx2 with hx | hx
    · exact hne gA rfl (by rw [hx, h])
    · have := (ho1.blk_ge gA rfl).2
      omega

set_option maxRecDepth 100000 in
set_option maxHeartbeats 8000000 in
theorem bounds_any (r B : Int) (a1 : Option Addr) (n1 c1 : Nat) (xs : List Int) (a2 : Option Addr) (n2 c2 : Nat) (ys : List Int) (w : World) (r0 : 0 ≤ r) (r1 : r ≤ 65535) (B0 : 0 ≤ B) (B1 : B ≤ 65535)
    (hn1 : xs.length = n1) (hn2 : ys.length = n2) (hm1 : n1 ≤ 9223372036854775807) (hm2 : n2 ≤ 9223372036854775807) (hx : RdK .u64 w a1 xs) (hxw : ∀ y ∈ xs, (Lit.int .u64 y).wf = true) (hy : RdK .u16 w a2 ys) (hyw : ∀ y ∈ ys, (Lit.int .u16 y).wf = true) :
    Calls Try.prog 4 #[.int .u16 r, .int .u16 B, .slice a1 n1 c1, .slice a2 n2 c2] w (Yes w) := by
  have HX := Lib.hid hx
  have HY := Lib.hid hy
  have HXW := Lib.hid hxw
  have HYW := Lib.hid hyw
  have HN1 := Lib.hid hn1
  have HN2 := Lib.hid hn2
  clear hx hy hxw hyw hn1 hn2
  have e1 : IntKind.u64.wrap r = r := by rw [IntKind.wrap_u64]; omega
  have e2 : IntKind.u64.wrap B = B := by rw [IntKind.wrap_u64]; omega
  by_cases hb1 : 60 < n1
  · go_enter Try.func4, Try.ntmps4
    go_wp2_with fail
    refine (works10_any _).mono ?_
    rintro e w1 ⟨rfl, hb⟩
    have HB := Lib.hid hb
    clear hb
    go_wp2_with fail
    go_ret
    exact ⟨rfl, HB.out⟩
  by_cases hb2 : 60 < n2
  · go_enter Try.func4, Try.ntmps4
    go_wp2_with fail
    refine (works10_any _).mono ?_
    rintro e w1 ⟨rfl, hb⟩
    have HB := Lib.hid hb
    clear hb
    go_wp2_with fail
    go_ret
    exact ⟨rfl, HB.out⟩
  go_enter Try.func4, Try.ntmps4
  go_wp2_with fail
  refine (new_any r B 0 _ ⟨r0, by show r ≤ _; omega, by show B ≤ _; omega, Int.le_refl _, by show (0 : Int) ≤ _; decide, B0, Int.le_refl _⟩).mono ?_
  rintro e w1 ⟨g, rfl, ho, hb, hl⟩
  have HS : Hid (∃ K cA ats cT tks, Bs w w1 g ⟨r, B, 0, K⟩ 0 none cA ats none cT tks ∧ (0 : Int) ≤ 0 * 1099511627776 ∧ cA = 0 ∧ cT = 0) := ⟨B, 0, [], 0, [], ⟨St.start ho hb hl, OwnG.nil _ _ _ _, OwnG.nil _ _ _ _, fun _ h => (by cases h), Bnd.nil _⟩, by decide, rfl, rfl⟩
  clear ho hb hl
  go_wp2_with fail
  go_loopw [10, 11, 12, 13] (fun at_ tk_ t_ i_ wr => ∃ (k : Nat) (T : Int) (aA : Option Addr) (cA : Nat) (aT : Option Addr) (cT : Nat), at_ = .slice aA k cA ∧ tk_ = .slice aT k cT ∧ t_ = .int .u64 T ∧ i_ = .int .i64 k ∧ k ≤ n1 ∧ k ≤ n2 ∧ T ≤ k * 1099511627776 ∧
      Hid (∃ K ats tks, Bs w wr g ⟨r, B, T, K⟩ k aA cA ats aT cT tks)) (fun _ _ _ i_ => fun _ => n1 - (intOf i_).toNat)
  case atStart =>
    obtain ⟨K, cA, ats, cT, tks, h, _, rfl, rfl⟩ := HS.out
    exact ⟨0, 0, none, 0, none, 0, rfl, rfl, rfl, rfl, Nat.zero_le _, Nat.zero_le _, by decide, K, ats, tks, h⟩
  case round =>
    obtain ⟨k, T, aA, cA, aT, cT, rfl, rfl, rfl, rfl, hk1, hk2, hT, hst⟩ := hrel
    clear HS
    by_cases hlt1 : k < n1
    · by_cases hlt2 : k < n2
      · obtain ⟨K, ats, tks, hbs⟩ := hst.out
        have HBS := Lib.hid hbs
        obtain ⟨xb, xo, rfl, hxc⟩ := rdk_cell HX.out (i := k) (by rw [HN1.out]; exact hlt1)
        obtain ⟨yb, yo, rfl, hyc⟩ := rdk_cell HY.out (i := k) (by rw [HN2.out]; exact hlt2)
        have hxk := cell_kept hbs.st.below hxc
        have hyk := cell_kept hbs.st.below hyc
        have hxv := wfU (wf_get HXW.out (i := k) (by rw [HN1.out]; exact hlt1))
        have hyv := bounds_u16 (wf_get HYW.out (i := k) (by rw [HN2.out]; exact hlt2))
        have T0 : 0 ≤ T := hbs.st.bk.1.T0
        obtain ⟨x, hx⟩ : ∃ x, xs.getD k 0 = x := ⟨_, rfl⟩
        obtain ⟨y, hy⟩ : ∃ y, ys.getD k 0 = y := ⟨_, rfl⟩
        rw [hx] at hxk hxv
        rw [hy] at hyk hyv hyc
        have HYC := Lib.hid hyc
        obtain ⟨y0, y1⟩ := hyv
        have f1 : x.tmod 1099511627776 = x % 1099511627776 := Int.tmod_eq_emod_of_nonneg hxv.1
        obtain ⟨d, hd⟩ : ∃ d, x % 1099511627776 = d := ⟨_, rfl⟩
        have d0 : 0 ≤ d ∧ d < 1099511627776 := by omega
        rw [hd] at f1
        obtain ⟨t, ht⟩ : ∃ t, T + d = t := ⟨_, rfl⟩
        have t0 : T ≤ t ∧ t ≤ (k + 1) * 1099511627776 := by omega
        have f2 : IntKind.u64.wrap (T + d) = t := by rw [IntKind.wrap_u64]; omega
        have f3 : IntKind.u64.wrap y = y := by rw [IntKind.wrap_u64]; omega
        clear hd hx hy hxc hyc hxv hbs hst ht
        go_wp2_with fail
        refine (take_any g t y _ _ HBS.out.st.bk (by omega) (by omega) y0).mono ?_
        rintro e w2 ⟨rfl, hb2, hk2'⟩
        have hbs := HBS.out
        have HB2 : Hid (St w w2 g ((⟨r, B, T, K⟩ : Bu).took t y) ∧ OwnG w2 w.heap.size 22 1 aA k cA (ats.map (Value.int .u64)) ∧ OwnG w2 w.heap.size 22 1 aT k cT (tks.map (Value.int .u64))) := hbs.took hb2 hk2'
        have HBN : Hid (Bnd ((⟨r, B, T, K⟩ : Bu).took t y) (ats ++ [t]) (tks ++ [got ⟨r, B, T, K⟩ t y])) := hbs.bnd.step hbs.st.bk.1 t0.1 y0 (by omega)
        have HAP := Lib.hid hbs.ap
        have hfl : ((⟨r, B, T, K⟩ : Bu).took t y).fill t = (⟨r, B, T, K⟩ : Bu).took t y := fill_low _ (by rw [took_T _ _ t0.1]; exact Int.le_refl _)
        have hrB : ((⟨r, B, T, K⟩ : Bu).took t y).r = r ∧ ((⟨r, B, T, K⟩ : Bu).took t y).B = B ∧ ((⟨r, B, T, K⟩ : Bu).took t y).T = t := ⟨took_r _ _ _, took_B _ _ _, took_T _ _ t0.1⟩
        have HGOT : Hid (got ⟨r, B, T, K⟩ t y = if y ≤ ((⟨r, B, T, K⟩ : Bu).fill t).K then y else 0) := rfl
        have hyk := cell_kept HB2.out.1.below HYC.out
        obtain ⟨b', hb'⟩ : ∃ b', (⟨r, B, T, K⟩ : Bu).took t y = b' := ⟨_, rfl⟩
        rw [hb'] at HB2 HBN hfl hrB
        have HFL := Lib.hid hfl
        have HRB := Lib.hid hrB
        have HEQ : Hid (b' = ⟨r, B, t, b'.K⟩) := by
          obtain ⟨q1, q2, q3, q4⟩ := b'
          obtain ⟨rfl, rfl, rfl⟩ := hrB
          rfl
        have hKB : b'.K ≤ B := by have h1 := HB2.out.1.bk.1.KB; rw [hrB.2.1] at h1; exact h1
        clear hb2 hk2' hbs hb' hfl hrB
        by_cases hq : y ≤ ((⟨r, B, T, K⟩ : Bu).fill t).K
        · rw [decide_eq_true hq]
          obtain ⟨v, hv⟩ : ∃ v, got ⟨r, B, T, K⟩ t y = v := ⟨_, rfl⟩
          have hvy : v = y := by rw [← hv, HGOT.out, if_pos hq]
          rw [hv] at HBN
          rw [hvy] at HBN
          clear hv hvy hq HGOT v
          obtain ⟨v, hv⟩ : ∃ v, y = v := ⟨_, rfl⟩
          subst hv
          go_wp2_with fail
          refine (level_any g t b' _ HB2.out.1.bk (by omega) (by omega)).mono ?_
          rintro e w3 ⟨rfl, hb3, hk3⟩
          rw [HFL.out] at hb3 ⊢
          have hs3 : St w w3 g b' := HB2.out.1.next hb3 hk3
          obtain ⟨gA, cA', w4, gT, cT', w5, hr1, hr2, hbs5⟩ := Bs.grow (t := t) (v := y) hs3 (HB2.out.2.1.keep hk3 (HB2.out.2.1.offB HB2.out.1.bk tU64_ne)) (HB2.out.2.2.keep hk3 (HB2.out.2.2.offB HB2.out.1.bk tU64_ne)) HAP.out (by omega) HBN.out
          have HR1 := Lib.hid hr1
          have HR2 := Lib.hid hr2
          have HB5 := Lib.hid hbs5
          clear hb3 hk3 hs3 hr1 hr2 hbs5
          go_wp2_with (at_builtin; first | (refine Lib.wpList_append_run _ rfl (.tmp 71) (.tmp 73) _ _ rfl _ _ rfl rfl _ _ HR1.out ?_) | (refine Lib.wpList_append_run _ rfl (.tmp 75) (.tmp 77) _ _ rfl _ _ rfl rfl _ _ HR2.out ?_))
          obtain ⟨b6, o6, ha6, hcA⟩ := rdk_cell HB5.out.oA.rdk (i := k) (by rw [HB5.out.oA.len]; omega)
          simp only [Option.some.injEq, Addr.mk.injEq, and_true] at ha6
          obtain ⟨rfl, rfl⟩ := ha6
          go_loopw [15, 16] (fun s_ i_ wx => ∃ j : Nat, j ≤ k + 1 ∧ i_ = .int .i64 ((j : Int) - 1) ∧ s_ = .int .u64 (sm ((tks ++ [y]).drop j)) ∧ Hid (wx = w5)) (fun _ i_ => fun _ => (intOf i_ + 1).toNat)
          case atStart => exact ⟨k + 1, Nat.le_refl _, by go_num, by rw [List.drop_of_length_le (by rw [HB5.out.oT.len]; exact Nat.le_refl _)]; rfl, rfl⟩
          case round =>
            obtain ⟨j, hj, rfl, rfl, hwx⟩ := hrel
            have hwx2 := hwx.out
            subst hwx2
            cases j with
            | zero =>
              rw [show ((0 : Nat) : Int) - 1 = -1 from rfl]
              go_wp2_with fail
              go_roundw
              case rel => exact ⟨k + 1, t, _, _, _, _, rfl, rfl, rfl, by go_num, by omega, by omega, by omega, b'.K, _, _, by rw [← HEQ.out]; exact HB5.out⟩
              case measure => simp [intOf]; omega
            | succ m =>
              rw [show ((m + 1 : Nat) : Int) - 1 = m by omega]
              obtain ⟨_, _, ha6, hcA⟩ := rdk_cell HB5.out.oA.rdk (i := m) (by rw [HB5.out.oA.len]; omega)
              simp only [Option.some.injEq, Addr.mk.injEq, and_true] at ha6
              obtain ⟨rfl, rfl⟩ := ha6
              obtain ⟨_, _, ha7, hcT⟩ := rdk_cell HB5.out.oT.rdk (i := m) (by rw [HB5.out.oT.len]; omega)
              simp only [Option.some.injEq, Addr.mk.injEq, and_true] at ha7
              obtain ⟨rfl, rfl⟩ := ha7
              rw [Nat.zero_add] at hcA hcT
              have g1 := HB5.out.bnd.sums m (by rw [HB5.out.oA.len]; omega)
              have g2 := HB5.out.bnd.ticks m (by rw [HB5.out.oA.len]; omega)
              have g3 := sm_drop (tks ++ [y]) m (by rw [HB5.out.oT.len]; omega)
              have g4 := sm_fit (l := (tks ++ [y]).drop m) (m := 65535) (fun x hx => HB5.out.bnd.fits x (List.mem_of_mem_drop hx))
              have g5 : (((tks ++ [y]).drop m).length : Int) ≤ 61 := by rw [List.length_drop, HB5.out.oT.len]; omega
              have g6 := HB5.out.st.bk.1.K0
              rw [HRB.out.2.1, HRB.out.1, HRB.out.2.2] at g1
              rw [HRB.out.2.2] at g2
              obtain ⟨am, ham⟩ : ∃ z, (ats ++ [t]).getD m 0 = z := ⟨_, rfl⟩
              obtain ⟨tm, htm⟩ : ∃ z, (tks ++ [y]).getD m 0 = z := ⟨_, rfl⟩
              obtain ⟨s0, hs0⟩ : ∃ z, sm ((tks ++ [y]).drop (m + 1)) = z := ⟨_, rfl⟩
              obtain ⟨s1, hs1⟩ : ∃ z, sm ((tks ++ [y]).drop m) = z := ⟨_, rfl⟩
              rw [ham] at hcA g1 g2
              rw [htm] at hcT g3
              rw [hs0, hs1] at g3
              rw [hs1] at g1 g4
              have HS1 := Lib.hid hs1
              rw [hs0]
              clear ham htm hs0 hs1
              obtain ⟨q, hq⟩ : ∃ q, t - am = q := ⟨_, rfl⟩
              have q0 : 0 ≤ q ∧ q ≤ 68169720922112 := by omega
              have p0 := Int.mul_nonneg r0 q0.1
              have p1 := Int.mul_le_mul r1 q0.2 q0.1 (by decide)
              rw [hq] at g1
              obtain ⟨p, hp⟩ : ∃ p, r * q = p := ⟨_, rfl⟩
              rw [hp] at g1 p0 p1
              have e4 : IntKind.u64.wrap (s0 + tm) = s1 := by rw [IntKind.wrap_u64]; omega
              have e5 : IntKind.u64.wrap (t - am) = q := by rw [IntKind.wrap_u64]; omega
              have e6 : IntKind.u64.wrap (r * q) = p := by rw [hp, IntKind.wrap_u64]; omega
              have e7 : IntKind.u64.wrap (B + p) = B + p := by rw [IntKind.wrap_u64]; omega
              have hle : ¬ B + p < s1 := by omega
              clear hq hp g1 g3 g4 g5 g6
              go_wp2_with fail
              go_roundw
              case rel => exact ⟨m, by omega, by go_num, by rw [HS1.out], trivial⟩
              case measure => simp [intOf]
        · rw [decide_eq_false hq]
          obtain ⟨v, hv⟩ : ∃ v, got ⟨r, B, T, K⟩ t y = v := ⟨_, rfl⟩
          have hvy : v = 0 := by rw [← hv, HGOT.out, if_neg hq]
          rw [hv] at HBN
          rw [hvy] at HBN
          clear hv hvy hq HGOT v
          go_wp2_with fail
          refine (level_any g t b' _ HB2.out.1.bk (by omega) (by omega)).mono ?_
          rintro e w3 ⟨rfl, hb3, hk3⟩
          rw [HFL.out] at hb3 ⊢
          have hs3 : St w w3 g b' := HB2.out.1.next hb3 hk3
          obtain ⟨gA, cA', w4, gT, cT', w5, hr1, hr2, hbs5⟩ := Bs.grow (t := t) (v := 0) hs3 (HB2.out.2.1.keep hk3 (HB2.out.2.1.offB HB2.out.1.bk tU64_ne)) (HB2.out.2.2.keep hk3 (HB2.out.2.2.offB HB2.out.1.bk tU64_ne)) HAP.out (by omega) HBN.out
          have HR1 := Lib.hid hr1
          have HR2 := Lib.hid hr2
          have HB5 := Lib.hid hbs5
          clear hb3 hk3 hs3 hr1 hr2 hbs5
          go_wp2_with (at_builtin; first | (refine Lib.wpList_append_run _ rfl (.tmp 71) (.tmp 73) _ _ rfl _ _ rfl rfl _ _ HR1.out ?_) | (refine Lib.wpList_append_run _ rfl (.tmp 75) (.tmp 77) _ _ rfl _ _ rfl rfl _ _ HR2.out ?_))
          obtain ⟨b6, o6, ha6, hcA⟩ := rdk_cell HB5.out.oA.rdk (i := k) (by rw [HB5.out.oA.len]; omega)
          simp only [Option.some.injEq, Addr.mk.injEq, and_true] at ha6
          obtain ⟨rfl, rfl⟩ := ha6
          go_loopw [15, 16] (fun s_ i_ wx => ∃ j : Nat, j ≤ k + 1 ∧ i_ = .int .i64 ((j : Int) - 1) ∧ s_ = .int .u64 (sm ((tks ++ [0]).drop j)) ∧ Hid (wx = w5)) (fun _ i_ => fun _ => (intOf i_ + 1).toNat)
          case atStart => exact ⟨k + 1, Nat.le_refl _, by go_num, by rw [List.drop_of_length_le (by rw [HB5.out.oT.len]; exact Nat.le_refl _)]; rfl, rfl⟩
          case round =>
            obtain ⟨j, hj, rfl, rfl, hwx⟩ := hrel
            have hwx2 := hwx.out
            subst hwx2
            cases j with
            | zero =>
              rw [show ((0 : Nat) : Int) - 1 = -1 from rfl]
              go_wp2_with fail
              go_roundw
              case rel => exact ⟨k + 1, t, _, _, _, _, rfl, rfl, rfl, by go_num, by omega, by omega, by omega, b'.K, _, _, by rw [← HEQ.out]; exact HB5.out⟩
              case measure => simp [intOf]; omega
            | succ m =>
              rw [show ((m + 1 : Nat) : Int) - 1 = m by omega]
              obtain ⟨_, _, ha6, hcA⟩ := rdk_cell HB5.out.oA.rdk (i := m) (by rw [HB5.out.oA.len]; omega)
              simp only [Option.some.injEq, Addr.mk.injEq, and_true] at ha6
              obtain ⟨rfl, rfl⟩ := ha6
              obtain ⟨_, _, ha7, hcT⟩ := rdk_cell HB5.out.oT.rdk (i := m) (by rw [HB5.out.oT.len]; omega)
              simp only [Option.some.injEq, Addr.mk.injEq, and_true] at ha7
              obtain ⟨rfl, rfl⟩ := ha7
              rw [Nat.zero_add] at hcA hcT
              have g1 := HB5.out.bnd.sums m (by rw [HB5.out.oA.len]; omega)
              have g2 := HB5.out.bnd.ticks m (by rw [HB5.out.oA.len]; omega)
              have g3 := sm_drop (tks ++ [0]) m (by rw [HB5.out.oT.len]; omega)
              have g4 := sm_fit (l := (tks ++ [0]).drop m) (m := 65535) (fun x hx => HB5.out.bnd.fits x (List.mem_of_mem_drop hx))
              have g5 : (((tks ++ [0]).drop m).length : Int) ≤ 61 := by rw [List.length_drop, HB5.out.oT.len]; omega
              have g6 := HB5.out.st.bk.1.K0
              rw [HRB.out.2.1, HRB.out.1, HRB.out.2.2] at g1
              rw [HRB.out.2.2] at g2
              obtain ⟨am, ham⟩ : ∃ z, (ats ++ [t]).getD m 0 = z := ⟨_, rfl⟩
              obtain ⟨tm, htm⟩ : ∃ z, (tks ++ [0]).getD m 0 = z := ⟨_, rfl⟩
              obtain ⟨s0, hs0⟩ : ∃ z, sm ((tks ++ [0]).drop (m + 1)) = z := ⟨_, rfl⟩
              obtain ⟨s1, hs1⟩ : ∃ z, sm ((tks ++ [0]).drop m) = z := ⟨_, rfl⟩
              rw [ham] at hcA g1 g2
              rw [htm] at hcT g3
              rw [hs0, hs1] at g3
              rw [hs1] at g1 g4
              have HS1 := Lib.hid hs1
              rw [hs0]
              clear ham htm hs0 hs1
              obtain ⟨q, hq⟩ : ∃ q, t - am = q := ⟨_, rfl⟩
              have q0 : 0 ≤ q ∧ q ≤ 68169720922112 := by omega
              have p0 := Int.mul_nonneg r0 q0.1
              have p1 := Int.mul_le_mul r1 q0.2 q0.1 (by decide)
              rw [hq] at g1
              obtain ⟨p, hp⟩ : ∃ p, r * q = p := ⟨_, rfl⟩
              rw [hp] at g1 p0 p1
              have e4 : IntKind.u64.wrap (s0 + tm) = s1 := by rw [IntKind.wrap_u64]; omega
              have e5 : IntKind.u64.wrap (t - am) = q := by rw [IntKind.wrap_u64]; omega
              have e6 : IntKind.u64.wrap (r * q) = p := by rw [hp, IntKind.wrap_u64]; omega
              have e7 : IntKind.u64.wrap (B + p) = B + p := by rw [IntKind.wrap_u64]; omega
              have hle : ¬ B + p < s1 := by omega
              clear hq hp g1 g3 g4 g5 g6
              go_wp2_with fail
              go_roundw
              case rel => exact ⟨m, by omega, by go_num, by rw [HS1.out], trivial⟩
              case measure => simp [intOf]
      · go_wp2_with fail
        refine (works10_any _).mono ?_
        rintro e w2 ⟨rfl, hb⟩
        obtain ⟨K, ats, tks, hbs⟩ := hst.out
        have HE := Lib.hid (hbs.st.past hb).below
        clear hb hbs
        go_wp2_with fail
        go_ret
        exact ⟨rfl, HE.out⟩
    · go_wp2_with fail
      refine (works10_any _).mono ?_
      rintro e w2 ⟨rfl, hb⟩
      obtain ⟨K, ats, tks, hbs⟩ := hst.out
      have HE := Lib.hid (hbs.st.past hb).below
      clear hb hbs
      go_wp2_with fail
      go_ret
      exact ⟨rfl, HE.out⟩
end Go.Proofs.Ytngjlippfifkiaa

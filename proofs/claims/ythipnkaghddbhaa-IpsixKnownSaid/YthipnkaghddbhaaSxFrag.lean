/-
  The contract of Frag of package ipsix. Conditions: a chain that lies in memory.
-/
import Derived.Test.YthipnkaghddbhaaSxPut
import Derived.Deep.RegionHeld3
namespace Go.Proofs.Ythipnkaghddbhaa
open Go.RowKit

theorem tk {P : Program} {md : Region.Mode} {ops : Array Oper} {Q : Exit → Act → World → Prop} {S : World → Prop} (i d : Nat) (v : Value) {oi : Oper} {fuel : Nat} {listed : Array Bool} {a : Act} {w : World} (hi : ops[i]? = some oi) (hd : oi.dst = some d)
    (hs : Region.noSelect ops = true) (hf : Region.free md ops listed i = true) (hr : (Region.ready md ops listed).contains i = true)
    (hQ : ∀ c a w, Q (.panic c) (a.put (some d) v) w → Q (.panic c) a w) (hy : YieldsIf P ops S oi v a) (hS : S w)
    (h : wpAnyH P md ops Q S fuel (listed.setIfInBounds i true) (a.put (some d) v) w) : wpAnyH P md ops Q S (fuel + 1) listed a w :=
  wpAnyH_take hi hs hf hr (by rw [hd]; exact hQ) hy hS (by rw [hd]; exact h)

theorem results_tmp4 {fn : Func} {t u v x : Tmp} (h : fn.results = #[.tmp t, .tmp u, .tmp v, .tmp x]) (tmps : Array Value) (P : Program) (w : World) :
    (results fn tmps).run P w = .ok (.tuple #[tmps.getD t undef, tmps.getD u undef, tmps.getD v undef, tmps.getD x undef]) w := by
  simp [results, h]
/-- What a chain's first fragment says. -/
def frX (x : Ex) : Int × Bool × Int × Bool := (wd x.xs / 8, decide (wd x.xs % 2 = 1), getV x.xs 2 4 % 4294967296, true)
def frG : List Ex → Int × Bool × Int × Bool
  | [] => (0, false, 0, false)
  | x :: es => if x.k = 44 then frX x else frG es
def frV (es : List Ex) (p : Int) : Int × Bool × Int × Bool := if rtC es p = true then frG es else (0, false, 0, false)
def frT (v : Int × Bool × Int × Bool) : Value := .tuple #[.int .u16 v.1, .bool v.2.1, .int .u32 v.2.2.1, .bool v.2.2.2]
theorem and_one (x : Int) (h0 : 0 ≤ x) (h1 : x ≤ 65535) : (bits .and .u16 x 1 != 0) = decide (x % 2 = 1) := by
  obtain ⟨n, rfl⟩ := Int.eq_ofNat_of_zero_le h0
  rw [show (1 : Int) = ((1 : Nat) : Int) from rfl, u16_and_nat _ _ (by omega) (by omega), Nat.and_one_is_mod]
  rw [Bool.eq_iff_iff]
  simp
  omega

set_option maxRecDepth 100000 in
set_option maxHeartbeats 2000000 in
theorem sxFrag_any (a : Option Addr) (n c : Nat) (es : List Ex) (p : Int) (w : World) (h : Ch w a n c es) (p0 : 0 ≤ p) (p1 : p < 256) :
    Calls Try.prog 21 #[.agg #[.slice a n c, .int .u8 p]] w (Gives w (frT (frV es p))) := by
  have hbA : Below w.heap.size w (w.alloc (.cells #[.slice a n c, .int .u8 p] 46)) := (Below.refl _ _).alloc (Nat.le_refl _) _
  have HB := Lib.hid hbA
  have HC := Lib.hid (h.below hbA)
  have hnm : n ≤ 9223372036854775807 := by have h1 := h.cap; have h2 := h.max; unfold maxLen at h2; omega
  have HL := Lib.hid h.len
  clear h hbA
  cases hrt : rtC es p with
  | false =>
    have HR := Lib.hid hrt
    have HF : Hid (frV es p = (0, false, 0, false)) := by show _ = _; rw [frV, if_neg (by rw [hrt]; decide)]
    clear hrt
    go_enter Try.func21, Try.ntmps21
    go_wp2_with fail
    refine (sxRight_any a n c es p _ HC.out p0 p1).mono ?_
    rintro e w1 ⟨rfl, hb1⟩
    rw [HR.out]
    have HB1 := Lib.hid (HB.out.trans (hb1.mono HB.out.size))
    clear hb1
    go_wp2_with fail
    (try simp only [Exit.inBlock, Exit.then]); refine bodyPost_ret (results_tmp4 rfl _ _ _) rfl ?_
    exact ⟨by rw [HF.out]; rfl, HB1.out⟩
  | true =>
    have HR := Lib.hid hrt
    have HF : Hid (frV es p = frG (es.drop 0)) := by show _ = _; rw [frV, if_pos hrt]; rfl
    clear hrt
    have hc0 : (w.alloc (.cells #[.slice a n c, .int .u8 p] 46)).cell? ⟨w.heap.size, 0, none⟩ = some (.slice a n c) := World.cell?_alloc_new _ _ _ _
    have HC0 := Lib.hid hc0
    clear hc0
    go_enter Try.func21, Try.ntmps21
    go_wp2_with fail
    refine (sxRight_any a n c es p _ HC.out p0 p1).mono ?_
    rintro e w1 ⟨rfl, hb1⟩
    rw [HR.out]
    have hcc := cell_kept hb1 HC0.out
    have HC1 := Lib.hid (HC.out.below hb1)
    have HB1 := Lib.hid (HB.out.trans (hb1.mono HB.out.size))
    have HB0 : Hid (Below w1.heap.size w1 w1) := Below.refl _ _
    clear hb1 HC HC0
    go_wp2_with fail
    clear hcc
    go_loopw [14] (fun i wr => ∃ j : Nat, j ≤ n ∧ i = .int .i64 j ∧ Hid (Below w1.heap.size w1 wr ∧ frV es p = frG (es.drop j))) (fun i _ => n - (intOf i).toNat)
    case atStart => exact ⟨0, Nat.zero_le _, rfl, HB0.out, HF.out⟩
    case round =>
      obtain ⟨j, hj, rfl, hst⟩ := hrel
      rename World => wr
      clear HB0 HF
      by_cases hlt : j < n
      · have hlt' : (j : Int) < (n : Int) := by omega
        obtain ⟨x, hx⟩ : ∃ x, es[j]? = some x := ⟨_, List.getElem?_eq_getElem (by rw [HL.out]; exact hlt)⟩
        have hxm := List.mem_of_getElem? hx
        have hok := (HC1.out.below hst.out.1).ok x hxm
        have hfw := HC1.out.few x hxm
        obtain ⟨b, o, rfl, hcl⟩ := (HC1.out.below hst.out.1).cells (by intro e; rw [e] at hx; simp at hx)
        obtain ⟨hc0, hc1⟩ := hcl j x hx
        have hdr : es.drop j = x :: es.drop (j + 1) := by
          have hlen : j < es.length := by rw [HL.out]; exact hlt
          rw [List.drop_eq_getElem_cons hlen]
          rw [List.getElem?_eq_getElem hlen] at hx
          rw [Option.some.inj hx]
        have hcn : n ≤ c := HC1.out.cap
        have hB1 : Below w1.heap.size w1 wr := hst.out.1
        have HBN : Hid (Below w1.heap.size w1 (wr.alloc (.cells #[.int .u8 x.k, .slice x.a x.n x.c] 71))) := hB1.alloc hB1.size _
        have HXN : Hid (x.ok (wr.alloc (.cells #[.int .u8 x.k, .slice x.a x.n x.c] 71))) := hok.below ((Below.refl _ _).alloc (Nat.le_refl _) _)
        have HST : Hid (frV es p = frG (x :: es.drop (j + 1))) := by show _ = _; rw [hst.out.2, hdr]
        have hy0 : (wr.alloc (.cells #[.int .u8 x.k, .slice x.a x.n x.c] 71)).cell? ⟨wr.heap.size, 0, none⟩ = some (.int .u8 x.k) := World.cell?_alloc_new _ _ _ _
        have hy1 : (wr.alloc (.cells #[.int .u8 x.k, .slice x.a x.n x.c] 71)).cell? ⟨wr.heap.size, 1, none⟩ = some (.slice x.a x.n x.c) := World.cell?_alloc_new _ _ _ _
        have HY := Lib.hid (And.intro hy0 hy1)
        clear hy0 hy1 hB1 hok hst hdr hcl hx hxm
        by_cases hk : x.k = 44
        · have hkb : (x.k == 44) = true := by simpa using hk
          have HF : Hid (frV es p = frX x) := by show _ = _; rw [HST.out, frG, if_pos hk]
          obtain ⟨v0, v1⟩ := wd_range HXN.out.byt
          obtain ⟨V, hV⟩ : ∃ V, wd x.xs = V := ⟨_, rfl⟩
          rw [hV] at v0 v1
          have HV := Lib.hid hV
          have hAND := and_one V v0 v1
          have HAND := Lib.hid hAND
          obtain ⟨I, hI⟩ : ∃ I, getV x.xs 2 4 = I := ⟨_, rfl⟩
          have HI := Lib.hid hI
          have HFV : Hid (frV es p = (V / 8, decide (V % 2 = 1), IntKind.u32.wrap I, true)) := by show _ = _; rw [HF.out, frX, hV, hI, IntKind.wrap_u32]
          clear hk hV hI hAND HF
          go_wp2_with fail
          obtain ⟨wy, hwy⟩ : ∃ y, wr.alloc (.cells #[.int .u8 x.k, .slice x.a x.n x.c] 71) = y := ⟨_, rfl⟩
          rw [hwy] at HBN HXN HY ⊢
          clear hwy hc0 hc1
          have hs0 : Below wy.heap.size wy wy.drew := by
            have hq := Below.refl wy.heap.size wy
            exact ⟨hq.os, hq.tape, hq.output, hq.size, hq.block⟩
          refine wp_region_held_drew (S := fun w' => Below wy.heap.size wy w') (by kernel_rfl) hs0 (fun hS => ?_)
          try simp only [Act.put, List.setIfInBounds_toArray, List.set_cons_zero, List.set_cons_succ]
          refine tk 0 21 x.val rfl rfl (by kernel_rfl) (by kernel_rfl) (by kernel_rfl) (fun _ _ _ h => h) (Or.inl ⟨by rfl, fun w' h' => ?_⟩) hS ?_
          · have hz0 := cell_kept h' HY.out.1
            have hz1 := cell_kept h' HY.out.2
            unfold Ex.val
            go_simp
          try simp only [Act.put, List.setIfInBounds_toArray, List.set_cons_zero, List.set_cons_succ]
          refine tk 2 23 x.val rfl rfl (by kernel_rfl) (by kernel_rfl) (by kernel_rfl) (fun _ _ _ h => h) (Or.inl ⟨by rfl, fun w' h' => ?_⟩) hS ?_
          · have hz0 := cell_kept h' HY.out.1
            have hz1 := cell_kept h' HY.out.2
            unfold Ex.val
            go_simp
          try simp only [Act.put, List.setIfInBounds_toArray, List.set_cons_zero, List.set_cons_succ]
          refine tk 6 27 (.pointer (some ⟨wr.heap.size, 1, none⟩)) rfl rfl (by kernel_rfl) (by kernel_rfl) (by kernel_rfl) (fun _ _ _ h => h) (Or.inl ⟨by rfl, fun w' h' => ?_⟩) hS ?_
          · go_simp
          try simp only [Act.put, List.setIfInBounds_toArray, List.set_cons_zero, List.set_cons_succ]
          refine tk 7 28 (.slice x.a x.n x.c) rfl rfl (by kernel_rfl) (by kernel_rfl) (by kernel_rfl) (fun _ _ _ h => h) (Or.inl ⟨by rfl, fun w' h' => ?_⟩) hS ?_
          · have hz1 := cell_kept h' HY.out.2
            go_simp
          try simp only [Act.put, List.setIfInBounds_toArray, List.set_cons_zero, List.set_cons_succ]
          refine wpAnyH_ready (rs := [1]) (by kernel_rfl) (by simp) (AllReadyH.cons rfl (fun K hK => ?_) AllReadyH.nil)
          rw [if_pos (by rfl)]
          go_wp2_with fail
          refine (sxOffset_any x wy.drew (HXN.out.below hs0) hfw).mono ?_
          rintro e x1 ⟨rfl, hb⟩
          have hs1 : Below wy.heap.size wy x1 := undrew hb
          clear hb
          rw [HV.out]
          clear hS
          refine hK.out _ _ hs1 (fun hS => ?_)
          clear hK K
          try simp only [Act.put, List.setIfInBounds_toArray, List.set_cons_zero, List.set_cons_succ]
          refine wpAnyH_ready (rs := [3]) (by kernel_rfl) (by simp) (AllReadyH.cons rfl (fun K hK => ?_) AllReadyH.nil)
          rw [if_pos (by rfl)]
          go_wp2_with fail
          refine (sxWord_any x _ (HXN.out.below hs1) hfw).mono ?_
          rintro e x2 ⟨rfl, hb⟩
          have hs2 : Below wy.heap.size wy x2 := hs1.trans (Below.mono hb hs1.size)
          clear hb
          rw [HV.out]
          clear hS
          refine hK.out _ _ hs2 (fun hS => ?_)
          clear hK K
          try simp only [Act.put, List.setIfInBounds_toArray, List.set_cons_zero, List.set_cons_succ]
          refine tk 4 25 (.int .u16 (bits .and .u16 V 1)) rfl rfl (by kernel_rfl) (by kernel_rfl) (by kernel_rfl) (fun _ _ _ h => h) (Or.inl ⟨by rfl, fun w' h' => ?_⟩) hS ?_
          · go_simp
          try simp only [Act.put, List.setIfInBounds_toArray, List.set_cons_zero, List.set_cons_succ]
          refine tk 5 26 (.bool (decide (V % 2 = 1))) rfl rfl (by kernel_rfl) (by kernel_rfl) (by kernel_rfl) (fun _ _ _ h => h) (Or.inl ⟨by rfl, fun w' h' => ?_⟩) hS ?_
          · have hq := HAND.out
            go_simp
          try simp only [Act.put, List.setIfInBounds_toArray, List.set_cons_zero, List.set_cons_succ]
          refine wpAnyH_ready (rs := [8]) (by kernel_rfl) (by simp) (AllReadyH.cons rfl (fun K hK => ?_) AllReadyH.nil)
          rw [if_pos (by rfl)]
          go_wp2_with fail
          refine (sxNumber_any x.a x.n x.c x.xs 2 4 _ HXN.out.len (HXN.out.rd.below hs2) HXN.out.byt hfw HXN.out.cap (by omega)).mono ?_
          rintro e x3 ⟨rfl, rfl⟩
          have hs3 := hs2
          rw [HI.out]
          clear hS
          refine hK.out _ _ hs3 (fun hS => ?_)
          clear hK K
          try simp only [Act.put, List.setIfInBounds_toArray, List.set_cons_zero, List.set_cons_succ]
          refine tk 9 30 (.int .u32 (IntKind.u32.wrap I)) rfl rfl (by kernel_rfl) (by kernel_rfl) (by kernel_rfl) (fun _ _ _ h => h) (Or.inl ⟨by rfl, fun w' h' => ?_⟩) hS ?_
          · go_simp
          try simp only [Act.put, List.setIfInBounds_toArray, List.set_cons_zero, List.set_cons_succ]
          refine tk 10 2 (.int .u16 (V / 8)) rfl rfl (by kernel_rfl) (by kernel_rfl) (by kernel_rfl) (fun _ _ _ h => h) (Or.inl ⟨by rfl, fun w' h' => ?_⟩) hS ?_
          · go_simp
          try simp only [Act.put, List.setIfInBounds_toArray, List.set_cons_zero, List.set_cons_succ]
          refine tk 11 3 (.bool (decide (V % 2 = 1))) rfl rfl (by kernel_rfl) (by kernel_rfl) (by kernel_rfl) (fun _ _ _ h => h) (Or.inl ⟨by rfl, fun w' h' => ?_⟩) hS ?_
          · go_simp
          try simp only [Act.put, List.setIfInBounds_toArray, List.set_cons_zero, List.set_cons_succ]
          refine tk 12 4 (.int .u32 (IntKind.u32.wrap I)) rfl rfl (by kernel_rfl) (by kernel_rfl) (by kernel_rfl) (fun _ _ _ h => h) (Or.inl ⟨by rfl, fun w' h' => ?_⟩) hS ?_
          · go_simp
          try simp only [Act.put, List.setIfInBounds_toArray, List.set_cons_zero, List.set_cons_succ]
          refine tk 13 5 (.bool true) rfl rfl (by kernel_rfl) (by kernel_rfl) (by kernel_rfl) (fun _ _ _ h => h) (Or.inl ⟨by rfl, fun w' h' => ?_⟩) hS ?_
          · go_simp
          refine wpAnyH_done (by kernel_rfl) ?_ _
          go_wp2_with fail
          (try simp only [Exit.inBlock, Exit.then]); refine bodyPost_ret (results_tmp4 rfl _ _ _) rfl ?_
          exact ⟨by rw [HFV.out]; rfl, HB1.out.trans ((HBN.out.trans (hs2.mono HBN.out.size)).mono HB1.out.size)⟩
        · have hkb : (x.k == 44) = false := by simpa using hk
          have HN : Hid (frV es p = frG (es.drop (j + 1))) := by show _ = _; rw [HST.out, frG, if_neg hk]
          go_wp2_with fail
          go_roundw
          case rel => exact ⟨j + 1, by omega, by go_num, HBN.out, HN.out⟩
          case measure => simp [intOf]; omega
      · obtain rfl : j = n := by omega
        have HE : Hid (frV es p = (0, false, 0, false)) := by show _ = _; rw [hst.out.2, List.drop_eq_nil_of_le (by rw [HL.out]; exact Nat.le_refl _)]; rfl
        have HBR : Hid (Below w1.heap.size w1 wr) := hst.out.1
        clear hst
        go_wp2_with fail
        (try simp only [Exit.inBlock, Exit.then]); refine bodyPost_ret (results_tmp4 rfl _ _ _) rfl ?_
        exact ⟨by rw [HE.out]; rfl, HB1.out.trans (HBR.out.mono HB1.out.size)⟩
end Go.Proofs.Ythipnkaghddbhaa

/-
  IpParses, walked: for bytes that lie where the slice leads the call answers true. No other conditions.
-/
import Derived.Test.YtjnbnjdajkhkpaaIpRHop
import Derived.Test.YtjnbnjdajkhkpaaIpPad
import Derived.Test.YtjnbnjdajkhkpaaIpWorks
namespace Go.Proofs.Ytjnbnjdajkhkpaa
open Go.RowKit

/-- What the document's Parse answers, padded. -/
def ppH (xs : List Int) : List Value := if psE xs = 0 then rhc (hdOf (xs.take (szV xs).toNat) none 0 0) else rhc hd0
theorem hd0_ok (w : World) : hd0.ok w :=
  ⟨by decide, by decide, by decide, by decide, by decide, by decide, rfl, rfl, fun x hx => by simp [hd0] at hx; omega, fun x hx => by simp [hd0] at hx; omega, ⟨rfl, Nat.le_refl _, by decide, Rd.empty _ _, Byt.nil⟩⟩
theorem ParseH.one {w w' : World} {xs : List Int} {e : Ending} (hb : Byt xs) (p : ParseH w xs e w') : Below w.heap.size w w' ∧ ∃ h : Hd, e = .returned (.tuple #[.agg h.cs.toArray, .int .i64 (rpV xs), .int .i64 (psE xs)]) ∧ h.ok w' ∧ Own w' w.heap.size h.a h.n h.c h.op ∧ rhc h = ppH xs := by
  obtain ⟨hbl, ⟨hz, a, n, c, he, ho⟩ | ⟨hz, he⟩⟩ := p
  · obtain ⟨m, hm, m20, m60, mn, mt⟩ := psE_zero hz hb
    have h20 : 20 ≤ (xs.take (szV xs).toNat).length := by rw [List.length_take, hm, Int.toNat_natCast]; omega
    refine ⟨hbl, hdOf (xs.take (szV xs).toNat) a n c, by rw [he, hz, rpV, if_pos hz], hdOf_ok ho (hb.take _) h20, ho, ?_⟩
    rw [ppH, if_pos hz]
    rfl
  · refine ⟨hbl, hd0, by rw [he, rpV, if_neg hz], hd0_ok _, Own.nil _ _, ?_⟩
    rw [ppH, if_neg hz]
theorem pad_any (xs : List Int) (w : World) (hb : Byt xs) : Calls Try.prog 23 #[.agg (rpH xs).toArray] w (Gives w (.agg (ppH xs).toArray)) := by
  by_cases hz : psE xs = 0
  · obtain ⟨m, hm, m20, m60, mn, mt⟩ := psE_zero hz hb
    have h20 : 20 ≤ (xs.take (szV xs).toNat).length := by rw [List.length_take, hm, Int.toNat_natCast]; omega
    rw [rpH, ppH, if_pos hz, if_pos hz]
    exact pad_keeps _ w (cut4 _ _ (by omega))
  · rw [rpH, ppH, if_neg hz, if_neg hz]
    exact pad_fills w
/-- The body, and the bytes behind a hop. -/
def bdB (xs : List Int) : List Int := if bdE xs = 0 then bdV xs else []
def hopB (xs : List Int) : List Int := if hopE xs = 0 then hopV xs else []
theorem bdB_byt {xs : List Int} (hb : Byt xs) : Byt (bdB xs) := by
  unfold bdB; split
  · exact (hb.drop _).take _
  · exact Byt.nil
theorem hopB_byt {xs : List Int} (hb : Byt xs) : Byt (hopB xs) := by
  unfold hopB; split
  · exact hopV_byt xs hb (hopE_zero (by assumption)).2
  · exact Byt.nil
theorem BodyR.one {w w' : World} {xs : List Int} {e : Ending} (p : BodyR w xs e w') : Below w.heap.size w w' ∧ ∃ a n cap, e = .returned (.tuple #[.slice a n cap, .int .i64 (bdE xs)]) ∧ (bdB xs).length = n ∧ Rd w' a (bdB xs) := by
  obtain ⟨hb, ⟨hr, a, n, c, he, hl, ho⟩ | ⟨hr, he⟩⟩ := p
  · exact ⟨hb, a, n, c, by rw [he, hr], by rw [bdB, if_pos hr]; exact hl, by rw [bdB, if_pos hr]; exact ho.below hb⟩
  · exact ⟨hb, none, 0, 0, he, by rw [bdB, if_neg hr]; rfl, by rw [bdB, if_neg hr]; exact Rd.empty _ _⟩
theorem run_neqRH (w : World) (h : Hd) {w1 : World} (k : h.ok w1) : (binOp .neq 29 (.agg (rhc h).toArray) (.agg (rhc h).toArray)).run Try.prog w = .ok (.bool false) w := by
  have hq := run_eqRH w h h k k
  have hs : smH h h = true := by simp [smH]
  rw [hs] at hq
  unfold binOp at hq ⊢
  simp only [Sem.run_bind, Sem.run_pure] at hq ⊢
  revert hq
  generalize (Op.equal 29 (.agg (rhc h).toArray) (.agg (rhc h).toArray)).run Try.prog w = r
  intro hq
  cases r <;> simp_all [Result.andThen]
theorem exec_neqRH {ρ : Operand → Value} {o : Oper} {x y : Operand} {r : TypeId} {h : Hd} {w w1 : World} (ho : o.op = .binOp .neq 29 x y r) (hx : ρ x = .agg (rhc h).toArray) (hy : ρ y = .agg (rhc h).toArray)
    (k : h.ok w1) : (execOp ρ o).run Try.prog w = .ok (.value (.bool false)) w := by
  unfold execOp
  simp only [ho, hx, hy, Sem.run_bind, run_eqGuard_agg (hm := Try.eqGuardType29), Result.andThen_ok, run_neqRH w h k, Sem.run_pure]
/-- What the rounds read: the document's answers, and the copy of what came in. -/
def PG (w : World) (b : Nat) (l : List Value) (a1 : Option Addr) (n1 c1 : Nat) (xs : List Int) (a2 : Option Addr) (bs : List Int) (a3 : Option Addr) (n3 c3 : Nat) (hs : List Int) (w' : World) : Prop :=
  Below w.heap.size w w' ∧ w'.rangeAt b 0 l ∧ Own w' w.heap.size a1 n1 c1 xs ∧ Rd w' a2 bs ∧ Own w' w.heap.size a3 n3 c3 hs
theorem PG.below {w w1 w2 : World} {b : Nat} {l : List Value} {a1 : Option Addr} {n1 c1 : Nat} {xs : List Int} {a2 : Option Addr} {bs : List Int} {a3 : Option Addr} {n3 c3 : Nat} {hs : List Int} (h : PG w b l a1 n1 c1 xs a2 bs a3 n3 c3 hs w1) (hb : Below w1.heap.size w1 w2) : PG w b l a1 n1 c1 xs a2 bs a3 n3 c3 hs w2 :=
  ⟨h.1.trans (hb.mono h.1.size), range_kept hb h.2.1, h.2.2.1.below hb, h.2.2.2.1.below hb, h.2.2.2.2.below hb⟩
theorem Inc.other {w0 w : World} {base base' : Nat} {a a' : Option Addr} {n n' cap cap' : Nat} {xs : List Int} (h : Inc w0 base a n cap w) (ho : Own w0 base' a' n' cap' xs) (hl : ∀ k, blk a = some k → k < base') : Own w base' a' n' cap' xs := by
  obtain ⟨_, _, hk⟩ := h
  exact ho.keep hk (fun b e e2 => by have h1 := hl b e2; have h2 := (ho.blk_ge b e).1; omega)
theorem Inc.cell {w0 w : World} {base : Nat} {a : Option Addr} {n cap : Nat} (h : Inc w0 base a n cap w) {b j : Nat} {v : Value} (hc : w0.cell? ⟨b, j, none⟩ = some v) (hb : blk a ≠ some b) : w.cell? ⟨b, j, none⟩ = some v := by
  obtain ⟨_, _, hk⟩ := h
  rw [← hc]
  exact World.cell?_of_block (hk.block b (World.block_lt_of_cell? w0 ⟨b, j, none⟩ hc) hb)

set_option maxRecDepth 100000 in
set_option maxHeartbeats 4000000 in
theorem parses_any (a : Option Addr) (n cap : Nat) (xs : List Int) (w : World) (hn : xs.length = n) (hc : n ≤ cap) (hcm : cap ≤ maxLen) (hr : Rd w a xs) (hb : Byt xs) :
    Calls Try.prog 4 #[.slice a n cap] w fun e w' => e = .returned (.bool true) ∧ Below w.heap.size w w' := by
  have HN := Lib.hid hn
  have HR := Lib.hid hr
  have HB := Lib.hid hb
  have HC := Lib.hid hc
  have HCM := Lib.hid hcm
  clear hn hr hb hc hcm
  by_cases hl : 300 < n
  · go_enter Try.func4, Try.ntmps4
    go_wp2_with fail
    refine (works5_any _).mono ?_
    rintro e w1 ⟨rfl, hb1⟩
    have HB1 := Lib.hid hb1
    clear hb1
    go_wp2_with fail
    go_ret
    exact ⟨rfl, HB1.out⟩
  go_enter Try.func4, Try.ntmps4
  go_wp2_with fail
  refine (join_any none a 0 0 n cap [] xs _ rfl HN.out (Rd.empty _ _) HR.out (by omega)).mono ?_
  rintro e w1 ⟨a1, n1, c1, rfl, ho1, hb1⟩
  rw [List.nil_append] at ho1
  have HB1 := Lib.hid hb1
  have HO1 := Lib.hid ho1
  clear hb1 ho1
  go_wp2_with fail
  refine (r5Parse_any a n cap xs _ HN.out (HR.out.below HB1.out) HB.out (by omega) HC.out).mono ?_
  rintro e w2 ⟨rfl, hb2⟩
  obtain ⟨E, hE⟩ : ∃ x, psE xs = x := ⟨_, rfl⟩
  obtain ⟨V, hV⟩ : ∃ x, rpV xs = x := ⟨_, rfl⟩
  have HE := Lib.hid hE
  have HV := Lib.hid hV
  rw [hE, hV]
  clear hE hV
  have hb3 : Below w2.heap.size w2 ((w2.alloc (.cells rh0.toArray 29)).setCells w2.heap.size 0 (rpH xs)) := Below.setCells ((Below.refl _ _).alloc (Nat.le_refl _) _) _ (Nat.le_refl _) _ _
  have HTW : Hid ((w2.alloc (.cells rh0.toArray 29)).there w2.heap.size 0 11) := there_new _ _ _ _ rfl _ rfl
  have hb4 : Below w1.heap.size w1 ((w2.alloc (.cells rh0.toArray 29)).setCells w2.heap.size 0 (rpH xs)) := hb2.trans (hb3.mono hb2.size)
  have HF0 : Hid (Below w.heap.size w ((w2.alloc (.cells rh0.toArray 29)).setCells w2.heap.size 0 (rpH xs)) ∧ ((w2.alloc (.cells rh0.toArray 29)).setCells w2.heap.size 0 (rpH xs)).rangeAt w2.heap.size 0 (rpH xs) ∧ Own ((w2.alloc (.cells rh0.toArray 29)).setCells w2.heap.size 0 (rpH xs)) w.heap.size a1 n1 c1 xs) :=
    ⟨HB1.out.trans (hb4.mono HB1.out.size), World.rangeAt_setCells_same _ _ _ _ (by rw [rpH_len]; exact HTW.out), HO1.out.below hb4⟩
  obtain ⟨ls, hls⟩ : ∃ x, rpH xs = x := ⟨_, rfl⟩
  have HLL : Hid (ls.length = 11) := by show _ = _; rw [← hls, rpH_len]
  have HLO : Hid (∀ v ∈ ls, v.oneCell' = true) := by show ∀ v ∈ ls, _; rw [← hls]; exact rpH_one xs
  rw [hls] at HF0
  have HLS := Lib.hid hls
  rw [hls]
  clear hb2 hb3 hb4 hls HO1 HB1
  go_wp2_with (refine stN (fun w' => Hid (Below w.heap.size w w' ∧ w'.rangeAt w2.heap.size 0 ls ∧ Own w' w.heap.size a1 n1 c1 xs)) 29 (.tmp 4) (.tmp 31) rfl rfl w2.heap.size 0 ls rfl rfl (by rw [HLL.out]; exact HTW.out) (by rw [HLL.out]; exact infRH) HLO.out HF0 ?_; intro wc HF)
  obtain ⟨bR, hbR⟩ : ∃ x, w2.heap.size = x := ⟨_, rfl⟩
  rw [hbR] at HF
  rw [hbR]
  clear HF0 HTW hbR
  refine (r5Body_any a n cap xs _ HN.out (HR.out.below HF.out.1) HB.out (by omega) HC.out).mono ?_
  rintro e w3 hp
  obtain ⟨hb3, a2, n2, c2, rfl, hl2, hr2⟩ := hp.one
  obtain ⟨EB, hEB⟩ : ∃ x, bdE xs = x := ⟨_, rfl⟩
  have HEB := Lib.hid hEB
  rw [hEB]
  have HL2 := Lib.hid hl2
  have HR2 := Lib.hid hr2
  have HB3 := Lib.hid hb3
  clear hp hEB hl2 hr2 hb3
  go_wp2_with fail
  refine (r5Hop_any a n cap xs _ HN.out (HR.out.below (HF.out.1.trans (HB3.out.mono HF.out.1.size))) HB.out (by omega) HC.out).mono ?_
  rintro e w4 hp
  obtain ⟨hb4, a3, n3, c3, rfl, ho3⟩ := hp.one
  obtain ⟨EH, hEH⟩ : ∃ x, hopE xs = x := ⟨_, rfl⟩
  have HEH := Lib.hid hEH
  have ho3' : Own w4 w.heap.size a3 n3 c3 (hopB xs) := ho3.mono (HF.out.1.trans (HB3.out.mono HF.out.1.size)).size
  obtain ⟨hs, hhs⟩ : ∃ x, hopB xs = x := ⟨_, rfl⟩
  obtain ⟨bs, hbs⟩ : ∃ x, bdB xs = x := ⟨_, rfl⟩
  rw [hhs] at ho3'
  rw [hbs] at HR2 HL2
  have HHS := Lib.hid hhs
  have HBS := Lib.hid hbs
  have HHB : Hid (Byt hs) := by show Byt _; rw [← hhs]; exact hopB_byt HB.out
  have HBB : Hid (Byt bs) := by show Byt _; rw [← hbs]; exact bdB_byt HB.out
  have HHL := Lib.hid ho3'.len
  rw [hEH]
  have HG : Hid (PG w bR ls a1 n1 c1 xs a2 bs a3 n3 c3 hs w4) :=
    ⟨(HF.out.1.trans (HB3.out.mono HF.out.1.size)).trans (hb4.mono (HF.out.1.trans (HB3.out.mono HF.out.1.size)).size), range_kept hb4 (range_kept HB3.out HF.out.2.1), (HF.out.2.2.below HB3.out).below hb4, HR2.out.below hb4, ho3'⟩
  clear hp hEH hhs hbs ho3 ho3' hb4 HR2 HB3 HF
  go_wp2_with fail
  go_loopw [11] (fun i wr => ∃ t : Nat, t ≤ 2 ∧ i = .int .i64 t ∧ Hid (PG w bR ls a1 n1 c1 xs a2 bs a3 n3 c3 hs wr)) (fun i _ => 2 - (intOf i).toNat)
  case atStart => exact ⟨0, by omega, rfl, HG⟩
  case round =>
    obtain ⟨t, ht, rfl, hbt⟩ := hrel
    rename World => wt
    clear HG
    by_cases hlt : t < 2
    · have hlt' : (t : Int) < 2 := by omega
      go_wp2_with fail
      refine (iParse_any a n cap xs _ HN.out (HR.out.below hbt.out.1) HB.out (by omega) HC.out HCM.out).mono ?_
      rintro e w5 hp
      obtain ⟨hb5, h, rfl, ok5, ho5, hrh⟩ := hp.one HB.out
      rw [HE.out, HV.out]
      have HB5 := Lib.hid hb5
      have HRH := Lib.hid hrh
      have HLH := Lib.hid ok5.len
      obtain ⟨hp1, hp2, hp3⟩ := put_new w5 h.cs hd0.cs 26 (by rw [HLH.out]; rfl)
      rw [HLH.out] at hp3
      have HP3 := Lib.hid hp3
      have HAB : Hid (∀ k, blk h.a = some k → k < w5.heap.size) := fun k e => (ho5.blk_ge k e).2
      have HF0 : Hid (Below wt.heap.size wt ((w5.alloc (.cells hd0.cs.toArray 26)).setCells w5.heap.size 0 h.cs) ∧ ((w5.alloc (.cells hd0.cs.toArray 26)).setCells w5.heap.size 0 h.cs).rangeAt w5.heap.size 0 h.cs ∧ h.ok ((w5.alloc (.cells hd0.cs.toArray 26)).setCells w5.heap.size 0 h.cs) ∧ Own ((w5.alloc (.cells hd0.cs.toArray 26)).setCells w5.heap.size 0 h.cs) wt.heap.size h.a h.n h.c h.op ∧ w5.heap.size < ((w5.alloc (.cells hd0.cs.toArray 26)).setCells w5.heap.size 0 h.cs).heap.size) :=
        ⟨HB5.out.trans (hp1.mono HB5.out.size), hp2, ok5.below hp1, ho5.below hp1, World.block_lt_of_cell? _ ⟨w5.heap.size, 0, none⟩ (range_cell hp2 (Hd.c0 h))⟩
      have HC16 := Lib.hid ok5.c16
      clear hp hb5 ok5 ho5 hrh hp1 hp2 hp3
      go_wp2_with (refine stHN (fun w' => Hid (Below wt.heap.size wt w' ∧ w'.rangeAt w5.heap.size 0 h.cs ∧ h.ok w' ∧ Own w' wt.heap.size h.a h.n h.c h.op ∧ w5.heap.size < w'.heap.size)) (.tmp 12) (.tmp 51) rfl rfl w5.heap.size h rfl rfl HLH.out HP3.out HF0 ?_; intro wd HF)
      obtain ⟨bH, hbH⟩ : ∃ x, w5.heap.size = x := ⟨_, rfl⟩
      rw [hbH] at HF HAB
      rw [hbH]
      clear HF0 HP3 hbH HB5
      refine (iBody_any a n cap xs _ HN.out (HR.out.below (hbt.out.below HF.out.1).1) HB.out (by omega) HC.out HCM.out).mono ?_
      rintro e w6 hp
      obtain ⟨hb6, a6, n6, c6, rfl, ho6⟩ := hp.one
      have ho6' : Own w6 wd.heap.size a6 n6 c6 (bdB xs) := ho6
      rw [HBS.out] at ho6'
      rw [HEB.out]
      have HO6 := Lib.hid ho6'
      have HB6 := Lib.hid hb6
      have HT6 : Hid (Below wt.heap.size wt w6) := HF.out.1.trans (hb6.mono HF.out.1.size)
      clear hp ho6 ho6' hb6
      go_wp2_with fail
      refine (iHop_any a n cap xs _ HN.out (HR.out.below (hbt.out.below HT6.out).1) HB.out (by omega) HC.out HCM.out).mono ?_
      rintro e w7 hp
      obtain ⟨hb7, a7, n7, c7, rfl, ho7⟩ := hp.one
      have ho7' : Own w7 w6.heap.size a7 n7 c7 (hopB xs) := ho7
      rw [HHS.out] at ho7'
      rw [HEH.out]
      have HO7 := Lib.hid ho7'
      have HT7 : Hid (Below wt.heap.size wt w7) := HT6.out.trans (hb7.mono HT6.out.size)
      have HO6' : Hid (Own w7 wd.heap.size a6 n6 c6 bs) := HO6.out.below hb7
      have HA6 : Hid (∀ k, blk a6 = some k → k < w6.heap.size) := fun k e => (HO6.out.blk_ge k e).2
      have HD7 : Hid (Below wd.heap.size wd w7) := HB6.out.trans (hb7.mono HB6.out.size)
      have HZ6 : Hid (wd.heap.size ≤ w6.heap.size) := HB6.out.size
      have hs0 : Below w7.heap.size w7 w7.drew := by
        have hq := Below.refl w7.heap.size w7
        exact ⟨hq.os, hq.tape, hq.output, hq.size, hq.block⟩
      clear hp ho7 ho7' hb7 HO6 HT6 HB6
      go_wp2_with fail
      refine wp_region_held_drew (S := fun w' => Below w7.heap.size w7 w') (by kernel_rfl) hs0 (fun hS => ?_)
      try simp only [Act.put, List.setIfInBounds_toArray, List.set_cons_zero, List.set_cons_succ]
      refine tk 0 64 (.int .i64 E) rfl rfl (by kernel_rfl) (by kernel_rfl) (by kernel_rfl) (fun _ _ _ h => h) (Or.inl ⟨by rfl, fun w' h' => ?_⟩) hS ?_
      · go_simp
      try simp only [Act.put, List.setIfInBounds_toArray, List.set_cons_zero, List.set_cons_succ]
      refine tk 1 65 (.int .i64 E) rfl rfl (by kernel_rfl) (by kernel_rfl) (by kernel_rfl) (fun _ _ _ h => h) (Or.inl ⟨by rfl, fun w' h' => ?_⟩) hS ?_
      · go_simp
      try simp only [Act.put, List.setIfInBounds_toArray, List.set_cons_zero, List.set_cons_succ]
      refine tk 2 66 (.bool false) rfl rfl (by kernel_rfl) (by kernel_rfl) (by kernel_rfl) (fun _ _ _ h => h) (Or.inl ⟨by rfl, fun w' h' => ?_⟩) hS ?_
      · go_simp
      try simp only [Act.put, List.setIfInBounds_toArray, List.set_cons_zero, List.set_cons_succ]
      refine tk 3 67 (.bool false) rfl rfl (by kernel_rfl) (by kernel_rfl) (by kernel_rfl) (fun _ _ _ h => h) (Or.inl ⟨by rfl, fun w' h' => ?_⟩) hS ?_
      · go_simp
      try simp only [Act.put, List.setIfInBounds_toArray, List.set_cons_zero, List.set_cons_succ]
      refine tk 4 68 (.int .i64 V) rfl rfl (by kernel_rfl) (by kernel_rfl) (by kernel_rfl) (fun _ _ _ h => h) (Or.inl ⟨by rfl, fun w' h' => ?_⟩) hS ?_
      · go_simp
      try simp only [Act.put, List.setIfInBounds_toArray, List.set_cons_zero, List.set_cons_succ]
      refine tk 5 69 (.int .i64 V) rfl rfl (by kernel_rfl) (by kernel_rfl) (by kernel_rfl) (fun _ _ _ h => h) (Or.inl ⟨by rfl, fun w' h' => ?_⟩) hS ?_
      · go_simp
      try simp only [Act.put, List.setIfInBounds_toArray, List.set_cons_zero, List.set_cons_succ]
      refine tk 6 70 (.bool false) rfl rfl (by kernel_rfl) (by kernel_rfl) (by kernel_rfl) (fun _ _ _ h => h) (Or.inl ⟨by rfl, fun w' h' => ?_⟩) hS ?_
      · go_simp
      try simp only [Act.put, List.setIfInBounds_toArray, List.set_cons_zero, List.set_cons_succ]
      refine tk 7 71 (.bool false) rfl rfl (by kernel_rfl) (by kernel_rfl) (by kernel_rfl) (fun _ _ _ h => h) (Or.inl ⟨by rfl, fun w' h' => ?_⟩) hS ?_
      · go_simp
      try simp only [Act.put, List.setIfInBounds_toArray, List.set_cons_zero, List.set_cons_succ]
      refine tk 8 72 (.bool false) rfl rfl (by kernel_rfl) (by kernel_rfl) (by kernel_rfl) (fun _ _ _ h => h) (Or.inl ⟨by rfl, fun w' h' => ?_⟩) hS ?_
      · go_simp
      try simp only [Act.put, List.setIfInBounds_toArray, List.set_cons_zero, List.set_cons_succ]
      refine tk 9 73 (.agg (h.cs).toArray) rfl rfl (by kernel_rfl) (by kernel_rfl) (by kernel_rfl) (fun _ _ _ h => h) (yieldsIf_load_mid (by rfl) _ _ rfl (bH) 0 rfl (h.cs) _ (fun w' h' => range_kept (HD7.out.trans (Below.mono h' HD7.out.size)) HF.out.2.1) Try.underlying26 rfl (by rw [HLH.out]; exact infH)) hS ?_
      refine tk 11 75 (.agg (ls).toArray) rfl rfl (by kernel_rfl) (by kernel_rfl) (by kernel_rfl) (fun _ _ _ h => h) (yieldsIf_load_mid (by rfl) _ _ rfl (bR) 0 rfl (ls) _ (fun w' h' => range_kept (HT7.out.trans (Below.mono h' HT7.out.size)) hbt.out.2.1) Try.underlying29 rfl (by rw [HLL.out]; exact infRH)) hS ?_
      try simp only [Act.put, List.setIfInBounds_toArray, List.set_cons_zero, List.set_cons_succ]
      refine wpAnyH_ready (rs := [10]) (by kernel_rfl) (by simp) (AllReadyH.cons rfl (fun K hK => ?_) AllReadyH.nil)
      rw [if_pos (by rfl)]
      go_wp2_with fail
      refine (dIp_any h w7.drew ((HF.out.2.2.1.below HD7.out).at_ (HF.out.2.2.1.below HD7.out).row.rd.drw)).mono ?_
      rintro e x1 ⟨rfl, hb⟩
      have hs1 : Below w7.heap.size w7 x1 := undrew hb
      clear hb
      clear hS
      refine hK.out _ _ hs1 (fun hS => ?_)
      clear hK K
      try simp only [Act.put, List.setIfInBounds_toArray, List.set_cons_zero, List.set_cons_succ]
      refine wpAnyH_ready (rs := [12]) (by kernel_rfl) (by simp) (AllReadyH.cons rfl (fun K hK => ?_) AllReadyH.nil)
      rw [if_pos (by rfl)]
      go_wp2_with fail
      rw [← HLS.out]
      refine (pad_any xs _ HB.out).mono ?_
      rintro e x2 ⟨rfl, hb⟩
      have hs2 : Below w7.heap.size w7 x2 := hs1.trans (Below.mono hb hs1.size)
      clear hb
      rw [HLS.out, ← HRH.out]
      clear hS
      refine hK.out _ _ hs2 (fun hS => ?_)
      clear hK K
      try simp only [Act.put, List.setIfInBounds_toArray, List.set_cons_zero, List.set_cons_succ]
      refine tk 13 77 (.bool false) rfl rfl (by kernel_rfl) (by kernel_rfl) (by kernel_rfl) (fun _ _ _ h => h) (Or.inl ⟨by rfl, fun w' h' => ?_⟩) hS ?_
      · exact exec_neqRH rfl rfl rfl HF.out.2.2.1
      try simp only [Act.put, List.setIfInBounds_toArray, List.set_cons_zero, List.set_cons_succ]
      refine tk 14 78 (.bool false) rfl rfl (by kernel_rfl) (by kernel_rfl) (by kernel_rfl) (fun _ _ _ h => h) (Or.inl ⟨by rfl, fun w' h' => ?_⟩) hS ?_
      · go_simp
      try simp only [Act.put, List.setIfInBounds_toArray, List.set_cons_zero, List.set_cons_succ]
      refine tk 15 79 (.bool false) rfl rfl (by kernel_rfl) (by kernel_rfl) (by kernel_rfl) (fun _ _ _ h => h) (Or.inl ⟨by rfl, fun w' h' => ?_⟩) hS ?_
      · go_simp
      try simp only [Act.put, List.setIfInBounds_toArray, List.set_cons_zero, List.set_cons_succ]
      refine tk 16 80 (.int .i64 EB) rfl rfl (by kernel_rfl) (by kernel_rfl) (by kernel_rfl) (fun _ _ _ h => h) (Or.inl ⟨by rfl, fun w' h' => ?_⟩) hS ?_
      · go_simp
      try simp only [Act.put, List.setIfInBounds_toArray, List.set_cons_zero, List.set_cons_succ]
      refine tk 17 81 (.int .i64 EB) rfl rfl (by kernel_rfl) (by kernel_rfl) (by kernel_rfl) (fun _ _ _ h => h) (Or.inl ⟨by rfl, fun w' h' => ?_⟩) hS ?_
      · go_simp
      try simp only [Act.put, List.setIfInBounds_toArray, List.set_cons_zero, List.set_cons_succ]
      refine tk 18 82 (.bool false) rfl rfl (by kernel_rfl) (by kernel_rfl) (by kernel_rfl) (fun _ _ _ h => h) (Or.inl ⟨by rfl, fun w' h' => ?_⟩) hS ?_
      · go_simp
      try simp only [Act.put, List.setIfInBounds_toArray, List.set_cons_zero, List.set_cons_succ]
      refine tk 19 83 (.bool false) rfl rfl (by kernel_rfl) (by kernel_rfl) (by kernel_rfl) (fun _ _ _ h => h) (Or.inl ⟨by rfl, fun w' h' => ?_⟩) hS ?_
      · go_simp
      try simp only [Act.put, List.setIfInBounds_toArray, List.set_cons_zero, List.set_cons_succ]
      refine tk 20 84 (.bool false) rfl rfl (by kernel_rfl) (by kernel_rfl) (by kernel_rfl) (fun _ _ _ h => h) (Or.inl ⟨by rfl, fun w' h' => ?_⟩) hS ?_
      · go_simp
      try simp only [Act.put, List.setIfInBounds_toArray, List.set_cons_zero, List.set_cons_succ]
      refine tk 21 85 (.slice a6 n6 c6) rfl rfl (by kernel_rfl) (by kernel_rfl) (by kernel_rfl) (fun _ _ _ h => h) (Or.inl ⟨by rfl, fun w' h' => ?_⟩) hS ?_
      · go_simp
      try simp only [Act.put, List.setIfInBounds_toArray, List.set_cons_zero, List.set_cons_succ]
      refine tk 22 86 (.slice a2 n2 c2) rfl rfl (by kernel_rfl) (by kernel_rfl) (by kernel_rfl) (fun _ _ _ h => h) (Or.inl ⟨by rfl, fun w' h' => ?_⟩) hS ?_
      · go_simp
      try simp only [Act.put, List.setIfInBounds_toArray, List.set_cons_zero, List.set_cons_succ]
      refine wpAnyH_ready (rs := [23]) (by kernel_rfl) (by simp) (AllReadyH.cons rfl (fun K hK => ?_) AllReadyH.nil)
      rw [if_pos (by rfl)]
      go_wp2_with fail
      refine (same_any a6 a2 n6 c6 n2 c2 bs bs _ HO6'.out.len HL2.out (HO6'.out.rd.below hs2) ((hbt.out.below HT7.out).2.2.2.1.below hs2) HBB.out HBB.out).mono ?_
      rintro e x3 ⟨rfl, rfl⟩
      have hs3 := hs2
      rw [decide_eq_true (rfl : bs = bs)]
      clear hS
      refine hK.out _ _ hs3 (fun hS => ?_)
      clear hK K
      try simp only [Act.put, List.setIfInBounds_toArray, List.set_cons_zero, List.set_cons_succ]
      try simp only [Act.put, List.setIfInBounds_toArray, List.set_cons_zero, List.set_cons_succ]
      refine tk 24 88 (.bool false) rfl rfl (by kernel_rfl) (by kernel_rfl) (by kernel_rfl) (fun _ _ _ h => h) (Or.inl ⟨by rfl, fun w' h' => ?_⟩) hS ?_
      · go_simp
      try simp only [Act.put, List.setIfInBounds_toArray, List.set_cons_zero, List.set_cons_succ]
      refine tk 25 89 (.bool false) rfl rfl (by kernel_rfl) (by kernel_rfl) (by kernel_rfl) (fun _ _ _ h => h) (Or.inl ⟨by rfl, fun w' h' => ?_⟩) hS ?_
      · go_simp
      try simp only [Act.put, List.setIfInBounds_toArray, List.set_cons_zero, List.set_cons_succ]
      refine tk 26 90 (.bool false) rfl rfl (by kernel_rfl) (by kernel_rfl) (by kernel_rfl) (fun _ _ _ h => h) (Or.inl ⟨by rfl, fun w' h' => ?_⟩) hS ?_
      · go_simp
      try simp only [Act.put, List.setIfInBounds_toArray, List.set_cons_zero, List.set_cons_succ]
      refine tk 27 91 (.int .i64 EH) rfl rfl (by kernel_rfl) (by kernel_rfl) (by kernel_rfl) (fun _ _ _ h => h) (Or.inl ⟨by rfl, fun w' h' => ?_⟩) hS ?_
      · go_simp
      try simp only [Act.put, List.setIfInBounds_toArray, List.set_cons_zero, List.set_cons_succ]
      refine tk 28 92 (.int .i64 EH) rfl rfl (by kernel_rfl) (by kernel_rfl) (by kernel_rfl) (fun _ _ _ h => h) (Or.inl ⟨by rfl, fun w' h' => ?_⟩) hS ?_
      · go_simp
      try simp only [Act.put, List.setIfInBounds_toArray, List.set_cons_zero, List.set_cons_succ]
      refine tk 29 93 (.bool false) rfl rfl (by kernel_rfl) (by kernel_rfl) (by kernel_rfl) (fun _ _ _ h => h) (Or.inl ⟨by rfl, fun w' h' => ?_⟩) hS ?_
      · go_simp
      try simp only [Act.put, List.setIfInBounds_toArray, List.set_cons_zero, List.set_cons_succ]
      refine tk 30 94 (.bool false) rfl rfl (by kernel_rfl) (by kernel_rfl) (by kernel_rfl) (fun _ _ _ h => h) (Or.inl ⟨by rfl, fun w' h' => ?_⟩) hS ?_
      · go_simp
      try simp only [Act.put, List.setIfInBounds_toArray, List.set_cons_zero, List.set_cons_succ]
      refine tk 31 95 (.bool false) rfl rfl (by kernel_rfl) (by kernel_rfl) (by kernel_rfl) (fun _ _ _ h => h) (Or.inl ⟨by rfl, fun w' h' => ?_⟩) hS ?_
      · go_simp
      try simp only [Act.put, List.setIfInBounds_toArray, List.set_cons_zero, List.set_cons_succ]
      refine tk 32 96 (.slice a7 n7 c7) rfl rfl (by kernel_rfl) (by kernel_rfl) (by kernel_rfl) (fun _ _ _ h => h) (Or.inl ⟨by rfl, fun w' h' => ?_⟩) hS ?_
      · go_simp
      try simp only [Act.put, List.setIfInBounds_toArray, List.set_cons_zero, List.set_cons_succ]
      refine tk 33 97 (.slice a3 n3 c3) rfl rfl (by kernel_rfl) (by kernel_rfl) (by kernel_rfl) (fun _ _ _ h => h) (Or.inl ⟨by rfl, fun w' h' => ?_⟩) hS ?_
      · go_simp
      try simp only [Act.put, List.setIfInBounds_toArray, List.set_cons_zero, List.set_cons_succ]
      refine wpAnyH_ready (rs := [34]) (by kernel_rfl) (by simp) (AllReadyH.cons rfl (fun K hK => ?_) AllReadyH.nil)
      rw [if_pos (by rfl)]
      go_wp2_with fail
      refine (same_any a7 a3 n7 c7 n3 c3 hs hs _ HO7.out.len HHL.out (HO7.out.rd.below hs2) ((hbt.out.below HT7.out).2.2.2.2.rd.below hs2) HHB.out HHB.out).mono ?_
      rintro e x4 ⟨rfl, rfl⟩
      have hs4 := hs3
      rw [decide_eq_true (rfl : hs = hs)]
      clear hS
      refine hK.out _ _ hs4 (fun hS => ?_)
      clear hK K
      try simp only [Act.put, List.setIfInBounds_toArray, List.set_cons_zero, List.set_cons_succ]
      try simp only [Act.put, List.setIfInBounds_toArray, List.set_cons_zero, List.set_cons_succ]
      refine tk 35 99 (.bool false) rfl rfl (by kernel_rfl) (by kernel_rfl) (by kernel_rfl) (fun _ _ _ h => h) (Or.inl ⟨by rfl, fun w' h' => ?_⟩) hS ?_
      · go_simp
      try simp only [Act.put, List.setIfInBounds_toArray, List.set_cons_zero, List.set_cons_succ]
      refine tk 36 100 (.bool false) rfl rfl (by kernel_rfl) (by kernel_rfl) (by kernel_rfl) (fun _ _ _ h => h) (Or.inl ⟨by rfl, fun w' h' => ?_⟩) hS ?_
      · go_simp
      refine wpAnyH_done (by kernel_rfl) ?_ _
      have HX := Lib.hid hs2
      have HTX : Hid (Below wt.heap.size wt x2) := HT7.out.trans (hs2.mono HT7.out.size)
      have HC16' : Hid (x2.cell? ⟨bH, 16, none⟩ = some (.slice h.a h.n h.c)) := range_cell (range_kept (HD7.out.trans (hs2.mono HD7.out.size)) HF.out.2.1) HC16.out
      have HOH : Hid (Own x2 wt.heap.size h.a h.n h.c h.op) := (HF.out.2.2.2.1.below HD7.out).below hs2
      have HO6X : Hid (Own x2 wd.heap.size a6 n6 c6 bs) := HO6'.out.below hs2
      have HO7X : Hid (Own x2 w6.heap.size a7 n7 c7 hs) := HO7.out.below hs2
      have HSZ : Hid (bH < wd.heap.size ∧ wd.heap.size ≤ w6.heap.size ∧ wt.heap.size ≤ wd.heap.size) := ⟨HF.out.2.2.2.2, HZ6.out, HF.out.1.size⟩
      obtain ⟨A, hA⟩ : ∃ x, h.a = x := ⟨_, rfl⟩
      obtain ⟨m, hm⟩ : ∃ x, h.n = x := ⟨_, rfl⟩
      obtain ⟨c, hcc⟩ : ∃ x, h.c = x := ⟨_, rfl⟩
      obtain ⟨ops, hops⟩ : ∃ x, h.op = x := ⟨_, rfl⟩
      rw [hA, hm, hcc] at HC16'
      rw [hA, hm, hcc, hops] at HOH
      rw [hA] at HAB
      clear hs0 hs1 hs2 hs3 hs4 HX hA hm hcc hops HC16 HF HRH HLH HO6' HO7 HT7 HD7 HZ6
      have HJ0 : Hid (Inc x2 wt.heap.size A m c x2) := Inc.start HOH.out
      go_wp2_with fail
      go_loopw [19] (fun i wr => ∃ q : Nat, q ≤ m ∧ i = .int .i64 q ∧ Hid (Inc x2 wt.heap.size A m c wr)) (fun i _ => m - (intOf i).toNat)
      case atStart => exact ⟨0, Nat.zero_le _, rfl, HJ0⟩
      case round =>
        obtain ⟨q, hq, rfl, hin⟩ := hrel
        rename World => wi
        clear HJ0
        have hcell := hin.out.cell HC16'.out (fun e => by have := HAB.out bH e; omega)
        by_cases hlq : q < m
        · obtain ⟨gd, zz, rfl, hzz, hf, hnext⟩ := hin.out.at_ hlq
          have HX := Lib.hid hnext
          clear hnext
          have hmc : m ≤ c := HOH.out.le.1
          have hmx : c ≤ 9223372036854775807 := HOH.out.le.2
          go_wp2_with fail
          go_roundw
          case rel => exact ⟨q + 1, by omega, by go_num, HX.out _⟩
          case measure => simp [intOf]; omega
        · have HBI : Hid (Below wt.heap.size wt wi) := Inc.blw HOH.out HTX.out hin.out
          have HO6Y : Hid (Own wi wd.heap.size a6 n6 c6 bs) := hin.out.other HO6X.out (fun k e => by have h1 := HAB.out k e; have h2 := HSZ.out.1; omega)
          have HO7Y : Hid (Own wi w6.heap.size a7 n7 c7 hs) := hin.out.other HO7X.out (fun k e => by have h1 := HAB.out k e; have h2 := HSZ.out; omega)
          have HJ1 : Hid (Inc wi wd.heap.size a6 n6 c6 wi) := Inc.start HO6Y.out
          have HWI : Hid (wt.heap.size ≤ wi.heap.size) := HBI.out.size
          go_wp2_with fail
          clear hin hcell
          go_loopw [20] (fun i wr => ∃ q : Nat, q ≤ n6 ∧ i = .int .i64 q ∧ Hid (Inc wi wd.heap.size a6 n6 c6 wr)) (fun i _ => n6 - (intOf i).toNat)
          case atStart => exact ⟨0, Nat.zero_le _, rfl, HJ1⟩
          case round =>
            obtain ⟨q6, hq6, rfl, hin⟩ := hrel
            rename World => wj
            clear HJ1
            by_cases hlq6 : q6 < n6
            · obtain ⟨gd, zz, rfl, hzz, hf, hnext⟩ := hin.out.at_ hlq6
              have HX := Lib.hid hnext
              clear hnext
              have hmc : n6 ≤ c6 := HO6Y.out.le.1
              have hmx : c6 ≤ 9223372036854775807 := HO6Y.out.le.2
              go_wp2_with fail
              go_roundw
              case rel => exact ⟨q6 + 1, by omega, by go_num, HX.out _⟩
              case measure => simp [intOf]; omega
            · have HBJ : Hid (Below wt.heap.size wt wj) := by
                obtain ⟨_, _, hk⟩ := hin.out
                exact HBI.out.trans (hk.below HBI.out.size (fun i e => by have h1 := (HO6Y.out.blk_ge i e).1; have h2 := HSZ.out; omega))
              have HO7Z : Hid (Own wj w6.heap.size a7 n7 c7 hs) := hin.out.other HO7Y.out (fun k e => HA6.out k e)
              have HJ2 : Hid (Inc wj w6.heap.size a7 n7 c7 wj) := Inc.start HO7Z.out
              go_wp2_with fail
              clear hin
              go_loopw [21] (fun i wr => ∃ q : Nat, q ≤ n7 ∧ i = .int .i64 q ∧ Hid (Inc wj w6.heap.size a7 n7 c7 wr)) (fun i _ => n7 - (intOf i).toNat)
              case atStart => exact ⟨0, Nat.zero_le _, rfl, HJ2⟩
              case round =>
                obtain ⟨q7, hq7, rfl, hin⟩ := hrel
                rename World => wk
                clear HJ2
                by_cases hlq7 : q7 < n7
                · obtain ⟨gd, zz, rfl, hzz, hf, hnext⟩ := hin.out.at_ hlq7
                  have HX := Lib.hid hnext
                  clear hnext
                  have hmc : n7 ≤ c7 := HO7Z.out.le.1
                  have hmx : c7 ≤ 9223372036854775807 := HO7Z.out.le.2
                  go_wp2_with fail
                  go_roundw
                  case rel => exact ⟨q7 + 1, by omega, by go_num, HX.out _⟩
                  case measure => simp [intOf]; omega
                · have HBK : Hid (Below wt.heap.size wt wk) := by
                    obtain ⟨_, _, hk⟩ := hin.out
                    exact HBJ.out.trans (hk.below HBJ.out.size (fun i e => by have h1 := (HO7Z.out.blk_ge i e).1; have h2 := HSZ.out; omega))
                  have HN2 : Hid (PG w bR ls a1 n1 c1 xs a2 bs a3 n3 c3 hs wk) := hbt.out.below HBK.out
                  go_wp2_with fail
                  go_roundw
                  case rel => exact ⟨t + 1, by omega, by go_num, HN2⟩
                  case measure => simp [intOf]; omega
    · have ht2 : t = 2 := by omega
      subst ht2
      go_wp2_with fail
      refine (same_any a a1 n cap n1 c1 xs xs _ HN.out hbt.out.2.2.1.len (HR.out.below hbt.out.1) hbt.out.2.2.1.rd HB.out HB.out).mono ?_
      rintro e w8 ⟨rfl, rfl⟩
      rw [decide_eq_true (rfl : xs = xs)]
      go_wp2_with fail
      refine (works5_any _).mono ?_
      rintro e w9 ⟨rfl, hb9⟩
      have HB9 : Hid (Below w.heap.size w w9) := hbt.out.1.trans (hb9.mono hbt.out.1.size)
      clear hb9
      go_wp2_with fail
      go_ret
      exact ⟨rfl, HB9.out⟩
end Go.Proofs.Ytjnbnjdajkhkpaa

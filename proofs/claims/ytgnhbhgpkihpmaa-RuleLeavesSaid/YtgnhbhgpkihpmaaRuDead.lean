/-
  The contract of Dead. Conditions: a classifier that was made. (Made by gen_rudead.py.)
-/
import Derived.Test.YtgnhbhgpkihpmaaRuCls
namespace Go.Proofs.Ytgnhbhgpkihpmaa
open Go.RowKit

/-- Is the rule at that place one that can never tell? -/
def isDead (l : List Rl) (i : Nat) : Bool := match l[i]? with | some r => fsi (cov r) (l.take i) != -1 | none => false
/-- The places of those among the first ones. -/
def deads (l : List Rl) (k : Nat) : List Int := ((List.range k).filter (isDead l)).map (fun i : Nat => (i : Int))
theorem deads_yes {l : List Rl} {k : Nat} (h : isDead l k = true) : deads l (k + 1) = deads l k ++ [(k : Int)] := by
  simp [deads, List.range_succ, List.filter_append, h]
theorem deads_no {l : List Rl} {k : Nat} (h : isDead l k = false) : deads l (k + 1) = deads l k := by
  simp [deads, List.range_succ, List.filter_append, h]
theorem deads_len (l : List Rl) (k : Nat) : (deads l k).length ≤ k := by
  simp only [deads, List.length_map]
  have := List.length_filter_le (isDead l) (List.range k)
  simpa using this
def iv (xs : List Int) : List Value := xs.map (Value.int .i64)
/-- A new row of these numbers. -/
def MadeI (w : World) (xs : List Int) (e : Ending) (w' : World) : Prop := ∃ a n c, e = .returned (.slice a n c) ∧ OwnG w' w.heap.size 3 1 a n c (iv xs) ∧ Below w.heap.size w w'
theorem iv_append (xs ys : List Int) : iv (xs ++ ys) = iv xs ++ iv ys := by simp [iv]
theorem Rls.take {w : World} {a : Option Addr} {n : Nat} {l : List Rl} (h : Rls w a n l) {k : Nat} (hk : k ≤ n) : Rls w a k (l.take k) :=
  ⟨by rw [List.length_take, h.len]; omega, fun r hr => h.ok r (List.mem_of_mem_take hr), fun hne => by
    obtain ⟨b, o, e, hc⟩ := h.cells (by intro e; rw [e] at hne; simp at hne)
    exact ⟨b, o, e, fun i r hr => hc i r (by
      rw [List.getElem?_take] at hr
      split at hr
      · exact hr
      · cases hr)⟩⟩
/-- A rule's copy, beside the classifier. -/
structure Dz (w wz : World) (b gR : Nat) (a : Option Addr) (n c : Nat) (l : List Rl) (o : Rl) (hs : List Int) (r : Rl) (a3 : Option Addr) (n3 c3 : Nat) (xs : List Int) : Prop where
  cf : CfB wz b a n c l o hs
  rng : wz.rangeAt gR 0 r.cs
  own : OwnG wz w.heap.size 3 1 a3 n3 c3 (iv xs)
  below : Below w.heap.size w wz
theorem Dz.next {w wz w' : World} {b gR : Nat} {a : Option Addr} {n c : Nat} {l : List Rl} {o : Rl} {hs : List Int} {r : Rl} {a3 : Option Addr} {n3 c3 : Nat} {xs : List Int} (h : Dz w wz b gR a n c l o hs r a3 n3 c3 xs) (hb : Below wz.heap.size wz w') : Dz w w' b gR a n c l o hs r a3 n3 c3 xs :=
  ⟨h.cf.below hb, range_kept hb h.rng, h.own.below hb, h.below.trans (hb.mono h.below.size)⟩

set_option maxRecDepth 100000 in
set_option maxHeartbeats 4000000 in
theorem uDead_any (b : Nat) (l : List Rl) (o : Rl) (w : World) (hc : Cf w b l o) : Calls Try.prog 8 #[.pointer (some ⟨b, 0, none⟩)] w (MadeI w (deads l l.length)) := by
  obtain ⟨a, n, c, hs, hcf⟩ := hc
  have HCF := Lib.hid hcf
  have HNN : Hid (n < 65) := by have h1 := hcf.few; have h2 := hcf.own.len; show n < _; omega
  have hsl := hcf.slice
  have HCB := Lib.hid hcf.lt
  have HRA : Hid (∀ i, blk a = some i → i < w.heap.size) := fun i hi => (hcf.own.row.blk_ge i hi).2
  have HLEN := Lib.hid hcf.own.len
  clear hcf
  go_enter Try.func8, Try.ntmps8
  go_wp2_with fail
  clear hsl
  go_loopw [3, 13] (fun s i wr => ∃ (k : Nat) (a3 : Option Addr) (n3 c3 : Nat), k ≤ n ∧ s = .slice a3 n3 c3 ∧ i = .int .i64 k ∧ Hid (OwnG wr w.heap.size 3 1 a3 n3 c3 (iv (deads l k))) ∧ Hid (CfB wr b a n c l o hs) ∧ Hid (Below w.heap.size w wr)) (fun _ i _ => n - (intOf i).toNat)
  case atStart => exact ⟨0, none, 0, 0, Nat.zero_le _, rfl, rfl, OwnG.nil _ _ _ _, HCF.out, Below.refl _ _⟩
  case round =>
    obtain ⟨k, a3, n3, c3, hk, rfl, rfl, hown, hcf, hbl⟩ := hrel
    clear HCF
    rename World => wo
    have hk65 : k < 65 := by have := HNN.out; omega
    by_cases hlt : k < n
    · have hlt2 : (k : Int) < (n : Int) := by omega
      obtain ⟨r, ba, oa, hr, hrok, rfl, hrg⟩ := hcf.out.own.rls.nth hlt
      have HRG := Lib.hid hrg
      have HRO := Lib.hid hrok
      have HRK := Lib.hid hr
      have hkc : k ≤ c := by have := hcf.out.own.row.le.1; omega
      have hkc2 : (k : Int) ≤ (c : Int) := by omega
      obtain ⟨dd, hdd⟩ : ∃ dd, (fsi (cov r) (l.take k) != -1) = dd := ⟨_, rfl⟩
      have HDD := Lib.hid hdd
      have HID : Hid (isDead l k = dd) := by show _ = _; simp only [isDead, hr, hdd]
      clear hrg hrok hr hdd
      go_wp2_with (first
        | (refine ldU _ rfl rfl _ _ rfl r HRO.out HRG.out ?_)
        | (refine stN (fun w' => Hid (Dz w w' b wo.heap.size (some ⟨ba, oa, none⟩) n c l o hs r a3 n3 c3 (deads l k))) 43 _ _ rfl rfl _ _ r.cs rfl rfl (by rw [Rl.len HRO.out]; exact there_new _ _ _ _ rfl _ rfl) (by rw [Rl.len HRO.out]; exact infU) (Rl.one r) (by exact ⟨hcf.out.below (Below.boxed _ _ _ _), range_boxed _ _ _ _ (by rw [Rl.len HRO.out]; rfl), hown.out.below (Below.boxed _ _ _ _), hbl.out.trans ((Below.boxed _ _ _ _).mono hbl.out.size)⟩) ?_; intro wk HDZ; obtain ⟨gR, hgR⟩ : ∃ gR, wo.heap.size = gR := ⟨_, rfl⟩; rw [hgR] at HDZ ⊢; clear hgR))
      refine wp_region_held_drew (S := fun w' => World.cell? w' ⟨b, 0, none⟩ = some (.slice (some ⟨ba, oa, none⟩) n c) ∧ World.rangeAt w' gR 0 r.cs) (by kernel_rfl) ⟨HDZ.out.cf.slice, HDZ.out.rng⟩ (fun hS => ?_)
      refine tk 0 18 (.pointer (some ⟨b, 0, none⟩)) rfl rfl (by kernel_rfl) (by kernel_rfl) (by kernel_rfl) (fun _ _ _ h => h) (Or.inl ⟨by rfl, fun w' h' => ?_⟩) hS ?_
      · go_simp
      try simp only [Act.put, List.setIfInBounds_toArray, List.set_cons_zero, List.set_cons_succ]
      refine tk 1 19 (.pointer (some ⟨b, 0, none⟩)) rfl rfl (by kernel_rfl) (by kernel_rfl) (by kernel_rfl) (fun _ _ _ h => h) (Or.inl ⟨by rfl, fun w' h' => ?_⟩) hS ?_
      · go_simp
      try simp only [Act.put, List.setIfInBounds_toArray, List.set_cons_zero, List.set_cons_succ]
      refine tk 2 20 (.pointer (some ⟨b, 0, none⟩)) rfl rfl (by kernel_rfl) (by kernel_rfl) (by kernel_rfl) (fun _ _ _ h => h) (Or.inl ⟨by rfl, fun w' h' => ?_⟩) hS ?_
      · go_simp
      try simp only [Act.put, List.setIfInBounds_toArray, List.set_cons_zero, List.set_cons_succ]
      refine tk 3 21 (.slice (some ⟨ba, oa, none⟩) n c) rfl rfl (by kernel_rfl) (by kernel_rfl) (by kernel_rfl) (fun _ _ _ h => h) (Or.inl ⟨by rfl, fun w' h' => ?_⟩) hS ?_
      · have hc := h'.1
        go_simp
      try simp only [Act.put, List.setIfInBounds_toArray, List.set_cons_zero, List.set_cons_succ]
      refine tk 4 22 (.int .i64 (k : Int)) rfl rfl (by kernel_rfl) (by kernel_rfl) (by kernel_rfl) (fun _ _ _ h => h) (Or.inl ⟨by rfl, fun w' h' => ?_⟩) hS ?_
      · go_simp
      try simp only [Act.put, List.setIfInBounds_toArray, List.set_cons_zero, List.set_cons_succ]
      refine tk 5 23 (.slice (some ⟨ba, oa, none⟩) k c) rfl rfl (by kernel_rfl) (by kernel_rfl) (by kernel_rfl) (fun _ _ _ h => h) (Or.inl ⟨by rfl, fun w' h' => ?_⟩) hS ?_
      · have hkc1 := hkc
        go_simp
      try simp only [Act.put, List.setIfInBounds_toArray, List.set_cons_zero, List.set_cons_succ]
      refine tk 6 24 (.agg (r.cs).toArray) rfl rfl (by kernel_rfl) (by kernel_rfl) (by kernel_rfl) (fun _ _ _ h => h) (yieldsIf_load_mid (by rfl) _ _ rfl (gR) (0) rfl (r.cs) _ (fun w' h' => h'.2) Try.underlying43 rfl (by rw [Rl.len HRO.out]; exact infU)) hS ?_
      try simp only [Act.put, List.setIfInBounds_toArray, List.set_cons_zero, List.set_cons_succ]
      refine wpAnyH_ready (rs := [7]) (by kernel_rfl) (by simp) (AllReadyH.cons rfl (fun K hK => ?_) AllReadyH.nil)
      rw [if_pos (by rfl)]
      go_wp2_with fail
      refine (firstHolds_any (some ⟨ba, oa, none⟩) k c (l.take k) r _ ((HDZ.out.cf.own.rls.take (Nat.le_of_lt hlt)).below (Below.refl _ _).drew) (by have := HNN.out; omega) HRO.out).mono ?_
      rintro e w2 ⟨rfl, hb2⟩
      have HD2 := Lib.hid (HDZ.out.next (undrew hb2))
      clear hb2
      clear hS
      refine hK.out _ _ (⟨HD2.out.cf.slice, HD2.out.rng⟩) (fun hS => ?_)
      clear hK K
      try simp only [Act.put, List.setIfInBounds_toArray, List.set_cons_zero, List.set_cons_succ]
      refine tk 8 26 (.bool dd) rfl rfl (by kernel_rfl) (by kernel_rfl) (by kernel_rfl) (fun _ _ _ h => h) (Or.inl ⟨by rfl, fun w' h' => ?_⟩) hS ?_
      · have hd1 := HDD.out
        go_simp
      refine wpAnyH_done (by kernel_rfl) ?_ _
      cases dd with
      | false =>
        have HO : Hid (OwnG w2 w.heap.size 3 1 a3 n3 c3 (iv (deads l (k + 1)))) := by
          show OwnG _ _ _ _ _ _ _ _
          rw [deads_no HID.out]; exact HD2.out.own
        have HC := Lib.hid HD2.out.cf
        have HBL := Lib.hid HD2.out.below
        go_wp2_with fail
        go_roundw
        case rel => exact ⟨k + 1, a3, n3, c3, by omega, rfl, by go_num, HO, HC, HBL⟩
        case measure => simp [intOf]; omega
      | true =>
        have hn3 : n3 ≤ 1000 := by
          have h1 := HD2.out.own.1
          have h2 := deads_len l k
          have h3 := HNN.out
          simp [iv] at h1
          omega
        obtain ⟨g1, c1, w3, hrun, hown1, hk1, hx1⟩ := run_append_one w2 w.heap.size 36 36 3 (.int .i64 0) 1 8 int_info Try.underlying36 rfl (by omega) HD2.out.own [.int .i64 (k : Int)] rfl (by simp [Value.oneCell']) HD2.out.below.size (by omega) (by omega)
        have HRN := Lib.hid hrun
        have HO : Hid (OwnG w3 w.heap.size 3 1 (some ⟨g1, 0, none⟩) (n3 + 1) c1 (iv (deads l (k + 1)))) := by
          show OwnG _ _ _ _ _ _ _ _
          rw [deads_yes HID.out, iv_append]; exact hown1
        have hlow : ∀ i, blk a3 = some i → w.heap.size ≤ i := fun i hi => (HD2.out.own.blk_ge i hi).1
        have HBL : Hid (Below w.heap.size w w3) := HD2.out.below.trans (hk1.below HD2.out.below.size hlow)
        have HC : Hid (CfB w3 b (some ⟨ba, oa, none⟩) n c l o hs) := HD2.out.cf.keep hk1 (fun h => by have h1 := HCB.out; have h2 := hlow _ h; omega) (fun i hi h => by have h1 := HRA.out i hi; have h2 := hlow _ h; omega)
        clear hrun hown1 hk1 hx1 hlow hn3
        go_wp2_with (at_builtin; refine Lib.wpList_append_run _ rfl _ _ _ _ rfl _ _ rfl rfl _ _ HRN.out ?_)
        go_roundw
        case rel => exact ⟨k + 1, some ⟨g1, 0, none⟩, n3 + 1, c1, by omega, rfl, by go_num, HO, HC, HBL⟩
        case measure => simp [intOf]; omega
    · have hlt2 : ¬ (k : Int) < (n : Int) := by omega
      have HF : Hid (MadeI w (deads l l.length) (.returned (.slice a3 n3 c3)) wo) := ⟨a3, n3, c3, rfl, by rw [show l.length = k by rw [HLEN.out]; omega]; exact hown.out, hbl.out⟩
      go_wp2_with fail
      go_ret
      exact HF.out
end Go.Proofs.Ytgnhbhgpkihpmaa

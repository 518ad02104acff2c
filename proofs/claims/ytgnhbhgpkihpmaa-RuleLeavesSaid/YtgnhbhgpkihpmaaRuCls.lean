/-
  The contract of Class. Conditions: a classifier that was made, keys whose numbers fit their Go types. (Made by gen_rucls.py.)
-/
import Derived.Test.YtgnhbhgpkihpmaaRuCf
namespace Go.Proofs.Ytgnhbhgpkihpmaa
open Go.RowKit

/-- The class, and the error, that a rule tells. -/
def cln (r : Rl) : Int := if r.dy then 0 else r.c
def cle (r : Rl) : Int := if r.dy then 90 else 0
/-- What Class answers; it counts. -/
def ClsR (w : World) (b : Nat) (l : List Rl) (o : Rl) (k : Ky) (e : Ending) (w' : World) : Prop :=
  e = .returned (.tuple #[.int .i64 (cln (told (fit k) o l)), .int .i64 (cle (told (fit k) o l))]) ∧ Kept (fun x => x = b) w w' ∧ Cf w' b l o
/-- A rule of the call's own beside the classifier. -/
structure Cz (w wz : World) (b gT : Nat) (a : Option Addr) (n c : Nat) (l : List Rl) (o : Rl) (hs : List Int) (tr : Rl) : Prop where
  cf : CfB wz b a n c l o hs
  ok : tr.ok
  rng : wz.rangeAt gT 0 tr.cs
  th : wz.there gT 0 44
  ne : gT ≠ b
  below : Below w.heap.size w wz
  ge : w.heap.size ≤ gT
  ra : ∀ i, blk a = some i → i < w.heap.size
theorem Kept.setCells {S : Nat → Prop} {w w' : World} (g : Nat) (hg : S g) : ∀ (vs : List Value) (o : Nat), Kept S w w' → Kept S w (w'.setCells g o vs)
  | [], _, h => h
  | v :: r, o, h => by rw [World.setCells]; exact Kept.setCells g hg r (o + 1) (h.trans (Kept.setCell (S := S) w' ⟨g, o, none⟩ v hg) (fun _ _ h => h))
theorem Kept.setOne (w : World) (g o : Nat) (vs : List Value) : Kept (fun x => x = g) w (w.setCells g o vs) := Kept.setCells (S := fun x => x = g) g rfl vs o (Kept.refl _ _)
theorem range_keep {S : Nat → Prop} {w w' : World} {g o : Nat} {cs : List Value} (k : Kept S w w') (hg : ¬ S g) (h : w.rangeAt g o cs) : w'.rangeAt g o cs := fun j v hv => by
  have h1 := h j v hv
  rw [← h1]
  exact World.cell?_of_block (k.block g (World.block_lt_of_cell? w _ h1) hg)
theorem Cz.again {w wz : World} {b gT : Nat} {a : Option Addr} {n c : Nat} {l : List Rl} {o : Rl} {hs : List Int} {tr r : Rl} (h : Cz w wz b gT a n c l o hs tr) (hr : r.ok) : Cz w (wz.setCells gT 0 r.cs) b gT a n c l o hs r :=
  ⟨h.cf.keep (S := fun x => x = gT) (Kept.setOne _ _ _ _) (fun e => h.ne e.symm) (fun i hi e => by have h1 := h.ra i hi; have h2 := h.ge; omega), hr, World.rangeAt_setCells_same _ _ _ _ (by rw [Rl.len hr]; exact h.th), World.there_setCells h.th _ _ _, h.ne, Below.setCells h.below _ h.ge _ _, h.ge, h.ra⟩
theorem there_setCells {w : World} {b n : Nat} (h : w.there b 0 n) (d : Nat) (vs : List Value) : (w.setCells d 0 vs).there b 0 n := by
  exact World.there_setCells h _ _ _
theorem wp_stN {o : Oper} {a : Act} {w : World} {K : Act → World → Prop} {Q : Exit → Act → World → Prop} (Pz : World → Prop) (ty : TypeId) (x y : Operand) (ho : o.op = .store ty x y) (b off : Nat) (cs : List Value)
    (hx : a.eval x = .pointer (some ⟨b, off, none⟩)) (hy : a.eval y = .agg cs.toArray) (ht : w.there b off cs.length) (hi : (Try.prog.info? ty).map (·.size) = some cs.length) (h1 : ∀ v ∈ cs, v.oneCell' = true) (hP : Pz (w.setCells b off cs))
    (h : ∀ w', Pz w' → K (a.put o.dst undef) w') : o.wp Try.prog a w K Q :=
  wp_store_mid ty x y ho b off cs.toArray hx hy (by simpa using ht) (by simpa using hi) (all_oneCell_toArray h1) (by simpa using h _ hP)

set_option maxRecDepth 100000 in
set_option maxHeartbeats 4000000 in
theorem uClass_any (b : Nat) (l : List Rl) (o : Rl) (k : Ky) (w : World) (hc : Cf w b l o) (hk : k.ok) : Calls Try.prog 7 #[.pointer (some ⟨b, 0, none⟩), .agg k.cs.toArray] w (ClsR w b l o k) := by
  obtain ⟨a, n, c, hs, hcf⟩ := hc
  have hb : Below w.heap.size w (w.alloc (.cells k.cs.toArray 28)) := (Below.refl _ _).alloc (Nat.le_refl _) _
  have hbd : Below w.heap.size w (w.alloc (.cells k.cs.toArray 28)).drew := hb.drew
  have HS : Hid (World.rangeAt (w.alloc (.cells k.cs.toArray 28)) b 1 o.cs ∧ World.rangeAt (w.alloc (.cells k.cs.toArray 28)) w.heap.size 0 k.cs) := ⟨(hcf.below hb).oth, range_new w k.cs 28⟩
  have HCD := Lib.hid (hcf.below hbd)
  have HCF := Lib.hid hcf
  have HNN : Hid (n < 65) := by have h1 := hcf.few; have h2 := hcf.own.len; show n < _; omega
  have HB := Lib.hid hbd
  have HK := Lib.hid hk
  have HLT := Lib.hid hcf.lt
  have HRA : Hid (∀ i, blk a = some i → i < w.heap.size) := fun i hi => (hcf.own.row.blk_ge i hi).2
  clear hcf hb hbd hk
  go_enter Try.func7, Try.ntmps7
  go_wp2_with fail
  refine wp_region_held_drew (S := fun w' => World.rangeAt w' b 1 o.cs ∧ World.rangeAt w' w.heap.size 0 k.cs) (by kernel_rfl) HS.out (fun hS => ?_)
  refine tk 0 10 (.pointer (some ⟨b, 0, none⟩)) rfl rfl (by kernel_rfl) (by kernel_rfl) (by kernel_rfl) (fun _ _ _ h => h) (Or.inl ⟨by rfl, fun w' h' => ?_⟩) hS ?_
  · go_simp
  try simp only [Act.put, List.setIfInBounds_toArray, List.set_cons_zero, List.set_cons_succ]
  refine tk 1 11 (.agg (k.cs).toArray) rfl rfl (by kernel_rfl) (by kernel_rfl) (by kernel_rfl) (fun _ _ _ h => h) (yieldsIf_load_mid (by rfl) _ _ rfl (w.heap.size) (0) rfl (k.cs) _ (fun w' h' => h'.2) Try.underlying28 rfl (by rw [Ky.len HK.out]; exact infK)) hS ?_
  try simp only [Act.put, List.setIfInBounds_toArray, List.set_cons_zero, List.set_cons_succ]
  refine tk 3 13 (.pointer (some ⟨b, 0, none⟩)) rfl rfl (by kernel_rfl) (by kernel_rfl) (by kernel_rfl) (fun _ _ _ h => h) (Or.inl ⟨by rfl, fun w' h' => ?_⟩) hS ?_
  · go_simp
  try simp only [Act.put, List.setIfInBounds_toArray, List.set_cons_zero, List.set_cons_succ]
  refine tk 4 14 (.pointer (some ⟨b, 0, none⟩)) rfl rfl (by kernel_rfl) (by kernel_rfl) (by kernel_rfl) (fun _ _ _ h => h) (Or.inl ⟨by rfl, fun w' h' => ?_⟩) hS ?_
  · go_simp
  try simp only [Act.put, List.setIfInBounds_toArray, List.set_cons_zero, List.set_cons_succ]
  refine tk 5 15 (.pointer (some ⟨b, 1, none⟩)) rfl rfl (by kernel_rfl) (by kernel_rfl) (by kernel_rfl) (fun _ _ _ h => h) (Or.inl ⟨by rfl, fun w' h' => ?_⟩) hS ?_
  · go_simp
  try simp only [Act.put, List.setIfInBounds_toArray, List.set_cons_zero, List.set_cons_succ]
  refine tk 6 16 (.agg (o.cs).toArray) rfl rfl (by kernel_rfl) (by kernel_rfl) (by kernel_rfl) (fun _ _ _ h => h) (yieldsIf_load_mid (by rfl) _ _ rfl (b) (1) rfl (o.cs) _ (fun w' h' => h'.1) Try.underlying43 rfl (by rw [Rl.len HCF.out.ok]; exact infU)) hS ?_
  try simp only [Act.put, List.setIfInBounds_toArray, List.set_cons_zero, List.set_cons_succ]
  refine wpAnyH_ready (rs := [2, 7]) (by kernel_rfl) (by simp) (AllReadyH.cons rfl (fun K hK => ?_) (AllReadyH.cons rfl (fun K hK => ?_) AllReadyH.nil))
  · rw [if_pos (by rfl)]
    go_wp2_with fail
    refine (uWhich_any b l o k _ ⟨a, n, c, hs, HCD.out⟩ HK.out).mono ?_
    rintro e wa ⟨rfl, hba⟩
    have HC1 := Lib.hid (HCD.out.below hba)
    have HB1 := Lib.hid (HB.out.trans (hba.mono (by simp)))
    have HKR1 := Lib.hid (range_kept (undrew hba) HS.out.2)
    have HGW : Hid (w.heap.size ≤ wa.heap.size) := HB1.out.size
    have HNE : Hid (wa.heap.size ≠ b) := by have h1 := HLT.out; have h2 := HB1.out.size; show _ ≠ _; omega
    have HGK : Hid (¬ w.heap.size = wa.heap.size) := by have h2 := (undrew hba).size; simp at h2; show ¬ _; omega
    clear hba hS
    refine hK.out _ _ ⟨HC1.out.oth, HKR1.out⟩ (fun hS => ?_)
    clear hK K
    try simp only [Act.put, List.setIfInBounds_toArray, List.set_cons_zero, List.set_cons_succ]
    refine wpAnyH_ready (rs := [7]) (by kernel_rfl) (by simp) (AllReadyH.cons rfl (fun K hK => ?_) AllReadyH.nil)
    rw [if_pos (by rfl)]
    go_wp2_with fail
    have hba : Below wa.heap.size wa (wa.alloc (.cells rz.cs.toArray 43)) := (Below.refl _ _).alloc (Nat.le_refl _) _
    have HCA := Lib.hid (HC1.out.below hba)
    have HBA := Lib.hid (HB1.out.trans (hba.mono HB1.out.size))
    have HKR := Lib.hid (range_kept hba HKR1.out)
    have HTH : Hid ((wa.alloc (.cells rz.cs.toArray 43)).there wa.heap.size 0 44) := there_new _ _ _ _ rfl _ rfl
    clear hba hS
    refine hK.out _ (wa.alloc (.cells rz.cs.toArray 43)) ⟨HCA.out.oth, HKR.out⟩ (fun hS => ?_)
    clear hK K HC1 HB1 HKR1
    obtain ⟨gT, hgT⟩ : ∃ gT, wa.heap.size = gT := ⟨_, rfl⟩
    obtain ⟨wb, hwb⟩ : ∃ wb, wa.alloc (.cells rz.cs.toArray 43) = wb := ⟨_, rfl⟩
    rw [hgT] at HGW HNE HTH HGK ⊢
    rw [hwb] at HCA HBA HKR HTH hS ⊢
    clear hgT hwb
    try simp only [Act.put, List.setIfInBounds_toArray, List.set_cons_zero, List.set_cons_succ]
    refine tk 8 6 (.int .i64 (fsi (fit k) l)) rfl rfl (by kernel_rfl) (by kernel_rfl) (by kernel_rfl) (fun _ _ _ h => h) (Or.inl ⟨by rfl, fun w' h' => ?_⟩) hS ?_
    · go_simp
      try simp only [Act.put, List.setIfInBounds_toArray, List.set_cons_zero, List.set_cons_succ]
    refine wpAnyH_ready (rs := [9]) (by kernel_rfl) (by simp) (AllReadyH.cons rfl (fun K hK => ?_) AllReadyH.nil)
    rw [if_pos (by rfl)]
    refine wp_stN (fun w' => Hid (Cz w w' b gT a n c l o hs o ∧ w'.rangeAt w.heap.size 0 k.cs)) 43 _ _ rfl _ _ o.cs rfl rfl (by rw [Rl.len HCF.out.ok]; exact HTH.out) (by rw [Rl.len HCF.out.ok]; exact infU) (Rl.one o) (by exact ⟨⟨HCA.out.keep (S := fun x => x = gT) (Kept.setOne _ _ _ _) (fun e => HNE.out e.symm) (fun i hi e => by have h1 := HRA.out i hi; have h2 := HGW.out; omega), HCF.out.ok, World.rangeAt_setCells_same _ _ _ _ (by rw [Rl.len HCF.out.ok]; exact HTH.out), there_setCells HTH.out _ _, HNE.out, Below.setCells HBA.out _ HGW.out _ _, HGW.out, HRA.out⟩, range_keep (S := fun x => x = gT) (Kept.setOne _ _ _ _) HGK.out HKR.out⟩) ?_
    intro wz HC2
    have HC := Lib.hid HC2.out.1
    have HKS := Lib.hid HC2.out.2
    clear HC2
    refine hK.out _ _ ⟨HC.out.cf.oth, HKS.out⟩ (fun hS => ?_)
    clear hK K
    refine wpAnyH_done (by kernel_rfl) ?_ _
    rcases told_fsi (fit k) o l with ⟨hf, ht⟩ | ⟨m, hm, hf, hr⟩
    · have HT := Lib.hid ht
      clear ht
      rw [hf]
      clear hf
      have hsl := HC.out.cf.slice
      have hm : n < 65 := HNN.out
      have hm2 : (n : Int) < 65 := by omega
      have hh := HC.out.cf.hit n hm
      have hfz := HC.out.cf.frozen (45 + n)
      obtain ⟨hh0, hh1⟩ := HC.out.cf.hit_fit n
      have hdy0 := Rl.rdy HC.out.ok HC.out.rng
      have hc0 := Rl.rc HC.out.ok HC.out.rng
      obtain ⟨hq, hhe⟩ : ∃ hq, hs.getD n 0 = hq := ⟨_, rfl⟩
      rw [hhe] at hh hh0 hh1
      clear hhe
      have HKZ : Hid (Kept (fun x => x = b) w wz) := Kept.of_below HC.out.below (fun i hi hi' => by omega)
      by_cases hlt : hq < 18446744073709551615
      · have hw : IntKind.u64.wrap (hq + 1) = hq + 1 := by rw [IntKind.wrap_u64]; omega
        have hkd : Kept (fun x => x = b) wz (wz.setCell ⟨b, 45 + n, none⟩ (.int .u64 (hq + 1))).drew := (Kept.setCell (S := fun x => x = b) wz ⟨b, 45 + n, none⟩ _ rfl).drew
        have HF : Hid (Kept (fun x => x = b) w (wz.setCell ⟨b, 45 + n, none⟩ (.int .u64 (hq + 1))).drew ∧ Cf (wz.setCell ⟨b, 45 + n, none⟩ (.int .u64 (hq + 1))).drew b l o) :=
          ⟨HKZ.out.trans hkd (fun _ _ h => h), _, _, _, _, HC.out.cf.count n hm (hq + 1) (by omega)⟩
        have hdy : (wz.setCell ⟨b, 45 + n, none⟩ (.int .u64 (hq + 1))).drew.cell? ⟨gT, 0 + 42, none⟩ = some (.bool o.dy) := by
          rw [← hdy0]; exact World.cell?_of_block (hkd.block gT (World.block_lt_of_cell? wz _ hdy0) HC.out.ne)
        have hc : (wz.setCell ⟨b, 45 + n, none⟩ (.int .u64 (hq + 1))).drew.cell? ⟨gT, 0 + 43, none⟩ = some (.int .i64 o.c) := by
          rw [← hc0]; exact World.cell?_of_block (hkd.block gT (World.block_lt_of_cell? wz _ hc0) HC.out.ne)
        rw [Nat.zero_add] at hdy hc
        clear hdy0 hc0 hkd
        cases hd : o.dy with
        | true =>
          have HE : Hid (cln o = 0 ∧ cle o = 90) := by show _ ∧ _; simp [cln, cle, hd]
          rw [hd] at hdy
          clear hd
          go_wp2_with fail
          go_region
          go_wp2_with fail
          go_ret2
          exact ⟨by rw [HT.out, HE.out.1, HE.out.2]; rfl, HF.out.1, HF.out.2⟩
        | false =>
          have HE : Hid (cln o = o.c ∧ cle o = 0) := by show _ ∧ _; simp [cln, cle, hd]
          rw [hd] at hdy
          clear hd
          go_wp2_with fail
          go_region
          go_wp2_with fail
          go_ret2
          exact ⟨by rw [HT.out, HE.out.1, HE.out.2]; rfl, HF.out.1, HF.out.2⟩
      · have HF : Hid (Kept (fun x => x = b) w wz ∧ Cf wz b l o) := ⟨HKZ.out, _, _, _, _, HC.out.cf⟩
        have hdy := hdy0
        have hc := hc0
        rw [Nat.zero_add] at hdy hc
        clear hdy0 hc0
        cases hd : o.dy with
        | true =>
          have HE : Hid (cln o = 0 ∧ cle o = 90) := by show _ ∧ _; simp [cln, cle, hd]
          rw [hd] at hdy
          clear hd
          go_wp2_with fail
          go_ret2
          exact ⟨by rw [HT.out, HE.out.1, HE.out.2]; rfl, HF.out.1, HF.out.2⟩
        | false =>
          have HE : Hid (cln o = o.c ∧ cle o = 0) := by show _ ∧ _; simp [cln, cle, hd]
          rw [hd] at hdy
          clear hd
          go_wp2_with fail
          go_ret2
          exact ⟨by rw [HT.out, HE.out.1, HE.out.2]; rfl, HF.out.1, HF.out.2⟩
    · obtain ⟨tr, htr⟩ : ∃ tr, told (fit k) o l = tr := ⟨_, rfl⟩
      rw [htr] at hr
      have HTR := Lib.hid htr
      clear htr
      have hmn : m < n := by rw [← HC.out.cf.own.len]; exact hm
      have hmn2 : (m : Int) < (n : Int) := by omega
      have hmneg : ((m : Int) == -1) = false := by
        rw [beq_eq_false_iff_ne]; omega
      obtain ⟨tr', ba, oa, hr', htok, rfl, hrg⟩ := HC.out.cf.own.rls.nth hmn
      rw [hr] at hr'
      simp only [Option.some.injEq] at hr'
      subst hr'
      have HRG := Lib.hid hrg
      have HTOK := Lib.hid htok
      rw [hf]
      clear hf hr hrg htok hm
      have hm : m < 65 := by have := HNN.out; omega
      have hm2 : (m : Int) < 65 := by omega
      have hsl := HC.out.cf.slice
      obtain ⟨hh0, hh1⟩ := HC.out.cf.hit_fit m
      obtain ⟨hq, hhe⟩ : ∃ hq, hs.getD m 0 = hq := ⟨_, rfl⟩
      rw [hhe] at hh0 hh1
      have HHE := Lib.hid hhe
      clear hhe
      by_cases hlt : hq < 18446744073709551615
      · have hw : IntKind.u64.wrap (hq + 1) = hq + 1 := by rw [IntKind.wrap_u64]; omega
        have HLQ : Hid (0 ≤ hq + 1 ∧ hq + 1 ≤ 18446744073709551615) := by show _ ∧ _; omega
        cases hd : tr.dy with
        | true =>
          have HE : Hid (cln tr = 0 ∧ cle tr = 90) := by show _ ∧ _; simp [cln, cle, hd]
          have HD := Lib.hid hd
          clear hd
          go_wp2_with (first
            | (refine ldU _ rfl rfl _ _ rfl tr HTOK.out HRG.out ?_)
            | (refine stN (fun w' => Hid (Cz w w' b gT (some ⟨ba, oa, none⟩) n c l o hs tr)) 43 _ _ rfl rfl _ _ tr.cs rfl rfl (by rw [Rl.len HTOK.out]; exact HC.out.th) (by rw [Rl.len HTOK.out]; exact infU) (Rl.one tr) (by exact HC.out.again HTOK.out) ?_; clear hsl; rename_i HCo; intro wy HC; have hh : wy.cell? ⟨b, 45 + m, none⟩ = some (.int .u64 hq) := (by have h1 := HC.out.cf.hit m hm; rw [HHE.out] at h1; exact h1); have hfz := HC.out.cf.frozen (45 + m); have HKD : Hid (Kept (fun x => x = b) wy (wy.setCell ⟨b, 45 + m, none⟩ (.int .u64 (hq + 1))).drew) := (Kept.setCell (S := fun x => x = b) wy ⟨b, 45 + m, none⟩ _ rfl).drew; have hdy : World.cell? (wy.setCell ⟨b, 45 + m, none⟩ (.int .u64 (hq + 1))).drew ⟨gT, 42, none⟩ = some (.bool true) := (by have h1 := Rl.rdy HC.out.ok HC.out.rng; have h2 := World.cell?_of_block (a := ⟨gT, 0 + 42, none⟩) (HKD.out.block gT (World.block_lt_of_cell? wy _ h1) HC.out.ne); rw [h1, HD.out, Nat.zero_add] at h2; exact h2); have hc : World.cell? (wy.setCell ⟨b, 45 + m, none⟩ (.int .u64 (hq + 1))).drew ⟨gT, 43, none⟩ = some (.int .i64 tr.c) := (by have h1 := Rl.rc HC.out.ok HC.out.rng; have h2 := World.cell?_of_block (a := ⟨gT, 0 + 43, none⟩) (HKD.out.block gT (World.block_lt_of_cell? wy _ h1) HC.out.ne); rw [h1, Nat.zero_add] at h2; exact h2); have HF : Hid (Kept (fun x => x = b) w (wy.setCell ⟨b, 45 + m, none⟩ (.int .u64 (hq + 1))).drew ∧ Cf (wy.setCell ⟨b, 45 + m, none⟩ (.int .u64 (hq + 1))).drew b l o) := ⟨(Kept.of_below (S := fun x => x = b) HC.out.below (fun i hi hi' => by omega)).trans HKD.out (fun _ _ h => h), _, _, _, _, HC.out.cf.count m hm (hq + 1) HLQ.out⟩))
          go_region
          go_wp2_with fail
          go_ret2
          exact ⟨by rw [HTR.out, HE.out.1, HE.out.2]; rfl, HF.out.1, HF.out.2⟩
        | false =>
          have HE : Hid (cln tr = tr.c ∧ cle tr = 0) := by show _ ∧ _; simp [cln, cle, hd]
          have HD := Lib.hid hd
          clear hd
          go_wp2_with (first
            | (refine ldU _ rfl rfl _ _ rfl tr HTOK.out HRG.out ?_)
            | (refine stN (fun w' => Hid (Cz w w' b gT (some ⟨ba, oa, none⟩) n c l o hs tr)) 43 _ _ rfl rfl _ _ tr.cs rfl rfl (by rw [Rl.len HTOK.out]; exact HC.out.th) (by rw [Rl.len HTOK.out]; exact infU) (Rl.one tr) (by exact HC.out.again HTOK.out) ?_; clear hsl; rename_i HCo; intro wy HC; have hh : wy.cell? ⟨b, 45 + m, none⟩ = some (.int .u64 hq) := (by have h1 := HC.out.cf.hit m hm; rw [HHE.out] at h1; exact h1); have hfz := HC.out.cf.frozen (45 + m); have HKD : Hid (Kept (fun x => x = b) wy (wy.setCell ⟨b, 45 + m, none⟩ (.int .u64 (hq + 1))).drew) := (Kept.setCell (S := fun x => x = b) wy ⟨b, 45 + m, none⟩ _ rfl).drew; have hdy : World.cell? (wy.setCell ⟨b, 45 + m, none⟩ (.int .u64 (hq + 1))).drew ⟨gT, 42, none⟩ = some (.bool false) := (by have h1 := Rl.rdy HC.out.ok HC.out.rng; have h2 := World.cell?_of_block (a := ⟨gT, 0 + 42, none⟩) (HKD.out.block gT (World.block_lt_of_cell? wy _ h1) HC.out.ne); rw [h1, HD.out, Nat.zero_add] at h2; exact h2); have hc : World.cell? (wy.setCell ⟨b, 45 + m, none⟩ (.int .u64 (hq + 1))).drew ⟨gT, 43, none⟩ = some (.int .i64 tr.c) := (by have h1 := Rl.rc HC.out.ok HC.out.rng; have h2 := World.cell?_of_block (a := ⟨gT, 0 + 43, none⟩) (HKD.out.block gT (World.block_lt_of_cell? wy _ h1) HC.out.ne); rw [h1, Nat.zero_add] at h2; exact h2); have HF : Hid (Kept (fun x => x = b) w (wy.setCell ⟨b, 45 + m, none⟩ (.int .u64 (hq + 1))).drew ∧ Cf (wy.setCell ⟨b, 45 + m, none⟩ (.int .u64 (hq + 1))).drew b l o) := ⟨(Kept.of_below (S := fun x => x = b) HC.out.below (fun i hi hi' => by omega)).trans HKD.out (fun _ _ h => h), _, _, _, _, HC.out.cf.count m hm (hq + 1) HLQ.out⟩))
          go_region
          go_wp2_with fail
          go_ret2
          exact ⟨by rw [HTR.out, HE.out.1, HE.out.2]; rfl, HF.out.1, HF.out.2⟩
      · cases hd : tr.dy with
        | true =>
          have HE : Hid (cln tr = 0 ∧ cle tr = 90) := by show _ ∧ _; simp [cln, cle, hd]
          have HD := Lib.hid hd
          clear hd
          go_wp2_with (first
            | (refine ldU _ rfl rfl _ _ rfl tr HTOK.out HRG.out ?_)
            | (refine stN (fun w' => Hid (Cz w w' b gT (some ⟨ba, oa, none⟩) n c l o hs tr)) 43 _ _ rfl rfl _ _ tr.cs rfl rfl (by rw [Rl.len HTOK.out]; exact HC.out.th) (by rw [Rl.len HTOK.out]; exact infU) (Rl.one tr) (by exact HC.out.again HTOK.out) ?_; clear hsl; rename_i HCo; intro wy HC; have hh : wy.cell? ⟨b, 45 + m, none⟩ = some (.int .u64 hq) := (by have h1 := HC.out.cf.hit m hm; rw [HHE.out] at h1; exact h1); have hfz := HC.out.cf.frozen (45 + m); have hdy : wy.cell? ⟨gT, 42, none⟩ = some (.bool true) := (by have h1 := Rl.rdy HC.out.ok HC.out.rng; rw [HD.out, Nat.zero_add] at h1; exact h1); have hc : wy.cell? ⟨gT, 43, none⟩ = some (.int .i64 tr.c) := (by have h1 := Rl.rc HC.out.ok HC.out.rng; rw [Nat.zero_add] at h1; exact h1); have HF : Hid (Kept (fun x => x = b) w wy ∧ Cf wy b l o) := ⟨Kept.of_below HC.out.below (fun i hi hi' => by omega), _, _, _, _, HC.out.cf⟩))
          go_ret2
          exact ⟨by rw [HTR.out, HE.out.1, HE.out.2]; rfl, HF.out.1, HF.out.2⟩
        | false =>
          have HE : Hid (cln tr = tr.c ∧ cle tr = 0) := by show _ ∧ _; simp [cln, cle, hd]
          have HD := Lib.hid hd
          clear hd
          go_wp2_with (first
            | (refine ldU _ rfl rfl _ _ rfl tr HTOK.out HRG.out ?_)
            | (refine stN (fun w' => Hid (Cz w w' b gT (some ⟨ba, oa, none⟩) n c l o hs tr)) 43 _ _ rfl rfl _ _ tr.cs rfl rfl (by rw [Rl.len HTOK.out]; exact HC.out.th) (by rw [Rl.len HTOK.out]; exact infU) (Rl.one tr) (by exact HC.out.again HTOK.out) ?_; clear hsl; rename_i HCo; intro wy HC; have hh : wy.cell? ⟨b, 45 + m, none⟩ = some (.int .u64 hq) := (by have h1 := HC.out.cf.hit m hm; rw [HHE.out] at h1; exact h1); have hfz := HC.out.cf.frozen (45 + m); have hdy : wy.cell? ⟨gT, 42, none⟩ = some (.bool false) := (by have h1 := Rl.rdy HC.out.ok HC.out.rng; rw [HD.out, Nat.zero_add] at h1; exact h1); have hc : wy.cell? ⟨gT, 43, none⟩ = some (.int .i64 tr.c) := (by have h1 := Rl.rc HC.out.ok HC.out.rng; rw [Nat.zero_add] at h1; exact h1); have HF : Hid (Kept (fun x => x = b) w wy ∧ Cf wy b l o) := ⟨Kept.of_below HC.out.below (fun i hi hi' => by omega), _, _, _, _, HC.out.cf⟩))
          go_ret2
          exact ⟨by rw [HTR.out, HE.out.1, HE.out.2]; rfl, HF.out.1, HF.out.2⟩
  · rw [if_pos (by rfl)]
    go_wp2_with fail
    have hba : Below (w.alloc (.cells k.cs.toArray 28)).drew.heap.size (w.alloc (.cells k.cs.toArray 28)).drew ((w.alloc (.cells k.cs.toArray 28)).drew.alloc (.cells rz.cs.toArray 43)) := (Below.refl _ _).alloc (Nat.le_refl _) _
    have HC1 := Lib.hid (HCD.out.below hba)
    have HB1 := Lib.hid (HB.out.trans (hba.mono (by simp)))
    have HKR1 := Lib.hid (range_kept (undrew hba) HS.out.2)
    have HT1 : Hid (((w.alloc (.cells k.cs.toArray 28)).drew.alloc (.cells rz.cs.toArray 43)).there (w.heap.size + 1) 0 44) := there_new _ _ _ _ rfl _ (by simp)
    clear hba hS
    refine hK.out _ ((w.alloc (.cells k.cs.toArray 28)).drew.alloc (.cells rz.cs.toArray 43)) ⟨HC1.out.oth, HKR1.out⟩ (fun hS => ?_)
    clear hK K
    try simp only [Act.put, List.setIfInBounds_toArray, List.set_cons_zero, List.set_cons_succ]
    refine wpAnyH_ready (rs := [2]) (by kernel_rfl) (by simp) (AllReadyH.cons rfl (fun K hK => ?_) AllReadyH.nil)
    rw [if_pos (by rfl)]
    go_wp2_with fail
    refine (uWhich_any b l o k _ ⟨a, n, c, hs, HC1.out⟩ HK.out).mono ?_
    rintro e wb ⟨rfl, hba⟩
    have HCA := Lib.hid (HC1.out.below hba)
    have HBA := Lib.hid (HB1.out.trans (hba.mono HB1.out.size))
    have HKR := Lib.hid (range_kept hba HKR1.out)
    have HTH := Lib.hid (there_kept hba HT1.out)
    have HGW : Hid (w.heap.size ≤ w.heap.size + 1) := Nat.le_succ _
    have HNE : Hid (w.heap.size + 1 ≠ b) := by have h1 := HLT.out; show _ ≠ _; omega
    have HGK : Hid (¬ w.heap.size = w.heap.size + 1) := by show ¬ _; omega
    clear hba hS
    refine hK.out _ _ ⟨HCA.out.oth, HKR.out⟩ (fun hS => ?_)
    clear hK K HC1 HB1 HKR1 HT1
    obtain ⟨gT, hgT⟩ : ∃ gT, w.heap.size + 1 = gT := ⟨_, rfl⟩
    rw [hgT] at HGW HNE HTH HGK ⊢
    clear hgT
    try simp only [Act.put, List.setIfInBounds_toArray, List.set_cons_zero, List.set_cons_succ]
    refine tk 8 6 (.int .i64 (fsi (fit k) l)) rfl rfl (by kernel_rfl) (by kernel_rfl) (by kernel_rfl) (fun _ _ _ h => h) (Or.inl ⟨by rfl, fun w' h' => ?_⟩) hS ?_
    · go_simp
      try simp only [Act.put, List.setIfInBounds_toArray, List.set_cons_zero, List.set_cons_succ]
    refine wpAnyH_ready (rs := [9]) (by kernel_rfl) (by simp) (AllReadyH.cons rfl (fun K hK => ?_) AllReadyH.nil)
    rw [if_pos (by rfl)]
    refine wp_stN (fun w' => Hid (Cz w w' b gT a n c l o hs o ∧ w'.rangeAt w.heap.size 0 k.cs)) 43 _ _ rfl _ _ o.cs rfl rfl (by rw [Rl.len HCF.out.ok]; exact HTH.out) (by rw [Rl.len HCF.out.ok]; exact infU) (Rl.one o) (by exact ⟨⟨HCA.out.keep (S := fun x => x = gT) (Kept.setOne _ _ _ _) (fun e => HNE.out e.symm) (fun i hi e => by have h1 := HRA.out i hi; have h2 := HGW.out; omega), HCF.out.ok, World.rangeAt_setCells_same _ _ _ _ (by rw [Rl.len HCF.out.ok]; exact HTH.out), there_setCells HTH.out _ _, HNE.out, Below.setCells HBA.out _ HGW.out _ _, HGW.out, HRA.out⟩, range_keep (S := fun x => x = gT) (Kept.setOne _ _ _ _) HGK.out HKR.out⟩) ?_
    intro wz HC2
    have HC := Lib.hid HC2.out.1
    have HKS := Lib.hid HC2.out.2
    clear HC2
    refine hK.out _ _ ⟨HC.out.cf.oth, HKS.out⟩ (fun hS => ?_)
    clear hK K
    refine wpAnyH_done (by kernel_rfl) ?_ _
    rcases told_fsi (fit k) o l with ⟨hf, ht⟩ | ⟨m, hm, hf, hr⟩
    · have HT := Lib.hid ht
      clear ht
      rw [hf]
      clear hf
      have hsl := HC.out.cf.slice
      have hm : n < 65 := HNN.out
      have hm2 : (n : Int) < 65 := by omega
      have hh := HC.out.cf.hit n hm
      have hfz := HC.out.cf.frozen (45 + n)
      obtain ⟨hh0, hh1⟩ := HC.out.cf.hit_fit n
      have hdy0 := Rl.rdy HC.out.ok HC.out.rng
      have hc0 := Rl.rc HC.out.ok HC.out.rng
      obtain ⟨hq, hhe⟩ : ∃ hq, hs.getD n 0 = hq := ⟨_, rfl⟩
      rw [hhe] at hh hh0 hh1
      clear hhe
      have HKZ : Hid (Kept (fun x => x = b) w wz) := Kept.of_below HC.out.below (fun i hi hi' => by omega)
      by_cases hlt : hq < 18446744073709551615
      · have hw : IntKind.u64.wrap (hq + 1) = hq + 1 := by rw [IntKind.wrap_u64]; omega
        have hkd : Kept (fun x => x = b) wz (wz.setCell ⟨b, 45 + n, none⟩ (.int .u64 (hq + 1))).drew := (Kept.setCell (S := fun x => x = b) wz ⟨b, 45 + n, none⟩ _ rfl).drew
        have HF : Hid (Kept (fun x => x = b) w (wz.setCell ⟨b, 45 + n, none⟩ (.int .u64 (hq + 1))).drew ∧ Cf (wz.setCell ⟨b, 45 + n, none⟩ (.int .u64 (hq + 1))).drew b l o) :=
          ⟨HKZ.out.trans hkd (fun _ _ h => h), _, _, _, _, HC.out.cf.count n hm (hq + 1) (by omega)⟩
        have hdy : (wz.setCell ⟨b, 45 + n, none⟩ (.int .u64 (hq + 1))).drew.cell? ⟨gT, 0 + 42, none⟩ = some (.bool o.dy) := by
          rw [← hdy0]; exact World.cell?_of_block (hkd.block gT (World.block_lt_of_cell? wz _ hdy0) HC.out.ne)
        have hc : (wz.setCell ⟨b, 45 + n, none⟩ (.int .u64 (hq + 1))).drew.cell? ⟨gT, 0 + 43, none⟩ = some (.int .i64 o.c) := by
          rw [← hc0]; exact World.cell?_of_block (hkd.block gT (World.block_lt_of_cell? wz _ hc0) HC.out.ne)
        rw [Nat.zero_add] at hdy hc
        clear hdy0 hc0 hkd
        cases hd : o.dy with
        | true =>
          have HE : Hid (cln o = 0 ∧ cle o = 90) := by show _ ∧ _; simp [cln, cle, hd]
          rw [hd] at hdy
          clear hd
          go_wp2_with fail
          go_region
          go_wp2_with fail
          go_ret2
          exact ⟨by rw [HT.out, HE.out.1, HE.out.2]; rfl, HF.out.1, HF.out.2⟩
        | false =>
          have HE : Hid (cln o = o.c ∧ cle o = 0) := by show _ ∧ _; simp [cln, cle, hd]
          rw [hd] at hdy
          clear hd
          go_wp2_with fail
          go_region
          go_wp2_with fail
          go_ret2
          exact ⟨by rw [HT.out, HE.out.1, HE.out.2]; rfl, HF.out.1, HF.out.2⟩
      · have HF : Hid (Kept (fun x => x = b) w wz ∧ Cf wz b l o) := ⟨HKZ.out, _, _, _, _, HC.out.cf⟩
        have hdy := hdy0
        have hc := hc0
        rw [Nat.zero_add] at hdy hc
        clear hdy0 hc0
        cases hd : o.dy with
        | true =>
          have HE : Hid (cln o = 0 ∧ cle o = 90) := by show _ ∧ _; simp [cln, cle, hd]
          rw [hd] at hdy
          clear hd
          go_wp2_with fail
          go_ret2
          exact ⟨by rw [HT.out, HE.out.1, HE.out.2]; rfl, HF.out.1, HF.out.2⟩
        | false =>
          have HE : Hid (cln o = o.c ∧ cle o = 0) := by show _ ∧ _; simp [cln, cle, hd]
          rw [hd] at hdy
          clear hd
          go_wp2_with fail
          go_ret2
          exact ⟨by rw [HT.out, HE.out.1, HE.out.2]; rfl, HF.out.1, HF.out.2⟩
    · obtain ⟨tr, htr⟩ : ∃ tr, told (fit k) o l = tr := ⟨_, rfl⟩
      rw [htr] at hr
      have HTR := Lib.hid htr
      clear htr
      have hmn : m < n := by rw [← HC.out.cf.own.len]; exact hm
      have hmn2 : (m : Int) < (n : Int) := by omega
      have hmneg : ((m : Int) == -1) = false := by
        rw [beq_eq_false_iff_ne]; omega
      obtain ⟨tr', ba, oa, hr', htok, rfl, hrg⟩ := HC.out.cf.own.rls.nth hmn
      rw [hr] at hr'
      simp only [Option.some.injEq] at hr'
      subst hr'
      have HRG := Lib.hid hrg
      have HTOK := Lib.hid htok
      rw [hf]
      clear hf hr hrg htok hm
      have hm : m < 65 := by have := HNN.out; omega
      have hm2 : (m : Int) < 65 := by omega
      have hsl := HC.out.cf.slice
      obtain ⟨hh0, hh1⟩ := HC.out.cf.hit_fit m
      obtain ⟨hq, hhe⟩ : ∃ hq, hs.getD m 0 = hq := ⟨_, rfl⟩
      rw [hhe] at hh0 hh1
      have HHE := Lib.hid hhe
      clear hhe
      by_cases hlt : hq < 18446744073709551615
      · have hw : IntKind.u64.wrap (hq + 1) = hq + 1 := by rw [IntKind.wrap_u64]; omega
        have HLQ : Hid (0 ≤ hq + 1 ∧ hq + 1 ≤ 18446744073709551615) := by show _ ∧ _; omega
        cases hd : tr.dy with
        | true =>
          have HE : Hid (cln tr = 0 ∧ cle tr = 90) := by show _ ∧ _; simp [cln, cle, hd]
          have HD := Lib.hid hd
          clear hd
          go_wp2_with (first
            | (refine ldU _ rfl rfl _ _ rfl tr HTOK.out HRG.out ?_)
            | (refine stN (fun w' => Hid (Cz w w' b gT (some ⟨ba, oa, none⟩) n c l o hs tr)) 43 _ _ rfl rfl _ _ tr.cs rfl rfl (by rw [Rl.len HTOK.out]; exact HC.out.th) (by rw [Rl.len HTOK.out]; exact infU) (Rl.one tr) (by exact HC.out.again HTOK.out) ?_; clear hsl; rename_i HCo; intro wy HC; have hh : wy.cell? ⟨b, 45 + m, none⟩ = some (.int .u64 hq) := (by have h1 := HC.out.cf.hit m hm; rw [HHE.out] at h1; exact h1); have hfz := HC.out.cf.frozen (45 + m); have HKD : Hid (Kept (fun x => x = b) wy (wy.setCell ⟨b, 45 + m, none⟩ (.int .u64 (hq + 1))).drew) := (Kept.setCell (S := fun x => x = b) wy ⟨b, 45 + m, none⟩ _ rfl).drew; have hdy : World.cell? (wy.setCell ⟨b, 45 + m, none⟩ (.int .u64 (hq + 1))).drew ⟨gT, 42, none⟩ = some (.bool true) := (by have h1 := Rl.rdy HC.out.ok HC.out.rng; have h2 := World.cell?_of_block (a := ⟨gT, 0 + 42, none⟩) (HKD.out.block gT (World.block_lt_of_cell? wy _ h1) HC.out.ne); rw [h1, HD.out, Nat.zero_add] at h2; exact h2); have hc : World.cell? (wy.setCell ⟨b, 45 + m, none⟩ (.int .u64 (hq + 1))).drew ⟨gT, 43, none⟩ = some (.int .i64 tr.c) := (by have h1 := Rl.rc HC.out.ok HC.out.rng; have h2 := World.cell?_of_block (a := ⟨gT, 0 + 43, none⟩) (HKD.out.block gT (World.block_lt_of_cell? wy _ h1) HC.out.ne); rw [h1, Nat.zero_add] at h2; exact h2); have HF : Hid (Kept (fun x => x = b) w (wy.setCell ⟨b, 45 + m, none⟩ (.int .u64 (hq + 1))).drew ∧ Cf (wy.setCell ⟨b, 45 + m, none⟩ (.int .u64 (hq + 1))).drew b l o) := ⟨(Kept.of_below (S := fun x => x = b) HC.out.below (fun i hi hi' => by omega)).trans HKD.out (fun _ _ h => h), _, _, _, _, HC.out.cf.count m hm (hq + 1) HLQ.out⟩))
          go_region
          go_wp2_with fail
          go_ret2
          exact ⟨by rw [HTR.out, HE.out.1, HE.out.2]; rfl, HF.out.1, HF.out.2⟩
        | false =>
          have HE : Hid (cln tr = tr.c ∧ cle tr = 0) := by show _ ∧ _; simp [cln, cle, hd]
          have HD := Lib.hid hd
          clear hd
          go_wp2_with (first
            | (refine ldU _ rfl rfl _ _ rfl tr HTOK.out HRG.out ?_)
            | (refine stN (fun w' => Hid (Cz w w' b gT (some ⟨ba, oa, none⟩) n c l o hs tr)) 43 _ _ rfl rfl _ _ tr.cs rfl rfl (by rw [Rl.len HTOK.out]; exact HC.out.th) (by rw [Rl.len HTOK.out]; exact infU) (Rl.one tr) (by exact HC.out.again HTOK.out) ?_; clear hsl; rename_i HCo; intro wy HC; have hh : wy.cell? ⟨b, 45 + m, none⟩ = some (.int .u64 hq) := (by have h1 := HC.out.cf.hit m hm; rw [HHE.out] at h1; exact h1); have hfz := HC.out.cf.frozen (45 + m); have HKD : Hid (Kept (fun x => x = b) wy (wy.setCell ⟨b, 45 + m, none⟩ (.int .u64 (hq + 1))).drew) := (Kept.setCell (S := fun x => x = b) wy ⟨b, 45 + m, none⟩ _ rfl).drew; have hdy : World.cell? (wy.setCell ⟨b, 45 + m, none⟩ (.int .u64 (hq + 1))).drew ⟨gT, 42, none⟩ = some (.bool false) := (by have h1 := Rl.rdy HC.out.ok HC.out.rng; have h2 := World.cell?_of_block (a := ⟨gT, 0 + 42, none⟩) (HKD.out.block gT (World.block_lt_of_cell? wy _ h1) HC.out.ne); rw [h1, HD.out, Nat.zero_add] at h2; exact h2); have hc : World.cell? (wy.setCell ⟨b, 45 + m, none⟩ (.int .u64 (hq + 1))).drew ⟨gT, 43, none⟩ = some (.int .i64 tr.c) := (by have h1 := Rl.rc HC.out.ok HC.out.rng; have h2 := World.cell?_of_block (a := ⟨gT, 0 + 43, none⟩) (HKD.out.block gT (World.block_lt_of_cell? wy _ h1) HC.out.ne); rw [h1, Nat.zero_add] at h2; exact h2); have HF : Hid (Kept (fun x => x = b) w (wy.setCell ⟨b, 45 + m, none⟩ (.int .u64 (hq + 1))).drew ∧ Cf (wy.setCell ⟨b, 45 + m, none⟩ (.int .u64 (hq + 1))).drew b l o) := ⟨(Kept.of_below (S := fun x => x = b) HC.out.below (fun i hi hi' => by omega)).trans HKD.out (fun _ _ h => h), _, _, _, _, HC.out.cf.count m hm (hq + 1) HLQ.out⟩))
          go_region
          go_wp2_with fail
          go_ret2
          exact ⟨by rw [HTR.out, HE.out.1, HE.out.2]; rfl, HF.out.1, HF.out.2⟩
      · cases hd : tr.dy with
        | true =>
          have HE : Hid (cln tr = 0 ∧ cle tr = 90) := by show _ ∧ _; simp [cln, cle, hd]
          have HD := Lib.hid hd
          clear hd
          go_wp2_with (first
            | (refine ldU _ rfl rfl _ _ rfl tr HTOK.out HRG.out ?_)
            | (refine stN (fun w' => Hid (Cz w w' b gT (some ⟨ba, oa, none⟩) n c l o hs tr)) 43 _ _ rfl rfl _ _ tr.cs rfl rfl (by rw [Rl.len HTOK.out]; exact HC.out.th) (by rw [Rl.len HTOK.out]; exact infU) (Rl.one tr) (by exact HC.out.again HTOK.out) ?_; clear hsl; rename_i HCo; intro wy HC; have hh : wy.cell? ⟨b, 45 + m, none⟩ = some (.int .u64 hq) := (by have h1 := HC.out.cf.hit m hm; rw [HHE.out] at h1; exact h1); have hfz := HC.out.cf.frozen (45 + m); have hdy : wy.cell? ⟨gT, 42, none⟩ = some (.bool true) := (by have h1 := Rl.rdy HC.out.ok HC.out.rng; rw [HD.out, Nat.zero_add] at h1; exact h1); have hc : wy.cell? ⟨gT, 43, none⟩ = some (.int .i64 tr.c) := (by have h1 := Rl.rc HC.out.ok HC.out.rng; rw [Nat.zero_add] at h1; exact h1); have HF : Hid (Kept (fun x => x = b) w wy ∧ Cf wy b l o) := ⟨Kept.of_below HC.out.below (fun i hi hi' => by omega), _, _, _, _, HC.out.cf⟩))
          go_ret2
          exact ⟨by rw [HTR.out, HE.out.1, HE.out.2]; rfl, HF.out.1, HF.out.2⟩
        | false =>
          have HE : Hid (cln tr = tr.c ∧ cle tr = 0) := by show _ ∧ _; simp [cln, cle, hd]
          have HD := Lib.hid hd
          clear hd
          go_wp2_with (first
            | (refine ldU _ rfl rfl _ _ rfl tr HTOK.out HRG.out ?_)
            | (refine stN (fun w' => Hid (Cz w w' b gT (some ⟨ba, oa, none⟩) n c l o hs tr)) 43 _ _ rfl rfl _ _ tr.cs rfl rfl (by rw [Rl.len HTOK.out]; exact HC.out.th) (by rw [Rl.len HTOK.out]; exact infU) (Rl.one tr) (by exact HC.out.again HTOK.out) ?_; clear hsl; rename_i HCo; intro wy HC; have hh : wy.cell? ⟨b, 45 + m, none⟩ = some (.int .u64 hq) := (by have h1 := HC.out.cf.hit m hm; rw [HHE.out] at h1; exact h1); have hfz := HC.out.cf.frozen (45 + m); have hdy : wy.cell? ⟨gT, 42, none⟩ = some (.bool false) := (by have h1 := Rl.rdy HC.out.ok HC.out.rng; rw [HD.out, Nat.zero_add] at h1; exact h1); have hc : wy.cell? ⟨gT, 43, none⟩ = some (.int .i64 tr.c) := (by have h1 := Rl.rc HC.out.ok HC.out.rng; rw [Nat.zero_add] at h1; exact h1); have HF : Hid (Kept (fun x => x = b) w wy ∧ Cf wy b l o) := ⟨Kept.of_below HC.out.below (fun i hi hi' => by omega), _, _, _, _, HC.out.cf⟩))
          go_ret2
          exact ⟨by rw [HTR.out, HE.out.1, HE.out.2]; rfl, HF.out.1, HF.out.2⟩
end Go.Proofs.Ytgnhbhgpkihpmaa

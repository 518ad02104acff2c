/-
  The contract of the statements' own small test. Conditions: none. (Made by gen_ruworks.py.)
-/
import Derived.Test.YtgnhbhgpkihpmaaRuSmp
namespace Go.Proofs.Ytgnhbhgpkihpmaa
open Go.RowKit

/-- The chapter's packets. -/
def k1 : Ky := ⟨false, fourL 10 0 0 1, false, fourL 1 2 3 4, 6, 5, 80⟩
def k2 : Ky := { k1 with pr := 17 }
def k3 : Ky := { k2 with sx := fourL 9 0 0 1 }
theorem k1_ok : k1.ok := ⟨rfl, fourL_byt (by decide), rfl, fourL_byt (by decide), by decide, by decide, by decide⟩
theorem k2_ok : k2.ok := ⟨rfl, fourL_byt (by decide), rfl, fourL_byt (by decide), by decide, by decide, by decide⟩
theorem k3_ok : k3.ok := ⟨rfl, fourL_byt (by decide), rfl, fourL_byt (by decide), by decide, by decide, by decide⟩
theorem new1 : newOk false 2 [rA, rB] = true := by kernel_rfl
theorem new2 : newOk false 2 [any0, rA, rB] = true := by kernel_rfl
theorem tell1 : cln (told (fit k1) (othr false 2) [rA, rB]) = 1 ∧ cle (told (fit k1) (othr false 2) [rA, rB]) = 0 := ⟨by kernel_rfl, by kernel_rfl⟩
theorem tell2 : cln (told (fit k2) (othr false 2) [rA, rB]) = 0 ∧ cle (told (fit k2) (othr false 2) [rA, rB]) = 90 := ⟨by kernel_rfl, by kernel_rfl⟩
theorem tell3 : cln (told (fit k3) (othr false 2) [rA, rB]) = 2 ∧ cle (told (fit k3) (othr false 2) [rA, rB]) = 0 := ⟨by kernel_rfl, by kernel_rfl⟩
theorem dead3 : deads [any0, rA, rB] [any0, rA, rB].length = [1, 2] := by kernel_rfl
theorem builtK1 : Try.prog.built 28 [(0, .agg (adl false (fourL 10 0 0 1)).toArray), (1, .agg (adl false (fourL 1 2 3 4)).toArray), (2, .int .u8 6), (3, .int .u16 5), (4, .int .u16 80)] = some k1.cs.toArray := by kernel_rfl

theorem NewR.yes {w w' : World} {deny : Bool} {cls : Int} {l : List Rl} {e : Ending} (h : NewR w deny cls l e w') (hn : newOk deny cls l = true) : ∃ b, e = .returned (.tuple #[.pointer (some ⟨b, 0, none⟩), .int .i64 0]) ∧ Cf w' b l (othr deny cls) ∧ w.heap.size ≤ b := by
  rcases h.2 with ⟨_, h⟩ | ⟨h, _⟩
  · exact h
  · rw [hn] at h; cases h
/-- A block of a key's. -/
def Kb (w : World) (g : Nat) : Prop := ∃ cs, w.heap[g]? = some (.cells cs 28 (0, 0))
theorem Kb.lt {w : World} {g : Nat} (h : Kb w g) : g < w.heap.size := by
  obtain ⟨cs, h⟩ := h
  exact (Array.getElem?_eq_some_iff.1 h).1
theorem Kb.kept {S : Nat → Prop} {w w' : World} {g : Nat} (h : Kb w g) (k : Kept S w w') (hg : ¬ S g) : Kb w' g := by
  obtain ⟨cs, h⟩ := h
  exact ⟨cs, k.heap h hg⟩
theorem Kb.below {w w' : World} {g : Nat} (h : Kb w g) (hb : Below w.heap.size w w') : Kb w' g :=
  h.kept (S := fun _ => False) (Kept.of_below hb (fun i hi hi' => by omega)) (fun h => h)
theorem Kb.sets {g : Nat} : ∀ (vs : List Value) (o : Nat) {w : World}, Kb w g → Kb (w.setCells g o vs) g
  | [], _, _, h => h
  | v :: r, o, w, h => by
    obtain ⟨cs, h⟩ := h
    rw [World.setCells]
    exact Kb.sets r (o + 1) ⟨_, heap_setCell_same w g o _ _ v h⟩
theorem OwnU.offK {w : World} {base : Nat} {a : Option Addr} {n c : Nat} {l : List Rl} (h : OwnU w base a n c l) {d : Nat} (hd : Kb w d) : ∀ k, blk a = some k → ¬ k = d := by
  rintro k hk rfl
  obtain ⟨cs, hd⟩ := hd
  rcases h.row.cases with ⟨rfl, _⟩ | ⟨g, cur, rfl, _, hg, _⟩
  · cases hk
  · simp [blk] at hk
    subst hk
    rw [hg] at hd
    simp at hd
theorem Cf.offK {w w' : World} {b : Nat} {l : List Rl} {o : Rl} {d : Nat} (h : Cf w b l o) (hd : Kb w d) (hne : b ≠ d) (k : Kept (fun x => x = d) w w') : Cf w' b l o := by
  obtain ⟨a, n, c, hs, h⟩ := h
  exact ⟨a, n, c, hs, h.keep k hne (h.own.offK hd)⟩
theorem Rls.keep {S : Nat → Prop} {w w' : World} {g n : Nat} {l : List Rl} (h : Rls w (some ⟨g, 0, none⟩) n l) (k : Kept S w w') (hg : ¬ S g) : Rls w' (some ⟨g, 0, none⟩) n l :=
  ⟨h.len, h.ok, fun hne => by
    obtain ⟨b, o, e, hc⟩ := h.cells hne
    simp only [Option.some.injEq, Addr.mk.injEq, and_true] at e
    obtain ⟨rfl, rfl⟩ := e
    exact ⟨g, 0, rfl, fun i r hr => range_keep k hg (hc i r hr)⟩⟩
/-- What lies there meanwhile: the rules, the classifier, the key. -/
structure Wk (w wr : World) (g b gK : Nat) (k : Ky) : Prop where
  cf : Cf wr b [rA, rB] (othr false 2)
  rls : Rls wr (some ⟨g, 0, none⟩) 2 [rA, rB]
  key : wr.rangeAt gK 0 k.cs
  th : wr.there gK 0 37
  kb : Kb wr gK
  below : Below w.heap.size w wr
  wb : w.heap.size ≤ b
  gb : g < b
  bK : b < gK
theorem Wk.next {w wr w' : World} {g b gK : Nat} {k : Ky} (h : Wk w wr g b gK k) (hb : Below wr.heap.size wr w') : Wk w w' g b gK k :=
  ⟨h.cf.below hb, h.rls.below hb, range_kept hb h.key, there_kept hb h.th, h.kb.below hb, h.below.trans (hb.mono h.below.size), h.wb, h.gb, h.bK⟩
theorem Wk.count {w wr w' : World} {g b gK : Nat} {k : Ky} (h : Wk w wr g b gK k) (hk : Kept (fun x => x = b) wr w') (hc : Cf w' b [rA, rB] (othr false 2)) : Wk w w' g b gK k := by
  have h1 := h.gb
  have h2 := h.bK
  have h3 := h.wb
  exact ⟨hc, h.rls.keep hk (by omega), range_keep hk (by omega) h.key, there_keep hk (by omega) h.th, h.kb.kept hk (by omega), h.below.trans (hk.below h.below.size (fun k e => by omega)), h.wb, h.gb, h.bK⟩
theorem k2_cs : k1.cs.set 34 (.int .u8 17) = k2.cs := by kernel_rfl
theorem k3_cs : k2.cs.take 0 ++ (adl false (fourL 9 0 0 1) ++ k2.cs.drop (0 + (adl false (fourL 9 0 0 1)).length)) = k3.cs := by kernel_rfl
theorem Wk.two {w wr : World} {g b gK : Nat} (h : Wk w wr g b gK k1) : Wk w (wr.setCell ⟨gK, 34, none⟩ (.int .u8 17)) g b gK k2 := by
  have hl := Ky.len k1_ok
  have h1 := h.gb
  have h2 := h.bK
  have h3 := h.wb
  have hk := Kept.setCell (S := fun x => x = gK) wr ⟨gK, 34, none⟩ (.int .u8 17) rfl
  have hr := range_set h.key (j := 34) (by omega) (.int .u8 17)
  rw [k2_cs, Nat.zero_add] at hr
  exact ⟨h.cf.offK h.kb (by omega) hk, h.rls.keep hk (by omega), hr, there_set h.th _ _ _, Kb.sets [.int .u8 17] 34 h.kb, h.below.trans (hk.below h.below.size (fun k e => by omega)), h.wb, h.gb, h.bK⟩
theorem Wk.three {w wr : World} {g b gK : Nat} (h : Wk w wr g b gK k2) : Wk w (wr.setCells gK 0 (adl false (fourL 9 0 0 1))) g b gK k3 := by
  have hl := Ky.len k2_ok
  have hp := adl_len false (fourL 9 0 0 1) rfl
  have h1 := h.gb
  have h2 := h.bK
  have h3 := h.wb
  have hk := Kept.setOne wr gK 0 (adl false (fourL 9 0 0 1))
  have hr := range_put h.key (j := 0) (vs := adl false (fourL 9 0 0 1)) (by omega)
  rw [k3_cs] at hr
  exact ⟨h.cf.offK h.kb (by omega) hk, h.rls.keep hk (by omega), hr, World.there_setCells h.th _ _ _, Kb.sets _ 0 h.kb, h.below.trans (hk.below h.below.size (fun k e => by omega)), h.wb, h.gb, h.bK⟩
/-- What lies there as soon as the classifier is made. -/
structure Wj (w wr : World) (g b : Nat) : Prop where
  cf : Cf wr b [rA, rB] (othr false 2)
  rls : Rls wr (some ⟨g, 0, none⟩) 2 [rA, rB]
  below : Below w.heap.size w wr
  wb : w.heap.size ≤ b
  gb : g < b
theorem Wj.next {w wr w' : World} {g b : Nat} (h : Wj w wr g b) (hb : Below wr.heap.size wr w') : Wj w w' g b :=
  ⟨h.cf.below hb, h.rls.below hb, h.below.trans (hb.mono h.below.size), h.wb, h.gb⟩
theorem Wj.key {w wr : World} {g b : Nat} (h : Wj w wr g b) {cs : Array Value} (hs : cs.size = 37) : Wk w ((wr.alloc (.cells cs 28)).setCells wr.heap.size 0 k1.cs) g b wr.heap.size k1 :=
  ⟨(h.next (Below.boxed _ _ _ _)).cf, (h.next (Below.boxed _ _ _ _)).rls, range_boxed _ _ _ _ (by rw [hs, Ky.len k1_ok]), World.there_setCells (there_new _ _ _ _ hs _ rfl) _ _ _, Kb.sets _ 0 ⟨cs, Blk_new _ _ _⟩, (h.next (Below.boxed _ _ _ _)).below, h.wb, h.gb, h.cf.lt⟩
theorem wp_bsU {o : Oper} {a : Act} {w : World} {K : Act → World → Prop} {Q : Exit → Act → World → Prop} (n : Nat) (parts : Array (Nat × Operand)) (rs : List Rl) (hok : ∀ r ∈ rs, r.ok) (hn : rs.length = n) (h0 : 0 < n) (h9 : n ≤ 1000) (ho : o.op = .buildSlice 22 n parts)
    (hp : (parts.toList.map fun x => (x.1, a.eval x.2)) = ((rs.map fun r => Value.agg r.cs.toArray).zipIdx 0).map fun x => (x.2, x.1))
    (h : ∀ w', Rls w' (some ⟨w.heap.size, 0, none⟩) n rs → Below w.heap.size w w' → w'.heap.size = w.heap.size + 1 → K (a.put o.dst (.slice (some ⟨w.heap.size, 0, none⟩) n n)) w') : o.wp Try.prog a w K Q := by
  obtain ⟨i0, hi, hz0, hz1, _⟩ := info_parts infUz
  subst hn
  obtain ⟨R, hR, hl⟩ := fill_rules rs hok (.agg rz.cs.toArray)
  have hp' : (parts.map fun (i, x) => (i, a.eval x)).toList = ((rs.map fun r => Value.agg r.cs.toArray).zipIdx 0).map fun x => (x.2, x.1) := by rw [← hp]; simp
  exact wp_buildSlice 22 43 rs.length parts ho R i0 _ Try.underlying22 hi hz0 (by rw [hz1]; omega) (by rw [hz1]; omega) (by rw [hz1, hp']; exact hR) (h _ (hl w) ((Below.refl _ _).alloc (Nat.le_refl _) _) (by simp))

set_option maxRecDepth 100000 in
set_option maxHeartbeats 4000000 in
theorem works9_any (w : World) : Calls Try.prog 5 #[] w (Gives w (.bool true)) := by
  go_enter Try.func5, Try.ntmps5
  go_wp2_with fail
  refine (sample_any _).mono ?_
  rintro e w1 ⟨g, rfl, hrl, hb1, hg0, hg1⟩
  have HR1 := Lib.hid hrl
  have HB1 := Lib.hid hb1
  have HG1 := Lib.hid hg1
  clear hrl hb1 hg0 hg1
  go_wp2_with fail
  refine (uNew_any false 2 (some ⟨g, 0, none⟩) 2 2 [rA, rB] _ HR1.out (by omega) (by intro h; cases h)).mono ?_
  rintro e w2 hnew
  have hb2 := hnew.1
  obtain ⟨b, rfl, hcf, hb⟩ := hnew.yes new1
  have HJ2 : Hid (Wj w w2 g b) := ⟨hcf, HR1.out.below hb2, HB1.out.trans (hb2.mono HB1.out.size), Nat.le_trans HB1.out.size hb, by have := HG1.out; omega⟩
  clear hb2 hcf hb HR1 HB1 HG1
  go_wp2_with fail
  refine (four_any 10 0 0 1 _).mono ?_
  rintro e w3 ⟨rfl, hb3⟩
  have HJ3 := Lib.hid (HJ2.out.next hb3)
  clear hb3 HJ2
  go_wp2_with fail
  refine (four_any 1 2 3 4 _).mono ?_
  rintro e w4 ⟨rfl, hb4⟩
  have HJ4 := Lib.hid (HJ3.out.next hb4)
  clear hb4 HJ3
  go_wp2_with (first
    | (refine wpList_build_run (cells := k1.cs.toArray) rfl 28 _ rfl ?_ ?_; · exact builtK1)
    | (refine stN (fun w' => Hid (Wk w w' g b w4.heap.size k1)) 28 (.tmp 4) (.tmp 22) rfl rfl _ _ k1.cs rfl rfl (by rw [Ky.len k1_ok]; exact there_new _ _ _ _ rfl _ rfl) (by rw [Ky.len k1_ok]; exact infK) (Ky.one _) (by exact HJ4.out.key rfl) ?_; intro w5 HWK; obtain ⟨gK, hgK⟩ : ∃ gK, w4.heap.size = gK := ⟨_, rfl⟩; rw [hgK] at HWK ⊢; clear hgK)
    | (refine ldK (.tmp 4) rfl rfl _ _ rfl k1 k1_ok (by with_reducible exact HWK.out.key) ?_))
  refine (uClass_any b [rA, rB] (othr false 2) k1 _ HWK.out.cf k1_ok).mono ?_
  rintro e w6 ⟨rfl, hkc, hcc⟩
  have HX1 := Lib.hid (HWK.out.count hkc hcc)
  clear hkc hcc
  simp only [tell1.1, tell1.2]
  have q34 := Ky.rpr k1_ok HX1.out.key
  have f34 := (HX1.out.th 34 (by omega)).2
  rw [Nat.zero_add] at q34 f34
  have HX2 := Lib.hid HX1.out.two
  go_wp2_with (refine ldK (.tmp 4) rfl rfl _ _ rfl k2 k2_ok (by with_reducible exact HX2.out.key) ?_)
  refine (uClass_any b [rA, rB] (othr false 2) k2 _ HX2.out.cf k2_ok).mono ?_
  rintro e w7 ⟨rfl, hkc, hcc⟩
  have HX3 := Lib.hid (HX2.out.count hkc hcc)
  clear hkc hcc
  simp only [tell2.1, tell2.2]
  clear q34 f34
  go_wp2_with fail
  refine (four_any 9 0 0 1 _).mono ?_
  rintro e w8 ⟨rfl, hb8⟩
  have HX4 := Lib.hid (HX3.out.next hb8)
  clear hb8
  go_wp2_with (first
    | (refine stN (fun w' => Hid (Wk w w' g b gK k3)) 25 (.tmp 37) (.tmp 36) rfl rfl _ _ (adl false (fourL 9 0 0 1)) rfl rfl (by rw [adl_len _ _ rfl]; exact there_part HX4.out.th (by omega)) (by rw [adl_len _ _ rfl]; exact infA) (adl_one _ _) (by exact HX4.out.three) ?_; intro w9 HX5)
    | (refine ldK (.tmp 4) rfl rfl _ _ rfl k3 k3_ok (by with_reducible exact HX5.out.key) ?_))
  refine (uClass_any b [rA, rB] (othr false 2) k3 _ HX5.out.cf k3_ok).mono ?_
  rintro e wA ⟨rfl, hkc, hcc⟩
  have HX6 := Lib.hid (HX5.out.count hkc hcc)
  clear hkc hcc
  simp only [tell3.1, tell3.2]
  have HWK := HX6
  have HRL : Hid (True ∧ ∀ (i : Nat) (r : Rl), [rA, rB][i]? = some r → wA.rangeAt g (i * 44) r.cs) := by
    obtain ⟨b', o', e, hc⟩ := HX6.out.rls.cells (by simp)
    simp only [Option.some.injEq, Addr.mk.injEq, and_true] at e
    obtain ⟨rfl, rfl⟩ := e
    exact ⟨trivial, fun i r hr => by have := hc i r hr; rwa [Nat.zero_add] at this⟩
  go_wp2_with fail
  refine wp_region_held_drew (S := fun w' => World.rangeAt w' g 0 rA.cs ∧ World.rangeAt w' g 44 rB.cs) (by kernel_rfl) ⟨by simpa using HRL.out.2 0 rA rfl, by simpa using HRL.out.2 1 rB rfl⟩ (fun hS => ?_)
  refine tk 1 46 (.slice (some ⟨g, 0, none⟩) 2 2) rfl rfl (by kernel_rfl) (by kernel_rfl) (by kernel_rfl) (fun _ _ _ h => h) (Or.inl ⟨by rfl, fun w' h' => ?_⟩) hS ?_
  · go_simp
  try simp only [Act.put, List.setIfInBounds_toArray, List.set_cons_zero, List.set_cons_succ]
  refine tk 2 47 (.pointer (some ⟨g, 0, none⟩)) rfl rfl (by kernel_rfl) (by kernel_rfl) (by kernel_rfl) (fun _ _ _ h => h) (Or.inl ⟨by rfl, fun w' h' => ?_⟩) hS ?_
  · go_simp
  try simp only [Act.put, List.setIfInBounds_toArray, List.set_cons_zero, List.set_cons_succ]
  refine tk 3 48 (.agg (rA.cs).toArray) rfl rfl (by kernel_rfl) (by kernel_rfl) (by kernel_rfl) (fun _ _ _ h => h) (yieldsIf_load_mid (by rfl) _ _ rfl (g) (0) rfl (rA.cs) _ (fun w' h' => h'.1) Try.underlying43 rfl (by rw [Rl.len rA_ok]; exact infU)) hS ?_
  try simp only [Act.put, List.setIfInBounds_toArray, List.set_cons_zero, List.set_cons_succ]
  refine tk 4 49 (.slice (some ⟨g, 0, none⟩) 2 2) rfl rfl (by kernel_rfl) (by kernel_rfl) (by kernel_rfl) (fun _ _ _ h => h) (Or.inl ⟨by rfl, fun w' h' => ?_⟩) hS ?_
  · go_simp
  try simp only [Act.put, List.setIfInBounds_toArray, List.set_cons_zero, List.set_cons_succ]
  refine tk 5 50 (.pointer (some ⟨g, 44, none⟩)) rfl rfl (by kernel_rfl) (by kernel_rfl) (by kernel_rfl) (fun _ _ _ h => h) (Or.inl ⟨by rfl, fun w' h' => ?_⟩) hS ?_
  · go_simp
  try simp only [Act.put, List.setIfInBounds_toArray, List.set_cons_zero, List.set_cons_succ]
  refine tk 6 51 (.agg (rB.cs).toArray) rfl rfl (by kernel_rfl) (by kernel_rfl) (by kernel_rfl) (fun _ _ _ h => h) (yieldsIf_load_mid (by rfl) _ _ rfl (g) (44) rfl (rB.cs) _ (fun w' h' => h'.2) Try.underlying43 rfl (by rw [Rl.len rB_ok]; exact infU)) hS ?_
  try simp only [Act.put, List.setIfInBounds_toArray, List.set_cons_zero, List.set_cons_succ]
  refine wpAnyH_ready (rs := [0]) (by kernel_rfl) (by simp) (AllReadyH.cons rfl (fun K hK => ?_) AllReadyH.nil)
  rw [if_pos (by rfl)]
  go_wp2_with fail
  refine (uAny_any _).mono ?_
  rintro e wa ⟨rfl, hba⟩
  have HA := Lib.hid (HWK.out.next (undrew hba))
  have hra := And.intro (range_kept (undrew hba) hS.1) (range_kept (undrew hba) hS.2)
  have HRA := Lib.hid hra
  clear hba
  clear hS
  refine hK.out _ _ (hra) (fun hS => ?_)
  clear hK K
  try simp only [Act.put, List.setIfInBounds_toArray, List.set_cons_zero, List.set_cons_succ]
  clear hra
  refine wpAnyH_ready (rs := [7]) (by kernel_rfl) (by simp) (AllReadyH.cons rfl (fun K hK => ?_) AllReadyH.nil)
  rw [if_pos (by rfl)]
  refine wp_bsU 3 _ [any0, rA, rB] (by intro x hx; simp only [List.mem_cons, List.not_mem_nil, or_false] at hx; rcases hx with rfl | rfl | rfl; exact any0_ok; exact rA_ok; exact rB_ok) rfl (by omega) (by omega) rfl (by rfl) ?_
  intro wb hrl hbb hsz
  have HL3 := Lib.hid hrl
  have HB := Lib.hid (HA.out.next hbb)
  have hrb := And.intro (range_kept hbb HRA.out.1) (range_kept hbb HRA.out.2)
  have HRB := Lib.hid hrb
  clear hrl hbb hsz
  clear hS
  refine hK.out _ _ (hrb) (fun hS => ?_)
  clear hK K
  clear hrb
  try simp only [Act.put, List.setIfInBounds_toArray]
  refine wpAnyH_ready (rs := [8]) (by kernel_rfl) (by simp) (AllReadyH.cons rfl (fun K hK => ?_) AllReadyH.nil)
  rw [if_pos (by rfl)]
  go_wp2_with fail
  refine (uNew_any false 2 (some ⟨wa.heap.size, 0, none⟩) 3 3 [any0, rA, rB] _ HL3.out (by omega) (by intro h; cases h)).mono ?_
  rintro e wc hnew
  have hbc := hnew.1
  obtain ⟨bD, rfl, hcd, hbD⟩ := hnew.yes new2
  have HC := Lib.hid (HB.out.next hbc)
  have HD := Lib.hid hcd
  have hrc := And.intro (range_kept hbc HRB.out.1) (range_kept hbc HRB.out.2)
  clear hbc hcd hbD
  clear hS
  refine hK.out _ _ (hrc) (fun hS => ?_)
  clear hK K
  try simp only [Act.put, List.setIfInBounds_toArray, List.set_cons_zero, List.set_cons_succ]
  refine tk 9 44 (.tuple #[.pointer (some ⟨bD, 0, none⟩), .int .i64 0]) rfl rfl (by kernel_rfl) (by kernel_rfl) (by kernel_rfl) (fun _ _ _ h => h) (Or.inl ⟨by rfl, fun w' h' => ?_⟩) hS ?_
  · go_simp
  try simp only [Act.put, List.setIfInBounds_toArray, List.set_cons_zero, List.set_cons_succ]
  refine tk 10 54 (.pointer (some ⟨bD, 0, none⟩)) rfl rfl (by kernel_rfl) (by kernel_rfl) (by kernel_rfl) (fun _ _ _ h => h) (Or.inl ⟨by rfl, fun w' h' => ?_⟩) hS ?_
  · go_simp
  try simp only [Act.put, List.setIfInBounds_toArray, List.set_cons_zero, List.set_cons_succ]
  refine tk 11 55 (.int .i64 0) rfl rfl (by kernel_rfl) (by kernel_rfl) (by kernel_rfl) (fun _ _ _ h => h) (Or.inl ⟨by rfl, fun w' h' => ?_⟩) hS ?_
  · go_simp
  try simp only [Act.put, List.setIfInBounds_toArray, List.set_cons_zero, List.set_cons_succ]
  refine tk 12 11 (.pointer (some ⟨bD, 0, none⟩)) rfl rfl (by kernel_rfl) (by kernel_rfl) (by kernel_rfl) (fun _ _ _ h => h) (Or.inl ⟨by rfl, fun w' h' => ?_⟩) hS ?_
  · go_simp
  try simp only [Act.put, List.setIfInBounds_toArray, List.set_cons_zero, List.set_cons_succ]
  refine tk 13 12 (.int .i64 0) rfl rfl (by kernel_rfl) (by kernel_rfl) (by kernel_rfl) (fun _ _ _ h => h) (Or.inl ⟨by rfl, fun w' h' => ?_⟩) hS ?_
  · go_simp
  refine wpAnyH_done (by kernel_rfl) ?_ _
  go_wp2_with fail
  refine (uDead_any bD [any0, rA, rB] (othr false 2) _ HD.out).mono ?_
  rintro e wd ⟨aI, nI, cI, rfl, hown, hbd⟩
  rw [dead3] at hown
  have HE := Lib.hid (HC.out.next hbd)
  have hnI : nI = 2 := by have := hown.1; simp [iv] at this; omega
  subst hnI
  obtain ⟨gI, rfl, hcI⟩ := hown.cell (by simp [iv])
  have hc0 := hcI 0 (.int .i64 1) rfl
  have hc1 := hcI 1 (.int .i64 2) rfl
  simp only [Nat.zero_add] at hc0 hc1
  clear hown hcI hbd
  go_wp2_with fail
  go_ret
  exact ⟨rfl, HE.out.below⟩
end Go.Proofs.Ytgnhbhgpkihpmaa

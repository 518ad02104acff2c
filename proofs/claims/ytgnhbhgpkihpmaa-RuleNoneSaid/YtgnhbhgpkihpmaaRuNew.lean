/-
  The contract of New. Conditions: at most 64 rules that lie where the slice leads. (Made by gen_runew.py.)
-/
import Derived.Test.YtgnhbhgpkihpmaaRuDead
namespace Go.Proofs.Ytgnhbhgpkihpmaa
open Go.RowKit

/-- The one for others. -/
def othr (deny : Bool) (cls : Int) : Rl := { any0 with dy := deny, c := if deny then 0 else cls }
theorem othr_ok (deny : Bool) (cls : Int) : (othr deny cls).ok := ⟨any0_ok.sx, any0_ok.sb, any0_ok.dx, any0_ok.db, any0_ok.sl, any0_ok.sh, any0_ok.dl, any0_ok.dh⟩
/-- May a classifier be made of these? -/
def newOk (deny : Bool) (cls : Int) (l : List Rl) : Bool := l.all rgB && rgB (othr deny cls)
/-- What New answers. -/
def NewR (w : World) (deny : Bool) (cls : Int) (l : List Rl) (e : Ending) (w' : World) : Prop :=
  Below w.heap.size w w' ∧ ((newOk deny cls l = true ∧ ∃ b, e = .returned (.tuple #[.pointer (some ⟨b, 0, none⟩), .int .i64 0]) ∧ Cf w' b l (othr deny cls) ∧ w.heap.size ≤ b) ∨
    (newOk deny cls l = false ∧ e = .returned (.tuple #[.pointer none, .int .i64 2])))
theorem range_set {w : World} {b o : Nat} {cs : List Value} (h : w.rangeAt b o cs) {j : Nat} (hj : j < cs.length) (v : Value) : (w.setCell ⟨b, o + j, none⟩ v).rangeAt b o (cs.set j v) := fun i u hu => by
  by_cases e : j = i
  · subst e
    rw [List.getElem?_set_self hj] at hu
    simp only [Option.some.injEq] at hu
    subst hu
    exact World.cell?_setCell_same' _ _ _ (by rw [h j _ (List.getElem?_eq_getElem hj)]; rfl)
  · rw [List.getElem?_set_ne e] at hu
    have h1 := h i u hu
    rw [← h1]
    refine World.cell?_setCell_other _ _ _ _ ?_
    intro e2
    simp only [Addr.mk.injEq, true_and, and_true] at e2
    omega
theorem othr_cs (cls : Int) : (any0.cs.set 42 (.bool false)).set 43 (.int .i64 cls) = (othr false cls).cs := by kernel_rfl
theorem othr_csT (cls : Int) : any0.cs.set 42 (.bool true) = (othr true cls).cs := by kernel_rfl
theorem othr_rangeT {w : World} {g : Nat} (h : w.rangeAt g 0 any0.cs) (cls : Int) : (w.setCell ⟨g, 42, none⟩ (.bool true)).rangeAt g 0 (othr true cls).cs := by
  have hl := Rl.len any0_ok
  have h1 := range_set h (j := 42) (by omega) (.bool true)
  rw [othr_csT cls] at h1
  simpa using h1
theorem othr_range {w : World} {g : Nat} (h : w.rangeAt g 0 any0.cs) (cls : Int) : ((w.setCell ⟨g, 42, none⟩ (.bool false)).setCell ⟨g, 43, none⟩ (.int .i64 cls)).rangeAt g 0 (othr false cls).cs := by
  have hl := Rl.len any0_ok
  have h1 := range_set h (j := 42) (by omega) (.bool false)
  have h2 := range_set h1 (j := 43) (by rw [List.length_set]; omega) (.int .i64 cls)
  rw [othr_cs] at h2
  simpa using h2
theorem builtC (a : Option Addr) (n c : Nat) (deny : Bool) (cls : Int) : Try.prog.built 59 [(0, .slice a n c), (1, .agg (othr deny cls).cs.toArray)] = some (ccs a n c (othr deny cls) (zs 65)).toArray := by kernel_rfl
theorem yields_build {P : Program} {ops : Array Oper} {S : World → Prop} {o : Oper} {a : Act} (hgd : Region.wanted o (yielded ops a.tmps) = true) (t : TypeId) (parts : Array (Nat × Operand)) (ho : o.op = .build t parts) {cells : Array Value}
    (hc : P.built t (parts.toList.map fun x => (x.1, a.eval x.2)) = some cells) : YieldsIf P ops S o (.agg cells) a :=
  Or.inl ⟨hgd, fun w _ => by
    have hc' : P.built t (parts.map fun (i, x) => (i, a.eval x)).toList = some cells := by rw [← hc]; simp
    unfold execOp
    simp only [ho, Sem.run_bind, run_build w t _ cells hc', Result.andThen_ok, Sem.run_pure]⟩
/-- What lies there while the rules are looked at. -/
structure Ny (w wr : World) (a : Option Addr) (n : Nat) (l : List Rl) : Prop where
  rls : Rls wr a n l
  below : Below w.heap.size w wr
theorem Ny.next {w wr w' : World} {a : Option Addr} {n : Nat} {l : List Rl} (h : Ny w wr a n l) (hb : Below wr.heap.size wr w') : Ny w w' a n l :=
  ⟨h.rls.below hb, h.below.trans (hb.mono h.below.size)⟩
/-- What lies there behind that. -/
structure Nz (w wr : World) (gO : Nat) (a : Option Addr) (n : Nat) (l : List Rl) (deny : Bool) (cls : Int) : Prop where
  rls : Rls wr a n l
  rng : wr.rangeAt gO 0 (othr deny cls).cs
  below : Below w.heap.size w wr
theorem Nz.next {w wr w' : World} {gO : Nat} {a : Option Addr} {n : Nat} {l : List Rl} {deny : Bool} {cls : Int} (h : Nz w wr gO a n l deny cls) (hb : Below wr.heap.size wr w') : Nz w w' gO a n l deny cls :=
  ⟨h.rls.below hb, range_kept hb h.rng, h.below.trans (hb.mono h.below.size)⟩

set_option maxRecDepth 100000 in
set_option maxHeartbeats 4000000 in
theorem uNew_any (deny : Bool) (cls : Int) (a : Option Addr) (n c : Nat) (l : List Rl) (w : World) (hl : Rls w a n l) (hn : n ≤ 64) (hc : a = none → c = 0) :
    Calls Try.prog 6 #[.bool deny, .int .i64 cls, .slice a n c] w (NewR w deny cls l) := by
  have HL := Lib.hid hl
  have HNC := Lib.hid hc
  have hn2 : (n : Int) ≤ 64 := by omega
  have HNY : Hid (Ny w w a n l) := ⟨hl, Below.refl _ _⟩
  clear hl hc
  go_enter Try.func6, Try.ntmps6
  go_wp2_with fail
  go_loopw [16] (fun i wr => ∃ k : Nat, k ≤ n ∧ i = .int .i64 k ∧ Hid (∀ r ∈ l.take k, rgB r = true) ∧ Hid (Ny w wr a n l)) (fun i _ => n - (intOf i).toNat)
  case atStart => exact ⟨0, Nat.zero_le _, rfl, fun r hr => by simp at hr, HNY⟩
  case round =>
    obtain ⟨k, hk, rfl, hall, hnz⟩ := hrel
    clear HNY
    rename World => wo
    by_cases hlt : k < n
    · have hlt2 : (k : Int) < (n : Int) := by omega
      obtain ⟨r, b, o, hr, hrok, rfl, hrg⟩ := hnz.out.rls.nth hlt
      have HRG := Lib.hid hrg
      have HRO := Lib.hid hrok
      have HRK := Lib.hid hr
      clear hrg hrok hr
      go_wp2_with (first
        | (refine ldU _ rfl rfl _ _ rfl r HRO.out HRG.out ?_)
        | (refine stN (fun w' => Hid (Ny w w' (some ⟨b, o, none⟩) n l ∧ w'.rangeAt wo.heap.size 0 r.cs)) 43 _ _ rfl rfl _ _ r.cs rfl rfl (by rw [Rl.len HRO.out]; exact there_new _ _ _ _ rfl _ rfl) (by rw [Rl.len HRO.out]; exact infU) (Rl.one r) (by exact ⟨hnz.out.next (Below.boxed _ _ _ _), range_boxed _ _ _ _ (by rw [Rl.len HRO.out]; rfl)⟩) ?_; intro wk HNK; obtain ⟨gR, hgR⟩ : ∃ gR, wo.heap.size = gR := ⟨_, rfl⟩; rw [hgR] at HNK ⊢; clear hgR)
        | (refine ldU _ rfl (by rfl) _ _ rfl r HRO.out (by exact HNK.out.2) ?_))
      refine (uRight_any r _ HRO.out).mono ?_
      rintro e w2 ⟨rfl, hb2⟩
      have HN2 := Lib.hid (HNK.out.1.next hb2)
      clear hb2 HNK
      cases hq : rgB r with
      | true =>
        have HALL : Hid (∀ x ∈ l.take (k + 1), rgB x = true) := fun x hx => by
          rw [List.take_add_one, HRK.out] at hx
          rcases List.mem_append.1 hx with hx | hx
          · exact hall.out x hx
          · simp at hx; rw [hx]; exact hq
        clear hq
        go_wp2_with fail
        go_roundw
        case rel => exact ⟨k + 1, by omega, by go_num, HALL, HN2⟩
        case measure => simp [intOf]; omega
      | false =>
        have HF : Hid (newOk deny cls l = false) := by
          show _ = _
          rw [newOk, Bool.and_eq_false_iff]
          refine .inl ?_
          rw [List.all_eq_false]
          exact ⟨r, List.mem_of_getElem? HRK.out, by simp [hq]⟩
        clear hq
        go_wp2_with fail
        go_ret2
        exact ⟨HN2.out.below, .inr ⟨HF.out, rfl⟩⟩
    · have hlt2 : ¬ (k : Int) < (n : Int) := by omega
      have HALL : Hid (l.all rgB = true) := by
        show _ = _
        rw [List.all_eq_true]
        intro x hx
        refine hall.out x ?_
        rwa [List.take_of_length_le (by rw [hnz.out.rls.len]; omega)]
      go_wp2_with fail
      refine (uAny_any _).mono ?_
      rintro e w1 ⟨rfl, hb1⟩
      have HL1 := Lib.hid (hnz.out.next hb1)
      clear hb1 hnz
      cases deny with
      | true =>
        go_wp2_with (first
          | (refine stN (fun w' => w'.rangeAt w1.heap.size 0 any0.cs ∧ Hid (w'.there w1.heap.size 0 44 ∧ Below w1.heap.size w1 w')) 43 _ _ rfl rfl _ _ any0.cs rfl rfl (by rw [Rl.len any0_ok]; exact there_new _ _ _ _ rfl _ rfl) (by rw [Rl.len any0_ok]; exact infU) (Rl.one _) (by exact ⟨range_boxed _ _ _ _ (by rw [Rl.len any0_ok]; rfl), World.there_setCells (there_new _ _ _ _ rfl _ rfl) _ _ _, Below.boxed _ _ _ _⟩) ?_; intro wk hwk; have h42 := Rl.rdy any0_ok hwk.1; rw [Nat.zero_add] at h42; have hf42 := (hwk.2.out.1 42 (by omega)).2; rw [Nat.zero_add] at hf42; have HNZ : Hid (Nz w (wk.setCell ⟨w1.heap.size, 42, none⟩ (.bool true)) w1.heap.size a n l true cls) := ⟨HL1.out.rls.below (hwk.2.out.2.setCell (p := ⟨w1.heap.size, 42, none⟩) (Nat.le_refl _) _), othr_rangeT hwk.1 cls, HL1.out.below.trans ((hwk.2.out.2.setCell (p := ⟨w1.heap.size, 42, none⟩) (Nat.le_refl _) _).mono HL1.out.below.size)⟩; have HGO : Hid (w.heap.size ≤ w1.heap.size) := HL1.out.below.size; clear hwk)
          | (refine ldU _ rfl (by rfl) _ _ rfl (othr true cls) (othr_ok _ _) (by exact HNZ.out.rng) ?_))
        obtain ⟨gO, hgO⟩ : ∃ gO, w1.heap.size = gO := ⟨_, rfl⟩
        rw [hgO] at HNZ HGO ⊢
        clear h42 hf42  HL1
        generalize (wk.setCell ⟨gO, 42, none⟩ (.bool true)) = w2 at HNZ ⊢
        refine (uRight_any (othr true cls) _ (othr_ok _ _)).mono ?_
        rintro e w2 ⟨rfl, hb2⟩
        have HN2 := Lib.hid (HNZ.out.next hb2)
        clear hb2 HNZ
        cases hq : rgB (othr true cls) with
        | false =>
          have HF : Hid (newOk true cls l = false) := by show _ = _; rw [newOk, hq, Bool.and_false]
          clear hq
          go_wp2_with fail
          go_ret2
          exact ⟨HN2.out.below, .inr ⟨HF.out, rfl⟩⟩
        | true =>
          have HF : Hid (newOk true cls l = true) := by show _ = _; rw [newOk, hq, HALL.out]; rfl
          clear hq
          go_wp2_with fail
          refine wp_region_held_drew (S := fun w' => World.rangeAt w' gO 0 (othr true cls).cs) (by kernel_rfl) HN2.out.rng (fun hS => ?_)
          refine tk 0 34 (.slice a n c) rfl rfl (by kernel_rfl) (by kernel_rfl) (by kernel_rfl) (fun _ _ _ h => h) (Or.inl ⟨by rfl, fun w' h' => ?_⟩) hS ?_
          · go_simp
          try simp only [Act.put, List.setIfInBounds_toArray, List.set_cons_zero, List.set_cons_succ]
          refine tk 2 36 (.agg ((othr true cls).cs).toArray) rfl rfl (by kernel_rfl) (by kernel_rfl) (by kernel_rfl) (fun _ _ _ h => h) (yieldsIf_load_mid (by rfl) _ _ rfl (gO) (0) rfl ((othr true cls).cs) _ (fun w' h' => h') Try.underlying43 rfl (by rw [Rl.len (othr_ok _ _)]; exact infU)) hS ?_
          try simp only [Act.put, List.setIfInBounds_toArray, List.set_cons_zero, List.set_cons_succ]
          refine wpAnyH_ready (rs := [1]) (by kernel_rfl) (by simp) (AllReadyH.cons rfl (fun K hK => ?_) AllReadyH.nil)
          rw [if_pos (by rfl)]
          go_wp2_with fail
          refine (uClone_any a n c l _ (HN2.out.rls.below (Below.refl _ _).drew) (by omega) HNC.out).mono ?_
          rintro e w3 ⟨a', n', c', rfl, hown, hb3⟩
          have HO3 := Lib.hid hown
          have HN3 := Lib.hid (HN2.out.next (undrew hb3))
          clear hown hb3
          clear hS
          refine hK.out _ _ (HN3.out.rng) (fun hS => ?_)
          clear hK K
          try simp only [Act.put, List.setIfInBounds_toArray, List.set_cons_zero, List.set_cons_succ]
          refine tk 3 37 (.agg (ccs a' n' c' (othr true cls) (zs 65)).toArray) rfl rfl (by kernel_rfl) (by kernel_rfl) (by kernel_rfl) (fun _ _ _ h => h) (yields_build (by rfl) _ _ rfl (builtC a' n' c' true cls)) hS ?_
          try simp only [Act.put, List.setIfInBounds_toArray, List.set_cons_zero, List.set_cons_succ]
          refine wpAnyH_ready (rs := [4]) (by kernel_rfl) (by simp) (AllReadyH.cons rfl (fun K hK => ?_) AllReadyH.nil)
          rw [if_pos (by rfl)]
          go_wp2_with fail
          have HB4 : Hid (Below w3.heap.size w3 (w3.alloc (.cells (ccs a' n' c' (othr true cls) (zs 65)).toArray 59))) := (Below.refl _ _).alloc (Nat.le_refl _) _
          have HC4 : Hid (CfB (w3.alloc (.cells (ccs a' n' c' (othr true cls) (zs 65)).toArray 59)) w3.heap.size a' n' c' l (othr true cls) (zs 65)) :=
            ⟨othr_ok _ _, by rw [HN3.out.rls.len]; omega, Blk_new _ _ _, (HO3.out.below HB4.out).mono (Nat.zero_le _), zs_length 65, fun h hh => by have := List.eq_of_mem_replicate hh; omega⟩
          clear hS
          refine hK.out _ _ (range_kept HB4.out HN3.out.rng) (fun hS => ?_)
          clear hK K
          try simp only [Act.put, List.setIfInBounds_toArray, List.set_cons_zero, List.set_cons_succ]
          refine tk 5 6 (.pointer (some ⟨w3.heap.size, 0, none⟩)) rfl rfl (by kernel_rfl) (by kernel_rfl) (by kernel_rfl) (fun _ _ _ h => h) (Or.inl ⟨by rfl, fun w' h' => ?_⟩) hS ?_
          · go_simp
          try simp only [Act.put, List.setIfInBounds_toArray, List.set_cons_zero, List.set_cons_succ]
          refine tk 6 7 (.int .i64 0) rfl rfl (by kernel_rfl) (by kernel_rfl) (by kernel_rfl) (fun _ _ _ h => h) (Or.inl ⟨by rfl, fun w' h' => ?_⟩) hS ?_
          · go_simp
          refine wpAnyH_done (by kernel_rfl) ?_ _
          go_wp2_with fail
          go_ret2
          exact ⟨HN3.out.below.trans (HB4.out.mono HN3.out.below.size), .inl ⟨HF.out, _, rfl, ⟨_, _, _, _, HC4.out⟩, HN3.out.below.size⟩⟩
      | false =>
        go_wp2_with (first
          | (refine stN (fun w' => w'.rangeAt w1.heap.size 0 any0.cs ∧ Hid (w'.there w1.heap.size 0 44 ∧ Below w1.heap.size w1 w')) 43 _ _ rfl rfl _ _ any0.cs rfl rfl (by rw [Rl.len any0_ok]; exact there_new _ _ _ _ rfl _ rfl) (by rw [Rl.len any0_ok]; exact infU) (Rl.one _) (by exact ⟨range_boxed _ _ _ _ (by rw [Rl.len any0_ok]; rfl), World.there_setCells (there_new _ _ _ _ rfl _ rfl) _ _ _, Below.boxed _ _ _ _⟩) ?_; intro wk hwk; have h42 := Rl.rdy any0_ok hwk.1; rw [Nat.zero_add] at h42; have hf42 := (hwk.2.out.1 42 (by omega)).2; rw [Nat.zero_add] at hf42; have h43 := Rl.rc any0_ok hwk.1; rw [Nat.zero_add] at h43; have hf43 := (hwk.2.out.1 43 (by omega)).2; rw [Nat.zero_add] at hf43; have HNZ : Hid (Nz w ((wk.setCell ⟨w1.heap.size, 42, none⟩ (.bool false)).setCell ⟨w1.heap.size, 43, none⟩ (.int .i64 cls)) w1.heap.size a n l false cls) := ⟨HL1.out.rls.below ((hwk.2.out.2.setCell (p := ⟨w1.heap.size, 42, none⟩) (Nat.le_refl _) _).setCell (p := ⟨w1.heap.size, 43, none⟩) (Nat.le_refl _) _), othr_range hwk.1 cls, HL1.out.below.trans (((hwk.2.out.2.setCell (p := ⟨w1.heap.size, 42, none⟩) (Nat.le_refl _) _).setCell (p := ⟨w1.heap.size, 43, none⟩) (Nat.le_refl _) _).mono HL1.out.below.size)⟩; have HGO : Hid (w.heap.size ≤ w1.heap.size) := HL1.out.below.size; clear hwk)
          | (refine ldU _ rfl (by rfl) _ _ rfl (othr false cls) (othr_ok _ _) (by exact HNZ.out.rng) ?_))
        obtain ⟨gO, hgO⟩ : ∃ gO, w1.heap.size = gO := ⟨_, rfl⟩
        rw [hgO] at HNZ HGO ⊢
        clear h42 hf42 h43 hf43 HL1
        generalize ((wk.setCell ⟨gO, 42, none⟩ (.bool false)).setCell ⟨gO, 43, none⟩ (.int .i64 cls)) = w2 at HNZ ⊢
        refine (uRight_any (othr false cls) _ (othr_ok _ _)).mono ?_
        rintro e w2 ⟨rfl, hb2⟩
        have HN2 := Lib.hid (HNZ.out.next hb2)
        clear hb2 HNZ
        cases hq : rgB (othr false cls) with
        | false =>
          have HF : Hid (newOk false cls l = false) := by show _ = _; rw [newOk, hq, Bool.and_false]
          clear hq
          go_wp2_with fail
          go_ret2
          exact ⟨HN2.out.below, .inr ⟨HF.out, rfl⟩⟩
        | true =>
          have HF : Hid (newOk false cls l = true) := by show _ = _; rw [newOk, hq, HALL.out]; rfl
          clear hq
          go_wp2_with fail
          refine wp_region_held_drew (S := fun w' => World.rangeAt w' gO 0 (othr false cls).cs) (by kernel_rfl) HN2.out.rng (fun hS => ?_)
          refine tk 0 34 (.slice a n c) rfl rfl (by kernel_rfl) (by kernel_rfl) (by kernel_rfl) (fun _ _ _ h => h) (Or.inl ⟨by rfl, fun w' h' => ?_⟩) hS ?_
          · go_simp
          try simp only [Act.put, List.setIfInBounds_toArray, List.set_cons_zero, List.set_cons_succ]
          refine tk 2 36 (.agg ((othr false cls).cs).toArray) rfl rfl (by kernel_rfl) (by kernel_rfl) (by kernel_rfl) (fun _ _ _ h => h) (yieldsIf_load_mid (by rfl) _ _ rfl (gO) (0) rfl ((othr false cls).cs) _ (fun w' h' => h') Try.underlying43 rfl (by rw [Rl.len (othr_ok _ _)]; exact infU)) hS ?_
          try simp only [Act.put, List.setIfInBounds_toArray, List.set_cons_zero, List.set_cons_succ]
          refine wpAnyH_ready (rs := [1]) (by kernel_rfl) (by simp) (AllReadyH.cons rfl (fun K hK => ?_) AllReadyH.nil)
          rw [if_pos (by rfl)]
          go_wp2_with fail
          refine (uClone_any a n c l _ (HN2.out.rls.below (Below.refl _ _).drew) (by omega) HNC.out).mono ?_
          rintro e w3 ⟨a', n', c', rfl, hown, hb3⟩
          have HO3 := Lib.hid hown
          have HN3 := Lib.hid (HN2.out.next (undrew hb3))
          clear hown hb3
          clear hS
          refine hK.out _ _ (HN3.out.rng) (fun hS => ?_)
          clear hK K
          try simp only [Act.put, List.setIfInBounds_toArray, List.set_cons_zero, List.set_cons_succ]
          refine tk 3 37 (.agg (ccs a' n' c' (othr false cls) (zs 65)).toArray) rfl rfl (by kernel_rfl) (by kernel_rfl) (by kernel_rfl) (fun _ _ _ h => h) (yields_build (by rfl) _ _ rfl (builtC a' n' c' false cls)) hS ?_
          try simp only [Act.put, List.setIfInBounds_toArray, List.set_cons_zero, List.set_cons_succ]
          refine wpAnyH_ready (rs := [4]) (by kernel_rfl) (by simp) (AllReadyH.cons rfl (fun K hK => ?_) AllReadyH.nil)
          rw [if_pos (by rfl)]
          go_wp2_with fail
          have HB4 : Hid (Below w3.heap.size w3 (w3.alloc (.cells (ccs a' n' c' (othr false cls) (zs 65)).toArray 59))) := (Below.refl _ _).alloc (Nat.le_refl _) _
          have HC4 : Hid (CfB (w3.alloc (.cells (ccs a' n' c' (othr false cls) (zs 65)).toArray 59)) w3.heap.size a' n' c' l (othr false cls) (zs 65)) :=
            ⟨othr_ok _ _, by rw [HN3.out.rls.len]; omega, Blk_new _ _ _, (HO3.out.below HB4.out).mono (Nat.zero_le _), zs_length 65, fun h hh => by have := List.eq_of_mem_replicate hh; omega⟩
          clear hS
          refine hK.out _ _ (range_kept HB4.out HN3.out.rng) (fun hS => ?_)
          clear hK K
          try simp only [Act.put, List.setIfInBounds_toArray, List.set_cons_zero, List.set_cons_succ]
          refine tk 5 6 (.pointer (some ⟨w3.heap.size, 0, none⟩)) rfl rfl (by kernel_rfl) (by kernel_rfl) (by kernel_rfl) (fun _ _ _ h => h) (Or.inl ⟨by rfl, fun w' h' => ?_⟩) hS ?_
          · go_simp
          try simp only [Act.put, List.setIfInBounds_toArray, List.set_cons_zero, List.set_cons_succ]
          refine tk 6 7 (.int .i64 0) rfl rfl (by kernel_rfl) (by kernel_rfl) (by kernel_rfl) (fun _ _ _ h => h) (Or.inl ⟨by rfl, fun w' h' => ?_⟩) hS ?_
          · go_simp
          refine wpAnyH_done (by kernel_rfl) ?_ _
          go_wp2_with fail
          go_ret2
          exact ⟨HN3.out.below.trans (HB4.out.mono HN3.out.below.size), .inl ⟨HF.out, _, rfl, ⟨_, _, _, _, HC4.out⟩, HN3.out.below.size⟩⟩
end Go.Proofs.Ytgnhbhgpkihpmaa

/-
  A write in memory; the contracts of bytes.Clone, of a write's copied and lay, and of a fate's done. Conditions: numbers that fit their Go types, writes of at most a million bytes.
-/
import Derived.Test.YtbghdlgfpfeaeaaPieces
import Derived.Laws.CopyRow
import Derived.Deep.MidRow
import Derived.Deep.RegionWith
import Derived.Shelf.RegionOpen
namespace Go.Proofs.Ytbghdlgfpfeaeaa
open Go.RowKit

/-- An answer; the world has but drawn. -/
def Tells (w : World) (v : Value) (e : Ending) (w' : World) : Prop := e = .returned v ∧ ∃ m, w' = w.drewN m
/-- What is answered; all that was there is as it was. -/
def Gives (w : World) (v : Value) (e : Ending) (w' : World) : Prop := e = .returned v ∧ Below w.heap.size w w'
theorem eq_nil (w : World) (a : Option Addr) (n c : Nat) : (binOp .eql 31 (.slice a n c) (.slice none 0 0)).run Try.prog w = .ok (.bool a.isNone) w := Lib.run_eql_slice_nil w _ _ a n c 0 0 Try.underlying31

set_option maxRecDepth 100000 in
set_option maxHeartbeats 1000000 in
theorem clone_any (a : Option Addr) (n c : Nat) (xs : List Int) (w : World) (hn : xs.length = n) (hr : Rd w a xs) (hlim : n ≤ 70368744177664) :
    Calls Try.prog 25 #[.slice a n c] w (Made w xs) := by
  have he := eq_nil w a n c
  cases a with
  | none =>
    have hx : xs = [] := by
      cases xs with
      | nil => rfl
      | cons y ys => obtain ⟨_, _, h, _⟩ := hr (by simp); cases h
    subst hx
    have he' : (binOp .eql 31 (.slice none n c) (.slice none 0 0)).run Try.prog w = .ok (.bool true) w := he
    clear hr he hn
    go_enter Try.func25, Try.ntmps25
    go_wp2_with fail
    go_ret
    exact ⟨none, 0, 0, rfl, Own.nil _ _, Below.refl _ _⟩
  | some ad =>
    have he' : (binOp .eql 31 (.slice (some ad) n c) (.slice none 0 0)).run Try.prog w = .ok (.bool false) w := he
    clear he
    have h0 := Own.lit w w.heap.size [] 0 rfl (by decide) (Nat.le_refl _)
    obtain ⟨a', cap', w1, hrun, hown, hg, hb⟩ := run_append_rd (w.alloc (.cells #[] 5)) w.heap.size 31 h0 c hn (hr.below ((Below.refl _ _).alloc (Nat.le_refl _) _)) (by omega) (by simp)
    rw [List.nil_append, Nat.zero_add] at hown
    rw [Nat.zero_add] at hrun
    have HR := Lib.hid hrun
    have HF : Hid (Made w xs (.returned (.slice a' n cap')) w1) := ⟨a', n, cap', rfl, hown, ((Below.refl _ _).alloc (Nat.le_refl _) _).grown hg (by simp) (fun k hk => by simp [blk] at hk; omega)⟩
    clear hrun hown hg hb hn hr h0 hlim
    go_enter Try.func25, Try.ntmps25
    go_wp2_with (at_builtin; refine Lib.wpList_append_run _ rfl _ _ _ _ rfl _ _ rfl rfl _ _ HR.out ?_)
    go_ret
    exact HF.out


/-- A write: its place, its data, where they lie. -/
structure Uw where
  at_ : Int
  a : Option Addr
  n : Nat
  c : Nat
  d : List Int
def Uw.cs (x : Uw) : List Value := [.int .i64 x.at_, .slice x.a x.n x.c]
def Uw.v (x : Uw) : Value := .agg x.cs.toArray
/-- A write's data lie there. -/
structure Uw.lies (x : Uw) (w : World) : Prop where
  len : x.d.length = x.n
  rd : Rd w x.a x.d
  byt : Byt x.d
  few : x.n ≤ 1000000
theorem Uw.lies.keep {x : Uw} {S : Nat → Prop} {w w' : World} (h : x.lies w) (k : Kept S w w') (hn : ∀ b, blk x.a = some b → ¬ S b) : x.lies w' := ⟨h.len, h.rd.keep k hn, h.byt, h.few⟩
theorem Uw.lies.below {x : Uw} {w w' : World} (h : x.lies w) (k : Below w.heap.size w w') : x.lies w' := ⟨h.len, h.rd.below k, h.byt, h.few⟩
/-- A write's copy: its data in memory of its own. -/
structure Twin (base : Nat) (x y : Uw) (w : World) : Prop where
  at_ : y.at_ = x.at_
  d : y.d = x.d
  own : Own w base y.a y.n y.c y.d
theorem Twin.lies {B : Nat} {x y : Uw} {w w0 : World} (h : Twin B x y w) (hx : x.lies w0) : y.lies w := ⟨h.own.len, h.own.rd, h.d ▸ hx.byt, by have h1 := h.own.len; have h2 := hx.len; have h3 := hx.few; rw [h.d] at h1; omega⟩

set_option maxRecDepth 100000 in
set_option maxHeartbeats 1000000 in
theorem copied_any (x : Uw) (w : World) (hx : x.lies w) : Calls Try.prog 24 #[x.v] w fun e w' => ∃ y : Uw, e = .returned y.v ∧ Twin w.heap.size x y w' ∧ Below w.heap.size w w' := by
  obtain ⟨p, a, n, c, d⟩ := x
  have HX := Lib.hid hx
  show Calls Try.prog 24 #[.agg #[.int .i64 p, .slice a n c]] w _
  clear hx
  go_enter Try.func24, Try.ntmps24
  go_wp2_with fail
  refine (clone_any a n c d _ HX.out.len (HX.out.rd.below (((Below.refl _ _).alloc (Nat.le_refl _) _).alloc (by simp) _)) (by have := HX.out.few; simp at this; omega)).mono ?_
  rintro e w1 ⟨a1, n1, c1, rfl, ho, hb⟩
  have HO : Hid (Own w1 w.heap.size a1 n1 c1 d ∧ Below w.heap.size w w1 ∧ w.heap.size + 2 ≤ w1.heap.size) := ⟨ho.mono (by simp; omega), (((Below.refl _ _).alloc (Nat.le_refl _) _).alloc (by simp) _).trans (hb.mono (by simp; omega)), by have := hb.size; simpa using this⟩
  have r0 : w1.heap[w.heap.size]? = some (.cells #[.int .i64 p, .slice a n c] 46 (0, 0)) := by
    rw [hb.block _ (by simp; omega), Below.heap_alloc _ _ _ (by simp)]; exact Blk_new w _ _
  have r1 : w1.heap[w.heap.size + 1]? = some (.cells #[.int .i64 0, .slice none 0 0] 46 (0, 0)) := by
    rw [hb.block _ (by simp)]
    have := Blk_new (w.alloc (.cells #[.int .i64 p, .slice a n c] 46)) #[.int .i64 0, .slice none 0 0] 46
    simpa using this
  have hgo := fun k hk => (ho.blk_ge k hk).1
  have HG : Hid (∀ k, blk a1 = some k → w.heap.size + 2 ≤ k) := fun k hk => by have := hgo k hk; simpa using this
  clear ho hb hgo HX
  have c0 : w1.cell? ⟨w.heap.size, 0, none⟩ = some (.int .i64 p) := by rw [cell_of_row w1 _ 0 _ _ (0, 0) r0]; rfl
  have c1' : w1.cell? ⟨w.heap.size, 1, none⟩ = some (.slice a n c) := by rw [cell_of_row w1 _ 1 _ _ (0, 0) r0]; rfl
  have f1 : w1.frozen? ⟨w.heap.size, 1, none⟩ = false := frozen_of_row w1 _ 1 _ _ r0
  have d0 : w1.cell? ⟨w.heap.size + 1, 0, none⟩ = some (.int .i64 0) := by rw [cell_of_row w1 _ 0 _ _ (0, 0) r1]; rfl
  have d1 : w1.cell? ⟨w.heap.size + 1, 1, none⟩ = some (.slice none 0 0) := by rw [cell_of_row w1 _ 1 _ _ (0, 0) r1]; rfl
  have g0 : w1.frozen? ⟨w.heap.size + 1, 0, none⟩ = false := frozen_of_row w1 _ 0 _ _ r1
  have g1 : w1.frozen? ⟨w.heap.size + 1, 1, none⟩ = false := frozen_of_row w1 _ 1 _ _ r1
  clear r0 r1
  go_wp2_with fail
  refine bodyPost_ret (v := .agg #[.int .i64 p, .slice a1 n1 c1]) (by simp [results, Try.results24, go_sem, *]) rfl ?_
  have hk : ∀ (u v x : Value), Kept (fun k => k = w.heap.size ∨ k = w.heap.size + 1) w1 (((w1.setCell ⟨w.heap.size, 1, none⟩ u).setCell ⟨w.heap.size + 1, 0, none⟩ v).setCell ⟨w.heap.size + 1, 1, none⟩ x) := fun u v x =>
    ((Kept.setCell _ _ _ (.inl rfl)).trans (Kept.setCell (S := fun k => k = w.heap.size ∨ k = w.heap.size + 1) _ _ _ (.inr rfl)) (fun _ _ h => h)).trans (Kept.setCell (S := fun k => k = w.heap.size ∨ k = w.heap.size + 1) _ _ _ (.inr rfl)) (fun _ _ h => h)
  exact ⟨⟨p, a1, n1, c1, d⟩, rfl, ⟨rfl, rfl, HO.out.1.keep (hk _ _ _) (fun k hk' e => by have := HG.out k hk'; omega)⟩, HO.out.2.1.trans ((hk _ _ _).below HO.out.2.1.size (fun k e => by omega))⟩

/-- How many of a write's bytes a fate lets be done. -/
def dnV (k p n : Int) : Int := if k = 1 then n else if k = 2 then (if p < 0 then 0 else if n < p then n else p) else 0
theorem none_any (k p n : Int) (w : World) : Calls Try.prog 39 #[.agg #[.int .i64 k, .int .i64 p], .int .i64 n] w (Gives w (.int .i64 0)) := by
  have HB := Lib.hid (((Below.refl w.heap.size w).alloc (Nat.le_refl _) (.cells #[.int .i64 k, .int .i64 p] 44)))
  go_enter Try.func39, Try.ntmps39
  go_wp2_with fail
  go_ret
  exact ⟨rfl, HB.out⟩
theorem all_any (k p n : Int) (w : World) : Calls Try.prog 40 #[.agg #[.int .i64 k, .int .i64 p], .int .i64 n] w (Gives w (.int .i64 n)) := by
  have HB := Lib.hid (((Below.refl w.heap.size w).alloc (Nat.le_refl _) (.cells #[.int .i64 k, .int .i64 p] 44)))
  go_enter Try.func40, Try.ntmps40
  go_wp2_with fail
  go_ret
  exact ⟨rfl, HB.out⟩
theorem first_any (k p n : Int) (w : World) (hn : 0 ≤ n) : Calls Try.prog 41 #[.agg #[.int .i64 k, .int .i64 p], .int .i64 n] w (Gives w (.int .i64 (if p < 0 then 0 else if n < p then n else p))) := by
  have HB := Lib.hid (((Below.refl w.heap.size w).alloc (Nat.le_refl _) (.cells #[.int .i64 k, .int .i64 p] 44)))
  by_cases h0 : p < 0
  · rw [if_pos h0]
    have e1 : max p 0 = 0 := by omega
    have e2 : min 0 n = 0 := by omega
    go_enter Try.func41, Try.ntmps41
    go_wp2_with fail
    go_ret
    exact ⟨rfl, HB.out⟩
  · rw [if_neg h0]
    have e1 : max p 0 = p := by omega
    by_cases h1 : n < p
    · rw [if_pos h1]
      have e2 : min p n = n := by omega
      go_enter Try.func41, Try.ntmps41
      go_wp2_with fail
      go_ret
      exact ⟨rfl, HB.out⟩
    · rw [if_neg h1]
      have e2 : min p n = p := by omega
      go_enter Try.func41, Try.ntmps41
      go_wp2_with fail
      go_ret
      exact ⟨rfl, HB.out⟩
/-- What the three kinds of fates do. -/
def fns : List Value := [.func (.func 39) #[] #[], .func (.func 40) #[] #[], .func (.func 41) #[] #[]]
theorem infFns : (Try.prog.info? 77).map (·.size) = some fns.length := by kernel_rfl
theorem fns_one : ∀ v ∈ fns, v.oneCell' = true := by
  intro v hv
  simp [fns] at hv
  rcases hv with rfl | rfl | rfl <;> rfl
/-- Cells are stored; of the memory only P is kept in mind. -/
theorem stN {ops : Array Oper} {rest : List Oper} {o : Oper} {a : Act} {w : World} {Q : Exit → Act → World → Prop} (P : World → Prop) (t : TypeId) (x y : Operand) (ho : o.op = .store t x y) (hgd : o.guard = none) (b off : Nat) (cs : List Value) (hx : a.eval x = .pointer (some ⟨b, off, none⟩)) (hy : a.eval y = .agg cs.toArray)
    (ht : w.there b off cs.length) (hi : (Try.prog.info? t).map (·.size) = some cs.length) (h1 : ∀ v ∈ cs, v.oneCell' = true) (hP : P (w.setCells b off cs))
    (h : ∀ w', P w' → wpList Try.prog ops Q rest (a.put o.dst undef) w') : wpList Try.prog ops Q (o :: rest) a w :=
  wpList_store_mid hgd t x y ho b off cs.toArray hx hy (by simpa using ht) (by simpa using hi) (all_oneCell_toArray h1) (by simpa using h _ hP)
/-- A fate and the three functions in memory that is new. -/
structure Fm (w : World) (k p : Int) (w' : World) : Prop where
  below : Below w.heap.size w w'
  two : w.heap.size + 2 ≤ w'.heap.size
  fate : w'.heap[w.heap.size]? = some (.cells #[.int .i64 k, .int .i64 p] 44 (0, 0))
  fn : w'.heap[w.heap.size + 1]? = some (.cells fns.toArray 77 (0, 0))
theorem Fm.new (w : World) (k p : Int) : Fm w k p (((w.alloc (.cells #[.int .i64 k, .int .i64 p] 44)).alloc (.cells #[.nilFunc, .nilFunc, .nilFunc] 77)).setCells (w.heap.size + 1) 0 fns) := by
  have h2 : ((w.alloc (.cells #[.int .i64 k, .int .i64 p] 44)).alloc (.cells #[.nilFunc, .nilFunc, .nilFunc] 77)).heap[w.heap.size + 1]? = some (.cells #[.nilFunc, .nilFunc, .nilFunc] 77 (0, 0)) := by
    have := Blk_new (w.alloc (.cells #[.int .i64 k, .int .i64 p] 44)) #[.nilFunc, .nilFunc, .nilFunc] 77
    simpa using this
  have h1 : ((w.alloc (.cells #[.int .i64 k, .int .i64 p] 44)).alloc (.cells #[.nilFunc, .nilFunc, .nilFunc] 77)).heap[w.heap.size]? = some (.cells #[.int .i64 k, .int .i64 p] 44 (0, 0)) := by
    rw [Below.heap_alloc _ _ _ (by simp)]
    exact Blk_new w _ _
  have hs : ((w.alloc (.cells #[.int .i64 k, .int .i64 p] 44)).alloc (.cells #[.nilFunc, .nilFunc, .nilFunc] 77)).heap.size = w.heap.size + 2 := by simp
  have hb : Below w.heap.size w ((w.alloc (.cells #[.int .i64 k, .int .i64 p] 44)).alloc (.cells #[.nilFunc, .nilFunc, .nilFunc] 77)) := ((Below.refl _ _).alloc (Nat.le_refl _) _).alloc (by simp) _
  obtain ⟨v, hv⟩ : ∃ z, (w.alloc (.cells #[.int .i64 k, .int .i64 p] 44)).alloc (.cells #[.nilFunc, .nilFunc, .nilFunc] 77) = z := ⟨_, rfl⟩
  rw [hv] at h1 h2 hs hb ⊢
  have hk : Kept (fun i => i = w.heap.size + 1) v (v.setCells (w.heap.size + 1) 0 fns) := by
    simp only [fns, World.setCells]
    exact ((Kept.setCell (S := fun i => i = w.heap.size + 1) _ _ _ rfl).trans (Kept.setCell (S := fun i => i = w.heap.size + 1) _ _ _ rfl) (fun _ _ e => e)).trans (Kept.setCell (S := fun i => i = w.heap.size + 1) _ _ _ rfl) (fun _ _ e => e)
  refine ⟨hb.trans (hk.below (by omega) (fun i e => by omega)), by have := hk.size; omega, hk.heap h1 (by omega), ?_⟩
  simp only [fns, World.setCells]
  rw [heap_setCell_same _ _ _ _ _ _ (heap_setCell_same _ _ _ _ _ _ (heap_setCell_same _ _ _ _ _ _ h2))]
  rfl

theorem Fm.th (w : World) (k p : Int) : World.there ((w.alloc (.cells #[.int .i64 k, .int .i64 p] 44)).alloc (.cells #[.nilFunc, .nilFunc, .nilFunc] 77)) (w.heap.size + 1) 0 fns.length := fun j hj => by
  have h2 : ((w.alloc (.cells #[.int .i64 k, .int .i64 p] 44)).alloc (.cells #[.nilFunc, .nilFunc, .nilFunc] 77)).heap[w.heap.size + 1]? = some (.cells #[.nilFunc, .nilFunc, .nilFunc] 77 (0, 0)) := by
    have := Blk_new (w.alloc (.cells #[.int .i64 k, .int .i64 p] 44)) #[.nilFunc, .nilFunc, .nilFunc] 77
    simpa using this
  rw [cell_of_row _ _ (0 + j) _ _ (0, 0) h2, frozen_of_row _ _ (0 + j) _ _ h2]
  refine ⟨?_, rfl⟩
  have hj3 : j < 3 := hj
  rw [Nat.zero_add, Array.getElem?_eq_getElem (by simpa using hj3)]
  rfl
set_option maxRecDepth 100000 in
set_option maxHeartbeats 1000000 in
theorem done_any (k p n : Int) (w : World) (hn : 0 ≤ n) : Calls Try.prog 22 #[.agg #[.int .i64 k, .int .i64 p], .int .i64 n] w (Gives w (.int .i64 (dnV k p n))) := by
  have HT := Lib.hid (Fm.th w k p)
  have HF0 := Lib.hid (Fm.new w k p)
  by_cases h0 : k < 0 ∨ 3 ≤ k
  · have hv : dnV k p n = 0 := by unfold dnV; rw [if_neg (by omega), if_neg (by omega)]
    rw [hv]
    clear hv
    by_cases h1 : k < 0
    · clear h0
      go_enter Try.func22, Try.ntmps22
      go_wp2_with (refine stN (fun w' => Hid (Fm w k p w')) 77 (.tmp 5) (.tmp 6) rfl rfl (w.heap.size + 1) 0 fns rfl rfl HT.out infFns fns_one HF0 ?_; intro wc HF; have c0 := cell_of_row wc _ 0 _ _ (0, 0) HF.out.fate; have c1 := cell_of_row wc _ 1 _ _ (0, 0) HF.out.fate; have d0 := cell_of_row wc _ 0 _ _ (0, 0) HF.out.fn; have d1 := cell_of_row wc _ 1 _ _ (0, 0) HF.out.fn; have d2 := cell_of_row wc _ 2 _ _ (0, 0) HF.out.fn; simp [fns] at c0 c1 d0 d1 d2)
      refine (none_any _ p n _).mono ?_
      rintro e w1 ⟨rfl, hb⟩
      have HB := Lib.hid (HF.out.below.trans (hb.mono HF.out.below.size))
      clear hb HF
      go_wp2_with fail
      go_ret
      exact ⟨rfl, HB.out⟩
    · have h2 : 3 ≤ k := by omega
      clear h0
      go_enter Try.func22, Try.ntmps22
      go_wp2_with (refine stN (fun w' => Hid (Fm w k p w')) 77 (.tmp 5) (.tmp 6) rfl rfl (w.heap.size + 1) 0 fns rfl rfl HT.out infFns fns_one HF0 ?_; intro wc HF; have c0 := cell_of_row wc _ 0 _ _ (0, 0) HF.out.fate; have c1 := cell_of_row wc _ 1 _ _ (0, 0) HF.out.fate; have d0 := cell_of_row wc _ 0 _ _ (0, 0) HF.out.fn; have d1 := cell_of_row wc _ 1 _ _ (0, 0) HF.out.fn; have d2 := cell_of_row wc _ 2 _ _ (0, 0) HF.out.fn; simp [fns] at c0 c1 d0 d1 d2)
      refine (none_any _ p n _).mono ?_
      rintro e w1 ⟨rfl, hb⟩
      have HB := Lib.hid (HF.out.below.trans (hb.mono HF.out.below.size))
      clear hb HF
      go_wp2_with fail
      go_ret
      exact ⟨rfl, HB.out⟩
  · have hk : k = 0 ∨ k = 1 ∨ k = 2 := by omega
    clear h0
    rcases hk with rfl | rfl | rfl
    · show Calls Try.prog 22 #[.agg #[.int .i64 0, .int .i64 p], .int .i64 n] w (Gives w (.int .i64 0))
      go_enter Try.func22, Try.ntmps22
      go_wp2_with (refine stN (fun w' => Hid (Fm w 0 p w')) 77 (.tmp 5) (.tmp 6) rfl rfl (w.heap.size + 1) 0 fns rfl rfl HT.out infFns fns_one HF0 ?_; intro wc HF; have c0 := cell_of_row wc _ 0 _ _ (0, 0) HF.out.fate; have c1 := cell_of_row wc _ 1 _ _ (0, 0) HF.out.fate; have d0 := cell_of_row wc _ 0 _ _ (0, 0) HF.out.fn; have d1 := cell_of_row wc _ 1 _ _ (0, 0) HF.out.fn; have d2 := cell_of_row wc _ 2 _ _ (0, 0) HF.out.fn; simp [fns] at c0 c1 d0 d1 d2)
      go_region_with (go_at_call 39; (with_reducible refine (none_any 0 p n _).mono ?_); rintro e w1 ⟨rfl, hb⟩; have HB := Lib.hid (HF.out.below.drew.trans (hb.mono HF.out.below.size)); clear hb)
      all_goals
        go_wp2_with fail
        go_ret
        exact ⟨rfl, HB.out⟩
    · show Calls Try.prog 22 #[.agg #[.int .i64 1, .int .i64 p], .int .i64 n] w (Gives w (.int .i64 n))
      go_enter Try.func22, Try.ntmps22
      go_wp2_with (refine stN (fun w' => Hid (Fm w 1 p w')) 77 (.tmp 5) (.tmp 6) rfl rfl (w.heap.size + 1) 0 fns rfl rfl HT.out infFns fns_one HF0 ?_; intro wc HF; have c0 := cell_of_row wc _ 0 _ _ (0, 0) HF.out.fate; have c1 := cell_of_row wc _ 1 _ _ (0, 0) HF.out.fate; have d0 := cell_of_row wc _ 0 _ _ (0, 0) HF.out.fn; have d1 := cell_of_row wc _ 1 _ _ (0, 0) HF.out.fn; have d2 := cell_of_row wc _ 2 _ _ (0, 0) HF.out.fn; simp [fns] at c0 c1 d0 d1 d2)
      go_region_with (go_at_call 40; (with_reducible refine (all_any 1 p n _).mono ?_); rintro e w1 ⟨rfl, hb⟩; have HB := Lib.hid (HF.out.below.drew.trans (hb.mono HF.out.below.size)); clear hb)
      all_goals
        go_wp2_with fail
        go_ret
        exact ⟨rfl, HB.out⟩
    · show Calls Try.prog 22 #[.agg #[.int .i64 2, .int .i64 p], .int .i64 n] w (Gives w (.int .i64 (if p < 0 then 0 else if n < p then n else p)))
      have HC := Lib.hid (fun W => first_any 2 p n W hn)
      obtain ⟨v, hv⟩ : ∃ z, (if p < 0 then 0 else if n < p then n else p) = z := ⟨_, rfl⟩
      rw [hv] at HC ⊢
      clear hv
      go_enter Try.func22, Try.ntmps22
      go_wp2_with (refine stN (fun w' => Hid (Fm w 2 p w')) 77 (.tmp 5) (.tmp 6) rfl rfl (w.heap.size + 1) 0 fns rfl rfl HT.out infFns fns_one HF0 ?_; intro wc HF; have c0 := cell_of_row wc _ 0 _ _ (0, 0) HF.out.fate; have c1 := cell_of_row wc _ 1 _ _ (0, 0) HF.out.fate; have d0 := cell_of_row wc _ 0 _ _ (0, 0) HF.out.fn; have d1 := cell_of_row wc _ 1 _ _ (0, 0) HF.out.fn; have d2 := cell_of_row wc _ 2 _ _ (0, 0) HF.out.fn; simp [fns] at c0 c1 d0 d1 d2)
      go_region_with (go_at_call 41; (with_reducible refine (HC.out _).mono ?_); rintro e w1 ⟨rfl, hb⟩; have HB := Lib.hid (HF.out.below.drew.trans (hb.mono HF.out.below.size)); clear hb)
      all_goals
        go_wp2_with fail
        go_ret
        exact ⟨rfl, HB.out⟩
end Go.Proofs.Ytbghdlgfpfeaeaa

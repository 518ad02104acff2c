/-
  The contract of a write's lay. Conditions: places that are no less than 0. (Made by gen_dklay.py.)
-/
import Derived.Test.YtbghdlgfpfeaeaaDkLay
import Derived.Deep.RegionHeld3
namespace Go.Proofs.Ytbghdlgfpfeaeaa
open Go.RowKit

theorem tk {P : Program} {md : Region.Mode} {ops : Array Oper} {Q : Exit → Act → World → Prop} {S : World → Prop} (i d : Nat) (v : Value) {oi : Oper} {fuel : Nat} {listed : Array Bool} {a : Act} {w : World} (hi : ops[i]? = some oi) (hd : oi.dst = some d)
    (hs : Region.noSelect ops = true) (hf : Region.free md ops listed i = true) (hr : (Region.ready md ops listed).contains i = true)
    (hQ : ∀ c a w, Q (.panic c) (a.put (some d) v) w → Q (.panic c) a w) (hy : YieldsIf P ops S oi v a) (hS : S w)
    (h : wpAnyH P md ops Q S fuel (listed.setIfInBounds i true) (a.put (some d) v) w) : wpAnyH P md ops Q S (fuel + 1) listed a w :=
  wpAnyH_take hi hs hf hr (by rw [hd]; exact hQ) hy hS (by rw [hd]; exact h)
theorem wp_copy_run {P : Program} {o : Oper} {a : Act} {w w' : World} {K : Act → World → Prop} {Q : Exit → Act → World → Prop} {v : Value} (d s : Operand) (dT sT : TypeId) (ho : o.op = .call { callee := .builtin .copy, args := #[d, s], argTypes := #[dT, sT] }) (vd vs : Value) (hd : a.eval d = vd) (hs : a.eval s = vs)
    (hr : (Builtin.copy_ #[dT, sT] o.type #[vd, vs]).run P w = .ok v w') (h : K (a.put o.dst v) w') : o.wp P a w K Q := by
  unfold Oper.wp execOp
  simp only [ho, resolve, invoke, builtin, Sem.run_bind, Sem.run_pure, Result.andThen_ok, List.map_toArray, List.map_cons, List.map_nil, hd, hs, hr]
  exact h

set_option maxRecDepth 100000 in
set_option maxHeartbeats 1000000 in
/-- Where both do not meet, nothing is done. -/
theorem lay_far (x : Uw) (m mc : Nat) (pa : Option Addr) (f : Int) (w : World) (hp0 : 0 ≤ x.at_) (hp1 : x.at_ ≤ 9223372036854775807) (hf0 : 0 ≤ f) (hf1 : f ≤ 9223372036854775807) (h0 : m ≤ (x.at_ - f).toNat ∨ x.n ≤ (f - x.at_).toNat) :
    Calls Try.prog 21 #[x.v, .slice pa m mc, .int .i64 f] w (Gives w (.tuple #[])) := by
  obtain ⟨p, a, n, c, d⟩ := x
  simp only at hp0 hp1 h0
  show Calls Try.prog 21 #[.agg #[.int .i64 p, .slice a n c], .slice pa m mc, .int .i64 f] w _
  have e1 : IntKind.i64.wrap (p - f) = p - f := by rw [IntKind.wrap_i64]; omega
  have e2 : IntKind.i64.wrap (f - p) = f - p := by rw [IntKind.wrap_i64]; omega
  obtain ⟨b, hb⟩ : ∃ z, (p - f).toNat = z := ⟨_, rfl⟩
  obtain ⟨h, hh⟩ : ∃ z, (f - p).toNat = z := ⟨_, rfl⟩
  have e3 : (if p - f < 0 then 0 else p - f) = (b : Int) := by split <;> omega
  have e4 : (if f - p < 0 then 0 else f - p) = (h : Int) := by split <;> omega
  have E1 := Lib.hid e1
  have E2 := Lib.hid e2
  have E3 := Lib.hid e3
  have E4 := Lib.hid e4
  clear e1 e2 e3 e4
  rw [hb, hh] at h0
  clear hp0 hp1 hf0 hf1 hb hh
  go_enter Try.func21, Try.ntmps21
  go_wp2_with fail
  have HW : Hid (Below w.heap.size w (w.alloc (.cells #[.int .i64 p, .slice a n c] 46)) ∧ (w.alloc (.cells #[.int .i64 p, .slice a n c] 46)).heap[w.heap.size]? = some (.cells #[.int .i64 p, .slice a n c] 46 (0, 0))) := ⟨(Below.refl _ _).alloc (Nat.le_refl _) _, Blk_new w _ _⟩
  obtain ⟨w1, hw1⟩ : ∃ z, w.alloc (.cells #[.int .i64 p, .slice a n c] 46) = z := ⟨_, rfl⟩
  rw [hw1] at HW ⊢
  clear hw1
  have HS : Hid (Below w.heap.size w w1.drew ∧ w1.drew.heap[w.heap.size]? = some (.cells #[.int .i64 p, .slice a n c] 46 (0, 0))) := ⟨HW.out.1.drew, HW.out.2⟩
  refine wp_region_held_drew (S := fun w' => Below w.heap.size w w' ∧ w'.heap[w.heap.size]? = some (.cells #[.int .i64 p, .slice a n c] 46 (0, 0))) (by kernel_rfl) HS.out (fun hS => ?_)
  refine tk 0 8 (.pointer (some ⟨w.heap.size, 0, none⟩)) rfl rfl (by kernel_rfl) (by kernel_rfl) (by kernel_rfl) (fun _ _ _ h => h) (Or.inl ⟨by rfl, fun w' h' => ?_⟩) hS ?_
  · go_simp
  try simp only [Act.put, List.setIfInBounds_toArray, List.set_cons_zero, List.set_cons_succ]
  refine tk 1 9 (.int .i64 p) rfl rfl (by kernel_rfl) (by kernel_rfl) (by kernel_rfl) (fun _ _ _ h => h) (Or.inl ⟨by rfl, fun w' h' => ?_⟩) hS ?_
  · have c0 := cell_of_row w' _ 0 _ _ (0, 0) h'.2
    simp at c0
    go_simp
  try simp only [Act.put, List.setIfInBounds_toArray, List.set_cons_zero, List.set_cons_succ]
  refine tk 2 10 (.int .i64 f) rfl rfl (by kernel_rfl) (by kernel_rfl) (by kernel_rfl) (fun _ _ _ h => h) (Or.inl ⟨by rfl, fun w' h' => ?_⟩) hS ?_
  · go_simp
  try simp only [Act.put, List.setIfInBounds_toArray, List.set_cons_zero, List.set_cons_succ]
  refine tk 3 11 (.int .i64 (p - f)) rfl rfl (by kernel_rfl) (by kernel_rfl) (by kernel_rfl) (fun _ _ _ h => h) (Or.inl ⟨by rfl, fun w' h' => ?_⟩) hS ?_
  · have e1 := E1.out
    go_simp
  try simp only [Act.put, List.setIfInBounds_toArray, List.set_cons_zero, List.set_cons_succ]
  refine tk 4 12 (.int .i64 (b : Int)) rfl rfl (by kernel_rfl) (by kernel_rfl) (by kernel_rfl) (fun _ _ _ h => h) (Or.inl ⟨by rfl, fun w' h' => ?_⟩) hS ?_
  · have e3 := E3.out
    go_simp
  try simp only [Act.put, List.setIfInBounds_toArray, List.set_cons_zero, List.set_cons_succ]
  refine tk 5 13 (.int .i64 f) rfl rfl (by kernel_rfl) (by kernel_rfl) (by kernel_rfl) (fun _ _ _ h => h) (Or.inl ⟨by rfl, fun w' h' => ?_⟩) hS ?_
  · go_simp
  try simp only [Act.put, List.setIfInBounds_toArray, List.set_cons_zero, List.set_cons_succ]
  refine tk 6 14 (.pointer (some ⟨w.heap.size, 0, none⟩)) rfl rfl (by kernel_rfl) (by kernel_rfl) (by kernel_rfl) (fun _ _ _ h => h) (Or.inl ⟨by rfl, fun w' h' => ?_⟩) hS ?_
  · go_simp
  try simp only [Act.put, List.setIfInBounds_toArray, List.set_cons_zero, List.set_cons_succ]
  refine tk 7 15 (.int .i64 p) rfl rfl (by kernel_rfl) (by kernel_rfl) (by kernel_rfl) (fun _ _ _ h => h) (Or.inl ⟨by rfl, fun w' h' => ?_⟩) hS ?_
  · have c0 := cell_of_row w' _ 0 _ _ (0, 0) h'.2
    simp at c0
    go_simp
  try simp only [Act.put, List.setIfInBounds_toArray, List.set_cons_zero, List.set_cons_succ]
  refine tk 8 16 (.int .i64 (f - p)) rfl rfl (by kernel_rfl) (by kernel_rfl) (by kernel_rfl) (fun _ _ _ h => h) (Or.inl ⟨by rfl, fun w' h' => ?_⟩) hS ?_
  · have e2 := E2.out
    go_simp
  try simp only [Act.put, List.setIfInBounds_toArray, List.set_cons_zero, List.set_cons_succ]
  refine tk 9 17 (.int .i64 (h : Int)) rfl rfl (by kernel_rfl) (by kernel_rfl) (by kernel_rfl) (fun _ _ _ h => h) (Or.inl ⟨by rfl, fun w' h' => ?_⟩) hS ?_
  · have e4 := E4.out
    go_simp
  try simp only [Act.put, List.setIfInBounds_toArray, List.set_cons_zero, List.set_cons_succ]
  refine tk 10 6 (.int .i64 (b : Int)) rfl rfl (by kernel_rfl) (by kernel_rfl) (by kernel_rfl) (fun _ _ _ h => h) (Or.inl ⟨by rfl, fun w' h' => ?_⟩) hS ?_
  · go_simp
  try simp only [Act.put, List.setIfInBounds_toArray, List.set_cons_zero, List.set_cons_succ]
  refine tk 11 7 (.int .i64 (h : Int)) rfl rfl (by kernel_rfl) (by kernel_rfl) (by kernel_rfl) (fun _ _ _ h => h) (Or.inl ⟨by rfl, fun w' h' => ?_⟩) hS ?_
  · go_simp
  refine wpAnyH_done (by kernel_rfl) ?_ _
  have c1 := cell_of_row w1 _ 1 _ _ (0, 0) HW.out.2
  simp at c1
  by_cases h1 : m ≤ b
  · have i1 : ¬ (b : Int) < (m : Int) := by omega
    clear h0 h1
    go_wp2_with fail
    go_end0
    exact ⟨rfl, HW.out.1.drew⟩
  · have i1 : (b : Int) < (m : Int) := by omega
    have i2 : ¬ (h : Int) < (n : Int) := by omega
    clear h0 h1
    go_wp2_with fail
    go_end0
    exact ⟨rfl, HW.out.1.drew⟩

set_option maxRecDepth 100000 in
set_option maxHeartbeats 1000000 in
theorem lay_near (x : Uw) (m mc base g : Nat) (xs : List Int) (f : Int) (w : World) (hx : x.lies w) (hxc : x.n ≤ x.c) (hxm : x.c ≤ maxLen) (hp0 : 0 ≤ x.at_) (hp1 : x.at_ ≤ 9223372036854775807) (hf0 : 0 ≤ f) (hf1 : f ≤ 9223372036854775807) (hg : Own w base (some ⟨g, 0, none⟩) m mc xs)
    (h0 : (x.at_ - f).toNat < m) (h1 : (f - x.at_).toNat < x.n) :
    Calls Try.prog 21 #[x.v, .slice (some ⟨g, 0, none⟩) m mc, .int .i64 f] w fun e w' => e = .returned (.tuple #[]) ∧ Own w' base (some ⟨g, 0, none⟩) m mc (layL xs x.d x.at_ f) ∧ Kept (fun k => k = g) w w' := by
  obtain ⟨p, a, n, c, d⟩ := x
  simp only at hp0 hp1 h0 h1 hxc hxm ⊢
  show Calls Try.prog 21 #[.agg #[.int .i64 p, .slice a n c], .slice (some ⟨g, 0, none⟩) m mc, .int .i64 f] w _
  have e1 : IntKind.i64.wrap (p - f) = p - f := by rw [IntKind.wrap_i64]; omega
  have e2 : IntKind.i64.wrap (f - p) = f - p := by rw [IntKind.wrap_i64]; omega
  obtain ⟨b, hb⟩ : ∃ z, (p - f).toNat = z := ⟨_, rfl⟩
  obtain ⟨h, hh⟩ : ∃ z, (f - p).toNat = z := ⟨_, rfl⟩
  have e3 : (if p - f < 0 then 0 else p - f) = (b : Int) := by split <;> omega
  have e4 : (if f - p < 0 then 0 else f - p) = (h : Int) := by split <;> omega
  have E1 := Lib.hid e1
  have E2 := Lib.hid e2
  have E3 := Lib.hid e3
  have E4 := Lib.hid e4
  clear e1 e2 e3 e4
  have HLY : Hid (layL xs d p f = xs.take b ++ (d.drop h).take (m - b) ++ xs.drop (b + ((d.drop h).take (m - b)).length)) := by
    show layL xs d p f = _
    unfold layL
    rw [hb, hh, hg.len]
  have hmx := hg.le
  rw [hb] at h0
  rw [hh] at h1
  have hln : d.length = n := hx.len
  obtain ⟨r, q, ea, hcc⟩ := hx.rd (by intro e; have e' : d = [] := e; rw [e'] at hln; simp at hln; omega)
  simp only at ea
  subst ea
  have HD : Hid (Rd w (some ⟨r, q + h, none⟩) (d.drop h) ∧ (d.drop h).length = n - h) := ⟨hx.rd.dropped (by show h ≤ d.length; omega), by simp; omega⟩
  have HSA := Lib.hid (fun W => run_from_bytes W g 0 m mc b (by omega) hmx.1 hmx.2 h0)
  have HSB := Lib.hid (fun W => run_from_bytes W r q n c h (by omega) hxc hxm h1)
  simp only [Nat.zero_add] at HSA
  have HG := Lib.hid hg
  have HLT : Hid (g < w.heap.size) := (hg.blk_ge g rfl).2
  have HI : Hid (b < m ∧ h < n) := ⟨h0, h1⟩
  have i1 : (b : Int) < (m : Int) := by omega
  have i2 : (h : Int) < (n : Int) := by omega
  clear hp0 hp1 hf0 hf1 hb hh hx hcc hg hmx hxc hxm h0 h1
  go_enter Try.func21, Try.ntmps21
  go_wp2_with fail
  have HW : Hid (Below w.heap.size w (w.alloc (.cells #[.int .i64 p, .slice (some ⟨r, q, none⟩) n c] 46)) ∧ (w.alloc (.cells #[.int .i64 p, .slice (some ⟨r, q, none⟩) n c] 46)).heap[w.heap.size]? = some (.cells #[.int .i64 p, .slice (some ⟨r, q, none⟩) n c] 46 (0, 0))) := ⟨(Below.refl _ _).alloc (Nat.le_refl _) _, Blk_new w _ _⟩
  obtain ⟨w1, hw1⟩ : ∃ z, w.alloc (.cells #[.int .i64 p, .slice (some ⟨r, q, none⟩) n c] 46) = z := ⟨_, rfl⟩
  rw [hw1] at HW ⊢
  clear hw1
  have HS : Hid (Below w.heap.size w w1.drew ∧ w1.drew.heap[w.heap.size]? = some (.cells #[.int .i64 p, .slice (some ⟨r, q, none⟩) n c] 46 (0, 0))) := ⟨HW.out.1.drew, HW.out.2⟩
  refine wp_region_held_drew (S := fun w' => Below w.heap.size w w' ∧ w'.heap[w.heap.size]? = some (.cells #[.int .i64 p, .slice (some ⟨r, q, none⟩) n c] 46 (0, 0))) (by kernel_rfl) HS.out (fun hS => ?_)
  refine tk 0 8 (.pointer (some ⟨w.heap.size, 0, none⟩)) rfl rfl (by kernel_rfl) (by kernel_rfl) (by kernel_rfl) (fun _ _ _ h => h) (Or.inl ⟨by rfl, fun w' h' => ?_⟩) hS ?_
  · go_simp
  try simp only [Act.put, List.setIfInBounds_toArray, List.set_cons_zero, List.set_cons_succ]
  refine tk 1 9 (.int .i64 p) rfl rfl (by kernel_rfl) (by kernel_rfl) (by kernel_rfl) (fun _ _ _ h => h) (Or.inl ⟨by rfl, fun w' h' => ?_⟩) hS ?_
  · have c0 := cell_of_row w' _ 0 _ _ (0, 0) h'.2
    simp at c0
    go_simp
  try simp only [Act.put, List.setIfInBounds_toArray, List.set_cons_zero, List.set_cons_succ]
  refine tk 2 10 (.int .i64 f) rfl rfl (by kernel_rfl) (by kernel_rfl) (by kernel_rfl) (fun _ _ _ h => h) (Or.inl ⟨by rfl, fun w' h' => ?_⟩) hS ?_
  · go_simp
  try simp only [Act.put, List.setIfInBounds_toArray, List.set_cons_zero, List.set_cons_succ]
  refine tk 3 11 (.int .i64 (p - f)) rfl rfl (by kernel_rfl) (by kernel_rfl) (by kernel_rfl) (fun _ _ _ h => h) (Or.inl ⟨by rfl, fun w' h' => ?_⟩) hS ?_
  · have e1 := E1.out
    go_simp
  try simp only [Act.put, List.setIfInBounds_toArray, List.set_cons_zero, List.set_cons_succ]
  refine tk 4 12 (.int .i64 (b : Int)) rfl rfl (by kernel_rfl) (by kernel_rfl) (by kernel_rfl) (fun _ _ _ h => h) (Or.inl ⟨by rfl, fun w' h' => ?_⟩) hS ?_
  · have e3 := E3.out
    go_simp
  try simp only [Act.put, List.setIfInBounds_toArray, List.set_cons_zero, List.set_cons_succ]
  refine tk 5 13 (.int .i64 f) rfl rfl (by kernel_rfl) (by kernel_rfl) (by kernel_rfl) (fun _ _ _ h => h) (Or.inl ⟨by rfl, fun w' h' => ?_⟩) hS ?_
  · go_simp
  try simp only [Act.put, List.setIfInBounds_toArray, List.set_cons_zero, List.set_cons_succ]
  refine tk 6 14 (.pointer (some ⟨w.heap.size, 0, none⟩)) rfl rfl (by kernel_rfl) (by kernel_rfl) (by kernel_rfl) (fun _ _ _ h => h) (Or.inl ⟨by rfl, fun w' h' => ?_⟩) hS ?_
  · go_simp
  try simp only [Act.put, List.setIfInBounds_toArray, List.set_cons_zero, List.set_cons_succ]
  refine tk 7 15 (.int .i64 p) rfl rfl (by kernel_rfl) (by kernel_rfl) (by kernel_rfl) (fun _ _ _ h => h) (Or.inl ⟨by rfl, fun w' h' => ?_⟩) hS ?_
  · have c0 := cell_of_row w' _ 0 _ _ (0, 0) h'.2
    simp at c0
    go_simp
  try simp only [Act.put, List.setIfInBounds_toArray, List.set_cons_zero, List.set_cons_succ]
  refine tk 8 16 (.int .i64 (f - p)) rfl rfl (by kernel_rfl) (by kernel_rfl) (by kernel_rfl) (fun _ _ _ h => h) (Or.inl ⟨by rfl, fun w' h' => ?_⟩) hS ?_
  · have e2 := E2.out
    go_simp
  try simp only [Act.put, List.setIfInBounds_toArray, List.set_cons_zero, List.set_cons_succ]
  refine tk 9 17 (.int .i64 (h : Int)) rfl rfl (by kernel_rfl) (by kernel_rfl) (by kernel_rfl) (fun _ _ _ h => h) (Or.inl ⟨by rfl, fun w' h' => ?_⟩) hS ?_
  · have e4 := E4.out
    go_simp
  try simp only [Act.put, List.setIfInBounds_toArray, List.set_cons_zero, List.set_cons_succ]
  refine tk 10 6 (.int .i64 (b : Int)) rfl rfl (by kernel_rfl) (by kernel_rfl) (by kernel_rfl) (fun _ _ _ h => h) (Or.inl ⟨by rfl, fun w' h' => ?_⟩) hS ?_
  · go_simp
  try simp only [Act.put, List.setIfInBounds_toArray, List.set_cons_zero, List.set_cons_succ]
  refine tk 11 7 (.int .i64 (h : Int)) rfl rfl (by kernel_rfl) (by kernel_rfl) (by kernel_rfl) (fun _ _ _ h => h) (Or.inl ⟨by rfl, fun w' h' => ?_⟩) hS ?_
  · go_simp
  refine wpAnyH_done (by kernel_rfl) ?_ _
  have c1 := cell_of_row w1 _ 1 _ _ (0, 0) HW.out.2
  simp at c1
  go_wp2_with fail
  have HS : Hid (w1.drew.drew.heap[w.heap.size]? = some (.cells #[.int .i64 p, .slice (some ⟨r, q, none⟩) n c] 46 (0, 0))) := HW.out.2
  refine wp_region_held_drew (S := fun w' => w'.heap[w.heap.size]? = some (.cells #[.int .i64 p, .slice (some ⟨r, q, none⟩) n c] 46 (0, 0))) (by kernel_rfl) HS.out (fun hS => ?_)
  refine tk 0 29 (.slice (some ⟨g, 0, none⟩) m mc) rfl rfl (by kernel_rfl) (by kernel_rfl) (by kernel_rfl) (fun _ _ _ h => h) (Or.inl ⟨by rfl, fun w' h' => ?_⟩) hS ?_
  · go_simp
  try simp only [Act.put, List.setIfInBounds_toArray, List.set_cons_zero, List.set_cons_succ]
  refine tk 1 30 (.int .i64 (b : Int)) rfl rfl (by kernel_rfl) (by kernel_rfl) (by kernel_rfl) (fun _ _ _ h => h) (Or.inl ⟨by rfl, fun w' h' => ?_⟩) hS ?_
  · go_simp
  try simp only [Act.put, List.setIfInBounds_toArray, List.set_cons_zero, List.set_cons_succ]
  refine tk 2 31 (.slice (some ⟨g, b, none⟩) (m - b) (mc - b)) rfl rfl (by kernel_rfl) (by kernel_rfl) (by kernel_rfl) (fun _ _ _ h => h) (Or.inl ⟨by rfl, fun w' h' => ?_⟩) hS ?_
  · have hs := HSA.out w'
    go_simp
  try simp only [Act.put, List.setIfInBounds_toArray, List.set_cons_zero, List.set_cons_succ]
  refine tk 3 32 (.pointer (some ⟨w.heap.size, 1, none⟩)) rfl rfl (by kernel_rfl) (by kernel_rfl) (by kernel_rfl) (fun _ _ _ h => h) (Or.inl ⟨by rfl, fun w' h' => ?_⟩) hS ?_
  · go_simp
  try simp only [Act.put, List.setIfInBounds_toArray, List.set_cons_zero, List.set_cons_succ]
  refine tk 4 33 (.slice (some ⟨r, q, none⟩) n c) rfl rfl (by kernel_rfl) (by kernel_rfl) (by kernel_rfl) (fun _ _ _ h => h) (Or.inl ⟨by rfl, fun w' h' => ?_⟩) hS ?_
  · have c1 := cell_of_row w' _ 1 _ _ (0, 0) h'
    simp at c1
    go_simp
  try simp only [Act.put, List.setIfInBounds_toArray, List.set_cons_zero, List.set_cons_succ]
  refine tk 5 34 (.int .i64 (h : Int)) rfl rfl (by kernel_rfl) (by kernel_rfl) (by kernel_rfl) (fun _ _ _ h => h) (Or.inl ⟨by rfl, fun w' h' => ?_⟩) hS ?_
  · go_simp
  try simp only [Act.put, List.setIfInBounds_toArray, List.set_cons_zero, List.set_cons_succ]
  refine tk 6 35 (.slice (some ⟨r, q + h, none⟩) (n - h) (c - h)) rfl rfl (by kernel_rfl) (by kernel_rfl) (by kernel_rfl) (fun _ _ _ h => h) (Or.inl ⟨by rfl, fun w' h' => ?_⟩) hS ?_
  · have hs := HSB.out w'
    go_simp
  try simp only [Act.put, List.setIfInBounds_toArray, List.set_cons_zero, List.set_cons_succ]
  refine wpAnyH_ready (rs := [7]) (by kernel_rfl) (by simp) (AllReadyH.cons rfl (fun K hK => ?_) AllReadyH.nil)
  rw [if_pos (by rfl)]
  obtain ⟨k, w2, hrun, ho2, hk2⟩ := run_copy_own w1.drew.drew (HG.out.keep (S := fun _ => False) (Kept.of_below HW.out.1.drew.drew (fun i hi hi2 => by omega)) (fun _ _ => id)) b (mc - b) (by have := HI.out; omega) (n := n - h) (c := c - h) HD.out.2 (HD.out.1.below HW.out.1.drew.drew) (by have := HI.out; omega)
  refine wp_copy_run (.tmp 31) (.tmp 35) 31 31 rfl _ _ rfl rfl hrun ?_
  have H2 : Hid (Own w2 base (some ⟨g, 0, none⟩) m mc (layL xs d p f) ∧ Kept (fun k => k = g) w w2) := ⟨by rw [HLY.out]; exact ho2, (Kept.of_below (S := fun k => k = g) HW.out.1.drew.drew (fun i hi hi2 => by omega)).trans hk2 (fun _ _ e => e)⟩
  change K (Act.put _ (some 36) (.int .i64 k)) _
  have HK2 : Hid (w2.heap[w.heap.size]? = some (.cells #[.int .i64 p, .slice (some ⟨r, q, none⟩) n c] 46 (0, 0))) := hk2.heap HW.out.2 (fun e => by have := HLT.out; omega)
  clear hrun ho2 hk2
  clear hS
  refine hK.out _ _ ?_ (fun hS => ?_)
  · exact HK2.out
  clear hK K
  refine wpAnyH_done (by kernel_rfl) ?_ _
  go_wp2_with fail
  go_end0
  exact ⟨rfl, H2.out⟩

theorem lay_any (x : Uw) (m mc base : Nat) (pa : Option Addr) (xs : List Int) (f : Int) (w : World) (hx : x.lies w) (hxc : x.n ≤ x.c) (hxm : x.c ≤ maxLen) (hp0 : 0 ≤ x.at_) (hp1 : x.at_ ≤ 9223372036854775807) (hf0 : 0 ≤ f) (hf1 : f ≤ 9223372036854775807) (hg : Own w base pa m mc xs) :
    Calls Try.prog 21 #[x.v, .slice pa m mc, .int .i64 f] w fun e w' => e = .returned (.tuple #[]) ∧ Own w' base pa m mc (layL xs x.d x.at_ f) ∧ Kept (fun k => blk pa = some k) w w' := by
  by_cases h0 : m ≤ (x.at_ - f).toNat ∨ x.n ≤ (f - x.at_).toNat
  · refine (lay_far x m mc pa f w hp0 hp1 hf0 hf1 h0).mono ?_
    rintro e w1 ⟨rfl, hb⟩
    rw [layL_far _ _ _ _ (by rw [hg.len, hx.len]; exact h0)]
    exact ⟨rfl, hg.keep (S := fun _ => False) (Kept.of_below hb (fun i hi hi2 => by omega)) (fun _ _ => id), Kept.of_below hb (fun i hi hi2 => by omega)⟩
  · obtain ⟨g, cur, rfl, hr⟩ := hg.cases.resolve_left (by rintro ⟨_, h, _⟩; omega)
    refine (lay_near x m mc base g xs f w hx hxc hxm hp0 hp1 hf0 hf1 hg (by omega) (by omega)).mono ?_
    rintro e w1 ⟨rfl, ho, hk⟩
    exact ⟨rfl, ho, hk.mono (fun i _ e => by rw [e]; rfl)⟩
end Go.Proofs.Ytbghdlgfpfeaeaa

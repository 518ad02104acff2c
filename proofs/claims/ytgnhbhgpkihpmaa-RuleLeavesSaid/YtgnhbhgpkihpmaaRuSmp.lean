/-
  The contract of the statements' own sample. Conditions: none.
-/
import Derived.Test.YtgnhbhgpkihpmaaRuFour
namespace Go.Proofs.Ytgnhbhgpkihpmaa
open Go.RowKit

/-- The chapter's rules, and what the second one is on its way. -/
def rA : Rl := { any0 with p := 6, dl := 80, dh := 81, c := 1 }
def rB0 : Rl := { any0 with s6 := false, sx := fourL 10 0 0 0, sn := 8 }
def rB : Rl := { rB0 with dy := true }
theorem fourL_byt {a b c d : Int} (h : (0 ≤ a ∧ a < 256) ∧ (0 ≤ b ∧ b < 256) ∧ (0 ≤ c ∧ c < 256) ∧ (0 ≤ d ∧ d < 256)) : Byt (fourL a b c d) := fun x hx => by
  simp only [fourL, List.mem_cons, List.not_mem_nil, or_false] at hx
  omega
theorem rA_ok : rA.ok := ⟨any0_ok.sx, any0_ok.sb, any0_ok.dx, any0_ok.db, by decide, by decide, by decide, by decide⟩
theorem rB0_ok : rB0.ok := ⟨rfl, fourL_byt (by decide), any0_ok.dx, any0_ok.db, by decide, by decide, by decide, by decide⟩
theorem rB_ok : rB.ok := ⟨rfl, fourL_byt (by decide), any0_ok.dx, any0_ok.db, by decide, by decide, by decide, by decide⟩
/-- Cells are stored amid others. -/
theorem range_put {w : World} {b : Nat} {cs vs : List Value} {j : Nat} (h : w.rangeAt b 0 cs) (hj : j + vs.length ≤ cs.length) : (w.setCells b j vs).rangeAt b 0 (cs.take j ++ (vs ++ cs.drop (j + vs.length))) := fun i u hu => by
  have hi : (cs.take j).length = j := by rw [List.length_take]; omega
  rw [Nat.zero_add]
  by_cases h1 : j ≤ i ∧ i < j + vs.length
  · rw [List.getElem?_append_right (by omega), hi, List.getElem?_append_left (by omega)] at hu
    have h2 := World.cell?_setCells_in b vs j w (fun q hq => by
      have := h (j + q) _ (List.getElem?_eq_getElem (show j + q < cs.length by omega))
      rw [Nat.zero_add] at this
      rw [this]; rfl) (i - j) (by omega)
    rw [show j + (i - j) = i by omega] at h2
    rw [h2, ← hu, List.getElem?_eq_getElem (by omega)]
  · rw [World.cell?_setCells_out b vs j w ⟨b, i, none⟩ (fun _ _ => by simp only; omega)]
    have h3 := h i
    rw [Nat.zero_add] at h3
    refine h3 u ?_
    rcases Nat.lt_or_ge i j with h4 | h4
    · rw [List.getElem?_append_left (by omega), List.getElem?_take, if_pos h4] at hu
      exact hu
    · rw [List.getElem?_append_right (by omega), hi, List.getElem?_append_right (by omega), List.getElem?_drop] at hu
      rwa [show j + vs.length + (i - j - vs.length) = i by omega] at hu
/-- The two rules on their way. -/
structure Sm (w wr : World) (gA gB : Nat) (r s : Rl) : Prop where
  rng : wr.rangeAt gA 0 r.cs
  rng2 : wr.rangeAt gB 0 s.cs
  th : wr.there gA 0 44
  th2 : wr.there gB 0 44
  below : Below w.heap.size w wr
  geA : w.heap.size ≤ gA
  lt : gA < gB
theorem Sm.next {w wr w' : World} {gA gB : Nat} {r s : Rl} (h : Sm w wr gA gB r s) (hb : Below wr.heap.size wr w') : Sm w w' gA gB r s :=
  ⟨range_kept hb h.rng, range_kept hb h.rng2, there_kept hb h.th, there_kept hb h.th2, h.below.trans (hb.mono h.below.size), h.geA, h.lt⟩
theorem rA_cs : (((any0.cs.set 1 (.int .i64 6)).set 40 (.int .u16 80)).set 41 (.int .u16 81)).set 43 (.int .i64 1) = rA.cs := by kernel_rfl
theorem rB_cs : rB0.cs.set 42 (.bool true) = rB.cs := by kernel_rfl
theorem rB0_cs : any0.cs.take 2 ++ (pfl false (fourL 10 0 0 0) 8 ++ any0.cs.drop (2 + (pfl false (fourL 10 0 0 0) 8).length)) = rB0.cs := by kernel_rfl
theorem four_sets (w : World) (g i j k m : Nat) (a b c d : Value) : Kept (fun x => x = g) w ((((w.setCell ⟨g, i, none⟩ a).setCell ⟨g, j, none⟩ b).setCell ⟨g, k, none⟩ c).setCell ⟨g, m, none⟩ d) :=
  ((((Kept.setCell (S := fun x => x = g) w ⟨g, i, none⟩ a rfl).trans (Kept.setCell (S := fun x => x = g) _ ⟨g, j, none⟩ b rfl) (fun _ _ h => h)).trans (Kept.setCell (S := fun x => x = g) _ ⟨g, k, none⟩ c rfl) (fun _ _ h => h)).trans (Kept.setCell (S := fun x => x = g) _ ⟨g, m, none⟩ d rfl) (fun _ _ h => h))
theorem there_set {w : World} {g n : Nat} (h : w.there g 0 n) (b o : Nat) (v : Value) : (w.setCell ⟨b, o, none⟩ v).there g 0 n := World.there_setCells h b o [v]
theorem Sm.first {w wk : World} {gA gB : Nat} (h : Sm w wk gA gB any0 any0) : Sm w ((((wk.setCell ⟨gA, 1, none⟩ (.int .i64 6)).setCell ⟨gA, 40, none⟩ (.int .u16 80)).setCell ⟨gA, 41, none⟩ (.int .u16 81)).setCell ⟨gA, 43, none⟩ (.int .i64 1)) gA gB rA any0 := by
  have hl := Rl.len any0_ok
  have hk := four_sets wk gA 1 40 41 43 (.int .i64 6) (.int .u16 80) (.int .u16 81) (.int .i64 1)
  have hlt := h.lt
  have h1 := range_set h.rng (j := 1) (by omega) (.int .i64 6)
  have h2 := range_set h1 (j := 40) (by rw [List.length_set]; omega) (.int .u16 80)
  have h3 := range_set h2 (j := 41) (by rw [List.length_set, List.length_set]; omega) (.int .u16 81)
  have h4 := range_set h3 (j := 43) (by rw [List.length_set, List.length_set, List.length_set]; omega) (.int .i64 1)
  rw [rA_cs] at h4
  refine ⟨by simpa using h4, range_keep hk (by omega) h.rng2, there_set (there_set (there_set (there_set h.th _ _ _) _ _ _) _ _ _) _ _ _, there_keep hk (by omega) h.th2, h.below.trans (hk.below h.below.size (fun k e => by have := h.geA; omega)), h.geA, h.lt⟩
theorem Sm.mid {w wk : World} {gA gB : Nat} (h : Sm w wk gA gB rA any0) : Sm w (wk.setCells gB 2 (pfl false (fourL 10 0 0 0) 8)) gA gB rA rB0 := by
  have hl := Rl.len any0_ok
  have hp := pfl_len false (fourL 10 0 0 0) 8 rfl
  have hk := Kept.setOne wk gB 2 (pfl false (fourL 10 0 0 0) 8)
  have hlt := h.lt
  have h1 := range_put h.rng2 (j := 2) (vs := pfl false (fourL 10 0 0 0) 8) (by omega)
  rw [rB0_cs] at h1
  exact ⟨range_keep hk (by omega) h.rng, h1, there_keep hk (by omega) h.th, World.there_setCells h.th2 _ _ _, h.below.trans (hk.below h.below.size (fun k e => by have := h.geA; omega)), h.geA, h.lt⟩
theorem Sm.last {w wk : World} {gA gB : Nat} (h : Sm w wk gA gB rA rB0) : Sm w (wk.setCell ⟨gB, 42, none⟩ (.bool true)) gA gB rA rB := by
  have hl := Rl.len rB0_ok
  have hk := Kept.setCell (S := fun x => x = gB) wk ⟨gB, 42, none⟩ (.bool true) rfl
  have hlt := h.lt
  have h1 := range_set h.rng2 (j := 42) (by omega) (.bool true)
  rw [rB_cs, Nat.zero_add] at h1
  exact ⟨range_keep hk (by omega) h.rng, h1, there_keep hk (by omega) h.th, there_set h.th2 _ _ _, h.below.trans (hk.below h.below.size (fun k e => by have := h.geA; omega)), h.geA, h.lt⟩
theorem builtP8 : Try.prog.built 39 [(0, .agg (adl false (fourL 10 0 0 0)).toArray), (1, .int .i64 8)] = some (pfl false (fourL 10 0 0 0) 8).toArray := by kernel_rfl
theorem Sm.box1 (w : World) {cs ds : Array Value} {t u : TypeId} (hc : cs.size = 44) (hd : ds.size = 44) : (((w.alloc (.cells cs t)).alloc (.cells ds u)).setCells w.heap.size 0 any0.cs).rangeAt w.heap.size 0 any0.cs ∧ (((w.alloc (.cells cs t)).alloc (.cells ds u)).setCells w.heap.size 0 any0.cs).there w.heap.size 0 44 ∧
    (((w.alloc (.cells cs t)).alloc (.cells ds u)).setCells w.heap.size 0 any0.cs).there (w.heap.size + 1) 0 44 ∧ Below w.heap.size w (((w.alloc (.cells cs t)).alloc (.cells ds u)).setCells w.heap.size 0 any0.cs) := by
  have h1 : ((w.alloc (.cells cs t)).alloc (.cells ds u)).there w.heap.size 0 44 := World.there_alloc (there_new _ _ _ _ hc _ rfl) _
  have h2 : ((w.alloc (.cells cs t)).alloc (.cells ds u)).there (w.heap.size + 1) 0 44 := there_new _ _ _ _ hd _ (by simp)
  exact ⟨World.rangeAt_setCells_same _ _ _ _ (by rw [Rl.len any0_ok]; exact h1), World.there_setCells h1 _ _ _, World.there_setCells h2 _ _ _, Below.setCells (((Below.refl _ _).alloc (Nat.le_refl _) _).alloc (by simp) _) _ (Nat.le_refl _) _ _⟩
theorem Sm.box2 {w wr wk : World} (hw : Below w.heap.size w wr) (h : wk.rangeAt wr.heap.size 0 any0.cs ∧ wk.there wr.heap.size 0 44 ∧ wk.there (wr.heap.size + 1) 0 44 ∧ Below wr.heap.size wr wk) : Sm w (wk.setCells (wr.heap.size + 1) 0 any0.cs) wr.heap.size (wr.heap.size + 1) any0 any0 := by
  have hk := Kept.setOne wk (wr.heap.size + 1) 0 any0.cs
  exact ⟨range_keep hk (by omega) h.1, World.rangeAt_setCells_same _ _ _ _ (by rw [Rl.len any0_ok]; exact h.2.2.1), there_keep hk (by omega) h.2.1, World.there_setCells h.2.2.1 _ _ _, hw.trans ((h.2.2.2.trans (hk.below h.2.2.2.size (fun k e => by omega))).mono hw.size), hw.size, by omega⟩

/-- What sample answers. -/
def SmpR (w : World) (e : Ending) (w' : World) : Prop := ∃ g, e = .returned (.slice (some ⟨g, 0, none⟩) 2 2) ∧ Rls w' (some ⟨g, 0, none⟩) 2 [rA, rB] ∧ Below w.heap.size w w' ∧ w.heap.size ≤ g ∧ g < w'.heap.size
set_option maxRecDepth 100000 in
set_option maxHeartbeats 4000000 in
theorem sample_any (w : World) : Calls Try.prog 14 #[] w (SmpR w) := by
  go_enter Try.func14, Try.ntmps14
  go_wp2_with fail
  refine (uAny_any _).mono ?_
  rintro e w1 ⟨rfl, hb1⟩
  have HB1 := Lib.hid hb1
  clear hb1
  go_wp2_with fail
  refine (uAny_any _).mono ?_
  rintro e w2 ⟨rfl, hb2⟩
  have HB2 := Lib.hid (HB1.out.trans (hb2.mono HB1.out.size))
  clear hb2 HB1
  go_wp2_with (first
    | (refine stN (fun w' => Hid (w'.rangeAt w2.heap.size 0 any0.cs ∧ w'.there w2.heap.size 0 44 ∧ w'.there (w2.heap.size + 1) 0 44 ∧ Below w2.heap.size w2 w')) 43 (.tmp 1) (.tmp 3) rfl rfl _ _ any0.cs rfl rfl (by rw [Rl.len any0_ok]; exact World.there_alloc (there_new _ _ _ _ rfl _ rfl) _) (by rw [Rl.len any0_ok]; exact infU) (Rl.one _) (by exact Sm.box1 _ rfl rfl) ?_; intro wj HWJ)
    | (refine stN (fun w' => Hid (Sm w w' w2.heap.size (w2.heap.size + 1) any0 any0)) 43 (.tmp 2) (.tmp 4) rfl rfl _ _ any0.cs rfl rfl (by rw [Rl.len any0_ok]; exact HWJ.out.2.2.1) (by rw [Rl.len any0_ok]; exact infU) (Rl.one _) (by exact Sm.box2 HB2.out HWJ.out) ?_; intro wk HSM; have q1 := range_at HSM.out.rng 1 rfl; have q40 := range_at HSM.out.rng 40 (v := .int .u16 0) rfl; have q41 := range_at HSM.out.rng 41 (v := .int .u16 65535) rfl; have q43 := range_at HSM.out.rng 43 (v := .int .i64 0) rfl; have f1 := (HSM.out.th 1 (by omega)).2; have f40 := (HSM.out.th 40 (by omega)).2; have f41 := (HSM.out.th 41 (by omega)).2; have f43 := (HSM.out.th 43 (by omega)).2; rw [Nat.zero_add] at q1 q40 q41 q43 f1 f40 f41 f43; have HS1 := Lib.hid HSM.out.first; clear HSM HWJ))
  refine (four_any 10 0 0 0 _).mono ?_
  rintro e w5 ⟨rfl, hb5⟩
  have HS2 := Lib.hid (HS1.out.next hb5)
  obtain ⟨gA, hgA⟩ : ∃ gA, w2.heap.size = gA := ⟨_, rfl⟩
  rw [hgA] at HS2
  simp only [hgA]
  clear hb5 HS1 q1 q40 q41 q43 f1 f40 f41 f43 hgA HB2
  go_wp2_with (first
    | (refine wpList_build_run (cells := (pfl false (fourL 10 0 0 0) 8).toArray) rfl 39 _ rfl ?_ ?_; · exact builtP8)
    | (refine stN (fun w' => Hid (Sm w w' gA (gA + 1) rA rB0)) 39 (.tmp 11) (.tmp 10) rfl rfl _ _ (pfl false (fourL 10 0 0 0) 8) rfl rfl (by rw [pfl_len _ _ _ rfl]; exact there_part HS2.out.th2 (by omega)) (by rw [pfl_len _ _ _ rfl]; exact infP) (pfl_one _ _ _) (by exact HS2.out.mid) ?_; intro wk HSM; have q42 := Rl.rdy rB0_ok HSM.out.rng2; have f42 := (HSM.out.th2 42 (by omega)).2; rw [Nat.zero_add] at q42 f42; have HS3 := Lib.hid HSM.out.last; have HSZ : Hid ((wk.setCell ⟨gA + 1, 42, none⟩ (.bool true)).heap.size = wk.heap.size) := (by show _ = _; simp); clear HSM)
    | (refine ldU (.tmp 1) rfl rfl _ _ rfl rA rA_ok (by with_reducible exact HS3.out.rng) ?_)
    | (refine ldU (.tmp 2) rfl rfl _ _ rfl rB rB_ok (by with_reducible exact HS3.out.rng2) ?_)
    | (refine bsU 2 _ [rA, rB] (by intro x hx; simp only [List.mem_cons, List.not_mem_nil, or_false] at hx; rcases hx with rfl | rfl; exact rA_ok; exact rB_ok) rfl (by omega) (by omega) rfl (by rfl) (by rfl) ?_; intro w6 hrl hb6 hsz6; have HR6 := Lib.hid hrl; have HB6 := Lib.hid hb6; have HZ6 := Lib.hid hsz6; clear hrl hb6 hsz6))
  go_ret
  exact ⟨_, rfl, by have h := HR6.out; rwa [HSZ.out] at h, HS3.out.below.trans (HB6.out.mono HS3.out.below.size), by have h := HS3.out.below.size; rwa [HSZ.out] at h, by rw [HZ6.out, HSZ.out]; omega⟩
end Go.Proofs.Ytgnhbhgpkihpmaa

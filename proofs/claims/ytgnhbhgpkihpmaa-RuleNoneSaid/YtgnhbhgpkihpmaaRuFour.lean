/-
  The contracts of the statements' own four, sample. Conditions: bytes.
-/
import Derived.Test.YtgnhbhgpkihpmaaRuNew
namespace Go.Proofs.Ytgnhbhgpkihpmaa
open Go.RowKit

/-- An address of four bytes. -/
def fourL (a b c d : Int) : List Int := [a, b, c, d, 0, 0, 0, 0, 0, 0, 0, 0, 0, 0, 0, 0]
theorem builtA0 : Try.prog.built 25 [] = some (adl false (zs 16)).toArray := by kernel_rfl
theorem there_keep {S : Nat → Prop} {w w' : World} {g o n : Nat} (k : Kept S w w') (hg : ¬ S g) (h : w.there g o n) : w'.there g o n := fun j hj => by
  obtain ⟨h1, h2⟩ := h j hj
  obtain ⟨u, hu⟩ := Option.isSome_iff_exists.1 h1
  have hb := World.block_lt_of_cell? w _ hu
  have e := k.block g hb hg
  rw [World.cell?_of_block (w := w) (w' := w') (a := ⟨g, o + j, none⟩) e, World.frozen?_of_block (w := w) (w' := w') (a := ⟨g, o + j, none⟩) e]
  exact ⟨h1, h2⟩
theorem four_cs (a b c d : Int) : ((((adl false (zs 16)).set 1 (.int .u8 a)).set 2 (.int .u8 b)).set 3 (.int .u8 c)).set 4 (.int .u8 d) = adl false (fourL a b c d) := by kernel_rfl
theorem four_range {w : World} {g : Nat} (h : w.rangeAt g 0 (adl false (zs 16))) (a b c d : Int) :
    ((((w.setCell ⟨g, 1, none⟩ (.int .u8 a)).setCell ⟨g, 2, none⟩ (.int .u8 b)).setCell ⟨g, 3, none⟩ (.int .u8 c)).setCell ⟨g, 4, none⟩ (.int .u8 d)).rangeAt g 0 (adl false (fourL a b c d)) := by
  have hl := adl_len false (zs 16) (zs_length 16)
  have h1 := range_set h (j := 1) (by omega) (.int .u8 a)
  have h2 := range_set h1 (j := 2) (by rw [List.length_set]; omega) (.int .u8 b)
  have h3 := range_set h2 (j := 3) (by rw [List.length_set, List.length_set]; omega) (.int .u8 c)
  have h4 := range_set h3 (j := 4) (by rw [List.length_set, List.length_set, List.length_set]; omega) (.int .u8 d)
  rw [four_cs] at h4
  simpa using h4
theorem four_kept (w : World) (g : Nat) (a b c d : Value) : Kept (fun x => x = g) w ((((w.setCell ⟨g, 1, none⟩ a).setCell ⟨g, 2, none⟩ b).setCell ⟨g, 3, none⟩ c).setCell ⟨g, 4, none⟩ d) :=
  ((((Kept.setCell (S := fun x => x = g) w ⟨g, 1, none⟩ a rfl).trans (Kept.setCell (S := fun x => x = g) _ ⟨g, 2, none⟩ b rfl) (fun _ _ h => h)).trans (Kept.setCell (S := fun x => x = g) _ ⟨g, 3, none⟩ c rfl) (fun _ _ h => h)).trans (Kept.setCell (S := fun x => x = g) _ ⟨g, 4, none⟩ d rfl) (fun _ _ h => h))

theorem four_start (w : World) {cs ds : Array Value} {t u : TypeId} (hc : cs.size = 17 := by rfl) (hd : ds.size = 17 := by rfl) : (((w.alloc (.cells cs t)).alloc (.cells ds u)).setCells (w.heap.size + 1) 0 (adl false (zs 16))).rangeAt (w.heap.size + 1) 0 (adl false (zs 16)) ∧
    Hid ((((w.alloc (.cells cs t)).alloc (.cells ds u)).setCells (w.heap.size + 1) 0 (adl false (zs 16))).there (w.heap.size + 1) 0 17 ∧ (((w.alloc (.cells cs t)).alloc (.cells ds u)).setCells (w.heap.size + 1) 0 (adl false (zs 16))).there w.heap.size 0 17 ∧
    Below w.heap.size w (((w.alloc (.cells cs t)).alloc (.cells ds u)).setCells (w.heap.size + 1) 0 (adl false (zs 16)))) := by
  have h1 : ((w.alloc (.cells cs t)).alloc (.cells ds u)).there (w.heap.size + 1) 0 17 := there_new _ _ _ _ hd _ (by simp)
  have h2 : ((w.alloc (.cells cs t)).alloc (.cells ds u)).there w.heap.size 0 17 := World.there_alloc (there_new _ _ _ _ hc _ rfl) _
  exact ⟨World.rangeAt_setCells_same _ _ _ _ (by rw [adl_len _ _ (zs_length 16)]; exact h1), World.there_setCells h1 _ _ _, World.there_setCells h2 _ _ _, Below.setCells (((Below.refl _ _).alloc (Nat.le_refl _) _).alloc (by simp) _) _ (by omega) _ _⟩

set_option maxRecDepth 100000 in
set_option maxHeartbeats 2000000 in
theorem four_any (a b c d : Int) (w : World) : Calls Try.prog 15 #[.int .u8 a, .int .u8 b, .int .u8 c, .int .u8 d] w (Gives w (.agg (adl false (fourL a b c d)).toArray)) := by
  go_enter Try.func15, Try.ntmps15
  go_wp2_with (first
    | (refine wpList_build_run (cells := (adl false (zs 16)).toArray) rfl 25 _ rfl ?_ ?_; · exact builtA0)
    | (refine stN (fun w' => w'.rangeAt (w.heap.size + 1) 0 (adl false (zs 16)) ∧ Hid (w'.there (w.heap.size + 1) 0 17 ∧ w'.there w.heap.size 0 17 ∧ Below w.heap.size w w')) 25 (.tmp 9) (.tmp 10) rfl rfl _ _ (adl false (zs 16)) rfl rfl (by rw [adl_len _ _ (zs_length 16)]; exact there_new _ _ _ _ rfl _ (by simp)) (by rw [adl_len _ _ (zs_length 16)]; exact infA) (adl_one _ _) (by exact four_start w) ?_; intro wk hwk; have q1 := range_at hwk.1 1 (v := .int .u8 0) rfl; have q2 := range_at hwk.1 2 (v := .int .u8 0) rfl; have q3 := range_at hwk.1 3 (v := .int .u8 0) rfl; have q4 := range_at hwk.1 4 (v := .int .u8 0) rfl; have f1 := (hwk.2.out.1 1 (by omega)).2; have f2 := (hwk.2.out.1 2 (by omega)).2; have f3 := (hwk.2.out.1 3 (by omega)).2; have f4 := (hwk.2.out.1 4 (by omega)).2; rw [Nat.zero_add] at q1 q2 q3 q4 f1 f2 f3 f4; have HR4 := Lib.hid (four_range hwk.1 a b c d); have HT4 := Lib.hid (there_keep (four_kept wk (w.heap.size + 1) (.int .u8 a) (.int .u8 b) (.int .u8 c) (.int .u8 d)) (show ¬ w.heap.size = w.heap.size + 1 by omega) hwk.2.out.2.1); have HB4 := Lib.hid (hwk.2.out.2.2.trans ((four_kept wk (w.heap.size + 1) (.int .u8 a) (.int .u8 b) (.int .u8 c) (.int .u8 d)).below (B := w.heap.size) hwk.2.out.2.2.size (fun k h => by omega))); clear hwk)
    | (refine ldA (.tmp 9) rfl rfl _ _ rfl false (fourL a b c d) rfl (by with_reducible exact HR4.out) ?_)
    | (refine stA (.tmp 8) (.tmp 23) rfl rfl _ _ false (fourL a b c d) rfl rfl rfl (by with_reducible exact HT4.out) ?_))
  refine bodyPost_ret (v := .agg (adl false (fourL a b c d)).toArray) (ret_mid Try.results15 _ _ _ _ (adl false (fourL a b c d)) _ rfl (World.rangeAt_setCells_same _ _ _ _ ?_) Try.underlying25 rfl ?_) rfl ⟨rfl, ?_⟩
  · rw [adl_len _ _ rfl]; exact HT4.out
  · rw [adl_len _ _ rfl]; exact infA
  · exact Below.setCells HB4.out _ (Nat.le_refl _) _ _
end Go.Proofs.Ytgnhbhgpkihpmaa

/-
  The statements' own reading of a header of IPv6. Conditions: a header whose numbers fit their Go types.
-/
import Derived.Test.YthipnkaghddbhaaSxSame
namespace Go.Proofs.Ythipnkaghddbhaa
open Go.RowKit

theorem there_new (w : World) (cs : Array Value) (t : TypeId) (n : Nat) (hn : cs.size = n) (g : Nat) (hg : w.heap.size = g) : (w.alloc (.cells cs t)).there g 0 n := fun j hj => by
  subst hg
  have hj' : j < cs.size := by omega
  refine ⟨?_, frozen_of_row _ _ (0 + j) cs t (Blk_new w cs t)⟩
  rw [cell_of_row _ _ _ _ _ (0, 0) (Blk_new w cs t), Nat.zero_add, Array.getElem?_eq_getElem hj']
  rfl
theorem there_kept {w w' : World} (h : Below w.heap.size w w') {b o n : Nat} (ht : w.there b o n) : w'.there b o n := fun j hj => by
  obtain ⟨h1, h2⟩ := ht j hj
  obtain ⟨u, hu⟩ := Option.isSome_iff_exists.1 h1
  have hlt := World.block_lt_of_cell? w ⟨b, o + j, none⟩ hu
  refine ⟨by rw [cell_kept h hu]; rfl, ?_⟩
  rw [← h2]
  exact World.frozen?_of_block (h.block b hlt)
/-- A header as the document has it: its cells. -/
def r6c (h : H6) : List Value := [.int .u8 h.cl, .int .u32 h.fl, .int .u16 h.ln, .int .u8 h.nx, .int .u8 h.hp, .string (str h.src), .string (str h.dst)]
def r60 : List Value := [.int .u8 0, .int .u32 0, .int .u16 0, .int .u8 0, .int .u8 0, .string ⟨#[]⟩, .string ⟨#[]⟩]
theorem r6c_one (h : H6) : ∀ v ∈ r6c h, v.oneCell' = true := by
  intro v hv
  simp only [r6c, List.mem_cons, List.not_mem_nil, or_false] at hv
  rcases hv with rfl | rfl | rfl | rfl | rfl | rfl | rfl <;> rfl
theorem r60_one : ∀ v ∈ r60, v.oneCell' = true := by
  intro v hv
  simp only [r60, List.mem_cons, List.not_mem_nil, or_false] at hv
  rcases hv with rfl | rfl | rfl | rfl | rfl | rfl | rfl <;> rfl
theorem infR6 : (Try.prog.info? 30).map (·.size) = some 7 := by kernel_rfl
theorem inf6 : (Try.prog.info? 26).map (·.size) = some 37 := by kernel_rfl
theorem built6 (h : H6) : Try.prog.built 30 [(0, .int .u8 h.cl), (1, .int .u32 h.fl), (2, .int .u16 h.ln), (3, .int .u8 h.nx), (4, .int .u8 h.hp), (5, .string (str h.src)), (6, .string (str h.dst))] = some (r6c h).toArray := by
  obtain ⟨cl, fl, ln, nx, hp, src, dst⟩ := h
  kernel_rfl
theorem H6.srcS {w : World} {b : Nat} {h : H6} (k : h.ok) (hr : w.rangeAt b 0 h.cs) : (convert 27 9 (.slice (some ⟨b, 5, none⟩) 16 16)).run Try.prog w = .ok (.string (str h.src)) w := run_string_rd w 16 k.src (H6.srcAt hr) k.srcb
theorem H6.dstS {w : World} {b : Nat} {h : H6} (k : h.ok) (hr : w.rangeAt b 0 h.cs) : (convert 27 9 (.slice (some ⟨b, 21, none⟩) 16 16)).run Try.prog w = .ok (.string (str h.dst)) w := run_string_rd w 16 k.dst (H6.dstAt k.src hr) k.dstb

set_option maxRecDepth 100000 in
set_option maxHeartbeats 2000000 in
theorem d6Ipsix_any (h : H6) (w : World) (k : h.ok) : Calls Try.prog 9 #[.agg h.cs.toArray] w (Gives w (.agg (r6c h).toArray)) := by
  have HK := Lib.hid k
  obtain ⟨wA, hwA⟩ : ∃ x, w.alloc (.cells h.cs.toArray 26) = x := ⟨_, rfl⟩
  have hbA : Below w.heap.size w wA := by rw [← hwA]; exact (Below.refl _ _).alloc (Nat.le_refl _) _
  have hsA : wA.heap.size = w.heap.size + 1 := by rw [← hwA]; simp
  obtain ⟨wB, hwB⟩ : ∃ x, wA.alloc (.cells r60.toArray 30) = x := ⟨_, rfl⟩
  have hbB : Below wA.heap.size wA wB := by rw [← hwB]; exact (Below.refl _ _).alloc (Nat.le_refl _) _
  have HBB : Hid (Below w.heap.size w wB) := hbA.trans (hbB.mono hbA.size)
  have HTB : Hid (wB.there (w.heap.size + 1) 0 7) := by rw [← hwB]; exact there_new _ _ _ _ rfl _ hsA
  have hrA : wA.rangeAt w.heap.size 0 h.cs := by rw [← hwA]; exact H6.range w h _
  have hrr : wB.rangeAt w.heap.size 0 h.cs := range_kept hbB hrA
  clear k hbA hbB hrA
  go_enter Try.func9, Try.ntmps9
  go_wp2_with fail
  change Code.wp _ _ _ _ (wA.alloc (.cells r60.toArray 30))
  rw [hwB]
  clear hwA hwB
  refine wp_region_held_drew (S := fun w' => World.rangeAt w' w.heap.size 0 h.cs) (by kernel_rfl) hrr (fun hS => ?_)
  refine tk 0 3 (.pointer (some ⟨w.heap.size, 0, none⟩)) rfl rfl (by kernel_rfl) (by kernel_rfl) (by kernel_rfl) (fun _ _ _ h => h) (Or.inl ⟨by rfl, fun w' h' => ?_⟩) hS ?_
  · go_simp
  try simp only [Act.put, List.setIfInBounds_toArray, List.set_cons_zero, List.set_cons_succ]
  refine tk 1 4 (.int .u8 h.cl) rfl rfl (by kernel_rfl) (by kernel_rfl) (by kernel_rfl) (fun _ _ _ h => h) (Or.inl ⟨by rfl, fun w' h' => ?_⟩) hS ?_
  · have hc := range_cell h' h.c0
    go_simp
  try simp only [Act.put, List.setIfInBounds_toArray, List.set_cons_zero, List.set_cons_succ]
  refine tk 2 5 (.pointer (some ⟨w.heap.size, 1, none⟩)) rfl rfl (by kernel_rfl) (by kernel_rfl) (by kernel_rfl) (fun _ _ _ h => h) (Or.inl ⟨by rfl, fun w' h' => ?_⟩) hS ?_
  · go_simp
  try simp only [Act.put, List.setIfInBounds_toArray, List.set_cons_zero, List.set_cons_succ]
  refine tk 3 6 (.int .u32 h.fl) rfl rfl (by kernel_rfl) (by kernel_rfl) (by kernel_rfl) (fun _ _ _ h => h) (Or.inl ⟨by rfl, fun w' h' => ?_⟩) hS ?_
  · have hc := range_cell h' h.c1
    go_simp
  try simp only [Act.put, List.setIfInBounds_toArray, List.set_cons_zero, List.set_cons_succ]
  refine tk 4 7 (.pointer (some ⟨w.heap.size, 2, none⟩)) rfl rfl (by kernel_rfl) (by kernel_rfl) (by kernel_rfl) (fun _ _ _ h => h) (Or.inl ⟨by rfl, fun w' h' => ?_⟩) hS ?_
  · go_simp
  try simp only [Act.put, List.setIfInBounds_toArray, List.set_cons_zero, List.set_cons_succ]
  refine tk 5 8 (.int .u16 h.ln) rfl rfl (by kernel_rfl) (by kernel_rfl) (by kernel_rfl) (fun _ _ _ h => h) (Or.inl ⟨by rfl, fun w' h' => ?_⟩) hS ?_
  · have hc := range_cell h' h.c2
    go_simp
  try simp only [Act.put, List.setIfInBounds_toArray, List.set_cons_zero, List.set_cons_succ]
  refine tk 6 9 (.pointer (some ⟨w.heap.size, 3, none⟩)) rfl rfl (by kernel_rfl) (by kernel_rfl) (by kernel_rfl) (fun _ _ _ h => h) (Or.inl ⟨by rfl, fun w' h' => ?_⟩) hS ?_
  · go_simp
  try simp only [Act.put, List.setIfInBounds_toArray, List.set_cons_zero, List.set_cons_succ]
  refine tk 7 10 (.int .u8 h.nx) rfl rfl (by kernel_rfl) (by kernel_rfl) (by kernel_rfl) (fun _ _ _ h => h) (Or.inl ⟨by rfl, fun w' h' => ?_⟩) hS ?_
  · have hc := range_cell h' h.c3
    go_simp
  try simp only [Act.put, List.setIfInBounds_toArray, List.set_cons_zero, List.set_cons_succ]
  refine tk 8 11 (.pointer (some ⟨w.heap.size, 4, none⟩)) rfl rfl (by kernel_rfl) (by kernel_rfl) (by kernel_rfl) (fun _ _ _ h => h) (Or.inl ⟨by rfl, fun w' h' => ?_⟩) hS ?_
  · go_simp
  try simp only [Act.put, List.setIfInBounds_toArray, List.set_cons_zero, List.set_cons_succ]
  refine tk 9 12 (.int .u8 h.hp) rfl rfl (by kernel_rfl) (by kernel_rfl) (by kernel_rfl) (fun _ _ _ h => h) (Or.inl ⟨by rfl, fun w' h' => ?_⟩) hS ?_
  · have hc := range_cell h' h.c4
    go_simp
  try simp only [Act.put, List.setIfInBounds_toArray, List.set_cons_zero, List.set_cons_succ]
  refine tk 10 13 (.pointer (some ⟨w.heap.size, 5, none⟩)) rfl rfl (by kernel_rfl) (by kernel_rfl) (by kernel_rfl) (fun _ _ _ h => h) (Or.inl ⟨by rfl, fun w' h' => ?_⟩) hS ?_
  · go_simp
  try simp only [Act.put, List.setIfInBounds_toArray, List.set_cons_zero, List.set_cons_succ]
  refine tk 11 14 (.slice (some ⟨w.heap.size, 5, none⟩) 16 16) rfl rfl (by kernel_rfl) (by kernel_rfl) (by kernel_rfl) (fun _ _ _ h => h) (Or.inl ⟨by rfl, fun w' h' => ?_⟩) hS ?_
  · go_simp
  try simp only [Act.put, List.setIfInBounds_toArray, List.set_cons_zero, List.set_cons_succ]
  refine tk 12 15 (.string (str h.src)) rfl rfl (by kernel_rfl) (by kernel_rfl) (by kernel_rfl) (fun _ _ _ h => h) (Or.inl ⟨by rfl, fun w' h' => ?_⟩) hS ?_
  · have hc := H6.srcS HK.out h'
    go_simp
  try simp only [Act.put, List.setIfInBounds_toArray, List.set_cons_zero, List.set_cons_succ]
  refine tk 13 16 (.pointer (some ⟨w.heap.size, 21, none⟩)) rfl rfl (by kernel_rfl) (by kernel_rfl) (by kernel_rfl) (fun _ _ _ h => h) (Or.inl ⟨by rfl, fun w' h' => ?_⟩) hS ?_
  · go_simp
  try simp only [Act.put, List.setIfInBounds_toArray, List.set_cons_zero, List.set_cons_succ]
  refine tk 14 17 (.slice (some ⟨w.heap.size, 21, none⟩) 16 16) rfl rfl (by kernel_rfl) (by kernel_rfl) (by kernel_rfl) (fun _ _ _ h => h) (Or.inl ⟨by rfl, fun w' h' => ?_⟩) hS ?_
  · go_simp
  try simp only [Act.put, List.setIfInBounds_toArray, List.set_cons_zero, List.set_cons_succ]
  refine tk 15 18 (.string (str h.dst)) rfl rfl (by kernel_rfl) (by kernel_rfl) (by kernel_rfl) (fun _ _ _ h => h) (Or.inl ⟨by rfl, fun w' h' => ?_⟩) hS ?_
  · have hc := H6.dstS HK.out h'
    go_simp
  try simp only [Act.put, List.setIfInBounds_toArray, List.set_cons_zero, List.set_cons_succ]
  refine tk 16 19 (.agg (r6c h).toArray) rfl rfl (by kernel_rfl) (by kernel_rfl) (by kernel_rfl) (fun _ _ _ h => h) (yields_build (by rfl) _ _ rfl ?_) hS ?_
  · exact built6 h
  try simp only [Act.put, List.setIfInBounds_toArray, List.set_cons_zero, List.set_cons_succ]
  refine wpAnyH_ready (rs := [17]) (by kernel_rfl) (by simp) (AllReadyH.cons rfl (fun K hK => ?_) AllReadyH.nil)
  rw [if_pos (by rfl)]
  refine wp_store_mid 30 _ _ rfl (w.heap.size + 1) 0 (r6c h).toArray rfl rfl HTB.out infR6 (all_oneCell_toArray (r6c_one h)) ?_
  have hrz : (wB.drew.setCells (w.heap.size + 1) 0 (r6c h)).rangeAt w.heap.size 0 h.cs := World.rangeAt_setCells_apart hS _ _ _ (.inl (by omega))
  clear hS
  refine hK.out _ _ (hrz) (fun hS => ?_)
  clear hK K
  refine wpAnyH_done (by kernel_rfl) ?_ _
  go_wp2_with fail
  refine bodyPost_ret (v := .agg (r6c h).toArray) (ret_mid Try.results9 _ _ _ _ (r6c h) _ rfl (World.rangeAt_setCells_same _ _ _ _ HTB.out) Try.underlying30 rfl infR6) rfl ⟨rfl, ?_⟩
  have h2 : Below w.heap.size w wB.drew := ⟨HBB.out.os, HBB.out.tape, HBB.out.output, HBB.out.size, HBB.out.block⟩
  exact Below.setCells h2 _ (by omega) _ _
theorem str_some {xs : List Int} (h : xs ≠ []) : ((str xs).toList == ([] : List UInt8)) = false := by
  cases xs with
  | nil => exact absurd rfl h
  | cons x xs => rw [str_list]; rfl
/-- The header that is nothing. -/
def h60 : H6 := ⟨0, 0, 0, 0, 0, [0, 0, 0, 0, 0, 0, 0, 0, 0, 0, 0, 0, 0, 0, 0, 0], [0, 0, 0, 0, 0, 0, 0, 0, 0, 0, 0, 0, 0, 0, 0, 0]⟩
theorem byt_z {n : Nat} : Byt (List.replicate n 0) := fun x hx => by rw [List.eq_of_mem_replicate hx]; omega
theorem h60_ok : h60.ok := ⟨by decide, by decide, by decide, by decide, by decide, rfl, rfl, byt_z (n := 16), byt_z (n := 16)⟩
theorem built60 : Try.prog.built 26 [] = some h60.cs.toArray := by kernel_rfl
/-- A header as the document has it, or nothing, in two blocks. -/
theorem two6 (w : World) (cs : List Value) : ∃ wA wB, w.alloc (.cells cs.toArray 30) = wA ∧ wA.alloc (.cells r60.toArray 30) = wB ∧ wA.heap.size = w.heap.size + 1 ∧ wB.heap.size = w.heap.size + 2 ∧ Hid (Below w.heap.size w wB) ∧ Hid (wB.there (w.heap.size + 1) 0 7) ∧ Hid (wB.rangeAt w.heap.size 0 cs) := by
  refine ⟨_, _, rfl, rfl, by simp, by simp, ?_, there_new _ _ _ _ rfl _ (by simp), ?_⟩
  · have hbA : Below w.heap.size w (w.alloc (.cells cs.toArray 30)) := (Below.refl _ _).alloc (Nat.le_refl _) _
    exact hbA.alloc hbA.size _
  · exact range_kept ((Below.refl _ _).alloc (Nat.le_refl _) _) (fun j v hv => by rw [cell_of_row _ w.heap.size (0 + j) _ _ (0, 0) (Blk_new w _ _)]; simpa using hv)
set_option maxRecDepth 100000 in
theorem d6No_zero (w : World) : Calls Try.prog 16 #[.agg r60.toArray] w (Gives w (.agg (r6c h60).toArray)) := by
  obtain ⟨wA, wB, hwA, hwB, hsA, hsB, HB, HT, HR⟩ := two6 w r60
  have hc := range_cell HR.out (j := 5) (v := .string ⟨#[]⟩) rfl
  go_enter Try.func16, Try.ntmps16
  go_upto_region 1 with fail
  change Code.wp _ _ _ _ (wA.alloc (.cells r60.toArray 30))
  rw [hwB]
  clear hwA hwB
  go_wp2_with (refine wpList_build_run (cells := h60.cs.toArray) rfl 26 _ rfl ?_ ?_; · exact built60)
  refine (d6Ipsix_any h60 _ h60_ok).mono ?_
  rintro e w1 ⟨rfl, hb1⟩
  have HT1 := Lib.hid (there_kept hb1 HT.out)
  have HB1 := Lib.hid (HB.out.trans (hb1.mono HB.out.size))
  clear hb1
  go_wp2_with (refine stC 30 _ _ rfl rfl (w.heap.size + 1) 0 (r6c h60) rfl rfl HT1.out infR6 (r6c_one h60) ?_)
  refine bodyPost_ret (v := .agg (r6c h60).toArray) (ret_mid Try.results16 _ _ _ _ (r6c h60) _ rfl (World.rangeAt_setCells_same _ _ _ _ HT1.out) Try.underlying30 rfl infR6) rfl ⟨rfl, ?_⟩
  exact Below.setCells HB1.out _ (by omega) _ _
set_option maxRecDepth 100000 in
theorem d6No_some (h : H6) (w : World) (k : h.ok) : Calls Try.prog 16 #[.agg (r6c h).toArray] w (Gives w (.agg (r6c h).toArray)) := by
  obtain ⟨wA, wB, hwA, hwB, hsA, hsB, HB, HT, HR⟩ := two6 w (r6c h)
  have hc := range_cell HR.out (j := 5) (v := .string (str h.src)) rfl
  have hne := str_some (xs := h.src) (by intro e; have := k.src; rw [e] at this; cases this)
  go_enter Try.func16, Try.ntmps16
  go_upto_region 1 with fail
  change Code.wp _ _ _ _ (wA.alloc (.cells r60.toArray 30))
  rw [hwB]
  clear hwA hwB
  go_wp2_with (first
    | (refine ldC 30 _ rfl rfl w.heap.size rfl (r6c h) HR.out _ Try.underlying30 rfl infR6 ?_)
    | (refine stC 30 _ _ rfl rfl (w.heap.size + 1) 0 (r6c h) rfl rfl HT.out infR6 (r6c_one h) ?_))
  refine bodyPost_ret (v := .agg (r6c h).toArray) (ret_mid Try.results16 _ _ _ _ (r6c h) _ rfl (World.rangeAt_setCells_same _ _ _ _ HT.out) Try.underlying30 rfl infR6) rfl ⟨rfl, ?_⟩
  exact Below.setCells HB.out _ (by omega) _ _
end Go.Proofs.Ythipnkaghddbhaa

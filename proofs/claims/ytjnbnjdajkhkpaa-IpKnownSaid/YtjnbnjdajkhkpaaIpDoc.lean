/-
  The statements' own reading of a header, and the document's Right. Conditions: a header whose numbers fit their Go types and whose options lie where the slice leads.
-/
import Derived.Test.YtjnbnjdajkhkpaaIpRefO
namespace Go.Proofs.Ytjnbnjdajkhkpaa
open Go.RowKit

/-- A header as the document has it: its cells. -/
def rhc (h : Hd) : List Value :=
  [.int .u8 h.tos, .int .u16 h.tot, .int .u16 h.id, .bool h.df, .bool h.mf, .int .u16 h.frag, .int .u8 h.ttl, .int .u8 h.pro, .string (str h.src), .string (str h.dst), .string (str h.op)]
def rh0 : List Value := [.int .u8 0, .int .u16 0, .int .u16 0, .bool false, .bool false, .int .u16 0, .int .u8 0, .int .u8 0, .string ⟨#[]⟩, .string ⟨#[]⟩, .string ⟨#[]⟩]
theorem rhc_one (h : Hd) : ∀ v ∈ rhc h, v.oneCell' = true := by
  intro v hv
  simp only [rhc, List.mem_cons, List.not_mem_nil, or_false] at hv
  rcases hv with rfl | rfl | rfl | rfl | rfl | rfl | rfl | rfl | rfl | rfl | rfl <;> rfl
theorem rhc_len (h : Hd) : (rhc h).length = 11 := rfl
theorem builtRH (h : Hd) : Try.prog.built 29 [(0, .int .u8 h.tos), (1, .int .u16 h.tot), (2, .int .u16 h.id), (3, .bool h.df), (4, .bool h.mf), (5, .int .u16 h.frag), (6, .int .u8 h.ttl), (7, .int .u8 h.pro), (8, .string (str h.src)), (9, .string (str h.dst)), (10, .string (str h.op))] = some (rhc h).toArray := by
  obtain ⟨tos, tot, id, df, mf, frag, ttl, pro, src, dst, a, n, c, op⟩ := h
  kernel_rfl
theorem Hd.ok.srcR {w w0 : World} {b : Nat} {h : Hd} (k : h.ok w0) (hr : w.rangeAt b 0 h.cs) : (convert 24 9 (.slice (some ⟨b, 8, none⟩) 4 4)).run Try.prog w = .ok (.string (str h.src)) w := run_string_rd w 4 k.src (k.srcAt hr) k.srcb
theorem Hd.ok.dstR {w w0 : World} {b : Nat} {h : Hd} (k : h.ok w0) (hr : w.rangeAt b 0 h.cs) : (convert 24 9 (.slice (some ⟨b, 12, none⟩) 4 4)).run Try.prog w = .ok (.string (str h.dst)) w := run_string_rd w 4 k.dst (k.dstAt hr) k.dstb
theorem Hd.ok.opR {w w0 : World} {h : Hd} (k : h.ok w0) (hr : Rd w h.a h.op) : (convert 24 9 (.slice h.a h.n h.c)).run Try.prog w = .ok (.string (str h.op)) w := run_string_rd w h.c k.row.len hr k.row.byt

theorem Rd.off {w : World} {a : Option Addr} {ys : List Int} {g : Nat} (hr : Rd w a ys) (hb : ys ≠ [] → blk a ≠ some g) (vs : List Value) : Rd (w.setCells g 0 vs) a ys := by
  by_cases e : ys = []
  · subst e; exact Rd.empty _ _
  · exact hr.keep (Kept.setCells _ _ _ _ (Kept.refl _ _)) (fun b e2 k => hb e (by rw [e2, k]))

set_option maxRecDepth 100000 in
set_option maxHeartbeats 2000000 in
theorem dIp_any (h : Hd) (w : World) (k : h.ok w) : Calls Try.prog 9 #[.agg h.cs.toArray] w (Gives w (.agg (rhc h).toArray)) := by
  have HK := Lib.hid k
  obtain ⟨wA, hwA⟩ : ∃ x, w.alloc (.cells h.cs.toArray 26) = x := ⟨_, rfl⟩
  have hbA : Below w.heap.size w wA := by rw [← hwA]; exact (Below.refl _ _).alloc (Nat.le_refl _) _
  have hsA : wA.heap.size = w.heap.size + 1 := by rw [← hwA]; simp
  obtain ⟨wB, hwB⟩ : ∃ x, wA.alloc (.cells rh0.toArray 29) = x := ⟨_, rfl⟩
  have hbB : Below wA.heap.size wA wB := by rw [← hwB]; exact (Below.refl _ _).alloc (Nat.le_refl _) _
  have HBB : Hid (Below w.heap.size w wB) := hbA.trans (hbB.mono hbA.size)
  have HTB : Hid (wB.there (w.heap.size + 1) 0 11) := by rw [← hwB]; exact there_new _ _ _ _ rfl _ hsA
  have hrA : wA.rangeAt w.heap.size 0 h.cs := by rw [← hwA]; exact Hd.range w h _
  have hrr : wB.rangeAt w.heap.size 0 h.cs ∧ Rd wB h.a h.op := ⟨range_kept hbB hrA, k.row.rd.below HBB.out⟩
  clear k hbA hbB hrA
  go_enter Try.func9, Try.ntmps9
  go_wp2_with fail
  change Code.wp _ _ _ _ (wA.alloc (.cells rh0.toArray 29))
  rw [hwB]
  clear hwA hwB
  refine wp_region_held_drew (S := fun w' => World.rangeAt w' w.heap.size 0 h.cs ∧ Rd w' h.a h.op) (by kernel_rfl) hrr (fun hS => ?_)
  refine tk 0 3 (.pointer (some ⟨w.heap.size, 0, none⟩)) rfl rfl (by kernel_rfl) (by kernel_rfl) (by kernel_rfl) (fun _ _ _ h => h) (Or.inl ⟨by rfl, fun w' h => ?_⟩) hS ?_
  · go_simp
  refine tk 1 4 (.int .u8 h.tos) rfl rfl (by kernel_rfl) (by kernel_rfl) (by kernel_rfl) (fun _ _ _ h => h) (Or.inl ⟨by rfl, fun w' h' => ?_⟩) hS ?_
  · have hc := range_cell h'.1 h.c0
    go_simp
  refine tk 2 5 (.pointer (some ⟨w.heap.size, 1, none⟩)) rfl rfl (by kernel_rfl) (by kernel_rfl) (by kernel_rfl) (fun _ _ _ h => h) (Or.inl ⟨by rfl, fun w' h => ?_⟩) hS ?_
  · go_simp
  refine tk 3 6 (.int .u16 h.tot) rfl rfl (by kernel_rfl) (by kernel_rfl) (by kernel_rfl) (fun _ _ _ h => h) (Or.inl ⟨by rfl, fun w' h' => ?_⟩) hS ?_
  · have hc := range_cell h'.1 h.c1
    go_simp
  refine tk 4 7 (.pointer (some ⟨w.heap.size, 2, none⟩)) rfl rfl (by kernel_rfl) (by kernel_rfl) (by kernel_rfl) (fun _ _ _ h => h) (Or.inl ⟨by rfl, fun w' h => ?_⟩) hS ?_
  · go_simp
  refine tk 5 8 (.int .u16 h.id) rfl rfl (by kernel_rfl) (by kernel_rfl) (by kernel_rfl) (fun _ _ _ h => h) (Or.inl ⟨by rfl, fun w' h' => ?_⟩) hS ?_
  · have hc := range_cell h'.1 h.c2
    go_simp
  try simp only [Act.put, List.setIfInBounds_toArray, List.set_cons_zero, List.set_cons_succ]
  refine tk 6 9 (.pointer (some ⟨w.heap.size, 3, none⟩)) rfl rfl (by kernel_rfl) (by kernel_rfl) (by kernel_rfl) (fun _ _ _ h => h) (Or.inl ⟨by rfl, fun w' h => ?_⟩) hS ?_
  · go_simp
  refine tk 7 10 (.bool h.df) rfl rfl (by kernel_rfl) (by kernel_rfl) (by kernel_rfl) (fun _ _ _ h => h) (Or.inl ⟨by rfl, fun w' h' => ?_⟩) hS ?_
  · have hc := range_cell h'.1 h.c3
    go_simp
  refine tk 8 11 (.pointer (some ⟨w.heap.size, 4, none⟩)) rfl rfl (by kernel_rfl) (by kernel_rfl) (by kernel_rfl) (fun _ _ _ h => h) (Or.inl ⟨by rfl, fun w' h => ?_⟩) hS ?_
  · go_simp
  refine tk 9 12 (.bool h.mf) rfl rfl (by kernel_rfl) (by kernel_rfl) (by kernel_rfl) (fun _ _ _ h => h) (Or.inl ⟨by rfl, fun w' h' => ?_⟩) hS ?_
  · have hc := range_cell h'.1 h.c4
    go_simp
  refine tk 10 13 (.pointer (some ⟨w.heap.size, 5, none⟩)) rfl rfl (by kernel_rfl) (by kernel_rfl) (by kernel_rfl) (fun _ _ _ h => h) (Or.inl ⟨by rfl, fun w' h => ?_⟩) hS ?_
  · go_simp
  refine tk 11 14 (.int .u16 h.frag) rfl rfl (by kernel_rfl) (by kernel_rfl) (by kernel_rfl) (fun _ _ _ h => h) (Or.inl ⟨by rfl, fun w' h' => ?_⟩) hS ?_
  · have hc := range_cell h'.1 h.c5
    go_simp
  try simp only [Act.put, List.setIfInBounds_toArray, List.set_cons_zero, List.set_cons_succ]
  refine tk 12 15 (.pointer (some ⟨w.heap.size, 6, none⟩)) rfl rfl (by kernel_rfl) (by kernel_rfl) (by kernel_rfl) (fun _ _ _ h => h) (Or.inl ⟨by rfl, fun w' h => ?_⟩) hS ?_
  · go_simp
  refine tk 13 16 (.int .u8 h.ttl) rfl rfl (by kernel_rfl) (by kernel_rfl) (by kernel_rfl) (fun _ _ _ h => h) (Or.inl ⟨by rfl, fun w' h' => ?_⟩) hS ?_
  · have hc := range_cell h'.1 h.c6
    go_simp
  refine tk 14 17 (.pointer (some ⟨w.heap.size, 7, none⟩)) rfl rfl (by kernel_rfl) (by kernel_rfl) (by kernel_rfl) (fun _ _ _ h => h) (Or.inl ⟨by rfl, fun w' h => ?_⟩) hS ?_
  · go_simp
  refine tk 15 18 (.int .u8 h.pro) rfl rfl (by kernel_rfl) (by kernel_rfl) (by kernel_rfl) (fun _ _ _ h => h) (Or.inl ⟨by rfl, fun w' h' => ?_⟩) hS ?_
  · have hc := range_cell h'.1 h.c7
    go_simp
  try simp only [Act.put, List.setIfInBounds_toArray, List.set_cons_zero, List.set_cons_succ]
  refine tk 16 19 (.pointer (some ⟨w.heap.size, 8, none⟩)) rfl rfl (by kernel_rfl) (by kernel_rfl) (by kernel_rfl) (fun _ _ _ h => h) (Or.inl ⟨by rfl, fun w' h => ?_⟩) hS ?_
  · go_simp
  refine tk 17 20 (.slice (some ⟨w.heap.size, 8, none⟩) 4 4) rfl rfl (by kernel_rfl) (by kernel_rfl) (by kernel_rfl) (fun _ _ _ h => h) (Or.inl ⟨by rfl, fun w' h => ?_⟩) hS ?_
  · go_simp
  refine tk 18 21 (.string (str h.src)) rfl rfl (by kernel_rfl) (by kernel_rfl) (by kernel_rfl) (fun _ _ _ h => h) (Or.inl ⟨by rfl, fun w' h' => ?_⟩) hS ?_
  · have hc := HK.out.srcR h'.1
    go_simp
  refine tk 19 22 (.pointer (some ⟨w.heap.size, 12, none⟩)) rfl rfl (by kernel_rfl) (by kernel_rfl) (by kernel_rfl) (fun _ _ _ h => h) (Or.inl ⟨by rfl, fun w' h => ?_⟩) hS ?_
  · go_simp
  refine tk 20 23 (.slice (some ⟨w.heap.size, 12, none⟩) 4 4) rfl rfl (by kernel_rfl) (by kernel_rfl) (by kernel_rfl) (fun _ _ _ h => h) (Or.inl ⟨by rfl, fun w' h => ?_⟩) hS ?_
  · go_simp
  refine tk 21 24 (.string (str h.dst)) rfl rfl (by kernel_rfl) (by kernel_rfl) (by kernel_rfl) (fun _ _ _ h => h) (Or.inl ⟨by rfl, fun w' h' => ?_⟩) hS ?_
  · have hc := HK.out.dstR h'.1
    go_simp
  try simp only [Act.put, List.setIfInBounds_toArray, List.set_cons_zero, List.set_cons_succ]
  refine tk 22 25 (.pointer (some ⟨w.heap.size, 16, none⟩)) rfl rfl (by kernel_rfl) (by kernel_rfl) (by kernel_rfl) (fun _ _ _ h => h) (Or.inl ⟨by rfl, fun w' h => ?_⟩) hS ?_
  · go_simp
  refine tk 23 26 (.slice h.a h.n h.c) rfl rfl (by kernel_rfl) (by kernel_rfl) (by kernel_rfl) (fun _ _ _ h => h) (Or.inl ⟨by rfl, fun w' h' => ?_⟩) hS ?_
  · have hc := range_cell h'.1 HK.out.c16
    go_simp
  refine tk 24 27 (.string (str h.op)) rfl rfl (by kernel_rfl) (by kernel_rfl) (by kernel_rfl) (fun _ _ _ h => h) (Or.inl ⟨by rfl, fun w' h' => ?_⟩) hS ?_
  · have hc := HK.out.opR h'.2
    go_simp
  try simp only [Act.put, List.setIfInBounds_toArray, List.set_cons_zero, List.set_cons_succ]
  refine tk 25 28 (.agg (rhc h).toArray) rfl rfl (by kernel_rfl) (by kernel_rfl) (by kernel_rfl) (fun _ _ _ h => h) (yields_build (by rfl) _ _ rfl ?_) hS ?_
  · exact builtRH h
  try simp only [Act.put, List.setIfInBounds_toArray, List.set_cons_zero, List.set_cons_succ]
  refine wpAnyH_ready (rs := [26]) (by kernel_rfl) (by simp) (AllReadyH.cons rfl (fun K hK => ?_) AllReadyH.nil)
  rw [if_pos (by rfl)]
  refine wp_store_mid 29 _ _ rfl (w.heap.size + 1) 0 (rhc h).toArray rfl rfl HTB.out infRH (all_oneCell_toArray (rhc_one h)) ?_
  have hrz : (wB.drew.setCells (w.heap.size + 1) 0 (rhc h)).rangeAt w.heap.size 0 h.cs ∧ Rd (wB.drew.setCells (w.heap.size + 1) 0 (rhc h)) h.a h.op :=
    ⟨World.rangeAt_setCells_apart hS.1 _ _ _ (.inl (by omega)), Rd.off hS.2 (HK.out.row.rd.apart (Nat.le_succ _)) _⟩
  clear hS
  refine hK.out _ _ hrz (fun hS => ?_)
  clear hK K
  refine wpAnyH_done (by kernel_rfl) ?_ _
  go_wp2_with fail
  refine bodyPost_ret (v := .agg (rhc h).toArray) (ret_mid Try.results9 _ _ _ _ (rhc h) _ rfl (World.rangeAt_setCells_same _ _ _ _ HTB.out) Try.underlying29 rfl infRH) rfl ⟨rfl, ?_⟩
  have h2 : Below w.heap.size w wB.drew := ⟨HBB.out.os, HBB.out.tape, HBB.out.output, HBB.out.size, HBB.out.block⟩
  exact Below.setCells h2 _ (by omega) _ _
end Go.Proofs.Ytjnbnjdajkhkpaa

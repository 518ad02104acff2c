/-
  The statement's pad: a header that is nothing has addresses of noughts. Conditions: none but four bytes in an address where there is a header.
-/
import Derived.Test.YtjnbnjdajkhkpaaIpRBody
namespace Go.Proofs.Ytjnbnjdajkhkpaa
open Go.RowKit

set_option maxRecDepth 100000 in
set_option maxHeartbeats 1000000 in
theorem pad_keeps (h : Hd) (w : World) (h4 : h.src.length = 4) : Calls Try.prog 23 #[.agg (rhc h).toArray] w (Gives w (.agg (rhc h).toArray)) := by
  have hs : (str h.src).toList.isEmpty = false := by
    cases hx : (str h.src).toList with
    | cons _ _ => rfl
    | nil =>
      rw [str_list] at hx
      have h1 : (ub h.src).length = h.src.length := by simp [ub]
      rw [hx, h4] at h1
      simp at h1
  have c8 := rc8 h
  have hbA : Below w.heap.size w (w.alloc (.cells (rhc h).toArray 29)) := (Below.refl _ _).alloc (Nat.le_refl _) _
  have hbB : Below (w.alloc (.cells (rhc h).toArray 29)).heap.size (w.alloc (.cells (rhc h).toArray 29)) ((w.alloc (.cells (rhc h).toArray 29)).alloc (.cells rh0.toArray 29)) := (Below.refl _ _).alloc (Nat.le_refl _) _
  have HR := Lib.hid (range_kept hbB (rh_range w h 29))
  have hsA : (w.alloc (.cells (rhc h).toArray 29)).heap.size = w.heap.size + 1 := by simp
  have HT : Hid (((w.alloc (.cells (rhc h).toArray 29)).alloc (.cells rh0.toArray 29)).there (w.heap.size + 1) 0 11) := there_new _ _ _ _ rfl _ hsA
  have HF0 : Hid (Below w.heap.size w (((w.alloc (.cells (rhc h).toArray 29)).alloc (.cells rh0.toArray 29)).setCells (w.heap.size + 1) 0 (rhc h)) ∧ (((w.alloc (.cells (rhc h).toArray 29)).alloc (.cells rh0.toArray 29)).setCells (w.heap.size + 1) 0 (rhc h)).rangeAt (w.heap.size + 1) 0 (rhc h)) :=
    ⟨Below.setCells (hbA.trans (hbB.mono hbA.size)) _ (by omega) _ _, World.rangeAt_setCells_same _ _ _ _ HT.out⟩
  have HL := Lib.hid (rhc_len h)
  obtain ⟨S, hS⟩ : ∃ x, str h.src = x := ⟨_, rfl⟩
  rw [hS] at hs c8
  obtain ⟨ls, hls⟩ : ∃ x, rhc h = x := ⟨_, rfl⟩
  have HO := Lib.hid (rhc_one h)
  rw [hls] at c8 HR HT HF0 HL HO
  rw [hls]
  clear hS hbA hbB hsA hls
  go_enter Try.func23, Try.ntmps23
  go_wp2_with (first
    | (refine wpList_load_mid rfl _ (.tmp 1) rfl w.heap.size 0 rfl ls _ HR.out Try.underlying29 rfl (by rw [HL.out]; exact infRH) ?_)
    | (refine stN (fun w' => Hid (Below w.heap.size w w' ∧ w'.rangeAt (w.heap.size + 1) 0 ls)) 29 (.tmp 2) (.tmp 10) rfl rfl (w.heap.size + 1) 0 ls rfl rfl (by rw [HL.out]; exact HT.out) (by rw [HL.out]; exact infRH) HO.out HF0 ?_; intro wz HZ))
  exact bodyPost_ret (v := .agg ls.toArray) (ret_mid Try.results23 _ _ _ _ ls _ rfl HZ.out.2 Try.underlying29 rfl (by rw [HL.out]; exact infRH)) rfl ⟨rfl, HZ.out.1⟩

set_option maxRecDepth 100000 in
set_option maxHeartbeats 1000000 in
theorem pad_fills (w : World) : Calls Try.prog 23 #[.agg rh0.toArray] w (Gives w (.agg (rhc hd0).toArray)) := by
  have h1 : Below w.heap.size w (w.alloc (.cells (rhc hd0).toArray 29)) := (Below.refl _ _).alloc (Nat.le_refl _) _
  have h2 := h1.alloc h1.size (.cells (rhc hd0).toArray 29)
  have HB := Lib.hid h2
  have h3 := rh_range (w.alloc (.cells (rhc hd0).toArray 29)) hd0 29
  rw [World.size_alloc] at h3
  have HRG := Lib.hid h3
  clear h1 h2 h3
  show Calls _ _ #[.agg #[.int .u8 0, .int .u16 0, .int .u16 0, .bool false, .bool false, .int .u16 0, .int .u8 0, .int .u8 0, .string ⟨#[]⟩, .string ⟨#[]⟩, .string ⟨#[]⟩]] _ _
  go_enter Try.func23, Try.ntmps23
  go_wp2_with fail
  exact bodyPost_ret (v := .agg (rhc hd0).toArray) (ret_mid Try.results23 _ _ (w.heap.size + 1) 0 (rhc hd0) _ rfl HRG.out Try.underlying29 rfl infRH) rfl ⟨rfl, HB.out⟩
end Go.Proofs.Ytjnbnjdajkhkpaa

/-
  What the append of a byte does to what stands before each round of BitsKnown. Conditions: fewer than a thousand elements.
-/
import Derived.Test.YtfkangknnaohaaaKnownS
namespace Go.Proofs.Ytfkangknnaohaaa
open Go.ChangeShapes Go.WideShapes Go.ChangeAt Go.RowKit

section
variable {w wr : World} {ba : Option Addr} {nb bc : Nat} {bs : List Int} {la : Option Addr} {nl lc : Nat} {ls : List Int} {sa : Option Addr} {ns sc : Nat} {ss : List Int} {aa : Option Addr} {na ac : Nat} {ts : List ActV}

theorem grown_apart {base : Nat} (h : Own wr base ba nb bc bs) (x : Int) (hn : nb ≤ 1000) {g cap' : Nat} {w' : World}
    (hrun : (Builtin.append_ #[25, 25] 25 #[.slice ba nb bc, .slice (some ⟨wr.heap.size, 0, none⟩) 1 1]).run Try.prog (wr.alloc (.cells #[.int .u8 x] 5)) = .ok (.slice (some ⟨g, 0, none⟩) (nb + 1) cap') w')
    (hk : Kept (fun k => blk ba = some k) wr w') (hg : wr.heap.size < g) : Kept (fun _ => False) wr w' := by
  obtain ⟨i0, hi, hz0, hz1, hz2⟩ := info_parts u8_info
  rcases h.cases with ⟨rfl, _⟩ | ⟨g0, cur, rfl, _, hg0, hnc, hcm, hcs, ht⟩
  · exact hk.mono (fun _ _ e => by cases e)
  · have hlt : g0 < wr.heap.size := (Array.getElem?_eq_some_iff.1 hg0).1
    have hnews : ∀ j u, [Value.int .u8 x][j]? = some u → (wr.alloc (.cells #[.int .u8 x] 5)).cell? ((⟨wr.heap.size, 0, none⟩ : Addr).add j) = some u := fun j u hu => by
      rw [Addr.add_lit, cell_of_row _ wr.heap.size (0 + j) #[.int .u8 x] _ (0, 0) (Blk_new wr _ _)]
      simpa using hu
    have hgA : (wr.alloc (.cells #[.int .u8 x] 5)).heap[g0]? = some (.cells cur 5 (0, 0)) := by rw [Below.heap_alloc _ _ _ hlt]; exact hg0
    by_cases hroom : nb + 1 ≤ bc
    · have hr := run_append_room (P := Try.prog) (wr.alloc (.cells #[.int .u8 x] 5)) 25 25 5 i0 Try.underlying25 hi g0 nb bc cur hgA ⟨wr.heap.size, 0, none⟩ 1 1 [.int .u8 x] (by rw [hz1]; rfl) hnews
        (by intro u hu; simp at hu; subst hu; rfl) hroom (by rw [hz1]; simp; omega)
      rw [hr] at hrun
      simp only [Result.ok.injEq, Value.slice.injEq, Option.some.injEq, Addr.mk.injEq] at hrun
      omega
    · have hold := (own_of (h.keep (Kept.alloc (fun _ => False) wr (.cells #[.int .u8 x] 5)) (fun _ _ => id)))
      have hr := run_append_grow (P := Try.prog) (wr.alloc (.cells #[.int .u8 x] 5)) 25 25 5 i0 _ Try.underlying25 hi hz0 ⟨g0, 0, none⟩ nb bc (bv bs) (by rw [hz1, bv_length, h.1]; omega) (World.ownsRow.cells hold (g := g0) rfl) ⟨wr.heap.size, 0, none⟩ 1 1 [.int .u8 x] (by rw [hz1]; rfl) hnews
        (by omega) (by omega) (by rw [hz2]; exact growslice_fits (by omega) (by omega))
      rw [hr] at hrun
      simp only [Result.ok.injEq] at hrun
      rw [← hrun.2]
      exact (Kept.alloc (fun _ => False) wr _).trans (S := fun _ => False) (T := fun _ => False) ⟨rfl, rfl, rfl, by simp, fun j hj _ => Below.heap_alloc (World.drew _) _ j hj⟩ (fun _ _ e => e)

theorem KSt.addB (h : KSt w wr ba nb bc bs la nl lc ls sa ns sc ss aa na ac ts) (x : Int) (hx0 : 0 ≤ x) (hx1 : x < 256) (hn : nb ≤ 1000) :
    ∃ g cap' w', (Builtin.append_ #[25, 25] 25 #[.slice ba nb bc, .slice (some ⟨wr.heap.size, 0, none⟩) 1 1]).run Try.prog (wr.alloc (.cells #[.int .u8 x] 5)) = .ok (.slice (some ⟨g, 0, none⟩) (nb + 1) cap') w' ∧
      KSt w w' (some ⟨g, 0, none⟩) (nb + 1) cap' (bs ++ [x]) la nl lc ls sa ns sc ss aa na ac ts := by
  obtain ⟨g, cap', w', hrun, hown, hk, hor⟩ := run_append_one wr w.heap.size 25 25 5 _ 1 1 u8_info Try.underlying25 rfl (by omega) (own_of h.b) [.int .u8 x] rfl (by intro u hu; simp at hu; subst hu; rfl) h.bel.size (by omega) (by omega)
  have hO : Own w' w.heap.size (some ⟨g, 0, none⟩) (nb + 1) cap' (bs ++ [x]) := ⟨by simp [h.b.len], by rw [bv_append]; exact hown⟩
  have hbel : Below w.heap.size w w' := h.bel.trans (hk.below h.bel.size (fun k e => (h.b.blk_ge k e).1))
  have hbyt : Byt (bs ++ [x]) := h.byt.append (fun y hy => by simp at hy; subst hy; exact ⟨hx0, hx1⟩)
  have hrow : ByteRow w' (some ⟨g, 0, none⟩) := fun b hb => by
    rcases hO.cases with ⟨e, _⟩ | ⟨g', cur, e, _, hg, _⟩
    · cases e
    · simp only [Option.some.injEq, Addr.mk.injEq, and_true] at e
      subst e
      simp [blk] at hb; subst hb; exact ⟨cur, hg⟩
  have htake : ∀ m, m ≤ nb → (bs ++ [x]).take m = bs.take m := fun m hm => List.take_append_of_le_length (by rw [h.b.len]; exact hm)
  have key : ∀ t ∈ ts, Rd w' t.a t.xs ∧ ByteRow w' t.a ∧ (t.a = some ⟨g, 0, none⟩ ∨ ∀ c, blk t.a = some c → ¬ blk (some (⟨g, 0, none⟩ : Addr)) = some c) := by
    intro t ht
    obtain ⟨hxs, hm, hrw, hor2⟩ := h.tpre t ht
    rcases hor with e | e
    · have hba : ba = some ⟨g, 0, none⟩ := by
        rcases h.b.cases with ⟨rfl, _⟩ | ⟨g0, cur, rfl, _⟩
        · cases e
        · simp [blk] at e; rw [e]
      rcases hor2 with e2 | e2
      · refine ⟨?_, by rw [e2, hba]; exact hrow, .inl (by rw [e2, hba])⟩
        rw [hxs, e2, hba, ← htake t.n hm]
        exact hO.rd.taken t.n
      · exact ⟨(h.tok t ht).rd.keep hk (fun b hb => e2 b hb), hrw.keep hk (fun b hb => e2 b hb), .inr (fun c hc => by rw [← hba]; exact e2 c hc)⟩
    · have hkf := grown_apart h.b x hn hrun hk e
      refine ⟨(h.tok t ht).rd.keep hkf (fun _ _ => id), hrw.keep hkf (fun _ _ => id), .inr (fun c hc hc' => ?_)⟩
      obtain ⟨cur, hcur⟩ := hrw c hc
      have := (Array.getElem?_eq_some_iff.1 hcur).1
      simp [blk] at hc'
      omega
  exact ⟨g, cap', w', hrun, hbel, hO, hbyt, h.l.keep hk (fun b hb => h.l.apart (own_of h.b) (by decide) b hb), h.lw, h.s.keep hk (fun b hb => h.s.apart (own_of h.b) (by decide) b hb), h.sw, h.t.keep hk (fun b hb => h.t.apart (own_of h.b) (by decide) b hb),
    fun t ht => (h.tok t ht).rd' (key t ht).1, fun t ht => ⟨by rw [htake _ (h.tpre t ht).2.1]; exact (h.tpre t ht).1, by have := (h.tpre t ht).2.1; omega, (key t ht).2.1, (key t ht).2.2⟩⟩
end
end Go.Proofs.Ytfkangknnaohaaa

/-
  How long the data of a segment is that was given. Conditions: those that the theorems name.
-/
import Derived.Test.YtabdejoakecioaaTrOpen
import Derived.SizedLaws
namespace Go.Proofs.Ytabdejoakecioaa
open Go.ChangeShapes Go.WideShapes Go.ChangeAt Go.RowKit

theorem seg_size {H : Type} {enc : TypeId × Value → H} {w : World} {base : Nat} {spare : Nat → Bool} {held : Bool} {fuel : Nat} {s : Sg} {x : DataW H × List MemPlace} (h : DataW.trod enc Try.prog w base spare held fuel 26 s.cs = some x)
    (hw : ∀ n ∈ x.1.weights Try.prog 26, n ≤ reachBytes) : s.dn ≤ reachBytes := by
  obtain ⟨ys, n, _, rfl, _, hyl, hf⟩ := DataW.trod_struct Try.underlying26 h
  have hl : ys.length = 12 := hyl
  have g11 : DataW.trod enc Try.prog w base spare held n 24 ((s.cs.drop 11).take (Try.prog.cellsOf 24)) = some (ys[11]'(by omega)) := (hf 11 _ rfl).trans (List.getElem?_eq_getElem (by omega))
  rw [bytes_cells] at g11
  have h11 : DataW.trod enc Try.prog w base spare held n 24 [.slice s.da s.dn s.dc] = some (ys[11]'(by omega)) := g11
  rcases DataW.trod_slice Try.underlying24 h11 with ⟨e, _⟩ | ⟨a, len, cap, elems, rest, m, _, e, ex, _, _, _, hel, _⟩
  · have e2 : s.dn = 0 := by simp at e; exact e.2.1
    omega
  · have e2 : s.dn = len := by simp at e; exact e.2.1
    have hb : Try.prog.bytesOf 5 = 1 := by kernel_rfl
    have hy : (ys.map (·.1))[11]? = some (.slice (elems.map (·.1)) (rest.map (·.1))) := by
      rw [List.getElem?_map, List.getElem?_eq_getElem (by omega), Option.map_some, ex]
    have hm : ((elems.map (·.1)).length + (rest.map (·.1)).length) * Try.prog.bytesOf 5 ∈ (DataW.agg (ys.map (·.1))).weights Try.prog 26 := by
      unfold DataW.weights
      rw [Try.underlying26]
      exact DataW.weights_mem_each (j := 11) (t := 24) rfl hy _ (by simp [DataW.weights, Try.underlying24])
    have := hw _ hm
    simp only [List.length_map, hb] at this
    omega
end Go.Proofs.Ytabdejoakecioaa

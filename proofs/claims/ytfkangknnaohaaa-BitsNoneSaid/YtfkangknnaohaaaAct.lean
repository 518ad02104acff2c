/-
  How the statements' own struct Act is opened to its cells. No conditions.
-/
import Derived.Test.YtfkangknnaohaaaBase
import Derived.Deep.Fields
namespace Go.Proofs.Ytfkangknnaohaaa
open Go.ChangeShapes Go.WideShapes Go.ChangeAt Go.RowKit Go.Deep

/-- The parts of an Act. -/
structure ActV where
  d : Int
  p : Int
  v : Int
  k : Int
  a : Option Addr
  n : Nat
  c : Nat
  xs : List Int
def ActV.cells (t : ActV) : List Value := [.int .i64 t.d, .int .i64 t.p, .int .u64 t.v, .int .i64 t.k, .slice t.a t.n t.c]
structure ActOk (w : World) (t : ActV) : Prop where
  d : -9223372036854775808 ≤ t.d ∧ t.d ≤ 9223372036854775807
  p : -9223372036854775808 ≤ t.p ∧ t.p ≤ 9223372036854775807
  v : U64 t.v
  k : -9223372036854775808 ≤ t.k ∧ t.k ≤ 9223372036854775807
  len : t.xs.length = t.n
  cap : t.n ≤ t.c
  max : t.c ≤ 9223372036854775807
  rd : Rd w t.a t.xs
  byt : Byt t.xs
theorem ActOk.below {w w' : World} {t : ActV} (h : ActOk w t) (hb : Below w.heap.size w w') : ActOk w' t :=
  ⟨h.d, h.p, h.v, h.k, h.len, h.cap, h.max, h.rd.below hb, h.byt⟩

section
variable {H : Type} {enc : TypeId × Value → H} {w : World} {base : Nat} {spare : Nat → Bool} {held : Bool}
theorem act_cells {fuel : Nat} {cs : List Value} {x : DataW H × List MemPlace} (h : DataW.trod enc Try.prog w base spare held fuel 30 cs = some x) (hsp : ∀ b, spare b = true) : ∃ t : ActV, cs = t.cells ∧ ActOk w t := by
  obtain ⟨ys, n, _, _, hlen, hyl, hf⟩ := DataW.trod_struct Try.underlying30 h
  have hC : Try.prog.cellsOf 30 = 5 := by kernel_rfl
  rw [hC] at hlen
  match cs, hlen, ys, hyl with
  | [c0, c1, c2, c3, c4], _, [y0, y1, y2, y3, y4], _ =>
    have h0 := hf 0 _ rfl
    have h1 := hf 1 _ rfl
    have h2 := hf 2 _ rfl
    have h3 := hf 3 _ rfl
    have h4 := hf 4 _ rfl
    have k3 : Try.prog.cellsOf 3 = 1 := by kernel_rfl
    have k28 : Try.prog.cellsOf 28 = 1 := by kernel_rfl
    have k25 : Try.prog.cellsOf 25 = 1 := by kernel_rfl
    simp [k3, k28, k25] at h0 h1 h2 h3 h4
    obtain ⟨d, e0, _, wd⟩ := DataW.trod_int Try.underlying3 h0
    obtain ⟨p, e1, _, wp⟩ := DataW.trod_int Try.underlying3 h1
    obtain ⟨v, e2, _, wv⟩ := DataW.trod_int Try.underlying28 h2
    obtain ⟨k, e3, _, wk⟩ := DataW.trod_int Try.underlying3 h3
    simp at e0 e1 e2 e3
    subst e0 e1 e2 e3
    have hs : ∃ a m c, c4 = .slice a m c := by
      rcases open_ints Try.underlying25 Try.underlying5 (by kernel_rfl) h4 with ⟨hcs, _⟩ | ⟨ad, l, c, zs, hcs, _⟩
      · simp at hcs; exact ⟨_, _, _, hcs⟩
      · simp at hcs; exact ⟨_, _, _, hcs⟩
    obtain ⟨a, m, c, rfl⟩ := hs
    obtain ⟨xs, hl, hc, hm, hr, hw⟩ := open_row Try.underlying25 Try.underlying5 (by kernel_rfl) h4 hsp
    exact ⟨⟨d, p, v, k, a, m, c, xs⟩, rfl, ⟨bounds_i64 wd, bounds_i64 wp, u64_of wv, bounds_i64 wk, hl, hc, by unfold maxLen at hm; omega, hr, byt_of hw⟩⟩
end
end Go.Proofs.Ytfkangknnaohaaa

/-
  IpsixKnown in pieces: the round up to a header behind. Conditions: those that the theorems name.
-/
import Derived.Test.YthipnkaghddbhaaSxBack
import Derived.Test.YthipnkaghddbhaaSxChains
import Derived.Test.YthipnkaghddbhaaSxParses
import Derived.Test.YthipnkaghddbhaaSxHeads
import Derived.Test.YthipnkaghddbhaaPieces
namespace Go.Proofs.Ythipnkaghddbhaa
open Go.ChangeShapes Go.WideShapes Go.ChangeAt Go.RowKit

/-- A copy in a row of the call's own, some bytes of it turned. -/
structure Cp (w0 w : World) (g n cap : Nat) (zs : List Int) : Prop where
  own : Own w w0.heap.size (some ⟨g, 0, none⟩) n cap zs
  below : Below w0.heap.size w0 w
theorem Cp.at_ {w0 w : World} {g n cap : Nat} {zs : List Int} (h : Cp w0 w g n cap zs) {j : Nat} (hj : j < n) : w.cell? ⟨g, j, none⟩ = some (.int .u8 (zs.getD j 0)) ∧ w.frozen? ⟨g, j, none⟩ = false := by
  rcases h.own.cases with ⟨h0, _⟩ | ⟨g', cur, e, _, hg, _⟩
  · cases h0
  obtain ⟨b, o, e2, hc⟩ := h.own.rd (by intro e3; have := h.own.len; rw [e3] at this; simp at this; omega)
  simp only [Option.some.injEq, Addr.mk.injEq, and_true] at e e2
  obtain ⟨rfl, _⟩ := e
  obtain ⟨rfl, rfl⟩ := e2
  have hck := hc j (by rw [h.own.len]; exact hj)
  rw [Nat.zero_add] at hck
  exact ⟨hck, frozen_of_row w g j cur _ hg⟩
theorem Cp.set {w0 w : World} {g n cap : Nat} {zs : List Int} (h : Cp w0 w g n cap zs) (j : Nat) (v : Int) : Cp w0 (w.setCell ⟨g, j, none⟩ (.int .u8 v)) g n cap (zs.set j v) :=
  ⟨h.own.set j v, h.below.trans ((Kept.setCell (S := fun k => k = g) w _ _ rfl).below h.below.size (fun k hk => by subst hk; exact (h.own.blk_ge k rfl).1))⟩
theorem Cp.rd {w0 w : World} {g n cap : Nat} {zs : List Int} (h : Cp w0 w g n cap zs) {a : Option Addr} {ys : List Int} (hr : Rd w0 a ys) : Rd w a ys := hr.below h.below
theorem Byt.set {xs : List Int} (h : Byt xs) (j : Nat) {v : Int} (hv : 0 ≤ v ∧ v < 256) : Byt (xs.set j v) := fun x hx => by
  rcases List.mem_or_eq_of_mem_set hx with h1 | h1
  · exact h x h1
  · rw [h1]; exact hv
theorem range_new (w : World) (cs : List Value) (t : TypeId) : (w.alloc (.cells cs.toArray t)).rangeAt w.heap.size 0 cs := fun j v hv => by
  rw [cell_of_row _ w.heap.size (0 + j) _ t (0, 0) (Blk_new w _ _)]; simpa using hv
/-- A header behind whose data are the call's own. -/
structure YOk (base : Nat) (w : World) (x : Ex) : Prop where
  kind : 0 ≤ x.k ∧ x.k < 256
  own : Own w base x.a x.n x.c x.xs
  byt : Byt x.xs
  few : x.n ≤ 3000
theorem YOk.ok {base : Nat} {w : World} {x : Ex} (h : YOk base w x) : x.ok w := ⟨h.kind, h.own.len, h.own.le.1, h.own.le.2, h.own.rd, h.byt⟩
theorem YOk.keep {S : Nat → Prop} {base : Nat} {w w' : World} {x : Ex} (h : YOk base w x) (k : Kept S w w') (hn : ∀ b, blk x.a = some b → ¬ S b) : YOk base w' x := ⟨h.kind, h.own.keep k hn, h.byt, h.few⟩
theorem YOk.apart {base : Nat} {w : World} {x : Ex} (h : YOk base w x) {z : Nat} {c : Array Value} {f : Nat × Nat} (hz : w.heap[z]? = some (.cells c 71 f)) : ∀ b, blk x.a = some b → b ≠ z := by
  intro b hb e
  subst e
  rcases h.own.cases with ⟨e, _⟩ | ⟨g, cur, e, _, hg, _⟩
  · rw [e] at hb; cases hb
  · rw [e] at hb
    simp [blk] at hb
    subst hb
    rw [hg] at hz
    simp at hz
/-- A chain that lies at b4, its rows behind. -/
structure Cn (wb : World) (b4 : Nat) (p : Int) (a : Option Addr) (m d : Nat) (es : List Ex) (wx : World) : Prop where
  sz : wb.heap.size = b4
  below : Below b4 wb wx
  rng : wx.rangeAt b4 0 [.slice a m d, .int .u8 p]
  th : wx.there b4 0 2
  row : OwnG wx (b4 + 1) 71 2 a m d (es.flatMap xcs)
  len : es.length = m
  ok : ∀ x ∈ es, YOk (b4 + 1) wx x
section
variable {wb wx wy : World} {b4 : Nat} {p : Int} {a : Option Addr} {m d : Nat} {es : List Ex}
theorem there_kept2 {w w' : World} (h : Below w.heap.size w w') {b n : Nat} (ht : w.there b 0 n) (hn : n ≠ 0) : w'.there b 0 n := by
  have hlt : b < w.heap.size := by
    obtain ⟨h1, _⟩ := ht 0 (by omega)
    obtain ⟨v, hv⟩ := Option.isSome_iff_exists.1 h1
    exact World.block_lt_of_cell? w ⟨b, 0 + 0, none⟩ hv
  exact fun j hj => by
    obtain ⟨h1, h2⟩ := ht j hj
    obtain ⟨v, hv⟩ := Option.isSome_iff_exists.1 h1
    refine ⟨by rw [cell_kept h hv]; rfl, ?_⟩
    rw [← h2]
    unfold World.frozen?
    rw [h.block b hlt]
theorem Cn.lt (h : Cn wb b4 p a m d es wx) : b4 < wx.heap.size := by
  obtain ⟨h1, _⟩ := h.th 0 (by decide)
  obtain ⟨v, hv⟩ := Option.isSome_iff_exists.1 h1
  exact World.block_lt_of_cell? wx ⟨b4, 0 + 0, none⟩ hv
theorem Cn.next (h : Cn wb b4 p a m d es wx) (hb : Below wx.heap.size wx wy) : Cn wb b4 p a m d es wy := by
  have hk : Kept (fun _ => False) wx wy := Kept.of_below hb (fun i hi hi' => by omega)
  exact ⟨h.sz, h.below.trans (hb.mono (by have := h.lt; omega)), range_kept hb h.rng, there_kept2 hb h.th (by decide), h.row.keep hk (fun _ _ => id), h.len, fun x hx => (h.ok x hx).keep hk (fun _ _ => id)⟩
theorem Cn.c0 (h : Cn wb b4 p a m d es wx) : wx.cell? ⟨b4, 0, none⟩ = some (.slice a m d) := range_cell h.rng rfl
theorem Cn.c1 (h : Cn wb b4 p a m d es wx) : wx.cell? ⟨b4, 1, none⟩ = some (.int .u8 p) := range_cell h.rng rfl
theorem Cn.may (h : Cn wb b4 p a m d es wx) (j : Nat) (hj : j < 2) : wx.frozen? ⟨b4, j, none⟩ = false := by
  have := (h.th j hj).2
  rwa [Nat.zero_add] at this
theorem Cn.ch (h : Cn wb b4 p a m d es wx) : Ch wx a m d es := by
  refine ⟨h.len, h.row.le.1, h.row.le.2, fun hne => ?_, fun x hx => (h.ok x hx).ok, fun x hx => by have := (h.ok x hx).few; omega⟩
  obtain ⟨g, rfl, hc⟩ := h.row.cell (by cases es with | nil => exact absurd rfl hne | cons y t => simp [xcs])
  refine ⟨g, 0, rfl, fun i x hx => ⟨?_, ?_⟩⟩
  · exact hc (i * 2 + 0) (.int .u8 x.k) (by rw [flat_two xcs (fun _ => rfl) es i x hx 0 (by omega)]; rfl)
  · exact hc (i * 2 + 1) (.slice x.a x.n x.c) (by rw [flat_two xcs (fun _ => rfl) es i x hx 1 (by omega)]; rfl)
/-- The last number is stored. -/
theorem Cn.proto (h : Cn wb b4 p a m d es wx) (q : Int) : Cn wb b4 q a m d es (wx.setCell ⟨b4, 1, none⟩ (.int .u8 q)) := by
  have hk : Kept (fun k => k = b4) wx (wx.setCell ⟨b4, 1, none⟩ (.int .u8 q)) := Kept.setCell _ _ _ rfl
  exact ⟨h.sz, h.below.setCell (p := ⟨b4, 1, none⟩) (Nat.le_refl _) _, range_one h.rng h.th (by show 1 < 2; decide) _, there_one h.th _ _, h.row.keep hk (fun k e e2 => by have := (h.row.blk_ge k e).1; omega), h.len, fun x hx => (h.ok x hx).keep hk (fun k e e2 => by have := ((h.ok x hx).own.blk_ge k e).1; omega)⟩
/-- A header is put behind the others. -/
theorem Cn.app (h : Cn wb b4 p a m d es wx) (y : Ex) (hy : YOk (b4 + 1) wx y) (hm : m ≤ 1000) : ∃ g d' w', (Builtin.append_ #[44, 44] 44 #[.slice a m d, .slice (some ⟨wx.heap.size, 0, none⟩) 1 1]).run Try.prog (wx.alloc (.cells (xcs y).toArray 71)) = .ok (.slice (some ⟨g, 0, none⟩) (m + 1) d') w' ∧
    w'.cell? ⟨b4, 0, none⟩ = some (.slice a m d) ∧ w'.frozen? ⟨b4, 0, none⟩ = false ∧ Cn wb b4 p (some ⟨g, 0, none⟩) (m + 1) d' (es ++ [y]) (w'.setCell ⟨b4, 0, none⟩ (.slice (some ⟨g, 0, none⟩) (m + 1) d')) := by
  have hlt := h.lt
  obtain ⟨g, d', w', hrun, hown, hk, hg⟩ := run_append_one wx (b4 + 1) 44 44 71 (.agg #[.int .u8 0, .slice none 0 0]) 2 32 infX Try.underlying44 rfl (by omega) h.row (xcs y) rfl (xcs_one y) (by omega) (by omega) (by omega)
  have hbk : ∀ k, blk a = some k → b4 + 1 ≤ k ∧ k < wx.heap.size := h.row.blk_ge
  have hne : ∀ k, blk a = some k → k ≠ b4 := fun k e => by have := (hbk k e).1; omega
  have hbw : Below (b4 + 1) wx w' := hk.below (by omega) (fun k e => (hbk k e).1)
  have hrw : w'.rangeAt b4 0 [.slice a m d, .int .u8 p] := fun j v hv => by
    have h1 := h.rng j v hv
    rw [← h1]
    exact World.cell?_of_block (hbw.block b4 (by omega))
  have htw : w'.there b4 0 2 := fun j hj => by
    obtain ⟨h1, h2⟩ := h.th j hj
    have h3 : w'.cell? ⟨b4, 0 + j, none⟩ = wx.cell? ⟨b4, 0 + j, none⟩ := World.cell?_of_block (hbw.block b4 (by omega))
    refine ⟨by rw [h3]; exact h1, ?_⟩
    rw [← h2]
    unfold World.frozen?
    rw [hbw.block b4 (by omega)]
  have hap : ∀ x, YOk (b4 + 1) wx x → ∀ b, blk x.a = some b → ¬ blk a = some b := fun x hx b e e2 => by
    rcases h.row.cases with ⟨e3, _⟩ | ⟨ga, cur, e3, _, hga, _⟩
    · rw [e3] at e2; cases e2
    · rw [e3] at e2
      simp [blk] at e2
      exact hx.apart hga b e e2.symm
  have hks : Kept (fun k => k = b4) w' (w'.setCell ⟨b4, 0, none⟩ (.slice (some ⟨g, 0, none⟩) (m + 1) d')) := Kept.setCell _ _ _ rfl
  refine ⟨g, d', w', hrun, range_cell hrw rfl, by have := (htw 0 (by decide)).2; rwa [Nat.zero_add] at this, h.sz, (h.below.trans (hbw.mono (Nat.le_succ _))).setCell (p := ⟨b4, 0, none⟩) (Nat.le_refl _) _, range_one hrw htw (by show 0 < 2; decide) _, there_one htw _ _, ?_, by rw [List.length_append, h.len]; rfl, fun x hx => ?_⟩
  · rw [List.flatMap_append]
    have e : [y].flatMap xcs = xcs y := by simp
    rw [e]
    exact hown.keep hks (fun k e e2 => by have := (hown.blk_ge k e).1; omega)
  · have one : ∀ x, YOk (b4 + 1) wx x → YOk (b4 + 1) (w'.setCell ⟨b4, 0, none⟩ (.slice (some ⟨g, 0, none⟩) (m + 1) d')) x := fun x hx =>
      (hx.keep hk (hap x hx)).keep hks (fun k e e2 => by have := (hx.own.blk_ge k e).1; omega)
    rcases List.mem_append.1 hx with h1 | h1
    · exact one x (h.ok x h1)
    · simp at h1; subst h1; exact one x hy
end
/-- A header behind that lies at b6, its data elsewhere. -/
structure BX (wx : World) (b6 : Nat) (y : Ex) (w : World) : Prop where
  below : Below wx.heap.size wx w
  rng : w.rangeAt b6 0 (xcs y)
  own : Own w wx.heap.size y.a y.n y.c y.xs
  byt : Byt y.xs
  kind : 0 ≤ y.k ∧ y.k < 256
  few : 5 ≤ y.n ∧ y.n ≤ 3000
  apart : ∀ i, blk y.a = some i → i ≠ b6
theorem BX.mk2 {wx w : World} {b6 gy sz : Nat} (p : Int) (hp : 0 ≤ p ∧ p < 256) (hb : Below wx.heap.size wx w) (ht : w.there b6 0 2) (hg : wx.heap.size ≤ b6) (ho : Own w wx.heap.size (some ⟨gy, 0, none⟩) sz sz (nz sz)) (hs : 5 ≤ sz ∧ sz ≤ 3000) (hne : gy ≠ b6) :
    BX wx b6 ⟨p, some ⟨gy, 0, none⟩, sz, sz, nz sz⟩ (w.setCells b6 0 (xcs ⟨p, some ⟨gy, 0, none⟩, sz, sz, nz sz⟩)) :=
  ⟨Below.setCells hb b6 hg _ _, World.rangeAt_setCells_same _ _ _ _ ht, ho.keep (S := fun k => k = b6) (Kept.setCells b6 _ 0 _ (Kept.refl _ _)) (fun k e e2 => by simp [blk] at e; omega), nz_byt sz, hp, hs, fun i e => by simp [blk] at e; omega⟩
theorem BX.c0 {wx w : World} {b6 : Nat} {y : Ex} (h : BX wx b6 y w) : w.cell? ⟨b6, 0, none⟩ = some (.int .u8 y.k) := range_cell h.rng rfl
theorem BX.c1 {wx w : World} {b6 : Nat} {y : Ex} (h : BX wx b6 y w) : w.cell? ⟨b6, 1, none⟩ = some (.slice y.a y.n y.c) := range_cell h.rng rfl
theorem BX.at_ {wx w : World} {b6 : Nat} {y : Ex} (h : BX wx b6 y w) {j : Nat} (hj : j < y.n) : ∃ g z, y.a = some ⟨g, 0, none⟩ ∧ w.cell? ⟨g, j, none⟩ = some (.int .u8 z) ∧ (0 ≤ z ∧ z < 256) ∧ w.frozen? ⟨g, j, none⟩ = false ∧
    ∀ v, (0 ≤ v ∧ v < 256) → BX wx b6 { y with xs := y.xs.set j v } (w.setCell ⟨g, j, none⟩ (.int .u8 v)) := by
  obtain ⟨g, o, e, _⟩ := h.own.rd (by intro e; have := h.own.len; rw [e] at this; simp at this; have := h.few; omega)
  have e0 : o = 0 := by
    rcases h.own.cases with ⟨e2, _⟩ | ⟨g', cur, e2, _⟩
    · rw [e2] at e; cases e
    · rw [e2] at e; simp at e; exact e.2.symm
  subst e0
  obtain ⟨yk, ya, yn, yc, yx⟩ := y
  simp only at e hj
  subst e
  have hcp : Cp wx w g yn yc yx := ⟨h.own, h.below⟩
  obtain ⟨d1, f1⟩ := hcp.at_ (j := j) hj
  have hz := h.byt.get j
  refine ⟨g, yx.getD j 0, rfl, d1, hz, f1, fun v hv => ?_⟩
  have hgb : g ≠ b6 := h.apart g rfl
  exact ⟨(hcp.set j v).below, fun i u hu => (World.cell?_setCell_other w ⟨g, j, none⟩ ⟨b6, 0 + i, none⟩ _ (fun e3 => hgb (Addr.mk.inj e3).1)).trans (h.rng i u hu), (hcp.set j v).own, h.byt.set j hv, h.kind, h.few, h.apart⟩
theorem BX.yok {wx w : World} {b6 b4 : Nat} {y : Ex} (h : BX wx b6 y w) (hb : b4 + 1 ≤ wx.heap.size) : YOk (b4 + 1) w y := ⟨h.kind, h.own.mono hb, h.byt, h.few.2⟩
/-- The kinds, the lengths. -/
def kinds8 : List Int := [0, 43, 44, 60, 6, 17, 59, 255]
theorem kinds8_get (r : Nat) : 0 ≤ kinds8.getD r 0 ∧ kinds8.getD r 0 < 256 := Byt.get (xs := kinds8) (by intro x hx; simp [kinds8] at hx; omega) r
def szL : List Nat := [6, 6, 14, 22, 5, 7, 6, 2046, 2054]
theorem szL_get (r : Nat) (hr : r < 9) : 5 ≤ szL.getD r 0 ∧ szL.getD r 0 ≤ 3000 := by
  have : r = 0 ∨ r = 1 ∨ r = 2 ∨ r = 3 ∨ r = 4 ∨ r = 5 ∨ r = 6 ∨ r = 7 ∨ r = 8 := by omega
  rcases this with rfl | rfl | rfl | rfl | rfl | rfl | rfl | rfl | rfl <;> decide
theorem szL_cell (w : World) (r : Nat) (hr : r < 9) : (w.alloc (.cells #[.int .i64 6, .int .i64 6, .int .i64 14, .int .i64 22, .int .i64 5, .int .i64 7, .int .i64 6, .int .i64 2046, .int .i64 2054] 3)).cell? ⟨w.heap.size, r, none⟩ = some (.int .i64 ((szL.getD r 0 : Nat) : Int)) := by
  have : r = 0 ∨ r = 1 ∨ r = 2 ∨ r = 3 ∨ r = 4 ∨ r = 5 ∨ r = 6 ∨ r = 7 ∨ r = 8 := by omega
  rcases this with rfl | rfl | rfl | rfl | rfl | rfl | rfl | rfl | rfl <;> exact World.cell?_alloc_new _ _ _ _
theorem builtY (p : Int) (a : Option Addr) (n c : Nat) : Try.prog.built 71 [(0, .int .u8 p), (1, .slice a n c)] = some #[.int .u8 p, .slice a n c] := by kernel_rfl

noncomputable def KC : Code := Try.f7.body.getD .skip
set_option maxRecDepth 100000 in
theorem fr266 {a : Act} (h : Fr 266 a) : ∃ f : Nat → Value, a = ⟨#[f 0, f 1, f 2, f 3, f 4, f 5, f 6, f 7, f 8, f 9, f 10, f 11, f 12, f 13, f 14, f 15, f 16, f 17, f 18, f 19, f 20, f 21, f 22, f 23, f 24, f 25, f 26, f 27, f 28, f 29, f 30, f 31, f 32, f 33, f 34, f 35, f 36, f 37, f 38, f 39, f 40, f 41, f 42, f 43, f 44, f 45, f 46, f 47, f 48, f 49, f 50, f 51, f 52, f 53, f 54, f 55, f 56, f 57, f 58, f 59, f 60, f 61, f 62, f 63, f 64, f 65, f 66, f 67, f 68, f 69, f 70, f 71, f 72, f 73, f 74, f 75, f 76, f 77, f 78, f 79, f 80, f 81, f 82, f 83, f 84, f 85, f 86, f 87, f 88, f 89, f 90, f 91, f 92, f 93, f 94, f 95, f 96, f 97, f 98, f 99, f 100, f 101, f 102, f 103, f 104, f 105, f 106, f 107, f 108, f 109, f 110, f 111, f 112, f 113, f 114, f 115, f 116, f 117, f 118, f 119, f 120, f 121, f 122, f 123, f 124, f 125, f 126, f 127, f 128, f 129, f 130, f 131, f 132, f 133, f 134, f 135, f 136, f 137, f 138, f 139, f 140, f 141, f 142, f 143, f 144, f 145, f 146, f 147, f 148, f 149, f 150, f 151, f 152, f 153, f 154, f 155, f 156, f 157, f 158, f 159, f 160, f 161, f 162, f 163, f 164, f 165, f 166, f 167, f 168, f 169, f 170, f 171, f 172, f 173, f 174, f 175, f 176, f 177, f 178, f 179, f 180, f 181, f 182, f 183, f 184, f 185, f 186, f 187, f 188, f 189, f 190, f 191, f 192, f 193, f 194, f 195, f 196, f 197, f 198, f 199, f 200, f 201, f 202, f 203, f 204, f 205, f 206, f 207, f 208, f 209, f 210, f 211, f 212, f 213, f 214, f 215, f 216, f 217, f 218, f 219, f 220, f 221, f 222, f 223, f 224, f 225, f 226, f 227, f 228, f 229, f 230, f 231, f 232, f 233, f 234, f 235, f 236, f 237, f 238, f 239, f 240, f 241, f 242, f 243, f 244, f 245, f 246, f 247, f 248, f 249, f 250, f 251, f 252, f 253, f 254, f 255, f 256, f 257, f 258, f 259, f 260, f 261, f 262, f 263, f 264, f 265], []⟩ ∧ ∀ i, f i = sl a i := fr_any h

set_option maxRecDepth 100000 in
set_option maxHeartbeats 4000000 in
theorem u0 (w : World) (a : Act) (hf : Fr 266 a)  :
    Code.wp Try.prog (cAt [0] KC) (Exit.then (fun a' w' => Fr 266 a' ∧ w = w') Nope) a w := by
  obtain ⟨f, ha, hs⟩ := fr266 hf
  clear hs hf
  subst ha
  refine piece2 fun J0 K0 hJ0 hK0 => ?_
  conv => arg 2; whnf
  go_wp2_with fail
  refine Met.intro (hJ0 _ _ ?_)
  exact ⟨⟨rfl, rfl⟩, rfl⟩

set_option maxRecDepth 100000 in
set_option maxHeartbeats 4000000 in
theorem u1 (w : World) (a : Act) (hf : Fr 266 a)  :
    Code.wp Try.prog (cAt [1,0] KC) (Exit.then (fun a' w' => ∃ bk, Fr 266 a' ∧ sl a' 1 = .slice (some ⟨bk, 0, none⟩) 8 8 ∧ (∀ r, r < 8 → w'.cell? ⟨bk, r, none⟩ = some (.int .u8 (kinds8.getD r 0))) ∧ Below w.heap.size w w') Nope) a w := by
  obtain ⟨f, ha, hs⟩ := fr266 hf
  clear hs hf
  subst ha
  refine piece2 fun J0 K0 hJ0 hK0 => ?_
  conv => arg 2; whnf
  have hb : Below w.heap.size w (w.alloc (.cells (bv kinds8).toArray 5)) := (Below.refl _ _).alloc (Nat.le_refl _) _
  have HL : Hid (∀ r, r < 8 → (w.alloc (.cells (bv kinds8).toArray 5)).cell? ⟨w.heap.size, r, none⟩ = some (.int .u8 (kinds8.getD r 0))) := fun r hr => by
    have h1 := rd_at (Own.lit w 0 kinds8 8 rfl (by decide) (Nat.zero_le _)).rd (j := r) hr
    rwa [Nat.zero_add] at h1
  have HB := Lib.hid hb
  clear hb
  go_wp2_with fail
  refine Met.intro (hJ0 _ _ ?_)
  exact ⟨w.heap.size, ⟨rfl, rfl⟩, rfl, HL.out, HB.out⟩

set_option maxRecDepth 100000 in
set_option maxHeartbeats 4000000 in
theorem u2 (w : World) (bk : Nat) (a : Act) (hf : Fr 266 a) (h1 : sl a 1 = .slice (some ⟨bk, 0, none⟩) 8 8) :
    Code.wp Try.prog (cAt [1,1,0] KC) (Exit.then (fun a' w' => Fr 266 a' ∧ sl a' 1 = .slice (some ⟨bk, 0, none⟩) 8 8 ∧ sl a' 2 = .int .i64 1 ∧ w = w') Nope) a w := by
  obtain ⟨f, ha, hs⟩ := fr266 hf
  have e1 := (hs 1).trans h1
  rw [e1] at ha
  clear hs hf e1 h1
  subst ha
  refine piece2 fun J0 K0 hJ0 hK0 => ?_
  conv => arg 2; whnf
  go_wp2_with fail
  refine Met.intro (hJ0 _ _ ?_)
  exact ⟨⟨rfl, rfl⟩, rfl, rfl, rfl⟩

set_option maxRecDepth 100000 in
set_option maxHeartbeats 4000000 in
theorem u3 (w : World) (bk : Nat) (a : Act) (hf : Fr 266 a) (h1 : sl a 1 = .slice (some ⟨bk, 0, none⟩) 8 8) (h2 : sl a 2 = .int .i64 1) :
    Code.wp Try.prog (cAt [1,1,1,0,0] KC) (Exit.then (fun a' w' => Fr 266 a' ∧ sl a' 1 = .slice (some ⟨bk, 0, none⟩) 8 8 ∧ sl a' 2 = .int .i64 1 ∧ sl a' 3 = .int .i64 0 ∧ w = w') Nope) a w := by
  obtain ⟨f, ha, hs⟩ := fr266 hf
  have e1 := (hs 1).trans h1
  have e2 := (hs 2).trans h2
  rw [e1, e2] at ha
  clear hs hf e1 h1 e2 h2
  subst ha
  refine piece2 fun J0 K0 hJ0 hK0 => ?_
  conv => arg 2; whnf
  go_wp2_with fail
  refine Met.intro (hJ0 _ _ ?_)
  exact ⟨⟨rfl, rfl⟩, rfl, rfl, rfl, rfl⟩

set_option maxRecDepth 100000 in
set_option maxHeartbeats 4000000 in
theorem u4 (w : World) (bk n i : Nat) (hi : i < 300) (a : Act) (hf : Fr 266 a) (h1 : sl a 1 = .slice (some ⟨bk, 0, none⟩) 8 8) (h2 : sl a 2 = .int .i64 (n : Int)) (h3 : sl a 3 = .int .i64 (i : Int)) :
    Code.wp Try.prog (cAt [1,1,1,0,1,2,2,0] KC) (Exit.then (fun a' w' => Fr 266 a' ∧ sl a' 1 = .slice (some ⟨bk, 0, none⟩) 8 8 ∧ sl a' 2 = .int .i64 (n : Int) ∧ sl a' 3 = .int .i64 (i : Int) ∧ w = w') Nope) a w := by
  obtain ⟨f, ha, hs⟩ := fr266 hf
  have e1 := (hs 1).trans h1
  have e2 := (hs 2).trans h2
  have e3 := (hs 3).trans h3
  rw [e1, e2, e3] at ha
  clear hs hf e1 h1 e2 h2 e3 h3
  subst ha
  refine piece2 fun J0 K0 hJ0 hK0 => ?_
  conv => arg 2; whnf
  have hi' : (i : Int) < 300 := by omega
  go_wp2_with fail
  refine Met.intro (hJ0 _ _ ?_)
  exact ⟨⟨rfl, rfl⟩, rfl, rfl, rfl, rfl⟩

set_option maxRecDepth 100000 in
set_option maxHeartbeats 4000000 in
theorem u4x (w : World) (bk : Nat) (a : Act) (hf : Fr 266 a) (h1 : sl a 1 = .slice (some ⟨bk, 0, none⟩) 8 8) (h3 : sl a 3 = .int .i64 300) :
    Code.wp Try.prog (cAt [1,1,1,0,1,2,2] KC) (Outs 0 (fun a' w' => Fr 266 a' ∧ w = w')) a w := by
  obtain ⟨f, ha, hs⟩ := fr266 hf
  have e1 := (hs 1).trans h1
  have e3 := (hs 3).trans h3
  rw [e1, e3] at ha
  clear hs hf e1 h1 e3 h3
  subst ha
  conv => arg 2; whnf
  go_wp2_with fail
  exact ⟨rfl, ⟨rfl, rfl⟩, rfl⟩

set_option maxRecDepth 100000 in
set_option maxHeartbeats 4000000 in
theorem u6 (w : World) (bk n i : Nat) (a : Act) (hf : Fr 266 a) (h1 : sl a 1 = .slice (some ⟨bk, 0, none⟩) 8 8) (h2 : sl a 2 = .int .i64 (n : Int)) (h3 : sl a 3 = .int .i64 (i : Int)) :
    Code.wp Try.prog (cAt [1,1,1,0,1,2,2,1,0,2,0] KC) (Exit.then (fun a' w' => ∃ b4, Fr 266 a' ∧ sl a' 1 = .slice (some ⟨bk, 0, none⟩) 8 8 ∧ sl a' 2 = .int .i64 (n : Int) ∧ sl a' 3 = .int .i64 (i : Int) ∧ sl a' 4 = .pointer (some ⟨b4, 0, none⟩) ∧ Cn w b4 0 none 0 0 [] w') Nope) a w := by
  obtain ⟨f, ha, hs⟩ := fr266 hf
  have e1 := (hs 1).trans h1
  have e2 := (hs 2).trans h2
  have e3 := (hs 3).trans h3
  rw [e1, e2, e3] at ha
  clear hs hf e1 h1 e2 h2 e3 h3
  subst ha
  refine piece2 fun J0 K0 hJ0 hK0 => ?_
  conv => arg 2; whnf
  have HR : Hid (Cn w w.heap.size 0 none 0 0 [] (w.alloc (.cells #[.slice none 0 0, .int .u8 0] 46))) :=
    ⟨rfl, (Below.refl _ _).alloc (Nat.le_refl _) _, range_new w [.slice none 0 0, .int .u8 0] 46, there_new _ _ _ _ rfl _ rfl, OwnG.nil _ _ _ _, rfl, fun x hx => by cases hx⟩
  go_wp2_with fail
  refine Met.intro (hJ0 _ _ ?_)
  exact ⟨_, ⟨rfl, rfl⟩, rfl, rfl, rfl, rfl, HR.out⟩

set_option maxRecDepth 100000 in
set_option maxHeartbeats 4000000 in
theorem u7 (w : World) (bk n i b4 : Nat) (hn : n < 100003) (a : Act) (hf : Fr 266 a) (h1 : sl a 1 = .slice (some ⟨bk, 0, none⟩) 8 8) (h2 : sl a 2 = .int .i64 (n : Int)) (h3 : sl a 3 = .int .i64 (i : Int)) (h4 : sl a 4 = .pointer (some ⟨b4, 0, none⟩)) :
    Code.wp Try.prog (cAt [1,1,1,0,1,2,2,1,0,2,1,0,0] KC) (Exit.then (fun a' w' => ∃ (q : Nat), Fr 266 a' ∧ sl a' 1 = .slice (some ⟨bk, 0, none⟩) 8 8 ∧ sl a' 2 = .int .i64 (n : Int) ∧ sl a' 3 = .int .i64 (i : Int) ∧ sl a' 4 = .pointer (some ⟨b4, 0, none⟩) ∧ sl a' 5 = .int .i64 (q : Int) ∧ q ≤ 4 ∧ w = w') Nope) a w := by
  obtain ⟨f, ha, hs⟩ := fr266 hf
  have e1 := (hs 1).trans h1
  have e2 := (hs 2).trans h2
  have e3 := (hs 3).trans h3
  have e4 := (hs 4).trans h4
  rw [e1, e2, e3, e4] at ha
  clear hs hf e1 h1 e2 h2 e3 h3 e4 h4
  subst ha
  refine piece2 fun J0 K0 hJ0 hK0 => ?_
  conv => arg 2; whnf
  obtain ⟨q, hq⟩ := Int.eq_ofNat_of_zero_le (show 0 ≤ (n : Int) % 5 by omega)
  have hq4 : q ≤ 4 := by omega
  have i1 : (n : Int).tmod 5 = (q : Int) := by rw [Int.tmod_eq_emod_of_nonneg (by omega)]; exact hq
  have i2 : IntKind.i64.wrap (q : Int) = (q : Int) := IntWalk.i64_in _ (by omega)
  clear hq
  go_wp2_with fail
  refine Met.intro (hJ0 _ _ ?_)
  exact ⟨q, ⟨rfl, rfl⟩, rfl, rfl, rfl, rfl, rfl, hq4, rfl⟩

set_option maxRecDepth 100000 in
set_option maxHeartbeats 4000000 in
theorem u8 (w : World) (bk n i b4 q : Nat) (hq : 0 < q) (a : Act) (hf : Fr 266 a) (h1 : sl a 1 = .slice (some ⟨bk, 0, none⟩) 8 8) (h2 : sl a 2 = .int .i64 (n : Int)) (h3 : sl a 3 = .int .i64 (i : Int)) (h4 : sl a 4 = .pointer (some ⟨b4, 0, none⟩)) (h5 : sl a 5 = .int .i64 (q : Int)) :
    Code.wp Try.prog (cAt [1,1,1,0,1,2,2,1,0,2,1,0,1,2,2,0] KC) (Exit.then (fun a' w' => Fr 266 a' ∧ sl a' 1 = .slice (some ⟨bk, 0, none⟩) 8 8 ∧ sl a' 2 = .int .i64 (n : Int) ∧ sl a' 3 = .int .i64 (i : Int) ∧ sl a' 4 = .pointer (some ⟨b4, 0, none⟩) ∧ sl a' 5 = .int .i64 (q : Int) ∧ w = w') Nope) a w := by
  obtain ⟨f, ha, hs⟩ := fr266 hf
  have e1 := (hs 1).trans h1
  have e2 := (hs 2).trans h2
  have e3 := (hs 3).trans h3
  have e4 := (hs 4).trans h4
  have e5 := (hs 5).trans h5
  rw [e1, e2, e3, e4, e5] at ha
  clear hs hf e1 h1 e2 h2 e3 h3 e4 h4 e5 h5
  subst ha
  refine piece2 fun J0 K0 hJ0 hK0 => ?_
  conv => arg 2; whnf
  have hq' : (0 : Int) < (q : Int) := by omega
  go_wp2_with fail
  refine Met.intro (hJ0 _ _ ?_)
  exact ⟨⟨rfl, rfl⟩, rfl, rfl, rfl, rfl, rfl, rfl⟩

set_option maxRecDepth 100000 in
set_option maxHeartbeats 4000000 in
theorem u8x (w : World) (bk n i b4 : Nat) (a : Act) (hf : Fr 266 a) (h1 : sl a 1 = .slice (some ⟨bk, 0, none⟩) 8 8) (h2 : sl a 2 = .int .i64 (n : Int)) (h3 : sl a 3 = .int .i64 (i : Int)) (h4 : sl a 4 = .pointer (some ⟨b4, 0, none⟩)) (h5 : sl a 5 = .int .i64 0) :
    Code.wp Try.prog (cAt [1,1,1,0,1,2,2,1,0,2,1,0,1,2,2] KC) (Outs 2 (fun a' w' => Fr 266 a' ∧ sl a' 1 = .slice (some ⟨bk, 0, none⟩) 8 8 ∧ sl a' 2 = .int .i64 (n : Int) ∧ sl a' 3 = .int .i64 (i : Int) ∧ sl a' 4 = .pointer (some ⟨b4, 0, none⟩) ∧ w = w')) a w := by
  obtain ⟨f, ha, hs⟩ := fr266 hf
  have e1 := (hs 1).trans h1
  have e2 := (hs 2).trans h2
  have e3 := (hs 3).trans h3
  have e4 := (hs 4).trans h4
  have e5 := (hs 5).trans h5
  rw [e1, e2, e3, e4, e5] at ha
  clear hs hf e1 h1 e2 h2 e3 h3 e4 h4 e5 h5
  subst ha
  conv => arg 2; whnf
  go_wp2_with fail
  exact ⟨rfl, ⟨rfl, rfl⟩, rfl, rfl, rfl, rfl, rfl⟩

set_option maxRecDepth 100000 in
set_option maxHeartbeats 8000000 in
theorem u10 (w0 wx : World) (bk n i b4 q : Nat) (hn : n < 100003) (hi : i < 300) (HC : Hid (∀ r, r < 8 → w0.cell? ⟨bk, r, none⟩ = some (.int .u8 (kinds8.getD r 0)))) (HB : Hid (Below w0.heap.size w0 wx)) (a : Act) (hf : Fr 266 a) (h1 : sl a 1 = .slice (some ⟨bk, 0, none⟩) 8 8) (h2 : sl a 2 = .int .i64 (n : Int)) (h3 : sl a 3 = .int .i64 (i : Int)) (h4 : sl a 4 = .pointer (some ⟨b4, 0, none⟩)) (h5 : sl a 5 = .int .i64 (q : Int)) :
    Code.wp Try.prog (cAt [1,1,1,0,1,2,2,1,0,2,1,0,1,2,2,1,0,2,0] KC) (Exit.then (fun a' w' => ∃ (b6 : Nat) (y : Ex), Fr 266 a' ∧ sl a' 1 = .slice (some ⟨bk, 0, none⟩) 8 8 ∧ sl a' 2 = .int .i64 (n : Int) ∧ sl a' 3 = .int .i64 (i : Int) ∧ sl a' 4 = .pointer (some ⟨b4, 0, none⟩) ∧ sl a' 5 = .int .i64 (q : Int) ∧ sl a' 6 = .pointer (some ⟨b6, 0, none⟩) ∧ BX wx b6 y w') Nope) a wx := by
  obtain ⟨f, ha, hs⟩ := fr266 hf
  have e1 := (hs 1).trans h1
  have e2 := (hs 2).trans h2
  have e3 := (hs 3).trans h3
  have e4 := (hs 4).trans h4
  have e5 := (hs 5).trans h5
  rw [e1, e2, e3, e4, e5] at ha
  clear hs hf e1 h1 e2 h2 e3 h3 e4 h4 e5 h5
  subst ha
  refine piece2 fun J0 K0 hJ0 hK0 => ?_
  conv => arg 2; whnf
  obtain ⟨n5, hn5⟩ := Int.eq_ofNat_of_zero_le (show 0 ≤ (n : Int) / 5 by omega)
  obtain ⟨n58, hn58⟩ := Int.eq_ofNat_of_zero_le (show 0 ≤ (n5 : Int) % 8 by omega)
  obtain ⟨i2, hi2⟩ := Int.eq_ofNat_of_zero_le (show 0 ≤ (i : Int) % 2 by omega)
  obtain ⟨n7, hn7⟩ := Int.eq_ofNat_of_zero_le (show 0 ≤ (n : Int) / 7 by omega)
  obtain ⟨n79, hn79⟩ := Int.eq_ofNat_of_zero_le (show 0 ≤ (n7 : Int) % 9 by omega)
  obtain ⟨i6, hi6⟩ := Int.eq_ofNat_of_zero_le (show 0 ≤ (i : Int) % 6 by omega)
  obtain ⟨r1, hr1⟩ : ∃ r, n58 % (4 + i2) = r := ⟨_, rfl⟩
  obtain ⟨r2, hr2'⟩ : ∃ r, n79 % (4 + i6) = r := ⟨_, rfl⟩
  have hi2b : i2 < 2 := by omega
  have hi6b : i6 < 6 := by omega
  have hr8 : r1 < 8 := by have := Nat.mod_lt n58 (show 0 < 4 + i2 by omega); omega
  have hr2 : r2 < 9 := by have := Nat.mod_le n79 (4 + i6); omega
  have hr1i : (n58 : Int) % (4 + (i2 : Int)) = (r1 : Int) := by rw [← hr1]; simp
  have hr2i : (n79 : Int) % (4 + (i6 : Int)) = (r2 : Int) := by rw [← hr2']; simp
  obtain ⟨p, hp⟩ : ∃ x, kinds8.getD r1 0 = x := ⟨_, rfl⟩
  have hp0 := kinds8_get r1
  have hs0 := cell_kept HB.out (HC.out r1 hr8)
  rw [hp] at hp0 hs0
  have HS0 := Lib.hid hs0
  obtain ⟨sz, hsz⟩ : ∃ x, szL.getD r2 0 = x := ⟨_, rfl⟩
  have hsz2 := szL_get r2 hr2
  rw [hsz] at hsz2
  have i1 : (n : Int).tdiv 5 = (n5 : Int) := by rw [Int.tdiv_eq_ediv_of_nonneg (by omega)]; exact hn5
  have i2' : (n5 : Int).tmod 8 = (n58 : Int) := by rw [Int.tmod_eq_emod_of_nonneg (by omega)]; exact hn58
  have i3 : (i : Int).tmod 2 = (i2 : Int) := by rw [Int.tmod_eq_emod_of_nonneg (by omega)]; exact hi2
  have i4 : (n58 : Int).tmod (4 + (i2 : Int)) = (r1 : Int) := by rw [Int.tmod_eq_emod_of_nonneg (by omega)]; exact hr1i
  have i5 : (n : Int).tdiv 7 = (n7 : Int) := by rw [Int.tdiv_eq_ediv_of_nonneg (by omega)]; exact hn7
  have i6' : (n7 : Int).tmod 9 = (n79 : Int) := by rw [Int.tmod_eq_emod_of_nonneg (by omega)]; exact hn79
  have i7 : (i : Int).tmod 6 = (i6 : Int) := by rw [Int.tmod_eq_emod_of_nonneg (by omega)]; exact hi6
  have i8 : (n79 : Int).tmod (4 + (i6 : Int)) = (r2 : Int) := by rw [Int.tmod_eq_emod_of_nonneg (by omega)]; exact hr2i
  have j1 : IntKind.i64.wrap (n5 : Int) = (n5 : Int) := IntWalk.i64_in _ (by omega)
  have j2 : IntKind.i64.wrap (n58 : Int) = (n58 : Int) := IntWalk.i64_in _ (by omega)
  have j3 : IntKind.i64.wrap (i2 : Int) = (i2 : Int) := IntWalk.i64_in _ (by omega)
  have j4 : IntKind.i64.wrap (4 + (i2 : Int)) = 4 + (i2 : Int) := IntWalk.i64_in _ (by omega)
  have j5 : IntKind.i64.wrap (r1 : Int) = (r1 : Int) := IntWalk.i64_in _ (by omega)
  have j6 : IntKind.i64.wrap (n7 : Int) = (n7 : Int) := IntWalk.i64_in _ (by omega)
  have j7 : IntKind.i64.wrap (n79 : Int) = (n79 : Int) := IntWalk.i64_in _ (by omega)
  have j8 : IntKind.i64.wrap (i6 : Int) = (i6 : Int) := IntWalk.i64_in _ (by omega)
  have j9 : IntKind.i64.wrap (4 + (i6 : Int)) = 4 + (i6 : Int) := IntWalk.i64_in _ (by omega)
  have j10 : IntKind.i64.wrap (r2 : Int) = (r2 : Int) := IntWalk.i64_in _ (by omega)
  have k1 : ¬ 4 + (i2 : Int) = 0 := by omega
  have k2 : ¬ 4 + (i6 : Int) = 0 := by omega
  have k3 : (r1 : Int) < 8 := by omega
  have k4 : (r2 : Int) < 9 := by omega
  clear hn5 hn58 hi2 hn7 hn79 hi6 hr1 hr2' hr1i hr2i hp
  refine wp_region_held_drew (S := fun w' => World.cell? w' ⟨bk, r1, none⟩ = some (.int .u8 p)) (by kernel_rfl) hs0 (fun hS => ?_)
  have hb0 : Below wx.heap.size wx wx.drew := (Below.refl _ _).drew
  obtain ⟨x0, hx0⟩ : ∃ y, wx.drew = y := ⟨_, rfl⟩
  have hs1 : World.cell? x0 ⟨bk, r1, none⟩ = some (.int .u8 p) := by rw [← hx0]; exact hs0
  rw [hx0] at hb0 hS ⊢
  clear hx0 hs0
  refine tk 0 30 (.slice (some ⟨bk, 0, none⟩) 8 8) rfl rfl (by kernel_rfl) (by kernel_rfl) (by kernel_rfl) (fun _ _ _ h => h) (Or.inl ⟨by rfl, fun w' h' => ?_⟩) hS ?_
  · go_simp
  try simp only [Act.put, List.setIfInBounds_toArray, List.set_cons_zero, List.set_cons_succ]
  refine tk 1 31 (.int .i64 (n : Int)) rfl rfl (by kernel_rfl) (by kernel_rfl) (by kernel_rfl) (fun _ _ _ h => h) (Or.inl ⟨by rfl, fun w' h' => ?_⟩) hS ?_
  · go_simp
  try simp only [Act.put, List.setIfInBounds_toArray, List.set_cons_zero, List.set_cons_succ]
  refine tk 2 32 (.int .i64 (n5 : Int)) rfl rfl (by kernel_rfl) (by kernel_rfl) (by kernel_rfl) (fun _ _ _ h => h) (Or.inl ⟨by rfl, fun w' h' => ?_⟩) hS ?_
  · go_simp
  try simp only [Act.put, List.setIfInBounds_toArray, List.set_cons_zero, List.set_cons_succ]
  refine tk 3 33 (.int .i64 (n58 : Int)) rfl rfl (by kernel_rfl) (by kernel_rfl) (by kernel_rfl) (fun _ _ _ h => h) (Or.inl ⟨by rfl, fun w' h' => ?_⟩) hS ?_
  · go_simp
  try simp only [Act.put, List.setIfInBounds_toArray, List.set_cons_zero, List.set_cons_succ]
  refine tk 4 34 (.int .i64 (i : Int)) rfl rfl (by kernel_rfl) (by kernel_rfl) (by kernel_rfl) (fun _ _ _ h => h) (Or.inl ⟨by rfl, fun w' h' => ?_⟩) hS ?_
  · go_simp
  try simp only [Act.put, List.setIfInBounds_toArray, List.set_cons_zero, List.set_cons_succ]
  refine tk 5 35 (.int .i64 (i2 : Int)) rfl rfl (by kernel_rfl) (by kernel_rfl) (by kernel_rfl) (fun _ _ _ h => h) (Or.inl ⟨by rfl, fun w' h' => ?_⟩) hS ?_
  · go_simp
  try simp only [Act.put, List.setIfInBounds_toArray, List.set_cons_zero, List.set_cons_succ]
  refine tk 6 36 (.int .i64 (4 + (i2 : Int))) rfl rfl (by kernel_rfl) (by kernel_rfl) (by kernel_rfl) (fun _ _ _ h => h) (Or.inl ⟨by rfl, fun w' h' => ?_⟩) hS ?_
  · go_simp
  try simp only [Act.put, List.setIfInBounds_toArray, List.set_cons_zero, List.set_cons_succ]
  refine tk 7 37 (.int .i64 (r1 : Int)) rfl rfl (by kernel_rfl) (by kernel_rfl) (by kernel_rfl) (fun _ _ _ h => h) (Or.inl ⟨by rfl, fun w' h' => ?_⟩) hS ?_
  · go_simp
  try simp only [Act.put, List.setIfInBounds_toArray, List.set_cons_zero, List.set_cons_succ]
  refine tk 8 38 (.pointer (some ⟨bk, r1, none⟩)) rfl rfl (by kernel_rfl) (by kernel_rfl) (by kernel_rfl) (fun _ _ _ h => h) (Or.inl ⟨by rfl, fun w' h' => ?_⟩) hS ?_
  · go_simp
  try simp only [Act.put, List.setIfInBounds_toArray, List.set_cons_zero, List.set_cons_succ]
  refine tk 9 39 (.int .u8 p) rfl rfl (by kernel_rfl) (by kernel_rfl) (by kernel_rfl) (fun _ _ _ h => h) (Or.inl ⟨by rfl, fun w' h' => ?_⟩) hS ?_
  · have hc := h'
    go_simp
  try simp only [Act.put, List.setIfInBounds_toArray, List.set_cons_zero, List.set_cons_succ]
  refine tk 11 41 (.int .i64 (n : Int)) rfl rfl (by kernel_rfl) (by kernel_rfl) (by kernel_rfl) (fun _ _ _ h => h) (Or.inl ⟨by rfl, fun w' h' => ?_⟩) hS ?_
  · go_simp
  try simp only [Act.put, List.setIfInBounds_toArray, List.set_cons_zero, List.set_cons_succ]
  refine tk 12 42 (.int .i64 (n7 : Int)) rfl rfl (by kernel_rfl) (by kernel_rfl) (by kernel_rfl) (fun _ _ _ h => h) (Or.inl ⟨by rfl, fun w' h' => ?_⟩) hS ?_
  · go_simp
  try simp only [Act.put, List.setIfInBounds_toArray, List.set_cons_zero, List.set_cons_succ]
  refine tk 13 43 (.int .i64 (n79 : Int)) rfl rfl (by kernel_rfl) (by kernel_rfl) (by kernel_rfl) (fun _ _ _ h => h) (Or.inl ⟨by rfl, fun w' h' => ?_⟩) hS ?_
  · go_simp
  try simp only [Act.put, List.setIfInBounds_toArray, List.set_cons_zero, List.set_cons_succ]
  refine tk 14 44 (.int .i64 (i : Int)) rfl rfl (by kernel_rfl) (by kernel_rfl) (by kernel_rfl) (fun _ _ _ h => h) (Or.inl ⟨by rfl, fun w' h' => ?_⟩) hS ?_
  · go_simp
  try simp only [Act.put, List.setIfInBounds_toArray, List.set_cons_zero, List.set_cons_succ]
  refine tk 15 45 (.int .i64 (i6 : Int)) rfl rfl (by kernel_rfl) (by kernel_rfl) (by kernel_rfl) (fun _ _ _ h => h) (Or.inl ⟨by rfl, fun w' h' => ?_⟩) hS ?_
  · go_simp
  try simp only [Act.put, List.setIfInBounds_toArray, List.set_cons_zero, List.set_cons_succ]
  refine tk 16 46 (.int .i64 (4 + (i6 : Int))) rfl rfl (by kernel_rfl) (by kernel_rfl) (by kernel_rfl) (fun _ _ _ h => h) (Or.inl ⟨by rfl, fun w' h' => ?_⟩) hS ?_
  · go_simp
  try simp only [Act.put, List.setIfInBounds_toArray, List.set_cons_zero, List.set_cons_succ]
  refine tk 17 47 (.int .i64 (r2 : Int)) rfl rfl (by kernel_rfl) (by kernel_rfl) (by kernel_rfl) (fun _ _ _ h => h) (Or.inl ⟨by rfl, fun w' h' => ?_⟩) hS ?_
  · go_simp
  try simp only [Act.put, List.setIfInBounds_toArray, List.set_cons_zero, List.set_cons_succ]
  refine wpAnyH_ready (rs := [10, 22]) (by kernel_rfl) (by simp) (AllReadyH.cons rfl (fun K hK => ?_) (AllReadyH.cons rfl (fun K hK => ?_) AllReadyH.nil))
  · rw [if_pos (by rfl)]
    go_wp2_with fail
    obtain ⟨x1, hx1⟩ : ∃ y, x0.alloc (.cells #[.int .i64 6, .int .i64 6, .int .i64 14, .int .i64 22, .int .i64 5, .int .i64 7, .int .i64 6, .int .i64 2046, .int .i64 2054] 3) = y := ⟨_, rfl⟩
    have hc : x1.cell? ⟨x0.heap.size, r2, none⟩ = some (.int .i64 (sz : Int)) := by rw [← hx1, ← hsz]; exact szL_cell x0 r2 hr2
    have hb : Below x0.heap.size x0 x1 := by rw [← hx1]; exact (Below.refl _ _).alloc (Nat.le_refl _) _
    change K _ (x0.alloc (.cells #[.int .i64 6, .int .i64 6, .int .i64 14, .int .i64 22, .int .i64 5, .int .i64 7, .int .i64 6, .int .i64 2046, .int .i64 2054] 3))
    rw [hx1]
    clear hx1
    have hb1 := hb0.trans (hb.mono hb0.size)
    have hq1 := hb.size
    have hs1 := cell_kept hb hs1
    clear hb
    clear hS
    refine hK.out _ _ hs1 (fun hS => ?_)
    clear hK K
    try simp only [Act.put, List.setIfInBounds_toArray, List.set_cons_zero, List.set_cons_succ]
    refine tk 18 48 (.pointer (some ⟨x0.heap.size, r2, none⟩)) rfl rfl (by kernel_rfl) (by kernel_rfl) (by kernel_rfl) (fun _ _ _ h => h) (Or.inl ⟨by rfl, fun w' h' => ?_⟩) hS ?_
    · go_simp
    try simp only [Act.put, List.setIfInBounds_toArray, List.set_cons_zero, List.set_cons_succ]
    refine wpAnyH_ready (rs := [19, 22]) (by kernel_rfl) (by simp) (AllReadyH.cons rfl (fun K hK => ?_) (AllReadyH.cons rfl (fun K hK => ?_) AllReadyH.nil))
    · rw [if_pos (by rfl)]
      go_wp2_with fail
      clear hS
      refine hK.out _ _ hs1 (fun hS => ?_)
      clear hK K
      try simp only [Act.put, List.setIfInBounds_toArray, List.set_cons_zero, List.set_cons_succ]
      refine wpAnyH_ready (rs := [20, 22]) (by kernel_rfl) (by simp) (AllReadyH.cons rfl (fun K hK => ?_) (AllReadyH.cons rfl (fun K hK => ?_) AllReadyH.nil))
      · rw [if_pos (by rfl)]
        obtain ⟨x2, hmk, hm, hb⟩ := mk_nz x1 sz (by omega)
        have hg7 := (hm.blk_ge _ rfl).2
        go_wp2_with fail
        clear hmk
        have hb2 := hb1.trans (hb.mono hb1.size)
        have hq2 := hb.size
        have hs1 := cell_kept hb hs1
        clear hb
        clear hS
        refine hK.out _ _ hs1 (fun hS => ?_)
        clear hK K
        try simp only [Act.put, List.setIfInBounds_toArray, List.set_cons_zero, List.set_cons_succ]
        refine tk 21 51 (.agg #[.int .u8 p, .slice (some ⟨x1.heap.size, 0, none⟩) sz sz]) rfl rfl (by kernel_rfl) (by kernel_rfl) (by kernel_rfl) (fun _ _ _ h => h) (yields_build (by rfl) _ _ rfl ?_) hS ?_
        · exact builtY p _ _ _
        try simp only [Act.put, List.setIfInBounds_toArray, List.set_cons_zero, List.set_cons_succ]
        refine wpAnyH_ready (rs := [22]) (by kernel_rfl) (by simp) (AllReadyH.cons rfl (fun K hK => ?_) AllReadyH.nil)
        rw [if_pos (by rfl)]
        go_wp2_with fail
        obtain ⟨x3, hx3⟩ : ∃ y, x2.alloc (.cells #[.int .u8 0, .slice none 0 0] 71) = y := ⟨_, rfl⟩
        have ht : x3.there x2.heap.size 0 2 := by rw [← hx3]; exact there_new _ _ _ _ rfl _ rfl
        have hb : Below x2.heap.size x2 x3 := by rw [← hx3]; exact (Below.refl _ _).alloc (Nat.le_refl _) _
        have hg6 : x2.heap.size < x3.heap.size := by rw [← hx3]; simp
        change K _ (x2.alloc (.cells #[.int .u8 0, .slice none 0 0] 71))
        rw [hx3]
        clear hx3
        have hb3 := hb2.trans (hb.mono hb2.size)
        have hq3 := hb.size
        have hs1 := cell_kept hb hs1
        have hm := hm.keep (S := fun _ => False) (Kept.of_below hb (fun i hi hi' => by omega)) (fun _ _ => id)
        clear hb
        clear hS
        refine hK.out _ _ hs1 (fun hS => ?_)
        clear hK K
        try simp only [Act.put, List.setIfInBounds_toArray, List.set_cons_zero, List.set_cons_succ]
        refine wpAnyH_ready (rs := [23]) (by kernel_rfl) (by simp) (AllReadyH.cons rfl (fun K hK => ?_) AllReadyH.nil)
        rw [if_pos (by rfl)]
        refine wp_store_mid 71 _ _ rfl (x2.heap.size) 0 #[.int .u8 p, .slice (some ⟨x1.heap.size, 0, none⟩) sz sz] rfl rfl ht infX2 (all_oneCell_toArray (xcs_one ⟨p, some ⟨x1.heap.size, 0, none⟩, sz, sz, nz sz⟩)) ?_
        have hne : x1.heap.size ≠ x2.heap.size := by omega
        have hgb : wx.heap.size ≤ x2.heap.size := by have := hb0.size; omega
        have HB := Lib.hid (BX.mk2 p hp0 hb3 ht hgb (hm.mono (by have := hb0.size; omega)) hsz2 hne)
        have hs2 := cell_kept HB.out.below HS0.out
        clear hS
        refine hK.out _ _ hs2 (fun hS => ?_)
        clear hK K
        refine wpAnyH_done (by kernel_rfl) ?_ _
        go_wp2_with fail
        refine Met.intro (hJ0 _ _ ?_)
        exact ⟨_, _, ⟨rfl, rfl⟩, rfl, rfl, rfl, rfl, rfl, rfl, HB.out⟩
      · rw [if_pos (by rfl)]
        go_wp2_with fail
        obtain ⟨x2, hx2⟩ : ∃ y, x1.alloc (.cells #[.int .u8 0, .slice none 0 0] 71) = y := ⟨_, rfl⟩
        have ht : x2.there x1.heap.size 0 2 := by rw [← hx2]; exact there_new _ _ _ _ rfl _ rfl
        have hb : Below x1.heap.size x1 x2 := by rw [← hx2]; exact (Below.refl _ _).alloc (Nat.le_refl _) _
        have hg6 : x1.heap.size < x2.heap.size := by rw [← hx2]; simp
        change K _ (x1.alloc (.cells #[.int .u8 0, .slice none 0 0] 71))
        rw [hx2]
        clear hx2
        have hb2 := hb1.trans (hb.mono hb1.size)
        have hq2 := hb.size
        have hs1 := cell_kept hb hs1
        clear hb
        clear hS
        refine hK.out _ _ hs1 (fun hS => ?_)
        clear hK K
        try simp only [Act.put, List.setIfInBounds_toArray, List.set_cons_zero, List.set_cons_succ]
        refine wpAnyH_ready (rs := [20]) (by kernel_rfl) (by simp) (AllReadyH.cons rfl (fun K hK => ?_) AllReadyH.nil)
        rw [if_pos (by rfl)]
        obtain ⟨x3, hmk, hm, hb⟩ := mk_nz x2 sz (by omega)
        have hg7 := (hm.blk_ge _ rfl).2
        go_wp2_with fail
        clear hmk
        have hb3 := hb2.trans (hb.mono hb2.size)
        have hq3 := hb.size
        have hs1 := cell_kept hb hs1
        have ht := there_kept2 hb ht (by decide)
        clear hb
        clear hS
        refine hK.out _ _ hs1 (fun hS => ?_)
        clear hK K
        try simp only [Act.put, List.setIfInBounds_toArray, List.set_cons_zero, List.set_cons_succ]
        refine tk 21 51 (.agg #[.int .u8 p, .slice (some ⟨x2.heap.size, 0, none⟩) sz sz]) rfl rfl (by kernel_rfl) (by kernel_rfl) (by kernel_rfl) (fun _ _ _ h => h) (yields_build (by rfl) _ _ rfl ?_) hS ?_
        · exact builtY p _ _ _
        try simp only [Act.put, List.setIfInBounds_toArray, List.set_cons_zero, List.set_cons_succ]
        refine wpAnyH_ready (rs := [23]) (by kernel_rfl) (by simp) (AllReadyH.cons rfl (fun K hK => ?_) AllReadyH.nil)
        rw [if_pos (by rfl)]
        refine wp_store_mid 71 _ _ rfl (x1.heap.size) 0 #[.int .u8 p, .slice (some ⟨x2.heap.size, 0, none⟩) sz sz] rfl rfl ht infX2 (all_oneCell_toArray (xcs_one ⟨p, some ⟨x2.heap.size, 0, none⟩, sz, sz, nz sz⟩)) ?_
        have hne : x2.heap.size ≠ x1.heap.size := by omega
        have hgb : wx.heap.size ≤ x1.heap.size := by have := hb0.size; omega
        have HB := Lib.hid (BX.mk2 p hp0 hb3 ht hgb (hm.mono (by have := hb0.size; omega)) hsz2 hne)
        have hs2 := cell_kept HB.out.below HS0.out
        clear hS
        refine hK.out _ _ hs2 (fun hS => ?_)
        clear hK K
        refine wpAnyH_done (by kernel_rfl) ?_ _
        go_wp2_with fail
        refine Met.intro (hJ0 _ _ ?_)
        exact ⟨_, _, ⟨rfl, rfl⟩, rfl, rfl, rfl, rfl, rfl, rfl, HB.out⟩
    · rw [if_pos (by rfl)]
      go_wp2_with fail
      obtain ⟨x2, hx2⟩ : ∃ y, x1.alloc (.cells #[.int .u8 0, .slice none 0 0] 71) = y := ⟨_, rfl⟩
      have ht : x2.there x1.heap.size 0 2 := by rw [← hx2]; exact there_new _ _ _ _ rfl _ rfl
      have hb : Below x1.heap.size x1 x2 := by rw [← hx2]; exact (Below.refl _ _).alloc (Nat.le_refl _) _
      have hg6 : x1.heap.size < x2.heap.size := by rw [← hx2]; simp
      change K _ (x1.alloc (.cells #[.int .u8 0, .slice none 0 0] 71))
      rw [hx2]
      clear hx2
      have hb2 := hb1.trans (hb.mono hb1.size)
      have hq2 := hb.size
      have hs1 := cell_kept hb hs1
      have hc := cell_kept hb hc
      clear hb
      clear hS
      refine hK.out _ _ hs1 (fun hS => ?_)
      clear hK K
      try simp only [Act.put, List.setIfInBounds_toArray, List.set_cons_zero, List.set_cons_succ]
      refine wpAnyH_ready (rs := [19]) (by kernel_rfl) (by simp) (AllReadyH.cons rfl (fun K hK => ?_) AllReadyH.nil)
      rw [if_pos (by rfl)]
      go_wp2_with fail
      clear hS
      refine hK.out _ _ hs1 (fun hS => ?_)
      clear hK K
      try simp only [Act.put, List.setIfInBounds_toArray, List.set_cons_zero, List.set_cons_succ]
      refine wpAnyH_ready (rs := [20]) (by kernel_rfl) (by simp) (AllReadyH.cons rfl (fun K hK => ?_) AllReadyH.nil)
      rw [if_pos (by rfl)]
      obtain ⟨x3, hmk, hm, hb⟩ := mk_nz x2 sz (by omega)
      have hg7 := (hm.blk_ge _ rfl).2
      go_wp2_with fail
      clear hmk
      have hb3 := hb2.trans (hb.mono hb2.size)
      have hq3 := hb.size
      have hs1 := cell_kept hb hs1
      have ht := there_kept2 hb ht (by decide)
      clear hb
      clear hS
      refine hK.out _ _ hs1 (fun hS => ?_)
      clear hK K
      try simp only [Act.put, List.setIfInBounds_toArray, List.set_cons_zero, List.set_cons_succ]
      refine tk 21 51 (.agg #[.int .u8 p, .slice (some ⟨x2.heap.size, 0, none⟩) sz sz]) rfl rfl (by kernel_rfl) (by kernel_rfl) (by kernel_rfl) (fun _ _ _ h => h) (yields_build (by rfl) _ _ rfl ?_) hS ?_
      · exact builtY p _ _ _
      try simp only [Act.put, List.setIfInBounds_toArray, List.set_cons_zero, List.set_cons_succ]
      refine wpAnyH_ready (rs := [23]) (by kernel_rfl) (by simp) (AllReadyH.cons rfl (fun K hK => ?_) AllReadyH.nil)
      rw [if_pos (by rfl)]
      refine wp_store_mid 71 _ _ rfl (x1.heap.size) 0 #[.int .u8 p, .slice (some ⟨x2.heap.size, 0, none⟩) sz sz] rfl rfl ht infX2 (all_oneCell_toArray (xcs_one ⟨p, some ⟨x2.heap.size, 0, none⟩, sz, sz, nz sz⟩)) ?_
      have hne : x2.heap.size ≠ x1.heap.size := by omega
      have hgb : wx.heap.size ≤ x1.heap.size := by have := hb0.size; omega
      have HB := Lib.hid (BX.mk2 p hp0 hb3 ht hgb (hm.mono (by have := hb0.size; omega)) hsz2 hne)
      have hs2 := cell_kept HB.out.below HS0.out
      clear hS
      refine hK.out _ _ hs2 (fun hS => ?_)
      clear hK K
      refine wpAnyH_done (by kernel_rfl) ?_ _
      go_wp2_with fail
      refine Met.intro (hJ0 _ _ ?_)
      exact ⟨_, _, ⟨rfl, rfl⟩, rfl, rfl, rfl, rfl, rfl, rfl, HB.out⟩
  · rw [if_pos (by rfl)]
    go_wp2_with fail
    obtain ⟨x1, hx1⟩ : ∃ y, x0.alloc (.cells #[.int .u8 0, .slice none 0 0] 71) = y := ⟨_, rfl⟩
    have ht : x1.there x0.heap.size 0 2 := by rw [← hx1]; exact there_new _ _ _ _ rfl _ rfl
    have hb : Below x0.heap.size x0 x1 := by rw [← hx1]; exact (Below.refl _ _).alloc (Nat.le_refl _) _
    have hg6 : x0.heap.size < x1.heap.size := by rw [← hx1]; simp
    change K _ (x0.alloc (.cells #[.int .u8 0, .slice none 0 0] 71))
    rw [hx1]
    clear hx1
    have hb1 := hb0.trans (hb.mono hb0.size)
    have hq1 := hb.size
    have hs1 := cell_kept hb hs1
    clear hb
    clear hS
    refine hK.out _ _ hs1 (fun hS => ?_)
    clear hK K
    try simp only [Act.put, List.setIfInBounds_toArray, List.set_cons_zero, List.set_cons_succ]
    refine wpAnyH_ready (rs := [10]) (by kernel_rfl) (by simp) (AllReadyH.cons rfl (fun K hK => ?_) AllReadyH.nil)
    rw [if_pos (by rfl)]
    go_wp2_with fail
    obtain ⟨x2, hx2⟩ : ∃ y, x1.alloc (.cells #[.int .i64 6, .int .i64 6, .int .i64 14, .int .i64 22, .int .i64 5, .int .i64 7, .int .i64 6, .int .i64 2046, .int .i64 2054] 3) = y := ⟨_, rfl⟩
    have hc : x2.cell? ⟨x1.heap.size, r2, none⟩ = some (.int .i64 (sz : Int)) := by rw [← hx2, ← hsz]; exact szL_cell x1 r2 hr2
    have hb : Below x1.heap.size x1 x2 := by rw [← hx2]; exact (Below.refl _ _).alloc (Nat.le_refl _) _
    change K _ (x1.alloc (.cells #[.int .i64 6, .int .i64 6, .int .i64 14, .int .i64 22, .int .i64 5, .int .i64 7, .int .i64 6, .int .i64 2046, .int .i64 2054] 3))
    rw [hx2]
    clear hx2
    have hb2 := hb1.trans (hb.mono hb1.size)
    have hq2 := hb.size
    have hs1 := cell_kept hb hs1
    have ht := there_kept2 hb ht (by decide)
    clear hb
    clear hS
    refine hK.out _ _ hs1 (fun hS => ?_)
    clear hK K
    try simp only [Act.put, List.setIfInBounds_toArray, List.set_cons_zero, List.set_cons_succ]
    refine tk 18 48 (.pointer (some ⟨x1.heap.size, r2, none⟩)) rfl rfl (by kernel_rfl) (by kernel_rfl) (by kernel_rfl) (fun _ _ _ h => h) (Or.inl ⟨by rfl, fun w' h' => ?_⟩) hS ?_
    · go_simp
    try simp only [Act.put, List.setIfInBounds_toArray, List.set_cons_zero, List.set_cons_succ]
    refine wpAnyH_ready (rs := [19]) (by kernel_rfl) (by simp) (AllReadyH.cons rfl (fun K hK => ?_) AllReadyH.nil)
    rw [if_pos (by rfl)]
    go_wp2_with fail
    clear hS
    refine hK.out _ _ hs1 (fun hS => ?_)
    clear hK K
    try simp only [Act.put, List.setIfInBounds_toArray, List.set_cons_zero, List.set_cons_succ]
    refine wpAnyH_ready (rs := [20]) (by kernel_rfl) (by simp) (AllReadyH.cons rfl (fun K hK => ?_) AllReadyH.nil)
    rw [if_pos (by rfl)]
    obtain ⟨x3, hmk, hm, hb⟩ := mk_nz x2 sz (by omega)
    have hg7 := (hm.blk_ge _ rfl).2
    go_wp2_with fail
    clear hmk
    have hb3 := hb2.trans (hb.mono hb2.size)
    have hq3 := hb.size
    have hs1 := cell_kept hb hs1
    have ht := there_kept2 hb ht (by decide)
    clear hb
    clear hS
    refine hK.out _ _ hs1 (fun hS => ?_)
    clear hK K
    try simp only [Act.put, List.setIfInBounds_toArray, List.set_cons_zero, List.set_cons_succ]
    refine tk 21 51 (.agg #[.int .u8 p, .slice (some ⟨x2.heap.size, 0, none⟩) sz sz]) rfl rfl (by kernel_rfl) (by kernel_rfl) (by kernel_rfl) (fun _ _ _ h => h) (yields_build (by rfl) _ _ rfl ?_) hS ?_
    · exact builtY p _ _ _
    try simp only [Act.put, List.setIfInBounds_toArray, List.set_cons_zero, List.set_cons_succ]
    refine wpAnyH_ready (rs := [23]) (by kernel_rfl) (by simp) (AllReadyH.cons rfl (fun K hK => ?_) AllReadyH.nil)
    rw [if_pos (by rfl)]
    refine wp_store_mid 71 _ _ rfl (x0.heap.size) 0 #[.int .u8 p, .slice (some ⟨x2.heap.size, 0, none⟩) sz sz] rfl rfl ht infX2 (all_oneCell_toArray (xcs_one ⟨p, some ⟨x2.heap.size, 0, none⟩, sz, sz, nz sz⟩)) ?_
    have hne : x2.heap.size ≠ x0.heap.size := by omega
    have hgb : wx.heap.size ≤ x0.heap.size := by have := hb0.size; omega
    have HB := Lib.hid (BX.mk2 p hp0 hb3 ht hgb (hm.mono (by have := hb0.size; omega)) hsz2 hne)
    have hs2 := cell_kept HB.out.below HS0.out
    clear hS
    refine hK.out _ _ hs2 (fun hS => ?_)
    clear hK K
    refine wpAnyH_done (by kernel_rfl) ?_ _
    go_wp2_with fail
    refine Met.intro (hJ0 _ _ ?_)
    exact ⟨_, _, ⟨rfl, rfl⟩, rfl, rfl, rfl, rfl, rfl, rfl, HB.out⟩

end Go.Proofs.Ythipnkaghddbhaa

namespace Go.Proofs.Ythipnkaghddbhaa
open Go.ChangeShapes Go.WideShapes Go.ChangeAt Go.RowKit

theorem BX.drew {wx w : World} {b6 : Nat} {y : Ex} (h : BX wx b6 y w) : BX wx b6 y w.drew := ⟨⟨h.below.os, h.below.tape, h.below.output, h.below.size, h.below.block⟩, h.rng, ⟨h.own.1, h.own.2⟩, h.byt, h.kind, h.few, h.apart⟩
theorem and_u8 (x y : Int) : 0 ≤ bits .and .u8 x y ∧ bits .and .u8 x y < 256 := by
  have h : ∀ z : Int, 0 ≤ IntKind.u8.wrap z ∧ IntKind.u8.wrap z < 256 := fun z => by rw [IntKind.wrap_u8]; omega
  unfold bits
  exact h _

set_option maxRecDepth 100000 in
set_option maxHeartbeats 4000000 in
theorem u11 (w : World) (bk n i b4 q b6 : Nat) (a : Act) (hf : Fr 266 a) (h1 : sl a 1 = .slice (some ⟨bk, 0, none⟩) 8 8) (h2 : sl a 2 = .int .i64 (n : Int)) (h3 : sl a 3 = .int .i64 (i : Int)) (h4 : sl a 4 = .pointer (some ⟨b4, 0, none⟩)) (h5 : sl a 5 = .int .i64 (q : Int)) (h6 : sl a 6 = .pointer (some ⟨b6, 0, none⟩)) :
    Code.wp Try.prog (cAt [1,1,1,0,1,2,2,1,0,2,1,0,1,2,2,1,0,2,1,0,0] KC) (Exit.then (fun a' w' => Fr 266 a' ∧ sl a' 1 = .slice (some ⟨bk, 0, none⟩) 8 8 ∧ sl a' 2 = .int .i64 (n : Int) ∧ sl a' 3 = .int .i64 (i : Int) ∧ sl a' 4 = .pointer (some ⟨b4, 0, none⟩) ∧ sl a' 5 = .int .i64 (q : Int) ∧ sl a' 6 = .pointer (some ⟨b6, 0, none⟩) ∧ sl a' 7 = .int .i64 0 ∧ w = w') Nope) a w := by
  obtain ⟨f, ha, hs⟩ := fr266 hf
  have e1 := (hs 1).trans h1
  have e2 := (hs 2).trans h2
  have e3 := (hs 3).trans h3
  have e4 := (hs 4).trans h4
  have e5 := (hs 5).trans h5
  have e6 := (hs 6).trans h6
  rw [e1, e2, e3, e4, e5, e6] at ha
  clear hs hf e1 h1 e2 h2 e3 h3 e4 h4 e5 h5 e6 h6
  subst ha
  refine piece2 fun J0 K0 hJ0 hK0 => ?_
  conv => arg 2; whnf
  go_wp2_with fail
  refine Met.intro (hJ0 _ _ ?_)
  exact ⟨⟨rfl, rfl⟩, rfl, rfl, rfl, rfl, rfl, rfl, rfl, rfl⟩

set_option maxRecDepth 100000 in
set_option maxHeartbeats 4000000 in
theorem u12 (wx w : World) (bk n i b4 q b6 : Nat) (y : Ex) (HX : Hid (BX wx b6 y w)) (j : Nat) (hj : j < y.n) (hj6 : j < 6) (a : Act) (hf : Fr 266 a) (h1 : sl a 1 = .slice (some ⟨bk, 0, none⟩) 8 8) (h2 : sl a 2 = .int .i64 (n : Int)) (h3 : sl a 3 = .int .i64 (i : Int)) (h4 : sl a 4 = .pointer (some ⟨b4, 0, none⟩)) (h5 : sl a 5 = .int .i64 (q : Int)) (h6 : sl a 6 = .pointer (some ⟨b6, 0, none⟩)) (h7 : sl a 7 = .int .i64 (j : Int)) :
    Code.wp Try.prog (cAt [1,1,1,0,1,2,2,1,0,2,1,0,1,2,2,1,0,2,1,0,1,2,2,0] KC) (Exit.then (fun a' w' => Fr 266 a' ∧ sl a' 1 = .slice (some ⟨bk, 0, none⟩) 8 8 ∧ sl a' 2 = .int .i64 (n : Int) ∧ sl a' 3 = .int .i64 (i : Int) ∧ sl a' 4 = .pointer (some ⟨b4, 0, none⟩) ∧ sl a' 5 = .int .i64 (q : Int) ∧ sl a' 6 = .pointer (some ⟨b6, 0, none⟩) ∧ sl a' 7 = .int .i64 (j : Int) ∧ w = w') Nope) a w := by
  obtain ⟨f, ha, hs⟩ := fr266 hf
  have e1 := (hs 1).trans h1
  have e2 := (hs 2).trans h2
  have e3 := (hs 3).trans h3
  have e4 := (hs 4).trans h4
  have e5 := (hs 5).trans h5
  have e6 := (hs 6).trans h6
  have e7 := (hs 7).trans h7
  rw [e1, e2, e3, e4, e5, e6, e7] at ha
  clear hs hf e1 h1 e2 h2 e3 h3 e4 h4 e5 h5 e6 h6 e7 h7
  subst ha
  refine piece2 fun J0 K0 hJ0 hK0 => ?_
  conv => arg 2; whnf
  have hc := HX.out.c1
  have hj' : (j : Int) < (y.n : Int) := by omega
  have hj6' : (j : Int) < 6 := by omega
  go_wp2_with fail
  refine Met.intro (hJ0 _ _ ?_)
  exact ⟨⟨rfl, rfl⟩, rfl, rfl, rfl, rfl, rfl, rfl, rfl, rfl⟩

set_option maxRecDepth 100000 in
set_option maxHeartbeats 4000000 in
theorem u12x (wx w : World) (bk n i b4 q b6 : Nat) (y : Ex) (HX : Hid (BX wx b6 y w)) (j : Nat) (hj : y.n ≤ j) (a : Act) (hf : Fr 266 a) (h1 : sl a 1 = .slice (some ⟨bk, 0, none⟩) 8 8) (h2 : sl a 2 = .int .i64 (n : Int)) (h3 : sl a 3 = .int .i64 (i : Int)) (h4 : sl a 4 = .pointer (some ⟨b4, 0, none⟩)) (h5 : sl a 5 = .int .i64 (q : Int)) (h6 : sl a 6 = .pointer (some ⟨b6, 0, none⟩)) (h7 : sl a 7 = .int .i64 (j : Int)) :
    Code.wp Try.prog (cAt [1,1,1,0,1,2,2,1,0,2,1,0,1,2,2,1,0,2,1,0,1,2,2] KC) (Outs 4 (fun a' w' => Fr 266 a' ∧ sl a' 1 = .slice (some ⟨bk, 0, none⟩) 8 8 ∧ sl a' 2 = .int .i64 (n : Int) ∧ sl a' 3 = .int .i64 (i : Int) ∧ sl a' 4 = .pointer (some ⟨b4, 0, none⟩) ∧ sl a' 5 = .int .i64 (q : Int) ∧ sl a' 6 = .pointer (some ⟨b6, 0, none⟩) ∧ w = w')) a w := by
  obtain ⟨f, ha, hs⟩ := fr266 hf
  have e1 := (hs 1).trans h1
  have e2 := (hs 2).trans h2
  have e3 := (hs 3).trans h3
  have e4 := (hs 4).trans h4
  have e5 := (hs 5).trans h5
  have e6 := (hs 6).trans h6
  have e7 := (hs 7).trans h7
  rw [e1, e2, e3, e4, e5, e6, e7] at ha
  clear hs hf e1 h1 e2 h2 e3 h3 e4 h4 e5 h5 e6 h6 e7 h7
  subst ha
  conv => arg 2; whnf
  have hc := HX.out.c1
  have hj' : ¬ (j : Int) < (y.n : Int) := by omega
  go_wp2_with fail
  exact ⟨rfl, ⟨rfl, rfl⟩, rfl, rfl, rfl, rfl, rfl, rfl, rfl⟩

set_option maxRecDepth 100000 in
set_option maxHeartbeats 4000000 in
theorem u12y (wx w : World) (bk n i b4 q b6 : Nat) (y : Ex) (HX : Hid (BX wx b6 y w)) (j : Nat) (hj : j < y.n) (hj6 : 6 ≤ j) (a : Act) (hf : Fr 266 a) (h1 : sl a 1 = .slice (some ⟨bk, 0, none⟩) 8 8) (h2 : sl a 2 = .int .i64 (n : Int)) (h3 : sl a 3 = .int .i64 (i : Int)) (h4 : sl a 4 = .pointer (some ⟨b4, 0, none⟩)) (h5 : sl a 5 = .int .i64 (q : Int)) (h6 : sl a 6 = .pointer (some ⟨b6, 0, none⟩)) (h7 : sl a 7 = .int .i64 (j : Int)) :
    Code.wp Try.prog (cAt [1,1,1,0,1,2,2,1,0,2,1,0,1,2,2,1,0,2,1,0,1,2,2] KC) (Outs 4 (fun a' w' => Fr 266 a' ∧ sl a' 1 = .slice (some ⟨bk, 0, none⟩) 8 8 ∧ sl a' 2 = .int .i64 (n : Int) ∧ sl a' 3 = .int .i64 (i : Int) ∧ sl a' 4 = .pointer (some ⟨b4, 0, none⟩) ∧ sl a' 5 = .int .i64 (q : Int) ∧ sl a' 6 = .pointer (some ⟨b6, 0, none⟩) ∧ w = w')) a w := by
  obtain ⟨f, ha, hs⟩ := fr266 hf
  have e1 := (hs 1).trans h1
  have e2 := (hs 2).trans h2
  have e3 := (hs 3).trans h3
  have e4 := (hs 4).trans h4
  have e5 := (hs 5).trans h5
  have e6 := (hs 6).trans h6
  have e7 := (hs 7).trans h7
  rw [e1, e2, e3, e4, e5, e6, e7] at ha
  clear hs hf e1 h1 e2 h2 e3 h3 e4 h4 e5 h5 e6 h6 e7 h7
  subst ha
  conv => arg 2; whnf
  have hc := HX.out.c1
  have hj' : (j : Int) < (y.n : Int) := by omega
  have hj6' : ¬ (j : Int) < 6 := by omega
  go_wp2_with fail
  exact ⟨rfl, ⟨rfl, rfl⟩, rfl, rfl, rfl, rfl, rfl, rfl, rfl⟩

set_option maxRecDepth 100000 in
set_option maxHeartbeats 4000000 in
theorem u14 (wx w : World) (bk n i b4 q b6 : Nat) (y : Ex) (HX : Hid (BX wx b6 y w)) (j : Nat) (hj : j < y.n) (hj6 : j < 6) (hn : n < 100003) (a : Act) (hf : Fr 266 a) (h1 : sl a 1 = .slice (some ⟨bk, 0, none⟩) 8 8) (h2 : sl a 2 = .int .i64 (n : Int)) (h3 : sl a 3 = .int .i64 (i : Int)) (h4 : sl a 4 = .pointer (some ⟨b4, 0, none⟩)) (h5 : sl a 5 = .int .i64 (q : Int)) (h6 : sl a 6 = .pointer (some ⟨b6, 0, none⟩)) (h7 : sl a 7 = .int .i64 (j : Int)) :
    Code.wp Try.prog (cAt [1,1,1,0,1,2,2,1,0,2,1,0,1,2,2,1,0,2,1,0,1,2,2,1,0,2] KC) (Exit.then (fun a' w' => ∃ (y : Ex), Fr 266 a' ∧ sl a' 1 = .slice (some ⟨bk, 0, none⟩) 8 8 ∧ sl a' 2 = .int .i64 (n : Int) ∧ sl a' 3 = .int .i64 (i : Int) ∧ sl a' 4 = .pointer (some ⟨b4, 0, none⟩) ∧ sl a' 5 = .int .i64 (q : Int) ∧ sl a' 6 = .pointer (some ⟨b6, 0, none⟩) ∧ sl a' 7 = .int .i64 (j : Int) ∧ BX wx b6 y w') Nope) a w := by
  obtain ⟨f, ha, hs⟩ := fr266 hf
  have e1 := (hs 1).trans h1
  have e2 := (hs 2).trans h2
  have e3 := (hs 3).trans h3
  have e4 := (hs 4).trans h4
  have e5 := (hs 5).trans h5
  have e6 := (hs 6).trans h6
  have e7 := (hs 7).trans h7
  rw [e1, e2, e3, e4, e5, e6, e7] at ha
  clear hs hf e1 h1 e2 h2 e3 h3 e4 h4 e5 h5 e6 h6 e7 h7
  subst ha
  refine piece2 fun J0 K0 hJ0 hK0 => ?_
  conv => arg 2; whnf
  obtain ⟨g, z, hg, hcz, hz, hfz, hb⟩ := HX.out.at_ hj
  have HB := Lib.hid hb
  have hs0 := HX.out.c1
  rw [hg] at hs0
  have hcap := HX.out.own.le
  unfold maxLen at hcap
  obtain ⟨hcap1, hcap2⟩ := hcap
  obtain ⟨v, hv⟩ : ∃ v, (n : Int) / 2 ^ j = v := ⟨_, rfl⟩
  have hv0 : 0 ≤ v := by rw [← hv]; exact Int.ediv_nonneg (by omega) (Int.le_of_lt (Int.pow_pos (by decide)))
  have hvn : v ≤ n := by rw [← hv]; exact Int.ediv_le_self _ (by omega)
  have i2 : IntKind.u8.wrap v = v % 256 := by rw [IntKind.wrap_u8]
  have i1 : (j : Int) < (y.n : Int) := by omega
  clear hb
  refine wp_region_held_drew (S := fun w' => World.cell? w' ⟨b6, 1, none⟩ = some (.slice (some ⟨g, 0, none⟩) y.n y.c)) (by kernel_rfl) hs0 (fun hS => ?_)
  refine tk 0 63 (.pointer (some ⟨b6, 1, none⟩)) rfl rfl (by kernel_rfl) (by kernel_rfl) (by kernel_rfl) (fun _ _ _ h => h) (Or.inl ⟨by rfl, fun w' h' => ?_⟩) hS ?_
  · go_simp
  try simp only [Act.put, List.setIfInBounds_toArray, List.set_cons_zero, List.set_cons_succ]
  refine tk 1 64 (.slice (some ⟨g, 0, none⟩) y.n y.c) rfl rfl (by kernel_rfl) (by kernel_rfl) (by kernel_rfl) (fun _ _ _ h => h) (Or.inl ⟨by rfl, fun w' h' => ?_⟩) hS ?_
  · have hc := h'
    go_simp
  try simp only [Act.put, List.setIfInBounds_toArray, List.set_cons_zero, List.set_cons_succ]
  refine tk 2 65 (.int .i64 (j : Int)) rfl rfl (by kernel_rfl) (by kernel_rfl) (by kernel_rfl) (fun _ _ _ h => h) (Or.inl ⟨by rfl, fun w' h' => ?_⟩) hS ?_
  · go_simp
  try simp only [Act.put, List.setIfInBounds_toArray, List.set_cons_zero, List.set_cons_succ]
  refine tk 3 66 (.int .i64 (n : Int)) rfl rfl (by kernel_rfl) (by kernel_rfl) (by kernel_rfl) (fun _ _ _ h => h) (Or.inl ⟨by rfl, fun w' h' => ?_⟩) hS ?_
  · go_simp
  try simp only [Act.put, List.setIfInBounds_toArray, List.set_cons_zero, List.set_cons_succ]
  refine tk 4 67 (.int .i64 (j : Int)) rfl rfl (by kernel_rfl) (by kernel_rfl) (by kernel_rfl) (fun _ _ _ h => h) (Or.inl ⟨by rfl, fun w' h' => ?_⟩) hS ?_
  · go_simp
  try simp only [Act.put, List.setIfInBounds_toArray, List.set_cons_zero, List.set_cons_succ]
  refine tk 5 68 (.int .i64 v) rfl rfl (by kernel_rfl) (by kernel_rfl) (by kernel_rfl) (fun _ _ _ h => h) (Or.inl ⟨by rfl, fun w' h' => ?_⟩) hS ?_
  · go_simp
  try simp only [Act.put, List.setIfInBounds_toArray, List.set_cons_zero, List.set_cons_succ]
  refine tk 6 69 (.int .u8 (v % 256)) rfl rfl (by kernel_rfl) (by kernel_rfl) (by kernel_rfl) (fun _ _ _ h => h) (Or.inl ⟨by rfl, fun w' h' => ?_⟩) hS ?_
  · go_simp
  try simp only [Act.put, List.setIfInBounds_toArray, List.set_cons_zero, List.set_cons_succ]
  refine tk 7 70 (.pointer (some ⟨g, j, none⟩)) rfl rfl (by kernel_rfl) (by kernel_rfl) (by kernel_rfl) (fun _ _ _ h => h) (Or.inl ⟨by rfl, fun w' h' => ?_⟩) hS ?_
  · go_simp
  try simp only [Act.put, List.setIfInBounds_toArray, List.set_cons_zero, List.set_cons_succ]
  refine wpAnyH_ready (rs := [8]) (by kernel_rfl) (by simp) (AllReadyH.cons rfl (fun K hK => ?_) AllReadyH.nil)
  rw [if_pos (by rfl)]
  go_wp2_with fail
  have hs1 := (HB.out (v % 256) (by omega)).c1
  rw [hg] at hs1
  clear hS
  refine hK.out _ _ (hs1) (fun hS => ?_)
  clear hK K
  refine wpAnyH_done (by kernel_rfl) ?_ _
  go_wp2_with fail
  refine Met.intro (hJ0 _ _ ?_)
  exact ⟨_, ⟨rfl, rfl⟩, rfl, rfl, rfl, rfl, rfl, rfl, rfl, (HB.out (v % 256) (by omega)).drew⟩

set_option maxRecDepth 100000 in
set_option maxHeartbeats 4000000 in
theorem u13 (w : World) (bk n i b4 q b6 j : Nat) (hj6 : j < 6) (a : Act) (hf : Fr 266 a) (h1 : sl a 1 = .slice (some ⟨bk, 0, none⟩) 8 8) (h2 : sl a 2 = .int .i64 (n : Int)) (h3 : sl a 3 = .int .i64 (i : Int)) (h4 : sl a 4 = .pointer (some ⟨b4, 0, none⟩)) (h5 : sl a 5 = .int .i64 (q : Int)) (h6 : sl a 6 = .pointer (some ⟨b6, 0, none⟩)) (h7 : sl a 7 = .int .i64 (j : Int)) :
    Code.wp Try.prog (cAt [1,1,1,0,1,2,2,1,0,2,1,0,1,2,2,1,0,2,1,0,1,2,2,1,1] KC) (Exit.then (fun a' w' => Fr 266 a' ∧ sl a' 1 = .slice (some ⟨bk, 0, none⟩) 8 8 ∧ sl a' 2 = .int .i64 (n : Int) ∧ sl a' 3 = .int .i64 (i : Int) ∧ sl a' 4 = .pointer (some ⟨b4, 0, none⟩) ∧ sl a' 5 = .int .i64 (q : Int) ∧ sl a' 6 = .pointer (some ⟨b6, 0, none⟩) ∧ sl a' 7 = .int .i64 ((j : Int) + 1) ∧ w = w') Nope) a w := by
  obtain ⟨f, ha, hs⟩ := fr266 hf
  have e1 := (hs 1).trans h1
  have e2 := (hs 2).trans h2
  have e3 := (hs 3).trans h3
  have e4 := (hs 4).trans h4
  have e5 := (hs 5).trans h5
  have e6 := (hs 6).trans h6
  have e7 := (hs 7).trans h7
  rw [e1, e2, e3, e4, e5, e6, e7] at ha
  clear hs hf e1 h1 e2 h2 e3 h3 e4 h4 e5 h5 e6 h6 e7 h7
  subst ha
  refine piece2 fun J0 K0 hJ0 hK0 => ?_
  conv => arg 2; whnf
  go_wp2_with fail
  refine Met.intro (hJ0 _ _ ?_)
  exact ⟨⟨rfl, rfl⟩, rfl, rfl, rfl, rfl, rfl, rfl, rfl, rfl⟩

set_option maxRecDepth 100000 in
set_option maxHeartbeats 4000000 in
theorem u15a (wx w : World) (bk n i b4 q b6 : Nat) (y : Ex) (HX : Hid (BX wx b6 y w)) (hk : y.k ≠ 44) (a : Act) (hf : Fr 266 a) (h1 : sl a 1 = .slice (some ⟨bk, 0, none⟩) 8 8) (h2 : sl a 2 = .int .i64 (n : Int)) (h3 : sl a 3 = .int .i64 (i : Int)) (h4 : sl a 4 = .pointer (some ⟨b4, 0, none⟩)) (h5 : sl a 5 = .int .i64 (q : Int)) (h6 : sl a 6 = .pointer (some ⟨b6, 0, none⟩)) :
    Code.wp Try.prog (cAt [1,1,1,0,1,2,2,1,0,2,1,0,1,2,2,1,0,2,1,1,0] KC) (Exit.then (fun a' w' => Fr 266 a' ∧ sl a' 1 = .slice (some ⟨bk, 0, none⟩) 8 8 ∧ sl a' 2 = .int .i64 (n : Int) ∧ sl a' 3 = .int .i64 (i : Int) ∧ sl a' 4 = .pointer (some ⟨b4, 0, none⟩) ∧ sl a' 5 = .int .i64 (q : Int) ∧ sl a' 6 = .pointer (some ⟨b6, 0, none⟩) ∧ w = w') Nope) a w := by
  obtain ⟨f, ha, hs⟩ := fr266 hf
  have e1 := (hs 1).trans h1
  have e2 := (hs 2).trans h2
  have e3 := (hs 3).trans h3
  have e4 := (hs 4).trans h4
  have e5 := (hs 5).trans h5
  have e6 := (hs 6).trans h6
  rw [e1, e2, e3, e4, e5, e6] at ha
  clear hs hf e1 h1 e2 h2 e3 h3 e4 h4 e5 h5 e6 h6
  subst ha
  refine piece2 fun J0 K0 hJ0 hK0 => ?_
  conv => arg 2; whnf
  have hc := HX.out.c0
  have hk' : (y.k == 44) = false := by simpa using hk
  go_wp2_with fail
  refine Met.intro (hJ0 _ _ ?_)
  exact ⟨⟨rfl, rfl⟩, rfl, rfl, rfl, rfl, rfl, rfl, rfl⟩

set_option maxRecDepth 100000 in
set_option maxHeartbeats 4000000 in
theorem u15b (wx w : World) (bk n i b4 q b6 : Nat) (y : Ex) (HX : Hid (BX wx b6 y w)) (hk : y.k = 44) (hi : i % 3 = 0) (a : Act) (hf : Fr 266 a) (h1 : sl a 1 = .slice (some ⟨bk, 0, none⟩) 8 8) (h2 : sl a 2 = .int .i64 (n : Int)) (h3 : sl a 3 = .int .i64 (i : Int)) (h4 : sl a 4 = .pointer (some ⟨b4, 0, none⟩)) (h5 : sl a 5 = .int .i64 (q : Int)) (h6 : sl a 6 = .pointer (some ⟨b6, 0, none⟩)) :
    Code.wp Try.prog (cAt [1,1,1,0,1,2,2,1,0,2,1,0,1,2,2,1,0,2,1,1,0] KC) (Exit.then (fun a' w' => Fr 266 a' ∧ sl a' 1 = .slice (some ⟨bk, 0, none⟩) 8 8 ∧ sl a' 2 = .int .i64 (n : Int) ∧ sl a' 3 = .int .i64 (i : Int) ∧ sl a' 4 = .pointer (some ⟨b4, 0, none⟩) ∧ sl a' 5 = .int .i64 (q : Int) ∧ sl a' 6 = .pointer (some ⟨b6, 0, none⟩) ∧ w = w') Nope) a w := by
  obtain ⟨f, ha, hs⟩ := fr266 hf
  have e1 := (hs 1).trans h1
  have e2 := (hs 2).trans h2
  have e3 := (hs 3).trans h3
  have e4 := (hs 4).trans h4
  have e5 := (hs 5).trans h5
  have e6 := (hs 6).trans h6
  rw [e1, e2, e3, e4, e5, e6] at ha
  clear hs hf e1 h1 e2 h2 e3 h3 e4 h4 e5 h5 e6 h6
  subst ha
  refine piece2 fun J0 K0 hJ0 hK0 => ?_
  conv => arg 2; whnf
  have hc := HX.out.c0
  have hc1 := HX.out.c1
  have hk' : (y.k == 44) = true := by simpa using hk
  have hn1 : (1 : Int) < (y.n : Int) := by have := HX.out.few; omega
  have hi' : ¬ (0 : Int) < (i : Int) % 3 := by omega
  clear hk
  go_wp2_with fail
  refine Met.intro (hJ0 _ _ ?_)
  exact ⟨⟨rfl, rfl⟩, rfl, rfl, rfl, rfl, rfl, rfl, rfl⟩

set_option maxRecDepth 100000 in
set_option maxHeartbeats 8000000 in
theorem u15c (wx w : World) (bk n i b4 q b6 : Nat) (y : Ex) (HX : Hid (BX wx b6 y w)) (hk : y.k = 44) (hi : 0 < i % 3) (a : Act) (hf : Fr 266 a) (h1 : sl a 1 = .slice (some ⟨bk, 0, none⟩) 8 8) (h2 : sl a 2 = .int .i64 (n : Int)) (h3 : sl a 3 = .int .i64 (i : Int)) (h4 : sl a 4 = .pointer (some ⟨b4, 0, none⟩)) (h5 : sl a 5 = .int .i64 (q : Int)) (h6 : sl a 6 = .pointer (some ⟨b6, 0, none⟩)) :
    Code.wp Try.prog (cAt [1,1,1,0,1,2,2,1,0,2,1,0,1,2,2,1,0,2,1,1,0] KC) (Exit.then (fun a' w' => ∃ (y : Ex), Fr 266 a' ∧ sl a' 1 = .slice (some ⟨bk, 0, none⟩) 8 8 ∧ sl a' 2 = .int .i64 (n : Int) ∧ sl a' 3 = .int .i64 (i : Int) ∧ sl a' 4 = .pointer (some ⟨b4, 0, none⟩) ∧ sl a' 5 = .int .i64 (q : Int) ∧ sl a' 6 = .pointer (some ⟨b6, 0, none⟩) ∧ BX wx b6 y w') Nope) a w := by
  obtain ⟨f, ha, hs⟩ := fr266 hf
  have e1 := (hs 1).trans h1
  have e2 := (hs 2).trans h2
  have e3 := (hs 3).trans h3
  have e4 := (hs 4).trans h4
  have e5 := (hs 5).trans h5
  have e6 := (hs 6).trans h6
  rw [e1, e2, e3, e4, e5, e6] at ha
  clear hs hf e1 h1 e2 h2 e3 h3 e4 h4 e5 h5 e6 h6
  subst ha
  refine piece2 fun J0 K0 hJ0 hK0 => ?_
  conv => arg 2; whnf
  have hc := HX.out.c0
  have hk' : (y.k == 44) = true := by simpa using hk
  have hfew := HX.out.few
  have hn1 : (1 : Int) < (y.n : Int) := by omega
  have hi' : (0 : Int) < (i : Int) % 3 := by omega
  obtain ⟨g, z, hg, hcz, hz, hfz, hb⟩ := HX.out.at_ (j := 0) (by omega)
  have HB := Lib.hid hb
  have hcap := HX.out.own.le
  unfold maxLen at hcap
  obtain ⟨hcap1, hcap2⟩ := hcap
  have hc1 := HX.out.c1
  rw [hg] at hc1
  obtain ⟨v, hv⟩ := Int.eq_ofNat_of_zero_le (show 0 ≤ (n : Int) % 2 by omega)
  have hv2 : v < 2 := by omega
  have i1 : (n : Int).tmod 2 = (v : Int) := by rw [Int.tmod_eq_emod_of_nonneg (by omega)]; exact hv
  have i2 : IntKind.i64.wrap (v : Int) = (v : Int) := IntWalk.i64_in _ (by omega)
  have i3 : IntKind.u8.wrap (v : Int) = (v : Int) := by rw [IntKind.wrap_u8]; omega
  have i4 : (0 : Int) < (y.n : Int) := by omega
  clear hk hv hb
  go_upto_region 17 with fail
  clear hc hc1 hcz hfz
  have HB1 := HB.out (v : Int) (by omega)
  obtain ⟨g1, z1, hg1, hcz, hz1, hfz, hb1⟩ := HB1.at_ (j := 1) (by show 1 < y.n; omega)
  have hgg : g1 = g := by
    have e : y.a = some ⟨g1, 0, none⟩ := hg1
    rw [hg] at e
    simp at e
    exact e.symm
  subst hgg
  have HB2 := Lib.hid hb1
  have hc1 : World.cell? (w.setCell ⟨g1, 0, none⟩ (.int .u8 (v : Int))) ⟨b6, 1, none⟩ = some (.slice (some ⟨g1, 0, none⟩) y.n y.c) := by have h := HB1.c1; rw [hg1] at h; exact h
  obtain ⟨z2, hz2⟩ : ∃ x, bits .and .u8 z1 249 = x := ⟨_, rfl⟩
  have hz22 := and_u8 z1 249
  rw [hz2] at hz22
  clear HB1 hb1
  obtain ⟨w1, hw1⟩ : ∃ x, w.setCell ⟨g1, 0, none⟩ (.int .u8 (v : Int)) = x := ⟨_, rfl⟩
  rw [hw1] at hc1 hcz hfz HB2 ⊢
  clear hw1
  refine wp_region_held_drew (S := fun w' => World.cell? w' ⟨b6, 1, none⟩ = some (.slice (some ⟨g1, 0, none⟩) y.n y.c)) (by kernel_rfl) hc1 (fun hS => ?_)
  refine tk 0 91 (.pointer (some ⟨b6, 1, none⟩)) rfl rfl (by kernel_rfl) (by kernel_rfl) (by kernel_rfl) (fun _ _ _ h => h) (Or.inl ⟨by rfl, fun w' h' => ?_⟩) hS ?_
  · go_simp
  try simp only [Act.put, List.setIfInBounds_toArray, List.set_cons_zero, List.set_cons_succ]
  refine tk 1 92 (.slice (some ⟨g1, 0, none⟩) y.n y.c) rfl rfl (by kernel_rfl) (by kernel_rfl) (by kernel_rfl) (fun _ _ _ h => h) (Or.inl ⟨by rfl, fun w' h' => ?_⟩) hS ?_
  · have hc := h'
    go_simp
  try simp only [Act.put, List.setIfInBounds_toArray, List.set_cons_zero, List.set_cons_succ]
  refine tk 2 93 (.pointer (some ⟨b6, 1, none⟩)) rfl rfl (by kernel_rfl) (by kernel_rfl) (by kernel_rfl) (fun _ _ _ h => h) (Or.inl ⟨by rfl, fun w' h' => ?_⟩) hS ?_
  · go_simp
  try simp only [Act.put, List.setIfInBounds_toArray, List.set_cons_zero, List.set_cons_succ]
  refine tk 3 94 (.slice (some ⟨g1, 0, none⟩) y.n y.c) rfl rfl (by kernel_rfl) (by kernel_rfl) (by kernel_rfl) (fun _ _ _ h => h) (Or.inl ⟨by rfl, fun w' h' => ?_⟩) hS ?_
  · have hc := h'
    go_simp
  try simp only [Act.put, List.setIfInBounds_toArray, List.set_cons_zero, List.set_cons_succ]
  refine tk 4 95 (.pointer (some ⟨g1, 1, none⟩)) rfl rfl (by kernel_rfl) (by kernel_rfl) (by kernel_rfl) (fun _ _ _ h => h) (Or.inl ⟨by rfl, fun w' h' => ?_⟩) hS ?_
  · go_simp
  have HCZ : Hid (w1.drew.cell? ⟨g1, 1, none⟩ = some (.int .u8 z1)) := hcz
  try simp only [Act.put, List.setIfInBounds_toArray, List.set_cons_zero, List.set_cons_succ]
  refine wpAnyH_ready (rs := [5]) (by kernel_rfl) (by simp) (AllReadyH.cons rfl (fun K hK => ?_) AllReadyH.nil)
  rw [if_pos (by rfl)]
  go_wp2_with fail
  have hS1 := hS
  clear hS
  refine hK.out _ _ (hS1) (fun hS => ?_)
  clear hK K
  try simp only [Act.put, List.setIfInBounds_toArray, List.set_cons_zero, List.set_cons_succ]
  refine tk 6 97 (.int .u8 z2) rfl rfl (by kernel_rfl) (by kernel_rfl) (by kernel_rfl) (fun _ _ _ h => h) (Or.inl ⟨by rfl, fun w' h' => ?_⟩) hS ?_
  · have hq := hz2
    go_simp
  try simp only [Act.put, List.setIfInBounds_toArray, List.set_cons_zero, List.set_cons_succ]
  refine tk 7 98 (.pointer (some ⟨g1, 1, none⟩)) rfl rfl (by kernel_rfl) (by kernel_rfl) (by kernel_rfl) (fun _ _ _ h => h) (Or.inl ⟨by rfl, fun w' h' => ?_⟩) hS ?_
  · go_simp
  try simp only [Act.put, List.setIfInBounds_toArray, List.set_cons_zero, List.set_cons_succ]
  refine wpAnyH_ready (rs := [8]) (by kernel_rfl) (by simp) (AllReadyH.cons rfl (fun K hK => ?_) AllReadyH.nil)
  rw [if_pos (by rfl)]
  go_wp2_with fail
  have HR : Hid (BX wx b6 { y with xs := (y.xs.set 0 (v : Int)).set 1 z2 } (w1.drew.setCell ⟨g1, 1, none⟩ (.int .u8 z2))) := by
    have h := HB2.out z2 hz22
    exact ⟨⟨h.below.os, h.below.tape, h.below.output, h.below.size, h.below.block⟩, h.rng, ⟨h.own.1, h.own.2⟩, h.byt, h.kind, h.few, h.apart⟩
  have hs1 := HR.out.c1
  rw [show ({ y with xs := (y.xs.set 0 (v : Int)).set 1 z2 } : Ex).a = some ⟨g1, 0, none⟩ from hg] at hs1
  clear hS
  refine hK.out _ _ (hs1) (fun hS => ?_)
  clear hK K
  refine wpAnyH_done (by kernel_rfl) ?_ _
  go_wp2_with fail
  refine Met.intro (hJ0 _ _ ?_)
  exact ⟨_, ⟨rfl, rfl⟩, rfl, rfl, rfl, rfl, rfl, rfl, HR.out⟩

set_option maxRecDepth 100000 in
set_option maxHeartbeats 4000000 in
theorem u18 (wb wx w : World) (bk n i b4 q b6 : Nat) (y : Ex) (p : Int) (a0 : Option Addr) (m d : Nat) (es : List Ex) (HX : Hid (BX wx b6 y w)) (HC : Hid (Cn wb b4 p a0 m d es wx)) (hm : m ≤ 100) (a : Act) (hf : Fr 266 a) (h1 : sl a 1 = .slice (some ⟨bk, 0, none⟩) 8 8) (h2 : sl a 2 = .int .i64 (n : Int)) (h3 : sl a 3 = .int .i64 (i : Int)) (h4 : sl a 4 = .pointer (some ⟨b4, 0, none⟩)) (h5 : sl a 5 = .int .i64 (q : Int)) (h6 : sl a 6 = .pointer (some ⟨b6, 0, none⟩)) :
    Code.wp Try.prog (cAt [1,1,1,0,1,2,2,1,0,2,1,0,1,2,2,1,0,2,1,1,1,0] KC) (Exit.then (fun a' w' => ∃ (a1 : Option Addr) (d1 : Nat) (es : List Ex), Fr 266 a' ∧ sl a' 1 = .slice (some ⟨bk, 0, none⟩) 8 8 ∧ sl a' 2 = .int .i64 (n : Int) ∧ sl a' 3 = .int .i64 (i : Int) ∧ sl a' 4 = .pointer (some ⟨b4, 0, none⟩) ∧ sl a' 5 = .int .i64 (q : Int) ∧ Cn wb b4 p a1 (m + 1) d1 es w') Nope) a w := by
  obtain ⟨f, ha, hs⟩ := fr266 hf
  have e1 := (hs 1).trans h1
  have e2 := (hs 2).trans h2
  have e3 := (hs 3).trans h3
  have e4 := (hs 4).trans h4
  have e5 := (hs 5).trans h5
  have e6 := (hs 6).trans h6
  rw [e1, e2, e3, e4, e5, e6] at ha
  clear hs hf e1 h1 e2 h2 e3 h3 e4 h4 e5 h5 e6 h6
  subst ha
  refine piece2 fun J0 K0 hJ0 hK0 => ?_
  conv => arg 2; whnf
  have HC2 := Lib.hid (HC.out.next HX.out.below)
  have hrx := HX.out.rng
  obtain ⟨g, d', w', hrun, hc0, hf0, hcn⟩ := HC2.out.app y (HX.out.yok (by have := HC.out.lt; omega)) (by omega)
  have HRN := Lib.hid hrun
  have HCN := Lib.hid hcn
  have hq0 := HC2.out.c0
  have hx0 := HX.out.c0
  have hx1 := HX.out.c1
  clear hrun hcn
  go_wp2_with (at_builtin; refine Lib.wpList_append_run _ rfl _ _ _ _ rfl _ _ rfl rfl _ _ HRN.out ?_)
  refine Met.intro (hJ0 _ _ ?_)
  exact ⟨_, _, _, ⟨rfl, rfl⟩, rfl, rfl, rfl, rfl, rfl, HCN.out⟩

set_option maxRecDepth 100000 in
set_option maxHeartbeats 4000000 in
theorem u19 (w : World) (bk n i b4 q : Nat) (hn : n < 100003) (hq : q ≤ 4) (a : Act) (hf : Fr 266 a) (h1 : sl a 1 = .slice (some ⟨bk, 0, none⟩) 8 8) (h2 : sl a 2 = .int .i64 (n : Int)) (h3 : sl a 3 = .int .i64 (i : Int)) (h4 : sl a 4 = .pointer (some ⟨b4, 0, none⟩)) (h5 : sl a 5 = .int .i64 (q : Int)) :
    Code.wp Try.prog (cAt [1,1,1,0,1,2,2,1,0,2,1,0,1,2,2,1,0,2,1,1,1,1] KC) (Exit.then (fun a' w' => ∃ (n2 : Nat), Fr 266 a' ∧ sl a' 1 = .slice (some ⟨bk, 0, none⟩) 8 8 ∧ sl a' 2 = .int .i64 (n2 : Int) ∧ sl a' 3 = .int .i64 (i : Int) ∧ sl a' 4 = .pointer (some ⟨b4, 0, none⟩) ∧ sl a' 5 = .int .i64 (q : Int) ∧ n2 < 100003 ∧ w = w') Nope) a w := by
  obtain ⟨f, ha, hs⟩ := fr266 hf
  have e1 := (hs 1).trans h1
  have e2 := (hs 2).trans h2
  have e3 := (hs 3).trans h3
  have e4 := (hs 4).trans h4
  have e5 := (hs 5).trans h5
  rw [e1, e2, e3, e4, e5] at ha
  clear hs hf e1 h1 e2 h2 e3 h3 e4 h4 e5 h5
  subst ha
  refine piece2 fun J0 K0 hJ0 hK0 => ?_
  conv => arg 2; whnf
  obtain ⟨n2, hn2⟩ := Int.eq_ofNat_of_zero_le (show 0 ≤ ((n : Int) * 31 + 7 * (q : Int) + 11) % 100003 by omega)
  have hb : n2 < 100003 := by omega
  have i1 : ((n : Int) * 31 + 7 * (q : Int) + 11).tmod 100003 = (n2 : Int) := by rw [Int.tmod_eq_emod_of_nonneg (by omega)]; exact hn2
  have i2 : IntKind.i64.wrap (n2 : Int) = (n2 : Int) := IntWalk.i64_in _ (by omega)
  clear hn2
  go_wp2_with fail
  refine Met.intro (hJ0 _ _ ?_)
  exact ⟨n2, ⟨rfl, rfl⟩, rfl, rfl, rfl, rfl, rfl, hb, rfl⟩

set_option maxRecDepth 100000 in
set_option maxHeartbeats 4000000 in
theorem u9 (w : World) (bk n i b4 q : Nat) (hq : 0 < q) (hq4 : q ≤ 4) (a : Act) (hf : Fr 266 a) (h1 : sl a 1 = .slice (some ⟨bk, 0, none⟩) 8 8) (h2 : sl a 2 = .int .i64 (n : Int)) (h3 : sl a 3 = .int .i64 (i : Int)) (h4 : sl a 4 = .pointer (some ⟨b4, 0, none⟩)) (h5 : sl a 5 = .int .i64 (q : Int)) :
    Code.wp Try.prog (cAt [1,1,1,0,1,2,2,1,0,2,1,0,1,2,2,1,1] KC) (Exit.then (fun a' w' => Fr 266 a' ∧ sl a' 1 = .slice (some ⟨bk, 0, none⟩) 8 8 ∧ sl a' 2 = .int .i64 (n : Int) ∧ sl a' 3 = .int .i64 (i : Int) ∧ sl a' 4 = .pointer (some ⟨b4, 0, none⟩) ∧ sl a' 5 = .int .i64 ((q : Int) - 1) ∧ w = w') Nope) a w := by
  obtain ⟨f, ha, hs⟩ := fr266 hf
  have e1 := (hs 1).trans h1
  have e2 := (hs 2).trans h2
  have e3 := (hs 3).trans h3
  have e4 := (hs 4).trans h4
  have e5 := (hs 5).trans h5
  rw [e1, e2, e3, e4, e5] at ha
  clear hs hf e1 h1 e2 h2 e3 h3 e4 h4 e5 h5
  subst ha
  refine piece2 fun J0 K0 hJ0 hK0 => ?_
  conv => arg 2; whnf
  go_wp2_with fail
  refine Met.intro (hJ0 _ _ ?_)
  exact ⟨⟨rfl, rfl⟩, rfl, rfl, rfl, rfl, rfl, rfl⟩

set_option maxRecDepth 100000 in
set_option maxHeartbeats 4000000 in
theorem u20 (w0 wb w : World) (bk n i b4 : Nat) (hn : n < 100003) (HC : Hid (∀ r, r < 8 → w0.cell? ⟨bk, r, none⟩ = some (.int .u8 (kinds8.getD r 0)))) (HB : Hid (Below w0.heap.size w0 w)) (p : Int) (a0 : Option Addr) (m d : Nat) (es : List Ex) (HN : Hid (Cn wb b4 p a0 m d es w)) (a : Act) (hf : Fr 266 a) (h1 : sl a 1 = .slice (some ⟨bk, 0, none⟩) 8 8) (h2 : sl a 2 = .int .i64 (n : Int)) (h3 : sl a 3 = .int .i64 (i : Int)) (h4 : sl a 4 = .pointer (some ⟨b4, 0, none⟩)) :
    Code.wp Try.prog (cAt [1,1,1,0,1,2,2,1,0,2,1,1,0] KC) (Exit.then (fun a' w' => ∃ (p : Int), Fr 266 a' ∧ sl a' 1 = .slice (some ⟨bk, 0, none⟩) 8 8 ∧ sl a' 2 = .int .i64 (n : Int) ∧ sl a' 3 = .int .i64 (i : Int) ∧ sl a' 4 = .pointer (some ⟨b4, 0, none⟩) ∧ (0 ≤ p ∧ p < 256) ∧ Cn wb b4 p a0 m d es w') Nope) a w := by
  obtain ⟨f, ha, hs⟩ := fr266 hf
  have e1 := (hs 1).trans h1
  have e2 := (hs 2).trans h2
  have e3 := (hs 3).trans h3
  have e4 := (hs 4).trans h4
  rw [e1, e2, e3, e4] at ha
  clear hs hf e1 h1 e2 h2 e3 h3 e4 h4
  subst ha
  refine piece2 fun J0 K0 hJ0 hK0 => ?_
  conv => arg 2; whnf
  obtain ⟨n3, hn3⟩ := Int.eq_ofNat_of_zero_le (show 0 ≤ (n : Int) / 3 by omega)
  obtain ⟨r, hr⟩ := Int.eq_ofNat_of_zero_le (show 0 ≤ (n3 : Int) % 8 by omega)
  have hr8 : r < 8 := by omega
  have i1 : (n : Int).tdiv 3 = (n3 : Int) := by rw [Int.tdiv_eq_ediv_of_nonneg (by omega)]; exact hn3
  have i2 : (n3 : Int).tmod 8 = (r : Int) := by rw [Int.tmod_eq_emod_of_nonneg (by omega)]; exact hr
  have i3 : IntKind.i64.wrap (n3 : Int) = (n3 : Int) := IntWalk.i64_in _ (by omega)
  have i4 : IntKind.i64.wrap (r : Int) = (r : Int) := IntWalk.i64_in _ (by omega)
  have i5 : (r : Int) < 8 := by omega
  have hc := cell_kept HB.out (HC.out r hr8)
  obtain ⟨v, hv⟩ : ∃ x, kinds8.getD r 0 = x := ⟨_, rfl⟩
  have hv0 := kinds8_get r
  rw [hv] at hc hv0
  have HV := Lib.hid hv0
  have hf1 := HN.out.may 1 (by decide)
  have hc1 := HN.out.c1
  have HR := Lib.hid (HN.out.proto v)
  clear hn3 hr hv hv0
  go_wp2_with fail
  refine Met.intro (hJ0 _ _ ?_)
  exact ⟨v, ⟨rfl, rfl⟩, rfl, rfl, rfl, rfl, HV.out, HR.out⟩

set_option maxRecDepth 100000 in
set_option maxHeartbeats 4000000 in
theorem u21 (wb w : World) (bk n i b4 : Nat) (p : Int) (hp : 0 ≤ p ∧ p < 256) (a0 : Option Addr) (m d : Nat) (es : List Ex) (HN : Hid (Cn wb b4 p a0 m d es w)) (a : Act) (hf : Fr 266 a) (h1 : sl a 1 = .slice (some ⟨bk, 0, none⟩) 8 8) (h2 : sl a 2 = .int .i64 (n : Int)) (h3 : sl a 3 = .int .i64 (i : Int)) (h4 : sl a 4 = .pointer (some ⟨b4, 0, none⟩)) :
    Code.wp Try.prog (cAt [1,1,1,0,1,2,2,1,0,2,1,1,1,0] KC) (Exit.then (fun a' w' => ∃ (ab : Option Addr) (nb cb : Nat) (xb : List Int) (F : Int), Fr 266 a' ∧ sl a' 1 = .slice (some ⟨bk, 0, none⟩) 8 8 ∧ sl a' 2 = .int .i64 (n : Int) ∧ sl a' 3 = .int .i64 (i : Int) ∧ sl a' 4 = .pointer (some ⟨b4, 0, none⟩) ∧ sl a' 8 = .slice ab nb cb ∧ sl a' 9 = .int .u8 F ∧ Cn wb b4 p a0 m d es w' ∧ Own w' w.heap.size ab nb cb xb ∧ Byt xb ∧ (0 ≤ F ∧ F < 256) ∧ Below w.heap.size w w') Nope) a w := by
  obtain ⟨f, ha, hs⟩ := fr266 hf
  have e1 := (hs 1).trans h1
  have e2 := (hs 2).trans h2
  have e3 := (hs 3).trans h3
  have e4 := (hs 4).trans h4
  rw [e1, e2, e3, e4] at ha
  clear hs hf e1 h1 e2 h2 e3 h3 e4 h4
  subst ha
  refine piece2 fun J0 K0 hJ0 hK0 => ?_
  conv => arg 2; whnf
  have hr := HN.out.rng
  have hc0 := HN.out.c0
  have hc1 := HN.out.c1
  go_wp2_with fail
  refine (sxPutChain_any a0 m d es p _ HN.out.ch hp.1 hp.2).mono ?_
  rintro e w2 hh
  obtain ⟨hb, ab, nb, cb, rfl, hown⟩ := hh.one
  have HR : Hid (Cn wb b4 p a0 m d es w2 ∧ Own w2 w.heap.size ab nb cb (pc6 es p) ∧ Byt (pc6 es p) ∧ (0 ≤ pk6 es p ∧ pk6 es p < 256) ∧ Below w.heap.size w w2) := ⟨HN.out.next hb, hown, pc6_byt HN.out.ch hp.1 hp.2, by unfold pk6; split; exact cmE_range HN.out.ch hp.1 hp.2 0; decide, hb⟩
  obtain ⟨pk, hpk⟩ : ∃ x, pk6 es p = x := ⟨_, rfl⟩
  obtain ⟨pe, hpe⟩ : ∃ x, pe6 es p = x := ⟨_, rfl⟩
  rw [hpk] at HR
  rw [hpk, hpe]
  clear hb hh hown hpk hpe
  go_wp2_with fail
  refine Met.intro (hJ0 _ _ ?_)
  exact ⟨_, _, _, _, _, ⟨rfl, rfl⟩, rfl, rfl, rfl, rfl, rfl, rfl, HR.out⟩

set_option maxRecDepth 100000 in
set_option maxHeartbeats 4000000 in
theorem u22a (w : World) (bk n i b4 : Nat) (F : Int) (ab : Option Addr) (nb cb : Nat) (hb : nb ≤ 3) (a : Act) (hf : Fr 266 a) (h1 : sl a 1 = .slice (some ⟨bk, 0, none⟩) 8 8) (h2 : sl a 2 = .int .i64 (n : Int)) (h3 : sl a 3 = .int .i64 (i : Int)) (h4 : sl a 4 = .pointer (some ⟨b4, 0, none⟩)) (h8 : sl a 8 = .slice ab nb cb) (h9 : sl a 9 = .int .u8 F) :
    Code.wp Try.prog (cAt [1,1,1,0,1,2,2,1,0,2,1,1,1,1,0] KC) (Exit.then (fun a' w' => Fr 266 a' ∧ sl a' 1 = .slice (some ⟨bk, 0, none⟩) 8 8 ∧ sl a' 2 = .int .i64 (n : Int) ∧ sl a' 3 = .int .i64 (i : Int) ∧ sl a' 4 = .pointer (some ⟨b4, 0, none⟩) ∧ sl a' 8 = .slice ab nb cb ∧ sl a' 9 = .int .u8 F ∧ w = w') Nope) a w := by
  obtain ⟨f, ha, hs⟩ := fr266 hf
  have e1 := (hs 1).trans h1
  have e2 := (hs 2).trans h2
  have e3 := (hs 3).trans h3
  have e4 := (hs 4).trans h4
  have e8 := (hs 8).trans h8
  have e9 := (hs 9).trans h9
  rw [e1, e2, e3, e4, e8, e9] at ha
  clear hs hf e1 h1 e2 h2 e3 h3 e4 h4 e8 h8 e9 h9
  subst ha
  refine piece2 fun J0 K0 hJ0 hK0 => ?_
  conv => arg 2; whnf
  have hb' : ¬ (3 : Int) < (nb : Int) := by omega
  go_wp2_with fail
  refine Met.intro (hJ0 _ _ ?_)
  exact ⟨⟨rfl, rfl⟩, rfl, rfl, rfl, rfl, rfl, rfl, rfl⟩

set_option maxRecDepth 100000 in
set_option maxHeartbeats 4000000 in
theorem u22b (w : World) (bk n i b4 : Nat) (F : Int) (ab : Option Addr) (nb cb : Nat) (hb : 3 < nb) (hi : i % 4 ≠ 0) (a : Act) (hf : Fr 266 a) (h1 : sl a 1 = .slice (some ⟨bk, 0, none⟩) 8 8) (h2 : sl a 2 = .int .i64 (n : Int)) (h3 : sl a 3 = .int .i64 (i : Int)) (h4 : sl a 4 = .pointer (some ⟨b4, 0, none⟩)) (h8 : sl a 8 = .slice ab nb cb) (h9 : sl a 9 = .int .u8 F) :
    Code.wp Try.prog (cAt [1,1,1,0,1,2,2,1,0,2,1,1,1,1,0] KC) (Exit.then (fun a' w' => Fr 266 a' ∧ sl a' 1 = .slice (some ⟨bk, 0, none⟩) 8 8 ∧ sl a' 2 = .int .i64 (n : Int) ∧ sl a' 3 = .int .i64 (i : Int) ∧ sl a' 4 = .pointer (some ⟨b4, 0, none⟩) ∧ sl a' 8 = .slice ab nb cb ∧ sl a' 9 = .int .u8 F ∧ w = w') Nope) a w := by
  obtain ⟨f, ha, hs⟩ := fr266 hf
  have e1 := (hs 1).trans h1
  have e2 := (hs 2).trans h2
  have e3 := (hs 3).trans h3
  have e4 := (hs 4).trans h4
  have e8 := (hs 8).trans h8
  have e9 := (hs 9).trans h9
  rw [e1, e2, e3, e4, e8, e9] at ha
  clear hs hf e1 h1 e2 h2 e3 h3 e4 h4 e8 h8 e9 h9
  subst ha
  refine piece2 fun J0 K0 hJ0 hK0 => ?_
  conv => arg 2; whnf
  have hb' : (3 : Int) < (nb : Int) := by omega
  have hi' : ((i : Int) % 4 == 0) = false := by simp; omega
  go_wp2_with fail
  refine Met.intro (hJ0 _ _ ?_)
  exact ⟨⟨rfl, rfl⟩, rfl, rfl, rfl, rfl, rfl, rfl, rfl⟩

set_option maxRecDepth 100000 in
set_option maxHeartbeats 4000000 in
theorem u22c (wb wv w : World) (bk n i b4 : Nat) (p F : Int) (a0 ab : Option Addr) (m d nb cb : Nat) (es : List Ex) (xb : List Int) (hb : 3 < nb) (hi : i % 4 = 0) (hn : n < 100003) (HV : Hid (Below wv.heap.size wv w ∧ Cn wb b4 p a0 m d es wv)) (HO : Hid (Own w wv.heap.size ab nb cb xb ∧ Byt xb)) (a : Act) (hf : Fr 266 a) (h1 : sl a 1 = .slice (some ⟨bk, 0, none⟩) 8 8) (h2 : sl a 2 = .int .i64 (n : Int)) (h3 : sl a 3 = .int .i64 (i : Int)) (h4 : sl a 4 = .pointer (some ⟨b4, 0, none⟩)) (h8 : sl a 8 = .slice ab nb cb) (h9 : sl a 9 = .int .u8 F) :
    Code.wp Try.prog (cAt [1,1,1,0,1,2,2,1,0,2,1,1,1,1,0] KC) (Exit.then (fun a' w' => ∃ (xb : List Int), Fr 266 a' ∧ sl a' 1 = .slice (some ⟨bk, 0, none⟩) 8 8 ∧ sl a' 2 = .int .i64 (n : Int) ∧ sl a' 3 = .int .i64 (i : Int) ∧ sl a' 4 = .pointer (some ⟨b4, 0, none⟩) ∧ sl a' 8 = .slice ab nb cb ∧ sl a' 9 = .int .u8 F ∧ Cn wb b4 p a0 m d es w' ∧ Own w' wv.heap.size ab nb cb xb ∧ Byt xb) Nope) a w := by
  obtain ⟨f, ha, hs⟩ := fr266 hf
  have e1 := (hs 1).trans h1
  have e2 := (hs 2).trans h2
  have e3 := (hs 3).trans h3
  have e4 := (hs 4).trans h4
  have e8 := (hs 8).trans h8
  have e9 := (hs 9).trans h9
  rw [e1, e2, e3, e4, e8, e9] at ha
  clear hs hf e1 h1 e2 h2 e3 h3 e4 h4 e8 h8 e9 h9
  subst ha
  refine piece2 fun J0 K0 hJ0 hK0 => ?_
  conv => arg 2; whnf
  obtain ⟨g, o, rfl, _⟩ := HO.out.1.rd (by intro e; have := HO.out.1.len; rw [e] at this; simp at this; omega)
  obtain rfl : o = 0 := by
    rcases HO.out.1.cases with ⟨e, _⟩ | ⟨g', cur, e, _⟩
    · cases e
    · cases e; rfl
  have hb' : (3 : Int) < (nb : Int) := by omega
  have hi' : ((i : Int) % 4 == 0) = true := by simp; omega
  obtain ⟨r, hr⟩ : ∃ r, n % nb = r := ⟨_, rfl⟩
  have hrn : r < nb := by have := Nat.mod_lt n (show 0 < nb by omega); omega
  have hri : (n : Int) % (nb : Int) = (r : Int) := by rw [← hr]; simp
  have hcp : Cp wv w g nb cb xb := ⟨HO.out.1, HV.out.1⟩
  obtain ⟨d1, f1⟩ := hcp.at_ (j := r) hrn
  have hcap := hcp.own.le
  unfold maxLen at hcap
  obtain ⟨hcap1, hcap2⟩ := hcap
  have i1 : (n : Int).tmod (nb : Int) = (r : Int) := by rw [Int.tmod_eq_emod_of_nonneg (by omega)]; exact hri
  have i2 : IntKind.i64.wrap (r : Int) = (r : Int) := IntWalk.i64_in _ (by omega)
  have i3 : ¬ (nb : Int) = 0 := by omega
  have i4 : (r : Int) < (nb : Int) := by omega
  have HS : Hid (Cn wb b4 p a0 m d es (w.setCell ⟨g, r, none⟩ (.int .u8 ((n : Int) % 256))) ∧ Own (w.setCell ⟨g, r, none⟩ (.int .u8 ((n : Int) % 256))) wv.heap.size (some ⟨g, 0, none⟩) nb cb (xb.set r ((n : Int) % 256)) ∧ Byt (xb.set r ((n : Int) % 256))) :=
    ⟨HV.out.2.next (hcp.set r _).below, (hcp.set r _).own, HO.out.2.set r (by omega)⟩
  clear hr hri hcp
  go_wp2_with fail
  refine Met.intro (hJ0 _ _ ?_)
  exact ⟨_, ⟨rfl, rfl⟩, rfl, rfl, rfl, rfl, rfl, rfl, HS.out⟩

end Go.Proofs.Ythipnkaghddbhaa

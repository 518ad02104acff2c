/-
  Plain facts of the document's own ParseChain for layer 6: what it answers is what the program's does. Conditions: bytes.
-/
import Derived.Test.YthipnkaghddbhaaSxChM
namespace Go.Proofs.Ythipnkaghddbhaa
open Go.RowKit

/-- What the document's ParseChain answers. -/
def RPCR (w : World) (v : Int × List (Int × List Int) × Int × Int) (e : Ending) (w' : World) : Prop :=
  Below w.heap.size w w' ∧ ((v.1 ≠ 0 ∧ e = .returned (.tuple #[.agg #[.slice none 0 0, .int .u8 0], .int .i64 0, .int .i64 v.1])) ∨
    (v.1 = 0 ∧ ∃ a n c, e = .returned (.tuple #[.agg #[.slice a n c, .int .u8 v.2.2.1], .int .i64 v.2.2.2, .int .i64 0]) ∧ OwnR w' w.heap.size a n c v.2.1))
/-- The state of its loop. -/
structure RcB (w wB wr : World) (am : Option Addr) (j d : Nat) (acc : List (Int × List Int)) : Prop where
  blw : Below (w.heap.size + 1) wB wr
  bl : wr.heap[w.heap.size + 1]? = some (.cells #[.slice am j d, .int .u8 0] 50 (0, 0))
  row : OwnR wr (w.heap.size + 2) am j d acc
  few : j ≤ 16
  sz : w.heap.size + 2 ≤ wr.heap.size
  kd : ∀ x ∈ acc, (0 ≤ x.1 ∧ x.1 < 256) ∧ Byt x.2 ∧ x.2.length ≤ 1099511627776
theorem hdS_44 (xs : List Int) : hdS 44 xs = 8 := rfl
theorem hdS_other {k : Int} {xs : List Int} (hk : k ≠ 44) (hb : Byt xs) : (hdS k xs : Int) = 8 * (xs.getD 1 0 + 1) := by
  have h1 := hb.get 1
  unfold hdS dsz
  rw [if_neg hk]
  omega
theorem hdE_other {k : Int} {c : Nat} {xs : List Int} (hb : Byt xs) (hk : k ≠ 44) (hkn : knd k = true) (h1 : c ≠ 16) (h2 : ¬ (k = 0 ∧ 0 < c)) (h3 : 2 ≤ xs.length) (h4 : hdS k xs ≤ xs.length) : hdE k c xs = 0 := by
  have hs := hb.get 1
  have hS := hdS_other hk hb
  have hl : (hdD k xs).length = 6 + 8 * (xs.getD 1 0).toNat := by
    unfold hdD
    rw [List.length_take, List.length_drop]
    unfold dsz
    rw [if_neg hk]
    omega
  unfold hdE
  rw [if_neg (fun h => h.elim h1 h2), if_neg (by omega), if_neg (by omega), if_pos]
  refine ⟨?_, ?_⟩
  · unfold scE
    rw [if_neg hk, hl]
    omega
  · unfold rtE
    rw [if_neg hk, hkn, hl, Bool.true_and, decide_eq_true (by omega), decide_eq_true (by omega)]
    rfl
theorem hdE_44 {c : Nat} {xs : List Int} (h1 : c ≠ 16) (h4 : 8 ≤ xs.length) : hdE 44 c xs = if xs.getD 1 0 = 0 ∧ rtE 44 (hdD 44 xs) = true then 0 else 60 := by
  unfold hdE
  rw [if_neg (fun h => h.elim h1 (fun h => by have := h.1; omega)), if_neg (by omega), if_neg (by rw [hdS_44]; omega)]
  have e : scE 44 (hdD 44 xs) = 0 := by unfold scE; rw [if_pos rfl]
  rw [e]
  by_cases hz : xs.getD 1 0 = 0
  · rw [hz]
  · rw [if_neg (fun h => hz h.1.symm), if_neg (fun h => hz h.1)]
theorem hdD_byt {k : Int} {xs : List Int} (hb : Byt xs) : Byt (hdD k xs) := (hb.drop 2).take _
theorem hdD_len {k : Int} {xs : List Int} (hb : Byt xs) : (hdD k xs).length ≤ 2046 := by
  have := dsz_range (k := k) (hb.get 1).1 (hb.get 1).2
  unfold hdD
  rw [List.length_take]
  omega
/-- A header goes behind the row, in its block. -/
theorem RcB.app {w wB wr : World} {am : Option Addr} {j d : Nat} {acc : List (Int × List Int)} (h : RcB w wB wr am j d acc) (hj : j < 16) (k : Int) (xs : List Int) (hk : 0 ≤ k ∧ k < 256) (hb : Byt xs) (hl : xs.length ≤ 2046) (wx : World) (hx : Below wr.heap.size wr wx) :
    ∃ g d' w7, (Builtin.append_ #[48, 48] 48 #[.slice am j d, .slice (some ⟨wx.heap.size, 0, none⟩) 1 1]).run Try.prog (wx.alloc (.cells #[.int .u8 k, .string (str xs)] 87)) = .ok (.slice (some ⟨g, 0, none⟩) (j + 1) d') w7 ∧
      w7.cell? ⟨w.heap.size + 1, 0, none⟩ = some (.slice am j d) ∧ w7.frozen? ⟨w.heap.size + 1, 0, none⟩ = false ∧ RcB w wB (w7.setCell ⟨w.heap.size + 1, 0, none⟩ (.slice (some ⟨g, 0, none⟩) (j + 1) d')) (some ⟨g, 0, none⟩) (j + 1) d' (acc ++ [(k, xs)]) ∧ Kept (fun q => blk am = some q) wx w7 ∧ (∀ q, blk am = some q → w.heap.size + 2 ≤ q) := by
  have hown := h.row.below hx
  have hsx : w.heap.size + 2 ≤ wx.heap.size := Nat.le_trans h.sz hx.size
  obtain ⟨g, d', w7, hrun, hown7, hk7, hg7⟩ := run_append_one wx (w.heap.size + 2) 48 48 87 (.agg #[.int .u8 0, .string ⟨#[]⟩]) 2 24 infRX Try.underlying48 rfl (by omega) (vs := acc.flatMap rcs) hown.row (rcs (k, xs)) rfl (rcs_one _) hsx (by omega) (by omega)
  have hne : ∀ q, blk am = some q → w.heap.size + 2 ≤ q := fun q e => (hown.row.blk_ge q e).1
  have hblkx : wx.heap[w.heap.size + 1]? = some (.cells #[.slice am j d, .int .u8 0] 50 (0, 0)) := heap_kept hx h.bl
  have hblk7 : w7.heap[w.heap.size + 1]? = some (.cells #[.slice am j d, .int .u8 0] 50 (0, 0)) := hk7.heap hblkx (fun e => by have := hne _ e; omega)
  have hgl : w.heap.size + 2 ≤ g := by
    rcases hown7.cases with ⟨e, _⟩ | ⟨g2, _, e, hg2, _⟩
    · cases e
    · simp only [Option.some.injEq, Addr.mk.injEq, and_true] at e; omega
  have hbx : Below (w.heap.size + 1) wB wx := h.blw.trans (hx.mono (by have := h.sz; omega))
  have hb7 : Below (w.heap.size + 1) wB w7 := hbx.trans (hk7.below (by omega) (fun q e => by have := hne q e; omega))
  refine ⟨g, d', w7, hrun, by rw [cell_of_row w7 _ 0 _ _ (0, 0) hblk7]; rfl, frozen_of_row w7 _ 0 _ _ hblk7, ⟨?_, ?_, ⟨?_, ?_⟩, by omega, ?_, ?_⟩, hk7, hne⟩
  · exact hb7.setCell (p := ⟨w.heap.size + 1, 0, none⟩) (Nat.le_refl _) _
  · exact heap_setCell_same w7 _ 0 _ _ _ hblk7
  · rw [List.length_append, hown.len]; rfl
  · rw [flat_snoc]
    exact hown7.keep (S := fun q => q = w.heap.size + 1) (Kept.setCell (S := fun q => q = w.heap.size + 1) w7 _ _ rfl) (fun q e k => by simp [blk] at e; omega)
  · have h1 : w7.heap.size ≤ (w7.setCell ⟨w.heap.size + 1, 0, none⟩ (.slice (some ⟨g, 0, none⟩) (j + 1) d')).heap.size := by simp [World.setCell]
    have h2 := hk7.size
    omega
  · intro x hx
    rcases List.mem_append.1 hx with hx | hx
    · exact h.kd x hx
    · rw [List.mem_singleton.1 hx]; exact ⟨hk, hb, by show xs.length ≤ _; omega⟩
theorem RcB.below {w wB wr wx : World} {am : Option Addr} {j d : Nat} {acc : List (Int × List Int)} (h : RcB w wB wr am j d acc) (hx : Below wr.heap.size wr wx) : RcB w wB wx am j d acc :=
  ⟨h.blw.trans (hx.mono (by have := h.sz; omega)), heap_kept hx h.bl, h.row.below hx, h.few, Nat.le_trans h.sz hx.size, h.kd⟩
theorem RcB.lenAt {w wB wr : World} {am : Option Addr} {j d : Nat} {acc : List (Int × List Int)} (h : RcB w wB wr am j d acc) : lenAt wr (w.heap.size + 1) = j := by
  unfold Go.Proofs.Ythipnkaghddbhaa.lenAt; rw [cell_of_row wr _ 0 _ _ (0, 0) h.bl]; rfl
/-- The header that stands at a place. -/
theorem hdD_at {F : Int} {xs : List Int} {t M : Nat} (hM : hdS F (xs.drop t) = M) : hdD F (xs.drop t) = (xs.drop (t + 2)).take (M - 2) := by
  unfold hdD
  unfold hdS at hM
  rw [List.drop_drop]
  congr 1
  omega
theorem pc_err {V X : Int × List (Int × List Int) × Int × Int} {h E : Int} (hv : V = if h ≠ 0 then (h, [], 0, 0) else X) (he : h = E) (hE : E ≠ 0) : V = (E, [], 0, 0) := by rw [hv, he, if_pos hE]
theorem pc_ok {V X : Int × List (Int × List Int) × Int × Int} {h : Int} (hv : V = if h ≠ 0 then (h, [], 0, 0) else X) (he : h = 0) : V = X := by rw [hv, if_neg (fun e => e he)]
theorem hdE_full {F : Int} {xs : List Int} : hdE F 16 xs = 60 := by unfold hdE; rw [if_pos (.inl rfl)]
theorem hdE_hop {j : Nat} {xs : List Int} (h : 0 < j) : hdE 0 j xs = 60 := by unfold hdE; rw [if_pos (.inr ⟨rfl, h⟩)]
theorem hdE_short {F : Int} {j : Nat} {xs : List Int} (h1 : j ≠ 16) (h2 : ¬ (F = 0 ∧ 0 < j)) (h3 : xs.length < 2 ∨ xs.length < hdS F xs) : hdE F j xs = 10 := by
  unfold hdE
  rw [if_neg (fun h => h.elim h1 h2)]
  by_cases h : xs.length < 2
  · rw [if_pos h]
  · rw [if_neg h, if_pos (h3.resolve_left h)]
end Go.Proofs.Ythipnkaghddbhaa

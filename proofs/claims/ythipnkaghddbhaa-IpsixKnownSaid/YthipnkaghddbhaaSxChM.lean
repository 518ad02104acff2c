/-
  Plain facts of IpsixChains: how the document's chain stands is how the program's does. Two chains as the statements read them, in memory.
-/
import Derived.Test.YthipnkaghddbhaaSxRPutC
namespace Go.Proofs.Ythipnkaghddbhaa
open Go.RowKit

theorem cmE_cons (x : Ex) (es : List Ex) (p : Int) (i : Nat) : cmE (x :: es) p (i + 1) = cmE es p i := by unfold cmE; rfl
theorem chB_cons (x : Ex) (es : List Ex) (p : Int) : ∀ j, chB (x :: es) p (j + 1) = [cmE es p 0, scE x.k x.xs] ++ x.xs ++ chB es p j := by
  intro j
  induction j with
  | zero => simp [chB, cmE_cons]
  | succ j ih =>
    unfold chB
    rw [show (x :: es)[j + 1]? = es[j]? from rfl, cmE_cons]
    cases he : es[j]? with
    | none => simp only; exact ih
    | some y => simp only; rw [ih]; simp
theorem sc_same {k : Int} {xs : List Int} (h : rtE k xs = true) : IntKind.u8.wrap (((xs.length : Int) + 2) / 8 - 1) = scE k xs := by
  unfold rtE at h
  unfold scE
  rw [IntKind.wrap_u8]
  split at h
  · rename_i e
    rw [if_pos e]
    simp at h
    omega
  · rename_i e
    rw [if_neg e]
    simp at h
    omega
theorem sfB_same : ∀ (es : List Ex) (p : Int), (∀ x ∈ es, rtE x.k x.xs = true) → sfB (es.map Ex.two) p = (chB es p es.length, cmE es p 0)
  | [], p, _ => rfl
  | x :: es, p, h => by
    have ih := sfB_same es p (fun y hy => h y (List.mem_cons_of_mem _ hy))
    rw [List.map_cons, sfB, ih, List.length_cons, chB_cons]
    have h1 := sc_same (h x List.mem_cons_self)
    show ([cmE es p 0, IntKind.u8.wrap (((x.xs.length : Int) + 2) / 8 - 1)] ++ x.xs ++ chB es p es.length, x.k) = _
    rw [h1]
    rfl
theorem sfB_rt {es : List Ex} {p : Int} (h : rtC es p = true) : sfB (es.map Ex.two) p = (chB es p es.length, cmE es p 0) := by
  refine sfB_same es p ?_
  unfold rtC at h
  rw [Bool.and_eq_true] at h
  exact rtG_all es p _ _ h.2
/-- What PutChain answers, in one. -/
def pe6 (es : List Ex) (p : Int) : Int := if rtC es p = true then 0 else 60
def pk6 (es : List Ex) (p : Int) : Int := if rtC es p = true then cmE es p 0 else 0
def pc6 (es : List Ex) (p : Int) : List Int := if rtC es p = true then chB es p es.length else []
theorem PutCH.one {w w' : World} {es : List Ex} {p : Int} {e : Ending} (h : PutCH w es p e w') : Below w.heap.size w w' ∧ ∃ a n cap, e = .returned (.tuple #[.slice a n cap, .int .u8 (pk6 es p), .int .i64 (pe6 es p)]) ∧ Own w' w.heap.size a n cap (pc6 es p) := by
  obtain ⟨hb, ⟨hr, a, n, c, he, ho⟩ | ⟨hr, he⟩⟩ := h
  · exact ⟨hb, a, n, c, by rw [he, pk6, pe6, if_pos hr, if_pos hr], by rw [pc6, if_pos hr]; exact ho⟩
  · have hn : ¬ rtC es p = true := by rw [hr]; decide
    exact ⟨hb, none, 0, 0, by rw [he, pk6, pe6, if_neg hn, if_neg hn], by rw [pc6, if_neg hn]; exact Own.nil _ _⟩
theorem RPutCH.one {w w' : World} {es : List Ex} {p : Int} {e : Ending} (h : RPutCH w (es.map Ex.two) p e w') : Below w.heap.size w w' ∧ ∃ a n cap, e = .returned (.tuple #[.slice a n cap, .int .u8 (pk6 es p), .int .i64 (pe6 es p)]) ∧ Own w' w.heap.size a n cap (pc6 es p) := by
  obtain ⟨hb, ⟨hr, a, n, c, he, ho⟩ | ⟨hr, he⟩⟩ := h
  · rw [rtR_map] at hr
    rw [sfB_rt hr] at he ho
    exact ⟨hb, a, n, c, by rw [he, pk6, pe6, if_pos hr, if_pos hr], by rw [pc6, if_pos hr]; exact ho⟩
  · rw [rtR_map] at hr
    have hn : ¬ rtC es p = true := by rw [hr]; decide
    exact ⟨hb, none, 0, 0, by rw [he, pk6, pe6, if_neg hn, if_neg hn], by rw [pc6, if_neg hn]; exact Own.nil _ _⟩
theorem pc6_byt {w : World} {a : Option Addr} {n c : Nat} {es : List Ex} {p : Int} (h : Ch w a n c es) (p0 : 0 ≤ p) (p1 : p < 256) : Byt (pc6 es p) := by
  unfold pc6; split
  · exact chB_byt h p0 p1 _
  · exact Byt.nil
theorem pc6_len {es : List Ex} {p : Int} : (pc6 es p).length ≤ 40000 := by
  unfold pc6; split
  · rename_i h
    have h1 := chB_few h es.length
    have h2 : es.length ≤ 16 := by unfold rtC at h; rw [Bool.and_eq_true, decide_eq_true_eq] at h; exact h.1
    omega
  · exact Nat.zero_le _
theorem smR_map (es fs : List Ex) (p q : Int) : smR (es.map Ex.two) (fs.map Ex.two) p q = smC es fs p q := by unfold smR smC; rw [Bool.and_comm]
theorem smC_self (es : List Ex) (p : Int) : smC es es p p = true := by unfold smC; simp
/-- Two chains as the statements read them, each in a block of its own. -/
structure PC (wB wx : World) (b5 b6 : Nat) (a1 : Option Addr) (n1 c1 : Nat) (e1 : List (Int × List Int)) (p : Int) (a2 : Option Addr) (n2 c2 : Nat) (e2 : List (Int × List Int)) (q : Int) : Prop where
  blw : Below wB.heap.size wB wx
  r5 : wx.rangeAt b5 0 [.slice a1 n1 c1, .int .u8 p]
  r6 : wx.rangeAt b6 0 [.slice a2 n2 c2, .int .u8 q]
  ch1 : ChR wx a1 n1 c1 e1
  ch2 : ChR wx a2 n2 c2 e2
theorem PC.below {wB wx wy : World} {b5 b6 : Nat} {a1 : Option Addr} {n1 c1 : Nat} {e1 : List (Int × List Int)} {p : Int} {a2 : Option Addr} {n2 c2 : Nat} {e2 : List (Int × List Int)} {q : Int} (h : PC wB wx b5 b6 a1 n1 c1 e1 p a2 n2 c2 e2 q) (hb : Below wx.heap.size wx wy) : PC wB wy b5 b6 a1 n1 c1 e1 p a2 n2 c2 e2 q :=
  ⟨h.blw.trans (hb.mono h.blw.size), range_kept hb h.r5, range_kept hb h.r6, h.ch1.below hb, h.ch2.below hb⟩
theorem OwnR.setc {w : World} {base : Nat} {a : Option Addr} {n c : Nat} {es : List (Int × List Int)} (h : OwnR w base a n c es) (b : Nat) (vs : List Value) (hn : ∀ q, blk a = some q → q ≠ b) : OwnR (w.setCells b 0 vs) base a n c es :=
  ⟨h.len, h.row.keep (S := fun q => q = b) (Kept.setCells _ _ _ _ (Kept.refl _ _)) (fun q e k => hn q e k)⟩
theorem there_set {w : World} {b g : Nat} {n : Nat} (h : w.there b 0 n) (vs : List Value) (hn : b ≠ g) : (w.setCells g 0 vs).there b 0 n := fun j hj => by
  obtain ⟨h1, h2⟩ := h j hj
  obtain ⟨u, hu⟩ := Option.isSome_iff_exists.1 h1
  have hk : (w.setCells g 0 vs).heap[b]? = w.heap[b]? := (Kept.setCells g vs 0 w (Kept.refl _ _)).block b (World.block_lt_of_cell? w ⟨b, 0 + j, none⟩ hu) hn
  exact ⟨by rw [World.cell?_of_block hk]; exact h1, by rw [← h2]; exact World.frozen?_of_block hk⟩
theorem pc_fin {wB z : World} {b5 b6 lo1 lo2 : Nat} {a1 : Option Addr} {n1 c1 : Nat} {e1 : List (Int × List Int)} {p : Int} {a2 : Option Addr} {n2 c2 : Nat} {e2 : List (Int × List Int)} {q : Int} (hB : Below wB.heap.size wB z) (h5 : wB.heap.size ≤ b5) (h6 : wB.heap.size ≤ b6) (h56 : b5 ≠ b6)
    (t5 : z.there b5 0 2) (t6 : z.there b6 0 2) (o1 : OwnR z lo1 a1 n1 c1 e1) (o2 : OwnR z lo2 a2 n2 c2 e2) (d1 : ∀ g, blk a1 = some g → g ≠ b5 ∧ g ≠ b6) (d2 : ∀ g, blk a2 = some g → g ≠ b5 ∧ g ≠ b6)
    (k1 : ∀ x ∈ e1, (0 ≤ x.1 ∧ x.1 < 256) ∧ Byt x.2 ∧ x.2.length ≤ 1099511627776) (k2 : ∀ x ∈ e2, (0 ≤ x.1 ∧ x.1 < 256) ∧ Byt x.2 ∧ x.2.length ≤ 1099511627776) :
    PC wB ((z.setCells b5 0 [.slice a1 n1 c1, .int .u8 p]).setCells b6 0 [.slice a2 n2 c2, .int .u8 q]) b5 b6 a1 n1 c1 e1 p a2 n2 c2 e2 q := by
  refine ⟨Below.setCells (Below.setCells hB _ h5 _ _) _ h6 _ _, ?_, ?_, ?_, ?_⟩
  · refine range_keep (S := fun g => g = b6) ?_ (Kept.setCells _ _ _ _ (Kept.refl _ _)) (fun e => h56 e)
    exact World.rangeAt_setCells_same _ _ _ _ t5
  · exact World.rangeAt_setCells_same _ _ _ _ (there_set t6 _ (fun e => h56 e.symm))
  · exact ((o1.setc b5 _ (fun g e => (d1 g e).1)).setc b6 _ (fun g e => (d1 g e).2)).ch k1
  · exact ((o2.setc b5 _ (fun g e => (d2 g e).1)).setc b6 _ (fun g e => (d2 g e).2)).ch k2
end Go.Proofs.Ythipnkaghddbhaa

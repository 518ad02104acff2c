/-
  What a law holds in memory: disks, rows of bytes, rows of writes, apart from one another; what a call of a disk's leaves of it. Conditions: disks of at most a million unsynced writes.
-/
import Derived.Test.YtbghdlgfpfeaeaaDkUn
import Derived.Test.YtbghdlgfpfeaeaaDkCrash
namespace Go.Proofs.Ytbghdlgfpfeaeaa
open Go.RowKit

/-- A thing in memory. -/
inductive Th where
  | disk (g : Nat) (k : Dk)
  | row (a : Option Addr) (n c : Nat) (xs : List Int)
  | wts (a : Option Addr) (c : Nat) (L : List Uw)
  | any (e size : Nat) (a : Option Addr) (n c : Nat) (vs : List Value)
  | cell (g : Nat) (cs : Array Value) (t : TypeId)
/-- The blocks that it lies in. -/
def Th.foot : Th → Nat → Prop
  | .disk g k, i => k.foot g i
  | .row a _ _ _, i => blk a = some i
  | .wts a _ L, i => blk a = some i ∨ ∃ x ∈ L, blk x.a = some i
  | .any _ _ a _ _ _, i => blk a = some i
  | .cell g _ _, i => i = g
/-- It lies there, in blocks from a base on. -/
def Th.ok (w : World) (B : Nat) : Th → Prop
  | .disk g k => Dm w B g k
  | .row a n c xs => Own w B a n c xs
  | .wts a c L => Uws w B a c L
  | .any e size a n c vs => OwnG w B e size a n c vs
  | .cell g cs t => B ≤ g ∧ w.heap[g]? = some (.cells cs t (0, 0))
theorem Th.keep {t : Th} {S : Nat → Prop} {w w' : World} {B : Nat} (h : t.ok w B) (k : Kept S w w') (hs : ∀ i, t.foot i → ¬ S i) : t.ok w' B := by
  cases t with
  | disk g d => exact Dm.keep h k hs
  | row a n c xs => exact Own.keep h k hs
  | wts a c L => exact Uws.keep h k (fun b hb => hs b (.inl hb)) (fun x hx b hb => hs b (.inr ⟨x, hx, hb⟩))
  | any e s a n c vs => exact OwnG.keep h k hs
  | cell g cs t => exact ⟨h.1, k.heap h.2 (hs g rfl)⟩
theorem Th.lt {t : Th} {w : World} {B : Nat} (h : t.ok w B) {i : Nat} (hi : t.foot i) : B ≤ i ∧ i < w.heap.size := by
  cases t with
  | disk g d => exact Dm.foot_lt h hi
  | row a n c xs => exact Own.blk_ge h i hi
  | wts a c L =>
    rcases hi with hi | ⟨x, hx, hi⟩
    · exact OwnG.blk_ge h.row i hi
    · exact (Uws.data h x hx).blk_ge i hi
  | any e s a n c vs => exact OwnG.blk_ge h i hi
  | cell g cs t =>
    have hi : i = g := hi
    subst hi
    exact ⟨h.1, (Array.getElem?_eq_some_iff.1 h.2).1⟩
theorem Own.lift {w : World} {B B' : Nat} {a : Option Addr} {n c : Nat} {xs : List Int} (h : Own w B a n c xs) (hb : B' ≤ B) : Own w B' a n c xs := h.mono hb
theorem Dm.lift {w : World} {B B' g : Nat} {k : Dk} (h : Dm w B g k) (hb : B' ≤ B) : Dm w B' g k := ⟨h.ok, h.row, h.dur.mono hb, h.wr.mono hb, h.off, Nat.le_trans hb h.base⟩
theorem Th.lift {t : Th} {w : World} {B B' : Nat} (h : t.ok w B) (hb : B' ≤ B) : t.ok w B' := by
  cases t with
  | disk g d => exact Dm.lift h hb
  | row a n c xs => exact Own.mono h hb
  | wts a c L => exact Uws.mono h hb
  | any e s a n c vs => exact OwnG.mono h hb
  | cell g cs t => exact ⟨Nat.le_trans hb h.1, h.2⟩
/-- Two things lie apart. -/
def Off (s t : Th) : Prop := ∀ i, s.foot i → ¬ t.foot i
theorem Off.symm {s t : Th} (h : Off s t) : Off t s := fun i h1 h2 => h i h2 h1
/-- All that is held; all that was there is as it was. -/
structure Ms (w wr : World) (l : List Th) : Prop where
  below : Below w.heap.size w wr
  ok : ∀ t ∈ l, t.ok wr w.heap.size
  off : l.Pairwise Off
section
variable {w wr w' : World} {l l' : List Th} {t t' : Th}
theorem Ms.nil (w : World) : Ms w w [] := ⟨Below.refl _ _, fun _ h => (List.not_mem_nil h).elim, List.Pairwise.nil⟩
theorem Ms.past (h : Ms w wr l) (hb : Below wr.heap.size wr w') : Ms w w' l :=
  ⟨h.below.trans (hb.mono h.below.size), fun t ht => Th.keep (h.ok t ht) (S := fun _ => False) (Kept.of_below hb (fun i hi hi2 => by omega)) (fun _ _ => id), h.off⟩
theorem Ms.drewN (h : Ms w wr l) (m : Nat) : Ms w (wr.drewN m) l :=
  ⟨⟨h.below.os, h.below.tape, h.below.output, h.below.size, h.below.block⟩, fun t ht => Th.keep (h.ok t ht) (Kept.drewN (S := fun _ => False) m) (fun _ _ => id), h.off⟩
theorem Ms.add (h : Ms w wr l) (hb : Below wr.heap.size wr w') (ht : t.ok w' wr.heap.size) : Ms w w' (t :: l) := by
  have h2 := h.past hb
  refine ⟨h2.below, fun s hs => ?_, List.pairwise_cons.2 ⟨fun s hs i h1 h3 => ?_, h.off⟩⟩
  · rcases List.mem_cons.1 hs with rfl | hs
    · exact Th.lift ht h.below.size
    · exact h2.ok s hs
  · have := (Th.lt ht h1).1
    have := (Th.lt (h.ok s hs) h3).2
    omega
theorem Ms.step (h : Ms w wr (t :: l)) (ht : t'.ok w' w.heap.size) (hk : Kept t.foot wr w') (hf : ∀ i, t'.foot i → t.foot i ∨ wr.heap.size ≤ i) : Ms w w' (t' :: l) := by
  obtain ⟨h1, h2⟩ := List.pairwise_cons.1 h.off
  refine ⟨h.below.trans (hk.below h.below.size (fun i hi => (Th.lt (h.ok t (List.mem_cons_self ..)) hi).1)), fun s hs => ?_, List.pairwise_cons.2 ⟨fun s hs i h3 h4 => ?_, h2⟩⟩
  · rcases List.mem_cons.1 hs with rfl | hs
    · exact ht
    · exact Th.keep (h.ok s (List.mem_cons_of_mem _ hs)) hk (fun i hi hi2 => h1 s hs i hi2 hi)
  · rcases hf i h3 with h5 | h5
    · exact h1 s hs i h5 h4
    · have := (Th.lt (h.ok s (List.mem_cons_of_mem _ hs)) h4).2
      omega
theorem Ms.perm (h : Ms w wr l) (hp : l.Perm l') : Ms w wr l' :=
  ⟨h.below, fun t ht => h.ok t (hp.mem_iff.2 ht), (hp.pairwise_iff (fun h => Off.symm h)).1 h.off⟩
theorem Ms.tail (h : Ms w wr (t :: l)) : Ms w wr l := ⟨h.below, fun s hs => h.ok s (List.mem_cons_of_mem _ hs), (List.pairwise_cons.1 h.off).2⟩
theorem Ms.hd (h : Ms w wr (t :: l)) : t.ok wr w.heap.size := h.ok t (List.mem_cons_self ..)
theorem Ms.sub (h : Ms w wr l) (hs : l'.Sublist l) : Ms w wr l' := ⟨h.below, fun t ht => h.ok t (hs.subset ht), h.off.sublist hs⟩
theorem Ms.to1 {s0 s1 : Th} (h : Ms w wr (s0 :: s1 :: l)) : Ms w wr (s1 :: s0 :: l) := h.perm (List.Perm.swap _ _ _)
theorem Ms.to2 {s0 s1 s2 : Th} (h : Ms w wr (s0 :: s1 :: s2 :: l)) : Ms w wr (s2 :: s0 :: s1 :: l) := h.perm ((List.Perm.cons _ (List.Perm.swap _ _ _)).trans (List.Perm.swap _ _ _))
theorem Ms.to3 {s0 s1 s2 s3 : Th} (h : Ms w wr (s0 :: s1 :: s2 :: s3 :: l)) : Ms w wr (s3 :: s0 :: s1 :: s2 :: l) := h.perm ((List.Perm.cons _ ((List.Perm.cons _ (List.Perm.swap _ _ _)).trans (List.Perm.swap _ _ _))).trans (List.Perm.swap _ _ _))
end

/-- A disk's bytes, with writes laid over them. -/
def nowP (d : List Int) (l : List (Int × List Int)) : List Int := l.foldl (fun d x => layL d x.2 x.1 0) d
theorem nowP_of (l : List Uw) : ∀ d, lays d l = nowP d (l.map Uw.pl) := by
  induction l with
  | nil => intro d; rfl
  | cons x l ih => intro d; exact ih _
theorem nowP_snoc (d : List Int) (l : List (Int × List Int)) (p : Int) (xs : List Int) : nowP d (l ++ [(p, xs)]) = layL (nowP d l) xs p 0 := by simp [nowP]
theorem nowP_len (l : List (Int × List Int)) : ∀ d, (nowP d l).length = d.length := by
  induction l with
  | nil => intro d; rfl
  | cons x l ih => intro d; show (nowP _ l).length = _; rw [ih, layL_len]
/-- What is unsynced behind a write. -/
def putP (d : List Int) (l : List (Int × List Int)) (p : Int) (xs : List Int) : List (Int × List Int) := if rcV d p xs.length = 0 ∧ xs ≠ [] then l ++ [(p, xs)] else l
/-- A write, cut at what its fate lets be done. -/
def cutP (x : Int × List Int) (f : Ft) : Int × List Int := (x.1, x.2.take (dnV f.1 f.2 x.2.length).toNat)
def trimP (l : List (Int × List Int)) (fs : List Ft) : List (Int × List Int) := l.mapIdx fun i x => cutP x (fs.getD i (0, 0))
theorem trim_pl {l : List Uw} (fs : List Ft) (h : ∀ x ∈ l, x.d.length = x.n) : (trim l fs).map Uw.pl = trimP (l.map Uw.pl) fs := by
  refine List.ext_getElem? (fun i => ?_)
  simp only [trim, trimP, List.getElem?_map, List.getElem?_mapIdx]
  cases hi : l[i]? with
  | none => rfl
  | some x =>
    have := h x (List.mem_of_getElem? hi)
    simp [Uw.pl, Uw.cut, cutP, cutN, this]
/-- What a call leaves of a disk. -/
structure Stp (w : World) (B g : Nat) (k k' : Dk) (w' : World) : Prop where
  dm : Dm w' B g k'
  kept : Kept (k.foot g) w w'
  foot : ∀ i, k'.foot g i → k.foot g i ∨ w.heap.size ≤ i
theorem Ms.disk {w wr w' : World} {l : List Th} {g : Nat} {k k' : Dk} (h : Ms w wr (.disk g k :: l)) (s : Stp wr w.heap.size g k k' w') : Ms w w' (.disk g k' :: l) := h.step (t' := .disk g k') s.dm s.kept s.foot
theorem Stp.refl {w : World} {B g : Nat} {k : Dk} (h : Dm w B g k) : Stp w B g k k w := ⟨h, Kept.refl _ _, fun _ h => .inl h⟩
theorem dkWrite_step (B g : Nat) (k : Dk) (p : Int) (b : Option Addr) (n c : Nat) (xs : List Int) (w : World) (h : Dm w B g k) (hp : I64 p) (hxl : xs.length = n) (hxr : Rd w b xs) (hxb : Byt xs) (hW : k.W.length ≤ 1000000) :
    Calls Try.prog 13 #[.pointer (some ⟨g, 0, none⟩), .int .i64 p, .slice b n c] w fun e w' => e = .returned (.int .i64 (rcV k.d p n)) ∧ ∃ k', Stp w B g k k' w' ∧ k'.d = k.d ∧ k'.ws = putP k.d k.ws p xs := by
  by_cases hv : rcV k.d p n = 0
  · rw [hv]
    rcases Nat.eq_zero_or_pos n with h0 | h0
    · subst h0
      refine (dkWrite_none B g k p b c w h hp hv).mono ?_
      rintro e w' ⟨rfl, rfl⟩
      refine ⟨rfl, k, Stp.refl h, rfl, ?_⟩
      unfold putP
      rw [if_neg (fun e => e.2 (List.eq_nil_of_length_eq_zero hxl))]
    · refine (dkWrite_any B g k p b n c xs w h hp hxl hxr hxb h0 hv hW).mono ?_
      rintro e w' ⟨rfl, k', hd, h1, h2, h3, h4⟩
      refine ⟨rfl, k', ⟨hd, h3.mono (fun i _ e => ?_), h4⟩, h1, ?_⟩
      · rcases e with e | e
        · exact .inl e
        · exact .inr (.inr (.inl e))
      · unfold putP
        rw [if_pos ⟨by rw [hxl]; exact hv, fun e => by rw [e] at hxl; simp at hxl; omega⟩]
        exact h2
  · refine (dkWrite_no B g k p b n c w h hp hv).mono ?_
    rintro e w' ⟨rfl, rfl⟩
    have hv2 : rcV k.d p n = 130 := by
      unfold rcV at hv ⊢
      split at hv <;> simp_all
    refine ⟨by rw [hv2], k, Stp.refl h, rfl, ?_⟩
    unfold putP
    rw [if_neg (fun e => hv (by rw [hxl] at e; exact e.1))]
theorem dkSync_step (B g : Nat) (k : Dk) (w : World) (h : Dm w B g k) :
    Calls Try.prog 10 #[.pointer (some ⟨g, 0, none⟩)] w fun e w' => e = .returned (.int .i64 0) ∧ ∃ k', Stp w B g k k' w' ∧ k'.d = nowP k.d k.ws ∧ k'.ws = [] := by
  refine (dkSync_any B g k w h).mono ?_
  rintro e w' ⟨rfl, hd, hk⟩
  refine ⟨rfl, _, ⟨hd, hk.mono (fun i _ e => ?_), fun i hi => ?_⟩, nowP_of _ _, rfl⟩
  · rcases e with e | e
    · exact .inl e
    · exact .inr (.inl e)
  · rcases hi with e | e | e | ⟨x, hx, e⟩
    · exact .inl (.inl e)
    · exact .inl (.inr (.inl e))
    · cases e
    · cases hx
theorem dkCrash_step (B g : Nat) (k : Dk) (fa : Option Addr) (n c : Nat) (fs : List Ft) (w : World) (h : Dm w B g k) (hfs : Fts w fa n fs) (hn : n ≤ 9223372036854775807) (hof : fs ≠ [] → ∀ r, blk fa = some r → blk k.a ≠ some r) :
    Calls Try.prog 11 #[.pointer (some ⟨g, 0, none⟩), .slice fa n c] w fun e w' => e = .returned (.int .i64 k.ws.length) ∧ ∃ k', Stp w B g k k' w' ∧ k'.d = nowP k.d (trimP k.ws fs) ∧ k'.ws = [] := by
  refine (dkCrash_any B g k fa n c fs w h hfs hn hof).mono ?_
  rintro e w' ⟨rfl, hd, hk⟩
  refine ⟨by simp [Dk.ws], _, ⟨hd, hk.mono (fun i _ e => ?_), fun i hi => ?_⟩, ?_, rfl⟩
  · rcases e with e | e
    · exact .inl e
    · exact .inr (.inl e)
  · rcases hi with e | e | e | ⟨x, hx, e⟩
    · exact .inl (.inl e)
    · exact .inl (.inr (.inl e))
    · cases e
    · cases hx
  · show lays k.d (trim k.W fs) = _
    rw [nowP_of, trim_pl fs (fun x hx => (h.wr.data x hx).len)]
    rfl
theorem dkRead_step (B g : Nat) (k : Dk) (p n : Nat) (w : World) (h : Dm w B g k) (hn : p + n ≤ k.d.length) : Calls Try.prog 12 #[.pointer (some ⟨g, 0, none⟩), .int .i64 p, .int .i64 n] w (MadeT w (cutD (nowP k.d k.ws) p n)) := by
  have := dkRead_any B g k p n w h hn
  rw [nowP_of] at this
  exact this
theorem nowP_byt {d : List Int} : ∀ {l : List (Int × List Int)}, Byt d → (∀ x ∈ l, Byt x.2) → Byt (nowP d l) := by
  intro l
  induction l generalizing d with
  | nil => intro h _; exact h
  | cons x l ih => intro h h2; exact ih (layL_byt h (h2 x (List.mem_cons_self ..))) (fun y hy => h2 y (List.mem_cons_of_mem _ hy))
theorem Dm.now_byt {w : World} {B g : Nat} {k : Dk} (h : Dm w B g k) : Byt (nowP k.d k.ws) := nowP_byt h.ok.byt (fun x hx => by
  obtain ⟨y, hy, rfl⟩ := List.mem_map.1 hx
  exact h.ok.wbyt y hy)
theorem ws_len (k : Dk) : k.W.length = k.ws.length := by simp [Dk.ws]
end Go.Proofs.Ytbghdlgfpfeaeaa

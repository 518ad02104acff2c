/-
  What stands before each round of BitsKnown, and what each of its four appends does to it. Conditions: fewer than a thousand elements.
-/
import Derived.Test.YtfkangknnaohaaaKnownM
namespace Go.Proofs.Ytfkangknnaohaaa
open Go.ChangeShapes Go.WideShapes Go.ChangeAt Go.RowKit

/-- The block of a slice's address is a row of bytes. -/
def ByteRow (w : World) (a : Option Addr) : Prop := ∀ b, blk a = some b → ∃ cur, w.heap[b]? = some (.cells cur 5 (0, 0))
theorem ByteRow.keep {S : Nat → Prop} {w w' : World} {a : Option Addr} (h : ByteRow w a) (k : Kept S w w') (hn : ∀ b, blk a = some b → ¬ S b) : ByteRow w' a := fun b hb => by
  obtain ⟨cur, hc⟩ := h b hb
  exact ⟨cur, k.heap hc (hn b hb)⟩
theorem ByteRow.apart {w : World} {a : Option Addr} (h : ByteRow w a) {base e size : Nat} {a' : Option Addr} {n cap : Nat} {vs : List Value} (ho : OwnG w base e size a' n cap vs) (hne : e ≠ 5) : ∀ b, blk a = some b → ¬ blk a' = some b := by
  intro b hb hb'
  obtain ⟨cur, hc⟩ := h b hb
  rcases ho.cases with ⟨rfl, _⟩ | ⟨g, cur', rfl, _, hg, _⟩
  · cases hb'
  · simp [blk] at hb'
    subst hb'
    rw [hc] at hg
    simp at hg
    exact hne hg.2.symm

structure KSt (w wr : World) (ba : Option Addr) (nb bc : Nat) (bs : List Int) (la : Option Addr) (nl lc : Nat) (ls : List Int) (sa : Option Addr) (ns sc : Nat) (ss : List Int) (aa : Option Addr) (na ac : Nat) (ts : List ActV) : Prop where
  bel : Below w.heap.size w wr
  b : Own wr w.heap.size ba nb bc bs
  byt : Byt bs
  l : OwnG wr w.heap.size 28 1 la nl lc (ls.map (Value.int .u64))
  lw : ∀ y ∈ ls, (Lit.int .u64 y).wf = true
  s : OwnG wr w.heap.size 3 1 sa ns sc (ss.map (Value.int .i64))
  sw : ∀ y ∈ ss, (Lit.int .i64 y).wf = true
  t : OwnG wr w.heap.size 30 5 aa na ac (ts.flatMap ActV.cells)
  tok : ∀ t ∈ ts, ActOk wr t
  tpre : ∀ t ∈ ts, t.xs = bs.take t.n ∧ t.n ≤ nb ∧ ByteRow wr t.a ∧ (t.a = ba ∨ ∀ c, blk t.a = some c → ¬ blk ba = some c)

theorem ActOk.rd' {w w' : World} {t : ActV} (h : ActOk w t) (hr : Rd w' t.a t.xs) : ActOk w' t := ⟨h.d, h.p, h.v, h.k, h.len, h.cap, h.max, hr, h.byt⟩

section
variable {w wr : World} {ba : Option Addr} {nb bc : Nat} {bs : List Int} {la : Option Addr} {nl lc : Nat} {ls : List Int} {sa : Option Addr} {ns sc : Nat} {ss : List Int} {aa : Option Addr} {na ac : Nat} {ts : List ActV}

theorem KSt.start (w : World) : KSt w w none 0 0 [] none 0 0 [] none 0 0 [] none 0 0 [] :=
  ⟨Below.refl _ _, Own.nil _ _, Byt.nil, OwnG.nil _ _ _ _, fun y hy => by simp at hy, OwnG.nil _ _ _ _, fun y hy => by simp at hy, OwnG.nil _ _ _ _, fun t ht => by simp at ht, fun t ht => by simp at ht⟩

theorem KSt.below {w' : World} (h : KSt w wr ba nb bc bs la nl lc ls sa ns sc ss aa na ac ts) (hb : Below wr.heap.size wr w') : KSt w w' ba nb bc bs la nl lc ls sa ns sc ss aa na ac ts := by
  have hk := Kept.of_below (S := fun _ => False) hb (fun i hi hi' => by omega)
  exact ⟨h.bel.trans (hb.mono h.bel.size), h.b.keep hk (fun _ _ => id), h.byt, h.l.below hb, h.lw, h.s.below hb, h.sw, h.t.below hb, fun t ht => (h.tok t ht).below hb,
    fun t ht => ⟨(h.tpre t ht).1, (h.tpre t ht).2.1, (h.tpre t ht).2.2.1.keep hk (fun _ _ => id), (h.tpre t ht).2.2.2⟩⟩

/-- A row of another element type has got one element more. -/
theorem KSt.other {w' : World} {e size : Nat} {a : Option Addr} {n cap : Nat} {vs : List Value} (h : KSt w wr ba nb bc bs la nl lc ls sa ns sc ss aa na ac ts) (ho : OwnG wr w.heap.size e size a n cap vs) (hk : Kept (fun k => blk a = some k) wr w') (he : e ≠ 5) :
    Below w.heap.size w w' ∧ Own w' w.heap.size ba nb bc bs ∧ (∀ t ∈ ts, ActOk w' t) ∧ (∀ t ∈ ts, t.xs = bs.take t.n ∧ t.n ≤ nb ∧ ByteRow w' t.a ∧ (t.a = ba ∨ ∀ c, blk t.a = some c → ¬ blk ba = some c)) := by
  refine ⟨h.bel.trans (hk.below h.bel.size (fun k e => (ho.blk_ge k e).1)), h.b.keep hk (fun b hb => (own_of h.b).apart ho (Ne.symm he) b hb), fun t ht => (h.tok t ht).rd' ((h.tok t ht).rd.keep hk ((h.tpre t ht).2.2.1.apart ho he)),
    fun t ht => ⟨(h.tpre t ht).1, (h.tpre t ht).2.1, (h.tpre t ht).2.2.1.keep hk ((h.tpre t ht).2.2.1.apart ho he), (h.tpre t ht).2.2.2⟩⟩

theorem KSt.addL (h : KSt w wr ba nb bc bs la nl lc ls sa ns sc ss aa na ac ts) (v : Int) (hv : (Lit.int .u64 v).wf = true) (hn : nl ≤ 1000) :
    ∃ g cap' w', (Builtin.append_ #[54, 54] 54 #[.slice la nl lc, .slice (some ⟨wr.heap.size, 0, none⟩) 1 1]).run Try.prog (wr.alloc (.cells #[.int .u64 v] 28)) = .ok (.slice (some ⟨g, 0, none⟩) (nl + 1) cap') w' ∧
      KSt w w' ba nb bc bs (some ⟨g, 0, none⟩) (nl + 1) cap' (ls ++ [v]) sa ns sc ss aa na ac ts := by
  obtain ⟨g, cap', w', hrun, hown, hk, _⟩ := run_append_one wr w.heap.size 54 54 28 _ 1 8 u64_info Try.underlying54 rfl (by omega) h.l [.int .u64 v] rfl (by intro u hu; simp at hu; subst hu; rfl) h.bel.size (by omega) (by omega)
  obtain ⟨h1, h2, h3, h4⟩ := h.other h.l hk (by decide)
  refine ⟨g, cap', w', hrun, h1, h2, h.byt, by simpa using hown, fun y hy => ?_, h.s.keep hk (fun b hb => h.s.apart h.l (by decide) b hb), h.sw, h.t.keep hk (fun b hb => h.t.apart h.l (by decide) b hb), h3, h4⟩
  rcases List.mem_append.1 hy with hy | hy
  · exact h.lw y hy
  · simp at hy; subst hy; exact hv
theorem KSt.addS (h : KSt w wr ba nb bc bs la nl lc ls sa ns sc ss aa na ac ts) (v : Int) (hv : (Lit.int .i64 v).wf = true) (hn : ns ≤ 1000) :
    ∃ g cap' w', (Builtin.append_ #[43, 43] 43 #[.slice sa ns sc, .slice (some ⟨wr.heap.size, 0, none⟩) 1 1]).run Try.prog (wr.alloc (.cells #[.int .i64 v] 3)) = .ok (.slice (some ⟨g, 0, none⟩) (ns + 1) cap') w' ∧
      KSt w w' ba nb bc bs la nl lc ls (some ⟨g, 0, none⟩) (ns + 1) cap' (ss ++ [v]) aa na ac ts := by
  obtain ⟨g, cap', w', hrun, hown, hk, _⟩ := run_append_one wr w.heap.size 43 43 3 _ 1 8 int_info Try.underlying43 rfl (by omega) h.s [.int .i64 v] rfl (by intro u hu; simp at hu; subst hu; rfl) h.bel.size (by omega) (by omega)
  obtain ⟨h1, h2, h3, h4⟩ := h.other h.s hk (by decide)
  refine ⟨g, cap', w', hrun, h1, h2, h.byt, h.l.keep hk (fun b hb => h.l.apart h.s (by decide) b hb), h.lw, by simpa using hown, fun y hy => ?_, h.t.keep hk (fun b hb => h.t.apart h.s (by decide) b hb), h3, h4⟩
  rcases List.mem_append.1 hy with hy | hy
  · exact h.sw y hy
  · simp at hy; subst hy; exact hv
theorem KSt.addT (h : KSt w wr ba nb bc bs la nl lc ls sa ns sc ss aa na ac ts) (d p v z : Int) (m : Nat) (hd : (Lit.int .i64 d).wf = true) (hp : (Lit.int .i64 p).wf = true) (hv : (Lit.int .u64 v).wf = true) (hz : (Lit.int .i64 z).wf = true) (hm : m ≤ nb) (hn : na ≤ 1000) :
    ∃ g cap' w', (Builtin.append_ #[22, 22] 22 #[.slice aa na ac, .slice (some ⟨wr.heap.size, 0, none⟩) 1 1]).run Try.prog (wr.alloc (.cells #[.int .i64 d, .int .i64 p, .int .u64 v, .int .i64 z, .slice ba m bc] 30)) = .ok (.slice (some ⟨g, 0, none⟩) (na + 1) cap') w' ∧
      KSt w w' ba nb bc bs la nl lc ls sa ns sc ss (some ⟨g, 0, none⟩) (na + 1) cap' (ts ++ [⟨d, p, v, z, ba, m, bc, bs.take m⟩]) := by
  obtain ⟨g, cap', w', hrun, hown, hk, _⟩ := run_append_one wr w.heap.size 22 22 30 _ 5 56 act_info Try.underlying22 rfl (by omega) h.t [.int .i64 d, .int .i64 p, .int .u64 v, .int .i64 z, .slice ba m bc] rfl (by intro u hu; simp at hu; rcases hu with rfl | rfl | rfl | rfl | rfl <;> rfl) h.bel.size (by omega) (by omega)
  obtain ⟨h1, h2, h3, h4⟩ := h.other h.t hk (by decide)
  have hle := h.b.le
  unfold maxLen at hle
  refine ⟨g, cap', w', hrun, h1, h2, h.byt, h.l.keep hk (fun b hb => h.l.apart h.t (by decide) b hb), h.lw, h.s.keep hk (fun b hb => h.s.apart h.t (by decide) b hb), h.sw, by simpa [ActV.cells] using hown, fun t ht => ?_, fun t ht => ?_⟩
  · rcases List.mem_append.1 ht with ht | ht
    · exact h3 t ht
    · simp at ht
      subst ht
      exact ⟨bounds_i64 hd, bounds_i64 hp, u64_of hv, bounds_i64 hz, by simp [h.b.len]; omega, by simp only; omega, by simp only; omega, h2.rd.taken m, h.byt.take m⟩
  · rcases List.mem_append.1 ht with ht | ht
    · exact h4 t ht
    · simp at ht
      subst ht
      refine ⟨rfl, hm, fun b hb => ?_, .inl rfl⟩
      rcases h2.cases with ⟨rfl, _⟩ | ⟨g', cur, rfl, _, hg, _⟩
      · cases hb
      · simp [blk] at hb; subst hb; exact ⟨cur, hg⟩
end
end Go.Proofs.Ytfkangknnaohaaa

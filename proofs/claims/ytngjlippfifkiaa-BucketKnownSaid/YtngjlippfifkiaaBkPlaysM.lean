/-
  What BucketPlays leans on: the calls that leave a bucket's tick; a row of acts; the memory of its loop. Conditions: those that the theorems name.
-/
import Derived.Test.YtngjlippfifkiaaBkDoes
import Derived.Test.YtngjlippfifkiaaPieces
namespace Go.Proofs.Ytngjlippfifkiaa
open Go.RowKit

/-- Filled up to a tick that is not behind its own: nothing happens. -/
theorem fill_stays (g : Nat) (t : Int) (b : Bu) (w : World) (hb : Bk w g b) (ht : t ≤ b.T) :
    Calls Try.prog 20 #[.pointer (some ⟨g, 0, none⟩), .int .u64 t, .func (.func 21) #[.pointer (some ⟨g, 0, none⟩)] #[]] w fun e w' => e = .returned (.tuple #[]) ∧ w' = w := by
  have c2 := hb.c2
  clear hb
  go_enter_defers Try.func20, Try.ntmps20
  go_wp2_with fail
  exact ⟨_, results_none rfl _ _ _, rfl, rfl⟩
theorem level_stays (g : Nat) (t : Int) (b : Bu) (w : World) (hb : Bk w g b) (ht : t ≤ b.T) :
    Calls Try.prog 14 #[.pointer (some ⟨g, 0, none⟩), .int .u64 t] w fun e w' => e = .returned (.int .u64 b.K) ∧ w' = w := by
  have HB := Lib.hid hb
  have c3 := hb.c3
  have hmf : ∀ (fn : Fn) (first cap : Array Value) (w : World), (Instr.makeFunc fn first cap).run Try.prog w = .ok (.func fn first cap) w := fun _ _ _ _ => rfl
  clear hb
  go_enter Try.func14, Try.ntmps14
  go_wp2_with fail
  refine (fill_stays g t b _ HB.out ht).mono ?_
  rintro e w1 ⟨rfl, hw⟩
  subst hw
  go_wp2_with fail
  go_ret
  exact ⟨rfl, rfl⟩
/-- All tokens are taken. -/
theorem take_all (g : Nat) (b : Bu) (w : World) (hb : Bk w g b) :
    Calls Try.prog 15 #[.pointer (some ⟨g, 0, none⟩), .int .u64 0, .int .u64 b.K] w (Does w g { b with K := 0 } (.bool true)) := by
  refine (take_any g 0 b.K b w hb (by decide) (by decide) hb.1.K0).mono ?_
  rintro e w' ⟨rfl, h, hk⟩
  have hf : b.fill 0 = b := fill_low b hb.1.T0
  rw [Bu.took, hf, if_pos (Int.le_refl _), Int.sub_self] at h
  exact ⟨by rw [hf, decide_eq_true (Int.le_refl _)], h, hk⟩

/-- A row of acts. -/
structure Acr (w : World) (a : Option Addr) (n : Nat) (l : List Ac) : Prop where
  len : l.length = n
  ok : ∀ x ∈ l, x.ok
  cells : l ≠ [] → ∃ b o, a = some ⟨b, o, none⟩ ∧ ∀ i x, l[i]? = some x → w.rangeAt b (o + i * 3) x.cs
theorem range_keep {S : Nat → Prop} {w w' : World} {g o : Nat} {cs : List Value} (k : Kept S w w') (hg : ¬ S g) (h : w.rangeAt g o cs) : w'.rangeAt g o cs := fun j v hv => by
  have h1 := h j v hv
  rw [← h1]
  exact World.cell?_of_block (k.block g (World.block_lt_of_cell? w _ h1) hg)
theorem range_kept {w wr : World} (h : Below w.heap.size w wr) {b o : Nat} {cs : List Value} (hc : w.rangeAt b o cs) : wr.rangeAt b o cs := fun j v hv => cell_kept h (hc j v hv)
theorem Acr.below {w w' : World} {a : Option Addr} {n : Nat} {l : List Ac} (h : Acr w a n l) (hb : Below w.heap.size w w') : Acr w' a n l :=
  ⟨h.len, h.ok, fun hne => by
    obtain ⟨b, o, e, hc⟩ := h.cells hne
    exact ⟨b, o, e, fun i r hr => range_kept hb (hc i r hr)⟩⟩
theorem Acr.nth {w : World} {a : Option Addr} {n : Nat} {l : List Ac} (h : Acr w a n l) {k : Nat} (hk : k < n) : ∃ x b o, l[k]? = some x ∧ x.ok ∧ a = some ⟨b, o, none⟩ ∧ w.rangeAt b (o + k * 3) x.cs := by
  have hk' : k < l.length := by rw [h.len]; exact hk
  obtain ⟨b, o, e, hc⟩ := h.cells (by intro e; rw [e] at hk'; simp at hk')
  exact ⟨l[k], b, o, List.getElem?_eq_getElem hk', h.ok _ (List.getElem_mem hk'), e, hc k _ (List.getElem?_eq_getElem hk')⟩
theorem Ac.r0 {w : World} {b o : Nat} {a : Ac} (h : w.rangeAt b o a.cs) : w.cell? ⟨b, o, none⟩ = some (.int .i64 a.d) := h 0 _ rfl
theorem Ac.r1 {w : World} {b o : Nat} {a : Ac} (h : w.rangeAt b o a.cs) : w.cell? ⟨b, o + 1, none⟩ = some (.int .u64 a.t) := h 1 _ rfl
theorem Ac.r2 {w : World} {b o : Nat} {a : Ac} (h : w.rangeAt b o a.cs) : w.cell? ⟨b, o + 2, none⟩ = some (.int .u64 a.n) := h 2 _ rfl

/-- The memory of the loop: the program's bucket and the document's, and the two first ones. -/
structure Pw (w wr : World) (g gR g1 gS : Nat) (p b b0 : Bu) : Prop where
  bk : Bk wr g p
  rk : Rk wr gR b
  f1 : Bk wr g1 b0
  s1 : Rk wr gS b0
  below : Below w.heap.size w wr
  og : w.heap.size ≤ g
  oR : w.heap.size ≤ gR
  o1 : w.heap.size ≤ g1
  oS : w.heap.size ≤ gS
  n1 : g ≠ g1
  nS : gR ≠ gS
theorem bkrk {w : World} {g h : Nat} {p b : Bu} (x : Bk w g p) (y : Rk w h b) : g ≠ h := by
  rintro rfl
  have h1 := x.2.symm.trans y
  simp at h1
section
variable {w wr w' : World} {g gR g1 gS : Nat} {p p' b b' b0 : Bu}
theorem Pw.past (h : Pw w wr g gR g1 gS p b b0) (k : Below wr.heap.size wr w') : Pw w w' g gR g1 gS p b b0 :=
  ⟨h.bk.below k, h.rk.below k, h.f1.below k, h.s1.below k, h.below.trans (k.mono h.below.size), h.og, h.oR, h.o1, h.oS, h.n1, h.nS⟩
theorem Pw.did (h : Pw w wr g gR g1 gS p b b0) (hb : Bk w' g p') (k : Kept (fun x => x = g) wr w') : Pw w w' g gR g1 gS p' b b0 :=
  ⟨hb, h.rk.keep k (fun e => bkrk h.bk h.rk e.symm), h.f1.keep k (fun e => h.n1 e.symm), h.s1.keep k (fun e => bkrk h.bk h.s1 e.symm),
    h.below.trans (k.below h.below.size (fun i e => by have := h.og; omega)), h.og, h.oR, h.o1, h.oS, h.n1, h.nS⟩
theorem Pw.put (h : Pw w wr g gR g1 gS p b b0) (hr : Rk w' gR b') (k : Kept (fun x => x = gR) wr w') : Pw w w' g gR g1 gS p b' b0 :=
  ⟨h.bk.keep k (bkrk h.bk h.rk), hr, h.f1.keep k (bkrk h.f1 h.rk), h.s1.keep k (fun e => h.nS e.symm),
    h.below.trans (k.below h.below.size (fun i e => by have := h.oR; omega)), h.og, h.oR, h.o1, h.oS, h.n1, h.nS⟩
/-- Another block, of the call's own, has changed. -/
theorem Pw.else_ {d : Nat} (h : Pw w wr g gR g1 gS p b b0) (k : Kept (fun x => x = d) wr w') (hd : w.heap.size ≤ d) (h1 : g ≠ d) (h2 : gR ≠ d) (h3 : g1 ≠ d) (h4 : gS ≠ d) : Pw w w' g gR g1 gS p b b0 :=
  ⟨h.bk.keep k h1, h.rk.keep k h2, h.f1.keep k h3, h.s1.keep k h4, h.below.trans (k.below h.below.size (fun i e => by omega)), h.og, h.oR, h.o1, h.oS, h.n1, h.nS⟩
end
/-- The tick of a bucket never lies before 0. -/
theorem Bk.t0 {w : World} {g : Nat} {b : Bu} (h : Bk w g b) : 0 ≤ b.T := h.1.T0
end Go.Proofs.Ytngjlippfifkiaa

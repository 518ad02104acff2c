/-
  The document's shaper in memory, and its small calls: there, when, next, Next. Conditions: those that the theorems name.
-/
import Derived.Test.YtpigpeehhadkjaaSpEaM
namespace Go.Proofs.Ytpigpeehhadkjaa
open Go.RowKit Bkt

/-- A lane of the document's: its plain view, its queue's row. -/
structure Dl where
  ab : Ab
  a : Option Addr
  n : Nat
  c : Nat
def Dl.bv (x : Dl) : List Value := x.ab.b.cs
def Dl.qv (x : Dl) : List Value := [.slice x.a x.n x.c, .int .i64 x.ab.A.I, .int .i64 x.ab.A.S, .int .u64 x.ab.A.D]
def Dl.sv (x : Dl) : List Value := [.int .u64 x.ab.o, .int .u64 x.ab.d, .int .u64 x.ab.u, .int .u64 x.ab.y]
theorem Dl.bl : ∀ x, (Dl.bv x).length = 4 := fun _ => rfl
theorem Dl.ql : ∀ x, (Dl.qv x).length = 4 := fun _ => rfl
theorem Dl.sl : ∀ x, (Dl.sv x).length = 4 := fun _ => rfl
/-- A shaper of the document's. -/
structure Ds where
  T : Int
  ls : List Dl
  n : Nat
  vb : Option Addr
  cb : Nat
  vq : Option Addr
  cq : Nat
  vs : Option Addr
  cs : Nat
def Ds.abs (d : Ds) : List Ab := d.ls.map Dl.ab
def Ds.v (d : Ds) : List Value := [.int .u64 d.T, .slice d.vb d.n d.cb, .slice d.vq d.n d.cq, .slice d.vs d.n d.cs]
/-- It lies in memory. -/
structure Dw (W : World) (B g : Nat) (d : Ds) : Prop where
  row : W.heap[g]? = some (.cells #[.int .u64 d.T, .slice d.vb d.n d.cb, .slice d.vq d.n d.cq, .slice d.vs d.n d.cs] 93 (0, 0))
  bs : OwnG W B 101 4 d.vb d.n d.cb (d.ls.flatMap Dl.bv)
  qs : OwnG W B 96 4 d.vq d.n d.cq (d.ls.flatMap Dl.qv)
  ss : OwnG W B 103 4 d.vs d.n d.cs (d.ls.flatMap Dl.sv)
  its : ∀ x ∈ d.ls, Rt W x.a x.n x.ab.A.l ∧ x.n ≤ x.c
  base : B ≤ g
section
variable {W W' : World} {B g : Nat} {d : Ds}
theorem Dw.len (h : Dw W B g d) : d.ls.length = d.n := h.bs.flat Dl.bl (by decide)
theorem Dw.below (h : Dw W B g d) (k : Below W.heap.size W W') : Dw W' B g d :=
  ⟨(Kept.of_below (S := fun _ => False) k (fun i hi hi' => by omega)).heap h.row id, h.bs.below k, h.qs.below k, h.ss.below k, fun x hx => ⟨(h.its x hx).1.below k, (h.its x hx).2⟩, h.base⟩
theorem Dw.c0 (h : Dw W B g d) : W.cell? ⟨g, 0, none⟩ = some (.int .u64 d.T) := q4_0 h.row
theorem Dw.c1 (h : Dw W B g d) : W.cell? ⟨g, 1, none⟩ = some (.slice d.vb d.n d.cb) := q4_1 h.row
theorem Dw.c2 (h : Dw W B g d) : W.cell? ⟨g, 2, none⟩ = some (.slice d.vq d.n d.cq) := q4_2 h.row
theorem Dw.c3 (h : Dw W B g d) : W.cell? ⟨g, 3, none⟩ = some (.slice d.vs d.n d.cs) := q4_3 h.row
end
def thB (n : Nat) (c : Int) : Bool := decide (0 ≤ c) && decide (c < (n : Int))
set_option maxRecDepth 100000 in
/-- there: the class is one of the shaper's. -/
theorem dThere_any (B g : Nat) (d : Ds) (c : Int) (w : World) (h : Dw w B g d) :
    Calls Try.prog 46 #[.pointer (some ⟨g, 0, none⟩), .int .i64 c] w fun e w' => e = .returned (.bool (thB d.n c)) ∧ w = w' := by
  have c2 := h.c2
  clear h
  by_cases h0 : 0 ≤ c
  · by_cases h1 : c < (d.n : Int)
    · have ht : thB d.n c = true := by unfold thB; rw [decide_eq_true h0, decide_eq_true h1]; rfl
      rw [ht]
      clear ht
      go_enter Try.func46, Try.ntmps46
      go_wp2_with fail
      refine bodyPost_ret (v := .bool true) (by simp [results, Try.results46, go_sem, *]) rfl ?_
      exact ⟨rfl, rfl⟩
    · have ht : thB d.n c = false := by unfold thB; rw [decide_eq_true h0, decide_eq_false h1]; rfl
      rw [ht]
      clear ht
      go_enter Try.func46, Try.ntmps46
      go_wp2_with fail
      refine bodyPost_ret (v := .bool false) (by simp [results, Try.results46, go_sem, *]) rfl ?_
      exact ⟨rfl, rfl⟩
  · have ht : thB d.n c = false := by unfold thB; rw [decide_eq_false h0]; rfl
    rw [ht]
    clear ht
    go_enter Try.func46, Try.ntmps46
    go_wp2_with fail
    refine bodyPost_ret (v := .bool false) (by simp [results, Try.results46, go_sem, *]) rfl ?_
    exact ⟨rfl, rfl⟩
end Go.Proofs.Ytpigpeehhadkjaa

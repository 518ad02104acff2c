/-
  heads of a shaper, and the function that it hands out, in pieces. Conditions: those that the theorems name. (Made by gen_spheads.py.)
-/
import Derived.Test.YtpigpeehhadkjaaSpLane3
import Derived.Test.YtpigpeehhadkjaaSpRow
import Derived.Deep.RegionWith
namespace Go.Proofs.Ytpigpeehhadkjaa
open Go.RowKit Bkt

/-- A turn, and whether it was asked. -/
structure Tq where
  t : Tu
  k : Bool
def Tq.cs (x : Tq) : List Value := [.int .u64 x.t.at_, .bool x.t.ev, .bool x.k]
theorem Tq.len (x : Tq) : x.cs.length = 3 := rfl
theorem Tq.one (x : Tq) : ∀ v ∈ x.cs, v.oneCell' = true := by
  intro v hv
  simp only [Tq.cs, List.mem_cons, List.not_mem_nil, or_false] at hv
  rcases hv with rfl | rfl | rfl <;> rfl
def tz : Tq := ⟨⟨0, false⟩, false⟩
theorem infTu : (Try.prog.info? 140).map (fun i => (i.zero, i.size, i.bytes)) = some (some (.agg #[.int .u64 0, .bool false, .bool false]), 3, 16) := by kernel_rfl
theorem infTu3 : (Try.prog.info? 140).map (·.size) = some 3 := by kernel_rfl
theorem tq_pz : ∀ (n : Nat), (List.replicate n tz).flatMap Tq.cs = (madeCells #[.int .u64 0, .bool false, .bool false] (n * 3)).toList := by
  intro n
  apply List.ext_getElem?
  intro j
  have hl := flat_len Tq.cs 3 (List.replicate n tz) (fun x _ => x.len)
  by_cases hj : j < n * 3
  · have hi : (List.replicate n tz)[j / 3]? = some tz := by rw [List.getElem?_replicate, if_pos (by omega)]
    have h1 := flat_at Tq.cs 3 _ (fun x _ => x.len) (j / 3) tz hi (j % 3) (by omega)
    rw [show j / 3 * 3 + j % 3 = j by omega] at h1
    rw [h1]
    have : j % 3 = 0 ∨ j % 3 = 1 ∨ j % 3 = 2 := by omega
    rcases this with e | e | e <;> simp [madeCells, hj, e, tz, Tq.cs]
  · rw [List.getElem?_eq_none (by rw [hl]; simp; omega), List.getElem?_eq_none (by simp [madeCells]; omega)]
theorem run_make_tq (W : World) (M : Nat) (hM : M ≤ 1000000) : (Instr.makeSlice 138 (.int .i64 (M : Int)) (.int .i64 (M : Int))).run Try.prog W = .ok (.slice (some ⟨W.heap.size, 0, none⟩) M M) (W.alloc (.cells ((List.replicate M tz).flatMap Tq.cs).toArray 140)) := by
  obtain ⟨i0, hi, hz0, hz1, hz2⟩ := info_parts infTu
  have hr := run_make (P := Try.prog) W 138 140 i0 (.agg #[.int .u64 0, .bool false, .bool false]) Try.underlying138 hi hz0 .i64 .i64 (M : Int) (M : Int) (by omega) (Int.le_refl _) (by rw [hz2]; omega) (by omega)
  rw [Int.toNat_natCast, hz1] at hr
  rw [hr, tq_pz]
  rfl
/-- What the function that finds the head has caught. -/
structure Cl (W : World) (g b1 b3 gt n : Nat) (l : List Tq) : Prop where
  p1 : W.heap[b1]? = some (.cells #[.pointer (some ⟨g, 0, none⟩)] 27 (0, 0))
  p3 : W.heap[b3]? = some (.cells #[.slice (some ⟨gt, 0, none⟩) n n] 138 (0, 0))
  pt : W.heap[gt]? = some (.cells (l.flatMap Tq.cs).toArray 140 (0, 0))
  len : l.length = n
theorem Cl.n1 {W : World} {g b1 b3 gt n : Nat} {l : List Tq} (h : Cl W g b1 b3 gt n l) : gt ≠ b1 ∧ gt ≠ b3 := by
  have h1 := h.p1
  have h3 := h.p3
  have ht := h.pt
  constructor
  · rintro rfl
    rw [h1] at ht
    simp at ht
  · rintro rfl
    rw [h3] at ht
    simp at ht
theorem Cl.keep {S : Nat → Prop} {W W' : World} {g b1 b3 gt n : Nat} {l : List Tq} (h : Cl W g b1 b3 gt n l) (k : Kept S W W') (h1 : ¬ S b1) (h3 : ¬ S b3) (ht : ¬ S gt) : Cl W' g b1 b3 gt n l := ⟨k.heap h.p1 h1, k.heap h.p3 h3, k.heap h.pt ht, h.len⟩
theorem Cl.past {W W' : World} {g b1 b3 gt n : Nat} {l : List Tq} (h : Cl W g b1 b3 gt n l) (k : Below W.heap.size W W') : Cl W' g b1 b3 gt n l := h.keep (S := fun _ => False) (Kept.of_below k (fun i hi hi' => by omega)) id id id
theorem Cl.set {W : World} {g b1 b3 gt n : Nat} {l : List Tq} (h : Cl W g b1 b3 gt n l) {i : Nat} (hi : i < n) (x : Tq) : Cl (W.setCells gt (i * 3) x.cs) g b1 b3 gt n (l.set i x) ∧ Kept (fun k => k = gt) W (W.setCells gt (i * 3) x.cs) := by
  have k : Kept (fun k => k = gt) W (W.setCells gt (i * 3) x.cs) := Kept.setCells (S := fun k => k = gt) gt rfl _ _ (Kept.refl _ _)
  have hne := h.n1
  exact ⟨⟨k.heap h.p1 (fun e => hne.1 e.symm), k.heap h.p3 (fun e => hne.2 e.symm), frow_set Tq.len h.pt (by rw [h.len]; exact hi) x, by rw [List.length_set]; exact h.len⟩, k⟩
theorem Cl.one {W : World} {g b1 b3 gt n : Nat} {l : List Tq} (h : Cl W g b1 b3 gt n l) {i : Nat} {x : Tq} (hx : l[i]? = some x) : Cl (W.setCell ⟨gt, i * 3 + 2, none⟩ (.bool false)) g b1 b3 gt n (l.set i { x with k := false }) ∧ Kept (fun k => k = gt) W (W.setCell ⟨gt, i * 3 + 2, none⟩ (.bool false)) := by
  have k : Kept (fun k => k = gt) W (W.setCell ⟨gt, i * 3 + 2, none⟩ (.bool false)) := Kept.setCell _ _ _ rfl
  have hne := h.n1
  exact ⟨⟨k.heap h.p1 (fun e => hne.1 e.symm), k.heap h.p3 (fun e => hne.2 e.symm), frow_one Tq.len h.pt hx (by omega) rfl, by rw [List.length_set]; exact h.len⟩, k⟩
/-- The turns that were asked are those of the lanes. -/
def Fit (T : Int) (ls : List Ab) (l : List Tq) : Prop := ∀ i x, l[i]? = some x → x.k = true → x.t = tn T ls i
/-- What the shaper and its turns are in a walk. -/
structure Hw (w W : World) (B g b1 b3 gt : Nat) (s : Sh) (l : List Tq) : Prop where
  sw : Sw W B g s
  cl : Cl W g b1 b3 gt s.n l
  fit : Fit s.T s.abs l
  kept : Kept (fun k => k = gt) w W
  nf : ¬ s.foot g gt
  na : ∀ b, blk s.a = some b → b ≠ gt
theorem Hw.past {w W W' : World} {B g b1 b3 gt : Nat} {s : Sh} {l : List Tq} (h : Hw w W B g b1 b3 gt s l) (k : Below W.heap.size W W') : Hw w W' B g b1 b3 gt s l :=
  ⟨h.sw.below k, h.cl.past k, h.fit, h.kept.trans (Kept.of_below (S := fun _ => False) k (fun i hi hi' => by omega)) (fun _ _ e => e.elim), h.nf, h.na⟩
theorem Hw.ask {w W : World} {B g b1 b3 gt : Nat} {s : Sh} {l : List Tq} (h : Hw w W B g b1 b3 gt s l) {i : Nat} (hi : i < s.n) : Hw w (W.setCells gt (i * 3) (Tq.cs ⟨tn s.T s.abs i, true⟩)) B g b1 b3 gt s (l.set i ⟨tn s.T s.abs i, true⟩) := by
  obtain ⟨hc, k⟩ := h.cl.set hi ⟨tn s.T s.abs i, true⟩
  refine ⟨h.sw.keep k (fun j hj e => h.nf (e ▸ hj)) (fun b hb e => h.na b hb e), hc, fun j x hx hk => ?_, h.kept.trans k (fun _ _ e => e), h.nf, h.na⟩
  have hl := h.cl.len
  by_cases e : i = j
  · subst e
    rw [List.getElem?_set_self (by omega)] at hx
    simp at hx
    rw [← hx]
  · rw [List.getElem?_set_ne e] at hx
    exact h.fit j x hx hk
theorem Hw.get {w W : World} {B g b1 b3 gt : Nat} {s : Sh} {l : List Tq} (h : Hw w W B g b1 b3 gt s l) {i : Nat} (hi : i < s.n) : ∃ x, l[i]? = some x ∧ W.cell? ⟨gt, i * 3, none⟩ = some (.int .u64 x.t.at_) ∧ W.cell? ⟨gt, i * 3 + 1, none⟩ = some (.bool x.t.ev) ∧ W.cell? ⟨gt, i * 3 + 2, none⟩ = some (.bool x.k) ∧ W.frozen? ⟨gt, i * 3 + 2, none⟩ = false := by
  have hi2 : i < l.length := by rw [h.cl.len]; exact hi
  have hx := List.getElem?_eq_getElem hi2
  have hr := frow_at Tq.len h.cl.pt hx
  exact ⟨_, hx, hr 0 _ rfl, hr 1 _ rfl, hr 2 _ rfl, frozen_of_row W _ _ _ _ h.cl.pt⟩

/-- What heads answers. -/
def HeadsR (w : World) (B g : Nat) (s : Sh) (e : Ending) (w' : World) : Prop :=
  ∃ b1 b3 gt l, e = .returned (.func (.func 53) #[] #[.pointer (some ⟨b1, 0, none⟩), .pointer (some ⟨b3, 0, none⟩)]) ∧ Below w.heap.size w w' ∧ Hw w' w' B g b1 b3 gt s l ∧ w.heap.size ≤ b1 ∧ w.heap.size ≤ b3 ∧ w.heap.size ≤ gt
set_option maxRecDepth 100000 in
set_option maxHeartbeats 1000000 in
theorem heads_any (B g : Nat) (s : Sh) (w : World) (h : Sw w B g s) : Calls Try.prog 41 #[.pointer (some ⟨g, 0, none⟩)] w (HeadsR w B g s) := by
  have hal : Below w.heap.size w (w.alloc (.cells #[.pointer (some ⟨g, 0, none⟩)] 27)) := (Below.refl _ _).alloc (Nat.le_refl _) _
  have hr1 : (w.alloc (.cells #[.pointer (some ⟨g, 0, none⟩)] 27)).heap[w.heap.size]? = some (.cells #[.pointer (some ⟨g, 0, none⟩)] 27 (0, 0)) := Blk_new _ _ _
  obtain ⟨w0, hw0⟩ : ∃ z, w.alloc (.cells #[.pointer (some ⟨g, 0, none⟩)] 27) = z := ⟨_, rfl⟩
  rw [hw0] at hal hr1
  have hs0 := h.below hal
  have c1 := hs0.c1
  have d1 : w0.cell? ⟨w.heap.size, 0, none⟩ = some (.pointer (some ⟨g, 0, none⟩)) := cell_of_one hr1
  have HM : Hid ((Instr.makeSlice 138 (.int .i64 (s.n : Int)) (.int .i64 (s.n : Int))).run Try.prog w0 = _) := run_make_tq w0 s.n (by have := h.le; omega)
  have H0 : Hid (Below w.heap.size w w0 ∧ Sw w0 B g s ∧ w0.heap[w.heap.size]? = some (.cells #[.pointer (some ⟨g, 0, none⟩)] 27 (0, 0)) ∧ w.heap.size < w0.heap.size) := ⟨hal, hs0, hr1, (Array.getElem?_eq_some_iff.1 hr1).1⟩
  have hmk := HM.out
  clear h hal hr1 hs0
  go_enter Try.func41, Try.ntmps41
  go_wp2_with fail
  have hmf : ∀ (fn : Fn) (first cap : Array Value) (w : World), (Instr.makeFunc fn first cap).run Try.prog w = .ok (.func fn first cap) w := fun _ _ _ _ => rfl
  go_wp2_with fail
  go_ret
  have h2 : Below w0.heap.size w0 (w0.alloc (.cells ((List.replicate s.n tz).flatMap Tq.cs).toArray 140)) := (Below.refl _ _).alloc (Nat.le_refl _) _
  have h3 := h2.alloc h2.size (.cells #[.slice (some ⟨w0.heap.size, 0, none⟩) s.n s.n] 138)
  have hlt := H0.out.2.2.2
  refine ⟨w.heap.size, w0.heap.size + 1, w0.heap.size, List.replicate s.n tz, by simp, H0.out.1.trans (h3.mono (by omega)), ⟨H0.out.2.1.below h3, ⟨?_, ?_, ?_, by simp⟩, fun i x hx hk => ?_, Kept.refl _ _, fun e => ?_, fun b hb e => ?_⟩, Nat.le_refl _, by omega, by omega⟩
  · rw [h3.block _ (by omega)]; exact H0.out.2.2.1
  · have := Blk_new (w0.alloc (.cells ((List.replicate s.n tz).flatMap Tq.cs).toArray 140)) #[.slice (some ⟨w0.heap.size, 0, none⟩) s.n s.n] 138
    rwa [World.size_alloc] at this
  · rw [Below.heap_alloc _ _ _ (by simp)]; exact Blk_new _ _ _
  · rw [List.getElem?_replicate] at hx
    split at hx
    · simp at hx; subst hx; cases hk
    · cases hx
  · have := (H0.out.2.1.foot_lt e).2; omega
  · have := (H0.out.2.1.ptrs.blk_ge b hb).2; omega
end Go.Proofs.Ytpigpeehhadkjaa

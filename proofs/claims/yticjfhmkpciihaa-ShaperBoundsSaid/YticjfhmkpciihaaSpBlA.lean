/-
  ShaperBounds in pieces. Conditions: those that the theorems name. (Made by gen_spbl.py.)
-/
import Derived.Test.YticjfhmkpciihaaSpOd
namespace Go.Proofs.Yticjfhmkpciihaa
open Go.RowKit Bkt

theorem Sw.kind {W : World} {B g : Nat} {s : Sh} (h : Sw W B g s) {k : Nat} (hk : s.foot g k) : ∃ cur t, W.heap[k]? = some (.cells cur t (0, 0)) ∧ (t = 73 ∨ t = 88 ∨ t = 124 ∨ t = 122 ∨ t = 40 ∨ t = 5) := by
  rcases hk with rfl | ⟨l, hl, hk⟩
  · exact ⟨_, _, h.row, .inl rfl⟩
  · obtain ⟨c, t, e, ht⟩ := (h.lws l hl).kind hk
    exact ⟨c, t, e, .inr ht⟩
theorem Sw.not_foot {W : World} {B g : Nat} {s : Sh} (h : Sw W B g s) {k : Nat} {cur : Array Value} {t : TypeId} (hr : W.heap[k]? = some (.cells cur t (0, 0))) (ht : t ≠ 73 ∧ t ≠ 88 ∧ t ≠ 124 ∧ t ≠ 122 ∧ t ≠ 40 ∧ t ≠ 5) : ¬ s.foot g k := fun hk => by
  obtain ⟨c, t', e, h2⟩ := h.kind hk
  rw [hr] at e
  simp at e
  obtain ⟨_, rfl⟩ := e
  rcases h2 with e | e | e | e | e | e
  · exact ht.1 e
  · exact ht.2.1 e
  · exact ht.2.2.1 e
  · exact ht.2.2.2.1 e
  · exact ht.2.2.2.2.1 e
  · exact ht.2.2.2.2.2 e
theorem Ops.rowk {W : World} {B : Nat} {v : Option Addr} {n cap : Nat} {ys : List Po} (h : Ops W B v n cap ys) {k : Nat} (hk : blk v = some k) : ∃ cur, W.heap[k]? = some (.cells cur 61 (0, 0)) := by
  rcases h.row.cases with ⟨e, _⟩ | ⟨r, cur, e, _, hr, _⟩
  · rw [e] at hk; cases hk
  · rw [e] at hk
    simp [blk] at hk
    subst hk
    exact ⟨cur, hr⟩
theorem OwnG.blkk {W : World} {base e size : Nat} {a : Option Addr} {n cap : Nat} {vs : List Value} (h : OwnG W base e size a n cap vs) {k : Nat} (hk : blk a = some k) : ∃ cur, W.heap[k]? = some (.cells cur e (0, 0)) := by
  rcases h.cases with ⟨e, _⟩ | ⟨r, cur, e, _, hr, _⟩
  · rw [e] at hk; cases hk
  · rw [e] at hk
    simp [blk] at hk
    subst hk
    exact ⟨cur, hr⟩
/-- The law's memory. -/
structure Bm (w W : World) (g : Nat) (s : Sh) (N : Int) (ro : Nat) (offs : List Of) (vo : Option Addr) (no co : Nat) (ys : List Po) : Prop where
  lv : Lv w W g s N
  offs : Offs W w.heap.size ro offs
  ops : Ops W w.heap.size vo no co ys
  dis : ∀ y ∈ ys, ∀ k, blk y.y.a = some k → ¬ s.foot g k
section
variable {w W W' : World} {g : Nat} {s s' : Sh} {N M : Int} {ro : Nat} {offs : List Of} {vo : Option Addr} {no co : Nat} {ys : List Po}
theorem Bm.past (h : Bm w W g s N ro offs vo no co ys) (k : Below W.heap.size W W') : Bm w W' g s N ro offs vo no co ys := ⟨h.lv.past k, h.offs.below k, h.ops.below k, h.dis⟩
/-- The shaper has changed. -/
theorem Bm.sh (h : Bm w W g s N ro offs vo no co ys) (hl : Lv w W' g s' M) (k : Kept (s.foot g) W W') (hf : ∀ k, s'.foot g k → s.foot g k ∨ W.heap.size ≤ k) : Bm w W' g s' M ro offs vo no co ys :=
  ⟨hl, h.offs.keep k (fun i t cur hr ht _ => h.lv.sw.not_foot hr (by rcases ht with rfl | rfl <;> decide)),
    ⟨h.ops.row.keep k (fun b hb e => by
      obtain ⟨cur, hr⟩ := h.ops.rowk hb
      exact h.lv.sw.not_foot hr (by decide) e), fun y hy => ⟨(h.ops.data y hy).1.keep k (fun b hb e => h.dis y hy b hb e), (h.ops.data y hy).2⟩, h.ops.apart⟩,
    fun y hy b hb e => by
      rcases hf b e with e | e
      · exact h.dis y hy b hb e
      · have := ((h.ops.data y hy).1.blk_ge b hb).2; omega⟩
/-- What went out has one row more. -/
theorem Bm.cat (h : Bm w W g s N ro offs vo no co ys) {v' : Option Addr} {n' c' : Nat} {zs : List Po} (ho : Ops W' w.heap.size v' n' c' (ys ++ zs)) (k : Kept (fun i => blk vo = some i) W W') (hd : ∀ y ∈ zs, ∀ k, blk y.y.a = some k → ¬ s.foot g k) : Bm w W' g s N ro offs v' n' c' (ys ++ zs) := by
  have hvo : ∀ i, blk vo = some i → w.heap.size ≤ i := fun i hi => (h.ops.row.blk_ge i hi).1
  refine ⟨⟨h.lv.sw.keep k (fun i hi e => ?_) (fun b hb e => ?_), h.lv.n1, h.lv.below.trans (k.below h.lv.below.size hvo), h.lv.db, h.lv.bT, h.lv.T0, h.lv.T1, h.lv.N0⟩, h.offs.keep k (fun i t cur hr ht _ e => ?_), ho, fun y hy => ?_⟩
  · obtain ⟨cur, hr⟩ := h.ops.rowk e
    exact h.lv.sw.not_foot hr (by decide) hi
  · obtain ⟨cur, hr⟩ := h.ops.rowk e
    obtain ⟨cur2, hr2⟩ := h.lv.sw.ptrs.blkk hb
    rw [hr] at hr2
    simp at hr2
  · obtain ⟨cur2, hr2⟩ := h.ops.rowk e
    rw [hr] at hr2
    simp at hr2
    rcases ht with e3 | e3 <;> exact absurd (e3.symm.trans hr2.2) (by decide)
  · rcases List.mem_append.1 hy with hy | hy
    · exact h.dis y hy
    · exact hd y hy
/-- A class's row has one number more. -/
theorem Offs.push {base : Nat} (h : Offs W base ro offs) {c : Nat} {f : Of} (hf : offs[c]? = some f) (z : Int) (hn : f.n ≤ 1000000) (hb : base ≤ W.heap.size) :
    ∃ r c' w', (Builtin.append_ #[52, 52] 52 #[.slice f.a f.n f.c, .slice (some ⟨W.heap.size, 0, none⟩) 1 1]).run Try.prog (W.alloc (.cells #[.int .u64 z] 22)) = .ok (.slice (some ⟨r, 0, none⟩) (f.n + 1) c') w' ∧
      (w'.cell? ⟨ro, c, none⟩).isSome = true ∧ w'.frozen? ⟨ro, c, none⟩ = false ∧
      Offs (w'.setCell ⟨ro, c, none⟩ (.slice (some ⟨r, 0, none⟩) (f.n + 1) c')) base ro (offs.set c ⟨some ⟨r, 0, none⟩, f.n + 1, c', f.xs ++ [z]⟩) ∧ Kept (fun i => i = ro ∨ blk f.a = some i) W (w'.setCell ⟨ro, c, none⟩ (.slice (some ⟨r, 0, none⟩) (f.n + 1) c')) := by
  have hfm := List.mem_of_getElem? hf
  have hci := (List.getElem?_eq_some_iff.1 hf).1
  obtain ⟨r, c', w', hrun, hown, hk, hr⟩ := run_append_one W base 52 52 22 _ 1 8 u64_info Try.underlying52 (by decide) (by decide) (h.own f hfm) [.int .u64 z] rfl (by intro u hu; simp at hu; subst hu; rfl) hb (by omega) (by omega)
  have hro : ∀ i, blk f.a = some i → i ≠ ro := fun i hi e => by
    obtain ⟨cur, hr⟩ := (h.own f hfm).blkk hi
    rw [e, h.row] at hr
    simp at hr
  have hrow1 : w'.heap[ro]? = some (.cells (offs.flatMap Of.v).toArray 52 (0, 0)) := hk.heap h.row (fun e => hro ro e rfl)
  have hk2 : Kept (fun i => i = ro) w' (w'.setCell ⟨ro, c, none⟩ (.slice (some ⟨r, 0, none⟩) (f.n + 1) c')) := Kept.setCell _ _ _ rfl
  have hrr : r ≠ ro := fun e => by
    obtain ⟨cur, hr2⟩ := hown.blkk (k := r) rfl
    rw [e, hrow1] at hr2
    simp at hr2
  refine ⟨r, c', w', hrun, ?_, frozen_of_row w' ro c _ _ hrow1, ⟨?_, fun x hx => ?_, ?_, h.base⟩, (hk.mono (fun _ _ e => Or.inr e)).trans hk2 (fun _ _ e => Or.inl e)⟩
  · have := frow_at Of.len hrow1 hf 0 _ rfl
    rw [Nat.mul_one, Nat.add_zero] at this
    rw [this]; rfl
  · have := frow_one Of.len hrow1 (i := c) (j := 0) (v := .slice (some ⟨r, 0, none⟩) (f.n + 1) c') (y := ⟨some ⟨r, 0, none⟩, f.n + 1, c', f.xs ++ [z]⟩) hf (by omega) rfl
    rw [Nat.mul_one, Nat.add_zero] at this
    exact this
  · obtain ⟨j, hj⟩ := List.getElem?_of_mem hx
    by_cases e : c = j
    · subst e
      rw [List.getElem?_set_self hci] at hj
      simp at hj
      subst hj
      have : (f.xs ++ [z]).map (Value.int .u64) = f.xs.map (Value.int .u64) ++ [.int .u64 z] := by simp
      show OwnG _ base 22 1 (some ⟨r, 0, none⟩) (f.n + 1) c' ((f.xs ++ [z]).map (Value.int .u64))
      rw [this]
      exact hown.keep hk2 (fun b hb e => by simp [blk] at hb; omega)
    · rw [List.getElem?_set_ne e] at hj
      have hxm := List.mem_of_getElem? hj
      have hap : ∀ k, blk x.a = some k → ¬ blk f.a = some k := fun k h1 h2 => by
        have hp := List.pairwise_iff_getElem.1 h.apart
        obtain ⟨hj1, hj2⟩ := List.getElem?_eq_some_iff.1 hj
        obtain ⟨hf1, hf2⟩ := List.getElem?_eq_some_iff.1 hf
        rcases Nat.lt_or_gt_of_ne e with e2 | e2
        · have := hp c j hf1 hj1 e2 k; rw [hf2, hj2] at this; exact this h2 h1
        · have := hp j c hj1 hf1 e2 k; rw [hf2, hj2] at this; exact this h1 h2
      refine ((h.own x hxm).keep hk (fun b hb e2 => hap b hb e2)).keep hk2 (fun b hb e2 => ?_)
      obtain ⟨cur, hr2⟩ := (h.own x hxm).blkk hb
      rw [e2, h.row] at hr2
      simp at hr2
  · refine List.pairwise_iff_getElem.2 fun j1 j2 h1 h2 hlt k hk1 hk2' => ?_
    rw [List.length_set] at h1 h2
    have hp := List.pairwise_iff_getElem.1 h.apart
    have hnew : ∀ j (hj : j < offs.length), j ≠ c → ∀ k, (k = r) → blk (offs[j]'hj).a = some k → False := fun j hj hne k hk1 hk3 => by
      have hjm := h.own _ (List.getElem_mem hj)
      rcases hr with e | e
      · obtain ⟨hf1, hf2⟩ := List.getElem?_eq_some_iff.1 hf
        rcases Nat.lt_or_gt_of_ne hne with e2 | e2
        · have := hp j c hj hf1 e2 k hk3; rw [hf2] at this; exact this (by rw [hk1]; exact e)
        · have := hp c j hf1 hj e2 k (by rw [hf2, hk1]; exact e); exact this hk3
      · have := (hjm.blk_ge k hk3).2; omega
    simp only [List.getElem_set] at hk1 hk2'
    by_cases e1 : c = j1
    · rw [if_pos e1] at hk1
      rw [if_neg (by omega)] at hk2'
      exact hnew j2 h2 (by omega) k (by simpa [blk] using hk1.symm) hk2'
    · rw [if_neg e1] at hk1
      by_cases e2 : c = j2
      · rw [if_pos e2] at hk2'
        exact hnew j1 h1 (by omega) k (by simpa [blk] using hk2'.symm) hk1
      · rw [if_neg e2] at hk2'
        exact hp j1 j2 h1 h2 hlt k hk1 hk2'
theorem Bm.push (h : Bm w W g s N ro offs vo no co ys) {offs' : List Of} {f : Of} {c : Nat} (hf : offs[c]? = some f) (ho : Offs W' w.heap.size ro offs') (k : Kept (fun i => i = ro ∨ blk f.a = some i) W W') : Bm w W' g s N ro offs' vo no co ys := by
  have hS : ∀ i, (i = ro ∨ blk f.a = some i) → w.heap.size ≤ i ∧ ∃ cur t, W.heap[i]? = some (.cells cur t (0, 0)) ∧ (t = 52 ∨ t = 22) := fun i hi => by
    rcases hi with rfl | hi
    · exact ⟨h.offs.base, _, _, h.offs.row, .inl rfl⟩
    · obtain ⟨cur, hr⟩ := (h.offs.own f (List.mem_of_getElem? hf)).blkk hi
      exact ⟨((h.offs.own f (List.mem_of_getElem? hf)).blk_ge i hi).1, cur, _, hr, .inr rfl⟩
  refine ⟨⟨h.lv.sw.keep k (fun i hi e => ?_) (fun b hb e => ?_), h.lv.n1, h.lv.below.trans (k.below h.lv.below.size (fun i hi => (hS i hi).1)), h.lv.db, h.lv.bT, h.lv.T0, h.lv.T1, h.lv.N0⟩, ho, h.ops.keep k (fun i hi hb => ?_), h.dis⟩
  · obtain ⟨_, cur, t, hr, ht⟩ := hS i e
    exact h.lv.sw.not_foot hr (by rcases ht with rfl | rfl <;> decide) hi
  · obtain ⟨_, cur, t, hr, ht⟩ := hS b e
    obtain ⟨cur2, hr2⟩ := h.lv.sw.ptrs.blkk hb
    rw [hr] at hr2
    simp at hr2
    rcases ht with e3 | e3 <;> exact absurd (e3.symm.trans hr2.2) (by decide)
  · obtain ⟨_, cur, t, hr, ht⟩ := hS i hi
    exact ⟨cur, t, hr, by rcases ht with rfl | rfl <;> decide, by rcases ht with rfl | rfl <;> decide⟩
end

theorem infU64s : (Try.prog.info? 52).map (fun i => (i.zero, i.size, i.bytes)) = some (some (.slice none 0 0), 1, 24) := by kernel_rfl
theorem of_pz (n : Nat) : (List.replicate n (⟨none, 0, 0, []⟩ : Of)).flatMap Of.v = (madeCells #[.slice none 0 0] (n * 1)).toList := by
  apply List.ext_getElem?
  intro j
  have hl := flat_len Of.v 1 (List.replicate n (⟨none, 0, 0, []⟩ : Of)) (fun x _ => rfl)
  by_cases hj : j < n
  · have hi : (List.replicate n (⟨none, 0, 0, []⟩ : Of))[j]? = some ⟨none, 0, 0, []⟩ := by rw [List.getElem?_replicate, if_pos hj]
    have h1 := flat_at Of.v 1 _ (fun x _ => rfl) j ⟨none, 0, 0, []⟩ hi 0 (by omega)
    rw [Nat.mul_one, Nat.add_zero] at h1
    rw [h1]
    simp [madeCells, hj, Nat.mod_one, Of.v]
  · rw [List.getElem?_eq_none (by rw [hl]; simp; omega), List.getElem?_eq_none (by simp [madeCells]; omega)]
theorem run_make_offs (W : World) (M : Nat) (hM : M ≤ 1000000) : (Instr.makeSlice 46 (.int .i64 (M : Int)) (.int .i64 (M : Int))).run Try.prog W = .ok (.slice (some ⟨W.heap.size, 0, none⟩) M M) (W.alloc (.cells ((List.replicate M (⟨none, 0, 0, []⟩ : Of)).flatMap Of.v).toArray 52)) := by
  obtain ⟨i0, hi, hz0, hz1, hz2⟩ := info_parts infU64s
  have hr := run_make (P := Try.prog) W 46 52 i0 (.slice none 0 0) Try.underlying46 hi hz0 .i64 .i64 (M : Int) (M : Int) (by omega) (Int.le_refl _) (by rw [hz2]; omega) (by omega)
  rw [Int.toNat_natCast, hz1] at hr
  rw [hr, of_pz]
  rfl

noncomputable def KB : Code := Try.f4.body.getD .skip
set_option maxRecDepth 100000 in
theorem frKB {a : Act} (h : Fr 196 a) : ∃ f : Nat → Value, a = ⟨#[f 0, f 1, f 2, f 3, f 4, f 5, f 6, f 7, f 8, f 9, f 10, f 11, f 12, f 13, f 14, f 15, f 16, f 17, f 18, f 19, f 20, f 21, f 22, f 23, f 24, f 25, f 26, f 27, f 28, f 29, f 30, f 31, f 32, f 33, f 34, f 35, f 36, f 37, f 38, f 39, f 40, f 41, f 42, f 43, f 44, f 45, f 46, f 47, f 48, f 49, f 50, f 51, f 52, f 53, f 54, f 55, f 56, f 57, f 58, f 59, f 60, f 61, f 62, f 63, f 64, f 65, f 66, f 67, f 68, f 69, f 70, f 71, f 72, f 73, f 74, f 75, f 76, f 77, f 78, f 79, f 80, f 81, f 82, f 83, f 84, f 85, f 86, f 87, f 88, f 89, f 90, f 91, f 92, f 93, f 94, f 95, f 96, f 97, f 98, f 99, f 100, f 101, f 102, f 103, f 104, f 105, f 106, f 107, f 108, f 109, f 110, f 111, f 112, f 113, f 114, f 115, f 116, f 117, f 118, f 119, f 120, f 121, f 122, f 123, f 124, f 125, f 126, f 127, f 128, f 129, f 130, f 131, f 132, f 133, f 134, f 135, f 136, f 137, f 138, f 139, f 140, f 141, f 142, f 143, f 144, f 145, f 146, f 147, f 148, f 149, f 150, f 151, f 152, f 153, f 154, f 155, f 156, f 157, f 158, f 159, f 160, f 161, f 162, f 163, f 164, f 165, f 166, f 167, f 168, f 169, f 170, f 171, f 172, f 173, f 174, f 175, f 176, f 177, f 178, f 179, f 180, f 181, f 182, f 183, f 184, f 185, f 186, f 187, f 188, f 189, f 190, f 191, f 192, f 193, f 194, f 195], []⟩ ∧ ∀ i, f i = sl a i := fr_any h

set_option maxRecDepth 100000 in
set_option maxHeartbeats 4000000 in
theorem b0 (w : World) (xa : Option Addr) (n c0 : Nat) (ya : Option Addr) (m c2 : Nat) (a : Act) (hf : Fr 196 a) (h0 : sl a 0 = .slice xa n c0) (h1 : sl a 1 = .slice ya m c2) :
    Code.wp Try.prog (cAt [0] KB) (Exit.then (fun a' w' => Fr 196 a' ∧ sl a' 0 = .slice xa n c0 ∧ sl a' 1 = .slice ya m c2 ∧ w = w') Nope) a w := by
  obtain ⟨f, ha, hs⟩ := frKB hf
  have e0 := (hs 0).trans h0
  have e1 := (hs 1).trans h1
  rw [e0, e1] at ha
  clear hs hf e0 h0 e1 h1
  subst ha
  refine piece2 fun J0 K0 hJ0 hK0 => ?_
  conv => arg 2; whnf
  go_wp2_with fail
  refine Met.intro (hJ0 _ _ ?_)
  exact ⟨⟨rfl, rfl⟩, rfl, rfl, rfl⟩

set_option maxRecDepth 100000 in
set_option maxHeartbeats 4000000 in
theorem b1 (w : World) (xa : Option Addr) (n c0 : Nat) (ya : Option Addr) (m c2 : Nat) (l : List Ac) (hl : Acr w ya m l) (hm : m ≤ maxLen) (a : Act) (hf : Fr 196 a) (h0 : sl a 0 = .slice xa n c0) (h1 : sl a 1 = .slice ya m c2) :
    Code.wp Try.prog (cAt [1,0,0] KB) (Exit.then (fun a' w' => ∃ bb, Fr 196 a' ∧ sl a' 0 = .slice xa n c0 ∧ sl a' 1 = .slice ya m c2 ∧ sl a' 28 = .bool bb ∧ (bb = false ↔ n ≤ 8 ∧ Few 60 l) ∧ w = w') Nope) a w := by
  obtain ⟨f, ha, hs⟩ := frKB hf
  have e0 := (hs 0).trans h0
  have e1 := (hs 1).trans h1
  rw [e0, e1] at ha
  clear hs hf e0 h0 e1 h1
  subst ha
  refine piece2 fun J0 K0 hJ0 hK0 => ?_
  conv => arg 2; whnf
  have HL := Lib.hid hl
  clear hl
  by_cases h6 : 8 < n
  · have h62 : (8 : Int) < (n : Int) := by omega
    go_wp2_with fail
    refine Met.intro (hJ0 _ _ ?_)
    exact ⟨true, ⟨rfl, rfl⟩, rfl, rfl, rfl, ⟨fun h => (by cases h), fun h => (by omega)⟩, rfl⟩
  · have h62 : ¬ (8 : Int) < (n : Int) := by omega
    go_wp2_with fail
    refine (few_any ya m c2 l w 60 (by decide) HL.out hm).mono ?_
    rintro e w1 ⟨b, rfl, hb, hw⟩
    subst hw
    have HB := Lib.hid hb
    clear hb
    go_wp2_with fail
    refine Met.intro (hJ0 _ _ ?_)
    refine ⟨!b, ⟨rfl, rfl⟩, rfl, rfl, rfl, ?_, rfl⟩
    cases b
    · exact ⟨fun h => (by cases h), fun h => (by have := HB.out.2 h.2; cases this)⟩
    · exact ⟨fun _ => ⟨by omega, HB.out.1 rfl⟩, fun _ => rfl⟩

set_option maxRecDepth 100000 in
set_option maxHeartbeats 4000000 in
theorem b2 (w wr : World) (hb : Below w.heap.size w wr) (a : Act) (hf : Fr 196 a) :
    Code.wp Try.prog (cAt [1,0,1,3] KB) (RetsV Try.f4 (Yes w)) a wr := by
  have HB := Lib.hid hb
  clear hb
  obtain ⟨f, ha, hs⟩ := frKB hf
  clear hs hf 
  subst ha
  conv => arg 2; whnf
  go_wp2_with fail
  refine (works12_any wr).mono ?_
  rintro e w1 ⟨rfl, hb1⟩
  have HF : Hid (Below w.heap.size w w1) := HB.out.trans (hb1.mono HB.out.size)
  clear hb1
  go_wp2_with fail
  refine ⟨rfl, rfl, .bool true, ?_, ⟨rfl, HF.out⟩⟩
  simp [results, Try.results4, go_sem]

set_option maxRecDepth 100000 in
set_option maxHeartbeats 4000000 in
theorem b7 (w wr : World) (hb : Below w.heap.size w wr) (a : Act) (hf : Fr 196 a) :
    Code.wp Try.prog (cAt [1,1,0,1,2,2,1,0,2,1,3] KB) (RetsV Try.f4 (Yes w)) a wr := by
  have HB := Lib.hid hb
  clear hb
  obtain ⟨f, ha, hs⟩ := frKB hf
  clear hs hf 
  subst ha
  conv => arg 2; whnf
  go_wp2_with fail
  refine (works12_any wr).mono ?_
  rintro e w1 ⟨rfl, hb1⟩
  have HF : Hid (Below w.heap.size w w1) := HB.out.trans (hb1.mono HB.out.size)
  clear hb1
  go_wp2_with fail
  refine ⟨rfl, rfl, .bool true, ?_, ⟨rfl, HF.out⟩⟩
  simp [results, Try.results4, go_sem]

set_option maxRecDepth 100000 in
set_option maxHeartbeats 4000000 in
theorem b10 (w wr : World) (hb : Below w.heap.size w wr) (a : Act) (hf : Fr 196 a) :
    Code.wp Try.prog (cAt [1,1,1,1,0,1,3] KB) (RetsV Try.f4 (Yes w)) a wr := by
  have HB := Lib.hid hb
  clear hb
  obtain ⟨f, ha, hs⟩ := frKB hf
  clear hs hf 
  subst ha
  conv => arg 2; whnf
  go_wp2_with fail
  refine (works12_any wr).mono ?_
  rintro e w1 ⟨rfl, hb1⟩
  have HF : Hid (Below w.heap.size w w1) := HB.out.trans (hb1.mono HB.out.size)
  clear hb1
  go_wp2_with fail
  refine ⟨rfl, rfl, .bool true, ?_, ⟨rfl, HF.out⟩⟩
  simp [results, Try.results4, go_sem]

set_option maxRecDepth 100000 in
set_option maxHeartbeats 4000000 in
theorem b3 (w : World) (xa : Option Addr) (n c0 : Nat) (ya : Option Addr) (m c2 : Nat) (a : Act) (hf : Fr 196 a) (h0 : sl a 0 = .slice xa n c0) (h1 : sl a 1 = .slice ya m c2) :
    Code.wp Try.prog (cAt [1,1,0,0] KB) (Exit.then (fun a' w' => Fr 196 a' ∧ sl a' 0 = .slice xa n c0 ∧ sl a' 1 = .slice ya m c2 ∧ sl a' 5 = .int .i64 0 ∧ w = w') Nope) a w := by
  obtain ⟨f, ha, hs⟩ := frKB hf
  have e0 := (hs 0).trans h0
  have e1 := (hs 1).trans h1
  rw [e0, e1] at ha
  clear hs hf e0 h0 e1 h1
  subst ha
  refine piece2 fun J0 K0 hJ0 hK0 => ?_
  conv => arg 2; whnf
  go_wp2_with fail
  refine Met.intro (hJ0 _ _ ?_)
  exact ⟨⟨rfl, rfl⟩, rfl, rfl, rfl, rfl⟩

set_option maxRecDepth 100000 in
set_option maxHeartbeats 4000000 in
theorem b4 (w : World) (xa : Option Addr) (n c0 : Nat) (ya : Option Addr) (m c2 : Nat) (i : Nat) (hi : i < n) (a : Act) (hf : Fr 196 a) (h0 : sl a 0 = .slice xa n c0) (h1 : sl a 1 = .slice ya m c2) (h5 : sl a 5 = .int .i64 (i : Int)) :
    Code.wp Try.prog (cAt [1,1,0,1,2,2,0] KB) (Exit.then (fun a' w' => Fr 196 a' ∧ sl a' 0 = .slice xa n c0 ∧ sl a' 1 = .slice ya m c2 ∧ sl a' 5 = .int .i64 (i : Int) ∧ w = w') Nope) a w := by
  obtain ⟨f, ha, hs⟩ := frKB hf
  have e0 := (hs 0).trans h0
  have e1 := (hs 1).trans h1
  have e5 := (hs 5).trans h5
  rw [e0, e1, e5] at ha
  clear hs hf e0 h0 e1 h1 e5 h5
  subst ha
  refine piece2 fun J0 K0 hJ0 hK0 => ?_
  conv => arg 2; whnf
  have hi2 : (i : Int) < (n : Int) := by omega
  go_wp2_with fail
  refine Met.intro (hJ0 _ _ ?_)
  exact ⟨⟨rfl, rfl⟩, rfl, rfl, rfl, rfl⟩

set_option maxRecDepth 100000 in
set_option maxHeartbeats 4000000 in
theorem b4x (w : World) (xa : Option Addr) (n c0 : Nat) (ya : Option Addr) (m c2 : Nat) (i : Nat) (hi : ¬ i < n) (a : Act) (hf : Fr 196 a) (h0 : sl a 0 = .slice xa n c0) (h1 : sl a 1 = .slice ya m c2) (h5 : sl a 5 = .int .i64 (i : Int)) :
    Code.wp Try.prog (cAt [1,1,0,1,2,2] KB) (Outs 0 (fun a' w' => Fr 196 a' ∧ sl a' 0 = .slice xa n c0 ∧ sl a' 1 = .slice ya m c2 ∧ w = w')) a w := by
  obtain ⟨f, ha, hs⟩ := frKB hf
  have e0 := (hs 0).trans h0
  have e1 := (hs 1).trans h1
  have e5 := (hs 5).trans h5
  rw [e0, e1, e5] at ha
  clear hs hf e0 h0 e1 h1 e5 h5
  subst ha
  conv => arg 2; whnf
  go_wp2_with fail
  exact ⟨rfl, ⟨rfl, rfl⟩, rfl, rfl, rfl⟩

set_option maxRecDepth 100000 in
set_option maxHeartbeats 4000000 in
theorem b5 (w : World) (xa : Option Addr) (n c0 : Nat) (ya : Option Addr) (m c2 : Nat) (i : Nat) (hi : i < 1000) (a : Act) (hf : Fr 196 a) (h0 : sl a 0 = .slice xa n c0) (h1 : sl a 1 = .slice ya m c2) (h5 : sl a 5 = .int .i64 (i : Int)) :
    Code.wp Try.prog (cAt [1,1,0,1,2,2,1,1] KB) (Exit.then (fun a' w' => Fr 196 a' ∧ sl a' 0 = .slice xa n c0 ∧ sl a' 1 = .slice ya m c2 ∧ sl a' 5 = .int .i64 ((i : Int) + 1) ∧ w = w') Nope) a w := by
  obtain ⟨f, ha, hs⟩ := frKB hf
  have e0 := (hs 0).trans h0
  have e1 := (hs 1).trans h1
  have e5 := (hs 5).trans h5
  rw [e0, e1, e5] at ha
  clear hs hf e0 h0 e1 h1 e5 h5
  subst ha
  refine piece2 fun J0 K0 hJ0 hK0 => ?_
  conv => arg 2; whnf
  have hw : IntKind.i64.wrap ((i : Int) + 1) = (i : Int) + 1 := by rw [IntKind.wrap_i64]; omega
  go_wp2_with fail
  refine Met.intro (hJ0 _ _ ?_)
  exact ⟨⟨rfl, rfl⟩, rfl, rfl, rfl, rfl⟩

set_option maxRecDepth 100000 in
set_option maxHeartbeats 4000000 in
theorem b6 (w : World) (xb xo n c0 : Nat) (ya : Option Addr) (m c2 i : Nat) (x : Cs) (HX : Hid (w.rangeAt xb (xo + i * 4) x.cs)) (hi : i < n) (a : Act) (hf : Fr 196 a) (h0 : sl a 0 = .slice (some ⟨xb, xo, none⟩) n c0) (h1 : sl a 1 = .slice ya m c2) (h5 : sl a 5 = .int .i64 (i : Int)) :
    Code.wp Try.prog (cAt [1,1,0,1,2,2,1,0,2,0] KB) (Exit.then (fun a' w' => Fr 196 a' ∧ sl a' 0 = .slice (some ⟨xb, xo, none⟩) n c0 ∧ sl a' 1 = .slice ya m c2 ∧ sl a' 5 = .int .i64 (i : Int) ∧ sl a' 49 = .bool (decide (1048576 ≤ x.r) || decide (1048576 ≤ x.B)) ∧ w = w') Nope) a w := by
  obtain ⟨f, ha, hs⟩ := frKB hf
  have e0 := (hs 0).trans h0
  have e1 := (hs 1).trans h1
  have e5 := (hs 5).trans h5
  rw [e0, e1, e5] at ha
  clear hs hf e0 h0 e1 h1 e5 h5
  subst ha
  refine piece2 fun J0 K0 hJ0 hK0 => ?_
  conv => arg 2; whnf
  have x0 : w.cell? ⟨xb, xo + i * 4, none⟩ = some (.int .u64 x.r) := HX.out 0 _ rfl
  have x1 : w.cell? ⟨xb, xo + i * 4 + 1, none⟩ = some (.int .u64 x.B) := HX.out 1 _ rfl
  have hi2 : (i : Int) < (n : Int) := by omega
  have hi0 : (0 : Int) ≤ (i : Int) := by omega
  by_cases e1 : 1048576 ≤ x.r
  · go_wp2_with fail
    refine Met.intro (hJ0 _ _ ?_)
    exact ⟨⟨rfl, rfl⟩, rfl, rfl, rfl, by rw [decide_eq_true e1]; rfl, rfl⟩
  · by_cases e2 : 1048576 ≤ x.B
    · go_wp2_with fail
      refine Met.intro (hJ0 _ _ ?_)
      exact ⟨⟨rfl, rfl⟩, rfl, rfl, rfl, by rw [decide_eq_false (show ¬ 1048576 ≤ x.r by omega), decide_eq_true e2]; rfl, rfl⟩
    · go_wp2_with fail
      refine Met.intro (hJ0 _ _ ?_)
      exact ⟨⟨rfl, rfl⟩, rfl, rfl, rfl, by rw [decide_eq_false (show ¬ 1048576 ≤ x.r by omega), decide_eq_false (show ¬ 1048576 ≤ x.B by omega)]; rfl, rfl⟩

set_option maxRecDepth 100000 in
set_option maxHeartbeats 4000000 in
theorem b8 (w : World) (xa : Option Addr) (n c0 : Nat) (ya : Option Addr) (m c2 : Nat) (l : List Cs) (HR : Hid (Rcs w xa n l)) (HM : Hid (mayB l = true)) (a : Act) (hf : Fr 196 a) (h0 : sl a 0 = .slice xa n c0) (h1 : sl a 1 = .slice ya m c2) :
    Code.wp Try.prog (cAt [1,1,1,0] KB) (Exit.then (fun a' w' => ∃ g s, Fr 196 a' ∧ sl a' 0 = .slice xa n c0 ∧ sl a' 1 = .slice ya m c2 ∧ sl a' 6 = .pointer (some ⟨g, 0, none⟩) ∧ sl a' 7 = .int .i64 0 ∧ Lv w w' g s 0 ∧ s.T = 0 ∧ s.n = l.length ∧ s.abs = l.map (Cs.new 0)) Nope) a w := by
  obtain ⟨f, ha, hs⟩ := frKB hf
  have e0 := (hs 0).trans h0
  have e1 := (hs 1).trans h1
  rw [e0, e1] at ha
  clear hs hf e0 h0 e1 h1
  subst ha
  refine piece2 fun J0 K0 hJ0 hK0 => ?_
  conv => arg 2; whnf
  go_wp2_with fail
  refine (lvNew 0 xa n c0 l HR.out (by decide) (by decide) (Below.refl w.heap.size w) HM.out).mono ?_
  rintro e w1 ⟨g, s, rfl, hv, hT, hn, hab, _, _⟩
  have H1 : Hid (Lv w w1 g s 0 ∧ s.T = 0 ∧ s.n = l.length ∧ s.abs = l.map (Cs.new 0)) := ⟨hv, hT, hn, hab⟩
  clear hv hT hn hab
  go_wp2_with fail
  refine Met.intro (hJ0 _ _ ?_)
  exact ⟨g, s, ⟨rfl, rfl⟩, rfl, rfl, rfl, rfl, H1.out⟩

set_option maxRecDepth 100000 in
set_option maxHeartbeats 4000000 in
theorem b8n (w : World) (xa : Option Addr) (n c0 : Nat) (ya : Option Addr) (m c2 : Nat) (l : List Cs) (HR : Hid (Rcs w xa n l)) (HM : Hid (mayB l = false)) (a : Act) (hf : Fr 196 a) (h0 : sl a 0 = .slice xa n c0) (h1 : sl a 1 = .slice ya m c2) :
    Code.wp Try.prog (cAt [1,1,1,0] KB) (Exit.then (fun a' w' => Fr 196 a' ∧ sl a' 7 = .int .i64 2 ∧ Below w.heap.size w w') Nope) a w := by
  obtain ⟨f, ha, hs⟩ := frKB hf
  have e0 := (hs 0).trans h0
  have e1 := (hs 1).trans h1
  rw [e0, e1] at ha
  clear hs hf e0 h0 e1 h1
  subst ha
  refine piece2 fun J0 K0 hJ0 hK0 => ?_
  conv => arg 2; whnf
  go_wp2_with fail
  refine (sNew_any 0 xa n c0 l w HR.out (by decide) (by decide)).mono ?_
  rintro e w1 ⟨hb1, h | h⟩
  · rw [HM.out] at h; cases h.1
  obtain ⟨_, rfl⟩ := h
  have H1 := Lib.hid hb1
  clear hb1
  go_wp2_with fail
  refine Met.intro (hJ0 _ _ ?_)
  exact ⟨⟨rfl, rfl⟩, rfl, H1.out⟩

set_option maxRecDepth 100000 in
set_option maxHeartbeats 4000000 in
theorem b9n (wr : World) (a : Act) (hf : Fr 196 a) (h7 : sl a 7 = .int .i64 2) :
    Code.wp Try.prog (cAt [1,1,1,1,0,0] KB) (Exit.then (fun a' w' => Fr 196 a' ∧ sl a' 57 = .bool true ∧ wr = w') Nope) a wr := by
  obtain ⟨f, ha, hs⟩ := frKB hf
  have e7 := (hs 7).trans h7
  rw [e7] at ha
  clear hs hf e7 h7
  subst ha
  refine piece2 fun J0 K0 hJ0 hK0 => ?_
  conv => arg 2; whnf
  go_wp2_with fail
  refine Met.intro (hJ0 _ _ ?_)
  exact ⟨⟨rfl, rfl⟩, rfl, rfl⟩

set_option maxRecDepth 100000 in
set_option maxHeartbeats 4000000 in
theorem b9 (wr : World) (xa : Option Addr) (n c0 : Nat) (ya : Option Addr) (m c2 g : Nat) (a : Act) (hf : Fr 196 a) (h0 : sl a 0 = .slice xa n c0) (h1 : sl a 1 = .slice ya m c2) (h6 : sl a 6 = .pointer (some ⟨g, 0, none⟩)) (h7 : sl a 7 = .int .i64 0) :
    Code.wp Try.prog (cAt [1,1,1,1,0,0] KB) (Exit.then (fun a' w' => Fr 196 a' ∧ sl a' 0 = .slice xa n c0 ∧ sl a' 1 = .slice ya m c2 ∧ sl a' 6 = .pointer (some ⟨g, 0, none⟩) ∧ sl a' 57 = .bool false ∧ wr = w') Nope) a wr := by
  obtain ⟨f, ha, hs⟩ := frKB hf
  have e0 := (hs 0).trans h0
  have e1 := (hs 1).trans h1
  have e6 := (hs 6).trans h6
  have e7 := (hs 7).trans h7
  rw [e0, e1, e6, e7] at ha
  clear hs hf e0 h0 e1 h1 e6 h6 e7 h7
  subst ha
  refine piece2 fun J0 K0 hJ0 hK0 => ?_
  conv => arg 2; whnf
  go_wp2_with fail
  refine Met.intro (hJ0 _ _ ?_)
  exact ⟨⟨rfl, rfl⟩, rfl, rfl, rfl, rfl, rfl⟩

set_option maxRecDepth 100000 in
set_option maxHeartbeats 4000000 in
theorem b11 (wr : World) (xa : Option Addr) (n c0 : Nat) (ya : Option Addr) (m c2 g : Nat) (hn : n ≤ 8) (a : Act) (hf : Fr 196 a) (h0 : sl a 0 = .slice xa n c0) (h1 : sl a 1 = .slice ya m c2) (h6 : sl a 6 = .pointer (some ⟨g, 0, none⟩)) :
    Code.wp Try.prog (cAt [1,1,1,1,1,0] KB) (Exit.then (fun a' w' => ∃ ro, Fr 196 a' ∧ sl a' 0 = .slice xa n c0 ∧ sl a' 1 = .slice ya m c2 ∧ sl a' 6 = .pointer (some ⟨g, 0, none⟩) ∧ sl a' 8 = .slice (some ⟨ro, 0, none⟩) n n ∧ Offs w' wr.heap.size ro (List.replicate n ⟨none, 0, 0, []⟩) ∧ Below wr.heap.size wr w') Nope) a wr := by
  obtain ⟨f, ha, hs⟩ := frKB hf
  have e0 := (hs 0).trans h0
  have e1 := (hs 1).trans h1
  have e6 := (hs 6).trans h6
  rw [e0, e1, e6] at ha
  clear hs hf e0 h0 e1 h1 e6 h6
  subst ha
  refine piece2 fun J0 K0 hJ0 hK0 => ?_
  conv => arg 2; whnf
  have hmk := run_make_offs wr n (by omega)
  have H1 : Hid (Offs (wr.alloc (.cells ((List.replicate n (⟨none, 0, 0, []⟩ : Of)).flatMap Of.v).toArray 52)) wr.heap.size wr.heap.size (List.replicate n ⟨none, 0, 0, []⟩) ∧ Below wr.heap.size wr (wr.alloc (.cells ((List.replicate n (⟨none, 0, 0, []⟩ : Of)).flatMap Of.v).toArray 52))) :=
    ⟨⟨Blk_new _ _ _, fun x hx => (by rw [List.eq_of_mem_replicate hx]; exact OwnG.nil _ _ _ _), (by rw [List.pairwise_replicate]; right; intro k hk; cases hk), Nat.le_refl _⟩, (Below.refl _ _).alloc (Nat.le_refl _) _⟩
  obtain ⟨cc, hcc⟩ : ∃ z, ((List.replicate n (⟨none, 0, 0, []⟩ : Of)).flatMap Of.v) = z := ⟨_, rfl⟩
  rw [hcc] at hmk H1
  go_wp2_with fail
  refine Met.intro (hJ0 _ _ ?_)
  exact ⟨_, ⟨rfl, rfl⟩, rfl, rfl, rfl, rfl, H1.out⟩

set_option maxRecDepth 100000 in
set_option maxHeartbeats 4000000 in
theorem b12 (wr : World) (xa : Option Addr) (n c0 : Nat) (ya : Option Addr) (m c2 g ro : Nat) (a : Act) (hf : Fr 196 a) (h0 : sl a 0 = .slice xa n c0) (h1 : sl a 1 = .slice ya m c2) (h6 : sl a 6 = .pointer (some ⟨g, 0, none⟩)) (h8 : sl a 8 = .slice (some ⟨ro, 0, none⟩) n n) :
    Code.wp Try.prog (cAt [1,1,1,1,1,1,0] KB) (Exit.then (fun a' w' => Fr 196 a' ∧ sl a' 0 = .slice xa n c0 ∧ sl a' 1 = .slice ya m c2 ∧ sl a' 6 = .pointer (some ⟨g, 0, none⟩) ∧ sl a' 8 = .slice (some ⟨ro, 0, none⟩) n n ∧ sl a' 9 = .slice none 0 0 ∧ wr = w') Nope) a wr := by
  obtain ⟨f, ha, hs⟩ := frKB hf
  have e0 := (hs 0).trans h0
  have e1 := (hs 1).trans h1
  have e6 := (hs 6).trans h6
  have e8 := (hs 8).trans h8
  rw [e0, e1, e6, e8] at ha
  clear hs hf e0 h0 e1 h1 e6 h6 e8 h8
  subst ha
  refine piece2 fun J0 K0 hJ0 hK0 => ?_
  conv => arg 2; whnf
  go_wp2_with fail
  refine Met.intro (hJ0 _ _ ?_)
  exact ⟨⟨rfl, rfl⟩, rfl, rfl, rfl, rfl, rfl, rfl⟩

set_option maxRecDepth 100000 in
set_option maxHeartbeats 4000000 in
theorem b13 (wr : World) (xa : Option Addr) (n c0 : Nat) (ya : Option Addr) (m c2 g ro : Nat) (a : Act) (hf : Fr 196 a) (h0 : sl a 0 = .slice xa n c0) (h1 : sl a 1 = .slice ya m c2) (h6 : sl a 6 = .pointer (some ⟨g, 0, none⟩)) (h8 : sl a 8 = .slice (some ⟨ro, 0, none⟩) n n) (h9 : sl a 9 = .slice none 0 0) :
    Code.wp Try.prog (cAt [1,1,1,1,1,1,1,0,0] KB) (Exit.then (fun a' w' => Fr 196 a' ∧ sl a' 0 = .slice xa n c0 ∧ sl a' 1 = .slice ya m c2 ∧ sl a' 6 = .pointer (some ⟨g, 0, none⟩) ∧ sl a' 8 = .slice (some ⟨ro, 0, none⟩) n n ∧ sl a' 9 = .slice none 0 0 ∧ sl a' 10 = .int .i64 0 ∧ wr = w') Nope) a wr := by
  obtain ⟨f, ha, hs⟩ := frKB hf
  have e0 := (hs 0).trans h0
  have e1 := (hs 1).trans h1
  have e6 := (hs 6).trans h6
  have e8 := (hs 8).trans h8
  have e9 := (hs 9).trans h9
  rw [e0, e1, e6, e8, e9] at ha
  clear hs hf e0 h0 e1 h1 e6 h6 e8 h8 e9 h9
  subst ha
  refine piece2 fun J0 K0 hJ0 hK0 => ?_
  conv => arg 2; whnf
  go_wp2_with fail
  refine Met.intro (hJ0 _ _ ?_)
  exact ⟨⟨rfl, rfl⟩, rfl, rfl, rfl, rfl, rfl, rfl, rfl⟩

set_option maxRecDepth 100000 in
set_option maxHeartbeats 4000000 in
theorem b14 (wr : World) (xa : Option Addr) (n c0 : Nat) (ya : Option Addr) (m c2 g ro : Nat) (vo : Option Addr) (no co i : Nat) (hi : i < m) (a : Act) (hf : Fr 196 a) (h0 : sl a 0 = .slice xa n c0) (h1 : sl a 1 = .slice ya m c2) (h6 : sl a 6 = .pointer (some ⟨g, 0, none⟩)) (h8 : sl a 8 = .slice (some ⟨ro, 0, none⟩) n n) (h9 : sl a 9 = .slice vo no co) (h10 : sl a 10 = .int .i64 (i : Int)) :
    Code.wp Try.prog (cAt [1,1,1,1,1,1,1,0,1,2,2,0] KB) (Exit.then (fun a' w' => Fr 196 a' ∧ sl a' 0 = .slice xa n c0 ∧ sl a' 1 = .slice ya m c2 ∧ sl a' 6 = .pointer (some ⟨g, 0, none⟩) ∧ sl a' 8 = .slice (some ⟨ro, 0, none⟩) n n ∧ sl a' 9 = .slice vo no co ∧ sl a' 10 = .int .i64 (i : Int) ∧ wr = w') Nope) a wr := by
  obtain ⟨f, ha, hs⟩ := frKB hf
  have e0 := (hs 0).trans h0
  have e1 := (hs 1).trans h1
  have e6 := (hs 6).trans h6
  have e8 := (hs 8).trans h8
  have e9 := (hs 9).trans h9
  have e10 := (hs 10).trans h10
  rw [e0, e1, e6, e8, e9, e10] at ha
  clear hs hf e0 h0 e1 h1 e6 h6 e8 h8 e9 h9 e10 h10
  subst ha
  refine piece2 fun J0 K0 hJ0 hK0 => ?_
  conv => arg 2; whnf
  have hi2 : (i : Int) < (m : Int) := by omega
  go_wp2_with fail
  refine Met.intro (hJ0 _ _ ?_)
  exact ⟨⟨rfl, rfl⟩, rfl, rfl, rfl, rfl, rfl, rfl, rfl⟩

set_option maxRecDepth 100000 in
set_option maxHeartbeats 4000000 in
theorem b14x (wr : World) (xa : Option Addr) (n c0 : Nat) (ya : Option Addr) (m c2 g ro : Nat) (vo : Option Addr) (no co i : Nat) (hi : ¬ i < m) (a : Act) (hf : Fr 196 a) (h0 : sl a 0 = .slice xa n c0) (h1 : sl a 1 = .slice ya m c2) (h6 : sl a 6 = .pointer (some ⟨g, 0, none⟩)) (h8 : sl a 8 = .slice (some ⟨ro, 0, none⟩) n n) (h9 : sl a 9 = .slice vo no co) (h10 : sl a 10 = .int .i64 (i : Int)) :
    Code.wp Try.prog (cAt [1,1,1,1,1,1,1,0,1,2,2] KB) (Outs 2 (fun a' w' => Fr 196 a' ∧ sl a' 0 = .slice xa n c0 ∧ sl a' 8 = .slice (some ⟨ro, 0, none⟩) n n ∧ sl a' 9 = .slice vo no co ∧ wr = w')) a wr := by
  obtain ⟨f, ha, hs⟩ := frKB hf
  have e0 := (hs 0).trans h0
  have e1 := (hs 1).trans h1
  have e6 := (hs 6).trans h6
  have e8 := (hs 8).trans h8
  have e9 := (hs 9).trans h9
  have e10 := (hs 10).trans h10
  rw [e0, e1, e6, e8, e9, e10] at ha
  clear hs hf e0 h0 e1 h1 e6 h6 e8 h8 e9 h9 e10 h10
  subst ha
  conv => arg 2; whnf
  go_wp2_with fail
  exact ⟨rfl, ⟨rfl, rfl⟩, rfl, rfl, rfl, rfl⟩

set_option maxRecDepth 100000 in
set_option maxHeartbeats 4000000 in
theorem b15 (wr : World) (xa : Option Addr) (n c0 : Nat) (ya : Option Addr) (m c2 g ro : Nat) (vo : Option Addr) (no co i : Nat) (hi : i < 1000) (a : Act) (hf : Fr 196 a) (h0 : sl a 0 = .slice xa n c0) (h1 : sl a 1 = .slice ya m c2) (h6 : sl a 6 = .pointer (some ⟨g, 0, none⟩)) (h8 : sl a 8 = .slice (some ⟨ro, 0, none⟩) n n) (h9 : sl a 9 = .slice vo no co) (h10 : sl a 10 = .int .i64 (i : Int)) :
    Code.wp Try.prog (cAt [1,1,1,1,1,1,1,0,1,2,2,1,1] KB) (Exit.then (fun a' w' => Fr 196 a' ∧ sl a' 0 = .slice xa n c0 ∧ sl a' 1 = .slice ya m c2 ∧ sl a' 6 = .pointer (some ⟨g, 0, none⟩) ∧ sl a' 8 = .slice (some ⟨ro, 0, none⟩) n n ∧ sl a' 9 = .slice vo no co ∧ sl a' 10 = .int .i64 ((i : Int) + 1) ∧ wr = w') Nope) a wr := by
  obtain ⟨f, ha, hs⟩ := frKB hf
  have e0 := (hs 0).trans h0
  have e1 := (hs 1).trans h1
  have e6 := (hs 6).trans h6
  have e8 := (hs 8).trans h8
  have e9 := (hs 9).trans h9
  have e10 := (hs 10).trans h10
  rw [e0, e1, e6, e8, e9, e10] at ha
  clear hs hf e0 h0 e1 h1 e6 h6 e8 h8 e9 h9 e10 h10
  subst ha
  refine piece2 fun J0 K0 hJ0 hK0 => ?_
  conv => arg 2; whnf
  have hw : IntKind.i64.wrap ((i : Int) + 1) = (i : Int) + 1 := by rw [IntKind.wrap_i64]; omega
  go_wp2_with fail
  refine Met.intro (hJ0 _ _ ?_)
  exact ⟨⟨rfl, rfl⟩, rfl, rfl, rfl, rfl, rfl, rfl, rfl⟩

set_option maxRecDepth 100000 in
set_option maxHeartbeats 4000000 in
theorem b16 (wr : World) (xa : Option Addr) (n c0 : Nat) (yb yo m c2 g ro : Nat) (vo : Option Addr) (no co i : Nat) (y : Ac) (HG : Hid (wr.rangeAt yb (yo + i * 6) y.cs)) (hi : i < m) (a : Act) (hf : Fr 196 a) (h0 : sl a 0 = .slice xa n c0) (h1 : sl a 1 = .slice (some ⟨yb, yo, none⟩) m c2) (h6 : sl a 6 = .pointer (some ⟨g, 0, none⟩)) (h8 : sl a 8 = .slice (some ⟨ro, 0, none⟩) n n) (h9 : sl a 9 = .slice vo no co) (h10 : sl a 10 = .int .i64 (i : Int)) :
    Code.wp Try.prog (cAt [1,1,1,1,1,1,1,0,1,2,2,1,0,2,0] KB) (Exit.then (fun a' w' => ∃ bx, Fr 196 a' ∧ sl a' 0 = .slice xa n c0 ∧ sl a' 1 = .slice (some ⟨yb, yo, none⟩) m c2 ∧ sl a' 6 = .pointer (some ⟨g, 0, none⟩) ∧ sl a' 8 = .slice (some ⟨ro, 0, none⟩) n n ∧ sl a' 9 = .slice vo no co ∧ sl a' 10 = .int .i64 (i : Int) ∧ sl a' 11 = .pointer (some ⟨bx, 0, none⟩) ∧ w'.heap[bx]? = some (.cells #[.int .i64 y.d, .int .i64 y.c, .int .u64 y.x.no, .int .i64 y.x.sz, .slice y.x.a y.x.n y.x.c, .int .u64 y.t] 42 (0, 0)) ∧ wr.heap.size ≤ bx ∧ Below wr.heap.size wr w') Nope) a wr := by
  obtain ⟨f, ha, hs⟩ := frKB hf
  have e0 := (hs 0).trans h0
  have e1 := (hs 1).trans h1
  have e6 := (hs 6).trans h6
  have e8 := (hs 8).trans h8
  have e9 := (hs 9).trans h9
  have e10 := (hs 10).trans h10
  rw [e0, e1, e6, e8, e9, e10] at ha
  clear hs hf e0 h0 e1 h1 e6 h6 e8 h8 e9 h9 e10 h10
  subst ha
  refine piece2 fun J0 K0 hJ0 hK0 => ?_
  conv => arg 2; whnf
  have hi2 : (i : Int) < (m : Int) := by omega
  have hi0 : (0 : Int) ≤ (i : Int) := by omega
  obtain ⟨yd, yc, ⟨no', sz, za, zn, zc, zd⟩, yt⟩ := y
  have q0 : wr.cell? ⟨yb, yo + i * 6, none⟩ = some (.int .i64 yd) := Ac.r0 HG.out
  have q1 : wr.cell? ⟨yb, yo + i * 6 + 1, none⟩ = some (.int .i64 yc) := Ac.r1 HG.out
  have q2 : wr.cell? ⟨yb, yo + i * 6 + 2, none⟩ = some (.int .u64 no') := Ac.r2 HG.out
  have q3 : wr.cell? ⟨yb, yo + i * 6 + 3, none⟩ = some (.int .i64 sz) := Ac.r3 HG.out
  have q4 : wr.cell? ⟨yb, yo + i * 6 + 4, none⟩ = some (.slice za zn zc) := Ac.r4 HG.out
  have q5 : wr.cell? ⟨yb, yo + i * 6 + 5, none⟩ = some (.int .u64 yt) := Ac.r5 HG.out
  have H1 : Hid ((wr.alloc (.cells #[.int .i64 yd, .int .i64 yc, .int .u64 no', .int .i64 sz, .slice za zn zc, .int .u64 yt] 42)).heap[wr.heap.size]? = some (.cells #[.int .i64 yd, .int .i64 yc, .int .u64 no', .int .i64 sz, .slice za zn zc, .int .u64 yt] 42 (0, 0)) ∧ wr.heap.size ≤ wr.heap.size ∧ Below wr.heap.size wr (wr.alloc (.cells #[.int .i64 yd, .int .i64 yc, .int .u64 no', .int .i64 sz, .slice za zn zc, .int .u64 yt] 42))) := ⟨Blk_new _ _ _, Nat.le_refl _, (Below.refl _ _).alloc (Nat.le_refl _) _⟩
  go_wp2_with fail
  refine Met.intro (hJ0 _ _ ?_)
  exact ⟨_, ⟨rfl, rfl⟩, rfl, rfl, rfl, rfl, rfl, rfl, rfl, H1.out⟩

set_option maxRecDepth 100000 in
set_option maxHeartbeats 4000000 in
theorem b17 (wr : World) (xa : Option Addr) (n c0 : Nat) (ya : Option Addr) (m c2 g ro : Nat) (vo : Option Addr) (no co i : Nat) (bx : Nat) (y : Ac) (HB : Hid (wr.heap[bx]? = some (.cells #[.int .i64 y.d, .int .i64 y.c, .int .u64 y.x.no, .int .i64 y.x.sz, .slice y.x.a y.x.n y.x.c, .int .u64 y.t] 42 (0, 0)))) (a : Act) (hf : Fr 196 a) (h0 : sl a 0 = .slice xa n c0) (h1 : sl a 1 = .slice ya m c2) (h6 : sl a 6 = .pointer (some ⟨g, 0, none⟩)) (h8 : sl a 8 = .slice (some ⟨ro, 0, none⟩) n n) (h9 : sl a 9 = .slice vo no co) (h10 : sl a 10 = .int .i64 (i : Int)) (h11 : sl a 11 = .pointer (some ⟨bx, 0, none⟩)) :
    Code.wp Try.prog (cAt [1,1,1,1,1,1,1,0,1,2,2,1,0,2,1,0,0] KB) (Exit.then (fun a' w' => Fr 196 a' ∧ sl a' 0 = .slice xa n c0 ∧ sl a' 1 = .slice ya m c2 ∧ sl a' 6 = .pointer (some ⟨g, 0, none⟩) ∧ sl a' 8 = .slice (some ⟨ro, 0, none⟩) n n ∧ sl a' 9 = .slice vo no co ∧ sl a' 10 = .int .i64 (i : Int) ∧ sl a' 11 = .pointer (some ⟨bx, 0, none⟩) ∧ sl a' 74 = .bool (decide (y.d < 3)) ∧ wr = w') Nope) a wr := by
  obtain ⟨f, ha, hs⟩ := frKB hf
  have e0 := (hs 0).trans h0
  have e1 := (hs 1).trans h1
  have e6 := (hs 6).trans h6
  have e8 := (hs 8).trans h8
  have e9 := (hs 9).trans h9
  have e10 := (hs 10).trans h10
  have e11 := (hs 11).trans h11
  rw [e0, e1, e6, e8, e9, e10, e11] at ha
  clear hs hf e0 h0 e1 h1 e6 h6 e8 h8 e9 h9 e10 h10 e11 h11
  subst ha
  refine piece2 fun J0 K0 hJ0 hK0 => ?_
  conv => arg 2; whnf
  have c0' : wr.cell? ⟨bx, 0, none⟩ = some (.int .i64 y.d) := by rw [cell_of_row wr bx 0 _ _ (0, 0) HB.out]; rfl
  by_cases e : y.d < 3
  · go_wp2_with fail
    refine Met.intro (hJ0 _ _ ?_)
    exact ⟨⟨rfl, rfl⟩, rfl, rfl, rfl, rfl, rfl, rfl, rfl, by rw [decide_eq_true e]; rfl, rfl⟩
  · go_wp2_with fail
    refine Met.intro (hJ0 _ _ ?_)
    exact ⟨⟨rfl, rfl⟩, rfl, rfl, rfl, rfl, rfl, rfl, rfl, by rw [decide_eq_false (show ¬ y.d < 3 by omega)]; rfl, rfl⟩

set_option maxRecDepth 100000 in
set_option maxHeartbeats 4000000 in
theorem b18 (wr : World) (xa : Option Addr) (n c0 : Nat) (ya : Option Addr) (m c2 g ro : Nat) (vo : Option Addr) (no co i : Nat) (bx : Nat) (y : Ac) (HB : Hid (wr.heap[bx]? = some (.cells #[.int .i64 y.d, .int .i64 y.c, .int .u64 y.x.no, .int .i64 y.x.sz, .slice y.x.a y.x.n y.x.c, .int .u64 y.t] 42 (0, 0)))) (cc : Nat) (hn1 : 1 ≤ n) (hn8 : n ≤ 8) (hcc : y.c % (n : Int) = (cc : Int)) (a : Act) (hf : Fr 196 a) (h0 : sl a 0 = .slice xa n c0) (h1 : sl a 1 = .slice ya m c2) (h6 : sl a 6 = .pointer (some ⟨g, 0, none⟩)) (h8 : sl a 8 = .slice (some ⟨ro, 0, none⟩) n n) (h9 : sl a 9 = .slice vo no co) (h10 : sl a 10 = .int .i64 (i : Int)) (h11 : sl a 11 = .pointer (some ⟨bx, 0, none⟩)) :
    Code.wp Try.prog (cAt [1,1,1,1,1,1,1,0,1,2,2,1,0,2,1,0,1,3,0] KB) (Exit.then (fun a' w' => Fr 196 a' ∧ sl a' 0 = .slice xa n c0 ∧ sl a' 1 = .slice ya m c2 ∧ sl a' 6 = .pointer (some ⟨g, 0, none⟩) ∧ sl a' 8 = .slice (some ⟨ro, 0, none⟩) n n ∧ sl a' 9 = .slice vo no co ∧ sl a' 10 = .int .i64 (i : Int) ∧ sl a' 11 = .pointer (some ⟨bx, 0, none⟩) ∧ sl a' 12 = .int .i64 (cc : Int) ∧ wr = w') Nope) a wr := by
  obtain ⟨f, ha, hs⟩ := frKB hf
  have e0 := (hs 0).trans h0
  have e1 := (hs 1).trans h1
  have e6 := (hs 6).trans h6
  have e8 := (hs 8).trans h8
  have e9 := (hs 9).trans h9
  have e10 := (hs 10).trans h10
  have e11 := (hs 11).trans h11
  rw [e0, e1, e6, e8, e9, e10, e11] at ha
  clear hs hf e0 h0 e1 h1 e6 h6 e8 h8 e9 h9 e10 h10 e11 h11
  subst ha
  refine piece2 fun J0 K0 hJ0 hK0 => ?_
  conv => arg 2; whnf
  have c1' : wr.cell? ⟨bx, 1, none⟩ = some (.int .i64 y.c) := by rw [cell_of_row wr bx 1 _ _ (0, 0) HB.out]; rfl
  have hn0 : (0 : Int) < (n : Int) := by omega
  go_wp2_with fail
  refine (kPick_any y.c n wr hn0 (by omega)).mono ?_
  rintro e w1 ⟨rfl, hw⟩
  subst hw
  rw [hcc]
  go_wp2_with fail
  refine Met.intro (hJ0 _ _ ?_)
  exact ⟨⟨rfl, rfl⟩, rfl, rfl, rfl, rfl, rfl, rfl, rfl, rfl, rfl⟩

set_option maxRecDepth 100000 in
set_option maxHeartbeats 4000000 in
theorem b19 (wr : World) (xa : Option Addr) (n c0 : Nat) (ya : Option Addr) (m c2 g ro : Nat) (vo : Option Addr) (no co i : Nat) (bx : Nat) (y : Ac) (HB : Hid (wr.heap[bx]? = some (.cells #[.int .i64 y.d, .int .i64 y.c, .int .u64 y.x.no, .int .i64 y.x.sz, .slice y.x.a y.x.n y.x.c, .int .u64 y.t] 42 (0, 0)))) (cc : Nat) (sz : Int) (hsz : y.x.sz.tmod 2049 = sz) (b0 : -2049 < sz) (b1 : sz < 2049) (a : Act) (hf : Fr 196 a) (h0 : sl a 0 = .slice xa n c0) (h1 : sl a 1 = .slice ya m c2) (h6 : sl a 6 = .pointer (some ⟨g, 0, none⟩)) (h8 : sl a 8 = .slice (some ⟨ro, 0, none⟩) n n) (h9 : sl a 9 = .slice vo no co) (h10 : sl a 10 = .int .i64 (i : Int)) (h11 : sl a 11 = .pointer (some ⟨bx, 0, none⟩)) (h12 : sl a 12 = .int .i64 (cc : Int)) :
    Code.wp Try.prog (cAt [1,1,1,1,1,1,1,0,1,2,2,1,0,2,1,0,1,3,1,0] KB) (Exit.then (fun a' w' => Fr 196 a' ∧ sl a' 0 = .slice xa n c0 ∧ sl a' 1 = .slice ya m c2 ∧ sl a' 6 = .pointer (some ⟨g, 0, none⟩) ∧ sl a' 8 = .slice (some ⟨ro, 0, none⟩) n n ∧ sl a' 9 = .slice vo no co ∧ sl a' 10 = .int .i64 (i : Int) ∧ sl a' 11 = .pointer (some ⟨bx, 0, none⟩) ∧ sl a' 12 = .int .i64 (cc : Int) ∧ sl a' 13 = .int .i64 sz ∧ wr = w') Nope) a wr := by
  obtain ⟨f, ha, hs⟩ := frKB hf
  have e0 := (hs 0).trans h0
  have e1 := (hs 1).trans h1
  have e6 := (hs 6).trans h6
  have e8 := (hs 8).trans h8
  have e9 := (hs 9).trans h9
  have e10 := (hs 10).trans h10
  have e11 := (hs 11).trans h11
  have e12 := (hs 12).trans h12
  rw [e0, e1, e6, e8, e9, e10, e11, e12] at ha
  clear hs hf e0 h0 e1 h1 e6 h6 e8 h8 e9 h9 e10 h10 e11 h11 e12 h12
  subst ha
  refine piece2 fun J0 K0 hJ0 hK0 => ?_
  conv => arg 2; whnf
  have c3' : wr.cell? ⟨bx, 2 + 1, none⟩ = some (.int .i64 y.x.sz) := by rw [cell_of_row wr bx (2 + 1) _ _ (0, 0) HB.out]; rfl
  have ew : IntKind.i64.wrap sz = sz := by rw [IntKind.wrap_i64]; omega
  go_wp2_with fail
  refine Met.intro (hJ0 _ _ ?_)
  exact ⟨⟨rfl, rfl⟩, rfl, rfl, rfl, rfl, rfl, rfl, rfl, rfl, rfl, rfl⟩

end Go.Proofs.Yticjfhmkpciihaa

/-
  ShaperBounds in pieces. Conditions: those that the theorems name. (Made by gen_spbl.py.)
-/
import Derived.Test.YtpigpeehhadkjaaSpOd
namespace Go.Proofs.Ytpigpeehhadkjaa
open Go.RowKit Bkt
set_option maxRecDepth 100000
set_option maxHeartbeats 4000000

theorem Sw.kind {W : World} {B g : Nat} {s : Sh} (h : Sw W B g s) {k : Nat} (hk : s.foot g k) : ∃ cur t, W.heap[k]? = some (.cells cur t (0, 0)) ∧ (t = 73 ∨ t = 88 ∨ t = 124 ∨ t = 122 ∨ t = 40 ∨ t = 5) := by
  rcases hk with rfl | ⟨l, hl, hk⟩
  · exact ⟨_, _, h.row, .inl rfl⟩
  · obtain ⟨c, t, e, ht⟩ := (h.lws l hl).kind hk
    exact ⟨c, t, e, .inr ht⟩
theorem Sw.not_foot {W : World} {B g : Nat} {s : Sh} (h : Sw W B g s) {k : Nat} {cur : Array Value} {t : TypeId} (hr : W.heap[k]? = some (.cells cur t (0, 0))) (ht : t ≠ 73 ∧ t ≠ 88 ∧ t ≠ 124 ∧ t ≠ 122 ∧ t ≠ 40 ∧ t ≠ 5) : ¬ s.foot g k := fun hk => by
  obtain ⟨c, t', e, h2⟩ := h.kind hk
  rw [hr] at e
  simp at e
  obtain ⟨_, rfl⟩ := e
  rcases h2 with e | e | e | e | e | e
  · exact ht.1 e
  · exact ht.2.1 e
  · exact ht.2.2.1 e
  · exact ht.2.2.2.1 e
  · exact ht.2.2.2.2.1 e
  · exact ht.2.2.2.2.2 e
theorem Ops.rowk {W : World} {B : Nat} {v : Option Addr} {n cap : Nat} {ys : List Po} (h : Ops W B v n cap ys) {k : Nat} (hk : blk v = some k) : ∃ cur, W.heap[k]? = some (.cells cur 61 (0, 0)) := by
  rcases h.row.cases with ⟨e, _⟩ | ⟨r, cur, e, _, hr, _⟩
  · rw [e] at hk; cases hk
  · rw [e] at hk
    simp [blk] at hk
    subst hk
    exact ⟨cur, hr⟩
theorem OwnG.blkk {W : World} {base e size : Nat} {a : Option Addr} {n cap : Nat} {vs : List Value} (h : OwnG W base e size a n cap vs) {k : Nat} (hk : blk a = some k) : ∃ cur, W.heap[k]? = some (.cells cur e (0, 0)) := by
  rcases h.cases with ⟨e, _⟩ | ⟨r, cur, e, _, hr, _⟩
  · rw [e] at hk; cases hk
  · rw [e] at hk
    simp [blk] at hk
    subst hk
    exact ⟨cur, hr⟩
/-- The law's memory. -/
structure Bm (w W : World) (g : Nat) (s : Sh) (N : Int) (ro : Nat) (offs : List Of) (vo : Option Addr) (no co : Nat) (ys : List Po) : Prop where
  lv : Lv w W g s N
  offs : Offs W w.heap.size ro offs
  ops : Ops W w.heap.size vo no co ys
  dis : ∀ y ∈ ys, ∀ k, blk y.y.a = some k → ¬ s.foot g k
section
variable {w W W' : World} {g : Nat} {s s' : Sh} {N M : Int} {ro : Nat} {offs : List Of} {vo : Option Addr} {no co : Nat} {ys : List Po}
theorem Bm.past (h : Bm w W g s N ro offs vo no co ys) (k : Below W.heap.size W W') : Bm w W' g s N ro offs vo no co ys := ⟨h.lv.past k, h.offs.below k, h.ops.below k, h.dis⟩
/-- The shaper has changed. -/
theorem Bm.sh (h : Bm w W g s N ro offs vo no co ys) (hl : Lv w W' g s' M) (k : Kept (s.foot g) W W') (hf : ∀ k, s'.foot g k → s.foot g k ∨ W.heap.size ≤ k) : Bm w W' g s' M ro offs vo no co ys :=
  ⟨hl, h.offs.keep k (fun i t cur hr ht _ => h.lv.sw.not_foot hr (by rcases ht with rfl | rfl <;> decide)),
    ⟨h.ops.row.keep k (fun b hb e => by
      obtain ⟨cur, hr⟩ := h.ops.rowk hb
      exact h.lv.sw.not_foot hr (by decide) e), fun y hy => ⟨(h.ops.data y hy).1.keep k (fun b hb e => h.dis y hy b hb e), (h.ops.data y hy).2⟩, h.ops.apart⟩,
    fun y hy b hb e => by
      rcases hf b e with e | e
      · exact h.dis y hy b hb e
      · have := ((h.ops.data y hy).1.blk_ge b hb).2; omega⟩
/-- What went out has one row more. -/
theorem Bm.cat (h : Bm w W g s N ro offs vo no co ys) {v' : Option Addr} {n' c' : Nat} {zs : List Po} (ho : Ops W' w.heap.size v' n' c' (ys ++ zs)) (k : Kept (fun i => blk vo = some i) W W') (hd : ∀ y ∈ zs, ∀ k, blk y.y.a = some k → ¬ s.foot g k) : Bm w W' g s N ro offs v' n' c' (ys ++ zs) := by
  have hvo : ∀ i, blk vo = some i → w.heap.size ≤ i := fun i hi => (h.ops.row.blk_ge i hi).1
  refine ⟨⟨h.lv.sw.keep k (fun i hi e => ?_) (fun b hb e => ?_), h.lv.n1, h.lv.below.trans (k.below h.lv.below.size hvo), h.lv.db, h.lv.bT, h.lv.T0, h.lv.T1, h.lv.N0⟩, h.offs.keep k (fun i t cur hr ht _ e => ?_), ho, fun y hy => ?_⟩
  · obtain ⟨cur, hr⟩ := h.ops.rowk e
    exact h.lv.sw.not_foot hr (by decide) hi
  · obtain ⟨cur, hr⟩ := h.ops.rowk e
    obtain ⟨cur2, hr2⟩ := h.lv.sw.ptrs.blkk hb
    rw [hr] at hr2
    simp at hr2
  · obtain ⟨cur2, hr2⟩ := h.ops.rowk e
    rw [hr] at hr2
    simp at hr2
    rcases ht with e3 | e3 <;> exact absurd (e3.symm.trans hr2.2) (by decide)
  · rcases List.mem_append.1 hy with hy | hy
    · exact h.dis y hy
    · exact hd y hy
/-- A class's row has one number more. -/
theorem Offs.push {base : Nat} (h : Offs W base ro offs) {c : Nat} {f : Of} (hf : offs[c]? = some f) (z : Int) (hn : f.n ≤ 1000000) (hb : base ≤ W.heap.size) :
    ∃ r c' w', (Builtin.append_ #[52, 52] 52 #[.slice f.a f.n f.c, .slice (some ⟨W.heap.size, 0, none⟩) 1 1]).run Try.prog (W.alloc (.cells #[.int .u64 z] 22)) = .ok (.slice (some ⟨r, 0, none⟩) (f.n + 1) c') w' ∧
      (w'.cell? ⟨ro, c, none⟩).isSome = true ∧ w'.frozen? ⟨ro, c, none⟩ = false ∧
      Offs (w'.setCell ⟨ro, c, none⟩ (.slice (some ⟨r, 0, none⟩) (f.n + 1) c')) base ro (offs.set c ⟨some ⟨r, 0, none⟩, f.n + 1, c', f.xs ++ [z]⟩) ∧ Kept (fun i => i = ro ∨ blk f.a = some i) W (w'.setCell ⟨ro, c, none⟩ (.slice (some ⟨r, 0, none⟩) (f.n + 1) c')) := by
  have hfm := List.mem_of_getElem? hf
  have hci := (List.getElem?_eq_some_iff.1 hf).1
  obtain ⟨r, c', w', hrun, hown, hk, hr⟩ := run_append_one W base 52 52 22 _ 1 8 u64_info Try.underlying52 (by decide) (by decide) (h.own f hfm) [.int .u64 z] rfl (by intro u hu; simp at hu; subst hu; rfl) hb (by omega) (by omega)
  have hro : ∀ i, blk f.a = some i → i ≠ ro := fun i hi e => by
    obtain ⟨cur, hr⟩ := (h.own f hfm).blkk hi
    rw [e, h.row] at hr
    simp at hr
  have hrow1 : w'.heap[ro]? = some (.cells (offs.flatMap Of.v).toArray 52 (0, 0)) := hk.heap h.row (fun e => hro ro e rfl)
  have hk2 : Kept (fun i => i = ro) w' (w'.setCell ⟨ro, c, none⟩ (.slice (some ⟨r, 0, none⟩) (f.n + 1) c')) := Kept.setCell _ _ _ rfl
  have hrr : r ≠ ro := fun e => by
    obtain ⟨cur, hr2⟩ := hown.blkk (k := r) rfl
    rw [e, hrow1] at hr2
    simp at hr2
  refine ⟨r, c', w', hrun, ?_, frozen_of_row w' ro c _ _ hrow1, ⟨?_, fun x hx => ?_, ?_, h.base⟩, (hk.mono (fun _ _ e => Or.inr e)).trans hk2 (fun _ _ e => Or.inl e)⟩
  · have := frow_at Of.len hrow1 hf 0 _ rfl
    rw [Nat.mul_one, Nat.add_zero] at this
    rw [this]; rfl
  · have := frow_one Of.len hrow1 (i := c) (j := 0) (v := .slice (some ⟨r, 0, none⟩) (f.n + 1) c') (y := ⟨some ⟨r, 0, none⟩, f.n + 1, c', f.xs ++ [z]⟩) hf (by omega) rfl
    rw [Nat.mul_one, Nat.add_zero] at this
    exact this
  · obtain ⟨j, hj⟩ := List.getElem?_of_mem hx
    by_cases e : c = j
    · subst e
      rw [List.getElem?_set_self hci] at hj
      simp at hj
      subst hj
      have : (f.xs ++ [z]).map (Value.int .u64) = f.xs.map (Value.int .u64) ++ [.int .u64 z] := by simp
      show OwnG _ base 22 1 (some ⟨r, 0, none⟩) (f.n + 1) c' ((f.xs ++ [z]).map (Value.int .u64))
      rw [this]
      exact hown.keep hk2 (fun b hb e => by simp [blk] at hb; omega)
    · rw [List.getElem?_set_ne e] at hj
      have hxm := List.mem_of_getElem? hj
      have hap : ∀ k, blk x.a = some k → ¬ blk f.a = some k := fun k h1 h2 => by
        have hp := List.pairwise_iff_getElem.1 h.apart
        obtain ⟨hj1, hj2⟩ := List.getElem?_eq_some_iff.1 hj
        obtain ⟨hf1, hf2⟩ := List.getElem?_eq_some_iff.1 hf
        rcases Nat.lt_or_gt_of_ne e with e2 | e2
        · have := hp c j hf1 hj1 e2 k; rw [hf2, hj2] at this; exact this h2 h1
        · have := hp j c hj1 hf1 e2 k; rw [hf2, hj2] at this; exact this h1 h2
      refine ((h.own x hxm).keep hk (fun b hb e2 => hap b hb e2)).keep hk2 (fun b hb e2 => ?_)
      obtain ⟨cur, hr2⟩ := (h.own x hxm).blkk hb
      rw [e2, h.row] at hr2
      simp at hr2
  · refine List.pairwise_iff_getElem.2 fun j1 j2 h1 h2 hlt k hk1 hk2' => ?_
    rw [List.length_set] at h1 h2
    have hp := List.pairwise_iff_getElem.1 h.apart
    have hnew : ∀ j (hj : j < offs.length), j ≠ c → ∀ k, (k = r) → blk (offs[j]'hj).a = some k → False := fun j hj hne k hk1 hk3 => by
      have hjm := h.own _ (List.getElem_mem hj)
      rcases hr with e | e
      · obtain ⟨hf1, hf2⟩ := List.getElem?_eq_some_iff.1 hf
        rcases Nat.lt_or_gt_of_ne hne with e2 | e2
        · have := hp j c hj hf1 e2 k hk3; rw [hf2] at this; exact this (by rw [hk1]; exact e)
        · have := hp c j hf1 hj e2 k (by rw [hf2, hk1]; exact e); exact this hk3
      · have := (hjm.blk_ge k hk3).2; omega
    simp only [List.getElem_set] at hk1 hk2'
    by_cases e1 : c = j1
    · rw [if_pos e1] at hk1
      rw [if_neg (by omega)] at hk2'
      exact hnew j2 h2 (by omega) k (by simpa [blk] using hk1.symm) hk2'
    · rw [if_neg e1] at hk1
      by_cases e2 : c = j2
      · rw [if_pos e2] at hk2'
        exact hnew j1 h1 (by omega) k (by simpa [blk] using hk2'.symm) hk1
      · rw [if_neg e2] at hk2'
        exact hp j1 j2 h1 h2 hlt k hk1 hk2'
theorem Bm.push (h : Bm w W g s N ro offs vo no co ys) {offs' : List Of} {f : Of} {c : Nat} (hf : offs[c]? = some f) (ho : Offs W' w.heap.size ro offs') (k : Kept (fun i => i = ro ∨ blk f.a = some i) W W') : Bm w W' g s N ro offs' vo no co ys := by
  have hS : ∀ i, (i = ro ∨ blk f.a = some i) → w.heap.size ≤ i ∧ ∃ cur t, W.heap[i]? = some (.cells cur t (0, 0)) ∧ (t = 52 ∨ t = 22) := fun i hi => by
    rcases hi with rfl | hi
    · exact ⟨h.offs.base, _, _, h.offs.row, .inl rfl⟩
    · obtain ⟨cur, hr⟩ := (h.offs.own f (List.mem_of_getElem? hf)).blkk hi
      exact ⟨((h.offs.own f (List.mem_of_getElem? hf)).blk_ge i hi).1, cur, _, hr, .inr rfl⟩
  refine ⟨⟨h.lv.sw.keep k (fun i hi e => ?_) (fun b hb e => ?_), h.lv.n1, h.lv.below.trans (k.below h.lv.below.size (fun i hi => (hS i hi).1)), h.lv.db, h.lv.bT, h.lv.T0, h.lv.T1, h.lv.N0⟩, ho, h.ops.keep k (fun i hi hb => ?_), h.dis⟩
  · obtain ⟨_, cur, t, hr, ht⟩ := hS i e
    exact h.lv.sw.not_foot hr (by rcases ht with rfl | rfl <;> decide) hi
  · obtain ⟨_, cur, t, hr, ht⟩ := hS b e
    obtain ⟨cur2, hr2⟩ := h.lv.sw.ptrs.blkk hb
    rw [hr] at hr2
    simp at hr2
    rcases ht with e3 | e3 <;> exact absurd (e3.symm.trans hr2.2) (by decide)
  · obtain ⟨_, cur, t, hr, ht⟩ := hS i hi
    exact ⟨cur, t, hr, by rcases ht with rfl | rfl <;> decide, by rcases ht with rfl | rfl <;> decide⟩
end

theorem infU64s : (Try.prog.info? 52).map (fun i => (i.zero, i.size, i.bytes)) = some (some (.slice none 0 0), 1, 24) := by kernel_rfl
theorem of_pz (n : Nat) : (List.replicate n (⟨none, 0, 0, []⟩ : Of)).flatMap Of.v = (madeCells #[.slice none 0 0] (n * 1)).toList := by
  apply List.ext_getElem?
  intro j
  have hl := flat_len Of.v 1 (List.replicate n (⟨none, 0, 0, []⟩ : Of)) (fun x _ => rfl)
  by_cases hj : j < n
  · have hi : (List.replicate n (⟨none, 0, 0, []⟩ : Of))[j]? = some ⟨none, 0, 0, []⟩ := by rw [List.getElem?_replicate, if_pos hj]
    have h1 := flat_at Of.v 1 _ (fun x _ => rfl) j ⟨none, 0, 0, []⟩ hi 0 (by omega)
    rw [Nat.mul_one, Nat.add_zero] at h1
    rw [h1]
    simp [madeCells, hj, Nat.mod_one, Of.v]
  · rw [List.getElem?_eq_none (by rw [hl]; simp; omega), List.getElem?_eq_none (by simp [madeCells]; omega)]
theorem run_make_offs (W : World) (M : Nat) (hM : M ≤ 1000000) : (Instr.makeSlice 46 (.int .i64 (M : Int)) (.int .i64 (M : Int))).run Try.prog W = .ok (.slice (some ⟨W.heap.size, 0, none⟩) M M) (W.alloc (.cells ((List.replicate M (⟨none, 0, 0, []⟩ : Of)).flatMap Of.v).toArray 52)) := by
  obtain ⟨i0, hi, hz0, hz1, hz2⟩ := info_parts infU64s
  have hr := run_make (P := Try.prog) W 46 52 i0 (.slice none 0 0) Try.underlying46 hi hz0 .i64 .i64 (M : Int) (M : Int) (by omega) (Int.le_refl _) (by rw [hz2]; omega) (by omega)
  rw [Int.toNat_natCast, hz1] at hr
  rw [hr, of_pz]
  rfl

noncomputable def KB : Code := Try.f4.body.getD .skip
theorem frKB {a : Act} (h : Fr 196 a) : ∃ f : Nat → Value, a = ⟨#[f 0, f 1, f 2, f 3, f 4, f 5, f 6, f 7, f 8, f 9, f 10, f 11, f 12, f 13, f 14, f 15, f 16, f 17, f 18, f 19, f 20, f 21, f 22, f 23, f 24, f 25, f 26, f 27, f 28, f 29, f 30, f 31, f 32, f 33, f 34, f 35, f 36, f 37, f 38, f 39, f 40, f 41, f 42, f 43, f 44, f 45, f 46, f 47, f 48, f 49, f 50, f 51, f 52, f 53, f 54, f 55, f 56, f 57, f 58, f 59, f 60, f 61, f 62, f 63, f 64, f 65, f 66, f 67, f 68, f 69, f 70, f 71, f 72, f 73, f 74, f 75, f 76, f 77, f 78, f 79, f 80, f 81, f 82, f 83, f 84, f 85, f 86, f 87, f 88, f 89, f 90, f 91, f 92, f 93, f 94, f 95, f 96, f 97, f 98, f 99, f 100, f 101, f 102, f 103, f 104, f 105, f 106, f 107, f 108, f 109, f 110, f 111, f 112, f 113, f 114, f 115, f 116, f 117, f 118, f 119, f 120, f 121, f 122, f 123, f 124, f 125, f 126, f 127, f 128, f 129, f 130, f 131, f 132, f 133, f 134, f 135, f 136, f 137, f 138, f 139, f 140, f 141, f 142, f 143, f 144, f 145, f 146, f 147, f 148, f 149, f 150, f 151, f 152, f 153, f 154, f 155, f 156, f 157, f 158, f 159, f 160, f 161, f 162, f 163, f 164, f 165, f 166, f 167, f 168, f 169, f 170, f 171, f 172, f 173, f 174, f 175, f 176, f 177, f 178, f 179, f 180, f 181, f 182, f 183, f 184, f 185, f 186, f 187, f 188, f 189, f 190, f 191, f 192, f 193, f 194, f 195], []⟩ ∧ ∀ i, f i = sl a i := fr_any h

theorem b0 (w : World) (xa : Option Addr) (n c0 : Nat) (ya : Option Addr) (m c2 : Nat) (a : Act) (hf : Fr 196 a) (h0 : sl a 0 = .slice xa n c0) (h1 : sl a 1 = .slice ya m c2) :
    Code.wp Try.prog (cAt [0] KB) (Exit.then (fun a' w' => Fr 196 a' ∧ sl a' 0 = .slice xa n c0 ∧ sl a' 1 = .slice ya m c2 ∧ w = w') Nope) a w := by
  obtain ⟨f, ha, hs⟩ := frKB hf
  rw [(hs 0).trans h0, (hs 1).trans h1] at ha
  clear hs hf h0 h1
  subst ha
  refine piece2 fun J0 K0 hJ0 hK0 => ?_
  conv => arg 2; whnf
  go_wp2_with fail
  refine Met.intro (hJ0 _ _ ?_)
  exact ⟨⟨rfl, rfl⟩, rfl, rfl, rfl⟩

theorem b1 (w : World) (xa : Option Addr) (n c0 : Nat) (ya : Option Addr) (m c2 : Nat) (l : List Ac) (hl : Acr w ya m l) (hm : m ≤ maxLen) (a : Act) (hf : Fr 196 a) (h0 : sl a 0 = .slice xa n c0) (h1 : sl a 1 = .slice ya m c2) :
    Code.wp Try.prog (cAt [1,0,0] KB) (Exit.then (fun a' w' => ∃ bb, Fr 196 a' ∧ sl a' 0 = .slice xa n c0 ∧ sl a' 1 = .slice ya m c2 ∧ sl a' 28 = .bool bb ∧ (bb = false ↔ n ≤ 8 ∧ Few 60 l) ∧ w = w') Nope) a w := by
  obtain ⟨f, ha, hs⟩ := frKB hf
  rw [(hs 0).trans h0, (hs 1).trans h1] at ha
  clear hs hf h0 h1
  subst ha
  refine piece2 fun J0 K0 hJ0 hK0 => ?_
  conv => arg 2; whnf
  have HL := Lib.hid hl
  clear hl
  by_cases h6 : 8 < n
  · have h62 : (8 : Int) < (n : Int) := by omega
    go_wp2_with fail
    refine Met.intro (hJ0 _ _ ?_)
    exact ⟨true, ⟨rfl, rfl⟩, rfl, rfl, rfl, ⟨fun h => (by cases h), fun h => (by omega)⟩, rfl⟩
  · have h62 : ¬ (8 : Int) < (n : Int) := by omega
    go_wp2_with fail
    refine (few_any ya m c2 l w 60 (by decide) HL.out hm).mono ?_
    rintro e w1 ⟨b, rfl, hb, hw⟩
    subst hw
    have HB := Lib.hid hb
    clear hb
    go_wp2_with fail
    refine Met.intro (hJ0 _ _ ?_)
    refine ⟨!b, ⟨rfl, rfl⟩, rfl, rfl, rfl, ?_, rfl⟩
    cases b
    · exact ⟨fun h => (by cases h), fun h => (by have := HB.out.2 h.2; cases this)⟩
    · exact ⟨fun _ => ⟨by omega, HB.out.1 rfl⟩, fun _ => rfl⟩

theorem b2 (w wr : World) (hb : Below w.heap.size w wr) (a : Act) (hf : Fr 196 a) :
    Code.wp Try.prog (cAt [1,0,1,3] KB) (RetsV Try.f4 (Yes w)) a wr := by
  have HB := Lib.hid hb
  clear hb
  obtain ⟨f, ha, hs⟩ := frKB hf
  clear hs hf 
  subst ha
  conv => arg 2; whnf
  go_wp2_with fail
  refine (works12_any wr).mono ?_
  rintro e w1 ⟨rfl, hb1⟩
  have HF : Hid (Below w.heap.size w w1) := HB.out.trans (hb1.mono HB.out.size)
  clear hb1
  go_wp2_with fail
  refine ⟨rfl, rfl, .bool true, ?_, ⟨rfl, HF.out⟩⟩
  simp [results, Try.results4, go_sem]

theorem b7 (w wr : World) (hb : Below w.heap.size w wr) (a : Act) (hf : Fr 196 a) :
    Code.wp Try.prog (cAt [1,1,0,1,2,2,1,0,2,1,3] KB) (RetsV Try.f4 (Yes w)) a wr := by
  have HB := Lib.hid hb
  clear hb
  obtain ⟨f, ha, hs⟩ := frKB hf
  clear hs hf 
  subst ha
  conv => arg 2; whnf
  go_wp2_with fail
  refine (works12_any wr).mono ?_
  rintro e w1 ⟨rfl, hb1⟩
  have HF : Hid (Below w.heap.size w w1) := HB.out.trans (hb1.mono HB.out.size)
  clear hb1
  go_wp2_with fail
  refine ⟨rfl, rfl, .bool true, ?_, ⟨rfl, HF.out⟩⟩
  simp [results, Try.results4, go_sem]

theorem b10 (w wr : World) (hb : Below w.heap.size w wr) (a : Act) (hf : Fr 196 a) :
    Code.wp Try.prog (cAt [1,1,1,1,0,1,3] KB) (RetsV Try.f4 (Yes w)) a wr := by
  have HB := Lib.hid hb
  clear hb
  obtain ⟨f, ha, hs⟩ := frKB hf
  clear hs hf 
  subst ha
  conv => arg 2; whnf
  go_wp2_with fail
  refine (works12_any wr).mono ?_
  rintro e w1 ⟨rfl, hb1⟩
  have HF : Hid (Below w.heap.size w w1) := HB.out.trans (hb1.mono HB.out.size)
  clear hb1
  go_wp2_with fail
  refine ⟨rfl, rfl, .bool true, ?_, ⟨rfl, HF.out⟩⟩
  simp [results, Try.results4, go_sem]

theorem b3 (w : World) (xa : Option Addr) (n c0 : Nat) (ya : Option Addr) (m c2 : Nat) (a : Act) (hf : Fr 196 a) (h0 : sl a 0 = .slice xa n c0) (h1 : sl a 1 = .slice ya m c2) :
    Code.wp Try.prog (cAt [1,1,0,0] KB) (Exit.then (fun a' w' => Fr 196 a' ∧ sl a' 0 = .slice xa n c0 ∧ sl a' 1 = .slice ya m c2 ∧ sl a' 5 = .int .i64 0 ∧ w = w') Nope) a w := by
  obtain ⟨f, ha, hs⟩ := frKB hf
  rw [(hs 0).trans h0, (hs 1).trans h1] at ha
  clear hs hf h0 h1
  subst ha
  refine piece2 fun J0 K0 hJ0 hK0 => ?_
  conv => arg 2; whnf
  go_wp2_with fail
  refine Met.intro (hJ0 _ _ ?_)
  exact ⟨⟨rfl, rfl⟩, rfl, rfl, rfl, rfl⟩

theorem b4 (w : World) (xa : Option Addr) (n c0 : Nat) (ya : Option Addr) (m c2 : Nat) (i : Nat) (hi : i < n) (a : Act) (hf : Fr 196 a) (h0 : sl a 0 = .slice xa n c0) (h1 : sl a 1 = .slice ya m c2) (h5 : sl a 5 = .int .i64 (i : Int)) :
    Code.wp Try.prog (cAt [1,1,0,1,2,2,0] KB) (Exit.then (fun a' w' => Fr 196 a' ∧ sl a' 0 = .slice xa n c0 ∧ sl a' 1 = .slice ya m c2 ∧ sl a' 5 = .int .i64 (i : Int) ∧ w = w') Nope) a w := by
  obtain ⟨f, ha, hs⟩ := frKB hf
  rw [(hs 0).trans h0, (hs 1).trans h1, (hs 5).trans h5] at ha
  clear hs hf h0 h1 h5
  subst ha
  refine piece2 fun J0 K0 hJ0 hK0 => ?_
  conv => arg 2; whnf
  have hi2 : (i : Int) < (n : Int) := by omega
  go_wp2_with fail
  refine Met.intro (hJ0 _ _ ?_)
  exact ⟨⟨rfl, rfl⟩, rfl, rfl, rfl, rfl⟩

theorem b4x (w : World) (xa : Option Addr) (n c0 : Nat) (ya : Option Addr) (m c2 : Nat) (i : Nat) (hi : ¬ i < n) (a : Act) (hf : Fr 196 a) (h0 : sl a 0 = .slice xa n c0) (h1 : sl a 1 = .slice ya m c2) (h5 : sl a 5 = .int .i64 (i : Int)) :
    Code.wp Try.prog (cAt [1,1,0,1,2,2] KB) (Outs 0 (fun a' w' => Fr 196 a' ∧ sl a' 0 = .slice xa n c0 ∧ sl a' 1 = .slice ya m c2 ∧ w = w')) a w := by
  obtain ⟨f, ha, hs⟩ := frKB hf
  rw [(hs 0).trans h0, (hs 1).trans h1, (hs 5).trans h5] at ha
  clear hs hf h0 h1 h5
  subst ha
  conv => arg 2; whnf
  go_wp2_with fail
  exact ⟨rfl, ⟨rfl, rfl⟩, rfl, rfl, rfl⟩

theorem b5 (w : World) (xa : Option Addr) (n c0 : Nat) (ya : Option Addr) (m c2 : Nat) (i : Nat) (hi : i < 1000) (a : Act) (hf : Fr 196 a) (h0 : sl a 0 = .slice xa n c0) (h1 : sl a 1 = .slice ya m c2) (h5 : sl a 5 = .int .i64 (i : Int)) :
    Code.wp Try.prog (cAt [1,1,0,1,2,2,1,1] KB) (Exit.then (fun a' w' => Fr 196 a' ∧ sl a' 0 = .slice xa n c0 ∧ sl a' 1 = .slice ya m c2 ∧ sl a' 5 = .int .i64 ((i : Int) + 1) ∧ w = w') Nope) a w := by
  obtain ⟨f, ha, hs⟩ := frKB hf
  rw [(hs 0).trans h0, (hs 1).trans h1, (hs 5).trans h5] at ha
  clear hs hf h0 h1 h5
  subst ha
  refine piece2 fun J0 K0 hJ0 hK0 => ?_
  conv => arg 2; whnf
  have hw : IntKind.i64.wrap ((i : Int) + 1) = (i : Int) + 1 := by rw [IntKind.wrap_i64]; omega
  go_wp2_with fail
  refine Met.intro (hJ0 _ _ ?_)
  exact ⟨⟨rfl, rfl⟩, rfl, rfl, rfl, rfl⟩

theorem b6 (w : World) (xb xo n c0 : Nat) (ya : Option Addr) (m c2 i : Nat) (x : Cs) (HX : Hid (w.rangeAt xb (xo + i * 4) x.cs)) (hi : i < n) (a : Act) (hf : Fr 196 a) (h0 : sl a 0 = .slice (some ⟨xb, xo, none⟩) n c0) (h1 : sl a 1 = .slice ya m c2) (h5 : sl a 5 = .int .i64 (i : Int)) :
    Code.wp Try.prog (cAt [1,1,0,1,2,2,1,0,2,0] KB) (Exit.then (fun a' w' => Fr 196 a' ∧ sl a' 0 = .slice (some ⟨xb, xo, none⟩) n c0 ∧ sl a' 1 = .slice ya m c2 ∧ sl a' 5 = .int .i64 (i : Int) ∧ sl a' 49 = .bool (decide (1048576 ≤ x.r) || decide (1048576 ≤ x.B)) ∧ w = w') Nope) a w := by
  obtain ⟨f, ha, hs⟩ := frKB hf
  rw [(hs 0).trans h0, (hs 1).trans h1, (hs 5).trans h5] at ha
  clear hs hf h0 h1 h5
  subst ha
  refine piece2 fun J0 K0 hJ0 hK0 => ?_
  conv => arg 2; whnf
  have x0 : w.cell? ⟨xb, xo + i * 4, none⟩ = some (.int .u64 x.r) := HX.out 0 _ rfl
  have x1 : w.cell? ⟨xb, xo + i * 4 + 1, none⟩ = some (.int .u64 x.B) := HX.out 1 _ rfl
  have hi2 : (i : Int) < (n : Int) := by omega
  have hi0 : (0 : Int) ≤ (i : Int) := by omega
  by_cases e1 : 1048576 ≤ x.r
  · go_wp2_with fail
    refine Met.intro (hJ0 _ _ ?_)
    exact ⟨⟨rfl, rfl⟩, rfl, rfl, rfl, by rw [decide_eq_true e1]; rfl, rfl⟩
  · by_cases e2 : 1048576 ≤ x.B
    · go_wp2_with fail
      refine Met.intro (hJ0 _ _ ?_)
      exact ⟨⟨rfl, rfl⟩, rfl, rfl, rfl, by rw [decide_eq_false (show ¬ 1048576 ≤ x.r by omega), decide_eq_true e2]; rfl, rfl⟩
    · go_wp2_with fail
      refine Met.intro (hJ0 _ _ ?_)
      exact ⟨⟨rfl, rfl⟩, rfl, rfl, rfl, by rw [decide_eq_false (show ¬ 1048576 ≤ x.r by omega), decide_eq_false (show ¬ 1048576 ≤ x.B by omega)]; rfl, rfl⟩

theorem b8 (w : World) (xa : Option Addr) (n c0 : Nat) (ya : Option Addr) (m c2 : Nat) (l : List Cs) (HR : Hid (Rcs w xa n l)) (HM : Hid (mayB l = true)) (a : Act) (hf : Fr 196 a) (h0 : sl a 0 = .slice xa n c0) (h1 : sl a 1 = .slice ya m c2) :
    Code.wp Try.prog (cAt [1,1,1,0] KB) (Exit.then (fun a' w' => ∃ g s, Fr 196 a' ∧ sl a' 0 = .slice xa n c0 ∧ sl a' 1 = .slice ya m c2 ∧ sl a' 6 = .pointer (some ⟨g, 0, none⟩) ∧ sl a' 7 = .int .i64 0 ∧ Lv w w' g s 0 ∧ s.T = 0 ∧ s.n = l.length ∧ s.abs = l.map (Cs.new 0)) Nope) a w := by
  obtain ⟨f, ha, hs⟩ := frKB hf
  rw [(hs 0).trans h0, (hs 1).trans h1] at ha
  clear hs hf h0 h1
  subst ha
  refine piece2 fun J0 K0 hJ0 hK0 => ?_
  conv => arg 2; whnf
  go_wp2_with fail
  refine (lvNew 0 xa n c0 l HR.out (by decide) (by decide) (Below.refl w.heap.size w) HM.out).mono ?_
  rintro e w1 ⟨g, s, rfl, hv, hT, hn, hab, _, _⟩
  have H1 : Hid (Lv w w1 g s 0 ∧ s.T = 0 ∧ s.n = l.length ∧ s.abs = l.map (Cs.new 0)) := ⟨hv, hT, hn, hab⟩
  clear hv hT hn hab
  go_wp2_with fail
  refine Met.intro (hJ0 _ _ ?_)
  exact ⟨g, s, ⟨rfl, rfl⟩, rfl, rfl, rfl, rfl, H1.out⟩

theorem b8n (w : World) (xa : Option Addr) (n c0 : Nat) (ya : Option Addr) (m c2 : Nat) (l : List Cs) (HR : Hid (Rcs w xa n l)) (HM : Hid (mayB l = false)) (a : Act) (hf : Fr 196 a) (h0 : sl a 0 = .slice xa n c0) (h1 : sl a 1 = .slice ya m c2) :
    Code.wp Try.prog (cAt [1,1,1,0] KB) (Exit.then (fun a' w' => Fr 196 a' ∧ sl a' 7 = .int .i64 2 ∧ Below w.heap.size w w') Nope) a w := by
  obtain ⟨f, ha, hs⟩ := frKB hf
  rw [(hs 0).trans h0, (hs 1).trans h1] at ha
  clear hs hf h0 h1
  subst ha
  refine piece2 fun J0 K0 hJ0 hK0 => ?_
  conv => arg 2; whnf
  go_wp2_with fail
  refine (sNew_any 0 xa n c0 l w HR.out (by decide) (by decide)).mono ?_
  rintro e w1 ⟨hb1, h | h⟩
  · rw [HM.out] at h; cases h.1
  obtain ⟨_, rfl⟩ := h
  have H1 := Lib.hid hb1
  clear hb1
  go_wp2_with fail
  refine Met.intro (hJ0 _ _ ?_)
  exact ⟨⟨rfl, rfl⟩, rfl, H1.out⟩

theorem b9n (wr : World) (a : Act) (hf : Fr 196 a) (h7 : sl a 7 = .int .i64 2) :
    Code.wp Try.prog (cAt [1,1,1,1,0,0] KB) (Exit.then (fun a' w' => Fr 196 a' ∧ sl a' 57 = .bool true ∧ wr = w') Nope) a wr := by
  obtain ⟨f, ha, hs⟩ := frKB hf
  rw [(hs 7).trans h7] at ha
  clear hs hf h7
  subst ha
  refine piece2 fun J0 K0 hJ0 hK0 => ?_
  conv => arg 2; whnf
  go_wp2_with fail
  refine Met.intro (hJ0 _ _ ?_)
  exact ⟨⟨rfl, rfl⟩, rfl, rfl⟩

theorem b9 (wr : World) (xa : Option Addr) (n c0 : Nat) (ya : Option Addr) (m c2 g : Nat) (a : Act) (hf : Fr 196 a) (h0 : sl a 0 = .slice xa n c0) (h1 : sl a 1 = .slice ya m c2) (h6 : sl a 6 = .pointer (some ⟨g, 0, none⟩)) (h7 : sl a 7 = .int .i64 0) :
    Code.wp Try.prog (cAt [1,1,1,1,0,0] KB) (Exit.then (fun a' w' => Fr 196 a' ∧ sl a' 0 = .slice xa n c0 ∧ sl a' 1 = .slice ya m c2 ∧ sl a' 6 = .pointer (some ⟨g, 0, none⟩) ∧ sl a' 57 = .bool false ∧ wr = w') Nope) a wr := by
  obtain ⟨f, ha, hs⟩ := frKB hf
  rw [(hs 0).trans h0, (hs 1).trans h1, (hs 6).trans h6, (hs 7).trans h7] at ha
  clear hs hf h0 h1 h6 h7
  subst ha
  refine piece2 fun J0 K0 hJ0 hK0 => ?_
  conv => arg 2; whnf
  go_wp2_with fail
  refine Met.intro (hJ0 _ _ ?_)
  exact ⟨⟨rfl, rfl⟩, rfl, rfl, rfl, rfl, rfl⟩

theorem b11 (wr : World) (xa : Option Addr) (n c0 : Nat) (ya : Option Addr) (m c2 g : Nat) (hn : n ≤ 8) (a : Act) (hf : Fr 196 a) (h0 : sl a 0 = .slice xa n c0) (h1 : sl a 1 = .slice ya m c2) (h6 : sl a 6 = .pointer (some ⟨g, 0, none⟩)) :
    Code.wp Try.prog (cAt [1,1,1,1,1,0] KB) (Exit.then (fun a' w' => ∃ ro, Fr 196 a' ∧ sl a' 0 = .slice xa n c0 ∧ sl a' 1 = .slice ya m c2 ∧ sl a' 6 = .pointer (some ⟨g, 0, none⟩) ∧ sl a' 8 = .slice (some ⟨ro, 0, none⟩) n n ∧ Offs w' wr.heap.size ro (List.replicate n ⟨none, 0, 0, []⟩) ∧ Below wr.heap.size wr w') Nope) a wr := by
  obtain ⟨f, ha, hs⟩ := frKB hf
  rw [(hs 0).trans h0, (hs 1).trans h1, (hs 6).trans h6] at ha
  clear hs hf h0 h1 h6
  subst ha
  refine piece2 fun J0 K0 hJ0 hK0 => ?_
  conv => arg 2; whnf
  have hmk := run_make_offs wr n (by omega)
  have H1 : Hid (Offs (wr.alloc (.cells ((List.replicate n (⟨none, 0, 0, []⟩ : Of)).flatMap Of.v).toArray 52)) wr.heap.size wr.heap.size (List.replicate n ⟨none, 0, 0, []⟩) ∧ Below wr.heap.size wr (wr.alloc (.cells ((List.replicate n (⟨none, 0, 0, []⟩ : Of)).flatMap Of.v).toArray 52))) :=
    ⟨⟨Blk_new _ _ _, fun x hx => (by rw [List.eq_of_mem_replicate hx]; exact OwnG.nil _ _ _ _), (by rw [List.pairwise_replicate]; right; intro k hk; cases hk), Nat.le_refl _⟩, (Below.refl _ _).alloc (Nat.le_refl _) _⟩
  obtain ⟨cc, hcc⟩ : ∃ z, ((List.replicate n (⟨none, 0, 0, []⟩ : Of)).flatMap Of.v) = z := ⟨_, rfl⟩
  rw [hcc] at hmk H1
  go_wp2_with fail
  refine Met.intro (hJ0 _ _ ?_)
  exact ⟨_, ⟨rfl, rfl⟩, rfl, rfl, rfl, rfl, H1.out⟩

theorem b12 (wr : World) (xa : Option Addr) (n c0 : Nat) (ya : Option Addr) (m c2 g ro : Nat) (a : Act) (hf : Fr 196 a) (h0 : sl a 0 = .slice xa n c0) (h1 : sl a 1 = .slice ya m c2) (h6 : sl a 6 = .pointer (some ⟨g, 0, none⟩)) (h8 : sl a 8 = .slice (some ⟨ro, 0, none⟩) n n) :
    Code.wp Try.prog (cAt [1,1,1,1,1,1,0] KB) (Exit.then (fun a' w' => Fr 196 a' ∧ sl a' 0 = .slice xa n c0 ∧ sl a' 1 = .slice ya m c2 ∧ sl a' 6 = .pointer (some ⟨g, 0, none⟩) ∧ sl a' 8 = .slice (some ⟨ro, 0, none⟩) n n ∧ sl a' 9 = .slice none 0 0 ∧ wr = w') Nope) a wr := by
  obtain ⟨f, ha, hs⟩ := frKB hf
  rw [(hs 0).trans h0, (hs 1).trans h1, (hs 6).trans h6, (hs 8).trans h8] at ha
  clear hs hf h0 h1 h6 h8
  subst ha
  refine piece2 fun J0 K0 hJ0 hK0 => ?_
  conv => arg 2; whnf
  go_wp2_with fail
  refine Met.intro (hJ0 _ _ ?_)
  exact ⟨⟨rfl, rfl⟩, rfl, rfl, rfl, rfl, rfl, rfl⟩

theorem b13 (wr : World) (xa : Option Addr) (n c0 : Nat) (ya : Option Addr) (m c2 g ro : Nat) (a : Act) (hf : Fr 196 a) (h0 : sl a 0 = .slice xa n c0) (h1 : sl a 1 = .slice ya m c2) (h6 : sl a 6 = .pointer (some ⟨g, 0, none⟩)) (h8 : sl a 8 = .slice (some ⟨ro, 0, none⟩) n n) (h9 : sl a 9 = .slice none 0 0) :
    Code.wp Try.prog (cAt [1,1,1,1,1,1,1,0,0] KB) (Exit.then (fun a' w' => Fr 196 a' ∧ sl a' 0 = .slice xa n c0 ∧ sl a' 1 = .slice ya m c2 ∧ sl a' 6 = .pointer (some ⟨g, 0, none⟩) ∧ sl a' 8 = .slice (some ⟨ro, 0, none⟩) n n ∧ sl a' 9 = .slice none 0 0 ∧ sl a' 10 = .int .i64 0 ∧ wr = w') Nope) a wr := by
  obtain ⟨f, ha, hs⟩ := frKB hf
  rw [(hs 0).trans h0, (hs 1).trans h1, (hs 6).trans h6, (hs 8).trans h8, (hs 9).trans h9] at ha
  clear hs hf h0 h1 h6 h8 h9
  subst ha
  refine piece2 fun J0 K0 hJ0 hK0 => ?_
  conv => arg 2; whnf
  go_wp2_with fail
  refine Met.intro (hJ0 _ _ ?_)
  exact ⟨⟨rfl, rfl⟩, rfl, rfl, rfl, rfl, rfl, rfl, rfl⟩

theorem b14 (wr : World) (xa : Option Addr) (n c0 : Nat) (ya : Option Addr) (m c2 g ro : Nat) (vo : Option Addr) (no co i : Nat) (hi : i < m) (a : Act) (hf : Fr 196 a) (h0 : sl a 0 = .slice xa n c0) (h1 : sl a 1 = .slice ya m c2) (h6 : sl a 6 = .pointer (some ⟨g, 0, none⟩)) (h8 : sl a 8 = .slice (some ⟨ro, 0, none⟩) n n) (h9 : sl a 9 = .slice vo no co) (h10 : sl a 10 = .int .i64 (i : Int)) :
    Code.wp Try.prog (cAt [1,1,1,1,1,1,1,0,1,2,2,0] KB) (Exit.then (fun a' w' => Fr 196 a' ∧ sl a' 0 = .slice xa n c0 ∧ sl a' 1 = .slice ya m c2 ∧ sl a' 6 = .pointer (some ⟨g, 0, none⟩) ∧ sl a' 8 = .slice (some ⟨ro, 0, none⟩) n n ∧ sl a' 9 = .slice vo no co ∧ sl a' 10 = .int .i64 (i : Int) ∧ wr = w') Nope) a wr := by
  obtain ⟨f, ha, hs⟩ := frKB hf
  rw [(hs 0).trans h0, (hs 1).trans h1, (hs 6).trans h6, (hs 8).trans h8, (hs 9).trans h9, (hs 10).trans h10] at ha
  clear hs hf h0 h1 h6 h8 h9 h10
  subst ha
  refine piece2 fun J0 K0 hJ0 hK0 => ?_
  conv => arg 2; whnf
  have hi2 : (i : Int) < (m : Int) := by omega
  go_wp2_with fail
  refine Met.intro (hJ0 _ _ ?_)
  exact ⟨⟨rfl, rfl⟩, rfl, rfl, rfl, rfl, rfl, rfl, rfl⟩

theorem b14x (wr : World) (xa : Option Addr) (n c0 : Nat) (ya : Option Addr) (m c2 g ro : Nat) (vo : Option Addr) (no co i : Nat) (hi : ¬ i < m) (a : Act) (hf : Fr 196 a) (h0 : sl a 0 = .slice xa n c0) (h1 : sl a 1 = .slice ya m c2) (h6 : sl a 6 = .pointer (some ⟨g, 0, none⟩)) (h8 : sl a 8 = .slice (some ⟨ro, 0, none⟩) n n) (h9 : sl a 9 = .slice vo no co) (h10 : sl a 10 = .int .i64 (i : Int)) :
    Code.wp Try.prog (cAt [1,1,1,1,1,1,1,0,1,2,2] KB) (Outs 2 (fun a' w' => Fr 196 a' ∧ sl a' 0 = .slice xa n c0 ∧ sl a' 8 = .slice (some ⟨ro, 0, none⟩) n n ∧ sl a' 9 = .slice vo no co ∧ wr = w')) a wr := by
  obtain ⟨f, ha, hs⟩ := frKB hf
  rw [(hs 0).trans h0, (hs 1).trans h1, (hs 6).trans h6, (hs 8).trans h8, (hs 9).trans h9, (hs 10).trans h10] at ha
  clear hs hf h0 h1 h6 h8 h9 h10
  subst ha
  conv => arg 2; whnf
  go_wp2_with fail
  exact ⟨rfl, ⟨rfl, rfl⟩, rfl, rfl, rfl, rfl⟩

theorem b15 (wr : World) (xa : Option Addr) (n c0 : Nat) (ya : Option Addr) (m c2 g ro : Nat) (vo : Option Addr) (no co i : Nat) (hi : i < 1000) (a : Act) (hf : Fr 196 a) (h0 : sl a 0 = .slice xa n c0) (h1 : sl a 1 = .slice ya m c2) (h6 : sl a 6 = .pointer (some ⟨g, 0, none⟩)) (h8 : sl a 8 = .slice (some ⟨ro, 0, none⟩) n n) (h9 : sl a 9 = .slice vo no co) (h10 : sl a 10 = .int .i64 (i : Int)) :
    Code.wp Try.prog (cAt [1,1,1,1,1,1,1,0,1,2,2,1,1] KB) (Exit.then (fun a' w' => Fr 196 a' ∧ sl a' 0 = .slice xa n c0 ∧ sl a' 1 = .slice ya m c2 ∧ sl a' 6 = .pointer (some ⟨g, 0, none⟩) ∧ sl a' 8 = .slice (some ⟨ro, 0, none⟩) n n ∧ sl a' 9 = .slice vo no co ∧ sl a' 10 = .int .i64 ((i : Int) + 1) ∧ wr = w') Nope) a wr := by
  obtain ⟨f, ha, hs⟩ := frKB hf
  rw [(hs 0).trans h0, (hs 1).trans h1, (hs 6).trans h6, (hs 8).trans h8, (hs 9).trans h9, (hs 10).trans h10] at ha
  clear hs hf h0 h1 h6 h8 h9 h10
  subst ha
  refine piece2 fun J0 K0 hJ0 hK0 => ?_
  conv => arg 2; whnf
  have hw : IntKind.i64.wrap ((i : Int) + 1) = (i : Int) + 1 := by rw [IntKind.wrap_i64]; omega
  go_wp2_with fail
  refine Met.intro (hJ0 _ _ ?_)
  exact ⟨⟨rfl, rfl⟩, rfl, rfl, rfl, rfl, rfl, rfl, rfl⟩

theorem b16 (wr : World) (xa : Option Addr) (n c0 : Nat) (yb yo m c2 g ro : Nat) (vo : Option Addr) (no co i : Nat) (y : Ac) (HG : Hid (wr.rangeAt yb (yo + i * 6) y.cs)) (hi : i < m) (a : Act) (hf : Fr 196 a) (h0 : sl a 0 = .slice xa n c0) (h1 : sl a 1 = .slice (some ⟨yb, yo, none⟩) m c2) (h6 : sl a 6 = .pointer (some ⟨g, 0, none⟩)) (h8 : sl a 8 = .slice (some ⟨ro, 0, none⟩) n n) (h9 : sl a 9 = .slice vo no co) (h10 : sl a 10 = .int .i64 (i : Int)) :
    Code.wp Try.prog (cAt [1,1,1,1,1,1,1,0,1,2,2,1,0,2,0] KB) (Exit.then (fun a' w' => ∃ bx, Fr 196 a' ∧ sl a' 0 = .slice xa n c0 ∧ sl a' 1 = .slice (some ⟨yb, yo, none⟩) m c2 ∧ sl a' 6 = .pointer (some ⟨g, 0, none⟩) ∧ sl a' 8 = .slice (some ⟨ro, 0, none⟩) n n ∧ sl a' 9 = .slice vo no co ∧ sl a' 10 = .int .i64 (i : Int) ∧ sl a' 11 = .pointer (some ⟨bx, 0, none⟩) ∧ w'.heap[bx]? = some (.cells #[.int .i64 y.d, .int .i64 y.c, .int .u64 y.x.no, .int .i64 y.x.sz, .slice y.x.a y.x.n y.x.c, .int .u64 y.t] 42 (0, 0)) ∧ wr.heap.size ≤ bx ∧ Below wr.heap.size wr w') Nope) a wr := by
  obtain ⟨f, ha, hs⟩ := frKB hf
  rw [(hs 0).trans h0, (hs 1).trans h1, (hs 6).trans h6, (hs 8).trans h8, (hs 9).trans h9, (hs 10).trans h10] at ha
  clear hs hf h0 h1 h6 h8 h9 h10
  subst ha
  refine piece2 fun J0 K0 hJ0 hK0 => ?_
  conv => arg 2; whnf
  have hi2 : (i : Int) < (m : Int) := by omega
  have hi0 : (0 : Int) ≤ (i : Int) := by omega
  obtain ⟨yd, yc, ⟨no', sz, za, zn, zc, zd⟩, yt⟩ := y
  have q0 : wr.cell? ⟨yb, yo + i * 6, none⟩ = some (.int .i64 yd) := Ac.r0 HG.out
  have q1 : wr.cell? ⟨yb, yo + i * 6 + 1, none⟩ = some (.int .i64 yc) := Ac.r1 HG.out
  have q2 : wr.cell? ⟨yb, yo + i * 6 + 2, none⟩ = some (.int .u64 no') := Ac.r2 HG.out
  have q3 : wr.cell? ⟨yb, yo + i * 6 + 3, none⟩ = some (.int .i64 sz) := Ac.r3 HG.out
  have q4 : wr.cell? ⟨yb, yo + i * 6 + 4, none⟩ = some (.slice za zn zc) := Ac.r4 HG.out
  have q5 : wr.cell? ⟨yb, yo + i * 6 + 5, none⟩ = some (.int .u64 yt) := Ac.r5 HG.out
  have H1 : Hid ((wr.alloc (.cells #[.int .i64 yd, .int .i64 yc, .int .u64 no', .int .i64 sz, .slice za zn zc, .int .u64 yt] 42)).heap[wr.heap.size]? = some (.cells #[.int .i64 yd, .int .i64 yc, .int .u64 no', .int .i64 sz, .slice za zn zc, .int .u64 yt] 42 (0, 0)) ∧ wr.heap.size ≤ wr.heap.size ∧ Below wr.heap.size wr (wr.alloc (.cells #[.int .i64 yd, .int .i64 yc, .int .u64 no', .int .i64 sz, .slice za zn zc, .int .u64 yt] 42))) := ⟨Blk_new _ _ _, Nat.le_refl _, (Below.refl _ _).alloc (Nat.le_refl _) _⟩
  go_wp2_with fail
  refine Met.intro (hJ0 _ _ ?_)
  exact ⟨_, ⟨rfl, rfl⟩, rfl, rfl, rfl, rfl, rfl, rfl, rfl, H1.out⟩

theorem b17 (wr : World) (xa : Option Addr) (n c0 : Nat) (ya : Option Addr) (m c2 g ro : Nat) (vo : Option Addr) (no co i : Nat) (bx : Nat) (y : Ac) (HB : Hid (wr.heap[bx]? = some (.cells #[.int .i64 y.d, .int .i64 y.c, .int .u64 y.x.no, .int .i64 y.x.sz, .slice y.x.a y.x.n y.x.c, .int .u64 y.t] 42 (0, 0)))) (a : Act) (hf : Fr 196 a) (h0 : sl a 0 = .slice xa n c0) (h1 : sl a 1 = .slice ya m c2) (h6 : sl a 6 = .pointer (some ⟨g, 0, none⟩)) (h8 : sl a 8 = .slice (some ⟨ro, 0, none⟩) n n) (h9 : sl a 9 = .slice vo no co) (h10 : sl a 10 = .int .i64 (i : Int)) (h11 : sl a 11 = .pointer (some ⟨bx, 0, none⟩)) :
    Code.wp Try.prog (cAt [1,1,1,1,1,1,1,0,1,2,2,1,0,2,1,0,0] KB) (Exit.then (fun a' w' => Fr 196 a' ∧ sl a' 0 = .slice xa n c0 ∧ sl a' 1 = .slice ya m c2 ∧ sl a' 6 = .pointer (some ⟨g, 0, none⟩) ∧ sl a' 8 = .slice (some ⟨ro, 0, none⟩) n n ∧ sl a' 9 = .slice vo no co ∧ sl a' 10 = .int .i64 (i : Int) ∧ sl a' 11 = .pointer (some ⟨bx, 0, none⟩) ∧ sl a' 74 = .bool (decide (y.d < 3)) ∧ wr = w') Nope) a wr := by
  obtain ⟨f, ha, hs⟩ := frKB hf
  rw [(hs 0).trans h0, (hs 1).trans h1, (hs 6).trans h6, (hs 8).trans h8, (hs 9).trans h9, (hs 10).trans h10, (hs 11).trans h11] at ha
  clear hs hf h0 h1 h6 h8 h9 h10 h11
  subst ha
  refine piece2 fun J0 K0 hJ0 hK0 => ?_
  conv => arg 2; whnf
  have c0' : wr.cell? ⟨bx, 0, none⟩ = some (.int .i64 y.d) := by rw [cell_of_row wr bx 0 _ _ (0, 0) HB.out]; rfl
  by_cases e : y.d < 3
  · go_wp2_with fail
    refine Met.intro (hJ0 _ _ ?_)
    exact ⟨⟨rfl, rfl⟩, rfl, rfl, rfl, rfl, rfl, rfl, rfl, by rw [decide_eq_true e]; rfl, rfl⟩
  · go_wp2_with fail
    refine Met.intro (hJ0 _ _ ?_)
    exact ⟨⟨rfl, rfl⟩, rfl, rfl, rfl, rfl, rfl, rfl, rfl, by rw [decide_eq_false (show ¬ y.d < 3 by omega)]; rfl, rfl⟩

theorem b18 (wr : World) (xa : Option Addr) (n c0 : Nat) (ya : Option Addr) (m c2 g ro : Nat) (vo : Option Addr) (no co i : Nat) (bx : Nat) (y : Ac) (HB : Hid (wr.heap[bx]? = some (.cells #[.int .i64 y.d, .int .i64 y.c, .int .u64 y.x.no, .int .i64 y.x.sz, .slice y.x.a y.x.n y.x.c, .int .u64 y.t] 42 (0, 0)))) (cc : Nat) (hn1 : 1 ≤ n) (hn8 : n ≤ 8) (hcc : y.c % (n : Int) = (cc : Int)) (a : Act) (hf : Fr 196 a) (h0 : sl a 0 = .slice xa n c0) (h1 : sl a 1 = .slice ya m c2) (h6 : sl a 6 = .pointer (some ⟨g, 0, none⟩)) (h8 : sl a 8 = .slice (some ⟨ro, 0, none⟩) n n) (h9 : sl a 9 = .slice vo no co) (h10 : sl a 10 = .int .i64 (i : Int)) (h11 : sl a 11 = .pointer (some ⟨bx, 0, none⟩)) :
    Code.wp Try.prog (cAt [1,1,1,1,1,1,1,0,1,2,2,1,0,2,1,0,1,3,0] KB) (Exit.then (fun a' w' => Fr 196 a' ∧ sl a' 0 = .slice xa n c0 ∧ sl a' 1 = .slice ya m c2 ∧ sl a' 6 = .pointer (some ⟨g, 0, none⟩) ∧ sl a' 8 = .slice (some ⟨ro, 0, none⟩) n n ∧ sl a' 9 = .slice vo no co ∧ sl a' 10 = .int .i64 (i : Int) ∧ sl a' 11 = .pointer (some ⟨bx, 0, none⟩) ∧ sl a' 12 = .int .i64 (cc : Int) ∧ wr = w') Nope) a wr := by
  obtain ⟨f, ha, hs⟩ := frKB hf
  rw [(hs 0).trans h0, (hs 1).trans h1, (hs 6).trans h6, (hs 8).trans h8, (hs 9).trans h9, (hs 10).trans h10, (hs 11).trans h11] at ha
  clear hs hf h0 h1 h6 h8 h9 h10 h11
  subst ha
  refine piece2 fun J0 K0 hJ0 hK0 => ?_
  conv => arg 2; whnf
  have c1' : wr.cell? ⟨bx, 1, none⟩ = some (.int .i64 y.c) := by rw [cell_of_row wr bx 1 _ _ (0, 0) HB.out]; rfl
  have hn0 : (0 : Int) < (n : Int) := by omega
  go_wp2_with fail
  refine (kPick_any y.c n wr hn0 (by omega)).mono ?_
  rintro e w1 ⟨rfl, hw⟩
  subst hw
  rw [hcc]
  go_wp2_with fail
  refine Met.intro (hJ0 _ _ ?_)
  exact ⟨⟨rfl, rfl⟩, rfl, rfl, rfl, rfl, rfl, rfl, rfl, rfl, rfl⟩

theorem b19 (wr : World) (xa : Option Addr) (n c0 : Nat) (ya : Option Addr) (m c2 g ro : Nat) (vo : Option Addr) (no co i : Nat) (bx : Nat) (y : Ac) (HB : Hid (wr.heap[bx]? = some (.cells #[.int .i64 y.d, .int .i64 y.c, .int .u64 y.x.no, .int .i64 y.x.sz, .slice y.x.a y.x.n y.x.c, .int .u64 y.t] 42 (0, 0)))) (cc : Nat) (sz : Int) (hsz : y.x.sz.tmod 2049 = sz) (b0 : -2049 < sz) (b1 : sz < 2049) (a : Act) (hf : Fr 196 a) (h0 : sl a 0 = .slice xa n c0) (h1 : sl a 1 = .slice ya m c2) (h6 : sl a 6 = .pointer (some ⟨g, 0, none⟩)) (h8 : sl a 8 = .slice (some ⟨ro, 0, none⟩) n n) (h9 : sl a 9 = .slice vo no co) (h10 : sl a 10 = .int .i64 (i : Int)) (h11 : sl a 11 = .pointer (some ⟨bx, 0, none⟩)) (h12 : sl a 12 = .int .i64 (cc : Int)) :
    Code.wp Try.prog (cAt [1,1,1,1,1,1,1,0,1,2,2,1,0,2,1,0,1,3,1,0] KB) (Exit.then (fun a' w' => Fr 196 a' ∧ sl a' 0 = .slice xa n c0 ∧ sl a' 1 = .slice ya m c2 ∧ sl a' 6 = .pointer (some ⟨g, 0, none⟩) ∧ sl a' 8 = .slice (some ⟨ro, 0, none⟩) n n ∧ sl a' 9 = .slice vo no co ∧ sl a' 10 = .int .i64 (i : Int) ∧ sl a' 11 = .pointer (some ⟨bx, 0, none⟩) ∧ sl a' 12 = .int .i64 (cc : Int) ∧ sl a' 13 = .int .i64 sz ∧ wr = w') Nope) a wr := by
  obtain ⟨f, ha, hs⟩ := frKB hf
  rw [(hs 0).trans h0, (hs 1).trans h1, (hs 6).trans h6, (hs 8).trans h8, (hs 9).trans h9, (hs 10).trans h10, (hs 11).trans h11, (hs 12).trans h12] at ha
  clear hs hf h0 h1 h6 h8 h9 h10 h11 h12
  subst ha
  refine piece2 fun J0 K0 hJ0 hK0 => ?_
  conv => arg 2; whnf
  have c3' : wr.cell? ⟨bx, 2 + 1, none⟩ = some (.int .i64 y.x.sz) := by rw [cell_of_row wr bx (2 + 1) _ _ (0, 0) HB.out]; rfl
  have ew : IntKind.i64.wrap sz = sz := by rw [IntKind.wrap_i64]; omega
  go_wp2_with fail
  refine Met.intro (hJ0 _ _ ?_)
  exact ⟨⟨rfl, rfl⟩, rfl, rfl, rfl, rfl, rfl, rfl, rfl, rfl, rfl, rfl⟩

end Go.Proofs.Ytpigpeehhadkjaa

namespace Go.Proofs.Ytpigpeehhadkjaa
open Go.RowKit Bkt
set_option maxRecDepth 100000
set_option maxHeartbeats 4000000

theorem relFB_len (tick : Int) : ∀ (n : Nat) (T : Int) (ls : List Ab), (relF tick n T ls).2.length ≤ n
  | 0, _, _ => Nat.le_refl _
  | n + 1, T, ls => by
    rw [relF]
    split
    · have := relFB_len tick n (nx T ls).t (ls.set (nx T ls).c ((ls.getD (nx T ls).c az).send (nx T ls).t))
      simp only [List.length_cons]
      omega
    · simp
theorem relB_len (tick T : Int) (ls : List Ab) : (rel tick T ls).2.length ≤ tot ls := relFB_len tick _ T ls

theorem b20 (w wr : World) (xa : Option Addr) (n c0 : Nat) (ya : Option Addr) (m c2 g ro : Nat) (vo : Option Addr) (no co i bx : Nat) (s : Sh) (N : Int) (offs : List Of) (ys : List Po) (cc : Nat) (sz : Int) (ll : La) (HM : Hid (Bm w wr g s N ro offs vo no co ys)) (HL : Hid (s.ls[cc]? = some ll)) (a : Act) (hf : Fr 196 a) (h0 : sl a 0 = .slice xa n c0) (h1 : sl a 1 = .slice ya m c2) (h6 : sl a 6 = .pointer (some ⟨g, 0, none⟩)) (h8 : sl a 8 = .slice (some ⟨ro, 0, none⟩) n n) (h9 : sl a 9 = .slice vo no co) (h10 : sl a 10 = .int .i64 (i : Int)) (h11 : sl a 11 = .pointer (some ⟨bx, 0, none⟩)) (h12 : sl a 12 = .int .i64 (cc : Int)) (h13 : sl a 13 = .int .i64 sz) :
    Code.wp Try.prog (cAt [1,1,1,1,1,1,1,0,1,2,2,1,0,2,1,0,1,3,1,1,0] KB) (Exit.then (fun a' w' => ∃ vq nq cq qs, Fr 196 a' ∧ sl a' 0 = .slice xa n c0 ∧ sl a' 1 = .slice ya m c2 ∧ sl a' 6 = .pointer (some ⟨g, 0, none⟩) ∧ sl a' 8 = .slice (some ⟨ro, 0, none⟩) n n ∧ sl a' 9 = .slice vo no co ∧ sl a' 10 = .int .i64 (i : Int) ∧ sl a' 11 = .pointer (some ⟨bx, 0, none⟩) ∧ sl a' 12 = .int .i64 (cc : Int) ∧ sl a' 13 = .int .i64 sz ∧ sl a' 14 = .slice vq nq cq ∧ Below wr.heap.size wr w' ∧ Cps w' wr.heap.size vq nq cq qs ∧ qs.map Pi.it = ll.q.L.map Pi.it) Nope) a wr := by
  obtain ⟨f, ha, hs⟩ := frKB hf
  rw [(hs 0).trans h0, (hs 1).trans h1, (hs 6).trans h6, (hs 8).trans h8, (hs 9).trans h9, (hs 10).trans h10, (hs 11).trans h11, (hs 12).trans h12, (hs 13).trans h13] at ha
  clear hs hf h0 h1 h6 h8 h9 h10 h11 h12 h13
  subst ha
  refine piece2 fun J0 K0 hJ0 hK0 => ?_
  conv => arg 2; whnf
  go_wp2_with fail
  refine (sQueued_yes w.heap.size g s cc ll wr HM.out.lv.sw HL.out).mono ?_
  rintro e w1 ⟨hb, vq, nq, cq, qs, rfl, hc, hm⟩
  have H1 : Hid (Below wr.heap.size wr w1 ∧ Cps w1 wr.heap.size vq nq cq qs ∧ qs.map Pi.it = ll.q.L.map Pi.it) := ⟨hb, hc, hm⟩
  clear hb hc hm
  go_wp2_with fail
  refine Met.intro (hJ0 _ _ ?_)
  exact ⟨vq, nq, cq, qs, ⟨rfl, rfl⟩, rfl, rfl, rfl, rfl, rfl, rfl, rfl, rfl, rfl, rfl, H1.out⟩

theorem b21 (wr : World) (xa : Option Addr) (n c0 : Nat) (ya : Option Addr) (m c2 g ro : Nat) (vo : Option Addr) (no co i : Nat) (bx cc : Nat) (sz : Int) (vq : Option Addr) (nq cq : Nat) (a : Act) (hf : Fr 196 a) (h0 : sl a 0 = .slice xa n c0) (h1 : sl a 1 = .slice ya m c2) (h6 : sl a 6 = .pointer (some ⟨g, 0, none⟩)) (h8 : sl a 8 = .slice (some ⟨ro, 0, none⟩) n n) (h9 : sl a 9 = .slice vo no co) (h10 : sl a 10 = .int .i64 (i : Int)) (h11 : sl a 11 = .pointer (some ⟨bx, 0, none⟩)) (h12 : sl a 12 = .int .i64 (cc : Int)) (h13 : sl a 13 = .int .i64 sz) (h14 : sl a 14 = .slice vq nq cq) :
    Code.wp Try.prog (cAt [1,1,1,1,1,1,1,0,1,2,2,1,0,2,1,0,1,3,1,1,1,0] KB) (Exit.then (fun a' w' => Fr 196 a' ∧ sl a' 0 = .slice xa n c0 ∧ sl a' 1 = .slice ya m c2 ∧ sl a' 6 = .pointer (some ⟨g, 0, none⟩) ∧ sl a' 8 = .slice (some ⟨ro, 0, none⟩) n n ∧ sl a' 9 = .slice vo no co ∧ sl a' 10 = .int .i64 (i : Int) ∧ sl a' 11 = .pointer (some ⟨bx, 0, none⟩) ∧ sl a' 12 = .int .i64 (cc : Int) ∧ sl a' 13 = .int .i64 sz ∧ sl a' 14 = .slice vq nq cq ∧ sl a' 15 = .int .i64 0 ∧ wr = w') Nope) a wr := by
  obtain ⟨f, ha, hs⟩ := frKB hf
  rw [(hs 0).trans h0, (hs 1).trans h1, (hs 6).trans h6, (hs 8).trans h8, (hs 9).trans h9, (hs 10).trans h10, (hs 11).trans h11, (hs 12).trans h12, (hs 13).trans h13, (hs 14).trans h14] at ha
  clear hs hf h0 h1 h6 h8 h9 h10 h11 h12 h13 h14
  subst ha
  refine piece2 fun J0 K0 hJ0 hK0 => ?_
  conv => arg 2; whnf
  go_wp2_with fail
  refine Met.intro (hJ0 _ _ ?_)
  exact ⟨⟨rfl, rfl⟩, rfl, rfl, rfl, rfl, rfl, rfl, rfl, rfl, rfl, rfl, rfl, rfl⟩

theorem b22 (wr : World) (xa : Option Addr) (n c0 : Nat) (ya : Option Addr) (m c2 g ro : Nat) (vo : Option Addr) (no co i : Nat) (bx cc : Nat) (sz : Int) (vq : Option Addr) (nq cq : Nat) (a : Act) (hf : Fr 196 a) (h0 : sl a 0 = .slice xa n c0) (h1 : sl a 1 = .slice ya m c2) (h6 : sl a 6 = .pointer (some ⟨g, 0, none⟩)) (h8 : sl a 8 = .slice (some ⟨ro, 0, none⟩) n n) (h9 : sl a 9 = .slice vo no co) (h10 : sl a 10 = .int .i64 (i : Int)) (h11 : sl a 11 = .pointer (some ⟨bx, 0, none⟩)) (h12 : sl a 12 = .int .i64 (cc : Int)) (h13 : sl a 13 = .int .i64 sz) (h14 : sl a 14 = .slice vq nq cq) (h15 : sl a 15 = .int .i64 0) :
    Code.wp Try.prog (cAt [1,1,1,1,1,1,1,0,1,2,2,1,0,2,1,0,1,3,1,1,1,1,0,0] KB) (Exit.then (fun a' w' => Fr 196 a' ∧ sl a' 0 = .slice xa n c0 ∧ sl a' 1 = .slice ya m c2 ∧ sl a' 6 = .pointer (some ⟨g, 0, none⟩) ∧ sl a' 8 = .slice (some ⟨ro, 0, none⟩) n n ∧ sl a' 9 = .slice vo no co ∧ sl a' 10 = .int .i64 (i : Int) ∧ sl a' 11 = .pointer (some ⟨bx, 0, none⟩) ∧ sl a' 12 = .int .i64 (cc : Int) ∧ sl a' 13 = .int .i64 sz ∧ sl a' 14 = .slice vq nq cq ∧ sl a' 15 = .int .i64 0 ∧ sl a' 16 = .int .i64 0 ∧ wr = w') Nope) a wr := by
  obtain ⟨f, ha, hs⟩ := frKB hf
  rw [(hs 0).trans h0, (hs 1).trans h1, (hs 6).trans h6, (hs 8).trans h8, (hs 9).trans h9, (hs 10).trans h10, (hs 11).trans h11, (hs 12).trans h12, (hs 13).trans h13, (hs 14).trans h14, (hs 15).trans h15] at ha
  clear hs hf h0 h1 h6 h8 h9 h10 h11 h12 h13 h14 h15
  subst ha
  refine piece2 fun J0 K0 hJ0 hK0 => ?_
  conv => arg 2; whnf
  go_wp2_with fail
  refine Met.intro (hJ0 _ _ ?_)
  exact ⟨⟨rfl, rfl⟩, rfl, rfl, rfl, rfl, rfl, rfl, rfl, rfl, rfl, rfl, rfl, rfl, rfl⟩

theorem b23 (wr : World) (xa : Option Addr) (n c0 : Nat) (ya : Option Addr) (m c2 g ro : Nat) (vo : Option Addr) (no co i : Nat) (bx cc : Nat) (sz : Int) (vq : Option Addr) (nq cq : Nat) (sm : Int) (j : Nat) (hj : j < nq) (a : Act) (hf : Fr 196 a) (h0 : sl a 0 = .slice xa n c0) (h1 : sl a 1 = .slice ya m c2) (h6 : sl a 6 = .pointer (some ⟨g, 0, none⟩)) (h8 : sl a 8 = .slice (some ⟨ro, 0, none⟩) n n) (h9 : sl a 9 = .slice vo no co) (h10 : sl a 10 = .int .i64 (i : Int)) (h11 : sl a 11 = .pointer (some ⟨bx, 0, none⟩)) (h12 : sl a 12 = .int .i64 (cc : Int)) (h13 : sl a 13 = .int .i64 sz) (h14 : sl a 14 = .slice vq nq cq) (h15 : sl a 15 = .int .i64 sm) (h16 : sl a 16 = .int .i64 (j : Int)) :
    Code.wp Try.prog (cAt [1,1,1,1,1,1,1,0,1,2,2,1,0,2,1,0,1,3,1,1,1,1,0,1,2,2,0] KB) (Exit.then (fun a' w' => Fr 196 a' ∧ sl a' 0 = .slice xa n c0 ∧ sl a' 1 = .slice ya m c2 ∧ sl a' 6 = .pointer (some ⟨g, 0, none⟩) ∧ sl a' 8 = .slice (some ⟨ro, 0, none⟩) n n ∧ sl a' 9 = .slice vo no co ∧ sl a' 10 = .int .i64 (i : Int) ∧ sl a' 11 = .pointer (some ⟨bx, 0, none⟩) ∧ sl a' 12 = .int .i64 (cc : Int) ∧ sl a' 13 = .int .i64 sz ∧ sl a' 14 = .slice vq nq cq ∧ sl a' 15 = .int .i64 sm ∧ sl a' 16 = .int .i64 (j : Int) ∧ wr = w') Nope) a wr := by
  obtain ⟨f, ha, hs⟩ := frKB hf
  rw [(hs 0).trans h0, (hs 1).trans h1, (hs 6).trans h6, (hs 8).trans h8, (hs 9).trans h9, (hs 10).trans h10, (hs 11).trans h11, (hs 12).trans h12, (hs 13).trans h13, (hs 14).trans h14, (hs 15).trans h15, (hs 16).trans h16] at ha
  clear hs hf h0 h1 h6 h8 h9 h10 h11 h12 h13 h14 h15 h16
  subst ha
  refine piece2 fun J0 K0 hJ0 hK0 => ?_
  conv => arg 2; whnf
  have hi2 : (j : Int) < (nq : Int) := by omega
  go_wp2_with fail
  refine Met.intro (hJ0 _ _ ?_)
  exact ⟨⟨rfl, rfl⟩, rfl, rfl, rfl, rfl, rfl, rfl, rfl, rfl, rfl, rfl, rfl, rfl, rfl⟩

theorem b23x (wr : World) (xa : Option Addr) (n c0 : Nat) (ya : Option Addr) (m c2 g ro : Nat) (vo : Option Addr) (no co i : Nat) (bx cc : Nat) (sz : Int) (vq : Option Addr) (nq cq : Nat) (sm : Int) (j : Nat) (hj : ¬ j < nq) (a : Act) (hf : Fr 196 a) (h0 : sl a 0 = .slice xa n c0) (h1 : sl a 1 = .slice ya m c2) (h6 : sl a 6 = .pointer (some ⟨g, 0, none⟩)) (h8 : sl a 8 = .slice (some ⟨ro, 0, none⟩) n n) (h9 : sl a 9 = .slice vo no co) (h10 : sl a 10 = .int .i64 (i : Int)) (h11 : sl a 11 = .pointer (some ⟨bx, 0, none⟩)) (h12 : sl a 12 = .int .i64 (cc : Int)) (h13 : sl a 13 = .int .i64 sz) (h14 : sl a 14 = .slice vq nq cq) (h15 : sl a 15 = .int .i64 sm) (h16 : sl a 16 = .int .i64 (j : Int)) :
    Code.wp Try.prog (cAt [1,1,1,1,1,1,1,0,1,2,2,1,0,2,1,0,1,3,1,1,1,1,0,1,2,2] KB) (Outs 4 (fun a' w' => Fr 196 a' ∧ sl a' 0 = .slice xa n c0 ∧ sl a' 1 = .slice ya m c2 ∧ sl a' 6 = .pointer (some ⟨g, 0, none⟩) ∧ sl a' 8 = .slice (some ⟨ro, 0, none⟩) n n ∧ sl a' 9 = .slice vo no co ∧ sl a' 10 = .int .i64 (i : Int) ∧ sl a' 11 = .pointer (some ⟨bx, 0, none⟩) ∧ sl a' 12 = .int .i64 (cc : Int) ∧ sl a' 13 = .int .i64 sz ∧ sl a' 14 = .slice vq nq cq ∧ sl a' 15 = .int .i64 sm ∧ wr = w')) a wr := by
  obtain ⟨f, ha, hs⟩ := frKB hf
  rw [(hs 0).trans h0, (hs 1).trans h1, (hs 6).trans h6, (hs 8).trans h8, (hs 9).trans h9, (hs 10).trans h10, (hs 11).trans h11, (hs 12).trans h12, (hs 13).trans h13, (hs 14).trans h14, (hs 15).trans h15, (hs 16).trans h16] at ha
  clear hs hf h0 h1 h6 h8 h9 h10 h11 h12 h13 h14 h15 h16
  subst ha
  conv => arg 2; whnf
  go_wp2_with fail
  exact ⟨rfl, ⟨rfl, rfl⟩, rfl, rfl, rfl, rfl, rfl, rfl, rfl, rfl, rfl, rfl, rfl, rfl⟩

theorem b24 (wr : World) (xa : Option Addr) (n c0 : Nat) (ya : Option Addr) (m c2 g ro : Nat) (vo : Option Addr) (no co i : Nat) (bx cc : Nat) (sz : Int) (vq : Option Addr) (nq cq : Nat) (sm : Int) (j : Nat) (hj : j < 1000000) (a : Act) (hf : Fr 196 a) (h0 : sl a 0 = .slice xa n c0) (h1 : sl a 1 = .slice ya m c2) (h6 : sl a 6 = .pointer (some ⟨g, 0, none⟩)) (h8 : sl a 8 = .slice (some ⟨ro, 0, none⟩) n n) (h9 : sl a 9 = .slice vo no co) (h10 : sl a 10 = .int .i64 (i : Int)) (h11 : sl a 11 = .pointer (some ⟨bx, 0, none⟩)) (h12 : sl a 12 = .int .i64 (cc : Int)) (h13 : sl a 13 = .int .i64 sz) (h14 : sl a 14 = .slice vq nq cq) (h15 : sl a 15 = .int .i64 sm) (h16 : sl a 16 = .int .i64 (j : Int)) :
    Code.wp Try.prog (cAt [1,1,1,1,1,1,1,0,1,2,2,1,0,2,1,0,1,3,1,1,1,1,0,1,2,2,1,1] KB) (Exit.then (fun a' w' => Fr 196 a' ∧ sl a' 0 = .slice xa n c0 ∧ sl a' 1 = .slice ya m c2 ∧ sl a' 6 = .pointer (some ⟨g, 0, none⟩) ∧ sl a' 8 = .slice (some ⟨ro, 0, none⟩) n n ∧ sl a' 9 = .slice vo no co ∧ sl a' 10 = .int .i64 (i : Int) ∧ sl a' 11 = .pointer (some ⟨bx, 0, none⟩) ∧ sl a' 12 = .int .i64 (cc : Int) ∧ sl a' 13 = .int .i64 sz ∧ sl a' 14 = .slice vq nq cq ∧ sl a' 15 = .int .i64 sm ∧ sl a' 16 = .int .i64 ((j : Int) + 1) ∧ wr = w') Nope) a wr := by
  obtain ⟨f, ha, hs⟩ := frKB hf
  rw [(hs 0).trans h0, (hs 1).trans h1, (hs 6).trans h6, (hs 8).trans h8, (hs 9).trans h9, (hs 10).trans h10, (hs 11).trans h11, (hs 12).trans h12, (hs 13).trans h13, (hs 14).trans h14, (hs 15).trans h15, (hs 16).trans h16] at ha
  clear hs hf h0 h1 h6 h8 h9 h10 h11 h12 h13 h14 h15 h16
  subst ha
  refine piece2 fun J0 K0 hJ0 hK0 => ?_
  conv => arg 2; whnf
  have hw : IntKind.i64.wrap ((j : Int) + 1) = (j : Int) + 1 := by rw [IntKind.wrap_i64]; omega
  go_wp2_with fail
  refine Met.intro (hJ0 _ _ ?_)
  exact ⟨⟨rfl, rfl⟩, rfl, rfl, rfl, rfl, rfl, rfl, rfl, rfl, rfl, rfl, rfl, rfl, rfl⟩

theorem b25 (wr : World) (xa : Option Addr) (n c0 : Nat) (ya : Option Addr) (m c2 g ro : Nat) (vo : Option Addr) (no co i : Nat) (bx cc : Nat) (sz : Int) (rq : Nat) (nq cq : Nat) (sm : Int) (j : Nat) (zs : Int) (HC : Hid (wr.cell? ⟨rq, j * 3 + 1, none⟩ = some (.int .i64 zs))) (hj : j < nq) (h0 : 0 ≤ sm + zs) (h1 : sm + zs ≤ 9223372036854775807) (a : Act) (hf : Fr 196 a) (h0 : sl a 0 = .slice xa n c0) (h1 : sl a 1 = .slice ya m c2) (h6 : sl a 6 = .pointer (some ⟨g, 0, none⟩)) (h8 : sl a 8 = .slice (some ⟨ro, 0, none⟩) n n) (h9 : sl a 9 = .slice vo no co) (h10 : sl a 10 = .int .i64 (i : Int)) (h11 : sl a 11 = .pointer (some ⟨bx, 0, none⟩)) (h12 : sl a 12 = .int .i64 (cc : Int)) (h13 : sl a 13 = .int .i64 sz) (h14 : sl a 14 = .slice (some ⟨rq, 0, none⟩) nq cq) (h15 : sl a 15 = .int .i64 sm) (h16 : sl a 16 = .int .i64 (j : Int)) :
    Code.wp Try.prog (cAt [1,1,1,1,1,1,1,0,1,2,2,1,0,2,1,0,1,3,1,1,1,1,0,1,2,2,1,0,2] KB) (Exit.then (fun a' w' => Fr 196 a' ∧ sl a' 0 = .slice xa n c0 ∧ sl a' 1 = .slice ya m c2 ∧ sl a' 6 = .pointer (some ⟨g, 0, none⟩) ∧ sl a' 8 = .slice (some ⟨ro, 0, none⟩) n n ∧ sl a' 9 = .slice vo no co ∧ sl a' 10 = .int .i64 (i : Int) ∧ sl a' 11 = .pointer (some ⟨bx, 0, none⟩) ∧ sl a' 12 = .int .i64 (cc : Int) ∧ sl a' 13 = .int .i64 sz ∧ sl a' 14 = .slice (some ⟨rq, 0, none⟩) nq cq ∧ sl a' 15 = .int .i64 (sm + zs) ∧ sl a' 16 = .int .i64 (j : Int) ∧ wr = w') Nope) a wr := by
  obtain ⟨f, ha, hs⟩ := frKB hf
  rw [(hs 0).trans h0, (hs 1).trans h1, (hs 6).trans h6, (hs 8).trans h8, (hs 9).trans h9, (hs 10).trans h10, (hs 11).trans h11, (hs 12).trans h12, (hs 13).trans h13, (hs 14).trans h14, (hs 15).trans h15, (hs 16).trans h16] at ha
  clear hs hf h0 h1 h6 h8 h9 h10 h11 h12 h13 h14 h15 h16
  subst ha
  refine piece2 fun J0 K0 hJ0 hK0 => ?_
  conv => arg 2; whnf
  have c1 := HC.out
  have hi2 : (j : Int) < (nq : Int) := by omega
  have hi0 : (0 : Int) ≤ (j : Int) := by omega
  have ew : IntKind.i64.wrap (sm + zs) = sm + zs := by rw [IntKind.wrap_i64]; omega
  go_wp2_with fail
  refine Met.intro (hJ0 _ _ ?_)
  exact ⟨⟨rfl, rfl⟩, rfl, rfl, rfl, rfl, rfl, rfl, rfl, rfl, rfl, rfl, rfl, rfl, rfl⟩

theorem b26 (wr : World) (xb xo n c0 : Nat) (ya : Option Addr) (m c2 g ro : Nat) (vo : Option Addr) (no co i bx cc : Nat) (sz : Int) (vq : Option Addr) (nq cq : Nat) (sm : Int) (x : Cs) (HX : Hid (wr.rangeAt xb (xo + cc * 4) x.cs)) (hcn : cc < n) (rm : Bool) (hrm : rm = (decide (0 ≤ sz) && (decide ((nq : Int) < x.I) && decide (sz ≤ x.S - sm)))) (m0 : 0 ≤ sm) (m1 : sm ≤ x.S) (m2 : x.S ≤ 9223372036854775807) (a : Act) (hf : Fr 196 a) (h0 : sl a 0 = .slice (some ⟨xb, xo, none⟩) n c0) (h1 : sl a 1 = .slice ya m c2) (h6 : sl a 6 = .pointer (some ⟨g, 0, none⟩)) (h8 : sl a 8 = .slice (some ⟨ro, 0, none⟩) n n) (h9 : sl a 9 = .slice vo no co) (h10 : sl a 10 = .int .i64 (i : Int)) (h11 : sl a 11 = .pointer (some ⟨bx, 0, none⟩)) (h12 : sl a 12 = .int .i64 (cc : Int)) (h13 : sl a 13 = .int .i64 sz) (h14 : sl a 14 = .slice vq nq cq) (h15 : sl a 15 = .int .i64 sm) :
    Code.wp Try.prog (cAt [1,1,1,1,1,1,1,0,1,2,2,1,0,2,1,0,1,3,1,1,1,1,1,0] KB) (Exit.then (fun a' w' => Fr 196 a' ∧ sl a' 0 = .slice (some ⟨xb, xo, none⟩) n c0 ∧ sl a' 1 = .slice ya m c2 ∧ sl a' 6 = .pointer (some ⟨g, 0, none⟩) ∧ sl a' 8 = .slice (some ⟨ro, 0, none⟩) n n ∧ sl a' 9 = .slice vo no co ∧ sl a' 10 = .int .i64 (i : Int) ∧ sl a' 11 = .pointer (some ⟨bx, 0, none⟩) ∧ sl a' 12 = .int .i64 (cc : Int) ∧ sl a' 13 = .int .i64 sz ∧ sl a' 14 = .slice vq nq cq ∧ sl a' 15 = .int .i64 sm ∧ sl a' 17 = .bool rm ∧ wr = w') Nope) a wr := by
  obtain ⟨f, ha, hs⟩ := frKB hf
  rw [(hs 0).trans h0, (hs 1).trans h1, (hs 6).trans h6, (hs 8).trans h8, (hs 9).trans h9, (hs 10).trans h10, (hs 11).trans h11, (hs 12).trans h12, (hs 13).trans h13, (hs 14).trans h14, (hs 15).trans h15] at ha
  clear hs hf h0 h1 h6 h8 h9 h10 h11 h12 h13 h14 h15
  subst ha
  refine piece2 fun J0 K0 hJ0 hK0 => ?_
  conv => arg 2; whnf
  have x2 : wr.cell? ⟨xb, xo + cc * 4 + 2, none⟩ = some (.int .i64 x.I) := HX.out 2 _ rfl
  have x3 : wr.cell? ⟨xb, xo + cc * 4 + 3, none⟩ = some (.int .i64 x.S) := HX.out 3 _ rfl
  have hi2 : (cc : Int) < (n : Int) := by omega
  have hi0 : (0 : Int) ≤ (cc : Int) := by omega
  have ew : IntKind.i64.wrap (x.S - sm) = x.S - sm := by rw [IntKind.wrap_i64]; omega
  by_cases e0 : 0 ≤ sz
  · by_cases e1 : (nq : Int) < x.I
    · by_cases e2 : sz ≤ x.S - sm
      · rw [decide_eq_true e0, decide_eq_true e1, decide_eq_true e2] at hrm
        replace hrm : rm = true := hrm
        subst hrm
        go_wp2_with fail
        refine Met.intro (hJ0 _ _ ?_)
        exact ⟨⟨rfl, rfl⟩, rfl, rfl, rfl, rfl, rfl, rfl, rfl, rfl, rfl, rfl, rfl, rfl, rfl⟩
      · rw [decide_eq_true e0, decide_eq_true e1, decide_eq_false e2] at hrm
        replace hrm : rm = false := hrm
        subst hrm
        go_wp2_with fail
        refine Met.intro (hJ0 _ _ ?_)
        exact ⟨⟨rfl, rfl⟩, rfl, rfl, rfl, rfl, rfl, rfl, rfl, rfl, rfl, rfl, rfl, rfl, rfl⟩
    · rw [decide_eq_true e0, decide_eq_false e1] at hrm
      replace hrm : rm = false := hrm
      subst hrm
      go_wp2_with fail
      refine Met.intro (hJ0 _ _ ?_)
      exact ⟨⟨rfl, rfl⟩, rfl, rfl, rfl, rfl, rfl, rfl, rfl, rfl, rfl, rfl, rfl, rfl, rfl⟩
  · rw [decide_eq_false e0] at hrm
    replace hrm : rm = false := hrm
    subst hrm
    go_wp2_with fail
    refine Met.intro (hJ0 _ _ ?_)
    exact ⟨⟨rfl, rfl⟩, rfl, rfl, rfl, rfl, rfl, rfl, rfl, rfl, rfl, rfl, rfl, rfl, rfl⟩

theorem b27 (w wr : World) (xa : Option Addr) (n c0 : Nat) (ya : Option Addr) (m c2 g ro : Nat) (vo : Option Addr) (no co i _bx : Nat) (s : Sh) (N : Int) (offs : List Of) (ys : List Po) (cc : Nat) (sz : Int) (rm : Bool) (HM : Hid (Bm w wr g s N ro offs vo no co ys)) (HN : Hid (N < 1000)) (hi : i < 1000) (a : Act) (hf : Fr 196 a) (h0 : sl a 0 = .slice xa n c0) (h1 : sl a 1 = .slice ya m c2) (h6 : sl a 6 = .pointer (some ⟨g, 0, none⟩)) (h8 : sl a 8 = .slice (some ⟨ro, 0, none⟩) n n) (h9 : sl a 9 = .slice vo no co) (h10 : sl a 10 = .int .i64 (i : Int)) (h12 : sl a 12 = .int .i64 (cc : Int)) (h13 : sl a 13 = .int .i64 sz) (h17 : sl a 17 = .bool rm) :
    Code.wp Try.prog (cAt [1,1,1,1,1,1,1,0,1,2,2,1,0,2,1,0,1,3,1,1,1,1,1,1,0] KB) (Exit.then (fun a' w' => ∃ s' ce, Fr 196 a' ∧ sl a' 0 = .slice xa n c0 ∧ sl a' 1 = .slice ya m c2 ∧ sl a' 6 = .pointer (some ⟨g, 0, none⟩) ∧ sl a' 8 = .slice (some ⟨ro, 0, none⟩) n n ∧ sl a' 9 = .slice vo no co ∧ sl a' 10 = .int .i64 (i : Int) ∧ sl a' 12 = .int .i64 (cc : Int) ∧ sl a' 13 = .int .i64 sz ∧ sl a' 17 = .bool rm ∧ sl a' 18 = .int .i64 ce ∧ Bm w w' g s' (N + 1) ro offs vo no co ys ∧ ce = offC s.abs (cc : Int) ⟨i, sz, []⟩ ∧ s'.T = s.T ∧ s'.n = s.n ∧ s'.abs = offL s.abs (cc : Int) ⟨i, sz, []⟩) Nope) a wr := by
  obtain ⟨f, ha, hs⟩ := frKB hf
  rw [(hs 0).trans h0, (hs 1).trans h1, (hs 6).trans h6, (hs 8).trans h8, (hs 9).trans h9, (hs 10).trans h10, (hs 12).trans h12, (hs 13).trans h13, (hs 17).trans h17] at ha
  clear hs hf h0 h1 h6 h8 h9 h10 h12 h13 h17
  subst ha
  refine piece2 fun J0 K0 hJ0 hK0 => ?_
  conv => arg 2; whnf
  have ew : IntKind.u64.wrap (i : Int) = (i : Int) := by rw [IntKind.wrap_u64]; omega
  go_wp2_with fail
  refine (lvOffer HM.out.lv (by have := HN.out; omega) (cc : Int) ⟨i, sz, none, 0, 0, []⟩ (by exact ⟨rfl, Rd.empty _ _, Byt.nil, (show 0 ≤ 1000000 by decide)⟩) (fun h => absurd rfl h)).mono ?_
  rintro e w1 ⟨rfl, s', hv, hT, hn, hab, hk, hf⟩
  have H1 : Hid (Bm w w1 g s' (N + 1) ro offs vo no co ys ∧ offC s.abs (cc : Int) (Pi.it ⟨i, sz, none, 0, 0, []⟩) = offC s.abs (cc : Int) ⟨i, sz, []⟩ ∧ s'.T = s.T ∧ s'.n = s.n ∧ s'.abs = offL s.abs (cc : Int) ⟨i, sz, []⟩) := ⟨HM.out.sh hv hk hf, rfl, hT, hn, hab⟩
  obtain ⟨ce, hce⟩ : ∃ z, offC s.abs (cc : Int) (Pi.it ⟨i, sz, none, 0, 0, []⟩) = z := ⟨_, rfl⟩
  rw [hce] at H1 ⊢
  clear hv hT hn hab hk hf hce
  go_wp2_with fail
  refine Met.intro (hJ0 _ _ ?_)
  exact ⟨s', ce, ⟨rfl, rfl⟩, rfl, rfl, rfl, rfl, rfl, rfl, rfl, rfl, rfl, rfl, H1.out⟩

theorem b28 (wr : World) (xa : Option Addr) (n c0 : Nat) (ya : Option Addr) (m c2 g ro : Nat) (vo : Option Addr) (no co i : Nat) (cc : Nat) (sz : Int) (rm : Bool) (ce : Int) (h : (sz < 0 ∧ ce = 2 ∧ rm = false) ∨ (0 ≤ sz ∧ ce = 0 ∧ rm = true) ∨ (0 ≤ sz ∧ ce = 110 ∧ rm = false)) (a : Act) (hf : Fr 196 a) (h0 : sl a 0 = .slice xa n c0) (h1 : sl a 1 = .slice ya m c2) (h6 : sl a 6 = .pointer (some ⟨g, 0, none⟩)) (h8 : sl a 8 = .slice (some ⟨ro, 0, none⟩) n n) (h9 : sl a 9 = .slice vo no co) (h10 : sl a 10 = .int .i64 (i : Int)) (h12 : sl a 12 = .int .i64 (cc : Int)) (h13 : sl a 13 = .int .i64 sz) (h17 : sl a 17 = .bool rm) (h18 : sl a 18 = .int .i64 ce) :
    Code.wp Try.prog (cAt [1,1,1,1,1,1,1,0,1,2,2,1,0,2,1,0,1,3,1,1,1,1,1,1,1,0,0] KB) (Exit.then (fun a' w' => Fr 196 a' ∧ sl a' 0 = .slice xa n c0 ∧ sl a' 1 = .slice ya m c2 ∧ sl a' 6 = .pointer (some ⟨g, 0, none⟩) ∧ sl a' 8 = .slice (some ⟨ro, 0, none⟩) n n ∧ sl a' 9 = .slice vo no co ∧ sl a' 10 = .int .i64 (i : Int) ∧ sl a' 12 = .int .i64 (cc : Int) ∧ sl a' 18 = .int .i64 ce ∧ sl a' 152 = .bool false ∧ wr = w') Nope) a wr := by
  obtain ⟨f, ha, hs⟩ := frKB hf
  rw [(hs 0).trans h0, (hs 1).trans h1, (hs 6).trans h6, (hs 8).trans h8, (hs 9).trans h9, (hs 10).trans h10, (hs 12).trans h12, (hs 13).trans h13, (hs 17).trans h17, (hs 18).trans h18] at ha
  clear hs hf h0 h1 h6 h8 h9 h10 h12 h13 h17 h18
  subst ha
  refine piece2 fun J0 K0 hJ0 hK0 => ?_
  conv => arg 2; whnf
  rcases h with ⟨hs, rfl, rfl⟩ | ⟨hs, rfl, rfl⟩ | ⟨hs, rfl, rfl⟩
  · have hs2 : ¬ (0 : Int) ≤ sz := by omega
    go_wp2_with fail
    refine Met.intro (hJ0 _ _ ?_)
    exact ⟨⟨rfl, rfl⟩, rfl, rfl, rfl, rfl, rfl, rfl, rfl, rfl, rfl, rfl⟩
  · have hs2 : ¬ sz < 0 := by omega
    go_wp2_with fail
    refine Met.intro (hJ0 _ _ ?_)
    exact ⟨⟨rfl, rfl⟩, rfl, rfl, rfl, rfl, rfl, rfl, rfl, rfl, rfl, rfl⟩
  · have hs2 : ¬ sz < 0 := by omega
    go_wp2_with fail
    refine Met.intro (hJ0 _ _ ?_)
    exact ⟨⟨rfl, rfl⟩, rfl, rfl, rfl, rfl, rfl, rfl, rfl, rfl, rfl, rfl⟩

theorem b30 (wr : World) (xa : Option Addr) (n c0 : Nat) (ya : Option Addr) (m c2 g ro : Nat) (vo : Option Addr) (no co i : Nat) (cc : Nat) (ce : Int) (a : Act) (hf : Fr 196 a) (h0 : sl a 0 = .slice xa n c0) (h1 : sl a 1 = .slice ya m c2) (h6 : sl a 6 = .pointer (some ⟨g, 0, none⟩)) (h8 : sl a 8 = .slice (some ⟨ro, 0, none⟩) n n) (h9 : sl a 9 = .slice vo no co) (h10 : sl a 10 = .int .i64 (i : Int)) (h12 : sl a 12 = .int .i64 (cc : Int)) (h18 : sl a 18 = .int .i64 ce) :
    Code.wp Try.prog (cAt [1,1,1,1,1,1,1,0,1,2,2,1,0,2,1,0,1,3,1,1,1,1,1,1,1,1,0,0] KB) (Exit.then (fun a' w' => Fr 196 a' ∧ sl a' 0 = .slice xa n c0 ∧ sl a' 1 = .slice ya m c2 ∧ sl a' 6 = .pointer (some ⟨g, 0, none⟩) ∧ sl a' 8 = .slice (some ⟨ro, 0, none⟩) n n ∧ sl a' 9 = .slice vo no co ∧ sl a' 10 = .int .i64 (i : Int) ∧ sl a' 12 = .int .i64 (cc : Int) ∧ sl a' 18 = .int .i64 ce ∧ sl a' 154 = .bool (decide (ce = 0)) ∧ wr = w') Nope) a wr := by
  obtain ⟨f, ha, hs⟩ := frKB hf
  rw [(hs 0).trans h0, (hs 1).trans h1, (hs 6).trans h6, (hs 8).trans h8, (hs 9).trans h9, (hs 10).trans h10, (hs 12).trans h12, (hs 18).trans h18] at ha
  clear hs hf h0 h1 h6 h8 h9 h10 h12 h18
  subst ha
  refine piece2 fun J0 K0 hJ0 hK0 => ?_
  conv => arg 2; whnf
  by_cases e : ce = 0
  · subst e
    go_wp2_with fail
    refine Met.intro (hJ0 _ _ ?_)
    exact ⟨⟨rfl, rfl⟩, rfl, rfl, rfl, rfl, rfl, rfl, rfl, rfl, rfl, rfl⟩
  · have e2 : (ce == 0) = false := by simpa using e
    go_wp2_with fail
    refine Met.intro (hJ0 _ _ ?_)
    exact ⟨⟨rfl, rfl⟩, rfl, rfl, rfl, rfl, rfl, rfl, rfl, rfl, by rw [decide_eq_false e]; rfl, rfl⟩

theorem b31 (w wr : World) (xa : Option Addr) (n c0 : Nat) (ya : Option Addr) (m c2 g ro : Nat) (vo : Option Addr) (no co i _bx : Nat) (s : Sh) (N : Int) (offs : List Of) (ys : List Po) (cc : Nat) (fo : Of) (HM : Hid (Bm w wr g s N ro offs vo no co ys)) (HF : Hid (offs[cc]? = some fo)) (hfn : fo.n ≤ 1000000) (hi : i < 1000) (hcn : cc < n) (a : Act) (hf : Fr 196 a) (h0 : sl a 0 = .slice xa n c0) (h1 : sl a 1 = .slice ya m c2) (h6 : sl a 6 = .pointer (some ⟨g, 0, none⟩)) (h8 : sl a 8 = .slice (some ⟨ro, 0, none⟩) n n) (h9 : sl a 9 = .slice vo no co) (h10 : sl a 10 = .int .i64 (i : Int)) (h12 : sl a 12 = .int .i64 (cc : Int)) :
    Code.wp Try.prog (cAt [1,1,1,1,1,1,1,0,1,2,2,1,0,2,1,0,1,3,1,1,1,1,1,1,1,1,0,1,3] KB) (Exit.then (fun a' w' => ∃ offs', Fr 196 a' ∧ sl a' 0 = .slice xa n c0 ∧ sl a' 1 = .slice ya m c2 ∧ sl a' 6 = .pointer (some ⟨g, 0, none⟩) ∧ sl a' 8 = .slice (some ⟨ro, 0, none⟩) n n ∧ sl a' 9 = .slice vo no co ∧ sl a' 10 = .int .i64 (i : Int) ∧ Bm w w' g s N ro offs' vo no co ys ∧ ∃ f' : Of, offs' = offs.set cc f' ∧ f'.xs = fo.xs ++ [(i : Int)] ∧ f'.n = fo.n + 1) Nope) a wr := by
  obtain ⟨f, ha, hs⟩ := frKB hf
  rw [(hs 0).trans h0, (hs 1).trans h1, (hs 6).trans h6, (hs 8).trans h8, (hs 9).trans h9, (hs 10).trans h10, (hs 12).trans h12] at ha
  clear hs hf h0 h1 h6 h8 h9 h10 h12
  subst ha
  refine piece2 fun J0 K0 hJ0 hK0 => ?_
  conv => arg 2; whnf
  have ew : IntKind.u64.wrap (i : Int) = (i : Int) := by rw [IntKind.wrap_u64]; omega
  obtain ⟨r3, c3, w3, hrun, hc3, hf3, hoff, hkk⟩ := HM.out.offs.push HF.out (i : Int) hfn HM.out.lv.below.size
  have k0 : wr.cell? ⟨ro, cc, none⟩ = some (.slice fo.a fo.n fo.c) := by
    have := frow_at Of.len HM.out.offs.row HF.out 0 _ rfl
    rw [Nat.mul_one, Nat.add_zero] at this
    exact this
  have hi2 : (cc : Int) < (n : Int) := by omega
  have hi0 : (0 : Int) ≤ (cc : Int) := by omega
  obtain ⟨cv, hcv⟩ := Option.isSome_iff_exists.1 hc3
  have H1 : Hid (Bm w (w3.setCell ⟨ro, cc, none⟩ (.slice (some ⟨r3, 0, none⟩) (fo.n + 1) c3)) g s N ro (offs.set cc ⟨some ⟨r3, 0, none⟩, fo.n + 1, c3, fo.xs ++ [(i : Int)]⟩) vo no co ys) := HM.out.push HF.out hoff hkk
  have HRUN := Lib.hid hrun
  clear hrun hc3 hoff hkk
  go_wp2_with (at_builtin; first | (refine Lib.wpList_append_run _ rfl (.tmp 160) (.tmp 163) _ _ rfl _ _ rfl rfl _ _ HRUN.out ?_) | fail)
  refine Met.intro (hJ0 _ _ ?_)
  exact ⟨_, ⟨rfl, rfl⟩, rfl, rfl, rfl, rfl, rfl, rfl, H1.out, _, rfl, rfl, rfl⟩

theorem b31x (wr : World) (xa : Option Addr) (n c0 : Nat) (ya : Option Addr) (m c2 g ro : Nat) (vo : Option Addr) (no co i : Nat) (a : Act) (hf : Fr 196 a) (h0 : sl a 0 = .slice xa n c0) (h1 : sl a 1 = .slice ya m c2) (h6 : sl a 6 = .pointer (some ⟨g, 0, none⟩)) (h8 : sl a 8 = .slice (some ⟨ro, 0, none⟩) n n) (h9 : sl a 9 = .slice vo no co) (h10 : sl a 10 = .int .i64 (i : Int)) :
    Code.wp Try.prog (cAt [1,1,1,1,1,1,1,0,1,2,2,1,0,2,1,0,1,3,1,1,1,1,1,1,1,1,1] KB) (Outs 3 (fun a' w' => Fr 196 a' ∧ sl a' 0 = .slice xa n c0 ∧ sl a' 1 = .slice ya m c2 ∧ sl a' 6 = .pointer (some ⟨g, 0, none⟩) ∧ sl a' 8 = .slice (some ⟨ro, 0, none⟩) n n ∧ sl a' 9 = .slice vo no co ∧ sl a' 10 = .int .i64 (i : Int) ∧ wr = w')) a wr := by
  obtain ⟨f, ha, hs⟩ := frKB hf
  rw [(hs 0).trans h0, (hs 1).trans h1, (hs 6).trans h6, (hs 8).trans h8, (hs 9).trans h9, (hs 10).trans h10] at ha
  clear hs hf h0 h1 h6 h8 h9 h10
  subst ha
  conv => arg 2; whnf
  go_wp2_with fail
  exact ⟨rfl, ⟨rfl, rfl⟩, rfl, rfl, rfl, rfl, rfl, rfl, rfl⟩

theorem b32 (w wr : World) (xa : Option Addr) (n c0 : Nat) (ya : Option Addr) (m c2 g ro : Nat) (vo : Option Addr) (no co i bx : Nat) (s : Sh) (N : Int) (offs : List Of) (ys : List Po) (y : Ac) (HB : Hid (wr.heap[bx]? = some (.cells #[.int .i64 y.d, .int .i64 y.c, .int .u64 y.x.no, .int .i64 y.x.sz, .slice y.x.a y.x.n y.x.c, .int .u64 y.t] 42 (0, 0)))) (HM : Hid (Bm w wr g s N ro offs vo no co ys)) (HN : Hid (N < 1000)) (tt : Int) (htt : y.t.tmod 4294967296 = tt) (t0 : 0 ≤ tt) (t1 : tt < 4294967296) (hnn : no + tot s.abs ≤ 1000000) (a : Act) (hf : Fr 196 a) (h0 : sl a 0 = .slice xa n c0) (h1 : sl a 1 = .slice ya m c2) (h6 : sl a 6 = .pointer (some ⟨g, 0, none⟩)) (h8 : sl a 8 = .slice (some ⟨ro, 0, none⟩) n n) (h9 : sl a 9 = .slice vo no co) (h10 : sl a 10 = .int .i64 (i : Int)) (h11 : sl a 11 = .pointer (some ⟨bx, 0, none⟩)) :
    Code.wp Try.prog (cAt [1,1,1,1,1,1,1,0,1,2,2,1,0,2,1,1,0] KB) (Exit.then (fun a' w' => ∃ s' v2 n2 c3 zs, Fr 196 a' ∧ sl a' 0 = .slice xa n c0 ∧ sl a' 1 = .slice ya m c2 ∧ sl a' 6 = .pointer (some ⟨g, 0, none⟩) ∧ sl a' 8 = .slice (some ⟨ro, 0, none⟩) n n ∧ sl a' 9 = .slice v2 n2 c3 ∧ sl a' 10 = .int .i64 (i : Int) ∧ Bm w w' g s' N ro offs v2 n2 c3 (ys ++ zs) ∧ zs.map Po.ot = (rel (max tt s.T) s.T s.abs).2 ∧ s'.T = max tt s.T ∧ s'.n = s.n ∧ s'.abs = (rel (max tt s.T) s.T s.abs).1) Nope) a wr := by
  obtain ⟨f, ha, hs⟩ := frKB hf
  rw [(hs 0).trans h0, (hs 1).trans h1, (hs 6).trans h6, (hs 8).trans h8, (hs 9).trans h9, (hs 10).trans h10, (hs 11).trans h11] at ha
  clear hs hf h0 h1 h6 h8 h9 h10 h11
  subst ha
  refine piece2 fun J0 K0 hJ0 hK0 => ?_
  conv => arg 2; whnf
  have c5' : wr.cell? ⟨bx, 5, none⟩ = some (.int .u64 y.t) := by rw [cell_of_row wr bx 5 _ _ (0, 0) HB.out]; rfl
  have ew : IntKind.u64.wrap tt = tt := by rw [IntKind.wrap_u64]; omega
  have HTT := Lib.hid (And.intro t0 t1)
  go_wp2_with fail
  refine (lvRelease HM.out.lv (by have := HN.out; omega) tt (by have := HTT.out; omega)).mono ?_
  rintro e w1 ⟨v1, n1, c1, zs, s', rfl, ho, hot, hv, hT, hn, hab, hk, hf⟩
  have hM1 := HM.out.sh hv hk (fun k hk => .inl (hf k hk))
  have hl1 := ho.len
  have hle := relB_len (max tt s.T) s.T s.abs
  rw [← hot, List.length_map] at hle
  have hl0 := hM1.ops.len
  have hl00 := HM.out.ops.len
  obtain ⟨v2, c3, w2, hrun, hops, hkk, _⟩ := hM1.ops.cat ho HM.out.lv.below.size hv.below.size (fun o ho' p hp k hk1 hk2 => by
    have h1 := ((HM.out.ops.data o ho').1.blk_ge k hk1).2
    have h2 := ((ho.data p hp).1.blk_ge k hk2).1
    omega) (by omega)
  have H1 : Hid (Bm w w2 g s' N ro offs v2 (no + n1) c3 (ys ++ zs) ∧ zs.map Po.ot = (rel (max tt s.T) s.T s.abs).2 ∧ s'.T = max tt s.T ∧ s'.n = s.n ∧ s'.abs = (rel (max tt s.T) s.T s.abs).1) :=
    ⟨hM1.cat hops hkk (fun p hp k hk1 e => by
      have h1 := ((ho.data p hp).1.blk_ge k hk1).1
      have h2 := (HM.out.lv.sw.foot_lt (hf k e)).2
      omega), hot, hT, hn, hab⟩
  have HRUN := Lib.hid hrun
  clear ho hot hv hT hn hab hk hf hM1 hl1 hle hl0 hl00 hrun hops hkk
  go_wp2_with (at_builtin; first | (refine Lib.wpList_append_run _ rfl (.tmp 166) (.tmp 171) _ _ rfl _ _ rfl rfl _ _ HRUN.out ?_) | fail)
  refine Met.intro (hJ0 _ _ ?_)
  exact ⟨s', v2, _, c3, zs, ⟨rfl, rfl⟩, rfl, rfl, rfl, rfl, rfl, rfl, H1.out⟩

theorem b33 (w wr : World) (xa : Option Addr) (n c0 : Nat) (ya : Option Addr) (m c2 g ro : Nat) (vo : Option Addr) (no co i : Nat) (s : Sh) (N : Int) (offs : List Of) (ys : List Po) (HM : Hid (Bm w wr g s N ro offs vo no co ys)) (a : Act) (hf : Fr 196 a) (h0 : sl a 0 = .slice xa n c0) (h1 : sl a 1 = .slice ya m c2) (h6 : sl a 6 = .pointer (some ⟨g, 0, none⟩)) (h8 : sl a 8 = .slice (some ⟨ro, 0, none⟩) n n) (h9 : sl a 9 = .slice vo no co) (h10 : sl a 10 = .int .i64 (i : Int)) :
    Code.wp Try.prog (cAt [1,1,1,1,1,1,1,0,1,2,2,1,0,2,1,1,1,0] KB) (Exit.then (fun a' w' => Fr 196 a' ∧ sl a' 0 = .slice xa n c0 ∧ sl a' 1 = .slice ya m c2 ∧ sl a' 6 = .pointer (some ⟨g, 0, none⟩) ∧ sl a' 8 = .slice (some ⟨ro, 0, none⟩) n n ∧ sl a' 9 = .slice vo no co ∧ sl a' 10 = .int .i64 (i : Int) ∧ sl a' 19 = .int .u64 (nx s.T s.abs).t ∧ sl a' 20 = .bool (nx s.T s.abs).k ∧ Below wr.heap.size wr w') Nope) a wr := by
  obtain ⟨f, ha, hs⟩ := frKB hf
  rw [(hs 0).trans h0, (hs 1).trans h1, (hs 6).trans h6, (hs 8).trans h8, (hs 9).trans h9, (hs 10).trans h10] at ha
  clear hs hf h0 h1 h6 h8 h9 h10
  subst ha
  refine piece2 fun J0 K0 hJ0 hK0 => ?_
  conv => arg 2; whnf
  go_wp2_with fail
  refine (sNext_any w.heap.size g s wr HM.out.lv.sw HM.out.lv.n1).mono ?_
  rintro e w1 ⟨rfl, hb⟩
  have H1 := Lib.hid hb
  obtain ⟨z, hz⟩ : ∃ z, nx s.T s.abs = z := ⟨_, rfl⟩
  rw [hz] at hJ0 ⊢
  clear hb
  go_wp2_with fail
  refine Met.intro (hJ0 _ _ ?_)
  exact ⟨⟨rfl, rfl⟩, rfl, rfl, rfl, rfl, rfl, rfl, rfl, rfl, H1.out⟩

theorem b34 (w wr : World) (xa : Option Addr) (n c0 : Nat) (ya : Option Addr) (m c2 g ro : Nat) (vo : Option Addr) (no co i : Nat) (s : Sh) (N : Int) (offs : List Of) (ys : List Po) (zt : Int) (zk : Bool) (HM : Hid (Bm w wr g s N ro offs vo no co ys)) (hz : zk = true → s.T < zt) (a : Act) (hf : Fr 196 a) (h0 : sl a 0 = .slice xa n c0) (h1 : sl a 1 = .slice ya m c2) (h6 : sl a 6 = .pointer (some ⟨g, 0, none⟩)) (h8 : sl a 8 = .slice (some ⟨ro, 0, none⟩) n n) (h9 : sl a 9 = .slice vo no co) (h10 : sl a 10 = .int .i64 (i : Int)) (h19 : sl a 19 = .int .u64 zt) (h20 : sl a 20 = .bool zk) :
    Code.wp Try.prog (cAt [1,1,1,1,1,1,1,0,1,2,2,1,0,2,1,1,1,1,0] KB) (Exit.then (fun a' w' => Fr 196 a' ∧ sl a' 0 = .slice xa n c0 ∧ sl a' 1 = .slice ya m c2 ∧ sl a' 6 = .pointer (some ⟨g, 0, none⟩) ∧ sl a' 8 = .slice (some ⟨ro, 0, none⟩) n n ∧ sl a' 9 = .slice vo no co ∧ sl a' 10 = .int .i64 (i : Int) ∧ sl a' 184 = .bool false ∧ wr = w') Nope) a wr := by
  obtain ⟨f, ha, hs⟩ := frKB hf
  rw [(hs 0).trans h0, (hs 1).trans h1, (hs 6).trans h6, (hs 8).trans h8, (hs 9).trans h9, (hs 10).trans h10, (hs 19).trans h19, (hs 20).trans h20] at ha
  clear hs hf h0 h1 h6 h8 h9 h10 h19 h20
  subst ha
  refine piece2 fun J0 K0 hJ0 hK0 => ?_
  conv => arg 2; whnf
  cases zk
  · clear hz
    go_wp2_with fail
    refine Met.intro (hJ0 _ _ ?_)
    exact ⟨⟨rfl, rfl⟩, rfl, rfl, rfl, rfl, rfl, rfl, rfl, rfl⟩
  · have hlt : decide (zt ≤ s.T) = false := decide_eq_false (by have := hz rfl; omega)
    clear hz
    go_wp2_with fail
    refine (sTick_any w.heap.size g s wr HM.out.lv.sw).mono ?_
    rintro e w1 ⟨rfl, hw⟩
    subst hw
    go_wp2_with fail
    refine Met.intro (hJ0 _ _ ?_)
    exact ⟨⟨rfl, rfl⟩, rfl, rfl, rfl, rfl, rfl, rfl, rfl, rfl⟩

theorem b36 (w wr : World) (xb xo n c0 ro : Nat) (vo : Option Addr) (no co : Nat) (l : List Cs) (g : Nat) (s : Sh) (N : Int) (offs : List Of) (ys : List Po) (HM : Hid (Bm w wr g s N ro offs vo no co ys)) (hn : l.length = n) (hl : ∀ (i : Nat) (x : Cs), l[i]? = some x → wr.rangeAt xb (xo + i * 4) x.cs) (hbd : BdO l (ys.map Po.ot)) (hod : OdO offs (ys.map Po.ot)) (hol : offs.length = n) (hn8 : n ≤ 8) (hno : no ≤ 100000) (a : Act) (hf : Fr 196 a) (h0 : sl a 0 = .slice (some ⟨xb, xo, none⟩) n c0) (h8 : sl a 8 = .slice (some ⟨ro, 0, none⟩) n n) (h9 : sl a 9 = .slice vo no co) :
    Code.wp Try.prog (cAt [1,1,1,1,1,1,1,1] KB) (bodyPost Try.prog Try.f4 (Yes w)) a wr := by
  have HL := Lib.hid hl
  have HBD := Lib.hid hbd
  have HOD := Lib.hid hod
  clear hl hbd hod
  obtain ⟨f, ha, hs⟩ := frKB hf
  rw [(hs 0).trans h0, (hs 8).trans h8, (hs 9).trans h9] at ha
  clear hs hf h0 h8 h9
  subst ha
  conv => arg 2; whnf
  go_wp2_with fail
  refine (bounded_any xb xo n c0 l hn vo no co ys w.heap.size wr HL.out HM.out.ops HBD.out hno).mono ?_
  rintro e w1 ⟨rfl, hb1⟩
  have H1 := Lib.hid hb1
  clear hb1
  go_wp2_with fail
  refine (ordered_any w.heap.size ro offs n vo no co ys w.heap.size w1 (HM.out.offs.below H1.out) hol hn8 (HM.out.ops.below H1.out) HOD.out hno).mono ?_
  rintro e w2 ⟨rfl, hb2⟩
  have H2 : Hid (Below w.heap.size w w2) := (HM.out.lv.below.trans (H1.out.mono HM.out.lv.below.size)).trans (hb2.mono (Nat.le_trans HM.out.lv.below.size H1.out.size))
  clear hb2
  go_wp2_with fail
  refine (works12_any w2).mono ?_
  rintro e w3 ⟨rfl, hb3⟩
  have H3 : Hid (Below w.heap.size w w3) := H2.out.trans (hb3.mono H2.out.size)
  clear hb3
  go_wp2_with fail
  first | exact ⟨rfl, H3.out⟩ | (go_ret; exact ⟨rfl, H3.out⟩)
end Go.Proofs.Ytpigpeehhadkjaa

namespace Go.Proofs.Ytpigpeehhadkjaa
open Go.RowKit Bkt
set_option maxRecDepth 100000
set_option maxHeartbeats 4000000

/-- The law's state ahead of an act. -/
structure Bs (w W : World) (l : List Cs) (n g ro : Nat) (i : Nat) (s : Sh) (offs : List Of) (vo : Option Addr) (no co : Nat) (ys : List Po) (off : Nat → List Int) : Prop where
  bm : Bm w W g s (i : Int) ro offs vo no co ys
  bd : Bd l off (i : Int) s.T s.abs (ys.map Po.ot)
  ol : offs.length = n
  ox : ∀ (c : Nat) (f : Of), offs[c]? = some f → f.xs = off c ∧ f.n ≤ i
  sn : s.n = n
  sT : s.T < 4294967296
def BsS (w : World) (l : List Cs) (xa : Option Addr) (n c0 : Nat) (ya : Option Addr) (m c2 g ro : Nat) (i j : Nat) (a' : Act) (w' : World) : Prop :=
  ∃ s offs vo no co ys off, Bs w w' l n g ro i s offs vo no co ys off ∧ Fr 196 a' ∧ sl a' 0 = .slice xa n c0 ∧ sl a' 1 = .slice ya m c2 ∧ sl a' 6 = .pointer (some ⟨g, 0, none⟩) ∧ sl a' 8 = .slice (some ⟨ro, 0, none⟩) n n ∧ sl a' 9 = .slice vo no co ∧ sl a' 10 = .int .i64 (j : Int)

/-- The sum of the sizes. -/
theorem bd_sum' (wr : World) (xa : Option Addr) (n c0 : Nat) (ya : Option Addr) (m c2 g ro : Nat) (vo : Option Addr) (no co i bx cc : Nat) (sz : Int) (vq : Option Addr) (nq cq : Nat) (B : Nat) (qs : List Pi) (hq : Cps wr B vq nq cq qs) (hpos : ∀ x ∈ qs.map Pi.it, 0 ≤ x.sz) (hsum : szs (qs.map Pi.it) ≤ 9223372036854775807) (hnq : nq ≤ 65536) (a : Act) (hf : Fr 196 a) (h0 : sl a 0 = .slice xa n c0) (h1 : sl a 1 = .slice ya m c2) (h6 : sl a 6 = .pointer (some ⟨g, 0, none⟩)) (h8 : sl a 8 = .slice (some ⟨ro, 0, none⟩) n n) (h9 : sl a 9 = .slice vo no co) (h10 : sl a 10 = .int .i64 (i : Int)) (h11 : sl a 11 = .pointer (some ⟨bx, 0, none⟩)) (h12 : sl a 12 = .int .i64 (cc : Int)) (h13 : sl a 13 = .int .i64 sz) (h14 : sl a 14 = .slice vq nq cq) (h15 : sl a 15 = .int .i64 0) :
    Code.wp Try.prog (cAt [1,1,1,1,1,1,1,0,1,2,2,1,0,2,1,0,1,3,1,1,1,1,0] KB) (Exit.then (fun a' w' => Fr 196 a' ∧ sl a' 0 = .slice xa n c0 ∧ sl a' 1 = .slice ya m c2 ∧ sl a' 6 = .pointer (some ⟨g, 0, none⟩) ∧ sl a' 8 = .slice (some ⟨ro, 0, none⟩) n n ∧ sl a' 9 = .slice vo no co ∧ sl a' 10 = .int .i64 (i : Int) ∧ sl a' 11 = .pointer (some ⟨bx, 0, none⟩) ∧ sl a' 12 = .int .i64 (cc : Int) ∧ sl a' 13 = .int .i64 sz ∧ sl a' 14 = .slice vq nq cq ∧ sl a' 15 = .int .i64 (szs (qs.map Pi.it)) ∧ wr = w') Nope) a wr := by
  refine tkBq (b22 wr xa n c0 ya m c2 g ro vo no co i bx cc sz vq nq cq a hf h0 h1 h6 h8 h9 h10 h11 h12 h13 h14 h15) ?_
  rintro a1 _ ⟨hf, h0, h1, h6, h8, h9, h10, h11, h12, h13, h14, h15, h16, rfl⟩
  refine wp_blockR (x := cAt [1,1,1,1,1,1,1,0,1,2,2,1,0,2,1,0,1,3,1,1,1,1,0,1,2] KB) (id := 4) (by kernel_rfl) ?_
  refine wp_loopR (x := cAt [1,1,1,1,1,1,1,0,1,2,2,1,0,2,1,0,1,3,1,1,1,1,0,1,2,2] KB) (by kernel_rfl) (fun a' w' => ∃ j : Nat, j ≤ nq ∧ wr = w' ∧ Fr 196 a' ∧ sl a' 0 = .slice xa n c0 ∧ sl a' 1 = .slice ya m c2 ∧ sl a' 6 = .pointer (some ⟨g, 0, none⟩) ∧ sl a' 8 = .slice (some ⟨ro, 0, none⟩) n n ∧ sl a' 9 = .slice vo no co ∧ sl a' 10 = .int .i64 (i : Int) ∧ sl a' 11 = .pointer (some ⟨bx, 0, none⟩) ∧ sl a' 12 = .int .i64 (cc : Int) ∧ sl a' 13 = .int .i64 sz ∧ sl a' 14 = .slice vq nq cq ∧ sl a' 15 = .int .i64 (szs ((qs.map Pi.it).take j)) ∧ sl a' 16 = .int .i64 (j : Int)) (fun a' _ => nq - (intOf (sl a' 16)).toNat) ⟨0, Nat.zero_le _, rfl, hf, h0, h1, h6, h8, h9, h10, h11, h12, h13, h14, h15, h16⟩ ?_
  rintro a2 _ ⟨j, hj, rfl, hf, h0, h1, h6, h8, h9, h10, h11, h12, h13, h14, h15, h16⟩
  by_cases hlt : j < nq
  case neg =>
    refine wp_endX (b23x wr xa n c0 ya m c2 g ro vo no co i bx cc sz vq nq cq _ j hlt a2 hf h0 h1 h6 h8 h9 h10 h11 h12 h13 h14 h15 h16) ?_
    rintro a3 _ ⟨hf, h0, h1, h6, h8, h9, h10, h11, h12, h13, h14, h15, rfl⟩
    refine thru ⟨hf, h0, h1, h6, h8, h9, h10, h11, h12, h13, h14, ?_, rfl⟩
    rw [h15, List.take_of_length_le (by rw [List.length_map, hq.len]; omega)]
  refine tkBq (b23 wr xa n c0 ya m c2 g ro vo no co i bx cc sz vq nq cq _ j hlt a2 hf h0 h1 h6 h8 h9 h10 h11 h12 h13 h14 h15 h16) ?_
  rintro a3 _ ⟨hf, h0, h1, h6, h8, h9, h10, h11, h12, h13, h14, h15, h16', rfl⟩
  have hl := hq.len
  obtain ⟨z, hz⟩ : ∃ z, qs[j]? = some z := ⟨_, List.getElem?_eq_getElem (by omega)⟩
  obtain ⟨rq, hvq, hrg, _⟩ := OwnG.nth Pi.len hq.row (by decide) hz
  have hzi : (qs.map Pi.it)[j]? = some z.it := by rw [List.getElem?_map, hz]; rfl
  have hst := szs_take (qs.map Pi.it) j z.it hzi
  have hle := szs_le hpos (j + 1)
  have hp2 : 0 ≤ szs ((qs.map Pi.it).take (j + 1)) := szs_pos (fun x hx => hpos x (List.mem_of_mem_take hx))
  rw [hvq] at h14
  refine tkBq (R := fun a' w' => wr = w' ∧ Fr 196 a' ∧ sl a' 0 = .slice xa n c0 ∧ sl a' 1 = .slice ya m c2 ∧ sl a' 6 = .pointer (some ⟨g, 0, none⟩) ∧ sl a' 8 = .slice (some ⟨ro, 0, none⟩) n n ∧ sl a' 9 = .slice vo no co ∧ sl a' 10 = .int .i64 (i : Int) ∧ sl a' 11 = .pointer (some ⟨bx, 0, none⟩) ∧ sl a' 12 = .int .i64 (cc : Int) ∧ sl a' 13 = .int .i64 sz ∧ sl a' 14 = .slice vq nq cq ∧ sl a' 15 = .int .i64 (szs ((qs.map Pi.it).take (j + 1))) ∧ sl a' 16 = .int .i64 (j : Int)) ?_ ?_
  · refine wp_blockR (x := cAt [1,1,1,1,1,1,1,0,1,2,2,1,0,2,1,0,1,3,1,1,1,1,0,1,2,2,1,0,2] KB) (id := 5) (by kernel_rfl) ?_
    refine wp_endR (b25 wr xa n c0 ya m c2 g ro vo no co i bx cc sz rq nq cq _ j z.sz (hrg 1 _ rfl) hlt (by rw [hst] at hp2; exact hp2) (by rw [hst] at hle; exact Int.le_trans hle hsum) a3 hf h0 h1 h6 h8 h9 h10 h11 h12 h13 h14 h15 h16') ?_
    rintro a4 _ ⟨hf, h0, h1, h6, h8, h9, h10, h11, h12, h13, h14, h15, h16, rfl⟩
    rw [← hvq] at h14
    exact ⟨rfl, hf, h0, h1, h6, h8, h9, h10, h11, h12, h13, h14, by rw [h15, hst]; rfl, h16⟩
  rintro a4 _ ⟨rfl, hf, h0, h1, h6, h8, h9, h10, h11, h12, h13, h14, h15, h16'⟩
  refine wp_endR (b24 wr xa n c0 ya m c2 g ro vo no co i bx cc sz vq nq cq _ j (by omega) a4 hf h0 h1 h6 h8 h9 h10 h11 h12 h13 h14 h15 h16') ?_
  rintro a5 _ ⟨hf, h0, h1, h6, h8, h9, h10, h11, h12, h13, h14, h15, h16'', rfl⟩
  refine ⟨⟨j + 1, hlt, rfl, hf, h0, h1, h6, h8, h9, h10, h11, h12, h13, h14, h15, by rw [h16'']; rfl⟩, ?_⟩
  rw [h16, h16'']
  simp only [intOf]
  omega

/-- An offer. -/
theorem bd_offer (w wr : World) (l : List Cs) (xa : Option Addr) (n c0 : Nat) (ya : Option Addr) (m c2 g ro i bx : Nat) (s : Sh) (offs : List Of) (vo : Option Addr) (no co : Nat) (ys : List Po) (off : Nat → List Int) (HS : Bs w wr l n g ro i s offs vo no co ys off) (hl : Rcs w xa n l) (hn1 : 1 ≤ n) (hn8 : n ≤ 8) (hi : i < 60) (y : Ac) (hbx : wr.heap[bx]? = some (.cells #[.int .i64 y.d, .int .i64 y.c, .int .u64 y.x.no, .int .i64 y.x.sz, .slice y.x.a y.x.n y.x.c, .int .u64 y.t] 42 (0, 0))) (a : Act) (hf : Fr 196 a) (h0 : sl a 0 = .slice xa n c0) (h1 : sl a 1 = .slice ya m c2) (h6 : sl a 6 = .pointer (some ⟨g, 0, none⟩)) (h8 : sl a 8 = .slice (some ⟨ro, 0, none⟩) n n) (h9 : sl a 9 = .slice vo no co) (h10 : sl a 10 = .int .i64 (i : Int)) (h11 : sl a 11 = .pointer (some ⟨bx, 0, none⟩)) :
    Code.wp Try.prog (cAt [1,1,1,1,1,1,1,0,1,2,2,1,0,2,1,0,1,3] KB) (Outs 3 (fun a' w' => BsS w l xa n c0 ya m c2 g ro (i + 1) i a' w')) a wr := by
  obtain ⟨cc, hcc⟩ : ∃ cc : Nat, y.c % (n : Int) = (cc : Int) := ⟨(y.c % (n : Int)).toNat, by have := Int.emod_nonneg y.c (show (n : Int) ≠ 0 by omega); omega⟩
  have hcn : cc < n := by have := Int.emod_lt_of_pos y.c (show (0 : Int) < (n : Int) by omega); omega
  obtain ⟨sz, hsz⟩ : ∃ sz, y.x.sz.tmod 2049 = sz := ⟨_, rfl⟩
  have hb := tmod_pos y.x.sz 2049 (by decide)
  rw [hsz] at hb
  have hll : s.abs.length = n := by rw [HS.bm.lv.len, HS.sn]
  obtain ⟨ll, hL, hlw⟩ := HS.bm.lv.sw.lane (i := cc) (by rw [HS.sn]; exact hcn)
  have hget : s.abs.getD cc az = ll.abs := abs_get hL
  obtain ⟨cl, hcl⟩ : ∃ cl, l[cc]? = some cl := ⟨_, List.getElem?_eq_getElem (by rw [hl.len]; exact hcn)⟩
  have hrb := HS.bd.rb cc cl hcl
  rw [hget] at hrb
  have hqo := hlw.qu.ok
  refine tkBq (b18 wr xa n c0 ya m c2 g ro vo no co i bx y hbx cc hn1 hn8 hcc a hf h0 h1 h6 h8 h9 h10 h11) ?_
  rintro a1 _ ⟨hf, h0, h1, h6, h8, h9, h10, h11, h12, rfl⟩
  refine tkBq (b19 wr xa n c0 ya m c2 g ro vo no co i bx y hbx cc sz hsz hb.1 hb.2.1 a1 hf h0 h1 h6 h8 h9 h10 h11 h12) ?_
  rintro a2 _ ⟨hf, h0, h1, h6, h8, h9, h10, h11, h12, h13, rfl⟩
  refine tkBq (b20 w wr xa n c0 ya m c2 g ro vo no co i bx s (i : Int) offs ys cc sz ll HS.bm hL a2 hf h0 h1 h6 h8 h9 h10 h11 h12 h13) ?_
  rintro a3 w3 ⟨vq, nq, cq, qs, hf, h0, h1, h6, h8, h9, h10, h11, h12, h13, h14, hb3, hcp, hqe⟩
  have hM3 := HS.bm.past hb3
  have hqe2 : qs.map Pi.it = ll.abs.A.l := hqe
  have hpos : ∀ x ∈ qs.map Pi.it, 0 ≤ x.sz := fun x hx => by
    rw [hqe] at hx
    obtain ⟨z, hz, rfl⟩ := List.mem_map.1 hx
    exact hqo.sz z hz
  have hsize : szs (qs.map Pi.it) = ll.abs.A.size := by rw [hqe2]; rfl
  have hsz2 : ll.abs.A.size ≤ cl.S := by
    have h1 := hqo.sum
    rw [← abs_size] at h1
    have h2 : ll.abs.A.S = cl.S := hrb.2.2.2
    have h3 : ll.q.S = ll.abs.A.S := rfl
    have h4 : ll.q.abs.size = ll.abs.A.size := rfl
    omega
  have hS1 : cl.S ≤ 9223372036854775807 := (hl.ok cl (List.mem_of_getElem? hcl)).S1
  have hnql : nq = ll.q.L.length := by
    have h1 := hcp.len
    have h2 := congrArg List.length hqe
    simp at h2
    omega
  have hnq : nq ≤ 65536 := by have h1 := hqo.le; have h2 := hqo.mI; have h3 := hqo.I1; omega
  refine tkBq (b21 w3 xa n c0 ya m c2 g ro vo no co i bx cc sz vq nq cq a3 hf h0 h1 h6 h8 h9 h10 h11 h12 h13 h14) ?_
  rintro a4 _ ⟨hf, h0, h1, h6, h8, h9, h10, h11, h12, h13, h14, h15, rfl⟩
  refine tkBq (bd_sum' w3 xa n c0 ya m c2 g ro vo no co i bx cc sz vq nq cq _ qs hcp hpos (by rw [hsize]; omega) hnq a4 hf h0 h1 h6 h8 h9 h10 h11 h12 h13 h14 h15) ?_
  rintro a5 _ ⟨hf, h0, h1, h6, h8, h9, h10, h11, h12, h13, h14, h15, rfl⟩
  rw [hsize] at h15
  obtain ⟨xb, xo, hxa, hxc⟩ := hl.cells (by intro e; rw [e] at hcl; simp at hcl)
  have hroom : ll.abs.A.room sz = (decide (0 ≤ sz) && (decide ((nq : Int) < cl.I) && decide (sz ≤ cl.S - ll.abs.A.size))) := by
    unfold Aq.room
    have h1 : ll.abs.A.I = cl.I := hrb.2.2.1
    have h2 : ll.abs.A.S = cl.S := hrb.2.2.2
    have h3 : (ll.abs.A.l.length : Int) = (nq : Int) := by
      have : ll.abs.A.l.length = ll.q.L.length := by show (ll.q.L.map Pi.it).length = _; rw [List.length_map]
      omega
    rw [h1, h2, h3]
  have hpos2 : 0 ≤ ll.abs.A.size := by rw [← hsize]; exact szs_pos hpos
  rw [hxa] at h0
  refine tkBq (b26 w3 xb xo n c0 ya m c2 g ro vo no co i bx cc sz vq nq cq _ cl (range_kept hM3.lv.below (hxc cc cl hcl)) hcn _ hroom hpos2 hsz2 hS1 a5 hf h0 h1 h6 h8 h9 h10 h11 h12 h13 h14 h15) ?_
  rintro a6 _ ⟨hf, h0, h1, h6, h8, h9, h10, h11, h12, h13, h14, h15, h17, rfl⟩
  rw [← hxa] at h0
  refine tkBq (b27 w w3 xa n c0 ya m c2 g ro vo no co i bx s (i : Int) offs ys cc sz _ hM3 (show (i : Int) < 1000 by omega) (by omega) a6 hf h0 h1 h6 h8 h9 h10 h12 h13 h17) ?_
  rintro a7 w7 ⟨s', ce, hf, h0, h1, h6, h8, h9, h10, h12, h13, h17, h18, hM7, hce, hT7, hn7, hab7⟩
  have hok : offOk s.abs (cc : Int) ⟨(i : Int), sz, []⟩ = decide (0 ≤ sz) := by
    unfold offOk
    rw [hll, decide_eq_true (show (0 : Int) ≤ (cc : Int) by omega), decide_eq_true (show (cc : Int) < (n : Int) by omega), decide_eq_true (show sz ≤ 2048 by omega), Bool.true_and, Bool.true_and, Bool.and_true]
  have hcases : (sz < 0 ∧ ce = 2 ∧ ll.abs.A.room sz = false) ∨ (0 ≤ sz ∧ ce = 0 ∧ ll.abs.A.room sz = true) ∨ (0 ≤ sz ∧ ce = 110 ∧ ll.abs.A.room sz = false) := by
    rw [hce]
    unfold offC
    rw [hok, Int.toNat_natCast, hget]
    by_cases h0' : 0 ≤ sz
    · rw [decide_eq_true h0', if_pos rfl]
      unfold Aq.code
      rw [if_neg (by show ¬ sz < 0; omega)]
      cases hr : ll.abs.A.room sz with
      | true => exact .inr (.inl ⟨h0', rfl, rfl⟩)
      | false => exact .inr (.inr ⟨h0', rfl, rfl⟩)
    · rw [decide_eq_false h0']
      refine .inl ⟨by omega, rfl, ?_⟩
      rw [hroom, decide_eq_false h0']; rfl
  refine tkBq (R := fun a' w' => w7 = w' ∧ Fr 196 a' ∧ sl a' 0 = .slice xa n c0 ∧ sl a' 1 = .slice ya m c2 ∧ sl a' 6 = .pointer (some ⟨g, 0, none⟩) ∧ sl a' 8 = .slice (some ⟨ro, 0, none⟩) n n ∧ sl a' 9 = .slice vo no co ∧ sl a' 10 = .int .i64 (i : Int) ∧ sl a' 12 = .int .i64 (cc : Int) ∧ sl a' 18 = .int .i64 ce) ?_ ?_
  · refine tkBq (b28 w7 xa n c0 ya m c2 g ro vo no co i cc sz _ ce hcases a7 hf h0 h1 h6 h8 h9 h10 h12 h13 h17 h18) ?_
    rintro a8 _ ⟨hf, h0, h1, h6, h8, h9, h10, h12, h18, h152, rfl⟩
    refine wp_onF (A := cAt [1,1,1,1,1,1,1,0,1,2,2,1,0,2,1,0,1,3,1,1,1,1,1,1,1,0,1,3] KB) (B := cAt [1,1,1,1,1,1,1,0,1,2,2,1,0,2,1,0,1,3,1,1,1,1,1,1,1,0,1,4] KB) (by kernel_rfl) h152 ?_
    exact wp_skipR (by kernel_rfl) ⟨rfl, hf, h0, h1, h6, h8, h9, h10, h12, h18⟩
  rintro a8 _ ⟨rfl, hf, h0, h1, h6, h8, h9, h10, h12, h18⟩
  have hcl' : cc < s.abs.length := by omega
  refine tkBq (R := BsS w l xa n c0 ya m c2 g ro (i + 1) i) ?_ ?_
  · refine tkBq (b30 w7 xa n c0 ya m c2 g ro vo no co i cc ce a8 hf h0 h1 h6 h8 h9 h10 h12 h18) ?_
    rintro a9 _ ⟨hf, h0, h1, h6, h8, h9, h10, h12, h18, h154, rfl⟩
    by_cases hce0 : ce = 0
    · rw [decide_eq_true hce0] at h154
      refine wp_onT (A := cAt [1,1,1,1,1,1,1,0,1,2,2,1,0,2,1,0,1,3,1,1,1,1,1,1,1,1,0,1,3] KB) (B := cAt [1,1,1,1,1,1,1,0,1,2,2,1,0,2,1,0,1,3,1,1,1,1,1,1,1,1,0,1,4] KB) (by kernel_rfl) h154 ?_
      have hrt : 0 ≤ sz ∧ ll.abs.A.room sz = true := by
        rcases hcases with ⟨_, h, _⟩ | ⟨h1, _, h2⟩ | ⟨_, h, _⟩
        · omega
        · exact ⟨h1, h2⟩
        · omega
      obtain ⟨f, hfo⟩ : ∃ f, offs[cc]? = some f := ⟨_, List.getElem?_eq_getElem (by rw [HS.ol]; exact hcn)⟩
      have hfx := HS.ox cc f hfo
      refine wp_endR (b31 w w7 xa n c0 ya m c2 g ro vo no co i bx s' ((i : Int) + 1) offs ys cc f hM7 hfo (by omega) (by omega) hcn a9 hf h0 h1 h6 h8 h9 h10 h12) ?_
      rintro a10 w10 ⟨offs', hf, h0, h1, h6, h8, h9, h10, hM10, f', ho', hfx', hfn'⟩
      have hbd := HS.bd.off_ok (x := ⟨(i : Int), sz, []⟩) hcl' (by rw [hok]; exact decide_eq_true hrt.1) (by rw [hget]; exact hrt.2)
      refine ⟨s', offs', vo, no, co, ys, (fun k => if k = cc then off k ++ [(i : Int)] else off k), ⟨?_, ?_, ?_, fun c f2 hc2 => ?_, hn7.trans HS.sn, by rw [hT7]; exact HS.sT⟩, hf, h0, h1, h6, h8, h9, h10⟩
      · rw [show ((i + 1 : Nat) : Int) = (i : Int) + 1 by omega]; exact hM10
      · rw [show ((i + 1 : Nat) : Int) = (i : Int) + 1 by omega, hT7, hab7]; exact hbd
      · rw [ho', List.length_set]; exact HS.ol
      · rw [ho'] at hc2
        by_cases e : cc = c
        · subst e
          rw [List.getElem?_set_self (by rw [HS.ol]; exact hcn)] at hc2
          simp at hc2
          subst hc2
          rw [if_pos rfl, hfx', hfx.1]
          exact ⟨rfl, by omega⟩
        · rw [List.getElem?_set_ne e] at hc2
          rw [if_neg (fun e2 => e e2.symm)]
          have := HS.ox c f2 hc2
          exact ⟨this.1, by omega⟩
    · rw [decide_eq_false hce0] at h154
      refine wp_onF (A := cAt [1,1,1,1,1,1,1,0,1,2,2,1,0,2,1,0,1,3,1,1,1,1,1,1,1,1,0,1,3] KB) (B := cAt [1,1,1,1,1,1,1,0,1,2,2,1,0,2,1,0,1,3,1,1,1,1,1,1,1,1,0,1,4] KB) (by kernel_rfl) h154 ?_
      refine wp_skipR (by kernel_rfl) ?_
      have hbd := HS.bd.off_no (x := ⟨(i : Int), sz, []⟩) hcl' (by
        rcases hcases with ⟨h1, _, _⟩ | ⟨_, h, _⟩ | ⟨_, _, h2⟩
        · exact .inl (by rw [hok]; exact decide_eq_false (by omega))
        · exact absurd h hce0
        · exact .inr (by rw [hget]; exact h2))
      refine ⟨s', offs, vo, no, co, ys, off, ⟨?_, ?_, HS.ol, fun c f2 hc2 => ?_, hn7.trans HS.sn, by rw [hT7]; exact HS.sT⟩, hf, h0, h1, h6, h8, h9, h10⟩
      · rw [show ((i + 1 : Nat) : Int) = (i : Int) + 1 by omega]; exact hM7
      · rw [show ((i + 1 : Nat) : Int) = (i : Int) + 1 by omega, hT7, hab7]; exact hbd
      · have := HS.ox c f2 hc2
        exact ⟨this.1, by omega⟩
  rintro a10 w10 ⟨s2, offs2, vo2, no2, co2, ys2, off2, HS2, hf, h0, h1, h6, h8, h9, h10⟩
  refine wp_endX (b31x w10 xa n c0 ya m c2 g ro vo2 no2 co2 i a10 hf h0 h1 h6 h8 h9 h10) ?_
  rintro a11 _ ⟨hf, h0, h1, h6, h8, h9, h10, rfl⟩
  exact ⟨rfl, s2, offs2, vo2, no2, co2, ys2, off2, HS2, hf, h0, h1, h6, h8, h9, h10⟩

/-- A release. -/
theorem bd_release (w wr : World) (l : List Cs) (xa : Option Addr) (n c0 : Nat) (ya : Option Addr) (m c2 g ro i bx : Nat) (s : Sh) (offs : List Of) (vo : Option Addr) (no co : Nat) (ys : List Po) (off : Nat → List Int) (HS : Bs w wr l n g ro i s offs vo no co ys off) (hi : i < 60) (y : Ac) (hy0 : 0 ≤ y.t) (hbx : wr.heap[bx]? = some (.cells #[.int .i64 y.d, .int .i64 y.c, .int .u64 y.x.no, .int .i64 y.x.sz, .slice y.x.a y.x.n y.x.c, .int .u64 y.t] 42 (0, 0))) (a : Act) (hf : Fr 196 a) (h0 : sl a 0 = .slice xa n c0) (h1 : sl a 1 = .slice ya m c2) (h6 : sl a 6 = .pointer (some ⟨g, 0, none⟩)) (h8 : sl a 8 = .slice (some ⟨ro, 0, none⟩) n n) (h9 : sl a 9 = .slice vo no co) (h10 : sl a 10 = .int .i64 (i : Int)) (h11 : sl a 11 = .pointer (some ⟨bx, 0, none⟩)) :
    Code.wp Try.prog (cAt [1,1,1,1,1,1,1,0,1,2,2,1,0,2,1,1] KB) (Exit.then (fun a' w' => BsS w l xa n c0 ya m c2 g ro (i + 1) i a' w') Nope) a wr := by
  obtain ⟨tt, htt⟩ : ∃ tt, y.t.tmod 4294967296 = tt := ⟨_, rfl⟩
  have ht0 : 0 ≤ tt := by rw [← htt]; exact Int.tmod_nonneg _ hy0
  have ht1 : tt < 4294967296 := by rw [← htt]; exact Int.tmod_lt_of_pos _ (by decide)
  have hcnt := HS.bd.cnt
  have hol := HS.bm.ops.len
  rw [List.length_map] at hcnt
  have hok := HS.bm.lv.oks (show (i : Int) < 18446744073709551615 by omega)
  have hT1 := HS.sT
  have hfin := rel_fin (tick := max tt s.T) hok (by omega) (by omega) HS.bm.lv.db HS.bm.lv.N0
  have hbd := HS.bd.rel hok (show s.T ≤ max tt s.T by omega)
  refine tkBq (b32 w wr xa n c0 ya m c2 g ro vo no co i bx s (i : Int) offs ys y hbx HS.bm (show (i : Int) < 1000 by omega) tt htt ht0 ht1 (by omega) a hf h0 h1 h6 h8 h9 h10 h11) ?_
  rintro a1 w1 ⟨s', v2, n2, c3, zs, hf, h0, h1, h6, h8, h9, h10, hM1, hzs, hT', hn', hab'⟩
  refine tkBq (b33 w w1 xa n c0 ya m c2 g ro v2 n2 c3 i s' (i : Int) offs (ys ++ zs) hM1 a1 hf h0 h1 h6 h8 h9 h10) ?_
  rintro a2 w2 ⟨hf, h0, h1, h6, h8, h9, h10, h19, h20, hb2⟩
  have hM2 := hM1.past hb2
  refine tkBq (b34 w w2 xa n c0 ya m c2 g ro v2 n2 c3 i s' (i : Int) offs (ys ++ zs) _ _ hM2 (fun hk => by rw [hT', hab'] at hk ⊢; exact hfin.2.2.2 hk) a2 hf h0 h1 h6 h8 h9 h10 h19 h20) ?_
  rintro a3 _ ⟨hf, h0, h1, h6, h8, h9, h10, h184, rfl⟩
  refine wp_onF (A := cAt [1,1,1,1,1,1,1,0,1,2,2,1,0,2,1,1,1,1,1,3] KB) (B := cAt [1,1,1,1,1,1,1,0,1,2,2,1,0,2,1,1,1,1,1,4] KB) (by kernel_rfl) h184 ?_
  refine wp_skipR (by kernel_rfl) ?_
  have hc2 : (((ys ++ zs).map Po.ot).length : Int) + (tot s'.abs : Int) ≤ ((i + 1 : Nat) : Int) := by
    have := hbd.cnt
    rw [List.map_append, hzs, hab']
    omega
  have hlv := hM2.lv
  refine ⟨s', offs, v2, n2, c3, ys ++ zs, off, ⟨⟨⟨hlv.sw, hlv.n1, hlv.below, hlv.db.more (by omega), hlv.bT, hlv.T0, hlv.T1, by omega⟩, hM2.offs, hM2.ops, hM2.dis⟩, ?_, HS.ol, fun c f hc => ⟨(HS.ox c f hc).1, by have := (HS.ox c f hc).2; omega⟩, hn'.trans HS.sn, by omega⟩, hf, h0, h1, h6, h8, h9, h10⟩
  rw [← hab', ← hzs, ← List.map_append, ← hT'] at hbd
  exact ⟨hbd.len, hbd.rb, hbd.cls, hbd.srt, hbd.q, hbd.bi, hbd.bp, hbd.off, hc2⟩

/-- The classes' rates and bursts: all are small, or the law is done. -/
theorem bd_small (w : World) (xa : Option Addr) (n c0 : Nat) (ya : Option Addr) (m c2 : Nat) (l : List Cs) (hl : Rcs w xa n l) (hn8 : n ≤ 8) (Q : Exit → Act → World → Prop)
    (hQr : ∀ a' w', bodyPost Try.prog Try.f4 (Yes w) .ret a' w' → Q .ret a' w') (hQn : ∀ a', (∀ x ∈ l, x.r < 1048576 ∧ x.B < 1048576) → Fr 196 a' ∧ sl a' 0 = .slice xa n c0 ∧ sl a' 1 = .slice ya m c2 → Q .normal a' w) (a : Act) (hf : Fr 196 a) (h0 : sl a 0 = .slice xa n c0) (h1 : sl a 1 = .slice ya m c2) :
    Code.wp Try.prog (cAt [1,1,0] KB) Q a w := by
  refine tkBq (b3 w xa n c0 ya m c2 a hf h0 h1) ?_
  rintro a1 _ ⟨hf, h0, h1, h5, rfl⟩
  refine wp_blockR (x := cAt [1,1,0,1,2] KB) (id := 0) (by kernel_rfl) ?_
  refine wp_loopR (x := cAt [1,1,0,1,2,2] KB) (by kernel_rfl) (fun a' w' => ∃ i : Nat, i ≤ n ∧ (∀ (j : Nat) (x : Cs), j < i → l[j]? = some x → x.r < 1048576 ∧ x.B < 1048576) ∧ w = w' ∧ Fr 196 a' ∧ sl a' 0 = .slice xa n c0 ∧ sl a' 1 = .slice ya m c2 ∧ sl a' 5 = .int .i64 (i : Int)) (fun a' _ => n - (intOf (sl a' 5)).toNat) ⟨0, Nat.zero_le _, fun j x hj => (by omega), rfl, hf, h0, h1, h5⟩ ?_
  rintro a2 _ ⟨i, hi, hall, rfl, hf, h0, h1, h5⟩
  by_cases hlt : i < n
  case neg =>
    refine wp_endX (b4x w xa n c0 ya m c2 i hlt a2 hf h0 h1 h5) ?_
    rintro a3 _ ⟨hf, h0, h1, rfl⟩
    refine thru (hQn a3 (fun x hx => ?_) ⟨hf, h0, h1⟩)
    obtain ⟨j, hj⟩ := List.getElem?_of_mem hx
    exact hall j x (by have := (List.getElem?_eq_some_iff.1 hj).1; have := hl.len; omega) hj
  refine tkBq (b4 w xa n c0 ya m c2 i hlt a2 hf h0 h1 h5) ?_
  rintro a3 _ ⟨hf, h0, h1, h5', rfl⟩
  have hll := hl.len
  obtain ⟨x, hx⟩ : ∃ x, l[i]? = some x := ⟨_, List.getElem?_eq_getElem (by omega)⟩
  obtain ⟨xb, xo, hxa, hxc⟩ := hl.cells (by intro e; rw [e] at hx; simp at hx)
  rw [hxa] at h0
  refine wp_sqG (x := cAt [1,1,0,1,2,2,1,0] KB) (y := cAt [1,1,0,1,2,2,1,1] KB) (by kernel_rfl) ?_
  refine wp_blockR (x := cAt [1,1,0,1,2,2,1,0,2] KB) (id := 1) (by kernel_rfl) ?_
  refine tkBq (b6 w xb xo n c0 ya m c2 i x (hxc i x hx) hlt a3 hf h0 h1 h5') ?_
  rintro a4 _ ⟨hf, h0, h1, h5', h49, rfl⟩
  by_cases hbig : x.r < 1048576 ∧ x.B < 1048576
  · rw [show (decide (1048576 ≤ x.r) || decide (1048576 ≤ x.B)) = false by rw [decide_eq_false (by omega), decide_eq_false (by omega)]; rfl] at h49
    refine wp_onF (A := cAt [1,1,0,1,2,2,1,0,2,1,3] KB) (B := cAt [1,1,0,1,2,2,1,0,2,1,4] KB) (by kernel_rfl) h49 ?_
    refine wp_skipR (by kernel_rfl) ?_
    rw [← hxa] at h0
    refine wp_endR (b5 w xa n c0 ya m c2 i (by omega) a4 hf h0 h1 h5') ?_
    rintro a5 _ ⟨hf, h0, h1, h5'', rfl⟩
    refine ⟨⟨i + 1, hlt, fun j z hj hz => ?_, rfl, hf, h0, h1, by rw [h5'']; rfl⟩, ?_⟩
    · by_cases e : j = i
      · subst e
        rw [hx] at hz
        cases hz
        exact hbig
      · exact hall j z (by omega) hz
    · rw [h5, h5'']
      simp only [intOf]
      omega
  · rw [show (decide (1048576 ≤ x.r) || decide (1048576 ≤ x.B)) = true by
      by_cases e : 1048576 ≤ x.r
      · rw [decide_eq_true e]; rfl
      · rw [decide_eq_false e, decide_eq_true (by omega)]; rfl] at h49
    refine wp_onT (A := cAt [1,1,0,1,2,2,1,0,2,1,3] KB) (B := cAt [1,1,0,1,2,2,1,0,2,1,4] KB) (by kernel_rfl) h49 ?_
    exact wp_endT (b7 w w (Below.refl _ _) a4 hf) (fun a' w' h => hQr a' w' h)

/-- The acts. -/
theorem bd_acts (w wr : World) (l : List Cs) (xa : Option Addr) (n c0 : Nat) (ya : Option Addr) (m c2 g ro : Nat) (la : List Ac) (hl : Rcs w xa n l) (hm : Acr w ya m la) (hm60 : m ≤ 60) (hn1 : 1 ≤ n) (hn8 : n ≤ 8) (s : Sh) (offs : List Of) (off : Nat → List Int) (HS : Bs w wr l n g ro 0 s offs none 0 0 [] off) (a : Act) (hf : Fr 196 a) (h0 : sl a 0 = .slice xa n c0) (h1 : sl a 1 = .slice ya m c2) (h6 : sl a 6 = .pointer (some ⟨g, 0, none⟩)) (h8 : sl a 8 = .slice (some ⟨ro, 0, none⟩) n n) (h9 : sl a 9 = .slice none 0 0) :
    Code.wp Try.prog (cAt [1,1,1,1,1,1,1,0] KB) (Exit.then (fun a' w' => ∃ s offs vo no co ys off, Bs w w' l n g ro m s offs vo no co ys off ∧ Fr 196 a' ∧ sl a' 0 = .slice xa n c0 ∧ sl a' 8 = .slice (some ⟨ro, 0, none⟩) n n ∧ sl a' 9 = .slice vo no co) Nope) a wr := by
  refine tkBq (b13 wr xa n c0 ya m c2 g ro a hf h0 h1 h6 h8 h9) ?_
  rintro a1 _ ⟨hf, h0, h1, h6, h8, h9, h10, rfl⟩
  refine wp_blockR (x := cAt [1,1,1,1,1,1,1,0,1,2] KB) (id := 2) (by kernel_rfl) ?_
  refine wp_loopR (x := cAt [1,1,1,1,1,1,1,0,1,2,2] KB) (by kernel_rfl) (fun a' w' => ∃ i : Nat, i ≤ m ∧ BsS w l xa n c0 ya m c2 g ro i i a' w') (fun a' _ => m - (intOf (sl a' 10)).toNat) ⟨0, Nat.zero_le _, s, offs, none, 0, 0, [], off, HS, hf, h0, h1, h6, h8, h9, h10⟩ ?_
  rintro a2 w2 ⟨i, hi, s, offs, vo, no, co, ys, off, HS, hf, h0, h1, h6, h8, h9, h10⟩
  have h10a := h10
  by_cases hlt : i < m
  case neg =>
    have e : i = m := by omega
    subst e
    refine wp_endX (b14x w2 xa n c0 ya i c2 g ro vo no co i hlt a2 hf h0 h1 h6 h8 h9 h10) ?_
    rintro a3 _ ⟨hf, h0, h8, h9, rfl⟩
    exact thru ⟨s, offs, vo, no, co, ys, off, HS, hf, h0, h8, h9⟩
  refine tkBq (b14 w2 xa n c0 ya m c2 g ro vo no co i hlt a2 hf h0 h1 h6 h8 h9 h10) ?_
  rintro a3 _ ⟨hf, h0, h1, h6, h8, h9, h10, rfl⟩
  refine tkBq (R := BsS w l xa n c0 ya m c2 g ro (i + 1) i) ?_ ?_
  ·
    obtain ⟨y, yb, yo, hy, hyok, hya, hrg⟩ := hm.nth hlt
    rw [hya] at h1
    refine wp_blockR (x := cAt [1,1,1,1,1,1,1,0,1,2,2,1,0,2] KB) (id := 3) (by kernel_rfl) ?_
    refine tkBq (b16 w2 xa n c0 yb yo m c2 g ro vo no co i y (range_kept HS.bm.lv.below hrg) hlt a3 hf h0 h1 h6 h8 h9 h10) ?_
    rintro a4 w4 ⟨bx, hf, h0, h1, h6, h8, h9, h10, h11, hbx, _, hb4⟩
    rw [← hya] at h1
    have HS4 : Bs w w4 l n g ro i s offs vo no co ys off := ⟨HS.bm.past hb4, HS.bd, HS.ol, HS.ox, HS.sn, HS.sT⟩
    refine wp_sqG (x := cAt [1,1,1,1,1,1,1,0,1,2,2,1,0,2,1,0] KB) (y := cAt [1,1,1,1,1,1,1,0,1,2,2,1,0,2,1,1] KB) (by kernel_rfl) ?_
    refine tkBq (b17 w4 xa n c0 ya m c2 g ro vo no co i bx y hbx a4 hf h0 h1 h6 h8 h9 h10 h11) ?_
    rintro a5 _ ⟨hf, h0, h1, h6, h8, h9, h10, h11, h74, rfl⟩
    by_cases hd : y.d < 3
    · rw [decide_eq_true hd] at h74
      refine wp_onT (A := cAt [1,1,1,1,1,1,1,0,1,2,2,1,0,2,1,0,1,3] KB) (B := cAt [1,1,1,1,1,1,1,0,1,2,2,1,0,2,1,0,1,4] KB) (by kernel_rfl) h74 ?_
      refine wp_endX (bd_offer w w4 l xa n c0 ya m c2 g ro i bx s offs vo no co ys off HS4 hl hn1 hn8 (by omega) y hbx a5 hf h0 h1 h6 h8 h9 h10 h11) ?_
      intro a6 w6 h6
      exact h6
    · rw [decide_eq_false hd] at h74
      refine wp_onF (A := cAt [1,1,1,1,1,1,1,0,1,2,2,1,0,2,1,0,1,3] KB) (B := cAt [1,1,1,1,1,1,1,0,1,2,2,1,0,2,1,0,1,4] KB) (by kernel_rfl) h74 ?_
      refine wp_skipR (by kernel_rfl) ?_
      refine wp_endR (bd_release w w4 l xa n c0 ya m c2 g ro i bx s offs vo no co ys off HS4 (by omega) y hyok.t0 hbx a5 hf h0 h1 h6 h8 h9 h10 h11) ?_
      intro a6 w6 h6
      exact h6
  rintro a4 w4 ⟨s, offs, vo, no, co, ys, off, HS, hf, h0, h1, h6, h8, h9, h10⟩
  refine wp_endR (b15 w4 xa n c0 ya m c2 g ro vo no co i (by omega) a4 hf h0 h1 h6 h8 h9 h10) ?_
  rintro a5 _ ⟨hf, h0, h1, h6, h8, h9, h10', rfl⟩
  refine ⟨⟨i + 1, hlt, s, offs, vo, no, co, ys, off, HS, hf, h0, h1, h6, h8, h9, by rw [h10']; rfl⟩, ?_⟩
  rw [h10a, h10']
  simp only [intOf]
  omega

theorem bounds_any (xa : Option Addr) (n c0 : Nat) (l : List Cs) (ya : Option Addr) (m c2 : Nat) (la : List Ac) (w : World) (hl : Rcs w xa n l) (hm : Acr w ya m la) (hmx : m ≤ maxLen) :
    Calls Try.prog 4 #[.slice xa n c0, .slice ya m c2] w (Yes w) := by
  refine calls_of_wp (c := KB) Try.func4 (by kernel_rfl) ?_
  have hf : Fr 196 { tmps := #[.slice xa n c0, .slice ya m c2] ++ Array.replicate (Try.f4.ntmps - (#[.slice xa n c0, .slice ya m c2] : Array Value).size) undef, defers := [] } := ⟨rfl, by simp [Try.ntmps4]⟩
  refine wp_sqR (x := cAt [0] KB) (y := cAt [1] KB) (by kernel_rfl) (b0 w xa n c0 ya m c2 _ hf (sl_at _ _ 0 _ rfl) (sl_at _ _ 1 _ rfl)) ?_
  rintro a1 _ ⟨hf, h0, h1, rfl⟩
  refine wp_sqG (x := cAt [1,0] KB) (y := cAt [1,1] KB) (by kernel_rfl) ?_
  refine tkBq (b1 w xa n c0 ya m c2 la hm hmx a1 hf h0 h1) ?_
  rintro a2 _ ⟨bb, hf, h0, h1, h28, hbb, rfl⟩
  cases bb with
  | true =>
    refine wp_onT (A := cAt [1,0,1,3] KB) (B := cAt [1,0,1,4] KB) (by kernel_rfl) h28 ?_
    exact wp_endT (b2 w w (Below.refl _ _) a2 hf) (fun a' w' h => h)
  | false =>
  obtain ⟨hn8, hfew⟩ := hbb.1 rfl
  have hm60 : m ≤ 60 := by rw [← hm.len]; exact hfew.1
  refine wp_onF (A := cAt [1,0,1,3] KB) (B := cAt [1,0,1,4] KB) (by kernel_rfl) h28 ?_
  refine wp_skipR (by kernel_rfl) ?_
  refine wp_sqG (x := cAt [1,1,0] KB) (y := cAt [1,1,1] KB) (by kernel_rfl) ?_
  refine bd_small w xa n c0 ya m c2 l hl hn8 (Exit.then (Code.wp Try.prog (cAt [1,1,1] KB) (bodyPost Try.prog Try.f4 (Yes w))) (bodyPost Try.prog Try.f4 (Yes w))) (fun a' w' h => h) ?_ a2 hf h0 h1
  rintro a3 hsm ⟨hf, h0, h1⟩
  have hlen := hl.len
  cases hmay : mayB l with
  | false =>
    refine tkBq (b8n w xa n c0 ya m c2 l hl hmay a3 hf h0 h1) ?_
    rintro a4 w4 ⟨hf, h7, hb4⟩
    refine wp_sqG (x := cAt [1,1,1,1,0] KB) (y := cAt [1,1,1,1,1] KB) (by kernel_rfl) ?_
    refine tkBq (b9n w4 a4 hf h7) ?_
    rintro a5 _ ⟨hf, h57, rfl⟩
    refine wp_onT (A := cAt [1,1,1,1,0,1,3] KB) (B := cAt [1,1,1,1,0,1,4] KB) (by kernel_rfl) h57 ?_
    exact wp_endT (b10 w w4 hb4 a5 hf) (fun a' w' h => h)
  | true =>
  have hmp := hmay
  unfold mayB at hmp
  simp only [Bool.and_eq_true, decide_eq_true_eq] at hmp
  have hn1 : 1 ≤ n := by omega
  refine tkBq (b8 w xa n c0 ya m c2 l hl hmay a3 hf h0 h1) ?_
  rintro a4 w4 ⟨g, s, hf, h0, h1, h6, h7, hv, hT, hn, hab⟩
  refine wp_sqG (x := cAt [1,1,1,1,0] KB) (y := cAt [1,1,1,1,1] KB) (by kernel_rfl) ?_
  refine tkBq (b9 w4 xa n c0 ya m c2 g a4 hf h0 h1 h6 h7) ?_
  rintro a5 _ ⟨hf, h0, h1, h6, h57, rfl⟩
  refine wp_onF (A := cAt [1,1,1,1,0,1,3] KB) (B := cAt [1,1,1,1,0,1,4] KB) (by kernel_rfl) h57 ?_
  refine wp_skipR (by kernel_rfl) ?_
  refine tkBq (b11 w4 xa n c0 ya m c2 g hn8 a5 hf h0 h1 h6) ?_
  rintro a6 w6 ⟨ro, hf, h0, h1, h6, h8, hoff, hb6⟩
  refine tkBq (b12 w6 xa n c0 ya m c2 g ro a6 hf h0 h1 h6 h8) ?_
  rintro a7 _ ⟨hf, h0, h1, h6, h8, h9, rfl⟩
  have HS0 : Bs w w6 l n g ro 0 s (List.replicate n ⟨none, 0, 0, []⟩) none 0 0 [] (fun _ => []) := by
    have hv6 := hv.past hb6
    refine ⟨⟨hv6, ⟨hoff.row, fun x hx => (by rw [List.eq_of_mem_replicate hx]; exact OwnG.nil _ _ _ _), hoff.apart, Nat.le_trans hv.below.size hoff.base⟩, Ops.nil _ _, fun y hy => (by cases hy)⟩, ?_, by rw [List.length_replicate], fun c f hc => ?_, by omega, by omega⟩
    · rw [hT, hab]; exact Bd.new l
    · have := List.mem_of_getElem? hc
      rw [List.eq_of_mem_replicate this]
      exact ⟨rfl, Nat.le_refl _⟩
  refine tkBq (bd_acts w w6 l xa n c0 ya m c2 g ro la hl hm hm60 hn1 hn8 s _ _ HS0 a7 hf h0 h1 h6 h8 h9) ?_
  rintro a8 w8 ⟨s8, offs, vo, no, co, ys, off, HS, hf, h0, h8, h9⟩
  obtain ⟨xb, xo, hxa, hxc⟩ := hl.cells (by intro e; rw [e] at hlen; simp at hlen; omega)
  rw [hxa] at h0
  have hcnt := HS.bd.cnt
  have hol := HS.bm.ops.len
  rw [List.length_map] at hcnt
  have hbl := HS.bd.len
  have hsT := HS.sT
  refine b36 w w8 xb xo n c0 ro vo no co l g s8 (m : Int) offs ys HS.bm hlen (fun i x hx => range_kept HS.bm.lv.below (hxc i x hx)) ⟨HS.bd.bp, fun x hx => ?_, fun x hx => ?_⟩ ⟨HS.bd.srt, fun x hx => ?_, fun c f hc => ?_⟩ HS.ol hn8 (by omega) a8 hf h0 h8 h9
  · have h := HS.bd.cls x hx
    exact ⟨by omega, h.2.1, h.2.2.2.2, h.2.2.1, by omega⟩
  · have h1 := hl.ok x hx
    have h2 := hsm x hx
    exact ⟨h1.r0, h2.1, h1.B0, h2.2⟩
  · have h := HS.bd.cls x hx
    have := HS.ol
    omega
  · have hc2 := (List.getElem?_eq_some_iff.1 hc).1
    have := HS.ol
    rw [(HS.ox c f hc).1, HS.bd.off c (by omega)]
    exact ⟨_, rfl⟩
end Go.Proofs.Ytpigpeehhadkjaa

/-
  The contract of slices.Insert of bytes, where what is inserted lies in another block. Conditions: a row of the call's own; together at most 1000 bytes. (Made by gen_adins.py.)
-/
import Derived.Test.YtbnfmiopgjmppaaDoorAdSix
import Derived.Laws.CopyRow
import Derived.Laws.Externs
import Derived.Lib.Overlaps
import Derived.Lib.AppendZerosOnto
namespace Go.Proofs.YtbnfmiopgjmppaaDoor
open Go.RowKit

theorem wp_copyA {P : Program} {o : Oper} {a : Act} {w w' : World} {K : Act → World → Prop} {Q : Exit → Act → World → Prop} {v : Value} (d s : Operand) (dT sT : TypeId) (ho : o.op = .call { callee := .builtin .copy, args := #[d, s], argTypes := #[dT, sT] }) (vd vs : Value) (hd : a.eval d = vd) (hs : a.eval s = vs)
    (hr : (Builtin.copy_ #[dT, sT] o.type #[vd, vs]).run P w = .ok v w') (h : K (a.put o.dst v) w') : o.wp P a w K Q := by
  unfold Oper.wp execOp
  simp only [ho, resolve, invoke, builtin, Sem.run_bind, Sem.run_pure, Result.andThen_ok, List.map_toArray, List.map_cons, List.map_nil, hd, hs, hr]
  exact h
theorem wpList_copyA {P : Program} {ops : Array Oper} {rest : List Oper} {o : Oper} {a : Act} {w w' : World} {Q : Exit → Act → World → Prop} {v : Value} (hgd : o.guard = none) (d s : Operand) (dT sT : TypeId) (ho : o.op = .call { callee := .builtin .copy, args := #[d, s], argTypes := #[dT, sT] }) (vd vs : Value) (hd : a.eval d = vd) (hs : a.eval s = vs)
    (hr : (Builtin.copy_ #[dT, sT] o.type #[vd, vs]).run P w = .ok v w') (h : wpList P ops Q rest (a.put o.dst v) w') : wpList P ops Q (o :: rest) a w :=
  wpList_plain hgd fun _ hK => wp_copyA d s dT sT ho vd vs hd hs hr (hK _ _ h)
theorem infB1 : (Tryd.prog.info? 5).map (·.size) = some 1 := by kernel_rfl
theorem Kept.row1 {S : Nat → Prop} (w : World) (g : Nat) (c : Array Value) (hg : S g) : Kept S w (w.setRow g c) := by
  refine ⟨by simp [World.setRow], by simp [World.setRow], by simp [World.setRow], by simp [World.setRow], fun k hk hn => ?_⟩
  have : g ≠ k := fun e => hn (e ▸ hg)
  simp [World.setRow, Array.getElem?_modify, this]
theorem tkl {α : Type} {l r : List α} {n : Nat} (h : l.length = n) : (l ++ r).take n = l := by subst h; exact List.take_left
theorem dpl {α : Type} {l r : List α} {n : Nat} (h : l.length = n) : (l ++ r).drop n = r := by subst h; exact List.drop_left
/-- A block that is a plain row of cells. -/
def Raw (w : World) (g : Nat) (L : List Value) : Prop := w.heap[g]? = some (.cells L.toArray 5 (0, 0))
/-- What a copy leaves. -/
def spl (L : List Value) (o : Nat) (cs : List Value) : List Value := L.take o ++ cs ++ L.drop (o + cs.length)
theorem spl_len (L : List Value) (o : Nat) (cs : List Value) (h : o + cs.length ≤ L.length) : (spl L o cs).length = L.length := by simp [spl]; omega
theorem run_copy_raw (w : World) (ty g o dl dc : Nat) (L : List Value) (hg : Raw w g L) {ad : Addr} {n c : Nat} {ys : List Int} (hn : ys.length = Nat.min n dl) (hy : 0 < n) {zs' : List Int} (hz : zs'.length = n) (hzy : zs'.take ys.length = ys) (hr : Rd w (some ad) zs') (hfit : o + ys.length ≤ L.length) :
    ∃ w', (Builtin.copy_ #[25, 25] ty #[.slice (some ⟨g, o, none⟩) dl dc, .slice (some ad) n c]).run Tryd.prog w = .ok (goInt ys.length) w' ∧ Raw w' g (spl L o (bv ys)) ∧ Kept (fun k => k = g) w w' := by
  obtain ⟨r, ro, e, hcc⟩ := hr (by rintro rfl; simp at hz; omega)
  simp only [Option.some.injEq] at e
  subst e
  have hle : ys.length ≤ n := by rw [hn]; exact Nat.min_le_left _ _
  have hcell : ∀ j v, (bv ys)[j]? = some v → w.cell? (Addr.add ⟨r, ro, none⟩ j) = some v := fun j v hv => by
    have hj : j < ys.length := by have := (List.getElem?_eq_some_iff.1 hv).1; rwa [bv_length] at this
    rw [Addr.add_lit, hcc j (by omega)]
    rw [bv_get _ _ hj] at hv
    rw [← hv, ← hzy]
    simp only [List.getD_eq_getElem?_getD, List.getElem?_take]
    rw [if_pos hj]
  have hrun := run_copy_row (P := Tryd.prog) w 25 25 ty 5 g o dl dc ⟨r, ro, none⟩ n c L.toArray 5 (bv ys) Tryd.underlying25 infB1 hg (by rw [bv_length]; exact hn) hcell (by rw [bv_length]; simpa using hfit) (bv_one _)
  rw [bv_length] at hrun
  refine ⟨_, hrun, ?_, Kept.row1 (S := fun k => k = g) _ _ _ rfl⟩
  show (w.setRow g _).heap[g]? = _
  rw [setRow_heap w g _ _ _ _ hg]
  simp [spl, bv_length]
theorem Own.raw {w : World} {base g n cap : Nat} {xs : List Int} (h : Own w base (some ⟨g, 0, none⟩) n cap xs) : ∃ R, Raw w g (bv xs ++ R) ∧ (bv xs ++ R).length = cap ∧ base ≤ g ∧ n ≤ cap ∧ cap ≤ maxLen := by
  obtain ⟨g', cur, e, hbg, hg, hnc, hcm, hcs, ht⟩ := h.cases.resolve_left (by rintro ⟨h, _⟩; cases h)
  simp only [Option.some.injEq, Addr.mk.injEq, and_true] at e
  subst e
  refine ⟨cur.toList.drop n, ?_, ?_, hbg, hnc, hcm⟩
  · show _ = _
    rw [← ht, List.take_append_drop, hg]
  · rw [← ht, List.take_append_drop]; simpa using hcs
theorem Raw.own {w : World} {base g n cap : Nat} {xs : List Int} {R : List Value} (h : Raw w g (bv xs ++ R)) (hl : xs.length = n) (hc : (bv xs ++ R).length = cap) (hb : base ≤ g) (hm : cap ≤ maxLen) : Own w base (some ⟨g, 0, none⟩) n cap xs := by
  have hn : n ≤ cap := by rw [← hc, List.length_append, bv_length]; omega
  refine ⟨hl, by rw [bv_length]; omega, .inr ⟨g, cap, _, rfl, hb, h, hn, hm, by simpa using hc, ?_⟩⟩
  simp only [Nat.mul_one]
  rw [← hl, ← bv_length xs, List.take_left]
theorem Raw.keep {S : Nat → Prop} {w w' : World} {g : Nat} {L : List Value} (h : Raw w g L) (k : Kept S w w') (hs : ¬ S g) : Raw w' g L := k.heap h hs
/-- append(row, make([]byte, k)...), where there is no room: a new row. -/
theorem run_append_zeros_new (w : World) (base ty : Nat) {g n cap : Nat} {xs : List Int} (hown : Own w base (some ⟨g, 0, none⟩) n cap xs) (k : Nat) (h0 : 0 < k) (hroom : cap < n + k) (hlim : n + k ≤ 140737488355328) :
    ∃ cap' w', (Builtin.append_ #[25, 3] ty #[.slice (some ⟨g, 0, none⟩) n cap, .int .i64 k]).run Tryd.prog w = .ok (.slice (some ⟨w.heap.size, 0, none⟩) (n + k) cap') w' ∧ Own w' w.heap.size (some ⟨w.heap.size, 0, none⟩) (n + k) cap' (xs ++ zs k) ∧ Below w.heap.size w w' := by
  obtain ⟨i0, hi, hz0, hz1, hz2⟩ := info_parts u8_info
  have hl : (xs ++ zs k).length = n + k := by rw [List.length_append, hown.1, zs_length]
  have hge := grownCap_ge w (n + k) cap 5
  have hcm : grownCap w (n + k) cap 5 ≤ maxLen := grownCap_le_maxLen w (n + k) cap _ (by simp only [maxLen]; omega)
  have hold : (Builtin.firstCells i0.size n (.slice (some ⟨g, 0, none⟩) n cap)).run Tryd.prog w.drew = .ok (bv xs).toArray w.drew := by
    rw [hz1]
    exact run_firstCells_some (P := Tryd.prog) w.drew 1 n ⟨g, 0, none⟩ n cap (bv xs) (by rw [bv_length, hown.1]; omega) (hown.2.cells (g := g) rfl)
  have hr := Lib.run_append_grow_zeros (P := Tryd.prog) w 25 3 ty 5 i0 _ .i64 .i64 Tryd.underlying25 Tryd.underlying3 hi hz0 (some ⟨g, 0, none⟩) n cap (bv xs) hold k h0 (by omega) (by omega) (by omega) (by rw [hz2]; omega) (by rw [hz2]; exact growslice_fits (by omega) (by omega))
  refine ⟨_, _, hr, ⟨hl, by rw [bv_length, hl]; omega, .inr ⟨w.heap.size, _, _, rfl, Nat.le_refl _, heap_alloc_new w.drew _, hge, hcm, ?_, ?_⟩⟩, (Below.refl _ _).drew.alloc (by simp) _⟩
  · simp only [Array.size_append, List.size_toArray, zeroCells_bv, bv_length, zs_length, hown.1]; omega
  · simp only [zeroCells_bv, Array.toList_append]
    rw [← bv_append, List.take_append_of_le_length (by rw [bv_length, hl]; omega)]
    exact List.take_of_length_le (by rw [bv_length, hl]; omega)
theorem sB_to (g i n c : Nat) (hi : i ≤ c) (w : World) : (Instr.sliceAt 25 (.slice (some ⟨g, 0, none⟩) n c) none (some (.int .i64 (i : Int))) none).run Tryd.prog w = .ok (.slice (some ⟨g, 0, none⟩) i c) w := by
  have hE : Tryd.prog.elem 25 = 5 := by kernel_rfl
  have ht : Tryd.prog.underlying 25 = some (.slice (Tryd.prog.elem 25)) := by rw [hE]; exact Tryd.underlying25
  rw [run_sliceAt_slice w 25 _ _ _ _ ht, run_slice_h w 25 _ _ _ ht .i64 (i : Int) (by omega) (by omega), hE]
  simp only [Tryd.sizeOf5, Result.andThen_ok, sliced, Int.toNat_natCast]
  split
  · simp
  · simp [Addr.add]
theorem sB_from (g o i n c : Nat) (hi : i ≤ n) (hc : i < c) (w : World) : (Instr.sliceAt 25 (.slice (some ⟨g, o, none⟩) n c) (some (.int .i64 (i : Int))) none none).run Tryd.prog w = .ok (.slice (some ⟨g, o + i, none⟩) (n - i) (c - i)) w := by
  have hE : Tryd.prog.elem 25 = 5 := by kernel_rfl
  have ht : Tryd.prog.underlying 25 = some (.slice (Tryd.prog.elem 25)) := by rw [hE]; exact Tryd.underlying25
  rw [run_sliceAt_slice w 25 _ _ _ _ ht, run_slice_l w 25 _ _ _ ht .i64 (i : Int) (by omega) (by omega), hE]
  simp only [Tryd.sizeOf5, Result.andThen_ok, sliced, Int.toNat_natCast]
  rw [if_neg (by omega)]
  simp [Addr.add_lit]
theorem sB_any (a : Option Addr) (i n c : Nat) (hi : i ≤ n) : ∃ v, ∀ w, (Instr.sliceAt 25 (.slice a n c) (some (.int .i64 (i : Int))) none none).run Tryd.prog w = .ok v w := by
  have hE : Tryd.prog.elem 25 = 5 := by kernel_rfl
  have ht : Tryd.prog.underlying 25 = some (.slice (Tryd.prog.elem 25)) := by rw [hE]; exact Tryd.underlying25
  refine ⟨sliced a i n c 1, fun w => ?_⟩
  rw [run_sliceAt_slice w 25 _ _ _ _ ht, run_slice_l w 25 _ _ _ ht .i64 (i : Int) (by omega) (by omega), hE]
  simp only [Tryd.sizeOf5, Result.andThen_ok, Int.toNat_natCast]
theorem over_no (w : World) (g2 g i m vc lb cb : Nat) {L2 L : List Value} (h2 : Raw w g2 L2) (h : Raw w g L) (hL : L.length ≠ 0) (hne : g2 ≠ g) : (callFunc 71 #[.slice (some ⟨g2, 0, none⟩) m vc, .slice (some ⟨g, i, none⟩) lb cb]).run Tryd.prog w = .ok (.value (.bool false)) w := by
  rw [run_callFunc_extern Tryd.func71 (by kernel_rfl) (by kernel_rfl) (by kernel_rfl) (e := Extern.SlicesOverlaps.overlaps #[25, 25] #[4]) (by kernel_rfl),
    Lib.run_overlaps_apart w 25 4 5 Tryd.underlying25 1 (fun w => by simp only [Tryd.sizeOf5]) ⟨g2, 0, none⟩ ⟨g, i, none⟩ m vc lb cb hne 5 5 L2.length L.length (by show (match w.heap[g2]? with | some (Obj.cells c elem _) => some (elem, c.size) | _ => none) = _; rw [h2]; simp) (by show (match w.heap[g]? with | some (Obj.cells c elem _) => some (elem, c.size) | _ => none) = _; rw [h]; simp) hL (frozen_of_row w g2 0 _ _ h2) (frozen_of_row w g2 _ _ _ h2)]
  rfl

/-- What Insert answers. -/
def InsR (w : World) (base : Nat) (a : Option Addr) (zs' : List Int) (e : Ending) (w' : World) : Prop := ∃ a' n' cap', e = .returned (.slice a' n' cap') ∧ Own w' base a' n' cap' zs' ∧ Kept (fun k => blk a = some k) w w'
set_option maxRecDepth 100000 in
set_option maxHeartbeats 4000000 in
theorem sIns_end (w : World) (base base2 : Nat) {a : Option Addr} {n cap : Nat} {xs : List Int} (ho : Own w base a n cap xs) (g2 m : Nat) (ys : List Int) (hm : 0 < m) (hz : Own w base2 (some ⟨g2, 0, none⟩) m m ys) (hlim : n + m ≤ 1000) (hb : base ≤ w.heap.size) :
    Calls Tryd.prog 60 #[.slice a n cap, .int .i64 (n : Int), .slice (some ⟨g2, 0, none⟩) m m] w (InsR w base a (xs ++ ys)) := by
  obtain ⟨v, hv⟩ := sB_any a n n cap (Nat.le_refl _)
  obtain ⟨a', cap', w', hrun, hown, hgr, _⟩ := run_append_rd w base 25 ho m hz.len hz.rd (by omega) hb
  have HR : Hid (InsR w base a (xs ++ ys) (.returned (.slice a' (n + m) cap')) w') := ⟨a', n + m, cap', rfl, hown, Kept.grown hgr (fun k hk => hk)⟩
  have m0 : ¬ ((m : Int) = 0) := by omega
  clear ho hz hlim hown hgr hb
  go_enter Tryd.func60, Tryd.ntmps60
  go_wp2_with (at_builtin; refine Lib.wpList_append_run _ rfl (.tmp 23) (.tmp 24) _ _ rfl _ _ rfl rfl _ _ hrun ?_)
  go_ret
  exact HR.out
set_option maxRecDepth 100000 in
set_option maxHeartbeats 4000000 in
theorem sIns_new (w : World) (base base2 : Nat) {g n cap : Nat} {xs : List Int} (ho : Own w base (some ⟨g, 0, none⟩) n cap xs) (i : Nat) (hi : i < n) (g2 m : Nat) (ys : List Int) (hm : 0 < m) (hz : Own w base2 (some ⟨g2, 0, none⟩) m m ys) (hlim : n + m ≤ 1000) (hb : base ≤ w.heap.size) (hroom : cap < n + m) :
    Calls Tryd.prog 60 #[.slice (some ⟨g, 0, none⟩) n cap, .int .i64 (i : Int), .slice (some ⟨g2, 0, none⟩) m m] w (InsR w base (some ⟨g, 0, none⟩) (xs.take i ++ ys ++ xs.drop i)) := by
  have hxl := ho.len
  have hyl := hz.len
  obtain ⟨R0, hraw0, hRl, hbg, hnc, hcm⟩ := ho.raw
  have hgw : g < w.heap.size := (Array.getElem?_eq_some_iff.1 hraw0).1
  have hot : Own w base (some ⟨g, 0, none⟩) i cap (xs.take i) := by
    have e : bv xs ++ R0 = bv (xs.take i) ++ (bv (xs.drop i) ++ R0) := by rw [← List.append_assoc, ← bv_append, List.take_append_drop]
    rw [e] at hraw0 hRl
    exact hraw0.own (by simp; omega) hRl hbg hcm
  obtain ⟨k, hk⟩ : ∃ k, n + m - i = k := ⟨_, rfl⟩
  obtain ⟨c2, w1, hrun1, hown1, hb1⟩ := run_append_zeros_new w base 25 hot k (by omega) (by omega) (by omega)
  rw [show i + k = n + m by omega] at hrun1 hown1
  obtain ⟨h, hh⟩ : ∃ h, w.heap.size = h := ⟨_, rfl⟩
  rw [hh] at hrun1 hown1
  obtain ⟨R1, hraw1, hR1l, _, hnc1, hcm1⟩ := hown1.raw
  have hrunz : ∀ ty, (Builtin.append_ #[25, 3] ty #[.slice (some ⟨g, 0, none⟩) i cap, .int .i64 ((n : Int) + (m : Int) - (i : Int))]).run Tryd.prog w = (Builtin.append_ #[25, 3] ty #[.slice (some ⟨g, 0, none⟩) i cap, .int .i64 (k : Int)]).run Tryd.prog w := fun ty => by rw [show (n : Int) + (m : Int) - (i : Int) = (k : Int) by omega]
  have hrd2 : Rd w1 (some ⟨g2, 0, none⟩) ys := hz.rd.below hb1
  obtain ⟨w2, hrun2, hr2, hk2⟩ := run_copy_raw w1 3 h i (n + m - i) (c2 - i) _ hraw1 (ad := ⟨g2, 0, none⟩) (n := m) (c := m) (ys := ys) (by rw [hyl]; exact (Nat.min_eq_left (by omega)).symm) hm (zs' := ys) hyl (List.take_of_length_le (Nat.le_refl _)) hrd2 (by rw [hR1l]; omega)
  obtain ⟨L2, hL2⟩ : ∃ L, spl (bv (xs.take i ++ zs k) ++ R1) i (bv ys) = L := ⟨_, rfl⟩
  rw [hL2] at hr2
  have hl2 : L2.length = c2 := by rw [← hL2, spl_len _ _ _ (by rw [bv_length, hyl, hR1l]; omega), hR1l]
  have e2 : L2 = bv (xs.take i ++ ys) ++ L2.drop (i + m) := by
    have h1 : (bv (xs.take i)).length = i := by rw [bv_length]; simp; omega
    have h2 : L2 = bv (xs.take i) ++ bv ys ++ (bv (xs.take i ++ zs k) ++ R1).drop (i + (bv ys).length) := by
      rw [← hL2]
      unfold spl
      congr 2
      rw [bv_append, List.append_assoc, tkl h1]
    have h3 : (bv (xs.take i ++ ys)).length = i + m := by rw [bv_append, List.length_append, h1, bv_length, hyl]
    have h4 := congrArg (List.take (i + m)) h2
    rw [← bv_append, tkl h3] at h4
    rw [← h4, List.take_append_drop]
  have HK2 : Hid (Kept (fun k => k = h) w w2) := (Kept.of_below (S := fun k => k = h) hb1 (fun k hk hk2 => by omega)).trans hk2 (fun k _ e => e)
  have HR2 := Lib.hid hr2
  have HL2 := Lib.hid hl2
  have HE2 := Lib.hid e2
  have HDL : Hid ((xs.drop i).length = n - i) := by show _ = _; rw [List.length_drop, hxl]
  have HRD : Hid (∀ w', Kept (fun k => k = h) w w' → Rd w' (some ⟨g, i, none⟩) (xs.drop i)) := fun w' hk' => by
    have h1 := (ho.rd.cut (q := i) (m := n - i) (by omega)).keep hk' (fun b hb => by simp [blk] at hb; omega)
    rw [Nat.zero_add, List.take_of_length_le (by rw [List.length_drop, hxl]; omega)] at h1
    exact h1
  have HFIN : Hid (∀ w4, Raw w4 h (spl L2 (i + m) (bv (xs.drop i))) → Kept (fun k => k = h) w w4 → InsR w base (some ⟨g, 0, none⟩) (xs.take i ++ ys ++ xs.drop i) (.returned (.slice (some ⟨h, 0, none⟩) (n + m) c2)) w4) := fun w4 hr4 hk4 => by
    have h3 : (bv (xs.take i ++ ys)).length = i + m := by rw [bv_length, List.length_append, hyl]; simp; omega
    have e4 : spl L2 (i + m) (bv (xs.drop i)) = bv (xs.take i ++ ys ++ xs.drop i) ++ L2.drop (i + m + (bv (xs.drop i)).length) := by
      unfold spl
      rw [bv_append _ (xs.drop i)]
      congr 2
      rw [e2, tkl h3]
    rw [e4] at hr4
    refine ⟨_, _, _, rfl, hr4.own (by simp only [List.length_append, List.length_take, List.length_drop]; omega) ?_ (by omega) hcm1, hk4.mono (fun k hk e => by omega)⟩
    have := congrArg List.length e4
    rw [spl_len _ _ _ (by rw [bv_length, List.length_drop]; omega)] at this
    omega
  have HQ1 : Hid (IntKind.i64.wrap ((i : Int) + (m : Int)) = (i : Int) + m) := by show _ = _; rw [IntKind.wrap_i64]; omega
  have HS4 := Lib.hid (fun w => sB_from h 0 (i + m) (n + m) c2 (by omega) (by omega) w)
  have HS5 := Lib.hid (fun w => sB_from g 0 i n cap (by omega) (by omega) w)
  rw [Nat.zero_add] at HS5 HS4
  have hs1 := fun w => sB_to g i n cap (by omega) w
  have hs2 := fun w => sB_from h 0 i (n + m) c2 (by omega) (by omega) w
  simp only [Nat.zero_add] at hs2
  have HHG : Hid (h ≠ g) := by show ¬ _; omega
  have HT1 : Hid ((0 : Int) ≤ (i : Int) + (m : Int)) := by show (0 : Int) ≤ _; omega
  have HT2 : Hid (((i : Int) + (m : Int)).toNat = i + m) := by show _ = _; omega
  have HT3 : Hid (¬ c2 = i + m) := by show ¬ _; omega
  have HT4 : Hid (i ≤ n) := by show i ≤ n; omega
  have hv := fun w => sB_from g 0 i n cap (by omega) (by omega) w
  simp only [Nat.zero_add] at hv
  have m0 : ¬ ((m : Int) = 0) := by omega
  have i0 : ¬ ((i : Int) = (n : Int)) := by omega
  have r0 : (cap : Int) < (n : Int) + (m : Int) := by omega
  have w0 : IntKind.i64.wrap ((n : Int) + (m : Int)) = (n : Int) + m := by rw [IntKind.wrap_i64]; omega
  have w1' : IntKind.i64.wrap ((n : Int) + (m : Int) - (i : Int)) = (n : Int) + m - i := by rw [IntKind.wrap_i64]; omega
  have hrun1' : ∀ x, (x : Int) = k → (Builtin.append_ #[25, 3] 25 #[.slice (some ⟨g, 0, none⟩) i cap, .int .i64 x]).run Tryd.prog w = .ok (.slice (some ⟨h, 0, none⟩) (n + m) c2) w1 := fun x e => by rw [e]; exact hrun1
  have hrun1 := hrun1' ((n : Int) + (m : Int) - (i : Int)) (by omega)
  have HRUN2 := Lib.hid hrun2
  clear ho hz hot hraw0 hraw1 hRl hR1l hown1 hb1 hrd2 hr2 hk2 hL2 hl2 e2 hrunz hrun1' hrun2 hk
  go_enter Tryd.func60, Tryd.ntmps60
  go_wp2_with (first
    | (at_builtin; refine Lib.wpList_append_run _ rfl (.tmp 34) (.tmp 39) _ _ rfl _ _ rfl rfl _ _ hrun1 ?_)
    | (refine wpList_copyA rfl (.tmp 43) (.tmp 44) 25 25 rfl _ _ rfl rfl HRUN2.out ?_))
  clear hrun1
  refine wp_region_held_drew (S := fun w' => True) (by kernel_rfl) trivial (fun hS => ?_)
  refine tk 0 46 (.slice (some ⟨h, 0, none⟩) (n + m) c2) rfl rfl (by kernel_rfl) (by kernel_rfl) (by kernel_rfl) (fun _ _ _ h => h) (Or.inl ⟨by rfl, fun w' h' => ?_⟩) hS ?_
  · go_simp
  try simp only [Act.put, List.setIfInBounds_toArray, List.set_cons_zero, List.set_cons_succ]
  refine tk 1 47 (.int .i64 (i : Int)) rfl rfl (by kernel_rfl) (by kernel_rfl) (by kernel_rfl) (fun _ _ _ h => h) (Or.inl ⟨by rfl, fun w' h' => ?_⟩) hS ?_
  · go_simp
  try simp only [Act.put, List.setIfInBounds_toArray, List.set_cons_zero, List.set_cons_succ]
  refine tk 2 48 (.int .i64 (m : Int)) rfl rfl (by kernel_rfl) (by kernel_rfl) (by kernel_rfl) (fun _ _ _ h => h) (Or.inl ⟨by rfl, fun w' h' => ?_⟩) hS ?_
  · go_simp
  try simp only [Act.put, List.setIfInBounds_toArray, List.set_cons_zero, List.set_cons_succ]
  refine tk 3 49 (.int .i64 ((i : Int) + (m : Int))) rfl rfl (by kernel_rfl) (by kernel_rfl) (by kernel_rfl) (fun _ _ _ h => h) (Or.inl ⟨by rfl, fun w' h' => ?_⟩) hS ?_
  · have q1 := HQ1.out
    go_simp
  try simp only [Act.put, List.setIfInBounds_toArray, List.set_cons_zero, List.set_cons_succ]
  refine tk 4 50 (.slice (some ⟨h, i + m, none⟩) (n + m - (i + m)) (c2 - (i + m))) rfl rfl (by kernel_rfl) (by kernel_rfl) (by kernel_rfl) (fun _ _ _ h => h) (Or.inl ⟨by rfl, fun w' h' => ?_⟩) hS ?_
  · have q1 := HT1.out
    have q2 := HT2.out
    have q3 := HT3.out
    have q4 := HT4.out
    go_simp
  try simp only [Act.put, List.setIfInBounds_toArray, List.set_cons_zero, List.set_cons_succ]
  refine tk 5 51 (.slice (some ⟨g, 0, none⟩) n cap) rfl rfl (by kernel_rfl) (by kernel_rfl) (by kernel_rfl) (fun _ _ _ h => h) (Or.inl ⟨by rfl, fun w' h' => ?_⟩) hS ?_
  · go_simp
  try simp only [Act.put, List.setIfInBounds_toArray, List.set_cons_zero, List.set_cons_succ]
  refine tk 6 52 (.int .i64 (i : Int)) rfl rfl (by kernel_rfl) (by kernel_rfl) (by kernel_rfl) (fun _ _ _ h => h) (Or.inl ⟨by rfl, fun w' h' => ?_⟩) hS ?_
  · go_simp
  try simp only [Act.put, List.setIfInBounds_toArray, List.set_cons_zero, List.set_cons_succ]
  refine tk 7 53 (.slice (some ⟨g, i, none⟩) (n - i) (cap - i)) rfl rfl (by kernel_rfl) (by kernel_rfl) (by kernel_rfl) (fun _ _ _ h => h) (Or.inl ⟨by rfl, fun w' h' => ?_⟩) hS ?_
  · have q1 := HS5.out w'
    go_simp
  try simp only [Act.put, List.setIfInBounds_toArray, List.set_cons_zero, List.set_cons_succ]
  refine wpAnyH_ready (rs := [8]) (by kernel_rfl) (by simp) (AllReadyH.cons rfl (fun K hK => ?_) AllReadyH.nil)
  rw [if_pos (by rfl)]
  obtain ⟨w4, hrun4, hr4, hk4⟩ := run_copy_raw w2.drew 3 h (i + m) (n + m - (i + m)) (c2 - (i + m)) L2 HR2.out (ad := ⟨g, i, none⟩) (n := n - i) (c := cap - i) (ys := xs.drop i) (by rw [HDL.out, show n + m - (i + m) = n - i by omega]; exact (Nat.min_self _).symm) (by omega) (zs' := xs.drop i) HDL.out (List.take_of_length_le (Nat.le_refl _)) (HRD.out _ HK2.out.drew) (by rw [HDL.out, HL2.out]; omega)
  have HF := Lib.hid (HFIN.out w4 hr4 (HK2.out.drew.trans hk4 (fun k hk e => by have := HHG.out; omega)))
  refine wp_copyA (.tmp 50) (.tmp 53) 25 25 rfl _ _ rfl rfl hrun4 ?_
  clear hrun4 hr4 hk4
  clear hS
  refine hK.out _ _ (trivial) (fun hS => ?_)
  clear hK K
  refine wpAnyH_done (by kernel_rfl) ?_ _
  clear hS
  go_wp2_with fail
  go_ret
  exact HF.out
set_option maxRecDepth 100000 in
set_option maxHeartbeats 4000000 in
theorem sIns_room (w : World) (base base2 : Nat) {g n cap : Nat} {xs : List Int} (ho : Own w base (some ⟨g, 0, none⟩) n cap xs) (i : Nat) (hi : i < n) (g2 m : Nat) (ys : List Int) (hm : 0 < m) (hz : Own w base2 (some ⟨g2, 0, none⟩) m m ys) (hlim : n + m ≤ 1000) (hne : g2 ≠ g) (hroom : n + m ≤ cap) :
    Calls Tryd.prog 60 #[.slice (some ⟨g, 0, none⟩) n cap, .int .i64 (i : Int), .slice (some ⟨g2, 0, none⟩) m m] w (InsR w base (some ⟨g, 0, none⟩) (xs.take i ++ ys ++ xs.drop i)) := by
  obtain ⟨v, hv⟩ := sB_any (some ⟨g, 0, none⟩) i n cap (by omega)
  have hxl := ho.len
  have hyl := hz.len
  obtain ⟨R0, hraw0, hRl, hbg, hnc, hcm⟩ := ho.raw
  obtain ⟨R2, hraw2, hR2l, _, _, _⟩ := hz.raw
  have hdl : (xs.drop i).length = n - i := by rw [List.length_drop, hxl]
  have htl : (bv (xs.take i)).length = i := by rw [bv_length]; simp; omega
  have hrd : Rd w.drew (some ⟨g, i, none⟩) (xs.drop i ++ (List.replicate 0 0)) := by
    have h1 := ho.rd.cut (q := i) (m := n - i) (by omega)
    rw [Nat.zero_add, List.take_of_length_le (by rw [List.length_drop, hxl]; omega)] at h1
    rw [List.replicate_zero, List.append_nil]
    exact h1
  obtain ⟨L0, hL0⟩ : ∃ L, bv xs ++ R0 = L := ⟨_, rfl⟩
  rw [hL0] at hraw0 hRl
  have hcell : ∀ j v, (bv (xs.drop i))[j]? = some v → w.drew.cell? (Addr.add ⟨g, i, none⟩ j) = some v := fun j v hv => by
    have hj : j < (xs.drop i).length := by have := (List.getElem?_eq_some_iff.1 hv).1; rwa [bv_length] at this
    obtain ⟨b, o', e, hc⟩ := hrd (by intro e; simp at e; omega)
    simp only [Option.some.injEq, Addr.mk.injEq, and_true] at e
    obtain ⟨rfl, rfl⟩ := e
    rw [Addr.add_lit, hc j (by simpa using hj)]
    rw [bv_get _ _ hj] at hv
    rw [← hv]
    simp
  have hrun3 := run_copy_row (P := Tryd.prog) w.drew 25 25 3 5 g (i + m) (n + m - (i + m)) (cap - (i + m)) ⟨g, i, none⟩ (n + m - i) (cap - i) L0.toArray 5 (bv (xs.drop i)) Tryd.underlying25 infB1 hraw0 (by rw [bv_length, hdl, show n + m - (i + m) = n - i by omega]; exact (Nat.min_eq_right (by omega)).symm) hcell (by rw [bv_length, hdl]; simp; omega) (bv_one _)
  obtain ⟨w3, hw3⟩ : ∃ x, (w.drew.setRow g (L0.toArray.toList.take (i + m) ++ bv (xs.drop i) ++ L0.toArray.toList.drop (i + m + (bv (xs.drop i)).length)).toArray) = x := ⟨_, rfl⟩
  have hk3 : Kept (fun k => k = g) w w3 := by rw [← hw3]; exact (Kept.refl _ _).drew.trans (Kept.row1 (S := fun k => k = g) _ _ _ rfl) (fun k _ e => e)
  have hr3 : Raw w3 g (spl L0 (i + m) (bv (xs.drop i))) := by
    rw [← hw3]
    show (w.drew.setRow g _).heap[g]? = _
    rw [setRow_heap w.drew g _ _ _ _ hraw0]
    simp [spl]
  rw [hw3] at hrun3
  rw [bv_length] at hrun3
  clear hw3
  have hrd2 : Rd w3 (some ⟨g2, 0, none⟩) ys := hz.rd.keep hk3 (fun b hb => by simp [blk] at hb; omega)
  have hl3 : (spl L0 (i + m) (bv (xs.drop i))).length = cap := by rw [spl_len _ _ _ (by rw [bv_length, hdl]; omega), hRl]
  obtain ⟨w4, hrun4, hr4, hk4⟩ := run_copy_raw w3 3 g i (n + m - i) (cap - i) _ hr3 (ad := ⟨g2, 0, none⟩) (n := m) (c := m) (ys := ys) (by rw [hyl]; exact (Nat.min_eq_left (by omega)).symm) hm (zs' := ys) hyl (List.take_of_length_le (Nat.le_refl _)) hrd2 (by rw [hl3]; omega)
  have HFIN : Hid (InsR w base (some ⟨g, 0, none⟩) (xs.take i ++ ys ++ xs.drop i) (.returned (.slice (some ⟨g, 0, none⟩) (n + m) cap)) w4) := by
    have e1 : L0.take i = bv (xs.take i) := by
      rw [← hL0, List.take_append_of_le_length (by rw [bv_length]; omega)]
      simp [bv, List.map_take]
    have e3 : (spl L0 (i + m) (bv (xs.drop i))).take i = bv (xs.take i) := by
      unfold spl
      rw [List.append_assoc, List.take_append_of_le_length (by rw [List.length_take]; omega), List.take_take, show min i (i + m) = i by omega, e1]
    have e4 : (spl L0 (i + m) (bv (xs.drop i))).drop (i + (bv ys).length) = bv (xs.drop i) ++ L0.drop (i + m + (bv (xs.drop i)).length) := by
      have h5 : (L0.take (i + m)).length = i + m := by rw [List.length_take]; omega
      unfold spl
      rw [bv_length, hyl, List.append_assoc, dpl h5]
    have e5 : spl (spl L0 (i + m) (bv (xs.drop i))) i (bv ys) = bv (xs.take i ++ ys ++ xs.drop i) ++ L0.drop (i + m + (bv (xs.drop i)).length) := by
      rw [spl, e3, e4, bv_append, bv_append]
      simp
    rw [e5] at hr4
    refine ⟨_, _, _, rfl, hr4.own (by simp only [List.length_append, List.length_take, List.length_drop]; omega) ?_ hbg hcm, (hk3.trans hk4 (fun k _ e => e)).mono (fun k _ e => by simp [blk, e])⟩
    have := congrArg List.length e5
    rw [spl_len _ _ _ (by rw [bv_length, hl3]; omega), hl3] at this
    omega
  have HRUN3 := Lib.hid hrun3
  have HRUN4 := Lib.hid hrun4
  have HQ1 : Hid (IntKind.i64.wrap ((i : Int) + (m : Int)) = (i : Int) + m) := by show _ = _; rw [IntKind.wrap_i64]; omega
  have hov := fun lb cb => over_no w g2 g (i + m) m m lb cb hraw2 hraw0 (by omega) hne
  have HS4 := Lib.hid (fun w => sB_from g 0 (i + m) (n + m) cap (by omega) (by omega) w)
  have HS5 := Lib.hid (fun w => sB_from g 0 i (n + m) cap (by omega) (by omega) w)
  rw [Nat.zero_add] at HS5 HS4
  have hs1 := fun w => sB_to g (n + m) n cap (by omega) w
  have hs2 := HS4.out
  have hs3 := HS5.out
  have HT1 : Hid ((0 : Int) ≤ (i : Int) + (m : Int)) := by show (0 : Int) ≤ _; omega
  have HT2 : Hid (((i : Int) + (m : Int)).toNat = i + m) := by show _ = _; omega
  have HT3 : Hid (¬ cap = i + m) := by show ¬ _; omega
  have HT4 : Hid (i ≤ n) := by show i ≤ n; omega
  have m0 : ¬ ((m : Int) = 0) := by omega
  have i0 : ¬ ((i : Int) = (n : Int)) := by omega
  have r0 : ¬ ((cap : Int) < (n : Int) + (m : Int)) := by omega
  have w0 : IntKind.i64.wrap ((n : Int) + (m : Int)) = (n : Int) + m := by rw [IntKind.wrap_i64]; omega
  have w1' := HQ1.out
  clear ho hz hraw0 hraw2 hRl hR2l hrd hL0 hcell hk3 hr3 hrd2 hl3 hr4 hk4 hrun3 hrun4 hdl htl
  go_enter Tryd.func60, Tryd.ntmps60
  go_wp2_with fail
  refine wp_region_held_drew (S := fun w' => True) (by kernel_rfl) trivial (fun hS => ?_)
  refine tk 0 69 (.slice (some ⟨g, 0, none⟩) (n + m) cap) rfl rfl (by kernel_rfl) (by kernel_rfl) (by kernel_rfl) (fun _ _ _ h => h) (Or.inl ⟨by rfl, fun w' h' => ?_⟩) hS ?_
  · go_simp
  try simp only [Act.put, List.setIfInBounds_toArray, List.set_cons_zero, List.set_cons_succ]
  refine tk 1 70 (.int .i64 (i : Int)) rfl rfl (by kernel_rfl) (by kernel_rfl) (by kernel_rfl) (fun _ _ _ h => h) (Or.inl ⟨by rfl, fun w' h' => ?_⟩) hS ?_
  · go_simp
  try simp only [Act.put, List.setIfInBounds_toArray, List.set_cons_zero, List.set_cons_succ]
  refine tk 2 71 (.int .i64 (m : Int)) rfl rfl (by kernel_rfl) (by kernel_rfl) (by kernel_rfl) (fun _ _ _ h => h) (Or.inl ⟨by rfl, fun w' h' => ?_⟩) hS ?_
  · go_simp
  try simp only [Act.put, List.setIfInBounds_toArray, List.set_cons_zero, List.set_cons_succ]
  refine tk 3 72 (.int .i64 ((i : Int) + (m : Int))) rfl rfl (by kernel_rfl) (by kernel_rfl) (by kernel_rfl) (fun _ _ _ h => h) (Or.inl ⟨by rfl, fun w' h' => ?_⟩) hS ?_
  · have q1 := HQ1.out
    go_simp
  try simp only [Act.put, List.setIfInBounds_toArray, List.set_cons_zero, List.set_cons_succ]
  refine tk 4 73 (.slice (some ⟨g, i + m, none⟩) (n + m - (i + m)) (cap - (i + m))) rfl rfl (by kernel_rfl) (by kernel_rfl) (by kernel_rfl) (fun _ _ _ h => h) (Or.inl ⟨by rfl, fun w' h' => ?_⟩) hS ?_
  · have q1 := HT1.out
    have q2 := HT2.out
    have q3 := HT3.out
    have q4 := HT4.out
    go_simp
  try simp only [Act.put, List.setIfInBounds_toArray, List.set_cons_zero, List.set_cons_succ]
  refine tk 5 74 (.slice (some ⟨g, 0, none⟩) (n + m) cap) rfl rfl (by kernel_rfl) (by kernel_rfl) (by kernel_rfl) (fun _ _ _ h => h) (Or.inl ⟨by rfl, fun w' h' => ?_⟩) hS ?_
  · go_simp
  try simp only [Act.put, List.setIfInBounds_toArray, List.set_cons_zero, List.set_cons_succ]
  refine tk 6 75 (.int .i64 (i : Int)) rfl rfl (by kernel_rfl) (by kernel_rfl) (by kernel_rfl) (fun _ _ _ h => h) (Or.inl ⟨by rfl, fun w' h' => ?_⟩) hS ?_
  · go_simp
  try simp only [Act.put, List.setIfInBounds_toArray, List.set_cons_zero, List.set_cons_succ]
  refine tk 7 76 (.slice (some ⟨g, i, none⟩) (n + m - i) (cap - i)) rfl rfl (by kernel_rfl) (by kernel_rfl) (by kernel_rfl) (fun _ _ _ h => h) (Or.inl ⟨by rfl, fun w' h' => ?_⟩) hS ?_
  · have q1 := HS5.out w'
    go_simp
  try simp only [Act.put, List.setIfInBounds_toArray, List.set_cons_zero, List.set_cons_succ]
  refine wpAnyH_ready (rs := [8]) (by kernel_rfl) (by simp) (AllReadyH.cons rfl (fun K hK => ?_) AllReadyH.nil)
  rw [if_pos (by rfl)]
  have hrun3 := HRUN3.out
  refine wp_copyA (.tmp 73) (.tmp 76) 25 25 rfl _ _ rfl rfl hrun3 ?_
  clear hrun3
  clear hS
  refine hK.out _ _ (trivial) (fun hS => ?_)
  clear hK K
  refine wpAnyH_done (by kernel_rfl) ?_ _
  clear hS
  go_wp2_with (refine wpList_copyA rfl (.tmp 80) (.tmp 81) 25 25 rfl _ _ rfl rfl HRUN4.out ?_)
  go_ret
  exact HFIN.out
end Go.Proofs.YtbnfmiopgjmppaaDoor

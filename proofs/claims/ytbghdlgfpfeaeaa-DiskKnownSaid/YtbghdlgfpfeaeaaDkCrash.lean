/-
  The contract of Crash. Conditions: those that the theorems name. (Made by gen_dkcrash.py.)
-/
import Derived.Test.YtbghdlgfpfeaeaaDkSync
namespace Go.Proofs.Ytbghdlgfpfeaeaa
open Go.RowKit

/-- A fate: its kind, its place. -/
abbrev Ft := Int × Int
/-- Fates lie there, one behind the other. -/
def Fts (w : World) (a : Option Addr) (n : Nat) (l : List Ft) : Prop := l.length = n ∧ (l ≠ [] → ∃ r o, a = some ⟨r, o, none⟩ ∧ ∀ i f, l[i]? = some f → w.cell? ⟨r, o + i * 2, none⟩ = some (.int .i64 f.1) ∧ w.cell? ⟨r, o + i * 2 + 1, none⟩ = some (.int .i64 f.2))
theorem Fts.keep {S : Nat → Prop} {w w' : World} {a : Option Addr} {n : Nat} {l : List Ft} (h : Fts w a n l) (k : Kept S w w') (hn : l ≠ [] → ∀ b, blk a = some b → ¬ S b) : Fts w' a n l := ⟨h.1, fun hne => by
  obtain ⟨r, o, rfl, hc⟩ := h.2 hne
  refine ⟨r, o, rfl, fun i f hf => ?_⟩
  obtain ⟨h1, h2⟩ := hc i f hf
  refine ⟨?_, ?_⟩
  · rw [← h1]; exact World.cell?_of_block (k.block r (World.block_lt_of_cell? w _ h1) (hn hne r rfl))
  · rw [← h2]; exact World.cell?_of_block (k.block r (World.block_lt_of_cell? w _ h2) (hn hne r rfl))⟩
/-- A write, cut at what its fate lets be done. -/
def cutN (x : Uw) (f : Ft) : Nat := (dnV f.1 f.2 x.n).toNat
def Uw.cut (x : Uw) (f : Ft) : Uw := ⟨x.at_, x.a, cutN x f, x.c, x.d.take (cutN x f)⟩
theorem dnV_cut (x : Uw) (f : Ft) : dnV f.1 f.2 x.n = (cutN x f : Int) ∧ cutN x f ≤ x.n := by
  unfold cutN dnV
  repeat' split
  all_goals omega
/-- All writes, cut. -/
def trim (l : List Uw) (fs : List Ft) : List Uw := l.mapIdx fun i x => x.cut (fs.getD i (0, 0))
theorem trim_get {l : List Uw} {fs : List Ft} {i : Nat} {x : Uw} (h : l[i]? = some x) : (trim l fs)[i]? = some (x.cut (fs.getD i (0, 0))) := by
  simp [trim, List.getElem?_mapIdx, h]
theorem trim_len (l : List Uw) (fs : List Ft) : (trim l fs).length = l.length := by simp [trim]
theorem Uw.lies.cut {x : Uw} {w : World} (h : x.lies w) (f : Ft) : (x.cut f).lies w := by
  have h1 := (dnV_cut x f).2
  refine ⟨?_, h.rd.taken _, h.byt.take _, Nat.le_trans h1 h.few⟩
  show (x.d.take (cutN x f)).length = cutN x f
  have := h.len
  simp
  omega
theorem Dm.laid2 {w w' : World} {B g : Nat} {k : Dk} (h : Dm w B g k) {x : Uw} (hx : Byt x.d) (ho : Own w' B k.a k.d.length k.c (layL k.d x.d x.at_ 0)) (hk : Kept (fun i => blk k.a = some i) w w') : Dm w' B g { k with d := layL k.d x.d x.at_ 0 } := by
  have hl := layL_len k.d x.d x.at_ 0
  have hg : blk k.a ≠ some g := fun e => by
    obtain ⟨b, cur, e2, _, hb, _⟩ := h.dur.cases.resolve_left (by rintro ⟨e2, _⟩; rw [e2] at e; cases e)
    rw [e2] at e
    simp [blk] at e
    subst e
    rw [h.row] at hb
    simp at hb
  refine ⟨⟨by show (layL _ _ _ _).length ≤ _; rw [hl]; exact h.ok.few, layL_byt h.ok.byt hx, h.ok.at0, fun y hy => by show _ ≤ ((layL _ _ _ _).length : Int); rw [hl]; exact h.ok.at1 y hy, h.ok.wbyt⟩, ?_, ?_, h.wr.keep hk (fun b hb e => (own_of h.dur).apart h.wr.row (by decide) b e hb) (fun y hy b hb e => h.off y hy b e hb), h.off, h.base⟩
  · show _ = some (Obj.cells (List.toArray [Value.slice k.a (layL k.d x.d x.at_ 0).length k.c, Value.slice k.u k.W.length k.v]) _ _)
    rw [hl]
    exact hk.heap h.row (fun e => hg e)
  · show Own w' B k.a (layL k.d x.d x.at_ 0).length k.c _
    rw [hl]
    exact ho
/-- The memory while cut writes are laid. -/
structure Lz (w : World) (B g : Nat) (k : Dk) (L : List Uw) (i : Nat) (wr : World) : Prop where
  dm : Dm wr B g { k with d := lays k.d (L.take i) }
  kept : Kept (fun b => blk k.a = some b) w wr
section
variable {w wr w' w2 : World} {B g j m : Nat} {k : Dk} {L : List Uw}
theorem Lz.c0 (h : Lz w B g k L j wr) : wr.cell? ⟨g, 0, none⟩ = some (.slice k.a k.d.length k.c) := by
  have := h.dm.c0
  simp only [lays_len] at this
  exact this
theorem Lz.below (h : Lz w B g k L j wr) (hb : Below wr.heap.size wr w') : Lz w B g k L j w' :=
  ⟨h.dm.below hb, h.kept.trans (Kept.of_below (S := fun _ => False) hb (fun i hi hi2 => by omega)) (fun _ _ e => e.elim)⟩
theorem Lz.dur (h : Lz w B g k L j wr) : Own wr B k.a k.d.length k.c (lays k.d (L.take j)) := by
  have := h.dm.dur
  simp only [lays_len] at this
  exact this
theorem Lz.lay (h : Lz w B g k L j wr) {x : Uw} (hx : L[j]? = some x) (hb : Byt x.d) (ho : Own w2 B k.a k.d.length k.c (layL (lays k.d (L.take j)) x.d x.at_ 0)) (hk : Kept (fun i => blk k.a = some i) wr w2) : Lz w B g k L (j + 1) w2 := by
  have e : L.take (j + 1) = L.take j ++ [x] := by rw [List.take_add_one, hx]; rfl
  have hd := h.dm.laid2 (x := x) hb (by show Own w2 B k.a (lays k.d (L.take j)).length k.c _; rw [lays_len]; exact ho) hk
  refine ⟨?_, h.kept.trans hk (fun _ _ e => e)⟩
  rw [e, lays_snoc]
  exact hd
theorem Lz.fin (h : Lz w B g k L m wr) (hm : L.length = m) : Dm (wr.setCell ⟨g, 1, none⟩ (.slice none 0 0)) B g { k with d := lays k.d L, u := none, v := 0, W := [] } := by
  have hd := h.dm
  rw [List.take_of_length_le (by omega)] at hd
  refine ⟨⟨hd.ok.few, hd.ok.byt, fun x hx => (List.not_mem_nil hx).elim, fun x hx => (List.not_mem_nil hx).elim, fun x hx => (List.not_mem_nil hx).elim⟩, ?_, hd.dur.keep (Kept.setCell (S := fun i => i = g) _ _ _ rfl) (fun b hb e => ?_), ⟨OwnG.nil _ _ _ _, fun x hx => (List.not_mem_nil hx).elim, List.Pairwise.nil⟩, fun x hx => (List.not_mem_nil hx).elim, hd.base⟩
  · rw [heap_setCell_same _ g 1 _ _ _ hd.row]
    rfl
  · obtain ⟨b', cur, e2, _, hb', _⟩ := hd.dur.cases.resolve_left (by rintro ⟨e2, _⟩; rw [show k.a = none from e2] at hb; cases hb)
    have e3 : k.a = some ⟨b', 0, none⟩ := e2
    rw [e3] at hb
    simp [blk] at hb
    rw [hb, e, hd.row] at hb'
    simp at hb'
end
/-- A row of bytes, up to a place. -/
theorem run_to_bytes (w : World) (a : Option Addr) (n c s : Nat) (hs : s ≤ n) (hc : n ≤ c) (hm : c ≤ maxLen) (h0 : a = none → c = 0) (ho : ∀ b, a = some b → ∃ r, b = ⟨r, 0, none⟩) :
    (Instr.sliceAt 31 (.slice a n c) none (some (.int .i64 s)) none).run Try.prog w = .ok (.slice a s c) w := by
  have h3 : (s : Int) ≤ (n : Int) := by omega
  have h4 : (n : Int) ≤ (c : Int) := by omega
  have h5 : (0 : Int) ≤ (s : Int) := by omega
  have h6 : (s : Int) ≤ (c : Int) := by omega
  cases a with
  | none =>
    have := h0 rfl
    subst this
    obtain rfl : n = 0 := by omega
    obtain rfl : s = 0 := by omega
    go_simp
  | some b =>
    obtain ⟨r, rfl⟩ := ho b rfl
    go_simp
/-- A write's own variable and its fate's. -/
structure Vf (w : World) (x : Uw) (f : Ft) (q : Nat) (w' : World) : Prop where
  below : Below w.heap.size w w'
  lt : w.heap.size < q
  var : w'.heap[w.heap.size]? = some (.cells x.cs.toArray 46 (0, 0))
  fate : w'.heap[q]? = some (.cells #[.int .i64 f.1, .int .i64 f.2] 44 (0, 0))
theorem Vf.new {w wc : World} {x : Uw} (h : Var w x wc) : Vf w x (0, 0) wc.heap.size (wc.alloc (.cells #[.int .i64 0, .int .i64 0] 44)) := by
  refine ⟨h.1.alloc h.1.size _, h.2.1, ?_, Blk_new wc _ _⟩
  rw [Below.heap_alloc _ _ _ h.2.1]; exact h.2.2
theorem Vf.set {w wf : World} {x : Uw} {f : Ft} {q : Nat} (h : Vf w x f q wf) (f' : Ft) : Vf w x f' q (wf.setCells q 0 [.int .i64 f'.1, .int .i64 f'.2]) := by
  have hk : Kept (fun i => i = q) wf (wf.setCells q 0 [.int .i64 f'.1, .int .i64 f'.2]) := by
    simp only [World.setCells]
    exact (Kept.setCell (S := fun i => i = q) _ _ _ rfl).trans (Kept.setCell (S := fun i => i = q) _ _ _ rfl) (fun _ _ e => e)
  refine ⟨h.below.trans (hk.below h.below.size (fun i e => by have := h.lt; omega)), h.lt, hk.heap h.var (by have := h.lt; omega), ?_⟩
  simp only [World.setCells]
  rw [heap_setCell_same _ _ _ _ _ _ (heap_setCell_same _ _ _ _ _ _ h.fate)]
  rfl
theorem Vf.th {w wf : World} {x : Uw} {f : Ft} {q : Nat} (h : Vf w x f q wf) : World.there wf q 0 2 := fun j hj => by
  rw [cell_of_row _ _ (0 + j) _ _ (0, 0) h.fate, frozen_of_row _ _ (0 + j) _ _ h.fate]
  refine ⟨?_, rfl⟩
  rw [Nat.zero_add, Array.getElem?_eq_getElem (by simpa using hj)]
  rfl
theorem Vf.next {w wf w' : World} {x : Uw} {f : Ft} {q : Nat} (h : Vf w x f q wf) (hb : Below wf.heap.size wf w') : Vf w x f q w' := by
  have h1 := (Array.getElem?_eq_some_iff.1 h.var).1
  have h2 := (Array.getElem?_eq_some_iff.1 h.fate).1
  exact ⟨h.below.trans (hb.mono h.below.size), h.lt, (hb.block _ h1).trans h.var, (hb.block _ h2).trans h.fate⟩
theorem Vf.cut {w wf : World} {x : Uw} {f : Ft} {q : Nat} (h : Vf w x f q wf) : Vf w (x.cut f) f q (wf.setCell ⟨w.heap.size, 1, none⟩ (.slice x.a (cutN x f) x.c)) := by
  have hk : Kept (fun i => i = w.heap.size) wf (wf.setCell ⟨w.heap.size, 1, none⟩ (.slice x.a (cutN x f) x.c)) := Kept.setCell _ _ _ rfl
  refine ⟨h.below.trans (hk.below h.below.size (fun i e => by omega)), h.lt, ?_, hk.heap h.fate (by have := h.lt; omega)⟩
  rw [heap_setCell_same _ _ 1 _ _ _ h.var]
  rfl
theorem Vf.c1 {w wf : World} {x : Uw} {f : Ft} {q : Nat} (h : Vf w x f q wf) : wf.cell? ⟨w.heap.size, 1, none⟩ = some (.slice x.a x.n x.c) := by rw [cell_of_row _ _ 1 _ _ (0, 0) h.var]; rfl
theorem infFt : (Try.prog.info? 44).map (·.size) = some 2 := by kernel_rfl

set_option maxRecDepth 100000 in
set_option maxHeartbeats 2000000 in
theorem dkCrash_any (B g : Nat) (k : Dk) (fa : Option Addr) (n c : Nat) (fs : List Ft) (w : World) (h : Dm w B g k) (hfs : Fts w fa n fs) (_hn : n ≤ 9223372036854775807) (hof : fs ≠ [] → ∀ r, blk fa = some r → blk k.a ≠ some r) :
    Calls Try.prog 11 #[.pointer (some ⟨g, 0, none⟩), .slice fa n c] w fun e w' => e = .returned (.int .i64 k.W.length) ∧ Dm w' B g { k with d := lays k.d (trim k.W fs), u := none, v := 0, W := [] } ∧ Kept (fun i => i = g ∨ blk k.a = some i) w w' := by
  have c1 := h.c1
  have HD := Lib.hid h
  obtain ⟨mm, hm⟩ : ∃ z, k.W.length = z := ⟨_, rfl⟩
  have HM := Lib.hid hm
  have hmx : mm ≤ 9223372036854775807 := by have := h.wr.row.le.1; have := h.wr.row.le.2; simp only [maxLen] at this; omega
  have HFS := Lib.hid hfs
  have HOF := Lib.hid hof
  obtain ⟨L, hL⟩ : ∃ z, trim k.W fs = z := ⟨_, rfl⟩
  have HLL : Hid (trim k.W fs = L ∧ L.length = mm) := ⟨hL, by rw [← hL, trim_len]; exact hm⟩
  rw [hm] at c1 ⊢
  rw [hL]
  clear h hm hfs hof hL
  go_enter Try.func11, Try.ntmps11
  go_wp2_with fail
  go_loopw [21] (fun i wr => ∃ j : Nat, j ≤ mm ∧ i = .int .i64 j ∧ Hid (Lz w B g k L j wr)) (fun i _ => mm - (intOf i).toNat)
  case atStart => exact ⟨0, Nat.zero_le _, rfl, HD.out, Kept.refl _ _⟩
  case round =>
    obtain ⟨j, hj, rfl, HL⟩ := hrel
    by_cases hlt : j < mm
    · obtain ⟨x, u, hx, hxm, hu, d0, d1⟩ := HL.out.dm.nth (i := j) (by have := HM.out; show j < k.W.length; omega)
      have hu : k.u = some ⟨u, 0, none⟩ := hu
      have hx : k.W[j]? = some x := hx
      have hxm : x ∈ k.W := hxm
      rw [hu]
      obtain ⟨f, hf⟩ : ∃ z, fs.getD j (0, 0) = z := ⟨_, rfl⟩
      have HX : Hid (L[j]? = some (x.cut f) ∧ x ∈ k.W) := ⟨by rw [← HLL.out.1, ← hf]; exact trim_get hx, hxm⟩
      obtain ⟨m, hmc⟩ : ∃ z, cutN x f = z := ⟨_, rfl⟩
      have HMC := Lib.hid hmc
      have HDN : Hid (∀ W, Calls Try.prog 22 #[.agg #[.int .i64 f.1, .int .i64 f.2], .int .i64 (x.n : Int)] W (Gives W (.int .i64 (m : Int)))) := fun W => by
        have := done_any f.1 f.2 (x.n : Int) W (by omega)
        rw [(dnV_cut x f).1, hmc] at this
        exact this
      have HSL : Hid (∀ W, (Instr.sliceAt 31 (.slice x.a x.n x.c) none (some (.int .i64 (m : Int))) none).run Try.prog W = .ok (.slice x.a m x.c) W) := fun W => by
        have ho := HD.out.wr.data x hxm
        refine run_to_bytes W x.a x.n x.c m (by rw [← hmc]; exact (dnV_cut x f).2) ho.le.1 ho.le.2 (fun e => ?_) (fun b e => ?_)
        · rcases ho.cases with ⟨_, _, e2, _⟩ | ⟨b, cur, e2, _⟩
          · exact e2
          · rw [e2] at e; cases e
        · rcases ho.cases with ⟨e2, _⟩ | ⟨b', cur, e2, _⟩
          · rw [e2] at e; cases e
          · rw [e2] at e; cases e; exact ⟨_, rfl⟩
      have HF0 := Lib.hid (var_new wr x)
      have HT := Lib.hid (var_th wr x)
      have hlt2 : (j : Int) < (mm : Int) := by omega
      have e1 : IntKind.i64.wrap ((j : Int) + 1) = ((j + 1 : Nat) : Int) := by rw [IntKind.wrap_i64]; omega
      have HFSr : Hid (Fts wr fa n fs) := HFS.out.keep HL.out.kept (fun hne r hr e => HOF.out hne r hr e)
      clear hx hxm hu hmc
      by_cases hjn : j < n
      · have hjn2 : (j : Int) < (n : Int) := by omega
        obtain ⟨r, o, rfl, hc⟩ := HFSr.out.2 (by intro e; have := HFSr.out.1; rw [e] at this; simp at this; omega)
        have hfj : fs[j]? = some f := by
          rw [← hf, List.getD_eq_getElem?_getD, List.getElem?_eq_getElem (by have := HFSr.out.1; omega)]
          rfl
        obtain ⟨q0, q1⟩ := hc j f hfj
        have HQ : Hid (wr.cell? ⟨r, o + j * 2, none⟩ = some (.int .i64 f.1) ∧ wr.cell? ⟨r, o + j * 2 + 1, none⟩ = some (.int .i64 f.2)) := ⟨q0, q1⟩
        clear hc hfj hf q0 q1 HFSr
        go_wp2_with (first
          | (refine stN (fun w' => Hid (Var wr x w')) 46 (.tmp 7) (.tmp 25) rfl rfl wr.heap.size 0 x.cs rfl rfl HT.out infWr x.one HF0 ?_; intro wc HF; have HV0 := Lib.hid (Vf.new HF.out); have HT2 := Lib.hid HV0.out.th; have HV1 := Lib.hid (HV0.out.set f); have q0 := (World.cell?_of_block (HV0.out.below.block r (World.block_lt_of_cell? wr _ HQ.out.1))).trans HQ.out.1; have q1 := (World.cell?_of_block (HV0.out.below.block r (World.block_lt_of_cell? wr _ HQ.out.2))).trans HQ.out.2)
          | (refine stN (fun w' => Hid (Vf wr x f wc.heap.size w')) 44 (.tmp 8) (.tmp 33) rfl rfl wc.heap.size 0 [.int .i64 f.1, .int .i64 f.2] rfl rfl HT2.out infFt (by intro v hv; simp at hv; rcases hv with rfl | rfl <;> rfl) HV1 ?_; intro wf HV))
        obtain ⟨q, hq⟩ : ∃ z, wc.heap.size = z := ⟨_, rfl⟩
        rw [hq] at HV ⊢
        clear q0 q1 HT2 HV0 HV1 hq HF HF0 HT HQ d0 d1
        have HV3 : Hid (Vf wr x f q wf.drew) := HV.out.next ((Below.refl _ _).drew)
        refine wp_region_held_drew (S := fun w' => w'.heap[q]? = some (.cells #[.int .i64 f.1, .int .i64 f.2] 44 (0, 0))) (by kernel_rfl) HV3.out.fate (fun hS => ?_)
        refine tk 0 34 (.pointer (some ⟨wr.heap.size, 1, none⟩)) rfl rfl (by kernel_rfl) (by kernel_rfl) (by kernel_rfl) (fun _ _ _ h => h) (Or.inl ⟨by rfl, fun w' h' => ?_⟩) hS ?_
        · go_simp
        try simp only [Act.put, List.setIfInBounds_toArray, List.set_cons_zero, List.set_cons_succ]
        refine tk 2 36 (.agg #[.int .i64 f.1, .int .i64 f.2]) rfl rfl (by kernel_rfl) (by kernel_rfl) (by kernel_rfl) (fun _ _ _ h => h) (Or.inl ⟨by rfl, fun w' h' => ?_⟩) hS ?_
        · have c0 := cell_of_row w' _ 0 _ _ (0, 0) h'
          have c1 := cell_of_row w' _ 1 _ _ (0, 0) h'
          simp at c0 c1
          go_simp
        try simp only [Act.put, List.setIfInBounds_toArray, List.set_cons_zero, List.set_cons_succ]
        refine tk 3 37 (.pointer (some ⟨wr.heap.size, 1, none⟩)) rfl rfl (by kernel_rfl) (by kernel_rfl) (by kernel_rfl) (fun _ _ _ h => h) (Or.inl ⟨by rfl, fun w' h' => ?_⟩) hS ?_
        · go_simp
        have cv := HV3.out.c1
        try simp only [Act.put, List.setIfInBounds_toArray, List.set_cons_zero, List.set_cons_succ]
        refine wpAnyH_ready (rs := [1, 4]) (by kernel_rfl) (by simp) (AllReadyH.cons rfl (fun K hK => ?_) (AllReadyH.cons rfl (fun K hK => ?_) AllReadyH.nil))
        · rw [if_pos (by rfl)]
          go_wp2_with fail
          clear hS
          refine hK.out _ _ (HV3.out.fate) (fun hS => ?_)
          clear hK K
          try simp only [Act.put, List.setIfInBounds_toArray, List.set_cons_zero, List.set_cons_succ]
          refine wpAnyH_ready (rs := [4]) (by kernel_rfl) (by simp) (AllReadyH.cons rfl (fun K hK => ?_) AllReadyH.nil)
          rw [if_pos (by rfl)]
          go_wp2_with fail
          clear hS
          refine hK.out _ _ (HV3.out.fate) (fun hS => ?_)
          clear hK K
          clear cv
          try simp only [Act.put, List.setIfInBounds_toArray, List.set_cons_zero, List.set_cons_succ]
          refine tk 5 39 (.int .i64 (x.n : Int)) rfl rfl (by kernel_rfl) (by kernel_rfl) (by kernel_rfl) (fun _ _ _ h => h) (Or.inl ⟨by rfl, fun w' h' => ?_⟩) hS ?_
          · go_simp
          try simp only [Act.put, List.setIfInBounds_toArray, List.set_cons_zero, List.set_cons_succ]
          refine wpAnyH_ready (rs := [6]) (by kernel_rfl) (by simp) (AllReadyH.cons rfl (fun K hK => ?_) AllReadyH.nil)
          rw [if_pos (by rfl)]
          go_wp2_with fail
          refine (HDN.out _).mono ?_
          rintro e w2 ⟨rfl, hb⟩
          have H2 : Hid (Vf wr x f q w2) := HV3.out.next hb
          have HL2 : Hid (Lz w B g k L j w2) := HL.out.below (H2.out.below)
          clear hb
          clear hS
          refine hK.out _ _ (H2.out.fate) (fun hS => ?_)
          clear hK K
          try simp only [Act.put, List.setIfInBounds_toArray, List.set_cons_zero, List.set_cons_succ]
          refine tk 7 41 (.slice x.a m x.c) rfl rfl (by kernel_rfl) (by kernel_rfl) (by kernel_rfl) (fun _ _ _ h => h) (Or.inl ⟨by rfl, fun w' h' => ?_⟩) hS ?_
          · have hs := HSL.out w'
            go_simp
          try simp only [Act.put, List.setIfInBounds_toArray, List.set_cons_zero, List.set_cons_succ]
          refine tk 8 42 (.pointer (some ⟨wr.heap.size, 1, none⟩)) rfl rfl (by kernel_rfl) (by kernel_rfl) (by kernel_rfl) (fun _ _ _ h => h) (Or.inl ⟨by rfl, fun w' h' => ?_⟩) hS ?_
          · go_simp
          have cv := H2.out.c1
          have fv := frozen_of_row w2 _ 1 _ _ H2.out.var
          try simp only [Act.put, List.setIfInBounds_toArray, List.set_cons_zero, List.set_cons_succ]
          refine wpAnyH_ready (rs := [9]) (by kernel_rfl) (by simp) (AllReadyH.cons rfl (fun K hK => ?_) AllReadyH.nil)
          rw [if_pos (by rfl)]
          go_wp2_with fail
          have H3 : Hid (Vf wr (x.cut f) f q (w2.setCell ⟨wr.heap.size, 1, none⟩ (.slice x.a m x.c))) := by
            have := H2.out.cut
            rw [HMC.out] at this
            exact this
          obtain ⟨w3, hw⟩ : ∃ z, w2.setCell ⟨wr.heap.size, 1, none⟩ (.slice x.a m x.c) = z := ⟨_, rfl⟩
          rw [hw] at H3
          first | rw [hw] | (change K _ (w2.setCell ⟨wr.heap.size, 1, none⟩ (.slice x.a m x.c)); rw [hw])
          clear cv fv hw HV3
          clear hS
          refine hK.out _ _ (H3.out.fate) (fun hS => ?_)
          clear hK K
          refine wpAnyH_done (by kernel_rfl) ?_ _
          go_wp2_with fail
          have HLw : Hid (Lz w B g k L j w3.drew) := HL.out.below H3.out.below.drew
          have HX2 : Hid ((x.cut f).lies w3.drew) := (HLw.out.dm.lies HX.out.2).cut f
          have HS : Hid (w3.drew.heap[wr.heap.size]? = some (.cells (x.cut f).cs.toArray 46 (0, 0)) ∧ w3.drew.cell? ⟨g, 0, none⟩ = some (.slice k.a k.d.length k.c)) := ⟨H3.out.var, HLw.out.c0⟩
          refine wp_region_held_drew (S := fun w' => w'.heap[wr.heap.size]? = some (.cells (x.cut f).cs.toArray 46 (0, 0)) ∧ w'.cell? ⟨g, 0, none⟩ = some (.slice k.a k.d.length k.c)) (by kernel_rfl) HS.out (fun hS => ?_)
          refine tk 0 43 (.agg ((x.cut f).cs).toArray) rfl rfl (by kernel_rfl) (by kernel_rfl) (by kernel_rfl) (fun _ _ _ h => h) (yieldsIf_load_mid (by rfl) _ _ rfl (wr.heap.size) (0) rfl ((x.cut f).cs) _ (fun w' h' => rng_of h'.1) Try.underlying46 rfl (infWr)) hS ?_
          try simp only [Act.put, List.setIfInBounds_toArray, List.set_cons_zero, List.set_cons_succ]
          refine tk 1 44 (.pointer (some ⟨g, 0, none⟩)) rfl rfl (by kernel_rfl) (by kernel_rfl) (by kernel_rfl) (fun _ _ _ h => h) (Or.inl ⟨by rfl, fun w' h' => ?_⟩) hS ?_
          · go_simp
          try simp only [Act.put, List.setIfInBounds_toArray, List.set_cons_zero, List.set_cons_succ]
          refine tk 2 45 (.pointer (some ⟨g, 0, none⟩)) rfl rfl (by kernel_rfl) (by kernel_rfl) (by kernel_rfl) (fun _ _ _ h => h) (Or.inl ⟨by rfl, fun w' h' => ?_⟩) hS ?_
          · go_simp
          try simp only [Act.put, List.setIfInBounds_toArray, List.set_cons_zero, List.set_cons_succ]
          refine tk 3 46 (.pointer (some ⟨g, 0, none⟩)) rfl rfl (by kernel_rfl) (by kernel_rfl) (by kernel_rfl) (fun _ _ _ h => h) (Or.inl ⟨by rfl, fun w' h' => ?_⟩) hS ?_
          · go_simp
          try simp only [Act.put, List.setIfInBounds_toArray, List.set_cons_zero, List.set_cons_succ]
          refine tk 4 47 (.slice k.a k.d.length k.c) rfl rfl (by kernel_rfl) (by kernel_rfl) (by kernel_rfl) (fun _ _ _ h => h) (Or.inl ⟨by rfl, fun w' h' => ?_⟩) hS ?_
          · have c0 := h'.2
            go_simp
          try simp only [Act.put, List.setIfInBounds_toArray, List.set_cons_zero, List.set_cons_succ]
          refine wpAnyH_ready (rs := [5]) (by kernel_rfl) (by simp) (AllReadyH.cons rfl (fun K hK => ?_) AllReadyH.nil)
          rw [if_pos (by rfl)]
          go_wp2_with fail
          refine (lay_any (x.cut f) k.d.length k.c B k.a (lays k.d (L.take j)) 0 w3.drew HX2.out ?_ ?_ ?_ ?_ ?_ ?_ ?_).mono ?_
          · exact Nat.le_trans (dnV_cut x f).2 ((HLw.out.dm.wr.data x HX.out.2).le).1
          · exact ((HLw.out.dm.wr.data x HX.out.2).le).2
          · exact HD.out.ok.at0 x HX.out.2
          · have h1 := HD.out.ok.at1 x HX.out.2
            have h2 := HD.out.ok.few
            show x.at_ ≤ _
            omega
          · omega
          · omega
          · exact HLw.out.dur
          rintro e w4 ⟨rfl, ho, hk⟩
          have H4 : Hid (Lz w B g k L (j + 1) w4) := HLw.out.lay HX.out.1 ((HD.out.ok.wbyt x HX.out.2).take _) ho hk
          have H5 : Hid (w4.heap[wr.heap.size]? = some (.cells (x.cut f).cs.toArray 46 (0, 0))) := hk.heap H3.out.var (fun e => by have := (HL.out.dur.blk_ge _ e).2; omega)
          clear ho hk
          clear hS
          refine hK.out _ _ (⟨H5.out, H4.out.c0⟩) (fun hS => ?_)
          clear hK K
          refine wpAnyH_done (by kernel_rfl) ?_ _
          go_wp2_with fail
          go_roundw
          case rel => exact ⟨j + 1, by omega, by go_num, H4.out⟩
          case measure => simp [intOf]; omega
        · rw [if_pos (by rfl)]
          go_wp2_with fail
          clear hS
          refine hK.out _ _ (HV3.out.fate) (fun hS => ?_)
          clear hK K
          try simp only [Act.put, List.setIfInBounds_toArray, List.set_cons_zero, List.set_cons_succ]
          refine tk 5 39 (.int .i64 (x.n : Int)) rfl rfl (by kernel_rfl) (by kernel_rfl) (by kernel_rfl) (fun _ _ _ h => h) (Or.inl ⟨by rfl, fun w' h' => ?_⟩) hS ?_
          · go_simp
          try simp only [Act.put, List.setIfInBounds_toArray, List.set_cons_zero, List.set_cons_succ]
          refine wpAnyH_ready (rs := [1, 6]) (by kernel_rfl) (by simp) (AllReadyH.cons rfl (fun K hK => ?_) (AllReadyH.cons rfl (fun K hK => ?_) AllReadyH.nil))
          · rw [if_pos (by rfl)]
            go_wp2_with fail
            clear hS
            refine hK.out _ _ (HV3.out.fate) (fun hS => ?_)
            clear hK K
            clear cv
            try simp only [Act.put, List.setIfInBounds_toArray, List.set_cons_zero, List.set_cons_succ]
            refine wpAnyH_ready (rs := [6]) (by kernel_rfl) (by simp) (AllReadyH.cons rfl (fun K hK => ?_) AllReadyH.nil)
            rw [if_pos (by rfl)]
            go_wp2_with fail
            refine (HDN.out _).mono ?_
            rintro e w2 ⟨rfl, hb⟩
            have H2 : Hid (Vf wr x f q w2) := HV3.out.next hb
            have HL2 : Hid (Lz w B g k L j w2) := HL.out.below (H2.out.below)
            clear hb
            clear hS
            refine hK.out _ _ (H2.out.fate) (fun hS => ?_)
            clear hK K
            try simp only [Act.put, List.setIfInBounds_toArray, List.set_cons_zero, List.set_cons_succ]
            refine tk 7 41 (.slice x.a m x.c) rfl rfl (by kernel_rfl) (by kernel_rfl) (by kernel_rfl) (fun _ _ _ h => h) (Or.inl ⟨by rfl, fun w' h' => ?_⟩) hS ?_
            · have hs := HSL.out w'
              go_simp
            try simp only [Act.put, List.setIfInBounds_toArray, List.set_cons_zero, List.set_cons_succ]
            refine tk 8 42 (.pointer (some ⟨wr.heap.size, 1, none⟩)) rfl rfl (by kernel_rfl) (by kernel_rfl) (by kernel_rfl) (fun _ _ _ h => h) (Or.inl ⟨by rfl, fun w' h' => ?_⟩) hS ?_
            · go_simp
            have cv := H2.out.c1
            have fv := frozen_of_row w2 _ 1 _ _ H2.out.var
            try simp only [Act.put, List.setIfInBounds_toArray, List.set_cons_zero, List.set_cons_succ]
            refine wpAnyH_ready (rs := [9]) (by kernel_rfl) (by simp) (AllReadyH.cons rfl (fun K hK => ?_) AllReadyH.nil)
            rw [if_pos (by rfl)]
            go_wp2_with fail
            have H3 : Hid (Vf wr (x.cut f) f q (w2.setCell ⟨wr.heap.size, 1, none⟩ (.slice x.a m x.c))) := by
              have := H2.out.cut
              rw [HMC.out] at this
              exact this
            obtain ⟨w3, hw⟩ : ∃ z, w2.setCell ⟨wr.heap.size, 1, none⟩ (.slice x.a m x.c) = z := ⟨_, rfl⟩
            rw [hw] at H3
            first | rw [hw] | (change K _ (w2.setCell ⟨wr.heap.size, 1, none⟩ (.slice x.a m x.c)); rw [hw])
            clear cv fv hw HV3
            clear hS
            refine hK.out _ _ (H3.out.fate) (fun hS => ?_)
            clear hK K
            refine wpAnyH_done (by kernel_rfl) ?_ _
            go_wp2_with fail
            have HLw : Hid (Lz w B g k L j w3.drew) := HL.out.below H3.out.below.drew
            have HX2 : Hid ((x.cut f).lies w3.drew) := (HLw.out.dm.lies HX.out.2).cut f
            have HS : Hid (w3.drew.heap[wr.heap.size]? = some (.cells (x.cut f).cs.toArray 46 (0, 0)) ∧ w3.drew.cell? ⟨g, 0, none⟩ = some (.slice k.a k.d.length k.c)) := ⟨H3.out.var, HLw.out.c0⟩
            refine wp_region_held_drew (S := fun w' => w'.heap[wr.heap.size]? = some (.cells (x.cut f).cs.toArray 46 (0, 0)) ∧ w'.cell? ⟨g, 0, none⟩ = some (.slice k.a k.d.length k.c)) (by kernel_rfl) HS.out (fun hS => ?_)
            refine tk 0 43 (.agg ((x.cut f).cs).toArray) rfl rfl (by kernel_rfl) (by kernel_rfl) (by kernel_rfl) (fun _ _ _ h => h) (yieldsIf_load_mid (by rfl) _ _ rfl (wr.heap.size) (0) rfl ((x.cut f).cs) _ (fun w' h' => rng_of h'.1) Try.underlying46 rfl (infWr)) hS ?_
            try simp only [Act.put, List.setIfInBounds_toArray, List.set_cons_zero, List.set_cons_succ]
            refine tk 1 44 (.pointer (some ⟨g, 0, none⟩)) rfl rfl (by kernel_rfl) (by kernel_rfl) (by kernel_rfl) (fun _ _ _ h => h) (Or.inl ⟨by rfl, fun w' h' => ?_⟩) hS ?_
            · go_simp
            try simp only [Act.put, List.setIfInBounds_toArray, List.set_cons_zero, List.set_cons_succ]
            refine tk 2 45 (.pointer (some ⟨g, 0, none⟩)) rfl rfl (by kernel_rfl) (by kernel_rfl) (by kernel_rfl) (fun _ _ _ h => h) (Or.inl ⟨by rfl, fun w' h' => ?_⟩) hS ?_
            · go_simp
            try simp only [Act.put, List.setIfInBounds_toArray, List.set_cons_zero, List.set_cons_succ]
            refine tk 3 46 (.pointer (some ⟨g, 0, none⟩)) rfl rfl (by kernel_rfl) (by kernel_rfl) (by kernel_rfl) (fun _ _ _ h => h) (Or.inl ⟨by rfl, fun w' h' => ?_⟩) hS ?_
            · go_simp
            try simp only [Act.put, List.setIfInBounds_toArray, List.set_cons_zero, List.set_cons_succ]
            refine tk 4 47 (.slice k.a k.d.length k.c) rfl rfl (by kernel_rfl) (by kernel_rfl) (by kernel_rfl) (fun _ _ _ h => h) (Or.inl ⟨by rfl, fun w' h' => ?_⟩) hS ?_
            · have c0 := h'.2
              go_simp
            try simp only [Act.put, List.setIfInBounds_toArray, List.set_cons_zero, List.set_cons_succ]
            refine wpAnyH_ready (rs := [5]) (by kernel_rfl) (by simp) (AllReadyH.cons rfl (fun K hK => ?_) AllReadyH.nil)
            rw [if_pos (by rfl)]
            go_wp2_with fail
            refine (lay_any (x.cut f) k.d.length k.c B k.a (lays k.d (L.take j)) 0 w3.drew HX2.out ?_ ?_ ?_ ?_ ?_ ?_ ?_).mono ?_
            · exact Nat.le_trans (dnV_cut x f).2 ((HLw.out.dm.wr.data x HX.out.2).le).1
            · exact ((HLw.out.dm.wr.data x HX.out.2).le).2
            · exact HD.out.ok.at0 x HX.out.2
            · have h1 := HD.out.ok.at1 x HX.out.2
              have h2 := HD.out.ok.few
              show x.at_ ≤ _
              omega
            · omega
            · omega
            · exact HLw.out.dur
            rintro e w4 ⟨rfl, ho, hk⟩
            have H4 : Hid (Lz w B g k L (j + 1) w4) := HLw.out.lay HX.out.1 ((HD.out.ok.wbyt x HX.out.2).take _) ho hk
            have H5 : Hid (w4.heap[wr.heap.size]? = some (.cells (x.cut f).cs.toArray 46 (0, 0))) := hk.heap H3.out.var (fun e => by have := (HL.out.dur.blk_ge _ e).2; omega)
            clear ho hk
            clear hS
            refine hK.out _ _ (⟨H5.out, H4.out.c0⟩) (fun hS => ?_)
            clear hK K
            refine wpAnyH_done (by kernel_rfl) ?_ _
            go_wp2_with fail
            go_roundw
            case rel => exact ⟨j + 1, by omega, by go_num, H4.out⟩
            case measure => simp [intOf]; omega
          · clear cv
            rw [if_pos (by rfl)]
            go_wp2_with fail
            refine (HDN.out _).mono ?_
            rintro e w2 ⟨rfl, hb⟩
            have H2 : Hid (Vf wr x f q w2) := HV3.out.next hb
            have HL2 : Hid (Lz w B g k L j w2) := HL.out.below (H2.out.below)
            clear hb
            clear hS
            refine hK.out _ _ (H2.out.fate) (fun hS => ?_)
            clear hK K
            have cv := H2.out.c1
            try simp only [Act.put, List.setIfInBounds_toArray, List.set_cons_zero, List.set_cons_succ]
            refine wpAnyH_ready (rs := [1]) (by kernel_rfl) (by simp) (AllReadyH.cons rfl (fun K hK => ?_) AllReadyH.nil)
            rw [if_pos (by rfl)]
            go_wp2_with fail
            clear hS
            refine hK.out _ _ (H2.out.fate) (fun hS => ?_)
            clear hK K
            clear cv
            try simp only [Act.put, List.setIfInBounds_toArray, List.set_cons_zero, List.set_cons_succ]
            refine tk 7 41 (.slice x.a m x.c) rfl rfl (by kernel_rfl) (by kernel_rfl) (by kernel_rfl) (fun _ _ _ h => h) (Or.inl ⟨by rfl, fun w' h' => ?_⟩) hS ?_
            · have hs := HSL.out w'
              go_simp
            try simp only [Act.put, List.setIfInBounds_toArray, List.set_cons_zero, List.set_cons_succ]
            refine tk 8 42 (.pointer (some ⟨wr.heap.size, 1, none⟩)) rfl rfl (by kernel_rfl) (by kernel_rfl) (by kernel_rfl) (fun _ _ _ h => h) (Or.inl ⟨by rfl, fun w' h' => ?_⟩) hS ?_
            · go_simp
            have cv := H2.out.c1
            have fv := frozen_of_row w2 _ 1 _ _ H2.out.var
            try simp only [Act.put, List.setIfInBounds_toArray, List.set_cons_zero, List.set_cons_succ]
            refine wpAnyH_ready (rs := [9]) (by kernel_rfl) (by simp) (AllReadyH.cons rfl (fun K hK => ?_) AllReadyH.nil)
            rw [if_pos (by rfl)]
            go_wp2_with fail
            have H3 : Hid (Vf wr (x.cut f) f q (w2.setCell ⟨wr.heap.size, 1, none⟩ (.slice x.a m x.c))) := by
              have := H2.out.cut
              rw [HMC.out] at this
              exact this
            obtain ⟨w3, hw⟩ : ∃ z, w2.setCell ⟨wr.heap.size, 1, none⟩ (.slice x.a m x.c) = z := ⟨_, rfl⟩
            rw [hw] at H3
            first | rw [hw] | (change K _ (w2.setCell ⟨wr.heap.size, 1, none⟩ (.slice x.a m x.c)); rw [hw])
            clear cv fv hw HV3
            clear hS
            refine hK.out _ _ (H3.out.fate) (fun hS => ?_)
            clear hK K
            refine wpAnyH_done (by kernel_rfl) ?_ _
            go_wp2_with fail
            have HLw : Hid (Lz w B g k L j w3.drew) := HL.out.below H3.out.below.drew
            have HX2 : Hid ((x.cut f).lies w3.drew) := (HLw.out.dm.lies HX.out.2).cut f
            have HS : Hid (w3.drew.heap[wr.heap.size]? = some (.cells (x.cut f).cs.toArray 46 (0, 0)) ∧ w3.drew.cell? ⟨g, 0, none⟩ = some (.slice k.a k.d.length k.c)) := ⟨H3.out.var, HLw.out.c0⟩
            refine wp_region_held_drew (S := fun w' => w'.heap[wr.heap.size]? = some (.cells (x.cut f).cs.toArray 46 (0, 0)) ∧ w'.cell? ⟨g, 0, none⟩ = some (.slice k.a k.d.length k.c)) (by kernel_rfl) HS.out (fun hS => ?_)
            refine tk 0 43 (.agg ((x.cut f).cs).toArray) rfl rfl (by kernel_rfl) (by kernel_rfl) (by kernel_rfl) (fun _ _ _ h => h) (yieldsIf_load_mid (by rfl) _ _ rfl (wr.heap.size) (0) rfl ((x.cut f).cs) _ (fun w' h' => rng_of h'.1) Try.underlying46 rfl (infWr)) hS ?_
            try simp only [Act.put, List.setIfInBounds_toArray, List.set_cons_zero, List.set_cons_succ]
            refine tk 1 44 (.pointer (some ⟨g, 0, none⟩)) rfl rfl (by kernel_rfl) (by kernel_rfl) (by kernel_rfl) (fun _ _ _ h => h) (Or.inl ⟨by rfl, fun w' h' => ?_⟩) hS ?_
            · go_simp
            try simp only [Act.put, List.setIfInBounds_toArray, List.set_cons_zero, List.set_cons_succ]
            refine tk 2 45 (.pointer (some ⟨g, 0, none⟩)) rfl rfl (by kernel_rfl) (by kernel_rfl) (by kernel_rfl) (fun _ _ _ h => h) (Or.inl ⟨by rfl, fun w' h' => ?_⟩) hS ?_
            · go_simp
            try simp only [Act.put, List.setIfInBounds_toArray, List.set_cons_zero, List.set_cons_succ]
            refine tk 3 46 (.pointer (some ⟨g, 0, none⟩)) rfl rfl (by kernel_rfl) (by kernel_rfl) (by kernel_rfl) (fun _ _ _ h => h) (Or.inl ⟨by rfl, fun w' h' => ?_⟩) hS ?_
            · go_simp
            try simp only [Act.put, List.setIfInBounds_toArray, List.set_cons_zero, List.set_cons_succ]
            refine tk 4 47 (.slice k.a k.d.length k.c) rfl rfl (by kernel_rfl) (by kernel_rfl) (by kernel_rfl) (fun _ _ _ h => h) (Or.inl ⟨by rfl, fun w' h' => ?_⟩) hS ?_
            · have c0 := h'.2
              go_simp
            try simp only [Act.put, List.setIfInBounds_toArray, List.set_cons_zero, List.set_cons_succ]
            refine wpAnyH_ready (rs := [5]) (by kernel_rfl) (by simp) (AllReadyH.cons rfl (fun K hK => ?_) AllReadyH.nil)
            rw [if_pos (by rfl)]
            go_wp2_with fail
            refine (lay_any (x.cut f) k.d.length k.c B k.a (lays k.d (L.take j)) 0 w3.drew HX2.out ?_ ?_ ?_ ?_ ?_ ?_ ?_).mono ?_
            · exact Nat.le_trans (dnV_cut x f).2 ((HLw.out.dm.wr.data x HX.out.2).le).1
            · exact ((HLw.out.dm.wr.data x HX.out.2).le).2
            · exact HD.out.ok.at0 x HX.out.2
            · have h1 := HD.out.ok.at1 x HX.out.2
              have h2 := HD.out.ok.few
              show x.at_ ≤ _
              omega
            · omega
            · omega
            · exact HLw.out.dur
            rintro e w4 ⟨rfl, ho, hk⟩
            have H4 : Hid (Lz w B g k L (j + 1) w4) := HLw.out.lay HX.out.1 ((HD.out.ok.wbyt x HX.out.2).take _) ho hk
            have H5 : Hid (w4.heap[wr.heap.size]? = some (.cells (x.cut f).cs.toArray 46 (0, 0))) := hk.heap H3.out.var (fun e => by have := (HL.out.dur.blk_ge _ e).2; omega)
            clear ho hk
            clear hS
            refine hK.out _ _ (⟨H5.out, H4.out.c0⟩) (fun hS => ?_)
            clear hK K
            refine wpAnyH_done (by kernel_rfl) ?_ _
            go_wp2_with fail
            go_roundw
            case rel => exact ⟨j + 1, by omega, by go_num, H4.out⟩
            case measure => simp [intOf]; omega
      · have hjn2 : ¬ (j : Int) < (n : Int) := by omega
        have hf0 : f = (0, 0) := by rw [← hf, List.getD_eq_getElem?_getD, List.getElem?_eq_none (by have := HFSr.out.1; omega)]; rfl
        clear hf HFSr
        go_wp2_with (refine stN (fun w' => Hid (Var wr x w')) 46 (.tmp 7) (.tmp 25) rfl rfl wr.heap.size 0 x.cs rfl rfl HT.out infWr x.one HF0 ?_; intro wc HF)
        have HV := Lib.hid (Vf.new HF.out)
        rw [← hf0] at HV
        obtain ⟨q, hq⟩ : ∃ z, wc.heap.size = z := ⟨_, rfl⟩
        obtain ⟨wf, hwf⟩ : ∃ z, wc.alloc (.cells #[.int .i64 0, .int .i64 0] 44) = z := ⟨_, rfl⟩
        rw [hq, hwf] at HV
        rw [hq, hwf]
        clear hq hwf HF HF0 HT hf0 d0 d1
        have HV3 : Hid (Vf wr x f q wf.drew) := HV.out.next ((Below.refl _ _).drew)
        refine wp_region_held_drew (S := fun w' => w'.heap[q]? = some (.cells #[.int .i64 f.1, .int .i64 f.2] 44 (0, 0))) (by kernel_rfl) HV3.out.fate (fun hS => ?_)
        refine tk 0 34 (.pointer (some ⟨wr.heap.size, 1, none⟩)) rfl rfl (by kernel_rfl) (by kernel_rfl) (by kernel_rfl) (fun _ _ _ h => h) (Or.inl ⟨by rfl, fun w' h' => ?_⟩) hS ?_
        · go_simp
        try simp only [Act.put, List.setIfInBounds_toArray, List.set_cons_zero, List.set_cons_succ]
        refine tk 2 36 (.agg #[.int .i64 f.1, .int .i64 f.2]) rfl rfl (by kernel_rfl) (by kernel_rfl) (by kernel_rfl) (fun _ _ _ h => h) (Or.inl ⟨by rfl, fun w' h' => ?_⟩) hS ?_
        · have c0 := cell_of_row w' _ 0 _ _ (0, 0) h'
          have c1 := cell_of_row w' _ 1 _ _ (0, 0) h'
          simp at c0 c1
          go_simp
        try simp only [Act.put, List.setIfInBounds_toArray, List.set_cons_zero, List.set_cons_succ]
        refine tk 3 37 (.pointer (some ⟨wr.heap.size, 1, none⟩)) rfl rfl (by kernel_rfl) (by kernel_rfl) (by kernel_rfl) (fun _ _ _ h => h) (Or.inl ⟨by rfl, fun w' h' => ?_⟩) hS ?_
        · go_simp
        have cv := HV3.out.c1
        try simp only [Act.put, List.setIfInBounds_toArray, List.set_cons_zero, List.set_cons_succ]
        refine wpAnyH_ready (rs := [1, 4]) (by kernel_rfl) (by simp) (AllReadyH.cons rfl (fun K hK => ?_) (AllReadyH.cons rfl (fun K hK => ?_) AllReadyH.nil))
        · rw [if_pos (by rfl)]
          go_wp2_with fail
          clear hS
          refine hK.out _ _ (HV3.out.fate) (fun hS => ?_)
          clear hK K
          try simp only [Act.put, List.setIfInBounds_toArray, List.set_cons_zero, List.set_cons_succ]
          refine wpAnyH_ready (rs := [4]) (by kernel_rfl) (by simp) (AllReadyH.cons rfl (fun K hK => ?_) AllReadyH.nil)
          rw [if_pos (by rfl)]
          go_wp2_with fail
          clear hS
          refine hK.out _ _ (HV3.out.fate) (fun hS => ?_)
          clear hK K
          clear cv
          try simp only [Act.put, List.setIfInBounds_toArray, List.set_cons_zero, List.set_cons_succ]
          refine tk 5 39 (.int .i64 (x.n : Int)) rfl rfl (by kernel_rfl) (by kernel_rfl) (by kernel_rfl) (fun _ _ _ h => h) (Or.inl ⟨by rfl, fun w' h' => ?_⟩) hS ?_
          · go_simp
          try simp only [Act.put, List.setIfInBounds_toArray, List.set_cons_zero, List.set_cons_succ]
          refine wpAnyH_ready (rs := [6]) (by kernel_rfl) (by simp) (AllReadyH.cons rfl (fun K hK => ?_) AllReadyH.nil)
          rw [if_pos (by rfl)]
          go_wp2_with fail
          refine (HDN.out _).mono ?_
          rintro e w2 ⟨rfl, hb⟩
          have H2 : Hid (Vf wr x f q w2) := HV3.out.next hb
          have HL2 : Hid (Lz w B g k L j w2) := HL.out.below (H2.out.below)
          clear hb
          clear hS
          refine hK.out _ _ (H2.out.fate) (fun hS => ?_)
          clear hK K
          try simp only [Act.put, List.setIfInBounds_toArray, List.set_cons_zero, List.set_cons_succ]
          refine tk 7 41 (.slice x.a m x.c) rfl rfl (by kernel_rfl) (by kernel_rfl) (by kernel_rfl) (fun _ _ _ h => h) (Or.inl ⟨by rfl, fun w' h' => ?_⟩) hS ?_
          · have hs := HSL.out w'
            go_simp
          try simp only [Act.put, List.setIfInBounds_toArray, List.set_cons_zero, List.set_cons_succ]
          refine tk 8 42 (.pointer (some ⟨wr.heap.size, 1, none⟩)) rfl rfl (by kernel_rfl) (by kernel_rfl) (by kernel_rfl) (fun _ _ _ h => h) (Or.inl ⟨by rfl, fun w' h' => ?_⟩) hS ?_
          · go_simp
          have cv := H2.out.c1
          have fv := frozen_of_row w2 _ 1 _ _ H2.out.var
          try simp only [Act.put, List.setIfInBounds_toArray, List.set_cons_zero, List.set_cons_succ]
          refine wpAnyH_ready (rs := [9]) (by kernel_rfl) (by simp) (AllReadyH.cons rfl (fun K hK => ?_) AllReadyH.nil)
          rw [if_pos (by rfl)]
          go_wp2_with fail
          have H3 : Hid (Vf wr (x.cut f) f q (w2.setCell ⟨wr.heap.size, 1, none⟩ (.slice x.a m x.c))) := by
            have := H2.out.cut
            rw [HMC.out] at this
            exact this
          obtain ⟨w3, hw⟩ : ∃ z, w2.setCell ⟨wr.heap.size, 1, none⟩ (.slice x.a m x.c) = z := ⟨_, rfl⟩
          rw [hw] at H3
          first | rw [hw] | (change K _ (w2.setCell ⟨wr.heap.size, 1, none⟩ (.slice x.a m x.c)); rw [hw])
          clear cv fv hw HV3
          clear hS
          refine hK.out _ _ (H3.out.fate) (fun hS => ?_)
          clear hK K
          refine wpAnyH_done (by kernel_rfl) ?_ _
          go_wp2_with fail
          have HLw : Hid (Lz w B g k L j w3.drew) := HL.out.below H3.out.below.drew
          have HX2 : Hid ((x.cut f).lies w3.drew) := (HLw.out.dm.lies HX.out.2).cut f
          have HS : Hid (w3.drew.heap[wr.heap.size]? = some (.cells (x.cut f).cs.toArray 46 (0, 0)) ∧ w3.drew.cell? ⟨g, 0, none⟩ = some (.slice k.a k.d.length k.c)) := ⟨H3.out.var, HLw.out.c0⟩
          refine wp_region_held_drew (S := fun w' => w'.heap[wr.heap.size]? = some (.cells (x.cut f).cs.toArray 46 (0, 0)) ∧ w'.cell? ⟨g, 0, none⟩ = some (.slice k.a k.d.length k.c)) (by kernel_rfl) HS.out (fun hS => ?_)
          refine tk 0 43 (.agg ((x.cut f).cs).toArray) rfl rfl (by kernel_rfl) (by kernel_rfl) (by kernel_rfl) (fun _ _ _ h => h) (yieldsIf_load_mid (by rfl) _ _ rfl (wr.heap.size) (0) rfl ((x.cut f).cs) _ (fun w' h' => rng_of h'.1) Try.underlying46 rfl (infWr)) hS ?_
          try simp only [Act.put, List.setIfInBounds_toArray, List.set_cons_zero, List.set_cons_succ]
          refine tk 1 44 (.pointer (some ⟨g, 0, none⟩)) rfl rfl (by kernel_rfl) (by kernel_rfl) (by kernel_rfl) (fun _ _ _ h => h) (Or.inl ⟨by rfl, fun w' h' => ?_⟩) hS ?_
          · go_simp
          try simp only [Act.put, List.setIfInBounds_toArray, List.set_cons_zero, List.set_cons_succ]
          refine tk 2 45 (.pointer (some ⟨g, 0, none⟩)) rfl rfl (by kernel_rfl) (by kernel_rfl) (by kernel_rfl) (fun _ _ _ h => h) (Or.inl ⟨by rfl, fun w' h' => ?_⟩) hS ?_
          · go_simp
          try simp only [Act.put, List.setIfInBounds_toArray, List.set_cons_zero, List.set_cons_succ]
          refine tk 3 46 (.pointer (some ⟨g, 0, none⟩)) rfl rfl (by kernel_rfl) (by kernel_rfl) (by kernel_rfl) (fun _ _ _ h => h) (Or.inl ⟨by rfl, fun w' h' => ?_⟩) hS ?_
          · go_simp
          try simp only [Act.put, List.setIfInBounds_toArray, List.set_cons_zero, List.set_cons_succ]
          refine tk 4 47 (.slice k.a k.d.length k.c) rfl rfl (by kernel_rfl) (by kernel_rfl) (by kernel_rfl) (fun _ _ _ h => h) (Or.inl ⟨by rfl, fun w' h' => ?_⟩) hS ?_
          · have c0 := h'.2
            go_simp
          try simp only [Act.put, List.setIfInBounds_toArray, List.set_cons_zero, List.set_cons_succ]
          refine wpAnyH_ready (rs := [5]) (by kernel_rfl) (by simp) (AllReadyH.cons rfl (fun K hK => ?_) AllReadyH.nil)
          rw [if_pos (by rfl)]
          go_wp2_with fail
          refine (lay_any (x.cut f) k.d.length k.c B k.a (lays k.d (L.take j)) 0 w3.drew HX2.out ?_ ?_ ?_ ?_ ?_ ?_ ?_).mono ?_
          · exact Nat.le_trans (dnV_cut x f).2 ((HLw.out.dm.wr.data x HX.out.2).le).1
          · exact ((HLw.out.dm.wr.data x HX.out.2).le).2
          · exact HD.out.ok.at0 x HX.out.2
          · have h1 := HD.out.ok.at1 x HX.out.2
            have h2 := HD.out.ok.few
            show x.at_ ≤ _
            omega
          · omega
          · omega
          · exact HLw.out.dur
          rintro e w4 ⟨rfl, ho, hk⟩
          have H4 : Hid (Lz w B g k L (j + 1) w4) := HLw.out.lay HX.out.1 ((HD.out.ok.wbyt x HX.out.2).take _) ho hk
          have H5 : Hid (w4.heap[wr.heap.size]? = some (.cells (x.cut f).cs.toArray 46 (0, 0))) := hk.heap H3.out.var (fun e => by have := (HL.out.dur.blk_ge _ e).2; omega)
          clear ho hk
          clear hS
          refine hK.out _ _ (⟨H5.out, H4.out.c0⟩) (fun hS => ?_)
          clear hK K
          refine wpAnyH_done (by kernel_rfl) ?_ _
          go_wp2_with fail
          go_roundw
          case rel => exact ⟨j + 1, by omega, by go_num, H4.out⟩
          case measure => simp [intOf]; omega
        · rw [if_pos (by rfl)]
          go_wp2_with fail
          clear hS
          refine hK.out _ _ (HV3.out.fate) (fun hS => ?_)
          clear hK K
          try simp only [Act.put, List.setIfInBounds_toArray, List.set_cons_zero, List.set_cons_succ]
          refine tk 5 39 (.int .i64 (x.n : Int)) rfl rfl (by kernel_rfl) (by kernel_rfl) (by kernel_rfl) (fun _ _ _ h => h) (Or.inl ⟨by rfl, fun w' h' => ?_⟩) hS ?_
          · go_simp
          try simp only [Act.put, List.setIfInBounds_toArray, List.set_cons_zero, List.set_cons_succ]
          refine wpAnyH_ready (rs := [1, 6]) (by kernel_rfl) (by simp) (AllReadyH.cons rfl (fun K hK => ?_) (AllReadyH.cons rfl (fun K hK => ?_) AllReadyH.nil))
          · rw [if_pos (by rfl)]
            go_wp2_with fail
            clear hS
            refine hK.out _ _ (HV3.out.fate) (fun hS => ?_)
            clear hK K
            clear cv
            try simp only [Act.put, List.setIfInBounds_toArray, List.set_cons_zero, List.set_cons_succ]
            refine wpAnyH_ready (rs := [6]) (by kernel_rfl) (by simp) (AllReadyH.cons rfl (fun K hK => ?_) AllReadyH.nil)
            rw [if_pos (by rfl)]
            go_wp2_with fail
            refine (HDN.out _).mono ?_
            rintro e w2 ⟨rfl, hb⟩
            have H2 : Hid (Vf wr x f q w2) := HV3.out.next hb
            have HL2 : Hid (Lz w B g k L j w2) := HL.out.below (H2.out.below)
            clear hb
            clear hS
            refine hK.out _ _ (H2.out.fate) (fun hS => ?_)
            clear hK K
            try simp only [Act.put, List.setIfInBounds_toArray, List.set_cons_zero, List.set_cons_succ]
            refine tk 7 41 (.slice x.a m x.c) rfl rfl (by kernel_rfl) (by kernel_rfl) (by kernel_rfl) (fun _ _ _ h => h) (Or.inl ⟨by rfl, fun w' h' => ?_⟩) hS ?_
            · have hs := HSL.out w'
              go_simp
            try simp only [Act.put, List.setIfInBounds_toArray, List.set_cons_zero, List.set_cons_succ]
            refine tk 8 42 (.pointer (some ⟨wr.heap.size, 1, none⟩)) rfl rfl (by kernel_rfl) (by kernel_rfl) (by kernel_rfl) (fun _ _ _ h => h) (Or.inl ⟨by rfl, fun w' h' => ?_⟩) hS ?_
            · go_simp
            have cv := H2.out.c1
            have fv := frozen_of_row w2 _ 1 _ _ H2.out.var
            try simp only [Act.put, List.setIfInBounds_toArray, List.set_cons_zero, List.set_cons_succ]
            refine wpAnyH_ready (rs := [9]) (by kernel_rfl) (by simp) (AllReadyH.cons rfl (fun K hK => ?_) AllReadyH.nil)
            rw [if_pos (by rfl)]
            go_wp2_with fail
            have H3 : Hid (Vf wr (x.cut f) f q (w2.setCell ⟨wr.heap.size, 1, none⟩ (.slice x.a m x.c))) := by
              have := H2.out.cut
              rw [HMC.out] at this
              exact this
            obtain ⟨w3, hw⟩ : ∃ z, w2.setCell ⟨wr.heap.size, 1, none⟩ (.slice x.a m x.c) = z := ⟨_, rfl⟩
            rw [hw] at H3
            first | rw [hw] | (change K _ (w2.setCell ⟨wr.heap.size, 1, none⟩ (.slice x.a m x.c)); rw [hw])
            clear cv fv hw HV3
            clear hS
            refine hK.out _ _ (H3.out.fate) (fun hS => ?_)
            clear hK K
            refine wpAnyH_done (by kernel_rfl) ?_ _
            go_wp2_with fail
            have HLw : Hid (Lz w B g k L j w3.drew) := HL.out.below H3.out.below.drew
            have HX2 : Hid ((x.cut f).lies w3.drew) := (HLw.out.dm.lies HX.out.2).cut f
            have HS : Hid (w3.drew.heap[wr.heap.size]? = some (.cells (x.cut f).cs.toArray 46 (0, 0)) ∧ w3.drew.cell? ⟨g, 0, none⟩ = some (.slice k.a k.d.length k.c)) := ⟨H3.out.var, HLw.out.c0⟩
            refine wp_region_held_drew (S := fun w' => w'.heap[wr.heap.size]? = some (.cells (x.cut f).cs.toArray 46 (0, 0)) ∧ w'.cell? ⟨g, 0, none⟩ = some (.slice k.a k.d.length k.c)) (by kernel_rfl) HS.out (fun hS => ?_)
            refine tk 0 43 (.agg ((x.cut f).cs).toArray) rfl rfl (by kernel_rfl) (by kernel_rfl) (by kernel_rfl) (fun _ _ _ h => h) (yieldsIf_load_mid (by rfl) _ _ rfl (wr.heap.size) (0) rfl ((x.cut f).cs) _ (fun w' h' => rng_of h'.1) Try.underlying46 rfl (infWr)) hS ?_
            try simp only [Act.put, List.setIfInBounds_toArray, List.set_cons_zero, List.set_cons_succ]
            refine tk 1 44 (.pointer (some ⟨g, 0, none⟩)) rfl rfl (by kernel_rfl) (by kernel_rfl) (by kernel_rfl) (fun _ _ _ h => h) (Or.inl ⟨by rfl, fun w' h' => ?_⟩) hS ?_
            · go_simp
            try simp only [Act.put, List.setIfInBounds_toArray, List.set_cons_zero, List.set_cons_succ]
            refine tk 2 45 (.pointer (some ⟨g, 0, none⟩)) rfl rfl (by kernel_rfl) (by kernel_rfl) (by kernel_rfl) (fun _ _ _ h => h) (Or.inl ⟨by rfl, fun w' h' => ?_⟩) hS ?_
            · go_simp
            try simp only [Act.put, List.setIfInBounds_toArray, List.set_cons_zero, List.set_cons_succ]
            refine tk 3 46 (.pointer (some ⟨g, 0, none⟩)) rfl rfl (by kernel_rfl) (by kernel_rfl) (by kernel_rfl) (fun _ _ _ h => h) (Or.inl ⟨by rfl, fun w' h' => ?_⟩) hS ?_
            · go_simp
            try simp only [Act.put, List.setIfInBounds_toArray, List.set_cons_zero, List.set_cons_succ]
            refine tk 4 47 (.slice k.a k.d.length k.c) rfl rfl (by kernel_rfl) (by kernel_rfl) (by kernel_rfl) (fun _ _ _ h => h) (Or.inl ⟨by rfl, fun w' h' => ?_⟩) hS ?_
            · have c0 := h'.2
              go_simp
            try simp only [Act.put, List.setIfInBounds_toArray, List.set_cons_zero, List.set_cons_succ]
            refine wpAnyH_ready (rs := [5]) (by kernel_rfl) (by simp) (AllReadyH.cons rfl (fun K hK => ?_) AllReadyH.nil)
            rw [if_pos (by rfl)]
            go_wp2_with fail
            refine (lay_any (x.cut f) k.d.length k.c B k.a (lays k.d (L.take j)) 0 w3.drew HX2.out ?_ ?_ ?_ ?_ ?_ ?_ ?_).mono ?_
            · exact Nat.le_trans (dnV_cut x f).2 ((HLw.out.dm.wr.data x HX.out.2).le).1
            · exact ((HLw.out.dm.wr.data x HX.out.2).le).2
            · exact HD.out.ok.at0 x HX.out.2
            · have h1 := HD.out.ok.at1 x HX.out.2
              have h2 := HD.out.ok.few
              show x.at_ ≤ _
              omega
            · omega
            · omega
            · exact HLw.out.dur
            rintro e w4 ⟨rfl, ho, hk⟩
            have H4 : Hid (Lz w B g k L (j + 1) w4) := HLw.out.lay HX.out.1 ((HD.out.ok.wbyt x HX.out.2).take _) ho hk
            have H5 : Hid (w4.heap[wr.heap.size]? = some (.cells (x.cut f).cs.toArray 46 (0, 0))) := hk.heap H3.out.var (fun e => by have := (HL.out.dur.blk_ge _ e).2; omega)
            clear ho hk
            clear hS
            refine hK.out _ _ (⟨H5.out, H4.out.c0⟩) (fun hS => ?_)
            clear hK K
            refine wpAnyH_done (by kernel_rfl) ?_ _
            go_wp2_with fail
            go_roundw
            case rel => exact ⟨j + 1, by omega, by go_num, H4.out⟩
            case measure => simp [intOf]; omega
          · clear cv
            rw [if_pos (by rfl)]
            go_wp2_with fail
            refine (HDN.out _).mono ?_
            rintro e w2 ⟨rfl, hb⟩
            have H2 : Hid (Vf wr x f q w2) := HV3.out.next hb
            have HL2 : Hid (Lz w B g k L j w2) := HL.out.below (H2.out.below)
            clear hb
            clear hS
            refine hK.out _ _ (H2.out.fate) (fun hS => ?_)
            clear hK K
            have cv := H2.out.c1
            try simp only [Act.put, List.setIfInBounds_toArray, List.set_cons_zero, List.set_cons_succ]
            refine wpAnyH_ready (rs := [1]) (by kernel_rfl) (by simp) (AllReadyH.cons rfl (fun K hK => ?_) AllReadyH.nil)
            rw [if_pos (by rfl)]
            go_wp2_with fail
            clear hS
            refine hK.out _ _ (H2.out.fate) (fun hS => ?_)
            clear hK K
            clear cv
            try simp only [Act.put, List.setIfInBounds_toArray, List.set_cons_zero, List.set_cons_succ]
            refine tk 7 41 (.slice x.a m x.c) rfl rfl (by kernel_rfl) (by kernel_rfl) (by kernel_rfl) (fun _ _ _ h => h) (Or.inl ⟨by rfl, fun w' h' => ?_⟩) hS ?_
            · have hs := HSL.out w'
              go_simp
            try simp only [Act.put, List.setIfInBounds_toArray, List.set_cons_zero, List.set_cons_succ]
            refine tk 8 42 (.pointer (some ⟨wr.heap.size, 1, none⟩)) rfl rfl (by kernel_rfl) (by kernel_rfl) (by kernel_rfl) (fun _ _ _ h => h) (Or.inl ⟨by rfl, fun w' h' => ?_⟩) hS ?_
            · go_simp
            have cv := H2.out.c1
            have fv := frozen_of_row w2 _ 1 _ _ H2.out.var
            try simp only [Act.put, List.setIfInBounds_toArray, List.set_cons_zero, List.set_cons_succ]
            refine wpAnyH_ready (rs := [9]) (by kernel_rfl) (by simp) (AllReadyH.cons rfl (fun K hK => ?_) AllReadyH.nil)
            rw [if_pos (by rfl)]
            go_wp2_with fail
            have H3 : Hid (Vf wr (x.cut f) f q (w2.setCell ⟨wr.heap.size, 1, none⟩ (.slice x.a m x.c))) := by
              have := H2.out.cut
              rw [HMC.out] at this
              exact this
            obtain ⟨w3, hw⟩ : ∃ z, w2.setCell ⟨wr.heap.size, 1, none⟩ (.slice x.a m x.c) = z := ⟨_, rfl⟩
            rw [hw] at H3
            first | rw [hw] | (change K _ (w2.setCell ⟨wr.heap.size, 1, none⟩ (.slice x.a m x.c)); rw [hw])
            clear cv fv hw HV3
            clear hS
            refine hK.out _ _ (H3.out.fate) (fun hS => ?_)
            clear hK K
            refine wpAnyH_done (by kernel_rfl) ?_ _
            go_wp2_with fail
            have HLw : Hid (Lz w B g k L j w3.drew) := HL.out.below H3.out.below.drew
            have HX2 : Hid ((x.cut f).lies w3.drew) := (HLw.out.dm.lies HX.out.2).cut f
            have HS : Hid (w3.drew.heap[wr.heap.size]? = some (.cells (x.cut f).cs.toArray 46 (0, 0)) ∧ w3.drew.cell? ⟨g, 0, none⟩ = some (.slice k.a k.d.length k.c)) := ⟨H3.out.var, HLw.out.c0⟩
            refine wp_region_held_drew (S := fun w' => w'.heap[wr.heap.size]? = some (.cells (x.cut f).cs.toArray 46 (0, 0)) ∧ w'.cell? ⟨g, 0, none⟩ = some (.slice k.a k.d.length k.c)) (by kernel_rfl) HS.out (fun hS => ?_)
            refine tk 0 43 (.agg ((x.cut f).cs).toArray) rfl rfl (by kernel_rfl) (by kernel_rfl) (by kernel_rfl) (fun _ _ _ h => h) (yieldsIf_load_mid (by rfl) _ _ rfl (wr.heap.size) (0) rfl ((x.cut f).cs) _ (fun w' h' => rng_of h'.1) Try.underlying46 rfl (infWr)) hS ?_
            try simp only [Act.put, List.setIfInBounds_toArray, List.set_cons_zero, List.set_cons_succ]
            refine tk 1 44 (.pointer (some ⟨g, 0, none⟩)) rfl rfl (by kernel_rfl) (by kernel_rfl) (by kernel_rfl) (fun _ _ _ h => h) (Or.inl ⟨by rfl, fun w' h' => ?_⟩) hS ?_
            · go_simp
            try simp only [Act.put, List.setIfInBounds_toArray, List.set_cons_zero, List.set_cons_succ]
            refine tk 2 45 (.pointer (some ⟨g, 0, none⟩)) rfl rfl (by kernel_rfl) (by kernel_rfl) (by kernel_rfl) (fun _ _ _ h => h) (Or.inl ⟨by rfl, fun w' h' => ?_⟩) hS ?_
            · go_simp
            try simp only [Act.put, List.setIfInBounds_toArray, List.set_cons_zero, List.set_cons_succ]
            refine tk 3 46 (.pointer (some ⟨g, 0, none⟩)) rfl rfl (by kernel_rfl) (by kernel_rfl) (by kernel_rfl) (fun _ _ _ h => h) (Or.inl ⟨by rfl, fun w' h' => ?_⟩) hS ?_
            · go_simp
            try simp only [Act.put, List.setIfInBounds_toArray, List.set_cons_zero, List.set_cons_succ]
            refine tk 4 47 (.slice k.a k.d.length k.c) rfl rfl (by kernel_rfl) (by kernel_rfl) (by kernel_rfl) (fun _ _ _ h => h) (Or.inl ⟨by rfl, fun w' h' => ?_⟩) hS ?_
            · have c0 := h'.2
              go_simp
            try simp only [Act.put, List.setIfInBounds_toArray, List.set_cons_zero, List.set_cons_succ]
            refine wpAnyH_ready (rs := [5]) (by kernel_rfl) (by simp) (AllReadyH.cons rfl (fun K hK => ?_) AllReadyH.nil)
            rw [if_pos (by rfl)]
            go_wp2_with fail
            refine (lay_any (x.cut f) k.d.length k.c B k.a (lays k.d (L.take j)) 0 w3.drew HX2.out ?_ ?_ ?_ ?_ ?_ ?_ ?_).mono ?_
            · exact Nat.le_trans (dnV_cut x f).2 ((HLw.out.dm.wr.data x HX.out.2).le).1
            · exact ((HLw.out.dm.wr.data x HX.out.2).le).2
            · exact HD.out.ok.at0 x HX.out.2
            · have h1 := HD.out.ok.at1 x HX.out.2
              have h2 := HD.out.ok.few
              show x.at_ ≤ _
              omega
            · omega
            · omega
            · exact HLw.out.dur
            rintro e w4 ⟨rfl, ho, hk⟩
            have H4 : Hid (Lz w B g k L (j + 1) w4) := HLw.out.lay HX.out.1 ((HD.out.ok.wbyt x HX.out.2).take _) ho hk
            have H5 : Hid (w4.heap[wr.heap.size]? = some (.cells (x.cut f).cs.toArray 46 (0, 0))) := hk.heap H3.out.var (fun e => by have := (HL.out.dur.blk_ge _ e).2; omega)
            clear ho hk
            clear hS
            refine hK.out _ _ (⟨H5.out, H4.out.c0⟩) (fun hS => ?_)
            clear hK K
            refine wpAnyH_done (by kernel_rfl) ?_ _
            go_wp2_with fail
            go_roundw
            case rel => exact ⟨j + 1, by omega, by go_num, H4.out⟩
            case measure => simp [intOf]; omega
    · have hjm : j = mm := by omega
      have hlt2 : ¬ (j : Int) < (mm : Int) := by omega
      have HE : Hid (Lz w B g k L mm wr) := by rw [← hjm]; exact HL.out
      have f1 := HL.out.dm.frozen 1
      have c1 := HL.out.dm.c1
      clear hjm
      go_wp2_with fail
      go_ret
      exact ⟨rfl, HE.out.fin HLL.out.2, (HE.out.kept.mono (fun _ _ e => .inr e)).trans (Kept.setCell (S := fun i => i = g ∨ blk k.a = some i) _ _ _ (.inl rfl)) (fun _ _ e => e)⟩
end Go.Proofs.Ytbghdlgfpfeaeaa

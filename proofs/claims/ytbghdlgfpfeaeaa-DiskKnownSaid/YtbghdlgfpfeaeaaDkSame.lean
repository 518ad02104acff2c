/-
  The contracts of the program's same, slices.EqualFunc over writes, and Same of two disks. Conditions: disks of at most a million unsynced writes.
-/
import Derived.Test.YtbghdlgfpfeaeaaDkRef
namespace Go.Proofs.Ytbghdlgfpfeaeaa
open Go.RowKit

set_option maxRecDepth 100000 in
set_option maxHeartbeats 1000000 in
theorem sm_any (x y : Uw) (w : World) (hx : x.lies w) (hy : y.lies w) : Calls Try.prog 28 #[x.v, y.v] w (Gives w (.bool (decide (x.pl = y.pl)))) := by
  obtain ⟨p, a, n, c, d⟩ := x
  obtain ⟨p2, a2, n2, c2, d2⟩ := y
  have HX := Lib.hid hx
  have HY := Lib.hid hy
  show Calls Try.prog 28 #[.agg #[.int .i64 p, .slice a n c], .agg #[.int .i64 p2, .slice a2 n2 c2]] w (Gives w (.bool (decide ((p, d) = (p2, d2)))))
  have hb : Below w.heap.size w ((w.alloc (.cells #[.int .i64 p, .slice a n c] 46)).alloc (.cells #[.int .i64 p2, .slice a2 n2 c2] 46)) := (al w _).alloc (by simp) _
  have r0 : ((w.alloc (.cells #[.int .i64 p, .slice a n c] 46)).alloc (.cells #[.int .i64 p2, .slice a2 n2 c2] 46)).heap[w.heap.size]? = some (.cells #[.int .i64 p, .slice a n c] 46 (0, 0)) := by
    rw [Below.heap_alloc _ _ _ (by simp)]; exact Blk_new w _ _
  have r1 : ((w.alloc (.cells #[.int .i64 p, .slice a n c] 46)).alloc (.cells #[.int .i64 p2, .slice a2 n2 c2] 46)).heap[w.heap.size + 1]? = some (.cells #[.int .i64 p2, .slice a2 n2 c2] 46 (0, 0)) := by
    have := Blk_new (w.alloc (.cells #[.int .i64 p, .slice a n c] 46)) #[.int .i64 p2, .slice a2 n2 c2] 46
    simpa using this
  obtain ⟨w1, hw1⟩ : ∃ z, (w.alloc (.cells #[.int .i64 p, .slice a n c] 46)).alloc (.cells #[.int .i64 p2, .slice a2 n2 c2] 46) = z := ⟨_, rfl⟩
  rw [hw1] at hb r0 r1
  have c0 := two0 r0
  have c1 := two1 r0
  have d0 := two0 r1
  have d1 := two1 r1
  have HB := Lib.hid hb
  have HW1 := Lib.hid hw1
  clear hx hy hb r0 r1 hw1
  by_cases hp : p = p2
  · subst hp
    by_cases hd : d = d2
    · have HD : Hid (decide (d = d2) = true) := decide_eq_true hd
      rw [decide_eq_true (show (p, d) = (p, d2) by rw [hd])]
      clear hd
      go_enter Try.func28, Try.ntmps28
      go_wp2_with fail
      rw [HW1.out]
      go_wp2_with fail
      refine (bEqual_any a a2 n c n2 c2 d d2 w1 HX.out.len HY.out.len (HX.out.rd.below HB.out) (HY.out.rd.below HB.out) HX.out.byt HY.out.byt).mono ?_
      rintro e w2 ⟨rfl, hw2⟩
      subst hw2
      rw [HD.out]
      go_wp2_with fail
      go_ret
      exact ⟨rfl, HB.out⟩
    · have HD : Hid (decide (d = d2) = false) := decide_eq_false hd
      rw [decide_eq_false (fun e : (p, d) = (p, d2) => hd (congrArg Prod.snd e))]
      clear hd
      go_enter Try.func28, Try.ntmps28
      go_wp2_with fail
      rw [HW1.out]
      go_wp2_with fail
      refine (bEqual_any a a2 n c n2 c2 d d2 w1 HX.out.len HY.out.len (HX.out.rd.below HB.out) (HY.out.rd.below HB.out) HX.out.byt HY.out.byt).mono ?_
      rintro e w2 ⟨rfl, hw2⟩
      subst hw2
      rw [HD.out]
      go_wp2_with fail
      go_ret
      exact ⟨rfl, HB.out⟩
  · rw [decide_eq_false (fun e : (p, d) = (p2, d2) => hp (congrArg Prod.fst e))]
    go_enter Try.func28, Try.ntmps28
    go_wp2_with fail
    rw [HW1.out]
    go_wp2_with fail
    go_ret
    exact ⟨rfl, HB.out⟩

/-- A row of writes that lies there. -/
structure Wr_ (w : World) (a : Option Addr) (l : List Uw) : Prop where
  lies : ∀ x ∈ l, x.lies w
  cells : l ≠ [] → ∃ g, a = some ⟨g, 0, none⟩ ∧ ∀ i x, l[i]? = some x → w.cell? ⟨g, i * 2, none⟩ = some (.int .i64 x.at_) ∧ w.cell? ⟨g, i * 2 + 1, none⟩ = some (.slice x.a x.n x.c)
theorem Wr_.below {w w' : World} {a : Option Addr} {l : List Uw} (h : Wr_ w a l) (hb : Below w.heap.size w w') : Wr_ w' a l :=
  ⟨fun x hx => (h.lies x hx).below hb, fun hne => by
    obtain ⟨g, e, hc⟩ := h.cells hne
    exact ⟨g, e, fun i x hx => ⟨cell_kept hb (hc i x hx).1, cell_kept hb (hc i x hx).2⟩⟩⟩
theorem Dm.wr_ {w : World} {B g : Nat} {k : Dk} (h : Dm w B g k) : Wr_ w k.u k.W := ⟨fun x hx => h.lies hx, fun hne => by
  obtain ⟨u, hu⟩ := h.wr.addr (by cases hW : k.W with | nil => exact absurd hW hne | cons _ _ => simp)
  refine ⟨u, hu, fun i x hx => ?_⟩
  have h2 := h.wr
  rw [hu] at h2
  exact h2.cells hx⟩
theorem var_below {w wr : World} {x : Uw} (h : Var w x wr) : Below w.heap.size w wr := h.1
set_option maxRecDepth 100000 in
set_option maxHeartbeats 2000000 in
theorem eqF_any (a b : Option Addr) (c d : Nat) (l m : List Uw) (w : World) (hl : Wr_ w a l) (hm : Wr_ w b m) (h1 : l.length ≤ 1000000) (h2 : m.length ≤ 1000000) :
    Calls Try.prog 27 #[.slice a l.length c, .slice b m.length d, .func (.func 28) #[] #[]] w (Gives w (.bool (decide (l.map Uw.pl = m.map Uw.pl)))) := by
  have HL := Lib.hid hl
  have HM := Lib.hid hm
  obtain ⟨n, hn⟩ : ∃ n, l.length = n := ⟨_, rfl⟩
  obtain ⟨n2, hn2⟩ : ∃ n, m.length = n := ⟨_, rfl⟩
  have HN : Hid (l.length = n ∧ m.length = n2) := ⟨hn, hn2⟩
  rw [hn] at h1 ⊢
  rw [hn2] at h2 ⊢
  clear hl hm hn hn2
  by_cases hne : n = n2
  · subst hne
    clear h2
    go_enter Try.func27, Try.ntmps27
    go_wp2_with fail
    go_loopw [17] (fun i wr => ∃ j : Nat, j ≤ n ∧ i = .int .i64 j ∧ Hid (Below w.heap.size w wr ∧ (l.map Uw.pl).take j = (m.map Uw.pl).take j)) (fun i _ => n - (intOf i).toNat)
    case atStart => exact ⟨0, Nat.zero_le _, rfl, Below.refl _ _, rfl⟩
    case round =>
      obtain ⟨j, hj, rfl, hk⟩ := hrel
      by_cases hlt : j < n
      · obtain ⟨x, hx⟩ : ∃ x, l[j]? = some x := ⟨_, List.getElem?_eq_getElem (by rw [HN.out.1]; exact hlt)⟩
        obtain ⟨y, hy⟩ : ∃ y, m[j]? = some y := ⟨_, List.getElem?_eq_getElem (by rw [HN.out.2]; omega)⟩
        obtain ⟨ga, ha, hca⟩ := (HL.out.below hk.out.1).cells (fun e => by rw [e] at hx; cases hx)
        obtain ⟨gb, hb, hcb⟩ := (HM.out.below hk.out.1).cells (fun e => by rw [e] at hy; cases hy)
        rw [ha, hb]
        obtain ⟨p0, p1⟩ := hca j x hx
        obtain ⟨q0, q1⟩ := hcb j y hy
        have HQ : Hid (wr.cell? ⟨gb, j * 2, none⟩ = some (.int .i64 y.at_) ∧ wr.cell? ⟨gb, j * 2 + 1, none⟩ = some (.slice y.a y.n y.c)) := ⟨q0, q1⟩
        have HX : Hid (l[j]? = some x ∧ m[j]? = some y ∧ x ∈ l ∧ y ∈ m) := ⟨hx, hy, List.mem_of_getElem? hx, List.mem_of_getElem? hy⟩
        have HF0 := Lib.hid (var_new wr x)
        have HT := Lib.hid (var_th wr x)
        have hlt2 : (j : Int) < (n : Int) := by omega
        have e1 : IntKind.i64.wrap ((j : Int) + 1) = ((j + 1 : Nat) : Int) := by rw [IntKind.wrap_i64]; omega
        clear hx hy ha hb hca hcb q0 q1
        go_wp2_with (first
          | (refine stN (fun w' => Hid (Var wr x w')) 46 (.tmp 8) (.tmp 21) rfl rfl wr.heap.size 0 x.cs rfl rfl HT.out infWr x.one HF0 ?_; intro wc HF; have q0 := cell_kept HF.out.1 HQ.out.1; have q1 := cell_kept HF.out.1 HQ.out.2; have HF1 := Lib.hid (var_new wc y); have HT1 := Lib.hid (var_th wc y); clear p0 p1)
          | (refine stN (fun w' => Hid (Var wc y w')) 46 (.tmp 9) (.tmp 25) rfl rfl wc.heap.size 0 y.cs rfl rfl HT1.out infWr y.one HF1 ?_; intro wd HG; have r0 := (HG.out.1.block _ (by have := HF.out.2.1; omega)).trans HF.out.2.2; have p0 := cell_of_row wd _ 0 _ _ (0, 0) r0; have p1 := cell_of_row wd _ 1 _ _ (0, 0) r0; have s0 := cell_of_row wd _ 0 _ _ (0, 0) HG.out.2.2; have s1 := cell_of_row wd _ 1 _ _ (0, 0) HG.out.2.2; simp [Uw.cs] at p0 p1 s0 s1; clear q0 q1 r0))
        have HB2 : Hid (Below w.heap.size w wd) := (hk.out.1.trans (HF.out.1.mono hk.out.1.size)).trans (HG.out.1.mono (Nat.le_trans hk.out.1.size HF.out.1.size))
        refine (sm_any x y wd ((HL.out.below HB2.out).lies x HX.out.2.2.1) ((HM.out.below HB2.out).lies y HX.out.2.2.2)).mono ?_
        rintro e we ⟨rfl, hbe⟩
        have HB3 : Hid (Below w.heap.size w we) := HB2.out.trans (hbe.mono HB2.out.size)
        clear hbe
        by_cases hxy : x.pl = y.pl
        · rw [decide_eq_true hxy]
          have HN2 : Hid ((l.map Uw.pl).take (j + 1) = (m.map Uw.pl).take (j + 1)) := by
            show _ = _
            rw [List.take_add_one, List.take_add_one, hk.out.2, List.getElem?_map, List.getElem?_map, HX.out.1, HX.out.2.1]
            simp [hxy]
          go_wp2_with fail
          go_roundw
          case rel => exact ⟨j + 1, by omega, by go_num, HB3.out, HN2.out⟩
          case measure => simp [intOf]; omega
        · rw [decide_eq_false hxy]
          have HNE : Hid (decide (l.map Uw.pl = m.map Uw.pl) = false) := decide_eq_false (fun e => by
            have h3 := congrArg (fun z => z[j]?) e
            simp only [List.getElem?_map, HX.out.1, HX.out.2.1] at h3
            exact hxy (by simpa using h3))
          go_wp2_with fail
          go_ret
          exact ⟨by rw [HNE.out]; rfl, HB3.out⟩
      · have hjm : j = n := by omega
        have hlt2 : ¬ (j : Int) < (n : Int) := by omega
        have HE : Hid (decide (l.map Uw.pl = m.map Uw.pl) = true ∧ Below w.heap.size w wr) := ⟨decide_eq_true (by
          have := hk.out.2
          rw [List.take_of_length_le (by rw [List.length_map, HN.out.1]; omega), List.take_of_length_le (by rw [List.length_map, HN.out.2]; omega)] at this
          exact this), hk.out.1⟩
        clear hjm
        go_wp2_with fail
        go_ret
        exact ⟨by rw [HE.out.1]; rfl, HE.out.2⟩
  · have hnn : (n : Int) ≠ (n2 : Int) := by omega
    have HE : Hid (decide (l.map Uw.pl = m.map Uw.pl) = false) := decide_eq_false (fun e => by
      have := congrArg List.length e
      rw [List.length_map, List.length_map, HN.out.1, HN.out.2] at this
      exact hne this)
    clear hne
    go_enter Try.func27, Try.ntmps27
    go_wp2_with fail
    go_ret
    exact ⟨by rw [HE.out]; rfl, Below.refl _ _⟩
end Go.Proofs.Ytbghdlgfpfeaeaa

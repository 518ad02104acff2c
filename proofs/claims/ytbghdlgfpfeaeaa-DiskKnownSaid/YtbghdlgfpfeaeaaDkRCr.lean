/-
  The contract of the document's Crash. Conditions: a disk of the document's in memory, at most a thousand fates. (Made by gen_dkrcr.py.)
-/
import Derived.Test.YtbghdlgfpfeaeaaDkRef2
namespace Go.Proofs.Ytbghdlgfpfeaeaa
open Go.RowKit

theorem infRWr2 : (Try.prog.info? 80).map (·.size) = some 2 := by kernel_rfl
noncomputable def KRC : Code := Try.f33.body.getD .skip
set_option maxRecDepth 100000 in
theorem frKRC {a : Act} (h : Fr 70 a) : ∃ f : Nat → Value, a = ⟨#[f 0, f 1, f 2, f 3, f 4, f 5, f 6, f 7, f 8, f 9, f 10, f 11, f 12, f 13, f 14, f 15, f 16, f 17, f 18, f 19, f 20, f 21, f 22, f 23, f 24, f 25, f 26, f 27, f 28, f 29, f 30, f 31, f 32, f 33, f 34, f 35, f 36, f 37, f 38, f 39, f 40, f 41, f 42, f 43, f 44, f 45, f 46, f 47, f 48, f 49, f 50, f 51, f 52, f 53, f 54, f 55, f 56, f 57, f 58, f 59, f 60, f 61, f 62, f 63, f 64, f 65, f 66, f 67, f 68, f 69], []⟩ ∧ ∀ i, f i = sl a i := fr_any h

set_option maxRecDepth 100000 in
set_option maxHeartbeats 4000000 in
theorem c0 (w : World) (d : List Int) (u : Option Addr) (n : Nat) (c : Nat) (fa : Option Addr) (fn : Nat) (fc : Nat) (a : Act) (hf : Fr 70 a) (h0 : sl a 0 = .agg #[.string (str d), .slice u n c]) (h1 : sl a 1 = .slice fa fn fc) :
    Code.wp Try.prog (cAt [0] KRC) (Exit.then (fun a' w' => ∃ b0 : Nat, ∃ b1 : Nat, Fr 70 a' ∧ sl a' 1 = .slice fa fn fc ∧ sl a' 2 = .pointer (some ⟨b0, 0, none⟩) ∧ sl a' 4 = .pointer (some ⟨b1, 0, none⟩) ∧ Below w.heap.size w w' ∧ w'.heap[b0]? = some (.cells #[.string (str d), .slice u n c] 63 (0, 0)) ∧ w'.heap[b1]? = some (.cells #[.string ⟨#[]⟩, .slice none 0 0] 63 (0, 0)) ∧ w.heap.size ≤ b1) Nope) a w := by
  obtain ⟨f, ha, hs⟩ := frKRC hf
  have e0 := (hs 0).trans h0
  have e1 := (hs 1).trans h1
  rw [e0, e1] at ha
  clear hs hf e0 h0 e1 h1
  subst ha
  refine piece2 fun J0 K0 hJ0 hK0 => ?_
  conv => arg 2; whnf
  have hbb : Below w.heap.size w ((w.alloc (.cells #[.string (str d), .slice u n c] 63)).alloc (.cells #[.string ⟨#[]⟩, .slice none 0 0] 63)) := (al w _).alloc (by simp) _
  have r0 : ((w.alloc (.cells #[.string (str d), .slice u n c] 63)).alloc (.cells #[.string ⟨#[]⟩, .slice none 0 0] 63)).heap[w.heap.size]? = some (.cells #[.string (str d), .slice u n c] 63 (0, 0)) := by
    rw [Below.heap_alloc _ _ _ (by simp)]; exact Blk_new w _ _
  have r1 : ((w.alloc (.cells #[.string (str d), .slice u n c] 63)).alloc (.cells #[.string ⟨#[]⟩, .slice none 0 0] 63)).heap[w.heap.size + 1]? = some (.cells #[.string ⟨#[]⟩, .slice none 0 0] 63 (0, 0)) := by
    have := Blk_new (w.alloc (.cells #[.string (str d), .slice u n c] 63)) #[.string ⟨#[]⟩, .slice none 0 0] 63
    simpa using this
  have H := Lib.hid (And.intro hbb (And.intro r0 r1))
  clear hbb r0 r1
  go_wp2_with fail
  refine Met.intro (hJ0 _ _ ?_)
  exact ⟨w.heap.size, w.heap.size + 1, ⟨rfl, rfl⟩, rfl, rfl, rfl, H.out.1, H.out.2.1, H.out.2.2, Nat.le_succ _⟩

set_option maxRecDepth 100000 in
set_option maxHeartbeats 4000000 in
theorem c1 (d : List Int) (u : Option Addr) (n : Nat) (c : Nat) (fa : Option Addr) (fn : Nat) (fc : Nat) (w1 : World) (b0 : Nat) (b1 : Nat) (HR0 : Hid (w1.heap[b0]? = some (.cells #[.string (str d), .slice u n c] 63 (0, 0)))) (a : Act) (hf : Fr 70 a) (h1 : sl a 1 = .slice fa fn fc) (h2 : sl a 2 = .pointer (some ⟨b0, 0, none⟩)) (h4 : sl a 4 = .pointer (some ⟨b1, 0, none⟩)) :
    Code.wp Try.prog (cAt [1,0] KRC) (Exit.then (fun a' w' => Fr 70 a' ∧ sl a' 1 = .slice fa fn fc ∧ sl a' 2 = .pointer (some ⟨b0, 0, none⟩) ∧ sl a' 4 = .pointer (some ⟨b1, 0, none⟩) ∧ sl a' 5 = .string (str d) ∧ w1 = w') Nope) a w1 := by
  obtain ⟨f, ha, hs⟩ := frKRC hf
  have e1 := (hs 1).trans h1
  have e2 := (hs 2).trans h2
  have e4 := (hs 4).trans h4
  rw [e1, e2, e4] at ha
  clear hs hf e1 h1 e2 h2 e4 h4
  subst ha
  refine piece2 fun J0 K0 hJ0 hK0 => ?_
  conv => arg 2; whnf
  have x0 := two0 HR0.out
  go_wp2_with fail
  refine Met.intro (hJ0 _ _ ?_)
  exact ⟨⟨rfl, rfl⟩, rfl, rfl, rfl, rfl, rfl⟩

set_option maxRecDepth 100000 in
set_option maxHeartbeats 4000000 in
theorem c2 (d : List Int) (fa : Option Addr) (fn : Nat) (fc : Nat) (w1 : World) (b0 : Nat) (b1 : Nat) (a : Act) (hf : Fr 70 a) (h1 : sl a 1 = .slice fa fn fc) (h2 : sl a 2 = .pointer (some ⟨b0, 0, none⟩)) (h4 : sl a 4 = .pointer (some ⟨b1, 0, none⟩)) (h5 : sl a 5 = .string (str d)) :
    Code.wp Try.prog (cAt [1,1,0,0] KRC) (Exit.then (fun a' w' => Fr 70 a' ∧ sl a' 1 = .slice fa fn fc ∧ sl a' 2 = .pointer (some ⟨b0, 0, none⟩) ∧ sl a' 4 = .pointer (some ⟨b1, 0, none⟩) ∧ sl a' 5 = .string (str d) ∧ sl a' 6 = .int .i64 0 ∧ w1 = w') Nope) a w1 := by
  obtain ⟨f, ha, hs⟩ := frKRC hf
  have e1 := (hs 1).trans h1
  have e2 := (hs 2).trans h2
  have e4 := (hs 4).trans h4
  have e5 := (hs 5).trans h5
  rw [e1, e2, e4, e5] at ha
  clear hs hf e1 h1 e2 h2 e4 h4 e5 h5
  subst ha
  refine piece2 fun J0 K0 hJ0 hK0 => ?_
  conv => arg 2; whnf
  go_wp2_with fail
  refine Met.intro (hJ0 _ _ ?_)
  exact ⟨⟨rfl, rfl⟩, rfl, rfl, rfl, rfl, rfl, rfl⟩

set_option maxRecDepth 100000 in
set_option maxHeartbeats 4000000 in
theorem c3x (d : List Int) (u : Option Addr) (n : Nat) (c : Nat) (fa : Option Addr) (fn : Nat) (fc : Nat) (b0 : Nat) (b1 : Nat) (T : List Pw) (wl : World) (i : Nat) (HR0l : Hid (wl.heap[b0]? = some (.cells #[.string (str d), .slice u n c] 63 (0, 0)))) (hlt : Hid (¬ i < n)) (a : Act) (hf : Fr 70 a) (h1 : sl a 1 = .slice fa fn fc) (h2 : sl a 2 = .pointer (some ⟨b0, 0, none⟩)) (h4 : sl a 4 = .pointer (some ⟨b1, 0, none⟩)) (h5 : sl a 5 = .string (str (nowP d (T.take i)))) (h6 : sl a 6 = .int .i64 (i : Int)) :
    Code.wp Try.prog (cAt [1,1,0,1,2,2] KRC) (Outs 0 (fun a' w' => Fr 70 a' ∧ sl a' 1 = .slice fa fn fc ∧ sl a' 2 = .pointer (some ⟨b0, 0, none⟩) ∧ sl a' 4 = .pointer (some ⟨b1, 0, none⟩) ∧ sl a' 5 = .string (str (nowP d (T.take i))) ∧ wl = w')) a wl := by
  obtain ⟨f, ha, hs⟩ := frKRC hf
  have e1 := (hs 1).trans h1
  have e2 := (hs 2).trans h2
  have e4 := (hs 4).trans h4
  have e5 := (hs 5).trans h5
  have e6 := (hs 6).trans h6
  rw [e1, e2, e4, e5, e6] at ha
  clear hs hf e1 h1 e2 h2 e4 h4 e5 h5 e6 h6
  subst ha
  conv => arg 2; whnf
  have x1 := two1 HR0l.out
  have hi2 : ¬ (i : Int) < (n : Int) := by have := hlt.out; omega
  go_wp2_with fail
  exact ⟨rfl, ⟨rfl, rfl⟩, rfl, rfl, rfl, rfl, rfl⟩

set_option maxRecDepth 100000 in
set_option maxHeartbeats 4000000 in
theorem c3 (d : List Int) (u : Option Addr) (n : Nat) (c : Nat) (fa : Option Addr) (fn : Nat) (fc : Nat) (b0 : Nat) (b1 : Nat) (T : List Pw) (wl : World) (i : Nat) (HR0l : Hid (wl.heap[b0]? = some (.cells #[.string (str d), .slice u n c] 63 (0, 0)))) (hlt : Hid (i < n)) (a : Act) (hf : Fr 70 a) (h1 : sl a 1 = .slice fa fn fc) (h2 : sl a 2 = .pointer (some ⟨b0, 0, none⟩)) (h4 : sl a 4 = .pointer (some ⟨b1, 0, none⟩)) (h5 : sl a 5 = .string (str (nowP d (T.take i)))) (h6 : sl a 6 = .int .i64 (i : Int)) :
    Code.wp Try.prog (cAt [1,1,0,1,2,2,0] KRC) (Exit.then (fun a' w' => Fr 70 a' ∧ sl a' 1 = .slice fa fn fc ∧ sl a' 2 = .pointer (some ⟨b0, 0, none⟩) ∧ sl a' 4 = .pointer (some ⟨b1, 0, none⟩) ∧ sl a' 5 = .string (str (nowP d (T.take i))) ∧ sl a' 6 = .int .i64 (i : Int) ∧ wl = w') Nope) a wl := by
  obtain ⟨f, ha, hs⟩ := frKRC hf
  have e1 := (hs 1).trans h1
  have e2 := (hs 2).trans h2
  have e4 := (hs 4).trans h4
  have e5 := (hs 5).trans h5
  have e6 := (hs 6).trans h6
  rw [e1, e2, e4, e5, e6] at ha
  clear hs hf e1 h1 e2 h2 e4 h4 e5 h5 e6 h6
  subst ha
  refine piece2 fun J0 K0 hJ0 hK0 => ?_
  conv => arg 2; whnf
  have x1 := two1 HR0l.out
  have hi2 : (i : Int) < (n : Int) := by have := hlt.out; omega
  go_wp2_with fail
  refine Met.intro (hJ0 _ _ ?_)
  exact ⟨⟨rfl, rfl⟩, rfl, rfl, rfl, rfl, rfl, rfl⟩

set_option maxRecDepth 100000 in
set_option maxHeartbeats 4000000 in
theorem c5 (w : World) (d : List Int) (u : Option Addr) (n : Nat) (c : Nat) (L : List Pw) (fa : Option Addr) (fn : Nat) (fc : Nat) (HRL : Hid (Rk.lies w ⟨d, u, c, L⟩)) (w1 : World) (b0 : Nat) (b1 : Nat) (HB1 : Hid (Below w.heap.size w w1)) (T : List Pw) (wl : World) (i : Nat) (HBL : Hid (Below w1.heap.size w1 wl)) (HR0l : Hid (wl.heap[b0]? = some (.cells #[.string (str d), .slice u n c] 63 (0, 0)))) (hlt : Hid (i < n)) (p : Int) (xd : List Int) (hx : Hid (L[i]? = some (p, xd))) (a : Act) (hf : Fr 70 a) (h1 : sl a 1 = .slice fa fn fc) (h2 : sl a 2 = .pointer (some ⟨b0, 0, none⟩)) (h4 : sl a 4 = .pointer (some ⟨b1, 0, none⟩)) (h5 : sl a 5 = .string (str (nowP d (T.take i)))) (h6 : sl a 6 = .int .i64 (i : Int)) :
    Code.wp Try.prog (cAt [1,1,0,1,2,2,1,0,2,0] KRC) (Exit.then (fun a' w' => ∃ bx : Nat, Fr 70 a' ∧ sl a' 1 = .slice fa fn fc ∧ sl a' 2 = .pointer (some ⟨b0, 0, none⟩) ∧ sl a' 4 = .pointer (some ⟨b1, 0, none⟩) ∧ sl a' 5 = .string (str (nowP d (T.take i))) ∧ sl a' 6 = .int .i64 (i : Int) ∧ sl a' 7 = .pointer (some ⟨bx, 0, none⟩) ∧ w'.heap[bx]? = some (.cells #[.int .i64 p, .string (str xd)] 80 (0, 0)) ∧ Below wl.heap.size wl w') Nope) a wl := by
  obtain ⟨f, ha, hs⟩ := frKRC hf
  have e1 := (hs 1).trans h1
  have e2 := (hs 2).trans h2
  have e4 := (hs 4).trans h4
  have e5 := (hs 5).trans h5
  have e6 := (hs 6).trans h6
  rw [e1, e2, e4, e5, e6] at ha
  clear hs hf e1 h1 e2 h2 e4 h4 e5 h5 e6 h6
  subst ha
  refine piece2 fun J0 K0 hJ0 hK0 => ?_
  conv => arg 2; whnf
  obtain ⟨ug, uo, eu, hc⟩ := ((HRL.out.below HB1.out).below HBL.out) (fun e => by have e2 : L = [] := e; have hx1 := hx.out; rw [e2] at hx1; cases hx1)
  have eu : u = some ⟨ug, uo, none⟩ := eu
  obtain ⟨q0, q1⟩ := hc i (p, xd) hx.out
  have x1 := two1 HR0l.out
  rw [eu] at x1
  have hi2 : (i : Int) < (n : Int) := by have := hlt.out; omega
  have hi0 : (0 : Int) ≤ (i : Int) := by omega
  have r1 := Blk_new wl #[.int .i64 0, .string ⟨#[]⟩] 80
  have HAL := Lib.hid (al wl (.cells #[.int .i64 0, .string ⟨#[]⟩] 80))
  have HRN := Lib.hid r1
  clear r1 hc eu
  go_wp2_with (refine st2 80 (.tmp 7) (.tmp 22) rfl rfl wl.heap.size (.int .i64 p) (.string (str xd)) _ _ 80 rfl rfl HRN.out infRWr2 rfl rfl ?_; intro wc HC)
  refine Met.intro (hJ0 _ _ ?_)
  exact ⟨wl.heap.size, ⟨rfl, rfl⟩, rfl, rfl, rfl, rfl, rfl, rfl, HC.out.1, HAL.out.trans (HC.out.2.below HAL.out.size (fun i e => by omega))⟩

set_option maxRecDepth 100000 in
set_option maxHeartbeats 4000000 in
theorem c6 (d : List Int) (fa : Option Addr) (fn : Nat) (fc : Nat) (b0 : Nat) (b1 : Nat) (T : List Pw) (i : Nat) (w5 : World) (bx : Nat) (a : Act) (hf : Fr 70 a) (h1 : sl a 1 = .slice fa fn fc) (h2 : sl a 2 = .pointer (some ⟨b0, 0, none⟩)) (h4 : sl a 4 = .pointer (some ⟨b1, 0, none⟩)) (h5 : sl a 5 = .string (str (nowP d (T.take i)))) (h6 : sl a 6 = .int .i64 (i : Int)) (h7 : sl a 7 = .pointer (some ⟨bx, 0, none⟩)) :
    Code.wp Try.prog (cAt [1,1,0,1,2,2,1,0,2,1,0] KRC) (Exit.then (fun a' w' => Fr 70 a' ∧ sl a' 1 = .slice fa fn fc ∧ sl a' 2 = .pointer (some ⟨b0, 0, none⟩) ∧ sl a' 4 = .pointer (some ⟨b1, 0, none⟩) ∧ sl a' 5 = .string (str (nowP d (T.take i))) ∧ sl a' 6 = .int .i64 (i : Int) ∧ sl a' 7 = .pointer (some ⟨bx, 0, none⟩) ∧ sl a' 8 = .int .i64 0 ∧ w5 = w') Nope) a w5 := by
  obtain ⟨f, ha, hs⟩ := frKRC hf
  have e1 := (hs 1).trans h1
  have e2 := (hs 2).trans h2
  have e4 := (hs 4).trans h4
  have e5 := (hs 5).trans h5
  have e6 := (hs 6).trans h6
  have e7 := (hs 7).trans h7
  rw [e1, e2, e4, e5, e6, e7] at ha
  clear hs hf e1 h1 e2 h2 e4 h4 e5 h5 e6 h6 e7 h7
  subst ha
  refine piece2 fun J0 K0 hJ0 hK0 => ?_
  conv => arg 2; whnf
  go_wp2_with fail
  refine Met.intro (hJ0 _ _ ?_)
  exact ⟨⟨rfl, rfl⟩, rfl, rfl, rfl, rfl, rfl, rfl, rfl, rfl⟩

set_option maxRecDepth 100000 in
set_option maxHeartbeats 4000000 in
theorem c7 (d : List Int) (fa : Option Addr) (fn : Nat) (fc : Nat) (fl : List Ft) (b0 : Nat) (b1 : Nat) (T : List Pw) (i : Nat) (fz : Ft) (hfl : Hid (fl.getD i (0, 0) = fz)) (w5 : World) (bx : Nat) (HFTl : Hid (Fts w5 fa fn fl)) (a : Act) (hf : Fr 70 a) (h1 : sl a 1 = .slice fa fn fc) (h2 : sl a 2 = .pointer (some ⟨b0, 0, none⟩)) (h4 : sl a 4 = .pointer (some ⟨b1, 0, none⟩)) (h5 : sl a 5 = .string (str (nowP d (T.take i)))) (h6 : sl a 6 = .int .i64 (i : Int)) (h7 : sl a 7 = .pointer (some ⟨bx, 0, none⟩)) (h8 : sl a 8 = .int .i64 0) :
    Code.wp Try.prog (cAt [1,1,0,1,2,2,1,0,2,1,1,0,0] KRC) (Exit.then (fun a' w' => Fr 70 a' ∧ sl a' 1 = .slice fa fn fc ∧ sl a' 2 = .pointer (some ⟨b0, 0, none⟩) ∧ sl a' 4 = .pointer (some ⟨b1, 0, none⟩) ∧ sl a' 5 = .string (str (nowP d (T.take i))) ∧ sl a' 6 = .int .i64 (i : Int) ∧ sl a' 7 = .pointer (some ⟨bx, 0, none⟩) ∧ sl a' 8 = .int .i64 0 ∧ sl a' 34 = .bool (decide (fz.1 = 1)) ∧ w5 = w') Nope) a w5 := by
  obtain ⟨f, ha, hs⟩ := frKRC hf
  have e1 := (hs 1).trans h1
  have e2 := (hs 2).trans h2
  have e4 := (hs 4).trans h4
  have e5 := (hs 5).trans h5
  have e6 := (hs 6).trans h6
  have e7 := (hs 7).trans h7
  have e8 := (hs 8).trans h8
  rw [e1, e2, e4, e5, e6, e7, e8] at ha
  clear hs hf e1 h1 e2 h2 e4 h4 e5 h5 e6 h6 e7 h7 e8 h8
  subst ha
  refine piece2 fun J0 K0 hJ0 hK0 => ?_
  conv => arg 2; whnf
  have hi0 : (0 : Int) ≤ (i : Int) := by omega
  by_cases hin : i < fn
  · have hi2 : (i : Int) < (fn : Int) := by omega
    obtain ⟨fr, fo, ef, hc⟩ := HFTl.out.2 (by intro e; have := HFTl.out.1; rw [e] at this; simp at this; omega)
    have hfi : fl[i]? = some fz := by rw [← hfl.out, List.getD_eq_getElem?_getD, List.getElem?_eq_getElem (by rw [HFTl.out.1]; exact hin)]; rfl
    obtain ⟨q0, q1⟩ := hc i fz hfi
    subst ef
    clear hc hfi q1
    by_cases hk : fz.1 = 1
    · rw [hk] at q0
      go_wp2_with fail
      refine Met.intro (hJ0 _ _ ?_)
      exact ⟨⟨rfl, rfl⟩, rfl, rfl, rfl, rfl, rfl, rfl, rfl, by rw [decide_eq_true hk]; rfl, rfl⟩
    · go_wp2_with fail
      refine Met.intro (hJ0 _ _ ?_)
      exact ⟨⟨rfl, rfl⟩, rfl, rfl, rfl, rfl, rfl, rfl, rfl, rfl, rfl⟩
  · have hi2 : ¬ (i : Int) < (fn : Int) := by omega
    have hf0 : fz = (0, 0) := by rw [← hfl.out, List.getD_eq_getElem?_getD, List.getElem?_eq_none (by rw [HFTl.out.1]; omega)]; rfl
    go_wp2_with fail
    refine Met.intro (hJ0 _ _ ?_)
    exact ⟨⟨rfl, rfl⟩, rfl, rfl, rfl, rfl, rfl, rfl, rfl, by rw [hf0]; rfl, rfl⟩

set_option maxRecDepth 100000 in
set_option maxHeartbeats 4000000 in
theorem c8 (d : List Int) (fa : Option Addr) (fn : Nat) (fc : Nat) (b0 : Nat) (b1 : Nat) (T : List Pw) (i : Nat) (p : Int) (xd : List Int) (w5 : World) (bx : Nat) (HBX : Hid (w5.heap[bx]? = some (.cells #[.int .i64 p, .string (str xd)] 80 (0, 0)))) (a : Act) (hf : Fr 70 a) (h1 : sl a 1 = .slice fa fn fc) (h2 : sl a 2 = .pointer (some ⟨b0, 0, none⟩)) (h4 : sl a 4 = .pointer (some ⟨b1, 0, none⟩)) (h5 : sl a 5 = .string (str (nowP d (T.take i)))) (h6 : sl a 6 = .int .i64 (i : Int)) (h7 : sl a 7 = .pointer (some ⟨bx, 0, none⟩)) (h8 : sl a 8 = .int .i64 0) :
    Code.wp Try.prog (cAt [1,1,0,1,2,2,1,0,2,1,1,0,1,3] KRC) (Exit.then (fun a' w' => Fr 70 a' ∧ sl a' 1 = .slice fa fn fc ∧ sl a' 2 = .pointer (some ⟨b0, 0, none⟩) ∧ sl a' 4 = .pointer (some ⟨b1, 0, none⟩) ∧ sl a' 5 = .string (str (nowP d (T.take i))) ∧ sl a' 6 = .int .i64 (i : Int) ∧ sl a' 7 = .pointer (some ⟨bx, 0, none⟩) ∧ sl a' 8 = .int .i64 (xd.length : Int) ∧ w5 = w') Nope) a w5 := by
  obtain ⟨f, ha, hs⟩ := frKRC hf
  have e1 := (hs 1).trans h1
  have e2 := (hs 2).trans h2
  have e4 := (hs 4).trans h4
  have e5 := (hs 5).trans h5
  have e6 := (hs 6).trans h6
  have e7 := (hs 7).trans h7
  have e8 := (hs 8).trans h8
  rw [e1, e2, e4, e5, e6, e7, e8] at ha
  clear hs hf e1 h1 e2 h2 e4 h4 e5 h5 e6 h6 e7 h7 e8 h8
  subst ha
  refine piece2 fun J0 K0 hJ0 hK0 => ?_
  conv => arg 2; whnf
  have x1 := two1 HBX.out
  have hsx : (str xd).size = xd.length := str_size xd
  go_wp2_with fail
  refine Met.intro (hJ0 _ _ ?_)
  exact ⟨⟨rfl, rfl⟩, rfl, rfl, rfl, rfl, rfl, rfl, rfl, rfl⟩

set_option maxRecDepth 100000 in
set_option maxHeartbeats 4000000 in
theorem c9 (d : List Int) (fa : Option Addr) (fn : Nat) (fc : Nat) (fl : List Ft) (b0 : Nat) (b1 : Nat) (T : List Pw) (i : Nat) (fz : Ft) (hfl : Hid (fl.getD i (0, 0) = fz)) (w5 : World) (bx : Nat) (HFTl : Hid (Fts w5 fa fn fl)) (v8 : Int) (a : Act) (hf : Fr 70 a) (h1 : sl a 1 = .slice fa fn fc) (h2 : sl a 2 = .pointer (some ⟨b0, 0, none⟩)) (h4 : sl a 4 = .pointer (some ⟨b1, 0, none⟩)) (h5 : sl a 5 = .string (str (nowP d (T.take i)))) (h6 : sl a 6 = .int .i64 (i : Int)) (h7 : sl a 7 = .pointer (some ⟨bx, 0, none⟩)) (h8 : sl a 8 = .int .i64 v8) :
    Code.wp Try.prog (cAt [1,1,0,1,2,2,1,0,2,1,1,1,0,0] KRC) (Exit.then (fun a' w' => Fr 70 a' ∧ sl a' 1 = .slice fa fn fc ∧ sl a' 2 = .pointer (some ⟨b0, 0, none⟩) ∧ sl a' 4 = .pointer (some ⟨b1, 0, none⟩) ∧ sl a' 5 = .string (str (nowP d (T.take i))) ∧ sl a' 6 = .int .i64 (i : Int) ∧ sl a' 7 = .pointer (some ⟨bx, 0, none⟩) ∧ sl a' 8 = .int .i64 v8 ∧ sl a' 49 = .bool (decide (fz.1 = 2)) ∧ w5 = w') Nope) a w5 := by
  obtain ⟨f, ha, hs⟩ := frKRC hf
  have e1 := (hs 1).trans h1
  have e2 := (hs 2).trans h2
  have e4 := (hs 4).trans h4
  have e5 := (hs 5).trans h5
  have e6 := (hs 6).trans h6
  have e7 := (hs 7).trans h7
  have e8 := (hs 8).trans h8
  rw [e1, e2, e4, e5, e6, e7, e8] at ha
  clear hs hf e1 h1 e2 h2 e4 h4 e5 h5 e6 h6 e7 h7 e8 h8
  subst ha
  refine piece2 fun J0 K0 hJ0 hK0 => ?_
  conv => arg 2; whnf
  have hi0 : (0 : Int) ≤ (i : Int) := by omega
  by_cases hin : i < fn
  · have hi2 : (i : Int) < (fn : Int) := by omega
    obtain ⟨fr, fo, ef, hc⟩ := HFTl.out.2 (by intro e; have := HFTl.out.1; rw [e] at this; simp at this; omega)
    have hfi : fl[i]? = some fz := by rw [← hfl.out, List.getD_eq_getElem?_getD, List.getElem?_eq_getElem (by rw [HFTl.out.1]; exact hin)]; rfl
    obtain ⟨q0, q1⟩ := hc i fz hfi
    subst ef
    clear hc hfi q1
    by_cases hk : fz.1 = 2
    · rw [hk] at q0
      go_wp2_with fail
      refine Met.intro (hJ0 _ _ ?_)
      exact ⟨⟨rfl, rfl⟩, rfl, rfl, rfl, rfl, rfl, rfl, rfl, by rw [decide_eq_true hk]; rfl, rfl⟩
    · go_wp2_with fail
      refine Met.intro (hJ0 _ _ ?_)
      exact ⟨⟨rfl, rfl⟩, rfl, rfl, rfl, rfl, rfl, rfl, rfl, rfl, rfl⟩
  · have hi2 : ¬ (i : Int) < (fn : Int) := by omega
    have hf0 : fz = (0, 0) := by rw [← hfl.out, List.getD_eq_getElem?_getD, List.getElem?_eq_none (by rw [HFTl.out.1]; omega)]; rfl
    go_wp2_with fail
    refine Met.intro (hJ0 _ _ ?_)
    exact ⟨⟨rfl, rfl⟩, rfl, rfl, rfl, rfl, rfl, rfl, rfl, by rw [hf0]; rfl, rfl⟩

set_option maxRecDepth 100000 in
set_option maxHeartbeats 4000000 in
theorem c10 (d : List Int) (fa : Option Addr) (fn : Nat) (fc : Nat) (fl : List Ft) (b0 : Nat) (b1 : Nat) (T : List Pw) (i : Nat) (p : Int) (xd : List Int) (fz : Ft) (hfl : Hid (fl.getD i (0, 0) = fz)) (w5 : World) (bx : Nat) (HBX : Hid (w5.heap[bx]? = some (.cells #[.int .i64 p, .string (str xd)] 80 (0, 0)))) (HFTl : Hid (Fts w5 fa fn fl)) (v8 : Int) (hk : Hid (fz.1 = 2)) (a : Act) (hf : Fr 70 a) (h1 : sl a 1 = .slice fa fn fc) (h2 : sl a 2 = .pointer (some ⟨b0, 0, none⟩)) (h4 : sl a 4 = .pointer (some ⟨b1, 0, none⟩)) (h5 : sl a 5 = .string (str (nowP d (T.take i)))) (h6 : sl a 6 = .int .i64 (i : Int)) (h7 : sl a 7 = .pointer (some ⟨bx, 0, none⟩)) (h8 : sl a 8 = .int .i64 v8) :
    Code.wp Try.prog (cAt [1,1,0,1,2,2,1,0,2,1,1,1,0,1,3] KRC) (Exit.then (fun a' w' => Fr 70 a' ∧ sl a' 1 = .slice fa fn fc ∧ sl a' 2 = .pointer (some ⟨b0, 0, none⟩) ∧ sl a' 4 = .pointer (some ⟨b1, 0, none⟩) ∧ sl a' 5 = .string (str (nowP d (T.take i))) ∧ sl a' 6 = .int .i64 (i : Int) ∧ sl a' 7 = .pointer (some ⟨bx, 0, none⟩) ∧ sl a' 8 = .int .i64 (dnV fz.1 fz.2 xd.length) ∧ Below w5.heap.size w5 w') Nope) a w5 := by
  obtain ⟨f, ha, hs⟩ := frKRC hf
  have e1 := (hs 1).trans h1
  have e2 := (hs 2).trans h2
  have e4 := (hs 4).trans h4
  have e5 := (hs 5).trans h5
  have e6 := (hs 6).trans h6
  have e7 := (hs 7).trans h7
  have e8 := (hs 8).trans h8
  rw [e1, e2, e4, e5, e6, e7, e8] at ha
  clear hs hf e1 h1 e2 h2 e4 h4 e5 h5 e6 h6 e7 h7 e8 h8
  subst ha
  refine piece2 fun J0 K0 hJ0 hK0 => ?_
  conv => arg 2; whnf
  have hi0 : (0 : Int) ≤ (i : Int) := by omega
  have hin : i < fn := by
    by_cases hin : i < fn
    · exact hin
    · have hf0 : fz = (0, 0) := by rw [← hfl.out, List.getD_eq_getElem?_getD, List.getElem?_eq_none (by rw [HFTl.out.1]; omega)]; rfl
      have := hk.out
      rw [hf0] at this
      exact absurd this (by decide)
  have hi2 : (i : Int) < (fn : Int) := by omega
  obtain ⟨fr, fo, ef, hc⟩ := HFTl.out.2 (by intro e; have := HFTl.out.1; rw [e] at this; simp at this; omega)
  have hfi : fl[i]? = some fz := by rw [← hfl.out, List.getD_eq_getElem?_getD, List.getElem?_eq_getElem (by rw [HFTl.out.1]; exact hin)]; rfl
  obtain ⟨_, q1⟩ := hc i fz hfi
  have HQ1 := Lib.hid q1
  have hsx : (str xd).size = xd.length := str_size xd
  subst ef
  clear hc hfi q1
  obtain ⟨m, hm⟩ : ∃ m, (if (xd.length : Int) < fz.2 then (xd.length : Int) else fz.2) = m := ⟨_, rfl⟩
  obtain ⟨q, hq⟩ : ∃ q, (if 0 < m then m else 0) = q := ⟨_, rfl⟩
  have HM : Hid (dnV fz.1 fz.2 xd.length = q) := by
    show _ = _
    rw [← hq, ← hm]
    unfold dnV
    rw [if_neg (by rw [hk.out]; decide), if_pos hk.out]
    repeat' split
    all_goals omega
  rw [HM.out] at hJ0
  go_wp2_with fail
  have HS : Hid (w5.drew.cell? ⟨fr, fo + i * 2 + 1, none⟩ = some (.int .i64 fz.2) ∧ w5.drew.cell? ⟨bx, 1, none⟩ = some (.string (str xd))) := ⟨HQ1.out, two1 HBX.out⟩
  refine wp_region_held_drew (S := fun w' => w'.cell? ⟨fr, fo + i * 2 + 1, none⟩ = some (.int .i64 fz.2) ∧ w'.cell? ⟨bx, 1, none⟩ = some (.string (str xd))) (by kernel_rfl) HS.out (fun hS => ?_)
  refine tk 0 50 (.slice (some ⟨fr, fo, none⟩) fn fc) rfl rfl (by kernel_rfl) (by kernel_rfl) (by kernel_rfl) (fun _ _ _ h => h) (Or.inl ⟨by rfl, fun w' h' => ?_⟩) hS ?_
  · go_simp
  try simp only [Act.put, List.setIfInBounds_toArray, List.set_cons_zero, List.set_cons_succ]
  refine tk 1 51 (.int .i64 (i : Int)) rfl rfl (by kernel_rfl) (by kernel_rfl) (by kernel_rfl) (fun _ _ _ h => h) (Or.inl ⟨by rfl, fun w' h' => ?_⟩) hS ?_
  · go_simp
  try simp only [Act.put, List.setIfInBounds_toArray, List.set_cons_zero, List.set_cons_succ]
  refine tk 2 52 (.pointer (some ⟨fr, fo + i * 2, none⟩)) rfl rfl (by kernel_rfl) (by kernel_rfl) (by kernel_rfl) (fun _ _ _ h => h) (Or.inl ⟨by rfl, fun w' h' => ?_⟩) hS ?_
  · go_simp
  try simp only [Act.put, List.setIfInBounds_toArray, List.set_cons_zero, List.set_cons_succ]
  refine tk 3 53 (.pointer (some ⟨fr, fo + i * 2 + 1, none⟩)) rfl rfl (by kernel_rfl) (by kernel_rfl) (by kernel_rfl) (fun _ _ _ h => h) (Or.inl ⟨by rfl, fun w' h' => ?_⟩) hS ?_
  · go_simp
  try simp only [Act.put, List.setIfInBounds_toArray, List.set_cons_zero, List.set_cons_succ]
  refine tk 4 54 (.int .i64 fz.2) rfl rfl (by kernel_rfl) (by kernel_rfl) (by kernel_rfl) (fun _ _ _ h => h) (Or.inl ⟨by rfl, fun w' h' => ?_⟩) hS ?_
  · have x1 := h'.1
    go_simp
  try simp only [Act.put, List.setIfInBounds_toArray, List.set_cons_zero, List.set_cons_succ]
  refine tk 5 55 (.pointer (some ⟨bx, 1, none⟩)) rfl rfl (by kernel_rfl) (by kernel_rfl) (by kernel_rfl) (fun _ _ _ h => h) (Or.inl ⟨by rfl, fun w' h' => ?_⟩) hS ?_
  · go_simp
  try simp only [Act.put, List.setIfInBounds_toArray, List.set_cons_zero, List.set_cons_succ]
  refine tk 6 56 (.string (str xd)) rfl rfl (by kernel_rfl) (by kernel_rfl) (by kernel_rfl) (fun _ _ _ h => h) (Or.inl ⟨by rfl, fun w' h' => ?_⟩) hS ?_
  · have x1 := h'.2
    go_simp
  try simp only [Act.put, List.setIfInBounds_toArray, List.set_cons_zero, List.set_cons_succ]
  refine tk 7 57 (.int .i64 (xd.length : Int)) rfl rfl (by kernel_rfl) (by kernel_rfl) (by kernel_rfl) (fun _ _ _ h => h) (Or.inl ⟨by rfl, fun w' h' => ?_⟩) hS ?_
  · go_simp
  try simp only [Act.put, List.setIfInBounds_toArray, List.set_cons_zero, List.set_cons_succ]
  refine tk 8 58 (.int .i64 m) rfl rfl (by kernel_rfl) (by kernel_rfl) (by kernel_rfl) (fun _ _ _ h => h) (Or.inl ⟨by rfl, fun w' h' => ?_⟩) hS ?_
  · (first | (go_simp; done) | (go_simp; exact hm) | (go_simp; exact hq))
  try simp only [Act.put, List.setIfInBounds_toArray, List.set_cons_zero, List.set_cons_succ]
  refine tk 9 59 (.int .i64 q) rfl rfl (by kernel_rfl) (by kernel_rfl) (by kernel_rfl) (fun _ _ _ h => h) (Or.inl ⟨by rfl, fun w' h' => ?_⟩) hS ?_
  · (first | (go_simp; done) | (go_simp; exact hm) | (go_simp; exact hq))
  try simp only [Act.put, List.setIfInBounds_toArray, List.set_cons_zero, List.set_cons_succ]
  refine tk 10 8 (.int .i64 q) rfl rfl (by kernel_rfl) (by kernel_rfl) (by kernel_rfl) (fun _ _ _ h => h) (Or.inl ⟨by rfl, fun w' h' => ?_⟩) hS ?_
  · go_simp
  refine wpAnyH_done (by kernel_rfl) ?_ _
  go_wp2_with fail
  refine Met.intro (hJ0 _ _ ?_)
  exact ⟨⟨rfl, rfl⟩, rfl, rfl, rfl, rfl, rfl, rfl, rfl, (Below.refl _ _).drew⟩

set_option maxRecDepth 100000 in
set_option maxHeartbeats 4000000 in
theorem c11 (d : List Int) (L : List Pw) (fa : Option Addr) (fn : Nat) (fc : Nat) (HPL : Hid (PlOk d L)) (_w1 : World) (b0 : Nat) (b1 : Nat) (T : List Pw) (i : Nat) (p : Int) (xd : List Int) (hx : Hid (L[i]? = some (p, xd))) (fz : Ft) (bx : Nat) (w10 : World) (q : Nat) (hq2 : Hid (dnV fz.1 fz.2 xd.length = (q : Int) ∧ q ≤ xd.length)) (HBX2 : Hid (w10.heap[bx]? = some (.cells #[.int .i64 p, .string (str xd)] 80 (0, 0)))) (a : Act) (hf : Fr 70 a) (h1 : sl a 1 = .slice fa fn fc) (h2 : sl a 2 = .pointer (some ⟨b0, 0, none⟩)) (h4 : sl a 4 = .pointer (some ⟨b1, 0, none⟩)) (h5 : sl a 5 = .string (str (nowP d (T.take i)))) (h6 : sl a 6 = .int .i64 (i : Int)) (h7 : sl a 7 = .pointer (some ⟨bx, 0, none⟩)) (h8 : sl a 8 = .int .i64 (q : Int)) :
    Code.wp Try.prog (cAt [1,1,0,1,2,2,1,0,2,1,1,1,1] KRC) (Exit.then (fun a' w' => Fr 70 a' ∧ sl a' 1 = .slice fa fn fc ∧ sl a' 2 = .pointer (some ⟨b0, 0, none⟩) ∧ sl a' 4 = .pointer (some ⟨b1, 0, none⟩) ∧ sl a' 5 = .string (str (layL (nowP d (T.take i)) (xd.take q) p 0)) ∧ sl a' 6 = .int .i64 (i : Int) ∧ Below w10.heap.size w10 w') Nope) a w10 := by
  obtain ⟨f, ha, hs⟩ := frKRC hf
  have e1 := (hs 1).trans h1
  have e2 := (hs 2).trans h2
  have e4 := (hs 4).trans h4
  have e5 := (hs 5).trans h5
  have e6 := (hs 6).trans h6
  have e7 := (hs 7).trans h7
  have e8 := (hs 8).trans h8
  rw [e1, e2, e4, e5, e6, e7, e8] at ha
  clear hs hf e1 h1 e2 h2 e4 h4 e5 h5 e6 h6 e7 h7 e8 h8
  subst ha
  refine piece2 fun J0 K0 hJ0 hK0 => ?_
  conv => arg 2; whnf
  have HT := Lib.hid (fun W => run_str_to (xs := xd) q hq2.out.2 .i64 W)
  have hxm := List.mem_of_getElem? hx.out
  have HX : Hid (0 ≤ p ∧ p + (xd.take q).length ≤ (nowP d (T.take i)).length ∧ (nowP d (T.take i)).length ≤ 65536) := by
    have h1 := HPL.out.w0 _ hxm
    have h2 := HPL.out.w1 _ hxm
    have h3 := HPL.out.few
    simp only at h1 h2
    refine ⟨h1, ?_, by rw [nowP_len]; exact h3⟩
    rw [nowP_len, List.length_take]
    omega
  have HS : Hid (w10.drew.heap[bx]? = some (.cells #[.int .i64 p, .string (str xd)] 80 (0, 0))) := HBX2.out
  clear hxm
  go_wp2_with fail
  refine wp_region_held_drew (S := fun w' => w'.heap[bx]? = some (.cells #[.int .i64 p, .string (str xd)] 80 (0, 0))) (by kernel_rfl) HS.out (fun hS => ?_)
  refine tk 0 60 (.string (str (nowP d (T.take i)))) rfl rfl (by kernel_rfl) (by kernel_rfl) (by kernel_rfl) (fun _ _ _ h => h) (Or.inl ⟨by rfl, fun w' h' => ?_⟩) hS ?_
  · go_simp
  try simp only [Act.put, List.setIfInBounds_toArray, List.set_cons_zero, List.set_cons_succ]
  refine tk 1 61 (.pointer (some ⟨bx, 0, none⟩)) rfl rfl (by kernel_rfl) (by kernel_rfl) (by kernel_rfl) (fun _ _ _ h => h) (Or.inl ⟨by rfl, fun w' h' => ?_⟩) hS ?_
  · go_simp
  try simp only [Act.put, List.setIfInBounds_toArray, List.set_cons_zero, List.set_cons_succ]
  refine tk 2 62 (.int .i64 p) rfl rfl (by kernel_rfl) (by kernel_rfl) (by kernel_rfl) (fun _ _ _ h => h) (Or.inl ⟨by rfl, fun w' h' => ?_⟩) hS ?_
  · have x1 := two0 h'
    go_simp
  try simp only [Act.put, List.setIfInBounds_toArray, List.set_cons_zero, List.set_cons_succ]
  refine tk 3 63 (.pointer (some ⟨bx, 1, none⟩)) rfl rfl (by kernel_rfl) (by kernel_rfl) (by kernel_rfl) (fun _ _ _ h => h) (Or.inl ⟨by rfl, fun w' h' => ?_⟩) hS ?_
  · go_simp
  try simp only [Act.put, List.setIfInBounds_toArray, List.set_cons_zero, List.set_cons_succ]
  refine tk 4 64 (.string (str xd)) rfl rfl (by kernel_rfl) (by kernel_rfl) (by kernel_rfl) (fun _ _ _ h => h) (Or.inl ⟨by rfl, fun w' h' => ?_⟩) hS ?_
  · have x1 := two1 h'
    go_simp
  try simp only [Act.put, List.setIfInBounds_toArray, List.set_cons_zero, List.set_cons_succ]
  refine tk 5 65 (.int .i64 (q : Int)) rfl rfl (by kernel_rfl) (by kernel_rfl) (by kernel_rfl) (fun _ _ _ h => h) (Or.inl ⟨by rfl, fun w' h' => ?_⟩) hS ?_
  · go_simp
  try simp only [Act.put, List.setIfInBounds_toArray, List.set_cons_zero, List.set_cons_succ]
  refine tk 6 66 (.string (str (xd.take q))) rfl rfl (by kernel_rfl) (by kernel_rfl) (by kernel_rfl) (fun _ _ _ h => h) (Or.inl ⟨by rfl, fun w' h' => ?_⟩) hS ?_
  · have f1 := HT.out w'
    (first | exact f1 | go_simp)
  try simp only [Act.put, List.setIfInBounds_toArray, List.set_cons_zero, List.set_cons_succ]
  refine wpAnyH_ready (rs := [7]) (by kernel_rfl) (by simp) (AllReadyH.cons rfl (fun K hK => ?_) AllReadyH.nil)
  rw [if_pos (by rfl)]
  go_wp2_with fail
  refine (laid_any (nowP d (T.take i)) (xd.take q) p w10.drew HX.out.1 HX.out.2.1 HX.out.2.2).mono ?_
  rintro e w2 ⟨rfl, mm, hw⟩
  have HW2 : Hid (Kept (fun _ => False) w10 w2) := by show Kept _ _ _; rw [hw]; exact ((Kept.refl _ _).drew).trans (Kept.drewN mm) (fun _ _ e => e)
  clear hw
  clear hS
  refine hK.out _ _ (HW2.out.heap HBX2.out id) (fun hS => ?_)
  clear hK K
  try simp only [Act.put, List.setIfInBounds_toArray, List.set_cons_zero, List.set_cons_succ]
  refine tk 8 5 (.string (str (layL (nowP d (T.take i)) (xd.take q) p 0))) rfl rfl (by kernel_rfl) (by kernel_rfl) (by kernel_rfl) (fun _ _ _ h => h) (Or.inl ⟨by rfl, fun w' h' => ?_⟩) hS ?_
  · go_simp
  refine wpAnyH_done (by kernel_rfl) ?_ _
  go_wp2_with fail
  refine Met.intro (hJ0 _ _ ?_)
  exact ⟨⟨rfl, rfl⟩, rfl, rfl, rfl, rfl, rfl, HW2.out.below (Nat.le_refl _) (fun _ e => e.elim)⟩

theorem crash_one (w : World) (d : List Int) (u : Option Addr) (n : Nat) (c : Nat) (L : List Pw) (fa : Option Addr) (fn : Nat) (fc : Nat) (fl : List Ft) (HRL : Hid (Rk.lies w ⟨d, u, c, L⟩)) (HPL : Hid (PlOk d L)) (HLN : Hid (L.length = n)) (HFT : Hid (Fts w fa fn fl)) (w1 : World) (b0 : Nat) (b1 : Nat) (HB1 : Hid (Below w.heap.size w w1)) (T : List Pw) (hT : Hid (trimP L fl = T)) (wl : World) (i : Nat) (HBL : Hid (Below w1.heap.size w1 wl)) (HR0l : Hid (wl.heap[b0]? = some (.cells #[.string (str d), .slice u n c] 63 (0, 0)))) (hlt : Hid (i < n)) (a : Act) (hf : Fr 70 a) (h1 : sl a 1 = .slice fa fn fc) (h2 : sl a 2 = .pointer (some ⟨b0, 0, none⟩)) (h4 : sl a 4 = .pointer (some ⟨b1, 0, none⟩)) (h5 : sl a 5 = .string (str (nowP d (T.take i)))) (h6 : sl a 6 = .int .i64 (i : Int)) :
    Code.wp Try.prog (cAt [1,1,0,1,2,2,1,0] KRC) (Exit.then (fun a' w' => Fr 70 a' ∧ sl a' 1 = .slice fa fn fc ∧ sl a' 2 = .pointer (some ⟨b0, 0, none⟩) ∧ sl a' 4 = .pointer (some ⟨b1, 0, none⟩) ∧ sl a' 5 = .string (str (nowP d (T.take (i + 1)))) ∧ sl a' 6 = .int .i64 (i : Int) ∧ Below w1.heap.size w1 w') Nope) a wl := by
  have HRL := HRL.out
  have HPL := HPL.out
  have HLN := HLN.out
  have HFT := HFT.out
  have HB1 := HB1.out
  have hT := hT.out
  have HBL := HBL.out
  have HR0l := HR0l.out
  have hlt := hlt.out
  refine wp_blockR (x := cAt [1,1,0,1,2,2,1,0,2] KRC) (id := 1) (by kernel_rfl) ?_
  obtain ⟨⟨p, xd⟩, hx⟩ : ∃ x, L[i]? = some x := ⟨_, List.getElem?_eq_getElem (by rw [HLN]; exact hlt)⟩
  obtain ⟨fz, hfl⟩ : ∃ fz, fl.getD i (0, 0) = fz := ⟨_, rfl⟩
  refine wp_sqR (x := cAt [1,1,0,1,2,2,1,0,2,0] KRC) (y := cAt [1,1,0,1,2,2,1,0,2,1] KRC) (by kernel_rfl) (c5 w d u n c L fa fn fc HRL w1 b0 b1 HB1 T wl i HBL HR0l hlt p xd hx a hf h1 h2 h4 h5 h6) ?_
  rintro a_6 w5 ⟨bx, hf, h1, h2, h4, h5, h6, h7, HBX, HB5⟩
  refine wp_sqR (x := cAt [1,1,0,1,2,2,1,0,2,1,0] KRC) (y := cAt [1,1,0,1,2,2,1,0,2,1,1] KRC) (by kernel_rfl) (c6 d fa fn fc b0 b1 T i w5 bx a_6 hf h1 h2 h4 h5 h6 h7) ?_
  rintro a_7 _ ⟨hf, h1, h2, h4, h5, h6, h7, h8, rfl⟩
  have HFTl : Fts w5 fa fn fl := ((HFT.below HB1).below HBL).below HB5
  refine wp_sqR (x := cAt [1,1,0,1,2,2,1,0,2,1,1,0] KRC) (y := cAt [1,1,0,1,2,2,1,0,2,1,1,1] KRC) (by kernel_rfl) (R := fun a' w' => Fr 70 a' ∧ sl a' 1 = .slice fa fn fc ∧ sl a' 2 = .pointer (some ⟨b0, 0, none⟩) ∧ sl a' 4 = .pointer (some ⟨b1, 0, none⟩) ∧ sl a' 5 = .string (str (nowP d (T.take i))) ∧ sl a' 6 = .int .i64 (i : Int) ∧ sl a' 7 = .pointer (some ⟨bx, 0, none⟩) ∧ sl a' 8 = .int .i64 (if fz.1 = 1 then (xd.length : Int) else 0) ∧ w5 = w') ?_ ?_
  · refine wp_sqR (x := cAt [1,1,0,1,2,2,1,0,2,1,1,0,0] KRC) (y := cAt [1,1,0,1,2,2,1,0,2,1,1,0,1] KRC) (by kernel_rfl) (c7 d fa fn fc fl b0 b1 T i fz hfl w5 bx HFTl a_7 hf h1 h2 h4 h5 h6 h7 h8) ?_
    rintro a_8 _ ⟨hf, h1, h2, h4, h5, h6, h7, h8, h34, rfl⟩
    by_cases hk : fz.1 = 1
    · rw [decide_eq_true hk] at h34
      refine wp_onT (A := cAt [1,1,0,1,2,2,1,0,2,1,1,0,1,3] KRC) (B := cAt [1,1,0,1,2,2,1,0,2,1,1,0,1,4] KRC) (by kernel_rfl) h34 ?_
      refine wp_endR (c8 d fa fn fc b0 b1 T i p xd w5 bx HBX a_8 hf h1 h2 h4 h5 h6 h7 h8) ?_
      rintro a_9 _ ⟨hf, h1, h2, h4, h5, h6, h7, h8, rfl⟩
      rw [if_pos hk]
      exact ⟨hf, h1, h2, h4, h5, h6, h7, h8, rfl⟩
    · rw [decide_eq_false hk] at h34
      refine wp_onF (A := cAt [1,1,0,1,2,2,1,0,2,1,1,0,1,3] KRC) (B := cAt [1,1,0,1,2,2,1,0,2,1,1,0,1,4] KRC) (by kernel_rfl) h34 ?_
      refine wp_skipR (by kernel_rfl) ?_
      rw [if_neg hk]
      exact ⟨hf, h1, h2, h4, h5, h6, h7, h8, rfl⟩
  rintro a_10 _ ⟨hf, h1, h2, h4, h5, h6, h7, h8, rfl⟩
  obtain ⟨v8, hv8⟩ : ∃ v8 : Int, (if fz.1 = 1 then (xd.length : Int) else 0) = v8 := ⟨_, rfl⟩
  rw [hv8] at h8
  refine wp_sqR (x := cAt [1,1,0,1,2,2,1,0,2,1,1,1,0] KRC) (y := cAt [1,1,0,1,2,2,1,0,2,1,1,1,1] KRC) (by kernel_rfl) (R := fun a' w' => Fr 70 a' ∧ sl a' 1 = .slice fa fn fc ∧ sl a' 2 = .pointer (some ⟨b0, 0, none⟩) ∧ sl a' 4 = .pointer (some ⟨b1, 0, none⟩) ∧ sl a' 5 = .string (str (nowP d (T.take i))) ∧ sl a' 6 = .int .i64 (i : Int) ∧ sl a' 7 = .pointer (some ⟨bx, 0, none⟩) ∧ sl a' 8 = .int .i64 (dnV fz.1 fz.2 xd.length) ∧ Below w5.heap.size w5 w') ?_ ?_
  · refine wp_sqR (x := cAt [1,1,0,1,2,2,1,0,2,1,1,1,0,0] KRC) (y := cAt [1,1,0,1,2,2,1,0,2,1,1,1,0,1] KRC) (by kernel_rfl) (c9 d fa fn fc fl b0 b1 T i fz hfl w5 bx HFTl v8 a_10 hf h1 h2 h4 h5 h6 h7 h8) ?_
    rintro a_11 _ ⟨hf, h1, h2, h4, h5, h6, h7, h8, h49, rfl⟩
    by_cases hk : fz.1 = 2
    · rw [decide_eq_true hk] at h49
      refine wp_onT (A := cAt [1,1,0,1,2,2,1,0,2,1,1,1,0,1,3] KRC) (B := cAt [1,1,0,1,2,2,1,0,2,1,1,1,0,1,4] KRC) (by kernel_rfl) h49 ?_
      refine wp_endR (c10 d fa fn fc fl b0 b1 T i p xd fz hfl w5 bx HBX HFTl v8 hk a_11 hf h1 h2 h4 h5 h6 h7 h8) ?_
      rintro a_12 w10 ⟨hf, h1, h2, h4, h5, h6, h7, h8, HW10⟩
      exact ⟨hf, h1, h2, h4, h5, h6, h7, h8, HW10⟩
    · rw [decide_eq_false hk] at h49
      refine wp_onF (A := cAt [1,1,0,1,2,2,1,0,2,1,1,1,0,1,3] KRC) (B := cAt [1,1,0,1,2,2,1,0,2,1,1,1,0,1,4] KRC) (by kernel_rfl) h49 ?_
      refine wp_skipR (by kernel_rfl) ?_
      rw [show dnV fz.1 fz.2 xd.length = v8 by rw [← hv8]; unfold dnV; split <;> simp_all]
      exact ⟨hf, h1, h2, h4, h5, h6, h7, h8, Below.refl _ _⟩
  rintro a_13 w10 ⟨hf, h1, h2, h4, h5, h6, h7, h8, HB10⟩
  obtain ⟨q, hq⟩ : ∃ q, (dnV fz.1 fz.2 xd.length).toNat = q := ⟨_, rfl⟩
  have hq2 : dnV fz.1 fz.2 xd.length = (q : Int) ∧ q ≤ xd.length := by
    have h0 : 0 ≤ dnV fz.1 fz.2 xd.length ∧ dnV fz.1 fz.2 xd.length ≤ xd.length := by
      unfold dnV
      repeat' split
      all_goals omega
    omega
  rw [hq2.1] at h8
  have HBX2 : w10.heap[bx]? = some (.cells #[.int .i64 p, .string (str xd)] 80 (0, 0)) := (HB10.block _ (Array.getElem?_eq_some_iff.1 HBX).1).trans HBX
  refine wp_endR (c11 d L fa fn fc HPL w1 b0 b1 T i p xd hx fz bx w10 q hq2 HBX2 a_13 hf h1 h2 h4 h5 h6 h7 h8) ?_
  rintro a_14 w11 ⟨hf, h1, h2, h4, h5, h6, HB11⟩
  have hTi : T[i]? = some (p, xd.take q) := by
    rw [← hT]
    simp only [trimP, List.getElem?_mapIdx, hx, Option.map_some, hfl, cutP, hq]
  rw [show layL (nowP d (T.take i)) (xd.take q) p 0 = nowP d (T.take (i + 1)) by rw [List.take_add_one, hTi]; exact (nowP_snoc _ _ _ _).symm] at h5
  exact ⟨hf, h1, h2, h4, h5, h6, ((HBL.trans (HB5.mono HBL.size)).trans (HB10.mono (Nat.le_trans HBL.size HB5.size))).trans (HB11.mono (Nat.le_trans (Nat.le_trans HBL.size HB5.size) HB10.size))⟩

set_option maxRecDepth 100000 in
set_option maxHeartbeats 4000000 in
theorem c4 (d : List Int) (n : Nat) (L : List Pw) (fa : Option Addr) (fn : Nat) (fc : Nat) (HPL : Hid (PlOk d L)) (HLN : Hid (L.length = n)) (b0 : Nat) (b1 : Nat) (T : List Pw) (i : Nat) (hlt : Hid (i < n)) (wn : World) (a : Act) (hf : Fr 70 a) (h1 : sl a 1 = .slice fa fn fc) (h2 : sl a 2 = .pointer (some ⟨b0, 0, none⟩)) (h4 : sl a 4 = .pointer (some ⟨b1, 0, none⟩)) (h5 : sl a 5 = .string (str (nowP d (T.take (i + 1))))) (h6 : sl a 6 = .int .i64 (i : Int)) :
    Code.wp Try.prog (cAt [1,1,0,1,2,2,1,1] KRC) (Exit.then (fun a' w' => Fr 70 a' ∧ sl a' 1 = .slice fa fn fc ∧ sl a' 2 = .pointer (some ⟨b0, 0, none⟩) ∧ sl a' 4 = .pointer (some ⟨b1, 0, none⟩) ∧ sl a' 5 = .string (str (nowP d (T.take (i + 1)))) ∧ sl a' 6 = .int .i64 ((i + 1 : Nat) : Int) ∧ wn = w') Nope) a wn := by
  obtain ⟨f, ha, hs⟩ := frKRC hf
  have e1 := (hs 1).trans h1
  have e2 := (hs 2).trans h2
  have e4 := (hs 4).trans h4
  have e5 := (hs 5).trans h5
  have e6 := (hs 6).trans h6
  rw [e1, e2, e4, e5, e6] at ha
  clear hs hf e1 h1 e2 h2 e4 h4 e5 h5 e6 h6
  subst ha
  refine piece2 fun J0 K0 hJ0 hK0 => ?_
  conv => arg 2; whnf
  have hw : IntKind.i64.wrap ((i : Int) + 1) = ((i + 1 : Nat) : Int) := by have := hlt.out; have := HLN.out; have := HPL.out.num; rw [IntKind.wrap_i64]; omega
  go_wp2_with fail
  refine Met.intro (hJ0 _ _ ?_)
  exact ⟨⟨rfl, rfl⟩, rfl, rfl, rfl, rfl, rfl, rfl⟩

theorem crash_loop (w : World) (d : List Int) (u : Option Addr) (n : Nat) (c : Nat) (L : List Pw) (fa : Option Addr) (fn : Nat) (fc : Nat) (fl : List Ft) (HRL : Hid (Rk.lies w ⟨d, u, c, L⟩)) (HPL : Hid (PlOk d L)) (HLN : Hid (L.length = n)) (HFT : Hid (Fts w fa fn fl)) (w1 : World) (b0 : Nat) (b1 : Nat) (HB1 : Hid (Below w.heap.size w w1)) (HR0 : Hid (w1.heap[b0]? = some (.cells #[.string (str d), .slice u n c] 63 (0, 0)))) (T : List Pw) (hT : Hid (trimP L fl = T)) (a : Act) (hf : Fr 70 a) (h1 : sl a 1 = .slice fa fn fc) (h2 : sl a 2 = .pointer (some ⟨b0, 0, none⟩)) (h4 : sl a 4 = .pointer (some ⟨b1, 0, none⟩)) (h5 : sl a 5 = .string (str d)) :
    Code.wp Try.prog (cAt [1,1,0] KRC) (Exit.then (fun a' w' => Fr 70 a' ∧ sl a' 1 = .slice fa fn fc ∧ sl a' 2 = .pointer (some ⟨b0, 0, none⟩) ∧ sl a' 4 = .pointer (some ⟨b1, 0, none⟩) ∧ sl a' 5 = .string (str (nowP d T)) ∧ Below w1.heap.size w1 w') Nope) a w1 := by
  have HRL := HRL.out
  have HPL := HPL.out
  have HLN := HLN.out
  have HFT := HFT.out
  have HB1 := HB1.out
  have HR0 := HR0.out
  have hT := hT.out
  refine wp_sqR (x := cAt [1,1,0,0] KRC) (y := cAt [1,1,0,1] KRC) (by kernel_rfl) (c2 d fa fn fc w1 b0 b1 a hf h1 h2 h4 h5) ?_
  rintro a_3 _ ⟨hf, h1, h2, h4, h5, h6, rfl⟩
  refine wp_blockR (x := cAt [1,1,0,1,2] KRC) (id := 0) (by kernel_rfl) ?_
  refine wp_loopR (x := cAt [1,1,0,1,2,2] KRC) (by kernel_rfl) (fun a' w' => ∃ i : Nat, i ≤ n ∧ Below w1.heap.size w1 w' ∧ Fr 70 a' ∧ sl a' 1 = .slice fa fn fc ∧ sl a' 2 = .pointer (some ⟨b0, 0, none⟩) ∧ sl a' 4 = .pointer (some ⟨b1, 0, none⟩) ∧ sl a' 5 = .string (str (nowP d (T.take i))) ∧ sl a' 6 = .int .i64 (i : Int)) (fun a' _ => n - (numOf (sl a' 6)).toNat) ⟨0, Nat.zero_le _, Below.refl _ _, hf, h1, h2, h4, h5, h6⟩ ?_
  rintro a_l wl ⟨i, hi, HBL, hf, h1, h2, h4, h5, h6⟩
  have h6a := h6
  have HR0l : wl.heap[b0]? = some (.cells #[.string (str d), .slice u n c] 63 (0, 0)) := (HBL.block _ (Array.getElem?_eq_some_iff.1 HR0).1).trans HR0
  by_cases hlt : i < n
  case neg =>
    refine wp_endX (c3x d u n c fa fn fc b0 b1 T wl i HR0l hlt a_l hf h1 h2 h4 h5 h6) ?_
    rintro a_4 _ ⟨hf, h1, h2, h4, h5, rfl⟩
    have e : T.take i = T := List.take_of_length_le (by rw [← hT]; simp [trimP, HLN]; omega)
    rw [e] at h5
    exact thru ⟨hf, h1, h2, h4, h5, HBL⟩
  refine wp_sqR (x := cAt [1,1,0,1,2,2,0] KRC) (y := cAt [1,1,0,1,2,2,1] KRC) (by kernel_rfl) (c3 d u n c fa fn fc b0 b1 T wl i HR0l hlt a_l hf h1 h2 h4 h5 h6) ?_
  rintro a_5 _ ⟨hf, h1, h2, h4, h5, h6, rfl⟩
  refine wp_sqR (x := cAt [1,1,0,1,2,2,1,0] KRC) (y := cAt [1,1,0,1,2,2,1,1] KRC) (by kernel_rfl) (crash_one w d u n c L fa fn fc fl HRL HPL HLN HFT w1 b0 b1 HB1 T hT wl i HBL HR0l hlt a_5 hf h1 h2 h4 h5 h6) ?_
  rintro a_15 wn ⟨hf, h1, h2, h4, h5, h6, HBN⟩
  refine wp_endR (c4 d n L fa fn fc HPL HLN b0 b1 T i hlt wn a_15 hf h1 h2 h4 h5 h6) ?_
  rintro a_16 _ ⟨hf, h1, h2, h4, h5, h6, rfl⟩
  refine ⟨⟨i + 1, hlt, HBN, hf, h1, h2, h4, h5, h6⟩, ?_⟩
  rw [h6a, h6]
  simp only [numOf]
  omega

set_option maxRecDepth 100000 in
set_option maxHeartbeats 4000000 in
theorem c12 (w : World) (d : List Int) (w1 : World) (b1 : Nat) (HB1 : Hid (Below w.heap.size w w1)) (HR1 : Hid (w1.heap[b1]? = some (.cells #[.string ⟨#[]⟩, .slice none 0 0] 63 (0, 0)))) (Hb1 : Hid (w.heap.size ≤ b1)) (T : List Pw) (w9 : World) (HB9 : Hid (Below w1.heap.size w1 w9)) (a : Act) (hf : Fr 70 a) (h4 : sl a 4 = .pointer (some ⟨b1, 0, none⟩)) (h5 : sl a 5 = .string (str (nowP d T))) :
    Code.wp Try.prog (cAt [1,1,1] KRC) (bodyPost Try.prog Try.f33 (Gives w (.agg #[.string (str (nowP d T)), .slice none 0 0]))) a w9 := by
  have HR2 : Hid (w9.heap[b1]? = some (.cells #[.string ⟨#[]⟩, .slice none 0 0] 63 (0, 0))) := (HB9.out.block _ (Array.getElem?_eq_some_iff.1 HR1.out).1).trans HR1.out
  have HBZ : Hid (Below w.heap.size w w9) := HB1.out.trans (HB9.out.mono HB1.out.size)
  obtain ⟨f, ha, hs⟩ := frKRC hf
  have e4 := (hs 4).trans h4
  have e5 := (hs 5).trans h5
  rw [e4, e5] at ha
  clear hs hf e4 h4 e5 h5
  subst ha
  conv => arg 2; whnf
  go_wp2_with (refine st2 63 (.tmp 4) (.tmp 69) rfl rfl b1 (.string (str (nowP d T))) (.slice none 0 0) _ _ 63 rfl rfl HR2.out infRk rfl rfl ?_; intro w3 H3)
  have x0 := two0 H3.out.1
  have x1 := two1 H3.out.1
  refine bodyPost_ret (v := .agg #[.string (str (nowP d T)), .slice none 0 0]) (by simp [results, Try.results33, go_sem, *]) rfl ?_
  exact ⟨rfl, HBZ.out.trans (H3.out.2.below HBZ.out.size (fun i e => by have := Hb1.out; omega))⟩

theorem r13Crash_any (r : Rk) (fa : Option Addr) (fn fc : Nat) (fl : List Ft) (w : World) (HRL : r.lies w) (HPL : PlOk r.d r.L) (HFT : Fts w fa fn fl) (_HFM : fn ≤ 1000) :
    Calls Try.prog 33 #[r.v, .slice fa fn fc] w (Gives w (.agg #[.string (str (nowP r.d (trimP r.L fl))), .slice none 0 0])) := by
  obtain ⟨d, u, c, L⟩ := r
  obtain ⟨n, HLN⟩ : ∃ n, L.length = n := ⟨_, rfl⟩
  show Calls Try.prog 33 #[.agg #[.string (str d), .slice u L.length c], .slice fa fn fc] w (Gives w (.agg #[.string (str (nowP d (trimP L fl))), .slice none 0 0]))
  rw [HLN]
  refine calls_of_wp (c := KRC) Try.func33 (by kernel_rfl) ?_
  have hf : Fr 70 { tmps := #[.agg #[.string (str d), .slice u n c], .slice fa fn fc] ++ Array.replicate (Try.f33.ntmps - (#[.agg #[.string (str d), .slice u n c], .slice fa fn fc] : Array Value).size) undef, defers := [] } := ⟨rfl, by simp [Try.ntmps33]⟩
  generalize ha : ({ tmps := #[.agg #[.string (str d), .slice u n c], .slice fa fn fc] ++ Array.replicate (Try.f33.ntmps - (#[.agg #[.string (str d), .slice u n c], .slice fa fn fc] : Array Value).size) undef, defers := [] } : Act) = a at hf ⊢
  have h0 : sl a 0 = .agg #[.string (str d), .slice u n c] := by rw [← ha]; exact sl_at _ _ 0 _ rfl
  have h1 : sl a 1 = .slice fa fn fc := by rw [← ha]; exact sl_at _ _ 1 _ rfl
  clear ha
  refine wp_sqR (x := cAt [0] KRC) (y := cAt [1] KRC) (by kernel_rfl) (c0 w d u n c fa fn fc a hf h0 h1) ?_
  rintro a_1 w1 ⟨b0, b1, hf, h1, h2, h4, HB1, HR0, HR1, Hb1⟩
  refine wp_sqR (x := cAt [1,0] KRC) (y := cAt [1,1] KRC) (by kernel_rfl) (c1 d u n c fa fn fc w1 b0 b1 HR0 a_1 hf h1 h2 h4) ?_
  rintro a_2 _ ⟨hf, h1, h2, h4, h5, rfl⟩
  obtain ⟨T, hT⟩ : ∃ x, trimP L fl = x := ⟨_, rfl⟩
  rw [hT]
  refine wp_sqR (x := cAt [1,1,0] KRC) (y := cAt [1,1,1] KRC) (by kernel_rfl) (crash_loop w d u n c L fa fn fc fl HRL HPL HLN HFT w1 b0 b1 HB1 HR0 T hT a_2 hf h1 h2 h4 h5) ?_
  rintro a_17 w9 ⟨hf, h1, h2, h4, h5, HB9⟩
  exact c12 w d w1 b1 HB1 HR1 Hb1 T w9 HB9 a_17 hf h4 h5
end Go.Proofs.Ytbghdlgfpfeaeaa

/-
  The contract of the document's own 'six'. Condition: a text of at most 1000 bytes. (Made by gen_adr7.py.)
-/
import Derived.Test.YtbnfmiopgjmppaaDoorAdR6
namespace Go.Proofs.YtbnfmiopgjmppaaDoor
open Go.RowKit

theorem ret_midT {P : Program} {fn : Func} {p q : Tmp} {ty : TypeId} (h : fn.results = #[.cell p ty, .tmp q]) (tmps : Array Value) (w : World) (b off : Nat) (cs : List Value) (d : TypeDesc) (hp : tmps.getD p undef = .pointer (some ⟨b, off, none⟩)) (hc : w.rangeAt b off cs)
    (hu : P.underlying ty = some d) (hd : d.isRow = true) (hi : (P.info? ty).map (·.size) = some cs.length) : (results fn tmps).run P w = .ok (.tuple #[.agg cs.toArray, tmps.getD q undef]) w := by
  have hp' : tmps[p]?.getD undef = .pointer (some ⟨b, off, none⟩) := by simpa using hp
  simp [results, h, hp', asAddr, run_loadVar_mid w b off ty cs d hc hu hd hi]
theorem built0 : Tryd.prog.built 27 [] = some (adl false (zs 16)).toArray := by kernel_rfl
theorem built1 : Tryd.prog.built 27 [(0, .bool true)] = some (adl true (zs 16)).toArray := by kernel_rfl
theorem Ab.there {w : World} {g : Nat} {s : Bool} {xs : List Int} (h : Ab w g s xs) (hl : xs.length = 16) : w.there g 0 17 := fun j hj => by
  rw [cell_of_row w g (0 + j) _ _ (0, 0) h, frozen_of_row w g (0 + j) _ _ h]
  refine ⟨?_, rfl⟩
  have := adl_len s xs hl
  simp
  omega

set_option maxRecDepth 100000 in
set_option maxHeartbeats 4000000 in
theorem s16no (l : Tx) (gO nL cL : Nat) (aL : Option Addr) (ok : Bool) (vs : List Nat) (w wr : World) (HX : Hid (Sx w wr gO aL nL cL vs)) (hno : ¬ (ok = true ∧ nL = 8)) (hp : Hid (parse6 l = none)) (a : Act) (hf : Fr 117 a) (h2 : sl a 2 = .pointer (some ⟨gO, 0, none⟩)) (h6 : sl a 6 = .slice aL nL cL) (h7 : sl a 7 = .bool ok) :
    Code.wp Tryd.prog (cAt [1,1,1,1,1] K6) (bodyPost Tryd.prog Tryd.f45 (SixR w l)) a wr := by
  obtain ⟨f, ha, hs⟩ := fr117 hf
  have e2 := (hs 2).trans h2
  have e6 := (hs 6).trans h6
  have e7 := (hs 7).trans h7
  rw [e2, e6, e7] at ha
  clear hs hf e2 h2 e6 h6 e7 h7
  subst ha
  conv => arg 2; whnf
  have HT : Hid (wr.there gO 0 17 ∧ Below w.heap.size w wr ∧ w.heap.size ≤ gO) := ⟨HX.out.out.there rfl, HX.out.below, HX.out.og⟩
  cases ok with
  | false =>
    go_wp2_with (first
      | (refine wpList_build_run (cells := (adl false (zs 16)).toArray) rfl 27 _ rfl ?_ ?_; · exact built0)
      | (refine stR (.tmp 2) (.tmp 89) rfl rfl gO 0 false (zs 16) rfl rfl rfl HT.out.1 ?_))
    refine bodyPost_ret (ret_midT rfl _ _ gO 0 (adl false (zs 16)) _ rfl (World.rangeAt_setCells_same _ _ _ _ HT.out.1) Tryd.underlying27 rfl infR) rfl ?_
    exact ⟨Below.setCells HT.out.2.1 gO HT.out.2.2 _ _, .inr ⟨hp.out, rfl⟩⟩
  | true =>
    have hn8 : ¬ nL = 8 := fun e => hno ⟨rfl, e⟩
    have hq : ((nL : Int) != 8) = true := by simp; omega
    go_wp2_with (first
      | (refine wpList_build_run (cells := (adl false (zs 16)).toArray) rfl 27 _ rfl ?_ ?_; · exact built0)
      | (refine stR (.tmp 2) (.tmp 89) rfl rfl gO 0 false (zs 16) rfl rfl rfl HT.out.1 ?_))
    refine bodyPost_ret (ret_midT rfl _ _ gO 0 (adl false (zs 16)) _ rfl (World.rangeAt_setCells_same _ _ _ _ HT.out.1) Tryd.underlying27 rfl infR) rfl ?_
    exact ⟨Below.setCells HT.out.2.1 gO HT.out.2.2 _ _, .inr ⟨hp.out, rfl⟩⟩

set_option maxRecDepth 100000 in
set_option maxHeartbeats 4000000 in
theorem s16 (gO cL : Nat) (aL : Option Addr) (wr : World) (a : Act) (hf : Fr 117 a) (h2 : sl a 2 = .pointer (some ⟨gO, 0, none⟩)) (h6 : sl a 6 = .slice aL 8 cL) (h7 : sl a 7 = .bool true) :
    Code.wp Tryd.prog (cAt [1,1,1,1,1,0] K6) (Exit.then (fun a' w' => Fr 117 a' ∧ sl a' 2 = .pointer (some ⟨gO, 0, none⟩) ∧ sl a' 6 = .slice aL 8 cL ∧ wr = w') Nope) a wr := by
  obtain ⟨f, ha, hs⟩ := fr117 hf
  have e2 := (hs 2).trans h2
  have e6 := (hs 6).trans h6
  have e7 := (hs 7).trans h7
  rw [e2, e6, e7] at ha
  clear hs hf e2 h2 e6 h6 e7 h7
  subst ha
  refine piece2 fun J0 K0 hJ0 hK0 => ?_
  conv => arg 2; whnf
  go_wp2_with fail
  refine Met.intro (hJ0 _ _ ?_)
  exact ⟨⟨rfl, rfl⟩, rfl, rfl, rfl⟩

/-- The address that is filled, and the groups. -/
structure Sf (w wr : World) (gO g12 : Nat) (aL : Option Addr) (cL : Nat) (vs : List Nat) (ys : List Int) : Prop where
  out : wr.there gO 0 17
  row : wr.rangeAt g12 0 (adl true ys)
  th : wr.there g12 0 17
  own : OwnI wr (gO + 1) aL 8 cL vs
  below : Below w.heap.size w wr
  og : w.heap.size ≤ gO
  ne : gO < g12
  ap : ∀ k, blk aL = some k → k < g12
theorem kept_sets {S : Nat → Prop} {w w' : World} (g : Nat) (hg : S g) : ∀ (vs : List Value) (o : Nat), Kept S w w' → Kept S w (w'.setCells g o vs)
  | [], _, h => h
  | v :: r, o, h => by rw [World.setCells]; exact kept_sets g hg r (o + 1) (h.trans (Kept.setCell (S := S) w' ⟨g, o, none⟩ v hg) (fun _ _ h => h))
theorem there_kpt {w wr : World} (h : Below w.heap.size w wr) {b o n : Nat} (ht : w.there b o n) : wr.there b o n := fun j hj => by
  obtain ⟨h1, h2⟩ := ht j hj
  obtain ⟨u, hu⟩ := Option.isSome_iff_exists.1 h1
  have hb := World.block_lt_of_cell? w _ hu
  rw [h.cell (p := ⟨b, o + j, none⟩) hb, h.frozen (p := ⟨b, o + j, none⟩) hb]
  exact ⟨h1, h2⟩
theorem there_keep {S : Nat → Prop} {w w' : World} {g o n : Nat} (k : Kept S w w') (hg : ¬ S g) (h : w.there g o n) : w'.there g o n := fun j hj => by
  obtain ⟨h1, h2⟩ := h j hj
  obtain ⟨u, hu⟩ := Option.isSome_iff_exists.1 h1
  have hb := World.block_lt_of_cell? w _ hu
  have e := k.block g hb hg
  rw [World.cell?_of_block (w := w) (w' := w') (a := ⟨g, o + j, none⟩) e, World.frozen?_of_block (w := w) (w' := w') (a := ⟨g, o + j, none⟩) e]
  exact ⟨h1, h2⟩
theorem range_set {w : World} {b : Nat} {cs : List Value} (h : w.rangeAt b 0 cs) {j : Nat} (hj : j < cs.length) (v : Value) : (w.setCell ⟨b, j, none⟩ v).rangeAt b 0 (cs.set j v) := fun i u hu => by
  rw [Nat.zero_add]
  by_cases e : j = i
  · subst e
    rw [List.getElem?_set_self hj] at hu
    simp only [Option.some.injEq] at hu
    subst hu
    have h1 := h j _ (List.getElem?_eq_getElem hj)
    rw [Nat.zero_add] at h1
    exact World.cell?_setCell_same' _ _ _ (by rw [h1]; rfl)
  · rw [List.getElem?_set_ne e] at hu
    have h1 := h i u hu
    rw [Nat.zero_add] at h1
    rw [World.cell?_setCell_other _ _ _ _ (by simp <;> omega)]
    exact h1
theorem adl_set (s : Bool) (xs : List Int) (j : Nat) (z : Int) : (adl s xs).set (1 + j) (.int .u8 z) = adl s (xs.set j z) := by
  simp [adl, bv, List.map_set, Nat.add_comm 1 j]
theorem Sf.set {w wr : World} {gO g12 cL : Nat} {aL : Option Addr} {vs : List Nat} {ys : List Int} (h : Sf w wr gO g12 aL cL vs ys) (hl : ys.length = 16) {j : Nat} (hj : j < 16) (z : Int) : Sf w (wr.setCell ⟨g12, 1 + j, none⟩ (.int .u8 z)) gO g12 aL cL vs (ys.set j z) := by
  have hk := Kept.setCell (S := fun x => x = g12) wr ⟨g12, 1 + j, none⟩ (.int .u8 z) rfl
  refine ⟨there_keep hk (by have := h.ne; omega) h.out, ?_, World.there_setCells h.th _ _ [.int .u8 z], OwnG.keep h.own hk (fun k h1 e => by have := h.ap k h1; omega), h.below.trans (hk.below h.below.size (fun k e => by have := h.ne; have := h.og; omega)), h.og, h.ne, h.ap⟩
  have := range_set h.row (j := 1 + j) (by rw [adl_len _ _ hl]; omega) (.int .u8 z)
  rwa [adl_set] at this

set_option maxRecDepth 100000 in
set_option maxHeartbeats 4000000 in
theorem s18 (gO cL : Nat) (aL : Option Addr) (vs : List Nat) (w wr : World) (HX : Hid (Sx w wr gO aL 8 cL vs)) (a : Act) (hf : Fr 117 a) (h2 : sl a 2 = .pointer (some ⟨gO, 0, none⟩)) (h6 : sl a 6 = .slice aL 8 cL) :
    Code.wp Tryd.prog (cAt [1,1,1,1,1,1,0] K6) (Exit.then (fun a' w' => ∃ g12, Fr 117 a' ∧ sl a' 2 = .pointer (some ⟨gO, 0, none⟩) ∧ sl a' 6 = .slice aL 8 cL ∧ sl a' 12 = .pointer (some ⟨g12, 0, none⟩) ∧ Sf w w' gO g12 aL cL vs (zs 16)) Nope) a wr := by
  obtain ⟨f, ha, hs⟩ := fr117 hf
  have e2 := (hs 2).trans h2
  have e6 := (hs 6).trans h6
  rw [e2, e6] at ha
  clear hs hf e2 h2 e6 h6
  subst ha
  refine piece2 fun J0 K0 hJ0 hK0 => ?_
  conv => arg 2; whnf
  have HTN : Hid ((wr.alloc (.cells (adl false (zs 16)).toArray 27)).there wr.heap.size 0 17) := there_new _ _ _ _ rfl _ rfl
  have HF : Hid (Sf w ((wr.alloc (.cells (adl false (zs 16)).toArray 27)).setCells wr.heap.size 0 (adl true (zs 16))) gO wr.heap.size aL cL vs (zs 16)) := by
    have hx := HX.out
    have hb : Below wr.heap.size wr (wr.alloc (.cells (adl false (zs 16)).toArray 27)) := (Below.refl _ _).alloc (Nat.le_refl _) _
    have hb2 : Below wr.heap.size wr ((wr.alloc (.cells (adl false (zs 16)).toArray 27)).setCells wr.heap.size 0 (adl true (zs 16))) := Below.setCells hb _ (Nat.le_refl _) _ _
    exact ⟨there_kpt hb2 (hx.out.there rfl), World.rangeAt_setCells_same _ _ _ _ HTN.out, World.there_setCells HTN.out _ _ _, OwnG.below hx.own hb2, hx.below.trans (hb2.mono hx.below.size), hx.og, (Array.getElem?_eq_some_iff.1 hx.out).1, fun k h => (OwnG.blk_ge hx.own k h).2⟩
  go_wp2_with (first
    | (refine wpList_build_run (cells := (adl true (zs 16)).toArray) rfl 27 _ rfl ?_ ?_; · exact built1)
    | (refine stR (.tmp 12) (.tmp 90) rfl rfl _ 0 true (zs 16) rfl rfl rfl HTN.out ?_))
  refine Met.intro (hJ0 _ _ ?_)
  exact ⟨_, ⟨rfl, rfl⟩, rfl, rfl, rfl, HF.out⟩

set_option maxRecDepth 100000 in
set_option maxHeartbeats 4000000 in
theorem s19 (gO g12 cL : Nat) (aL : Option Addr) (wr : World) (a : Act) (hf : Fr 117 a) (h2 : sl a 2 = .pointer (some ⟨gO, 0, none⟩)) (h6 : sl a 6 = .slice aL 8 cL) (h12 : sl a 12 = .pointer (some ⟨g12, 0, none⟩)) :
    Code.wp Tryd.prog (cAt [1,1,1,1,1,1,1,0,0] K6) (Exit.then (fun a' w' => Fr 117 a' ∧ sl a' 2 = .pointer (some ⟨gO, 0, none⟩) ∧ sl a' 6 = .slice aL 8 cL ∧ sl a' 12 = .pointer (some ⟨g12, 0, none⟩) ∧ sl a' 13 = .int .i64 0 ∧ wr = w') Nope) a wr := by
  obtain ⟨f, ha, hs⟩ := fr117 hf
  have e2 := (hs 2).trans h2
  have e6 := (hs 6).trans h6
  have e12 := (hs 12).trans h12
  rw [e2, e6, e12] at ha
  clear hs hf e2 h2 e6 h6 e12 h12
  subst ha
  refine piece2 fun J0 K0 hJ0 hK0 => ?_
  conv => arg 2; whnf
  go_wp2_with fail
  refine Met.intro (hJ0 _ _ ?_)
  exact ⟨⟨rfl, rfl⟩, rfl, rfl, rfl, rfl, rfl⟩

set_option maxRecDepth 100000 in
set_option maxHeartbeats 4000000 in
theorem s22 (gO g12 cL k : Nat) (aL : Option Addr) (vs : List Nat) (ys : List Int) (v : Nat) (w wr : World) (hk : k < 8) (hv : v < 65536) (hvs : vs[k]? = some v) (hys : ys.length = 16) (HF : Hid (Sf w wr gO g12 aL cL vs ys)) (a : Act) (hf : Fr 117 a) (h2 : sl a 2 = .pointer (some ⟨gO, 0, none⟩)) (h6 : sl a 6 = .slice aL 8 cL) (h12 : sl a 12 = .pointer (some ⟨g12, 0, none⟩)) (h13 : sl a 13 = .int .i64 (k : Int)) :
    Code.wp Tryd.prog (cAt [1,1,1,1,1,1,1,0,1,2,2] K6) (Exit.then (fun a' w' => Fr 117 a' ∧ sl a' 2 = .pointer (some ⟨gO, 0, none⟩) ∧ sl a' 6 = .slice aL 8 cL ∧ sl a' 12 = .pointer (some ⟨g12, 0, none⟩) ∧ sl a' 13 = .int .i64 ((k : Int) + 1) ∧ Sf w w' gO g12 aL cL vs ((ys.set (2 * k) ((v / 256 : Nat) : Int)).set (2 * k + 1) ((v % 256 : Nat) : Int))) Nope) a wr := by
  obtain ⟨f, ha, hs⟩ := fr117 hf
  have e2 := (hs 2).trans h2
  have e6 := (hs 6).trans h6
  have e12 := (hs 12).trans h12
  have e13 := (hs 13).trans h13
  rw [e2, e6, e12, e13] at ha
  clear hs hf e2 h2 e6 h6 e12 h12 e13 h13
  subst ha
  refine piece2 fun J0 K0 hJ0 hK0 => ?_
  conv => arg 2; whnf
  obtain ⟨gA, hgA, hcell⟩ := OwnI.at_ HF.out.own hvs
  subst hgA
  have HF1 := Lib.hid (HF.out.set hys (j := 2 * k) (by omega) ((v / 256 : Nat) : Int))
  have HF2 := Lib.hid (HF1.out.set (by simpa using hys) (j := 2 * k + 1) (by omega) ((v % 256 : Nat) : Int))
  have hne : gA ≠ g12 := by have := HF.out.ap gA rfl; omega
  obtain ⟨j, hj⟩ : ∃ j, 2 * k = j := ⟨_, rfl⟩
  rw [hj] at HF1 HF2
  have hJ1 := hJ0
  rw [hj] at hJ1
  have t1 := HF.out.th (1 + j) (by omega)
  have t2 := HF1.out.th (1 + (j + 1)) (by omega)
  rw [Nat.zero_add] at t1 t2
  obtain ⟨u1, hu1⟩ := Option.isSome_iff_exists.1 t1.1
  obtain ⟨u2, hu2⟩ := Option.isSome_iff_exists.1 t2.1
  have hf1 := t1.2
  have hf2 := t2.2
  have hk2 : (k : Int) < 8 := by omega
  have e1 : IntKind.i64.wrap (2 * (k : Int)) = (j : Int) := by rw [IntKind.wrap_i64]; omega
  have e2 : IntKind.i64.wrap ((j : Int) + 1) = ((j + 1 : Nat) : Int) := by rw [IntKind.wrap_i64]; omega
  have e3 : (v : Int).tdiv 256 = ((v / 256 : Nat) : Int) := (Int.ofNat_tdiv v 256).symm
  have e4 : (v : Int).tmod 256 = ((v % 256 : Nat) : Int) := (Int.ofNat_tmod v 256).symm
  obtain ⟨x, hx⟩ : ∃ x, v / 256 = x := ⟨_, rfl⟩
  obtain ⟨y, hy⟩ : ∃ y, v % 256 = y := ⟨_, rfl⟩
  have hx1 : x < 256 := by omega
  have hy1 : y < 256 := by omega
  rw [hx] at e3 HF1 HF2 hJ1 hu2 hf2 t2
  rw [hy] at e4 HF2 hJ1
  have e5 : IntKind.i64.wrap (x : Int) = (x : Int) := by rw [IntKind.wrap_i64]; omega
  have e6 : IntKind.u8.wrap (x : Int) = (x : Int) := by rw [IntKind.wrap_u8]; omega
  have e7 : IntKind.u8.wrap (y : Int) = (y : Int) := by rw [IntKind.wrap_u8]; omega
  have q1 : (j : Int) < 16 := by omega
  have q2 : ((j + 1 : Nat) : Int) < 16 := by omega
  have hcell2 : (wr.setCell ⟨g12, 1 + j, none⟩ (.int .u8 (x : Int))).cell? ⟨gA, k, none⟩ = some (.int .i64 (v : Int)) := by
    rw [World.cell?_setCell_other _ _ _ _ (by simp <;> omega)]; exact hcell
  clear hJ0 t1 t2 hx hy hj
  go_wp2_with fail
  refine Met.intro (hJ1 _ _ ?_)
  exact ⟨⟨rfl, rfl⟩, rfl, rfl, rfl, rfl, HF2.out⟩

end Go.Proofs.YtbnfmiopgjmppaaDoor

/-
  The contract of kindOf of package trans: a map of kinds, made anew for each call. No conditions but that the number is a byte.
-/
import Derived.Test.YtabdejoakecioaaTrM
import Derived.MapKept
import Derived.Carry
namespace Go.Proofs.Ytabdejoakecioaa
open Go.RowKit Go.MapKept

/-- What is known of a protocol's segments: the cells. -/
def kT : List Value := [.int .i64 20, .int .i64 16, .bool false, .bool false, .func (.func 55) #[] #[], .func (.func 56) #[] #[], .func (.func 57) #[] #[], .func (.func 58) #[] #[]]
def kU : List Value := [.int .i64 8, .int .i64 6, .bool false, .bool true, .func (.func 59) #[] #[], .func (.func 60) #[] #[], .func (.func 61) #[] #[], .func (.func 62) #[] #[]]
def kI : List Value := [.int .i64 4, .int .i64 2, .bool true, .bool false, .func (.func 51) #[] #[], .func (.func 52) #[] #[], .func (.func 53) #[] #[], .func (.func 54) #[] #[]]
def kJ : List Value := [.int .i64 4, .int .i64 2, .bool false, .bool false, .func (.func 51) #[] #[], .func (.func 52) #[] #[], .func (.func 53) #[] #[], .func (.func 54) #[] #[]]
def kZ : List Value := [.int .i64 0, .int .i64 0, .bool false, .bool false, .nilFunc, .nilFunc, .nilFunc, .nilFunc]
def kdV (p : Int) : List Value := if p = 6 then kT else if p = 17 then kU else if p = 1 then kI else if p = 58 then kJ else kZ
theorem kdV_len (p : Int) : (kdV p).length = 8 := by unfold kdV; (repeat' split) <;> rfl
theorem kdV_one (p : Int) : ∀ v ∈ kdV p, v.oneCell' = true := by
  unfold kdV
  (repeat' split) <;> (intro v hv; simp only [kT, kU, kI, kJ, kZ, List.mem_cons, List.not_mem_nil, or_false] at hv; rcases hv with rfl | rfl | rfl | rfl | rfl | rfl | rfl | rfl <;> rfl)
theorem infK : (Try.prog.info? 63).map (·.size) = some 8 := by kernel_rfl
theorem builtKT : Try.prog.built 63 [(0, .int .i64 20), (1, .int .i64 16), (4, .func (.func 55) #[] #[]), (5, .func (.func 56) #[] #[]), (6, .func (.func 57) #[] #[]), (7, .func (.func 58) #[] #[])] = some kT.toArray := by kernel_rfl
theorem builtKU : Try.prog.built 63 [(0, .int .i64 8), (1, .int .i64 6), (3, .bool true), (4, .func (.func 59) #[] #[]), (5, .func (.func 60) #[] #[]), (6, .func (.func 61) #[] #[]), (7, .func (.func 62) #[] #[])] = some kU.toArray := by kernel_rfl
theorem builtKJ : Try.prog.built 63 [(0, .int .i64 4), (1, .int .i64 2), (4, .func (.func 51) #[] #[]), (5, .func (.func 52) #[] #[]), (6, .func (.func 53) #[] #[]), (7, .func (.func 54) #[] #[])] = some kJ.toArray := by kernel_rfl

/-- A key more in a map. -/
theorem put_map {w : World} {r : Nat} {es : Array MapEntry} {cl : Nat} (hb : w.heap[r]? = some (.map es cl)) (k : Int) (v : Value) (hk : Instr.findNow (.int .u8) (.int .u8 k) es.toList 0 = some none) :
    (Instr.mapUpdate 87 (.map (some r)) (.int .u8 k) v).run Try.prog w = .ok () { w with heap := w.heap.setIfInBounds r (.map (es.push ⟨.int .u8 k, v, cl⟩) (cl + 1)) } := by
  have hu := Try.underlying5
  have hck : ∀ em, (Instr.checkKey em 10000 5 (.int .u8 k)).run Try.prog w = .ok () w := fun em => Go.MapKept.run_checkKey hu (k := .int .u8 k) rfl em 9999
  simp [Instr.mapUpdate, run_underlying Try.underlying87, Go.MapKept.run_getObj_map hb, hck, run_underlying hu, Instr.findKey, hk, Go.MapKept.run_setObj_map _ hb, Result.andThen]
theorem zeroK (w : World) : (zeroValue 63).run Try.prog w = .ok (.agg kZ.toArray) w := by kernel_rfl
/-- What is found, or the zero kind. -/
def valK : Option (Nat × Value) → Value
  | some x => x.2
  | none => .agg kZ.toArray
/-- What a map has at a key. -/
theorem get_map {w : World} {r : Nat} {es : Array MapEntry} {cl : Nat} (hb : w.heap[r]? = some (.map es cl)) (k : Int) (res : Option (Nat × Value)) (hk : Instr.findNow (.int .u8) (.int .u8 k) es.toList 0 = some res) :
    (Instr.lookup 87 (.map (some r)) (.int .u8 k) true).run Try.prog w = .ok (.tuple #[valK res, .bool res.isSome]) w := by
  have hu := Try.underlying5
  have hck : ∀ em, (Instr.checkKey em 10000 5 (.int .u8 k)).run Try.prog w = .ok () w := fun em => Go.MapKept.run_checkKey hu (k := .int .u8 k) rfl em 9999
  cases res with
  | none => simp [Instr.lookup, run_underlying Try.underlying87, Go.MapKept.run_getObj_map hb, hck, run_underlying hu, Instr.findKey, hk, Result.andThen, valK]; rfl
  | some x => simp [Instr.lookup, run_underlying Try.underlying87, Go.MapKept.run_getObj_map hb, hck, run_underlying hu, Instr.findKey, hk, Result.andThen, valK]
/-- The map, as it is filled. -/
def es1 : Array MapEntry := #[⟨.int .u8 6, .agg kT.toArray, 0⟩]
def es2 : Array MapEntry := #[⟨.int .u8 6, .agg kT.toArray, 0⟩, ⟨.int .u8 17, .agg kU.toArray, 1⟩]
def es3 : Array MapEntry := #[⟨.int .u8 6, .agg kT.toArray, 0⟩, ⟨.int .u8 17, .agg kU.toArray, 1⟩, ⟨.int .u8 1, .agg kI.toArray, 2⟩]
def es4 : Array MapEntry := #[⟨.int .u8 6, .agg kT.toArray, 0⟩, ⟨.int .u8 17, .agg kU.toArray, 1⟩, ⟨.int .u8 1, .agg kI.toArray, 2⟩, ⟨.int .u8 58, .agg kJ.toArray, 3⟩]
theorem find_kind (p : Int) : ∃ res, Instr.findNow (.int .u8) (.int .u8 p) es4.toList 0 = some res ∧ valK res = .agg (kdV p).toArray ∧ res.isSome = decide (hdN p ≠ 0) := by
  by_cases h6 : p = 6
  · subst h6; exact ⟨some (0, .agg kT.toArray), rfl, rfl, rfl⟩
  by_cases h17 : p = 17
  · subst h17; exact ⟨some (1, .agg kU.toArray), rfl, rfl, rfl⟩
  by_cases h1 : p = 1
  · subst h1; exact ⟨some (2, .agg kI.toArray), rfl, rfl, rfl⟩
  by_cases h58 : p = 58
  · subst h58; exact ⟨some (3, .agg kJ.toArray), rfl, rfl, rfl⟩
  · refine ⟨none, ?_, ?_, ?_⟩
    · have b6 : (p == 6) = false := by simpa using h6
      have b17 : (p == 17) = false := by simpa using h17
      have b1 : (p == 1) = false := by simpa using h1
      have b58 : (p == 58) = false := by simpa using h58
      simp [es4, Instr.findNow, Instr.sameNow, b6, b17, b1, b58]
    · simp [kdV, valK, h6, h17, h1, h58]
    · simp [hdN, h6, h17, h1, h58]
section
variable {ops : Array Oper} {rest : List Oper} {o : Oper} {a : Act} {w : World} {Q : Exit → Act → World → Prop}
theorem bldT (hg : o.guard = none) (ho : o.op = .build 63 #[(0, .const (.int .i64 20)), (1, .const (.int .i64 16)), (4, .func 55), (5, .func 56), (6, .func 57), (7, .func 58)]) (h : wpList Try.prog ops Q rest (a.put o.dst (.agg kT.toArray)) w) : wpList Try.prog ops Q (o :: rest) a w :=
  wpList_build_run hg 63 _ ho (cells := kT.toArray) builtKT h
theorem bldU (hg : o.guard = none) (ho : o.op = .build 63 #[(0, .const (.int .i64 8)), (1, .const (.int .i64 6)), (3, .const (.bool true)), (4, .func 59), (5, .func 60), (6, .func 61), (7, .func 62)]) (h : wpList Try.prog ops Q rest (a.put o.dst (.agg kU.toArray)) w) : wpList Try.prog ops Q (o :: rest) a w :=
  wpList_build_run hg 63 _ ho (cells := kU.toArray) builtKU h
theorem bldJ (hg : o.guard = none) (ho : o.op = .build 63 #[(0, .const (.int .i64 4)), (1, .const (.int .i64 2)), (4, .func 51), (5, .func 52), (6, .func 53), (7, .func 54)]) (h : wpList Try.prog ops Q rest (a.put o.dst (.agg kJ.toArray)) w) : wpList Try.prog ops Q (o :: rest) a w :=
  wpList_build_run hg 63 _ ho (cells := kJ.toArray) builtKJ h
theorem insK (hg : o.guard = none) (m x v : Operand) (ho : o.op = .insert 87 m x v) (r : Nat) (es es' : Array MapEntry) (cl : Nat) (hb : w.heap[r]? = some (.map es cl)) (hm : a.eval m = .map (some r)) (k : Int) (hx : a.eval x = .int .u8 k) (val : Value) (hv : a.eval v = val)
    (hk : Instr.findNow (.int .u8) (.int .u8 k) es.toList 0 = some none) (he : es.push ⟨.int .u8 k, val, cl⟩ = es') (h : ∀ w', w'.heap[r]? = some (.map es' (cl + 1)) → Kept (fun k => k = r) w w' → wpList Try.prog ops Q rest (a.put o.dst undef) w') : wpList Try.prog ops Q (o :: rest) a w := by
  refine wpList_plain hg fun K' hK' => ?_
  have hrun := put_map hb k val hk
  unfold Oper.wp
  simp [execOp, ho, hm, hx, hv, hrun, Result.andThen]
  subst he
  have hlt := (Array.getElem?_eq_some_iff.1 hb).1
  refine hK' _ _ (h _ ?_ ?_)
  · simp [hlt]
  · refine ⟨rfl, rfl, rfl, by simp, fun i _ hi => ?_⟩
    have hi' : ¬ r = i := fun e => hi e.symm
    simp [hi']
end
theorem range_heap {w wr : World} {b : Nat} {cs : List Value} (h : w.rangeAt b 0 cs) (hb : wr.heap[b]? = w.heap[b]?) : wr.rangeAt b 0 cs := fun j v hv => (World.cell?_of_block hb).trans (h j v hv)
theorem range_by {S : Nat → Prop} {w wr : World} {b : Nat} {cs : List Value} (h : w.rangeAt b 0 cs) (k : Kept S w wr) (hb : b < w.heap.size) (hn : ¬ S b) : wr.rangeAt b 0 cs := range_heap h (k.block b hb hn)

theorem there_heap {w wr : World} {b n : Nat} (h : w.there b 0 n) (hb : wr.heap[b]? = w.heap[b]?) : wr.there b 0 n := fun j hj => by
  rw [World.cell?_of_block (w := w) (a := ⟨b, 0 + j, none⟩) hb, World.frozen?_of_block (w := w) (a := ⟨b, 0 + j, none⟩) hb]; exact h j hj
theorem size_setCells (b : Nat) : ∀ (vs : List Value) (o : Nat) (w : World), (w.setCells b o vs).heap.size = w.heap.size
  | [], _, _ => rfl
  | v :: r, o, w => by rw [World.setCells, size_setCells b r (o + 1)]; simp
/-- What stands behind the first literal. -/
structure KP (w w' : World) : Prop where
  below : Below w.heap.size w w'
  size : w.heap.size + 2 ≤ w'.heap.size
  there0 : w'.there w.heap.size 0 8
  range4 : w'.rangeAt (w.heap.size + 1) 0 kJ
theorem KP.kept {S : Nat → Prop} {w w1 w2 : World} (h : KP w w1) (k : Kept S w1 w2) (hS : ∀ i, S i → w.heap.size + 2 ≤ i) : KP w w2 :=
  ⟨h.below.trans (k.below (by have := h.size; omega) (fun i hi => by have := hS i hi; omega)), by have := h.size; have := k.size; omega,
    there_heap h.there0 (k.block _ (by have := h.size; omega) (fun e => by have := hS _ e; omega)), range_by h.range4 k (by have := h.size; omega) (fun e => by have := hS _ e; omega)⟩
theorem kind_first (w : World) : KP w (((w.alloc (.cells kZ.toArray 63)).alloc (.cells kZ.toArray 63)).setCells (w.heap.size + 1) 0 kJ) := by
  have t1 : ((w.alloc (.cells kZ.toArray 63)).alloc (.cells kZ.toArray 63)).there (w.heap.size + 1) 0 8 := there_new _ _ _ _ rfl _ (by simp)
  refine ⟨Below.setCells (((Below.refl _ _).alloc (Nat.le_refl _) _).alloc (by simp) _) _ (by omega) _ _, by rw [size_setCells]; simp, ?_, World.rangeAt_setCells_same _ _ _ _ t1⟩
  exact World.there_setCells (World.there_alloc (there_new _ _ _ _ rfl _ rfl) _) _ _ _
/-- What stands behind the second one. -/
structure KQ (w : World) (b5 : Nat) (w' : World) : Prop where
  kp : KP w w'
  b : w.heap.size + 2 ≤ b5 ∧ b5 < w'.heap.size
  range5 : w'.rangeAt b5 0 kJ
  there5 : w'.there b5 0 8
theorem kind_second {w w1 : World} (h : KP w w1) : KQ w w1.heap.size ((w1.alloc (.cells kZ.toArray 63)).setCells w1.heap.size 0 kJ) := by
  have t1 : (w1.alloc (.cells kZ.toArray 63)).there w1.heap.size 0 8 := there_new _ _ _ _ rfl _ rfl
  have hk : Kept (fun k => k = w1.heap.size) w1 ((w1.alloc (.cells kZ.toArray 63)).setCells w1.heap.size 0 kJ) := Kept.setCells _ _ _ _ (Kept.alloc _ _ _)
  exact ⟨h.kept hk (fun i e => by rw [e]; exact h.size), ⟨h.size, by rw [size_setCells]; simp⟩, World.rangeAt_setCells_same _ _ _ _ t1, World.there_setCells t1 _ _ _⟩
/-- What stands while the map is filled. -/
structure KM (w : World) (b5 r : Nat) (es : Array MapEntry) (cl : Nat) (w' : World) : Prop where
  kp : KP w w'
  b : w.heap.size + 2 ≤ b5 ∧ b5 < r
  range5 : w'.rangeAt b5 0 kI
  map : w'.heap[r]? = some (.map es cl)
theorem kind_map {w w2 : World} {b5 : Nat} (h : KQ w b5 w2) : KM w b5 w2.heap.size #[] 0 ((w2.setCell ⟨b5, 2, none⟩ (.bool true)).alloc (.map #[] 0)) := by
  have k1 : Kept (fun k => k = b5) w2 (w2.setCell ⟨b5, 2, none⟩ (.bool true)) := Kept.setCell (S := fun k => k = b5) _ _ _ rfl
  have k2 : Kept (fun k => k = b5) w2 ((w2.setCell ⟨b5, 2, none⟩ (.bool true)).alloc (.map #[] 0)) := k1.trans (Kept.alloc (fun k => k = b5) _ _) (fun _ _ e => e)
  refine ⟨h.kp.kept k2 (fun i e => by rw [e]; exact h.b.1), h.b, ?_, ?_⟩
  · exact World.rangeAt_alloc (range_one h.range5 h.there5 (j := 2) (by decide) (.bool true)) _
  · have := heap_alloc_new (w2.setCell ⟨b5, 2, none⟩ (.bool true)) (.map #[] 0)
    simpa using this
theorem KM.next {w w1 w2 : World} {b5 r : Nat} {es es' : Array MapEntry} {cl cl' : Nat} (h : KM w b5 r es cl w1) (hm : w2.heap[r]? = some (.map es' cl')) (k : Kept (fun k => k = r) w1 w2) : KM w b5 r es' cl' w2 :=
  ⟨h.kp.kept k (fun i e => by have := h.b; omega), h.b, range_by h.range5 k (by have := (Array.getElem?_eq_some_iff.1 h.map).1; have := h.b.2; omega) (fun e => by have := h.b.2; omega), hm⟩

theorem kind_last {w w1 : World} (h : KP w w1) (p : Int) : Hid (KP w ((w1.alloc (.cells kZ.toArray 63)).setCells w1.heap.size 0 (kdV p)) ∧ ((w1.alloc (.cells kZ.toArray 63)).setCells w1.heap.size 0 (kdV p)).rangeAt w1.heap.size 0 (kdV p)) := by
  have t1 : (w1.alloc (.cells kZ.toArray 63)).there w1.heap.size 0 8 := there_new _ _ _ _ rfl _ rfl
  have hk : Kept (fun k => k = w1.heap.size) w1 ((w1.alloc (.cells kZ.toArray 63)).setCells w1.heap.size 0 (kdV p)) := Kept.setCells _ _ _ _ (Kept.alloc _ _ _)
  exact ⟨h.kept hk (fun i e => by rw [e]; exact h.size), World.rangeAt_setCells_same _ _ _ _ (by rw [kdV_len]; exact t1)⟩

set_option maxRecDepth 100000 in
set_option maxHeartbeats 4000000 in
theorem tKindOf_any (p : Int) (w : World) : Calls Try.prog 30 #[.int .u8 p] w (Gives w (.tuple #[.agg (kdV p).toArray, .bool (decide (hdN p ≠ 0))])) := by
  obtain ⟨res, hf, hv, hs⟩ := find_kind p
  have HF := Lib.hid hf
  have HV := Lib.hid hv
  have HS := Lib.hid hs
  obtain ⟨q, hq⟩ : ∃ q, decide (hdN p ≠ 0) = q := ⟨_, rfl⟩
  rw [hq] at HS ⊢
  clear hf hv hs hq
  have HK1 := Lib.hid (kind_first w)
  have HT1 : Hid (((w.alloc (.cells kZ.toArray 63)).alloc (.cells kZ.toArray 63)).there (w.heap.size + 1) 0 8) := there_new _ _ _ _ rfl _ (by simp)
  have HJ1 : Hid (∀ v ∈ kJ, v.oneCell' = true) := kdV_one 58
  have HT2 : Hid (∀ w1 : World, (w1.alloc (.cells kZ.toArray 63)).there w1.heap.size 0 8) := fun w1 => there_new _ _ _ _ rfl _ rfl
  have hmkm : ∀ w : World, (Instr.makeMap 87 none).run Try.prog w = .ok (.map (some w.heap.size)) (w.alloc (.map #[] 0)) := fun w => run_makeMap 87 w
  go_enter Try.func30, Try.ntmps30
  go_wp2_with (first
    | (refine stC 63 (.tmp 2) (.tmp 24) rfl rfl w.heap.size 0 (kdV p) rfl rfl (by rw [kdV_len]; exact H8.out.1.there0) (by rw [kdV_len]; exact infK) (kdV_one p) ?_)
    | (refine ldC 63 (.tmp 7) rfl rfl w7.heap.size rfl (kdV p) H8.out.2 _ Try.underlying63 rfl (by rw [kdV_len]; exact infK) ?_)
    | (refine stN (fun w' => Hid (KP w w' ∧ w'.rangeAt w7.heap.size 0 (kdV p))) 63 (.tmp 7) (.tmp 22) rfl rfl w7.heap.size 0 (kdV p) rfl rfl (by rw [kdV_len]; exact HT2.out w7) (by rw [kdV_len]; exact infK) (kdV_one p) (kind_last HQ.out p) ?_; intro w8 H8)
    | (refine insK rfl (.tmp 12) _ (.tmp 16) rfl w2.heap.size es3 es4 3 H6.out.map rfl 58 rfl (.agg kJ.toArray) rfl rfl rfl ?_; intro w7 hm hk; have H7 := Lib.hid (H6.out.next hm hk); clear hm hk; have hlk := get_map H7.out.map p res HF.out; rw [HV.out, HS.out] at hlk; have HQ := Lib.hid H7.out.kp)
    | (refine ldC 63 (.tmp 4) rfl rfl (w.heap.size + 1) rfl kJ H6.out.kp.range4 _ Try.underlying63 rfl infK ?_)
    | (refine insK rfl (.tmp 12) _ (.tmp 15) rfl w2.heap.size es2 es3 2 H5.out.map rfl 1 rfl (.agg kI.toArray) rfl rfl rfl ?_; intro w6 hm hk; have H6 := Lib.hid (H5.out.next hm hk); clear hm hk)
    | (refine ldC 63 (.tmp 5) rfl rfl w1.heap.size rfl kI H5.out.range5 _ Try.underlying63 rfl infK ?_)
    | (refine insK rfl (.tmp 12) _ (.tmp 14) rfl w2.heap.size es1 es2 1 H4.out.map rfl 17 rfl (.agg kU.toArray) rfl rfl rfl ?_; intro w5 hm hk; have H5 := Lib.hid (H4.out.next hm hk); clear hm hk)
    | (refine insK rfl (.tmp 12) _ (.tmp 13) rfl w2.heap.size #[] es1 0 H3.out.map rfl 6 rfl (.agg kT.toArray) rfl rfl rfl ?_; intro w4 hm hk; have H4 := Lib.hid (H3.out.next hm hk); clear hm hk)
    | (refine bldU rfl rfl ?_)
    | (refine bldT rfl rfl ?_)
    | (refine stN (fun w' => Hid (KQ w w1.heap.size w')) 63 (.tmp 5) (.tmp 10) rfl rfl w1.heap.size 0 kJ rfl rfl (HT2.out w1) infK HJ1.out HK2 ?_; intro w2 H2; have c2 := range_cell H2.out.range5 (j := 2) (v := .bool false) rfl; have f2 := (H2.out.there5 2 (by omega)).2; rw [Nat.zero_add] at f2; have H3 := Lib.hid (kind_map H2.out))
    | (refine ldC 63 (.tmp 4) rfl rfl (w.heap.size + 1) rfl kJ H1.out.range4 _ Try.underlying63 rfl infK ?_; have HK2 := Lib.hid (kind_second H1.out))
    | (refine stN (fun w' => Hid (KP w w')) 63 (.tmp 4) (.tmp 9) rfl rfl (w.heap.size + 1) 0 kJ rfl rfl HT1.out infK HJ1.out HK1 ?_; intro w1 H1)
    | (refine bldJ rfl rfl ?_)
    | fail)
  refine bodyPost_ret (v := .tuple #[.agg (kdV p).toArray, .bool q]) (ret_mid2 Try.results30 _ _ _ _ (kdV p) _ rfl (World.rangeAt_setCells_same _ _ _ _ (by rw [kdV_len]; exact H8.out.1.there0)) Try.underlying63 rfl (by rw [kdV_len]; exact infK) (.bool q) rfl) rfl ⟨rfl, Below.setCells H8.out.1.below _ (Nat.le_refl _) _ _⟩
end Go.Proofs.Ytabdejoakecioaa

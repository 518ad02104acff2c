/-
  Items and queues of the document's in memory; the contracts of the statements' item and Pick, and of the document's New and Size. Conditions: numbers that fit their Go types.
-/
import Derived.Test.YtpigpeehhadkjaaFiClear
namespace Go.Proofs.Ytpigpeehhadkjaa
open Go.RowKit

theorem tmod_pos (d n : Int) (hn : 0 < n) : -n < d.tmod n ∧ d.tmod n < n ∧ (d.tmod n + n) % n = d % n := by
  rcases Int.lt_or_le d 0 with h | h
  · obtain ⟨e, rfl⟩ : ∃ e, d = -e := ⟨-d, by omega⟩
    rw [Int.neg_tmod, Int.tmod_eq_emod_of_nonneg (by omega)]
    have h1 := Int.emod_nonneg e (show n ≠ 0 by omega)
    have h2 := Int.emod_lt_of_pos e hn
    refine ⟨by omega, by omega, ?_⟩
    rw [Int.add_emod_right]
    have h3 : -e = -(e % n) + n * (-(e / n)) := by
      have h4 := Int.emod_add_mul_ediv e n
      rw [Int.mul_neg]
      omega
    conv => rhs; rw [h3]
    rw [Int.add_mul_emod_self_left]
  · rw [Int.tmod_eq_emod_of_nonneg h]
    have h1 := Int.emod_nonneg d (show n ≠ 0 by omega)
    have h2 := Int.emod_lt_of_pos d hn
    refine ⟨by omega, by omega, ?_⟩
    rw [Int.add_emod_right, Int.emod_emod]
theorem kPick_any (d n : Int) (w : World) (hn : 0 < n) (hn2 : n ≤ 4611686018427387903) : Calls Try.prog 15 #[.int .i64 d, .int .i64 n] w fun e w' => e = .returned (.int .i64 (d % n)) ∧ w = w' := by
  obtain ⟨h1, h2, h3⟩ := tmod_pos d n hn
  have HT := Lib.hid h3
  clear h3
  go_enter Try.func15, Try.ntmps15
  go_wp2_with fail
  go_ret
  exact ⟨by rw [← HT.out]; rfl, rfl⟩

/-- Bytes as a text. -/
def str (xs : List Int) : ByteArray := ⟨(ub xs).toArray⟩
def It.cs (x : It) : List Value := [.int .u64 x.no, .int .i64 x.sz, .string (str x.d)]
def It.v (x : It) : Value := .agg x.cs.toArray
/-- No item. -/
def iz : It := ⟨0, 0, []⟩
theorem It.one (x : It) : ∀ v ∈ x.cs, v.oneCell' = true := by
  intro v hv
  simp [It.cs] at hv
  rcases hv with rfl | rfl | rfl <;> rfl
theorem iz_v : iz.v = .agg #[.int .u64 0, .int .i64 0, .string ⟨#[]⟩] := rfl
theorem pz_it : pz.it = iz := rfl
section
variable {x : It} {w : World} {b : Nat} {t : TypeId}
theorem It.k0 (h : w.heap[b]? = some (.cells x.cs.toArray t (0, 0))) : w.cell? ⟨b, 0, none⟩ = some (.int .u64 x.no) := by rw [cell_of_row w b 0 _ _ (0, 0) h]; rfl
theorem It.k1 (h : w.heap[b]? = some (.cells x.cs.toArray t (0, 0))) : w.cell? ⟨b, 1, none⟩ = some (.int .i64 x.sz) := by rw [cell_of_row w b 1 _ _ (0, 0) h]; rfl
theorem It.k2 (h : w.heap[b]? = some (.cells x.cs.toArray t (0, 0))) : w.cell? ⟨b, 2, none⟩ = some (.string (str x.d)) := by rw [cell_of_row w b 2 _ _ (0, 0) h]; rfl
end
theorem infR : (Try.prog.info? 63).map (fun i => (i.zero, i.size, i.bytes)) = some (some iz.v, 3, 32) := by kernel_rfl
theorem infR3 : (Try.prog.info? 63).map (·.size) = some 3 := by kernel_rfl

set_option maxRecDepth 100000 in
set_option maxHeartbeats 2000000 in
theorem item_any (x : Pi) (w : World) (hx : x.at_ w) : Calls Try.prog 23 #[x.v] w (Gives w x.it.v) := by
  obtain ⟨no, sz, a, n, c, d⟩ := x
  have hb2 : Below w.heap.size w ((w.alloc (.cells #[.int .u64 no, .int .i64 sz, .slice a n c] 40)).alloc (.cells #[.int .u64 0, .int .i64 0, .string ⟨#[]⟩] 63)) := ((Below.refl _ _).alloc (Nat.le_refl _) _).alloc (by simp) _
  have hs := run_string_rd ((w.alloc (.cells #[.int .u64 no, .int .i64 sz, .slice a n c] 40)).alloc (.cells #[.int .u64 0, .int .i64 0, .string ⟨#[]⟩] 63)) c hx.len (hx.rd.below hb2) hx.byt
  have hs' : (convert 38 9 (.slice a n c)).run Try.prog ((w.alloc (.cells #[.int .u64 no, .int .i64 sz, .slice a n c] 40)).alloc (.cells #[.int .u64 0, .int .i64 0, .string ⟨#[]⟩] 63)) = .ok (.string (str d)) ((w.alloc (.cells #[.int .u64 no, .int .i64 sz, .slice a n c] 40)).alloc (.cells #[.int .u64 0, .int .i64 0, .string ⟨#[]⟩] 63)) := hs
  clear hs
  show Calls Try.prog 23 #[.agg #[.int .u64 no, .int .i64 sz, .slice a n c]] w _
  have HB := Lib.hid hb2
  clear hx hb2
  obtain ⟨S, hS⟩ : ∃ z, str d = z := ⟨_, rfl⟩
  have HS := Lib.hid hS
  rw [hS] at hs'
  clear hS
  go_enter Try.func23, Try.ntmps23
  go_wp2_with fail
  refine bodyPost_ret (v := .agg #[.int .u64 no, .int .i64 sz, .string S]) (by simp [results, Try.results23, go_sem, *]) rfl ?_
  refine ⟨by rw [← HS.out]; rfl, ?_⟩
  exact ((Below.refl _ _).alloc (Nat.le_refl _) _).alloc (by simp) _

/-- A row of items of the document's. -/
structure Rt (w : World) (a : Option Addr) (n : Nat) (l : List It) : Prop where
  len : l.length = n
  cells : l ≠ [] → ∃ b o, a = some ⟨b, o, none⟩ ∧ (∃ cur, w.heap[b]? = some (.cells cur 63 (0, 0))) ∧ ∀ i x, l[i]? = some x → w.rangeAt b (o + i * 3) x.cs
theorem range_keep {S : Nat → Prop} {w w' : World} {g o : Nat} {cs : List Value} (k : Kept S w w') (hg : ¬ S g) (h : w.rangeAt g o cs) : w'.rangeAt g o cs := fun j v hv => by
  have h1 := h j v hv
  rw [← h1]
  exact World.cell?_of_block (k.block g (World.block_lt_of_cell? w _ h1) hg)
theorem Rt.keep {S : Nat → Prop} {w w' : World} {a : Option Addr} {n : Nat} {l : List It} (h : Rt w a n l) (k : Kept S w w') (hS : ∀ b cur, w.heap[b]? = some (.cells cur 63 (0, 0)) → ¬ S b) : Rt w' a n l :=
  ⟨h.len, fun hne => by
    obtain ⟨b, o, e, ⟨cur, hc⟩, hr⟩ := h.cells hne
    exact ⟨b, o, e, ⟨cur, k.heap hc (hS b cur hc)⟩, fun i x hx => range_keep k (hS b cur hc) (hr i x hx)⟩⟩
theorem Rt.below {w w' : World} {a : Option Addr} {n : Nat} {l : List It} (h : Rt w a n l) (k : Below w.heap.size w w') : Rt w' a n l := h.keep (S := fun _ => False) (Kept.of_below k (fun i hi hi' => by omega)) (fun _ _ _ => id)
theorem Rt.nil (w : World) : Rt w none 0 [] := ⟨rfl, fun h => absurd rfl h⟩
theorem Rt.nth {w : World} {a : Option Addr} {n : Nat} {l : List It} (h : Rt w a n l) {k : Nat} (hk : k < n) : ∃ x b o, l[k]? = some x ∧ a = some ⟨b, o, none⟩ ∧ w.rangeAt b (o + k * 3) x.cs := by
  have hk' : k < l.length := by rw [h.len]; exact hk
  obtain ⟨b, o, e, _, hc⟩ := h.cells (by intro e; rw [e] at hk'; simp at hk')
  exact ⟨l[k], b, o, List.getElem?_eq_getElem hk', e, hc k _ (List.getElem?_eq_getElem hk')⟩
/-- A queue of the document's, as a value. -/
def rqv (a : Option Addr) (n c : Nat) (A : Aq) : Value := .agg #[.slice a n c, .int .i64 A.I, .int .i64 A.S, .int .u64 A.D]
/-- Its numbers are in their bounds. -/
structure Aq.ok (A : Aq) : Prop where
  sz : ∀ x ∈ A.l, 0 ≤ x.sz
  sum : A.size ≤ A.S
  S1 : A.S ≤ 9223372036854775807
  D0 : 0 ≤ A.D
  D1 : A.D < 18446744073709551615
  len : A.l.length ≤ 65536
  byt : ∀ x ∈ A.l, Byt x.d
def szs (l : List It) : Int := (l.map It.sz).sum
theorem szs_take (l : List It) (k : Nat) (x : It) (h : l[k]? = some x) : szs (l.take (k + 1)) = szs (l.take k) + x.sz := by
  unfold szs
  rw [List.take_add_one, h]
  simp
theorem szs_pos : ∀ {l : List It}, (∀ x ∈ l, 0 ≤ x.sz) → 0 ≤ szs l
  | [], _ => by simp [szs]
  | x :: l, h => by
    have h1 := szs_pos (l := l) (fun y hy => h y (List.mem_cons_of_mem _ hy))
    have h2 := h x List.mem_cons_self
    unfold szs at *
    simp
    omega
theorem szs_le {l : List It} (h : ∀ x ∈ l, 0 ≤ x.sz) (k : Nat) : szs (l.take k) ≤ szs l := by
  have e : szs l = szs (l.take k) + szs (l.drop k) := by
    have e0 : szs (l.take k ++ l.drop k) = szs (l.take k) + szs (l.drop k) := by unfold szs; rw [List.map_append, List.sum_append]
    rw [List.take_append_drop] at e0
    exact e0
  have := szs_pos (l := l.drop k) (fun x hx => h x (List.mem_of_mem_drop hx))
  omega

set_option maxRecDepth 100000 in
set_option maxHeartbeats 2000000 in
theorem rSize_any (a : Option Addr) (n c : Nat) (A : Aq) (w : World) (hr : Rt w a n A.l) (ok : A.ok) : Calls Try.prog 73 #[rqv a n c A] w (Gives w (.int .i64 A.size)) := by
  have hn := ok.len
  have hS := ok.S1
  have hsum := ok.sum
  have hsz := ok.sz
  have hlen := hr.len
  obtain ⟨I, S, l, D⟩ := A
  show Calls Try.prog 73 #[.agg #[.slice a n c, .int .i64 I, .int .i64 S, .int .u64 D]] w _
  simp only at hn hS hsum hsz hr hlen
  have HE : Hid (Aq.size ⟨I, S, l, D⟩ = szs l) := rfl
  rw [HE.out] at hsum ⊢
  have HSZ := Lib.hid hsz
  have HSUM := Lib.hid hsum
  have HLEN := Lib.hid hlen
  have hb : Below w.heap.size w (w.alloc (.cells #[.slice a n c, .int .i64 I, .int .i64 S, .int .u64 D] 96)) := (Below.refl _ _).alloc (Nat.le_refl _) _
  have HB := Lib.hid hb
  have HR := Lib.hid (hr.below hb)
  have hnn : n ≤ 65536 := by omega
  clear hr ok hsz hsum hlen hb
  go_enter Try.func73, Try.ntmps73
  go_wp2_with fail
  have c0 : (w.alloc (.cells #[.slice a n c, .int .i64 I, .int .i64 S, .int .u64 D] 96)).cell? ⟨w.heap.size, 0, none⟩ = some (.slice a n c) := by rw [cell_of_row _ _ 0 _ _ (0, 0) (Blk_new w _ _)]; rfl
  obtain ⟨w1, hw1⟩ : ∃ z, w.alloc (.cells #[.slice a n c, .int .i64 I, .int .i64 S, .int .u64 D] 96) = z := ⟨_, rfl⟩
  rw [hw1] at HB HR c0 ⊢
  clear hw1
  go_loopw [3, 4] (fun s i wr => wr = w1 ∧ ∃ k : Nat, k ≤ n ∧ i = .int .i64 k ∧ ∃ z : Int, s = .int .i64 z ∧ Hid (z = szs (l.take k))) (fun _ i _ => n - (intOf i).toNat)
  case atStart => exact ⟨rfl, 0, Nat.zero_le _, rfl, 0, rfl, rfl⟩
  case round =>
    obtain ⟨rfl, k, hk, rfl, z, rfl, hz⟩ := hrel
    by_cases hlt : k < n
    · obtain ⟨x, b, o, hx, rfl, hrg⟩ := HR.out.nth hlt
      have d1 : wr.cell? ⟨b, o + k * 3 + 1, none⟩ = some (.int .i64 x.sz) := hrg 1 _ rfl
      have hz2 := szs_take l k x hx
      have hp1 := szs_pos (l := l.take k) (fun y hy => HSZ.out y (List.mem_of_mem_take hy))
      have hp2 := szs_le HSZ.out (k + 1)
      have hp3 := HSUM.out
      have hp4 := HSZ.out x (List.mem_of_getElem? hx)
      have hz1 := hz.out
      obtain ⟨z2, hz3⟩ : ∃ y : Int, y = z + x.sz := ⟨_, rfl⟩
      have e1 : IntKind.i64.wrap (z + x.sz) = z2 := by rw [IntKind.wrap_i64]; omega
      have HZ2 : Hid (z2 = szs (l.take (k + 1))) := by show _ = _; omega
      have hlt2 : (k : Int) < (n : Int) := by omega
      clear hx hrg hz hz1 hz2 hp1 hp2 hp3 hp4 hz3
      go_wp2_with fail
      go_roundw
      case rel => exact ⟨trivial, k + 1, by omega, by go_num, z2, rfl, HZ2.out⟩
      case measure => simp [intOf]; omega
    · have hkn : k = n := by omega
      have HZ : Hid (z = szs l) := by
        show _ = _
        rw [hz.out, List.take_of_length_le (by rw [HLEN.out]; omega)]
      have hlt2 : ¬ (k : Int) < (n : Int) := by omega
      clear hz hkn
      go_wp2_with fail
      go_ret
      exact ⟨by rw [← HZ.out]; rfl, HB.out⟩

set_option maxRecDepth 100000 in
set_option maxHeartbeats 2000000 in
theorem rNew_any (I S : Int) (w : World) (h0 : 0 ≤ I) (h1 : I ≤ 65536) (h2 : 0 ≤ S) :
    Calls Try.prog 28 #[.int .i64 I, .int .i64 S] w (Gives w (.tuple #[rqv none 0 0 ⟨I, S, [], 0⟩, .int .i64 0])) := by
  have n1 : ¬ I < 0 := by omega
  have n2 : ¬ S < 0 := by omega
  have n3 : ¬ 65536 < I := by omega
  go_enter Try.func28, Try.ntmps28
  go_wp2_with fail
  refine bodyPost_ret (v := .tuple #[.agg #[.slice none 0 0, .int .i64 I, .int .i64 S, .int .u64 0], .int .i64 0]) (by simp [results, Try.results28, go_sem, *]) rfl ?_
  exact ⟨rfl, (Below.refl _ _).alloc (Nat.le_refl _) _⟩
theorem rNew_no (I S : Int) (w : World) (h : I < 0 ∨ S < 0 ∨ 65536 < I) :
    Calls Try.prog 28 #[.int .i64 I, .int .i64 S] w (Gives w (.tuple #[rqv none 0 0 ⟨0, 0, [], 0⟩, .int .i64 2])) := by
  by_cases h1 : I < 0
  · go_enter Try.func28, Try.ntmps28
    go_wp2_with fail
    refine bodyPost_ret (v := .tuple #[.agg #[.slice none 0 0, .int .i64 0, .int .i64 0, .int .u64 0], .int .i64 2]) (by simp [results, Try.results28, go_sem, *]) rfl ?_
    exact ⟨rfl, (Below.refl _ _).alloc (Nat.le_refl _) _⟩
  by_cases h2 : S < 0
  · go_enter Try.func28, Try.ntmps28
    go_wp2_with fail
    refine bodyPost_ret (v := .tuple #[.agg #[.slice none 0 0, .int .i64 0, .int .i64 0, .int .u64 0], .int .i64 2]) (by simp [results, Try.results28, go_sem, *]) rfl ?_
    exact ⟨rfl, (Below.refl _ _).alloc (Nat.le_refl _) _⟩
  have h3 : 65536 < I := by omega
  clear h
  go_enter Try.func28, Try.ntmps28
  go_wp2_with fail
  refine bodyPost_ret (v := .tuple #[.agg #[.slice none 0 0, .int .i64 0, .int .i64 0, .int .u64 0], .int .i64 2]) (by simp [results, Try.results28, go_sem, *]) rfl ?_
  exact ⟨rfl, (Below.refl _ _).alloc (Nat.le_refl _) _⟩
end Go.Proofs.Ytpigpeehhadkjaa

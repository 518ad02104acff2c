/-
  The document's disk in memory; the contracts of its New, lies, laid, Now, Part and Sync. Conditions: disks of at most 65536 bytes, at most a thousand unsynced writes that lie on them. (Made by gen_dkref.py.)
-/
import Derived.Test.YtbghdlgfpfeaeaaDkKeepM
import Derived.Test.YtbghdlgfpfeaeaaStr
namespace Go.Proofs.Ytbghdlgfpfeaeaa
open Go.RowKit

theorem run_str_to {xs : List Int} (j : Nat) (hj : j ≤ xs.length) (k : IntKind) (w : World) : (Instr.sliceAt 9 (.string (str xs)) none (some (.int k (j : Int))) none).run Try.prog w = .ok (.string (str (xs.take j))) w := by
  have ht := Try.underlying9
  have hs : (str xs).size = xs.length := str_size xs
  have hj' : (j : Int) ≤ ((str xs).size : Int) := by rw [hs]; omega
  have he : (str xs).extract 0 j = str (xs.take j) := by
    show (ByteArray.mk (ub xs).toArray).extract 0 j = _
    rw [ByteArray.extract_mk]
    simp [str, ub, List.map_take]
  go_simp
abbrev Pw := Int × List Int
def rcs (L : List Pw) : List Value := L.flatMap fun x => [.int .i64 x.1, .string (str x.2)]
theorem rcs_len (L : List Pw) : (rcs L).length = L.length * 2 := by
  induction L with
  | nil => rfl
  | cons x l ih => simp only [rcs, List.flatMap_cons, List.length_append, List.length_cons] at ih ⊢; rw [ih]; simp; omega
theorem rcs_at : ∀ {L : List Pw} {i : Nat} {x : Pw}, L[i]? = some x → (rcs L)[i * 2]? = some (.int .i64 x.1) ∧ (rcs L)[i * 2 + 1]? = some (.string (str x.2))
  | y :: l, 0, x, h => by
    simp at h
    subst h
    exact ⟨rfl, rfl⟩
  | y :: l, i + 1, x, h => by
    have := rcs_at (L := l) (i := i) (x := x) (by simpa using h)
    have e : rcs (y :: l) = [Value.int .i64 y.1, Value.string (str y.2)] ++ rcs l := rfl
    rw [e, List.getElem?_append_right (by simp; omega), List.getElem?_append_right (by simp; omega)]
    refine ⟨?_, ?_⟩
    · rw [← this.1]; congr 1; simp; omega
    · rw [← this.2]; congr 1; simp; omega
theorem rcs_snoc (l : List Pw) (x : Pw) : rcs (l ++ [x]) = rcs l ++ [.int .i64 x.1, .string (str x.2)] := by simp [rcs]
/-- A disk as the document has it: what it is. -/
structure PlOk (d : List Int) (L : List Pw) : Prop where
  few : d.length ≤ 65536
  byt : Byt d
  wb : ∀ x ∈ L, Byt x.2
  w0 : ∀ x ∈ L, 0 ≤ x.1
  w1 : ∀ x ∈ L, x.1 + x.2.length ≤ d.length
  num : L.length ≤ 1000
/-- The document's disk: its bytes, its unsynced writes and where they lie. -/
structure Rk where
  d : List Int
  u : Option Addr
  c : Nat
  L : List Pw
def Rk.cs (r : Rk) : List Value := [.string (str r.d), .slice r.u r.L.length r.c]
def Rk.v (r : Rk) : Value := .agg r.cs.toArray
/-- Its writes lie there. -/
def Rk.lies (w : World) (r : Rk) : Prop := r.L ≠ [] → ∃ g o, r.u = some ⟨g, o, none⟩ ∧ ∀ i x, r.L[i]? = some x → w.cell? ⟨g, o + i * 2, none⟩ = some (.int .i64 x.1) ∧ w.cell? ⟨g, o + i * 2 + 1, none⟩ = some (.string (str x.2))
theorem Rk.lies.below {w w' : World} {r : Rk} (h : r.lies w) (hb : Below w.heap.size w w') : r.lies w' := fun hne => by
  obtain ⟨g, o, e, hc⟩ := h hne
  exact ⟨g, o, e, fun i x hx => ⟨cell_kept hb (hc i x hx).1, cell_kept hb (hc i x hx).2⟩⟩
/-- Its writes lie in a row of the call's own. -/
def Rk.own (w : World) (B : Nat) (r : Rk) : Prop := OwnG w B 80 2 r.u r.L.length r.c (rcs r.L)
theorem Rk.own.lies {w : World} {B : Nat} {r : Rk} (h : r.own w B) : r.lies w := fun hne => by
  obtain ⟨g, e, hc⟩ := OwnG.cell h (by intro e; have := rcs_len r.L; rw [e] at this; cases hL : r.L with | nil => exact hne hL | cons x l => rw [hL] at this; simp at this)
  refine ⟨g, 0, e, fun i x hx => ?_⟩
  obtain ⟨h1, h2⟩ := rcs_at hx
  exact ⟨hc _ _ h1, hc _ _ h2⟩
theorem Rk.one (r : Rk) : ∀ v ∈ r.cs, v.oneCell' = true := by
  intro v hv
  simp [Rk.cs] at hv
  rcases hv with rfl | rfl <;> rfl
theorem infRk : (Try.prog.info? 63).map (·.size) = some 2 := by kernel_rfl
theorem zstr (xs : List Int) (h : xs = []) : str xs = ⟨#[]⟩ := by subst h; rfl

theorem there2 {w : World} {b : Nat} {o0 o1 : Value} {t : TypeId} (h : w.heap[b]? = some (.cells #[o0, o1] t (0, 0))) : World.there w b 0 2 := fun j hj => by
  rw [cell_of_row _ _ (0 + j) _ _ (0, 0) h, frozen_of_row _ _ (0 + j) _ _ h]
  refine ⟨?_, rfl⟩
  rw [Nat.zero_add, Array.getElem?_eq_getElem (by simpa using hj)]
  rfl
/-- Two cells are stored. -/
theorem st2 {ops : Array Oper} {rest : List Oper} {o : Oper} {a : Act} {w : World} {Q : Exit → Act → World → Prop} (t : TypeId) (x y : Operand) (ho : o.op = .store t x y) (hgd : o.guard = none) (b : Nat) (c0 c1 o0 o1 : Value) (tt : TypeId) (hx : a.eval x = .pointer (some ⟨b, 0, none⟩)) (hy : a.eval y = .agg #[c0, c1])
    (hr : w.heap[b]? = some (.cells #[o0, o1] tt (0, 0))) (hi : (Try.prog.info? t).map (·.size) = some 2) (h0 : c0.oneCell' = true) (h1 : c1.oneCell' = true)
    (h : ∀ w', Hid (w'.heap[b]? = some (.cells #[c0, c1] tt (0, 0)) ∧ Kept (fun i => i = b) w w') → wpList Try.prog ops Q rest (a.put o.dst undef) w') : wpList Try.prog ops Q (o :: rest) a w := by
  refine stN (fun w' => Hid (w'.heap[b]? = some (.cells #[c0, c1] tt (0, 0)) ∧ Kept (fun i => i = b) w w')) t x y ho hgd b 0 [c0, c1] hx hy (there2 hr) hi (by intro v hv; simp at hv; rcases hv with rfl | rfl <;> assumption) ⟨?_, ?_⟩ h
  · simp only [World.setCells]
    rw [heap_setCell_same _ _ _ _ _ _ (heap_setCell_same _ _ _ _ _ _ hr)]
    rfl
  · simp only [World.setCells]
    exact (Kept.setCell (S := fun i => i = b) _ _ _ rfl).trans (Kept.setCell (S := fun i => i = b) _ _ _ rfl) (fun _ _ e => e)
theorem two0 {w : World} {b : Nat} {o0 o1 : Value} {t : TypeId} (h : w.heap[b]? = some (.cells #[o0, o1] t (0, 0))) : w.cell? ⟨b, 0, none⟩ = some o0 := by rw [cell_of_row w b 0 _ _ (0, 0) h]; rfl
theorem two1 {w : World} {b : Nat} {o0 o1 : Value} {t : TypeId} (h : w.heap[b]? = some (.cells #[o0, o1] t (0, 0))) : w.cell? ⟨b, 1, none⟩ = some o1 := by rw [cell_of_row w b 1 _ _ (0, 0) h]; rfl

theorem r13New_no (n : Int) (w : World) (h : n < 0 ∨ 65536 < n) : Calls Try.prog 29 #[.int .i64 n] w fun e w' => e = .returned (.tuple #[.agg #[.string ⟨#[]⟩, .slice none 0 0], .int .i64 (if n < 0 then 2 else 3)]) ∧ Below w.heap.size w w' := by
  have r0 := Blk_new w #[.string ⟨#[]⟩, .slice none 0 0] 63
  have c0 := two0 r0
  have c1 := two1 r0
  have HB := Lib.hid (al w (.cells #[.string ⟨#[]⟩, .slice none 0 0] 63))
  clear r0
  by_cases h0 : n < 0
  · rw [if_pos h0]
    go_enter Try.func29, Try.ntmps29
    go_wp2_with fail
    refine bodyPost_ret (v := .tuple #[.agg #[.string ⟨#[]⟩, .slice none 0 0], .int .i64 2]) (by simp [results, Try.results29, go_sem, *]) rfl ?_
    exact ⟨rfl, HB.out⟩
  · rw [if_neg h0]
    have h2 : 65536 < n := by omega
    go_enter Try.func29, Try.ntmps29
    go_wp2_with fail
    refine bodyPost_ret (v := .tuple #[.agg #[.string ⟨#[]⟩, .slice none 0 0], .int .i64 3]) (by simp [results, Try.results29, go_sem, *]) rfl ?_
    exact ⟨rfl, HB.out⟩
theorem r13New_any (n : Nat) (w : World) (hn : n ≤ 65536) : Calls Try.prog 29 #[.int .i64 n] w fun e w' => e = .returned (.tuple #[.agg #[.string (str (nz n)), .slice none 0 0], .int .i64 0]) ∧ Below w.heap.size w w' := by
  obtain ⟨w1, hmk, ho, hb, hs⟩ := mk_nz (w.alloc (.cells #[.string ⟨#[]⟩, .slice none 0 0] 63)) n (by omega)
  have h1 : ¬ (n : Int) < 0 := by omega
  have h2 : ¬ 65536 < (n : Int) := by omega
  have hcv : (convert 31 9 (.slice (some ⟨w.heap.size + 1, 0, none⟩) n n)).run Try.prog w1 = .ok (.string (str (nz n))) w1 := by
    have h := run_string_rd w1 n ho.len ho.rd (nz_byt n)
    rw [World.size_alloc] at h
    exact h
  have r0 := Blk_new w #[.string ⟨#[]⟩, .slice none 0 0] 63
  have HR : Hid (w1.heap[w.heap.size]? = some (.cells #[.string ⟨#[]⟩, .slice none 0 0] 63 (0, 0))) := (hb.block _ (by simp)).trans r0
  have HB : Hid (Below w.heap.size w w1 ∧ w.heap.size < w1.heap.size) := ⟨(al w _).trans (hb.mono (by simp)), by have := hb.size; simp at this; omega⟩
  clear ho hb hs r0
  go_enter Try.func29, Try.ntmps29
  go_wp2_with (refine st2 63 (.tmp 2) (.tmp 13) rfl rfl w.heap.size (.string (str (nz n))) (.slice none 0 0) _ _ 63 rfl rfl HR.out infRk rfl rfl ?_; intro w2 H2)
  have c0 := two0 H2.out.1
  have c1 := two1 H2.out.1
  refine bodyPost_ret (v := .tuple #[.agg #[.string (str (nz n)), .slice none 0 0], .int .i64 0]) (by simp [results, Try.results29, go_sem, *]) rfl ?_
  exact ⟨rfl, HB.out.1.trans (H2.out.2.below HB.out.1.size (fun i e => by omega))⟩
theorem lies_any (r : Rk) (p n : Int) (w : World) (hp : I64 p) (hd : r.d.length ≤ 65536) : Calls Try.prog 42 #[r.v, .int .i64 p, .int .i64 n] w (Gives w (.bool (decide (rcV r.d p n = 0)))) := by
  obtain ⟨d, u, c, L⟩ := r
  show Calls Try.prog 42 #[.agg #[.string (str d), .slice u L.length c], .int .i64 p, .int .i64 n] w _
  have r0 := Blk_new w #[.string (str d), .slice u L.length c] 63
  have c0 := two0 r0
  have HB := Lib.hid (al w (.cells #[.string (str d), .slice u L.length c] 63))
  have hs : (str d).size = d.length := str_size d
  obtain ⟨m, hm⟩ : ∃ m, d.length = m := ⟨_, rfl⟩
  have hd : d.length ≤ 65536 := hd
  obtain ⟨S, hS⟩ : ∃ S, str d = S := ⟨_, rfl⟩
  unfold I64 at hp
  have hrc : rcV d p n = if p < 0 ∨ n < 0 ∨ (m : Int) - p < n then 130 else 0 := by rw [← hm]; rfl
  show Calls _ _ _ _ (Gives w (.bool (decide (rcV d p n = 0))))
  rw [hrc]
  rw [hm, hS] at hs
  rw [hS] at c0 HB ⊢
  rw [hm] at hd
  clear r0 hm hS hrc
  by_cases h0 : p < 0
  · rw [if_pos (.inl h0), show decide ((130 : Int) = 0) = false by decide]
    go_enter Try.func42, Try.ntmps42
    go_wp2_with fail
    go_ret
    exact ⟨rfl, HB.out⟩
  · by_cases h1 : n < 0
    · rw [if_pos (.inr (.inl h1)), show decide ((130 : Int) = 0) = false by decide]
      go_enter Try.func42, Try.ntmps42
      go_wp2_with fail
      go_ret
      exact ⟨rfl, HB.out⟩
    · have e1 : IntKind.i64.wrap ((m : Int) - p) = (m : Int) - p := by rw [IntKind.wrap_i64]; omega
      by_cases h3 : p ≤ (m : Int)
      · by_cases h2 : (m : Int) - p < n
        · have h2' : ¬ n ≤ (m : Int) - p := by omega
          rw [if_pos (.inr (.inr h2)), show decide ((130 : Int) = 0) = false by decide]
          go_enter Try.func42, Try.ntmps42
          go_wp2_with fail
          go_ret
          exact ⟨rfl, HB.out⟩
        · rw [if_neg (by omega), show decide ((0 : Int) = 0) = true by decide]
          go_enter Try.func42, Try.ntmps42
          go_wp2_with fail
          go_ret
          exact ⟨rfl, HB.out⟩
      · rw [if_pos (by omega), show decide ((130 : Int) = 0) = false by decide]
        go_enter Try.func42, Try.ntmps42
        go_wp2_with fail
        go_ret
        exact ⟨rfl, HB.out⟩
theorem lay_cat (b d : List Int) (p : Nat) (h : p + d.length ≤ b.length) : layL b d p 0 = b.take p ++ d ++ b.drop (p + d.length) := by
  unfold layL
  have e1 : ((p : Int) - 0).toNat = p := by omega
  have e2 : (0 - (p : Int)).toNat = 0 := by omega
  rw [e1, e2, List.drop_zero, List.take_of_length_le (l := d) (by omega)]
set_option maxRecDepth 100000 in
set_option maxHeartbeats 1000000 in
theorem laid_any (b d : List Int) (p : Int) (w : World) (hp : 0 ≤ p) (h : p + d.length ≤ b.length) (hb : b.length ≤ 65536) : Calls Try.prog 43 #[.string (str b), .int .i64 p, .string (str d)] w (Tells w (.string (str (layL b d p 0)))) := by
  obtain ⟨q, rfl⟩ := Int.eq_ofNat_of_zero_le hp
  rw [lay_cat b d q (by omega)]
  have hs : (str d).size = d.length := str_size d
  obtain ⟨n, hn⟩ : ∃ n, d.length = n := ⟨_, rfl⟩
  obtain ⟨z, hz⟩ : ∃ z, q + n = z := ⟨_, rfl⟩
  have e1 : IntKind.i64.wrap ((q : Int) + n) = (z : Int) := by rw [IntKind.wrap_i64]; omega
  rw [hn] at hs h ⊢
  rw [hz]
  have HT := Lib.hid (fun W => run_str_to (xs := b) q (by omega) .i64 W)
  have HA1 := Lib.hid (fun W => run_str_add W (b.take q) d (by simp; omega))
  have HF := Lib.hid (fun W => run_str_from (xs := b) z (by omega) .i64 W)
  have HA2 := Lib.hid (fun W => run_str_add W (b.take q ++ d) (b.drop z) (by simp; omega))
  clear hn hz h hp
  go_enter Try.func43, Try.ntmps43
  go_wp2_with fail
  refine wp_region_held_drew (S := fun w' => True) (by kernel_rfl) trivial (fun hS => ?_)
  refine tk 0 7 (.string (str b)) rfl rfl (by kernel_rfl) (by kernel_rfl) (by kernel_rfl) (fun _ _ _ h => h) (Or.inl ⟨by rfl, fun w' h' => ?_⟩) hS ?_
  · go_simp
  try simp only [Act.put, List.setIfInBounds_toArray, List.set_cons_zero, List.set_cons_succ]
  refine tk 1 8 (.int .i64 (q : Int)) rfl rfl (by kernel_rfl) (by kernel_rfl) (by kernel_rfl) (fun _ _ _ h => h) (Or.inl ⟨by rfl, fun w' h' => ?_⟩) hS ?_
  · go_simp
  try simp only [Act.put, List.setIfInBounds_toArray, List.set_cons_zero, List.set_cons_succ]
  refine tk 2 9 (.string (str (b.take q))) rfl rfl (by kernel_rfl) (by kernel_rfl) (by kernel_rfl) (fun _ _ _ h => h) (Or.inl ⟨by rfl, fun w' h' => ?_⟩) hS ?_
  · have f := HT.out w'
    (first | exact f | go_simp)
  try simp only [Act.put, List.setIfInBounds_toArray, List.set_cons_zero, List.set_cons_succ]
  refine tk 3 10 (.string (str d)) rfl rfl (by kernel_rfl) (by kernel_rfl) (by kernel_rfl) (fun _ _ _ h => h) (Or.inl ⟨by rfl, fun w' h' => ?_⟩) hS ?_
  · go_simp
  try simp only [Act.put, List.setIfInBounds_toArray, List.set_cons_zero, List.set_cons_succ]
  refine tk 4 11 (.string (str (b.take q ++ d))) rfl rfl (by kernel_rfl) (by kernel_rfl) (by kernel_rfl) (fun _ _ _ h => h) (Or.inl ⟨by rfl, fun w' h' => ?_⟩) hS ?_
  · have f := HA1.out w'
    (first | exact f | go_simp)
  try simp only [Act.put, List.setIfInBounds_toArray, List.set_cons_zero, List.set_cons_succ]
  refine tk 5 12 (.string (str b)) rfl rfl (by kernel_rfl) (by kernel_rfl) (by kernel_rfl) (fun _ _ _ h => h) (Or.inl ⟨by rfl, fun w' h' => ?_⟩) hS ?_
  · go_simp
  try simp only [Act.put, List.setIfInBounds_toArray, List.set_cons_zero, List.set_cons_succ]
  refine tk 6 13 (.int .i64 (q : Int)) rfl rfl (by kernel_rfl) (by kernel_rfl) (by kernel_rfl) (fun _ _ _ h => h) (Or.inl ⟨by rfl, fun w' h' => ?_⟩) hS ?_
  · go_simp
  try simp only [Act.put, List.setIfInBounds_toArray, List.set_cons_zero, List.set_cons_succ]
  refine tk 7 14 (.string (str d)) rfl rfl (by kernel_rfl) (by kernel_rfl) (by kernel_rfl) (fun _ _ _ h => h) (Or.inl ⟨by rfl, fun w' h' => ?_⟩) hS ?_
  · go_simp
  try simp only [Act.put, List.setIfInBounds_toArray, List.set_cons_zero, List.set_cons_succ]
  refine tk 8 15 (.int .i64 (n : Int)) rfl rfl (by kernel_rfl) (by kernel_rfl) (by kernel_rfl) (fun _ _ _ h => h) (Or.inl ⟨by rfl, fun w' h' => ?_⟩) hS ?_
  · go_simp
  try simp only [Act.put, List.setIfInBounds_toArray, List.set_cons_zero, List.set_cons_succ]
  refine tk 9 16 (.int .i64 (z : Int)) rfl rfl (by kernel_rfl) (by kernel_rfl) (by kernel_rfl) (fun _ _ _ h => h) (Or.inl ⟨by rfl, fun w' h' => ?_⟩) hS ?_
  · have f := e1
    go_simp
  try simp only [Act.put, List.setIfInBounds_toArray, List.set_cons_zero, List.set_cons_succ]
  refine tk 10 17 (.string (str (b.drop z))) rfl rfl (by kernel_rfl) (by kernel_rfl) (by kernel_rfl) (fun _ _ _ h => h) (Or.inl ⟨by rfl, fun w' h' => ?_⟩) hS ?_
  · have f := HF.out w'
    (first | exact f | go_simp)
  try simp only [Act.put, List.setIfInBounds_toArray, List.set_cons_zero, List.set_cons_succ]
  refine tk 11 18 (.string (str (b.take q ++ d ++ b.drop z))) rfl rfl (by kernel_rfl) (by kernel_rfl) (by kernel_rfl) (fun _ _ _ h => h) (Or.inl ⟨by rfl, fun w' h' => ?_⟩) hS ?_
  · have f := HA2.out w'
    (first | exact f | go_simp)
  try simp only [Act.put, List.setIfInBounds_toArray, List.set_cons_zero, List.set_cons_succ]
  refine tk 12 6 (.string (str (b.take q ++ d ++ b.drop z))) rfl rfl (by kernel_rfl) (by kernel_rfl) (by kernel_rfl) (fun _ _ _ h => h) (Or.inl ⟨by rfl, fun w' h' => ?_⟩) hS ?_
  · go_simp
  refine wpAnyH_done (by kernel_rfl) ?_ _
  go_wp2_with fail
  go_ret
  exact ⟨rfl, 1, rfl⟩

set_option maxRecDepth 100000 in
set_option maxHeartbeats 1000000 in
theorem now_any (r : Rk) (w : World) (hl : r.lies w) (hp : PlOk r.d r.L) : Calls Try.prog 36 #[r.v] w (Gives w (.string (str (nowP r.d r.L)))) := by
  obtain ⟨d, u, c, L⟩ := r
  have HP : Hid (PlOk d L) := hp
  have HL := Lib.hid hl
  show Calls Try.prog 36 #[.agg #[.string (str d), .slice u L.length c]] w (Gives w (.string (str (nowP d L))))
  obtain ⟨m, hm⟩ : ∃ z, L.length = z := ⟨_, rfl⟩
  have HM := Lib.hid hm
  have hmx : m ≤ 1000 := by rw [← hm]; exact HP.out.num
  rw [hm]
  have r0 := Blk_new w #[.string (str d), .slice u m c] 63
  have HB : Hid (Below w.heap.size w (w.alloc (.cells #[.string (str d), .slice u m c] 63)) ∧ (w.alloc (.cells #[.string (str d), .slice u m c] 63)).heap[w.heap.size]? = some (.cells #[.string (str d), .slice u m c] 63 (0, 0))) := ⟨al w _, r0⟩
  obtain ⟨w1, hw1⟩ : ∃ z, w.alloc (.cells #[.string (str d), .slice u m c] 63) = z := ⟨_, rfl⟩
  obtain ⟨b1, hb1⟩ : ∃ z, w.heap.size = z := ⟨_, rfl⟩
  have HW1 := Lib.hid hw1
  rw [hw1] at HB
  have HR : Hid (w1.heap[b1]? = some (.cells #[.string (str d), .slice u m c] 63 (0, 0))) := by have := HB.out.2; rw [hb1] at this; exact this
  have c0 := two0 HR.out
  clear hl hp hm r0 hw1
  go_enter Try.func36, Try.ntmps36
  go_wp2_with fail
  go_loopw [3, 4] (fun s i wr => ∃ j : Nat, j ≤ m ∧ i = .int .i64 j ∧ s = .string (str (nowP d (L.take j))) ∧ Hid (Kept (fun _ => False) w1 wr)) (fun _ i _ => m - (intOf i).toNat)
  case atStart => exact ⟨0, Nat.zero_le _, rfl, rfl, by show Kept _ _ _; first | exact Kept.refl _ _ | (rw [HW1.out]; exact Kept.refl _ _)⟩
  case round =>
    obtain ⟨j, hj, rfl, rfl, hk⟩ := hrel
    have r1 := hk.out.heap HR.out id
    have c1 := two1 r1
    have hLr : Rk.lies wr ⟨d, u, c, L⟩ := (HL.out.below HB.out.1).below (hk.out.below (Nat.le_refl _) (fun _ e => e.elim))
    by_cases hlt : j < m
    · obtain ⟨⟨p, xd⟩, hx⟩ : ∃ x, L[j]? = some x := ⟨_, List.getElem?_eq_getElem (by rw [HM.out]; exact hlt)⟩
      have hxm := List.mem_of_getElem? hx
      obtain ⟨ug, uo, hu, hc⟩ := hLr (fun e => by have e2 : L = [] := e; rw [e2] at hx; cases hx)
      have hu : u = some ⟨ug, uo, none⟩ := hu
      subst hu
      obtain ⟨q0, q1⟩ := hc j (p, xd) hx
      have HC : Hid (wr.cell? ⟨b1, 1, none⟩ = some (.slice (some ⟨ug, uo, none⟩) m c) ∧ wr.cell? ⟨ug, uo + j * 2, none⟩ = some (.int .i64 p) ∧ wr.cell? ⟨ug, uo + j * 2 + 1, none⟩ = some (.string (str xd))) := ⟨c1, q0, q1⟩
      have HN : Hid (nowP d (L.take (j + 1)) = layL (nowP d (L.take j)) xd p 0) := by show _ = _; rw [List.take_add_one, hx]; exact nowP_snoc _ _ _ _
      have HX : Hid (0 ≤ p ∧ p + xd.length ≤ (nowP d (L.take j)).length) := ⟨HP.out.w0 _ hxm, by rw [nowP_len]; exact HP.out.w1 _ hxm⟩
      have hlt2 : (j : Int) < (m : Int) := by omega
      have hj0 : (0 : Int) ≤ (j : Int) := by omega
      have e1 : IntKind.i64.wrap ((j : Int) + 1) = ((j + 1 : Nat) : Int) := by rw [IntKind.wrap_i64]; omega
      clear hc q0 q1 hx hxm hLr r1
      go_wp2_with fail
      have HS : Hid (wr.drew.cell? ⟨b1, 1, none⟩ = some (.slice (some ⟨ug, uo, none⟩) m c) ∧ wr.drew.cell? ⟨ug, uo + j * 2, none⟩ = some (.int .i64 p) ∧ wr.drew.cell? ⟨ug, uo + j * 2 + 1, none⟩ = some (.string (str xd))) := HC.out
      refine wp_region_held_drew (S := fun w' => w'.cell? ⟨b1, 1, none⟩ = some (.slice (some ⟨ug, uo, none⟩) m c) ∧ w'.cell? ⟨ug, uo + j * 2, none⟩ = some (.int .i64 p) ∧ w'.cell? ⟨ug, uo + j * 2 + 1, none⟩ = some (.string (str xd))) (by kernel_rfl) HS.out (fun hS => ?_)
      refine tk 0 14 (.string (str (nowP d (L.take j)))) rfl rfl (by kernel_rfl) (by kernel_rfl) (by kernel_rfl) (fun _ _ _ h => h) (Or.inl ⟨by rfl, fun w' h' => ?_⟩) hS ?_
      · go_simp
      try simp only [Act.put, List.setIfInBounds_toArray, List.set_cons_zero, List.set_cons_succ]
      refine tk 1 15 (.pointer (some ⟨b1, 1, none⟩)) rfl rfl (by kernel_rfl) (by kernel_rfl) (by kernel_rfl) (fun _ _ _ h => h) (Or.inl ⟨by rfl, fun w' h' => ?_⟩) hS ?_
      · go_simp
      try simp only [Act.put, List.setIfInBounds_toArray, List.set_cons_zero, List.set_cons_succ]
      refine tk 2 16 (.slice (some ⟨ug, uo, none⟩) m c) rfl rfl (by kernel_rfl) (by kernel_rfl) (by kernel_rfl) (fun _ _ _ h => h) (Or.inl ⟨by rfl, fun w' h' => ?_⟩) hS ?_
      · have x1 := h'.1
        go_simp
      try simp only [Act.put, List.setIfInBounds_toArray, List.set_cons_zero, List.set_cons_succ]
      refine tk 3 17 (.int .i64 (j : Int)) rfl rfl (by kernel_rfl) (by kernel_rfl) (by kernel_rfl) (fun _ _ _ h => h) (Or.inl ⟨by rfl, fun w' h' => ?_⟩) hS ?_
      · go_simp
      try simp only [Act.put, List.setIfInBounds_toArray, List.set_cons_zero, List.set_cons_succ]
      refine tk 4 18 (.pointer (some ⟨ug, uo + j * 2, none⟩)) rfl rfl (by kernel_rfl) (by kernel_rfl) (by kernel_rfl) (fun _ _ _ h => h) (Or.inl ⟨by rfl, fun w' h' => ?_⟩) hS ?_
      · go_simp
      try simp only [Act.put, List.setIfInBounds_toArray, List.set_cons_zero, List.set_cons_succ]
      refine tk 5 19 (.pointer (some ⟨ug, uo + j * 2, none⟩)) rfl rfl (by kernel_rfl) (by kernel_rfl) (by kernel_rfl) (fun _ _ _ h => h) (Or.inl ⟨by rfl, fun w' h' => ?_⟩) hS ?_
      · go_simp
      try simp only [Act.put, List.setIfInBounds_toArray, List.set_cons_zero, List.set_cons_succ]
      refine tk 6 20 (.int .i64 p) rfl rfl (by kernel_rfl) (by kernel_rfl) (by kernel_rfl) (fun _ _ _ h => h) (Or.inl ⟨by rfl, fun w' h' => ?_⟩) hS ?_
      · have x1 := h'.2.1
        go_simp
      try simp only [Act.put, List.setIfInBounds_toArray, List.set_cons_zero, List.set_cons_succ]
      refine tk 7 21 (.pointer (some ⟨b1, 1, none⟩)) rfl rfl (by kernel_rfl) (by kernel_rfl) (by kernel_rfl) (fun _ _ _ h => h) (Or.inl ⟨by rfl, fun w' h' => ?_⟩) hS ?_
      · go_simp
      try simp only [Act.put, List.setIfInBounds_toArray, List.set_cons_zero, List.set_cons_succ]
      refine tk 8 22 (.slice (some ⟨ug, uo, none⟩) m c) rfl rfl (by kernel_rfl) (by kernel_rfl) (by kernel_rfl) (fun _ _ _ h => h) (Or.inl ⟨by rfl, fun w' h' => ?_⟩) hS ?_
      · have x1 := h'.1
        go_simp
      try simp only [Act.put, List.setIfInBounds_toArray, List.set_cons_zero, List.set_cons_succ]
      refine tk 9 23 (.int .i64 (j : Int)) rfl rfl (by kernel_rfl) (by kernel_rfl) (by kernel_rfl) (fun _ _ _ h => h) (Or.inl ⟨by rfl, fun w' h' => ?_⟩) hS ?_
      · go_simp
      try simp only [Act.put, List.setIfInBounds_toArray, List.set_cons_zero, List.set_cons_succ]
      refine tk 10 24 (.pointer (some ⟨ug, uo + j * 2, none⟩)) rfl rfl (by kernel_rfl) (by kernel_rfl) (by kernel_rfl) (fun _ _ _ h => h) (Or.inl ⟨by rfl, fun w' h' => ?_⟩) hS ?_
      · go_simp
      try simp only [Act.put, List.setIfInBounds_toArray, List.set_cons_zero, List.set_cons_succ]
      refine tk 11 25 (.pointer (some ⟨ug, uo + j * 2 + 1, none⟩)) rfl rfl (by kernel_rfl) (by kernel_rfl) (by kernel_rfl) (fun _ _ _ h => h) (Or.inl ⟨by rfl, fun w' h' => ?_⟩) hS ?_
      · go_simp
      try simp only [Act.put, List.setIfInBounds_toArray, List.set_cons_zero, List.set_cons_succ]
      refine tk 12 26 (.string (str xd)) rfl rfl (by kernel_rfl) (by kernel_rfl) (by kernel_rfl) (fun _ _ _ h => h) (Or.inl ⟨by rfl, fun w' h' => ?_⟩) hS ?_
      · have x1 := h'.2.2
        go_simp
      try simp only [Act.put, List.setIfInBounds_toArray, List.set_cons_zero, List.set_cons_succ]
      refine wpAnyH_ready (rs := [13]) (by kernel_rfl) (by simp) (AllReadyH.cons rfl (fun K hK => ?_) AllReadyH.nil)
      rw [if_pos (by rfl)]
      go_wp2_with fail
      refine (laid_any (nowP d (L.take j)) xd p wr.drew HX.out.1 HX.out.2 (by rw [nowP_len]; exact HP.out.few)).mono ?_
      rintro e w2 ⟨rfl, mm, hw⟩
      rw [← HN.out]
      have HW2 : Hid (Kept (fun _ => False) wr w2) := by show Kept _ _ _; rw [hw]; exact ((Kept.refl _ _).drew).trans (Kept.drewN mm) (fun _ _ e => e)
      have HS2 : Hid (w2.cell? ⟨b1, 1, none⟩ = some (.slice (some ⟨ug, uo, none⟩) m c) ∧ w2.cell? ⟨ug, uo + j * 2, none⟩ = some (.int .i64 p) ∧ w2.cell? ⟨ug, uo + j * 2 + 1, none⟩ = some (.string (str xd))) := by show _ ∧ _; rw [hw]; exact HS.out
      clear hw hS
      refine hK.out _ _ HS2.out (fun hS => ?_)
      clear hK K
      try simp only [Act.put, List.setIfInBounds_toArray, List.set_cons_zero, List.set_cons_succ]
      refine tk 14 3 (.string (str (nowP d (L.take (j + 1))))) rfl rfl (by kernel_rfl) (by kernel_rfl) (by kernel_rfl) (fun _ _ _ h => h) (Or.inl ⟨by rfl, fun w' h' => ?_⟩) hS ?_
      · go_simp
      refine wpAnyH_done (by kernel_rfl) ?_ _
      go_wp2_with fail
      go_roundw
      case rel => exact ⟨j + 1, by omega, by go_num, rfl, hk.out.trans HW2.out (fun _ _ e => e)⟩
      case measure => simp [intOf]; omega
    · have hjm : j = m := by omega
      have hlt2 : ¬ (j : Int) < (m : Int) := by omega
      have HE : Hid (L.take j = L ∧ Below w.heap.size w wr) := ⟨List.take_of_length_le (by rw [HM.out]; omega), HB.out.1.trans (hk.out.below HB.out.1.size (fun _ e => e.elim))⟩
      clear hjm hLr r1
      go_wp2_with fail
      go_ret
      exact ⟨by show Ending.returned (.string (str (nowP d (L.take j)))) = _; rw [HE.out.1], HE.out.2⟩
set_option maxRecDepth 100000 in
set_option maxHeartbeats 1000000 in
theorem r13Sync_any (r : Rk) (w : World) (hl : r.lies w) (hp : PlOk r.d r.L) : Calls Try.prog 32 #[r.v] w (Gives w (.agg #[.string (str (nowP r.d r.L)), .slice none 0 0])) := by
  have HP := Lib.hid hp
  have hb0 : Below w.heap.size w ((w.alloc (.cells #[.string (str r.d), .slice r.u r.L.length r.c] 63)).alloc (.cells #[.string ⟨#[]⟩, .slice none 0 0] 63)) := (al w _).alloc (by simp) _
  have HNO := Lib.hid (now_any r _ (hl.below hb0) hp)
  have r0 : ((w.alloc (.cells #[.string (str r.d), .slice r.u r.L.length r.c] 63)).alloc (.cells #[.string ⟨#[]⟩, .slice none 0 0] 63)).heap[w.heap.size]? = some (.cells #[.string (str r.d), .slice r.u r.L.length r.c] 63 (0, 0)) := by
    rw [Below.heap_alloc _ _ _ (by simp)]; exact Blk_new w _ _
  have r1 : ((w.alloc (.cells #[.string (str r.d), .slice r.u r.L.length r.c] 63)).alloc (.cells #[.string ⟨#[]⟩, .slice none 0 0] 63)).heap[w.heap.size + 1]? = some (.cells #[.string ⟨#[]⟩, .slice none 0 0] 63 (0, 0)) := by
    have := Blk_new (w.alloc (.cells #[.string (str r.d), .slice r.u r.L.length r.c] 63)) #[.string ⟨#[]⟩, .slice none 0 0] 63
    simpa using this
  have c0 := two0 r0
  have c1 := two1 r0
  have hs0 : ((w.alloc (.cells #[.string (str r.d), .slice r.u r.L.length r.c] 63)).alloc (.cells #[.string ⟨#[]⟩, .slice none 0 0] 63)).heap.size = w.heap.size + 2 := by simp
  obtain ⟨d, u, c, L⟩ := r
  show Calls Try.prog 32 #[.agg #[.string (str d), .slice u L.length c]] w (Gives w (.agg #[.string (str (nowP d L)), .slice none 0 0]))
  simp only at hb0 HNO r0 r1 c0 c1 hs0
  obtain ⟨w1, hw1⟩ : ∃ z, (w.alloc (.cells #[.string (str d), .slice u L.length c] 63)).alloc (.cells #[.string ⟨#[]⟩, .slice none 0 0] 63) = z := ⟨_, rfl⟩
  rw [hw1] at hb0 HNO r0 r1 c0 c1 hs0
  have HB : Hid (Below w.heap.size w w1 ∧ w1.heap[w.heap.size + 1]? = some (.cells #[.string ⟨#[]⟩, .slice none 0 0] 63 (0, 0)) ∧ w1.heap.size = w.heap.size + 2) := ⟨hb0, r1, hs0⟩
  have HW1 := Lib.hid hw1
  clear hl hp hb0 r0 r1 hs0 hw1
  go_enter Try.func32, Try.ntmps32
  go_wp2_with fail
  rw [HW1.out]
  go_wp2_with fail
  refine (show Calls Try.prog 36 #[.agg #[.string (str d), .slice u L.length c]] w1 _ from HNO.out).mono ?_
  rintro e w2 ⟨rfl, hb⟩
  have HR2 : Hid (w2.heap[w.heap.size + 1]? = some (.cells #[.string ⟨#[]⟩, .slice none 0 0] 63 (0, 0)) ∧ Below w.heap.size w w2) := ⟨(hb.block _ (by have := HB.out.2.2; omega)).trans HB.out.2.1, HB.out.1.trans (hb.mono HB.out.1.size)⟩
  clear hb
  go_wp2_with (refine st2 63 (.tmp 2) (.tmp 5) rfl rfl (w.heap.size + 1) (.string (str (nowP d L))) (.slice none 0 0) _ _ 63 rfl rfl HR2.out.1 infRk rfl rfl ?_; intro w3 H3)
  have e0 := two0 H3.out.1
  have e1 := two1 H3.out.1
  refine bodyPost_ret (v := .agg #[.string (str (nowP d L)), .slice none 0 0]) (by simp [results, Try.results32, go_sem, *]) rfl ?_
  exact ⟨rfl, HR2.out.2.trans (H3.out.2.below HR2.out.2.size (fun i e => by omega))⟩
set_option maxRecDepth 100000 in
set_option maxHeartbeats 1000000 in
theorem part_no (r : Rk) (S : ByteArray) (p n : Int) (w : World) (hp : I64 p) (hd : r.d.length ≤ 65536) (hn : rcV r.d p n ≠ 0) : Calls Try.prog 35 #[r.v, .string S, .int .i64 p, .int .i64 n] w (Gives w (.tuple #[.slice none 0 0, .int .i64 130])) := by
  have HC := Lib.hid (lies_any r p n (w.alloc (.cells #[.string (str r.d), .slice r.u r.L.length r.c] 63)) hp hd)
  rw [decide_eq_false hn] at HC
  obtain ⟨d, u, c, L⟩ := r
  show Calls Try.prog 35 #[.agg #[.string (str d), .slice u L.length c], .string S, .int .i64 p, .int .i64 n] w _
  have r0 := Blk_new w #[.string (str d), .slice u L.length c] 63
  have c0 := two0 r0
  have c1 := two1 r0
  have HB := Lib.hid (al w (.cells #[.string (str d), .slice u L.length c] 63))
  clear r0 hn hp hd
  go_enter Try.func35, Try.ntmps35
  go_wp2_with fail
  refine (show Calls Try.prog 42 #[.agg #[.string (str d), .slice u L.length c], .int .i64 p, .int .i64 n] _ _ from HC.out).mono ?_
  rintro e w2 ⟨rfl, hb⟩
  have HZ : Hid (Below w.heap.size w w2) := HB.out.trans (hb.mono HB.out.size)
  clear hb
  go_wp2_with fail
  go_ret2
  exact ⟨rfl, HZ.out⟩
set_option maxRecDepth 100000 in
set_option maxHeartbeats 1000000 in
theorem part_any (r : Rk) (xs : List Int) (p n : Nat) (w : World) (hd : r.d.length ≤ 65536) (hx : xs.length = r.d.length) (hxb : Byt xs) (hn : p + n ≤ r.d.length) : Calls Try.prog 35 #[r.v, .string (str xs), .int .i64 p, .int .i64 n] w (MadeT w (cutD xs p n)) := by
  have HC := Lib.hid (lies_any r p n (w.alloc (.cells #[.string (str r.d), .slice r.u r.L.length r.c] 63)) (by unfold I64; omega) hd)
  rw [rcV_in hn] at HC
  have HX : Hid (p + n ≤ xs.length ∧ Byt xs ∧ xs.length ≤ 65536) := ⟨by omega, hxb, by omega⟩
  obtain ⟨d, u, c, L⟩ := r
  show Calls Try.prog 35 #[.agg #[.string (str d), .slice u L.length c], .string (str xs), .int .i64 p, .int .i64 n] w _
  have r0 := Blk_new w #[.string (str d), .slice u L.length c] 63
  have c0 := two0 r0
  have c1 := two1 r0
  have HB := Lib.hid (al w (.cells #[.string (str d), .slice u L.length c] 63))
  have e1 : IntKind.i64.wrap ((p : Int) + (n : Int)) = ((p + n : Nat) : Int) := by rw [IntKind.wrap_i64]; have := HX.out.1; have := HX.out.2.2; omega
  obtain ⟨z, hz⟩ : ∃ z, p + n = z := ⟨_, rfl⟩
  rw [hz] at e1
  have HCU : Hid (∀ W, (Instr.sliceAt 9 (.string (str xs)) (some (.int .i64 (p : Int))) (some (.int .i64 (z : Int))) none).run Try.prog W = .ok (.string (str (cutD xs p n))) W) := fun W => by
    have := run_str_cut (xs := xs) p z (by omega) (by have := HX.out.1; omega) .i64 .i64 W
    rw [show z - p = n by omega] at this
    exact this
  have HLN : Hid ((cutD xs p n).length = n) := cutD_len _ _ _ HX.out.1
  clear r0 hn hd hx hxb hz
  go_enter Try.func35, Try.ntmps35
  go_wp2_with fail
  refine (show Calls Try.prog 42 #[.agg #[.string (str d), .slice u L.length c], .int .i64 p, .int .i64 n] _ _ from HC.out).mono ?_
  rintro e w2 ⟨rfl, hb⟩
  have HZ : Hid (Below w.heap.size w w2) := HB.out.trans (hb.mono HB.out.size)
  clear hb
  obtain ⟨cc, w3, hcv, hrd, hb3⟩ := run_bytes_str w2 (cutD xs p n) ((HX.out.2.1.drop p).take n)
  rw [HLN.out] at hcv
  have hcu := HCU.out w2
  have H3 : Hid (Rd w3 (some ⟨w2.heap.size, 0, none⟩) (cutD xs p n) ∧ Below w.heap.size w w3) := ⟨hrd, HZ.out.trans (hb3.mono HZ.out.size)⟩
  clear hrd hb3
  go_wp2_with fail
  refine (join_any none (some ⟨w2.heap.size, 0, none⟩) 0 0 n cc [] (cutD xs p n) w3 rfl HLN.out (Rd.empty _ _) H3.out.1 (by have := HX.out.1; have := HX.out.2.2; omega)).mono ?_
  rintro e w4 ⟨a4, n4, c4, rfl, ho, hb⟩
  rw [List.nil_append] at ho
  have H4 : Hid (Own w4 w.heap.size a4 n4 c4 (cutD xs p n) ∧ Below w.heap.size w w4) := ⟨ho.mono H3.out.2.size, H3.out.2.trans (hb.mono H3.out.2.size)⟩
  clear ho hb
  go_wp2_with fail
  go_ret2
  exact ⟨a4, n4, c4, rfl, H4.out.1, H4.out.2⟩
end Go.Proofs.Ytbghdlgfpfeaeaa

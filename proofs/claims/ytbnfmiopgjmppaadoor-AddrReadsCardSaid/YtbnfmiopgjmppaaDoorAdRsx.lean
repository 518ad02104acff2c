/-
  The contract of readSix. Conditions: a text of at most 1000000 bytes; the library's variables hold what they should. (Made by gen_adrsix.py.)
-/
import Derived.Test.YtbnfmiopgjmppaaDoorAdPut
namespace Go.Proofs.YtbnfmiopgjmppaaDoor
open Go.RowKit

theorem sIns_any (w : World) (base base2 : Nat) {a : Option Addr} {n cap : Nat} {xs : List Int} (ho : Own w base a n cap xs) (i : Nat) (hi : i ≤ n) (g2 m : Nat) (ys : List Int) (hm : 0 < m) (hz : Own w base2 (some ⟨g2, 0, none⟩) m m ys) (hlim : n + m ≤ 1000) (hb : base ≤ w.heap.size) (hne : blk a ≠ some g2) :
    Calls Tryd.prog 60 #[.slice a n cap, .int .i64 (i : Int), .slice (some ⟨g2, 0, none⟩) m m] w (InsR w base a (xs.take i ++ ys ++ xs.drop i)) := by
  by_cases he : i = n
  · subst he
    have h := sIns_end w base base2 ho g2 m ys hm hz hlim hb
    rw [List.take_of_length_le (by rw [ho.len]; exact Nat.le_refl _), List.drop_eq_nil_of_le (by rw [ho.len]; exact Nat.le_refl _), List.append_nil]
    exact h
  · obtain ⟨g, cur, rfl, _⟩ := ho.cases.resolve_left (by rintro ⟨_, h, _⟩; omega)
    have hne2 : g2 ≠ g := fun e => hne (by simp [blk, e])
    by_cases hr : n + m ≤ cap
    · exact sIns_room w base base2 ho i (by omega) g2 m ys hm hz hlim hne2 hr
    · exact sIns_new w base base2 ho i (by omega) g2 m ys hm hz hlim hb (by omega)
theorem run_mk_b (w : World) (n : Nat) (hn : n ≤ 1000) : ∃ w', (Instr.makeSlice 25 (.int .i64 (n : Int)) (.int .i64 (n : Int))).run Tryd.prog w = .ok (.slice (some ⟨w.heap.size, 0, none⟩) n n) w' ∧
    Own w' w.heap.size (some ⟨w.heap.size, 0, none⟩) n n (zs n) ∧ Below w.heap.size w w' ∧ w.heap.size < w'.heap.size := by
  obtain ⟨i0, hi, hz0, hz1, hz2⟩ := info_parts u8_info
  obtain ⟨w', h1, h2, h3⟩ := run_makeSlice_full (P := Tryd.prog) (w := w) w.heap.size 25 5 i0 (.int .u8 0) 1 Tryd.underlying25 hi hz0 hz1 .i64 .i64 n (by omega) (by rw [hz2]; omega) (by simp only [maxLen]; omega) (Nat.le_refl _)
  have ho : Own w' w.heap.size (some ⟨w.heap.size, 0, none⟩) n n (zs n) := by
    refine ⟨List.length_replicate, ?_⟩
    have e : (madeCells (Value.int .u8 0).cells (n * 1)).toList = bv (zs n) := by
      rw [Nat.mul_one]
      apply List.ext_getElem
      · simp [madeCells, bv, zs]
      · intro i h1 h2
        simp [madeCells, bv, zs, Value.cells, Nat.mod_one]
    rw [← e]
    exact h2
  exact ⟨w', h1, ho, (Below.refl _ _).grown h3 (Nat.le_refl _) (by simp), (ho.blk_ge _ rfl).2⟩
theorem wp_makeA {P : Program} {o : Oper} {a : Act} {w w' : World} {K : Act → World → Prop} {Q : Exit → Act → World → Prop} {v : Value} (l c : Operand) (t : TypeId) (ho : o.op = .makeSlice t l c) (vl vc : Value) (hl : a.eval l = vl) (hc : a.eval c = vc)
    (hr : (Instr.makeSlice t vl vc).run P w = .ok v w') (h : K (a.put o.dst v) w') : o.wp P a w K Q := by
  unfold Oper.wp execOp
  simp only [ho, hl, hc, hr, Sem.run_bind, Result.andThen_ok]
  exact h
/-- Groups, behind bytes that are read. -/
def gst (xs : List Int) (l : Tx) : Option (List Int) := if l = [] then some xs else steps stp6 xs (cuts 58 l)
theorem gst_eq (xs : List Int) (l : Tx) (h : xs.length ≤ 16) : gst xs l = match gr0 l with
    | some r => if xs.length + 2 * r.length ≤ 16 then some (xs ++ gbI r) else none
    | none => none := by
  unfold gst gr0
  by_cases he : l = []
  · rw [if_pos he, if_pos he]; simp [gbI, gby, h]
  · rw [if_neg he, if_neg he, steps_six _ _ h]
    cases ha : allO hexO (cuts 58 l) with
    | none => rfl
    | some r => simp only; rw [allO_len _ _ _ ha]
theorem gb_len : ∀ r : List Nat, (gbI r).length = 2 * r.length
  | [] => by simp [gbI, gby]
  | v :: r => by rw [gbI_cons, List.length_append, gb_len r]; simp; omega
theorem gb_app (a b : List Nat) : gbI (a ++ b) = gbI a ++ gbI b := by
  induction a with
  | nil => simp [gbI, gby]
  | cons v r ih => rw [List.cons_append, gbI_cons, gbI_cons, ih, List.append_assoc]
theorem gb_zero : ∀ k : Nat, gbI (List.replicate k 0) = zs (2 * k)
  | 0 => by simp [gbI, gby, zs]
  | k + 1 => by
    rw [List.replicate_succ, gbI_cons, gb_zero k, show 2 * (k + 1) = (2 * k) + 1 + 1 by omega]
    simp [zs, List.replicate_succ]
/-- The two parts about two colons. -/
theorem six_found {l x y : Tx} (hc : Lib.cut l [58, 58] = (x, y, true)) {t1 t2 : List Int} (h1 : gst [] x = some t1) (h2 : gst t1 y = some t2) (hn : t2.length ≠ 16) :
    ∃ gs, parse6 l = some gs ∧ gs.length = 8 ∧ t1.length ≤ t2.length ∧ t2.length < 16 ∧ t2.take t1.length ++ zs (16 - t2.length) ++ t2.drop t1.length = gbI gs := by
  rw [gst_eq _ _ (by simp)] at h1
  cases ha : gr0 x with
  | none => rw [ha] at h1; cases h1
  | some a =>
    rw [ha] at h1
    simp only [List.length_nil, Nat.zero_add, List.nil_append] at h1
    split at h1
    · rename_i hla
      have e1 := Option.some.inj h1
      have l1 : t1.length = 2 * a.length := by rw [← e1, gb_len]
      rw [gst_eq _ _ (by omega)] at h2
      cases hb : gr0 y with
      | none => rw [hb] at h2; cases h2
      | some b =>
        rw [hb] at h2
        simp only at h2
        split at h2
        · rename_i hlb
          have e2 := Option.some.inj h2
          have l2 : t2.length = 2 * a.length + 2 * b.length := by rw [← e2, List.length_append, gb_len, l1]
          refine ⟨a ++ (List.replicate (8 - (a.length + b.length)) 0 ++ b), ?_, by simp; omega, by omega, by omega, ?_⟩
          · unfold parse6
            rw [hc]
            simp only [if_true, ha, hb]
            rw [if_pos (by omega)]
          · rw [← e2, tkl rfl, dpl rfl, gb_app, gb_app, gb_zero, e1, List.append_assoc]
            congr 3
            rw [List.length_append, gb_len, l1]
            omega
        · cases h2
    · cases h1
theorem six_found_no {l x y : Tx} (hc : Lib.cut l [58, 58] = (x, y, true)) (h : gst [] x = none ∨ ∃ t1, gst [] x = some t1 ∧ (gst t1 y = none ∨ ∃ t2, gst t1 y = some t2 ∧ t2.length = 16)) : parse6 l = none := by
  unfold parse6
  rw [hc]
  simp only [if_true]
  rw [gst_eq _ _ (by simp)] at h
  cases ha : gr0 x with
  | none => rfl
  | some a =>
    cases hb : gr0 y with
    | none => rfl
    | some b =>
      simp only
      rw [if_neg]
      intro hle
      rw [ha] at h
      simp only [List.length_nil, Nat.zero_add, List.nil_append] at h
      rw [if_pos (by omega)] at h
      rcases h with h | ⟨t1, e, h⟩
      · cases h
      · have e1 := Option.some.inj e
        have l1 : t1.length = 2 * a.length := by rw [← e1, gb_len]
        rw [gst_eq _ _ (by omega), hb] at h
        simp only at h
        rw [if_pos (by omega)] at h
        rcases h with h | ⟨t2, e2, h⟩
        · cases h
        · have e3 := Option.some.inj e2
          rw [← e3, List.length_append, gb_len, l1] at h
          omega
theorem six_plain {l : Tx} (hc : (Lib.cut l [58, 58]).2.2 = false) (hne : l ≠ []) : (∀ t, steps stp6 [] (cuts 58 l) = some t → t.length = 16 → ∃ gs, parse6 l = some gs ∧ gs.length = 8 ∧ t = gbI gs) ∧
    ((steps stp6 [] (cuts 58 l) = none ∨ ∃ t, steps stp6 [] (cuts 58 l) = some t ∧ t.length ≠ 16) → parse6 l = none) := by
  have hs : steps stp6 [] (cuts 58 l) = gst [] l := by unfold gst; rw [if_neg hne]
  rw [hs, gst_eq _ _ (by simp)]
  unfold parse6
  rw [hc, if_neg (by decide)]
  cases ha : gr0 l with
  | none => exact ⟨fun t h => (by cases h), fun _ => rfl⟩
  | some a =>
    simp only [List.length_nil, Nat.zero_add, List.nil_append]
    by_cases hl : 2 * a.length ≤ 16
    · rw [if_pos hl]
      refine ⟨fun t h hl16 => ?_, fun h => ?_⟩
      · have e := Option.some.inj h
        rw [← e, gb_len] at hl16
        exact ⟨a, by rw [if_pos (by omega)], by omega, e.symm⟩
      · rw [if_neg]
        intro h8
        rcases h with h | ⟨t, e, h⟩
        · cases h
        · apply h
          rw [← Option.some.inj e, gb_len]
          omega
    · rw [if_neg hl]
      exact ⟨fun t h => (by cases h), fun _ => by rw [if_neg (by omega)]⟩
end Go.Proofs.YtbnfmiopgjmppaaDoor

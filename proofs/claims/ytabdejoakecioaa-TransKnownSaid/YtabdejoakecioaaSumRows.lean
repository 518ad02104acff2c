/-
  Rows of rows of bytes, and the contracts of package sum's foldRows, Of and Whole. Conditions: at most 1000 rows of at most 1000 bytes each, that lie where the slices lead.
-/
import Derived.Test.YtabdejoakecioaaSum
namespace Go.Proofs.Ytabdejoakecioaa
open Go.RowKit

/-- A row: the slice, and its bytes. -/
structure Row where
  a : Option Addr
  n : Nat
  c : Nat
  xs : List Int
def Row.val (r : Row) : Value := .slice r.a r.n r.c
structure Row.ok (w : World) (r : Row) : Prop where
  len : r.xs.length = r.n
  cap : r.n ≤ r.c
  max : r.c ≤ maxLen
  rd : Rd w r.a r.xs
  byt : Byt r.xs
def Row.no : Row := ⟨none, 0, 0, []⟩
theorem Row.no_ok (w : World) : Row.no.ok w := ⟨rfl, Nat.le_refl _, Nat.zero_le _, Rd.empty _ _, Byt.nil⟩
theorem Row.ok.below {w w' : World} {r : Row} (h : r.ok w) (hb : Below w.heap.size w w') : r.ok w' := ⟨h.len, h.cap, h.max, h.rd.below hb, h.byt⟩
/-- A slice's address leads to these rows. -/
structure RdR (w : World) (a : Option Addr) (l : List Row) : Prop where
  cell : l ≠ [] → ∃ b o, a = some ⟨b, o, none⟩ ∧ ∀ i, i < l.length → w.cell? ⟨b, o + i, none⟩ = some (l.getD i Row.no).val
  ok : ∀ r ∈ l, r.ok w
theorem mem_getD {l : List Row} {i : Nat} (h : i < l.length) : l.getD i Row.no ∈ l := by
  rw [List.getD_eq_getElem?_getD, List.getElem?_eq_getElem h]; exact List.getElem_mem h
theorem RdR.below {w w' : World} {a : Option Addr} {l : List Row} (h : RdR w a l) (hb : Below w.heap.size w w') : RdR w' a l := by
  refine ⟨fun hne => ?_, fun r hr => (h.ok r hr).below hb⟩
  obtain ⟨b, o, rfl, hc⟩ := h.cell hne
  refine ⟨b, o, rfl, fun i hi => ?_⟩
  have h1 := hc i hi
  rw [← h1]
  exact World.cell?_of_block (hb.block b (World.block_lt_of_cell? w ⟨b, o + i, none⟩ h1))
/-- Rows, one behind the other. -/
def cat (l : List Row) : List Int := l.flatMap (·.xs)
theorem cat_nil : cat [] = [] := rfl
theorem cat_take {l : List Row} {k : Nat} (h : k < l.length) : cat (l.take (k + 1)) = cat (l.take k) ++ (l.getD k Row.no).xs := by
  rw [List.take_succ_eq_append_getElem h, cat, List.flatMap_append]
  simp [cat, List.getElem?_eq_getElem h]
theorem cat_byt {w : World} {l : List Row} (h : ∀ r ∈ l, r.ok w) : Byt (cat l) := by
  intro x hx
  obtain ⟨r, hr, hx⟩ := List.mem_flatMap.1 hx
  exact (h r hr).byt x hx
theorem cat_len {w : World} {l : List Row} {m : Nat} (h : ∀ r ∈ l, r.ok w) (hm : ∀ r ∈ l, r.n ≤ m) : (cat l).length ≤ m * l.length := by
  induction l with
  | nil => simp [cat]
  | cons r l ih =>
    have h1 := ih (fun r hr => h r (by simp [hr])) (fun r hr => hm r (by simp [hr]))
    have h2 := (h r (by simp)).len
    have h3 := hm r (by simp)
    have e : cat (r :: l) = r.xs ++ cat l := rfl
    rw [e, List.length_append, List.length_cons, Nat.mul_add]
    omega
theorem cat_len_take {w : World} {l : List Row} {m : Nat} (h : ∀ r ∈ l, r.ok w) (hm : ∀ r ∈ l, r.n ≤ m) (k : Nat) : (cat (l.take k)).length ≤ m * k := by
  have h1 := cat_len (l := l.take k) (fun r hr => h r (List.mem_of_mem_take hr)) (fun r hr => hm r (List.mem_of_mem_take hr))
  have h2 : (l.take k).length ≤ k := by simp; omega
  exact Nat.le_trans h1 (Nat.mul_le_mul_left _ h2)

set_option maxHeartbeats 1000000 in
theorem rows_any (a : Option Addr) (n cap : Nat) (l : List Row) (w : World) (hn : l.length = n) (hr : RdR w a l) (hl : n ≤ 1000) (hm : ∀ r ∈ l, r.n ≤ 1000) :
    Calls Try.prog 65 #[.slice a n cap] w fun e w' => e = .returned (.int .u16 (fld (ws 0 (cat l)))) ∧ Below w.heap.size w w' := by
  have HN := Lib.hid hn
  have HR := Lib.hid hr
  have HM := Lib.hid hm
  clear hn hr hm
  have HS : Hid (Sm (w.alloc (.cells #[.int .u16 0, .int .i64 0] 104)) w.heap.size 0 0) := Sm.new w
  go_enter Try.func65, Try.ntmps65
  go_wp2_with fail
  go_loopw [10] (fun i wr => ∃ k : Nat, k ≤ n ∧ i = .int .i64 k ∧ Hid (Sm wr w.heap.size (fld (ws 0 (cat (l.take k)))) (cat (l.take k)).length) ∧ Hid (Below w.heap.size w wr)) (fun i _ => n - (intOf i).toNat)
  case atStart => exact ⟨0, Nat.zero_le _, rfl, HS, (Below.refl _ _).alloc (Nat.le_refl _) _⟩
  case round =>
    obtain ⟨k, hk, rfl, hs, hb⟩ := hrel
    by_cases hlt : k < n
    · obtain ⟨b, o, rfl, hc⟩ := (HR.out.below hb.out).cell (by intro e; have := HN.out; rw [e] at this; simp at this; omega)
      have hck := hc k (by rw [HN.out]; exact hlt)
      have HO := Lib.hid ((HR.out.below hb.out).ok _ (mem_getD (l := l) (i := k) (by rw [HN.out]; exact hlt)))
      have HL := Lib.hid (cat_len_take HR.out.ok HM.out k)
      have hrn := HM.out _ (mem_getD (l := l) (i := k) (by rw [HN.out]; exact hlt))
      have HT := Lib.hid (cat_take (l := l) (k := k) (by rw [HN.out]; exact hlt))
      obtain ⟨r, hre⟩ : ∃ r, l.getD k Row.no = r := ⟨_, rfl⟩
      rw [hre] at hck HO hrn HT
      obtain ⟨ra, rn, rc, xs⟩ := r
      rw [Row.val] at hck
      clear hc hre
      simp only at hck hrn
      go_wp2_with fail
      refine (add_any _ _ _ _ _ _ xs _ hs.out HO.out.len HO.out.rd HO.out.byt HO.out.cap (by have := HL.out; show _ + rn ≤ _; omega)).mono ?_
      rintro e w2 ⟨rfl, hsm, hkp⟩
      have HS2 : Hid (Sm w2 w.heap.size (fld (ws 0 (cat (l.take (k + 1))))) (cat (l.take (k + 1))).length) := by
        have h1 : 0 ≤ ws 0 (cat (l.take k)) := (ws_range _ 0 (cat_byt (w := w) fun r hr => HR.out.ok r (List.mem_of_mem_take hr))).1
        have h2 : 0 ≤ ws (cat (l.take k)).length xs := (ws_range _ _ HO.out.byt).1
        rw [fld_fld h1 h2] at hsm
        rw [HT.out, ws_append, List.length_append, Nat.zero_add]
        exact hsm
      have HB2 : Hid (Below w.heap.size w w2) := hb.out.trans (hkp.below hb.out.size (fun k h => by omega))
      clear hsm hkp
      go_wp2_with fail
      go_roundw
      case rel => exact ⟨k + 1, by omega, by go_num, HS2, HB2⟩
      case measure => simp [intOf]; omega
    · have h0 := hs.out.cell0
      go_wp2_with fail
      go_ret
      exact ⟨by rw [List.take_of_length_le (by rw [HN.out]; omega)]; rfl, hb.out⟩

theorem of_any (a : Option Addr) (n cap : Nat) (l : List Row) (w : World) (hn : l.length = n) (hr : RdR w a l) (hl : n ≤ 1000) (hm : ∀ r ∈ l, r.n ≤ 1000) :
    Calls Try.prog 36 #[.slice a n cap] w fun e w' => e = .returned (.int .u16 (65535 - fld (ws 0 (cat l)))) ∧ Below w.heap.size w w' := by
  have HN := Lib.hid hn
  have HR := Lib.hid hr
  have HM := Lib.hid hm
  clear hn hr hm
  obtain ⟨r0, r1⟩ := @fld_range (ws 0 (cat l)) (ws_range _ 0 (cat_byt HR.out.ok)).1
  go_enter Try.func36, Try.ntmps36
  go_wp2_with fail
  refine (rows_any _ _ _ l _ HN.out HR.out hl HM.out).mono ?_
  rintro e w1 ⟨rfl, hb⟩
  obtain ⟨x, hx⟩ : ∃ x, fld (ws 0 (cat l)) = x := ⟨_, rfl⟩
  rw [hx] at r0 r1 ⊢
  have HB := Lib.hid hb
  have HX := Lib.hid hx
  clear hx hb
  go_wp2_with fail
  go_ret
  exact ⟨by rw [HX.out]; rfl, HB.out⟩

theorem whole_any (a : Option Addr) (n cap : Nat) (l : List Row) (w : World) (hn : l.length = n) (hr : RdR w a l) (hl : n ≤ 1000) (hm : ∀ r ∈ l, r.n ≤ 1000) :
    Calls Try.prog 45 #[.slice a n cap] w fun e w' => e = .returned (.bool (whl (ws 0 (cat l)))) ∧ Below w.heap.size w w' := by
  have HN := Lib.hid hn
  have HR := Lib.hid hr
  have HM := Lib.hid hm
  clear hn hr hm
  have hp := (ws_range _ 0 (cat_byt HR.out.ok)).1
  have HW := Lib.hid (whl_fld hp)
  obtain ⟨r0, r1⟩ := @fld_range (ws 0 (cat l)) hp
  clear hp
  by_cases h1 : fld (ws 0 (cat l)) = 65535
  · go_enter Try.func45, Try.ntmps45
    go_wp2_with fail
    refine (rows_any _ _ _ l _ HN.out HR.out hl HM.out).mono ?_
    rintro e w1 ⟨rfl, hb⟩
    rw [h1] at HW ⊢
    have HB := Lib.hid hb
    clear hb h1 r0 r1
    go_wp2_with fail
    go_ret
    exact ⟨by rw [← HW.out]; rfl, HB.out⟩
  · have h1' : (fld (ws 0 (cat l)) == 65535) = false := by simp [h1]
    go_enter Try.func45, Try.ntmps45
    go_wp2_with fail
    refine (rows_any _ _ _ l _ HN.out HR.out hl HM.out).mono ?_
    rintro e w1 ⟨rfl, hb⟩
    obtain ⟨x, hx⟩ : ∃ x, fld (ws 0 (cat l)) = x := ⟨_, rfl⟩
    rw [hx] at r0 r1 h1 h1' HW ⊢
    have HB := Lib.hid hb
    have H1 := Lib.hid h1
    clear hx hb h1
    go_wp2_with fail
    go_ret
    exact ⟨by rw [← HW.out, decide_eq_false H1.out, Bool.false_or]; simp only [Bool.beq_eq_decide_eq]; rfl, HB.out⟩
end Go.Proofs.Ytabdejoakecioaa

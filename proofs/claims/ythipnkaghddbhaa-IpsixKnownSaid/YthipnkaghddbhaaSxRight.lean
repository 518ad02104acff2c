/-
  Chains as they lie in memory, and the contract of Right of package ipsix. Conditions: headers whose data lie where the slices lead, each fewer than a million million bytes.
-/
import Derived.Test.YthipnkaghddbhaaSxStr
import Derived.LoopTactic
namespace Go.Proofs.Ythipnkaghddbhaa
open Go.RowKit

theorem cell_kept' {w wr : World} (h : Below w.heap.size w wr) {b o : Nat} {u : Value} (hc : w.cell? ⟨b, o, none⟩ = some u) : wr.cell? ⟨b, o, none⟩ = some u := cell_kept h hc
/-- Headers behind one another, as they lie in memory. -/
structure Ch (w : World) (a : Option Addr) (n c : Nat) (es : List Ex) : Prop where
  len : es.length = n
  cap : n ≤ c
  max : c ≤ maxLen
  cells : es ≠ [] → ∃ b o, a = some ⟨b, o, none⟩ ∧ ∀ (i : Nat) (x : Ex), es[i]? = some x → w.cell? ⟨b, o + i * 2, none⟩ = some (.int .u8 x.k) ∧ w.cell? ⟨b, o + i * 2 + 1, none⟩ = some (.slice x.a x.n x.c)
  ok : ∀ x ∈ es, x.ok w
  few : ∀ x ∈ es, x.n ≤ 1099511627776
theorem Ch.below {w w' : World} {a : Option Addr} {n c : Nat} {es : List Ex} (h : Ch w a n c es) (hb : Below w.heap.size w w') : Ch w' a n c es :=
  ⟨h.len, h.cap, h.max, fun e => by
    obtain ⟨b, o, e1, hc⟩ := h.cells e
    exact ⟨b, o, e1, fun i x hx => ⟨cell_kept hb (hc i x hx).1, cell_kept hb (hc i x hx).2⟩⟩, fun x hx => (h.ok x hx).below hb, h.few⟩
/-- Is a chain right, from a place on? -/
def rtG : Bool → Nat → List Ex → Int → Bool
  | l, _, [], p => l || !knd p
  | l, i, x :: es, p => !(l || (!rtE x.k x.xs || (decide (x.k = 0) && decide (0 < i)))) && rtG (ltE x.k x.xs) (i + 1) es p
def rtC (es : List Ex) (p : Int) : Bool := decide (es.length ≤ 16) && rtG false 0 es p

set_option maxRecDepth 100000 in
set_option maxHeartbeats 2000000 in
theorem sxRight_any (a : Option Addr) (n c : Nat) (es : List Ex) (p : Int) (w : World) (h : Ch w a n c es) (p0 : 0 ≤ p) (p1 : p < 256) :
    Calls Try.prog 23 #[.agg #[.slice a n c, .int .u8 p]] w (Gives w (.bool (rtC es p))) := by
  have hbA : Below w.heap.size w (w.alloc (.cells #[.slice a n c, .int .u8 p] 46)) := (Below.refl _ _).alloc (Nat.le_refl _) _
  have HB := Lib.hid hbA
  have HC := Lib.hid (h.below hbA)
  have hnm : n ≤ 9223372036854775807 := by have h1 := h.cap; have h2 := h.max; unfold maxLen at h2; omega
  have HL := Lib.hid h.len
  clear h
  by_cases h16 : 16 < n
  · have HR : Hid (rtC es p = false) := by show _ = _; rw [rtC, HL.out, decide_eq_false (by omega)]; rfl
    clear hbA
    go_enter Try.func23, Try.ntmps23
    go_wp2_with fail
    go_ret
    exact ⟨by rw [HR.out]; rfl, HB.out⟩
  have HR : Hid (rtC es p = rtG false 0 (es.drop 0) p) := by show _ = _; rw [rtC, HL.out, decide_eq_true (by omega)]; rfl
  have HS0 : Hid (∀ wr : World, Below (w.alloc (.cells #[.slice a n c, .int .u8 p] 46)).heap.size (w.alloc (.cells #[.slice a n c, .int .u8 p] 46)) wr → wr.cell? ⟨w.heap.size, 1, none⟩ = some (.int .u8 p) ∧ wr.cell? ⟨w.heap.size, 0, none⟩ = some (.slice a n c)) := fun wr hb =>
    ⟨cell_kept hb (World.cell?_alloc_new _ _ _ _), cell_kept hb (World.cell?_alloc_new _ _ _ _)⟩
  have HB0 : Hid (Below (w.alloc (.cells #[.slice a n c, .int .u8 p] 46)).heap.size (w.alloc (.cells #[.slice a n c, .int .u8 p] 46)) (w.alloc (.cells #[.slice a n c, .int .u8 p] 46))) := Below.refl _ _
  clear hbA
  go_enter Try.func23, Try.ntmps23
  go_wp2_with fail
  obtain ⟨wA, hwA⟩ : ∃ x, w.alloc (.cells #[.slice a n c, .int .u8 p] 46) = x := ⟨_, rfl⟩
  rw [hwA] at HB HC HS0 HB0
  rw [hwA]
  clear hwA
  go_loopw [3, 13] (fun l i wr => ∃ (j : Nat) (lt : Bool), j ≤ n ∧ l = .bool lt ∧ i = .int .i64 j ∧ Hid (Below wA.heap.size wA wr ∧ rtC es p = rtG lt j (es.drop j) p)) (fun _ i _ => n - (intOf i).toNat)
  case atStart => exact ⟨0, false, Nat.zero_le _, rfl, rfl, HB0.out, HR.out⟩
  case round =>
    obtain ⟨j, lt, hj, rfl, rfl, hst⟩ := hrel
    rename World => wr
    clear HB0 HR
    by_cases hlt : j < n
    · have hlt' : (j : Int) < (n : Int) := by omega
      obtain ⟨x, hx⟩ : ∃ x, es[j]? = some x := ⟨_, List.getElem?_eq_getElem (by rw [HL.out]; exact hlt)⟩
      have hxm := List.mem_of_getElem? hx
      have hok := (HC.out.below hst.out.1).ok x hxm
      have hfw := HC.out.few x hxm
      obtain ⟨b, o, rfl, hcl⟩ := (HC.out.below hst.out.1).cells (by intro e; rw [e] at hx; simp at hx)
      obtain ⟨hc0, hc1⟩ := hcl j x hx
      have hdr : es.drop j = x :: es.drop (j + 1) := by
        have hlen : j < es.length := by rw [HL.out]; exact hlt
        rw [List.drop_eq_getElem_cons hlen]
        rw [List.getElem?_eq_getElem hlen] at hx
        rw [Option.some.inj hx]
      have HX := Lib.hid hok
      have hcn : n ≤ c := HC.out.cap
      have hkd := hok.kind
      have hB1 : Below wA.heap.size wA wr := hst.out.1
      have HBN : Hid (Below wA.heap.size wA (wr.alloc (.cells #[.int .u8 x.k, .slice x.a x.n x.c] 71))) := hB1.alloc hB1.size _
      have HXN : Hid (x.ok (wr.alloc (.cells #[.int .u8 x.k, .slice x.a x.n x.c] 71))) := hok.below ((Below.refl _ _).alloc (Nat.le_refl _) _)
      have hx0 : ∀ wz : World, Below (wr.alloc (.cells #[.int .u8 x.k, .slice x.a x.n x.c] 71)).heap.size (wr.alloc (.cells #[.int .u8 x.k, .slice x.a x.n x.c] 71)) wz → wz.cell? ⟨wr.heap.size, 0, none⟩ = some (.int .u8 x.k) ∧ wz.cell? ⟨wr.heap.size, 1, none⟩ = some (.slice x.a x.n x.c) := fun wz hb =>
        ⟨cell_kept hb (World.cell?_alloc_new _ _ _ _), cell_kept hb (World.cell?_alloc_new _ _ _ _)⟩
      have HX0 := Lib.hid hx0
      have HST : Hid (rtC es p = rtG lt j (x :: es.drop (j + 1)) p) := by show _ = _; rw [hst.out.2, hdr]
      clear hx0 hB1 hok hst hdr hcl hx hxm
      cases lt with
      | true =>
        have HF : Hid (rtC es p = false) := by show _ = _; rw [HST.out]; rfl
        go_wp2_with fail
        go_ret
        exact ⟨by rw [HF.out]; rfl, HB.out.trans (HBN.out.mono HB.out.size)⟩
      | false =>
        go_wp2_with fail
        refine (sxExtRight_any x _ HXN.out hfw).mono ?_
        rintro e w1 ⟨rfl, hb1⟩
        have HB1 : Hid (Below wA.heap.size wA w1) := HBN.out.trans (hb1.mono HBN.out.size)
        obtain ⟨hk0, hk1⟩ := HX0.out w1 hb1
        have HX1 := Lib.hid (HXN.out.below hb1)
        clear hb1 hc0 hc1
        cases hrt : rtE x.k x.xs with
        | false =>
          have HF : Hid (rtC es p = false) := by show _ = _; rw [HST.out]; simp [rtG, hrt]
          clear hrt
          go_wp2_with fail
          go_ret
          exact ⟨by rw [HF.out]; rfl, HB.out.trans (HB1.out.mono HB.out.size)⟩
        | true =>
          have HRT := Lib.hid hrt
          clear hrt
          by_cases hz : x.k = 0
          · have hzb : (x.k == 0) = true := by simpa using hz
            have HZ := Lib.hid hz
            clear hz
            by_cases hj0 : 0 < j
            · have hj0' : 0 < (j : Int) := by omega
              have HF : Hid (rtC es p = false) := by show _ = _; rw [HST.out]; simp [rtG, HZ.out, hj0]
              go_wp2_with fail
              go_ret
              exact ⟨by rw [HF.out]; rfl, HB.out.trans (HB1.out.mono HB.out.size)⟩
            · obtain rfl : j = 0 := by omega
              have HN : Hid (rtC es p = rtG (ltE x.k x.xs) (0 + 1) (es.drop (0 + 1)) p) := by show _ = _; rw [HST.out]; simp [rtG, HRT.out]
              go_wp2_with fail
              refine (sxLater_any x _ HX1.out hfw).mono ?_
              rintro e w2 ⟨rfl, hb2⟩
              have HB2 : Hid (Below wA.heap.size wA w2) := HB1.out.trans (hb2.mono HB1.out.size)
              clear hb2
              go_wp2_with fail
              go_roundw
              case rel => exact ⟨0 + 1, ltE x.k x.xs, by omega, rfl, by go_num, HB2.out, HN.out⟩
              case measure => simp [intOf]; omega
          · have hzb : (x.k == 0) = false := by simpa using hz
            have HN : Hid (rtC es p = rtG (ltE x.k x.xs) (j + 1) (es.drop (j + 1)) p) := by show _ = _; rw [HST.out]; simp [rtG, HRT.out, hz]
            go_wp2_with fail
            refine (sxLater_any x _ HX1.out hfw).mono ?_
            rintro e w2 ⟨rfl, hb2⟩
            have HB2 : Hid (Below wA.heap.size wA w2) := HB1.out.trans (hb2.mono HB1.out.size)
            clear hb2
            go_wp2_with fail
            go_roundw
            case rel => exact ⟨j + 1, ltE x.k x.xs, by omega, rfl, by go_num, HB2.out, HN.out⟩
            case measure => simp [intOf]; omega
    · obtain rfl : j = n := by omega
      have HE : Hid (rtC es p = (lt || !knd p)) := by show _ = _; rw [hst.out.2, List.drop_eq_nil_of_le (by rw [HL.out]; exact Nat.le_refl _)]; rfl
      obtain ⟨hp1, hp0⟩ := HS0.out wr hst.out.1
      have HBR : Hid (Below wA.heap.size wA wr) := hst.out.1
      clear hst
      cases lt with
      | true =>
        go_wp2_with fail
        go_ret
        exact ⟨by rw [HE.out]; rfl, HB.out.trans (HBR.out.mono HB.out.size)⟩
      | false =>
        go_wp2_with fail
        refine (sxIsKind_any p _ p0 p1).mono ?_
        rintro e w1 ⟨rfl, rfl⟩
        go_wp2_with fail
        go_ret
        exact ⟨by rw [HE.out]; rfl, HB.out.trans (HBR.out.mono HB.out.size)⟩
end Go.Proofs.Ythipnkaghddbhaa

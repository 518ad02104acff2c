/-
  Chains as the document has them, and the contract of its own Right of layer 6. Conditions: bytes in each text, fewer than a million million.
-/
import Derived.Test.YthipnkaghddbhaaSxRight
namespace Go.Proofs.Ythipnkaghddbhaa
open Go.RowKit

/-- A header behind as the document has it: its kind, and its data's bytes. -/
structure ChR (w : World) (a : Option Addr) (n c : Nat) (es : List (Int × List Int)) : Prop where
  len : es.length = n
  cap : n ≤ c
  max : c ≤ maxLen
  cells : es ≠ [] → ∃ b o, a = some ⟨b, o, none⟩ ∧ ∀ (i : Nat) (x : Int × List Int), es[i]? = some x → w.cell? ⟨b, o + i * 2, none⟩ = some (.int .u8 x.1) ∧ w.cell? ⟨b, o + i * 2 + 1, none⟩ = some (.string (str x.2))
  ok : ∀ x ∈ es, (0 ≤ x.1 ∧ x.1 < 256) ∧ Byt x.2 ∧ x.2.length ≤ 1099511627776
theorem ChR.below {w w' : World} {a : Option Addr} {n c : Nat} {es : List (Int × List Int)} (h : ChR w a n c es) (hb : Below w.heap.size w w') : ChR w' a n c es :=
  ⟨h.len, h.cap, h.max, fun e => by
    obtain ⟨b, o, e1, hc⟩ := h.cells e
    exact ⟨b, o, e1, fun i x hx => ⟨cell_kept hb (hc i x hx).1, cell_kept hb (hc i x hx).2⟩⟩, h.ok⟩
def rtH : Bool → Nat → List (Int × List Int) → Int → Bool
  | l, _, [], p => l || !knd p
  | l, i, x :: es, p => !(l || (!rtE x.1 x.2 || (decide (x.1 = 0) && decide (0 < i)))) && rtH (ltE x.1 x.2) (i + 1) es p
def rtR (es : List (Int × List Int)) (p : Int) : Bool := decide (es.length ≤ 16) && rtH false 0 es p
def Ex.two (x : Ex) : Int × List Int := (x.k, x.xs)
theorem rtH_map (es : List Ex) (p : Int) : ∀ (l : Bool) (i : Nat), rtH l i (es.map Ex.two) p = rtG l i es p := by
  induction es with
  | nil => intro l i; rfl
  | cons x es ih => intro l i; simp only [List.map_cons, rtH, rtG, ih]; rfl
theorem rtR_map (es : List Ex) (p : Int) : rtR (es.map Ex.two) p = rtC es p := by
  unfold rtR rtC; rw [rtH_map, List.length_map]

set_option maxRecDepth 100000 in
set_option maxHeartbeats 2000000 in
theorem r6Right_any (a : Option Addr) (n c : Nat) (es : List (Int × List Int)) (p : Int) (w : World) (h : ChR w a n c es) (p0 : 0 ≤ p) (p1 : p < 256) :
    Calls Try.prog 24 #[.agg #[.slice a n c, .int .u8 p]] w (Gives w (.bool (rtR es p))) := by
  have hbA : Below w.heap.size w (w.alloc (.cells #[.slice a n c, .int .u8 p] 50)) := (Below.refl _ _).alloc (Nat.le_refl _) _
  have HB := Lib.hid hbA
  have HC := Lib.hid (h.below hbA)
  have hnm : n ≤ 9223372036854775807 := by have h1 := h.cap; have h2 := h.max; unfold maxLen at h2; omega
  have HL := Lib.hid h.len
  clear h
  by_cases h16 : 16 < n
  · have HR : Hid (rtR es p = false) := by show _ = _; rw [rtR, HL.out, decide_eq_false (by omega)]; rfl
    clear hbA
    go_enter Try.func24, Try.ntmps24
    go_wp2_with fail
    go_ret
    exact ⟨by rw [HR.out]; rfl, HB.out⟩
  have HR : Hid (rtR es p = rtH false 0 (es.drop 0) p) := by show _ = _; rw [rtR, HL.out, decide_eq_true (by omega)]; rfl
  have HS0 : Hid (∀ wr : World, Below (w.alloc (.cells #[.slice a n c, .int .u8 p] 50)).heap.size (w.alloc (.cells #[.slice a n c, .int .u8 p] 50)) wr → wr.cell? ⟨w.heap.size, 1, none⟩ = some (.int .u8 p) ∧ wr.cell? ⟨w.heap.size, 0, none⟩ = some (.slice a n c)) := fun wr hb =>
    ⟨cell_kept hb (World.cell?_alloc_new _ _ _ _), cell_kept hb (World.cell?_alloc_new _ _ _ _)⟩
  have HB0 : Hid (Below (w.alloc (.cells #[.slice a n c, .int .u8 p] 50)).heap.size (w.alloc (.cells #[.slice a n c, .int .u8 p] 50)) (w.alloc (.cells #[.slice a n c, .int .u8 p] 50))) := Below.refl _ _
  clear hbA
  go_enter Try.func24, Try.ntmps24
  go_wp2_with fail
  obtain ⟨wA, hwA⟩ : ∃ x, w.alloc (.cells #[.slice a n c, .int .u8 p] 50) = x := ⟨_, rfl⟩
  rw [hwA] at HB HC HS0 HB0
  rw [hwA]
  clear hwA
  go_loopw [3, 4] (fun l i wr => ∃ (j : Nat) (lt : Bool), j ≤ n ∧ l = .bool lt ∧ i = .int .i64 j ∧ Hid (Below wA.heap.size wA wr ∧ rtR es p = rtH lt j (es.drop j) p)) (fun _ i _ => n - (intOf i).toNat)
  case atStart => exact ⟨0, false, Nat.zero_le _, rfl, rfl, HB0.out, HR.out⟩
  case round =>
    obtain ⟨j, lt, hj, rfl, rfl, hst⟩ := hrel
    rename World => wr
    clear HB0 HR
    obtain ⟨hp1, hp0⟩ := HS0.out wr hst.out.1
    by_cases hlt : j < n
    · have hlt' : (j : Int) < (n : Int) := by omega
      obtain ⟨⟨xk, xd⟩, hx⟩ : ∃ x, es[j]? = some x := ⟨_, List.getElem?_eq_getElem (by rw [HL.out]; exact hlt)⟩
      have hxm := List.mem_of_getElem? hx
      obtain ⟨⟨k0, k1⟩, hxb, hfw⟩ := HC.out.ok _ hxm
      obtain ⟨b, o, rfl, hcl⟩ := (HC.out.below hst.out.1).cells (by intro e; rw [e] at hx; simp at hx)
      obtain ⟨hc0, hc1⟩ := hcl j _ hx
      have hdr : es.drop j = (xk, xd) :: es.drop (j + 1) := by
        have hlen : j < es.length := by rw [HL.out]; exact hlt
        rw [List.drop_eq_getElem_cons hlen]
        rw [List.getElem?_eq_getElem hlen] at hx
        rw [Option.some.inj hx]
      have hcn : n ≤ c := HC.out.cap
      have hB1 : Below wA.heap.size wA wr := hst.out.1
      have HBN : Hid (Below wA.heap.size wA (wr.alloc (.cells #[.int .u8 xk, .string (str xd)] 87))) := hB1.alloc hB1.size _
      have hx0 : ∀ wz : World, Below (wr.alloc (.cells #[.int .u8 xk, .string (str xd)] 87)).heap.size (wr.alloc (.cells #[.int .u8 xk, .string (str xd)] 87)) wz → wz.cell? ⟨wr.heap.size, 0, none⟩ = some (.int .u8 xk) ∧ wz.cell? ⟨wr.heap.size, 1, none⟩ = some (.string (str xd)) := fun wz hb =>
        ⟨cell_kept hb (World.cell?_alloc_new _ _ _ _), cell_kept hb (World.cell?_alloc_new _ _ _ _)⟩
      have HX0 := Lib.hid hx0
      have HST : Hid (rtR es p = rtH lt j ((xk, xd) :: es.drop (j + 1)) p) := by show _ = _; rw [hst.out.2, hdr]
      have HXB := Lib.hid hxb
      have hc0' : wr.cell? ⟨b, o + j * 2, none⟩ = some (.int .u8 xk) := hc0
      have hc1' : wr.cell? ⟨b, o + j * 2 + 1, none⟩ = some (.string (str xd)) := hc1
      have hfw' : xd.length ≤ 1099511627776 := hfw
      have HK : Hid (0 ≤ xk ∧ xk < 256) := ⟨k0, k1⟩
      clear hx0 hB1 hst hdr hcl hx hxm hxb hc0 hc1 hfw k0 k1
      go_wp2_with fail
      refine (r6rightExt_any xk xd _ HK.out.1 HK.out.2 HXB.out hfw').mono ?_
      rintro e w1 ⟨rfl, hb1⟩
      have HB1 : Hid (Below wA.heap.size wA w1) := HBN.out.trans (hb1.mono HBN.out.size)
      obtain ⟨hk0, hk1⟩ := HX0.out w1 hb1
      clear hb1 hc0' hc1'
      cases hrt : rtE xk xd with
      | false =>
        have HF : Hid (rtR es p = false) := by show _ = _; rw [HST.out]; simp [rtH, hrt]
        clear hrt
        go_wp2_with fail
        go_ret
        exact ⟨by rw [HF.out]; rfl, HB.out.trans (HB1.out.mono HB.out.size)⟩
      | true =>
        have HRT := Lib.hid hrt
        clear hrt
        by_cases hzj : xk = 0 ∧ 0 < j
        · have hzb : (xk == 0) = true := by simpa using hzj.1
          have hj0' : 0 < (j : Int) := by omega
          have HF : Hid (rtR es p = false) := by show _ = _; rw [HST.out]; simp [rtH, hzj.1, hzj.2]
          clear hzj
          go_wp2_with fail
          go_ret
          exact ⟨by rw [HF.out]; rfl, HB.out.trans (HB1.out.mono HB.out.size)⟩
        · have hN : lt = false → rtR es p = rtH (ltE xk xd) (j + 1) (es.drop (j + 1)) p := by
            intro e
            rw [HST.out, e]
            rcases Classical.em (xk = 0) with hz | hz
            · have h0 : ¬ 0 < j := fun q => hzj ⟨hz, q⟩
              simp [rtH, HRT.out, h0]
            · simp [rtH, HRT.out, hz]
          have hT : lt = true → rtR es p = false := by
            intro e
            rw [HST.out, e]
            rfl
          have HN := Lib.hid hN
          have HTT := Lib.hid hT
          clear hN hT
          by_cases hz : xk = 0
          · have hzb : (xk == 0) = true := by simpa using hz
            have hj0 : ¬ 0 < (j : Int) := fun q => hzj ⟨hz, by omega⟩
            clear hzj hz
            cases lt with
            | true =>
              have HF := Lib.hid (HTT.out rfl)
              go_wp2_with fail
              go_ret
              exact ⟨by rw [HF.out]; rfl, HB.out.trans (HB1.out.mono HB.out.size)⟩
            | false =>
              have HF := Lib.hid (HN.out rfl)
              go_wp2_with fail
              refine (r6later_any xk xd _ HK.out.1 HK.out.2 HXB.out hfw').mono ?_
              rintro e w2 ⟨rfl, hb2⟩
              have HB2 : Hid (Below wA.heap.size wA w2) := HB1.out.trans (hb2.mono HB1.out.size)
              clear hb2
              go_wp2_with fail
              go_roundw
              case rel => exact ⟨j + 1, ltE xk xd, by omega, rfl, by go_num, HB2.out, HF.out⟩
              case measure => simp [intOf]; omega
          · have hzb : (xk == 0) = false := by simpa using hz
            clear hzj
            cases lt with
            | true =>
              have HF := Lib.hid (HTT.out rfl)
              go_wp2_with fail
              go_ret
              exact ⟨by rw [HF.out]; rfl, HB.out.trans (HB1.out.mono HB.out.size)⟩
            | false =>
              have HF := Lib.hid (HN.out rfl)
              go_wp2_with fail
              refine (r6later_any xk xd _ HK.out.1 HK.out.2 HXB.out hfw').mono ?_
              rintro e w2 ⟨rfl, hb2⟩
              have HB2 : Hid (Below wA.heap.size wA w2) := HB1.out.trans (hb2.mono HB1.out.size)
              clear hb2
              go_wp2_with fail
              go_roundw
              case rel => exact ⟨j + 1, ltE xk xd, by omega, rfl, by go_num, HB2.out, HF.out⟩
              case measure => simp [intOf]; omega
    · obtain rfl : j = n := by omega
      have HE : Hid (rtR es p = (lt || !knd p)) := by show _ = _; rw [hst.out.2, List.drop_eq_nil_of_le (by rw [HL.out]; exact Nat.le_refl _)]; rfl
      have HBR : Hid (Below wA.heap.size wA wr) := hst.out.1
      clear hst
      cases lt with
      | true =>
        go_wp2_with fail
        go_ret
        exact ⟨by rw [HE.out]; rfl, HB.out.trans (HBR.out.mono HB.out.size)⟩
      | false =>
        go_wp2_with fail
        refine (r6kind_any p _ p0 p1).mono ?_
        rintro e w1 ⟨rfl, rfl⟩
        go_wp2_with fail
        go_ret
        exact ⟨by rw [HE.out]; rfl, HB.out.trans (HBR.out.mono HB.out.size)⟩
end Go.Proofs.Ythipnkaghddbhaa

/-
  The contract of the document's own PutChain for layer 6. Conditions: a chain that lies in memory.
-/
import Derived.Test.YthipnkaghddbhaaSxRFrag
namespace Go.Proofs.Ythipnkaghddbhaa
open Go.RowKit

/-- How headers behind stand, from the last one on, and what comes first. -/
def sfB : List (Int × List Int) → Int → List Int × Int
  | [], p => ([], p)
  | x :: es, p => ([(sfB es p).2, IntKind.u8.wrap (((x.2.length : Int) + 2) / 8 - 1)] ++ x.2 ++ (sfB es p).1, x.1)
theorem sfB_len {es : List (Int × List Int)} {p : Int} (h : ∀ x ∈ es, x.2.length ≤ 2046) : (sfB es p).1.length ≤ es.length * 2048 := by
  induction es with
  | nil => simp [sfB]
  | cons x es ih =>
    have h1 := ih (fun y hy => h y (List.mem_cons_of_mem _ hy))
    have h2 := h x (List.mem_cons_self)
    simp only [sfB, List.length_append, List.length_cons, List.length_nil]
    rw [Nat.add_mul]
    omega
theorem sfB_kind {es : List (Int × List Int)} {p : Int} (h : ∀ x ∈ es, 0 ≤ x.1 ∧ x.1 < 256) (p0 : 0 ≤ p) (p1 : p < 256) : 0 ≤ (sfB es p).2 ∧ (sfB es p).2 < 256 := by
  cases es with
  | nil => exact ⟨p0, p1⟩
  | cons x es => exact h x (List.mem_cons_self)
theorem drop_snoc {α : Type} (es : List α) (j : Nat) (x : α) (h : es[j]? = some x) : es.drop j = x :: es.drop (j + 1) := by
  have hlen : j < es.length := (List.getElem?_eq_some_iff.1 h).1
  rw [List.drop_eq_getElem_cons hlen]
  rw [List.getElem?_eq_getElem hlen] at h
  rw [Option.some.inj h]
/-- What the document's PutChain answers. -/
def RPutCH (w : World) (es : List (Int × List Int)) (p : Int) (e : Ending) (w' : World) : Prop :=
  Below w.heap.size w w' ∧ ((rtR es p = true ∧ ∃ a n cap, e = .returned (.tuple #[.slice a n cap, .int .u8 (sfB es p).2, .int .i64 0]) ∧ Own w' w.heap.size a n cap (sfB es p).1) ∨
    (rtR es p = false ∧ e = .returned (.tuple #[.slice none 0 0, .int .u8 0, .int .i64 60])))

set_option maxRecDepth 100000 in
set_option maxHeartbeats 4000000 in
theorem r6PutChain_any (a : Option Addr) (n c : Nat) (es : List (Int × List Int)) (p : Int) (w : World) (h : ChR w a n c es) (p0 : 0 ≤ p) (p1 : p < 256) :
    Calls Try.prog 20 #[.agg #[.slice a n c, .int .u8 p]] w (RPutCH w es p) := by
  have HX := Lib.hid h
  have HL := Lib.hid h.len
  have hnm : n ≤ 9223372036854775807 := by have h1 := h.cap; have h2 := h.max; unfold maxLen at h2; omega
  have hcn : n ≤ c := h.cap
  obtain ⟨wA, hwA⟩ : ∃ x, w.alloc (.cells #[.slice a n c, .int .u8 p] 50) = x := ⟨_, rfl⟩
  have hbA : Below w.heap.size w wA := by rw [← hwA]; exact (Below.refl _ _).alloc (Nat.le_refl _) _
  have hA0 : wA.cell? ⟨w.heap.size, 0, none⟩ = some (.slice a n c) := by rw [← hwA]; exact World.cell?_alloc_new _ _ _ _
  have hA1 : wA.cell? ⟨w.heap.size, 1, none⟩ = some (.int .u8 p) := by rw [← hwA]; exact World.cell?_alloc_new _ _ _ _
  have HB := Lib.hid hbA
  have HA := Lib.hid (And.intro hA0 hA1)
  have HW := Lib.hid hwA
  clear h hbA hwA
  cases hrt : rtR es p with
  | false =>
    have HR := Lib.hid hrt
    clear hrt
    go_enter Try.func20, Try.ntmps20
    go_upto_region 1 with fail
    rw [HW.out]
    go_wp2_with fail
    refine (r6Right_any a n c es p _ (HX.out.below HB.out) p0 p1).mono ?_
    rintro e w1 ⟨rfl, hb1⟩
    have HB1 := Lib.hid (HB.out.trans (hb1.mono HB.out.size))
    clear hb1
    rw [HR.out]
    go_wp2_with fail
    go_ret3
    exact ⟨HB1.out, .inr ⟨HR.out, rfl⟩⟩
  | true =>
    have HR := Lib.hid hrt
    obtain ⟨h16, hall⟩ := rtR_all hrt
    rw [HL.out] at h16
    have HALL : Hid (∀ x ∈ es, x.2.length ≤ 2046) := fun x hx => rtE_few (hall x hx)
    have HKD : Hid (∀ x ∈ es, 0 ≤ x.1 ∧ x.1 < 256) := fun x hx => (HX.out.ok x hx).1
    clear hrt hall
    go_enter Try.func20, Try.ntmps20
    go_upto_region 1 with fail
    rw [HW.out]
    go_wp2_with fail
    refine (r6Right_any a n c es p _ (HX.out.below HB.out) p0 p1).mono ?_
    rintro e w1 ⟨rfl, hb1⟩
    have HB1 := Lib.hid (HB.out.trans (hb1.mono HB.out.size))
    have hz0 := cell_kept hb1 HA.out.1
    have hz1 := cell_kept hb1 HA.out.2
    have HZ := Lib.hid (And.intro hz0 hz1)
    have HWS : Hid (w.heap.size < w1.heap.size) := by have h1 := hb1.size; have h2 : wA.heap.size = w.heap.size + 1 := by rw [← HW.out]; simp
                                                      show _ < _; omega
    clear hb1 hA0 hA1
    rw [HR.out]
    have HST0 : Hid (∃ b m d, (Value.slice none 0 0 : Value) = .slice b m d ∧ RS w1 b m d (sfB (es.drop n) p).1 w1) := ⟨none, 0, 0, rfl, by rw [List.drop_eq_nil_of_le (by rw [HL.out]; exact Nat.le_refl _)]; exact ⟨Own.nil _ _, Below.refl _ _⟩⟩
    have HP0 : Hid ((sfB (es.drop n) p).2 = p) := by show _ = _; rw [List.drop_eq_nil_of_le (by rw [HL.out]; exact Nat.le_refl _)]; rfl
    go_wp2_with fail
    clear hz0 hz1
    go_loopw [5, 6, 7] (fun out f i wr => ∃ (j : Nat) (F : Int), j ≤ n ∧ i = .int .i64 ((j : Int) - 1) ∧ f = .int .u8 F ∧ 0 ≤ F ∧ F < 256 ∧ Hid ((sfB (es.drop j) p).2 = F ∧ ∃ b m d, out = .slice b m d ∧ RS w1 b m d (sfB (es.drop j) p).1 wr)) (fun _ _ i _ => (intOf i + 1).toNat)
    case atStart => exact ⟨n, p, Nat.le_refl _, rfl, rfl, p0, p1, HP0.out, HST0.out⟩
    case round =>
      obtain ⟨j, F, hj, rfl, rfl, F0, F1, hst⟩ := hrel
      rename World => wr
      clear HST0 HP0
      obtain ⟨hF, b5, m5, d5, rfl, hrs⟩ := hst.out
      have HRS := Lib.hid hrs
      have HF := Lib.hid hF
      have hz0 := cell_kept hrs.below HZ.out.1
      have hz1 := cell_kept hrs.below HZ.out.2
      clear hst hF hrs
      rcases Nat.eq_zero_or_pos j with rfl | hpos
      · have hlt0 : ¬ (0 : Int) ≤ ((0 : Nat) : Int) - 1 := by omega
        have HO : Hid (Own wr w.heap.size b5 m5 d5 (sfB es p).1 ∧ (sfB es p).2 = F) := ⟨HRS.out.own.mono (by have := HWS.out; omega), HF.out⟩
        have HBF := Lib.hid (HB1.out.trans (HRS.out.below.mono HB1.out.size))
        go_wp2_with fail
        go_ret3
        exact ⟨HBF.out, .inl ⟨HR.out, b5, m5, d5, by rw [HO.out.2]; rfl, HO.out.1⟩⟩
      · obtain ⟨i, rfl⟩ : ∃ i, j = i + 1 := ⟨j - 1, by omega⟩
        obtain ⟨⟨k, xs⟩, hx⟩ : ∃ x, es[i]? = some x := ⟨_, List.getElem?_eq_getElem (by rw [HL.out]; omega)⟩
        obtain ⟨b, o, rfl, _, hcl⟩ := HX.out.nth hx
        have hbr : Below w.heap.size w wr := HB1.out.trans (HRS.out.below.mono HB1.out.size)
        obtain ⟨hy0, hy1⟩ := hcl wr hbr
        have hxm := List.mem_of_getElem? hx
        obtain ⟨k0, k1⟩ := HKD.out _ hxm
        have hlx : xs.length ≤ 2046 := HALL.out _ hxm
        have hbx := (HX.out.ok _ hxm).2.1
        have HSF : Hid (sfB (es.drop i) p = ([F, IntKind.u8.wrap (((xs.length : Int) + 2) / 8 - 1)] ++ xs ++ (sfB (es.drop (i + 1)) p).1, k)) := by show _ = _; rw [drop_snoc es i _ hx, sfB, HF.out]
        have HLB := Lib.hid (sfB_len (p := p) (es := es.drop (i + 1)) (fun y hy => HALL.out y (List.mem_of_mem_drop hy)))
        have hlb : (sfB (es.drop (i + 1)) p).1.length ≤ 40000 := by have h1 := HLB.out; rw [List.length_drop, HL.out] at h1; omega
        have hsz : (str xs).size = xs.length := str_size xs
        have hq1 : ((xs.length : Int) + 2) / 8 ≤ 300 := by omega
        obtain ⟨SC, hSC⟩ : ∃ v, IntKind.u8.wrap (((xs.length : Int) + 2) / 8 - 1) = v := ⟨_, rfl⟩
        rw [hSC] at HSF
        obtain ⟨wx, hwx⟩ : ∃ y, wr.alloc (.cells #[.int .u8 k, .string (str xs)] 87) = y := ⟨_, rfl⟩
        have hbX : Below wr.heap.size wr wx := by rw [← hwx]; exact (Below.refl _ _).alloc (Nat.le_refl _) _
        have hsX : wx.heap.size = wr.heap.size + 1 := by rw [← hwx]; simp
        have hX0 : wx.cell? ⟨wr.heap.size, 0, none⟩ = some (.int .u8 k) := by rw [← hwx]; exact World.cell?_alloc_new _ _ _ _
        have hX1 : wx.cell? ⟨wr.heap.size, 1, none⟩ = some (.string (str xs)) := by rw [← hwx]; exact World.cell?_alloc_new _ _ _ _
        obtain ⟨wy, hwy⟩ : ∃ y, wx.alloc (.cells #[.int .u8 F, .int .u8 SC] 5) = y := ⟨_, rfl⟩
        have hbY : Below wx.heap.size wx wy := by rw [← hwy]; exact (Below.refl _ _).alloc (Nat.le_refl _) _
        have hrY : RS wx (some ⟨wx.heap.size, 0, none⟩) 2 2 [F, SC] wy := by
          rw [← hwy]
          exact ⟨Own.lit wx wx.heap.size [F, SC] 2 rfl (by simp only [maxLen]; omega) (Nat.le_refl _), (Below.refl _ _).alloc (Nat.le_refl _) _⟩
        obtain ⟨cz, wz, hcv, hrz, hbz⟩ := run_bytes_str wy xs hbx
        obtain ⟨a7, n7, c7, w7, hrun7, hr7⟩ := (hrY.step hbz).app cz (m := xs.length) rfl hrz (by omega)
        have hro : Rd w7 b5 (sfB (es.drop (i + 1)) p).1 := (HRS.out.own.rd.below hbX).below hr7.below
        obtain ⟨a8, n8, c8, w8, hrun8, hr8⟩ := hr7.app d5 (m := m5) HRS.out.own.len hro (by have h1 := hr7.own.len; have h2 := HRS.out.own.len; simp at h1; omega)
        have HR8 : Hid (RS w1 a8 n8 c8 (sfB (es.drop i) p).1 w8) := by
          show RS _ _ _ _ _ _
          rw [HSF.out]
          have h1 := HRS.out.below
          have h2 : Below w1.heap.size w1 wx := h1.trans (hbX.mono h1.size)
          exact ⟨hr8.own.mono h2.size, h2.trans (hr8.below.mono h2.size)⟩
        have HK8 : Hid ((sfB (es.drop i) p).2 = k) := by show _ = _; rw [HSF.out]
        have HRUN7 := Lib.hid hrun7
        have HRUN8 := Lib.hid hrun8
        have hY1 := cell_kept hbY hX1
        have h80 := cell_kept hr8.below hX0
        have HWX := Lib.hid hwx
        obtain ⟨S, hS⟩ : ∃ y, str xs = y := ⟨_, rfl⟩
        obtain ⟨L, hL⟩ : ∃ y, xs.length = y := ⟨_, rfl⟩
        rw [hS] at hy1 hsz hX1 hY1 hcv HWX hwx
        rw [hL] at hsz hq1 hSC hcv hlx HRUN7
        have hi1 : ((i + 1 : Nat) : Int) - 1 = (i : Int) := by omega
        have HI1 := Lib.hid hi1
        clear hcl hx hxm hbx hlb hbX hsX hbY hrY hrz hbz hrun7 hr7 hro hrun8 hr8 hS hL hbr hX0 hwx hi1
        rw [HI1.out]
        go_upto_region 9 with fail
        rw [HWX.out]
        clear HWX hy0 hy1 hz0 hz1
        go_wp2_with (first
          | (at_builtin; refine Lib.wpList_append_run _ rfl (.tmp 37) (.tmp 40) _ _ rfl _ _ rfl rfl _ _ HRUN7.out ?_)
          | (at_builtin; refine Lib.wpList_append_run _ rfl (.tmp 42) (.tmp 43) _ _ rfl _ _ rfl rfl _ _ HRUN8.out ?_))
        go_roundw
        case rel => exact ⟨i, k, by omega, rfl, rfl, k0, k1, HK8.out, a8, n8, c8, rfl, HR8.out⟩
        case measure => simp [intOf]
end Go.Proofs.Ythipnkaghddbhaa

/-
  SumTells: whatever rows and numbers come in, the statement's function answers true, and what came in reads afterwards as before. No conditions.
-/
import Derived.Test.YtpbopghnoinlbaaSumWorks
namespace Go.Proofs.Ytpbopghnoinlbaa
open Go.ChangeShapes Go.WideShapes Go.ChangeAt Go.RowKit

theorem Own.below {w w' : World} {base : Nat} {a : Option Addr} {n cap : Nat} {xs : List Int} (h : Own w base a n cap xs) (hb : Below w.heap.size w w') : Own w' base a n cap xs :=
  h.keep (S := fun _ => False) (Kept.of_below hb (fun i hi hi' => by omega)) (fun _ _ => id)
theorem Sm.below {w w' : World} {g : Nat} {f : Int} {c : Nat} (h : Sm w g f c) (hb : Below w.heap.size w w') : Sm w' g f c :=
  h.keep (S := fun _ => False) (Kept.of_below hb (fun i hi hi' => by omega)) id
/-- Few rows, and short ones. -/
def Short (l : List Row) : Prop := l.length ≤ 20 ∧ ∀ r ∈ l, r.n ≤ 300
/-- What joined answers. -/
def Joined (w : World) (l : List Row) (e : Ending) (w' : World) : Prop :=
  Below w.heap.size w w' ∧ ((Short l ∧ ∃ a m cap, e = .returned (.tuple #[.slice a m cap, .bool true]) ∧ Own w' w.heap.size a m cap (cat l)) ∨
    (¬ Short l ∧ e = .returned (.tuple #[.slice none 0 0, .bool false])))

set_option maxHeartbeats 1000000 in
theorem joined_any (a : Option Addr) (n cap : Nat) (l : List Row) (w : World) (hn : l.length = n) (hr : RdR w a l) (hl : n ≤ 9223372036854775807) :
    Calls Try.prog 7 #[.slice a n cap] w (Joined w l) := by
  have HN := Lib.hid hn
  have HR := Lib.hid hr
  clear hn hr
  go_enter Try.func7, Try.ntmps7
  go_wp2_with fail
  go_loopw [4, 5] (fun s i wr => ∃ (k : Nat) (a' : Option Addr) (m cap' : Nat), k ≤ n ∧ k ≤ 20 ∧ m ≤ 300 * k ∧ i = .int .i64 k ∧ s = .slice a' m cap' ∧ Hid (∀ r ∈ l.take k, r.n ≤ 300) ∧ Hid (Own wr w.heap.size a' m cap' (cat (l.take k))) ∧ Hid (Below w.heap.size w wr)) (fun _ i _ => n - (intOf i).toNat)
  case atStart => exact ⟨0, none, 0, 0, Nat.zero_le _, by omega, by omega, rfl, rfl, by simp [Hid], Own.nil _ _, Below.refl _ _⟩
  case round =>
    obtain ⟨k, a', m, cap', hk, hk2, hm, rfl, rfl, hsh, ho, hbl⟩ := hrel
    by_cases hlt : k < n
    · by_cases h20 : k = 20
      · subst h20
        have HF : Hid (¬ Short l) := fun h => by have := h.1; have := HN.out; omega
        go_wp2_with fail
        go_ret2
        exact ⟨hbl.out, .inr ⟨HF.out, rfl⟩⟩
      · have h20' : ((k : Int) == 20) = false := by simp; omega
        obtain ⟨b, o, rfl, hc⟩ := (HR.out.below hbl.out).cell (by intro e; have := HN.out; rw [e] at this; simp at this; omega)
        have hck := hc k (by rw [HN.out]; exact hlt)
        have HO := Lib.hid ((HR.out.below hbl.out).ok _ (mem_getD (l := l) (i := k) (by rw [HN.out]; exact hlt)))
        have HT := Lib.hid (cat_take (l := l) (k := k) (by rw [HN.out]; exact hlt))
        have HMEM := Lib.hid (mem_getD (l := l) (i := k) (by rw [HN.out]; exact hlt))
        have HTS : Hid (l.take (k + 1) = l.take k ++ [l.getD k Row.no]) := by
          show _ = _
          rw [List.take_succ_eq_append_getElem (by rw [HN.out]; exact hlt)]
          simp [List.getElem?_eq_getElem (show k < l.length by rw [HN.out]; exact hlt)]
        obtain ⟨r, hre⟩ : ∃ r, l.getD k Row.no = r := ⟨_, rfl⟩
        rw [hre] at hck HO HT HMEM HTS
        obtain ⟨ra, rn, rc, xs⟩ := r
        rw [Row.val] at hck
        clear hc hre
        simp only at hck
        by_cases h300 : 300 < rn
        · have HF : Hid (¬ Short l) := fun h => by have := h.2 _ HMEM.out; simp only at this; omega
          go_wp2_with fail
          go_ret2
          exact ⟨hbl.out, .inr ⟨HF.out, rfl⟩⟩
        · obtain ⟨a2, cap2, w2, hrun, hown, hg, hx⟩ := run_append_rd wr w.heap.size 24 ho.out rc HO.out.len HO.out.rd (show m + rn ≤ 140737488355328 by omega) hbl.out.size
          have HRN := Lib.hid hrun
          have HO2 : Hid (Own w2 w.heap.size a2 (m + rn) cap2 (cat (l.take (k + 1)))) := by rw [HT.out]; exact hown
          have HB2 : Hid (Below w.heap.size w w2) := hbl.out.grown hg hbl.out.size (fun k hk => (ho.out.blk_ge k hk).1)
          have HS2 : Hid (∀ r ∈ l.take (k + 1), r.n ≤ 300) := by
            intro r hr
            rw [HTS.out, List.mem_append] at hr
            rcases hr with hr | hr
            · exact hsh.out r hr
            · simp at hr; subst hr; show rn ≤ 300; omega
          clear hrun hown hg hx
          go_wp2_with (at_builtin; refine Lib.wpList_append_run _ rfl _ _ _ _ rfl _ _ rfl rfl _ _ HRN.out ?_)
          go_roundw
          case rel => exact ⟨k + 1, a2, m + rn, cap2, by omega, by omega, by omega, by go_num, rfl, HS2, HO2, HB2⟩
          case measure => simp [intOf]; omega
    · have HTA : Hid (l.take k = l) := List.take_of_length_le (by rw [HN.out]; omega)
      have HSH : Hid (Short l) := ⟨by rw [HN.out]; omega, by have := hsh.out; rwa [HTA.out] at this⟩
      have HOW : Hid (Own wr w.heap.size a' m cap' (cat l)) := by have := ho.out; rwa [HTA.out] at this
      go_wp2_with fail
      go_ret2
      exact ⟨hbl.out, .inl ⟨HSH.out, a', m, cap', rfl, HOW.out⟩⟩

set_option maxHeartbeats 4000000 in
theorem tells_any (a : Option Addr) (n cap : Nat) (l : List Row) (x y z : Int) (w : World) (hn : l.length = n) (hc : n ≤ cap) (hcm : cap ≤ maxLen) (hr : RdR w a l) (x0 : 0 ≤ x) (x1 : x ≤ 65535) (y0 : 0 ≤ y) (y1 : y ≤ 65535) (z0 : 0 ≤ z) (z1 : z ≤ 65535) :
    Calls Try.prog 3 #[.slice a n cap, .int .u16 x, .int .u16 y, .int .u16 z] w fun e w' => e = .returned (.bool true) ∧ Below w.heap.size w w' := by
  have HN := Lib.hid hn
  have HR := Lib.hid hr
  have hnm : n ≤ 9223372036854775807 := by unfold maxLen at hcm; omega
  clear hn hr hcm hc
  go_enter Try.func3, Try.ntmps3
  go_wp2_with fail
  refine (joined_any _ _ _ l _ HN.out HR.out hnm).mono ?_
  rintro e w1 ⟨hb, ⟨hsh, a1, m1, cap1, rfl, hown⟩ | ⟨hsh, rfl⟩⟩
  · have HB1 := Lib.hid hb
    have HSH := Lib.hid hsh
    have HO1 := Lib.hid hown
    have hn20 : n ≤ 20 := by have := hsh.1; rw [HN.out] at this; exact this
    have hm1 : m1 ≤ 6000 := by
      have h1 := cat_len HR.out.ok hsh.2
      have h2 := hown.len
      rw [HN.out] at h1
      have h3 : 300 * n ≤ 6000 := by omega
      omega
    have HM : Hid (∀ r ∈ l, r.n ≤ 1000) := fun r hr => by have := hsh.2 r hr; omega
    have HBY : Hid (Byt (cat l)) := cat_byt HR.out.ok
    clear hb hsh hown
    have HS0 : Hid (Sm (w1.alloc (.cells #[.int .u16 0, .int .i64 0] 29)) w1.heap.size 0 0) := Sm.new w1
    have HBA : Hid (Below w1.heap.size w1 (w1.alloc (.cells #[.int .u16 0, .int .i64 0] 29))) := (Below.refl _ _).alloc (Nat.le_refl _) _
    go_wp2_with fail
    go_loopw [13] (fun i wr => ∃ k : Nat, k ≤ n ∧ i = .int .i64 k ∧ Hid (Sm wr w1.heap.size (fld (ws 0 (cat (l.take k)))) (cat (l.take k)).length) ∧ Hid (Below w1.heap.size w1 wr)) (fun i _ => n - (intOf i).toNat)
    case atStart => exact ⟨0, Nat.zero_le _, rfl, HS0, HBA⟩
    case round =>
      obtain ⟨k, hk, rfl, hs, hbl⟩ := hrel
      have HBW : Hid (Below w.heap.size w wr) := HB1.out.trans (hbl.out.mono HB1.out.size)
      by_cases hlt : k < n
      · obtain ⟨b, o, rfl, hcell⟩ := (HR.out.below HBW.out).cell (by intro e; have := HN.out; rw [e] at this; simp at this; omega)
        have hck := hcell k (by rw [HN.out]; exact hlt)
        have HO := Lib.hid ((HR.out.below HBW.out).ok _ (mem_getD (l := l) (i := k) (by rw [HN.out]; exact hlt)))
        have HL := Lib.hid (cat_len_take HR.out.ok HM.out k)
        have hrn := HM.out _ (mem_getD (l := l) (i := k) (by rw [HN.out]; exact hlt))
        have HT := Lib.hid (cat_take (l := l) (k := k) (by rw [HN.out]; exact hlt))
        obtain ⟨r, hre⟩ : ∃ r, l.getD k Row.no = r := ⟨_, rfl⟩
        rw [hre] at hck HO hrn HT
        obtain ⟨ra, rn, rc, xs⟩ := r
        rw [Row.val] at hck
        have HCL := Lib.hid hcell
        clear hcell hre
        simp only at hck hrn
        go_wp2_with fail
        refine (add_any _ _ _ _ _ _ xs _ hs.out HO.out.len HO.out.rd HO.out.byt HO.out.cap (by have := HL.out; show _ + rn ≤ _; omega)).mono ?_
        rintro e w2 ⟨rfl, hsm, hkp⟩
        have HS2 : Hid (Sm w2 w1.heap.size (fld (ws 0 (cat (l.take (k + 1))))) (cat (l.take (k + 1))).length) := by
          have h1 : 0 ≤ ws 0 (cat (l.take k)) := (ws_range _ 0 (cat_byt (w := w) fun r hr => HR.out.ok r (List.mem_of_mem_take hr))).1
          have h2 : 0 ≤ ws (cat (l.take k)).length xs := (ws_range _ _ HO.out.byt).1
          rw [fld_fld h1 h2] at hsm
          rw [HT.out, ws_append, List.length_append, Nat.zero_add]
          exact hsm
        have HB2 : Hid (Below w1.heap.size w1 w2) := hbl.out.trans (hkp.below hbl.out.size (fun k h => by omega))
        have hck2 : w2.cell? ⟨b, o + k, none⟩ = some (.slice ra rn rc) := by
          rw [← hck]
          exact World.cell?_of_block (hkp.block b (World.block_lt_of_cell? wr ⟨b, o + k, none⟩ hck) (fun e => by
            have h1 := World.block_lt_of_cell? w ⟨b, o + k, none⟩ (by
              obtain ⟨b', o', e', hc'⟩ := HR.out.cell (by intro e; have := HN.out; rw [e] at this; simp at this; omega)
              simp only [Option.some.injEq, Addr.mk.injEq, and_true] at e'
              obtain ⟨rfl, rfl⟩ := e'
              exact hc' k (by rw [HN.out]; exact hlt))
            have h2 := HB1.out.size
            simp only at h1
            omega))
        clear hsm hkp hck
        go_wp2_with fail
        refine (add_nil _ _ _ _).mono ?_
        rintro e w3 ⟨rfl, rfl⟩
        clear hck2
        go_wp2_with fail
        go_roundw
        case rel => exact ⟨k + 1, by omega, by go_num, HS2, HB2⟩
        case measure => simp [intOf]; omega
      · have HTA : Hid (l.take k = l) := List.take_of_length_le (by rw [HN.out]; omega)
        have HS := hs
        rw [HTA.out] at HS
        clear hs
        go_wp2_with fail
        refine (joined_any _ _ _ l _ HN.out (HR.out.below HBW.out) hnm).mono ?_
        rintro e w2 ⟨hb, ⟨hsh, a2, m2, cap2, rfl, hown⟩ | ⟨hsh, rfl⟩⟩
        · have HO2 := Lib.hid hown
          have HB2 : Hid (Below w.heap.size w w2) := HBW.out.trans (hb.mono HBW.out.size)
          have HK2 : Hid (Below w1.heap.size w1 w2) := hbl.out.trans (hb.mono hbl.out.size)
          have HS2 : Hid (Sm w2 w1.heap.size (fld (ws 0 (cat l))) (cat l).length) := HS.out.below hb
          have HL1 := Lib.hid HO1.out.len
          have HA2 : Hid (Own w2 w.heap.size a1 m1 cap1 (cat l)) := HO1.out.below HK2.out
          have HF := @fld_range (ws 0 (cat l)) (ws_range _ 0 HBY.out).1
          have HLL : Hid ((cat l).length = m1) := HO1.out.len
          rw [HLL.out] at HS2
          clear hb hsh hown HBW hbl HS
          go_wp2_with fail
          refine (of_any _ _ _ l _ HN.out (HR.out.below HB2.out) (by omega) HM.out).mono ?_
          rintro e w3 ⟨rfl, hb⟩
          have HB3 : Hid (Below w.heap.size w w3) := HB2.out.trans (hb.mono HB2.out.size)
          have HK3 : Hid (Below w2.heap.size w2 w3) := hb
          clear hb
          obtain ⟨f, hf⟩ : ∃ f, fld (ws 0 (cat l)) = f := ⟨_, rfl⟩
          have HFE := Lib.hid hf
          rw [hf] at HF HS2 ⊢
          obtain ⟨hf0, hf1⟩ := HF
          clear hf
          go_wp2_with fail
          refine (r3Of_any _ _ _ (cat l) _ HLL.out (HA2.out.below HK3.out).rd HBY.out (by omega)).mono ?_
          rintro e w4 ⟨rfl, hb⟩
          have HB4 : Hid (Below w.heap.size w w4) := HB3.out.trans (hb.mono HB3.out.size)
          have HK4 : Hid (Below w2.heap.size w2 w4) := HK3.out.trans (hb.mono HK3.out.size)
          clear hb
          rw [HFE.out]
          go_wp2_with fail
          refine (whole_any _ _ _ l _ HN.out (HR.out.below HB4.out) (by omega) HM.out).mono ?_
          rintro e w5 ⟨rfl, hb⟩
          have HB5 : Hid (Below w.heap.size w w5) := HB4.out.trans (hb.mono HB4.out.size)
          have HK5 : Hid (Below w2.heap.size w2 w5) := HK4.out.trans (hb.mono HK4.out.size)
          clear hb
          go_wp2_with fail
          refine (r3Whole_any _ _ _ (cat l) _ HLL.out (HA2.out.below HK5.out).rd HBY.out (by omega)).mono ?_
          rintro e w6 ⟨rfl, hb⟩
          have HB6 : Hid (Below w.heap.size w w6) := HB5.out.trans (hb.mono HB5.out.size)
          have HK6 : Hid (Below w2.heap.size w2 w6) := HK5.out.trans (hb.mono HK5.out.size)
          clear hb HB2 HB3 HB4 HB5 HK3 HK4 HK5
          go_wp2_with fail
          refine (value_any _ _ _ _ (HS2.out.below HK6.out)).mono ?_
          rintro e w7 ⟨rfl, rfl⟩
          go_wp2_with fail
          refine (r3Of_any _ _ _ (cat l) _ HLL.out (HA2.out.below HK6.out).rd HBY.out (by omega)).mono ?_
          rintro e w7 ⟨rfl, hb⟩
          have HB7 : Hid (Below w.heap.size w w7) := HB6.out.trans (hb.mono HB6.out.size)
          have HK7 : Hid (Below w2.heap.size w2 w7) := HK6.out.trans (hb.mono HK6.out.size)
          clear hb HB6 HK6
          rw [HFE.out]
          go_wp2_with fail
          refine (value_any _ _ _ _ (HS2.out.below HK7.out)).mono ?_
          rintro e w8 ⟨rfl, rfl⟩
          go_wp2_with fail
          refine (value_any _ _ _ _ (HS2.out.below HK7.out)).mono ?_
          rintro e w8 ⟨rfl, rfl⟩
          go_wp2_with fail
          refine (len_any _ _ _ _ (HS2.out.below HK7.out)).mono ?_
          rintro e w8 ⟨rfl, rfl⟩
          go_wp2_with fail
          refine (change_any _ _ _ _ x0 x1 y0 y1 z0 z1).mono ?_
          rintro e w8 ⟨rfl, rfl⟩
          go_wp2_with fail
          refine (r3Change_any _ _ _ _ x0 x1 y0 y1 z0 z1).mono ?_
          rintro e w8 ⟨rfl, rfl⟩
          go_wp2_with fail
          refine (value_nil _).mono ?_
          rintro e w8 ⟨rfl, rfl⟩
          go_wp2_with fail
          refine (len_nil _).mono ?_
          rintro e w8 ⟨rfl, rfl⟩
          go_wp2_with fail
          refine (same_any _ _ _ _ _ _ (cat l) (cat l) _ HO2.out.len HLL.out (HO2.out.below HK7.out).rd (HA2.out.below HK7.out).rd HBY.out HBY.out).mono ?_
          rintro e w8 ⟨rfl, rfl⟩
          rw [decide_eq_true rfl]
          go_wp2_with fail
          refine (works3_any _).mono ?_
          rintro e w8 ⟨rfl, hb⟩
          have HB8 : Hid (Below w.heap.size w w8) := HB7.out.trans (hb.mono HB7.out.size)
          clear hb
          go_wp2_with fail
          go_ret
          exact ⟨rfl, HB8.out⟩
        · exact absurd HSH.out hsh
  · have HB1 := Lib.hid hb
    clear hb hsh
    go_wp2_with fail
    refine (works3_any _).mono ?_
    rintro e w2 ⟨rfl, hb⟩
    have HB2 : Hid (Below w.heap.size w w2) := HB1.out.trans (hb.mono HB1.out.size)
    clear hb
    go_wp2_with fail
    go_ret
    exact ⟨rfl, HB2.out⟩
end Go.Proofs.Ytpbopghnoinlbaa

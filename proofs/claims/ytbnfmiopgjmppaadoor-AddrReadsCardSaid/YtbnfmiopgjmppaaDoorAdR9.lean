/-
  Contracts of the document's own Bytes and Cmp on addresses. Conditions: sixteen bytes.
-/
import Derived.Test.YtbnfmiopgjmppaaDoorAdR2
namespace Go.Proofs.YtbnfmiopgjmppaaDoor
open Go.RowKit

/-- How many bytes an address has. -/
def ctA (s : Bool) : Nat := if s then 16 else 4
theorem szN (s : Bool) : ∃ m : Nat, szA s = (m : Int) ∧ m = ctA s := by
  cases s
  · exact ⟨4, rfl, rfl⟩
  · exact ⟨16, rfl, rfl⟩
set_option maxRecDepth 100000 in
set_option maxHeartbeats 2000000 in
theorem r4Bytes_any (s : Bool) (xs : List Int) (w : World) (hl : xs.length = 16) (hb : Byt xs) : Calls Tryd.prog 15 #[.agg (adl s xs).toArray] w (Made w (xs.take (ctA s))) := by
  have HA : Hid (∀ wz, w.alloc (.cells (adl s xs).toArray 27) = wz → Ab wz w.heap.size s xs ∧ Below w.heap.size w wz) := by
    rintro wz rfl
    exact ⟨Ab.new _ _ _, (Below.refl _ _).alloc (Nat.le_refl _) _⟩
  have HL := Lib.hid hl
  have HBY := Lib.hid hb
  obtain ⟨m, hm, hm2⟩ := szN s
  have HM := Lib.hid hm
  have HM2 := Lib.hid hm2
  have hm16 : m ≤ 16 := by rw [hm2]; cases s <;> decide
  clear hl hb hm hm2
  go_enter Tryd.func15, Tryd.ntmps15
  go_wp2_with fail
  obtain ⟨wz, hwz⟩ : ∃ z, w.alloc (.cells (adl s xs).toArray 27) = z := ⟨_, rfl⟩
  have HZ := Lib.hid (HA.out wz hwz)
  rw [hwz]
  clear hwz HA
  obtain ⟨g, hg⟩ : ∃ g, w.heap.size = g := ⟨_, rfl⟩
  have HZ2 : Hid (g < wz.heap.size) := by have := HZ.out.1; rw [hg] at this; exact (Array.getElem?_eq_some_iff.1 this).1
  rw [hg] at HZ ⊢
  have HG := Lib.hid hg
  clear hg
  go_loopw [3, 4] (fun r_ i_ wr => ∃ (k c : Nat) (a : Option Addr), k ≤ m ∧ r_ = .slice a k c ∧ i_ = .int .i64 k ∧ Hid (Own wr (g + 1) a k c (xs.take k) ∧ Ab wr g s xs ∧ Below g w wr ∧ g < wr.heap.size)) (fun _ i_ => fun _ => m - (intOf i_).toNat)
  case atStart => exact ⟨0, 0, none, Nat.zero_le _, rfl, rfl, by simpa using Own.nil wz (g + 1), HZ.out.1, HZ.out.2, HZ2.out⟩
  case round =>
    obtain ⟨k, c, a, hk, rfl, rfl, hw⟩ := hrel
    clear HZ HZ2
    have c0 := hw.out.2.1.six
    go_wp2_with fail
    refine (r4size_any s _).mono ?_
    rintro e w1 ⟨rfl, hw1⟩
    subst hw1
    rw [HM.out]
    by_cases hlt : k < m
    · have ck := hw.out.2.1.at_ (j := k) (by rw [HL.out]; omega)
      obtain ⟨x, hx⟩ : ∃ x, xs.getD k 0 = x := ⟨_, rfl⟩
      rw [hx] at ck
      have hlt2 : (k : Int) < (m : Int) := by omega
      have hk16 : (k : Int) < 16 := by omega
      rename World => wr
      obtain ⟨gA, cA, w2, hr, ho, hkp, hxx⟩ := run_append_one wr (g + 1) 25 25 5 _ 1 1 u8_info Tryd.underlying25 rfl (by omega) (own_of hw.out.1) [.int .u8 x] rfl (by intro u hu; simp at hu; subst hu; rfl) hw.out.2.2.2 (by omega) (by omega)
      have HR := Lib.hid hr
      have HN : Hid (Own w2 (g + 1) (some ⟨gA, 0, none⟩) (k + 1) cA (xs.take (k + 1)) ∧ Ab w2 g s xs ∧ Below g w w2 ∧ g < w2.heap.size) := by
        have hge : ∀ i, blk a = some i → g + 1 ≤ i := fun i h => (hw.out.1.blk_ge i h).1
        have ht : xs.take (k + 1) = xs.take k ++ [x] := by
          rw [List.take_succ_eq_append_getElem (by rw [HL.out]; omega), ← hx]
          simp [List.getElem?_eq_getElem (show k < xs.length by rw [HL.out]; omega)]
        refine ⟨⟨by rw [List.length_take, HL.out]; omega, by rw [ht, bv_append]; exact ho⟩, hw.out.2.1.keep hkp (fun h => by have := hge _ h; omega), hw.out.2.2.1.trans (hkp.below (Nat.le_of_lt hw.out.2.2.2) (fun i h => by have := hge i h; omega)), Nat.lt_of_lt_of_le hw.out.2.2.2 hkp.size⟩
      clear hr ho hkp hxx hx hw
      go_wp2_with (at_builtin; refine Lib.wpList_append_run _ rfl (.tmp 12) (.tmp 17) _ _ rfl _ _ rfl rfl _ _ HR.out ?_)
      go_roundw
      case rel => exact ⟨k + 1, cA, _, by omega, by first | rfl | trivial, by go_num, HN⟩
      case measure => simp [intOf]; omega
    · obtain rfl : k = m := by omega
      have hlt2 : ¬ (k : Int) < (k : Int) := by omega
      have HN := Lib.hid (And.intro hw.out.1 hw.out.2.2.1)
      clear hw c0
      go_wp2_with fail
      go_ret
      exact ⟨a, k, c, rfl, by rw [HG.out, ← HM2.out]; exact HN.out.1.mono (by omega), by rw [HG.out]; exact HN.out.2⟩

/-- Which of two addresses comes first. -/
def cmpL : List Int → List Int → Int
  | x :: xs, y :: ys => if x < y then -1 else if y < x then 1 else cmpL xs ys
  | _, _ => 0
def cmpA (s : Bool) (xs : List Int) (t : Bool) (ys : List Int) : Int := if s = t then cmpL xs ys else if t = true then -1 else 1
theorem cmpL_step {xs ys : List Int} {k : Nat} (hx : xs.length = 16) (hy : ys.length = 16) (hk : k < 16) :
    cmpL (xs.drop k) (ys.drop k) = if xs.getD k 0 < ys.getD k 0 then -1 else if ys.getD k 0 < xs.getD k 0 then 1 else cmpL (xs.drop (k + 1)) (ys.drop (k + 1)) := by
  have h1 : k < xs.length := by omega
  have h2 : k < ys.length := by omega
  rw [List.drop_eq_getElem_cons h1, List.drop_eq_getElem_cons h2, cmpL]
  simp [h1, h2]

set_option maxRecDepth 100000 in
set_option maxHeartbeats 4000000 in
theorem r4Cmp_any (s : Bool) (xs : List Int) (t : Bool) (ys : List Int) (w : World) (hl : xs.length = 16) (hm : ys.length = 16) : Calls Tryd.prog 20 #[.agg (adl s xs).toArray, .agg (adl t ys).toArray] w (Gives w (.int .i64 (cmpA s xs t ys))) := by
  have HA : Hid (∀ wy wz, w.alloc (.cells (adl s xs).toArray 27) = wy → wy.alloc (.cells (adl t ys).toArray 27) = wz → Ab wz w.heap.size s xs ∧ Ab wz (w.heap.size + 1) t ys ∧ Below w.heap.size w wz) := by
    rintro wy wz rfl rfl
    have h1 := Ab.new w s xs
    have h2 := Ab.new (w.alloc (.cells (adl s xs).toArray 27)) t ys
    rw [show (w.alloc (.cells (adl s xs).toArray 27)).heap.size = w.heap.size + 1 by simp] at h2
    exact ⟨h1.keep (Kept.alloc (fun _ => False) _ _) id, h2, ((Below.refl _ _).alloc (Nat.le_refl _) _).alloc (by simp) _⟩
  have HL := Lib.hid hl
  have HM := Lib.hid hm
  have c1 := (HA.out _ _ rfl rfl).1.six
  have c2 := (HA.out _ _ rfl rfl).2.1.six
  clear hl hm
  go_enter Tryd.func20, Tryd.ntmps20
  by_cases hst : s = t
  · subst hst
    have hne : (s != s) = false := by simp
    have HC : Hid (cmpA s xs s ys = cmpL (xs.drop 0) (ys.drop 0)) := by show _ = _; unfold cmpA; rw [if_pos rfl]; rfl
    go_wp2_with fail
    clear c1 c2
    obtain ⟨wy, hwy⟩ : ∃ z, w.alloc (.cells (adl s xs).toArray 27) = z := ⟨_, rfl⟩
    obtain ⟨wz, hwz⟩ : ∃ z, wy.alloc (.cells (adl s ys).toArray 27) = z := ⟨_, rfl⟩
    have HZ := Lib.hid (HA.out wy wz hwy hwz)
    rw [hwy, hwz]
    clear hwy hwz HA hne
    go_loopw [5] (fun i_ wr => ∃ k : Nat, k ≤ 16 ∧ i_ = .int .i64 k ∧ Hid (cmpA s xs s ys = cmpL (xs.drop k) (ys.drop k)) ∧ Hid (Ab wr w.heap.size s xs ∧ Ab wr (w.heap.size + 1) s ys ∧ Below w.heap.size w wr)) (fun i_ => fun _ => 16 - (intOf i_).toNat)
    case atStart => exact ⟨0, Nat.zero_le _, rfl, HC.out, HZ.out⟩
    case round =>
      obtain ⟨k, hk, rfl, hq, HZ⟩ := hrel
      clear HC
      have HD : Hid (∀ n, Ab (World.drewN _ n) w.heap.size s xs ∧ Ab (World.drewN _ n) (w.heap.size + 1) s ys ∧ Below w.heap.size w (World.drewN _ n)) := fun n => ⟨HZ.out.1, HZ.out.2.1, HZ.out.2.2.trans ⟨rfl, rfl, rfl, Nat.le_refl _, fun _ _ => rfl⟩⟩
      by_cases hlt : k < 16
      · have hlt2 : (k : Int) < 16 := by omega
        have cx := HZ.out.1.at_ (j := k) (by rw [HL.out]; exact hlt)
        have cy := HZ.out.2.1.at_ (j := k) (by rw [HM.out]; exact hlt)
        have hs := cmpL_step HL.out HM.out hlt
        obtain ⟨x, hx⟩ : ∃ x, xs.getD k 0 = x := ⟨_, rfl⟩
        obtain ⟨y, hy⟩ : ∃ y, ys.getD k 0 = y := ⟨_, rfl⟩
        rw [hx] at cx hs
        rw [hy] at cy hs
        have HQ := Lib.hid (hq.out.trans hs)
        clear hx hy hs hq
        by_cases h1 : x < y
        · have HN : Hid (cmpA s xs s ys = -1) := by show _ = _; rw [HQ.out, if_pos h1]
          go_wp2_with fail
          go_quiet (fail)
          go_wp2_with fail
          go_ret
          exact ⟨by rw [HN.out]; rfl, by first | exact (HD.out _).2.2 | exact HZ.out.2.2.trans ⟨rfl, rfl, rfl, Nat.le_refl _, fun _ _ => rfl⟩⟩
        · by_cases h2 : y < x
          · have HN : Hid (cmpA s xs s ys = 1) := by show _ = _; rw [HQ.out, if_neg h1, if_pos h2]
            go_wp2_with fail
            go_quiet (fail)
            go_wp2_with fail
            go_quiet (fail)
            go_wp2_with fail
            go_ret
            exact ⟨by rw [HN.out]; rfl, by first | exact (HD.out _).2.2 | exact HZ.out.2.2.trans ⟨rfl, rfl, rfl, Nat.le_refl _, fun _ _ => rfl⟩⟩
          · have HN : Hid (cmpA s xs s ys = cmpL (xs.drop (k + 1)) (ys.drop (k + 1))) := by show _ = _; rw [HQ.out, if_neg h1, if_neg h2]
            go_wp2_with fail
            go_quiet (fail)
            go_wp2_with fail
            go_quiet (fail)
            go_wp2_with fail
            go_roundw
            case rel => exact ⟨k + 1, by omega, by go_num, HN, HD.out _⟩
            case measure => simp [intOf]; omega
      · obtain rfl : k = 16 := by omega
        have HN : Hid (cmpA s xs s ys = 0) := by show _ = _; rw [hq.out, List.drop_of_length_le (by rw [HL.out]; exact Nat.le_refl _)]; rfl
        clear hq
        go_wp2_with fail
        go_ret
        exact ⟨by rw [HN.out]; rfl, HZ.out.2.2⟩
  · have HZ := Lib.hid (HA.out _ _ rfl rfl)
    cases s <;> cases t
    · exact absurd rfl hst
    · have HN : Hid (cmpA false xs true ys = -1) := rfl
      clear hst HA
      go_wp2_with fail
      go_ret
      exact ⟨by rw [HN.out]; rfl, HZ.out.2.2⟩
    · have HN : Hid (cmpA true xs false ys = 1) := rfl
      clear hst HA
      go_wp2_with fail
      go_ret
      exact ⟨by rw [HN.out]; rfl, HZ.out.2.2⟩
    · exact absurd rfl hst
end Go.Proofs.YtbnfmiopgjmppaaDoor

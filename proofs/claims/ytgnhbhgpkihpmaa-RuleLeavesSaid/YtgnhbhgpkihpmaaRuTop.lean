/-
  The contracts of firstFit, firstThatHolds, Right, Fits, Any of package rule. Conditions: rules and keys whose numbers fit their Go types, rules that lie where the slice leads.
-/
import Derived.Test.YtgnhbhgpkihpmaaRuFst
namespace Go.Proofs.Ytgnhbhgpkihpmaa
open Go.RowKit

/-- Has a key what a rule asks for? -/
def fit (k : Ky) (r : Rl) : Bool := allP (fun j r => mts j r k) r
/-- Does a rule hold what another one asks for? -/
def cov (s r : Rl) : Bool := allP (fun j r => hld j r s) r

set_option maxHeartbeats 1000000 in
theorem firstFit_any (a : Option Addr) (n c : Nat) (l : List Rl) (k : Ky) (w : World) (hl : Rls w a n l) (hn : n ≤ 70368744177664) (hk : k.ok) :
    Calls Try.prog 20 #[.slice a n c, .agg k.cs.toArray] w (Gives w (.int .i64 (fsi (fit k) l))) := by
  have hmf : ∀ (fn : Fn) (first cap : Array Value) (w : World), (Instr.makeFunc fn first cap).run Try.prog w = .ok (.func fn first cap) w := fun _ _ _ _ => rfl
  have hb : Below w.heap.size w (w.alloc (.cells k.cs.toArray 28)) := (Below.refl _ _).alloc (Nat.le_refl _) _
  have HR := Lib.hid (range_new w k.cs 28)
  have HL := Lib.hid (hl.below hb)
  have HB := Lib.hid hb
  have HK := Lib.hid hk
  clear hl hb hk
  go_enter Try.func20, Try.ntmps20
  go_wp2_with fail
  refine (first_any 25 _ (fun j r => mts j r k) a n c l _ HL.out hn entFit (fun j r w' hj hr hb => fitF_any k _ HK.out j r w' hj hr (range_kept hb HR.out))).mono ?_
  rintro e w1 ⟨rfl, hb1⟩
  have HB1 := Lib.hid (HB.out.trans (hb1.mono HB.out.size))
  clear hb1
  go_wp2_with fail
  go_ret
  exact ⟨rfl, HB1.out⟩

set_option maxHeartbeats 1000000 in
theorem firstHolds_any (a : Option Addr) (n c : Nat) (l : List Rl) (s : Rl) (w : World) (hl : Rls w a n l) (hn : n ≤ 70368744177664) (hk : s.ok) :
    Calls Try.prog 18 #[.slice a n c, .agg s.cs.toArray] w (Gives w (.int .i64 (fsi (cov s) l))) := by
  have hmf : ∀ (fn : Fn) (first cap : Array Value) (w : World), (Instr.makeFunc fn first cap).run Try.prog w = .ok (.func fn first cap) w := fun _ _ _ _ => rfl
  have hb : Below w.heap.size w (w.alloc (.cells s.cs.toArray 43)) := (Below.refl _ _).alloc (Nat.le_refl _) _
  have HR := Lib.hid (range_new w s.cs 43)
  have HL := Lib.hid (hl.below hb)
  have HB := Lib.hid hb
  have HK := Lib.hid hk
  clear hl hb hk
  go_enter Try.func18, Try.ntmps18
  go_wp2_with fail
  refine (first_any 24 _ (fun j r => hld j r s) a n c l _ HL.out hn entHold (fun j r w' hj hr hb => holdF_any s _ HK.out j r w' hj hr (range_kept hb HR.out))).mono ?_
  rintro e w1 ⟨rfl, hb1⟩
  have HB1 := Lib.hid (HB.out.trans (hb1.mono HB.out.size))
  clear hb1
  go_wp2_with fail
  go_ret
  exact ⟨rfl, HB1.out⟩

/-- Is a rule right? -/
def rgB (r : Rl) : Bool := (List.range 6).all (fun j => rt j r) && (if r.dy then decide (r.c = 0) else decide (0 ≤ r.c) && decide (r.c < 8))
theorem rgB_iff (r : Rl) : rgB r = true ↔ (∀ j, j < 6 → rt j r = true) ∧ (r.dy = true → r.c = 0) ∧ (r.dy = false → 0 ≤ r.c ∧ r.c < 8) := by
  simp only [rgB, Bool.and_eq_true, List.all_eq_true, List.mem_range]
  cases r.dy <;> simp
theorem rgB_no {r : Rl} {j : Nat} (hj : j < 6) (h : rt j r = false) : rgB r = false := by
  cases ha : rgB r with
  | false => rfl
  | true => rw [((rgB_iff r).1 ha).1 j hj] at h; cases h

set_option maxRecDepth 100000 in
set_option maxHeartbeats 2000000 in
theorem uRight_any (r : Rl) (w : World) (hr : r.ok) : Calls Try.prog 16 #[.agg r.cs.toArray] w (Gives w (.bool (rgB r))) := by
  have hb : Below w.heap.size w (w.alloc (.cells r.cs.toArray 43)) := (Below.refl _ _).alloc (Nat.le_refl _) _
  have HR0 := Lib.hid (range_new w r.cs 43)
  have HB := Lib.hid hb
  have HRO := Lib.hid hr
  obtain ⟨gB, hgB⟩ : ∃ gB, w.heap.size = gB := ⟨_, rfl⟩
  clear hb hr
  go_enter Try.func16, Try.ntmps16
  go_wp2_with fail
  refine (parts_any _).mono ?_
  rintro e w1 ⟨g, rfl, hp, hb1⟩
  have HLK : Hid (Lk w w1 gB g r) := ⟨by rw [← hgB]; exact range_kept hb1 HR0.out, hp, HB.out.trans (hb1.mono HB.out.size)⟩
  clear hp hb1 HR0 HB hgB
  go_wp2_with fail
  go_loopw [7] (fun i wr => ∃ j : Nat, j ≤ 6 ∧ i = .int .i64 j ∧ Hid (∀ q, q < j → rt q r = true) ∧ Hid (Lk w wr gB g r)) (fun i _ => 6 - (intOf i).toNat)
  case atStart => exact ⟨0, by omega, rfl, fun q hq => by omega, HLK⟩
  case round =>
    obtain ⟨j, hj, rfl, hal, hlk⟩ := hrel
    clear HLK
    rename World => wp
    by_cases hj6 : j < 6
    · have hj2 : (j : Int) < 6 := by omega
      obtain ⟨N1, hE1, hN1, hI⟩ := rt_fn j hj6
      unfold Ent at hE1
      have HI := Lib.hid hI
      have HN1 := Lib.hid hN1
      clear hI hN1
      go_wp2_with (first
        | (refine ldPt _ rfl rfl _ _ rfl (pt j) (pt_len j) (hlk.out.pts.cut j hj6) ?_)
        | (refine stN (fun w' => Hid (Lk w w' gB g r ∧ w'.rangeAt wp.heap.size 0 (pt j))) 68 _ _ rfl rfl _ _ (pt j) rfl rfl (by rw [pt_len]; exact there_new _ _ _ _ rfl _ rfl) (by rw [pt_len]; exact infPt) (pt_one j) (by exact hlk.out.part _ _ j rfl) ?_; intro wk HLK; obtain ⟨gP, hgP⟩ : ∃ gP, wp.heap.size = gP := ⟨_, rfl⟩; rw [hgP] at HLK ⊢; have hcI := range_at HLK.out.2 0 HN1.out)
        | (refine ldU _ rfl (by rfl) _ _ rfl r HRO.out (by exact HLK.out.1.rule) ?_))
      refine (HI.out r _ HRO.out).mono ?_
      rintro e w2 ⟨rfl, hb2⟩
      have HL2 := Lib.hid (HLK.out.1.next hb2)
      clear hb2 HLK hcI hE1
      cases hid : rt j r with
      | true =>
        have HD : Hid (∀ q, q < j + 1 → rt q r = true) := fun q hq => by
          rcases Nat.lt_or_ge q j with h | h
          · exact hal.out q h
          · rw [show q = j by omega, hid]
        clear hid
        go_wp2_with fail
        go_roundw
        case rel => exact ⟨j + 1, by omega, by go_num, HD, HL2⟩
        case measure => simp [intOf]; omega
      | false =>
        have HD : Hid (rgB r = false) := rgB_no hj6 hid
        have HBL := Lib.hid HL2.out.below
        clear hid
        go_wp2_with fail
        go_ret
        exact ⟨by rw [HD.out]; rfl, HBL.out⟩
    · have hj2 : ¬ (j : Int) < 6 := by omega
      have HA : Hid (∀ q, q < 6 → rt q r = true) := fun q hq => hal.out q (by omega)
      have HBL := Lib.hid hlk.out.below
      have hdy := Rl.rdy HRO.out hlk.out.rule
      have hc := Rl.rc HRO.out hlk.out.rule
      cases hd : r.dy with
      | true =>
        rw [hd] at hdy
        have HD : Hid (rgB r = (r.c == 0)) := by
          show _ = _
          rw [Bool.eq_iff_iff, rgB_iff]
          simp [hd]; exact fun _ => HA.out
        clear hd
        go_wp2_with fail
        go_ret
        exact ⟨by rw [HD.out]; rfl, HBL.out⟩
      | false =>
        rw [hd] at hdy
        have HD : Hid (rgB r = (decide (0 ≤ r.c) && decide (r.c < 8))) := by
          show _ = _
          rw [Bool.eq_iff_iff, rgB_iff]
          simp [hd]; exact fun _ _ => HA.out
        clear hd
        by_cases h0 : 0 ≤ r.c
        · by_cases h8 : r.c < 8
          · have HE : Hid (rgB r = true) := by show _ = _; rw [HD.out]; simp [h0, h8]
            go_wp2_with fail
            go_ret
            exact ⟨by rw [HE.out]; rfl, HBL.out⟩
          · have HE : Hid (rgB r = false) := by show _ = _; rw [HD.out]; simp; omega
            go_wp2_with fail
            go_ret
            exact ⟨by rw [HE.out]; rfl, HBL.out⟩
        · have HE : Hid (rgB r = false) := by show _ = _; rw [HD.out]; simp; omega
          go_wp2_with fail
          go_ret
          exact ⟨by rw [HE.out]; rfl, HBL.out⟩
end Go.Proofs.Ytgnhbhgpkihpmaa

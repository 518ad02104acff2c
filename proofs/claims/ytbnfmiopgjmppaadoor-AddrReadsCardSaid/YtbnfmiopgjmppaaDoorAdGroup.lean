/-
  The contracts of the library's public ParseUint to the base 16, and of group. Conditions: a text of at most 2 to the 48 bytes for group.
-/
import Derived.Test.YtbnfmiopgjmppaaDoorAdHx
namespace Go.Proofs.YtbnfmiopgjmppaaDoor
open Go.RowKit

theorem bdN {B : Nat} {w w' : World} (h : Below B w w') (n : Nat) : Below B w (w'.drewN n) := h.trans ⟨rfl, rfl, rfl, Nat.le_refl _, fun _ _ => rfl⟩

set_option maxRecDepth 100000 in
set_option maxHeartbeats 4000000 in
theorem iPU_nil (w : World) : Calls Tryd.prog 81 #[.string ⟨#[]⟩, .int .i64 16, .int .i64 16] w fun e w' => e = .returned (pu16 none) ∧ Below w.heap.size w w' := by
  go_enter Tryd.func81, Tryd.ntmps81
  go_wp2_with fail
  go_ret2
  exact ⟨rfl, Below.refl _ _⟩
/-- Either way. -/
theorem iPU_all (l : Tx) (w : World) (hl : l.length ≤ 4) : Calls Tryd.prog 81 #[.string ⟨l.toArray⟩, .int .i64 16, .int .i64 16] w fun e w' => e = .returned (pu16 (hexO l)) ∧ Below w.heap.size w w' := by
  cases l with
  | nil => exact iPU_nil w
  | cons b r =>
    have e : hexO (b :: r) = hexFrom 0 (b :: r) := by unfold hexO; rw [if_neg (by rintro (h | h); exact absurd h (by simp); omega)]
    rw [e]
    exact iPU_any (b :: r) w (by simp) hl
/-- What the public one answers. -/
def PuR (w : World) (l : Tx) (e : Ending) (w' : World) : Prop :=
  ∃ (v : Nat) (ev : Value), e = .returned (.tuple #[.int .u64 (v : Int), ev]) ∧ ((hexO l = some v ∧ ev = .nilIface) ∨ (hexO l = none ∧ v = 0 ∧ ∃ t p, ev = .iface t p)) ∧ Below w.heap.size w w'
set_option maxRecDepth 100000 in
set_option maxHeartbeats 4000000 in
theorem sPU_any (l : Tx) (w : World) (hg : Gl w) (hl : l.length ≤ 4) : Calls Tryd.prog 70 #[.string ⟨l.toArray⟩, .int .i64 16, .int .i64 16] w (PuR w l) := by
  have HG := Lib.hid hg
  have HL := Lib.hid hl
  clear hg hl
  cases ho : hexO l with
  | some v =>
    have HO := Lib.hid ho
    clear ho
    go_enter Tryd.func70, Tryd.ntmps70
    go_wp2_with fail
    refine (iPU_all l _ HL.out).mono ?_
    rintro e w1 ⟨rfl, hb⟩
    have HB := Lib.hid hb
    rw [HO.out]
    simp only [pu16]
    clear hb
    go_wp2_with fail
    go_ret2
    exact ⟨v, .nilIface, rfl, .inl ⟨HO.out, rfl⟩, HB.out⟩
  | none =>
    have HO := Lib.hid ho
    clear ho
    go_enter Tryd.func70, Tryd.ntmps70
    go_wp2_with fail
    refine (iPU_all l _ HL.out).mono ?_
    rintro e w1 ⟨rfl, hb⟩
    have HB := Lib.hid hb
    have HG1 := Lib.hid (HG.out.below hb)
    rw [HO.out]
    simp only [pu16]
    clear hb
    obtain ⟨te, pe, hc⟩ := HG1.out.syn
    have HC := Lib.hid hc
    clear hc
    go_wp2_with fail
    refine (Tryd.strconv_toError_syntax ⟨#[80, 97, 114, 115, 101, 85, 105, 110, 116]⟩ ⟨l.toArray⟩ 16 16 _ _ (by have := HL.out; simp only [ByteArray.size, List.size_toArray]; omega) HC.out (.inr ⟨te, pe, rfl⟩)).mono ?_
    rintro e w2 ⟨N, rfl, _, _, hb2⟩
    have HB2 := Lib.hid (HB.out.trans (hb2.mono HB.out.size))
    clear hb2
    go_wp2_with fail
    go_ret2
    exact ⟨0, _, rfl, .inr ⟨HO.out, rfl, _, _, rfl⟩, HB2.out⟩
/-- What group answers. -/
def GroupR (w : World) (l : Tx) (e : Ending) (w' : World) : Prop :=
  ∃ v : Nat, e = .returned (.tuple #[.int .u16 (v : Int), .bool (hexO l).isSome]) ∧ v < 65536 ∧ (∀ n, hexO l = some n → v = n) ∧ Below w.heap.size w w'
set_option maxRecDepth 100000 in
set_option maxHeartbeats 4000000 in
theorem aGroup_any (l : Tx) (w : World) (hg : Gl w) (hl : l.length ≤ 281474976710656) : Calls Tryd.prog 59 #[.string ⟨l.toArray⟩] w (GroupR w l) := by
  have HG := Lib.hid hg
  by_cases h4 : 4 < l.length
  · have HO : Hid (hexO l = none) := by show _ = _; unfold hexO; rw [if_pos (.inr h4)]
    have h4i : (4 : Int) < (l.length : Int) := by omega
    go_enter Tryd.func59, Tryd.ntmps59
    go_wp2_with fail
    go_ret2
    exact ⟨0, by rw [HO.out]; rfl, by omega, fun n hn => (by rw [HO.out] at hn; cases hn), Below.refl _ _⟩
  · have h4i : (l.length : Int) ≤ 4 := by omega
    have HL : Hid (l.length ≤ 4) := by show _ ≤ _; omega
    clear hg hl
    go_enter Tryd.func59, Tryd.ntmps59
    go_wp2_with fail
    refine (sPU_any l _ HG.out HL.out).mono ?_
    rintro e w1 ⟨v, ev, rfl, hr, hb⟩
    have HB := Lib.hid hb
    rcases hr with ⟨ho, rfl⟩ | ⟨ho, rfl, t, p, rfl⟩
    · have HO := Lib.hid ho
      have hv := hexO_lt ho
      have hw : IntKind.u16.wrap (v : Int) = v := by rw [IntKind.wrap_u16]; omega
      clear hb ho
      go_wp2_with fail
      go_quiet (fail)
      go_wp2_with fail
      go_ret2
      exact ⟨v, by rw [HO.out]; rfl, hv, fun n hn => (by rw [HO.out] at hn; exact Option.some.inj hn), bdN HB.out _⟩
    · have HO := Lib.hid ho
      clear hb ho
      go_wp2_with fail
      go_quiet (fail)
      go_wp2_with fail
      go_ret2
      exact ⟨0, by rw [HO.out]; rfl, by omega, fun n hn => (by rw [HO.out] at hn; cases hn), bdN HB.out _⟩
end Go.Proofs.YtbnfmiopgjmppaaDoor

/-
  The contracts of the library's ParseUint to the base 16, for at most four bytes, and of group. Conditions: a text of at most 1000 bytes for group.
-/
import Derived.Test.YtbnfmiopgjmppaaDoorAdFour
import Derived.Lib.ConvBytes
namespace Go.Proofs.YtbnfmiopgjmppaaDoor
open Go.RowKit

/-- A byte, its bit 32 set. -/
def lo (b : Nat) : Nat := (bits .or .u8 (b : Int) 32).toNat
theorem lo_fin : ∀ b : Fin 256, bits .or .u8 (b.val : Int) 32 = ((lo b.val : Nat) : Int) ∧ lo b.val < 256 := by decide +kernel
theorem lo_eq {b : Nat} (h : b < 256) : bits .or .u8 (b : Int) 32 = ((lo b : Nat) : Int) := (lo_fin ⟨b, h⟩).1
theorem lo_lt {b : Nat} (h : b < 256) : lo b < 256 := (lo_fin ⟨b, h⟩).2
/-- What a digit stands for, by its number. -/
def hvN (b : Nat) : Option Nat :=
  if 48 ≤ b ∧ b ≤ 57 then some (b - 48) else if 97 ≤ b ∧ b ≤ 102 then some (b - 87) else if 65 ≤ b ∧ b ≤ 70 then some (b - 55) else none
theorem hx_fin : ∀ b : Fin 256, (48 ≤ b.val ∧ b.val ≤ 57 ∧ hvN b.val = some (b.val - 48)) ∨ (¬ (48 ≤ b.val ∧ b.val ≤ 57) ∧ 97 ≤ lo b.val ∧ lo b.val ≤ 102 ∧ hvN b.val = some (lo b.val - 87)) ∨
    (¬ (48 ≤ b.val ∧ b.val ≤ 57) ∧ 103 ≤ lo b.val ∧ lo b.val ≤ 122 ∧ hvN b.val = none) ∨ (¬ (48 ≤ b.val ∧ b.val ≤ 57) ∧ (lo b.val < 97 ∨ 122 < lo b.val) ∧ hvN b.val = none) := by decide +kernel
theorem hx_cases (b : UInt8) : (48 ≤ b.toNat ∧ b.toNat ≤ 57 ∧ hv b = some (b.toNat - 48)) ∨ (¬ (48 ≤ b.toNat ∧ b.toNat ≤ 57) ∧ 97 ≤ lo b.toNat ∧ lo b.toNat ≤ 102 ∧ hv b = some (lo b.toNat - 87)) ∨
    (¬ (48 ≤ b.toNat ∧ b.toNat ≤ 57) ∧ 103 ≤ lo b.toNat ∧ lo b.toNat ≤ 122 ∧ hv b = none) ∨ (¬ (48 ≤ b.toNat ∧ b.toNat ≤ 57) ∧ (lo b.toNat < 97 ∨ 122 < lo b.toNat) ∧ hv b = none) := hx_fin ⟨b.toNat, b.toNat_lt⟩
theorem lower_any (b : Nat) (h : b < 256) (w : World) : Calls Tryd.prog 98 #[.int .u8 (b : Int)] w fun e w' => e = .returned (.int .u8 (lo b : Int)) ∧ w' = w := by
  refine (Tryd.internal_strconv_lower (b : Int) w).mono ?_
  rintro e w' ⟨rfl, rfl⟩
  exact ⟨by rw [lo_eq h], rfl⟩

/-- What the library answers. -/
def pu16 (o : Option Nat) : Value := match o with
  | some v => .tuple #[.int .u64 (v : Int), .nilIface]
  | none => .tuple #[.int .u64 0, .iface 118 (.int .i64 2)]
theorem hexFrom_mono (l : Tx) (k acc : Nat) (b : UInt8) (h : l[k]? = some b) : hexFrom acc (l.drop k) = match hv b with | some d => hexFrom (acc * 16 + d) (l.drop (k + 1)) | none => none := by
  have hk : k < l.length := (List.getElem?_eq_some_iff.1 h).1
  have hb : l[k] = b := (List.getElem?_eq_some_iff.1 h).2
  rw [List.drop_eq_getElem_cons hk, hb]
  rfl

set_option maxRecDepth 100000 in
set_option maxHeartbeats 8000000 in
theorem iPU_any (l : Tx) (w : World) (hne : l ≠ []) (hl : l.length ≤ 4) : Calls Tryd.prog 81 #[.string ⟨l.toArray⟩, .int .i64 16, .int .i64 16] w fun e w' => e = .returned (pu16 (hexFrom 0 l)) ∧ Below w.heap.size w w' := by
  have hcv := Lib.run_convert_string_bytes (P := Tryd.prog) w 9 25 5 ⟨l.toArray⟩ (u := .string) Tryd.underlying9 Tryd.underlying25 Tryd.underlying5
  have hB : ∀ j, j < l.length → (Lib.bytesWorld w 5 ⟨l.toArray⟩).cell? ⟨w.heap.size, j, none⟩ = some (.int .u8 (l.getD j 0).toNat) := fun j hj => Lib.bytesWorld_cell w 5 ⟨l.toArray⟩ j (by simpa [ByteArray.size] using hj)
  have hBel := Lib.hid (Lib.bytesWorld_below w 5 ⟨l.toArray⟩)
  obtain ⟨W1, hW1⟩ : ∃ W1, W1 = Lib.bytesWorld w 5 ⟨l.toArray⟩ := ⟨_, rfl⟩
  rw [← hW1] at hcv hB hBel
  clear hW1
  have hsz : (⟨l.toArray⟩ : ByteArray).size = l.length := by simp [ByteArray.size]
  rw [hsz] at hcv
  have hemp : l.isEmpty = false := by cases l with
    | nil => exact absurd rfl hne
    | cons => rfl
  have hmv : IntKind.u64.wrap (IntKind.u64.wrap 65536 - 1) = 65535 := by
    rw [IntKind.wrap_u64, IntKind.wrap_u64]
    decide
  have HL := Lib.hid hl
  have hlen : (l.length : Int) ≤ 4 := by omega
  clear hne hl
  go_enter Tryd.func81, Tryd.ntmps81
  go_wp2_with fail
  go_loop [12, 13, 101] (fun vu vn vi => ∃ (k acc : Nat) (a : Int), vu = .bool false ∧ vn = .int .u64 a ∧ vi = .int .i64 k ∧ k ≤ l.length ∧ Hid (a = (acc : Int) ∧ acc < 16 ^ k ∧ hexFrom 0 l = hexFrom acc (l.drop k)))
    (fun _ _ vi => l.length - (intOf vi).toNat)
  case atStart => exact ⟨0, 0, 0, rfl, rfl, rfl, by omega, rfl, by decide, rfl⟩
  case round =>
    obtain ⟨k, acc, a, rfl, rfl, rfl, hk, hh⟩ := hrel
    obtain ⟨ha, hacc, hdec⟩ := hh.out
    clear hh
    by_cases hkn : k < l.length
    · have hc := hB k hkn
      obtain ⟨c, hgk⟩ : ∃ c, l[k]? = some c := ⟨_, List.getElem?_eq_getElem hkn⟩
      have hst := hexFrom_mono l k acc c hgk
      have hget : l.getD k 0 = c := by simp [hgk]
      rw [hget] at hc
      have hk3 : k ≤ 3 := by omega
      have hp : (16 : Nat) ^ k ≤ 16 ^ 3 := Nat.pow_le_pow_right (by omega) hk3
      have hsucc : (16 : Nat) ^ (k + 1) = 16 ^ k * 16 := Nat.pow_succ 16 k
      have hc256 := c.toNat_lt
      obtain ⟨cn, hcn⟩ : ∃ cn, c.toNat = cn := ⟨_, rfl⟩
      have hx := hx_cases c
      rw [hcn] at hx hc hc256
      have hlo := lo_lt hc256
      obtain ⟨lc, hlc⟩ : ∃ lc, lo cn = lc := ⟨_, rfl⟩
      have hlw : ∀ w, Calls Tryd.prog 98 #[.int .u8 (cn : Int)] w fun e w' => e = .returned (.int .u8 (lc : Int)) ∧ w' = w := by rw [← hlc]; exact lower_any cn hc256
      rw [hlc] at hx hlo
      have h95 : cn = 95 → lc = 127 := fun e => by rw [← hlc, e]; decide +kernel
      have HB := Lib.hid hB
      have HST := Lib.hid hst
      have HDEC := Lib.hid hdec
      have HP := Lib.hid hp
      have HSU := Lib.hid hsucc
      have HA := Lib.hid hacc
      have a0 : 0 ≤ a := by omega
      have a1 : a < 4096 := by
        have : (16 : Nat) ^ 3 = 4096 := by decide
        omega
      have HEQ := Lib.hid ha
      have HLW := Lib.hid hlw
      clear hB hst hdec hget hgk hcn hlc hlw hp hsucc hacc ha
      rcases hx with ⟨hd0, hd1, hv⟩ | ⟨hnd, hl0, hl1, hv⟩ | ⟨hnd, hl0, hl1, hv⟩ | ⟨hnd, hl0, hv⟩
      · have HN : Hid (a * 16 + ((cn : Int) - 48) = ((acc * 16 + (cn - 48) : Nat) : Int) ∧ acc * 16 + (cn - 48) < 16 ^ (k + 1) ∧ hexFrom 0 l = hexFrom (acc * 16 + (cn - 48)) (l.drop (k + 1))) :=
          ⟨by have := HEQ.out; omega, by have := HA.out; have := HSU.out; omega, by rw [HDEC.out, HST.out, hv]⟩
        clear hv HST HDEC HEQ
        go_wp2_with fail
        refine ⟨⟨k + 1, acc * 16 + (cn - 48), a * 16 + ((cn : Int) - 48), rfl, (by first | rfl | (congr 1; omega)), (by first | rfl | (congr 1; omega)), by omega, HN⟩, by simp [intOf]; omega⟩
      · have HN : Hid (a * 16 + ((lc : Int) - 87) = ((acc * 16 + (lc - 87) : Nat) : Int) ∧ acc * 16 + (lc - 87) < 16 ^ (k + 1) ∧ hexFrom 0 l = hexFrom (acc * 16 + (lc - 87)) (l.drop (k + 1))) :=
          ⟨by have := HEQ.out; omega, by have := HA.out; have := HSU.out; omega, by rw [HDEC.out, HST.out, hv]⟩
        have il0 : (97 : Int) ≤ lc := by omega
        have il1 : (lc : Int) ≤ 102 := by omega
        clear hv HST HDEC HEQ
        rcases Nat.lt_or_ge cn 48 with h48 | h48
        · go_wp2_with (go_at_call 98; refine (HLW.out _).mono ?_; rintro e w' ⟨rfl, rfl⟩)
          refine ⟨⟨k + 1, acc * 16 + (lc - 87), a * 16 + ((lc : Int) - 87), rfl, (by first | rfl | (congr 1; omega)), (by first | rfl | (congr 1; omega)), by omega, HN⟩, by simp [intOf]; omega⟩
        · have h57 : 57 < cn := by omega
          have i57 : (57 : Int) < cn := by omega
          have i48 : (48 : Int) ≤ cn := by omega
          have i95 : ¬ ((cn : Int) = 95) := by omega
          clear h95
          go_wp2_with (go_at_call 98; refine (HLW.out _).mono ?_; rintro e w' ⟨rfl, rfl⟩)
          refine ⟨⟨k + 1, acc * 16 + (lc - 87), a * 16 + ((lc : Int) - 87), rfl, (by first | rfl | (congr 1; omega)), (by first | rfl | (congr 1; omega)), by omega, HN⟩, by simp [intOf]; omega⟩
      · have HF : Hid (hexFrom 0 l = none) := by show _ = _; rw [HDEC.out, HST.out, hv]
        have il0 : (103 : Int) ≤ lc := by omega
        have il1 : (lc : Int) ≤ 122 := by omega
        clear hv HST HDEC HEQ
        rcases Nat.lt_or_ge cn 48 with h48 | h48
        · go_wp2_with (go_at_call 98; refine (HLW.out _).mono ?_; rintro e w' ⟨rfl, rfl⟩)
          go_ret2
          exact ⟨by rw [HF.out]; rfl, hBel.out⟩
        · have h57 : 57 < cn := by omega
          have i57 : (57 : Int) < cn := by omega
          have i48 : (48 : Int) ≤ cn := by omega
          have i95 : ¬ ((cn : Int) = 95) := by omega
          clear h95
          go_wp2_with (go_at_call 98; refine (HLW.out _).mono ?_; rintro e w' ⟨rfl, rfl⟩)
          go_ret2
          exact ⟨by rw [HF.out]; rfl, hBel.out⟩
      · have HF : Hid (hexFrom 0 l = none) := by show _ = _; rw [HDEC.out, HST.out, hv]
        clear hv HST HDEC HEQ
        rcases hl0 with hl0 | hl0
        · have il0 : (lc : Int) < 97 := by omega
          rcases Nat.lt_or_ge cn 48 with h48 | h48
          · go_wp2_with (go_at_call 98; refine (HLW.out _).mono ?_; rintro e w' ⟨rfl, rfl⟩)
            go_ret2
            exact ⟨by rw [HF.out]; rfl, hBel.out⟩
          · have h57 : 57 < cn := by omega
            have i57 : (57 : Int) < cn := by omega
            have i48 : (48 : Int) ≤ cn := by omega
            have i95 : ¬ ((cn : Int) = 95) := by omega
            clear h95
            go_wp2_with (go_at_call 98; refine (HLW.out _).mono ?_; rintro e w' ⟨rfl, rfl⟩)
            go_ret2
            exact ⟨by rw [HF.out]; rfl, hBel.out⟩
        · have il0 : (97 : Int) ≤ lc := by omega
          have il1 : (122 : Int) < lc := by omega
          rcases Nat.lt_or_ge cn 48 with h48 | h48
          · go_wp2_with (go_at_call 98; refine (HLW.out _).mono ?_; rintro e w' ⟨rfl, rfl⟩)
            go_ret2
            exact ⟨by rw [HF.out]; rfl, hBel.out⟩
          · by_cases e95 : cn = 95
            · have e127 := h95 e95
              subst e95
              subst e127
              clear h95
              go_wp2_with (go_at_call 98; refine (HLW.out _).mono ?_; rintro e w' ⟨rfl, rfl⟩)
              go_ret2
              exact ⟨by rw [HF.out]; rfl, hBel.out⟩
            · have i57 : (57 : Int) < cn := by omega
              have i48 : (48 : Int) ≤ cn := by omega
              have i95 : ¬ ((cn : Int) = 95) := by omega
              clear h95
              go_wp2_with (go_at_call 98; refine (HLW.out _).mono ?_; rintro e w' ⟨rfl, rfl⟩)
              go_ret2
              exact ⟨by rw [HF.out]; rfl, hBel.out⟩
    · have hkk : k = l.length := by omega
      subst hkk
      have HF : Hid (hexFrom 0 l = some acc) := by show _ = _; rw [hdec, List.drop_eq_nil_of_le (Nat.le_refl _)]; rfl
      subst ha
      clear hacc hdec hB
      go_wp2_with fail
      go_ret2
      exact ⟨by rw [HF.out]; rfl, hBel.out⟩
end Go.Proofs.YtbnfmiopgjmppaaDoor

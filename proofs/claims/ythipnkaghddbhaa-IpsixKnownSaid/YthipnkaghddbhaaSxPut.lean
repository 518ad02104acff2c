/-
  The contract of Put of package ipsix. Conditions: a header whose numbers fit their Go types.
-/
import Derived.Test.YthipnkaghddbhaaSxH
import Derived.Laws.BitsAllLaws
import Derived.Deep.RegionHeld3
namespace Go.Proofs.Ythipnkaghddbhaa
open Go.RowKit

/-- How a header stands. -/
def h6b (h : H6) : List Int := ((((([] ++ be 4 ((1536 + h.cl) * 1048576 + h.fl)) ++ be 2 h.ln) ++ be 1 h.nx) ++ be 1 h.hp) ++ h.src) ++ h.dst
theorem or_low (m x k : Nat) (h : x < 2 ^ k) : (m * 2 ^ k) ||| x = m * 2 ^ k + x := by
  rw [Nat.mul_comm]; exact (Nat.two_pow_add_eq_or_of_lt h m).symm
theorem or_first (cl : Int) (h0 : 0 ≤ cl) (h1 : cl < 256) : bits .or .u64 1536 cl = 1536 + cl := by
  obtain ⟨n, rfl⟩ := Int.eq_ofNat_of_zero_le h0
  rw [show (1536 : Int) = ((1536 : Nat) : Int) from rfl, u64_or_nat _ _ (by omega) (by omega)]
  have := or_low 6 n 8 (by omega)
  have e : (6 : Nat) * 2 ^ 8 = 1536 := rfl
  rw [e] at this
  rw [this]; rfl
theorem or_second (a fl : Int) (ha : 0 ≤ a) (ha2 : a < 4096) (h0 : 0 ≤ fl) (h1 : fl < 1048576) : bits .or .u64 (a * 1048576) fl = a * 1048576 + fl := by
  obtain ⟨m, rfl⟩ := Int.eq_ofNat_of_zero_le ha
  obtain ⟨n, rfl⟩ := Int.eq_ofNat_of_zero_le h0
  have e0 : (m : Int) * 1048576 = ((m * 1048576 : Nat) : Int) := by omega
  rw [e0, u64_or_nat _ _ (by omega) (by omega)]
  have := or_low m n 20 (by omega)
  have e : (2 : Nat) ^ 20 = 1048576 := rfl
  rw [e] at this
  rw [this]; omega

/-- What Put answers: the header's bytes, in a row of the call's own, or an error. -/
def PutS (w : World) (h : H6) (e : Ending) (w' : World) : Prop :=
  Below w.heap.size w w' ∧ ((h.fl < 1048576 ∧ ∃ a n cap, e = .returned (.tuple #[.slice a n cap, .int .i64 0]) ∧ Own w' w.heap.size a n cap (h6b h)) ∨
    (1048576 ≤ h.fl ∧ e = .returned (.tuple #[.slice none 0 0, .int .i64 51])))
theorem fitk {v : Int} {k : Nat} (h1 : 1 ≤ k) (h8 : k ≤ 8) (v0 : 0 ≤ v) (hv : v < pw k) : U64 v ∧ fitB v k = true := by
  have hu : U64 v := ⟨v0, Int.lt_of_lt_of_le hv (pw_mono h8)⟩
  exact ⟨hu, (fitB_iff hu).2 ⟨by omega, by omega, by simpa using hv⟩⟩

set_option maxRecDepth 100000 in
set_option maxHeartbeats 2000000 in
theorem sxPut_any (h : H6) (w : World) (k : h.ok) : Calls Try.prog 10 #[.agg h.cs.toArray] w (PutS w h) := by
  have hbA : Below w.heap.size w (w.alloc (.cells h.cs.toArray 26)) := (Below.refl _ _).alloc (Nat.le_refl _) _
  have hbB : Below (w.alloc (.cells h.cs.toArray 26)).heap.size (w.alloc (.cells h.cs.toArray 26)) ((w.alloc (.cells h.cs.toArray 26)).alloc (.cells #[.slice none 0 0] 76)) := (Below.refl _ _).alloc (Nat.le_refl _) _
  have c0 := H6.c0 h
  have c1 := H6.c1 h
  have HRW := Lib.hid (range_kept hbB (H6.range w h 26))
  have HBA := Lib.hid hbA
  have HBW : Hid (Below w.heap.size w ((w.alloc (.cells h.cs.toArray 26)).alloc (.cells #[.slice none 0 0] 76))) := hbA.trans (hbB.mono hbA.size)
  have hps := PS.fresh (w.alloc (.cells h.cs.toArray 26))
  rw [World.size_alloc] at hps
  have HP0 := Lib.hid hps
  have HNE : Hid (w.heap.size ≠ w.heap.size + 1) := by show _ ≠ _; omega
  have HK := Lib.hid k
  obtain ⟨cl, hcl⟩ : ∃ x, h.cl = x := ⟨_, rfl⟩
  obtain ⟨fl, hfl⟩ : ∃ x, h.fl = x := ⟨_, rfl⟩
  obtain ⟨ln, hln⟩ : ∃ x, h.ln = x := ⟨_, rfl⟩
  obtain ⟨nx, hnx⟩ : ∃ x, h.nx = x := ⟨_, rfl⟩
  obtain ⟨hp, hhp⟩ : ∃ x, h.hp = x := ⟨_, rfl⟩
  have kcl := k.cl
  have kfl := k.fl
  have kln := k.ln
  have knx := k.nx
  have khp := k.hp
  rw [hcl] at c0 kcl
  rw [hfl] at c1 kfl
  rw [hln] at kln
  rw [hnx] at knx
  rw [hhp] at khp
  have HFL := Lib.hid hfl
  have C2 : Hid (h.cs.toArray[2]? = some (.int .u16 ln)) := by show _ = _; rw [← hln]; exact H6.c2 h
  have C3 : Hid (h.cs.toArray[3]? = some (.int .u8 nx)) := by show _ = _; rw [← hnx]; exact H6.c3 h
  have C4 : Hid (h.cs.toArray[4]? = some (.int .u8 hp)) := by show _ = _; rw [← hhp]; exact H6.c4 h
  have HH6 : Hid (h6b h = ((((([] ++ be 4 ((1536 + cl) * 1048576 + fl)) ++ be 2 ln) ++ be 1 nx) ++ be 1 hp) ++ h.src) ++ h.dst) := by show _ = _; rw [← hcl, ← hfl, ← hln, ← hnx, ← hhp]; rfl
  obtain ⟨cs, hcs⟩ : ∃ x, h.cs.toArray = x := ⟨_, rfl⟩
  have HCS := Lib.hid hcs
  rw [hcs] at c0 c1 HP0 HBA HBW HRW
  rw [hcs]
  clear hcl hfl hln hnx hhp hcs hbA hbB hps k
  by_cases hf : fl < 1048576
  · have e1 := or_first cl kcl.1 kcl.2
    have e2 := or_second (1536 + cl) fl (by omega) (by omega) kfl.1 hf
    have p4 : pw 4 = 4294967296 := by decide
    have p2 : pw 2 = 65536 := by decide
    have p1 : pw 1 = 256 := by decide
    have F0 := Lib.hid (fitk (v := (1536 + cl) * 1048576 + fl) (k := 4) (by omega) (by omega) (by omega) (by omega))
    have F1 := Lib.hid (fitk (v := ln) (k := 2) (by omega) (by omega) kln.1 (by omega))
    have F2 := Lib.hid (fitk (v := nx) (k := 1) (by omega) (by omega) knx.1 (by omega))
    have F3 := Lib.hid (fitk (v := hp) (k := 1) (by omega) (by omega) khp.1 (by omega))
    clear p4 p2 p1
    go_enter Try.func10, Try.ntmps10
    go_wp2_with fail
    refine (HP0.out.put ((1536 + cl) * 1048576 + fl) 4 F0.out (by simp)).mono ?_
    rintro e w2 ⟨rfl, hq⟩
    have HP1 := Lib.hid hq
    have d2 := range_cell (hq.range HRW.out HNE.out) C2.out
    clear hq c0 c1 e1 e2
    go_wp2_with fail
    refine (HP1.out.put ln 2 F1.out (by simp [be_length])).mono ?_
    rintro e w3 ⟨rfl, hq⟩
    have HP2 := Lib.hid hq
    have d3 := range_cell (hq.range HRW.out HNE.out) C3.out
    clear hq d2
    go_wp2_with fail
    refine (HP2.out.put nx 1 F2.out (by simp [be_length])).mono ?_
    rintro e w4 ⟨rfl, hq⟩
    have HP3 := Lib.hid hq
    have d4 := range_cell (hq.range HRW.out HNE.out) C4.out
    clear hq d3
    go_wp2_with fail
    refine (HP3.out.put hp 1 F3.out (by simp [be_length])).mono ?_
    rintro e w5 ⟨rfl, hq⟩
    have HP4 := Lib.hid hq
    have HS5 := Lib.hid (H6.srcAt (hq.range HRW.out HNE.out))
    clear hq d4
    go_wp2_with fail
    refine (HP4.out.raw (some ⟨w.heap.size, 5, none⟩) 16 16 h.src HK.out.src HS5.out (by simp [be_length])).mono ?_
    rintro e w6 ⟨rfl, hq⟩
    have HP5 := Lib.hid hq
    have HD6 := Lib.hid (H6.dstAt HK.out.src (hq.range HRW.out HNE.out))
    clear hq
    go_wp2_with fail
    refine (HP5.out.raw (some ⟨w.heap.size, 21, none⟩) 16 16 h.dst HK.out.dst HD6.out (by simp [be_length, HK.out.src])).mono ?_
    rintro e w7 ⟨rfl, hq⟩
    have hq' : PS ((w.alloc (.cells cs 26)).alloc (.cells #[.slice none 0 0] 76)) (w.heap.size + 1) w7 (h6b h) := by rw [HH6.out]; exact hq
    have HP6 := Lib.hid hq'
    have HLN : Hid ((h6b h).length = 40) := by show _ = _; rw [HH6.out]; simp [be_length, HK.out.src, HK.out.dst]
    clear hq hq'
    go_wp2_with fail
    refine (HP6.out.bytes (by rw [HLN.out]; omega)).mono ?_
    rintro e w8 ⟨a8, n8, c8, rfl, hown, hb8⟩
    have hbn := HP6.out.belowNew w HBW.out (by omega)
    have HB8 : Hid (Below w.heap.size w w8) := hbn.trans (hb8.mono hbn.size)
    have HO8 : Hid (Own w8 w.heap.size a8 n8 c8 (h6b h)) := hown.mono hbn.size
    clear hown hb8 hbn
    go_wp2_with fail
    go_ret2
    exact ⟨HB8.out, .inl ⟨by rw [HFL.out]; exact hf, a8, n8, c8, rfl, HO8.out⟩⟩
  · go_enter Try.func10, Try.ntmps10
    go_wp2_with fail
    go_ret2
    exact ⟨HBA.out, .inr ⟨by rw [HFL.out]; omega, rfl⟩⟩
end Go.Proofs.Ythipnkaghddbhaa

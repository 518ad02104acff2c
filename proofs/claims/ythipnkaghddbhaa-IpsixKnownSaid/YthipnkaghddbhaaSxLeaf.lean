/-
  The smallest functions of package ipsix: number, isKind, dataSize, and a header's word, offset, second, later and right; the document's kind. Conditions: bytes that lie where the slice leads, fewer than a million million.
-/
import Derived.Test.YthipnkaghddbhaaNum
import Derived.Test.YthipnkaghddbhaaWr3
import Derived.Outline
import Derived.WalkMore
import Derived.Deep.MidRow
namespace Go.Proofs.Ythipnkaghddbhaa
open Go.RowKit

def Gives (w : World) (v : Value) (e : Ending) (w' : World) : Prop := e = .returned v ∧ Below w.heap.size w w'
/-- Is it a kind of a header behind? -/
def knd (k : Int) : Bool := decide (k = 0) || (decide (k = 43) || (decide (k = 44) || decide (k = 60)))
/-- A fragment's first word, its second byte, whether it is right, and whether it is not the first one. -/
def wd (xs : List Int) : Int := getV xs 0 2
def rtE (k : Int) (xs : List Int) : Bool := if k = 44 then decide (xs.length = 6) && decide (wd xs / 2 % 4 = 0) else knd k && (decide (xs.length % 8 = 6) && decide (xs.length ≤ 2046))
def ltE (k : Int) (xs : List Int) : Bool := decide (k = 44) && decide (8 ≤ wd xs)
def scE (k : Int) (xs : List Int) : Int := if k = 44 then 0 else (xs.length / 8 : Nat) % 256
theorem wd_range {xs : List Int} (hb : Byt xs) : 0 ≤ wd xs ∧ wd xs ≤ 65535 := by
  unfold wd getV
  split
  · have h := num_range ((xs.drop 0).take 2) ((hb.drop 0).take 2)
    have hl : ((xs.drop 0).take 2).length ≤ 2 := by rw [List.length_take]; omega
    have h2 := pw_mono hl
    have h3 : pw 2 = 65536 := by decide
    have e : (xs.drop (0 : Int).toNat).take (2 : Int).toNat = (xs.drop 0).take 2 := rfl
    rw [e]
    omega
  · omega
theorem sxNumber_any (a : Option Addr) (n cap : Nat) (xs : List Int) (p k : Int) (w : World) (hn : xs.length = n) (hr : Rd w a xs) (hb : Byt xs) (hl : n ≤ 1099511627776) (hc : n ≤ cap) (hp : p ≤ 9223372036854775807) :
    Calls Try.prog 36 #[.slice a n cap, .int .i64 p, .int .i64 k] w fun e w' => e = .returned (.int .u64 (getV xs p k)) ∧ w = w' := by
  have HN := Lib.hid hn
  have HR := Lib.hid hr
  have HB := Lib.hid hb
  clear hn hr hb
  go_enter Try.func36, Try.ntmps36
  go_wp2_with fail
  refine (get_any a n cap xs p k _ HN.out HR.out HB.out (by omega) hc hp).mono ?_
  rintro e w1 ⟨rfl, rfl⟩
  go_wp2_with fail
  go_ret
  exact ⟨rfl, rfl⟩
theorem sxIsKind_any (k : Int) (w : World) (h0 : 0 ≤ k) (h1 : k < 256) : Calls Try.prog 44 #[.int .u8 k] w fun e w' => e = .returned (.bool (knd k)) ∧ w = w' := by
  by_cases e0 : k = 0
  · subst e0
    go_enter Try.func44, Try.ntmps44
    go_wp2_with fail
    go_ret
    exact ⟨rfl, rfl⟩
  by_cases e1 : k = 43
  · subst e1
    go_enter Try.func44, Try.ntmps44
    go_wp2_with fail
    go_ret
    exact ⟨rfl, rfl⟩
  by_cases e2 : k = 44
  · subst e2
    go_enter Try.func44, Try.ntmps44
    go_wp2_with fail
    go_ret
    exact ⟨rfl, rfl⟩
  by_cases e3 : k = 60
  · subst e3
    go_enter Try.func44, Try.ntmps44
    go_wp2_with fail
    go_ret
    exact ⟨rfl, rfl⟩
  have b0 : (k == 0) = false := by simpa using e0
  have b1 : (k == 43) = false := by simpa using e1
  have b2 : (k == 44) = false := by simpa using e2
  have b3 : (k == 60) = false := by simpa using e3
  have HK : Hid (knd k = false) := by show knd k = false; simp [knd, e0, e1, e2, e3]
  go_enter Try.func44, Try.ntmps44
  go_wp2_with fail
  go_ret
  exact ⟨by rw [HK.out]; rfl, rfl⟩
theorem r6kind_any (k : Int) (w : World) (h0 : 0 ≤ k) (h1 : k < 256) : Calls Try.prog 47 #[.int .u8 k] w fun e w' => e = .returned (.bool (knd k)) ∧ w = w' := by
  by_cases e0 : k = 0
  · subst e0
    go_enter Try.func47, Try.ntmps47
    go_wp2_with fail
    go_ret
    exact ⟨rfl, rfl⟩
  by_cases e1 : k = 43
  · subst e1
    go_enter Try.func47, Try.ntmps47
    go_wp2_with fail
    go_ret
    exact ⟨rfl, rfl⟩
  by_cases e2 : k = 44
  · subst e2
    go_enter Try.func47, Try.ntmps47
    go_wp2_with fail
    go_ret
    exact ⟨rfl, rfl⟩
  by_cases e3 : k = 60
  · subst e3
    go_enter Try.func47, Try.ntmps47
    go_wp2_with fail
    go_ret
    exact ⟨rfl, rfl⟩
  have b0 : (k == 0) = false := by simpa using e0
  have b1 : (k == 43) = false := by simpa using e1
  have b2 : (k == 44) = false := by simpa using e2
  have b3 : (k == 60) = false := by simpa using e3
  have HK : Hid (knd k = false) := by show knd k = false; simp [knd, e0, e1, e2, e3]
  go_enter Try.func47, Try.ntmps47
  go_wp2_with fail
  go_ret
  exact ⟨by rw [HK.out]; rfl, rfl⟩
/-- How many bytes of data, by the second byte. -/
def dsz (k s : Int) : Int := if k = 44 then 6 else 6 + s * 8
theorem sxDataSize_any (k s : Int) (w : World) (h0 : 0 ≤ s) (h1 : s < 256) : Calls Try.prog 65 #[.int .u8 k, .int .u8 s] w fun e w' => e = .returned (.int .i64 (dsz k s)) ∧ w = w' := by
  by_cases e : k = 44
  · subst e
    go_enter Try.func65, Try.ntmps65
    go_wp2_with fail
    go_ret
    exact ⟨rfl, rfl⟩
  · have b0 : (k == 44) = false := by simpa using e
    have HD : Hid (dsz k s = 6 + s * 8) := by show _ = _; rw [dsz, if_neg e]
    go_enter Try.func65, Try.ntmps65
    go_wp2_with fail
    go_ret
    exact ⟨by rw [HD.out]; rfl, rfl⟩
/-- A header behind, as it lies in a slot, and what is asked of its data. -/
structure Ex where
  k : Int
  a : Option Addr
  n : Nat
  c : Nat
  xs : List Int
def Ex.val (x : Ex) : Value := .agg #[.int .u8 x.k, .slice x.a x.n x.c]
structure Ex.ok (w : World) (x : Ex) : Prop where
  kind : 0 ≤ x.k ∧ x.k < 256
  len : x.xs.length = x.n
  cap : x.n ≤ x.c
  max : x.c ≤ maxLen
  rd : Rd w x.a x.xs
  byt : Byt x.xs
theorem Ex.ok.below {w w' : World} {x : Ex} (h : x.ok w) (hb : Below w.heap.size w w') : x.ok w' := ⟨h.kind, h.len, h.cap, h.max, h.rd.below hb, h.byt⟩
theorem sxWord_any (x : Ex) (w : World) (h : x.ok w) (hl : x.n ≤ 1099511627776) : Calls Try.prog 41 #[x.val] w (Gives w (.int .u16 (wd x.xs))) := by
  obtain ⟨k, a, n, c, xs⟩ := x
  have hbA : Below w.heap.size w (w.alloc (.cells #[.int .u8 k, .slice a n c] 71)) := (Below.refl _ _).alloc (Nat.le_refl _) _
  have HB := Lib.hid hbA
  have HX := Lib.hid (h.below hbA)
  have hl' : n ≤ 1099511627776 := hl
  obtain ⟨r0, r1⟩ := wd_range h.byt
  have HW : Hid (getV xs 0 2 = wd xs) := rfl
  obtain ⟨v, hv⟩ : ∃ v, wd xs = v := ⟨_, rfl⟩
  have HV : Hid (wd (Ex.mk k a n c xs).xs = v) := hv
  rw [hv] at HW
  have r0' : 0 ≤ v := by rw [← hv]; exact r0
  have r1' : v ≤ 65535 := by rw [← hv]; exact r1
  clear h hl hbA r0 r1 hv
  show Calls _ _ #[.agg #[.int .u8 k, .slice a n c]] _ _
  go_enter Try.func41, Try.ntmps41
  go_wp2_with fail
  refine (sxNumber_any a n c xs 0 2 _ HX.out.len HX.out.rd HX.out.byt hl' HX.out.cap (by omega)).mono ?_
  rintro e w1 ⟨rfl, rfl⟩
  rw [HW.out]
  go_wp2_with fail
  go_ret
  exact ⟨by rw [HV.out]; rfl, HB.out⟩
theorem sxOffset_any (x : Ex) (w : World) (h : x.ok w) (hl : x.n ≤ 1099511627776) : Calls Try.prog 40 #[x.val] w (Gives w (.int .u16 (wd x.xs / 8))) := by
  obtain ⟨k, a, n, c, xs⟩ := x
  have hbA : Below w.heap.size w (w.alloc (.cells #[.int .u8 k, .slice a n c] 71)) := (Below.refl _ _).alloc (Nat.le_refl _) _
  have HB := Lib.hid hbA
  have HX := Lib.hid (h.below hbA)
  have hl' : n ≤ 1099511627776 := hl
  obtain ⟨r0, r1⟩ := wd_range h.byt
  obtain ⟨v, hv⟩ : ∃ v, wd xs = v := ⟨_, rfl⟩
  have HV : Hid (wd (Ex.mk k a n c xs).xs = v) := hv
  have r0' : 0 ≤ v := by rw [← hv]; exact r0
  have r1' : v ≤ 65535 := by rw [← hv]; exact r1
  clear h hl hbA r0 r1 hv
  show Calls _ _ #[.agg #[.int .u8 k, .slice a n c]] _ _
  go_enter Try.func40, Try.ntmps40
  go_wp2_with fail
  refine (sxWord_any ⟨k, a, n, c, xs⟩ _ HX.out hl').mono ?_
  rintro e w1 ⟨rfl, hb1⟩
  rw [HV.out]
  have HB1 := Lib.hid (HB.out.trans (hb1.mono HB.out.size))
  clear hb1
  go_wp2_with fail
  go_ret
  exact ⟨by rw [HV.out]; rfl, HB1.out⟩
end Go.Proofs.Ythipnkaghddbhaa

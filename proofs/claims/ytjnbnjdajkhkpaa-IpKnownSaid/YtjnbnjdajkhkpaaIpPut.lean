/-
  The contract of Put of package ip. Conditions: a header whose numbers fit their Go types and whose options lie where the slice leads.
-/
import Derived.Test.YtjnbnjdajkhkpaaIpP
import Derived.Test.YtjnbnjdajkhkpaaRowLit
namespace Go.Proofs.Ytjnbnjdajkhkpaa
open Go.RowKit

/-- The checksum of a header, and how it stands. -/
def hck (h : Hd) : Int := 65535 - fld (ws 0 (hby h 0))
def hfull (h : Hd) : List Int := splice (hby h 0) 10 (be 2 (hck h))
theorem hby_byt (h : Hd) (c : Int) (h1 : Byt h.src) (h2 : Byt h.dst) (h3 : Byt h.op) : Byt (hby h c) := by
  have hb : ∀ k v, Byt (be k v) := fun k v => be_range k v
  exact ((((((((((Byt.nil.append (hb _ _)).append (hb _ _)).append (hb _ _)).append (hb _ _)).append (hb _ _)).append (hb _ _)).append (hb _ _)).append (hb _ _)).append h1).append h2).append h3
theorem hfull_len (h : Hd) (h1 : h.src.length = 4) (h2 : h.dst.length = 4) (h3 : h.op.length = h.n) : (hfull h).length = 20 + h.n := by
  have hl := hby_len h 0 h1 h2 h3
  rw [hfull, splice_length (by rw [be_length]; omega), hl]
/-- What Put answers: the header's bytes, in a row of the call's own, or an error. -/
def PutH (w : World) (h : Hd) (e : Ending) (w' : World) : Prop :=
  Below w.heap.size w w' ∧ ((rgH h.frag h.tot h.n = true ∧ ∃ a n cap, e = .returned (.tuple #[.slice a n cap, .int .i64 0]) ∧ Own w' w.heap.size a n cap (hfull h)) ∨
    (rgH h.frag h.tot h.n = false ∧ e = .returned (.tuple #[.slice none 0 0, .int .i64 51])))
theorem rgH_iff {frag tot : Int} {n : Nat} : rgH frag tot n = true ↔ frag ≤ 8191 ∧ n % 4 = 0 ∧ n ≤ 40 ∧ 20 + (n : Int) ≤ tot := by
  simp [rgH]

set_option maxRecDepth 100000 in
set_option maxHeartbeats 2000000 in
theorem iPut_any (h : Hd) (w : World) (k : h.ok w) (hm : h.n ≤ 9000000000000) : Calls Try.prog 11 #[.agg h.cs.toArray] w (PutH w h) := by
  have HK := Lib.hid k
  have HM := Lib.hid hm
  have HL := Lib.hid k.len
  have HR := Lib.hid (Hd.range w h 26)
  have HB1 : Hid (Below w.heap.size w (w.alloc (.cells h.cs.toArray 26))) := (Below.refl w.heap.size w).alloc (Nat.le_refl _) _
  clear k hm
  cases hrg : rgH h.frag h.tot h.n with
  | false =>
    have HG := Lib.hid hrg
    clear hrg
    go_enter Try.func11, Try.ntmps11
    go_wp2_with (refine ldH _ rfl rfl _ rfl h HL.out HR.out ?_)
    refine (iRight_any h _ _ HK.out HM.out).mono ?_
    rintro e w1 ⟨rfl, hb⟩
    have HB2 : Hid (Below w.heap.size w w1) := HB1.out.trans (hb.mono (by simp))
    clear hb
    rw [HG.out]
    go_wp2_with fail
    go_ret2
    exact ⟨HB2.out, .inr ⟨HG.out, rfl⟩⟩
  | true =>
    have HG := Lib.hid hrg
    clear hrg
    go_enter Try.func11, Try.ntmps11
    go_wp2_with (refine ldH _ rfl rfl _ rfl h HL.out HR.out ?_)
    refine (iRight_any h _ _ HK.out HM.out).mono ?_
    rintro e w1 ⟨rfl, hb⟩
    have HB2 : Hid (Below w.heap.size w w1) := HB1.out.trans (hb.mono (by simp))
    have HR1 := Lib.hid (range_kept hb HR.out)
    have HP := Lib.hid (PS.fresh w1)
    have HBA : Hid (Below w1.heap.size w1 (w1.alloc (.cells #[.slice none 0 0] 64))) := (Below.refl _ _).alloc (Nat.le_refl _) _
    have HR2 := Lib.hid (range_kept HBA.out HR1.out)
    have HB3 : Hid (Below w.heap.size w (w1.alloc (.cells #[.slice none 0 0] 64))) := HB2.out.alloc HB2.out.size _
    have HNE : Hid (w.heap.size ≠ w1.heap.size) := by have := hb.size; simp at this; show _ ≠ _; omega
    clear hb
    rw [HG.out]
    obtain ⟨f1, f2, f3, f4⟩ := rgH_iff.1 HG.out
    have HF1 := Lib.hid f1
    have HF2 := Lib.hid f2
    have HF3 := Lib.hid f3
    clear f1 f2 f3 f4
    go_wp2_with (refine ldH _ rfl rfl _ rfl h HL.out HR2.out ?_)
    refine (iParts_any h _ _ HP.out (HK.out.below HB3.out) HF1.out HF2.out HF3.out (HK.out.row.rd.apart HB2.out.size)).mono ?_
    rintro e w2 ⟨rfl, hp⟩
    have HP2 := Lib.hid hp
    have HLN := Lib.hid (hby_len h 0 HK.out.src HK.out.dst HK.out.row.len)
    have HBY := Lib.hid (hby_byt h 0 HK.out.srcb HK.out.dstb HK.out.row.byt)
    have HLT : Hid ((hby h 0).length ≤ 60) := by have := HF3.out; show _ ≤ _; rw [HLN.out]; omega
    clear hp HR1 HR2 HR HB1
    go_wp2_with fail
    refine (HP2.out.bytes (by have := HLT.out; omega)).mono ?_
    rintro e w3 ⟨a3, n3, c3, rfl, hown, hb3⟩
    have HP3 := Lib.hid (HP2.out.below hb3)
    have HO3 := Lib.hid hown
    clear hown hb3 HP2
    go_wp2_with fail
    refine (of_lit w3 [⟨a3, n3, c3, hby h 0⟩] _ 1 _ rfl rfl rfl
      (all_one ⟨HO3.out.len, HO3.out.le.1, HO3.out.le.2, HO3.out.rd, HBY.out⟩) (by omega) (all_one (show n3 ≤ 1000 by have := HLT.out; have := HO3.out.len; omega))).mono ?_
    rintro e w4 ⟨rfl, hb4⟩
    have HP4 := Lib.hid (HP3.out.below hb4)
    have HCK : Hid (65535 - fld (ws 0 (cat [⟨a3, n3, c3, hby h 0⟩])) = hck h) := by show _ = _; rw [cat]; simp [hck]
    obtain ⟨r0, r1⟩ := @fld_range (ws 0 (hby h 0)) (ws_range _ 0 HBY.out).1
    have HC0 : Hid (0 ≤ hck h ∧ hck h ≤ 65535) := by show _ ∧ _; unfold hck; omega
    rw [HCK.out]
    clear hb4 HP3 HO3 r0 r1
    go_wp2_with fail
    refine (HP4.out.check (hck h) (by have := HLT.out; omega) (by have := HLN.out; omega) HC0.out.1 HC0.out.2).mono ?_
    rintro e w5 ⟨rfl, hp⟩
    have HP5 := Lib.hid hp
    have HFL := Lib.hid (hfull_len h HK.out.src HK.out.dst HK.out.row.len)
    clear hp HP4
    go_wp2_with fail
    refine (HP5.out.bytes (by have h1 := HFL.out; have h2 := HF3.out; rw [hfull] at h1; omega)).mono ?_
    rintro e w6 ⟨a6, n6, c6, rfl, hown, hb6⟩
    have HB6 : Hid (Below w.heap.size w w6) := (HP5.out.belowNew w HB3.out HB2.out.size).trans (hb6.mono (HP5.out.belowNew w HB3.out HB2.out.size).size)
    have HO6 : Hid (Own w6 w.heap.size a6 n6 c6 (hfull h)) := hown.mono (HP5.out.belowNew w HB3.out HB2.out.size).size
    clear hown hb6
    go_wp2_with fail
    go_ret2
    exact ⟨HB6.out, .inl ⟨HG.out, a6, n6, c6, rfl, HO6.out⟩⟩
end Go.Proofs.Ytjnbnjdajkhkpaa

/-
  The contracts of pseudoHeader, of a kind's covered and of its bounds, of package trans. Conditions: bytes that lie where the slices lead, at most 65535 of a segment, two addresses of one length.
-/
import Derived.Test.YtabdejoakecioaaTrKind
namespace Go.Proofs.Ytabdejoakecioaa
open Go.RowKit

set_option maxHeartbeats 1000000 in
theorem tPseudo_any (p : Int) (m : Nat) (a b : Option Addr) (n c k d : Nat) (xs ys : List Int) (w : World) (p0 : 0 ≤ p) (p1 : p < 256) (hm : m ≤ 65535) (hn : xs.length = n) (hk : ys.length = k) (hx : Rd w a xs) (hy : Rd w b ys) (hn16 : n ≤ 16) (hk16 : k ≤ 16) :
    Calls Try.prog 66 #[.int .u8 p, .int .i64 m, .slice a n c, .slice b k d] w (Made w (psd p m xs ys)) := by
  have HA : Hid (Below w.heap.size w (w.alloc (.cells #[.slice none 0 0] 67))) := (Below.refl _ _).alloc (Nat.le_refl _) _
  have HP0 : Hid (PS (w.alloc (.cells #[.slice none 0 0] 67)) w.heap.size (w.alloc (.cells #[.slice none 0 0] 67)) []) := PS.fresh w
  have HN := Lib.hid hn
  have HK := Lib.hid hk
  have HX := Lib.hid (hx.below HA.out)
  have HY := Lib.hid (hy.below HA.out)
  have HXA := Lib.hid (hx.apart (Nat.le_refl _))
  have HYA := Lib.hid (hy.apart (Nat.le_refl _))
  have F1 := Lib.hid (fit2 (c := p) p0 (by omega))
  have F2 := Lib.hid (fit2 (c := (m : Int)) (by omega) (by omega))
  have F3 := Lib.hid (fit4 (c := (m : Int)) (by omega) (by omega))
  have F4 := Lib.hid (fit4 (c := p) p0 (by omega))
  have b1 : IntKind.u64.wrap p = p := by rw [IntKind.wrap_u64]; omega
  have b2 : IntKind.u64.wrap (m : Int) = (m : Int) := by rw [IntKind.wrap_u64]; omega
  have HFIN : Hid (psd p m xs ys = (([] ++ xs) ++ ys) ++ (if n = 4 then be 2 p ++ be 2 m else be 4 m ++ be 4 p)) := by show psd _ _ _ _ = _; unfold psd; rw [hn]; simp
  have HFN := fun (wz : World) (h : PS (w.alloc (.cells #[.slice none 0 0] 67)) w.heap.size wz (psd p m xs ys)) => h.belowNew w HA.out (Nat.le_refl _)
  have HFN' := Lib.hid HFN
  clear hn hk hx hy HFN
  go_enter Try.func66, Try.ntmps66
  go_wp2_with fail
  refine (HP0.out.raw a n c xs HN.out HX.out (by simp; omega)).mono ?_
  rintro e w1 ⟨rfl, hp⟩
  have HP1 := Lib.hid hp
  clear hp
  go_wp2_with fail
  refine (HP1.out.raw b k d ys HK.out (HP1.out.rd HY.out HYA.out) (by have := HN.out; simp; omega)).mono ?_
  rintro e w2 ⟨rfl, hp⟩
  have HP2 := Lib.hid hp
  clear hp HP1 HP0
  by_cases h4 : n = 4
  · have q4 : ((n : Int) == 4) = true := by simp; omega
    rw [if_pos h4] at HFIN
    go_wp2_with fail
    refine (HP2.out.put p 2 F1.out (by have h1 := HN.out; have h2 := HK.out; simp; omega)).mono ?_
    rintro e w3 ⟨rfl, hp⟩
    have HP3 := Lib.hid hp
    clear hp HP2
    go_wp2_with fail
    refine (HP3.out.put (m : Int) 2 F2.out (by have h1 := HN.out; have h2 := HK.out; simp [be_length]; omega)).mono ?_
    rintro e w4 ⟨rfl, hp⟩
    have HP4 : Hid (PS (w.alloc (.cells #[.slice none 0 0] 67)) w.heap.size w4 (psd p m xs ys)) := by
      show PS _ _ _ _; rw [HFIN.out, ← List.append_assoc]; exact hp
    clear hp HP3
    go_wp2_with fail
    refine (HP4.out.bytes (by have h1 := HN.out; have h2 := HK.out; rw [HFIN.out]; simp [be_length]; omega)).mono ?_
    rintro e w5 ⟨a5, n5, c5, rfl, hown, hb5⟩
    have HB := Lib.hid (HFN'.out w4 HP4.out)
    have HO := Lib.hid (hown.mono HB.out.size)
    have HB5 := Lib.hid (HB.out.trans (hb5.mono HB.out.size))
    clear hown hb5
    go_wp2_with fail
    go_ret
    exact ⟨a5, n5, c5, rfl, HO.out, HB5.out⟩
  · have q4 : ((n : Int) == 4) = false := by simp; omega
    rw [if_neg h4] at HFIN
    go_wp2_with fail
    refine (HP2.out.put (m : Int) 4 F3.out (by have h1 := HN.out; have h2 := HK.out; simp; omega)).mono ?_
    rintro e w3 ⟨rfl, hp⟩
    have HP3 := Lib.hid hp
    clear hp HP2
    go_wp2_with fail
    refine (HP3.out.put p 4 F4.out (by have h1 := HN.out; have h2 := HK.out; simp [be_length]; omega)).mono ?_
    rintro e w4 ⟨rfl, hp⟩
    have HP4 : Hid (PS (w.alloc (.cells #[.slice none 0 0] 67)) w.heap.size w4 (psd p m xs ys)) := by
      show PS _ _ _ _; rw [HFIN.out, ← List.append_assoc]; exact hp
    clear hp HP3
    go_wp2_with fail
    refine (HP4.out.bytes (by have h1 := HN.out; have h2 := HK.out; rw [HFIN.out]; simp [be_length]; omega)).mono ?_
    rintro e w5 ⟨a5, n5, c5, rfl, hown, hb5⟩
    have HB := Lib.hid (HFN'.out w4 HP4.out)
    have HO := Lib.hid (hown.mono HB.out.size)
    have HB5 := Lib.hid (HB.out.trans (hb5.mono HB.out.size))
    clear hown hb5
    go_wp2_with fail
    go_ret
    exact ⟨a5, n5, c5, rfl, HO.out, HB5.out⟩

/-- Rows, that a checksum goes over. -/
structure Cov (w w' : World) (p : Int) (xs src dst : List Int) (e : Ending) : Prop where
  out : ∃ (g : Nat) (l : List Row), e = .returned (.slice (some ⟨g, 0, none⟩) l.length l.length) ∧ RdR w' (some ⟨g, 0, none⟩) l ∧ l.length ≤ 2 ∧ cat l = cov p xs src dst ∧ ∀ r ∈ l, r.n ≤ max 40 xs.length
  below : Below w.heap.size w w'
theorem kd_two (p : Int) (h : hdN p ≠ 0) : (kdV p).toArray[2]? = some (.bool (decide (p = 1))) := by
  have hp : p = 6 ∨ p = 17 ∨ p = 1 ∨ p = 58 := by
    unfold hdN at h
    split at h
    · exact .inl (by assumption)
    split at h
    · exact .inr (.inl (by assumption))
    split at h
    · exact .inr (.inr (.inl (by assumption)))
    split at h
    · exact .inr (.inr (.inr (by assumption)))
    · exact absurd rfl h
  rcases hp with rfl | rfl | rfl | rfl <;> rfl
set_option maxHeartbeats 1000000 in
theorem tCovered_any (p : Int) (a sa da : Option Addr) (n c sn sc dn dc : Nat) (xs src dst : List Int) (w w0 : World) (hb0 : Below w0.heap.size w0 w) (h : hdN p ≠ 0) (hx : Row.ok w ⟨a, n, c, xs⟩) (hs : Row.ok w ⟨sa, sn, sc, src⟩) (hd : Row.ok w ⟨da, dn, dc, dst⟩) (had : adB sn dn = true) (hn : n ≤ 65535) :
    Calls Try.prog 37 #[.agg (kdV p).toArray, .int .u8 p, .slice a n c, .slice sa sn sc, .slice da dn dc] w fun e w' => Cov w0 w' p xs src dst e := by
  have hc2 := kd_two p h
  have hp : 0 ≤ p ∧ p < 256 := by
    unfold hdN at h
    split at h
    · omega
    split at h
    · omega
    split at h
    · omega
    split at h
    · omega
    · exact absurd rfl h
  have HQ := Lib.hid ((adB_iff _ _).1 had)
  obtain ⟨wA, hwA⟩ : ∃ x, w.alloc (.cells (kdV p).toArray 63) = x := ⟨_, rfl⟩
  have hbA : Below w.heap.size w wA := by rw [← hwA]; exact (Below.refl _ _).alloc (Nat.le_refl _) _
  have hrA : wA.rangeAt w.heap.size 0 (kdV p) := by rw [← hwA]; exact range_new _ _ _
  have c2 := range_cell hrA hc2
  have HBA := Lib.hid (hb0.trans (hbA.mono hb0.size))
  have HX := Lib.hid (hx.below hbA)
  have HS := Lib.hid (hs.below hbA)
  have HD := Lib.hid (hd.below hbA)
  have HLS := Lib.hid hs.len
  have HLD := Lib.hid hd.len
  have HLX := Lib.hid hx.len
  obtain ⟨cs, hcs⟩ : ∃ cs, (kdV p).toArray = cs := ⟨_, rfl⟩
  rw [hcs] at hwA ⊢
  clear hcs hc2 h hbA hrA hx hs hd had hb0
  by_cases h1 : p = 1
  · subst h1
    have c2' : wA.cell? ⟨w.heap.size, 2, none⟩ = some (.bool true) := c2
    clear c2
    have HL := Lib.hid (RdR.lit wA 24 [⟨a, n, c, xs⟩] (all_one HX.out))
    have HB2 : Hid (Below w0.heap.size w0 (wA.alloc (.cells #[.slice a n c] 24))) := HBA.out.alloc HBA.out.size _
    go_enter Try.func37, Try.ntmps37
    go_wp2_with fail
    go_ret
    exact ⟨⟨wA.heap.size, [⟨a, n, c, xs⟩], rfl, HL.out, by simp, by rw [cat_one, cov, if_pos rfl], all_one (by show n ≤ _; have : xs.length = n := HLX.out; omega)⟩, HB2.out⟩
  · have c2' : wA.cell? ⟨w.heap.size, 2, none⟩ = some (.bool false) := by rw [c2, decide_eq_false h1]
    clear c2
    go_enter Try.func37, Try.ntmps37
    go_wp2_with fail
    refine (tPseudo_any p n sa da sn sc dn dc src dst _ hp.1 hp.2 hn HLS.out HLD.out HS.out.rd HD.out.rd (by have := HQ.out; omega) (by have := HQ.out; omega)).mono ?_
    rintro e w1 ⟨a1, n1, c1, rfl, hown, hb1⟩
    have HX1 := Lib.hid (HX.out.below hb1)
    have HB1 := Lib.hid (HBA.out.trans (hb1.mono HBA.out.size))
    have hpl := psd_len (p := p) (m := n) (src := src) (dst := dst) (by rw [HLS.out, HLD.out]; exact (adB_iff _ _).2 HQ.out)
    have HR1 : Hid (Row.ok w1 ⟨a1, n1, c1, psd p n src dst⟩) := ⟨hown.len, hown.le.1, hown.le.2, hown.rd, psd_byt p n HS.out.byt HD.out.byt⟩
    have HN1 : Hid (n1 ≤ 40) := by show _ ≤ _; rw [← hown.len]; exact hpl.2
    have HL := Lib.hid (RdR.lit w1 24 [⟨a1, n1, c1, psd p n src dst⟩, ⟨a, n, c, xs⟩] (all_two HR1.out HX1.out))
    have HB2 : Hid (Below w0.heap.size w0 (w1.alloc (.cells #[.slice a1 n1 c1, .slice a n c] 24))) := HB1.out.alloc HB1.out.size _
    clear hown hb1 hpl
    go_wp2_with fail
    go_ret
    refine ⟨⟨w1.heap.size, [⟨a1, n1, c1, psd p n src dst⟩, ⟨a, n, c, xs⟩], rfl, HL.out, by simp, ?_, all_two (by show n1 ≤ _; have := HN1.out; omega) (by show n ≤ _; have : xs.length = n := HLX.out; omega)⟩, HB2.out⟩
    rw [cat_two, cov, if_neg h1, HLX.out]
end Go.Proofs.Ytabdejoakecioaa

/-
  SumKnown: the statement's function, which takes nothing, answers true. No conditions.
-/
import Derived.Test.YtpbopghnoinlbaaSumTells
import Derived.Test.YtpbopghnoinlbaaSumFinds
import Derived.Deep.RegionHeld3
namespace Go.Proofs.Ytpbopghnoinlbaa
open Go.ChangeShapes Go.WideShapes Go.ChangeAt Go.RowKit

/-- The rows that are tried. -/
def six (k : Nat) : List Int := [255, 255, 0, (k : Int) * 37 % 256, 1, 254]
theorem six_byt (k : Nat) : Byt (six k) := by intro x hx; simp [six] at hx; omega
theorem six_cell (w : World) (k r : Nat) (hr : r < 6) : (w.alloc (.cells #[.int .u8 255, .int .u8 255, .int .u8 0, .int .u8 ((k : Int) * 37 % 256), .int .u8 1, .int .u8 254] 5)).cell? ⟨w.heap.size, r, none⟩ = some (.int .u8 ((six k).getD r 0)) := by
  have h := (Own.lit w w.heap.size (six k) 6 rfl (by decide) (Nat.le_refl _)).rd
  have h2 := rd_at h (j := r) (by exact hr)
  rw [Nat.zero_add] at h2
  exact h2

/-- The bytes so far. -/
structure Kn (w wr : World) (a : Option Addr) (k c : Nat) (bs : List Int) : Prop where
  own : Own wr w.heap.size a k c bs
  byt : Byt bs
  below : Below w.heap.size w wr
theorem Kn.next {w wr wr' : World} {a : Option Addr} {k c : Nat} {bs : List Int} (h : Kn w wr a k c bs) (hb : Below wr.heap.size wr wr') : Kn w wr' a k c bs := ⟨h.own.below hb, h.byt, h.below.trans (hb.mono h.below.size)⟩

theorem u16w (n : Int) : 0 ≤ IntKind.u16.wrap n ∧ IntKind.u16.wrap n ≤ 65535 := by rw [IntKind.wrap_u16]; omega
theorem below_drew {w w' : World} (h : Below w.heap.size w w') : Below w.heap.size w w'.drew := ⟨h.os, h.tape, h.output, h.size, h.block⟩
theorem drew_below {w w' : World} (h : Below w.drew.heap.size w.drew w') : Below w.heap.size w w' := ⟨h.os, h.tape, h.output, h.size, h.block⟩
/-- The four rows that SumTells is handed. -/
def four (g k c p t : Nat) (bs : List Int) : List Row := [⟨some ⟨g, 0, none⟩, k, c, bs⟩, ⟨some ⟨g, 0, none⟩, p, c, bs.take p⟩, Row.no, ⟨some ⟨g, t, none⟩, k - t, c - t, bs.drop t⟩]
theorem Kn.four {w wr : World} {g k c p t : Nat} {bs : List Int} (h : Kn w wr (some ⟨g, 0, none⟩) k c bs) (hp : p ≤ k) (ht : t ≤ k) : ∀ r ∈ four g k c p t bs, r.ok wr := by
  have hle := h.own.le
  intro r hr
  simp only [_root_.Go.Proofs.Ytpbopghnoinlbaa.four, List.mem_cons, List.not_mem_nil, or_false] at hr
  rcases hr with rfl | rfl | rfl | rfl
  · exact ⟨h.own.len, hle.1, hle.2, h.own.rd, h.byt⟩
  · refine ⟨?_, by show p ≤ c; omega, hle.2, h.own.rd.taken p, h.byt.take p⟩
    show (bs.take p).length = p
    rw [List.length_take, h.own.len]; omega
  · exact Row.no_ok _
  · refine ⟨?_, by show k - t ≤ c - t; omega, by show c - t ≤ maxLen; omega, ?_, h.byt.drop t⟩
    · show (bs.drop t).length = k - t
      rw [List.length_drop, h.own.len]
    · have := h.own.rd.dropped (m := t) (by rw [h.own.len]; exact ht)
      rwa [Nat.zero_add] at this
theorem tells_four {w wr : World} {g k c p t : Nat} {bs : List Int} (h : Kn w wr (some ⟨g, 0, none⟩) k c bs) (hp : p ≤ k) (ht : t ≤ k) (x y z : Int) :
    Calls Try.prog 3 #[.slice (some ⟨wr.heap.size, 0, none⟩) 4 4, .int .u16 (IntKind.u16.wrap x), .int .u16 (IntKind.u16.wrap y), .int .u16 (IntKind.u16.wrap z)]
      (wr.alloc (.cells #[.slice (some ⟨g, 0, none⟩) k c, .slice (some ⟨g, 0, none⟩) p c, .slice none 0 0, .slice (some ⟨g, t, none⟩) (k - t) (c - t)] 24)).drew fun e w' => e = .returned (.bool true) ∧ Kn w w' (some ⟨g, 0, none⟩) k c bs := by
  have hb : Below wr.heap.size wr (wr.alloc (.cells #[.slice (some ⟨g, 0, none⟩) k c, .slice (some ⟨g, 0, none⟩) p c, .slice none 0 0, .slice (some ⟨g, t, none⟩) (k - t) (c - t)] 24)) := (Below.refl _ _).alloc (Nat.le_refl _) _
  have hR : RdR (wr.alloc (.cells #[.slice (some ⟨g, 0, none⟩) k c, .slice (some ⟨g, 0, none⟩) p c, .slice none 0 0, .slice (some ⟨g, t, none⟩) (k - t) (c - t)] 24)) (some ⟨wr.heap.size, 0, none⟩) (four g k c p t bs) := RdR.lit wr 24 (four g k c p t bs) (h.four hp ht)
  refine (tells_any _ 4 4 (four g k c p t bs) _ _ _ _ rfl (by omega) (by decide) (hR.below (below_drew (Below.refl _ _))) (u16w x).1 (u16w x).2 (u16w y).1 (u16w y).2 (u16w z).1 (u16w z).2).mono ?_
  rintro e w' ⟨rfl, hbb⟩
  exact ⟨rfl, (h.next hb).next (drew_below hbb)⟩

/-- A copy of the bytes, with bytes put behind it; and the bytes. -/
structure Two (w wr : World) (a : Option Addr) (n c : Nat) (ys : List Int) (g m d : Nat) (bs : List Int) : Prop where
  kw : Kn w wr a n c ys
  kb : Kn w wr (some ⟨g, 0, none⟩) m d bs
  ne : blk a ≠ some g
theorem Two.next {w wr wr' : World} {a : Option Addr} {n c : Nat} {ys : List Int} {g m d : Nat} {bs : List Int} (h : Two w wr a n c ys g m d bs) (hb : Below wr.heap.size wr wr') : Two w wr' a n c ys g m d bs := ⟨h.kw.next hb, h.kb.next hb, h.ne⟩
theorem Kn.copy {w wr : World} {g k c : Nat} {bs : List Int} (h : Kn w wr (some ⟨g, 0, none⟩) k c bs) (hp : 0 < k) (hk : k ≤ 1000) : ∃ g' c' w', (Builtin.append_ #[24, 24] 24 #[.slice none 0 0, .slice (some ⟨g, 0, none⟩) k c]).run Try.prog wr = .ok (.slice (some ⟨g', 0, none⟩) k c') w' ∧ Two w w' (some ⟨g', 0, none⟩) k c' bs g k c bs := by
  obtain ⟨g', c', w', hrun, hc⟩ := copy_new wr _ k c bs h.own.len h.own.rd hp (by omega)
  refine ⟨g', c', w', hrun, ⟨hc.own.mono h.below.size, h.byt, h.below.trans (hc.below.mono h.below.size)⟩, h.next hc.below, fun e => ?_⟩
  have h1 := (h.own.blk_ge g rfl).2
  have h2 := (hc.own.blk_ge g e).1
  omega
theorem Two.more {w wr : World} {a : Option Addr} {n c k : Nat} {ys zs : List Int} {g m d : Nat} {bs : List Int} (h : Two w wr a n c ys g m d bs) (hn : n ≤ 1000) (hk : zs.length = k) (hk2 : k ≤ 1000) (hb : Byt zs) :
    ∃ a' c' w', (Builtin.append_ #[24, 24] 24 #[.slice a n c, .slice (some ⟨wr.heap.size, 0, none⟩) k k]).run Try.prog (wr.alloc (.cells (bv zs).toArray 5)) = .ok (.slice a' (n + k) c') w' ∧ Two w w' a' (n + k) c' (ys ++ zs) g m d bs := by
  have hA := h.next ((Below.refl wr.heap.size wr).alloc (Nat.le_refl _) (.cells (bv zs).toArray 5))
  obtain ⟨a', c', w', hrun, hown, hg, hx⟩ := run_append_rd (wr.alloc (.cells (bv zs).toArray 5)) w.heap.size 24 hA.kw.own k hk (Own.lit wr wr.heap.size zs k hk (by unfold maxLen; omega) (Nat.le_refl _)).rd (by omega) hA.kw.below.size
  have hbel := hA.kw.below.grown hg hA.kw.below.size (fun i hi => (hA.kw.own.blk_ge i hi).1)
  have hkp : Kept (fun b => blk a = some b) (wr.alloc (.cells (bv zs).toArray 5)) w' := Kept.grown hg (S := fun b => blk a = some b) (fun _ e => e)
  refine ⟨a', c', w', hrun, ⟨hown, h.kw.byt.append hb, hbel⟩, ⟨hA.kb.own.keep hkp (fun b hb1 hb2 => ?_), h.kb.byt, hbel⟩, fun e => ?_⟩
  · simp [blk] at hb1
    subst hb1
    exact h.ne hb2
  · rcases hx with e2 | e2
    · rw [e2] at e; exact h.ne e
    · rw [e2] at e
      have h1 := (h.kb.own.blk_ge g rfl).2
      simp at e
      omega

/-- The numbers that are tried. -/
def xv (q : Nat) : Int := [0, 1, 65535, 65534].getD q 0
theorem xs_cells (w : World) (p q r : Nat) (hp : p < 4) (hq : q < 4) (hr : r < 4) : ∃ w1, w.alloc (.cells #[.int .u16 0, .int .u16 1, .int .u16 65535, .int .u16 65534] 23) = w1 ∧
    w1.cell? ⟨w.heap.size, p, none⟩ = some (.int .u16 (xv p)) ∧ w1.cell? ⟨w.heap.size, q, none⟩ = some (.int .u16 (xv q)) ∧ w1.cell? ⟨w.heap.size, r, none⟩ = some (.int .u16 (xv r)) ∧
    (0 ≤ xv p ∧ xv p ≤ 65535) ∧ (0 ≤ xv q ∧ xv q ≤ 65535) ∧ (0 ≤ xv r ∧ xv r ≤ 65535) ∧ Below w.heap.size w w1 := by
  have h : ∀ i, i < 4 → (w.alloc (.cells #[.int .u16 0, .int .u16 1, .int .u16 65535, .int .u16 65534] 23)).cell? ⟨w.heap.size, i, none⟩ = some (.int .u16 (xv i)) := by
    intro i hi
    obtain ⟨b, o, e, hc⟩ := RdK.lit .u16 w 23 [0, 1, 65535, 65534] (by simp)
    simp only [Option.some.injEq, Addr.mk.injEq, and_true] at e
    obtain ⟨rfl, rfl⟩ := e
    have := hc i (by simpa using hi)
    rw [Nat.zero_add] at this
    exact this
  have hv : ∀ i, i < 4 → 0 ≤ xv i ∧ xv i ≤ 65535 := by decide
  exact ⟨_, rfl, h p hp, h q hq, h r hr, hv p hp, hv q hq, hv r hr, (Below.refl _ _).alloc (Nat.le_refl _) _⟩
theorem tells_none (x y z : Int) (w : World) (hx : 0 ≤ x ∧ x ≤ 65535) (hy : 0 ≤ y ∧ y ≤ 65535) (hz : 0 ≤ z ∧ z ≤ 65535) :
    Calls Try.prog 3 #[.slice none 0 0, .int .u16 x, .int .u16 y, .int .u16 z] w fun e w' => e = .returned (.bool true) ∧ Below w.heap.size w w' :=
  tells_any none 0 0 [] x y z w rfl (Nat.le_refl _) (Nat.zero_le _) (RdR.nil _ _) hx.1 hx.2 hy.1 hy.2 hz.1 hz.2

theorem keeps_four (i k t : Int) (w : World) (ht : 0 ≤ t ∧ t ≤ 65535) :
    Calls Try.prog 4 #[.slice (some ⟨w.heap.size, 0, none⟩) 4 4, .int .i64 i, .int .i64 k, .int .u16 t] (w.alloc (.cells #[.int .u8 0, .int .u8 0, .int .u8 0, .int .u8 0] 5)) fun e w' => e = .returned (.bool true) ∧ Below w.heap.size w w' := by
  refine (keeps_any _ 4 4 [0, 0, 0, 0] i k t _ rfl (Nat.le_refl _) (by decide) (Own.lit w w.heap.size [0, 0, 0, 0] 4 rfl (by decide) (Nat.le_refl _)).rd (byt_lit (by decide)) ht.1 ht.2).mono ?_
  rintro e w' ⟨rfl, hb⟩
  exact ⟨rfl, ((Below.refl _ _).alloc (Nat.le_refl _) _).trans (hb.mono (by simp))⟩
theorem keeps_two (i k t : Int) (w : World) (ht : 0 ≤ t ∧ t ≤ 65535) :
    Calls Try.prog 4 #[.slice (some ⟨w.heap.size, 0, none⟩) 2 2, .int .i64 i, .int .i64 k, .int .u16 t] (w.alloc (.cells #[.int .u8 255, .int .u8 255] 5)) fun e w' => e = .returned (.bool true) ∧ Below w.heap.size w w' := by
  refine (keeps_any _ 2 2 [255, 255] i k t _ rfl (Nat.le_refl _) (by decide) (Own.lit w w.heap.size [255, 255] 2 rfl (by decide) (Nat.le_refl _)).rd (byt_lit (by decide)) ht.1 ht.2).mono ?_
  rintro e w' ⟨rfl, hb⟩
  exact ⟨rfl, ((Below.refl _ _).alloc (Nat.le_refl _) _).trans (hb.mono (by simp))⟩

set_option maxRecDepth 100000 in
set_option maxHeartbeats 4000000 in
theorem sknown_any (w : World) : Calls Try.prog 6 #[] w fun e w' => e = .returned (.bool true) ∧ Below w.heap.size w w' := by
  have H0 : Hid (Kn w w none 0 0 []) := ⟨Own.nil _ _, Byt.nil, Below.refl _ _⟩
  go_enter Try.func6, Try.ntmps6
  go_wp2_with fail
  go_loopw [1, 2] (fun b i wr => ∃ (k c : Nat) (a : Option Addr), k ≤ 60 ∧ i = .int .i64 k ∧ b = .slice a k c ∧ Hid (∃ bs, Kn w wr a k c bs)) (fun _ i _ => 60 - (intOf i).toNat)
  case atStart => exact ⟨0, 0, none, by omega, rfl, rfl, [], H0.out⟩
  case round =>
    obtain ⟨k, c, a, hk, rfl, rfl, hst⟩ := hrel
    obtain ⟨bs, hst⟩ := hst.out
    have HK := Lib.hid hst
    clear hst
    by_cases hlt : k < 60
    · obtain ⟨r, hr⟩ := Int.eq_ofNat_of_zero_le (show 0 ≤ (k : Int) % 6 by omega)
      have hr6 : r < 6 := by omega
      have hcx := six_cell wr k r hr6
      have hxr := (six_byt k).get r
      obtain ⟨x, hx⟩ : ∃ x, (six k).getD r 0 = x := ⟨_, rfl⟩
      rw [hx] at hcx hxr
      obtain ⟨hx0, hx1⟩ := hxr
      clear hx
      have HKA := Lib.hid (HK.out.next ((Below.refl _ _).alloc (Nat.le_refl _) (.cells #[.int .u8 255, .int .u8 255, .int .u8 0, .int .u8 ((k : Int) * 37 % 256), .int .u8 1, .int .u8 254] 5)))
      obtain ⟨g1, c1, w1, hrun, hown1, hk1, hx1'⟩ := run_append_one (wr.alloc (.cells #[.int .u8 255, .int .u8 255, .int .u8 0, .int .u8 ((k : Int) * 37 % 256), .int .u8 1, .int .u8 254] 5)) w.heap.size 24 24 5 (.int .u8 0) 1 1 u8_info Try.underlying24 rfl (by omega) (own_of HKA.out.own) [.int .u8 x] rfl (by simp [Value.oneCell']) HKA.out.below.size (by omega) (by omega)
      have hsz : (wr.alloc (.cells #[.int .u8 255, .int .u8 255, .int .u8 0, .int .u8 ((k : Int) * 37 % 256), .int .u8 1, .int .u8 254] 5)).heap.size = wr.heap.size + 1 := by simp
      rw [hsz] at hrun
      have HRN := Lib.hid hrun
      have HK1 : Hid (Kn w w1 (some ⟨g1, 0, none⟩) (k + 1) c1 (bs ++ [x])) :=
        ⟨⟨by rw [List.length_append, HKA.out.own.len]; rfl, by rw [bv_append]; exact hown1⟩, HKA.out.byt.append (by intro y hy; simp at hy; omega), HKA.out.below.trans (hk1.below HKA.out.below.size (fun i hi => (HKA.out.own.blk_ge i hi).1))⟩
      clear hrun hown1 hk1 hx1' hsz
      go_upto_region 6 with (at_builtin; refine Lib.wpList_append_run _ rfl _ _ _ _ rfl _ _ rfl rfl _ _ HRN.out ?_)
      clear hcx
      have hle := HK1.out.own.le
      unfold maxLen at hle
      obtain ⟨hle1, hle2⟩ := hle
      obtain ⟨p, hp⟩ := Int.eq_ofNat_of_zero_le (show 0 ≤ (k : Int) / 2 by omega)
      obtain ⟨t, ht⟩ := Int.eq_ofNat_of_zero_le (show 0 ≤ (k : Int) / 3 by omega)
      obtain ⟨sq, hsq⟩ : ∃ sq, (k : Int) * (k : Int) = sq := ⟨_, rfl⟩
      have hsq0 : 0 ≤ sq := by rw [← hsq]; exact Int.mul_nonneg (by omega) (by omega)
      have hsq1 : sq ≤ 3600 := by rw [← hsq]; exact Int.le_trans (Int.mul_le_mul_of_nonneg_right (show (k : Int) ≤ 60 by omega) (by omega)) (by omega)
      have i1 : (0 : Int) ≤ (p : Int) := by omega
      have i2 : (p : Int) ≤ (c1 : Int) := by omega
      have i3 : (0 : Int) ≤ (t : Int) := by omega
      have i4 : (t : Int) ≤ ((k + 1 : Nat) : Int) := by omega
      have i4' : (t : Int) ≤ (k : Int) + 1 := by omega
      have i4'' : (t : Int) ≤ (c1 : Int) := by omega
      have i5 : (k : Int).tdiv 2 = (p : Int) := by rw [Int.tdiv_eq_ediv_of_nonneg (by omega)]; exact hp
      have i6 : (k : Int).tdiv 3 = (t : Int) := by rw [Int.tdiv_eq_ediv_of_nonneg (by omega)]; exact ht
      have i7 : IntKind.i64.wrap (p : Int) = (p : Int) := IntWalk.i64_in _ (by omega)
      have i8 : IntKind.i64.wrap (t : Int) = (t : Int) := IntWalk.i64_in _ (by omega)
      have i9 : ¬ c1 = t := by omega
      have HT := Lib.hid (tells_four HK1.out (show p ≤ k + 1 by omega) (show t ≤ k + 1 by omega))
      go_region_held3 (fun _ => True) (trivial)
        (first
          | ((go_at_call 3; (with_reducible refine (HT.out _ _ _).mono ?_); rintro e wa ⟨rfl, hka⟩; have HKa := Lib.hid hka; clear hka))
          | ((go_at_call 4; (with_reducible refine (keeps_any _ _ _ (bs ++ [x]) _ _ _ _ HKa.out.own.len HKa.out.own.le.1 HKa.out.own.le.2 HKa.out.own.rd HKa.out.byt (u16w _).1 (u16w _).2).mono ?_); rintro e wb ⟨rfl, hbb⟩; have HKb := Lib.hid (HKa.out.next hbb); clear hbb))
          | ((go_at_call 5; (with_reducible refine (finds_any _ _ _ (bs ++ [x]) _ _ _ HKb.out.own.len HKb.out.own.le.1 HKb.out.own.le.2 HKb.out.own.rd HKb.out.byt).mono ?_); rintro e wd ⟨rfl, hbd⟩; have HKd := Lib.hid (HKb.out.next hbd); clear hbd))
          | fail)
      clear HT i1 i2 i3 i4 i4' i4'' i5 i6 i7 i8 i9 hp ht hsq hsq0 hsq1 HKa HKb HK1
      go_wp2_with fail
      refine (r3Of_any _ _ _ (bs ++ [x]) _ HKd.out.own.len HKd.out.own.rd HKd.out.byt (by omega)).mono ?_
      rintro e w5 ⟨rfl, hb5⟩
      have HK5 := Lib.hid (HKd.out.next hb5)
      obtain ⟨m0, m1⟩ := @fld_range (ws 0 (bs ++ [x])) (ws_range _ 0 HKd.out.byt).1
      obtain ⟨f, hf⟩ : ∃ f, 65535 - fld (ws 0 (bs ++ [x])) = f := ⟨_, rfl⟩
      have hf0 : 0 ≤ f := by omega
      have hf1 : f ≤ 65535 := by omega
      rw [hf]
      clear hb5 HKd hf m0 m1
      obtain ⟨g2, c2, w6, hrun6, hk6⟩ := HK5.out.copy (by omega) (by omega)
      have HR6 := Lib.hid hrun6
      have HW6 := Lib.hid hk6
      have hzb : Byt [IntKind.u16.wrap (f.tdiv 256) % 256, f % 256] := by intro y hy; simp at hy; omega
      clear hrun6 hk6 HK5
      by_cases hpar : (k + 1) % 2 = 1
      · have hd : (((k : Int) + 1) % 2 == 1) = true := by simp; omega
        obtain ⟨a7, c7, w7, hrun7, hk7⟩ := HW6.out.more (zs := [0]) (k := 1) (by omega) rfl (by omega) (byt_lit (by decide))
        have HR7 : Hid ((Builtin.append_ #[24, 24] 24 #[.slice (some ⟨g2, 0, none⟩) (k + 1) c2, .slice (some ⟨w6.heap.size, 0, none⟩) 1 1]).run Try.prog (w6.alloc (.cells #[.int .u8 0] 5)) = .ok (.slice a7 (k + 1 + 1) c7) w7) := hrun7
        obtain ⟨a8, c8, w8, hrun8, hk8⟩ := hk7.more (zs := [IntKind.u16.wrap (f.tdiv 256) % 256, f % 256]) (k := 2) (by omega) rfl (by omega) hzb
        have HR8 : Hid ((Builtin.append_ #[24, 24] 24 #[.slice a7 (k + 1 + 1) c7, .slice (some ⟨w7.heap.size, 0, none⟩) 2 2]).run Try.prog (w7.alloc (.cells #[.int .u8 (IntKind.u16.wrap (f.tdiv 256) % 256), .int .u8 (f % 256)] 5)) = .ok (.slice a8 (k + 1 + 1 + 2) c8) w8) := hrun8
        have HW8 := Lib.hid hk8
        clear hrun7 hk7 hrun8 hk8
        go_wp2_with (first
          | (at_builtin; refine Lib.wpList_append_run _ rfl (.tmp 68) (.tmp 69) _ _ rfl _ _ rfl rfl _ _ HR6.out ?_)
          | (at_builtin; refine Lib.wpList_append_run _ rfl (.tmp 75) (.tmp 76) _ _ rfl _ _ rfl rfl _ _ HR7.out ?_)
          | (at_builtin; refine Lib.wpList_append_run _ rfl (.tmp 78) (.tmp 85) _ _ rfl _ _ rfl rfl _ _ HR8.out ?_))
        go_loopw [5] (fun i wl => ∃ j : Nat, j ≤ 4 ∧ i = .int .i64 j ∧ Hid (Two w wl a8 (k + 1 + 1 + 2) c8 (bs ++ [x] ++ [0] ++ [IntKind.u16.wrap (f.tdiv 256) % 256, f % 256]) g1 (k + 1) c1 (bs ++ [x]))) (fun i _ => 4 - (intOf i).toNat)
        case atStart => exact ⟨0, by omega, rfl, HW8⟩
        case round =>
          obtain ⟨j, hj, rfl, hkt⟩ := hrel
          by_cases hj4 : j < 4
          · go_wp2_with fail
            refine (finds_any _ _ _ (bs ++ [x] ++ [0] ++ [IntKind.u16.wrap (f.tdiv 256) % 256, f % 256]) _ _ _ hkt.out.kw.own.len hkt.out.kw.own.le.1 hkt.out.kw.own.le.2 hkt.out.kw.own.rd hkt.out.kw.byt).mono ?_
            rintro e w9 ⟨rfl, hb9⟩
            have HT9 := Lib.hid (hkt.out.next hb9)
            clear hb9
            go_wp2_with fail
            go_roundw
            case rel => exact ⟨j + 1, by omega, by go_num, HT9⟩
            case measure => simp [intOf]; omega
          · go_wp2_with fail
            go_roundw
            case rel => exact ⟨k + 1, c1, some ⟨g1, 0, none⟩, by omega, by go_num, rfl, _, hkt.out.kb⟩
            case measure => simp [intOf]; omega
      · have hd : (((k : Int) + 1) % 2 == 1) = false := by simp; omega
        obtain ⟨a8, c8, w8, hrun8, hk8⟩ := HW6.out.more (zs := [IntKind.u16.wrap (f.tdiv 256) % 256, f % 256]) (k := 2) (by omega) rfl (by omega) hzb
        have HR8 : Hid ((Builtin.append_ #[24, 24] 24 #[.slice (some ⟨g2, 0, none⟩) (k + 1) c2, .slice (some ⟨w6.heap.size, 0, none⟩) 2 2]).run Try.prog (w6.alloc (.cells #[.int .u8 (IntKind.u16.wrap (f.tdiv 256) % 256), .int .u8 (f % 256)] 5)) = .ok (.slice a8 (k + 1 + 2) c8) w8) := hrun8
        have HW8 := Lib.hid hk8
        clear hrun8 hk8
        go_wp2_with (first
          | (at_builtin; refine Lib.wpList_append_run _ rfl (.tmp 68) (.tmp 69) _ _ rfl _ _ rfl rfl _ _ HR6.out ?_)
          | (at_builtin; refine Lib.wpList_append_run _ rfl (.tmp 78) (.tmp 85) _ _ rfl _ _ rfl rfl _ _ HR8.out ?_))
        go_loopw [5] (fun i wl => ∃ j : Nat, j ≤ 4 ∧ i = .int .i64 j ∧ Hid (Two w wl a8 (k + 1 + 2) c8 (bs ++ [x] ++ [IntKind.u16.wrap (f.tdiv 256) % 256, f % 256]) g1 (k + 1) c1 (bs ++ [x]))) (fun i _ => 4 - (intOf i).toNat)
        case atStart => exact ⟨0, by omega, rfl, HW8⟩
        case round =>
          obtain ⟨j, hj, rfl, hkt⟩ := hrel
          by_cases hj4 : j < 4
          · go_wp2_with fail
            refine (finds_any _ _ _ (bs ++ [x] ++ [IntKind.u16.wrap (f.tdiv 256) % 256, f % 256]) _ _ _ hkt.out.kw.own.len hkt.out.kw.own.le.1 hkt.out.kw.own.le.2 hkt.out.kw.own.rd hkt.out.kw.byt).mono ?_
            rintro e w9 ⟨rfl, hb9⟩
            have HT9 := Lib.hid (hkt.out.next hb9)
            clear hb9
            go_wp2_with fail
            go_roundw
            case rel => exact ⟨j + 1, by omega, by go_num, HT9⟩
            case measure => simp [intOf]; omega
          · go_wp2_with fail
            go_roundw
            case rel => exact ⟨k + 1, c1, some ⟨g1, 0, none⟩, by omega, by go_num, rfl, _, hkt.out.kb⟩
            case measure => simp [intOf]; omega
    · obtain rfl : k = 60 := by omega
      have HBW := Lib.hid HK.out.below
      clear HK hst H0
      go_wp2_with fail
      go_loopw [6] (fun i wl => ∃ j : Nat, j ≤ 16 ∧ i = .int .i64 j ∧ Hid (Below w.heap.size w wl)) (fun i _ => 16 - (intOf i).toNat)
      case atStart => exact ⟨0, by omega, rfl, HBW⟩
      case round =>
        obtain ⟨j, hj, rfl, hbl⟩ := hrel
        by_cases hj16 : j < 16
        · obtain ⟨q1, h1⟩ := Int.eq_ofNat_of_zero_le (show 0 ≤ (j : Int) % 4 by omega)
          obtain ⟨q2, h2⟩ := Int.eq_ofNat_of_zero_le (show 0 ≤ (j : Int) / 4 by omega)
          obtain ⟨q3, h3⟩ := Int.eq_ofNat_of_zero_le (show 0 ≤ ((j : Int) + (q2 : Int)) % 4 by omega)
          obtain ⟨w1, hw1, hc1, hc2, hc3, hv1, hv2, hv3, hb1⟩ := xs_cells wr q1 q2 q3 (by omega) (by omega) (by omega)
          obtain ⟨v1, e1⟩ : ∃ v, xv q1 = v := ⟨_, rfl⟩
          obtain ⟨v2, e2⟩ : ∃ v, xv q2 = v := ⟨_, rfl⟩
          obtain ⟨v3, e3⟩ : ∃ v, xv q3 = v := ⟨_, rfl⟩
          rw [e1] at hc1 hv1
          rw [e2] at hc2 hv2
          rw [e3] at hc3 hv3
          have HV1 := Lib.hid hv1
          have HV2 := Lib.hid hv2
          have HV3 := Lib.hid hv3
          have HB1 := Lib.hid (hbl.out.trans (hb1.mono hbl.out.size))
          clear e1 e2 e3 hv1 hv2 hv3 hb1
          go_upto_region 23 with fail
          clear hw1
          have i1 : (0 : Int) ≤ (q1 : Int) := by omega
          have i2 : (q1 : Int) < 4 := by omega
          have i3 : (0 : Int) ≤ (q2 : Int) := by omega
          have i4 : (q2 : Int) < 4 := by omega
          have i5 : (0 : Int) ≤ (q3 : Int) := by omega
          have i6 : (q3 : Int) < 4 := by omega
          have i7 : (j : Int).tdiv 4 = (q2 : Int) := by rw [Int.tdiv_eq_ediv_of_nonneg (by omega)]; exact h2
          have i8 : (j : Int).tmod 4 = (q1 : Int) := by rw [Int.tmod_eq_emod_of_nonneg (by omega)]; exact h1
          have i9 : ((j : Int) + (q2 : Int)).tmod 4 = (q3 : Int) := by rw [Int.tmod_eq_emod_of_nonneg (by omega)]; exact h3
          have i10 : IntKind.i64.wrap (q2 : Int) = (q2 : Int) := IntWalk.i64_in _ (by omega)
          have i11 : IntKind.i64.wrap ((j : Int) + (q2 : Int)) = (j : Int) + (q2 : Int) := IntWalk.i64_in _ (by omega)
          have i12 : IntKind.i64.wrap (q1 : Int) = (q1 : Int) := IntWalk.i64_in _ (by omega)
          have i13 : IntKind.i64.wrap (q3 : Int) = (q3 : Int) := IntWalk.i64_in _ (by omega)
          go_region_held3 (fun w' => w'.cell? ⟨wr.heap.size, q1, none⟩ = some (.int .u16 v1) ∧ w'.cell? ⟨wr.heap.size, q2, none⟩ = some (.int .u16 v2) ∧ w'.cell? ⟨wr.heap.size, q3, none⟩ = some (.int .u16 v3)) (go_keep)
            (first
              | ((go_at_call 3; (with_reducible refine (tells_none _ _ _ _ HV1.out HV2.out HV3.out).mono ?_); rintro e wa ⟨rfl, hba⟩; have hba2 : Below w1.heap.size w1 wa := ⟨hba.os, hba.tape, hba.output, hba.size, hba.block⟩; have k1 := cell_kept hba2 hc1; have k2 := cell_kept hba2 hc2; have k3 := cell_kept hba2 hc3; have HBa := Lib.hid (HB1.out.trans (hba2.mono HB1.out.size)); clear hba hba2))
              | ((go_at_call 4; (with_reducible refine (keeps_four _ _ _ _ HV1.out).mono ?_); rintro e wb ⟨rfl, hbb⟩; have k4 := cell_kept hbb k1; have k5 := cell_kept hbb k2; have k6 := cell_kept hbb k3; have HBb := Lib.hid (HBa.out.trans (hbb.mono HBa.out.size)); clear hbb))
              | ((go_at_call 4; (with_reducible refine (keeps_two _ _ _ _ HV1.out).mono ?_); rintro e wd ⟨rfl, hbd⟩; have k7 := cell_kept hbd k4; have k8 := cell_kept hbd k5; have k9 := cell_kept hbd k6; have HBd := Lib.hid (HBb.out.trans (hbd.mono HBb.out.size)); clear hbd))
              | fail)
          clear k1 k2 k3 k4 k5 k6 k7 k8 k9 hc1 hc2 hc3
          go_wp2_with fail
          go_roundw
          case rel =>
            (repeat apply Exists.intro)
            exact ⟨⟨j + 1, by omega, by go_num, HBd⟩, rfl⟩
          case measure => simp [intOf]; omega
        · go_wp2_with fail
          refine (works3_any _).mono ?_
          rintro e w9 ⟨rfl, hb9⟩
          have HB9 := Lib.hid (hbl.out.trans (hb9.mono hbl.out.size))
          clear hb9
          go_wp2_with fail
          go_ret
          exact ⟨rfl, HB9.out⟩
end Go.Proofs.Ytpbopghnoinlbaa

/-
  IpKnown in pieces: the round's regions up to the fifth 'if'. Conditions: those that the theorems name.
-/
import Derived.Test.YtjnbnjdajkhkpaaIpBack
import Derived.Test.YtjnbnjdajkhkpaaPieces
namespace Go.Proofs.Ytjnbnjdajkhkpaa
open Go.ChangeShapes Go.WideShapes Go.ChangeAt Go.RowKit

/-- The bytes so far. -/
structure Kn (w wr : World) (a : Option Addr) (k c : Nat) (bs : List Int) : Prop where
  own : Own wr w.heap.size a k c bs
  byt : Byt bs
  below : Below w.heap.size w wr
theorem Kn.next {w wr wr' : World} {a : Option Addr} {k c : Nat} {bs : List Int} (h : Kn w wr a k c bs) (hb : Below wr.heap.size wr wr') : Kn w wr' a k c bs := ⟨h.own.below hb, h.byt, h.below.trans (hb.mono h.below.size)⟩
/-- The bytes that are tried. -/
def six : List Int := [1, 7, 4, 9, 2, 0]
theorem six_byt : Byt six := by intro x hx; simp [six] at hx; omega
theorem six_cell (w : World) (r : Nat) (hr : r < 6) : (w.alloc (.cells #[.int .u8 1, .int .u8 7, .int .u8 4, .int .u8 9, .int .u8 2, .int .u8 0] 5)).cell? ⟨w.heap.size, r, none⟩ = some (.int .u8 (six.getD r 0)) := by
  have h := (Own.lit w w.heap.size six 6 rfl (by decide) (Nat.le_refl _)).rd
  have h2 := rd_at h (j := r) (by exact hr)
  rw [Nat.zero_add] at h2
  exact h2

theorem Own.blw {w w' : World} {base : Nat} {a : Option Addr} {n cap : Nat} {xs : List Int} (h : Own w base a n cap xs) (hb : Below w.heap.size w w') : Own w' base a n cap xs := h.below hb
/-- A header is made. -/
theorem hdr_new {w w1 : World} {g1 k c1 M : Nat} {bs : List Int} (hK : Kn w w1 (some ⟨g1, 0, none⟩) (k + 1) c1 bs) (hM : M ≤ k + 1) (t0 t1 t2 : Int) (b1 b2 : Bool) (t3 t4 t5 t6 t7 : Int)
    (r0 : 0 ≤ t0 ∧ t0 < 256) (r1 : 0 ≤ t1 ∧ t1 < 65536) (r2 : 0 ≤ t2 ∧ t2 < 65536) (r3 : 0 ≤ t3 ∧ t3 < 65536) (r4 : 0 ≤ t4 ∧ t4 < 256) (r5 : 0 ≤ t5 ∧ t5 < 256) (r6 : 0 ≤ t6 ∧ t6 < 256) (r7 : 0 ≤ t7 ∧ t7 < 256) :
    ∃ h : Hd, Hid (Kn w (w1.alloc (.cells #[.int .u8 t0, .int .u16 t1, .int .u16 t2, .bool b1, .bool b2, .int .u16 t3, .int .u8 t4, .int .u8 t5, .int .u8 t6, .int .u8 2, .int .u8 3, .int .u8 4, .int .u8 255, .int .u8 t7, .int .u8 0, .int .u8 1, .slice (some ⟨g1, 0, none⟩) M c1] 26)) (some ⟨g1, 0, none⟩) (k + 1) c1 bs ∧
      (w1.alloc (.cells #[.int .u8 t0, .int .u16 t1, .int .u16 t2, .bool b1, .bool b2, .int .u16 t3, .int .u8 t4, .int .u8 t5, .int .u8 t6, .int .u8 2, .int .u8 3, .int .u8 4, .int .u8 255, .int .u8 t7, .int .u8 0, .int .u8 1, .slice (some ⟨g1, 0, none⟩) M c1] 26)).rangeAt w1.heap.size 0 h.cs ∧
      h.ok (w1.alloc (.cells #[.int .u8 t0, .int .u16 t1, .int .u16 t2, .bool b1, .bool b2, .int .u16 t3, .int .u8 t4, .int .u8 t5, .int .u8 t6, .int .u8 2, .int .u8 3, .int .u8 4, .int .u8 255, .int .u8 t7, .int .u8 0, .int .u8 1, .slice (some ⟨g1, 0, none⟩) M c1] 26))) := by
  have hb : Below w1.heap.size w1 (w1.alloc (.cells #[.int .u8 t0, .int .u16 t1, .int .u16 t2, .bool b1, .bool b2, .int .u16 t3, .int .u8 t4, .int .u8 t5, .int .u8 t6, .int .u8 2, .int .u8 3, .int .u8 4, .int .u8 255, .int .u8 t7, .int .u8 0, .int .u8 1, .slice (some ⟨g1, 0, none⟩) M c1] 26)) := (Below.refl _ _).alloc (Nat.le_refl _) _
  have hle := hK.own.le
  refine ⟨⟨t0, t1, t2, b1, b2, t3, t4, t5, [t6, 2, 3, 4], [255, t7, 0, 1], some ⟨g1, 0, none⟩, M, c1, bs.take M⟩, hK.next hb, Hd.range w1 ⟨t0, t1, t2, b1, b2, t3, t4, t5, [t6, 2, 3, 4], [255, t7, 0, 1], some ⟨g1, 0, none⟩, M, c1, bs.take M⟩ 26, ?_⟩
  refine ⟨r0, r1, r2, r3, r4, r5, rfl, rfl, ?_, ?_, ⟨?_, ?_, hle.2, (hK.own.rd.below hb).taken M, hK.byt.take M⟩⟩
  · intro y hy
    have hy' : y = t6 ∨ y = 2 ∨ y = 3 ∨ y = 4 := by simpa using hy
    omega
  · intro y hy
    have hy' : y = 255 ∨ y = t7 ∨ y = 0 ∨ y = 1 := by simpa using hy
    omega
  · show (bs.take M).length = M
    rw [List.length_take, hK.own.len]; omega
  · show M ≤ c1
    omega
theorem set_frag (h : Hd) (t : Int) : h.cs.set 5 (.int .u16 t) = ({ h with frag := t } : Hd).cs := rfl
theorem set_tot (h : Hd) (t : Int) : h.cs.set 1 (.int .u16 t) = ({ h with tot := t } : Hd).cs := rfl
theorem set_ops (h : Hd) (h1 : h.src.length = 4) (h2 : h.dst.length = 4) (a : Option Addr) (n c : Nat) (op : List Int) : h.cs.set 16 (.slice a n c) = ({ h with a := a, n := n, c := c, op := op } : Hd).cs := by
  obtain ⟨s0, s1, s2, s3, e1⟩ := four h1
  obtain ⟨d0, d1, d2, d3, e2⟩ := four h2
  unfold Hd.cs
  rw [e1, e2]
  rfl
/-- Two headers at hand, and what is known beside them. -/
def KX (w w0 : World) (b4 : Nat) (g : Hd) (wx : World) : Prop := Below w0.heap.size w0 wx ∧ wx.rangeAt b4 0 g.cs ∧ wx.there b4 0 17 ∧ g.ok wx ∧ w0.heap.size ≤ b4 ∧ w.heap.size ≤ w0.heap.size ∧ Rd w0 g.a g.op
theorem KX.set {w w0 : World} {b4 : Nat} {g g' : Hd} {wx : World} (h : KX w w0 b4 g wx) (j : Nat) (v : Value) (he : g.cs.set j v = g'.cs) (hr : Rd w0 g'.a g'.op) (hok : ∀ w', Rd w' g'.a g'.op → g'.ok w') : KX w w0 b4 g' (wx.setCell ⟨b4, j, none⟩ v) :=
  ⟨h.1.setCell (p := ⟨b4, j, none⟩) h.2.2.2.2.1 v, by rw [← he]; exact range_set h.2.1 j v, World.there_setCells h.2.2.1 b4 j [v], hok _ (hr.below (h.1.setCell (p := ⟨b4, j, none⟩) h.2.2.2.2.1 v)), h.2.2.2.2.1, h.2.2.2.2.2.1, hr⟩
theorem ok_frag {w : World} {h : Hd} (k : h.ok w) (t : Int) (ht : 0 ≤ t ∧ t < 65536) : ({ h with frag := t } : Hd).ok w := ⟨k.tos, k.tot, k.id, ht, k.ttl, k.pro, k.src, k.dst, k.srcb, k.dstb, k.row⟩
theorem ok_tot {w : World} {h : Hd} (k : h.ok w) (t : Int) (ht : 0 ≤ t ∧ t < 65536) : ({ h with tot := t } : Hd).ok w := ⟨k.tos, ht, k.id, k.frag, k.ttl, k.pro, k.src, k.dst, k.srcb, k.dstb, k.row⟩
theorem ok_ops {w w' : World} {h : Hd} (k : h.ok w) {a : Option Addr} {n c : Nat} {op : List Int} (hr : Row.ok w' ⟨a, n, c, op⟩) : ({ h with a := a, n := n, c := c, op := op } : Hd).ok w' := ⟨k.tos, k.tot, k.id, k.frag, k.ttl, k.pro, k.src, k.dst, k.srcb, k.dstb, hr⟩
theorem pb_le {w : World} {h : Hd} (k : h.ok w) : (pb h).length ≤ 60 := by
  unfold pb; split
  · rename_i hr
    have := (rgH_iff.1 hr).2.2.1
    rw [hfull_len h k.src k.dst k.row.len]; omega
  · simp


noncomputable def KC : Code := Try.f7.body.getD .skip
set_option maxRecDepth 100000 in
theorem fr184 {a : Act} (h : Fr 184 a) : ∃ f : Nat → Value, a = ⟨#[f 0, f 1, f 2, f 3, f 4, f 5, f 6, f 7, f 8, f 9, f 10, f 11, f 12, f 13, f 14, f 15, f 16, f 17, f 18, f 19, f 20, f 21, f 22, f 23, f 24, f 25, f 26, f 27, f 28, f 29, f 30, f 31, f 32, f 33, f 34, f 35, f 36, f 37, f 38, f 39, f 40, f 41, f 42, f 43, f 44, f 45, f 46, f 47, f 48, f 49, f 50, f 51, f 52, f 53, f 54, f 55, f 56, f 57, f 58, f 59, f 60, f 61, f 62, f 63, f 64, f 65, f 66, f 67, f 68, f 69, f 70, f 71, f 72, f 73, f 74, f 75, f 76, f 77, f 78, f 79, f 80, f 81, f 82, f 83, f 84, f 85, f 86, f 87, f 88, f 89, f 90, f 91, f 92, f 93, f 94, f 95, f 96, f 97, f 98, f 99, f 100, f 101, f 102, f 103, f 104, f 105, f 106, f 107, f 108, f 109, f 110, f 111, f 112, f 113, f 114, f 115, f 116, f 117, f 118, f 119, f 120, f 121, f 122, f 123, f 124, f 125, f 126, f 127, f 128, f 129, f 130, f 131, f 132, f 133, f 134, f 135, f 136, f 137, f 138, f 139, f 140, f 141, f 142, f 143, f 144, f 145, f 146, f 147, f 148, f 149, f 150, f 151, f 152, f 153, f 154, f 155, f 156, f 157, f 158, f 159, f 160, f 161, f 162, f 163, f 164, f 165, f 166, f 167, f 168, f 169, f 170, f 171, f 172, f 173, f 174, f 175, f 176, f 177, f 178, f 179, f 180, f 181, f 182, f 183], []⟩ ∧ ∀ i, f i = sl a i := fr_any h

set_option maxRecDepth 100000 in
set_option maxHeartbeats 4000000 in
theorem q5 (w wr : World) (k c : Nat) (a0 : Option Addr) (bs0 : List Int) (hlt : k < 44) (HK : Hid (Kn w wr a0 k c bs0)) (a : Act) (hf : Fr 184 a) (h1 : sl a 1 = .slice a0 k c) (h2 : sl a 2 = .int .i64 (k : Int)) :
    Code.wp Try.prog (cAt [1,1,0,1,2,2,1,0,2,0] KC) (Exit.then (fun a' w' => ∃ g1 c1 bs, Fr 184 a' ∧ sl a' 1 = .slice (some ⟨g1, 0, none⟩) (k + 1) c1 ∧ sl a' 2 = .int .i64 (k : Int) ∧ Kn w w' (some ⟨g1, 0, none⟩) (k + 1) c1 bs) Nope) a wr := by
  obtain ⟨f, ha, hs⟩ := fr184 hf
  have e1 := (hs 1).trans h1
  have e2 := (hs 2).trans h2
  rw [e1, e2] at ha
  clear hs hf e1 h1 e2 h2
  subst ha
  refine piece fun K hK => ?_
  conv => arg 2; whnf
  obtain ⟨r, hr⟩ := Int.eq_ofNat_of_zero_le (show 0 ≤ (k : Int) * 5 % 6 by omega)
  have hr6 : r < 6 := by omega
  have hcx := six_cell wr r hr6
  have hxr := six_byt.get r
  obtain ⟨x, hx⟩ : ∃ x, six.getD r 0 = x := ⟨_, rfl⟩
  rw [hx] at hcx hxr
  obtain ⟨hx0, hx1⟩ := hxr
  clear hx
  have HKA := Lib.hid (HK.out.next ((Below.refl _ _).alloc (Nat.le_refl _) (.cells #[.int .u8 1, .int .u8 7, .int .u8 4, .int .u8 9, .int .u8 2, .int .u8 0] 5)))
  obtain ⟨g1, c1, w1, hrun, hown1, hk1, hx1'⟩ := run_append_one (wr.alloc (.cells #[.int .u8 1, .int .u8 7, .int .u8 4, .int .u8 9, .int .u8 2, .int .u8 0] 5)) w.heap.size 24 24 5 (.int .u8 0) 1 1 u8_info Try.underlying24 rfl (by omega) (own_of HKA.out.own) [.int .u8 x] rfl (by simp [Value.oneCell']) HKA.out.below.size (by omega) (by omega)
  have hsz : (wr.alloc (.cells #[.int .u8 1, .int .u8 7, .int .u8 4, .int .u8 9, .int .u8 2, .int .u8 0] 5)).heap.size = wr.heap.size + 1 := by simp
  rw [hsz] at hrun
  have HRN := Lib.hid hrun
  have HK1 : Hid (Kn w w1 (some ⟨g1, 0, none⟩) (k + 1) c1 (bs0 ++ [x])) :=
    ⟨⟨by rw [List.length_append, HKA.out.own.len]; rfl, by rw [bv_append]; exact hown1⟩, HKA.out.byt.append (by intro y hy; simp at hy; omega), HKA.out.below.trans (hk1.below HKA.out.below.size (fun i hi => (HKA.out.own.blk_ge i hi).1))⟩
  clear hrun hown1 hk1 hx1' hsz
  go_wp2_with (at_builtin; refine Lib.wpList_append_run _ rfl _ _ _ _ rfl _ _ rfl rfl _ _ HRN.out ?_)
  refine Met.intro ?_
  exact ⟨g1, c1, _, ⟨rfl, rfl⟩, rfl, rfl, HK1.out⟩

set_option maxRecDepth 100000 in
set_option maxHeartbeats 4000000 in
theorem q6 (w w1 : World) (k g1 c1 : Nat) (bs : List Int) (hlt : k < 44) (HK1 : Hid (Kn w w1 (some ⟨g1, 0, none⟩) (k + 1) c1 bs)) (a : Act) (hf : Fr 184 a) (h1 : sl a 1 = .slice (some ⟨g1, 0, none⟩) (k + 1) c1) (h2 : sl a 2 = .int .i64 (k : Int)) :
    Code.wp Try.prog (cAt [1,1,0,1,2,2,1,0,2,1,0] KC) (Exit.then (fun a' w' => ∃ (b3 : Nat) (h : Hd), Fr 184 a' ∧ sl a' 1 = .slice (some ⟨g1, 0, none⟩) (k + 1) c1 ∧ sl a' 2 = .int .i64 (k : Int) ∧ sl a' 3 = .pointer (some ⟨b3, 0, none⟩) ∧ Kn w w' (some ⟨g1, 0, none⟩) (k + 1) c1 bs ∧ w'.rangeAt b3 0 h.cs ∧ h.ok w') Nope) a w1 := by
  obtain ⟨f, ha, hs⟩ := fr184 hf
  have e1 := (hs 1).trans h1
  have e2 := (hs 2).trans h2
  rw [e1, e2] at ha
  clear hs hf e1 h1 e2 h2
  subst ha
  refine piece fun K hK => ?_
  conv => arg 2; whnf
  have hle := HK1.out.own.le
  unfold maxLen at hle
  obtain ⟨hle1, hle2⟩ := hle
  obtain ⟨m, hm⟩ := Int.eq_ofNat_of_zero_le (show 0 ≤ (k : Int) * 3 % 44 by omega)
  rcases Nat.lt_trichotomy (k + 1) m with hc1 | hc1 | hc1
  · go_wp2_with fail
    refine Met.intro ?_
    obtain ⟨h, hh⟩ := hdr_new HK1.out (M := k + 1) (by omega) (k : Int) (18 + (k : Int) * 7) (IntKind.u16.wrap ((k : Int) * 4000)) ((k : Int) % 2 == 0) ((k : Int) % 3 == 0) (8185 + (k : Int)) ((k : Int) % 4) ((k : Int) * 6) (k : Int) (k : Int) (by omega) (by omega) (by rw [IntKind.wrap_u16]; omega) (by omega) (by omega) (by omega) (by omega) (by omega)
    exact ⟨_, h, ⟨rfl, rfl⟩, rfl, rfl, rfl, hh.out⟩
  · exfalso
    omega
  · obtain ⟨z6, hz6⟩ : ∃ z, (k : Int) * 6 % 256 = z := ⟨_, rfl⟩
    go_wp2_with fail
    refine Met.intro ?_
    obtain ⟨h, hh⟩ := hdr_new HK1.out (M := m) (by omega) (k : Int) (18 + (k : Int) * 7) (IntKind.u16.wrap ((k : Int) * 4000)) ((k : Int) % 2 == 0) ((k : Int) % 3 == 0) (8185 + (k : Int)) ((k : Int) % 4) z6 (k : Int) (k : Int) (by omega) (by omega) (by rw [IntKind.wrap_u16]; omega) (by omega) (by omega) (by omega) (by omega) (by omega)
    exact ⟨_, h, ⟨rfl, rfl⟩, rfl, rfl, rfl, hh.out⟩

set_option maxRecDepth 100000 in
set_option maxHeartbeats 4000000 in
theorem q7 (w w5 : World) (k g1 c1 b3 : Nat) (bs : List Int) (h : Hd) (HH : Hid (Kn w w5 (some ⟨g1, 0, none⟩) (k + 1) c1 bs ∧ w5.rangeAt b3 0 h.cs ∧ h.ok w5)) (a : Act) (hf : Fr 184 a) (h1 : sl a 1 = .slice (some ⟨g1, 0, none⟩) (k + 1) c1) (h2 : sl a 2 = .int .i64 (k : Int)) (h3 : sl a 3 = .pointer (some ⟨b3, 0, none⟩)) :
    Code.wp Try.prog (cAt [1,1,0,1,2,2,1,0,2,1,1,0] KC) (Exit.then (fun a' w' => ∃ b4 : Nat, Fr 184 a' ∧ sl a' 1 = .slice (some ⟨g1, 0, none⟩) (k + 1) c1 ∧ sl a' 2 = .int .i64 (k : Int) ∧ sl a' 3 = .pointer (some ⟨b3, 0, none⟩) ∧ sl a' 4 = .pointer (some ⟨b4, 0, none⟩) ∧ KX w w5 b4 h w') Nope) a w5 := by
  obtain ⟨f, ha, hs⟩ := fr184 hf
  have e1 := (hs 1).trans h1
  have e2 := (hs 2).trans h2
  have e3 := (hs 3).trans h3
  rw [e1, e2, e3] at ha
  clear hs hf e1 h1 e2 h2 e3 h3
  subst ha
  refine piece fun K hK => ?_
  conv => arg 2; whnf
  have HLH := Lib.hid HH.out.2.2.len
  have HTW : Hid ((w5.alloc (.cells hd0.cs.toArray 26)).there w5.heap.size 0 17) := there_new _ _ _ _ rfl _ rfl
  have HF0 : Hid (KX w w5 w5.heap.size h ((w5.alloc (.cells hd0.cs.toArray 26)).setCells w5.heap.size 0 h.cs)) := by
    obtain ⟨hp1, hp2, _⟩ := put_new w5 h.cs hd0.cs 26 (by rw [HLH.out]; rfl)
    exact ⟨hp1, hp2, World.there_setCells HTW.out _ _ _, HH.out.2.2.below hp1, Nat.le_refl _, HH.out.1.below.size, HH.out.2.2.row.rd⟩
  go_wp2_with (first | (refine ldH (.tmp 3) rfl rfl b3 rfl h HLH.out HH.out.2.1 ?_) | (refine stHN (fun w' => Hid (KX w w5 w5.heap.size h w')) (.tmp 4) (.tmp 62) rfl rfl w5.heap.size h rfl rfl HLH.out HTW.out HF0 ?_; intro wq HF))
  refine Met.intro ?_
  exact ⟨w5.heap.size, ⟨rfl, rfl⟩, rfl, rfl, rfl, rfl, HF.out⟩

set_option maxRecDepth 100000 in
set_option maxHeartbeats 4000000 in
theorem q8 (w w5 : World) (k g1 c1 b3 : Nat) (bs : List Int) (h : Hd) (HH : Hid (Kn w w5 (some ⟨g1, 0, none⟩) (k + 1) c1 bs ∧ w5.rangeAt b3 0 h.cs ∧ h.ok w5)) (b4 : Nat) (wq : World) (HF : Hid (KX w w5 b4 h wq)) (a : Act) (hf : Fr 184 a) (h1 : sl a 1 = .slice (some ⟨g1, 0, none⟩) (k + 1) c1) (h2 : sl a 2 = .int .i64 (k : Int)) (h3 : sl a 3 = .pointer (some ⟨b3, 0, none⟩)) (h4 : sl a 4 = .pointer (some ⟨b4, 0, none⟩)) :
    Code.wp Try.prog (cAt [1,1,0,1,2,2,1,0,2,1,1,1,0] KC) (Exit.then (fun a' w' => ∃ g : Hd, Fr 184 a' ∧ sl a' 1 = .slice (some ⟨g1, 0, none⟩) (k + 1) c1 ∧ sl a' 2 = .int .i64 (k : Int) ∧ sl a' 3 = .pointer (some ⟨b3, 0, none⟩) ∧ sl a' 4 = .pointer (some ⟨b4, 0, none⟩) ∧ KX w w5 b4 g w') Nope) a wq := by
  obtain ⟨f, ha, hs⟩ := fr184 hf
  have e1 := (hs 1).trans h1
  have e2 := (hs 2).trans h2
  have e3 := (hs 3).trans h3
  have e4 := (hs 4).trans h4
  rw [e1, e2, e3, e4] at ha
  clear hs hf e1 h1 e2 h2 e3 h3 e4 h4
  subst ha
  refine piece fun K hK => ?_
  conv => arg 2; whnf
  have hfr := HH.out.2.2.frag
  have hq5 := range_cell HF.out.2.1 (Hd.c5 h)
  have hg5 := (HF.out.2.2.1 5 (by omega)).2
  rw [Nat.zero_add] at hg5
  obtain ⟨FR, hFR⟩ : ∃ x, h.frag = x := ⟨_, rfl⟩
  rw [hFR] at hfr hq5
  have HG0 : Hid (KX w w5 b4 { h with frag := FR % 8192 } (wq.setCell ⟨b4, 5, none⟩ (.int .u16 (FR % 8192)))) :=
    HF.out.set 5 _ (set_frag h _) HH.out.2.2.row.rd (fun w' hr' => ok_frag (HH.out.2.2.at_ hr') _ (by omega))
  clear hFR
  go_wp2_with fail
  refine Met.intro ?_
  exact ⟨_, ⟨rfl, rfl⟩, rfl, rfl, rfl, rfl, HG0.out⟩

set_option maxRecDepth 100000 in
set_option maxHeartbeats 4000000 in
theorem q9 (w w5 : World) (k g1 c1 b3 : Nat) (bs : List Int) (h : Hd) (hlt : k < 44) (HH : Hid (Kn w w5 (some ⟨g1, 0, none⟩) (k + 1) c1 bs ∧ w5.rangeAt b3 0 h.cs ∧ h.ok w5)) (b4 : Nat) (g0 : Hd) (wv : World) (HG0 : Hid (KX w w5 b4 g0 wv)) (a : Act) (hf : Fr 184 a) (h1 : sl a 1 = .slice (some ⟨g1, 0, none⟩) (k + 1) c1) (h2 : sl a 2 = .int .i64 (k : Int)) (h3 : sl a 3 = .pointer (some ⟨b3, 0, none⟩)) (h4 : sl a 4 = .pointer (some ⟨b4, 0, none⟩)) :
    Code.wp Try.prog (cAt [1,1,0,1,2,2,1,0,2,1,1,1,1,0] KC) (Exit.then (fun a' w' => ∃ g : Hd, Fr 184 a' ∧ sl a' 1 = .slice (some ⟨g1, 0, none⟩) (k + 1) c1 ∧ sl a' 2 = .int .i64 (k : Int) ∧ sl a' 3 = .pointer (some ⟨b3, 0, none⟩) ∧ sl a' 4 = .pointer (some ⟨b4, 0, none⟩) ∧ KX w w5 b4 g w' ∧ g.n ≤ 44) Nope) a wv := by
  obtain ⟨f, ha, hs⟩ := fr184 hf
  have e1 := (hs 1).trans h1
  have e2 := (hs 2).trans h2
  have e3 := (hs 3).trans h3
  have e4 := (hs 4).trans h4
  rw [e1, e2, e3, e4] at ha
  clear hs hf e1 h1 e2 h2 e3 h3 e4 h4
  subst ha
  refine piece fun K hK => ?_
  conv => arg 2; whnf
  have hc16 := range_cell HG0.out.2.1 HG0.out.2.2.2.1.c16
  have hg16 := (HG0.out.2.2.1 16 (by omega)).2
  rw [Nat.zero_add] at hg16
  have hle := HH.out.1.own.le
  unfold maxLen at hle
  obtain ⟨hle1, hle2⟩ := hle
  obtain ⟨A, hA⟩ := Int.eq_ofNat_of_zero_le (show 0 ≤ ((k : Int) + 1) / 4 * 4 by omega)
  obtain ⟨B, hB⟩ := Int.eq_ofNat_of_zero_le (show 0 ≤ (k : Int) / 4 * 4 % 44 by omega)
  have hAB : B ≤ A := by omega
  have hAk : A ≤ k + 1 := by omega
  have HOPS : Hid (∀ M : Nat, M ≤ k + 1 → ∃ g : Hd, Hid (KX w w5 b4 g (wv.setCell ⟨b4, 16, none⟩ (.slice (some ⟨g1, 0, none⟩) M c1)) ∧ g.n ≤ 44)) := fun M hM => by
    have hle := HH.out.1.own.le
    have hgk := HG0.out.2.2.2.1
    exact ⟨{ g0 with a := some ⟨g1, 0, none⟩, n := M, c := c1, op := bs.take M }, HG0.out.set 16 _ (set_ops g0 hgk.src hgk.dst _ _ _ (bs.take M)) (HH.out.1.own.rd.taken M) (fun w' hr' => ok_ops (a := some ⟨g1, 0, none⟩) (n := M) (c := c1) (op := bs.take M) hgk ⟨by show (bs.take M).length = M; rw [List.length_take, HH.out.1.own.len]; omega, by show M ≤ c1; omega, hle.2, hr', HH.out.1.byt.take M⟩), by show M ≤ 44; omega⟩
  rcases Nat.lt_or_eq_of_le hAB with hlt2 | heq
  · go_wp2_with fail
    refine Met.intro ?_
    obtain ⟨g, hg⟩ := HOPS.out B (by omega)
    exact ⟨g, ⟨rfl, rfl⟩, rfl, rfl, rfl, rfl, hg.out⟩
  · subst heq
    go_wp2_with fail
    refine Met.intro ?_
    obtain ⟨g, hg⟩ := HOPS.out B (by omega)
    exact ⟨g, ⟨rfl, rfl⟩, rfl, rfl, rfl, rfl, hg.out⟩

set_option maxRecDepth 100000 in
set_option maxHeartbeats 4000000 in
theorem q10 (w w5 : World) (k g1 c1 b3 : Nat) (hlt : k < 44) (b4 : Nat) (g2 : Hd) (wc : World) (HG1 : Hid (KX w w5 b4 g2 wc)) (hn : g2.n ≤ 44) (a : Act) (hf : Fr 184 a) (h1 : sl a 1 = .slice (some ⟨g1, 0, none⟩) (k + 1) c1) (h2 : sl a 2 = .int .i64 (k : Int)) (h3 : sl a 3 = .pointer (some ⟨b3, 0, none⟩)) (h4 : sl a 4 = .pointer (some ⟨b4, 0, none⟩)) :
    Code.wp Try.prog (cAt [1,1,0,1,2,2,1,0,2,1,1,1,1,1,0] KC) (Exit.then (fun a' w' => ∃ g : Hd, Fr 184 a' ∧ sl a' 1 = .slice (some ⟨g1, 0, none⟩) (k + 1) c1 ∧ sl a' 2 = .int .i64 (k : Int) ∧ sl a' 3 = .pointer (some ⟨b3, 0, none⟩) ∧ sl a' 4 = .pointer (some ⟨b4, 0, none⟩) ∧ KX w w5 b4 g w' ∧ g.n ≤ 44) Nope) a wc := by
  obtain ⟨f, ha, hs⟩ := fr184 hf
  have e1 := (hs 1).trans h1
  have e2 := (hs 2).trans h2
  have e3 := (hs 3).trans h3
  have e4 := (hs 4).trans h4
  rw [e1, e2, e3, e4] at ha
  clear hs hf e1 h1 e2 h2 e3 h3 e4 h4
  subst ha
  refine piece fun K hK => ?_
  conv => arg 2; whnf
  have HN := Lib.hid hn
  have ht1 := (HG1.out.2.2.1 1 (by omega)).2
  rw [Nat.zero_add] at ht1
  have hc1 := range_cell HG1.out.2.1 (Hd.c1 g2)
  have HG2 : Hid (KX w w5 b4 { g2 with tot := 60 + (k : Int) } (wc.setCell ⟨b4, 1, none⟩ (.int .u16 (60 + (k : Int))))) :=
    HG1.out.set 1 _ (set_tot g2 _) HG1.out.2.2.2.2.2.2 (fun w' hr' => ok_tot (HG1.out.2.2.2.1.at_ hr') _ (by omega))
  clear hn
  go_wp2_with fail
  refine Met.intro ?_
  exact ⟨_, ⟨rfl, rfl⟩, rfl, rfl, rfl, rfl, HG2.out, HN.out⟩

end Go.Proofs.Ytjnbnjdajkhkpaa

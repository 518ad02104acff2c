/-
  IpKnown in pieces: the inner loop, the round, the whole. Conditions: those that the theorems name; the contracts of the statements that it calls are premises here.
-/
import Derived.Test.YtjnbnjdajkhkpaaIpKnB
namespace Go.Proofs.Ytjnbnjdajkhkpaa
open Go.ChangeShapes Go.WideShapes Go.ChangeAt Go.RowKit

set_option maxRecDepth 100000 in
set_option maxHeartbeats 4000000 in
theorem q16 (w wl : World) (k g1 c1 g7 o7 n7 c7 j : Nat) (bs zs : List Int) (hlt : k < 44) (hlj : j < n7) (HI : Hid (Kn w wl (some ⟨g1, 0, none⟩) (k + 1) c1 bs ∧ Kn w wl (some ⟨g7, o7, none⟩) n7 c7 zs ∧ n7 ≤ 110 ∧ 0 < n7)) (a : Act) (hf : Fr 184 a) (h1 : sl a 1 = .slice (some ⟨g1, 0, none⟩) (k + 1) c1) (h2 : sl a 2 = .int .i64 (k : Int)) (h7 : sl a 7 = .slice (some ⟨g7, o7, none⟩) n7 c7) (h8 : sl a 8 = .int .i64 (j : Int)) :
    Code.wp Try.prog (cAt [1,1,0,1,2,2,1,0,2,1,1,1,1,1,1,1,1,1,0,1,2,2] KC) (Exit.then (fun a' w' => Fr 184 a' ∧ sl a' 1 = .slice (some ⟨g1, 0, none⟩) (k + 1) c1 ∧ sl a' 2 = .int .i64 (k : Int) ∧ sl a' 7 = .slice (some ⟨g7, o7, none⟩) n7 c7 ∧ sl a' 8 = .int .i64 ((j : Int) + 1) ∧ Kn w w' (some ⟨g1, 0, none⟩) (k + 1) c1 bs ∧ Kn w w' (some ⟨g7, o7, none⟩) n7 c7 zs ∧ n7 ≤ 110 ∧ 0 < n7) Nope) a wl := by
  obtain ⟨f, ha, hs⟩ := fr184 hf
  have e1 := (hs 1).trans h1
  have e2 := (hs 2).trans h2
  have e7 := (hs 7).trans h7
  have e8 := (hs 8).trans h8
  rw [e1, e2, e7, e8] at ha
  clear hs hf e1 h1 e2 h2 e7 h7 e8 h8
  subst ha
  refine piece fun K hK => ?_
  conv => arg 2; whnf
  have hn7 := HI.out.2.2.1
  have hkt : Hid (Kn w wl (some ⟨g1, 0, none⟩) (k + 1) c1 bs ∧ Kn w wl (some ⟨g7, o7, none⟩) n7 c7 zs) := ⟨HI.out.1, HI.out.2.1⟩
  have hc7 : n7 ≤ c7 := hkt.out.2.own.le.1
  have hc7m : c7 ≤ 9223372036854775807 := hkt.out.2.own.le.2
  have hlj' : (j : Int) < (n7 : Int) := by omega
  go_wp2_with fail
  refine (join_any none (some ⟨g7, o7, none⟩) 0 0 n7 c7 [] zs _ rfl hkt.out.2.own.len (Rd.empty _ _) hkt.out.2.own.rd (by omega)).mono ?_
  rintro e w9 hmade
  rw [List.nil_append] at hmade
  obtain ⟨g8, c8, rfl, hcp, _⟩ := hmade.cp hkt.out.2.own.len (by omega)
  obtain ⟨d1, f1⟩ := hcp.at_ (j := j) hlj
  obtain ⟨v, hv⟩ : ∃ v, zs.getD j 0 = v := ⟨_, rfl⟩
  obtain ⟨v0, v1⟩ := hkt.out.2.byt.get j
  rw [hv] at d1 v0 v1
  have hc8 : n7 ≤ c8 := hcp.own.le.1
  have hc8m : c8 ≤ 9223372036854775807 := hcp.own.le.2
  have hjc : (j : Int) ≤ (c7 : Int) := by omega
  have HZ : Hid (∀ y, Kn w (w9.setCell ⟨g8, j, none⟩ (.int .u8 y)) (some ⟨g1, 0, none⟩) (k + 1) c1 bs ∧ Kn w (w9.setCell ⟨g8, j, none⟩ (.int .u8 y)) (some ⟨g7, o7, none⟩) n7 c7 zs ∧ Own (w9.setCell ⟨g8, j, none⟩ (.int .u8 y)) wl.heap.size (some ⟨g8, 0, none⟩) n7 c8 (zs.set j y)) := fun y =>
    ⟨hkt.out.1.next (hcp.set j y).below, hkt.out.2.next (hcp.set j y).below, (hcp.set j y).own⟩
  clear hmade hcp hv
  by_cases hk4 : k % 4 = 0
  · have hkb : ((k : Int) % 4 == 0) = true := by simp; omega
    go_wp2_with fail
    refine (parses_any (some ⟨g7, o7, none⟩) j c7 (zs.take j) _ (by rw [List.length_take, hkt.out.2.own.len]; omega) (by omega) hkt.out.2.own.le.2 ((HZ.out _).2.1.own.rd.taken j) (hkt.out.2.byt.take j)).mono ?_
    rintro e w10 ⟨rfl, hb10⟩
    have HZ10 : Hid (Kn w w10 (some ⟨g1, 0, none⟩) (k + 1) c1 bs ∧ Kn w w10 (some ⟨g7, o7, none⟩) n7 c7 zs ∧ Own w10 wl.heap.size (some ⟨g8, 0, none⟩) n7 c8 (zs.set j ((v + (1 + (k : Int) * 16)) % 256))) :=
      ⟨(HZ.out _).1.next hb10, (HZ.out _).2.1.next hb10, (HZ.out _).2.2.below hb10⟩
    clear hb10
    go_wp2_with fail
    refine (parses_any (some ⟨g8, 0, none⟩) n7 c8 (zs.set j ((v + (1 + (k : Int) * 16)) % 256)) _ HZ10.out.2.2.len hc8 HZ10.out.2.2.le.2 HZ10.out.2.2.rd (hkt.out.2.byt.set j (by omega))).mono ?_
    rintro e w11 ⟨rfl, hb11⟩
    have HR11 : Hid (Kn w w11 (some ⟨g1, 0, none⟩) (k + 1) c1 bs ∧ Kn w w11 (some ⟨g7, o7, none⟩) n7 c7 zs) := ⟨HZ10.out.1.next hb11, HZ10.out.2.1.next hb11⟩
    clear hb11
    go_wp2_with fail
    refine Met.intro ?_
    exact ⟨⟨rfl, rfl⟩, rfl, rfl, rfl, rfl, HR11.out.1, HR11.out.2, HI.out.2.2⟩
  · have hkb : ((k : Int) % 4 == 0) = false := by simp; omega
    go_wp2_with fail
    refine Met.intro ?_
    exact ⟨⟨rfl, rfl⟩, rfl, rfl, rfl, rfl, (HZ.out _).1, (HZ.out _).2.1, HI.out.2.2⟩

set_option maxRecDepth 100000 in
set_option maxHeartbeats 4000000 in
theorem q16e (wl : World) (k g1 c1 g7 o7 n7 c7 : Nat) (a : Act) (hf : Fr 184 a) (h1 : sl a 1 = .slice (some ⟨g1, 0, none⟩) (k + 1) c1) (h2 : sl a 2 = .int .i64 (k : Int)) (h7 : sl a 7 = .slice (some ⟨g7, o7, none⟩) n7 c7) (h8 : sl a 8 = .int .i64 (n7 : Int)) :
    Code.wp Try.prog (cAt [1,1,0,1,2,2,1,0,2,1,1,1,1,1,1,1,1,1,0,1,2,2] KC) (Outs 2 (fun a' w' => Fr 184 a' ∧ sl a' 1 = .slice (some ⟨g1, 0, none⟩) (k + 1) c1 ∧ sl a' 2 = .int .i64 (k : Int) ∧ sl a' 7 = .slice (some ⟨g7, o7, none⟩) n7 c7 ∧ wl = w')) a wl := by
  obtain ⟨f, ha, hs⟩ := fr184 hf
  have e1 := (hs 1).trans h1
  have e2 := (hs 2).trans h2
  have e7 := (hs 7).trans h7
  have e8 := (hs 8).trans h8
  rw [e1, e2, e7, e8] at ha
  clear hs hf e1 h1 e2 h2 e7 h7 e8 h8
  subst ha
  conv => arg 2; whnf
  go_wp2_with fail
  exact ⟨rfl, ⟨rfl, rfl⟩, rfl, rfl, rfl, rfl⟩

theorem q17 (w wx : World) (k g1 c1 g7 o7 n7 c7 : Nat) (bs zs : List Int) (hlt : k < 44) (HI : Kn w wx (some ⟨g1, 0, none⟩) (k + 1) c1 bs ∧ Kn w wx (some ⟨g7, o7, none⟩) n7 c7 zs ∧ n7 ≤ 110 ∧ 0 < n7) (a : Act) (hf : Fr 184 a) (h1 : sl a 1 = .slice (some ⟨g1, 0, none⟩) (k + 1) c1) (h2 : sl a 2 = .int .i64 (k : Int)) (h7 : sl a 7 = .slice (some ⟨g7, o7, none⟩) n7 c7) (h8 : sl a 8 = .int .i64 0) :
    Code.wp Try.prog (cAt [1,1,0,1,2,2,1,0,2,1,1,1,1,1,1,1,1,1,0,1] KC) (Exit.then (fun a' w' => Fr 184 a' ∧ sl a' 1 = .slice (some ⟨g1, 0, none⟩) (k + 1) c1 ∧ sl a' 2 = .int .i64 (k : Int) ∧ sl a' 7 = .slice (some ⟨g7, o7, none⟩) n7 c7 ∧ Kn w w' (some ⟨g1, 0, none⟩) (k + 1) c1 bs ∧ Kn w w' (some ⟨g7, o7, none⟩) n7 c7 zs ∧ n7 ≤ 110 ∧ 0 < n7) Nope) a wx := by
  refine wp_blockR (x := cAt [1,1,0,1,2,2,1,0,2,1,1,1,1,1,1,1,1,1,0,1,2] KC) (id := 2) (by kernel_rfl) ?_
  refine wp_loopR (x := cAt [1,1,0,1,2,2,1,0,2,1,1,1,1,1,1,1,1,1,0,1,2,2] KC) (by kernel_rfl) (fun a' w' => ∃ j : Nat, j ≤ n7 ∧ Fr 184 a' ∧ sl a' 1 = .slice (some ⟨g1, 0, none⟩) (k + 1) c1 ∧ sl a' 2 = .int .i64 (k : Int) ∧ sl a' 7 = .slice (some ⟨g7, o7, none⟩) n7 c7 ∧ sl a' 8 = .int .i64 (j : Int) ∧ Kn w w' (some ⟨g1, 0, none⟩) (k + 1) c1 bs ∧ Kn w w' (some ⟨g7, o7, none⟩) n7 c7 zs ∧ n7 ≤ 110 ∧ 0 < n7) (fun a' _ => n7 - (intOf (sl a' 8)).toNat) ⟨0, Nat.zero_le _, hf, h1, h2, h7, h8, HI⟩ ?_
  rintro a' w' ⟨j, hj, hf, h1, h2, h7, h8, HI⟩
  by_cases hlj : j < n7
  · refine wp_endR (q16 w w' k g1 c1 g7 o7 n7 c7 j bs zs hlt hlj HI a' hf h1 h2 h7 h8) ?_
    rintro a2 w2 ⟨hf', h1', h2', h7', h8', hi'⟩
    refine ⟨⟨j + 1, by omega, hf', h1', h2', h7', by rw [h8']; rfl, hi'⟩, ?_⟩
    rw [h8, h8']
    simp only [intOf]
    omega
  · obtain rfl : j = n7 := by omega
    refine wp_endX (q16e w' k g1 c1 g7 o7 j c7 a' hf h1 h2 h7 h8) ?_
    rintro a2 w2 ⟨hf', h1', h2', h7', rfl⟩
    refine thru ?_
    exact ⟨hf', h1', h2', h7', HI⟩

set_option maxRecDepth 100000 in
set_option maxHeartbeats 4000000 in
theorem q22 (w wx : World) (k g1 c1 g7 o7 n7 c7 : Nat) (bs zs : List Int) (HI : Hid (Kn w wx (some ⟨g1, 0, none⟩) (k + 1) c1 bs ∧ Kn w wx (some ⟨g7, o7, none⟩) n7 c7 zs ∧ n7 ≤ 110 ∧ 0 < n7)) (a : Act) (hf : Fr 184 a) (h1 : sl a 1 = .slice (some ⟨g1, 0, none⟩) (k + 1) c1) (h2 : sl a 2 = .int .i64 (k : Int)) (h7 : sl a 7 = .slice (some ⟨g7, o7, none⟩) n7 c7) :
    Code.wp Try.prog (cAt [1,1,0,1,2,2,1,0,2,1,1,1,1,1,1,1,1,1,1] KC) (Exit.then (fun a' w' => Fr 184 a' ∧ sl a' 1 = .slice (some ⟨g1, 0, none⟩) (k + 1) c1 ∧ sl a' 2 = .int .i64 (k : Int) ∧ Kn w w' (some ⟨g1, 0, none⟩) (k + 1) c1 bs) Nope) a wx := by
  obtain ⟨f, ha, hs⟩ := fr184 hf
  have e1 := (hs 1).trans h1
  have e2 := (hs 2).trans h2
  have e7 := (hs 7).trans h7
  rw [e1, e2, e7] at ha
  clear hs hf e1 h1 e2 h2 e7 h7
  subst ha
  refine piece fun K hK => ?_
  conv => arg 2; whnf
  go_wp2_with fail
  refine (parses_any (some ⟨g7, o7, none⟩) n7 c7 zs _ HI.out.2.1.own.len HI.out.2.1.own.le.1 HI.out.2.1.own.le.2 HI.out.2.1.own.rd HI.out.2.1.byt).mono ?_
  rintro e w9 ⟨rfl, hb9⟩
  have HK9 := Lib.hid (HI.out.1.next hb9)
  clear hb9
  go_wp2_with fail
  refine Met.intro ?_
  exact ⟨⟨rfl, rfl⟩, rfl, rfl, HK9.out⟩

set_option maxRecDepth 100000 in
set_option maxHeartbeats 4000000 in
theorem q3 (wr : World) (k c : Nat) (a0 : Option Addr) (hlt : k < 44) (a : Act) (hf : Fr 184 a) (h1 : sl a 1 = .slice a0 k c) (h2 : sl a 2 = .int .i64 (k : Int)) :
    Code.wp Try.prog (cAt [1,1,0,1,2,2,0] KC) (Exit.then (fun a' w' => Fr 184 a' ∧ sl a' 1 = .slice a0 k c ∧ sl a' 2 = .int .i64 (k : Int) ∧ wr = w') Nope) a wr := by
  obtain ⟨f, ha, hs⟩ := fr184 hf
  have e1 := (hs 1).trans h1
  have e2 := (hs 2).trans h2
  rw [e1, e2] at ha
  clear hs hf e1 h1 e2 h2
  subst ha
  refine piece fun K hK => ?_
  conv => arg 2; whnf
  have hlt' : (k : Int) < 44 := by omega
  go_wp2_with fail
  refine Met.intro ?_
  exact ⟨⟨rfl, rfl⟩, rfl, rfl, rfl⟩

set_option maxRecDepth 100000 in
set_option maxHeartbeats 4000000 in
theorem q4 (wr : World) (k g1 c1 : Nat) (hlt : k < 44) (a : Act) (hf : Fr 184 a) (h1 : sl a 1 = .slice (some ⟨g1, 0, none⟩) (k + 1) c1) (h2 : sl a 2 = .int .i64 (k : Int)) :
    Code.wp Try.prog (cAt [1,1,0,1,2,2,1,1] KC) (Exit.then (fun a' w' => Fr 184 a' ∧ sl a' 1 = .slice (some ⟨g1, 0, none⟩) (k + 1) c1 ∧ sl a' 2 = .int .i64 ((k : Int) + 1) ∧ wr = w') Nope) a wr := by
  obtain ⟨f, ha, hs⟩ := fr184 hf
  have e1 := (hs 1).trans h1
  have e2 := (hs 2).trans h2
  rw [e1, e2] at ha
  clear hs hf e1 h1 e2 h2
  subst ha
  refine piece fun K hK => ?_
  conv => arg 2; whnf
  go_wp2_with fail
  refine Met.intro ?_
  exact ⟨⟨rfl, rfl⟩, rfl, rfl, rfl⟩

set_option maxRecDepth 100000 in
set_option maxHeartbeats 4000000 in
theorem q3e (wr : World) (a : Act) (hf : Fr 184 a) (h2 : sl a 2 = .int .i64 44) :
    Code.wp Try.prog (cAt [1,1,0,1,2,2] KC) (Outs 0 (fun a' w' => Fr 184 a' ∧ wr = w')) a wr := by
  obtain ⟨f, ha, hs⟩ := fr184 hf
  have e2 := (hs 2).trans h2
  rw [e2] at ha
  clear hs hf e2 h2
  subst ha
  conv => arg 2; whnf
  go_wp2_with fail
  exact ⟨rfl, ⟨rfl, rfl⟩, rfl⟩

theorem q20 (HPUTS : ∀ (h g : Hd) (w : World), h.ok w → g.ok w → Calls Try.prog 3 #[.agg h.cs.toArray, .agg g.cs.toArray] w fun e w' => e = .returned (.bool true) ∧ Below w.heap.size w w')
    (HBACK : ∀ (h : Hd) (a2 : Option Addr) (n2 cap2 : Nat) (ys : List Int) (d y : Int) (w : World), h.ok w → ys.length = n2 → n2 ≤ cap2 → cap2 ≤ maxLen → Rd w a2 ys → Byt ys → 0 ≤ y → y ≤ 255 →
      Calls Try.prog 6 #[.agg h.cs.toArray, .slice a2 n2 cap2, .int .i64 d, .int .u8 y] w fun e w' => e = .returned (.bool true) ∧ Below w.heap.size w w')
    (HOPTS : ∀ (a : Option Addr) (n cap : Nat) (xs : List Int) (w : World), xs.length = n → Rd w a xs → Byt xs → n ≤ cap →
      Calls Try.prog 5 #[.slice a n cap] w fun e w' => e = .returned (.bool true) ∧ Below w.heap.size w w')
    (w wr : World) (k c : Nat) (a0 : Option Addr) (bs0 : List Int) (hlt : k < 44) (HK : Hid (Kn w wr a0 k c bs0)) (a : Act) (hf : Fr 184 a) (h1 : sl a 1 = .slice a0 k c) (h2 : sl a 2 = .int .i64 (k : Int)) :
    Code.wp Try.prog (cAt [1,1,0,1,2,2] KC) (Exit.then (fun a' w' => ∃ g1 c1 bs, Fr 184 a' ∧ sl a' 1 = .slice (some ⟨g1, 0, none⟩) (k + 1) c1 ∧ sl a' 2 = .int .i64 ((k : Int) + 1) ∧ Kn w w' (some ⟨g1, 0, none⟩) (k + 1) c1 bs) Nope) a wr := by
  refine wp_sqR (x := cAt [1,1,0,1,2,2,0] KC) (y := cAt [1,1,0,1,2,2,1] KC) (by kernel_rfl) (q3 wr k c a0 hlt a hf h1 h2) ?_
  rintro a3 _ ⟨hf, h1, h2, rfl⟩
  refine wp_sqR (R := fun a' w' => ∃ g1 c1 bs, Fr 184 a' ∧ sl a' 1 = .slice (some ⟨g1, 0, none⟩) (k + 1) c1 ∧ sl a' 2 = .int .i64 (k : Int) ∧ Kn w w' (some ⟨g1, 0, none⟩) (k + 1) c1 bs) (x := cAt [1,1,0,1,2,2,1,0] KC) (y := cAt [1,1,0,1,2,2,1,1] KC) (by kernel_rfl) ?_ ?_
  · refine wp_blockR (x := cAt [1,1,0,1,2,2,1,0,2] KC) (id := 1) (by kernel_rfl) ?_
    refine wp_sqR (x := cAt [1,1,0,1,2,2,1,0,2,0] KC) (y := cAt [1,1,0,1,2,2,1,0,2,1] KC) (by kernel_rfl) (q5 w wr k c a0 bs0 hlt HK a3 hf h1 h2) ?_
    rintro a5 w5 ⟨g1, c1, bs, hf, h1, h2, hk⟩
    refine wp_sqR (x := cAt [1,1,0,1,2,2,1,0,2,1,0] KC) (y := cAt [1,1,0,1,2,2,1,0,2,1,1] KC) (by kernel_rfl) (q6 w w5 k g1 c1 bs hlt hk a5 hf h1 h2) ?_
    rintro a6 w6 ⟨b3, h, hf, h1, h2, h3, hh⟩
    refine wp_sqR (x := cAt [1,1,0,1,2,2,1,0,2,1,1,0] KC) (y := cAt [1,1,0,1,2,2,1,0,2,1,1,1] KC) (by kernel_rfl) (q7 w w6 k g1 c1 b3 bs h hh a6 hf h1 h2 h3) ?_
    rintro a7 w7 ⟨b4, hf, h1, h2, h3, h4, hx⟩
    refine wp_sqR (x := cAt [1,1,0,1,2,2,1,0,2,1,1,1,0] KC) (y := cAt [1,1,0,1,2,2,1,0,2,1,1,1,1] KC) (by kernel_rfl) (q8 w w6 k g1 c1 b3 bs h hh b4 w7 hx a7 hf h1 h2 h3 h4) ?_
    rintro a8 w8 ⟨g8, hf, h1, h2, h3, h4, hx⟩
    refine wp_sqR (x := cAt [1,1,0,1,2,2,1,0,2,1,1,1,1,0] KC) (y := cAt [1,1,0,1,2,2,1,0,2,1,1,1,1,1] KC) (by kernel_rfl) (q9 w w6 k g1 c1 b3 bs h hlt hh b4 g8 w8 hx a8 hf h1 h2 h3 h4) ?_
    rintro a9 w9 ⟨g9, hf, h1, h2, h3, h4, hx, hn⟩
    refine wp_sqR (x := cAt [1,1,0,1,2,2,1,0,2,1,1,1,1,1,0] KC) (y := cAt [1,1,0,1,2,2,1,0,2,1,1,1,1,1,1] KC) (by kernel_rfl) (q10 w w6 k g1 c1 b3 hlt b4 g9 w9 hx hn a9 hf h1 h2 h3 h4) ?_
    rintro a10 w10 ⟨g, hf, h1, h2, h3, h4, hx, hn⟩
    have hX : Kn w w10 (some ⟨g1, 0, none⟩) (k + 1) c1 bs ∧ w10.rangeAt b3 0 h.cs ∧ h.ok w10 ∧ w10.rangeAt b4 0 g.cs ∧ g.ok w10 := ⟨hh.1.next hx.1, range_kept hx.1 hh.2.1, hh.2.2.below hx.1, hx.2.1, hx.2.2.2.1⟩
    refine wp_sqR (R := fun a' w' => Fr 184 a' ∧ sl a' 1 = .slice (some ⟨g1, 0, none⟩) (k + 1) c1 ∧ sl a' 2 = .int .i64 (k : Int) ∧ sl a' 4 = .pointer (some ⟨b4, 0, none⟩) ∧ Kn w w' (some ⟨g1, 0, none⟩) (k + 1) c1 bs ∧ w'.rangeAt b4 0 g.cs ∧ g.ok w') (x := cAt [1,1,0,1,2,2,1,0,2,1,1,1,1,1,1,0] KC) (y := cAt [1,1,0,1,2,2,1,0,2,1,1,1,1,1,1,1] KC) (by kernel_rfl) ?_ ?_
    · refine wp_sqR (x := cAt [1,1,0,1,2,2,1,0,2,1,1,1,1,1,1,0,0] KC) (y := cAt [1,1,0,1,2,2,1,0,2,1,1,1,1,1,1,0,1] KC) (by kernel_rfl) (q11 HPUTS HBACK HOPTS w w10 k g1 c1 b3 b4 bs h g hlt hX a10 hf h1 h2 h3 h4) ?_
      rintro a11 w11 ⟨hf, h1, h2, h4, h121, hr⟩
      refine wp_endR (q12 w11 k g1 c1 b4 a11 hf h1 h2 h4 h121) ?_
      rintro a12 _ ⟨hf, h1, h2, h4, rfl⟩
      exact ⟨hf, h1, h2, h4, hr⟩
    rintro a12 w12 ⟨hf, h1, h2, h4, hk, hg⟩
    refine wp_sqR (x := cAt [1,1,0,1,2,2,1,0,2,1,1,1,1,1,1,1,0] KC) (y := cAt [1,1,0,1,2,2,1,0,2,1,1,1,1,1,1,1,1] KC) (by kernel_rfl) (q13 w w12 k g1 c1 b4 bs g hn hk hg a12 hf h1 h2 h4) ?_
    rintro a13 w13 ⟨a6', n6, c6, ys, hf, h1, h2, h5, hk, ho⟩
    refine wp_sqR (x := cAt [1,1,0,1,2,2,1,0,2,1,1,1,1,1,1,1,1,0] KC) (y := cAt [1,1,0,1,2,2,1,0,2,1,1,1,1,1,1,1,1,1] KC) (by kernel_rfl) (q14 w w13 k g1 c1 n6 c6 a6' bs ys hlt hk ho a13 hf h1 h2 h5) ?_
    rintro a14 w14 ⟨g7, o7, n7, c7, zs, hf, h1, h2, h7, hi⟩
    refine wp_sqR (R := fun a' w' => Fr 184 a' ∧ sl a' 1 = .slice (some ⟨g1, 0, none⟩) (k + 1) c1 ∧ sl a' 2 = .int .i64 (k : Int) ∧ sl a' 7 = .slice (some ⟨g7, o7, none⟩) n7 c7 ∧ Kn w w' (some ⟨g1, 0, none⟩) (k + 1) c1 bs ∧ Kn w w' (some ⟨g7, o7, none⟩) n7 c7 zs ∧ n7 ≤ 110 ∧ 0 < n7) (x := cAt [1,1,0,1,2,2,1,0,2,1,1,1,1,1,1,1,1,1,0] KC) (y := cAt [1,1,0,1,2,2,1,0,2,1,1,1,1,1,1,1,1,1,1] KC) (by kernel_rfl) ?_ ?_
    · refine wp_sqR (x := cAt [1,1,0,1,2,2,1,0,2,1,1,1,1,1,1,1,1,1,0,0] KC) (y := cAt [1,1,0,1,2,2,1,0,2,1,1,1,1,1,1,1,1,1,0,1] KC) (by kernel_rfl) (q15 w14 k g1 c1 g7 o7 n7 c7 a14 hf h1 h2 h7) ?_
      rintro a15 _ ⟨hf, h1, h2, h7, h8, rfl⟩
      exact q17 w w14 k g1 c1 g7 o7 n7 c7 bs zs hlt hi a15 hf h1 h2 h7 h8
    rintro a17 w17 ⟨hf, h1, h2, h7, hi⟩
    refine wp_endR (q22 w w17 k g1 c1 g7 o7 n7 c7 bs zs hi a17 hf h1 h2 h7) ?_
    rintro a22 w22 ⟨hf, h1, h2, hk⟩
    exact ⟨g1, c1, bs, hf, h1, h2, hk⟩
  rintro a2 w2 ⟨g1, c1, bs, hf, h1, h2, hk⟩
  refine wp_endR (q4 w2 k g1 c1 hlt a2 hf h1 h2) ?_
  rintro a4 _ ⟨hf, h1, h2, rfl⟩
  exact ⟨g1, c1, bs, hf, h1, h2, hk⟩

theorem q21 (HPUTS : ∀ (h g : Hd) (w : World), h.ok w → g.ok w → Calls Try.prog 3 #[.agg h.cs.toArray, .agg g.cs.toArray] w fun e w' => e = .returned (.bool true) ∧ Below w.heap.size w w')
    (HBACK : ∀ (h : Hd) (a2 : Option Addr) (n2 cap2 : Nat) (ys : List Int) (d y : Int) (w : World), h.ok w → ys.length = n2 → n2 ≤ cap2 → cap2 ≤ maxLen → Rd w a2 ys → Byt ys → 0 ≤ y → y ≤ 255 →
      Calls Try.prog 6 #[.agg h.cs.toArray, .slice a2 n2 cap2, .int .i64 d, .int .u8 y] w fun e w' => e = .returned (.bool true) ∧ Below w.heap.size w w')
    (HOPTS : ∀ (a : Option Addr) (n cap : Nat) (xs : List Int) (w : World), xs.length = n → Rd w a xs → Byt xs → n ≤ cap →
      Calls Try.prog 5 #[.slice a n cap] w fun e w' => e = .returned (.bool true) ∧ Below w.heap.size w w')
    (w w0 : World) (HK : Kn w w0 none 0 0 []) (a : Act) (hf : Fr 184 a) (h1 : sl a 1 = .slice none 0 0) (h2 : sl a 2 = .int .i64 0) :
    Code.wp Try.prog (cAt [1,1,0,1] KC) (Exit.then (fun a' w' => Fr 184 a' ∧ Below w.heap.size w w') Nope) a w0 := by
  refine wp_blockR (x := cAt [1,1,0,1,2] KC) (id := 0) (by kernel_rfl) ?_
  refine wp_loopR (x := cAt [1,1,0,1,2,2] KC) (by kernel_rfl) (fun a' w' => ∃ (k c : Nat) (a0 : Option Addr) (bs : List Int), k ≤ 44 ∧ Fr 184 a' ∧ sl a' 1 = .slice a0 k c ∧ sl a' 2 = .int .i64 (k : Int) ∧ Kn w w' a0 k c bs) (fun a' _ => 44 - (intOf (sl a' 2)).toNat) ⟨0, 0, none, [], by omega, hf, h1, h2, HK⟩ ?_
  rintro a' w' ⟨k, c, a0, bs, hk, hf, h1, h2, HK⟩
  by_cases hlt : k < 44
  · refine wp_endR (q20 HPUTS HBACK HOPTS w w' k c a0 bs hlt HK a' hf h1 h2) ?_
    rintro a2 w2 ⟨g1, c1, bs', hf', h1', h2', hk'⟩
    refine ⟨⟨k + 1, c1, some ⟨g1, 0, none⟩, bs', by omega, hf', h1', by rw [h2']; rfl, hk'⟩, ?_⟩
    rw [h2, h2']
    simp only [intOf]
    omega
  · obtain rfl : k = 44 := by omega
    refine wp_endX (q3e w' a' hf h2) ?_
    rintro a2 w2 ⟨hf', rfl⟩
    refine thru ?_
    exact ⟨hf', HK.below⟩

set_option maxRecDepth 100000 in
set_option maxHeartbeats 4000000 in
theorem q24 (HOPTS : ∀ (a : Option Addr) (n cap : Nat) (xs : List Int) (w : World), xs.length = n → Rd w a xs → Byt xs → n ≤ cap →
      Calls Try.prog 5 #[.slice a n cap] w fun e w' => e = .returned (.bool true) ∧ Below w.heap.size w w')
    (w wr : World) (HBW : Hid (Below w.heap.size w wr)) (a : Act) (hf : Fr 184 a) :
    Code.wp Try.prog (cAt [1,1,1] KC) (bodyPost Try.prog Try.f7 fun e w' => e = .returned (.bool true) ∧ Below w.heap.size w w') a wr := by
  obtain ⟨f, ha, hs⟩ := fr184 hf
  clear hs hf
  subst ha
  conv => arg 2; whnf
  go_wp2_with fail
  refine (parses_any none 0 0 [] _ rfl (Nat.le_refl _) (by decide) (Rd.empty _ _) Byt.nil).mono ?_
  rintro e w1 ⟨rfl, hb1⟩
  have HB1 := Lib.hid (HBW.out.trans (hb1.mono HBW.out.size))
  clear hb1
  have byt1 : Byt [7] := by intro y hy; simp at hy; omega
  have byt2 : Byt [7, 1] := by intro y hy; simp at hy; omega
  have byt3 : Byt [7, 3] := by intro y hy; simp at hy; omega
  go_wp2_with fail
  refine (HOPTS (some ⟨w1.heap.size, 0, none⟩) 1 1 [7] _ rfl (Own.lit w1 w1.heap.size [7] 1 rfl (by decide) (Nat.le_refl _)).rd byt1 (by omega)).mono ?_
  rintro e w2 ⟨rfl, hb2⟩
  have hba : Below w1.heap.size w1 (w1.alloc (.cells #[.int .u8 7] 5)) := (Below.refl _ _).alloc (Nat.le_refl _) _
  have HB2 := Lib.hid (HB1.out.trans ((hba.trans (hb2.mono hba.size)).mono HB1.out.size))
  clear hb2 hba
  go_wp2_with fail
  refine (HOPTS (some ⟨w2.heap.size, 0, none⟩) 2 2 [7, 1] _ rfl (Own.lit w2 w2.heap.size [7, 1] 2 rfl (by decide) (Nat.le_refl _)).rd byt2 (by omega)).mono ?_
  rintro e w3 ⟨rfl, hb3⟩
  have hba : Below w2.heap.size w2 (w2.alloc (.cells #[.int .u8 7, .int .u8 1] 5)) := (Below.refl _ _).alloc (Nat.le_refl _) _
  have HB3 := Lib.hid (HB2.out.trans ((hba.trans (hb3.mono hba.size)).mono HB2.out.size))
  clear hb3 hba
  go_wp2_with fail
  refine (HOPTS (some ⟨w3.heap.size, 0, none⟩) 2 2 [7, 3] _ rfl (Own.lit w3 w3.heap.size [7, 3] 2 rfl (by decide) (Nat.le_refl _)).rd byt3 (by omega)).mono ?_
  rintro e w4 ⟨rfl, hb4⟩
  have hba : Below w3.heap.size w3 (w3.alloc (.cells #[.int .u8 7, .int .u8 3] 5)) := (Below.refl _ _).alloc (Nat.le_refl _) _
  have HB4 := Lib.hid (HB3.out.trans ((hba.trans (hb4.mono hba.size)).mono HB3.out.size))
  clear hb4 hba
  go_wp2_with fail
  refine (works5_any _).mono ?_
  rintro e w5 ⟨rfl, hb5⟩
  have HB5 := Lib.hid (HB4.out.trans (hb5.mono HB4.out.size))
  clear hb5
  go_wp2_with fail
  go_ret
  exact ⟨rfl, HB5.out⟩

set_option maxRecDepth 100000 in
set_option maxHeartbeats 4000000 in
theorem q0 (wr : World) (a : Act) (hf : Fr 184 a)  :
    Code.wp Try.prog (cAt [0] KC) (Exit.then (fun a' w' => Fr 184 a' ∧ wr = w') Nope) a wr := by
  obtain ⟨f, ha, hs⟩ := fr184 hf
  clear hs hf
  subst ha
  refine piece fun K hK => ?_
  conv => arg 2; whnf
  go_wp2_with fail
  refine Met.intro ?_
  exact ⟨⟨rfl, rfl⟩, rfl⟩

set_option maxRecDepth 100000 in
set_option maxHeartbeats 4000000 in
theorem q1 (wr : World) (a : Act) (hf : Fr 184 a)  :
    Code.wp Try.prog (cAt [1,0] KC) (Exit.then (fun a' w' => Fr 184 a' ∧ sl a' 1 = .slice none 0 0 ∧ wr = w') Nope) a wr := by
  obtain ⟨f, ha, hs⟩ := fr184 hf
  clear hs hf
  subst ha
  refine piece fun K hK => ?_
  conv => arg 2; whnf
  go_wp2_with fail
  refine Met.intro ?_
  exact ⟨⟨rfl, rfl⟩, rfl, rfl⟩

set_option maxRecDepth 100000 in
set_option maxHeartbeats 4000000 in
theorem q2 (wr : World) (a : Act) (hf : Fr 184 a) (h1 : sl a 1 = .slice none 0 0) :
    Code.wp Try.prog (cAt [1,1,0,0] KC) (Exit.then (fun a' w' => Fr 184 a' ∧ sl a' 1 = .slice none 0 0 ∧ sl a' 2 = .int .i64 0 ∧ wr = w') Nope) a wr := by
  obtain ⟨f, ha, hs⟩ := fr184 hf
  have e1 := (hs 1).trans h1
  rw [e1] at ha
  clear hs hf e1 h1
  subst ha
  refine piece fun K hK => ?_
  conv => arg 2; whnf
  go_wp2_with fail
  refine Met.intro ?_
  exact ⟨⟨rfl, rfl⟩, rfl, rfl, rfl⟩

theorem known_any (HPUTS : ∀ (h g : Hd) (w : World), h.ok w → g.ok w → Calls Try.prog 3 #[.agg h.cs.toArray, .agg g.cs.toArray] w fun e w' => e = .returned (.bool true) ∧ Below w.heap.size w w')
    (HBACK : ∀ (h : Hd) (a2 : Option Addr) (n2 cap2 : Nat) (ys : List Int) (d y : Int) (w : World), h.ok w → ys.length = n2 → n2 ≤ cap2 → cap2 ≤ maxLen → Rd w a2 ys → Byt ys → 0 ≤ y → y ≤ 255 →
      Calls Try.prog 6 #[.agg h.cs.toArray, .slice a2 n2 cap2, .int .i64 d, .int .u8 y] w fun e w' => e = .returned (.bool true) ∧ Below w.heap.size w w')
    (HOPTS : ∀ (a : Option Addr) (n cap : Nat) (xs : List Int) (w : World), xs.length = n → Rd w a xs → Byt xs → n ≤ cap →
      Calls Try.prog 5 #[.slice a n cap] w fun e w' => e = .returned (.bool true) ∧ Below w.heap.size w w')
    (w : World) : Calls Try.prog 7 #[] w fun e w' => e = .returned (.bool true) ∧ Below w.heap.size w w' := by
  refine calls_of_wp (c := KC) Try.func7 (by kernel_rfl) ?_
  have hf : Fr 184 { tmps := #[] ++ Array.replicate (Try.f7.ntmps - (#[] : Array Value).size) undef, defers := [] } := ⟨rfl, by rw [Try.ntmps7]; simp⟩
  refine wp_sqR (x := cAt [0] KC) (y := cAt [1] KC) (by kernel_rfl) (q0 w _ hf) ?_
  rintro a0 _ ⟨hf, rfl⟩
  refine wp_sqR (x := cAt [1,0] KC) (y := cAt [1,1] KC) (by kernel_rfl) (q1 w _ hf) ?_
  rintro a1 _ ⟨hf, h1, rfl⟩
  refine wp_sqR (R := fun a' w' => Fr 184 a' ∧ Below w.heap.size w w') (x := cAt [1,1,0] KC) (y := cAt [1,1,1] KC) (by kernel_rfl) ?_ ?_
  · refine wp_sqR (x := cAt [1,1,0,0] KC) (y := cAt [1,1,0,1] KC) (by kernel_rfl) (q2 w _ hf h1) ?_
    rintro a2 _ ⟨hf, h1, h2, rfl⟩
    exact q21 HPUTS HBACK HOPTS w w ⟨Own.nil _ _, Byt.nil, Below.refl _ _⟩ a2 hf h1 h2
  rintro a3 w3 ⟨hf, hb⟩
  exact q24 HOPTS w w3 hb a3 hf
end Go.Proofs.Ytjnbnjdajkhkpaa

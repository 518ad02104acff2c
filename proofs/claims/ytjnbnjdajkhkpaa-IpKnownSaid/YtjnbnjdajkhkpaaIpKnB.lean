/-
  IpKnown in pieces: the fifth 'if', Put and Join, and the inner loop. Conditions: those that the theorems name; the contracts of the statements that it calls are premises here.
-/
import Derived.Test.YtjnbnjdajkhkpaaIpKnA
namespace Go.Proofs.Ytjnbnjdajkhkpaa
open Go.ChangeShapes Go.WideShapes Go.ChangeAt Go.RowKit

theorem with_sel {P : Program} {md : Region.Mode} {ops : Array Oper} {Q : Exit → Act → World → Prop} {S : World → Prop} {fuel : Nat} {listed : Array Bool} {a : Act} {w : World} (hs : Region.noSelect ops = true)
    (h : Region.noSelect ops = true → wpAnyH P md ops Q S fuel listed a w) : wpAnyH P md ops Q S fuel listed a w := h hs
set_option maxRecDepth 100000 in
set_option maxHeartbeats 8000000 in
theorem q11 (HPUTS : ∀ (h g : Hd) (w : World), h.ok w → g.ok w → Calls Try.prog 3 #[.agg h.cs.toArray, .agg g.cs.toArray] w fun e w' => e = .returned (.bool true) ∧ Below w.heap.size w w')
    (HBACK : ∀ (h : Hd) (a2 : Option Addr) (n2 cap2 : Nat) (ys : List Int) (d y : Int) (w : World), h.ok w → ys.length = n2 → n2 ≤ cap2 → cap2 ≤ maxLen → Rd w a2 ys → Byt ys → 0 ≤ y → y ≤ 255 →
      Calls Try.prog 6 #[.agg h.cs.toArray, .slice a2 n2 cap2, .int .i64 d, .int .u8 y] w fun e w' => e = .returned (.bool true) ∧ Below w.heap.size w w')
    (HOPTS : ∀ (a : Option Addr) (n cap : Nat) (xs : List Int) (w : World), xs.length = n → Rd w a xs → Byt xs → n ≤ cap →
      Calls Try.prog 5 #[.slice a n cap] w fun e w' => e = .returned (.bool true) ∧ Below w.heap.size w w')
    (w wx : World) (k g1 c1 b3 b4 : Nat) (bs : List Int) (h g : Hd) (hlt : k < 44) (HX : Hid (Kn w wx (some ⟨g1, 0, none⟩) (k + 1) c1 bs ∧ wx.rangeAt b3 0 h.cs ∧ h.ok wx ∧ wx.rangeAt b4 0 g.cs ∧ g.ok wx)) (a : Act) (hf : Fr 184 a) (h1 : sl a 1 = .slice (some ⟨g1, 0, none⟩) (k + 1) c1) (h2 : sl a 2 = .int .i64 (k : Int)) (h3 : sl a 3 = .pointer (some ⟨b3, 0, none⟩)) (h4 : sl a 4 = .pointer (some ⟨b4, 0, none⟩)) :
    Code.wp Try.prog (cAt [1,1,0,1,2,2,1,0,2,1,1,1,1,1,1,0,0] KC) (Exit.then (fun a' w' => Fr 184 a' ∧ sl a' 1 = .slice (some ⟨g1, 0, none⟩) (k + 1) c1 ∧ sl a' 2 = .int .i64 (k : Int) ∧ sl a' 4 = .pointer (some ⟨b4, 0, none⟩) ∧ sl a' 121 = .bool false ∧ Kn w w' (some ⟨g1, 0, none⟩) (k + 1) c1 bs ∧ w'.rangeAt b4 0 g.cs ∧ g.ok w') Nope) a wx := by
  obtain ⟨f, ha, hs⟩ := fr184 hf
  have e1 := (hs 1).trans h1
  have e2 := (hs 2).trans h2
  have e3 := (hs 3).trans h3
  have e4 := (hs 4).trans h4
  rw [e1, e2, e3, e4] at ha
  clear hs hf e1 h1 e2 h2 e3 h3 e4 h4
  subst ha
  refine piece fun K hK => ?_
  conv => arg 2; whnf
  have HLH := Lib.hid HX.out.2.2.1.len
  have HLG := Lib.hid HX.out.2.2.2.2.len
  have hle := HX.out.1.own.le
  unfold maxLen at hle
  obtain ⟨hle1, hle2⟩ := hle
  obtain ⟨r9, hr9⟩ := Int.eq_ofNat_of_zero_le (show 0 ≤ (k : Int) % 9 by omega)
  obtain ⟨h2, hh2⟩ := Int.eq_ofNat_of_zero_le (show 0 ≤ (k : Int) / 2 by omega)
  have i1 : (0 : Int) ≤ (r9 : Int) := by omega
  have i2 : (r9 : Int) ≤ (c1 : Int) := by omega
  have i3 : (0 : Int) ≤ (h2 : Int) := by omega
  have i4 : (h2 : Int) ≤ ((k + 1 : Nat) : Int) := by omega
  have i4' : (h2 : Int) ≤ (k : Int) + 1 := by omega
  have i4'' : (h2 : Int) ≤ (c1 : Int) := by omega
  have i5 : (k : Int).tmod 9 = (r9 : Int) := by rw [Int.tmod_eq_emod_of_nonneg (by omega)]; exact hr9
  have i6 : (k : Int).tdiv 2 = (h2 : Int) := by rw [Int.tdiv_eq_ediv_of_nonneg (by omega)]; exact hh2
  have i7 : IntKind.i64.wrap (r9 : Int) = (r9 : Int) := IntWalk.i64_in _ (by omega)
  have i8 : IntKind.i64.wrap (h2 : Int) = (h2 : Int) := IntWalk.i64_in _ (by omega)
  have i9 : ¬ c1 = h2 := by omega
  have i10 : IntKind.i64.wrap ((k : Int) * 7) = (k : Int) * 7 := IntWalk.i64_in _ (by omega)
  have i11 : IntKind.i64.wrap ((k : Int) * 5) = (k : Int) * 5 := IntWalk.i64_in _ (by omega)
  have i12 : IntKind.u8.wrap ((k : Int) * 5) = (k : Int) * 5 % 256 := by rw [IntKind.wrap_u8]
  have h9k : r9 ≤ k + 1 := by omega
  have h2k : h2 ≤ k + 1 := by omega
  have hs0 : Below wx.heap.size wx wx.drew := by
    have hq := Below.refl wx.heap.size wx
    exact ⟨hq.os, hq.tape, hq.output, hq.size, hq.block⟩
  refine wp_region_held_drew (S := fun w' => Below wx.heap.size wx w') (by kernel_rfl) hs0 (fun hS => ?_)
  refine with_sel (by kernel_rfl) (fun hsel => ?_)
  refine tk 0 83 (.agg (h.cs).toArray) rfl rfl hsel (by kernel_rfl) (by kernel_rfl) (fun _ _ _ h => h) (yieldsIf_load_mid (by rfl) _ _ rfl (b3) 0 rfl (h.cs) _ (fun w' h' => range_kept h' HX.out.2.1) Try.underlying26 rfl (by rw [HLH.out]; exact infH)) hS ?_
  try simp only [Act.put, List.setIfInBounds_toArray, List.set_cons_zero, List.set_cons_succ]
  refine tk 1 84 (.agg (g.cs).toArray) rfl rfl hsel (by kernel_rfl) (by kernel_rfl) (fun _ _ _ h => h) (yieldsIf_load_mid (by rfl) _ _ rfl (b4) 0 rfl (g.cs) _ (fun w' h' => range_kept h' HX.out.2.2.2.1) Try.underlying26 rfl (by rw [HLG.out]; exact infH)) hS ?_
  try simp only [Act.put, List.setIfInBounds_toArray, List.set_cons_zero, List.set_cons_succ]
  refine wpAnyH_ready (rs := [2]) (by kernel_rfl) (by simp) (AllReadyH.cons rfl (fun K hK => ?_) AllReadyH.nil)
  rw [if_pos (by rfl)]
  go_wp2_with fail
  refine (HPUTS h g wx.drew (HX.out.2.2.1.at_ HX.out.2.2.1.row.rd.drw) (HX.out.2.2.2.2.at_ HX.out.2.2.2.2.row.rd.drw)).mono ?_
  rintro e x1 ⟨rfl, hb⟩
  have hs1 : Below wx.heap.size wx x1 := undrew hb
  clear hb
  clear hS
  refine hK.out _ _ hs1 (fun hS => ?_)
  clear hK K
  try simp only [Act.put, List.setIfInBounds_toArray, List.set_cons_zero, List.set_cons_succ]
  refine tk 3 86 (.bool false) rfl rfl hsel (by kernel_rfl) (by kernel_rfl) (fun _ _ _ h => h) (Or.inl ⟨by rfl, fun w' h' => ?_⟩) hS ?_
  · go_simp
  try simp only [Act.put, List.setIfInBounds_toArray, List.set_cons_zero, List.set_cons_succ]
  refine tk 4 87 (.bool false) rfl rfl hsel (by kernel_rfl) (by kernel_rfl) (fun _ _ _ h => h) (Or.inl ⟨by rfl, fun w' h' => ?_⟩) hS ?_
  · go_simp
  try simp only [Act.put, List.setIfInBounds_toArray, List.set_cons_zero, List.set_cons_succ]
  refine tk 5 88 (.agg (g.cs).toArray) rfl rfl hsel (by kernel_rfl) (by kernel_rfl) (fun _ _ _ h => h) (yieldsIf_load_mid (by rfl) _ _ rfl (b4) 0 rfl (g.cs) _ (fun w' h' => range_kept h' HX.out.2.2.2.1) Try.underlying26 rfl (by rw [HLG.out]; exact infH)) hS ?_
  try simp only [Act.put, List.setIfInBounds_toArray, List.set_cons_zero, List.set_cons_succ]
  refine tk 6 89 (.agg (g.cs).toArray) rfl rfl hsel (by kernel_rfl) (by kernel_rfl) (fun _ _ _ h => h) (yieldsIf_load_mid (by rfl) _ _ rfl (b4) 0 rfl (g.cs) _ (fun w' h' => range_kept h' HX.out.2.2.2.1) Try.underlying26 rfl (by rw [HLG.out]; exact infH)) hS ?_
  try simp only [Act.put, List.setIfInBounds_toArray, List.set_cons_zero, List.set_cons_succ]
  refine wpAnyH_ready (rs := [7]) (by kernel_rfl) (by simp) (AllReadyH.cons rfl (fun K hK => ?_) AllReadyH.nil)
  rw [if_pos (by rfl)]
  go_wp2_with fail
  refine (HPUTS g g _ (HX.out.2.2.2.2.below hs1) (HX.out.2.2.2.2.below hs1)).mono ?_
  rintro e x2 ⟨rfl, hb⟩
  have hs2 : Below wx.heap.size wx x2 := hs1.trans (Below.mono hb hs1.size)
  clear hb
  clear hS
  refine hK.out _ _ hs2 (fun hS => ?_)
  clear hK K
  try simp only [Act.put, List.setIfInBounds_toArray, List.set_cons_zero, List.set_cons_succ]
  refine tk 8 91 (.bool false) rfl rfl hsel (by kernel_rfl) (by kernel_rfl) (fun _ _ _ h => h) (Or.inl ⟨by rfl, fun w' h' => ?_⟩) hS ?_
  · go_simp
  try simp only [Act.put, List.setIfInBounds_toArray, List.set_cons_zero, List.set_cons_succ]
  refine tk 9 92 (.bool false) rfl rfl hsel (by kernel_rfl) (by kernel_rfl) (fun _ _ _ h => h) (Or.inl ⟨by rfl, fun w' h' => ?_⟩) hS ?_
  · go_simp
  try simp only [Act.put, List.setIfInBounds_toArray, List.set_cons_zero, List.set_cons_succ]
  refine tk 10 93 (.bool false) rfl rfl hsel (by kernel_rfl) (by kernel_rfl) (fun _ _ _ h => h) (Or.inl ⟨by rfl, fun w' h' => ?_⟩) hS ?_
  · go_simp
  try simp only [Act.put, List.setIfInBounds_toArray, List.set_cons_zero, List.set_cons_succ]
  refine tk 11 94 (.agg (h.cs).toArray) rfl rfl hsel (by kernel_rfl) (by kernel_rfl) (fun _ _ _ h => h) (yieldsIf_load_mid (by rfl) _ _ rfl (b3) 0 rfl (h.cs) _ (fun w' h' => range_kept h' HX.out.2.1) Try.underlying26 rfl (by rw [HLH.out]; exact infH)) hS ?_
  try simp only [Act.put, List.setIfInBounds_toArray, List.set_cons_zero, List.set_cons_succ]
  refine tk 12 95 (.slice (some ⟨g1, 0, none⟩) (k + 1) c1) rfl rfl hsel (by kernel_rfl) (by kernel_rfl) (fun _ _ _ h => h) (Or.inl ⟨by rfl, fun w' h' => ?_⟩) hS ?_
  · go_simp
  try simp only [Act.put, List.setIfInBounds_toArray, List.set_cons_zero, List.set_cons_succ]
  refine tk 13 96 (.int .i64 (k : Int)) rfl rfl hsel (by kernel_rfl) (by kernel_rfl) (fun _ _ _ h => h) (Or.inl ⟨by rfl, fun w' h' => ?_⟩) hS ?_
  · go_simp
  try simp only [Act.put, List.setIfInBounds_toArray, List.set_cons_zero, List.set_cons_succ]
  refine wpAnyH_ready (rs := [14]) (by kernel_rfl) (by simp) (AllReadyH.cons rfl (fun K hK => ?_) AllReadyH.nil)
  rw [if_pos (by rfl)]
  go_wp2_with fail
  refine (HBACK h (some ⟨g1, 0, none⟩) (k + 1) c1 bs k 1 _ (HX.out.2.2.1.below hs2) (HX.out.1.next hs2).own.len HX.out.1.own.le.1 HX.out.1.own.le.2 (HX.out.1.next hs2).own.rd HX.out.1.byt (by omega) (by omega)).mono ?_
  rintro e x3 ⟨rfl, hb⟩
  have hs3 : Below wx.heap.size wx x3 := hs2.trans (Below.mono hb hs2.size)
  clear hb
  clear hS
  refine hK.out _ _ hs3 (fun hS => ?_)
  clear hK K
  try simp only [Act.put, List.setIfInBounds_toArray, List.set_cons_zero, List.set_cons_succ]
  refine tk 15 98 (.bool false) rfl rfl hsel (by kernel_rfl) (by kernel_rfl) (fun _ _ _ h => h) (Or.inl ⟨by rfl, fun w' h' => ?_⟩) hS ?_
  · go_simp
  try simp only [Act.put, List.setIfInBounds_toArray, List.set_cons_zero, List.set_cons_succ]
  refine tk 16 99 (.bool false) rfl rfl hsel (by kernel_rfl) (by kernel_rfl) (fun _ _ _ h => h) (Or.inl ⟨by rfl, fun w' h' => ?_⟩) hS ?_
  · go_simp
  try simp only [Act.put, List.setIfInBounds_toArray, List.set_cons_zero, List.set_cons_succ]
  refine tk 17 100 (.bool false) rfl rfl hsel (by kernel_rfl) (by kernel_rfl) (fun _ _ _ h => h) (Or.inl ⟨by rfl, fun w' h' => ?_⟩) hS ?_
  · go_simp
  try simp only [Act.put, List.setIfInBounds_toArray, List.set_cons_zero, List.set_cons_succ]
  refine tk 18 101 (.agg (g.cs).toArray) rfl rfl hsel (by kernel_rfl) (by kernel_rfl) (fun _ _ _ h => h) (yieldsIf_load_mid (by rfl) _ _ rfl (b4) 0 rfl (g.cs) _ (fun w' h' => range_kept h' HX.out.2.2.2.1) Try.underlying26 rfl (by rw [HLG.out]; exact infH)) hS ?_
  try simp only [Act.put, List.setIfInBounds_toArray, List.set_cons_zero, List.set_cons_succ]
  refine tk 19 102 (.slice (some ⟨g1, 0, none⟩) (k + 1) c1) rfl rfl hsel (by kernel_rfl) (by kernel_rfl) (fun _ _ _ h => h) (Or.inl ⟨by rfl, fun w' h' => ?_⟩) hS ?_
  · go_simp
  try simp only [Act.put, List.setIfInBounds_toArray, List.set_cons_zero, List.set_cons_succ]
  refine tk 20 103 (.int .i64 (k : Int)) rfl rfl hsel (by kernel_rfl) (by kernel_rfl) (fun _ _ _ h => h) (Or.inl ⟨by rfl, fun w' h' => ?_⟩) hS ?_
  · go_simp
  try simp only [Act.put, List.setIfInBounds_toArray, List.set_cons_zero, List.set_cons_succ]
  refine tk 21 104 (.int .i64 (r9 : Int)) rfl rfl hsel (by kernel_rfl) (by kernel_rfl) (fun _ _ _ h => h) (Or.inl ⟨by rfl, fun w' h' => ?_⟩) hS ?_
  · go_simp
  try simp only [Act.put, List.setIfInBounds_toArray, List.set_cons_zero, List.set_cons_succ]
  refine tk 22 105 (.slice (some ⟨g1, 0, none⟩) r9 c1) rfl rfl hsel (by kernel_rfl) (by kernel_rfl) (fun _ _ _ h => h) (Or.inl ⟨by rfl, fun w' h' => ?_⟩) hS ?_
  · go_simp
  try simp only [Act.put, List.setIfInBounds_toArray, List.set_cons_zero, List.set_cons_succ]
  refine tk 23 106 (.int .i64 (k : Int)) rfl rfl hsel (by kernel_rfl) (by kernel_rfl) (fun _ _ _ h => h) (Or.inl ⟨by rfl, fun w' h' => ?_⟩) hS ?_
  · go_simp
  try simp only [Act.put, List.setIfInBounds_toArray, List.set_cons_zero, List.set_cons_succ]
  refine tk 24 107 (.int .i64 ((k : Int) * 7)) rfl rfl hsel (by kernel_rfl) (by kernel_rfl) (fun _ _ _ h => h) (Or.inl ⟨by rfl, fun w' h' => ?_⟩) hS ?_
  · go_simp
  try simp only [Act.put, List.setIfInBounds_toArray, List.set_cons_zero, List.set_cons_succ]
  refine tk 25 108 (.int .i64 (k : Int)) rfl rfl hsel (by kernel_rfl) (by kernel_rfl) (fun _ _ _ h => h) (Or.inl ⟨by rfl, fun w' h' => ?_⟩) hS ?_
  · go_simp
  try simp only [Act.put, List.setIfInBounds_toArray, List.set_cons_zero, List.set_cons_succ]
  refine tk 26 109 (.int .i64 ((k : Int) * 5)) rfl rfl hsel (by kernel_rfl) (by kernel_rfl) (fun _ _ _ h => h) (Or.inl ⟨by rfl, fun w' h' => ?_⟩) hS ?_
  · go_simp
  try simp only [Act.put, List.setIfInBounds_toArray, List.set_cons_zero, List.set_cons_succ]
  refine tk 27 110 (.int .u8 ((k : Int) * 5 % 256)) rfl rfl hsel (by kernel_rfl) (by kernel_rfl) (fun _ _ _ h => h) (Or.inl ⟨by rfl, fun w' h' => ?_⟩) hS ?_
  · go_simp
  try simp only [Act.put, List.setIfInBounds_toArray, List.set_cons_zero, List.set_cons_succ]
  refine wpAnyH_ready (rs := [28]) (by kernel_rfl) (by simp) (AllReadyH.cons rfl (fun K hK => ?_) AllReadyH.nil)
  rw [if_pos (by rfl)]
  go_wp2_with fail
  refine (HBACK g (some ⟨g1, 0, none⟩) r9 c1 (bs.take r9) (k * 7) (k * 5 % 256) _ (HX.out.2.2.2.2.below hs3) (by rw [List.length_take, HX.out.1.own.len]; omega) (by omega) HX.out.1.own.le.2 ((HX.out.1.next hs3).own.rd.taken r9) (HX.out.1.byt.take r9) (by omega) (by omega)).mono ?_
  rintro e x4 ⟨rfl, hb⟩
  have hs4 : Below wx.heap.size wx x4 := hs3.trans (Below.mono hb hs3.size)
  clear hb
  clear hS
  refine hK.out _ _ hs4 (fun hS => ?_)
  clear hK K
  try simp only [Act.put, List.setIfInBounds_toArray, List.set_cons_zero, List.set_cons_succ]
  refine tk 29 112 (.bool false) rfl rfl hsel (by kernel_rfl) (by kernel_rfl) (fun _ _ _ h => h) (Or.inl ⟨by rfl, fun w' h' => ?_⟩) hS ?_
  · go_simp
  try simp only [Act.put, List.setIfInBounds_toArray, List.set_cons_zero, List.set_cons_succ]
  refine tk 30 113 (.bool false) rfl rfl hsel (by kernel_rfl) (by kernel_rfl) (fun _ _ _ h => h) (Or.inl ⟨by rfl, fun w' h' => ?_⟩) hS ?_
  · go_simp
  try simp only [Act.put, List.setIfInBounds_toArray, List.set_cons_zero, List.set_cons_succ]
  refine tk 31 114 (.bool false) rfl rfl hsel (by kernel_rfl) (by kernel_rfl) (fun _ _ _ h => h) (Or.inl ⟨by rfl, fun w' h' => ?_⟩) hS ?_
  · go_simp
  try simp only [Act.put, List.setIfInBounds_toArray, List.set_cons_zero, List.set_cons_succ]
  refine tk 32 115 (.slice (some ⟨g1, 0, none⟩) (k + 1) c1) rfl rfl hsel (by kernel_rfl) (by kernel_rfl) (fun _ _ _ h => h) (Or.inl ⟨by rfl, fun w' h' => ?_⟩) hS ?_
  · go_simp
  try simp only [Act.put, List.setIfInBounds_toArray, List.set_cons_zero, List.set_cons_succ]
  refine tk 33 116 (.int .i64 (k : Int)) rfl rfl hsel (by kernel_rfl) (by kernel_rfl) (fun _ _ _ h => h) (Or.inl ⟨by rfl, fun w' h' => ?_⟩) hS ?_
  · go_simp
  try simp only [Act.put, List.setIfInBounds_toArray, List.set_cons_zero, List.set_cons_succ]
  refine tk 34 117 (.int .i64 (h2 : Int)) rfl rfl hsel (by kernel_rfl) (by kernel_rfl) (fun _ _ _ h => h) (Or.inl ⟨by rfl, fun w' h' => ?_⟩) hS ?_
  · go_simp
  try simp only [Act.put, List.setIfInBounds_toArray, List.set_cons_zero, List.set_cons_succ]
  refine tk 35 118 (.slice (some ⟨g1, h2, none⟩) (k + 1 - h2) (c1 - h2)) rfl rfl hsel (by kernel_rfl) (by kernel_rfl) (fun _ _ _ h => h) (Or.inl ⟨by rfl, fun w' h' => ?_⟩) hS ?_
  · go_simp
  try simp only [Act.put, List.setIfInBounds_toArray, List.set_cons_zero, List.set_cons_succ]
  refine wpAnyH_ready (rs := [36]) (by kernel_rfl) (by simp) (AllReadyH.cons rfl (fun K hK => ?_) AllReadyH.nil)
  rw [if_pos (by rfl)]
  go_wp2_with fail
  refine (HOPTS (some ⟨g1, h2, none⟩) (k + 1 - h2) (c1 - h2) (bs.drop h2) _ (by rw [List.length_drop, HX.out.1.own.len]) (by have hq := (HX.out.1.next hs4).own.rd.dropped (m := h2) (by rw [HX.out.1.own.len]; omega); rwa [Nat.zero_add] at hq) (HX.out.1.byt.drop h2) (by omega)).mono ?_
  rintro e x5 ⟨rfl, hb⟩
  have hs5 : Below wx.heap.size wx x5 := hs4.trans (Below.mono hb hs4.size)
  clear hb
  clear hS
  refine hK.out _ _ hs5 (fun hS => ?_)
  clear hK K
  try simp only [Act.put, List.setIfInBounds_toArray, List.set_cons_zero, List.set_cons_succ]
  refine tk 37 120 (.bool false) rfl rfl hsel (by kernel_rfl) (by kernel_rfl) (fun _ _ _ h => h) (Or.inl ⟨by rfl, fun w' h' => ?_⟩) hS ?_
  · go_simp
  try simp only [Act.put, List.setIfInBounds_toArray, List.set_cons_zero, List.set_cons_succ]
  refine tk 38 121 (.bool false) rfl rfl hsel (by kernel_rfl) (by kernel_rfl) (fun _ _ _ h => h) (Or.inl ⟨by rfl, fun w' h' => ?_⟩) hS ?_
  · go_simp
  refine wpAnyH_done (by kernel_rfl) ?_ _
  have HR : Hid (Kn w x5 (some ⟨g1, 0, none⟩) (k + 1) c1 bs ∧ x5.rangeAt b4 0 g.cs ∧ g.ok x5) := ⟨HX.out.1.next hs5, range_kept hs5 HX.out.2.2.2.1, HX.out.2.2.2.2.below hs5⟩
  clear hs0 hs1 hs2 hs3 hs4 hs5 HX
  go_wp2_with fail
  refine Met.intro ?_
  exact ⟨⟨rfl, rfl⟩, rfl, rfl, rfl, rfl, HR.out⟩

set_option maxRecDepth 100000 in
set_option maxHeartbeats 4000000 in
theorem q12 (wx : World) (k g1 c1 b4 : Nat) (a : Act) (hf : Fr 184 a) (h1 : sl a 1 = .slice (some ⟨g1, 0, none⟩) (k + 1) c1) (h2 : sl a 2 = .int .i64 (k : Int)) (h4 : sl a 4 = .pointer (some ⟨b4, 0, none⟩)) (h121 : sl a 121 = .bool false) :
    Code.wp Try.prog (cAt [1,1,0,1,2,2,1,0,2,1,1,1,1,1,1,0,1] KC) (Exit.then (fun a' w' => Fr 184 a' ∧ sl a' 1 = .slice (some ⟨g1, 0, none⟩) (k + 1) c1 ∧ sl a' 2 = .int .i64 (k : Int) ∧ sl a' 4 = .pointer (some ⟨b4, 0, none⟩) ∧ wx = w') Nope) a wx := by
  obtain ⟨f, ha, hs⟩ := fr184 hf
  have e1 := (hs 1).trans h1
  have e2 := (hs 2).trans h2
  have e4 := (hs 4).trans h4
  have e121 := (hs 121).trans h121
  rw [e1, e2, e4, e121] at ha
  clear hs hf e1 h1 e2 h2 e4 h4 e121 h121
  subst ha
  refine piece fun K hK => ?_
  conv => arg 2; whnf
  go_wp2_with fail
  refine Met.intro ?_
  exact ⟨⟨rfl, rfl⟩, rfl, rfl, rfl, rfl⟩

set_option maxRecDepth 100000 in
set_option maxHeartbeats 4000000 in
theorem q13 (w wx : World) (k g1 c1 b4 : Nat) (bs : List Int) (g : Hd) (hn : g.n ≤ 44) (HK : Hid (Kn w wx (some ⟨g1, 0, none⟩) (k + 1) c1 bs)) (HG : Hid (wx.rangeAt b4 0 g.cs ∧ g.ok wx)) (a : Act) (hf : Fr 184 a) (h1 : sl a 1 = .slice (some ⟨g1, 0, none⟩) (k + 1) c1) (h2 : sl a 2 = .int .i64 (k : Int)) (h4 : sl a 4 = .pointer (some ⟨b4, 0, none⟩)) :
    Code.wp Try.prog (cAt [1,1,0,1,2,2,1,0,2,1,1,1,1,1,1,1,0] KC) (Exit.then (fun a' w' => ∃ (a6 : Option Addr) (n6 c6 : Nat) (ys : List Int), Fr 184 a' ∧ sl a' 1 = .slice (some ⟨g1, 0, none⟩) (k + 1) c1 ∧ sl a' 2 = .int .i64 (k : Int) ∧ sl a' 5 = .slice a6 n6 c6 ∧ Kn w w' (some ⟨g1, 0, none⟩) (k + 1) c1 bs ∧ n6 ≤ 60 ∧ ys.length = n6 ∧ Rd w' a6 ys ∧ Byt ys) Nope) a wx := by
  obtain ⟨f, ha, hs⟩ := fr184 hf
  have e1 := (hs 1).trans h1
  have e2 := (hs 2).trans h2
  have e4 := (hs 4).trans h4
  rw [e1, e2, e4] at ha
  clear hs hf e1 h1 e2 h2 e4 h4
  subst ha
  refine piece fun K hK => ?_
  conv => arg 2; whnf
  have HLG := Lib.hid HG.out.2.len
  have HN := Lib.hid hn
  clear hn
  go_wp2_with (refine ldH (.tmp 4) rfl rfl b4 rfl g HLG.out HG.out.1 ?_)
  refine (iPut_any g _ HG.out.2 (by have := HN.out; omega)).mono ?_
  rintro e w7 hp
  obtain ⟨hb7, a6, n6, c6, rfl, ho6⟩ := hp.one
  have HR : Hid (Kn w w7 (some ⟨g1, 0, none⟩) (k + 1) c1 bs ∧ n6 ≤ 60 ∧ (pb g).length = n6 ∧ Rd w7 a6 (pb g) ∧ Byt (pb g)) :=
    ⟨HK.out.next hb7, by rw [← ho6.len]; exact pb_le HG.out.2, ho6.len, ho6.rd, pb_byt HG.out.2⟩
  obtain ⟨PZ, hPZ⟩ : ∃ x, pz g = x := ⟨_, rfl⟩
  rw [hPZ]
  clear hp hb7 ho6 hPZ
  go_wp2_with fail
  refine Met.intro ?_
  exact ⟨_, _, _, _, ⟨rfl, rfl⟩, rfl, rfl, rfl, HR.out⟩

set_option maxRecDepth 100000 in
set_option maxHeartbeats 4000000 in
theorem q14 (w wx : World) (k g1 c1 n6 c6 : Nat) (a6 : Option Addr) (bs ys : List Int) (hlt : k < 44) (HK : Hid (Kn w wx (some ⟨g1, 0, none⟩) (k + 1) c1 bs)) (HO : Hid (n6 ≤ 60 ∧ ys.length = n6 ∧ Rd wx a6 ys ∧ Byt ys)) (a : Act) (hf : Fr 184 a) (h1 : sl a 1 = .slice (some ⟨g1, 0, none⟩) (k + 1) c1) (h2 : sl a 2 = .int .i64 (k : Int)) (h5 : sl a 5 = .slice a6 n6 c6) :
    Code.wp Try.prog (cAt [1,1,0,1,2,2,1,0,2,1,1,1,1,1,1,1,1,0] KC) (Exit.then (fun a' w' => ∃ (g7 o7 n7 c7 : Nat) (zs : List Int), Fr 184 a' ∧ sl a' 1 = .slice (some ⟨g1, 0, none⟩) (k + 1) c1 ∧ sl a' 2 = .int .i64 (k : Int) ∧ sl a' 7 = .slice (some ⟨g7, o7, none⟩) n7 c7 ∧ Kn w w' (some ⟨g1, 0, none⟩) (k + 1) c1 bs ∧ Kn w w' (some ⟨g7, o7, none⟩) n7 c7 zs ∧ n7 ≤ 110 ∧ 0 < n7) Nope) a wx := by
  obtain ⟨f, ha, hs⟩ := fr184 hf
  have e1 := (hs 1).trans h1
  have e2 := (hs 2).trans h2
  have e5 := (hs 5).trans h5
  rw [e1, e2, e5] at ha
  clear hs hf e1 h1 e2 h2 e5 h5
  subst ha
  refine piece fun K hK => ?_
  conv => arg 2; whnf
  have hn6 := HO.out.1
  go_wp2_with fail
  refine (join_any a6 (some ⟨g1, 0, none⟩) n6 c6 (k + 1) c1 ys bs _ HO.out.2.1 HK.out.own.len HO.out.2.2.1 HK.out.own.rd (by omega)).mono ?_
  rintro e w8 ⟨a7, n7, c7, rfl, ho7, hb8⟩
  have hn7 : n7 = n6 + (k + 1) := by rw [← ho7.len, List.length_append, HO.out.2.1, HK.out.own.len]
  have HA8 : Hid (Kn w w8 (some ⟨g1, 0, none⟩) (k + 1) c1 bs ∧ Kn w w8 a7 n7 c7 (ys ++ bs)) :=
    ⟨HK.out.next hb8, ho7.mono HK.out.below.size, HO.out.2.2.2.append HK.out.byt, (HK.out.next hb8).below⟩
  have H7 : Hid (n7 ≤ 110 ∧ 0 < n7) := by show _ ∧ _; omega
  clear hn7
  obtain ⟨g7, o7, rfl, _⟩ := HA8.out.2.own.rd (by intro e; have := HA8.out.2.own.len; rw [e] at this; simp at this; have := H7.out; omega)
  clear ho7 hb8
  go_wp2_with fail
  refine Met.intro ?_
  exact ⟨_, _, _, _, _, ⟨rfl, rfl⟩, rfl, rfl, rfl, HA8.out.1, HA8.out.2, H7.out⟩

set_option maxRecDepth 100000 in
set_option maxHeartbeats 4000000 in
theorem q15 (wx : World) (k g1 c1 g7 o7 n7 c7 : Nat) (a : Act) (hf : Fr 184 a) (h1 : sl a 1 = .slice (some ⟨g1, 0, none⟩) (k + 1) c1) (h2 : sl a 2 = .int .i64 (k : Int)) (h7 : sl a 7 = .slice (some ⟨g7, o7, none⟩) n7 c7) :
    Code.wp Try.prog (cAt [1,1,0,1,2,2,1,0,2,1,1,1,1,1,1,1,1,1,0,0] KC) (Exit.then (fun a' w' => Fr 184 a' ∧ sl a' 1 = .slice (some ⟨g1, 0, none⟩) (k + 1) c1 ∧ sl a' 2 = .int .i64 (k : Int) ∧ sl a' 7 = .slice (some ⟨g7, o7, none⟩) n7 c7 ∧ sl a' 8 = .int .i64 0 ∧ wx = w') Nope) a wx := by
  obtain ⟨f, ha, hs⟩ := fr184 hf
  have e1 := (hs 1).trans h1
  have e2 := (hs 2).trans h2
  have e7 := (hs 7).trans h7
  rw [e1, e2, e7] at ha
  clear hs hf e1 h1 e2 h2 e7 h7
  subst ha
  refine piece fun K hK => ?_
  conv => arg 2; whnf
  go_wp2_with fail
  refine Met.intro ?_
  exact ⟨⟨rfl, rfl⟩, rfl, rfl, rfl, rfl, rfl⟩

end Go.Proofs.Ytjnbnjdajkhkpaa

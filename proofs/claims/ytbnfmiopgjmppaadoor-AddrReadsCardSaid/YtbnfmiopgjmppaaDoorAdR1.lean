/-
  Contracts of the document's own small functions on numbers and addresses: Digits, Number. Conditions: those that each theorem names.
-/
import Derived.Test.YtbnfmiopgjmppaaDoorAdT3
import Derived.Test.YtbnfmiopgjmppaaDoorAdHead
import Derived.WalkMore
import Derived.Deep.RegionHeld3
namespace Go.Proofs.YtbnfmiopgjmppaaDoor
open Go.RowKit

/-- A text's value. -/
def sv (l : Tx) : Value := .string ⟨l.toArray⟩
theorem quiet_n {P : Program} {f : FuncId} {args : Array Value} {w : World} {n : Nat} {v : Value}
    (h : Calls P f args (w.drewN n) fun e w' => e = .returned v ∧ ∃ m, w' = (w.drewN n).drewN m) : Calls P f args (w.drewN n) fun e w'' => e = .returned v ∧ ∃ m, w'' = w.drewN m :=
  h.mono fun _ _ ⟨he, m, hm⟩ => ⟨he, n + m, by rw [hm, World.drewN_drewN]⟩
def hexDigits : ByteArray := ⟨#[48, 49, 50, 51, 52, 53, 54, 55, 56, 57, 97, 98, 99, 100, 101, 102]⟩
theorem one_digit_fin : ∀ n : Fin 16, hexDigits.extract n.val (n.val + 1) = ⟨#[hd n.val]⟩ := by decide +kernel
theorem digT_one {k b n : Nat} (h : n < b) : digT (k + 1) b n = [hd n] := by rw [digT, if_pos h]

theorem ba_app (x y : Tx) : (⟨x.toArray⟩ : ByteArray) ++ ⟨y.toArray⟩ = ⟨(x ++ y).toArray⟩ := by
  apply ByteArray.ext
  simp [ByteArray.data_append]
theorem digT_le : ∀ k b n : Nat, (digT k b n).length ≤ k
  | 0, _, _ => Nat.le_refl _
  | k + 1, b, n => by
    rw [digT]
    split
    · simp
    · have := digT_le k b (n / b); simp; omega
theorem drewN_three (w : World) (a b : Nat) : (w.drew.drewN a).drewN b = w.drewN (1 + a + b) := by
  rw [World.drewN_drewN]
  show ((w.drewN 1).drewN (a + b)) = _
  rw [World.drewN_drewN, Nat.add_assoc]
theorem tk {P : Program} {md : Region.Mode} {ops : Array Oper} {Q : Exit → Act → World → Prop} {S : World → Prop} (i d : Nat) (v : Value) {oi : Oper} {fuel : Nat} {listed : Array Bool} {a : Act} {w : World} (hi : ops[i]? = some oi) (hd : oi.dst = some d)
    (hs : Region.noSelect ops = true) (hf : Region.free md ops listed i = true) (hr : (Region.ready md ops listed).contains i = true)
    (hQ : ∀ c a w, Q (.panic c) (a.put (some d) v) w → Q (.panic c) a w) (hy : YieldsIf P ops S oi v a) (hS : S w)
    (h : wpAnyH P md ops Q S fuel (listed.setIfInBounds i true) (a.put (some d) v) w) : wpAnyH P md ops Q S (fuel + 1) listed a w :=
  wpAnyH_take hi hs hf hr (by rw [hd]; exact hQ) hy hS (by rw [hd]; exact h)
set_option maxRecDepth 100000 in
set_option maxHeartbeats 2000000 in
theorem r4Digits_any (b : Nat) (hb : b = 10 ∨ b = 16) : ∀ (k n : Nat) (w : World), n < b ^ (k + 1) → n < 1000000 → k ≤ 100 →
    Calls Tryd.prog 39 #[.int .i64 n, .int .i64 b] w fun e w' => e = .returned (sv (digT (k + 1) b n)) ∧ ∃ m, w' = w.drewN m := by
  intro k
  induction k with
  | zero =>
    intro n w hn hm hk
    have hlt : n < b := by simpa using hn
    have h16 : n < 16 := by omega
    rw [digT_one hlt]
    have hx := one_digit_fin ⟨n, h16⟩
    simp only at hx
    have q1 : (n : Int) < (b : Int) := by omega
    have q2 : IntKind.i64.wrap ((n : Int) + 1) = (n : Int) + 1 := by rw [IntKind.wrap_i64]; omega
    go_enter Tryd.func39, Tryd.ntmps39
    go_wp2_with fail
    go_ret
    exact ⟨congrArg (fun z => Ending.returned (.string z)) hx, 0, rfl⟩
  | succ k ih =>
    intro n w hn hm hk
    by_cases hlt : n < b
    · have h16 : n < 16 := by omega
      rw [digT_one hlt]
      have hx := one_digit_fin ⟨n, h16⟩
      simp only at hx
      have q1 : (n : Int) < (b : Int) := by omega
      have q2 : IntKind.i64.wrap ((n : Int) + 1) = (n : Int) + 1 := by rw [IntKind.wrap_i64]; omega
      clear ih
      go_enter Tryd.func39, Tryd.ntmps39
      go_wp2_with fail
      go_ret
      exact ⟨congrArg (fun z => Ending.returned (.string z)) hx, 0, rfl⟩
    · have q1 : ¬ (n : Int) < (b : Int) := by omega
      have f1 : (n : Int).tdiv (b : Int) = ((n / b : Nat) : Int) := (Int.ofNat_tdiv n b).symm
      have f2 : (n : Int).tmod (b : Int) = ((n % b : Nat) : Int) := (Int.ofNat_tmod n b).symm
      have hq : n / b < b ^ (k + 1) := by rw [Nat.div_lt_iff_lt_mul (by omega)]; rw [Nat.pow_succ] at hn; exact hn
      have hr : n % b < b := Nat.mod_lt _ (by omega)
      have hr2 : n % b < b ^ (k + 1) := Nat.lt_of_lt_of_le hr (by rw [Nat.pow_succ]; exact Nat.le_mul_of_pos_left b (Nat.pow_pos (by omega)))
      have hqm : n / b ≤ n := Nat.div_le_self _ _
      rw [digT, if_neg hlt]
      have hd2 : digT (k + 1) b (n % b) = [hd (n % b)] := digT_one hr
      obtain ⟨q, hqq⟩ : ∃ q, n / b = q := ⟨_, rfl⟩
      obtain ⟨r, hrr⟩ : ∃ r, n % b = r := ⟨_, rfl⟩
      rw [hqq] at f1 hq hqm ⊢
      rw [hrr] at f2 hr hr2 hd2 ⊢
      have q3 : IntKind.i64.wrap (q : Int) = q := by rw [IntKind.wrap_i64]; omega
      have q0 : ¬ b = 0 := by omega
      have h1 : ∀ w, Calls Tryd.prog 39 #[.int .i64 q, .int .i64 b] w fun e w' => e = .returned (.string ⟨(digT (k + 1) b q).toArray⟩) ∧ ∃ m, w' = w.drewN m := fun w => ih q w hq (by omega) (by omega)
      have h2 : ∀ w, Calls Tryd.prog 39 #[.int .i64 r, .int .i64 b] w fun e w' => e = .returned (.string ⟨#[hd r]⟩) ∧ ∃ m, w' = w.drewN m := fun w => by have := ih r w hr2 (by omega) (by omega); rw [hd2] at this; exact this
      obtain ⟨x, hx⟩ : ∃ x, digT (k + 1) b q = x := ⟨_, rfl⟩
      have HLN : Hid (¬ 9223372036854775807 < x.length + 1) := by have := digT_le (k + 1) b q; rw [hx] at this; show ¬ _; omega
      rw [hx] at h1 ⊢
      have H1 := Lib.hid h1
      have H2 := Lib.hid h2
      clear hqq hrr ih hd2 hx h1 h2
      go_enter Tryd.func39, Tryd.ntmps39
      go_wp2_with fail
      -- REGION
      refine wp_region_held_drew (S := fun w' => True) (by kernel_rfl) trivial (fun hS => ?_)
      refine tk 0 12 (.int .i64 (n : Int)) rfl rfl (by kernel_rfl) (by kernel_rfl) (by kernel_rfl) (fun _ _ _ h => h) (Or.inl ⟨by rfl, fun w' h' => ?_⟩) hS ?_
      · go_simp
      try simp only [Act.put, List.setIfInBounds_toArray, List.set_cons_zero, List.set_cons_succ]
      refine tk 1 13 (.int .i64 (b : Int)) rfl rfl (by kernel_rfl) (by kernel_rfl) (by kernel_rfl) (fun _ _ _ h => h) (Or.inl ⟨by rfl, fun w' h' => ?_⟩) hS ?_
      · go_simp
      try simp only [Act.put, List.setIfInBounds_toArray, List.set_cons_zero, List.set_cons_succ]
      refine tk 2 14 (.int .i64 (q : Int)) rfl rfl (by kernel_rfl) (by kernel_rfl) (by kernel_rfl) (fun _ _ _ h => h) (Or.inl ⟨by rfl, fun w' h' => ?_⟩) hS ?_
      · go_simp
      try simp only [Act.put, List.setIfInBounds_toArray, List.set_cons_zero, List.set_cons_succ]
      refine tk 3 15 (.int .i64 (b : Int)) rfl rfl (by kernel_rfl) (by kernel_rfl) (by kernel_rfl) (fun _ _ _ h => h) (Or.inl ⟨by rfl, fun w' h' => ?_⟩) hS ?_
      · go_simp
      try simp only [Act.put, List.setIfInBounds_toArray, List.set_cons_zero, List.set_cons_succ]
      refine tk 5 17 (.int .i64 (n : Int)) rfl rfl (by kernel_rfl) (by kernel_rfl) (by kernel_rfl) (fun _ _ _ h => h) (Or.inl ⟨by rfl, fun w' h' => ?_⟩) hS ?_
      · go_simp
      try simp only [Act.put, List.setIfInBounds_toArray, List.set_cons_zero, List.set_cons_succ]
      refine tk 6 18 (.int .i64 (b : Int)) rfl rfl (by kernel_rfl) (by kernel_rfl) (by kernel_rfl) (fun _ _ _ h => h) (Or.inl ⟨by rfl, fun w' h' => ?_⟩) hS ?_
      · go_simp
      try simp only [Act.put, List.setIfInBounds_toArray, List.set_cons_zero, List.set_cons_succ]
      refine tk 7 19 (.int .i64 (r : Int)) rfl rfl (by kernel_rfl) (by kernel_rfl) (by kernel_rfl) (fun _ _ _ h => h) (Or.inl ⟨by rfl, fun w' h' => ?_⟩) hS ?_
      · go_simp
      try simp only [Act.put, List.setIfInBounds_toArray, List.set_cons_zero, List.set_cons_succ]
      refine tk 8 20 (.int .i64 (b : Int)) rfl rfl (by kernel_rfl) (by kernel_rfl) (by kernel_rfl) (fun _ _ _ h => h) (Or.inl ⟨by rfl, fun w' h' => ?_⟩) hS ?_
      · go_simp
      try simp only [Act.put, List.setIfInBounds_toArray, List.set_cons_zero, List.set_cons_succ]
      refine wpAnyH_ready (rs := [4]) (by kernel_rfl) (by simp) (AllReadyH.cons rfl (fun K hK => ?_) AllReadyH.nil)
      rw [if_pos (by rfl)]
      go_wp2_with fail
      refine (H1.out _).mono ?_
      rintro e w1 ⟨rfl, m1, hw1⟩
      clear hS
      refine hK.out _ _ (trivial) (fun hS => ?_)
      clear hK K
      try simp only [Act.put, List.setIfInBounds_toArray, List.set_cons_zero, List.set_cons_succ]
      refine wpAnyH_ready (rs := [9]) (by kernel_rfl) (by simp) (AllReadyH.cons rfl (fun K hK => ?_) AllReadyH.nil)
      rw [if_pos (by rfl)]
      go_wp2_with fail
      refine (H2.out _).mono ?_
      rintro e w2 ⟨rfl, m2, hw2⟩
      clear hS
      refine hK.out _ _ (trivial) (fun hS => ?_)
      clear hK K
      try simp only [Act.put, List.setIfInBounds_toArray, List.set_cons_zero, List.set_cons_succ]
      refine tk 10 22 (.string ⟨(x ++ [hd r]).toArray⟩) rfl rfl (by kernel_rfl) (by kernel_rfl) (by kernel_rfl) (fun _ _ _ h => h) (Or.inl ⟨by rfl, fun w' h' => ?_⟩) hS ?_
      · (go_simp; rw [if_neg HLN.out, ← ba_app])
      try simp only [Act.put, List.setIfInBounds_toArray, List.set_cons_zero, List.set_cons_succ]
      refine tk 11 4 (.string ⟨(x ++ [hd r]).toArray⟩) rfl rfl (by kernel_rfl) (by kernel_rfl) (by kernel_rfl) (fun _ _ _ h => h) (Or.inl ⟨by rfl, fun w' h' => ?_⟩) hS ?_
      · go_simp
      refine wpAnyH_done (by kernel_rfl) ?_ _
      have HW : Hid (∃ m, w2 = w.drewN m) := ⟨1 + m1 + m2, by first | rw [hw2, World.drewN_drewN] | (rw [hw2, hw1]; exact drewN_three w m1 m2)⟩
      clear hw1 hw2 hS
      go_wp2_with fail
      go_ret
      exact ⟨rfl, HW.out⟩
      -- END

theorem dv_cases (c : UInt8) : (48 ≤ c.toNat ∧ c.toNat ≤ 57 ∧ dv c = c.toNat - 48) ∨ (97 ≤ c.toNat ∧ c.toNat ≤ 102 ∧ dv c = c.toNat - 87) ∨ (65 ≤ c.toNat ∧ c.toNat ≤ 70 ∧ dv c = c.toNat - 55) ∨
    (¬ (48 ≤ c.toNat ∧ c.toNat ≤ 57) ∧ ¬ (97 ≤ c.toNat ∧ c.toNat ≤ 102) ∧ ¬ (65 ≤ c.toNat ∧ c.toNat ≤ 70) ∧ dv c = 99) := by
  unfold dv hv
  by_cases h1 : 48 ≤ c.toNat ∧ c.toNat ≤ 57
  · rw [if_pos h1]; exact .inl ⟨h1.1, h1.2, rfl⟩
  · rw [if_neg h1]
    by_cases h2 : 97 ≤ c.toNat ∧ c.toNat ≤ 102
    · rw [if_pos h2]; exact .inr (.inl ⟨h2.1, h2.2, rfl⟩)
    · rw [if_neg h2]
      by_cases h3 : 65 ≤ c.toNat ∧ c.toNat ≤ 70
      · rw [if_pos h3]; exact .inr (.inr (.inl ⟨h3.1, h3.2, rfl⟩))
      · rw [if_neg h3]; exact .inr (.inr (.inr ⟨h1, h2, h3, rfl⟩))
theorem str_at {l : Tx} {k : Nat} {c : UInt8} (h : l[k]? = some c) (w : World) : (Instr.index 9 (.string ⟨l.toArray⟩) (.int .i64 (k : Int))).run Tryd.prog w = .ok (.int .u8 (c.toNat : Int)) w := by
  have hk := (List.getElem?_eq_some_iff.1 h).1
  have hs : (ByteArray.mk l.toArray).size = l.length := by simp [ByteArray.size]
  have hg : ((ByteArray.mk l.toArray)[(k : Int).toNat]'(by rw [hs]; omega)) = c := by
    show l.toArray[(k : Int).toNat]'_ = c
    simpa using (List.getElem?_eq_some_iff.1 h).2
  rw [run_index_string (h := Tryd.underlying9), dif_pos ⟨by omega, by rw [hs]; omega⟩, hg]
theorem nfrom_step {base most acc k : Nat} {l : Tx} {c : UInt8} (h : l[k]? = some c) : nfrom base most acc (l.drop k) = if base ≤ dv c ∨ most ≤ acc * base + dv c then none else nfrom base most (acc * base + dv c) (l.drop (k + 1)) := by
  have hk := (List.getElem?_eq_some_iff.1 h).1
  have : l.drop k = c :: l.drop (k + 1) := by rw [List.drop_eq_getElem_cons hk]; congr 1; exact (List.getElem?_eq_some_iff.1 h).2
  rw [this, nfrom]

set_option maxRecDepth 100000 in
set_option maxHeartbeats 4000000 in
theorem r4Number_any (base most : Nat) (l : Tx) (w : World) (hb : base ≤ 16) (hm0 : 0 < most) (hm : most ≤ 65536) (hl : l.length ≤ 1000) :
    Calls Tryd.prog 47 #[.string ⟨l.toArray⟩, .int .i64 base, .int .i64 most] w fun e w' => e = .returned (.tuple #[.int .i64 (numberR base most l).1, .bool (numberR base most l).2]) ∧ w' = w := by
  have HN : Hid (numberR base most l = match nfrom base most 0 l with | some n => (n, decide (l ≠ [])) | none => (0, false)) := rfl
  go_enter Tryd.func47, Tryd.ntmps47
  go_wp2_with fail
  go_loopw [8, 9] (fun n_ i_ wr => ∃ k acc : Nat, k ≤ l.length ∧ acc < most ∧ n_ = .int .i64 acc ∧ i_ = .int .i64 k ∧ Hid (nfrom base most 0 l = nfrom base most acc (l.drop k)) ∧ wr = w) (fun _ i_ => fun _ => l.length - (intOf i_).toNat)
  case atStart => exact ⟨0, 0, Nat.zero_le _, hm0, rfl, rfl, rfl, rfl⟩
  case round =>
    obtain ⟨k, acc, hk, hacc, rfl, rfl, hq, rfl⟩ := hrel
    by_cases hlt : k < l.length
    · obtain ⟨c, hc⟩ : ∃ c, l[k]? = some c := ⟨_, List.getElem?_eq_getElem hlt⟩
      have hst := hq.out.trans (nfrom_step (base := base) (most := most) (acc := acc) hc)
      have hcs := dv_cases c
      have hcb : c.toNat < 256 := c.toNat_lt
      have hlt2 : (k : Int) < (l.length : Int) := by omega
      have hmul : acc * base ≤ 65536 * 16 := Nat.mul_le_mul (by omega) hb
      have hidx : ∀ w : World, (Instr.index 9 (.string ⟨l.toArray⟩) (.int .i64 (k : Int))).run Tryd.prog w = .ok (.int .u8 (c.toNat : Int)) w := fun w => str_at hc w
      obtain ⟨m, hm2⟩ : ∃ m, acc * base = m := ⟨_, rfl⟩
      have hmI : (acc : Int) * (base : Int) = (m : Int) := by rw [← hm2]; exact (Int.natCast_mul acc base).symm
      obtain ⟨v, hv⟩ : ∃ v, c.toNat = v := ⟨_, rfl⟩
      obtain ⟨d, hd⟩ : ∃ d, dv c = d := ⟨_, rfl⟩
      rw [hd, hm2] at hst
      rw [hv, hd] at hcs
      rw [hm2] at hmul
      rw [hv] at hidx hcb
      have HST := Lib.hid hst
      have e1 : IntKind.i64.wrap (m : Int) = m := by rw [IntKind.wrap_i64]; omega
      clear hst hq hc hm2 hv hd
      have hd99 : d ≤ 99 := by omega
      have e2 : IntKind.i64.wrap ((m : Int) + (d : Int)) = (m : Int) + (d : Int) := by rw [IntKind.wrap_i64]; omega
      have e3 : IntKind.i64.wrap ((v : Int) - 48) = (v : Int) - 48 := by rw [IntKind.wrap_i64]; omega
      have e4 : IntKind.i64.wrap ((v : Int) - 97) = (v : Int) - 97 := by rw [IntKind.wrap_i64]; omega
      have e5 : IntKind.i64.wrap ((v : Int) - 65) = (v : Int) - 65 := by rw [IntKind.wrap_i64]; omega
      have e6 : IntKind.i64.wrap (v : Int) = (v : Int) := by rw [IntKind.wrap_i64]; omega
      by_cases hbad : base ≤ d ∨ most ≤ m + d
      · have HNO : Hid (numberR base most l = (0, false)) := by show _ = _; rw [HN.out, HST.out, if_pos hbad]
        rcases hcs with ⟨c1, c2, c3⟩ | ⟨c1, c2, c3⟩ | ⟨c1, c2, c3⟩ | ⟨c1, c2, c3, c4⟩
        · have d1 : (v : Int) - 48 = (d : Int) := by omega
          by_cases hbd : base ≤ d
          · go_wp2_with fail
            go_ret2
            exact ⟨by rw [HNO.out]; rfl, rfl⟩
          · have hmd : most ≤ m + d := by omega
            go_wp2_with fail
            go_ret2
            exact ⟨by rw [HNO.out]; rfl, rfl⟩
        · have d1 : (v : Int) - 97 + 10 = (d : Int) := by omega
          have e7 : IntKind.i64.wrap ((d : Int)) = d := by rw [IntKind.wrap_i64]; omega
          by_cases hbd : base ≤ d
          · go_wp2_with fail
            go_ret2
            exact ⟨by rw [HNO.out]; rfl, rfl⟩
          · have hmd : most ≤ m + d := by omega
            go_wp2_with fail
            go_ret2
            exact ⟨by rw [HNO.out]; rfl, rfl⟩
        · have d1 : (v : Int) - 65 + 10 = (d : Int) := by omega
          have e7 : IntKind.i64.wrap ((d : Int)) = d := by rw [IntKind.wrap_i64]; omega
          by_cases hbd : base ≤ d
          · go_wp2_with fail
            go_ret2
            exact ⟨by rw [HNO.out]; rfl, rfl⟩
          · have hmd : most ≤ m + d := by omega
            go_wp2_with fail
            go_ret2
            exact ⟨by rw [HNO.out]; rfl, rfl⟩
        · subst c4
          have hv4 : v < 48 ∨ (58 ≤ v ∧ v < 65) ∨ (71 ≤ v ∧ v < 97) ∨ 103 ≤ v := by omega
          have hbd : base ≤ 99 := by omega
          clear c1 c2 c3
          rcases hv4 with c1 | ⟨c1, c2⟩ | ⟨c1, c2⟩ | c1
          · go_wp2_with fail
            go_ret2
            exact ⟨by rw [HNO.out]; rfl, rfl⟩
          · go_wp2_with fail
            go_ret2
            exact ⟨by rw [HNO.out]; rfl, rfl⟩
          · go_wp2_with fail
            go_ret2
            exact ⟨by rw [HNO.out]; rfl, rfl⟩
          · go_wp2_with fail
            go_ret2
            exact ⟨by rw [HNO.out]; rfl, rfl⟩
      · have HBAD := Lib.hid hbad
        rcases hcs with ⟨c1, c2, c3⟩ | ⟨c1, c2, c3⟩ | ⟨c1, c2, c3⟩ | ⟨c1, c2, c3, c4⟩
        · have d1 : (v : Int) - 48 = (d : Int) := by omega
          have hb1 : ¬ base ≤ d := fun e => hbad (.inl e)
          have hb2 : ¬ most ≤ m + d := fun e => hbad (.inr e)
          go_wp2_with fail
          go_roundw
          case rel => exact ⟨k + 1, m + d, by omega, by omega, by go_num, by go_num, by show nfrom _ _ _ _ = _; rw [HST.out, if_neg HBAD.out], by first | rfl | trivial⟩
          case measure => simp [intOf]; omega
        · have d1 : (v : Int) - 97 + 10 = (d : Int) := by omega
          have e7 : IntKind.i64.wrap ((d : Int)) = d := by rw [IntKind.wrap_i64]; omega
          have hb1 : ¬ base ≤ d := fun e => hbad (.inl e)
          have hb2 : ¬ most ≤ m + d := fun e => hbad (.inr e)
          go_wp2_with fail
          go_roundw
          case rel => exact ⟨k + 1, m + d, by omega, by omega, by go_num, by go_num, by show nfrom _ _ _ _ = _; rw [HST.out, if_neg HBAD.out], by first | rfl | trivial⟩
          case measure => simp [intOf]; omega
        · have d1 : (v : Int) - 65 + 10 = (d : Int) := by omega
          have e7 : IntKind.i64.wrap ((d : Int)) = d := by rw [IntKind.wrap_i64]; omega
          have hb1 : ¬ base ≤ d := fun e => hbad (.inl e)
          have hb2 : ¬ most ≤ m + d := fun e => hbad (.inr e)
          go_wp2_with fail
          go_roundw
          case rel => exact ⟨k + 1, m + d, by omega, by omega, by go_num, by go_num, by show nfrom _ _ _ _ = _; rw [HST.out, if_neg HBAD.out], by first | rfl | trivial⟩
          case measure => simp [intOf]; omega
        · exact absurd (Or.inl (by omega)) HBAD.out
    · obtain rfl : k = l.length := by omega
      have hall : nfrom base most 0 l = some acc := by rw [hq.out, List.drop_length]; rfl
      have HR : Hid (numberR base most l = (acc, decide (l ≠ []))) := by show _ = _; rw [HN.out, hall]
      have HD : Hid (decide (l ≠ []) = decide (0 < l.length)) := by show decide _ = decide _; congr 1; exact propext List.length_pos_iff.symm
      clear hq hall
      go_wp2_with fail
      go_ret2
      exact ⟨by rw [HR.out]; show _ = Ending.returned (.tuple #[.int .i64 (acc : Int), .bool (decide (l ≠ []))]); rw [HD.out]; rfl, rfl⟩
end Go.Proofs.YtbnfmiopgjmppaaDoor

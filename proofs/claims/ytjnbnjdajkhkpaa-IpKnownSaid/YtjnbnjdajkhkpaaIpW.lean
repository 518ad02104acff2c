/-
  The contracts of flagsWord, clone, word, check and headerSize of package ip. Conditions: numbers fit their Go types, bytes lie where the slices lead, rows shorter than 2 to the 40.
-/
import Derived.Test.YtjnbnjdajkhkpaaIpH
import Derived.Deep.RegionWith
namespace Go.Proofs.Ytjnbnjdajkhkpaa
open Go.RowKit

/-- In a region that draws its order: what yields in every world that meets S is taken first. -/
theorem tk {P : Program} {md : Region.Mode} {ops : Array Oper} {Q : Exit → Act → World → Prop} {S : World → Prop} (i d : Nat) (v : Value) {oi : Oper} {fuel : Nat} {listed : Array Bool} {a : Act} {w : World} (hi : ops[i]? = some oi) (hd : oi.dst = some d)
    (hs : Region.noSelect ops = true) (hf : Region.free md ops listed i = true) (hr : (Region.ready md ops listed).contains i = true)
    (hQ : ∀ c a w, Q (.panic c) (a.put (some d) v) w → Q (.panic c) a w) (hy : YieldsIf P ops S oi v a) (hS : S w)
    (h : wpAnyH P md ops Q S fuel (listed.setIfInBounds i true) (a.put (some d) v) w) : wpAnyH P md ops Q S (fuel + 1) listed a w :=
  wpAnyH_take hi hs hf hr (by rw [hd]; exact hQ) hy hS (by rw [hd]; exact h)

theorem undrew {w w' : World} (h : Below w.drew.heap.size w.drew w') : Below w.heap.size w w' := ⟨h.os, h.tape, h.output, h.size, h.block⟩
theorem wpList_build_run {P : Program} {ops : Array Oper} {rest : List Oper} {o : Oper} {a : Act} {w : World} {Q : Exit → Act → World → Prop} (hgd : o.guard = none) (t : TypeId) (parts : Array (Nat × Operand)) (ho : o.op = .build t parts)
    {cells : Array Value} (hc : P.built t (parts.toList.map fun x => (x.1, a.eval x.2)) = some cells) (h : wpList P ops Q rest (a.put o.dst (.agg cells)) w) : wpList P ops Q (o :: rest) a w :=
  wpList_plain hgd fun _ hK => by
    have hc' : P.built t (parts.map fun (i, x) => (i, a.eval x)).toList = some cells := by rw [← hc]; simp
    unfold Oper.wp execOp
    simp only [ho, Sem.run_bind, run_build w t _ cells hc', Result.andThen_ok]
    exact hK _ _ h
/-- How flags and Frag stand. -/
def flw (df mf : Bool) (frag : Int) : Int := (if df then 16384 else 0) + (if mf then 8192 else 0) + frag
theorem flw_range {df mf : Bool} {frag : Int} (h0 : 0 ≤ frag) (h1 : frag ≤ 8191) : 0 ≤ flw df mf frag ∧ flw df mf frag < 32768 := by
  unfold flw; cases df <;> cases mf <;> simp <;> omega
theorem or13 (x : Int) (h0 : 0 ≤ x) (h1 : x ≤ 8191) : bits .or .u16 x 8192 = x + 8192 := by
  rw [u16_or _ _ h0 (by omega) (by omega) (by omega), show (8192 : Int).toNat = 8192 from rfl, nat_join13' 8192 _ (by omega) (by omega)]; omega
theorem or14 (x : Int) (h0 : 0 ≤ x) (h1 : x ≤ 8191) : bits .or .u16 x 16384 = x + 16384 := by
  rw [u16_or _ _ h0 (by omega) (by omega) (by omega), show (16384 : Int).toNat = 16384 from rfl, nat_join14' 16384 _ (by omega) (by omega)]; omega
theorem or13' (x : Int) (h0 : 0 ≤ x) (h1 : x ≤ 8191) : bits .or .u16 (x + 16384) 8192 = x + 16384 + 8192 := by
  rw [u16_or _ _ (by omega) (by omega) (by omega) (by omega)]
  have e : (x + 16384).toNat = 16384 ||| x.toNat := by rw [nat_join14 16384 _ (by omega) (by omega)]; omega
  rw [e, Nat.or_assoc, show (8192 : Int).toNat = 8192 from rfl, nat_join13' 8192 _ (by omega) (by omega), nat_join14 16384 _ (by omega) (by omega)]
  omega

set_option maxHeartbeats 1000000 in
theorem iFlags_any (h : Hd) (w w0 : World) (k : h.ok w0) (hf : h.frag ≤ 8191) : Calls Try.prog 50 #[.agg h.cs.toArray] w (Gives w (.int .u16 (flw h.df h.mf h.frag))) := by
  have c3 := h.c3
  have c4 := h.c4
  have c5 := h.c5
  have f0 := k.frag.1
  have HB := Lib.hid ((Below.refl w.heap.size w).alloc (Nat.le_refl _) (.cells h.cs.toArray 26))
  obtain ⟨cs, hcs⟩ : ∃ cs, h.cs.toArray = cs := ⟨_, rfl⟩
  obtain ⟨fr, hfr⟩ : ∃ x, h.frag = x := ⟨_, rfl⟩
  rw [hcs] at c3 c4 c5 HB ⊢
  rw [hfr] at c5 f0 hf ⊢
  clear hcs hfr k
  have o1 := or13 fr f0 hf
  have o2 := or14 fr f0 hf
  have o3 := or13' fr f0 hf
  cases hdf : h.df <;> cases hmf : h.mf <;>
  · rw [hdf] at c3
    rw [hmf] at c4
    clear hdf hmf
    go_enter Try.func50, Try.ntmps50
    go_wp2_with fail
    go_ret
    exact ⟨by simp only [flw]; congr 2; simp; try omega, HB.out⟩

theorem iClone_any (a : Option Addr) (n c : Nat) (xs : List Int) (w : World) (hn : xs.length = n) (hr : Rd w a xs) (hlim : n ≤ 70368744177664) :
    Calls Try.prog 42 #[.slice a n c] w (Made w xs) := by
  obtain ⟨a', cap', w1, hrun, hown, hg, hb⟩ := run_append_rd w w.heap.size 24 (Own.nil w w.heap.size) c hn hr (by omega) (Nat.le_refl _)
  rw [List.nil_append] at hown
  have HR := Lib.hid hrun
  have HF : Hid (Made w xs (.returned (.slice a' (0 + n) cap')) w1) := ⟨a', 0 + n, cap', rfl, hown, (Below.refl _ _).grown hg (Nat.le_refl _) (by simp [blk])⟩
  clear hrun hown hg hb hn hr
  rw [Nat.zero_add] at HR HF
  go_enter Try.func42, Try.ntmps42
  go_wp2_with (at_builtin; refine Lib.wpList_append_run _ rfl _ _ _ _ rfl _ _ rfl rfl _ _ HR.out ?_)
  go_ret
  exact HF.out

theorem iWord_any (a : Option Addr) (n cap : Nat) (xs : List Int) (j : Nat) (w : World) (hn : xs.length = n) (hr : Rd w a xs) (hb : Byt xs) (hl : n ≤ 1099511627776) (hc : n ≤ cap) (hj : j + 2 ≤ n) :
    Calls Try.prog 40 #[.slice a n cap, .int .i64 j] w fun e w' => e = .returned (.int .u16 (wordAt xs j)) ∧ w = w' := by
  have HN := Lib.hid hn
  have HR := Lib.hid hr
  have HB := Lib.hid hb
  obtain ⟨he, hv⟩ := get_two xs j (by omega)
  have HE := Lib.hid he
  have HV := Lib.hid hv
  obtain ⟨w0, w1⟩ := wordAt_range hb j
  clear hr hb he hv hn
  go_enter Try.func40, Try.ntmps40
  go_wp2_with fail
  refine (get_any _ _ _ xs _ _ _ HN.out HR.out HB.out (by omega) (by omega) (by omega)).mono ?_
  rintro e w1 ⟨rfl, rfl⟩
  rw [HE.out, HV.out]
  obtain ⟨y, hy⟩ : ∃ y, wordAt xs j = y := ⟨_, rfl⟩
  have HY := Lib.hid hy
  rw [hy] at w0 w1 ⊢
  clear hy HV HE
  go_wp2_with fail
  go_ret
  exact ⟨by rw [HY.out]; rfl, rfl⟩

theorem fit2 {c : Int} (h0 : 0 ≤ c) (h1 : c ≤ 65535) : U64 c ∧ fitB c 2 = true := by
  have hu : U64 c := u64_small h0 (by omega)
  exact ⟨hu, (fitB_iff hu).2 ⟨by omega, by omega, by have := pw_lits.2.1; show c < pw 2; omega⟩⟩
theorem fit1 {c : Int} (h0 : 0 ≤ c) (h1 : c ≤ 255) : U64 c ∧ fitB c 1 = true := by
  have hu : U64 c := u64_small h0 (by omega)
  exact ⟨hu, (fitB_iff hu).2 ⟨by omega, by omega, by have := pw_lits.1; show c < pw 1; omega⟩⟩

theorem iCheck_any (base g : Nat) (a : Option Addr) (n cap : Nat) (xs : List Int) (c : Int) (w : World) (h : Wr w base g a n cap xs) (hl : n ≤ 1099511627776) (h12 : 12 ≤ n) (c0 : 0 ≤ c) (c1 : c ≤ 65535) :
    Calls Try.prog 30 #[.pointer (some ⟨g, 0, none⟩), .int .u16 c] w fun e w' => e = .returned (.tuple #[]) ∧ Wrote w base g a (splice xs 10 (be 2 c)) w' := by
  have HW := Lib.hid h
  obtain ⟨hu, hf⟩ := fit2 c0 c1
  have HU := Lib.hid hu
  have HS : Hid (setB n 10 c 2 = true) := by
    show setB _ _ _ _ = true
    simp only [setB, hf, Bool.true_and, Bool.and_eq_true, decide_eq_true_eq]
    omega
  clear h hu hf
  go_enter Try.func30, Try.ntmps30
  go_wp2_with fail
  refine (wSet_fit _ _ _ _ _ xs 10 c 2 _ HW.out HU.out hl HS.out).mono ?_
  rintro e w1 ⟨rfl, hw⟩
  have HW1 := Lib.hid hw
  clear hw
  go_wp2_with fail
  go_end0
  exact ⟨rfl, HW1.out⟩

/-- What headerSize answers: the error, and the size. -/
def szE (xs : List Int) : Int :=
  if xs.length < 20 then 10 else if xs.getD 0 0 / 16 ≠ 4 then 50 else if xs.getD 0 0 % 16 * 4 < 20 then 51 else if (xs.length : Int) < xs.getD 0 0 % 16 * 4 then 10 else 0
def szV (xs : List Int) : Int := if szE xs = 0 then xs.getD 0 0 % 16 * 4 else 0
theorem and15 (x : Int) (h0 : 0 ≤ x) (h1 : x < 256) : bits .and .u8 x 15 = x % 16 := by
  rw [u8_and _ _ h0 h1 (by omega) (by omega)]
  have : (15 : Int).toNat = 2 ^ 4 - 1 := rfl
  rw [this, Nat.and_two_pow_sub_one_eq_mod]
  omega

set_option maxHeartbeats 1000000 in
theorem iSize_any (a : Option Addr) (n cap : Nat) (xs : List Int) (w : World) (hn : xs.length = n) (hr : Rd w a xs) (hb : Byt xs) (hl : n ≤ 1099511627776) (_hc : n ≤ cap) :
    Calls Try.prog 38 #[.slice a n cap] w fun e w' => e = .returned (.tuple #[.int .i64 (szV xs), .int .i64 (szE xs)]) ∧ w = w' := by
  have HR := Lib.hid hr
  clear hr
  have HE : Hid (szE xs = if n < 20 then 10 else if xs.getD 0 0 / 16 ≠ 4 then 50 else if xs.getD 0 0 % 16 * 4 < 20 then 51 else if (n : Int) < xs.getD 0 0 % 16 * 4 then 10 else 0) := by
    show szE xs = _
    unfold szE; rw [hn]
  have HV : Hid (szV xs = if szE xs = 0 then xs.getD 0 0 % 16 * 4 else 0) := rfl
  obtain ⟨x0, x1⟩ := hb.get 0
  by_cases h20 : n < 20
  · have HE2 : Hid (szE xs = 10) := by show szE xs = 10; rw [HE.out, if_pos h20]
    have HV2 : Hid (szV xs = 0) := by show szV xs = 0; rw [HV.out, HE2.out]; rfl
    clear HE HV x0 x1 hn hb
    go_enter Try.func38, Try.ntmps38
    go_wp2_with fail
    go_ret2
    exact ⟨by rw [HE2.out, HV2.out]; rfl, rfl⟩
  · obtain ⟨b, o, rfl, hcell⟩ := HR.out (by intro e; rw [e] at hn; simp at hn; omega)
    have hc0 := hcell 0 (by omega)
    rw [Nat.add_zero] at hc0
    obtain ⟨x, hx⟩ : ∃ x, xs.getD 0 0 = x := ⟨_, rfl⟩
    rw [hx] at hc0 x0 x1 HE HV
    have ha := and15 x x0 x1
    clear hx hcell hn hb
    by_cases h4 : x / 16 = 4
    · by_cases h5 : x % 16 * 4 < 20
      · have HE2 : Hid (szE xs = 51) := by show szE xs = 51; rw [HE.out, if_neg h20, if_neg (by omega), if_pos h5]
        have HV2 : Hid (szV xs = 0) := by show szV xs = 0; rw [HV.out, HE2.out]; rfl
        clear HE HV
        go_enter Try.func38, Try.ntmps38
        go_wp2_with fail
        go_ret2
        exact ⟨by rw [HE2.out, HV2.out]; rfl, rfl⟩
      · by_cases h6 : (n : Int) < x % 16 * 4
        · have HE2 : Hid (szE xs = 10) := by show szE xs = 10; rw [HE.out, if_neg h20, if_neg (by omega), if_neg h5, if_pos h6]
          have HV2 : Hid (szV xs = 0) := by show szV xs = 0; rw [HV.out, HE2.out]; rfl
          clear HE HV
          go_enter Try.func38, Try.ntmps38
          go_wp2_with fail
          go_ret2
          exact ⟨by rw [HE2.out, HV2.out]; rfl, rfl⟩
        · have HE2 : Hid (szE xs = 0) := by show szE xs = 0; rw [HE.out, if_neg h20, if_neg (by omega), if_neg h5, if_neg h6]
          have HV2 : Hid (szV xs = x % 16 * 4) := by show szV xs = _; rw [HV.out, HE2.out]; rfl
          clear HE HV
          go_enter Try.func38, Try.ntmps38
          go_wp2_with fail
          go_ret2
          exact ⟨by rw [HE2.out, HV2.out]; rfl, rfl⟩
    · have HE2 : Hid (szE xs = 50) := by show szE xs = 50; rw [HE.out, if_neg h20, if_pos h4]
      have HV2 : Hid (szV xs = 0) := by show szV xs = 0; rw [HV.out, HE2.out]; rfl
      have hq : (x / 16 != 4) = true := by simp [h4]
      clear HE HV
      go_enter Try.func38, Try.ntmps38
      go_wp2_with fail
      go_ret2
      exact ⟨by rw [HE2.out, HV2.out]; rfl, rfl⟩
end Go.Proofs.Ytjnbnjdajkhkpaa

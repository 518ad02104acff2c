/-
  Plain facts: heads of heads; what is told is read as it was; the order of addresses. No conditions on the program.
-/
import Derived.Test.YtbnfmiopgjmppaaDoorAdWk
namespace Go.Proofs.YtbnfmiopgjmppaaDoor
open Go.RowKit

theorem msk_fin : ∀ x : Fin 256, ∀ a : Fin 9, ∀ b : Fin 9, msk (msk (x.val : Int) a.val) b.val = msk (x.val : Int) (min a.val b.val) := by decide +kernel
theorem msk_fin2 : ∀ x : Fin 256, ∀ a : Fin 9, 0 ≤ msk (x.val : Int) a.val ∧ msk (x.val : Int) a.val < 256 := by decide +kernel
theorem msk_fin3 : ∀ x : Fin 256, msk (x.val : Int) 8 = x.val ∧ msk (x.val : Int) 0 = 0 := by decide +kernel
theorem msk_msk {x : Int} (h0 : 0 ≤ x) (h1 : x < 256) {a b : Nat} (ha : a ≤ 8) (hb : b ≤ 8) : msk (msk x a) b = msk x (min a b) := by
  have h := msk_fin ⟨x.toNat, by omega⟩ ⟨a, by omega⟩ ⟨b, by omega⟩
  simp only [Int.toNat_of_nonneg h0] at h
  exact h
theorem msk_b {x : Int} (h0 : 0 ≤ x) (h1 : x < 256) {a : Nat} (ha : a ≤ 8) : 0 ≤ msk x a ∧ msk x a < 256 := by
  have h := msk_fin2 ⟨x.toNat, by omega⟩ ⟨a, by omega⟩
  simp only [Int.toNat_of_nonneg h0] at h
  exact h
theorem msk_8 {x : Int} (h0 : 0 ≤ x) (h1 : x < 256) : msk x 8 = x ∧ msk x 0 = 0 := by
  have h := msk_fin3 ⟨x.toNat, by omega⟩
  simp only [Int.toNat_of_nonneg h0] at h
  exact h
theorem kp_le (n : Int) (i : Nat) : kp n i ≤ 8 := by unfold kp; exact Nat.min_le_right _ _
theorem kp_min (a b : Int) (i : Nat) : kp (min a b) i = min (kp a i) (kp b i) := by
  unfold kp
  omega
theorem ext16 {xs ys : List Int} (hx : xs.length = 16) (hy : ys.length = 16) (h : ∀ i, i < 16 → xs.getD i 0 = ys.getD i 0) : xs = ys := by
  apply List.ext_getElem (by rw [hx, hy])
  intro i h1 h2
  have := h i (by omega)
  simpa [List.getD_eq_getElem?_getD, List.getElem?_eq_getElem h1, List.getElem?_eq_getElem h2] using this
theorem hdL_byt {xs : List Int} (hb : Byt xs) (n : Int) : Byt (hdL xs n) := by
  intro x hx
  obtain ⟨i, _, rfl⟩ := List.mem_map.1 hx
  obtain ⟨h0, h1⟩ := hb.get i
  exact msk_b h0 h1 (kp_le n i)
theorem hdL_hdL {xs : List Int} (hb : Byt xs) (a b : Int) : hdL (hdL xs a) b = hdL xs (min a b) := by
  refine ext16 (hdL_len _ _) (hdL_len _ _) (fun i hi => ?_)
  rw [hdL_get _ _ _ hi, hdL_get _ _ _ hi, hdL_get _ _ _ hi, kp_min]
  obtain ⟨h0, h1⟩ := hb.get i
  exact msk_msk h0 h1 (kp_le a i) (kp_le b i)
theorem hdL_all {xs : List Int} (hl : xs.length = 16) (hb : Byt xs) : hdL xs 128 = xs := by
  refine ext16 (hdL_len _ _) hl (fun i hi => ?_)
  rw [hdL_get _ _ _ hi]
  obtain ⟨h0, h1⟩ := hb.get i
  rw [show kp 128 i = 8 by unfold kp; omega]
  exact (msk_8 h0 h1).1
theorem rgt_six {xs : List Int} (hl : xs.length = 16) (hb : Byt xs) : rgt true xs = true := by
  unfold rgt
  exact decide_eq_true (hdL_all hl hb)
theorem rgt_four {xs : List Int} (hl : xs.length = 16) (hb : Byt xs) : rgt false xs = true ↔ ∀ i, 4 ≤ i → i < 16 → xs.getD i 0 = 0 := by
  unfold rgt
  rw [decide_eq_true_iff]
  constructor
  · intro h i h4 hi
    have h2 : (hdL xs (dgA false)).getD i 0 = xs.getD i 0 := by rw [h]
    rw [hdL_get _ _ _ hi] at h2
    obtain ⟨h0, h1⟩ := hb.get i
    rw [show kp (dgA false) i = 0 by unfold kp dgA; simp; omega, (msk_8 h0 h1).2] at h2
    exact h2.symm
  · intro h
    refine ext16 (hdL_len _ _) hl (fun i hi => ?_)
    rw [hdL_get _ _ _ hi]
    obtain ⟨h0, h1⟩ := hb.get i
    rcases Nat.lt_or_ge i 4 with h4 | h4
    · rw [show kp (dgA false) i = 8 by unfold kp dgA; simp; omega]
      exact (msk_8 h0 h1).1
    · rw [show kp (dgA false) i = 0 by unfold kp dgA; simp; omega, (msk_8 h0 h1).2, h i h4 hi]
theorem rgR_rgt {s : Bool} {xs : List Int} (hl : xs.length = 16) (hb : Byt xs) : rgR s xs = rgt s xs := by
  cases s
  · unfold rgR
    rw [Bool.false_or]
    cases hr : rgt false xs
    · apply decide_eq_false
      intro h
      have := (rgt_four hl hb).2 (fun i h4 hi => h ⟨i, hi⟩ h4)
      rw [hr] at this
      cases this
    · apply decide_eq_true
      intro j h4
      exact (rgt_four hl hb).1 hr j.val h4 j.isLt
  · rw [rgt_six hl hb]; rfl
theorem clm_le (s : Bool) (n : Int) : 0 ≤ clm s n ∧ clm s n ≤ dgA s := by
  have := dgA_b s
  unfold clm
  split
  · omega
  · split <;> omega
theorem clm_clm (s : Bool) (n : Int) : clm s (clm s n) = clm s n := by
  have h := clm_le s n
  generalize clm s n = k at h
  unfold clm
  rw [if_neg (by omega), if_neg (by omega)]
theorem clm_mono (s : Bool) {m n : Int} (h : n ≤ m) : clm s n ≤ clm s m := by
  have := dgA_b s
  unfold clm
  split <;> split <;> (try split) <;> (try split) <;> omega
theorem rgt_hd {s : Bool} {xs : List Int} (hb : Byt xs) {k : Int} (hk : k ≤ dgA s) : rgt s (hdL xs k) = true := by
  unfold rgt
  apply decide_eq_true
  rw [hdL_hdL hb, show min k (dgA s) = k by omega]
/-- A cut of what is right. -/
theorem cutV_ok {s : Bool} {xs : List Int} (h : rgt s xs = true) (n : Int) : cutV s xs n = pfl s (hdL xs (clm s n)) (clm s n) := by unfold cutV; rw [if_pos h]
theorem cut_has {s : Bool} {xs : List Int} (hb : Byt xs) (n k : Int) (hk : 0 ≤ k) (hkn : k ≤ clm s n) : phs s (hdL xs k) k s (hdL xs (clm s n)) = true := by
  have h1 := clm_le s n
  have h2 : rgt s (hdL xs (clm s n)) = true := rgt_hd hb h1.2
  have h3 : clm s k = k := by unfold clm; rw [if_neg (by omega), if_neg (by omega)]
  unfold phs
  rw [h2, Bool.true_and]
  apply decide_eq_true
  unfold ctS ctX ctN
  rw [if_pos h2, if_pos h2, if_pos h2, h3, hdL_hdL hb, show min (clm s n) k = k by omega]
  exact ⟨⟨rfl, rfl⟩, rfl⟩
theorem has_self {s : Bool} {xs : List Int} (h : rgt s xs = true) (n : Int) : phs s (hdL xs (clm s n)) (clm s n) s xs = true := by
  unfold phs
  rw [h, Bool.true_and]
  apply decide_eq_true
  unfold ctS ctX ctN
  rw [if_pos h, if_pos h, if_pos h, clm_clm]
  exact ⟨⟨rfl, rfl⟩, rfl⟩
theorem prt_ok {s : Bool} {xs : List Int} (hb : Byt xs) (n : Int) : prt s (hdL xs (clm s n)) (clm s n) = true := by
  have h1 := clm_le s n
  have h2 : rgt s (hdL xs (clm s n)) = true := rgt_hd hb h1.2
  unfold prt
  apply decide_eq_true
  unfold ctS ctX ctN
  rw [if_pos h2, if_pos h2, if_pos h2, clm_clm, hdL_hdL hb, show min (clm s n) (clm s n) = clm s n by omega]
  exact ⟨⟨rfl, rfl⟩, rfl⟩
theorem has_eq {s t : Bool} {xs ys : List Int} (h : rgt s xs = true) (n : Int) : phs t (hdL ys (clm t n)) (clm t n) s xs = (decide (s = t) && decide ((s = t ∧ hdL xs (clm s n) = hdL ys (clm t n)) ∧ clm s n = clm t n)) := by
  unfold phs
  rw [h, Bool.true_and]
  unfold ctS ctX ctN
  rw [if_pos h, if_pos h, if_pos h]
  by_cases e : s = t
  · subst e
    rw [clm_clm]
    simp
  · simp [e]

theorem pairs16 (xs : List Int) (hl : xs.length = 16) : (List.range 8).flatMap (fun i => [xs.getD (2 * i) 0, xs.getD (2 * i + 1) 0]) = xs := by
  obtain ⟨a, b, c, d, e, f, g, i, j, k, l, m, n, o, p, q, rfl⟩ := list16 xs hl
  rfl
theorem gbI_gN {xs : List Int} (hl : xs.length = 16) (hb : Byt xs) : gbI (gN xs) = xs := by
  have h : gbI (gN xs) = (List.range 8).flatMap (fun i => [xs.getD (2 * i) 0, xs.getD (2 * i + 1) 0]) := by
    unfold gbI gby gN
    rw [List.flatMap_map, List.map_flatMap]
    congr 1
    funext i
    obtain ⟨h0, h1⟩ := hb.get (2 * i)
    obtain ⟨h2, h3⟩ := hb.get (2 * i + 1)
    simp only [List.map_cons, List.map_nil, grp]
    congr 1
    · omega
    · congr 1
      omega
  rw [h, pairs16 xs hl]
theorem four_split {xs : List Int} (hl : xs.length = 16) (hb : Byt xs) (h : rgt false xs = true) : xs.take 4 ++ zs 12 = xs := by
  have h4 := (rgt_four hl hb).1 h
  refine ext16 (by simp [zs, hl]) hl (fun i hi => ?_)
  rcases Nat.lt_or_ge i 4 with hi4 | hi4
  · simp only [List.getD_eq_getElem?_getD]
    rw [List.getElem?_append_left (by simp; omega), List.getElem?_take, if_pos hi4]
  · rw [h4 i hi4 hi]
    simp only [List.getD_eq_getElem?_getD]
    rw [List.getElem?_append_right (by simp; omega)]
    simp only [zs, List.getElem?_replicate]
    split <;> rfl
theorem nb4 {xs : List Int} (hl : xs.length = 16) : ∃ a b c d, nb (xs.take 4) = [a, b, c, d] := by
  obtain ⟨a, b, c, d, e, f, g, i, j, k, l, m, n, o, p, q, rfl⟩ := list16 xs hl
  exact ⟨_, _, _, _, rfl⟩
/-- What is told is read as it was. -/
theorem adO_txP {s : Bool} {xs : List Int} (hl : xs.length = 16) (hb : Byt xs) (h : rgt s xs = true) : adO (txP s xs) = some (s, xs) := by
  cases s
  · have e : txP false xs = joinT 46 ((nb (xs.take 4)).map dg) := by unfold txP; rw [if_neg (by rw [h]; decide), if_neg (by decide)]
    obtain ⟨a, b, c, d, h4⟩ := nb4 hl
    have hlt := nb_lt (hb.take 4)
    rw [h4] at hlt
    have hp : parse4 (txP false xs) = some [a, b, c, d] := by
      rw [e, h4]
      exact parse4_dots (hlt a (by simp)) (hlt b (by simp)) (hlt c (by simp)) (hlt d (by simp))
    unfold adO
    rw [parse_one hp, hp]
    simp only
    have e2 : fbI [a, b, c, d] = xs := by
      unfold fbI
      rw [← h4, nb_cast (hb.take 4)]
      exact four_split hl hb h
    rw [e2]
  · have e : txP true xs = text6 (gN xs) := by unfold txP; rw [if_neg (by rw [h]; decide), if_pos rfl]
    unfold adO
    rw [e, parse_text6 (gN_len xs) (gN_lt hb)]
    simp only
    rw [gbI_gN hl hb]
theorem byA_eq {s : Bool} {xs : List Int} (hl : xs.length = 16) (hb : Byt xs) (h : rgt s xs = true) : ((byA s xs).length = 4 ∨ (byA s xs).length = 16) ∧ decide ((byA s xs).length = 16) = s ∧ byA s xs ++ zs (16 - (byA s xs).length) = xs := by
  cases s
  · have e : (byA false xs).length = 4 := by simp [byA, hl]
    refine ⟨.inl e, by rw [e]; rfl, ?_⟩
    rw [e]
    exact four_split hl hb h
  · have e : byA true xs = xs := by unfold byA; rw [if_pos rfl]; exact List.take_of_length_le (by omega)
    rw [e, hl]
    exact ⟨.inr rfl, rfl, by simp [zs]⟩
theorem txP_inj {s t : Bool} {xs ys : List Int} (hl : xs.length = 16) (hb : Byt xs) (h : rgt s xs = true) (hm : ys.length = 16) (hc : Byt ys) (k : rgt t ys = true) : (txP s xs = txP t ys) ↔ (s = t ∧ xs = ys) := by
  constructor
  · intro e
    have h1 := adO_txP hl hb h
    rw [e, adO_txP hm hc k] at h1
    have := Option.some.inj h1
    simp only [Prod.mk.injEq] at this
    exact ⟨this.1.symm, this.2.symm⟩
  · rintro ⟨rfl, rfl⟩; rfl
theorem cmpL_zero : ∀ (xs ys : List Int), xs.length = ys.length → (cmpL xs ys = 0 ↔ xs = ys)
  | [], [], _ => by simp [cmpL]
  | x :: xs, y :: ys, h => by
    have ih := cmpL_zero xs ys (by simpa using h)
    rw [cmpL]
    by_cases h1 : x < y
    · rw [if_pos h1]; simp; omega
    · rw [if_neg h1]
      by_cases h2 : y < x
      · rw [if_pos h2]; simp; omega
      · rw [if_neg h2, ih]
        have : x = y := by omega
        subst this
        simp
  | [], _ :: _, h => by simp at h
  | _ :: _, [], h => by simp at h
theorem cmpA_zero {s t : Bool} {xs ys : List Int} (hl : xs.length = 16) (hm : ys.length = 16) : (cmpA s xs t ys = 0) ↔ (s = t ∧ xs = ys) := by
  unfold cmpA
  by_cases e : s = t
  · rw [if_pos e, cmpL_zero xs ys (by rw [hl, hm])]; simp [e]
  · rw [if_neg e]
    constructor
    · intro h; split at h <;> omega
    · rintro ⟨h, _⟩; exact absurd h e
theorem free47_hx : ∀ v : Fin 65536, (47 : UInt8) ∉ hxT v.val := by
  intro v
  have hd47 : ∀ d : Fin 16, hd d.val ≠ 47 := by decide +kernel
  have h : ∀ d : Nat, d < 16 → ¬ (47 : UInt8) = hd d := fun d hd' e => hd47 ⟨d, hd'⟩ e.symm
  unfold hxT
  have := v.isLt
  repeat' split
  all_goals simp only [List.mem_cons, List.not_mem_nil, or_false, not_or]
  · exact h _ (by omega)
  · exact ⟨h _ (by omega), h _ (by omega)⟩
  · exact ⟨h _ (by omega), h _ (by omega), h _ (by omega)⟩
  · exact ⟨h _ (by omega), h _ (by omega), h _ (by omega), h _ (by omega)⟩
theorem free47_dg : ∀ v : Fin 256, (47 : UInt8) ∉ dg v.val := by decide +kernel
theorem free47_gr {vs : List Nat} (h : ∀ v ∈ vs, v < 65536) : (47 : UInt8) ∉ grT vs := by
  unfold grT
  refine free_joinT 47 58 (by decide) _ (fun x hx => ?_)
  obtain ⟨v, hv, rfl⟩ := List.mem_map.1 hx
  exact free47_hx ⟨v, h v hv⟩
theorem free47_tx {s : Bool} {xs : List Int} (hb : Byt xs) : (47 : UInt8) ∉ txP s xs := by
  unfold txP
  split
  · simp
  · split
    · have hg := gN_lt hb
      unfold text6
      split
      · exact free47_gr hg
      · simp only [List.mem_append, List.mem_cons, not_or]
        exact ⟨free47_gr (fun v hv => hg v (List.mem_of_mem_take hv)), by decide, by decide, free47_gr (fun v hv => hg v (List.mem_of_mem_drop hv))⟩
    · refine free_joinT 47 46 (by decide) _ (fun x hx => ?_)
      obtain ⟨v, hv, rfl⟩ := List.mem_map.1 hx
      exact free47_dg ⟨v, nb_lt (hb.take 4) v hv⟩
theorem cut1_app (c : UInt8) (y : Tx) : ∀ x : Tx, c ∉ x → Lib.index (x ++ c :: y) [c] = x.length
  | [], _ => by rw [List.nil_append, index_step, if_pos rfl]; rfl
  | b :: x, h => by
    have h1 : ¬ b = c := fun e => h (by simp [e])
    have ih := cut1_app c y x (fun h2 => h (by simp [h2]))
    rw [List.cons_append, index_step, if_neg h1, ih, if_neg (by omega)]
    simp
/-- A prefix's text is read as it was. -/
theorem pfO_txQ {s : Bool} {xs : List Int} {n : Int} (hl : xs.length = 16) (hb : Byt xs) (h : rgt s xs = true) (hp : prt s xs n = true) : pfO (txQ s xs n) = some (s, xs, n) := by
  obtain ⟨n0, n1⟩ := prt_n hp
  have e : txQ s xs n = txP s xs ++ 47 :: dg n.toNat := by unfold txQ; rw [if_neg (by rw [hp]; decide)]; simp
  have hi := cut1_app 47 (dg n.toNat) (txP s xs) (free47_tx hb)
  have hc : Lib.cut (txQ s xs n) [47] = (txP s xs, dg n.toNat, true) := by
    rw [e]
    unfold Lib.cut
    rw [hi, if_pos (by omega)]
    simp
  unfold pfO
  rw [hc]
  simp only
  rw [adO_txP hl hb h]
  simp only
  rw [numS_dg (by omega)]
  simp only
  rw [Int.toNat_of_nonneg n0, if_pos hp]
end Go.Proofs.YtbnfmiopgjmppaaDoor

/-
  Plain facts on rules: a rule that holds another one's parts fits what that fits; what is told when dead rules are left out, when rules are put behind, when two are exchanged. Conditions: rules and keys whose numbers fit their Go types.
-/
import Derived.Test.YtgnhbhgpkihpmaaRuNew
namespace Go.Proofs.Ytgnhbhgpkihpmaa
open Go.RowKit

theorem msk_byt (x : Int) (h0 : 0 ≤ x) (h1 : x < 256) (k : Nat) : msk x k = ((x.toNat &&& (mkc k).toNat : Nat) : Int) := by
  have hm : 0 ≤ mkc k ∧ mkc k < 256 := by
    unfold mkc
    split <;> decide
  exact u8_and x (mkc k) h0 h1 hm.1 hm.2
theorem mkc_two : ∀ k, k ≤ 8 → ∀ m, m ≤ k → (mkc k).toNat &&& (mkc m).toNat = (mkc m).toNat := by decide
theorem msk_le (x : Int) (h0 : 0 ≤ x) (h1 : x < 256) (k m : Nat) (hk : k ≤ 8) (hm : m ≤ k) : msk (msk x k) m = msk x m := by
  have h2 := msk_byt x h0 h1 k
  have hlt : x.toNat &&& (mkc k).toNat ≤ x.toNat := Nat.and_le_left
  rw [msk_byt (msk x k) (by omega) (by omega) m, msk_byt x h0 h1 m, h2]
  simp only [Int.toNat_natCast]
  rw [Nat.and_assoc, mkc_two k hk m hm]
theorem kp_le (n : Int) (i : Nat) : kp n i ≤ 8 := by unfold kp; omega
theorem kp_mono {m n : Int} (h : m ≤ n) (i : Nat) : kp m i ≤ kp n i := by unfold kp; omega
theorem hdL_hdL (xs : List Int) (hb : Byt xs) {m n : Int} (h : m ≤ n) : hdL (hdL xs n) m = hdL xs m := by
  unfold hdL
  apply List.map_congr_left
  intro i hi
  have hi' : i < 16 := List.mem_range.1 hi
  have e := hdL_get xs n i hi'
  unfold hdL at e
  rw [e]
  have := hb.get i
  exact msk_le _ this.1 this.2 _ _ (kp_le n i) (kp_mono h i)

/-- A prefix within another one. -/
theorem within_has {s6 r6 t : Bool} {sx rx ys : List Int} {sn rn : Int} (hy : Byt ys) (hw : wthB r6 rx rn s6 sx sn = true) (hp : phs r6 rx rn t ys = true) : phs s6 sx sn t ys = true := by
  simp only [wthB, Bool.and_eq_true, decide_eq_true_eq] at hw
  obtain ⟨_, h2, h3⟩ := hw
  simp only [phs, Bool.and_eq_true, decide_eq_true_eq] at h2 hp ⊢
  simp only [ctS, ctX, ctN] at h2 hp ⊢
  obtain ⟨hr, h4⟩ := h2
  obtain ⟨ht, h5⟩ := hp
  rw [if_pos hr, if_pos hr, if_pos hr] at h4
  rw [if_pos ht, if_pos ht, if_pos ht] at h5 ⊢
  obtain ⟨⟨rfl, h6⟩, h7⟩ := h4
  obtain ⟨⟨rfl, h8⟩, h9⟩ := h5
  refine ⟨ht, ⟨rfl, ?_⟩, h7⟩
  rw [h7] at h6 ⊢
  rw [h9] at h8
  rw [← h6, ← h8, hdL_hdL ys hy h3]
theorem within_none {s6 r6 : Bool} {sx rx : List Int} {sn rn : Int} (hw : wthB r6 rx rn s6 sx sn = true) (hz : z18 r6 rx rn = true) : z18 s6 sx sn = true := by
  simp only [z18, decide_eq_true_eq] at hz
  obtain ⟨⟨rfl, rfl⟩, rfl⟩ := hz
  simp only [wthB, Bool.and_eq_true, decide_eq_true_eq] at hw
  obtain ⟨_, h2, h3⟩ := hw
  simp only [phs, Bool.and_eq_true, decide_eq_true_eq] at h2
  simp only [ctS, ctX, ctN] at h2
  obtain ⟨hr, h4⟩ := h2
  rw [if_pos hr, if_pos hr, if_pos hr] at h4
  obtain ⟨⟨rfl, h6⟩, h7⟩ := h4
  have hc := (clm_b false sn).1
  rw [h7] at h6 hc
  have hn : sn = 0 := by omega
  subst hn
  have : hdL (zs 16) 0 = zs 16 := by decide +kernel
  rw [this] at h6
  subst h6
  simp [z18]
theorem part_holds {s r : Rl} {k : Ky} (hs : s.ok) (_hr : r.ok) (hk : k.ok) : ∀ j, j < 6 → (idl j s || hld j s r) = true → (idl j r || mts j r k) = true → (idl j s || mts j s k) = true := by
  intro j hj h1 h2
  rw [Bool.or_eq_true] at h1 h2 ⊢
  rcases h1 with h1 | h1
  · exact .inl h1
  match j, hj with
  | 0, _ =>
    simp only [hld, idl, mts, decide_eq_true_eq, Bool.and_eq_true] at h1 h2 ⊢
    rw [h1]; exact h2
  | 1, _ =>
    simp only [hld, idl, mts, decide_eq_true_eq] at h1 h2 ⊢
    rw [h1]; exact h2
  | 2, _ =>
    simp only [hld, idl, mts] at h1 h2 ⊢
    rcases h2 with h2 | h2
    · exact .inl (within_none h1 h2)
    · exact .inr (within_has hk.sb h1 h2)
  | 3, _ =>
    simp only [hld, idl, mts] at h1 h2 ⊢
    rcases h2 with h2 | h2
    · exact .inl (within_none h1 h2)
    · exact .inr (within_has hk.db h1 h2)
  | 4, _ =>
    simp only [hld, idl, mts, hldB, decide_eq_true_eq, Bool.and_eq_true] at h1 h2 ⊢
    have := hs.sl; have := hs.sh
    rcases h2 with h2 | h2
    · exact .inl (by omega)
    · exact .inr ⟨h2.1, by omega, by omega⟩
  | 5, _ =>
    simp only [hld, idl, mts, hldB, decide_eq_true_eq, Bool.and_eq_true] at h1 h2 ⊢
    have := hs.dl; have := hs.dh
    rcases h2 with h2 | h2
    · exact .inl (by omega)
    · exact .inr ⟨h2.1, by omega, by omega⟩
theorem cov_fit {s r : Rl} {k : Ky} (hs : s.ok) (hr : r.ok) (hk : k.ok) (hc : cov r s = true) (hf : fit k r = true) : fit k s = true :=
  (allP_iff _ _).2 fun j hj => part_holds hs hr hk j hj ((allP_iff _ _).1 hc j hj) ((allP_iff _ _).1 hf j hj)

theorem told_append (f : Rl → Bool) (o : Rl) : ∀ xs ys : List Rl, told f o (xs ++ ys) = told f (told f o ys) xs
  | [], _ => rfl
  | x :: xs, ys => by
    simp only [List.cons_append, told]
    rw [told_append f o xs ys]
theorem told_same (f : Rl → Bool) (o p : Rl) : ∀ xs : List Rl, (∃ s ∈ xs, f s = true) → told f o xs = told f p xs
  | [], ⟨s, h, _⟩ => by cases h
  | x :: xs, ⟨s, h, hs⟩ => by
    simp only [told]
    cases hx : f x with
    | true => rfl
    | false =>
      rcases List.mem_cons.1 h with rfl | h
      · rw [hs] at hx; cases hx
      · simpa using told_same f o p xs ⟨s, h, hs⟩
theorem told_mem (f : Rl → Bool) (o : Rl) : ∀ xs : List Rl, told f o xs = o ∨ told f o xs ∈ xs
  | [] => .inl rfl
  | x :: xs => by
    simp only [told]
    split
    · exact .inr List.mem_cons_self
    · rcases told_mem f o xs with h | h
      · exact .inl h
      · exact .inr (List.mem_cons_of_mem _ h)
/-- The rules that are left, of the first ones. -/
def lvs (l : List Rl) : Nat → List Rl
  | 0 => []
  | k + 1 => if isDead l k then lvs l k else lvs l k ++ (l[k]?).toList
theorem lvs_mem (l : List Rl) : ∀ k, ∀ r ∈ lvs l k, r ∈ l
  | 0, r, h => by cases h
  | k + 1, r, h => by
    unfold lvs at h
    split at h
    · exact lvs_mem l k r h
    · rcases List.mem_append.1 h with h | h
      · exact lvs_mem l k r h
      · cases hq : l[k]? with
        | none => rw [hq] at h; cases h
        | some s =>
          rw [hq] at h
          simp at h
          subst h
          exact List.mem_of_getElem? hq
theorem lvs_len (l : List Rl) : ∀ k, (lvs l k).length ≤ k
  | 0 => Nat.le_refl _
  | k + 1 => by
    have := lvs_len l k
    unfold lvs
    split
    · omega
    · rw [List.length_append]
      have : (l[k]?).toList.length ≤ 1 := by cases l[k]? <;> simp
      omega
theorem dead_fits {l : List Rl} {k : Nat} {q : Ky} (hok : ∀ r ∈ l, r.ok) (hq : q.ok) {r : Rl} (hr : l[k]? = some r) (hd : isDead l k = true) (hf : fit q r = true) : ∃ s ∈ l.take k, fit q s = true := by
  simp only [isDead, hr, bne_iff_ne, ne_eq] at hd
  rcases Classical.em (∃ s ∈ l.take k, cov r s = true) with ⟨s, hs, hc⟩ | hn
  · exact ⟨s, hs, cov_fit (hok s (List.mem_of_mem_take hs)) (hok r (List.mem_of_getElem? hr)) hq hc hf⟩
  · exact absurd (fsi_none fun s hs => by
      cases hc : cov r s with
      | false => rfl
      | true => exact absurd ⟨s, hs, hc⟩ hn) hd
theorem told_lvs (l : List Rl) (q : Ky) (hok : ∀ r ∈ l, r.ok) (hq : q.ok) : ∀ k, k ≤ l.length → ∀ o, told (fit q) o (lvs l k) = told (fit q) o (l.take k)
  | 0, _, o => by simp [lvs]
  | k + 1, hk, o => by
    have ih := told_lvs l q hok hq k (by omega)
    have hr := List.getElem?_eq_getElem (show k < l.length by omega)
    rw [List.take_add_one, hr, Option.toList_some, told_append]
    unfold lvs
    split
    · rename_i hd
      rw [ih]
      cases hf : fit q l[k] with
      | false => simp [told, hf]
      | true => exact told_same _ _ _ _ (dead_fits hok hq hr hd hf)
    · rw [hr, Option.toList_some, told_append, ih]
theorem told_leave (l : List Rl) (q : Ky) (o : Rl) (hok : ∀ r ∈ l, r.ok) (hq : q.ok) : told (fit q) o (lvs l l.length) = told (fit q) o l := by
  rw [told_lvs l q hok hq l.length (Nat.le_refl _) o, List.take_length]
/-- Two side by side are exchanged. -/
theorem told_turn (f : Rl → Bool) (o r s : Rl) (xs ys : List Rl) (h : (f r && f s) = false) : told f o (xs ++ (s :: r :: ys)) = told f o (xs ++ (r :: s :: ys)) := by
  rw [told_append, told_append]
  congr 1
  simp only [told]
  cases hr : f r <;> cases hs : f s <;> simp_all
/-- The one that asks for nothing fits all. -/
theorem fit_othr (q : Ky) (d : Bool) (c : Int) : fit q (othr d c) = true := (allP_iff _ _).2 fun j hj => by
  match j, hj with
  | 0, _ => rfl
  | 1, _ => rfl
  | 2, _ => rfl
  | 3, _ => rfl
  | 4, _ => rfl
  | 5, _ => rfl
theorem newOk_iff (d : Bool) (c : Int) (l : List Rl) : newOk d c l = true ↔ (∀ r ∈ l, rgB r = true) ∧ rgB (othr d c) = true := by simp [newOk]
theorem rg_othr (d : Bool) (c : Int) : rgB (othr d c) = true ↔ (d = false → 0 ≤ c ∧ c < 8) := by
  rw [rgB_iff]
  constructor
  · rintro ⟨_, h⟩ hd
    subst hd
    exact h.2 rfl
  · intro h
    refine ⟨fun j hj => ?_, ⟨fun hd => ?_, fun hd => ?_⟩⟩
    case refine_2 => cases d with
      | true => rfl
      | false => cases hd
    case refine_3 => cases d with
      | true => cases hd
      | false => exact h rfl
    match j, hj with
    | 0, _ => rfl
    | 1, _ => rfl
    | 2, _ => exact (by kernel_rfl : rt 2 any0 = true)
    | 3, _ => exact (by kernel_rfl : rt 3 any0 = true)
    | 4, _ => rfl
    | 5, _ => rfl
/-- What a right rule tells. -/
theorem tells (r : Rl) (h : rgB r = true) : (cle r = 0 ∧ 0 ≤ cln r ∧ cln r < 8) ∨ (cle r = 90 ∧ cln r = 0) := by
  obtain ⟨_, h1, h2⟩ := (rgB_iff r).1 h
  unfold cle cln
  cases hd : r.dy with
  | true => exact .inr ⟨rfl, rfl⟩
  | false => exact .inl ⟨rfl, by simpa using h2 hd⟩
end Go.Proofs.Ytgnhbhgpkihpmaa

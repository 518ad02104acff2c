/-
  What BucketBounds leans on: how much is taken from a tick on, as plain numbers; the rows that it grows. Conditions: those that the theorems name.
-/
import Derived.Test.YtngjlippfifkiaaBkWaits
namespace Go.Proofs.Ytngjlippfifkiaa
open Go.RowKit

/-- The sum of a row. -/
def sm : List Int → Int
  | [] => 0
  | x :: l => x + sm l
theorem sm_append (l : List Int) (x : Int) : sm (l ++ [x]) = sm l + x := by
  induction l with
  | nil => simp [sm]
  | cons y l ih => simp only [List.cons_append, sm, ih]; omega
theorem sm_drop (l : List Int) (j : Nat) (h : j < l.length) : sm (l.drop j) = sm (l.drop (j + 1)) + l.getD j 0 := by
  rw [List.drop_eq_getElem_cons h, sm, List.getD_eq_getElem?_getD, List.getElem?_eq_getElem h, Option.getD_some]
  omega
theorem sm_fit {l : List Int} {m : Int} (h : ∀ x ∈ l, 0 ≤ x ∧ x ≤ m) : 0 ≤ sm l ∧ sm l ≤ l.length * m := by
  induction l with
  | nil => simp [sm]
  | cons y l ih =>
    have h1 := ih (fun x hx => h x (by simp [hx]))
    have h2 := h y (by simp)
    rw [sm, List.length_cons, Int.natCast_add, Int.add_mul]
    omega
theorem took_r (b : Bu) (t n : Int) : (b.took t n).r = b.r := by
  unfold Bu.took Bu.fill
  split <;> split <;> rfl
theorem took_B (b : Bu) (t n : Int) : (b.took t n).B = b.B := by
  unfold Bu.took Bu.fill
  split <;> split <;> rfl
theorem fill_T (b : Bu) {t : Int} (h : b.T ≤ t) : (b.fill t).T = t := by
  unfold Bu.fill
  split
  · omega
  · rfl
theorem took_T (b : Bu) {t : Int} (n : Int) (h : b.T ≤ t) : (b.took t n).T = t := by
  unfold Bu.took
  split
  · exact fill_T b h
  · exact fill_T b h
/-- What is taken of so many. -/
def got (b : Bu) (t n : Int) : Int := if n ≤ (b.fill t).K then n else 0
theorem took_K (b : Bu) (t n : Int) : (b.took t n).K = (b.fill t).K - got b t n := by
  unfold Bu.took got
  split
  · rfl
  · omega
/-- No more than burst and rate: what was taken from each tick on. -/
structure Bnd (b : Bu) (ats tks : List Int) : Prop where
  len : ats.length = tks.length
  sums : ∀ k, k < ats.length → sm (tks.drop k) + b.K ≤ b.B + b.r * (b.T - ats.getD k 0)
  ticks : ∀ k, k < ats.length → 0 ≤ ats.getD k 0 ∧ ats.getD k 0 ≤ b.T
  fits : ∀ x ∈ tks, 0 ≤ x ∧ x ≤ 65535
theorem Bnd.nil (b : Bu) : Bnd b [] [] := ⟨rfl, fun _ h => absurd h (by simp), fun _ h => absurd h (by simp), fun _ h => absurd h (by simp)⟩
theorem getD_snoc (l : List Int) (x : Int) (k : Nat) : (l ++ [x]).getD k 0 = if k < l.length then l.getD k 0 else if k = l.length then x else 0 := by
  simp only [List.getD_eq_getElem?_getD]
  by_cases h : k < l.length
  · rw [if_pos h, List.getElem?_append_left h]
  · rw [if_neg h, List.getElem?_append_right (by omega)]
    by_cases e : k = l.length
    · rw [if_pos e, e]; simp
    · rw [if_neg e, List.getElem?_eq_none (by simp; omega)]; rfl
theorem fill_more {b : Bu} {t : Int} (ht : b.T ≤ t) : (b.fill t).K ≤ b.K + b.r * (t - b.T) := by
  by_cases he : t = b.T
  · rw [fill_low b (by omega), he, Int.sub_self, Int.mul_zero]; omega
  · rw [fill_K (by omega)]; omega
theorem Bnd.step {b : Bu} {ats tks : List Int} (h : Bnd b ats tks) (hb : b.ok) {t n : Int} (ht : b.T ≤ t) (h0 : 0 ≤ n) (h1 : n ≤ 65535) : Bnd (b.took t n) (ats ++ [t]) (tks ++ [got b t n]) := by
  have hT := took_T b n ht
  have hg : 0 ≤ got b t n ∧ got b t n ≤ 65535 := by unfold got; split <;> omega
  refine ⟨by simp [h.len], fun k hk => ?_, fun k hk => ?_, fun x hx => ?_⟩
  · rw [took_K, took_B, took_r, hT, getD_snoc]
    simp at hk
    by_cases e : k < ats.length
    · rw [if_pos e, List.drop_append_of_le_length (by rw [← h.len]; omega), sm_append]
      have h2 := h.sums k e
      have h3 := fill_more (b := b) ht
      have h4 : b.r * (t - ats.getD k 0) = b.r * (b.T - ats.getD k 0) + b.r * (t - b.T) := by rw [← Int.mul_add]; congr 1; omega
      rw [h4]
      omega
    · rw [if_neg e, if_pos (by omega), Int.sub_self, Int.mul_zero, show k = tks.length by rw [← h.len]; omega, List.drop_left]
      have := fill_le hb t
      simp [sm]
      omega
  · rw [hT, getD_snoc]
    simp at hk
    by_cases e : k < ats.length
    · rw [if_pos e]
      have := h.ticks k e
      omega
    · rw [if_neg e, if_pos (by omega)]
      have := hb.T0
      omega
  · rcases List.mem_append.1 hx with hx | hx
    · exact h.fits x hx
    · simp at hx; omega

/-- The rows that are grown beside the bucket. -/
structure Bs (w wr : World) (g : Nat) (b : Bu) (i : Nat) (aA : Option Addr) (cA : Nat) (ats : List Int) (aT : Option Addr) (cT : Nat) (tks : List Int) : Prop where
  st : St w wr g b
  oA : OwnG wr w.heap.size 22 1 aA i cA (ats.map (Value.int .u64))
  oT : OwnG wr w.heap.size 22 1 aT i cT (tks.map (Value.int .u64))
  ap : ∀ k, blk aA = some k → ¬ blk aT = some k
  bnd : Bnd b ats tks
theorem tU64_ne : (22 : TypeId) ≠ 47 := by decide
theorem OwnG.offB {w : World} {base e size : Nat} {a : Option Addr} {n cap : Nat} {vs : List Value} (h : OwnG w base e size a n cap vs) {g : Nat} {b : Bu} (hb : Bk w g b) (he : e ≠ 47) : ∀ k, blk a = some k → ¬ k = g := by
  rintro k hk rfl
  rcases h.cases with ⟨rfl, _⟩ | ⟨g, cur, rfl, _, hg, _⟩
  · cases hk
  · simp [blk] at hk
    subst hk
    rw [hb.2] at hg
    simp at hg
    exact he hg.2.symm
theorem Bs.took {w wr w' : World} {g : Nat} {b : Bu} {i : Nat} {aA aT : Option Addr} {cA cT : Nat} {ats tks : List Int} (h : Bs w wr g b i aA cA ats aT cT tks) {b' : Bu} (hb : Bk w' g b') (hk : Kept (fun x => x = g) wr w') :
    St w w' g b' ∧ OwnG w' w.heap.size 22 1 aA i cA (ats.map (Value.int .u64)) ∧ OwnG w' w.heap.size 22 1 aT i cT (tks.map (Value.int .u64)) :=
  ⟨h.st.next hb hk, h.oA.keep hk (h.oA.offB h.st.bk tU64_ne), h.oT.keep hk (h.oT.offB h.st.bk tU64_ne)⟩
end Go.Proofs.Ytngjlippfifkiaa

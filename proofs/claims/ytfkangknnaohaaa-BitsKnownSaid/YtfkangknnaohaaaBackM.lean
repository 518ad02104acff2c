/-
  Plain facts for BitsBack: the bytes of many numbers, one behind the other; what stands behind a place in them. No conditions.
-/
import Derived.Test.YtfkangknnaohaaaWr3
import Derived.Test.YtfkangknnaohaaaRd
namespace Go.Proofs.Ytfkangknnaohaaa
open Go.RowKit

/-- The bytes of those numbers that fit their sizes. -/
def enc1 (v n : Int) : List Int := if fitB v n then be n.toNat v else []
def encs : List (Int × Int) → List Int
  | [] => []
  | (v, n) :: t => enc1 v n ++ encs t

theorem encs_append (x y : List (Int × Int)) : encs (x ++ y) = encs x ++ encs y := by
  induction x with
  | nil => rfl
  | cons h t ih => obtain ⟨v, n⟩ := h; simp [encs, ih]
theorem encs_take {l : List (Int × Int)} {k : Nat} {v n : Int} (h : l[k]? = some (v, n)) : encs (l.take (k + 1)) = encs (l.take k) ++ enc1 v n := by
  have hk := (List.getElem?_eq_some_iff.1 h).1
  rw [List.take_succ_eq_append_getElem hk, encs_append]
  have : l[k] = (v, n) := (List.getElem?_eq_some_iff.1 h).2
  rw [this]; simp [encs]
theorem encs_drop {l : List (Int × Int)} {k : Nat} {v n : Int} (h : l[k]? = some (v, n)) : encs (l.drop k) = enc1 v n ++ encs (l.drop (k + 1)) := by
  have hk := (List.getElem?_eq_some_iff.1 h).1
  rw [List.drop_eq_getElem_cons hk]
  have : l[k] = (v, n) := (List.getElem?_eq_some_iff.1 h).2
  rw [this]; rfl
theorem enc1_length (v n : Int) : (enc1 v n).length ≤ 8 := by
  unfold enc1
  split
  · rename_i h
    rw [be_length]
    simp [fitB, szB] at h
    omega
  · simp
theorem encs_length (l : List (Int × Int)) : (encs l).length ≤ 8 * l.length := by
  induction l with
  | nil => simp [encs]
  | cons h t ih =>
    obtain ⟨v, n⟩ := h
    have := enc1_length v n
    simp [encs]; omega
theorem encs_byt (l : List (Int × Int)) : Byt (encs l) := by
  induction l with
  | nil => exact Byt.nil
  | cons h t ih =>
    obtain ⟨v, n⟩ := h
    refine Byt.append ?_ ih
    unfold enc1
    split
    · exact be_range _ _
    · exact Byt.nil

theorem get_front {v n : Int} (hv : U64 v) (hf : fitB v n = true) (ys : List Int) : getE (be n.toNat v ++ ys) 0 n = 0 ∧ getV (be n.toNat v ++ ys) 0 n = v := by
  obtain ⟨h1, h8, hp⟩ := (fitB_iff hv).1 hf
  have hE : getE (be n.toNat v ++ ys) 0 n = 0 := by
    have e1 : szB n = true := by simp [szB]; omega
    unfold getE
    rw [e1, decide_eq_true (show (0 : Int) ≤ 0 from by omega)]
    simp only [Bool.and_self, if_true]
    rw [if_pos]
    rw [List.length_append, be_length]; omega
  refine ⟨hE, ?_⟩
  unfold getV
  rw [if_pos hE]
  simp only [Int.toNat_zero, List.drop_zero]
  rw [List.take_append_of_le_length (by rw [be_length]; omega), List.take_of_length_le (by rw [be_length]; omega), num_be _ _ hv.1 hp]
theorem drop_front {v n : Int} (ys : List Int) : (be n.toNat v ++ ys).drop n.toNat = ys := by
  rw [List.drop_append_of_le_length (by rw [be_length]; omega), List.drop_of_length_le (by rw [be_length]; omega), List.nil_append]

theorem splice_byt {xs ys : List Int} (hx : Byt xs) (hy : Byt ys) (p : Nat) : Byt (splice xs p ys) := ((hx.take p).append hy).append (hx.drop _)
theorem get_splice {v p n : Int} {xs : List Int} (hv : U64 v) (hs : setB xs.length p v n = true) : getE (splice xs p.toNat (be n.toNat v)) p n = 0 ∧ getV (splice xs p.toNat (be n.toNat v)) p n = v := by
  simp only [setB, Bool.and_eq_true, decide_eq_true_eq] at hs
  obtain ⟨hf, hp0, hpn⟩ := hs
  obtain ⟨h1, h8, hp⟩ := (fitB_iff hv).1 hf
  have hsp : p.toNat + (be n.toNat v).length ≤ xs.length := by rw [be_length]; omega
  have hE : getE (splice xs p.toNat (be n.toNat v)) p n = 0 := by
    have e1 : szB n = true := by simp [szB]; omega
    unfold getE
    rw [e1, decide_eq_true hp0]
    simp only [Bool.and_self, if_true]
    rw [if_pos (by rw [splice_length hsp]; omega)]
  refine ⟨hE, ?_⟩
  unfold getV
  rw [if_pos hE]
  unfold splice
  have ht : (xs.take p.toNat).length = p.toNat := by simp; omega
  rw [List.append_assoc, List.drop_append_of_le_length (by omega), List.drop_of_length_le (by omega), List.nil_append, List.take_append_of_le_length (by rw [be_length]; omega), List.take_of_length_le (by rw [be_length]; omega), num_be _ _ hv.1 hp]

theorem put_same {v z : Int} (hz : z ≤ 8) (hf : fitB v z = false) : ¬ (lst v : Int) ≤ z := by
  intro h
  have := lst_pos v
  have : fitB v z = true := by simp [fitB, szB]; omega
  rw [hf] at this; cases this
end Go.Proofs.Ytfkangknnaohaaa

/-
  Bytes as texts: their size, index, parts, sums, conversions, and comparison; the contract of bytes.Equal. Conditions: bytes; texts of at most a million bytes where they are put together.
-/
import Derived.Test.YtbghdlgfpfeaeaaNum
import Derived.Outline
import Derived.WalkMore
import Derived.Deep.MidRow
namespace Go.Proofs.Ytbghdlgfpfeaeaa
open Go.RowKit

/-- Bytes as a text. -/
def str (xs : List Int) : ByteArray := ⟨(ub xs).toArray⟩
theorem ub_len (xs : List Int) : (ub xs).length = xs.length := by simp [ub]
theorem str_size (xs : List Int) : (str xs).size = xs.length := by
  show (ub xs).toArray.size = _
  simp [ub]
theorem str_list (xs : List Int) : (str xs).toList = ub xs := ByteArray.toList_mk _
theorem ub_get {xs : List Int} (h : Byt xs) (i : Nat) (hi : i < xs.length) : (((ub xs)[i]'(by rw [ub_len]; exact hi)).toNat : Int) = xs.getD i 0 := by
  have h1 := h _ (List.getElem_mem hi)
  simp only [ub, List.getElem_map, List.getD_eq_getElem?_getD, List.getElem?_eq_getElem hi, Option.getD_some, UInt8.toNat_ofNat']
  omega
theorem run_str_index {xs : List Int} (h : Byt xs) (i : Nat) (hi : i < xs.length) (k : IntKind) (w : World) : (Instr.index 9 (.string (str xs)) (.int k (i : Int))).run Try.prog w = .ok (.int .u8 (xs.getD i 0)) w := by
  have ht := Try.underlying9
  have hs : (str xs).size = xs.length := str_size xs
  have hi' : (i : Int) < ((str xs).size : Int) := by rw [hs]; omega
  have hi0 : ¬ (i : Int) < 0 := by omega
  have hx : (((str xs)[i]'(by rw [hs]; exact hi)).toNat : Int) = xs[i] := by
    have h1 := ub_get h i hi
    rw [List.getD_eq_getElem?_getD, List.getElem?_eq_getElem hi, Option.getD_some] at h1
    exact h1
  go_simp
theorem run_str_from {xs : List Int} (i : Nat) (hi : i ≤ xs.length) (k : IntKind) (w : World) : (Instr.sliceAt 9 (.string (str xs)) (some (.int k (i : Int))) none none).run Try.prog w = .ok (.string (str (xs.drop i))) w := by
  have ht := Try.underlying9
  have hs : (str xs).size = xs.length := str_size xs
  have hi' : (i : Int) ≤ ((str xs).size : Int) := by rw [hs]; omega
  have he : (str xs).extract i xs.length = str (xs.drop i) := by
    show (ByteArray.mk (ub xs).toArray).extract i xs.length = _
    rw [ByteArray.extract_mk, List.take_of_length_le (by rw [List.length_drop, ub_len]; omega)]
    simp [str, ub, List.map_drop]
  go_simp
theorem run_str_cut {xs : List Int} (i j : Nat) (hij : i ≤ j) (hj : j ≤ xs.length) (k k' : IntKind) (w : World) : (Instr.sliceAt 9 (.string (str xs)) (some (.int k (i : Int))) (some (.int k' (j : Int))) none).run Try.prog w = .ok (.string (str ((xs.drop i).take (j - i)))) w := by
  have ht := Try.underlying9
  have hs : (str xs).size = xs.length := str_size xs
  have hi' : (i : Int) ≤ (j : Int) := by omega
  have hj' : (j : Int) ≤ ((str xs).size : Int) := by rw [hs]; omega
  have he : (str xs).extract i j = str ((xs.drop i).take (j - i)) := by
    show (ByteArray.mk (ub xs).toArray).extract i j = _
    rw [ByteArray.extract_mk]
    simp [str, ub, List.map_drop, List.map_take]
  go_simp
theorem str_get {xs : List Int} (h : Byt xs) (i : Nat) (hi : i < xs.length) (S : ByteArray) (hS : str xs = S) (hs : i < S.size) : ((S[i]'hs).toNat : Int) = xs.getD i 0 := by
  subst hS
  have h1 := ub_get h i hi
  exact h1
theorem str_append (xs ys : List Int) : str xs ++ str ys = str (xs ++ ys) := by
  show ByteArray.mk (ub xs).toArray ++ ByteArray.mk (ub ys).toArray = _
  rw [ByteArray.mk_append_mk]
  simp [str, ub]
theorem run_str_add (w : World) (xs ys : List Int) (h : xs.length + ys.length ≤ 1000000) : (Op.stringOp .add (str xs) (str ys)).run Try.prog w = .ok (.string (str (xs ++ ys))) w := by
  rw [run_string_add_sum _ _ _ (by rw [str_size, str_size]; omega), str_append]
theorem run_bytes_str (w : World) (xs : List Int) (hb : Byt xs) : ∃ c w', (convert 9 31 (.string (str xs))).run Try.prog w = .ok (.slice (some ⟨w.heap.size, 0, none⟩) xs.length c) w' ∧ Rd w' (some ⟨w.heap.size, 0, none⟩) xs ∧ Below w.heap.size w w' := by
  have hr := run_bytes_of_string (P := Try.prog) w 9 31 5 (str xs) Try.underlying9 Try.underlying31 Try.underlying5
  rw [str_size] at hr
  refine ⟨_, _, hr, fun hne => ⟨w.heap.size, 0, rfl, fun i hi => ?_⟩, ?_⟩
  · have hi' : i < (str xs).data.size := by show i < (ub xs).toArray.size; simp [ub]; exact hi
    have hx := ub_get hb i hi
    have h1 := bytesRow_at (str xs) (grownCap w xs.length 0 5) i hi'
    have h2 : ((str xs).data[i]'hi').toNat = ((ub xs)[i]'(by rw [ub_len]; exact hi)).toNat := by simp [str]
    rw [h2, hx] at h1
    rw [Nat.zero_add, ← h1]
    exact World.cell?_alloc_mark w.drew _ _ _ _
  · have h := ((Below.refl w.heap.size w).drew).alloc (Nat.le_refl _) (.cells (bytesRow (str xs) (grownCap w xs.length 0 5)) 5 ((bytesRow (str xs) (grownCap w xs.length 0 5)).size, (bytesRow (str xs) (grownCap w xs.length 0 5)).size + 1))
    exact h
theorem str_eq {xs ys : List Int} (hx : Byt xs) (hy : Byt ys) : ((str xs).toList = (str ys).toList) ↔ xs = ys := by
  rw [str_list, str_list]
  exact ⟨ub_inj hx hy, fun h => by rw [h]⟩

theorem bEqual_any (a b : Option Addr) (n c m d : Nat) (xs ys : List Int) (w : World) (hn : xs.length = n) (hm : ys.length = m) (hx : Rd w a xs) (hy : Rd w b ys) (bx : Byt xs) (by_ : Byt ys) :
    Calls Try.prog 26 #[.slice a n c, .slice b m d] w fun e w' => e = .returned (.bool (decide (xs = ys))) ∧ w = w' := by
  have h1 := run_string_rd w c hn hx bx
  have h2 := run_string_rd w d hm hy by_
  have HI : Hid (ub xs = ub ys → xs = ys) := ub_inj bx by_
  clear hn hm hx hy bx by_
  go_enter Try.func26, Try.ntmps26
  go_wp2
  go_ret
  have he : (ub xs == ub ys) = decide (xs = ys) := by
    rw [Bool.eq_iff_iff, decide_eq_true_eq, beq_iff_eq]
    exact ⟨HI.out, fun h => by rw [h]⟩
  exact ⟨by rw [he]; rfl, rfl⟩

end Go.Proofs.Ytbghdlgfpfeaeaa

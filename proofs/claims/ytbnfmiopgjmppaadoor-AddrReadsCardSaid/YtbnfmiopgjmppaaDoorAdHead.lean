/-
  The contract of head: all digits behind the first ones are 0. Condition: a number of digits from 0 to 128.
-/
import Derived.Test.YtbnfmiopgjmppaaDoorAdLeaf
namespace Go.Proofs.YtbnfmiopgjmppaaDoor
open Go.RowKit

/-- What keeps the first digits of a byte. -/
def mkc : Nat → Int
  | 0 => 0 | 1 => 128 | 2 => 192 | 3 => 224 | 4 => 240 | 5 => 248 | 6 => 252 | 7 => 254 | _ => 255
/-- A byte with its first digits alone. -/
def msk (x : Int) (k : Nat) : Int := bits .and .u8 x (mkc k)
/-- How many digits of a byte are kept. -/
def kp (n : Int) (i : Nat) : Nat := min (n - 8 * i).toNat 8
def hdL (xs : List Int) (n : Int) : List Int := (List.range 16).map fun i => msk (xs.getD i 0) (kp n i)
theorem hdL_len (xs : List Int) (n : Int) : (hdL xs n).length = 16 := by simp [hdL]
theorem hdL_get (xs : List Int) (n : Int) (i : Nat) (h : i < 16) : (hdL xs n).getD i 0 = msk (xs.getD i 0) (kp n i) := by simp [hdL, h]

/-- The first ones are done. -/
def mix (ys xs : List Int) (k : Nat) : List Int := ys.take k ++ xs.drop k
theorem mix_zero (ys xs : List Int) : mix ys xs 0 = xs := by simp [mix]
theorem mix_all {ys xs : List Int} {k : Nat} (hy : ys.length = k) (hx : xs.length = k) : mix ys xs k = ys := by
  simp [mix, ← hy]
  omega
theorem mix_len {ys xs : List Int} {k n : Nat} (hy : ys.length = n) (hx : xs.length = n) (hk : k ≤ n) : (mix ys xs k).length = n := by simp [mix]; omega
theorem mix_get {ys xs : List Int} {k : Nat} (hy : k ≤ ys.length) : (mix ys xs k).getD k 0 = xs.getD k 0 := by
  simp [mix, List.getElem?_append, Nat.min_eq_left hy]
theorem mix_set {ys xs : List Int} {k : Nat} (hy : k < ys.length) (hx : k < xs.length) : (mix ys xs k).set k (ys.getD k 0) = mix ys xs (k + 1) := by
  simp only [mix]
  have h : ∀ v, (xs.drop k).set 0 v = v :: xs.drop (k + 1) := fun v => by rw [List.drop_eq_getElem_cons hx]; rfl
  rw [List.set_append_right _ _ (by simp; omega), take_snoc ys k hy, show k - (ys.take k).length = 0 by simp; omega, h, List.append_assoc]
  rfl

/-- A block of bytes. -/
def Blk (w : World) (b : Nat) (t : TypeId) (xs : List Int) : Prop := w.heap[b]? = some (.cells (bv xs).toArray t (0, 0))
theorem Blk.cell {w : World} {b : Nat} {t : TypeId} {xs : List Int} (h : Blk w b t xs) {k : Nat} (hk : k < xs.length) : w.cell? ⟨b, k, none⟩ = some (.int .u8 (xs.getD k 0)) := by
  rw [cell_of_row w b k _ t (0, 0) h]
  simp [bv, hk]
theorem Blk.frozen {w : World} {b : Nat} {t : TypeId} {xs : List Int} (h : Blk w b t xs) (k : Nat) : w.frozen? ⟨b, k, none⟩ = false := frozen_of_row w b k _ t h
theorem Blk.range {w : World} {b : Nat} {t : TypeId} {xs : List Int} (h : Blk w b t xs) : w.rangeAt b 0 (bv xs) := fun j v hv => by
  rw [cell_of_row w b (0 + j) _ t (0, 0) h]; simpa using hv
theorem Blk.there {w : World} {b : Nat} {t : TypeId} {xs : List Int} (h : Blk w b t xs) {n : Nat} (hn : xs.length = n) : w.there b 0 n := fun j hj => by
  rw [Nat.zero_add, h.cell (by omega), h.frozen]; simp
theorem Blk.set {w : World} {b : Nat} {t : TypeId} {xs : List Int} (h : Blk w b t xs) (k : Nat) (z : Int) : Blk (w.setCell ⟨b, k, none⟩ (.int .u8 z)).drew b t (xs.set k z) := by
  show (w.setCell ⟨b, k, none⟩ (.int .u8 z)).heap[b]? = _
  rw [heap_setCell_same w b k _ t _ h]
  simp [bv, List.map_set]
theorem Blk.other {w : World} {b : Nat} {t : TypeId} {xs : List Int} (h : Blk w b t xs) {c : Nat} (hc : b ≠ c) (k : Nat) (z : Value) : Blk (w.setCell ⟨c, k, none⟩ z).drew b t xs := by
  show (w.setCell ⟨c, k, none⟩ z).heap[b]? = _
  rw [heap_setCell_other _ _ _ _ hc]; exact h
theorem Blk.new (w : World) (t : TypeId) (xs : List Int) : Blk (w.alloc (.cells (bv xs).toArray t)) w.heap.size t xs := Blk_new w _ _

theorem kp_cases (n : Int) (k : Nat) : (n < 8 * k ∧ kp n k = 0) ∨ (8 * k + 8 < n ∧ kp n k = 8) ∨ ∃ c : Nat, c ≤ 8 ∧ n - k * 8 = c ∧ kp n k = c := by
  unfold kp
  rcases Int.lt_or_le n (8 * k) with h | h
  · exact .inl ⟨h, by omega⟩
  · rcases Int.lt_or_le (8 * k + 8) n with h2 | h2
    · exact .inr (.inl ⟨h2, by omega⟩)
    · exact .inr (.inr ⟨(n - 8 * k).toNat, by omega, by omega, by omega⟩)

set_option maxHeartbeats 4000000 in
theorem aHead_any (xs : List Int) (n : Int) (w : World) (hl : xs.length = 16) (hb : Byt xs) (h0 : 0 ≤ n) (h1 : n ≤ 128) :
    Calls Tryd.prog 33 #[.agg (bv xs).toArray, .int .i64 n] w (Gives w (.agg (bv (hdL xs n)).toArray)) := by
  have HL := Lib.hid hl
  have HBy := Lib.hid hb
  clear hl hb
  go_enter Tryd.func33, Tryd.ntmps33
  go_wp2_with fail
  go_loopw [7] (fun i wr => ∃ k : Nat, k ≤ 16 ∧ i = .int .i64 k ∧ Hid (Blk wr w.heap.size 22 (mix (hdL xs n) xs k)) ∧ Hid (Blk wr (w.heap.size + 1) 22 (zs 16)) ∧ Hid (Below w.heap.size w wr)) (fun i _ => 16 - (intOf i).toNat)
  case atStart =>
    refine ⟨0, by omega, rfl, ?_, ?_, ?_⟩
    · rw [mix_zero]; show _ = _; exact heap_alloc2_old w _ _
    · exact heap_alloc2_new w _ _
    · exact ((Below.refl _ _).alloc (Nat.le_refl _) _).alloc (by simp) _
  case round =>
    obtain ⟨k, hk, rfl, hh, hz, hbl⟩ := hrel
    by_cases hlt : k < 16
    · have hx := hh.out.cell (k := k) (by rw [mix_len (hdL_len xs n) HL.out hk]; exact hlt)
      rw [mix_get (by rw [hdL_len]; omega)] at hx
      have hf := hh.out.frozen k
      have HS := Lib.hid (mix_set (ys := hdL xs n) (xs := xs) (k := k) (by rw [hdL_len]; exact hlt) (by rw [HL.out]; exact hlt))
      rw [hdL_get _ _ _ hlt] at HS
      have HB2 : ∀ z, Hid (Below w.heap.size w (wr.setCell ⟨w.heap.size, k, none⟩ z).drew) := fun z => (hbl.out.setCell (p := ⟨w.heap.size, k, none⟩) (Nat.le_refl _) z).drew
      obtain ⟨x, hxx⟩ : ∃ x, xs.getD k 0 = x := ⟨_, rfl⟩
      obtain ⟨hx0, hx1⟩ := HBy.out.get k
      rw [hxx] at hx HS hx0 hx1
      clear hxx
      have HK := kp_cases n k
      rcases HK with ⟨hc, he⟩ | ⟨hc, he⟩ | ⟨c, c7, hn, he⟩
      · rw [he] at HS
        clear he
        go_wp2_with fail
        go_region
        go_wp2_with fail
        go_roundw
        case rel => exact ⟨k + 1, by omega, by go_num, by rw [← HS.out]; exact hh.out.set k _, hz.out.other (by omega) _ _, HB2 _⟩
        case measure => simp [intOf]; omega
      · rw [he] at HS
        clear he
        go_wp2_with fail
        go_region
        go_wp2_with fail
        go_roundw
        case rel => exact ⟨k + 1, by omega, by go_num, by rw [← HS.out]; exact hh.out.set k _, hz.out.other (by omega) _ _, HB2 _⟩
        case measure => simp [intOf]; omega
      · rw [he] at HS
        clear he
        have hc' : c = 0 ∨ c = 8 ∨ c = 1 ∨ c = 2 ∨ c = 3 ∨ c = 4 ∨ c = 5 ∨ c = 6 ∨ c = 7 := by omega
        rcases hc' with rfl | rfl | rfl | rfl | rfl | rfl | rfl | rfl | rfl <;>
        · have hq := hn
          push_cast at hq
          clear hn c7
          go_wp2_with fail
          go_region
          go_wp2_with fail
          go_roundw
          case rel => exact ⟨k + 1, by omega, by go_num, by rw [← HS.out]; exact hh.out.set k _, hz.out.other (by omega) _ _, HB2 _⟩
          case measure => simp [intOf]; omega
    · have HM : Hid (mix (hdL xs n) xs k = hdL xs n) := mix_all (by rw [hdL_len]; omega) (by rw [HL.out]; omega)
      rw [HM.out] at hh
      go_wp2_with (first
        | (refine ld16 _ rfl rfl _ _ rfl (hdL xs n) (hdL_len xs n) hh.out.range ?_)
        | (refine st16 _ _ rfl rfl _ _ (hdL xs n) rfl rfl (hdL_len xs n) (hz.out.there (zs_length 16)) ?_))
      refine bodyPost_ret (v := .agg (bv (hdL xs n)).toArray) (ret_mid Tryd.results33 _ _ _ _ (bv (hdL xs n)) _ rfl (World.rangeAt_setCells_same _ _ _ _ ?_) Tryd.underlying22 rfl ?_) rfl ⟨rfl, ?_⟩
      · rw [bv_length, hdL_len]; exact hz.out.there (zs_length 16)
      · rw [bv_length, hdL_len]; exact inf16
      · exact Below.setCells hbl.out _ (by omega) _ _
end Go.Proofs.YtbnfmiopgjmppaaDoor

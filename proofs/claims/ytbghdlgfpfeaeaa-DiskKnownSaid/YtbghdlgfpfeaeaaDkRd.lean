/-
  The contracts of a disk's reaches, Durable and Read. Conditions: numbers that fit their Go types.
-/
import Derived.Test.YtbghdlgfpfeaeaaDkSync
namespace Go.Proofs.Ytbghdlgfpfeaeaa
open Go.RowKit

/-- What is told of n bytes from a place on. -/
def rcV (d : List Int) (p n : Int) : Int := if p < 0 ∨ n < 0 ∨ (d.length : Int) - p < n then 130 else 0
theorem rcV_ok {d : List Int} {p n : Int} (h : rcV d p n = 0) : 0 ≤ p ∧ 0 ≤ n ∧ p + n ≤ d.length := by
  unfold rcV at h
  split at h <;> omega
theorem rcV_in {d : List Int} {p n : Nat} (h : p + n ≤ d.length) : rcV d p n = 0 := by unfold rcV; rw [if_neg (by omega)]
theorem dkReaches_nil (p n : Int) (w : World) : Calls Try.prog 23 #[.pointer none, .int .i64 p, .int .i64 n] w fun e w' => e = .returned (.int .i64 1) ∧ w' = w := by
  go_enter Try.func23, Try.ntmps23
  go_wp2_with fail
  go_ret
  exact ⟨rfl, rfl⟩
theorem dkReaches_any (B g : Nat) (k : Dk) (p n : Int) (w : World) (h : Dm w B g k) (hp : I64 p) : Calls Try.prog 23 #[.pointer (some ⟨g, 0, none⟩), .int .i64 p, .int .i64 n] w fun e w' => e = .returned (.int .i64 (rcV k.d p n)) ∧ w' = w := by
  have c0 := h.c0
  have hl := h.ok.few
  obtain ⟨m, hm⟩ : ∃ z, k.d.length = z := ⟨_, rfl⟩
  unfold rcV
  rw [hm] at c0 hl ⊢
  clear h hm
  unfold I64 at hp
  by_cases h0 : p < 0
  · rw [if_pos (.inl h0)]
    go_enter Try.func23, Try.ntmps23
    go_wp2_with fail
    go_ret
    exact ⟨rfl, rfl⟩
  · by_cases h1 : n < 0
    · rw [if_pos (.inr (.inl h1))]
      go_enter Try.func23, Try.ntmps23
      go_wp2_with fail
      go_ret
      exact ⟨rfl, rfl⟩
    · have e1 : IntKind.i64.wrap ((m : Int) - p) = (m : Int) - p := by rw [IntKind.wrap_i64]; omega
      by_cases h2 : (m : Int) - p < n
      · rw [if_pos (.inr (.inr h2))]
        go_enter Try.func23, Try.ntmps23
        go_wp2_with fail
        go_ret
        exact ⟨rfl, rfl⟩
      · rw [if_neg (by omega)]
        go_enter Try.func23, Try.ntmps23
        go_wp2_with fail
        go_ret
        exact ⟨rfl, rfl⟩

theorem ext_getD {xs ys : List Int} (hl : xs.length = ys.length) (h : ∀ i, i < xs.length → xs.getD i 0 = ys.getD i 0) : xs = ys := by
  refine List.ext_getElem hl (fun i h1 h2 => ?_)
  have := h i h1
  simpa [List.getD_eq_getElem?_getD, List.getElem?_eq_getElem h1, List.getElem?_eq_getElem h2] using this
/-- Some bytes of a disk. -/
def cutD (d : List Int) (p n : Nat) : List Int := (d.drop p).take n
theorem cutD_len (d : List Int) (p n : Nat) (h : p + n ≤ d.length) : (cutD d p n).length = n := by simp [cutD]; omega
theorem cutD_get (d : List Int) (p n i : Nat) (h : i < n) : (cutD d p n).getD i 0 = d.getD (p + i) 0 := getD_cut d p n i h
theorem cutD_all (d : List Int) : cutD d 0 d.length = d := by simp [cutD]
theorem dur_cut (d : List Int) (p n : Nat) (h : p + n ≤ d.length) : layL (nz n) d 0 p = cutD d p n := by
  refine ext_getD (by rw [layL_len, cutD_len d p n h]; exact List.length_replicate) (fun i hi => ?_)
  rw [layL_len] at hi
  have hi2 : i < n := by simpa [nz] using hi
  rw [layL_get _ _ _ _ _ hi, cutD_get _ _ _ _ hi2, if_pos (by omega)]
  congr 1
/-- All writes laid over a piece of a disk. -/
def laysF (f : Int) (d : List Int) (l : List Uw) : List Int := l.foldl (fun d x => layL d x.d x.at_ f) d
theorem laysF_snoc (f : Int) (d : List Int) (l : List Uw) (x : Uw) : laysF f d (l ++ [x]) = layL (laysF f d l) x.d x.at_ f := by simp [laysF]
theorem laysF_cut (p n : Nat) : ∀ (l : List Uw) (d : List Int), p + n ≤ d.length → laysF p (cutD d p n) l = cutD (lays d l) p n
  | [], _, _ => rfl
  | x :: l, d, h => by
    have e : layL (cutD d p n) x.d x.at_ p = cutD (layL d x.d x.at_ 0) p n := by
      refine ext_getD (by rw [layL_len, cutD_len d p n h, cutD_len _ p n (by rw [layL_len]; exact h)]) (fun i hi => ?_)
      rw [layL_len] at hi
      have hi2 : i < n := by rw [cutD_len d p n h] at hi; exact hi
      rw [layL_get _ _ _ _ _ hi, cutD_get _ _ _ _ hi2, cutD_get _ _ _ _ hi2, layL_get _ _ _ _ _ (by omega)]
      by_cases hc : x.at_ ≤ (p : Int) + i ∧ (p : Int) + i < x.at_ + x.d.length
      · rw [if_pos hc, if_pos (by omega)]
        congr 1
        omega
      · rw [if_neg hc, if_neg (by omega)]
    show laysF p (layL (cutD d p n) x.d x.at_ p) l = cutD (lays (layL d x.d x.at_ 0) l) p n
    rw [e]
    exact laysF_cut p n l _ (by rw [layL_len]; exact h)

theorem dkDurable_nil (p n : Int) (w : World) : Calls Try.prog 15 #[.pointer none, .int .i64 p, .int .i64 n] w fun e w' => e = .returned (.tuple #[.slice none 0 0, .int .i64 1]) ∧ w' = w := by
  go_enter Try.func15, Try.ntmps15
  go_wp2_with fail
  refine (dkReaches_nil p n w).mono ?_
  rintro e w1 ⟨rfl, rfl⟩
  go_wp2_with fail
  go_ret2
  exact ⟨rfl, rfl⟩
theorem dkRead_nil (p n : Int) (w : World) : Calls Try.prog 12 #[.pointer none, .int .i64 p, .int .i64 n] w fun e w' => e = .returned (.tuple #[.slice none 0 0, .int .i64 1]) ∧ w' = w := by
  go_enter Try.func12, Try.ntmps12
  go_wp2_with fail
  refine (dkDurable_nil p n w).mono ?_
  rintro e w1 ⟨rfl, rfl⟩
  go_wp2_with fail
  go_ret2
  exact ⟨rfl, rfl⟩
theorem dkWrite_nil (p : Int) (b : Option Addr) (n c : Nat) (w : World) : Calls Try.prog 13 #[.pointer none, .int .i64 p, .slice b n c] w fun e w' => e = .returned (.int .i64 1) ∧ w' = w := by
  go_enter Try.func13, Try.ntmps13
  go_wp2_with fail
  refine (dkReaches_nil p n w).mono ?_
  rintro e w1 ⟨rfl, rfl⟩
  go_wp2_with fail
  go_ret
  exact ⟨rfl, rfl⟩
/-- Bytes are answered in memory of the call's own, and no fault. -/
def MadeT (w : World) (xs : List Int) (e : Ending) (w' : World) : Prop := ∃ a n c, e = .returned (.tuple #[.slice a n c, .int .i64 0]) ∧ Own w' w.heap.size a n c xs ∧ Below w.heap.size w w'
theorem dkDurable_no (B g : Nat) (k : Dk) (p n : Int) (w : World) (h : Dm w B g k) (hp : I64 p) (hn : rcV k.d p n ≠ 0) : Calls Try.prog 15 #[.pointer (some ⟨g, 0, none⟩), .int .i64 p, .int .i64 n] w fun e w' => e = .returned (.tuple #[.slice none 0 0, .int .i64 130]) ∧ w' = w := by
  have hv : rcV k.d p n = 130 := by
    unfold rcV at hn ⊢
    split at hn <;> simp_all
  have HC := Lib.hid (dkReaches_any B g k p n w h hp)
  rw [hv] at HC
  clear h hn hv
  go_enter Try.func15, Try.ntmps15
  go_wp2_with fail
  refine HC.out.mono ?_
  rintro e w1 ⟨rfl, rfl⟩
  go_wp2_with fail
  go_ret2
  exact ⟨rfl, rfl⟩
theorem dkRead_no (B g : Nat) (k : Dk) (p n : Int) (w : World) (h : Dm w B g k) (hp : I64 p) (hn : rcV k.d p n ≠ 0) : Calls Try.prog 12 #[.pointer (some ⟨g, 0, none⟩), .int .i64 p, .int .i64 n] w fun e w' => e = .returned (.tuple #[.slice none 0 0, .int .i64 130]) ∧ w' = w := by
  have HC := Lib.hid (dkDurable_no B g k p n w h hp hn)
  clear h hn
  go_enter Try.func12, Try.ntmps12
  go_wp2_with fail
  refine HC.out.mono ?_
  rintro e w1 ⟨rfl, rfl⟩
  go_wp2_with fail
  go_ret2
  exact ⟨rfl, rfl⟩
theorem dkDurable_any (B g : Nat) (k : Dk) (p n : Nat) (w : World) (h : Dm w B g k) (hn : p + n ≤ k.d.length) : Calls Try.prog 15 #[.pointer (some ⟨g, 0, none⟩), .int .i64 p, .int .i64 n] w (MadeT w (cutD k.d p n)) := by
  have hf := h.ok.few
  have HC := Lib.hid (dkReaches_any B g k p n w h (by unfold I64; omega))
  rw [rcV_in hn] at HC
  obtain ⟨w1, hmk, ho, hb, hs⟩ := mk_nz w n (by omega)
  have HD := Lib.hid (h.below hb)
  have c0 := HD.out.c0
  have HO : Hid (Own w1 w.heap.size (some ⟨w.heap.size, 0, none⟩) n n (nz n) ∧ Below w.heap.size w w1) := ⟨ho, hb⟩
  have HP : Hid (p + n ≤ k.d.length ∧ k.d.length ≤ 65536) := ⟨hn, hf⟩
  obtain ⟨m, hm⟩ : ∃ z, k.d.length = z := ⟨_, rfl⟩
  have HM := Lib.hid hm
  rw [hm] at c0
  clear h hn hf ho hb hs hm
  go_enter Try.func15, Try.ntmps15
  go_wp2_with fail
  refine HC.out.mono ?_
  rintro e w2 ⟨rfl, rfl⟩
  go_wp2_with fail
  have hd := HD.out.dur
  rw [HM.out] at hd
  have hle := hd.le
  have hn1 := HP.out.1
  have hn2 := HP.out.2
  rw [HM.out] at hn1 hn2
  refine (lay_any ⟨0, k.a, m, k.c, k.d⟩ n n w2.heap.size (some ⟨w2.heap.size, 0, none⟩) (nz n) p w1 ⟨HM.out, hd.rd, HD.out.ok.byt, by show m ≤ 1000000; omega⟩ hle.1 hle.2 (by show (0 : Int) ≤ 0; omega) (by show (0 : Int) ≤ _; omega) (by omega) (by omega) HO.out.1).mono ?_
  rintro e w3 ⟨rfl, ho, hk⟩
  have HR : Hid (Own w3 w2.heap.size (some ⟨w2.heap.size, 0, none⟩) n n (cutD k.d p n) ∧ Below w2.heap.size w2 w3) := ⟨by rw [← dur_cut k.d p n HP.out.1]; exact ho, HO.out.2.trans (hk.below HO.out.2.size (fun i e => by simp [blk] at e; omega))⟩
  clear ho hk hd hle hn1 hn2
  go_wp2_with fail
  go_ret2
  exact ⟨_, _, _, rfl, HR.out.1, HR.out.2⟩

/-- The memory while writes are laid over what was read: the first ones of a disk's are done. -/
structure Lr (w w1 : World) (a : Option Addr) (n c : Nat) (xs : List Int) (wr : World) : Prop where
  own : Own wr w.heap.size a n c xs
  kept : Kept (fun b => blk a = some b) w1 wr
  size : w.heap.size ≤ w1.heap.size
set_option maxRecDepth 100000 in
set_option maxHeartbeats 1000000 in
theorem dkRead_any (B g : Nat) (k : Dk) (p n : Nat) (w : World) (h : Dm w B g k) (hn : p + n ≤ k.d.length) : Calls Try.prog 12 #[.pointer (some ⟨g, 0, none⟩), .int .i64 p, .int .i64 n] w (MadeT w (cutD (lays k.d k.W) p n)) := by
  have HC := Lib.hid (dkDurable_any B g k p n w h hn)
  have HD := Lib.hid h
  have HP : Hid (p + n ≤ k.d.length ∧ k.d.length ≤ 65536) := ⟨hn, h.ok.few⟩
  have HE : Hid (cutD (lays k.d k.W) p n = laysF p (cutD k.d p n) k.W) := (laysF_cut p n k.W k.d hn).symm
  clear h hn
  go_enter Try.func12, Try.ntmps12
  go_wp2_with fail
  refine HC.out.mono ?_
  rintro e w1 ⟨a, l, c, rfl, ho, hb⟩
  obtain ⟨m, hm⟩ : ∃ z, k.W.length = z := ⟨_, rfl⟩
  have HM := Lib.hid hm
  have hmx : m ≤ 9223372036854775807 := by have := HD.out.wr.row.le.1; have := HD.out.wr.row.le.2; simp only [maxLen] at this; omega
  have c1 := (HD.out.below hb).c1
  rw [hm] at c1
  have HB : Hid (Below w.heap.size w w1 ∧ Lr w w1 a l c (laysF p (cutD k.d p n) (k.W.take 0)) w1) := ⟨hb, ho, Kept.refl _ _, hb.size⟩
  clear hm ho hb
  go_wp2_with fail
  go_loopw [27] (fun i wr => ∃ j : Nat, j ≤ m ∧ i = .int .i64 j ∧ Hid (Lr w w1 a l c (laysF p (cutD k.d p n) (k.W.take j)) wr)) (fun i _ => m - (intOf i).toNat)
  case atStart => exact ⟨0, Nat.zero_le _, rfl, HB.out.2⟩
  case round =>
    obtain ⟨j, hj, rfl, hl⟩ := hrel
    have HDr : Hid (Dm wr B g k) := (HD.out.below HB.out.1).keep hl.out.kept (fun i hi e => by have := (HD.out.foot_lt hi).2; have := (hl.out.own.blk_ge i e).1; omega)
    by_cases hlt : j < m
    · obtain ⟨x, u, hx, hxm, hu, d0, d1⟩ := HDr.out.nth (i := j) (by have := HM.out; show j < k.W.length; omega)
      rw [hu]
      have HX : Hid (k.W[j]? = some x ∧ x ∈ k.W) := ⟨hx, hxm⟩
      have HF0 := Lib.hid (var_new wr x)
      have HT := Lib.hid (var_th wr x)
      have hlt2 : (j : Int) < (m : Int) := by omega
      have e1 : IntKind.i64.wrap ((j : Int) + 1) = ((j + 1 : Nat) : Int) := by rw [IntKind.wrap_i64]; omega
      clear hx hxm hu
      go_wp2_with (refine stN (fun w' => Hid (Var wr x w')) 46 (.tmp 11) (.tmp 30) rfl rfl wr.heap.size 0 x.cs rfl rfl HT.out infWr x.one HF0 ?_; intro wc HF; have q0 := cell_of_row wc _ 0 _ _ (0, 0) HF.out.2.2; have q1 := cell_of_row wc _ 1 _ _ (0, 0) HF.out.2.2; simp [Uw.cs] at q0 q1)
      have HS : Hid (Lr w w1 a l c (laysF p (cutD k.d p n) (k.W.take j)) wc ∧ Dm wc B g k) := ⟨⟨hl.out.own.keep (Kept.of_below (S := fun _ => False) HF.out.1 (fun i hi hi2 => by omega)) (fun _ _ => id), hl.out.kept.trans (Kept.of_below (S := fun _ => False) HF.out.1 (fun i hi hi2 => by omega)) (fun _ _ e => e.elim), hl.out.size⟩, HDr.out.below HF.out.1⟩
      refine (lay_any x l c w.heap.size a (laysF p (cutD k.d p n) (k.W.take j)) p wc ?_ ?_ ?_ ?_ ?_ ?_ ?_ ?_).mono ?_
      · exact HS.out.2.lies HX.out.2
      · exact ((HS.out.2.wr.data x HX.out.2).le).1
      · exact ((HS.out.2.wr.data x HX.out.2).le).2
      · exact HD.out.ok.at0 x HX.out.2
      · have h1 := HD.out.ok.at1 x HX.out.2
        have h2 := HD.out.ok.few
        omega
      · omega
      · have := HP.out; omega
      · exact HS.out.1.own
      rintro e w2 ⟨rfl, ho, hk⟩
      have H2 : Hid (Lr w w1 a l c (laysF p (cutD k.d p n) (k.W.take (j + 1))) w2) := ⟨by
        have e : k.W.take (j + 1) = k.W.take j ++ [x] := by rw [List.take_add_one, HX.out.1]; rfl
        rw [e, laysF_snoc]
        exact ho, HS.out.1.kept.trans hk (fun _ _ e => e), HS.out.1.size⟩
      clear ho hk
      go_wp2_with fail
      go_roundw
      case rel => exact ⟨j + 1, by omega, by go_num, H2.out⟩
      case measure => simp [intOf]; omega
    · have hjm : j = m := by omega
      have hlt2 : ¬ (j : Int) < (m : Int) := by omega
      have HEn : Hid (Own wr w.heap.size a l c (cutD (lays k.d k.W) p n) ∧ Below w.heap.size w wr) := ⟨by
        rw [HE.out]
        have := hl.out.own
        rw [hjm, List.take_of_length_le (by rw [HM.out]; omega)] at this
        exact this, HB.out.1.trans (hl.out.kept.below hl.out.size (fun i e => (HB.out.2.own.blk_ge i e).1))⟩
      clear hjm
      go_wp2_with fail
      go_ret2
      exact ⟨_, _, _, rfl, HEn.out.1, HEn.out.2⟩
end Go.Proofs.Ytbghdlgfpfeaeaa

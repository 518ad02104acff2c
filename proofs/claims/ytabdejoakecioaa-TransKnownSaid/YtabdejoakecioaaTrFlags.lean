/-
  The contract of Flags of package trans. Conditions: a number that is a byte.
-/
import Derived.Test.YtabdejoakecioaaTrLeaf
import Derived.Laws.RangeString
import Derived.Laws.RangeAny
import Derived.Lib.OthersKept
namespace Go.Proofs.Ytabdejoakecioaa
open Go.RowKit Go.Lib

def flT : ByteArray := { data := #[70, 83, 82, 80, 65, 85] }
def flC : List Int := [70, 83, 82, 80, 65, 85]
/-- The letters of the first flags. -/
def flS (f : Int) : Nat → List Int
  | 0 => []
  | k + 1 => if f / 2 ^ k % 2 = 1 then flS f k ++ [flC.getD k 0] else flS f k
theorem flS_byt (f : Int) : ∀ k, Byt (flS f k)
  | 0 => Byt.nil
  | k + 1 => by
    unfold flS
    split
    · refine (flS_byt f k).append ?_
      intro v hv
      simp only [List.mem_cons, List.not_mem_nil, or_false] at hv
      subst hv
      have h : Byt flC := by intro v hv; simp [flC] at hv; omega
      exact h.get k
    · exact flS_byt f k
theorem flS_len (f : Int) : ∀ k, (flS f k).length ≤ k
  | 0 => Nat.le_refl _
  | k + 1 => by
    have := flS_len f k
    unfold flS
    split
    · simp; omega
    · omega
/-- What lies in memory after k letters. -/
structure FlSt (w : World) (f : Int) (k : Nat) (a : Option Addr) (n c : Nat) (w' : World) : Prop where
  iter : w'.heap[w.heap.size]? = some (.stringIter flT k)
  own : Own w' (w.heap.size + 1) a n c (flS f k)
  below : Below w.heap.size w w'
theorem fl_start (w : World) (f : Int) : FlSt w f 0 none 0 0 (w.iter flT 0) :=
  ⟨World.iter_heap w flT 0, Own.nil _ _, (Below.refl _ _).alloc (Nat.le_refl _) _⟩
theorem iterAt_kept (w : World) (k : Nat) (s : ByteArray) (pos : Nat) : Kept (fun b => b = k) w (w.iterAt k s pos) :=
  ⟨rfl, rfl, rfl, by simp [World.iterAt], fun i _ hi => by
    have : ¬ k = i := fun e => hi e.symm
    simp [World.iterAt, this]⟩
theorem FlSt.pass {w w1 : World} {f : Int} {k n c : Nat} {a : Option Addr} (h : FlSt w f k a n c w1) : (w1.iterAt w.heap.size flT (k + 1)).heap[w.heap.size]? = some (.stringIter flT (k + 1)) ∧ Own (w1.iterAt w.heap.size flT (k + 1)) (w.heap.size + 1) a n c (flS f k) ∧ Below w.heap.size w (w1.iterAt w.heap.size flT (k + 1)) :=
  ⟨iterAt_heap _ _ _ _ _ h.iter, h.own.keep (iterAt_kept _ _ _ _) (fun b e k => by have h1 := (h.own.blk_ge b e).1; have h3 : b = w.heap.size := k; omega), h.below.trans ((iterAt_kept _ _ _ _).below h.below.size (fun k e => Nat.le_of_eq (Eq.symm e)))⟩

theorem fl_and (x : Int) (h0 : 0 ≤ x) (h1 : x < 256) : bits .and .u8 x 1 = x % 2 := by
  rw [u8_and x 1 h0 h1 (by decide) (by decide)]
  have h : x.toNat &&& (1 : Int).toNat = x.toNat % 2 := Nat.and_one_is_mod _
  rw [h]; omega
theorem FlSt.more {w w1 : World} {f : Int} {k n c : Nat} {a : Option Addr} (h : FlSt w f k a n c w1) (hl : n ≤ 10) (L : Int) (hf : flS f (k + 1) = flS f k ++ [L]) :
    ∃ a' cap' w', (Builtin.append_ #[24, 24] 24 #[.slice a n c, .slice (some ⟨(w1.iterAt w.heap.size flT (k + 1)).heap.size, 0, none⟩) 1 1]).run Try.prog ((w1.iterAt w.heap.size flT (k + 1)).alloc (.cells #[.int .u8 L] 5)) = .ok (.slice a' (n + 1) cap') w' ∧ FlSt w f (k + 1) a' (n + 1) cap' w' := by
  obtain ⟨p1, p2, p3⟩ := h.pass
  obtain ⟨wi, hwi⟩ : ∃ x, w1.iterAt w.heap.size flT (k + 1) = x := ⟨_, rfl⟩
  rw [hwi] at p1 p2 p3 ⊢
  have hlt : w.heap.size < wi.heap.size := (Array.getElem?_eq_some_iff.1 p1).1
  have hal : Below wi.heap.size wi (wi.alloc (.cells (bv [L]).toArray 5)) := (Below.refl _ _).alloc (Nat.le_refl _) _
  have hrl : Rd (wi.alloc (.cells (bv [L]).toArray 5)) (some ⟨wi.heap.size, 0, none⟩) [L] := (Own.lit wi wi.heap.size [L] 1 rfl (by simp only [maxLen]; omega) (Nat.le_refl _)).rd
  obtain ⟨a', cap', w', hrun, hown, hg, _⟩ := run_append_rd (wi.alloc (.cells (bv [L]).toArray 5)) (w.heap.size + 1) 24 (p2.below3 hal) 1 (m := 1) rfl hrl (by omega) (by have := hal.size; omega)
  refine ⟨a', cap', w', hrun, ⟨?_, by rw [hf]; exact hown, (p3.trans (hal.mono p3.size)).grown hg (by have := hal.size; omega) (fun i hi => by have := (p2.blk_ge i hi).1; omega)⟩⟩
  have hkp : Kept (fun b => blk a = some b) (wi.alloc (.cells (bv [L]).toArray 5)) w' := Kept.grown hg (S := fun b => blk a = some b) (fun _ e => e)
  rw [hkp.block w.heap.size (by have := hal.size; omega) (fun e => by have := (p2.blk_ge _ e).1; omega), hal.block w.heap.size hlt, p1]
theorem FlSt.less {w w1 : World} {f : Int} {k n c : Nat} {a : Option Addr} (h : FlSt w f k a n c w1) (hf : flS f (k + 1) = flS f k) : FlSt w f (k + 1) a n c (w1.iterAt w.heap.size flT (k + 1)) := by
  obtain ⟨p1, p2, p3⟩ := h.pass
  exact ⟨p1, by rw [hf]; exact p2, p3⟩

set_option maxRecDepth 100000 in
set_option maxHeartbeats 2000000 in
theorem tFlags_any (f : Int) (w : World) (f0 : 0 ≤ f) (f1 : f < 256) : Calls Try.prog 16 #[.int .u8 f] w (Gives w (.string (str (flS f 6)))) := by
  have HS0 := Lib.hid (fl_start w f)
  obtain ⟨wI, hwI⟩ : ∃ x, w.iter flT 0 = x := ⟨_, rfl⟩
  rw [hwI] at HS0
  have hwI' : w.iter { data := #[70, 83, 82, 80, 65, 85] } 0 = wI := hwI
  clear hwI
  go_enter Try.func16, Try.ntmps16
  go_wp2_with fail
  go_loopw [3] (fun b wr => ∃ (k : Nat) (a : Option Addr) (n c : Nat), k ≤ 6 ∧ b = .slice a n c ∧ Hid (FlSt w f k a n c wr)) (fun _ wr => 6 - wr.iterPos w.heap.size)
  case atStart => exact ⟨0, none, 0, 0, by omega, rfl, HS0⟩
  case round =>
    obtain ⟨k, a, n, c, hk, rfl, HS⟩ := hrel
    have hn6 : n ≤ 6 := by have h1 := HS.out.own.len; have h2 := flS_len f k; omega
    have hip : wr.iterPos w.heap.size = k := by simp [World.iterPos, HS.out.iter]
    have hit := HS.out.iter
    by_cases hp : k < 6
    · have hk6 : k = 0 ∨ k = 1 ∨ k = 2 ∨ k = 3 ∨ k = 4 ∨ k = 5 := by omega
      rcases hk6 with rfl | rfl | rfl | rfl | rfl | rfl
      · have hnx : ∀ ty, (Instr.next (.pointer (some ⟨w.heap.size, 0, none⟩)) true ty).run Try.prog wr = .ok (.tuple #[.bool true, .int .i64 0, .int .i32 70]) (wr.iterAt w.heap.size flT 1) := fun ty => run_next_ascii_at wr w.heap.size flT 0 ty hit (by decide) (by decide)
        have hbt : bits .and .u8 f 1 = f % 2 := fl_and _ (by omega) (by omega)
        have hfs : flS f (0 + 1) = if f / 1 % 2 = 1 then flS f 0 ++ [70] else flS f 0 := rfl
        by_cases hb : f / 1 % 2 = 1
        · rw [if_pos hb] at hfs
          have hq : (f % 2 != 0) = true := by rw [bne_iff_ne]; omega
          obtain ⟨a', cap', wz, hrun, hst⟩ := HS.out.more (by omega) 70 hfs
          have HR := Lib.hid hrun
          have HT := Lib.hid hst
          clear hrun hst hfs hb HS
          go_wp2_with (at_builtin; refine Lib.wpList_append_run _ rfl _ _ _ _ rfl _ _ rfl rfl _ _ HR.out ?_)
          go_roundw
          case rel => exact ⟨1, a', n + 1, cap', by omega, rfl, HT⟩
          case measure =>
            have h2 : wz.iterPos w.heap.size = 1 := by simp [World.iterPos, HT.out.iter]
            rw [hip, h2]; omega
        · rw [if_neg hb] at hfs
          have hq : (f % 2 != 0) = false := by rw [bne_eq_false_iff_eq]; omega
          have HT := Lib.hid (HS.out.less hfs)
          clear hfs hb HS
          go_wp2_with fail
          go_roundw
          case rel => exact ⟨1, a, n, c, by omega, rfl, HT⟩
          case measure =>
            have h2 : (wr.iterAt w.heap.size flT 1).iterPos w.heap.size = 1 := by simp [World.iterPos, HT.out.iter]
            rw [hip, h2]; omega
      · have hnx : ∀ ty, (Instr.next (.pointer (some ⟨w.heap.size, 0, none⟩)) true ty).run Try.prog wr = .ok (.tuple #[.bool true, .int .i64 1, .int .i32 83]) (wr.iterAt w.heap.size flT 2) := fun ty => run_next_ascii_at wr w.heap.size flT 1 ty hit (by decide) (by decide)
        have hbt : bits .and .u8 (f / 2) 1 = (f / 2) % 2 := fl_and _ (by omega) (by omega)
        have hfs : flS f (1 + 1) = if f / 2 % 2 = 1 then flS f 1 ++ [83] else flS f 1 := rfl
        by_cases hb : f / 2 % 2 = 1
        · rw [if_pos hb] at hfs
          have hq : ((f / 2) % 2 != 0) = true := by rw [bne_iff_ne]; omega
          obtain ⟨a', cap', wz, hrun, hst⟩ := HS.out.more (by omega) 83 hfs
          have HR := Lib.hid hrun
          have HT := Lib.hid hst
          clear hrun hst hfs hb HS
          go_wp2_with (at_builtin; refine Lib.wpList_append_run _ rfl _ _ _ _ rfl _ _ rfl rfl _ _ HR.out ?_)
          go_roundw
          case rel => exact ⟨2, a', n + 1, cap', by omega, rfl, HT⟩
          case measure =>
            have h2 : wz.iterPos w.heap.size = 2 := by simp [World.iterPos, HT.out.iter]
            rw [hip, h2]; omega
        · rw [if_neg hb] at hfs
          have hq : ((f / 2) % 2 != 0) = false := by rw [bne_eq_false_iff_eq]; omega
          have HT := Lib.hid (HS.out.less hfs)
          clear hfs hb HS
          go_wp2_with fail
          go_roundw
          case rel => exact ⟨2, a, n, c, by omega, rfl, HT⟩
          case measure =>
            have h2 : (wr.iterAt w.heap.size flT 2).iterPos w.heap.size = 2 := by simp [World.iterPos, HT.out.iter]
            rw [hip, h2]; omega
      · have hnx : ∀ ty, (Instr.next (.pointer (some ⟨w.heap.size, 0, none⟩)) true ty).run Try.prog wr = .ok (.tuple #[.bool true, .int .i64 2, .int .i32 82]) (wr.iterAt w.heap.size flT 3) := fun ty => run_next_ascii_at wr w.heap.size flT 2 ty hit (by decide) (by decide)
        have hbt : bits .and .u8 (f / 4) 1 = (f / 4) % 2 := fl_and _ (by omega) (by omega)
        have hfs : flS f (2 + 1) = if f / 4 % 2 = 1 then flS f 2 ++ [82] else flS f 2 := rfl
        by_cases hb : f / 4 % 2 = 1
        · rw [if_pos hb] at hfs
          have hq : ((f / 4) % 2 != 0) = true := by rw [bne_iff_ne]; omega
          obtain ⟨a', cap', wz, hrun, hst⟩ := HS.out.more (by omega) 82 hfs
          have HR := Lib.hid hrun
          have HT := Lib.hid hst
          clear hrun hst hfs hb HS
          go_wp2_with (at_builtin; refine Lib.wpList_append_run _ rfl _ _ _ _ rfl _ _ rfl rfl _ _ HR.out ?_)
          go_roundw
          case rel => exact ⟨3, a', n + 1, cap', by omega, rfl, HT⟩
          case measure =>
            have h2 : wz.iterPos w.heap.size = 3 := by simp [World.iterPos, HT.out.iter]
            rw [hip, h2]; omega
        · rw [if_neg hb] at hfs
          have hq : ((f / 4) % 2 != 0) = false := by rw [bne_eq_false_iff_eq]; omega
          have HT := Lib.hid (HS.out.less hfs)
          clear hfs hb HS
          go_wp2_with fail
          go_roundw
          case rel => exact ⟨3, a, n, c, by omega, rfl, HT⟩
          case measure =>
            have h2 : (wr.iterAt w.heap.size flT 3).iterPos w.heap.size = 3 := by simp [World.iterPos, HT.out.iter]
            rw [hip, h2]; omega
      · have hnx : ∀ ty, (Instr.next (.pointer (some ⟨w.heap.size, 0, none⟩)) true ty).run Try.prog wr = .ok (.tuple #[.bool true, .int .i64 3, .int .i32 80]) (wr.iterAt w.heap.size flT 4) := fun ty => run_next_ascii_at wr w.heap.size flT 3 ty hit (by decide) (by decide)
        have hbt : bits .and .u8 (f / 8) 1 = (f / 8) % 2 := fl_and _ (by omega) (by omega)
        have hfs : flS f (3 + 1) = if f / 8 % 2 = 1 then flS f 3 ++ [80] else flS f 3 := rfl
        by_cases hb : f / 8 % 2 = 1
        · rw [if_pos hb] at hfs
          have hq : ((f / 8) % 2 != 0) = true := by rw [bne_iff_ne]; omega
          obtain ⟨a', cap', wz, hrun, hst⟩ := HS.out.more (by omega) 80 hfs
          have HR := Lib.hid hrun
          have HT := Lib.hid hst
          clear hrun hst hfs hb HS
          go_wp2_with (at_builtin; refine Lib.wpList_append_run _ rfl _ _ _ _ rfl _ _ rfl rfl _ _ HR.out ?_)
          go_roundw
          case rel => exact ⟨4, a', n + 1, cap', by omega, rfl, HT⟩
          case measure =>
            have h2 : wz.iterPos w.heap.size = 4 := by simp [World.iterPos, HT.out.iter]
            rw [hip, h2]; omega
        · rw [if_neg hb] at hfs
          have hq : ((f / 8) % 2 != 0) = false := by rw [bne_eq_false_iff_eq]; omega
          have HT := Lib.hid (HS.out.less hfs)
          clear hfs hb HS
          go_wp2_with fail
          go_roundw
          case rel => exact ⟨4, a, n, c, by omega, rfl, HT⟩
          case measure =>
            have h2 : (wr.iterAt w.heap.size flT 4).iterPos w.heap.size = 4 := by simp [World.iterPos, HT.out.iter]
            rw [hip, h2]; omega
      · have hnx : ∀ ty, (Instr.next (.pointer (some ⟨w.heap.size, 0, none⟩)) true ty).run Try.prog wr = .ok (.tuple #[.bool true, .int .i64 4, .int .i32 65]) (wr.iterAt w.heap.size flT 5) := fun ty => run_next_ascii_at wr w.heap.size flT 4 ty hit (by decide) (by decide)
        have hbt : bits .and .u8 (f / 16) 1 = (f / 16) % 2 := fl_and _ (by omega) (by omega)
        have hfs : flS f (4 + 1) = if f / 16 % 2 = 1 then flS f 4 ++ [65] else flS f 4 := rfl
        by_cases hb : f / 16 % 2 = 1
        · rw [if_pos hb] at hfs
          have hq : ((f / 16) % 2 != 0) = true := by rw [bne_iff_ne]; omega
          obtain ⟨a', cap', wz, hrun, hst⟩ := HS.out.more (by omega) 65 hfs
          have HR := Lib.hid hrun
          have HT := Lib.hid hst
          clear hrun hst hfs hb HS
          go_wp2_with (at_builtin; refine Lib.wpList_append_run _ rfl _ _ _ _ rfl _ _ rfl rfl _ _ HR.out ?_)
          go_roundw
          case rel => exact ⟨5, a', n + 1, cap', by omega, rfl, HT⟩
          case measure =>
            have h2 : wz.iterPos w.heap.size = 5 := by simp [World.iterPos, HT.out.iter]
            rw [hip, h2]; omega
        · rw [if_neg hb] at hfs
          have hq : ((f / 16) % 2 != 0) = false := by rw [bne_eq_false_iff_eq]; omega
          have HT := Lib.hid (HS.out.less hfs)
          clear hfs hb HS
          go_wp2_with fail
          go_roundw
          case rel => exact ⟨5, a, n, c, by omega, rfl, HT⟩
          case measure =>
            have h2 : (wr.iterAt w.heap.size flT 5).iterPos w.heap.size = 5 := by simp [World.iterPos, HT.out.iter]
            rw [hip, h2]; omega
      · have hnx : ∀ ty, (Instr.next (.pointer (some ⟨w.heap.size, 0, none⟩)) true ty).run Try.prog wr = .ok (.tuple #[.bool true, .int .i64 5, .int .i32 85]) (wr.iterAt w.heap.size flT 6) := fun ty => run_next_ascii_at wr w.heap.size flT 5 ty hit (by decide) (by decide)
        have hbt : bits .and .u8 (f / 32) 1 = (f / 32) % 2 := fl_and _ (by omega) (by omega)
        have hfs : flS f (5 + 1) = if f / 32 % 2 = 1 then flS f 5 ++ [85] else flS f 5 := rfl
        by_cases hb : f / 32 % 2 = 1
        · rw [if_pos hb] at hfs
          have hq : ((f / 32) % 2 != 0) = true := by rw [bne_iff_ne]; omega
          obtain ⟨a', cap', wz, hrun, hst⟩ := HS.out.more (by omega) 85 hfs
          have HR := Lib.hid hrun
          have HT := Lib.hid hst
          clear hrun hst hfs hb HS
          go_wp2_with (at_builtin; refine Lib.wpList_append_run _ rfl _ _ _ _ rfl _ _ rfl rfl _ _ HR.out ?_)
          go_roundw
          case rel => exact ⟨6, a', n + 1, cap', by omega, rfl, HT⟩
          case measure =>
            have h2 : wz.iterPos w.heap.size = 6 := by simp [World.iterPos, HT.out.iter]
            rw [hip, h2]; omega
        · rw [if_neg hb] at hfs
          have hq : ((f / 32) % 2 != 0) = false := by rw [bne_eq_false_iff_eq]; omega
          have HT := Lib.hid (HS.out.less hfs)
          clear hfs hb HS
          go_wp2_with fail
          go_roundw
          case rel => exact ⟨6, a, n, c, by omega, rfl, HT⟩
          case measure =>
            have h2 : (wr.iterAt w.heap.size flT 6).iterPos w.heap.size = 6 := by simp [World.iterPos, HT.out.iter]
            rw [hip, h2]; omega
    · have hk6 : k = 6 := by omega
      subst hk6
      have hnx : ∀ ty, (Instr.next (.pointer (some ⟨w.heap.size, 0, none⟩)) true ty).run Try.prog wr = .ok (.tuple #[.bool false]) wr := fun ty => run_next_end_at wr w.heap.size flT 6 ty hit (by decide)
      have hst := run_string_rd wr c HS.out.own.len HS.out.own.rd (flS_byt f 6)
      have HB : Hid (Below w.heap.size w wr) := HS.out.below
      clear HS hit hip
      go_wp2_with fail
      go_ret
      exact ⟨rfl, HB.out⟩
end Go.Proofs.Ytabdejoakecioaa

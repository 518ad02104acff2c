/-
  Contracts of the writer's methods of package bits: Put, Raw, Set, Bytes, Len. Conditions: rows shorter than 2 to the 40, numbers that fit their Go types.
-/
import Derived.Test.YthipnkaghddbhaaWr2
namespace Go.Proofs.Ythipnkaghddbhaa
open Go.RowKit

theorem wBytes_any (base g : Nat) (a : Option Addr) (n cap : Nat) (xs : List Int) (w : World) (h : Wr w base g a n cap xs) (hl : n ≤ 1099511627776) :
    Calls Try.prog 34 #[.pointer (some ⟨g, 0, none⟩)] w (Made w xs) := by
  have hc := h.cell
  have HO := Lib.hid h.2
  clear h
  go_enter Try.func34, Try.ntmps34
  go_wp2_with fail
  refine (clone_any _ _ _ xs _ HO.out.len HO.out.rd (by omega)).mono ?_
  rintro e w1 ⟨a1, n1, cap1, rfl, hown, hb⟩
  have HF : Hid (Made w xs (.returned (.slice a1 n1 cap1)) w1) := ⟨a1, n1, cap1, rfl, hown, hb⟩
  clear hown hb hc
  go_wp2_with fail
  go_ret
  exact HF.out

/- left out: not in this seat -/

theorem wPut_not (base g : Nat) (a : Option Addr) (n cap : Nat) (xs : List Int) (v k : Int) (w : World) (_h : Wr w base g a n cap xs) (hv : U64 v) (hf : fitB v k = false) :
    Calls Try.prog 32 #[.pointer (some ⟨g, 0, none⟩), .int .u64 v, .int .i64 k] w fun e w' => e = .returned (.int .i64 2) ∧ w = w' := by
  have HV := Lib.hid hv
  have HF := Lib.hid hf
  clear hv hf _h
  go_enter Try.func32, Try.ntmps32
  go_wp2_with fail
  refine (fits_any _ _ _ HV.out).mono ?_
  rintro e w' ⟨rfl, rfl⟩
  rw [HF.out]
  go_wp2_with fail
  go_ret
  exact ⟨rfl, rfl⟩

theorem wRaw_any (base g : Nat) (a : Option Addr) (n cap : Nat) (xs : List Int) (b : Option Addr) (m d : Nat) (ys : List Int) (w : World) (h : Wr w base g a n cap xs) (hm : ys.length = m) (hy : Rd w b ys) (hl : n + m ≤ 1099511627776) (hbase : base ≤ w.heap.size) :
    Calls Try.prog 33 #[.pointer (some ⟨g, 0, none⟩), .slice b m d] w fun e w' => e = .returned (.int .i64 0) ∧ Wrote w base g a (xs ++ ys) w' := by
  obtain ⟨a1, cap1, w1, hrun, hown, hg, hx⟩ := run_append_rd w base 27 h.2 d hm hy (by omega) hbase
  have hk1 : Kept (fun k => blk a = some k) w w1 := Kept.grown hg (fun _ e => e)
  have h1 := hk1.heap h.1 h.ne
  have hc := h.cell
  have hc1 := cell_of_one h1
  have hf1 := free_of_one h1
  have HR := Lib.hid hrun
  have HF : Hid (Wrote w base g a (xs ++ ys) (w1.setCell ⟨g, 0, none⟩ (.slice a1 (n + m) cap1))) := by
    have hne : blk a1 ≠ some g := by
      rcases hx with e | e
      · rw [e]; exact h.ne
      · rw [e]; intro e2; have := h.lt; simp at e2; omega
    refine ⟨a1, n + m, cap1, ⟨one_setCell h1, hown.keep (S := fun k => k = g) (Kept.setCell _ _ _ rfl) (fun b hb e => hne (by rw [hb, e]))⟩,
      (hk1.mono (fun _ _ e => .inr e)).trans (Kept.setCell (S := fun k => k = g) _ _ _ rfl) (fun _ _ e => .inl e), fun k hk => ?_⟩
    rcases hx with e | e
    · exact .inl (by rw [← e]; exact hk)
    · rw [e] at hk; simp at hk; exact .inr (by omega)
  clear hrun hown hg hx hk1 h1 h hm hy
  go_enter Try.func33, Try.ntmps33
  go_wp2_with (at_builtin; refine Lib.wpList_append_run _ rfl _ _ _ _ rfl _ _ rfl rfl _ _ HR.out ?_)
  go_ret
  exact ⟨rfl, HF.out⟩

set_option maxHeartbeats 400000 in
theorem wPut_fit (base g : Nat) (a : Option Addr) (n cap : Nat) (xs : List Int) (v k : Int) (w : World) (h : Wr w base g a n cap xs) (hv : U64 v) (hf : fitB v k = true) (hl : n ≤ 1099511627776) (hbase : base ≤ w.heap.size) :
    Calls Try.prog 32 #[.pointer (some ⟨g, 0, none⟩), .int .u64 v, .int .i64 k] w fun e w' => e = .returned (.int .i64 0) ∧ Wrote w base g a (xs ++ be k.toNat v) w' := by
  obtain ⟨hk1, hk8, hvp⟩ := (fitB_iff hv).1 hf
  obtain ⟨m, rfl⟩ := Int.eq_ofNat_of_zero_le (show 0 ≤ k by omega)
  rw [Int.toNat_natCast] at hvp ⊢
  obtain ⟨a1, cap1, w1, hrun, hown, hg, hx⟩ := run_append_zeros w base 27 h.2 m (by omega) (by omega) hbase
  have hkw : Kept (fun k => blk a = some k) w w1 := Kept.grown hg (fun _ e => e)
  have h1 := hkw.heap h.1 h.ne
  have hc := h.cell
  have hc1 := cell_of_one h1
  have hf1 := free_of_one h1
  have hne : blk a1 ≠ some g := by
    rcases hx with e | e
    · rw [e]; exact h.ne
    · rw [e]; intro e2; have := h.lt; simp at e2; omega
  rcases hown.cases with ⟨_, h0, _⟩ | ⟨g1, cur, rfl, hbg, hgc, hnc, hcm, hcs, ht⟩
  · omega
  have hne' : g1 ≠ g := fun e => hne (by rw [← e]; rfl)
  have hown2 := hown.keep (S := fun k => k = g) (Kept.setCell w1 ⟨g, 0, none⟩ (.slice (some ⟨g1, 0, none⟩) (n + m) cap1) rfl) (fun b hb e => hne (by rw [hb, e]))
  have hgc2 : (w1.setCell ⟨g, 0, none⟩ (.slice (some ⟨g1, 0, none⟩) (n + m) cap1)).heap[g1]? = some (.cells cur 5 (0, 0)) := by
    rw [Below.heap_setCell _ _ _ _ hne']; exact hgc
  have HR := Lib.hid hrun
  have HF := Lib.hid hf
  have HV := Lib.hid hv
  have hxl := h.2.len
  have HL : Hid (∀ w3 cur', w3.heap[g1]? = some (.cells cur' 5 (0, 0)) → LayAt cur cur' n m m v → Kept (fun k => k = g1) (w1.setCell ⟨g, 0, none⟩ (.slice (some ⟨g1, 0, none⟩) (n + m) cap1)) w3 → Wrote w base g a (xs ++ be m v) w3) := by
    intro w3 cur' hg3 hlay hkp
    refine ⟨some ⟨g1, 0, none⟩, n + m, cap1, ⟨hkp.heap (one_setCell h1) (fun e => hne' e.symm), ?_⟩, ?_, fun k hk => ?_⟩
    · have := lay_own hown2 hgc2 hlay (by omega) hg3
      rwa [← hxl, splice_end _ _ _ (be_length m v), hxl] at this
    · refine (((hkw.mono (T := fun k => k = g ∨ blk a = some k) (fun _ _ e => .inr e)).trans (Kept.setCell (S := fun k => k = g) _ _ _ rfl) (fun _ _ e => .inl e))).trans hkp (fun i hi e => ?_)
      subst e
      rcases hx with e | e
      · exact .inr (by rw [← e]; rfl)
      · simp [blk] at e; omega
    · rcases hx with e | e
      · exact .inl (by rw [← e]; exact hk)
      · rw [e] at hk; simp at hk; exact .inr (by omega)
  have HG := Lib.hid hgc2
  have hcs' : cap1 ≤ cur.size := by omega
  unfold maxLen at hcm
  clear hrun hown hg hx hkw h1 h hf hv hvp hown2 hgc hgc2 hcs ht hne hxl hbg
  go_enter Try.func32, Try.ntmps32
  go_wp2_with fail
  refine (fits_any _ _ _ HV.out).mono ?_
  rintro e w' ⟨rfl, rfl⟩
  rw [HF.out]
  go_wp2_with (at_builtin; refine Lib.wpList_append_run _ rfl _ _ _ _ rfl _ _ rfl rfl _ _ HR.out ?_)
  refine (lay_any g1 n m _ cur v _ HG.out (by omega) (by omega) HV.out).mono ?_
  rintro e w3 ⟨rfl, cur', hg3, hlay, hkp⟩
  have HW := Lib.hid (HL.out w3 cur' hg3 hlay hkp)
  clear hg3 hlay hkp
  go_wp2_with fail
  go_ret
  exact ⟨rfl, HW.out⟩

/-- May that many bytes be set there? -/
def setB (n : Nat) (p v k : Int) : Bool := fitB v k && (decide (0 ≤ p) && decide (k ≤ (n : Int) - p))

/- left out: not in this seat -/

/- left out: not in this seat -/
end Go.Proofs.Ythipnkaghddbhaa

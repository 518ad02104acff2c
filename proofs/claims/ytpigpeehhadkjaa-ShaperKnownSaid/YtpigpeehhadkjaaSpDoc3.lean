/-
  The document's shaper: next, Next. Conditions: lanes with their numbers in their bounds.
-/
import Derived.Test.YtpigpeehhadkjaaSpDoc2
namespace Go.Proofs.Ytpigpeehhadkjaa
open Go.RowKit Bkt

/-- The class, as next tells it. -/
def clV (b : Be) : Int := if b.k = true then (b.c : Int) else -1
theorem clV_neg (b : Be) : clV b < 0 ↔ b.k = false := by
  unfold clV
  cases b.k <;> simp <;> omega
theorem Ds.abs_len (d : Ds) : d.abs.length = d.ls.length := by unfold Ds.abs; rw [List.length_map]
theorem Ds.abs_get {d : Ds} {i : Nat} {x : Dl} (hx : d.ls[i]? = some x) : d.abs.getD i az = x.ab := by
  unfold Ds.abs
  rw [List.getD_eq_getElem?_getD, List.getElem?_map, hx]
  rfl

set_option maxRecDepth 100000 in
set_option maxHeartbeats 2000000 in
/-- next: the first of the least ones, or -1. -/
theorem dnext_any (B g : Nat) (d : Ds) (w : World) (h : Dw w B g d) (ok : ∀ x ∈ d.ls, x.ab.ok d.T) (hn : d.n ≤ 8) :
    Calls Try.prog 45 #[.pointer (some ⟨g, 0, none⟩)] w (Gives w (.tuple #[.int .u64 (nx d.T d.abs).t, .int .i64 (clV (nx d.T d.abs))])) := by
  have HW := Lib.hid h
  have HOK := Lib.hid ok
  have HL : Hid (nx d.T d.abs = bestF (tn d.T d.abs) d.n) := by
    show nx d.T d.abs = _
    unfold nx
    rw [Ds.abs_len, h.len]
  rw [HL.out]
  clear HL h ok
  obtain ⟨ts, hts⟩ : ∃ z, tn d.T d.abs = z := ⟨_, rfl⟩
  have HTS : Hid (∀ i x, d.ls[i]? = some x → tuV d.T x.ab = ts i) := fun i x hx => by
    rw [← hts]
    unfold tn
    rw [Ds.abs_get hx]
  rw [hts]
  clear hts
  go_enter Try.func45, Try.ntmps45
  go_wp2_with fail
  go_loopw [4, 5, 6] (fun a c i wr => Hid (Below w.heap.size w wr) ∧ ∃ k : Nat, k ≤ d.n ∧ i = .int .i64 k ∧ ∃ t cl : Int, a = .int .u64 t ∧ c = .int .i64 cl ∧ Hid (t = (bestF ts k).t ∧ cl = clV (bestF ts k))) (fun _ _ i _ => d.n - (intOf i).toNat)
  case atStart => exact ⟨Below.refl _ _, 0, Nat.zero_le _, rfl, 0, -1, rfl, rfl, rfl, rfl⟩
  case round =>
    obtain ⟨hb, k, hk, rfl, t, cl, rfl, rfl, hz⟩ := hrel
    have c2 := (HW.out.below hb.out).c2
    by_cases hlt : k < d.n
    · obtain ⟨x, hx⟩ : ∃ x, d.ls[k]? = some x := ⟨_, List.getElem?_eq_getElem (by rw [HW.out.len]; exact hlt)⟩
      have HX := Lib.hid hx
      have hlt2 : (k : Int) < (d.n : Int) := by omega
      have hck : (k : Int) < 1000 := by omega
      clear hx
      go_wp2_with fail
      refine (dWhen_any B g d k x wr (HW.out.below hb.out) HX.out (HOK.out x (List.mem_of_getElem? HX.out))).mono ?_
      rintro e w2 ⟨rfl, hb2⟩
      have HB2 : Hid (Below w.heap.size w w2) := hb.out.trans (hb2.mono hb.out.size)
      rw [HTS.out k x HX.out]
      obtain ⟨at2, ha2⟩ : ∃ z, (ts k).at_ = z := ⟨_, rfl⟩
      obtain ⟨ev2, he2⟩ : ∃ z, (ts k).ev = z := ⟨_, rfl⟩
      rw [ha2, he2]
      have HA := Lib.hid (And.intro ha2 he2)
      clear hb hb2 ha2 he2
      by_cases hc : ev2 = true ∧ (cl < 0 ∨ at2 < t)
      · have HN : Hid (at2 = (bestF ts (k + 1)).t ∧ (k : Int) = clV (bestF ts (k + 1))) := by
          show _ ∧ _
          have hcc : (ts k).ev = true ∧ ((bestF ts k).k = false ∨ (ts k).at_ < (bestF ts k).t) := by
            rw [HA.out.1, HA.out.2, ← hz.out.1, ← clV_neg, ← hz.out.2]
            exact hc
          rw [bestF, if_pos hcc]
          exact ⟨HA.out.1.symm, rfl⟩
        obtain ⟨rfl, hc2⟩ := hc
        by_cases h1 : cl < 0
        · clear hc2
          go_wp2_with fail
          go_roundw
          case rel => exact ⟨HB2, k + 1, by omega, by go_num, _, _, rfl, rfl, HN.out⟩
          case measure => simp [intOf]; omega
        · have h2 : at2 < t := by omega
          clear hc2
          go_wp2_with fail
          go_roundw
          case rel => exact ⟨HB2, k + 1, by omega, by go_num, _, _, rfl, rfl, HN.out⟩
          case measure => simp [intOf]; omega
      · have HN : Hid (t = (bestF ts (k + 1)).t ∧ cl = clV (bestF ts (k + 1))) := by
          show _ ∧ _
          have hcc : ¬ ((ts k).ev = true ∧ ((bestF ts k).k = false ∨ (ts k).at_ < (bestF ts k).t)) := by
            rw [HA.out.1, HA.out.2, ← hz.out.1, ← clV_neg, ← hz.out.2]
            exact hc
          rw [bestF, if_neg hcc]
          exact hz.out
        cases ev2
        · clear hc
          go_wp2_with fail
          go_roundw
          case rel => exact ⟨HB2, k + 1, by omega, by go_num, _, _, rfl, rfl, HN.out⟩
          case measure => simp [intOf]; omega
        · have h1 : ¬ cl < 0 := fun e => hc ⟨rfl, .inl e⟩
          have h2 : ¬ at2 < t := fun e => hc ⟨rfl, .inr e⟩
          clear hc
          go_wp2_with fail
          go_roundw
          case rel => exact ⟨HB2, k + 1, by omega, by go_num, _, _, rfl, rfl, HN.out⟩
          case measure => simp [intOf]; omega
    · have hkn : k = d.n := by omega
      have HZ : Hid (t = (bestF ts d.n).t ∧ cl = clV (bestF ts d.n)) := by rw [← hkn]; exact hz
      have hlt2 : ¬ (k : Int) < (d.n : Int) := by omega
      clear hz hkn
      go_wp2_with fail
      go_ret2
      exact ⟨by rw [← HZ.out.1, ← HZ.out.2]; rfl, hb.out⟩

set_option maxRecDepth 100000 in
set_option maxHeartbeats 2000000 in
/-- Next, as the document has it: what the program's Next answers too. -/
theorem dNext_any (B g : Nat) (d : Ds) (w : World) (h : Dw w B g d) (ok : ∀ x ∈ d.ls, x.ab.ok d.T) (hn : d.n ≤ 8) :
    Calls Try.prog 30 #[.pointer (some ⟨g, 0, none⟩)] w (Gives w (.tuple #[.int .u64 (nx d.T d.abs).t, .bool (nx d.T d.abs).k])) := by
  have HC := dnext_any B g d w h ok hn
  clear h ok hn
  generalize nx d.T d.abs = bz at HC ⊢
  obtain ⟨c, t, k⟩ := bz
  have hc : Hid (clV ⟨c, t, k⟩ = if k = true then (c : Int) else -1) := rfl
  cases k
  · rw [hc.out] at HC
    have HC2 := Lib.hid HC
    clear HC
    go_enter Try.func30, Try.ntmps30
    go_wp2_with fail
    refine HC2.out.mono ?_
    rintro e w1 ⟨rfl, hb⟩
    have HB := Lib.hid hb
    clear hb
    go_wp2_with fail
    go_ret2
    exact ⟨rfl, HB.out⟩
  · rw [hc.out] at HC
    have HC2 := Lib.hid HC
    have h0 : (0 : Int) ≤ (c : Int) := by omega
    clear HC
    go_enter Try.func30, Try.ntmps30
    go_wp2_with fail
    refine HC2.out.mono ?_
    rintro e w1 ⟨rfl, hb⟩
    have HB := Lib.hid hb
    clear hb
    go_wp2_with fail
    go_ret2
    exact ⟨rfl, HB.out⟩
end Go.Proofs.Ytpigpeehhadkjaa

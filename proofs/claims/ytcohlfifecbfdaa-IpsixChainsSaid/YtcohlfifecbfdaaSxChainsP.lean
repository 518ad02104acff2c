/-
  IpsixChains, as it is given: for every input the call returns true, and each argument reads afterwards as it read before. No conditions.
-/
import Derived.Test.YtcohlfifecbfdaaSxChainsQ
namespace Go.Proofs.Ytcohlfifecbfdaa
open Go.ChangeShapes Go.WideShapes Go.ChangeAt Go.RowKit

set_option maxRecDepth 100000 in
theorem ipsixchains_lifted (os : Os) (started : os.Started) (H : Type) (enc : TypeId × Value → H) :
    ReturnsInHanded {} Try.checked os 4 .any (Rows.ipsixChainsSpec.pre6 enc Try.prog Try.f4 Rows.ipsixChainsRow.domain false) (Rows.ipsixChainsSpec.post enc Try.prog Try.f4 false true false false) := by
  refine returnsInHanded_of_change (C := Try.checked) own started (by kernel_rfl) Try.func4
    (ChangeSpec.witness6 (enc := enc) (C := Try.checked) false ⟨#[], #[.agg #[.slice none 0 0, .int .u8 0], .agg #[.slice none 0 0, .int .u8 0]], []⟩ 8 (by kernel_rfl) (by kernel_rfl) (by kernel_rfl) (by kernel_rfl)) ?_
  intro W base args ds gs before hval0 hW hcnd _
  have hval : ∀ (j : Nat) t v, Try.f4.params[j]? = some t → args[j]? = some v → Value.okWide Try.prog W .any base t v := hval0
  have hW' := hW
  obtain ⟨p, q, hA0, hV, rfl, hfz, hnd⟩ := hW
  have hA : DataW.TrodAll enc Try.prog W 0 (fun _ => true) true Try.f4.params.toList args.toList ds p := hA0
  rw [Try.params4] at hA hval
  obtain ⟨v0, vs0, d0, ds0, p0, q0, hargs, rfl, rfl, h0, r0⟩ := trodAll_cons hA
  obtain ⟨v1, vs1, d1, ds1, p1, q1, rfl, rfl, rfl, h1, r1⟩ := trodAll_cons r0
  obtain ⟨rfl, rfl, rfl⟩ := trodAll_nil r1
  obtain rfl : args = #[v0, v1] := by cases args; simp_all
  obtain ⟨rfl, rfl⟩ := trodVars_none hV
  obtain ⟨cs0, rfl, _⟩ := okWide_struct Try.underlying46 (hval 0 46 v0 rfl rfl)
  have k0 := h0
  have lt0 : ∀ x ∈ p0, x.block < W.heap.size := by obtain ⟨m, hm⟩ := k0; exact DataW.trod_lt m _ _ _ hm
  obtain ⟨a0, len0, cap0, es0, pr0, hc0, ok0, lo0, hi0⟩ : ∃ a n c es p, cs0 = #[.slice a n c, .int .u8 p] ∧ Ch0 W a n c es ∧ 0 ≤ p ∧ p < 256 := by
    obtain ⟨fuel, hf⟩ := h0
    obtain ⟨a, n, c, es, p, e, ok, h0, h1⟩ := open_chain hf (fun _ => rfl)
    have e2 : cs0.toList = [.slice a n c, .int .u8 p] := e
    exact ⟨a, n, c, es, p, by rw [← Array.toArray_toList (xs := cs0), e2], ok, h0, h1⟩
  subst hc0
  obtain ⟨cs1, rfl, _⟩ := okWide_struct Try.underlying46 (hval 1 46 v1 rfl rfl)
  have k1 := h1
  have lt1 : ∀ x ∈ p1, x.block < W.heap.size := by obtain ⟨m, hm⟩ := k1; exact DataW.trod_lt m _ _ _ hm
  obtain ⟨a1, len1, cap1, es1, pr1, hc1, ok1, lo1, hi1⟩ : ∃ a n c es p, cs1 = #[.slice a n c, .int .u8 p] ∧ Ch0 W a n c es ∧ 0 ≤ p ∧ p < 256 := by
    obtain ⟨fuel, hf⟩ := h1
    obtain ⟨a, n, c, es, p, e, ok, h0, h1⟩ := open_chain hf (fun _ => rfl)
    have e2 : cs1.toList = [.slice a n c, .int .u8 p] := e
    exact ⟨a, n, c, es, p, by rw [← Array.toArray_toList (xs := cs1), e2], ok, h0, h1⟩
  subst hc1
  clear hA0 hval0
  refine (ipsixchains_any a0 len0 cap0 es0 pr0 a1 len1 cap1 es1 pr1 W ok0 lo0 hi0 ok1 lo1 hi1).mono fun e W' ⟨he, bel⟩ => ?_
  subst he
  exact ⟨_, rfl, _, _, _, [], _, [], hW', trodAll_mk1 (shut_bool Try.underlying4 _), (trodAll_cons_mk (Below.trod laidOut (by kernel_rfl) (of_decide_eq_true (by kernel_rfl)) k0 bel lt0) (trodAll_cons_mk (Below.trod laidOut (by kernel_rfl) (of_decide_eq_true (by kernel_rfl)) k1 bel lt1) trodAll_mk0)), rfl, bel.frame _, fun h => by cases h⟩

theorem ipsixchains_holds : Rows.IpsixChainsSaid :=
  OpenClaim.holds_of_wide 4 Try.f4 rfl rfl rfl rfl rfl rfl rfl ⟨rfl, rfl, rfl, rfl, rfl⟩ rfl rfl rfl rfl rfl (by kernel_rfl) Try.func4 (by kernel_rfl)
    (of_decide_eq_true (by kernel_rfl)) (by unfold Func.isWrapper; first | (rw [if_pos (by decide +kernel)]; kernel_rfl) | (rw [if_neg (by decide +kernel)]; exact ⟨rfl, rfl⟩))
    (fun os started H enc _ => ipsixchains_lifted os started H enc)
#print axioms ipsixchains_holds
end Go.Proofs.Ytcohlfifecbfdaa

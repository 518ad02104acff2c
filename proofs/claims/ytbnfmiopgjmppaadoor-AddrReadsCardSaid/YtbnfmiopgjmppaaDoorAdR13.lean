/-
  The contract of the document's own Parse. Condition: a text of at most 1000 bytes. (Made by gen_adr13.py.)
-/
import Derived.Test.YtbnfmiopgjmppaaDoorAdR12
namespace Go.Proofs.YtbnfmiopgjmppaaDoor
open Go.RowKit

theorem restD_some {vs : List Nat} {x : Tx} {ps : List Tx} {v : Nat} (h : decO x = some v) : restO vs (allO decO (x :: ps)) = restO (vs ++ [v]) (allO decO ps) := by
  rw [allO, h]
  cases allO decO ps <;> simp [restO]
theorem restD_none {vs : List Nat} {x : Tx} {ps : List Tx} (h : decO x = none) : restO vs (allO decO (x :: ps)) = none := by
  rw [allO, h]
  rfl
theorem wp_sqT {P : Program} {a : Act} {w : World} {R : Act → World → Prop} {Q : Exit → Act → World → Prop} {c x y : Code} (hc : c = .seq x y) (h1 : x.wp P (Exit.then R Q) a w) (h2 : ∀ a' w', R a' w' → y.wp P Q a' w') : c.wp P Q a w := by
  subst hc
  refine wp_seq (wp_mono h1 ?_)
  intro e a' w' hq
  cases e with
  | normal => exact h2 _ _ hq
  | exit id => exact hq
  | goto l => exact hq
  | ret => exact hq
  | panic ch => exact hq
  | outgrown => exact hq
/-- The bytes that are read so far. -/
def sf (vs : List Nat) : List Int := vs.map (fun v : Nat => (v : Int)) ++ zs (16 - vs.length)
theorem sf_len {vs : List Nat} (h : vs.length ≤ 16) : (sf vs).length = 16 := by simp [sf, zs]; omega
theorem sf_set {vs : List Nat} {v k : Nat} (hk : vs.length = k) (h : k < 16) : (sf vs).set k (v : Int) = sf (vs ++ [v]) := by
  have hz : zs (16 - k) = 0 :: zs (16 - (k + 1)) := by
    rw [show 16 - k = (16 - (k + 1)) + 1 by omega]; rfl
  unfold sf
  rw [List.length_append, hk, hz, List.set_append_right _ _ (by simp [hk]), List.length_map, hk, Nat.sub_self]
  simp

set_option maxRecDepth 100000 in
set_option maxHeartbeats 4000000 in
theorem q15 (l : Tx) (gO g7 base cC : Nat) (aC : Option Addr) (ps : List Tx) (vs : List Nat) (w wr : World) (hv : vs.length = 4) (HP : Hid (parse6 l = none ∧ parse4 l = some vs)) (HF : Hid (Pf w wr gO g7 base aC cC ps (sf vs))) (a : Act) (hf : Fr 54 a) (h2 : sl a 2 = .pointer (some ⟨gO, 0, none⟩)) (h7 : sl a 7 = .pointer (some ⟨g7, 0, none⟩)) :
    Code.wp Tryd.prog (cAt [1,1,1,1,1,1,1] K22) (bodyPost Tryd.prog Tryd.f22 (PaR w l)) a wr := by
  obtain ⟨f, ha, hs⟩ := fr54 hf
  have e2 := (hs 2).trans h2
  have e7 := (hs 7).trans h7
  rw [e2, e7] at ha
  clear hs hf e2 h2 e7 h7
  subst ha
  conv => arg 2; whnf
  have H16 : Hid ((sf vs).length = 16) := sf_len (by omega)
  have HE : Hid (PaR w l (.returned (.tuple #[.agg (adl false (sf vs)).toArray, .int .i64 0])) (wr.setCells gO 0 (adl false (sf vs)))) := by
    refine ⟨Below.setCells HF.out.pb.below gO HF.out.pb.og _ _, .inr (.inl ⟨HP.out.1, vs, HP.out.2, ?_⟩)⟩
    unfold sf fbI
    rw [hv]
  obtain ⟨ys, hys⟩ : ∃ ys, sf vs = ys := ⟨_, rfl⟩
  rw [hys] at HF H16 HE
  clear hys hv
  go_wp2_with (first
    | (refine ldRg (.tmp 7) rfl (by rfl) g7 0 rfl false ys H16.out (by with_reducible exact HF.out.row) ?_)
    | (refine stR (.tmp 2) (.tmp 53) rfl rfl gO 0 false ys rfl rfl H16.out HF.out.pb.out ?_))
  refine bodyPost_ret (ret_midT rfl _ _ gO 0 (adl false ys) _ rfl (World.rangeAt_setCells_same _ _ _ _ (by have := HF.out.pb.out; rwa [adl_len _ _ H16.out])) Tryd.underlying27 rfl (infR.trans (by rw [adl_len _ _ H16.out]))) rfl ?_
  exact HE.out

set_option maxRecDepth 100000 in
set_option maxHeartbeats 4000000 in
theorem parseLoop (l : Tx) (gO g7 base cC : Nat) (aC : Option Addr) (w wr : World) (hl : l.length ≤ 1000) (h4 : (cuts 46 l).length = 4) (h6 : parse6 l = none) (HF : Pf w wr gO g7 base aC cC (cuts 46 l) (zs 16)) (a : Act) (hf : Fr 54 a) (h2 : sl a 2 = .pointer (some ⟨gO, 0, none⟩)) (h6' : sl a 6 = .slice aC 4 cC) (h7 : sl a 7 = .pointer (some ⟨g7, 0, none⟩)) (h8 : sl a 8 = .int .i64 0) :
    Code.wp Tryd.prog (cAt [1,1,1,1,1,1,0,1] K22) (Exit.then (fun a' w' => ∃ vs : List Nat, Fr 54 a' ∧ sl a' 2 = .pointer (some ⟨gO, 0, none⟩) ∧ sl a' 7 = .pointer (some ⟨g7, 0, none⟩) ∧ vs.length = 4 ∧ parse4 l = some vs ∧ Pf w w' gO g7 base aC cC (cuts 46 l) (sf vs)) (bodyPost Tryd.prog Tryd.f22 (PaR w l))) a wr := by
  refine wp_blockR (x := cAt [1,1,1,1,1,1,0,1,2] K22) (id := 0) (by kernel_rfl) ?_
  refine wp_loopR (x := cAt [1,1,1,1,1,1,0,1,2,2] K22) (by kernel_rfl) (fun a' w' => ∃ (k : Nat) (vs : List Nat), Fr 54 a' ∧ sl a' 2 = .pointer (some ⟨gO, 0, none⟩) ∧ sl a' 6 = .slice aC 4 cC ∧ sl a' 7 = .pointer (some ⟨g7, 0, none⟩) ∧ sl a' 8 = .int .i64 (k : Int) ∧ k ≤ 4 ∧ vs.length = k ∧ parse4 l = restO vs (allO decO ((cuts 46 l).drop k)) ∧ Pf w w' gO g7 base aC cC (cuts 46 l) (sf vs)) (fun a' _ => 4 - (intOf (sl a' 8)).toNat) ⟨0, [], hf, h2, h6', h7, h8, by omega, rfl, by
    unfold parse4
    rw [if_pos h4, List.drop_zero]
    cases allO decO (cuts 46 l) <;> simp [restO], HF⟩ ?_
  rintro a' w' ⟨k, vs, hf, h2, h6', h7, h8, hk, hvs, hp4, hpf⟩
  by_cases hlt : k < 4
  · obtain ⟨x, hx⟩ : ∃ x, (cuts 46 l)[k]? = some x := ⟨_, List.getElem?_eq_getElem (by omega)⟩
    have hxl : x.length ≤ 1000 := by have := (cuts_len 46 l).2 x (List.mem_of_getElem? hx); omega
    have hdr : (cuts 46 l).drop k = x :: (cuts 46 l).drop (k + 1) := by
      rw [List.drop_eq_getElem_cons (by omega)]; congr 1; exact (List.getElem?_eq_some_iff.1 hx).2
    rw [hdr] at hp4
    rcases dec_case x with ⟨v, hd, hv, hn, hdd⟩ | ⟨hd, n, hv, hor⟩
    · refine wp_endR (qy gO g7 base cC k aC (cuts 46 l) (sf vs) x w w' hlt hxl hx hpf v (sf_len (by omega)) hv hn hdd a' hf h2 h6' h7 h8) ?_
      rintro b2 w2 ⟨hf', h2', h6'', h7', h8', hpf'⟩
      rw [sf_set hvs (by omega)] at hpf'
      refine ⟨⟨k + 1, vs ++ [v], hf', h2', h6'', h7', by rw [h8']; rfl, by omega, by simp [hvs], by rw [hp4, restD_some hd], hpf'⟩, ?_⟩
      rw [h8, h8']
      simp only [intOf]
      omega
    · have hno : parse4 l = none := by rw [hp4, restD_none hd]
      rcases hor with hn | ⟨hn, hne⟩
      · refine wp_endT (qn1 l gO g7 base cC k aC (cuts 46 l) (sf vs) x w w' hlt hxl hx hpf n hn ⟨h6, hno⟩ a' hf h2 h6' h7 h8) ?_
        intro a2 w2 hq
        exact hq
      · refine wp_endT (qn2 l gO g7 base cC k aC (cuts 46 l) (sf vs) x w w' hlt hxl hx hpf n hv (digT 3 10 n) hn rfl (by simpa using hne) ⟨h6, hno⟩ a' hf h2 h6' h7 h8) ?_
        intro a2 w2 hq
        exact hq
  · have hkn : k = 4 := by omega
    rw [hkn] at h8 hp4 hvs
    refine wp_endX (qx gO g7 cC aC w' a' hf h2 h6' h7 h8) ?_
    rintro b2 _ ⟨hf', h2', h7', rfl⟩
    refine thru ?_
    refine ⟨vs, hf', h2', h7', hvs, ?_, hpf⟩
    rw [hp4, List.drop_of_length_le (by omega)]
    simp [allO, restO]

set_option maxRecDepth 100000 in
set_option maxHeartbeats 4000000 in
theorem r4Parse_any (l : Tx) (w : World) (hl : l.length ≤ 1000) : Calls Tryd.prog 22 #[.string ⟨l.toArray⟩] w (PaR w l) := by
  refine calls_of_wp (c := K22) Tryd.func22 (by kernel_rfl) ?_
  have hf : Fr 54 { tmps := #[.string ⟨l.toArray⟩] ++ Array.replicate (Tryd.f22.ntmps - (#[.string ⟨l.toArray⟩] : Array Value).size) undef, defers := [] } := ⟨rfl, by rw [Tryd.ntmps22]; simp⟩
  refine wp_sqR (x := cAt [0] K22) (y := cAt [1] K22) (by kernel_rfl) (q0 l w _ hf (sl_arg _ _ 0 _ rfl)) ?_
  rintro a0 w0 ⟨gO, hf, h0, h2, hp⟩
  refine wp_sqR (x := cAt [1,0] K22) (y := cAt [1,1] K22) (by kernel_rfl) (q1 l gO w w0 hl hp a0 hf h0 h2) ?_
  clear hp
  rintro a1 w1 ⟨g4, ok, hf, h0, h2, h4, h5, hp, hsix⟩
  rcases hsix with ⟨rfl, gs, hg, hrow⟩ | ⟨rfl, hg⟩
  · exact q2yes l gO g4 gs w w1 hp ⟨hg, hrow⟩ a1 hf h0 h2 h4 h5
  refine wp_sqR (x := cAt [1,1,0] K22) (y := cAt [1,1,1] K22) (by kernel_rfl) (q2no l gO g4 w1 a1 hf h0 h2 h4 h5) ?_
  rintro a2 _ ⟨hf, h0, h2, rfl⟩
  refine wp_sqR (x := cAt [1,1,1,0] K22) (y := cAt [1,1,1,1] K22) (by kernel_rfl) (q4 l gO w w1 hl hp a2 hf h0 h2) ?_
  clear hp
  rintro a3 w3 ⟨aC, nC, cC, hf, h2, h6, hp, hown⟩
  have hnC : (cuts 46 l).length = nC := OwnT.len hown
  by_cases hn4 : nC = 4
  · rw [hn4] at h6 hown hnC
    refine wp_sqR (x := cAt [1,1,1,1,0] K22) (y := cAt [1,1,1,1,1] K22) (by kernel_rfl) (q5 gO cC aC w3 a3 hf h2 h6) ?_
    rintro a4 _ ⟨hf, h2, h6, rfl⟩
    refine wp_sqR (x := cAt [1,1,1,1,1,0] K22) (y := cAt [1,1,1,1,1,1] K22) (by kernel_rfl) (q7 gO w1.heap.size cC aC (cuts 46 l) w w3 ⟨hp, hown⟩ a4 hf h2 h6) ?_
    rintro a5 w5 ⟨g7, hf, h2, h6, h7, hpf⟩
    refine wp_sqT (x := cAt [1,1,1,1,1,1,0] K22) (y := cAt [1,1,1,1,1,1,1] K22) (R := fun a' w' => ∃ vs : List Nat, Fr 54 a' ∧ sl a' 2 = .pointer (some ⟨gO, 0, none⟩) ∧ sl a' 7 = .pointer (some ⟨g7, 0, none⟩) ∧ vs.length = 4 ∧ parse4 l = some vs ∧ Pf w w' gO g7 w1.heap.size aC cC (cuts 46 l) (sf vs)) (by kernel_rfl) ?_ ?_
    · refine wp_sqR (x := cAt [1,1,1,1,1,1,0,0] K22) (y := cAt [1,1,1,1,1,1,0,1] K22) (by kernel_rfl) (q8 gO g7 cC aC w5 a5 hf h2 h6 h7) ?_
      rintro a6 _ ⟨hf, h2, h6, h7, h8, rfl⟩
      exact parseLoop l gO g7 w1.heap.size cC aC w w5 hl hnC hg hpf a6 hf h2 h6 h7 h8
    · rintro a6 w6 ⟨vs, hf, h2, h7, hv, hy, hpf⟩
      exact q15 l gO g7 w1.heap.size cC aC (cuts 46 l) vs w w6 hv ⟨hg, hy⟩ hpf a6 hf h2 h7
  · exact q5no l gO nC cC aC w w3 hp hn4 ⟨hg, by unfold parse4; rw [if_neg (by omega)]⟩ a3 hf h2 h6
end Go.Proofs.YtbnfmiopgjmppaaDoor

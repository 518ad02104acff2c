/-
  The document's own Parse in pieces. Condition: a text of at most 1000 bytes. (Made by gen_adr11.py.)
-/
import Derived.Test.YtbnfmiopgjmppaaDoorAdR10
namespace Go.Proofs.YtbnfmiopgjmppaaDoor
open Go.RowKit

/-- Four bytes, as an address holds them. -/
def fbI (ds : List Nat) : List Int := ds.map (fun v : Nat => (v : Int)) ++ zs 12
/-- What Parse answers. -/
def PaR (w : World) (l : Tx) (e : Ending) (w' : World) : Prop :=
  Below w.heap.size w w' ∧ ((∃ gs, parse6 l = some gs ∧ e = .returned (.tuple #[.agg (adl true (gbI gs)).toArray, .int .i64 0])) ∨ (parse6 l = none ∧ ∃ ds, parse4 l = some ds ∧ e = .returned (.tuple #[.agg (adl false (fbI ds)).toArray, .int .i64 0])) ∨ (parse6 l = none ∧ parse4 l = none ∧ e = .returned (.tuple #[.agg (adl false (zs 16)).toArray, .int .i64 40])))
/-- The result's place, and what is known of the six. -/
structure Pb (w wr : World) (gO : Nat) : Prop where
  out : wr.there gO 0 17
  below : Below w.heap.size w wr
  og : w.heap.size ≤ gO
  sz : gO < wr.heap.size
theorem Pb.step {w wr w1 : World} {gO : Nat} (h : Pb w wr gO) (hb : Below wr.heap.size wr w1) : Pb w w1 gO :=
  ⟨there_kpt hb h.out, h.below.trans (hb.mono h.below.size), h.og, Nat.lt_of_lt_of_le h.sz hb.size⟩
noncomputable def K22 : Code := Tryd.f22.body.getD .skip
set_option maxRecDepth 100000 in
theorem fr54 {a : Act} (h : Fr 54 a) : ∃ f : Nat → Value, a = ⟨#[f 0, f 1, f 2, f 3, f 4, f 5, f 6, f 7, f 8, f 9, f 10, f 11, f 12, f 13, f 14, f 15, f 16, f 17, f 18, f 19, f 20, f 21, f 22, f 23, f 24, f 25, f 26, f 27, f 28, f 29, f 30, f 31, f 32, f 33, f 34, f 35, f 36, f 37, f 38, f 39, f 40, f 41, f 42, f 43, f 44, f 45, f 46, f 47, f 48, f 49, f 50, f 51, f 52, f 53], []⟩ ∧ ∀ i, f i = sl a i := fr_any h
theorem gbI_fit {l : Tx} {gs : List Nat} (h : parse6 l = some gs) : gs.length = 8 := by
  unfold parse6 at h
  split at h
  · split at h
    · split at h
      · simp at h; subst h; simp; omega
      · cases h
    · cases h
  · split at h
    · split at h
      · simp at h; subst h; assumption
      · cases h
    · cases h
set_option maxRecDepth 100000 in
set_option maxHeartbeats 4000000 in
theorem q0 (l : Tx) (w : World) (a : Act) (hf : Fr 54 a) (h0 : sl a 0 = .string ⟨l.toArray⟩) :
    Code.wp Tryd.prog (cAt [0] K22) (Exit.then (fun a' w' => ∃ gO, Fr 54 a' ∧ sl a' 0 = .string ⟨l.toArray⟩ ∧ sl a' 2 = .pointer (some ⟨gO, 0, none⟩) ∧ Pb w w' gO) Nope) a w := by
  obtain ⟨f, ha, hs⟩ := fr54 hf
  have e0 := (hs 0).trans h0
  rw [e0] at ha
  clear hs hf e0 h0
  subst ha
  refine piece2 fun J0 K0 hJ0 hK0 => ?_
  conv => arg 2; whnf
  have HA : Hid (Pb w (w.alloc (.cells (adl false (zs 16)).toArray 27)) w.heap.size) := ⟨(Ab.new w false (zs 16)).there rfl, (Below.refl _ _).alloc (Nat.le_refl _) _, Nat.le_refl _, by simp⟩
  go_wp2_with fail
  refine Met.intro (hJ0 _ _ ?_)
  exact ⟨_, ⟨rfl, rfl⟩, rfl, rfl, HA.out⟩

set_option maxRecDepth 100000 in
set_option maxHeartbeats 4000000 in
theorem q1 (l : Tx) (gO : Nat) (w wr : World) (hl : l.length ≤ 1000) (HA : Hid (Pb w wr gO)) (a : Act) (hf : Fr 54 a) (h0 : sl a 0 = .string ⟨l.toArray⟩) (h2 : sl a 2 = .pointer (some ⟨gO, 0, none⟩)) :
    Code.wp Tryd.prog (cAt [1,0] K22) (Exit.then (fun a' w' => ∃ g4 ok, Fr 54 a' ∧ sl a' 0 = .string ⟨l.toArray⟩ ∧ sl a' 2 = .pointer (some ⟨gO, 0, none⟩) ∧ sl a' 4 = .pointer (some ⟨g4, 0, none⟩) ∧ sl a' 5 = .bool ok ∧ Pb w w' gO ∧ ((ok = true ∧ ∃ gs, parse6 l = some gs ∧ w'.rangeAt g4 0 (adl true (gbI gs))) ∨ (ok = false ∧ parse6 l = none))) Nope) a wr := by
  obtain ⟨f, ha, hs⟩ := fr54 hf
  have e0 := (hs 0).trans h0
  have e2 := (hs 2).trans h2
  rw [e0, e2] at ha
  clear hs hf e0 h0 e2 h2
  subst ha
  refine piece2 fun J0 K0 hJ0 hK0 => ?_
  conv => arg 2; whnf
  go_wp2_with fail
  refine (r4six_any l _ hl).mono ?_
  rintro e w1 ⟨hb1, hR⟩
  have hp1 := HA.out.step hb1
  rcases hR with ⟨gs, hg, rfl⟩ | ⟨hg, rfl⟩
  · have H16 : Hid ((gbI gs).length = 16) := gbI_len (gbI_fit hg)
    have HT : Hid ((w1.alloc (.cells (adl false (zs 16)).toArray 27)).there w1.heap.size 0 17) := there_new _ _ _ _ rfl _ rfl
    have HX : Hid (Pb w ((w1.alloc (.cells (adl false (zs 16)).toArray 27)).setCells w1.heap.size 0 (adl true (gbI gs))) gO ∧ parse6 l = some gs) := ⟨hp1.step (Below.setCells ((Below.refl _ _).alloc (Nat.le_refl _) _) _ (Nat.le_refl _) _ _), hg⟩
    have HR : Hid (((w1.alloc (.cells (adl false (zs 16)).toArray 27)).setCells w1.heap.size 0 (adl true (gbI gs))).rangeAt w1.heap.size 0 (adl true (gbI gs))) := World.rangeAt_setCells_same _ _ _ _ (by rw [adl_len _ _ H16.out]; exact HT.out)
    clear hb1 hg hp1
    go_wp2_with (refine stR (.tmp 4) (.tmp 14) rfl rfl _ 0 true (gbI gs) rfl rfl H16.out HT.out ?_)
    refine Met.intro (hJ0 _ _ ?_)
    exact ⟨_, true, ⟨rfl, rfl⟩, rfl, rfl, rfl, rfl, HX.out.1, .inl ⟨rfl, gs, HX.out.2, HR.out⟩⟩
  · have HT : Hid ((w1.alloc (.cells (adl false (zs 16)).toArray 27)).there w1.heap.size 0 17) := there_new _ _ _ _ rfl _ rfl
    have HX : Hid (Pb w ((w1.alloc (.cells (adl false (zs 16)).toArray 27)).setCells w1.heap.size 0 (adl false (zs 16))) gO ∧ parse6 l = none) := ⟨hp1.step (Below.setCells ((Below.refl _ _).alloc (Nat.le_refl _) _) _ (Nat.le_refl _) _ _), hg⟩
    clear hb1 hg hp1
    go_wp2_with (refine stR (.tmp 4) (.tmp 14) rfl rfl _ 0 false (zs 16) rfl rfl rfl HT.out ?_)
    refine Met.intro (hJ0 _ _ ?_)
    exact ⟨_, false, ⟨rfl, rfl⟩, rfl, rfl, rfl, rfl, HX.out.1, .inr ⟨rfl, HX.out.2⟩⟩

set_option maxRecDepth 100000 in
set_option maxHeartbeats 4000000 in
theorem q2yes (l : Tx) (gO g4 : Nat) (gs : List Nat) (w wr : World) (HA : Hid (Pb w wr gO)) (HG : Hid (parse6 l = some gs ∧ wr.rangeAt g4 0 (adl true (gbI gs)))) (a : Act) (hf : Fr 54 a) (h0 : sl a 0 = .string ⟨l.toArray⟩) (h2 : sl a 2 = .pointer (some ⟨gO, 0, none⟩)) (h4 : sl a 4 = .pointer (some ⟨g4, 0, none⟩)) (h5 : sl a 5 = .bool true) :
    Code.wp Tryd.prog (cAt [1,1] K22) (bodyPost Tryd.prog Tryd.f22 (PaR w l)) a wr := by
  obtain ⟨f, ha, hs⟩ := fr54 hf
  have e0 := (hs 0).trans h0
  have e2 := (hs 2).trans h2
  have e4 := (hs 4).trans h4
  have e5 := (hs 5).trans h5
  rw [e0, e2, e4, e5] at ha
  clear hs hf e0 h0 e2 h2 e4 h4 e5 h5
  subst ha
  conv => arg 2; whnf
  have H16 : Hid ((gbI gs).length = 16) := gbI_len (gbI_fit HG.out.1)
  go_wp2_with (first
    | (refine ldRg (.tmp 4) rfl (by rfl) g4 0 rfl true (gbI gs) H16.out (by with_reducible exact HG.out.2) ?_)
    | (refine stR (.tmp 2) (.tmp 17) rfl rfl gO 0 true (gbI gs) rfl rfl H16.out HA.out.out ?_))
  refine bodyPost_ret (ret_midT rfl _ _ gO 0 (adl true (gbI gs)) _ rfl (World.rangeAt_setCells_same _ _ _ _ (by have := HA.out.out; rwa [adl_len _ _ H16.out])) Tryd.underlying27 rfl (infR.trans (by rw [adl_len _ _ H16.out]))) rfl ?_
  exact ⟨Below.setCells HA.out.below gO HA.out.og _ _, .inl ⟨gs, HG.out.1, rfl⟩⟩
set_option maxRecDepth 100000 in
set_option maxHeartbeats 4000000 in
theorem q2no (l : Tx) (gO g4 : Nat) (wr : World) (a : Act) (hf : Fr 54 a) (h0 : sl a 0 = .string ⟨l.toArray⟩) (h2 : sl a 2 = .pointer (some ⟨gO, 0, none⟩)) (h4 : sl a 4 = .pointer (some ⟨g4, 0, none⟩)) (h5 : sl a 5 = .bool false) :
    Code.wp Tryd.prog (cAt [1,1,0] K22) (Exit.then (fun a' w' => Fr 54 a' ∧ sl a' 0 = .string ⟨l.toArray⟩ ∧ sl a' 2 = .pointer (some ⟨gO, 0, none⟩) ∧ wr = w') Nope) a wr := by
  obtain ⟨f, ha, hs⟩ := fr54 hf
  have e0 := (hs 0).trans h0
  have e2 := (hs 2).trans h2
  have e4 := (hs 4).trans h4
  have e5 := (hs 5).trans h5
  rw [e0, e2, e4, e5] at ha
  clear hs hf e0 h0 e2 h2 e4 h4 e5 h5
  subst ha
  refine piece2 fun J0 K0 hJ0 hK0 => ?_
  conv => arg 2; whnf
  go_wp2_with fail
  refine Met.intro (hJ0 _ _ ?_)
  exact ⟨⟨rfl, rfl⟩, rfl, rfl, rfl⟩

set_option maxRecDepth 100000 in
set_option maxHeartbeats 4000000 in
theorem q4 (l : Tx) (gO : Nat) (w wr : World) (hl : l.length ≤ 1000) (HA : Hid (Pb w wr gO)) (a : Act) (hf : Fr 54 a) (h0 : sl a 0 = .string ⟨l.toArray⟩) (h2 : sl a 2 = .pointer (some ⟨gO, 0, none⟩)) :
    Code.wp Tryd.prog (cAt [1,1,1,0] K22) (Exit.then (fun a' w' => ∃ aC nC cC, Fr 54 a' ∧ sl a' 2 = .pointer (some ⟨gO, 0, none⟩) ∧ sl a' 6 = .slice aC nC cC ∧ Pb w w' gO ∧ OwnT w' wr.heap.size aC nC cC (cuts 46 l)) Nope) a wr := by
  obtain ⟨f, ha, hs⟩ := fr54 hf
  have e0 := (hs 0).trans h0
  have e2 := (hs 2).trans h2
  rw [e0, e2] at ha
  clear hs hf e0 h0 e2 h2
  subst ha
  refine piece2 fun J0 K0 hJ0 hK0 => ?_
  conv => arg 2; whnf
  go_wp2_with fail
  refine (r4Cuts_any 46 l _ hl).mono ?_
  rintro e w1 hR
  obtain ⟨aC, nC, cC, rfl, ho, hb1⟩ := hR
  have HX : Hid (Pb w w1 gO ∧ OwnT w1 wr.heap.size aC nC cC (cuts 46 l)) := ⟨HA.out.step hb1, ho⟩
  clear hb1 ho
  go_wp2_with fail
  refine Met.intro (hJ0 _ _ ?_)
  exact ⟨aC, nC, cC, ⟨rfl, rfl⟩, rfl, rfl, HX.out.1, HX.out.2⟩

set_option maxRecDepth 100000 in
set_option maxHeartbeats 4000000 in
theorem q5no (l : Tx) (gO nC cC : Nat) (aC : Option Addr) (w wr : World) (HA : Hid (Pb w wr gO)) (hn : nC ≠ 4) (HG : Hid (parse6 l = none ∧ parse4 l = none)) (a : Act) (hf : Fr 54 a) (h2 : sl a 2 = .pointer (some ⟨gO, 0, none⟩)) (h6 : sl a 6 = .slice aC nC cC) :
    Code.wp Tryd.prog (cAt [1,1,1,1] K22) (bodyPost Tryd.prog Tryd.f22 (PaR w l)) a wr := by
  obtain ⟨f, ha, hs⟩ := fr54 hf
  have e2 := (hs 2).trans h2
  have e6 := (hs 6).trans h6
  rw [e2, e6] at ha
  clear hs hf e2 h2 e6 h6
  subst ha
  conv => arg 2; whnf
  have q3 : ((nC : Int) != 4) = true := by simp; omega
  clear hn
  go_wp2_with (first
    | (refine wpList_build_run (cells := (adl false (zs 16)).toArray) rfl 27 #[] rfl ?_ ?_; · exact built0)
    | (refine stR (.tmp 2) (.tmp 23) rfl rfl gO 0 false (zs 16) rfl rfl rfl HA.out.out ?_))
  refine bodyPost_ret (ret_midT rfl _ _ gO 0 (adl false (zs 16)) _ rfl (World.rangeAt_setCells_same _ _ _ _ HA.out.out) Tryd.underlying27 rfl infR) rfl ?_
  exact ⟨Below.setCells HA.out.below gO HA.out.og _ _, .inr (.inr ⟨HG.out.1, HG.out.2, rfl⟩)⟩
set_option maxRecDepth 100000 in
set_option maxHeartbeats 4000000 in
theorem q5 (gO cC : Nat) (aC : Option Addr) (wr : World) (a : Act) (hf : Fr 54 a) (h2 : sl a 2 = .pointer (some ⟨gO, 0, none⟩)) (h6 : sl a 6 = .slice aC 4 cC) :
    Code.wp Tryd.prog (cAt [1,1,1,1,0] K22) (Exit.then (fun a' w' => Fr 54 a' ∧ sl a' 2 = .pointer (some ⟨gO, 0, none⟩) ∧ sl a' 6 = .slice aC 4 cC ∧ wr = w') Nope) a wr := by
  obtain ⟨f, ha, hs⟩ := fr54 hf
  have e2 := (hs 2).trans h2
  have e6 := (hs 6).trans h6
  rw [e2, e6] at ha
  clear hs hf e2 h2 e6 h6
  subst ha
  refine piece2 fun J0 K0 hJ0 hK0 => ?_
  conv => arg 2; whnf
  go_wp2_with fail
  refine Met.intro (hJ0 _ _ ?_)
  exact ⟨⟨rfl, rfl⟩, rfl, rfl, rfl⟩

end Go.Proofs.YtbnfmiopgjmppaaDoor

/-
  The document's own Parse, its loop, and put together. Condition: a text of at most 1000 bytes. (Made by gen_adr12.py.)
-/
import Derived.Test.YtbnfmiopgjmppaaDoorAdR11
import Derived.Deep.QuietTactic
import Derived.BigQuiet
namespace Go.Proofs.YtbnfmiopgjmppaaDoor
open Go.RowKit

/-- Out by a return. -/
def Rets (w : World) (l : Tx) (e : Exit) (a : Act) (wr : World) : Prop := e = .ret ∧ bodyPost Tryd.prog Tryd.f22 (PaR w l) .ret a wr
theorem wp_endT {x : Code} {w wr : World} {l : Tx} {a : Act} {Q : Exit → Act → World → Prop} (h1 : x.wp Tryd.prog (Rets w l) a wr) (h2 : ∀ a' w', bodyPost Tryd.prog Tryd.f22 (PaR w l) .ret a' w' → Q .ret a' w') : x.wp Tryd.prog Q a wr := by
  refine wp_mono h1 ?_
  rintro e a' w' ⟨rfl, hq⟩
  exact h2 _ _ hq
structure Pf (w wr : World) (gO g7 base : Nat) (aC : Option Addr) (cC : Nat) (ps : List Tx) (ys : List Int) : Prop where
  pb : Pb w wr gO
  row : wr.rangeAt g7 0 (adl false ys)
  th : wr.there g7 0 17
  own : OwnT wr base aC 4 cC ps
  ne : gO < g7
  ap : ∀ k, blk aC = some k → k < g7
theorem Pf.set {w wr : World} {gO g7 base cC : Nat} {aC : Option Addr} {ps : List Tx} {ys : List Int} (h : Pf w wr gO g7 base aC cC ps ys) (hl : ys.length = 16) {j : Nat} (hj : j < 16) (z : Int) : Pf w (wr.setCell ⟨g7, 1 + j, none⟩ (.int .u8 z)) gO g7 base aC cC ps (ys.set j z) := by
  have hk := Kept.setCell (S := fun x => x = g7) wr ⟨g7, 1 + j, none⟩ (.int .u8 z) rfl
  refine ⟨⟨there_keep hk (by have := h.ne; omega) h.pb.out, h.pb.below.trans (hk.below h.pb.below.size (fun k e => by have := h.ne; have := h.pb.og; omega)), h.pb.og, Nat.lt_of_lt_of_le h.pb.sz hk.size⟩, ?_, World.there_setCells h.th _ _ [.int .u8 z], OwnG.keep h.own hk (fun k h1 e => by have := h.ap k h1; omega), h.ne, h.ap⟩
  have := range_set h.row (j := 1 + j) (by rw [adl_len _ _ hl]; omega) (.int .u8 z)
  rwa [adl_set] at this
theorem Pf.drewN {w wr : World} {gO g7 base cC : Nat} {aC : Option Addr} {ps : List Tx} {ys : List Int} (h : Pf w wr gO g7 base aC cC ps ys) (m : Nat) : Pf w (wr.drewN m) gO g7 base aC cC ps ys :=
  ⟨⟨h.pb.out, h.pb.below.trans ⟨rfl, rfl, rfl, Nat.le_refl _, fun _ _ => rfl⟩, h.pb.og, h.pb.sz⟩, h.row, h.th, h.own, h.ne, h.ap⟩
theorem digQ {v : Nat} {y : Tx} (hv : v < 256) (hd : Hid (digT 3 10 v = y)) (w : World) (n : Nat) : Calls Tryd.prog 39 #[.int .i64 (v : Int), .int .i64 10] (w.drewN n) fun e w'' => e = .returned (.string ⟨y.toArray⟩) ∧ ∃ m, w'' = w.drewN m := by
  refine Calls.quiet_of ?_
  have hq := r4Digits_any 10 (Or.inl rfl) 2 v (w.drewN n) (Nat.lt_of_lt_of_le hv (by decide)) (by omega) (by decide)
  rw [hd.out] at hq
  exact hq
theorem dec_case (x : Tx) : (∃ v, decO x = some v ∧ v < 256 ∧ numberR 10 256 x = (v, true) ∧ digT 3 10 v = x) ∨ (decO x = none ∧ ∃ n, n < 256 ∧ ((numberR 10 256 x = (n, false)) ∨ (numberR 10 256 x = (n, true) ∧ digT 3 10 n ≠ x))) := by
  have hlt : (numberR 10 256 x).1 < 256 := by
    unfold numberR
    split
    · rename_i n hn
      exact nfrom_lt 10 256 x 0 n hn (by decide)
    · decide
  cases hd : decO x with
  | some v =>
    have h := (number_dec x v).2 hd
    exact .inl ⟨v, rfl, ((decO_iff x v).1 hd).1, h⟩
  | none =>
    refine .inr ⟨rfl, (numberR 10 256 x).1, hlt, ?_⟩
    cases hb : (numberR 10 256 x).2 with
    | false => exact .inl (by rw [← hb])
    | true =>
      refine .inr ⟨by rw [← hb], fun e => ?_⟩
      have := (number_dec x (numberR 10 256 x).1).1 ⟨by rw [← hb], e⟩
      rw [hd] at this
      cases this

set_option maxRecDepth 100000 in
set_option maxHeartbeats 4000000 in
theorem q7 (gO base cC : Nat) (aC : Option Addr) (ps : List Tx) (w wr : World) (HA : Hid (Pb w wr gO ∧ OwnT wr base aC 4 cC ps)) (a : Act) (hf : Fr 54 a) (h2 : sl a 2 = .pointer (some ⟨gO, 0, none⟩)) (h6 : sl a 6 = .slice aC 4 cC) :
    Code.wp Tryd.prog (cAt [1,1,1,1,1,0] K22) (Exit.then (fun a' w' => ∃ g7, Fr 54 a' ∧ sl a' 2 = .pointer (some ⟨gO, 0, none⟩) ∧ sl a' 6 = .slice aC 4 cC ∧ sl a' 7 = .pointer (some ⟨g7, 0, none⟩) ∧ Pf w w' gO g7 base aC cC ps (zs 16)) Nope) a wr := by
  obtain ⟨f, ha, hs⟩ := fr54 hf
  have e2 := (hs 2).trans h2
  have e6 := (hs 6).trans h6
  rw [e2, e6] at ha
  clear hs hf e2 h2 e6 h6
  subst ha
  refine piece2 fun J0 K0 hJ0 hK0 => ?_
  conv => arg 2; whnf
  have HX : Hid (Pf w (wr.alloc (.cells (adl false (zs 16)).toArray 27)) gO wr.heap.size base aC cC ps (zs 16)) := by
    obtain ⟨h1, h2⟩ := HA.out
    have hb : Below wr.heap.size wr (wr.alloc (.cells (adl false (zs 16)).toArray 27)) := (Below.refl _ _).alloc (Nat.le_refl _) _
    exact ⟨h1.step hb, adl_range wr false (zs 16) _, there_new _ _ _ _ rfl _ rfl, OwnG.below h2 hb, h1.sz, fun k h => (OwnG.blk_ge h2 k h).2⟩
  go_wp2_with fail
  refine Met.intro (hJ0 _ _ ?_)
  exact ⟨_, ⟨rfl, rfl⟩, rfl, rfl, rfl, HX.out⟩

set_option maxRecDepth 100000 in
set_option maxHeartbeats 4000000 in
theorem q8 (gO g7 cC : Nat) (aC : Option Addr) (wr : World) (a : Act) (hf : Fr 54 a) (h2 : sl a 2 = .pointer (some ⟨gO, 0, none⟩)) (h6 : sl a 6 = .slice aC 4 cC) (h7 : sl a 7 = .pointer (some ⟨g7, 0, none⟩)) :
    Code.wp Tryd.prog (cAt [1,1,1,1,1,1,0,0] K22) (Exit.then (fun a' w' => Fr 54 a' ∧ sl a' 2 = .pointer (some ⟨gO, 0, none⟩) ∧ sl a' 6 = .slice aC 4 cC ∧ sl a' 7 = .pointer (some ⟨g7, 0, none⟩) ∧ sl a' 8 = .int .i64 0 ∧ wr = w') Nope) a wr := by
  obtain ⟨f, ha, hs⟩ := fr54 hf
  have e2 := (hs 2).trans h2
  have e6 := (hs 6).trans h6
  have e7 := (hs 7).trans h7
  rw [e2, e6, e7] at ha
  clear hs hf e2 h2 e6 h6 e7 h7
  subst ha
  refine piece2 fun J0 K0 hJ0 hK0 => ?_
  conv => arg 2; whnf
  go_wp2_with fail
  refine Met.intro (hJ0 _ _ ?_)
  exact ⟨⟨rfl, rfl⟩, rfl, rfl, rfl, rfl, rfl⟩

set_option maxRecDepth 100000 in
set_option maxHeartbeats 4000000 in
theorem qy (gO g7 base cC k : Nat) (aC : Option Addr) (ps : List Tx) (ys : List Int) (x : Tx) (w wr : World) (hk : k < 4) (hxl : x.length ≤ 1000) (hx : ps[k]? = some x) (HF : Hid (Pf w wr gO g7 base aC cC ps ys)) (v : Nat) (hy : ys.length = 16) (hv : v < 256) (hn : Hid (numberR 10 256 x = (v, true))) (hd : Hid (digT 3 10 v = x)) (a : Act) (hf : Fr 54 a) (h2 : sl a 2 = .pointer (some ⟨gO, 0, none⟩)) (h6 : sl a 6 = .slice aC 4 cC) (h7 : sl a 7 = .pointer (some ⟨g7, 0, none⟩)) (h8 : sl a 8 = .int .i64 (k : Int)) :
    Code.wp Tryd.prog (cAt [1,1,1,1,1,1,0,1,2,2] K22) (Exit.then (fun a' w' => Fr 54 a' ∧ sl a' 2 = .pointer (some ⟨gO, 0, none⟩) ∧ sl a' 6 = .slice aC 4 cC ∧ sl a' 7 = .pointer (some ⟨g7, 0, none⟩) ∧ sl a' 8 = .int .i64 ((k : Int) + 1) ∧ Pf w w' gO g7 base aC cC ps (ys.set k (v : Int))) Nope) a wr := by
  obtain ⟨f, ha, hs⟩ := fr54 hf
  have e2 := (hs 2).trans h2
  have e6 := (hs 6).trans h6
  have e7 := (hs 7).trans h7
  have e8 := (hs 8).trans h8
  rw [e2, e6, e7, e8] at ha
  clear hs hf e2 h2 e6 h6 e7 h7 e8 h8
  subst ha
  refine piece2 fun J0 K0 hJ0 hK0 => ?_
  conv => arg 2; whnf
  obtain ⟨gS, hgS, hcell0, _⟩ := OwnT.at_ HF.out.own hx
  subst hgS
  have hcell : wr.cell? ⟨gS, k, none⟩ = some (.string ⟨x.toArray⟩) := hcell0
  have hk2 : (k : Int) < 4 := by omega
  have hk16 : (k : Int) < 16 := by omega
  have HD : Hid (∀ m, Pf w ((wr.drewN m).setCell ⟨g7, 1 + k, none⟩ (.int .u8 (v : Int))) gO g7 base (some ⟨gS, 0, none⟩) cC ps (ys.set k (v : Int))) := fun m => (HF.out.drewN m).set hy (by omega) _
  have t1 := HF.out.th (1 + k) (by omega)
  rw [Nat.zero_add] at t1
  obtain ⟨u1, hu1⟩ := Option.isSome_iff_exists.1 t1.1
  have hf1 := t1.2
  have e6 : IntKind.u8.wrap (v : Int) = (v : Int) := by rw [IntKind.wrap_u8]; omega
  clear hcell0 t1 hx hy
  go_wp2_with fail
  refine (r4Number_any 10 256 x _ (by decide) (by decide) (by decide) hxl).mono ?_
  rintro e w2 ⟨rfl, hw2⟩
  subst hw2
  rw [hn.out]
  go_wp2_with fail
  go_quiet ((go_at_call 39; exact digQ hv hd _ _))
  go_wp2_with fail
  refine Met.intro (hJ0 _ _ ?_)
  exact ⟨⟨rfl, rfl⟩, rfl, rfl, rfl, rfl, HD.out _⟩

set_option maxRecDepth 100000 in
set_option maxHeartbeats 4000000 in
theorem qn1 (l : Tx) (gO g7 base cC k : Nat) (aC : Option Addr) (ps : List Tx) (ys : List Int) (x : Tx) (w wr : World) (hk : k < 4) (hxl : x.length ≤ 1000) (hx : ps[k]? = some x) (HF : Hid (Pf w wr gO g7 base aC cC ps ys)) (n : Nat) (hn : Hid (numberR 10 256 x = (n, false))) (HP : Hid (parse6 l = none ∧ parse4 l = none)) (a : Act) (hf : Fr 54 a) (h2 : sl a 2 = .pointer (some ⟨gO, 0, none⟩)) (h6 : sl a 6 = .slice aC 4 cC) (h7 : sl a 7 = .pointer (some ⟨g7, 0, none⟩)) (h8 : sl a 8 = .int .i64 (k : Int)) :
    Code.wp Tryd.prog (cAt [1,1,1,1,1,1,0,1,2,2] K22) (Rets w l) a wr := by
  obtain ⟨f, ha, hs⟩ := fr54 hf
  have e2 := (hs 2).trans h2
  have e6 := (hs 6).trans h6
  have e7 := (hs 7).trans h7
  have e8 := (hs 8).trans h8
  rw [e2, e6, e7, e8] at ha
  clear hs hf e2 h2 e6 h6 e7 h7 e8 h8
  subst ha
  conv => arg 2; whnf
  obtain ⟨gS, hgS, hcell0, _⟩ := OwnT.at_ HF.out.own hx
  subst hgS
  have hcell : wr.cell? ⟨gS, k, none⟩ = some (.string ⟨x.toArray⟩) := hcell0
  have hk2 : (k : Int) < 4 := by omega
  have hk16 : (k : Int) < 16 := by omega
  have HO : Hid (∀ m, (wr.drewN m).there gO 0 17) := fun m => (HF.out.drewN m).pb.out
  have HB : Hid (∀ m, Below w.heap.size w ((wr.drewN m).setCells gO 0 (adl false (zs 16)))) := fun m => Below.setCells (HF.out.drewN m).pb.below gO HF.out.pb.og _ _
  clear hcell0 hx
  go_wp2_with fail
  refine (r4Number_any 10 256 x _ (by decide) (by decide) (by decide) hxl).mono ?_
  rintro e w2 ⟨rfl, hw2⟩
  subst hw2
  rw [hn.out]
  go_wp2_with fail
  go_quiet (fail)
  go_wp2_with (first
    | (refine wpList_build_run (cells := (adl false (zs 16)).toArray) rfl 27 #[] rfl ?_ ?_; · exact built0)
    | (refine stR (.tmp 2) (.tmp 47) rfl rfl gO 0 false (zs 16) rfl rfl rfl (HO.out _) ?_))
  refine ⟨rfl, ?_⟩
  refine bodyPost_ret (ret_midT rfl _ _ gO 0 (adl false (zs 16)) _ rfl (World.rangeAt_setCells_same _ _ _ _ (HO.out _)) Tryd.underlying27 rfl infR) rfl ?_
  exact ⟨HB.out _, .inr (.inr ⟨HP.out.1, HP.out.2, rfl⟩)⟩

set_option maxRecDepth 100000 in
set_option maxHeartbeats 4000000 in
theorem qn2 (l : Tx) (gO g7 base cC k : Nat) (aC : Option Addr) (ps : List Tx) (ys : List Int) (x : Tx) (w wr : World) (hk : k < 4) (hxl : x.length ≤ 1000) (hx : ps[k]? = some x) (HF : Hid (Pf w wr gO g7 base aC cC ps ys)) (n : Nat) (hv : n < 256) (y : Tx) (hn : Hid (numberR 10 256 x = (n, true))) (hd : Hid (digT 3 10 n = y)) (hyx : (y != x) = true) (HP : Hid (parse6 l = none ∧ parse4 l = none)) (a : Act) (hf : Fr 54 a) (h2 : sl a 2 = .pointer (some ⟨gO, 0, none⟩)) (h6 : sl a 6 = .slice aC 4 cC) (h7 : sl a 7 = .pointer (some ⟨g7, 0, none⟩)) (h8 : sl a 8 = .int .i64 (k : Int)) :
    Code.wp Tryd.prog (cAt [1,1,1,1,1,1,0,1,2,2] K22) (Rets w l) a wr := by
  obtain ⟨f, ha, hs⟩ := fr54 hf
  have e2 := (hs 2).trans h2
  have e6 := (hs 6).trans h6
  have e7 := (hs 7).trans h7
  have e8 := (hs 8).trans h8
  rw [e2, e6, e7, e8] at ha
  clear hs hf e2 h2 e6 h6 e7 h7 e8 h8
  subst ha
  conv => arg 2; whnf
  obtain ⟨gS, hgS, hcell0, _⟩ := OwnT.at_ HF.out.own hx
  subst hgS
  have hcell : wr.cell? ⟨gS, k, none⟩ = some (.string ⟨x.toArray⟩) := hcell0
  have hk2 : (k : Int) < 4 := by omega
  have hk16 : (k : Int) < 16 := by omega
  have HO : Hid (∀ m, (wr.drewN m).there gO 0 17) := fun m => (HF.out.drewN m).pb.out
  have HB : Hid (∀ m, Below w.heap.size w ((wr.drewN m).setCells gO 0 (adl false (zs 16)))) := fun m => Below.setCells (HF.out.drewN m).pb.below gO HF.out.pb.og _ _
  clear hcell0 hx
  go_wp2_with fail
  refine (r4Number_any 10 256 x _ (by decide) (by decide) (by decide) hxl).mono ?_
  rintro e w2 ⟨rfl, hw2⟩
  subst hw2
  rw [hn.out]
  go_wp2_with fail
  have hy1 : ¬ y = x := by simpa using hyx
  have hy0 : (y == x) = false := by simp [hy1]
  go_quiet ((go_at_call 39; exact digQ hv hd _ _))
  go_wp2_with (first
    | (refine wpList_build_run (cells := (adl false (zs 16)).toArray) rfl 27 #[] rfl ?_ ?_; · exact built0)
    | (refine stR (.tmp 2) (.tmp 47) rfl rfl gO 0 false (zs 16) rfl rfl rfl (HO.out _) ?_))
  refine ⟨rfl, ?_⟩
  refine bodyPost_ret (ret_midT rfl _ _ gO 0 (adl false (zs 16)) _ rfl (World.rangeAt_setCells_same _ _ _ _ (HO.out _)) Tryd.underlying27 rfl infR) rfl ?_
  exact ⟨HB.out _, .inr (.inr ⟨HP.out.1, HP.out.2, rfl⟩)⟩

set_option maxRecDepth 100000 in
set_option maxHeartbeats 4000000 in
theorem qx (gO g7 cC : Nat) (aC : Option Addr) (wr : World) (a : Act) (hf : Fr 54 a) (h2 : sl a 2 = .pointer (some ⟨gO, 0, none⟩)) (h6 : sl a 6 = .slice aC 4 cC) (h7 : sl a 7 = .pointer (some ⟨g7, 0, none⟩)) (h8 : sl a 8 = .int .i64 4) :
    Code.wp Tryd.prog (cAt [1,1,1,1,1,1,0,1,2,2] K22) (Outs 0 (fun a' w' => Fr 54 a' ∧ sl a' 2 = .pointer (some ⟨gO, 0, none⟩) ∧ sl a' 7 = .pointer (some ⟨g7, 0, none⟩) ∧ wr = w')) a wr := by
  obtain ⟨f, ha, hs⟩ := fr54 hf
  have e2 := (hs 2).trans h2
  have e6 := (hs 6).trans h6
  have e7 := (hs 7).trans h7
  have e8 := (hs 8).trans h8
  rw [e2, e6, e7, e8] at ha
  clear hs hf e2 h2 e6 h6 e7 h7 e8 h8
  subst ha
  conv => arg 2; whnf
  go_wp2_with fail
  exact ⟨rfl, ⟨rfl, rfl⟩, rfl, rfl, rfl⟩

end Go.Proofs.YtbnfmiopgjmppaaDoor

/-
  The contract of the document's own groups. Condition: a text of at most 1000 bytes.
-/
import Derived.Test.YtbnfmiopgjmppaaDoorAdR3
namespace Go.Proofs.YtbnfmiopgjmppaaDoor
open Go.RowKit

/-- A row of numbers of the call's own. -/
def nv (v : Nat) : Value := .int .i64 (v : Int)
def OwnI (w : World) (base : Nat) (a : Option Addr) (n c : Nat) (vs : List Nat) : Prop := OwnG w base 3 1 a n c (vs.map nv)
theorem OwnI.len {w : World} {base : Nat} {a : Option Addr} {n c : Nat} {vs : List Nat} (h : OwnI w base a n c vs) : vs.length = n := by
  have := h.1
  simpa using this
theorem OwnI.at_ {w : World} {base : Nat} {a : Option Addr} {n c : Nat} {vs : List Nat} (h : OwnI w base a n c vs) {i : Nat} {v : Nat} (hv : vs[i]? = some v) : ∃ g, a = some ⟨g, 0, none⟩ ∧ w.cell? ⟨g, i, none⟩ = some (.int .i64 (v : Int)) := by
  obtain ⟨g, rfl, hc⟩ := OwnG.cell h (by intro e; have := List.map_eq_nil_iff.1 e; rw [this] at hv; simp at hv)
  refine ⟨g, rfl, ?_⟩
  have := hc i (nv v) (by simp [hv])
  rwa [Nat.zero_add] at this
theorem cuts_len (c : UInt8) : ∀ l : Tx, (cuts c l).length ≤ l.length + 1 ∧ ∀ x ∈ cuts c l, x.length ≤ l.length
  | [] => ⟨by simp [cuts], by simp [cuts]⟩
  | b :: l => by
    obtain ⟨h1, h2⟩ := cuts_len c l
    rw [cuts]
    split
    · refine ⟨by simp; omega, fun x hx => ?_⟩
      rcases List.mem_cons.1 hx with rfl | hx
      · simp
      · have := h2 x hx; simp; omega
    · cases hk : cuts c l with
      | nil => exact absurd hk (cuts_ne c l)
      | cons h t =>
        rw [hk] at h1 h2
        refine ⟨by simp at h1 ⊢; omega, fun x hx => ?_⟩
        rcases List.mem_cons.1 hx with rfl | hx
        · have := h2 h (by simp); simp; omega
        · have := h2 x (by simp [hx]); simp; omega
theorem hex_case (x : Tx) : (hexO x = none ∧ ((numberR 16 65536 x).2 = false ∨ 4 < x.length)) ∨ (∃ v, hexO x = some v ∧ numberR 16 65536 x = (v, true) ∧ x.length ≤ 4) := by
  by_cases hl : x.length ≤ 4
  · cases hh : hexO x with
    | some v => exact .inr ⟨v, rfl, (number_hex hl v).2 hh, hl⟩
    | none =>
      refine .inl ⟨rfl, .inl ?_⟩
      cases hb : (numberR 16 65536 x).2 with
      | false => rfl
      | true =>
        have : hexO x = some (numberR 16 65536 x).1 := (number_hex hl _).1 (by rw [← hb])
        rw [hh] at this
        cases this
  · refine .inl ⟨?_, .inr (by omega)⟩
    unfold hexO
    rw [if_pos (.inr (by omega))]
/-- All of the rest, behind those that stand already. -/
def restO (vs : List Nat) (o : Option (List Nat)) : Option (List Nat) := match o with | some r => some (vs ++ r) | none => none
theorem restO_some {vs : List Nat} {x : Tx} {ps : List Tx} {v : Nat} (h : hexO x = some v) : restO vs (allO hexO (x :: ps)) = restO (vs ++ [v]) (allO hexO ps) := by
  rw [allO, h]
  cases allO hexO ps <;> simp [restO]
theorem restO_none {vs : List Nat} {x : Tx} {ps : List Tx} (h : hexO x = none) : restO vs (allO hexO (x :: ps)) = none := by
  rw [allO, h]
  rfl
/-- What groups answers. -/
def GrR (w : World) (l : Tx) (e : Ending) (w' : World) : Prop :=
  Below w.heap.size w w' ∧ ((∃ vs a n c, gr0 l = some vs ∧ e = .returned (.tuple #[.slice a n c, .bool true]) ∧ OwnI w' w.heap.size a n c vs) ∨ (gr0 l = none ∧ e = .returned (.tuple #[.slice none 0 0, .bool false])))
theorem tStr_ne : (9 : TypeId) ≠ 3 := by decide

set_option maxRecDepth 100000 in
set_option maxHeartbeats 4000000 in
theorem r4groups_any (l : Tx) (w : World) (hl : l.length ≤ 1000) : Calls Tryd.prog 61 #[.string ⟨l.toArray⟩] w (GrR w l) := by
  by_cases h0 : l = []
  · subst h0
    go_enter Tryd.func61, Tryd.ntmps61
    go_wp2_with fail
    go_ret2
    exact ⟨Below.refl _ _, .inl ⟨[], none, 0, 0, rfl, rfl, OwnG.nil _ _ _ _⟩⟩
  · have hne2 : (l == []) = false := by simp [h0]
    have HG : Hid (gr0 l = restO [] (allO hexO (cuts 58 l))) := by
      show _ = _
      rw [gr0, if_neg h0]
      cases allO hexO (cuts 58 l) <;> rfl
    have hcl := cuts_len 58 l
    go_enter Tryd.func61, Tryd.ntmps61
    go_wp2_with fail
    refine (r4Cuts_any 58 l _ hl).mono ?_
    rintro e w1 ⟨aS, nS, cS, rfl, hS, hb1⟩
    have hsz := hb1.size
    obtain ⟨ps, hps⟩ : ∃ ps, cuts 58 l = ps := ⟨_, rfl⟩
    rw [hps] at hS HG hcl
    obtain ⟨base, hbs⟩ : ∃ b, w.heap.size = b := ⟨_, rfl⟩
    rw [hbs] at hS hb1 hsz
    have hnS := hS.len
    have HS : Hid (OwnT w1 base aS nS cS ps ∧ Below base w w1 ∧ base ≤ w1.heap.size) := ⟨hS, hb1, hsz⟩
    have HBS := Lib.hid hbs
    have hn1 : nS ≤ 1001 := by omega
    have HLN := Lib.hid hnS
    have HPL : Hid (∀ x ∈ ps, x.length ≤ 1000) := fun x hx => Nat.le_trans (hcl.2 x hx) hl
    clear hS hb1 hsz hbs hps hcl hnS hne2
    go_wp2_with fail
    go_loopw [4, 6] (fun o_ i_ wr => ∃ (k cap : Nat) (a : Option Addr), k ≤ nS ∧ o_ = .slice a k cap ∧ i_ = .int .i64 k ∧ Hid (∃ vs, OwnT wr base aS nS cS ps ∧ OwnI wr base a k cap vs ∧ gr0 l = restO vs (allO hexO (ps.drop k)) ∧ Below base w wr ∧ base ≤ wr.heap.size)) (fun _ i_ => fun _ => nS - (intOf i_).toNat)
    case atStart => exact ⟨0, 0, none, Nat.zero_le _, rfl, rfl, [], HS.out.1, OwnG.nil _ _ _ _, HG.out, HS.out.2.1, HS.out.2.2⟩
    case round =>
      obtain ⟨k, cap, a, hk, rfl, rfl, hst⟩ := hrel
      clear HS HG
      rename World => wo
      by_cases hlt : k < nS
      · obtain ⟨vs, hT, hI, hgr, hbel, hbsz⟩ := hst.out
        have hkp : k < ps.length := by rw [HLN.out]; exact hlt
        obtain ⟨x, hx⟩ : ∃ x, ps[k]? = some x := ⟨_, List.getElem?_eq_getElem hkp⟩
        have hdr : ps.drop k = x :: ps.drop (k + 1) := by rw [List.drop_eq_getElem_cons hkp]; congr 1; exact (List.getElem?_eq_some_iff.1 hx).2
        have hxl : x.length ≤ 1000 := HPL.out x (List.mem_of_getElem? hx)
        obtain ⟨gS, rfl, hcell0, _⟩ := hT.at_ hx
        have hcell : wo.cell? ⟨gS, k, none⟩ = some (.string ⟨x.toArray⟩) := hcell0
        rw [hdr] at hgr
        have hlt2 : (k : Int) < (nS : Int) := by omega
        rcases hex_case x with ⟨hno, hwhy⟩ | ⟨v, hyes, hnum, hx4⟩
        · have HNO : Hid (gr0 l = none ∧ Below base w wo) := ⟨by rw [hgr, restO_none hno], hbel⟩
          cases hb : (numberR 16 65536 x).2 with
          | false =>
            have HNB := Lib.hid hb
            clear hT hI hgr hbel hbsz hst hx hdr hcell0 hno hwhy hb
            go_wp2_with fail
            refine (r4Number_any 16 65536 x _ (by decide) (by decide) (by decide) hxl).mono ?_
            rintro e w2 ⟨rfl, hw2⟩
            subst hw2
            rw [HNB.out]
            go_wp2_with fail
            go_ret2
            exact ⟨by rw [HBS.out]; exact HNO.out.2, .inr ⟨HNO.out.1, rfl⟩⟩
          | true =>
            have hx4 : 4 < x.length := by
              rcases hwhy with h | h
              · rw [h] at hb; cases hb
              · exact h
            have HNB := Lib.hid hb
            clear hT hI hgr hbel hbsz hst hx hdr hcell0 hno hwhy hb
            go_wp2_with fail
            refine (r4Number_any 16 65536 x _ (by decide) (by decide) (by decide) hxl).mono ?_
            rintro e w2 ⟨rfl, hw2⟩
            subst hw2
            rw [HNB.out]
            go_wp2_with fail
            go_ret2
            exact ⟨by rw [HBS.out]; exact HNO.out.2, .inr ⟨HNO.out.1, rfl⟩⟩
        · obtain ⟨gA, cA', w3, hr1, ho1, hk1, hx1⟩ := run_append_one wo base 95 95 3 (.int .i64 0) 1 8 int_info Tryd.underlying95 rfl (by omega) hI [.int .i64 (v : Int)] rfl (by simp [Value.oneCell']) hbsz (by omega) (by omega)
          have HRN := Lib.hid hr1
          have HNX : Hid (∃ vs, OwnT w3 base (some ⟨gS, 0, none⟩) nS cS ps ∧ OwnI w3 base (some ⟨gA, 0, none⟩) (k + 1) cA' vs ∧ gr0 l = restO vs (allO hexO (ps.drop (k + 1))) ∧ Below base w w3 ∧ base ≤ w3.heap.size) := by
            refine ⟨vs ++ [v], OwnG.keep hT hk1 (fun i hi h => OwnG.apart hI hT (Ne.symm tStr_ne) i h hi), ?_, by rw [hgr, restO_some hyes], hbel.trans (hk1.below hbsz (fun i h => (hI.blk_ge i h).1)), Nat.le_trans hbsz hk1.size⟩
            unfold OwnI
            rw [List.map_append]
            exact ho1
          have HNM := Lib.hid hnum
          clear hT hI hgr hbel hbsz hst hx hdr hcell0 hyes hnum hr1 ho1 hk1 hx1
          go_wp2_with fail
          refine (r4Number_any 16 65536 x _ (by decide) (by decide) (by decide) hxl).mono ?_
          rintro e w2 ⟨rfl, hw2⟩
          subst hw2
          rw [HNM.out]
          go_wp2_with (at_builtin; refine Lib.wpList_append_run _ rfl (.tmp 37) (.tmp 39) _ _ rfl _ _ rfl rfl _ _ HRN.out ?_)
          go_roundw
          case rel => exact ⟨k + 1, cA', _, by omega, rfl, by go_num, HNX⟩
          case measure => simp [intOf]; omega
      · obtain rfl : k = nS := by omega
        have HF : Hid (∃ vs, gr0 l = some vs ∧ OwnI wo base a k cap vs ∧ Below base w wo) := by
          obtain ⟨vs, hT, hI, hgr, hbel, hbsz⟩ := hst.out
          refine ⟨vs, ?_, hI, hbel⟩
          rw [hgr, List.drop_of_length_le (by rw [HLN.out]; exact Nat.le_refl _)]
          simp [allO, restO]
        clear hst
        go_wp2_with fail
        go_ret2
        obtain ⟨vs, h1, h2, h3⟩ := HF.out
        exact ⟨by rw [HBS.out]; exact h3, .inl ⟨vs, a, k, cap, h1, rfl, by rw [HBS.out]; exact h2⟩⟩
end Go.Proofs.YtbnfmiopgjmppaaDoor

/-
  The contracts of readParts and of readFour. Conditions: texts below 2 to the 32; the library's variables hold what they should; for readParts a function with a contract for each part.
-/
import Derived.Test.YtbnfmiopgjmppaaDoorAdIns
namespace Go.Proofs.YtbnfmiopgjmppaaDoor
open Go.RowKit

/-- A function that is called is entered. -/
def Ent (N : Nat) : Prop := ∀ (args : Array Value) (w : World), (callFunc N args).run Tryd.prog w = .ok (.enter N args) w
theorem ent_four : Ent 57 := enters_of Tryd.func57 (by kernel_rfl) rfl
theorem ent_six : Ent 58 := enters_of Tryd.func58 (by kernel_rfl) rfl
/-- Parts one by one, until one is refused. -/
def steps {σ : Type} (f : σ → Tx → Option σ) : σ → List Tx → Option σ
  | s, [] => some s
  | s, x :: l => match f s x with
    | some t => steps f t l
    | none => none
theorem cut_no {l : Tx} {c : UInt8} (h : (Lib.cut l [c]).2.2 = false) : (Lib.cut l [c]).1 = l := by
  unfold Lib.cut at h ⊢
  split
  · rename_i h0; rw [if_pos h0] at h; simp at h
  · rfl
theorem cut_le (l : Tx) (c : UInt8) : (Lib.cut l [c]).1.length ≤ l.length ∧ (Lib.cut l [c]).2.1.length ≤ l.length := by
  unfold Lib.cut
  split
  · simp; omega
  · simp
theorem cut_lt {l : Tx} {c : UInt8} (h : (Lib.cut l [c]).2.2 = true) : (Lib.cut l [c]).2.1.length < l.length := by
  unfold Lib.cut at h ⊢
  split
  · rename_i h0
    cases l with
    | nil => simp [Lib.index] at h0
    | cons b r => simp; omega
  · rename_i h0; rw [if_neg h0] at h; simp at h
/-- How long a text is. -/
def strLen : Value → Nat
  | .string s => s.size
  | _ => 0

set_option maxRecDepth 100000 in
set_option maxHeartbeats 4000000 in
theorem aReadParts_any {σ : Type} (N : Nat) (cap : Value) (c : UInt8) (f : σ → Tx → Option σ) (I : σ → World → Prop) (J : World → Prop) (w0 : World) (B : Nat) (hE : Ent N) (hG : Gl w0)
    (hI : ∀ s w, I s w → Below w0.heap.size w0 w) (hD : ∀ s w n, I s w → I s (w.drewN n))
    (hF : ∀ s (x : Tx) w, I s w → x.length ≤ B → Calls Tryd.prog N #[.string ⟨x.toArray⟩, cap] w fun e w' => ∃ ok, e = .returned (.bool ok) ∧ ((∃ t, f s x = some t ∧ ok = true ∧ I t w') ∨ (f s x = none ∧ ok = false ∧ J w')))
    (l : Tx) (s : σ) (w : World) (h : I s w) (hl : l.length ≤ B) (hB : B < 4294967281) :
    Calls Tryd.prog 56 #[.string ⟨l.toArray⟩, .string ⟨#[c]⟩, .func (.func N) #[] #[cap]] w fun e w' => ∃ ok, e = .returned (.bool ok) ∧
      ((∃ t, steps f s (cuts c l) = some t ∧ ok = true ∧ I t w') ∨ (steps f s (cuts c l) = none ∧ ok = false ∧ J w')) := by
  have HI0 := Lib.hid h
  have HG := Lib.hid hG
  have HI := Lib.hid hI
  have HD := Lib.hid hD
  have HF := Lib.hid hF
  have HB := Lib.hid hB
  clear h hG hI hD hF hB
  go_enter Tryd.func56, Tryd.ntmps56
  go_wp2_with fail
  go_loopw [0] (fun v wr => ∃ (r : Tx) (t : σ), v = .string ⟨r.toArray⟩ ∧ r.length ≤ B ∧ Hid (steps f s (cuts c l) = steps f t (cuts c r)) ∧ Hid (I t wr)) (fun v _ => strLen v)
  case atStart => exact ⟨l, s, rfl, hl, rfl, HI0⟩
  case round =>
    obtain ⟨r, t, rfl, hr, hst, hi⟩ := hrel
    clear HI0
    obtain ⟨m, hm⟩ := (HG.out.below (HI.out _ _ hi.out)).max
    have HM := Lib.hid hm
    have HS : Hid ((⟨r.toArray⟩ : ByteArray).size < 4294967281) := by have := HB.out; show _ < _; simp only [ByteArray.size, List.size_toArray]; omega
    clear hm
    go_wp2_with fail
    refine (Tryd.strings_Cut ⟨r.toArray⟩ ⟨#[c]⟩ m _ HS.out HM.out).mono ?_
    rintro e w1 ⟨rfl, n, rfl⟩
    have e1 : (⟨r.toArray⟩ : ByteArray).data.toList = r := by simp
    have e2 : (⟨#[c]⟩ : ByteArray).data.toList = [c] := rfl
    rw [e1, e2]
    clear e1 e2
    obtain ⟨x, hx⟩ : ∃ x, (Lib.cut r [c]).1 = x := ⟨_, rfl⟩
    obtain ⟨y, hy⟩ : ∃ y, (Lib.cut r [c]).2.1 = y := ⟨_, rfl⟩
    obtain ⟨b, hb⟩ : ∃ b, (Lib.cut r [c]).2.2 = b := ⟨_, rfl⟩
    have hle := cut_le r c
    have hcc := cuts_cut c r
    have hlt : b = true → y.length < r.length := fun e => by rw [← hy]; exact cut_lt (by rw [hb, e])
    have hno : b = false → x = r := fun e => by rw [← hx]; exact cut_no (by rw [hb, e])
    rw [hx, hy] at hle
    rw [hx, hy, hb] at hcc
    rw [hx, hy, hb]
    have HCC := Lib.hid hcc
    have HLT := Lib.hid hlt
    have HNO := Lib.hid hno
    have HI1 := Lib.hid (HD.out _ _ n hi.out)
    have HX : Hid (x.length ≤ B) := by show x.length ≤ B; omega
    have HY : Hid (y.length ≤ B) := by show y.length ≤ B; omega
    clear hcc hlt hno hx hy hb hle hi HS HM
    have hcall : ∀ args w, (callFunc N args).run Tryd.prog w = .ok (.enter N args) w := hE
    go_wp2_with fail
    refine (HF.out t x _ HI1.out HX.out).mono ?_
    rintro e w2 ⟨ok, rfl, hk⟩
    rcases hk with ⟨t2, hf, rfl, hi2⟩ | ⟨hf, rfl, hbl⟩
    · have HF2 := Lib.hid hf
      have HI2 := Lib.hid hi2
      clear hf hi2
      cases b
      · have HR : Hid (steps f s (cuts c l) = some t2) := by
          show _ = _
          rw [hst.out, HCC.out, if_neg (by decide)]
          rw [HNO.out rfl] at HF2
          simp only [steps, HF2.out]
        go_wp2_with fail
        go_ret
        exact ⟨true, rfl, .inl ⟨t2, HR.out, rfl, HI2.out⟩⟩
      · have HR : Hid (steps f s (cuts c l) = steps f t2 (cuts c y)) := by
          show _ = _
          rw [hst.out, HCC.out, if_pos rfl]
          simp only [steps, HF2.out]
        go_wp2_with fail
        go_roundw
        case rel => exact ⟨y, t2, rfl, HY.out, HR, HI2⟩
        case measure => have := HLT.out (by trivial); simpa [strLen, ByteArray.size] using this
    · have HR : Hid (steps f s (cuts c l) = none) := by
        show _ = _
        rw [hst.out, HCC.out]
        cases b
        · rw [if_neg (by decide)]
          rw [HNO.out rfl] at hf
          simp only [steps, hf]
        · rw [if_pos rfl]
          simp only [steps, hf]
      have HBL := Lib.hid hbl
      clear hf hbl
      go_wp2_with fail
      go_ret
      exact ⟨false, rfl, .inr ⟨HR.out, rfl, HBL.out⟩⟩

/-- One of four bytes is read. -/
def stp4 (xs : List Int) (x : Tx) : Option (List Int) := match numS x with
  | some z => if 0 ≤ z ∧ z ≤ 255 ∧ xs.length + 1 ≤ 4 then some (xs ++ [z]) else none
  | none => none
theorem f4_dec {xs : List Int} {x : Tx} {v : Nat} (h : decO x = some v) (hl : xs.length + 1 ≤ 4) : stp4 xs x = some (xs ++ [(v : Int)]) := by
  unfold decO at h
  unfold stp4
  cases hn : numS x with
  | none => rw [hn] at h; simp at h
  | some z =>
    rw [hn] at h
    simp only at h ⊢
    split at h
    · rename_i hz
      simp at h
      rw [if_pos ⟨hz.1, hz.2, hl⟩, ← h]
      congr 2
      simp [Int.toNat_of_nonneg hz.1]
    · simp at h
theorem f4_none {xs : List Int} {x : Tx} (h : decO x = none ∨ ¬ xs.length + 1 ≤ 4) : stp4 xs x = none := by
  unfold decO at h
  unfold stp4
  cases hn : numS x with
  | none => rfl
  | some z =>
    simp only
    rw [if_neg]
    rintro ⟨a, b, c⟩
    rcases h with h | h
    · rw [hn] at h; simp [a, b] at h
    · exact h c
theorem steps_four : ∀ (ps : List Tx) (xs : List Int), xs.length ≤ 4 → steps stp4 xs ps = match allO decO ps with
    | some r => if xs.length + ps.length ≤ 4 then some (xs ++ r.map fun v : Nat => (v : Int)) else none
    | none => none
  | [], xs, h => by simp [steps, allO, h]
  | p :: ps, xs, h => by
    rw [steps, allO]
    cases hd : decO p with
    | none => rw [f4_none (.inl hd)]
    | some v =>
      by_cases hl : xs.length + 1 ≤ 4
      · rw [f4_dec hd hl]
        simp only
        rw [steps_four ps (xs ++ [(v : Int)]) (by simp; omega)]
        cases ha : allO decO ps with
        | none => rfl
        | some r =>
          simp only [List.length_append, List.length_cons, List.length_nil]
          by_cases h4 : xs.length + (0 + 1) + ps.length ≤ 4
          · rw [if_pos h4, if_pos (by omega)]; simp
          · rw [if_neg h4, if_neg (by omega)]
      · rw [f4_none (.inr hl)]
        cases ha : allO decO ps with
        | none => rfl
        | some r => simp only [List.length_cons]; rw [if_neg (by omega)]
theorem four_yes {l : Tx} {r : List Nat} (h : parse4 l = some r) : steps stp4 [] (cuts 46 l) = some (r.map fun v : Nat => (v : Int)) ∧ r.length = 4 := by
  unfold parse4 at h
  split at h
  · rename_i h4
    refine ⟨?_, ?_⟩
    · rw [steps_four _ _ (by simp), h]
      simp [h4]
    · rw [allO_len _ _ _ h, h4]
  · cases h
theorem four_no {l : Tx} (h : parse4 l = none) {xs : List Int} (hs : steps stp4 [] (cuts 46 l) = some xs) : xs.length ≠ 4 := by
  intro h4
  rw [steps_four _ _ (by simp)] at hs
  unfold parse4 at h
  cases ha : allO decO (cuts 46 l) with
  | none => rw [ha] at hs; cases hs
  | some r =>
    rw [ha] at hs h
    simp only at hs
    split at hs
    · simp at hs
      have hl := allO_len _ _ _ ha
      rw [← hs] at h4
      simp at h4
      rw [if_pos (by omega)] at h
      cases h
    · cases hs
/-- What is read: bytes, or none. -/
def ReadR (w : World) (o : Option (List Nat)) (e : Ending) (w' : World) : Prop :=
  ∃ a n cap, e = .returned (.tuple #[.slice a n cap, .bool o.isSome]) ∧ Below w.heap.size w w' ∧ ∀ r, o = some r → n = r.length ∧ Rd w' a (r.map fun v : Nat => (v : Int)) ∧ n ≤ cap
/-- What holds while parts are read. -/
def I4 (w0 : World) (c : Nat) (m : Nat) (xs : List Int) (w : World) : Prop := Acc w c xs ∧ Below w0.heap.size w0 w ∧ w0.heap.size ≤ c ∧ xs.length ≤ m
/-- What holds where a part was refused. -/
def J4 (w0 : World) (c : Nat) (w : World) : Prop := (∃ xs, Acc w c xs) ∧ Below w0.heap.size w0 w
theorem Acc.drewN {w : World} {c : Nat} {xs : List Int} (h : Acc w c xs) (n : Nat) : Acc (w.drewN n) c xs := h.below ⟨rfl, rfl, rfl, Nat.le_refl _, fun _ _ => rfl⟩
theorem Acc.sz {w : World} {c : Nat} {xs : List Int} (h : Acc w c xs) : c < w.heap.size := by
  obtain ⟨a, n, cap, h1, _⟩ := h
  exact (Array.getElem?_eq_some_iff.1 h1).1
theorem four_each (w0 : World) (hg : Gl w0) (c : Nat) (s : List Int) (x : Tx) (w : World) (h : I4 w0 c 4 s w) (hx : x.length ≤ 1000000) :
    Calls Tryd.prog 57 #[.string ⟨x.toArray⟩, .pointer (some ⟨c, 0, none⟩)] w fun e w' => ∃ ok, e = .returned (.bool ok) ∧ ((∃ t, stp4 s x = some t ∧ ok = true ∧ I4 w0 c 4 t w') ∨ (stp4 s x = none ∧ ok = false ∧ J4 w0 c w')) := by
  obtain ⟨h1, h2, h3, h4⟩ := h
  refine (aReadFour1_any ⟨x.toArray⟩ c s w (hg.below h2) (by simp only [ByteArray.size, List.size_toArray]; omega) h1 h4).mono ?_
  rintro e w' ⟨z, ok, rfl, ha, hb, hok, hzu⟩
  have hb2 : Below w0.heap.size w0 w' := h2.trans (hb.mono h3)
  refine ⟨ok, rfl, ?_⟩
  simp only [List.toList_toArray] at hok hzu
  cases ok
  · refine .inr ⟨?_, rfl, ⟨_, ha⟩, hb2⟩
    unfold stp4
    cases hn : numS x with
    | none => rfl
    | some u =>
      simp only
      rw [if_neg]
      rintro ⟨p, q, r⟩
      have he := hzu u hn p q
      rw [← he] at hn p q
      have := hok.2 ⟨hn, p, q, r⟩
      cases this
  · obtain ⟨p, q, r, t⟩ := hok.1 rfl
    refine .inl ⟨s ++ [z], ?_, rfl, ha, hb2, h3, by simp; omega⟩
    unfold stp4
    rw [p]
    simp only
    rw [if_pos ⟨q, r, t⟩]
theorem Acc.cell {w : World} {c : Nat} {xs : List Int} (h : Acc w c xs) : ∃ a n cap, w.cell? ⟨c, 0, none⟩ = some (.slice a n cap) ∧ Own w (c + 1) a n cap xs := by
  obtain ⟨a, n, cap, h1, h2⟩ := h
  exact ⟨a, n, cap, by rw [cell_of_row w c 0 _ _ (0, 0) h1]; rfl, h2⟩
set_option maxRecDepth 100000 in
set_option maxHeartbeats 4000000 in
theorem aReadFour_any (l : Tx) (w : World) (hg : Gl w) (hl : l.length ≤ 1000000) : Calls Tryd.prog 43 #[.string ⟨l.toArray⟩] w (ReadR w (parse4 l)) := by
  have HG := Lib.hid hg
  have HL := Lib.hid hl
  clear hg hl
  go_enter Tryd.func43, Tryd.ntmps43
  go_wp2_with fail
  refine (aReadParts_any 57 (.pointer (some ⟨w.heap.size, 0, none⟩)) 46 stp4 (I4 w w.heap.size 4) (J4 w w.heap.size) w 1000000 ent_four HG.out (fun _ _ h => h.2.1) (fun s wr n h => ⟨h.1.drewN n, bdN h.2.1 n, h.2.2⟩) (four_each w HG.out w.heap.size) l [] _ ⟨Acc.new w, bel1 _ _, Nat.le_refl _, by simp⟩ HL.out (by omega)).mono ?_
  rintro e w1 ⟨ok, rfl, hk⟩
  rcases hk with ⟨t, hs, rfl, ha, hb, _, ht⟩ | ⟨hs, rfl, ⟨ys, ha⟩, hb⟩
  · obtain ⟨a, n, cap, hc, ho⟩ := ha.cell
    have HO := Lib.hid ho
    have HB := Lib.hid hb
    by_cases h4 : n = 4
    · subst h4
      have HP : Hid (∃ r, parse4 l = some r ∧ t = r.map fun v : Nat => (v : Int)) := by
        show ∃ r, _
        cases hp : parse4 l with
        | none => have h1 := four_no hp hs; have h2 := ho.len; omega
        | some r => exact ⟨r, rfl, by rw [(four_yes hp).1] at hs; exact (Option.some.inj hs).symm⟩
      clear hs ha hb ho
      go_wp2_with fail
      go_quiet (fail)
      go_wp2_with fail
      go_ret2
      obtain ⟨r, hr, rfl⟩ := HP.out
      refine ⟨a, 4, cap, by rw [hr]; rfl, bdN HB.out _, fun r' hr' => ?_⟩
      rw [hr] at hr'
      obtain rfl := Option.some.inj hr'
      exact ⟨by have := HO.out.len; simpa using this.symm, HO.out.rd.below ⟨rfl, rfl, rfl, Nat.le_refl _, fun _ _ => rfl⟩, HO.out.le.1⟩
    · have HP : Hid (parse4 l = none) := by
        show _ = _
        cases hp : parse4 l with
        | none => rfl
        | some r =>
          have h1 := (four_yes hp)
          rw [h1.1] at hs
          have h2 := ho.len
          rw [← Option.some.inj hs] at h2
          simp at h2
          omega
      have h4i : ((n : Int) == 4) = false := by simp; omega
      have h4j : ¬ ((n : Int) = 4) := by omega
      clear hs ha hb ho
      go_wp2_with fail
      go_quiet (fail)
      go_wp2_with fail
      go_ret2
      exact ⟨a, n, cap, by rw [HP.out]; rfl, bdN HB.out _, fun r' hr' => by rw [HP.out] at hr'; cases hr'⟩
  · obtain ⟨a, n, cap, hc, ho⟩ := ha.cell
    have HB := Lib.hid hb
    have HP : Hid (parse4 l = none) := by
      show _ = _
      cases hp : parse4 l with
      | none => rfl
      | some r => rw [(four_yes hp).1] at hs; cases hs
    clear hs ha hb ho
    go_wp2_with fail
    go_quiet (fail)
    go_wp2_with fail
    go_ret2
    exact ⟨a, n, cap, by rw [HP.out]; rfl, bdN HB.out _, fun r' hr' => by rw [HP.out] at hr'; cases hr'⟩
end Go.Proofs.YtbnfmiopgjmppaaDoor

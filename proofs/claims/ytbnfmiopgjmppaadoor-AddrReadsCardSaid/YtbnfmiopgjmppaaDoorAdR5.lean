/-
  The document's own 'six' in pieces. Conditions: those that the theorems name. (Made by gen_adr5.py.)
-/
import Derived.Test.YtbnfmiopgjmppaaDoorAdR4
import Derived.Test.YtbnfmiopgjmppaaDoorPieces
namespace Go.Proofs.YtbnfmiopgjmppaaDoor
open Go.RowKit

noncomputable def K6 : Code := Tryd.f45.body.getD .skip
set_option maxRecDepth 100000 in
theorem fr117 {a : Act} (h : Fr 117 a) : ∃ f : Nat → Value, a = ⟨#[f 0, f 1, f 2, f 3, f 4, f 5, f 6, f 7, f 8, f 9, f 10, f 11, f 12, f 13, f 14, f 15, f 16, f 17, f 18, f 19, f 20, f 21, f 22, f 23, f 24, f 25, f 26, f 27, f 28, f 29, f 30, f 31, f 32, f 33, f 34, f 35, f 36, f 37, f 38, f 39, f 40, f 41, f 42, f 43, f 44, f 45, f 46, f 47, f 48, f 49, f 50, f 51, f 52, f 53, f 54, f 55, f 56, f 57, f 58, f 59, f 60, f 61, f 62, f 63, f 64, f 65, f 66, f 67, f 68, f 69, f 70, f 71, f 72, f 73, f 74, f 75, f 76, f 77, f 78, f 79, f 80, f 81, f 82, f 83, f 84, f 85, f 86, f 87, f 88, f 89, f 90, f 91, f 92, f 93, f 94, f 95, f 96, f 97, f 98, f 99, f 100, f 101, f 102, f 103, f 104, f 105, f 106, f 107, f 108, f 109, f 110, f 111, f 112, f 113, f 114, f 115, f 116], []⟩ ∧ ∀ i, f i = sl a i := fr_any h

/-- Where the two colons stand, as far as it is looked for. -/
def Sees (l : Tx) (at_ : Int) (k : Nat) : Prop := (at_ = -1 ∧ k ≤ l.length ∧ Lib.NoOcc l [58, 58] k) ∨ (∃ i : Nat, at_ = i ∧ k = i + 1 ∧ k + 1 ≤ l.length ∧ Lib.index l [58, 58] = i)
theorem occ2 {l : Tx} {k : Nat} {b c : UInt8} (hb : l[k]? = some b) (hc : l[k + 1]? = some c) : Lib.occAt l [58, 58] k = (b == 58 && c == 58) := by
  have h1 := (List.getElem?_eq_some_iff.1 hb).1
  have h2 := (List.getElem?_eq_some_iff.1 hc).1
  have hd : l.drop k = b :: c :: l.drop (k + 2) := by
    rw [List.drop_eq_getElem_cons h1, List.drop_eq_getElem_cons h2, (List.getElem?_eq_some_iff.1 hb).2, (List.getElem?_eq_some_iff.1 hc).2]
  unfold Lib.occAt
  rw [hd]
  simp [List.isPrefixOf, Bool.beq_comm]
theorem slice_two {l : Tx} {k : Nat} {b c : UInt8} (hb : l[k]? = some b) (hc : l[k + 1]? = some c) : (⟨l.toArray⟩ : ByteArray).extract k (k + 2) = ⟨#[b, c]⟩ := by
  have h1 := (List.getElem?_eq_some_iff.1 hb).1
  have h2 := (List.getElem?_eq_some_iff.1 hc).1
  apply ByteArray.ext
  rw [ByteArray.data_extract]
  apply Array.ext'
  simp
  rw [List.drop_eq_getElem_cons h1, List.drop_eq_getElem_cons h2, (List.getElem?_eq_some_iff.1 hb).2, (List.getElem?_eq_some_iff.1 hc).2]
  rfl
theorem Sees.next {l : Tx} {k : Nat} {b c : UInt8} (h : Lib.NoOcc l [58, 58] k) (hb : l[k]? = some b) (hc : l[k + 1]? = some c) :
    ((b == 58 && c == 58) = true → Sees l k (k + 1)) ∧ ((b == 58 && c == 58) = false → Sees l (-1) (k + 1)) := by
  have h2 := (List.getElem?_eq_some_iff.1 hc).1
  have ho := occ2 hb hc
  refine ⟨fun e => .inr ⟨k, rfl, rfl, by omega, Lib.index_first (by omega) (ho.trans e) h⟩, fun e => .inl ⟨rfl, by omega, fun j hj => ?_⟩⟩
  by_cases hjk : j = k
  · rw [hjk, ho, e]
  · exact h j (by omega)
theorem Sees.done {l : Tx} {at_ : Int} {k : Nat} (h : Sees l at_ k) (hk : ¬ (k + 1 < l.length ∧ at_ < 0)) : at_ = Lib.index l [58, 58] := by
  rcases h with ⟨h1, h2, h3⟩ | ⟨i, h1, h2, h3, h4⟩
  · have hkl : l.length ≤ k + 1 := by omega
    rw [h1]
    symm
    apply Lib.index_none
    intro j hj
    by_cases hjk : j < k
    · exact h3 j hjk
    · cases hq : Lib.occAt l [58, 58] j with
      | false => rfl
      | true =>
        have := Lib.occAt_room hq
        simp at this
        omega
  · rw [h1, h4]

set_option maxRecDepth 100000 in
set_option maxHeartbeats 4000000 in
theorem s0 (l : Tx) (w : World) (a : Act) (hf : Fr 117 a) (h0 : sl a 0 = .string ⟨l.toArray⟩) :
    Code.wp Tryd.prog (cAt [0] K6) (Exit.then (fun a' w' => ∃ gO, Fr 117 a' ∧ sl a' 0 = .string ⟨l.toArray⟩ ∧ sl a' 2 = .pointer (some ⟨gO, 0, none⟩) ∧ Ab w' gO false (zs 16) ∧ Below w.heap.size w w' ∧ w.heap.size ≤ gO) Nope) a w := by
  obtain ⟨f, ha, hs⟩ := fr117 hf
  have e0 := (hs 0).trans h0
  rw [e0] at ha
  clear hs hf e0 h0
  subst ha
  refine piece2 fun J0 K0 hJ0 hK0 => ?_
  conv => arg 2; whnf
  have HA : Hid (Ab (w.alloc (.cells (adl false (zs 16)).toArray 27)) w.heap.size false (zs 16)) := Ab.new _ _ _
  have HB : Hid (Below w.heap.size w (w.alloc (.cells (adl false (zs 16)).toArray 27))) := (Below.refl _ _).alloc (Nat.le_refl _) _
  go_wp2_with fail
  refine Met.intro (hJ0 _ _ ?_)
  exact ⟨_, ⟨rfl, rfl⟩, rfl, rfl, HA.out, HB.out, Nat.le_refl _⟩

set_option maxRecDepth 100000 in
set_option maxHeartbeats 4000000 in
theorem s1 (l : Tx) (gO : Nat) (w : World) (a : Act) (hf : Fr 117 a) (h0 : sl a 0 = .string ⟨l.toArray⟩) (h2 : sl a 2 = .pointer (some ⟨gO, 0, none⟩)) :
    Code.wp Tryd.prog (cAt [1,0] K6) (Exit.then (fun a' w' => Fr 117 a' ∧ sl a' 0 = .string ⟨l.toArray⟩ ∧ sl a' 2 = .pointer (some ⟨gO, 0, none⟩) ∧ sl a' 4 = .int .i64 (-1) ∧ w = w') Nope) a w := by
  obtain ⟨f, ha, hs⟩ := fr117 hf
  have e0 := (hs 0).trans h0
  have e2 := (hs 2).trans h2
  rw [e0, e2] at ha
  clear hs hf e0 h0 e2 h2
  subst ha
  refine piece2 fun J0 K0 hJ0 hK0 => ?_
  conv => arg 2; whnf
  go_wp2_with fail
  refine Met.intro (hJ0 _ _ ?_)
  exact ⟨⟨rfl, rfl⟩, rfl, rfl, rfl, rfl⟩

set_option maxRecDepth 100000 in
set_option maxHeartbeats 4000000 in
theorem s2 (l : Tx) (gO : Nat) (w : World) (a : Act) (hf : Fr 117 a) (h0 : sl a 0 = .string ⟨l.toArray⟩) (h2 : sl a 2 = .pointer (some ⟨gO, 0, none⟩)) (h4 : sl a 4 = .int .i64 (-1)) :
    Code.wp Tryd.prog (cAt [1,1,0,0] K6) (Exit.then (fun a' w' => Fr 117 a' ∧ sl a' 0 = .string ⟨l.toArray⟩ ∧ sl a' 2 = .pointer (some ⟨gO, 0, none⟩) ∧ sl a' 4 = .int .i64 (-1) ∧ sl a' 5 = .int .i64 0 ∧ w = w') Nope) a w := by
  obtain ⟨f, ha, hs⟩ := fr117 hf
  have e0 := (hs 0).trans h0
  have e2 := (hs 2).trans h2
  have e4 := (hs 4).trans h4
  rw [e0, e2, e4] at ha
  clear hs hf e0 h0 e2 h2 e4 h4
  subst ha
  refine piece2 fun J0 K0 hJ0 hK0 => ?_
  conv => arg 2; whnf
  go_wp2_with fail
  refine Met.intro (hJ0 _ _ ?_)
  exact ⟨⟨rfl, rfl⟩, rfl, rfl, rfl, rfl, rfl⟩

set_option maxRecDepth 100000 in
set_option maxHeartbeats 4000000 in
theorem s3 (l : Tx) (gO k : Nat) (at_ : Int) (w : World) (hl : l.length ≤ 1000) (hat : at_ = -1) (hk : k + 1 < l.length) (hno : Hid (Lib.NoOcc l [58, 58] k)) (a : Act) (hf : Fr 117 a) (h0 : sl a 0 = .string ⟨l.toArray⟩) (h2 : sl a 2 = .pointer (some ⟨gO, 0, none⟩)) (h4 : sl a 4 = .int .i64 at_) (h5 : sl a 5 = .int .i64 (k : Int)) :
    Code.wp Tryd.prog (cAt [1,1,0,1,2,2] K6) (Exit.then (fun a' w' => ∃ at2, Fr 117 a' ∧ sl a' 0 = .string ⟨l.toArray⟩ ∧ sl a' 2 = .pointer (some ⟨gO, 0, none⟩) ∧ sl a' 4 = .int .i64 at2 ∧ sl a' 5 = .int .i64 ((k : Int) + 1) ∧ Sees l at2 (k + 1) ∧ w = w') Nope) a w := by
  obtain ⟨f, ha, hs⟩ := fr117 hf
  have e0 := (hs 0).trans h0
  have e2 := (hs 2).trans h2
  have e4 := (hs 4).trans h4
  have e5 := (hs 5).trans h5
  rw [e0, e2, e4, e5] at ha
  clear hs hf e0 h0 e2 h2 e4 h4 e5 h5
  subst ha
  refine piece2 fun J0 K0 hJ0 hK0 => ?_
  conv => arg 2; whnf
  subst hat
  obtain ⟨b, hb⟩ : ∃ b, l[k]? = some b := ⟨_, List.getElem?_eq_getElem (by omega)⟩
  obtain ⟨c, hc⟩ : ∃ c, l[k + 1]? = some c := ⟨_, List.getElem?_eq_getElem hk⟩
  have hsx := slice_two hb hc
  have HN := Lib.hid (Sees.next hno.out hb hc)
  have e1 : IntKind.i64.wrap ((k : Int) + 1) = (k : Int) + 1 := by rw [IntKind.wrap_i64]; omega
  have e2 : IntKind.i64.wrap ((k : Int) + 2) = (k : Int) + 2 := by rw [IntKind.wrap_i64]; omega
  have hk2 : (k : Int) + 1 < (l.length : Int) := by omega
  have hs1 : (0 : Int) ≤ (k : Int) + 2 := by omega
  have hs2 : (k : Int) + 2 ≤ (l.length : Int) := by omega
  have hs3 : (k : Int) ≤ (k : Int) + 2 := by omega
  clear hb hc hno
  cases hq : (b == 58 && c == 58) with
  | true =>
    have HS := Lib.hid (HN.out.1 hq)
    have hbq : (b == 58) = true := by simp at hq; simp [hq.1]
    have hcq : (c == 58) = true := by simp at hq; simp [hq.2]
    have hb2 : b = 58 := by simpa using hbq
    have hc2 : c = 58 := by simpa using hcq
    subst hb2 hc2
    clear hq
    go_wp2_with fail
    refine Met.intro (hJ0 _ _ ?_)
    exact ⟨(k : Int), ⟨rfl, rfl⟩, rfl, rfl, rfl, rfl, HS.out, rfl⟩
  | false =>
    have HS := Lib.hid (HN.out.2 hq)
    have hq2 : ([b, c] == [(58 : UInt8), 58]) = false := by simpa using hq
    go_wp2_with fail
    refine Met.intro (hJ0 _ _ ?_)
    exact ⟨-1, ⟨rfl, rfl⟩, rfl, rfl, rfl, rfl, HS.out, rfl⟩

set_option maxRecDepth 100000 in
set_option maxHeartbeats 4000000 in
theorem s3x (l : Tx) (gO k : Nat) (at_ : Int) (w : World) (hk : k ≤ 1000) (hx : ¬ (k + 1 < l.length ∧ at_ < 0)) (a : Act) (hf : Fr 117 a) (h0 : sl a 0 = .string ⟨l.toArray⟩) (h2 : sl a 2 = .pointer (some ⟨gO, 0, none⟩)) (h4 : sl a 4 = .int .i64 at_) (h5 : sl a 5 = .int .i64 (k : Int)) :
    Code.wp Tryd.prog (cAt [1,1,0,1,2,2] K6) (Outs 0 (fun a' w' => Fr 117 a' ∧ sl a' 0 = .string ⟨l.toArray⟩ ∧ sl a' 2 = .pointer (some ⟨gO, 0, none⟩) ∧ sl a' 4 = .int .i64 at_ ∧ w = w')) a w := by
  obtain ⟨f, ha, hs⟩ := fr117 hf
  have e0 := (hs 0).trans h0
  have e2 := (hs 2).trans h2
  have e4 := (hs 4).trans h4
  have e5 := (hs 5).trans h5
  rw [e0, e2, e4, e5] at ha
  clear hs hf e0 h0 e2 h2 e4 h4 e5 h5
  subst ha
  conv => arg 2; whnf
  have e1 : IntKind.i64.wrap ((k : Int) + 1) = (k : Int) + 1 := by rw [IntKind.wrap_i64]; omega
  by_cases hk1 : k + 1 < l.length
  · have hk2 : (k : Int) + 1 < (l.length : Int) := by omega
    have hat2 : ¬ at_ < 0 := fun e => hx ⟨hk1, e⟩
    go_wp2_with fail
    exact ⟨rfl, ⟨rfl, rfl⟩, rfl, rfl, rfl, rfl⟩
  · have hk2 : ¬ (k : Int) + 1 < (l.length : Int) := by omega
    go_wp2_with fail
    exact ⟨rfl, ⟨rfl, rfl⟩, rfl, rfl, rfl, rfl⟩

theorem seek (l : Tx) (gO : Nat) (w : World) (hl : l.length ≤ 1000) (a : Act) (hf : Fr 117 a) (h0 : sl a 0 = .string ⟨l.toArray⟩) (h2 : sl a 2 = .pointer (some ⟨gO, 0, none⟩)) (h4 : sl a 4 = .int .i64 (-1)) :
    Code.wp Tryd.prog (cAt [1,1,0] K6) (Exit.then (fun a' w' => Fr 117 a' ∧ sl a' 0 = .string ⟨l.toArray⟩ ∧ sl a' 2 = .pointer (some ⟨gO, 0, none⟩) ∧ sl a' 4 = .int .i64 (Lib.index l [58, 58]) ∧ w = w') Nope) a w := by
  refine wp_sqR (x := cAt [1,1,0,0] K6) (y := cAt [1,1,0,1] K6) (by kernel_rfl) (s2 l gO w a hf h0 h2 h4) ?_
  rintro a1 _ ⟨hf, h0, h2, h4, h5, rfl⟩
  refine wp_blockR (x := cAt [1,1,0,1,2] K6) (id := 0) (by kernel_rfl) ?_
  refine wp_loopR (x := cAt [1,1,0,1,2,2] K6) (by kernel_rfl) (fun a' w' => ∃ (at_ : Int) (k : Nat), Fr 117 a' ∧ sl a' 0 = .string ⟨l.toArray⟩ ∧ sl a' 2 = .pointer (some ⟨gO, 0, none⟩) ∧ sl a' 4 = .int .i64 at_ ∧ sl a' 5 = .int .i64 (k : Int) ∧ k ≤ 1000 ∧ Sees l at_ k ∧ w = w') (fun a' _ => 1001 - (intOf (sl a' 5)).toNat) ⟨-1, 0, hf, h0, h2, h4, h5, by omega, .inl ⟨rfl, Nat.zero_le _, fun j hj => by omega⟩, rfl⟩ ?_
  rintro a' w' ⟨at_, k, hf, h0, h2, h4, h5, hk, hsee, rfl⟩
  by_cases hx : k + 1 < l.length ∧ at_ < 0
  · have hneg : at_ = -1 ∧ Lib.NoOcc l [58, 58] k := by
      rcases hsee with ⟨h1, _, h3⟩ | ⟨i, h1, _⟩
      · exact ⟨h1, h3⟩
      · omega
    refine wp_endR (s3 l gO k at_ w hl hneg.1 hx.1 hneg.2 a' hf h0 h2 h4 h5) ?_
    rintro b2 _ ⟨at2, hf', h0', h2', h4', h5', hsee', rfl⟩
    refine ⟨⟨at2, k + 1, hf', h0', h2', h4', by rw [h5']; rfl, by omega, hsee', rfl⟩, ?_⟩
    rw [h5, h5']
    simp only [intOf]
    omega
  · have hdone := hsee.done hx
    refine wp_endX (s3x l gO k at_ w hk hx a' hf h0 h2 h4 h5) ?_
    rintro b2 _ ⟨hf', h0', h2', h4', rfl⟩
    refine thru ?_
    exact ⟨hf', h0', h2', by rw [h4', hdone], rfl⟩
end Go.Proofs.YtbnfmiopgjmppaaDoor

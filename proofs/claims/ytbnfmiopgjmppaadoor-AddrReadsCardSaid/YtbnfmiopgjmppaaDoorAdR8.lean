/-
  The contract of the document's own 'six'. Condition: a text of at most 1000 bytes. (Made by gen_adr8.py.)
-/
import Derived.Test.YtbnfmiopgjmppaaDoorAdR7
namespace Go.Proofs.YtbnfmiopgjmppaaDoor
open Go.RowKit

theorem cut_of_index {l : Tx} {i : Nat} (h : Lib.index l [58, 58] = (i : Int)) : Lib.cut l [58, 58] = (l.take i, l.drop (i + 2), true) := by
  unfold Lib.cut
  rw [h, if_pos (by omega)]
  simp
theorem six_none {l : Tx} {ok : Bool} {vs : List Nat} (hi : Lib.index l [58, 58] = -1) (h : (ok = true ∧ gr0 l = some vs) ∨ (ok = false ∧ gr0 l = none)) : Six6 l ok vs := by
  have hc := cut2_none hi
  rcases h with ⟨rfl, hg⟩ | ⟨rfl, hg⟩
  · refine .inl ⟨rfl, gr0_lt hg, fun h8 => ?_, fun h8 => ?_⟩
    · unfold parse6; rw [hc, hg]; simp [h8]
    · unfold parse6; rw [hc, hg]; simp [h8]
  · refine .inr ⟨rfl, ?_⟩
    unfold parse6; rw [hc, hg]; simp
theorem six_yes {l : Tx} {i : Nat} {av bs : List Nat} (hi : Lib.index l [58, 58] = (i : Int)) (ha : gr0 (l.take i) = some av) (hb : gr0 (l.drop (i + 2)) = some bs) (h7 : av.length + bs.length ≤ 7) :
    Six6 l true ((av ++ List.replicate (8 - (av.length + bs.length)) 0) ++ bs) := by
  have hc := cut_of_index hi
  refine .inl ⟨rfl, ?_, fun _ => ?_, fun h => absurd ?_ h⟩
  · intro v hv
    rw [List.mem_append, List.mem_append] at hv
    rcases hv with (hv | hv) | hv
    · exact gr0_lt ha v hv
    · rw [List.eq_of_mem_replicate hv]; decide
    · exact gr0_lt hb v hv
  · unfold parse6; rw [hc, ha, hb]; simp [h7]
  · simp; omega
theorem six_not {l : Tx} {i : Nat} {av bs : List Nat} {ok1 ok2 : Bool} (hi : Lib.index l [58, 58] = (i : Int)) (ha : (ok1 = true ∧ gr0 (l.take i) = some av) ∨ (ok1 = false ∧ gr0 (l.take i) = none ∧ av = [])) (hb : (ok2 = true ∧ gr0 (l.drop (i + 2)) = some bs) ∨ (ok2 = false ∧ gr0 (l.drop (i + 2)) = none ∧ bs = []))
    (h : (ok1 && (ok2 && decide (av.length + bs.length ≤ 7))) = false) : parse6 l = none := by
  have hc := cut_of_index hi
  unfold parse6
  rw [hc]
  rcases ha with ⟨rfl, ha⟩ | ⟨rfl, ha, rfl⟩
  · rcases hb with ⟨rfl, hb⟩ | ⟨rfl, hb, rfl⟩
    · simp at h
      simp [ha, hb]
      omega
    · simp [ha, hb]
  · simp [ha]
theorem gbI_append (a b : List Nat) : gbI (a ++ b) = gbI a ++ gbI b := by simp [gbI, gby]
theorem fill_step {vs : List Nat} {k v : Nat} {ys : List Int} (hv : vs[k]? = some v) (hl : ys.length = 16) (hk : k < 8) (h : ys.take (2 * k) = gbI (vs.take k)) :
    ((ys.set (2 * k) ((v / 256 : Nat) : Int)).set (2 * k + 1) ((v % 256 : Nat) : Int)).take (2 * (k + 1)) = gbI (vs.take (k + 1)) := by
  have e : vs.take (k + 1) = vs.take k ++ [v] := by rw [List.take_add_one, hv]; rfl
  rw [e, gbI_append, ← h]
  have hd : (ys.drop (2 * k)).length = 16 - 2 * k := by simp [hl]
  have hy : ys = ys.take (2 * k) ++ ys.drop (2 * k) := (List.take_append_drop _ _).symm
  have hA : (ys.take (2 * k)).length = 2 * k := by simp [hl]; omega
  generalize ys.take (2 * k) = A at hy hA
  generalize ys.drop (2 * k) = C at hy hd
  match C, hd with
  | [], hd => simp at hd; omega
  | [_], hd => simp at hd; omega
  | p :: q :: r, _ =>
    rw [hy, ← hA]
    have h2 : 2 * (k + 1) = A.length + 2 := by omega
    rw [h2]
    simp [List.take_append, gbI, gby]
    exact List.take_of_length_le (by omega)
/-- How many a value that is a slice has. -/
def slN (v : Value) : Nat := match v with | .slice _ n _ => n | _ => 0

set_option maxRecDepth 100000 in
set_option maxHeartbeats 4000000 in
theorem s8 (l : Tx) (gO i : Nat) (wr : World) (a : Act) (hf : Fr 117 a) (h2 : sl a 2 = .pointer (some ⟨gO, 0, none⟩)) (h0 : sl a 0 = .string ⟨l.toArray⟩) (h4 : sl a 4 = .int .i64 (i : Int)) :
    Code.wp Tryd.prog (cAt [1,1,1,1,0,0] K6) (Exit.then (fun a' w' => Fr 117 a' ∧ sl a' 0 = .string ⟨l.toArray⟩ ∧ sl a' 2 = .pointer (some ⟨gO, 0, none⟩) ∧ sl a' 4 = .int .i64 (i : Int) ∧ sl a' 38 = .bool true ∧ wr = w') Nope) a wr := by
  obtain ⟨f, ha, hs⟩ := fr117 hf
  have e2 := (hs 2).trans h2
  have e0 := (hs 0).trans h0
  have e4 := (hs 4).trans h4
  rw [e2, e0, e4] at ha
  clear hs hf e2 h2 e0 h0 e4 h4
  subst ha
  refine piece2 fun J0 K0 hJ0 hK0 => ?_
  conv => arg 2; whnf
  have hi : (0 : Int) ≤ (i : Int) := by omega
  go_wp2_with fail
  refine Met.intro (hJ0 _ _ ?_)
  exact ⟨⟨rfl, rfl⟩, rfl, rfl, rfl, rfl, rfl⟩

set_option maxRecDepth 100000 in
set_option maxHeartbeats 4000000 in
theorem fill0 (w wr : World) (gO n1 c1 n2 c2 : Nat) (a1 a2 : Option Addr) (ok : Bool) (av bs : List Nat) (h1n : n1 ≤ 2000) (h2n : n2 ≤ 2000) (h7 : ok = true → n1 + n2 ≤ 7) (HZ : Hid (Sz w wr gO a1 n1 c1 av a2 n2 c2 bs)) (a : Act) (hf : Fr 117 a) (h2 : sl a 2 = .pointer (some ⟨gO, 0, none⟩)) (h6 : sl a 6 = .slice a1 n1 c1) (h7' : sl a 7 = .bool ok) (h10 : sl a 10 = .slice a2 n2 c2) :
    Code.wp Tryd.prog (cAt [1,1,1,1,0,1,3,1,1,1,1,0] K6) (Exit.then (fun a' w' => ∃ (a1 : Option Addr) (m c1 : Nat) (av' : List Nat), Fr 117 a' ∧ sl a' 2 = .pointer (some ⟨gO, 0, none⟩) ∧ sl a' 6 = .slice a1 m c1 ∧ sl a' 7 = .bool ok ∧ sl a' 10 = .slice a2 n2 c2 ∧ m ≤ 2000 ∧ Sz w w' gO a1 m c1 av' a2 n2 c2 bs ∧ ((ok = true ∧ av' = av ++ List.replicate (8 - (n1 + n2)) 0) ∨ ok = false)) Nope) a wr := by
  refine wp_blockR (x := cAt [1,1,1,1,0,1,3,1,1,1,1,0,2] K6) (id := 2) (by kernel_rfl) ?_
  refine wp_loopR (x := cAt [1,1,1,1,0,1,3,1,1,1,1,0,2,2] K6) (by kernel_rfl) (fun a' w' => ∃ (a1 : Option Addr) (m c1 : Nat) (av' : List Nat), Fr 117 a' ∧ sl a' 2 = .pointer (some ⟨gO, 0, none⟩) ∧ sl a' 6 = .slice a1 m c1 ∧ sl a' 7 = .bool ok ∧ sl a' 10 = .slice a2 n2 c2 ∧ Sz w w' gO a1 m c1 av' a2 n2 c2 bs ∧ ((ok = true ∧ n1 ≤ m ∧ m + n2 ≤ 8 ∧ av' = av ++ List.replicate (m - n1) 0) ∨ (ok = false ∧ m = n1 ∧ av' = av))) (fun a' _ => 8 - slN (sl a' 6)) ⟨a1, n1, c1, av, hf, h2, h6, h7', h10, HZ.out, by
    cases ok with
    | true => exact .inl ⟨rfl, Nat.le_refl _, by have := h7 rfl; omega, by simp⟩
    | false => exact .inr ⟨rfl, rfl, rfl⟩⟩ ?_
  rintro a' w' ⟨a1', m, c1', av', hf, h2, h6, h7', h10, hz, hr⟩
  by_cases hx : ok = true ∧ m + n2 < 8
  · obtain ⟨rfl, hlt⟩ := hx
    rcases hr with ⟨_, hm1, hm2, hav⟩ | ⟨hr, _⟩
    · refine wp_endR (s14 w w' gO m c1' n2 c2 a1' a2 av' bs hlt hz a' hf h2 h6 h7' h10) ?_
      rintro b2 w2 ⟨a1'', c1'', hf', h2', h6', h7'', h10', hz'⟩
      refine ⟨⟨a1'', m + 1, c1'', av' ++ [0], hf', h2', h6', h7'', h10', hz', .inl ⟨rfl, by omega, by omega, ?_⟩⟩, ?_⟩
      · rw [hav, List.append_assoc, show m + 1 - n1 = (m - n1) + 1 by omega, List.replicate_succ']
      · rw [h6, h6']
        simp only [slN]
        omega
    · cases hr
  · have hm : m ≤ 2000 := by rcases hr with ⟨_, _, h, _⟩ | ⟨_, h, _⟩ <;> omega
    refine wp_endX (s14x gO m c1' n2 c2 a1' a2 ok w' hm h2n hx a' hf h2 h6 h7' h10) ?_
    rintro b2 _ ⟨hf', h2', h6', h7'', h10', rfl⟩
    refine thru ?_
    refine ⟨a1', m, c1', av', hf', h2', h6', h7'', h10', hm, hz, ?_⟩
    rcases hr with ⟨h, h1, h3, hav⟩ | ⟨h, _⟩
    · refine .inl ⟨h, ?_⟩
      have : m + n2 = 8 := by
        rcases Nat.lt_or_ge (m + n2) 8 with q | q
        · exact absurd ⟨h, q⟩ hx
        · omega
      rw [hav, show m - n1 = 8 - (n1 + n2) by omega]
    · exact .inr h

set_option maxRecDepth 100000 in
set_option maxHeartbeats 4000000 in
theorem mid (l : Tx) (gO nL cL : Nat) (aL : Option Addr) (ok : Bool) (vs : List Nat) (w wr : World) (hl : l.length ≤ 1000) (hx : Sx w wr gO aL nL cL vs) (hg : (ok = true ∧ gr0 l = some vs) ∨ (ok = false ∧ gr0 l = none)) (a : Act) (hf : Fr 117 a) (h0 : sl a 0 = .string ⟨l.toArray⟩) (h2 : sl a 2 = .pointer (some ⟨gO, 0, none⟩)) (h4 : sl a 4 = .int .i64 (Lib.index l [58, 58])) (h6 : sl a 6 = .slice aL nL cL) (h7 : sl a 7 = .bool ok) :
    Code.wp Tryd.prog (cAt [1,1,1,1,0] K6) (Exit.then (fun a' w' => ∃ (aL : Option Addr) (nL cL : Nat) (ok : Bool) (vs : List Nat), Fr 117 a' ∧ sl a' 2 = .pointer (some ⟨gO, 0, none⟩) ∧ sl a' 6 = .slice aL nL cL ∧ sl a' 7 = .bool ok ∧ Sx w w' gO aL nL cL vs ∧ Six6 l ok vs) Nope) a wr := by
  rcases index2_at l with hi | ⟨hi0, hi2⟩
  · refine wp_endR (s8x l gO nL cL aL ok wr hi a hf h0 h2 h4 h6 h7) ?_
    rintro a1 _ ⟨hf, h2, h6, h7, rfl⟩
    exact ⟨aL, nL, cL, ok, vs, hf, h2, h6, h7, hx, six_none hi hg⟩
  obtain ⟨i, hi⟩ : ∃ i : Nat, Lib.index l [58, 58] = (i : Int) := ⟨(Lib.index l [58, 58]).toNat, by omega⟩
  rw [hi] at h4
  have hi3 : i + 2 ≤ l.length := by omega
  refine wp_sqR (x := cAt [1,1,1,1,0,0] K6) (y := cAt [1,1,1,1,0,1] K6) (by kernel_rfl) (s8 l gO i wr a hf h2 h0 h4) ?_
  rintro a0 _ ⟨hf, h0, h2, h4, h38, rfl⟩
  have hcond : cAt [1,1,1,1,0,1] K6 = .cond (.tmp 38) (cAt [1,1,1,1,0,1,3] K6) .skip := by kernel_rfl
  rw [hcond]
  refine wp_cond_true (by rw [← h38]; rfl) ?_
  refine wp_sqR (x := cAt [1,1,1,1,0,1,3,0] K6) (y := cAt [1,1,1,1,0,1,3,1] K6) (by kernel_rfl) (s9 l gO i nL cL aL vs w wr hl hi3 hx a0 hf h0 h2 h4) ?_
  rintro a1 w1 ⟨x1, n1, c1, ok1, av, hf, h0, h2, h4, h8, h9, hx1, hga⟩
  refine wp_sqR (x := cAt [1,1,1,1,0,1,3,1,0] K6) (y := cAt [1,1,1,1,0,1,3,1,1] K6) (by kernel_rfl) (s10 l gO i n1 c1 x1 ok1 av w w1 hl hi3 hx1 a1 hf h0 h2 h4 h8 h9) ?_
  rintro a2 w2 ⟨x2, n2, c2, ok2, bs, hf, h2, h8, h9, h10, h11, hz, hgb⟩
  have hn1 : av.length = n1 := OwnI.len hz.a.own
  have hn2 : bs.length = n2 := OwnI.len hz.b
  have h1n : n1 ≤ 2000 := by
    rcases hga with ⟨_, h⟩ | ⟨_, _, h⟩
    · have := gr0_len h (by simp; omega); omega
    · rw [h] at hn1; simp at hn1; omega
  have h2n : n2 ≤ 2000 := by
    rcases hgb with ⟨_, h⟩ | ⟨_, _, h⟩
    · have := gr0_len h (by simp; omega); omega
    · rw [h] at hn2; simp at hn2; omega
  refine wp_sqR (x := cAt [1,1,1,1,0,1,3,1,1,0] K6) (y := cAt [1,1,1,1,0,1,3,1,1,1] K6) (by kernel_rfl) (s11 gO n1 c1 n2 c2 x1 x2 ok1 ok2 w2 h1n h2n a2 hf h2 h8 h9 h10 h11) ?_
  rintro a3 _ ⟨hf, h2, h7, h8, h10, rfl⟩
  have hq : (ok1 && (ok2 && decide (av.length + bs.length ≤ 7))) = (ok1 && (ok2 && decide (n1 + n2 ≤ 7))) := by rw [hn1, hn2]
  have ht : (ok1 && (ok2 && decide (n1 + n2 ≤ 7))) = true → ok1 = true ∧ ok2 = true ∧ n1 + n2 ≤ 7 := by intro h; simpa using h
  have hno := fun h => six_not hi hga hgb (hq.trans h)
  generalize (ok1 && (ok2 && decide (n1 + n2 ≤ 7))) = ok at h7 ht hno
  refine wp_sqR (x := cAt [1,1,1,1,0,1,3,1,1,1,0] K6) (y := cAt [1,1,1,1,0,1,3,1,1,1,1] K6) (by kernel_rfl) (s12 gO n1 c1 n2 c2 x1 x2 ok w2 a3 hf h2 h7 h8 h10) ?_
  rintro a4 _ ⟨hf, h2, h6, h7, h10, rfl⟩
  refine wp_sqR (x := cAt [1,1,1,1,0,1,3,1,1,1,1,0] K6) (y := cAt [1,1,1,1,0,1,3,1,1,1,1,1] K6) (by kernel_rfl) (fill0 w w2 gO n1 c1 n2 c2 x1 x2 ok av bs h1n h2n (fun h => (ht h).2.2) hz a4 hf h2 h6 h7 h10) ?_
  rintro a5 w5 ⟨x1', m, c1', av', hf, h2, h6, h7, h10, hm, hz', hr⟩
  refine wp_endR (s15 w w5 gO m c1' n2 c2 x1' x2 ok av' bs hm h2n hz' a5 hf h2 h6 h7 h10) ?_
  rintro a6 w6 ⟨aF, nF, cF, hf, h2, h6, h7, hx6⟩
  refine ⟨aF, nF, cF, ok, av' ++ bs, hf, h2, h6, h7, hx6, ?_⟩
  cases ok with
  | false => exact .inr ⟨rfl, hno rfl⟩
  | true =>
    obtain ⟨rfl, rfl, h77⟩ := ht rfl
    rcases hga with ⟨_, hga⟩ | ⟨hga, _⟩
    · rcases hgb with ⟨_, hgb⟩ | ⟨hgb, _⟩
      · rcases hr with ⟨_, rfl⟩ | hr
        · have := six_yes hi hga hgb (by omega)
          rwa [hn1, hn2] at this
        · cases hr
      · cases hgb
    · cases hga

set_option maxRecDepth 100000 in
set_option maxHeartbeats 4000000 in
theorem s22x (gO g12 cL : Nat) (aL : Option Addr) (wr : World) (a : Act) (hf : Fr 117 a) (h2 : sl a 2 = .pointer (some ⟨gO, 0, none⟩)) (h6 : sl a 6 = .slice aL 8 cL) (h12 : sl a 12 = .pointer (some ⟨g12, 0, none⟩)) (h13 : sl a 13 = .int .i64 8) :
    Code.wp Tryd.prog (cAt [1,1,1,1,1,1,1,0,1,2,2] K6) (Outs 4 (fun a' w' => Fr 117 a' ∧ sl a' 2 = .pointer (some ⟨gO, 0, none⟩) ∧ sl a' 6 = .slice aL 8 cL ∧ sl a' 12 = .pointer (some ⟨g12, 0, none⟩) ∧ wr = w')) a wr := by
  obtain ⟨f, ha, hs⟩ := fr117 hf
  have e2 := (hs 2).trans h2
  have e6 := (hs 6).trans h6
  have e12 := (hs 12).trans h12
  have e13 := (hs 13).trans h13
  rw [e2, e6, e12, e13] at ha
  clear hs hf e2 h2 e6 h6 e12 h12 e13 h13
  subst ha
  conv => arg 2; whnf
  go_wp2_with fail
  exact ⟨rfl, ⟨rfl, rfl⟩, rfl, rfl, rfl, rfl⟩

set_option maxRecDepth 100000 in
set_option maxHeartbeats 4000000 in
theorem fill1 (gO g12 cL : Nat) (aL : Option Addr) (vs : List Nat) (w wr : World) (h8 : vs.length = 8) (hv : ∀ v ∈ vs, v < 65536) (HF : Sf w wr gO g12 aL cL vs (zs 16)) (a : Act) (hf : Fr 117 a) (h2 : sl a 2 = .pointer (some ⟨gO, 0, none⟩)) (h6 : sl a 6 = .slice aL 8 cL) (h12 : sl a 12 = .pointer (some ⟨g12, 0, none⟩)) :
    Code.wp Tryd.prog (cAt [1,1,1,1,1,1,1,0] K6) (Exit.then (fun a' w' => Fr 117 a' ∧ sl a' 2 = .pointer (some ⟨gO, 0, none⟩) ∧ sl a' 6 = .slice aL 8 cL ∧ sl a' 12 = .pointer (some ⟨g12, 0, none⟩) ∧ Sf w w' gO g12 aL cL vs (gbI vs)) Nope) a wr := by
  refine wp_sqR (x := cAt [1,1,1,1,1,1,1,0,0] K6) (y := cAt [1,1,1,1,1,1,1,0,1] K6) (by kernel_rfl) (s19 gO g12 cL aL wr a hf h2 h6 h12) ?_
  rintro a1 _ ⟨hf, h2, h6, h12, h13, rfl⟩
  refine wp_blockR (x := cAt [1,1,1,1,1,1,1,0,1,2] K6) (id := 4) (by kernel_rfl) ?_
  refine wp_loopR (x := cAt [1,1,1,1,1,1,1,0,1,2,2] K6) (by kernel_rfl) (fun a' w' => ∃ (k : Nat) (ys : List Int), Fr 117 a' ∧ sl a' 2 = .pointer (some ⟨gO, 0, none⟩) ∧ sl a' 6 = .slice aL 8 cL ∧ sl a' 12 = .pointer (some ⟨g12, 0, none⟩) ∧ sl a' 13 = .int .i64 (k : Int) ∧ k ≤ 8 ∧ ys.length = 16 ∧ ys.take (2 * k) = gbI (vs.take k) ∧ Sf w w' gO g12 aL cL vs ys) (fun a' _ => 8 - (intOf (sl a' 13)).toNat) ⟨0, zs 16, hf, h2, h6, h12, h13, by decide, rfl, rfl, HF⟩ ?_
  rintro a' w' ⟨k, ys, hf, h2, h6, h12, h13, hk, hys, htk, hsf⟩
  by_cases hlt : k < 8
  · obtain ⟨v, hvk⟩ : ∃ v, vs[k]? = some v := ⟨_, List.getElem?_eq_getElem (by omega)⟩
    refine wp_endR (s22 gO g12 cL k aL vs ys v w w' hlt (hv v (List.mem_of_getElem? hvk)) hvk hys hsf a' hf h2 h6 h12 h13) ?_
    rintro b2 w2 ⟨hf', h2', h6', h12', h13', hsf'⟩
    refine ⟨⟨k + 1, _, hf', h2', h6', h12', by rw [h13']; rfl, by omega, by simpa using hys, fill_step hvk hys hlt htk, hsf'⟩, ?_⟩
    rw [h13, h13']
    simp only [intOf]
    omega
  · obtain rfl : k = 8 := by omega
    refine wp_endX (s22x gO g12 cL aL w' a' hf h2 h6 h12 h13) ?_
    rintro b2 _ ⟨hf', h2', h6', h12', rfl⟩
    refine thru ?_
    refine ⟨hf', h2', h6', h12', ?_⟩
    rw [List.take_of_length_le (by omega), List.take_of_length_le (by omega)] at htk
    rw [← htk]
    exact hsf

theorem gbI_len {vs : List Nat} (h : vs.length = 8) : (gbI vs).length = 16 := by
  match vs, h with
  | [a, b, c, d, e, f, g, i], _ => rfl
set_option maxRecDepth 100000 in
set_option maxHeartbeats 4000000 in
theorem s24 (l : Tx) (gO g12 cL : Nat) (aL : Option Addr) (vs : List Nat) (w wr : World) (h8 : vs.length = 8) (hp : Hid (parse6 l = some vs)) (HF : Hid (Sf w wr gO g12 aL cL vs (gbI vs))) (a : Act) (hf : Fr 117 a) (h2 : sl a 2 = .pointer (some ⟨gO, 0, none⟩)) (h6 : sl a 6 = .slice aL 8 cL) (h12 : sl a 12 = .pointer (some ⟨g12, 0, none⟩)) :
    Code.wp Tryd.prog (cAt [1,1,1,1,1,1,1,1] K6) (bodyPost Tryd.prog Tryd.f45 (SixR w l)) a wr := by
  obtain ⟨f, ha, hs⟩ := fr117 hf
  have e2 := (hs 2).trans h2
  have e6 := (hs 6).trans h6
  have e12 := (hs 12).trans h12
  rw [e2, e6, e12] at ha
  clear hs hf e2 h2 e6 h6 e12 h12
  subst ha
  conv => arg 2; whnf
  have HL : Hid ((gbI vs).length = 16) := gbI_len h8
  go_wp2_with (first
    | (refine ldRg (.tmp 12) rfl (by rfl) g12 0 rfl true (gbI vs) HL.out (by with_reducible exact HF.out.row) ?_)
    | (refine stR (.tmp 2) (.tmp 116) rfl rfl gO 0 true (gbI vs) rfl rfl HL.out HF.out.out ?_))
  refine bodyPost_ret (ret_midT rfl _ _ gO 0 (adl true (gbI vs)) _ rfl (World.rangeAt_setCells_same _ _ _ _ (by have := HF.out.out; rwa [adl_len _ _ HL.out])) Tryd.underlying27 rfl (infR.trans (by rw [adl_len _ _ HL.out]))) rfl ?_
  exact ⟨Below.setCells HF.out.below gO HF.out.og _ _, .inl ⟨vs, hp.out, rfl⟩⟩

theorem sl_arg (xs : Array Value) (m i : Nat) (v : Value) (h : xs[i]? = some v) : sl ⟨xs ++ Array.replicate m undef, []⟩ i = v := by
  have hi := (Array.getElem?_eq_some_iff.1 h).1
  simp [sl, Array.getElem?_append, hi]
  exact (Array.getElem?_eq_some_iff.1 h).2
set_option maxRecDepth 100000 in
set_option maxHeartbeats 4000000 in
theorem r4six_any (l : Tx) (w : World) (hl : l.length ≤ 1000) : Calls Tryd.prog 45 #[.string ⟨l.toArray⟩] w (SixR w l) := by
  refine calls_of_wp (c := K6) Tryd.func45 (by kernel_rfl) ?_
  have hf : Fr 117 { tmps := #[.string ⟨l.toArray⟩] ++ Array.replicate (Tryd.f45.ntmps - (#[.string ⟨l.toArray⟩] : Array Value).size) undef, defers := [] } := ⟨rfl, by rw [Tryd.ntmps45]; simp⟩
  refine wp_sqR (x := cAt [0] K6) (y := cAt [1] K6) (by kernel_rfl) (s0 l w _ hf (sl_arg _ _ 0 _ rfl)) ?_
  rintro a0 w0 ⟨gO, hf, h0, h2, ha, hb, hg⟩
  refine wp_sqR (x := cAt [1,0] K6) (y := cAt [1,1] K6) (by kernel_rfl) (s1 l gO w0 a0 hf h0 h2) ?_
  rintro a1 _ ⟨hf, h0, h2, h4, rfl⟩
  refine wp_sqR (x := cAt [1,1,0] K6) (y := cAt [1,1,1] K6) (by kernel_rfl) (seek l gO w0 hl a1 hf h0 h2 h4) ?_
  rintro a2 _ ⟨hf, h0, h2, h4, rfl⟩
  refine wp_sqR (x := cAt [1,1,1,0] K6) (y := cAt [1,1,1,1] K6) (by kernel_rfl) (s7 l gO w w0 hl ⟨ha, hb, hg⟩ a2 hf h0 h2 h4) ?_
  rintro a3 w3 ⟨aL, nL, cL, ok, vs, hf, h0, h2, h4, h6, h7, hx, hgr⟩
  refine wp_sqR (x := cAt [1,1,1,1,0] K6) (y := cAt [1,1,1,1,1] K6) (by kernel_rfl) (mid l gO nL cL aL ok vs w w3 hl hx hgr a3 hf h0 h2 h4 h6 h7) ?_
  clear hx hgr
  rintro a4 w4 ⟨aL, nL, cL, ok, vs, hf, h2, h6, h7, hx, h66⟩
  have hn : vs.length = nL := OwnI.len hx.own
  by_cases hno : ok = true ∧ nL = 8
  · obtain ⟨rfl, rfl⟩ := hno
    rcases h66 with ⟨_, hlt, hy, _⟩ | ⟨h, _⟩
    · refine wp_sqR (x := cAt [1,1,1,1,1,0] K6) (y := cAt [1,1,1,1,1,1] K6) (by kernel_rfl) (s16 gO cL aL w4 a4 hf h2 h6 h7) ?_
      rintro a5 _ ⟨hf, h2, h6, rfl⟩
      refine wp_sqR (x := cAt [1,1,1,1,1,1,0] K6) (y := cAt [1,1,1,1,1,1,1] K6) (by kernel_rfl) (s18 gO cL aL vs w w4 hx a5 hf h2 h6) ?_
      rintro a6 w6 ⟨g12, hf, h2, h6, h12, hsf⟩
      refine wp_sqR (x := cAt [1,1,1,1,1,1,1,0] K6) (y := cAt [1,1,1,1,1,1,1,1] K6) (by kernel_rfl) (fill1 gO g12 cL aL vs w w6 hn hlt hsf a6 hf h2 h6 h12) ?_
      rintro a7 w7 ⟨hf, h2, h6, h12, hsf⟩
      exact s24 l gO g12 cL aL vs w w7 hn (hy hn) hsf a7 hf h2 h6 h12
    · cases h
  · refine s16no l gO nL cL aL ok vs w w4 hx hno ?_ a4 hf h2 h6 h7
    rcases h66 with ⟨h, _, _, hz⟩ | ⟨_, h⟩
    · exact hz (by intro e; exact hno ⟨h, by omega⟩)
    · exact h
end Go.Proofs.YtbnfmiopgjmppaaDoor

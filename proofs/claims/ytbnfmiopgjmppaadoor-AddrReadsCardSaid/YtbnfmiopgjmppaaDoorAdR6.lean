/-
  The contract of the document's own 'six'. Condition: a text of at most 1000 bytes. (Made by gen_adr6.py.)
-/
import Derived.Test.YtbnfmiopgjmppaaDoorAdR5
namespace Go.Proofs.YtbnfmiopgjmppaaDoor
open Go.RowKit

theorem nv_one (vs : List Nat) : ∀ u ∈ vs.map nv, u.oneCell' = true := by
  intro u hu
  obtain ⟨v, _, rfl⟩ := List.mem_map.1 hu
  rfl
/-- append(row, row2...), both of the call's own. -/
theorem run_append_ints (w : World) (base : Nat) {a : Option Addr} {n cap : Nat} {vs : List Nat} (hown : OwnI w base a n cap vs) {b : Option Addr} {m c : Nat} {us : List Nat} {base' : Nat} (h2 : OwnI w base' b m c us)
    (hb : base ≤ w.heap.size) (hn1 : n + m ≤ 100000) :
    ∃ a' cap' w', (Builtin.append_ #[95, 95] 95 #[.slice a n cap, .slice b m c]).run Tryd.prog w = .ok (.slice a' (n + m) cap') w' ∧ OwnI w' base a' (n + m) cap' (vs ++ us) ∧ Kept (fun k => blk a = some k) w w' := by
  obtain ⟨i0, hi, hz0, hz1, hz2⟩ := info_parts int_info
  rcases OwnG.cases h2 with ⟨rfl, rfl, rfl, h0⟩ | ⟨g2, cur2, rfl, _, hg2, hmc, hcm, hcs2, ht2⟩
  · have hu : us = [] := by simpa using h0
    subst hu
    refine ⟨a, cap, w, ?_, by rw [List.append_nil]; exact hown, Kept.refl _ _⟩
    rcases OwnG.cases hown with ⟨rfl, rfl, rfl, h1⟩ | ⟨g, cur, rfl, hbg, hg, hnc, hcm, hcs, htk⟩
    · simp [Builtin.append_, run_underlying Tryd.underlying95, sizeOf, typeInfo, hi, Builtin.lenOf, Builtin.firstCells]
    · simp [Builtin.append_, run_underlying Tryd.underlying95, sizeOf, typeInfo, hi, Builtin.lenOf, Builtin.firstCells, hnc, storeCells]
  · have hul : (us.map nv).length = m * 1 := by
      rw [← ht2, List.length_take, Array.length_toList]
      omega
    have hcells : ∀ j u, (us.map nv)[j]? = some u → w.cell? ((⟨g2, 0, none⟩ : Addr).add j) = some u := by
      intro j u hu
      rw [Addr.add_lit, cell_of_row w g2 (0 + j) cur2 _ (0, 0) hg2, Nat.zero_add]
      rw [← ht2, List.getElem?_take] at hu
      split at hu
      · simpa using hu
      · cases hu
    obtain ⟨v', w', hrun, k2, k3, k4, k5⟩ := run_append_own_at (P := Tryd.prog) w base 95 95 3 i0 _ 1 8 Tryd.underlying95 hi hz0 hz1 hz2 rfl (by omega) (.slice a n cap) n (vs.map nv) hown ⟨g2, 0, none⟩ m c (us.map nv) hul hcells (nv_one us) (by simp only [maxLen]; omega) (by omega) hb
    rw [ownBlock_eq] at k3
    have hk : Kept (fun k => blk a = some k) w w' := Kept.grown k3 (S := fun k => blk a = some k) (fun _ e => e)
    rcases k2.2 with ⟨rfl, h0⟩ | ⟨g, cap', cur, rfl, r⟩
    · refine ⟨none, 0, w', by rw [h0]; exact hrun, ?_, hk⟩
      unfold OwnI
      rw [List.map_append, h0]
      rw [h0] at k2
      exact k2
    · refine ⟨some ⟨g, 0, none⟩, cap', w', hrun, ?_, hk⟩
      unfold OwnI
      rw [List.map_append]
      exact k2
/-- The bytes of groups. -/
def gbI (gs : List Nat) : List Int := (gby gs).map fun v : Nat => (v : Int)
/-- What six answers. -/
def SixR (w : World) (l : Tx) (e : Ending) (w' : World) : Prop :=
  Below w.heap.size w w' ∧ ((∃ gs, parse6 l = some gs ∧ e = .returned (.tuple #[.agg (adl true (gbI gs)).toArray, .bool true])) ∨ (parse6 l = none ∧ e = .returned (.tuple #[.agg (adl false (zs 16)).toArray, .bool false])))
/-- What is known of the groups that were read. -/
def Six6 (l : Tx) (ok : Bool) (vs : List Nat) : Prop :=
  (ok = true ∧ (∀ v ∈ vs, v < 65536) ∧ (vs.length = 8 → parse6 l = some vs) ∧ (vs.length ≠ 8 → parse6 l = none)) ∨ (ok = false ∧ parse6 l = none)
theorem allO_lt : ∀ (ps : List Tx) (r : List Nat), allO hexO ps = some r → ∀ v ∈ r, v < 65536
  | [], r, h, v, hv => by simp [allO] at h; subst h; cases hv
  | x :: ps, r, h, v, hv => by
    rw [allO] at h
    split at h
    · cases h
    · rename_i u hu
      split at h
      · cases h
      · rename_i r' hr
        simp at h
        subst h
        rcases List.mem_cons.1 hv with rfl | hv
        · exact hexO_lt hu
        · exact allO_lt ps r' hr v hv
theorem gr0_lt {l : Tx} {r : List Nat} (h : gr0 l = some r) : ∀ v ∈ r, v < 65536 := by
  unfold gr0 at h
  split at h
  · simp at h; subst h; intro v hv; cases hv
  · exact allO_lt _ _ h
theorem gr0_len {l : Tx} {r : List Nat} (h : gr0 l = some r) (hl : l.length ≤ 1000) : r.length ≤ 1001 := by
  unfold gr0 at h
  split at h
  · simp at h; subst h; simp
  · rw [allO_len _ _ _ h]
    have := (cuts_len 58 l).1
    omega
theorem index2_at (l : Tx) : Lib.index l [58, 58] = -1 ∨ (0 ≤ Lib.index l [58, 58] ∧ Lib.index l [58, 58] + 2 ≤ l.length) := by
  rcases Int.lt_or_le (Lib.index l [58, 58]) 0 with h | h
  · exact .inl (by have := Lib.index_ge l [58, 58]; omega)
  · exact .inr ⟨h, by have := Lib.index_room l [58, 58] h; simpa using this⟩
/-- What lies there when the groups have been read. -/
structure Sx (w wr : World) (gO : Nat) (a : Option Addr) (n c : Nat) (vs : List Nat) : Prop where
  out : Ab wr gO false (zs 16)
  own : OwnI wr (gO + 1) a n c vs
  below : Below w.heap.size w wr
  og : w.heap.size ≤ gO
theorem Sx.sz {w wr : World} {gO : Nat} {a : Option Addr} {n c : Nat} {vs : List Nat} (h : Sx w wr gO a n c vs) : gO + 1 ≤ wr.heap.size := (Array.getElem?_eq_some_iff.1 h.out).1

set_option maxRecDepth 100000 in
set_option maxHeartbeats 4000000 in
theorem s7 (l : Tx) (gO : Nat) (w wr : World) (hl : l.length ≤ 1000) (HA : Hid (Ab wr gO false (zs 16) ∧ Below w.heap.size w wr ∧ w.heap.size ≤ gO)) (a : Act) (hf : Fr 117 a) (h0 : sl a 0 = .string ⟨l.toArray⟩) (h2 : sl a 2 = .pointer (some ⟨gO, 0, none⟩)) (h4 : sl a 4 = .int .i64 (Lib.index l [58, 58])) :
    Code.wp Tryd.prog (cAt [1,1,1,0] K6) (Exit.then (fun a' w' => ∃ aL nL cL ok vs, Fr 117 a' ∧ sl a' 0 = .string ⟨l.toArray⟩ ∧ sl a' 2 = .pointer (some ⟨gO, 0, none⟩) ∧ sl a' 4 = .int .i64 (Lib.index l [58, 58]) ∧ sl a' 6 = .slice aL nL cL ∧ sl a' 7 = .bool ok ∧ Sx w w' gO aL nL cL vs ∧ ((ok = true ∧ gr0 l = some vs) ∨ (ok = false ∧ gr0 l = none))) Nope) a wr := by
  obtain ⟨f, ha, hs⟩ := fr117 hf
  have e0 := (hs 0).trans h0
  have e2 := (hs 2).trans h2
  have e4 := (hs 4).trans h4
  rw [e0, e2, e4] at ha
  clear hs hf e0 h0 e2 h2 e4 h4
  subst ha
  refine piece2 fun J0 K0 hJ0 hK0 => ?_
  conv => arg 2; whnf
  go_wp2_with fail
  refine (r4groups_any l _ hl).mono ?_
  rintro e w1 ⟨hb1, hR⟩
  have hsz : gO < wr.heap.size := (Array.getElem?_eq_some_iff.1 HA.out.1).1
  have ha1 := HA.out.1.below hb1
  have hbw := HA.out.2.1.trans (hb1.mono HA.out.2.1.size)
  rcases hR with ⟨vs, aL, nL, cL, hg, rfl, ho⟩ | ⟨hg, rfl⟩
  · have HX : Hid (Sx w w1 gO aL nL cL vs ∧ gr0 l = some vs) := ⟨⟨ha1, ⟨ho.1, by
      rcases ho.2 with h | ⟨g, cap', cur, e, hb, r⟩
      · exact .inl h
      · exact .inr ⟨g, cap', cur, e, by omega, r⟩⟩, hbw, HA.out.2.2⟩, hg⟩
    clear hb1 ho hg ha1 hbw
    go_wp2_with fail
    refine Met.intro (hJ0 _ _ ?_)
    exact ⟨aL, nL, cL, true, vs, ⟨rfl, rfl⟩, rfl, rfl, rfl, rfl, rfl, HX.out.1, .inl ⟨rfl, HX.out.2⟩⟩
  · have HX : Hid (Sx w w1 gO none 0 0 [] ∧ gr0 l = none) := ⟨⟨ha1, OwnG.nil _ _ _ _, hbw, HA.out.2.2⟩, hg⟩
    clear hb1 hg ha1 hbw
    go_wp2_with fail
    refine Met.intro (hJ0 _ _ ?_)
    exact ⟨none, 0, 0, false, [], ⟨rfl, rfl⟩, rfl, rfl, rfl, rfl, rfl, HX.out.1, .inr ⟨rfl, HX.out.2⟩⟩

set_option maxRecDepth 100000 in
set_option maxHeartbeats 4000000 in
theorem s8x (l : Tx) (gO nL cL : Nat) (aL : Option Addr) (ok : Bool) (wr : World) (hx : Lib.index l [58, 58] = -1) (a : Act) (hf : Fr 117 a) (h0 : sl a 0 = .string ⟨l.toArray⟩) (h2 : sl a 2 = .pointer (some ⟨gO, 0, none⟩)) (h4 : sl a 4 = .int .i64 (Lib.index l [58, 58])) (h6 : sl a 6 = .slice aL nL cL) (h7 : sl a 7 = .bool ok) :
    Code.wp Tryd.prog (cAt [1,1,1,1,0] K6) (Exit.then (fun a' w' => Fr 117 a' ∧ sl a' 2 = .pointer (some ⟨gO, 0, none⟩) ∧ sl a' 6 = .slice aL nL cL ∧ sl a' 7 = .bool ok ∧ wr = w') Nope) a wr := by
  obtain ⟨f, ha, hs⟩ := fr117 hf
  have e0 := (hs 0).trans h0
  have e2 := (hs 2).trans h2
  have e4 := (hs 4).trans h4
  have e6 := (hs 6).trans h6
  have e7 := (hs 7).trans h7
  rw [e0, e2, e4, e6, e7] at ha
  clear hs hf e0 h0 e2 h2 e4 h4 e6 h6 e7 h7
  subst ha
  refine piece2 fun J0 K0 hJ0 hK0 => ?_
  conv => arg 2; whnf
  rw [hx]
  go_wp2_with fail
  refine Met.intro (hJ0 _ _ ?_)
  exact ⟨⟨rfl, rfl⟩, rfl, rfl, rfl, rfl⟩

theorem slice_to {l : Tx} {i : Nat} (_h : i ≤ l.length) : (⟨l.toArray⟩ : ByteArray).extract 0 i = ⟨(l.take i).toArray⟩ := by
  apply ByteArray.ext
  rw [ByteArray.data_extract]
  apply Array.ext'
  simp
theorem slice_from {l : Tx} {i : Nat} (_h : i ≤ l.length) : (⟨l.toArray⟩ : ByteArray).extract i l.length = ⟨(l.drop i).toArray⟩ := by
  apply ByteArray.ext
  rw [ByteArray.data_extract]
  apply Array.ext'
  simp
  rw [List.take_of_length_le (by simp)]
theorem OwnI.mono {w : World} {base base' : Nat} {a : Option Addr} {n c : Nat} {vs : List Nat} (h : OwnI w base a n c vs) (hb : base' ≤ base) : OwnI w base' a n c vs := ⟨h.1, by
  rcases h.2 with h | ⟨g, cap', cur, e, hb', r⟩
  · exact .inl h
  · exact .inr ⟨g, cap', cur, e, by omega, r⟩⟩
/-- What lies there when both parts have been read. -/
structure Sz (w wr : World) (gO : Nat) (a1 : Option Addr) (n1 c1 : Nat) (av : List Nat) (a2 : Option Addr) (n2 c2 : Nat) (bs : List Nat) : Prop where
  a : Sx w wr gO a1 n1 c1 av
  b : OwnI wr (gO + 1) a2 n2 c2 bs
  ap : ∀ k, blk a1 = some k → ¬ blk a2 = some k

set_option maxRecDepth 100000 in
set_option maxHeartbeats 4000000 in
theorem s9 (l : Tx) (gO i nL cL : Nat) (aL : Option Addr) (vs : List Nat) (w wr : World) (hl : l.length ≤ 1000) (hi : i + 2 ≤ l.length) (HA : Hid (Sx w wr gO aL nL cL vs)) (a : Act) (hf : Fr 117 a) (h0 : sl a 0 = .string ⟨l.toArray⟩) (h2 : sl a 2 = .pointer (some ⟨gO, 0, none⟩)) (h4 : sl a 4 = .int .i64 (i : Int)) :
    Code.wp Tryd.prog (cAt [1,1,1,1,0,1,3,0] K6) (Exit.then (fun a' w' => ∃ a1 n1 c1 ok1 av, Fr 117 a' ∧ sl a' 0 = .string ⟨l.toArray⟩ ∧ sl a' 2 = .pointer (some ⟨gO, 0, none⟩) ∧ sl a' 4 = .int .i64 (i : Int) ∧ sl a' 8 = .slice a1 n1 c1 ∧ sl a' 9 = .bool ok1 ∧ Sx w w' gO a1 n1 c1 av ∧ ((ok1 = true ∧ gr0 (l.take i) = some av) ∨ (ok1 = false ∧ gr0 (l.take i) = none ∧ av = []))) Nope) a wr := by
  obtain ⟨f, ha, hs⟩ := fr117 hf
  have e0 := (hs 0).trans h0
  have e2 := (hs 2).trans h2
  have e4 := (hs 4).trans h4
  rw [e0, e2, e4] at ha
  clear hs hf e0 h0 e2 h2 e4 h4
  subst ha
  refine piece2 fun J0 K0 hJ0 hK0 => ?_
  conv => arg 2; whnf
  have hsx := slice_to (l := l) (i := i) (by omega)
  have hs1 : (0 : Int) ≤ (i : Int) := by omega
  have hs2 : (i : Int) ≤ (l.length : Int) := by omega
  have hsz := HA.out.sz
  go_wp2_with fail
  refine (r4groups_any (l.take i) _ (by simp; omega)).mono ?_
  rintro e w1 ⟨hb1, hR⟩
  have ha1 := HA.out.out.below hb1
  have hbw := HA.out.below.trans (hb1.mono HA.out.below.size)
  rcases hR with ⟨vs, aL, nL, cL, hg, rfl, ho⟩ | ⟨hg, rfl⟩
  · have HX : Hid (Sx w w1 gO aL nL cL vs ∧ gr0 (l.take i) = some vs) := ⟨⟨ha1, ho.mono hsz, hbw, HA.out.og⟩, hg⟩
    clear hb1 ho hg ha1 hbw
    go_wp2_with fail
    refine Met.intro (hJ0 _ _ ?_)
    exact ⟨aL, nL, cL, true, vs, ⟨rfl, rfl⟩, rfl, rfl, rfl, rfl, rfl, HX.out.1, .inl ⟨rfl, HX.out.2⟩⟩
  · have HX : Hid (Sx w w1 gO none 0 0 [] ∧ gr0 (l.take i) = none) := ⟨⟨ha1, OwnG.nil _ _ _ _, hbw, HA.out.og⟩, hg⟩
    clear hb1 hg ha1 hbw
    go_wp2_with fail
    refine Met.intro (hJ0 _ _ ?_)
    exact ⟨none, 0, 0, false, [], ⟨rfl, rfl⟩, rfl, rfl, rfl, rfl, rfl, HX.out.1, .inr ⟨rfl, HX.out.2, rfl⟩⟩

set_option maxRecDepth 100000 in
set_option maxHeartbeats 4000000 in
theorem s10 (l : Tx) (gO i n1 c1 : Nat) (a1 : Option Addr) (ok1 : Bool) (av : List Nat) (w wr : World) (hl : l.length ≤ 1000) (hi : i + 2 ≤ l.length) (HA : Hid (Sx w wr gO a1 n1 c1 av)) (a : Act) (hf : Fr 117 a) (h0 : sl a 0 = .string ⟨l.toArray⟩) (h2 : sl a 2 = .pointer (some ⟨gO, 0, none⟩)) (h4 : sl a 4 = .int .i64 (i : Int)) (h8 : sl a 8 = .slice a1 n1 c1) (h9 : sl a 9 = .bool ok1) :
    Code.wp Tryd.prog (cAt [1,1,1,1,0,1,3,1,0] K6) (Exit.then (fun a' w' => ∃ a2 n2 c2 ok2 bs, Fr 117 a' ∧ sl a' 2 = .pointer (some ⟨gO, 0, none⟩) ∧ sl a' 8 = .slice a1 n1 c1 ∧ sl a' 9 = .bool ok1 ∧ sl a' 10 = .slice a2 n2 c2 ∧ sl a' 11 = .bool ok2 ∧ Sz w w' gO a1 n1 c1 av a2 n2 c2 bs ∧ ((ok2 = true ∧ gr0 (l.drop (i + 2)) = some bs) ∨ (ok2 = false ∧ gr0 (l.drop (i + 2)) = none ∧ bs = []))) Nope) a wr := by
  obtain ⟨f, ha, hs⟩ := fr117 hf
  have e0 := (hs 0).trans h0
  have e2 := (hs 2).trans h2
  have e4 := (hs 4).trans h4
  have e8 := (hs 8).trans h8
  have e9 := (hs 9).trans h9
  rw [e0, e2, e4, e8, e9] at ha
  clear hs hf e0 h0 e2 h2 e4 h4 e8 h8 e9 h9
  subst ha
  refine piece2 fun J0 K0 hJ0 hK0 => ?_
  conv => arg 2; whnf
  have hsx := slice_from (l := l) (i := i + 2) (by omega)
  have e1 : IntKind.i64.wrap ((i : Int) + 2) = ((i + 2 : Nat) : Int) := by rw [IntKind.wrap_i64]; omega
  obtain ⟨j, hj⟩ : ∃ j, i + 2 = j := ⟨_, rfl⟩
  rw [hj] at hsx e1 hi
  have HJ := Lib.hid hj
  have hs1 : (0 : Int) ≤ (j : Int) := by omega
  have hs2 : (j : Int) ≤ (l.length : Int) := by omega
  have hsz := HA.out.sz
  clear hj
  go_wp2_with fail
  refine (r4groups_any (l.drop j) _ (by simp; omega)).mono ?_
  rintro e w1 ⟨hb1, hR⟩
  have ha1 := HA.out.out.below hb1
  have hbw := HA.out.below.trans (hb1.mono HA.out.below.size)
  have hoa : OwnI w1 (gO + 1) a1 n1 c1 av := OwnG.below HA.out.own hb1
  rcases hR with ⟨vs, aL, nL, cL, hg, rfl, ho⟩ | ⟨hg, rfl⟩
  · have HX : Hid (Sz w w1 gO a1 n1 c1 av aL nL cL vs ∧ gr0 (l.drop (i + 2)) = some vs) := ⟨⟨⟨ha1, hoa, hbw, HA.out.og⟩, ho.mono hsz, fun k h1 h2 => by have q1 := (OwnG.blk_ge HA.out.own k h1).2; have q2 := (OwnG.blk_ge ho k h2).1; omega⟩, by rw [HJ.out]; exact hg⟩
    clear hb1 ho hg ha1 hbw hoa
    go_wp2_with fail
    refine Met.intro (hJ0 _ _ ?_)
    exact ⟨aL, nL, cL, true, vs, ⟨rfl, rfl⟩, rfl, rfl, rfl, rfl, rfl, HX.out.1, .inl ⟨rfl, HX.out.2⟩⟩
  · have HX : Hid (Sz w w1 gO a1 n1 c1 av none 0 0 [] ∧ gr0 (l.drop (i + 2)) = none) := ⟨⟨⟨ha1, hoa, hbw, HA.out.og⟩, OwnG.nil _ _ _ _, fun k h1 h2 => by cases h2⟩, by rw [HJ.out]; exact hg⟩
    clear hb1 hg ha1 hbw hoa
    go_wp2_with fail
    refine Met.intro (hJ0 _ _ ?_)
    exact ⟨none, 0, 0, false, [], ⟨rfl, rfl⟩, rfl, rfl, rfl, rfl, rfl, HX.out.1, .inr ⟨rfl, HX.out.2, rfl⟩⟩

set_option maxRecDepth 100000 in
set_option maxHeartbeats 4000000 in
theorem s11 (gO n1 c1 n2 c2 : Nat) (a1 a2 : Option Addr) (ok1 ok2 : Bool) (wr : World) (h1n : n1 ≤ 2000) (h2n : n2 ≤ 2000) (a : Act) (hf : Fr 117 a) (h2 : sl a 2 = .pointer (some ⟨gO, 0, none⟩)) (h8 : sl a 8 = .slice a1 n1 c1) (h9 : sl a 9 = .bool ok1) (h10 : sl a 10 = .slice a2 n2 c2) (h11 : sl a 11 = .bool ok2) :
    Code.wp Tryd.prog (cAt [1,1,1,1,0,1,3,1,1,0] K6) (Exit.then (fun a' w' => Fr 117 a' ∧ sl a' 2 = .pointer (some ⟨gO, 0, none⟩) ∧ sl a' 7 = .bool (ok1 && (ok2 && decide (n1 + n2 ≤ 7))) ∧ sl a' 8 = .slice a1 n1 c1 ∧ sl a' 10 = .slice a2 n2 c2 ∧ wr = w') Nope) a wr := by
  obtain ⟨f, ha, hs⟩ := fr117 hf
  have e2 := (hs 2).trans h2
  have e8 := (hs 8).trans h8
  have e9 := (hs 9).trans h9
  have e10 := (hs 10).trans h10
  have e11 := (hs 11).trans h11
  rw [e2, e8, e9, e10, e11] at ha
  clear hs hf e2 h2 e8 h8 e9 h9 e10 h10 e11 h11
  subst ha
  refine piece2 fun J0 K0 hJ0 hK0 => ?_
  conv => arg 2; whnf
  have e1 : IntKind.i64.wrap ((n1 : Int) + (n2 : Int)) = ((n1 + n2 : Nat) : Int) := by rw [IntKind.wrap_i64]; omega
  obtain ⟨q, hq⟩ : ∃ q, n1 + n2 = q := ⟨_, rfl⟩
  rw [hq] at e1
  rw [hq] at hJ0
  have HD : Hid (decide ((q : Int) ≤ 7) = decide (q ≤ 7)) := by show decide _ = decide _; congr 1; exact propext ⟨fun h => by omega, fun h => by omega⟩
  clear hq
  cases ok1
  · go_wp2_with fail
    refine Met.intro (hJ0 _ _ ?_)
    exact ⟨⟨rfl, rfl⟩, rfl, rfl, rfl, rfl, rfl⟩
  · cases ok2
    · go_wp2_with fail
      refine Met.intro (hJ0 _ _ ?_)
      exact ⟨⟨rfl, rfl⟩, rfl, rfl, rfl, rfl, rfl⟩
    · by_cases h7 : q ≤ 7
      · have h7i : (q : Int) ≤ 7 := by omega
        rw [decide_eq_true h7] at hJ0
        go_wp2_with fail
        refine Met.intro (hJ0 _ _ ?_)
        exact ⟨⟨rfl, rfl⟩, rfl, rfl, rfl, rfl, rfl⟩
      · have h7i : ¬ (q : Int) ≤ 7 := by omega
        rw [decide_eq_false h7] at hJ0
        go_wp2_with fail
        refine Met.intro (hJ0 _ _ ?_)
        exact ⟨⟨rfl, rfl⟩, rfl, rfl, rfl, rfl, rfl⟩

set_option maxRecDepth 100000 in
set_option maxHeartbeats 4000000 in
theorem s12 (gO n1 c1 n2 c2 : Nat) (a1 a2 : Option Addr) (ok : Bool) (wr : World) (a : Act) (hf : Fr 117 a) (h2 : sl a 2 = .pointer (some ⟨gO, 0, none⟩)) (h7 : sl a 7 = .bool ok) (h8 : sl a 8 = .slice a1 n1 c1) (h10 : sl a 10 = .slice a2 n2 c2) :
    Code.wp Tryd.prog (cAt [1,1,1,1,0,1,3,1,1,1,0] K6) (Exit.then (fun a' w' => Fr 117 a' ∧ sl a' 2 = .pointer (some ⟨gO, 0, none⟩) ∧ sl a' 6 = .slice a1 n1 c1 ∧ sl a' 7 = .bool ok ∧ sl a' 10 = .slice a2 n2 c2 ∧ wr = w') Nope) a wr := by
  obtain ⟨f, ha, hs⟩ := fr117 hf
  have e2 := (hs 2).trans h2
  have e7 := (hs 7).trans h7
  have e8 := (hs 8).trans h8
  have e10 := (hs 10).trans h10
  rw [e2, e7, e8, e10] at ha
  clear hs hf e2 h2 e7 h7 e8 h8 e10 h10
  subst ha
  refine piece2 fun J0 K0 hJ0 hK0 => ?_
  conv => arg 2; whnf
  go_wp2_with fail
  refine Met.intro (hJ0 _ _ ?_)
  exact ⟨⟨rfl, rfl⟩, rfl, rfl, rfl, rfl, rfl⟩

set_option maxRecDepth 100000 in
set_option maxHeartbeats 4000000 in
theorem s14 (w wr : World) (gO n1 c1 n2 c2 : Nat) (a1 a2 : Option Addr) (av bs : List Nat) (hlt : n1 + n2 < 8) (HZ : Hid (Sz w wr gO a1 n1 c1 av a2 n2 c2 bs)) (a : Act) (hf : Fr 117 a) (h2 : sl a 2 = .pointer (some ⟨gO, 0, none⟩)) (h6 : sl a 6 = .slice a1 n1 c1) (h7 : sl a 7 = .bool true) (h10 : sl a 10 = .slice a2 n2 c2) :
    Code.wp Tryd.prog (cAt [1,1,1,1,0,1,3,1,1,1,1,0,2,2] K6) (Exit.then (fun a' w' => ∃ a1' c1', Fr 117 a' ∧ sl a' 2 = .pointer (some ⟨gO, 0, none⟩) ∧ sl a' 6 = .slice a1' (n1 + 1) c1' ∧ sl a' 7 = .bool true ∧ sl a' 10 = .slice a2 n2 c2 ∧ Sz w w' gO a1' (n1 + 1) c1' (av ++ [0]) a2 n2 c2 bs) Nope) a wr := by
  obtain ⟨f, ha, hs⟩ := fr117 hf
  have e2 := (hs 2).trans h2
  have e6 := (hs 6).trans h6
  have e7 := (hs 7).trans h7
  have e10 := (hs 10).trans h10
  rw [e2, e6, e7, e10] at ha
  clear hs hf e2 h2 e6 h6 e7 h7 e10 h10
  subst ha
  refine piece2 fun J0 K0 hJ0 hK0 => ?_
  conv => arg 2; whnf
  have e1 : IntKind.i64.wrap ((n1 : Int) + (n2 : Int)) = (n1 : Int) + (n2 : Int) := by rw [IntKind.wrap_i64]; omega
  have hlt2 : (n1 : Int) + (n2 : Int) < 8 := by omega
  obtain ⟨gA, cA', w3, hr1, ho1, hk1, hx1⟩ := run_append_one wr (gO + 1) 95 95 3 (.int .i64 0) 1 8 int_info Tryd.underlying95 rfl (by omega) HZ.out.a.own [.int .i64 0] rfl (by simp [Value.oneCell']) HZ.out.a.sz (by omega) (by omega)
  have HRN := Lib.hid hr1
  have HNX : Hid (Sz w w3 gO (some ⟨gA, 0, none⟩) (n1 + 1) cA' (av ++ [0]) a2 n2 c2 bs) := by
    have hlow : ∀ k, blk a1 = some k → gO + 1 ≤ k := fun k h => (OwnG.blk_ge HZ.out.a.own k h).1
    refine ⟨⟨HZ.out.a.out.keep hk1 (fun h => by have := hlow _ h; omega), ?_, HZ.out.a.below.trans (hk1.below HZ.out.a.below.size (fun k h => by have := hlow _ h; have := HZ.out.a.og; omega)), HZ.out.a.og⟩, OwnG.keep HZ.out.b hk1 (fun k h1 h2 => HZ.out.ap k h2 h1), fun k h1 h2 => ?_⟩
    · unfold OwnI
      rw [List.map_append]
      exact ho1
    · simp [blk] at h1
      subst h1
      rcases hx1 with hx | hx
      · exact HZ.out.ap _ hx h2
      · have := (OwnG.blk_ge HZ.out.b _ h2).2
        omega
  clear hr1 ho1 hk1 hx1
  go_wp2_with (at_builtin; refine Lib.wpList_append_run _ rfl (.tmp 76) (.tmp 77) _ _ rfl _ _ rfl rfl _ _ HRN.out ?_)
  refine Met.intro (hJ0 _ _ ?_)
  exact ⟨_, _, ⟨rfl, rfl⟩, rfl, rfl, rfl, rfl, HNX.out⟩

set_option maxRecDepth 100000 in
set_option maxHeartbeats 4000000 in
theorem s14x (gO n1 c1 n2 c2 : Nat) (a1 a2 : Option Addr) (ok : Bool) (wr : World) (h1n : n1 ≤ 2000) (h2n : n2 ≤ 2000) (hx : ¬ (ok = true ∧ n1 + n2 < 8)) (a : Act) (hf : Fr 117 a) (h2 : sl a 2 = .pointer (some ⟨gO, 0, none⟩)) (h6 : sl a 6 = .slice a1 n1 c1) (h7 : sl a 7 = .bool ok) (h10 : sl a 10 = .slice a2 n2 c2) :
    Code.wp Tryd.prog (cAt [1,1,1,1,0,1,3,1,1,1,1,0,2,2] K6) (Outs 2 (fun a' w' => Fr 117 a' ∧ sl a' 2 = .pointer (some ⟨gO, 0, none⟩) ∧ sl a' 6 = .slice a1 n1 c1 ∧ sl a' 7 = .bool ok ∧ sl a' 10 = .slice a2 n2 c2 ∧ wr = w')) a wr := by
  obtain ⟨f, ha, hs⟩ := fr117 hf
  have e2 := (hs 2).trans h2
  have e6 := (hs 6).trans h6
  have e7 := (hs 7).trans h7
  have e10 := (hs 10).trans h10
  rw [e2, e6, e7, e10] at ha
  clear hs hf e2 h2 e6 h6 e7 h7 e10 h10
  subst ha
  conv => arg 2; whnf
  have e1 : IntKind.i64.wrap ((n1 : Int) + (n2 : Int)) = (n1 : Int) + (n2 : Int) := by rw [IntKind.wrap_i64]; omega
  cases ok with
  | false =>
    go_wp2_with fail
    exact ⟨rfl, ⟨rfl, rfl⟩, rfl, rfl, rfl, rfl, rfl⟩
  | true =>
    have hlt2 : ¬ (n1 : Int) + (n2 : Int) < 8 := fun e => hx ⟨rfl, by omega⟩
    go_wp2_with fail
    exact ⟨rfl, ⟨rfl, rfl⟩, rfl, rfl, rfl, rfl, rfl⟩

set_option maxRecDepth 100000 in
set_option maxHeartbeats 4000000 in
theorem s15 (w wr : World) (gO n1 c1 n2 c2 : Nat) (a1 a2 : Option Addr) (ok : Bool) (av bs : List Nat) (h1n : n1 ≤ 2000) (h2n : n2 ≤ 2000) (HZ : Hid (Sz w wr gO a1 n1 c1 av a2 n2 c2 bs)) (a : Act) (hf : Fr 117 a) (h2 : sl a 2 = .pointer (some ⟨gO, 0, none⟩)) (h6 : sl a 6 = .slice a1 n1 c1) (h7 : sl a 7 = .bool ok) (h10 : sl a 10 = .slice a2 n2 c2) :
    Code.wp Tryd.prog (cAt [1,1,1,1,0,1,3,1,1,1,1,1] K6) (Exit.then (fun a' w' => ∃ aL nL cL, Fr 117 a' ∧ sl a' 2 = .pointer (some ⟨gO, 0, none⟩) ∧ sl a' 6 = .slice aL nL cL ∧ sl a' 7 = .bool ok ∧ Sx w w' gO aL nL cL (av ++ bs)) Nope) a wr := by
  obtain ⟨f, ha, hs⟩ := fr117 hf
  have e2 := (hs 2).trans h2
  have e6 := (hs 6).trans h6
  have e7 := (hs 7).trans h7
  have e10 := (hs 10).trans h10
  rw [e2, e6, e7, e10] at ha
  clear hs hf e2 h2 e6 h6 e7 h7 e10 h10
  subst ha
  refine piece2 fun J0 K0 hJ0 hK0 => ?_
  conv => arg 2; whnf
  obtain ⟨a', c', w3, hr, ho, hk⟩ := run_append_ints wr (gO + 1) HZ.out.a.own HZ.out.b HZ.out.a.sz (by omega)
  have HRN := Lib.hid hr
  have HNX : Hid (Sx w w3 gO a' (n1 + n2) c' (av ++ bs)) := by
    have hlow : ∀ k, blk a1 = some k → gO + 1 ≤ k := fun k h => (OwnG.blk_ge HZ.out.a.own k h).1
    exact ⟨HZ.out.a.out.keep hk (fun h => by have := hlow _ h; omega), ho, HZ.out.a.below.trans (hk.below HZ.out.a.below.size (fun k h => by have := hlow _ h; have := HZ.out.a.og; omega)), HZ.out.a.og⟩
  clear hr ho hk
  go_wp2_with (at_builtin; refine Lib.wpList_append_run _ rfl (.tmp 79) (.tmp 80) _ _ rfl _ _ rfl rfl _ _ HRN.out ?_)
  refine Met.intro (hJ0 _ _ ?_)
  exact ⟨_, _, _, ⟨rfl, rfl⟩, rfl, rfl, rfl, HNX.out⟩

end Go.Proofs.YtbnfmiopgjmppaaDoor

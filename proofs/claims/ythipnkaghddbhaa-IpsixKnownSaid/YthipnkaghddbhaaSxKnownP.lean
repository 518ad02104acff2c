/-
  IpsixKnown: the function of the statement, which takes nothing, answers true (its last pieces, put together, and the statement). No conditions.
-/
import Derived.Test.YthipnkaghddbhaaSxKnC
namespace Go.Proofs.Ythipnkaghddbhaa
open Go.ChangeShapes Go.WideShapes Go.ChangeAt Go.RowKit

def h0 : H6 := ⟨0, 0, 0, 0, 0, z16, z16⟩
theorem h0_ok : h0.ok := ⟨by decide, by decide, by decide, by decide, by decide, rfl, rfl, z16_byt, z16_byt⟩
def hdK : H6 := ⟨255, 1048575, 7, 6, 9, [1, 0, 0, 0, 0, 0, 0, 0, 0, 0, 0, 0, 0, 0, 0, 0], [0, 0, 0, 0, 0, 0, 0, 0, 0, 0, 0, 0, 0, 0, 0, 2]⟩
theorem hdK_ok : hdK.ok := ⟨by decide, by decide, by decide, by decide, by decide, rfl, rfl, by intro x hx; simp [hdK] at hx; omega, by intro x hx; simp [hdK] at hx; omega⟩
def hF : H6 := ⟨0, 1048576, 0, 0, 0, z16, z16⟩
theorem hF_ok : hF.ok := ⟨by decide, by decide, by decide, by decide, by decide, rfl, rfl, z16_byt, z16_byt⟩
theorem wpList_build_run {P : Program} {ops : Array Oper} {rest : List Oper} {o : Oper} {a : Act} {w : World} {Q : Exit → Act → World → Prop} (hgd : o.guard = none) (t : TypeId) (parts : Array (Nat × Operand)) (ho : o.op = .build t parts)
    {cells : Array Value} (hc : P.built t (parts.toList.map fun x => (x.1, a.eval x.2)) = some cells) (h : wpList P ops Q rest (a.put o.dst (.agg cells)) w) : wpList P ops Q (o :: rest) a w :=
  wpList_plain hgd fun _ hK => by
    have hc' : P.built t (parts.map fun (i, x) => (i, a.eval x)).toList = some cells := by rw [← hc]; simp
    unfold Oper.wp execOp
    simp only [ho, Sem.run_bind, run_build w t _ cells hc', Result.andThen_ok]
    exact hK _ _ h
theorem kbuiltS : Try.prog.built 24 [(0, .int .u8 1)] = some (bv hdK.src).toArray := by kernel_rfl
theorem kbuiltD : Try.prog.built 24 [(15, .int .u8 2)] = some (bv hdK.dst).toArray := by kernel_rfl
theorem kbuiltK : Try.prog.built 26 [(0, .int .u8 255), (1, .int .u32 1048575), (2, .int .u16 7), (3, .int .u8 6), (4, .int .u8 9), (5, .agg (bv hdK.src).toArray), (6, .agg (bv hdK.dst).toArray)] = some hdK.cs.toArray := by kernel_rfl
/-- What the last loop reads. -/
structure MX (wb : World) (bl : Nat) (a0 : Option Addr) (m d : Nat) (es : List Ex) (bm : Nat) (xm : List Int) (bh : Nat) (ah : Option Addr) (nh ch : Nat) (xh : List Int) (w : World) : Prop where
  cn : Cn wb bl 6 a0 m d es w
  mn : RwB w (some ⟨bm, 0, none⟩) 136 136 xm
  hd : w.rangeAt bh 0 hdK.cs
  rw : RwB w ah nh ch xh
theorem MX.next {wb w w' : World} {bl : Nat} {a0 : Option Addr} {m d : Nat} {es : List Ex} {bm : Nat} {xm : List Int} {bh : Nat} {ah : Option Addr} {nh ch : Nat} {xh : List Int} (h : MX wb bl a0 m d es bm xm bh ah nh ch xh w) (hb : Below w.heap.size w w') : MX wb bl a0 m d es bm xm bh ah nh ch xh w' :=
  ⟨h.cn.next hb, h.mn.below hb, range_kept hb h.hd, h.rw.below hb⟩

theorem builtX (a : Option Addr) (n c : Nat) : Try.prog.built 71 [(0, .int .u8 60), (1, .slice a n c)] = some #[.int .u8 60, .slice a n c] := by kernel_rfl

set_option maxRecDepth 100000 in
set_option maxHeartbeats 4000000 in
theorem v26 (w : World) (a : Act) (hf : Fr 266 a)  :
    Code.wp Try.prog (cAt [1,1,1,1,0] KC) (Exit.then (fun a' w' => ∃ bl, Fr 266 a' ∧ sl a' 11 = .pointer (some ⟨bl, 0, none⟩) ∧ Cn w bl 6 none 0 0 [] w') Nope) a w := by
  obtain ⟨f, ha, hs⟩ := fr266 hf
  clear hs hf
  subst ha
  refine piece2 fun J0 K0 hJ0 hK0 => ?_
  conv => arg 2; whnf
  have HR : Hid (Cn w w.heap.size 6 none 0 0 [] (w.alloc (.cells #[.slice none 0 0, .int .u8 6] 46))) :=
    ⟨rfl, (Below.refl _ _).alloc (Nat.le_refl _) _, range_new w [.slice none 0 0, .int .u8 6] 46, there_new _ _ _ _ rfl _ rfl, OwnG.nil _ _ _ _, rfl, fun x hx => by cases hx⟩
  go_wp2_with fail
  refine Met.intro (hJ0 _ _ ?_)
  exact ⟨_, ⟨rfl, rfl⟩, rfl, HR.out⟩

set_option maxRecDepth 100000 in
set_option maxHeartbeats 4000000 in
theorem v27 (w : World) (bl : Nat) (a : Act) (hf : Fr 266 a) (h11 : sl a 11 = .pointer (some ⟨bl, 0, none⟩)) :
    Code.wp Try.prog (cAt [1,1,1,1,1,0,0] KC) (Exit.then (fun a' w' => Fr 266 a' ∧ sl a' 11 = .pointer (some ⟨bl, 0, none⟩) ∧ sl a' 12 = .int .i64 0 ∧ w = w') Nope) a w := by
  obtain ⟨f, ha, hs⟩ := fr266 hf
  have e11 := (hs 11).trans h11
  rw [e11] at ha
  clear hs hf e11 h11
  subst ha
  refine piece2 fun J0 K0 hJ0 hK0 => ?_
  conv => arg 2; whnf
  go_wp2_with fail
  refine Met.intro (hJ0 _ _ ?_)
  exact ⟨⟨rfl, rfl⟩, rfl, rfl, rfl⟩

set_option maxRecDepth 100000 in
set_option maxHeartbeats 4000000 in
theorem v28 (w : World) (bl j : Nat) (hj : j < 17) (a : Act) (hf : Fr 266 a) (h11 : sl a 11 = .pointer (some ⟨bl, 0, none⟩)) (h12 : sl a 12 = .int .i64 (j : Int)) :
    Code.wp Try.prog (cAt [1,1,1,1,1,0,1,2,2,0] KC) (Exit.then (fun a' w' => Fr 266 a' ∧ sl a' 11 = .pointer (some ⟨bl, 0, none⟩) ∧ sl a' 12 = .int .i64 (j : Int) ∧ w = w') Nope) a w := by
  obtain ⟨f, ha, hs⟩ := fr266 hf
  have e11 := (hs 11).trans h11
  have e12 := (hs 12).trans h12
  rw [e11, e12] at ha
  clear hs hf e11 h11 e12 h12
  subst ha
  refine piece2 fun J0 K0 hJ0 hK0 => ?_
  conv => arg 2; whnf
  have hj' : (j : Int) < 17 := by omega
  go_wp2_with fail
  refine Met.intro (hJ0 _ _ ?_)
  exact ⟨⟨rfl, rfl⟩, rfl, rfl, rfl⟩

set_option maxRecDepth 100000 in
set_option maxHeartbeats 4000000 in
theorem v28x (w : World) (bl : Nat) (a : Act) (hf : Fr 266 a) (h11 : sl a 11 = .pointer (some ⟨bl, 0, none⟩)) (h12 : sl a 12 = .int .i64 17) :
    Code.wp Try.prog (cAt [1,1,1,1,1,0,1,2,2] KC) (Outs 6 (fun a' w' => Fr 266 a' ∧ sl a' 11 = .pointer (some ⟨bl, 0, none⟩) ∧ w = w')) a w := by
  obtain ⟨f, ha, hs⟩ := fr266 hf
  have e11 := (hs 11).trans h11
  have e12 := (hs 12).trans h12
  rw [e11, e12] at ha
  clear hs hf e11 h11 e12 h12
  subst ha
  conv => arg 2; whnf
  go_wp2_with fail
  exact ⟨rfl, ⟨rfl, rfl⟩, rfl, rfl⟩

set_option maxRecDepth 100000 in
set_option maxHeartbeats 4000000 in
theorem v30 (wb w : World) (bl j : Nat) (a0 : Option Addr) (m d : Nat) (es : List Ex) (HN : Hid (Cn wb bl 6 a0 m d es w)) (a : Act) (hf : Fr 266 a) (h11 : sl a 11 = .pointer (some ⟨bl, 0, none⟩)) (h12 : sl a 12 = .int .i64 (j : Int)) :
    Code.wp Try.prog (cAt [1,1,1,1,1,0,1,2,2,1,0,2,0] KC) (Exit.then (fun a' w' => Fr 266 a' ∧ sl a' 11 = .pointer (some ⟨bl, 0, none⟩) ∧ sl a' 12 = .int .i64 (j : Int) ∧ Cn wb bl 6 a0 m d es w') Nope) a w := by
  obtain ⟨f, ha, hs⟩ := fr266 hf
  have e11 := (hs 11).trans h11
  have e12 := (hs 12).trans h12
  rw [e11, e12] at ha
  clear hs hf e11 h11 e12 h12
  subst ha
  refine piece2 fun J0 K0 hJ0 hK0 => ?_
  conv => arg 2; whnf
  have c0 := HN.out.c0
  have c1 := HN.out.c1
  go_wp2_with fail
  refine (chains_any a0 a0 m d m d es es 6 6 _ HN.out.ch.any HN.out.ch.any (by decide) (by decide) (by decide) (by decide)).mono ?_
  rintro e w1 ⟨rfl, hb⟩
  have HN1 := Lib.hid (HN.out.next hb)
  have d0 := HN1.out.c0
  have d1 := HN1.out.c1
  clear hb c0 c1
  go_wp2_with fail
  refine (back_any h0 a0 m d es 6 none 0 0 [] 60 none 0 0 [] _ h0_ok HN1.out.ch.any (by decide) (by decide) rfl (Rd.empty _ _) Byt.nil (by decide) (by decide) rfl (Nat.le_refl _) (Rd.empty _ _) Byt.nil).mono ?_
  rintro e w2 ⟨rfl, hb⟩
  have HN2 := Lib.hid (HN1.out.next hb)
  clear hb d0 d1
  go_wp2_with fail
  refine Met.intro (hJ0 _ _ ?_)
  exact ⟨⟨rfl, rfl⟩, rfl, rfl, HN2.out⟩

set_option maxRecDepth 100000 in
set_option maxHeartbeats 4000000 in
theorem v32 (wb w : World) (bl j : Nat) (a0 : Option Addr) (m d : Nat) (es : List Ex) (HN : Hid (Cn wb bl 6 a0 m d es w)) (hm : m ≤ 1000) (a : Act) (hf : Fr 266 a) (h11 : sl a 11 = .pointer (some ⟨bl, 0, none⟩)) (h12 : sl a 12 = .int .i64 (j : Int)) :
    Code.wp Try.prog (cAt [1,1,1,1,1,0,1,2,2,1,0,2,1] KC) (Exit.then (fun a' w' => ∃ (a1 : Option Addr) (d1 : Nat) (es : List Ex), Fr 266 a' ∧ sl a' 11 = .pointer (some ⟨bl, 0, none⟩) ∧ sl a' 12 = .int .i64 (j : Int) ∧ Cn wb bl 6 a1 (m + 1) d1 es w') Nope) a w := by
  obtain ⟨f, ha, hs⟩ := fr266 hf
  have e11 := (hs 11).trans h11
  have e12 := (hs 12).trans h12
  rw [e11, e12] at ha
  clear hs hf e11 h11 e12 h12
  subst ha
  refine piece2 fun J0 K0 hJ0 hK0 => ?_
  conv => arg 2; whnf
  refine wp_region_held_drew (S := fun w' => True) (by kernel_rfl) trivial (fun hS => ?_)
  have HN0 : Hid (Cn wb bl 6 a0 m d es w.drew) := HN.out.next (Below.refl _ _).drew
  obtain ⟨x0, hx0⟩ : ∃ y, w.drew = y := ⟨_, rfl⟩
  rw [hx0] at HN0 ⊢
  clear hx0
  have c0 := HN0.out.c0
  refine tk 0 203 (.pointer (some ⟨bl, 0, none⟩)) rfl rfl (by kernel_rfl) (by kernel_rfl) (by kernel_rfl) (fun _ _ _ h => h) (Or.inl ⟨by rfl, fun w' h' => ?_⟩) hS ?_
  · go_simp
  try simp only [Act.put, List.setIfInBounds_toArray, List.set_cons_zero, List.set_cons_succ]
  refine wpAnyH_ready (rs := [1, 2]) (by kernel_rfl) (by simp) (AllReadyH.cons rfl (fun K hK => ?_) (AllReadyH.cons rfl (fun K hK => ?_) AllReadyH.nil))
  · rw [if_pos (by rfl)]
    go_wp2_with fail
    clear hS
    refine hK.out _ _ trivial (fun hS => ?_)
    clear hK K
    try simp only [Act.put, List.setIfInBounds_toArray, List.set_cons_zero, List.set_cons_succ]
    refine wpAnyH_ready (rs := [2]) (by kernel_rfl) (by simp) (AllReadyH.cons rfl (fun K hK => ?_) AllReadyH.nil)
    rw [if_pos (by rfl)]
    obtain ⟨wm, hmk, hm', hbm⟩ := mk_nz x0 6 (by decide)
    have hmk' : (Instr.makeSlice 27 (.int .i64 6) (.int .i64 6)).run Try.prog x0 = .ok (.slice (some ⟨x0.heap.size, 0, none⟩) 6 6) wm := hmk
    go_wp2_with fail
    have HN1 := Lib.hid (HN0.out.next hbm)
    have HY : Hid (YOk (bl + 1) wm ⟨60, some ⟨x0.heap.size, 0, none⟩, 6, 6, nz 6⟩) := ⟨by show (0 : Int) ≤ 60 ∧ (60 : Int) < 256; decide, hm'.mono (by have := HN0.out.lt; omega), nz_byt 6, by show 6 ≤ 3000; decide⟩
    clear hmk hmk' hm' hbm hS
    refine hK.out _ _ trivial (fun hS => ?_)
    clear hK K
    try simp only [Act.put, List.setIfInBounds_toArray, List.set_cons_zero, List.set_cons_succ]
    refine tk 3 206 (.agg #[.int .u8 60, .slice (some ⟨x0.heap.size, 0, none⟩) 6 6]) rfl rfl (by kernel_rfl) (by kernel_rfl) (by kernel_rfl) (fun _ _ _ h => h) (yields_build (by rfl) _ _ rfl ?_) hS ?_
    · exact builtX _ _ _
    try simp only [Act.put, List.setIfInBounds_toArray, List.set_cons_zero, List.set_cons_succ]
    refine wpAnyH_ready (rs := [4]) (by kernel_rfl) (by simp) (AllReadyH.cons rfl (fun K hK => ?_) AllReadyH.nil)
    rw [if_pos (by rfl)]
    go_wp2_with fail
    clear hS
    refine hK.out _ _ trivial (fun hS => ?_)
    clear hK K
    obtain ⟨g, d', w2, hrun, hc0, hf0, hcn⟩ := HN1.out.app ⟨60, some ⟨x0.heap.size, 0, none⟩, 6, 6, nz 6⟩ HY.out hm
    have HCN := Lib.hid hcn
    try simp only [Act.put, List.setIfInBounds_toArray, List.set_cons_zero, List.set_cons_succ]
    refine wpAnyH_ready (rs := [5]) (by kernel_rfl) (by simp) (AllReadyH.cons rfl (fun K hK => ?_) AllReadyH.nil)
    rw [if_pos (by rfl)]
    refine Lib.wp_append_run _ (.tmp 204) (.tmp 207) _ _ rfl _ _ rfl rfl _ _ hrun ?_
    clear hS
    refine hK.out _ _ trivial (fun hS => ?_)
    clear hK K
    try simp only [Act.put, List.setIfInBounds_toArray]
    refine tk 6 209 (.pointer (some ⟨bl, 0, none⟩)) rfl rfl (by kernel_rfl) (by kernel_rfl) (by kernel_rfl) (fun _ _ _ h => h) (Or.inl ⟨by rfl, fun w' h' => ?_⟩) hS ?_
    · go_simp
    try simp only [Act.put]
    refine wpAnyH_ready (rs := [7]) (by kernel_rfl) (by simp) (AllReadyH.cons rfl (fun K hK => ?_) AllReadyH.nil)
    rw [if_pos (by rfl)]
    go_wp2_with fail
    clear hS
    refine hK.out _ _ trivial (fun hS => ?_)
    clear hK K
    refine wpAnyH_done (by kernel_rfl) ?_ _
    go_wp2_with fail
    refine Met.intro (hJ0 _ _ ?_)
    exact ⟨_, _, _, ⟨rfl, rfl⟩, rfl, rfl, HCN.out⟩
  · rw [if_pos (by rfl)]
    obtain ⟨wm, hmk, hm', hbm⟩ := mk_nz x0 6 (by decide)
    have hmk' : (Instr.makeSlice 27 (.int .i64 6) (.int .i64 6)).run Try.prog x0 = .ok (.slice (some ⟨x0.heap.size, 0, none⟩) 6 6) wm := hmk
    go_wp2_with fail
    have HN1 := Lib.hid (HN0.out.next hbm)
    have HY : Hid (YOk (bl + 1) wm ⟨60, some ⟨x0.heap.size, 0, none⟩, 6, 6, nz 6⟩) := ⟨by show (0 : Int) ≤ 60 ∧ (60 : Int) < 256; decide, hm'.mono (by have := HN0.out.lt; omega), nz_byt 6, by show 6 ≤ 3000; decide⟩
    clear hmk hmk' hm' hbm hS
    refine hK.out _ _ trivial (fun hS => ?_)
    clear hK K
    have c0 := HN1.out.c0
    try simp only [Act.put, List.setIfInBounds_toArray, List.set_cons_zero, List.set_cons_succ]
    refine tk 3 206 (.agg #[.int .u8 60, .slice (some ⟨x0.heap.size, 0, none⟩) 6 6]) rfl rfl (by kernel_rfl) (by kernel_rfl) (by kernel_rfl) (fun _ _ _ h => h) (yields_build (by rfl) _ _ rfl ?_) hS ?_
    · exact builtX _ _ _
    try simp only [Act.put, List.setIfInBounds_toArray, List.set_cons_zero, List.set_cons_succ]
    refine wpAnyH_ready (rs := [1, 4]) (by kernel_rfl) (by simp) (AllReadyH.cons rfl (fun K hK => ?_) (AllReadyH.cons rfl (fun K hK => ?_) AllReadyH.nil))
    · rw [if_pos (by rfl)]
      go_wp2_with fail
      clear hS
      refine hK.out _ _ trivial (fun hS => ?_)
      clear hK K
      try simp only [Act.put, List.setIfInBounds_toArray, List.set_cons_zero, List.set_cons_succ]
      refine wpAnyH_ready (rs := [4]) (by kernel_rfl) (by simp) (AllReadyH.cons rfl (fun K hK => ?_) AllReadyH.nil)
      rw [if_pos (by rfl)]
      go_wp2_with fail
      clear hS
      refine hK.out _ _ trivial (fun hS => ?_)
      clear hK K
      obtain ⟨g, d', w2, hrun, hc0, hf0, hcn⟩ := HN1.out.app ⟨60, some ⟨x0.heap.size, 0, none⟩, 6, 6, nz 6⟩ HY.out hm
      have HCN := Lib.hid hcn
      try simp only [Act.put, List.setIfInBounds_toArray, List.set_cons_zero, List.set_cons_succ]
      refine wpAnyH_ready (rs := [5]) (by kernel_rfl) (by simp) (AllReadyH.cons rfl (fun K hK => ?_) AllReadyH.nil)
      rw [if_pos (by rfl)]
      refine Lib.wp_append_run _ (.tmp 204) (.tmp 207) _ _ rfl _ _ rfl rfl _ _ hrun ?_
      clear hS
      refine hK.out _ _ trivial (fun hS => ?_)
      clear hK K
      try simp only [Act.put, List.setIfInBounds_toArray]
      refine tk 6 209 (.pointer (some ⟨bl, 0, none⟩)) rfl rfl (by kernel_rfl) (by kernel_rfl) (by kernel_rfl) (fun _ _ _ h => h) (Or.inl ⟨by rfl, fun w' h' => ?_⟩) hS ?_
      · go_simp
      try simp only [Act.put]
      refine wpAnyH_ready (rs := [7]) (by kernel_rfl) (by simp) (AllReadyH.cons rfl (fun K hK => ?_) AllReadyH.nil)
      rw [if_pos (by rfl)]
      go_wp2_with fail
      clear hS
      refine hK.out _ _ trivial (fun hS => ?_)
      clear hK K
      refine wpAnyH_done (by kernel_rfl) ?_ _
      go_wp2_with fail
      refine Met.intro (hJ0 _ _ ?_)
      exact ⟨_, _, _, ⟨rfl, rfl⟩, rfl, rfl, HCN.out⟩
    · rw [if_pos (by rfl)]
      go_wp2_with fail
      clear hS
      refine hK.out _ _ trivial (fun hS => ?_)
      clear hK K
      have c9 : (wm.alloc (.cells #[.int .u8 60, .slice (some ⟨x0.heap.size, 0, none⟩) 6 6] 71)).cell? ⟨bl, 0, none⟩ = some (.slice a0 m d) := cell_kept ((Below.refl _ _).alloc (Nat.le_refl _) _) c0
      try simp only [Act.put, List.setIfInBounds_toArray, List.set_cons_zero, List.set_cons_succ]
      refine wpAnyH_ready (rs := [1]) (by kernel_rfl) (by simp) (AllReadyH.cons rfl (fun K hK => ?_) AllReadyH.nil)
      rw [if_pos (by rfl)]
      go_wp2_with fail
      clear hS
      refine hK.out _ _ trivial (fun hS => ?_)
      clear hK K
      obtain ⟨g, d', w2, hrun, hc0, hf0, hcn⟩ := HN1.out.app ⟨60, some ⟨x0.heap.size, 0, none⟩, 6, 6, nz 6⟩ HY.out hm
      have HCN := Lib.hid hcn
      try simp only [Act.put, List.setIfInBounds_toArray, List.set_cons_zero, List.set_cons_succ]
      refine wpAnyH_ready (rs := [5]) (by kernel_rfl) (by simp) (AllReadyH.cons rfl (fun K hK => ?_) AllReadyH.nil)
      rw [if_pos (by rfl)]
      refine Lib.wp_append_run _ (.tmp 204) (.tmp 207) _ _ rfl _ _ rfl rfl _ _ hrun ?_
      clear hS
      refine hK.out _ _ trivial (fun hS => ?_)
      clear hK K
      try simp only [Act.put, List.setIfInBounds_toArray]
      refine tk 6 209 (.pointer (some ⟨bl, 0, none⟩)) rfl rfl (by kernel_rfl) (by kernel_rfl) (by kernel_rfl) (fun _ _ _ h => h) (Or.inl ⟨by rfl, fun w' h' => ?_⟩) hS ?_
      · go_simp
      try simp only [Act.put]
      refine wpAnyH_ready (rs := [7]) (by kernel_rfl) (by simp) (AllReadyH.cons rfl (fun K hK => ?_) AllReadyH.nil)
      rw [if_pos (by rfl)]
      go_wp2_with fail
      clear hS
      refine hK.out _ _ trivial (fun hS => ?_)
      clear hK K
      refine wpAnyH_done (by kernel_rfl) ?_ _
      go_wp2_with fail
      refine Met.intro (hJ0 _ _ ?_)
      exact ⟨_, _, _, ⟨rfl, rfl⟩, rfl, rfl, HCN.out⟩

set_option maxRecDepth 100000 in
set_option maxHeartbeats 4000000 in
theorem v29 (w : World) (bl j : Nat) (hj : j < 17) (a : Act) (hf : Fr 266 a) (h11 : sl a 11 = .pointer (some ⟨bl, 0, none⟩)) (h12 : sl a 12 = .int .i64 (j : Int)) :
    Code.wp Try.prog (cAt [1,1,1,1,1,0,1,2,2,1,1] KC) (Exit.then (fun a' w' => Fr 266 a' ∧ sl a' 11 = .pointer (some ⟨bl, 0, none⟩) ∧ sl a' 12 = .int .i64 ((j : Int) + 1) ∧ w = w') Nope) a w := by
  obtain ⟨f, ha, hs⟩ := fr266 hf
  have e11 := (hs 11).trans h11
  have e12 := (hs 12).trans h12
  rw [e11, e12] at ha
  clear hs hf e11 h11 e12 h12
  subst ha
  refine piece2 fun J0 K0 hJ0 hK0 => ?_
  conv => arg 2; whnf
  go_wp2_with fail
  refine Met.intro (hJ0 _ _ ?_)
  exact ⟨⟨rfl, rfl⟩, rfl, rfl, rfl⟩

set_option maxRecDepth 100000 in
set_option maxHeartbeats 4000000 in
theorem v33 (w : World) (bl : Nat) (a : Act) (hf : Fr 266 a) (h11 : sl a 11 = .pointer (some ⟨bl, 0, none⟩)) :
    Code.wp Try.prog (cAt [1,1,1,1,1,1,0] KC) (Exit.then (fun a' w' => ∃ (bm : Nat), Fr 266 a' ∧ sl a' 11 = .pointer (some ⟨bl, 0, none⟩) ∧ sl a' 13 = .slice (some ⟨bm, 0, none⟩) 136 136 ∧ Own w' w.heap.size (some ⟨bm, 0, none⟩) 136 136 (nz 136) ∧ Below w.heap.size w w') Nope) a w := by
  obtain ⟨f, ha, hs⟩ := fr266 hf
  have e11 := (hs 11).trans h11
  rw [e11] at ha
  clear hs hf e11 h11
  subst ha
  refine piece2 fun J0 K0 hJ0 hK0 => ?_
  conv => arg 2; whnf
  obtain ⟨wm, hmk, hm, hbm⟩ := mk_nz w 136 (by decide)
  have hmk' : (Instr.makeSlice 27 (.int .i64 136) (.int .i64 136)).run Try.prog w = .ok (.slice (some ⟨w.heap.size, 0, none⟩) 136 136) wm := hmk
  have HR := Lib.hid (And.intro hm hbm)
  clear hmk hm hbm
  go_wp2_with fail
  refine Met.intro (hJ0 _ _ ?_)
  exact ⟨_, ⟨rfl, rfl⟩, rfl, rfl, HR.out⟩

set_option maxRecDepth 100000 in
set_option maxHeartbeats 4000000 in
theorem v34 (w : World) (bl bm : Nat) (a : Act) (hf : Fr 266 a) (h11 : sl a 11 = .pointer (some ⟨bl, 0, none⟩)) (h13 : sl a 13 = .slice (some ⟨bm, 0, none⟩) 136 136) :
    Code.wp Try.prog (cAt [1,1,1,1,1,1,1,0,0] KC) (Exit.then (fun a' w' => Fr 266 a' ∧ sl a' 11 = .pointer (some ⟨bl, 0, none⟩) ∧ sl a' 13 = .slice (some ⟨bm, 0, none⟩) 136 136 ∧ sl a' 14 = .int .i64 0 ∧ w = w') Nope) a w := by
  obtain ⟨f, ha, hs⟩ := fr266 hf
  have e11 := (hs 11).trans h11
  have e13 := (hs 13).trans h13
  rw [e11, e13] at ha
  clear hs hf e11 h11 e13 h13
  subst ha
  refine piece2 fun J0 K0 hJ0 hK0 => ?_
  conv => arg 2; whnf
  go_wp2_with fail
  refine Met.intro (hJ0 _ _ ?_)
  exact ⟨⟨rfl, rfl⟩, rfl, rfl, rfl, rfl⟩

set_option maxRecDepth 100000 in
set_option maxHeartbeats 4000000 in
theorem v35 (w : World) (bl bm j : Nat) (hj : j < 136) (a : Act) (hf : Fr 266 a) (h11 : sl a 11 = .pointer (some ⟨bl, 0, none⟩)) (h13 : sl a 13 = .slice (some ⟨bm, 0, none⟩) 136 136) (h14 : sl a 14 = .int .i64 (j : Int)) :
    Code.wp Try.prog (cAt [1,1,1,1,1,1,1,0,1,2,2,0] KC) (Exit.then (fun a' w' => Fr 266 a' ∧ sl a' 11 = .pointer (some ⟨bl, 0, none⟩) ∧ sl a' 13 = .slice (some ⟨bm, 0, none⟩) 136 136 ∧ sl a' 14 = .int .i64 (j : Int) ∧ w = w') Nope) a w := by
  obtain ⟨f, ha, hs⟩ := fr266 hf
  have e11 := (hs 11).trans h11
  have e13 := (hs 13).trans h13
  have e14 := (hs 14).trans h14
  rw [e11, e13, e14] at ha
  clear hs hf e11 h11 e13 h13 e14 h14
  subst ha
  refine piece2 fun J0 K0 hJ0 hK0 => ?_
  conv => arg 2; whnf
  have hj' : (j : Int) < 136 := by omega
  go_wp2_with fail
  refine Met.intro (hJ0 _ _ ?_)
  exact ⟨⟨rfl, rfl⟩, rfl, rfl, rfl, rfl⟩

set_option maxRecDepth 100000 in
set_option maxHeartbeats 4000000 in
theorem v35x (w : World) (bl bm j : Nat) (hj : 136 ≤ j) (a : Act) (hf : Fr 266 a) (h11 : sl a 11 = .pointer (some ⟨bl, 0, none⟩)) (h13 : sl a 13 = .slice (some ⟨bm, 0, none⟩) 136 136) (h14 : sl a 14 = .int .i64 (j : Int)) :
    Code.wp Try.prog (cAt [1,1,1,1,1,1,1,0,1,2,2] KC) (Outs 8 (fun a' w' => Fr 266 a' ∧ sl a' 11 = .pointer (some ⟨bl, 0, none⟩) ∧ sl a' 13 = .slice (some ⟨bm, 0, none⟩) 136 136 ∧ w = w')) a w := by
  obtain ⟨f, ha, hs⟩ := fr266 hf
  have e11 := (hs 11).trans h11
  have e13 := (hs 13).trans h13
  have e14 := (hs 14).trans h14
  rw [e11, e13, e14] at ha
  clear hs hf e11 h11 e13 h13 e14 h14
  subst ha
  conv => arg 2; whnf
  have hj' : ¬ (j : Int) < 136 := by omega
  go_wp2_with fail
  exact ⟨rfl, ⟨rfl, rfl⟩, rfl, rfl, rfl⟩

set_option maxRecDepth 100000 in
set_option maxHeartbeats 4000000 in
theorem v37 (wm w : World) (bl bm j : Nat) (hj : j < 136) (xs : List Int) (HO : Hid (Cp wm w bm 136 136 xs ∧ Byt xs)) (a : Act) (hf : Fr 266 a) (h11 : sl a 11 = .pointer (some ⟨bl, 0, none⟩)) (h13 : sl a 13 = .slice (some ⟨bm, 0, none⟩) 136 136) (h14 : sl a 14 = .int .i64 (j : Int)) :
    Code.wp Try.prog (cAt [1,1,1,1,1,1,1,0,1,2,2,1,0,2] KC) (Exit.then (fun a' w' => ∃ (xs : List Int), Fr 266 a' ∧ sl a' 11 = .pointer (some ⟨bl, 0, none⟩) ∧ sl a' 13 = .slice (some ⟨bm, 0, none⟩) 136 136 ∧ sl a' 14 = .int .i64 (j : Int) ∧ Cp wm w' bm 136 136 xs ∧ Byt xs) Nope) a w := by
  obtain ⟨f, ha, hs⟩ := fr266 hf
  have e11 := (hs 11).trans h11
  have e13 := (hs 13).trans h13
  have e14 := (hs 14).trans h14
  rw [e11, e13, e14] at ha
  clear hs hf e11 h11 e13 h13 e14 h14
  subst ha
  refine piece2 fun J0 K0 hJ0 hK0 => ?_
  conv => arg 2; whnf
  obtain ⟨d1, f1⟩ := HO.out.1.at_ (j := j) hj
  have HS := Lib.hid (HO.out.1.set j 60)
  have hj' : (j : Int) < 136 := by omega
  go_wp2_with fail
  refine Met.intro (hJ0 _ _ ?_)
  exact ⟨_, ⟨rfl, rfl⟩, rfl, rfl, rfl, HS.out, HO.out.2.set j (by decide)⟩

set_option maxRecDepth 100000 in
set_option maxHeartbeats 4000000 in
theorem v36 (w : World) (bl bm j : Nat) (hj : j < 136) (a : Act) (hf : Fr 266 a) (h11 : sl a 11 = .pointer (some ⟨bl, 0, none⟩)) (h13 : sl a 13 = .slice (some ⟨bm, 0, none⟩) 136 136) (h14 : sl a 14 = .int .i64 (j : Int)) :
    Code.wp Try.prog (cAt [1,1,1,1,1,1,1,0,1,2,2,1,1] KC) (Exit.then (fun a' w' => Fr 266 a' ∧ sl a' 11 = .pointer (some ⟨bl, 0, none⟩) ∧ sl a' 13 = .slice (some ⟨bm, 0, none⟩) 136 136 ∧ sl a' 14 = .int .i64 ((j : Int) + 8) ∧ w = w') Nope) a w := by
  obtain ⟨f, ha, hs⟩ := fr266 hf
  have e11 := (hs 11).trans h11
  have e13 := (hs 13).trans h13
  have e14 := (hs 14).trans h14
  rw [e11, e13, e14] at ha
  clear hs hf e11 h11 e13 h13 e14 h14
  subst ha
  refine piece2 fun J0 K0 hJ0 hK0 => ?_
  conv => arg 2; whnf
  go_wp2_with fail
  refine Met.intro (hJ0 _ _ ?_)
  exact ⟨⟨rfl, rfl⟩, rfl, rfl, rfl, rfl⟩

set_option maxRecDepth 100000 in
set_option maxHeartbeats 4000000 in
theorem v38 (w : World) (bl bm : Nat) (a : Act) (hf : Fr 266 a) (h11 : sl a 11 = .pointer (some ⟨bl, 0, none⟩)) (h13 : sl a 13 = .slice (some ⟨bm, 0, none⟩) 136 136) :
    Code.wp Try.prog (cAt [1,1,1,1,1,1,1,1,0] KC) (Exit.then (fun a' w' => ∃ bh, Fr 266 a' ∧ sl a' 11 = .pointer (some ⟨bl, 0, none⟩) ∧ sl a' 13 = .slice (some ⟨bm, 0, none⟩) 136 136 ∧ sl a' 15 = .pointer (some ⟨bh, 0, none⟩) ∧ w'.rangeAt bh 0 hdK.cs ∧ Below w.heap.size w w') Nope) a w := by
  obtain ⟨f, ha, hs⟩ := fr266 hf
  have e11 := (hs 11).trans h11
  have e13 := (hs 13).trans h13
  rw [e11, e13] at ha
  clear hs hf e11 h11 e13 h13
  subst ha
  refine piece2 fun J0 K0 hJ0 hK0 => ?_
  conv => arg 2; whnf
  obtain ⟨hp1, hp2⟩ := put_new w hdK.cs h60.cs 26 (by rfl)
  have HT1 : Hid ((w.alloc (.cells h60.cs.toArray 26)).there w.heap.size 0 hdK.cs.length) := hp2
  have HP1 : Hid (Below w.heap.size w ((w.alloc (.cells h60.cs.toArray 26)).setCells w.heap.size 0 hdK.cs) ∧ World.rangeAt ((w.alloc (.cells h60.cs.toArray 26)).setCells w.heap.size 0 hdK.cs) w.heap.size 0 hdK.cs) := hp1
  have inf6K : (Try.prog.info? 26).map (·.size) = some hdK.cs.length := by kernel_rfl
  obtain ⟨sA, hsA⟩ : ∃ x, (bv hdK.src).toArray = x := ⟨_, rfl⟩
  obtain ⟨dA, hdA⟩ : ∃ x, (bv hdK.dst).toArray = x := ⟨_, rfl⟩
  obtain ⟨cA, hcA⟩ : ∃ x, hdK.cs.toArray = x := ⟨_, rfl⟩
  have HB1 : Hid (Try.prog.built 24 [(0, .int .u8 1)] = some sA) := by rw [← hsA]; exact kbuiltS
  have HB2 : Hid (Try.prog.built 24 [(15, .int .u8 2)] = some dA) := by rw [← hdA]; exact kbuiltD
  have HB3 : Hid (Try.prog.built 26 [(0, .int .u8 255), (1, .int .u32 1048575), (2, .int .u16 7), (3, .int .u8 6), (4, .int .u8 9), (5, .agg sA), (6, .agg dA)] = some cA) := by rw [← hsA, ← hdA, ← hcA]; exact kbuiltK
  have HCA := Lib.hid hcA
  clear hp1 hp2 hsA hdA hcA
  go_wp2_with (first
    | (refine wpList_build_run (cells := sA) rfl 24 _ rfl ?_ ?_; · exact HB1.out)
    | (refine wpList_build_run (cells := dA) rfl 24 _ rfl ?_ ?_; · exact HB2.out)
    | (refine wpList_build_run (cells := cA) rfl 26 _ rfl ?_ ?_; · exact HB3.out)
    | (refine stN (fun w' => Hid (Below w.heap.size w w' ∧ w'.rangeAt w.heap.size 0 hdK.cs)) 26 (.tmp 15) (.tmp 220) rfl rfl w.heap.size 0 hdK.cs rfl (by rw [HCA.out]; rfl) HT1.out inf6K (H6.one _) HP1 ?_; intro wq HF))
  refine Met.intro (hJ0 _ _ ?_)
  exact ⟨_, ⟨rfl, rfl⟩, rfl, rfl, rfl, HF.out.2, HF.out.1⟩

set_option maxRecDepth 100000 in
set_option maxHeartbeats 4000000 in
theorem v39 (w : World) (bl bm bh : Nat) (HH : Hid (w.rangeAt bh 0 hdK.cs)) (a : Act) (hf : Fr 266 a) (h11 : sl a 11 = .pointer (some ⟨bl, 0, none⟩)) (h13 : sl a 13 = .slice (some ⟨bm, 0, none⟩) 136 136) (h15 : sl a 15 = .pointer (some ⟨bh, 0, none⟩)) :
    Code.wp Try.prog (cAt [1,1,1,1,1,1,1,1,1,0] KC) (Exit.then (fun a' w' => ∃ (ah : Option Addr) (nh ch : Nat) (xh : List Int), Fr 266 a' ∧ sl a' 11 = .pointer (some ⟨bl, 0, none⟩) ∧ sl a' 13 = .slice (some ⟨bm, 0, none⟩) 136 136 ∧ sl a' 15 = .pointer (some ⟨bh, 0, none⟩) ∧ sl a' 16 = .slice ah nh ch ∧ RwB w' ah nh ch xh ∧ nh ≤ 100 ∧ Below w.heap.size w w') Nope) a w := by
  obtain ⟨f, ha, hs⟩ := fr266 hf
  have e11 := (hs 11).trans h11
  have e13 := (hs 13).trans h13
  have e15 := (hs 15).trans h15
  rw [e11, e13, e15] at ha
  clear hs hf e11 h11 e13 h13 e15 h15
  subst ha
  refine piece2 fun J0 K0 hJ0 hK0 => ?_
  conv => arg 2; whnf
  have inf6K : (Try.prog.info? 26).map (·.size) = some hdK.cs.length := by kernel_rfl
  go_wp2_with (refine ldC 26 (.tmp 15) rfl rfl bh rfl hdK.cs HH.out _ Try.underlying26 rfl inf6K ?_)
  refine (sxPut_any hdK _ hdK_ok).mono ?_
  rintro e w1 ⟨hb, ⟨hfl, ah, nh, ch, rfl, hown⟩ | ⟨hfl, rfl⟩⟩
  · have HR : Hid (RwB w1 ah nh ch (h6b hdK) ∧ nh ≤ 100 ∧ Below w.heap.size w w1) := ⟨RwB.of hown (h6b_byt hdK_ok), by rw [← hown.len, h6b_len hdK_ok]; decide, hb⟩
    clear hb hown
    go_wp2_with fail
    refine Met.intro (hJ0 _ _ ?_)
    exact ⟨_, _, _, _, ⟨rfl, rfl⟩, rfl, rfl, rfl, rfl, HR.out⟩
  · exfalso
    exact absurd hfl (by decide)

set_option maxRecDepth 100000 in
set_option maxHeartbeats 4000000 in
theorem v40 (w : World) (bl bm bh : Nat) (ah : Option Addr) (nh ch : Nat) (a : Act) (hf : Fr 266 a) (h11 : sl a 11 = .pointer (some ⟨bl, 0, none⟩)) (h13 : sl a 13 = .slice (some ⟨bm, 0, none⟩) 136 136) (h15 : sl a 15 = .pointer (some ⟨bh, 0, none⟩)) (h16 : sl a 16 = .slice ah nh ch) :
    Code.wp Try.prog (cAt [1,1,1,1,1,1,1,1,1,1,0,0] KC) (Exit.then (fun a' w' => Fr 266 a' ∧ sl a' 11 = .pointer (some ⟨bl, 0, none⟩) ∧ sl a' 13 = .slice (some ⟨bm, 0, none⟩) 136 136 ∧ sl a' 15 = .pointer (some ⟨bh, 0, none⟩) ∧ sl a' 16 = .slice ah nh ch ∧ sl a' 18 = .int .i64 0 ∧ w = w') Nope) a w := by
  obtain ⟨f, ha, hs⟩ := fr266 hf
  have e11 := (hs 11).trans h11
  have e13 := (hs 13).trans h13
  have e15 := (hs 15).trans h15
  have e16 := (hs 16).trans h16
  rw [e11, e13, e15, e16] at ha
  clear hs hf e11 h11 e13 h13 e15 h15 e16 h16
  subst ha
  refine piece2 fun J0 K0 hJ0 hK0 => ?_
  conv => arg 2; whnf
  go_wp2_with fail
  refine Met.intro (hJ0 _ _ ?_)
  exact ⟨⟨rfl, rfl⟩, rfl, rfl, rfl, rfl, rfl, rfl⟩

set_option maxRecDepth 100000 in
set_option maxHeartbeats 4000000 in
theorem v41 (w : World) (bl bm bh : Nat) (ah : Option Addr) (nh ch i : Nat) (hi : i ≤ nh) (a : Act) (hf : Fr 266 a) (h11 : sl a 11 = .pointer (some ⟨bl, 0, none⟩)) (h13 : sl a 13 = .slice (some ⟨bm, 0, none⟩) 136 136) (h15 : sl a 15 = .pointer (some ⟨bh, 0, none⟩)) (h16 : sl a 16 = .slice ah nh ch) (h18 : sl a 18 = .int .i64 (i : Int)) :
    Code.wp Try.prog (cAt [1,1,1,1,1,1,1,1,1,1,0,1,2,2,0] KC) (Exit.then (fun a' w' => Fr 266 a' ∧ sl a' 11 = .pointer (some ⟨bl, 0, none⟩) ∧ sl a' 13 = .slice (some ⟨bm, 0, none⟩) 136 136 ∧ sl a' 15 = .pointer (some ⟨bh, 0, none⟩) ∧ sl a' 16 = .slice ah nh ch ∧ sl a' 18 = .int .i64 (i : Int) ∧ w = w') Nope) a w := by
  obtain ⟨f, ha, hs⟩ := fr266 hf
  have e11 := (hs 11).trans h11
  have e13 := (hs 13).trans h13
  have e15 := (hs 15).trans h15
  have e16 := (hs 16).trans h16
  have e18 := (hs 18).trans h18
  rw [e11, e13, e15, e16, e18] at ha
  clear hs hf e11 h11 e13 h13 e15 h15 e16 h16 e18 h18
  subst ha
  refine piece2 fun J0 K0 hJ0 hK0 => ?_
  conv => arg 2; whnf
  have hi' : (i : Int) ≤ (nh : Int) := by omega
  go_wp2_with fail
  refine Met.intro (hJ0 _ _ ?_)
  exact ⟨⟨rfl, rfl⟩, rfl, rfl, rfl, rfl, rfl, rfl⟩

set_option maxRecDepth 100000 in
set_option maxHeartbeats 4000000 in
theorem v41x (w : World) (bl bm bh : Nat) (ah : Option Addr) (nh ch i : Nat) (hi : nh < i) (a : Act) (hf : Fr 266 a) (h11 : sl a 11 = .pointer (some ⟨bl, 0, none⟩)) (h13 : sl a 13 = .slice (some ⟨bm, 0, none⟩) 136 136) (h15 : sl a 15 = .pointer (some ⟨bh, 0, none⟩)) (h16 : sl a 16 = .slice ah nh ch) (h18 : sl a 18 = .int .i64 (i : Int)) :
    Code.wp Try.prog (cAt [1,1,1,1,1,1,1,1,1,1,0,1,2,2] KC) (Outs 10 (fun a' w' => Fr 266 a' ∧ sl a' 11 = .pointer (some ⟨bl, 0, none⟩) ∧ sl a' 13 = .slice (some ⟨bm, 0, none⟩) 136 136 ∧ w = w')) a w := by
  obtain ⟨f, ha, hs⟩ := fr266 hf
  have e11 := (hs 11).trans h11
  have e13 := (hs 13).trans h13
  have e15 := (hs 15).trans h15
  have e16 := (hs 16).trans h16
  have e18 := (hs 18).trans h18
  rw [e11, e13, e15, e16, e18] at ha
  clear hs hf e11 h11 e13 h13 e15 h15 e16 h16 e18 h18
  subst ha
  conv => arg 2; whnf
  have hi' : ¬ (i : Int) ≤ (nh : Int) := by omega
  go_wp2_with fail
  exact ⟨rfl, ⟨rfl, rfl⟩, rfl, rfl, rfl⟩

set_option maxRecDepth 100000 in
set_option maxHeartbeats 8000000 in
theorem v43 (wb w : World) (bl bm bh : Nat) (a0 ah : Option Addr) (m d nh ch i : Nat) (es : List Ex) (xm xh : List Int) (hi : i ≤ nh) (hnh : nh ≤ 100) (HX : Hid (MX wb bl a0 m d es bm xm bh ah nh ch xh w)) (a : Act) (hf : Fr 266 a) (h11 : sl a 11 = .pointer (some ⟨bl, 0, none⟩)) (h13 : sl a 13 = .slice (some ⟨bm, 0, none⟩) 136 136) (h15 : sl a 15 = .pointer (some ⟨bh, 0, none⟩)) (h16 : sl a 16 = .slice ah nh ch) (h18 : sl a 18 = .int .i64 (i : Int)) :
    Code.wp Try.prog (cAt [1,1,1,1,1,1,1,1,1,1,0,1,2,2,1,0,2,0] KC) (Exit.then (fun a' w' => Fr 266 a' ∧ sl a' 11 = .pointer (some ⟨bl, 0, none⟩) ∧ sl a' 13 = .slice (some ⟨bm, 0, none⟩) 136 136 ∧ sl a' 15 = .pointer (some ⟨bh, 0, none⟩) ∧ sl a' 16 = .slice ah nh ch ∧ sl a' 18 = .int .i64 (i : Int) ∧ sl a' 250 = .bool false ∧ MX wb bl a0 m d es bm xm bh ah nh ch xh w') Nope) a w := by
  obtain ⟨f, ha, hs⟩ := fr266 hf
  have e11 := (hs 11).trans h11
  have e13 := (hs 13).trans h13
  have e15 := (hs 15).trans h15
  have e16 := (hs 16).trans h16
  have e18 := (hs 18).trans h18
  rw [e11, e13, e15, e16, e18] at ha
  clear hs hf e11 h11 e13 h13 e15 h15 e16 h16 e18 h18
  subst ha
  refine piece2 fun J0 K0 hJ0 hK0 => ?_
  conv => arg 2; whnf
  have inf6K : (Try.prog.info? 26).map (·.size) = some hdK.cs.length := by kernel_rfl
  obtain ⟨r9, hr⟩ := Int.eq_ofNat_of_zero_le (show 0 ≤ (i : Int) % 9 by omega)
  have hr9 : r9 ≤ 136 := by omega
  have hcap := HX.out.rw.cap
  have hmax := HX.out.rw.max
  unfold maxLen at hmax
  have i1 : (i : Int).tmod 9 = (r9 : Int) := by rw [Int.tmod_eq_emod_of_nonneg (by omega)]; exact hr
  have i2 : IntKind.i64.wrap (r9 : Int) = (r9 : Int) := IntWalk.i64_in _ (by omega)
  have i3 : (i : Int) ≤ (ch : Int) := by omega
  have i4 : (r9 : Int) ≤ 136 := by omega
  clear hr
  have hs0 : World.rangeAt w bh 0 hdK.cs := HX.out.hd
  refine wp_region_held_drew (S := fun w' => World.rangeAt w' bh 0 hdK.cs) (by kernel_rfl) hs0 (fun hS => ?_)
  have HX0 := Lib.hid (HX.out.next (Below.refl _ _).drew)
  clear hs0
  refine tk 0 232 (.agg (hdK.cs).toArray) rfl rfl (by kernel_rfl) (by kernel_rfl) (by kernel_rfl) (fun _ _ _ h => h) (yieldsIf_load_mid (by rfl) _ _ rfl (bh) (0) rfl (hdK.cs) _ (fun w' h' => h') Try.underlying26 rfl (inf6K)) hS ?_
  try simp only [Act.put, List.setIfInBounds_toArray, List.set_cons_zero, List.set_cons_succ]
  refine tk 1 233 (.slice ah nh ch) rfl rfl (by kernel_rfl) (by kernel_rfl) (by kernel_rfl) (fun _ _ _ h => h) (Or.inl ⟨by rfl, fun w' h' => ?_⟩) hS ?_
  · go_simp
  try simp only [Act.put, List.setIfInBounds_toArray, List.set_cons_zero, List.set_cons_succ]
  refine tk 2 234 (.int .i64 (i : Int)) rfl rfl (by kernel_rfl) (by kernel_rfl) (by kernel_rfl) (fun _ _ _ h => h) (Or.inl ⟨by rfl, fun w' h' => ?_⟩) hS ?_
  · go_simp
  try simp only [Act.put, List.setIfInBounds_toArray, List.set_cons_zero, List.set_cons_succ]
  refine tk 3 235 (.slice ah i ch) rfl rfl (by kernel_rfl) (by kernel_rfl) (by kernel_rfl) (fun _ _ _ h => h) (Or.inl ⟨by rfl, fun w' h' => ?_⟩) hS ?_
  · go_simp
  try simp only [Act.put, List.setIfInBounds_toArray, List.set_cons_zero, List.set_cons_succ]
  refine wpAnyH_ready (rs := [4]) (by kernel_rfl) (by simp) (AllReadyH.cons rfl (fun K hK => ?_) AllReadyH.nil)
  rw [if_pos (by rfl)]
  go_wp2_with fail
  refine (heads_any hdK ah i ch (xh.take i) _ hdK_ok (HX0.out.rw.cut i hi).len (HX0.out.rw.cut i hi).cap (HX0.out.rw.cut i hi).rd (HX0.out.rw.cut i hi).byt).mono ?_
  rintro e wb0 ⟨rfl, hb⟩
  have HX1 := Lib.hid (HX0.out.next hb)
  clear hb
  clear hS
  refine hK.out _ _ (HX1.out.hd) (fun hS => ?_)
  clear hK K
  try simp only [Act.put, List.setIfInBounds_toArray, List.set_cons_zero, List.set_cons_succ]
  refine tk 5 237 (.bool false) rfl rfl (by kernel_rfl) (by kernel_rfl) (by kernel_rfl) (fun _ _ _ h => h) (Or.inl ⟨by rfl, fun w' h' => ?_⟩) hS ?_
  · go_simp
  try simp only [Act.put, List.setIfInBounds_toArray, List.set_cons_zero, List.set_cons_succ]
  refine tk 6 238 (.bool false) rfl rfl (by kernel_rfl) (by kernel_rfl) (by kernel_rfl) (fun _ _ _ h => h) (Or.inl ⟨by rfl, fun w' h' => ?_⟩) hS ?_
  · go_simp
  try simp only [Act.put, List.setIfInBounds_toArray, List.set_cons_zero, List.set_cons_succ]
  refine tk 7 239 (.slice ah nh ch) rfl rfl (by kernel_rfl) (by kernel_rfl) (by kernel_rfl) (fun _ _ _ h => h) (Or.inl ⟨by rfl, fun w' h' => ?_⟩) hS ?_
  · go_simp
  try simp only [Act.put, List.setIfInBounds_toArray, List.set_cons_zero, List.set_cons_succ]
  refine tk 8 240 (.int .i64 (i : Int)) rfl rfl (by kernel_rfl) (by kernel_rfl) (by kernel_rfl) (fun _ _ _ h => h) (Or.inl ⟨by rfl, fun w' h' => ?_⟩) hS ?_
  · go_simp
  try simp only [Act.put, List.setIfInBounds_toArray, List.set_cons_zero, List.set_cons_succ]
  refine tk 9 241 (.slice ah i ch) rfl rfl (by kernel_rfl) (by kernel_rfl) (by kernel_rfl) (fun _ _ _ h => h) (Or.inl ⟨by rfl, fun w' h' => ?_⟩) hS ?_
  · go_simp
  try simp only [Act.put, List.setIfInBounds_toArray, List.set_cons_zero, List.set_cons_succ]
  refine tk 11 243 (.slice (some ⟨bm, 0, none⟩) 136 136) rfl rfl (by kernel_rfl) (by kernel_rfl) (by kernel_rfl) (fun _ _ _ h => h) (Or.inl ⟨by rfl, fun w' h' => ?_⟩) hS ?_
  · go_simp
  try simp only [Act.put, List.setIfInBounds_toArray, List.set_cons_zero, List.set_cons_succ]
  refine tk 12 244 (.int .i64 (i : Int)) rfl rfl (by kernel_rfl) (by kernel_rfl) (by kernel_rfl) (fun _ _ _ h => h) (Or.inl ⟨by rfl, fun w' h' => ?_⟩) hS ?_
  · go_simp
  try simp only [Act.put, List.setIfInBounds_toArray, List.set_cons_zero, List.set_cons_succ]
  refine tk 13 245 (.int .i64 (r9 : Int)) rfl rfl (by kernel_rfl) (by kernel_rfl) (by kernel_rfl) (fun _ _ _ h => h) (Or.inl ⟨by rfl, fun w' h' => ?_⟩) hS ?_
  · go_simp
  try simp only [Act.put, List.setIfInBounds_toArray, List.set_cons_zero, List.set_cons_succ]
  refine tk 14 246 (.slice (some ⟨bm, 0, none⟩) r9 136) rfl rfl (by kernel_rfl) (by kernel_rfl) (by kernel_rfl) (fun _ _ _ h => h) (Or.inl ⟨by rfl, fun w' h' => ?_⟩) hS ?_
  · go_simp
  try simp only [Act.put, List.setIfInBounds_toArray, List.set_cons_zero, List.set_cons_succ]
  refine wpAnyH_ready (rs := [10]) (by kernel_rfl) (by simp) (AllReadyH.cons rfl (fun K hK => ?_) AllReadyH.nil)
  rw [if_pos (by rfl)]
  go_wp2_with fail
  refine (kOwn_any ah i ch (xh.take i) _ (HX1.out.rw.cut i hi).len (HX1.out.rw.cut i hi).rd (by have := HX1.out.rw.cap; omega)).mono ?_
  rintro e wb1 ⟨a5, n5, c5, rfl, ho5, hb⟩
  have HX2 := Lib.hid (HX1.out.next hb)
  have hn5 : i = n5 := by rw [← ho5.len]; exact (HX1.out.rw.cut i hi).len.symm
  have hl5 := (HX1.out.rw.cut i hi).byt
  rw [← hn5] at ho5 ⊢
  clear hn5
  obtain ⟨a6, c6, wb2, hrun, ho6, hg6, _⟩ := run_append_rd wb1 wb0.heap.size 27 ho5 136 (HX2.out.mn.cut r9 hr9).len (HX2.out.mn.cut r9 hr9).rd (by omega) hb.size
  have HB12 : Hid (Below wb0.heap.size wb0 wb2) := hb.grown hg6 hb.size (fun k e => (ho5.blk_ge k e).1)
  have HX3 := Lib.hid (HX1.out.next HB12.out)
  have HR6 := Lib.hid (RwB.of ho6 (hl5.append (HX1.out.mn.cut r9 hr9).byt))
  clear hb ho5 ho6 hg6 hl5
  clear hS
  refine hK.out _ _ (HX2.out.hd) (fun hS => ?_)
  clear hK K
  try simp only [Act.put, List.setIfInBounds_toArray, List.set_cons_zero, List.set_cons_succ]
  refine wpAnyH_ready (rs := [15]) (by kernel_rfl) (by simp) (AllReadyH.cons rfl (fun K hK => ?_) AllReadyH.nil)
  rw [if_pos (by rfl)]
  refine Lib.wp_append_run _ (.tmp 242) (.tmp 246) _ _ rfl _ _ rfl rfl _ _ hrun ?_
  clear hrun
  clear hS
  refine hK.out _ _ (HX3.out.hd) (fun hS => ?_)
  clear hK K
  try simp only [Act.put, List.setIfInBounds_toArray]
  refine wpAnyH_ready (rs := [16]) (by kernel_rfl) (by simp) (AllReadyH.cons rfl (fun K hK => ?_) AllReadyH.nil)
  rw [if_pos (by rfl)]
  go_wp2_with fail
  refine (parses_any 6 a6 (i + r9) c6 (xh.take i ++ xm.take r9) _ (by decide) (by decide) HR6.out.len HR6.out.cap HR6.out.rd HR6.out.byt).mono ?_
  rintro e wb3 ⟨rfl, hb⟩
  have HX4 := Lib.hid (HX3.out.next hb)
  clear hb
  clear hS
  refine hK.out _ _ (HX4.out.hd) (fun hS => ?_)
  clear hK K
  try simp only [Act.put, List.setIfInBounds_toArray, List.set_cons_zero, List.set_cons_succ]
  refine tk 17 249 (.bool false) rfl rfl (by kernel_rfl) (by kernel_rfl) (by kernel_rfl) (fun _ _ _ h => h) (Or.inl ⟨by rfl, fun w' h' => ?_⟩) hS ?_
  · go_simp
  try simp only [Act.put, List.setIfInBounds_toArray, List.set_cons_zero, List.set_cons_succ]
  refine tk 18 250 (.bool false) rfl rfl (by kernel_rfl) (by kernel_rfl) (by kernel_rfl) (fun _ _ _ h => h) (Or.inl ⟨by rfl, fun w' h' => ?_⟩) hS ?_
  · go_simp
  refine wpAnyH_done (by kernel_rfl) ?_ _
  go_wp2_with fail
  refine Met.intro (hJ0 _ _ ?_)
  exact ⟨⟨rfl, rfl⟩, rfl, rfl, rfl, rfl, rfl, rfl, HX4.out⟩

set_option maxRecDepth 100000 in
set_option maxHeartbeats 4000000 in
theorem v44 (w : World) (bl bm bh : Nat) (ah : Option Addr) (nh ch i : Nat) (a : Act) (hf : Fr 266 a) (h11 : sl a 11 = .pointer (some ⟨bl, 0, none⟩)) (h13 : sl a 13 = .slice (some ⟨bm, 0, none⟩) 136 136) (h15 : sl a 15 = .pointer (some ⟨bh, 0, none⟩)) (h16 : sl a 16 = .slice ah nh ch) (h18 : sl a 18 = .int .i64 (i : Int)) (h250 : sl a 250 = .bool false) :
    Code.wp Try.prog (cAt [1,1,1,1,1,1,1,1,1,1,0,1,2,2,1,0,2,1] KC) (Exit.then (fun a' w' => Fr 266 a' ∧ sl a' 11 = .pointer (some ⟨bl, 0, none⟩) ∧ sl a' 13 = .slice (some ⟨bm, 0, none⟩) 136 136 ∧ sl a' 15 = .pointer (some ⟨bh, 0, none⟩) ∧ sl a' 16 = .slice ah nh ch ∧ sl a' 18 = .int .i64 (i : Int) ∧ w = w') Nope) a w := by
  obtain ⟨f, ha, hs⟩ := fr266 hf
  have e11 := (hs 11).trans h11
  have e13 := (hs 13).trans h13
  have e15 := (hs 15).trans h15
  have e16 := (hs 16).trans h16
  have e18 := (hs 18).trans h18
  have e250 := (hs 250).trans h250
  rw [e11, e13, e15, e16, e18, e250] at ha
  clear hs hf e11 h11 e13 h13 e15 h15 e16 h16 e18 h18 e250 h250
  subst ha
  refine piece2 fun J0 K0 hJ0 hK0 => ?_
  conv => arg 2; whnf
  go_wp2_with fail
  refine Met.intro (hJ0 _ _ ?_)
  exact ⟨⟨rfl, rfl⟩, rfl, rfl, rfl, rfl, rfl, rfl⟩

set_option maxRecDepth 100000 in
set_option maxHeartbeats 4000000 in
theorem v42 (w : World) (bl bm bh : Nat) (ah : Option Addr) (nh ch i : Nat) (hi : i ≤ 100) (a : Act) (hf : Fr 266 a) (h11 : sl a 11 = .pointer (some ⟨bl, 0, none⟩)) (h13 : sl a 13 = .slice (some ⟨bm, 0, none⟩) 136 136) (h15 : sl a 15 = .pointer (some ⟨bh, 0, none⟩)) (h16 : sl a 16 = .slice ah nh ch) (h18 : sl a 18 = .int .i64 (i : Int)) :
    Code.wp Try.prog (cAt [1,1,1,1,1,1,1,1,1,1,0,1,2,2,1,1] KC) (Exit.then (fun a' w' => Fr 266 a' ∧ sl a' 11 = .pointer (some ⟨bl, 0, none⟩) ∧ sl a' 13 = .slice (some ⟨bm, 0, none⟩) 136 136 ∧ sl a' 15 = .pointer (some ⟨bh, 0, none⟩) ∧ sl a' 16 = .slice ah nh ch ∧ sl a' 18 = .int .i64 ((i : Int) + 1) ∧ w = w') Nope) a w := by
  obtain ⟨f, ha, hs⟩ := fr266 hf
  have e11 := (hs 11).trans h11
  have e13 := (hs 13).trans h13
  have e15 := (hs 15).trans h15
  have e16 := (hs 16).trans h16
  have e18 := (hs 18).trans h18
  rw [e11, e13, e15, e16, e18] at ha
  clear hs hf e11 h11 e13 h13 e15 h15 e16 h16 e18 h18
  subst ha
  refine piece2 fun J0 K0 hJ0 hK0 => ?_
  conv => arg 2; whnf
  go_wp2_with fail
  refine Met.intro (hJ0 _ _ ?_)
  exact ⟨⟨rfl, rfl⟩, rfl, rfl, rfl, rfl, rfl, rfl⟩

end Go.Proofs.Ythipnkaghddbhaa

namespace Go.Proofs.Ythipnkaghddbhaa
open Go.ChangeShapes Go.WideShapes Go.ChangeAt Go.RowKit

theorem y3r (wx w : World) (bk n i b4 q b6 : Nat) (y : Ex) (HX : BX wx b6 y w) (j : Nat) (hj : j < y.n) (hj6 : j < 6) (hn : n < 100003) (a : Act) (hf : Fr 266 a) (h1 : sl a 1 = .slice (some ⟨bk, 0, none⟩) 8 8) (h2 : sl a 2 = .int .i64 (n : Int)) (h3 : sl a 3 = .int .i64 (i : Int)) (h4 : sl a 4 = .pointer (some ⟨b4, 0, none⟩)) (h5 : sl a 5 = .int .i64 (q : Int)) (h6 : sl a 6 = .pointer (some ⟨b6, 0, none⟩)) (h7 : sl a 7 = .int .i64 (j : Int)) :
    Code.wp Try.prog (cAt [1,1,1,0,1,2,2,1,0,2,1,0,1,2,2,1,0,2,1,0,1,2,2] KC) (Exit.then (fun a' w' => ∃ (y : Ex), Fr 266 a' ∧ sl a' 1 = .slice (some ⟨bk, 0, none⟩) 8 8 ∧ sl a' 2 = .int .i64 (n : Int) ∧ sl a' 3 = .int .i64 (i : Int) ∧ sl a' 4 = .pointer (some ⟨b4, 0, none⟩) ∧ sl a' 5 = .int .i64 (q : Int) ∧ sl a' 6 = .pointer (some ⟨b6, 0, none⟩) ∧ sl a' 7 = .int .i64 ((j : Int) + 1) ∧ BX wx b6 y w') Nope) a w := by
  refine wp_sqR (x := cAt [1,1,1,0,1,2,2,1,0,2,1,0,1,2,2,1,0,2,1,0,1,2,2,0] KC) (y := cAt [1,1,1,0,1,2,2,1,0,2,1,0,1,2,2,1,0,2,1,0,1,2,2,1] KC) (by kernel_rfl) (u12 wx w bk n i b4 q b6 y HX j hj hj6 a hf h1 h2 h3 h4 h5 h6 h7) ?_
  rintro a1 _ ⟨hf, h1, h2, h3, h4, h5, h6, h7, rfl⟩
  refine wp_sqR (R := fun a' w' => ∃ y : Ex, Fr 266 a' ∧ sl a' 1 = .slice (some ⟨bk, 0, none⟩) 8 8 ∧ sl a' 2 = .int .i64 (n : Int) ∧ sl a' 3 = .int .i64 (i : Int) ∧ sl a' 4 = .pointer (some ⟨b4, 0, none⟩) ∧ sl a' 5 = .int .i64 (q : Int) ∧ sl a' 6 = .pointer (some ⟨b6, 0, none⟩) ∧ sl a' 7 = .int .i64 (j : Int) ∧ BX wx b6 y w') (x := cAt [1,1,1,0,1,2,2,1,0,2,1,0,1,2,2,1,0,2,1,0,1,2,2,1,0] KC) (y := cAt [1,1,1,0,1,2,2,1,0,2,1,0,1,2,2,1,0,2,1,0,1,2,2,1,1] KC) (by kernel_rfl) ?_ ?_
  · refine wp_blockR (x := cAt [1,1,1,0,1,2,2,1,0,2,1,0,1,2,2,1,0,2,1,0,1,2,2,1,0,2] KC) (id := 5) (by kernel_rfl) ?_
    refine wp_endR (u14 wx w bk n i b4 q b6 y HX j hj hj6 hn a1 hf h1 h2 h3 h4 h5 h6 h7) ?_
    rintro a2 w2 h
    exact h
  rintro a2 w2 ⟨y2, hf, h1, h2, h3, h4, h5, h6, h7, hx⟩
  refine wp_endR (u13 w2 bk n i b4 q b6 j hj6 a2 hf h1 h2 h3 h4 h5 h6 h7) ?_
  rintro a3 _ ⟨hf, h1, h2, h3, h4, h5, h6, h7, rfl⟩
  exact ⟨y2, hf, h1, h2, h3, h4, h5, h6, h7, hx⟩

theorem y3 (wx w : World) (bk n i b4 q b6 : Nat) (y : Ex) (HX : BX wx b6 y w) (hn : n < 100003) (a : Act) (hf : Fr 266 a) (h1 : sl a 1 = .slice (some ⟨bk, 0, none⟩) 8 8) (h2 : sl a 2 = .int .i64 (n : Int)) (h3 : sl a 3 = .int .i64 (i : Int)) (h4 : sl a 4 = .pointer (some ⟨b4, 0, none⟩)) (h5 : sl a 5 = .int .i64 (q : Int)) (h6 : sl a 6 = .pointer (some ⟨b6, 0, none⟩)) :
    Code.wp Try.prog (cAt [1,1,1,0,1,2,2,1,0,2,1,0,1,2,2,1,0,2,1,0] KC) (Exit.then (fun a' w' => ∃ (y : Ex), Fr 266 a' ∧ sl a' 1 = .slice (some ⟨bk, 0, none⟩) 8 8 ∧ sl a' 2 = .int .i64 (n : Int) ∧ sl a' 3 = .int .i64 (i : Int) ∧ sl a' 4 = .pointer (some ⟨b4, 0, none⟩) ∧ sl a' 5 = .int .i64 (q : Int) ∧ sl a' 6 = .pointer (some ⟨b6, 0, none⟩) ∧ BX wx b6 y w') Nope) a w := by
  refine wp_sqR (x := cAt [1,1,1,0,1,2,2,1,0,2,1,0,1,2,2,1,0,2,1,0,0] KC) (y := cAt [1,1,1,0,1,2,2,1,0,2,1,0,1,2,2,1,0,2,1,0,1] KC) (by kernel_rfl) (u11 w bk n i b4 q b6 a hf h1 h2 h3 h4 h5 h6) ?_
  rintro a1 _ ⟨hf, h1, h2, h3, h4, h5, h6, h7, rfl⟩
  refine wp_blockR (x := cAt [1,1,1,0,1,2,2,1,0,2,1,0,1,2,2,1,0,2,1,0,1,2] KC) (id := 4) (by kernel_rfl) ?_
  refine wp_loopR (x := cAt [1,1,1,0,1,2,2,1,0,2,1,0,1,2,2,1,0,2,1,0,1,2,2] KC) (by kernel_rfl) (fun a' w' => ∃ (j : Nat) (y : Ex), j ≤ 6 ∧ Fr 266 a' ∧ sl a' 1 = .slice (some ⟨bk, 0, none⟩) 8 8 ∧ sl a' 2 = .int .i64 (n : Int) ∧ sl a' 3 = .int .i64 (i : Int) ∧ sl a' 4 = .pointer (some ⟨b4, 0, none⟩) ∧ sl a' 5 = .int .i64 (q : Int) ∧ sl a' 6 = .pointer (some ⟨b6, 0, none⟩) ∧ sl a' 7 = .int .i64 (j : Int) ∧ BX wx b6 y w') (fun a' _ => 6 - (intOf (sl a' 7)).toNat) ⟨0, y, by omega, hf, h1, h2, h3, h4, h5, h6, h7, HX⟩ ?_
  rintro a' w' ⟨j, y, hj6, hf, h1, h2, h3, h4, h5, h6, h7, HX⟩
  by_cases hj : j < y.n
  · by_cases hl : j < 6
    · refine wp_endR (y3r wx w' bk n i b4 q b6 y HX j hj hl hn a' hf h1 h2 h3 h4 h5 h6 h7) ?_
      rintro b2 w2 ⟨y2, hf', h1', h2', h3', h4', h5', h6', h7', hx⟩
      refine ⟨⟨j + 1, y2, by omega, hf', h1', h2', h3', h4', h5', h6', by rw [h7']; rfl, hx⟩, ?_⟩
      rw [h7, h7']
      simp only [intOf]
      omega
    · refine wp_endX (u12y wx w' bk n i b4 q b6 y HX j hj (by omega) a' hf h1 h2 h3 h4 h5 h6 h7) ?_
      rintro b2 w2 ⟨hf', h1', h2', h3', h4', h5', h6', rfl⟩
      refine thru ?_
      exact ⟨y, hf', h1', h2', h3', h4', h5', h6', HX⟩
  · refine wp_endX (u12x wx w' bk n i b4 q b6 y HX j (by omega) a' hf h1 h2 h3 h4 h5 h6 h7) ?_
    rintro b2 w2 ⟨hf', h1', h2', h3', h4', h5', h6', rfl⟩
    refine thru ?_
    exact ⟨y, hf', h1', h2', h3', h4', h5', h6', HX⟩

theorem cn_base {w0 wb wx : World} {b4 : Nat} {p : Int} {a0 : Option Addr} {m d : Nat} {es : List Ex} (hb0 : Below w0.heap.size w0 wb) (h : Cn wb b4 p a0 m d es wx) : Below w0.heap.size w0 wx := hb0.trans (h.below.mono (by have := hb0.size; have := h.sz; omega))
theorem y2r (w0 wb wx : World) (bk n i b4 q : Nat) (hn : n < 100003) (hi : i < 300) (HC : Hid (∀ r, r < 8 → w0.cell? ⟨bk, r, none⟩ = some (.int .u8 (kinds8.getD r 0)))) (hb0 : Below w0.heap.size w0 wb) (a0 : Option Addr) (m d : Nat) (es : List Ex) (HN : Cn wb b4 0 a0 m d es wx) (hq : 0 < q) (hq4 : q ≤ 4) (hm : m ≤ 100) (a : Act) (hf : Fr 266 a) (h1 : sl a 1 = .slice (some ⟨bk, 0, none⟩) 8 8) (h2 : sl a 2 = .int .i64 (n : Int)) (h3 : sl a 3 = .int .i64 (i : Int)) (h4 : sl a 4 = .pointer (some ⟨b4, 0, none⟩)) (h5 : sl a 5 = .int .i64 (q : Int)) :
    Code.wp Try.prog (cAt [1,1,1,0,1,2,2,1,0,2,1,0,1,2,2] KC) (Exit.then (fun a' w' => ∃ (n2 : Nat) (a1 : Option Addr) (d1 : Nat) (es : List Ex), Fr 266 a' ∧ sl a' 1 = .slice (some ⟨bk, 0, none⟩) 8 8 ∧ sl a' 2 = .int .i64 (n2 : Int) ∧ sl a' 3 = .int .i64 (i : Int) ∧ sl a' 4 = .pointer (some ⟨b4, 0, none⟩) ∧ sl a' 5 = .int .i64 ((q : Int) - 1) ∧ n2 < 100003 ∧ Cn wb b4 0 a1 (m + 1) d1 es w') Nope) a wx := by
  refine wp_sqR (x := cAt [1,1,1,0,1,2,2,1,0,2,1,0,1,2,2,0] KC) (y := cAt [1,1,1,0,1,2,2,1,0,2,1,0,1,2,2,1] KC) (by kernel_rfl) (u8 wx bk n i b4 q hq a hf h1 h2 h3 h4 h5) ?_
  rintro a1 _ ⟨hf, h1, h2, h3, h4, h5, rfl⟩
  refine wp_sqR (R := fun a' w' => ∃ (n2 : Nat) (a1 : Option Addr) (d1 : Nat) (es : List Ex), Fr 266 a' ∧ sl a' 1 = .slice (some ⟨bk, 0, none⟩) 8 8 ∧ sl a' 2 = .int .i64 (n2 : Int) ∧ sl a' 3 = .int .i64 (i : Int) ∧ sl a' 4 = .pointer (some ⟨b4, 0, none⟩) ∧ sl a' 5 = .int .i64 (q : Int) ∧ n2 < 100003 ∧ Cn wb b4 0 a1 (m + 1) d1 es w') (x := cAt [1,1,1,0,1,2,2,1,0,2,1,0,1,2,2,1,0] KC) (y := cAt [1,1,1,0,1,2,2,1,0,2,1,0,1,2,2,1,1] KC) (by kernel_rfl) ?_ ?_
  · refine wp_blockR (x := cAt [1,1,1,0,1,2,2,1,0,2,1,0,1,2,2,1,0,2] KC) (id := 3) (by kernel_rfl) ?_
    refine wp_sqR (x := cAt [1,1,1,0,1,2,2,1,0,2,1,0,1,2,2,1,0,2,0] KC) (y := cAt [1,1,1,0,1,2,2,1,0,2,1,0,1,2,2,1,0,2,1] KC) (by kernel_rfl) (u10 w0 wx bk n i b4 q hn hi HC (cn_base hb0 HN) a1 hf h1 h2 h3 h4 h5) ?_
    rintro a2 w2 ⟨b6, y, hf, h1, h2, h3, h4, h5, h6, hx⟩
    refine wp_sqR (x := cAt [1,1,1,0,1,2,2,1,0,2,1,0,1,2,2,1,0,2,1,0] KC) (y := cAt [1,1,1,0,1,2,2,1,0,2,1,0,1,2,2,1,0,2,1,1] KC) (by kernel_rfl) (y3 wx w2 bk n i b4 q b6 y hx hn a2 hf h1 h2 h3 h4 h5 h6) ?_
    rintro a3 w3 ⟨y3, hf, h1, h2, h3, h4, h5, h6, hx⟩
    refine wp_sqR (R := fun a' w' => ∃ y : Ex, Fr 266 a' ∧ sl a' 1 = .slice (some ⟨bk, 0, none⟩) 8 8 ∧ sl a' 2 = .int .i64 (n : Int) ∧ sl a' 3 = .int .i64 (i : Int) ∧ sl a' 4 = .pointer (some ⟨b4, 0, none⟩) ∧ sl a' 5 = .int .i64 (q : Int) ∧ sl a' 6 = .pointer (some ⟨b6, 0, none⟩) ∧ BX wx b6 y w') (x := cAt [1,1,1,0,1,2,2,1,0,2,1,0,1,2,2,1,0,2,1,1,0] KC) (y := cAt [1,1,1,0,1,2,2,1,0,2,1,0,1,2,2,1,0,2,1,1,1] KC) (by kernel_rfl) ?_ ?_
    · by_cases hk : y3.k = 44
      · rcases Nat.eq_zero_or_pos (i % 3) with h3z | h3p
        · refine wp_endR (u15b wx w3 bk n i b4 q b6 y3 hx hk h3z a3 hf h1 h2 h3 h4 h5 h6) ?_
          rintro a4 _ ⟨hf, h1, h2, h3, h4, h5, h6, rfl⟩
          exact ⟨y3, hf, h1, h2, h3, h4, h5, h6, hx⟩
        · exact u15c wx w3 bk n i b4 q b6 y3 hx hk h3p a3 hf h1 h2 h3 h4 h5 h6
      · refine wp_endR (u15a wx w3 bk n i b4 q b6 y3 hx hk a3 hf h1 h2 h3 h4 h5 h6) ?_
        rintro a4 _ ⟨hf, h1, h2, h3, h4, h5, h6, rfl⟩
        exact ⟨y3, hf, h1, h2, h3, h4, h5, h6, hx⟩
    rintro a5 w5 ⟨y5, hf, h1, h2, h3, h4, h5, h6, hx⟩
    refine wp_sqR (x := cAt [1,1,1,0,1,2,2,1,0,2,1,0,1,2,2,1,0,2,1,1,1,0] KC) (y := cAt [1,1,1,0,1,2,2,1,0,2,1,0,1,2,2,1,0,2,1,1,1,1] KC) (by kernel_rfl) (u18 wb wx w5 bk n i b4 q b6 y5 0 a0 m d es hx HN hm a5 hf h1 h2 h3 h4 h5 h6) ?_
    rintro a6 w6 ⟨g6, d6, es6, hf, h1, h2, h3, h4, h5, hc⟩
    refine wp_endR (u19 w6 bk n i b4 q hn hq4 a6 hf h1 h2 h3 h4 h5) ?_
    rintro a7 _ ⟨n2, hf, h1, h2, h3, h4, h5, hn2, rfl⟩
    exact ⟨n2, g6, d6, es6, hf, h1, h2, h3, h4, h5, hn2, hc⟩
  rintro a8 w8 ⟨n2, g6, d6, es6, hf, h1, h2, h3, h4, h5, hn2, hc⟩
  refine wp_endR (u9 w8 bk n2 i b4 q hq hq4 a8 hf h1 h2 h3 h4 h5) ?_
  rintro a9 _ ⟨hf, h1, h2, h3, h4, h5, rfl⟩
  exact ⟨n2, g6, d6, es6, hf, h1, h2, h3, h4, h5, hn2, hc⟩

theorem y2 (w0 wb wx : World) (bk n i b4 q : Nat) (hn : n < 100003) (hi : i < 300) (HC : Hid (∀ r, r < 8 → w0.cell? ⟨bk, r, none⟩ = some (.int .u8 (kinds8.getD r 0)))) (hb0 : Below w0.heap.size w0 wb) (a0 : Option Addr) (m d : Nat) (es : List Ex) (HN : Cn wb b4 0 a0 m d es wx) (hq4 : q ≤ 4) (hm : m + q ≤ 4) (a : Act) (hf : Fr 266 a) (h1 : sl a 1 = .slice (some ⟨bk, 0, none⟩) 8 8) (h2 : sl a 2 = .int .i64 (n : Int)) (h3 : sl a 3 = .int .i64 (i : Int)) (h4 : sl a 4 = .pointer (some ⟨b4, 0, none⟩)) (h5 : sl a 5 = .int .i64 (q : Int)) :
    Code.wp Try.prog (cAt [1,1,1,0,1,2,2,1,0,2,1,0,1] KC) (Exit.then (fun a' w' => ∃ (n2 : Nat) (a1 : Option Addr) (m1 d1 : Nat) (es : List Ex), Fr 266 a' ∧ sl a' 1 = .slice (some ⟨bk, 0, none⟩) 8 8 ∧ sl a' 2 = .int .i64 (n2 : Int) ∧ sl a' 3 = .int .i64 (i : Int) ∧ sl a' 4 = .pointer (some ⟨b4, 0, none⟩) ∧ n2 < 100003 ∧ Cn wb b4 0 a1 m1 d1 es w') Nope) a wx := by
  refine wp_blockR (x := cAt [1,1,1,0,1,2,2,1,0,2,1,0,1,2] KC) (id := 2) (by kernel_rfl) ?_
  refine wp_loopR (x := cAt [1,1,1,0,1,2,2,1,0,2,1,0,1,2,2] KC) (by kernel_rfl) (fun a' w' => ∃ (q n2 : Nat) (a0 : Option Addr) (m d : Nat) (es : List Ex), q ≤ 4 ∧ m + q ≤ 4 ∧ n2 < 100003 ∧ Fr 266 a' ∧ sl a' 1 = .slice (some ⟨bk, 0, none⟩) 8 8 ∧ sl a' 2 = .int .i64 (n2 : Int) ∧ sl a' 3 = .int .i64 (i : Int) ∧ sl a' 4 = .pointer (some ⟨b4, 0, none⟩) ∧ sl a' 5 = .int .i64 (q : Int) ∧ Cn wb b4 0 a0 m d es w') (fun a' _ => (intOf (sl a' 5)).toNat) ⟨q, n, a0, m, d, es, hq4, hm, hn, hf, h1, h2, h3, h4, h5, HN⟩ ?_
  rintro a' w' ⟨q, n2, a0, m, d, es, hq4, hm, hn2, hf, h1, h2, h3, h4, h5, HN⟩
  rcases Nat.eq_zero_or_pos q with hq | hq
  · subst hq
    refine wp_endX (u8x w' bk n2 i b4 a' hf h1 h2 h3 h4 h5) ?_
    rintro b2 w2 ⟨hf', h1', h2', h3', h4', rfl⟩
    refine thru ?_
    exact ⟨n2, a0, m, d, es, hf', h1', h2', h3', h4', hn2, HN⟩
  · refine wp_endR (y2r w0 wb w' bk n2 i b4 q hn2 hi HC hb0 a0 m d es HN hq hq4 (by omega) a' hf h1 h2 h3 h4 h5) ?_
    rintro b2 w2 ⟨n3, a1, d1, es1, hf', h1', h2', h3', h4', h5', hn3, hc⟩
    refine ⟨⟨q - 1, n3, a1, m + 1, d1, es1, by omega, by omega, hn3, hf', h1', h2', h3', h4', by rw [h5', Int.natCast_sub (by omega)]; rfl, hc⟩, ?_⟩
    rw [h5, h5']
    simp only [intOf]
    omega

theorem y1r (w0 w : World) (bk n i : Nat) (hn : n < 100003) (hi : i < 300) (HC : Hid (∀ r, r < 8 → w0.cell? ⟨bk, r, none⟩ = some (.int .u8 (kinds8.getD r 0)))) (hb0 : Below w0.heap.size w0 w) (a : Act) (hf : Fr 266 a) (h1 : sl a 1 = .slice (some ⟨bk, 0, none⟩) 8 8) (h2 : sl a 2 = .int .i64 (n : Int)) (h3 : sl a 3 = .int .i64 (i : Int)) :
    Code.wp Try.prog (cAt [1,1,1,0,1,2,2] KC) (Exit.then (fun a' w' => ∃ (n2 : Nat), Fr 266 a' ∧ sl a' 1 = .slice (some ⟨bk, 0, none⟩) 8 8 ∧ sl a' 2 = .int .i64 (n2 : Int) ∧ sl a' 3 = .int .i64 ((i : Int) + 1) ∧ n2 < 100003 ∧ Below w0.heap.size w0 w') Nope) a w := by
  refine wp_sqR (x := cAt [1,1,1,0,1,2,2,0] KC) (y := cAt [1,1,1,0,1,2,2,1] KC) (by kernel_rfl) (u4 w bk n i hi a hf h1 h2 h3) ?_
  rintro a1 _ ⟨hf, h1, h2, h3, rfl⟩
  refine wp_sqR (R := fun a' w' => ∃ n2 : Nat, Fr 266 a' ∧ sl a' 1 = .slice (some ⟨bk, 0, none⟩) 8 8 ∧ sl a' 2 = .int .i64 (n2 : Int) ∧ sl a' 3 = .int .i64 (i : Int) ∧ n2 < 100003 ∧ Below w0.heap.size w0 w') (x := cAt [1,1,1,0,1,2,2,1,0] KC) (y := cAt [1,1,1,0,1,2,2,1,1] KC) (by kernel_rfl) ?_ ?_
  · refine wp_blockR (x := cAt [1,1,1,0,1,2,2,1,0,2] KC) (id := 1) (by kernel_rfl) ?_
    refine wp_sqR (x := cAt [1,1,1,0,1,2,2,1,0,2,0] KC) (y := cAt [1,1,1,0,1,2,2,1,0,2,1] KC) (by kernel_rfl) (u6 w bk n i a1 hf h1 h2 h3) ?_
    rintro a2 w2 ⟨b4, hf, h1, h2, h3, h4, hc⟩
    refine wp_sqR (R := fun a' w' => ∃ (n2 : Nat) (a1 : Option Addr) (m1 d1 : Nat) (es : List Ex), Fr 266 a' ∧ sl a' 1 = .slice (some ⟨bk, 0, none⟩) 8 8 ∧ sl a' 2 = .int .i64 (n2 : Int) ∧ sl a' 3 = .int .i64 (i : Int) ∧ sl a' 4 = .pointer (some ⟨b4, 0, none⟩) ∧ n2 < 100003 ∧ Cn w b4 0 a1 m1 d1 es w') (x := cAt [1,1,1,0,1,2,2,1,0,2,1,0] KC) (y := cAt [1,1,1,0,1,2,2,1,0,2,1,1] KC) (by kernel_rfl) ?_ ?_
    · refine wp_sqR (x := cAt [1,1,1,0,1,2,2,1,0,2,1,0,0] KC) (y := cAt [1,1,1,0,1,2,2,1,0,2,1,0,1] KC) (by kernel_rfl) (u7 w2 bk n i b4 hn a2 hf h1 h2 h3 h4) ?_
      rintro a3 _ ⟨q, hf, h1, h2, h3, h4, h5, hq4, rfl⟩
      exact y2 w0 w w2 bk n i b4 q hn hi HC hb0 none 0 0 [] hc hq4 (by omega) a3 hf h1 h2 h3 h4 h5
    rintro a4 w4 ⟨n2, e0, m, d, es, hf, h1, h2, h3, h4, hn2, hc⟩
    refine wp_sqR (x := cAt [1,1,1,0,1,2,2,1,0,2,1,1,0] KC) (y := cAt [1,1,1,0,1,2,2,1,0,2,1,1,1] KC) (by kernel_rfl) (u20 w0 w w4 bk n2 i b4 hn2 HC (cn_base hb0 hc) 0 e0 m d es hc a4 hf h1 h2 h3 h4) ?_
    rintro a5 w5 ⟨p, hf, h1, h2, h3, h4, hp, hc⟩
    refine wp_sqR (x := cAt [1,1,1,0,1,2,2,1,0,2,1,1,1,0] KC) (y := cAt [1,1,1,0,1,2,2,1,0,2,1,1,1,1] KC) (by kernel_rfl) (u21 w w5 bk n2 i b4 p hp e0 m d es hc a5 hf h1 h2 h3 h4) ?_
    rintro a6 w6 ⟨eb, nb, cb, xb, F, hf, h1, h2, h3, h4, h8, h9, hc6, hob, hyb, hF6, hb6⟩
    refine wp_sqR (R := fun a' w' => ∃ xb : List Int, Fr 266 a' ∧ sl a' 1 = .slice (some ⟨bk, 0, none⟩) 8 8 ∧ sl a' 2 = .int .i64 (n2 : Int) ∧ sl a' 3 = .int .i64 (i : Int) ∧ sl a' 4 = .pointer (some ⟨b4, 0, none⟩) ∧ sl a' 8 = .slice eb nb cb ∧ sl a' 9 = .int .u8 F ∧ ZX w b4 p e0 m d es eb nb cb xb w') (x := cAt [1,1,1,0,1,2,2,1,0,2,1,1,1,1,0] KC) (y := cAt [1,1,1,0,1,2,2,1,0,2,1,1,1,1,1] KC) (by kernel_rfl) ?_ ?_
    · rcases Nat.lt_or_ge 3 nb with hl | hl
      · by_cases h4i : i % 4 = 0
        · refine wp_endR (u22c w w5 w6 bk n2 i b4 p F e0 eb m d nb cb es xb hl h4i hn2 ⟨hb6, hc⟩ ⟨hob, hyb⟩ a6 hf h1 h2 h3 h4 h8 h9) ?_
          rintro a7 w7 ⟨xb7, hf, h1, h2, h3, h4, h8, h9, hc7, ho7, hy7⟩
          exact ⟨xb7, hf, h1, h2, h3, h4, h8, h9, hc7, RwB.of ho7 hy7⟩
        · refine wp_endR (u22b w6 bk n2 i b4 F eb nb cb hl h4i a6 hf h1 h2 h3 h4 h8 h9) ?_
          rintro a7 _ ⟨hf, h1, h2, h3, h4, h8, h9, rfl⟩
          exact ⟨xb, hf, h1, h2, h3, h4, h8, h9, hc6, RwB.of hob hyb⟩
      · refine wp_endR (u22a w6 bk n2 i b4 F eb nb cb hl a6 hf h1 h2 h3 h4 h8 h9) ?_
        rintro a7 _ ⟨hf, h1, h2, h3, h4, h8, h9, rfl⟩
        exact ⟨xb, hf, h1, h2, h3, h4, h8, h9, hc6, RwB.of hob hyb⟩
    rintro a7 w7 ⟨xb, hf, h1, h2, h3, h4, h8, h9, hz⟩
    have hb07 := cn_base hb0 hz.cn
    refine wp_endR (Q := _) (R := fun a' w' => Fr 266 a' ∧ sl a' 1 = .slice (some ⟨bk, 0, none⟩) 8 8 ∧ sl a' 2 = .int .i64 (n2 : Int) ∧ sl a' 3 = .int .i64 (i : Int) ∧ Below w7.heap.size w7 w') ?_ ?_
    · refine wp_sqR (R := fun a' w' => Fr 266 a' ∧ sl a' 1 = .slice (some ⟨bk, 0, none⟩) 8 8 ∧ sl a' 2 = .int .i64 (n2 : Int) ∧ sl a' 3 = .int .i64 (i : Int) ∧ sl a' 187 = .bool false ∧ Below w7.heap.size w7 w') (x := cAt [1,1,1,0,1,2,2,1,0,2,1,1,1,1,1,0] KC) (y := cAt [1,1,1,0,1,2,2,1,0,2,1,1,1,1,1,1] KC) (by kernel_rfl) ?_ ?_
      · rcases Nat.lt_or_ge 1 nb with hl | hl
        · exact u24c w0 w w7 bk n2 i b4 p F hp hF6 hn2 e0 eb m d nb cb es xb HC hb07 hz hl a7 hf h1 h2 h3 h4 h8 h9
        · have h01 : nb = 0 ∨ nb = 1 := by omega
          rcases h01 with rfl | rfl
          · exact u24a w0 w w7 bk n2 i b4 p F hp hF6 hn2 e0 eb m d cb es xb HC hb07 hz a7 hf h1 h2 h3 h4 h8 h9
          · exact u24b w0 w w7 bk n2 i b4 p F hp hF6 hn2 e0 eb m d cb es xb HC hb07 hz a7 hf h1 h2 h3 h4 h8 h9
      rintro a8 w8 ⟨hf, h1, h2, h3, h187, hb8⟩
      refine wp_endR (u25 w8 bk n2 i a8 hf h1 h2 h3 h187) ?_
      rintro a9 _ ⟨hf, h1, h2, h3, rfl⟩
      exact ⟨hf, h1, h2, h3, hb8⟩
    rintro a9 w9 ⟨hf, h1, h2, h3, hb9⟩
    exact ⟨n2, hf, h1, h2, h3, hn2, hb07.trans (hb9.mono hb07.size)⟩
  rintro a9 w9 ⟨n2, hf, h1, h2, h3, hn2, hb9⟩
  refine wp_endR (u5 w9 bk n2 i hi a9 hf h1 h2 h3) ?_
  rintro b1 _ ⟨hf, h1, h2, h3, rfl⟩
  exact ⟨n2, hf, h1, h2, h3, hn2, hb9⟩

theorem y1 (w0 w : World) (bk : Nat) (HC : Hid (∀ r, r < 8 → w0.cell? ⟨bk, r, none⟩ = some (.int .u8 (kinds8.getD r 0)))) (hb0 : Below w0.heap.size w0 w) (a : Act) (hf : Fr 266 a) (h1 : sl a 1 = .slice (some ⟨bk, 0, none⟩) 8 8) (h2 : sl a 2 = .int .i64 1) (h3 : sl a 3 = .int .i64 0) :
    Code.wp Try.prog (cAt [1,1,1,0,1] KC) (Exit.then (fun a' w' => Fr 266 a' ∧ Below w0.heap.size w0 w') Nope) a w := by
  refine wp_blockR (x := cAt [1,1,1,0,1,2] KC) (id := 0) (by kernel_rfl) ?_
  refine wp_loopR (x := cAt [1,1,1,0,1,2,2] KC) (by kernel_rfl) (fun a' w' => ∃ (n i : Nat), n < 100003 ∧ i ≤ 300 ∧ Fr 266 a' ∧ sl a' 1 = .slice (some ⟨bk, 0, none⟩) 8 8 ∧ sl a' 2 = .int .i64 (n : Int) ∧ sl a' 3 = .int .i64 (i : Int) ∧ Below w0.heap.size w0 w') (fun a' _ => 300 - (intOf (sl a' 3)).toNat) ⟨1, 0, by omega, by omega, hf, h1, h2, h3, hb0⟩ ?_
  rintro a' w' ⟨n, i, hn, hi, hf, h1, h2, h3, hb⟩
  by_cases hl : i < 300
  · refine wp_endR (y1r w0 w' bk n i hn hl HC hb a' hf h1 h2 h3) ?_
    rintro b2 w2 ⟨n2, hf', h1', h2', h3', hn2, hb2⟩
    refine ⟨⟨n2, i + 1, hn2, by omega, hf', h1', h2', by rw [h3']; rfl, hb2⟩, ?_⟩
    rw [h3, h3']
    simp only [intOf]
    omega
  · obtain rfl : i = 300 := by omega
    refine wp_endX (u4x w' bk a' hf h1 h3) ?_
    rintro b2 w2 ⟨hf', rfl⟩
    refine thru ?_
    exact ⟨hf', hb⟩

theorem z6r (wb w : World) (bl j : Nat) (a0 : Option Addr) (d : Nat) (es : List Ex) (HN : Cn wb bl 6 a0 j d es w) (hj : j < 17) (a : Act) (hf : Fr 266 a) (h11 : sl a 11 = .pointer (some ⟨bl, 0, none⟩)) (h12 : sl a 12 = .int .i64 (j : Int)) :
    Code.wp Try.prog (cAt [1,1,1,1,1,0,1,2,2] KC) (Exit.then (fun a' w' => ∃ (a1 : Option Addr) (d1 : Nat) (es : List Ex), Fr 266 a' ∧ sl a' 11 = .pointer (some ⟨bl, 0, none⟩) ∧ sl a' 12 = .int .i64 ((j : Int) + 1) ∧ Cn wb bl 6 a1 (j + 1) d1 es w') Nope) a w := by
  refine wp_sqR (x := cAt [1,1,1,1,1,0,1,2,2,0] KC) (y := cAt [1,1,1,1,1,0,1,2,2,1] KC) (by kernel_rfl) (v28 w bl j hj a hf h11 h12) ?_
  rintro a1 _ ⟨hf, h11, h12, rfl⟩
  refine wp_sqR (R := fun a' w' => ∃ (a1 : Option Addr) (d1 : Nat) (es : List Ex), Fr 266 a' ∧ sl a' 11 = .pointer (some ⟨bl, 0, none⟩) ∧ sl a' 12 = .int .i64 (j : Int) ∧ Cn wb bl 6 a1 (j + 1) d1 es w') (x := cAt [1,1,1,1,1,0,1,2,2,1,0] KC) (y := cAt [1,1,1,1,1,0,1,2,2,1,1] KC) (by kernel_rfl) ?_ ?_
  · refine wp_blockR (x := cAt [1,1,1,1,1,0,1,2,2,1,0,2] KC) (id := 7) (by kernel_rfl) ?_
    refine wp_sqR (x := cAt [1,1,1,1,1,0,1,2,2,1,0,2,0] KC) (y := cAt [1,1,1,1,1,0,1,2,2,1,0,2,1] KC) (by kernel_rfl) (v30 wb w bl j a0 j d es HN a1 hf h11 h12) ?_
    rintro a2 w2 ⟨hf, h11, h12, hc⟩
    refine wp_endR (v32 wb w2 bl j a0 j d es hc (by omega) a2 hf h11 h12) ?_
    rintro a3 w3 h
    exact h
  rintro a4 w4 ⟨e1, d1, es1, hf, h11, h12, hc⟩
  refine wp_endR (v29 w4 bl j hj a4 hf h11 h12) ?_
  rintro a5 _ ⟨hf, h11, h12, rfl⟩
  exact ⟨e1, d1, es1, hf, h11, h12, hc⟩

theorem z6 (wb w : World) (bl : Nat) (HN : Cn wb bl 6 none 0 0 [] w) (a : Act) (hf : Fr 266 a) (h11 : sl a 11 = .pointer (some ⟨bl, 0, none⟩)) (h12 : sl a 12 = .int .i64 0) :
    Code.wp Try.prog (cAt [1,1,1,1,1,0,1] KC) (Exit.then (fun a' w' => ∃ (a1 : Option Addr) (m1 d1 : Nat) (es : List Ex), Fr 266 a' ∧ sl a' 11 = .pointer (some ⟨bl, 0, none⟩) ∧ Cn wb bl 6 a1 m1 d1 es w') Nope) a w := by
  refine wp_blockR (x := cAt [1,1,1,1,1,0,1,2] KC) (id := 6) (by kernel_rfl) ?_
  refine wp_loopR (x := cAt [1,1,1,1,1,0,1,2,2] KC) (by kernel_rfl) (fun a' w' => ∃ (j : Nat) (a0 : Option Addr) (d : Nat) (es : List Ex), j ≤ 17 ∧ Fr 266 a' ∧ sl a' 11 = .pointer (some ⟨bl, 0, none⟩) ∧ sl a' 12 = .int .i64 (j : Int) ∧ Cn wb bl 6 a0 j d es w') (fun a' _ => 17 - (intOf (sl a' 12)).toNat) ⟨0, none, 0, [], by omega, hf, h11, h12, HN⟩ ?_
  rintro a' w' ⟨j, a0, d, es, hj, hf, h11, h12, HN⟩
  by_cases hl : j < 17
  · refine wp_endR (z6r wb w' bl j a0 d es HN hl a' hf h11 h12) ?_
    rintro b2 w2 ⟨e1, d1, es1, hf', h11', h12', hc⟩
    refine ⟨⟨j + 1, e1, d1, es1, by omega, hf', h11', by rw [h12']; rfl, hc⟩, ?_⟩
    rw [h12, h12']
    simp only [intOf]
    omega
  · obtain rfl : j = 17 := by omega
    refine wp_endX (v28x w' bl a' hf h11 h12) ?_
    rintro b2 w2 ⟨hf', h11', rfl⟩
    refine thru ?_
    exact ⟨a0, 17, d, es, hf', h11', HN⟩

theorem z8r (wm w : World) (bl bm j : Nat) (hj : j < 136) (xs : List Int) (HO : Cp wm w bm 136 136 xs ∧ Byt xs) (a : Act) (hf : Fr 266 a) (h11 : sl a 11 = .pointer (some ⟨bl, 0, none⟩)) (h13 : sl a 13 = .slice (some ⟨bm, 0, none⟩) 136 136) (h14 : sl a 14 = .int .i64 (j : Int)) :
    Code.wp Try.prog (cAt [1,1,1,1,1,1,1,0,1,2,2] KC) (Exit.then (fun a' w' => ∃ (xs : List Int), Fr 266 a' ∧ sl a' 11 = .pointer (some ⟨bl, 0, none⟩) ∧ sl a' 13 = .slice (some ⟨bm, 0, none⟩) 136 136 ∧ sl a' 14 = .int .i64 ((j : Int) + 8) ∧ Cp wm w' bm 136 136 xs ∧ Byt xs) Nope) a w := by
  refine wp_sqR (x := cAt [1,1,1,1,1,1,1,0,1,2,2,0] KC) (y := cAt [1,1,1,1,1,1,1,0,1,2,2,1] KC) (by kernel_rfl) (v35 w bl bm j hj a hf h11 h13 h14) ?_
  rintro a1 _ ⟨hf, h11, h13, h14, rfl⟩
  refine wp_sqR (R := fun a' w' => ∃ xs : List Int, Fr 266 a' ∧ sl a' 11 = .pointer (some ⟨bl, 0, none⟩) ∧ sl a' 13 = .slice (some ⟨bm, 0, none⟩) 136 136 ∧ sl a' 14 = .int .i64 (j : Int) ∧ Cp wm w' bm 136 136 xs ∧ Byt xs) (x := cAt [1,1,1,1,1,1,1,0,1,2,2,1,0] KC) (y := cAt [1,1,1,1,1,1,1,0,1,2,2,1,1] KC) (by kernel_rfl) ?_ ?_
  · refine wp_blockR (x := cAt [1,1,1,1,1,1,1,0,1,2,2,1,0,2] KC) (id := 9) (by kernel_rfl) ?_
    refine wp_endR (v37 wm w bl bm j hj xs HO a1 hf h11 h13 h14) ?_
    rintro a2 w2 h
    exact h
  rintro a2 w2 ⟨ys, hf, h11, h13, h14, hc⟩
  refine wp_endR (v36 w2 bl bm j hj a2 hf h11 h13 h14) ?_
  rintro a3 _ ⟨hf, h11, h13, h14, rfl⟩
  exact ⟨ys, hf, h11, h13, h14, hc⟩

theorem z8 (wm w : World) (bl bm : Nat) (xs : List Int) (HO : Cp wm w bm 136 136 xs ∧ Byt xs) (a : Act) (hf : Fr 266 a) (h11 : sl a 11 = .pointer (some ⟨bl, 0, none⟩)) (h13 : sl a 13 = .slice (some ⟨bm, 0, none⟩) 136 136) (h14 : sl a 14 = .int .i64 0) :
    Code.wp Try.prog (cAt [1,1,1,1,1,1,1,0,1] KC) (Exit.then (fun a' w' => ∃ (xs : List Int), Fr 266 a' ∧ sl a' 11 = .pointer (some ⟨bl, 0, none⟩) ∧ sl a' 13 = .slice (some ⟨bm, 0, none⟩) 136 136 ∧ Cp wm w' bm 136 136 xs ∧ Byt xs) Nope) a w := by
  refine wp_blockR (x := cAt [1,1,1,1,1,1,1,0,1,2] KC) (id := 8) (by kernel_rfl) ?_
  refine wp_loopR (x := cAt [1,1,1,1,1,1,1,0,1,2,2] KC) (by kernel_rfl) (fun a' w' => ∃ (j : Nat) (xs : List Int), j ≤ 143 ∧ Fr 266 a' ∧ sl a' 11 = .pointer (some ⟨bl, 0, none⟩) ∧ sl a' 13 = .slice (some ⟨bm, 0, none⟩) 136 136 ∧ sl a' 14 = .int .i64 (j : Int) ∧ Cp wm w' bm 136 136 xs ∧ Byt xs) (fun a' _ => 144 - (intOf (sl a' 14)).toNat) ⟨0, xs, by omega, hf, h11, h13, h14, HO⟩ ?_
  rintro a' w' ⟨j, xs, hj, hf, h11, h13, h14, HO⟩
  by_cases hl : j < 136
  · refine wp_endR (z8r wm w' bl bm j hl xs HO a' hf h11 h13 h14) ?_
    rintro b2 w2 ⟨ys, hf', h11', h13', h14', hc⟩
    refine ⟨⟨j + 8, ys, by omega, hf', h11', h13', by rw [h14']; rfl, hc⟩, ?_⟩
    rw [h14, h14']
    simp only [intOf]
    omega
  · refine wp_endX (v35x w' bl bm j (by omega) a' hf h11 h13 h14) ?_
    rintro b2 w2 ⟨hf', h11', h13', rfl⟩
    refine thru ?_
    exact ⟨xs, hf', h11', h13', HO⟩

theorem z10r (wb w : World) (bl bm bh : Nat) (a0 ah : Option Addr) (m d nh ch i : Nat) (es : List Ex) (xm xh : List Int) (hnh : nh ≤ 100) (HX : MX wb bl a0 m d es bm xm bh ah nh ch xh w) (hi : i ≤ nh) (a : Act) (hf : Fr 266 a) (h11 : sl a 11 = .pointer (some ⟨bl, 0, none⟩)) (h13 : sl a 13 = .slice (some ⟨bm, 0, none⟩) 136 136) (h15 : sl a 15 = .pointer (some ⟨bh, 0, none⟩)) (h16 : sl a 16 = .slice ah nh ch) (h18 : sl a 18 = .int .i64 (i : Int)) :
    Code.wp Try.prog (cAt [1,1,1,1,1,1,1,1,1,1,0,1,2,2] KC) (Exit.then (fun a' w' => Fr 266 a' ∧ sl a' 11 = .pointer (some ⟨bl, 0, none⟩) ∧ sl a' 13 = .slice (some ⟨bm, 0, none⟩) 136 136 ∧ sl a' 15 = .pointer (some ⟨bh, 0, none⟩) ∧ sl a' 16 = .slice ah nh ch ∧ sl a' 18 = .int .i64 ((i : Int) + 1) ∧ MX wb bl a0 m d es bm xm bh ah nh ch xh w') Nope) a w := by
  refine wp_sqR (x := cAt [1,1,1,1,1,1,1,1,1,1,0,1,2,2,0] KC) (y := cAt [1,1,1,1,1,1,1,1,1,1,0,1,2,2,1] KC) (by kernel_rfl) (v41 w bl bm bh ah nh ch i hi a hf h11 h13 h15 h16 h18) ?_
  rintro a1 _ ⟨hf, h11, h13, h15, h16, h18, rfl⟩
  refine wp_sqR (R := fun a' w' => Fr 266 a' ∧ sl a' 11 = .pointer (some ⟨bl, 0, none⟩) ∧ sl a' 13 = .slice (some ⟨bm, 0, none⟩) 136 136 ∧ sl a' 15 = .pointer (some ⟨bh, 0, none⟩) ∧ sl a' 16 = .slice ah nh ch ∧ sl a' 18 = .int .i64 (i : Int) ∧ MX wb bl a0 m d es bm xm bh ah nh ch xh w') (x := cAt [1,1,1,1,1,1,1,1,1,1,0,1,2,2,1,0] KC) (y := cAt [1,1,1,1,1,1,1,1,1,1,0,1,2,2,1,1] KC) (by kernel_rfl) ?_ ?_
  · refine wp_blockR (x := cAt [1,1,1,1,1,1,1,1,1,1,0,1,2,2,1,0,2] KC) (id := 11) (by kernel_rfl) ?_
    refine wp_sqR (x := cAt [1,1,1,1,1,1,1,1,1,1,0,1,2,2,1,0,2,0] KC) (y := cAt [1,1,1,1,1,1,1,1,1,1,0,1,2,2,1,0,2,1] KC) (by kernel_rfl) (v43 wb w bl bm bh a0 ah m d nh ch i es xm xh hi hnh HX a1 hf h11 h13 h15 h16 h18) ?_
    rintro a2 w2 ⟨hf, h11, h13, h15, h16, h18, h250, hx⟩
    refine wp_endR (v44 w2 bl bm bh ah nh ch i a2 hf h11 h13 h15 h16 h18 h250) ?_
    rintro a3 _ ⟨hf, h11, h13, h15, h16, h18, rfl⟩
    exact ⟨hf, h11, h13, h15, h16, h18, hx⟩
  rintro a4 w4 ⟨hf, h11, h13, h15, h16, h18, hx⟩
  refine wp_endR (v42 w4 bl bm bh ah nh ch i (by omega) a4 hf h11 h13 h15 h16 h18) ?_
  rintro a5 _ ⟨hf, h11, h13, h15, h16, h18, rfl⟩
  exact ⟨hf, h11, h13, h15, h16, h18, hx⟩

theorem z10 (wb w : World) (bl bm bh : Nat) (a0 ah : Option Addr) (m d nh ch : Nat) (es : List Ex) (xm xh : List Int) (hnh : nh ≤ 100) (HX : MX wb bl a0 m d es bm xm bh ah nh ch xh w) (a : Act) (hf : Fr 266 a) (h11 : sl a 11 = .pointer (some ⟨bl, 0, none⟩)) (h13 : sl a 13 = .slice (some ⟨bm, 0, none⟩) 136 136) (h15 : sl a 15 = .pointer (some ⟨bh, 0, none⟩)) (h16 : sl a 16 = .slice ah nh ch) (h18 : sl a 18 = .int .i64 0) :
    Code.wp Try.prog (cAt [1,1,1,1,1,1,1,1,1,1,0,1] KC) (Exit.then (fun a' w' => Fr 266 a' ∧ sl a' 11 = .pointer (some ⟨bl, 0, none⟩) ∧ sl a' 13 = .slice (some ⟨bm, 0, none⟩) 136 136 ∧ MX wb bl a0 m d es bm xm bh ah nh ch xh w') Nope) a w := by
  refine wp_blockR (x := cAt [1,1,1,1,1,1,1,1,1,1,0,1,2] KC) (id := 10) (by kernel_rfl) ?_
  refine wp_loopR (x := cAt [1,1,1,1,1,1,1,1,1,1,0,1,2,2] KC) (by kernel_rfl) (fun a' w' => ∃ i : Nat, i ≤ nh + 1 ∧ Fr 266 a' ∧ sl a' 11 = .pointer (some ⟨bl, 0, none⟩) ∧ sl a' 13 = .slice (some ⟨bm, 0, none⟩) 136 136 ∧ sl a' 15 = .pointer (some ⟨bh, 0, none⟩) ∧ sl a' 16 = .slice ah nh ch ∧ sl a' 18 = .int .i64 (i : Int) ∧ MX wb bl a0 m d es bm xm bh ah nh ch xh w') (fun a' _ => nh + 1 - (intOf (sl a' 18)).toNat) ⟨0, by omega, hf, h11, h13, h15, h16, h18, HX⟩ ?_
  rintro a' w' ⟨i, hi, hf, h11, h13, h15, h16, h18, HX⟩
  by_cases hl : i ≤ nh
  · refine wp_endR (z10r wb w' bl bm bh a0 ah m d nh ch i es xm xh hnh HX hl a' hf h11 h13 h15 h16 h18) ?_
    rintro b2 w2 ⟨hf', h11', h13', h15', h16', h18', hx⟩
    refine ⟨⟨i + 1, by omega, hf', h11', h13', h15', h16', by rw [h18']; rfl, hx⟩, ?_⟩
    rw [h18, h18']
    simp only [intOf]
    omega
  · refine wp_endX (v41x w' bl bm bh ah nh ch i (by omega) a' hf h11 h13 h15 h16 h18) ?_
    rintro b2 w2 ⟨hf', h11', h13', rfl⟩
    refine thru ?_
    exact ⟨hf', h11', h13', HX⟩

set_option maxRecDepth 100000 in
set_option maxHeartbeats 8000000 in
theorem v45 (w wb wr : World) (bl bm bh : Nat) (a0 ah : Option Addr) (m d nh ch : Nat) (es : List Ex) (xm xh : List Int) (HX : Hid (MX wb bl a0 m d es bm xm bh ah nh ch xh wr)) (HBW : Hid (Below w.heap.size w wr)) (a : Act) (hf : Fr 266 a) (h11 : sl a 11 = .pointer (some ⟨bl, 0, none⟩)) (h13 : sl a 13 = .slice (some ⟨bm, 0, none⟩) 136 136) :
    Code.wp Try.prog (cAt [1,1,1,1,1,1,1,1,1,1,1] KC) (bodyPost Try.prog Try.f7 (Gives w (.bool true))) a wr := by
  obtain ⟨f, ha, hs⟩ := fr266 hf
  have e11 := (hs 11).trans h11
  have e13 := (hs 13).trans h13
  rw [e11, e13] at ha
  clear hs hf e11 h11 e13 h13
  subst ha
  conv => arg 2; whnf
  have c0 := HX.out.cn.c0
  have c1 := HX.out.cn.c1
  go_wp2_with fail
  refine (chains_any a0 none m d 0 0 es [] 6 0 _ HX.out.cn.ch.any ⟨rfl, Nat.le_refl _, Nat.zero_le _, fun h => absurd rfl h, fun x hx => by cases hx⟩ (by decide) (by decide) (by decide) (by decide)).mono ?_
  rintro e w1 ⟨rfl, hb⟩
  have HX1 := Lib.hid (HX.out.next hb)
  have HB1 := Lib.hid (HBW.out.trans (hb.mono HBW.out.size))
  clear hb c0 c1
  go_wp2_with fail
  refine (parses_any 60 (some ⟨bm, 0, none⟩) 136 136 xm _ (by decide) (by decide) HX1.out.mn.len HX1.out.mn.cap HX1.out.mn.rd HX1.out.mn.byt).mono ?_
  rintro e w2 ⟨rfl, hb⟩
  have HB2 := Lib.hid (HB1.out.trans (hb.mono HB1.out.size))
  have hl : Own (w2.alloc (.cells (bv [96]).toArray 5)) 0 (some ⟨w2.heap.size, 0, none⟩) 1 1 [96] := Own.lit _ _ _ 1 rfl (by decide) (Nat.zero_le _)
  have HL := Lib.hid hl
  have HBL : Hid (Below w2.heap.size w2 (w2.alloc (.cells (bv [96]).toArray 5))) := (Below.refl _ _).alloc (Nat.le_refl _) _
  clear hb hl
  go_wp2_with fail
  refine (heads_any hF (some ⟨w2.heap.size, 0, none⟩) 1 1 [96] _ hF_ok rfl (Nat.le_refl _) HL.out.rd (by intro x hx; simp at hx; omega)).mono ?_
  rintro e w3 ⟨rfl, hb⟩
  have HB3 := Lib.hid (HB2.out.trans ((HBL.out.trans (hb.mono HBL.out.size)).mono HB2.out.size))
  clear hb
  go_wp2_with fail
  refine (works6_any _).mono ?_
  rintro e w4 ⟨rfl, hb⟩
  have HB4 := Lib.hid (HB3.out.trans (hb.mono HB3.out.size))
  clear hb
  go_wp2_with fail
  go_ret
  exact ⟨rfl, HB4.out⟩

theorem known6_any (w : World) : Calls Try.prog 7 #[] w (Gives w (.bool true)) := by
  refine calls_of_wp (c := KC) Try.func7 (by kernel_rfl) ?_
  have hf : Fr 266 { tmps := #[] ++ Array.replicate (Try.f7.ntmps - (#[] : Array Value).size) undef, defers := [] } := ⟨rfl, by rw [Try.ntmps7]; simp⟩
  refine wp_sqR (x := cAt [0] KC) (y := cAt [1] KC) (by kernel_rfl) (u0 w _ hf) ?_
  rintro a0 _ ⟨hf, rfl⟩
  refine wp_sqR (x := cAt [1,0] KC) (y := cAt [1,1] KC) (by kernel_rfl) (u1 w _ hf) ?_
  rintro a1 w1 ⟨bk, hf, h1, hk, hb1⟩
  refine wp_sqR (x := cAt [1,1,0] KC) (y := cAt [1,1,1] KC) (by kernel_rfl) (u2 w1 bk _ hf h1) ?_
  rintro a2 _ ⟨hf, h1, h2, rfl⟩
  refine wp_sqR (R := fun a' w' => Fr 266 a' ∧ Below w1.heap.size w1 w') (x := cAt [1,1,1,0] KC) (y := cAt [1,1,1,1] KC) (by kernel_rfl) ?_ ?_
  · refine wp_sqR (x := cAt [1,1,1,0,0] KC) (y := cAt [1,1,1,0,1] KC) (by kernel_rfl) (u3 w1 bk _ hf h1 h2) ?_
    rintro a3 _ ⟨hf, h1, h2, h3, rfl⟩
    exact y1 w1 w1 bk hk (Below.refl _ _) a3 hf h1 h2 h3
  rintro a4 w4 ⟨hf, hb4⟩
  have hB4 := hb1.trans (hb4.mono hb1.size)
  refine wp_sqR (x := cAt [1,1,1,1,0] KC) (y := cAt [1,1,1,1,1] KC) (by kernel_rfl) (v26 w4 a4 hf) ?_
  rintro a5 w5 ⟨bl, hf, h11, hc⟩
  refine wp_sqR (R := fun a' w' => ∃ (a1 : Option Addr) (m1 d1 : Nat) (es : List Ex), Fr 266 a' ∧ sl a' 11 = .pointer (some ⟨bl, 0, none⟩) ∧ Cn w4 bl 6 a1 m1 d1 es w') (x := cAt [1,1,1,1,1,0] KC) (y := cAt [1,1,1,1,1,1] KC) (by kernel_rfl) ?_ ?_
  · refine wp_sqR (x := cAt [1,1,1,1,1,0,0] KC) (y := cAt [1,1,1,1,1,0,1] KC) (by kernel_rfl) (v27 w5 bl a5 hf h11) ?_
    rintro a6 _ ⟨hf, h11, h12, rfl⟩
    exact z6 w4 w5 bl hc a6 hf h11 h12
  rintro a6 w6 ⟨e0, m, d, es, hf, h11, hc⟩
  refine wp_sqR (x := cAt [1,1,1,1,1,1,0] KC) (y := cAt [1,1,1,1,1,1,1] KC) (by kernel_rfl) (v33 w6 bl a6 hf h11) ?_
  rintro a7 w7 ⟨bm, hf, h11, h13, ho, hb7⟩
  refine wp_sqR (R := fun a' w' => ∃ xs : List Int, Fr 266 a' ∧ sl a' 11 = .pointer (some ⟨bl, 0, none⟩) ∧ sl a' 13 = .slice (some ⟨bm, 0, none⟩) 136 136 ∧ Cp w6 w' bm 136 136 xs ∧ Byt xs) (x := cAt [1,1,1,1,1,1,1,0] KC) (y := cAt [1,1,1,1,1,1,1,1] KC) (by kernel_rfl) ?_ ?_
  · refine wp_sqR (x := cAt [1,1,1,1,1,1,1,0,0] KC) (y := cAt [1,1,1,1,1,1,1,0,1] KC) (by kernel_rfl) (v34 w7 bl bm a7 hf h11 h13) ?_
    rintro a8 _ ⟨hf, h11, h13, h14, rfl⟩
    exact z8 w6 w7 bl bm (nz 136) ⟨⟨ho, hb7⟩, nz_byt 136⟩ a8 hf h11 h13 h14
  rintro a8 w8 ⟨xm, hf, h11, h13, hcp, hxm⟩
  refine wp_sqR (x := cAt [1,1,1,1,1,1,1,1,0] KC) (y := cAt [1,1,1,1,1,1,1,1,1] KC) (by kernel_rfl) (v38 w8 bl bm a8 hf h11 h13) ?_
  rintro a9 w9 ⟨bh, hf, h11, h13, h15, hh, hb9⟩
  refine wp_sqR (x := cAt [1,1,1,1,1,1,1,1,1,0] KC) (y := cAt [1,1,1,1,1,1,1,1,1,1] KC) (by kernel_rfl) (v39 w9 bl bm bh hh a9 hf h11 h13 h15) ?_
  rintro a10 w10 ⟨ah, nh, ch, xh, hf, h11, h13, h15, h16, hrh, hnh, hb10⟩
  have hc8 := hc.next hcp.below
  have hmx : MX w4 bl e0 m d es bm xm bh ah nh ch xh w10 := ⟨(hc8.next hb9).next hb10, ((RwB.of hcp.own hxm).below hb9).below hb10, range_kept hb10 hh, hrh⟩
  refine wp_sqR (R := fun a' w' => Fr 266 a' ∧ sl a' 11 = .pointer (some ⟨bl, 0, none⟩) ∧ sl a' 13 = .slice (some ⟨bm, 0, none⟩) 136 136 ∧ MX w4 bl e0 m d es bm xm bh ah nh ch xh w') (x := cAt [1,1,1,1,1,1,1,1,1,1,0] KC) (y := cAt [1,1,1,1,1,1,1,1,1,1,1] KC) (by kernel_rfl) ?_ ?_
  · refine wp_sqR (x := cAt [1,1,1,1,1,1,1,1,1,1,0,0] KC) (y := cAt [1,1,1,1,1,1,1,1,1,1,0,1] KC) (by kernel_rfl) (v40 w10 bl bm bh ah nh ch a10 hf h11 h13 h15 h16) ?_
    rintro a11 _ ⟨hf, h11, h13, h15, h16, h18, rfl⟩
    exact z10 w4 w10 bl bm bh e0 ah m d nh ch es xm xh hnh hmx a11 hf h11 h13 h15 h16 h18
  rintro a12 w12 ⟨hf, h11, h13, hx⟩
  exact v45 w w4 w12 bl bm bh e0 ah m d nh ch es xm xh hx (cn_base hB4 hx.cn) a12 hf h11 h13
end Go.Proofs.Ythipnkaghddbhaa

namespace Go.Proofs.Ythipnkaghddbhaa
open Go.ChangeShapes Go.WideShapes Go.ChangeAt Go.RowKit

set_option maxRecDepth 100000 in
theorem ipsixknown_lifted (os : Os) (started : os.Started) (H : Type) (enc : TypeId × Value → H) :
    ReturnsInHanded {} Try.checked os 7 .any (Rows.ipsixKnownSpec.pre6 enc Try.prog Try.f7 Rows.ipsixKnownRow.domain false) (Rows.ipsixKnownSpec.post enc Try.prog Try.f7 false true false false) := by
  refine returnsInHanded_of_change (C := Try.checked) own started (by kernel_rfl) Try.func7
    (ChangeSpec.witness6 (enc := enc) (C := Try.checked) false ⟨#[], #[], []⟩ 8 (by kernel_rfl) (by kernel_rfl) (by kernel_rfl) (by kernel_rfl)) ?_
  intro W base args ds gs before hval0 hW hcnd _
  have hW' := hW
  obtain ⟨p, q, hA0, hV, rfl, hfz, hnd⟩ := hW
  have hA : DataW.TrodAll enc Try.prog W 0 (fun _ => true) true Try.f7.params.toList args.toList ds p := hA0
  rw [Try.params7] at hA
  obtain ⟨hargs, rfl, rfl⟩ := trodAll_nil hA
  obtain rfl : args = #[] := by cases args; simp_all
  obtain ⟨rfl, rfl⟩ := trodVars_none hV
  clear hA0 hval0
  refine (known6_any W).mono fun e W' ⟨he, bel⟩ => ?_
  subst he
  exact ⟨_, rfl, _, _, _, [], _, [], hW', trodAll_mk1 (shut_bool Try.underlying4 _), trodAll_mk0, rfl, bel.frame _, fun h => by cases h⟩

theorem ipsixknown_holds : Rows.IpsixKnownSaid :=
  OpenClaim.holds_of_wide 7 Try.f7 rfl rfl rfl rfl rfl rfl rfl ⟨rfl, rfl, rfl, rfl, rfl⟩ rfl rfl rfl rfl rfl (by kernel_rfl) Try.func7 (by kernel_rfl)
    (of_decide_eq_true (by kernel_rfl)) (by unfold Func.isWrapper; first | (rw [if_pos (by decide +kernel)]; kernel_rfl) | (rw [if_neg (by decide +kernel)]; exact ⟨rfl, rfl⟩))
    (fun os started H enc _ => ipsixknown_lifted os started H enc)
#print axioms ipsixknown_holds
end Go.Proofs.Ythipnkaghddbhaa

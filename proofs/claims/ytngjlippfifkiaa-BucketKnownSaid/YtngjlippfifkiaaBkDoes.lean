/-
  The contract of the statements' own 'does': an act on a bucket answers as the document's does. Conditions: numbers that fit their Go types, no more tokens than the burst. (Made by gen_bkdoes.py.)
-/
import Derived.Test.YtngjlippfifkiaaBkRef
import Derived.Deep.RegionHeld3
namespace Go.Proofs.Ytngjlippfifkiaa
open Go.RowKit

theorem tk {P : Program} {md : Region.Mode} {ops : Array Oper} {Q : Exit → Act → World → Prop} {S : World → Prop} (i d : Nat) (v : Value) {oi : Oper} {fuel : Nat} {listed : Array Bool} {a : Act} {w : World} (hi : ops[i]? = some oi) (hd : oi.dst = some d)
    (hs : Region.noSelect ops = true) (hf : Region.free md ops listed i = true) (hr : (Region.ready md ops listed).contains i = true)
    (hQ : ∀ c a w, Q (.panic c) (a.put (some d) v) w → Q (.panic c) a w) (hy : YieldsIf P ops S oi v a) (hS : S w)
    (h : wpAnyH P md ops Q S fuel (listed.setIfInBounds i true) (a.put (some d) v) w) : wpAnyH P md ops Q S (fuel + 1) listed a w :=
  wpAnyH_take hi hs hf hr (by rw [hd]; exact hQ) hy hS (by rw [hd]; exact h)

/-- An act: what is done, at which tick, with how many tokens. -/
structure Ac where
  d : Int
  t : Int
  n : Int
def Ac.cs (a : Ac) : List Value := [.int .i64 a.d, .int .u64 a.t, .int .u64 a.n]
structure Ac.ok (a : Ac) : Prop where
  t0 : 0 ≤ a.t
  t1 : a.t ≤ 18446744073709551615
  n0 : 0 ≤ a.n
  n1 : a.n ≤ 18446744073709551615
/-- An act lies there. -/
def Ak (w : World) (g : Nat) (a : Ac) : Prop := w.heap[g]? = some (.cells a.cs.toArray 34 (0, 0))
section
variable {w w' : World} {g : Nat} {a : Ac}
theorem Ak.c0 (h : Ak w g a) : w.cell? ⟨g, 0, none⟩ = some (.int .i64 a.d) := by rw [cell_of_row w g 0 _ _ (0, 0) h]; rfl
theorem Ak.c1 (h : Ak w g a) : w.cell? ⟨g, 1, none⟩ = some (.int .u64 a.t) := by rw [cell_of_row w g 1 _ _ (0, 0) h]; rfl
theorem Ak.c2 (h : Ak w g a) : w.cell? ⟨g, 2, none⟩ = some (.int .u64 a.n) := by rw [cell_of_row w g 2 _ _ (0, 0) h]; rfl
theorem Ak.keep {S : Nat → Prop} (h : Ak w g a) (k : Kept S w w') (hs : ¬ S g) : Ak w' g a := k.heap h hs
end
/-- What it does to a bucket. -/
def Bu.act (b : Bu) (a : Ac) : Bu := if a.d = 0 then b.fill a.t else if a.d = 1 then b.took a.t a.n else b
theorem Bu.ok.act {b : Bu} (h : b.ok) {a : Ac} (ha : a.ok) : (b.act a).ok := by
  unfold Bu.act
  split
  · exact h.fill ha.t1
  · split
    · exact h.took ha.t1 ha.n0
    · exact h
/-- What lies there meanwhile: the document's bucket, the act, the place of the answer; and the program's bucket. -/
structure Dz (w wz : World) (h : Nat) (g : Nat) (p b : Bu) (a : Ac) : Prop where
  r : Rk wz h b
  a : Ak wz (h + 1) a
  z : Rk wz (h + 2) ⟨0, 0, 0, 0⟩
  k : Kept (fun x => x = g) w wz
  bk : Bk wz g p
  gh : g < h
  hh : h = w.heap.size
theorem Dz.start (w : World) (g : Nat) (b : Bu) (a : Ac) (hb : Bk w g b) : ∀ wz, ((w.alloc (.cells #[.int .u64 b.r, .int .u64 b.B, .int .u64 b.T, .int .u64 b.K] 28)).alloc (.cells #[.int .i64 a.d, .int .u64 a.t, .int .u64 a.n] 34)).alloc (.cells #[.int .u64 0, .int .u64 0, .int .u64 0, .int .u64 0] 28) = wz →
    Dz w wz w.heap.size g b b a := by
  rintro wz rfl
  have s1 : ∀ (v : World) (x : Obj), (v.alloc x).heap.size = v.heap.size + 1 := fun v x => by simp
  have hg := hb.lt
  have hk : Kept (fun x => x = g) w (((w.alloc (.cells #[.int .u64 b.r, .int .u64 b.B, .int .u64 b.T, .int .u64 b.K] 28)).alloc (.cells #[.int .i64 a.d, .int .u64 a.t, .int .u64 a.n] 34)).alloc (.cells #[.int .u64 0, .int .u64 0, .int .u64 0, .int .u64 0] 28)) :=
    ((Kept.alloc _ _ _).trans (Kept.alloc (fun x => x = g) _ _) (fun _ _ h => h)).trans (Kept.alloc (fun x => x = g) _ _) (fun _ _ h => h)
  refine ⟨?_, ?_, ?_, hk, ?_, hg, rfl⟩
  · unfold Rk
    rw [Below.heap_alloc _ _ _ (by rw [s1, s1]; omega), Below.heap_alloc _ _ _ (by rw [s1]; omega)]
    exact Blk_new _ _ _
  · unfold Ak
    rw [Below.heap_alloc _ _ _ (by rw [s1, s1]; omega)]
    have := Blk_new (w.alloc (.cells #[.int .u64 b.r, .int .u64 b.B, .int .u64 b.T, .int .u64 b.K] 28)) #[.int .i64 a.d, .int .u64 a.t, .int .u64 a.n] 34
    rw [s1] at this
    exact this
  · have := Blk_new ((w.alloc (.cells #[.int .u64 b.r, .int .u64 b.B, .int .u64 b.T, .int .u64 b.K] 28)).alloc (.cells #[.int .i64 a.d, .int .u64 a.t, .int .u64 a.n] 34)) #[.int .u64 0, .int .u64 0, .int .u64 0, .int .u64 0] 28
    rw [s1, s1] at this
    exact this
  · refine ⟨hb.1, ?_⟩
    rw [Below.heap_alloc _ _ _ (by rw [s1, s1]; omega), Below.heap_alloc _ _ _ (by rw [s1]; omega), Below.heap_alloc _ _ _ hg]
    exact hb.2
theorem Dz.below {w wz w' : World} {h g : Nat} {p b : Bu} {a : Ac} (d : Dz w wz h g p b a) (k : Below wz.heap.size wz w') : Dz w w' h g p b a :=
  have q : Kept (fun _ => False) wz w' := Kept.of_below k (fun i hi hi' => by omega)
  ⟨d.r.keep q id, d.a.keep q id, d.z.keep q id, d.k.trans q (fun _ _ h => h.elim), d.bk.keep q id, d.gh, d.hh⟩
theorem Dz.did {w wz w' : World} {h g : Nat} {p p' b : Bu} {a : Ac} (d : Dz w wz h g p b a) (hb : Bk w' g p') (k : Kept (fun x => x = g) wz w') : Dz w w' h g p' b a :=
  ⟨d.r.keep k (by have := d.gh; omega), d.a.keep k (by have := d.gh; omega), d.z.keep k (by have := d.gh; omega), d.k.trans k (fun _ _ h => h), hb, d.gh, d.hh⟩
theorem Dz.put {w wz w' : World} {h g : Nat} {p b b' : Bu} {a : Ac} (d : Dz w wz h g p b a) (hr : Rk w' h b') (k : Kept (fun x => x = h) wz w') : Dz w w' h g p b' a :=
  ⟨hr, d.a.keep k (by omega), d.z.keep k (by omega), d.k.trans k (fun i hi e => by have := d.hh; omega), d.bk.keep k (by have := d.gh; omega), d.gh, d.hh⟩
/-- What an act leaves. -/
def Acts (w : World) (g : Nat) (b : Bu) (a : Ac) (e : Ending) (w' : World) : Prop :=
  e = .returned (.tuple #[.agg (b.act a).cs.toArray, .bool true]) ∧ Bk w' g (b.act a) ∧ Kept (fun x => x = g) w w'
theorem Dz.ends {w wz w' : World} {h g : Nat} {p b c : Bu} {a : Ac} (d : Dz w wz h g p b a) (k : Kept (fun x => x = h + 2) wz w') (hc : p = c) : Bk w' g c ∧ Kept (fun x => x = g) w w' :=
  ⟨hc ▸ d.bk.keep k (by have := d.gh; omega), d.k.trans k (fun i hi e => by have := d.hh; omega)⟩
/-- A whole bucket is stored, inside a region. -/
theorem wp_stB {o : Oper} {a : Act} {w : World} {K : Act → World → Prop} {Q : Exit → Act → World → Prop} (x y : Operand) (ho : o.op = .store 28 x y) (g : Nat) (b b0 : Bu) (hx : a.eval x = .pointer (some ⟨g, 0, none⟩)) (hy : a.eval y = .agg #[.int .u64 b.r, .int .u64 b.B, .int .u64 b.T, .int .u64 b.K]) (hk : Rk w g b0)
    (h : ∀ w', Rk w' g b → Kept (fun x => x = g) w w' → K (a.put o.dst undef) w') : o.wp Try.prog a w K Q :=
  wp_store_mid _ x y ho g 0 b.cs.toArray hx hy hk.there infB (all_oneCell_toArray b.one) (h _ (hk.put b) (Kept.setCells (S := fun x => x = g) g rfl _ 0 (Kept.refl _ _)))

set_option maxRecDepth 100000 in
set_option maxHeartbeats 4000000 in
theorem does_level (g : Nat) (b : Bu) (a : Ac) (w : World) (hb : Bk w g b) (ha : a.ok) (hd : a.d = 0) :
    Calls Try.prog 12 #[.pointer (some ⟨g, 0, none⟩), .agg b.cs.toArray, .agg a.cs.toArray] w (Acts w g b a) := by
  have HZ := Lib.hid (Dz.start w g b a hb)
  have HF := Lib.hid (rFill_any b a.t)
  have HOK := Lib.hid hb.1
  have HA := Lib.hid ha
  have hact : b.act a = b.fill a.t := by rw [Bu.act, if_pos hd]
  obtain ⟨f, hf⟩ : ∃ f, b.fill a.t = f := ⟨_, rfl⟩
  have HL := Lib.hid (level_any g a.t b)
  rw [hf] at HF hact HL
  have HACT := Lib.hid hact
  have hcs : b.cs.toArray = #[.int .u64 b.r, .int .u64 b.B, .int .u64 b.T, .int .u64 b.K] := rfl
  have has : a.cs.toArray = #[.int .i64 a.d, .int .u64 a.t, .int .u64 a.n] := rfl
  have hfs : f.cs.toArray = #[.int .u64 f.r, .int .u64 f.B, .int .u64 f.T, .int .u64 f.K] := rfl
  rw [hcs, has]
  rw [hcs, hfs] at HF
  have hd2 : (a.d == 0) = true := by simp [hd]
  clear hb ha hf hact hcs has hfs hd
  go_enter Try.func12, Try.ntmps12
  go_wp2_with fail
  refine (HF.out _ HOK.out HA.out.t0 HA.out.t1).mono ?_
  obtain ⟨wz, hwz⟩ : ∃ z, ((w.alloc (.cells #[.int .u64 b.r, .int .u64 b.B, .int .u64 b.T, .int .u64 b.K] 28)).alloc (.cells #[.int .i64 a.d, .int .u64 a.t, .int .u64 a.n] 34)).alloc (.cells #[.int .u64 0, .int .u64 0, .int .u64 0, .int .u64 0] 28) = z := ⟨_, rfl⟩
  have hz := HZ.out wz hwz
  rw [hwz]
  rintro e w2 ⟨rfl, hb2⟩
  have HD2 := Lib.hid (hz.below hb2)
  clear hwz hz hb2 HZ HF
  obtain ⟨h, hh⟩ : ∃ h, w.heap.size = h := ⟨_, rfl⟩
  rw [hh] at HD2 ⊢
  clear hh
  go_wp2_with (refine stB (.tmp 4) (.tmp 21) rfl rfl h f _ rfl rfl HD2.out.r ?_; intro w3 hr3 hk3; have HD3 := Lib.hid (HD2.out.put hr3 hk3); clear hr3 hk3 HD2)
  have HS3 : Hid (Rk w3.drew h f ∧ Ak w3.drew (h + 1) a) := ⟨HD3.out.r, HD3.out.a⟩
  refine wp_region_held_drew (S := fun w' => Rk w' h f ∧ Ak w' (h + 1) a) (by kernel_rfl) HS3.out (fun hS => ?_)
  refine tk 0 22 (.agg #[.int .u64 f.r, .int .u64 f.B, .int .u64 f.T, .int .u64 f.K]) rfl rfl (by kernel_rfl) (by kernel_rfl) (by kernel_rfl) (fun _ _ _ h => h) (Or.inl ⟨by rfl, fun w' h' => ?_⟩) hS ?_
  · have c0 := h'.1.c0
    have c1 := h'.1.c1
    have c2 := h'.1.c2
    have c3 := h'.1.c3
    go_simp
  try simp only [Act.put, List.setIfInBounds_toArray, List.set_cons_zero, List.set_cons_succ]
  refine tk 1 23 (.pointer (some ⟨g, 0, none⟩)) rfl rfl (by kernel_rfl) (by kernel_rfl) (by kernel_rfl) (fun _ _ _ h => h) (Or.inl ⟨by rfl, fun w' h' => ?_⟩) hS ?_
  · go_simp
  try simp only [Act.put, List.setIfInBounds_toArray, List.set_cons_zero, List.set_cons_succ]
  refine tk 2 24 (.pointer (some ⟨(h + 1), 1, none⟩)) rfl rfl (by kernel_rfl) (by kernel_rfl) (by kernel_rfl) (fun _ _ _ h => h) (Or.inl ⟨by rfl, fun w' h' => ?_⟩) hS ?_
  · go_simp
  try simp only [Act.put, List.setIfInBounds_toArray, List.set_cons_zero, List.set_cons_succ]
  refine tk 3 25 (.int .u64 a.t) rfl rfl (by kernel_rfl) (by kernel_rfl) (by kernel_rfl) (fun _ _ _ h => h) (Or.inl ⟨by rfl, fun w' h' => ?_⟩) hS ?_
  · have c1 := h'.2.c1
    go_simp
  try simp only [Act.put, List.setIfInBounds_toArray, List.set_cons_zero, List.set_cons_succ]
  refine tk 5 27 (.pointer (some ⟨h, 3, none⟩)) rfl rfl (by kernel_rfl) (by kernel_rfl) (by kernel_rfl) (fun _ _ _ h => h) (Or.inl ⟨by rfl, fun w' h' => ?_⟩) hS ?_
  · go_simp
  try simp only [Act.put, List.setIfInBounds_toArray, List.set_cons_zero, List.set_cons_succ]
  refine tk 6 28 (.int .u64 f.K) rfl rfl (by kernel_rfl) (by kernel_rfl) (by kernel_rfl) (fun _ _ _ h => h) (Or.inl ⟨by rfl, fun w' h' => ?_⟩) hS ?_
  · have c3 := h'.1.c3
    go_simp
  try simp only [Act.put, List.setIfInBounds_toArray, List.set_cons_zero, List.set_cons_succ]
  refine wpAnyH_ready (rs := [4]) (by kernel_rfl) (by simp) (AllReadyH.cons rfl (fun K hK => ?_) AllReadyH.nil)
  rw [if_pos (by rfl)]
  go_wp2_with fail
  refine (HL.out _ HD3.out.bk.drew HA.out.t0 HA.out.t1).mono ?_
  rintro e w4 ⟨rfl, hb4, hk4⟩
  have hk4' : Kept (fun x => x = g) w3 w4 := ⟨hk4.os, hk4.tape, hk4.output, hk4.size, hk4.block⟩
  have HD4 := Lib.hid (HD3.out.did hb4 hk4')
  clear hb4 hk4 hk4'
  clear hS
  refine hK.out _ _ (And.intro HD4.out.r HD4.out.a) (fun hS => ?_)
  clear hK K
  try simp only [Act.put, List.setIfInBounds_toArray, List.set_cons_zero, List.set_cons_succ]
  refine tk 7 29 (.bool true) rfl rfl (by kernel_rfl) (by kernel_rfl) (by kernel_rfl) (fun _ _ _ h => h) (Or.inl ⟨by rfl, fun w' h' => ?_⟩) hS ?_
  · go_simp
  try simp only [Act.put, List.setIfInBounds_toArray, List.set_cons_zero, List.set_cons_succ]
  refine wpAnyH_ready (rs := [8]) (by kernel_rfl) (by simp) (AllReadyH.cons rfl (fun K hK => ?_) AllReadyH.nil)
  rw [if_pos (by rfl)]
  refine wp_stB (.tmp 6) (.tmp 22) rfl (h + 2) f _ rfl rfl HD4.out.z ?_
  intro w5 hr5 hk5
  have hs5 : Rk w5 h f ∧ Ak w5 (h + 1) a := ⟨HD4.out.r.keep hk5 (by omega), HD4.out.a.keep hk5 (by omega)⟩
  have HE5 := Lib.hid (HD4.out.ends hk5 rfl)
  have q0 := hr5.c0
  have q1 := hr5.c1
  have q2 := hr5.c2
  have q3 := hr5.c3
  clear hr5 hk5
  clear hS
  refine hK.out _ _ (hs5) (fun hS => ?_)
  clear hK K
  try simp only [Act.put, List.setIfInBounds_toArray]
  refine tk 9 7 (.bool true) rfl rfl (by kernel_rfl) (by kernel_rfl) (by kernel_rfl) (fun _ _ _ h => h) (Or.inl ⟨by rfl, fun w' h' => ?_⟩) hS ?_
  · go_simp
  refine wpAnyH_done (by kernel_rfl) ?_ _
  go_wp2_with fail
  refine bodyPost_ret (v := .tuple #[.agg #[.int .u64 f.r, .int .u64 f.B, .int .u64 f.T, .int .u64 f.K], .bool true]) (by simp [results, Try.results12, go_sem, q0, q1, q2, q3]) rfl ?_
  exact ⟨by rw [HACT.out]; rfl, by rw [HACT.out]; exact HE5.out.1, HE5.out.2⟩

set_option maxRecDepth 100000 in
set_option maxHeartbeats 4000000 in
theorem does_take (g : Nat) (b : Bu) (a : Ac) (w : World) (hb : Bk w g b) (ha : a.ok) (hd : a.d = 1) :
    Calls Try.prog 12 #[.pointer (some ⟨g, 0, none⟩), .agg b.cs.toArray, .agg a.cs.toArray] w (Acts w g b a) := by
  have HZ := Lib.hid (Dz.start w g b a hb)
  have HF := Lib.hid (rTake_any b a.t a.n)
  have HOK := Lib.hid hb.1
  have HA := Lib.hid ha
  have hact : b.act a = b.took a.t a.n := by rw [Bu.act, if_neg (by omega), if_pos hd]
  obtain ⟨f, hf⟩ : ∃ f, b.took a.t a.n = f := ⟨_, rfl⟩
  obtain ⟨y, hy⟩ : ∃ y, decide (a.n ≤ (b.fill a.t).K) = y := ⟨_, rfl⟩
  have HL := Lib.hid (take_any g a.t a.n b)
  rw [hf, hy] at HF HL
  rw [hf] at hact
  have HACT := Lib.hid hact
  have hcs : b.cs.toArray = #[.int .u64 b.r, .int .u64 b.B, .int .u64 b.T, .int .u64 b.K] := rfl
  have has : a.cs.toArray = #[.int .i64 a.d, .int .u64 a.t, .int .u64 a.n] := rfl
  have hfs : f.cs.toArray = #[.int .u64 f.r, .int .u64 f.B, .int .u64 f.T, .int .u64 f.K] := rfl
  rw [hcs, has]
  rw [hcs, hfs] at HF
  have hd2 : (a.d == 0) = false := by simp [hd]
  have hd3 : (a.d == 1) = true := by simp [hd]
  clear hb ha hf hy hact hcs has hfs hd
  go_enter Try.func12, Try.ntmps12
  go_wp2_with fail
  refine (HF.out _ HOK.out HA.out.t0 HA.out.t1 HA.out.n0).mono ?_
  obtain ⟨wz, hwz⟩ : ∃ z, ((w.alloc (.cells #[.int .u64 b.r, .int .u64 b.B, .int .u64 b.T, .int .u64 b.K] 28)).alloc (.cells #[.int .i64 a.d, .int .u64 a.t, .int .u64 a.n] 34)).alloc (.cells #[.int .u64 0, .int .u64 0, .int .u64 0, .int .u64 0] 28) = z := ⟨_, rfl⟩
  have hz := HZ.out wz hwz
  rw [hwz]
  rintro e w2 ⟨rfl, hb2⟩
  have hq2 := hz.below hb2
  have HD3 : Hid (Dz w (w2.alloc (.cells #[.int .u64 f.r, .int .u64 f.B, .int .u64 f.T, .int .u64 f.K] 28)) w.heap.size g b b a ∧ Rk (w2.alloc (.cells #[.int .u64 f.r, .int .u64 f.B, .int .u64 f.T, .int .u64 f.K] 28)) w2.heap.size f ∧ w.heap.size + 2 < w2.heap.size ∧ g < w2.heap.size) :=
    ⟨hq2.below ((Below.refl _ _).alloc (Nat.le_refl _) _), Blk_new _ _ _, by have := hq2.z.lt; omega, hq2.bk.lt⟩
  clear hwz hz hb2 HZ HF hq2
  obtain ⟨h, hh⟩ : ∃ h, w.heap.size = h := ⟨_, rfl⟩
  rw [hh] at HD3 ⊢
  clear hh
  go_wp2_with fail
  obtain ⟨w3, hw3⟩ : ∃ z, w2.alloc (.cells #[.int .u64 f.r, .int .u64 f.B, .int .u64 f.T, .int .u64 f.K] 28) = z := ⟨_, rfl⟩
  obtain ⟨m, hm⟩ : ∃ m, w2.heap.size = m := ⟨_, rfl⟩
  rw [hw3, hm] at HD3 ⊢
  clear hw3 hm
  have HS3 : Hid (Rk w3.drew m f ∧ Ak w3.drew (h + 1) a) := ⟨HD3.out.2.1, HD3.out.1.a⟩
  refine wp_region_held_drew (S := fun w' => Rk w' m f ∧ Ak w' (h + 1) a) (by kernel_rfl) HS3.out (fun hS => ?_)
  refine tk 0 41 (.agg #[.int .u64 f.r, .int .u64 f.B, .int .u64 f.T, .int .u64 f.K]) rfl rfl (by kernel_rfl) (by kernel_rfl) (by kernel_rfl) (fun _ _ _ h => h) (Or.inl ⟨by rfl, fun w' h' => ?_⟩) hS ?_
  · have c0 := h'.1.c0
    have c1 := h'.1.c1
    have c2 := h'.1.c2
    have c3 := h'.1.c3
    go_simp
  try simp only [Act.put, List.setIfInBounds_toArray, List.set_cons_zero, List.set_cons_succ]
  refine tk 1 42 (.pointer (some ⟨g, 0, none⟩)) rfl rfl (by kernel_rfl) (by kernel_rfl) (by kernel_rfl) (fun _ _ _ h => h) (Or.inl ⟨by rfl, fun w' h' => ?_⟩) hS ?_
  · go_simp
  try simp only [Act.put, List.setIfInBounds_toArray, List.set_cons_zero, List.set_cons_succ]
  refine tk 2 43 (.pointer (some ⟨(h + 1), 1, none⟩)) rfl rfl (by kernel_rfl) (by kernel_rfl) (by kernel_rfl) (fun _ _ _ h => h) (Or.inl ⟨by rfl, fun w' h' => ?_⟩) hS ?_
  · go_simp
  try simp only [Act.put, List.setIfInBounds_toArray, List.set_cons_zero, List.set_cons_succ]
  refine tk 3 44 (.int .u64 a.t) rfl rfl (by kernel_rfl) (by kernel_rfl) (by kernel_rfl) (fun _ _ _ h => h) (Or.inl ⟨by rfl, fun w' h' => ?_⟩) hS ?_
  · have c1 := h'.2.c1
    go_simp
  try simp only [Act.put, List.setIfInBounds_toArray, List.set_cons_zero, List.set_cons_succ]
  refine tk 4 45 (.pointer (some ⟨(h + 1), 2, none⟩)) rfl rfl (by kernel_rfl) (by kernel_rfl) (by kernel_rfl) (fun _ _ _ h => h) (Or.inl ⟨by rfl, fun w' h' => ?_⟩) hS ?_
  · go_simp
  try simp only [Act.put, List.setIfInBounds_toArray, List.set_cons_zero, List.set_cons_succ]
  refine tk 5 46 (.int .u64 a.n) rfl rfl (by kernel_rfl) (by kernel_rfl) (by kernel_rfl) (fun _ _ _ h => h) (Or.inl ⟨by rfl, fun w' h' => ?_⟩) hS ?_
  · have c2 := h'.2.c2
    go_simp
  try simp only [Act.put, List.setIfInBounds_toArray, List.set_cons_zero, List.set_cons_succ]
  refine tk 7 48 (.bool y) rfl rfl (by kernel_rfl) (by kernel_rfl) (by kernel_rfl) (fun _ _ _ h => h) (Or.inl ⟨by rfl, fun w' h' => ?_⟩) hS ?_
  · go_simp
  try simp only [Act.put, List.setIfInBounds_toArray, List.set_cons_zero, List.set_cons_succ]
  refine wpAnyH_ready (rs := [6]) (by kernel_rfl) (by simp) (AllReadyH.cons rfl (fun K hK => ?_) AllReadyH.nil)
  rw [if_pos (by rfl)]
  go_wp2_with fail
  refine (HL.out _ HD3.out.1.bk.drew HA.out.t0 HA.out.t1 HA.out.n0).mono ?_
  rintro e w4 ⟨rfl, hb4, hk4⟩
  have hk4' : Kept (fun x => x = g) w3 w4 := ⟨hk4.os, hk4.tape, hk4.output, hk4.size, hk4.block⟩
  have HD4 : Hid (Dz w w4 h g f b a ∧ Rk w4 m f ∧ h + 2 < m) := ⟨HD3.out.1.did hb4 hk4', HD3.out.2.1.keep hk4' (by have := HD3.out.2.2.2; omega), HD3.out.2.2.1⟩
  clear hb4 hk4 hk4'
  clear hS
  refine hK.out _ _ (And.intro HD4.out.2.1 HD4.out.1.a) (fun hS => ?_)
  clear hK K
  try simp only [Act.put, List.setIfInBounds_toArray, List.set_cons_zero, List.set_cons_succ]
  refine tk 8 49 (.bool true) rfl rfl (by kernel_rfl) (by kernel_rfl) (by kernel_rfl) (fun _ _ _ h => h) (Or.inl ⟨by rfl, fun w' h' => ?_⟩) hS ?_
  · (cases y <;> go_simp)
  try simp only [Act.put, List.setIfInBounds_toArray, List.set_cons_zero, List.set_cons_succ]
  refine wpAnyH_ready (rs := [9]) (by kernel_rfl) (by simp) (AllReadyH.cons rfl (fun K hK => ?_) AllReadyH.nil)
  rw [if_pos (by rfl)]
  refine wp_stB (.tmp 6) (.tmp 41) rfl (h + 2) f _ rfl rfl HD4.out.1.z ?_
  intro w5 hr5 hk5
  have hs5 : Rk w5 m f ∧ Ak w5 (h + 1) a := ⟨HD4.out.2.1.keep hk5 (by have := HD4.out.2.2; omega), HD4.out.1.a.keep hk5 (by omega)⟩
  have HE5 := Lib.hid (HD4.out.1.ends hk5 rfl)
  have q0 := hr5.c0
  have q1 := hr5.c1
  have q2 := hr5.c2
  have q3 := hr5.c3
  clear hr5 hk5
  clear hS
  refine hK.out _ _ (hs5) (fun hS => ?_)
  clear hK K
  try simp only [Act.put, List.setIfInBounds_toArray]
  refine tk 10 7 (.bool true) rfl rfl (by kernel_rfl) (by kernel_rfl) (by kernel_rfl) (fun _ _ _ h => h) (Or.inl ⟨by rfl, fun w' h' => ?_⟩) hS ?_
  · go_simp
  refine wpAnyH_done (by kernel_rfl) ?_ _
  go_wp2_with fail
  refine bodyPost_ret (v := .tuple #[.agg #[.int .u64 f.r, .int .u64 f.B, .int .u64 f.T, .int .u64 f.K], .bool true]) (by simp [results, Try.results12, go_sem, q0, q1, q2, q3]) rfl ?_
  exact ⟨by rw [HACT.out]; rfl, by rw [HACT.out]; exact HE5.out.1, HE5.out.2⟩

set_option maxRecDepth 100000 in
set_option maxHeartbeats 4000000 in
theorem does_when (g : Nat) (b : Bu) (a : Ac) (w : World) (hb : Bk w g b) (ha : a.ok) (hd0 : ¬ a.d = 0) (hd1 : ¬ a.d = 1) :
    Calls Try.prog 12 #[.pointer (some ⟨g, 0, none⟩), .agg b.cs.toArray, .agg a.cs.toArray] w (Acts w g b a) := by
  have HZ := Lib.hid (Dz.start w g b a hb)
  have HF := Lib.hid (rWhen_any b a.n)
  have HOK := Lib.hid hb.1
  have HA := Lib.hid ha
  have hact : b.act a = b := by rw [Bu.act, if_neg hd0, if_neg hd1]
  have HL := Lib.hid (when_any g a.n b)
  obtain ⟨v, hv⟩ : ∃ v, whV b a.n = v := ⟨_, rfl⟩
  obtain ⟨y, hy⟩ : ∃ y, whB b a.n = y := ⟨_, rfl⟩
  rw [hv, hy] at HF HL
  have HACT := Lib.hid hact
  have hcs : b.cs.toArray = #[.int .u64 b.r, .int .u64 b.B, .int .u64 b.T, .int .u64 b.K] := rfl
  have has : a.cs.toArray = #[.int .i64 a.d, .int .u64 a.t, .int .u64 a.n] := rfl
  rw [hcs, has]
  rw [hcs] at HF
  have hd2 : (a.d == 0) = false := by simp [hd0]
  have hd3 : (a.d == 1) = false := by simp [hd1]
  have hyy : (y == y) = true := by simp
  clear hb ha hy hv hact hcs has hd0 hd1
  go_enter Try.func12, Try.ntmps12
  go_wp2_with fail
  obtain ⟨wz, hwz⟩ : ∃ z, ((w.alloc (.cells #[.int .u64 b.r, .int .u64 b.B, .int .u64 b.T, .int .u64 b.K] 28)).alloc (.cells #[.int .i64 a.d, .int .u64 a.t, .int .u64 a.n] 34)).alloc (.cells #[.int .u64 0, .int .u64 0, .int .u64 0, .int .u64 0] 28) = z := ⟨_, rfl⟩
  have hz := HZ.out wz hwz
  rw [hwz]
  refine (HL.out _ hz.bk HA.out.n0 HA.out.n1).mono ?_
  rintro e w2 ⟨rfl, m, hw2⟩
  have hq2 := hz.below (w' := w2) (by rw [hw2]; exact drewN_below wz m)
  have HD2 := Lib.hid hq2
  have c0 := hq2.r.c0
  have c1 := hq2.r.c1
  have c2 := hq2.r.c2
  have c3 := hq2.r.c3
  have a2 := hq2.a.c2
  clear hwz hz hw2 HZ HL hq2
  obtain ⟨h, hh⟩ : ∃ h, w.heap.size = h := ⟨_, rfl⟩
  rw [hh] at HD2 c0 c1 c2 c3 a2 ⊢
  clear hh
  go_wp2_with fail
  refine (HF.out _ HOK.out HA.out.n0 HA.out.n1).mono ?_
  rintro e w3 ⟨rfl, hb3⟩
  have hq3 := HD2.out.below hb3
  have HD3 := Lib.hid hq3
  clear c0 c1 c2 c3 a2
  have c0 := hq3.r.c0
  have c1 := hq3.r.c1
  have c2 := hq3.r.c2
  have c3 := hq3.r.c3
  clear hb3 HF HD2 hq3
  go_wp2_with (refine stB (.tmp 6) (.tmp 64) rfl rfl (h + 2) b _ rfl rfl HD3.out.z ?_; intro w5 hr5 hk5; have HE5 := Lib.hid (HD3.out.ends hk5 rfl); have q0 := hr5.c0; have q1 := hr5.c1; have q2 := hr5.c2; have q3 := hr5.c3; clear hr5 hk5)
  refine bodyPost_ret (v := .tuple #[.agg #[.int .u64 b.r, .int .u64 b.B, .int .u64 b.T, .int .u64 b.K], .bool true]) (by simp [results, Try.results12, go_sem, q0, q1, q2, q3]) rfl ?_
  exact ⟨by rw [HACT.out]; rfl, by rw [HACT.out]; exact HE5.out.1, HE5.out.2⟩

theorem does_any (g : Nat) (b : Bu) (a : Ac) (w : World) (hb : Bk w g b) (ha : a.ok) :
    Calls Try.prog 12 #[.pointer (some ⟨g, 0, none⟩), .agg b.cs.toArray, .agg a.cs.toArray] w (Acts w g b a) := by
  by_cases h0 : a.d = 0
  · exact does_level g b a w hb ha h0
  by_cases h1 : a.d = 1
  · exact does_take g b a w hb ha h1
  exact does_when g b a w hb ha h0 h1
end Go.Proofs.Ytngjlippfifkiaa

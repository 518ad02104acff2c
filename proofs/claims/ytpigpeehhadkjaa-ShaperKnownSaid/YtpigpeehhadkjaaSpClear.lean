/-
  The contract of a shaper's Clear. Conditions: a shaper. (Made by gen_spclear.py.)
-/
import Derived.Test.YtpigpeehhadkjaaSpNext
namespace Go.Proofs.Ytpigpeehhadkjaa
open Go.RowKit Bkt

theorem mapk {α : Type} (f : α → α) : ∀ (xs : List α) (k : Nat) (x : α), xs[k]? = some x → ((xs.take k).map f ++ xs.drop k).set k (f x) = (xs.take (k + 1)).map f ++ xs.drop (k + 1)
  | [], _, _, h => by simp at h
  | y :: t, 0, x, h => by simp at h; subst h; rfl
  | y :: t, k + 1, x, h => by
    have := mapk f t k x (by simpa using h)
    simp only [List.take_succ_cons, List.map_cons, List.drop_succ_cons, List.cons_append, List.set_cons_succ]
    rw [this]
theorem mapk_at {α : Type} (f : α → α) : ∀ (xs : List α) (k : Nat), ((xs.take k).map f ++ xs.drop k)[k]? = xs[k]?
  | [], _ => by simp
  | y :: t, 0 => by simp
  | y :: t, k + 1 => by simpa using mapk_at f t k
theorem tot_take (ls : List Ab) (k : Nat) (l : Ab) (h : ls[k]? = some l) : tot (ls.take (k + 1)) = tot (ls.take k) + l.A.l.length := by
  rw [List.take_add_one, h]
  simp [tot]
/-- What Clear has done so far. -/
structure Cw (w W : World) (B g : Nat) (s : Sh) (L : List La) (k : Nat) : Prop where
  sw : Sw W B g { s with ls := L }
  ab : L.map La.abs = (s.abs.take k).map Ab.clear ++ s.abs.drop k
  kept : Kept (s.foot g) w W
  ft : ∀ k, Sh.foot { s with ls := L } g k → s.foot g k
/-- The lanes' items have a bound. -/
theorem Sw.few {w : World} {B g : Nat} {s : Sh} (h : Sw w B g s) {k : Nat} {l : Ab} (hl : s.abs[k]? = some l) : l.A.l.length ≤ 65536 := by
  unfold Sh.abs at hl
  rw [List.getElem?_map] at hl
  obtain ⟨m, hm, rfl⟩ := Option.map_eq_some_iff.1 hl
  have hq := (h.lws m (List.mem_of_getElem? hm)).qu.ok
  have h1 := hq.le
  have h2 := hq.mI
  have h3 := hq.I1
  show (m.q.L.map Pi.it).length ≤ _
  rw [List.length_map]
  omega
theorem tot_le (ls : List Ab) (N : Nat) (h : ∀ (k : Nat) (l : Ab), ls[k]? = some l → l.A.l.length ≤ N) (k : Nat) : tot (ls.take k) ≤ k * N := by
  induction k with
  | zero => simp [tot]
  | succ k ih =>
    rw [Nat.succ_mul]
    cases hl : ls[k]? with
    | none =>
      have hk := List.getElem?_eq_none_iff.1 hl
      have e : ls.take (k + 1) = ls.take k := (List.take_of_length_le (Nat.le_succ_of_le hk)).trans (List.take_of_length_le hk).symm
      rw [e]
      omega
    | some l =>
      have e := tot_take _ _ _ hl
      have := h k l hl
      omega
theorem Sw.sum {w : World} {B g : Nat} {s : Sh} (h : Sw w B g s) (k : Nat) : tot (s.abs.take k) ≤ k * 65536 := tot_le _ _ (fun _ _ hl => h.few hl) k

noncomputable def KCl : Code := Try.f25.body.getD .skip
set_option maxRecDepth 100000 in
theorem frKCl {a : Act} (h : Fr 26 a) : ∃ f : Nat → Value, a = ⟨#[f 0, f 1, f 2, f 3, f 4, f 5, f 6, f 7, f 8, f 9, f 10, f 11, f 12, f 13, f 14, f 15, f 16, f 17, f 18, f 19, f 20, f 21, f 22, f 23, f 24, f 25], []⟩ ∧ ∀ i, f i = sl a i := fr_any h

set_option maxRecDepth 100000 in
set_option maxHeartbeats 4000000 in
theorem c0 (w : World) (g : Nat) (a : Act) (hf : Fr 26 a) (h0 : sl a 0 = .pointer (some ⟨g, 0, none⟩)) :
    Code.wp Try.prog (cAt [0] KCl) (Exit.then (fun a' w' => Fr 26 a' ∧ sl a' 0 = .pointer (some ⟨g, 0, none⟩) ∧ w = w') Nope) a w := by
  obtain ⟨f, ha, hs⟩ := frKCl hf
  have e0 := (hs 0).trans h0
  rw [e0] at ha
  clear hs hf e0 h0
  subst ha
  refine piece2 fun J0 K0 hJ0 hK0 => ?_
  conv => arg 2; whnf
  go_wp2_with fail
  refine Met.intro (hJ0 _ _ ?_)
  exact ⟨⟨rfl, rfl⟩, rfl, rfl⟩

set_option maxRecDepth 100000 in
set_option maxHeartbeats 4000000 in
theorem c1 (w : World) (g : Nat) (a : Act) (hf : Fr 26 a) (h0 : sl a 0 = .pointer (some ⟨g, 0, none⟩)) :
    Code.wp Try.prog (cAt [1,0,0] KCl) (Exit.then (fun a' w' => Fr 26 a' ∧ sl a' 0 = .pointer (some ⟨g, 0, none⟩) ∧ sl a' 7 = .bool false ∧ w = w') Nope) a w := by
  obtain ⟨f, ha, hs⟩ := frKCl hf
  have e0 := (hs 0).trans h0
  rw [e0] at ha
  clear hs hf e0 h0
  subst ha
  refine piece2 fun J0 K0 hJ0 hK0 => ?_
  conv => arg 2; whnf
  go_wp2_with fail
  refine Met.intro (hJ0 _ _ ?_)
  exact ⟨⟨rfl, rfl⟩, rfl, rfl, rfl⟩

set_option maxRecDepth 100000 in
set_option maxHeartbeats 4000000 in
theorem c3 (w : World) (g : Nat) (a : Act) (hf : Fr 26 a) (h0 : sl a 0 = .pointer (some ⟨g, 0, none⟩)) :
    Code.wp Try.prog (cAt [1,1,0] KCl) (Exit.then (fun a' w' => Fr 26 a' ∧ sl a' 0 = .pointer (some ⟨g, 0, none⟩) ∧ sl a' 3 = .int .i64 0 ∧ w = w') Nope) a w := by
  obtain ⟨f, ha, hs⟩ := frKCl hf
  have e0 := (hs 0).trans h0
  rw [e0] at ha
  clear hs hf e0 h0
  subst ha
  refine piece2 fun J0 K0 hJ0 hK0 => ?_
  conv => arg 2; whnf
  go_wp2_with fail
  refine Met.intro (hJ0 _ _ ?_)
  exact ⟨⟨rfl, rfl⟩, rfl, rfl, rfl⟩

set_option maxRecDepth 100000 in
set_option maxHeartbeats 4000000 in
theorem c4 (w : World) (B g : Nat) (s : Sh) (HI : Hid (Sw w B g s)) (a : Act) (hf : Fr 26 a) (h0 : sl a 0 = .pointer (some ⟨g, 0, none⟩)) (h3 : sl a 3 = .int .i64 0) :
    Code.wp Try.prog (cAt [1,1,1,0,0] KCl) (Exit.then (fun a' w' => Fr 26 a' ∧ sl a' 3 = .int .i64 0 ∧ sl a' 11 = .slice s.a s.n s.c ∧ sl a' 12 = .int .i64 (s.n : Int) ∧ sl a' 13 = .int .i64 0 ∧ w = w') Nope) a w := by
  obtain ⟨f, ha, hs⟩ := frKCl hf
  have e0 := (hs 0).trans h0
  have e3 := (hs 3).trans h3
  rw [e0, e3] at ha
  clear hs hf e0 h0 e3 h3
  subst ha
  refine piece2 fun J0 K0 hJ0 hK0 => ?_
  conv => arg 2; whnf
  have t1 := HI.out.c1
  go_wp2_with fail
  refine Met.intro (hJ0 _ _ ?_)
  exact ⟨⟨rfl, rfl⟩, rfl, rfl, rfl, rfl, rfl⟩

set_option maxRecDepth 100000 in
set_option maxHeartbeats 4000000 in
theorem c5 (wr : World) (s : Sh) (r k : Nat) (z : Int) (hi : k < s.n) (a : Act) (hf : Fr 26 a) (h3 : sl a 3 = .int .i64 z) (h11 : sl a 11 = .slice (some ⟨r, 0, none⟩) s.n s.c) (h12 : sl a 12 = .int .i64 (s.n : Int)) (h13 : sl a 13 = .int .i64 (k : Int)) :
    Code.wp Try.prog (cAt [1,1,1,0,1,2,2,0] KCl) (Exit.then (fun a' w' => Fr 26 a' ∧ sl a' 3 = .int .i64 z ∧ sl a' 11 = .slice (some ⟨r, 0, none⟩) s.n s.c ∧ sl a' 12 = .int .i64 (s.n : Int) ∧ sl a' 13 = .int .i64 (k : Int) ∧ sl a' 14 = .bool true ∧ wr = w') Nope) a wr := by
  obtain ⟨f, ha, hs⟩ := frKCl hf
  have e3 := (hs 3).trans h3
  have e11 := (hs 11).trans h11
  have e12 := (hs 12).trans h12
  have e13 := (hs 13).trans h13
  rw [e3, e11, e12, e13] at ha
  clear hs hf e3 h3 e11 h11 e12 h12 e13 h13
  subst ha
  refine piece2 fun J0 K0 hJ0 hK0 => ?_
  conv => arg 2; whnf
  have hi2 : (k : Int) < (s.n : Int) := by omega
  go_wp2_with fail
  refine Met.intro (hJ0 _ _ ?_)
  exact ⟨⟨rfl, rfl⟩, rfl, rfl, rfl, rfl, rfl, rfl⟩

set_option maxRecDepth 100000 in
set_option maxHeartbeats 4000000 in
theorem c5x (wr : World) (s : Sh) (r k : Nat) (z : Int) (hi : ¬ k < s.n) (a : Act) (hf : Fr 26 a) (h3 : sl a 3 = .int .i64 z) (h11 : sl a 11 = .slice (some ⟨r, 0, none⟩) s.n s.c) (h12 : sl a 12 = .int .i64 (s.n : Int)) (h13 : sl a 13 = .int .i64 (k : Int)) :
    Code.wp Try.prog (cAt [1,1,1,0,1,2,2] KCl) (Outs 0 (fun a' w' => Fr 26 a' ∧ sl a' 3 = .int .i64 z ∧ wr = w')) a wr := by
  obtain ⟨f, ha, hs⟩ := frKCl hf
  have e3 := (hs 3).trans h3
  have e11 := (hs 11).trans h11
  have e12 := (hs 12).trans h12
  have e13 := (hs 13).trans h13
  rw [e3, e11, e12, e13] at ha
  clear hs hf e3 h3 e11 h11 e12 h12 e13 h13
  subst ha
  conv => arg 2; whnf
  go_wp2_with fail
  exact ⟨rfl, ⟨rfl, rfl⟩, rfl, rfl⟩

set_option maxRecDepth 100000 in
set_option maxHeartbeats 4000000 in
theorem c6 (wr : World) (B g : Nat) (s : Sh) (L : List La) (r k : Nat) (z : Int) (m : La) (HI : Hid (Sw wr B g { s with ls := L })) (HA : Hid (s.a = some ⟨r, 0, none⟩ ∧ L[k]? = some m)) (hi : k < s.n) (a : Act) (hf : Fr 26 a) (h3 : sl a 3 = .int .i64 z) (h11 : sl a 11 = .slice (some ⟨r, 0, none⟩) s.n s.c) (h12 : sl a 12 = .int .i64 (s.n : Int)) (h13 : sl a 13 = .int .i64 (k : Int)) :
    Code.wp Try.prog (cAt [1,1,1,0,1,2,2,1,1,0,2,0] KCl) (Exit.then (fun a' w' => Fr 26 a' ∧ sl a' 3 = .int .i64 z ∧ sl a' 11 = .slice (some ⟨r, 0, none⟩) s.n s.c ∧ sl a' 12 = .int .i64 (s.n : Int) ∧ sl a' 13 = .int .i64 (k : Int) ∧ sl a' 5 = .pointer (some ⟨m.g, 0, none⟩) ∧ wr = w') Nope) a wr := by
  obtain ⟨f, ha, hs⟩ := frKCl hf
  have e3 := (hs 3).trans h3
  have e11 := (hs 11).trans h11
  have e12 := (hs 12).trans h12
  have e13 := (hs 13).trans h13
  rw [e3, e11, e12, e13] at ha
  clear hs hf e3 h3 e11 h11 e12 h12 e13 h13
  subst ha
  refine piece2 fun J0 K0 hJ0 hK0 => ?_
  conv => arg 2; whnf
  obtain ⟨r', hr', hc⟩ := HI.out.pt HA.out.2
  have hrr : r' = r := by
    have := HA.out.1
    rw [hr'] at this
    simpa using this
  rw [hrr] at hc
  have hi2 : (k : Int) < (s.n : Int) := by omega
  have hi0 : (0 : Int) ≤ (k : Int) := by omega
  clear hr' hrr
  go_wp2_with fail
  refine Met.intro (hJ0 _ _ ?_)
  exact ⟨⟨rfl, rfl⟩, rfl, rfl, rfl, rfl, rfl, rfl⟩

set_option maxRecDepth 100000 in
set_option maxHeartbeats 4000000 in
theorem c7 (w wr : World) (B g : Nat) (s : Sh) (L : List La) (r k : Nat) (z : Int) (m : La) (HC : Hid (Cw w wr B g s L k)) (HM : Hid (L[k]? = some m)) (h0 : 0 ≤ z) (h1 : z ≤ 1000000) (a : Act) (hf : Fr 26 a) (h3 : sl a 3 = .int .i64 z) (h11 : sl a 11 = .slice (some ⟨r, 0, none⟩) s.n s.c) (h12 : sl a 12 = .int .i64 (s.n : Int)) (h13 : sl a 13 = .int .i64 (k : Int)) (h5 : sl a 5 = .pointer (some ⟨m.g, 0, none⟩)) :
    Code.wp Try.prog (cAt [1,1,1,0,1,2,2,1,1,0,2,1] KCl) (Exit.then (fun a' w' => ∃ L2, Fr 26 a' ∧ sl a' 3 = .int .i64 (z + (m.q.L.length : Int)) ∧ sl a' 11 = .slice (some ⟨r, 0, none⟩) s.n s.c ∧ sl a' 12 = .int .i64 (s.n : Int) ∧ sl a' 13 = .int .i64 (k : Int) ∧ Cw w w' B g s L2 (k + 1)) Nope) a wr := by
  obtain ⟨f, ha, hs⟩ := frKCl hf
  have e3 := (hs 3).trans h3
  have e11 := (hs 11).trans h11
  have e12 := (hs 12).trans h12
  have e13 := (hs 13).trans h13
  have e5 := (hs 5).trans h5
  rw [e3, e11, e12, e13, e5] at ha
  clear hs hf e3 h3 e11 h11 e12 h12 e13 h13 e5 h5
  subst ha
  refine piece2 fun J0 K0 hJ0 hK0 => ?_
  conv => arg 2; whnf
  have hm := HC.out.sw.lws m (List.mem_of_getElem? HM.out)
  have c5' := hm.c5
  have HLM := Lib.hid hm
  have hlen : m.q.L.length ≤ 65536 := by have h1 := hm.qu.ok.le; have h2 := hm.qu.ok.mI; have h3 := hm.qu.ok.I1; omega
  have e1 : IntKind.i64.wrap (z + (m.q.L.length : Int)) = z + (m.q.L.length : Int) := by rw [IntKind.wrap_i64]; omega
  clear hm
  go_wp2_with fail
  refine (fClear_any B m.gq m.q wr HLM.out.qu).mono ?_
  rintro e w1 ⟨rfl, q', hq', ha', hk', hf'⟩
  obtain ⟨hl', hkl⟩ := HLM.out.queue hq' hk'
  have hi : k < L.length := (List.getElem?_eq_some_iff.1 HM.out).1
  have hfl : ∀ j, La.foot { m with q := q' } j → m.foot j := by
    rintro j (e | e | e)
    · exact .inl e
    · exact .inr (.inl e)
    · exact .inr (.inr (hf' j e))
  have HN : Hid (Cw w w1 B g s (L.set k { m with q := q' }) (k + 1)) := by
    refine ⟨HC.out.sw.step HM.out hl' rfl hkl (fun j hj => .inl (hfl j hj)), ?_, HC.out.kept.trans hkl (fun j _ e => HC.out.ft j (.inr ⟨m, List.mem_of_getElem? HM.out, e⟩)), ?_⟩
    · rw [List.map_set, HC.out.ab]
      have hx : s.abs[k]? = some m.abs := by
        have := mapk_at Ab.clear s.abs k
        rw [← HC.out.ab, List.getElem?_map, HM.out] at this
        exact this.symm
      rw [← mapk Ab.clear s.abs k m.abs hx]
      congr 1
      show Ab.mk _ q'.abs _ _ _ _ = _
      rw [ha']; rfl
    · rintro j (e | ⟨x, hx, e⟩)
      · exact .inl e
      · rcases List.mem_or_eq_of_mem_set hx with hx | rfl
        · exact HC.out.ft j (.inr ⟨x, hx, e⟩)
        · exact HC.out.ft j (.inr ⟨m, List.mem_of_getElem? HM.out, hfl j e⟩)
  clear hq' ha' hk' hf' hl' hkl hi hfl c5'
  go_wp2_with fail
  refine Met.intro (hJ0 _ _ ?_)
  exact ⟨_, ⟨rfl, rfl⟩, rfl, rfl, rfl, rfl, HN.out⟩

set_option maxRecDepth 100000 in
set_option maxHeartbeats 4000000 in
theorem c8 (wr : World) (s : Sh) (r k : Nat) (z : Int) (hi : k < 1000) (a : Act) (hf : Fr 26 a) (h3 : sl a 3 = .int .i64 z) (h11 : sl a 11 = .slice (some ⟨r, 0, none⟩) s.n s.c) (h12 : sl a 12 = .int .i64 (s.n : Int)) (h13 : sl a 13 = .int .i64 (k : Int)) :
    Code.wp Try.prog (cAt [1,1,1,0,1,2,2,1,1,1] KCl) (Exit.then (fun a' w' => Fr 26 a' ∧ sl a' 3 = .int .i64 z ∧ sl a' 11 = .slice (some ⟨r, 0, none⟩) s.n s.c ∧ sl a' 12 = .int .i64 (s.n : Int) ∧ sl a' 13 = .int .i64 ((k : Int) + 1) ∧ wr = w') Nope) a wr := by
  obtain ⟨f, ha, hs⟩ := frKCl hf
  have e3 := (hs 3).trans h3
  have e11 := (hs 11).trans h11
  have e12 := (hs 12).trans h12
  have e13 := (hs 13).trans h13
  rw [e3, e11, e12, e13] at ha
  clear hs hf e3 h3 e11 h11 e12 h12 e13 h13
  subst ha
  refine piece2 fun J0 K0 hJ0 hK0 => ?_
  conv => arg 2; whnf
  have hw : IntKind.i64.wrap ((k : Int) + 1) = (k : Int) + 1 := by rw [IntKind.wrap_i64]; omega
  go_wp2_with fail
  refine Met.intro (hJ0 _ _ ?_)
  exact ⟨⟨rfl, rfl⟩, rfl, rfl, rfl, rfl, rfl⟩

set_option maxRecDepth 100000 in
set_option maxHeartbeats 4000000 in
theorem c9 (wr : World) (z : Int) (R : Ending → World → Prop) (HR : R (.returned (.int .i64 z)) wr) (a : Act) (hf : Fr 26 a) (h3 : sl a 3 = .int .i64 z) :
    Code.wp Try.prog (cAt [1,1,1,1] KCl) (bodyPost Try.prog Try.f25 R) a wr := by
  have H := Lib.hid HR
  clear HR
  obtain ⟨f, ha, hs⟩ := frKCl hf
  have e3 := (hs 3).trans h3
  rw [e3] at ha
  clear hs hf e3 h3
  subst ha
  conv => arg 2; whnf
  go_wp2_with fail
  exact H.out

/-- What Clear does. -/
def ClrR (w : World) (B g : Nat) (s : Sh) (e : Ending) (w' : World) : Prop :=
  e = .returned (.int .i64 (tot s.abs : Int)) ∧ ∃ ls, Sw w' B g { s with ls := ls } ∧ ls.map La.abs = s.abs.map Ab.clear ∧ Kept (s.foot g) w w' ∧ ∀ k, Sh.foot { s with ls := ls } g k → s.foot g k
theorem sClear_any (B g : Nat) (s : Sh) (w : World) (h : Sw w B g s) (h1 : 1 ≤ s.n) : Calls Try.prog 25 #[.pointer (some ⟨g, 0, none⟩)] w (ClrR w B g s) := by
  obtain ⟨m0, hm0, _⟩ := h.lane (i := 0) (by omega)
  obtain ⟨r, har, _⟩ := h.pt hm0
  have hlen : s.abs.length = s.n := by rw [abs_len]; exact h.len
  refine calls_of_wp (c := KCl) Try.func25 (by kernel_rfl) ?_
  have hf : Fr 26 { tmps := #[.pointer (some ⟨g, 0, none⟩)] ++ Array.replicate (Try.f25.ntmps - (#[.pointer (some ⟨g, 0, none⟩)] : Array Value).size) undef, defers := [] } := ⟨rfl, by simp [Try.ntmps25]⟩
  refine wp_sqR (x := cAt [0] KCl) (y := cAt [1] KCl) (by kernel_rfl) (c0 w g _ hf (sl_at _ _ 0 _ rfl)) ?_
  rintro a1 _ ⟨hf, h0, rfl⟩
  refine wp_sqR (R := fun a' w' => Fr 26 a' ∧ sl a' 0 = .pointer (some ⟨g, 0, none⟩) ∧ w = w') (x := cAt [1,0] KCl) (y := cAt [1,1] KCl) (by kernel_rfl) ?_ ?_
  · refine wp_sqR (x := cAt [1,0,0] KCl) (y := cAt [1,0,1] KCl) (by kernel_rfl) (c1 w g a1 hf h0) ?_
    rintro a2 _ ⟨hf, h0, h7, rfl⟩
    refine wp_onF (A := cAt [1,0,1,3] KCl) (B := cAt [1,0,1,4] KCl) (by kernel_rfl) h7 ?_
    exact wp_skipR (by kernel_rfl) ⟨hf, h0, rfl⟩
  rintro a2 _ ⟨hf, h0, rfl⟩
  refine wp_sqR (x := cAt [1,1,0] KCl) (y := cAt [1,1,1] KCl) (by kernel_rfl) (c3 w g a2 hf h0) ?_
  rintro a3 _ ⟨hf, h0, h3, rfl⟩
  refine wp_sqR (R := fun a' w' => (∃ L, Cw w w' B g s L s.n) ∧ Fr 26 a' ∧ sl a' 3 = .int .i64 (tot s.abs : Int)) (x := cAt [1,1,1,0] KCl) (y := cAt [1,1,1,1] KCl) (by kernel_rfl) ?_ ?_
  · refine wp_sqR (x := cAt [1,1,1,0,0] KCl) (y := cAt [1,1,1,0,1] KCl) (by kernel_rfl) (c4 w B g s h a3 hf h0 h3) ?_
    rintro a4 _ ⟨hf, h3, h11, h12, h13, rfl⟩
    rw [har] at h11
    refine wp_blockR (x := cAt [1,1,1,0,1,2] KCl) (id := 0) (by kernel_rfl) ?_
    refine wp_loopR (x := cAt [1,1,1,0,1,2,2] KCl) (by kernel_rfl) (fun a' w' => ∃ k L, k ≤ s.n ∧ Cw w w' B g s L k ∧ Fr 26 a' ∧ sl a' 3 = .int .i64 (tot (s.abs.take k) : Int) ∧ sl a' 11 = .slice (some ⟨r, 0, none⟩) s.n s.c ∧ sl a' 12 = .int .i64 (s.n : Int) ∧ sl a' 13 = .int .i64 (k : Int)) (fun a' _ => s.n - (intOf (sl a' 13)).toNat) ⟨0, s.ls, Nat.zero_le _, ⟨h, by simp; rfl, Kept.refl _ _, fun _ e => e⟩, hf, h3, h11, h12, h13⟩ ?_
    rintro a5 w5 ⟨k, L, hk, hc, hf, h3, h11, h12, h13⟩
    by_cases hlt : k < s.n
    · refine wp_sqR (x := cAt [1,1,1,0,1,2,2,0] KCl) (y := cAt [1,1,1,0,1,2,2,1] KCl) (by kernel_rfl) (c5 w5 s r k _ hlt a5 hf h3 h11 h12 h13) ?_
      rintro a6 _ ⟨hf, h3, h11, h12, h13', h14, rfl⟩
      refine wp_sqR (R := fun a' w' => a6 = a' ∧ w5 = w') (x := cAt [1,1,1,0,1,2,2,1,0] KCl) (y := cAt [1,1,1,0,1,2,2,1,1] KCl) (by kernel_rfl) ?_ ?_
      · refine wp_onT (A := cAt [1,1,1,0,1,2,2,1,0,3] KCl) (B := cAt [1,1,1,0,1,2,2,1,0,4] KCl) (by kernel_rfl) h14 ?_
        exact wp_skipR (by kernel_rfl) ⟨rfl, rfl⟩
      rintro _ _ ⟨rfl, rfl⟩
      have hLl : L.length = s.n := hc.sw.len
      obtain ⟨m, hm⟩ : ∃ m, L[k]? = some m := ⟨_, List.getElem?_eq_getElem (by rw [hLl]; exact hlt)⟩
      have hxm : s.abs[k]? = some m.abs := by
        have := mapk_at Ab.clear s.abs k
        rw [← hc.ab, List.getElem?_map, hm] at this
        exact this.symm
      have hsum := h.sum k
      have hle := h.le
      refine wp_sqR (R := fun a' w' => (∃ L2, Cw w w' B g s L2 (k + 1)) ∧ Fr 26 a' ∧ sl a' 3 = .int .i64 (tot (s.abs.take (k + 1)) : Int) ∧ sl a' 11 = .slice (some ⟨r, 0, none⟩) s.n s.c ∧ sl a' 12 = .int .i64 (s.n : Int) ∧ sl a' 13 = .int .i64 (k : Int)) (x := cAt [1,1,1,0,1,2,2,1,1,0] KCl) (y := cAt [1,1,1,0,1,2,2,1,1,1] KCl) (by kernel_rfl) ?_ ?_
      · refine wp_blockR (x := cAt [1,1,1,0,1,2,2,1,1,0,2] KCl) (id := 1) (by kernel_rfl) ?_
        refine wp_sqR (x := cAt [1,1,1,0,1,2,2,1,1,0,2,0] KCl) (y := cAt [1,1,1,0,1,2,2,1,1,0,2,1] KCl) (by kernel_rfl) (c6 w5 B g s L r k _ m hc.sw ⟨har, hm⟩ hlt a6 hf h3 h11 h12 h13') ?_
        rintro a7 _ ⟨hf, h3, h11, h12, h13', h5, rfl⟩
        refine wp_endR (c7 w w5 B g s L r k _ m hc hm (by omega) (by omega) a7 hf h3 h11 h12 h13' h5) ?_
        rintro a8 w8 ⟨L2, hf, h3, h11, h12, h13', hc2⟩
        refine ⟨⟨L2, hc2⟩, hf, ?_, h11, h12, h13'⟩
        rw [h3, tot_take _ _ _ hxm]
        show _ = Value.int .i64 ((tot (s.abs.take k) + (m.q.L.map Pi.it).length : Nat) : Int)
        rw [List.length_map]
        congr 1
      rintro a8 w8 ⟨⟨L2, hc2⟩, hf, h3, h11, h12, h13'⟩
      refine wp_endR (c8 w8 s r k _ (by omega) a8 hf h3 h11 h12 h13') ?_
      rintro a9 _ ⟨hf, h3, h11, h12, h13', rfl⟩
      refine ⟨⟨k + 1, L2, hlt, hc2, hf, h3, h11, h12, by rw [h13']; rfl⟩, ?_⟩
      rw [h13, h13']
      simp only [intOf]
      omega
    · have hkn : k = s.n := by omega
      refine wp_endX (c5x w5 s r k _ hlt a5 hf h3 h11 h12 h13) ?_
      rintro a6 _ ⟨hf, h3, rfl⟩
      refine thru ?_
      refine ⟨⟨L, by rw [← hkn]; exact hc⟩, hf, ?_⟩
      rw [h3, hkn, List.take_of_length_le (by omega)]
  rintro a4 w4 ⟨⟨L, hc⟩, hf, h3⟩
  refine c9 w4 _ _ ⟨rfl, L, hc.sw, ?_, hc.kept, hc.ft⟩ a4 hf h3
  rw [hc.ab, List.take_of_length_le (by omega), List.drop_of_length_le (by omega), List.append_nil]
theorem sClear_nil (w : World) : Calls Try.prog 25 #[.pointer none] w fun e w' => e = .returned (.int .i64 0) ∧ w' = w := by
  go_enter Try.func25, Try.ntmps25
  go_wp2_with fail
  go_ret
  exact ⟨rfl, rfl⟩
end Go.Proofs.Ytpigpeehhadkjaa

/-
  ordered of layer 12. Conditions: what went out is, class by class, the beginning of what was offered. (Made by gen_spod.py.)
-/
import Derived.Test.YtpigpeehhadkjaaSpBdA
namespace Go.Proofs.Ytpigpeehhadkjaa
open Go.RowKit Bkt
set_option maxRecDepth 100000
set_option maxHeartbeats 4000000

/-- A row of numbers of the call's own. -/
structure Of where
  a : Option Addr
  n : Nat
  c : Nat
  xs : List Int
def Of.v (x : Of) : List Value := [.slice x.a x.n x.c]
theorem Of.len (x : Of) : x.v.length = 1 := rfl
/-- Rows of numbers, in a row. -/
structure Offs (w : World) (base ro : Nat) (offs : List Of) : Prop where
  row : w.heap[ro]? = some (.cells (offs.flatMap Of.v).toArray 52 (0, 0))
  own : ∀ x ∈ offs, OwnG w base 22 1 x.a x.n x.c (x.xs.map (Value.int .u64))
  apart : offs.Pairwise fun x y => ∀ k, blk x.a = some k → blk y.a ≠ some k
  base : base ≤ ro
theorem Offs.keep {S : Nat → Prop} {w w' : World} {base ro : Nat} {offs : List Of} (h : Offs w base ro offs) (k : Kept S w w') (hs : ∀ i t cur, w.heap[i]? = some (.cells cur t (0, 0)) → t = 52 ∨ t = 22 → base ≤ i → ¬ S i) : Offs w' base ro offs :=
  ⟨k.heap h.row (hs _ _ _ h.row (.inl rfl) h.base), fun x hx => (h.own x hx).keep k (fun b hb => by
    rcases (h.own x hx).cases with ⟨e, _⟩ | ⟨r, cur, e, hr0, hr, _⟩
    · rw [e] at hb; cases hb
    · rw [e] at hb
      simp [blk] at hb
      subst hb
      exact hs _ _ _ hr (.inr rfl) hr0), h.apart, h.base⟩
theorem Offs.below {w w' : World} {base ro : Nat} {offs : List Of} (h : Offs w base ro offs) (k : Below w.heap.size w w') : Offs w' base ro offs := h.keep (S := fun _ => False) (Kept.of_below k (fun i hi hi' => by omega)) (fun _ _ _ _ _ _ => id)
theorem Of.slen {w : World} {base : Nat} {x : Of} (h : OwnG w base 22 1 x.a x.n x.c (x.xs.map (Value.int .u64))) : x.xs.length = x.n := OwnG.len h
def nI (n : Nat) : List Value := [Value.int .i64 (n : Int)]
theorem nI_len (n : Nat) : (nI n).length = 1 := rfl
theorem ni_pz (n : Nat) : (List.replicate n (0 : Nat)).flatMap nI = (madeCells #[.int .i64 0] (n * 1)).toList := by
  apply List.ext_getElem?
  intro j
  have hl := flat_len nI 1 (List.replicate n (0 : Nat)) (fun x _ => rfl)
  by_cases hj : j < n
  · have hi : (List.replicate n (0 : Nat))[j]? = some 0 := by rw [List.getElem?_replicate, if_pos hj]
    have h1 := flat_at nI 1 _ (fun x _ => rfl) j 0 hi 0 (by omega)
    rw [Nat.mul_one, Nat.add_zero] at h1
    rw [h1]
    simp [madeCells, hj, Nat.mod_one, nI]
  · rw [List.getElem?_eq_none (by rw [hl]; simp; omega), List.getElem?_eq_none (by simp [madeCells]; omega)]
theorem run_make_ints (W : World) (M : Nat) (hM : M ≤ 1000000) : (Instr.makeSlice 119 (.int .i64 (M : Int)) (.int .i64 (M : Int))).run Try.prog W = .ok (.slice (some ⟨W.heap.size, 0, none⟩) M M) (W.alloc (.cells ((List.replicate M (0 : Nat)).flatMap nI).toArray 3)) := by
  obtain ⟨i0, hi, hz0, hz1, hz2⟩ := info_parts int_info
  have hr := run_make (P := Try.prog) W 119 3 i0 (.int .i64 0) Try.underlying119 hi hz0 .i64 .i64 (M : Int) (M : Int) (by omega) (Int.le_refl _) (by rw [hz2]; omega) (by omega)
  rw [Int.toNat_natCast, hz1] at hr
  rw [hr, ni_pz]
  rfl
theorem infNI : (Try.prog.info? 3).map (·.size) = some 1 := by kernel_rfl

noncomputable def KO : Code := Try.f22.body.getD .skip
theorem frKO {a : Act} (h : Fr 75 a) : ∃ f : Nat → Value, a = ⟨#[f 0, f 1, f 2, f 3, f 4, f 5, f 6, f 7, f 8, f 9, f 10, f 11, f 12, f 13, f 14, f 15, f 16, f 17, f 18, f 19, f 20, f 21, f 22, f 23, f 24, f 25, f 26, f 27, f 28, f 29, f 30, f 31, f 32, f 33, f 34, f 35, f 36, f 37, f 38, f 39, f 40, f 41, f 42, f 43, f 44, f 45, f 46, f 47, f 48, f 49, f 50, f 51, f 52, f 53, f 54, f 55, f 56, f 57, f 58, f 59, f 60, f 61, f 62, f 63, f 64, f 65, f 66, f 67, f 68, f 69, f 70, f 71, f 72, f 73, f 74], []⟩ ∧ ∀ i, f i = sl a i := fr_any h

theorem z0 (wr : World) (ro nl : Nat) (vo : Option Addr) (no co : Nat) (a : Act) (hf : Fr 75 a) (h0 : sl a 0 = .slice (some ⟨ro, 0, none⟩) nl nl) (h1 : sl a 1 = .slice vo no co) :
    Code.wp Try.prog (cAt [0] KO) (Exit.then (fun a' w' => Fr 75 a' ∧ sl a' 0 = .slice (some ⟨ro, 0, none⟩) nl nl ∧ sl a' 1 = .slice vo no co ∧ wr = w') Nope) a wr := by
  obtain ⟨f, ha, hs⟩ := frKO hf
  rw [(hs 0).trans h0, (hs 1).trans h1] at ha
  clear hs hf h0 h1
  subst ha
  refine piece2 fun J0 K0 hJ0 hK0 => ?_
  conv => arg 2; whnf
  go_wp2_with fail
  refine Met.intro (hJ0 _ _ ?_)
  exact ⟨⟨rfl, rfl⟩, rfl, rfl, rfl⟩

theorem z1 (wr : World) (ro nl : Nat) (vo : Option Addr) (no co : Nat) (hnl : nl ≤ 1000) (a : Act) (hf : Fr 75 a) (h0 : sl a 0 = .slice (some ⟨ro, 0, none⟩) nl nl) (h1 : sl a 1 = .slice vo no co) :
    Code.wp Try.prog (cAt [1,0] KO) (Exit.then (fun a' w' => ∃ rn, Fr 75 a' ∧ sl a' 0 = .slice (some ⟨ro, 0, none⟩) nl nl ∧ sl a' 1 = .slice vo no co ∧ sl a' 5 = .slice (some ⟨rn, 0, none⟩) nl nl ∧ w'.heap[rn]? = some (.cells ((List.replicate nl (0 : Nat)).flatMap nI).toArray 3 (0, 0)) ∧ wr.heap.size ≤ rn ∧ Below wr.heap.size wr w') Nope) a wr := by
  obtain ⟨f, ha, hs⟩ := frKO hf
  rw [(hs 0).trans h0, (hs 1).trans h1] at ha
  clear hs hf h0 h1
  subst ha
  refine piece2 fun J0 K0 hJ0 hK0 => ?_
  conv => arg 2; whnf
  have hmk := run_make_ints wr nl (by omega)
  have H1 : Hid ((wr.alloc (.cells ((List.replicate nl (0 : Nat)).flatMap nI).toArray 3)).heap[wr.heap.size]? = some (.cells ((List.replicate nl (0 : Nat)).flatMap nI).toArray 3 (0, 0)) ∧ wr.heap.size ≤ wr.heap.size ∧ Below wr.heap.size wr (wr.alloc (.cells ((List.replicate nl (0 : Nat)).flatMap nI).toArray 3))) := ⟨Blk_new _ _ _, Nat.le_refl _, (Below.refl _ _).alloc (Nat.le_refl _) _⟩
  obtain ⟨cc, hcc⟩ : ∃ z, ((List.replicate nl (0 : Nat)).flatMap nI) = z := ⟨_, rfl⟩
  rw [hcc] at hmk
  rw [hcc] at H1 hJ0
  go_wp2_with fail
  refine Met.intro (hJ0 _ _ ?_)
  exact ⟨_, ⟨rfl, rfl⟩, rfl, rfl, rfl, H1.out⟩

theorem z2 (wr : World) (ro nl : Nat) (vo : Option Addr) (no co : Nat) (rn : Nat) (a : Act) (hf : Fr 75 a) (h0 : sl a 0 = .slice (some ⟨ro, 0, none⟩) nl nl) (h1 : sl a 1 = .slice vo no co) (h5 : sl a 5 = .slice (some ⟨rn, 0, none⟩) nl nl) :
    Code.wp Try.prog (cAt [1,1,0,0] KO) (Exit.then (fun a' w' => Fr 75 a' ∧ sl a' 0 = .slice (some ⟨ro, 0, none⟩) nl nl ∧ sl a' 1 = .slice vo no co ∧ sl a' 5 = .slice (some ⟨rn, 0, none⟩) nl nl ∧ sl a' 6 = .int .i64 0 ∧ wr = w') Nope) a wr := by
  obtain ⟨f, ha, hs⟩ := frKO hf
  rw [(hs 0).trans h0, (hs 1).trans h1, (hs 5).trans h5] at ha
  clear hs hf h0 h1 h5
  subst ha
  refine piece2 fun J0 K0 hJ0 hK0 => ?_
  conv => arg 2; whnf
  go_wp2_with fail
  refine Met.intro (hJ0 _ _ ?_)
  exact ⟨⟨rfl, rfl⟩, rfl, rfl, rfl, rfl, rfl⟩

theorem z3 (wr : World) (ro nl : Nat) (vo : Option Addr) (no co : Nat) (rn : Nat) (i : Nat) (hi : i < no) (a : Act) (hf : Fr 75 a) (h0 : sl a 0 = .slice (some ⟨ro, 0, none⟩) nl nl) (h1 : sl a 1 = .slice vo no co) (h5 : sl a 5 = .slice (some ⟨rn, 0, none⟩) nl nl) (h6 : sl a 6 = .int .i64 (i : Int)) :
    Code.wp Try.prog (cAt [1,1,0,1,2,2,0] KO) (Exit.then (fun a' w' => Fr 75 a' ∧ sl a' 0 = .slice (some ⟨ro, 0, none⟩) nl nl ∧ sl a' 1 = .slice vo no co ∧ sl a' 5 = .slice (some ⟨rn, 0, none⟩) nl nl ∧ sl a' 6 = .int .i64 (i : Int) ∧ wr = w') Nope) a wr := by
  obtain ⟨f, ha, hs⟩ := frKO hf
  rw [(hs 0).trans h0, (hs 1).trans h1, (hs 5).trans h5, (hs 6).trans h6] at ha
  clear hs hf h0 h1 h5 h6
  subst ha
  refine piece2 fun J0 K0 hJ0 hK0 => ?_
  conv => arg 2; whnf
  have hi2 : (i : Int) < (no : Int) := by omega
  go_wp2_with fail
  refine Met.intro (hJ0 _ _ ?_)
  exact ⟨⟨rfl, rfl⟩, rfl, rfl, rfl, rfl, rfl⟩

theorem z3x (wr : World) (ro nl : Nat) (vo : Option Addr) (no co : Nat) (rn : Nat) (i : Nat) (hi : ¬ i < no) (a : Act) (hf : Fr 75 a) (h0 : sl a 0 = .slice (some ⟨ro, 0, none⟩) nl nl) (h1 : sl a 1 = .slice vo no co) (h5 : sl a 5 = .slice (some ⟨rn, 0, none⟩) nl nl) (h6 : sl a 6 = .int .i64 (i : Int)) :
    Code.wp Try.prog (cAt [1,1,0,1,2,2] KO) (Outs 0 (fun a' w' => Fr 75 a' ∧ wr = w')) a wr := by
  obtain ⟨f, ha, hs⟩ := frKO hf
  rw [(hs 0).trans h0, (hs 1).trans h1, (hs 5).trans h5, (hs 6).trans h6] at ha
  clear hs hf h0 h1 h5 h6
  subst ha
  conv => arg 2; whnf
  go_wp2_with fail
  exact ⟨rfl, ⟨rfl, rfl⟩, rfl⟩

theorem z4 (wr : World) (ro nl : Nat) (vo : Option Addr) (no co : Nat) (rn : Nat) (i : Nat) (hi : i < 1000000) (a : Act) (hf : Fr 75 a) (h0 : sl a 0 = .slice (some ⟨ro, 0, none⟩) nl nl) (h1 : sl a 1 = .slice vo no co) (h5 : sl a 5 = .slice (some ⟨rn, 0, none⟩) nl nl) (h6 : sl a 6 = .int .i64 (i : Int)) :
    Code.wp Try.prog (cAt [1,1,0,1,2,2,1,1] KO) (Exit.then (fun a' w' => Fr 75 a' ∧ sl a' 0 = .slice (some ⟨ro, 0, none⟩) nl nl ∧ sl a' 1 = .slice vo no co ∧ sl a' 5 = .slice (some ⟨rn, 0, none⟩) nl nl ∧ sl a' 6 = .int .i64 ((i : Int) + 1) ∧ wr = w') Nope) a wr := by
  obtain ⟨f, ha, hs⟩ := frKO hf
  rw [(hs 0).trans h0, (hs 1).trans h1, (hs 5).trans h5, (hs 6).trans h6] at ha
  clear hs hf h0 h1 h5 h6
  subst ha
  refine piece2 fun J0 K0 hJ0 hK0 => ?_
  conv => arg 2; whnf
  have hw : IntKind.i64.wrap ((i : Int) + 1) = (i : Int) + 1 := by rw [IntKind.wrap_i64]; omega
  go_wp2_with fail
  refine Met.intro (hJ0 _ _ ?_)
  exact ⟨⟨rfl, rfl⟩, rfl, rfl, rfl, rfl, rfl⟩

theorem z5 (wr : World) (ro nl rq no co rn i cc : Nat) (HC : Hid (wr.cell? ⟨rq, i * 5 + 1, none⟩ = some (.int .i64 (cc : Int)))) (hi : i < no) (a : Act) (hf : Fr 75 a) (h0 : sl a 0 = .slice (some ⟨ro, 0, none⟩) nl nl) (h1 : sl a 1 = .slice (some ⟨rq, 0, none⟩) no co) (h5 : sl a 5 = .slice (some ⟨rn, 0, none⟩) nl nl) (h6 : sl a 6 = .int .i64 (i : Int)) :
    Code.wp Try.prog (cAt [1,1,0,1,2,2,1,0,2,0] KO) (Exit.then (fun a' w' => Fr 75 a' ∧ sl a' 0 = .slice (some ⟨ro, 0, none⟩) nl nl ∧ sl a' 1 = .slice (some ⟨rq, 0, none⟩) no co ∧ sl a' 5 = .slice (some ⟨rn, 0, none⟩) nl nl ∧ sl a' 6 = .int .i64 (i : Int) ∧ sl a' 7 = .int .i64 (cc : Int) ∧ wr = w') Nope) a wr := by
  obtain ⟨f, ha, hs⟩ := frKO hf
  rw [(hs 0).trans h0, (hs 1).trans h1, (hs 5).trans h5, (hs 6).trans h6] at ha
  clear hs hf h0 h1 h5 h6
  subst ha
  refine piece2 fun J0 K0 hJ0 hK0 => ?_
  conv => arg 2; whnf
  have c1 := HC.out
  have hi2 : (i : Int) < (no : Int) := by omega
  have hi0 : (0 : Int) ≤ (i : Int) := by omega
  go_wp2_with fail
  refine Met.intro (hJ0 _ _ ?_)
  exact ⟨⟨rfl, rfl⟩, rfl, rfl, rfl, rfl, rfl, rfl⟩

theorem z6a (wr : World) (ro nl rq no co rn i cc : Nat) (q rx xn xc : Nat) (nu : Int) (HC : Hid (wr.cell? ⟨rn, cc, none⟩ = some (.int .i64 (q : Int)) ∧ wr.cell? ⟨ro, cc, none⟩ = some (.slice (some ⟨rx, 0, none⟩) xn xc) ∧ wr.cell? ⟨rx, q, none⟩ = some (.int .u64 nu) ∧ wr.cell? ⟨rq, i * 5 + 2, none⟩ = some (.int .u64 nu))) (hi : i < no) (hcn : cc < nl) (hq : q < xn) (_hno : no ≤ 100000) (h0 : i = 0) (a : Act) (hf : Fr 75 a) (h0 : sl a 0 = .slice (some ⟨ro, 0, none⟩) nl nl) (h1 : sl a 1 = .slice (some ⟨rq, 0, none⟩) no co) (h5 : sl a 5 = .slice (some ⟨rn, 0, none⟩) nl nl) (h6 : sl a 6 = .int .i64 (i : Int)) (h7 : sl a 7 = .int .i64 (cc : Int)) :
    Code.wp Try.prog (cAt [1,1,0,1,2,2,1,0,2,1,0,0] KO) (Exit.then (fun a' w' => Fr 75 a' ∧ sl a' 0 = .slice (some ⟨ro, 0, none⟩) nl nl ∧ sl a' 1 = .slice (some ⟨rq, 0, none⟩) no co ∧ sl a' 5 = .slice (some ⟨rn, 0, none⟩) nl nl ∧ sl a' 6 = .int .i64 (i : Int) ∧ sl a' 7 = .int .i64 (cc : Int) ∧ sl a' 68 = .bool false ∧ Below wr.heap.size wr w') Nope) a wr := by
  obtain ⟨f, ha, hs⟩ := frKO hf
  rw [(hs 0).trans h0, (hs 1).trans h1, (hs 5).trans h5, (hs 6).trans h6, (hs 7).trans h7] at ha
  clear hs hf h0 h1 h5 h6 h7
  subst ha
  refine piece2 fun J0 K0 hJ0 hK0 => ?_
  conv => arg 2; whnf
  have hi2 : (i : Int) < (no : Int) := by omega
  have hi0 : (0 : Int) ≤ (i : Int) := by omega
  have hc2 : (cc : Int) < (nl : Int) := by omega
  have hc0 : (0 : Int) ≤ (cc : Int) := by omega
  have hq2 : (q : Int) < (xn : Int) := by omega
  have hq0 : (0 : Int) ≤ (q : Int) := by omega
  have hq3 : ¬ (xn : Int) ≤ (q : Int) := by omega
  have HQ3 : Hid (q < xn) := hq
  have HZ := Lib.hid h0
  clear h0
  refine wp_region_held_drew (S := fun w' => w'.cell? ⟨rn, cc, none⟩ = some (.int .i64 (q : Int)) ∧ w'.cell? ⟨ro, cc, none⟩ = some (.slice (some ⟨rx, 0, none⟩) xn xc) ∧ w'.cell? ⟨rx, q, none⟩ = some (.int .u64 nu) ∧ w'.cell? ⟨rq, i * 5 + 2, none⟩ = some (.int .u64 nu)) (by kernel_rfl) HC.out (fun hS => ?_)
  refine tkB 0 22 (.slice (some ⟨rn, 0, none⟩) nl nl) (fun w' h' => ?_) hS ?_
  · go_simp
  refine tkB 1 23 (.int .i64 (cc : Int)) (fun w' h' => ?_) hS ?_
  · go_simp
  try simp only [Act.put, List.setIfInBounds_toArray, List.set_cons_zero, List.set_cons_succ]
  refine tkB 2 24 (.pointer (some ⟨rn, cc, none⟩)) (fun w' h' => ?_) hS ?_
  · go_simp
  refine tkB 3 25 (.int .i64 (q : Int)) (fun w' h' => ?_) hS ?_
  · have q1 := h'.1
    go_simp
  try simp only [Act.put, List.setIfInBounds_toArray, List.set_cons_zero, List.set_cons_succ]
  refine tkB 4 26 (.slice (some ⟨ro, 0, none⟩) nl nl) (fun w' h' => ?_) hS ?_
  · go_simp
  refine tkB 5 27 (.int .i64 (cc : Int)) (fun w' h' => ?_) hS ?_
  · go_simp
  try simp only [Act.put, List.setIfInBounds_toArray, List.set_cons_zero, List.set_cons_succ]
  refine tkB 6 28 (.pointer (some ⟨ro, cc, none⟩)) (fun w' h' => ?_) hS ?_
  · go_simp
  refine tkB 7 29 (.slice (some ⟨rx, 0, none⟩) xn xc) (fun w' h' => ?_) hS ?_
  · have q1 := h'.2.1
    go_simp
  try simp only [Act.put, List.setIfInBounds_toArray, List.set_cons_zero, List.set_cons_succ]
  refine tkB 8 30 (.int .i64 (xn : Int)) (fun w' h' => ?_) hS ?_
  · go_simp
  refine tkB 9 31 (.bool false) (fun w' h' => ?_) hS ?_
  · (go_simp; try omega)
  try simp only [Act.put, List.setIfInBounds_toArray, List.set_cons_zero, List.set_cons_succ]
  refine tkB 10 32 (.bool false) (fun w' h' => ?_) hS ?_
  · go_simp
  refine tkB 11 33 (.slice (some ⟨ro, 0, none⟩) nl nl) (fun w' h' => ?_) hS ?_
  · go_simp
  try simp only [Act.put, List.setIfInBounds_toArray, List.set_cons_zero, List.set_cons_succ]
  refine tkB 12 34 (.int .i64 (cc : Int)) (fun w' h' => ?_) hS ?_
  · go_simp
  refine tkB 13 35 (.pointer (some ⟨ro, cc, none⟩)) (fun w' h' => ?_) hS ?_
  · go_simp
  try simp only [Act.put, List.setIfInBounds_toArray, List.set_cons_zero, List.set_cons_succ]
  refine tkB 14 36 (.slice (some ⟨rx, 0, none⟩) xn xc) (fun w' h' => ?_) hS ?_
  · have q1 := h'.2.1
    go_simp
  refine tkB 15 37 (.slice (some ⟨rn, 0, none⟩) nl nl) (fun w' h' => ?_) hS ?_
  · go_simp
  try simp only [Act.put, List.setIfInBounds_toArray, List.set_cons_zero, List.set_cons_succ]
  refine tkB 16 38 (.int .i64 (cc : Int)) (fun w' h' => ?_) hS ?_
  · go_simp
  refine tkB 17 39 (.pointer (some ⟨rn, cc, none⟩)) (fun w' h' => ?_) hS ?_
  · go_simp
  try simp only [Act.put, List.setIfInBounds_toArray, List.set_cons_zero, List.set_cons_succ]
  refine tkB 18 40 (.int .i64 (q : Int)) (fun w' h' => ?_) hS ?_
  · have q1 := h'.1
    go_simp
  refine tkB 19 41 (.pointer (some ⟨rx, q, none⟩)) (fun w' h' => ?_) hS ?_
  · go_simp
  try simp only [Act.put, List.setIfInBounds_toArray, List.set_cons_zero, List.set_cons_succ]
  refine tkB 20 42 (.int .u64 nu) (fun w' h' => ?_) hS ?_
  · have q1 := h'.2.2.1
    go_simp
  refine tkB 21 43 (.slice (some ⟨rq, 0, none⟩) no co) (fun w' h' => ?_) hS ?_
  · go_simp
  try simp only [Act.put, List.setIfInBounds_toArray, List.set_cons_zero, List.set_cons_succ]
  refine tkB 22 44 (.int .i64 (i : Int)) (fun w' h' => ?_) hS ?_
  · go_simp
  refine tkB 23 45 (.pointer (some ⟨rq, i * 5, none⟩)) (fun w' h' => ?_) hS ?_
  · go_simp
  try simp only [Act.put, List.setIfInBounds_toArray, List.set_cons_zero, List.set_cons_succ]
  refine tkB 24 46 (.pointer (some ⟨rq, i * 5 + 2, none⟩)) (fun w' h' => ?_) hS ?_
  · go_simp
  refine tkB 25 47 (.pointer (some ⟨rq, i * 5 + 2, none⟩)) (fun w' h' => ?_) hS ?_
  · go_simp
  try simp only [Act.put, List.setIfInBounds_toArray, List.set_cons_zero, List.set_cons_succ]
  refine tkB 26 48 (.int .u64 nu) (fun w' h' => ?_) hS ?_
  · have q1 : w'.cell? ⟨rq, i * 5 + 2, none⟩ = some (.int .u64 nu) := h'.2.2.2
    go_simp
  refine tkB 27 49 (.bool false) (fun w' h' => ?_) hS ?_
  · go_simp
  try simp only [Act.put, List.setIfInBounds_toArray, List.set_cons_zero, List.set_cons_succ]
  refine tkB 28 50 (.bool false) (fun w' h' => ?_) hS ?_
  · go_simp
  refine tkB 29 51 (.bool false) (fun w' h' => ?_) hS ?_
  · go_simp
  try simp only [Act.put, List.setIfInBounds_toArray, List.set_cons_zero, List.set_cons_succ]
  refine tkB 30 52 (.int .i64 (i : Int)) (fun w' h' => ?_) hS ?_
  · go_simp
  refine tkB 31 53 (.bool false) (fun w' h' => ?_) hS ?_
  · (go_simp; exact HZ.out)
  try simp only [Act.put, List.setIfInBounds_toArray, List.set_cons_zero, List.set_cons_succ]
  refine tkB 32 54 (.bool false) (fun w' h' => ?_) hS ?_
  · go_simp
  try simp only [Act.put, List.setIfInBounds_toArray, List.set_cons_zero, List.set_cons_succ]
  refine tk 33 55 undef rfl rfl (by kernel_rfl) (by kernel_rfl) (by kernel_rfl) (fun _ _ _ h => h) (Or.inr ⟨by rfl, rfl⟩) hS ?_
  try simp only [Act.put, List.setIfInBounds_toArray, List.set_cons_zero, List.set_cons_succ]
  refine tk 34 56 undef rfl rfl (by kernel_rfl) (by kernel_rfl) (by kernel_rfl) (fun _ _ _ h => h) (Or.inr ⟨by rfl, rfl⟩) hS ?_
  try simp only [Act.put, List.setIfInBounds_toArray, List.set_cons_zero, List.set_cons_succ]
  refine tk 35 57 undef rfl rfl (by kernel_rfl) (by kernel_rfl) (by kernel_rfl) (fun _ _ _ h => h) (Or.inr ⟨by rfl, rfl⟩) hS ?_
  try simp only [Act.put, List.setIfInBounds_toArray, List.set_cons_zero, List.set_cons_succ]
  refine tk 36 58 undef rfl rfl (by kernel_rfl) (by kernel_rfl) (by kernel_rfl) (fun _ _ _ h => h) (Or.inr ⟨by rfl, rfl⟩) hS ?_
  try simp only [Act.put, List.setIfInBounds_toArray, List.set_cons_zero, List.set_cons_succ]
  refine tk 37 59 undef rfl rfl (by kernel_rfl) (by kernel_rfl) (by kernel_rfl) (fun _ _ _ h => h) (Or.inr ⟨by rfl, rfl⟩) hS ?_
  try simp only [Act.put, List.setIfInBounds_toArray, List.set_cons_zero, List.set_cons_succ]
  refine tk 38 60 undef rfl rfl (by kernel_rfl) (by kernel_rfl) (by kernel_rfl) (fun _ _ _ h => h) (Or.inr ⟨by rfl, rfl⟩) hS ?_
  try simp only [Act.put, List.setIfInBounds_toArray, List.set_cons_zero, List.set_cons_succ]
  refine tk 39 61 undef rfl rfl (by kernel_rfl) (by kernel_rfl) (by kernel_rfl) (fun _ _ _ h => h) (Or.inr ⟨by rfl, rfl⟩) hS ?_
  try simp only [Act.put, List.setIfInBounds_toArray, List.set_cons_zero, List.set_cons_succ]
  refine tk 40 62 undef rfl rfl (by kernel_rfl) (by kernel_rfl) (by kernel_rfl) (fun _ _ _ h => h) (Or.inr ⟨by rfl, rfl⟩) hS ?_
  try simp only [Act.put, List.setIfInBounds_toArray, List.set_cons_zero, List.set_cons_succ]
  refine tk 41 63 undef rfl rfl (by kernel_rfl) (by kernel_rfl) (by kernel_rfl) (fun _ _ _ h => h) (Or.inr ⟨by rfl, rfl⟩) hS ?_
  try simp only [Act.put, List.setIfInBounds_toArray, List.set_cons_zero, List.set_cons_succ]
  refine tk 42 64 undef rfl rfl (by kernel_rfl) (by kernel_rfl) (by kernel_rfl) (fun _ _ _ h => h) (Or.inr ⟨by rfl, rfl⟩) hS ?_
  try simp only [Act.put, List.setIfInBounds_toArray, List.set_cons_zero, List.set_cons_succ]
  refine tk 43 65 undef rfl rfl (by kernel_rfl) (by kernel_rfl) (by kernel_rfl) (fun _ _ _ h => h) (Or.inr ⟨by rfl, rfl⟩) hS ?_
  try simp only [Act.put, List.setIfInBounds_toArray, List.set_cons_zero, List.set_cons_succ]
  refine tk 44 66 undef rfl rfl (by kernel_rfl) (by kernel_rfl) (by kernel_rfl) (fun _ _ _ h => h) (Or.inr ⟨by rfl, rfl⟩) hS ?_
  refine tkB 45 67 (.bool false) (fun w' h' => ?_) hS ?_
  · go_simp
  try simp only [Act.put, List.setIfInBounds_toArray, List.set_cons_zero, List.set_cons_succ]
  refine tkB 46 68 (.bool false) (fun w' h' => ?_) hS ?_
  · go_simp
  refine wpAnyH_done (by kernel_rfl) ?_ _
  go_wp2_with fail
  refine Met.intro (hJ0 _ _ ?_)
  exact ⟨⟨rfl, rfl⟩, rfl, rfl, rfl, rfl, rfl, rfl, (Below.refl _ _).drew⟩

theorem z6b (wr : World) (ro nl rq no co rn i cc : Nat) (q rx xn xc : Nat) (nu t0 t1 : Int) (HC : Hid (wr.cell? ⟨rn, cc, none⟩ = some (.int .i64 (q : Int)) ∧ wr.cell? ⟨ro, cc, none⟩ = some (.slice (some ⟨rx, 0, none⟩) xn xc) ∧ wr.cell? ⟨rx, q, none⟩ = some (.int .u64 nu) ∧ wr.cell? ⟨rq, i * 5 + 2, none⟩ = some (.int .u64 nu) ∧ wr.cell? ⟨rq, i * 5, none⟩ = some (.int .u64 t1) ∧ wr.cell? ⟨rq, (i - 1) * 5, none⟩ = some (.int .u64 t0))) (hi : i < no) (hcn : cc < nl) (hq : q < xn) (hno : no ≤ 100000) (h0 : 0 < i) (htle : t0 ≤ t1) (a : Act) (hf : Fr 75 a) (h0 : sl a 0 = .slice (some ⟨ro, 0, none⟩) nl nl) (h1 : sl a 1 = .slice (some ⟨rq, 0, none⟩) no co) (h5 : sl a 5 = .slice (some ⟨rn, 0, none⟩) nl nl) (h6 : sl a 6 = .int .i64 (i : Int)) (h7 : sl a 7 = .int .i64 (cc : Int)) :
    Code.wp Try.prog (cAt [1,1,0,1,2,2,1,0,2,1,0,0] KO) (Exit.then (fun a' w' => Fr 75 a' ∧ sl a' 0 = .slice (some ⟨ro, 0, none⟩) nl nl ∧ sl a' 1 = .slice (some ⟨rq, 0, none⟩) no co ∧ sl a' 5 = .slice (some ⟨rn, 0, none⟩) nl nl ∧ sl a' 6 = .int .i64 (i : Int) ∧ sl a' 7 = .int .i64 (cc : Int) ∧ sl a' 68 = .bool false ∧ Below wr.heap.size wr w') Nope) a wr := by
  obtain ⟨f, ha, hs⟩ := frKO hf
  rw [(hs 0).trans h0, (hs 1).trans h1, (hs 5).trans h5, (hs 6).trans h6, (hs 7).trans h7] at ha
  clear hs hf h0 h1 h5 h6 h7
  subst ha
  refine piece2 fun J0 K0 hJ0 hK0 => ?_
  conv => arg 2; whnf
  have hi2 : (i : Int) < (no : Int) := by omega
  have hi0 : (0 : Int) ≤ (i : Int) := by omega
  have hc2 : (cc : Int) < (nl : Int) := by omega
  have hc0 : (0 : Int) ≤ (cc : Int) := by omega
  have hq2 : (q : Int) < (xn : Int) := by omega
  have hq0 : (0 : Int) ≤ (q : Int) := by omega
  have hq3 : ¬ (xn : Int) ≤ (q : Int) := by omega
  have HQ3 : Hid (q < xn) := hq
  have e2 : IntKind.i64.wrap ((i : Int) - 1) = ((i - 1 : Nat) : Int) := by rw [IntKind.wrap_i64]; omega
  have hi3 : ((i - 1 : Nat) : Int) < (no : Int) := by omega
  have hi5 : (0 : Int) ≤ ((i - 1 : Nat) : Int) := by omega
  have hi4 : (0 : Int) < (i : Int) := by omega
  have htt : ¬ t1 < t0 := by omega
  clear h0 htle
  refine wp_region_held_drew (S := fun w' => w'.cell? ⟨rn, cc, none⟩ = some (.int .i64 (q : Int)) ∧ w'.cell? ⟨ro, cc, none⟩ = some (.slice (some ⟨rx, 0, none⟩) xn xc) ∧ w'.cell? ⟨rx, q, none⟩ = some (.int .u64 nu) ∧ w'.cell? ⟨rq, i * 5 + 2, none⟩ = some (.int .u64 nu) ∧ w'.cell? ⟨rq, i * 5, none⟩ = some (.int .u64 t1) ∧ w'.cell? ⟨rq, (i - 1) * 5, none⟩ = some (.int .u64 t0)) (by kernel_rfl) HC.out (fun hS => ?_)
  refine tkB 0 22 (.slice (some ⟨rn, 0, none⟩) nl nl) (fun w' h' => ?_) hS ?_
  · go_simp
  refine tkB 1 23 (.int .i64 (cc : Int)) (fun w' h' => ?_) hS ?_
  · go_simp
  try simp only [Act.put, List.setIfInBounds_toArray, List.set_cons_zero, List.set_cons_succ]
  refine tkB 2 24 (.pointer (some ⟨rn, cc, none⟩)) (fun w' h' => ?_) hS ?_
  · go_simp
  refine tkB 3 25 (.int .i64 (q : Int)) (fun w' h' => ?_) hS ?_
  · have q1 := h'.1
    go_simp
  try simp only [Act.put, List.setIfInBounds_toArray, List.set_cons_zero, List.set_cons_succ]
  refine tkB 4 26 (.slice (some ⟨ro, 0, none⟩) nl nl) (fun w' h' => ?_) hS ?_
  · go_simp
  refine tkB 5 27 (.int .i64 (cc : Int)) (fun w' h' => ?_) hS ?_
  · go_simp
  try simp only [Act.put, List.setIfInBounds_toArray, List.set_cons_zero, List.set_cons_succ]
  refine tkB 6 28 (.pointer (some ⟨ro, cc, none⟩)) (fun w' h' => ?_) hS ?_
  · go_simp
  refine tkB 7 29 (.slice (some ⟨rx, 0, none⟩) xn xc) (fun w' h' => ?_) hS ?_
  · have q1 := h'.2.1
    go_simp
  try simp only [Act.put, List.setIfInBounds_toArray, List.set_cons_zero, List.set_cons_succ]
  refine tkB 8 30 (.int .i64 (xn : Int)) (fun w' h' => ?_) hS ?_
  · go_simp
  refine tkB 9 31 (.bool false) (fun w' h' => ?_) hS ?_
  · (go_simp; try omega)
  try simp only [Act.put, List.setIfInBounds_toArray, List.set_cons_zero, List.set_cons_succ]
  refine tkB 10 32 (.bool false) (fun w' h' => ?_) hS ?_
  · go_simp
  refine tkB 11 33 (.slice (some ⟨ro, 0, none⟩) nl nl) (fun w' h' => ?_) hS ?_
  · go_simp
  try simp only [Act.put, List.setIfInBounds_toArray, List.set_cons_zero, List.set_cons_succ]
  refine tkB 12 34 (.int .i64 (cc : Int)) (fun w' h' => ?_) hS ?_
  · go_simp
  refine tkB 13 35 (.pointer (some ⟨ro, cc, none⟩)) (fun w' h' => ?_) hS ?_
  · go_simp
  try simp only [Act.put, List.setIfInBounds_toArray, List.set_cons_zero, List.set_cons_succ]
  refine tkB 14 36 (.slice (some ⟨rx, 0, none⟩) xn xc) (fun w' h' => ?_) hS ?_
  · have q1 := h'.2.1
    go_simp
  refine tkB 15 37 (.slice (some ⟨rn, 0, none⟩) nl nl) (fun w' h' => ?_) hS ?_
  · go_simp
  try simp only [Act.put, List.setIfInBounds_toArray, List.set_cons_zero, List.set_cons_succ]
  refine tkB 16 38 (.int .i64 (cc : Int)) (fun w' h' => ?_) hS ?_
  · go_simp
  refine tkB 17 39 (.pointer (some ⟨rn, cc, none⟩)) (fun w' h' => ?_) hS ?_
  · go_simp
  try simp only [Act.put, List.setIfInBounds_toArray, List.set_cons_zero, List.set_cons_succ]
  refine tkB 18 40 (.int .i64 (q : Int)) (fun w' h' => ?_) hS ?_
  · have q1 := h'.1
    go_simp
  refine tkB 19 41 (.pointer (some ⟨rx, q, none⟩)) (fun w' h' => ?_) hS ?_
  · go_simp
  try simp only [Act.put, List.setIfInBounds_toArray, List.set_cons_zero, List.set_cons_succ]
  refine tkB 20 42 (.int .u64 nu) (fun w' h' => ?_) hS ?_
  · have q1 := h'.2.2.1
    go_simp
  refine tkB 21 43 (.slice (some ⟨rq, 0, none⟩) no co) (fun w' h' => ?_) hS ?_
  · go_simp
  try simp only [Act.put, List.setIfInBounds_toArray, List.set_cons_zero, List.set_cons_succ]
  refine tkB 22 44 (.int .i64 (i : Int)) (fun w' h' => ?_) hS ?_
  · go_simp
  refine tkB 23 45 (.pointer (some ⟨rq, i * 5, none⟩)) (fun w' h' => ?_) hS ?_
  · go_simp
  try simp only [Act.put, List.setIfInBounds_toArray, List.set_cons_zero, List.set_cons_succ]
  refine tkB 24 46 (.pointer (some ⟨rq, i * 5 + 2, none⟩)) (fun w' h' => ?_) hS ?_
  · go_simp
  refine tkB 25 47 (.pointer (some ⟨rq, i * 5 + 2, none⟩)) (fun w' h' => ?_) hS ?_
  · go_simp
  try simp only [Act.put, List.setIfInBounds_toArray, List.set_cons_zero, List.set_cons_succ]
  refine tkB 26 48 (.int .u64 nu) (fun w' h' => ?_) hS ?_
  · have q1 : w'.cell? ⟨rq, i * 5 + 2, none⟩ = some (.int .u64 nu) := h'.2.2.2.1
    go_simp
  refine tkB 27 49 (.bool false) (fun w' h' => ?_) hS ?_
  · go_simp
  try simp only [Act.put, List.setIfInBounds_toArray, List.set_cons_zero, List.set_cons_succ]
  refine tkB 28 50 (.bool false) (fun w' h' => ?_) hS ?_
  · go_simp
  refine tkB 29 51 (.bool false) (fun w' h' => ?_) hS ?_
  · go_simp
  try simp only [Act.put, List.setIfInBounds_toArray, List.set_cons_zero, List.set_cons_succ]
  refine tkB 30 52 (.int .i64 (i : Int)) (fun w' h' => ?_) hS ?_
  · go_simp
  refine tkB 31 53 (.bool true) (fun w' h' => ?_) hS ?_
  · (go_simp; omega)
  try simp only [Act.put, List.setIfInBounds_toArray, List.set_cons_zero, List.set_cons_succ]
  refine tkB 32 54 (.bool true) (fun w' h' => ?_) hS ?_
  · go_simp
  refine tkB 33 55 (.slice (some ⟨rq, 0, none⟩) no co) (fun w' h' => ?_) hS ?_
  · go_simp
  try simp only [Act.put, List.setIfInBounds_toArray, List.set_cons_zero, List.set_cons_succ]
  refine tkB 34 56 (.int .i64 (i : Int)) (fun w' h' => ?_) hS ?_
  · go_simp
  refine tkB 35 57 (.pointer (some ⟨rq, i * 5, none⟩)) (fun w' h' => ?_) hS ?_
  · go_simp
  try simp only [Act.put, List.setIfInBounds_toArray, List.set_cons_zero, List.set_cons_succ]
  refine tkB 36 58 (.pointer (some ⟨rq, i * 5, none⟩)) (fun w' h' => ?_) hS ?_
  · go_simp
  refine tkB 37 59 (.int .u64 t1) (fun w' h' => ?_) hS ?_
  · have q1 := h'.2.2.2.2.1
    go_simp
  try simp only [Act.put, List.setIfInBounds_toArray, List.set_cons_zero, List.set_cons_succ]
  refine tkB 38 60 (.slice (some ⟨rq, 0, none⟩) no co) (fun w' h' => ?_) hS ?_
  · go_simp
  refine tkB 39 61 (.int .i64 (i : Int)) (fun w' h' => ?_) hS ?_
  · go_simp
  try simp only [Act.put, List.setIfInBounds_toArray, List.set_cons_zero, List.set_cons_succ]
  refine tkB 40 62 (.int .i64 ((i - 1 : Nat) : Int)) (fun w' h' => ?_) hS ?_
  · go_simp
  refine tkB 41 63 (.pointer (some ⟨rq, (i - 1) * 5, none⟩)) (fun w' h' => ?_) hS ?_
  · go_simp
  try simp only [Act.put, List.setIfInBounds_toArray, List.set_cons_zero, List.set_cons_succ]
  refine tkB 42 64 (.pointer (some ⟨rq, (i - 1) * 5, none⟩)) (fun w' h' => ?_) hS ?_
  · go_simp
  refine tkB 43 65 (.int .u64 t0) (fun w' h' => ?_) hS ?_
  · have q1 := h'.2.2.2.2.2
    go_simp
  try simp only [Act.put, List.setIfInBounds_toArray, List.set_cons_zero, List.set_cons_succ]
  refine tkB 44 66 (.bool false) (fun w' h' => ?_) hS ?_
  · go_simp
  refine tkB 45 67 (.bool false) (fun w' h' => ?_) hS ?_
  · go_simp
  try simp only [Act.put, List.setIfInBounds_toArray, List.set_cons_zero, List.set_cons_succ]
  refine tkB 46 68 (.bool false) (fun w' h' => ?_) hS ?_
  · go_simp
  refine wpAnyH_done (by kernel_rfl) ?_ _
  go_wp2_with fail
  refine Met.intro (hJ0 _ _ ?_)
  exact ⟨⟨rfl, rfl⟩, rfl, rfl, rfl, rfl, rfl, rfl, (Below.refl _ _).drew⟩

theorem z8 (wr : World) (ro nl rq no co rn i cc : Nat) (xs : List Nat) (q : Nat) (HN : Hid (wr.heap[rn]? = some (.cells (xs.flatMap nI).toArray 3 (0, 0)))) (hq : xs[cc]? = some q) (hcn : cc < nl) (hql : q < 1000000) (a : Act) (hf : Fr 75 a) (h0 : sl a 0 = .slice (some ⟨ro, 0, none⟩) nl nl) (h1 : sl a 1 = .slice (some ⟨rq, 0, none⟩) no co) (h5 : sl a 5 = .slice (some ⟨rn, 0, none⟩) nl nl) (h6 : sl a 6 = .int .i64 (i : Int)) (h7 : sl a 7 = .int .i64 (cc : Int)) :
    Code.wp Try.prog (cAt [1,1,0,1,2,2,1,0,2,1,1] KO) (Exit.then (fun a' w' => Fr 75 a' ∧ sl a' 0 = .slice (some ⟨ro, 0, none⟩) nl nl ∧ sl a' 1 = .slice (some ⟨rq, 0, none⟩) no co ∧ sl a' 5 = .slice (some ⟨rn, 0, none⟩) nl nl ∧ sl a' 6 = .int .i64 (i : Int) ∧ w'.heap[rn]? = some (.cells ((xs.set cc (q + 1)).flatMap nI).toArray 3 (0, 0)) ∧ Kept (fun k => k = rn) wr w') Nope) a wr := by
  obtain ⟨f, ha, hs⟩ := frKO hf
  rw [(hs 0).trans h0, (hs 1).trans h1, (hs 5).trans h5, (hs 6).trans h6, (hs 7).trans h7] at ha
  clear hs hf h0 h1 h5 h6 h7
  subst ha
  refine piece2 fun J0 K0 hJ0 hK0 => ?_
  conv => arg 2; whnf
  have c1 : wr.cell? ⟨rn, cc, none⟩ = some (.int .i64 (q : Int)) := by
    have := frow_at nI_len HN.out hq 0 _ rfl
    simpa using this
  have f1 : wr.frozen? ⟨rn, cc, none⟩ = false := frozen_of_row wr rn cc _ _ HN.out
  have e1 : IntKind.i64.wrap ((q : Int) + 1) = ((q + 1 : Nat) : Int) := by rw [IntKind.wrap_i64]; omega
  have hc2 : (cc : Int) < (nl : Int) := by omega
  have hc0 : (0 : Int) ≤ (cc : Int) := by omega
  have hr : (wr.setCell ⟨rn, cc, none⟩ (.int .i64 ((q + 1 : Nat) : Int))).heap[rn]? = some (.cells ((xs.set cc (q + 1)).flatMap nI).toArray 3 (0, 0)) := by
    have := frow_one nI_len HN.out (i := cc) (j := 0) (v := .int .i64 ((q + 1 : Nat) : Int)) (y := q + 1) hq (by omega) rfl
    simpa using this
  have H1 : Hid ((wr.setCell ⟨rn, cc, none⟩ (.int .i64 ((q + 1 : Nat) : Int))).heap[rn]? = some (.cells ((xs.set cc (q + 1)).flatMap nI).toArray 3 (0, 0)) ∧ Kept (fun k => k = rn) wr (wr.setCell ⟨rn, cc, none⟩ (.int .i64 ((q + 1 : Nat) : Int)))) := ⟨hr, Kept.setCell _ _ _ rfl⟩
  obtain ⟨q1, hq1⟩ : ∃ z : Int, ((q + 1 : Nat) : Int) = z := ⟨_, rfl⟩
  rw [hq1] at e1 H1
  clear hr hq hq1
  go_wp2_with fail
  refine Met.intro (hJ0 _ _ ?_)
  exact ⟨⟨rfl, rfl⟩, rfl, rfl, rfl, rfl, H1.out⟩

theorem z9 (wr : World) (R : Ending → World → Prop) (HR : R (.returned (.bool true)) wr) (a : Act) (hf : Fr 75 a) :
    Code.wp Try.prog (cAt [1,1,1] KO) (bodyPost Try.prog Try.f22 R) a wr := by
  have H := Lib.hid HR
  clear HR
  obtain ⟨f, ha, hs⟩ := frKO hf
  clear hs hf 
  subst ha
  conv => arg 2; whnf
  go_wp2_with fail
  first | exact H.out | (go_ret; exact H.out)

/-- How many of a class have gone. -/
def cntC (o : List Ot) (c : Nat) : Nat := (o.filter fun x => x.c == c).length
/-- What ordered needs of what went out. -/
structure OdO (offs : List Of) (o : List Ot) : Prop where
  srt : ∀ (i : Nat) (x y : Ot), o[i]? = some x → o[i + 1]? = some y → x.t ≤ y.t
  cls : ∀ x ∈ o, x.c < offs.length
  pre : ∀ (c : Nat) (f : Of), offs[c]? = some f → ∃ r, f.xs = noC c o ++ r
theorem cnt_snoc (o : List Ot) {i : Nat} {x : Ot} (hx : o[i]? = some x) (c : Nat) : cntC (o.take (i + 1)) c = cntC (o.take i) c + (if x.c = c then 1 else 0) := by
  rw [List.take_add_one, hx]
  unfold cntC
  rw [Option.toList_some, List.filter_append, List.length_append]
  by_cases e : x.c = c
  · simp [e]
  · simp [e]
theorem noC_app (c : Nat) (l m : List Ot) : noC c (l ++ m) = noC c l ++ noC c m := by unfold noC; rw [List.filter_append, List.map_append]
theorem no_at (o : List Ot) {i : Nat} {x : Ot} (hx : o[i]? = some x) : (noC x.c o)[cntC (o.take i) x.c]? = some x.x.no := by
  have h1 : o = o.take i ++ x :: o.drop (i + 1) := by
    have hi := (List.getElem?_eq_some_iff.1 hx).1
    have he := (List.getElem?_eq_some_iff.1 hx).2
    conv => lhs; rw [← List.take_append_drop i o, List.drop_eq_getElem_cons hi, he]
  have h2 : noC x.c o = noC x.c (o.take i) ++ noC x.c (x :: o.drop (i + 1)) := by
    rw [← noC_app]
    exact congrArg (noC x.c) h1
  have h3 : (noC x.c (o.take i)).length = cntC (o.take i) x.c := by unfold noC cntC; rw [List.length_map]
  rw [h2, List.getElem?_append_right (by omega), h3, Nat.sub_self]
  unfold noC
  simp
theorem ordered_any (B0 ro : Nat) (offs : List Of) (nl : Nat) (vo : Option Addr) (no co : Nat) (ys : List Po) (B : Nat) (w : World) (hr : Offs w B0 ro offs) (hnl : offs.length = nl) (hnl8 : nl ≤ 8) (ho : Ops w B vo no co ys) (h : OdO offs (ys.map Po.ot)) (hn : no ≤ 100000) :
    Calls Try.prog 22 #[.slice (some ⟨ro, 0, none⟩) nl nl, .slice vo no co] w (Yes w) := by
  have hno := ho.len
  refine calls_of_wp (c := KO) Try.func22 (by kernel_rfl) ?_
  have hf : Fr 75 { tmps := #[.slice (some ⟨ro, 0, none⟩) nl nl, .slice vo no co] ++ Array.replicate (Try.f22.ntmps - (#[.slice (some ⟨ro, 0, none⟩) nl nl, .slice vo no co] : Array Value).size) undef, defers := [] } := ⟨rfl, by simp [Try.ntmps22]⟩
  refine wp_sqR (x := cAt [0] KO) (y := cAt [1] KO) (by kernel_rfl) (z0 w ro nl vo no co _ hf (sl_at _ _ 0 _ rfl) (sl_at _ _ 1 _ rfl)) ?_
  rintro a1 _ ⟨hf, h0, h1, rfl⟩
  refine tkBq (z1 w ro nl vo no co (by omega) a1 hf h0 h1) ?_
  rintro a2 w2 ⟨rn, hf, h0, h1, h5, hrn, hge, hb2⟩
  refine tkBq (R := fun a' w' => Below w.heap.size w w' ∧ Fr 75 a') ?_ ?_
  · refine tkBq (z2 w2 ro nl vo no co rn a2 hf h0 h1 h5) ?_
    rintro a3 _ ⟨hf, h0, h1, h5, h6, rfl⟩
    refine wp_blockR (x := cAt [1,1,0,1,2] KO) (id := 0) (by kernel_rfl) ?_
    refine wp_loopR (x := cAt [1,1,0,1,2,2] KO) (by kernel_rfl) (fun a' w' => ∃ (i : Nat) (xs : List Nat), i ≤ no ∧ Below w.heap.size w w' ∧ w'.heap[rn]? = some (.cells (xs.flatMap nI).toArray 3 (0, 0)) ∧ xs.length = nl ∧ (∀ c, c < nl → xs[c]? = some (cntC ((ys.map Po.ot).take i) c)) ∧ Fr 75 a' ∧ sl a' 0 = .slice (some ⟨ro, 0, none⟩) nl nl ∧ sl a' 1 = .slice vo no co ∧ sl a' 5 = .slice (some ⟨rn, 0, none⟩) nl nl ∧ sl a' 6 = .int .i64 (i : Int)) (fun a' _ => no - (intOf (sl a' 6)).toNat) ⟨0, _, Nat.zero_le _, hb2, hrn, by simp, fun c hc => by rw [List.getElem?_replicate, if_pos hc]; rfl, hf, h0, h1, h5, h6⟩ ?_
    rintro a4 w4 ⟨i, xs, hi, hb, hrow, hxl, hxs, hf, h0, h1, h5, h6⟩
    by_cases hlt : i < no
    case neg =>
      refine wp_endX (z3x w4 ro nl vo no co rn i hlt a4 hf h0 h1 h5 h6) ?_
      rintro a5 _ ⟨hf, rfl⟩
      exact thru ⟨hb, hf⟩
    refine tkBq (z3 w4 ro nl vo no co rn i hlt a4 hf h0 h1 h5 h6) ?_
    rintro a5 _ ⟨hf, h0, h1, h5, h6', rfl⟩
    obtain ⟨p, hp⟩ : ∃ p, ys[i]? = some p := ⟨_, List.getElem?_eq_getElem (by omega)⟩
    have ho4 := ho.below hb
    have hr4 := hr.below hb
    obtain ⟨rq, hvo, hrg⟩ := ho4.nth hp
    have hpi : (ys.map Po.ot)[i]? = some p.ot := by rw [List.getElem?_map, hp]; rfl
    have hpc : p.c < nl := by rw [← hnl]; exact h.cls p.ot (List.mem_of_getElem? hpi)
    obtain ⟨f, hf2⟩ : ∃ f, offs[p.c]? = some f := ⟨_, List.getElem?_eq_getElem (by omega)⟩
    obtain ⟨rest, hfx⟩ := h.pre p.c f hf2
    have hna : (noC p.c (ys.map Po.ot))[cntC ((ys.map Po.ot).take i) p.c]? = some p.y.no := no_at (ys.map Po.ot) hpi
    have hfq : f.xs[cntC ((ys.map Po.ot).take i) p.c]? = some p.y.no := by
      rw [hfx, List.getElem?_append_left (List.getElem?_eq_some_iff.1 hna).1]
      exact hna
    have hown := hr4.own f (List.mem_of_getElem? hf2)
    have hfl := Of.slen hown
    have hqlt : cntC ((ys.map Po.ot).take i) p.c < f.n := by rw [← hfl]; exact (List.getElem?_eq_some_iff.1 hfq).1
    obtain ⟨rx, hfa, hcell⟩ := hown.cell (by intro e; rw [List.map_eq_nil_iff] at e; rw [e] at hfq; simp at hfq)
    have k1 : w4.cell? ⟨rn, p.c, none⟩ = some (.int .i64 ((cntC ((ys.map Po.ot).take i) p.c : Nat) : Int)) := by
      have := frow_at nI_len hrow (hxs p.c hpc) 0 _ rfl
      simpa using this
    have k2 : w4.cell? ⟨ro, p.c, none⟩ = some (.slice (some ⟨rx, 0, none⟩) f.n f.c) := by
      have := frow_at Of.len hr4.row hf2 0 _ rfl
      rw [hfa] at this
      simpa using this
    have k3 : w4.cell? ⟨rx, cntC ((ys.map Po.ot).take i) p.c, none⟩ = some (.int .u64 p.y.no) := by
      have := hcell (cntC ((ys.map Po.ot).take i) p.c) (.int .u64 p.y.no) (by rw [List.getElem?_map, hfq]; rfl)
      simpa using this
    have k4 : w4.cell? ⟨rq, i * 5 + 2, none⟩ = some (.int .u64 p.y.no) := hrg 2 _ rfl
    rw [hvo] at h1
    refine tkBq (R := fun a' w' => ∃ xs' : List Nat, Below w.heap.size w w' ∧ w'.heap[rn]? = some (.cells (xs'.flatMap nI).toArray 3 (0, 0)) ∧ xs'.length = nl ∧ (∀ c, c < nl → xs'[c]? = some (cntC ((ys.map Po.ot).take (i + 1)) c)) ∧ Fr 75 a' ∧ sl a' 0 = .slice (some ⟨ro, 0, none⟩) nl nl ∧ sl a' 1 = .slice vo no co ∧ sl a' 5 = .slice (some ⟨rn, 0, none⟩) nl nl ∧ sl a' 6 = .int .i64 (i : Int)) ?_ ?_
    · refine wp_blockR (x := cAt [1,1,0,1,2,2,1,0,2] KO) (id := 1) (by kernel_rfl) ?_
      refine tkBq (z5 w4 ro nl rq no co rn i p.c (hrg 1 _ rfl) hlt a5 hf h0 h1 h5 h6') ?_
      rintro a6 _ ⟨hf, h0, h1, h5, h6', h7, rfl⟩
      refine tkBq (R := fun a' w' => Below w4.heap.size w4 w' ∧ Fr 75 a' ∧ sl a' 0 = .slice (some ⟨ro, 0, none⟩) nl nl ∧ sl a' 1 = .slice (some ⟨rq, 0, none⟩) no co ∧ sl a' 5 = .slice (some ⟨rn, 0, none⟩) nl nl ∧ sl a' 6 = .int .i64 (i : Int) ∧ sl a' 7 = .int .i64 (p.c : Int)) ?_ ?_
      · have key : ∀ (a7 : Act) (w7 : World), Fr 75 a7 ∧ sl a7 0 = .slice (some ⟨ro, 0, none⟩) nl nl ∧ sl a7 1 = .slice (some ⟨rq, 0, none⟩) no co ∧ sl a7 5 = .slice (some ⟨rn, 0, none⟩) nl nl ∧ sl a7 6 = .int .i64 (i : Int) ∧ sl a7 7 = .int .i64 (p.c : Int) ∧ sl a7 68 = .bool false → Below w4.heap.size w4 w7 → Code.wp Try.prog (cAt [1,1,0,1,2,2,1,0,2,1,0,1] KO) (Exit.then (fun a' w' => Below w4.heap.size w4 w' ∧ Fr 75 a' ∧ sl a' 0 = .slice (some ⟨ro, 0, none⟩) nl nl ∧ sl a' 1 = .slice (some ⟨rq, 0, none⟩) no co ∧ sl a' 5 = .slice (some ⟨rn, 0, none⟩) nl nl ∧ sl a' 6 = .int .i64 (i : Int) ∧ sl a' 7 = .int .i64 (p.c : Int)) Nope) a7 w7 := by
          rintro a7 w7 ⟨hf, h0, h1, h5, h6', h7, h68⟩ hb7
          refine wp_onF (A := cAt [1,1,0,1,2,2,1,0,2,1,0,1,3] KO) (B := cAt [1,1,0,1,2,2,1,0,2,1,0,1,4] KO) (by kernel_rfl) h68 ?_
          exact wp_skipR (by kernel_rfl) ⟨hb7, hf, h0, h1, h5, h6', h7⟩
        by_cases h0' : i = 0
        · refine tkBq (z6a w4 ro nl rq no co rn i p.c _ rx f.n f.c p.y.no ⟨k1, k2, k3, k4⟩ hlt hpc hqlt hn h0' a6 hf h0 h1 h5 h6' h7) ?_
          rintro a7 w7 ⟨hf, h0, h1, h5, h6', h7, h68, hb7⟩
          exact key a7 w7 ⟨hf, h0, h1, h5, h6', h7, h68⟩ hb7
        · obtain ⟨q, hq⟩ : ∃ q, ys[i - 1]? = some q := ⟨_, List.getElem?_eq_getElem (by omega)⟩
          obtain ⟨rq2, hv2, hrg2⟩ := ho4.nth hq
          have hrr : rq2 = rq := by rw [hvo] at hv2; simpa using hv2.symm
          rw [hrr] at hrg2
          have hle : q.t ≤ p.t := h.srt (i - 1) q.ot p.ot (by rw [List.getElem?_map, hq]; rfl) (by rw [show i - 1 + 1 = i by omega]; exact hpi)
          refine tkBq (z6b w4 ro nl rq no co rn i p.c _ rx f.n f.c p.y.no q.t p.t ⟨k1, k2, k3, k4, hrg 0 _ rfl, hrg2 0 _ rfl⟩ hlt hpc hqlt hn (by omega) hle a6 hf h0 h1 h5 h6' h7) ?_
          rintro a7 w7 ⟨hf, h0, h1, h5, h6', h7, h68, hb7⟩
          exact key a7 w7 ⟨hf, h0, h1, h5, h6', h7, h68⟩ hb7
      rintro a7 w7 ⟨hb7, hf, h0, h1, h5, h6', h7⟩
      have hrow7 := (hb7.block _ (Array.getElem?_eq_some_iff.1 hrow).1).trans hrow
      have hql : cntC ((ys.map Po.ot).take i) p.c < 1000000 := by
        have h1 : cntC ((ys.map Po.ot).take i) p.c ≤ ((ys.map Po.ot).take i).length := List.length_filter_le _ _
        rw [List.length_take] at h1
        omega
      refine wp_endR (z8 w7 ro nl rq no co rn i p.c xs _ hrow7 (hxs p.c hpc) hpc hql a7 hf h0 h1 h5 h6' h7) ?_
      rintro a8 w8 ⟨hf, h0, h1, h5, h6', hrow8, hk8⟩
      rw [← hvo] at h1
      refine ⟨_, (hb.trans (hb7.mono hb.size)).trans (hk8.below (Nat.le_trans hb.size hb7.size) (fun k e => by omega)), hrow8, by rw [List.length_set]; exact hxl, fun c hc => ?_, hf, h0, h1, h5, h6'⟩
      rw [cnt_snoc _ hpi]
      by_cases e : p.c = c
      · subst e
        rw [List.getElem?_set_self (by omega), if_pos (show p.ot.c = p.c from rfl)]
      · rw [List.getElem?_set_ne e, hxs c hc, if_neg (show ¬ p.ot.c = c from e), Nat.add_zero]
    rintro a6 w6 ⟨xs', hb6, hrow6, hxl6, hxs6, hf, h0, h1, h5, h6'⟩
    refine wp_endR (z4 w6 ro nl vo no co rn i (by omega) a6 hf h0 h1 h5 h6') ?_
    rintro a7 _ ⟨hf, h0, h1, h5, h6'', rfl⟩
    refine ⟨⟨i + 1, xs', hlt, hb6, hrow6, hxl6, hxs6, hf, h0, h1, h5, by rw [h6'']; rfl⟩, ?_⟩
    rw [h6, h6'']
    simp only [intOf]
    omega
  rintro a3 w3 ⟨hb3, hf⟩
  exact z9 w3 _ ⟨rfl, hb3⟩ a3 hf
end Go.Proofs.Ytpigpeehhadkjaa

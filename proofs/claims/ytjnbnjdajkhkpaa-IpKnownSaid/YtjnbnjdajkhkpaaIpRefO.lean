/-
  The contract of the document's own Options for layer 5. Conditions: bytes, fewer than a million.
-/
import Derived.Test.YtjnbnjdajkhkpaaIpOptF
namespace Go.Proofs.Ytjnbnjdajkhkpaa
open Go.RowKit

/-- Bytes as a text. -/
def str (xs : List Int) : ByteArray := ⟨(ub xs).toArray⟩
theorem ub_len (xs : List Int) : (ub xs).length = xs.length := by simp [ub]
theorem str_size (xs : List Int) : (str xs).size = xs.length := by
  show (ub xs).toArray.size = _
  simp [ub]
theorem str_list (xs : List Int) : (str xs).toList = ub xs := ByteArray.toList_mk _
theorem ub_get {xs : List Int} (h : Byt xs) (i : Nat) (hi : i < xs.length) : (((ub xs)[i]'(by rw [ub_len]; exact hi)).toNat : Int) = xs.getD i 0 := by
  have h1 := h _ (List.getElem_mem hi)
  simp only [ub, List.getElem_map, List.getD_eq_getElem?_getD, List.getElem?_eq_getElem hi, Option.getD_some, UInt8.toNat_ofNat']
  omega
theorem run_str_index {xs : List Int} (h : Byt xs) (i : Nat) (hi : i < xs.length) (k : IntKind) (w : World) : (Instr.index 9 (.string (str xs)) (.int k (i : Int))).run Try.prog w = .ok (.int .u8 (xs.getD i 0)) w := by
  have ht := Try.underlying9
  have hs : (str xs).size = xs.length := str_size xs
  have hi' : (i : Int) < ((str xs).size : Int) := by rw [hs]; omega
  have hi0 : ¬ (i : Int) < 0 := by omega
  have hx : (((str xs)[i]'(by rw [hs]; exact hi)).toNat : Int) = xs[i] := by
    have h1 := ub_get h i hi
    rw [List.getD_eq_getElem?_getD, List.getElem?_eq_getElem hi, Option.getD_some] at h1
    exact h1
  go_simp
theorem run_str_from {xs : List Int} (i : Nat) (hi : i ≤ xs.length) (k : IntKind) (w : World) : (Instr.sliceAt 9 (.string (str xs)) (some (.int k (i : Int))) none none).run Try.prog w = .ok (.string (str (xs.drop i))) w := by
  have ht := Try.underlying9
  have hs : (str xs).size = xs.length := str_size xs
  have hi' : (i : Int) ≤ ((str xs).size : Int) := by rw [hs]; omega
  have he : (str xs).extract i xs.length = str (xs.drop i) := by
    show (ByteArray.mk (ub xs).toArray).extract i xs.length = _
    rw [ByteArray.extract_mk, List.take_of_length_le (by rw [List.length_drop, ub_len]; omega)]
    simp [str, ub, List.map_drop]
  go_simp
theorem run_str_cut {xs : List Int} (i j : Nat) (hij : i ≤ j) (hj : j ≤ xs.length) (k k' : IntKind) (w : World) : (Instr.sliceAt 9 (.string (str xs)) (some (.int k (i : Int))) (some (.int k' (j : Int))) none).run Try.prog w = .ok (.string (str ((xs.drop i).take (j - i)))) w := by
  have ht := Try.underlying9
  have hs : (str xs).size = xs.length := str_size xs
  have hi' : (i : Int) ≤ (j : Int) := by omega
  have hj' : (j : Int) ≤ ((str xs).size : Int) := by rw [hs]; omega
  have he : (str xs).extract i j = str ((xs.drop i).take (j - i)) := by
    show (ByteArray.mk (ub xs).toArray).extract i j = _
    rw [ByteArray.extract_mk]
    simp [str, ub, List.map_drop, List.map_take]
  go_simp
theorem ub_empty (xs : List Int) : (ub xs == []) = decide (xs.length = 0) := by cases xs <;> simp [ub]
/-- The cells of an option, its data a text. -/
def rcs (o : Int × List Int) : List Value := [.int .u8 o.1, .string (str o.2)]
theorem rcs_one (o : Int × List Int) : ∀ v ∈ rcs o, v.oneCell' = true := by intro v hv; simp [rcs] at hv; rcases hv with rfl | rfl <;> rfl
theorem infRO : (Try.prog.info? 56).map (fun i => (i.zero, i.size, i.bytes)) = some (some (.agg #[.int .u8 0, .string ⟨#[]⟩]), 2, 24) := by kernel_rfl
/-- What the document's Options answers. -/
def ROptR (w : World) (xs : List Int) (e : Ending) (w' : World) : Prop :=
  Below w.heap.size w w' ∧ ((∃ v m c ys, opts xs = some ys ∧ e = .returned (.tuple #[.slice v m c, .int .i64 0]) ∧ ys.length = m ∧ OwnG w' w.heap.size 56 2 v m c (ys.flatMap rcs)) ∨
    (opts xs = none ∧ e = .returned (.tuple #[.slice none 0 0, .int .i64 51])))

/-- append(row, row2...), the first of the call's own. -/
theorem run_append_all (w : World) (base ty t e : Nat) (z : Value) (size bytes : Nat) (hinfo : (Try.prog.info? e).map (fun i => (i.zero, i.size, i.bytes)) = some (some z, size, bytes)) (ht : Try.prog.underlying t = some (.slice e))
    (hzs : z.cells.size = size) (hsz : 0 < size) {a : Option Addr} {n cap : Nat} {vs : List Value} (hown : OwnG w base e size a n cap vs) {b : Option Addr} {m c : Nat} {us : List Value} {base' : Nat} (h2 : OwnG w base' e size b m c us) (h1 : ∀ u ∈ us, u.oneCell' = true)
    (hn : 0 < n) (hb : base ≤ w.heap.size) (hlim : (n + m) * bytes ≤ 140737488355328) (hn1 : n + m ≤ 1099511627776) :
    ∃ g cap' w', (Builtin.append_ #[t, t] ty #[.slice a n cap, .slice b m c]).run Try.prog w = .ok (.slice (some ⟨g, 0, none⟩) (n + m) cap') w' ∧
      OwnG w' base e size (some ⟨g, 0, none⟩) (n + m) cap' (vs ++ us) ∧ w.grownBy w' (blk a) := by
  obtain ⟨i0, hi, hz0, hz1, hz2⟩ := info_parts hinfo
  rcases h2.cases with ⟨rfl, rfl, rfl, rfl⟩ | ⟨g2, cur2, rfl, _, hg2, hmc, hcm, hcs2, ht2⟩
  · rcases hown.cases with ⟨_, h0, _⟩ | ⟨g, cur, rfl, hbg, hg, hnc, hcm, hcs, htk⟩
    · omega
    refine ⟨g, cap, w, ?_, by rw [List.append_nil]; exact hown, ⟨rfl, rfl, rfl, Nat.le_refl _, fun _ _ _ => rfl⟩⟩
    simp [Builtin.append_, run_underlying ht, sizeOf, typeInfo, hi, Builtin.lenOf, Builtin.firstCells, hnc, storeCells]
  · have hul : us.length = m * size := by
      rw [← ht2, List.length_take, Array.length_toList]
      have : m * size ≤ c * size := Nat.mul_le_mul_right _ hmc
      omega
    have hcells : ∀ j u, us[j]? = some u → w.cell? ((⟨g2, 0, none⟩ : Addr).add j) = some u := by
      intro j u hu
      rw [Addr.add_lit, cell_of_row w g2 (0 + j) cur2 _ (0, 0) hg2, Nat.zero_add]
      rw [← ht2, List.getElem?_take] at hu
      split at hu
      · simpa using hu
      · cases hu
    obtain ⟨v', w', hrun, k2, k3, k4, k5⟩ := run_append_own_at (P := Try.prog) w base t ty e i0 z size bytes ht hi hz0 hz1 hz2 hzs hsz (.slice a n cap) n vs hown ⟨g2, 0, none⟩ m c us hul hcells h1 (by simp only [maxLen]; omega) hlim hb
    rw [ownBlock_eq] at k3
    rcases k2.2 with ⟨rfl, h0⟩ | ⟨g, cap', cur, rfl, r⟩
    · omega
    · exact ⟨g, cap', w', hrun, k2, k3⟩
theorem flat_one (ys : List (Int × List Int)) : ∀ u ∈ ys.flatMap rcs, u.oneCell' = true := by
  intro u hu
  obtain ⟨o, _, h⟩ := List.mem_flatMap.1 hu
  exact rcs_one o u h

theorem optl_len : ∀ (f : Nat) (xs : List Int) (ys : List (Int × List Int)), optl f xs = some ys → 2 * ys.length ≤ xs.length := by
  intro f
  induction f with
  | zero => intro xs ys h; rw [optl] at h; cases h; simp
  | succ f ih =>
    intro xs ys h
    rw [optl] at h
    split at h
    · cases h; simp
    · split at h
      · have := ih _ _ h; rw [List.length_drop] at this; omega
      · split at h
        · cases h
        · rename_i h2
          obtain ⟨a, b, c⟩ := foB_no (xs := xs) (by simpa using h2)
          cases ho : optl f (xs.drop (xs.getD 1 0).toNat) with
          | none => rw [ho] at h; cases h
          | some zs =>
            rw [ho] at h
            cases h
            have := ih _ _ ho
            rw [List.length_drop] at this
            simp only [List.length_cons]
            omega
theorem opts_len {xs : List Int} {ys : List (Int × List Int)} (h : opts xs = some ys) : 2 * ys.length ≤ xs.length := optl_len _ _ _ h
theorem OwnG.lit (w : World) (base e size k : Nat) (vs : List Value) (hl : vs.length = k * size) (hm : k ≤ maxLen) (hb : base ≤ w.heap.size) : OwnG (w.alloc (.cells vs.toArray e)) base e size (some ⟨w.heap.size, 0, none⟩) k k vs :=
  ⟨by simpa using hl, .inr ⟨w.heap.size, k, vs.toArray, rfl, hb, Blk_new w _ _, Nat.le_refl _, hm, by simpa using hl, by simp [List.take_of_length_le (Nat.le_of_eq hl)]⟩⟩
theorem OwnG.drw {w : World} {base e size : Nat} {a : Option Addr} {n cap : Nat} {vs : List Value} (h : OwnG w base e size a n cap vs) : OwnG w.drew base e size a n cap vs := h

set_option maxRecDepth 100000 in
set_option maxHeartbeats 2000000 in
theorem r5Options_any (f : Nat) : ∀ (xs : List Int) (w : World), xs.length ≤ f → Byt xs → f ≤ 1000000 → Calls Try.prog 24 #[.string (str xs)] w (ROptR w xs) := by
  induction f with
  | zero =>
    intro xs w hl hb _
    obtain rfl : xs = [] := List.eq_nil_of_length_eq_zero (by omega)
    have hE := ub_empty []
    have hS := str_list []
    go_enter Try.func24, Try.ntmps24
    go_wp2_with fail
    go_ret2
    exact ⟨Below.refl _ _, .inl ⟨none, 0, 0, [], opts_end (.inl rfl), rfl, rfl, OwnG.nil _ _ _ _⟩⟩
  | succ f ih =>
    intro xs w hl hb hf
    have IH := Lib.hid ih
    have HB := Lib.hid hb
    have HL := Lib.hid hl
    have hS := str_list xs
    have hZ := str_size xs
    clear ih hl hb
    by_cases h0 : xs.length = 0
    · have hE : (ub xs == []) = true := by rw [ub_empty, decide_eq_true h0]
      have HO : Hid (opts xs = some []) := opts_end (.inl h0)
      clear h0
      go_enter Try.func24, Try.ntmps24
      go_wp2_with fail
      go_ret2
      exact ⟨Below.refl _ _, .inl ⟨none, 0, 0, [], HO.out, rfl, rfl, OwnG.nil _ _ _ _⟩⟩
    · have hE : (ub xs == []) = false := by rw [ub_empty, decide_eq_false h0]
      have H0 := Lib.hid h0
      have hi0 : ∀ w' : World, (Instr.index 9 (.string (str xs)) (.int .i64 0)).run Try.prog w' = .ok (.int .u8 (xs.getD 0 0)) w' := fun w' => run_str_index HB.out 0 (by omega) .i64 w'
      obtain ⟨x0, hx0⟩ : ∃ x, xs.getD 0 0 = x := ⟨_, rfl⟩
      rw [hx0] at hi0
      have HX0 := Lib.hid hx0
      clear hx0 h0
      by_cases hx : x0 = 0
      · have HO : Hid (opts xs = some []) := opts_end (.inr (by rw [HX0.out]; exact hx))
        subst hx
        go_enter Try.func24, Try.ntmps24
        go_wp2_with fail
        go_ret2
        exact ⟨Below.refl _ _, .inl ⟨none, 0, 0, [], HO.out, rfl, rfl, OwnG.nil _ _ _ _⟩⟩
      · have HX := Lib.hid hx
        have hx' : (x0 == 0) = false := by simpa using hx
        by_cases hy : x0 = 1
        · have HO : Hid (opts xs = opts (xs.drop 1)) := opts_one H0.out (by rw [HX0.out]; exact hy)
          have hsl : ∀ w' : World, (Instr.sliceAt 9 (.string (str xs)) (some (.int .i64 1)) none none).run Try.prog w' = .ok (.string (str (xs.drop 1))) w' := fun w' => run_str_from 1 (by have := H0.out; omega) .i64 w'
          obtain ⟨T, hT⟩ : ∃ T, str (xs.drop 1) = T := ⟨_, rfl⟩
          have HT := Lib.hid hT
          rw [hT] at hsl
          clear hT
          subst hy
          clear hx hx'
          go_enter Try.func24, Try.ntmps24
          go_wp2_with fail
          rw [← HT.out]
          refine (IH.out (xs.drop 1) _ (by have := HL.out; rw [List.length_drop]; omega) (HB.out.drop 1) (by omega)).mono ?_
          rintro e w1 ⟨hb1, ⟨v, m, c, ys, ho, rfl, hlen, hrow⟩ | ⟨ho, rfl⟩⟩
          · have HR1 := Lib.hid hrow
            have HB1 := Lib.hid hb1
            have HO1 := Lib.hid ho
            have HL1 := Lib.hid hlen
            clear hrow hb1 ho hlen
            go_wp2_with fail
            go_ret2
            exact ⟨HB1.out, .inl ⟨v, m, c, ys, by rw [HO.out]; exact HO1.out, rfl, HL1.out, HR1.out⟩⟩
          · have HB1 := Lib.hid hb1
            have HO1 := Lib.hid ho
            clear hb1 ho
            go_wp2_with fail
            go_ret2
            exact ⟨HB1.out, .inr ⟨by rw [HO.out]; exact HO1.out, rfl⟩⟩
        · have HY := Lib.hid hy
          have hy' : (x0 == 1) = false := by simpa using hy
          clear hx hy
          by_cases hlen : xs.length < 2
          · have HO : Hid (opts xs = none) := opts_bad H0.out (by rw [HX0.out]; exact HX.out) (by rw [HX0.out]; exact HY.out) (by simp [foB, hlen])
            have hlen' : (xs.length : Int) < 2 := by omega
            clear hlen
            go_enter Try.func24, Try.ntmps24
            go_wp2_with fail
            go_ret2
            exact ⟨Below.refl _ _, .inr ⟨HO.out, rfl⟩⟩
          · have hlen' : ¬ (xs.length : Int) < 2 := by omega
            have hi1 : ∀ w' : World, (Instr.index 9 (.string (str xs)) (.int .i64 1)).run Try.prog w' = .ok (.int .u8 (xs.getD 1 0)) w' := fun w' => run_str_index HB.out 1 (by omega) .i64 w'
            have hx1 := HB.out.get 1
            obtain ⟨s, hs⟩ := Int.eq_ofNat_of_zero_le hx1.1
            rw [hs] at hi1 hx1
            have HS1 := Lib.hid hs
            have hs255 : (s : Int) < 256 := hx1.2
            have HLEN : Hid (2 ≤ xs.length) := by show 2 ≤ _; omega
            clear hs hx1 hlen
            by_cases hs2 : (s : Int) < 2
            · have HO : Hid (opts xs = none) := opts_bad H0.out (by rw [HX0.out]; exact HX.out) (by rw [HX0.out]; exact HY.out) (by simp only [foB, HS1.out, Bool.or_eq_true, decide_eq_true_eq]; omega)
              go_enter Try.func24, Try.ntmps24
              go_wp2_with fail
              go_ret2
              exact ⟨Below.refl _ _, .inr ⟨HO.out, rfl⟩⟩
            · by_cases hsn : (xs.length : Int) < (s : Int)
              · have HO : Hid (opts xs = none) := opts_bad H0.out (by rw [HX0.out]; exact HX.out) (by rw [HX0.out]; exact HY.out) (by simp only [foB, HS1.out, Bool.or_eq_true, decide_eq_true_eq]; omega)
                go_enter Try.func24, Try.ntmps24
                go_wp2_with fail
                go_ret2
                exact ⟨Below.refl _ _, .inr ⟨HO.out, rfl⟩⟩
              · have HSS : Hid ((xs.getD 1 0).toNat = s) := by show _ = _; rw [HS1.out]; rfl
                have HO : Hid (opts xs = (opts (xs.drop s)).map ((x0, (xs.drop 2).take (s - 2)) :: ·)) := by
                  show _ = _
                  rw [opts_more H0.out (by rw [HX0.out]; exact HX.out) (by rw [HX0.out]; exact HY.out) (by
                    have := HLEN.out
                    simp only [foB, HS1.out, Bool.or_eq_false_iff, decide_eq_false_iff_not]; omega), HSS.out, HX0.out]
                have hsl : ∀ w' : World, (Instr.sliceAt 9 (.string (str xs)) (some (.int .u8 (s : Int))) none none).run Try.prog w' = .ok (.string (str (xs.drop s))) w' := fun w' => run_str_from s (by omega) .u8 w'
                have hct : ∀ w' : World, (Instr.sliceAt 9 (.string (str xs)) (some (.int .i64 2)) (some (.int .u8 (s : Int))) none).run Try.prog w' = .ok (.string (str ((xs.drop 2).take (s - 2)))) w' := fun w' => run_str_cut 2 s (by omega) (by omega) .i64 .u8 w'
                obtain ⟨T, hT⟩ : ∃ T, str (xs.drop s) = T := ⟨_, rfl⟩
                have HT := Lib.hid hT
                rw [hT] at hsl
                obtain ⟨D, hD⟩ : ∃ T, str ((xs.drop 2).take (s - 2)) = T := ⟨_, rfl⟩
                have HD := Lib.hid hD
                rw [hD] at hct
                clear hT hD
                have HDL : Hid ((xs.drop s).length ≤ f) := by have := HL.out; show _ ≤ _; rw [List.length_drop]; omega
                go_enter Try.func24, Try.ntmps24
                go_wp2_with fail
                rw [← HT.out]
                refine (IH.out (xs.drop s) _ HDL.out (HB.out.drop s) (by omega)).mono ?_
                rintro e w1 ⟨hb1, ⟨v, m, c, ys, ho, rfl, hlen, hrow⟩ | ⟨ho, rfl⟩⟩
                · have HR1 := Lib.hid hrow
                  have HB1 := Lib.hid hb1
                  have HO1 := Lib.hid ho
                  have HL1 := Lib.hid hlen
                  have hlit : OwnG ((w1.alloc (.cells (rcs (x0, (xs.drop 2).take (s - 2))).toArray 56)).drew) w.heap.size 56 2 (some ⟨w1.heap.size, 0, none⟩) 1 1 (rcs (x0, (xs.drop 2).take (s - 2))) :=
                    (OwnG.lit w1 w.heap.size 56 2 1 _ rfl (by decide) hb1.size).drw
                  have hr2 : OwnG ((w1.alloc (.cells (rcs (x0, (xs.drop 2).take (s - 2))).toArray 56)).drew) w.heap.size 56 2 v m c (ys.flatMap rcs) := (hrow.keep (S := fun _ => False) (Kept.alloc _ _ _) (fun _ _ => id)).drw
                  have hmb : 2 * m ≤ 1000000 := by
                    have h1 := opts_len HO1.out
                    have h2 := HL1.out
                    have h3 := HDL.out
                    omega
                  obtain ⟨g, cap', w3, hrun, hown, hg⟩ := run_append_all _ w.heap.size 47 47 56 (.agg #[.int .u8 0, .string ⟨#[]⟩]) 2 24 infRO Try.underlying47 rfl (by omega) hlit hr2 (flat_one _) (by omega) (by have := hb1.size; show _ ≤ (w1.alloc _).heap.size; simp; omega) (by omega) (by omega)
                  have hlist : rcs (x0, (xs.drop 2).take (s - 2)) = [.int .u8 x0, .string D] := by rw [rcs, HD.out]
                  rw [hlist] at hrun hg
                  have HRUN := Lib.hid hrun
                  have HB3 : Hid (Below w.heap.size w w3) := by
                    have h1 : Below w.heap.size w (w1.alloc (.cells [.int .u8 x0, .string D].toArray 56)) := hb1.alloc hb1.size _
                    have h2 : Below w.heap.size w (w1.alloc (.cells [.int .u8 x0, .string D].toArray 56)).drew := ⟨h1.os, h1.tape, h1.output, h1.size, h1.block⟩
                    exact h2.grown hg h2.size (fun k hk => by simp [blk] at hk; have := hb1.size; omega)
                  have HO3 : Hid (OwnG w3 w.heap.size 56 2 (some ⟨g, 0, none⟩) (1 + m) cap' (((x0, (xs.drop 2).take (s - 2)) :: ys).flatMap rcs)) := by
                    show OwnG _ _ _ _ _ _ _ _
                    rw [List.flatMap_cons]; exact hown
                  clear hrow hb1 ho hlen hlit hr2 hrun hown hg hlist
                  go_wp2_with fail
                  go_region_held3 (fun _ => True) (trivial) (first | fail)
                  all_goals
                    go_wp2_with (at_builtin; refine Lib.wpList_append_run _ rfl _ _ _ _ rfl _ _ rfl rfl _ _ HRUN.out ?_)
                    go_ret2
                    exact ⟨HB3.out, .inl ⟨some ⟨g, 0, none⟩, 1 + m, cap', (x0, (xs.drop 2).take (s - 2)) :: ys, by rw [HO.out, HO1.out]; rfl, rfl, by rw [List.length_cons, HL1.out]; omega, HO3.out⟩⟩
                · have HB1 := Lib.hid hb1
                  have HO1 := Lib.hid ho
                  clear hb1 ho
                  go_wp2_with fail
                  go_ret2
                  exact ⟨HB1.out, .inr ⟨by rw [HO.out, HO1.out]; rfl, rfl⟩⟩
end Go.Proofs.Ytjnbnjdajkhkpaa

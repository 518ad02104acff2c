/-
  IpOptions: whatever bytes come in, the statement's function answers true, and what came in reads afterwards as before. No conditions.
-/
import Derived.Test.YtjnbnjdajkhkpaaIpWorks
import Derived.Test.YtjnbnjdajkhkpaaIpRefO
namespace Go.Proofs.Ytjnbnjdajkhkpaa
open Go.RowKit

theorem flat_get (os : List Op1) (k : Nat) (h : k < os.length) : (flat os)[2 * k]? = some (.int .u8 (os[k]'h).k) ∧ (flat os)[2 * k + 1]? = some (.slice (os[k]'h).a (os[k]'h).n (os[k]'h).c) := by
  induction os generalizing k with
  | nil => simp at h
  | cons o os ih =>
    cases k with
    | zero => exact ⟨rfl, rfl⟩
    | succ k =>
      have := ih k (by simpa using h)
      have e1 : 2 * (k + 1) = 2 * k + 1 + 1 := by omega
      simp only [flat, List.flatMap_cons, Op1.cs, ocs, List.cons_append, List.nil_append, List.getElem_cons_succ, e1, List.getElem?_cons_succ] at this ⊢
      exact this
theorem rcs_get (ys : List (Int × List Int)) (k : Nat) (h : k < ys.length) : (ys.flatMap rcs)[2 * k]? = some (.int .u8 (ys[k]'h).1) ∧ (ys.flatMap rcs)[2 * k + 1]? = some (.string (str (ys[k]'h).2)) := by
  induction ys generalizing k with
  | nil => simp at h
  | cons o os ih =>
    cases k with
    | zero => exact ⟨rfl, rfl⟩
    | succ k =>
      have := ih k (by simpa using h)
      have e1 : 2 * (k + 1) = 2 * k + 1 + 1 := by omega
      simp only [List.flatMap_cons, rcs, List.cons_append, List.nil_append, List.getElem_cons_succ, e1, List.getElem?_cons_succ] at this ⊢
      exact this

theorem optl_all {p : Int × List Int → List Int → Prop} (hd : ∀ o xs k, p o (xs.drop k) → p o xs) (hm : ∀ xs, foB xs = false → p (xs.getD 0 0, (xs.drop 2).take ((xs.getD 1 0).toNat - 2)) xs) :
    ∀ (f : Nat) (xs : List Int) (ys : List (Int × List Int)), optl f xs = some ys → ∀ o ∈ ys, p o xs := by
  intro f
  induction f with
  | zero => intro xs ys h; rw [optl] at h; cases h; simp
  | succ f ih =>
    intro xs ys h
    rw [optl] at h
    split at h
    · cases h; simp
    · split at h
      · exact fun o ho => hd _ _ _ (ih _ _ h o ho)
      · split at h
        · cases h
        · rename_i h2
          cases ho : optl f (xs.drop (xs.getD 1 0).toNat) with
          | none => rw [ho] at h; cases h
          | some zs =>
            rw [ho] at h
            cases h
            intro o hmem
            rcases List.mem_cons.1 hmem with rfl | hmem
            · exact hm xs (by simpa using h2)
            · exact hd _ _ _ (ih _ _ ho o hmem)
theorem opts_byt {xs : List Int} (hb : Byt xs) {ys : List (Int × List Int)} (h : opts xs = some ys) : ∀ o ∈ ys, Byt o.2 := fun o ho =>
  optl_all (p := fun o xs => Byt xs → Byt o.2) (fun _ _ _ h1 h2 => h1 (h2.drop _)) (fun _ _ h2 => (h2.drop 2).take _) _ _ _ h o ho hb
theorem opts_dat {xs : List Int} {ys : List (Int × List Int)} (h : opts xs = some ys) : ∀ o ∈ ys, o.2.length ≤ xs.length := fun o ho =>
  optl_all (p := fun o xs => o.2.length ≤ xs.length) (fun _ _ _ h1 => by rw [List.length_drop] at h1; omega) (fun xs _ => by simp only [List.length_take, List.length_drop]; omega) _ _ _ h o ho

/-- Between two options that are looked at: from one on their data are as they were answered. -/
structure SI (Wt : World) (v : Option Addr) (m c : Nat) (os : List Op1) (k : Nat) (wr : World) : Prop where
  below : Below Wt.heap.size Wt wr
  row : OwnG wr Wt.heap.size 54 2 v m c (flat os)
  data : ∀ j (h : j < os.length), k ≤ j → Own wr Wt.heap.size (os[j]'h).a (os[j]'h).n (os[j]'h).c (os[j]'h).xs
theorem SI.start {Wt w' : World} {v : Option Addr} {m c : Nat} {os : List Op1} (h : Opts w' Wt.heap.size v m c os) (hb : Below Wt.heap.size Wt w') : SI Wt v m c os 0 w' := ⟨hb, h.row, fun _ hj _ => h.data _ (List.getElem_mem hj)⟩
theorem SI.next {Wt w' wr : World} {v : Option Addr} {m c : Nat} {os : List Op1} {k : Nat} (h : SI Wt v m c os k w') (hap : os.Pairwise (fun o p => ∀ k, blk o.a = some k → blk p.a ≠ some k)) (hk : k < os.length) (hi : Inc w' Wt.heap.size (os[k]'hk).a (os[k]'hk).n (os[k]'hk).c wr) : SI Wt v m c os (k + 1) wr := by
  obtain ⟨zs, ho, hkp⟩ := hi
  have hd := h.data k hk (Nat.le_refl _)
  have hbk : ∀ b, blk (os[k]'hk).a = some b → Wt.heap.size ≤ b := fun b e => (hd.blk_ge b e).1
  refine ⟨h.below.trans (hkp.below h.below.size (fun i e => hbk i e)), ?_, fun j hj hkj => ?_⟩
  · exact h.row.keep hkp (fun b hb e => (own_of hd).apart h.row (by decide) b e hb)
  · refine (h.data j hj (by omega)).keep hkp (fun b hb e => ?_)
    exact List.pairwise_iff_getElem.1 hap k j hk hj (by omega) b e hb
theorem SI.drewN {Wt wr : World} {v : Option Addr} {m c : Nat} {os : List Op1} {k : Nat} (h : SI Wt v m c os k wr) (q : Nat) : SI Wt v m c os k (wr.drewN q) :=
  ⟨⟨h.below.os, h.below.tape, h.below.output, h.below.size, h.below.block⟩, h.row, h.data⟩

set_option maxRecDepth 100000 in
set_option maxHeartbeats 2000000 in
theorem options_any (a : Option Addr) (n cap : Nat) (xs : List Int) (w : World) (hn : xs.length = n) (hr : Rd w a xs) (hb : Byt xs) (hc : n ≤ cap) :
    Calls Try.prog 5 #[.slice a n cap] w fun e w' => e = .returned (.bool true) ∧ Below w.heap.size w w' := by
  have HN := Lib.hid hn
  have HR := Lib.hid hr
  have HB := Lib.hid hb
  have hstr := run_string_rd w cap hn hr hb
  have hstr' : (convert 24 9 (.slice a n cap)).run Try.prog w = .ok (.string (str xs)) w := hstr
  clear hn hr hb hstr
  by_cases h100 : 100 < n
  · clear hstr'
    go_enter Try.func5, Try.ntmps5
    go_wp2_with fail
    refine (works5_any _).mono ?_
    rintro e w1 ⟨rfl, hb1⟩
    have HB1 := Lib.hid hb1
    clear hb1
    go_wp2_with fail
    go_ret
    exact ⟨rfl, HB1.out⟩
  · go_enter Try.func5, Try.ntmps5
    go_wp2_with fail
    refine (r5Options_any n xs _ (by rw [HN.out]; exact Nat.le_refl _) HB.out (by omega)).mono ?_
    clear hstr'
    rintro e w1 ⟨hb1, ⟨v1, m1, c1, ys, hys, rfl, hyl, hrow1⟩ | ⟨hno, rfl⟩⟩
    · have HB1 := Lib.hid hb1
      have HYS := Lib.hid hys
      have HYL := Lib.hid hyl
      have HROW := Lib.hid hrow1
      have hm1 : m1 ≤ 100 := by have := opts_len hys; have := HN.out; omega
      clear hb1 hys hyl hrow1
      go_wp2_with fail
      go_loopw [5] (fun i wr => ∃ k : Nat, k ≤ 2 ∧ i = .int .i64 k ∧ Hid (Below w1.heap.size w1 wr)) (fun i _ => 2 - (intOf i).toNat)
      case atStart => exact ⟨0, by omega, rfl, Below.refl _ _⟩
      case round =>
        obtain ⟨t, ht, rfl, hbt⟩ := hrel
        rename World => wt
        by_cases hlt : t < 2
        · have hlt' : (t : Int) < 2 := by omega
          go_wp2_with fail
          refine (iOptions_any _ _ _ xs _ HN.out ((HR.out.below HB1.out).below hbt.out) HB.out (by omega) hc).mono ?_
          rintro e w2 ⟨hb2, ⟨v2, m2, c2, os, hos, rfl, hopts⟩ | ⟨hno, rfl⟩⟩
          · have hmm : m2 = m1 := by
              have h1 := HYS.out.symm.trans hos
              have h2 := congrArg List.length (Option.some.inj h1)
              rw [HYL.out, List.length_map, hopts.len] at h2
              exact h2.symm
            subst hmm
            have hys2 : ys = os.map Op1.at_ := Option.some.inj (HYS.out.symm.trans hos)
            have HS0 := Lib.hid (SI.start hopts hb2)
            have HAP := Lib.hid hopts.apart
            have HOL := Lib.hid hopts.len
            have HY2 := Lib.hid hys2
            clear hb2 hos hopts hys2
            go_wp2_with fail
            go_loopw [8] (fun i wr => ∃ k : Nat, k ≤ m2 ∧ i = .int .i64 k ∧ Hid (SI wt v2 m2 c2 os k wr)) (fun i _ => m2 - (intOf i).toNat)
            case atStart => exact ⟨0, Nat.zero_le _, rfl, HS0⟩
            case round =>
              obtain ⟨k, hk, rfl, hsi⟩ := hrel
              rename World => wi
              by_cases hlk : k < m2
              · have hko : k < os.length := by rw [HOL.out]; exact hlk
                have hky : k < ys.length := by rw [HYL.out]; exact hlk
                obtain ⟨f1, f2⟩ := flat_get os k hko
                obtain ⟨r1, r2⟩ := rcs_get ys k hky
                obtain ⟨g2, rfl, hcl⟩ := hsi.out.row.cell (by intro e; rw [e] at f1; simp at f1)
                have HWI : Hid (Below w1.heap.size w1 wi) := hbt.out.trans (hsi.out.below.mono hbt.out.size)
                obtain ⟨g1, rfl, hcr⟩ := (HROW.out.below HWI.out).cell (by intro e; rw [e] at r1; simp at r1)
                have hye : ys[k] = (os[k].k, os[k].xs) := by simp [HY2.out, Op1.at_]
                rw [hye] at r1 r2
                have d1 := hcl _ _ f1
                have d2 := hcl _ _ f2
                have d3 := hcr _ _ r1
                have d4 := hcr _ _ r2
                have HD := Lib.hid (hsi.out.data k hko (Nat.le_refl _))
                have HNX := Lib.hid (fun wr h => hsi.out.next (wr := wr) HAP.out hko h)
                have HMEM := Lib.hid (List.getElem_mem hko)
                obtain ⟨o, ho⟩ : ∃ o, os[k] = o := ⟨_, rfl⟩
                rw [ho] at d1 d2 d3 d4 HD HNX HMEM
                obtain ⟨ok, oa, on, oc, ox⟩ := o
                simp only at d1 d2 d3 d4 HD HNX HMEM
                rw [Nat.zero_add, Nat.mul_comm] at d1 d2 d3 d4
                have hOB : Byt ox := by
                  have h1 := opts_byt HB.out HYS.out (ok, ox) (by rw [HY2.out]; exact List.mem_map.2 ⟨⟨ok, oa, on, oc, ox⟩, HMEM.out, rfl⟩)
                  exact h1
                have hon : on ≤ 100 := by
                  have h1 := opts_dat HYS.out (ok, ox) (by rw [HY2.out]; exact List.mem_map.2 ⟨⟨ok, oa, on, oc, ox⟩, HMEM.out, rfl⟩)
                  have h2 := HD.out.len
                  have h3 := HN.out
                  simp only at h1
                  omega
                have hap2 : ¬ blk oa = some g2 := fun e => (own_of HD.out).apart hsi.out.row (by decide) g2 e rfl
                have HCELL : Hid (∀ wr, Inc wi wt.heap.size oa on oc wr → wr.cell? ⟨g2, k * 2 + 1, none⟩ = some (.slice oa on oc)) := fun wr ⟨_, _, hkp⟩ => by
                  rw [← d2]
                  exact World.cell?_of_block (hkp.block g2 (World.block_lt_of_cell? wi ⟨g2, k * 2 + 1, none⟩ d2) hap2)
                have hcv : ∀ q, (convert 24 9 (.slice oa on oc)).run Try.prog (wi.drewN q) = .ok (.string (str ox)) (wi.drewN q) := fun q => run_string_rd (wi.drewN q) oc HD.out.len HD.out.rd hOB
                clear f1 f2 r1 r2 hcl hcr hye ho hap2
                go_wp2_with fail
                go_quiet (fail)
                have HI0 : Hid (Inc wi wt.heap.size oa on oc (wi.drewN nq)) := ⟨ox, HD.out, ⟨rfl, rfl, rfl, Nat.le_refl _, fun _ _ _ => rfl⟩⟩
                clear d1 d2 d3 d4 hcv
                go_wp2_with fail
                go_loopw [9] (fun i wr => ∃ q : Nat, q ≤ on ∧ i = .int .i64 q ∧ Hid (Inc wi wt.heap.size oa on oc wr)) (fun i _ => on - (intOf i).toNat)
                case atStart => exact ⟨0, Nat.zero_le _, rfl, HI0⟩
                case round =>
                  obtain ⟨q, hq, rfl, hin⟩ := hrel
                  have hrc := HCELL.out _ hin.out
                  by_cases hlq : q < on
                  · obtain ⟨gd, z, rfl, hz, hf, hnext⟩ := hin.out.at_ hlq
                    have HX := Lib.hid hnext
                    clear hnext
                    go_wp2_with fail
                    go_roundw
                    case rel => exact ⟨q + 1, by omega, by go_num, HX.out _⟩
                    case measure => simp [intOf]; omega
                  · go_wp2_with fail
                    go_roundw
                    case rel => exact ⟨k + 1, by omega, by go_num, HNX.out _ hin.out⟩
                    case measure => simp [intOf]; omega
              · have HNB : Hid (Below w1.heap.size w1 wi) := hbt.out.trans (hsi.out.below.mono hbt.out.size)
                go_wp2_with fail
                go_roundw
                case rel => exact ⟨t + 1, by omega, by go_num, HNB⟩
                case measure => simp [intOf]; omega
          · exact absurd (HYS.out.symm.trans hno) (by simp)
        · have ht2 : t = 2 := by omega
          subst ht2
          go_wp2_with fail
          refine (works5_any _).mono ?_
          rintro e w2 ⟨rfl, hb2⟩
          have HB2 : Hid (Below w.heap.size w w2) := (HB1.out.trans (hbt.out.mono HB1.out.size)).trans (hb2.mono (HB1.out.trans (hbt.out.mono HB1.out.size)).size)
          clear hb2
          go_wp2_with fail
          go_ret
          exact ⟨rfl, HB2.out⟩
    · have HB1 := Lib.hid hb1
      have HNO := Lib.hid hno
      clear hb1 hno
      go_wp2_with fail
      go_loopw [5] (fun i wr => ∃ k : Nat, k ≤ 2 ∧ i = .int .i64 k ∧ Hid (Below w1.heap.size w1 wr)) (fun i _ => 2 - (intOf i).toNat)
      case atStart => exact ⟨0, by omega, rfl, Below.refl _ _⟩
      case round =>
        obtain ⟨t, ht, rfl, hbt⟩ := hrel
        rename World => wt
        by_cases hlt : t < 2
        · have hlt' : (t : Int) < 2 := by omega
          go_wp2_with fail
          refine (iOptions_any _ _ _ xs _ HN.out ((HR.out.below HB1.out).below hbt.out) HB.out (by omega) hc).mono ?_
          rintro e w2 ⟨hb2, ⟨v2, m2, c2, os, hos, rfl, hopts⟩ | ⟨hno, rfl⟩⟩
          · exact absurd (HNO.out.symm.trans hos) (by simp)
          · have HNB : Hid (Below w1.heap.size w1 w2) := hbt.out.trans (hb2.mono hbt.out.size)
            clear hb2 hno
            go_wp2_with fail
            go_loopw [8] (fun i wr => i = .int .i64 0 ∧ Hid (Below w1.heap.size w1 wr)) (fun _ _ => 0)
            case atStart => exact ⟨rfl, HNB⟩
            case round =>
              obtain ⟨rfl, hbw⟩ := hrel
              go_wp2_with fail
              go_roundw
              case rel => exact ⟨t + 1, by omega, by go_num, hbw⟩
              case measure => simp [intOf]; omega
        · have ht2 : t = 2 := by omega
          subst ht2
          go_wp2_with fail
          refine (works5_any _).mono ?_
          rintro e w2 ⟨rfl, hb2⟩
          have HB2 : Hid (Below w.heap.size w w2) := (HB1.out.trans (hbt.out.mono HB1.out.size)).trans (hb2.mono (HB1.out.trans (hbt.out.mono HB1.out.size)).size)
          clear hb2
          go_wp2_with fail
          go_ret
          exact ⟨rfl, HB2.out⟩
end Go.Proofs.Ytjnbnjdajkhkpaa

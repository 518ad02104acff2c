/-
  The contracts of Cmp and of Within. Conditions: sixteen bytes. (Made by gen_adcmp.py.)
-/
import Derived.Test.YtbnfmiopgjmppaaDoorAdPa
import Derived.Lib.BytesEntry
import Derived.Lib.Bytealg
namespace Go.Proofs.YtbnfmiopgjmppaaDoor
open Go.RowKit

theorem u8_of (x : Int) (h0 : 0 ≤ x) (h1 : x < 256) : (UInt8.ofNat x.toNat).toNat = x.toNat := by
  rw [UInt8.toNat_ofNat']
  omega
theorem cmp_lists : ∀ (xs ys : List Int), Byt xs → Byt ys → xs.length = ys.length → Lib.compareBytes (Lib.bytesOf xs) (Lib.bytesOf ys) = cmpL xs ys
  | [], [], _, _, _ => rfl
  | x :: xs, y :: ys, hx, hy, hl => by
    have ih := cmp_lists xs ys (fun z hz => hx z (by simp [hz])) (fun z hz => hy z (by simp [hz])) (by simpa using hl)
    have h1 := hx x (by simp)
    have h2 := hy y (by simp)
    show (if UInt8.ofNat x.toNat < UInt8.ofNat y.toNat then (-1 : Int) else if UInt8.ofNat y.toNat < UInt8.ofNat x.toNat then 1 else Lib.compareBytes (Lib.bytesOf xs) (Lib.bytesOf ys)) = _
    rw [ih, cmpL]
    have e1 : (UInt8.ofNat x.toNat < UInt8.ofNat y.toNat) ↔ x < y := by
      rw [UInt8.lt_iff_toNat_lt, u8_of x h1.1 h1.2, u8_of y h2.1 h2.2]; omega
    have e2 : (UInt8.ofNat y.toNat < UInt8.ofNat x.toNat) ↔ y < x := by
      rw [UInt8.lt_iff_toNat_lt, u8_of x h1.1 h1.2, u8_of y h2.1 h2.2]; omega
    by_cases ha : x < y
    · rw [if_pos (e1.2 ha), if_pos ha]
    · rw [if_neg (fun h => ha (e1.1 h)), if_neg ha]
      by_cases hb : y < x
      · rw [if_pos (e2.2 hb), if_pos hb]
      · rw [if_neg (fun h => hb (e2.1 h)), if_neg hb]
  | [], _ :: _, _, _, hl => by simp at hl
  | _ :: _, [], _, _, hl => by simp at hl
theorem bytes_of_row (w : World) (b off c : Nat) (xs : List Int) (hx : xs.length = 16) (hr : w.rangeAt b off (bv xs)) : (Extern.Bytes.bytesOf (.slice (some ⟨b, off, none⟩) 16 c)).run Tryd.prog w = .ok ⟨(Lib.bytesOf xs).toArray⟩ w := by
  have hl := Lib.run_loadBytesX (P := Tryd.prog) w xs ⟨b, off, none⟩ .empty (fun j x hj => by
    have hjl : j < xs.length := (List.getElem?_eq_some_iff.1 hj).1
    rw [Addr.add_lit]
    refine hr j _ ?_
    rw [bv_get xs j hjl, List.getD_eq_getElem?_getD, hj]
    rfl)
  rw [hx] at hl
  show (Extern.Bytes.loadBytes ⟨b, off, none⟩ 16 .empty).run Tryd.prog w = _
  rw [hl]
  congr 1
  apply ByteArray.ext
  show (#[] : Array UInt8) ++ (Lib.bytesOf xs).toArray = (Lib.bytesOf xs).toArray
  simp
/-- Loads under a guard. -/
theorem ldPg {ops : Array Oper} {rest : List Oper} {op : Oper} {a : Act} {w : World} {Q : Exit → Act → World → Prop} (x : Operand) (ho : op.op = .load 48 x) (hw : Region.wanted op (yielded ops a.tmps) = true) (b off : Nat) (hx : a.eval x = .pointer (some ⟨b, off, none⟩)) (s : Bool) (xs : List Int) (n : Int) (hl : xs.length = 16) (hc : w.rangeAt b off (pfl s xs n))
    (h : wpList Tryd.prog ops Q rest (a.put op.dst (.agg (pfl s xs n).toArray)) w) : wpList Tryd.prog ops Q (op :: rest) a w :=
  wpList_step fun K hK => by rw [if_pos hw]; exact wp_load_mid _ x ho b off hx (pfl s xs n) _ hc Tryd.underlying48 rfl (by rw [pfl_len s xs n hl]; exact infP) (hK _ _ h)
theorem ldAg {ops : Array Oper} {rest : List Oper} {op : Oper} {a : Act} {w : World} {Q : Exit → Act → World → Prop} (x : Operand) (ho : op.op = .load 24 x) (hw : Region.wanted op (yielded ops a.tmps) = true) (b off : Nat) (hx : a.eval x = .pointer (some ⟨b, off, none⟩)) (s : Bool) (xs : List Int) (hl : xs.length = 16) (hc : w.rangeAt b off (adl s xs))
    (h : wpList Tryd.prog ops Q rest (a.put op.dst (.agg (adl s xs).toArray)) w) : wpList Tryd.prog ops Q (op :: rest) a w :=
  wpList_step fun K hK => by rw [if_pos hw]; exact wp_load_mid _ x ho b off hx (adl s xs) _ hc Tryd.underlying24 rfl (by rw [adl_len s xs hl]; exact infA) (hK _ _ h)
theorem bCmp_any (w : World) (b o c b2 o2 c2 : Nat) (xs ys : List Int) (hx : xs.length = 16) (hy : ys.length = 16) (hbx : Byt xs) (hby : Byt ys) (hr : w.rangeAt b o (bv xs)) (hr2 : w.rangeAt b2 o2 (bv ys)) :
    Calls Tryd.prog 42 #[.slice (some ⟨b, o, none⟩) 16 c, .slice (some ⟨b2, o2, none⟩) 16 c2] w fun e w' => e = .returned (.int .i64 (cmpL xs ys)) ∧ w = w' := by
  have hcall : (callFunc 55 #[.slice (some ⟨b, o, none⟩) 16 c, .slice (some ⟨b2, o2, none⟩) 16 c2]).run Tryd.prog w = .ok (.value (.int .i64 (cmpL xs ys))) w := by
    rw [run_callFunc_extern Tryd.func55 (by kernel_rfl) (by kernel_rfl) (by kernel_rfl) (e := Extern.BytealgCompare.compare) (by kernel_rfl)]
    have h1 : (Extern.BytealgCompare.compare #[.slice (some ⟨b, o, none⟩) 16 c, .slice (some ⟨b2, o2, none⟩) 16 c2]).run Tryd.prog w = .ok (.int .i64 (cmpL xs ys)) w := by
      change Sem.run Tryd.prog (do pure (goInt (Extern.BytealgCompare.cmp (← Extern.Bytes.bytesOf (.slice (some ⟨b, o, none⟩) 16 c)) (← Extern.Bytes.bytesOf (.slice (some ⟨b2, o2, none⟩) 16 c2))))) w = _
      simp only [Sem.run_bind, bytes_of_row w b o c xs hx hr, bytes_of_row w b2 o2 c2 ys hy hr2, Sem.run_pure, Result.andThen_ok]
      rw [Lib.cmp_eq]
      show Result.ok (goInt (Lib.compareBytes (Lib.bytesOf xs) (Lib.bytesOf ys))) w = _
      rw [cmp_lists xs ys hbx hby (by rw [hx, hy])]
      rfl
    rw [h1]
    rfl
  go_enter Tryd.func42, Tryd.ntmps42
  go_wp2_with fail
  go_ret
  exact ⟨rfl, rfl⟩
set_option maxRecDepth 100000 in
set_option maxHeartbeats 4000000 in
theorem aCmp_any (s : Bool) (xs : List Int) (t : Bool) (ys : List Int) (w : World) (hl : xs.length = 16) (hm : ys.length = 16) (hx : Byt xs) (hy : Byt ys) : Calls Tryd.prog 19 #[.agg (adl s xs).toArray, .agg (adl t ys).toArray] w (Gives w (.int .i64 (cmpA s xs t ys))) := by
  have HL := Lib.hid hl
  have HM := Lib.hid hm
  have HX := Lib.hid hx
  have HY := Lib.hid hy
  clear hl hm hx hy
  obtain ⟨w1, hw1⟩ : ∃ x, (w.alloc (.cells (adl s xs).toArray 24)).alloc (.cells (adl t ys).toArray 24) = x := ⟨_, rfl⟩
  have hr1 : World.rangeAt w1 w.heap.size 0 (adl s xs) := by rw [← hw1]; exact range_kept (bel1 _ _) (adl_range w s xs _)
  have hr2 : World.rangeAt w1 (w.heap.size + 1) 0 (adl t ys) := by
    rw [← hw1]
    have := adl_range (w.alloc (.cells (adl s xs).toArray 24)) t ys 24
    simpa using this
  have HB : Hid (Below w.heap.size w w1) := by rw [← hw1]; exact ((Below.refl _ _).alloc (Nat.le_refl _) _).alloc (by simp) _
  have HRR : Hid (World.rangeAt w1 w.heap.size 0 (adl s xs) ∧ World.rangeAt w1 (w.heap.size + 1) 0 (adl t ys)) := ⟨hr1, hr2⟩
  have c1 := adl_six hr1
  have c2 := adl_six hr2
  clear hr1 hr2
  cases s <;> cases t
  · have HC : Hid (cmpA false xs false ys = cmpL xs ys) := by show _ = _; unfold cmpA; rw [if_pos rfl]
    go_enter Tryd.func19, Tryd.ntmps19
    go_wp2_with fail
    refine wp_region_held_drew (S := fun w' => World.rangeAt w' w.heap.size 0 (adl false xs) ∧ World.rangeAt w' (w.heap.size + 1) 0 (adl false ys)) (by kernel_rfl) HRR.out (fun hS => ?_)
    refine tk 0 11 (.pointer (some ⟨w.heap.size, 1, none⟩)) rfl rfl (by kernel_rfl) (by kernel_rfl) (by kernel_rfl) (fun _ _ _ h => h) (Or.inl ⟨by rfl, fun w' h' => ?_⟩) hS ?_
    · go_simp
    try simp only [Act.put, List.setIfInBounds_toArray, List.set_cons_zero, List.set_cons_succ]
    refine tk 1 12 (.slice (some ⟨w.heap.size, 1, none⟩) 16 16) rfl rfl (by kernel_rfl) (by kernel_rfl) (by kernel_rfl) (fun _ _ _ h => h) (Or.inl ⟨by rfl, fun w' h' => ?_⟩) hS ?_
    · have h1 := slS_all w.heap.size 1 w'
      go_simp
    try simp only [Act.put, List.setIfInBounds_toArray, List.set_cons_zero, List.set_cons_succ]
    refine tk 2 13 (.pointer (some ⟨(w.heap.size + 1), 1, none⟩)) rfl rfl (by kernel_rfl) (by kernel_rfl) (by kernel_rfl) (fun _ _ _ h => h) (Or.inl ⟨by rfl, fun w' h' => ?_⟩) hS ?_
    · go_simp
    try simp only [Act.put, List.setIfInBounds_toArray, List.set_cons_zero, List.set_cons_succ]
    refine tk 3 14 (.slice (some ⟨w.heap.size + 1, 1, none⟩) 16 16) rfl rfl (by kernel_rfl) (by kernel_rfl) (by kernel_rfl) (fun _ _ _ h => h) (Or.inl ⟨by rfl, fun w' h' => ?_⟩) hS ?_
    · have h1 := slS_all (w.heap.size + 1) 1 w'
      go_simp
    try simp only [Act.put, List.setIfInBounds_toArray, List.set_cons_zero, List.set_cons_succ]
    refine wpAnyH_ready (rs := [4]) (by kernel_rfl) (by simp) (AllReadyH.cons rfl (fun K hK => ?_) AllReadyH.nil)
    rw [if_pos (by rfl)]
    go_wp2_with fail
    refine (bCmp_any w1.drew w.heap.size 1 16 (w.heap.size + 1) 1 16 xs ys HL.out HM.out HX.out HY.out (show World.rangeAt w1.drew _ _ _ from adl_bytes HRR.out.1) (show World.rangeAt w1.drew _ _ _ from adl_bytes HRR.out.2)).mono ?_
    rintro e w2 ⟨rfl, rfl⟩
    clear hS
    refine hK.out _ _ (HRR.out) (fun hS => ?_)
    clear hK K
    try simp only [Act.put, List.setIfInBounds_toArray, List.set_cons_zero, List.set_cons_succ]
    refine tk 5 4 (.int .i64 (cmpL xs ys)) rfl rfl (by kernel_rfl) (by kernel_rfl) (by kernel_rfl) (fun _ _ _ h => h) (Or.inl ⟨by rfl, fun w' h' => ?_⟩) hS ?_
    · go_simp
    refine wpAnyH_done (by kernel_rfl) ?_ _
    clear hS
    go_wp2_with fail
    go_ret
    exact ⟨by rw [HC.out]; rfl, HB.out.drew⟩
  · have HC : Hid (cmpA false xs true ys = -1) := by show _ = _; unfold cmpA; simp
    go_enter Tryd.func19, Tryd.ntmps19
    go_wp2_with fail
    go_ret
    exact ⟨by rw [HC.out]; rfl, HB.out⟩
  · have HC : Hid (cmpA true xs false ys = 1) := by show _ = _; unfold cmpA; simp
    go_enter Tryd.func19, Tryd.ntmps19
    go_wp2_with fail
    go_ret
    exact ⟨by rw [HC.out]; rfl, HB.out⟩
  · have HC : Hid (cmpA true xs true ys = cmpL xs ys) := by show _ = _; unfold cmpA; rw [if_pos rfl]
    go_enter Tryd.func19, Tryd.ntmps19
    go_wp2_with fail
    refine wp_region_held_drew (S := fun w' => World.rangeAt w' w.heap.size 0 (adl true xs) ∧ World.rangeAt w' (w.heap.size + 1) 0 (adl true ys)) (by kernel_rfl) HRR.out (fun hS => ?_)
    refine tk 0 11 (.pointer (some ⟨w.heap.size, 1, none⟩)) rfl rfl (by kernel_rfl) (by kernel_rfl) (by kernel_rfl) (fun _ _ _ h => h) (Or.inl ⟨by rfl, fun w' h' => ?_⟩) hS ?_
    · go_simp
    try simp only [Act.put, List.setIfInBounds_toArray, List.set_cons_zero, List.set_cons_succ]
    refine tk 1 12 (.slice (some ⟨w.heap.size, 1, none⟩) 16 16) rfl rfl (by kernel_rfl) (by kernel_rfl) (by kernel_rfl) (fun _ _ _ h => h) (Or.inl ⟨by rfl, fun w' h' => ?_⟩) hS ?_
    · have h1 := slS_all w.heap.size 1 w'
      go_simp
    try simp only [Act.put, List.setIfInBounds_toArray, List.set_cons_zero, List.set_cons_succ]
    refine tk 2 13 (.pointer (some ⟨(w.heap.size + 1), 1, none⟩)) rfl rfl (by kernel_rfl) (by kernel_rfl) (by kernel_rfl) (fun _ _ _ h => h) (Or.inl ⟨by rfl, fun w' h' => ?_⟩) hS ?_
    · go_simp
    try simp only [Act.put, List.setIfInBounds_toArray, List.set_cons_zero, List.set_cons_succ]
    refine tk 3 14 (.slice (some ⟨w.heap.size + 1, 1, none⟩) 16 16) rfl rfl (by kernel_rfl) (by kernel_rfl) (by kernel_rfl) (fun _ _ _ h => h) (Or.inl ⟨by rfl, fun w' h' => ?_⟩) hS ?_
    · have h1 := slS_all (w.heap.size + 1) 1 w'
      go_simp
    try simp only [Act.put, List.setIfInBounds_toArray, List.set_cons_zero, List.set_cons_succ]
    refine wpAnyH_ready (rs := [4]) (by kernel_rfl) (by simp) (AllReadyH.cons rfl (fun K hK => ?_) AllReadyH.nil)
    rw [if_pos (by rfl)]
    go_wp2_with fail
    refine (bCmp_any w1.drew w.heap.size 1 16 (w.heap.size + 1) 1 16 xs ys HL.out HM.out HX.out HY.out (show World.rangeAt w1.drew _ _ _ from adl_bytes HRR.out.1) (show World.rangeAt w1.drew _ _ _ from adl_bytes HRR.out.2)).mono ?_
    rintro e w2 ⟨rfl, rfl⟩
    clear hS
    refine hK.out _ _ (HRR.out) (fun hS => ?_)
    clear hK K
    try simp only [Act.put, List.setIfInBounds_toArray, List.set_cons_zero, List.set_cons_succ]
    refine tk 5 4 (.int .i64 (cmpL xs ys)) rfl rfl (by kernel_rfl) (by kernel_rfl) (by kernel_rfl) (fun _ _ _ h => h) (Or.inl ⟨by rfl, fun w' h' => ?_⟩) hS ?_
    · go_simp
    refine wpAnyH_done (by kernel_rfl) ?_ _
    clear hS
    go_wp2_with fail
    go_ret
    exact ⟨by rw [HC.out]; rfl, HB.out.drew⟩

def wiP (s : Bool) (xs : List Int) (m : Int) (t : Bool) (ys : List Int) (n : Int) : Bool := prt s xs m && phs t ys n s xs && decide (n ≤ m)
set_option maxRecDepth 100000 in
set_option maxHeartbeats 4000000 in
theorem aWithin_any (s : Bool) (xs : List Int) (m : Int) (t : Bool) (ys : List Int) (n : Int) (w : World) (hl : xs.length = 16) (hm : ys.length = 16) (hx : Byt xs) : Calls Tryd.prog 30 #[.agg (pfl s xs m).toArray, .agg (pfl t ys n).toArray] w (Gives w (.bool (wiP s xs m t ys n))) := by
  have HL := Lib.hid hl
  have HM := Lib.hid hm
  have HX := Lib.hid hx
  clear hl hm hx
  obtain ⟨w1, hw1⟩ : ∃ x, (w.alloc (.cells (pfl s xs m).toArray 48)).alloc (.cells (pfl t ys n).toArray 48) = x := ⟨_, rfl⟩
  have hr1 : World.rangeAt w1 w.heap.size 0 (pfl s xs m) := by rw [← hw1]; exact range_kept (bel1 _ _) (pfl_range w s xs m _)
  have hr2 : World.rangeAt w1 (w.heap.size + 1) 0 (pfl t ys n) := by
    rw [← hw1]
    have := pfl_range (w.alloc (.cells (pfl s xs m).toArray 48)) t ys n 48
    simpa using this
  have HB : Hid (Below w.heap.size w w1) := by rw [← hw1]; exact ((Below.refl _ _).alloc (Nat.le_refl _) _).alloc (by simp) _
  have HR1 := Lib.hid hr1
  have HR2 := Lib.hid hr2
  clear hr1 hr2
  go_enter Tryd.func30, Tryd.ntmps30
  go_wp2_with (refine ldP (.tmp 2) rfl rfl w.heap.size 0 rfl s xs m HL.out (by with_reducible exact HR1.out) ?_)
  refine (pRight_any s xs m _ HL.out HX.out).mono ?_
  rintro e w2 ⟨rfl, hb2⟩
  have HR1b := Lib.hid (range_kept hb2 HR1.out)
  have HR2b := Lib.hid (range_kept hb2 HR2.out)
  have HB2 := Lib.hid (HB.out.trans (hb2.mono HB.out.size))
  obtain ⟨r, hr⟩ : ∃ r, prt s xs m = r := ⟨_, rfl⟩
  rw [hr]
  have HRR := Lib.hid hr
  clear hb2 hr HR1 HR2 HB hw1
  cases r
  · have HC : Hid (wiP s xs m t ys n = false) := by show _ = _; unfold wiP; rw [HRR.out]; rfl
    go_wp2_with fail
    go_ret
    exact ⟨by rw [HC.out]; rfl, HB2.out⟩
  · go_wp2_with (first
      | (refine ldPg (.tmp 3) rfl (by rfl) (w.heap.size + 1) 0 rfl t ys n HM.out (by with_reducible exact HR2b.out) ?_)
      | (refine ldAg (.tmp 9) rfl (by rfl) w.heap.size 0 rfl s xs HL.out (by with_reducible exact pfl_adl HR1b.out) ?_))
    refine (pHas_any t ys n s xs _ HM.out HL.out HX.out).mono ?_
    rintro e w3 ⟨rfl, hb3⟩
    have hc1 := pfl_n (range_kept hb3 HR1b.out) HL.out
    have hc2 := pfl_n (range_kept hb3 HR2b.out) HM.out
    have HB3 := Lib.hid (HB2.out.trans (hb3.mono HB2.out.size))
    obtain ⟨q, hq⟩ : ∃ q, phs t ys n s xs = q := ⟨_, rfl⟩
    rw [hq]
    have HQ := Lib.hid hq
    clear hb3 hq
    cases q
    · have HC : Hid (wiP s xs m t ys n = false) := by show _ = _; unfold wiP; rw [HRR.out, HQ.out]; rfl
      go_wp2_with fail
      go_ret
      exact ⟨by rw [HC.out]; rfl, HB3.out⟩
    · have HC : Hid (wiP s xs m t ys n = decide (n ≤ m)) := by show _ = _; unfold wiP; rw [HRR.out, HQ.out]; rfl
      by_cases hnm : n ≤ m
      · go_wp2_with fail
        go_ret
        exact ⟨by rw [HC.out, decide_eq_true (by omega : n ≤ m)]; rfl, HB3.out⟩
      · have hnm2 : m < n := by omega
        go_wp2_with fail
        go_ret
        exact ⟨by rw [HC.out, decide_eq_false (by omega : ¬ n ≤ m)]; rfl, HB3.out⟩
end Go.Proofs.YtbnfmiopgjmppaaDoor

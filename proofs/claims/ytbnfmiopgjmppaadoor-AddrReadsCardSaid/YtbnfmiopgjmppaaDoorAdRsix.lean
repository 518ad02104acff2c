/-
  The contract of readSix. Conditions: a text of at most 1000000 bytes; the library's variables hold what they should. (Made by gen_adrsix2.py.)
-/
import Derived.Test.YtbnfmiopgjmppaaDoorAdRsx
namespace Go.Proofs.YtbnfmiopgjmppaaDoor
open Go.RowKit

theorem six_plain2 {l : Tx} (hc : (Lib.cut l [58, 58]).2.2 = false) : (∀ t, steps stp6 [] (cuts 58 l) = some t → t.length = 16 → ∃ gs, parse6 l = some gs ∧ gs.length = 8 ∧ t = gbI gs) ∧
    ((steps stp6 [] (cuts 58 l) = none ∨ ∃ t, steps stp6 [] (cuts 58 l) = some t ∧ t.length ≠ 16) → parse6 l = none) := by
  by_cases hne : l = []
  · subst hne
    refine ⟨fun t h hl => ?_, fun _ => by decide⟩
    have e : steps stp6 [] (cuts 58 []) = none := by decide
    rw [e] at h
    cases h
  · exact six_plain hc hne
theorem Own.drewN {w : World} {base : Nat} {a : Option Addr} {n cap : Nat} {xs : List Int} (h : Own w base a n cap xs) (k : Nat) : Own (w.drewN k) base a n cap xs :=
  h.keep (S := fun _ => False) (Kept.of_below (B := w.heap.size) (w' := w.drewN k) ⟨rfl, rfl, rfl, Nat.le_refl _, fun _ _ => rfl⟩ (fun i hi hi' => by omega)) (fun _ _ => id)
theorem read_none {w w' : World} {o : Option (List Nat)} (ho : o = none) (hb : Below w.heap.size w w') (a : Option Addr) (n cap : Nat) : ReadR w o (.returned (.tuple #[.slice a n cap, .bool false])) w' :=
  ⟨a, n, cap, by rw [ho]; rfl, hb, fun r' hr' => by rw [ho] at hr'; cases hr'⟩
theorem read_gs {w w' : World} {l : Tx} {gs : List Nat} (hp : parse6 l = some gs) (_hg : gs.length = 8) (hb : Below w.heap.size w w') {a : Option Addr} {n cap base : Nat} {t : List Int} (ho : Own w' base a n cap t) (ht : t = gbI gs) : ReadR w ((parse6 l).map gby) (.returned (.tuple #[.slice a n cap, .bool true])) w' := by
  refine ⟨a, n, cap, by rw [hp]; rfl, hb, fun r' hr' => ?_⟩
  rw [hp] at hr'
  obtain rfl := Option.some.inj hr'
  have hl := ho.len
  rw [ht] at hl
  refine ⟨by rw [← hl]; simp [gbI], ?_, ho.le.1⟩
  have h := ho.rd
  rw [ht] at h
  exact h

set_option maxRecDepth 100000 in
set_option maxHeartbeats 8000000 in
theorem aReadSix_any (l : Tx) (w : World) (hg : Gl w) (hl : l.length ≤ 1000000) : Calls Tryd.prog 44 #[.string ⟨l.toArray⟩] w (ReadR w ((parse6 l).map gby)) := by
  have HG := Lib.hid hg
  have HL := Lib.hid hl
  clear hg hl
  obtain ⟨mx, hm⟩ := (HG.out.below (bel1 w (.cells #[.slice none 0 0] 25))).max
  have HM := Lib.hid hm
  have HS : Hid ((⟨l.toArray⟩ : ByteArray).size < 4294967281) := by have := HL.out; show _ < _; simp only [ByteArray.size, List.size_toArray]; omega
  clear hm
  go_enter Tryd.func44, Tryd.ntmps44
  go_wp2_with fail
  refine (Tryd.strings_Cut ⟨l.toArray⟩ ⟨#[58, 58]⟩ mx _ HS.out HM.out).mono ?_
  rintro e w1 ⟨rfl, nn, rfl⟩
  have e1 : (⟨l.toArray⟩ : ByteArray).data.toList = l := by simp
  have e2 : (⟨#[58, 58]⟩ : ByteArray).data.toList = [58, 58] := rfl
  rw [e1, e2]
  clear e1 e2
  have HI : Hid (I4 w w.heap.size 16 [] ((w.alloc (.cells #[.slice none 0 0] 25)).drewN nn)) := ⟨(Acc.new w).drewN nn, bdN (bel1 _ _) nn, Nat.le_refl _, by simp⟩
  obtain ⟨wr, hwr⟩ : ∃ x, (w.alloc (.cells #[.slice none 0 0] 25)).drewN nn = x := ⟨_, rfl⟩
  rw [hwr] at HI ⊢
  clear hwr HM HS
  obtain ⟨x, hx⟩ : ∃ x, (Lib.cut l [58, 58]).1 = x := ⟨_, rfl⟩
  obtain ⟨y, hy⟩ : ∃ y, (Lib.cut l [58, 58]).2.1 = y := ⟨_, rfl⟩
  obtain ⟨b, hb⟩ : ∃ b, (Lib.cut l [58, 58]).2.2 = b := ⟨_, rfl⟩
  have hxl : x.length ≤ l.length ∧ y.length ≤ l.length := by
    rw [← hx, ← hy]
    unfold Lib.cut
    split
    · simp; omega
    · simp
  have HXL : Hid (x.length ≤ 1000000) := by have := HL.out; show _ ≤ _; omega
  have HYL : Hid (y.length ≤ 1000000) := by have := HL.out; show _ ≤ _; omega
  rw [hx, hy, hb]
  have HBB := Lib.hid hb
  have HCT : Hid (Lib.cut l [58, 58] = (x, y, b)) := by show _ = _; rw [← hx, ← hy, ← hb]
  clear hx hy hb hxl
  cases b
  · go_wp2_with fail
    refine (aReadParts_any 58 (.pointer (some ⟨w.heap.size, 0, none⟩)) 58 stp6 (I4 w w.heap.size 16) (J4 w w.heap.size) w 1000000 ent_six HG.out (fun _ _ h => h.2.1) (fun s wr n h => ⟨h.1.drewN n, bdN h.2.1 n, h.2.2⟩) (six_each w HG.out w.heap.size) l [] _ HI.out HL.out (by omega)).mono ?_
    rintro e w1 ⟨ok, rfl, hk⟩
    rcases hk with ⟨t, hs, rfl, ha, hb, _, ht⟩ | ⟨hs, rfl, ⟨ys, ha⟩, hb⟩
    · obtain ⟨a, n, cap, hc, ho⟩ := ha.cell
      have HO := Lib.hid ho
      have HB := Lib.hid hb
      by_cases h16 : n = 16
      · subst h16
        have HP := Lib.hid ((six_plain2 HBB.out).1 t hs ho.len)
        clear hs ha hb ho
        go_wp2_with fail
        go_quiet (fail)
        go_wp2_with fail
        go_ret2
        obtain ⟨gs, hp, hg8, rfl⟩ := HP.out
        exact read_gs hp hg8 (bdN HB.out _) (HO.out.drewN _) rfl
      · have HP : Hid ((parse6 l).map gby = none) := by show _ = _; rw [(six_plain2 HBB.out).2 (.inr ⟨t, hs, by rw [ho.len]; exact h16⟩)]; rfl
        have h16i : ((n : Int) == 16) = false := by simp; omega
        have h16j : ¬ ((n : Int) = 16) := by omega
        clear hs ha hb ho
        go_wp2_with fail
        go_quiet (fail)
        go_wp2_with fail
        go_ret2
        exact read_none HP.out (bdN HB.out _) _ _ _
    · obtain ⟨a, n, cap, hc, ho⟩ := ha.cell
      have HB := Lib.hid hb
      have HP : Hid ((parse6 l).map gby = none) := by show _ = _; rw [(six_plain2 HBB.out).2 (.inl hs)]; rfl
      clear hs ha hb ho
      go_wp2_with fail
      go_quiet (fail)
      go_wp2_with fail
      go_ret2
      exact read_none HP.out (bdN HB.out _) _ _ _
  · have HCUT := HCT
    by_cases hx : x = []
    · have hxe : x.isEmpty = true := by rw [hx]; rfl
      obtain ⟨t1, ht1⟩ : ∃ t : List Int, ([] : List Int) = t := ⟨_, rfl⟩
      have HG1 : Hid (gst [] x = some t1) := by show _ = _; unfold gst; rw [if_pos hx, ht1]
      rw [ht1] at HI
      clear hx ht1
      obtain ⟨a1, n1, cap1, hc1, ho1⟩ := HI.out.1.cell
      have HLN1 : Hid (t1.length = n1) := ho1.len
      have n1b : n1 ≤ 16 := by rw [← ho1.len]; exact HI.out.2.2.2
      by_cases hy : y = []
      · have hye : y.isEmpty = true := by rw [hy]; rfl
        have HG2 : Hid (gst t1 y = some t1) := by show _ = _; unfold gst; rw [if_pos hy]
        have HB2 := Lib.hid HI.out.2.1
        have hc2 := hc1
        have ho2 := ho1
        have e0 : n1 ≤ 16 := n1b
        clear ho1 hy hc1
        have HC2 := Lib.hid hc2
        have HO2 := Lib.hid ho2
        have HLN2 : Hid (t1.length = n1) := ho2.len
        by_cases h16 : n1 = 16
        · have HP : Hid ((parse6 l).map gby = none) := by
            show _ = _
            rw [six_found_no HCUT.out (.inr ⟨t1, HG1.out, .inr ⟨t1, HG2.out, by rw [HLN2.out, h16]⟩⟩)]
            rfl
          subst h16
          clear ho2 HC2 HO2
          go_wp2_with fail
          go_ret2
          exact read_none HP.out HB2.out _ _ _
        · obtain ⟨gs, hp1, hp2, hp3, hp4, hp5⟩ := six_found HCUT.out HG1.out HG2.out (by rw [HLN2.out]; exact h16)
          have HPS : Hid (parse6 l = some gs ∧ gs.length = 8 ∧ t1.take t1.length ++ zs (16 - t1.length) ++ t1.drop t1.length = gbI gs) := ⟨hp1, hp2, hp5⟩
          have n16 : n1 < 16 := by rw [← HLN2.out]; exact hp4
          have HLE : Hid (n1 ≤ n1) := by have h1 := HLN1.out; have h2 := HLN2.out; show n1 ≤ n1; omega
          have h16i : ((n1 : Int) == 16) = false := by simp; omega
          have h16j : ¬ ((n1 : Int) = 16) := by omega
          obtain ⟨m, hm⟩ : ∃ m, 16 - n1 = m := ⟨_, rfl⟩
          have HMM := Lib.hid hm
          have HM0 : Hid (0 < m) := by show 0 < m; omega
          have HQ : Hid (IntKind.i64.wrap (16 - (n1 : Int)) = (m : Int)) := by show _ = _; rw [IntKind.wrap_i64]; omega
          have HCS : Hid (w.heap.size < wr.heap.size) := (World.block_lt_of_cell? wr ⟨w.heap.size, 0, none⟩ HC2.out)
          have m16 : m ≤ 16 := by omega
          clear hp1 hp2 hp3 hp4 hp5 ho2 hm
          go_wp2_with fail
          refine wp_region_held_drew (S := fun w' => World.cell? w' ⟨w.heap.size, 0, none⟩ = some (.slice a1 n1 cap1)) (by kernel_rfl) HC2.out (fun hS => ?_)
          refine tk 0 53 (.slice a1 n1 cap1) rfl rfl (by kernel_rfl) (by kernel_rfl) (by kernel_rfl) (fun _ _ _ h => h) (Or.inl ⟨by rfl, fun w' h' => ?_⟩) hS ?_
          · have hc := h'
            go_simp
          try simp only [Act.put, List.setIfInBounds_toArray, List.set_cons_zero, List.set_cons_succ]
          refine tk 1 54 (.int .i64 (n1 : Int)) rfl rfl (by kernel_rfl) (by kernel_rfl) (by kernel_rfl) (fun _ _ _ h => h) (Or.inl ⟨by rfl, fun w' h' => ?_⟩) hS ?_
          · go_simp
          try simp only [Act.put, List.setIfInBounds_toArray, List.set_cons_zero, List.set_cons_succ]
          refine tk 2 55 (.slice a1 n1 cap1) rfl rfl (by kernel_rfl) (by kernel_rfl) (by kernel_rfl) (fun _ _ _ h => h) (Or.inl ⟨by rfl, fun w' h' => ?_⟩) hS ?_
          · have hc := h'
            go_simp
          try simp only [Act.put, List.setIfInBounds_toArray, List.set_cons_zero, List.set_cons_succ]
          refine tk 3 56 (.int .i64 (n1 : Int)) rfl rfl (by kernel_rfl) (by kernel_rfl) (by kernel_rfl) (fun _ _ _ h => h) (Or.inl ⟨by rfl, fun w' h' => ?_⟩) hS ?_
          · go_simp
          try simp only [Act.put, List.setIfInBounds_toArray, List.set_cons_zero, List.set_cons_succ]
          refine tk 4 57 (.int .i64 (m : Int)) rfl rfl (by kernel_rfl) (by kernel_rfl) (by kernel_rfl) (fun _ _ _ h => h) (Or.inl ⟨by rfl, fun w' h' => ?_⟩) hS ?_
          · have q := HQ.out
            go_simp
          try simp only [Act.put, List.setIfInBounds_toArray, List.set_cons_zero, List.set_cons_succ]
          refine wpAnyH_ready (rs := [5]) (by kernel_rfl) (by simp) (AllReadyH.cons rfl (fun K hK => ?_) AllReadyH.nil)
          rw [if_pos (by rfl)]
          obtain ⟨w5, hmk, hz, hb5, hsz5⟩ := run_mk_b wr.drew m (by omega)
          obtain ⟨g5, hg5⟩ : ∃ g, wr.drew.heap.size = g := ⟨_, rfl⟩
          rw [hg5] at hmk hz hsz5
          have HG5 : Hid (wr.heap.size = g5) := hg5
          have HZ := Lib.hid hz
          have HSZ := Lib.hid hsz5
          have HC5 := Lib.hid (cell_kept (undrew hb5) HC2.out)
          have HO5 : Hid (Own w5 (w.heap.size + 1) a1 n1 cap1 t1) := HO2.out.keep (S := fun _ => False) (Kept.of_below (B := wr.heap.size) (undrew hb5) (fun i hi hi' => by omega)) (fun _ _ => id)
          have HB5 := Lib.hid (HB2.out.trans ((undrew hb5).mono HB2.out.size))
          have HNE : Hid (blk a1 ≠ some g5) := fun e => by have h1 := (HO2.out.blk_ge g5 e).2; have h2 : wr.drew.heap.size = wr.heap.size := rfl; omega
          refine wp_makeA (.tmp 57) (.tmp 57) 25 rfl _ _ rfl rfl hmk ?_
          clear hmk hz hb5 hsz5 hg5
          clear hS
          refine hK.out _ _ (HC5.out) (fun hS => ?_)
          clear hK K
          try simp only [Act.put, List.setIfInBounds_toArray]
          refine wpAnyH_ready (rs := [6]) (by kernel_rfl) (by simp) (AllReadyH.cons rfl (fun K hK => ?_) AllReadyH.nil)
          rw [if_pos (by rfl)]
          go_wp2_with fail
          refine (sIns_any w5 (w.heap.size + 1) g5 HO5.out n1 HLE.out g5 m (zs m) HM0.out HZ.out (by omega) (by have h1 := HSZ.out; have h2 := HCS.out; have h3 := HG5.out; omega) HNE.out).mono ?_
          rintro e w6 ⟨a6, n6, cap6, rfl, ho6, hk6⟩
          have HO6 := Lib.hid ho6
          have HB6 : Hid (Below w.heap.size w w6) := HB5.out.trans (hk6.below (by have := HB5.out.size; omega) (fun k hk => by have := (HO5.out.blk_ge k hk).1; omega))
          have HC6 : Hid (w6.cell? ⟨w.heap.size, 0, none⟩ = some (.slice a1 n1 cap1)) := by
            show _ = _
            rw [← HC5.out]
            exact World.cell?_of_block (hk6.block w.heap.size (World.block_lt_of_cell? w5 ⟨w.heap.size, 0, none⟩ HC5.out) (fun hk => by have := (HO5.out.blk_ge _ hk).1; omega))
          clear ho6 hk6
          clear hS
          refine hK.out _ _ (HC6.out) (fun hS => ?_)
          clear hK K
          try simp only [Act.put, List.setIfInBounds_toArray, List.set_cons_zero, List.set_cons_succ]
          refine tk 7 2 (.slice a6 n6 cap6) rfl rfl (by kernel_rfl) (by kernel_rfl) (by kernel_rfl) (fun _ _ _ h => h) (Or.inl ⟨by rfl, fun w' h' => ?_⟩) hS ?_
          · go_simp
          try simp only [Act.put, List.setIfInBounds_toArray, List.set_cons_zero, List.set_cons_succ]
          refine tk 8 3 (.bool true) rfl rfl (by kernel_rfl) (by kernel_rfl) (by kernel_rfl) (fun _ _ _ h => h) (Or.inl ⟨by rfl, fun w' h' => ?_⟩) hS ?_
          · go_simp
          refine wpAnyH_done (by kernel_rfl) ?_ _
          clear hS
          go_wp2_with fail
          go_ret2
          exact read_gs HPS.out.1 HPS.out.2.1 HB6.out HO6.out (by rw [← HPS.out.2.2, ← HLN1.out, ← HMM.out, HLN2.out])
      · have hye : y.isEmpty = false := by cases y with
          | nil => exact absurd rfl hy
          | cons => rfl
        have HY := Lib.hid hy
        clear hy ho1
        go_wp2_with fail
        refine (aReadParts_any 58 (.pointer (some ⟨w.heap.size, 0, none⟩)) 58 stp6 (I4 w w.heap.size 16) (J4 w w.heap.size) w 1000000 ent_six HG.out (fun _ _ h => h.2.1) (fun s wr n h => ⟨h.1.drewN n, bdN h.2.1 n, h.2.2⟩) (six_each w HG.out w.heap.size) y t1 _ HI.out HYL.out (by omega)).mono ?_
        rintro e w4 ⟨ok, rfl, hk⟩
        rcases hk with ⟨t2, hs, rfl, hi2⟩ | ⟨hs, rfl, _, hb⟩
        · have HG2 : Hid (gst t1 y = some t2) := by show _ = _; unfold gst; rw [if_neg HY.out]; exact hs
          have HB2 := Lib.hid hi2.2.1
          obtain ⟨a2, n2, cap2, hc2, ho2⟩ := hi2.1.cell
          have e0 : n2 ≤ 16 := by rw [← ho2.len]; exact hi2.2.2.2
          clear hs hi2 hc1
          have HC2 := Lib.hid hc2
          have HO2 := Lib.hid ho2
          have HLN2 : Hid (t2.length = n2) := ho2.len
          by_cases h16 : n2 = 16
          · have HP : Hid ((parse6 l).map gby = none) := by
              show _ = _
              rw [six_found_no HCUT.out (.inr ⟨t1, HG1.out, .inr ⟨t2, HG2.out, by rw [HLN2.out, h16]⟩⟩)]
              rfl
            subst h16
            clear ho2 HC2 HO2
            go_wp2_with fail
            go_ret2
            exact read_none HP.out HB2.out _ _ _
          · obtain ⟨gs, hp1, hp2, hp3, hp4, hp5⟩ := six_found HCUT.out HG1.out HG2.out (by rw [HLN2.out]; exact h16)
            have HPS : Hid (parse6 l = some gs ∧ gs.length = 8 ∧ t2.take t1.length ++ zs (16 - t2.length) ++ t2.drop t1.length = gbI gs) := ⟨hp1, hp2, hp5⟩
            have n16 : n2 < 16 := by rw [← HLN2.out]; exact hp4
            have HLE : Hid (n1 ≤ n2) := by have h1 := HLN1.out; have h2 := HLN2.out; show n1 ≤ n2; omega
            have h16i : ((n2 : Int) == 16) = false := by simp; omega
            have h16j : ¬ ((n2 : Int) = 16) := by omega
            obtain ⟨m, hm⟩ : ∃ m, 16 - n2 = m := ⟨_, rfl⟩
            have HMM := Lib.hid hm
            have HM0 : Hid (0 < m) := by show 0 < m; omega
            have HQ : Hid (IntKind.i64.wrap (16 - (n2 : Int)) = (m : Int)) := by show _ = _; rw [IntKind.wrap_i64]; omega
            have HCS : Hid (w.heap.size < w4.heap.size) := (World.block_lt_of_cell? w4 ⟨w.heap.size, 0, none⟩ HC2.out)
            have m16 : m ≤ 16 := by omega
            clear hp1 hp2 hp3 hp4 hp5 ho2 hm
            go_wp2_with fail
            refine wp_region_held_drew (S := fun w' => World.cell? w' ⟨w.heap.size, 0, none⟩ = some (.slice a2 n2 cap2)) (by kernel_rfl) HC2.out (fun hS => ?_)
            refine tk 0 53 (.slice a2 n2 cap2) rfl rfl (by kernel_rfl) (by kernel_rfl) (by kernel_rfl) (fun _ _ _ h => h) (Or.inl ⟨by rfl, fun w' h' => ?_⟩) hS ?_
            · have hc := h'
              go_simp
            try simp only [Act.put, List.setIfInBounds_toArray, List.set_cons_zero, List.set_cons_succ]
            refine tk 1 54 (.int .i64 (n1 : Int)) rfl rfl (by kernel_rfl) (by kernel_rfl) (by kernel_rfl) (fun _ _ _ h => h) (Or.inl ⟨by rfl, fun w' h' => ?_⟩) hS ?_
            · go_simp
            try simp only [Act.put, List.setIfInBounds_toArray, List.set_cons_zero, List.set_cons_succ]
            refine tk 2 55 (.slice a2 n2 cap2) rfl rfl (by kernel_rfl) (by kernel_rfl) (by kernel_rfl) (fun _ _ _ h => h) (Or.inl ⟨by rfl, fun w' h' => ?_⟩) hS ?_
            · have hc := h'
              go_simp
            try simp only [Act.put, List.setIfInBounds_toArray, List.set_cons_zero, List.set_cons_succ]
            refine tk 3 56 (.int .i64 (n2 : Int)) rfl rfl (by kernel_rfl) (by kernel_rfl) (by kernel_rfl) (fun _ _ _ h => h) (Or.inl ⟨by rfl, fun w' h' => ?_⟩) hS ?_
            · go_simp
            try simp only [Act.put, List.setIfInBounds_toArray, List.set_cons_zero, List.set_cons_succ]
            refine tk 4 57 (.int .i64 (m : Int)) rfl rfl (by kernel_rfl) (by kernel_rfl) (by kernel_rfl) (fun _ _ _ h => h) (Or.inl ⟨by rfl, fun w' h' => ?_⟩) hS ?_
            · have q := HQ.out
              go_simp
            try simp only [Act.put, List.setIfInBounds_toArray, List.set_cons_zero, List.set_cons_succ]
            refine wpAnyH_ready (rs := [5]) (by kernel_rfl) (by simp) (AllReadyH.cons rfl (fun K hK => ?_) AllReadyH.nil)
            rw [if_pos (by rfl)]
            obtain ⟨w5, hmk, hz, hb5, hsz5⟩ := run_mk_b w4.drew m (by omega)
            obtain ⟨g5, hg5⟩ : ∃ g, w4.drew.heap.size = g := ⟨_, rfl⟩
            rw [hg5] at hmk hz hsz5
            have HG5 : Hid (w4.heap.size = g5) := hg5
            have HZ := Lib.hid hz
            have HSZ := Lib.hid hsz5
            have HC5 := Lib.hid (cell_kept (undrew hb5) HC2.out)
            have HO5 : Hid (Own w5 (w.heap.size + 1) a2 n2 cap2 t2) := HO2.out.keep (S := fun _ => False) (Kept.of_below (B := w4.heap.size) (undrew hb5) (fun i hi hi' => by omega)) (fun _ _ => id)
            have HB5 := Lib.hid (HB2.out.trans ((undrew hb5).mono HB2.out.size))
            have HNE : Hid (blk a2 ≠ some g5) := fun e => by have h1 := (HO2.out.blk_ge g5 e).2; have h2 : w4.drew.heap.size = w4.heap.size := rfl; omega
            refine wp_makeA (.tmp 57) (.tmp 57) 25 rfl _ _ rfl rfl hmk ?_
            clear hmk hz hb5 hsz5 hg5
            clear hS
            refine hK.out _ _ (HC5.out) (fun hS => ?_)
            clear hK K
            try simp only [Act.put, List.setIfInBounds_toArray]
            refine wpAnyH_ready (rs := [6]) (by kernel_rfl) (by simp) (AllReadyH.cons rfl (fun K hK => ?_) AllReadyH.nil)
            rw [if_pos (by rfl)]
            go_wp2_with fail
            refine (sIns_any w5 (w.heap.size + 1) g5 HO5.out n1 HLE.out g5 m (zs m) HM0.out HZ.out (by omega) (by have h1 := HSZ.out; have h2 := HCS.out; have h3 := HG5.out; omega) HNE.out).mono ?_
            rintro e w6 ⟨a6, n6, cap6, rfl, ho6, hk6⟩
            have HO6 := Lib.hid ho6
            have HB6 : Hid (Below w.heap.size w w6) := HB5.out.trans (hk6.below (by have := HB5.out.size; omega) (fun k hk => by have := (HO5.out.blk_ge k hk).1; omega))
            have HC6 : Hid (w6.cell? ⟨w.heap.size, 0, none⟩ = some (.slice a2 n2 cap2)) := by
              show _ = _
              rw [← HC5.out]
              exact World.cell?_of_block (hk6.block w.heap.size (World.block_lt_of_cell? w5 ⟨w.heap.size, 0, none⟩ HC5.out) (fun hk => by have := (HO5.out.blk_ge _ hk).1; omega))
            clear ho6 hk6
            clear hS
            refine hK.out _ _ (HC6.out) (fun hS => ?_)
            clear hK K
            try simp only [Act.put, List.setIfInBounds_toArray, List.set_cons_zero, List.set_cons_succ]
            refine tk 7 2 (.slice a6 n6 cap6) rfl rfl (by kernel_rfl) (by kernel_rfl) (by kernel_rfl) (fun _ _ _ h => h) (Or.inl ⟨by rfl, fun w' h' => ?_⟩) hS ?_
            · go_simp
            try simp only [Act.put, List.setIfInBounds_toArray, List.set_cons_zero, List.set_cons_succ]
            refine tk 8 3 (.bool true) rfl rfl (by kernel_rfl) (by kernel_rfl) (by kernel_rfl) (fun _ _ _ h => h) (Or.inl ⟨by rfl, fun w' h' => ?_⟩) hS ?_
            · go_simp
            refine wpAnyH_done (by kernel_rfl) ?_ _
            clear hS
            go_wp2_with fail
            go_ret2
            exact read_gs HPS.out.1 HPS.out.2.1 HB6.out HO6.out (by rw [← HPS.out.2.2, ← HLN1.out, ← HMM.out, HLN2.out])
        · have HP : Hid ((parse6 l).map gby = none) := by
            show _ = _
            rw [six_found_no HCUT.out (.inr ⟨t1, HG1.out, .inl (by unfold gst; rw [if_neg HY.out]; exact hs)⟩)]
            rfl
          have HB := Lib.hid hb
          clear hs hb hc1
          go_wp2_with fail
          go_ret2
          exact read_none HP.out HB.out _ _ _
    · have hxe : x.isEmpty = false := by cases x with
        | nil => exact absurd rfl hx
        | cons => rfl
      have HX := Lib.hid hx
      clear hx
      go_wp2_with fail
      refine (aReadParts_any 58 (.pointer (some ⟨w.heap.size, 0, none⟩)) 58 stp6 (I4 w w.heap.size 16) (J4 w w.heap.size) w 1000000 ent_six HG.out (fun _ _ h => h.2.1) (fun s wr n h => ⟨h.1.drewN n, bdN h.2.1 n, h.2.2⟩) (six_each w HG.out w.heap.size) x [] _ HI.out HXL.out (by omega)).mono ?_
      rintro e w3 ⟨ok, rfl, hk⟩
      rcases hk with ⟨t1, hs, rfl, hi1⟩ | ⟨hs, rfl, _, hb⟩
      · have HG1 : Hid (gst [] x = some t1) := by show _ = _; unfold gst; rw [if_neg HX.out]; exact hs
        have HI1 := Lib.hid hi1
        clear hs hi1 HI
        obtain ⟨a1, n1, cap1, hc1, ho1⟩ := HI1.out.1.cell
        have HLN1 : Hid (t1.length = n1) := ho1.len
        have n1b : n1 ≤ 16 := by rw [← ho1.len]; exact HI1.out.2.2.2
        by_cases hy : y = []
        · have hye : y.isEmpty = true := by rw [hy]; rfl
          have HG2 : Hid (gst t1 y = some t1) := by show _ = _; unfold gst; rw [if_pos hy]
          have HB2 := Lib.hid HI1.out.2.1
          have hc2 := hc1
          have ho2 := ho1
          have e0 : n1 ≤ 16 := n1b
          clear ho1 hy hc1
          have HC2 := Lib.hid hc2
          have HO2 := Lib.hid ho2
          have HLN2 : Hid (t1.length = n1) := ho2.len
          by_cases h16 : n1 = 16
          · have HP : Hid ((parse6 l).map gby = none) := by
              show _ = _
              rw [six_found_no HCUT.out (.inr ⟨t1, HG1.out, .inr ⟨t1, HG2.out, by rw [HLN2.out, h16]⟩⟩)]
              rfl
            subst h16
            clear ho2 HC2 HO2
            go_wp2_with fail
            go_ret2
            exact read_none HP.out HB2.out _ _ _
          · obtain ⟨gs, hp1, hp2, hp3, hp4, hp5⟩ := six_found HCUT.out HG1.out HG2.out (by rw [HLN2.out]; exact h16)
            have HPS : Hid (parse6 l = some gs ∧ gs.length = 8 ∧ t1.take t1.length ++ zs (16 - t1.length) ++ t1.drop t1.length = gbI gs) := ⟨hp1, hp2, hp5⟩
            have n16 : n1 < 16 := by rw [← HLN2.out]; exact hp4
            have HLE : Hid (n1 ≤ n1) := by have h1 := HLN1.out; have h2 := HLN2.out; show n1 ≤ n1; omega
            have h16i : ((n1 : Int) == 16) = false := by simp; omega
            have h16j : ¬ ((n1 : Int) = 16) := by omega
            obtain ⟨m, hm⟩ : ∃ m, 16 - n1 = m := ⟨_, rfl⟩
            have HMM := Lib.hid hm
            have HM0 : Hid (0 < m) := by show 0 < m; omega
            have HQ : Hid (IntKind.i64.wrap (16 - (n1 : Int)) = (m : Int)) := by show _ = _; rw [IntKind.wrap_i64]; omega
            have HCS : Hid (w.heap.size < w3.heap.size) := (World.block_lt_of_cell? w3 ⟨w.heap.size, 0, none⟩ HC2.out)
            have m16 : m ≤ 16 := by omega
            clear hp1 hp2 hp3 hp4 hp5 ho2 hm
            go_wp2_with fail
            refine wp_region_held_drew (S := fun w' => World.cell? w' ⟨w.heap.size, 0, none⟩ = some (.slice a1 n1 cap1)) (by kernel_rfl) HC2.out (fun hS => ?_)
            refine tk 0 53 (.slice a1 n1 cap1) rfl rfl (by kernel_rfl) (by kernel_rfl) (by kernel_rfl) (fun _ _ _ h => h) (Or.inl ⟨by rfl, fun w' h' => ?_⟩) hS ?_
            · have hc := h'
              go_simp
            try simp only [Act.put, List.setIfInBounds_toArray, List.set_cons_zero, List.set_cons_succ]
            refine tk 1 54 (.int .i64 (n1 : Int)) rfl rfl (by kernel_rfl) (by kernel_rfl) (by kernel_rfl) (fun _ _ _ h => h) (Or.inl ⟨by rfl, fun w' h' => ?_⟩) hS ?_
            · go_simp
            try simp only [Act.put, List.setIfInBounds_toArray, List.set_cons_zero, List.set_cons_succ]
            refine tk 2 55 (.slice a1 n1 cap1) rfl rfl (by kernel_rfl) (by kernel_rfl) (by kernel_rfl) (fun _ _ _ h => h) (Or.inl ⟨by rfl, fun w' h' => ?_⟩) hS ?_
            · have hc := h'
              go_simp
            try simp only [Act.put, List.setIfInBounds_toArray, List.set_cons_zero, List.set_cons_succ]
            refine tk 3 56 (.int .i64 (n1 : Int)) rfl rfl (by kernel_rfl) (by kernel_rfl) (by kernel_rfl) (fun _ _ _ h => h) (Or.inl ⟨by rfl, fun w' h' => ?_⟩) hS ?_
            · go_simp
            try simp only [Act.put, List.setIfInBounds_toArray, List.set_cons_zero, List.set_cons_succ]
            refine tk 4 57 (.int .i64 (m : Int)) rfl rfl (by kernel_rfl) (by kernel_rfl) (by kernel_rfl) (fun _ _ _ h => h) (Or.inl ⟨by rfl, fun w' h' => ?_⟩) hS ?_
            · have q := HQ.out
              go_simp
            try simp only [Act.put, List.setIfInBounds_toArray, List.set_cons_zero, List.set_cons_succ]
            refine wpAnyH_ready (rs := [5]) (by kernel_rfl) (by simp) (AllReadyH.cons rfl (fun K hK => ?_) AllReadyH.nil)
            rw [if_pos (by rfl)]
            obtain ⟨w5, hmk, hz, hb5, hsz5⟩ := run_mk_b w3.drew m (by omega)
            obtain ⟨g5, hg5⟩ : ∃ g, w3.drew.heap.size = g := ⟨_, rfl⟩
            rw [hg5] at hmk hz hsz5
            have HG5 : Hid (w3.heap.size = g5) := hg5
            have HZ := Lib.hid hz
            have HSZ := Lib.hid hsz5
            have HC5 := Lib.hid (cell_kept (undrew hb5) HC2.out)
            have HO5 : Hid (Own w5 (w.heap.size + 1) a1 n1 cap1 t1) := HO2.out.keep (S := fun _ => False) (Kept.of_below (B := w3.heap.size) (undrew hb5) (fun i hi hi' => by omega)) (fun _ _ => id)
            have HB5 := Lib.hid (HB2.out.trans ((undrew hb5).mono HB2.out.size))
            have HNE : Hid (blk a1 ≠ some g5) := fun e => by have h1 := (HO2.out.blk_ge g5 e).2; have h2 : w3.drew.heap.size = w3.heap.size := rfl; omega
            refine wp_makeA (.tmp 57) (.tmp 57) 25 rfl _ _ rfl rfl hmk ?_
            clear hmk hz hb5 hsz5 hg5
            clear hS
            refine hK.out _ _ (HC5.out) (fun hS => ?_)
            clear hK K
            try simp only [Act.put, List.setIfInBounds_toArray]
            refine wpAnyH_ready (rs := [6]) (by kernel_rfl) (by simp) (AllReadyH.cons rfl (fun K hK => ?_) AllReadyH.nil)
            rw [if_pos (by rfl)]
            go_wp2_with fail
            refine (sIns_any w5 (w.heap.size + 1) g5 HO5.out n1 HLE.out g5 m (zs m) HM0.out HZ.out (by omega) (by have h1 := HSZ.out; have h2 := HCS.out; have h3 := HG5.out; omega) HNE.out).mono ?_
            rintro e w6 ⟨a6, n6, cap6, rfl, ho6, hk6⟩
            have HO6 := Lib.hid ho6
            have HB6 : Hid (Below w.heap.size w w6) := HB5.out.trans (hk6.below (by have := HB5.out.size; omega) (fun k hk => by have := (HO5.out.blk_ge k hk).1; omega))
            have HC6 : Hid (w6.cell? ⟨w.heap.size, 0, none⟩ = some (.slice a1 n1 cap1)) := by
              show _ = _
              rw [← HC5.out]
              exact World.cell?_of_block (hk6.block w.heap.size (World.block_lt_of_cell? w5 ⟨w.heap.size, 0, none⟩ HC5.out) (fun hk => by have := (HO5.out.blk_ge _ hk).1; omega))
            clear ho6 hk6
            clear hS
            refine hK.out _ _ (HC6.out) (fun hS => ?_)
            clear hK K
            try simp only [Act.put, List.setIfInBounds_toArray, List.set_cons_zero, List.set_cons_succ]
            refine tk 7 2 (.slice a6 n6 cap6) rfl rfl (by kernel_rfl) (by kernel_rfl) (by kernel_rfl) (fun _ _ _ h => h) (Or.inl ⟨by rfl, fun w' h' => ?_⟩) hS ?_
            · go_simp
            try simp only [Act.put, List.setIfInBounds_toArray, List.set_cons_zero, List.set_cons_succ]
            refine tk 8 3 (.bool true) rfl rfl (by kernel_rfl) (by kernel_rfl) (by kernel_rfl) (fun _ _ _ h => h) (Or.inl ⟨by rfl, fun w' h' => ?_⟩) hS ?_
            · go_simp
            refine wpAnyH_done (by kernel_rfl) ?_ _
            clear hS
            go_wp2_with fail
            go_ret2
            exact read_gs HPS.out.1 HPS.out.2.1 HB6.out HO6.out (by rw [← HPS.out.2.2, ← HLN1.out, ← HMM.out, HLN2.out])
        · have hye : y.isEmpty = false := by cases y with
            | nil => exact absurd rfl hy
            | cons => rfl
          have HY := Lib.hid hy
          clear hy ho1
          go_wp2_with fail
          refine (aReadParts_any 58 (.pointer (some ⟨w.heap.size, 0, none⟩)) 58 stp6 (I4 w w.heap.size 16) (J4 w w.heap.size) w 1000000 ent_six HG.out (fun _ _ h => h.2.1) (fun s wr n h => ⟨h.1.drewN n, bdN h.2.1 n, h.2.2⟩) (six_each w HG.out w.heap.size) y t1 _ HI1.out HYL.out (by omega)).mono ?_
          rintro e w4 ⟨ok, rfl, hk⟩
          rcases hk with ⟨t2, hs, rfl, hi2⟩ | ⟨hs, rfl, _, hb⟩
          · have HG2 : Hid (gst t1 y = some t2) := by show _ = _; unfold gst; rw [if_neg HY.out]; exact hs
            have HB2 := Lib.hid hi2.2.1
            obtain ⟨a2, n2, cap2, hc2, ho2⟩ := hi2.1.cell
            have e0 : n2 ≤ 16 := by rw [← ho2.len]; exact hi2.2.2.2
            clear hs hi2 hc1
            have HC2 := Lib.hid hc2
            have HO2 := Lib.hid ho2
            have HLN2 : Hid (t2.length = n2) := ho2.len
            by_cases h16 : n2 = 16
            · have HP : Hid ((parse6 l).map gby = none) := by
                show _ = _
                rw [six_found_no HCUT.out (.inr ⟨t1, HG1.out, .inr ⟨t2, HG2.out, by rw [HLN2.out, h16]⟩⟩)]
                rfl
              subst h16
              clear ho2 HC2 HO2
              go_wp2_with fail
              go_ret2
              exact read_none HP.out HB2.out _ _ _
            · obtain ⟨gs, hp1, hp2, hp3, hp4, hp5⟩ := six_found HCUT.out HG1.out HG2.out (by rw [HLN2.out]; exact h16)
              have HPS : Hid (parse6 l = some gs ∧ gs.length = 8 ∧ t2.take t1.length ++ zs (16 - t2.length) ++ t2.drop t1.length = gbI gs) := ⟨hp1, hp2, hp5⟩
              have n16 : n2 < 16 := by rw [← HLN2.out]; exact hp4
              have HLE : Hid (n1 ≤ n2) := by have h1 := HLN1.out; have h2 := HLN2.out; show n1 ≤ n2; omega
              have h16i : ((n2 : Int) == 16) = false := by simp; omega
              have h16j : ¬ ((n2 : Int) = 16) := by omega
              obtain ⟨m, hm⟩ : ∃ m, 16 - n2 = m := ⟨_, rfl⟩
              have HMM := Lib.hid hm
              have HM0 : Hid (0 < m) := by show 0 < m; omega
              have HQ : Hid (IntKind.i64.wrap (16 - (n2 : Int)) = (m : Int)) := by show _ = _; rw [IntKind.wrap_i64]; omega
              have HCS : Hid (w.heap.size < w4.heap.size) := (World.block_lt_of_cell? w4 ⟨w.heap.size, 0, none⟩ HC2.out)
              have m16 : m ≤ 16 := by omega
              clear hp1 hp2 hp3 hp4 hp5 ho2 hm
              go_wp2_with fail
              refine wp_region_held_drew (S := fun w' => World.cell? w' ⟨w.heap.size, 0, none⟩ = some (.slice a2 n2 cap2)) (by kernel_rfl) HC2.out (fun hS => ?_)
              refine tk 0 53 (.slice a2 n2 cap2) rfl rfl (by kernel_rfl) (by kernel_rfl) (by kernel_rfl) (fun _ _ _ h => h) (Or.inl ⟨by rfl, fun w' h' => ?_⟩) hS ?_
              · have hc := h'
                go_simp
              try simp only [Act.put, List.setIfInBounds_toArray, List.set_cons_zero, List.set_cons_succ]
              refine tk 1 54 (.int .i64 (n1 : Int)) rfl rfl (by kernel_rfl) (by kernel_rfl) (by kernel_rfl) (fun _ _ _ h => h) (Or.inl ⟨by rfl, fun w' h' => ?_⟩) hS ?_
              · go_simp
              try simp only [Act.put, List.setIfInBounds_toArray, List.set_cons_zero, List.set_cons_succ]
              refine tk 2 55 (.slice a2 n2 cap2) rfl rfl (by kernel_rfl) (by kernel_rfl) (by kernel_rfl) (fun _ _ _ h => h) (Or.inl ⟨by rfl, fun w' h' => ?_⟩) hS ?_
              · have hc := h'
                go_simp
              try simp only [Act.put, List.setIfInBounds_toArray, List.set_cons_zero, List.set_cons_succ]
              refine tk 3 56 (.int .i64 (n2 : Int)) rfl rfl (by kernel_rfl) (by kernel_rfl) (by kernel_rfl) (fun _ _ _ h => h) (Or.inl ⟨by rfl, fun w' h' => ?_⟩) hS ?_
              · go_simp
              try simp only [Act.put, List.setIfInBounds_toArray, List.set_cons_zero, List.set_cons_succ]
              refine tk 4 57 (.int .i64 (m : Int)) rfl rfl (by kernel_rfl) (by kernel_rfl) (by kernel_rfl) (fun _ _ _ h => h) (Or.inl ⟨by rfl, fun w' h' => ?_⟩) hS ?_
              · have q := HQ.out
                go_simp
              try simp only [Act.put, List.setIfInBounds_toArray, List.set_cons_zero, List.set_cons_succ]
              refine wpAnyH_ready (rs := [5]) (by kernel_rfl) (by simp) (AllReadyH.cons rfl (fun K hK => ?_) AllReadyH.nil)
              rw [if_pos (by rfl)]
              obtain ⟨w5, hmk, hz, hb5, hsz5⟩ := run_mk_b w4.drew m (by omega)
              obtain ⟨g5, hg5⟩ : ∃ g, w4.drew.heap.size = g := ⟨_, rfl⟩
              rw [hg5] at hmk hz hsz5
              have HG5 : Hid (w4.heap.size = g5) := hg5
              have HZ := Lib.hid hz
              have HSZ := Lib.hid hsz5
              have HC5 := Lib.hid (cell_kept (undrew hb5) HC2.out)
              have HO5 : Hid (Own w5 (w.heap.size + 1) a2 n2 cap2 t2) := HO2.out.keep (S := fun _ => False) (Kept.of_below (B := w4.heap.size) (undrew hb5) (fun i hi hi' => by omega)) (fun _ _ => id)
              have HB5 := Lib.hid (HB2.out.trans ((undrew hb5).mono HB2.out.size))
              have HNE : Hid (blk a2 ≠ some g5) := fun e => by have h1 := (HO2.out.blk_ge g5 e).2; have h2 : w4.drew.heap.size = w4.heap.size := rfl; omega
              refine wp_makeA (.tmp 57) (.tmp 57) 25 rfl _ _ rfl rfl hmk ?_
              clear hmk hz hb5 hsz5 hg5
              clear hS
              refine hK.out _ _ (HC5.out) (fun hS => ?_)
              clear hK K
              try simp only [Act.put, List.setIfInBounds_toArray]
              refine wpAnyH_ready (rs := [6]) (by kernel_rfl) (by simp) (AllReadyH.cons rfl (fun K hK => ?_) AllReadyH.nil)
              rw [if_pos (by rfl)]
              go_wp2_with fail
              refine (sIns_any w5 (w.heap.size + 1) g5 HO5.out n1 HLE.out g5 m (zs m) HM0.out HZ.out (by omega) (by have h1 := HSZ.out; have h2 := HCS.out; have h3 := HG5.out; omega) HNE.out).mono ?_
              rintro e w6 ⟨a6, n6, cap6, rfl, ho6, hk6⟩
              have HO6 := Lib.hid ho6
              have HB6 : Hid (Below w.heap.size w w6) := HB5.out.trans (hk6.below (by have := HB5.out.size; omega) (fun k hk => by have := (HO5.out.blk_ge k hk).1; omega))
              have HC6 : Hid (w6.cell? ⟨w.heap.size, 0, none⟩ = some (.slice a2 n2 cap2)) := by
                show _ = _
                rw [← HC5.out]
                exact World.cell?_of_block (hk6.block w.heap.size (World.block_lt_of_cell? w5 ⟨w.heap.size, 0, none⟩ HC5.out) (fun hk => by have := (HO5.out.blk_ge _ hk).1; omega))
              clear ho6 hk6
              clear hS
              refine hK.out _ _ (HC6.out) (fun hS => ?_)
              clear hK K
              try simp only [Act.put, List.setIfInBounds_toArray, List.set_cons_zero, List.set_cons_succ]
              refine tk 7 2 (.slice a6 n6 cap6) rfl rfl (by kernel_rfl) (by kernel_rfl) (by kernel_rfl) (fun _ _ _ h => h) (Or.inl ⟨by rfl, fun w' h' => ?_⟩) hS ?_
              · go_simp
              try simp only [Act.put, List.setIfInBounds_toArray, List.set_cons_zero, List.set_cons_succ]
              refine tk 8 3 (.bool true) rfl rfl (by kernel_rfl) (by kernel_rfl) (by kernel_rfl) (fun _ _ _ h => h) (Or.inl ⟨by rfl, fun w' h' => ?_⟩) hS ?_
              · go_simp
              refine wpAnyH_done (by kernel_rfl) ?_ _
              clear hS
              go_wp2_with fail
              go_ret2
              exact read_gs HPS.out.1 HPS.out.2.1 HB6.out HO6.out (by rw [← HPS.out.2.2, ← HLN1.out, ← HMM.out, HLN2.out])
          · have HP : Hid ((parse6 l).map gby = none) := by
              show _ = _
              rw [six_found_no HCUT.out (.inr ⟨t1, HG1.out, .inl (by unfold gst; rw [if_neg HY.out]; exact hs)⟩)]
              rfl
            have HB := Lib.hid hb
            clear hs hb hc1
            go_wp2_with fail
            go_ret2
            exact read_none HP.out HB.out _ _ _
      · have HP : Hid ((parse6 l).map gby = none) := by
          show _ = _
          rw [six_found_no HCUT.out (.inl (by unfold gst; rw [if_neg HX.out]; exact hs))]
          rfl
        have HB := Lib.hid hb
        clear hs hb
        go_wp2_with fail
        go_ret2
        exact read_none HP.out HB.out _ _ _
end Go.Proofs.YtbnfmiopgjmppaaDoor

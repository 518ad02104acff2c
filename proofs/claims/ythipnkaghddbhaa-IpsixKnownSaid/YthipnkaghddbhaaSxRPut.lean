/-
  The contract of the document's own Put for layer 6, and rows that are appended to. Conditions: a header whose numbers fit their Go types.
-/
import Derived.Test.YthipnkaghddbhaaSxRParse
namespace Go.Proofs.Ythipnkaghddbhaa
open Go.RowKit

/-- A row of the call's own since w1; all that was there is as it was. -/
structure RS (w1 : World) (a : Option Addr) (n cap : Nat) (xs : List Int) (w : World) : Prop where
  own : Own w w1.heap.size a n cap xs
  below : Below w1.heap.size w1 w
theorem Own.blw {w w' : World} {base : Nat} {a : Option Addr} {n cap : Nat} {xs : List Int} (h : Own w base a n cap xs) (hb : Below w.heap.size w w') : Own w' base a n cap xs :=
  h.keep (S := fun _ => False) (Kept.of_below hb (fun i hi hi' => by omega)) (fun _ _ => id)
theorem RS.step {w1 w w' : World} {a : Option Addr} {n cap : Nat} {xs : List Int} (h : RS w1 a n cap xs w) (hb : Below w.heap.size w w') : RS w1 a n cap xs w' := ⟨h.own.blw hb, h.below.trans (hb.mono h.below.size)⟩
theorem RS.next {w1 w w' : World} {a b : Option Addr} {n cap m c : Nat} {xs ys : List Int} (h : RS w1 a n cap xs w) (hb : Below w.heap.size w w') (ho : Own w' w.heap.size b m c ys) : RS w1 b m c ys w' := ⟨ho.mono h.below.size, h.below.trans (hb.mono h.below.size)⟩
theorem RS.app {w1 w : World} {a : Option Addr} {n cap : Nat} {xs ys : List Int} (h : RS w1 a n cap xs w) {b : Option Addr} {m : Nat} (c : Nat) (hm : ys.length = m) (hr : Rd w b ys) (hl : n + m ≤ 140737488355328) :
    ∃ a' n' cap' w', (Builtin.append_ #[27, 27] 27 #[.slice a n cap, .slice b m c]).run Try.prog w = .ok (.slice a' n' cap') w' ∧ RS w1 a' n' cap' (xs ++ ys) w' := by
  obtain ⟨a', cap', w', hrun, hown, hg, _⟩ := run_append_rd w w1.heap.size 27 h.own c hm hr hl h.below.size
  exact ⟨a', n + m, cap', w', hrun, hown, h.below.grown hg h.below.size (fun k hk => (h.own.blk_ge k hk).1)⟩
theorem RS.drw {w1 w : World} {a : Option Addr} {n cap : Nat} {xs : List Int} (h : RS w1 a n cap xs w) : RS w1 a n cap xs w.drew := ⟨h.own, ⟨h.below.os, h.below.tape, h.below.output, h.below.size, h.below.block⟩⟩
theorem run_bytes_str (w : World) (xs : List Int) (hb : Byt xs) : ∃ c w', (convert 9 27 (.string (str xs))).run Try.prog w = .ok (.slice (some ⟨w.heap.size, 0, none⟩) xs.length c) w' ∧ Rd w' (some ⟨w.heap.size, 0, none⟩) xs ∧ Below w.heap.size w w' := by
  have hr := run_bytes_of_string (P := Try.prog) w 9 27 5 (str xs) Try.underlying9 Try.underlying27 Try.underlying5
  rw [str_size] at hr
  refine ⟨_, _, hr, fun hne => ⟨w.heap.size, 0, rfl, fun i hi => ?_⟩, ?_⟩
  · have hi' : i < (str xs).data.size := by show i < (ub xs).toArray.size; simp [ub]; exact hi
    have hx := ub_get hb i hi
    have h1 := bytesRow_at (str xs) (grownCap w xs.length 0 5) i hi'
    have h2 : ((str xs).data[i]'hi').toNat = ((ub xs)[i]'(by rw [ub_len]; exact hi)).toNat := by simp [str]
    rw [h2, hx] at h1
    rw [Nat.zero_add, ← h1]
    exact World.cell?_alloc_mark w.drew _ _ _ _
  · have h := ((Below.refl w.heap.size w).drew).alloc (Nat.le_refl _) (.cells (bytesRow (str xs) (grownCap w xs.length 0 5)) 5 ((bytesRow (str xs) (grownCap w xs.length 0 5)).size, (bytesRow (str xs) (grownCap w xs.length 0 5)).size + 1))
    exact h
theorem r6_range (w : World) (h : H6) (t : TypeId) : (w.alloc (.cells (r6c h).toArray t)).rangeAt w.heap.size 0 (r6c h) := fun j v hv => by
  rw [cell_of_row _ w.heap.size (0 + j) _ t (0, 0) (Blk_new w _ _)]; simpa using hv
theorem u64_same (v : Int) (h0 : 0 ≤ v) (h1 : v < 4294967296) : IntKind.u64.wrap v = v := by rw [IntKind.wrap_u64]; omega

set_option maxRecDepth 100000 in
set_option maxHeartbeats 2000000 in
theorem r6Put_any (h : H6) (w : World) (k : h.ok) : Calls Try.prog 11 #[.agg (r6c h).toArray] w (PutS w h) := by
  have HK := Lib.hid k
  obtain ⟨wA, hwA⟩ : ∃ x, w.alloc (.cells (r6c h).toArray 30) = x := ⟨_, rfl⟩
  have HBA : Hid (Below w.heap.size w wA) := by show Below _ _ _; rw [← hwA]; exact (Below.refl _ _).alloc (Nat.le_refl _) _
  have hr : wA.rangeAt w.heap.size 0 (r6c h) := by rw [← hwA]; exact r6_range w h _
  have C0 := Lib.hid (range_cell hr (j := 0) (v := .int .u8 h.cl) rfl)
  have C1 := Lib.hid (range_cell hr (j := 1) (v := .int .u32 h.fl) rfl)
  have C2 := Lib.hid (range_cell hr (j := 2) (v := .int .u16 h.ln) rfl)
  have C3 := Lib.hid (range_cell hr (j := 3) (v := .int .u8 h.nx) rfl)
  have C4 := Lib.hid (range_cell hr (j := 4) (v := .int .u8 h.hp) rfl)
  have C5 := Lib.hid (range_cell hr (j := 5) (v := .string (str h.src)) rfl)
  have C6 := Lib.hid (range_cell hr (j := 6) (v := .string (str h.dst)) rfl)
  obtain ⟨cl, hcl⟩ : ∃ x, h.cl = x := ⟨_, rfl⟩
  obtain ⟨fl, hfl⟩ : ∃ x, h.fl = x := ⟨_, rfl⟩
  obtain ⟨ln, hln⟩ : ∃ x, h.ln = x := ⟨_, rfl⟩
  obtain ⟨nx, hnx⟩ : ∃ x, h.nx = x := ⟨_, rfl⟩
  obtain ⟨hp, hhp⟩ : ∃ x, h.hp = x := ⟨_, rfl⟩
  have kcl := k.cl
  have kfl := k.fl
  have kln := k.ln
  have knx := k.nx
  have khp := k.hp
  rw [hcl] at C0 kcl
  rw [hfl] at C1 kfl
  rw [hln] at C2 kln
  rw [hnx] at C3 knx
  rw [hhp] at C4 khp
  have HFL := Lib.hid hfl
  have HH6 : Hid (h6b h = ((((be 4 ((1536 + cl) * 1048576 + fl) ++ be 2 ln) ++ [nx, hp]) ++ h.src) ++ h.dst)) := by
    have e1 : ∀ x : Int, 0 ≤ x ∧ x < 256 → be 1 x = [x] := fun x hx => by simp [be]; omega
    show _ = _
    rw [← hcl, ← hfl, ← hln, ← hnx, ← hhp]
    unfold h6b
    rw [e1 h.nx (by rw [hnx]; exact knx), e1 h.hp (by rw [hhp]; exact khp)]
    simp
  obtain ⟨cs, hcs⟩ : ∃ x, (r6c h).toArray = x := ⟨_, rfl⟩
  rw [hcs] at hwA
  rw [hcs]
  have c1 := C1.out
  clear hcl hfl hln hnx hhp hcs k hr
  by_cases hf : fl < 1048576
  · have u1 := u64_same cl kcl.1 (by omega)
    have u2 := u64_same (cl * 1048576) (by omega) (by omega)
    have u3 := u64_same fl kfl.1 (by omega)
    have c0 := C0.out
    have e0 : 1610612736 + cl * 1048576 + fl = (1536 + cl) * 1048576 + fl := by omega
    have u4 := u64_same (1610612736 + cl * 1048576) (by omega) (by omega)
    have u5 := u64_same (1610612736 + cl * 1048576 + fl) (by omega) (by omega)
    have p4 : pw 4 = 4294967296 := by decide
    have p2 : pw 2 = 65536 := by decide
    have F0 : Hid (U64 (1610612736 + cl * 1048576 + fl)) := (fitk (v := 1610612736 + cl * 1048576 + fl) (k := 4) (by omega) (by omega) (by omega) (by omega)).1
    have F1 := Lib.hid (fitk (v := ln) (k := 2) (by omega) (by omega) kln.1 (by omega)).1
    have E0 := Lib.hid e0
    have U6 := Lib.hid (u64_same ln kln.1 (by omega))
    clear p4 p2 e0
    go_enter Try.func11, Try.ntmps11
    go_wp2_with fail
    refine (refPut_any 4 _ _ (by omega) F0.out).mono ?_
    rintro e w1 ⟨a1, n1, p1, rfl, ho1, hb1⟩
    rw [E0.out] at ho1
    have HR1 : Hid (RS wA a1 n1 p1 (be 4 ((1536 + cl) * 1048576 + fl)) w1) := ⟨ho1, hb1⟩
    have d2 := cell_kept HR1.out.below C2.out
    have u6 := U6.out
    clear ho1 hb1 c0 c1 u1 u2 u3 u4 u5
    go_wp2_with fail
    refine (refPut_any 2 _ _ (by omega) F1.out).mono ?_
    rintro e w2 ⟨a2, n2, p2, rfl, ho2, hb2⟩
    have HR2 := Lib.hid (HR1.out.step hb2)
    obtain ⟨a3, n3, p3, w3, hrun, hrs⟩ := HR2.out.app p2 ho2.len ho2.rd (by have h1 := HR2.out.own.len; have h2 := ho2.len; simp [be_length] at h1 h2; omega)
    have HRUN := Lib.hid hrun
    have HR3 := Lib.hid hrs
    have d3 := cell_kept HR3.out.below C3.out
    have d4 := cell_kept HR3.out.below C4.out
    clear ho2 hb2 hrun hrs d2 u6
    have hrl : Rd (w3.alloc (.cells (bv [nx, hp]).toArray 5)) (some ⟨w3.heap.size, 0, none⟩) [nx, hp] := (Own.lit w3 w3.heap.size [nx, hp] 2 rfl (by simp only [maxLen]; omega) (Nat.le_refl _)).rd
    obtain ⟨a4, n4, p4, w4, hrun, hrs⟩ := (HR3.out.step ((Below.refl _ _).alloc (Nat.le_refl _) (.cells (bv [nx, hp]).toArray 5))).app 2 (m := 2) rfl hrl (by have h1 := HR3.out.own.len; simp [be_length] at h1; omega)
    have hrun' : (Builtin.append_ #[27, 27] 27 #[.slice a3 n3 p3, .slice (some ⟨w3.heap.size, 0, none⟩) 2 2]).run Try.prog (w3.alloc (.cells #[.int .u8 nx, .int .u8 hp] 5)) = .ok (.slice a4 n4 p4) w4 := hrun
    have HRUN4 := Lib.hid hrun'
    have HR4 := Lib.hid hrs
    have d5 := cell_kept HR4.out.below C5.out
    clear hrl hrun hrun' hrs
    obtain ⟨c5, w5, hcv, hrx, hbx⟩ := run_bytes_str w4 h.src HK.out.srcb
    rw [HK.out.src] at hcv
    have HCV5 := Lib.hid hcv
    have HR5 := Lib.hid (HR4.out.step hbx)
    obtain ⟨a6, n6, p6, w6, hrun, hrs⟩ := HR5.out.app c5 HK.out.src hrx (by have h1 := HR5.out.own.len; simp [be_length] at h1; omega)
    have HRUN6 := Lib.hid hrun
    have HR6 := Lib.hid hrs
    have d6 := cell_kept HR6.out.below C6.out
    clear hcv hrx hbx hrun hrs
    obtain ⟨c7, w7, hcv, hrx, hbx⟩ := run_bytes_str w6 h.dst HK.out.dstb
    rw [HK.out.dst] at hcv
    have HCV7 := Lib.hid hcv
    have HR7 := Lib.hid (HR6.out.step hbx)
    obtain ⟨a8, n8, p8, w8, hrun, hrs⟩ := HR7.out.app c7 HK.out.dst hrx (by have h1 := HR7.out.own.len; simp [be_length, HK.out.src] at h1; omega)
    have HRUN8 := Lib.hid hrun
    have HR8 := Lib.hid hrs
    clear hcv hrx hbx hrun hrs
    have x5 := HCV5.out
    have x7 := HCV7.out
    obtain ⟨S5, hS5⟩ : ∃ x, str h.src = x := ⟨_, rfl⟩
    obtain ⟨S6, hS6⟩ : ∃ x, str h.dst = x := ⟨_, rfl⟩
    rw [hS5] at d5 x5
    rw [hS6] at d6 x7
    clear hS5 hS6
    go_wp2_with (first
      | (at_builtin; refine Lib.wpList_append_run _ rfl (.tmp 18) (.tmp 22) _ _ rfl _ _ rfl rfl _ _ HRUN.out ?_)
      | (at_builtin; refine Lib.wpList_append_run _ rfl (.tmp 24) (.tmp 29) _ _ rfl _ _ rfl rfl _ _ HRUN4.out ?_)
      | (at_builtin; refine Lib.wpList_append_run _ rfl (.tmp 31) (.tmp 34) _ _ rfl _ _ rfl rfl _ _ HRUN6.out ?_)
      | (at_builtin; refine Lib.wpList_append_run _ rfl (.tmp 36) (.tmp 39) _ _ rfl _ _ rfl rfl _ _ HRUN8.out ?_))
    go_ret2
    refine ⟨HBA.out.trans (HR8.out.below.mono HBA.out.size), .inl ⟨by rw [HFL.out]; exact hf, a8, n8, p8, rfl, ?_⟩⟩
    rw [HH6.out]
    exact HR8.out.own.mono HBA.out.size
  · go_enter Try.func11, Try.ntmps11
    go_wp2_with fail
    go_ret2
    exact ⟨HBA.out, .inr ⟨by rw [HFL.out]; omega, rfl⟩⟩
end Go.Proofs.Ythipnkaghddbhaa

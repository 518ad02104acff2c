/-
  The contracts of a disk's Unsynced and Copy. Conditions: a disk of at most a million unsynced writes.
-/
import Derived.Test.YtbghdlgfpfeaeaaDkWr
namespace Go.Proofs.Ytbghdlgfpfeaeaa
open Go.RowKit

theorem OwnG.mono {w : World} {base base' e size : Nat} {a : Option Addr} {n cap : Nat} {vs : List Value} (h : OwnG w base e size a n cap vs) (hb : base' ≤ base) : OwnG w base' e size a n cap vs := by
  refine ⟨h.1, ?_⟩
  rcases h.2 with h0 | ⟨g, cap', cur, he, hbb, r⟩
  · exact .inl h0
  · exact .inr ⟨g, cap', cur, he, by omega, r⟩
theorem Uws.nil (w : World) (B : Nat) : Uws w B none 0 [] := ⟨OwnG.nil _ _ _ _, fun _ h => (List.not_mem_nil h).elim, List.Pairwise.nil⟩
theorem Uws.mono {w : World} {B B' : Nat} {a : Option Addr} {c : Nat} {l : List Uw} (h : Uws w B a c l) (hb : B' ≤ B) : Uws w B' a c l := ⟨h.row.mono hb, fun x hx => (h.data x hx).mono hb, h.apart⟩
theorem Uws.below {w w' : World} {B : Nat} {a : Option Addr} {c : Nat} {l : List Uw} (h : Uws w B a c l) (hb : Below w.heap.size w w') : Uws w' B a c l :=
  h.keep (S := fun _ => False) (Kept.of_below hb (fun i hi hi2 => by omega)) (fun _ _ => id) (fun _ _ _ _ => id)
/-- A copied write is put behind some. -/
theorem Uws.more {w w3 w4 : World} {B : Nat} {a : Option Addr} {c : Nat} {l : List Uw} (h : Uws w B a c l) (hb : Below w.heap.size w w3) {y : Uw} (hy : Own w3 w.heap.size y.a y.n y.c y.d) (hB : B ≤ w.heap.size) {g' cap' : Nat}
    (hown : OwnG w4 B 46 2 (some ⟨g', 0, none⟩) (l.length + 1) cap' (wts l ++ y.cs)) (hk : Kept (fun i => blk a = some i) w3 w4) : Uws w4 B (some ⟨g', 0, none⟩) cap' (l ++ [y]) := by
  have h3 := h.below hb
  refine ⟨by simpa [wts_append, wts] using hown, ?_, ?_⟩
  · intro x hx
    rcases List.mem_append.1 hx with hx | hx
    · exact (h3.data x hx).keep hk (fun b hb e => (own_of (h3.data x hx)).apart h3.row (by decide) b hb e)
    · simp at hx
      subst hx
      refine (hy.keep hk (fun b hb e => ?_)).mono hB
      have := (hy.blk_ge b hb).1; have := (h.row.blk_ge b e).2; omega
  · rw [List.pairwise_append]
    refine ⟨h.apart, List.pairwise_singleton _ _, ?_⟩
    intro x hx z hz b q1 q2
    simp at hz
    subst hz
    have h3 := (hy.blk_ge b q2).1
    have h4 := ((h.data x hx).blk_ge b q1).2
    omega
/-- The writes that were not synced, in memory of the call's own. -/
def UnR (w : World) (l : List (Int × List Int)) (e : Ending) (w' : World) : Prop :=
  ∃ a c L, e = .returned (.slice a L.length c) ∧ Uws w' w.heap.size a c L ∧ L.map Uw.pl = l ∧ Below w.heap.size w w'
/-- The copies of the first writes of a disk. -/
structure Ul (w : World) (k : Dk) (j : Nat) (a : Option Addr) (c : Nat) (wr : World) : Prop where
  ex : ∃ L, L.length = j ∧ Uws wr w.heap.size a c L ∧ L.map Uw.pl = (k.W.take j).map Uw.pl
  below : Below w.heap.size w wr
set_option maxRecDepth 100000 in
set_option maxHeartbeats 2000000 in
theorem dkUnsynced_any (B g : Nat) (k : Dk) (w : World) (h : Dm w B g k) (hW : k.W.length ≤ 1000000) : Calls Try.prog 16 #[.pointer (some ⟨g, 0, none⟩)] w (UnR w k.ws) := by
  have c1 := h.c1
  have HD := Lib.hid h
  obtain ⟨m, hm⟩ : ∃ z, k.W.length = z := ⟨_, rfl⟩
  have HM := Lib.hid hm
  rw [hm] at c1 hW
  clear h hm
  go_enter Try.func16, Try.ntmps16
  go_wp2_with fail
  go_loopw [3, 13] (fun s i wr => ∃ (j : Nat) (a : Option Addr) (c : Nat), j ≤ m ∧ i = .int .i64 j ∧ s = .slice a j c ∧ Hid (Ul w k j a c wr)) (fun _ i _ => m - (intOf i).toNat)
  case atStart => exact ⟨0, none, 0, Nat.zero_le _, rfl, rfl, ⟨[], rfl, Uws.nil _ _, rfl⟩, Below.refl _ _⟩
  case round =>
    obtain ⟨j, a, c, hj, rfl, rfl, hl⟩ := hrel
    have HDr : Hid (Dm wr B g k) := HD.out.below hl.out.below
    by_cases hlt : j < m
    · obtain ⟨x, u, hx, hxm, hu, d0, d1⟩ := HDr.out.nth (i := j) (by have := HM.out; show j < k.W.length; omega)
      rw [hu]
      have HX : Hid (k.W[j]? = some x ∧ x ∈ k.W) := ⟨hx, hxm⟩
      have HF0 := Lib.hid (var_new wr x)
      have HT := Lib.hid (var_th wr x)
      have hlt2 : (j : Int) < (m : Int) := by omega
      have e1 : IntKind.i64.wrap ((j : Int) + 1) = ((j + 1 : Nat) : Int) := by rw [IntKind.wrap_i64]; omega
      clear hx hxm hu
      go_wp2_with (refine stN (fun w' => Hid (Var wr x w')) 46 (.tmp 5) (.tmp 16) rfl rfl wr.heap.size 0 x.cs rfl rfl HT.out infWr x.one HF0 ?_; intro wc HF; have q0 := cell_of_row wc _ 0 _ _ (0, 0) HF.out.2.2; have q1 := cell_of_row wc _ 1 _ _ (0, 0) HF.out.2.2; simp [Uw.cs] at q0 q1)
      have HDc : Hid (Dm wc B g k) := HDr.out.below HF.out.1
      refine (copied_any x wc (HDc.out.lies HX.out.2)).mono ?_
      rintro e w3 ⟨y, rfl, hty, hby⟩
      obtain ⟨yp, ya, yn, yc, yd⟩ := y
      rw [show (Uw.v ⟨yp, ya, yn, yc, yd⟩) = .agg #[.int .i64 yp, .slice ya yn yc] from rfl]
      obtain ⟨L, hL1, hL2, hL3⟩ := hl.out.ex
      have hb3 : Below wr.heap.size wr w3 := HF.out.1.trans (hby.mono (by have := HF.out.2.1; omega))
      obtain ⟨g', cap', w4, hrun, hown, hkk, _⟩ := run_append_one w3 w.heap.size 40 40 46 _ 2 32 infWrF Try.underlying40 rfl (by omega) (hL2.below hb3).row (Uw.cs ⟨yp, ya, yn, yc, yd⟩) rfl (Uw.one _) (by have := hb3.size; have := hl.out.below.size; omega) (by omega) (by omega)
      rw [hL1] at hrun
      have HRUN := Lib.hid hrun
      have HN : Hid (Ul w k (j + 1) (some ⟨g', 0, none⟩) cap' w4) := by
        refine ⟨⟨L ++ [⟨yp, ya, yn, yc, yd⟩], by simp [hL1], hL2.more hb3 (y := ⟨yp, ya, yn, yc, yd⟩) (hty.own.mono (by have := HF.out.2.1; omega)) hl.out.below.size hown hkk, ?_⟩, ?_⟩
        · have e : k.W.take (j + 1) = k.W.take j ++ [x] := by rw [List.take_add_one, HX.out.1]; rfl
          rw [e, List.map_append, List.map_append, hL3]
          have e1 : yp = x.at_ := hty.at_
          have e2 : yd = x.d := hty.d
          simp [Uw.pl, e1, e2]
        · refine (hl.out.below.trans (hb3.mono hl.out.below.size)).trans (hkk.below ?_ (fun i e => (hL2.row.blk_ge i e).1))
          have := hb3.size; have := hl.out.below.size; omega
      rw [hL1] at hown
      clear hrun hown hkk hty hby hL1 hL2 hL3 hb3
      go_wp2_with (at_builtin; refine Lib.wpList_append_run _ rfl (.tmp 17) (.tmp 20) _ _ rfl _ _ rfl rfl _ _ HRUN.out ?_)
      go_roundw
      case rel => exact ⟨j + 1, _, _, by omega, by go_num, rfl, HN.out⟩
      case measure => simp [intOf]; omega
    · have hjm : j = m := by omega
      have hlt2 : ¬ (j : Int) < (m : Int) := by omega
      have HR : Hid (UnR w k.ws (.returned (.slice a j c)) wr) := by
        obtain ⟨L, hL1, hL2, hL3⟩ := hl.out.ex
        refine ⟨a, c, L, by rw [hL1], hL2, ?_, hl.out.below⟩
        rw [hL3, List.take_of_length_le (by rw [HM.out]; omega)]
        rfl
      clear hjm
      go_wp2_with fail
      go_ret
      exact HR.out

/-- A disk's copy, in memory of the call's own. -/
def CpR (w : World) (k : Dk) (e : Ending) (w' : World) : Prop :=
  ∃ g k', e = .returned (.pointer (some ⟨g, 0, none⟩)) ∧ Dm w' w.heap.size g k' ∧ k'.d = k.d ∧ k'.ws = k.ws ∧ Below w.heap.size w w'
set_option maxRecDepth 100000 in
set_option maxHeartbeats 1000000 in
theorem dkCopy_any (B g : Nat) (k : Dk) (w : World) (h : Dm w B g k) (hW : k.W.length ≤ 1000000) : Calls Try.prog 17 #[.pointer (some ⟨g, 0, none⟩)] w (CpR w k) := by
  have c0 := h.c0
  have HD := Lib.hid h
  have HW := Lib.hid hW
  obtain ⟨m, hm⟩ : ∃ z, k.d.length = z := ⟨_, rfl⟩
  have HM := Lib.hid hm
  rw [hm] at c0
  clear h hW hm
  go_enter Try.func17, Try.ntmps17
  go_wp2_with fail
  refine (clone_any k.a m k.c k.d w HM.out HD.out.dur.rd (by have := HD.out.ok.few; have := HM.out; omega)).mono ?_
  rintro e w1 ⟨a1, n1, c1, rfl, ho, hb⟩
  have HO := Lib.hid ho
  have HB := Lib.hid hb
  clear ho hb
  go_wp2_with fail
  refine (dkUnsynced_any B g k w1 (HD.out.below HB.out) HW.out).mono ?_
  rintro e w2 ⟨u, v, L, rfl, hL, hp, hb⟩
  have HN : Hid (CpR w k (.returned (.pointer (some ⟨w2.heap.size, 0, none⟩))) (w2.alloc (.cells #[.slice a1 n1 c1, .slice u L.length v] 53))) := by
    have hb2 := HB.out.trans (hb.mono HB.out.size)
    have ho2 := HO.out.keep (Kept.of_below (S := fun _ => False) hb (fun i hi hi2 => by omega)) (fun _ _ => id)
    have hbA : Below w2.heap.size w2 (w2.alloc (.cells #[.slice a1 n1 c1, .slice u L.length v] 53)) := (Below.refl _ _).alloc (Nat.le_refl _) _
    have hl1 : n1 = k.d.length := HO.out.len.symm
    have hws : ∀ x ∈ L, (x.at_, x.d) ∈ k.ws := fun x hx => by rw [← hp]; exact List.mem_map.2 ⟨x, hx, rfl⟩
    have hw2 : ∀ x ∈ L, ∃ z ∈ k.W, z.at_ = x.at_ ∧ z.d = x.d := fun x hx => by
      obtain ⟨z, hz, e⟩ := List.mem_map.1 (hws x hx)
      simp only [Uw.pl, Prod.mk.injEq] at e
      exact ⟨z, hz, e.1, e.2⟩
    refine ⟨w2.heap.size, ⟨a1, c1, k.d, u, v, L⟩, rfl, ⟨⟨HD.out.ok.few, HD.out.ok.byt, fun x hx => ?_, fun x hx => ?_, fun x hx => ?_⟩, ?_, ?_, ?_, ?_, hb2.size⟩, rfl, hp, hb2.alloc hb2.size _⟩
    · obtain ⟨z, hz, e1, e2⟩ := hw2 x hx
      rw [← e1]; exact HD.out.ok.at0 z hz
    · obtain ⟨z, hz, e1, e2⟩ := hw2 x hx
      rw [← e1, ← e2]; exact HD.out.ok.at1 z hz
    · obtain ⟨z, hz, e1, e2⟩ := hw2 x hx
      rw [← e2]; exact HD.out.ok.wbyt z hz
    · rw [hl1]; exact Blk_new _ _ _
    · rw [hl1] at ho2
      exact ho2.keep (Kept.of_below (S := fun _ => False) hbA (fun i hi hi2 => by omega)) (fun _ _ => id)
    · exact (hL.mono HB.out.size).below hbA
    · intro x hx b hb1 hb2
      have h1 := (HO.out.blk_ge b hb1).2
      have h2 := ((hL.data x hx).blk_ge b hb2).1
      omega
  clear hL hp hb
  go_wp2_with fail
  go_ret
  exact HN.out
end Go.Proofs.Ytbghdlgfpfeaeaa

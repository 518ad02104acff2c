/-
  The contract of Same of package ip. Conditions: headers whose numbers fit their Go types and whose options lie where the slices lead.
-/
import Derived.Test.YtjnbnjdajkhkpaaIpEq
namespace Go.Proofs.Ytjnbnjdajkhkpaa
open Go.RowKit

set_option maxRecDepth 100000 in
set_option maxHeartbeats 20000000 in
theorem iSame_any (h g : Hd) (w : World) (k : h.ok w) (l : g.ok w) : Calls Try.prog 15 #[.agg h.cs.toArray, .agg g.cs.toArray] w (Gives w (.bool (smH h g))) := by
  have hr1 := Hd.range w h 26
  have hr2 := Hd.range (w.alloc (.cells h.cs.toArray 26)) g 26
  have hbA : Below w.heap.size w (w.alloc (.cells h.cs.toArray 26)) := (Below.refl _ _).alloc (Nat.le_refl _) _
  have hbB : Below (w.alloc (.cells h.cs.toArray 26)).heap.size (w.alloc (.cells h.cs.toArray 26)) ((w.alloc (.cells h.cs.toArray 26)).alloc (.cells g.cs.toArray 26)) := (Below.refl _ _).alloc (Nat.le_refl _) _
  have HB : Hid (Below w.heap.size w ((w.alloc (.cells h.cs.toArray 26)).alloc (.cells g.cs.toArray 26))) := hbA.trans (hbB.mono hbA.size)
  have hr1' := range_kept hbB hr1
  rw [World.size_alloc] at hr2
  have S1 := Lib.hid (srcRange hr1')
  have S2 := Lib.hid (srcRange hr2)
  have D1 := Lib.hid (dstRange k.src hr1')
  have D2 := Lib.hid (dstRange l.src hr2)
  have L1 := Lib.hid k.src
  have L2 := Lib.hid l.src
  have M1 := Lib.hid k.dst
  have M2 := Lib.hid l.dst
  have O1 := Lib.hid (k.row.rd.below HB.out)
  have O2 := Lib.hid (l.row.rd.below HB.out)
  have N1 := Lib.hid k.row.len
  have N2 := Lib.hid l.row.len
  have B1 := Lib.hid k.row.byt
  have B2 := Lib.hid l.row.byt
  have q1 := fun w' => run_eqArr4 w' h.src g.src k.src l.src
  have q2 := fun w' => run_eqArr4 w' h.dst g.dst k.dst l.dst
  have c16 := k.c16
  have d16 := l.c16
  clear k l hr1 hr2 hr1' hbA hbB
  have c0 := h.c0
  have d0 := g.c0
  have c1 := h.c1
  have d1 := g.c1
  have c2 := h.c2
  have d2 := g.c2
  have c3 := h.c3
  have d3 := g.c3
  have c4 := h.c4
  have d4 := g.c4
  have c5 := h.c5
  have d5 := g.c5
  have c6 := h.c6
  have d6 := g.c6
  have c7 := h.c7
  have d7 := g.c7
  have HSM : Hid (smH h g = (decide (h.tos = g.tos) && (decide (h.tot = g.tot) && (decide (h.id = g.id) && (decide (h.df = g.df) && (decide (h.mf = g.mf) && (decide (h.frag = g.frag) && (decide (h.ttl = g.ttl) && (decide (h.pro = g.pro) && (decide (h.src = g.src) && (decide (h.dst = g.dst) && decide (h.op = g.op)))))))))))) := rfl
  obtain ⟨cs, hcs⟩ : ∃ x, h.cs.toArray = x := ⟨_, rfl⟩
  obtain ⟨ds, hds⟩ : ∃ x, g.cs.toArray = x := ⟨_, rfl⟩
  rw [hcs] at HB S1 S2 D1 D2 O1 O2 c16 c0 c1 c2 c3 c4 c5 c6 c7 ⊢
  rw [hds] at HB S1 S2 D1 D2 O1 O2 d16 d0 d1 d2 d3 d4 d5 d6 d7 ⊢
  clear hcs hds
  obtain ⟨x0, hx0⟩ : ∃ x, h.tos = x := ⟨_, rfl⟩
  obtain ⟨y0, hy0⟩ : ∃ x, g.tos = x := ⟨_, rfl⟩
  rw [hx0] at c0 HSM
  rw [hy0] at d0 HSM
  clear hx0 hy0
  obtain ⟨x1, hx1⟩ : ∃ x, h.tot = x := ⟨_, rfl⟩
  obtain ⟨y1, hy1⟩ : ∃ x, g.tot = x := ⟨_, rfl⟩
  rw [hx1] at c1 HSM
  rw [hy1] at d1 HSM
  clear hx1 hy1
  obtain ⟨x2, hx2⟩ : ∃ x, h.id = x := ⟨_, rfl⟩
  obtain ⟨y2, hy2⟩ : ∃ x, g.id = x := ⟨_, rfl⟩
  rw [hx2] at c2 HSM
  rw [hy2] at d2 HSM
  clear hx2 hy2
  obtain ⟨x3, hx3⟩ : ∃ x, h.df = x := ⟨_, rfl⟩
  obtain ⟨y3, hy3⟩ : ∃ x, g.df = x := ⟨_, rfl⟩
  rw [hx3] at c3 HSM
  rw [hy3] at d3 HSM
  clear hx3 hy3
  obtain ⟨x4, hx4⟩ : ∃ x, h.mf = x := ⟨_, rfl⟩
  obtain ⟨y4, hy4⟩ : ∃ x, g.mf = x := ⟨_, rfl⟩
  rw [hx4] at c4 HSM
  rw [hy4] at d4 HSM
  clear hx4 hy4
  obtain ⟨x5, hx5⟩ : ∃ x, h.frag = x := ⟨_, rfl⟩
  obtain ⟨y5, hy5⟩ : ∃ x, g.frag = x := ⟨_, rfl⟩
  rw [hx5] at c5 HSM
  rw [hy5] at d5 HSM
  clear hx5 hy5
  obtain ⟨x6, hx6⟩ : ∃ x, h.ttl = x := ⟨_, rfl⟩
  obtain ⟨y6, hy6⟩ : ∃ x, g.ttl = x := ⟨_, rfl⟩
  rw [hx6] at c6 HSM
  rw [hy6] at d6 HSM
  clear hx6 hy6
  obtain ⟨x7, hx7⟩ : ∃ x, h.pro = x := ⟨_, rfl⟩
  obtain ⟨y7, hy7⟩ : ∃ x, g.pro = x := ⟨_, rfl⟩
  rw [hx7] at c7 HSM
  rw [hy7] at d7 HSM
  clear hx7 hy7
  obtain ⟨e8, he8⟩ : ∃ x, decide (h.src = g.src) = x := ⟨_, rfl⟩
  obtain ⟨e9, he9⟩ : ∃ x, decide (h.dst = g.dst) = x := ⟨_, rfl⟩
  rw [he8] at q1 HSM
  rw [he9] at q2 HSM
  clear he8 he9
  by_cases h0 : x0 = y0
  · subst h0
    by_cases h1 : x1 = y1
    · subst h1
      by_cases h2 : x2 = y2
      · subst h2
        by_cases h3 : x3 = y3
        · subst h3
          by_cases h4 : x4 = y4
          · subst h4
            by_cases h5 : x5 = y5
            · subst h5
              by_cases h6 : x6 = y6
              · subst h6
                by_cases h7 : x7 = y7
                · subst h7
                  cases e8 with
                  | true =>
                    cases e9 with
                    | true =>
                      go_enter Try.func15, Try.ntmps15
                      go_wp2_with (first | (refine ld4g (.tmp 60) rfl (by rfl) w.heap.size 8 rfl h.src L1.out S1.out ?_) | (refine ld4g (.tmp 62) rfl (by rfl) (w.heap.size + 1) 8 rfl g.src L2.out S2.out ?_) | (refine ld4g (.tmp 67) rfl (by rfl) w.heap.size 12 rfl h.dst M1.out D1.out ?_) | (refine ld4g (.tmp 69) rfl (by rfl) (w.heap.size + 1) 12 rfl g.dst M2.out D2.out ?_))
                      refine (bEqual_any _ _ _ _ _ _ h.op g.op _ N1.out N2.out O1.out O2.out B1.out B2.out).mono ?_
                      rintro e wz ⟨rfl, rfl⟩
                      obtain ⟨eo, heo⟩ : ∃ x, decide (h.op = g.op) = x := ⟨_, rfl⟩
                      have HEO := Lib.hid heo
                      rw [heo]
                      clear heo
                      go_wp2_with fail
                      go_ret
                      exact ⟨by rw [HSM.out, HEO.out]; simp, HB.out⟩
                    | false =>
                      clear O1 O2 N1 N2 B1 B2 c16 d16
                      go_enter Try.func15, Try.ntmps15
                      go_wp2_with (first | (refine ld4g (.tmp 60) rfl (by rfl) w.heap.size 8 rfl h.src L1.out S1.out ?_) | (refine ld4g (.tmp 62) rfl (by rfl) (w.heap.size + 1) 8 rfl g.src L2.out S2.out ?_) | (refine ld4g (.tmp 67) rfl (by rfl) w.heap.size 12 rfl h.dst M1.out D1.out ?_) | (refine ld4g (.tmp 69) rfl (by rfl) (w.heap.size + 1) 12 rfl g.dst M2.out D2.out ?_))
                      go_ret
                      exact ⟨by rw [HSM.out]; simp [], HB.out⟩
                  | false =>
                    clear q2 M1 M2 D1 D2 O1 O2 N1 N2 B1 B2 c16 d16
                    go_enter Try.func15, Try.ntmps15
                    go_wp2_with (first | (refine ld4g (.tmp 60) rfl (by rfl) w.heap.size 8 rfl h.src L1.out S1.out ?_) | (refine ld4g (.tmp 62) rfl (by rfl) (w.heap.size + 1) 8 rfl g.src L2.out S2.out ?_))
                    go_ret
                    exact ⟨by rw [HSM.out]; simp [], HB.out⟩
                · have hb : (x7 == y7) = false := by simpa using h7
                  clear q2 M1 M2 D1 D2 O1 O2 N1 N2 B1 B2 c16 d16 q1 L1 L2 S1 S2
                  go_enter Try.func15, Try.ntmps15
                  go_wp2_with fail
                  go_ret
                  exact ⟨by rw [HSM.out]; simp [h7], HB.out⟩
              · have hb : (x6 == y6) = false := by simpa using h6
                clear c7 d7 q2 M1 M2 D1 D2 O1 O2 N1 N2 B1 B2 c16 d16 q1 L1 L2 S1 S2
                go_enter Try.func15, Try.ntmps15
                go_wp2_with fail
                go_ret
                exact ⟨by rw [HSM.out]; simp [h6], HB.out⟩
            · have hb : (x5 == y5) = false := by simpa using h5
              clear c6 d6 c7 d7 q2 M1 M2 D1 D2 O1 O2 N1 N2 B1 B2 c16 d16 q1 L1 L2 S1 S2
              go_enter Try.func15, Try.ntmps15
              go_wp2_with fail
              go_ret
              exact ⟨by rw [HSM.out]; simp [h5], HB.out⟩
          · have hb : (x4 == y4) = false := by simpa using h4
            clear c5 d5 c6 d6 c7 d7 q2 M1 M2 D1 D2 O1 O2 N1 N2 B1 B2 c16 d16 q1 L1 L2 S1 S2
            go_enter Try.func15, Try.ntmps15
            go_wp2_with fail
            go_ret
            exact ⟨by rw [HSM.out]; simp [h4], HB.out⟩
        · have hb : (x3 == y3) = false := by simpa using h3
          clear c4 d4 c5 d5 c6 d6 c7 d7 q2 M1 M2 D1 D2 O1 O2 N1 N2 B1 B2 c16 d16 q1 L1 L2 S1 S2
          go_enter Try.func15, Try.ntmps15
          go_wp2_with fail
          go_ret
          exact ⟨by rw [HSM.out]; simp [h3], HB.out⟩
      · have hb : (x2 == y2) = false := by simpa using h2
        clear c3 d3 c4 d4 c5 d5 c6 d6 c7 d7 q2 M1 M2 D1 D2 O1 O2 N1 N2 B1 B2 c16 d16 q1 L1 L2 S1 S2
        go_enter Try.func15, Try.ntmps15
        go_wp2_with fail
        go_ret
        exact ⟨by rw [HSM.out]; simp [h2], HB.out⟩
    · have hb : (x1 == y1) = false := by simpa using h1
      clear c2 d2 c3 d3 c4 d4 c5 d5 c6 d6 c7 d7 q2 M1 M2 D1 D2 O1 O2 N1 N2 B1 B2 c16 d16 q1 L1 L2 S1 S2
      go_enter Try.func15, Try.ntmps15
      go_wp2_with fail
      go_ret
      exact ⟨by rw [HSM.out]; simp [h1], HB.out⟩
  · have hb : (x0 == y0) = false := by simpa using h0
    clear c1 d1 c2 d2 c3 d3 c4 d4 c5 d5 c6 d6 c7 d7 q2 M1 M2 D1 D2 O1 O2 N1 N2 B1 B2 c16 d16 q1 L1 L2 S1 S2
    go_enter Try.func15, Try.ntmps15
    go_wp2_with fail
    go_ret
    exact ⟨by rw [HSM.out]; simp [h0], HB.out⟩
end Go.Proofs.Ytjnbnjdajkhkpaa

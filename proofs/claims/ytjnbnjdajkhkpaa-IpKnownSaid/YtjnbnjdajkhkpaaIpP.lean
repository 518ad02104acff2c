/-
  What a header's writer holds, step by step, and the contract of parts of package ip. Conditions: a header that is right, at most 40 bytes of options, numbers that fit their Go types.
-/
import Derived.Test.YtjnbnjdajkhkpaaIpW
namespace Go.Proofs.Ytjnbnjdajkhkpaa
open Go.RowKit

/-- A header's bytes, with a checksum. -/
def hby (h : Hd) (c : Int) : List Int :=
  ((((((((((([] : List Int) ++ be 1 (64 + (5 + (h.n / 4 : Nat) : Int))) ++ be 1 h.tos) ++ be 2 h.tot) ++ be 2 h.id) ++ be 2 (flw h.df h.mf h.frag)) ++ be 1 h.ttl) ++ be 1 h.pro) ++ be 2 c) ++ h.src) ++ h.dst) ++ h.op

/-- A writer at g with these bytes, the row its own since w1; but for it all is as it was then. -/
structure PS (w1 : World) (g : Nat) (w : World) (xs : List Int) : Prop where
  wr : ∃ a n cap, Wr w w1.heap.size g a n cap xs
  kept : Kept (fun k => k = g) w1 w
theorem PS.cell {w1 w : World} {g : Nat} {xs : List Int} (h : PS w1 g w xs) {b o : Nat} {u : Value} (hc : w1.cell? ⟨b, o, none⟩ = some u) (hb : b ≠ g) : w.cell? ⟨b, o, none⟩ = some u := by
  rw [← hc]; exact World.cell?_of_block (h.kept.block b (World.block_lt_of_cell? w1 ⟨b, o, none⟩ hc) hb)
theorem PS.range {w1 w : World} {g : Nat} {xs : List Int} (h : PS w1 g w xs) {b o : Nat} {cs : List Value} (hc : w1.rangeAt b o cs) (hb : b ≠ g) : w.rangeAt b o cs := fun j v hv => h.cell (hc j v hv) hb
theorem PS.rd {w1 w : World} {g : Nat} {xs : List Int} (h : PS w1 g w xs) {a : Option Addr} {ys : List Int} (hr : Rd w1 a ys) (hb : ys ≠ [] → blk a ≠ some g) : Rd w a ys := by
  by_cases e : ys = []
  · subst e; exact Rd.empty _ _
  · exact hr.keep h.kept (fun b e2 k => hb e (by rw [e2, k]))
theorem Rd.apart {w : World} {a : Option Addr} {ys : List Int} (hr : Rd w a ys) {g : Nat} (hg : w.heap.size ≤ g) : ys ≠ [] → blk a ≠ some g := by
  intro hne e
  obtain ⟨b, o, rfl, hc⟩ := hr hne
  have h1 := World.block_lt_of_cell? w ⟨b, o + 0, none⟩ (hc 0 (List.length_pos_iff.2 hne))
  simp [blk] at e
  simp only at h1
  omega
theorem PS.drew {w1 w : World} {g : Nat} {xs : List Int} (h : PS w1 g w xs) : PS w1 g w.drew xs := by
  obtain ⟨a, n, c, h1, h2⟩ := h.wr
  exact ⟨⟨a, n, c, h1, h2⟩, h.kept.drew⟩
theorem PS.below {w1 w w' : World} {g : Nat} {xs : List Int} (h : PS w1 g w xs) (hb : Below w.heap.size w w') : PS w1 g w' xs := by
  obtain ⟨a, n, c, hw⟩ := h.wr
  have hk : Kept (fun _ => False) w w' := Kept.of_below hb (fun i hi hi' => by omega)
  exact ⟨⟨a, n, c, hw.keep hk id (fun _ _ => id)⟩, h.kept.trans hk (fun _ _ e => e.elim)⟩
theorem PS.size {w1 w : World} {g : Nat} {xs : List Int} (h : PS w1 g w xs) : w1.heap.size ≤ w.heap.size := h.kept.size
theorem PS.next {w1 w w' : World} {g : Nat} {xs ys : List Int} {a : Option Addr} (h : PS w1 g w xs) {n cap : Nat} (hw : Wr w w1.heap.size g a n cap xs) (hr : Wrote w w1.heap.size g a ys w') : PS w1 g w' ys := by
  obtain ⟨a', n', c', hw', hk, _⟩ := hr
  exact ⟨⟨a', n', c', hw'⟩, h.kept.trans hk (fun i hi e => by
    rcases e with e | e
    · exact e
    · have := (hw.2.blk_ge i e).1; omega)⟩
theorem PS.put {w1 w : World} {g : Nat} {xs : List Int} (h : PS w1 g w xs) (v k : Int) (hv : U64 v ∧ fitB v k = true) (hl : xs.length ≤ 1000) :
    Calls Try.prog 49 #[.pointer (some ⟨g, 0, none⟩), .int .u64 v, .int .i64 k] w fun e w' => e = .returned (.int .i64 0) ∧ PS w1 g w' (xs ++ be k.toNat v) := by
  obtain ⟨a, n, c, hw⟩ := h.wr
  refine (wPut_fit _ _ _ _ _ _ v k _ hw hv.1 hv.2 (by have := hw.2.len; omega) h.kept.size).mono ?_
  rintro e w' ⟨rfl, hr⟩
  exact ⟨rfl, h.next hw hr⟩
theorem PS.raw {w1 w : World} {g : Nat} {xs : List Int} (h : PS w1 g w xs) (b : Option Addr) (m d : Nat) (ys : List Int) (hm : ys.length = m) (hy : Rd w b ys) (hl : xs.length + m ≤ 1000000000) :
    Calls Try.prog 43 #[.pointer (some ⟨g, 0, none⟩), .slice b m d] w fun e w' => e = .returned (.int .i64 0) ∧ PS w1 g w' (xs ++ ys) := by
  obtain ⟨a, n, c, hw⟩ := h.wr
  refine (wRaw_any _ _ _ _ _ _ b m d ys _ hw hm hy (by have := hw.2.len; omega) h.kept.size).mono ?_
  rintro e w' ⟨rfl, hr⟩
  exact ⟨rfl, h.next hw hr⟩
theorem PS.check {w1 w : World} {g : Nat} {xs : List Int} (h : PS w1 g w xs) (c : Int) (hl : xs.length ≤ 1000000000) (h12 : 12 ≤ xs.length) (c0 : 0 ≤ c) (c1 : c ≤ 65535) :
    Calls Try.prog 30 #[.pointer (some ⟨g, 0, none⟩), .int .u16 c] w fun e w' => e = .returned (.tuple #[]) ∧ PS w1 g w' (splice xs 10 (be 2 c)) := by
  obtain ⟨a, n, cap, hw⟩ := h.wr
  refine (iCheck_any _ _ _ _ _ _ c _ hw (by have := hw.2.len; omega) (by have := hw.2.len; omega) c0 c1).mono ?_
  rintro e w' ⟨rfl, hr⟩
  exact ⟨rfl, h.next hw hr⟩
theorem PS.bytes {w1 w : World} {g : Nat} {xs : List Int} (h : PS w1 g w xs) (hl : xs.length ≤ 1000000000) :
    Calls Try.prog 32 #[.pointer (some ⟨g, 0, none⟩)] w (Made w xs) := by
  obtain ⟨a, n, cap, hw⟩ := h.wr
  exact wBytes_any _ _ _ _ _ _ _ hw (by have := hw.2.len; omega)
theorem PS.fresh (w : World) : PS (w.alloc (.cells #[.slice none 0 0] 64)) w.heap.size (w.alloc (.cells #[.slice none 0 0] 64)) [] := ⟨⟨none, 0, 0, Wr.new w _⟩, Kept.refl _ _⟩
/-- Seen from an elder world that differs by new blocks alone. -/
theorem PS.elder {w0 w1 w : World} {g : Nat} {xs : List Int} (h : PS w1 g w xs) (hb : Below w0.heap.size w0 w1) : PS w0 g w xs := by
  obtain ⟨a, n, c, hw⟩ := h.wr
  have hk : Kept (fun _ => False) w0 w1 := Kept.of_below hb (fun i hi hi' => by omega)
  exact ⟨⟨a, n, c, hw.1, hw.2.mono hb.size⟩, (hk.mono (T := fun k => k = g) (fun _ _ e => e.elim)).trans h.kept (fun _ _ e => e)⟩
theorem PS.belowNew {w1 w : World} {g : Nat} {xs : List Int} (h : PS w1 g w xs) (w0 : World) (hb : Below w0.heap.size w0 w1) (hg : w0.heap.size ≤ g) : Below w0.heap.size w0 w :=
  hb.trans (h.kept.below hb.size (fun k e => by omega))
theorem Rd.drw {w : World} {a : Option Addr} {xs : List Int} (h : Rd w a xs) : Rd w.drew a xs := h
theorem u64_wrap (x : Int) (h0 : 0 ≤ x) (h1 : x < 18446744073709551616) : IntKind.u64.wrap x = x := by rw [IntKind.wrap_u64]; omega
theorem or64 (m : Nat) (h : m ≤ 10) : bits .or .i64 64 (5 + (m : Int)) = 64 + (5 + (m : Int)) := by
  have : m = 0 ∨ m = 1 ∨ m = 2 ∨ m = 3 ∨ m = 4 ∨ m = 5 ∨ m = 6 ∨ m = 7 ∨ m = 8 ∨ m = 9 ∨ m = 10 := by omega
  rcases this with rfl | rfl | rfl | rfl | rfl | rfl | rfl | rfl | rfl | rfl | rfl <;> rfl
theorem hby_len (h : Hd) (c : Int) (h1 : h.src.length = 4) (h2 : h.dst.length = 4) (h3 : h.op.length = h.n) : (hby h c).length = 20 + h.n := by
  simp only [hby, List.length_append, be_length, List.length_nil]; omega

set_option maxRecDepth 100000 in
set_option maxHeartbeats 1000000 in
theorem iParts_any (h : Hd) (g : Nat) (w : World) (hp : PS w g w []) (k : h.ok w) (hf : h.frag ≤ 8191) (hm : h.n % 4 = 0) (hn : h.n ≤ 40) (hna : h.op ≠ [] → blk h.a ≠ some g) :
    Calls Try.prog 29 #[.pointer (some ⟨g, 0, none⟩), .agg h.cs.toArray] w fun e w' => e = .returned (.tuple #[]) ∧ PS w g w' (hby h 0) := by
  obtain ⟨q, hqe⟩ : ∃ q : Int, 5 + ((h.n / 4 : Nat) : Int) = q := ⟨_, rfl⟩
  have hq0 : 0 ≤ q := by omega
  have hq1 : q ≤ 15 := by omega
  have hor : bits .or .i64 64 q = 64 + q := by rw [← hqe]; exact or64 _ (by omega)
  obtain ⟨_, hgl⟩ : ∃ o, w.heap[g]? = some o := by obtain ⟨_, _, _, hw⟩ := hp.wr; exact ⟨_, hw.1⟩
  have hglt : g < w.heap.size := (Array.getElem?_eq_some_iff.1 hgl).1
  have HR := Hd.range w h 26
  have HB1 : Below w.heap.size w (w.alloc (.cells h.cs.toArray 26)) := (Below.refl w.heap.size w).alloc (Nat.le_refl _) _
  have HP0 : Hid (PS w g (w.alloc (.cells h.cs.toArray 26)) []) := hp.below HB1
  have HP1 : PS (w.alloc (.cells h.cs.toArray 26)) g (w.alloc (.cells h.cs.toArray 26)) [] := by
    obtain ⟨a0, n0, c0, hw0⟩ := hp.wr
    have hw0' := hw0
    rcases hw0.2.cases with ⟨rfl, rfl, rfl, _⟩ | ⟨g', cur, e, hbg, hg', hh, hh2, _⟩
    · exact ⟨⟨none, 0, 0, (HB1.block g hglt).trans hw0.1, Own.nil _ _⟩, Kept.refl _ _⟩
    · have := (Array.getElem?_eq_some_iff.1 hg').1; omega
  have HN0 : Hid (h.ok w) := k
  have fT := Lib.hid (fit1 (c := h.tos) k.tos.1 (by have := k.tos.2; omega))
  have fO := Lib.hid (fit2 (c := h.tot) k.tot.1 (by have := k.tot.2; omega))
  have fI := Lib.hid (fit2 (c := h.id) k.id.1 (by have := k.id.2; omega))
  have fL := Lib.hid (fit1 (c := h.ttl) k.ttl.1 (by have := k.ttl.2; omega))
  have fP := Lib.hid (fit1 (c := h.pro) k.pro.1 (by have := k.pro.2; omega))
  have fS := Lib.hid (fit1 (c := 64 + q) (by omega) (by omega))
  have fZ := Lib.hid (fit2 (c := 0) (by omega) (by omega))
  have hfr := @flw_range h.df h.mf h.frag k.frag.1 hf
  have fF := Lib.hid (fit2 (c := flw h.df h.mf h.frag) hfr.1 (by omega))
  have hlen := HN0.out.len
  have HLS := Lib.hid k.src
  have HLD := Lib.hid k.dst
  have HLO := Lib.hid k.row.len
  have cS := range_cell HR (h.c16' k)
  have c0 := Lib.hid (range_cell HR h.c0)
  have c1 := Lib.hid (range_cell HR h.c1)
  have c2 := Lib.hid (range_cell HR h.c2)
  have c6 := Lib.hid (range_cell HR h.c6)
  have c7 := Lib.hid (range_cell HR h.c7)
  have HSRC := Lib.hid (k.srcAt HR)
  have HDST := Lib.hid (k.dstAt HR)
  have HOPT : Hid (Rd (w.alloc (.cells h.cs.toArray 26)) h.a h.op) := k.row.rd.below HB1
  have HBY : Hid (hby h 0 = (((((((((([] ++ be 1 (64 + q)) ++ be 1 h.tos) ++ be 2 h.tot) ++ be 2 h.id) ++ be 2 (flw h.df h.mf h.frag)) ++ be 1 h.ttl) ++ be 1 h.pro) ++ be 2 0) ++ h.src) ++ h.dst) ++ h.op) := by
    show hby h 0 = _
    unfold hby; rw [hqe]
  have hne : Hid (¬ w.heap.size = g) := by show ¬ _; omega
  have bT := Lib.hid k.tos
  have bO := Lib.hid k.tot
  have bI := Lib.hid k.id
  have bL := Lib.hid k.ttl
  have bP := Lib.hid k.pro
  have bF := Lib.hid hfr
  have HFG := Lib.hid hf
  have HW1 : Hid ((w.alloc (.cells h.cs.toArray 26)).heap.size = w.heap.size + 1) := by show _ = _; simp
  have HPa := Lib.hid HP1
  have HRR := Lib.hid HR
  have HBW := Lib.hid HB1
  have HNA := Lib.hid hna
  have HNN := Lib.hid hn
  obtain ⟨n, hnn⟩ : ∃ n, h.n = n := ⟨_, rfl⟩
  have hq : (20 + (n : Int)) / 4 = q := by omega
  rw [hnn] at cS HLO HNN hn
  clear k hp hqe hgl HB1 HP0 HP1 hlen hglt hna hf hm hfr HR hnn
  obtain ⟨cs, hcs⟩ : ∃ cs, h.cs.toArray = cs := ⟨_, rfl⟩
  obtain ⟨tos, htos⟩ : ∃ x, h.tos = x := ⟨_, rfl⟩
  obtain ⟨tot, htot⟩ : ∃ x, h.tot = x := ⟨_, rfl⟩
  obtain ⟨id, hid⟩ : ∃ x, h.id = x := ⟨_, rfl⟩
  obtain ⟨ttl, httl⟩ : ∃ x, h.ttl = x := ⟨_, rfl⟩
  obtain ⟨pro, hpro⟩ : ∃ x, h.pro = x := ⟨_, rfl⟩
  have HCS := Lib.hid hcs
  rw [htos] at c0 fT bT HBY
  rw [htot] at c1 fO bO HBY
  rw [hid] at c2 fI bI HBY
  rw [httl] at c6 fL bL HBY
  rw [hpro] at c7 fP bP HBY
  rw [hcs] at c0 c1 c2 c6 c7 cS HPa HBW HSRC HDST HOPT HW1 HRR ⊢
  clear htos htot hid httl hpro hcs
  go_enter Try.func29, Try.ntmps29
  go_wp2_with fail
  refine (HPa.out.put _ _ fS.out (by simp)).mono ?_
  rintro e w1 ⟨rfl, hp1⟩
  have cSS := Lib.hid cS
  clear hq hor hq0 hq1 hn cS
  have HQ1 := Lib.hid hp1
  have d1 := hp1.cell c0.out hne.out
  have b0 := u64_wrap _ bT.out.1 (by have := bT.out.2; omega)
  clear hp1
  go_wp2_with fail
  go_region_held3 (fun w' => w'.cell? ⟨w.heap.size, 0, none⟩ = some (.int .u8 tos)) (go_keep)
    (first
      | ((go_at_call 49; (with_reducible refine (HQ1.out.drew.put _ _ fT.out (by simp [be_length])).mono ?_); rintro e w2 ⟨rfl, hp2⟩; have e1 := hp2.cell c0.out hne.out))
      | fail)
  clear d1 e1 b0 HQ1
  have HQ2 := Lib.hid hp2
  have d2 := hp2.cell c1.out hne.out
  have b0 := u64_wrap _ bO.out.1 (by have := bO.out.2; omega)
  clear hp2
  go_wp2_with fail
  go_region_held3 (fun w' => w'.cell? ⟨w.heap.size, 1, none⟩ = some (.int .u16 tot)) (go_keep)
    (first
      | ((go_at_call 49; (with_reducible refine (HQ2.out.drew.put _ _ fO.out (by simp [be_length])).mono ?_); rintro e w3 ⟨rfl, hp3⟩; have e2 := hp3.cell c1.out hne.out))
      | fail)
  clear d2 e2 b0 HQ2
  have HQ3 := Lib.hid hp3
  have d3 := hp3.cell c2.out hne.out
  have b0 := u64_wrap _ bI.out.1 (by have := bI.out.2; omega)
  clear hp3
  go_wp2_with fail
  go_region_held3 (fun w' => w'.cell? ⟨w.heap.size, 2, none⟩ = some (.int .u16 id)) (go_keep)
    (first
      | ((go_at_call 49; (with_reducible refine (HQ3.out.drew.put _ _ fI.out (by simp [be_length])).mono ?_); rintro e w4 ⟨rfl, hp4⟩; have e3 := hp4.cell c2.out hne.out))
      | fail)
  clear d3 e3 b0 HQ3
  have HQ4 := Lib.hid hp4
  have hr := hp4.range HRR.out hne.out
  obtain ⟨F, hF⟩ : ∃ F, flw h.df h.mf h.frag = F := ⟨_, rfl⟩
  rw [hF] at fF HBY bF
  have b0 := u64_wrap F bF.out.1 (by have := bF.out.2; omega)
  have HFF := Lib.hid hF
  clear hp4 hF
  go_wp2_with fail
  refine wp_region_held_drew (S := fun w' => World.rangeAt w' w.heap.size 0 h.cs) (by kernel_rfl) hr (fun hS => ?_)
  refine tk 0 38 (.pointer (some ⟨g, 0, none⟩)) rfl rfl (by kernel_rfl) (by kernel_rfl) (by kernel_rfl) (fun _ _ _ h => h) (Or.inl ⟨by rfl, fun w' h => ?_⟩) hS ?_
  · go_simp
  refine tk 1 39 (.pointer (some ⟨g, 0, none⟩)) rfl rfl (by kernel_rfl) (by kernel_rfl) (by kernel_rfl) (fun _ _ _ h => h) (Or.inl ⟨by rfl, fun w' h => ?_⟩) hS ?_
  · go_simp
  refine tk 2 40 (.pointer (some ⟨g, 0, none⟩)) rfl rfl (by kernel_rfl) (by kernel_rfl) (by kernel_rfl) (fun _ _ _ h => h) (Or.inl ⟨by rfl, fun w' h => ?_⟩) hS ?_
  · go_simp
  refine tk 3 41 (.agg (h.cs).toArray) rfl rfl (by kernel_rfl) (by kernel_rfl) (by kernel_rfl) (fun _ _ _ h => h) (yieldsIf_load_mid (by rfl) _ _ rfl (w.heap.size) 0 rfl (h.cs) _ (fun w' h => h) Try.underlying26 rfl (by rw [HN0.out.len]; exact infH)) hS ?_
  simp only [Act.put, List.setIfInBounds_toArray, List.set_cons_zero, List.set_cons_succ]
  refine wpAnyH_ready (rs := [4]) (by kernel_rfl) (by simp) (AllReadyH.cons rfl (fun K hK => ?_) AllReadyH.nil)
  rw [if_pos (by rfl)]
  go_wp2_with fail
  refine (iFlags_any h _ _ HN0.out HFG.out).mono ?_
  rintro e wf ⟨rfl, hbf⟩
  rw [HFF.out]
  have hpf := HQ4.out.below (undrew hbf)
  have hrf := hpf.range HRR.out hne.out
  have HPF := Lib.hid hpf
  clear hbf hpf
  clear hS
  refine hK.out _ _ hrf (fun hS => ?_)
  clear hK K
  refine tk 5 43 (.int .u64 F) rfl rfl (by kernel_rfl) (by kernel_rfl) (by kernel_rfl) (fun _ _ _ h => h) (Or.inl ⟨by rfl, fun w' h => ?_⟩) hS ?_
  · go_simp
  simp only [Act.put, List.setIfInBounds_toArray, List.set_cons_zero, List.set_cons_succ]
  refine wpAnyH_ready (rs := [6]) (by kernel_rfl) (by simp) (AllReadyH.cons rfl (fun K hK => ?_) AllReadyH.nil)
  rw [if_pos (by rfl)]
  go_wp2_with fail
  refine (HPF.out.put _ _ fF.out (by simp [be_length])).mono ?_
  rintro e w5 ⟨rfl, hp5⟩
  have hrg := hp5.range HRR.out hne.out
  clear hS
  refine hK.out _ _ hrg (fun hS => ?_)
  clear hK K
  refine wpAnyH_done (by kernel_rfl) ?_ _
  clear hr hrf hrg hS b0 HPF HQ4
  have HQ5 := Lib.hid hp5
  have d5 := hp5.cell c6.out hne.out
  have b0 := u64_wrap _ bL.out.1 (by have := bL.out.2; omega)
  clear hp5
  go_wp2_with fail
  go_region_held3 (fun w' => w'.cell? ⟨w.heap.size, 6, none⟩ = some (.int .u8 ttl)) (go_keep)
    (first
      | ((go_at_call 49; (with_reducible refine (HQ5.out.drew.put _ _ fL.out (by simp [be_length])).mono ?_); rintro e w6 ⟨rfl, hp6⟩; have e5 := hp6.cell c6.out hne.out))
      | fail)
  clear d5 e5 b0 HQ5
  have HQ6 := Lib.hid hp6
  have d6 := hp6.cell c7.out hne.out
  have b0 := u64_wrap _ bP.out.1 (by have := bP.out.2; omega)
  clear hp6
  go_wp2_with fail
  go_region_held3 (fun w' => w'.cell? ⟨w.heap.size, 7, none⟩ = some (.int .u8 pro)) (go_keep)
    (first
      | ((go_at_call 49; (with_reducible refine (HQ6.out.drew.put _ _ fP.out (by simp [be_length])).mono ?_); rintro e w7 ⟨rfl, hp7⟩; have e6 := hp7.cell c7.out hne.out))
      | fail)
  clear d6 e6 b0 HQ6
  have HQ7 := Lib.hid hp7
  clear hp7
  go_wp2_with fail
  refine (HQ7.out.put _ _ fZ.out (by simp [be_length])).mono ?_
  rintro e w8 ⟨rfl, hp8⟩
  clear HQ7
  have HQ8 := Lib.hid hp8
  have HZ8 := Lib.hid (hp8.rd HSRC.out (by intro _ e; simp [blk] at e; exact hne.out e))
  clear hp8
  go_wp2_with fail
  go_region_held3 (fun _ => True) (trivial)
    (first
      | ((go_at_call 43; (with_reducible refine (HQ8.out.drew.raw _ _ _ _ HLS.out HZ8.out.drw (by simp [be_length])).mono ?_); rintro e w9 ⟨rfl, hp9⟩))
      | fail)
  clear HQ8 HZ8
  have HQ9 := Lib.hid hp9
  have HZ9 := Lib.hid (hp9.rd HDST.out (by intro _ e; simp [blk] at e; exact hne.out e))
  clear hp9
  go_wp2_with fail
  go_region_held3 (fun _ => True) (trivial)
    (first
      | ((go_at_call 43; (with_reducible refine (HQ9.out.drew.raw _ _ _ _ HLD.out HZ9.out.drw (by simp [be_length, HLS.out])).mono ?_); rintro e w10 ⟨rfl, hp10⟩))
      | fail)
  clear HQ9 HZ9
  have HQ10 := Lib.hid hp10
  have d10 := hp10.cell cSS.out hne.out
  have HZ10 := Lib.hid (hp10.rd HOPT.out HNA.out)
  clear hp10
  go_wp2_with fail
  go_region_held3 (fun w' => w'.cell? ⟨w.heap.size, 16, none⟩ = some (.slice h.a n h.c)) (go_keep)
    (first
      | ((go_at_call 43; (with_reducible refine (HQ10.out.drew.raw _ _ _ _ HLO.out HZ10.out.drw (by have := HNN.out; simp [be_length, HLS.out, HLD.out]; omega)).mono ?_); rintro e w11 ⟨rfl, hp11⟩; have e10 := hp11.cell cSS.out hne.out))
      | fail)
  clear d10 e10 HQ10 HZ10
  have HPX := Lib.hid (hp11.elder HBW.out)
  clear hp11
  go_wp2_with fail
  go_end0
  refine ⟨rfl, ?_⟩
  rw [HBY.out]
  exact HPX.out
end Go.Proofs.Ytjnbnjdajkhkpaa

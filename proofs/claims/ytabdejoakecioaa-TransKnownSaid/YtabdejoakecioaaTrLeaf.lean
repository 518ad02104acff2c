/-
  The smallest functions of package trans: areAddrs, number, clone, the parts of the three kinds that own, and where headers end. Conditions: bytes that lie where the slices lead, numbers that fit their Go types.
-/
import Derived.Test.YtabdejoakecioaaTrMid
namespace Go.Proofs.Ytabdejoakecioaa
open Go.RowKit

/-- Are they two addresses, of one length? -/
def adB (n m : Nat) : Bool := decide (n = m) && (decide (n = 4) || decide (n = 16))
theorem adB_iff (n m : Nat) : adB n m = true ↔ n = m ∧ (n = 4 ∨ n = 16) := by simp [adB]
theorem tAreAddrs_any (a b : Option Addr) (n c m d : Nat) (w : World) (hn : n ≤ 9223372036854775807) (hm : m ≤ 9223372036854775807) :
    Calls Try.prog 32 #[.slice a n c, .slice b m d] w fun e w' => e = .returned (.bool (adB n m)) ∧ w = w' := by
  by_cases h1 : n = m
  · subst h1
    have q1 : ((n : Int) == (n : Int)) = true := by simp
    by_cases h4 : n = 4
    · subst h4
      go_enter Try.func32, Try.ntmps32
      go_wp2_with fail
      go_ret
      exact ⟨rfl, rfl⟩
    · have q4 : ((n : Int) == 4) = false := by simp; omega
      have HA : Hid (adB n n = ((n : Int) == 16)) := by
        show adB n n = _
        rw [Bool.eq_iff_iff, adB_iff, beq_iff_eq]; omega
      go_enter Try.func32, Try.ntmps32
      go_wp2_with fail
      go_ret
      exact ⟨by rw [HA.out]; rfl, rfl⟩
  · have q1 : ((n : Int) == (m : Int)) = false := by simp; omega
    have HA : Hid (adB n m = false) := by show adB n m = false; simp [adB, h1]
    go_enter Try.func32, Try.ntmps32
    go_wp2_with fail
    go_ret
    exact ⟨by rw [HA.out]; rfl, rfl⟩

theorem tNumber_any (a : Option Addr) (n cap : Nat) (xs : List Int) (p k : Int) (w : World) (hn : xs.length = n) (hr : Rd w a xs) (hb : Byt xs) (hl : n ≤ 1099511627776) (hc : n ≤ cap) (hp : p ≤ 9223372036854775807) :
    Calls Try.prog 44 #[.slice a n cap, .int .i64 p, .int .i64 k] w fun e w' => e = .returned (.int .u64 (getV xs p k)) ∧ w = w' := by
  have HN := Lib.hid hn
  have HR := Lib.hid hr
  have HB := Lib.hid hb
  clear hn hr hb
  go_enter Try.func44, Try.ntmps44
  go_wp2_with fail
  refine (get_any a n cap xs p k _ HN.out HR.out HB.out (by omega) hc hp).mono ?_
  rintro e w1 ⟨rfl, rfl⟩
  go_wp2_with fail
  go_ret
  exact ⟨rfl, rfl⟩
/-- Four bytes side by side. -/
def lng (xs : List Int) (j : Nat) : Int := num ((xs.drop j).take 4)
theorem get_four (xs : List Int) (j : Nat) (h : j + 4 ≤ xs.length) : getV xs j 4 = lng xs j := by
  have e : getE xs j 4 = 0 := by unfold getE; rw [if_pos (by simp [szB]), if_pos (by omega)]
  unfold getV; rw [if_pos e]; rfl
theorem lng_range {xs : List Int} (hb : Byt xs) (j : Nat) : 0 ≤ lng xs j ∧ lng xs j < 4294967296 := by
  have h := num_range ((xs.drop j).take 4) ((hb.drop j).take 4)
  have hl : ((xs.drop j).take 4).length ≤ 4 := by rw [List.length_take]; omega
  have h2 := pw_mono hl
  have h3 : pw 4 = 4294967296 := pw_lits.2.2.2.1
  unfold lng
  omega
theorem tNum2 (a : Option Addr) (n cap : Nat) (xs : List Int) (j : Nat) (w : World) (hn : xs.length = n) (hr : Rd w a xs) (hb : Byt xs) (hl : n ≤ 1099511627776) (hc : n ≤ cap) (hj : j + 2 ≤ n) :
    Calls Try.prog 44 #[.slice a n cap, .int .i64 j, .int .i64 2] w fun e w' => e = .returned (.int .u64 (wordAt xs j)) ∧ w = w' := by
  rw [← (get_two xs j (by omega)).2]
  exact tNumber_any a n cap xs j 2 w hn hr hb hl hc (by omega)
theorem tNum4 (a : Option Addr) (n cap : Nat) (xs : List Int) (j : Nat) (w : World) (hn : xs.length = n) (hr : Rd w a xs) (hb : Byt xs) (hl : n ≤ 1099511627776) (hc : n ≤ cap) (hj : j + 4 ≤ n) :
    Calls Try.prog 44 #[.slice a n cap, .int .i64 j, .int .i64 4] w fun e w' => e = .returned (.int .u64 (lng xs j)) ∧ w = w' := by
  rw [← get_four xs j (by omega)]
  exact tNumber_any a n cap xs j 4 w hn hr hb hl hc (by omega)

theorem tClone_any (a : Option Addr) (n c : Nat) (xs : List Int) (w : World) (hn : xs.length = n) (hr : Rd w a xs) (hlim : n ≤ 70368744177664) :
    Calls Try.prog 43 #[.slice a n c] w (Made w xs) := by
  obtain ⟨a', cap', w1, hrun, hown, hg, hb⟩ := run_append_rd w w.heap.size 24 (Own.nil w w.heap.size) c hn hr (by omega) (Nat.le_refl _)
  rw [List.nil_append] at hown
  have HR := Lib.hid hrun
  have HF : Hid (Made w xs (.returned (.slice a' (0 + n) cap')) w1) := ⟨a', 0 + n, cap', rfl, hown, (Below.refl _ _).grown hg (Nat.le_refl _) (by simp [blk])⟩
  clear hrun hown hg hb hn hr
  rw [Nat.zero_add] at HR HF
  go_enter Try.func43, Try.ntmps43
  go_wp2_with (at_builtin; refine Lib.wpList_append_run _ rfl _ _ _ _ rfl _ _ rfl rfl _ _ HR.out ?_)
  go_ret
  exact HF.out

theorem tEndsI_any (a : Option Addr) (n c : Nat) (w : World) (_hn : n ≤ 9223372036854775807) : Calls Try.prog 54 #[.slice a n c] w fun e w' => e = .returned (.tuple #[.int .i64 4, .int .i64 n]) ∧ w = w' := by
  go_enter Try.func54, Try.ntmps54
  go_wp2_with fail
  go_ret2
  exact ⟨rfl, rfl⟩
theorem tEndsU_any (a : Option Addr) (n cap : Nat) (xs : List Int) (w : World) (hn : xs.length = n) (hr : Rd w a xs) (hb : Byt xs) (hl : n ≤ 1099511627776) (hc : n ≤ cap) (h6 : 6 ≤ n) :
    Calls Try.prog 62 #[.slice a n cap] w fun e w' => e = .returned (.tuple #[.int .i64 8, .int .i64 (wordAt xs 4)]) ∧ w = w' := by
  have HN := Lib.hid hn
  have HR := Lib.hid hr
  have HB := Lib.hid hb
  obtain ⟨w0, w1⟩ := wordAt_range hb 4
  clear hn hr hb
  go_enter Try.func62, Try.ntmps62
  go_wp2_with fail
  refine (tNum2 a n cap xs 4 _ HN.out HR.out HB.out hl hc (by omega)).mono ?_
  rintro e w1 ⟨rfl, rfl⟩
  obtain ⟨y, hy⟩ : ∃ y, wordAt xs 4 = y := ⟨_, rfl⟩
  have HY := Lib.hid hy
  rw [hy] at w0 w1 ⊢
  clear hy
  go_wp2_with fail
  go_ret2
  exact ⟨by rw [HY.out]; rfl, rfl⟩
theorem tEndsT_any (a : Option Addr) (n cap : Nat) (xs : List Int) (w : World) (hn : xs.length = n) (hr : Rd w a xs) (hb : Byt xs) (hl : n ≤ 1099511627776) (h12 : 12 < n) :
    Calls Try.prog 58 #[.slice a n cap] w fun e w' => e = .returned (.tuple #[.int .i64 (xs.getD 12 0 / 16 * 4), .int .i64 n]) ∧ w = w' := by
  obtain ⟨b, o, rfl, hcell⟩ := hr (by intro e; rw [e] at hn; simp at hn; omega)
  have hc := hcell 12 (by omega)
  obtain ⟨x0, x1⟩ := hb.get 12
  obtain ⟨x, hx⟩ : ∃ x, xs.getD 12 0 = x := ⟨_, rfl⟩
  rw [hx] at hc x0 x1 ⊢
  clear hr hb hcell hn hx
  go_enter Try.func58, Try.ntmps58
  go_wp2_with fail
  go_ret2
  exact ⟨rfl, rfl⟩

/-- What a kind keeps of a segment. -/
def Sg.own (s : Sg) (p : Int) : Sg :=
  if p = 6 then { s with p := { s.p with ty := 0, co := 0 } }
  else if p = 17 then ⟨{ pl0 with pro := s.p.pro, src := s.p.src, dst := s.p.dst, dt := s.p.dt }, none, 0, 0, s.da, s.dn, s.dc⟩
  else ⟨{ pl0 with pro := s.p.pro, ty := s.p.ty, co := s.p.co, dt := s.p.dt }, none, 0, 0, s.da, s.dn, s.dc⟩
theorem z8 : (0 : Int) ≤ 0 ∧ (0 : Int) < 256 := by decide
theorem z16 : (0 : Int) ≤ 0 ∧ (0 : Int) < 65536 := by decide
theorem z32 : (0 : Int) ≤ 0 ∧ (0 : Int) < 4294967296 := by decide
theorem Sg.ok.own {w : World} {s : Sg} (h : s.ok w) (p : Int) : (s.own p).ok w := by
  have f := h.fit
  unfold Sg.own
  split
  · exact ⟨⟨f.pro, f.src, f.dst, f.seq, f.ack, f.fl, f.win, f.urg, f.op, z8, z8, f.dt⟩, h.opt, h.dat⟩
  · split
    · exact ⟨⟨f.pro, f.src, f.dst, z32, z32, z8, z16, z16, Byt.nil, z8, z8, f.dt⟩, Row.no_ok w, h.dat⟩
    · exact ⟨⟨f.pro, z16, z16, z32, z32, z8, z16, z16, Byt.nil, f.ty, f.co, f.dt⟩, Row.no_ok w, h.dat⟩
set_option maxHeartbeats 1000000 in
theorem tOwnT_any (s : Sg) (w : World) : Calls Try.prog 55 #[.agg s.cs.toArray] w (Gives w (.agg (s.own 6).cs.toArray)) := by
  obtain ⟨wB, hwB⟩ : ∃ x, (w.alloc (.cells s.cs.toArray 26)).alloc (.cells #[.int .u8 0, .int .u16 0, .int .u16 0, .int .u32 0, .int .u32 0, .int .u8 0, .int .u16 0, .int .u16 0, .slice none 0 0, .int .u8 0, .int .u8 0, .slice none 0 0] 26) = x := ⟨_, rfl⟩
  obtain ⟨wD, hwD⟩ : ∃ x, (w.alloc (.cells ((s.cs.set 9 (.int .u8 0)).set 10 (.int .u8 0)).toArray 26)).alloc (.cells #[.int .u8 0, .int .u16 0, .int .u16 0, .int .u32 0, .int .u32 0, .int .u8 0, .int .u16 0, .int .u16 0, .slice none 0 0, .int .u8 0, .int .u8 0, .slice none 0 0] 26) = x := ⟨_, rfl⟩
  have tA : wB.there w.heap.size 0 12 := by rw [← hwB]; exact World.there_alloc (there_new _ _ _ _ rfl _ rfl) _
  have rA : wB.rangeAt w.heap.size 0 s.cs := by rw [← hwB]; exact World.rangeAt_alloc (range_new _ _ _) _
  have c9 := range_cell rA s.c9
  have c10 := range_cell rA s.c10
  have f9 := (tA 9 (by omega)).2
  have f10 := (tA 10 (by omega)).2
  rw [Nat.zero_add] at f9 f10
  have HR : Hid (wD.rangeAt w.heap.size 0 (s.own 6).cs) := by show World.rangeAt _ _ _ _; rw [← hwD]; exact World.rangeAt_alloc (range_new _ _ _) _
  have HT : Hid (wD.there (w.heap.size + 1) 0 12) := by show World.there _ _ _ _; rw [← hwD]; exact there_new _ _ _ _ rfl _ (by simp)
  have HB : Hid (Below w.heap.size w wD) := by show Below _ _ _; rw [← hwD]; exact ((Below.refl _ _).alloc (Nat.le_refl _) _).alloc (by simp) _
  clear rA tA
  rw [← hwB] at c9 c10 f9 f10
  rw [← hwD] at HR HT HB
  clear hwB hwD
  go_enter Try.func55, Try.ntmps55
  go_wp2_with (first | (refine ldS (.tmp 1) rfl rfl w.heap.size rfl (s.own 6) HR.out ?_) | (refine stC 26 (.tmp 2) (.tmp 5) rfl rfl (w.heap.size + 1) 0 (s.own 6).cs rfl rfl HT.out infS (Sg.one _) ?_))
  refine bodyPost_ret (v := .agg (s.own 6).cs.toArray) (ret_mid Try.results55 _ _ _ _ (s.own 6).cs _ rfl (World.rangeAt_setCells_same _ _ _ _ HT.out) Try.underlying26 rfl infS) rfl ⟨rfl, Below.setCells HB.out _ (by omega) _ _⟩
theorem builtU (s : Sg) : Try.prog.built 26 [(0, .int .u8 s.p.pro), (1, .int .u16 s.p.src), (2, .int .u16 s.p.dst), (11, .slice s.da s.dn s.dc)] = some (s.own 17).cs.toArray := by
  obtain ⟨⟨pro, src, dst, seq, ack, fl, win, urg, op, ty, co, dt⟩, oa, on, oc, da, dn, dc⟩ := s
  kernel_rfl
set_option maxHeartbeats 1000000 in
theorem tOwnU_any (s : Sg) (w : World) : Calls Try.prog 59 #[.agg s.cs.toArray] w (Gives w (.agg (s.own 17).cs.toArray)) := by
  obtain ⟨wB, hwB⟩ : ∃ x, (w.alloc (.cells s.cs.toArray 26)).alloc (.cells #[.int .u8 0, .int .u16 0, .int .u16 0, .int .u32 0, .int .u32 0, .int .u8 0, .int .u16 0, .int .u16 0, .slice none 0 0, .int .u8 0, .int .u8 0, .slice none 0 0] 26) = x := ⟨_, rfl⟩
  have hbB : Below w.heap.size w wB := by rw [← hwB]; exact ((Below.refl _ _).alloc (Nat.le_refl _) _).alloc (by simp) _
  have tB : wB.there (w.heap.size + 1) 0 12 := by rw [← hwB]; exact there_new _ _ _ _ rfl _ (by simp)
  have rA : wB.rangeAt w.heap.size 0 s.cs := by rw [← hwB]; exact World.rangeAt_alloc (range_new _ _ _) _
  have c0 := range_cell rA s.c0
  have c1 := range_cell rA s.c1
  have c2 := range_cell rA s.c2
  have c11 := range_cell rA s.c11
  have HT := Lib.hid tB
  have HB := Lib.hid hbB
  clear rA tB hbB
  rw [← hwB] at c0 c1 c2 c11 HT HB
  clear hwB
  go_enter Try.func59, Try.ntmps59
  go_wp2_with (first | (refine wpList_build_run (cells := (s.own 17).cs.toArray) rfl 26 _ rfl ?_ ?_; · exact builtU s) | (refine stC 26 _ _ rfl rfl (w.heap.size + 1) 0 (s.own 17).cs rfl rfl HT.out infS (Sg.one _) ?_))
  refine bodyPost_ret (v := .agg (s.own 17).cs.toArray) (ret_mid Try.results59 _ _ _ _ (s.own 17).cs _ rfl (World.rangeAt_setCells_same _ _ _ _ HT.out) Try.underlying26 rfl infS) rfl ⟨rfl, Below.setCells HB.out _ (by omega) _ _⟩
theorem builtI (s : Sg) : Try.prog.built 26 [(0, .int .u8 s.p.pro), (9, .int .u8 s.p.ty), (10, .int .u8 s.p.co), (11, .slice s.da s.dn s.dc)] = some (s.own 1).cs.toArray := by
  obtain ⟨⟨pro, src, dst, seq, ack, fl, win, urg, op, ty, co, dt⟩, oa, on, oc, da, dn, dc⟩ := s
  kernel_rfl
set_option maxHeartbeats 1000000 in
theorem tOwnI_any (s : Sg) (w : World) : Calls Try.prog 51 #[.agg s.cs.toArray] w (Gives w (.agg (s.own 1).cs.toArray)) := by
  obtain ⟨wB, hwB⟩ : ∃ x, (w.alloc (.cells s.cs.toArray 26)).alloc (.cells #[.int .u8 0, .int .u16 0, .int .u16 0, .int .u32 0, .int .u32 0, .int .u8 0, .int .u16 0, .int .u16 0, .slice none 0 0, .int .u8 0, .int .u8 0, .slice none 0 0] 26) = x := ⟨_, rfl⟩
  have hbB : Below w.heap.size w wB := by rw [← hwB]; exact ((Below.refl _ _).alloc (Nat.le_refl _) _).alloc (by simp) _
  have tB : wB.there (w.heap.size + 1) 0 12 := by rw [← hwB]; exact there_new _ _ _ _ rfl _ (by simp)
  have rA : wB.rangeAt w.heap.size 0 s.cs := by rw [← hwB]; exact World.rangeAt_alloc (range_new _ _ _) _
  have c0 := range_cell rA s.c0
  have c9 := range_cell rA s.c9
  have c10 := range_cell rA s.c10
  have c11 := range_cell rA s.c11
  have HT := Lib.hid tB
  have HB := Lib.hid hbB
  clear rA tB hbB
  rw [← hwB] at c0 c9 c10 c11 HT HB
  clear hwB
  go_enter Try.func51, Try.ntmps51
  go_wp2_with (first | (refine wpList_build_run (cells := (s.own 1).cs.toArray) rfl 26 _ rfl ?_ ?_; · exact builtI s) | (refine stC 26 _ _ rfl rfl (w.heap.size + 1) 0 (s.own 1).cs rfl rfl HT.out infS (Sg.one _) ?_))
  refine bodyPost_ret (v := .agg (s.own 1).cs.toArray) (ret_mid Try.results51 _ _ _ _ (s.own 1).cs _ rfl (World.rangeAt_setCells_same _ _ _ _ HT.out) Try.underlying26 rfl infS) rfl ⟨rfl, Below.setCells HB.out _ (by omega) _ _⟩
end Go.Proofs.Ytabdejoakecioaa

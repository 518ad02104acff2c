/-
  The document's small functions of layer 7, and the statements' own reading of a segment. Conditions: numbers that fit their Go types, rows that lie where the slices lead, texts of bytes.
-/
import Derived.Test.YtabdejoakecioaaTrBackM
import Derived.Test.YtabdejoakecioaaRef
import Derived.Test.YtabdejoakecioaaRefRows
import Derived.Test.YtabdejoakecioaaSumRef
namespace Go.Proofs.Ytabdejoakecioaa
open Go.RowKit

/-- A segment as the document has it: its cells. -/
def rcs (s : Pl) : List Value :=
  [.int .u8 s.pro, .int .u16 s.src, .int .u16 s.dst, .int .u32 s.seq, .int .u32 s.ack, .int .u8 s.fl, .int .u16 s.win, .int .u16 s.urg, .string (str s.op), .int .u8 s.ty, .int .u8 s.co, .string (str s.dt)]
def rc0 : List Value :=
  [.int .u8 0, .int .u16 0, .int .u16 0, .int .u32 0, .int .u32 0, .int .u8 0, .int .u16 0, .int .u16 0, .string ⟨#[]⟩, .int .u8 0, .int .u8 0, .string ⟨#[]⟩]
theorem rc0_pl : rcs pl0 = rc0 := rfl
theorem rcs_one (s : Pl) : ∀ v ∈ rcs s, v.oneCell' = true := by
  intro v hv
  simp only [rcs, List.mem_cons, List.not_mem_nil, or_false] at hv
  rcases hv with rfl | rfl | rfl | rfl | rfl | rfl | rfl | rfl | rfl | rfl | rfl | rfl <;> rfl
theorem infR : (Try.prog.info? 30).map (·.size) = some 12 := by kernel_rfl
theorem builtR (s : Pl) : Try.prog.built 30 [(0, .int .u8 s.pro), (1, .int .u16 s.src), (2, .int .u16 s.dst), (3, .int .u32 s.seq), (4, .int .u32 s.ack), (5, .int .u8 s.fl), (6, .int .u16 s.win), (7, .int .u16 s.urg), (8, .string (str s.op)), (9, .int .u8 s.ty), (10, .int .u8 s.co), (11, .string (str s.dt))] = some (rcs s).toArray := by
  obtain ⟨pro, src, dst, seq, ack, fl, win, urg, op, ty, co, dt⟩ := s
  kernel_rfl
theorem builtR0 : Try.prog.built 30 [] = some rc0.toArray := by kernel_rfl
theorem builtRp (p : Int) : Try.prog.built 30 [(0, .int .u8 p)] = some (rcs { pl0 with pro := p }).toArray := by kernel_rfl

set_option maxRecDepth 100000 in
set_option maxHeartbeats 2000000 in
theorem d7Trans_any (s : Sg) (w : World) (k : s.ok w) : Calls Try.prog 9 #[.agg s.cs.toArray] w (Gives w (.agg (rcs s.p).toArray)) := by
  obtain ⟨wA, hwA⟩ : ∃ x, (w.alloc (.cells s.cs.toArray 26)).alloc (.cells rc0.toArray 30) = x := ⟨_, rfl⟩
  have hbA : Below w.heap.size w wA := by rw [← hwA]; exact ((Below.refl _ _).alloc (Nat.le_refl _) _).alloc (by simp) _
  have hrA : wA.rangeAt w.heap.size 0 s.cs := by rw [← hwA]; exact World.rangeAt_alloc (range_new _ _ _) _
  have htA : wA.there (w.heap.size + 1) 0 12 := by rw [← hwA]; exact there_new _ _ _ _ rfl _ (by simp)
  have HB := Lib.hid hbA
  have HT := Lib.hid htA
  have c0 := range_cell hrA s.c0
  have c1 := range_cell hrA s.c1
  have c2 := range_cell hrA s.c2
  have c3 := range_cell hrA s.c3
  have c4 := range_cell hrA s.c4
  have c5 := range_cell hrA s.c5
  have c6 := range_cell hrA s.c6
  have c7 := range_cell hrA s.c7
  have c8 := range_cell hrA s.c8
  have c9 := range_cell hrA s.c9
  have c10 := range_cell hrA s.c10
  have c11 := range_cell hrA s.c11
  have t1 := run_string_rd wA s.oc k.opt.len (k.opt.rd.below hbA) k.fit.op
  have t2 := run_string_rd wA s.dc k.dat.len (k.dat.rd.below hbA) k.fit.dt
  have s1 : (convert 24 9 (.slice s.oa s.on s.oc)).run Try.prog wA = .ok (.string (str s.p.op)) wA := t1
  have s2 : (convert 24 9 (.slice s.da s.dn s.dc)).run Try.prog wA = .ok (.string (str s.p.dt)) wA := t2
  obtain ⟨u1, hu1⟩ : ∃ x, str s.p.op = x := ⟨_, rfl⟩
  obtain ⟨u2, hu2⟩ : ∃ x, str s.p.dt = x := ⟨_, rfl⟩
  rw [hu1] at s1
  rw [hu2] at s2
  have HU := Lib.hid (And.intro hu1 hu2)
  have hwA' : (w.alloc (.cells s.cs.toArray 26)).alloc (.cells #[.int .u8 0, .int .u16 0, .int .u16 0, .int .u32 0, .int .u32 0, .int .u8 0, .int .u16 0, .int .u16 0, .string ⟨#[]⟩, .int .u8 0, .int .u8 0, .string ⟨#[]⟩] 30) = wA := hwA
  obtain ⟨cs, hcs⟩ : ∃ cs, s.cs.toArray = cs := ⟨_, rfl⟩
  rw [hcs] at hwA' ⊢
  clear k hbA hrA htA t1 t2 hcs hwA hu1 hu2
  go_enter Try.func9, Try.ntmps9
  go_wp2_with (first
    | (refine wpList_build_run (cells := (rcs s.p).toArray) rfl 30 _ rfl ?_ ?_; · (rw [rcs, HU.out.1, HU.out.2]; exact (HU.out.1 ▸ HU.out.2 ▸ builtR s.p)))
    | (refine stC 30 (.tmp 2) (.tmp 29) rfl rfl (w.heap.size + 1) 0 (rcs s.p) rfl rfl HT.out infR (rcs_one _) ?_))
  refine bodyPost_ret (v := .agg (rcs s.p).toArray) (ret_mid Try.results9 _ _ _ _ (rcs s.p) _ rfl (World.rangeAt_setCells_same _ _ _ _ HT.out) Try.underlying30 rfl infR) rfl ⟨rfl, Below.setCells HB.out _ (by omega) _ _⟩

theorem r7Head_any (p : Int) (w : World) : Calls Try.prog 25 #[.int .u8 p] w fun e w' => e = .returned (.int .i64 (hdN p)) ∧ w = w' := by
  by_cases h6 : p = 6
  · subst h6
    go_enter Try.func25, Try.ntmps25
    go_wp2_with fail
    go_ret
    exact ⟨rfl, rfl⟩
  by_cases h17 : p = 17
  · subst h17
    go_enter Try.func25, Try.ntmps25
    go_wp2_with fail
    go_ret
    exact ⟨rfl, rfl⟩
  by_cases h1 : p = 1
  · subst h1
    go_enter Try.func25, Try.ntmps25
    go_wp2_with fail
    go_ret
    exact ⟨rfl, rfl⟩
  by_cases h58 : p = 58
  · subst h58
    go_enter Try.func25, Try.ntmps25
    go_wp2_with fail
    go_ret
    exact ⟨rfl, rfl⟩
  have b6 : (p == 6) = false := by simpa using h6
  have b17 : (p == 17) = false := by simpa using h17
  have b1 : (p == 1) = false := by simpa using h1
  have b58 : (p == 58) = false := by simpa using h58
  have HN : Hid (hdN p = 0) := by show _ = _; unfold hdN; rw [if_neg h6, if_neg h17, if_neg h1, if_neg h58]
  clear h6 h17 h1 h58
  go_enter Try.func25, Try.ntmps25
  go_wp2_with fail
  go_ret
  exact ⟨by rw [HN.out]; rfl, rfl⟩

theorem r7one_any (x : Int) (w : World) (h : 0 ≤ x ∧ x < 256) : Calls Try.prog 47 #[.int .u8 x] w (Gives w (.string (str (be 1 x)))) := by
  have hb1 : be 1 x = [x] := by simp [be]; omega
  have HL := Own.lit w w.heap.size [x] 1 rfl (by decide) (Nat.le_refl _)
  have hbx : Byt [x] := by intro v hv; simp at hv; omega
  have t := run_string_rd (w.alloc (.cells (bv [x]).toArray 5)) 1 HL.len HL.rd hbx
  have t' : (convert 24 9 (.slice (some ⟨w.heap.size, 0, none⟩) 1 1)).run Try.prog (w.alloc (.cells #[.int .u8 x] 5)) = .ok (.string (str [x])) (w.alloc (.cells #[.int .u8 x] 5)) := t
  have HB : Hid (Below w.heap.size w (w.alloc (.cells #[.int .u8 x] 5))) := (Below.refl _ _).alloc (Nat.le_refl _) _
  rw [hb1]
  clear HL hbx t hb1 h
  go_enter Try.func47, Try.ntmps47
  go_wp2_with fail
  go_ret
  exact ⟨rfl, HB.out⟩
theorem r7two_any (x : Int) (w : World) (h : 0 ≤ x ∧ x < 65536) : Calls Try.prog 48 #[.int .u16 x] w (Gives w (.string (str (be 2 x)))) := by
  have hw : IntKind.u64.wrap x = x := by rw [IntKind.wrap_u64]; omega
  have HU : Hid (U64 x) := ⟨h.1, by rw [pw_eight]; omega⟩
  clear h
  go_enter Try.func48, Try.ntmps48
  go_wp2_with fail
  refine (refPut_any 2 x _ (by omega) HU.out).mono ?_
  rintro e w1 ⟨a, n, c, rfl, hown, hb⟩
  have t := run_string_rd w1 c hown.len hown.rd (be_range 2 x)
  have t' : (convert 24 9 (.slice a n c)).run Try.prog w1 = .ok (.string (str (be 2 x))) w1 := t
  have HB := Lib.hid hb
  clear hown t hb
  go_wp2_with fail
  go_ret
  exact ⟨rfl, HB.out⟩
theorem r7four_any (x : Int) (w : World) (h : 0 ≤ x ∧ x < 4294967296) : Calls Try.prog 49 #[.int .u32 x] w (Gives w (.string (str (be 4 x)))) := by
  have hw : IntKind.u64.wrap x = x := by rw [IntKind.wrap_u64]; omega
  have HU : Hid (U64 x) := ⟨h.1, by rw [pw_eight]; omega⟩
  clear h
  go_enter Try.func49, Try.ntmps49
  go_wp2_with fail
  refine (refPut_any 4 x _ (by omega) HU.out).mono ?_
  rintro e w1 ⟨a, n, c, rfl, hown, hb⟩
  have t := run_string_rd w1 c hown.len hown.rd (be_range 4 x)
  have t' : (convert 24 9 (.slice a n c)).run Try.prog w1 = .ok (.string (str (be 4 x))) w1 := t
  have HB := Lib.hid hb
  clear hown t hb
  go_wp2_with fail
  go_ret
  exact ⟨rfl, HB.out⟩
theorem r7number_any (xs : List Int) (p n : Int) (w : World) (hb : Byt xs) (hl : xs.length ≤ 1000000) : Calls Try.prog 41 #[.string (str xs), .int .i64 p, .int .i64 n] w (Gives w (.int .u64 (getV xs p n))) := by
  obtain ⟨c, w1, hcv, hrd, hbel⟩ := run_bytes_str w xs hb
  have HR := Lib.hid hrd
  have HX := Lib.hid hb
  have HB := Lib.hid hbel
  obtain ⟨u, hu⟩ : ∃ x, str xs = x := ⟨_, rfl⟩
  rw [hu] at hcv ⊢
  clear hrd hb hbel hu
  go_enter Try.func41, Try.ntmps41
  go_wp2_with fail
  refine (refGet_any _ xs.length c xs p n _ rfl HR.out HX.out hl).mono ?_
  rintro e w2 ⟨rfl, rfl⟩
  go_wp2_with fail
  go_ret
  exact ⟨rfl, HB.out⟩
end Go.Proofs.Ytabdejoakecioaa

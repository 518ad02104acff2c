/-
  The contracts of the library's FormatUint to the base 16, for numbers below 65536. Conditions: the library's variables hold what they should.
-/
import Derived.Test.YtbnfmiopgjmppaaDoorAdGroup
namespace Go.Proofs.YtbnfmiopgjmppaaDoor
open Go.RowKit

theorem bPow2_16 (w : World) : Calls Tryd.prog 108 #[.int .i64 16] w fun e w' => e = .returned (.bool true) ∧ w = w' := by
  have h : bits .and .i64 16 15 = 0 := by decide +kernel
  go_enter Tryd.func108, Tryd.ntmps108
  go_wp2_with fail
  go_ret
  exact ⟨rfl, rfl⟩
set_option maxRecDepth 100000 in
theorem bTz64_16 (w : World) (hg : Gl w) : Calls Tryd.prog 111 #[.int .u64 16] w fun e w' => e = .returned (.int .i64 4) ∧ w = w' := by
  have hc := hg.deb
  have h1 : IntKind.u64.wrap (-16) = 18446744073709551600 := by decide +kernel
  have h2 : bits .and .u64 16 18446744073709551600 = 16 := by decide +kernel
  have h3 : IntKind.u64.wrap 4573923408821661840 = 4573923408821661840 := by decide +kernel
  go_enter Tryd.func111, Tryd.ntmps111
  go_wp2_with fail
  go_ret
  exact ⟨rfl, rfl⟩
theorem bTz_16 (w : World) (hg : Gl w) : Calls Tryd.prog 109 #[.int .u64 16] w fun e w' => e = .returned (.int .i64 4) ∧ w = w' := by
  go_enter Tryd.func109, Tryd.ntmps109
  go_wp2_with fail
  refine (bTz64_16 _ hg).mono ?_
  rintro e w1 ⟨rfl, rfl⟩
  go_wp2_with fail
  go_ret
  exact ⟨rfl, rfl⟩
/-- The digits that the library tells numbers with. -/
def digs : Tx := [48, 49, 50, 51, 52, 53, 54, 55, 56, 57, 97, 98, 99, 100, 101, 102, 103, 104, 105, 106, 107, 108, 109, 110, 111, 112, 113, 114, 115, 116, 117, 118, 119, 120, 121, 122]
theorem digs_fin : ∀ d : Fin 16, digs[d.val]? = some (hd d.val) := by decide +kernel
theorem str_atU {l : Tx} {k : Nat} {c : UInt8} (h : l[k]? = some c) (w : World) : (Instr.index 9 (.string ⟨l.toArray⟩) (.int .u64 (k : Int))).run Tryd.prog w = .ok (.int .u8 (c.toNat : Int)) w := by
  have hk := (List.getElem?_eq_some_iff.1 h).1
  have hs : (ByteArray.mk l.toArray).size = l.length := by simp [ByteArray.size]
  have hg : ((ByteArray.mk l.toArray)[(k : Int).toNat]'(by rw [hs]; omega)) = c := by
    show l.toArray[(k : Int).toNat]'_ = c
    simpa using (List.getElem?_eq_some_iff.1 h).2
  rw [run_index_string (h := Tryd.underlying9), dif_pos ⟨by omega, by rw [hs]; omega⟩, hg]
theorem dig_at {d : Nat} (h : d < 16) (w : World) : (Instr.index 9 (.string ⟨#[48, 49, 50, 51, 52, 53, 54, 55, 56, 57, 97, 98, 99, 100, 101, 102, 103, 104, 105, 106, 107, 108, 109, 110, 111, 112, 113, 114, 115, 116, 117, 118, 119, 120, 121, 122]⟩) (.int .u64 (d : Int))).run Tryd.prog w = .ok (.int .u8 ((hd d).toNat : Int)) w :=
  str_atU (l := digs) (digs_fin ⟨d, h⟩) w
/-- The end of a row of 65 holds this text. -/
structure Tail (row : List Int) (i : Nat) (t : Tx) : Prop where
  len : row.length = 65
  at_ : i + t.length = 65
  end_ : row.drop i = t.map fun b => (b.toNat : Int)
theorem Tail.push {row : List Int} {i : Nat} {t : Tx} (h : Tail row (i + 1) t) (b : UInt8) : Tail (row.set i (b.toNat : Int)) i (b :: t) := by
  obtain ⟨h1, h2, h3⟩ := h
  refine ⟨by simp [h1], by simp; omega, ?_⟩
  rw [List.drop_eq_getElem_cons (by simp; omega)]
  simp only [List.getElem_set_self, List.map_cons]
  congr 1
  rw [List.drop_set_of_lt (by omega), h3]
theorem Tail.nil : Tail (zs 65) 65 [] := ⟨zs_length 65, rfl, by simp [zs]⟩
theorem Tail.cell {w : World} {g : Nat} {ty : TypeId} {row : List Int} {i : Nat} {t : Tx} (h : Tail row i t) (hb : Blk w g ty row) (j : Nat) (hj : j < t.length) : w.cell? ((⟨g, i, none⟩ : Addr).add j) = some (.int .u8 (t[j].toNat : Int)) := by
  have h1 := hb.cell (k := i + j) (by have := h.at_; have := h.len; omega)
  rw [Addr.add_lit, h1]
  have h2 : (row.drop i)[j]? = some (t[j].toNat : Int) := by rw [h.end_]; simp [hj]
  rw [List.getElem?_drop] at h2
  rw [List.getD_eq_getElem?_getD, h2]
  rfl
theorem sl65 (g p : Nat) (hp : p < 65) (w : World) : (Instr.sliceAt 141 (.pointer (some ⟨g, 0, none⟩)) (some (.int .i64 (p : Int))) none none).run Tryd.prog w = .ok (.slice (some ⟨g, p, none⟩) (65 - p) (65 - p)) w := by
  have hA : Tryd.prog.arrayLen 141 = 65 := by kernel_rfl
  have hE : Tryd.prog.elem 141 = 5 := by kernel_rfl
  have ht : Tryd.prog.underlying 141 = some (.array (Tryd.prog.arrayLen 141) (Tryd.prog.elem 141)) := by rw [hA, hE]; exact Tryd.underlying141
  rw [run_sliceAt_array_l w 141 _ ht .i64 (p : Int) (by omega) (by rw [hA]; omega), hE, hA]
  simp only [Tryd.sizeOf5, Result.andThen_ok, slicedAt, Int.toNat_natCast]
  rw [if_neg (by omega), Addr.add_lit]
  simp
theorem digT_more {k n : Nat} (h : ¬ n < 16) (t : Tx) : digT (k + 1) 16 n ++ t = digT k 16 (n / 16) ++ (hd (n % 16) :: t) := by
  rw [digT, if_neg h]; simp
theorem zs65 : Builtin.zeroCells (Value.int .u8 0).cells 65 = (bv (zs 65)).toArray := zeroCells_bv 65

set_option maxRecDepth 100000 in
set_option maxHeartbeats 4000000 in
theorem iFmtBits_any (v : Nat) (hv : v < 65536) (w : World) (hg : Gl w) : Calls Tryd.prog 95 #[.slice none 0 0, .int .u64 (v : Int), .int .i64 16, .bool false, .bool false] w
    fun e w' => e = .returned (.tuple #[.slice none 0 0, .string ⟨(hxT v).toArray⟩]) ∧ Below w.heap.size w w' := by
  have HG := Lib.hid hg
  have HV := Lib.hid hv
  clear hg
  have v0 : (v : Int) < 65536 := by omega
  go_enter Tryd.func95, Tryd.ntmps95
  go_wp2_with fail
  refine (bPow2_16 _).mono ?_
  rintro e w1 ⟨rfl, rfl⟩
  go_wp2_with fail
  have HB0 : Hid (Blk (w.alloc (.cells Tryd.zeroCells141 141)) w.heap.size 141 (zs 65)) := by
    have e : Tryd.zeroCells141 = (bv (zs 65)).toArray := by kernel_rfl
    rw [e]
    exact Blk.new _ _ _
  have HBe : Hid (Below w.heap.size w (w.alloc (.cells Tryd.zeroCells141 141))) := (Below.refl _ _).alloc (Nat.le_refl _) _
  obtain ⟨w2, hw2⟩ : ∃ x, w.alloc (.cells Tryd.zeroCells141 141) = x := ⟨_, rfl⟩
  rw [hw2] at HB0 HBe ⊢
  clear hw2
  refine (bTz_16 _ (HG.out.below HBe.out)).mono ?_
  rintro e w1 ⟨rfl, rfl⟩
  obtain ⟨g, hgg⟩ : ∃ g, w.heap.size = g := ⟨_, rfl⟩
  rw [hgg] at HB0 ⊢
  have HGG := Lib.hid hgg
  clear hgg
  go_wp2_with fail
  go_loopw [1, 13] (fun vu vi wr => ∃ (u i : Nat) (t : Tx) (row : List Int), vu = .int .u64 (u : Int) ∧ vi = .int .i64 (i : Int) ∧ u < 65536 ∧ 61 < i ∧ i ≤ 65 ∧ Hid (u < 16 ^ (i - 61)) ∧ Hid (Tail row i t) ∧ Hid (digT 4 16 v = digT (i - 61) 16 u ++ t) ∧ Hid (Blk wr g 141 row) ∧ Hid (Below w.heap.size w wr)) (fun _ vi _ => (intOf vi).toNat)
  case atStart => exact ⟨v, 65, [], zs 65, rfl, rfl, hv, by omega, by omega, (by show _ < _; exact HV.out), Tail.nil, (by show _ = _; simp), HB0, HBe⟩
  case round =>
    obtain ⟨u, i, t, row, rfl, rfl, hu, hi, hi2, hpw, ht, hdg, hb, hbl⟩ := hrel
    obtain ⟨q, hq⟩ : ∃ q, u / 16 = q := ⟨_, rfl⟩
    obtain ⟨r, hr⟩ : ∃ r, u % 16 = r := ⟨_, rfl⟩
    have hr16 : r < 16 := by omega
    obtain ⟨p, hp⟩ : ∃ p, i = p + 1 := ⟨i - 1, by omega⟩
    have hlen := ht.out.len
    have hfz := hb.out.frozen p
    have hcl := hb.out.cell (k := p) (by omega)
    obtain ⟨x, hx⟩ : ∃ x, row.getD p 0 = x := ⟨_, rfl⟩
    rw [hx] at hcl
    have hand : bits .and .u64 (u : Int) 15 = (r : Int) := by
      have := u64_and_nat u 15 (by omega) (by omega)
      rw [show ((15 : Nat) : Int) = 15 from rfl] at this
      rw [this, show u &&& 15 = u % 16 from Nat.and_two_pow_sub_one_eq_mod u 4, hr]
    have hdiv : (u : Int) / 16 = (q : Int) := by omega
    have hix := fun w => dig_at hr16 w
    obtain ⟨b, hbb⟩ : ∃ b, hd r = b := ⟨_, rfl⟩
    rw [hbb] at hix
    have HBel : ∀ z, Hid (Below w.heap.size w (wr.setCell ⟨g, p, none⟩ z)) := fun z => hbl.out.setCell (p := ⟨g, p, none⟩) (by rw [HGG.out]; exact Nat.le_refl _) z
    subst hp
    have HT := Lib.hid (ht.out.push b)
    have HBk : Hid (Blk (wr.setCell ⟨g, p, none⟩ (.int .u8 (b.toNat : Int))) g 141 (row.set p (b.toNat : Int))) := by
      show Blk _ _ _ _
      have := hb.out.set p (b.toNat : Int)
      exact this
    have HPW := Lib.hid hpw.out
    have HD := Lib.hid hdg.out
    have p65 : (p : Int) < 65 := by omega
    have p61 : (61 : Int) ≤ p := by omega
    have ei : (((p + 1 : Nat) : Int)) = (p : Int) + 1 := rfl
    rw [ei]
    clear hx hpw ht hdg hb hbl
    by_cases h16 : 16 ≤ u
    · have h62 : 62 ≤ p := by
        rcases Nat.lt_or_ge p 62 with h | h
        · have : p + 1 - 61 = 1 := by omega
          have h3 := HPW.out
          rw [this] at h3
          omega
        · exact h
      have e1 : p + 1 - 61 = (p - 61) + 1 := by omega
      have HN : Hid (q < 16 ^ (p - 61) ∧ digT 4 16 v = digT (p - 61) 16 q ++ (b :: t)) := by
        have h3 := HPW.out
        rw [e1, Nat.pow_succ] at h3
        refine ⟨by omega, ?_⟩
        rw [HD.out, e1, digT_more (by omega), hq, hr, hbb]
      have u16 : (16 : Int) ≤ u := by omega
      go_wp2_with fail
      go_roundw
      case rel => exact ⟨q, p, b :: t, row.set p (b.toNat : Int), rfl, (by congr 1), by omega, by omega, by omega, HN.out.1, HT, HN.out.2, HBk, HBel _⟩
      case measure => simp [intOf]
    · have u16 : (u : Int) < 16 := by omega
      have hru : r = u := by omega
      rw [hru] at hix hbb
      have hcv : ∀ cap, (convert 25 9 (.slice (some ⟨g, p, none⟩) (65 - p) cap)).run Tryd.prog (wr.setCell ⟨g, p, none⟩ (.int .u8 (b.toNat : Int))) = .ok (.string ⟨(b :: t).toArray⟩) (wr.setCell ⟨g, p, none⟩ (.int .u8 (b.toNat : Int))) := fun cap => by
        have h := run_convert_bytes_back (P := Tryd.prog) (wr.setCell ⟨g, p, none⟩ (.int .u8 (b.toNat : Int))) 25 9 5 ⟨g, p, none⟩ cap (b :: t) Tryd.underlying25 Tryd.underlying5 Tryd.underlying9 (fun j hj => HT.out.cell HBk.out j hj)
        rw [show (b :: t).length = 65 - p by have := HT.out.at_; omega] at h
        exact h
      have HR : Hid (hxT v = b :: t) := by
        show _ = _
        rw [← digT_hex HV.out, HD.out, show p + 1 - 61 = (p - 61) + 1 by omega, digT_one (by omega), hbb]
        rfl
      have hsl := fun w => sl65 g p (by omega) w
      clear hq hr hand hdiv hr16 hru hbb hlen hi hi2 ei v0 hv
      go_wp2_with fail
      go_ret2
      exact ⟨by rw [HR.out]; rfl, (HBel _).out⟩
/-- A text, with new blocks at most. -/
def GivesT (w : World) (l : Tx) (e : Ending) (w' : World) : Prop := e = .returned (.string ⟨l.toArray⟩) ∧ Below w.heap.size w w'
set_option maxRecDepth 100000 in
theorem iFmtU_any (v : Nat) (hv : v < 65536) (w : World) (hg : Gl w) : Calls Tryd.prog 78 #[.int .u64 (v : Int), .int .i64 16] w (GivesT w (hxT v)) := by
  have HG := Lib.hid hg
  have HV := Lib.hid hv
  clear hg hv
  go_enter Tryd.func78, Tryd.ntmps78
  go_wp2_with fail
  refine (iFmtBits_any v HV.out _ HG.out).mono ?_
  rintro e w1 ⟨rfl, hb⟩
  have HB := Lib.hid hb
  clear hb
  go_wp2_with fail
  go_ret
  exact ⟨rfl, HB.out⟩
theorem sFmtU_any (v : Nat) (hv : v < 65536) (w : World) (hg : Gl w) : Calls Tryd.prog 66 #[.int .u64 (v : Int), .int .i64 16] w (GivesT w (hxT v)) := by
  have HG := Lib.hid hg
  have HV := Lib.hid hv
  clear hg hv
  go_enter Tryd.func66, Tryd.ntmps66
  go_wp2_with fail
  refine (iFmtU_any v HV.out _ HG.out).mono ?_
  rintro e w1 ⟨rfl, hb⟩
  have HB := Lib.hid hb
  clear hb
  go_wp2_with fail
  go_ret
  exact ⟨rfl, HB.out⟩
end Go.Proofs.YtbnfmiopgjmppaaDoor

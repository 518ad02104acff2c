/-
  Same of package trans, where one of the last four numbers parts. Conditions: the cells that each theorem names.
-/
import Derived.Test.YtabdejoakecioaaTrSeg
namespace Go.Proofs.Ytabdejoakecioaa
open Go.RowKit

set_option maxHeartbeats 1000000 in
theorem same_at6 (cs ds : Array Value) (w : World) (x0 x1 x2 x3 x4 x5 : Int) (x6 y6 : Int) (c0 : cs[0]? = some (.int .u8 x0)) (d0 : ds[0]? = some (.int .u8 x0)) (c1 : cs[1]? = some (.int .u16 x1)) (d1 : ds[1]? = some (.int .u16 x1)) (c2 : cs[2]? = some (.int .u16 x2)) (d2 : ds[2]? = some (.int .u16 x2)) (c3 : cs[3]? = some (.int .u32 x3)) (d3 : ds[3]? = some (.int .u32 x3)) (c4 : cs[4]? = some (.int .u32 x4)) (d4 : ds[4]? = some (.int .u32 x4)) (c5 : cs[5]? = some (.int .u8 x5)) (d5 : ds[5]? = some (.int .u8 x5)) (c6 : cs[6]? = some (.int .u16 x6)) (d6 : ds[6]? = some (.int .u16 y6)) (hne : x6 ≠ y6) :
    Calls Try.prog 15 #[.agg cs, .agg ds] w (Gives w (.bool false)) := by
  have HB : Hid (Below w.heap.size w ((w.alloc (.cells cs 26)).alloc (.cells ds 26))) := ((Below.refl _ _).alloc (Nat.le_refl _) _).alloc (by simp) _
  have hb : (x6 == y6) = false := by simpa using hne
  clear hne
  go_enter Try.func15, Try.ntmps15
  go_wp2_with fail
  go_ret
  exact ⟨rfl, HB.out⟩
set_option maxHeartbeats 1000000 in
theorem same_at7 (cs ds : Array Value) (w : World) (x0 x1 x2 x3 x4 x5 x6 : Int) (x7 y7 : Int) (c0 : cs[0]? = some (.int .u8 x0)) (d0 : ds[0]? = some (.int .u8 x0)) (c1 : cs[1]? = some (.int .u16 x1)) (d1 : ds[1]? = some (.int .u16 x1)) (c2 : cs[2]? = some (.int .u16 x2)) (d2 : ds[2]? = some (.int .u16 x2)) (c3 : cs[3]? = some (.int .u32 x3)) (d3 : ds[3]? = some (.int .u32 x3)) (c4 : cs[4]? = some (.int .u32 x4)) (d4 : ds[4]? = some (.int .u32 x4)) (c5 : cs[5]? = some (.int .u8 x5)) (d5 : ds[5]? = some (.int .u8 x5)) (c6 : cs[6]? = some (.int .u16 x6)) (d6 : ds[6]? = some (.int .u16 x6)) (c7 : cs[7]? = some (.int .u16 x7)) (d7 : ds[7]? = some (.int .u16 y7)) (hne : x7 ≠ y7) :
    Calls Try.prog 15 #[.agg cs, .agg ds] w (Gives w (.bool false)) := by
  have HB : Hid (Below w.heap.size w ((w.alloc (.cells cs 26)).alloc (.cells ds 26))) := ((Below.refl _ _).alloc (Nat.le_refl _) _).alloc (by simp) _
  have hb : (x7 == y7) = false := by simpa using hne
  clear hne
  go_enter Try.func15, Try.ntmps15
  go_wp2_with fail
  go_ret
  exact ⟨rfl, HB.out⟩
set_option maxHeartbeats 1000000 in
theorem same_at9 (cs ds : Array Value) (w : World) (x0 x1 x2 x3 x4 x5 x6 x7 : Int) (x9 y9 : Int) (c0 : cs[0]? = some (.int .u8 x0)) (d0 : ds[0]? = some (.int .u8 x0)) (c1 : cs[1]? = some (.int .u16 x1)) (d1 : ds[1]? = some (.int .u16 x1)) (c2 : cs[2]? = some (.int .u16 x2)) (d2 : ds[2]? = some (.int .u16 x2)) (c3 : cs[3]? = some (.int .u32 x3)) (d3 : ds[3]? = some (.int .u32 x3)) (c4 : cs[4]? = some (.int .u32 x4)) (d4 : ds[4]? = some (.int .u32 x4)) (c5 : cs[5]? = some (.int .u8 x5)) (d5 : ds[5]? = some (.int .u8 x5)) (c6 : cs[6]? = some (.int .u16 x6)) (d6 : ds[6]? = some (.int .u16 x6)) (c7 : cs[7]? = some (.int .u16 x7)) (d7 : ds[7]? = some (.int .u16 x7)) (c9 : cs[9]? = some (.int .u8 x9)) (d9 : ds[9]? = some (.int .u8 y9)) (hne : x9 ≠ y9) :
    Calls Try.prog 15 #[.agg cs, .agg ds] w (Gives w (.bool false)) := by
  have HB : Hid (Below w.heap.size w ((w.alloc (.cells cs 26)).alloc (.cells ds 26))) := ((Below.refl _ _).alloc (Nat.le_refl _) _).alloc (by simp) _
  have hb : (x9 == y9) = false := by simpa using hne
  clear hne
  go_enter Try.func15, Try.ntmps15
  go_wp2_with fail
  go_ret
  exact ⟨rfl, HB.out⟩
set_option maxHeartbeats 1000000 in
theorem same_at10 (cs ds : Array Value) (w : World) (x0 x1 x2 x3 x4 x5 x6 x7 x9 : Int) (x10 y10 : Int) (c0 : cs[0]? = some (.int .u8 x0)) (d0 : ds[0]? = some (.int .u8 x0)) (c1 : cs[1]? = some (.int .u16 x1)) (d1 : ds[1]? = some (.int .u16 x1)) (c2 : cs[2]? = some (.int .u16 x2)) (d2 : ds[2]? = some (.int .u16 x2)) (c3 : cs[3]? = some (.int .u32 x3)) (d3 : ds[3]? = some (.int .u32 x3)) (c4 : cs[4]? = some (.int .u32 x4)) (d4 : ds[4]? = some (.int .u32 x4)) (c5 : cs[5]? = some (.int .u8 x5)) (d5 : ds[5]? = some (.int .u8 x5)) (c6 : cs[6]? = some (.int .u16 x6)) (d6 : ds[6]? = some (.int .u16 x6)) (c7 : cs[7]? = some (.int .u16 x7)) (d7 : ds[7]? = some (.int .u16 x7)) (c9 : cs[9]? = some (.int .u8 x9)) (d9 : ds[9]? = some (.int .u8 x9)) (c10 : cs[10]? = some (.int .u8 x10)) (d10 : ds[10]? = some (.int .u8 y10)) (hne : x10 ≠ y10) :
    Calls Try.prog 15 #[.agg cs, .agg ds] w (Gives w (.bool false)) := by
  have HB : Hid (Below w.heap.size w ((w.alloc (.cells cs 26)).alloc (.cells ds 26))) := ((Below.refl _ _).alloc (Nat.le_refl _) _).alloc (by simp) _
  have hb : (x10 == y10) = false := by simpa using hne
  clear hne
  go_enter Try.func15, Try.ntmps15
  go_wp2_with fail
  go_ret
  exact ⟨rfl, HB.out⟩
end Go.Proofs.Ytabdejoakecioaa

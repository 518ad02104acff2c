/-
  Same of package trans, where one of the first six numbers parts. Conditions: the cells that each theorem names.
-/
import Derived.Test.YtabdejoakecioaaTrSeg
namespace Go.Proofs.Ytabdejoakecioaa
open Go.RowKit

set_option maxHeartbeats 1000000 in
theorem same_at0 (cs ds : Array Value) (w : World) (x0 y0 : Int) (c0 : cs[0]? = some (.int .u8 x0)) (d0 : ds[0]? = some (.int .u8 y0)) (hne : x0 ≠ y0) :
    Calls Try.prog 15 #[.agg cs, .agg ds] w (Gives w (.bool false)) := by
  have HB : Hid (Below w.heap.size w ((w.alloc (.cells cs 26)).alloc (.cells ds 26))) := ((Below.refl _ _).alloc (Nat.le_refl _) _).alloc (by simp) _
  have hb : (x0 == y0) = false := by simpa using hne
  clear hne
  go_enter Try.func15, Try.ntmps15
  go_wp2_with fail
  go_ret
  exact ⟨rfl, HB.out⟩
set_option maxHeartbeats 1000000 in
theorem same_at1 (cs ds : Array Value) (w : World) (x0 : Int) (x1 y1 : Int) (c0 : cs[0]? = some (.int .u8 x0)) (d0 : ds[0]? = some (.int .u8 x0)) (c1 : cs[1]? = some (.int .u16 x1)) (d1 : ds[1]? = some (.int .u16 y1)) (hne : x1 ≠ y1) :
    Calls Try.prog 15 #[.agg cs, .agg ds] w (Gives w (.bool false)) := by
  have HB : Hid (Below w.heap.size w ((w.alloc (.cells cs 26)).alloc (.cells ds 26))) := ((Below.refl _ _).alloc (Nat.le_refl _) _).alloc (by simp) _
  have hb : (x1 == y1) = false := by simpa using hne
  clear hne
  go_enter Try.func15, Try.ntmps15
  go_wp2_with fail
  go_ret
  exact ⟨rfl, HB.out⟩
set_option maxHeartbeats 1000000 in
theorem same_at2 (cs ds : Array Value) (w : World) (x0 x1 : Int) (x2 y2 : Int) (c0 : cs[0]? = some (.int .u8 x0)) (d0 : ds[0]? = some (.int .u8 x0)) (c1 : cs[1]? = some (.int .u16 x1)) (d1 : ds[1]? = some (.int .u16 x1)) (c2 : cs[2]? = some (.int .u16 x2)) (d2 : ds[2]? = some (.int .u16 y2)) (hne : x2 ≠ y2) :
    Calls Try.prog 15 #[.agg cs, .agg ds] w (Gives w (.bool false)) := by
  have HB : Hid (Below w.heap.size w ((w.alloc (.cells cs 26)).alloc (.cells ds 26))) := ((Below.refl _ _).alloc (Nat.le_refl _) _).alloc (by simp) _
  have hb : (x2 == y2) = false := by simpa using hne
  clear hne
  go_enter Try.func15, Try.ntmps15
  go_wp2_with fail
  go_ret
  exact ⟨rfl, HB.out⟩
set_option maxHeartbeats 1000000 in
theorem same_at3 (cs ds : Array Value) (w : World) (x0 x1 x2 : Int) (x3 y3 : Int) (c0 : cs[0]? = some (.int .u8 x0)) (d0 : ds[0]? = some (.int .u8 x0)) (c1 : cs[1]? = some (.int .u16 x1)) (d1 : ds[1]? = some (.int .u16 x1)) (c2 : cs[2]? = some (.int .u16 x2)) (d2 : ds[2]? = some (.int .u16 x2)) (c3 : cs[3]? = some (.int .u32 x3)) (d3 : ds[3]? = some (.int .u32 y3)) (hne : x3 ≠ y3) :
    Calls Try.prog 15 #[.agg cs, .agg ds] w (Gives w (.bool false)) := by
  have HB : Hid (Below w.heap.size w ((w.alloc (.cells cs 26)).alloc (.cells ds 26))) := ((Below.refl _ _).alloc (Nat.le_refl _) _).alloc (by simp) _
  have hb : (x3 == y3) = false := by simpa using hne
  clear hne
  go_enter Try.func15, Try.ntmps15
  go_wp2_with fail
  go_ret
  exact ⟨rfl, HB.out⟩
set_option maxHeartbeats 1000000 in
theorem same_at4 (cs ds : Array Value) (w : World) (x0 x1 x2 x3 : Int) (x4 y4 : Int) (c0 : cs[0]? = some (.int .u8 x0)) (d0 : ds[0]? = some (.int .u8 x0)) (c1 : cs[1]? = some (.int .u16 x1)) (d1 : ds[1]? = some (.int .u16 x1)) (c2 : cs[2]? = some (.int .u16 x2)) (d2 : ds[2]? = some (.int .u16 x2)) (c3 : cs[3]? = some (.int .u32 x3)) (d3 : ds[3]? = some (.int .u32 x3)) (c4 : cs[4]? = some (.int .u32 x4)) (d4 : ds[4]? = some (.int .u32 y4)) (hne : x4 ≠ y4) :
    Calls Try.prog 15 #[.agg cs, .agg ds] w (Gives w (.bool false)) := by
  have HB : Hid (Below w.heap.size w ((w.alloc (.cells cs 26)).alloc (.cells ds 26))) := ((Below.refl _ _).alloc (Nat.le_refl _) _).alloc (by simp) _
  have hb : (x4 == y4) = false := by simpa using hne
  clear hne
  go_enter Try.func15, Try.ntmps15
  go_wp2_with fail
  go_ret
  exact ⟨rfl, HB.out⟩
set_option maxHeartbeats 1000000 in
theorem same_at5 (cs ds : Array Value) (w : World) (x0 x1 x2 x3 x4 : Int) (x5 y5 : Int) (c0 : cs[0]? = some (.int .u8 x0)) (d0 : ds[0]? = some (.int .u8 x0)) (c1 : cs[1]? = some (.int .u16 x1)) (d1 : ds[1]? = some (.int .u16 x1)) (c2 : cs[2]? = some (.int .u16 x2)) (d2 : ds[2]? = some (.int .u16 x2)) (c3 : cs[3]? = some (.int .u32 x3)) (d3 : ds[3]? = some (.int .u32 x3)) (c4 : cs[4]? = some (.int .u32 x4)) (d4 : ds[4]? = some (.int .u32 x4)) (c5 : cs[5]? = some (.int .u8 x5)) (d5 : ds[5]? = some (.int .u8 y5)) (hne : x5 ≠ y5) :
    Calls Try.prog 15 #[.agg cs, .agg ds] w (Gives w (.bool false)) := by
  have HB : Hid (Below w.heap.size w ((w.alloc (.cells cs 26)).alloc (.cells ds 26))) := ((Below.refl _ _).alloc (Nat.le_refl _) _).alloc (by simp) _
  have hb : (x5 == y5) = false := by simpa using hne
  clear hne
  go_enter Try.func15, Try.ntmps15
  go_wp2_with fail
  go_ret
  exact ⟨rfl, HB.out⟩
end Go.Proofs.Ytabdejoakecioaa

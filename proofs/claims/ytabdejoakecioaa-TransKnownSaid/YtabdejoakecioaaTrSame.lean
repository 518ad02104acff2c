/-
  Same of package trans. Conditions: the cells that each theorem names.
-/
import Derived.Test.YtabdejoakecioaaTrSameA
import Derived.Test.YtabdejoakecioaaTrSameB
namespace Go.Proofs.Ytabdejoakecioaa
open Go.RowKit

set_option maxHeartbeats 2000000 in
theorem same_rows (cs ds : Array Value) (w : World) (x0 x1 x2 x3 x4 x5 x6 x7 x9 x10 : Int) (c0 : cs[0]? = some (.int .u8 x0)) (d0 : ds[0]? = some (.int .u8 x0)) (c1 : cs[1]? = some (.int .u16 x1)) (d1 : ds[1]? = some (.int .u16 x1)) (c2 : cs[2]? = some (.int .u16 x2)) (d2 : ds[2]? = some (.int .u16 x2)) (c3 : cs[3]? = some (.int .u32 x3)) (d3 : ds[3]? = some (.int .u32 x3)) (c4 : cs[4]? = some (.int .u32 x4)) (d4 : ds[4]? = some (.int .u32 x4)) (c5 : cs[5]? = some (.int .u8 x5)) (d5 : ds[5]? = some (.int .u8 x5)) (c6 : cs[6]? = some (.int .u16 x6)) (d6 : ds[6]? = some (.int .u16 x6)) (c7 : cs[7]? = some (.int .u16 x7)) (d7 : ds[7]? = some (.int .u16 x7)) (c9 : cs[9]? = some (.int .u8 x9)) (d9 : ds[9]? = some (.int .u8 x9)) (c10 : cs[10]? = some (.int .u8 x10)) (d10 : ds[10]? = some (.int .u8 x10)) (oa ob da db : Option Addr) (on oc om od dn dc dm dd : Nat) (o1 o2 t1 t2 : List Int) (c8 : cs[8]? = some (.slice oa on oc)) (d8 : ds[8]? = some (.slice ob om od)) (c11 : cs[11]? = some (.slice da dn dc)) (d11 : ds[11]? = some (.slice db dm dd))
    (k1 : Row.ok w ⟨oa, on, oc, o1⟩) (k2 : Row.ok w ⟨ob, om, od, o2⟩) (k3 : Row.ok w ⟨da, dn, dc, t1⟩) (k4 : Row.ok w ⟨db, dm, dd, t2⟩) : Calls Try.prog 15 #[.agg cs, .agg ds] w (Gives w (.bool (decide (o1 = o2) && decide (t1 = t2)))) := by
  have HB : Hid (Below w.heap.size w ((w.alloc (.cells cs 26)).alloc (.cells ds 26))) := ((Below.refl _ _).alloc (Nat.le_refl _) _).alloc (by simp) _
  have K1 := Lib.hid (k1.below HB.out)
  have K2 := Lib.hid (k2.below HB.out)
  have K3 := Lib.hid (k3.below HB.out)
  have K4 := Lib.hid (k4.below HB.out)
  clear k1 k2 k3 k4
  by_cases e : o1 = o2
  · have HE := Lib.hid e
    clear e
    go_enter Try.func15, Try.ntmps15
    go_wp2_with fail
    refine (bEqual_any oa ob on oc om od o1 o2 _ K1.out.len K2.out.len K1.out.rd K2.out.rd K1.out.byt K2.out.byt).mono ?_
    rintro e wz ⟨rfl, rfl⟩
    rw [decide_eq_true HE.out]
    go_wp2_with fail
    refine (bEqual_any da db dn dc dm dd t1 t2 _ K3.out.len K4.out.len K3.out.rd K4.out.rd K3.out.byt K4.out.byt).mono ?_
    rintro e wz ⟨rfl, rfl⟩
    obtain ⟨q, hq⟩ : ∃ x, decide (t1 = t2) = x := ⟨_, rfl⟩
    have HQ := Lib.hid hq
    rw [hq]
    clear hq
    go_wp2_with fail
    go_ret
    exact ⟨by rw [decide_eq_true HE.out, HQ.out, Bool.true_and]; rfl, HB.out⟩
  · have HE := Lib.hid e
    clear e
    go_enter Try.func15, Try.ntmps15
    go_wp2_with fail
    refine (bEqual_any oa ob on oc om od o1 o2 _ K1.out.len K2.out.len K1.out.rd K2.out.rd K1.out.byt K2.out.byt).mono ?_
    rintro e wz ⟨rfl, rfl⟩
    rw [decide_eq_false HE.out]
    go_wp2_with fail
    go_ret
    exact ⟨by rw [decide_eq_false HE.out, Bool.false_and]; rfl, HB.out⟩

theorem tSame_any (s t : Sg) (w : World) (k : s.ok w) (l : t.ok w) : Calls Try.prog 15 #[.agg s.cs.toArray, .agg t.cs.toArray] w (Gives w (.bool (smP s.p t.p))) := by
  by_cases e0 : s.p.pro = t.p.pro
  case neg =>
    rw [show smP s.p t.p = false by simp [smP, e0]]
    exact same_at0 _ _ w  _ _ s.c0 t.c0 e0
  have h0 : t.cs.toArray[0]? = some (.int .u8 s.p.pro) := by rw [e0]; exact t.c0
  by_cases e1 : s.p.src = t.p.src
  case neg =>
    rw [show smP s.p t.p = false by simp [smP, e1]]
    exact same_at1 _ _ w _ _ _ s.c0 h0 s.c1 t.c1 e1
  have h1 : t.cs.toArray[1]? = some (.int .u16 s.p.src) := by rw [e1]; exact t.c1
  by_cases e2 : s.p.dst = t.p.dst
  case neg =>
    rw [show smP s.p t.p = false by simp [smP, e2]]
    exact same_at2 _ _ w _ _ _ _ s.c0 h0 s.c1 h1 s.c2 t.c2 e2
  have h2 : t.cs.toArray[2]? = some (.int .u16 s.p.dst) := by rw [e2]; exact t.c2
  by_cases e3 : s.p.seq = t.p.seq
  case neg =>
    rw [show smP s.p t.p = false by simp [smP, e3]]
    exact same_at3 _ _ w _ _ _ _ _ s.c0 h0 s.c1 h1 s.c2 h2 s.c3 t.c3 e3
  have h3 : t.cs.toArray[3]? = some (.int .u32 s.p.seq) := by rw [e3]; exact t.c3
  by_cases e4 : s.p.ack = t.p.ack
  case neg =>
    rw [show smP s.p t.p = false by simp [smP, e4]]
    exact same_at4 _ _ w _ _ _ _ _ _ s.c0 h0 s.c1 h1 s.c2 h2 s.c3 h3 s.c4 t.c4 e4
  have h4 : t.cs.toArray[4]? = some (.int .u32 s.p.ack) := by rw [e4]; exact t.c4
  by_cases e5 : s.p.fl = t.p.fl
  case neg =>
    rw [show smP s.p t.p = false by simp [smP, e5]]
    exact same_at5 _ _ w _ _ _ _ _ _ _ s.c0 h0 s.c1 h1 s.c2 h2 s.c3 h3 s.c4 h4 s.c5 t.c5 e5
  have h5 : t.cs.toArray[5]? = some (.int .u8 s.p.fl) := by rw [e5]; exact t.c5
  by_cases e6 : s.p.win = t.p.win
  case neg =>
    rw [show smP s.p t.p = false by simp [smP, e6]]
    exact same_at6 _ _ w _ _ _ _ _ _ _ _ s.c0 h0 s.c1 h1 s.c2 h2 s.c3 h3 s.c4 h4 s.c5 h5 s.c6 t.c6 e6
  have h6 : t.cs.toArray[6]? = some (.int .u16 s.p.win) := by rw [e6]; exact t.c6
  by_cases e7 : s.p.urg = t.p.urg
  case neg =>
    rw [show smP s.p t.p = false by simp [smP, e7]]
    exact same_at7 _ _ w _ _ _ _ _ _ _ _ _ s.c0 h0 s.c1 h1 s.c2 h2 s.c3 h3 s.c4 h4 s.c5 h5 s.c6 h6 s.c7 t.c7 e7
  have h7 : t.cs.toArray[7]? = some (.int .u16 s.p.urg) := by rw [e7]; exact t.c7
  by_cases e9 : s.p.ty = t.p.ty
  case neg =>
    rw [show smP s.p t.p = false by simp [smP, e9]]
    exact same_at9 _ _ w _ _ _ _ _ _ _ _ _ _ s.c0 h0 s.c1 h1 s.c2 h2 s.c3 h3 s.c4 h4 s.c5 h5 s.c6 h6 s.c7 h7 s.c9 t.c9 e9
  have h9 : t.cs.toArray[9]? = some (.int .u8 s.p.ty) := by rw [e9]; exact t.c9
  by_cases e10 : s.p.co = t.p.co
  case neg =>
    rw [show smP s.p t.p = false by simp [smP, e10]]
    exact same_at10 _ _ w _ _ _ _ _ _ _ _ _ _ _ s.c0 h0 s.c1 h1 s.c2 h2 s.c3 h3 s.c4 h4 s.c5 h5 s.c6 h6 s.c7 h7 s.c9 h9 s.c10 t.c10 e10
  have h10 : t.cs.toArray[10]? = some (.int .u8 s.p.co) := by rw [e10]; exact t.c10
  rw [show smP s.p t.p = (decide (s.p.op = t.p.op) && decide (s.p.dt = t.p.dt)) by simp [smP, e0, e1, e2, e3, e4, e5, e6, e7, e9, e10]]
  exact same_rows _ _ w _ _ _ _ _ _ _ _ _ _ s.c0 h0 s.c1 h1 s.c2 h2 s.c3 h3 s.c4 h4 s.c5 h5 s.c6 h6 s.c7 h7 s.c9 h9 s.c10 h10 _ _ _ _ _ _ _ _ _ _ _ _ _ _ _ _ s.c8 t.c8 s.c11 t.c11 k.opt l.opt k.dat l.dat
end Go.Proofs.Ytabdejoakecioaa

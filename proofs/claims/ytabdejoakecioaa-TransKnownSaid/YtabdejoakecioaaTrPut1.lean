/-
  The contracts of putTCP, putUDP and putICMP of package trans, with the function that Put hands over. Conditions: a segment whose numbers fit their Go types, a writer that is empty.
-/
import Derived.Test.YtabdejoakecioaaTrM
namespace Go.Proofs.Ytabdejoakecioaa
open Go.RowKit

theorem u64_wrap (x : Int) (h0 : 0 ≤ x) (h1 : x < 18446744073709551616) : IntKind.u64.wrap x = x := by rw [IntKind.wrap_u64]; omega
set_option maxRecDepth 100000 in
set_option maxHeartbeats 2000000 in
theorem tPutT_any (s : Sg) (g : Nat) (w : World) (k : s.ok w) (h : w.heap[g]? = some (.cells #[.slice none 0 0] 67 (0, 0))) (h6 : s.p.pro = 6) (hn4 : s.on % 4 = 0) (hn40 : s.on ≤ 40) :
    Calls Try.prog 56 #[.agg s.cs.toArray, .func (.func 33) #[] #[.pointer (some ⟨g, 0, none⟩)]] w fun e w' => e = .returned (.tuple #[]) ∧ PS w g w' (hdS s.p 0) := by
  have hmf : ∀ (fn : Fn) (first cap : Array Value) (w : World), (Instr.makeFunc fn first cap).run Try.prog w = .ok (.func fn first cap) w := fun _ _ _ _ => rfl
  have hlt : g < w.heap.size := (Array.getElem?_eq_some_iff.1 h).1
  obtain ⟨wA, hwA⟩ : ∃ x, w.alloc (.cells s.cs.toArray 26) = x := ⟨_, rfl⟩
  have HBA : Hid (Below w.heap.size w wA) := by show Below _ _ _; rw [← hwA]; exact (Below.refl _ _).alloc (Nat.le_refl _) _
  have HR : Hid (wA.rangeAt w.heap.size 0 s.cs) := by show World.rangeAt _ _ _ _; rw [← hwA]; exact range_new w _ _
  have HNE : Hid (w.heap.size ≠ g) := by show _ ≠ _; omega
  have HP0 : Hid (PS wA g wA []) := PS.begin (by rw [HBA.out.block g hlt]; exact h)
  have f := k.fit
  have Fsrc := Lib.hid (fit2 (c := s.p.src) f.src.1 (by have := f.src.2; omega))
  have Bsrc := Lib.hid (u64_wrap s.p.src f.src.1 (by have := f.src.2; omega))
  have Fdst := Lib.hid (fit2 (c := s.p.dst) f.dst.1 (by have := f.dst.2; omega))
  have Bdst := Lib.hid (u64_wrap s.p.dst f.dst.1 (by have := f.dst.2; omega))
  have Fseq := Lib.hid (fit4 (c := s.p.seq) f.seq.1 f.seq.2)
  have Bseq := Lib.hid (u64_wrap s.p.seq f.seq.1 (by have := f.seq.2; omega))
  have Fack := Lib.hid (fit4 (c := s.p.ack) f.ack.1 f.ack.2)
  have Back := Lib.hid (u64_wrap s.p.ack f.ack.1 (by have := f.ack.2; omega))
  have Ffl := Lib.hid (fit1 (c := s.p.fl) f.fl.1 (by have := f.fl.2; omega))
  have Bfl := Lib.hid (u64_wrap s.p.fl f.fl.1 (by have := f.fl.2; omega))
  have Fwin := Lib.hid (fit2 (c := s.p.win) f.win.1 (by have := f.win.2; omega))
  have Bwin := Lib.hid (u64_wrap s.p.win f.win.1 (by have := f.win.2; omega))
  have Furg := Lib.hid (fit2 (c := s.p.urg) f.urg.1 (by have := f.urg.2; omega))
  have Burg := Lib.hid (u64_wrap s.p.urg f.urg.1 (by have := f.urg.2; omega))
  have FZ := Lib.hid (fit2 (c := 0) (by omega) (by omega))
  have hon : s.p.op.length = s.on := k.opt.len
  obtain ⟨q, hqe⟩ : ∃ q : Int, 80 + (s.on : Int) * 4 = q := ⟨_, rfl⟩
  have hq0 : 0 ≤ q ∧ q ≤ 240 := by omega
  have FL := Lib.hid (fit1 (c := q) (by omega) (by omega))
  have HQ : Hid (80 + (s.p.op.length : Int) * 4 = q) := by show _ = _; rw [hon, hqe]
  have hq1 : (20 + (s.on : Int)) / 4 * 16 = q := by omega
  have hq2 : IntKind.u64.wrap q = q := u64_wrap q (by omega) (by omega)
  have HF : Hid (hdS s.p 0 = ((((((((([] : List Int) ++ be 2 s.p.src) ++ be 2 s.p.dst) ++ be 4 s.p.seq) ++ be 4 s.p.ack) ++ be 1 q) ++ be 1 s.p.fl) ++ be 2 s.p.win) ++ be 2 0) ++ be 2 s.p.urg) := by show _ = _; rw [hdS, if_pos h6, HQ.out]
  obtain ⟨cs, hcs⟩ : ∃ cs, s.cs.toArray = cs := ⟨_, rfl⟩
  rw [hcs] at hwA ⊢
  have HC : Hid (∀ j v, cs[j]? = some v → ∀ ys w', PS wA g w' ys → w'.cell? ⟨w.heap.size, j, none⟩ = some v) := fun j v hv ys w' hp => range_cell (hp.range HR.out HNE.out) (by rw [hcs]; exact hv)
  have Csrc : Hid (cs[1]? = some (.int .u16 s.p.src)) := by show _ = _; rw [← hcs]; exact s.c1
  have Cdst : Hid (cs[2]? = some (.int .u16 s.p.dst)) := by show _ = _; rw [← hcs]; exact s.c2
  have Cseq : Hid (cs[3]? = some (.int .u32 s.p.seq)) := by show _ = _; rw [← hcs]; exact s.c3
  have Cack : Hid (cs[4]? = some (.int .u32 s.p.ack)) := by show _ = _; rw [← hcs]; exact s.c4
  have Cfl : Hid (cs[5]? = some (.int .u8 s.p.fl)) := by show _ = _; rw [← hcs]; exact s.c5
  have Cwin : Hid (cs[6]? = some (.int .u16 s.p.win)) := by show _ = _; rw [← hcs]; exact s.c6
  have Curg : Hid (cs[7]? = some (.int .u16 s.p.urg)) := by show _ = _; rw [← hcs]; exact s.c7
  have CL : Hid (cs[8]? = some (.slice s.oa s.on s.oc)) := by show _ = _; rw [← hcs]; exact s.c8
  clear k h hlt f hcs hon
  go_enter Try.func56, Try.ntmps56
  have hc := HC.out 1 _ Csrc.out _ _ HP0.out
  have hw := Bsrc.out
  go_wp2_with fail
  refine (HP0.out.part s.p.src 2 Fsrc.out (by simp)).mono ?_
  rintro e w1 ⟨rfl, hp⟩
  have HP1 : Hid (PS wA g w1 ([] ++ be 2 s.p.src)) := hp
  clear hp HP0 hc hw
  have hc := HC.out 2 _ Cdst.out _ _ HP1.out
  have hw := Bdst.out
  go_wp2_with fail
  refine (HP1.out.part s.p.dst 2 Fdst.out (by simp [be_length])).mono ?_
  rintro e w2 ⟨rfl, hp⟩
  have HP2 : Hid (PS wA g w2 (([] ++ be 2 s.p.src) ++ be 2 s.p.dst)) := hp
  clear hp HP1 hc hw
  have hc := HC.out 3 _ Cseq.out _ _ HP2.out
  have hw := Bseq.out
  go_wp2_with fail
  refine (HP2.out.part s.p.seq 4 Fseq.out (by simp [be_length])).mono ?_
  rintro e w3 ⟨rfl, hp⟩
  have HP3 : Hid (PS wA g w3 ((([] ++ be 2 s.p.src) ++ be 2 s.p.dst) ++ be 4 s.p.seq)) := hp
  clear hp HP2 hc hw
  have hc := HC.out 4 _ Cack.out _ _ HP3.out
  have hw := Back.out
  go_wp2_with fail
  refine (HP3.out.part s.p.ack 4 Fack.out (by simp [be_length])).mono ?_
  rintro e w4 ⟨rfl, hp⟩
  have HP4 : Hid (PS wA g w4 (((([] ++ be 2 s.p.src) ++ be 2 s.p.dst) ++ be 4 s.p.seq) ++ be 4 s.p.ack)) := hp
  clear hp HP3 hc hw
  have hc := HC.out 8 _ CL.out _ _ HP4.out
  go_wp2_with fail
  refine (HP4.out.part q 1 FL.out (by simp [be_length])).mono ?_
  rintro e w5 ⟨rfl, hp⟩
  have HP5 : Hid (PS wA g w5 ((((([] ++ be 2 s.p.src) ++ be 2 s.p.dst) ++ be 4 s.p.seq) ++ be 4 s.p.ack) ++ be 1 q)) := hp
  clear hp HP4 hc
  have hc := HC.out 5 _ Cfl.out _ _ HP5.out
  have hw := Bfl.out
  go_wp2_with fail
  refine (HP5.out.part s.p.fl 1 Ffl.out (by simp [be_length])).mono ?_
  rintro e w6 ⟨rfl, hp⟩
  have HP6 : Hid (PS wA g w6 (((((([] ++ be 2 s.p.src) ++ be 2 s.p.dst) ++ be 4 s.p.seq) ++ be 4 s.p.ack) ++ be 1 q) ++ be 1 s.p.fl)) := hp
  clear hp HP5 hc hw
  have hc := HC.out 6 _ Cwin.out _ _ HP6.out
  have hw := Bwin.out
  go_wp2_with fail
  refine (HP6.out.part s.p.win 2 Fwin.out (by simp [be_length])).mono ?_
  rintro e w7 ⟨rfl, hp⟩
  have HP7 : Hid (PS wA g w7 ((((((([] ++ be 2 s.p.src) ++ be 2 s.p.dst) ++ be 4 s.p.seq) ++ be 4 s.p.ack) ++ be 1 q) ++ be 1 s.p.fl) ++ be 2 s.p.win)) := hp
  clear hp HP6 hc hw
  go_wp2_with fail
  refine (HP7.out.part 0 2 FZ.out (by simp [be_length])).mono ?_
  rintro e w8 ⟨rfl, hp⟩
  have HP8 : Hid (PS wA g w8 (((((((([] ++ be 2 s.p.src) ++ be 2 s.p.dst) ++ be 4 s.p.seq) ++ be 4 s.p.ack) ++ be 1 q) ++ be 1 s.p.fl) ++ be 2 s.p.win) ++ be 2 0)) := hp
  clear hp HP7
  have hc := HC.out 7 _ Curg.out _ _ HP8.out
  have hw := Burg.out
  go_wp2_with fail
  refine (HP8.out.part s.p.urg 2 Furg.out (by simp [be_length])).mono ?_
  rintro e w9 ⟨rfl, hp⟩
  have HP9 : Hid (PS wA g w9 ((((((((([] ++ be 2 s.p.src) ++ be 2 s.p.dst) ++ be 4 s.p.seq) ++ be 4 s.p.ack) ++ be 1 q) ++ be 1 s.p.fl) ++ be 2 s.p.win) ++ be 2 0) ++ be 2 s.p.urg)) := hp
  clear hp HP8 hc hw
  go_wp2_with fail
  go_end0
  refine ⟨rfl, ?_⟩
  rw [HF.out]
  exact HP9.out.elder HBA.out

set_option maxRecDepth 100000 in
set_option maxHeartbeats 2000000 in
theorem tPutU_any (s : Sg) (g : Nat) (w : World) (k : s.ok w) (h : w.heap[g]? = some (.cells #[.slice none 0 0] 67 (0, 0))) (h17 : s.p.pro = 17) (hd : s.dn ≤ 65000) :
    Calls Try.prog 60 #[.agg s.cs.toArray, .func (.func 33) #[] #[.pointer (some ⟨g, 0, none⟩)]] w fun e w' => e = .returned (.tuple #[]) ∧ PS w g w' (hdS s.p 0) := by
  have hmf : ∀ (fn : Fn) (first cap : Array Value) (w : World), (Instr.makeFunc fn first cap).run Try.prog w = .ok (.func fn first cap) w := fun _ _ _ _ => rfl
  have hlt : g < w.heap.size := (Array.getElem?_eq_some_iff.1 h).1
  obtain ⟨wA, hwA⟩ : ∃ x, w.alloc (.cells s.cs.toArray 26) = x := ⟨_, rfl⟩
  have HBA : Hid (Below w.heap.size w wA) := by show Below _ _ _; rw [← hwA]; exact (Below.refl _ _).alloc (Nat.le_refl _) _
  have HR : Hid (wA.rangeAt w.heap.size 0 s.cs) := by show World.rangeAt _ _ _ _; rw [← hwA]; exact range_new w _ _
  have HNE : Hid (w.heap.size ≠ g) := by show _ ≠ _; omega
  have HP0 : Hid (PS wA g wA []) := PS.begin (by rw [HBA.out.block g hlt]; exact h)
  have f := k.fit
  have Fsrc := Lib.hid (fit2 (c := s.p.src) f.src.1 (by have := f.src.2; omega))
  have Bsrc := Lib.hid (u64_wrap s.p.src f.src.1 (by have := f.src.2; omega))
  have Fdst := Lib.hid (fit2 (c := s.p.dst) f.dst.1 (by have := f.dst.2; omega))
  have Bdst := Lib.hid (u64_wrap s.p.dst f.dst.1 (by have := f.dst.2; omega))
  have FZ := Lib.hid (fit2 (c := 0) (by omega) (by omega))
  have hdn : s.p.dt.length = s.dn := k.dat.len
  obtain ⟨q, hqe⟩ : ∃ q : Int, 8 + (s.dn : Int) = q := ⟨_, rfl⟩
  have hq0 : 0 ≤ q ∧ q ≤ 65535 := by omega
  have FL := Lib.hid (fit2 (c := q) (by omega) (by omega))
  have HQ : Hid (8 + (s.p.dt.length : Int) = q) := by show _ = _; rw [hdn, hqe]
  have hq2 : IntKind.u64.wrap q = q := u64_wrap q (by omega) (by omega)
  have HF : Hid (hdS s.p 0 = (((([] : List Int) ++ be 2 s.p.src) ++ be 2 s.p.dst) ++ be 2 q) ++ be 2 0) := by show _ = _; rw [hdS, if_neg (by rw [h17]; decide), if_pos h17, HQ.out]
  obtain ⟨cs, hcs⟩ : ∃ cs, s.cs.toArray = cs := ⟨_, rfl⟩
  rw [hcs] at hwA ⊢
  have HC : Hid (∀ j v, cs[j]? = some v → ∀ ys w', PS wA g w' ys → w'.cell? ⟨w.heap.size, j, none⟩ = some v) := fun j v hv ys w' hp => range_cell (hp.range HR.out HNE.out) (by rw [hcs]; exact hv)
  have Csrc : Hid (cs[1]? = some (.int .u16 s.p.src)) := by show _ = _; rw [← hcs]; exact s.c1
  have Cdst : Hid (cs[2]? = some (.int .u16 s.p.dst)) := by show _ = _; rw [← hcs]; exact s.c2
  have CL : Hid (cs[11]? = some (.slice s.da s.dn s.dc)) := by show _ = _; rw [← hcs]; exact s.c11
  clear k h hlt f hcs hdn
  go_enter Try.func60, Try.ntmps60
  have hc := HC.out 1 _ Csrc.out _ _ HP0.out
  have hw := Bsrc.out
  go_wp2_with fail
  refine (HP0.out.part s.p.src 2 Fsrc.out (by simp)).mono ?_
  rintro e w1 ⟨rfl, hp⟩
  have HP1 : Hid (PS wA g w1 ([] ++ be 2 s.p.src)) := hp
  clear hp HP0 hc hw
  have hc := HC.out 2 _ Cdst.out _ _ HP1.out
  have hw := Bdst.out
  go_wp2_with fail
  refine (HP1.out.part s.p.dst 2 Fdst.out (by simp [be_length])).mono ?_
  rintro e w2 ⟨rfl, hp⟩
  have HP2 : Hid (PS wA g w2 (([] ++ be 2 s.p.src) ++ be 2 s.p.dst)) := hp
  clear hp HP1 hc hw
  have hc := HC.out 11 _ CL.out _ _ HP2.out
  go_wp2_with fail
  refine (HP2.out.part q 2 FL.out (by simp [be_length])).mono ?_
  rintro e w3 ⟨rfl, hp⟩
  have HP3 : Hid (PS wA g w3 ((([] ++ be 2 s.p.src) ++ be 2 s.p.dst) ++ be 2 q)) := hp
  clear hp HP2 hc
  go_wp2_with fail
  refine (HP3.out.part 0 2 FZ.out (by simp [be_length])).mono ?_
  rintro e w4 ⟨rfl, hp⟩
  have HP4 : Hid (PS wA g w4 (((([] ++ be 2 s.p.src) ++ be 2 s.p.dst) ++ be 2 q) ++ be 2 0)) := hp
  clear hp HP3
  go_wp2_with fail
  go_end0
  refine ⟨rfl, ?_⟩
  rw [HF.out]
  exact HP4.out.elder HBA.out

set_option maxRecDepth 100000 in
set_option maxHeartbeats 2000000 in
theorem tPutI_any (s : Sg) (g : Nat) (w : World) (k : s.ok w) (h : w.heap[g]? = some (.cells #[.slice none 0 0] 67 (0, 0))) (h6 : ¬ s.p.pro = 6) (h17 : ¬ s.p.pro = 17) :
    Calls Try.prog 52 #[.agg s.cs.toArray, .func (.func 33) #[] #[.pointer (some ⟨g, 0, none⟩)]] w fun e w' => e = .returned (.tuple #[]) ∧ PS w g w' (hdS s.p 0) := by
  have hmf : ∀ (fn : Fn) (first cap : Array Value) (w : World), (Instr.makeFunc fn first cap).run Try.prog w = .ok (.func fn first cap) w := fun _ _ _ _ => rfl
  have hlt : g < w.heap.size := (Array.getElem?_eq_some_iff.1 h).1
  obtain ⟨wA, hwA⟩ : ∃ x, w.alloc (.cells s.cs.toArray 26) = x := ⟨_, rfl⟩
  have HBA : Hid (Below w.heap.size w wA) := by show Below _ _ _; rw [← hwA]; exact (Below.refl _ _).alloc (Nat.le_refl _) _
  have HR : Hid (wA.rangeAt w.heap.size 0 s.cs) := by show World.rangeAt _ _ _ _; rw [← hwA]; exact range_new w _ _
  have HNE : Hid (w.heap.size ≠ g) := by show _ ≠ _; omega
  have HP0 : Hid (PS wA g wA []) := PS.begin (by rw [HBA.out.block g hlt]; exact h)
  have f := k.fit
  have Fty := Lib.hid (fit1 (c := s.p.ty) f.ty.1 (by have := f.ty.2; omega))
  have Bty := Lib.hid (u64_wrap s.p.ty f.ty.1 (by have := f.ty.2; omega))
  have Fco := Lib.hid (fit1 (c := s.p.co) f.co.1 (by have := f.co.2; omega))
  have Bco := Lib.hid (u64_wrap s.p.co f.co.1 (by have := f.co.2; omega))
  have FZ := Lib.hid (fit2 (c := 0) (by omega) (by omega))
  have HF : Hid (hdS s.p 0 = ((([] : List Int) ++ be 1 s.p.ty) ++ be 1 s.p.co) ++ be 2 0) := by show _ = _; rw [hdS, if_neg h6, if_neg h17]
  obtain ⟨cs, hcs⟩ : ∃ cs, s.cs.toArray = cs := ⟨_, rfl⟩
  rw [hcs] at hwA ⊢
  have HC : Hid (∀ j v, cs[j]? = some v → ∀ ys w', PS wA g w' ys → w'.cell? ⟨w.heap.size, j, none⟩ = some v) := fun j v hv ys w' hp => range_cell (hp.range HR.out HNE.out) (by rw [hcs]; exact hv)
  have Cty : Hid (cs[9]? = some (.int .u8 s.p.ty)) := by show _ = _; rw [← hcs]; exact s.c9
  have Cco : Hid (cs[10]? = some (.int .u8 s.p.co)) := by show _ = _; rw [← hcs]; exact s.c10
  clear k h hlt f hcs
  go_enter Try.func52, Try.ntmps52
  have hc := HC.out 9 _ Cty.out _ _ HP0.out
  have hw := Bty.out
  go_wp2_with fail
  refine (HP0.out.part s.p.ty 1 Fty.out (by simp)).mono ?_
  rintro e w1 ⟨rfl, hp⟩
  have HP1 : Hid (PS wA g w1 ([] ++ be 1 s.p.ty)) := hp
  clear hp HP0 hc hw
  have hc := HC.out 10 _ Cco.out _ _ HP1.out
  have hw := Bco.out
  go_wp2_with fail
  refine (HP1.out.part s.p.co 1 Fco.out (by simp [be_length])).mono ?_
  rintro e w2 ⟨rfl, hp⟩
  have HP2 : Hid (PS wA g w2 (([] ++ be 1 s.p.ty) ++ be 1 s.p.co)) := hp
  clear hp HP1 hc hw
  go_wp2_with fail
  refine (HP2.out.part 0 2 FZ.out (by simp [be_length])).mono ?_
  rintro e w3 ⟨rfl, hp⟩
  have HP3 : Hid (PS wA g w3 ((([] ++ be 1 s.p.ty) ++ be 1 s.p.co) ++ be 2 0)) := hp
  clear hp HP2
  go_wp2_with fail
  go_end0
  refine ⟨rfl, ?_⟩
  rw [HF.out]
  exact HP3.out.elder HBA.out

end Go.Proofs.Ytabdejoakecioaa

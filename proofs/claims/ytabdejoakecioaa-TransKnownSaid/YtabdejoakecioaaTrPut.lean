/-
  The contract of Put of package trans. Conditions: a segment whose numbers fit their Go types and whose rows lie where the slices lead, options of at most 100 bytes, data of at most 300 or of more than 65535; addresses that lie where the slices lead.
-/
import Derived.Test.YtabdejoakecioaaTrRight
import Derived.Test.YtabdejoakecioaaTrPseudo
import Derived.Test.YtabdejoakecioaaTrPut1
namespace Go.Proofs.Ytabdejoakecioaa
open Go.RowKit

/-- Bytes of its own, and an error. -/
def Made2 (w : World) (xs : List Int) (er : Int) (e : Ending) (w' : World) : Prop := ∃ a n c, e = .returned (.tuple #[.slice a n c, .int .i64 er]) ∧ Own w' w.heap.size a n c xs ∧ Below w.heap.size w w'
/-- What lies in memory while Put goes on. -/
structure PF (w : World) (b1 : Nat) (s : Sg) (r1 r2 : Row) (w' : World) : Prop where
  below : Below w.heap.size w w'
  lt : w.heap.size ≤ b1 ∧ b1 < w'.heap.size ∧ w.heap.size < w'.heap.size
  seg : w'.rangeAt w.heap.size 0 s.cs
  knd : w'.rangeAt b1 0 (kdV s.p.pro)
  ok : s.ok w'
  r1 : r1.ok w'
  r2 : r2.ok w'
theorem PF.next {w w1 w2 : World} {b1 : Nat} {s : Sg} {r1 r2 : Row} (h : PF w b1 s r1 r2 w1) (hb : Below w1.heap.size w1 w2) : PF w b1 s r1 r2 w2 :=
  ⟨h.below.trans (hb.mono h.below.size), ⟨h.lt.1, Nat.lt_of_lt_of_le h.lt.2.1 hb.size, Nat.lt_of_lt_of_le h.lt.2.2 hb.size⟩, range_kept hb h.seg, range_kept hb h.knd, h.ok.below hb, h.r1.below hb, h.r2.below hb⟩
theorem PS.row {w1 w : World} {g : Nat} {xs : List Int} (h : PS w1 g w xs) {r : Row} (hr : r.ok w1) (hb : r.xs ≠ [] → blk r.a ≠ some g) : r.ok w := ⟨hr.len, hr.cap, hr.max, h.rd hr.rd hb, hr.byt⟩
theorem kd_sum (p : Int) (h : hdN p ≠ 0) : (kdV p).toArray[1]? = some (.int .i64 (smAt p)) := by
  rcases hdN_pro' h with rfl | rfl | rfl | rfl <;> rfl
theorem kd_blank (p : Int) (h : hdN p ≠ 0) : (kdV p).toArray[3]? = some (.bool (decide (p = 17))) := by
  rcases hdN_pro' h with rfl | rfl | rfl | rfl <;> rfl
theorem smAt_len (s : Pl) (h : hdN s.pro ≠ 0) : smAt s.pro + 2 ≤ (sbS s 0).length := by
  rw [sbS_len s 0 h]
  rcases hdN_pro' h with e | e | e | e <;> rw [e] <;> simp [smAt, hdN] <;> omega
theorem kind_stored (w w1 : World) (s : Sg) (r1 r2 : Row) (h : Below w.heap.size w w1) (hs : w.heap.size < w1.heap.size) (hr : w1.rangeAt w.heap.size 0 s.cs) (k : s.ok w1) (k1 : r1.ok w1) (k2 : r2.ok w1) :
    PF w w1.heap.size s r1 r2 ((w1.alloc (.cells kZ.toArray 63)).setCells w1.heap.size 0 (kdV s.p.pro)) := by
  obtain ⟨hb, hrk, _⟩ := put_new w1 (kdV s.p.pro) kZ 63 (by rw [kdV_len]; rfl)
  have hsz : ((w1.alloc (.cells kZ.toArray 63)).setCells w1.heap.size 0 (kdV s.p.pro)).heap.size = w1.heap.size + 1 := by rw [size_setCells]; simp
  exact ⟨h.trans (hb.mono h.size), ⟨h.size, by omega, by omega⟩, range_kept hb hr, hrk, k.below hb, k1.below hb, k2.below hb⟩

set_option maxRecDepth 100000 in
set_option maxHeartbeats 8000000 in
theorem put_by (F : Nat) (s : Sg) (sa da : Option Addr) (sn sc dn dc : Nat) (src dst : List Int) (w : World) (hcf : ∀ args w, (callFunc F args).run Try.prog w = .ok (.enter F args) w) (hh : hdN s.p.pro ≠ 0) (hk5 : (kdV s.p.pro).toArray[5]? = some (.func (.func F) #[] #[]))
    (hF : rgP s.p = true → ∀ g w1, s.ok w1 → w1.heap[g]? = some (.cells #[.slice none 0 0] 67 (0, 0)) → Calls Try.prog F #[.agg s.cs.toArray, .func (.func 33) #[] #[.pointer (some ⟨g, 0, none⟩)]] w1 fun e w' => e = .returned (.tuple #[]) ∧ PS w1 g w' (hdS s.p 0))
    (k : s.ok w) (hs : Row.ok w ⟨sa, sn, sc, src⟩) (hd : Row.ok w ⟨da, dn, dc, dst⟩) (ho : s.on ≤ 100) (hdd : s.dn ≤ 300 ∨ (65535 < s.dn ∧ s.dn ≤ 281474976710656)) : Calls Try.prog 11 #[.agg s.cs.toArray, .slice sa sn sc, .slice da dn dc] w (Made2 w (ptB s.p src dst) (ptE s.p sn dn)) := by
  have hmf : ∀ (fn : Fn) (first cap : Array Value) (w : World), (Instr.makeFunc fn first cap).run Try.prog w = .ok (.func fn first cap) w := fun _ _ _ _ => rfl
  have hls : src.length = sn := hs.len
  have hld : dst.length = dn := hd.len
  have hon : s.p.op.length = s.on := k.opt.len
  have hdn : s.p.dt.length = s.dn := k.dat.len
  have hdmx : s.dn ≤ 281474976710656 := by omega
  have hsn : sn ≤ 9223372036854775807 := by have h1 := hs.cap; have h2 := hs.max; simp only [maxLen] at h1 h2; omega
  have hdnn : dn ≤ 9223372036854775807 := by have h1 := hd.cap; have h2 := hd.max; simp only [maxLen] at h1 h2; omega
  obtain ⟨wA, hwA⟩ : ∃ x, w.alloc (.cells s.cs.toArray 26) = x := ⟨_, rfl⟩
  have hbA : Below w.heap.size w wA := by rw [← hwA]; exact (Below.refl _ _).alloc (Nat.le_refl _) _
  have hsA : w.heap.size < wA.heap.size := by rw [← hwA]; simp
  have hrA : wA.rangeAt w.heap.size 0 s.cs := by rw [← hwA]; exact range_new _ _ _
  have c0 := range_cell hrA s.c0
  have HA : Hid (Below w.heap.size w wA ∧ w.heap.size < wA.heap.size ∧ wA.rangeAt w.heap.size 0 s.cs ∧ s.ok wA ∧ Row.ok wA ⟨sa, sn, sc, src⟩ ∧ Row.ok wA ⟨da, dn, dc, dst⟩) := ⟨hbA, hsA, hrA, k.below hbA, hs.below hbA, hd.below hbA⟩
  have HF := Lib.hid hF
  have H5 := Lib.hid hk5
  have HH := Lib.hid hh
  have HLS := Lib.hid hls
  have HLD := Lib.hid hld
  have HON := Lib.hid hon
  have HDN := Lib.hid hdn
  have HDD := Lib.hid hdd
  have HLIM := Lib.hid (And.intro (And.intro hdmx ho) (And.intro hsn hdnn))
  have HFIT := Lib.hid k.fit
  have HBS := Lib.hid (And.intro hs.byt hd.byt)
  obtain ⟨cs, hcs⟩ : ∃ cs, s.cs.toArray = cs := ⟨_, rfl⟩
  have HCS := Lib.hid hcs
  obtain ⟨kc, hkc⟩ : ∃ kc, (kdV s.p.pro).toArray = kc := ⟨_, rfl⟩
  have HKC := Lib.hid hkc
  have HKO : Hid (∀ w, Calls Try.prog 30 #[.int .u8 s.p.pro] w (Gives w (.tuple #[.agg kc, .bool true]))) := fun w => by have := tKindOf_any s.p.pro w; rw [hkc, decide_eq_true hh] at this; exact this
  have HZ : Hid (∀ w1 : World, (w1.alloc (.cells kZ.toArray 63)).there w1.heap.size 0 (kdV s.p.pro).length) := fun w1 => there_new _ _ _ _ (by rw [kdV_len]; rfl) _ rfl
  have HIK : Hid ((Try.prog.info? 63).map (·.size) = some (kdV s.p.pro).length) := by show _ = _; rw [kdV_len]; exact infK
  rw [hcs] at hwA ⊢
  clear hF hk5 hh hls hld hon hdn hdd hdmx ho hsn hdnn k hs hd hbA hsA hrA hcs hkc
  go_enter Try.func11, Try.ntmps11
  go_wp2_with fail
  refine (HKO.out _).mono ?_
  rintro e w1 ⟨rfl, hb1⟩
  have HP1 := Lib.hid (kind_stored w w1 s ⟨sa, sn, sc, src⟩ ⟨da, dn, dc, dst⟩ (HA.out.1.trans (hb1.mono HA.out.1.size)) (Nat.lt_of_lt_of_le HA.out.2.1 hb1.size) (range_kept hb1 HA.out.2.2.1) (HA.out.2.2.2.1.below hb1) (HA.out.2.2.2.2.1.below hb1) (HA.out.2.2.2.2.2.below hb1))
  clear hb1 HA
  go_upto_region 4 with (refine stN (fun w' => Hid (PF w w1.heap.size s ⟨sa, sn, sc, src⟩ ⟨da, dn, dc, dst⟩ w')) 63 (.tmp 8) (.tmp 16) rfl rfl w1.heap.size 0 (kdV s.p.pro) rfl (by rw [HKC.out]; rfl) (HZ.out w1) HIK.out (kdV_one _) HP1 ?_; intro w2 H2)
  clear HP1
  obtain ⟨b1, hb⟩ : ∃ x, w1.heap.size = x := ⟨_, rfl⟩
  rw [hb] at H2 ⊢
  clear hb
  go_wp2_with (first
    | (refine ldC 63 (.tmp 8) rfl rfl b1 rfl (kdV s.p.pro) H2.out.knd _ Try.underlying63 rfl HIK.out ?_; rw [HKC.out])
    | (refine ldS (.tmp 3) rfl rfl w.heap.size rfl s H2.out.seg ?_; rw [HCS.out]))
  rw [← HKC.out, ← HCS.out]
  refine (tkRight_any s _ w2 H2.out.ok (Below.refl _ _) HH.out (by have := HLIM.out; omega) HLIM.out.1.1).mono ?_
  rintro e w3 ⟨rfl, hb3⟩
  have H3 := Lib.hid (H2.out.next hb3)
  rw [HKC.out, HCS.out]
  clear hb3 H2
  cases hrg : rgP s.p with
  | false =>
    have HE : Hid (ptE s.p sn dn = 51) := by show _ = _; unfold ptE; rw [if_neg HH.out, if_pos hrg]
    have HV : Hid (ptB s.p src dst = []) := by show _ = _; unfold ptB; rw [HLS.out, HLD.out, HE.out, if_neg (by decide)]
    clear hrg
    go_wp2_with fail
    go_ret2
    refine ⟨none, 0, 0, by rw [HE.out]; rfl, ?_, H3.out.below⟩
    rw [HV.out]; exact Own.nil _ _
  | true =>
  have HRG := Lib.hid hrg
  have HLEN : Hid (s.on ≤ 100 ∧ s.dn ≤ 300 ∧ hdN s.p.pro ≤ 20) := by
    have h1 := ((rgP_iff s.p).1 hrg).2.2.2.2
    have h2 := HDD.out
    have h3 := HDN.out
    exact ⟨HLIM.out.1.2, by omega, by unfold hdN; (repeat' split) <;> omega⟩
  clear hrg
  go_wp2_with fail
  refine (tAreAddrs_any sa da sn sc dn dc _ (by have := HLIM.out; omega) (by have := HLIM.out; omega)).mono ?_
  rintro e wz ⟨rfl, rfl⟩
  cases had : adB sn dn with
  | false =>
    have HE : Hid (ptE s.p sn dn = 2) := by show _ = _; unfold ptE; rw [if_neg HH.out, if_neg (by rw [HRG.out]; decide), if_pos had]
    have HV : Hid (ptB s.p src dst = []) := by show _ = _; unfold ptB; rw [HLS.out, HLD.out, HE.out, if_neg (by decide)]
    clear had
    go_wp2_with fail
    go_ret2
    refine ⟨none, 0, 0, by rw [HE.out]; rfl, ?_, H3.out.below⟩
    rw [HV.out]; exact Own.nil _ _
  | true =>
  have HAD := Lib.hid had
  have HE : Hid (ptE s.p sn dn = 0) := ptE_zero.2 ⟨HH.out, HRG.out, had⟩
  have HV : Hid (ptB s.p src dst = sbS s.p (ckS s.p src dst)) := by show _ = _; unfold ptB; rw [HLS.out, HLD.out, HE.out, if_pos rfl]
  clear had
  obtain ⟨wB, hwB⟩ : ∃ x, w3.alloc (.cells #[.slice none 0 0] 67) = x := ⟨_, rfl⟩
  have hbB : Below w3.heap.size w3 wB := by rw [← hwB]; exact (Below.refl _ _).alloc (Nat.le_refl _) _
  obtain ⟨g, hg⟩ : ∃ x, w3.heap.size = x := ⟨_, rfl⟩
  have hblk : wB.heap[g]? = some (.cells #[.slice none 0 0] 67 (0, 0)) := by rw [← hwB, ← hg]; exact Blk_new w3 _ _
  have HB := Lib.hid (H3.out.next hbB)
  have HG : Hid (w.heap.size < g ∧ b1 < g) := by show _ ∧ _; rw [← hg]; exact ⟨H3.out.lt.2.2, H3.out.lt.2.1⟩
  have HBLK := Lib.hid hblk
  have HAP : Hid ((s.p.op ≠ [] → blk s.oa ≠ some g) ∧ (s.p.dt ≠ [] → blk s.da ≠ some g) ∧ (src ≠ [] → blk sa ≠ some g) ∧ (dst ≠ [] → blk da ≠ some g)) := ⟨H3.out.ok.opt.rd.apart (Nat.le_of_eq hg), H3.out.ok.dat.rd.apart (Nat.le_of_eq hg), H3.out.r1.rd.apart (Nat.le_of_eq hg), H3.out.r2.rd.apart (Nat.le_of_eq hg)⟩
  have c5 := range_cell HB.out.knd H5.out
  clear hbB hblk H3
  go_upto_region 9 with fail
  go_wp2_with (first | (refine ldS (.tmp 3) rfl rfl w.heap.size rfl s HB.out.seg ?_; rw [HCS.out]))
  rw [← HCS.out]
  refine (HF.out HRG.out g wB HB.out.ok HBLK.out).mono ?_
  rintro e w5 ⟨rfl, hp5⟩
  have HP5 := Lib.hid hp5
  rw [HCS.out]
  clear hp5 c5 hwB hg HF HBLK H5
  have c8 := HP5.out.cell (range_cell HB.out.seg s.c8) (by have := HG.out; omega)
  go_wp2_with fail
  refine (HP5.out.raw s.oa s.on s.oc s.p.op HON.out (HP5.out.rd HB.out.ok.opt.rd HAP.out.1) (by rw [hdS_len _ _ HH.out]; have := HLEN.out; omega)).mono ?_
  rintro e w6 ⟨rfl, hp6⟩
  have HP6 := Lib.hid hp6
  clear hp6 c8 HP5
  have c11 := HP6.out.cell (range_cell HB.out.seg s.c11) (by have := HG.out; omega)
  go_wp2_with fail
  refine (HP6.out.raw s.da s.dn s.dc s.p.dt HDN.out (HP6.out.rd HB.out.ok.dat.rd HAP.out.2.1) (by rw [List.length_append, hdS_len _ _ HH.out, HON.out]; have := HLEN.out; omega)).mono ?_
  rintro e w7 ⟨rfl, hp7⟩
  have HP7 : Hid (PS wB g w7 (sbS s.p 0)) := hp7
  have HXL : Hid ((sbS s.p 0).length ≤ 420) := by show _ ≤ _; rw [sbS_len _ _ HH.out, HON.out, HDN.out]; have := HLEN.out; omega
  clear hp7 c11 HP6
  have hS7 : World.rangeAt w7 b1 0 (kdV s.p.pro) ∧ w7.cell? ⟨w.heap.size, 0, none⟩ = some (.int .u8 s.p.pro) := ⟨HP7.out.range HB.out.knd (by have := HG.out; omega), HP7.out.cell (range_cell HB.out.seg s.c0) (by have := HG.out; omega)⟩
  go_wp2_with fail
  refine wp_region_held_drew (S := fun w' => World.rangeAt w' b1 0 (kdV s.p.pro) ∧ w'.cell? ⟨w.heap.size, 0, none⟩ = some (.int .u8 s.p.pro)) (by kernel_rfl) hS7 (fun hS => ?_)
  refine tk 0 42 (.agg (kdV s.p.pro).toArray) rfl rfl (by kernel_rfl) (by kernel_rfl) (by kernel_rfl) (fun _ _ _ h => h) (yieldsIf_load_mid (by rfl) _ _ rfl (b1) (0) rfl (kdV s.p.pro) _ (fun w' h' => h'.1) Try.underlying63 rfl (HIK.out)) hS ?_
  try simp only [Act.put, List.setIfInBounds_toArray, List.set_cons_zero, List.set_cons_succ]
  refine tk 1 43 (.pointer (some ⟨w.heap.size, 0, none⟩)) rfl rfl (by kernel_rfl) (by kernel_rfl) (by kernel_rfl) (fun _ _ _ h => h) (Or.inl ⟨by rfl, fun w' h' => ?_⟩) hS ?_
  · go_simp
  try simp only [Act.put, List.setIfInBounds_toArray, List.set_cons_zero, List.set_cons_succ]
  refine tk 2 44 (.int .u8 s.p.pro) rfl rfl (by kernel_rfl) (by kernel_rfl) (by kernel_rfl) (fun _ _ _ h => h) (Or.inl ⟨by rfl, fun w' h' => ?_⟩) hS ?_
  · have hc := h'.2
    go_simp
  try simp only [Act.put, List.setIfInBounds_toArray, List.set_cons_zero, List.set_cons_succ]
  refine tk 4 46 (.slice sa sn sc) rfl rfl (by kernel_rfl) (by kernel_rfl) (by kernel_rfl) (fun _ _ _ h => h) (Or.inl ⟨by rfl, fun w' h' => ?_⟩) hS ?_
  · go_simp
  try simp only [Act.put, List.setIfInBounds_toArray, List.set_cons_zero, List.set_cons_succ]
  refine tk 5 47 (.slice da dn dc) rfl rfl (by kernel_rfl) (by kernel_rfl) (by kernel_rfl) (fun _ _ _ h => h) (Or.inl ⟨by rfl, fun w' h' => ?_⟩) hS ?_
  · go_simp
  try simp only [Act.put, List.setIfInBounds_toArray, List.set_cons_zero, List.set_cons_succ]
  refine wpAnyH_ready (rs := [3]) (by kernel_rfl) (by simp) (AllReadyH.cons rfl (fun K hK => ?_) AllReadyH.nil)
  rw [if_pos (by rfl)]
  go_wp2_with fail
  refine (HP7.out.drew.bytes (by have := HXL.out; omega)).mono ?_
  rintro e w8 ⟨a8, n8, c8, rfl, hown, hb8⟩
  have hS8 : World.rangeAt w8 b1 0 (kdV s.p.pro) ∧ w8.cell? ⟨w.heap.size, 0, none⟩ = some (.int .u8 s.p.pro) := ⟨range_kept (undrew hb8) hS7.1, cell_kept (undrew hb8) hS7.2⟩
  have HP8 := Lib.hid (HP7.out.below (undrew hb8))
  have HR8 : Hid (Row.ok w8 ⟨a8, n8, c8, sbS s.p 0⟩) := ⟨hown.len, hown.le.1, hown.le.2, hown.rd, sbS_byt s.p 0 HFIT.out.op HFIT.out.dt⟩
  have HN8 : Hid (n8 ≤ 420) := by show _ ≤ _; rw [← hown.len]; exact HXL.out
  clear hown hb8 HP7
  clear hS
  refine hK.out _ _ (hS8) (fun hS => ?_)
  clear hK K
  try simp only [Act.put, List.setIfInBounds_toArray, List.set_cons_zero, List.set_cons_succ]
  refine wpAnyH_ready (rs := [6]) (by kernel_rfl) (by simp) (AllReadyH.cons rfl (fun K hK => ?_) AllReadyH.nil)
  rw [if_pos (by rfl)]
  go_wp2_with fail
  refine (tCovered_any s.p.pro a8 sa da n8 c8 sn sc dn dc (sbS s.p 0) src dst _ w8 (Below.refl _ _) HH.out HR8.out (HP8.out.row HB.out.r1 HAP.out.2.2.1) (HP8.out.row HB.out.r2 HAP.out.2.2.2) HAD.out (by have := HN8.out; omega)).mono ?_
  rintro e w9 ⟨⟨g2, l, rfl, hrr, hl2, hcat, hrn⟩, hb9⟩
  have hS9 : World.rangeAt w9 b1 0 (kdV s.p.pro) ∧ w9.cell? ⟨w.heap.size, 0, none⟩ = some (.int .u8 s.p.pro) := ⟨range_kept hb9 hS8.1, cell_kept hb9 hS8.2⟩
  have HP9 := Lib.hid (HP8.out.below hb9)
  have HL := Lib.hid (And.intro hrr (And.intro hl2 (And.intro hcat hrn)))
  clear hrr hl2 hcat hrn hb9 HP8
  clear hS
  refine hK.out _ _ (hS9) (fun hS => ?_)
  clear hK K
  try simp only [Act.put, List.setIfInBounds_toArray, List.set_cons_zero, List.set_cons_succ]
  refine wpAnyH_ready (rs := [7]) (by kernel_rfl) (by simp) (AllReadyH.cons rfl (fun K hK => ?_) AllReadyH.nil)
  rw [if_pos (by rfl)]
  go_wp2_with fail
  refine (of_any (some ⟨g2, 0, none⟩) l.length l.length l _ rfl HL.out.1 (by have := HL.out.2.1; omega) (fun r hr => by have h1 := HL.out.2.2.2 r hr; have h2 := HXL.out; omega)).mono ?_
  rintro e wX ⟨rfl, hbX⟩
  have hSX : World.rangeAt wX b1 0 (kdV s.p.pro) ∧ wX.cell? ⟨w.heap.size, 0, none⟩ = some (.int .u8 s.p.pro) := ⟨range_kept hbX hS9.1, cell_kept hbX hS9.2⟩
  have HPX := Lib.hid (HP9.out.below hbX)
  rw [HL.out.2.2.1]
  obtain ⟨v, hv⟩ : ∃ v, 65535 - fld (ws 0 (cov s.p.pro (sbS s.p 0) src dst)) = v := ⟨_, rfl⟩
  rw [hv]
  have hvr : 0 ≤ v ∧ v ≤ 65535 := by
    have := @fld_range (ws 0 (cov s.p.pro (sbS s.p 0) src dst)) (ws_range _ 0 (cov_byt _ (sbS_byt s.p 0 HFIT.out.op HFIT.out.dt) HBS.out.1 HBS.out.2)).1
    omega
  have HCK : Hid (ckS s.p src dst = if v = 0 ∧ s.p.pro = 17 then 65535 else v) := by show _ = _; unfold ckS; rw [hv]
  have HVR := Lib.hid hvr
  clear hbX hv hvr HP9 HL
  clear hS
  refine hK.out _ _ (hSX) (fun hS => ?_)
  clear hK K
  try simp only [Act.put, List.setIfInBounds_toArray, List.set_cons_zero, List.set_cons_succ]
  refine tk 8 11 (.int .u16 v) rfl rfl (by kernel_rfl) (by kernel_rfl) (by kernel_rfl) (fun _ _ _ h => h) (Or.inl ⟨by rfl, fun w' h' => ?_⟩) hS ?_
  · go_simp
  refine wpAnyH_done (by kernel_rfl) ?_ _
  have hcb := range_cell hSX.1 (kd_blank s.p.pro HH.out)
  have hcs1 := range_cell hSX.1 (kd_sum s.p.pro HH.out)
  have hpl := HG.out
  clear hS7 hS8 hS9 hSX hS
  by_cases hv0 : v = 0
  · by_cases h17 : s.p.pro = 17
    · rw [decide_eq_true h17] at hcb
      have hvb : (v == 0) = true := by simpa using hv0
      have HC : Hid (ckS s.p src dst = 65535) := by show _ = _; rw [HCK.out, if_pos ⟨hv0, h17⟩]
      clear hv0 h17 HCK
      have hvw : IntKind.u64.wrap v = v := u64_wrap v HVR.out.1 (by have := HVR.out; omega)
      go_wp2_with fail
      refine (HPX.out.set (smAt s.p.pro) 65535 (by have := HXL.out; omega) (smAt_len s.p HH.out) (by have := HVR.out; omega) (by have := HVR.out; omega)).mono ?_
      rintro e wY ⟨rfl, hpY⟩
      rw [sbS_splice] at hpY
      have HPY := Lib.hid hpY
      clear hpY HPX
      go_wp2_with fail
      refine (HPY.out.bytes (by have h1 := HXL.out; rw [sbS_len _ _ HH.out] at h1 ⊢; omega)).mono ?_
      rintro e wZ ⟨aZ, nZ, cZ, rfl, hown, hbZ⟩
      have HBY := Lib.hid (HPY.out.belowNew w HB.out.below (Nat.le_of_lt HG.out.1))
      have HO := Lib.hid (hown.mono HBY.out.size)
      have HBZ := Lib.hid (HBY.out.trans (hbZ.mono HBY.out.size))
      clear hown hbZ HPY
      go_wp2_with fail
      go_ret2
      exact ⟨aZ, nZ, cZ, by rw [HE.out]; rfl, by rw [HV.out, HC.out]; exact HO.out, HBZ.out⟩
    · rw [decide_eq_false h17] at hcb
      have hvb : (v == 0) = true := by simpa using hv0
      have HC : Hid (ckS s.p src dst = v) := by show _ = _; rw [HCK.out, if_neg (fun h => h17 h.2)]
      clear hv0 h17 HCK
      have hvw : IntKind.u64.wrap v = v := u64_wrap v HVR.out.1 (by have := HVR.out; omega)
      go_wp2_with fail
      refine (HPX.out.set (smAt s.p.pro) v (by have := HXL.out; omega) (smAt_len s.p HH.out) (by have := HVR.out; omega) (by have := HVR.out; omega)).mono ?_
      rintro e wY ⟨rfl, hpY⟩
      rw [sbS_splice] at hpY
      have HPY := Lib.hid hpY
      clear hpY HPX
      go_wp2_with fail
      refine (HPY.out.bytes (by have h1 := HXL.out; rw [sbS_len _ _ HH.out] at h1 ⊢; omega)).mono ?_
      rintro e wZ ⟨aZ, nZ, cZ, rfl, hown, hbZ⟩
      have HBY := Lib.hid (HPY.out.belowNew w HB.out.below (Nat.le_of_lt HG.out.1))
      have HO := Lib.hid (hown.mono HBY.out.size)
      have HBZ := Lib.hid (HBY.out.trans (hbZ.mono HBY.out.size))
      clear hown hbZ HPY
      go_wp2_with fail
      go_ret2
      exact ⟨aZ, nZ, cZ, by rw [HE.out]; rfl, by rw [HV.out, HC.out]; exact HO.out, HBZ.out⟩
  · have hvb : (v == 0) = false := by simpa using hv0
    have HC : Hid (ckS s.p src dst = v) := by show _ = _; rw [HCK.out, if_neg (fun h => hv0 h.1)]
    clear hv0 HCK hcb
    have hvw : IntKind.u64.wrap v = v := u64_wrap v HVR.out.1 (by have := HVR.out; omega)
    go_wp2_with fail
    refine (HPX.out.set (smAt s.p.pro) v (by have := HXL.out; omega) (smAt_len s.p HH.out) (by have := HVR.out; omega) (by have := HVR.out; omega)).mono ?_
    rintro e wY ⟨rfl, hpY⟩
    rw [sbS_splice] at hpY
    have HPY := Lib.hid hpY
    clear hpY HPX
    go_wp2_with fail
    refine (HPY.out.bytes (by have h1 := HXL.out; rw [sbS_len _ _ HH.out] at h1 ⊢; omega)).mono ?_
    rintro e wZ ⟨aZ, nZ, cZ, rfl, hown, hbZ⟩
    have HBY := Lib.hid (HPY.out.belowNew w HB.out.below (Nat.le_of_lt HG.out.1))
    have HO := Lib.hid (hown.mono HBY.out.size)
    have HBZ := Lib.hid (HBY.out.trans (hbZ.mono HBY.out.size))
    clear hown hbZ HPY
    go_wp2_with fail
    go_ret2
    exact ⟨aZ, nZ, cZ, by rw [HE.out]; rfl, by rw [HV.out, HC.out]; exact HO.out, HBZ.out⟩

theorem callT (args : Array Value) (w : World) : (callFunc 56 args).run Try.prog w = .ok (.enter 56 args) w := rfl
theorem callU (args : Array Value) (w : World) : (callFunc 60 args).run Try.prog w = .ok (.enter 60 args) w := rfl
theorem callI (args : Array Value) (w : World) : (callFunc 52 args).run Try.prog w = .ok (.enter 52 args) w := rfl
theorem put_no (s : Sg) (sa da : Option Addr) (sn sc dn dc : Nat) (src dst : List Int) (w : World) (hh : hdN s.p.pro = 0) (hls : src.length = sn) (hld : dst.length = dn) : Calls Try.prog 11 #[.agg s.cs.toArray, .slice sa sn sc, .slice da dn dc] w (Made2 w (ptB s.p src dst) (ptE s.p sn dn)) := by
  obtain ⟨wA, hwA⟩ : ∃ x, w.alloc (.cells s.cs.toArray 26) = x := ⟨_, rfl⟩
  have hbA : Below w.heap.size w wA := by rw [← hwA]; exact (Below.refl _ _).alloc (Nat.le_refl _) _
  have hrA : wA.rangeAt w.heap.size 0 s.cs := by rw [← hwA]; exact range_new _ _ _
  have c0 := range_cell hrA s.c0
  have HA := Lib.hid hbA
  have HE : Hid (ptE s.p sn dn = 70) := by show _ = _; unfold ptE; rw [if_pos hh]
  have HV : Hid (ptB s.p src dst = []) := by show _ = _; unfold ptB; rw [hls, hld, HE.out, if_neg (by decide)]
  have HKO : Hid (∀ w, Calls Try.prog 30 #[.int .u8 s.p.pro] w (Gives w (.tuple #[.agg kZ.toArray, .bool false]))) := fun w => by
    have h1 := tKindOf_any s.p.pro w
    have h2 : kdV s.p.pro = kZ := by
      unfold hdN at hh; unfold kdV
      split at hh
      · cases hh
      split at hh
      · cases hh
      split at hh
      · cases hh
      split at hh
      · cases hh
      · rw [if_neg (by assumption), if_neg (by assumption), if_neg (by assumption), if_neg (by assumption)]
    rw [decide_eq_false (by rw [hh]; decide), h2] at h1
    exact h1
  have HZ : Hid (∀ w1 : World, (w1.alloc (.cells kZ.toArray 63)).there w1.heap.size 0 kZ.length) := fun w1 => there_new _ _ _ _ rfl _ rfl
  have HZB : Hid (∀ w1 : World, Below w.heap.size w w1 → Below w.heap.size w ((w1.alloc (.cells kZ.toArray 63)).setCells w1.heap.size 0 kZ)) := fun w1 h => h.trans ((put_new w1 kZ kZ 63 rfl).1.mono h.size)
  have HK1 : Hid (∀ v ∈ kZ, v.oneCell' = true) := by intro v hv; simp only [kZ, List.mem_cons, List.not_mem_nil, or_false] at hv; rcases hv with rfl | rfl | rfl | rfl | rfl | rfl | rfl | rfl <;> rfl
  obtain ⟨cs, hcs⟩ : ∃ cs, s.cs.toArray = cs := ⟨_, rfl⟩
  rw [hcs] at hwA ⊢
  clear hh hls hld hbA hrA hcs
  go_enter Try.func11, Try.ntmps11
  go_wp2_with fail
  refine (HKO.out _).mono ?_
  rintro e w1 ⟨rfl, hb1⟩
  have HP1 := Lib.hid (HZB.out w1 (HA.out.trans (hb1.mono HA.out.size)))
  clear hb1
  go_wp2_with (refine stN (fun w' => Hid (Below w.heap.size w w')) 63 (.tmp 8) (.tmp 16) rfl rfl w1.heap.size 0 kZ rfl rfl (HZ.out w1) infK HK1.out HP1 ?_; intro w2 H2)
  go_ret2
  refine ⟨none, 0, 0, by rw [HE.out]; rfl, ?_, H2.out⟩
  rw [HV.out]; exact Own.nil _ _
theorem tPut_any (s : Sg) (sa da : Option Addr) (sn sc dn dc : Nat) (src dst : List Int) (w : World) (k : s.ok w) (hs : Row.ok w ⟨sa, sn, sc, src⟩) (hd : Row.ok w ⟨da, dn, dc, dst⟩) (ho : s.on ≤ 100) (hdd : s.dn ≤ 300 ∨ (65535 < s.dn ∧ s.dn ≤ 281474976710656)) :
    Calls Try.prog 11 #[.agg s.cs.toArray, .slice sa sn sc, .slice da dn dc] w (Made2 w (ptB s.p src dst) (ptE s.p sn dn)) := by
  by_cases hh : hdN s.p.pro = 0
  · exact put_no s sa da sn sc dn dc src dst w hh hs.len hd.len
  have hlen : rgP s.p = true → s.dn ≤ 65000 := fun hrg => by
    have h1 := ((rgP_iff s.p).1 hrg).2.2.2.2
    have h2 : s.p.dt.length = s.dn := k.dat.len
    omega
  have hopt : rgP s.p = true → s.on % 4 = 0 ∧ s.on ≤ 40 := fun hrg => by
    have h1 := (rgP_iff s.p).1 hrg
    have h2 : s.p.op.length = s.on := k.opt.len
    exact ⟨by rw [← h2]; exact h1.2.2.1, by rw [← h2]; exact h1.2.2.2.1⟩
  rcases hdN_pro' hh with e | e | e | e
  · exact put_by 56 s sa da sn sc dn dc src dst w callT hh (by rw [e]; rfl) (fun hrg g w1 k1 hb => tPutT_any s g w1 k1 hb e (hopt hrg).1 (hopt hrg).2) k hs hd ho hdd
  · exact put_by 60 s sa da sn sc dn dc src dst w callU hh (by rw [e]; rfl) (fun hrg g w1 k1 hb => tPutU_any s g w1 k1 hb e (hlen hrg)) k hs hd ho hdd
  · exact put_by 52 s sa da sn sc dn dc src dst w callI hh (by rw [e]; rfl) (fun _ g w1 k1 hb => tPutI_any s g w1 k1 hb (by omega) (by omega)) k hs hd ho hdd
  · exact put_by 52 s sa da sn sc dn dc src dst w callI hh (by rw [e]; rfl) (fun _ g w1 k1 hb => tPutI_any s g w1 k1 hb (by omega) (by omega)) k hs hd ho hdd
end Go.Proofs.Ytabdejoakecioaa

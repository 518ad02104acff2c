/-
  The document's SameItems, where the items are the same. Conditions: rows that lie in memory. (Made by gen_spsame.py.)
-/
import Derived.Test.YtpigpeehhadkjaaSpDoc5
import Derived.Test.YtpigpeehhadkjaaSpNew
import Derived.Deep.RegionWith
import Derived.Test.YtpigpeehhadkjaaSpDRel
import Derived.Test.YtpigpeehhadkjaaBase
namespace Go.Proofs.Ytpigpeehhadkjaa
open Go.RowKit Bkt
set_option maxRecDepth 100000
set_option maxHeartbeats 4000000

theorem dSameItems_any (B : Nat) (v : Option Addr) (n cap : Nat) (qs : List Pi) (a : Option Addr) (c : Nat) (w : World) (hq : OwnG w B 40 3 v n cap (qs.flatMap Pi.cs)) (hat : ∀ y ∈ qs, y.at_ w) (hr : Rt w a n (qs.map Pi.it)) (hn : n ≤ 65536) :
    Calls Try.prog 31 #[.slice v n cap, .slice a n c] w (Yes w) := by
  have HQ := Lib.hid hq
  have HAT := Lib.hid hat
  have HR := Lib.hid hr
  have HLEN : Hid (qs.length = n) := hq.flat Pi.len (by decide)
  have HN := Lib.hid hn
  clear hq hat hr hn
  go_enter Try.func31, Try.ntmps31
  go_wp2_with fail
  go_loopw [5] (fun i wr => Hid (Below w.heap.size w wr) ∧ ∃ k : Nat, k ≤ n ∧ i = .int .i64 k) (fun i _ => n - (intOf i).toNat)
  case atStart => exact ⟨Below.refl _ _, 0, Nat.zero_le _, rfl⟩
  case round =>
    obtain ⟨hb, k, hk, rfl⟩ := hrel
    by_cases hlt : k < n
    · obtain ⟨x, hx⟩ : ∃ x, qs[k]? = some x := ⟨_, List.getElem?_eq_getElem (by rw [HLEN.out]; exact hlt)⟩
      obtain ⟨rq, hvq, hrq, hth⟩ := (HQ.out.below hb.out).nth Pi.len (by decide) hx
      obtain ⟨y, yb, yo, hy, hya, hyr⟩ := (HR.out.below hb.out).nth hlt
      have hyx : y = x.it := by
        rw [List.getElem?_map, hx] at hy
        simpa using hy.symm
      subst hyx
      have HX : Hid (x.at_ wr) := (HAT.out x (List.mem_of_getElem? hx)).below hb.out
      have HRG : Hid (wr.rangeAt rq (k * 3) x.cs ∧ wr.rangeAt yb (yo + k * 3) x.it.cs) := ⟨hrq, hyr⟩
      have hlt2 : (k : Int) < (n : Int) := by omega
      have hk0 : (0 : Int) ≤ (k : Int) := by omega
      have hck : (k : Int) < 1000000 := by have := HN.out; omega
      subst hvq hya
      clear hx hrq hy hyr hth
      obtain ⟨no, sz, xa, xn, xc, xd⟩ := x
      obtain ⟨T, hT⟩ : ∃ z, str xd = z := ⟨_, rfl⟩
      have HV : Hid (Pi.v ⟨no, sz, xa, xn, xc, xd⟩ = .agg #[.int .u64 no, .int .i64 sz, .slice xa xn xc] ∧ (Pi.it ⟨no, sz, xa, xn, xc, xd⟩).v = .agg #[.int .u64 no, .int .i64 sz, .string T]) := ⟨rfl, by rw [← hT]; rfl⟩
      have HRG2 : Hid (wr.cell? ⟨rq, k * 3, none⟩ = some (.int .u64 no) ∧ wr.cell? ⟨rq, k * 3 + 1, none⟩ = some (.int .i64 sz) ∧ wr.cell? ⟨rq, k * 3 + 2, none⟩ = some (.slice xa xn xc) ∧ wr.cell? ⟨yb, yo + k * 3, none⟩ = some (.int .u64 no) ∧ wr.cell? ⟨yb, yo + k * 3 + 1, none⟩ = some (.int .i64 sz) ∧ wr.cell? ⟨yb, yo + k * 3 + 2, none⟩ = some (.string T)) :=
        ⟨HRG.out.1 0 _ rfl, HRG.out.1 1 _ rfl, HRG.out.1 2 _ rfl, HRG.out.2 0 _ rfl, HRG.out.2 1 _ rfl, by rw [← hT]; exact HRG.out.2 2 _ rfl⟩
      clear HRG hT
      go_wp2_with fail
      have HS : Hid (wr.drew.cell? ⟨rq, k * 3, none⟩ = some (.int .u64 no) ∧ wr.drew.cell? ⟨rq, k * 3 + 1, none⟩ = some (.int .i64 sz) ∧ wr.drew.cell? ⟨rq, k * 3 + 2, none⟩ = some (.slice xa xn xc) ∧ wr.drew.cell? ⟨yb, yo + k * 3, none⟩ = some (.int .u64 no) ∧ wr.drew.cell? ⟨yb, yo + k * 3 + 1, none⟩ = some (.int .i64 sz) ∧ wr.drew.cell? ⟨yb, yo + k * 3 + 2, none⟩ = some (.string T)) := HRG2.out
      refine wp_region_held_drew (S := fun w' => w'.cell? ⟨rq, k * 3, none⟩ = some (.int .u64 no) ∧ w'.cell? ⟨rq, k * 3 + 1, none⟩ = some (.int .i64 sz) ∧ w'.cell? ⟨rq, k * 3 + 2, none⟩ = some (.slice xa xn xc) ∧ w'.cell? ⟨yb, yo + k * 3, none⟩ = some (.int .u64 no) ∧ w'.cell? ⟨yb, yo + k * 3 + 1, none⟩ = some (.int .i64 sz) ∧ w'.cell? ⟨yb, yo + k * 3 + 2, none⟩ = some (.string T)) (by kernel_rfl) HS.out (fun hS => ?_)
      refine tkD 0 17 (.slice (some ⟨rq, 0, none⟩) n cap) (fun w' h' => ?_) hS ?_
      · go_simp
      refine tkD 1 18 (.int .i64 (k : Int)) (fun w' h' => ?_) hS ?_
      · go_simp
      try simp only [Act.put, List.setIfInBounds_toArray, List.set_cons_zero, List.set_cons_succ]
      refine tkD 2 19 (.pointer (some ⟨rq, k * 3, none⟩)) (fun w' h' => ?_) hS ?_
      · go_simp
      refine tkD 3 20 (.agg #[.int .u64 no, .int .i64 sz, .slice xa xn xc]) (fun w' h' => ?_) hS ?_
      · have c0 := h'.1
        have c1 := h'.2.1
        have c2 := h'.2.2.1
        go_simp
      try simp only [Act.put, List.setIfInBounds_toArray, List.set_cons_zero, List.set_cons_succ]
      refine tkD 5 22 (.slice (some ⟨yb, yo, none⟩) n c) (fun w' h' => ?_) hS ?_
      · go_simp
      refine tkD 6 23 (.int .i64 (k : Int)) (fun w' h' => ?_) hS ?_
      · go_simp
      try simp only [Act.put, List.setIfInBounds_toArray, List.set_cons_zero, List.set_cons_succ]
      refine tkD 7 24 (.pointer (some ⟨yb, yo + k * 3, none⟩)) (fun w' h' => ?_) hS ?_
      · go_simp
      refine tkD 8 25 (.agg #[.int .u64 no, .int .i64 sz, .string T]) (fun w' h' => ?_) hS ?_
      · have c0 := h'.2.2.2.1
        have c1 := h'.2.2.2.2.1
        have c2 := h'.2.2.2.2.2
        go_simp
      try simp only [Act.put, List.setIfInBounds_toArray, List.set_cons_zero, List.set_cons_succ]
      refine wpAnyH_ready (rs := [4]) (by kernel_rfl) (by simp) (AllReadyH.cons rfl (fun K hK => ?_) AllReadyH.nil)
      rw [if_pos (by rfl)]
      go_wp2_with fail
      refine (item_any ⟨no, sz, xa, xn, xc, xd⟩ _ (HX.out.below ((Below.refl _ _).drew))).mono ?_
      rintro e w2 ⟨rfl, hb2⟩
      rw [HV.out.2]
      have H2 : Hid (Below wr.heap.size wr w2) := ((Below.refl _ _).drew).trans (hb2.mono (Nat.le_refl _))
      have HS2 : Hid (w2.cell? ⟨rq, k * 3, none⟩ = some (.int .u64 no) ∧ w2.cell? ⟨rq, k * 3 + 1, none⟩ = some (.int .i64 sz) ∧ w2.cell? ⟨rq, k * 3 + 2, none⟩ = some (.slice xa xn xc) ∧ w2.cell? ⟨yb, yo + k * 3, none⟩ = some (.int .u64 no) ∧ w2.cell? ⟨yb, yo + k * 3 + 1, none⟩ = some (.int .i64 sz) ∧ w2.cell? ⟨yb, yo + k * 3 + 2, none⟩ = some (.string T)) := ⟨cell_kept H2.out HRG2.out.1, cell_kept H2.out HRG2.out.2.1, cell_kept H2.out HRG2.out.2.2.1, cell_kept H2.out HRG2.out.2.2.2.1, cell_kept H2.out HRG2.out.2.2.2.2.1, cell_kept H2.out HRG2.out.2.2.2.2.2⟩
      clear hb2
      clear hS
      refine hK.out _ _ (HS2.out) (fun hS => ?_)
      clear hK K
      refine tkD 9 26 (.bool false) (fun w' h' => ?_) hS ?_
      · go_simp
      refine wpAnyH_done (by kernel_rfl) ?_ _
      have HB2 : Hid (Below w.heap.size w w2) := hb.out.trans (H2.out.mono hb.out.size)
      clear hb hS HS HS2 HRG2 HV HX H2
      rename_i hKz
      refine hKz _ _ ?_
      clear hKz
      refine wp_onF (i := 26) rfl rfl ?_
      refine wp_skipR rfl ?_
      rename_i hKy _
      refine hKy _ _ ?_
      go_wp2_with fail
      go_roundw
      case rel => exact ⟨HB2.out, k + 1, by omega, by go_num⟩
      case measure => simp [intOf]; omega
    · have hlt2 : ¬ (k : Int) < (n : Int) := by omega
      go_wp2_with fail
      go_ret
      exact ⟨rfl, hb.out⟩
end Go.Proofs.Ytpigpeehhadkjaa

namespace Go.Proofs.Ytpigpeehhadkjaa
open Go.RowKit Bkt
set_option maxRecDepth 100000
set_option maxHeartbeats 4000000

/-- Blocks that may be written over. -/
def Oblk (w : World) (B i : Nat) : Prop := B ≤ i ∧ ∃ cur t, w.heap[i]? = some (.cells cur t (0, 0)) ∧ (t = 61 ∨ t = 5)
/-- A row of what went out, of which the first k are written over. -/
structure Ov (W0 wr : World) (B : Nat) (v : Option Addr) (m c : Nat) (ys : List Po) (k : Nat) : Prop where
  kept : Kept (Oblk W0 B) W0 wr
  row : ∃ zs : List Po, zs.length = ys.length ∧ OwnG wr B 61 5 v m c (zs.flatMap Po.cs) ∧ ∀ j, k ≤ j → zs[j]? = ys[j]?
  data : ∀ j p, k ≤ j → ys[j]? = some p → Own wr B p.y.a p.y.n p.y.c p.y.d ∧ Byt p.y.d ∧ p.y.n ≤ 1000000
theorem Ov.start {w : World} {B : Nat} {v : Option Addr} {m c : Nat} {ys : List Po} (h : Ops w B v m c ys) : Ov w w B v m c ys 0 :=
  ⟨Kept.refl _ _, ⟨ys, rfl, h.row, fun _ _ => rfl⟩, fun _ _ _ hj => h.data _ (List.mem_of_getElem? hj)⟩
theorem Ov.past {W0 wr w' : World} {B : Nat} {v : Option Addr} {m c : Nat} {ys : List Po} {k : Nat} (h : Ov W0 wr B v m c ys k) (hb : Below wr.heap.size wr w') : Ov W0 w' B v m c ys k := by
  obtain ⟨zs, hz, hr, he⟩ := h.row
  exact ⟨h.kept.trans (Kept.of_below (S := fun _ => False) hb (fun i hi hi' => by omega)) (fun _ _ e => e.elim), ⟨zs, hz, hr.below hb, he⟩, fun j p hj hp => ⟨(h.data j p hj hp).1.keep (S := fun _ => False) (Kept.of_below hb (fun i hi hi' => by omega)) (fun _ _ => id), (h.data j p hj hp).2⟩⟩
/-- The one at a place. -/
theorem Ov.at_ {W0 wr : World} {B : Nat} {v : Option Addr} {m c : Nat} {ys : List Po} {k : Nat} (h : Ov W0 wr B v m c ys k) {p : Po} (hp : ys[k]? = some p) : ∃ r, v = some ⟨r, 0, none⟩ ∧ wr.rangeAt r (k * 5) p.cs ∧ wr.there r (k * 5) 5 ∧ ∃ cur, wr.heap[r]? = some (.cells cur 61 (0, 0)) := by
  obtain ⟨zs, _, hr, he⟩ := h.row
  obtain ⟨r, e, h1, h2⟩ := hr.nth Po.len (by decide) ((he k (Nat.le_refl _)).trans hp)
  exact ⟨r, e, h1, h2, hr.blkr (by rw [e]; rfl)⟩
theorem infOut5 : (Try.prog.info? 61).map (·.size) = some 5 := by kernel_rfl
def pzo : Po := ⟨0, 0, ⟨0, 0, none, 0, 0, []⟩⟩
/-- Its data, and then itself, is written over. -/
theorem Ov.step {W0 wr w2 : World} {B r : Nat} {m c : Nat} {ys : List Po} {k : Nat} (h : Ov W0 wr B (some ⟨r, 0, none⟩) m c ys k) (hap : ys.Pairwise (fun o p => ∀ k, blk o.y.a = some k → blk p.y.a ≠ some k)) {p : Po} (hp : ys[k]? = some p) (hi : Inc wr B p.y.a p.y.n p.y.c w2) :
    Ov W0 (w2.setCells r (k * 5) pzo.cs) B (some ⟨r, 0, none⟩) m c ys (k + 1) ∧ w2.there r (k * 5) 5 := by
  obtain ⟨us, ho, hk⟩ := hi
  obtain ⟨zs, hz, hr, he⟩ := h.row
  have hkl := (List.getElem?_eq_some_iff.1 hp).1
  have hd := (h.data k p (Nat.le_refl _) hp).1
  have hne : ∀ b, blk p.y.a = some b → ¬ blk (some (⟨r, 0, none⟩ : Addr)) = some b := fun b hb e => by
    obtain ⟨c1, h1⟩ := hd.kind hb
    obtain ⟨c2, h2⟩ := hr.blkr e
    rw [h1] at h2
    simp at h2
  have hr2 : OwnG w2 B 61 5 (some ⟨r, 0, none⟩) m c (zs.flatMap Po.cs) := hr.keep hk (fun b hb e => hne b e hb)
  have hth : w2.there r (k * 5) 5 := by
    obtain ⟨r', e, _, h2⟩ := hr2.nth Po.len (by decide) ((he k (Nat.le_refl _)).trans hp)
    cases e
    exact h2
  have hk2 : Kept (fun i => i = r) w2 (w2.setCells r (k * 5) pzo.cs) := Kept.setCells (S := fun i => i = r) r rfl _ _ (Kept.refl _ _)
  have hS : ∀ i, i < W0.heap.size → (∃ cur t, wr.heap[i]? = some (.cells cur t (0, 0)) ∧ (t = 61 ∨ t = 5)) → B ≤ i → Oblk W0 B i := fun i hi ht hb => by
    by_cases hs : Oblk W0 B i
    · exact hs
    · rw [h.kept.block i hi hs] at ht
      exact ⟨hb, ht⟩
  refine ⟨⟨(h.kept.trans hk (fun i hi e => ?_)).trans hk2 (fun i hi e => ?_), ⟨zs.set k pzo, by rw [List.length_set]; exact hz, hr2.put Po.len (by omega) pzo, fun j hj => ?_⟩, fun j q hj hq => ?_⟩, hth⟩
  · obtain ⟨c1, h1⟩ := hd.kind e
    exact hS i hi ⟨_, _, h1, .inr rfl⟩ (hd.blk_ge i e).1
  · subst e
    obtain ⟨c2, h2⟩ := hr.blkr (k := i) rfl
    exact hS i hi ⟨_, _, h2, .inl rfl⟩ (hr.blk_ge i rfl).1
  · rw [List.getElem?_set_ne (by omega)]
    exact he j (by omega)
  · have hdq := h.data j q (by omega) hq
    refine ⟨(hdq.1.keep hk (fun b hb e => ?_)).keep hk2 (fun b hb e => ?_), hdq.2⟩
    · have hjl := (List.getElem?_eq_some_iff.1 hq).1
      have h1 := List.pairwise_iff_getElem.1 hap k j hkl hjl (by omega) b
      rw [(List.getElem?_eq_some_iff.1 hp).2, (List.getElem?_eq_some_iff.1 hq).2] at h1
      exact h1 e hb
    · subst e
      obtain ⟨c1, h1⟩ := hdq.1.kind hb
      obtain ⟨c2, h2⟩ := hr.blkr (k := b) rfl
      rw [h1] at h2
      simp at h2

noncomputable def KSO : Code := Try.f35.body.getD .skip
theorem frKSO {a : Act} (h : Fr 63 a) : ∃ f : Nat → Value, a = ⟨#[f 0, f 1, f 2, f 3, f 4, f 5, f 6, f 7, f 8, f 9, f 10, f 11, f 12, f 13, f 14, f 15, f 16, f 17, f 18, f 19, f 20, f 21, f 22, f 23, f 24, f 25, f 26, f 27, f 28, f 29, f 30, f 31, f 32, f 33, f 34, f 35, f 36, f 37, f 38, f 39, f 40, f 41, f 42, f 43, f 44, f 45, f 46, f 47, f 48, f 49, f 50, f 51, f 52, f 53, f 54, f 55, f 56, f 57, f 58, f 59, f 60, f 61, f 62], []⟩ ∧ ∀ i, f i = sl a i := fr_any h

theorem s0 (w : World) (v a2 : Option Addr) (n cap c2 : Nat) (a : Act) (hf : Fr 63 a) (h0 : sl a 0 = .slice v n cap) (h1 : sl a 1 = .slice a2 n c2) :
    Code.wp Try.prog (cAt [0] KSO) (Exit.then (fun a' w' => Fr 63 a' ∧ sl a' 0 = .slice v n cap ∧ sl a' 1 = .slice a2 n c2 ∧ w = w') Nope) a w := by
  obtain ⟨f, ha, hs⟩ := frKSO hf
  rw [(hs 0).trans h0, (hs 1).trans h1] at ha
  clear hs hf h0 h1
  subst ha
  refine piece2 fun J0 K0 hJ0 hK0 => ?_
  conv => arg 2; whnf
  go_wp2_with fail
  refine Met.intro (hJ0 _ _ ?_)
  exact ⟨⟨rfl, rfl⟩, rfl, rfl, rfl⟩

theorem s1 (w : World) (v a2 : Option Addr) (n cap c2 : Nat) (a : Act) (hf : Fr 63 a) (h0 : sl a 0 = .slice v n cap) (h1 : sl a 1 = .slice a2 n c2) :
    Code.wp Try.prog (cAt [1,0,0] KSO) (Exit.then (fun a' w' => Fr 63 a' ∧ sl a' 0 = .slice v n cap ∧ sl a' 1 = .slice a2 n c2 ∧ sl a' 11 = .bool false ∧ w = w') Nope) a w := by
  obtain ⟨f, ha, hs⟩ := frKSO hf
  rw [(hs 0).trans h0, (hs 1).trans h1] at ha
  clear hs hf h0 h1
  subst ha
  refine piece2 fun J0 K0 hJ0 hK0 => ?_
  conv => arg 2; whnf
  go_wp2_with fail
  refine Met.intro (hJ0 _ _ ?_)
  exact ⟨⟨rfl, rfl⟩, rfl, rfl, rfl, rfl⟩

theorem s3 (w : World) (v a2 : Option Addr) (n cap c2 : Nat) (a : Act) (hf : Fr 63 a) (h0 : sl a 0 = .slice v n cap) (h1 : sl a 1 = .slice a2 n c2) :
    Code.wp Try.prog (cAt [1,1,0,0] KSO) (Exit.then (fun a' w' => Fr 63 a' ∧ sl a' 0 = .slice v n cap ∧ sl a' 1 = .slice a2 n c2 ∧ sl a' 5 = .int .i64 0 ∧ w = w') Nope) a w := by
  obtain ⟨f, ha, hs⟩ := frKSO hf
  rw [(hs 0).trans h0, (hs 1).trans h1] at ha
  clear hs hf h0 h1
  subst ha
  refine piece2 fun J0 K0 hJ0 hK0 => ?_
  conv => arg 2; whnf
  go_wp2_with fail
  refine Met.intro (hJ0 _ _ ?_)
  exact ⟨⟨rfl, rfl⟩, rfl, rfl, rfl, rfl⟩

theorem s4 (wr : World) (v a2 : Option Addr) (n cap c2 i : Nat) (hi : i < n) (a : Act) (hf : Fr 63 a) (h0 : sl a 0 = .slice v n cap) (h1 : sl a 1 = .slice a2 n c2) (h5 : sl a 5 = .int .i64 (i : Int)) :
    Code.wp Try.prog (cAt [1,1,0,1,2,2,0] KSO) (Exit.then (fun a' w' => Fr 63 a' ∧ sl a' 0 = .slice v n cap ∧ sl a' 1 = .slice a2 n c2 ∧ sl a' 5 = .int .i64 (i : Int) ∧ wr = w') Nope) a wr := by
  obtain ⟨f, ha, hs⟩ := frKSO hf
  rw [(hs 0).trans h0, (hs 1).trans h1, (hs 5).trans h5] at ha
  clear hs hf h0 h1 h5
  subst ha
  refine piece2 fun J0 K0 hJ0 hK0 => ?_
  conv => arg 2; whnf
  have hi2 : (i : Int) < (n : Int) := by omega
  go_wp2_with fail
  refine Met.intro (hJ0 _ _ ?_)
  exact ⟨⟨rfl, rfl⟩, rfl, rfl, rfl, rfl⟩

theorem s4x (wr : World) (v a2 : Option Addr) (n cap c2 i : Nat) (hi : ¬ i < n) (a : Act) (hf : Fr 63 a) (h0 : sl a 0 = .slice v n cap) (h1 : sl a 1 = .slice a2 n c2) (h5 : sl a 5 = .int .i64 (i : Int)) :
    Code.wp Try.prog (cAt [1,1,0,1,2,2] KSO) (Outs 0 (fun a' w' => Fr 63 a' ∧ sl a' 0 = .slice v n cap ∧ sl a' 1 = .slice a2 n c2 ∧ wr = w')) a wr := by
  obtain ⟨f, ha, hs⟩ := frKSO hf
  rw [(hs 0).trans h0, (hs 1).trans h1, (hs 5).trans h5] at ha
  clear hs hf h0 h1 h5
  subst ha
  conv => arg 2; whnf
  have hi2 : ¬ (i : Int) < (n : Int) := by omega
  go_wp2_with fail
  exact ⟨rfl, ⟨rfl, rfl⟩, rfl, rfl, rfl⟩

theorem s5 (wr : World) (v a2 : Option Addr) (n cap c2 i : Nat) (hi : i < 1000000) (a : Act) (hf : Fr 63 a) (h0 : sl a 0 = .slice v n cap) (h1 : sl a 1 = .slice a2 n c2) (h5 : sl a 5 = .int .i64 (i : Int)) :
    Code.wp Try.prog (cAt [1,1,0,1,2,2,1,1] KSO) (Exit.then (fun a' w' => Fr 63 a' ∧ sl a' 0 = .slice v n cap ∧ sl a' 1 = .slice a2 n c2 ∧ sl a' 5 = .int .i64 ((i : Int) + 1) ∧ wr = w') Nope) a wr := by
  obtain ⟨f, ha, hs⟩ := frKSO hf
  rw [(hs 0).trans h0, (hs 1).trans h1, (hs 5).trans h5] at ha
  clear hs hf h0 h1 h5
  subst ha
  refine piece2 fun J0 K0 hJ0 hK0 => ?_
  conv => arg 2; whnf
  have hw : IntKind.i64.wrap ((i : Int) + 1) = (i : Int) + 1 := by rw [IntKind.wrap_i64]; omega
  go_wp2_with fail
  refine Met.intro (hJ0 _ _ ?_)
  exact ⟨⟨rfl, rfl⟩, rfl, rfl, rfl, rfl⟩

theorem s6 (wr : World) (r b2 n cap c2 i : Nat) (p : Po) (H1 : Hid (wr.rangeAt r (i * 5) p.cs)) (H2 : Hid (wr.rangeAt b2 (i * 5) p.ot.cs)) (HAT : Hid (p.y.at_ wr)) (hi : i < n) (hn : n ≤ 1000000) (a : Act) (hf : Fr 63 a) (h0 : sl a 0 = .slice (some ⟨r, 0, none⟩) n cap) (h1 : sl a 1 = .slice (some ⟨b2, 0, none⟩) n c2) (h5 : sl a 5 = .int .i64 (i : Int)) :
    Code.wp Try.prog (cAt [1,1,0,1,2,2,1,0,2,0,0] KSO) (Exit.then (fun a' w' => Fr 63 a' ∧ sl a' 0 = .slice (some ⟨r, 0, none⟩) n cap ∧ sl a' 1 = .slice (some ⟨b2, 0, none⟩) n c2 ∧ sl a' 5 = .int .i64 (i : Int) ∧ sl a' 39 = .bool false ∧ Below wr.heap.size wr w') Nope) a wr := by
  obtain ⟨f, ha, hs⟩ := frKSO hf
  rw [(hs 0).trans h0, (hs 1).trans h1, (hs 5).trans h5] at ha
  clear hs hf h0 h1 h5
  subst ha
  refine piece2 fun J0 K0 hJ0 hK0 => ?_
  conv => arg 2; whnf
  obtain ⟨t, cl, ⟨no, sz, xa, xn, xc, xd⟩⟩ := p
  obtain ⟨T, hT⟩ : ∃ z, str xd = z := ⟨_, rfl⟩
  have HV : Hid (Pi.v ⟨no, sz, xa, xn, xc, xd⟩ = .agg #[.int .u64 no, .int .i64 sz, .slice xa xn xc] ∧ (Pi.it ⟨no, sz, xa, xn, xc, xd⟩).v = .agg #[.int .u64 no, .int .i64 sz, .string T]) := ⟨rfl, by rw [← hT]; rfl⟩
  have HS0 : Hid (wr.cell? ⟨r, i * 5, none⟩ = some (.int .u64 t) ∧ wr.cell? ⟨r, i * 5 + 1, none⟩ = some (.int .i64 (cl : Int)) ∧ wr.cell? ⟨r, i * 5 + 2, none⟩ = some (.int .u64 no) ∧ wr.cell? ⟨r, i * 5 + 3, none⟩ = some (.int .i64 sz) ∧ wr.cell? ⟨r, i * 5 + 4, none⟩ = some (.slice xa xn xc) ∧ wr.cell? ⟨b2, i * 5, none⟩ = some (.int .u64 t) ∧ wr.cell? ⟨b2, i * 5 + 1, none⟩ = some (.int .i64 (cl : Int)) ∧ wr.cell? ⟨b2, i * 5 + 2, none⟩ = some (.int .u64 no) ∧ wr.cell? ⟨b2, i * 5 + 3, none⟩ = some (.int .i64 sz) ∧ wr.cell? ⟨b2, i * 5 + 4, none⟩ = some (.string T)) := ⟨H1.out 0 _ rfl, H1.out 1 _ rfl, H1.out 2 _ rfl, H1.out 3 _ rfl, H1.out 4 _ rfl, H2.out 0 _ rfl, H2.out 1 _ rfl, H2.out 2 _ rfl, H2.out 3 _ rfl, by rw [← hT]; exact H2.out 4 _ rfl⟩
  have hi2 : (i : Int) < (n : Int) := by omega
  have hi0 : (0 : Int) ≤ (i : Int) := by omega
  have hck : (i : Int) < 1000000 := by omega
  clear hT hi hn
  go_wp2_with fail
  have HS : Hid (wr.drew.cell? ⟨r, i * 5, none⟩ = some (.int .u64 t) ∧ wr.drew.cell? ⟨r, i * 5 + 1, none⟩ = some (.int .i64 (cl : Int)) ∧ wr.drew.cell? ⟨r, i * 5 + 2, none⟩ = some (.int .u64 no) ∧ wr.drew.cell? ⟨r, i * 5 + 3, none⟩ = some (.int .i64 sz) ∧ wr.drew.cell? ⟨r, i * 5 + 4, none⟩ = some (.slice xa xn xc) ∧ wr.drew.cell? ⟨b2, i * 5, none⟩ = some (.int .u64 t) ∧ wr.drew.cell? ⟨b2, i * 5 + 1, none⟩ = some (.int .i64 (cl : Int)) ∧ wr.drew.cell? ⟨b2, i * 5 + 2, none⟩ = some (.int .u64 no) ∧ wr.drew.cell? ⟨b2, i * 5 + 3, none⟩ = some (.int .i64 sz) ∧ wr.drew.cell? ⟨b2, i * 5 + 4, none⟩ = some (.string T)) := HS0.out
  refine wp_region_held_drew (S := fun w' => w'.cell? ⟨r, i * 5, none⟩ = some (.int .u64 t) ∧ w'.cell? ⟨r, i * 5 + 1, none⟩ = some (.int .i64 (cl : Int)) ∧ w'.cell? ⟨r, i * 5 + 2, none⟩ = some (.int .u64 no) ∧ w'.cell? ⟨r, i * 5 + 3, none⟩ = some (.int .i64 sz) ∧ w'.cell? ⟨r, i * 5 + 4, none⟩ = some (.slice xa xn xc) ∧ w'.cell? ⟨b2, i * 5, none⟩ = some (.int .u64 t) ∧ w'.cell? ⟨b2, i * 5 + 1, none⟩ = some (.int .i64 (cl : Int)) ∧ w'.cell? ⟨b2, i * 5 + 2, none⟩ = some (.int .u64 no) ∧ w'.cell? ⟨b2, i * 5 + 3, none⟩ = some (.int .i64 sz) ∧ w'.cell? ⟨b2, i * 5 + 4, none⟩ = some (.string T)) (by kernel_rfl) HS.out (fun hS => ?_)
  refine tkD 0 18 (.slice (some ⟨r, 0, none⟩) n cap) (fun w' h' => ?_) hS ?_
  · go_simp
  try simp only [Act.put, List.setIfInBounds_toArray, List.set_cons_zero, List.set_cons_succ]
  refine tkD 1 19 (.int .i64 (i : Int)) (fun w' h' => ?_) hS ?_
  · go_simp
  refine tkD 2 20 (.pointer (some ⟨r, i * 5, none⟩)) (fun w' h' => ?_) hS ?_
  · go_simp
  try simp only [Act.put, List.setIfInBounds_toArray, List.set_cons_zero, List.set_cons_succ]
  refine tkD 3 21 (.pointer (some ⟨r, i * 5, none⟩)) (fun w' h' => ?_) hS ?_
  · go_simp
  refine tkD 4 22 (.int .u64 t) (fun w' h' => ?_) hS ?_
  · have c0 := h'.1
    go_simp
  try simp only [Act.put, List.setIfInBounds_toArray, List.set_cons_zero, List.set_cons_succ]
  refine tkD 5 23 (.slice (some ⟨r, 0, none⟩) n cap) (fun w' h' => ?_) hS ?_
  · go_simp
  refine tkD 6 24 (.int .i64 (i : Int)) (fun w' h' => ?_) hS ?_
  · go_simp
  try simp only [Act.put, List.setIfInBounds_toArray, List.set_cons_zero, List.set_cons_succ]
  refine tkD 7 25 (.pointer (some ⟨r, i * 5, none⟩)) (fun w' h' => ?_) hS ?_
  · go_simp
  refine tkD 8 26 (.pointer (some ⟨r, i * 5 + 1, none⟩)) (fun w' h' => ?_) hS ?_
  · go_simp
  try simp only [Act.put, List.setIfInBounds_toArray, List.set_cons_zero, List.set_cons_succ]
  refine tkD 9 27 (.int .i64 (cl : Int)) (fun w' h' => ?_) hS ?_
  · have c0 := h'.2.1
    go_simp
  refine tkD 10 28 (.slice (some ⟨r, 0, none⟩) n cap) (fun w' h' => ?_) hS ?_
  · go_simp
  try simp only [Act.put, List.setIfInBounds_toArray, List.set_cons_zero, List.set_cons_succ]
  refine tkD 11 29 (.int .i64 (i : Int)) (fun w' h' => ?_) hS ?_
  · go_simp
  refine tkD 12 30 (.pointer (some ⟨r, i * 5, none⟩)) (fun w' h' => ?_) hS ?_
  · go_simp
  try simp only [Act.put, List.setIfInBounds_toArray, List.set_cons_zero, List.set_cons_succ]
  refine tkD 13 31 (.pointer (some ⟨r, i * 5 + 2, none⟩)) (fun w' h' => ?_) hS ?_
  · go_simp
  refine tkD 14 32 (.agg #[.int .u64 no, .int .i64 sz, .slice xa xn xc]) (fun w' h' => ?_) hS ?_
  · have c0 := h'.2.2.1
    have c1 := h'.2.2.2.1
    have c2 := h'.2.2.2.2.1
    go_simp
  try simp only [Act.put, List.setIfInBounds_toArray, List.set_cons_zero, List.set_cons_succ]
  refine tkD 17 35 (.slice (some ⟨b2, 0, none⟩) n c2) (fun w' h' => ?_) hS ?_
  · go_simp
  refine tkD 18 36 (.int .i64 (i : Int)) (fun w' h' => ?_) hS ?_
  · go_simp
  try simp only [Act.put, List.setIfInBounds_toArray, List.set_cons_zero, List.set_cons_succ]
  refine tkD 19 37 (.pointer (some ⟨b2, i * 5, none⟩)) (fun w' h' => ?_) hS ?_
  · go_simp
  refine tkD 20 38 (.agg #[.int .u64 t, .int .i64 (cl : Int), .int .u64 no, .int .i64 sz, .string T]) (fun w' h' => ?_) hS ?_
  · have c0 := h'.2.2.2.2.2.1
    have c1 := h'.2.2.2.2.2.2.1
    have c2 := h'.2.2.2.2.2.2.2.1
    have c3 := h'.2.2.2.2.2.2.2.2.1
    have c4 := h'.2.2.2.2.2.2.2.2.2
    go_simp
  try simp only [Act.put, List.setIfInBounds_toArray, List.set_cons_zero, List.set_cons_succ]
  refine wpAnyH_ready (rs := [15]) (by kernel_rfl) (by simp) (AllReadyH.cons rfl (fun K hK => ?_) AllReadyH.nil)
  rw [if_pos (by rfl)]
  go_wp2_with fail
  refine (item_any ⟨no, sz, xa, xn, xc, xd⟩ _ (HAT.out.below ((Below.refl _ _).drew))).mono ?_
  rintro e w2 ⟨rfl, hb2⟩
  rw [HV.out.2]
  have H3 : Hid (Below wr.heap.size wr w2) := ((Below.refl _ _).drew).trans (hb2.mono (Nat.le_refl _))
  clear hb2
  clear hS
  refine hK.out _ _ (⟨cell_kept H3.out HS0.out.1, cell_kept H3.out HS0.out.2.1, cell_kept H3.out HS0.out.2.2.1, cell_kept H3.out HS0.out.2.2.2.1, cell_kept H3.out HS0.out.2.2.2.2.1, cell_kept H3.out HS0.out.2.2.2.2.2.1, cell_kept H3.out HS0.out.2.2.2.2.2.2.1, cell_kept H3.out HS0.out.2.2.2.2.2.2.2.1, cell_kept H3.out HS0.out.2.2.2.2.2.2.2.2.1, cell_kept H3.out HS0.out.2.2.2.2.2.2.2.2.2⟩) (fun hS => ?_)
  clear hK K
  refine tkD 16 34 (.agg #[.int .u64 t, .int .i64 (cl : Int), .int .u64 no, .int .i64 sz, .string T]) (fun w' h' => ?_) hS ?_
  · go_simp
  try simp only [Act.put, List.setIfInBounds_toArray, List.set_cons_zero, List.set_cons_succ]
  refine tkD 21 39 (.bool false) (fun w' h' => ?_) hS ?_
  · go_simp
  refine wpAnyH_done (by kernel_rfl) ?_ _
  go_wp2_with fail
  refine Met.intro (hJ0 _ _ ?_)
  exact ⟨⟨rfl, rfl⟩, rfl, rfl, rfl, rfl, H3.out⟩

theorem s8 (wr : World) (r b2 n cap c2 i : Nat) (a : Act) (hf : Fr 63 a) (h0 : sl a 0 = .slice (some ⟨r, 0, none⟩) n cap) (h1 : sl a 1 = .slice (some ⟨b2, 0, none⟩) n c2) (h5 : sl a 5 = .int .i64 (i : Int)) :
    Code.wp Try.prog (cAt [1,1,0,1,2,2,1,0,2,1,0,0] KSO) (Exit.then (fun a' w' => Fr 63 a' ∧ sl a' 0 = .slice (some ⟨r, 0, none⟩) n cap ∧ sl a' 1 = .slice (some ⟨b2, 0, none⟩) n c2 ∧ sl a' 5 = .int .i64 (i : Int) ∧ sl a' 6 = .int .i64 0 ∧ wr = w') Nope) a wr := by
  obtain ⟨f, ha, hs⟩ := frKSO hf
  rw [(hs 0).trans h0, (hs 1).trans h1, (hs 5).trans h5] at ha
  clear hs hf h0 h1 h5
  subst ha
  refine piece2 fun J0 K0 hJ0 hK0 => ?_
  conv => arg 2; whnf
  go_wp2_with fail
  refine Met.intro (hJ0 _ _ ?_)
  exact ⟨⟨rfl, rfl⟩, rfl, rfl, rfl, rfl, rfl⟩

theorem s9 (wr : World) (r b2 n cap c2 i j : Nat) (xa : Option Addr) (xn xc : Nat) (HC : Hid (wr.cell? ⟨r, i * 5 + 4, none⟩ = some (.slice xa xn xc))) (hi : i < n) (hn : n ≤ 1000000) (hj : j < xn) (a : Act) (hf : Fr 63 a) (h0 : sl a 0 = .slice (some ⟨r, 0, none⟩) n cap) (h1 : sl a 1 = .slice (some ⟨b2, 0, none⟩) n c2) (h5 : sl a 5 = .int .i64 (i : Int)) (h6 : sl a 6 = .int .i64 (j : Int)) :
    Code.wp Try.prog (cAt [1,1,0,1,2,2,1,0,2,1,0,1,2,2,0] KSO) (Exit.then (fun a' w' => Fr 63 a' ∧ sl a' 0 = .slice (some ⟨r, 0, none⟩) n cap ∧ sl a' 1 = .slice (some ⟨b2, 0, none⟩) n c2 ∧ sl a' 5 = .int .i64 (i : Int) ∧ sl a' 6 = .int .i64 (j : Int) ∧ wr = w') Nope) a wr := by
  obtain ⟨f, ha, hs⟩ := frKSO hf
  rw [(hs 0).trans h0, (hs 1).trans h1, (hs 5).trans h5, (hs 6).trans h6] at ha
  clear hs hf h0 h1 h5 h6
  subst ha
  refine piece2 fun J0 K0 hJ0 hK0 => ?_
  conv => arg 2; whnf
  have hi2 : (i : Int) < (n : Int) := by omega
  have hi0 : (0 : Int) ≤ (i : Int) := by omega
  have hck : (i : Int) < 1000000 := by omega
  have hc := HC.out
  have hj2 : (j : Int) < (xn : Int) := by omega
  go_wp2_with fail
  refine Met.intro (hJ0 _ _ ?_)
  exact ⟨⟨rfl, rfl⟩, rfl, rfl, rfl, rfl, rfl⟩

theorem s9x (wr : World) (r b2 n cap c2 i j : Nat) (xa : Option Addr) (xn xc : Nat) (HC : Hid (wr.cell? ⟨r, i * 5 + 4, none⟩ = some (.slice xa xn xc))) (hi : i < n) (hn : n ≤ 1000000) (hj : ¬ j < xn) (a : Act) (hf : Fr 63 a) (h0 : sl a 0 = .slice (some ⟨r, 0, none⟩) n cap) (h1 : sl a 1 = .slice (some ⟨b2, 0, none⟩) n c2) (h5 : sl a 5 = .int .i64 (i : Int)) (h6 : sl a 6 = .int .i64 (j : Int)) :
    Code.wp Try.prog (cAt [1,1,0,1,2,2,1,0,2,1,0,1,2,2] KSO) (Outs 2 (fun a' w' => Fr 63 a' ∧ sl a' 0 = .slice (some ⟨r, 0, none⟩) n cap ∧ sl a' 1 = .slice (some ⟨b2, 0, none⟩) n c2 ∧ sl a' 5 = .int .i64 (i : Int) ∧ wr = w')) a wr := by
  obtain ⟨f, ha, hs⟩ := frKSO hf
  rw [(hs 0).trans h0, (hs 1).trans h1, (hs 5).trans h5, (hs 6).trans h6] at ha
  clear hs hf h0 h1 h5 h6
  subst ha
  conv => arg 2; whnf
  have hi2 : (i : Int) < (n : Int) := by omega
  have hi0 : (0 : Int) ≤ (i : Int) := by omega
  have hck : (i : Int) < 1000000 := by omega
  have hc := HC.out
  have hj2 : ¬ (j : Int) < (xn : Int) := by omega
  go_wp2_with fail
  exact ⟨rfl, ⟨rfl, rfl⟩, rfl, rfl, rfl, rfl⟩

theorem s11 (wr : World) (B : Nat) (w0 : World) (r b2 n cap c2 i j yg xn xc : Nat) (z : Int) (HC : Hid (wr.cell? ⟨r, i * 5 + 4, none⟩ = some (.slice (some ⟨yg, 0, none⟩) xn xc))) (hi : i < n) (hn : n ≤ 1000000) (hj : j < xn) (HZ : Hid (wr.cell? ⟨yg, j, none⟩ = some (.int .u8 z))) (HF : Hid (wr.frozen? ⟨yg, j, none⟩ = false)) (HX : Hid (∀ y, Inc w0 B (some ⟨yg, 0, none⟩) xn xc (wr.setCell ⟨yg, j, none⟩ (.int .u8 y)))) (a : Act) (hf : Fr 63 a) (h0 : sl a 0 = .slice (some ⟨r, 0, none⟩) n cap) (h1 : sl a 1 = .slice (some ⟨b2, 0, none⟩) n c2) (h5 : sl a 5 = .int .i64 (i : Int)) (h6 : sl a 6 = .int .i64 (j : Int)) :
    Code.wp Try.prog (cAt [1,1,0,1,2,2,1,0,2,1,0,1,2,2,1,0,2] KSO) (Exit.then (fun a' w' => Fr 63 a' ∧ sl a' 0 = .slice (some ⟨r, 0, none⟩) n cap ∧ sl a' 1 = .slice (some ⟨b2, 0, none⟩) n c2 ∧ sl a' 5 = .int .i64 (i : Int) ∧ sl a' 6 = .int .i64 (j : Int) ∧ Inc w0 B (some ⟨yg, 0, none⟩) xn xc w') Nope) a wr := by
  obtain ⟨f, ha, hs⟩ := frKSO hf
  rw [(hs 0).trans h0, (hs 1).trans h1, (hs 5).trans h5, (hs 6).trans h6] at ha
  clear hs hf h0 h1 h5 h6
  subst ha
  refine piece2 fun J0 K0 hJ0 hK0 => ?_
  conv => arg 2; whnf
  have hi2 : (i : Int) < (n : Int) := by omega
  have hi0 : (0 : Int) ≤ (i : Int) := by omega
  have hck : (i : Int) < 1000000 := by omega
  have hc := HC.out
  have hz := HZ.out
  have hfz := HF.out
  have hj2 : (j : Int) < (xn : Int) := by omega
  have hj0 : (0 : Int) ≤ (j : Int) := by omega
  go_wp2_with fail
  refine Met.intro (hJ0 _ _ ?_)
  exact ⟨⟨rfl, rfl⟩, rfl, rfl, rfl, rfl, HX.out _⟩

theorem s10 (wr : World) (r b2 n cap c2 i j : Nat) (hj : j < 1000000) (a : Act) (hf : Fr 63 a) (h0 : sl a 0 = .slice (some ⟨r, 0, none⟩) n cap) (h1 : sl a 1 = .slice (some ⟨b2, 0, none⟩) n c2) (h5 : sl a 5 = .int .i64 (i : Int)) (h6 : sl a 6 = .int .i64 (j : Int)) :
    Code.wp Try.prog (cAt [1,1,0,1,2,2,1,0,2,1,0,1,2,2,1,1] KSO) (Exit.then (fun a' w' => Fr 63 a' ∧ sl a' 0 = .slice (some ⟨r, 0, none⟩) n cap ∧ sl a' 1 = .slice (some ⟨b2, 0, none⟩) n c2 ∧ sl a' 5 = .int .i64 (i : Int) ∧ sl a' 6 = .int .i64 ((j : Int) + 1) ∧ wr = w') Nope) a wr := by
  obtain ⟨f, ha, hs⟩ := frKSO hf
  rw [(hs 0).trans h0, (hs 1).trans h1, (hs 5).trans h5, (hs 6).trans h6] at ha
  clear hs hf h0 h1 h5 h6
  subst ha
  refine piece2 fun J0 K0 hJ0 hK0 => ?_
  conv => arg 2; whnf
  have hw : IntKind.i64.wrap ((j : Int) + 1) = (j : Int) + 1 := by rw [IntKind.wrap_i64]; omega
  go_wp2_with fail
  refine Met.intro (hJ0 _ _ ?_)
  exact ⟨⟨rfl, rfl⟩, rfl, rfl, rfl, rfl, rfl⟩

theorem s12 (wr : World) (r b2 n cap c2 i : Nat) (hi : i < n) (hn : n ≤ 1000000) (HT : Hid (wr.there r (i * 5) 5)) (a : Act) (hf : Fr 63 a) (h0 : sl a 0 = .slice (some ⟨r, 0, none⟩) n cap) (h1 : sl a 1 = .slice (some ⟨b2, 0, none⟩) n c2) (h5 : sl a 5 = .int .i64 (i : Int)) :
    Code.wp Try.prog (cAt [1,1,0,1,2,2,1,0,2,1,1] KSO) (Exit.then (fun a' w' => Fr 63 a' ∧ sl a' 0 = .slice (some ⟨r, 0, none⟩) n cap ∧ sl a' 1 = .slice (some ⟨b2, 0, none⟩) n c2 ∧ sl a' 5 = .int .i64 (i : Int) ∧ wr.setCells r (i * 5) pzo.cs = w') Nope) a wr := by
  obtain ⟨f, ha, hs⟩ := frKSO hf
  rw [(hs 0).trans h0, (hs 1).trans h1, (hs 5).trans h5] at ha
  clear hs hf h0 h1 h5
  subst ha
  refine piece2 fun J0 K0 hJ0 hK0 => ?_
  conv => arg 2; whnf
  have hi2 : (i : Int) < (n : Int) := by omega
  have hi0 : (0 : Int) ≤ (i : Int) := by omega
  have hck : (i : Int) < 1000000 := by omega
  go_wp2_with (first | (refine wpList_store_mid rfl 61 (.tmp 62) (.tmp 61) rfl r (i * 5) #[.int .u64 0, .int .i64 0, .int .u64 0, .int .i64 0, .slice none 0 0] rfl rfl HT.out infOut5 (by simp [Value.oneCell']) ?_) | fail)
  refine Met.intro (hJ0 _ _ ?_)
  exact ⟨⟨rfl, rfl⟩, rfl, rfl, rfl, rfl⟩

theorem outs_round (W0 wr : World) (B r b2 n cap c2 i : Nat) (ys : List Po) (p : Po) (hp : ys[i]? = some p) (HV : Ov W0 wr B (some ⟨r, 0, none⟩) n cap ys i) (hap : ys.Pairwise (fun o p => ∀ k, blk o.y.a = some k → blk p.y.a ≠ some k)) (h2 : wr.rangeAt b2 (i * 5) p.ot.cs) (hi : i < n) (hn : n ≤ 1000000) (a : Act) (hf : Fr 63 a) (h0 : sl a 0 = .slice (some ⟨r, 0, none⟩) n cap) (h1 : sl a 1 = .slice (some ⟨b2, 0, none⟩) n c2) (h5 : sl a 5 = .int .i64 (i : Int)) :
    Code.wp Try.prog (cAt [1,1,0,1,2,2,1] KSO) (Exit.then (fun a' w' => Fr 63 a' ∧ sl a' 0 = .slice (some ⟨r, 0, none⟩) n cap ∧ sl a' 1 = .slice (some ⟨b2, 0, none⟩) n c2 ∧ sl a' 5 = .int .i64 ((i : Int) + 1) ∧ Ov W0 w' B (some ⟨r, 0, none⟩) n cap ys (i + 1)) Nope) a wr := by
  obtain ⟨r', e, hrg, _, cur, hcur⟩ := HV.at_ hp
  cases e
  have hd := HV.data i p (Nat.le_refl _) hp
  have hat : p.y.at_ wr := ⟨hd.1.len, hd.1.rd, hd.2.1, hd.2.2⟩
  refine wp_sqR (x := (cAt [1,1,0,1,2,2,1,0] KSO)) (y := (cAt [1,1,0,1,2,2,1,1] KSO)) (R := fun a' w' => Fr 63 a' ∧ sl a' 0 = .slice (some ⟨r, 0, none⟩) n cap ∧ sl a' 1 = .slice (some ⟨b2, 0, none⟩) n c2 ∧ sl a' 5 = .int .i64 (i : Int) ∧ Ov W0 w' B (some ⟨r, 0, none⟩) n cap ys (i + 1)) (by kernel_rfl) ?_ ?_
  · refine wp_blockR (x := (cAt [1,1,0,1,2,2,1,0,2] KSO)) (id := 1) (by kernel_rfl) ?_
    refine wp_sqR (x := (cAt [1,1,0,1,2,2,1,0,2,0] KSO)) (y := (cAt [1,1,0,1,2,2,1,0,2,1] KSO)) (R := fun a' w' => Fr 63 a' ∧ sl a' 0 = .slice (some ⟨r, 0, none⟩) n cap ∧ sl a' 1 = .slice (some ⟨b2, 0, none⟩) n c2 ∧ sl a' 5 = .int .i64 (i : Int) ∧ Below wr.heap.size wr w') (by kernel_rfl) ?_ ?_
    · refine tkDq (s6 wr r b2 n cap c2 i p hrg h2 hat hi hn a hf h0 h1 h5) ?_
      rintro a1 w1 ⟨hf, h0, h1, h5, h39, hb⟩
      refine wp_onF (A := (cAt [1,1,0,1,2,2,1,0,2,0,1,3] KSO)) (B := (cAt [1,1,0,1,2,2,1,0,2,0,1,4] KSO)) (by kernel_rfl) h39 ?_
      exact wp_skipR (by kernel_rfl) ⟨hf, h0, h1, h5, hb⟩
    rintro a1 w1 ⟨hf, h0, h1, h5, hb⟩
    have hV1 := HV.past hb
    have hd1 := (hV1.data i p (Nat.le_refl _) hp).1
    have hrg1 := range_past hb hrg
    have hcell : w1.cell? ⟨r, i * 5 + 4, none⟩ = some (.slice p.y.a p.y.n p.y.c) := hrg1 4 _ rfl
    have hcur1 := (hb.block _ (Array.getElem?_eq_some_iff.1 hcur).1).trans hcur
    have hne : ∀ b, blk p.y.a = some b → ¬ b = r := fun b hb e => by
      obtain ⟨cur', hc'⟩ := hd1.kind hb
      rw [e, hcur1] at hc'
      simp at hc'
    have keep : ∀ W, Inc w1 B p.y.a p.y.n p.y.c W → W.cell? ⟨r, i * 5 + 4, none⟩ = some (.slice p.y.a p.y.n p.y.c) := fun W hin => by
      obtain ⟨_, _, hkp⟩ := hin
      rw [← hcell]
      exact World.cell?_of_block (hkp.block r (World.block_lt_of_cell? w1 _ hcell) (fun e => hne r e rfl))
    have hI0 : Inc w1 B p.y.a p.y.n p.y.c w1 := Inc.start hd1
    refine wp_sqR (x := (cAt [1,1,0,1,2,2,1,0,2,1,0] KSO)) (y := (cAt [1,1,0,1,2,2,1,0,2,1,1] KSO)) (R := fun a' w' => Fr 63 a' ∧ sl a' 0 = .slice (some ⟨r, 0, none⟩) n cap ∧ sl a' 1 = .slice (some ⟨b2, 0, none⟩) n c2 ∧ sl a' 5 = .int .i64 (i : Int) ∧ Inc w1 B p.y.a p.y.n p.y.c w') (by kernel_rfl) ?_ ?_
    · refine tkDq (s8 w1 r b2 n cap c2 i a1 hf h0 h1 h5) ?_
      rintro a2 _ ⟨hf, h0, h1, h5, h6, rfl⟩
      refine wp_blockR (x := (cAt [1,1,0,1,2,2,1,0,2,1,0,1,2] KSO)) (id := 2) (by kernel_rfl) ?_
      refine wp_loopR (x := (cAt [1,1,0,1,2,2,1,0,2,1,0,1,2,2] KSO)) (by kernel_rfl) (fun a' w' => ∃ j : Nat, j ≤ p.y.n ∧ Fr 63 a' ∧ sl a' 0 = .slice (some ⟨r, 0, none⟩) n cap ∧ sl a' 1 = .slice (some ⟨b2, 0, none⟩) n c2 ∧ sl a' 5 = .int .i64 (i : Int) ∧ sl a' 6 = .int .i64 (j : Int) ∧ Inc w1 B p.y.a p.y.n p.y.c w') (fun a' _ => p.y.n - (intOf (sl a' 6)).toNat) ⟨0, Nat.zero_le _, hf, h0, h1, h5, h6, hI0⟩ ?_
      rintro a3 w3 ⟨j, hj, hf, h0, h1, h5, h6a, hin⟩
      by_cases hlt : j < p.y.n
      · refine tkDq (s9 w3 r b2 n cap c2 i j p.y.a p.y.n p.y.c (keep _ hin) hi hn hlt a3 hf h0 h1 h5 h6a) ?_
        rintro b1 _ ⟨hf, h0, h1, h5, h6', rfl⟩
        obtain ⟨yg, z, eya, hz, hfz, hnext⟩ := hin.at_ hlt
        have hk2 := keep _ hin
        rw [eya] at hk2
        refine wp_sqR (x := (cAt [1,1,0,1,2,2,1,0,2,1,0,1,2,2,1,0] KSO)) (y := (cAt [1,1,0,1,2,2,1,0,2,1,0,1,2,2,1,1] KSO)) (R := fun a' w' => Fr 63 a' ∧ sl a' 0 = .slice (some ⟨r, 0, none⟩) n cap ∧ sl a' 1 = .slice (some ⟨b2, 0, none⟩) n c2 ∧ sl a' 5 = .int .i64 (i : Int) ∧ sl a' 6 = .int .i64 (j : Int) ∧ Inc w1 B p.y.a p.y.n p.y.c w') (by kernel_rfl) ?_ ?_
        · refine wp_blockR (x := (cAt [1,1,0,1,2,2,1,0,2,1,0,1,2,2,1,0,2] KSO)) (id := 3) (by kernel_rfl) ?_
          refine wp_endR (s11 w3 B w1 r b2 n cap c2 i j yg p.y.n p.y.c z hk2 hi hn hlt hz hfz hnext b1 hf h0 h1 h5 h6') ?_
          rintro b3 w4 ⟨hf, h0, h1, h5, h6, hin2⟩
          exact ⟨hf, h0, h1, h5, h6, by rw [eya]; exact hin2⟩
        rintro b3 w4 ⟨hf, h0, h1, h5, h6, hin2⟩
        refine wp_endR (s10 w4 r b2 n cap c2 i j (by have := hd.2.2; omega) b3 hf h0 h1 h5 h6) ?_
        rintro b4 _ ⟨hf, h0, h1, h5, h6, rfl⟩
        refine ⟨⟨j + 1, hlt, hf, h0, h1, h5, h6, hin2⟩, ?_⟩
        rw [h6a, h6]
        simp only [intOf]
        omega
      · refine wp_endX (s9x w3 r b2 n cap c2 i j p.y.a p.y.n p.y.c (keep _ hin) hi hn hlt a3 hf h0 h1 h5 h6a) ?_
        rintro b1 _ ⟨hf, h0, h1, h5, rfl⟩
        exact thru ⟨hf, h0, h1, h5, hin⟩
    rintro a2 w2 ⟨hf, h0, h1, h5, hin⟩
    obtain ⟨hst, hth⟩ := hV1.step hap hp hin
    refine wp_endR (s12 w2 r b2 n cap c2 i hi hn hth a2 hf h0 h1 h5) ?_
    rintro a3 _ ⟨hf, h0, h1, h5, rfl⟩
    exact ⟨hf, h0, h1, h5, hst⟩
  rintro a1 w1 ⟨hf, h0, h1, h5, hV⟩
  refine wp_endR (s5 w1 _ _ n cap c2 i (by omega) a1 hf h0 h1 h5) ?_
  rintro a2 _ ⟨hf, h0, h1, h5, rfl⟩
  exact ⟨hf, h0, h1, h5, hV⟩
theorem s13 (wr : World) (R : Ending → World → Prop) (HR : R (.returned (.bool true)) wr) (a : Act) (hf : Fr 63 a) :
    Code.wp Try.prog (cAt [1,1,1] KSO) (bodyPost Try.prog Try.f35 R) a wr := by
  have H := Lib.hid HR
  clear HR
  obtain ⟨f, ha, hs⟩ := frKSO hf
  clear hs hf 
  subst ha
  conv => arg 2; whnf
  go_wp2_with fail
  exact H.out
theorem dSameOuts_any (B : Nat) (v : Option Addr) (n cap : Nat) (ys : List Po) (B2 : Nat) (a2 : Option Addr) (c2 : Nat) (w : World) (h : Ops w B v n cap ys) (h2 : OwnG w B2 130 5 a2 n c2 ((ys.map Po.ot).flatMap Ot.cs)) (hn : n ≤ 1000000) :
    Calls Try.prog 35 #[.slice v n cap, .slice a2 n c2] w fun e w' => e = .returned (.bool true) ∧ Kept (Oblk w B) w w' := by
  have hlen : ys.length = n := h.row.flat Po.len (by decide)
  refine calls_of_wp (c := KSO) Try.func35 (by kernel_rfl) ?_
  have hf : Fr 63 { tmps := #[.slice v n cap, .slice a2 n c2] ++ Array.replicate (Try.f35.ntmps - (#[.slice v n cap, .slice a2 n c2] : Array Value).size) undef, defers := [] } := ⟨rfl, by simp [Try.ntmps35]⟩
  refine wp_sqR (x := (cAt [0] KSO)) (y := (cAt [1] KSO)) (by kernel_rfl) (s0 w v a2 n cap c2 _ hf (sl_at _ _ 0 _ rfl) (sl_at _ _ 1 _ rfl)) ?_
  rintro a1 _ ⟨hf1, h0, h1, rfl⟩
  refine wp_sqR (x := (cAt [1,0] KSO)) (y := (cAt [1,1] KSO)) (R := fun a' w' => w = w' ∧ Fr 63 a' ∧ sl a' 0 = .slice v n cap ∧ sl a' 1 = .slice a2 n c2) (by kernel_rfl) ?_ ?_
  · refine tkDq (s1 w v a2 n cap c2 a1 hf1 h0 h1) ?_
    rintro a2' _ ⟨hf1, h0, h1, h11, rfl⟩
    refine wp_onF (A := (cAt [1,0,1,3] KSO)) (B := (cAt [1,0,1,4] KSO)) (by kernel_rfl) h11 ?_
    exact wp_skipR (by kernel_rfl) ⟨rfl, hf1, h0, h1⟩
  rintro a2' _ ⟨rfl, hf1, h0, h1⟩
  refine wp_sqR (x := (cAt [1,1,0] KSO)) (y := (cAt [1,1,1] KSO)) (R := fun a' w' => Fr 63 a' ∧ Kept (Oblk w B) w w') (by kernel_rfl) ?_ ?_
  · refine tkDq (s3 w v a2 n cap c2 a2' hf1 h0 h1) ?_
    rintro a3 _ ⟨hf1, h0, h1, h5, rfl⟩
    refine wp_blockR (x := (cAt [1,1,0,1,2] KSO)) (id := 0) (by kernel_rfl) ?_
    refine wp_loopR (x := (cAt [1,1,0,1,2,2] KSO)) (by kernel_rfl) (fun a' w' => ∃ i : Nat, i ≤ n ∧ Ov w w' B v n cap ys i ∧ Fr 63 a' ∧ sl a' 0 = .slice v n cap ∧ sl a' 1 = .slice a2 n c2 ∧ sl a' 5 = .int .i64 (i : Int)) (fun a' _ => n - (intOf (sl a' 5)).toNat) ⟨0, Nat.zero_le _, Ov.start h, hf1, h0, h1, h5⟩ ?_
    rintro a4 w4 ⟨i, hi, hV, hf2, h0, h1, h5⟩
    by_cases hlt : i < n
    · obtain ⟨p, hp⟩ : ∃ p, ys[i]? = some p := ⟨_, List.getElem?_eq_getElem (by omega)⟩
      obtain ⟨r, hv, _⟩ := hV.at_ hp
      have h2' : OwnG w4 B2 130 5 a2 n c2 ((ys.map Po.ot).flatMap Ot.cs) := h2.keep hV.kept (fun b hb e => by
        obtain ⟨c1, h1⟩ := h2.blkr hb
        obtain ⟨_, cur, t, h3, h4⟩ := e
        rw [h1] at h3
        simp at h3
        rcases h4 with rfl | rfl
        · exact absurd h3.2 (by decide)
        · exact absurd h3.2 (by decide))
      obtain ⟨b2, ha2, hr2, _⟩ := h2'.nth Ot.len (by decide) (i := i) (x := p.ot) (by rw [List.getElem?_map, hp]; rfl)
      have h5o := h5
      refine tkDq (s4 w4 v a2 n cap c2 i hlt a4 hf2 h0 h1 h5) ?_
      rintro a5 _ ⟨hf3, h0, h1, h5, rfl⟩
      rw [hv] at h0 hV
      rw [ha2] at h1
      refine wp_endR (outs_round w w4 B r b2 n cap c2 i ys p hp hV h.apart hr2 hlt hn a5 hf3 h0 h1 h5) ?_
      rintro a6 w6 ⟨hf4, h0, h1, h5', hV6⟩
      rw [← hv] at h0 hV6
      rw [← ha2] at h1
      refine ⟨⟨i + 1, hlt, hV6, hf4, h0, h1, h5'⟩, ?_⟩
      rw [h5o, h5']
      simp only [intOf]
      omega
    · refine wp_endX (s4x w4 v a2 n cap c2 i hlt a4 hf2 h0 h1 h5) ?_
      rintro a5 _ ⟨hf3, _, _, rfl⟩
      exact thru ⟨hf3, hV.kept⟩
  rintro a3 w3 ⟨hf1, hk⟩
  exact s13 w3 _ ⟨rfl, hk⟩ a3 hf1
end Go.Proofs.Ytpigpeehhadkjaa

namespace Go.Proofs.Ytpigpeehhadkjaa
open Go.RowKit

theorem kOwn_any (a : Option Addr) (n c : Nat) (xs : List Int) (w : World) (hn : xs.length = n) (hr : Rd w a xs) (hlim : n ≤ 70368744177664) :
    Calls Try.prog 33 #[.slice a n c] w (Made w xs) := by
  obtain ⟨a', cap', w1, hrun, hown, hg, hb⟩ := run_append_rd w w.heap.size 38 (Own.nil w w.heap.size) c hn hr (by omega) (Nat.le_refl _)
  rw [List.nil_append] at hown
  have HR := Lib.hid hrun
  have HF : Hid (Made w xs (.returned (.slice a' (0 + n) cap')) w1) := ⟨a', 0 + n, cap', rfl, hown, (Below.refl _ _).grown hg (Nat.le_refl _) (by simp [blk])⟩
  clear hrun hown hg hb hn hr
  rw [Nat.zero_add] at HR HF
  go_enter Try.func33, Try.ntmps33
  go_wp2_with (at_builtin; refine Lib.wpList_append_run _ rfl _ _ _ _ rfl _ _ rfl rfl _ _ HR.out ?_)
  go_ret
  exact HF.out

theorem kSpoil_any (base : Nat) (a : Option Addr) (n cap : Nat) (xs : List Int) (w : World) (h : Own w base a n cap xs) (hl : n ≤ 70368744177664) :
    Calls Try.prog 32 #[.slice a n cap] w fun e w' => e = .returned (.tuple #[]) ∧ Inc w base a n cap w' := by
  have HI : Hid (Inc w base a n cap w) := Inc.start h
  clear h
  go_enter Try.func32, Try.ntmps32
  go_wp2_with fail
  go_loopw [2] (fun i wr => ∃ k : Nat, k ≤ n ∧ i = .int .i64 k ∧ Hid (Inc w base a n cap wr)) (fun i _ => n - (intOf i).toNat)
  case atStart => exact ⟨0, Nat.zero_le _, rfl, HI⟩
  case round =>
    obtain ⟨k, hk, rfl, hin⟩ := hrel
    by_cases hlt : k < n
    · obtain ⟨g, z, rfl, hz, hf, hnext⟩ := hin.out.at_ hlt
      have HX := Lib.hid hnext
      clear hnext
      go_wp2_with fail
      go_roundw
      case rel => exact ⟨k + 1, by omega, by go_num, HX.out _⟩
      case measure => simp [intOf]; omega
    · go_wp2_with fail
      go_end0
      exact ⟨rfl, hin.out⟩
end Go.Proofs.Ytpigpeehhadkjaa

namespace Go.Proofs.Ytpigpeehhadkjaa
open Go.RowKit Bkt
set_option maxRecDepth 100000
set_option maxHeartbeats 4000000

/-- Both lie in memory. -/
structure Iz (w wr : World) (B g : Nat) (s : Sh) (B2 g2 : Nat) (d : Ds) : Prop where
  sw : Sw wr B g s
  dw : Dw wr B2 g2 d
  below : Below w.heap.size w wr
theorem Iz.past {w wr w' : World} {B g : Nat} {s : Sh} {B2 g2 : Nat} {d : Ds} (h : Iz w wr B g s B2 g2 d) (k : Below wr.heap.size wr w') : Iz w w' B g s B2 g2 d := ⟨h.sw.below k, h.dw.below k, h.below.trans (k.mono h.below.size)⟩
theorem infFI3 : (Try.prog.info? 40).map (·.size) = some 3 := by kernel_rfl
/-- A row of items, of which the first k are written over. -/
structure Iq (W0 wr : World) (v : Option Addr) (m c : Nat) (ys : List Pi) (k : Nat) : Prop where
  below : Below W0.heap.size W0 wr
  row : ∃ zs : List Pi, zs.length = ys.length ∧ OwnG wr W0.heap.size 40 3 v m c (zs.flatMap Pi.cs) ∧ ∀ j, k ≤ j → zs[j]? = ys[j]?
  data : ∀ j p, k ≤ j → ys[j]? = some p → Own wr W0.heap.size p.a p.n p.c p.d
theorem Iq.past {W0 wr w' : World} {v : Option Addr} {m c : Nat} {ys : List Pi} {k : Nat} (h : Iq W0 wr v m c ys k) (hb : Below wr.heap.size wr w') : Iq W0 w' v m c ys k := by
  obtain ⟨zs, hz, hr, he⟩ := h.row
  exact ⟨h.below.trans (hb.mono h.below.size), ⟨zs, hz, hr.below hb, he⟩, fun j p hj hp => (h.data j p hj hp).keep (S := fun _ => False) (Kept.of_below hb (fun i hi hi' => by omega)) (fun _ _ => id)⟩
theorem Iq.at_ {W0 wr : World} {v : Option Addr} {m c : Nat} {ys : List Pi} {k : Nat} (h : Iq W0 wr v m c ys k) {p : Pi} (hp : ys[k]? = some p) : ∃ r, v = some ⟨r, 0, none⟩ ∧ wr.rangeAt r (k * 3) p.cs ∧ ∃ cur, wr.heap[r]? = some (.cells cur 40 (0, 0)) := by
  obtain ⟨zs, _, hr, he⟩ := h.row
  obtain ⟨r, e, h1, h2⟩ := hr.nth Pi.len (by decide) ((he k (Nat.le_refl _)).trans hp)
  exact ⟨r, e, h1, hr.blkr (by rw [e]; rfl)⟩
theorem Iq.step {W0 wr w2 : World} {r : Nat} {m c : Nat} {ys : List Pi} {k : Nat} (h : Iq W0 wr (some ⟨r, 0, none⟩) m c ys k) (hap : ys.Pairwise (fun o p => ∀ k, blk o.a = some k → blk p.a ≠ some k)) {p : Pi} (hp : ys[k]? = some p) (hi : Inc wr W0.heap.size p.a p.n p.c w2) :
    Iq W0 (w2.setCells r (k * 3) pz.cs) (some ⟨r, 0, none⟩) m c ys (k + 1) ∧ w2.there r (k * 3) 3 := by
  obtain ⟨us, ho, hk⟩ := hi
  obtain ⟨zs, hz, hr, he⟩ := h.row
  have hkl := (List.getElem?_eq_some_iff.1 hp).1
  have hd := h.data k p (Nat.le_refl _) hp
  have hne : ∀ b, blk p.a = some b → ¬ blk (some (⟨r, 0, none⟩ : Addr)) = some b := fun b hb e => by
    obtain ⟨c1, h1⟩ := hd.kind hb
    obtain ⟨c2, h2⟩ := hr.blkr e
    rw [h1] at h2
    simp at h2
  have hr2 : OwnG w2 W0.heap.size 40 3 (some ⟨r, 0, none⟩) m c (zs.flatMap Pi.cs) := hr.keep hk (fun b hb e => hne b e hb)
  have hth : w2.there r (k * 3) 3 := by
    obtain ⟨r', e, _, h2⟩ := hr2.nth Pi.len (by decide) ((he k (Nat.le_refl _)).trans hp)
    cases e
    exact h2
  have hk2 : Kept (fun i => i = r) w2 (w2.setCells r (k * 3) pz.cs) := Kept.setCells (S := fun i => i = r) r rfl _ _ (Kept.refl _ _)
  have hb2 := h.below.trans (hk.below h.below.size (fun i e => (hd.blk_ge i e).1))
  refine ⟨⟨hb2.trans (hk2.below hb2.size (fun i e => by
    subst e
    exact (hr.blk_ge i rfl).1)), ⟨zs.set k pz, by rw [List.length_set]; exact hz, hr2.put Pi.len (by omega) pz, fun j hj => ?_⟩, fun j q hj hq => ?_⟩, hth⟩
  · rw [List.getElem?_set_ne (by omega)]
    exact he j (by omega)
  · have hdq := h.data j q (by omega) hq
    refine (hdq.keep hk (fun b hb e => ?_)).keep hk2 (fun b hb e => ?_)
    · have hjl := (List.getElem?_eq_some_iff.1 hq).1
      have h1 := List.pairwise_iff_getElem.1 hap k j hkl hjl (by omega) b
      rw [(List.getElem?_eq_some_iff.1 hp).2, (List.getElem?_eq_some_iff.1 hq).2] at h1
      exact h1 e hb
    · subst e
      obtain ⟨c1, h1⟩ := hdq.kind hb
      obtain ⟨c2, h2⟩ := hr.blkr (k := b) rfl
      rw [h1] at h2
      simp at h2

/-- What is answered can be read as what it was answered of. -/
theorem cps_at {W : World} {base : Nat} {v : Option Addr} {m c : Nat} {ys L : List Pi} (hcp : Cps W base v m c ys) (hm : ys.map Pi.it = L.map Pi.it) (hL : ∀ x ∈ L, x.at_ W) : ∀ y ∈ ys, y.at_ W := fun y hy => by
  have h1 : y.it ∈ L.map Pi.it := hm ▸ List.mem_map.2 ⟨y, hy, rfl⟩
  obtain ⟨x, hx, e⟩ := List.mem_map.1 h1
  have hd : x.d = y.d := congrArg It.d e
  have ho := hcp.data y hy
  have hxa := hL x hx
  refine ⟨ho.len, ho.rd, hd ▸ hxa.byt, ?_⟩
  have h2 := ho.len
  have h3 := hxa.len
  have h4 := hxa.few
  rw [hd] at h3
  omega

noncomputable def KIS : Code := Try.f13.body.getD .skip
theorem frKIS {a : Act} (h : Fr 138 a) : ∃ f : Nat → Value, a = ⟨#[f 0, f 1, f 2, f 3, f 4, f 5, f 6, f 7, f 8, f 9, f 10, f 11, f 12, f 13, f 14, f 15, f 16, f 17, f 18, f 19, f 20, f 21, f 22, f 23, f 24, f 25, f 26, f 27, f 28, f 29, f 30, f 31, f 32, f 33, f 34, f 35, f 36, f 37, f 38, f 39, f 40, f 41, f 42, f 43, f 44, f 45, f 46, f 47, f 48, f 49, f 50, f 51, f 52, f 53, f 54, f 55, f 56, f 57, f 58, f 59, f 60, f 61, f 62, f 63, f 64, f 65, f 66, f 67, f 68, f 69, f 70, f 71, f 72, f 73, f 74, f 75, f 76, f 77, f 78, f 79, f 80, f 81, f 82, f 83, f 84, f 85, f 86, f 87, f 88, f 89, f 90, f 91, f 92, f 93, f 94, f 95, f 96, f 97, f 98, f 99, f 100, f 101, f 102, f 103, f 104, f 105, f 106, f 107, f 108, f 109, f 110, f 111, f 112, f 113, f 114, f 115, f 116, f 117, f 118, f 119, f 120, f 121, f 122, f 123, f 124, f 125, f 126, f 127, f 128, f 129, f 130, f 131, f 132, f 133, f 134, f 135, f 136, f 137], []⟩ ∧ ∀ i, f i = sl a i := fr_any h

theorem j0 (wr : World) (g g2 : Nat) (a : Act) (hf : Fr 138 a) (h0 : sl a 0 = .pointer (some ⟨g, 0, none⟩)) (h1 : sl a 1 = .pointer (some ⟨g2, 0, none⟩)) :
    Code.wp Try.prog (cAt [0] KIS) (Exit.then (fun a' w' => Fr 138 a' ∧ sl a' 0 = .pointer (some ⟨g, 0, none⟩) ∧ sl a' 1 = .pointer (some ⟨g2, 0, none⟩) ∧ wr = w') Nope) a wr := by
  obtain ⟨f, ha, hs⟩ := frKIS hf
  rw [(hs 0).trans h0, (hs 1).trans h1] at ha
  clear hs hf h0 h1
  subst ha
  refine piece2 fun J0 K0 hJ0 hK0 => ?_
  conv => arg 2; whnf
  go_wp2_with fail
  refine Met.intro (hJ0 _ _ ?_)
  exact ⟨⟨rfl, rfl⟩, rfl, rfl, rfl⟩

theorem j1 (w wr : World) (B g : Nat) (s : Sh) (B2 g2 : Nat) (d : Ds) (HI : Hid (Iz w wr B g s B2 g2 d)) (h1 : 1 ≤ s.n) (a : Act) (hf : Fr 138 a) (h0 : sl a 0 = .pointer (some ⟨g, 0, none⟩)) (h1 : sl a 1 = .pointer (some ⟨g2, 0, none⟩)) :
    Code.wp Try.prog (cAt [1,0] KIS) (Exit.then (fun a' w' => Fr 138 a' ∧ sl a' 0 = .pointer (some ⟨g, 0, none⟩) ∧ sl a' 1 = .pointer (some ⟨g2, 0, none⟩) ∧ sl a' 5 = .int .u64 (nx s.T s.abs).t ∧ sl a' 6 = .bool (nx s.T s.abs).k ∧ Iz w w' B g s B2 g2 d) Nope) a wr := by
  obtain ⟨f, ha, hs⟩ := frKIS hf
  rw [(hs 0).trans h0, (hs 1).trans h1] at ha
  clear hs hf h0 h1
  subst ha
  refine piece2 fun J0 K0 hJ0 hK0 => ?_
  conv => arg 2; whnf
  have H1 := Lib.hid h1
  clear h1
  go_wp2_with fail
  refine (sNext_any B g s wr HI.out.sw H1.out).mono ?_
  rintro e w1 ⟨rfl, hb⟩
  have HB := Lib.hid (HI.out.past hb)
  clear hb
  obtain ⟨z, hz⟩ : ∃ z, nx s.T s.abs = z := ⟨_, rfl⟩
  rw [hz] at hJ0 ⊢
  go_wp2_with fail
  refine Met.intro (hJ0 _ _ ?_)
  exact ⟨⟨rfl, rfl⟩, rfl, rfl, rfl, rfl, HB.out⟩

theorem j2 (w wr : World) (B g : Nat) (s : Sh) (B2 g2 : Nat) (d : Ds) (HI : Hid (Iz w wr B g s B2 g2 d)) (zt : Int) (zk : Bool) (ok : ∀ x ∈ d.ls, x.ab.ok d.T) (hn : d.n ≤ 8) (a : Act) (hf : Fr 138 a) (h0 : sl a 0 = .pointer (some ⟨g, 0, none⟩)) (h1 : sl a 1 = .pointer (some ⟨g2, 0, none⟩)) (h5 : sl a 5 = .int .u64 zt) (h6 : sl a 6 = .bool zk) :
    Code.wp Try.prog (cAt [1,1,0] KIS) (Exit.then (fun a' w' => Fr 138 a' ∧ sl a' 0 = .pointer (some ⟨g, 0, none⟩) ∧ sl a' 1 = .pointer (some ⟨g2, 0, none⟩) ∧ sl a' 5 = .int .u64 zt ∧ sl a' 6 = .bool zk ∧ sl a' 7 = .int .u64 (nx d.T d.abs).t ∧ sl a' 8 = .bool (nx d.T d.abs).k ∧ Iz w w' B g s B2 g2 d) Nope) a wr := by
  obtain ⟨f, ha, hs⟩ := frKIS hf
  rw [(hs 0).trans h0, (hs 1).trans h1, (hs 5).trans h5, (hs 6).trans h6] at ha
  clear hs hf h0 h1 h5 h6
  subst ha
  refine piece2 fun J0 K0 hJ0 hK0 => ?_
  conv => arg 2; whnf
  have HOK := Lib.hid ok
  have HN := Lib.hid hn
  clear ok hn
  go_wp2_with fail
  refine (dNext_any B2 g2 d wr HI.out.dw HOK.out HN.out).mono ?_
  rintro e w1 ⟨rfl, hb⟩
  have HB := Lib.hid (HI.out.past hb)
  clear hb
  obtain ⟨z, hz⟩ : ∃ z, nx d.T d.abs = z := ⟨_, rfl⟩
  rw [hz] at hJ0 ⊢
  go_wp2_with fail
  refine Met.intro (hJ0 _ _ ?_)
  exact ⟨⟨rfl, rfl⟩, rfl, rfl, rfl, rfl, rfl, rfl, HB.out⟩

theorem sStat_out (B g : Nat) (s : Sh) (i : Int) (w : World) (h : Sw w B g s) (hi : i < 0 ∨ (s.n : Int) ≤ i) : Calls Try.prog 24 #[.pointer (some ⟨g, 0, none⟩), .int .i64 i] w (Gives w (statV 0 0 0 0)) := by
  have HS := Lib.hid h
  have HI := Lib.hid hi
  clear h hi
  go_enter Try.func24, Try.ntmps24
  go_wp2_with fail
  refine (sLane_no B g s i _ (HS.out.below ((Below.refl _ _).alloc (Nat.le_refl _) _)) HI.out).mono ?_
  rintro e w1 ⟨rfl, hw⟩
  subst hw
  go_wp2_with fail
  refine bodyPost_ret (v := statV 0 0 0 0) (by simp [results, Try.results24, go_sem, statV, *]) rfl ?_
  exact ⟨rfl, (Below.refl _ _).alloc (Nat.le_refl _) _⟩

theorem j3 (w wr : World) (B g : Nat) (s : Sh) (B2 g2 : Nat) (d : Ds) (HI : Hid (Iz w wr B g s B2 g2 d)) (zt : Int) (zk : Bool) (hT : d.T = s.T) (hdn : d.n = s.n) (a : Act) (hf : Fr 138 a) (h0 : sl a 0 = .pointer (some ⟨g, 0, none⟩)) (h1 : sl a 1 = .pointer (some ⟨g2, 0, none⟩)) (h5 : sl a 5 = .int .u64 zt) (h6 : sl a 6 = .bool zk) (h7 : sl a 7 = .int .u64 zt) (h8 : sl a 8 = .bool zk) :
    Code.wp Try.prog (cAt [1,1,1,0,0] KIS) (Exit.then (fun a' w' => Fr 138 a' ∧ sl a' 0 = .pointer (some ⟨g, 0, none⟩) ∧ sl a' 1 = .pointer (some ⟨g2, 0, none⟩) ∧ sl a' 74 = .bool false ∧ Iz w w' B g s B2 g2 d) Nope) a wr := by
  obtain ⟨f, ha, hs⟩ := frKIS hf
  rw [(hs 0).trans h0, (hs 1).trans h1, (hs 5).trans h5, (hs 6).trans h6, (hs 7).trans h7, (hs 8).trans h8] at ha
  clear hs hf h0 h1 h5 h6 h7 h8
  subst ha
  refine piece2 fun J0 K0 hJ0 hK0 => ?_
  conv => arg 2; whnf
  have c0 := HI.out.dw.c0
  have c2 := HI.out.dw.c2
  rw [hT] at c0
  have HS0 : Hid (wr.cell? ⟨g2, 0, none⟩ = some (.int .u64 s.T) ∧ wr.cell? ⟨g2, 2, none⟩ = some (.slice d.vq d.n d.cq)) := ⟨c0, c2⟩
  have HNN : Hid ((s.n : Int) ≤ (d.n : Int)) := by show _ ≤ _; omega
  clear c0 c2 hT hdn
  go_wp2_with fail
  have H0 := Lib.hid (HI.out.past (show Below wr.heap.size wr wr.drew from (Below.refl _ _).drew))
  have HS : Hid (wr.drew.cell? ⟨g2, 0, none⟩ = some (.int .u64 s.T) ∧ wr.drew.cell? ⟨g2, 2, none⟩ = some (.slice d.vq d.n d.cq)) := HS0.out
  refine wp_region_held_drew (S := fun w' => w'.cell? ⟨g2, 0, none⟩ = some (.int .u64 s.T) ∧ w'.cell? ⟨g2, 2, none⟩ = some (.slice d.vq d.n d.cq)) (by kernel_rfl) HS.out (fun hS => ?_)
  refine tkD 0 24 (.pointer (some ⟨g, 0, none⟩)) (fun w' h' => ?_) hS ?_
  · go_simp
  refine tkD 2 26 (.pointer (some ⟨g2, 0, none⟩)) (fun w' h' => ?_) hS ?_
  · go_simp
  try simp only [Act.put, List.setIfInBounds_toArray, List.set_cons_zero, List.set_cons_succ]
  refine tkD 3 27 (.pointer (some ⟨g2, 0, none⟩)) (fun w' h' => ?_) hS ?_
  · go_simp
  refine tkD 4 28 (.pointer (some ⟨g2, 0, none⟩)) (fun w' h' => ?_) hS ?_
  · go_simp
  try simp only [Act.put, List.setIfInBounds_toArray, List.set_cons_zero, List.set_cons_succ]
  refine tkD 5 29 (.int .u64 s.T) (fun w' h' => ?_) hS ?_
  · have c0 := h'.1
    go_simp
  try simp only [Act.put, List.setIfInBounds_toArray, List.set_cons_zero, List.set_cons_succ]
  refine wpAnyH_ready (rs := [1]) (by kernel_rfl) (by simp) (AllReadyH.cons rfl (fun K hK => ?_) AllReadyH.nil)
  rw [if_pos (by rfl)]
  go_wp2_with fail
  refine (sTick_any B g s _ H0.out.sw).mono ?_
  rintro e w1 ⟨rfl, hw⟩
  rw [hw]
  clear hw
  clear hS
  refine hK.out _ _ (HS.out) (fun hS => ?_)
  clear hK K
  refine tkD 6 30 (.bool false) (fun w' h' => ?_) hS ?_
  · go_simp
  try simp only [Act.put, List.setIfInBounds_toArray, List.set_cons_zero, List.set_cons_succ]
  refine tkD 7 31 (.bool false) (fun w' h' => ?_) hS ?_
  · go_simp
  refine tkD 8 32 (.int .u64 zt) (fun w' h' => ?_) hS ?_
  · go_simp
  try simp only [Act.put, List.setIfInBounds_toArray, List.set_cons_zero, List.set_cons_succ]
  refine tkD 9 33 (.int .u64 zt) (fun w' h' => ?_) hS ?_
  · go_simp
  refine tkD 10 34 (.bool false) (fun w' h' => ?_) hS ?_
  · go_simp
  try simp only [Act.put, List.setIfInBounds_toArray, List.set_cons_zero, List.set_cons_succ]
  refine tkD 11 35 (.bool false) (fun w' h' => ?_) hS ?_
  · go_simp
  refine tkD 12 36 (.bool false) (fun w' h' => ?_) hS ?_
  · go_simp
  try simp only [Act.put, List.setIfInBounds_toArray, List.set_cons_zero, List.set_cons_succ]
  refine tkD 13 37 (.bool zk) (fun w' h' => ?_) hS ?_
  · go_simp
  refine tkD 14 38 (.bool zk) (fun w' h' => ?_) hS ?_
  · go_simp
  try simp only [Act.put, List.setIfInBounds_toArray, List.set_cons_zero, List.set_cons_succ]
  refine tkD 15 39 (.bool false) (fun w' h' => ?_) hS ?_
  · go_simp
  refine tkD 16 40 (.bool false) (fun w' h' => ?_) hS ?_
  · go_simp
  try simp only [Act.put, List.setIfInBounds_toArray, List.set_cons_zero, List.set_cons_succ]
  refine tkD 17 41 (.bool false) (fun w' h' => ?_) hS ?_
  · go_simp
  refine tkD 18 42 (.pointer (some ⟨g, 0, none⟩)) (fun w' h' => ?_) hS ?_
  · go_simp
  try simp only [Act.put, List.setIfInBounds_toArray, List.set_cons_zero, List.set_cons_succ]
  refine tkD 20 44 (.agg #[.int .u64 0, .int .u64 0, .int .u64 0, .int .u64 0]) (fun w' h' => ?_) hS ?_
  · go_simp
  try simp only [Act.put, List.setIfInBounds_toArray, List.set_cons_zero, List.set_cons_succ]
  refine wpAnyH_ready (rs := [19]) (by kernel_rfl) (by simp) (AllReadyH.cons rfl (fun K hK => ?_) AllReadyH.nil)
  rw [if_pos (by rfl)]
  go_wp2_with fail
  refine (sStat_out B g s (-1) _ H0.out.sw (.inl (by decide))).mono ?_
  rintro e w1 ⟨rfl, hb1⟩
  rw [show statV 0 0 0 0 = .agg #[.int .u64 0, .int .u64 0, .int .u64 0, .int .u64 0] from rfl]
  have H1 := Lib.hid (H0.out.past hb1)
  have HS1 : Hid (w1.cell? ⟨g2, 0, none⟩ = some (.int .u64 s.T) ∧ w1.cell? ⟨g2, 2, none⟩ = some (.slice d.vq d.n d.cq)) := ⟨cell_kept hb1 HS.out.1, cell_kept hb1 HS.out.2⟩
  clear hb1
  clear hS
  refine hK.out _ _ (HS1.out) (fun hS => ?_)
  clear hK K
  refine tkD 21 45 (.bool false) (fun w' h' => ?_) hS ?_
  · go_simp
  try simp only [Act.put, List.setIfInBounds_toArray, List.set_cons_zero, List.set_cons_succ]
  refine tkD 22 46 (.bool false) (fun w' h' => ?_) hS ?_
  · go_simp
  refine tkD 23 47 (.bool false) (fun w' h' => ?_) hS ?_
  · go_simp
  try simp only [Act.put, List.setIfInBounds_toArray, List.set_cons_zero, List.set_cons_succ]
  refine tkD 24 48 (.pointer (some ⟨g, 0, none⟩)) (fun w' h' => ?_) hS ?_
  · go_simp
  refine tkD 25 49 (.pointer (some ⟨g2, 0, none⟩)) (fun w' h' => ?_) hS ?_
  · go_simp
  try simp only [Act.put, List.setIfInBounds_toArray, List.set_cons_zero, List.set_cons_succ]
  refine tkD 26 50 (.pointer (some ⟨g2, 0, none⟩)) (fun w' h' => ?_) hS ?_
  · go_simp
  refine tkD 27 51 (.pointer (some ⟨g2, 2, none⟩)) (fun w' h' => ?_) hS ?_
  · go_simp
  try simp only [Act.put, List.setIfInBounds_toArray, List.set_cons_zero, List.set_cons_succ]
  refine tkD 28 52 (.slice d.vq d.n d.cq) (fun w' h' => ?_) hS ?_
  · have c2 := h'.2
    go_simp
  refine tkD 29 53 (.int .i64 (d.n : Int)) (fun w' h' => ?_) hS ?_
  · go_simp
  try simp only [Act.put, List.setIfInBounds_toArray, List.set_cons_zero, List.set_cons_succ]
  refine tkD 31 55 (.agg #[.int .u64 0, .int .u64 0, .int .u64 0, .int .u64 0]) (fun w' h' => ?_) hS ?_
  · go_simp
  try simp only [Act.put, List.setIfInBounds_toArray, List.set_cons_zero, List.set_cons_succ]
  refine wpAnyH_ready (rs := [30]) (by kernel_rfl) (by simp) (AllReadyH.cons rfl (fun K hK => ?_) AllReadyH.nil)
  rw [if_pos (by rfl)]
  go_wp2_with fail
  refine (sStat_out B g s _ _ H1.out.sw (.inr HNN.out)).mono ?_
  rintro e w2 ⟨rfl, hb2⟩
  rw [show statV 0 0 0 0 = .agg #[.int .u64 0, .int .u64 0, .int .u64 0, .int .u64 0] from rfl]
  have H2 := Lib.hid (H1.out.past hb2)
  have HS2 : Hid (w2.cell? ⟨g2, 0, none⟩ = some (.int .u64 s.T) ∧ w2.cell? ⟨g2, 2, none⟩ = some (.slice d.vq d.n d.cq)) := ⟨cell_kept hb2 HS1.out.1, cell_kept hb2 HS1.out.2⟩
  clear hb2
  clear hS
  refine hK.out _ _ (HS2.out) (fun hS => ?_)
  clear hK K
  refine tkD 32 56 (.bool false) (fun w' h' => ?_) hS ?_
  · go_simp
  try simp only [Act.put, List.setIfInBounds_toArray, List.set_cons_zero, List.set_cons_succ]
  refine tkD 33 57 (.bool false) (fun w' h' => ?_) hS ?_
  · go_simp
  refine tkD 34 58 (.bool false) (fun w' h' => ?_) hS ?_
  · go_simp
  try simp only [Act.put, List.setIfInBounds_toArray, List.set_cons_zero, List.set_cons_succ]
  refine tkD 35 59 (.pointer (some ⟨g, 0, none⟩)) (fun w' h' => ?_) hS ?_
  · go_simp
  try simp only [Act.put, List.setIfInBounds_toArray, List.set_cons_zero, List.set_cons_succ]
  refine wpAnyH_ready (rs := [36]) (by kernel_rfl) (by simp) (AllReadyH.cons rfl (fun K hK => ?_) AllReadyH.nil)
  rw [if_pos (by rfl)]
  go_wp2_with fail
  refine (sQueued_no B g s (-1) _ H2.out.sw (.inl (by decide))).mono ?_
  rintro e w3 ⟨rfl, hw⟩
  rw [hw]
  clear hw
  clear hS
  refine hK.out _ _ (HS2.out) (fun hS => ?_)
  clear hK K
  refine tkD 37 61 (.int .i64 0) (fun w' h' => ?_) hS ?_
  · go_simp
  try simp only [Act.put, List.setIfInBounds_toArray, List.set_cons_zero, List.set_cons_succ]
  refine tkD 38 62 (.bool false) (fun w' h' => ?_) hS ?_
  · go_simp
  refine tkD 39 63 (.bool false) (fun w' h' => ?_) hS ?_
  · go_simp
  try simp only [Act.put, List.setIfInBounds_toArray, List.set_cons_zero, List.set_cons_succ]
  refine tkD 40 64 (.bool false) (fun w' h' => ?_) hS ?_
  · go_simp
  refine tkD 41 65 (.pointer (some ⟨g, 0, none⟩)) (fun w' h' => ?_) hS ?_
  · go_simp
  try simp only [Act.put, List.setIfInBounds_toArray, List.set_cons_zero, List.set_cons_succ]
  refine tkD 42 66 (.pointer (some ⟨g2, 0, none⟩)) (fun w' h' => ?_) hS ?_
  · go_simp
  refine tkD 43 67 (.pointer (some ⟨g2, 0, none⟩)) (fun w' h' => ?_) hS ?_
  · go_simp
  try simp only [Act.put, List.setIfInBounds_toArray, List.set_cons_zero, List.set_cons_succ]
  refine tkD 44 68 (.pointer (some ⟨g2, 2, none⟩)) (fun w' h' => ?_) hS ?_
  · go_simp
  refine tkD 45 69 (.slice d.vq d.n d.cq) (fun w' h' => ?_) hS ?_
  · have c2 := h'.2
    go_simp
  try simp only [Act.put, List.setIfInBounds_toArray, List.set_cons_zero, List.set_cons_succ]
  refine tkD 46 70 (.int .i64 (d.n : Int)) (fun w' h' => ?_) hS ?_
  · go_simp
  try simp only [Act.put, List.setIfInBounds_toArray, List.set_cons_zero, List.set_cons_succ]
  refine wpAnyH_ready (rs := [47]) (by kernel_rfl) (by simp) (AllReadyH.cons rfl (fun K hK => ?_) AllReadyH.nil)
  rw [if_pos (by rfl)]
  go_wp2_with fail
  refine (sQueued_no B g s _ _ H2.out.sw (.inr HNN.out)).mono ?_
  rintro e w3 ⟨rfl, hw⟩
  rw [hw]
  clear hw
  clear hS
  refine hK.out _ _ (HS2.out) (fun hS => ?_)
  clear hK K
  refine tkD 48 72 (.int .i64 0) (fun w' h' => ?_) hS ?_
  · go_simp
  try simp only [Act.put, List.setIfInBounds_toArray, List.set_cons_zero, List.set_cons_succ]
  refine tkD 49 73 (.bool false) (fun w' h' => ?_) hS ?_
  · go_simp
  refine tkD 50 74 (.bool false) (fun w' h' => ?_) hS ?_
  · go_simp
  refine wpAnyH_done (by kernel_rfl) ?_ _
  go_wp2_with fail
  refine Met.intro (hJ0 _ _ ?_)
  exact ⟨⟨rfl, rfl⟩, rfl, rfl, rfl, H2.out⟩

theorem j5 (wr : World) (g g2 : Nat) (a : Act) (hf : Fr 138 a) (h0 : sl a 0 = .pointer (some ⟨g, 0, none⟩)) (h1 : sl a 1 = .pointer (some ⟨g2, 0, none⟩)) :
    Code.wp Try.prog (cAt [1,1,1,1,0,0] KIS) (Exit.then (fun a' w' => Fr 138 a' ∧ sl a' 0 = .pointer (some ⟨g, 0, none⟩) ∧ sl a' 1 = .pointer (some ⟨g2, 0, none⟩) ∧ sl a' 9 = .int .i64 0 ∧ wr = w') Nope) a wr := by
  obtain ⟨f, ha, hs⟩ := frKIS hf
  rw [(hs 0).trans h0, (hs 1).trans h1] at ha
  clear hs hf h0 h1
  subst ha
  refine piece2 fun J0 K0 hJ0 hK0 => ?_
  conv => arg 2; whnf
  go_wp2_with fail
  refine Met.intro (hJ0 _ _ ?_)
  exact ⟨⟨rfl, rfl⟩, rfl, rfl, rfl, rfl⟩

theorem j6 (w wr : World) (B g : Nat) (s : Sh) (B2 g2 : Nat) (d : Ds) (HI : Hid (Iz w wr B g s B2 g2 d)) (i : Nat) (hi : i < d.n) (a : Act) (hf : Fr 138 a) (h0 : sl a 0 = .pointer (some ⟨g, 0, none⟩)) (h1 : sl a 1 = .pointer (some ⟨g2, 0, none⟩)) (h9 : sl a 9 = .int .i64 (i : Int)) :
    Code.wp Try.prog (cAt [1,1,1,1,0,1,2,2,0] KIS) (Exit.then (fun a' w' => Fr 138 a' ∧ sl a' 0 = .pointer (some ⟨g, 0, none⟩) ∧ sl a' 1 = .pointer (some ⟨g2, 0, none⟩) ∧ sl a' 9 = .int .i64 (i : Int) ∧ wr = w') Nope) a wr := by
  obtain ⟨f, ha, hs⟩ := frKIS hf
  rw [(hs 0).trans h0, (hs 1).trans h1, (hs 9).trans h9] at ha
  clear hs hf h0 h1 h9
  subst ha
  refine piece2 fun J0 K0 hJ0 hK0 => ?_
  conv => arg 2; whnf
  have hi2 : (i : Int) < (d.n : Int) := by omega
  have c2 := HI.out.dw.c2
  go_wp2_with fail
  refine Met.intro (hJ0 _ _ ?_)
  exact ⟨⟨rfl, rfl⟩, rfl, rfl, rfl, rfl⟩

theorem j6x (w wr : World) (B g : Nat) (s : Sh) (B2 g2 : Nat) (d : Ds) (HI : Hid (Iz w wr B g s B2 g2 d)) (i : Nat) (hi : ¬ i < d.n) (a : Act) (hf : Fr 138 a) (h0 : sl a 0 = .pointer (some ⟨g, 0, none⟩)) (h1 : sl a 1 = .pointer (some ⟨g2, 0, none⟩)) (h9 : sl a 9 = .int .i64 (i : Int)) :
    Code.wp Try.prog (cAt [1,1,1,1,0,1,2,2] KIS) (Outs 0 (fun a' w' => Fr 138 a' ∧ sl a' 0 = .pointer (some ⟨g, 0, none⟩) ∧ sl a' 1 = .pointer (some ⟨g2, 0, none⟩) ∧ wr = w')) a wr := by
  obtain ⟨f, ha, hs⟩ := frKIS hf
  rw [(hs 0).trans h0, (hs 1).trans h1, (hs 9).trans h9] at ha
  clear hs hf h0 h1 h9
  subst ha
  conv => arg 2; whnf
  have hi2 : ¬ (i : Int) < (d.n : Int) := by omega
  have c2 := HI.out.dw.c2
  go_wp2_with fail
  exact ⟨rfl, ⟨rfl, rfl⟩, rfl, rfl, rfl⟩

theorem j7 (wr : World) (g g2 i : Nat) (hk : i < 1000000) (a : Act) (hf : Fr 138 a) (h0 : sl a 0 = .pointer (some ⟨g, 0, none⟩)) (h1 : sl a 1 = .pointer (some ⟨g2, 0, none⟩)) (h9 : sl a 9 = .int .i64 (i : Int)) :
    Code.wp Try.prog (cAt [1,1,1,1,0,1,2,2,1,1] KIS) (Exit.then (fun a' w' => Fr 138 a' ∧ sl a' 0 = .pointer (some ⟨g, 0, none⟩) ∧ sl a' 1 = .pointer (some ⟨g2, 0, none⟩) ∧ sl a' 9 = .int .i64 ((i : Int) + 1) ∧ wr = w') Nope) a wr := by
  obtain ⟨f, ha, hs⟩ := frKIS hf
  rw [(hs 0).trans h0, (hs 1).trans h1, (hs 9).trans h9] at ha
  clear hs hf h0 h1 h9
  subst ha
  refine piece2 fun J0 K0 hJ0 hK0 => ?_
  conv => arg 2; whnf
  have hw : IntKind.i64.wrap ((i : Int) + 1) = (i : Int) + 1 := by rw [IntKind.wrap_i64]; omega
  go_wp2_with fail
  refine Met.intro (hJ0 _ _ ?_)
  exact ⟨⟨rfl, rfl⟩, rfl, rfl, rfl, rfl⟩

theorem j8 (w wr : World) (B g : Nat) (s : Sh) (B2 g2 : Nat) (d : Ds) (HI : Hid (Iz w wr B g s B2 g2 d)) (i : Nat) (l : La) (hl : s.ls[i]? = some l) (a : Act) (hf : Fr 138 a) (h0 : sl a 0 = .pointer (some ⟨g, 0, none⟩)) (h1 : sl a 1 = .pointer (some ⟨g2, 0, none⟩)) (h9 : sl a 9 = .int .i64 (i : Int)) :
    Code.wp Try.prog (cAt [1,1,1,1,0,1,2,2,1,0,2,0] KIS) (Exit.then (fun a' w' => ∃ bx, Fr 138 a' ∧ sl a' 0 = .pointer (some ⟨g, 0, none⟩) ∧ sl a' 1 = .pointer (some ⟨g2, 0, none⟩) ∧ sl a' 9 = .int .i64 (i : Int) ∧ sl a' 10 = .pointer (some ⟨bx, 0, none⟩) ∧ Iz w w' B g s B2 g2 d ∧ w'.heap[bx]? = some (.cells #[.int .u64 l.o, .int .u64 l.d, .int .u64 l.u, .int .u64 l.y] 67 (0, 0))) Nope) a wr := by
  obtain ⟨f, ha, hs⟩ := frKIS hf
  rw [(hs 0).trans h0, (hs 1).trans h1, (hs 9).trans h9] at ha
  clear hs hf h0 h1 h9
  subst ha
  refine piece2 fun J0 K0 hJ0 hK0 => ?_
  conv => arg 2; whnf
  have HL := Lib.hid hl
  clear hl
  go_wp2_with fail
  refine (sStat_yes B g s i l wr HI.out.sw HL.out).mono ?_
  rintro e w1 ⟨rfl, hb⟩
  rw [show statV l.o l.d l.u l.y = .agg #[.int .u64 l.o, .int .u64 l.d, .int .u64 l.u, .int .u64 l.y] from rfl]
  have hb2 : Below w1.heap.size w1 (w1.alloc (.cells #[.int .u64 l.o, .int .u64 l.d, .int .u64 l.u, .int .u64 l.y] 67)) := (Below.refl _ _).alloc (Nat.le_refl _) _
  have H1 : Hid (Iz w (w1.alloc (.cells #[.int .u64 l.o, .int .u64 l.d, .int .u64 l.u, .int .u64 l.y] 67)) B g s B2 g2 d ∧ (w1.alloc (.cells #[.int .u64 l.o, .int .u64 l.d, .int .u64 l.u, .int .u64 l.y] 67)).heap[w1.heap.size]? = some (.cells #[.int .u64 l.o, .int .u64 l.d, .int .u64 l.u, .int .u64 l.y] 67 (0, 0))) := ⟨(HI.out.past hb).past hb2, Blk_new _ _ _⟩
  clear hb hb2
  go_wp2_with fail
  refine Met.intro (hJ0 _ _ ?_)
  exact ⟨_, ⟨rfl, rfl⟩, rfl, rfl, rfl, rfl, H1.out⟩

theorem j9 (w wr : World) (B g : Nat) (s : Sh) (B2 g2 : Nat) (d : Ds) (HI : Hid (Iz w wr B g s B2 g2 d)) (i bx : Nat) (l : La) (y : Dl) (hy : d.ls[i]? = some y) (hab : y.ab = l.abs) (hi : i < d.n) (hn8 : d.n ≤ 8) (HB : Hid (wr.heap[bx]? = some (.cells #[.int .u64 l.o, .int .u64 l.d, .int .u64 l.u, .int .u64 l.y] 67 (0, 0)))) (a : Act) (hf : Fr 138 a) (h0 : sl a 0 = .pointer (some ⟨g, 0, none⟩)) (h1 : sl a 1 = .pointer (some ⟨g2, 0, none⟩)) (h9 : sl a 9 = .int .i64 (i : Int)) (h10 : sl a 10 = .pointer (some ⟨bx, 0, none⟩)) :
    Code.wp Try.prog (cAt [1,1,1,1,0,1,2,2,1,0,2,1,0,0] KIS) (Exit.then (fun a' w' => Fr 138 a' ∧ sl a' 0 = .pointer (some ⟨g, 0, none⟩) ∧ sl a' 1 = .pointer (some ⟨g2, 0, none⟩) ∧ sl a' 9 = .int .i64 (i : Int) ∧ sl a' 103 = .bool false ∧ Iz w w' B g s B2 g2 d) Nope) a wr := by
  obtain ⟨f, ha, hs⟩ := frKIS hf
  rw [(hs 0).trans h0, (hs 1).trans h1, (hs 9).trans h9, (hs 10).trans h10] at ha
  clear hs hf h0 h1 h9 h10
  subst ha
  refine piece2 fun J0 K0 hJ0 hK0 => ?_
  conv => arg 2; whnf
  obtain ⟨rs, hvs, hrs, _⟩ := HI.out.dw.ss.nth Dl.sl (by decide) hy
  have c3 := HI.out.dw.c3
  rw [hvs] at c3
  have e0 : y.ab.o = l.o := congrArg Ab.o hab
  have e1 : y.ab.d = l.d := congrArg Ab.d hab
  have e2 : y.ab.u = l.u := congrArg Ab.u hab
  have e3 : y.ab.y = l.y := congrArg Ab.y hab
  have HS0 : Hid (wr.cell? ⟨bx, 0, none⟩ = some (.int .u64 l.o) ∧ wr.cell? ⟨bx, 1, none⟩ = some (.int .u64 l.d) ∧ wr.cell? ⟨bx, 2, none⟩ = some (.int .u64 l.u) ∧ wr.cell? ⟨bx, 3, none⟩ = some (.int .u64 l.y) ∧ wr.cell? ⟨g2, 3, none⟩ = some (.slice (some ⟨rs, 0, none⟩) d.n d.cs) ∧ wr.cell? ⟨rs, i * 4, none⟩ = some (.int .u64 l.o) ∧ wr.cell? ⟨rs, i * 4 + 1, none⟩ = some (.int .u64 l.d) ∧ wr.cell? ⟨rs, i * 4 + 2, none⟩ = some (.int .u64 l.u) ∧ wr.cell? ⟨rs, i * 4 + 3, none⟩ = some (.int .u64 l.y)) := ⟨q4_0 HB.out, q4_1 HB.out, q4_2 HB.out, q4_3 HB.out, c3, by rw [← e0]; exact hrs 0 _ rfl, by rw [← e1]; exact hrs 1 _ rfl, by rw [← e2]; exact hrs 2 _ rfl, by rw [← e3]; exact hrs 3 _ rfl⟩
  have hi2 : (i : Int) < (d.n : Int) := by omega
  have hi0 : (0 : Int) ≤ (i : Int) := by omega
  have hck : (i : Int) < 1000 := by omega
  clear hvs hrs c3 e0 e1 e2 e3 hy hab hi hn8
  go_wp2_with fail
  have H0 := Lib.hid (HI.out.past (show Below wr.heap.size wr wr.drew from (Below.refl _ _).drew))
  have HS : Hid (wr.drew.cell? ⟨bx, 0, none⟩ = some (.int .u64 l.o) ∧ wr.drew.cell? ⟨bx, 1, none⟩ = some (.int .u64 l.d) ∧ wr.drew.cell? ⟨bx, 2, none⟩ = some (.int .u64 l.u) ∧ wr.drew.cell? ⟨bx, 3, none⟩ = some (.int .u64 l.y) ∧ wr.drew.cell? ⟨g2, 3, none⟩ = some (.slice (some ⟨rs, 0, none⟩) d.n d.cs) ∧ wr.drew.cell? ⟨rs, i * 4, none⟩ = some (.int .u64 l.o) ∧ wr.drew.cell? ⟨rs, i * 4 + 1, none⟩ = some (.int .u64 l.d) ∧ wr.drew.cell? ⟨rs, i * 4 + 2, none⟩ = some (.int .u64 l.u) ∧ wr.drew.cell? ⟨rs, i * 4 + 3, none⟩ = some (.int .u64 l.y)) := HS0.out
  refine wp_region_held_drew (S := fun w' => w'.cell? ⟨bx, 0, none⟩ = some (.int .u64 l.o) ∧ w'.cell? ⟨bx, 1, none⟩ = some (.int .u64 l.d) ∧ w'.cell? ⟨bx, 2, none⟩ = some (.int .u64 l.u) ∧ w'.cell? ⟨bx, 3, none⟩ = some (.int .u64 l.y) ∧ w'.cell? ⟨g2, 3, none⟩ = some (.slice (some ⟨rs, 0, none⟩) d.n d.cs) ∧ w'.cell? ⟨rs, i * 4, none⟩ = some (.int .u64 l.o) ∧ w'.cell? ⟨rs, i * 4 + 1, none⟩ = some (.int .u64 l.d) ∧ w'.cell? ⟨rs, i * 4 + 2, none⟩ = some (.int .u64 l.u) ∧ w'.cell? ⟨rs, i * 4 + 3, none⟩ = some (.int .u64 l.y)) (by kernel_rfl) HS.out (fun hS => ?_)
  refine tkD 0 87 (.pointer (some ⟨bx, 0, none⟩)) (fun w' h' => ?_) hS ?_
  · go_simp
  try simp only [Act.put, List.setIfInBounds_toArray, List.set_cons_zero, List.set_cons_succ]
  refine tkD 1 88 (.int .u64 l.o) (fun w' h' => ?_) hS ?_
  · have c0 := h'.1
    go_simp
  refine tkD 2 89 (.pointer (some ⟨bx, 1, none⟩)) (fun w' h' => ?_) hS ?_
  · go_simp
  try simp only [Act.put, List.setIfInBounds_toArray, List.set_cons_zero, List.set_cons_succ]
  refine tkD 3 90 (.int .u64 l.d) (fun w' h' => ?_) hS ?_
  · have c0 := h'.2.1
    go_simp
  refine tkD 4 91 (.pointer (some ⟨bx, 2, none⟩)) (fun w' h' => ?_) hS ?_
  · go_simp
  try simp only [Act.put, List.setIfInBounds_toArray, List.set_cons_zero, List.set_cons_succ]
  refine tkD 5 92 (.int .u64 l.u) (fun w' h' => ?_) hS ?_
  · have c0 := h'.2.2.1
    go_simp
  refine tkD 6 93 (.pointer (some ⟨bx, 3, none⟩)) (fun w' h' => ?_) hS ?_
  · go_simp
  try simp only [Act.put, List.setIfInBounds_toArray, List.set_cons_zero, List.set_cons_succ]
  refine tkD 7 94 (.int .u64 l.y) (fun w' h' => ?_) hS ?_
  · have c0 := h'.2.2.2.1
    go_simp
  refine tkD 8 95 (.agg #[.int .u64 l.o, .int .u64 l.d, .int .u64 l.u, .int .u64 l.y]) (fun w' h' => ?_) hS ?_
  · go_simp
  try simp only [Act.put, List.setIfInBounds_toArray, List.set_cons_zero, List.set_cons_succ]
  refine tkD 9 96 (.pointer (some ⟨g2, 0, none⟩)) (fun w' h' => ?_) hS ?_
  · go_simp
  refine tkD 10 97 (.pointer (some ⟨g2, 0, none⟩)) (fun w' h' => ?_) hS ?_
  · go_simp
  try simp only [Act.put, List.setIfInBounds_toArray, List.set_cons_zero, List.set_cons_succ]
  refine tkD 11 98 (.pointer (some ⟨g2, 3, none⟩)) (fun w' h' => ?_) hS ?_
  · go_simp
  refine tkD 12 99 (.slice (some ⟨rs, 0, none⟩) (d.n) (d.cs)) (fun w' h' => ?_) hS ?_
  · have c0 := h'.2.2.2.2.1
    go_simp
  try simp only [Act.put, List.setIfInBounds_toArray, List.set_cons_zero, List.set_cons_succ]
  refine tkD 13 100 (.int .i64 (i : Int)) (fun w' h' => ?_) hS ?_
  · go_simp
  refine tkD 14 101 (.pointer (some ⟨rs, i * 4, none⟩)) (fun w' h' => ?_) hS ?_
  · go_simp
  try simp only [Act.put, List.setIfInBounds_toArray, List.set_cons_zero, List.set_cons_succ]
  refine tkD 15 102 (.agg #[.int .u64 l.o, .int .u64 l.d, .int .u64 l.u, .int .u64 l.y]) (fun w' h' => ?_) hS ?_
  · have c0 := h'.2.2.2.2.2.1
    have c1 := h'.2.2.2.2.2.2.1
    have c2 := h'.2.2.2.2.2.2.2.1
    have c3 := h'.2.2.2.2.2.2.2.2
    go_simp
  refine tkD 16 103 (.bool false) (fun w' h' => ?_) hS ?_
  · go_simp
  refine wpAnyH_done (by kernel_rfl) ?_ _
  go_wp2_with fail
  refine Met.intro (hJ0 _ _ ?_)
  exact ⟨⟨rfl, rfl⟩, rfl, rfl, rfl, rfl, H0.out⟩

theorem j11 (wr : World) (g g2 i : Nat) (a : Act) (hf : Fr 138 a) (h0 : sl a 0 = .pointer (some ⟨g, 0, none⟩)) (h1 : sl a 1 = .pointer (some ⟨g2, 0, none⟩)) (h9 : sl a 9 = .int .i64 (i : Int)) :
    Code.wp Try.prog (cAt [1,1,1,1,0,1,2,2,1,0,2,1,1,0] KIS) (Exit.then (fun a' w' => Fr 138 a' ∧ sl a' 0 = .pointer (some ⟨g, 0, none⟩) ∧ sl a' 1 = .pointer (some ⟨g2, 0, none⟩) ∧ sl a' 9 = .int .i64 (i : Int) ∧ sl a' 11 = .int .i64 0 ∧ wr = w') Nope) a wr := by
  obtain ⟨f, ha, hs⟩ := frKIS hf
  rw [(hs 0).trans h0, (hs 1).trans h1, (hs 9).trans h9] at ha
  clear hs hf h0 h1 h9
  subst ha
  refine piece2 fun J0 K0 hJ0 hK0 => ?_
  conv => arg 2; whnf
  go_wp2_with fail
  refine Met.intro (hJ0 _ _ ?_)
  exact ⟨⟨rfl, rfl⟩, rfl, rfl, rfl, rfl, rfl⟩

theorem j12 (wr : World) (g g2 i t : Nat) (ht : t < 2) (a : Act) (hf : Fr 138 a) (h0 : sl a 0 = .pointer (some ⟨g, 0, none⟩)) (h1 : sl a 1 = .pointer (some ⟨g2, 0, none⟩)) (h9 : sl a 9 = .int .i64 (i : Int)) (h11 : sl a 11 = .int .i64 (t : Int)) :
    Code.wp Try.prog (cAt [1,1,1,1,0,1,2,2,1,0,2,1,1,1,2,2,0] KIS) (Exit.then (fun a' w' => Fr 138 a' ∧ sl a' 0 = .pointer (some ⟨g, 0, none⟩) ∧ sl a' 1 = .pointer (some ⟨g2, 0, none⟩) ∧ sl a' 9 = .int .i64 (i : Int) ∧ sl a' 11 = .int .i64 (t : Int) ∧ wr = w') Nope) a wr := by
  obtain ⟨f, ha, hs⟩ := frKIS hf
  rw [(hs 0).trans h0, (hs 1).trans h1, (hs 9).trans h9, (hs 11).trans h11] at ha
  clear hs hf h0 h1 h9 h11
  subst ha
  refine piece2 fun J0 K0 hJ0 hK0 => ?_
  conv => arg 2; whnf
  have ht2 : (t : Int) < 2 := by omega
  go_wp2_with fail
  refine Met.intro (hJ0 _ _ ?_)
  exact ⟨⟨rfl, rfl⟩, rfl, rfl, rfl, rfl, rfl⟩

theorem j12x (wr : World) (g g2 i t : Nat) (ht : ¬ t < 2) (a : Act) (hf : Fr 138 a) (h0 : sl a 0 = .pointer (some ⟨g, 0, none⟩)) (h1 : sl a 1 = .pointer (some ⟨g2, 0, none⟩)) (h9 : sl a 9 = .int .i64 (i : Int)) (h11 : sl a 11 = .int .i64 (t : Int)) :
    Code.wp Try.prog (cAt [1,1,1,1,0,1,2,2,1,0,2,1,1,1,2,2] KIS) (Outs 2 (fun a' w' => Fr 138 a' ∧ sl a' 0 = .pointer (some ⟨g, 0, none⟩) ∧ sl a' 1 = .pointer (some ⟨g2, 0, none⟩) ∧ sl a' 9 = .int .i64 (i : Int) ∧ wr = w')) a wr := by
  obtain ⟨f, ha, hs⟩ := frKIS hf
  rw [(hs 0).trans h0, (hs 1).trans h1, (hs 9).trans h9, (hs 11).trans h11] at ha
  clear hs hf h0 h1 h9 h11
  subst ha
  conv => arg 2; whnf
  have ht2 : ¬ (t : Int) < 2 := by omega
  go_wp2_with fail
  exact ⟨rfl, ⟨rfl, rfl⟩, rfl, rfl, rfl, rfl⟩

theorem j13 (wr : World) (g g2 i t : Nat) (hk : t < 1000000) (a : Act) (hf : Fr 138 a) (h0 : sl a 0 = .pointer (some ⟨g, 0, none⟩)) (h1 : sl a 1 = .pointer (some ⟨g2, 0, none⟩)) (h9 : sl a 9 = .int .i64 (i : Int)) (h11 : sl a 11 = .int .i64 (t : Int)) :
    Code.wp Try.prog (cAt [1,1,1,1,0,1,2,2,1,0,2,1,1,1,2,2,1,1] KIS) (Exit.then (fun a' w' => Fr 138 a' ∧ sl a' 0 = .pointer (some ⟨g, 0, none⟩) ∧ sl a' 1 = .pointer (some ⟨g2, 0, none⟩) ∧ sl a' 9 = .int .i64 (i : Int) ∧ sl a' 11 = .int .i64 ((t : Int) + 1) ∧ wr = w') Nope) a wr := by
  obtain ⟨f, ha, hs⟩ := frKIS hf
  rw [(hs 0).trans h0, (hs 1).trans h1, (hs 9).trans h9, (hs 11).trans h11] at ha
  clear hs hf h0 h1 h9 h11
  subst ha
  refine piece2 fun J0 K0 hJ0 hK0 => ?_
  conv => arg 2; whnf
  have hw : IntKind.i64.wrap ((t : Int) + 1) = (t : Int) + 1 := by rw [IntKind.wrap_i64]; omega
  go_wp2_with fail
  refine Met.intro (hJ0 _ _ ?_)
  exact ⟨⟨rfl, rfl⟩, rfl, rfl, rfl, rfl, rfl⟩

theorem j14 (w wr : World) (B g : Nat) (s : Sh) (B2 g2 : Nat) (d : Ds) (HI : Hid (Iz w wr B g s B2 g2 d)) (i t : Nat) (l : La) (hl : s.ls[i]? = some l) (a : Act) (hf : Fr 138 a) (h0 : sl a 0 = .pointer (some ⟨g, 0, none⟩)) (h1 : sl a 1 = .pointer (some ⟨g2, 0, none⟩)) (h9 : sl a 9 = .int .i64 (i : Int)) (h11 : sl a 11 = .int .i64 (t : Int)) :
    Code.wp Try.prog (cAt [1,1,1,1,0,1,2,2,1,0,2,1,1,1,2,2,1,0,2,0] KIS) (Exit.then (fun a' w' => ∃ v m vc ys, Fr 138 a' ∧ sl a' 0 = .pointer (some ⟨g, 0, none⟩) ∧ sl a' 1 = .pointer (some ⟨g2, 0, none⟩) ∧ sl a' 9 = .int .i64 (i : Int) ∧ sl a' 11 = .int .i64 (t : Int) ∧ sl a' 12 = .slice v m vc ∧ Iz w w' B g s B2 g2 d ∧ Below wr.heap.size wr w' ∧ Cps w' wr.heap.size v m vc ys ∧ ys.map Pi.it = l.q.L.map Pi.it) Nope) a wr := by
  obtain ⟨f, ha, hs⟩ := frKIS hf
  rw [(hs 0).trans h0, (hs 1).trans h1, (hs 9).trans h9, (hs 11).trans h11] at ha
  clear hs hf h0 h1 h9 h11
  subst ha
  refine piece2 fun J0 K0 hJ0 hK0 => ?_
  conv => arg 2; whnf
  have HL := Lib.hid hl
  clear hl
  go_wp2_with fail
  refine (sQueued_yes B g s i l wr HI.out.sw HL.out).mono ?_
  rintro e w1 ⟨hb, v, m, vc, ys, rfl, hcp, hm⟩
  have H1 : Hid (Iz w w1 B g s B2 g2 d ∧ Below wr.heap.size wr w1 ∧ Cps w1 wr.heap.size v m vc ys ∧ ys.map Pi.it = l.q.L.map Pi.it) := ⟨HI.out.past hb, hb, hcp, hm⟩
  clear hb hcp hm
  go_wp2_with fail
  refine Met.intro (hJ0 _ _ ?_)
  exact ⟨v, m, vc, ys, ⟨rfl, rfl⟩, rfl, rfl, rfl, rfl, rfl, H1.out⟩

theorem j15 (w wr : World) (B g : Nat) (s : Sh) (B2 g2 : Nat) (d : Ds) (HI : Hid (Iz w wr B g s B2 g2 d)) (i t : Nat) (y : Dl) (hy : d.ls[i]? = some y) (hi : i < d.n) (hn8 : d.n ≤ 8) (v : Option Addr) (m vc base : Nat) (ys : List Pi) (hcp : Cps wr base v m vc ys) (hyl : y.ab.A.l = ys.map Pi.it) (hat : ∀ z ∈ ys, z.at_ wr) (hm : m ≤ 65536) (hyn : y.n = m) (a : Act) (hf : Fr 138 a) (h0 : sl a 0 = .pointer (some ⟨g, 0, none⟩)) (h1 : sl a 1 = .pointer (some ⟨g2, 0, none⟩)) (h9 : sl a 9 = .int .i64 (i : Int)) (h11 : sl a 11 = .int .i64 (t : Int)) (h12 : sl a 12 = .slice v m vc) :
    Code.wp Try.prog (cAt [1,1,1,1,0,1,2,2,1,0,2,1,1,1,2,2,1,0,2,1,0,0] KIS) (Exit.then (fun a' w' => Fr 138 a' ∧ sl a' 0 = .pointer (some ⟨g, 0, none⟩) ∧ sl a' 1 = .pointer (some ⟨g2, 0, none⟩) ∧ sl a' 9 = .int .i64 (i : Int) ∧ sl a' 11 = .int .i64 (t : Int) ∧ sl a' 12 = .slice v m vc ∧ sl a' 121 = .bool false ∧ Below wr.heap.size wr w') Nope) a wr := by
  obtain ⟨f, ha, hs⟩ := frKIS hf
  rw [(hs 0).trans h0, (hs 1).trans h1, (hs 9).trans h9, (hs 11).trans h11, (hs 12).trans h12] at ha
  clear hs hf h0 h1 h9 h11 h12
  subst ha
  refine piece2 fun J0 K0 hJ0 hK0 => ?_
  conv => arg 2; whnf
  obtain ⟨rq, hvq, hrq, _⟩ := HI.out.dw.qs.nth Dl.ql (by decide) hy
  have c2 := HI.out.dw.c2
  rw [hvq] at c2
  have c0 : wr.cell? ⟨rq, i * 4, none⟩ = some (.slice y.a m y.c) := by rw [← hyn]; exact hrq 0 _ rfl
  have hrt := (HI.out.dw.its y (List.mem_of_getElem? hy)).1
  rw [hyl, hyn] at hrt
  have HC : Hid (Calls Try.prog 31 #[.slice v m vc, .slice y.a m y.c] wr (Yes wr)) := dSameItems_any base v m vc ys y.a y.c wr hcp.row hat hrt hm
  have hi2 : (i : Int) < (d.n : Int) := by omega
  have hi0 : (0 : Int) ≤ (i : Int) := by omega
  have hck : (i : Int) < 1000 := by omega
  clear hvq hrq hrt hcp hat hyl hm hyn hy hi hn8
  go_wp2_with fail
  refine HC.out.mono ?_
  rintro e w1 ⟨rfl, hb⟩
  have HB := Lib.hid hb
  clear hb
  go_wp2_with fail
  refine Met.intro (hJ0 _ _ ?_)
  exact ⟨⟨rfl, rfl⟩, rfl, rfl, rfl, rfl, rfl, rfl, HB.out⟩

theorem j17 (wr : World) (g g2 i t : Nat) (v : Option Addr) (m vc : Nat) (a : Act) (hf : Fr 138 a) (h0 : sl a 0 = .pointer (some ⟨g, 0, none⟩)) (h1 : sl a 1 = .pointer (some ⟨g2, 0, none⟩)) (h9 : sl a 9 = .int .i64 (i : Int)) (h11 : sl a 11 = .int .i64 (t : Int)) (h12 : sl a 12 = .slice v m vc) :
    Code.wp Try.prog (cAt [1,1,1,1,0,1,2,2,1,0,2,1,1,1,2,2,1,0,2,1,1,0] KIS) (Exit.then (fun a' w' => Fr 138 a' ∧ sl a' 0 = .pointer (some ⟨g, 0, none⟩) ∧ sl a' 1 = .pointer (some ⟨g2, 0, none⟩) ∧ sl a' 9 = .int .i64 (i : Int) ∧ sl a' 11 = .int .i64 (t : Int) ∧ sl a' 12 = .slice v m vc ∧ sl a' 13 = .int .i64 0 ∧ wr = w') Nope) a wr := by
  obtain ⟨f, ha, hs⟩ := frKIS hf
  rw [(hs 0).trans h0, (hs 1).trans h1, (hs 9).trans h9, (hs 11).trans h11, (hs 12).trans h12] at ha
  clear hs hf h0 h1 h9 h11 h12
  subst ha
  refine piece2 fun J0 K0 hJ0 hK0 => ?_
  conv => arg 2; whnf
  go_wp2_with fail
  refine Met.intro (hJ0 _ _ ?_)
  exact ⟨⟨rfl, rfl⟩, rfl, rfl, rfl, rfl, rfl, rfl, rfl⟩

theorem j18 (wr : World) (g g2 i t : Nat) (v : Option Addr) (m vc : Nat) (q : Nat) (hq : q < m) (a : Act) (hf : Fr 138 a) (h0 : sl a 0 = .pointer (some ⟨g, 0, none⟩)) (h1 : sl a 1 = .pointer (some ⟨g2, 0, none⟩)) (h9 : sl a 9 = .int .i64 (i : Int)) (h11 : sl a 11 = .int .i64 (t : Int)) (h12 : sl a 12 = .slice v m vc) (h13 : sl a 13 = .int .i64 (q : Int)) :
    Code.wp Try.prog (cAt [1,1,1,1,0,1,2,2,1,0,2,1,1,1,2,2,1,0,2,1,1,1,2,2,0] KIS) (Exit.then (fun a' w' => Fr 138 a' ∧ sl a' 0 = .pointer (some ⟨g, 0, none⟩) ∧ sl a' 1 = .pointer (some ⟨g2, 0, none⟩) ∧ sl a' 9 = .int .i64 (i : Int) ∧ sl a' 11 = .int .i64 (t : Int) ∧ sl a' 12 = .slice v m vc ∧ sl a' 13 = .int .i64 (q : Int) ∧ wr = w') Nope) a wr := by
  obtain ⟨f, ha, hs⟩ := frKIS hf
  rw [(hs 0).trans h0, (hs 1).trans h1, (hs 9).trans h9, (hs 11).trans h11, (hs 12).trans h12, (hs 13).trans h13] at ha
  clear hs hf h0 h1 h9 h11 h12 h13
  subst ha
  refine piece2 fun J0 K0 hJ0 hK0 => ?_
  conv => arg 2; whnf
  have hq2 : (q : Int) < (m : Int) := by omega
  go_wp2_with fail
  refine Met.intro (hJ0 _ _ ?_)
  exact ⟨⟨rfl, rfl⟩, rfl, rfl, rfl, rfl, rfl, rfl, rfl⟩

theorem j18x (wr : World) (g g2 i t : Nat) (v : Option Addr) (m vc : Nat) (q : Nat) (hq : ¬ q < m) (a : Act) (hf : Fr 138 a) (h0 : sl a 0 = .pointer (some ⟨g, 0, none⟩)) (h1 : sl a 1 = .pointer (some ⟨g2, 0, none⟩)) (h9 : sl a 9 = .int .i64 (i : Int)) (h11 : sl a 11 = .int .i64 (t : Int)) (h12 : sl a 12 = .slice v m vc) (h13 : sl a 13 = .int .i64 (q : Int)) :
    Code.wp Try.prog (cAt [1,1,1,1,0,1,2,2,1,0,2,1,1,1,2,2,1,0,2,1,1,1,2,2] KIS) (Outs 4 (fun a' w' => Fr 138 a' ∧ sl a' 0 = .pointer (some ⟨g, 0, none⟩) ∧ sl a' 1 = .pointer (some ⟨g2, 0, none⟩) ∧ sl a' 9 = .int .i64 (i : Int) ∧ sl a' 11 = .int .i64 (t : Int) ∧ wr = w')) a wr := by
  obtain ⟨f, ha, hs⟩ := frKIS hf
  rw [(hs 0).trans h0, (hs 1).trans h1, (hs 9).trans h9, (hs 11).trans h11, (hs 12).trans h12, (hs 13).trans h13] at ha
  clear hs hf h0 h1 h9 h11 h12 h13
  subst ha
  conv => arg 2; whnf
  have hq2 : ¬ (q : Int) < (m : Int) := by omega
  go_wp2_with fail
  exact ⟨rfl, ⟨rfl, rfl⟩, rfl, rfl, rfl, rfl, rfl⟩

theorem j19 (wr : World) (g g2 i t : Nat) (v : Option Addr) (m vc : Nat) (q : Nat) (hk : q < 1000000) (a : Act) (hf : Fr 138 a) (h0 : sl a 0 = .pointer (some ⟨g, 0, none⟩)) (h1 : sl a 1 = .pointer (some ⟨g2, 0, none⟩)) (h9 : sl a 9 = .int .i64 (i : Int)) (h11 : sl a 11 = .int .i64 (t : Int)) (h12 : sl a 12 = .slice v m vc) (h13 : sl a 13 = .int .i64 (q : Int)) :
    Code.wp Try.prog (cAt [1,1,1,1,0,1,2,2,1,0,2,1,1,1,2,2,1,0,2,1,1,1,2,2,1,1] KIS) (Exit.then (fun a' w' => Fr 138 a' ∧ sl a' 0 = .pointer (some ⟨g, 0, none⟩) ∧ sl a' 1 = .pointer (some ⟨g2, 0, none⟩) ∧ sl a' 9 = .int .i64 (i : Int) ∧ sl a' 11 = .int .i64 (t : Int) ∧ sl a' 12 = .slice v m vc ∧ sl a' 13 = .int .i64 ((q : Int) + 1) ∧ wr = w') Nope) a wr := by
  obtain ⟨f, ha, hs⟩ := frKIS hf
  rw [(hs 0).trans h0, (hs 1).trans h1, (hs 9).trans h9, (hs 11).trans h11, (hs 12).trans h12, (hs 13).trans h13] at ha
  clear hs hf h0 h1 h9 h11 h12 h13
  subst ha
  refine piece2 fun J0 K0 hJ0 hK0 => ?_
  conv => arg 2; whnf
  have hw : IntKind.i64.wrap ((q : Int) + 1) = (q : Int) + 1 := by rw [IntKind.wrap_i64]; omega
  go_wp2_with fail
  refine Met.intro (hJ0 _ _ ?_)
  exact ⟨⟨rfl, rfl⟩, rfl, rfl, rfl, rfl, rfl, rfl, rfl⟩

theorem j20 (wr : World) (g g2 i t r m vc q : Nat) (hq : q < m) (hm : m ≤ 65536) (p : Pi) (base : Nat) (HR : Hid (wr.rangeAt r (q * 3) p.cs)) (HO : Hid (Own wr base p.a p.n p.c p.d)) (hpn : p.n ≤ 1000000) (a : Act) (hf : Fr 138 a) (h0 : sl a 0 = .pointer (some ⟨g, 0, none⟩)) (h1 : sl a 1 = .pointer (some ⟨g2, 0, none⟩)) (h9 : sl a 9 = .int .i64 (i : Int)) (h11 : sl a 11 = .int .i64 (t : Int)) (h12 : sl a 12 = .slice (some ⟨r, 0, none⟩) m vc) (h13 : sl a 13 = .int .i64 (q : Int)) :
    Code.wp Try.prog (cAt [1,1,1,1,0,1,2,2,1,0,2,1,1,1,2,2,1,0,2,1,1,1,2,2,1,0,2,0] KIS) (Exit.then (fun a' w' => Fr 138 a' ∧ sl a' 0 = .pointer (some ⟨g, 0, none⟩) ∧ sl a' 1 = .pointer (some ⟨g2, 0, none⟩) ∧ sl a' 9 = .int .i64 (i : Int) ∧ sl a' 11 = .int .i64 (t : Int) ∧ sl a' 12 = .slice (some ⟨r, 0, none⟩) m vc ∧ sl a' 13 = .int .i64 (q : Int) ∧ Inc wr base p.a p.n p.c w') Nope) a wr := by
  obtain ⟨f, ha, hs⟩ := frKIS hf
  rw [(hs 0).trans h0, (hs 1).trans h1, (hs 9).trans h9, (hs 11).trans h11, (hs 12).trans h12, (hs 13).trans h13] at ha
  clear hs hf h0 h1 h9 h11 h12 h13
  subst ha
  refine piece2 fun J0 K0 hJ0 hK0 => ?_
  conv => arg 2; whnf
  have hq2 : (q : Int) < (m : Int) := by omega
  have hq0 : (0 : Int) ≤ (q : Int) := by omega
  have hqk : (q : Int) < 1000000 := by omega
  have c2 : wr.cell? ⟨r, q * 3 + 2, none⟩ = some (.slice p.a p.n p.c) := HR.out 2 _ rfl
  have HC : Hid (Calls Try.prog 32 #[.slice p.a p.n p.c] wr (fun e w' => e = .returned (.tuple #[]) ∧ Inc wr base p.a p.n p.c w')) := kSpoil_any base p.a p.n p.c p.d wr HO.out (by omega)
  go_wp2_with fail
  refine HC.out.mono ?_
  rintro e w1 ⟨rfl, hin⟩
  have HB := Lib.hid hin
  clear hin
  go_wp2_with fail
  refine Met.intro (hJ0 _ _ ?_)
  exact ⟨⟨rfl, rfl⟩, rfl, rfl, rfl, rfl, rfl, rfl, HB.out⟩

theorem j21 (wr : World) (g g2 i t r m vc q : Nat) (hq : q < m) (hm : m ≤ 65536) (HT : Hid (wr.there r (q * 3) 3)) (a : Act) (hf : Fr 138 a) (h0 : sl a 0 = .pointer (some ⟨g, 0, none⟩)) (h1 : sl a 1 = .pointer (some ⟨g2, 0, none⟩)) (h9 : sl a 9 = .int .i64 (i : Int)) (h11 : sl a 11 = .int .i64 (t : Int)) (h12 : sl a 12 = .slice (some ⟨r, 0, none⟩) m vc) (h13 : sl a 13 = .int .i64 (q : Int)) :
    Code.wp Try.prog (cAt [1,1,1,1,0,1,2,2,1,0,2,1,1,1,2,2,1,0,2,1,1,1,2,2,1,0,2,1] KIS) (Exit.then (fun a' w' => Fr 138 a' ∧ sl a' 0 = .pointer (some ⟨g, 0, none⟩) ∧ sl a' 1 = .pointer (some ⟨g2, 0, none⟩) ∧ sl a' 9 = .int .i64 (i : Int) ∧ sl a' 11 = .int .i64 (t : Int) ∧ sl a' 12 = .slice (some ⟨r, 0, none⟩) m vc ∧ sl a' 13 = .int .i64 (q : Int) ∧ wr.setCells r (q * 3) pz.cs = w') Nope) a wr := by
  obtain ⟨f, ha, hs⟩ := frKIS hf
  rw [(hs 0).trans h0, (hs 1).trans h1, (hs 9).trans h9, (hs 11).trans h11, (hs 12).trans h12, (hs 13).trans h13] at ha
  clear hs hf h0 h1 h9 h11 h12 h13
  subst ha
  refine piece2 fun J0 K0 hJ0 hK0 => ?_
  conv => arg 2; whnf
  have hq2 : (q : Int) < (m : Int) := by omega
  have hq0 : (0 : Int) ≤ (q : Int) := by omega
  have hqk : (q : Int) < 1000000 := by omega
  go_wp2_with (first | (refine wpList_store_mid rfl 40 (.tmp 137) (.tmp 136) rfl r (q * 3) #[.int .u64 0, .int .i64 0, .slice none 0 0] rfl rfl HT.out infFI3 (by simp [Value.oneCell']) ?_) | fail)
  refine Met.intro (hJ0 _ _ ?_)
  exact ⟨⟨rfl, rfl⟩, rfl, rfl, rfl, rfl, rfl, rfl, rfl⟩

theorem is_spoil (W0 wr : World) (g g2 i t r m vc q : Nat) (ys : List Pi) (p : Pi) (hp : ys[q]? = some p) (hV : Iq W0 wr (some ⟨r, 0, none⟩) m vc ys q) (hap : ys.Pairwise (fun o p => ∀ k, blk o.a = some k → blk p.a ≠ some k)) (hq : q < m) (hm : m ≤ 65536) (hpn : p.n ≤ 1000000) (a : Act) (hf : Fr 138 a) (h0 : sl a 0 = .pointer (some ⟨g, 0, none⟩)) (h1 : sl a 1 = .pointer (some ⟨g2, 0, none⟩)) (h9 : sl a 9 = .int .i64 (i : Int)) (h11 : sl a 11 = .int .i64 (t : Int)) (h12 : sl a 12 = .slice (some ⟨r, 0, none⟩) m vc) (h13 : sl a 13 = .int .i64 (q : Int)) :
    Code.wp Try.prog (cAt [1,1,1,1,0,1,2,2,1,0,2,1,1,1,2,2,1,0,2,1,1,1,2,2,1] KIS) (Exit.then (fun a' w' => Fr 138 a' ∧ sl a' 0 = .pointer (some ⟨g, 0, none⟩) ∧ sl a' 1 = .pointer (some ⟨g2, 0, none⟩) ∧ sl a' 9 = .int .i64 (i : Int) ∧ sl a' 11 = .int .i64 (t : Int) ∧ sl a' 12 = .slice (some ⟨r, 0, none⟩) m vc ∧ sl a' 13 = .int .i64 ((q : Int) + 1) ∧ Iq W0 w' (some ⟨r, 0, none⟩) m vc ys (q + 1)) Nope) a wr := by
  obtain ⟨r', e, hrg, cur, hcur⟩ := hV.at_ hp
  cases e
  refine wp_sqR (x := (cAt [1,1,1,1,0,1,2,2,1,0,2,1,1,1,2,2,1,0,2,1,1,1,2,2,1,0] KIS)) (y := (cAt [1,1,1,1,0,1,2,2,1,0,2,1,1,1,2,2,1,0,2,1,1,1,2,2,1,1] KIS)) (R := fun a' w' => Fr 138 a' ∧ sl a' 0 = .pointer (some ⟨g, 0, none⟩) ∧ sl a' 1 = .pointer (some ⟨g2, 0, none⟩) ∧ sl a' 9 = .int .i64 (i : Int) ∧ sl a' 11 = .int .i64 (t : Int) ∧ sl a' 12 = .slice (some ⟨r, 0, none⟩) m vc ∧ sl a' 13 = .int .i64 (q : Int) ∧ Iq W0 w' (some ⟨r, 0, none⟩) m vc ys (q + 1)) (by kernel_rfl) ?_ ?_
  · refine wp_blockR (x := (cAt [1,1,1,1,0,1,2,2,1,0,2,1,1,1,2,2,1,0,2,1,1,1,2,2,1,0,2] KIS)) (id := 5) (by kernel_rfl) ?_
    refine tkDq (j20 wr g g2 i t r m vc q hq hm p W0.heap.size hrg (hV.data q p (Nat.le_refl _) hp) hpn a hf h0 h1 h9 h11 h12 h13) ?_
    rintro a1 w1 ⟨hf, h0, h1, h9, h11, h12, h13, hin⟩
    obtain ⟨hst, hth⟩ := hV.step hap hp hin
    refine wp_endR (j21 w1 g g2 i t r m vc q hq hm hth a1 hf h0 h1 h9 h11 h12 h13) ?_
    rintro a2 _ ⟨hf, h0, h1, h9, h11, h12, h13, rfl⟩
    exact ⟨hf, h0, h1, h9, h11, h12, h13, hst⟩
  rintro a1 w1 ⟨hf, h0, h1, h9, h11, h12, h13, hst⟩
  refine wp_endR (j19 w1 g g2 i t _ m vc q (by omega) a1 hf h0 h1 h9 h11 h12 h13) ?_
  rintro a2 _ ⟨hf, h0, h1, h9, h11, h12, h13, rfl⟩
  exact ⟨hf, h0, h1, h9, h11, h12, h13, hst⟩
theorem is_turn (w wr : World) (B g : Nat) (s : Sh) (B2 g2 : Nat) (d : Ds) (HI : Iz w wr B g s B2 g2 d) (i t : Nat) (l : La) (hl : s.ls[i]? = some l) (y : Dl) (hy : d.ls[i]? = some y) (hab : y.ab = l.abs) (hi : i < d.n) (hn8 : d.n ≤ 8) (ht : t < 2) (a : Act) (hf : Fr 138 a) (h0 : sl a 0 = .pointer (some ⟨g, 0, none⟩)) (h1 : sl a 1 = .pointer (some ⟨g2, 0, none⟩)) (h9 : sl a 9 = .int .i64 (i : Int)) (h11 : sl a 11 = .int .i64 (t : Int)) :
    Code.wp Try.prog (cAt [1,1,1,1,0,1,2,2,1,0,2,1,1,1,2,2,1] KIS) (Exit.then (fun a' w' => Fr 138 a' ∧ sl a' 0 = .pointer (some ⟨g, 0, none⟩) ∧ sl a' 1 = .pointer (some ⟨g2, 0, none⟩) ∧ sl a' 9 = .int .i64 (i : Int) ∧ sl a' 11 = .int .i64 ((t : Int) + 1) ∧ Iz w w' B g s B2 g2 d) Nope) a wr := by
  refine wp_sqR (x := (cAt [1,1,1,1,0,1,2,2,1,0,2,1,1,1,2,2,1,0] KIS)) (y := (cAt [1,1,1,1,0,1,2,2,1,0,2,1,1,1,2,2,1,1] KIS)) (R := fun a' w' => Fr 138 a' ∧ sl a' 0 = .pointer (some ⟨g, 0, none⟩) ∧ sl a' 1 = .pointer (some ⟨g2, 0, none⟩) ∧ sl a' 9 = .int .i64 (i : Int) ∧ sl a' 11 = .int .i64 (t : Int) ∧ Iz w w' B g s B2 g2 d) (by kernel_rfl) ?_ ?_
  · refine wp_blockR (x := (cAt [1,1,1,1,0,1,2,2,1,0,2,1,1,1,2,2,1,0,2] KIS)) (id := 3) (by kernel_rfl) ?_
    refine tkDq (j14 w wr B g s B2 g2 d HI i t l hl a hf h0 h1 h9 h11) ?_
    rintro a1 w1 ⟨v, m, vc, ys, hf, h0, h1, h9, h11, h12, hI1, hb1, hcp, hm⟩
    have hql := (HI.sw.lws l (List.mem_of_getElem? hl)).qu
    have hyl : y.ab.A.l = ys.map Pi.it := by rw [hab, hm]; rfl
    have hat := cps_at hcp hm (fun x hx => (hI1.sw.lws l (List.mem_of_getElem? hl)).qu.x hx)
    have hlen := hcp.len
    have hm6 : m ≤ 65536 := by
      have h1 := congrArg List.length hm
      simp only [List.length_map] at h1
      have h2 := hql.ok.le
      have h3 := hql.ok.mI
      have h4 := hql.ok.I1
      omega
    have hyn : y.n = m := by
      have h1 := (hI1.dw.its y (List.mem_of_getElem? hy)).1.len
      rw [hyl, List.length_map] at h1
      omega
    refine wp_sqR (x := (cAt [1,1,1,1,0,1,2,2,1,0,2,1,1,1,2,2,1,0,2,1,0] KIS)) (y := (cAt [1,1,1,1,0,1,2,2,1,0,2,1,1,1,2,2,1,0,2,1,1] KIS)) (R := fun a' w' => Fr 138 a' ∧ sl a' 0 = .pointer (some ⟨g, 0, none⟩) ∧ sl a' 1 = .pointer (some ⟨g2, 0, none⟩) ∧ sl a' 9 = .int .i64 (i : Int) ∧ sl a' 11 = .int .i64 (t : Int) ∧ sl a' 12 = .slice v m vc ∧ Below w1.heap.size w1 w') (by kernel_rfl) ?_ ?_
    · refine tkDq (j15 w w1 B g s B2 g2 d hI1 i t y hy hi hn8 v m vc wr.heap.size ys hcp hyl hat hm6 hyn a1 hf h0 h1 h9 h11 h12) ?_
      rintro a2 w2 ⟨hf, h0, h1, h9, h11, h12, h121, hb2⟩
      refine wp_onF (A := (cAt [1,1,1,1,0,1,2,2,1,0,2,1,1,1,2,2,1,0,2,1,0,1,3] KIS)) (B := (cAt [1,1,1,1,0,1,2,2,1,0,2,1,1,1,2,2,1,0,2,1,0,1,4] KIS)) (by kernel_rfl) h121 ?_
      exact wp_skipR (by kernel_rfl) ⟨hf, h0, h1, h9, h11, h12, hb2⟩
    rintro a2 w2 ⟨hf, h0, h1, h9, h11, h12, hb2⟩
    have hV2 : Iq wr w2 v m vc ys 0 := Iq.past ⟨hb1, ⟨ys, rfl, hcp.row, fun _ _ => rfl⟩, fun j p _ hp => hcp.data _ (List.mem_of_getElem? hp)⟩ hb2
    refine tkDq (j17 w2 g g2 i t v m vc a2 hf h0 h1 h9 h11 h12) ?_
    rintro a3 _ ⟨hf, h0, h1, h9, h11, h12, h13, rfl⟩
    refine wp_blockR (x := (cAt [1,1,1,1,0,1,2,2,1,0,2,1,1,1,2,2,1,0,2,1,1,1,2] KIS)) (id := 4) (by kernel_rfl) ?_
    refine wp_loopR (x := (cAt [1,1,1,1,0,1,2,2,1,0,2,1,1,1,2,2,1,0,2,1,1,1,2,2] KIS)) (by kernel_rfl) (fun a' w' => ∃ q : Nat, q ≤ m ∧ Iq wr w' v m vc ys q ∧ Fr 138 a' ∧ sl a' 0 = .pointer (some ⟨g, 0, none⟩) ∧ sl a' 1 = .pointer (some ⟨g2, 0, none⟩) ∧ sl a' 9 = .int .i64 (i : Int) ∧ sl a' 11 = .int .i64 (t : Int) ∧ sl a' 12 = .slice v m vc ∧ sl a' 13 = .int .i64 (q : Int)) (fun a' _ => m - (intOf (sl a' 13)).toNat) ⟨0, Nat.zero_le _, hV2, hf, h0, h1, h9, h11, h12, h13⟩ ?_
    rintro a4 w4 ⟨q, hq, hV, hf, h0, h1, h9, h11, h12, h13⟩
    by_cases hlt : q < m
    · obtain ⟨p, hp⟩ : ∃ p, ys[q]? = some p := ⟨_, List.getElem?_eq_getElem (by omega)⟩
      obtain ⟨r, hv, _⟩ := hV.at_ hp
      have h13o := h13
      refine tkDq (j18 w4 g g2 i t v m vc q hlt a4 hf h0 h1 h9 h11 h12 h13) ?_
      rintro a5 _ ⟨hf, h0, h1, h9, h11, h12, h13, rfl⟩
      rw [hv] at h12 hV
      refine wp_endR (is_spoil wr w4 g g2 i t r m vc q ys p hp hV hcp.apart hlt hm6 (hat p (List.mem_of_getElem? hp)).few a5 hf h0 h1 h9 h11 h12 h13) ?_
      rintro a6 w6 ⟨hf, h0, h1, h9, h11, h12, h13', hV6⟩
      rw [← hv] at h12 hV6
      refine ⟨⟨q + 1, hlt, hV6, hf, h0, h1, h9, h11, h12, h13'⟩, ?_⟩
      rw [h13o, h13']
      simp only [intOf]
      omega
    · refine wp_endX (j18x w4 g g2 i t v m vc q hlt a4 hf h0 h1 h9 h11 h12 h13) ?_
      rintro a5 _ ⟨hf, h0, h1, h9, h11, rfl⟩
      exact thru ⟨hf, h0, h1, h9, h11, HI.past hV.below⟩
  rintro a1 w1 ⟨hf, h0, h1, h9, h11, hI⟩
  refine wp_endR (j13 w1 g g2 i t (by omega) a1 hf h0 h1 h9 h11) ?_
  rintro a2 _ ⟨hf, h0, h1, h9, h11, rfl⟩
  exact ⟨hf, h0, h1, h9, h11, hI⟩
theorem is_class (w wr : World) (B g : Nat) (s : Sh) (B2 g2 : Nat) (d : Ds) (HI : Iz w wr B g s B2 g2 d) (i : Nat) (l : La) (hl : s.ls[i]? = some l) (y : Dl) (hy : d.ls[i]? = some y) (hab : y.ab = l.abs) (hi : i < d.n) (hn8 : d.n ≤ 8) (a : Act) (hf : Fr 138 a) (h0 : sl a 0 = .pointer (some ⟨g, 0, none⟩)) (h1 : sl a 1 = .pointer (some ⟨g2, 0, none⟩)) (h9 : sl a 9 = .int .i64 (i : Int)) :
    Code.wp Try.prog (cAt [1,1,1,1,0,1,2,2,1] KIS) (Exit.then (fun a' w' => Fr 138 a' ∧ sl a' 0 = .pointer (some ⟨g, 0, none⟩) ∧ sl a' 1 = .pointer (some ⟨g2, 0, none⟩) ∧ sl a' 9 = .int .i64 ((i : Int) + 1) ∧ Iz w w' B g s B2 g2 d) Nope) a wr := by
  refine wp_sqR (x := (cAt [1,1,1,1,0,1,2,2,1,0] KIS)) (y := (cAt [1,1,1,1,0,1,2,2,1,1] KIS)) (R := fun a' w' => Fr 138 a' ∧ sl a' 0 = .pointer (some ⟨g, 0, none⟩) ∧ sl a' 1 = .pointer (some ⟨g2, 0, none⟩) ∧ sl a' 9 = .int .i64 (i : Int) ∧ Iz w w' B g s B2 g2 d) (by kernel_rfl) ?_ ?_
  · refine wp_blockR (x := (cAt [1,1,1,1,0,1,2,2,1,0,2] KIS)) (id := 1) (by kernel_rfl) ?_
    refine tkDq (j8 w wr B g s B2 g2 d HI i l hl a hf h0 h1 h9) ?_
    rintro a1 w1 ⟨bx, hf, h0, h1, h9, h10, hI1, hbx⟩
    refine wp_sqR (x := (cAt [1,1,1,1,0,1,2,2,1,0,2,1,0] KIS)) (y := (cAt [1,1,1,1,0,1,2,2,1,0,2,1,1] KIS)) (R := fun a' w' => Fr 138 a' ∧ sl a' 0 = .pointer (some ⟨g, 0, none⟩) ∧ sl a' 1 = .pointer (some ⟨g2, 0, none⟩) ∧ sl a' 9 = .int .i64 (i : Int) ∧ Iz w w' B g s B2 g2 d) (by kernel_rfl) ?_ ?_
    · refine tkDq (j9 w w1 B g s B2 g2 d hI1 i bx l y hy hab hi hn8 hbx a1 hf h0 h1 h9 h10) ?_
      rintro a2 w2 ⟨hf, h0, h1, h9, h103, hI2⟩
      refine wp_onF (A := (cAt [1,1,1,1,0,1,2,2,1,0,2,1,0,1,3] KIS)) (B := (cAt [1,1,1,1,0,1,2,2,1,0,2,1,0,1,4] KIS)) (by kernel_rfl) h103 ?_
      exact wp_skipR (by kernel_rfl) ⟨hf, h0, h1, h9, hI2⟩
    rintro a2 w2 ⟨hf, h0, h1, h9, hI2⟩
    refine tkDq (j11 w2 g g2 i a2 hf h0 h1 h9) ?_
    rintro a3 _ ⟨hf, h0, h1, h9, h11, rfl⟩
    refine wp_blockR (x := (cAt [1,1,1,1,0,1,2,2,1,0,2,1,1,1,2] KIS)) (id := 2) (by kernel_rfl) ?_
    refine wp_loopR (x := (cAt [1,1,1,1,0,1,2,2,1,0,2,1,1,1,2,2] KIS)) (by kernel_rfl) (fun a' w' => ∃ t : Nat, t ≤ 2 ∧ Iz w w' B g s B2 g2 d ∧ Fr 138 a' ∧ sl a' 0 = .pointer (some ⟨g, 0, none⟩) ∧ sl a' 1 = .pointer (some ⟨g2, 0, none⟩) ∧ sl a' 9 = .int .i64 (i : Int) ∧ sl a' 11 = .int .i64 (t : Int)) (fun a' _ => 2 - (intOf (sl a' 11)).toNat) ⟨0, Nat.zero_le _, hI2, hf, h0, h1, h9, h11⟩ ?_
    rintro a4 w4 ⟨t, ht, hI4, hf, h0, h1, h9, h11⟩
    by_cases hlt : t < 2
    · have h11o := h11
      refine tkDq (j12 w4 g g2 i t hlt a4 hf h0 h1 h9 h11) ?_
      rintro a5 _ ⟨hf, h0, h1, h9, h11, rfl⟩
      refine wp_endR (is_turn w w4 B g s B2 g2 d hI4 i t l hl y hy hab hi hn8 hlt a5 hf h0 h1 h9 h11) ?_
      rintro a6 w6 ⟨hf, h0, h1, h9, h11', hI6⟩
      refine ⟨⟨t + 1, hlt, hI6, hf, h0, h1, h9, h11'⟩, ?_⟩
      rw [h11o, h11']
      simp only [intOf]
      omega
    · refine wp_endX (j12x w4 g g2 i t hlt a4 hf h0 h1 h9 h11) ?_
      rintro a5 _ ⟨hf, h0, h1, h9, rfl⟩
      exact thru ⟨hf, h0, h1, h9, hI4⟩
  rintro a1 w1 ⟨hf, h0, h1, h9, hI⟩
  refine wp_endR (j7 w1 g g2 i (by omega) a1 hf h0 h1 h9) ?_
  rintro a2 _ ⟨hf, h0, h1, h9, rfl⟩
  exact ⟨hf, h0, h1, h9, hI⟩
theorem j22 (wr : World) (R : Ending → World → Prop) (HR : R (.returned (.bool true)) wr) (a : Act) (hf : Fr 138 a) :
    Code.wp Try.prog (cAt [1,1,1,1,1] KIS) (bodyPost Try.prog Try.f13 R) a wr := by
  have H := Lib.hid HR
  clear HR
  obtain ⟨f, ha, hs⟩ := frKIS hf
  clear hs hf 
  subst ha
  conv => arg 2; whnf
  go_wp2_with fail
  exact H.out
theorem sis_any (B g : Nat) (s : Sh) (B2 g2 : Nat) (d : Ds) (w : World) (h : Sw w B g s) (h2 : Dw w B2 g2 d) (h1 : 1 ≤ s.n) (hT : d.T = s.T) (hn : d.n = s.n) (hab : d.abs = s.abs) (hok : Oks s.abs s.T) :
    Calls Try.prog 13 #[.pointer (some ⟨g, 0, none⟩), .pointer (some ⟨g2, 0, none⟩)] w (Yes w) := by
  have hn8 : d.n ≤ 8 := by have := h.le; omega
  have hlane : ∀ i, i < d.n → ∃ l y, s.ls[i]? = some l ∧ d.ls[i]? = some y ∧ y.ab = l.abs := fun i hi => by
    obtain ⟨l, hl⟩ : ∃ l, s.ls[i]? = some l := ⟨_, List.getElem?_eq_getElem (by have := h.len; omega)⟩
    obtain ⟨y, hy⟩ : ∃ y, d.ls[i]? = some y := ⟨_, List.getElem?_eq_getElem (by have := h2.len; omega)⟩
    refine ⟨l, y, hl, hy, ?_⟩
    have e := congrArg (fun q => q[i]?) hab
    simp only [Ds.abs, Sh.abs, List.getElem?_map, hl, hy] at e
    simpa using e
  have hdok : ∀ x ∈ d.ls, x.ab.ok d.T := fun x hx => by
    rw [hT]
    refine hok _ ?_
    rw [← hab]
    exact List.mem_map.2 ⟨x, hx, rfl⟩
  refine calls_of_wp (c := KIS) Try.func13 (by kernel_rfl) ?_
  have hf0 : Fr 138 { tmps := #[.pointer (some ⟨g, 0, none⟩), .pointer (some ⟨g2, 0, none⟩)] ++ Array.replicate (Try.f13.ntmps - (#[.pointer (some ⟨g, 0, none⟩), .pointer (some ⟨g2, 0, none⟩)] : Array Value).size) undef, defers := [] } := ⟨rfl, by simp [Try.ntmps13]⟩
  refine wp_sqR (x := (cAt [0] KIS)) (y := (cAt [1] KIS)) (by kernel_rfl) (j0 w g g2 _ hf0 (sl_at _ _ 0 _ rfl) (sl_at _ _ 1 _ rfl)) ?_
  rintro a1 _ ⟨hf, h0, h1', rfl⟩
  have hI0 : Iz w w B g s B2 g2 d := ⟨h, h2, Below.refl _ _⟩
  refine tkDq (j1 w w B g s B2 g2 d hI0 h1 a1 hf h0 h1') ?_
  rintro a2 w2 ⟨hf, h0, h1', h5, h6, hI2⟩
  refine tkDq (j2 w w2 B g s B2 g2 d hI2 _ _ hdok hn8 a2 hf h0 h1' h5 h6) ?_
  rintro a3 w3 ⟨hf, h0, h1', h5, h6, h7, h8, hI3⟩
  rw [hT, hab] at h7 h8
  refine wp_sqR (x := (cAt [1,1,1,0] KIS)) (y := (cAt [1,1,1,1] KIS)) (R := fun a' w' => Fr 138 a' ∧ sl a' 0 = .pointer (some ⟨g, 0, none⟩) ∧ sl a' 1 = .pointer (some ⟨g2, 0, none⟩) ∧ Iz w w' B g s B2 g2 d) (by kernel_rfl) ?_ ?_
  · refine tkDq (j3 w w3 B g s B2 g2 d hI3 _ _ hT hn a3 hf h0 h1' h5 h6 h7 h8) ?_
    rintro a4 w4 ⟨hf, h0, h1', h74, hI4⟩
    refine wp_onF (A := (cAt [1,1,1,0,1,3] KIS)) (B := (cAt [1,1,1,0,1,4] KIS)) (by kernel_rfl) h74 ?_
    exact wp_skipR (by kernel_rfl) ⟨hf, h0, h1', hI4⟩
  rintro a4 w4 ⟨hf, h0, h1', hI4⟩
  refine wp_sqR (x := (cAt [1,1,1,1,0] KIS)) (y := (cAt [1,1,1,1,1] KIS)) (R := fun a' w' => Fr 138 a' ∧ Iz w w' B g s B2 g2 d) (by kernel_rfl) ?_ ?_
  · refine tkDq (j5 w4 g g2 a4 hf h0 h1') ?_
    rintro a5 _ ⟨hf, h0, h1', h9, rfl⟩
    refine wp_blockR (x := (cAt [1,1,1,1,0,1,2] KIS)) (id := 0) (by kernel_rfl) ?_
    refine wp_loopR (x := (cAt [1,1,1,1,0,1,2,2] KIS)) (by kernel_rfl) (fun a' w' => ∃ i : Nat, i ≤ d.n ∧ Iz w w' B g s B2 g2 d ∧ Fr 138 a' ∧ sl a' 0 = .pointer (some ⟨g, 0, none⟩) ∧ sl a' 1 = .pointer (some ⟨g2, 0, none⟩) ∧ sl a' 9 = .int .i64 (i : Int)) (fun a' _ => d.n - (intOf (sl a' 9)).toNat) ⟨0, Nat.zero_le _, hI4, hf, h0, h1', h9⟩ ?_
    rintro a6 w6 ⟨i, hi, hI6, hf, h0, h1', h9⟩
    by_cases hlt : i < d.n
    · obtain ⟨l, y, hl, hy, hyl⟩ := hlane i hlt
      have h9o := h9
      refine tkDq (j6 w w6 B g s B2 g2 d hI6 i hlt a6 hf h0 h1' h9) ?_
      rintro a7 _ ⟨hf, h0, h1', h9, rfl⟩
      refine wp_endR (is_class w w6 B g s B2 g2 d hI6 i l hl y hy hyl hlt hn8 a7 hf h0 h1' h9) ?_
      rintro a8 w8 ⟨hf, h0, h1', h9', hI8⟩
      refine ⟨⟨i + 1, hlt, hI8, hf, h0, h1', h9'⟩, ?_⟩
      rw [h9o, h9']
      simp only [intOf]
      omega
    · refine wp_endX (j6x w w6 B g s B2 g2 d hI6 i hlt a6 hf h0 h1' h9) ?_
      rintro a7 _ ⟨hf, _, _, rfl⟩
      exact thru ⟨hf, hI6⟩
  rintro a5 w5 ⟨hf, hI5⟩
  exact j22 w5 _ ⟨rfl, hI5.below⟩ a5 hf
end Go.Proofs.Ytpigpeehhadkjaa

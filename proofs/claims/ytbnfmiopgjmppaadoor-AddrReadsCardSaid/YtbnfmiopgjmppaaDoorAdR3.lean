/-
  The contract of the document's own Cuts. Condition: a text of at most 1000 bytes.
-/
import Derived.Test.YtbnfmiopgjmppaaDoorAdR2
import Derived.StillTailTactics
namespace Go.Proofs.YtbnfmiopgjmppaaDoor
open Go.RowKit

/-- A row of texts of the call's own. -/
def OwnT (w : World) (base : Nat) (a : Option Addr) (n c : Nat) (ls : List Tx) : Prop := OwnG w base 9 1 a n c (ls.map sv)
theorem str_info : (Tryd.prog.info? 9).map (fun i => (i.zero, i.size, i.bytes)) = some (some (.string ⟨#[]⟩), 1, 16) := by kernel_rfl
theorem OwnT.len {w : World} {base : Nat} {a : Option Addr} {n c : Nat} {ls : List Tx} (h : OwnT w base a n c ls) : ls.length = n := by
  have := h.1
  simpa using this
theorem OwnT.at_ {w : World} {base : Nat} {a : Option Addr} {n c : Nat} {ls : List Tx} (h : OwnT w base a n c ls) {i : Nat} {x : Tx} (hx : ls[i]? = some x) : ∃ g, a = some ⟨g, 0, none⟩ ∧ w.cell? ⟨g, i, none⟩ = some (sv x) ∧ w.frozen? ⟨g, i, none⟩ = false := by
  have hne : ls ≠ [] := by rintro rfl; simp at hx
  rcases OwnG.cases h with ⟨_, _, _, h0⟩ | ⟨g, cur, rfl, _, hg, _, _, _, _⟩
  · simp at h0; exact absurd h0 hne
  · obtain ⟨g', e, hc⟩ := OwnG.cell h (by simpa using hne)
    simp only [Option.some.injEq, Addr.mk.injEq, and_true] at e
    subst e
    refine ⟨g, rfl, ?_, frozen_of_row w g i cur _ hg⟩
    have := hc i (sv x) (by simp [hx])
    rwa [Nat.zero_add] at this
theorem OwnT.set {w : World} {base g n c : Nat} {ls : List Tx} (h : OwnT w base (some ⟨g, 0, none⟩) n c ls) (j : Nat) (x : Tx) : OwnT (w.setCell ⟨g, j, none⟩ (sv x)) base (some ⟨g, 0, none⟩) n c (ls.set j x) := by
  have h1 : OwnG w base 9 1 (some ⟨g, 0, none⟩) n c (ls.map sv) := h
  have h2 := (h1.stored j (sv x)).1
  unfold OwnT
  rw [List.map_set]
  exact h2
/-- What is cut so far. -/
def CutS (c : UInt8) (l : Tx) (k : Nat) (done : List Tx) (cur : Tx) : Prop := cuts c l = done ++ cuts c (cur ++ l.drop k) ∧ c ∉ cur ∧ cur.length ≤ k
theorem cuts_more (c : UInt8) : ∀ (x l : Tx) (b : UInt8), c ∉ x → b ≠ c → cuts c (x ++ b :: l) = cuts c ((x ++ [b]) ++ l) := by
  intro x l b _ _
  simp
theorem CutS.sign {c : UInt8} {l : Tx} {k : Nat} {done : List Tx} {cur : Tx} (h : CutS c l k done cur) (hk : l[k]? = some c) : CutS c l (k + 1) (done ++ [cur]) [] := by
  obtain ⟨h1, h2, h3⟩ := h
  have hd : l.drop k = c :: l.drop (k + 1) := by
    have hl := (List.getElem?_eq_some_iff.1 hk).1
    rw [List.drop_eq_getElem_cons hl]; congr 1; exact (List.getElem?_eq_some_iff.1 hk).2
  refine ⟨?_, by simp, by simp⟩
  rw [h1, hd, cuts_app c cur _ h2]
  simp
theorem CutS.byte {c b : UInt8} {l : Tx} {k : Nat} {done : List Tx} {cur : Tx} (h : CutS c l k done cur) (hk : l[k]? = some b) (hb : b ≠ c) : CutS c l (k + 1) done (cur ++ [b]) := by
  obtain ⟨h1, h2, h3⟩ := h
  have hd : l.drop k = b :: l.drop (k + 1) := by
    have hl := (List.getElem?_eq_some_iff.1 hk).1
    rw [List.drop_eq_getElem_cons hl]; congr 1; exact (List.getElem?_eq_some_iff.1 hk).2
  refine ⟨?_, ?_, by simp; omega⟩
  · rw [h1, hd]; simp
  · simp
    exact ⟨h2, fun e => hb e.symm⟩
theorem CutS.end_ {c : UInt8} {l : Tx} {k : Nat} {done : List Tx} {cur : Tx} (h : CutS c l k done cur) (hk : k = l.length) : done ++ [cur] = cuts c l := by
  obtain ⟨h1, h2, h3⟩ := h
  rw [h1, hk, List.drop_length, List.append_nil, cuts_none c cur h2]
/-- What Cuts answers. -/
def CutR (w : World) (c : UInt8) (l : Tx) (e : Ending) (w' : World) : Prop := ∃ a n cap, e = .returned (.slice a n cap) ∧ OwnT w' w.heap.size a n cap (cuts c l) ∧ Below w.heap.size w w'
theorem slice_one {l : Tx} {k : Nat} {b : UInt8} (h : l[k]? = some b) : (⟨l.toArray⟩ : ByteArray).extract k (k + 1) = ⟨#[b]⟩ := by
  have hl := (List.getElem?_eq_some_iff.1 h).1
  apply ByteArray.ext
  rw [ByteArray.data_extract]
  apply Array.ext'
  simp
  rw [List.drop_eq_getElem_cons hl, List.take_succ_cons, List.take_zero, (List.getElem?_eq_some_iff.1 h).2]

set_option maxRecDepth 100000 in
set_option maxHeartbeats 4000000 in
theorem r4Cuts_any (c : UInt8) (l : Tx) (w : World) (hl : l.length ≤ 1000) : Calls Tryd.prog 46 #[.string ⟨l.toArray⟩, .int .u8 (c.toNat : Int)] w (CutR w c l) := by
  have HO : Hid (∀ wz, w.alloc (.cells #[.string ⟨#[]⟩] 9) = wz → OwnT wz w.heap.size (some ⟨w.heap.size, 0, none⟩) 1 1 [[]] ∧ Below w.heap.size w wz) := by
    rintro wz rfl
    refine ⟨⟨rfl, .inr ⟨w.heap.size, 1, _, rfl, Nat.le_refl _, Blk_new _ _ _, Nat.le_refl _, by decide, rfl, rfl⟩⟩, (Below.refl _ _).alloc (Nat.le_refl _) _⟩
  go_enter Tryd.func46, Tryd.ntmps46
  go_wp2_with fail
  obtain ⟨wz, hwz⟩ : ∃ z, w.alloc (.cells #[.string ⟨#[]⟩] 9) = z := ⟨_, rfl⟩
  have HZ := Lib.hid (HO.out wz hwz)
  rw [hwz]
  clear hwz HO
  obtain ⟨base, hbs⟩ : ∃ b, w.heap.size = b := ⟨_, rfl⟩
  rw [hbs] at HZ ⊢
  have HBS := Lib.hid hbs
  clear hbs
  go_loopw [5, 6] (fun o_ i_ wr => ∃ (k n cap : Nat) (a : Option Addr), k ≤ l.length ∧ n ≤ k + 1 ∧ o_ = .slice a n cap ∧ i_ = .int .i64 k ∧ Hid (∃ done cur, OwnT wr base a n cap (done ++ [cur]) ∧ CutS c l k done cur ∧ Below base w wr ∧ base ≤ wr.heap.size)) (fun _ i_ => fun _ => l.length - (intOf i_).toNat)
  case atStart => exact ⟨0, 1, 1, _, Nat.zero_le _, Nat.le_refl _, rfl, rfl, [], [], HZ.out.1, ⟨by simp, by simp, Nat.le_refl _⟩, HZ.out.2, by have := HZ.out.2.size; have := HBS.out; omega⟩
  case round =>
    obtain ⟨k, n, cap, a, hk, hnk, rfl, rfl, hst⟩ := hrel
    clear HZ
    rename World => wo
    by_cases hlt : k < l.length
    · obtain ⟨done, cur, hown, hcut, hbel, hbsz⟩ := hst.out
      obtain ⟨b, hb⟩ : ∃ b, l[k]? = some b := ⟨_, List.getElem?_eq_getElem hlt⟩
      have hidx : ∀ w : World, (Instr.index 9 (.string ⟨l.toArray⟩) (.int .i64 (k : Int))).run Tryd.prog w = .ok (.int .u8 (b.toNat : Int)) w := fun w => str_at hb w
      have hlt2 : (k : Int) < (l.length : Int) := by omega
      by_cases hbc : b = c
      · subst hbc
        have hq : ((b.toNat : Int) == (b.toNat : Int)) = true := by simp
        obtain ⟨gA, cA', w1, hr1, ho1, hk1, hx1⟩ := run_append_one wo base 76 76 9 (.string ⟨#[]⟩) 1 16 str_info Tryd.underlying76 rfl (by omega) hown [.string ⟨#[]⟩] rfl (by simp [Value.oneCell']) hbsz (by omega) (by omega)
        have HRN := Lib.hid hr1
        have HN : Hid (∃ done cur, OwnT w1 base (some ⟨gA, 0, none⟩) (n + 1) cA' (done ++ [cur]) ∧ CutS b l (k + 1) done cur ∧ Below base w w1 ∧ base ≤ w1.heap.size) := by
          refine ⟨done ++ [cur], [], ?_, hcut.sign hb, hbel.trans (hk1.below hbsz (fun i h => (hown.blk_ge i h).1)), Nat.le_trans hbsz hk1.size⟩
          unfold OwnT
          rw [List.map_append]
          exact ho1
        clear hr1 ho1 hk1 hx1 hown hcut hbel hbsz hst hb
        obtain ⟨v, hv⟩ : ∃ v, (b.toNat : Int) = v := ⟨_, rfl⟩
        rw [hv] at hidx hq ⊢
        clear hv
        go_wp2_with (at_builtin; refine Lib.wpList_append_run _ rfl (.tmp 19) (.tmp 20) _ _ rfl _ _ rfl rfl _ _ HRN.out ?_)
        go_roundw
        case rel => exact ⟨k + 1, n + 1, cA', _, by omega, by omega, rfl, by go_num, HN⟩
        case measure => simp [intOf]; omega
      · have hq : ((b.toNat : Int) == (c.toNat : Int)) = false := by
          simp
          intro e
          exact hbc (UInt8.toNat_inj.1 (by omega))
        obtain ⟨m, hnm⟩ : ∃ m, n = m + 1 := ⟨done.length, by have := hown.len; simp at this; omega⟩
        have hdl : done.length = m := by have := hown.len; simp at this; omega
        obtain ⟨g, rfl, hcell0, hfr⟩ := hown.at_ (i := m) (x := cur) (by rw [List.getElem?_append_right (by omega), hdl, Nat.sub_self]; rfl)
        have hcell : wo.cell? ⟨g, m, none⟩ = some (.string ⟨cur.toArray⟩) := hcell0
        have hsx := slice_one hb
        have hlen : cur.length + 1 ≤ 9223372036854775807 := by have := hcut.2.2; omega
        have e1 : IntKind.i64.wrap ((n : Int) - 1) = (m : Int) := by rw [IntKind.wrap_i64]; omega
        have e2 : IntKind.i64.wrap ((k : Int) + 1) = (k : Int) + 1 := by rw [IntKind.wrap_i64]; omega
        have hm3 : m < n := by omega
        have hs1 : (0 : Int) ≤ (k : Int) + 1 := by omega
        have hs2 : (k : Int) + 1 ≤ (l.length : Int) := by omega
        have hs3 : (k : Int) ≤ (k : Int) + 1 := by omega
        have hs4 : ¬ 9223372036854775807 < cur.length + 1 := by omega
        have HN : Hid (∀ wx : World, Kept (fun _ => False) wo wx → ∃ done' cur', OwnT (wx.setCell ⟨g, m, none⟩ (sv (cur ++ [b]))) base (some ⟨g, 0, none⟩) n cap (done' ++ [cur']) ∧ CutS c l (k + 1) done' cur' ∧ Below base w (wx.setCell ⟨g, m, none⟩ (sv (cur ++ [b]))) ∧ base ≤ (wx.setCell ⟨g, m, none⟩ (sv (cur ++ [b]))).heap.size) := by
          intro wx hkx
          have ho : OwnT wx base (some ⟨g, 0, none⟩) n cap (done ++ [cur]) := OwnG.keep hown hkx (fun _ _ => id)
          have hs := ho.set m (cur ++ [b])
          have hset : (done ++ [cur]).set m (cur ++ [b]) = done ++ [cur ++ [b]] := by
            rw [List.set_append_right _ _ (by omega), hdl, Nat.sub_self]
            rfl
          rw [hset] at hs
          have hbx : Below base w wx := hbel.trans (hkx.below hbsz (fun i h => h.elim))
          have hgb : base ≤ g := (hown.blk_ge g rfl).1
          exact ⟨done, _, hs, hcut.byte hb hbc, hbx.setCell (p := ⟨g, m, none⟩) hgb _, by have := hkx.size; simp [World.setCell]; omega⟩
        clear hown hcut hbel hbsz hst hb hcell0 hnm hdl
        obtain ⟨v, hv⟩ : ∃ v, (b.toNat : Int) = v := ⟨_, rfl⟩
        obtain ⟨u, hu⟩ : ∃ u, (c.toNat : Int) = u := ⟨_, rfl⟩
        rw [hv] at hidx hq
        rw [hu] at hq ⊢
        clear hv hu
        go_wp2_with fail
        go_still_tail 17, (by kernel_rfl)
        refine @id (wpList _ _ _ _ _ wo.drew) ?_
        have HN2 := Lib.hid (HN.out wo.drew (Kept.refl _ _).drew)
        have hcell2 : wo.drew.cell? ⟨g, m, none⟩ = some (.string ⟨cur.toArray⟩) := hcell
        have hfr2 : wo.drew.frozen? ⟨g, m, none⟩ = false := hfr
        have hba : (⟨cur.toArray⟩ : ByteArray) ++ ⟨#[b]⟩ = ⟨(cur ++ [b]).toArray⟩ := ba_app cur [b]
        have hsv : sv (cur ++ [b]) = .string ⟨(cur ++ [b]).toArray⟩ := rfl
        rw [hsv] at HN2
        obtain ⟨wx, hwx⟩ : ∃ z, wo.drew = z := ⟨_, rfl⟩
        rw [hwx] at HN2 hcell2 hfr2 ⊢
        clear hwx HN hcell hfr hsv
        try rw [hba]
        go_wp2_with fail
        go_roundw
        case rel => exact ⟨k + 1, n, cap, _, by omega, by omega, rfl, by go_num, HN2.out⟩
        case measure => simp [intOf]; omega
    · obtain rfl : k = l.length := by omega
      have HF : Hid (∃ done cur, OwnT wo base a n cap (done ++ [cur]) ∧ done ++ [cur] = cuts c l ∧ Below base w wo) := by
        obtain ⟨done, cur, h1, h2, h3, h4⟩ := hst.out
        exact ⟨done, cur, h1, h2.end_ rfl, h3⟩
      clear hst
      go_wp2_with fail
      go_ret
      obtain ⟨done, cur, h1, h2, h3⟩ := HF.out
      exact ⟨a, n, cap, rfl, by rw [HBS.out, ← h2]; exact h1, by rw [HBS.out]; exact h3⟩
end Go.Proofs.YtbnfmiopgjmppaaDoor

/-
  Contracts of few and Pick; how a slice of Acts is opened to its cells. No conditions.
-/
import Derived.Test.YtfkangknnaohaaaAct
import Derived.Deep.Slices
namespace Go.Proofs.Ytfkangknnaohaaa
open Go.ChangeShapes Go.WideShapes Go.ChangeAt Go.RowKit Go.Deep

theorem tmod_four (d : Int) : -3 ≤ d.tmod 4 ∧ d.tmod 4 ≤ 3 ∧ (d.tmod 4 + 4) % 4 = d % 4 := by
  rcases Int.le_total 0 d with h | h
  · rw [Int.tmod_eq_emod_of_nonneg h]; omega
  · obtain ⟨e, rfl⟩ : ∃ e, d = -e := ⟨-d, by omega⟩
    rw [Int.neg_tmod, Int.tmod_eq_emod_of_nonneg (by omega)]; omega
theorem pick_any (d : Int) (w : World) : Calls Try.prog 12 #[.int .i64 d, .int .i64 4] w fun e w' => e = .returned (.int .i64 (d % 4)) ∧ w = w' := by
  obtain ⟨h1, h2, h3⟩ := tmod_four d
  have HT := Lib.hid h3
  clear h3
  go_enter Try.func12, Try.ntmps12
  go_wp2_with fail
  go_ret
  exact ⟨by rw [← HT.out]; rfl, rfl⟩

/-- A slice's address leads to these Acts. -/
def ActsRd (w : World) (a : Option Addr) (ts : List ActV) : Prop :=
  ts ≠ [] → ∃ b o, a = some ⟨b, o, none⟩ ∧ ∀ i (hi : i < ts.length) j u, (ts[i]'hi).cells[j]? = some u → w.cell? ⟨b, o + i * 5 + j, none⟩ = some u

def fewB (ts : List ActV) : Bool := (ts.take 100).all fun t => decide (t.n ≤ 60)

theorem fewB_false {ts : List ActV} {k : Nat} (h : (ts.take k).all (fun t => decide (t.n ≤ 60)) = false) (hk : k ≤ 100) : fewB ts = false := by
  unfold fewB
  rw [List.all_eq_false] at h ⊢
  obtain ⟨t, ht, hp⟩ := h
  refine ⟨t, ?_, hp⟩
  have : ts.take k = (ts.take 100).take k := by rw [List.take_take]; congr 1; omega
  rw [this] at ht
  exact List.mem_of_mem_take ht
theorem fewB_true {ts : List ActV} {k : Nat} (h : (ts.take k).all (fun t => decide (t.n ≤ 60)) = true) (hk : ts.length ≤ k ∨ 100 ≤ k) : fewB ts = true := by
  rw [List.all_eq_true] at h
  unfold fewB
  rw [List.all_eq_true]
  intro t ht
  refine h t ?_
  rcases hk with hk | hk
  · rw [List.take_of_length_le hk]; exact List.mem_of_mem_take ht
  · have : ts.take 100 = (ts.take k).take 100 := by rw [List.take_take]; congr 1; omega
    rw [this] at ht
    exact List.mem_of_mem_take ht

set_option maxHeartbeats 400000 in
theorem few_any (a : Option Addr) (n c : Nat) (ts : List ActV) (w : World) (hn : ts.length = n) (_hc : n ≤ 9223372036854775807) (hr : ActsRd w a ts) (hm : ∀ t ∈ ts, t.n ≤ 9223372036854775807) :
    Calls Try.prog 9 #[.slice a n c, .int .i64 40] w fun e w' => e = .returned (.bool (fewB ts && decide (n ≤ 40))) ∧ w = w' := by
  have HN := Lib.hid hn
  have HR := Lib.hid hr
  have HM := Lib.hid hm
  clear hn hr hm
  go_enter Try.func9, Try.ntmps9
  go_wp2_with fail
  go_loop [5] (fun i => ∃ k : Nat, k ≤ n ∧ k ≤ 100 ∧ i = .int .i64 k ∧ Hid ((ts.take k).all (fun t => decide (t.n ≤ 60)) = true)) (fun i => n - (intOf i).toNat)
  case atStart => exact ⟨0, Nat.zero_le _, Nat.zero_le _, rfl, rfl⟩
  case round =>
    obtain ⟨k, hk, hk2, rfl, hall⟩ := hrel
    by_cases hlt : k < n
    · by_cases hlt2 : k < 100
      · obtain ⟨b, o, rfl, hc⟩ := HR.out (by intro e; have := HN.out; rw [e] at this; simp at this; omega)
        have hk' : k < ts.length := by rw [HN.out]; exact hlt
        have h4 := hc k hk' 4 (.slice ts[k].a ts[k].n ts[k].c) rfl
        have hkm := HM.out ts[k] (List.getElem_mem hk')
        have HA : Hid ((ts.take (k + 1)).all (fun t => decide (t.n ≤ 60)) = decide (ts[k].n ≤ 60)) := by
          show _ = _
          rw [List.take_succ_eq_append_getElem hk', List.all_append, hall.out]; simp
        clear hc
        generalize ts[k] = t at h4 hkm HA
        by_cases h60 : 60 < t.n
        · go_wp2_with fail
          go_ret
          have hf : fewB ts = false := fewB_false (k := k + 1) (by rw [HA.out]; exact decide_eq_false (by omega)) (by omega)
          exact ⟨by rw [hf]; rfl, rfl⟩
        · go_wp2_with fail
          go_round
          case rel => exact ⟨k + 1, by omega, by omega, by go_num, by show _ = true; rw [HA.out]; exact decide_eq_true (by omega)⟩
          case measure => simp [intOf]; omega
      · have HD : Hid (decide (n ≤ 40) = decide ((n : Int) ≤ 40)) := by show _ = _; rw [Bool.eq_iff_iff]; simp; omega
        go_wp2_with fail
        go_ret
        have hf : fewB ts = true := fewB_true hall.out (.inr (by omega))
        exact ⟨by rw [hf, HD.out]; rfl, rfl⟩
    · have HD : Hid (decide (n ≤ 40) = decide ((n : Int) ≤ 40)) := by show _ = _; rw [Bool.eq_iff_iff]; simp; omega
      go_wp2_with fail
      go_ret
      have hf : fewB ts = true := fewB_true hall.out (.inl (by rw [HN.out]; omega))
      exact ⟨by rw [hf, HD.out]; rfl, rfl⟩

section
variable {H : Type} {enc : TypeId × Value → H} {w : World} {base : Nat} {spare : Nat → Bool} {held : Bool}
theorem open_acts {fuel : Nat} {a : Option Addr} {n cap : Nat} {x : DataW H × List MemPlace} (h : DataW.trod enc Try.prog w base spare held fuel 22 [.slice a n cap] = some x) (hsp : ∀ b, spare b = true) :
    ∃ ts : List ActV, ts.length = n ∧ n ≤ cap ∧ cap ≤ maxLen ∧ ActsRd w a ts ∧ ∀ t ∈ ts, ActOk w t := by
  have hC : Try.prog.cellsOf 30 = 5 := by kernel_rfl
  rcases open_slice Try.underlying22 h with ⟨hcs, _⟩ | ⟨ad, l, c, m, fu, D, Pl, hcs, _, hl, hm, hmm, _, hi⟩
  · simp at hcs
    obtain ⟨rfl, rfl, rfl⟩ := hcs
    exact ⟨[], rfl, Nat.le_refl _, Nat.zero_le _, fun h => absurd rfl h, fun t ht => by simp at ht⟩
  · simp at hcs
    obtain ⟨rfl, rfl, rfl⟩ := hcs
    rw [if_pos (hsp _)] at hmm
    subst hmm
    rw [hC] at hi
    have hex : ∀ i, ∃ t : ActV, i < n → w.cells? base (ad.add (i * 5)) 5 = some t.cells ∧ ActOk w t := by
      intro i
      by_cases hin : i < n
      · obtain ⟨cs', hc, ht⟩ := hi i (by omega)
        obtain ⟨t, rfl, hok⟩ := act_cells ht hsp
        exact ⟨t, fun _ => ⟨hc, hok⟩⟩
      · exact ⟨⟨0, 0, 0, 0, none, 0, 0, []⟩, fun h => absurd h hin⟩
    let f : Nat → ActV := fun i => (hex i).choose
    have hf : ∀ i, i < n → w.cells? base (ad.add (i * 5)) 5 = some (f i).cells ∧ ActOk w (f i) := fun i => (hex i).choose_spec
    refine ⟨(List.range n).map f, by simp, hl, hm, fun hne => ?_, fun t ht => ?_⟩
    · have hn0 : 0 < n := by
        rcases Nat.eq_zero_or_pos n with e | e
        · subst e; simp at hne
        · exact e
      obtain ⟨b, o, spot⟩ := ad
      have h0 := (World.cells?_some (hf 0 hn0).1).2.2 0 (by omega)
      have hspot : spot = none := by
        have h1 : ((f 0).cells)[0]? = some (.int .i64 (f 0).d) := rfl
        rw [h1] at h0
        simpa [Addr.add] using World.cell?_spot h0
      subst hspot
      refine ⟨b, o, rfl, fun i hi' j u hu => ?_⟩
      have hin : i < n := by simpa using hi'
      simp only [List.getElem_map, List.getElem_range] at hu
      have hj : j < 5 := by
        have := (List.getElem?_eq_some_iff.1 hu).1
        simpa [ActV.cells] using this
      have h1 := (World.cells?_some (hf i hin).1).2.2 j hj
      rw [hu, Addr.add_lit, Addr.add_lit] at h1
      exact h1
    · obtain ⟨i, hi', rfl⟩ := List.mem_map.1 ht
      exact (hf i (by simpa using hi')).2
end
end Go.Proofs.Ytfkangknnaohaaa

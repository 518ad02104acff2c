/-
  The contract of first: the place of the first rule of which each part that asks for something is met. Conditions: rules that lie where the slice leads, whose numbers fit their Go types; a function that is handed over with a contract for each part.
-/
import Derived.Test.YtgnhbhgpkihpmaaRuFirst
namespace Go.Proofs.Ytgnhbhgpkihpmaa
open Go.RowKit

/-- Is each part that asks for something met? -/
def allP (mt : Nat → Rl → Bool) (r : Rl) : Bool := (List.range 6).all fun j => idl j r || mt j r
theorem allP_iff (mt : Nat → Rl → Bool) (r : Rl) : allP mt r = true ↔ ∀ j, j < 6 → (idl j r || mt j r) = true := by
  simp only [allP, List.all_eq_true, List.mem_range]
theorem allP_no {mt : Nat → Rl → Bool} {r : Rl} {j : Nat} (hj : j < 6) (h : (idl j r || mt j r) = false) : allP mt r = false := by
  cases ha : allP mt r with
  | false => rfl
  | true => rw [(allP_iff mt r).1 ha j hj] at h; cases h
/-- The place of the first one; -1: there is none. -/
def fsi (f : Rl → Bool) : List Rl → Int
  | [] => -1
  | r :: l => if f r then 0 else if fsi f l = -1 then -1 else fsi f l + 1
theorem fsi_ge (f : Rl → Bool) : ∀ l, fsi f l = -1 ∨ 0 ≤ fsi f l
  | [] => .inl rfl
  | r :: l => by
    have := fsi_ge f l
    unfold fsi
    (repeat' split) <;> omega
theorem fsi_none {f : Rl → Bool} : ∀ {l : List Rl}, (∀ r ∈ l, f r = false) → fsi f l = -1
  | [], _ => rfl
  | r :: l, h => by
    have := fsi_none (f := f) (l := l) (fun x hx => h x (List.mem_cons_of_mem _ hx))
    simp [fsi, h r List.mem_cons_self, this]
theorem fsi_at {f : Rl → Bool} : ∀ {l : List Rl} {k : Nat} {r : Rl}, l[k]? = some r → f r = true → (∀ x ∈ l.take k, f x = false) → fsi f l = k
  | [], k, r, h, _, _ => by simp at h
  | x :: l, 0, r, h, hf, _ => by
    simp at h; subst h
    simp [fsi, hf]
  | x :: l, k + 1, r, h, hf, hn => by
    have := fsi_at (f := f) (l := l) (k := k) (r := r) (by simpa using h) hf (fun y hy => hn y (by simp [hy]))
    have hx := hn x (by simp)
    simp only [fsi, hx, this]
    rw [if_neg (by decide), if_neg (by omega)]
    omega

/-- Rules lie there. -/
structure Rls (w : World) (a : Option Addr) (n : Nat) (l : List Rl) : Prop where
  len : l.length = n
  ok : ∀ r ∈ l, r.ok
  cells : l ≠ [] → ∃ b o, a = some ⟨b, o, none⟩ ∧ ∀ i r, l[i]? = some r → w.rangeAt b (o + i * 44) r.cs
theorem Rls.below {w w' : World} {a : Option Addr} {n : Nat} {l : List Rl} (h : Rls w a n l) (hb : Below w.heap.size w w') : Rls w' a n l :=
  ⟨h.len, h.ok, fun hne => by
    obtain ⟨b, o, e, hc⟩ := h.cells hne
    exact ⟨b, o, e, fun i r hr => range_kept hb (hc i r hr)⟩⟩
theorem Rls.nth {w : World} {a : Option Addr} {n : Nat} {l : List Rl} (h : Rls w a n l) {k : Nat} (hk : k < n) : ∃ r b o, l[k]? = some r ∧ r.ok ∧ a = some ⟨b, o, none⟩ ∧ w.rangeAt b (o + k * 44) r.cs := by
  have hk' : k < l.length := by rw [h.len]; exact hk
  obtain ⟨b, o, e, hc⟩ := h.cells (by intro e; rw [e] at hk'; simp at hk')
  exact ⟨l[k], b, o, List.getElem?_eq_getElem hk', h.ok _ (List.getElem_mem hk'), e, hc k _ (List.getElem?_eq_getElem hk')⟩
/-- A function that is called is entered. -/
def Ent (N : Nat) : Prop := ∀ (args : Array Value) (w : World), (callFunc N args).run Try.prog w = .ok (.enter N args) w
theorem ent2 : Ent 28 := by
  intro args w
  have h := Try.func28
  go_simp
theorem ent6 : Ent 33 := by
  intro args w
  have h := Try.func33
  go_simp
theorem ent10 : Ent 38 := by
  intro args w
  have h := Try.func38
  go_simp
theorem ent14 : Ent 44 := by
  intro args w
  have h := Try.func44
  go_simp
theorem ent18 : Ent 48 := by
  intro args w
  have h := Try.func48
  go_simp
theorem ent22 : Ent 54 := by
  intro args w
  have h := Try.func54
  go_simp
theorem ent1 : Ent 26 := by
  intro args w
  have h := Try.func26
  go_simp
theorem ent5 : Ent 32 := by
  intro args w
  have h := Try.func32
  go_simp
theorem ent9 : Ent 36 := by
  intro args w
  have h := Try.func36
  go_simp
theorem ent13 : Ent 43 := by
  intro args w
  have h := Try.func43
  go_simp
theorem ent17 : Ent 47 := by
  intro args w
  have h := Try.func47
  go_simp
theorem ent21 : Ent 53 := by
  intro args w
  have h := Try.func53
  go_simp
theorem entFit : Ent 25 := by
  intro args w
  have h := Try.func25
  go_simp
theorem entHold : Ent 24 := by
  intro args w
  have h := Try.func24
  go_simp
/-- Which functions tell whether a part asks for nothing, and may be asked. -/
theorem idl_fn (j : Nat) (hj : j < 6) : ∃ N, Ent N ∧ (pt j)[1]? = some (.func (.func N) #[] #[]) ∧ ∀ (r : Rl) (w : World), r.ok → Calls Try.prog N #[.agg r.cs.toArray] w (Gives w (.bool (idl j r))) := by
  match j, hj with
  | 0, _ => exact ⟨_, ent2, rfl, idl0_any⟩
  | 1, _ => exact ⟨_, ent6, rfl, idl1_any⟩
  | 2, _ => exact ⟨_, ent10, rfl, idl2_any⟩
  | 3, _ => exact ⟨_, ent14, rfl, idl3_any⟩
  | 4, _ => exact ⟨_, ent18, rfl, idl4_any⟩
  | 5, _ => exact ⟨_, ent22, rfl, idl5_any⟩
theorem rt_fn (j : Nat) (hj : j < 6) : ∃ N, Ent N ∧ (pt j)[0]? = some (.func (.func N) #[] #[]) ∧ ∀ (r : Rl) (w : World), r.ok → Calls Try.prog N #[.agg r.cs.toArray] w (Gives w (.bool (rt j r))) := by
  match j, hj with
  | 0, _ => exact ⟨_, ent1, rfl, rt0_any⟩
  | 1, _ => exact ⟨_, ent5, rfl, rt1_any⟩
  | 2, _ => exact ⟨_, ent9, rfl, rt2_any⟩
  | 3, _ => exact ⟨_, ent13, rfl, rt3_any⟩
  | 4, _ => exact ⟨_, ent17, rfl, rt4_any⟩
  | 5, _ => exact ⟨_, ent21, rfl, rt5_any⟩
theorem pt_one (j : Nat) : ∀ v ∈ pt j, v.oneCell' = true := by
  intro v hv
  match j, hv with
  | 0, hv => simp [pt, fnv] at hv; rcases hv with rfl | rfl | rfl | rfl <;> rfl
  | 1, hv => simp [pt, fnv] at hv; rcases hv with rfl | rfl | rfl | rfl <;> rfl
  | 2, hv => simp [pt, fnv] at hv; rcases hv with rfl | rfl | rfl | rfl <;> rfl
  | 3, hv => simp [pt, fnv] at hv; rcases hv with rfl | rfl | rfl | rfl <;> rfl
  | 4, hv => simp [pt, fnv] at hv; rcases hv with rfl | rfl | rfl | rfl <;> rfl
  | _ + 5, hv => simp [pt, fnv] at hv; rcases hv with rfl | rfl | rfl | rfl <;> rfl

theorem Pts.cut {w : World} {g : Nat} (h : Pts w g) (j : Nat) (hj : j < 6) : w.rangeAt g (j * 4) (pt j) := by
  have := h.at_ j hj
  rwa [Nat.zero_add] at this
/-- What lies there while a rule is looked at: the rule's own copy, the row of parts. -/
structure Lk (w wr : World) (gB g : Nat) (r : Rl) : Prop where
  rule : wr.rangeAt gB 0 r.cs
  pts : Pts wr g
  below : Below w.heap.size w wr
theorem Lk.next {w wr w' : World} {gB g : Nat} {r : Rl} (h : Lk w wr gB g r) (hb : Below wr.heap.size wr w') : Lk w w' gB g r :=
  ⟨range_kept hb h.rule, range_kept hb h.pts, h.below.trans (hb.mono h.below.size)⟩
theorem Below.boxed (w : World) (cs : Array Value) (t : TypeId) (vs : List Value) : Below w.heap.size w ((w.alloc (.cells cs t)).setCells w.heap.size 0 vs) :=
  Below.setCells ((Below.refl _ _).alloc (Nat.le_refl _) _) _ (Nat.le_refl _) _ _
theorem range_boxed (w : World) (cs : Array Value) (t : TypeId) (vs : List Value) (hs : cs.size = vs.length) : ((w.alloc (.cells cs t)).setCells w.heap.size 0 vs).rangeAt w.heap.size 0 vs :=
  World.rangeAt_setCells_same _ _ _ _ (there_new _ _ _ _ hs _ rfl)
theorem Lk.start {w wr : World} {g : Nat} {r : Rl} (cs : Array Value) (t : TypeId) (hs : cs.size = 44) (hr : r.ok) (hp : Pts wr g) (hb : Below w.heap.size w wr) : Lk w ((wr.alloc (.cells cs t)).setCells wr.heap.size 0 r.cs) wr.heap.size g r :=
  ⟨range_boxed _ _ _ _ (by rw [hs, Rl.len hr]), range_kept (Below.boxed _ _ _ _) hp, hb.trans ((Below.boxed _ _ _ _).mono hb.size)⟩
theorem Lk.part {w wr : World} {gB g : Nat} {r : Rl} (h : Lk w wr gB g r) (cs : Array Value) (t : TypeId) (j : Nat) (hs : cs.size = 4) :
    Lk w ((wr.alloc (.cells cs t)).setCells wr.heap.size 0 (pt j)) gB g r ∧ ((wr.alloc (.cells cs t)).setCells wr.heap.size 0 (pt j)).rangeAt wr.heap.size 0 (pt j) :=
  ⟨h.next (Below.boxed _ _ _ _), range_boxed _ _ _ _ (by rw [hs, pt_len])⟩

set_option maxRecDepth 100000 in
set_option maxHeartbeats 4000000 in
theorem first_any (N : Nat) (cap : Value) (mt : Nat → Rl → Bool) (a : Option Addr) (n c : Nat) (l : List Rl) (w : World) (hl : Rls w a n l) (hn : n ≤ 70368744177664) (hE : Ent N)
    (hM : ∀ (j : Nat) (r : Rl) (w' : World), j < 6 → r.ok → Below w.heap.size w w' → Calls Try.prog N #[.agg (pt j).toArray, .agg r.cs.toArray, cap] w' (Gives w' (.bool (mt j r)))) :
    Calls Try.prog 23 #[.slice a n c, .func (.func N) #[] #[cap]] w (Gives w (.int .i64 (fsi (allP mt) l))) := by
  have HL := Lib.hid hl
  have HM := Lib.hid hM
  clear hl hM
  go_enter Try.func23, Try.ntmps23
  go_wp2_with fail
  go_step3
  go_wp2_with fail
  refine (parts_any _).mono ?_
  rintro e w1 ⟨g, rfl, hp, hb1⟩
  have HP1 := Lib.hid hp
  have HB1 := Lib.hid hb1
  clear hp hb1
  go_wp2_with fail
  go_step3
  go_wp2_with fail
  go_loopw [13] (fun i wr => ∃ k : Nat, k ≤ n ∧ i = .int .i64 k ∧ Hid (∀ r ∈ l.take k, allP mt r = false) ∧ Hid (Pts wr g) ∧ Hid (Below w.heap.size w wr)) (fun i _ => n - (intOf i).toNat)
  case atStart => exact ⟨0, Nat.zero_le _, rfl, fun r hr => by simp at hr, HP1.out, HB1.out⟩
  case round =>
    obtain ⟨k, hk, rfl, hno, hpt, hbl⟩ := hrel
    clear HP1 HB1
    rename World => wo
    by_cases hlt : k < n
    · have hlt2 : (k : Int) < (n : Int) := by omega
      obtain ⟨r, b, o, hr, hrok, rfl, hrg⟩ := (HL.out.below hbl.out).nth hlt
      have HRG := Lib.hid hrg
      have HRO := Lib.hid hrok
      have HRK := Lib.hid hr
      clear hrg hrok hr
      go_wp2_with (first
        | (refine ldU _ rfl rfl _ _ rfl r HRO.out HRG.out ?_)
        | (refine stN (fun w' => Hid (Lk w w' wo.heap.size g r)) 43 _ _ rfl rfl _ _ r.cs rfl rfl (by rw [Rl.len HRO.out]; exact there_new _ _ _ _ rfl _ rfl) (by rw [Rl.len HRO.out]; exact infU) (Rl.one r) (by exact Lk.start _ _ rfl HRO.out hpt.out hbl.out) ?_; intro wk HLK; obtain ⟨gB, hgB⟩ : ∃ gB, wo.heap.size = gB := ⟨_, rfl⟩; rw [hgB] at HLK ⊢))
      clear hgB
      go_loopw [20] (fun i wr => ∃ j : Nat, j ≤ 6 ∧ i = .int .i64 j ∧ Hid (∀ q, q < j → (idl q r || mt q r) = true) ∧ Hid (Lk w wr gB g r)) (fun i _ => 6 - (intOf i).toNat)
      case atStart => exact ⟨0, by omega, rfl, fun q hq => by omega, HLK⟩
      case round =>
        obtain ⟨j, hj, rfl, hal, hlk⟩ := hrel
        clear HLK
        rename World => wp
        by_cases hj6 : j < 6
        · have hj2 : (j : Int) < 6 := by omega
          obtain ⟨N1, hE1, hN1, hI⟩ := idl_fn j hj6
          unfold Ent at hE1 hE
          have HI := Lib.hid hI
          have HN1 := Lib.hid hN1
          clear hI hN1
          go_wp2_with (first
            | (refine ldPt _ rfl rfl _ _ rfl (pt j) (pt_len j) (hlk.out.pts.cut j hj6) ?_)
            | (refine stN (fun w' => Hid (Lk w w' gB g r ∧ w'.rangeAt wp.heap.size 0 (pt j))) 68 _ _ rfl rfl _ _ (pt j) rfl rfl (by rw [pt_len]; exact there_new _ _ _ _ rfl _ rfl) (by rw [pt_len]; exact infPt) (pt_one j) (by exact hlk.out.part _ _ j rfl) ?_; intro wk HLK; obtain ⟨gP, hgP⟩ : ∃ gP, wp.heap.size = gP := ⟨_, rfl⟩; rw [hgP] at HLK ⊢; have hcI := range_at HLK.out.2 1 HN1.out; rw [Nat.zero_add] at hcI)
            | (refine ldU _ rfl (by rfl) _ _ rfl r HRO.out (by exact HLK.out.1.rule) ?_))
          refine (HI.out r _ HRO.out).mono ?_
          rintro e w2 ⟨rfl, hb2⟩
          have HL2 := Lib.hid (HLK.out.1.next hb2)
          have HP2 := Lib.hid (range_kept hb2 HLK.out.2)
          clear hb2 HLK hcI hE1
          cases hid : idl j r with
          | true =>
            have HD : Hid (∀ q, q < j + 1 → (idl q r || mt q r) = true) := fun q hq => by
              rcases Nat.lt_or_ge q j with h | h
              · exact hal.out q h
              · rw [show q = j by omega, hid]; rfl
            clear hid
            go_wp2_with fail
            go_roundw
            case rel => exact ⟨j + 1, by omega, by go_num, HD, HL2⟩
            case measure => simp [intOf]; omega
          | false =>
            have HID := Lib.hid hid
            clear hid
            go_wp2_with (first
              | (refine ldPtg _ rfl (by rfl) _ _ rfl (pt j) (pt_len j) HP2.out ?_)
              | (refine ldUg _ rfl (by rfl) _ _ rfl r HRO.out HL2.out.rule ?_))
            refine (HM.out j r _ hj6 HRO.out HL2.out.below).mono ?_
            rintro e w3 ⟨rfl, hb3⟩
            have HL3 := Lib.hid (HL2.out.next hb3)
            clear hb3 HP2
            cases hmt : mt j r with
            | true =>
              have HD : Hid (∀ q, q < j + 1 → (idl q r || mt q r) = true) := fun q hq => by
                rcases Nat.lt_or_ge q j with h | h
                · exact hal.out q h
                · rw [show q = j by omega, hmt]; simp
              clear hmt
              go_wp2_with fail
              go_roundw
              case rel => exact ⟨j + 1, by omega, by go_num, HD, HL3⟩
              case measure => simp [intOf]; omega
            | false =>
              have HD : Hid (allP mt r = false) := allP_no hj6 (by rw [HID.out, hmt]; rfl)
              clear hmt
              have HNO : Hid (∀ x ∈ l.take (k + 1), allP mt x = false) := fun x hx => by
                rw [List.take_add_one, HRK.out] at hx
                rcases List.mem_append.1 hx with hx | hx
                · exact hno.out x hx
                · simp at hx; rw [hx]; exact HD.out
              have HPT := Lib.hid HL3.out.pts
              have HBL := Lib.hid HL3.out.below
              go_wp2_with fail
              go_roundw
              case rel => exact ⟨k + 1, by omega, by go_num, HNO, HPT, HBL⟩
              case measure => simp [intOf]; omega
        · have hj2 : ¬ (j : Int) < 6 := by omega
          have hj7 : j = 6 := by omega
          have HF : Hid (fsi (allP mt) l = k) := fsi_at HRK.out ((allP_iff mt r).2 (fun q hq => hal.out q (by omega))) hno.out
          have HBO := Lib.hid hlk.out.below
          go_wp2_with fail
          go_ret
          exact ⟨by rw [HF.out]; rfl, HBO.out⟩
    · have hlt2 : ¬ (k : Int) < (n : Int) := by omega
      have HF : Hid (fsi (allP mt) l = -1) := fsi_none (by
        have h := hno.out
        rwa [List.take_of_length_le (by rw [HL.out.len]; omega)] at h)
      go_wp2_with fail
      go_ret
      exact ⟨by rw [HF.out]; rfl, hbl.out⟩
end Go.Proofs.Ytgnhbhgpkihpmaa

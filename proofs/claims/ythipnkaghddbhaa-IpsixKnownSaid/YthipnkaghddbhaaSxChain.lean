/-
  The contracts of headers, and of ParseChain, of package ipsix. Conditions: bytes that lie where the slice leads, fewer than a million million.
-/
import Derived.Test.YthipnkaghddbhaaSxHeader
namespace Go.Proofs.Ythipnkaghddbhaa
open Go.RowKit

/-- What headers leaves. -/
def HdsR (base g gr : Nat) (w : World) (v : Int × List (Int × List Int) × Int × Int) (e : Ending) (w' : World) : Prop :=
  Below base w w' ∧ e = .returned (.int .i64 v.1) ∧ (v.1 = 0 → ∃ es ea en ec ra rn rc rest, es.map Ex.two = v.2.1 ∧ Cr base g gr w' ea en ec es v.2.2.1 ra rn rc rest v.2.2.2)
theorem getD_le (xs : List Int) (hb : Byt xs) (i : Nat) : 0 ≤ xs.getD i 0 ∧ xs.getD i 0 < 256 := hb.get i
theorem hdE_cases (k : Int) (c : Nat) (xs : List Int) : hdE k c xs = 0 ∨ hdE k c xs = 10 ∨ hdE k c xs = 60 := by
  unfold hdE
  split
  · exact .inr (.inr rfl)
  split
  · exact .inr (.inl rfl)
  split
  · exact .inr (.inl rfl)
  split
  · exact .inl rfl
  · exact .inr (.inr rfl)
theorem hdE_few {k : Int} {c : Nat} {xs : List Int} (h : hdE k c xs = 0) : c ≠ 16 := by
  intro e
  unfold hdE at h
  rw [if_pos (.inl e)] at h
  cases h

/-- How many headers a reader of chains has read. -/
def lenAt (w : World) (g : Nat) : Nat := match w.cell? ⟨g, 0, none⟩ with | some (.slice _ n _) => n | _ => 0
theorem Cr.lenAt {base g gr : Nat} {w : World} {ea : Option Addr} {en ec : Nat} {es : List Ex} {p : Int} {ra : Option Addr} {rn rc : Nat} {rest : List Int} {t : Int} (h : Cr base g gr w ea en ec es p ra rn rc rest t) : lenAt w g = en := by
  unfold Go.Proofs.Ythipnkaghddbhaa.lenAt; rw [h.c0]
theorem pcC_step {f : Nat} {acc : List (Int × List Int)} {k : Int} {xs : List Int} {t : Int} : pcC (f + 1) acc k xs t =
    if knd k = false then (0, acc, k, t) else if hdE k acc.length xs ≠ 0 then (hdE k acc.length xs, [], 0, 0)
    else if ltE k (hdD k xs) = true then (0, acc ++ [(k, hdD k xs)], xs.getD 0 0, t + hdS k xs)
    else pcC f (acc ++ [(k, hdD k xs)]) (xs.getD 0 0) (xs.drop (hdS k xs)) (t + hdS k xs) := rfl
set_option maxRecDepth 100000 in
set_option maxHeartbeats 2000000 in
theorem sxHeaders_any (base g gr : Nat) (w : World) (ea : Option Addr) (en ec : Nat) (es : List Ex) (p : Int) (ra : Option Addr) (rn rc : Nat) (rest : List Int) (t : Int) (V : Int × List (Int × List Int) × Int × Int)
    (h : Cr base g gr w ea en ec es p ra rn rc rest t) (hv : V = pcC (17 - en) (es.map Ex.two) p rest t) : Calls Try.prog 52 #[.pointer (some ⟨g, 0, none⟩)] w (HdsR base g gr w V) := by
  have HH := Lib.hid h
  have HV := Lib.hid hv
  have HB0 : Hid (Below base w w) := Below.refl _ _
  clear h hv
  go_enter Try.func52, Try.ntmps52
  go_wp2
  go_step3
  go_wp2
  go_step3
  go_wp2
  go_loopw [] (fun wr => ∃ (es : List Ex) (p : Int) (rest : List Int) (t : Int) (en : Nat), Hid (∃ ea ec ra rn rc, Cr base g gr wr ea en ec es p ra rn rc rest t ∧ V = pcC (17 - en) (es.map Ex.two) p rest t ∧ Below base w wr)) (fun wr => 17 - lenAt wr g)
  case atStart => exact ⟨es, p, rest, t, en, ea, ec, ra, rn, rc, HH.out, HV.out, HB0.out⟩
  case round =>
    obtain ⟨es, p, rest, t, en, hst⟩ := hrel
    rename World => wr
    obtain ⟨ea, ec, ra, rn, rc, hcr, hv, hb⟩ := hst.out
    have HC := Lib.hid hcr
    have HB := Lib.hid hb
    have hfew := hcr.few
    have hel := hcr.len
    obtain ⟨f, hf⟩ : ∃ f, 17 - en = f + 1 := ⟨16 - en, by omega⟩
    have hff : f = 17 - (en + 1) := by omega
    have hml : (es.map Ex.two).length = en := by rw [List.length_map, hel]
    rw [hf, pcC_step, hml, ← hel] at hv
    have HV2 := Lib.hid hv
    have hp := hcr.c1
    obtain ⟨p0, p1⟩ := hcr.kind
    have HEL := Lib.hid hel
    have HFF := Lib.hid hff
    clear HB0 hst hcr hv hb HH HV hf hel hff hml
    cases hkn : knd p with
    | false =>
      have HK := Lib.hid hkn
      have HVV : Hid (V = (0, es.map Ex.two, p, t)) := by show _ = _; rw [HV2.out, if_pos hkn]
      clear hkn
      go_wp2_with fail
      refine (sxIsKind_any p _ p0 p1).mono ?_
      rintro e w1 ⟨rfl, rfl⟩
      rw [HK.out]
      go_wp2_with fail
      go_ret
      exact ⟨HB.out, by rw [HVV.out]; rfl, fun _ => ⟨es, ea, en, ec, ra, rn, rc, rest, by rw [HVV.out], by rw [HVV.out]; exact HC.out⟩⟩
    | true =>
      have HK := Lib.hid hkn
      obtain ⟨E, hE⟩ : ∃ v, hdE p es.length rest = v := ⟨_, rfl⟩
      rw [hE, if_neg (by rw [hkn]; decide)] at HV2
      have HE := Lib.hid hE
      clear hkn hE
      go_wp2_with fail
      refine (sxIsKind_any p _ p0 p1).mono ?_
      rintro e w1 ⟨rfl, rfl⟩
      rw [HK.out]
      go_wp2_with fail
      refine (sxHeader_any base g gr _ ea en ec es p ra rn rc rest t HC.out).mono ?_
      rintro e w1 ⟨hb1, ⟨hne, rfl⟩ | ⟨he, ⟨k, a1, n1, c1, xs1⟩, hxk, hxx, hxo, rfl, ea', en', ec', ra', rn', rc', hcr'⟩⟩
      · rw [HE.out] at hne
        have hbE : (E != 0) = true := by simpa using hne
        have HVV : Hid (V = (E, [], 0, 0)) := by show _ = _; rw [HV2.out, if_pos hne]
        have HB1 : Hid (Below base w w1) := HB.out.trans hb1
        have HBS : Hid (base ≤ w1.heap.size) := by show _ ≤ _; have := HC.out.gl; have := HC.out.lt; have := HC.out.lo; have := hb1.size; omega
        rw [HE.out]
        clear hb1 hne hp
        go_wp2_with fail
        go_ret
        exact ⟨HB1.out.alloc HBS.out _, by rw [HVV.out]; rfl, fun h0 => by rw [HVV.out] at h0; exact absurd h0 (by simpa using hbE)⟩
      · rw [HE.out] at he
        subst he
        have hxk' : k = p := hxk
        have hxx' : xs1 = hdD p rest := hxx
        subst hxk' hxx'
        have HXO := Lib.hid hxo
        have hfw : n1 ≤ 1099511627776 := by have := hxo.few; show n1 ≤ _; have h2 : n1 ≤ 2046 := this; omega
        obtain ⟨L, hL⟩ : ∃ v, ltE k (hdD k rest) = v := ⟨_, rfl⟩
        have HL := Lib.hid hL
        rw [hL, if_neg (by decide)] at HV2
        have HB1 : Hid (Below base w w1) := HB.out.trans hb1
        have HC1 := Lib.hid hcr'
        have HBS : Hid (base ≤ w1.heap.size) := by show _ ≤ _; have := hcr'.gl; have := hcr'.lt; have := hcr'.lo; omega
        have hal : Below w1.heap.size w1 (w1.alloc (.cells #[.int .u8 k, .slice a1 n1 c1] 71)) := (Below.refl _ _).alloc (Nat.le_refl _) _
        have HC2 := Lib.hid (hcr'.below hal)
        have HX2 := Lib.hid (hxo.ok.below hal)
        have HB2 : Hid (Below base w (w1.alloc (.cells #[.int .u8 k, .slice a1 n1 c1] 71))) := HB1.out.alloc HBS.out _
        clear hxk hxx hxo hL hcr' hb1 hp hal
        unfold xcs
        go_wp2_with fail
        refine (sxLater_any ⟨k, a1, n1, c1, hdD k rest⟩ _ HX2.out hfw).mono ?_
        rintro e w2 ⟨rfl, hb2⟩
        rw [HL.out]
        have HC3 := Lib.hid (HC2.out.below hb2)
        have HB3 : Hid (Below base w w2) := HB2.out.trans (hb2.mono (by have := HC2.out.gl; have := HC2.out.lt; have := HC2.out.lo; omega))
        clear hb2
        cases L with
        | true =>
          go_wp2_with fail
          go_ret
          refine ⟨HB3.out, by rw [HV2.out]; rfl, fun _ => ⟨es ++ [⟨k, a1, n1, c1, hdD k rest⟩], ea', en', ec', ra', rn', rc', rest.drop (hdS k rest), ?_, ?_⟩⟩
          · rw [HV2.out]; simp [Ex.two]
          · rw [HV2.out]; exact HC3.out
        | false =>
          go_wp2_with fail
          go_roundw
          case rel =>
            have hen : en' = en + 1 := by have h1 := HC3.out.len; rw [List.length_append, HEL.out] at h1; exact h1.symm
            subst hen
            refine ⟨es ++ [⟨k, a1, n1, c1, hdD k rest⟩], _, _, _, en + 1, ea', ec', ra', rn', rc', HC3.out, ?_, HB3.out⟩
            rw [HV2.out, HFF.out]; simp [Ex.two]
          case measure => rw [HC.out.lenAt, HC3.out.lenAt]; have h1 := HC3.out.len; rw [List.length_append, HEL.out] at h1; have h2 : en + 1 = en' := h1; omega
/-- Headers behind one another in a row of the call's own, their data in rows of its own. -/
structure OwnC (w : World) (base : Nat) (a : Option Addr) (n c : Nat) (es : List Ex) : Prop where
  len : es.length = n
  few : n ≤ 16
  row : OwnG w base 71 2 a n c (es.flatMap xcs)
  exts : ∀ x ∈ es, XOk base w x
theorem flat_two {α : Type} (f : α → List Value) (hf : ∀ x, (f x).length = 2) : ∀ (es : List α) (i : Nat) (x : α), es[i]? = some x → ∀ j, j < 2 → (es.flatMap f)[i * 2 + j]? = (f x)[j]?
  | [], i, x, h, _, _ => by simp at h
  | y :: es, 0, x, h, j, hj => by
    simp at h
    subst h
    rw [List.flatMap_cons, Nat.zero_mul, Nat.zero_add, List.getElem?_append_left (by rw [hf]; exact hj)]
  | y :: es, i + 1, x, h, j, hj => by
    rw [List.flatMap_cons, List.getElem?_append_right (by rw [hf]; omega), hf]
    have e : (i + 1) * 2 + j - 2 = i * 2 + j := by omega
    rw [e]
    exact flat_two f hf es i x (by simpa using h) j hj
theorem OwnC.ch {w : World} {base : Nat} {a : Option Addr} {n c : Nat} {es : List Ex} (h : OwnC w base a n c es) : Ch w a n c es := by
  refine ⟨h.len, h.row.le.1, h.row.le.2, fun hne => ?_, fun x hx => (h.exts x hx).ok, fun x hx => by have := (h.exts x hx).few; omega⟩
  obtain ⟨g, rfl, hc⟩ := h.row.cell (by cases es with | nil => exact absurd rfl hne | cons y t => simp [xcs])
  refine ⟨g, 0, rfl, fun i x hx => ⟨?_, ?_⟩⟩
  · have h1 := hc (i * 2 + 0) (.int .u8 x.k) (by rw [flat_two xcs (fun _ => rfl) es i x hx 0 (by omega)]; rfl)
    exact h1
  · have h1 := hc (i * 2 + 1) (.slice x.a x.n x.c) (by rw [flat_two xcs (fun _ => rfl) es i x hx 1 (by omega)]; rfl)
    exact h1
theorem OwnC.keep {w w' : World} {base : Nat} {a : Option Addr} {n c : Nat} {es : List Ex} (h : OwnC w base a n c es) (hb : Below w.heap.size w w') : OwnC w' base a n c es := by
  have hk : Kept (fun _ => False) w w' := Kept.of_below hb (fun i hi hi' => by omega)
  exact ⟨h.len, h.few, h.row.keep hk (fun _ _ => id), fun x hx => (h.exts x hx).keep hk (fun _ _ => id)⟩
theorem OwnC.mono {w : World} {base base' : Nat} {a : Option Addr} {n c : Nat} {es : List Ex} (h : OwnC w base a n c es) (hb : base' ≤ base) : OwnC w base' a n c es := by
  refine ⟨h.len, h.few, ?_, fun x hx => (h.exts x hx).mono hb⟩
  refine ⟨h.row.1, ?_⟩
  rcases h.row.2 with h0 | ⟨g, cap', cur, he, hbb, r⟩
  · exact .inl h0
  · exact .inr ⟨g, cap', cur, he, by omega, r⟩
/-- What ParseChain answers. -/
def PCR (w : World) (v : Int × List (Int × List Int) × Int × Int) (e : Ending) (w' : World) : Prop :=
  Below w.heap.size w w' ∧ ((v.1 ≠ 0 ∧ e = .returned (.tuple #[.agg #[.slice none 0 0, .int .u8 0], .int .i64 0, .int .i64 v.1])) ∨
    (v.1 = 0 ∧ ∃ es a n c, e = .returned (.tuple #[.agg #[.slice a n c, .int .u8 v.2.2.1], .int .i64 v.2.2.2, .int .i64 0]) ∧ es.map Ex.two = v.2.1 ∧ OwnC w' w.heap.size a n c es ∧ (0 ≤ v.2.2.1 ∧ v.2.2.1 < 256)))
theorem sxAt_any (g : Nat) (a : Option Addr) (n c : Nat) (p : Int) (xs : List Int) (w : World) (h : Rr w g a n c p xs) :
    Calls Try.prog 53 #[.pointer (some ⟨g, 0, none⟩)] w fun e w' => e = .returned (.int .i64 p) ∧ w = w' := by
  have h1 := h.cell1
  clear h
  go_enter Try.func53, Try.ntmps53
  go_wp2_with fail
  go_ret
  exact ⟨rfl, rfl⟩
theorem infC2 : (Try.prog.info? 46).map (·.size) = some 2 := by kernel_rfl

set_option maxRecDepth 100000 in
set_option maxHeartbeats 2000000 in
theorem sxParseChain_any (p : Int) (a : Option Addr) (n c : Nat) (xs : List Int) (w : World) (V : Int × List (Int × List Int) × Int × Int) (p0 : 0 ≤ p) (p1 : p < 256) (hn : xs.length = n) (hr : Rd w a xs) (hb : Byt xs) (hl : n ≤ 1000000) (hv : V = pcV p xs) :
    Calls Try.prog 27 #[.int .u8 p, .slice a n c] w (PCR w V) := by
  have hbA : Below w.heap.size w (w.alloc (.cells #[.slice none 0 0, .int .u8 0] 46)) := (Below.refl _ _).alloc (Nat.le_refl _) _
  have HBA := Lib.hid hbA
  have HR := Lib.hid (hr.below hbA)
  have HN := Lib.hid hn
  have HB := Lib.hid hb
  have HV := Lib.hid hv
  have HZ : Hid ((w.alloc (.cells #[.slice none 0 0, .int .u8 0] 46)).heap[w.heap.size]? = some (.cells #[.slice none 0 0, .int .u8 0] 46 (0, 0))) := Blk_new w _ _
  clear hbA hr hn hb hv
  go_enter Try.func27, Try.ntmps27
  go_wp2_with fail
  refine (read_any a n c xs _ HN.out HR.out HB.out (by omega)).mono ?_
  rintro e w1 ⟨gr, ra, rn, rc, rfl, hrr, hgr, hrb, hb1⟩
  obtain ⟨w2, hw2⟩ : ∃ y, w1.alloc (.cells #[.slice none 0 0, .int .u8 p, .pointer (some ⟨gr, 0, none⟩)] 98) = y := ⟨_, rfl⟩
  have hsz : w.heap.size + 1 ≤ w1.heap.size := by have := hb1.size; simp at this; omega
  have hgr' : w.heap.size + 1 ≤ gr := by simpa using hgr
  have hal : Below w1.heap.size w1 w2 := by rw [← hw2]; exact (Below.refl _ _).alloc (Nat.le_refl _) _
  have HCR : Hid (Cr (w.heap.size + 1) w1.heap.size gr w2 none 0 0 [] p ra rn rc xs 0) := by
    have hk : Kept (fun _ => False) w1 w2 := Kept.of_below hal (fun i hi hi' => by omega)
    refine ⟨hgr', hrr.lt, by rw [← hw2]; exact Blk_new w1 _ _, OwnG.nil _ _ _ _, rfl, by omega, ⟨p0, p1⟩, fun x hx => (by cases hx), hrr.keep hk id (fun _ _ => id), fun b hb => ?_, by omega, by have := HN.out; omega⟩
    have h1 := hrb b hb
    have h2 : w.heap.size + 1 ≤ b := by simpa using h1.1
    exact ⟨h2, h1.2⟩
  have HZ2 : Hid (w2.heap[w.heap.size]? = some (.cells #[.slice none 0 0, .int .u8 0] 46 (0, 0))) := heap_kept hal (heap_kept hb1 HZ.out)
  have HB2 : Hid (Below (w.heap.size + 1) (w.alloc (.cells #[.slice none 0 0, .int .u8 0] 46)) w2) := by
    have h1 : Below (w.heap.size + 1) (w.alloc (.cells #[.slice none 0 0, .int .u8 0] 46)) w1 := by have h := hb1; rwa [show (w.alloc (.cells #[.slice none 0 0, .int .u8 0] 46)).heap.size = w.heap.size + 1 by simp] at h
    exact h1.trans (hal.mono hsz)
  have HW2 := Lib.hid hw2
  clear hw2 hal hrr hgr hrb hb1 HR
  go_upto_region 2 with fail
  rw [HW2.out]
  clear HW2
  have HWS : Hid (w.heap.size + 1 ≤ w2.heap.size) := by show _ ≤ _; have := HCR.out.gl; have := HCR.out.lt; have := HCR.out.lo; omega
  go_wp2_with fail
  refine (sxHeaders_any (w.heap.size + 1) w1.heap.size gr w2 none 0 0 [] p ra rn rc xs 0 V HCR.out (by rw [HV.out]; rfl)).mono ?_
  rintro e w3 ⟨hb3, rfl, hok⟩
  have HZ3 : Hid (w3.heap[w.heap.size]? = some (.cells #[.slice none 0 0, .int .u8 0] 46 (0, 0))) := by
    show _ = _
    rw [← HZ2.out]
    exact hb3.block _ (Nat.lt_succ_self _)
  have HT3 : Hid (w3.there w.heap.size 0 2) := row_there HZ3.out 2 rfl
  have HB3 : Hid (Below w.heap.size w w3) := HBA.out.trans ((HB2.out.trans hb3).mono (Nat.le_succ _))
  have HOK := Lib.hid hok
  clear hb3 hok
  obtain ⟨E, hE⟩ : ∃ v, V.1 = v := ⟨_, rfl⟩
  have HE := Lib.hid hE
  rw [hE]
  clear hE
  by_cases h0 : E = 0
  · subst h0
    obtain ⟨es, ea, en, ec, ra', rn', rc', rest', hes, hcr⟩ := HOK.out HE.out
    have hne : ¬ w1.heap.size = w.heap.size := by omega
    have hne2 : ¬ w.heap.size = w1.heap.size := by omega
    have q0 := hcr.c0
    have q1 := hcr.c1
    have q2 := hcr.c2
    have hz0 : w3.cell? ⟨w.heap.size, 0, none⟩ = some (.slice none 0 0) := by rw [cell_of_row _ _ 0 _ _ (0, 0) HZ3.out]; rfl
    have hz1 : w3.cell? ⟨w.heap.size, 1, none⟩ = some (.int .u8 0) := by rw [cell_of_row _ _ 1 _ _ (0, 0) HZ3.out]; rfl
    have hf0 : w3.frozen? ⟨w.heap.size, 0, none⟩ = false := frozen_of_row w3 _ 0 _ _ HZ3.out
    have hf1 : w3.frozen? ⟨w.heap.size, 1, none⟩ = false := frozen_of_row w3 _ 1 _ _ HZ3.out
    have HCR3 := Lib.hid hcr
    have HES := Lib.hid hes
    have HAT : Hid (∀ wz, Below w3.heap.size w3 wz → Calls Try.prog 53 #[.pointer (some ⟨gr, 0, none⟩)] wz fun e w' => e = .returned (.int .i64 V.2.2.2) ∧ wz = w') := fun wz hz => sxAt_any gr ra' rn' rc' _ rest' wz (HCR3.out.below hz).rd
    have HDW : Hid (Below w3.heap.size w3 w3.drew) := to_drew w3
    obtain ⟨P, hP⟩ : ∃ v, V.2.2.1 = v := ⟨_, rfl⟩
    have HP := Lib.hid hP
    obtain ⟨T, hT⟩ : ∃ v, V.2.2.2 = v := ⟨_, rfl⟩
    have HT := Lib.hid hT
    rw [hP] at q1
    rw [hT] at HAT
    clear hcr hes hP hT
    go_wp2_with fail
    go_region_held3 (fun w' => w'.cell? ⟨w1.heap.size, 0, none⟩ = some (.slice ea en ec) ∧ w'.cell? ⟨w1.heap.size, 1, none⟩ = some (.int .u8 P) ∧ w'.cell? ⟨w1.heap.size, 2, none⟩ = some (.pointer (some ⟨gr, 0, none⟩))) (go_keep)
      (first
        | ((go_at_call 53; (with_reducible refine (HAT.out _ HDW.out).mono ?_); rintro e wa ⟨rfl, rfl⟩))
        | fail)
    clear q0 q1 q2 hz0 hz1 hf0 hf1
    obtain ⟨w4, hw4⟩ : ∃ y, ((w3.setCell ⟨w.heap.size, 0, none⟩ (.slice ea en ec)).setCell ⟨w.heap.size, 1, none⟩ (.int .u8 P)).drew = y := ⟨_, rfl⟩
    have hk4 : Kept (fun k => k = w.heap.size) w3 w4 := by
      rw [← hw4]
      exact ((Kept.setCell (S := fun k => k = w.heap.size) w3 _ _ rfl).trans (Kept.setCell (S := fun k => k = w.heap.size) _ _ _ rfl) (fun _ _ e => e)).drew
    have e1 := heap_setCell_same w3 w.heap.size 0 _ _ (.slice ea en ec) HZ3.out
    have e2 := heap_setCell_same _ w.heap.size 1 _ _ (.int .u8 P) e1
    have HR4 : Hid (w4.rangeAt w.heap.size 0 [.slice ea en ec, .int .u8 P]) := by rw [← hw4]; exact range_row2 (t := 46) e2
    have HB4 : Hid (Below w.heap.size w w4) := HB3.out.trans (hk4.below (by have := HB3.out.size; omega) (fun k e => by omega))
    have HO4 : Hid (OwnC w4 w.heap.size ea en ec es) := by
      have h1 : OwnC w3 (w1.heap.size + 1) ea en ec es := ⟨HCR3.out.len, HCR3.out.few, HCR3.out.row, HCR3.out.exts⟩
      have h2 : OwnC w4 (w1.heap.size + 1) ea en ec es := ⟨h1.len, h1.few, h1.row.keep hk4 (fun b hb e => by have := (h1.row.blk_ge b hb).1; omega), fun x hx => (h1.exts x hx).keep hk4 (fun b hb e => by have := ((h1.exts x hx).own.blk_ge b hb).1; omega)⟩
      exact h2.mono (by omega)
    have HKD : Hid (0 ≤ P ∧ P < 256) := by have h := HCR3.out.kind; rw [HP.out] at h; exact h
    rw [hw4]
    clear hk4 e1 e2 hw4
    go_wp2_with fail
    refine bodyPost_ret (ret_mid3 Try.results27 _ _ _ _ [.slice ea en ec, .int .u8 P] _ rfl HR4.out Try.underlying46 rfl infC2 _ _ rfl rfl) rfl ⟨HB4.out, .inr ⟨HE.out, es, ea, en, ec, by rw [HP.out, HT.out]; rfl, HES.out, HO4.out, by rw [HP.out]; exact HKD.out⟩⟩
  · have hbE : (E != 0) = true := by simpa using h0
    clear h0
    go_wp2_with (first
      | (refine stC 46 _ _ rfl rfl _ 0 [.slice none 0 0, .int .u8 0] rfl rfl HT3.out infC2 (by decide) ?_)
      | fail)
    refine bodyPost_ret (ret_mid3 Try.results27 _ _ _ _ [.slice none 0 0, .int .u8 0] _ rfl (World.rangeAt_setCells_same _ _ _ _ HT3.out) Try.underlying46 rfl infC2 _ _ rfl rfl) rfl ⟨Below.setCells HB3.out _ (Nat.le_refl _) _ _, .inl ⟨by rw [HE.out]; simpa using hbE, by rw [HE.out]; rfl⟩⟩
end Go.Proofs.Ythipnkaghddbhaa

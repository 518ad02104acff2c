/-
  Plain facts of IpsixBack: a chain that was put is parsed as it was, whatever stands behind; what is parsed is right, and stands as the bytes that it was parsed of. Conditions: bytes.
-/
import Derived.Test.YthipnkaghddbhaaSxParsesM
namespace Go.Proofs.Ythipnkaghddbhaa
open Go.RowKit

theorem rtE_knd {k : Int} {xs : List Int} (h : rtE k xs = true) : knd k = true := by
  unfold rtE at h
  split at h
  · rename_i e; subst e; rfl
  · rw [Bool.and_eq_true] at h; exact h.1
theorem rtE_size {k : Int} {xs : List Int} (h : rtE k xs = true) : (k = 44 ∧ xs.length = 6) ∨ (k ≠ 44 ∧ xs.length % 8 = 6 ∧ xs.length ≤ 2046) := by
  unfold rtE at h
  split at h
  · rename_i e
    rw [Bool.and_eq_true, decide_eq_true_eq] at h
    exact .inl ⟨e, h.1⟩
  · rename_i e
    rw [Bool.and_eq_true, Bool.and_eq_true, decide_eq_true_eq, decide_eq_true_eq] at h
    exact .inr ⟨e, h.2.1, h.2.2⟩
/-- The header at the head of bytes that begin with it. -/
theorem head_of {k f : Int} {xs zs : List Int} (h : rtE k xs = true) (c : Nat) (hc : c ≠ 16) (h0 : ¬ (k = 0 ∧ 0 < c)) :
    hdE k c (f :: scE k xs :: (xs ++ zs)) = 0 ∧ hdD k (f :: scE k xs :: (xs ++ zs)) = xs ∧ hdS k (f :: scE k xs :: (xs ++ zs)) = 2 + xs.length := by
  have hd : (dsz k (scE k xs)).toNat = xs.length := by
    rcases rtE_size h with ⟨rfl, hl⟩ | ⟨hk, h8, hl⟩
    · rw [hl]; rfl
    · unfold dsz scE
      rw [if_neg hk, if_neg hk]
      omega
  have hD : hdD k (f :: scE k xs :: (xs ++ zs)) = xs := by
    unfold hdD
    show ((xs ++ zs).take (dsz k (scE k xs)).toNat) = xs
    rw [hd, List.take_left]
  have hS : hdS k (f :: scE k xs :: (xs ++ zs)) = 2 + xs.length := by
    unfold hdS
    show 2 + (dsz k (scE k xs)).toNat = _
    rw [hd]
  refine ⟨?_, hD, hS⟩
  unfold hdE
  rw [hD, hS]
  rw [if_neg (fun e => e.elim hc h0), if_neg (by simp), if_neg (by simp; omega), if_pos ⟨rfl, h⟩]
theorem put_parse (p : Int) (ys : List Int) : ∀ (l : List (Int × List Int)) (f : Nat) (acc : List (Int × List Int)) (t : Int), rtH false acc.length l p = true → acc.length + l.length ≤ 16 → l.length < f →
    pcC f acc (sfB l p).2 ((sfB l p).1 ++ ys) t = (0, acc ++ l, p, t + ((sfB l p).1.length : Nat))
  | [], 0, _, _, _, _, hf => absurd hf (Nat.not_lt_zero _)
  | [], f + 1, acc, t, h, _, _ => by
    have hk : knd p = false := by simpa [rtH] using h
    rw [pcC_step]
    show (if knd p = false then _ else _) = _
    rw [if_pos hk]
    simp [sfB]
  | x :: r, 0, _, _, _, _, hf => absurd hf (Nat.not_lt_zero _)
  | (k, xs) :: r, f + 1, acc, t, h, hl, hf => by
    simp only [rtH, Bool.and_eq_true, Bool.not_eq_true', Bool.or_eq_false_iff, Bool.not_eq_false'] at h
    obtain ⟨⟨_, hr, hz⟩, hrest⟩ := h
    have h0 : ¬ (k = 0 ∧ 0 < acc.length) := fun e => by rw [decide_eq_true e.1, decide_eq_true e.2] at hz; cases hz
    simp only [List.length_cons] at hl hf
    have hsc := sc_same hr
    have hb : (sfB ((k, xs) :: r) p).1 ++ ys = (sfB r p).2 :: scE k xs :: (xs ++ ((sfB r p).1 ++ ys)) := by
      show ([(sfB r p).2, IntKind.u8.wrap (((xs.length : Int) + 2) / 8 - 1)] ++ xs ++ (sfB r p).1) ++ ys = _
      rw [hsc]; simp
    obtain ⟨hE, hD, hS⟩ := head_of (f := (sfB r p).2) (zs := (sfB r p).1 ++ ys) hr acc.length (by omega) h0
    rw [hb, show (sfB ((k, xs) :: r) p).2 = k from rfl, pcC_step, rtE_knd hr, if_neg (by decide), if_neg (by rw [hE]; decide), hD, hS]
    have hlen : ((sfB ((k, xs) :: r) p).1.length : Int) = 2 + xs.length + ((sfB r p).1.length : Int) := by
      show (([(sfB r p).2, IntKind.u8.wrap (((xs.length : Int) + 2) / 8 - 1)] ++ xs ++ (sfB r p).1).length : Int) = _
      simp; omega
    by_cases hlt : ltE k xs = true
    · rw [if_pos hlt]
      rw [hlt] at hrest
      cases r with
      | nil =>
        rw [hlen]
        show (0, acc ++ [(k, xs)], p, _) = _
        simp [sfB]
      | cons y r => simp [rtH] at hrest
    · rw [if_neg hlt]
      have hlf : ltE k xs = false := by simpa using hlt
      rw [hlf] at hrest
      have ih := put_parse p ys r f (acc ++ [(k, xs)]) (t + ((2 + xs.length : Nat) : Int)) (by simpa using hrest) (by simp; omega) (by omega)
      have hdr : ((sfB r p).2 :: scE k xs :: (xs ++ ((sfB r p).1 ++ ys))).drop (2 + xs.length) = (sfB r p).1 ++ ys := by
        rw [Nat.add_comm]
        show (xs ++ ((sfB r p).1 ++ ys)).drop xs.length = _
        rw [List.drop_left]
      rw [hdr]
      show pcC f (acc ++ [(k, xs)]) (sfB r p).2 _ _ = _
      rw [ih, hlen]
      simp
      omega
theorem back_chain {es : List Ex} {p : Int} (h : rtC es p = true) (ys : List Int) : pcV (cmE es p 0) (chB es p es.length ++ ys) = (0, es.map Ex.two, p, ((chB es p es.length).length : Int)) := by
  have hs := sfB_rt h
  have hr : rtR (es.map Ex.two) p = true := by rw [rtR_map]; exact h
  have hr2 := hr
  unfold rtR at hr2
  rw [Bool.and_eq_true, decide_eq_true_eq] at hr2
  have := put_parse p ys (es.map Ex.two) 17 [] 0 hr2.2 (by simpa using hr2.1) (by have := hr2.1; omega)
  rw [hs] at this
  unfold pcV
  rw [show pcC 17 [] (cmE es p 0) (chB es p es.length ++ ys) 0 = _ from this]
  simp
/-- What is parsed is right, and stands as the bytes that it was parsed of. -/
theorem parse_put : ∀ (f : Nat) (acc : List (Int × List Int)) (k : Int) (xs : List Int) (t : Int), Byt xs → acc.length ≤ 16 → (pcC f acc k xs t).1 = 0 →
    ∃ l : List (Int × List Int), (pcC f acc k xs t).2.1 = acc ++ l ∧ rtH false acc.length l (pcC f acc k xs t).2.2.1 = true ∧ acc.length + l.length ≤ 16 ∧ ∃ m : Nat, (pcC f acc k xs t).2.2.2 = t + m ∧ m ≤ xs.length ∧ sfB l (pcC f acc k xs t).2.2.1 = (xs.take m, k)
  | 0, _, _, _, _, _, _, h => by simp [pcC] at h
  | f + 1, acc, k, xs, t, hb, h16, h => by
    rw [pcC_step] at h ⊢
    split at h
    · rename_i hk
      rw [if_pos hk]
      exact ⟨[], (List.append_nil _).symm, by show (false || !knd k) = true; rw [hk]; rfl, by simpa using h16, 0, (Int.add_zero _).symm, Nat.zero_le _, rfl⟩
    · rename_i hk
      rw [if_neg hk]
      have hkn : knd k = true := by simpa using hk
      split at h
      · rename_i he; exact absurd h he
      · rename_i he
        rw [if_neg he]
        have he' : hdE k acc.length xs = 0 := Decidable.not_not.1 he
        have hfacts : ¬ (acc.length = 16 ∨ (k = 0 ∧ 0 < acc.length)) ∧ ¬ xs.length < 2 ∧ ¬ xs.length < hdS k xs ∧ scE k (hdD k xs) = xs.getD 1 0 ∧ rtE k (hdD k xs) = true := by
          unfold hdE at he'
          split at he'
          · cases he'
          rename_i h1
          split at he'
          · cases he'
          rename_i h2
          split at he'
          · cases he'
          rename_i h3
          split at he'
          · rename_i h4; exact ⟨h1, h2, h3, h4.1, h4.2⟩
          · cases he'
        obtain ⟨h1, h2, h3, h4, h5⟩ := hfacts
        have hc16 : acc.length ≠ 16 := fun e => h1 (.inl e)
        have hz : (decide (k = 0) && decide (0 < acc.length)) = false := by
          cases hd : (decide (k = 0) && decide (0 < acc.length)) with
          | false => rfl
          | true => rw [Bool.and_eq_true, decide_eq_true_eq, decide_eq_true_eq] at hd; exact absurd (.inr hd) h1
        have htk : xs.take (hdS k xs) = xs.getD 0 0 :: scE k (hdD k xs) :: hdD k xs := by
          rw [h4]
          match xs, h2 with
          | [], h2 => simp at h2
          | [_], h2 => simp at h2
          | a :: b :: r, _ =>
            unfold hdS hdD
            rw [Nat.add_comm]
            rfl
        split at h
        · rename_i hl
          rw [if_pos hl]
          refine ⟨[(k, hdD k xs)], rfl, ?_, by simp; omega, hdS k xs, rfl, by omega, ?_⟩
          · show (!(false || (!rtE k (hdD k xs) || (decide (k = 0) && decide (0 < acc.length)))) && (ltE k (hdD k xs) || !knd (xs.getD 0 0))) = true
            rw [h5, hz, hl]; rfl
          · show ([xs.getD 0 0, IntKind.u8.wrap ((((hdD k xs).length : Int) + 2) / 8 - 1)] ++ hdD k xs ++ [], k) = _
            rw [sc_same h5, htk]
            simp
        · rename_i hl
          rw [if_neg hl]
          obtain ⟨l, e1, e2, e3, m, e4, e5, e6⟩ := parse_put f (acc ++ [(k, hdD k xs)]) (xs.getD 0 0) (xs.drop (hdS k xs)) (t + hdS k xs) (hb.drop _) (by simp; omega) h
          obtain ⟨R, hR⟩ : ∃ q, pcC f (acc ++ [(k, hdD k xs)]) (xs.getD 0 0) (xs.drop (hdS k xs)) (t + hdS k xs) = q := ⟨_, rfl⟩
          rw [hR] at e1 e2 e4 e6 ⊢
          have hlf : ltE k (hdD k xs) = false := by simpa using hl
          refine ⟨(k, hdD k xs) :: l, by rw [e1]; simp, ?_, by simp at e3 ⊢; omega, hdS k xs + m, by rw [e4]; omega, ?_, ?_⟩
          · show (!(false || (!rtE k (hdD k xs) || (decide (k = 0) && decide (0 < acc.length)))) && rtH (ltE k (hdD k xs)) (acc.length + 1) l R.2.2.1) = true
            rw [h5, hz, hlf]
            simpa using e2
          · rw [List.length_drop] at e5; omega
          · show ([(sfB l R.2.2.1).2, IntKind.u8.wrap ((((hdD k xs).length : Int) + 2) / 8 - 1)] ++ hdD k xs ++ (sfB l R.2.2.1).1, k) = _
            rw [e6, sc_same h5, List.take_add, htk]
            simp
theorem parsed_right {first : Int} {b : List Int} {es : List Ex} (hb : Byt b) (h : (pcV first b).1 = 0) (he : es.map Ex.two = (pcV first b).2.1) :
    rtC es (pcV first b).2.2.1 = true ∧ cmE es (pcV first b).2.2.1 0 = first ∧ ∃ m : Nat, (pcV first b).2.2.2 = (m : Int) ∧ m ≤ b.length ∧ chB es (pcV first b).2.2.1 es.length = b.take m := by
  obtain ⟨l, e1, e2, e3, m, e4, e5, e6⟩ := parse_put 17 [] first b 0 hb (by simp) h
  have el : l = es.map Ex.two := by rw [he]; exact (e1.trans (List.nil_append l)).symm
  have hr : rtC es (pcV first b).2.2.1 = true := by
    rw [← rtR_map, ← el]
    unfold rtR
    rw [Bool.and_eq_true, decide_eq_true_eq]
    exact ⟨by simpa using e3, e2⟩
  have hs := sfB_rt hr
  rw [← el] at hs
  have h6 : sfB l (pcV first b).2.2.1 = (b.take m, first) := e6
  rw [h6] at hs
  have hs2 := Prod.mk.inj hs
  exact ⟨hr, hs2.2.symm, m, by have := e4; rw [Int.zero_add] at this; exact this, e5, hs2.1.symm⟩
/-- A header, a chain, what is behind them, and more, is parsed as it was put. -/
theorem body_back (h : H6) (k : h.ok) (hf : h.fl < 1048576) {es : List Ex} {p : Int} (hrt : rtC es p = true) (ys zs : List Int) (hn : h.nx = cmE es p 0) (hl : h.ln = (((chB es p es.length).length + ys.length : Nat) : Int)) (xs : List Int) (hx : xs = h6b h ++ (chB es p es.length ++ (ys ++ zs))) :
    bdE xs = 0 ∧ bdH xs = h ∧ bdL xs = es.map Ex.two ∧ bdP xs = p ∧ bdX xs = ys := by
  obtain ⟨hE, hO⟩ := back6 h k hf (chB es p es.length ++ (ys ++ zs))
  rw [← hx] at hE hO
  have hR : bdR xs = chB es p es.length ++ ys := by
    unfold bdR
    rw [hO, hl, Int.toNat_natCast, hx, ← h6b_len k, List.drop_left, ← List.append_assoc, ← List.length_append, List.take_left]
  have hC : bdC xs = (0, es.map Ex.two, p, ((chB es p es.length).length : Int)) := by
    unfold bdC
    rw [hO, hR, hn]
    exact back_chain hrt ys
  have hlen : ¬ (xs.length : Int) < 40 + h.ln := by
    rw [hl, hx]
    simp only [List.length_append, h6b_len k]
    omega
  have hB0 : bdE xs = 0 := by
    unfold bdE
    rw [if_neg (by rw [hE]; decide), hO, if_neg hlen, hC]
  refine ⟨hB0, ?_, ?_, ?_, ?_⟩
  · rw [bdH, if_pos hB0, hO]
  · rw [bdL, if_pos hB0, hC]
  · rw [bdP, if_pos hB0, hC]
  · rw [bdX, if_pos hB0, bdB, hC, hR, Int.toNat_natCast, List.drop_left]
end Go.Proofs.Ythipnkaghddbhaa

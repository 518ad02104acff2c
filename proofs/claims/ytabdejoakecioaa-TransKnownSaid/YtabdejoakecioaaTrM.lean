/-
  Plain facts on segments of layer 7: what is right, how one stands, what bytes tell, and what its checksum finds. No conditions but those that each theorem names.
-/
import Derived.Test.YtabdejoakecioaaTrLeaf
namespace Go.Proofs.Ytabdejoakecioaa
open Go.RowKit

/-- How many bytes a protocol's header has at least; 0: it is none. -/
def hdN (p : Int) : Nat := if p = 6 then 20 else if p = 17 then 8 else if p = 1 then 4 else if p = 58 then 4 else 0
/-- Where the checksum stands. -/
def smAt (p : Int) : Nat := if p = 6 then 16 else if p = 17 then 6 else 2
/-- What a protocol's segment has. -/
def ownP (s : Pl) (p : Int) : Pl :=
  if p = 6 then { s with ty := 0, co := 0 } else if p = 17 then { pl0 with pro := s.pro, src := s.src, dst := s.dst, dt := s.dt } else { pl0 with pro := s.pro, ty := s.ty, co := s.co, dt := s.dt }
theorem own_p (s : Sg) (p : Int) : (s.own p).p = ownP s.p p := by
  unfold Sg.own ownP
  split
  · rfl
  · split <;> rfl
/-- Is a segment right? -/
def rgP (s : Pl) : Bool := decide (hdN s.pro ≠ 0) && (smP s (ownP s s.pro) && (decide (s.op.length % 4 = 0) && (decide (s.op.length ≤ 40) && decide (hdN s.pro + s.op.length + s.dt.length ≤ 65535))))
theorem rgP_iff (s : Pl) : rgP s = true ↔ hdN s.pro ≠ 0 ∧ s = ownP s s.pro ∧ s.op.length % 4 = 0 ∧ s.op.length ≤ 40 ∧ hdN s.pro + s.op.length + s.dt.length ≤ 65535 := by
  simp only [rgP, Bool.and_eq_true, decide_eq_true_eq, smP_iff]
/-- How a segment stands, with a checksum. -/
def hdS (s : Pl) (c : Int) : List Int :=
  if s.pro = 6 then ((((((((([] : List Int) ++ be 2 s.src) ++ be 2 s.dst) ++ be 4 s.seq) ++ be 4 s.ack) ++ be 1 (80 + s.op.length * 4)) ++ be 1 s.fl) ++ be 2 s.win) ++ be 2 c) ++ be 2 s.urg
  else if s.pro = 17 then (((([] : List Int) ++ be 2 s.src) ++ be 2 s.dst) ++ be 2 (8 + s.dt.length)) ++ be 2 c
  else ((([] : List Int) ++ be 1 s.ty) ++ be 1 s.co) ++ be 2 c
def sbS (s : Pl) (c : Int) : List Int := (hdS s c ++ s.op) ++ s.dt
theorem hdS_len (s : Pl) (c : Int) (h : hdN s.pro ≠ 0) : (hdS s c).length = hdN s.pro := by
  unfold hdN at h ⊢
  unfold hdS
  by_cases h6 : s.pro = 6
  · rw [if_pos h6, if_pos h6]; simp [be_length]
  · by_cases h17 : s.pro = 17
    · rw [if_neg h6, if_pos h17, if_neg h6, if_pos h17]; simp [be_length]
    · rw [if_neg h6, if_neg h17] at h ⊢
      rw [if_neg h6, if_neg h17]
      simp only [List.length_append, be_length, List.length_nil]
      split at h
      · rename_i e; rw [if_pos e]
      · rename_i e; rw [if_neg e]; split at h
        · rename_i e2; rw [if_pos e2]
        · exact absurd rfl h
theorem sbS_len (s : Pl) (c : Int) (h : hdN s.pro ≠ 0) : (sbS s c).length = hdN s.pro + s.op.length + s.dt.length := by
  unfold sbS; simp only [List.length_append, hdS_len s c h]
theorem hdS_byt (s : Pl) (c : Int) : Byt (hdS s c) := by
  have hb : ∀ k v, Byt (be k v) := fun k v => be_range k v
  unfold hdS
  split
  · exact ((((((((Byt.nil.append (hb _ _)).append (hb _ _)).append (hb _ _)).append (hb _ _)).append (hb _ _)).append (hb _ _)).append (hb _ _)).append (hb _ _)).append (hb _ _)
  · split
    · exact (((Byt.nil.append (hb _ _)).append (hb _ _)).append (hb _ _)).append (hb _ _)
    · exact ((Byt.nil.append (hb _ _)).append (hb _ _)).append (hb _ _)
theorem sbS_byt (s : Pl) (c : Int) (h1 : Byt s.op) (h2 : Byt s.dt) : Byt (sbS s c) := ((hdS_byt s c).append h1).append h2
/-- A segment with its checksum is another one but for two bytes. -/
theorem splice_mid (xs ys zs vs : List Int) (h : vs.length = ys.length) : splice (xs ++ ys ++ zs) xs.length vs = xs ++ vs ++ zs := by
  unfold splice
  have e1 : (xs ++ ys ++ zs).take xs.length = xs := by rw [List.append_assoc]; exact List.take_left
  have e2 : (xs ++ ys ++ zs).drop (xs.length + vs.length) = zs := by rw [h, ← List.length_append]; exact List.drop_left
  rw [e1, e2]
/-- What stands ahead of the checksum, and behind it. -/
theorem sbS_parts (s : Pl) : ∃ A B, A.length = smAt s.pro ∧ ∀ c, sbS s c = A ++ be 2 c ++ B := by
  unfold sbS hdS smAt
  by_cases h6 : s.pro = 6
  · refine ⟨((((((([] : List Int) ++ be 2 s.src) ++ be 2 s.dst) ++ be 4 s.seq) ++ be 4 s.ack) ++ be 1 (80 + s.op.length * 4)) ++ be 1 s.fl) ++ be 2 s.win, be 2 s.urg ++ s.op ++ s.dt, ?_, fun c => ?_⟩
    · rw [if_pos h6]; simp [be_length]
    · rw [if_pos h6]; simp
  · by_cases h17 : s.pro = 17
    · refine ⟨((([] : List Int) ++ be 2 s.src) ++ be 2 s.dst) ++ be 2 (8 + s.dt.length), s.op ++ s.dt, ?_, fun c => ?_⟩
      · rw [if_neg h6, if_pos h17]; simp [be_length]
      · rw [if_neg h6, if_pos h17]; simp
    · refine ⟨(([] : List Int) ++ be 1 s.ty) ++ be 1 s.co, s.op ++ s.dt, ?_, fun c => ?_⟩
      · rw [if_neg h6, if_neg h17]; simp [be_length]
      · rw [if_neg h6, if_neg h17]; simp
theorem sbS_splice (s : Pl) (c : Int) : splice (sbS s 0) (smAt s.pro) (be 2 c) = sbS s c := by
  obtain ⟨A, B, hl, hc⟩ := sbS_parts s
  rw [hc 0, hc c, ← hl]
  exact splice_mid A (be 2 0) B (be 2 c) (by rw [be_length, be_length])

/-- A pseudo header, and what a checksum goes over. -/
def psd (p : Int) (m : Nat) (src dst : List Int) : List Int := (src ++ dst) ++ (if src.length = 4 then be 2 p ++ be 2 m else be 4 m ++ be 4 p)
def cov (p : Int) (xs src dst : List Int) : List Int := if p = 1 then xs else psd p xs.length src dst ++ xs
theorem psd_byt (p : Int) (m : Nat) {src dst : List Int} (h1 : Byt src) (h2 : Byt dst) : Byt (psd p m src dst) := by
  have hb : ∀ k v, Byt (be k v) := fun k v => be_range k v
  unfold psd
  refine (h1.append h2).append ?_
  split
  · exact (hb _ _).append (hb _ _)
  · exact (hb _ _).append (hb _ _)
theorem cov_byt (p : Int) {xs src dst : List Int} (h : Byt xs) (h1 : Byt src) (h2 : Byt dst) : Byt (cov p xs src dst) := by
  unfold cov; split
  · exact h
  · exact (psd_byt p _ h1 h2).append h
theorem psd_len {p : Int} {m : Nat} {src dst : List Int} (h : adB src.length dst.length = true) : (psd p m src dst).length % 2 = 0 ∧ (psd p m src dst).length ≤ 40 := by
  obtain ⟨h1, h2⟩ := (adB_iff _ _).1 h
  unfold psd
  split <;> simp [be_length] <;> omega
/-- The checksum. -/
def ckS (s : Pl) (src dst : List Int) : Int :=
  if 65535 - fld (ws 0 (cov s.pro (sbS s 0) src dst)) = 0 ∧ s.pro = 17 then 65535 else 65535 - fld (ws 0 (cov s.pro (sbS s 0) src dst))
theorem ckS_range (s : Pl) (src dst : List Int) (h : Byt (cov s.pro (sbS s 0) src dst)) : 0 ≤ ckS s src dst ∧ ckS s src dst ≤ 65535 := by
  have := @fld_range (ws 0 (cov s.pro (sbS s 0) src dst)) (ws_range _ 0 h).1
  unfold ckS; split <;> omega
/-- What Put answers: the error, and the bytes. -/
def ptE (s : Pl) (n m : Nat) : Int := if hdN s.pro = 0 then 70 else if rgP s = false then 51 else if adB n m = false then 2 else 0
def ptB (s : Pl) (src dst : List Int) : List Int := if ptE s src.length dst.length = 0 then sbS s (ckS s src dst) else []
theorem ptE_zero {s : Pl} {n m : Nat} : ptE s n m = 0 ↔ hdN s.pro ≠ 0 ∧ rgP s = true ∧ adB n m = true := by
  unfold ptE
  by_cases h1 : hdN s.pro = 0
  · simp [h1]
  · cases h2 : rgP s <;> cases h3 : adB n m <;> simp [h1]
theorem ptB_byt (s : Pl) (src dst : List Int) (h1 : Byt s.op) (h2 : Byt s.dt) : Byt (ptB s src dst) := by
  unfold ptB; split
  · exact sbS_byt s _ h1 h2
  · exact Byt.nil

/-- Where a segment's header ends, where all of it does, and the error. -/
def bdH (p : Int) (xs : List Int) : Int := if p = 6 then xs.getD 12 0 / 16 * 4 else if p = 17 then 8 else 4
def bdA (p : Int) (xs : List Int) : Int := if p = 17 then wordAt xs 4 else xs.length
def bdE (p : Int) (xs : List Int) : Int :=
  if (xs.length : Int) < hdN p then 10 else if 65535 < xs.length then 51 else if bdH p xs < hdN p ∨ bdA p xs < hdN p then 51 else if xs.length < bdH p xs ∨ xs.length < bdA p xs then 10 else 0
def prE (p : Int) (xs : List Int) : Int := if hdN p = 0 then 70 else bdE p xs
/-- What the head tells, and what all does. -/
def gtP (p : Int) (xs : List Int) : Pl :=
  if p = 6 then { pl0 with src := wordAt xs 0, dst := wordAt xs 2, seq := lng xs 4, ack := lng xs 8, fl := xs.getD 13 0, win := wordAt xs 14, urg := wordAt xs 18 }
  else if p = 17 then { pl0 with src := wordAt xs 0, dst := wordAt xs 2 }
  else { pl0 with ty := xs.getD 0 0, co := xs.getD 1 0 }
def prP (p : Int) (xs : List Int) : Pl :=
  if prE p xs = 0 then { gtP p xs with pro := p, op := (xs.drop (hdN p)).take ((bdH p xs).toNat - hdN p), dt := (xs.drop (bdH p xs).toNat).take ((bdA p xs).toNat - (bdH p xs).toNat) } else pl0
theorem bdE_zero {p : Int} {xs : List Int} (hp : bdE p xs = 0) : hdN p ≤ xs.length ∧ xs.length ≤ 65535 ∧ (hdN p : Int) ≤ bdH p xs ∧ (hdN p : Int) ≤ bdA p xs ∧ bdH p xs ≤ xs.length ∧ bdA p xs ≤ xs.length := by
  unfold bdE at hp
  split at hp
  · cases hp
  split at hp
  · cases hp
  split at hp
  · cases hp
  split at hp
  · cases hp
  omega
theorem prE_zero {p : Int} {xs : List Int} (hp : prE p xs = 0) : hdN p ≠ 0 ∧ bdE p xs = 0 := by
  unfold prE at hp
  split at hp
  · cases hp
  · exact ⟨by assumption, hp⟩
theorem bdH_le {p : Int} {xs : List Int} (hp : prE p xs = 0) : bdH p xs ≤ bdA p xs := by
  obtain ⟨h0, hb⟩ := prE_zero hp
  obtain ⟨h1, h2, h3, h4, h5, h6⟩ := bdE_zero hb
  unfold bdA bdH hdN at *
  by_cases h17 : p = 17
  · subst h17; simp at *; omega
  · simp [h17] at *; omega
theorem gtP_fit (p : Int) {xs : List Int} (hb : Byt xs) : (gtP p xs).fit := by
  have hw := fun j => wordAt_range hb j
  have hw' : ∀ j, 0 ≤ wordAt xs j ∧ wordAt xs j < 65536 := fun j => by have := hw j; omega
  have hl := fun j => lng_range hb j
  have hx := fun j => hb.get j
  unfold gtP
  split
  · exact ⟨z8, hw' 0, hw' 2, hl 4, hl 8, hx 13, hw' 14, hw' 18, Byt.nil, z8, z8, Byt.nil⟩
  · split
    · exact ⟨z8, hw' 0, hw' 2, z32, z32, z8, z16, z16, Byt.nil, z8, z8, Byt.nil⟩
    · exact ⟨z8, z16, z16, z32, z32, z8, z16, z16, Byt.nil, hx 0, hx 1, Byt.nil⟩
theorem prP_fit {p : Int} {xs : List Int} (hb : Byt xs) (h0 : 0 ≤ p) (h1 : p < 256) : (prP p xs).fit := by
  have g := gtP_fit p hb
  unfold prP
  split
  · exact ⟨⟨h0, h1⟩, g.src, g.dst, g.seq, g.ack, g.fl, g.win, g.urg, (hb.drop _).take _, g.ty, g.co, (hb.drop _).take _⟩
  · exact pl0_fit
/-- Is a segment sound? -/
def snd (p : Int) (xs src dst : List Int) : Bool :=
  decide (prE p xs = 0) && (adB src.length dst.length && ((decide (p = 17) && (decide (src.length = 4) && decide (wordAt xs 6 = 0))) || whl (ws 0 (cov p (xs.take (bdA p xs).toNat) src dst))))
end Go.Proofs.Ytabdejoakecioaa

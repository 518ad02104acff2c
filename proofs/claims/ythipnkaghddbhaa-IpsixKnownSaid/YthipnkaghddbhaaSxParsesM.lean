/-
  What ParseChain and Body answer, errors and values in one; Spoil with what it leaves of other rows. Conditions: those that each theorem names.
-/
import Derived.Test.YthipnkaghddbhaaSxRBody
import Derived.Test.YthipnkaghddbhaaSxHeadsM
namespace Go.Proofs.Ythipnkaghddbhaa
open Go.RowKit

def pcW (V : Int × List (Int × List Int) × Int × Int) : Int × List (Int × List Int) × Int × Int := if V.1 = 0 then V else (V.1, [], 0, 0)
theorem pcW_e (V : Int × List (Int × List Int) × Int × Int) : (pcW V).1 = V.1 := by unfold pcW; split <;> rfl
theorem OwnC.none_ (w : World) (base : Nat) : OwnC w base none 0 0 [] := ⟨rfl, by omega, OwnG.nil _ _ _ _, fun x hx => by cases hx⟩
theorem PCR.one {w w' : World} {V : Int × List (Int × List Int) × Int × Int} {e : Ending} (h : PCR w V e w') : Below w.heap.size w w' ∧ ∃ es a n c, e = .returned (.tuple #[.agg #[.slice a n c, .int .u8 (pcW V).2.2.1], .int .i64 (pcW V).2.2.2, .int .i64 V.1]) ∧ es.map Ex.two = (pcW V).2.1 ∧ OwnC w' w.heap.size a n c es ∧ (0 ≤ (pcW V).2.2.1 ∧ (pcW V).2.2.1 < 256) := by
  by_cases hv : V.1 = 0
  · obtain ⟨hb, es, a, n, c, he, hes, ho, hk⟩ := h.some_ hv
    have e1 : pcW V = V := if_pos hv
    rw [e1, hv]
    exact ⟨hb, es, a, n, c, he, hes, ho, hk⟩
  · obtain ⟨hb, he⟩ := h.none_ hv
    have e1 : pcW V = (V.1, [], 0, 0) := if_neg hv
    rw [e1]
    exact ⟨hb, [], none, 0, 0, he, rfl, OwnC.none_ _ _, Int.le_refl _, by show (0 : Int) < 256; omega⟩
theorem RPCR.one {w w' : World} {V : Int × List (Int × List Int) × Int × Int} {e : Ending} (h : RPCR w V e w') : Below w.heap.size w w' ∧ ∃ a n c, e = .returned (.tuple #[.agg #[.slice a n c, .int .u8 (pcW V).2.2.1], .int .i64 (pcW V).2.2.2, .int .i64 V.1]) ∧ OwnR w' w.heap.size a n c (pcW V).2.1 := by
  by_cases hv : V.1 = 0
  · obtain ⟨hb, a, n, c, he, ho⟩ := h.some_ hv
    have e1 : pcW V = V := if_pos hv
    rw [e1, hv]
    exact ⟨hb, a, n, c, he, ho⟩
  · obtain ⟨hb, he⟩ := h.none_ hv
    have e1 : pcW V = (V.1, [], 0, 0) := if_neg hv
    rw [e1]
    exact ⟨hb, none, 0, 0, he, OwnR.nil _ _⟩
def bdH (xs : List Int) : H6 := if bdE xs = 0 then h6Of xs else h60
def bdL (xs : List Int) : List (Int × List Int) := if bdE xs = 0 then (bdC xs).2.1 else []
def bdP (xs : List Int) : Int := if bdE xs = 0 then (bdC xs).2.2.1 else 0
def bdX (xs : List Int) : List Int := if bdE xs = 0 then bdB xs else []
def bdG (xs : List Int) : List Value := if bdE xs = 0 then r6c (h6Of xs) else r60
theorem bdE_long {xs : List Int} (h : bdE xs = 0) : 40 ≤ xs.length := by
  unfold bdE at h
  split at h
  · rename_i h1; exact absurd h h1
  · rename_i h1
    have h2 : peE xs = 0 := Decidable.not_not.1 h1
    unfold peE at h2
    split at h2
    · cases h2
    · omega
theorem bdH_ok {xs : List Int} (hb : Byt xs) : (bdH xs).ok := by
  unfold bdH
  split
  · rename_i h; exact h6Of_ok hb (bdE_long h)
  · exact h60_ok
theorem bdX_byt {xs : List Int} (hb : Byt xs) : Byt (bdX xs) := by
  unfold bdX
  split
  · exact ((hb.drop _).take _).drop _
  · exact Byt.nil
theorem bdX_len {xs : List Int} : (bdX xs).length ≤ xs.length := by
  unfold bdX
  split
  · unfold bdB bdR; simp; omega
  · exact Nat.zero_le _
theorem BodyS.one {w w' : World} {xs : List Int} {e : Ending} (h : BodyS w xs e w') : Below w.heap.size w w' ∧ ∃ es a n c b m d, e = .returned (.tuple #[.agg (bdH xs).cs.toArray, .agg #[.slice a n c, .int .u8 (bdP xs)], .slice b m d, .int .i64 (bdE xs)]) ∧ es.map Ex.two = bdL xs ∧ OwnC w' w.heap.size a n c es ∧ (0 ≤ bdP xs ∧ bdP xs < 256) ∧ Own w' w.heap.size b m d (bdX xs) := by
  obtain ⟨hb, ⟨hv, he⟩ | ⟨hv, es, a, n, c, b, m, d, he, hes, hoc, hk, ho⟩⟩ := h
  · refine ⟨hb, [], none, 0, 0, none, 0, 0, ?_, ?_, OwnC.none_ _ _, ?_, ?_⟩
    · rw [he, bdH, bdP, if_neg hv, if_neg hv]
    · rw [bdL, if_neg hv]; rfl
    · rw [bdP, if_neg hv]; omega
    · rw [bdX, if_neg hv]; exact Own.nil _ _
  · refine ⟨hb, es, a, n, c, b, m, d, ?_, ?_, hoc, ?_, ?_⟩
    · rw [he, bdH, bdP, if_pos hv, if_pos hv, hv]
    · rw [bdL, if_pos hv]; exact hes
    · rw [bdP, if_pos hv]; exact hk
    · rw [bdX, if_pos hv]; exact ho
theorem RBodyS.one {w w' : World} {xs : List Int} {e : Ending} (h : RBodyS w xs e w') : Below w.heap.size w w' ∧ ∃ a n c b m d, e = .returned (.tuple #[.agg (bdG xs).toArray, .agg #[.slice a n c, .int .u8 (bdP xs)], .slice b m d, .int .i64 (bdE xs)]) ∧ OwnR w' w.heap.size a n c (bdL xs) ∧ (bdX xs).length = m ∧ Rd w' b (bdX xs) := by
  obtain ⟨hb, ⟨hv, he⟩ | ⟨hv, a, n, c, b, m, d, he, hoc, hl, ho⟩⟩ := h
  · refine ⟨hb, none, 0, 0, none, 0, 0, ?_, ?_, ?_, ?_⟩
    · rw [he, bdG, bdP, if_neg hv, if_neg hv]
    · rw [bdL, if_neg hv]; exact OwnR.nil _ _
    · rw [bdX, if_neg hv]; rfl
    · rw [bdX, if_neg hv]; exact Rd.empty _ _
  · refine ⟨hb, a, n, c, b, m, d, ?_, ?_, ?_, ?_⟩
    · rw [he, bdG, bdP, if_pos hv, if_pos hv, hv]
    · rw [bdL, if_pos hv]; exact hoc
    · rw [bdX, if_pos hv]; exact hl
    · rw [bdX, if_pos hv]; exact ho
theorem nobd (xs : List Int) (hb : Byt xs) (w : World) : Calls Try.prog 16 #[.agg (bdG xs).toArray] w (Gives w (.agg (r6c (bdH xs)).toArray)) := by
  unfold bdG bdH
  split
  · rename_i h; exact d6No_some _ w (h6Of_ok hb (bdE_long h))
  · exact d6No_zero w

theorem kSpoil_inv (base : Nat) (a : Option Addr) (n cap : Nat) (xs : List Int) (w : World) (h : Own w base a n cap xs) (hl : n ≤ 70368744177664) (I : World → Prop) (hI : I w)
    (hs : ∀ (z : World) (g j : Nat) (y : Int), a = some ⟨g, 0, none⟩ → I z → (∃ zs, Own z base a n cap zs) → I (z.setCell ⟨g, j, none⟩ (.int .u8 y))) :
    Calls Try.prog 31 #[.slice a n cap] w fun e w' => e = .returned (.tuple #[]) ∧ I w' := by
  have HI : Hid (Inc w base a n cap w ∧ I w) := ⟨Inc.start h, hI⟩
  have HS := Lib.hid hs
  clear h hI hs
  go_enter Try.func31, Try.ntmps31
  go_wp2_with fail
  go_loopw [2] (fun i wr => ∃ k : Nat, k ≤ n ∧ i = .int .i64 k ∧ Hid (Inc w base a n cap wr ∧ I wr)) (fun i _ => n - (intOf i).toNat)
  case atStart => exact ⟨0, Nat.zero_le _, rfl, HI⟩
  case round =>
    obtain ⟨k, hk, rfl, hin⟩ := hrel
    rename World => wr
    by_cases hlt : k < n
    · have HO : Hid (∃ zs, Own wr base a n cap zs) := by obtain ⟨zs, h1, _⟩ := hin.out.1; exact ⟨zs, h1⟩
      obtain ⟨g, z, rfl, hz, hf, hnext⟩ := hin.out.1.at_ hlt
      have HX : Hid (∀ y, Inc w base (some ⟨g, 0, none⟩) n cap (wr.setCell ⟨g, k, none⟩ (.int .u8 y)) ∧ I (wr.setCell ⟨g, k, none⟩ (.int .u8 y))) := fun y => ⟨hnext y, HS.out wr g k y rfl hin.out.2 HO.out⟩
      clear hnext
      go_wp2_with fail
      go_roundw
      case rel => exact ⟨k + 1, by omega, by go_num, HX.out _⟩
      case measure => simp [intOf]; omega
    · go_wp2_with fail
      go_end0
      exact ⟨rfl, hin.out.2⟩

/-- Two chains of the call's own in their blocks; their data hold some bytes. -/
structure SpI (B : Nat) (w0 : World) (b7 b14 : Nat) (ea : Option Addr) (en ec : Nat) (es : List Ex) (p : Int) (fa : Option Addr) (fn fc : Nat) (fs : List Ex) (q : Int) (z : World) : Prop where
  blw : Below B w0 z
  h7 : z.heap[b7]? = some (.cells #[.slice ea en ec, .int .u8 p] 46 (0, 0))
  h14 : z.heap[b14]? = some (.cells #[.slice fa fn fc, .int .u8 q] 46 (0, 0))
  re : OwnG z B 71 2 ea en ec (es.flatMap xcs)
  rf : OwnG z B 71 2 fa fn fc (fs.flatMap xcs)
  de : ∀ x ∈ es, ∃ zs, Own z B x.a x.n x.c zs
  df : ∀ x ∈ fs, ∃ zs, Own z B x.a x.n x.c zs
theorem Own.store {z : World} {B : Nat} {a : Option Addr} {n c : Nat} {zs : List Int} (h : Own z B a n c zs) (g j : Nat) (y : Int) : ∃ ys, Own (z.setCell ⟨g, j, none⟩ (.int .u8 y)) B a n c ys := by
  by_cases e : blk a = some g
  · rcases h.cases with ⟨rfl, _⟩ | ⟨b, cur, rfl, _⟩
    · cases e
    · simp [blk] at e
      subst e
      exact ⟨_, h.set j y⟩
  · exact ⟨zs, h.keep (S := fun q => q = g) (Kept.setCell (S := fun q => q = g) z _ _ rfl) (fun q e2 k => e (by rw [e2, k]))⟩
theorem SpI.set {B : Nat} {w0 : World} {b7 b14 : Nat} {ea : Option Addr} {en ec : Nat} {es : List Ex} {p : Int} {fa : Option Addr} {fn fc : Nat} {fs : List Ex} {q : Int} {z : World} (h : SpI B w0 b7 b14 ea en ec es p fa fn fc fs q z) (g j : Nat) (y : Int) {n c : Nat} {zs : List Int} (ho : Own z B (some ⟨g, 0, none⟩) n c zs) : SpI B w0 b7 b14 ea en ec es p fa fn fc fs q (z.setCell ⟨g, j, none⟩ (.int .u8 y)) := by
  have ht : 5 ≠ 46 := by decide
  have ht2 : (71 : Nat) ≠ 5 := by decide
  rcases ho.cases with ⟨e, _⟩ | ⟨b, cur, e, hB, hg, _⟩
  · cases e
  simp only [Option.some.injEq, Addr.mk.injEq, and_true] at e
  subst e
  have hk : Kept (fun q => q = g) z (z.setCell ⟨g, j, none⟩ (.int .u8 y)) := Kept.setCell (S := fun q => q = g) z _ _ rfl
  have hp : ∀ (r : Option Addr) (m d : Nat) (vs : List Value), OwnG z B 71 2 r m d vs → ∀ q, blk r = some q → ¬ q = g := fun r m d vs hr q e k => by
    rcases hr.cases with ⟨rfl, _⟩ | ⟨b, cur', rfl, _, hb, _⟩
    · cases e
    · simp [blk] at e
      subst e k
      rw [hg] at hb
      simp at hb
  refine ⟨h.blw.setCell (p := ⟨g, j, none⟩) hB _, hk.heap h.h7 (fun e => ?_), hk.heap h.h14 (fun e => ?_), h.re.keep hk (hp _ _ _ _ h.re), h.rf.keep hk (hp _ _ _ _ h.rf), fun x hx => ?_, fun x hx => ?_⟩
  · have := h.h7; rw [e, hg] at this; simp at this
  · have := h.h14; rw [e, hg] at this; simp at this
  · obtain ⟨ys, hy⟩ := h.de x hx; exact hy.store g j y
  · obtain ⟨ys, hy⟩ := h.df x hx; exact hy.store g j y
end Go.Proofs.Ythipnkaghddbhaa

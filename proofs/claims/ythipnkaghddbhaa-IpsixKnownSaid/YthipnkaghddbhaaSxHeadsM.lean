/-
  Plain facts of IpsixHeads: what was put is parsed as it was; facts on memory that new blocks leave. Conditions: a header whose numbers fit their Go types.
-/
import Derived.Test.YthipnkaghddbhaaSxEq
namespace Go.Proofs.Ythipnkaghddbhaa
open Go.RowKit

theorem getV_at {A M B : List Int} {p k : Nat} (hA : A.length = p) (hM : M.length = k) (h1 : 1 ≤ k) (h8 : k ≤ 8) : getV (A ++ (M ++ B)) p k = num M := by
  have hl : (A ++ (M ++ B)).length = p + (k + B.length) := by simp [hA, hM]
  have he : getE (A ++ (M ++ B)) p k = 0 := by
    unfold getE szB
    rw [hl]
    simp
    omega
  unfold getV
  rw [if_pos he, Int.toNat_natCast, Int.toNat_natCast, ← hA, List.drop_left, ← hM, List.take_left]
theorem h6b_long (h : H6) (k : h.ok) (xs : List Int) : h6b h ++ xs = be 4 ((1536 + h.cl) * 1048576 + h.fl) ++ (be 2 h.ln ++ (([h.nx, h.hp] ++ h.src) ++ (h.dst ++ xs))) := by
  have e1 : ∀ x : Int, 0 ≤ x ∧ x < 256 → be 1 x = [x] := fun x hx => by simp [be]; omega
  unfold h6b
  rw [e1 h.nx k.nx, e1 h.hp k.hp]
  simp
theorem back6_plain (A B : List Int) (V L nx hp : Int) (src dst xs : List Int) (hA : A.length = 4) (hB : B.length = 2) (nA : num A = V) (nB : num B = L) (hs : src.length = 16) (hd : dst.length = 16) (ys : List Int) (hy : ys = A ++ (B ++ (([nx, hp] ++ src) ++ (dst ++ xs)))) :
    ¬ ys.length < 40 ∧ getV ys 0 4 = V ∧ getV ys 4 2 = L ∧ ys.getD 6 0 = nx ∧ ys.getD 7 0 = hp ∧ (ys.drop 8).take 16 = src ∧ (ys.drop 24).take 16 = dst := by
  have hV : getV ys ((0 : Nat) : Int) ((4 : Nat) : Int) = V := by
    have h1 := getV_at (A := []) (M := A) (B := B ++ (([nx, hp] ++ src) ++ (dst ++ xs))) (p := 0) (k := 4) rfl hA (by omega) (by omega)
    rw [List.nil_append, ← hy, nA] at h1
    exact h1
  have hL : getV ys ((4 : Nat) : Int) ((2 : Nat) : Int) = L := by
    have h1 := getV_at (A := A) (M := B) (B := ([nx, hp] ++ src) ++ (dst ++ xs)) (p := 4) (k := 2) hA hB (by omega) (by omega)
    rw [← hy, nB] at h1
    exact h1
  have hd6 : ys.drop 6 = nx :: hp :: (src ++ (dst ++ xs)) := by
    have h6 : (A ++ B).length = 6 := by rw [List.length_append, hA, hB]
    rw [hy, ← List.append_assoc, ← h6, List.drop_left]
    rfl
  have g6 : ys.getD 6 0 = nx := by
    have := congrArg (fun l => l.getD 0 0) hd6
    simpa [List.getElem?_drop] using this
  have g7 : ys.getD 7 0 = hp := by
    have := congrArg (fun l => l.getD 1 0) hd6
    simpa [List.getElem?_drop] using this
  have hd8 : ys.drop 8 = src ++ (dst ++ xs) := by
    have := congrArg (List.drop 2) hd6
    rw [List.drop_drop] at this
    exact this
  have hd24 : ys.drop 24 = dst ++ xs := by
    have := congrArg (List.drop 16) hd8
    rw [List.drop_drop] at this
    rw [this, ← hs, List.drop_left]
  refine ⟨?_, hV, hL, g6, g7, ?_, ?_⟩
  · rw [hy]; simp [hA, hB, hs, hd]; omega
  · rw [hd8, ← hs, List.take_left]
  · rw [hd24, ← hd, List.take_left]
theorem back6 (h : H6) (k : h.ok) (hf : h.fl < 1048576) (xs : List Int) : peE (h6b h ++ xs) = 0 ∧ h6Of (h6b h ++ xs) = h := by
  have p4 : pw 4 = 4294967296 := by decide
  have p2 : pw 2 = 65536 := by decide
  have k1 := k.cl
  have k2 := k.fl
  have k3 := k.ln
  obtain ⟨hlen, hV, hL, g6, g7, g8, g24⟩ := back6_plain _ _ ((1536 + h.cl) * 1048576 + h.fl) h.ln h.nx h.hp h.src h.dst xs (be_length 4 _) (be_length 2 _) (num_be 4 _ (by omega) (by rw [p4]; omega)) (num_be 2 _ (by omega) (by rw [p2]; omega)) k.src k.dst _ (h6b_long h k xs)
  have hE : peE (h6b h ++ xs) = 0 := by
    unfold peE
    rw [if_neg hlen, hV, if_pos (by omega)]
  refine ⟨hE, ?_⟩
  unfold h6Of
  rw [hV, hL, g6, g7, g8, g24]
  rw [show ((1536 + h.cl) * 1048576 + h.fl) / 1048576 % 256 = h.cl by omega, show ((1536 + h.cl) * 1048576 + h.fl) % 1048576 = h.fl by omega]
/-- What Put answers, in one. -/
def pz6 (h : H6) : Int := if h.fl < 1048576 then 0 else 51
def pb6 (h : H6) : List Int := if h.fl < 1048576 then h6b h else []
theorem PutS.one {w w' : World} {h : H6} {e : Ending} (p : PutS w h e w') : Below w.heap.size w w' ∧ ∃ a n cap, e = .returned (.tuple #[.slice a n cap, .int .i64 (pz6 h)]) ∧ Own w' w.heap.size a n cap (pb6 h) := by
  obtain ⟨hb, ⟨hr, a, n, c, he, ho⟩ | ⟨hr, he⟩⟩ := p
  · exact ⟨hb, a, n, c, by rw [he, pz6, if_pos hr], by rw [pb6, if_pos hr]; exact ho⟩
  · exact ⟨hb, none, 0, 0, by rw [he, pz6, if_neg (by omega)], by rw [pb6, if_neg (by omega)]; exact Own.nil _ _⟩
theorem h6b_byt {h : H6} (k : h.ok) : Byt (h6b h) := by
  unfold h6b
  exact ((((((Byt.nil.append (be_range _ _)).append (be_range _ _)).append (be_range _ _)).append (be_range _ _)).append k.srcb).append k.dstb)
theorem pb6_byt {h : H6} (k : h.ok) : Byt (pb6 h) := by
  unfold pb6; split
  · exact h6b_byt k
  · exact Byt.nil
theorem h6b_len {h : H6} (k : h.ok) : (h6b h).length = 40 := by
  have := h6b_long h k []
  rw [List.append_nil] at this
  rw [this]
  simp [be_length, k.src, k.dst]
theorem pb6_len {h : H6} (k : h.ok) : (pb6 h).length ≤ 40 := by
  unfold pb6; split
  · rw [h6b_len k]; exact Nat.le_refl _
  · exact Nat.zero_le _
/-- What holds now, and after new blocks. -/
def Fw (w : World) (F : World → Prop) : Prop := ∀ z, Below w.heap.size w z → F z
theorem Fw.here {w : World} {F : World → Prop} (h : Fw w F) : F w := h w (Below.refl _ _)
theorem Fw.next {w w' : World} {F : World → Prop} (h : Fw w F) (hb : Below w.heap.size w w') : Fw w' F := fun z hz => h z (hb.trans (hz.mono hb.size))
theorem Fw.and {w : World} {F G : World → Prop} (h : Fw w F) (k : Fw w G) : Fw w (fun z => F z ∧ G z) := fun z hz => ⟨h z hz, k z hz⟩
theorem Fw.range {w : World} {b o : Nat} {cs : List Value} (h : w.rangeAt b o cs) : Fw w (fun z => z.rangeAt b o cs) := fun _ hz => range_kept hz h
theorem Fw.rd {w : World} {a : Option Addr} {xs : List Int} (h : Rd w a xs) : Fw w (fun z => Rd z a xs) := fun _ hz => h.below hz
theorem Fw.own {w : World} {base : Nat} {a : Option Addr} {n c : Nat} {xs : List Int} (h : Own w base a n c xs) : Fw w (fun z => Own z base a n c xs) := fun _ hz => h.blw hz
theorem Fw.blw {w0 w : World} {B : Nat} (h : Below B w0 w) (hB : B ≤ w.heap.size) : Fw w (fun z => Below B w0 z) := fun _ hz => h.trans (hz.mono hB)
theorem put_new (w : World) (cs zs : List Value) (t : TypeId) (hl : zs.length = cs.length) :
    (Below w.heap.size w ((w.alloc (.cells zs.toArray t)).setCells w.heap.size 0 cs) ∧ ((w.alloc (.cells zs.toArray t)).setCells w.heap.size 0 cs).rangeAt w.heap.size 0 cs) ∧ (w.alloc (.cells zs.toArray t)).there w.heap.size 0 cs.length := by
  have ht : (w.alloc (.cells zs.toArray t)).there w.heap.size 0 cs.length := there_new _ _ _ _ (by simpa using hl) _ rfl
  exact ⟨⟨Below.setCells ((Below.refl _ _).alloc (Nat.le_refl _) _) _ (Nat.le_refl _) _ _, World.rangeAt_setCells_same _ _ _ _ ht⟩, ht⟩
/-- Cells are stored, as one thing; of the memory only P is kept in mind. -/
theorem stN {ops : Array Oper} {rest : List Oper} {o : Oper} {a : Act} {w : World} {Q : Exit → Act → World → Prop} (P : World → Prop) (t : TypeId) (x y : Operand) (ho : o.op = .store t x y) (hgd : o.guard = none) (b off : Nat) (cs : List Value) (hx : a.eval x = .pointer (some ⟨b, off, none⟩)) (hy : a.eval y = .agg cs.toArray)
    (ht : w.there b off cs.length) (hi : (Try.prog.info? t).map (·.size) = some cs.length) (h1 : ∀ v ∈ cs, v.oneCell' = true) (hP : P (w.setCells b off cs))
    (h : ∀ w', P w' → wpList Try.prog ops Q rest (a.put o.dst undef) w') : wpList Try.prog ops Q (o :: rest) a w :=
  stC t x y ho hgd b off cs hx hy ht hi h1 (h _ hP)
/-- The document's header that is told, or nothing, as the statement reads it. -/
theorem no6 (xs : List Int) (hb : Byt xs) (w : World) : Calls Try.prog 16 #[.agg (r6P xs).toArray] w (Gives w (.agg (r6c (h6P xs)).toArray)) := by
  unfold r6P h6P
  split
  · refine d6No_some _ w (h6Of_ok hb ?_)
    rename_i h
    unfold peE at h
    split at h
    · cases h
    · omega
  · exact d6No_zero w
/-- A load and a comparison under a guard that lets it be. -/
theorem ldCg {ops : Array Oper} {rest : List Oper} {o : Oper} {a : Act} {w : World} {Q : Exit → Act → World → Prop} (t : TypeId) (x : Operand) (ho : o.op = .load t x) (hw : Region.wanted o (yielded ops a.tmps) = true) (b : Nat) (hx : a.eval x = .pointer (some ⟨b, 0, none⟩)) (cs : List Value) (hc : w.rangeAt b 0 cs) (d : TypeDesc) (hu : Try.prog.underlying t = some d) (hd : d.isRow = true)
    (hi : (Try.prog.info? t).map (·.size) = some cs.length) (k : wpList Try.prog ops Q rest (a.put o.dst (.agg cs.toArray)) w) : wpList Try.prog ops Q (o :: rest) a w :=
  wpList_step fun K hK => by rw [if_pos hw]; exact wp_load_mid _ x ho b 0 hx cs d hc hu hd hi (hK _ _ k)
theorem exec_eq6 {ρ : Operand → Value} {o : Oper} {x y : Operand} {r : TypeId} {h : H6} {w : World} (k : h.ok) (ho : o.op = .binOp .eql 26 x y r) (hx : ρ x = .agg h.cs.toArray) (hy : ρ y = .agg h.cs.toArray) : (execOp ρ o).run Try.prog w = .ok (.value (.bool true)) w := by
  unfold execOp
  simp only [ho, hx, hy, Sem.run_bind, run_eqGuard_agg (hm := Try.eqGuardType26), Result.andThen_ok, run_eq6 w h k, Sem.run_pure]
theorem exec_eqr6 {ρ : Operand → Value} {o : Oper} {x y : Operand} {r : TypeId} {h : H6} {w : World} (ho : o.op = .binOp .neq 30 x y r) (hx : ρ x = .agg (r6c h).toArray) (hy : ρ y = .agg (r6c h).toArray) : (execOp ρ o).run Try.prog w = .ok (.value (.bool false)) w := by
  unfold execOp
  simp only [ho, hx, hy, Sem.run_bind, run_eqGuard_agg (hm := Try.eqGuardType30), Result.andThen_ok, run_neqr6 w h, Sem.run_pure]
theorem eqCg {ops : Array Oper} {rest : List Oper} {o : Oper} {a : Act} {w : World} {Q : Exit → Act → World → Prop} (x y : Operand) (r : TypeId) (ho : o.op = .binOp .eql 26 x y r) (hw : Region.wanted o (yielded ops a.tmps) = true) (h : H6) (hk : h.ok) (hx : a.eval x = .agg h.cs.toArray) (hy : a.eval y = .agg h.cs.toArray)
    (k : wpList Try.prog ops Q rest (a.put o.dst (.bool true)) w) : wpList Try.prog ops Q (o :: rest) a w :=
  wpList_step fun K hK => by
    rw [if_pos hw]
    unfold Oper.wp
    have he : (execOp a.eval o).run Try.prog w = .ok (.value (.bool true)) w := exec_eq6 hk ho hx hy
    rw [he]
    exact hK _ _ k
theorem range_keep {S : Nat → Prop} {w w' : World} {b o : Nat} {cs : List Value} (h : w.rangeAt b o cs) (k : Kept S w w') (hn : ¬ S b) : w'.rangeAt b o cs := fun j v hv => by
  have h1 := h j v hv
  rw [← h1]
  exact World.cell?_of_block (k.block b (World.block_lt_of_cell? w ⟨b, o + j, none⟩ h1) hn)
/-- Bytes are put behind a row of the call's own, and are parsed with it. -/
theorem app6 (w : World) (base : Nat) (a : Option Addr) (n c : Nat) (xs ys : List Int) (ho : Own w base a n c xs) (b : Option Addr) (m d : Nat) (hm : ys.length = m) (hr : Rd w b ys) (hl : n + m ≤ 1000000) (hbs : base ≤ w.heap.size) :
    ∃ a' n' c' w', (Builtin.append_ #[27, 27] 27 #[.slice a n c, .slice b m d]).run Try.prog w = .ok (.slice a' n' c') w' ∧ n' = n + m ∧ Own w' base a' n' c' (xs ++ ys) ∧ Kept (fun k => blk a = some k) w w' := by
  obtain ⟨a', c', w', hrun, hown, hg, _⟩ := run_append_rd w base 27 ho d hm hr (by omega) hbs
  exact ⟨a', n + m, c', w', hrun, rfl, hown, Kept.grown hg (fun _ e => e)⟩
end Go.Proofs.Ythipnkaghddbhaa

/-
  Plain facts for TransBack: what was put is parsed as it was, and is sound, and no byte of it may change alone and leave it sound. Conditions: those that each theorem names.
-/
import Derived.Test.YtabdejoakecioaaTrM
namespace Go.Proofs.Ytabdejoakecioaa
open Go.RowKit

theorem num_at (A B : List Int) (k j : Nat) (v : Int) (hj : A.length = j) (h0 : 0 ≤ v) (h1 : v < pw k) : num (((A ++ be k v ++ B).drop j).take k) = v := by
  rw [List.append_assoc, ← hj, List.drop_left, List.take_left' (be_length k v), num_be k v h0 h1]
theorem word_at (A B : List Int) (j : Nat) (v : Int) (hj : A.length = j) (h0 : 0 ≤ v) (h1 : v < 65536) : wordAt (A ++ be 2 v ++ B) j = v := by
  rw [← num_two _ j (by simp [be_length]; omega)]
  exact num_at A B 2 j v hj h0 (by have := pw_lits.2.1; omega)
theorem long_at (A B : List Int) (j : Nat) (v : Int) (hj : A.length = j) (h0 : 0 ≤ v) (h1 : v < 4294967296) : lng (A ++ be 4 v ++ B) j = v :=
  num_at A B 4 j v hj h0 (by have := pw_lits.2.2.2.1; omega)
theorem byte_at (A B : List Int) (j : Nat) (v : Int) (hj : A.length = j) (h0 : 0 ≤ v) (h1 : v < 256) : (A ++ be 1 v ++ B).getD j 0 = v := by
  rw [← num_one _ j (by simp [be_length]; omega)]
  exact num_at A B 1 j v hj h0 (by have := pw_lits.1; omega)

/-- What was put is parsed as it was. -/
structure Back (s : Pl) (xs : List Int) : Prop where
  e : prE s.pro xs = 0
  p : prP s.pro xs = s
  a : bdA s.pro xs = xs.length
theorem back_tcp (s : Pl) (c : Int) (f : s.fit) (hr : rgP s = true) (h6 : s.pro = 6) : Back s (sbS s c) := by
  obtain ⟨_, hown, h4, h40, hlen⟩ := (rgP_iff s).1 hr
  obtain ⟨pro, src, dst, seq, ack, fl, win, urg, op, ty, co, dt⟩ := s
  obtain ⟨_, fsrc, fdst, fseq, fack, ffl, fwin, furg, fop, fty, fco, fdt⟩ := f
  simp only at h6 fsrc fdst fseq fack ffl fwin furg h4 h40 hlen
  subst h6
  have hz : ty = 0 ∧ co = 0 := by
    have := hown
    simp [ownP] at this
    exact this
  obtain ⟨rfl, rfl⟩ := hz
  obtain ⟨xs, hx⟩ : ∃ xs, sbS ⟨6, src, dst, seq, ack, fl, win, urg, op, 0, 0, dt⟩ c = xs := ⟨_, rfl⟩
  have e0 : xs = ((((((((([] ++ be 2 src) ++ be 2 dst) ++ be 4 seq) ++ be 4 ack) ++ be 1 (80 + op.length * 4)) ++ be 1 fl) ++ be 2 win) ++ be 2 c) ++ be 2 urg) ++ op ++ dt := by rw [← hx]; simp [sbS, hdS]
  have hl : xs.length = 20 + op.length + dt.length := by rw [e0]; simp only [List.length_append, be_length, List.length_nil] <;> omega
  have x0 : wordAt xs 0 = src := by
    have := word_at [] (be 2 dst ++ be 4 seq ++ be 4 ack ++ be 1 (80 + op.length * 4) ++ be 1 fl ++ be 2 win ++ be 2 c ++ be 2 urg ++ op ++ dt) 0 src rfl fsrc.1 fsrc.2
    rw [e0]; simpa using this
  have x2 : wordAt xs 2 = dst := by
    have := word_at (be 2 src) (be 4 seq ++ be 4 ack ++ be 1 (80 + op.length * 4) ++ be 1 fl ++ be 2 win ++ be 2 c ++ be 2 urg ++ op ++ dt) 2 dst (be_length _ _) fdst.1 fdst.2
    rw [e0]; simpa using this
  have x4 : lng xs 4 = seq := by
    have := long_at (be 2 src ++ be 2 dst) (be 4 ack ++ be 1 (80 + op.length * 4) ++ be 1 fl ++ be 2 win ++ be 2 c ++ be 2 urg ++ op ++ dt) 4 seq (by simp [be_length]) fseq.1 fseq.2
    rw [e0]; simpa using this
  have x8 : lng xs 8 = ack := by
    have := long_at (be 2 src ++ be 2 dst ++ be 4 seq) (be 1 (80 + op.length * 4) ++ be 1 fl ++ be 2 win ++ be 2 c ++ be 2 urg ++ op ++ dt) 8 ack (by simp [be_length]) fack.1 fack.2
    rw [e0]; simpa using this
  have x12 : xs.getD 12 0 = 80 + op.length * 4 := by
    have := byte_at (be 2 src ++ be 2 dst ++ be 4 seq ++ be 4 ack) (be 1 fl ++ be 2 win ++ be 2 c ++ be 2 urg ++ op ++ dt) 12 (80 + op.length * 4) (by simp [be_length]) (by omega) (by omega)
    rw [e0]; simpa using this
  have x13 : xs.getD 13 0 = fl := by
    have := byte_at (be 2 src ++ be 2 dst ++ be 4 seq ++ be 4 ack ++ be 1 (80 + op.length * 4)) (be 2 win ++ be 2 c ++ be 2 urg ++ op ++ dt) 13 fl (by simp [be_length]) ffl.1 ffl.2
    rw [e0]; simpa using this
  have x14 : wordAt xs 14 = win := by
    have := word_at (be 2 src ++ be 2 dst ++ be 4 seq ++ be 4 ack ++ be 1 (80 + op.length * 4) ++ be 1 fl) (be 2 c ++ be 2 urg ++ op ++ dt) 14 win (by simp [be_length]) fwin.1 fwin.2
    rw [e0]; simpa using this
  have x18 : wordAt xs 18 = urg := by
    have := word_at (be 2 src ++ be 2 dst ++ be 4 seq ++ be 4 ack ++ be 1 (80 + op.length * 4) ++ be 1 fl ++ be 2 win ++ be 2 c) (op ++ dt) 18 urg (by simp [be_length]) furg.1 furg.2
    rw [e0]; simpa using this
  have hn20 : hdN 6 = 20 := by decide
  have hh : bdH 6 xs = 20 + op.length := by unfold bdH; rw [if_pos rfl, x12]; omega
  have ha : bdA 6 xs = xs.length := by unfold bdA; rw [if_neg (by omega)]
  have he : prE 6 xs = 0 := by
    unfold prE bdE
    rw [hn20, hh, ha, if_neg (by omega), if_neg (by omega), if_neg (by simp only [hn20] at hlen; omega), if_neg (by omega), if_neg (by omega)]
  have hd : ∃ H, xs = H ++ op ++ dt ∧ H.length = 20 := ⟨_, e0, by simp [be_length]⟩
  obtain ⟨H, eH, lH⟩ := hd
  have o1 : (xs.drop 20).take op.length = op := by rw [eH, List.append_assoc, ← lH, List.drop_left, List.take_left]
  have o2 : (xs.drop (20 + op.length)).take dt.length = dt := by
    have : 20 + op.length = (H ++ op).length := by rw [List.length_append, lH]
    rw [eH, this, List.drop_left, List.take_of_length_le (Nat.le_refl _)]
  rw [hx]
  refine ⟨he, ?_, ha⟩
  unfold prP
  rw [if_pos he]
  simp only [gtP, if_pos, x0, x2, x4, x8, x13, x14, x18, hh, ha, hn20, pl0]
  rw [show ((20 : Int) + (op.length : Int)).toNat = 20 + op.length by omega, show 20 + op.length - 20 = op.length by omega, show ((xs.length : Int)).toNat - (20 + op.length) = dt.length by omega, o1, o2]
theorem back_udp (s : Pl) (c : Int) (f : s.fit) (hr : rgP s = true) (h6 : s.pro = 17) : Back s (sbS s c) := by
  obtain ⟨_, hown, h4, h40, hlen⟩ := (rgP_iff s).1 hr
  obtain ⟨pro, src, dst, seq, ack, fl, win, urg, op, ty, co, dt⟩ := s
  obtain ⟨_, fsrc, fdst, fseq, fack, ffl, fwin, furg, fop, fty, fco, fdt⟩ := f
  simp only at h6 fsrc fdst h4 h40 hlen
  subst h6
  have hz : seq = 0 ∧ ack = 0 ∧ fl = 0 ∧ win = 0 ∧ urg = 0 ∧ op = [] ∧ ty = 0 ∧ co = 0 := by
    have := hown
    simp [ownP, pl0] at this
    exact this
  obtain ⟨rfl, rfl, rfl, rfl, rfl, rfl, rfl, rfl⟩ := hz
  have hn8 : hdN 17 = 8 := by decide
  rw [hn8] at hlen
  simp only [List.length_nil] at hlen
  obtain ⟨xs, hx⟩ : ∃ xs, sbS ⟨17, src, dst, 0, 0, 0, 0, 0, [], 0, 0, dt⟩ c = xs := ⟨_, rfl⟩
  have e0 : xs = (((([] ++ be 2 src) ++ be 2 dst) ++ be 2 (8 + dt.length)) ++ be 2 c) ++ dt := by rw [← hx]; simp [sbS, hdS]
  have hl : xs.length = 8 + dt.length := by rw [e0]; simp only [List.length_append, be_length, List.length_nil] <;> omega
  have x0 : wordAt xs 0 = src := by
    have := word_at [] (be 2 dst ++ be 2 (8 + dt.length) ++ be 2 c ++ dt) 0 src rfl fsrc.1 fsrc.2
    rw [e0]; simpa using this
  have x2 : wordAt xs 2 = dst := by
    have := word_at (be 2 src) (be 2 (8 + dt.length) ++ be 2 c ++ dt) 2 dst (be_length _ _) fdst.1 fdst.2
    rw [e0]; simpa using this
  have x4 : wordAt xs 4 = 8 + dt.length := by
    have := word_at (be 2 src ++ be 2 dst) (be 2 c ++ dt) 4 (8 + dt.length) (by simp [be_length]) (by omega) (by omega)
    rw [e0]; simpa using this
  have hh : bdH 17 xs = 8 := by unfold bdH; rw [if_neg (by omega), if_pos rfl]
  have ha : bdA 17 xs = xs.length := by unfold bdA; rw [if_pos rfl, x4]; omega
  have he : prE 17 xs = 0 := by
    unfold prE bdE
    rw [hn8, hh, ha, if_neg (by omega), if_neg (by omega), if_neg (by omega), if_neg (by omega), if_neg (by omega)]
  have hd : ∃ H, xs = H ++ dt ∧ H.length = 8 := ⟨_, e0, by simp [be_length]⟩
  obtain ⟨H, eH, lH⟩ := hd
  have o2 : (xs.drop 8).take dt.length = dt := by
    rw [eH, ← lH, List.drop_left, List.take_of_length_le (Nat.le_refl _)]
  rw [hx]
  refine ⟨he, ?_, ha⟩
  unfold prP
  rw [if_pos he]
  simp only [gtP, x0, x2, hh, ha, hn8, pl0, show ¬ (17 : Int) = 6 from by decide, if_false, if_true]
  rw [show (8 : Int).toNat = 8 from rfl, show (8 : Nat) - 8 = 0 from rfl, List.take_zero, show ((xs.length : Int)).toNat - 8 = dt.length by omega, o2]
theorem back_icmp (s : Pl) (c : Int) (f : s.fit) (hr : rgP s = true) (h1 : s.pro = 1 ∨ s.pro = 58) : Back s (sbS s c) := by
  obtain ⟨_, hown, h4, h40, hlen⟩ := (rgP_iff s).1 hr
  obtain ⟨pro, src, dst, seq, ack, fl, win, urg, op, ty, co, dt⟩ := s
  obtain ⟨_, fsrc, fdst, fseq, fack, ffl, fwin, furg, fop, fty, fco, fdt⟩ := f
  simp only at h1 fty fco h4 h40 hlen
  have n6 : ¬ pro = 6 := by omega
  have n17 : ¬ pro = 17 := by omega
  have hz : src = 0 ∧ dst = 0 ∧ seq = 0 ∧ ack = 0 ∧ fl = 0 ∧ win = 0 ∧ urg = 0 ∧ op = [] := by
    have := hown
    simp [ownP, pl0, n6, n17] at this
    exact this
  obtain ⟨rfl, rfl, rfl, rfl, rfl, rfl, rfl, rfl⟩ := hz
  have hn8 : hdN pro = 4 := by rcases h1 with rfl | rfl <;> decide
  rw [hn8] at hlen
  simp only [List.length_nil] at hlen
  obtain ⟨xs, hx⟩ : ∃ xs, sbS ⟨pro, 0, 0, 0, 0, 0, 0, 0, [], ty, co, dt⟩ c = xs := ⟨_, rfl⟩
  have e0 : xs = ((([] ++ be 1 ty) ++ be 1 co) ++ be 2 c) ++ dt := by rw [← hx]; simp [sbS, hdS, n6, n17]
  have hl : xs.length = 4 + dt.length := by rw [e0]; simp only [List.length_append, be_length, List.length_nil] <;> omega
  have x0 : xs.getD 0 0 = ty := by
    have := byte_at [] (be 1 co ++ be 2 c ++ dt) 0 ty rfl fty.1 fty.2
    rw [e0]; simpa using this
  have x1 : xs.getD 1 0 = co := by
    have := byte_at (be 1 ty) (be 2 c ++ dt) 1 co (be_length _ _) fco.1 fco.2
    rw [e0]; simpa using this
  have hh : bdH pro xs = 4 := by unfold bdH; rw [if_neg n6, if_neg n17]
  have ha : bdA pro xs = xs.length := by unfold bdA; rw [if_neg n17]
  have he : prE pro xs = 0 := by
    unfold prE bdE
    rw [hn8, hh, ha, if_neg (by omega), if_neg (by omega), if_neg (by omega), if_neg (by omega), if_neg (by omega)]
  have hd : ∃ H, xs = H ++ dt ∧ H.length = 4 := ⟨_, e0, by simp [be_length]⟩
  obtain ⟨H, eH, lH⟩ := hd
  have o2 : (xs.drop 4).take dt.length = dt := by
    rw [eH, ← lH, List.drop_left, List.take_of_length_le (Nat.le_refl _)]
  rw [hx]
  refine ⟨he, ?_, ha⟩
  show prP pro xs = _
  unfold prP
  rw [if_pos he]
  simp only [gtP, x0, x1, hh, ha, hn8, pl0, n6, n17, if_false]
  rw [show (4 : Int).toNat = 4 from rfl, show (4 : Nat) - 4 = 0 from rfl, List.take_zero, show ((xs.length : Int)).toNat - 4 = dt.length by omega, o2]
theorem hdN_pro {p : Int} (h : hdN p ≠ 0) : p = 6 ∨ p = 17 ∨ p = 1 ∨ p = 58 := by
  unfold hdN at h
  split at h
  · exact .inl (by assumption)
  split at h
  · exact .inr (.inl (by assumption))
  split at h
  · exact .inr (.inr (.inl (by assumption)))
  split at h
  · exact .inr (.inr (.inr (by assumption)))
  · exact absurd rfl h
theorem back_any (s : Pl) (c : Int) (f : s.fit) (hr : rgP s = true) : Back s (sbS s c) := by
  obtain ⟨h0, _⟩ := (rgP_iff s).1 hr
  rcases hdN_pro h0 with h | h | h | h
  · exact back_tcp s c f hr h
  · exact back_udp s c f hr h
  · exact back_icmp s c f hr (.inl h)
  · exact back_icmp s c f hr (.inr h)

theorem ws_two_even (A B : List Int) (c : Int) (he : A.length % 2 = 0) (c0 : 0 ≤ c) (c1 : c ≤ 65535) : ws 0 (A ++ be 2 c ++ B) = ws 0 A + c + ws 0 B := by
  have e : be 2 c = [c / 256, c % 256] := by simp [be]; omega
  rw [e, List.append_assoc, ws_append, ws_append, Nat.zero_add, ws_par (k := A.length) (m := 0) (by omega), ws_par (k := A.length + [c / 256, c % 256].length) (m := 0) (by simp; omega)]
  simp [ws, wt]
  omega
/-- What the pseudo header adds. -/
def psw (p : Int) (m : Nat) (src dst : List Int) : Int := if p = 1 then 0 else ws 0 (psd p m src dst)
theorem cov_ws (p : Int) (xs src dst : List Int) (had : adB src.length dst.length = true) : ws 0 (cov p xs src dst) = psw p xs.length src dst + ws 0 xs := by
  unfold cov psw
  split
  · omega
  · rw [ws_append, Nat.zero_add, ws_par (k := (psd p xs.length src dst).length) (m := 0) (by have := (psd_len (p := p) (m := xs.length) had).1; omega)]
theorem psw_swap (p : Int) (m : Nat) (src dst : List Int) (had : adB src.length dst.length = true) : psw p m dst src = psw p m src dst := by
  obtain ⟨h1, h2⟩ := (adB_iff _ _).1 had
  unfold psw psd
  split
  · rfl
  · have e : (dst.length = 4) = (src.length = 4) := by rw [h1]
    have q1 := ws_par (k := src.length) (m := 0) (by omega)
    have q2 := ws_par (k := dst.length) (m := 0) (by omega)
    have q3 := ws_par (k := src.length + dst.length) (m := 0) (by omega)
    have q4 := ws_par (k := dst.length + src.length) (m := 0) (by omega)
    simp only [ws_append, Nat.zero_add, List.length_append, e, q1, q2, q3, q4]
    omega
theorem cov_swap (p : Int) (xs src dst : List Int) (had : adB src.length dst.length = true) : ws 0 (cov p xs dst src) = ws 0 (cov p xs src dst) := by
  have hda : adB dst.length src.length = true := by
    obtain ⟨h1, h2⟩ := (adB_iff _ _).1 had
    exact (adB_iff _ _).2 ⟨h1.symm, by omega⟩
  rw [cov_ws _ _ _ _ had, cov_ws _ _ _ _ hda, psw_swap _ _ _ _ had]
theorem put_whole (s : Pl) (src dst : List Int) (f : s.fit) (hd0 : hdN s.pro ≠ 0) (b1 : Byt src) (b2 : Byt dst) (had : adB src.length dst.length = true) : whl (ws 0 (cov s.pro (sbS s (ckS s src dst)) src dst)) = true := by
  have hb0 := cov_byt s.pro (sbS_byt s 0 f.op f.dt) b1 b2
  have hr := ws_range _ 0 hb0
  have hc := ckS_range s src dst hb0
  obtain ⟨A, B, hl, hAB⟩ := sbS_parts s
  have hA : A.length % 2 = 0 := by rw [hl]; unfold smAt; split; · rfl
                                   · split <;> rfl
  have l0 : ∀ c, (sbS s c).length = (sbS s 0).length := fun c => by rw [sbS_len s c hd0, sbS_len s 0 hd0]
  have e0 := cov_ws s.pro (sbS s 0) src dst had
  have e1 := cov_ws s.pro (sbS s (ckS s src dst)) src dst had
  rw [l0] at e1
  have q0 := ws_two_even A B 0 hA (by omega) (by omega)
  have q1 := ws_two_even A B (ckS s src dst) hA hc.1 hc.2
  rw [← hAB] at q0 q1
  have hm := @fld_mod (ws 0 (cov s.pro (sbS s 0) src dst)) hr.1
  have hck : ckS s src dst = 65535 - fld (ws 0 (cov s.pro (sbS s 0) src dst)) ∨ (ckS s src dst = 65535 ∧ 65535 - fld (ws 0 (cov s.pro (sbS s 0) src dst)) = 0) := by
    unfold ckS; split
    · exact .inr ⟨rfl, by omega⟩
    · exact .inl rfl
  rw [whl, decide_eq_true_eq]
  omega
theorem put_sound (s : Pl) (src dst : List Int) (f : s.fit) (hr : rgP s = true) (b1 : Byt src) (b2 : Byt dst) (had : adB src.length dst.length = true) :
    snd s.pro (sbS s (ckS s src dst)) src dst = true ∧ snd s.pro (sbS s (ckS s src dst)) dst src = true := by
  obtain ⟨h0, _⟩ := (rgP_iff s).1 hr
  have hk := back_any s (ckS s src dst) f hr
  have hw := put_whole s src dst f h0 b1 b2 had
  have hda : adB dst.length src.length = true := by
    obtain ⟨h1, h2⟩ := (adB_iff _ _).1 had
    exact (adB_iff _ _).2 ⟨h1.symm, by omega⟩
  have ht : (sbS s (ckS s src dst)).take (bdA s.pro (sbS s (ckS s src dst))).toNat = sbS s (ckS s src dst) := by
    rw [hk.a]; exact List.take_of_length_le (by omega)
  unfold snd
  rw [hk.e, had, hda, ht, cov_swap _ _ _ _ had, hw]
  simp
theorem cov_find (p : Int) (xs src dst : List Int) (j : Nat) (v : Int) (hj : j < xs.length) (hb : Byt xs) (hv : 0 ≤ v ∧ v < 256) (hne : v ≠ xs.getD j 0) (had : adB src.length dst.length = true) (hw : whl (ws 0 (cov p xs src dst)) = true) :
    whl (ws 0 (cov p (xs.set j v) src dst)) = false := by
  have e0 := cov_ws p xs src dst had
  have e1 := cov_ws p (xs.set j v) src dst had
  rw [List.length_set, ws_set xs 0 j v hj] at e1
  have hx := hb.get j
  rw [whl, decide_eq_true_eq] at hw
  rw [whl, decide_eq_false_iff_not]
  unfold wt at e1
  split at e1 <;> omega
theorem wordAt_zero {xs : List Int} (hb : Byt xs) (j : Nat) : wordAt xs j = 0 ↔ xs.getD j 0 = 0 ∧ xs.getD (j + 1) 0 = 0 := by
  have h1 := hb.get j
  have h2 := hb.get (j + 1)
  unfold wordAt
  omega
theorem back_find (s : Pl) (src dst : List Int) (j : Nat) (v : Int) (f : s.fit) (hr : rgP s = true) (b1 : Byt src) (b2 : Byt dst) (had : adB src.length dst.length = true) (xs : List Int) (hx : xs = sbS s (ckS s src dst))
    (hj : j < xs.length) (hv : 0 ≤ v ∧ v < 256) (hne : v ≠ xs.getD j 0) (hnone : ¬ (s.pro = 17 ∧ (xs.set j v).getD 6 0 = 0 ∧ (xs.set j v).getD 7 0 = 0)) (hsh : ¬ (s.pro = 17 ∧ (j = 4 ∨ j = 5))) :
    snd s.pro (xs.set j v) src dst = false := by
  obtain ⟨h0, _⟩ := (rgP_iff s).1 hr
  have hk := back_any s (ckS s src dst) f hr
  have hw := put_whole s src dst f h0 b1 b2 had
  have hb := sbS_byt s (ckS s src dst) f.op f.dt
  rw [← hx] at hk hw hb
  have hb2 := hb.set j hv
  by_cases he : prE s.pro (xs.set j v) = 0
  · have ha : bdA s.pro (xs.set j v) = xs.length := by
      have h1 := hk.a
      unfold bdA at h1 ⊢
      by_cases h17 : s.pro = 17
      · rw [if_pos h17] at h1 ⊢
        rw [← h1]
        unfold wordAt
        rw [getD_set_ne _ _ _ _ (by omega), getD_set_ne _ _ _ _ (by omega)]
      · rw [if_neg h17, List.length_set]
    have ht : (xs.set j v).take (bdA s.pro (xs.set j v)).toNat = xs.set j v := by
      rw [ha]; exact List.take_of_length_le (by rw [List.length_set]; omega)
    have hf := cov_find s.pro xs src dst j v hj hb hv hne had hw
    unfold snd
    rw [he, had, ht, hf]
    by_cases h17 : s.pro = 17
    · have : ¬ wordAt (xs.set j v) 6 = 0 := fun h => hnone ⟨h17, (wordAt_zero hb2 6).1 h⟩
      simp [this]
    · simp [h17]
  · unfold snd
    rw [decide_eq_false he]; rfl
end Go.Proofs.Ytabdejoakecioaa

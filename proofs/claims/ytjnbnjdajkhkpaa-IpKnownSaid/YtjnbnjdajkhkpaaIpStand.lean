/-
  The contracts of the document's own Right, bit, stands and Put for layer 5. Conditions: a header whose numbers fit their Go types, at most 100 bytes of options where it stands.
-/
import Derived.Test.YtjnbnjdajkhkpaaIpDoc
namespace Go.Proofs.Ytjnbnjdajkhkpaa
open Go.RowKit

theorem rc0 (h : Hd) : (rhc h).toArray[0]? = some (.int .u8 h.tos) := rfl
theorem rc1 (h : Hd) : (rhc h).toArray[1]? = some (.int .u16 h.tot) := rfl
theorem rc2 (h : Hd) : (rhc h).toArray[2]? = some (.int .u16 h.id) := rfl
theorem rc3 (h : Hd) : (rhc h).toArray[3]? = some (.bool h.df) := rfl
theorem rc4 (h : Hd) : (rhc h).toArray[4]? = some (.bool h.mf) := rfl
theorem rc5 (h : Hd) : (rhc h).toArray[5]? = some (.int .u16 h.frag) := rfl
theorem rc6 (h : Hd) : (rhc h).toArray[6]? = some (.int .u8 h.ttl) := rfl
theorem rc7 (h : Hd) : (rhc h).toArray[7]? = some (.int .u8 h.pro) := rfl
theorem rc8 (h : Hd) : (rhc h).toArray[8]? = some (.string (str h.src)) := rfl
theorem rc9 (h : Hd) : (rhc h).toArray[9]? = some (.string (str h.dst)) := rfl
theorem rc10 (h : Hd) : (rhc h).toArray[10]? = some (.string (str h.op)) := rfl
theorem rh_range (w : World) (h : Hd) (t : TypeId) : (w.alloc (.cells (rhc h).toArray t)).rangeAt w.heap.size 0 (rhc h) := fun j v hv => by
  rw [cell_of_row _ w.heap.size (0 + j) _ t (0, 0) (Blk_new w _ _)]; simpa using hv
theorem ldRH {ops : Array Oper} {rest : List Oper} {o : Oper} {a : Act} {w : World} {Q : Exit → Act → World → Prop} (x : Operand) (ho : o.op = .load 29 x) (hgd : o.guard = none) (b : Nat) (hx : a.eval x = .pointer (some ⟨b, 0, none⟩)) (h : Hd) (hc : w.rangeAt b 0 (rhc h))
    (k : wpList Try.prog ops Q rest (a.put o.dst (.agg (rhc h).toArray)) w) : wpList Try.prog ops Q (o :: rest) a w :=
  wpList_load_mid hgd _ x ho b 0 hx (rhc h) _ hc Try.underlying29 rfl infRH k

set_option maxHeartbeats 1000000 in
theorem r5Right_any (h : Hd) (w w0 : World) (k : h.ok w0) (hm : h.n ≤ 9000000000000) : Calls Try.prog 14 #[.agg (rhc h).toArray] w (Gives w (.bool (rgH h.frag h.tot h.n))) := by
  have c1 := rc1 h
  have c5 := rc5 h
  have c10 := rc10 h
  obtain ⟨f0, f1⟩ := k.frag
  obtain ⟨t0, t1⟩ := k.tot
  have hz : (str h.op).size = h.n := by rw [str_size, k.row.len]
  have HB := Lib.hid ((Below.refl w.heap.size w).alloc (Nat.le_refl _) (.cells (rhc h).toArray 29))
  obtain ⟨cs, hcs⟩ : ∃ cs, (rhc h).toArray = cs := ⟨_, rfl⟩
  obtain ⟨fr, hfr⟩ : ∃ x, h.frag = x := ⟨_, rfl⟩
  obtain ⟨tt, htt⟩ : ∃ x, h.tot = x := ⟨_, rfl⟩
  obtain ⟨n, hn⟩ : ∃ x, h.n = x := ⟨_, rfl⟩
  obtain ⟨S, hS⟩ : ∃ x, str h.op = x := ⟨_, rfl⟩
  rw [hcs, hfr] at c5
  rw [hcs, htt] at c1
  rw [hcs, hS] at c10
  rw [hS, hn] at hz
  rw [hfr, htt, hn]
  rw [hcs] at HB ⊢
  rw [hfr] at f0 f1
  rw [htt] at t0 t1
  rw [hn] at hm
  clear hcs hfr htt hn k hS
  by_cases h1 : fr < 8192
  · by_cases h2 : n % 4 = 0
    · have h2' : ((n : Int) % 4 == 0) = true := by simp; omega
      by_cases h3 : n ≤ 40
      · by_cases h4 : 20 + (n : Int) ≤ tt
        · go_enter Try.func14, Try.ntmps14
          go_wp2_with fail
          go_ret
          exact ⟨by simp [rgH, show fr ≤ 8191 by omega, h2, h3, h4], HB.out⟩
        · go_enter Try.func14, Try.ntmps14
          go_wp2_with fail
          go_ret
          exact ⟨by simp [rgH, h2, h3, h4], HB.out⟩
      · go_enter Try.func14, Try.ntmps14
        go_wp2_with fail
        go_ret
        exact ⟨by simp [rgH, h2, h3], HB.out⟩
    · have h2' : ((n : Int) % 4 == 0) = false := by simp; omega
      go_enter Try.func14, Try.ntmps14
      go_wp2_with fail
      go_ret
      exact ⟨by simp [rgH, h2], HB.out⟩
  · go_enter Try.func14, Try.ntmps14
    go_wp2_with fail
    go_ret
    exact ⟨by simp [rgH]; omega, HB.out⟩

theorem r5bit_any (b : Bool) (n : Int) (w : World) : Calls Try.prog 47 #[.bool b, .int .u64 n] w fun e w' => e = .returned (.int .u64 (if b then n else 0)) ∧ w = w' := by
  cases b <;>
  · go_enter Try.func47, Try.ntmps47
    go_wp2_with fail
    go_ret
    exact ⟨rfl, rfl⟩

theorem str_append (xs ys : List Int) : str xs ++ str ys = str (xs ++ ys) := by
  show ByteArray.mk (ub xs).toArray ++ ByteArray.mk (ub ys).toArray = _
  rw [ByteArray.mk_append_mk]
  simp [str, ub]
theorem run_str_add (w : World) (xs ys : List Int) (h : xs.length + ys.length ≤ 1000000) : (Op.stringOp .add (str xs) (str ys)).run Try.prog w = .ok (.string (str (xs ++ ys))) w := by
  rw [run_string_add_sum _ _ _ (by rw [str_size, str_size]; omega), str_append]
theorem run_bytes_str (w : World) (xs : List Int) (hb : Byt xs) : ∃ c w', (convert 9 24 (.string (str xs))).run Try.prog w = .ok (.slice (some ⟨w.heap.size, 0, none⟩) xs.length c) w' ∧ Rd w' (some ⟨w.heap.size, 0, none⟩) xs ∧ Below w.heap.size w w' := by
  have hr := run_bytes_of_string (P := Try.prog) w 9 24 5 (str xs) Try.underlying9 Try.underlying24 Try.underlying5
  rw [str_size] at hr
  refine ⟨_, _, hr, fun hne => ⟨w.heap.size, 0, rfl, fun i hi => ?_⟩, ?_⟩
  · have hi' : i < (str xs).data.size := by show i < (ub xs).toArray.size; simp [ub]; exact hi
    have hx := ub_get hb i hi
    have h1 := bytesRow_at (str xs) (grownCap w xs.length 0 5) i hi'
    have h2 : ((str xs).data[i]'hi').toNat = ((ub xs)[i]'(by rw [ub_len]; exact hi)).toNat := by simp [str]
    rw [h2, hx] at h1
    rw [Nat.zero_add, ← h1]
    exact World.cell?_alloc_mark w.drew _ _ _ _
  · have h := ((Below.refl w.heap.size w).drew).alloc (Nat.le_refl _) (.cells (bytesRow (str xs) (grownCap w xs.length 0 5)) 5 ((bytesRow (str xs) (grownCap w xs.length 0 5)).size, (bytesRow (str xs) (grownCap w xs.length 0 5)).size + 1))
    exact h
end Go.Proofs.Ytjnbnjdajkhkpaa

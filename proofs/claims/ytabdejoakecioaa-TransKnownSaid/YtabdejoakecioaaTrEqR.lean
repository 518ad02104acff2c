/-
  How two segments, as the document has them, are compared as wholes. Conditions: rows of bytes.
-/
import Derived.Test.YtabdejoakecioaaTrDoc
namespace Go.Proofs.Ytabdejoakecioaa
open Go.RowKit

theorem str_beq {xs ys : List Int} (hx : Byt xs) (hy : Byt ys) (h : ¬ xs = ys) : ((str xs).toList == (str ys).toList) = false := by
  rw [beq_eq_false_iff_ne]; exact fun e => h ((str_eq hx hy).1 e)
set_option maxHeartbeats 4000000 in
theorem run_eqR (w : World) (s t : Pl) (k : s.fit) (l : t.fit) : (binOp .eql 30 (.agg (rcs s).toArray) (.agg (rcs t).toArray)).run Try.prog w = .ok (.bool (smP s t)) w := by
  have H8 : Hid (¬ s.op = t.op → ((str s.op).toList == (str t.op).toList) = false) := str_beq k.op l.op
  have H11 : Hid (¬ s.dt = t.dt → ((str s.dt).toList == (str t.dt).toList) = false) := str_beq k.dt l.dt
  clear k l
  obtain ⟨a0, a1, a2, a3, a4, a5, a6, a7, a8, a9, a10, a11⟩ := s
  obtain ⟨b0, b1, b2, b3, b4, b5, b6, b7, b8, b9, b10, b11⟩ := t
  have H8' : Hid (¬ a8 = b8 → ((str a8).toList == (str b8).toList) = false) := H8
  have H11' : Hid (¬ a11 = b11 → ((str a11).toList == (str b11).toList) = false) := H11
  clear H8 H11
  rw [run_eql_struct]
  have t30 := Try.underlying30
  simp only [rcs]
  by_cases q0 : a0 = b0
  case neg =>
    have hv : smP ⟨a0, a1, a2, a3, a4, a5, a6, a7, a8, a9, a10, a11⟩ ⟨b0, b1, b2, b3, b4, b5, b6, b7, b8, b9, b10, b11⟩ = false := by simp [smP, q0]
    rw [hv]
    have he : (a0 == b0) = false := by simpa using q0
    clear hv q0
    go_simp
  subst q0
  by_cases q1 : a1 = b1
  case neg =>
    have hv : smP ⟨a0, a1, a2, a3, a4, a5, a6, a7, a8, a9, a10, a11⟩ ⟨a0, b1, b2, b3, b4, b5, b6, b7, b8, b9, b10, b11⟩ = false := by simp [smP, q1]
    rw [hv]
    have he : (a1 == b1) = false := by simpa using q1
    clear hv q1
    go_simp
  subst q1
  by_cases q2 : a2 = b2
  case neg =>
    have hv : smP ⟨a0, a1, a2, a3, a4, a5, a6, a7, a8, a9, a10, a11⟩ ⟨a0, a1, b2, b3, b4, b5, b6, b7, b8, b9, b10, b11⟩ = false := by simp [smP, q2]
    rw [hv]
    have he : (a2 == b2) = false := by simpa using q2
    clear hv q2
    go_simp
  subst q2
  by_cases q3 : a3 = b3
  case neg =>
    have hv : smP ⟨a0, a1, a2, a3, a4, a5, a6, a7, a8, a9, a10, a11⟩ ⟨a0, a1, a2, b3, b4, b5, b6, b7, b8, b9, b10, b11⟩ = false := by simp [smP, q3]
    rw [hv]
    have he : (a3 == b3) = false := by simpa using q3
    clear hv q3
    go_simp
  subst q3
  by_cases q4 : a4 = b4
  case neg =>
    have hv : smP ⟨a0, a1, a2, a3, a4, a5, a6, a7, a8, a9, a10, a11⟩ ⟨a0, a1, a2, a3, b4, b5, b6, b7, b8, b9, b10, b11⟩ = false := by simp [smP, q4]
    rw [hv]
    have he : (a4 == b4) = false := by simpa using q4
    clear hv q4
    go_simp
  subst q4
  by_cases q5 : a5 = b5
  case neg =>
    have hv : smP ⟨a0, a1, a2, a3, a4, a5, a6, a7, a8, a9, a10, a11⟩ ⟨a0, a1, a2, a3, a4, b5, b6, b7, b8, b9, b10, b11⟩ = false := by simp [smP, q5]
    rw [hv]
    have he : (a5 == b5) = false := by simpa using q5
    clear hv q5
    go_simp
  subst q5
  by_cases q6 : a6 = b6
  case neg =>
    have hv : smP ⟨a0, a1, a2, a3, a4, a5, a6, a7, a8, a9, a10, a11⟩ ⟨a0, a1, a2, a3, a4, a5, b6, b7, b8, b9, b10, b11⟩ = false := by simp [smP, q6]
    rw [hv]
    have he : (a6 == b6) = false := by simpa using q6
    clear hv q6
    go_simp
  subst q6
  by_cases q7 : a7 = b7
  case neg =>
    have hv : smP ⟨a0, a1, a2, a3, a4, a5, a6, a7, a8, a9, a10, a11⟩ ⟨a0, a1, a2, a3, a4, a5, a6, b7, b8, b9, b10, b11⟩ = false := by simp [smP, q7]
    rw [hv]
    have he : (a7 == b7) = false := by simpa using q7
    clear hv q7
    go_simp
  subst q7
  by_cases q8 : a8 = b8
  case neg =>
    have hv : smP ⟨a0, a1, a2, a3, a4, a5, a6, a7, a8, a9, a10, a11⟩ ⟨a0, a1, a2, a3, a4, a5, a6, a7, b8, b9, b10, b11⟩ = false := by simp [smP, q8]
    rw [hv]
    have he := H8'.out q8
    obtain ⟨u, hu⟩ : ∃ x, str a8 = x := ⟨_, rfl⟩
    obtain ⟨v, hv'⟩ : ∃ x, str b8 = x := ⟨_, rfl⟩
    rw [hu, hv'] at he
    rw [hu, hv']
    clear hu hv' hv q8 H8' H11'
    go_simp
  subst q8
  clear H8'
  by_cases q9 : a9 = b9
  case neg =>
    have hv : smP ⟨a0, a1, a2, a3, a4, a5, a6, a7, a8, a9, a10, a11⟩ ⟨a0, a1, a2, a3, a4, a5, a6, a7, a8, b9, b10, b11⟩ = false := by simp [smP, q9]
    rw [hv]
    have he : (a9 == b9) = false := by simpa using q9
    clear hv q9
    go_simp
  subst q9
  by_cases q10 : a10 = b10
  case neg =>
    have hv : smP ⟨a0, a1, a2, a3, a4, a5, a6, a7, a8, a9, a10, a11⟩ ⟨a0, a1, a2, a3, a4, a5, a6, a7, a8, a9, b10, b11⟩ = false := by simp [smP, q10]
    rw [hv]
    have he : (a10 == b10) = false := by simpa using q10
    clear hv q10
    go_simp
  subst q10
  by_cases q11 : a11 = b11
  case neg =>
    have hv : smP ⟨a0, a1, a2, a3, a4, a5, a6, a7, a8, a9, a10, a11⟩ ⟨a0, a1, a2, a3, a4, a5, a6, a7, a8, a9, a10, b11⟩ = false := by simp [smP, q11]
    rw [hv]
    have he := H11'.out q11
    obtain ⟨u, hu⟩ : ∃ x, str a11 = x := ⟨_, rfl⟩
    obtain ⟨v, hv'⟩ : ∃ x, str b11 = x := ⟨_, rfl⟩
    rw [hu, hv'] at he
    rw [hu, hv']
    clear hu hv' hv q11 H11'
    go_simp
  subst q11
  clear H11'
  rw [smP_self]
  go_simp
theorem exec_eqR {ρ : Operand → Value} {o : Oper} {x y : Operand} {r : TypeId} {s t : Pl} {b : Bool} {w : World} (ho : o.op = .binOp .eql 30 x y r) (hx : ρ x = .agg (rcs s).toArray) (hy : ρ y = .agg (rcs t).toArray) (k : s.fit) (l : t.fit) (hb : smP s t = b) : (execOp ρ o).run Try.prog w = .ok (.value (.bool b)) w := by
  unfold execOp
  simp only [ho, hx, hy, Sem.run_bind, run_eqGuard_agg (hm := Try.eqGuardType30), Result.andThen_ok, run_eqR w s t k l, Sem.run_pure, hb]
end Go.Proofs.Ytabdejoakecioaa

import Derived.Test.YtbblckaplddggaaNh
namespace Go.Proofs.Ytbblckaplddggaa
open Go.RowKit

theorem nat_abs_le {x y : Int} {T : Nat} (h1 : -y ≤ x) (h2 : x ≤ y) (hT : y.natAbs ≤ T) : x.natAbs ≤ T := by omega
section
variable {a : Int} (ha : 2 ≤ a)
include ha
theorem four_le {n : Nat} (h : 2 ≤ n) : 4 ≤ psi a n := by have := psi_two_le ha n h; omega
theorem ev_exact {j n T : Nat} (hj : 2 * j ≤ n) (hn : 2 ≤ n) (hT : (psi a n).natAbs ≤ T) : EvOk T id (2 * a) (psi a) j := by
  have h4 := four_le ha hn
  have hb := before_le ha j
  have h2 := psi_le ha (show j ≤ n by omega)
  have h3 := psi_nn ha j
  refine ⟨(psi_even a j).symm, nat_abs_le (y := psi a n) ?_ ?_ hT, nat_abs_le (y := psi a n) ?_ ?_ hT, nat_abs_le (y := psi a n) ?_ ?_ hT, nat_abs_le (y := psi a n) ?_ ?_ hT⟩
  · have := Int.mul_nonneg (show 0 ≤ 2 * a by omega) h3; omega
  · exact Int.le_trans (twice_le ha j) (psi_le ha hj)
  · omega
  · omega
  · rw [diff_eq]; have := chi_ge ha j; omega
  · rw [diff_eq]; exact diff_le ha hj hn
  · rw [← psi_even]; have := psi_nn ha (2 * j); omega
  · rw [← psi_even]; exact psi_le ha hj
theorem od_exact {j n T : Nat} (hj : 2 * j + 1 ≤ n) (hT : (psi a n).natAbs ≤ T) : OdOk T id (psi a) j := by
  have h1 := psi_le ha (show j + 1 ≤ n by omega)
  have h2 := (grow ha j).2.2.1
  have h3 := psi_nn ha j
  have h4 := psi_le ha hj
  have h5 := sum_le ha j
  refine ⟨(psi_odd a j).symm, nat_abs_le (y := psi a n) ?_ ?_ hT, nat_abs_le (y := psi a n) ?_ ?_ hT, nat_abs_le (y := psi a n) ?_ ?_ hT⟩
  · omega
  · omega
  · omega
  · omega
  · rw [← psi_odd]; have := psi_nn ha (2 * j + 1); omega
  · rw [← psi_odd]; exact h4
theorem sq_exact {m n T : Nat} (hm : 1 ≤ m) (hn : 2 * m ≤ n) (hT : (psi a n).natAbs ≤ T) : Sq T id (2 * a) (psi a) m := by
  have e := fun (j : Nat) (hj : 2 * j ≤ m) => ev_exact (T := T) ha (j := j) (n := n) (by omega) (by omega) hT
  have o := fun (j : Nat) (hj : 2 * j ≤ m) => od_exact (T := T) ha (j := j) (n := n) (by omega) hT
  refine ⟨rfl, rfl, fun j h => (e j h).ev, fun j h => (o j h).od, fun j _ => (psi_two a (2 * j)).symm, fun j h => (e j h).a1, fun j h => (e j h).a2, fun j h => (e j h).a3, fun j h => (e j h).a4, fun j h => (o j h).b1, fun j h => (o j h).b2, fun j h => (o j h).b3, fun j h => ?_, fun j h => ?_⟩
  · have h3 := psi_nn ha (2 * j + 1)
    refine nat_abs_le (y := psi a n) ?_ ?_ hT
    · have := Int.mul_nonneg (show 0 ≤ 2 * a by omega) h3; have := psi_nn ha n; omega
    · exact Int.le_trans (twice_le ha _) (psi_le ha (by omega))
  · rw [← psi_two]
    have h3 := psi_nn ha (2 * j + 2)
    refine nat_abs_le (y := psi a n) ?_ (psi_le ha (by omega)) hT
    have := psi_nn ha n; omega
theorem psi_le_chi {m n : Nat} (h : m ≤ n) : psi a m ≤ chi a n := by
  have h1 := psi_le ha h
  have h2 := psi_lt_chi ha n
  omega
theorem a_psi_le (m : Nat) : a * psi a m ≤ psi a (2 * m) := by
  have h1 := twice_le ha m
  have h2 := Int.mul_nonneg (show 0 ≤ a by omega) (psi_nn ha m)
  grind
theorem chi_le_psi {m : Nat} (h : 1 ≤ m) : 2 * chi a m ≤ psi a (2 * m) := diff_le ha (Nat.le_refl _) (by omega)
theorem a_psi_succ_le {m : Nat} (h : 1 ≤ m) : a * psi a (m + 1) ≤ chi a (2 * m + 1) := by
  rw [chi_odd]
  have e := chi_next a m
  have h1 := psi_lt_chi ha m
  have h2 := chi_ge_a ha h
  have h3 := chi_le ha (show m ≤ m + 1 by omega)
  have h4 := Int.mul_le_mul_of_nonneg_right (show 2 ≤ chi a m by omega) (show 0 ≤ chi a (m + 1) by have := chi_ge ha (m + 1); omega)
  have h5 := chi_ge_a ha (show 1 ≤ m + 1 by omega)
  omega
theorem chi_sq_le (m : Nat) : chi a m * chi a m ≤ chi a (2 * m) := by
  rw [chi_even]
  have h1 := chi_ge ha m
  have := Int.mul_le_mul_of_nonneg_right h1 (show 0 ≤ chi a m by omega)
  omega
theorem chi_pr_le {m : Nat} (h : 1 ≤ m) : chi a m * chi a (m + 1) ≤ chi a (2 * m + 1) ∧ a ≤ chi a m * chi a (m + 1) := by
  rw [chi_odd]
  have h1 := chi_ge ha m
  have h2 := chi_ge_a ha (show 1 ≤ m + 1 by omega)
  have := Int.mul_le_mul_of_nonneg_right h1 (show 0 ≤ chi a (m + 1) by omega)
  omega
end
end Go.Proofs.Ytbblckaplddggaa

import Derived.Test.YteabokkofoomkaaGreatCaa
import Derived.Test.YteabokkofoomkaaGreatCah
import Derived.Test.YteabokkofoomkaaGreatCag
import Derived.Test.YteabokkofoomkaaGreatCac
import Derived.IntWalk
import Derived.Outline
/-
  Plain facts on the sequences psi and chi. Nothing here is a claim.
-/
namespace Go.Proofs.YteabokkofoomkaaGreat
def psi (a : Int) : Nat → Int
  | 0 => 0
  | 1 => 1
  | n + 2 => 2 * a * psi a (n + 1) - psi a n
def chi (a : Int) : Nat → Int
  | 0 => 1
  | 1 => a
  | n + 2 => 2 * a * chi a (n + 1) - chi a n
theorem psi_two (a : Int) (n : Nat) : psi a (n + 2) = 2 * a * psi a (n + 1) - psi a n := by rw [psi]
theorem chi_two (a : Int) (n : Nat) : chi a (n + 2) = 2 * a * chi a (n + 1) - chi a n := by rw [chi]
theorem both_succ (a : Int) (n : Nat) : psi a (n + 1) = chi a n + a * psi a n ∧ chi a (n + 1) = a * chi a n + (a * a - 1) * psi a n := by
  induction n with
  | zero => simp [psi, chi]
  | succ n ih =>
    obtain ⟨h1, h2⟩ := ih
    rw [psi_two, chi_two, h1, h2]
    constructor <;> grind
theorem psi_succ (a : Int) (n : Nat) : psi a (n + 1) = chi a n + a * psi a n := (both_succ a n).1
theorem chi_succ (a : Int) (n : Nat) : chi a (n + 1) = a * chi a n + (a * a - 1) * psi a n := (both_succ a n).2
theorem both_add (a : Int) (m n : Nat) : psi a (m + n) = psi a m * chi a n + chi a m * psi a n ∧ chi a (m + n) = chi a m * chi a n + (a * a - 1) * (psi a m * psi a n) := by
  induction n with
  | zero => simp [psi, chi]
  | succ n ih =>
    obtain ⟨h1, h2⟩ := ih
    rw [← Nat.add_assoc, psi_succ, chi_succ, psi_succ, chi_succ, h1, h2]
    constructor <;> grind
theorem pell (a : Int) (n : Nat) : chi a n * chi a n - (a * a - 1) * (psi a n * psi a n) = 1 := by
  induction n with
  | zero => simp [psi, chi]
  | succ n ih => rw [psi_succ, chi_succ]; grind
theorem psi_even (a : Int) (m : Nat) : psi a (2 * m) = psi a m * (psi a (m + 1) - (2 * a * psi a m - psi a (m + 1))) := by
  rw [Nat.two_mul, (both_add a m m).1, psi_succ]; grind
theorem psi_odd (a : Int) (m : Nat) : psi a (2 * m + 1) = (psi a (m + 1) - psi a m) * (psi a (m + 1) + psi a m) := by
  have h := pell a m
  rw [show 2 * m + 1 = m + (m + 1) by omega, (both_add a m (m + 1)).1, psi_succ, chi_succ]; grind
theorem psi_dbl (a : Int) (m : Nat) : psi a (2 * m) = 2 * (chi a m * psi a m) := by
  rw [Nat.two_mul, (both_add a m m).1]; grind
theorem before_eq (a : Int) (k : Nat) : 2 * a * psi a (k + 1) - psi a (k + 2) = psi a k := by rw [psi_two]; omega
theorem diff_eq (a : Int) (k : Nat) : psi a (k + 1) - (2 * a * psi a k - psi a (k + 1)) = 2 * chi a k := by rw [psi_succ]; grind
section
variable {a : Int} (ha : 2 ≤ a)
include ha
theorem grow (n : Nat) : 0 ≤ psi a n ∧ 1 ≤ chi a n ∧ psi a n + 1 ≤ psi a (n + 1) ∧ psi a n + 1 ≤ chi a n ∧ chi a n + 1 ≤ chi a (n + 1) := by
  induction n with
  | zero => simp [psi, chi]; omega
  | succ n ih =>
    obtain ⟨h1, h2, h3, h4, h5⟩ := ih
    have s1 := psi_succ a n
    have s2 := chi_succ a n
    have s3 := psi_succ a (n + 1)
    have s4 := chi_succ a (n + 1)
    have e1 := Int.mul_nonneg (show (0 : Int) ≤ a - 2 by omega) h1
    have e2 := Int.mul_nonneg (show (0 : Int) ≤ a - 2 by omega) (show (0 : Int) ≤ chi a n - 1 by omega)
    have e3 := Int.mul_nonneg (show (0 : Int) ≤ (a - 2) * a by exact Int.mul_nonneg (by omega) (by omega)) h1
    have g1 : 0 ≤ psi a (n + 1) := by omega
    have g2 : 1 ≤ chi a (n + 1) := by omega
    have e4 := Int.mul_nonneg (show (0 : Int) ≤ a - 2 by omega) g1
    have e5 := Int.mul_nonneg (show (0 : Int) ≤ a - 2 by omega) (show (0 : Int) ≤ chi a (n + 1) - 1 by omega)
    have e6 := Int.mul_nonneg (show (0 : Int) ≤ (a - 2) * a by exact Int.mul_nonneg (by omega) (by omega)) g1
    refine ⟨g1, g2, ?_, ?_, ?_⟩ <;> grind
theorem psi_nn (n : Nat) : 0 ≤ psi a n := (grow ha n).1
theorem chi_ge (n : Nat) : 1 ≤ chi a n := (grow ha n).2.1
theorem psi_le {m n : Nat} (h : m ≤ n) : psi a m ≤ psi a n := by
  induction n with
  | zero => obtain rfl : m = 0 := by omega
            exact Int.le_refl _
  | succ n ih =>
    have := (grow ha n).2.2.1
    by_cases e : m = n + 1
    · subst e; exact Int.le_refl _
    · have := ih (by omega); omega
theorem chi_le {m n : Nat} (h : m ≤ n) : chi a m ≤ chi a n := by
  induction n with
  | zero => obtain rfl : m = 0 := by omega
            exact Int.le_refl _
  | succ n ih =>
    have := (grow ha n).2.2.2.2
    by_cases e : m = n + 1
    · subst e; exact Int.le_refl _
    · have := ih (by omega); omega
theorem psi_lt {m n : Nat} (h : m < n) : psi a m < psi a n := by
  have h1 := psi_le ha (show m + 1 ≤ n by omega)
  have h2 := (grow ha m).2.2.1
  omega
theorem psi_ge_one {n : Nat} (h : 1 ≤ n) : 1 ≤ psi a n := by
  have := psi_le ha h
  simpa [psi] using this
theorem chi_ge_a {n : Nat} (h : 1 ≤ n) : a ≤ chi a n := by
  have := chi_le ha h
  simpa [chi] using this
theorem psi_two_le (n : Nat) (h : 2 ≤ n) : 2 * a ≤ psi a n := by
  have := psi_le ha h
  simpa [psi] using this
/-- 2 a psi(k) is at most psi(2 k) -/
theorem twice_le (k : Nat) : 2 * a * psi a k ≤ psi a (2 * k) := by
  rw [psi_dbl a]
  rcases Nat.eq_zero_or_pos k with h | h
  · subst h; simp [psi]
  · have := Int.mul_le_mul_of_nonneg_right (chi_ge_a ha h) (psi_nn ha k)
    grind
theorem before_le (k : Nat) : -1 ≤ 2 * a * psi a k - psi a (k + 1) ∧ 2 * a * psi a k - psi a (k + 1) ≤ psi a k := by
  rcases k with _ | k
  · simp [psi]
  · rw [before_eq a]
    have := psi_nn ha k
    have := psi_le ha (show k ≤ k + 1 by omega)
    omega
theorem diff_le {k n : Nat} (h : 2 * k ≤ n) (h2 : 2 ≤ n) : 2 * chi a k ≤ psi a n := by
  rcases Nat.eq_zero_or_pos k with h0 | h0
  · subst h0
    have := psi_two_le ha n h2
    simp [chi]; omega
  · have h1 := psi_le ha h
    rw [psi_dbl a] at h1
    have h3 := Int.mul_le_mul_of_nonneg_left (psi_ge_one ha h0) (show 0 ≤ chi a k by have := chi_ge ha k; omega)
    omega
theorem sum_le (k : Nat) : psi a (k + 1) + psi a k ≤ psi a (2 * k + 1) := by
  rw [psi_odd]
  have h1 := (grow ha k).2.2.1
  have h2 := psi_nn ha k
  have h3 := psi_nn ha (k + 1)
  have := Int.mul_le_mul_of_nonneg_right (show 1 ≤ psi a (k + 1) - psi a k by omega) (show 0 ≤ psi a (k + 1) + psi a k by omega)
  omega
end
end Go.Proofs.YteabokkofoomkaaGreat
/-
  Where in psi a number may stand: the bounds that a search for its index begins with. Nothing here is a claim.
-/
set_option maxRecDepth 100000
namespace Go.Proofs.YteabokkofoomkaaGreat
theorem psi_up {a : Int} (ha : 2 ≤ a) {b : Nat} (hb : a.natAbs < 2 ^ b) : ∀ j : Nat, (psi a j).natAbs < 2 ^ ((b + 1) * j) ∧ (psi a (j + 1)).natAbs < 2 ^ ((b + 1) * (j + 1)) := by
  intro j
  induction j with
  | zero =>
    refine ⟨by show (0 : Int).natAbs < _; simp, ?_⟩
    show (1 : Int).natAbs < 2 ^ ((b + 1) * 1)
    rw [Nat.mul_one, Nat.pow_succ]
    have : 0 < 2 ^ b := Nat.pow_pos (by omega)
    show 1 < _
    omega
  | succ j ih =>
    refine ⟨ih.2, ?_⟩
    show (psi a (j + 2)).natAbs < 2 ^ ((b + 1) * (j + 2))
    have h2 := psi_two a j
    have h3 := psi_nn ha j
    have h4 := psi_nn ha (j + 1)
    have h5 := psi_nn ha (j + 2)
    have h6 : (psi a (j + 2)).natAbs ≤ (2 * a).natAbs * (psi a (j + 1)).natAbs := by
      rw [← Int.natAbs_mul]
      generalize 2 * a * psi a (j + 1) = q at *
      omega
    have h7 : (2 * a).natAbs < 2 ^ (b + 1) := by rw [Nat.pow_succ]; omega
    have h8 : (2 * a).natAbs * (psi a (j + 1)).natAbs < 2 ^ (b + 1) * 2 ^ ((b + 1) * (j + 1)) := Nat.mul_lt_mul'' h7 ih.2
    rw [← Nat.pow_add, show b + 1 + (b + 1) * (j + 1) = (b + 1) * (j + 2) by rw [show j + 2 = (j + 1) + 1 from rfl, Nat.mul_succ (b + 1) (j + 1)]; omega] at h8
    omega
theorem psi_dn {a : Int} (ha : 2 ≤ a) {b : Nat} (hb : 2 ^ b ≤ a.natAbs) : ∀ j : Nat, 2 ^ (b * j) ≤ (psi a (j + 1)).natAbs := by
  intro j
  induction j with
  | zero => show 2 ^ (b * 0) ≤ (1 : Int).natAbs; simp
  | succ j ih =>
    have h2 := psi_succ a (j + 1)
    have h3 := chi_ge ha (j + 1)
    have h4 := psi_nn ha (j + 1)
    have h5 : (0 : Int) ≤ a * psi a (j + 1) := Int.mul_nonneg (by omega) h4
    have h6 : a.natAbs * (psi a (j + 1)).natAbs ≤ (psi a (j + 1 + 1)).natAbs := by
      rw [← Int.natAbs_mul]
      generalize a * psi a (j + 1) = q at *
      omega
    have h7 := Nat.mul_le_mul hb ih
    rw [← Nat.pow_add, show b + b * j = b * (j + 1) by rw [Nat.mul_succ]; omega] at h7
    omega
/-- elements ahead of the lower bound are less -/
theorem idx_low {a y : Int} (ha : 2 ≤ a) (hy : 0 ≤ y) {j : Nat} (h : j < (blen y.natAbs - 1) / (blen a.natAbs + 1)) : psi a j < y := by
  have h1 := (psi_up ha (blen_lt a.natAbs) j).1
  have h2 : (blen a.natAbs + 1) * (j + 1) ≤ blen y.natAbs - 1 := by
    have h3 : j + 1 ≤ (blen y.natAbs - 1) / (blen a.natAbs + 1) := h
    rw [Nat.mul_comm]
    exact (Nat.le_div_iff_mul_le (by omega)).1 h3
  have h3 : y.natAbs ≠ 0 := fun e => by
    rw [e] at h2
    have : blen 0 = 0 := rfl
    rw [this, Nat.mul_succ] at h2
    omega
  have h4 := blen_ge h3
  have h5 : (2 : Nat) ^ ((blen a.natAbs + 1) * j) ≤ 2 ^ (blen y.natAbs - 1) := Nat.pow_le_pow_right (by omega) (Nat.le_trans (Nat.mul_le_mul_left _ (by omega)) h2)
  have h6 := psi_nn ha j
  generalize (2 : Nat) ^ ((blen a.natAbs + 1) * j) = q1 at *
  generalize (2 : Nat) ^ (blen y.natAbs - 1) = q2 at *
  omega
/-- none beyond the upper bound is the number -/
theorem idx_high {a y : Int} (ha : 2 ≤ a) {n : Nat} (h : psi a n = y) : n ≤ blen y.natAbs / (blen a.natAbs - 1) + 1 := by
  rcases Nat.eq_zero_or_pos n with h0 | h0
  · rw [h0]; exact Nat.zero_le _
  obtain ⟨k, rfl⟩ : ∃ k, n = k + 1 := ⟨n - 1, by omega⟩
  have hb : 2 ≤ blen a.natAbs := by
    rcases Nat.lt_or_ge 1 (blen a.natAbs) with h1 | h1
    · exact h1
    · have := blen_le.1 h1
      omega
  have h1 := psi_dn ha (blen_ge (v := a.natAbs) (by omega)) k
  rw [h] at h1
  have h2 := blen_lt y.natAbs
  have h3 : (blen a.natAbs - 1) * k < blen y.natAbs := (Nat.pow_lt_pow_iff_right (by omega : 1 < 2)).1 (Nat.lt_of_le_of_lt h1 h2)
  have h4 : k ≤ blen y.natAbs / (blen a.natAbs - 1) := (Nat.le_div_iff_mul_le (by omega)).2 (by rw [Nat.mul_comm]; omega)
  omega
end Go.Proofs.YteabokkofoomkaaGreat
/-
  Pell's equation x x - (a a - 1) y y = 1 has no other solutions from 0 on than the elements of the two sequences: by descent. Nothing here is a claim.
-/
set_option maxRecDepth 100000
namespace Go.Proofs.YteabokkofoomkaaGreat
end Go.Proofs.YteabokkofoomkaaGreat
namespace Go.Proofs.YteabokkofoomkaaGreat
open Go.RowKit
end Go.Proofs.YteabokkofoomkaaGreat
namespace Go.Proofs.YteabokkofoomkaaGreat
open Go.RowKit
end Go.Proofs.YteabokkofoomkaaGreat
namespace Go.Proofs.YteabokkofoomkaaGreat
open Go.RowKit
end Go.Proofs.YteabokkofoomkaaGreat
namespace Go.Proofs.YteabokkofoomkaaGreat
open Go.RowKit
/-- where the digits from i on are found -/
structure QuoAt (X V N i : Nat) (R Q : List Nat) : Prop where
  rl : R.length = N
  rs : small R
  qs : small Q
  lt : val R < pw i * V
  eq : val R + V * val Q = X
  zero : ∀ j, j < i → Q.getD j 0 = 0
theorem QuoAt.done {X V N : Nat} {R Q : List Nat} (h : QuoAt X V N 0 R Q) (hV : 0 < V) : val Q = X / V ∧ val R = X % V := by
  have h1 := h.lt
  rw [pw_zero, Nat.one_mul] at h1
  have h2 := h.eq
  have e1 : X / V = val Q := by
    rw [← h2, Nat.add_comm, Nat.mul_add_div hV, Nat.div_eq_of_lt h1, Nat.add_zero]
  have e2 : X % V = val R := by
    rw [← h2, Nat.add_comm, Nat.mul_add_mod, Nat.mod_eq_of_lt h1]
  exact ⟨e1.symm, e2.symm⟩
end Go.Proofs.YteabokkofoomkaaGreat
namespace Go.Proofs.YteabokkofoomkaaGreat
open Go.RowKit
end Go.Proofs.YteabokkofoomkaaGreat
namespace Go.Proofs.YteabokkofoomkaaGreat
open Go.RowKit
end Go.Proofs.YteabokkofoomkaaGreat
namespace Go.Proofs.YteabokkofoomkaaGreat
open Go.RowKit
end Go.Proofs.YteabokkofoomkaaGreat

/-
  Plain facts on the sequences psi and chi. Nothing here is a claim.
-/
import Derived.Test.YtbblckaplddggaaMa
namespace Go.Proofs.Ytbblckaplddggaa

def psi (a : Int) : Nat → Int
  | 0 => 0
  | 1 => 1
  | n + 2 => 2 * a * psi a (n + 1) - psi a n
def chi (a : Int) : Nat → Int
  | 0 => 1
  | 1 => a
  | n + 2 => 2 * a * chi a (n + 1) - chi a n
theorem psi_two (a : Int) (n : Nat) : psi a (n + 2) = 2 * a * psi a (n + 1) - psi a n := by rw [psi]
theorem chi_two (a : Int) (n : Nat) : chi a (n + 2) = 2 * a * chi a (n + 1) - chi a n := by rw [chi]
theorem both_succ (a : Int) (n : Nat) : psi a (n + 1) = chi a n + a * psi a n ∧ chi a (n + 1) = a * chi a n + (a * a - 1) * psi a n := by
  induction n with
  | zero => simp [psi, chi]
  | succ n ih =>
    obtain ⟨h1, h2⟩ := ih
    rw [psi_two, chi_two, h1, h2]
    constructor <;> grind
theorem psi_succ (a : Int) (n : Nat) : psi a (n + 1) = chi a n + a * psi a n := (both_succ a n).1
theorem chi_succ (a : Int) (n : Nat) : chi a (n + 1) = a * chi a n + (a * a - 1) * psi a n := (both_succ a n).2
theorem both_add (a : Int) (m n : Nat) : psi a (m + n) = psi a m * chi a n + chi a m * psi a n ∧ chi a (m + n) = chi a m * chi a n + (a * a - 1) * (psi a m * psi a n) := by
  induction n with
  | zero => simp [psi, chi]
  | succ n ih =>
    obtain ⟨h1, h2⟩ := ih
    rw [← Nat.add_assoc, psi_succ, chi_succ, psi_succ, chi_succ, h1, h2]
    constructor <;> grind
theorem pell (a : Int) (n : Nat) : chi a n * chi a n - (a * a - 1) * (psi a n * psi a n) = 1 := by
  induction n with
  | zero => simp [psi, chi]
  | succ n ih => rw [psi_succ, chi_succ]; grind
theorem psi_even (a : Int) (m : Nat) : psi a (2 * m) = psi a m * (psi a (m + 1) - (2 * a * psi a m - psi a (m + 1))) := by
  rw [Nat.two_mul, (both_add a m m).1, psi_succ]; grind
theorem psi_odd (a : Int) (m : Nat) : psi a (2 * m + 1) = (psi a (m + 1) - psi a m) * (psi a (m + 1) + psi a m) := by
  have h := pell a m
  rw [show 2 * m + 1 = m + (m + 1) by omega, (both_add a m (m + 1)).1, psi_succ, chi_succ]; grind
theorem chi_of (a : Int) (m : Nat) : chi a m = psi a (m + 1) - a * psi a m := by rw [psi_succ]; omega
theorem chi_even (a : Int) (m : Nat) : chi a (2 * m) = chi a m * chi a m + (chi a m * chi a m - 1) := by
  have h := pell a m
  rw [Nat.two_mul, (both_add a m m).2]; grind
theorem chi_odd (a : Int) (m : Nat) : chi a (2 * m + 1) = chi a m * chi a (m + 1) + (chi a m * chi a (m + 1) - a) := by
  have h := pell a m
  rw [show 2 * m + 1 = m + (m + 1) by omega, (both_add a m (m + 1)).2, psi_succ, chi_succ]; grind
theorem chi_next (a : Int) (m : Nat) : chi a (m + 1) = a * psi a (m + 1) - psi a m := by
  rw [chi_succ, psi_succ]; grind
theorem psi_dbl (a : Int) (m : Nat) : psi a (2 * m) = 2 * (chi a m * psi a m) := by
  rw [Nat.two_mul, (both_add a m m).1]; grind
theorem before_eq (a : Int) (k : Nat) : 2 * a * psi a (k + 1) - psi a (k + 2) = psi a k := by rw [psi_two]; omega
theorem diff_eq (a : Int) (k : Nat) : psi a (k + 1) - (2 * a * psi a k - psi a (k + 1)) = 2 * chi a k := by rw [psi_succ]; grind
section
variable {a : Int} (ha : 2 ≤ a)
include ha
theorem grow (n : Nat) : 0 ≤ psi a n ∧ 1 ≤ chi a n ∧ psi a n + 1 ≤ psi a (n + 1) ∧ psi a n + 1 ≤ chi a n ∧ chi a n + 1 ≤ chi a (n + 1) := by
  induction n with
  | zero => simp [psi, chi]; omega
  | succ n ih =>
    obtain ⟨h1, h2, h3, h4, h5⟩ := ih
    have s1 := psi_succ a n
    have s2 := chi_succ a n
    have s3 := psi_succ a (n + 1)
    have s4 := chi_succ a (n + 1)
    have e1 := Int.mul_nonneg (show (0 : Int) ≤ a - 2 by omega) h1
    have e2 := Int.mul_nonneg (show (0 : Int) ≤ a - 2 by omega) (show (0 : Int) ≤ chi a n - 1 by omega)
    have e3 := Int.mul_nonneg (show (0 : Int) ≤ (a - 2) * a by exact Int.mul_nonneg (by omega) (by omega)) h1
    have g1 : 0 ≤ psi a (n + 1) := by omega
    have g2 : 1 ≤ chi a (n + 1) := by omega
    have e4 := Int.mul_nonneg (show (0 : Int) ≤ a - 2 by omega) g1
    have e5 := Int.mul_nonneg (show (0 : Int) ≤ a - 2 by omega) (show (0 : Int) ≤ chi a (n + 1) - 1 by omega)
    have e6 := Int.mul_nonneg (show (0 : Int) ≤ (a - 2) * a by exact Int.mul_nonneg (by omega) (by omega)) g1
    refine ⟨g1, g2, ?_, ?_, ?_⟩ <;> grind
theorem psi_nn (n : Nat) : 0 ≤ psi a n := (grow ha n).1
theorem chi_ge (n : Nat) : 1 ≤ chi a n := (grow ha n).2.1
theorem psi_lt_chi (n : Nat) : psi a n + 1 ≤ chi a n := (grow ha n).2.2.2.1
theorem psi_le {m n : Nat} (h : m ≤ n) : psi a m ≤ psi a n := by
  induction n with
  | zero => obtain rfl : m = 0 := by omega
            exact Int.le_refl _
  | succ n ih =>
    have := (grow ha n).2.2.1
    by_cases e : m = n + 1
    · subst e; exact Int.le_refl _
    · have := ih (by omega); omega
theorem chi_le {m n : Nat} (h : m ≤ n) : chi a m ≤ chi a n := by
  induction n with
  | zero => obtain rfl : m = 0 := by omega
            exact Int.le_refl _
  | succ n ih =>
    have := (grow ha n).2.2.2.2
    by_cases e : m = n + 1
    · subst e; exact Int.le_refl _
    · have := ih (by omega); omega
theorem psi_lt {m n : Nat} (h : m < n) : psi a m < psi a n := by
  have h1 := psi_le ha (show m + 1 ≤ n by omega)
  have h2 := (grow ha m).2.2.1
  omega
theorem psi_ge_one {n : Nat} (h : 1 ≤ n) : 1 ≤ psi a n := by
  have := psi_le ha h
  simpa [psi] using this
theorem chi_ge_a {n : Nat} (h : 1 ≤ n) : a ≤ chi a n := by
  have := chi_le ha h
  simpa [chi] using this
theorem psi_two_le (n : Nat) (h : 2 ≤ n) : 2 * a ≤ psi a n := by
  have := psi_le ha h
  simpa [psi] using this
/-- 2 a psi(k) is at most psi(2 k) -/
theorem twice_le (k : Nat) : 2 * a * psi a k ≤ psi a (2 * k) := by
  rw [psi_dbl a]
  rcases Nat.eq_zero_or_pos k with h | h
  · subst h; simp [psi]
  · have := Int.mul_le_mul_of_nonneg_right (chi_ge_a ha h) (psi_nn ha k)
    grind
theorem before_le (k : Nat) : -1 ≤ 2 * a * psi a k - psi a (k + 1) ∧ 2 * a * psi a k - psi a (k + 1) ≤ psi a k := by
  rcases k with _ | k
  · simp [psi]
  · rw [before_eq a]
    have := psi_nn ha k
    have := psi_le ha (show k ≤ k + 1 by omega)
    omega
theorem diff_le {k n : Nat} (h : 2 * k ≤ n) (h2 : 2 ≤ n) : 2 * chi a k ≤ psi a n := by
  rcases Nat.eq_zero_or_pos k with h0 | h0
  · subst h0
    have := psi_two_le ha n h2
    simp [chi]; omega
  · have h1 := psi_le ha h
    rw [psi_dbl a] at h1
    have h3 := Int.mul_le_mul_of_nonneg_left (psi_ge_one ha h0) (show 0 ≤ chi a k by have := chi_ge ha k; omega)
    omega
theorem sum_le (k : Nat) : psi a (k + 1) + psi a k ≤ psi a (2 * k + 1) := by
  rw [psi_odd]
  have h1 := (grow ha k).2.2.1
  have h2 := psi_nn ha k
  have h3 := psi_nn ha (k + 1)
  have := Int.mul_le_mul_of_nonneg_right (show 1 ≤ psi a (k + 1) - psi a k by omega) (show 0 ≤ psi a (k + 1) + psi a k by omega)
  omega
end
end Go.Proofs.Ytbblckaplddggaa

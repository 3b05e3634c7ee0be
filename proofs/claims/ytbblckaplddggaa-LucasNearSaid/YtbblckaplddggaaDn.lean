import Derived.Test.YtbblckaplddggaaNa
namespace Go.Proofs.Ytbblckaplddggaa
theorem psi_near (a b : Int) : ∀ k : Nat, (a - b) ∣ (psi a k - psi b k) ∧ (a - b) ∣ (psi a (k + 1) - psi b (k + 1)) := by
  intro k
  induction k with
  | zero => exact ⟨⟨0, by simp [psi]⟩, ⟨0, by simp [psi]⟩⟩
  | succ k ih =>
    obtain ⟨h1, h2⟩ := ih
    refine ⟨h2, ?_⟩
    obtain ⟨p, hp⟩ := h1
    obtain ⟨q, hq⟩ := h2
    refine ⟨2 * a * q + 2 * psi b (k + 1) - p, ?_⟩
    rw [psi_two, psi_two]
    grind
theorem chi_near (a b : Int) : ∀ k : Nat, (a - b) ∣ (chi a k - chi b k) ∧ (a - b) ∣ (chi a (k + 1) - chi b (k + 1)) := by
  intro k
  induction k with
  | zero => exact ⟨⟨0, by simp [chi]⟩, ⟨1, by simp [chi]⟩⟩
  | succ k ih =>
    obtain ⟨h1, h2⟩ := ih
    refine ⟨h2, ?_⟩
    obtain ⟨p, hp⟩ := h1
    obtain ⟨q, hq⟩ := h2
    refine ⟨2 * a * q + 2 * chi b (k + 1) - p, ?_⟩
    rw [chi_two, chi_two]
    grind
theorem psi_index (a : Int) : ∀ k : Nat, (a - 1) ∣ (psi a k - (k : Int)) ∧ (a - 1) ∣ (psi a (k + 1) - ((k : Int) + 1)) := by
  intro k
  induction k with
  | zero => exact ⟨⟨0, by simp [psi]⟩, ⟨0, by simp [psi]⟩⟩
  | succ k ih =>
    obtain ⟨h1, h2⟩ := ih
    refine ⟨by rw [Int.natCast_add]; exact h2, ?_⟩
    obtain ⟨p, hp⟩ := h1
    obtain ⟨q, hq⟩ := h2
    refine ⟨2 * a * q + 2 * ((k : Int) + 1) - p, ?_⟩
    rw [psi_two, Int.natCast_add]
    generalize (k : Int) = K at *
    generalize psi a k = x at *
    generalize psi a (k + 1) = y at *
    have e : ((1 : Nat) : Int) = 1 := rfl
    rw [e]
    grind
theorem psi_pows {a : Int} (ha : 2 ≤ a) : ∀ k : Nat, (2 * a - 1) ^ k ≤ psi a (k + 1) ∧ psi a (k + 1) ≤ (2 * a) ^ k := by
  intro k
  induction k with
  | zero => simp [psi]
  | succ k ih =>
    obtain ⟨h1, h2⟩ := ih
    rw [Int.pow_succ, Int.pow_succ, psi_two]
    have h3 := psi_nn ha k
    have h4 := psi_le ha (Nat.le_succ k)
    have e1 := Int.mul_le_mul_of_nonneg_right h1 (show 0 ≤ 2 * a - 1 by omega)
    have e2 := Int.mul_le_mul_of_nonneg_right h2 (show 0 ≤ 2 * a by omega)
    have e3 : psi a (k + 1) * (2 * a) = 2 * a * psi a (k + 1) := Int.mul_comm _ _
    have e4 : psi a (k + 1) * (2 * a - 1) = 2 * a * psi a (k + 1) - psi a (k + 1) := by rw [Int.mul_sub, Int.mul_one, e3]
    rw [Nat.succ_eq_add_one] at h4
    omega
end Go.Proofs.Ytbblckaplddggaa

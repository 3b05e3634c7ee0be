import Derived.Test.YtmgkgomecakoiaaMem
import Derived.RegionTactic
namespace Go.Proofs.Ytmgkgomecakoiaa
open Go.RowKit Go.Deep

theorem and_two (k n b a : Nat) (hb : b < 2) (ha : a < 2) : (2 * k + b) &&& (2 * n + a) = 2 * (k &&& n) + (b &&& a) := by
  have h1 := @Nat.and_mod_two_pow (2 * k + b) (2 * n + a) 1
  have h2 := @Nat.shiftRight_and_distrib 1 (2 * k + b) (2 * n + a)
  simp only [Nat.shiftRight_eq_div_pow, Nat.pow_one] at h1 h2
  rw [show (2 * k + b) % 2 = b by omega, show (2 * n + a) % 2 = a by omega] at h1
  rw [show (2 * k + b) / 2 = k by omega, show (2 * n + a) / 2 = n by omega] at h2
  omega
theorem bit_cases {P : Nat → Prop} (n : Nat) (h0 : ∀ m, P (2 * m)) (h1 : ∀ m, P (2 * m + 1)) : P n := by
  rcases Nat.mod_two_eq_zero_or_one n with h | h
  · have := h0 (n / 2); rwa [show 2 * (n / 2) = n by omega] at this
  · have := h1 (n / 2); rwa [show 2 * (n / 2) + 1 = n by omega] at this
theorem and00 (k n : Nat) : (2 * k) &&& (2 * n) = 2 * (k &&& n) := by have := and_two k n 0 0 (by omega) (by omega); simpa using this
theorem and01 (k n : Nat) : (2 * k) &&& (2 * n + 1) = 2 * (k &&& n) := by have := and_two k n 0 1 (by omega) (by omega); simpa using this
theorem and10 (k n : Nat) : (2 * k + 1) &&& (2 * n) = 2 * (k &&& n) := by have := and_two k n 1 0 (by omega) (by omega); simpa using this
theorem and11 (k n : Nat) : (2 * k + 1) &&& (2 * n + 1) = 2 * (k &&& n) + 1 := and_two k n 1 1 (by omega) (by omega)

/-- the binomial coefficient of n over k is odd -/
def par (n k : Nat) : Bool := decide (k &&& n = k)
theorem par_zero (k : Nat) : par 0 k = decide (k = 0) := by unfold par; rw [Nat.and_zero, decide_eq_decide]; omega
theorem par_first (n : Nat) : par n 0 = true := by unfold par; rw [Nat.zero_and]; rfl
theorem par_le {n k : Nat} (h : n < k) : par n k = false := by
  unfold par
  rw [decide_eq_false_iff_not]
  intro e
  have : k &&& n ≤ n := Nat.and_le_right
  omega
theorem par_step (n : Nat) : ∀ k, 0 < k → (par (n + 1) k = (par n k != par n (k - 1))) := by
  induction n using Nat.strongRecOn with
  | _ n ih =>
    intro k hk
    rcases Nat.mod_two_eq_zero_or_one n with hn | hn
    · obtain ⟨m, rfl⟩ : ∃ m, n = 2 * m := ⟨n / 2, by omega⟩
      rcases Nat.mod_two_eq_zero_or_one k with hk2 | hk2
      · obtain ⟨j, rfl⟩ : ∃ j, k = 2 * (j + 1) := ⟨k / 2 - 1, by omega⟩
        have e : 2 * (j + 1) - 1 = 2 * j + 1 := by omega
        unfold par
        rw [e, and01, and00, and10, show decide (2 * (j &&& m) = 2 * j + 1) = false by rw [decide_eq_false_iff_not]; omega]
        simp
      · obtain ⟨j, rfl⟩ : ∃ j, k = 2 * j + 1 := ⟨k / 2, by omega⟩
        unfold par
        rw [Nat.add_sub_cancel, and11, and10, and00, show decide (2 * (j &&& m) = 2 * j + 1) = false by rw [decide_eq_false_iff_not]; omega]
        simp only [Bool.false_bne, decide_eq_decide]
        omega
    · obtain ⟨m, rfl⟩ : ∃ m, n = 2 * m + 1 := ⟨n / 2, by omega⟩
      have e1 : 2 * m + 1 + 1 = 2 * (m + 1) := by omega
      rcases Nat.mod_two_eq_zero_or_one k with hk2 | hk2
      · obtain ⟨j, rfl⟩ : ∃ j, k = 2 * (j + 1) := ⟨k / 2 - 1, by omega⟩
        have e : 2 * (j + 1) - 1 = 2 * j + 1 := by omega
        have h := ih m (by omega) (j + 1) (by omega)
        rw [Nat.add_sub_cancel] at h
        unfold par at h ⊢
        rw [e1, e, and00, and01, and11]
        have d1 : decide (2 * (j + 1 &&& (m + 1)) = 2 * (j + 1)) = decide (j + 1 &&& (m + 1) = j + 1) := by rw [decide_eq_decide]; omega
        have d2 : decide (2 * (j + 1 &&& m) = 2 * (j + 1)) = decide (j + 1 &&& m = j + 1) := by rw [decide_eq_decide]; omega
        have d3 : decide (2 * (j &&& m) + 1 = 2 * j + 1) = decide (j &&& m = j) := by rw [decide_eq_decide]; omega
        rw [d1, d2, d3, h]
      · obtain ⟨j, rfl⟩ : ∃ j, k = 2 * j + 1 := ⟨k / 2, by omega⟩
        unfold par
        rw [Nat.add_sub_cancel, e1, and10, and11, and01, show decide (2 * (j &&& (m + 1)) = 2 * j + 1) = false by rw [decide_eq_false_iff_not]; omega]
        have d3 : decide (2 * (j &&& m) + 1 = 2 * j + 1) = decide (2 * (j &&& m) = 2 * j) := by rw [decide_eq_decide]; omega
        rw [d3]
        simp
theorem under_sum (n : Nat) : ∀ d, (n &&& (n + d) = n ↔ n &&& d = 0) := by
  induction n using Nat.strongRecOn with
  | _ n ih =>
    intro d
    by_cases h0 : n = 0
    · subst h0; simp
    rcases Nat.mod_two_eq_zero_or_one n with hn | hn
    · obtain ⟨m, rfl⟩ : ∃ m, n = 2 * m := ⟨n / 2, by omega⟩
      rcases Nat.mod_two_eq_zero_or_one d with hd | hd
      · obtain ⟨e, rfl⟩ : ∃ e, d = 2 * e := ⟨d / 2, by omega⟩
        rw [show 2 * m + 2 * e = 2 * (m + e) by omega, and00, and00]
        have := ih m (by omega) e
        omega
      · obtain ⟨e, rfl⟩ : ∃ e, d = 2 * e + 1 := ⟨d / 2, by omega⟩
        rw [show 2 * m + (2 * e + 1) = 2 * (m + e) + 1 by omega, and01, and01]
        have := ih m (by omega) e
        omega
    · obtain ⟨m, rfl⟩ : ∃ m, n = 2 * m + 1 := ⟨n / 2, by omega⟩
      rcases Nat.mod_two_eq_zero_or_one d with hd | hd
      · obtain ⟨e, rfl⟩ : ∃ e, d = 2 * e := ⟨d / 2, by omega⟩
        rw [show 2 * m + 1 + 2 * e = 2 * (m + e) + 1 by omega, and11, and10]
        have := ih m (by omega) e
        omega
      · obtain ⟨e, rfl⟩ : ∃ e, d = 2 * e + 1 := ⟨d / 2, by omega⟩
        rw [show 2 * m + 1 + (2 * e + 1) = 2 * (m + e + 1) by omega, and10, and11]
        omega
theorem i64_and (a b : Nat) (ha : a < 1000) (hb : b < 1000) : bits .and .i64 (a : Int) (b : Int) = ((a &&& b : Nat) : Int) := by
  have hx : a &&& b < 2 ^ 10 := Nat.and_lt_two_pow _ (by omega)
  have e : ∀ c : Nat, c < 1000 → (BitVec.ofInt 64 (c : Int)).toNat = c := fun c hc => by
    rw [BitVec.ofInt_natCast, BitVec.toNat_ofNat]; exact Nat.mod_eq_of_lt (by omega)
  show IntKind.i64.wrap ((BitVec.ofInt 64 (a : Int) &&& BitVec.ofInt 64 (b : Int)).toNat : Int) = _
  rw [BitVec.toNat_and, e a ha, e b hb, IntKind.wrap_i64]
  omega
end Go.Proofs.Ytmgkgomecakoiaa

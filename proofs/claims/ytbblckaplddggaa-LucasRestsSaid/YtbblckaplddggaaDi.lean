import Derived.Test.YtbblckaplddggaaNz
set_option maxRecDepth 100000
namespace Go.Proofs.Ytbblckaplddggaa
open Go.RowKit Go.Shelf
/-- the same modulo m -/
def Cg (m x y : Int) : Prop := ∃ k, x = y + m * k
section
variable {m x y x' y' : Int}
theorem cg_mod (m x : Int) : Cg m (x % m) x := ⟨-(x / m), by have := Int.emod_def x m; grind⟩
theorem Cg.mul (h : Cg m x y) (h' : Cg m x' y') : Cg m (x * x') (y * y') := by
  obtain ⟨k, rfl⟩ := h
  obtain ⟨l, rfl⟩ := h'
  exact ⟨k * y' + l * y + m * k * l, by grind⟩
theorem Cg.sub (h : Cg m x y) (h' : Cg m x' y') : Cg m (x - x') (y - y') := by
  obtain ⟨k, rfl⟩ := h
  obtain ⟨l, rfl⟩ := h'
  exact ⟨k - l, by grind⟩
theorem Cg.add (h : Cg m x y) (h' : Cg m x' y') : Cg m (x + x') (y + y') := by
  obtain ⟨k, rfl⟩ := h
  obtain ⟨l, rfl⟩ := h'
  exact ⟨k + l, by grind⟩
theorem Cg.trans {z : Int} (h : Cg m x y) (h' : Cg m y z) : Cg m x z := by
  obtain ⟨k, rfl⟩ := h
  obtain ⟨l, rfl⟩ := h'
  exact ⟨l + k, by grind⟩
theorem Cg.eq (h : Cg m x y) : x % m = y % m := by
  obtain ⟨k, rfl⟩ := h
  exact Int.add_mul_emod_self_left _ _ _
end
/-- the greatest number on the way to the rests -/
def T3 (m : Int) : Nat := m.natAbs * (m.natAbs * m.natAbs) + 4 * (m.natAbs * m.natAbs) + 2 * m.natAbs
theorem T3_lt {m : Int} (hb : blen m.natAbs ≤ 4000) : T3 m < pw 4096 := by
  have h2 := blen_le.1 hb
  have key : ∀ k N : Nat, m.natAbs < 2 ^ k → k + (k + k) + 3 ≤ 32 * N → T3 m < pw N := fun k N h2 hk => by
    have h3 : m.natAbs * m.natAbs ≤ 2 ^ k * 2 ^ k := Nat.mul_le_mul (Nat.le_of_lt h2) (Nat.le_of_lt h2)
    have h7 : m.natAbs * (m.natAbs * m.natAbs) ≤ 2 ^ k * (2 ^ k * 2 ^ k) := Nat.mul_le_mul (Nat.le_of_lt h2) h3
    rw [← Nat.pow_add] at h3
    rw [← Nat.pow_add, ← Nat.pow_add] at h7
    have h4 : (2 : Nat) ^ k ≤ 2 ^ (k + (k + k)) := Nat.pow_le_pow_right (by omega) (by omega)
    have h8 : (2 : Nat) ^ (k + k) ≤ 2 ^ (k + (k + k)) := Nat.pow_le_pow_right (by omega) (by omega)
    have h5 : (2 : Nat) ^ (k + (k + k) + 3) = 2 ^ (k + (k + k)) * 8 := by rw [Nat.pow_add]
    have h6 : (2 : Nat) ^ (k + (k + k) + 3) ≤ pw N := by
      rw [pw_two]
      exact Nat.pow_le_pow_right (by omega) hk
    have h9 : 0 < (2 : Nat) ^ k := Nat.pow_pos (by omega)
    generalize (2 : Nat) ^ (k + (k + k) + 3) = q1 at *
    generalize (2 : Nat) ^ (k + (k + k)) = q0 at *
    generalize (2 : Nat) ^ (k + k) = q2 at *
    generalize (2 : Nat) ^ k = q3 at *
    show m.natAbs * (m.natAbs * m.natAbs) + 4 * (m.natAbs * m.natAbs) + 2 * m.natAbs < pw N
    omega
  exact key 4000 4096 h2 (by omega)
theorem natAbs_mul_le {x y : Int} {p q : Nat} (h : x.natAbs ≤ p) (h' : y.natAbs ≤ q) : (x * y).natAbs ≤ p * q := by
  rw [Int.natAbs_mul]
  exact Nat.mul_le_mul h h'
theorem mod_sq {a m : Int} (hm : 0 < m) (N : Nat) : Sq (T3 m) (· % m) ((a % m + a % m) % m) (fun j => psi a j % m) N := by
  have hz : Cg m ((a % m + a % m) % m) (2 * a) := by
    refine (cg_mod m _).trans ?_
    have := (cg_mod m a).add (cg_mod m a)
    rwa [show a + a = 2 * a by omega] at this
  have hP : ∀ j, Cg m (psi a j % m) (psi a j) := fun j => cg_mod m _
  have bz : ((a % m + a % m) % m).natAbs ≤ m.natAbs := (emod_bound (y := 0) hm).1
  have bP : ∀ j, (psi a j % m).natAbs ≤ m.natAbs := fun j => (emod_bound (y := 0) hm).1
  generalize (a % m + a % m) % m = zt at *
  have e1 : ∀ j, (zt * (psi a j % m)).natAbs ≤ m.natAbs * m.natAbs := fun j => natAbs_mul_le bz (bP j)
  have e2 : ∀ j, (zt * (psi a j % m) - psi a (j + 1) % m).natAbs ≤ m.natAbs * m.natAbs + m.natAbs := fun j => by
    have h1 := e1 j
    have h2 := bP (j + 1)
    omega
  have e3 : ∀ j, (psi a (j + 1) % m - (zt * (psi a j % m) - psi a (j + 1) % m)).natAbs ≤ m.natAbs * m.natAbs + m.natAbs + m.natAbs := fun j => by
    have h1 := e2 j
    have h2 := bP (j + 1)
    omega
  have hT : T3 m = m.natAbs * (m.natAbs * m.natAbs) + 4 * (m.natAbs * m.natAbs) + 2 * m.natAbs := rfl
  rw [hT]
  refine ⟨rfl, rfl, fun j _ => ?_, fun j _ => ?_, fun j _ => ?_, fun j _ => ?_, fun j _ => ?_, fun j _ => ?_, fun j _ => ?_, fun j _ => ?_, fun j _ => ?_, fun j _ => ?_, fun j _ => ?_, fun j _ => ?_⟩
  · rw [psi_even]
    exact ((hP j).mul ((hP (j + 1)).sub ((hz.mul (hP j)).sub (hP (j + 1))))).eq
  · rw [psi_odd]
    exact (((hP (j + 1)).sub (hP j)).mul ((hP (j + 1)).add (hP j))).eq
  · show (zt * (psi a (2 * j + 1) % m) - psi a (2 * j) % m) % m = psi a (2 * j + 2) % m
    rw [psi_two]
    exact ((hz.mul (hP (2 * j + 1))).sub (hP (2 * j))).eq
  · have := e1 j; exact Nat.le_trans this (by omega)
  · have := e2 j; exact Nat.le_trans this (by omega)
  · have := e3 j; exact Nat.le_trans this (by omega)
  · have h1 := natAbs_mul_le (bP j) (e3 j)
    refine Nat.le_trans h1 ?_
    rw [Nat.mul_add, Nat.mul_add]
    omega
  · have h1 := bP j; have h2 := bP (j + 1); show (psi a (j + 1) % m - psi a j % m).natAbs ≤ _; omega
  · have h1 := bP j; have h2 := bP (j + 1); show (psi a (j + 1) % m + psi a j % m).natAbs ≤ _; omega
  · have h1 := bP j
    have h2 := bP (j + 1)
    have h3 : (psi a (j + 1) % m - psi a j % m).natAbs ≤ m.natAbs + m.natAbs := by omega
    have h4 : (psi a (j + 1) % m + psi a j % m).natAbs ≤ m.natAbs + m.natAbs := by omega
    refine Nat.le_trans (natAbs_mul_le h3 h4) ?_
    rw [Nat.mul_add, Nat.add_mul]
    omega
  · have := e1 (2 * j + 1); exact Nat.le_trans this (by omega)
  · have h1 := e1 (2 * j + 1)
    have h2 := bP (2 * j)
    show (zt * (psi a (2 * j + 1) % m) - psi a (2 * j) % m).natAbs ≤ _
    omega
/-- chi of the rests -/
theorem mod_chi {a m : Int} (N : Nat) : (psi a (N + 1) % m - a % m * (psi a N % m)) % m = chi a N % m := by
  rw [chi_of]
  exact ((cg_mod m _).sub ((cg_mod m a).mul (cg_mod m _))).eq
theorem mod_chi_le {a m : Int} (hm : 0 < m) (N : Nat) : (a % m * (psi a N % m)).natAbs ≤ T3 m ∧ (psi a (N + 1) % m - a % m * (psi a N % m)).natAbs ≤ T3 m := by
  have h1 := natAbs_mul_le (emod_bound (x := a) (y := 0) hm).1 (emod_bound (x := psi a N) (y := 0) hm).1
  have h2 := (emod_bound (x := psi a (N + 1)) (y := 0) hm).1
  unfold T3
  omega
end Go.Proofs.Ytbblckaplddggaa

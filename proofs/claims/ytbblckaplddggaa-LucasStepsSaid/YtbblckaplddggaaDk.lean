import Derived.Test.YtbblckaplddggaaNa
import Derived.Test.YtbblckaplddggaaDi
set_option maxRecDepth 100000
namespace Go.Proofs.Ytbblckaplddggaa
open Go.RowKit Go.Shelf
/-- psi at integers -/
def psiZ (a : Int) (i : Int) : Int := if 0 ≤ i then psi a i.toNat else -psi a (-i).toNat
theorem psiZ_nat (a : Int) (n : Nat) : psiZ a (n : Int) = psi a n := by unfold psiZ; rw [if_pos (by omega)]; rfl
theorem psiZ_neg (a : Int) (i : Int) : psiZ a (-i) = -psiZ a i := by
  unfold psiZ
  rcases Int.lt_trichotomy i 0 with (h | h | h)
  · rw [if_pos (by omega), if_neg (by omega)]; omega
  · subst h; simp [psi]
  · rw [if_neg (by omega), if_pos (by omega), show - -i = i by omega]
theorem Cg.refl (m x : Int) : Cg m x x := ⟨0, by omega⟩
theorem Cg.symm {m x y : Int} (h : Cg m x y) : Cg m y x := by
  obtain ⟨k, rfl⟩ := h
  exact ⟨-k, by grind⟩
theorem Cg.neg {m x y : Int} (h : Cg m x y) : Cg m (-x) (-y) := by
  obtain ⟨k, rfl⟩ := h
  exact ⟨-k, by grind⟩
/-- two periods of half a turn -/
theorem half_turn (a : Int) (n : Nat) : Cg (chi a n) (psi a (2 * n)) 0 ∧ Cg (chi a n) (chi a (2 * n)) (-1) := by
  rw [psi_dbl, chi_even]
  exact ⟨⟨2 * psi a n, by grind⟩, ⟨2 * chi a n, by grind⟩⟩
theorem turn_add (a : Int) (n i : Nat) : Cg (chi a n) (psi a (2 * n + i)) (-psi a i) := by
  obtain ⟨h1, h2⟩ := half_turn a n
  rw [(both_add a (2 * n) i).1]
  have := (h1.mul (Cg.refl _ (chi a i))).add (h2.mul (Cg.refl _ (psi a i)))
  rwa [show (0 : Int) * chi a i + -1 * psi a i = -psi a i by omega] at this
/-- the sequence backwards -/
theorem turn_sub (a : Int) (n i : Nat) (h : i ≤ 2 * n) : Cg (chi a n) (psi a (2 * n - i)) (psi a i) := by
  obtain ⟨d, hd⟩ : ∃ d, 2 * n = d + i := ⟨2 * n - i, by omega⟩
  obtain ⟨h1, h2⟩ := half_turn a n
  rw [show 2 * n - i = d by omega]
  rw [hd] at h1 h2
  have e1 := (both_add a d i).1
  have e2 := (both_add a d i).2
  have e3 := pell a i
  -- psi(d) = psi(d + i) chi(i) - chi(d + i) psi(i)
  have e4 : psi a d = psi a (d + i) * chi a i - chi a (d + i) * psi a i := by
    rw [e1, e2]
    grind
  rw [e4]
  have := (h1.mul (Cg.refl _ (chi a i))).sub (h2.mul (Cg.refl _ (psi a i)))
  rwa [show (0 : Int) * chi a i - -1 * psi a i = psi a i by omega] at this
theorem turn_full (a : Int) (n i : Nat) : Cg (chi a n) (psi a (4 * n + i)) (psi a i) := by
  have h1 := turn_add a n (2 * n + i)
  rw [show 2 * n + (2 * n + i) = 4 * n + i by omega] at h1
  have h2 := (turn_add a n i).neg
  rw [Int.neg_neg] at h2
  exact h1.trans h2
theorem turn_many (a : Int) (n i : Nat) : ∀ k : Nat, Cg (chi a n) (psi a (4 * n * k + i)) (psi a i)
  | 0 => by rw [Nat.mul_zero, Nat.zero_add]; exact Cg.refl _ _
  | k + 1 => by
    have h1 := turn_full a n (4 * n * k + i)
    rw [show 4 * n + (4 * n * k + i) = 4 * n * (k + 1) + i by rw [Nat.mul_add, Nat.mul_one]; omega] at h1
    exact h1.trans (turn_many a n i k)
/-- the place of an index between -n and n -/
def place (n i : Nat) : Int := if i % (4 * n) ≤ n then ((i % (4 * n) : Nat) : Int) else if i % (4 * n) < 3 * n then 2 * (n : Int) - ((i % (4 * n) : Nat) : Int) else ((i % (4 * n) : Nat) : Int) - 4 * (n : Int)
theorem place_cg (a : Int) {n : Nat} (hn : 0 < n) (i : Nat) : Cg (chi a n) (psi a i) (psiZ a (place n i)) := by
  have h1 := turn_many a n (i % (4 * n)) (i / (4 * n))
  rw [Nat.div_add_mod] at h1
  refine h1.trans ?_
  have hlt : i % (4 * n) < 4 * n := Nat.mod_lt _ (by omega)
  unfold place
  generalize i % (4 * n) = q at *
  split
  · rw [psiZ_nat]; exact Cg.refl _ _
  · split
    · rcases Nat.lt_or_ge q (2 * n) with (h2 | h2)
      · rw [show 2 * (n : Int) - (q : Int) = ((2 * n - q : Nat) : Int) by omega, psiZ_nat]
        exact (turn_sub a n q (by omega)).symm
      · rw [show 2 * (n : Int) - (q : Int) = -((q - 2 * n : Nat) : Int) by omega, psiZ_neg, psiZ_nat]
        have := turn_add a n (q - 2 * n)
        rwa [show 2 * n + (q - 2 * n) = q by omega] at this
    · rw [show (q : Int) - 4 * (n : Int) = -((4 * n - q : Nat) : Int) by omega, psiZ_neg, psiZ_nat]
      have h3 := turn_add a n (q - 2 * n)
      rw [show 2 * n + (q - 2 * n) = q by omega] at h3
      have h4 := (turn_sub a n (q - 2 * n) (by omega)).neg
      rw [show 2 * n - (q - 2 * n) = 4 * n - q by omega] at h4
      exact h3.trans h4.symm
theorem place_range {n : Nat} (hn : 0 < n) (i : Nat) : -(n : Int) ≤ place n i ∧ place n i ≤ (n : Int) := by
  have hlt : i % (4 * n) < 4 * n := Nat.mod_lt _ (by omega)
  unfold place
  generalize i % (4 * n) = q at *
  split
  · omega
  · split <;> omega
/-- one place: the same, or mirrored -/
theorem place_eq {n : Nat} (hn : 0 < n) (i j : Nat) : place n i = place n j ↔ (((i : Int) - (j : Int)) % (4 * (n : Int)) = 0 ∨ ((i : Int) + (j : Int) - 2 * (n : Int)) % (4 * (n : Int)) = 0) := by
  have hi : i % (4 * n) < 4 * n := Nat.mod_lt _ (by omega)
  have hj : j % (4 * n) < 4 * n := Nat.mod_lt _ (by omega)
  have ei := Nat.div_add_mod i (4 * n)
  have ej := Nat.div_add_mod j (4 * n)
  have key : ∀ z : Int, z % (4 * (n : Int)) = 0 ↔ ∃ k : Int, z = 4 * (n : Int) * k := fun z => by
    constructor
    · intro h; exact ⟨z / (4 * (n : Int)), by have := Int.mul_ediv_add_emod z (4 * (n : Int)); omega⟩
    · rintro ⟨k, rfl⟩; exact Int.mul_emod_right _ _
  have d1 : ∃ k : Int, (i : Int) - (j : Int) = ((i % (4 * n) : Nat) : Int) - ((j % (4 * n) : Nat) : Int) + 4 * (n : Int) * k := ⟨((i / (4 * n) : Nat) : Int) - ((j / (4 * n) : Nat) : Int), by
    rw [Int.mul_sub, ← show (((4 * n : Nat) : Int)) = 4 * (n : Int) by omega, ← Int.natCast_mul, ← Int.natCast_mul]; omega⟩
  have d2 : ∃ k : Int, (i : Int) + (j : Int) - 2 * (n : Int) = ((i % (4 * n) : Nat) : Int) + ((j % (4 * n) : Nat) : Int) - 2 * (n : Int) + 4 * (n : Int) * k := ⟨((i / (4 * n) : Nat) : Int) + ((j / (4 * n) : Nat) : Int), by
    rw [Int.mul_add, ← show (((4 * n : Nat) : Int)) = 4 * (n : Int) by omega, ← Int.natCast_mul, ← Int.natCast_mul]; omega⟩
  obtain ⟨k1, d1⟩ := d1
  obtain ⟨k2, d2⟩ := d2
  rw [d1, d2, Int.add_mul_emod_self_left, Int.add_mul_emod_self_left, key, key]
  unfold place
  clear ei ej d1 d2
  generalize i % (4 * n) = p at *
  generalize j % (4 * n) = q at *
  have small : ∀ (z k : Int), z = 4 * (n : Int) * k → -(4 * (n : Int)) < z → z < 4 * (n : Int) → z = 0 := fun z k h h1 h2 => by
    have h3 : k = 0 := by
      rcases Int.lt_trichotomy k 0 with (h4 | h4 | h4)
      · exfalso
        have : 4 * (n : Int) * k ≤ 4 * (n : Int) * (-1) := Int.mul_le_mul_of_nonneg_left (by omega) (by omega)
        omega
      · exact h4
      · exfalso
        have : 4 * (n : Int) * 1 ≤ 4 * (n : Int) * k := Int.mul_le_mul_of_nonneg_left (by omega) (by omega)
        omega
    rw [h, h3, Int.mul_zero]
  have small2 : ∀ (z k : Int), z = 4 * (n : Int) * k → -(2 * (n : Int)) ≤ z → z < 6 * (n : Int) → z = 0 ∨ z = 4 * (n : Int) := fun z k h h1 h2 => by
    have h3 : k = 0 ∨ k = 1 := by
      rcases Int.lt_trichotomy k 0 with (h4 | h4 | h4)
      · exfalso
        have : 4 * (n : Int) * k ≤ 4 * (n : Int) * (-1) := Int.mul_le_mul_of_nonneg_left (by omega) (by omega)
        omega
      · exact .inl h4
      · rcases Int.lt_or_le 1 k with (h5 | h5)
        · exfalso
          have : 4 * (n : Int) * 2 ≤ 4 * (n : Int) * k := Int.mul_le_mul_of_nonneg_left (by omega) (by omega)
          omega
        · exact .inr (by omega)
    rcases h3 with rfl | rfl
    · exact .inl (by rw [h, Int.mul_zero])
    · exact .inr (by rw [h, Int.mul_one])
  constructor
  · intro h
    have h9 : p = q ∨ p + q = 2 * n ∨ p + q = 6 * n := by
      split at h <;> split at h <;> (try split at h) <;> (try split at h) <;> omega
    rcases h9 with h9 | h9 | h9
    · exact .inl ⟨0, by omega⟩
    · exact .inr ⟨0, by omega⟩
    · exact .inr ⟨1, by omega⟩
  · rintro (⟨k, h⟩ | ⟨k, h⟩)
    · have := small _ k h (by omega) (by omega)
      have h8 : p = q := by omega
      rw [h8]
    · have := small2 _ k h (by omega) (by omega)
      split <;> split <;> (try split) <;> (try split) <;> omega
theorem psiZ_lt {a : Int} (ha : 2 ≤ a) {x y : Int} (h : x < y) : psiZ a x < psiZ a y := by
  unfold psiZ
  split <;> split
  · exact psi_lt ha (by omega)
  · omega
  · have h1 := psi_ge_one ha (n := (-x).toNat) (by omega)
    have h2 := psi_nn ha y.toNat
    omega
  · have := psi_lt ha (m := (-y).toNat) (n := (-x).toNat) (by omega)
    omega
theorem psiZ_le {a : Int} (ha : 2 ≤ a) {x y : Int} (h : x ≤ y) : psiZ a x ≤ psiZ a y := by
  rcases Int.lt_or_eq_of_le h with (h1 | h1)
  · exact Int.le_of_lt (psiZ_lt ha h1)
  · rw [h1]; exact Int.le_refl _
/-- between -n and n no two elements are the same modulo chi(n) -/
theorem place_inj {a : Int} (ha : 2 ≤ a) {n : Nat} (hn : 2 ≤ n) {x y : Int} (hx : -(n : Int) ≤ x) (hy : y ≤ (n : Int)) (hxy : x < y) (h : Cg (chi a n) (psiZ a y) (psiZ a x)) : False := by
  obtain ⟨k, hk⟩ := h
  have h1 := psiZ_lt ha hxy
  have c0 := chi_ge ha n
  have c1 := psi_lt_chi ha n
  obtain ⟨m, rfl⟩ : ∃ m, n = m + 1 := ⟨n - 1, by omega⟩
  have e1 := chi_next a m
  have p1 := psi_ge_one ha (n := m) (by omega)
  have p2 : 3 * psi a m ≤ psi a (m + 1) := by
    obtain ⟨l, rfl⟩ : ∃ l, m = l + 1 := ⟨m - 1, by omega⟩
    rw [psi_two]
    have h2 := psi_le ha (Nat.le_succ l)
    rw [Nat.succ_eq_add_one] at h2
    have h3 : 2 * 2 * psi a (l + 1) ≤ 2 * a * psi a (l + 1) := Int.mul_le_mul_of_nonneg_right (by omega) (psi_nn ha _)
    omega
  have p3 : 2 * psi a (m + 1) ≤ a * psi a (m + 1) := Int.mul_le_mul_of_nonneg_right ha (psi_nn ha _)
  have hk1 : 1 ≤ k := by
    rcases Int.lt_or_le k 1 with (h2 | h2)
    · exfalso
      have : chi a (m + 1) * k ≤ chi a (m + 1) * 0 := Int.mul_le_mul_of_nonneg_left (by omega) (by omega)
      rw [Int.mul_zero] at this
      omega
    · exact h2
  have b1 := psiZ_le ha hy
  have b2 := psiZ_le ha hx
  rw [psiZ_nat] at b1
  rw [psiZ_neg, psiZ_nat] at b2
  have ck : chi a (m + 1) * 1 ≤ chi a (m + 1) * k := Int.mul_le_mul_of_nonneg_left hk1 (by omega)
  rw [Int.mul_one] at ck
  have inner : ∀ z : Int, z < ((m + 1 : Nat) : Int) → psiZ a z ≤ psi a m := fun z hz => by
    rw [← psiZ_nat]
    exact psiZ_le ha (by omega)
  have inner2 : ∀ z : Int, -((m + 1 : Nat) : Int) < z → -psi a m ≤ psiZ a z := fun z hz => by
    rw [← psiZ_nat, ← psiZ_neg]
    exact psiZ_le ha (by omega)
  by_cases hyn : y = ((m + 1 : Nat) : Int)
  · by_cases hxn : x = -((m + 1 : Nat) : Int)
    · subst hyn hxn
      rw [psiZ_neg, psiZ_nat] at hk
      rcases Int.lt_or_le 1 k with (h2 | h2)
      · have : chi a (m + 1) * 2 ≤ chi a (m + 1) * k := Int.mul_le_mul_of_nonneg_left (by omega) (by omega)
        omega
      · obtain rfl : k = 1 := by omega
        rw [Int.mul_one] at hk
        rcases Int.lt_or_le 2 a with (h3 | h3)
        · have p4 : 3 * psi a (m + 1) ≤ a * psi a (m + 1) := Int.mul_le_mul_of_nonneg_right (by omega) (psi_nn ha _)
          omega
        · obtain rfl : a = 2 := by omega
          omega
    · have := inner2 x (by omega)
      omega
  · have := inner y (by omega)
    omega
theorem steps_iff {a : Int} (ha : 2 ≤ a) {n : Nat} (hn : 2 ≤ n) (i j : Nat) : psi a i % chi a n = psi a j % chi a n ↔ (((i : Int) - (j : Int)) % (4 * (n : Int)) = 0 ∨ ((i : Int) + (j : Int) - 2 * (n : Int)) % (4 * (n : Int)) = 0) := by
  rw [← place_eq (by omega)]
  have hi := place_cg a (n := n) (by omega) i
  have hj := place_cg a (n := n) (by omega) j
  have ri := place_range (n := n) (by omega) i
  have rj := place_range (n := n) (by omega) j
  constructor
  · intro h
    have h0 : Cg (chi a n) (psi a i) (psi a j) := ((cg_mod _ _).symm.trans (by rw [h]; exact Cg.refl _ _)).trans (cg_mod _ _)
    have h1 : Cg (chi a n) (psiZ a (place n i)) (psiZ a (place n j)) := (hi.symm.trans h0).trans hj
    rcases Int.lt_trichotomy (place n i) (place n j) with (h2 | h2 | h2)
    · exact (place_inj ha hn ri.1 rj.2 h2 h1.symm).elim
    · exact h2
    · exact (place_inj ha hn rj.1 ri.2 h2 h1).elim
  · intro h
    rw [h] at hi
    exact (hi.trans hj.symm).eq
end Go.Proofs.Ytbblckaplddggaa

import Derived.Test.YtbblckaplddggaaOc
import Derived.Test.YtbblckaplddggaaNa
/-
  Which elements of psi divide which: plain mathematics. Nothing here is a claim.
-/
set_option maxRecDepth 100000
namespace Go.Proofs.Ytbblckaplddggaa
theorem psi_dvd_mul (a : Int) (m k : Nat) : psi a m ∣ psi a (m * k) := by
  induction k with
  | zero => simp [psi]
  | succ k ih =>
    rw [Nat.mul_succ, (both_add a (m * k) m).1]
    exact Int.dvd_add (Int.dvd_mul_of_dvd_left ih) (Int.dvd_mul_left _ _)
theorem psi_step_dvd (a d : Int) (q r : Nat) (h : d ∣ psi a q) : d ∣ psi a (q + r) ↔ d ∣ psi a r := by
  rw [(both_add a q r).1]
  obtain ⟨u, hu⟩ := h
  have hp := pell a q
  rw [hu] at hp ⊢
  constructor
  · rintro ⟨v, hv⟩
    refine ⟨chi a q * v - chi a q * u * chi a r - (a * a - 1) * (u * (d * u)) * psi a r, ?_⟩
    grind
  · rintro ⟨v, hv⟩
    refine ⟨u * chi a r + chi a q * v, ?_⟩
    rw [hv]
    grind
theorem psi_gcd_dvd (a d : Int) (m n : Nat) : d ∣ psi a m ∧ d ∣ psi a n ↔ d ∣ psi a (Nat.gcd m n) := by
  induction m, n using Nat.gcd.induction with
  | H0 n => simp [psi]
  | H1 m n hm ih =>
    rw [Nat.gcd_rec, ← ih]
    have h1 : n = m * (n / m) + n % m := (Nat.div_add_mod n m).symm
    constructor
    · rintro ⟨h, h'⟩
      rw [h1] at h'
      exact ⟨(psi_step_dvd a d _ _ (Int.dvd_trans h (psi_dvd_mul a m _))).1 h', h⟩
    · rintro ⟨h, h'⟩
      refine ⟨h', ?_⟩
      rw [h1]
      exact (psi_step_dvd a d _ _ (Int.dvd_trans h' (psi_dvd_mul a m _))).2 h
section
variable {a : Int} (ha : 2 ≤ a)
include ha
theorem psi_gcd (m n : Nat) : ((Int.gcd (psi a m) (psi a n) : Nat) : Int) = psi a (Nat.gcd m n) := by
  have h1 := (psi_gcd_dvd a ((Int.gcd (psi a m) (psi a n) : Nat) : Int) m n).1 ⟨Int.gcd_dvd_left _ _, Int.gcd_dvd_right _ _⟩
  have h2 := (psi_gcd_dvd a (psi a (Nat.gcd m n)) m n).2 (Int.dvd_refl _)
  have h3 := Int.dvd_coe_gcd h2.1 h2.2
  exact Int.dvd_antisymm (Int.natCast_nonneg _) (psi_nn ha _) h1 h3
theorem psi_inj_dvd (m n : Nat) : psi a m ∣ psi a n ↔ m ∣ n := by
  constructor
  · intro h
    have h1 := (psi_gcd_dvd a (psi a m) m n).1 ⟨Int.dvd_refl _, h⟩
    rcases Nat.eq_zero_or_pos m with h0 | h0
    · subst h0
      rw [Nat.gcd_zero_left] at h1
      have h2 : psi a n = 0 := Int.zero_dvd.1 h1
      rcases Nat.eq_zero_or_pos n with h4 | h4
      · subst h4; exact Nat.dvd_refl _
      · have := psi_ge_one ha h4; omega
    · have h2 := Nat.gcd_dvd_left m n
      have h3 := Nat.le_of_dvd h0 h2
      have h4 := Nat.gcd_pos_of_pos_left n h0
      by_cases h5 : Nat.gcd m n = m
      · rw [← h5]; exact Nat.gcd_dvd_right m n
      · have h6 := psi_lt ha (show Nat.gcd m n < m by omega)
        have h7 := Int.le_of_dvd (by have := psi_ge_one ha h4; omega) h1
        omega
  · rintro ⟨k, rfl⟩
    exact psi_dvd_mul a m k
end
/-- psi and chi at multiples, modulo the square of psi -/
theorem psi_mul_sq (a : Int) (m k : Nat) : ∃ c c', psi a (m * (k + 1)) = (k + 1) * chi a m ^ k * psi a m + psi a m * psi a m * c ∧ chi a (m * (k + 1)) = chi a m ^ (k + 1) + psi a m * psi a m * c' := by
  induction k with
  | zero => exact ⟨0, 0, by simp, by rw [Int.pow_succ]; simp⟩
  | succ k ih =>
    obtain ⟨c, c', h1, h2⟩ := ih
    refine ⟨c * chi a m + psi a m * c', c' * chi a m + (a * a - 1) * ((k + 1) * chi a m ^ k + psi a m * c), ?_, ?_⟩
    · rw [Nat.mul_succ, (both_add a _ m).1, h1, h2, Int.pow_succ]
      push_cast
      grind
    · rw [Nat.mul_succ, (both_add a _ m).2, h1, h2, Int.pow_succ, Int.pow_succ]
      grind
/-- psi divides nothing of a power of chi -/
theorem psi_chi_dvd (a : Int) (m : Nat) (k : Nat) (x : Int) : psi a m ∣ x * chi a m ^ k ↔ psi a m ∣ x := by
  constructor
  · intro h
    induction k with
    | zero => simpa using h
    | succ k ih =>
      refine ih ?_
      obtain ⟨v, hv⟩ := h
      rw [Int.pow_succ] at hv
      have hp := pell a m
      refine ⟨v * chi a m - (a * a - 1) * (psi a m * (x * chi a m ^ k)), ?_⟩
      generalize chi a m ^ k = z at *
      grind
  · intro h
    exact Int.dvd_mul_of_dvd_left h
section
variable {a : Int} (ha : 2 ≤ a)
include ha
theorem psi_sq_dvd (m n : Nat) (hm : 1 ≤ m) : psi a m * psi a m ∣ psi a n ↔ (m : Int) * psi a m ∣ (n : Int) := by
  have hp := psi_ge_one ha hm
  have key : ∀ k : Nat, psi a m * psi a m ∣ psi a (m * k) ↔ psi a m ∣ (k : Int) := by
    intro k
    rcases k with _ | k
    · simp [psi]
    · obtain ⟨c, _, h1, _⟩ := psi_mul_sq a m k
      rw [← psi_chi_dvd a m k, h1]
      constructor
      · rintro ⟨u, hu⟩
        refine ⟨u - c, ?_⟩
        have : psi a m * (((k + 1 : Nat) : Int) * chi a m ^ k) = psi a m * (psi a m * (u - c)) := by
          push_cast
          generalize chi a m ^ k = z at *
          grind
        exact Int.eq_of_mul_eq_mul_left (by omega) this
      · rintro ⟨u, hu⟩
        push_cast at hu
        refine ⟨u + c, ?_⟩
        rw [hu]
        grind
  constructor
  · intro h
    have h1 := (psi_inj_dvd ha m n).1 (Int.dvd_trans (Int.dvd_mul_left _ _) h)
    obtain ⟨k, rfl⟩ := h1
    rw [Int.natCast_mul]
    exact Int.mul_dvd_mul_left _ ((key k).1 h)
  · rintro ⟨u, hu⟩
    have h0 : (m : Int) ∣ (n : Int) := ⟨psi a m * u, by rw [hu, Int.mul_assoc]⟩
    obtain ⟨k, rfl⟩ := Int.natCast_dvd_natCast.1 h0
    refine (key k).2 ⟨u, ?_⟩
    rw [Int.natCast_mul, Int.mul_assoc] at hu
    exact Int.eq_of_mul_eq_mul_left (show (m : Int) ≠ 0 by omega) hu
end
end Go.Proofs.Ytbblckaplddggaa
set_option maxRecDepth 100000
namespace Go.Proofs.Ytbblckaplddggaa
open Go.RowKit Go.Shelf
theorem sz_chi_b {a : Int} (ha : 2 ≤ a) (hs : Sz a 7) {n : Nat} (hn : n ≤ 200) : Sz (chi a n) 1601 := (sz_chi ha hs n).1.le (by omega)
theorem sz_psi_b {a : Int} (ha : 2 ≤ a) (hs : Sz a 7) {n : Nat} (hn : n ≤ 200) : Sz (psi a n) 1601 := by
  have := psi_lt_chi ha n
  exact sz_of_le (psi_nn ha n) (by omega) (sz_chi_b ha hs hn)
theorem mask63 (k : Nat) (h : k < 9223372036854775808) : bits BinOp.and IntKind.u64 (k : Int) 9223372036854775807 = (k : Int) := by
  rw [show (9223372036854775807 : Int) = ((9223372036854775807 : Nat) : Int) from rfl, u64_and_nat _ _ (by omega) (by omega)]
  rw [show (9223372036854775807 : Nat) = 2 ^ 63 - 1 from rfl, Nat.and_two_pow_sub_one_eq_mod, Nat.mod_eq_of_lt (by omega)]
set_option maxHeartbeats 4000000 in
/-- the reference's Small, of a small number -/
theorem refSmall_zero {w : World} {t : Bool} {A : Option Addr} {n c : Nat} (h : Is w 0 t A n c) :
    Calls Try.prog 40 #[.agg #[.bool t, .slice A n c]] w fun e w' => e = .returned (.tuple #[.int .i64 0, .bool true]) ∧ Below w.heap.size w w' := by
  have h1 : t = false := by rw [h.1]; rfl
  have h2 : n = 0 := by rw [h.2.1]; simp [words_zero]
  subst h1 h2
  have HB := Lib.hid (below_alloc w (.cells #[.bool false, .slice A 0 c] 24))
  have b0 : bits BinOp.and IntKind.u64 0 9223372036854775807 = 0 := mask63 0 (by omega)
  have b1 : wrap64 0 = 0 := by unfold wrap64; rfl
  clear h
  go_enter Try.func40, Try.ntmps40
  go_wp2
  go_loop [4, 5] (fun u i => u = .int .u64 0 ∧ i = .int .i64 0) (fun _ i => (1 - intOf i).toNat)
  case atStart => exact ⟨rfl, rfl⟩
  case round =>
    obtain ⟨rfl, rfl⟩ := hrel
    go_wp2
    go_ret2
    exact ⟨rfl, HB.out⟩
set_option maxHeartbeats 4000000 in
theorem refSmall_pos {w : World} {k : Nat} {t : Bool} {A : Option Addr} {n c : Nat} (h0 : k ≠ 0) (hk : k < 4294967296) (h : Is w (k : Int) t A n c) :
    Calls Try.prog 40 #[.agg #[.bool t, .slice A n c]] w fun e w' => e = .returned (.tuple #[.int .i64 (k : Int), .bool true]) ∧ Below w.heap.size w w' := by
  have h1 : t = false := by rw [h.1, decide_eq_false_iff_not]; omega
  have hw : words ((k : Int).natAbs) = [k] := by rw [Int.natAbs_natCast]; exact words_one hk h0
  have h2 : n = 1 := by rw [h.2.1, hw]; rfl
  have h3 := h.2.2.1
  rw [hw] at h3
  subst h1 h2
  obtain ⟨b, o, rfl, hb, hc⟩ := h3.at_ (by omega)
  have hc0 := hc 0 (by omega)
  have e0 : ([k].getD 0 0 : Nat) = k := rfl
  rw [e0, Nat.add_zero] at hc0
  obtain ⟨K, hK⟩ : ∃ K : Int, K = (k : Int) := ⟨_, rfl⟩
  rw [← hK] at hc0 ⊢
  have k0 : 0 < K := by omega
  have k1 : K < 4294967296 := by omega
  have HB := Lib.hid (below_alloc w (.cells #[.bool false, .slice (some ⟨b, o, none⟩) 1 c] 24))
  have hc1 : (w.alloc (.cells #[.bool false, .slice (some ⟨b, o, none⟩) 1 c] 24)).cell? ⟨b, o, none⟩ = some (.int .u32 K) := by rw [World.cell?_alloc_lt _ _ _ hb]; exact hc0
  have b1 : bits BinOp.and IntKind.u64 K 9223372036854775807 = K := by rw [hK]; exact mask63 k (by omega)
  have b2 : wrap64 K = K := by unfold wrap64; omega
  clear h h3 hw hc hc0 hK hk h0 hb e0
  go_enter Try.func40, Try.ntmps40
  go_wp2
  go_loop [4, 5] (fun u i => (u = .int .u64 0 ∧ i = .int .i64 0) ∨ (u = .int .u64 K ∧ i = .int .i64 1)) (fun _ i => (2 - intOf i).toNat)
  case atStart => exact .inl ⟨rfl, rfl⟩
  case round =>
    rcases hrel with ⟨rfl, rfl⟩ | ⟨rfl, rfl⟩
    · go_wp2
      go_round
      case rel => exact .inr ⟨by simp, rfl⟩
      case measure => simp [intOf]
    · have q1 : decide (K < 9223372036854775808) = true := decide_eq_true (by omega)
      go_wp2
      go_ret2
      exact ⟨rfl, HB.out⟩
theorem refSmall_c {w : World} {k : Nat} {t : Bool} {A : Option Addr} {n c : Nat} (hk : k < 4294967296) (h : Is w (k : Int) t A n c) :
    Calls Try.prog 40 #[.agg #[.bool t, .slice A n c]] w fun e w' => e = .returned (.tuple #[.int .i64 (k : Int), .bool true]) ∧ Below w.heap.size w w' := by
  rcases Nat.eq_zero_or_pos k with h0 | h0
  · subst h0
    exact refSmall_zero h
  · exact refSmall_pos (by omega) hk h
end Go.Proofs.Ytbblckaplddggaa

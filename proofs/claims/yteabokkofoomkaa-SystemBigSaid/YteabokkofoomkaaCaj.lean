import Derived.Test.YteabokkofoomkaaCaa
import Derived.Test.YteabokkofoomkaaCah
import Derived.Test.YteabokkofoomkaaCag
import Derived.Test.YteabokkofoomkaaCac
import Derived.IntWalk
import Derived.Outline
import Derived.Shelf.Abstract
namespace Go.Proofs.Yteabokkofoomkaa
def psi (a : Int) : Nat → Int
 | 0 => 0
 | 1 => 1
 | n + 2 => 2 * a * psi a (n + 1) - psi a n
def chi (a : Int) : Nat → Int
 | 0 => 1
 | 1 => a
 | n + 2 => 2 * a * chi a (n + 1) - chi a n
theorem psi_two (a : Int) (n : Nat) : psi a (n + 2) = 2 * a * psi a (n + 1) - psi a n := by rw [psi]
theorem chi_two (a : Int) (n : Nat) : chi a (n + 2) = 2 * a * chi a (n + 1) - chi a n := by rw [chi]
theorem both_succ (a : Int) (n : Nat) : psi a (n + 1) = chi a n + a * psi a n ∧ chi a (n + 1) = a * chi a n + (a * a - 1) * psi a n := by
 induction n with
 | zero => simp [psi, chi]
 | succ n ih =>
   obtain ⟨h1, h2⟩ := ih
   rw [psi_two, chi_two, h1, h2]
   constructor <;> grind
theorem psi_succ (a : Int) (n : Nat) : psi a (n + 1) = chi a n + a * psi a n := (both_succ a n).1
theorem chi_succ (a : Int) (n : Nat) : chi a (n + 1) = a * chi a n + (a * a - 1) * psi a n := (both_succ a n).2
theorem both_add (a : Int) (m n : Nat) : psi a (m + n) = psi a m * chi a n + chi a m * psi a n ∧ chi a (m + n) = chi a m * chi a n + (a * a - 1) * (psi a m * psi a n) := by
 induction n with
 | zero => simp [psi, chi]
 | succ n ih =>
   obtain ⟨h1, h2⟩ := ih
   rw [← Nat.add_assoc, psi_succ, chi_succ, psi_succ, chi_succ, h1, h2]
   constructor <;> grind
theorem pell (a : Int) (n : Nat) : chi a n * chi a n - (a * a - 1) * (psi a n * psi a n) = 1 := by
 induction n with
 | zero => simp [psi, chi]
 | succ n ih => rw [psi_succ, chi_succ]; grind
theorem psi_even (a : Int) (m : Nat) : psi a (2 * m) = psi a m * (psi a (m + 1) - (2 * a * psi a m - psi a (m + 1))) := by
 rw [Nat.two_mul, (both_add a m m).1, psi_succ]; grind
theorem psi_odd (a : Int) (m : Nat) : psi a (2 * m + 1) = (psi a (m + 1) - psi a m) * (psi a (m + 1) + psi a m) := by
 have h := pell a m
 rw [show 2 * m + 1 = m + (m + 1) by omega, (both_add a m (m + 1)).1, psi_succ, chi_succ]; grind
theorem psi_dbl (a : Int) (m : Nat) : psi a (2 * m) = 2 * (chi a m * psi a m) := by
 rw [Nat.two_mul, (both_add a m m).1]; grind
theorem before_eq (a : Int) (k : Nat) : 2 * a * psi a (k + 1) - psi a (k + 2) = psi a k := by rw [psi_two]; omega
theorem diff_eq (a : Int) (k : Nat) : psi a (k + 1) - (2 * a * psi a k - psi a (k + 1)) = 2 * chi a k := by rw [psi_succ]; grind
section
variable {a : Int} (ha : 2 ≤ a)
include ha
theorem grow (n : Nat) : 0 ≤ psi a n ∧ 1 ≤ chi a n ∧ psi a n + 1 ≤ psi a (n + 1) ∧ psi a n + 1 ≤ chi a n ∧ chi a n + 1 ≤ chi a (n + 1) := by
 induction n with
 | zero => simp [psi, chi]; omega
 | succ n ih =>
   obtain ⟨h1, h2, h3, h4, h5⟩ := ih
   have s1 := psi_succ a n
   have s2 := chi_succ a n
   have s3 := psi_succ a (n + 1)
   have s4 := chi_succ a (n + 1)
   have e1 := Int.mul_nonneg (show (0 : Int) ≤ a - 2 by omega) h1
   have e2 := Int.mul_nonneg (show (0 : Int) ≤ a - 2 by omega) (show (0 : Int) ≤ chi a n - 1 by omega)
   have e3 := Int.mul_nonneg (show (0 : Int) ≤ (a - 2) * a by exact Int.mul_nonneg (by omega) (by omega)) h1
   have g1 : 0 ≤ psi a (n + 1) := by omega
   have g2 : 1 ≤ chi a (n + 1) := by omega
   have e4 := Int.mul_nonneg (show (0 : Int) ≤ a - 2 by omega) g1
   have e5 := Int.mul_nonneg (show (0 : Int) ≤ a - 2 by omega) (show (0 : Int) ≤ chi a (n + 1) - 1 by omega)
   have e6 := Int.mul_nonneg (show (0 : Int) ≤ (a - 2) * a by exact Int.mul_nonneg (by omega) (by omega)) g1
   refine ⟨g1, g2, ?_, ?_, ?_⟩ <;> grind
theorem psi_nn (n : Nat) : 0 ≤ psi a n := (grow ha n).1
theorem chi_ge (n : Nat) : 1 ≤ chi a n := (grow ha n).2.1
theorem psi_le {m n : Nat} (h : m ≤ n) : psi a m ≤ psi a n := by
 induction n with
 | zero => obtain rfl : m = 0 := by omega
           exact Int.le_refl _
 | succ n ih =>
   have := (grow ha n).2.2.1
   by_cases e : m = n + 1
   · subst e; exact Int.le_refl _
   · have := ih (by omega); omega
theorem chi_le {m n : Nat} (h : m ≤ n) : chi a m ≤ chi a n := by
 induction n with
 | zero => obtain rfl : m = 0 := by omega
           exact Int.le_refl _
 | succ n ih =>
   have := (grow ha n).2.2.2.2
   by_cases e : m = n + 1
   · subst e; exact Int.le_refl _
   · have := ih (by omega); omega
theorem psi_lt {m n : Nat} (h : m < n) : psi a m < psi a n := by
 have h1 := psi_le ha (show m + 1 ≤ n by omega)
 have h2 := (grow ha m).2.2.1
 omega
theorem psi_ge_one {n : Nat} (h : 1 ≤ n) : 1 ≤ psi a n := by
 have := psi_le ha h
 simpa [psi] using this
theorem chi_ge_a {n : Nat} (h : 1 ≤ n) : a ≤ chi a n := by
 have := chi_le ha h
 simpa [chi] using this
theorem psi_two_le (n : Nat) (h : 2 ≤ n) : 2 * a ≤ psi a n := by
 have := psi_le ha h
 simpa [psi] using this
theorem twice_le (k : Nat) : 2 * a * psi a k ≤ psi a (2 * k) := by
 rw [psi_dbl a]
 rcases Nat.eq_zero_or_pos k with h | h
 · subst h; simp [psi]
 · have := Int.mul_le_mul_of_nonneg_right (chi_ge_a ha h) (psi_nn ha k)
   grind
theorem before_le (k : Nat) : -1 ≤ 2 * a * psi a k - psi a (k + 1) ∧ 2 * a * psi a k - psi a (k + 1) ≤ psi a k := by
 rcases k with _ | k
 · simp [psi]
 · rw [before_eq a]
   have := psi_nn ha k
   have := psi_le ha (show k ≤ k + 1 by omega)
   omega
theorem diff_le {k n : Nat} (h : 2 * k ≤ n) (h2 : 2 ≤ n) : 2 * chi a k ≤ psi a n := by
 rcases Nat.eq_zero_or_pos k with h0 | h0
 · subst h0
   have := psi_two_le ha n h2
   simp [chi]; omega
 · have h1 := psi_le ha h
   rw [psi_dbl a] at h1
   have h3 := Int.mul_le_mul_of_nonneg_left (psi_ge_one ha h0) (show 0 ≤ chi a k by have := chi_ge ha k; omega)
   omega
theorem sum_le (k : Nat) : psi a (k + 1) + psi a k ≤ psi a (2 * k + 1) := by
 rw [psi_odd]
 have h1 := (grow ha k).2.2.1
 have h2 := psi_nn ha k
 have h3 := psi_nn ha (k + 1)
 have := Int.mul_le_mul_of_nonneg_right (show 1 ≤ psi a (k + 1) - psi a k by omega) (show 0 ≤ psi a (k + 1) + psi a k by omega)
 omega
end
end Go.Proofs.Yteabokkofoomkaa
set_option maxRecDepth 100000
namespace Go.Proofs.Yteabokkofoomkaa
theorem psi_up {a : Int} (ha : 2 ≤ a) {b : Nat} (hb : a.natAbs < 2 ^ b) : ∀ j : Nat, (psi a j).natAbs < 2 ^ ((b + 1) * j) ∧ (psi a (j + 1)).natAbs < 2 ^ ((b + 1) * (j + 1)) := by
 intro j
 induction j with
 | zero =>
   refine ⟨by show (0 : Int).natAbs < _; simp, ?_⟩
   show (1 : Int).natAbs < 2 ^ ((b + 1) * 1)
   rw [Nat.mul_one, Nat.pow_succ]
   have : 0 < 2 ^ b := Nat.pow_pos (by omega)
   show 1 < _
   omega
 | succ j ih =>
   refine ⟨ih.2, ?_⟩
   show (psi a (j + 2)).natAbs < 2 ^ ((b + 1) * (j + 2))
   have h2 := psi_two a j
   have h3 := psi_nn ha j
   have h4 := psi_nn ha (j + 1)
   have h5 := psi_nn ha (j + 2)
   have h6 : (psi a (j + 2)).natAbs ≤ (2 * a).natAbs * (psi a (j + 1)).natAbs := by
    rw [← Int.natAbs_mul]
    generalize 2 * a * psi a (j + 1) = q at *
    omega
   have h7 : (2 * a).natAbs < 2 ^ (b + 1) := by rw [Nat.pow_succ]; omega
   have h8 : (2 * a).natAbs * (psi a (j + 1)).natAbs < 2 ^ (b + 1) * 2 ^ ((b + 1) * (j + 1)) := Nat.mul_lt_mul'' h7 ih.2
   rw [← Nat.pow_add, show b + 1 + (b + 1) * (j + 1) = (b + 1) * (j + 2) by rw [show j + 2 = (j + 1) + 1 from rfl, Nat.mul_succ (b + 1) (j + 1)]; omega] at h8
   omega
theorem psi_dn {a : Int} (ha : 2 ≤ a) {b : Nat} (hb : 2 ^ b ≤ a.natAbs) : ∀ j : Nat, 2 ^ (b * j) ≤ (psi a (j + 1)).natAbs := by
 intro j
 induction j with
 | zero => show 2 ^ (b * 0) ≤ (1 : Int).natAbs; simp
 | succ j ih =>
   have h2 := psi_succ a (j + 1)
   have h3 := chi_ge ha (j + 1)
   have h4 := psi_nn ha (j + 1)
   have h5 : (0 : Int) ≤ a * psi a (j + 1) := Int.mul_nonneg (by omega) h4
   have h6 : a.natAbs * (psi a (j + 1)).natAbs ≤ (psi a (j + 1 + 1)).natAbs := by
    rw [← Int.natAbs_mul]
    generalize a * psi a (j + 1) = q at *
    omega
   have h7 := Nat.mul_le_mul hb ih
   rw [← Nat.pow_add, show b + b * j = b * (j + 1) by rw [Nat.mul_succ]; omega] at h7
   omega
theorem idx_low {a y : Int} (ha : 2 ≤ a) (hy : 0 ≤ y) {j : Nat} (h : j < (blen y.natAbs - 1) / (blen a.natAbs + 1)) : psi a j < y := by
 have h1 := (psi_up ha (blen_lt a.natAbs) j).1
 have h2 : (blen a.natAbs + 1) * (j + 1) ≤ blen y.natAbs - 1 := by
  have h3 : j + 1 ≤ (blen y.natAbs - 1) / (blen a.natAbs + 1) := h
  rw [Nat.mul_comm]
  exact (Nat.le_div_iff_mul_le (by omega)).1 h3
 have h3 : y.natAbs ≠ 0 := fun e => by
  rw [e] at h2
  have : blen 0 = 0 := rfl
  rw [this, Nat.mul_succ] at h2
  omega
 have h4 := blen_ge h3
 have h5 : (2 : Nat) ^ ((blen a.natAbs + 1) * j) ≤ 2 ^ (blen y.natAbs - 1) := Nat.pow_le_pow_right (by omega) (Nat.le_trans (Nat.mul_le_mul_left _ (by omega)) h2)
 have h6 := psi_nn ha j
 generalize (2 : Nat) ^ ((blen a.natAbs + 1) * j) = q1 at *
 generalize (2 : Nat) ^ (blen y.natAbs - 1) = q2 at *
 omega
theorem idx_high {a y : Int} (ha : 2 ≤ a) {n : Nat} (h : psi a n = y) : n ≤ blen y.natAbs / (blen a.natAbs - 1) + 1 := by
 rcases Nat.eq_zero_or_pos n with h0 | h0
 · rw [h0]; exact Nat.zero_le _
 obtain ⟨k, rfl⟩ : ∃ k, n = k + 1 := ⟨n - 1, by omega⟩
 have hb : 2 ≤ blen a.natAbs := by
  rcases Nat.lt_or_ge 1 (blen a.natAbs) with h1 | h1
  · exact h1
  · have := blen_le.1 h1
    omega
 have h1 := psi_dn ha (blen_ge (v := a.natAbs) (by omega)) k
 rw [h] at h1
 have h2 := blen_lt y.natAbs
 have h3 : (blen a.natAbs - 1) * k < blen y.natAbs := (Nat.pow_lt_pow_iff_right (by omega : 1 < 2)).1 (Nat.lt_of_le_of_lt h1 h2)
 have h4 : k ≤ blen y.natAbs / (blen a.natAbs - 1) := (Nat.le_div_iff_mul_le (by omega)).2 (by rw [Nat.mul_comm]; omega)
 omega
end Go.Proofs.Yteabokkofoomkaa
set_option maxRecDepth 100000
namespace Go.Proofs.Yteabokkofoomkaa
end Go.Proofs.Yteabokkofoomkaa
namespace Go.Proofs.Yteabokkofoomkaa
open Go.RowKit
theorem AddAt.over {c b cs : List Nat} {n y : Nat} (h : AddAt c b n cs y) (hn : b.length = n) (hc : c.length = n + 1) (sc : small c) (hge : pw (n + 1) ≤ val c + val b) :
 val (cs.set n ((c.getD n 0 + y) % 4294967296)) = val c + val b - pw (n + 1) := by
 have he := h.eq
 rw [take_of_len (by omega)] at he
 have hle := h.le
 have h1 := val_lt h.sm
 rw [h.len, hc] at h1
 have hx := small_get sc n
 have hg := getD_drop_eq h.rest
 have h2 := val_take_step cs n
 rw [take_of_len (by rw [h.len, hc]; exact Nat.le_refl _), hg] at h2
 have h3 := val_lt (small_take h.sm n)
 rw [List.length_take, h.len, hc, Nat.min_eq_left (by omega)] at h3
 have h4 := val_set cs n ((c.getD n 0 + y) % 4294967296) (by rw [h.len, hc]; omega)
 rw [hg] at h4
 have h5 := pw_succ n
 generalize c.getD n 0 = x at *
 generalize pw n = P at *
 have hy : y = 1 := by
  rcases Nat.eq_zero_or_pos y with h0 | h0
  · rw [h0, Nat.mul_zero] at he; omega
  · omega
 subst hy
 have hx2 : x = 4294967295 := by
  rcases Nat.lt_or_ge x 4294967295 with h0 | h0
  · exfalso
    have : P * (x + 2) ≤ P * 4294967296 := Nat.mul_le_mul_left P (by omega)
    rw [Nat.mul_add] at this
    omega
  · omega
 subst hx2
 rw [show (4294967295 + 1) % 4294967296 = 0 from rfl] at h4 ⊢
 rw [Nat.mul_zero] at h4
 omega
structure QuoAt (X V N i : Nat) (R Q : List Nat) : Prop where
 rl : R.length = N
 rs : small R
 qs : small Q
 lt : val R < pw i * V
 eq : val R + V * val Q = X
 zero : ∀ j, j < i → Q.getD j 0 = 0
theorem QuoAt.digit {X V N i m : Nat} {R Q : List Nat} (h : QuoAt X V N (i + 1) R Q) (hi : i + (m + 3) ≤ N) (hV : V < pw (m + 2)) :
 val ((R.drop i).take (m + 3)) < 4294967296 * V ∧ val R = val (R.take i) + pw i * val ((R.drop i).take (m + 3)) := by
 have h1 := val_take_drop R i (by rw [h.rl]; omega)
 have h2 : val ((R.drop i).drop (m + 3)) = 0 := by
  rw [List.drop_drop, val_drop h.rs]
  refine Nat.div_eq_of_lt (Nat.lt_of_lt_of_le h.lt ?_)
  rw [show i + (m + 3) = i + 1 + (m + 2) by omega, pw_add (i + 1)]
  exact Nat.mul_le_mul_left _ (Nat.le_of_lt hV)
 have h3 := val_take_drop (R.drop i) (m + 3) (by rw [List.length_drop, h.rl]; omega)
 rw [h2, Nat.mul_zero, Nat.add_zero] at h3
 rw [h3] at h1
 refine ⟨?_, h1⟩
 have h4 := h.lt
 rw [pw_succ, Nat.mul_comm 4294967296, Nat.mul_assoc] at h4
 exact Nat.lt_of_mul_lt_mul_left (Nat.lt_of_le_of_lt (by omega : pw i * val ((R.drop i).take (m + 3)) ≤ val R) h4)
theorem QuoAt.next {X V N i m : Nat} {R Q cs : List Nat} (h : QuoAt X V N (i + 1) R Q) (hi : i + (m + 3) ≤ N) (hV : V < pw (m + 2)) (hV0 : 0 < V) (hq : i < Q.length) (hc : cs.length = m + 3) (hcs : small cs) (hv : val cs = val ((R.drop i).take (m + 3)) % V)
 (hd : val ((R.drop i).take (m + 3)) / V < 4294967296) : QuoAt X V N i (splice R i cs) (Q.set i (val ((R.drop i).take (m + 3)) / V)) := by
 obtain ⟨h1, h2⟩ := h.digit hi hV
 have h3 := val_splice (L := R) (cs := cs) (o := i) (by rw [hc, h.rl]; exact hi)
 rw [hc, hv] at h3
 have h4 := val_set Q i (val ((R.drop i).take (m + 3)) / V) hq
 rw [h.zero i (by omega), Nat.mul_zero, Nat.add_zero] at h4
 have h5 := Nat.div_add_mod (val ((R.drop i).take (m + 3))) V
 have h6 := Nat.mod_lt (val ((R.drop i).take (m + 3))) hV0
 have h7 := val_lt (small_take h.rs i)
 rw [List.length_take, h.rl, Nat.min_eq_left (by omega)] at h7
 have hE := h.eq
 generalize val ((R.drop i).take (m + 3)) = x at *
 generalize x / V = q at *
 generalize x % V = r at *
 have e1 : pw i * x = V * (pw i * q) + pw i * r := by rw [← h5, Nat.mul_add, Nat.mul_left_comm]
 have e2 : pw i * (r + 1) ≤ pw i * V := Nat.mul_le_mul_left _ h6
 rw [Nat.mul_add, Nat.mul_one] at e2
 refine ⟨by rw [splice_len (by rw [hc, h.rl]; exact hi)]; exact h.rl, splice_small h.rs _ hcs, small_set h.qs _ _ hd, by omega, ?_, fun j hj => ?_⟩
 · rw [h4, Nat.mul_add]; omega
 · rw [getD_set_ne (by omega)]; exact h.zero j (by omega)
theorem QuoAt.done {X V N : Nat} {R Q : List Nat} (h : QuoAt X V N 0 R Q) (hV : 0 < V) : val Q = X / V ∧ val R = X % V := by
 have h1 := h.lt
 rw [pw_zero, Nat.one_mul] at h1
 have h2 := h.eq
 have e1 : X / V = val Q := by
  rw [← h2, Nat.add_comm, Nat.mul_add_div hV, Nat.div_eq_of_lt h1, Nat.add_zero]
 have e2 : X % V = val R := by
  rw [← h2, Nat.add_comm, Nat.mul_add_mod, Nat.mod_eq_of_lt h1]
 exact ⟨e1.symm, e2.symm⟩
end Go.Proofs.Yteabokkofoomkaa
namespace Go.Proofs.Yteabokkofoomkaa
open Go.RowKit Go.Shelf
structure Stp (b : Nat) (w w' : World) : Prop where
 grown : w.grownBy w' (some b)
 own : ∀ o, o ≠ 0 → w'.cell? ⟨b, o, none⟩ = w.cell? ⟨b, o, none⟩
 frz : ∀ o, w'.frozen? ⟨b, o, none⟩ = w.frozen? ⟨b, o, none⟩
theorem Stp.refl (b : Nat) (w : World) : Stp b w w := ⟨grown_of_below (Below.refl _ _) _, fun _ _ => rfl, fun _ => rfl⟩
theorem Stp.trans {b : Nat} {w w' w'' : World} (h : Stp b w w') (k : Stp b w' w'') : Stp b w w'' :=
 ⟨grown_trans h.grown k.grown, fun o ho => (k.own o ho).trans (h.own o ho), fun o => (k.frz o).trans (h.frz o)⟩
theorem Stp.of_below {b : Nat} {w w' : World} (hb : b < w.heap.size) (h : Below w.heap.size w w') : Stp b w w' :=
 ⟨grown_of_below h _, fun o _ => h.cell (p := ⟨b, o, none⟩) hb, fun o => h.frozen (p := ⟨b, o, none⟩) hb⟩
theorem Stp.size {b : Nat} {w w' : World} (h : Stp b w w') : w.heap.size ≤ w'.heap.size := h.grown.size
theorem Stp.below {b B : Nat} {w w' : World} (h : Stp b w w') (hB : B ≤ w.heap.size) (hb : B ≤ b) : Below B w w' := below_of_grown h.grown hB hb
structure Cc (w : World) (b : Nat) (k : Int) : Prop where
 lt : b < w.heap.size
 c0 : w.cell? ⟨b, 0, none⟩ = some (.int .i64 k)
 f0 : w.frozen? ⟨b, 0, none⟩ = false
theorem Cc.below {w w' : World} {b : Nat} {k : Int} (h : Cc w b k) (hb : Below w.heap.size w w') : Cc w' b k :=
 ⟨Nat.lt_of_lt_of_le h.lt hb.size, (hb.cell (p := ⟨b, 0, none⟩) h.lt).trans h.c0, (hb.frozen (p := ⟨b, 0, none⟩) h.lt).trans h.f0⟩
theorem Cc.alloc {w : World} {b : Nat} {k : Int} (h : Cc w b k) (o : Obj) : Cc (w.alloc o) b k := h.below ((Below.refl _ _).alloc (Nat.le_refl _) o)
theorem Cc.put {w : World} {b : Nat} {k : Int} (h : Cc w b k) (k' : Int) : Cc (w.setCell ⟨b, 0, none⟩ (.int .i64 k')) b k' :=
 ⟨by simpa [World.setCell] using h.lt, World.cell?_setCell_same' _ _ _ (by rw [h.c0]; rfl), by rw [World.frozen?_setCell]; exact h.f0⟩
theorem Stp.put (w : World) (b : Nat) (v : Value) : Stp b w (w.setCell ⟨b, 0, none⟩ v) := by
 refine ⟨grown_setCell (grown_of_below (Below.refl _ _) _) (.inl rfl) _, fun o ho => ?_, fun o => by rw [World.frozen?_setCell]⟩
 exact World.cell?_setCell_other _ _ _ _ (by intro e; injection e with _ e; exact ho e.symm)
theorem Stp.cell {b : Nat} {w w' : World} (h : Stp b w w') {p : Addr} (hp : p.block < w.heap.size) (hne : p.block ≠ b) : w'.cell? p = w.cell? p :=
 World.cell?_of_block (h.grown.block p.block hp (fun e => hne (by injection e)))
theorem Stp.frozen {b : Nat} {w w' : World} (h : Stp b w w') {g o : Nat} (hp : g < w.heap.size) (hne : g ≠ b) : w'.frozen? ⟨g, o, none⟩ = w.frozen? ⟨g, o, none⟩ := by
 have := h.grown.block g hp (fun e => hne (by injection e))
 simp [World.frozen?, this]
theorem Is.stp {b : Nat} {k : Int} {w w' : World} {z : Int} {t : Bool} {B : Option Addr} {m d : Nat} (h : Is w z t B m d) (hc : Cc w b k) (hs : Stp b w w') : Is w' z t B m d := by
 obtain ⟨h1, h2, h3, h4, h5⟩ := h
 refine ⟨h1, h2, ⟨h3.len, h3.sm, fun hp => ?_⟩, h4, h5⟩
 obtain ⟨b', o, e, hlt, hcell⟩ := h3.at_ hp
 refine ⟨b', o, e, Nat.lt_of_lt_of_le hlt hs.size, fun i hi => ?_⟩
 by_cases hb : b' = b
 · subst hb
   have h0 := hcell i hi
   by_cases ho : o + i = 0
   · rw [ho] at h0; rw [hc.c0] at h0; cases h0
   · rw [hs.own _ ho]; exact h0
 · rw [hs.cell (p := ⟨b', o + i, none⟩) hlt hb]; exact hcell i hi
theorem Cc.stp_lt {w w' : World} {b : Nat} {k : Int} (h : Cc w b k) (hs : Stp b w w') : b < w'.heap.size := Nat.lt_of_lt_of_le h.lt hs.size
theorem Stp.two {b : Nat} {w W : World} {g : Nat} (h : Stp b w W) (hg : w.heap.size ≤ g) (hne : g ≠ b) (u v : Value) : Stp b w ((W.setCell ⟨g, 0, none⟩ u).setCell ⟨g, 1, none⟩ v) := by
 refine ⟨grown_setCell (grown_setCell h.grown (.inr hg) u) (.inr hg) v, fun o ho => ?_, fun o => ?_⟩
 · rw [World.cell?_setCell_other _ _ _ _ (by intro e; injection e with e; exact hne e), World.cell?_setCell_other _ _ _ _ (by intro e; injection e with e; exact hne e)]
   exact h.own o ho
 · rw [World.frozen?_setCell, World.frozen?_setCell]; exact h.frz o
theorem Cc.two {w : World} {b g : Nat} {k : Int} (h : Cc w b k) (hne : g ≠ b) (u v : Value) : Cc ((w.setCell ⟨g, 0, none⟩ u).setCell ⟨g, 1, none⟩ v) b k :=
 ⟨by simpa [World.setCell] using h.lt, by
  rw [World.cell?_setCell_other _ _ _ _ (by intro e; injection e with e; exact hne e), World.cell?_setCell_other _ _ _ _ (by intro e; injection e with e; exact hne e)]; exact h.c0, by rw [World.frozen?_setCell, World.frozen?_setCell]; exact h.f0⟩
def KeepPost (b : Nat) (k : Int) (t : Bool) (B : Option Addr) (m d : Nat) (e0 : Int) (w : World) (e : Ending) (w' : World) : Prop :=
 ∃ t' B' m' d' k', e = .returned (.agg #[.bool t', .slice B' m' d']) ∧ Stp b w w' ∧ Cc w' b k' ∧ (k' = 0 → k = 0 ∧ e0 = 0 ∧ t' = t ∧ B' = B ∧ m' = m ∧ d' = d) ∧ (k ≠ 0 → k' = k) ∧ (k = 0 → k' = e0)
theorem Cc.keep_lt {w : World} {b : Nat} {k : Int} (h : Cc w b k) : b < w.heap.size := h.lt
set_option maxHeartbeats 400000 in
theorem Keep_zero (b : Nat) (t : Bool) (B : Option Addr) (m d : Nat) (w : World) (hc : Cc w b 0) :
 Calls Try.prog 37 #[.pointer (some ⟨b, 0, none⟩), .agg #[.bool t, .slice B m d], .int .i64 0] w (KeepPost b 0 t B m d 0 w) := by
 have HC := Lib.hid hc
 have c0 := hc.c0
 have f0 := hc.f0
 have hlt := hc.lt
 clear hc
 go_enter Try.func37, Try.ntmps37
 go_wp2
 refine bodyPost_ret (v := .agg #[.bool t, .slice B m d]) (by simp [results, Try.results37, go_sem]) rfl ?_
 have h1 := (HC.out.put 0)
 have s1 := Stp.put w b (.int .i64 0)
 exact ⟨t, B, m, d, 0, rfl, (s1.trans (Stp.of_below h1.lt (below_alloc _ _))).trans (Stp.of_below (h1.alloc _).lt (below_alloc _ _)), (h1.alloc _).alloc _, fun _ => ⟨rfl, rfl, rfl, rfl, rfl, rfl⟩, fun h => absurd rfl h, fun _ => rfl⟩
set_option maxHeartbeats 400000 in
theorem Keep_four (b : Nat) (t : Bool) (B : Option Addr) (m d : Nat) (w : World) (hc : Cc w b 0) :
 Calls Try.prog 37 #[.pointer (some ⟨b, 0, none⟩), .agg #[.bool t, .slice B m d], .int .i64 4] w (KeepPost b 0 t B m d 4 w) := by
 have HC := Lib.hid hc
 have c0 := hc.c0
 have f0 := hc.f0
 have hlt := hc.lt
 clear hc
 go_enter Try.func37, Try.ntmps37
 go_wp2
 refine bodyPost_ret (v := .agg #[.bool false, .slice none 0 0]) (by simp [results, Try.results37, go_sem]) rfl ?_
 have h1 := (HC.out.put 4)
 have s1 := Stp.put w b (.int .i64 4)
 exact ⟨false, none, 0, 0, 4, rfl, (s1.trans (Stp.of_below h1.lt (below_alloc _ _))).trans (Stp.of_below (h1.alloc _).lt (below_alloc _ _)), (h1.alloc _).alloc _, fun h => by omega, fun h => absurd rfl h, fun _ => rfl⟩
def Two (b : Nat) (k : Int) (z : Int) (w : World) (e : Ending) (w' : World) : Prop :=
 ∃ t B m d k', e = .returned (.agg #[.bool t, .slice B m d]) ∧ Stp b w w' ∧ Cc w' b k' ∧ (k' = 0 → k = 0 ∧ Is w' z t B m d) ∧ (k ≠ 0 → k' = k) ∧ (k = 0 → (words z.natAbs).length ≤ 4096 → k' = 0) ∧ (k = 0 → ¬ (words z.natAbs).length ≤ 4096 → k' = 4)
set_option maxHeartbeats 400000 in
theorem two_bad (b f : Nat) (k : Int) (z : Int) (t t' : Bool) (A A' : Option Addr) (n c n' c' : Nat) (w : World) (hc : Cc w b k) (hk : k ≠ 0) :
 Calls Try.prog 72 #[.pointer (some ⟨b, 0, none⟩), .func (.func f) #[] #[], .agg #[.bool t, .slice A n c], .agg #[.bool t', .slice A' n' c']] w (Two b k z w) := by
 have HC := Lib.hid hc
 have c0 := hc.c0
 have f0 := hc.f0
 have hlt := hc.lt
 have q0 : (((w.alloc (.cells #[.bool t, .slice A n c] 24)).alloc (.cells #[.bool t', .slice A' n' c'] 24)).alloc (.cells #[.bool false, .slice none 0 0] 24)).cell? ⟨b, 0, none⟩ = some (.int .i64 k) := (((hc.alloc _).alloc _).alloc _).c0
 have t0 : (k != 0) = true := by simp [hk]
 have t1 : (k == 0) = false := by simp [hk]
 have HK := Lib.hid hk
 clear hc hk
 go_enter Try.func72, Try.ntmps72
 go_wp2
 refine bodyPost_ret (v := .agg #[.bool false, .slice none 0 0]) (by simp [results, Try.results72, go_sem]) rfl ?_
 have h1 := HC.out
 exact ⟨false, none, 0, 0, k, rfl, ((Stp.of_below h1.lt (below_alloc _ _)).trans (Stp.of_below (h1.alloc _).lt (below_alloc _ _))).trans (Stp.of_below ((h1.alloc _).alloc _).lt (below_alloc _ _)), ((h1.alloc _).alloc _).alloc _, fun h => absurd h HK.out, fun _ => rfl, fun h => absurd h HK.out, fun h => absurd h HK.out⟩
set_option maxHeartbeats 400000 in
theorem two_ok (b f : Nat) (z : Int) (t t' : Bool) (A A' : Option Addr) (n c n' c' : Nat) (w : World) (hc : Cc w b 0)
 (heg : ∀ args w, (callFunc f args).run Try.prog w = .ok (.enter f args) w)
 (hf : ∀ w1, Below w.heap.size w w1 → Calls Try.prog f #[.agg #[.bool t, .slice A n c], .agg #[.bool t', .slice A' n' c']] w1 (Num w1 z)) :
 Calls Try.prog 72 #[.pointer (some ⟨b, 0, none⟩), .func (.func f) #[] #[], .agg #[.bool t, .slice A n c], .agg #[.bool t', .slice A' n' c']] w (Two b 0 z w) := by
 have HC := Lib.hid hc
 have HF := Lib.hid hf
 have q0 : (((w.alloc (.cells #[.bool t, .slice A n c] 24)).alloc (.cells #[.bool t', .slice A' n' c'] 24)).alloc (.cells #[.bool false, .slice none 0 0] 24)).cell? ⟨b, 0, none⟩ = some (.int .i64 0) := (((hc.alloc _).alloc _).alloc _).c0
 have hlt := hc.lt
 clear hc hf
 go_enter Try.func72, Try.ntmps72
 go_wp2_with fail
 have E := Env.start w t t' A A' n c n' c'
 have C3 := Lib.hid (((HC.out.alloc (.cells #[.bool t, .slice A n c] 24)).alloc (.cells #[.bool t', .slice A' n' c'] 24)).alloc (.cells #[.bool false, .slice none 0 0] 24))
 refine (HF.out _ E.below).mono ?_
 rintro e w1 ⟨t1, B, m, d, k1, rfl, hn, hb⟩
 have E1 := Lib.hid (E.next hb)
 have C1 := Lib.hid (C3.out.below hb)
 clear E hb q0 heg
 by_cases hz : (words z.natAbs).length ≤ 4096
 · obtain ⟨rfl, hi⟩ := hn.is_ hz
   have HI := Lib.hid hi
   have HZ := Lib.hid hz
   clear hn hi hz
   go_wp2_with fail
   refine (Keep_zero b t1 B m d w1 C1.out).mono ?_
   rintro e w2 ⟨t2, B2, m2, d2, k2, rfl, s2, c2, h2, -, h4⟩
   have hk2 := h4 rfl
   subst hk2
   obtain ⟨-, -, rfl, rfl, rfl, rfl⟩ := h2 rfl
   have hsz := E1.out.size
   have hne : w.heap.size + 1 + 1 ≠ b := by omega
   have r0 := (s2.cell (p := ⟨w.heap.size + 1 + 1, 0, none⟩) (by simp; omega) hne).trans E1.out.r0
   have r1 := (s2.cell (p := ⟨w.heap.size + 1 + 1, 1, none⟩) (by simp; omega) hne).trans E1.out.r1
   have f0 := (s2.frozen (g := w.heap.size + 1 + 1) (o := 0) (by omega) hne).trans E1.out.f0
   have f1 := (s2.frozen (g := w.heap.size + 1 + 1) (o := 1) (by omega) hne).trans E1.out.f1
   have S2 := Lib.hid s2
   have C2 := Lib.hid c2
   clear h2 h4 s2 c2
   go_wp2
   refine bodyPost_ret (v := .agg #[.bool t2, .slice B2 m2 d2]) (by simp [results, Try.results72, go_sem, r0, r1]) rfl ?_
   exact ⟨t2, B2, m2, d2, 0, rfl, ((Stp.of_below HC.out.lt E1.out.below).trans S2.out).two (by omega) hne _ _, C2.out.two hne _ _, fun _ => ⟨rfl, (HI.out.stp C1.out S2.out).store r0 r1 _ _⟩, fun h => absurd rfl h, fun _ _ => rfl, fun _ h => absurd HZ.out h⟩
 · obtain ⟨rfl, rfl, rfl, rfl, rfl⟩ := hn.2 hz
   have HZ := Lib.hid hz
   clear hn hz
   go_wp2_with fail
   refine (Keep_four b false none 0 0 w1 C1.out).mono ?_
   rintro e w2 ⟨t2, B2, m2, d2, k2, rfl, s2, c2, h2, -, h4⟩
   have hk2 := h4 rfl
   subst hk2
   have hsz := E1.out.size
   have hne : w.heap.size + 1 + 1 ≠ b := by omega
   have r0 := (s2.cell (p := ⟨w.heap.size + 1 + 1, 0, none⟩) (by simp; omega) hne).trans E1.out.r0
   have r1 := (s2.cell (p := ⟨w.heap.size + 1 + 1, 1, none⟩) (by simp; omega) hne).trans E1.out.r1
   have f0 := (s2.frozen (g := w.heap.size + 1 + 1) (o := 0) (by omega) hne).trans E1.out.f0
   have f1 := (s2.frozen (g := w.heap.size + 1 + 1) (o := 1) (by omega) hne).trans E1.out.f1
   have S2 := Lib.hid s2
   have C2 := Lib.hid c2
   clear h2 h4 s2 c2
   go_wp2
   refine bodyPost_ret (v := .agg #[.bool t2, .slice B2 m2 d2]) (by simp [results, Try.results72, go_sem, r0, r1]) rfl ?_
   exact ⟨t2, B2, m2, d2, 4, rfl, ((Stp.of_below HC.out.lt E1.out.below).trans S2.out).two (by omega) hne _ _, C2.out.two hne _ _, fun h => by omega, fun h => absurd rfl h, fun _ h => absurd h HZ.out, fun _ _ => rfl⟩
structure Iv (w : World) (z : Int) (t : Bool) (B : Option Addr) (m d : Nat) : Prop where
 is : Is w z t B m d
 sz : Sz z 4096
theorem Iv.below {w w' : World} {z : Int} {t : Bool} {B : Option Addr} {m d : Nat} (h : Iv w z t B m d) (hb : Below w.heap.size w w') : Iv w' z t B m d := ⟨h.is.below hb, h.sz⟩
theorem Iv.stp {b : Nat} {k : Int} {w w' : World} {z : Int} {t : Bool} {B : Option Addr} {m d : Nat} (h : Iv w z t B m d) (hc : Cc w b k) (hs : Stp b w w') : Iv w' z t B m d := ⟨h.is.stp hc hs, h.sz⟩
theorem Iv.two {w : World} {z : Int} {t : Bool} {B : Option Addr} {m d : Nat} (h : Iv w z t B m d) {g : Nat} {x : Bool} {a : Option Addr} {i j : Nat} (h0 : w.cell? ⟨g, 0, none⟩ = some (.bool x)) (h1 : w.cell? ⟨g, 1, none⟩ = some (.slice a i j)) (u v : Value) :
 Iv ((w.setCell ⟨g, 0, none⟩ u).setCell ⟨g, 1, none⟩ v) z t B m d := ⟨h.is.store h0 h1 u v, h.sz⟩
def St (T : Nat) (k : Int) : Prop := k = 0 ∨ (k = 4 ∧ pw 4096 ≤ T)
theorem St.zero (T : Nat) : St T 0 := .inl rfl
theorem St.le {T T' : Nat} {k : Int} (h : St T k) (hT : T ≤ T') : St T' k := h.elim .inl fun h => .inr ⟨h.1, Nat.le_trans h.2 hT⟩
def Wv (T : Nat) (b : Nat) (k : Int) (z : Int) (w : World) (e : Ending) (w' : World) : Prop :=
 ∃ t B m d k', e = .returned (.agg #[.bool t, .slice B m d]) ∧ Stp b w w' ∧ Cc w' b k' ∧ (k' = 0 → k = 0 ∧ Iv w' z t B m d) ∧ St T k'
theorem Two.wv {T b : Nat} {k z : Int} {w w' : World} {e : Ending} (h : Two b k z w e w') (hk : St T k) (hz : k = 0 → z.natAbs ≤ T) : Wv T b k z w e w' := by
 obtain ⟨t, B, m, d, k', he, hs, hc, h1, h2, h3, h4⟩ := h
 refine ⟨t, B, m, d, k', he, hs, hc, fun h0 => ⟨(h1 h0).1, (h1 h0).2, ?_⟩, ?_⟩
 · by_cases hl : (words z.natAbs).length ≤ 4096
   · exact words_len_le.1 hl
   · have := h4 (h1 h0).1 hl; omega
 · rcases hk with hk | hk
   · by_cases hl : (words z.natAbs).length ≤ 4096
     · exact .inl (h3 hk hl)
     · refine .inr ⟨h4 hk hl, Nat.le_trans (words_len_lt.1 (by omega)) (hz hk)⟩
   · rw [h2 (by omega)]; exact .inr hk
theorem two_c (b f : Nat) (k z : Int) (t t' : Bool) (A A' : Option Addr) (n c n' c' : Nat) (w : World) (hc : Cc w b k)
 (heg : ∀ args w, (callFunc f args).run Try.prog w = .ok (.enter f args) w)
 (hf : k = 0 → ∀ w1, Below w.heap.size w w1 → Calls Try.prog f #[.agg #[.bool t, .slice A n c], .agg #[.bool t', .slice A' n' c']] w1 (Num w1 z)) :
 Calls Try.prog 72 #[.pointer (some ⟨b, 0, none⟩), .func (.func f) #[] #[], .agg #[.bool t, .slice A n c], .agg #[.bool t', .slice A' n' c']] w (Two b k z w) := by
 by_cases hk : k = 0
 · subst hk; exact two_ok b f z t t' A A' n c n' c' w hc heg (hf rfl)
 · exact two_bad b f k z t t' A A' n c n' c' w hc hk
theorem Is.nums {w : World} {z : Int} {t : Bool} {A : Option Addr} {n c : Nat} (h : Is w z t A n c) (hn : n ≤ 4096) : NumIs w z t A n c 0 :=
 ⟨fun _ => ⟨rfl, h.1, h.2.1, h.2.2.1, h.2.2.2.1, h.2.2.2.2⟩, fun hl => absurd (by rw [← h.2.1]; exact hn) hl⟩
theorem entersAdd : ∀ args w, (callFunc 73 args).run Try.prog w = .ok (.enter 73 args) w := enters_of Try.func73 (by kernel_rfl) rfl
set_option maxHeartbeats 400000 in
theorem cAdd_c (T b : Nat) (k z z' : Int) (t t' : Bool) (A A' : Option Addr) (n c n' c' : Nat) (w : World) (hc : Cc w b k) (hk : St T k) (hz : k = 0 → (z + z').natAbs ≤ T) (hx : k = 0 → Iv w z t A n c ∧ Iv w z' t' A' n' c') :
 Calls Try.prog 53 #[.pointer (some ⟨b, 0, none⟩), .agg #[.bool t, .slice A n c], .agg #[.bool t', .slice A' n' c']] w (Wv T b k (z + z') w) := by
 have E := Env.start w t t' A A' n c n' c'
 have HC := Lib.hid (((hc.alloc (.cells #[.bool t, .slice A n c] 24)).alloc (.cells #[.bool t', .slice A' n' c'] 24)).alloc (.cells #[.bool false, .slice none 0 0] 24))
 have HT := Lib.hid (two_c b 73 k (z + z') t t' A A' n c n' c' _ HC.out entersAdd (fun h0 w1 hb => by
  have hb := E.below.trans (hb.mono E.below.size)
  exact Add_is (k := 4096) (((hx h0).1.is).below hb) (((hx h0).2.is).below hb) (hx h0).1.sz (hx h0).2.sz (Nat.le_refl _)))
 have HK := Lib.hid (And.intro hk (And.intro hz hc.lt))
 clear hc hk hz hx
 have HE := Lib.hid E
 clear E
 go_enter Try.func53, Try.ntmps53
 go_wp2_with fail
 refine HT.out.mono ?_
 rintro e w2 h
 obtain ⟨t2, B2, m2, d2, k2, rfl, s2, c2, h2, h3⟩ := h.wv HK.out.1 HK.out.2.1
 have hsz := HE.out.size
 have hlt := HK.out.2.2
 have hne : w.heap.size + 1 + 1 ≠ b := by omega
 have r0 := (s2.cell (p := ⟨w.heap.size + 1 + 1, 0, none⟩) (by simp) hne).trans HE.out.r0
 have r1 := (s2.cell (p := ⟨w.heap.size + 1 + 1, 1, none⟩) (by simp) hne).trans HE.out.r1
 have f0 := (s2.frozen (g := w.heap.size + 1 + 1) (o := 0) (by simp) hne).trans HE.out.f0
 have f1 := (s2.frozen (g := w.heap.size + 1 + 1) (o := 1) (by simp) hne).trans HE.out.f1
 have S2 := Lib.hid s2
 have C2 := Lib.hid c2
 have H2 := Lib.hid h2
 have H3 := Lib.hid h3
 clear h2 h3 s2 c2 h
 go_wp2
 refine bodyPost_ret (v := .agg #[.bool t2, .slice B2 m2 d2]) (by simp [results, Try.results53, go_sem, r0, r1]) rfl ?_
 exact ⟨t2, B2, m2, d2, k2, rfl, ((Stp.of_below HK.out.2.2 HE.out.below).trans S2.out).two (by omega) hne _ _, C2.out.two hne _ _, fun h => ⟨(H2.out h).1, (H2.out h).2.two r0 r1 _ _⟩, H3.out⟩
theorem entersSub : ∀ args w, (callFunc 108 args).run Try.prog w = .ok (.enter 108 args) w := enters_of Try.func108 (by kernel_rfl) rfl
set_option maxHeartbeats 400000 in
theorem cSub_c (T b : Nat) (k z z' : Int) (t t' : Bool) (A A' : Option Addr) (n c n' c' : Nat) (w : World) (hc : Cc w b k) (hk : St T k) (hz : k = 0 → (z - z').natAbs ≤ T) (hx : k = 0 → Iv w z t A n c ∧ Iv w z' t' A' n' c') :
 Calls Try.prog 102 #[.pointer (some ⟨b, 0, none⟩), .agg #[.bool t, .slice A n c], .agg #[.bool t', .slice A' n' c']] w (Wv T b k (z - z') w) := by
 have E := Env.start w t t' A A' n c n' c'
 have HC := Lib.hid (((hc.alloc (.cells #[.bool t, .slice A n c] 24)).alloc (.cells #[.bool t', .slice A' n' c'] 24)).alloc (.cells #[.bool false, .slice none 0 0] 24))
 have HT := Lib.hid (two_c b 108 k (z - z') t t' A A' n c n' c' _ HC.out entersSub (fun h0 w1 hb => by
  have hb := E.below.trans (hb.mono E.below.size)
  exact Sub_is (k := 4096) (((hx h0).1.is).below hb) (((hx h0).2.is).below hb) (hx h0).1.sz (hx h0).2.sz (Nat.le_refl _)))
 have HK := Lib.hid (And.intro hk (And.intro hz hc.lt))
 clear hc hk hz hx
 have HE := Lib.hid E
 clear E
 go_enter Try.func102, Try.ntmps102
 go_wp2_with fail
 refine HT.out.mono ?_
 rintro e w2 h
 obtain ⟨t2, B2, m2, d2, k2, rfl, s2, c2, h2, h3⟩ := h.wv HK.out.1 HK.out.2.1
 have hsz := HE.out.size
 have hlt := HK.out.2.2
 have hne : w.heap.size + 1 + 1 ≠ b := by omega
 have r0 := (s2.cell (p := ⟨w.heap.size + 1 + 1, 0, none⟩) (by simp) hne).trans HE.out.r0
 have r1 := (s2.cell (p := ⟨w.heap.size + 1 + 1, 1, none⟩) (by simp) hne).trans HE.out.r1
 have f0 := (s2.frozen (g := w.heap.size + 1 + 1) (o := 0) (by simp) hne).trans HE.out.f0
 have f1 := (s2.frozen (g := w.heap.size + 1 + 1) (o := 1) (by simp) hne).trans HE.out.f1
 have S2 := Lib.hid s2
 have C2 := Lib.hid c2
 have H2 := Lib.hid h2
 have H3 := Lib.hid h3
 clear h2 h3 s2 c2 h
 go_wp2
 refine bodyPost_ret (v := .agg #[.bool t2, .slice B2 m2 d2]) (by simp [results, Try.results102, go_sem, r0, r1]) rfl ?_
 exact ⟨t2, B2, m2, d2, k2, rfl, ((Stp.of_below HK.out.2.2 HE.out.below).trans S2.out).two (by omega) hne _ _, C2.out.two hne _ _, fun h => ⟨(H2.out h).1, (H2.out h).2.two r0 r1 _ _⟩, H3.out⟩
theorem entersMul : ∀ args w, (callFunc 85 args).run Try.prog w = .ok (.enter 85 args) w := enters_of Try.func85 (by kernel_rfl) rfl
set_option maxHeartbeats 400000 in
theorem cMul_c (T b : Nat) (k z z' : Int) (t t' : Bool) (A A' : Option Addr) (n c n' c' : Nat) (w : World) (hc : Cc w b k) (hk : St T k) (hz : k = 0 → (z * z').natAbs ≤ T) (hx : k = 0 → Iv w z t A n c ∧ Iv w z' t' A' n' c') :
 Calls Try.prog 74 #[.pointer (some ⟨b, 0, none⟩), .agg #[.bool t, .slice A n c], .agg #[.bool t', .slice A' n' c']] w (Wv T b k (z * z') w) := by
 have E := Env.start w t t' A A' n c n' c'
 have HC := Lib.hid (((hc.alloc (.cells #[.bool t, .slice A n c] 24)).alloc (.cells #[.bool t', .slice A' n' c'] 24)).alloc (.cells #[.bool false, .slice none 0 0] 24))
 have HT := Lib.hid (two_c b 85 k (z * z') t t' A A' n c n' c' _ HC.out entersMul (fun h0 w1 hb => by
  have hb := E.below.trans (hb.mono E.below.size)
  exact Mul_is (k := 4096) (((hx h0).1.is).below hb) (((hx h0).2.is).below hb) (hx h0).1.sz (hx h0).2.sz (Nat.le_refl _)))
 have HK := Lib.hid (And.intro hk (And.intro hz hc.lt))
 clear hc hk hz hx
 have HE := Lib.hid E
 clear E
 go_enter Try.func74, Try.ntmps74
 go_wp2_with fail
 refine HT.out.mono ?_
 rintro e w2 h
 obtain ⟨t2, B2, m2, d2, k2, rfl, s2, c2, h2, h3⟩ := h.wv HK.out.1 HK.out.2.1
 have hsz := HE.out.size
 have hlt := HK.out.2.2
 have hne : w.heap.size + 1 + 1 ≠ b := by omega
 have r0 := (s2.cell (p := ⟨w.heap.size + 1 + 1, 0, none⟩) (by simp) hne).trans HE.out.r0
 have r1 := (s2.cell (p := ⟨w.heap.size + 1 + 1, 1, none⟩) (by simp) hne).trans HE.out.r1
 have f0 := (s2.frozen (g := w.heap.size + 1 + 1) (o := 0) (by simp) hne).trans HE.out.f0
 have f1 := (s2.frozen (g := w.heap.size + 1 + 1) (o := 1) (by simp) hne).trans HE.out.f1
 have S2 := Lib.hid s2
 have C2 := Lib.hid c2
 have H2 := Lib.hid h2
 have H3 := Lib.hid h3
 clear h2 h3 s2 c2 h
 go_wp2
 refine bodyPost_ret (v := .agg #[.bool t2, .slice B2 m2 d2]) (by simp [results, Try.results74, go_sem, r0, r1]) rfl ?_
 exact ⟨t2, B2, m2, d2, k2, rfl, ((Stp.of_below HK.out.2.2 HE.out.below).trans S2.out).two (by omega) hne _ _, C2.out.two hne _ _, fun h => ⟨(H2.out h).1, (H2.out h).2.two r0 r1 _ _⟩, H3.out⟩
end Go.Proofs.Yteabokkofoomkaa

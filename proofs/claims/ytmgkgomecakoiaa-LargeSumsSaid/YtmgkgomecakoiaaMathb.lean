import Derived.Test.YtmgkgomecakoiaaMath
import Derived.Lib.BitFns
namespace Go.Proofs.Ytmgkgomecakoiaa

/-- how many binary digits -/
def blen (v : Nat) : Nat := if v = 0 then 0 else v.log2 + 1
theorem blen_zero : blen 0 = 0 := rfl
theorem blen_lt (v : Nat) : v < 2 ^ blen v := by
  unfold blen
  split
  · subst_vars; simp
  · exact Nat.lt_log2_self
theorem blen_ge {v : Nat} (h : v ≠ 0) : 2 ^ (blen v - 1) ≤ v := by
  unfold blen
  rw [if_neg h, Nat.add_sub_cancel]
  exact Nat.log2_self_le h
theorem blen_pos {v : Nat} (h : v ≠ 0) : 0 < blen v := by unfold blen; rw [if_neg h]; omega
theorem blen_le {v k : Nat} : blen v ≤ k ↔ v < 2 ^ k := by
  constructor
  · intro h
    exact Nat.lt_of_lt_of_le (blen_lt v) (Nat.pow_le_pow_right (by omega) h)
  · intro h
    by_cases h0 : v = 0
    · subst h0; simp [blen_zero]
    · have h1 := blen_ge h0
      have h2 := blen_pos h0
      rcases Nat.lt_or_ge k (blen v) with h3 | h3
      · have : 2 ^ k ≤ 2 ^ (blen v - 1) := Nat.pow_le_pow_right (by omega) (by omega)
        omega
      · exact h3
theorem blen_unique {v k : Nat} (h1 : v < 2 ^ (k + 1)) (h2 : 2 ^ k ≤ v) : blen v = k + 1 := by
  have a := blen_le.2 h1
  rcases Nat.lt_or_ge k (blen v) with h3 | h3
  · omega
  · have := blen_le.1 h3; omega
/-- more digits below -/
theorem blen_up {x y k : Nat} (hx : x ≠ 0) (hy : y < 2 ^ k) : blen (y + 2 ^ k * x) = k + blen x := by
  obtain ⟨j, hj⟩ : ∃ j, blen x = j + 1 := ⟨blen x - 1, by have := blen_pos hx; omega⟩
  have h1 := blen_lt x
  have h2 := blen_ge hx
  rw [hj] at h1 h2 ⊢
  rw [Nat.add_sub_cancel] at h2
  rw [← Nat.add_assoc]
  apply blen_unique
  · have : 2 ^ k * (x + 1) ≤ 2 ^ k * 2 ^ (j + 1) := Nat.mul_le_mul_left _ h1
    rw [Nat.add_assoc, Nat.pow_add]
    rw [Nat.mul_add, Nat.mul_one] at this
    omega
  · have : 2 ^ k * 2 ^ j ≤ 2 ^ k * x := Nat.mul_le_mul_left _ h2
    rw [Nat.pow_add]
    omega
theorem blen_half {x : Nat} (h : x ≠ 0) : blen x = 1 + blen (x / 2) := by
  by_cases h2 : x / 2 = 0
  · have : x = 1 := by omega
    subst this; decide
  · have := blen_up (x := x / 2) (y := x % 2) (k := 1) h2 (by omega)
    rw [show x % 2 + 2 ^ 1 * (x / 2) = x by omega] at this
    exact this
theorem bitLen_blen (x : Nat) (h : x < 18446744073709551616) : Lib.bitLen x = blen x := by
  induction x using Nat.strongRecOn with
  | _ x ih =>
    by_cases h0 : x = 0
    · subst h0; rfl
    · rw [Lib.bitLen_half x h0 h, ih (x / 2) (by omega) (by omega), blen_half h0]

theorem canon_last {xs : List Nat} (h : canon xs) (h0 : 0 < xs.length) : xs.getD (xs.length - 1) 0 ≠ 0 := by
  have := h.2
  rw [List.getLast?_eq_getElem?] at this
  intro he
  apply this
  rw [List.getD_eq_getElem?_getD, List.getElem?_eq_getElem (by omega)] at he
  rw [List.getElem?_eq_getElem (by omega)]
  simpa using he
theorem val_split_last {xs : List Nat} (h0 : 0 < xs.length) : val xs = val (xs.take (xs.length - 1)) + pw (xs.length - 1) * xs.getD (xs.length - 1) 0 := by
  have := val_take_succ xs (xs.length - 1) (by omega)
  rw [show xs.length - 1 + 1 = xs.length by omega, take_of_len (Nat.le_refl _)] at this
  exact this
theorem blen_words {xs : List Nat} (h : canon xs) (h0 : 0 < xs.length) : blen (val xs) = 32 * (xs.length - 1) + blen (xs.getD (xs.length - 1) 0) := by
  rw [val_split_last h0, pw_two]
  apply blen_up (canon_last h h0)
  have := val_lt (small_take h.1 (xs.length - 1))
  rw [pw_two, List.length_take] at this
  rwa [Nat.min_eq_left (by omega)] at this

/-! shifting down -/
def downs (q : Nat) : List Nat → List Nat
  | [] => []
  | x :: xs => ((x + 4294967296 * xs.headD 0) / 2 ^ q % 4294967296) :: downs q xs
theorem downs_len (q : Nat) (xs : List Nat) : (downs q xs).length = xs.length := by
  induction xs with
  | nil => rfl
  | cons x xs ih => simp [downs, ih]
theorem downs_small (q : Nat) (xs : List Nat) : small (downs q xs) := by
  induction xs with
  | nil => exact small_nil
  | cons x xs ih => exact small_cons.2 ⟨by omega, ih⟩
theorem downs_get (q : Nat) (xs : List Nat) (i : Nat) (h : i < xs.length) : (downs q xs).getD i 0 = (xs.getD i 0 + 4294967296 * xs.getD (i + 1) 0) / 2 ^ q % 4294967296 := by
  induction xs generalizing i with
  | nil => simp at h
  | cons x xs ih =>
    cases i with
    | zero => cases xs <;> simp [downs]
    | succ i => simpa [downs] using ih i (by simpa using h)
theorem downs_val {q : Nat} (hq : q < 32) {xs : List Nat} (h : small xs) : val (downs q xs) = val xs / 2 ^ q := by
  have hB : 4294967296 = 2 ^ q * 2 ^ (32 - q) := by rw [← Nat.pow_add, show q + (32 - q) = 32 by omega]
  induction xs with
  | nil => simp [downs, val]
  | cons x xs ih =>
    obtain ⟨h1, h2⟩ := small_cons.1 h
    rw [downs, val_cons, val_cons, ih h2]
    obtain ⟨hd, T, e, hh⟩ : ∃ hd T, val xs = hd + 4294967296 * T ∧ xs.headD 0 = hd := by
      cases xs with
      | nil => exact ⟨0, 0, rfl, rfl⟩
      | cons y ys => exact ⟨y, val ys, rfl, rfl⟩
    rw [hh, e]
    obtain ⟨u, hu⟩ : ∃ u, u = x + 4294967296 * hd := ⟨_, rfl⟩
    rw [← hu]
    have e1 : (hd + 4294967296 * T) / 2 ^ q = hd / 2 ^ q + 2 ^ (32 - q) * T := by
      conv => lhs; rw [hB, Nat.mul_assoc]
      exact Nat.add_mul_div_left _ _ (two_pos q)
    have e2 : (x + 4294967296 * (hd + 4294967296 * T)) / 2 ^ q = u / 2 ^ q + 4294967296 * (2 ^ (32 - q) * T) := by
      have e3 : x + 4294967296 * (hd + 4294967296 * T) = u + 2 ^ q * (2 ^ (32 - q) * (4294967296 * T)) := by
        rw [← Nat.mul_assoc, ← hB, hu]; omega
      rw [e3, Nat.add_mul_div_left _ _ (two_pos q), Nat.mul_left_comm]
    have e4 : u / 2 ^ q / 4294967296 = hd / 2 ^ q := by
      rw [Nat.div_div_eq_div_mul, Nat.mul_comm, ← Nat.div_div_eq_div_mul, hu]
      congr 1
      omega
    rw [e1, e2]
    have := Nat.div_add_mod (u / 2 ^ q) 4294967296
    omega
theorem fill_step {L D : List Nat} {i : Nat} (h : L.take i = D.take i) (hi : i < L.length) (hl : L.length = D.length) : (L.set i (D.getD i 0)).take (i + 1) = D.take (i + 1) := by
  apply List.ext_getElem?
  intro j
  rw [List.getElem?_take, List.getElem?_take]
  split
  · by_cases hj : j = i
    · subst hj
      rw [List.getElem?_set_self hi, List.getD_eq_getElem?_getD, List.getElem?_eq_getElem (show j < D.length by omega)]
      rfl
    · rw [List.getElem?_set_ne (by omega)]
      have := congrArg (fun l : List Nat => l[j]?) h
      simp only [List.getElem?_take] at this
      rwa [if_pos (by omega), if_pos (by omega)] at this
  · rfl
theorem val_drop {xs : List Nat} (h : small xs) (p : Nat) : val (xs.drop p) = val xs / pw p := by
  by_cases hp : p ≤ xs.length
  · have h1 := val_take_drop xs p hp
    have h2 := val_lt (small_take h p)
    rw [List.length_take, Nat.min_eq_left hp] at h2
    rw [h1, Nat.add_mul_div_left _ _ (pw_pos p), Nat.div_eq_of_lt h2, Nat.zero_add]
  · rw [List.drop_of_length_le (by omega), val_nil, Nat.div_eq_of_lt]
    exact Nat.lt_of_lt_of_le (val_lt h) (pw_le (by omega))
theorem val_mod {xs : List Nat} (h : small xs) (p : Nat) : val (xs.take p) = val xs % pw p := by
  by_cases hp : p ≤ xs.length
  · have h1 := val_take_drop xs p hp
    have h2 := val_lt (small_take h p)
    rw [List.length_take, Nat.min_eq_left hp] at h2
    rw [h1, Nat.add_mul_mod_self_left, Nat.mod_eq_of_lt h2]
  · rw [take_of_len (by omega), Nat.mod_eq_of_lt]
    exact Nat.lt_of_lt_of_le (val_lt h) (pw_le (by omega))
theorem shift_div (v p q k : Nat) (h : k = 32 * p + q) : v / pw p / 2 ^ q = v / 2 ^ k := by
  rw [h, Nat.div_div_eq_div_mul, pw_two, ← Nat.pow_add]
end Go.Proofs.Ytmgkgomecakoiaa

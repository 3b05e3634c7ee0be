import Derived.Test.YtmgkgomecakoiaaMem
import Derived.Test.YtmgkgomecakoiaaMathc
namespace Go.Proofs.Ytmgkgomecakoiaa

theorem val_splice {L cs : List Nat} {o : Nat} (h : o + cs.length ≤ L.length) : val (splice L o cs) + pw o * val ((L.drop o).take cs.length) = val L + pw o * val cs := by
  have e1 : val L = val (L.take o) + pw o * (val ((L.drop o).take cs.length) + pw cs.length * val (L.drop (o + cs.length))) := by
    rw [val_take_drop L o (by omega), val_take_drop (L.drop o) cs.length (by simp; omega), List.drop_drop]
  have e2 : val (splice L o cs) = val (L.take o) + pw o * (val cs + pw cs.length * val (L.drop (o + cs.length))) := by
    unfold splice
    rw [List.append_assoc, val_append, val_append, List.length_take, Nat.min_eq_left (by omega)]
  rw [e1, e2, Nat.mul_add, Nat.mul_add]
  omega
theorem val_zeros {N o n : Nat} : val (((List.replicate N 0).drop o).take n) = 0 := by
  rw [val_eq_zero]
  intro x hx
  exact List.eq_of_mem_replicate (List.mem_of_mem_drop (List.mem_of_mem_take hx))
theorem val_part_zero {L : List Nat} (hs : small L) {o n : Nat} (h : val L < pw o) : val ((L.drop o).take n) = 0 := by
  rw [val_mod (small_drop hs o), val_drop hs, Nat.div_eq_of_lt h, Nat.zero_mod]

theorem kara (X0 X1 Y0 Y1 P : Nat) : X0 * Y0 + P * P * (X1 * Y1) + P * ((X0 + X1) * (Y0 + Y1) - X0 * Y0 - X1 * Y1) = (X0 + P * X1) * (Y0 + P * Y1) := by
  have e : (X0 + X1) * (Y0 + Y1) - X0 * Y0 - X1 * Y1 = X0 * Y1 + X1 * Y0 := by
    rw [Nat.add_mul, Nat.mul_add, Nat.mul_add]; omega
  rw [e]
  grind
theorem kara_le (X0 X1 Y0 Y1 : Nat) : X0 * Y0 + X1 * Y1 ≤ (X0 + X1) * (Y0 + Y1) := by
  rw [Nat.add_mul, Nat.mul_add, Nat.mul_add]; omega
theorem split_half (X : Nat) (h : Nat) : X % pw h + pw h * (X / pw h) = X := Nat.mod_add_div X (pw h)
theorem fits_add {L : List Nat} (hs : small L) {o n mid : Nat} (hl : o + n = L.length) (h : val L + pw o * mid < pw L.length) : val ((L.drop o).take n) + mid < pw n := by
  rw [take_of_len (by simp; omega), val_drop hs]
  have e : pw L.length = pw o * pw n := by rw [← hl, pw_add]
  rw [e] at h
  have h2 : pw o * (val L / pw o) ≤ val L := Nat.mul_div_le _ _
  have h3 : pw o * (val L / pw o + mid) < pw o * pw n := by rw [Nat.mul_add]; omega
  exact Nat.lt_of_mul_lt_mul_left h3
theorem mul_lt_pw {X Y n m : Nat} (hx : X < pw n) (hy : Y < pw m) : X * Y < pw (n + m) := by
  rw [pw_add]
  exact Nat.mul_lt_mul'' hx hy
theorem canon_drop {xs : List Nat} (h : canon xs) {k : Nat} (hk : k < xs.length) : canon (xs.drop k) := by
  refine ⟨small_drop h.1 k, ?_⟩
  rw [List.getLast?_drop, if_neg (by omega)]
  exact h.2
theorem canon_pos {xs : List Nat} (h : canon xs) (h0 : 0 < xs.length) : 0 < val xs := by
  rcases Nat.eq_zero_or_pos (val xs) with h1 | h1
  · have := words_val h
    rw [h1, words_zero] at this
    rw [← this] at h0
    exact absurd h0 (by simp)
  · exact h1
theorem words_mono {a b : Nat} (h : a ≤ b) : (words a).length ≤ (words b).length := words_len_le.2 (Nat.lt_of_le_of_lt h (lt_pw_words b))
end Go.Proofs.Ytmgkgomecakoiaa

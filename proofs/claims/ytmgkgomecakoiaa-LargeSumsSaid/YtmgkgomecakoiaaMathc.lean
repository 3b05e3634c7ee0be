import Derived.Test.YtmgkgomecakoiaaMathb
namespace Go.Proofs.Ytmgkgomecakoiaa

/-- the product, row by row: i rows are in, and of the next one j words, with a carry -/
structure RowAt (xs ys : List Nat) (i j : Nat) (cs : List Nat) (carry : Nat) : Prop where
  len : cs.length = xs.length + ys.length
  sm : small cs
  rest : ∀ k, xs.length + i ≤ k → cs.getD k 0 = 0
  eq : val cs + pw (i + j) * carry = val xs * val (ys.take i) + pw i * (ys.getD i 0 * val (xs.take j))
  lt : carry < 4294967296
theorem RowAt.start (xs ys : List Nat) : RowAt xs ys 0 0 (List.replicate (xs.length + ys.length) 0) 0 :=
  ⟨by simp, fun x hx => by have := List.eq_of_mem_replicate hx; omega, fun k _ => getD_replicate _ k, by rw [val_replicate]; simp [val], by omega⟩
theorem mul_word_le {x y : Nat} (hx : x < 4294967296) (hy : y < 4294967296) : x * y ≤ 18446744065119617025 := by
  have : x * y ≤ 4294967295 * 4294967295 := Nat.mul_le_mul (by omega) (by omega)
  omega
theorem RowAt.next {xs ys cs : List Nat} {i j carry : Nat} (h : RowAt xs ys i j cs carry) (hx : small xs) (hy : small ys) (hj : j < xs.length) (hi : i < ys.length) :
    RowAt xs ys i (j + 1) (cs.set (i + j) ((ys.getD i 0 * xs.getD j 0 + cs.getD (i + j) 0 + carry) % 4294967296)) ((ys.getD i 0 * xs.getD j 0 + cs.getD (i + j) 0 + carry) / 4294967296) := by
  have h1 := small_get hx j
  have h2 := small_get hy i
  have h3 := small_get h.sm (i + j)
  have h4 := mul_word_le h2 h1
  have hlt := h.lt
  refine ⟨by rw [List.length_set]; exact h.len, small_set h.sm _ _ (by omega), fun k hk => ?_, ?_, ?_⟩
  · rw [getD_set_ne (by omega)]; exact h.rest k hk
  · have hv := val_set cs (i + j) ((ys.getD i 0 * xs.getD j 0 + cs.getD (i + j) 0 + carry) % 4294967296) (by rw [h.len]; omega)
    have he := h.eq
    rw [val_take_step, Nat.mul_add, Nat.mul_add, show i + (j + 1) = i + j + 1 from rfl, pw_succ]
    rw [show pw i * (ys.getD i 0 * (pw j * xs.getD j 0)) = pw (i + j) * (ys.getD i 0 * xs.getD j 0) by rw [pw_add, Nat.mul_assoc, Nat.mul_left_comm (ys.getD i 0)]]
    generalize ys.getD i 0 * xs.getD j 0 = z at *
    generalize cs.getD (i + j) 0 = r0 at *
    generalize pw (i + j) = P at *
    have hs := Nat.div_add_mod (z + r0 + carry) 4294967296
    generalize (z + r0 + carry) % 4294967296 = r at *
    generalize (z + r0 + carry) / 4294967296 = d at *
    have e : P * (4294967296 * d + r) = P * (z + r0 + carry) := by rw [hs]
    rw [Nat.mul_add, Nat.mul_add, Nat.mul_add] at e
    rw [show 4294967296 * P * d = P * (4294967296 * d) by rw [Nat.mul_comm 4294967296 P, Nat.mul_assoc]]
    omega
  · omega
theorem row_eq {V V' X T P P' P'' Q c y : Nat} (hv : V' + Q * 0 = V + Q * c) (he : V + Q * c = X * T + P * (y * X)) : V' + P' * 0 = X * (T + P * y) + P'' * 0 := by
  rw [Nat.mul_zero, Nat.add_zero] at hv
  rw [Nat.mul_zero, Nat.mul_zero, Nat.add_zero, Nat.add_zero, Nat.mul_add, hv, he]
  rw [Nat.mul_comm y X, Nat.mul_left_comm P X y]
theorem RowAt.row {xs ys cs : List Nat} {i carry : Nat} (h : RowAt xs ys i xs.length cs carry) (hi : i < ys.length) : RowAt xs ys (i + 1) 0 (cs.set (i + xs.length) carry) 0 := by
  have hv := val_set cs (i + xs.length) carry (by rw [h.len]; omega)
  rw [h.rest (i + xs.length) (by omega)] at hv
  have he := h.eq
  rw [take_of_len (Nat.le_refl _)] at he
  refine ⟨by rw [List.length_set]; exact h.len, small_set h.sm _ _ h.lt, fun k hk => ?_, ?_, Nat.lt_of_le_of_lt (Nat.zero_le _) h.lt⟩
  · rw [getD_set_ne (by omega)]; exact h.rest k (by omega)
  · rw [val_take_step, List.take_zero, val_nil, Nat.mul_zero (ys.getD (i + 1) 0)]
    exact row_eq hv he
theorem RowAt.done {xs ys cs : List Nat} {i : Nat} (h : RowAt xs ys i 0 cs 0) (hi : ys.length ≤ i) : val cs = val xs * val ys := by
  have he := h.eq
  rw [take_of_len hi] at he
  simpa [val] using he
end Go.Proofs.Ytmgkgomecakoiaa

import Derived.Test.YthjdnidapbhdlaaDoorRe
set_option maxRecDepth 100000
namespace Go.Proofs.YthjdnidapbhdlaaDoor
open Go.RowKit

/-- differences of words under way: k words are out -/
structure MinusAt (xs ys : List Nat) (k : Nat) (cs : List Nat) (y : Nat) : Prop where
  len : cs.length = xs.length
  sm : small cs
  eq : val (cs.take k) + val (ys.take k) = val (xs.take k) + pw k * y
  le : y ≤ 1
theorem MinusAt.start (xs ys : List Nat) : MinusAt xs ys 0 (List.replicate xs.length 0) 0 :=
  ⟨by simp, fun x hx => by have := List.eq_of_mem_replicate hx; omega, by simp [val], by omega⟩
theorem MinusAt.next {xs ys cs : List Nat} {k y r d : Nat} (h : MinusAt xs ys k cs y) (hk : k < xs.length) (hr : r < 4294967296) (hd : d ≤ 1) (key : r + ys.getD k 0 + y = xs.getD k 0 + 4294967296 * d) :
    MinusAt xs ys (k + 1) (cs.set k r) d := by
  refine ⟨by simp [h.len], small_set h.sm _ _ hr, ?_, hd⟩
  rw [val_take_step, val_take_step, val_take_step]
  have e1 : (cs.set k r).take k = cs.take k := List.take_set_of_le (Nat.le_refl _)
  have e2 : (cs.set k r).getD k 0 = r := by simp [List.getD_eq_getElem?_getD, h.len, hk]
  rw [e1, e2, pw_succ]
  have e := h.eq
  obtain ⟨X, hX⟩ : ∃ X, X = xs.getD k 0 := ⟨_, rfl⟩
  obtain ⟨Y, hY⟩ : ∃ Y, Y = ys.getD k 0 := ⟨_, rfl⟩
  rw [← hX, ← hY] at key ⊢
  obtain ⟨p, hp⟩ : ∃ p, p = pw k := ⟨_, rfl⟩
  rw [← hp] at e ⊢
  have m1 : p * (r + Y + y) = p * (X + 4294967296 * d) := by rw [key]
  have m2 : p * (4294967296 * d) = 4294967296 * p * d := by rw [← Nat.mul_assoc, Nat.mul_comm p]
  rw [Nat.mul_add, Nat.mul_add, Nat.mul_add, m2] at m1
  omega
theorem MinusAt.done {xs ys cs : List Nat} {y : Nat} (h : MinusAt xs ys xs.length cs y) (hl : ys.length ≤ xs.length) (hv : val ys ≤ val xs) : val cs = val xs - val ys := by
  have e := h.eq
  rw [take_of_len (by rw [h.len]; exact Nat.le_refl _), List.take_of_length_le hl, List.take_of_length_le (Nat.le_refl _)] at e
  have h2 := val_lt h.sm
  rw [h.len] at h2
  rcases Nat.eq_zero_or_pos y with h0 | h0
  · rw [h0, Nat.mul_zero] at e; omega
  · have : pw xs.length * 1 ≤ pw xs.length * y := Nat.mul_le_mul_left _ h0
    omega

theorem sgn_add_same (t : Bool) (X Y : Nat) : sgn t (X + Y) = sgn t X + sgn t Y := by cases t <;> simp [sgn] <;> omega
theorem sgn_sub_diff (t u : Bool) (h : t ≠ u) (X Y : Nat) (hl : Y ≤ X) : sgn t (X - Y) = sgn t X + sgn u Y := by cases t <;> cases u <;> simp [sgn] at h ⊢ <;> omega

end Go.Proofs.YthjdnidapbhdlaaDoor

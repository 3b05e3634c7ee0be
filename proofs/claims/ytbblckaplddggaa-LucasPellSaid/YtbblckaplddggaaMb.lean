import Derived.Test.YtbblckaplddggaaMa
namespace Go.Proofs.Ytbblckaplddggaa

/-! words shifted within themselves: k of them are done -/
structure ShAt (xs : List Nat) (s k : Nat) (L : List Nat) : Prop where
  len : L.length = xs.length + 1
  sm : small L
  rest : ∀ j, k < j → L.getD j 0 = 0
  top : L.getD k 0 < 2 ^ s
  eq : val L = val (xs.take k) * 2 ^ s
theorem ShAt.start (xs : List Nat) (s : Nat) : ShAt xs s 0 (List.replicate (xs.length + 1) 0) :=
  ⟨by simp, fun x hx => by have := List.eq_of_mem_replicate hx; omega, fun j _ => getD_replicate _ _, by rw [getD_replicate]; exact two_pos s, by rw [val_replicate]; simp [val]⟩
theorem two_split (s : Nat) (h : s < 32) : 4294967296 = 2 ^ (32 - s) * 2 ^ s := by
  rw [← Nat.pow_add, show 32 - s + s = 32 by omega]
theorem getD_set_eq {L : List Nat} {i v : Nat} (h : i < L.length) : (L.set i v).getD i 0 = v := by
  simp [List.getD_eq_getElem?_getD, h]
theorem ShAt.or_eq {xs L : List Nat} {s k : Nat} (h : ShAt xs s k L) (hs : s < 32) : L.getD k 0 ||| (xs.getD k 0 * 2 ^ s % 4294967296) = L.getD k 0 + xs.getD k 0 * 2 ^ s % 4294967296 := by
  rw [two_split s hs, Nat.mul_mod_mul_right, Nat.or_comm, or_low _ _ _ h.top, Nat.add_comm]
theorem ShAt.low_lt {xs L : List Nat} {s k : Nat} (h : ShAt xs s k L) (hs : s < 32) : L.getD k 0 + xs.getD k 0 * 2 ^ s % 4294967296 < 4294967296 := by
  have h1 := h.top
  have h2 : xs.getD k 0 * 2 ^ s % 4294967296 = (xs.getD k 0 % 2 ^ (32 - s)) * 2 ^ s := by rw [two_split s hs, Nat.mul_mod_mul_right]
  have h3 := Nat.mod_lt (xs.getD k 0) (two_pos (32 - s))
  have h4 : (xs.getD k 0 % 2 ^ (32 - s) + 1) * 2 ^ s ≤ 2 ^ (32 - s) * 2 ^ s := Nat.mul_le_mul_right _ h3
  rw [← two_split s hs, Nat.add_mul, Nat.one_mul] at h4
  omega
theorem ShAt.next {xs L : List Nat} {s k : Nat} (h : ShAt xs s k L) (hx : small xs) (hs : s < 32) (hk : k < xs.length) :
    ShAt xs s (k + 1) ((L.set k (L.getD k 0 + xs.getD k 0 * 2 ^ s % 4294967296)).set (k + 1) (xs.getD k 0 * 2 ^ s / 4294967296)) := by
  have hl := h.len
  have hlow := h.low_lt hs
  have hx1 := small_get hx k
  have h2s := two_pos s
  have hhi : xs.getD k 0 * 2 ^ s / 4294967296 < 2 ^ s := by
    rw [Nat.div_lt_iff_lt_mul (by omega), Nat.mul_comm (2 ^ s)]
    exact Nat.mul_lt_mul_of_pos_right hx1 h2s
  have h231 := two_le hs
  refine ⟨by simp [hl], small_set (small_set h.sm _ _ hlow) _ _ (by omega), fun j hj => ?_, ?_, ?_⟩
  · rw [getD_set_ne (by omega), getD_set_ne (by omega)]; exact h.rest j (by omega)
  · rw [getD_set_eq (by simp; omega)]; exact hhi
  · have e1 := val_set L k (L.getD k 0 + xs.getD k 0 * 2 ^ s % 4294967296) (by omega)
    have e2 := val_set (L.set k (L.getD k 0 + xs.getD k 0 * 2 ^ s % 4294967296)) (k + 1) (xs.getD k 0 * 2 ^ s / 4294967296) (by simp; omega)
    rw [getD_set_ne (by omega), h.rest (k + 1) (by omega), Nat.mul_zero, Nat.add_zero] at e2
    rw [e2]
    have e3 := val_take_step xs k
    rw [e3, Nat.add_mul, ← h.eq]
    have e4 := Nat.div_add_mod (xs.getD k 0 * 2 ^ s) 4294967296
    have e5 : pw k * xs.getD k 0 * 2 ^ s = pw k * (4294967296 * (xs.getD k 0 * 2 ^ s / 4294967296) + xs.getD k 0 * 2 ^ s % 4294967296) := by rw [e4, Nat.mul_assoc]
    rw [e5, Nat.mul_add, pw_succ]
    rw [Nat.mul_add] at e1
    have e6 : pw k * (4294967296 * (xs.getD k 0 * 2 ^ s / 4294967296)) = 4294967296 * pw k * (xs.getD k 0 * 2 ^ s / 4294967296) := by rw [← Nat.mul_assoc, Nat.mul_comm (pw k)]
    omega
theorem ShAt.done {xs L : List Nat} {s : Nat} (h : ShAt xs s xs.length L) : val L = val xs * 2 ^ s := by
  rw [h.eq, List.take_length]

/-! the number of binary digits of a word -/
theorem blen_half' {x : Nat} (h : 0 < x) : blen x = 1 + blen (x / 2) := blen_half (by omega)
end Go.Proofs.Ytbblckaplddggaa

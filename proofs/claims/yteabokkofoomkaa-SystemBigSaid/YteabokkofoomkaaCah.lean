import Derived.Test.YteabokkofoomkaaCaa
namespace Go.Proofs.Yteabokkofoomkaa
structure ShAt (xs : List Nat) (s k : Nat) (L : List Nat) : Prop where
 len : L.length = xs.length + 1
 sm : small L
 rest : ∀ j, k < j → L.getD j 0 = 0
 top : L.getD k 0 < 2 ^ s
 eq : val L = val (xs.take k) * 2 ^ s
theorem ShAt.start (xs : List Nat) (s : Nat) : ShAt xs s 0 (List.replicate (xs.length + 1) 0) :=
 ⟨by simp, fun x hx => by have := List.eq_of_mem_replicate hx; omega, fun j _ => getD_replicate _ _, by rw [getD_replicate]; exact two_pos s, by rw [val_replicate]; simp [val]⟩
theorem two_split (s : Nat) (h : s < 32) : 4294967296 = 2 ^ (32 - s) * 2 ^ s := by
 rw [← Nat.pow_add, show 32 - s + s = 32 by omega]
theorem getD_set_eq {L : List Nat} {i v : Nat} (h : i < L.length) : (L.set i v).getD i 0 = v := by
 simp [List.getD_eq_getElem?_getD, h]
theorem ShAt.or_eq {xs L : List Nat} {s k : Nat} (h : ShAt xs s k L) (hs : s < 32) : L.getD k 0 ||| (xs.getD k 0 * 2 ^ s % 4294967296) = L.getD k 0 + xs.getD k 0 * 2 ^ s % 4294967296 := by
 rw [two_split s hs, Nat.mul_mod_mul_right, Nat.or_comm, or_low _ _ _ h.top, Nat.add_comm]
theorem ShAt.low_lt {xs L : List Nat} {s k : Nat} (h : ShAt xs s k L) (hs : s < 32) : L.getD k 0 + xs.getD k 0 * 2 ^ s % 4294967296 < 4294967296 := by
 have h1 := h.top
 have h2 : xs.getD k 0 * 2 ^ s % 4294967296 = (xs.getD k 0 % 2 ^ (32 - s)) * 2 ^ s := by rw [two_split s hs, Nat.mul_mod_mul_right]
 have h3 := Nat.mod_lt (xs.getD k 0) (two_pos (32 - s))
 have h4 : (xs.getD k 0 % 2 ^ (32 - s) + 1) * 2 ^ s ≤ 2 ^ (32 - s) * 2 ^ s := Nat.mul_le_mul_right _ h3
 rw [← two_split s hs, Nat.add_mul, Nat.one_mul] at h4
 omega
theorem ShAt.next {xs L : List Nat} {s k : Nat} (h : ShAt xs s k L) (hx : small xs) (hs : s < 32) (hk : k < xs.length) :
 ShAt xs s (k + 1) ((L.set k (L.getD k 0 + xs.getD k 0 * 2 ^ s % 4294967296)).set (k + 1) (xs.getD k 0 * 2 ^ s / 4294967296)) := by
 have hl := h.len
 have hlow := h.low_lt hs
 have hx1 := small_get hx k
 have h2s := two_pos s
 have hhi : xs.getD k 0 * 2 ^ s / 4294967296 < 2 ^ s := by
  rw [Nat.div_lt_iff_lt_mul (by omega), Nat.mul_comm (2 ^ s)]
  exact Nat.mul_lt_mul_of_pos_right hx1 h2s
 have h231 := two_le hs
 refine ⟨by simp [hl], small_set (small_set h.sm _ _ hlow) _ _ (by omega), fun j hj => ?_, ?_, ?_⟩
 · rw [getD_set_ne (by omega), getD_set_ne (by omega)]; exact h.rest j (by omega)
 · rw [getD_set_eq (by simp; omega)]; exact hhi
 · have e1 := val_set L k (L.getD k 0 + xs.getD k 0 * 2 ^ s % 4294967296) (by omega)
   have e2 := val_set (L.set k (L.getD k 0 + xs.getD k 0 * 2 ^ s % 4294967296)) (k + 1) (xs.getD k 0 * 2 ^ s / 4294967296) (by simp; omega)
   rw [getD_set_ne (by omega), h.rest (k + 1) (by omega), Nat.mul_zero, Nat.add_zero] at e2
   rw [e2]
   have e3 := val_take_step xs k
   rw [e3, Nat.add_mul, ← h.eq]
   have e4 := Nat.div_add_mod (xs.getD k 0 * 2 ^ s) 4294967296
   have e5 : pw k * xs.getD k 0 * 2 ^ s = pw k * (4294967296 * (xs.getD k 0 * 2 ^ s / 4294967296) + xs.getD k 0 * 2 ^ s % 4294967296) := by rw [e4, Nat.mul_assoc]
   rw [e5, Nat.mul_add, pw_succ]
   rw [Nat.mul_add] at e1
   have e6 : pw k * (4294967296 * (xs.getD k 0 * 2 ^ s / 4294967296)) = 4294967296 * pw k * (xs.getD k 0 * 2 ^ s / 4294967296) := by rw [← Nat.mul_assoc, Nat.mul_comm (pw k)]
   omega
theorem ShAt.done {xs L : List Nat} {s : Nat} (h : ShAt xs s xs.length L) : val L = val xs * 2 ^ s := by
 rw [h.eq, List.take_length]
end Go.Proofs.Yteabokkofoomkaa
namespace Go.Proofs.Yteabokkofoomkaa
structure MulSub (xs ys : List Nat) (F j : Nat) (cs : List Nat) (carry borrow : Nat) : Prop where
 len : cs.length = xs.length
 sm : small cs
 rest : cs.drop j = xs.drop j
 eq : val (cs.take j) + F * val (ys.take j) = val (xs.take j) + pw j * (borrow + carry)
 lt : carry < 4294967296
 bo : borrow ≤ 1
theorem MulSub.start {xs : List Nat} (ys : List Nat) (F : Nat) (h : small xs) : MulSub xs ys F 0 xs 0 0 :=
 ⟨rfl, h, rfl, by simp [val], by omega, by omega⟩
theorem mul_word {F w c : Nat} (hF : F < 4294967296) (hw : w < 4294967296) (hc : c < 4294967296) : F * w + c < 18446744073709551616 := by
 have := mul_word_le hF hw
 omega
theorem MulSub.next {xs ys cs : List Nat} {F j carry borrow : Nat} (h : MulSub xs ys F j cs carry borrow) (hF : F < 4294967296) (hx : small xs) (hy : small ys) (hj : j < ys.length) (hl : ys.length < xs.length) :
 MulSub xs ys F (j + 1) (cs.set j ((xs.getD j 0 + 4294967296 - (F * ys.getD j 0 + carry) % 4294967296 - borrow) % 4294967296)) ((F * ys.getD j 0 + carry) / 4294967296) (if xs.getD j 0 < (F * ys.getD j 0 + carry) % 4294967296 + borrow then 1 else 0) := by
 have hw := small_get hy j
 have hxx := small_get hx j
 have ht := mul_word hF hw h.lt
 have hlen := h.len
 obtain ⟨x, hxd⟩ : ∃ x, x = xs.getD j 0 := ⟨_, rfl⟩
 obtain ⟨w, hwd⟩ : ∃ w, w = ys.getD j 0 := ⟨_, rfl⟩
 rw [← hxd, ← hwd]
 rw [← hxd] at hxx
 rw [← hwd] at hw ht
 obtain ⟨t, htd⟩ : ∃ t, t = F * w + carry := ⟨_, rfl⟩
 rw [← htd]
 rw [← htd] at ht
 obtain ⟨d, hd⟩ : ∃ d, d = (x + 4294967296 - t % 4294967296 - borrow) % 4294967296 := ⟨_, rfl⟩
 obtain ⟨b', hb'⟩ : ∃ b', b' = if x < t % 4294967296 + borrow then 1 else 0 := ⟨_, rfl⟩
 rw [← hd, ← hb']
 have hbo := h.bo
 have key : d + t % 4294967296 + borrow = x + 4294967296 * b' := by
  rw [hd, hb']; split <;> omega
 have hb1 : b' ≤ 1 := by rw [hb']; split <;> omega
 have hd1 : d < 4294967296 := by omega
 refine ⟨by rw [List.length_set]; exact hlen, small_set h.sm _ _ hd1, drop_set_eq h.rest, ?_, by omega, hb1⟩
 have e1 : val ((cs.set j d).take (j + 1)) = val (cs.take j) + pw j * d := by
  rw [val_take_step, getD_set_eq (by omega), List.take_set_of_le (Nat.le_refl _)]
 rw [e1, val_take_step ys, val_take_step xs, ← hwd, ← hxd, Nat.mul_add]
 have e2 := h.eq
 have e3 : F * (pw j * w) + pw j * d + pw j * (borrow + carry) = pw j * x + pw (j + 1) * (b' + t / 4294967296) := by
  have e4 : F * (pw j * w) = pw j * (F * w) := Nat.mul_left_comm F (pw j) w
  rw [e4, pw_succ, Nat.mul_comm 4294967296 (pw j), Nat.mul_assoc (pw j), ← Nat.mul_add, ← Nat.mul_add, ← Nat.mul_add]
  congr 1
  omega
 omega
theorem MulSub.top {xs ys cs : List Nat} {F carry borrow : Nat} (h : MulSub xs ys F ys.length cs carry borrow) (hx : small xs) (hl : xs.length = ys.length + 1) :
 val (cs.set ys.length ((xs.getD ys.length 0 + 4294967296 - carry - borrow) % 4294967296)) + F * val ys = val xs + pw xs.length * (if xs.getD ys.length 0 < carry + borrow then 1 else 0) := by
 have hxx := small_get hx ys.length
 have hlen := h.len
 have hbo := h.bo
 have hlt := h.lt
 obtain ⟨x, hxd⟩ : ∃ x, x = xs.getD ys.length 0 := ⟨_, rfl⟩
 rw [← hxd]
 rw [← hxd] at hxx
 obtain ⟨d, hd⟩ : ∃ d, d = (x + 4294967296 - carry - borrow) % 4294967296 := ⟨_, rfl⟩
 obtain ⟨b', hb'⟩ : ∃ b', b' = if x < carry + borrow then 1 else 0 := ⟨_, rfl⟩
 rw [← hd, ← hb']
 have key : d + carry + borrow = x + 4294967296 * b' := by
  rw [hd, hb']; split <;> omega
 have e1 : val (cs.set ys.length d) = val (cs.take ys.length) + pw ys.length * d := by
  have := val_take_step (cs.set ys.length d) ys.length
  rw [getD_set_eq (by omega), List.take_set_of_le (Nat.le_refl _), List.take_of_length_le (by rw [List.length_set]; omega)] at this
  exact this
 have e2 := h.eq
 rw [List.take_length] at e2
 have e3 := val_take_step xs ys.length
 rw [List.take_of_length_le (by omega), ← hxd] at e3
 rw [e1, hl, pw_succ]
 have e4 : pw ys.length * d + pw ys.length * (borrow + carry) = pw ys.length * x + 4294967296 * pw ys.length * b' := by
  rw [Nat.mul_comm 4294967296, Nat.mul_assoc, ← Nat.mul_add, ← Nat.mul_add]
  congr 1
  omega
 omega
end Go.Proofs.Yteabokkofoomkaa

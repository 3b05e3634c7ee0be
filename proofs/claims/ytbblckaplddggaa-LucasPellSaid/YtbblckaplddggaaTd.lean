import Derived.Test.YtbblckaplddggaaTc
import Derived.Test.YtbblckaplddggaaWg
import Derived.Outline
namespace Go.Proofs.Ytbblckaplddggaa
open Go.RowKit

theorem lz_c (x : Nat) (w : World) (h : x < 4294967296) : Calls Try.prog 108 #[.int .u32 (x : Int)] w fun e w' => e = .returned (.int .i64 ((32 - blen x : Nat) : Int)) ∧ w' = w := by
  have hl := len32_i (x : Int) w (by omega) (by omega)
  rw [Int.toNat_natCast, bitLen_blen x (by omega)] at hl
  have hle := blen_le.2 (show x < 2 ^ 32 by omega)
  have H := Lib.hid hl
  clear hl
  obtain ⟨b, hb⟩ : ∃ b, b = blen x := ⟨_, rfl⟩
  rw [← hb] at H hle ⊢
  clear hb
  go_enter Try.func108, Try.ntmps108
  go_wp2_with fail
  refine H.out.mono ?_
  rintro e w' ⟨rfl, rfl⟩
  go_wp2
  go_ret
  exact ⟨ret_int (by omega), rfl⟩

/-- the greatest word, shifted so that its highest binary digit is 1 -/
theorem norm_word {x : Nat} (h0 : 0 < x) (h1 : x < 4294967296) : 32 - blen x < 32 ∧ 2147483648 ≤ x * 2 ^ (32 - blen x) ∧ x * 2 ^ (32 - blen x) < 4294967296 := by
  have hle := blen_le.2 (show x < 2 ^ 32 by omega)
  have hp := blen_pos (v := x) (by omega)
  have h2 := blen_ge (v := x) (by omega)
  have h3 := blen_lt x
  have e1 : 2 ^ (blen x - 1) * 2 ^ (32 - blen x) = 2147483648 := by rw [← Nat.pow_add, show blen x - 1 + (32 - blen x) = 31 by omega]
  have e2 : 2 ^ blen x * 2 ^ (32 - blen x) = 4294967296 := by rw [← Nat.pow_add, show blen x + (32 - blen x) = 32 by omega]
  have e3 := Nat.mul_le_mul_right (2 ^ (32 - blen x)) h2
  have e4 := Nat.mul_lt_mul_of_pos_right h3 (two_pos (32 - blen x))
  exact ⟨by omega, by omega, by omega⟩
/-- the divisor, shifted: as many words, the first one not less than half -/
theorem norm_div {ys : List Nat} {m : Nat} (hs : small ys) (hl : ys.length = m + 2) (h0 : 0 < ys.getD (m + 1) 0) :
    val ys * 2 ^ (32 - blen (ys.getD (m + 1) 0)) < pw (m + 2) ∧ pw (m + 2) ≤ 2 * (val ys * 2 ^ (32 - blen (ys.getD (m + 1) 0))) := by
  obtain ⟨h1, h2, h3⟩ := norm_word h0 (small_get hs (m + 1))
  have hv := val_take_step ys (m + 1)
  rw [take_of_len (by omega)] at hv
  have ht := val_lt (small_take hs (m + 1))
  rw [List.length_take, hl, Nat.min_eq_left (by omega)] at ht
  have hp := pw_succ (m + 1)
  generalize 32 - blen (ys.getD (m + 1) 0) = s at *
  generalize ys.getD (m + 1) 0 = y at *
  have hs1 := two_pos s
  have e1 : val ys * 2 ^ s = val (ys.take (m + 1)) * 2 ^ s + pw (m + 1) * (y * 2 ^ s) := by rw [hv, Nat.add_mul, Nat.mul_assoc]
  have e2 : val (ys.take (m + 1)) * 2 ^ s < pw (m + 1) * 2 ^ s := Nat.mul_lt_mul_of_pos_right ht hs1
  have e3 : pw (m + 1) * (y * 2 ^ s + 2 ^ s) ≤ pw (m + 1) * 4294967296 := Nat.mul_le_mul_left _ (by
    have : (y + 1) * 2 ^ s ≤ 4294967296 := by
      -- 2^32 is a multiple of 2^s
      have e4 : 4294967296 = 2 ^ (32 - s) * 2 ^ s := two_split s h1
      rw [e4]
      rw [e4] at h3
      exact Nat.mul_le_mul_right _ (Nat.lt_of_mul_lt_mul_right h3)
    rw [Nat.add_mul, Nat.one_mul] at this
    exact this)
  have e5 : pw (m + 1) * 2147483648 ≤ pw (m + 1) * (y * 2 ^ s) := Nat.mul_le_mul_left _ h2
  rw [Nat.mul_add] at e3
  rw [show m + 1 + 1 = m + 2 from rfl] at hp
  exact ⟨by omega, by omega⟩

/-- where the digits from i on are found -/
structure QuoAt (X V N i : Nat) (R Q : List Nat) : Prop where
  rl : R.length = N
  rs : small R
  qs : small Q
  lt : val R < pw i * V
  eq : val R + V * val Q = X
  zero : ∀ j, j < i → Q.getD j 0 = 0
theorem QuoAt.digit {X V N i m : Nat} {R Q : List Nat} (h : QuoAt X V N (i + 1) R Q) (hi : i + (m + 3) ≤ N) (hV : V < pw (m + 2)) :
    val ((R.drop i).take (m + 3)) < 4294967296 * V ∧ val R = val (R.take i) + pw i * val ((R.drop i).take (m + 3)) := by
  have h1 := val_take_drop R i (by rw [h.rl]; omega)
  have h2 : val ((R.drop i).drop (m + 3)) = 0 := by
    rw [List.drop_drop, val_drop h.rs]
    refine Nat.div_eq_of_lt (Nat.lt_of_lt_of_le h.lt ?_)
    rw [show i + (m + 3) = i + 1 + (m + 2) by omega, pw_add (i + 1)]
    exact Nat.mul_le_mul_left _ (Nat.le_of_lt hV)
  have h3 := val_take_drop (R.drop i) (m + 3) (by rw [List.length_drop, h.rl]; omega)
  rw [h2, Nat.mul_zero, Nat.add_zero] at h3
  rw [h3] at h1
  refine ⟨?_, h1⟩
  have h4 := h.lt
  rw [pw_succ, Nat.mul_comm 4294967296, Nat.mul_assoc] at h4
  exact Nat.lt_of_mul_lt_mul_left (Nat.lt_of_le_of_lt (by omega : pw i * val ((R.drop i).take (m + 3)) ≤ val R) h4)
theorem QuoAt.next {X V N i m : Nat} {R Q cs : List Nat} (h : QuoAt X V N (i + 1) R Q) (hi : i + (m + 3) ≤ N) (hV : V < pw (m + 2)) (hV0 : 0 < V) (hq : i < Q.length) (hc : cs.length = m + 3) (hcs : small cs) (hv : val cs = val ((R.drop i).take (m + 3)) % V)
    (hd : val ((R.drop i).take (m + 3)) / V < 4294967296) : QuoAt X V N i (splice R i cs) (Q.set i (val ((R.drop i).take (m + 3)) / V)) := by
  obtain ⟨h1, h2⟩ := h.digit hi hV
  have h3 := val_splice (L := R) (cs := cs) (o := i) (by rw [hc, h.rl]; exact hi)
  rw [hc, hv] at h3
  have h4 := val_set Q i (val ((R.drop i).take (m + 3)) / V) hq
  rw [h.zero i (by omega), Nat.mul_zero, Nat.add_zero] at h4
  have h5 := Nat.div_add_mod (val ((R.drop i).take (m + 3))) V
  have h6 := Nat.mod_lt (val ((R.drop i).take (m + 3))) hV0
  have h7 := val_lt (small_take h.rs i)
  rw [List.length_take, h.rl, Nat.min_eq_left (by omega)] at h7
  have hE := h.eq
  generalize val ((R.drop i).take (m + 3)) = x at *
  generalize x / V = q at *
  generalize x % V = r at *
  have e1 : pw i * x = V * (pw i * q) + pw i * r := by rw [← h5, Nat.mul_add, Nat.mul_left_comm]
  have e2 : pw i * (r + 1) ≤ pw i * V := Nat.mul_le_mul_left _ h6
  rw [Nat.mul_add, Nat.mul_one] at e2
  refine ⟨by rw [splice_len (by rw [hc, h.rl]; exact hi)]; exact h.rl, splice_small h.rs _ hcs, small_set h.qs _ _ hd, by omega, ?_, fun j hj => ?_⟩
  · rw [h4, Nat.mul_add]; omega
  · rw [getD_set_ne (by omega)]; exact h.zero j (by omega)
theorem QuoAt.done {X V N : Nat} {R Q : List Nat} (h : QuoAt X V N 0 R Q) (hV : 0 < V) : val Q = X / V ∧ val R = X % V := by
  have h1 := h.lt
  rw [pw_zero, Nat.one_mul] at h1
  have h2 := h.eq
  have e1 : X / V = val Q := by
    rw [← h2, Nat.add_comm, Nat.mul_add_div hV, Nat.div_eq_of_lt h1, Nat.add_zero]
  have e2 : X % V = val R := by
    rw [← h2, Nat.add_comm, Nat.mul_add_mod, Nat.mod_eq_of_lt h1]
  exact ⟨e1.symm, e2.symm⟩
theorem quo_shift (a b s : Nat) : a * 2 ^ s / (b * 2 ^ s) = a / b ∧ a * 2 ^ s % (b * 2 ^ s) / 2 ^ s = a % b := by
  refine ⟨Nat.mul_div_mul_right a b (two_pos s), ?_⟩
  rw [Nat.mul_mod_mul_right, Nat.mul_div_cancel _ (two_pos s)]
end Go.Proofs.Ytbblckaplddggaa

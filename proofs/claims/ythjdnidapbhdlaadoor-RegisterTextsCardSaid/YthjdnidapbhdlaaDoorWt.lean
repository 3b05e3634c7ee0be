import Derived.Test.YthjdnidapbhdlaaDoorWq
import Derived.Test.YthjdnidapbhdlaaDoorWj
namespace Go.Proofs.YthjdnidapbhdlaaDoor
open Go.RowKit

theorem sgn_mul (s s' : Bool) (X Y : Nat) : sgn (s != s') (X * Y) = sgn s X * sgn s' Y := by
  cases s <;> cases s' <;> simp [sgn, Int.neg_mul, Int.mul_neg, Int.neg_neg]

theorem mul_long {xs ys : List Nat} (cx : canon xs) (cy : canon ys) (hx : 0 < xs.length) (hy : 0 < ys.length) (h : 4096 < xs.length + ys.length - 1) : ¬ (words (val xs * val ys)).length ≤ 4096 := by
  intro h1
  have a : pw (xs.length - 1) ≤ val xs := by
    have := @words_len_lt (val xs) (xs.length - 1)
    rw [words_val cx] at this
    exact this.1 (by omega)
  have b : pw (ys.length - 1) ≤ val ys := by
    have := @words_len_lt (val ys) (ys.length - 1)
    rw [words_val cy] at this
    exact this.1 (by omega)
  have c : pw (xs.length - 1 + (ys.length - 1)) ≤ val xs * val ys := by rw [pw_add]; exact Nat.mul_le_mul a b
  have d := words_len_le.1 h1
  have e := pw_le (show 4096 ≤ xs.length - 1 + (ys.length - 1) by omega)
  omega

end Go.Proofs.YthjdnidapbhdlaaDoor

import Derived.Test.YtmgkgomecakoiaaWc
namespace Go.Proofs.Ytmgkgomecakoiaa
open Go.RowKit

theorem hi_or (a b : Nat) : (a ||| b) / 2147483648 = a / 2147483648 ||| b / 2147483648 := by
  have h := @Nat.shiftRight_or_distrib 31 a b
  simpa [Nat.shiftRight_eq_div_pow] using h
theorem hi_and (a b : Nat) : (a &&& b) / 2147483648 = a / 2147483648 &&& b / 2147483648 := by
  have h := @Nat.shiftRight_and_distrib 31 a b
  simpa [Nat.shiftRight_eq_div_pow] using h
theorem hi_xor (a b : Nat) : (a ^^^ b) / 2147483648 = a / 2147483648 ^^^ b / 2147483648 := by
  have h := @Nat.shiftRight_xor_distrib 31 a b
  simpa [Nat.shiftRight_eq_div_pow] using h
theorem borrow_bit (p q r : Nat) (hp : p < 2) (hq : q < 2) (hr : r < 2) : ((1 ^^^ p) &&& q) ||| ((1 ^^^ (p ^^^ q)) &&& r) = if p < q then 1 else if q < p then 0 else r := by
  have h1 : p = 0 ∨ p = 1 := by omega
  have h2 : q = 0 ∨ q = 1 := by omega
  have h3 : r = 0 ∨ r = 1 := by omega
  rcases h1 with rfl | rfl <;> rcases h2 with rfl | rfl <;> rcases h3 with rfl | rfl <;> rfl
theorem borrow_nat (x y b : Nat) (hx : x < 4294967296) (hy : y < 4294967296) (hb : b ≤ 1) :
    (((4294967295 ^^^ x) &&& y) ||| ((4294967295 ^^^ (x ^^^ y)) &&& ((x + 4294967296 - y - b) % 4294967296))) / 2147483648 = if x < y + b then 1 else 0 := by
  rw [hi_or, hi_and, hi_and, hi_xor, hi_xor, hi_xor]
  rw [show 4294967295 / 2147483648 = 1 from rfl]
  rw [borrow_bit _ _ _ (by omega) (by omega) (by omega)]
  by_cases h : x < y + b
  · rw [if_pos h]
    split
    · rfl
    · split
      · omega
      · omega
  · rw [if_neg h]
    split
    · omega
    · split
      · rfl
      · omega
theorem borrow_int (x y b : Nat) (hx : x < 4294967296) (hy : y < 4294967296) (hb : b ≤ 1) :
    bits BinOp.or IntKind.u32 (bits BinOp.and IntKind.u32 (bits BinOp.xor IntKind.u32 IntKind.u32.max x) y)
      (bits BinOp.and IntKind.u32 (bits BinOp.xor IntKind.u32 IntKind.u32.max (bits BinOp.xor IntKind.u32 x y)) (((x : Int) - y - b) % 4294967296)) / 2147483648 = ((if x < y + b then 1 else 0 : Nat) : Int) := by
  have e : ((x : Int) - y - b) % 4294967296 = (((x + 4294967296 - y - b) % 4294967296 : Nat) : Int) := by omega
  have em : IntKind.u32.max = ((4294967295 : Nat) : Int) := by decide
  have x1 : (4294967295 ^^^ x) < 2 ^ 32 := Nat.xor_lt_two_pow (by omega) (by omega)
  have x2 : (x ^^^ y) < 2 ^ 32 := Nat.xor_lt_two_pow (by omega) (by omega)
  have x3 : (4294967295 ^^^ (x ^^^ y)) < 2 ^ 32 := Nat.xor_lt_two_pow (by omega) x2
  have x4 : ((4294967295 ^^^ x) &&& y) < 2 ^ 32 := Nat.and_lt_two_pow _ (by omega)
  have x5 : ((4294967295 ^^^ (x ^^^ y)) &&& ((x + 4294967296 - y - b) % 4294967296)) < 2 ^ 32 := Nat.and_lt_two_pow _ (by omega)
  rw [e, em, u32_xor_nat _ _ (by omega) hx, u32_and_nat _ _ (by omega) hy, u32_xor_nat _ _ hx hy, u32_xor_nat _ _ (by omega) (by omega), u32_and_nat _ _ (by omega) (by omega), u32_or_nat _ _ (by omega) (by omega)]
  rw [← borrow_nat x y b hx hy hb]
  omega

set_option maxHeartbeats 400000 in
theorem sub32_c (x y b : Nat) (w : World) (hx : x < 4294967296) (hy : y < 4294967296) (hb : b ≤ 1) : Calls Try.prog 89 #[.int .u32 (x : Int), .int .u32 (y : Int), .int .u32 (b : Int)] w fun e w' =>
    e = .returned (.tuple #[.int .u32 (((x + 4294967296 - y - b) % 4294967296 : Nat) : Int), .int .u32 ((if x < y + b then 1 else 0 : Nat) : Int)]) ∧ w' = w := by
  have H1 := Lib.hid (borrow_int x y b hx hy hb)
  have H2 := Lib.hid (show (((x + 4294967296 - y - b) % 4294967296 : Nat) : Int) = ((x : Int) - y - b) % 4294967296 by omega)
  obtain ⟨r, hr⟩ : ∃ r : Int, r = ((if x < y + b then 1 else 0 : Nat) : Int) := ⟨_, rfl⟩
  obtain ⟨d, hd⟩ : ∃ d : Int, d = (((x + 4294967296 - y - b) % 4294967296 : Nat) : Int) := ⟨_, rfl⟩
  rw [← hr] at H1 ⊢
  rw [← hd] at H2 ⊢
  clear hr hd
  go_enter Try.func89, Try.ntmps89
  go_wp2
  go_ret2
  exact ⟨by rw [H2.out, ← H1.out]; rfl, rfl⟩
set_option maxHeartbeats 400000 in
theorem add32_c (x y b : Nat) (w : World) (hx : x < 4294967296) (hy : y < 4294967296) (hb : b ≤ 1) : Calls Try.prog 94 #[.int .u32 (x : Int), .int .u32 (y : Int), .int .u32 (b : Int)] w fun e w' =>
    e = .returned (.tuple #[.int .u32 (((x + y + b) % 4294967296 : Nat) : Int), .int .u32 (((x + y + b) / 4294967296 : Nat) : Int)]) ∧ w' = w := by
  have H1 := Lib.hid (show (((x + y + b) / 4294967296 : Nat) : Int) = ((x : Int) + y + b) / 4294967296 by omega)
  have H2 := Lib.hid (show (((x + y + b) % 4294967296 : Nat) : Int) = ((x : Int) + y + b) % 4294967296 by omega)
  obtain ⟨r, hr⟩ : ∃ r : Int, r = (((x + y + b) / 4294967296 : Nat) : Int) := ⟨_, rfl⟩
  obtain ⟨d, hd⟩ : ∃ d : Int, d = (((x + y + b) % 4294967296 : Nat) : Int) := ⟨_, rfl⟩
  rw [← hr] at H1 ⊢
  rw [← hd] at H2 ⊢
  clear hr hd
  go_enter Try.func94, Try.ntmps94
  go_wp2
  go_ret2
  exact ⟨by rw [H2.out, H1.out]; rfl, rfl⟩
end Go.Proofs.Ytmgkgomecakoiaa

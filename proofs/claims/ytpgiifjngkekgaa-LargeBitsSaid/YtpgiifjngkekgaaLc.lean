import Derived.Test.YtpgiifjngkekgaaLa
import Derived.Test.YtpgiifjngkekgaaVd
namespace Go.Proofs.Ytpgiifjngkekgaa
open Go.RowKit

theorem valid_words {s : Bool} {m : Nat} (h : (words m).length ≤ 4096) (hs : m = 0 → s = false) : validB s (words m) = true := by
  unfold validB
  by_cases h0 : (words m).length = 0
  · rw [if_pos h0, hs (words_nil.1 (List.eq_nil_of_length_eq_zero h0))]; rfl
  · rw [if_neg h0]
    simp only [Bool.and_eq_true, decide_eq_true_eq]
    exact ⟨h, canon_last (words_canon m) (by omega)⟩
theorem words_le2 {m : Nat} (h : m < 18446744073709551616) : (words m).length ≤ 2 := words_len_le.2 (by
  show m < pw 2
  have : pw 2 = 18446744073709551616 := by simp [pw]
  omega)

/-- a number that is not negative, new -/
def OneN (w : World) (n : Nat) (e : Ending) (w' : World) : Prop :=
  ∃ A c, e = .returned (.agg #[.bool false, .slice A (words n).length c]) ∧ Rd w' A (words n).length (words n) ∧ (words n).length ≤ c ∧ c ≤ 9223372036854775807 ∧ Below w.heap.size w w'
theorem of_nat (n : Nat) (w : World) (h : n < 9223372036854775808) : Calls Try.prog 44 #[.int .i64 (n : Int)] w (OneN w n) :=
  (Of_c (n : Int) w (by omega) (by omega)).mono fun e w' h => by
    obtain ⟨A, c, he, h1, h2, h3, h4⟩ := h
    rw [decide_eq_false (by omega)] at he
    exact ⟨A, c, he, h1, h2, h3, h4⟩
theorem under_nat (n m : Nat) (hn : n < 9223372036854775808) (hm : m < 9223372036854775808) (A A' : Option Addr) (c c' : Nat) (w : World) (h : Rd w A (words n).length (words n)) (h' : Rd w A' (words m).length (words m)) :
    Calls Try.prog 34 #[.agg #[.bool false, .slice A (words n).length c], .agg #[.bool false, .slice A' (words m).length c']] w (fun e w' => e = .returned (.tuple #[.bool (decide (n &&& m = n)), .int .i64 0]) ∧ Below w.heap.size w w') := by
  have l1 := words_le2 (m := n) (by omega)
  have l2 := words_le2 (m := m) (by omega)
  have := Under_ok A A' _ c _ c' (words n) (words m) w h h' (valid_words (by omega) (fun _ => rfl)) (valid_words (by omega) (fun _ => rfl))
  rw [val_words, val_words] at this
  exact this

theorem odd_eq (m n : Nat) : (decide (n ≤ m) && par m n) = decide (n &&& m = n) := by
  by_cases h : n ≤ m
  · rw [decide_eq_true h]; rfl
  · rw [decide_eq_false h, Bool.false_and, ← show par m n = decide (n &&& m = n) from rfl, par_le (by omega)]

set_option maxHeartbeats 1000000 in
set_option maxRecDepth 100000 in
theorem LargeUnder_c (x y n m : Nat) (hx : x < 65536) (hy : y < 65536) (e1 : (x : Int) % 601 = (n : Int)) (e2 : (y : Int) % 601 = (m : Int)) (w : World) :
    Calls Try.prog 9 #[.int .u16 (x : Int), .int .u16 (y : Int)] w fun e w' => e = .returned (.bool true) ∧ Below w.heap.size w w' := by
  have hn : n < 601 := by omega
  have hm : m < 601 := by omega
  have P1 := Lib.hid (Below.refl w.heap.size w)
  go_enter Try.func9, Try.ntmps9
  go_wp2_with fail
  refine (of_nat n _ (by omega)).mono ?_
  rintro e w1 ⟨A1, c1, rfl, r1, -, -, b1⟩
  have P2 := Lib.hid (P1.out.trans b1)
  go_wp2_with fail
  refine (of_nat m _ (by omega)).mono ?_
  rintro e w2 ⟨A2, c2, rfl, r2, -, -, b2⟩
  have P3 := Lib.hid (P2.out.trans (b2.mono P2.out.size))
  go_wp2_with fail
  refine (under_nat n m (by omega) (by omega) A1 A2 c1 c2 w2 (r1.below b2) r2).mono ?_
  rintro e w3 ⟨rfl, b3⟩
  have P4 := Lib.hid (P3.out.trans (b3.mono P3.out.size))
  clear r1 r2 b1 b2 b3
  go_wp2_with fail
  refine (odd_c m n (by omega) (by omega) w3).mono ?_
  rintro e w4 ⟨rfl, b4⟩
  have P5 := Lib.hid (P4.out.trans (b4.mono P4.out.size))
  clear b4
  rw [odd_eq]
  by_cases hnm : m < n
  · rw [show decide (n &&& m = n) = false from by rw [← odd_eq, decide_eq_false (by omega)]; rfl]
    go_wp2_with fail
    refine (awake_c w4).mono ?_
    rintro e w5 ⟨rfl, b5⟩
    have P6 := Lib.hid (P5.out.trans (b5.mono P5.out.size))
    clear b5
    go_wp2
    go_ret
    exact ⟨rfl, P6.out⟩
  · obtain ⟨d, hmd⟩ : ∃ d, m = n + d := ⟨m - n, by omega⟩
    have HU := Lib.hid (show n &&& m = n ↔ n &&& d = 0 by rw [hmd]; exact under_sum n d)
    have HV := Lib.hid (show d &&& m = d ↔ n &&& d = 0 by rw [hmd, Nat.add_comm, Nat.and_comm n d]; exact under_sum d n)
    have hd : (m : Int) - (n : Int) = (d : Int) := by omega
    have hd2 : d < 601 := by omega
    clear hmd
    obtain ⟨u, hu⟩ : ∃ u, u = decide (n &&& m = n) := ⟨_, rfl⟩
    rw [← hu]
    have U1 := Lib.hid hu
    have hand := i64_and n d (by omega) (by omega)
    clear hu
    go_wp2_with fail
    refine (of_nat d _ (by omega)).mono ?_
    rintro e w5 ⟨A1, c1, rfl, r1, -, -, b1⟩
    have P6 := Lib.hid (P5.out.trans (b1.mono P5.out.size))
    go_wp2_with fail
    refine (of_nat m _ (by omega)).mono ?_
    rintro e w6 ⟨A2, c2, rfl, r2, -, -, b2⟩
    have P7 := Lib.hid (P6.out.trans (b2.mono P6.out.size))
    go_wp2_with fail
    refine (under_nat d m (by omega) (by omega) A1 A2 c1 c2 w6 (r1.below b2) r2).mono ?_
    rintro e w7 ⟨rfl, b3⟩
    have P8 := Lib.hid (P7.out.trans (b3.mono P7.out.size))
    clear r1 r2 b1 b2 b3
    rw [show decide (d &&& m = d) = u from by
      rw [U1.out, decide_eq_decide, HV.out, HU.out]]
    have E2 : (((n &&& d : Nat) : Int) == 0) = u := by
      rw [U1.out, Bool.eq_iff_iff, beq_iff_eq, decide_eq_true_eq, HU.out]; omega
    have E3 : (u == u) = true := by simp
    clear U1
    go_wp2_with fail
    refine (awake_c w7).mono ?_
    rintro e w8 ⟨rfl, b8⟩
    have P9 := Lib.hid (P8.out.trans (b8.mono P8.out.size))
    clear b8
    go_wp2
    go_ret
    exact ⟨rfl, P9.out⟩
end Go.Proofs.Ytpgiifjngkekgaa

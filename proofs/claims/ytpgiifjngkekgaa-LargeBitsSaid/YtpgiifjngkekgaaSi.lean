import Derived.Test.YtpgiifjngkekgaaSh
namespace Go.Proofs.Ytpgiifjngkekgaa
open Go.RowKit

theorem light1_c (most g : Nat) (s1 : Bool) (A1 : Option Addr) (n1 c1 : Nat) (xs1 : List Nat) (w : World) (h1 : Rd w A1 n1 xs1) (hg : g < w.heap.size)
    (a0 : w.cell? ⟨g, 0, none⟩ = some (.bool s1)) (a1 : w.cell? ⟨g, 1, none⟩ = some (.slice A1 n1 c1)) :
    Calls Try.prog 40 #[.int .i64 (most : Int), .slice (some ⟨g, 0, none⟩) 1 1] w fun e w' => e = .returned (.bool (decide (n1 ≤ most ∧ validB s1 xs1 = true))) ∧ Below w.heap.size w w' := by
  have H : Numbers w g 1 (fun _ => s1) (fun _ => A1) (fun _ => n1) (fun _ => c1) (fun _ => xs1) := by
    refine ⟨hg, ?_, ?_, ?_⟩ <;> intro i hi <;> obtain rfl : i = 0 := by omega
    all_goals assumption
  refine (light_c most g 1 _ _ _ _ _ w H (by omega)).mono ?_
  rintro e w' ⟨rfl, hb⟩
  refine ⟨?_, hb⟩
  congr 2
  rw [decide_eq_decide]
  exact ⟨fun h => h 0 (by omega), fun h i _ => h⟩

theorem Power_i {w : World} {z : Int} {t : Bool} {A : Option Addr} {n c k : Nat} (h : Is w z t A n c) (hz : Sz z k) (hk : k ≤ 4096) (K : Int) (h0 : 0 ≤ K) (h1 : K < 9223372036854775808) :
    Calls Try.prog 32 #[.agg #[.bool t, .slice A n c], .int .i64 K] w (Num w (z ^ K.toNat)) := by
  obtain ⟨m, rfl⟩ := Int.eq_ofNat_of_zero_le h0
  exact Power_is h (Nat.le_trans (h.len hz) hk) m (by omega)
theorem Shift_i {w : World} {z : Int} {t : Bool} {A : Option Addr} {n c k : Nat} (h : Is w z t A n c) (hz : Sz z k) (hk : k ≤ 4096) (K : Int) :
    Calls Try.prog 33 #[.agg #[.bool t, .slice A n c], .int .i64 K] w (Num w (shl z K)) :=
  Shift_is h (Nat.le_trans (h.len hz) hk) K

theorem Sz.pow {z : Int} {p : Nat} (h : Sz z p) (k : Nat) : Sz (z ^ k) (p * k + 1) := by
  show (z ^ k).natAbs < pw (p * k + 1)
  rw [Int.natAbs_pow]
  have h1 : z.natAbs ^ k ≤ pw p ^ k := Nat.pow_le_pow_left (Nat.le_of_lt h) k
  have h2 : pw p ^ k = pw (p * k) := by unfold pw; rw [← Nat.pow_mul]
  have h3 := pw_succ (p * k)
  have h4 := pw_pos (p * k)
  omega
theorem Sz.shl {z : Int} {p : Nat} (h : Sz z p) {K : Int} (h0 : 0 ≤ K) {q : Nat} (hq : K.toNat < 32 * q) : Sz (shl z K) (p + q) := by
  unfold Proofs.Ytpgiifjngkekgaa.shl
  rw [if_pos h0]
  refine Sz.mul h ?_
  show ((2 ^ K.toNat : Nat) : Int).natAbs < pw q
  rw [Int.natAbs_natCast, pw_two]
  exact Nat.pow_lt_pow_right (by omega) hq

theorem powers_1 (a m n : Int) (m0 : 0 ≤ m) (n0 : 0 ≤ n) : a ^ m.toNat * a ^ n.toNat = a ^ (m + n).toNat := by
  rw [← Int.pow_add]; congr 1; omega
theorem shl_pos (z : Int) {k : Int} (h : 0 ≤ k) : shl z k = z * 2 ^ k.toNat := by
  unfold shl; rw [if_pos h, Int.natCast_pow]; rfl
theorem powers_2 (a m n : Int) (m0 : 0 ≤ m) (n0 : 0 ≤ n) : shl (shl a (7 * m)) (11 * n) = shl a (7 * m + 11 * n) := by
  rw [shl_pos _ (by omega), shl_pos _ (by omega), shl_pos _ (by omega), Int.mul_assoc, ← Int.pow_add]; congr 2; omega
theorem powers_3 (a m n : Int) (m0 : 0 ≤ m) (n0 : 0 ≤ n) : shl a (7 * m + 11 * n) = a * 2 ^ (7 * m + 11 * n).toNat := shl_pos _ (by omega)
theorem powers_4 (s n : Int) (n0 : 0 ≤ n) : shl (shl s (11 * n)) (-11 * n) = s := by
  rcases Int.lt_or_le 0 n with h | h
  · rw [show shl s (11 * n) = s * 2 ^ (11 * n).toNat from shl_pos s (by omega)]
    unfold shl
    rw [if_neg (by omega), show (-(-11 * n)).toNat = (11 * n).toNat by omega, Int.natCast_pow]
    exact Int.mul_ediv_cancel _ (Int.ne_of_gt (Int.pow_pos (by decide)))
  · obtain rfl : n = 0 := by omega
    simp [shl]

set_option maxHeartbeats 4000000 in
set_option maxRecDepth 100000 in
theorem LargePowers_c (s1 : Bool) (A1 : Option Addr) (n1 c1 : Nat) (xs1 : List Nat) (m n : Int) (w : World) (h1 : Rd w A1 n1 xs1) (k1 : n1 ≤ c1) (e1 : c1 ≤ 9223372036854775807) (m0 : 0 ≤ m) (m1 : m ≤ 255) (n0 : 0 ≤ n) (n1' : n ≤ 255) :
    Calls Try.prog 8 #[.agg #[.bool s1, .slice A1 n1 c1], .int .u8 m, .int .u8 n] w fun e w' => e = .returned (.bool true) ∧ Below w.heap.size w w' := by
  have HB := Lib.hid (((Below.refl w.heap.size w).alloc (Nat.le_refl _) (.cells #[.bool s1, .slice A1 n1 c1] 24)).alloc (by simp) (.cells #[.bool s1, .slice A1 n1 c1] 24))
  have HK := Lib.hid (And.intro k1 e1)
  have R1 := Lib.hid h1
  clear h1 k1 e1
  go_enter Try.func8, Try.ntmps8
  go_wp2_with fail
  refine (light1_c 60 (w.heap.size + 1) s1 A1 n1 c1 xs1 _ (R1.out.below HB.out) (by simp) (by go_simp) (by go_simp)).mono ?_
  rintro e w0 ⟨rfl, hb⟩
  have P := Lib.hid (HB.out.trans (hb.mono HB.out.size))
  by_cases hL : n1 ≤ 60 ∧ validB s1 xs1 = true
  · rw [decide_eq_true hL]
    obtain ⟨l1, v1⟩ := hL
    by_cases hm : 20 < m
    · clear HB HK R1 hb
      go_wp2_with fail
      refine (awake_c _).mono ?_
      rintro e w9 ⟨rfl, hb⟩
      replace P := Lib.hid (P.out.trans (hb.mono P.out.size))
      clear hb
      go_wp2
      go_ret
      exact ⟨rfl, P.out⟩
    · by_cases hn : 20 < n
      · clear HB HK R1 hb
        go_wp2_with fail
        refine (awake_c _).mono ?_
        rintro e w9 ⟨rfl, hb⟩
        replace P := Lib.hid (P.out.trans (hb.mono P.out.size))
        clear hb
        go_wp2
        go_ret
        exact ⟨rfl, P.out⟩
      · have I1 := Is.of_valid (R1.out.below HB.out) v1 HK.out.1 HK.out.2
        have a0 := sz_valid (s := s1) R1.out l1
        generalize sgn s1 (val xs1) = a at a0 I1
        have H_a := Lib.hid ((Box.mk (b := w.heap.size) (by simp; omega) (by go_simp) (by go_simp) I1).next hb)
        have S_a : Hid (Sz a 4096) := Lib.hid (a0.le (by omega))
        have S_x : Hid (Sz (a ^ m.toNat) 4096) := Lib.hid ((a0.pow _).le (by omega))
        have S_y : Hid (Sz (a ^ n.toNat) 4096) := Lib.hid ((a0.pow _).le (by omega))
        have S_z : Hid (Sz (a ^ (m + n).toNat) 4096) := Lib.hid ((a0.pow _).le (by omega))
        have S_xy : Hid (Sz (a ^ m.toNat * a ^ n.toNat) 4096) := Lib.hid (((a0.pow _).mul (a0.pow _)).le (by omega))
        have S_s : Hid (Sz (shl a (7 * m)) 4096) := Lib.hid ((a0.shl (q := 20) (by omega) (by omega)).le (by omega))
        have S_t : Hid (Sz (shl (shl a (7 * m)) (11 * n)) 4096) := Lib.hid (((a0.shl (q := 20) (by omega) (by omega)).shl (q := 20) (by omega) (by omega)).le (by omega))
        have S_u : Hid (Sz (shl a (7 * m + 11 * n)) 4096) := Lib.hid ((a0.shl (q := 20) (by omega) (by omega)).le (by omega))
        have S_2 : Hid (Sz 2 4096) := Lib.hid (show (2 : Int).natAbs < pw 4096 from Nat.lt_of_lt_of_le (show 2 < pw 1 by rw [pw_one]; omega) (pw_le (by omega)))
        have two0 : Sz 2 1 := show (2 : Int).natAbs < pw 1 by rw [pw_one]; decide
        have S_two : Hid (Sz (2 ^ (7 * m + 11 * n).toNat) 4096) := Lib.hid ((two0.pow _).le (by omega))
        have S_v : Hid (Sz (a * 2 ^ (7 * m + 11 * n).toNat) 4096) := Lib.hid ((a0.mul (two0.pow _)).le (by omega))
        have E1 := Lib.hid (powers_1 a m n m0 n0)
        have E2 := Lib.hid (powers_2 a m n m0 n0)
        have E3 := Lib.hid (powers_3 a m n m0 n0)
        have E4 := Lib.hid (powers_4 (shl a (7 * m)) n n0)
        have S_back : Hid (Sz (shl (shl (shl a (7 * m)) (11 * n)) (-11 * n)) 4096) := Lib.hid (by rw [E4.out]; exact S_s.out)
        clear a0 I1 l1 v1 R1 HK HB hb two0
        have f0_a := H_a.out.c0
        have f1_a := H_a.out.c1
        go_wp2_with fail
        clear f0_a f1_a
        refine (Power_i (k := 4096) H_a.out.is S_a.out (Nat.le_refl _) m m0 (by omega)).mono ?_
        rintro e w_x ⟨t_x, B_x, m_x, d_x, k_x, rfl, hn, hb⟩
        obtain ⟨rfl, hi⟩ := hn.is_ S_x.out.len
        replace H_a := Lib.hid ((H_a.out.next hb).alloc (.cells #[.bool t_x, .slice B_x m_x d_x] 24))
        have H_x := Lib.hid (Box.new hi)
        replace P := Lib.hid ((P.out.trans (hb.mono P.out.size)).alloc (Nat.le_trans P.out.size hb.size) (.cells #[.bool t_x, .slice B_x m_x d_x] 24))
        clear hi hb hn
        have f0_a := H_a.out.c0
        have f1_a := H_a.out.c1
        go_wp2_with fail
        clear f0_a f1_a
        generalize w_x.alloc (.cells #[.bool t_x, .slice B_x m_x d_x] 24) = v_x at H_a H_x P ⊢
        refine (Power_i (k := 4096) H_a.out.is S_a.out (Nat.le_refl _) n n0 (by omega)).mono ?_
        rintro e w_y ⟨t_y, B_y, m_y, d_y, k_y, rfl, hn, hb⟩
        obtain ⟨rfl, hi⟩ := hn.is_ S_y.out.len
        replace H_a := Lib.hid ((H_a.out.next hb).alloc (.cells #[.bool t_y, .slice B_y m_y d_y] 24))
        replace H_x := Lib.hid ((H_x.out.next hb).alloc (.cells #[.bool t_y, .slice B_y m_y d_y] 24))
        have H_y := Lib.hid (Box.new hi)
        replace P := Lib.hid ((P.out.trans (hb.mono P.out.size)).alloc (Nat.le_trans P.out.size hb.size) (.cells #[.bool t_y, .slice B_y m_y d_y] 24))
        clear hi hb hn
        have f0_a := H_a.out.c0
        have f1_a := H_a.out.c1
        go_wp2_with fail
        clear f0_a f1_a
        generalize w_y.alloc (.cells #[.bool t_y, .slice B_y m_y d_y] 24) = v_y at H_a H_x H_y P ⊢
        refine (Power_i (k := 4096) H_a.out.is S_a.out (Nat.le_refl _) (m + n) (by omega) (by omega)).mono ?_
        rintro e w_z ⟨t_z, B_z, m_z, d_z, k_z, rfl, hn, hb⟩
        obtain ⟨rfl, hi⟩ := hn.is_ S_z.out.len
        replace H_a := Lib.hid ((H_a.out.next hb).alloc (.cells #[.bool t_z, .slice B_z m_z d_z] 24))
        replace H_x := Lib.hid ((H_x.out.next hb).alloc (.cells #[.bool t_z, .slice B_z m_z d_z] 24))
        replace H_y := Lib.hid ((H_y.out.next hb).alloc (.cells #[.bool t_z, .slice B_z m_z d_z] 24))
        have H_z := Lib.hid (Box.new hi)
        replace P := Lib.hid ((P.out.trans (hb.mono P.out.size)).alloc (Nat.le_trans P.out.size hb.size) (.cells #[.bool t_z, .slice B_z m_z d_z] 24))
        clear hi hb hn
        have f0_x := H_x.out.c0
        have f1_x := H_x.out.c1
        have f0_y := H_y.out.c0
        have f1_y := H_y.out.c1
        go_wp2_with fail
        clear f0_x f1_x f0_y f1_y
        generalize w_z.alloc (.cells #[.bool t_z, .slice B_z m_z d_z] 24) = v_z at H_a H_x H_y H_z P ⊢
        refine (mul_is (k := 4096) H_x.out.is H_y.out.is S_x.out S_y.out (Nat.le_refl _) S_xy.out).mono ?_
        rintro e w_xy ⟨t_xy, B_xy, m_xy, d_xy, rfl, hi, hb⟩
        clear H_x
        clear H_y
        replace H_a := Lib.hid ((H_a.out.next hb).alloc (.cells #[.bool t_xy, .slice B_xy m_xy d_xy] 24))
        replace H_z := Lib.hid ((H_z.out.next hb).alloc (.cells #[.bool t_xy, .slice B_xy m_xy d_xy] 24))
        have H_xy := Lib.hid (Box.new hi)
        replace P := Lib.hid ((P.out.trans (hb.mono P.out.size)).alloc (Nat.le_trans P.out.size hb.size) (.cells #[.bool t_xy, .slice B_xy m_xy d_xy] 24))
        clear hi hb
        have f0_xy := H_xy.out.c0
        have f1_xy := H_xy.out.c1
        have f0_z := H_z.out.c0
        have f1_z := H_z.out.c1
        go_wp2_with fail
        clear f0_xy f1_xy f0_z f1_z
        generalize w_xy.alloc (.cells #[.bool t_xy, .slice B_xy m_xy d_xy] 24) = v_xy at H_a H_z H_xy P ⊢
        refine (same_eq (k := 4096) H_xy.out.is H_z.out.is S_xy.out (Nat.le_refl _) E1.out).mono ?_
        clear H_xy
        clear H_z
        rintro e x1 ⟨rfl, hb⟩
        replace H_a := Lib.hid (H_a.out.next hb)
        replace P := Lib.hid (P.out.trans (hb.mono P.out.size))
        clear hb
        have f0_a := H_a.out.c0
        have f1_a := H_a.out.c1
        go_wp2_with fail
        clear f0_a f1_a
        refine (Shift_i (k := 4096) H_a.out.is S_a.out (Nat.le_refl _) (7 * m)).mono ?_
        rintro e w_s ⟨t_s, B_s, m_s, d_s, k_s, rfl, hn, hb⟩
        obtain ⟨rfl, hi⟩ := hn.is_ S_s.out.len
        replace H_a := Lib.hid ((H_a.out.next hb).alloc (.cells #[.bool t_s, .slice B_s m_s d_s] 24))
        have H_s := Lib.hid (Box.new hi)
        replace P := Lib.hid ((P.out.trans (hb.mono P.out.size)).alloc (Nat.le_trans P.out.size hb.size) (.cells #[.bool t_s, .slice B_s m_s d_s] 24))
        clear hi hb hn
        have f0_s := H_s.out.c0
        have f1_s := H_s.out.c1
        go_wp2_with fail
        clear f0_s f1_s
        generalize w_s.alloc (.cells #[.bool t_s, .slice B_s m_s d_s] 24) = v_s at H_a H_s P ⊢
        refine (Shift_i (k := 4096) H_s.out.is S_s.out (Nat.le_refl _) (11 * n)).mono ?_
        rintro e w_t ⟨t_t, B_t, m_t, d_t, k_t, rfl, hn, hb⟩
        obtain ⟨rfl, hi⟩ := hn.is_ S_t.out.len
        replace H_a := Lib.hid ((H_a.out.next hb).alloc (.cells #[.bool t_t, .slice B_t m_t d_t] 24))
        replace H_s := Lib.hid ((H_s.out.next hb).alloc (.cells #[.bool t_t, .slice B_t m_t d_t] 24))
        have H_t := Lib.hid (Box.new hi)
        replace P := Lib.hid ((P.out.trans (hb.mono P.out.size)).alloc (Nat.le_trans P.out.size hb.size) (.cells #[.bool t_t, .slice B_t m_t d_t] 24))
        clear hi hb hn
        have f0_a := H_a.out.c0
        have f1_a := H_a.out.c1
        go_wp2_with fail
        clear f0_a f1_a
        generalize w_t.alloc (.cells #[.bool t_t, .slice B_t m_t d_t] 24) = v_t at H_a H_s H_t P ⊢
        refine (Shift_i (k := 4096) H_a.out.is S_a.out (Nat.le_refl _) (7 * m + 11 * n)).mono ?_
        rintro e w_u ⟨t_u, B_u, m_u, d_u, k_u, rfl, hn, hb⟩
        obtain ⟨rfl, hi⟩ := hn.is_ S_u.out.len
        replace H_a := Lib.hid ((H_a.out.next hb).alloc (.cells #[.bool t_u, .slice B_u m_u d_u] 24))
        replace H_s := Lib.hid ((H_s.out.next hb).alloc (.cells #[.bool t_u, .slice B_u m_u d_u] 24))
        replace H_t := Lib.hid ((H_t.out.next hb).alloc (.cells #[.bool t_u, .slice B_u m_u d_u] 24))
        have H_u := Lib.hid (Box.new hi)
        replace P := Lib.hid ((P.out.trans (hb.mono P.out.size)).alloc (Nat.le_trans P.out.size hb.size) (.cells #[.bool t_u, .slice B_u m_u d_u] 24))
        clear hi hb hn
        go_wp2_with fail
        generalize w_u.alloc (.cells #[.bool t_u, .slice B_u m_u d_u] 24) = v_u at H_a H_s H_t H_u P ⊢
        refine (of_nat 2 _ (by omega)).mono ?_
        rintro e w2 ⟨B0, d0, rfl, o1, o2, o3, o4⟩
        replace H_a := Lib.hid (H_a.out.next o4)
        replace H_s := Lib.hid (H_s.out.next o4)
        replace H_t := Lib.hid (H_t.out.next o4)
        replace H_u := Lib.hid (H_u.out.next o4)
        replace P := Lib.hid (P.out.trans (o4.mono P.out.size))
        have I2 := Lib.hid (show Is w2 2 false B0 (words 2).length d0 from ⟨rfl, rfl, o1, o2, o3⟩)
        clear o1 o2 o3 o4
        go_wp2_with fail
        refine (Power_i (k := 4096) I2.out S_2.out (Nat.le_refl _) (7 * m + 11 * n) (by omega) (by omega)).mono ?_
        rintro e w_two ⟨t_two, B_two, m_two, d_two, k_two, rfl, hn, hb⟩
        obtain ⟨rfl, hi⟩ := hn.is_ S_two.out.len
        replace H_a := Lib.hid ((H_a.out.next hb).alloc (.cells #[.bool t_two, .slice B_two m_two d_two] 24))
        replace H_s := Lib.hid ((H_s.out.next hb).alloc (.cells #[.bool t_two, .slice B_two m_two d_two] 24))
        replace H_t := Lib.hid ((H_t.out.next hb).alloc (.cells #[.bool t_two, .slice B_two m_two d_two] 24))
        replace H_u := Lib.hid ((H_u.out.next hb).alloc (.cells #[.bool t_two, .slice B_two m_two d_two] 24))
        have H_two := Lib.hid (Box.new hi)
        replace P := Lib.hid ((P.out.trans (hb.mono P.out.size)).alloc (Nat.le_trans P.out.size hb.size) (.cells #[.bool t_two, .slice B_two m_two d_two] 24))
        clear hi hb hn
        have f0_a := H_a.out.c0
        have f1_a := H_a.out.c1
        have f0_two := H_two.out.c0
        have f1_two := H_two.out.c1
        go_wp2_with fail
        clear f0_a f1_a f0_two f1_two
        generalize w_two.alloc (.cells #[.bool t_two, .slice B_two m_two d_two] 24) = v_two at H_a H_s H_t H_u H_two P ⊢
        refine (mul_is (k := 4096) H_a.out.is H_two.out.is S_a.out S_two.out (Nat.le_refl _) S_v.out).mono ?_
        rintro e w_v ⟨t_v, B_v, m_v, d_v, rfl, hi, hb⟩
        clear H_a
        clear H_two
        replace H_s := Lib.hid ((H_s.out.next hb).alloc (.cells #[.bool t_v, .slice B_v m_v d_v] 24))
        replace H_t := Lib.hid ((H_t.out.next hb).alloc (.cells #[.bool t_v, .slice B_v m_v d_v] 24))
        replace H_u := Lib.hid ((H_u.out.next hb).alloc (.cells #[.bool t_v, .slice B_v m_v d_v] 24))
        have H_v := Lib.hid (Box.new hi)
        replace P := Lib.hid ((P.out.trans (hb.mono P.out.size)).alloc (Nat.le_trans P.out.size hb.size) (.cells #[.bool t_v, .slice B_v m_v d_v] 24))
        clear hi hb
        have f0_t := H_t.out.c0
        have f1_t := H_t.out.c1
        go_wp2_with fail
        clear f0_t f1_t
        generalize w_v.alloc (.cells #[.bool t_v, .slice B_v m_v d_v] 24) = v_v at H_s H_t H_u H_v P ⊢
        refine (Shift_i (k := 4096) H_t.out.is S_t.out (Nat.le_refl _) (-11 * n)).mono ?_
        rintro e w_back ⟨t_back, B_back, m_back, d_back, k_back, rfl, hn, hb⟩
        obtain ⟨rfl, hi⟩ := hn.is_ S_back.out.len
        replace H_s := Lib.hid ((H_s.out.next hb).alloc (.cells #[.bool t_back, .slice B_back m_back d_back] 24))
        replace H_t := Lib.hid ((H_t.out.next hb).alloc (.cells #[.bool t_back, .slice B_back m_back d_back] 24))
        replace H_u := Lib.hid ((H_u.out.next hb).alloc (.cells #[.bool t_back, .slice B_back m_back d_back] 24))
        replace H_v := Lib.hid ((H_v.out.next hb).alloc (.cells #[.bool t_back, .slice B_back m_back d_back] 24))
        have H_back := Lib.hid (Box.new hi)
        replace P := Lib.hid ((P.out.trans (hb.mono P.out.size)).alloc (Nat.le_trans P.out.size hb.size) (.cells #[.bool t_back, .slice B_back m_back d_back] 24))
        clear hi hb hn
        have f0_t := H_t.out.c0
        have f1_t := H_t.out.c1
        have f0_u := H_u.out.c0
        have f1_u := H_u.out.c1
        go_wp2_with fail
        clear f0_t f1_t f0_u f1_u
        generalize w_back.alloc (.cells #[.bool t_back, .slice B_back m_back d_back] 24) = v_back at H_s H_t H_u H_v H_back P ⊢
        refine (same_eq (k := 4096) H_t.out.is H_u.out.is S_t.out (Nat.le_refl _) E2.out).mono ?_
        clear H_t
        rintro e x2 ⟨rfl, hb⟩
        replace H_s := Lib.hid (H_s.out.next hb)
        replace H_u := Lib.hid (H_u.out.next hb)
        replace H_v := Lib.hid (H_v.out.next hb)
        replace H_back := Lib.hid (H_back.out.next hb)
        replace P := Lib.hid (P.out.trans (hb.mono P.out.size))
        clear hb
        have f0_u := H_u.out.c0
        have f1_u := H_u.out.c1
        have f0_v := H_v.out.c0
        have f1_v := H_v.out.c1
        go_wp2_with fail
        clear f0_u f1_u f0_v f1_v
        refine (same_eq (k := 4096) H_u.out.is H_v.out.is S_u.out (Nat.le_refl _) E3.out).mono ?_
        clear H_u
        clear H_v
        rintro e x3 ⟨rfl, hb⟩
        replace H_s := Lib.hid (H_s.out.next hb)
        replace H_back := Lib.hid (H_back.out.next hb)
        replace P := Lib.hid (P.out.trans (hb.mono P.out.size))
        clear hb
        have f0_back := H_back.out.c0
        have f1_back := H_back.out.c1
        have f0_s := H_s.out.c0
        have f1_s := H_s.out.c1
        go_wp2_with fail
        clear f0_back f1_back f0_s f1_s
        refine (same_eq (k := 4096) H_back.out.is H_s.out.is S_back.out (Nat.le_refl _) E4.out).mono ?_
        clear H_back
        clear H_s
        rintro e x4 ⟨rfl, hb⟩
        replace P := Lib.hid (P.out.trans (hb.mono P.out.size))
        clear hb
        go_wp2_with fail
        refine (awake_c _).mono ?_
        rintro e x5 ⟨rfl, hb⟩
        replace P := Lib.hid (P.out.trans (hb.mono P.out.size))
        clear hb
        go_wp2
        go_ret
        exact ⟨rfl, P.out⟩
  · rw [decide_eq_false hL]
    clear HB HK R1 hb hL
    go_wp2_with fail
    refine (awake_c _).mono ?_
    rintro e w9 ⟨rfl, hb⟩
    replace P := Lib.hid (P.out.trans (hb.mono P.out.size))
    clear hb
    go_wp2
    go_ret
    exact ⟨rfl, P.out⟩

theorem wf_u8 {z : Int} (h : (Lit.int .u8 z).wf = true) : 0 ≤ z ∧ z ≤ 255 := by
  simp only [Lit.wf, Bool.and_eq_true, decide_eq_true_eq] at h
  have h1 : IntKind.min .u8 = 0 := rfl
  have h2 : IntKind.max .u8 = 255 := rfl
  omega
end Go.Proofs.Ytpgiifjngkekgaa

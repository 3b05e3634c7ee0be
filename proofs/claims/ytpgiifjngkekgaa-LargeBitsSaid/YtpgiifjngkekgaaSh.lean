import Derived.Test.YtpgiifjngkekgaaSg
namespace Go.Proofs.Ytpgiifjngkekgaa
open Go.RowKit

set_option maxHeartbeats 1000000 in
set_option maxRecDepth 100000 in
/-- powers of 0, 1 and -1 -/
theorem Power_one {w : World} {z : Int} {t : Bool} {A : Option Addr} {n c : Nat} (h : Is w z t A n c) (hn : n ≤ 4096) (u : Bool) (hz : blen z.natAbs ≤ 1) (k : Nat) (hk0 : 0 < k) (hk : k < 9223372036854775808) (hs : sgn u z.natAbs = z ^ k) (hu : (t && decide ((k : Int) % 2 = 1)) = u) :
    Calls Try.prog 32 #[.agg #[.bool t, .slice A n c], .int .i64 (k : Int)] w (Num w (z ^ k)) := by
  have S : Sz z 4096 := by show z.natAbs < pw 4096; exact words_len_le.1 (by rw [← h.2.1]; exact hn)
  obtain ⟨r, v, s, hc, hc2⟩ := h.raw S (Nat.le_refl _)
  have hbl2 := blen_sz S
  have HV := Lib.hid v
  have HI := Lib.hid h
  have HR := Lib.hid r
  have E := Lib.hid (Env1r.start w t A n c)
  clear v r h s
  obtain ⟨K, hK⟩ : ∃ K : Int, K = (k : Int) := ⟨_, rfl⟩
  have hK0 : 0 < K := by omega
  have hK1 : K ≤ 9223372036854775807 := by omega
  rw [← hK]
  rw [← hK] at hu
  have HKk := Lib.hid hK
  have HS := Lib.hid hs
  have HU := Lib.hid hu
  clear hK hk0 hk hs hu
  have t0 : (K == 0) = false := by rw [beq_eq_false_iff_ne]; omega
  go_enter Try.func32, Try.ntmps32
  go_wp2_with fail
  generalize (w.alloc (.cells #[.bool t, .slice A n c] 24)).alloc (.cells #[.bool false, .slice none 0 0] 24) = W at E ⊢
  refine (valid_c t A n c _ W (HR.out.below E.out.below)).mono ?_
  rintro e w1 ⟨rfl, hb⟩
  rw [HV.out]
  replace E := Lib.hid (E.out.next hb)
  clear hb
  have a0 := E.out.a0
  have a1 := E.out.a1
  go_wp2_with fail
  refine (Bits_c (HI.out.below E.out.below) hn).mono ?_
  rintro e w2 ⟨rfl, hb⟩
  replace E := Lib.hid (E.out.next hb)
  clear hb
  replace a0 := E.out.a0
  replace a1 := E.out.a1
  obtain ⟨b, hb0⟩ : ∃ b, b = blen z.natAbs := ⟨_, rfl⟩
  rw [← hb0]
  rw [← hb0] at hz
  clear hb0 S hbl2
  cases t
  · obtain rfl : u = false := by rw [← HU.out]; rfl
    go_wp2_with fail
    refine (clone_c A n c _ _ (HR.out.below E.out.below) (by omega)).mono ?_
    rintro e w3 ⟨g, rfl, hg, o1, o2⟩
    replace E := Lib.hid (E.out.next o2)
    have O1 := Lib.hid o1.rd
    clear o1 o2 a0 a1
    go_wp2_with fail
    refine (number_c false (some ⟨g, 0, none⟩) _ _ _ _ O1.out (Nat.le_refl _) (by have := HI.out.2.1; omega)).mono ?_
    rw [val_words, HS.out]
    rintro e w4 ⟨t', B, m', d', k', rfl, hnum, hb⟩
    replace E := Lib.hid (E.out.next hb)
    have HN := Lib.hid hnum
    clear hnum hb
    have r0 := E.out.res.r0
    have r1 := E.out.res.r1
    have f0 := E.out.res.f0
    have f1 := E.out.res.f1
    go_wp2
    refine bodyPost_ret (v := .tuple #[.agg #[.bool t', .slice B m' d'], .int .i64 k']) (by simp [results, Try.results32, go_sem, r0, r1]) rfl ?_
    exact ⟨t', B, m', d', k', rfl, HN.out.store r0 r1 _ _, below_store E.out.below (by omega) _ _⟩
  · by_cases hodd : K % 2 = 1
    · obtain rfl : u = true := by rw [← HU.out, decide_eq_true hodd]; rfl
      have tb : (K % 2 == 1) = true := by rw [beq_iff_eq]; exact hodd
      clear hodd
      go_wp2_with fail
      refine (clone_c A n c _ _ (HR.out.below E.out.below) (by omega)).mono ?_
      rintro e w3 ⟨g, rfl, hg, o1, o2⟩
      replace E := Lib.hid (E.out.next o2)
      have O1 := Lib.hid o1.rd
      clear o1 o2 a0 a1
      go_wp2_with fail
      refine (number_c true (some ⟨g, 0, none⟩) _ _ _ _ O1.out (Nat.le_refl _) (by have := HI.out.2.1; omega)).mono ?_
      rw [val_words, HS.out]
      rintro e w4 ⟨t', B, m', d', k', rfl, hnum, hb⟩
      replace E := Lib.hid (E.out.next hb)
      have HN := Lib.hid hnum
      clear hnum hb
      have r0 := E.out.res.r0
      have r1 := E.out.res.r1
      have f0 := E.out.res.f0
      have f1 := E.out.res.f1
      go_wp2
      refine bodyPost_ret (v := .tuple #[.agg #[.bool t', .slice B m' d'], .int .i64 k']) (by simp [results, Try.results32, go_sem, r0, r1]) rfl ?_
      exact ⟨t', B, m', d', k', rfl, HN.out.store r0 r1 _ _, below_store E.out.below (by omega) _ _⟩
    · obtain rfl : u = false := by rw [← HU.out, decide_eq_false hodd]; rfl
      have tb : (K % 2 == 1) = false := by rw [beq_eq_false_iff_ne]; exact hodd
      clear hodd
      go_wp2_with fail
      refine (clone_c A n c _ _ (HR.out.below E.out.below) (by omega)).mono ?_
      rintro e w3 ⟨g, rfl, hg, o1, o2⟩
      replace E := Lib.hid (E.out.next o2)
      have O1 := Lib.hid o1.rd
      clear o1 o2 a0 a1
      go_wp2_with fail
      refine (number_c false (some ⟨g, 0, none⟩) _ _ _ _ O1.out (Nat.le_refl _) (by have := HI.out.2.1; omega)).mono ?_
      rw [val_words, HS.out]
      rintro e w4 ⟨t', B, m', d', k', rfl, hnum, hb⟩
      replace E := Lib.hid (E.out.next hb)
      have HN := Lib.hid hnum
      clear hnum hb
      have r0 := E.out.res.r0
      have r1 := E.out.res.r1
      have f0 := E.out.res.f0
      have f1 := E.out.res.f1
      go_wp2
      refine bodyPost_ret (v := .tuple #[.agg #[.bool t', .slice B m' d'], .int .i64 k']) (by simp [results, Try.results32, go_sem, r0, r1]) rfl ?_
      exact ⟨t', B, m', d', k', rfl, HN.out.store r0 r1 _ _, below_store E.out.below (by omega) _ _⟩

theorem pow_one_sgn {z : Int} {k : Nat} (h : blen z.natAbs ≤ 1) (h0 : 0 < k) : sgn (decide (z < 0) && decide ((k : Int) % 2 = 1)) z.natAbs = z ^ k := by
  have h1 : z.natAbs < 2 ^ 1 := blen_le.1 h
  have h2 : z = 0 ∨ z = 1 ∨ z = -1 := by omega
  rcases h2 with rfl | rfl | rfl
  · rw [Int.zero_pow (by omega)]; simp [sgn]
  · rw [Int.one_pow]; simp [sgn]
  · by_cases hk : k % 2 = 1
    · obtain ⟨m, rfl⟩ : ∃ m, k = 2 * m + 1 := ⟨k / 2, by omega⟩
      have e : (((2 * m + 1 : Nat) : Int) % 2 = 1) := by omega
      rw [decide_eq_true e, Int.pow_succ, Int.pow_mul, show ((-1 : Int) ^ 2) = 1 from rfl, Int.one_pow]
      rfl
    · obtain ⟨m, rfl⟩ : ∃ m, k = 2 * m := ⟨k / 2, by omega⟩
      have e : ¬ (((2 * m : Nat) : Int) % 2 = 1) := by omega
      rw [decide_eq_false e, Int.pow_mul, show ((-1 : Int) ^ 2) = 1 from rfl, Int.one_pow]
      rfl

set_option maxHeartbeats 1000000 in
set_option maxRecDepth 100000 in
/-- the power 0 -/
theorem Power_zero {w : World} {z : Int} {t : Bool} {A : Option Addr} {n c : Nat} (h : Is w z t A n c) (hn : n ≤ 4096) :
    Calls Try.prog 32 #[.agg #[.bool t, .slice A n c], .int .i64 0] w (Num w 1) := by
  have S : Sz z 4096 := by show z.natAbs < pw 4096; exact words_len_le.1 (by rw [← h.2.1]; exact hn)
  obtain ⟨r, v, s, hc, hc2⟩ := h.raw S (Nat.le_refl _)
  have HV := Lib.hid v
  have HR := Lib.hid r
  have E := Lib.hid (Env1r.start w t A n c)
  clear v r h s S
  go_enter Try.func32, Try.ntmps32
  go_wp2_with fail
  generalize (w.alloc (.cells #[.bool t, .slice A n c] 24)).alloc (.cells #[.bool false, .slice none 0 0] 24) = W at E ⊢
  refine (valid_c t A n c _ W (HR.out.below E.out.below)).mono ?_
  rintro e w1 ⟨rfl, hb⟩
  rw [HV.out]
  replace E := Lib.hid (E.out.next hb)
  clear hb
  go_wp2_with fail
  refine (of_nat 1 _ (by omega)).mono ?_
  rintro e w3 ⟨B, d, rfl, o1, o2, o3, o4⟩
  replace E := Lib.hid (E.out.next o4)
  have I1 := Lib.hid (show Is w3 1 false B (words 1).length d from ⟨rfl, rfl, o1, o2, o3⟩)
  have HL := Lib.hid (show (words 1).length ≤ 4096 by rw [words_one (by omega) (by omega)]; decide)
  clear o1 o2 o3 o4
  have r0 := E.out.res.r0
  have r1 := E.out.res.r1
  have f0 := E.out.res.f0
  have f1 := E.out.res.f1
  obtain ⟨m, hm⟩ : ∃ m, m = (words 1).length := ⟨_, rfl⟩
  rw [← hm] at I1 HL ⊢
  clear hm
  go_wp2
  refine bodyPost_ret (v := .tuple #[.agg #[.bool false, .slice B m d], .int .i64 0]) (by simp [results, Try.results32, go_sem, r0, r1]) rfl ?_
  exact ⟨false, B, m, d, 0, rfl, (I1.out.numIs HL.out).store r0 r1 _ _, below_store E.out.below (by omega) _ _⟩

set_option maxHeartbeats 1000000 in
set_option maxRecDepth 100000 in
/-- a power that is too great by its exponent alone -/
theorem Power_big {w : World} {z : Int} {t : Bool} {A : Option Addr} {n c : Nat} (h : Is w z t A n c) (hn : n ≤ 4096) (hz : 1 < blen z.natAbs) (K : Int) (hK : 131072 ≤ K) :
    Calls Try.prog 32 #[.agg #[.bool t, .slice A n c], .int .i64 K] w (Bad w 4) := by
  have S : Sz z 4096 := by show z.natAbs < pw 4096; exact words_len_le.1 (by rw [← h.2.1]; exact hn)
  obtain ⟨r, v, s, hc, hc2⟩ := h.raw S (Nat.le_refl _)
  have HV := Lib.hid v
  have HI := Lib.hid h
  have HR := Lib.hid r
  have E := Lib.hid (Env1r.start w t A n c)
  clear v r h s S
  have t0 : (K == 0) = false := by rw [beq_eq_false_iff_ne]; omega
  go_enter Try.func32, Try.ntmps32
  go_wp2_with fail
  generalize (w.alloc (.cells #[.bool t, .slice A n c] 24)).alloc (.cells #[.bool false, .slice none 0 0] 24) = W at E ⊢
  refine (valid_c t A n c _ W (HR.out.below E.out.below)).mono ?_
  rintro e w1 ⟨rfl, hb⟩
  rw [HV.out]
  replace E := Lib.hid (E.out.next hb)
  clear hb
  have a0 := E.out.a0
  have a1 := E.out.a1
  go_wp2_with fail
  refine (Bits_c (HI.out.below E.out.below) hn).mono ?_
  rintro e w2 ⟨rfl, hb⟩
  replace E := Lib.hid (E.out.next hb)
  clear hb
  obtain ⟨b, hb0⟩ : ∃ b, b = blen z.natAbs := ⟨_, rfl⟩
  rw [← hb0]
  rw [← hb0] at hz
  clear hb0 a0 a1
  have r0 := E.out.res.r0
  have r1 := E.out.res.r1
  have f0 := E.out.res.f0
  have f1 := E.out.res.f1
  go_wp2
  refine bodyPost_ret (v := .tuple #[.agg #[.bool false, .slice none 0 0], .int .i64 4]) (by simp [results, Try.results32, go_sem, r0, r1]) rfl ?_
  exact ⟨rfl, below_store E.out.below (by omega) _ _⟩

theorem pow_long {z : Int} {k : Nat} (hz : 1 < blen z.natAbs) (hk : 131072 ≤ k) : ¬ (words (z ^ k).natAbs).length ≤ 4096 := by
  apply long_of_blen
  have h1 : 2 ≤ z.natAbs := by
    rcases Nat.lt_or_ge z.natAbs 2 with h | h
    · have := blen_le (v := z.natAbs) (k := 1)
      have := this.2 h
      omega
    · exact h
  have h2 : 2 ^ k ≤ (z ^ k).natAbs := by rw [Int.natAbs_pow]; exact Nat.pow_le_pow_left h1 k
  have h3 : ¬ blen (z ^ k).natAbs ≤ k := fun h => by have := blen_le.1 h; omega
  omega

/-- Power of a valid number, by a number that is not negative -/
theorem Power_is {w : World} {z : Int} {t : Bool} {A : Option Addr} {n c : Nat} (h : Is w z t A n c) (hn : n ≤ 4096) (k : Nat) (hk : k < 9223372036854775808) :
    Calls Try.prog 32 #[.agg #[.bool t, .slice A n c], .int .i64 (k : Int)] w (Num w (z ^ k)) := by
  rcases Nat.eq_zero_or_pos k with rfl | h0
  · rw [Int.pow_zero]; exact Power_zero h hn
  by_cases hz : blen z.natAbs ≤ 1
  · exact Power_one h hn _ hz k h0 hk (pow_one_sgn hz h0) (by rw [h.1])
  · by_cases hb : k < 131072
    · exact Power_loop h hn (by omega) k h0 hb
    · exact (Power_big h hn (by omega) (k : Int) (by omega)).mono fun _ _ h => h.num (pow_long (by omega) (by omega))
end Go.Proofs.Ytpgiifjngkekgaa

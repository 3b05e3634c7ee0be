import Derived.Test.YtpgiifjngkekgaaLd
namespace Go.Proofs.Ytpgiifjngkekgaa
open Go.RowKit

theorem ord_facts (x y z : Int) : ∃ r1 r3 r4 : Int, ord x y = r1 ∧ ord y x = -r1 ∧ ord y z = r3 ∧ ord x z = r4 ∧ (-1 ≤ r1 ∧ r1 ≤ 1) ∧ (-1 ≤ r3 ∧ r3 ≤ 1) ∧ (r1 ≤ 0 → r3 ≤ 0 → r4 = min r1 r3) ∧ (r1 == 0) = decide (x = y) ∧
    ord (x + z) (y + z) = r1 ∧ ord (x - y) 0 = r1 ∧ (0 < z → ord (x * z) (y * z) = r1) := by
  have b : ∀ a c : Int, -1 ≤ ord a c ∧ ord a c ≤ 1 := fun a c => by
    unfold ord; split
    · omega
    · split <;> omega
  rcases Int.lt_trichotomy x y with h | h | h
  · refine ⟨-1, ord y z, ord x z, ord_lt h, ord_gt h, rfl, rfl, by omega, b y z, fun _ h3 => ?_, ?_, ord_lt (by omega), ord_lt (by omega), fun hz => ord_lt (Int.mul_lt_mul_of_pos_right h hz)⟩
    · have hyz : y ≤ z := by
        rcases Int.lt_or_le z y with h4 | h4
        · rw [ord_gt h4] at h3; omega
        · exact h4
      rw [ord_lt (by omega : x < z)]
      have := (b y z).1
      omega
    · rw [decide_eq_false (by omega)]; rfl
  · subst h
    refine ⟨0, ord x z, ord x z, ord_eq rfl, by rw [ord_eq rfl]; rfl, rfl, rfl, by omega, b x z, fun _ h3 => by omega, by simp, ord_eq rfl, ord_eq (by omega), fun _ => ord_eq rfl⟩
  · refine ⟨1, ord y z, ord x z, ord_gt h, ord_lt h, rfl, rfl, by omega, b y z, fun h3 _ => by omega, ?_, ord_gt (by omega), ord_gt (by omega), fun hz => ord_gt (Int.mul_lt_mul_of_pos_right h hz)⟩
    rw [decide_eq_false (by omega)]; rfl
theorem cmp_eq {w : World} {z z' r : Int} {t t' : Bool} {A A' : Option Addr} {n c n' c' k : Nat} (h : Is w z t A n c) (h' : Is w z' t' A' n' c') (hz : Sz z k) (hz' : Sz z' k) (hk : k ≤ 4096) (e : ord z z' = r) :
    Calls Try.prog 11 #[.agg #[.bool t, .slice A n c], .agg #[.bool t', .slice A' n' c']] w (fun e w' => e = .returned (.tuple #[.int .i64 r, .int .i64 0]) ∧ Below w.heap.size w w') := by
  have := Cmp_is h h' hz hz' hk
  rwa [e] at this
theorem sz_zero {k : Nat} : Sz 0 k := by
  show (0 : Int).natAbs < pw k
  unfold pw; exact Nat.pow_pos (by omega)
theorem of_zero (w : World) : Calls Try.prog 44 #[.int .i64 0] w fun e w' => ∃ A c, e = .returned (.agg #[.bool false, .slice A 0 c]) ∧ Is w' 0 false A 0 c ∧ Below w.heap.size w w' :=
  (Of_c 0 w (by omega) (by omega)).mono fun e w' h => by
    obtain ⟨A, c, he, h1, h2, h3, h4⟩ := h
    have e0 : (words (0 : Int).natAbs) = [] := words_zero
    rw [e0] at he h1 h2
    refine ⟨A, c, he, ⟨rfl, by rw [e0]; rfl, by rw [e0]; exact h1, h2, h3⟩, h4⟩
set_option maxHeartbeats 400000 in
theorem zero_c (s : Bool) (A : Option Addr) (n c : Nat) (w : World) : Calls Try.prog 25 #[.agg #[.bool s, .slice A n c]] w fun e w' => e = .returned (.bool (decide (n = 0))) ∧ Below w.heap.size w w' := by
  by_cases h : n = 0
  · subst h
    go_enter Try.func25, Try.ntmps25
    go_wp2
    go_ret
    exact ⟨rfl, below_alloc _ _⟩
  · have H := Lib.hid (show decide (n = 0) = false from decide_eq_false h)
    have t0 : ((n : Int) == 0) = false := by rw [beq_eq_false_iff_ne]; omega
    clear h
    go_enter Try.func25, Try.ntmps25
    go_wp2
    go_ret
    exact ⟨by rw [H.out]; rfl, below_alloc _ _⟩
theorem pos_of {w : World} {z : Int} {A : Option Addr} {n c : Nat} (h : Is w z false A n c) (hn : ¬ n = 0) : 0 < z := by
  have h1 : ¬ z < 0 := by have := h.1; exact of_decide_eq_false this.symm
  have h2 : z ≠ 0 := fun e => by
    subst e
    exact hn (h.2.1.trans (by rw [show words (0 : Int).natAbs = [] from words_zero]; rfl))
  omega

set_option maxHeartbeats 4000000 in
set_option maxRecDepth 100000 in
theorem LargeOrder_c (s1 s2 s3 : Bool) (A1 A2 A3 : Option Addr) (n1 c1 n2 c2 n3 c3 : Nat) (xs1 xs2 xs3 : List Nat) (w : World) (h1 : Rd w A1 n1 xs1) (h2 : Rd w A2 n2 xs2) (h3 : Rd w A3 n3 xs3)
    (k1 : n1 ≤ c1) (k2 : n2 ≤ c2) (k3 : n3 ≤ c3) (e1 : c1 ≤ 9223372036854775807) (e2 : c2 ≤ 9223372036854775807) (e3 : c3 ≤ 9223372036854775807) :
    Calls Try.prog 7 #[.agg #[.bool s1, .slice A1 n1 c1], .agg #[.bool s2, .slice A2 n2 c2], .agg #[.bool s3, .slice A3 n3 c3]] w fun e w' => e = .returned (.bool true) ∧ Below w.heap.size w w' := by
  have HB := Lib.hid (((((Below.refl w.heap.size w).alloc (Nat.le_refl _) (.cells #[.bool s1, .slice A1 n1 c1] 24)).alloc (by simp) (.cells #[.bool s2, .slice A2 n2 c2] 24)).alloc (by simp; omega) (.cells #[.bool s3, .slice A3 n3 c3] 24)).alloc (by simp; omega) (.cells #[.bool s1, .slice A1 n1 c1, .bool s2, .slice A2 n2 c2, .bool s3, .slice A3 n3 c3] 24))
  have HK := Lib.hid (And.intro (And.intro k1 e1) (And.intro (And.intro k2 e2) (And.intro k3 e3)))
  clear k1 k2 k3 e1 e2 e3
  have R1 := Lib.hid h1
  have R2 := Lib.hid h2
  have R3 := Lib.hid h3
  clear h1 h2 h3
  go_enter Try.func7, Try.ntmps7
  go_wp2_with fail
  refine (light3_c 1000 (w.heap.size + 1 + 1 + 1) s1 s2 s3 A1 A2 A3 n1 c1 n2 c2 n3 c3 xs1 xs2 xs3 _ (R1.out.below HB.out) (R2.out.below HB.out) (R3.out.below HB.out) (by simp) (by go_simp) (by go_simp) (by go_simp) (by go_simp) (by go_simp) (by go_simp)).mono ?_
  rintro e w0 ⟨rfl, hb⟩
  have P := Lib.hid (HB.out.trans (hb.mono HB.out.size))
  by_cases hL : L3 1000 s1 s2 s3 n1 n2 n3 xs1 xs2 xs3
  · rw [decide_eq_true hL]
    obtain ⟨⟨l1, v1⟩, ⟨l2, v2⟩, ⟨l3, v3⟩⟩ := hL
    have a0 := sz_valid (s := s1) R1.out l1
    have b0 := sz_valid (s := s2) R2.out l2
    have c0 := sz_valid (s := s3) R3.out l3
    have I1 := Is.of_valid (R1.out.below HB.out) v1 HK.out.1.1 HK.out.1.2
    have I2 := Is.of_valid (R2.out.below HB.out) v2 HK.out.2.1.1 HK.out.2.1.2
    have I3 := Is.of_valid (R3.out.below HB.out) v3 HK.out.2.2.1 HK.out.2.2.2
    generalize sgn s1 (val xs1) = x at a0 I1
    generalize sgn s2 (val xs2) = y at b0 I2
    generalize sgn s3 (val xs3) = z at c0 I3
    have H_a := Lib.hid ((Box.mk (b := w.heap.size) (by simp; omega) (by go_simp) (by go_simp) I1).next hb)
    have H_b := Lib.hid ((Box.mk (b := w.heap.size + 1) (by simp) (by go_simp) (by go_simp) I2).next hb)
    have H_c := Lib.hid ((Box.mk (b := w.heap.size + 1 + 1) (by simp) (by go_simp) (by go_simp) I3).next hb)
    obtain ⟨r1, r3, r4, E1, E2, E3, E4, ⟨u1, u2⟩, ⟨u3, u4⟩, M0, T0, E5, E6, E7⟩ := ord_facts x y z
    replace E7 := Lib.hid E7
    replace M0 := Lib.hid M0
    have S_a : Sz (x) 4096 := a0.le (by omega)
    have S_b : Sz (y) 4096 := b0.le (by omega)
    have S_c : Sz (z) 4096 := c0.le (by omega)
    have S_ac : Sz (x + z) 4096 := (a0.add c0).le (by omega)
    have S_bc : Sz (y + z) 4096 := (b0.add c0).le (by omega)
    have S_d : Sz (x - y) 4096 := (a0.sub b0).le (by omega)
    have S_p : Sz (x * z) 4096 := (a0.mul c0).le (by omega)
    have S_q : Sz (y * z) 4096 := (b0.mul c0).le (by omega)
    clear a0 b0 c0 I1 I2 I3 l1 l2 l3 v1 v2 v3 R1 R2 R3 HK HB hb
    have f0_a := H_a.out.c0
    have f1_a := H_a.out.c1
    have f0_b := H_b.out.c0
    have f1_b := H_b.out.c1
    go_wp2_with fail
    clear f0_a f1_a f0_b f1_b
    refine (cmp_eq (k := 4096) H_a.out.is H_b.out.is S_a S_b (Nat.le_refl _) E1).mono ?_
    rintro e x1 ⟨rfl, hb⟩
    replace H_a := Lib.hid (H_a.out.next hb)
    replace H_b := Lib.hid (H_b.out.next hb)
    replace H_c := Lib.hid (H_c.out.next hb)
    replace P := Lib.hid (P.out.trans (hb.mono P.out.size))
    clear hb
    have f0_a := H_a.out.c0
    have f1_a := H_a.out.c1
    have f0_b := H_b.out.c0
    have f1_b := H_b.out.c1
    go_wp2_with fail
    clear f0_a f1_a f0_b f1_b
    refine (cmp_eq (k := 4096) H_b.out.is H_a.out.is S_b S_a (Nat.le_refl _) E2).mono ?_
    rintro e x2 ⟨rfl, hb⟩
    replace H_a := Lib.hid (H_a.out.next hb)
    replace H_b := Lib.hid (H_b.out.next hb)
    replace H_c := Lib.hid (H_c.out.next hb)
    replace P := Lib.hid (P.out.trans (hb.mono P.out.size))
    clear hb
    have f0_b := H_b.out.c0
    have f1_b := H_b.out.c1
    have f0_c := H_c.out.c0
    have f1_c := H_c.out.c1
    go_wp2_with fail
    clear f0_b f1_b f0_c f1_c
    refine (cmp_eq (k := 4096) H_b.out.is H_c.out.is S_b S_c (Nat.le_refl _) E3).mono ?_
    rintro e x3 ⟨rfl, hb⟩
    replace H_a := Lib.hid (H_a.out.next hb)
    replace H_b := Lib.hid (H_b.out.next hb)
    replace H_c := Lib.hid (H_c.out.next hb)
    replace P := Lib.hid (P.out.trans (hb.mono P.out.size))
    clear hb
    have f0_a := H_a.out.c0
    have f1_a := H_a.out.c1
    have f0_c := H_c.out.c0
    have f1_c := H_c.out.c1
    go_wp2_with fail
    clear f0_a f1_a f0_c f1_c
    refine (cmp_eq (k := 4096) H_a.out.is H_c.out.is S_a S_c (Nat.le_refl _) E4).mono ?_
    rintro e x4 ⟨rfl, hb⟩
    replace H_a := Lib.hid (H_a.out.next hb)
    replace H_b := Lib.hid (H_b.out.next hb)
    replace H_c := Lib.hid (H_c.out.next hb)
    replace P := Lib.hid (P.out.trans (hb.mono P.out.size))
    clear hb
    have f0_a := H_a.out.c0
    have f1_a := H_a.out.c1
    have f0_b := H_b.out.c0
    have f1_b := H_b.out.c1
    go_wp2_with fail
    clear f0_a f1_a f0_b f1_b
    refine (same_is (k := 4096) H_a.out.is H_b.out.is S_a (Nat.le_refl _)).mono ?_
    rintro e x5 ⟨rfl, hb⟩
    replace H_a := Lib.hid (H_a.out.next hb)
    replace H_b := Lib.hid (H_b.out.next hb)
    replace H_c := Lib.hid (H_c.out.next hb)
    replace P := Lib.hid (P.out.trans (hb.mono P.out.size))
    clear hb
    rw [← T0]
    clear T0 E1 E2 E3 E4
    by_cases hx : r1 ≤ 0
    · by_cases hz : r3 ≤ 0
      · by_cases hm : r1 ≤ r3
        · obtain rfl : r4 = r1 := by have := M0.out hx hz; omega
          clear M0
          have f0_a := H_a.out.c0
          have f1_a := H_a.out.c1
          have f0_c := H_c.out.c0
          have f1_c := H_c.out.c1
          go_wp2_with fail
          clear f0_a f1_a f0_c f1_c
          refine (add_is (k := 4096) H_a.out.is H_c.out.is S_a S_c (Nat.le_refl _) S_ac).mono ?_
          rintro e w_ac ⟨t_ac, B_ac, m_ac, d_ac, rfl, hi, hb⟩
          replace H_a := Lib.hid ((H_a.out.next hb).alloc (.cells #[.bool t_ac, .slice B_ac m_ac d_ac] 24))
          replace H_b := Lib.hid ((H_b.out.next hb).alloc (.cells #[.bool t_ac, .slice B_ac m_ac d_ac] 24))
          replace H_c := Lib.hid ((H_c.out.next hb).alloc (.cells #[.bool t_ac, .slice B_ac m_ac d_ac] 24))
          have H_ac := Lib.hid (Box.new hi)
          replace P := Lib.hid ((P.out.trans (hb.mono P.out.size)).alloc (Nat.le_trans P.out.size hb.size) (.cells #[.bool t_ac, .slice B_ac m_ac d_ac] 24))
          clear hi hb
          have f0_b := H_b.out.c0
          have f1_b := H_b.out.c1
          have f0_c := H_c.out.c0
          have f1_c := H_c.out.c1
          go_wp2_with fail
          clear f0_b f1_b f0_c f1_c
          generalize w_ac.alloc (.cells #[.bool t_ac, .slice B_ac m_ac d_ac] 24) = v_ac at H_a H_b H_c H_ac P ⊢
          refine (add_is (k := 4096) H_b.out.is H_c.out.is S_b S_c (Nat.le_refl _) S_bc).mono ?_
          rintro e w_bc ⟨t_bc, B_bc, m_bc, d_bc, rfl, hi, hb⟩
          replace H_a := Lib.hid ((H_a.out.next hb).alloc (.cells #[.bool t_bc, .slice B_bc m_bc d_bc] 24))
          replace H_b := Lib.hid ((H_b.out.next hb).alloc (.cells #[.bool t_bc, .slice B_bc m_bc d_bc] 24))
          replace H_c := Lib.hid ((H_c.out.next hb).alloc (.cells #[.bool t_bc, .slice B_bc m_bc d_bc] 24))
          replace H_ac := Lib.hid ((H_ac.out.next hb).alloc (.cells #[.bool t_bc, .slice B_bc m_bc d_bc] 24))
          have H_bc := Lib.hid (Box.new hi)
          replace P := Lib.hid ((P.out.trans (hb.mono P.out.size)).alloc (Nat.le_trans P.out.size hb.size) (.cells #[.bool t_bc, .slice B_bc m_bc d_bc] 24))
          clear hi hb
          have f0_a := H_a.out.c0
          have f1_a := H_a.out.c1
          have f0_b := H_b.out.c0
          have f1_b := H_b.out.c1
          go_wp2_with fail
          clear f0_a f1_a f0_b f1_b
          generalize w_bc.alloc (.cells #[.bool t_bc, .slice B_bc m_bc d_bc] 24) = v_bc at H_a H_b H_c H_ac H_bc P ⊢
          refine (sub_is (k := 4096) H_a.out.is H_b.out.is S_a S_b (Nat.le_refl _) S_d).mono ?_
          rintro e w_d ⟨t_d, B_d, m_d, d_d, rfl, hi, hb⟩
          replace H_a := Lib.hid ((H_a.out.next hb).alloc (.cells #[.bool t_d, .slice B_d m_d d_d] 24))
          replace H_b := Lib.hid ((H_b.out.next hb).alloc (.cells #[.bool t_d, .slice B_d m_d d_d] 24))
          replace H_c := Lib.hid ((H_c.out.next hb).alloc (.cells #[.bool t_d, .slice B_d m_d d_d] 24))
          replace H_ac := Lib.hid ((H_ac.out.next hb).alloc (.cells #[.bool t_d, .slice B_d m_d d_d] 24))
          replace H_bc := Lib.hid ((H_bc.out.next hb).alloc (.cells #[.bool t_d, .slice B_d m_d d_d] 24))
          have H_d := Lib.hid (Box.new hi)
          replace P := Lib.hid ((P.out.trans (hb.mono P.out.size)).alloc (Nat.le_trans P.out.size hb.size) (.cells #[.bool t_d, .slice B_d m_d d_d] 24))
          clear hi hb
          have f0_ac := H_ac.out.c0
          have f1_ac := H_ac.out.c1
          have f0_bc := H_bc.out.c0
          have f1_bc := H_bc.out.c1
          go_wp2_with fail
          clear f0_ac f1_ac f0_bc f1_bc
          generalize w_d.alloc (.cells #[.bool t_d, .slice B_d m_d d_d] 24) = v_d at H_a H_b H_c H_ac H_bc H_d P ⊢
          refine (cmp_eq (k := 4096) H_ac.out.is H_bc.out.is S_ac S_bc (Nat.le_refl _) E5).mono ?_
          clear H_ac
          clear H_bc
          rintro e x6 ⟨rfl, hb⟩
          replace H_a := Lib.hid (H_a.out.next hb)
          replace H_b := Lib.hid (H_b.out.next hb)
          replace H_c := Lib.hid (H_c.out.next hb)
          replace H_d := Lib.hid (H_d.out.next hb)
          replace P := Lib.hid (P.out.trans (hb.mono P.out.size))
          clear hb
          go_wp2_with fail
          replace H_a := Lib.hid (H_a.out.next (Below.refl _ _).drew)
          replace H_b := Lib.hid (H_b.out.next (Below.refl _ _).drew)
          replace H_c := Lib.hid (H_c.out.next (Below.refl _ _).drew)
          replace H_d := Lib.hid (H_d.out.next (Below.refl _ _).drew)
          replace P := Lib.hid P.out.drew
          have f0_d := H_d.out.c0
          have f1_d := H_d.out.c1
          go_region_held3 (fun w' => w'.cell? ⟨w_d.heap.size, 0, none⟩ = some (.bool t_d) ∧ w'.cell? ⟨w_d.heap.size, 1, none⟩ = some (.slice B_d m_d d_d)) (exact ⟨f0_d, f1_d⟩)
            (first
              | (go_at_call 44
                 refine (of_zero _).mono ?_
                 rintro e wq ⟨Aq, cq, rfl, iq, hb⟩
                 replace H_a := Lib.hid (H_a.out.next hb)
                 replace H_b := Lib.hid (H_b.out.next hb)
                 replace H_c := Lib.hid (H_c.out.next hb)
                 replace H_d := Lib.hid (H_d.out.next hb)
                 replace P := Lib.hid (P.out.trans (hb.mono P.out.size))
                 replace f0_d := H_d.out.c0
                 replace f1_d := H_d.out.c1
                 clear hb)
              | (go_at_call 11
                 refine (cmp_eq (k := 4096) H_d.out.is iq S_d sz_zero (Nat.le_refl _) E6).mono ?_
                 rintro e wr ⟨rfl, hb⟩
                 replace H_a := Lib.hid (H_a.out.next hb)
                 replace H_b := Lib.hid (H_b.out.next hb)
                 replace H_c := Lib.hid (H_c.out.next hb)
                 replace H_d := Lib.hid (H_d.out.next hb)
                 replace P := Lib.hid (P.out.trans (hb.mono P.out.size))
                 replace f0_d := H_d.out.c0
                 replace f1_d := H_d.out.c1
                 clear hb))
          clear H_d
          clear f0_d f1_d iq
          rcases hs : s3 with _ | _
          · subst hs
            by_cases hn3 : n3 = 0
            · have HN := Lib.hid hn3
              clear hn3
              have f0_c := H_c.out.c0
              have f1_c := H_c.out.c1
              go_wp2_with fail
              clear f0_c f1_c
              refine (zero_c false A3 n3 c3 _).mono ?_
              rintro e x7 ⟨rfl, hb⟩
              replace H_a := Lib.hid (H_a.out.next hb)
              replace H_b := Lib.hid (H_b.out.next hb)
              replace H_c := Lib.hid (H_c.out.next hb)
              replace P := Lib.hid (P.out.trans (hb.mono P.out.size))
              clear hb
              rw [decide_eq_true HN.out]
              clear HN
              go_wp2_with fail
              refine (awake_c _).mono ?_
              rintro e x8 ⟨rfl, hb⟩
              replace H_a := Lib.hid (H_a.out.next hb)
              replace H_b := Lib.hid (H_b.out.next hb)
              replace H_c := Lib.hid (H_c.out.next hb)
              replace P := Lib.hid (P.out.trans (hb.mono P.out.size))
              clear hb
              go_wp2
              go_ret
              exact ⟨rfl, P.out⟩
            · have hz : 0 < z := pos_of H_c.out.is hn3
              have E8 := Lib.hid (E7.out hz)
              clear hz
              have f0_c := H_c.out.c0
              have f1_c := H_c.out.c1
              go_wp2_with fail
              clear f0_c f1_c
              refine (zero_c false A3 n3 c3 _).mono ?_
              rintro e x7 ⟨rfl, hb⟩
              replace H_a := Lib.hid (H_a.out.next hb)
              replace H_b := Lib.hid (H_b.out.next hb)
              replace H_c := Lib.hid (H_c.out.next hb)
              replace P := Lib.hid (P.out.trans (hb.mono P.out.size))
              clear hb
              rw [decide_eq_false hn3]
              clear hn3
              have f0_a := H_a.out.c0
              have f1_a := H_a.out.c1
              have f0_c := H_c.out.c0
              have f1_c := H_c.out.c1
              go_wp2_with fail
              clear f0_a f1_a f0_c f1_c
              refine (mul_is (k := 4096) H_a.out.is H_c.out.is S_a S_c (Nat.le_refl _) S_p).mono ?_
              rintro e w_p ⟨t_p, B_p, m_p, d_p, rfl, hi, hb⟩
              replace H_a := Lib.hid ((H_a.out.next hb).alloc (.cells #[.bool t_p, .slice B_p m_p d_p] 24))
              replace H_b := Lib.hid ((H_b.out.next hb).alloc (.cells #[.bool t_p, .slice B_p m_p d_p] 24))
              replace H_c := Lib.hid ((H_c.out.next hb).alloc (.cells #[.bool t_p, .slice B_p m_p d_p] 24))
              have H_p := Lib.hid (Box.new hi)
              replace P := Lib.hid ((P.out.trans (hb.mono P.out.size)).alloc (Nat.le_trans P.out.size hb.size) (.cells #[.bool t_p, .slice B_p m_p d_p] 24))
              clear hi hb
              have f0_b := H_b.out.c0
              have f1_b := H_b.out.c1
              have f0_c := H_c.out.c0
              have f1_c := H_c.out.c1
              go_wp2_with fail
              clear f0_b f1_b f0_c f1_c
              generalize w_p.alloc (.cells #[.bool t_p, .slice B_p m_p d_p] 24) = v_p at H_a H_b H_c H_p P ⊢
              refine (mul_is (k := 4096) H_b.out.is H_c.out.is S_b S_c (Nat.le_refl _) S_q).mono ?_
              rintro e w_q ⟨t_q, B_q, m_q, d_q, rfl, hi, hb⟩
              clear H_b
              clear H_c
              replace H_a := Lib.hid ((H_a.out.next hb).alloc (.cells #[.bool t_q, .slice B_q m_q d_q] 24))
              replace H_p := Lib.hid ((H_p.out.next hb).alloc (.cells #[.bool t_q, .slice B_q m_q d_q] 24))
              have H_q := Lib.hid (Box.new hi)
              replace P := Lib.hid ((P.out.trans (hb.mono P.out.size)).alloc (Nat.le_trans P.out.size hb.size) (.cells #[.bool t_q, .slice B_q m_q d_q] 24))
              clear hi hb
              have f0_p := H_p.out.c0
              have f1_p := H_p.out.c1
              have f0_q := H_q.out.c0
              have f1_q := H_q.out.c1
              go_wp2_with fail
              clear f0_p f1_p f0_q f1_q
              generalize w_q.alloc (.cells #[.bool t_q, .slice B_q m_q d_q] 24) = v_q at H_a H_p H_q P ⊢
              refine (cmp_eq (k := 4096) H_p.out.is H_q.out.is S_p S_q (Nat.le_refl _) E8.out).mono ?_
              clear H_p
              clear H_q
              clear H_a
              rintro e x8 ⟨rfl, hb⟩
              replace P := Lib.hid (P.out.trans (hb.mono P.out.size))
              clear hb
              go_wp2_with fail
              refine (awake_c _).mono ?_
              rintro e x9 ⟨rfl, hb⟩
              replace P := Lib.hid (P.out.trans (hb.mono P.out.size))
              clear hb
              go_wp2
              go_ret
              exact ⟨rfl, P.out⟩
          · subst hs
            have f0_c := H_c.out.c0
            have f1_c := H_c.out.c1
            go_wp2_with fail
            clear f0_c f1_c
            refine (awake_c _).mono ?_
            rintro e x7 ⟨rfl, hb⟩
            replace H_a := Lib.hid (H_a.out.next hb)
            replace H_b := Lib.hid (H_b.out.next hb)
            replace H_c := Lib.hid (H_c.out.next hb)
            replace P := Lib.hid (P.out.trans (hb.mono P.out.size))
            clear hb
            go_wp2
            go_ret
            exact ⟨rfl, P.out⟩
        · obtain rfl : r4 = r3 := by have := M0.out hx hz; omega
          clear M0
          have f0_a := H_a.out.c0
          have f1_a := H_a.out.c1
          have f0_c := H_c.out.c0
          have f1_c := H_c.out.c1
          go_wp2_with fail
          clear f0_a f1_a f0_c f1_c
          refine (add_is (k := 4096) H_a.out.is H_c.out.is S_a S_c (Nat.le_refl _) S_ac).mono ?_
          rintro e w_ac ⟨t_ac, B_ac, m_ac, d_ac, rfl, hi, hb⟩
          replace H_a := Lib.hid ((H_a.out.next hb).alloc (.cells #[.bool t_ac, .slice B_ac m_ac d_ac] 24))
          replace H_b := Lib.hid ((H_b.out.next hb).alloc (.cells #[.bool t_ac, .slice B_ac m_ac d_ac] 24))
          replace H_c := Lib.hid ((H_c.out.next hb).alloc (.cells #[.bool t_ac, .slice B_ac m_ac d_ac] 24))
          have H_ac := Lib.hid (Box.new hi)
          replace P := Lib.hid ((P.out.trans (hb.mono P.out.size)).alloc (Nat.le_trans P.out.size hb.size) (.cells #[.bool t_ac, .slice B_ac m_ac d_ac] 24))
          clear hi hb
          have f0_b := H_b.out.c0
          have f1_b := H_b.out.c1
          have f0_c := H_c.out.c0
          have f1_c := H_c.out.c1
          go_wp2_with fail
          clear f0_b f1_b f0_c f1_c
          generalize w_ac.alloc (.cells #[.bool t_ac, .slice B_ac m_ac d_ac] 24) = v_ac at H_a H_b H_c H_ac P ⊢
          refine (add_is (k := 4096) H_b.out.is H_c.out.is S_b S_c (Nat.le_refl _) S_bc).mono ?_
          rintro e w_bc ⟨t_bc, B_bc, m_bc, d_bc, rfl, hi, hb⟩
          replace H_a := Lib.hid ((H_a.out.next hb).alloc (.cells #[.bool t_bc, .slice B_bc m_bc d_bc] 24))
          replace H_b := Lib.hid ((H_b.out.next hb).alloc (.cells #[.bool t_bc, .slice B_bc m_bc d_bc] 24))
          replace H_c := Lib.hid ((H_c.out.next hb).alloc (.cells #[.bool t_bc, .slice B_bc m_bc d_bc] 24))
          replace H_ac := Lib.hid ((H_ac.out.next hb).alloc (.cells #[.bool t_bc, .slice B_bc m_bc d_bc] 24))
          have H_bc := Lib.hid (Box.new hi)
          replace P := Lib.hid ((P.out.trans (hb.mono P.out.size)).alloc (Nat.le_trans P.out.size hb.size) (.cells #[.bool t_bc, .slice B_bc m_bc d_bc] 24))
          clear hi hb
          have f0_a := H_a.out.c0
          have f1_a := H_a.out.c1
          have f0_b := H_b.out.c0
          have f1_b := H_b.out.c1
          go_wp2_with fail
          clear f0_a f1_a f0_b f1_b
          generalize w_bc.alloc (.cells #[.bool t_bc, .slice B_bc m_bc d_bc] 24) = v_bc at H_a H_b H_c H_ac H_bc P ⊢
          refine (sub_is (k := 4096) H_a.out.is H_b.out.is S_a S_b (Nat.le_refl _) S_d).mono ?_
          rintro e w_d ⟨t_d, B_d, m_d, d_d, rfl, hi, hb⟩
          replace H_a := Lib.hid ((H_a.out.next hb).alloc (.cells #[.bool t_d, .slice B_d m_d d_d] 24))
          replace H_b := Lib.hid ((H_b.out.next hb).alloc (.cells #[.bool t_d, .slice B_d m_d d_d] 24))
          replace H_c := Lib.hid ((H_c.out.next hb).alloc (.cells #[.bool t_d, .slice B_d m_d d_d] 24))
          replace H_ac := Lib.hid ((H_ac.out.next hb).alloc (.cells #[.bool t_d, .slice B_d m_d d_d] 24))
          replace H_bc := Lib.hid ((H_bc.out.next hb).alloc (.cells #[.bool t_d, .slice B_d m_d d_d] 24))
          have H_d := Lib.hid (Box.new hi)
          replace P := Lib.hid ((P.out.trans (hb.mono P.out.size)).alloc (Nat.le_trans P.out.size hb.size) (.cells #[.bool t_d, .slice B_d m_d d_d] 24))
          clear hi hb
          have f0_ac := H_ac.out.c0
          have f1_ac := H_ac.out.c1
          have f0_bc := H_bc.out.c0
          have f1_bc := H_bc.out.c1
          go_wp2_with fail
          clear f0_ac f1_ac f0_bc f1_bc
          generalize w_d.alloc (.cells #[.bool t_d, .slice B_d m_d d_d] 24) = v_d at H_a H_b H_c H_ac H_bc H_d P ⊢
          refine (cmp_eq (k := 4096) H_ac.out.is H_bc.out.is S_ac S_bc (Nat.le_refl _) E5).mono ?_
          clear H_ac
          clear H_bc
          rintro e x6 ⟨rfl, hb⟩
          replace H_a := Lib.hid (H_a.out.next hb)
          replace H_b := Lib.hid (H_b.out.next hb)
          replace H_c := Lib.hid (H_c.out.next hb)
          replace H_d := Lib.hid (H_d.out.next hb)
          replace P := Lib.hid (P.out.trans (hb.mono P.out.size))
          clear hb
          go_wp2_with fail
          replace H_a := Lib.hid (H_a.out.next (Below.refl _ _).drew)
          replace H_b := Lib.hid (H_b.out.next (Below.refl _ _).drew)
          replace H_c := Lib.hid (H_c.out.next (Below.refl _ _).drew)
          replace H_d := Lib.hid (H_d.out.next (Below.refl _ _).drew)
          replace P := Lib.hid P.out.drew
          have f0_d := H_d.out.c0
          have f1_d := H_d.out.c1
          go_region_held3 (fun w' => w'.cell? ⟨w_d.heap.size, 0, none⟩ = some (.bool t_d) ∧ w'.cell? ⟨w_d.heap.size, 1, none⟩ = some (.slice B_d m_d d_d)) (exact ⟨f0_d, f1_d⟩)
            (first
              | (go_at_call 44
                 refine (of_zero _).mono ?_
                 rintro e wq ⟨Aq, cq, rfl, iq, hb⟩
                 replace H_a := Lib.hid (H_a.out.next hb)
                 replace H_b := Lib.hid (H_b.out.next hb)
                 replace H_c := Lib.hid (H_c.out.next hb)
                 replace H_d := Lib.hid (H_d.out.next hb)
                 replace P := Lib.hid (P.out.trans (hb.mono P.out.size))
                 replace f0_d := H_d.out.c0
                 replace f1_d := H_d.out.c1
                 clear hb)
              | (go_at_call 11
                 refine (cmp_eq (k := 4096) H_d.out.is iq S_d sz_zero (Nat.le_refl _) E6).mono ?_
                 rintro e wr ⟨rfl, hb⟩
                 replace H_a := Lib.hid (H_a.out.next hb)
                 replace H_b := Lib.hid (H_b.out.next hb)
                 replace H_c := Lib.hid (H_c.out.next hb)
                 replace H_d := Lib.hid (H_d.out.next hb)
                 replace P := Lib.hid (P.out.trans (hb.mono P.out.size))
                 replace f0_d := H_d.out.c0
                 replace f1_d := H_d.out.c1
                 clear hb))
          clear H_d
          clear f0_d f1_d iq
          rcases hs : s3 with _ | _
          · subst hs
            by_cases hn3 : n3 = 0
            · have HN := Lib.hid hn3
              clear hn3
              have f0_c := H_c.out.c0
              have f1_c := H_c.out.c1
              go_wp2_with fail
              clear f0_c f1_c
              refine (zero_c false A3 n3 c3 _).mono ?_
              rintro e x7 ⟨rfl, hb⟩
              replace H_a := Lib.hid (H_a.out.next hb)
              replace H_b := Lib.hid (H_b.out.next hb)
              replace H_c := Lib.hid (H_c.out.next hb)
              replace P := Lib.hid (P.out.trans (hb.mono P.out.size))
              clear hb
              rw [decide_eq_true HN.out]
              clear HN
              go_wp2_with fail
              refine (awake_c _).mono ?_
              rintro e x8 ⟨rfl, hb⟩
              replace H_a := Lib.hid (H_a.out.next hb)
              replace H_b := Lib.hid (H_b.out.next hb)
              replace H_c := Lib.hid (H_c.out.next hb)
              replace P := Lib.hid (P.out.trans (hb.mono P.out.size))
              clear hb
              go_wp2
              go_ret
              exact ⟨rfl, P.out⟩
            · have hz : 0 < z := pos_of H_c.out.is hn3
              have E8 := Lib.hid (E7.out hz)
              clear hz
              have f0_c := H_c.out.c0
              have f1_c := H_c.out.c1
              go_wp2_with fail
              clear f0_c f1_c
              refine (zero_c false A3 n3 c3 _).mono ?_
              rintro e x7 ⟨rfl, hb⟩
              replace H_a := Lib.hid (H_a.out.next hb)
              replace H_b := Lib.hid (H_b.out.next hb)
              replace H_c := Lib.hid (H_c.out.next hb)
              replace P := Lib.hid (P.out.trans (hb.mono P.out.size))
              clear hb
              rw [decide_eq_false hn3]
              clear hn3
              have f0_a := H_a.out.c0
              have f1_a := H_a.out.c1
              have f0_c := H_c.out.c0
              have f1_c := H_c.out.c1
              go_wp2_with fail
              clear f0_a f1_a f0_c f1_c
              refine (mul_is (k := 4096) H_a.out.is H_c.out.is S_a S_c (Nat.le_refl _) S_p).mono ?_
              rintro e w_p ⟨t_p, B_p, m_p, d_p, rfl, hi, hb⟩
              replace H_a := Lib.hid ((H_a.out.next hb).alloc (.cells #[.bool t_p, .slice B_p m_p d_p] 24))
              replace H_b := Lib.hid ((H_b.out.next hb).alloc (.cells #[.bool t_p, .slice B_p m_p d_p] 24))
              replace H_c := Lib.hid ((H_c.out.next hb).alloc (.cells #[.bool t_p, .slice B_p m_p d_p] 24))
              have H_p := Lib.hid (Box.new hi)
              replace P := Lib.hid ((P.out.trans (hb.mono P.out.size)).alloc (Nat.le_trans P.out.size hb.size) (.cells #[.bool t_p, .slice B_p m_p d_p] 24))
              clear hi hb
              have f0_b := H_b.out.c0
              have f1_b := H_b.out.c1
              have f0_c := H_c.out.c0
              have f1_c := H_c.out.c1
              go_wp2_with fail
              clear f0_b f1_b f0_c f1_c
              generalize w_p.alloc (.cells #[.bool t_p, .slice B_p m_p d_p] 24) = v_p at H_a H_b H_c H_p P ⊢
              refine (mul_is (k := 4096) H_b.out.is H_c.out.is S_b S_c (Nat.le_refl _) S_q).mono ?_
              rintro e w_q ⟨t_q, B_q, m_q, d_q, rfl, hi, hb⟩
              clear H_b
              clear H_c
              replace H_a := Lib.hid ((H_a.out.next hb).alloc (.cells #[.bool t_q, .slice B_q m_q d_q] 24))
              replace H_p := Lib.hid ((H_p.out.next hb).alloc (.cells #[.bool t_q, .slice B_q m_q d_q] 24))
              have H_q := Lib.hid (Box.new hi)
              replace P := Lib.hid ((P.out.trans (hb.mono P.out.size)).alloc (Nat.le_trans P.out.size hb.size) (.cells #[.bool t_q, .slice B_q m_q d_q] 24))
              clear hi hb
              have f0_p := H_p.out.c0
              have f1_p := H_p.out.c1
              have f0_q := H_q.out.c0
              have f1_q := H_q.out.c1
              go_wp2_with fail
              clear f0_p f1_p f0_q f1_q
              generalize w_q.alloc (.cells #[.bool t_q, .slice B_q m_q d_q] 24) = v_q at H_a H_p H_q P ⊢
              refine (cmp_eq (k := 4096) H_p.out.is H_q.out.is S_p S_q (Nat.le_refl _) E8.out).mono ?_
              clear H_p
              clear H_q
              clear H_a
              rintro e x8 ⟨rfl, hb⟩
              replace P := Lib.hid (P.out.trans (hb.mono P.out.size))
              clear hb
              go_wp2_with fail
              refine (awake_c _).mono ?_
              rintro e x9 ⟨rfl, hb⟩
              replace P := Lib.hid (P.out.trans (hb.mono P.out.size))
              clear hb
              go_wp2
              go_ret
              exact ⟨rfl, P.out⟩
          · subst hs
            have f0_c := H_c.out.c0
            have f1_c := H_c.out.c1
            go_wp2_with fail
            clear f0_c f1_c
            refine (awake_c _).mono ?_
            rintro e x7 ⟨rfl, hb⟩
            replace H_a := Lib.hid (H_a.out.next hb)
            replace H_b := Lib.hid (H_b.out.next hb)
            replace H_c := Lib.hid (H_c.out.next hb)
            replace P := Lib.hid (P.out.trans (hb.mono P.out.size))
            clear hb
            go_wp2
            go_ret
            exact ⟨rfl, P.out⟩
      · clear M0
        have f0_a := H_a.out.c0
        have f1_a := H_a.out.c1
        have f0_c := H_c.out.c0
        have f1_c := H_c.out.c1
        go_wp2_with fail
        clear f0_a f1_a f0_c f1_c
        refine (add_is (k := 4096) H_a.out.is H_c.out.is S_a S_c (Nat.le_refl _) S_ac).mono ?_
        rintro e w_ac ⟨t_ac, B_ac, m_ac, d_ac, rfl, hi, hb⟩
        replace H_a := Lib.hid ((H_a.out.next hb).alloc (.cells #[.bool t_ac, .slice B_ac m_ac d_ac] 24))
        replace H_b := Lib.hid ((H_b.out.next hb).alloc (.cells #[.bool t_ac, .slice B_ac m_ac d_ac] 24))
        replace H_c := Lib.hid ((H_c.out.next hb).alloc (.cells #[.bool t_ac, .slice B_ac m_ac d_ac] 24))
        have H_ac := Lib.hid (Box.new hi)
        replace P := Lib.hid ((P.out.trans (hb.mono P.out.size)).alloc (Nat.le_trans P.out.size hb.size) (.cells #[.bool t_ac, .slice B_ac m_ac d_ac] 24))
        clear hi hb
        have f0_b := H_b.out.c0
        have f1_b := H_b.out.c1
        have f0_c := H_c.out.c0
        have f1_c := H_c.out.c1
        go_wp2_with fail
        clear f0_b f1_b f0_c f1_c
        generalize w_ac.alloc (.cells #[.bool t_ac, .slice B_ac m_ac d_ac] 24) = v_ac at H_a H_b H_c H_ac P ⊢
        refine (add_is (k := 4096) H_b.out.is H_c.out.is S_b S_c (Nat.le_refl _) S_bc).mono ?_
        rintro e w_bc ⟨t_bc, B_bc, m_bc, d_bc, rfl, hi, hb⟩
        replace H_a := Lib.hid ((H_a.out.next hb).alloc (.cells #[.bool t_bc, .slice B_bc m_bc d_bc] 24))
        replace H_b := Lib.hid ((H_b.out.next hb).alloc (.cells #[.bool t_bc, .slice B_bc m_bc d_bc] 24))
        replace H_c := Lib.hid ((H_c.out.next hb).alloc (.cells #[.bool t_bc, .slice B_bc m_bc d_bc] 24))
        replace H_ac := Lib.hid ((H_ac.out.next hb).alloc (.cells #[.bool t_bc, .slice B_bc m_bc d_bc] 24))
        have H_bc := Lib.hid (Box.new hi)
        replace P := Lib.hid ((P.out.trans (hb.mono P.out.size)).alloc (Nat.le_trans P.out.size hb.size) (.cells #[.bool t_bc, .slice B_bc m_bc d_bc] 24))
        clear hi hb
        have f0_a := H_a.out.c0
        have f1_a := H_a.out.c1
        have f0_b := H_b.out.c0
        have f1_b := H_b.out.c1
        go_wp2_with fail
        clear f0_a f1_a f0_b f1_b
        generalize w_bc.alloc (.cells #[.bool t_bc, .slice B_bc m_bc d_bc] 24) = v_bc at H_a H_b H_c H_ac H_bc P ⊢
        refine (sub_is (k := 4096) H_a.out.is H_b.out.is S_a S_b (Nat.le_refl _) S_d).mono ?_
        rintro e w_d ⟨t_d, B_d, m_d, d_d, rfl, hi, hb⟩
        replace H_a := Lib.hid ((H_a.out.next hb).alloc (.cells #[.bool t_d, .slice B_d m_d d_d] 24))
        replace H_b := Lib.hid ((H_b.out.next hb).alloc (.cells #[.bool t_d, .slice B_d m_d d_d] 24))
        replace H_c := Lib.hid ((H_c.out.next hb).alloc (.cells #[.bool t_d, .slice B_d m_d d_d] 24))
        replace H_ac := Lib.hid ((H_ac.out.next hb).alloc (.cells #[.bool t_d, .slice B_d m_d d_d] 24))
        replace H_bc := Lib.hid ((H_bc.out.next hb).alloc (.cells #[.bool t_d, .slice B_d m_d d_d] 24))
        have H_d := Lib.hid (Box.new hi)
        replace P := Lib.hid ((P.out.trans (hb.mono P.out.size)).alloc (Nat.le_trans P.out.size hb.size) (.cells #[.bool t_d, .slice B_d m_d d_d] 24))
        clear hi hb
        have f0_ac := H_ac.out.c0
        have f1_ac := H_ac.out.c1
        have f0_bc := H_bc.out.c0
        have f1_bc := H_bc.out.c1
        go_wp2_with fail
        clear f0_ac f1_ac f0_bc f1_bc
        generalize w_d.alloc (.cells #[.bool t_d, .slice B_d m_d d_d] 24) = v_d at H_a H_b H_c H_ac H_bc H_d P ⊢
        refine (cmp_eq (k := 4096) H_ac.out.is H_bc.out.is S_ac S_bc (Nat.le_refl _) E5).mono ?_
        clear H_ac
        clear H_bc
        rintro e x6 ⟨rfl, hb⟩
        replace H_a := Lib.hid (H_a.out.next hb)
        replace H_b := Lib.hid (H_b.out.next hb)
        replace H_c := Lib.hid (H_c.out.next hb)
        replace H_d := Lib.hid (H_d.out.next hb)
        replace P := Lib.hid (P.out.trans (hb.mono P.out.size))
        clear hb
        go_wp2_with fail
        replace H_a := Lib.hid (H_a.out.next (Below.refl _ _).drew)
        replace H_b := Lib.hid (H_b.out.next (Below.refl _ _).drew)
        replace H_c := Lib.hid (H_c.out.next (Below.refl _ _).drew)
        replace H_d := Lib.hid (H_d.out.next (Below.refl _ _).drew)
        replace P := Lib.hid P.out.drew
        have f0_d := H_d.out.c0
        have f1_d := H_d.out.c1
        go_region_held3 (fun w' => w'.cell? ⟨w_d.heap.size, 0, none⟩ = some (.bool t_d) ∧ w'.cell? ⟨w_d.heap.size, 1, none⟩ = some (.slice B_d m_d d_d)) (exact ⟨f0_d, f1_d⟩)
          (first
            | (go_at_call 44
               refine (of_zero _).mono ?_
               rintro e wq ⟨Aq, cq, rfl, iq, hb⟩
               replace H_a := Lib.hid (H_a.out.next hb)
               replace H_b := Lib.hid (H_b.out.next hb)
               replace H_c := Lib.hid (H_c.out.next hb)
               replace H_d := Lib.hid (H_d.out.next hb)
               replace P := Lib.hid (P.out.trans (hb.mono P.out.size))
               replace f0_d := H_d.out.c0
               replace f1_d := H_d.out.c1
               clear hb)
            | (go_at_call 11
               refine (cmp_eq (k := 4096) H_d.out.is iq S_d sz_zero (Nat.le_refl _) E6).mono ?_
               rintro e wr ⟨rfl, hb⟩
               replace H_a := Lib.hid (H_a.out.next hb)
               replace H_b := Lib.hid (H_b.out.next hb)
               replace H_c := Lib.hid (H_c.out.next hb)
               replace H_d := Lib.hid (H_d.out.next hb)
               replace P := Lib.hid (P.out.trans (hb.mono P.out.size))
               replace f0_d := H_d.out.c0
               replace f1_d := H_d.out.c1
               clear hb))
        clear H_d
        clear f0_d f1_d iq
        rcases hs : s3 with _ | _
        · subst hs
          by_cases hn3 : n3 = 0
          · have HN := Lib.hid hn3
            clear hn3
            have f0_c := H_c.out.c0
            have f1_c := H_c.out.c1
            go_wp2_with fail
            clear f0_c f1_c
            refine (zero_c false A3 n3 c3 _).mono ?_
            rintro e x7 ⟨rfl, hb⟩
            replace H_a := Lib.hid (H_a.out.next hb)
            replace H_b := Lib.hid (H_b.out.next hb)
            replace H_c := Lib.hid (H_c.out.next hb)
            replace P := Lib.hid (P.out.trans (hb.mono P.out.size))
            clear hb
            rw [decide_eq_true HN.out]
            clear HN
            go_wp2_with fail
            refine (awake_c _).mono ?_
            rintro e x8 ⟨rfl, hb⟩
            replace H_a := Lib.hid (H_a.out.next hb)
            replace H_b := Lib.hid (H_b.out.next hb)
            replace H_c := Lib.hid (H_c.out.next hb)
            replace P := Lib.hid (P.out.trans (hb.mono P.out.size))
            clear hb
            go_wp2
            go_ret
            exact ⟨rfl, P.out⟩
          · have hz : 0 < z := pos_of H_c.out.is hn3
            have E8 := Lib.hid (E7.out hz)
            clear hz
            have f0_c := H_c.out.c0
            have f1_c := H_c.out.c1
            go_wp2_with fail
            clear f0_c f1_c
            refine (zero_c false A3 n3 c3 _).mono ?_
            rintro e x7 ⟨rfl, hb⟩
            replace H_a := Lib.hid (H_a.out.next hb)
            replace H_b := Lib.hid (H_b.out.next hb)
            replace H_c := Lib.hid (H_c.out.next hb)
            replace P := Lib.hid (P.out.trans (hb.mono P.out.size))
            clear hb
            rw [decide_eq_false hn3]
            clear hn3
            have f0_a := H_a.out.c0
            have f1_a := H_a.out.c1
            have f0_c := H_c.out.c0
            have f1_c := H_c.out.c1
            go_wp2_with fail
            clear f0_a f1_a f0_c f1_c
            refine (mul_is (k := 4096) H_a.out.is H_c.out.is S_a S_c (Nat.le_refl _) S_p).mono ?_
            rintro e w_p ⟨t_p, B_p, m_p, d_p, rfl, hi, hb⟩
            replace H_a := Lib.hid ((H_a.out.next hb).alloc (.cells #[.bool t_p, .slice B_p m_p d_p] 24))
            replace H_b := Lib.hid ((H_b.out.next hb).alloc (.cells #[.bool t_p, .slice B_p m_p d_p] 24))
            replace H_c := Lib.hid ((H_c.out.next hb).alloc (.cells #[.bool t_p, .slice B_p m_p d_p] 24))
            have H_p := Lib.hid (Box.new hi)
            replace P := Lib.hid ((P.out.trans (hb.mono P.out.size)).alloc (Nat.le_trans P.out.size hb.size) (.cells #[.bool t_p, .slice B_p m_p d_p] 24))
            clear hi hb
            have f0_b := H_b.out.c0
            have f1_b := H_b.out.c1
            have f0_c := H_c.out.c0
            have f1_c := H_c.out.c1
            go_wp2_with fail
            clear f0_b f1_b f0_c f1_c
            generalize w_p.alloc (.cells #[.bool t_p, .slice B_p m_p d_p] 24) = v_p at H_a H_b H_c H_p P ⊢
            refine (mul_is (k := 4096) H_b.out.is H_c.out.is S_b S_c (Nat.le_refl _) S_q).mono ?_
            rintro e w_q ⟨t_q, B_q, m_q, d_q, rfl, hi, hb⟩
            clear H_b
            clear H_c
            replace H_a := Lib.hid ((H_a.out.next hb).alloc (.cells #[.bool t_q, .slice B_q m_q d_q] 24))
            replace H_p := Lib.hid ((H_p.out.next hb).alloc (.cells #[.bool t_q, .slice B_q m_q d_q] 24))
            have H_q := Lib.hid (Box.new hi)
            replace P := Lib.hid ((P.out.trans (hb.mono P.out.size)).alloc (Nat.le_trans P.out.size hb.size) (.cells #[.bool t_q, .slice B_q m_q d_q] 24))
            clear hi hb
            have f0_p := H_p.out.c0
            have f1_p := H_p.out.c1
            have f0_q := H_q.out.c0
            have f1_q := H_q.out.c1
            go_wp2_with fail
            clear f0_p f1_p f0_q f1_q
            generalize w_q.alloc (.cells #[.bool t_q, .slice B_q m_q d_q] 24) = v_q at H_a H_p H_q P ⊢
            refine (cmp_eq (k := 4096) H_p.out.is H_q.out.is S_p S_q (Nat.le_refl _) E8.out).mono ?_
            clear H_p
            clear H_q
            clear H_a
            rintro e x8 ⟨rfl, hb⟩
            replace P := Lib.hid (P.out.trans (hb.mono P.out.size))
            clear hb
            go_wp2_with fail
            refine (awake_c _).mono ?_
            rintro e x9 ⟨rfl, hb⟩
            replace P := Lib.hid (P.out.trans (hb.mono P.out.size))
            clear hb
            go_wp2
            go_ret
            exact ⟨rfl, P.out⟩
        · subst hs
          have f0_c := H_c.out.c0
          have f1_c := H_c.out.c1
          go_wp2_with fail
          clear f0_c f1_c
          refine (awake_c _).mono ?_
          rintro e x7 ⟨rfl, hb⟩
          replace H_a := Lib.hid (H_a.out.next hb)
          replace H_b := Lib.hid (H_b.out.next hb)
          replace H_c := Lib.hid (H_c.out.next hb)
          replace P := Lib.hid (P.out.trans (hb.mono P.out.size))
          clear hb
          go_wp2
          go_ret
          exact ⟨rfl, P.out⟩
    · clear M0
      have f0_a := H_a.out.c0
      have f1_a := H_a.out.c1
      have f0_c := H_c.out.c0
      have f1_c := H_c.out.c1
      go_wp2_with fail
      clear f0_a f1_a f0_c f1_c
      refine (add_is (k := 4096) H_a.out.is H_c.out.is S_a S_c (Nat.le_refl _) S_ac).mono ?_
      rintro e w_ac ⟨t_ac, B_ac, m_ac, d_ac, rfl, hi, hb⟩
      replace H_a := Lib.hid ((H_a.out.next hb).alloc (.cells #[.bool t_ac, .slice B_ac m_ac d_ac] 24))
      replace H_b := Lib.hid ((H_b.out.next hb).alloc (.cells #[.bool t_ac, .slice B_ac m_ac d_ac] 24))
      replace H_c := Lib.hid ((H_c.out.next hb).alloc (.cells #[.bool t_ac, .slice B_ac m_ac d_ac] 24))
      have H_ac := Lib.hid (Box.new hi)
      replace P := Lib.hid ((P.out.trans (hb.mono P.out.size)).alloc (Nat.le_trans P.out.size hb.size) (.cells #[.bool t_ac, .slice B_ac m_ac d_ac] 24))
      clear hi hb
      have f0_b := H_b.out.c0
      have f1_b := H_b.out.c1
      have f0_c := H_c.out.c0
      have f1_c := H_c.out.c1
      go_wp2_with fail
      clear f0_b f1_b f0_c f1_c
      generalize w_ac.alloc (.cells #[.bool t_ac, .slice B_ac m_ac d_ac] 24) = v_ac at H_a H_b H_c H_ac P ⊢
      refine (add_is (k := 4096) H_b.out.is H_c.out.is S_b S_c (Nat.le_refl _) S_bc).mono ?_
      rintro e w_bc ⟨t_bc, B_bc, m_bc, d_bc, rfl, hi, hb⟩
      replace H_a := Lib.hid ((H_a.out.next hb).alloc (.cells #[.bool t_bc, .slice B_bc m_bc d_bc] 24))
      replace H_b := Lib.hid ((H_b.out.next hb).alloc (.cells #[.bool t_bc, .slice B_bc m_bc d_bc] 24))
      replace H_c := Lib.hid ((H_c.out.next hb).alloc (.cells #[.bool t_bc, .slice B_bc m_bc d_bc] 24))
      replace H_ac := Lib.hid ((H_ac.out.next hb).alloc (.cells #[.bool t_bc, .slice B_bc m_bc d_bc] 24))
      have H_bc := Lib.hid (Box.new hi)
      replace P := Lib.hid ((P.out.trans (hb.mono P.out.size)).alloc (Nat.le_trans P.out.size hb.size) (.cells #[.bool t_bc, .slice B_bc m_bc d_bc] 24))
      clear hi hb
      have f0_a := H_a.out.c0
      have f1_a := H_a.out.c1
      have f0_b := H_b.out.c0
      have f1_b := H_b.out.c1
      go_wp2_with fail
      clear f0_a f1_a f0_b f1_b
      generalize w_bc.alloc (.cells #[.bool t_bc, .slice B_bc m_bc d_bc] 24) = v_bc at H_a H_b H_c H_ac H_bc P ⊢
      refine (sub_is (k := 4096) H_a.out.is H_b.out.is S_a S_b (Nat.le_refl _) S_d).mono ?_
      rintro e w_d ⟨t_d, B_d, m_d, d_d, rfl, hi, hb⟩
      replace H_a := Lib.hid ((H_a.out.next hb).alloc (.cells #[.bool t_d, .slice B_d m_d d_d] 24))
      replace H_b := Lib.hid ((H_b.out.next hb).alloc (.cells #[.bool t_d, .slice B_d m_d d_d] 24))
      replace H_c := Lib.hid ((H_c.out.next hb).alloc (.cells #[.bool t_d, .slice B_d m_d d_d] 24))
      replace H_ac := Lib.hid ((H_ac.out.next hb).alloc (.cells #[.bool t_d, .slice B_d m_d d_d] 24))
      replace H_bc := Lib.hid ((H_bc.out.next hb).alloc (.cells #[.bool t_d, .slice B_d m_d d_d] 24))
      have H_d := Lib.hid (Box.new hi)
      replace P := Lib.hid ((P.out.trans (hb.mono P.out.size)).alloc (Nat.le_trans P.out.size hb.size) (.cells #[.bool t_d, .slice B_d m_d d_d] 24))
      clear hi hb
      have f0_ac := H_ac.out.c0
      have f1_ac := H_ac.out.c1
      have f0_bc := H_bc.out.c0
      have f1_bc := H_bc.out.c1
      go_wp2_with fail
      clear f0_ac f1_ac f0_bc f1_bc
      generalize w_d.alloc (.cells #[.bool t_d, .slice B_d m_d d_d] 24) = v_d at H_a H_b H_c H_ac H_bc H_d P ⊢
      refine (cmp_eq (k := 4096) H_ac.out.is H_bc.out.is S_ac S_bc (Nat.le_refl _) E5).mono ?_
      clear H_ac
      clear H_bc
      rintro e x6 ⟨rfl, hb⟩
      replace H_a := Lib.hid (H_a.out.next hb)
      replace H_b := Lib.hid (H_b.out.next hb)
      replace H_c := Lib.hid (H_c.out.next hb)
      replace H_d := Lib.hid (H_d.out.next hb)
      replace P := Lib.hid (P.out.trans (hb.mono P.out.size))
      clear hb
      go_wp2_with fail
      replace H_a := Lib.hid (H_a.out.next (Below.refl _ _).drew)
      replace H_b := Lib.hid (H_b.out.next (Below.refl _ _).drew)
      replace H_c := Lib.hid (H_c.out.next (Below.refl _ _).drew)
      replace H_d := Lib.hid (H_d.out.next (Below.refl _ _).drew)
      replace P := Lib.hid P.out.drew
      have f0_d := H_d.out.c0
      have f1_d := H_d.out.c1
      go_region_held3 (fun w' => w'.cell? ⟨w_d.heap.size, 0, none⟩ = some (.bool t_d) ∧ w'.cell? ⟨w_d.heap.size, 1, none⟩ = some (.slice B_d m_d d_d)) (exact ⟨f0_d, f1_d⟩)
        (first
          | (go_at_call 44
             refine (of_zero _).mono ?_
             rintro e wq ⟨Aq, cq, rfl, iq, hb⟩
             replace H_a := Lib.hid (H_a.out.next hb)
             replace H_b := Lib.hid (H_b.out.next hb)
             replace H_c := Lib.hid (H_c.out.next hb)
             replace H_d := Lib.hid (H_d.out.next hb)
             replace P := Lib.hid (P.out.trans (hb.mono P.out.size))
             replace f0_d := H_d.out.c0
             replace f1_d := H_d.out.c1
             clear hb)
          | (go_at_call 11
             refine (cmp_eq (k := 4096) H_d.out.is iq S_d sz_zero (Nat.le_refl _) E6).mono ?_
             rintro e wr ⟨rfl, hb⟩
             replace H_a := Lib.hid (H_a.out.next hb)
             replace H_b := Lib.hid (H_b.out.next hb)
             replace H_c := Lib.hid (H_c.out.next hb)
             replace H_d := Lib.hid (H_d.out.next hb)
             replace P := Lib.hid (P.out.trans (hb.mono P.out.size))
             replace f0_d := H_d.out.c0
             replace f1_d := H_d.out.c1
             clear hb))
      clear H_d
      clear f0_d f1_d iq
      rcases hs : s3 with _ | _
      · subst hs
        by_cases hn3 : n3 = 0
        · have HN := Lib.hid hn3
          clear hn3
          have f0_c := H_c.out.c0
          have f1_c := H_c.out.c1
          go_wp2_with fail
          clear f0_c f1_c
          refine (zero_c false A3 n3 c3 _).mono ?_
          rintro e x7 ⟨rfl, hb⟩
          replace H_a := Lib.hid (H_a.out.next hb)
          replace H_b := Lib.hid (H_b.out.next hb)
          replace H_c := Lib.hid (H_c.out.next hb)
          replace P := Lib.hid (P.out.trans (hb.mono P.out.size))
          clear hb
          rw [decide_eq_true HN.out]
          clear HN
          go_wp2_with fail
          refine (awake_c _).mono ?_
          rintro e x8 ⟨rfl, hb⟩
          replace H_a := Lib.hid (H_a.out.next hb)
          replace H_b := Lib.hid (H_b.out.next hb)
          replace H_c := Lib.hid (H_c.out.next hb)
          replace P := Lib.hid (P.out.trans (hb.mono P.out.size))
          clear hb
          go_wp2
          go_ret
          exact ⟨rfl, P.out⟩
        · have hz : 0 < z := pos_of H_c.out.is hn3
          have E8 := Lib.hid (E7.out hz)
          clear hz
          have f0_c := H_c.out.c0
          have f1_c := H_c.out.c1
          go_wp2_with fail
          clear f0_c f1_c
          refine (zero_c false A3 n3 c3 _).mono ?_
          rintro e x7 ⟨rfl, hb⟩
          replace H_a := Lib.hid (H_a.out.next hb)
          replace H_b := Lib.hid (H_b.out.next hb)
          replace H_c := Lib.hid (H_c.out.next hb)
          replace P := Lib.hid (P.out.trans (hb.mono P.out.size))
          clear hb
          rw [decide_eq_false hn3]
          clear hn3
          have f0_a := H_a.out.c0
          have f1_a := H_a.out.c1
          have f0_c := H_c.out.c0
          have f1_c := H_c.out.c1
          go_wp2_with fail
          clear f0_a f1_a f0_c f1_c
          refine (mul_is (k := 4096) H_a.out.is H_c.out.is S_a S_c (Nat.le_refl _) S_p).mono ?_
          rintro e w_p ⟨t_p, B_p, m_p, d_p, rfl, hi, hb⟩
          replace H_a := Lib.hid ((H_a.out.next hb).alloc (.cells #[.bool t_p, .slice B_p m_p d_p] 24))
          replace H_b := Lib.hid ((H_b.out.next hb).alloc (.cells #[.bool t_p, .slice B_p m_p d_p] 24))
          replace H_c := Lib.hid ((H_c.out.next hb).alloc (.cells #[.bool t_p, .slice B_p m_p d_p] 24))
          have H_p := Lib.hid (Box.new hi)
          replace P := Lib.hid ((P.out.trans (hb.mono P.out.size)).alloc (Nat.le_trans P.out.size hb.size) (.cells #[.bool t_p, .slice B_p m_p d_p] 24))
          clear hi hb
          have f0_b := H_b.out.c0
          have f1_b := H_b.out.c1
          have f0_c := H_c.out.c0
          have f1_c := H_c.out.c1
          go_wp2_with fail
          clear f0_b f1_b f0_c f1_c
          generalize w_p.alloc (.cells #[.bool t_p, .slice B_p m_p d_p] 24) = v_p at H_a H_b H_c H_p P ⊢
          refine (mul_is (k := 4096) H_b.out.is H_c.out.is S_b S_c (Nat.le_refl _) S_q).mono ?_
          rintro e w_q ⟨t_q, B_q, m_q, d_q, rfl, hi, hb⟩
          clear H_b
          clear H_c
          replace H_a := Lib.hid ((H_a.out.next hb).alloc (.cells #[.bool t_q, .slice B_q m_q d_q] 24))
          replace H_p := Lib.hid ((H_p.out.next hb).alloc (.cells #[.bool t_q, .slice B_q m_q d_q] 24))
          have H_q := Lib.hid (Box.new hi)
          replace P := Lib.hid ((P.out.trans (hb.mono P.out.size)).alloc (Nat.le_trans P.out.size hb.size) (.cells #[.bool t_q, .slice B_q m_q d_q] 24))
          clear hi hb
          have f0_p := H_p.out.c0
          have f1_p := H_p.out.c1
          have f0_q := H_q.out.c0
          have f1_q := H_q.out.c1
          go_wp2_with fail
          clear f0_p f1_p f0_q f1_q
          generalize w_q.alloc (.cells #[.bool t_q, .slice B_q m_q d_q] 24) = v_q at H_a H_p H_q P ⊢
          refine (cmp_eq (k := 4096) H_p.out.is H_q.out.is S_p S_q (Nat.le_refl _) E8.out).mono ?_
          clear H_p
          clear H_q
          clear H_a
          rintro e x8 ⟨rfl, hb⟩
          replace P := Lib.hid (P.out.trans (hb.mono P.out.size))
          clear hb
          go_wp2_with fail
          refine (awake_c _).mono ?_
          rintro e x9 ⟨rfl, hb⟩
          replace P := Lib.hid (P.out.trans (hb.mono P.out.size))
          clear hb
          go_wp2
          go_ret
          exact ⟨rfl, P.out⟩
      · subst hs
        have f0_c := H_c.out.c0
        have f1_c := H_c.out.c1
        go_wp2_with fail
        clear f0_c f1_c
        refine (awake_c _).mono ?_
        rintro e x7 ⟨rfl, hb⟩
        replace H_a := Lib.hid (H_a.out.next hb)
        replace H_b := Lib.hid (H_b.out.next hb)
        replace H_c := Lib.hid (H_c.out.next hb)
        replace P := Lib.hid (P.out.trans (hb.mono P.out.size))
        clear hb
        go_wp2
        go_ret
        exact ⟨rfl, P.out⟩
  · rw [decide_eq_false hL]
    clear HB HK R1 R2 R3 hb hL
    go_wp2_with fail
    refine (awake_c _).mono ?_
    rintro e w9 ⟨rfl, hb⟩
    replace P := Lib.hid (P.out.trans (hb.mono P.out.size))
    clear hb
    go_wp2
    go_ret
    exact ⟨rfl, P.out⟩
end Go.Proofs.Ytpgiifjngkekgaa

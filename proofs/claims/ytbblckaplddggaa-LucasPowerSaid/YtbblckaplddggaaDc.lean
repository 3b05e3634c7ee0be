import Derived.Test.YtbblckaplddggaaDb
import Derived.Test.YtbblckaplddggaaOc
import Derived.Test.YtbblckaplddggaaMt
set_option maxRecDepth 100000
namespace Go.Proofs.Ytbblckaplddggaa
open Go.RowKit Go.Shelf
/-- chi(n) - (a - b) psi(n) is b^n and a multiple, not negative, of 2ab - b b - 1 -/
theorem powers_of {a b : Int} (h1 : 1 ≤ b) (ha : 2 ≤ a) : ∀ k : Nat, ∃ q : Int, 0 ≤ q ∧ chi a k - (a - b) * psi a k = b ^ k + (2 * (a * b) - b * b - 1) * q := by
  intro k
  induction k with
  | zero => exact ⟨0, by omega, by simp [chi, psi]⟩
  | succ k ih =>
    obtain ⟨q, h0, hq⟩ := ih
    refine ⟨b * q + psi a k, ?_, ?_⟩
    · have := Int.mul_nonneg (by omega : 0 ≤ b) h0
      have := psi_nn ha k
      omega
    · rw [chi_succ, psi_succ, Int.pow_succ]
      have e : chi a k = b ^ k + (2 * (a * b) - b * b - 1) * q + (a - b) * psi a k := by omega
      rw [e]
      grind
theorem pow_m {a b : Int} (h1 : 1 ≤ b) (h2 : b ≤ a) : 0 ≤ 2 * (a * b) - b * b - 1 := by
  have e1 : b * b ≤ a * b := Int.mul_le_mul_of_nonneg_right h2 (by omega)
  have e2 : 1 * 1 ≤ a * b := Int.mul_le_mul (by omega) h1 (by omega) (by omega)
  omega
set_option maxHeartbeats 16000000 in
theorem LucasPower_c (s : Bool) (A : Option Addr) (n c : Nat) (xs : List Nat) (s' : Bool) (A' : Option Addr) (n' c' : Nat) (ys : List Nat) (x N : Nat) (hN : N ≤ 60) (hx : x < 256) (e1 : (x : Int) % 61 = (N : Int)) (w : World) (h : Rd w A n xs) (hn : n ≤ c) (hc : c ≤ 9223372036854775807) (h' : Rd w A' n' ys) (hn' : n' ≤ c') (hc' : c' ≤ 9223372036854775807) :
    Calls Try.prog 11 #[.agg #[.bool s, .slice A n c], .agg #[.bool s', .slice A' n' c'], .int .u8 (x : Int)] w (IsB true w) := by
  have hb := below_alloc w (.cells #[.bool s, .slice A n c] 24)
  have P := Lib.hid (hb.alloc hb.size (.cells #[.bool s', .slice A' n' c'] 24))
  have V0 := Lib.hid ((Vb.new w w s A n c (Nat.le_refl _)).below (below_alloc _ (.cells #[.bool s', .slice A' n' c'] 24)))
  have RA := Lib.hid ((h.below hb).below (below_alloc _ (.cells #[.bool s', .slice A' n' c'] 24)))
  have Y := Lib.hid (Rb.new (s := s') (c := c') (h'.below hb))
  rw [World.size_alloc] at Y
  have HN := Lib.hid (And.intro (And.intro hn hc) (And.intro hn' hc'))
  have HN60 := Lib.hid hN
  obtain ⟨K, hK⟩ : ∃ K : Int, K = (N : Int) := ⟨_, rfl⟩
  rw [← hK] at e1
  have k0 : 0 ≤ K := by omega
  have k1 : K ≤ 60 := by omega
  have HK := Lib.hid hK
  clear h hn hc h' hn' hc' hN hb hK
  go_enter Try.func11, Try.ntmps11
  go_upto_region 1 with (fail)
  generalize (w.alloc (.cells #[.bool s, .slice A n c] 24)).alloc (.cells #[.bool s', .slice A' n' c'] 24) = W0 at P V0 RA Y ⊢
  obtain ⟨ga, hga⟩ : ∃ g, g = w.heap.size := ⟨_, rfl⟩
  have HGA := Lib.hid (show w.heap.size ≤ ga by omega)
  rw [← hga] at V0 Y ⊢
  clear hga
  have xV00 := V0.out.c0
  have xV01 := V0.out.c1
  go_wp2_with fail
  refine (small_c s A n c xs _ RA.out HN.out.1.1 HN.out.1.2).mono ?_
  rintro e w1 ⟨a, t0, A0, n0, c0, rfl, i0, ha, hs, hb⟩
  replace P := Lib.hid (P.out.trans (hb.mono P.out.size))
  replace V0 := Lib.hid (V0.out.below hb)
  replace RA := Lib.hid (RA.out.below hb)
  replace Y := Lib.hid (Y.out.next hb)
  have I0 := Lib.hid (i0)
  clear hb xV00 xV01
  have HA := Lib.hid ha
  have HS := Lib.hid hs
  clear i0 ha hs
  clear RA
  have f0 := V0.out.c0
  have f1 := V0.out.c1
  have f2 := V0.out.f0
  have f3 := V0.out.f1
  go_upto_region 2 with (fail)
  have Xa := Lib.hid (V0.out.nvr I0.out.is)
  replace Y := Lib.hid (Y.out.two (by omega) f0 f1 (.bool t0) (.slice A0 n0 c0))
  replace P := Lib.hid (below_store P.out (g := ga) HGA.out (.bool t0) (.slice A0 n0 c0))
  clear f0 f1 f2 f3 V0 I0
  generalize (w1.setCell ⟨ga, 0, none⟩ (.bool t0)).setCell ⟨ga, 1, none⟩ (.slice A0 n0 c0) = W1 at P Xa Y ⊢
  obtain ⟨vb, hvb⟩ : ∃ v, v = validB s' ys := ⟨_, rfl⟩
  have HVB := Lib.hid hvb.symm
  clear hvb
  have xY0 := Y.out.c0
  have xY1 := Y.out.c1
  go_wp2_with fail
  refine (refValid_c s' A' n' c' ys _ Y.out.rd).mono ?_
  rw [HVB.out]
  rintro e w2 ⟨rfl, hb⟩
  replace P := Lib.hid (P.out.trans (hb.mono P.out.size))
  replace Y := Lib.hid (Y.out.next hb)
  replace Xa := Lib.hid (Xa.out.next hb)
  clear hb xY0 xY1
  cases vb with
  | false =>
    go_wp2_with fail
    refine (awake8_c _).mono ?_
    rintro e u9 ⟨rfl, b9⟩
    have P9 := Lib.hid (P.out.trans (b9.mono P.out.size))
    clear b9
    go_wp2
    go_ret
    exact ⟨rfl, P9.out⟩
  | true =>
    cases s' with
    | true =>
      have y0 := Y.out.c0
      have y1 := Y.out.c1
      go_wp2_with fail
      refine (awake8_c _).mono ?_
      rintro e u9 ⟨rfl, b9⟩
      have P9 := Lib.hid (P.out.trans (b9.mono P.out.size))
      clear b9
      go_wp2
      go_ret
      exact ⟨rfl, P9.out⟩
    | false =>
      have HI := Lib.hid (fun (W : World) (r : Rd W A' n' ys) => raw_iv (s := false) (c := c') r HVB.out HN.out.2.1 HN.out.2.2)
      obtain ⟨b, hbd⟩ : ∃ b, b = sgn false (val ys) := ⟨_, rfl⟩
      have HB0 := Lib.hid (show 0 ≤ b by rw [hbd]; show (0 : Int) ≤ (val ys : Int); omega)
      rw [← hbd] at HI
      clear hbd
      have xY0 := Y.out.c0
      have xY1 := Y.out.c1
      go_wp2_with fail
      refine (Zero_z (HI.out _ Y.out.rd).is).mono ?_
      rintro e w3 ⟨rfl, hb⟩
      replace P := Lib.hid (P.out.trans (hb.mono P.out.size))
      replace Y := Lib.hid (Y.out.next hb)
      replace Xa := Lib.hid (Xa.out.next hb)
      clear hb xY0 xY1
      by_cases hb0 : b = 0
      · rw [decide_eq_true hb0]
        clear hb0
        go_wp2_with fail
        refine (awake8_c _).mono ?_
        rintro e u9 ⟨rfl, b9⟩
        have P9 := Lib.hid (P.out.trans (b9.mono P.out.size))
        clear b9
        go_wp2
        go_ret
        exact ⟨rfl, P9.out⟩
      · rw [decide_eq_false hb0]
        have HB := Lib.hid (show 1 ≤ b by have := HB0.out; omega)
        clear hb0
        have xXa0 := Xa.out.c0
        have xXa1 := Xa.out.c1
        have xY0 := Y.out.c0
        have xY1 := Y.out.c1
        go_wp2_with fail
        refine (refCmp_c (HI.out _ Y.out.rd).is Xa.out.is (Nat.le_trans (raw_len Y.out.rd HVB.out) (by omega)) (Nat.le_trans (Xa.out.is.len HS.out) (by omega))).mono ?_
        rintro e w4 ⟨rfl, hb⟩
        replace P := Lib.hid (P.out.trans (hb.mono P.out.size))
        replace Y := Lib.hid (Y.out.next hb)
        replace Xa := Lib.hid (Xa.out.next hb)
        clear hb xXa0 xXa1 xY0 xY1
        rcases (show ord b a = 1 ∨ (ord b a ≤ 0 ∧ b ≤ a) by rcases ord_cases b a with (⟨h4, h5⟩ | ⟨h4, h5⟩ | ⟨h4, h5⟩) <;> omega) with (hgt | ⟨hle, hba⟩)
        · rw [hgt]
          clear hgt
          go_wp2_with fail
          refine (awake8_c _).mono ?_
          rintro e u9 ⟨rfl, b9⟩
          have P9 := Lib.hid (P.out.trans (b9.mono P.out.size))
          clear b9
          go_wp2
          go_ret
          exact ⟨rfl, P9.out⟩
        · obtain ⟨r, hr⟩ : ∃ r, r = ord b a := ⟨_, rfl⟩
          rw [← hr] at hle ⊢
          have r1 : decide (0 < r) = false := decide_eq_false (by omega)
          have HBA := Lib.hid hba
          clear hr hba
          have SB := Lib.hid (sz_of_le' HB0.out HBA.out HS.out)
          have HBo := Lib.hid (fun (W : World) (i : Iv W a t0 A0 n0 c0) => both_c i HA.out N (by have := HN60.out; omega) ((sz_chi_at HA.out HS.out (by have := HN60.out; omega)).le (by omega)) ((sz_psi_at HA.out HS.out (by have := HN60.out; omega)).le (by omega)))
          rw [← HK.out] at HBo
          have xXa0 := Xa.out.c0
          have xXa1 := Xa.out.c1
          go_wp2_with fail
          refine (HBo.out _ (Xa.out.is.iv_of (HS.out.le (by omega)))).mono ?_
          rintro e w5 ⟨t8, A8, n8, c8, t9, A9, n9, c9, rfl, i8, i9, hb⟩
          replace P := Lib.hid (P.out.trans (hb.mono P.out.size))
          replace Y := Lib.hid (Y.out.next hb)
          replace Xa := Lib.hid (Xa.out.next hb)
          clear hb xXa0 xXa1
          have X8 := Lib.hid ((Nvr.new i8.is).alloc (.cells #[.bool t9, .slice A9 n9 c9] 24))
          have X9 := Lib.hid (Nvr.new (i9.is.below (below_alloc w5 (.cells #[.bool t8, .slice A8 n8 c8] 24))))
          rw [World.size_alloc] at X9
          replace P := Lib.hid ((P.out.alloc P.out.size (.cells #[.bool t8, .slice A8 n8 c8] 24)).alloc (by have := P.out.size; simp; omega) (.cells #[.bool t9, .slice A9 n9 c9] 24))
          replace Xa := Lib.hid ((Xa.out.next (below_alloc _ (.cells #[.bool t8, .slice A8 n8 c8] 24))).next (below_alloc _ (.cells #[.bool t9, .slice A9 n9 c9] 24)))
          replace Y := Lib.hid ((Y.out.next (below_alloc _ (.cells #[.bool t8, .slice A8 n8 c8] 24))).next (below_alloc _ (.cells #[.bool t9, .slice A9 n9 c9] 24)))
          clear i8 i9 HBo
          go_upto_region 6 with (fail)
          generalize (w5.alloc (.cells #[.bool t8, .slice A8 n8 c8] 24)).alloc (.cells #[.bool t9, .slice A9 n9 c9] 24) = W2 at P Xa Y X8 X9 ⊢
          obtain ⟨g8, hg8⟩ : ∃ g, g = w5.heap.size := ⟨_, rfl⟩
          rw [← hg8] at X8 X9 ⊢
          clear hg8
          have HPw := Lib.hid (fun (W : World) (r : Rd W A' n' ys) => refPower_c (HI.out W r).is (raw_len r HVB.out) N (by have := HN60.out; omega))
          rw [← HK.out] at HPw
          have SPw := Lib.hid (show Sz (b ^ N) 421 from (sz_pow2 SB.out N).le (by have := HN60.out; have : 7 * N ≤ 7 * 60 := Nat.mul_le_mul_left 7 this; omega))
          have xY0 := Y.out.c0
          have xY1 := Y.out.c1
          go_wp2_with fail
          refine (HPw.out _ Y.out.rd).mono ?_
          rintro e w6 ⟨t11, A11, n11, c11, ok, rfl, hyes, hno, hb⟩
          replace P := Lib.hid (P.out.trans (hb.mono P.out.size))
          replace Y := Lib.hid (Y.out.next hb)
          replace Xa := Lib.hid (Xa.out.next hb)
          replace X8 := Lib.hid (X8.out.next hb)
          replace X9 := Lib.hid (X9.out.next hb)
          clear hb xY0 xY1
          have hok : ok = true := by
            cases ok
            · exact absurd (Nat.le_trans SPw.out.len (by omega)) (hno rfl)
            · rfl
          subst hok
          have X11 := Lib.hid (Nvr.new (hyes rfl))
          replace P := Lib.hid (P.out.alloc P.out.size (.cells #[.bool t11, .slice A11 n11 c11] 24))
          replace Xa := Lib.hid (Xa.out.next (below_alloc _ (.cells #[.bool t11, .slice A11 n11 c11] 24)))
          replace Y := Lib.hid (Y.out.next (below_alloc _ (.cells #[.bool t11, .slice A11 n11 c11] 24)))
          replace X8 := Lib.hid (X8.out.next (below_alloc _ (.cells #[.bool t11, .slice A11 n11 c11] 24)))
          replace X9 := Lib.hid (X9.out.next (below_alloc _ (.cells #[.bool t11, .slice A11 n11 c11] 24)))
          clear hyes hno HPw
          go_upto_region 7 with (fail)
          generalize w6.alloc (.cells #[.bool t11, .slice A11 n11 c11] 24) = W3 at P Xa Y X8 X9 X11 ⊢
          obtain ⟨g11, hg11⟩ : ∃ g, g = w6.heap.size := ⟨_, rfl⟩
          rw [← hg11] at X11 ⊢
          clear hg11
          have SM := Lib.hid (show Sz (a * b) 14 from HS.out.mul SB.out)
          have SBB := Lib.hid (show Sz (b * b) 14 from SB.out.mul SB.out)
          have S2 := Lib.hid (show Sz (2 * (a * b)) 15 from sz_two.mul SM.out)
          have S3 := Lib.hid (show Sz (2 * (a * b) - b * b) 16 from S2.out.sub (SBB.out.le (by omega)))
          have S4 := Lib.hid (show Sz (2 * (a * b) - b * b - 1) 17 from S3.out.sub (sz_one' (by omega)))
          go_cut [13] (fun v W => ∃ g t13 A13 n13 c13, v = .pointer (some ⟨g, 0, none⟩) ∧ Below w.heap.size w W ∧ Nvr W ga a t0 A0 n0 c0 ∧ Rb W (ga + 1) false A' n' c' ys ∧ Nvr W g8 (chi a N) t8 A8 n8 c8 ∧ Nvr W (g8 + 1) (psi a N) t9 A9 n9 c9 ∧ Nvr W g11 (b ^ N) t11 A11 n11 c11 ∧ Nvr W g (2 * (a * b) - b * b - 1) t13 A13 n13 c13)
          case first =>
            refine wp_region_tail (S := (fun w' => w'.cell? ⟨ga, 0, none⟩ = some (.bool t0) ∧ w'.cell? ⟨ga, 1, none⟩ = some (.slice A0 n0 c0) ∧ w'.cell? ⟨ga + 1, 0, none⟩ = some (.bool false) ∧ w'.cell? ⟨ga + 1, 1, none⟩ = some (.slice A' n' c'))) 12 (by kernel_rfl) (by kernel_rfl) (by intro c a d v w h; cases d <;> exact h) ⟨cell_dr Xa.out.c0, cell_dr Xa.out.c1, cell_dr Y.out.c0, cell_dr Y.out.c1⟩ (fun QT hT hP hHeld => ?_)
            simp only [List.extract_toArray, List.extract_eq_take_drop, List.drop_zero, Nat.sub_zero, List.take_succ_cons, List.take_zero]
            have HT := Lib.hid hT
            clear hT
            replace P := Lib.hid (P.out.trans ((Below.refl W3.heap.size W3).drew.mono P.out.size))
            replace Y := Lib.hid (Y.out.next (Below.refl W3.heap.size W3).drew)
            replace Xa := Lib.hid (Xa.out.next (Below.refl W3.heap.size W3).drew)
            replace X8 := Lib.hid (X8.out.next (Below.refl W3.heap.size W3).drew)
            replace X9 := Lib.hid (X9.out.next (Below.refl W3.heap.size W3).drew)
            replace X11 := Lib.hid (X11.out.next (Below.refl W3.heap.size W3).drew)
            generalize W3.drew = D7 at P Y Xa X8 X9 X11 hHeld ⊢
            refine take_on (i := 1) (d := (some 52)) (v := ?v1) rfl rfl (by kernel_rfl) (by kernel_rfl) (by kernel_rfl) (fun c a w h => hP c a _ _ w h) (by rfl) ?h1 (by assumption) ?r1
            case h1 => intro w hSw; obtain ⟨h0, h1, h2, h3⟩ := hSw; go_simp; rfl
            simp only [Act.put, List.setIfInBounds_toArray, List.set_cons_zero, List.set_cons_succ]
            refine take_on (i := 2) (d := (some 53)) (v := ?v2) rfl rfl (by kernel_rfl) (by kernel_rfl) (by kernel_rfl) (fun c a w h => hP c a _ _ w h) (by rfl) ?h2 (by assumption) ?r2
            case h2 => intro w hSw; obtain ⟨h0, h1, h2, h3⟩ := hSw; go_simp; rfl
            simp only [Act.put, List.setIfInBounds_toArray, List.set_cons_zero, List.set_cons_succ]
            refine take_on (i := 5) (d := (some 56)) (v := ?v3) rfl rfl (by kernel_rfl) (by kernel_rfl) (by kernel_rfl) (fun c a w h => hP c a _ _ w h) (by rfl) ?h3 (by assumption) ?r3
            case h3 => intro w hSw; obtain ⟨h0, h1, h2, h3⟩ := hSw; go_simp; rfl
            simp only [Act.put, List.setIfInBounds_toArray, List.set_cons_zero, List.set_cons_succ]
            refine take_on (i := 6) (d := (some 57)) (v := ?v4) rfl rfl (by kernel_rfl) (by kernel_rfl) (by kernel_rfl) (fun c a w h => hP c a _ _ w h) (by rfl) ?h4 (by assumption) ?r4
            case h4 => intro w hSw; obtain ⟨h0, h1, h2, h3⟩ := hSw; go_simp; rfl
            simp only [Act.put, List.setIfInBounds_toArray, List.set_cons_zero, List.set_cons_succ]
            refine wpAnyH_ready (rs := [0, 11]) (by kernel_rfl) (by simp) ?_
            refine AllReadyH.cons rfl (fun K hK => ?_) ?_
            ·
              go_simp
              refine (refOfV 2 _ (by omega) (by omega)).mono ?_
              rintro e w8 ⟨t20, A20, n20, c20, rfl, i20, hb⟩
              replace P := Lib.hid (P.out.trans (hb.mono P.out.size))
              replace Y := Lib.hid (Y.out.next hb)
              replace Xa := Lib.hid (Xa.out.next hb)
              replace X8 := Lib.hid (X8.out.next hb)
              replace X9 := Lib.hid (X9.out.next hb)
              replace X11 := Lib.hid (X11.out.next hb)
              have J0 := Lib.hid (i20.is)
              clear hb hHeld i20
              refine hK.out _ _ ⟨Xa.out.c0, Xa.out.c1, Y.out.c0, Y.out.c1⟩ (fun hHeld => ?_)
              clear hK K
              refine wpAnyH_ready (rs := [3, 11]) (by kernel_rfl) (by simp) ?_
              refine AllReadyH.cons rfl (fun K hK => ?_) ?_
              ·
                go_simp
                refine (refMul_c Xa.out.is (HI.out _ Y.out.rd).is (Nat.le_trans (Xa.out.is.len HS.out) (by omega)) (Nat.le_trans ((HI.out _ Y.out.rd).is.len SB.out) (by omega))).mono ?_
                rintro e w9 ⟨t21, A21, n21, c21, rfl, i21, hb⟩
                replace P := Lib.hid (P.out.trans (hb.mono P.out.size))
                replace Y := Lib.hid (Y.out.next hb)
                replace Xa := Lib.hid (Xa.out.next hb)
                replace X8 := Lib.hid (X8.out.next hb)
                replace X9 := Lib.hid (X9.out.next hb)
                replace X11 := Lib.hid (X11.out.next hb)
                replace J0 := Lib.hid (J0.out.below hb)
                have J1 := Lib.hid (i21)
                clear hb hHeld i21
                refine hK.out _ _ ⟨Xa.out.c0, Xa.out.c1, Y.out.c0, Y.out.c1⟩ (fun hHeld => ?_)
                clear hK K
                refine wpAnyH_ready (rs := [4, 11]) (by kernel_rfl) (by simp) ?_
                refine AllReadyH.cons rfl (fun K hK => ?_) ?_
                ·
                  go_simp
                  refine (refMul_c J0.out J1.out (Nat.le_trans (J0.out.len sz_two) (by omega)) (Nat.le_trans (J1.out.len SM.out) (by omega))).mono ?_
                  rintro e w10 ⟨t22, A22, n22, c22, rfl, i22, hb⟩
                  replace P := Lib.hid (P.out.trans (hb.mono P.out.size))
                  replace Y := Lib.hid (Y.out.next hb)
                  replace Xa := Lib.hid (Xa.out.next hb)
                  replace X8 := Lib.hid (X8.out.next hb)
                  replace X9 := Lib.hid (X9.out.next hb)
                  replace X11 := Lib.hid (X11.out.next hb)
                  replace J0 := Lib.hid (J0.out.below hb)
                  replace J1 := Lib.hid (J1.out.below hb)
                  have J2 := Lib.hid (i22)
                  clear hb hHeld i22
                  refine hK.out _ _ ⟨Xa.out.c0, Xa.out.c1, Y.out.c0, Y.out.c1⟩ (fun hHeld => ?_)
                  clear hK K
                  refine wpAnyH_ready (rs := [7, 11]) (by kernel_rfl) (by simp) ?_
                  refine AllReadyH.cons rfl (fun K hK => ?_) ?_
                  ·
                    go_simp
                    refine (refMul_c (HI.out _ Y.out.rd).is (HI.out _ Y.out.rd).is (Nat.le_trans ((HI.out _ Y.out.rd).is.len SB.out) (by omega)) (Nat.le_trans ((HI.out _ Y.out.rd).is.len SB.out) (by omega))).mono ?_
                    rintro e w11 ⟨t23, A23, n23, c23, rfl, i23, hb⟩
                    replace P := Lib.hid (P.out.trans (hb.mono P.out.size))
                    replace Y := Lib.hid (Y.out.next hb)
                    replace Xa := Lib.hid (Xa.out.next hb)
                    replace X8 := Lib.hid (X8.out.next hb)
                    replace X9 := Lib.hid (X9.out.next hb)
                    replace X11 := Lib.hid (X11.out.next hb)
                    replace J0 := Lib.hid (J0.out.below hb)
                    replace J1 := Lib.hid (J1.out.below hb)
                    replace J2 := Lib.hid (J2.out.below hb)
                    have J3 := Lib.hid (i23)
                    clear hb hHeld i23
                    refine hK.out _ _ ⟨Xa.out.c0, Xa.out.c1, Y.out.c0, Y.out.c1⟩ (fun hHeld => ?_)
                    clear hK K
                    refine wpAnyH_ready (rs := [8, 11]) (by kernel_rfl) (by simp) ?_
                    refine AllReadyH.cons rfl (fun K hK => ?_) ?_
                    ·
                      go_simp
                      refine (refSub_c J2.out J3.out (Nat.le_trans (J2.out.len S2.out) (by omega)) (Nat.le_trans (J3.out.len SBB.out) (by omega))).mono ?_
                      rintro e w12 ⟨t24, A24, n24, c24, rfl, i24, hb⟩
                      replace P := Lib.hid (P.out.trans (hb.mono P.out.size))
                      replace Y := Lib.hid (Y.out.next hb)
                      replace Xa := Lib.hid (Xa.out.next hb)
                      replace X8 := Lib.hid (X8.out.next hb)
                      replace X9 := Lib.hid (X9.out.next hb)
                      replace X11 := Lib.hid (X11.out.next hb)
                      replace J0 := Lib.hid (J0.out.below hb)
                      replace J1 := Lib.hid (J1.out.below hb)
                      replace J2 := Lib.hid (J2.out.below hb)
                      replace J3 := Lib.hid (J3.out.below hb)
                      have J4 := Lib.hid (i24)
                      clear hb hHeld i24
                      refine hK.out _ _ ⟨Xa.out.c0, Xa.out.c1, Y.out.c0, Y.out.c1⟩ (fun hHeld => ?_)
                      clear hK K
                      refine wpAnyH_ready (rs := [9, 11]) (by kernel_rfl) (by simp) ?_
                      refine AllReadyH.cons rfl (fun K hK => ?_) ?_
                      ·
                        go_simp
                        refine (refOfV 1 _ (by omega) (by omega)).mono ?_
                        rintro e w13 ⟨t25, A25, n25, c25, rfl, i25, hb⟩
                        replace P := Lib.hid (P.out.trans (hb.mono P.out.size))
                        replace Y := Lib.hid (Y.out.next hb)
                        replace Xa := Lib.hid (Xa.out.next hb)
                        replace X8 := Lib.hid (X8.out.next hb)
                        replace X9 := Lib.hid (X9.out.next hb)
                        replace X11 := Lib.hid (X11.out.next hb)
                        replace J0 := Lib.hid (J0.out.below hb)
                        replace J1 := Lib.hid (J1.out.below hb)
                        replace J2 := Lib.hid (J2.out.below hb)
                        replace J3 := Lib.hid (J3.out.below hb)
                        replace J4 := Lib.hid (J4.out.below hb)
                        have J5 := Lib.hid (i25.is)
                        clear hb hHeld i25
                        refine hK.out _ _ ⟨Xa.out.c0, Xa.out.c1, Y.out.c0, Y.out.c1⟩ (fun hHeld => ?_)
                        clear hK K
                        refine wpAnyH_ready (rs := [10, 11]) (by kernel_rfl) (by simp) ?_
                        refine AllReadyH.cons rfl (fun K hK => ?_) ?_
                        ·
                          go_simp
                          refine (refSub_c J4.out J5.out (Nat.le_trans (J4.out.len S3.out) (by omega)) (Nat.le_trans (J5.out.len (sz_one' (Nat.le_refl 1))) (by omega))).mono ?_
                          rintro e w14 ⟨t26, A26, n26, c26, rfl, i26, hb⟩
                          replace P := Lib.hid (P.out.trans (hb.mono P.out.size))
                          replace Y := Lib.hid (Y.out.next hb)
                          replace Xa := Lib.hid (Xa.out.next hb)
                          replace X8 := Lib.hid (X8.out.next hb)
                          replace X9 := Lib.hid (X9.out.next hb)
                          replace X11 := Lib.hid (X11.out.next hb)
                          replace J0 := Lib.hid (J0.out.below hb)
                          replace J1 := Lib.hid (J1.out.below hb)
                          replace J2 := Lib.hid (J2.out.below hb)
                          replace J3 := Lib.hid (J3.out.below hb)
                          replace J4 := Lib.hid (J4.out.below hb)
                          replace J5 := Lib.hid (J5.out.below hb)
                          have J6 := Lib.hid (i26)
                          clear hb hHeld i26
                          refine hK.out _ _ ⟨Xa.out.c0, Xa.out.c1, Y.out.c0, Y.out.c1⟩ (fun hHeld => ?_)
                          clear hK K
                          refine wpAnyH_ready (rs := [11]) (by kernel_rfl) (by simp) ?_
                          refine AllReadyH.cons rfl (fun K hK => ?_) AllReadyH.nil
                          go_simp
                          clear hHeld
                          have V13 := Lib.hid (Nvr.new (is_zero8 w14))
                          have lY := Y.out.lt
                          have lXa := Xa.out.lt
                          have lX8 := X8.out.lt
                          have lX9 := X9.out.lt
                          have lX11 := X11.out.lt
                          replace P := Lib.hid (P.out.trans ((below_alloc _ (.cells #[.bool false, .slice none 0 0] 24)).mono P.out.size))
                          replace Y := Lib.hid (Y.out.next (below_alloc _ (.cells #[.bool false, .slice none 0 0] 24)))
                          replace Xa := Lib.hid (Xa.out.next (below_alloc _ (.cells #[.bool false, .slice none 0 0] 24)))
                          replace X8 := Lib.hid (X8.out.next (below_alloc _ (.cells #[.bool false, .slice none 0 0] 24)))
                          replace X9 := Lib.hid (X9.out.next (below_alloc _ (.cells #[.bool false, .slice none 0 0] 24)))
                          replace X11 := Lib.hid (X11.out.next (below_alloc _ (.cells #[.bool false, .slice none 0 0] 24)))
                          replace J0 := Lib.hid (J0.out.below (below_alloc _ (.cells #[.bool false, .slice none 0 0] 24)))
                          replace J1 := Lib.hid (J1.out.below (below_alloc _ (.cells #[.bool false, .slice none 0 0] 24)))
                          replace J2 := Lib.hid (J2.out.below (below_alloc _ (.cells #[.bool false, .slice none 0 0] 24)))
                          replace J3 := Lib.hid (J3.out.below (below_alloc _ (.cells #[.bool false, .slice none 0 0] 24)))
                          replace J4 := Lib.hid (J4.out.below (below_alloc _ (.cells #[.bool false, .slice none 0 0] 24)))
                          replace J5 := Lib.hid (J5.out.below (below_alloc _ (.cells #[.bool false, .slice none 0 0] 24)))
                          replace J6 := Lib.hid (J6.out.below (below_alloc _ (.cells #[.bool false, .slice none 0 0] 24)))
                          skip
                          generalize w14.alloc (.cells #[.bool false, .slice none 0 0] 24) = y15 at P Y Xa X8 X9 X11 J0 J1 J2 J3 J4 J5 J6 V13 ⊢
                          generalize w14.heap.size = gV13 at V13 lY lXa lX8 lX9 lX11 ⊢
                          refine hK.out _ _ ⟨Xa.out.c0, Xa.out.c1, Y.out.c0, Y.out.c1⟩ (fun hHeld => ?_)
                          clear hK K
                          clear hHeld
                          refine wpAnyH_done (by kernel_rfl) ?_ _
                          refine HT.out _ _ ?_
                          clear HT hP QT
                          have p0 := V13.out.c0
                          have p1 := V13.out.c1
                          have p2 := V13.out.f0
                          have p3 := V13.out.f1
                          refine wpList_step fun K hK => ?_
                          go_simp
                          refine hK _ _ ?_
                          clear hK K
                          refine wpList_nil ?_
                          go_wp2
                          go_meet
                          exact ⟨gV13, _, _, _, _, rfl, below_store P.out (by have := HGA.out; omega) _ _, Xa.out.far (by omega) p0 p1 _ _, Y.out.two (by omega) p0 p1 _ _, X8.out.far (by omega) p0 p1 _ _, X9.out.far (by omega) p0 p1 _ _, X11.out.far (by omega) p0 p1 _ _, V13.out.put J6.out⟩
                        refine AllReadyH.cons rfl (fun K hK => ?_) ?_
                        ·
                          go_simp
                          clear hHeld
                          have V13 := Lib.hid (Nvr.new (is_zero8 w13))
                          have lY := Y.out.lt
                          have lXa := Xa.out.lt
                          have lX8 := X8.out.lt
                          have lX9 := X9.out.lt
                          have lX11 := X11.out.lt
                          replace P := Lib.hid (P.out.trans ((below_alloc _ (.cells #[.bool false, .slice none 0 0] 24)).mono P.out.size))
                          replace Y := Lib.hid (Y.out.next (below_alloc _ (.cells #[.bool false, .slice none 0 0] 24)))
                          replace Xa := Lib.hid (Xa.out.next (below_alloc _ (.cells #[.bool false, .slice none 0 0] 24)))
                          replace X8 := Lib.hid (X8.out.next (below_alloc _ (.cells #[.bool false, .slice none 0 0] 24)))
                          replace X9 := Lib.hid (X9.out.next (below_alloc _ (.cells #[.bool false, .slice none 0 0] 24)))
                          replace X11 := Lib.hid (X11.out.next (below_alloc _ (.cells #[.bool false, .slice none 0 0] 24)))
                          replace J0 := Lib.hid (J0.out.below (below_alloc _ (.cells #[.bool false, .slice none 0 0] 24)))
                          replace J1 := Lib.hid (J1.out.below (below_alloc _ (.cells #[.bool false, .slice none 0 0] 24)))
                          replace J2 := Lib.hid (J2.out.below (below_alloc _ (.cells #[.bool false, .slice none 0 0] 24)))
                          replace J3 := Lib.hid (J3.out.below (below_alloc _ (.cells #[.bool false, .slice none 0 0] 24)))
                          replace J4 := Lib.hid (J4.out.below (below_alloc _ (.cells #[.bool false, .slice none 0 0] 24)))
                          replace J5 := Lib.hid (J5.out.below (below_alloc _ (.cells #[.bool false, .slice none 0 0] 24)))
                          skip
                          generalize w13.alloc (.cells #[.bool false, .slice none 0 0] 24) = y16 at P Y Xa X8 X9 X11 J0 J1 J2 J3 J4 J5 V13 ⊢
                          generalize w13.heap.size = gV13 at V13 lY lXa lX8 lX9 lX11 ⊢
                          refine hK.out _ _ ⟨Xa.out.c0, Xa.out.c1, Y.out.c0, Y.out.c1⟩ (fun hHeld => ?_)
                          clear hK K
                          refine wpAnyH_ready (rs := [10]) (by kernel_rfl) (by simp) ?_
                          refine AllReadyH.cons rfl (fun K hK => ?_) AllReadyH.nil
                          go_simp
                          refine (refSub_c J4.out J5.out (Nat.le_trans (J4.out.len S3.out) (by omega)) (Nat.le_trans (J5.out.len (sz_one' (Nat.le_refl 1))) (by omega))).mono ?_
                          rintro e w17 ⟨t26, A26, n26, c26, rfl, i26, hb⟩
                          replace P := Lib.hid (P.out.trans (hb.mono P.out.size))
                          replace Y := Lib.hid (Y.out.next hb)
                          replace Xa := Lib.hid (Xa.out.next hb)
                          replace X8 := Lib.hid (X8.out.next hb)
                          replace X9 := Lib.hid (X9.out.next hb)
                          replace X11 := Lib.hid (X11.out.next hb)
                          replace J0 := Lib.hid (J0.out.below hb)
                          replace J1 := Lib.hid (J1.out.below hb)
                          replace J2 := Lib.hid (J2.out.below hb)
                          replace J3 := Lib.hid (J3.out.below hb)
                          replace J4 := Lib.hid (J4.out.below hb)
                          replace J5 := Lib.hid (J5.out.below hb)
                          replace V13 := Lib.hid (V13.out.next hb)
                          have J6 := Lib.hid (i26)
                          clear hb hHeld i26
                          refine hK.out _ _ ⟨Xa.out.c0, Xa.out.c1, Y.out.c0, Y.out.c1⟩ (fun hHeld => ?_)
                          clear hK K
                          clear hHeld
                          refine wpAnyH_done (by kernel_rfl) ?_ _
                          refine HT.out _ _ ?_
                          clear HT hP QT
                          have p0 := V13.out.c0
                          have p1 := V13.out.c1
                          have p2 := V13.out.f0
                          have p3 := V13.out.f1
                          refine wpList_step fun K hK => ?_
                          go_simp
                          refine hK _ _ ?_
                          clear hK K
                          refine wpList_nil ?_
                          go_wp2
                          go_meet
                          exact ⟨gV13, _, _, _, _, rfl, below_store P.out (by have := HGA.out; omega) _ _, Xa.out.far (by omega) p0 p1 _ _, Y.out.two (by omega) p0 p1 _ _, X8.out.far (by omega) p0 p1 _ _, X9.out.far (by omega) p0 p1 _ _, X11.out.far (by omega) p0 p1 _ _, V13.out.put J6.out⟩
                        exact AllReadyH.nil
                      refine AllReadyH.cons rfl (fun K hK => ?_) ?_
                      ·
                        go_simp
                        clear hHeld
                        have V13 := Lib.hid (Nvr.new (is_zero8 w12))
                        have lY := Y.out.lt
                        have lXa := Xa.out.lt
                        have lX8 := X8.out.lt
                        have lX9 := X9.out.lt
                        have lX11 := X11.out.lt
                        replace P := Lib.hid (P.out.trans ((below_alloc _ (.cells #[.bool false, .slice none 0 0] 24)).mono P.out.size))
                        replace Y := Lib.hid (Y.out.next (below_alloc _ (.cells #[.bool false, .slice none 0 0] 24)))
                        replace Xa := Lib.hid (Xa.out.next (below_alloc _ (.cells #[.bool false, .slice none 0 0] 24)))
                        replace X8 := Lib.hid (X8.out.next (below_alloc _ (.cells #[.bool false, .slice none 0 0] 24)))
                        replace X9 := Lib.hid (X9.out.next (below_alloc _ (.cells #[.bool false, .slice none 0 0] 24)))
                        replace X11 := Lib.hid (X11.out.next (below_alloc _ (.cells #[.bool false, .slice none 0 0] 24)))
                        replace J0 := Lib.hid (J0.out.below (below_alloc _ (.cells #[.bool false, .slice none 0 0] 24)))
                        replace J1 := Lib.hid (J1.out.below (below_alloc _ (.cells #[.bool false, .slice none 0 0] 24)))
                        replace J2 := Lib.hid (J2.out.below (below_alloc _ (.cells #[.bool false, .slice none 0 0] 24)))
                        replace J3 := Lib.hid (J3.out.below (below_alloc _ (.cells #[.bool false, .slice none 0 0] 24)))
                        replace J4 := Lib.hid (J4.out.below (below_alloc _ (.cells #[.bool false, .slice none 0 0] 24)))
                        skip
                        generalize w12.alloc (.cells #[.bool false, .slice none 0 0] 24) = y18 at P Y Xa X8 X9 X11 J0 J1 J2 J3 J4 V13 ⊢
                        generalize w12.heap.size = gV13 at V13 lY lXa lX8 lX9 lX11 ⊢
                        refine hK.out _ _ ⟨Xa.out.c0, Xa.out.c1, Y.out.c0, Y.out.c1⟩ (fun hHeld => ?_)
                        clear hK K
                        refine wpAnyH_ready (rs := [9]) (by kernel_rfl) (by simp) ?_
                        refine AllReadyH.cons rfl (fun K hK => ?_) AllReadyH.nil
                        go_simp
                        refine (refOfV 1 _ (by omega) (by omega)).mono ?_
                        rintro e w19 ⟨t25, A25, n25, c25, rfl, i25, hb⟩
                        replace P := Lib.hid (P.out.trans (hb.mono P.out.size))
                        replace Y := Lib.hid (Y.out.next hb)
                        replace Xa := Lib.hid (Xa.out.next hb)
                        replace X8 := Lib.hid (X8.out.next hb)
                        replace X9 := Lib.hid (X9.out.next hb)
                        replace X11 := Lib.hid (X11.out.next hb)
                        replace J0 := Lib.hid (J0.out.below hb)
                        replace J1 := Lib.hid (J1.out.below hb)
                        replace J2 := Lib.hid (J2.out.below hb)
                        replace J3 := Lib.hid (J3.out.below hb)
                        replace J4 := Lib.hid (J4.out.below hb)
                        replace V13 := Lib.hid (V13.out.next hb)
                        have J5 := Lib.hid (i25.is)
                        clear hb hHeld i25
                        refine hK.out _ _ ⟨Xa.out.c0, Xa.out.c1, Y.out.c0, Y.out.c1⟩ (fun hHeld => ?_)
                        clear hK K
                        refine wpAnyH_ready (rs := [10]) (by kernel_rfl) (by simp) ?_
                        refine AllReadyH.cons rfl (fun K hK => ?_) AllReadyH.nil
                        go_simp
                        refine (refSub_c J4.out J5.out (Nat.le_trans (J4.out.len S3.out) (by omega)) (Nat.le_trans (J5.out.len (sz_one' (Nat.le_refl 1))) (by omega))).mono ?_
                        rintro e w20 ⟨t26, A26, n26, c26, rfl, i26, hb⟩
                        replace P := Lib.hid (P.out.trans (hb.mono P.out.size))
                        replace Y := Lib.hid (Y.out.next hb)
                        replace Xa := Lib.hid (Xa.out.next hb)
                        replace X8 := Lib.hid (X8.out.next hb)
                        replace X9 := Lib.hid (X9.out.next hb)
                        replace X11 := Lib.hid (X11.out.next hb)
                        replace J0 := Lib.hid (J0.out.below hb)
                        replace J1 := Lib.hid (J1.out.below hb)
                        replace J2 := Lib.hid (J2.out.below hb)
                        replace J3 := Lib.hid (J3.out.below hb)
                        replace J4 := Lib.hid (J4.out.below hb)
                        replace V13 := Lib.hid (V13.out.next hb)
                        replace J5 := Lib.hid (J5.out.below hb)
                        have J6 := Lib.hid (i26)
                        clear hb hHeld i26
                        refine hK.out _ _ ⟨Xa.out.c0, Xa.out.c1, Y.out.c0, Y.out.c1⟩ (fun hHeld => ?_)
                        clear hK K
                        clear hHeld
                        refine wpAnyH_done (by kernel_rfl) ?_ _
                        refine HT.out _ _ ?_
                        clear HT hP QT
                        have p0 := V13.out.c0
                        have p1 := V13.out.c1
                        have p2 := V13.out.f0
                        have p3 := V13.out.f1
                        refine wpList_step fun K hK => ?_
                        go_simp
                        refine hK _ _ ?_
                        clear hK K
                        refine wpList_nil ?_
                        go_wp2
                        go_meet
                        exact ⟨gV13, _, _, _, _, rfl, below_store P.out (by have := HGA.out; omega) _ _, Xa.out.far (by omega) p0 p1 _ _, Y.out.two (by omega) p0 p1 _ _, X8.out.far (by omega) p0 p1 _ _, X9.out.far (by omega) p0 p1 _ _, X11.out.far (by omega) p0 p1 _ _, V13.out.put J6.out⟩
                      exact AllReadyH.nil
                    refine AllReadyH.cons rfl (fun K hK => ?_) ?_
                    ·
                      go_simp
                      clear hHeld
                      have V13 := Lib.hid (Nvr.new (is_zero8 w11))
                      have lY := Y.out.lt
                      have lXa := Xa.out.lt
                      have lX8 := X8.out.lt
                      have lX9 := X9.out.lt
                      have lX11 := X11.out.lt
                      replace P := Lib.hid (P.out.trans ((below_alloc _ (.cells #[.bool false, .slice none 0 0] 24)).mono P.out.size))
                      replace Y := Lib.hid (Y.out.next (below_alloc _ (.cells #[.bool false, .slice none 0 0] 24)))
                      replace Xa := Lib.hid (Xa.out.next (below_alloc _ (.cells #[.bool false, .slice none 0 0] 24)))
                      replace X8 := Lib.hid (X8.out.next (below_alloc _ (.cells #[.bool false, .slice none 0 0] 24)))
                      replace X9 := Lib.hid (X9.out.next (below_alloc _ (.cells #[.bool false, .slice none 0 0] 24)))
                      replace X11 := Lib.hid (X11.out.next (below_alloc _ (.cells #[.bool false, .slice none 0 0] 24)))
                      replace J0 := Lib.hid (J0.out.below (below_alloc _ (.cells #[.bool false, .slice none 0 0] 24)))
                      replace J1 := Lib.hid (J1.out.below (below_alloc _ (.cells #[.bool false, .slice none 0 0] 24)))
                      replace J2 := Lib.hid (J2.out.below (below_alloc _ (.cells #[.bool false, .slice none 0 0] 24)))
                      replace J3 := Lib.hid (J3.out.below (below_alloc _ (.cells #[.bool false, .slice none 0 0] 24)))
                      skip
                      generalize w11.alloc (.cells #[.bool false, .slice none 0 0] 24) = y21 at P Y Xa X8 X9 X11 J0 J1 J2 J3 V13 ⊢
                      generalize w11.heap.size = gV13 at V13 lY lXa lX8 lX9 lX11 ⊢
                      refine hK.out _ _ ⟨Xa.out.c0, Xa.out.c1, Y.out.c0, Y.out.c1⟩ (fun hHeld => ?_)
                      clear hK K
                      refine wpAnyH_ready (rs := [8]) (by kernel_rfl) (by simp) ?_
                      refine AllReadyH.cons rfl (fun K hK => ?_) AllReadyH.nil
                      go_simp
                      refine (refSub_c J2.out J3.out (Nat.le_trans (J2.out.len S2.out) (by omega)) (Nat.le_trans (J3.out.len SBB.out) (by omega))).mono ?_
                      rintro e w22 ⟨t24, A24, n24, c24, rfl, i24, hb⟩
                      replace P := Lib.hid (P.out.trans (hb.mono P.out.size))
                      replace Y := Lib.hid (Y.out.next hb)
                      replace Xa := Lib.hid (Xa.out.next hb)
                      replace X8 := Lib.hid (X8.out.next hb)
                      replace X9 := Lib.hid (X9.out.next hb)
                      replace X11 := Lib.hid (X11.out.next hb)
                      replace J0 := Lib.hid (J0.out.below hb)
                      replace J1 := Lib.hid (J1.out.below hb)
                      replace J2 := Lib.hid (J2.out.below hb)
                      replace J3 := Lib.hid (J3.out.below hb)
                      replace V13 := Lib.hid (V13.out.next hb)
                      have J4 := Lib.hid (i24)
                      clear hb hHeld i24
                      refine hK.out _ _ ⟨Xa.out.c0, Xa.out.c1, Y.out.c0, Y.out.c1⟩ (fun hHeld => ?_)
                      clear hK K
                      refine wpAnyH_ready (rs := [9]) (by kernel_rfl) (by simp) ?_
                      refine AllReadyH.cons rfl (fun K hK => ?_) AllReadyH.nil
                      go_simp
                      refine (refOfV 1 _ (by omega) (by omega)).mono ?_
                      rintro e w23 ⟨t25, A25, n25, c25, rfl, i25, hb⟩
                      replace P := Lib.hid (P.out.trans (hb.mono P.out.size))
                      replace Y := Lib.hid (Y.out.next hb)
                      replace Xa := Lib.hid (Xa.out.next hb)
                      replace X8 := Lib.hid (X8.out.next hb)
                      replace X9 := Lib.hid (X9.out.next hb)
                      replace X11 := Lib.hid (X11.out.next hb)
                      replace J0 := Lib.hid (J0.out.below hb)
                      replace J1 := Lib.hid (J1.out.below hb)
                      replace J2 := Lib.hid (J2.out.below hb)
                      replace J3 := Lib.hid (J3.out.below hb)
                      replace V13 := Lib.hid (V13.out.next hb)
                      replace J4 := Lib.hid (J4.out.below hb)
                      have J5 := Lib.hid (i25.is)
                      clear hb hHeld i25
                      refine hK.out _ _ ⟨Xa.out.c0, Xa.out.c1, Y.out.c0, Y.out.c1⟩ (fun hHeld => ?_)
                      clear hK K
                      refine wpAnyH_ready (rs := [10]) (by kernel_rfl) (by simp) ?_
                      refine AllReadyH.cons rfl (fun K hK => ?_) AllReadyH.nil
                      go_simp
                      refine (refSub_c J4.out J5.out (Nat.le_trans (J4.out.len S3.out) (by omega)) (Nat.le_trans (J5.out.len (sz_one' (Nat.le_refl 1))) (by omega))).mono ?_
                      rintro e w24 ⟨t26, A26, n26, c26, rfl, i26, hb⟩
                      replace P := Lib.hid (P.out.trans (hb.mono P.out.size))
                      replace Y := Lib.hid (Y.out.next hb)
                      replace Xa := Lib.hid (Xa.out.next hb)
                      replace X8 := Lib.hid (X8.out.next hb)
                      replace X9 := Lib.hid (X9.out.next hb)
                      replace X11 := Lib.hid (X11.out.next hb)
                      replace J0 := Lib.hid (J0.out.below hb)
                      replace J1 := Lib.hid (J1.out.below hb)
                      replace J2 := Lib.hid (J2.out.below hb)
                      replace J3 := Lib.hid (J3.out.below hb)
                      replace V13 := Lib.hid (V13.out.next hb)
                      replace J4 := Lib.hid (J4.out.below hb)
                      replace J5 := Lib.hid (J5.out.below hb)
                      have J6 := Lib.hid (i26)
                      clear hb hHeld i26
                      refine hK.out _ _ ⟨Xa.out.c0, Xa.out.c1, Y.out.c0, Y.out.c1⟩ (fun hHeld => ?_)
                      clear hK K
                      clear hHeld
                      refine wpAnyH_done (by kernel_rfl) ?_ _
                      refine HT.out _ _ ?_
                      clear HT hP QT
                      have p0 := V13.out.c0
                      have p1 := V13.out.c1
                      have p2 := V13.out.f0
                      have p3 := V13.out.f1
                      refine wpList_step fun K hK => ?_
                      go_simp
                      refine hK _ _ ?_
                      clear hK K
                      refine wpList_nil ?_
                      go_wp2
                      go_meet
                      exact ⟨gV13, _, _, _, _, rfl, below_store P.out (by have := HGA.out; omega) _ _, Xa.out.far (by omega) p0 p1 _ _, Y.out.two (by omega) p0 p1 _ _, X8.out.far (by omega) p0 p1 _ _, X9.out.far (by omega) p0 p1 _ _, X11.out.far (by omega) p0 p1 _ _, V13.out.put J6.out⟩
                    exact AllReadyH.nil
                  refine AllReadyH.cons rfl (fun K hK => ?_) ?_
                  ·
                    go_simp
                    clear hHeld
                    have V13 := Lib.hid (Nvr.new (is_zero8 w10))
                    have lY := Y.out.lt
                    have lXa := Xa.out.lt
                    have lX8 := X8.out.lt
                    have lX9 := X9.out.lt
                    have lX11 := X11.out.lt
                    replace P := Lib.hid (P.out.trans ((below_alloc _ (.cells #[.bool false, .slice none 0 0] 24)).mono P.out.size))
                    replace Y := Lib.hid (Y.out.next (below_alloc _ (.cells #[.bool false, .slice none 0 0] 24)))
                    replace Xa := Lib.hid (Xa.out.next (below_alloc _ (.cells #[.bool false, .slice none 0 0] 24)))
                    replace X8 := Lib.hid (X8.out.next (below_alloc _ (.cells #[.bool false, .slice none 0 0] 24)))
                    replace X9 := Lib.hid (X9.out.next (below_alloc _ (.cells #[.bool false, .slice none 0 0] 24)))
                    replace X11 := Lib.hid (X11.out.next (below_alloc _ (.cells #[.bool false, .slice none 0 0] 24)))
                    replace J0 := Lib.hid (J0.out.below (below_alloc _ (.cells #[.bool false, .slice none 0 0] 24)))
                    replace J1 := Lib.hid (J1.out.below (below_alloc _ (.cells #[.bool false, .slice none 0 0] 24)))
                    replace J2 := Lib.hid (J2.out.below (below_alloc _ (.cells #[.bool false, .slice none 0 0] 24)))
                    skip
                    generalize w10.alloc (.cells #[.bool false, .slice none 0 0] 24) = y25 at P Y Xa X8 X9 X11 J0 J1 J2 V13 ⊢
                    generalize w10.heap.size = gV13 at V13 lY lXa lX8 lX9 lX11 ⊢
                    refine hK.out _ _ ⟨Xa.out.c0, Xa.out.c1, Y.out.c0, Y.out.c1⟩ (fun hHeld => ?_)
                    clear hK K
                    refine wpAnyH_ready (rs := [7]) (by kernel_rfl) (by simp) ?_
                    refine AllReadyH.cons rfl (fun K hK => ?_) AllReadyH.nil
                    go_simp
                    refine (refMul_c (HI.out _ Y.out.rd).is (HI.out _ Y.out.rd).is (Nat.le_trans ((HI.out _ Y.out.rd).is.len SB.out) (by omega)) (Nat.le_trans ((HI.out _ Y.out.rd).is.len SB.out) (by omega))).mono ?_
                    rintro e w26 ⟨t23, A23, n23, c23, rfl, i23, hb⟩
                    replace P := Lib.hid (P.out.trans (hb.mono P.out.size))
                    replace Y := Lib.hid (Y.out.next hb)
                    replace Xa := Lib.hid (Xa.out.next hb)
                    replace X8 := Lib.hid (X8.out.next hb)
                    replace X9 := Lib.hid (X9.out.next hb)
                    replace X11 := Lib.hid (X11.out.next hb)
                    replace J0 := Lib.hid (J0.out.below hb)
                    replace J1 := Lib.hid (J1.out.below hb)
                    replace J2 := Lib.hid (J2.out.below hb)
                    replace V13 := Lib.hid (V13.out.next hb)
                    have J3 := Lib.hid (i23)
                    clear hb hHeld i23
                    refine hK.out _ _ ⟨Xa.out.c0, Xa.out.c1, Y.out.c0, Y.out.c1⟩ (fun hHeld => ?_)
                    clear hK K
                    refine wpAnyH_ready (rs := [8]) (by kernel_rfl) (by simp) ?_
                    refine AllReadyH.cons rfl (fun K hK => ?_) AllReadyH.nil
                    go_simp
                    refine (refSub_c J2.out J3.out (Nat.le_trans (J2.out.len S2.out) (by omega)) (Nat.le_trans (J3.out.len SBB.out) (by omega))).mono ?_
                    rintro e w27 ⟨t24, A24, n24, c24, rfl, i24, hb⟩
                    replace P := Lib.hid (P.out.trans (hb.mono P.out.size))
                    replace Y := Lib.hid (Y.out.next hb)
                    replace Xa := Lib.hid (Xa.out.next hb)
                    replace X8 := Lib.hid (X8.out.next hb)
                    replace X9 := Lib.hid (X9.out.next hb)
                    replace X11 := Lib.hid (X11.out.next hb)
                    replace J0 := Lib.hid (J0.out.below hb)
                    replace J1 := Lib.hid (J1.out.below hb)
                    replace J2 := Lib.hid (J2.out.below hb)
                    replace V13 := Lib.hid (V13.out.next hb)
                    replace J3 := Lib.hid (J3.out.below hb)
                    have J4 := Lib.hid (i24)
                    clear hb hHeld i24
                    refine hK.out _ _ ⟨Xa.out.c0, Xa.out.c1, Y.out.c0, Y.out.c1⟩ (fun hHeld => ?_)
                    clear hK K
                    refine wpAnyH_ready (rs := [9]) (by kernel_rfl) (by simp) ?_
                    refine AllReadyH.cons rfl (fun K hK => ?_) AllReadyH.nil
                    go_simp
                    refine (refOfV 1 _ (by omega) (by omega)).mono ?_
                    rintro e w28 ⟨t25, A25, n25, c25, rfl, i25, hb⟩
                    replace P := Lib.hid (P.out.trans (hb.mono P.out.size))
                    replace Y := Lib.hid (Y.out.next hb)
                    replace Xa := Lib.hid (Xa.out.next hb)
                    replace X8 := Lib.hid (X8.out.next hb)
                    replace X9 := Lib.hid (X9.out.next hb)
                    replace X11 := Lib.hid (X11.out.next hb)
                    replace J0 := Lib.hid (J0.out.below hb)
                    replace J1 := Lib.hid (J1.out.below hb)
                    replace J2 := Lib.hid (J2.out.below hb)
                    replace V13 := Lib.hid (V13.out.next hb)
                    replace J3 := Lib.hid (J3.out.below hb)
                    replace J4 := Lib.hid (J4.out.below hb)
                    have J5 := Lib.hid (i25.is)
                    clear hb hHeld i25
                    refine hK.out _ _ ⟨Xa.out.c0, Xa.out.c1, Y.out.c0, Y.out.c1⟩ (fun hHeld => ?_)
                    clear hK K
                    refine wpAnyH_ready (rs := [10]) (by kernel_rfl) (by simp) ?_
                    refine AllReadyH.cons rfl (fun K hK => ?_) AllReadyH.nil
                    go_simp
                    refine (refSub_c J4.out J5.out (Nat.le_trans (J4.out.len S3.out) (by omega)) (Nat.le_trans (J5.out.len (sz_one' (Nat.le_refl 1))) (by omega))).mono ?_
                    rintro e w29 ⟨t26, A26, n26, c26, rfl, i26, hb⟩
                    replace P := Lib.hid (P.out.trans (hb.mono P.out.size))
                    replace Y := Lib.hid (Y.out.next hb)
                    replace Xa := Lib.hid (Xa.out.next hb)
                    replace X8 := Lib.hid (X8.out.next hb)
                    replace X9 := Lib.hid (X9.out.next hb)
                    replace X11 := Lib.hid (X11.out.next hb)
                    replace J0 := Lib.hid (J0.out.below hb)
                    replace J1 := Lib.hid (J1.out.below hb)
                    replace J2 := Lib.hid (J2.out.below hb)
                    replace V13 := Lib.hid (V13.out.next hb)
                    replace J3 := Lib.hid (J3.out.below hb)
                    replace J4 := Lib.hid (J4.out.below hb)
                    replace J5 := Lib.hid (J5.out.below hb)
                    have J6 := Lib.hid (i26)
                    clear hb hHeld i26
                    refine hK.out _ _ ⟨Xa.out.c0, Xa.out.c1, Y.out.c0, Y.out.c1⟩ (fun hHeld => ?_)
                    clear hK K
                    clear hHeld
                    refine wpAnyH_done (by kernel_rfl) ?_ _
                    refine HT.out _ _ ?_
                    clear HT hP QT
                    have p0 := V13.out.c0
                    have p1 := V13.out.c1
                    have p2 := V13.out.f0
                    have p3 := V13.out.f1
                    refine wpList_step fun K hK => ?_
                    go_simp
                    refine hK _ _ ?_
                    clear hK K
                    refine wpList_nil ?_
                    go_wp2
                    go_meet
                    exact ⟨gV13, _, _, _, _, rfl, below_store P.out (by have := HGA.out; omega) _ _, Xa.out.far (by omega) p0 p1 _ _, Y.out.two (by omega) p0 p1 _ _, X8.out.far (by omega) p0 p1 _ _, X9.out.far (by omega) p0 p1 _ _, X11.out.far (by omega) p0 p1 _ _, V13.out.put J6.out⟩
                  exact AllReadyH.nil
                refine AllReadyH.cons rfl (fun K hK => ?_) ?_
                ·
                  go_simp
                  clear hHeld
                  have V13 := Lib.hid (Nvr.new (is_zero8 w9))
                  have lY := Y.out.lt
                  have lXa := Xa.out.lt
                  have lX8 := X8.out.lt
                  have lX9 := X9.out.lt
                  have lX11 := X11.out.lt
                  replace P := Lib.hid (P.out.trans ((below_alloc _ (.cells #[.bool false, .slice none 0 0] 24)).mono P.out.size))
                  replace Y := Lib.hid (Y.out.next (below_alloc _ (.cells #[.bool false, .slice none 0 0] 24)))
                  replace Xa := Lib.hid (Xa.out.next (below_alloc _ (.cells #[.bool false, .slice none 0 0] 24)))
                  replace X8 := Lib.hid (X8.out.next (below_alloc _ (.cells #[.bool false, .slice none 0 0] 24)))
                  replace X9 := Lib.hid (X9.out.next (below_alloc _ (.cells #[.bool false, .slice none 0 0] 24)))
                  replace X11 := Lib.hid (X11.out.next (below_alloc _ (.cells #[.bool false, .slice none 0 0] 24)))
                  replace J0 := Lib.hid (J0.out.below (below_alloc _ (.cells #[.bool false, .slice none 0 0] 24)))
                  replace J1 := Lib.hid (J1.out.below (below_alloc _ (.cells #[.bool false, .slice none 0 0] 24)))
                  skip
                  generalize w9.alloc (.cells #[.bool false, .slice none 0 0] 24) = y30 at P Y Xa X8 X9 X11 J0 J1 V13 ⊢
                  generalize w9.heap.size = gV13 at V13 lY lXa lX8 lX9 lX11 ⊢
                  refine hK.out _ _ ⟨Xa.out.c0, Xa.out.c1, Y.out.c0, Y.out.c1⟩ (fun hHeld => ?_)
                  clear hK K
                  refine wpAnyH_ready (rs := [4]) (by kernel_rfl) (by simp) ?_
                  refine AllReadyH.cons rfl (fun K hK => ?_) AllReadyH.nil
                  go_simp
                  refine (refMul_c J0.out J1.out (Nat.le_trans (J0.out.len sz_two) (by omega)) (Nat.le_trans (J1.out.len SM.out) (by omega))).mono ?_
                  rintro e w31 ⟨t22, A22, n22, c22, rfl, i22, hb⟩
                  replace P := Lib.hid (P.out.trans (hb.mono P.out.size))
                  replace Y := Lib.hid (Y.out.next hb)
                  replace Xa := Lib.hid (Xa.out.next hb)
                  replace X8 := Lib.hid (X8.out.next hb)
                  replace X9 := Lib.hid (X9.out.next hb)
                  replace X11 := Lib.hid (X11.out.next hb)
                  replace J0 := Lib.hid (J0.out.below hb)
                  replace J1 := Lib.hid (J1.out.below hb)
                  replace V13 := Lib.hid (V13.out.next hb)
                  have J2 := Lib.hid (i22)
                  clear hb hHeld i22
                  refine hK.out _ _ ⟨Xa.out.c0, Xa.out.c1, Y.out.c0, Y.out.c1⟩ (fun hHeld => ?_)
                  clear hK K
                  refine wpAnyH_ready (rs := [7]) (by kernel_rfl) (by simp) ?_
                  refine AllReadyH.cons rfl (fun K hK => ?_) AllReadyH.nil
                  go_simp
                  refine (refMul_c (HI.out _ Y.out.rd).is (HI.out _ Y.out.rd).is (Nat.le_trans ((HI.out _ Y.out.rd).is.len SB.out) (by omega)) (Nat.le_trans ((HI.out _ Y.out.rd).is.len SB.out) (by omega))).mono ?_
                  rintro e w32 ⟨t23, A23, n23, c23, rfl, i23, hb⟩
                  replace P := Lib.hid (P.out.trans (hb.mono P.out.size))
                  replace Y := Lib.hid (Y.out.next hb)
                  replace Xa := Lib.hid (Xa.out.next hb)
                  replace X8 := Lib.hid (X8.out.next hb)
                  replace X9 := Lib.hid (X9.out.next hb)
                  replace X11 := Lib.hid (X11.out.next hb)
                  replace J0 := Lib.hid (J0.out.below hb)
                  replace J1 := Lib.hid (J1.out.below hb)
                  replace V13 := Lib.hid (V13.out.next hb)
                  replace J2 := Lib.hid (J2.out.below hb)
                  have J3 := Lib.hid (i23)
                  clear hb hHeld i23
                  refine hK.out _ _ ⟨Xa.out.c0, Xa.out.c1, Y.out.c0, Y.out.c1⟩ (fun hHeld => ?_)
                  clear hK K
                  refine wpAnyH_ready (rs := [8]) (by kernel_rfl) (by simp) ?_
                  refine AllReadyH.cons rfl (fun K hK => ?_) AllReadyH.nil
                  go_simp
                  refine (refSub_c J2.out J3.out (Nat.le_trans (J2.out.len S2.out) (by omega)) (Nat.le_trans (J3.out.len SBB.out) (by omega))).mono ?_
                  rintro e w33 ⟨t24, A24, n24, c24, rfl, i24, hb⟩
                  replace P := Lib.hid (P.out.trans (hb.mono P.out.size))
                  replace Y := Lib.hid (Y.out.next hb)
                  replace Xa := Lib.hid (Xa.out.next hb)
                  replace X8 := Lib.hid (X8.out.next hb)
                  replace X9 := Lib.hid (X9.out.next hb)
                  replace X11 := Lib.hid (X11.out.next hb)
                  replace J0 := Lib.hid (J0.out.below hb)
                  replace J1 := Lib.hid (J1.out.below hb)
                  replace V13 := Lib.hid (V13.out.next hb)
                  replace J2 := Lib.hid (J2.out.below hb)
                  replace J3 := Lib.hid (J3.out.below hb)
                  have J4 := Lib.hid (i24)
                  clear hb hHeld i24
                  refine hK.out _ _ ⟨Xa.out.c0, Xa.out.c1, Y.out.c0, Y.out.c1⟩ (fun hHeld => ?_)
                  clear hK K
                  refine wpAnyH_ready (rs := [9]) (by kernel_rfl) (by simp) ?_
                  refine AllReadyH.cons rfl (fun K hK => ?_) AllReadyH.nil
                  go_simp
                  refine (refOfV 1 _ (by omega) (by omega)).mono ?_
                  rintro e w34 ⟨t25, A25, n25, c25, rfl, i25, hb⟩
                  replace P := Lib.hid (P.out.trans (hb.mono P.out.size))
                  replace Y := Lib.hid (Y.out.next hb)
                  replace Xa := Lib.hid (Xa.out.next hb)
                  replace X8 := Lib.hid (X8.out.next hb)
                  replace X9 := Lib.hid (X9.out.next hb)
                  replace X11 := Lib.hid (X11.out.next hb)
                  replace J0 := Lib.hid (J0.out.below hb)
                  replace J1 := Lib.hid (J1.out.below hb)
                  replace V13 := Lib.hid (V13.out.next hb)
                  replace J2 := Lib.hid (J2.out.below hb)
                  replace J3 := Lib.hid (J3.out.below hb)
                  replace J4 := Lib.hid (J4.out.below hb)
                  have J5 := Lib.hid (i25.is)
                  clear hb hHeld i25
                  refine hK.out _ _ ⟨Xa.out.c0, Xa.out.c1, Y.out.c0, Y.out.c1⟩ (fun hHeld => ?_)
                  clear hK K
                  refine wpAnyH_ready (rs := [10]) (by kernel_rfl) (by simp) ?_
                  refine AllReadyH.cons rfl (fun K hK => ?_) AllReadyH.nil
                  go_simp
                  refine (refSub_c J4.out J5.out (Nat.le_trans (J4.out.len S3.out) (by omega)) (Nat.le_trans (J5.out.len (sz_one' (Nat.le_refl 1))) (by omega))).mono ?_
                  rintro e w35 ⟨t26, A26, n26, c26, rfl, i26, hb⟩
                  replace P := Lib.hid (P.out.trans (hb.mono P.out.size))
                  replace Y := Lib.hid (Y.out.next hb)
                  replace Xa := Lib.hid (Xa.out.next hb)
                  replace X8 := Lib.hid (X8.out.next hb)
                  replace X9 := Lib.hid (X9.out.next hb)
                  replace X11 := Lib.hid (X11.out.next hb)
                  replace J0 := Lib.hid (J0.out.below hb)
                  replace J1 := Lib.hid (J1.out.below hb)
                  replace V13 := Lib.hid (V13.out.next hb)
                  replace J2 := Lib.hid (J2.out.below hb)
                  replace J3 := Lib.hid (J3.out.below hb)
                  replace J4 := Lib.hid (J4.out.below hb)
                  replace J5 := Lib.hid (J5.out.below hb)
                  have J6 := Lib.hid (i26)
                  clear hb hHeld i26
                  refine hK.out _ _ ⟨Xa.out.c0, Xa.out.c1, Y.out.c0, Y.out.c1⟩ (fun hHeld => ?_)
                  clear hK K
                  clear hHeld
                  refine wpAnyH_done (by kernel_rfl) ?_ _
                  refine HT.out _ _ ?_
                  clear HT hP QT
                  have p0 := V13.out.c0
                  have p1 := V13.out.c1
                  have p2 := V13.out.f0
                  have p3 := V13.out.f1
                  refine wpList_step fun K hK => ?_
                  go_simp
                  refine hK _ _ ?_
                  clear hK K
                  refine wpList_nil ?_
                  go_wp2
                  go_meet
                  exact ⟨gV13, _, _, _, _, rfl, below_store P.out (by have := HGA.out; omega) _ _, Xa.out.far (by omega) p0 p1 _ _, Y.out.two (by omega) p0 p1 _ _, X8.out.far (by omega) p0 p1 _ _, X9.out.far (by omega) p0 p1 _ _, X11.out.far (by omega) p0 p1 _ _, V13.out.put J6.out⟩
                exact AllReadyH.nil
              refine AllReadyH.cons rfl (fun K hK => ?_) ?_
              ·
                go_simp
                clear hHeld
                have V13 := Lib.hid (Nvr.new (is_zero8 w8))
                have lY := Y.out.lt
                have lXa := Xa.out.lt
                have lX8 := X8.out.lt
                have lX9 := X9.out.lt
                have lX11 := X11.out.lt
                replace P := Lib.hid (P.out.trans ((below_alloc _ (.cells #[.bool false, .slice none 0 0] 24)).mono P.out.size))
                replace Y := Lib.hid (Y.out.next (below_alloc _ (.cells #[.bool false, .slice none 0 0] 24)))
                replace Xa := Lib.hid (Xa.out.next (below_alloc _ (.cells #[.bool false, .slice none 0 0] 24)))
                replace X8 := Lib.hid (X8.out.next (below_alloc _ (.cells #[.bool false, .slice none 0 0] 24)))
                replace X9 := Lib.hid (X9.out.next (below_alloc _ (.cells #[.bool false, .slice none 0 0] 24)))
                replace X11 := Lib.hid (X11.out.next (below_alloc _ (.cells #[.bool false, .slice none 0 0] 24)))
                replace J0 := Lib.hid (J0.out.below (below_alloc _ (.cells #[.bool false, .slice none 0 0] 24)))
                skip
                generalize w8.alloc (.cells #[.bool false, .slice none 0 0] 24) = y36 at P Y Xa X8 X9 X11 J0 V13 ⊢
                generalize w8.heap.size = gV13 at V13 lY lXa lX8 lX9 lX11 ⊢
                refine hK.out _ _ ⟨Xa.out.c0, Xa.out.c1, Y.out.c0, Y.out.c1⟩ (fun hHeld => ?_)
                clear hK K
                refine wpAnyH_ready (rs := [3]) (by kernel_rfl) (by simp) ?_
                refine AllReadyH.cons rfl (fun K hK => ?_) AllReadyH.nil
                go_simp
                refine (refMul_c Xa.out.is (HI.out _ Y.out.rd).is (Nat.le_trans (Xa.out.is.len HS.out) (by omega)) (Nat.le_trans ((HI.out _ Y.out.rd).is.len SB.out) (by omega))).mono ?_
                rintro e w37 ⟨t21, A21, n21, c21, rfl, i21, hb⟩
                replace P := Lib.hid (P.out.trans (hb.mono P.out.size))
                replace Y := Lib.hid (Y.out.next hb)
                replace Xa := Lib.hid (Xa.out.next hb)
                replace X8 := Lib.hid (X8.out.next hb)
                replace X9 := Lib.hid (X9.out.next hb)
                replace X11 := Lib.hid (X11.out.next hb)
                replace J0 := Lib.hid (J0.out.below hb)
                replace V13 := Lib.hid (V13.out.next hb)
                have J1 := Lib.hid (i21)
                clear hb hHeld i21
                refine hK.out _ _ ⟨Xa.out.c0, Xa.out.c1, Y.out.c0, Y.out.c1⟩ (fun hHeld => ?_)
                clear hK K
                refine wpAnyH_ready (rs := [4]) (by kernel_rfl) (by simp) ?_
                refine AllReadyH.cons rfl (fun K hK => ?_) AllReadyH.nil
                go_simp
                refine (refMul_c J0.out J1.out (Nat.le_trans (J0.out.len sz_two) (by omega)) (Nat.le_trans (J1.out.len SM.out) (by omega))).mono ?_
                rintro e w38 ⟨t22, A22, n22, c22, rfl, i22, hb⟩
                replace P := Lib.hid (P.out.trans (hb.mono P.out.size))
                replace Y := Lib.hid (Y.out.next hb)
                replace Xa := Lib.hid (Xa.out.next hb)
                replace X8 := Lib.hid (X8.out.next hb)
                replace X9 := Lib.hid (X9.out.next hb)
                replace X11 := Lib.hid (X11.out.next hb)
                replace J0 := Lib.hid (J0.out.below hb)
                replace V13 := Lib.hid (V13.out.next hb)
                replace J1 := Lib.hid (J1.out.below hb)
                have J2 := Lib.hid (i22)
                clear hb hHeld i22
                refine hK.out _ _ ⟨Xa.out.c0, Xa.out.c1, Y.out.c0, Y.out.c1⟩ (fun hHeld => ?_)
                clear hK K
                refine wpAnyH_ready (rs := [7]) (by kernel_rfl) (by simp) ?_
                refine AllReadyH.cons rfl (fun K hK => ?_) AllReadyH.nil
                go_simp
                refine (refMul_c (HI.out _ Y.out.rd).is (HI.out _ Y.out.rd).is (Nat.le_trans ((HI.out _ Y.out.rd).is.len SB.out) (by omega)) (Nat.le_trans ((HI.out _ Y.out.rd).is.len SB.out) (by omega))).mono ?_
                rintro e w39 ⟨t23, A23, n23, c23, rfl, i23, hb⟩
                replace P := Lib.hid (P.out.trans (hb.mono P.out.size))
                replace Y := Lib.hid (Y.out.next hb)
                replace Xa := Lib.hid (Xa.out.next hb)
                replace X8 := Lib.hid (X8.out.next hb)
                replace X9 := Lib.hid (X9.out.next hb)
                replace X11 := Lib.hid (X11.out.next hb)
                replace J0 := Lib.hid (J0.out.below hb)
                replace V13 := Lib.hid (V13.out.next hb)
                replace J1 := Lib.hid (J1.out.below hb)
                replace J2 := Lib.hid (J2.out.below hb)
                have J3 := Lib.hid (i23)
                clear hb hHeld i23
                refine hK.out _ _ ⟨Xa.out.c0, Xa.out.c1, Y.out.c0, Y.out.c1⟩ (fun hHeld => ?_)
                clear hK K
                refine wpAnyH_ready (rs := [8]) (by kernel_rfl) (by simp) ?_
                refine AllReadyH.cons rfl (fun K hK => ?_) AllReadyH.nil
                go_simp
                refine (refSub_c J2.out J3.out (Nat.le_trans (J2.out.len S2.out) (by omega)) (Nat.le_trans (J3.out.len SBB.out) (by omega))).mono ?_
                rintro e w40 ⟨t24, A24, n24, c24, rfl, i24, hb⟩
                replace P := Lib.hid (P.out.trans (hb.mono P.out.size))
                replace Y := Lib.hid (Y.out.next hb)
                replace Xa := Lib.hid (Xa.out.next hb)
                replace X8 := Lib.hid (X8.out.next hb)
                replace X9 := Lib.hid (X9.out.next hb)
                replace X11 := Lib.hid (X11.out.next hb)
                replace J0 := Lib.hid (J0.out.below hb)
                replace V13 := Lib.hid (V13.out.next hb)
                replace J1 := Lib.hid (J1.out.below hb)
                replace J2 := Lib.hid (J2.out.below hb)
                replace J3 := Lib.hid (J3.out.below hb)
                have J4 := Lib.hid (i24)
                clear hb hHeld i24
                refine hK.out _ _ ⟨Xa.out.c0, Xa.out.c1, Y.out.c0, Y.out.c1⟩ (fun hHeld => ?_)
                clear hK K
                refine wpAnyH_ready (rs := [9]) (by kernel_rfl) (by simp) ?_
                refine AllReadyH.cons rfl (fun K hK => ?_) AllReadyH.nil
                go_simp
                refine (refOfV 1 _ (by omega) (by omega)).mono ?_
                rintro e w41 ⟨t25, A25, n25, c25, rfl, i25, hb⟩
                replace P := Lib.hid (P.out.trans (hb.mono P.out.size))
                replace Y := Lib.hid (Y.out.next hb)
                replace Xa := Lib.hid (Xa.out.next hb)
                replace X8 := Lib.hid (X8.out.next hb)
                replace X9 := Lib.hid (X9.out.next hb)
                replace X11 := Lib.hid (X11.out.next hb)
                replace J0 := Lib.hid (J0.out.below hb)
                replace V13 := Lib.hid (V13.out.next hb)
                replace J1 := Lib.hid (J1.out.below hb)
                replace J2 := Lib.hid (J2.out.below hb)
                replace J3 := Lib.hid (J3.out.below hb)
                replace J4 := Lib.hid (J4.out.below hb)
                have J5 := Lib.hid (i25.is)
                clear hb hHeld i25
                refine hK.out _ _ ⟨Xa.out.c0, Xa.out.c1, Y.out.c0, Y.out.c1⟩ (fun hHeld => ?_)
                clear hK K
                refine wpAnyH_ready (rs := [10]) (by kernel_rfl) (by simp) ?_
                refine AllReadyH.cons rfl (fun K hK => ?_) AllReadyH.nil
                go_simp
                refine (refSub_c J4.out J5.out (Nat.le_trans (J4.out.len S3.out) (by omega)) (Nat.le_trans (J5.out.len (sz_one' (Nat.le_refl 1))) (by omega))).mono ?_
                rintro e w42 ⟨t26, A26, n26, c26, rfl, i26, hb⟩
                replace P := Lib.hid (P.out.trans (hb.mono P.out.size))
                replace Y := Lib.hid (Y.out.next hb)
                replace Xa := Lib.hid (Xa.out.next hb)
                replace X8 := Lib.hid (X8.out.next hb)
                replace X9 := Lib.hid (X9.out.next hb)
                replace X11 := Lib.hid (X11.out.next hb)
                replace J0 := Lib.hid (J0.out.below hb)
                replace V13 := Lib.hid (V13.out.next hb)
                replace J1 := Lib.hid (J1.out.below hb)
                replace J2 := Lib.hid (J2.out.below hb)
                replace J3 := Lib.hid (J3.out.below hb)
                replace J4 := Lib.hid (J4.out.below hb)
                replace J5 := Lib.hid (J5.out.below hb)
                have J6 := Lib.hid (i26)
                clear hb hHeld i26
                refine hK.out _ _ ⟨Xa.out.c0, Xa.out.c1, Y.out.c0, Y.out.c1⟩ (fun hHeld => ?_)
                clear hK K
                clear hHeld
                refine wpAnyH_done (by kernel_rfl) ?_ _
                refine HT.out _ _ ?_
                clear HT hP QT
                have p0 := V13.out.c0
                have p1 := V13.out.c1
                have p2 := V13.out.f0
                have p3 := V13.out.f1
                refine wpList_step fun K hK => ?_
                go_simp
                refine hK _ _ ?_
                clear hK K
                refine wpList_nil ?_
                go_wp2
                go_meet
                exact ⟨gV13, _, _, _, _, rfl, below_store P.out (by have := HGA.out; omega) _ _, Xa.out.far (by omega) p0 p1 _ _, Y.out.two (by omega) p0 p1 _ _, X8.out.far (by omega) p0 p1 _ _, X9.out.far (by omega) p0 p1 _ _, X11.out.far (by omega) p0 p1 _ _, V13.out.put J6.out⟩
              exact AllReadyH.nil
            refine AllReadyH.cons rfl (fun K hK => ?_) ?_
            ·
              go_simp
              clear hHeld
              have V13 := Lib.hid (Nvr.new (is_zero8 D7))
              have lY := Y.out.lt
              have lXa := Xa.out.lt
              have lX8 := X8.out.lt
              have lX9 := X9.out.lt
              have lX11 := X11.out.lt
              replace P := Lib.hid (P.out.trans ((below_alloc _ (.cells #[.bool false, .slice none 0 0] 24)).mono P.out.size))
              replace Y := Lib.hid (Y.out.next (below_alloc _ (.cells #[.bool false, .slice none 0 0] 24)))
              replace Xa := Lib.hid (Xa.out.next (below_alloc _ (.cells #[.bool false, .slice none 0 0] 24)))
              replace X8 := Lib.hid (X8.out.next (below_alloc _ (.cells #[.bool false, .slice none 0 0] 24)))
              replace X9 := Lib.hid (X9.out.next (below_alloc _ (.cells #[.bool false, .slice none 0 0] 24)))
              replace X11 := Lib.hid (X11.out.next (below_alloc _ (.cells #[.bool false, .slice none 0 0] 24)))
              skip
              generalize D7.alloc (.cells #[.bool false, .slice none 0 0] 24) = y43 at P Y Xa X8 X9 X11 V13 ⊢
              generalize D7.heap.size = gV13 at V13 lY lXa lX8 lX9 lX11 ⊢
              refine hK.out _ _ ⟨Xa.out.c0, Xa.out.c1, Y.out.c0, Y.out.c1⟩ (fun hHeld => ?_)
              clear hK K
              refine wpAnyH_ready (rs := [0]) (by kernel_rfl) (by simp) ?_
              refine AllReadyH.cons rfl (fun K hK => ?_) AllReadyH.nil
              go_simp
              refine (refOfV 2 _ (by omega) (by omega)).mono ?_
              rintro e w44 ⟨t20, A20, n20, c20, rfl, i20, hb⟩
              replace P := Lib.hid (P.out.trans (hb.mono P.out.size))
              replace Y := Lib.hid (Y.out.next hb)
              replace Xa := Lib.hid (Xa.out.next hb)
              replace X8 := Lib.hid (X8.out.next hb)
              replace X9 := Lib.hid (X9.out.next hb)
              replace X11 := Lib.hid (X11.out.next hb)
              replace V13 := Lib.hid (V13.out.next hb)
              have J0 := Lib.hid (i20.is)
              clear hb hHeld i20
              refine hK.out _ _ ⟨Xa.out.c0, Xa.out.c1, Y.out.c0, Y.out.c1⟩ (fun hHeld => ?_)
              clear hK K
              refine wpAnyH_ready (rs := [3]) (by kernel_rfl) (by simp) ?_
              refine AllReadyH.cons rfl (fun K hK => ?_) AllReadyH.nil
              go_simp
              refine (refMul_c Xa.out.is (HI.out _ Y.out.rd).is (Nat.le_trans (Xa.out.is.len HS.out) (by omega)) (Nat.le_trans ((HI.out _ Y.out.rd).is.len SB.out) (by omega))).mono ?_
              rintro e w45 ⟨t21, A21, n21, c21, rfl, i21, hb⟩
              replace P := Lib.hid (P.out.trans (hb.mono P.out.size))
              replace Y := Lib.hid (Y.out.next hb)
              replace Xa := Lib.hid (Xa.out.next hb)
              replace X8 := Lib.hid (X8.out.next hb)
              replace X9 := Lib.hid (X9.out.next hb)
              replace X11 := Lib.hid (X11.out.next hb)
              replace V13 := Lib.hid (V13.out.next hb)
              replace J0 := Lib.hid (J0.out.below hb)
              have J1 := Lib.hid (i21)
              clear hb hHeld i21
              refine hK.out _ _ ⟨Xa.out.c0, Xa.out.c1, Y.out.c0, Y.out.c1⟩ (fun hHeld => ?_)
              clear hK K
              refine wpAnyH_ready (rs := [4]) (by kernel_rfl) (by simp) ?_
              refine AllReadyH.cons rfl (fun K hK => ?_) AllReadyH.nil
              go_simp
              refine (refMul_c J0.out J1.out (Nat.le_trans (J0.out.len sz_two) (by omega)) (Nat.le_trans (J1.out.len SM.out) (by omega))).mono ?_
              rintro e w46 ⟨t22, A22, n22, c22, rfl, i22, hb⟩
              replace P := Lib.hid (P.out.trans (hb.mono P.out.size))
              replace Y := Lib.hid (Y.out.next hb)
              replace Xa := Lib.hid (Xa.out.next hb)
              replace X8 := Lib.hid (X8.out.next hb)
              replace X9 := Lib.hid (X9.out.next hb)
              replace X11 := Lib.hid (X11.out.next hb)
              replace V13 := Lib.hid (V13.out.next hb)
              replace J0 := Lib.hid (J0.out.below hb)
              replace J1 := Lib.hid (J1.out.below hb)
              have J2 := Lib.hid (i22)
              clear hb hHeld i22
              refine hK.out _ _ ⟨Xa.out.c0, Xa.out.c1, Y.out.c0, Y.out.c1⟩ (fun hHeld => ?_)
              clear hK K
              refine wpAnyH_ready (rs := [7]) (by kernel_rfl) (by simp) ?_
              refine AllReadyH.cons rfl (fun K hK => ?_) AllReadyH.nil
              go_simp
              refine (refMul_c (HI.out _ Y.out.rd).is (HI.out _ Y.out.rd).is (Nat.le_trans ((HI.out _ Y.out.rd).is.len SB.out) (by omega)) (Nat.le_trans ((HI.out _ Y.out.rd).is.len SB.out) (by omega))).mono ?_
              rintro e w47 ⟨t23, A23, n23, c23, rfl, i23, hb⟩
              replace P := Lib.hid (P.out.trans (hb.mono P.out.size))
              replace Y := Lib.hid (Y.out.next hb)
              replace Xa := Lib.hid (Xa.out.next hb)
              replace X8 := Lib.hid (X8.out.next hb)
              replace X9 := Lib.hid (X9.out.next hb)
              replace X11 := Lib.hid (X11.out.next hb)
              replace V13 := Lib.hid (V13.out.next hb)
              replace J0 := Lib.hid (J0.out.below hb)
              replace J1 := Lib.hid (J1.out.below hb)
              replace J2 := Lib.hid (J2.out.below hb)
              have J3 := Lib.hid (i23)
              clear hb hHeld i23
              refine hK.out _ _ ⟨Xa.out.c0, Xa.out.c1, Y.out.c0, Y.out.c1⟩ (fun hHeld => ?_)
              clear hK K
              refine wpAnyH_ready (rs := [8]) (by kernel_rfl) (by simp) ?_
              refine AllReadyH.cons rfl (fun K hK => ?_) AllReadyH.nil
              go_simp
              refine (refSub_c J2.out J3.out (Nat.le_trans (J2.out.len S2.out) (by omega)) (Nat.le_trans (J3.out.len SBB.out) (by omega))).mono ?_
              rintro e w48 ⟨t24, A24, n24, c24, rfl, i24, hb⟩
              replace P := Lib.hid (P.out.trans (hb.mono P.out.size))
              replace Y := Lib.hid (Y.out.next hb)
              replace Xa := Lib.hid (Xa.out.next hb)
              replace X8 := Lib.hid (X8.out.next hb)
              replace X9 := Lib.hid (X9.out.next hb)
              replace X11 := Lib.hid (X11.out.next hb)
              replace V13 := Lib.hid (V13.out.next hb)
              replace J0 := Lib.hid (J0.out.below hb)
              replace J1 := Lib.hid (J1.out.below hb)
              replace J2 := Lib.hid (J2.out.below hb)
              replace J3 := Lib.hid (J3.out.below hb)
              have J4 := Lib.hid (i24)
              clear hb hHeld i24
              refine hK.out _ _ ⟨Xa.out.c0, Xa.out.c1, Y.out.c0, Y.out.c1⟩ (fun hHeld => ?_)
              clear hK K
              refine wpAnyH_ready (rs := [9]) (by kernel_rfl) (by simp) ?_
              refine AllReadyH.cons rfl (fun K hK => ?_) AllReadyH.nil
              go_simp
              refine (refOfV 1 _ (by omega) (by omega)).mono ?_
              rintro e w49 ⟨t25, A25, n25, c25, rfl, i25, hb⟩
              replace P := Lib.hid (P.out.trans (hb.mono P.out.size))
              replace Y := Lib.hid (Y.out.next hb)
              replace Xa := Lib.hid (Xa.out.next hb)
              replace X8 := Lib.hid (X8.out.next hb)
              replace X9 := Lib.hid (X9.out.next hb)
              replace X11 := Lib.hid (X11.out.next hb)
              replace V13 := Lib.hid (V13.out.next hb)
              replace J0 := Lib.hid (J0.out.below hb)
              replace J1 := Lib.hid (J1.out.below hb)
              replace J2 := Lib.hid (J2.out.below hb)
              replace J3 := Lib.hid (J3.out.below hb)
              replace J4 := Lib.hid (J4.out.below hb)
              have J5 := Lib.hid (i25.is)
              clear hb hHeld i25
              refine hK.out _ _ ⟨Xa.out.c0, Xa.out.c1, Y.out.c0, Y.out.c1⟩ (fun hHeld => ?_)
              clear hK K
              refine wpAnyH_ready (rs := [10]) (by kernel_rfl) (by simp) ?_
              refine AllReadyH.cons rfl (fun K hK => ?_) AllReadyH.nil
              go_simp
              refine (refSub_c J4.out J5.out (Nat.le_trans (J4.out.len S3.out) (by omega)) (Nat.le_trans (J5.out.len (sz_one' (Nat.le_refl 1))) (by omega))).mono ?_
              rintro e w50 ⟨t26, A26, n26, c26, rfl, i26, hb⟩
              replace P := Lib.hid (P.out.trans (hb.mono P.out.size))
              replace Y := Lib.hid (Y.out.next hb)
              replace Xa := Lib.hid (Xa.out.next hb)
              replace X8 := Lib.hid (X8.out.next hb)
              replace X9 := Lib.hid (X9.out.next hb)
              replace X11 := Lib.hid (X11.out.next hb)
              replace V13 := Lib.hid (V13.out.next hb)
              replace J0 := Lib.hid (J0.out.below hb)
              replace J1 := Lib.hid (J1.out.below hb)
              replace J2 := Lib.hid (J2.out.below hb)
              replace J3 := Lib.hid (J3.out.below hb)
              replace J4 := Lib.hid (J4.out.below hb)
              replace J5 := Lib.hid (J5.out.below hb)
              have J6 := Lib.hid (i26)
              clear hb hHeld i26
              refine hK.out _ _ ⟨Xa.out.c0, Xa.out.c1, Y.out.c0, Y.out.c1⟩ (fun hHeld => ?_)
              clear hK K
              clear hHeld
              refine wpAnyH_done (by kernel_rfl) ?_ _
              refine HT.out _ _ ?_
              clear HT hP QT
              have p0 := V13.out.c0
              have p1 := V13.out.c1
              have p2 := V13.out.f0
              have p3 := V13.out.f1
              refine wpList_step fun K hK => ?_
              go_simp
              refine hK _ _ ?_
              clear hK K
              refine wpList_nil ?_
              go_wp2
              go_meet
              exact ⟨gV13, _, _, _, _, rfl, below_store P.out (by have := HGA.out; omega) _ _, Xa.out.far (by omega) p0 p1 _ _, Y.out.two (by omega) p0 p1 _ _, X8.out.far (by omega) p0 p1 _ _, X9.out.far (by omega) p0 p1 _ _, X11.out.far (by omega) p0 p1 _ _, V13.out.put J6.out⟩
            exact AllReadyH.nil
          case rest =>
            obtain ⟨g13, t13, A13, n13, c13, rfl, hp, h1, h2, h3, h4, h5, h6⟩ := hcut
            clear P Xa Y X8 X9 X11
            have P := Lib.hid hp
            have Xa := Lib.hid h1
            have Y := Lib.hid h2
            have X8 := Lib.hid h3
            have X9 := Lib.hid h4
            have X11 := Lib.hid h5
            have X13 := Lib.hid h6
            clear hp h1 h2 h3 h4 h5 h6
            have SX := Lib.hid (sz_chi_at HA.out HS.out (show N ≤ 120 by have := HN60.out; omega))
            have SY := Lib.hid (sz_psi_at HA.out HS.out (show N ≤ 120 by have := HN60.out; omega))
            have SD := Lib.hid (show Sz (a - b) 8 from HS.out.sub SB.out)
            have SDY := Lib.hid (show Sz ((a - b) * psi a N) 969 from SD.out.mul SY.out)
            have SZ := Lib.hid (show Sz (chi a N - (a - b) * psi a N) 970 from (SX.out.le (by omega)).sub SDY.out)
            go_upto_region 8 with (fail)
            go_cut [14] (fun v W => ∃ g t14 A14 n14 c14, v = .pointer (some ⟨g, 0, none⟩) ∧ Below w.heap.size w W ∧ Nvr W g11 (b ^ N) t11 A11 n11 c11 ∧ Nvr W g13 (2 * (a * b) - b * b - 1) t13 A13 n13 c13 ∧ Nvr W g (chi a N - (a - b) * psi a N) t14 A14 n14 c14)
            case first =>
              refine wp_region_tail (S := (fun w' => w'.cell? ⟨g8, 0, none⟩ = some (.bool t8) ∧ w'.cell? ⟨g8, 1, none⟩ = some (.slice A8 n8 c8) ∧ w'.cell? ⟨ga, 0, none⟩ = some (.bool t0) ∧ w'.cell? ⟨ga, 1, none⟩ = some (.slice A0 n0 c0) ∧ w'.cell? ⟨ga + 1, 0, none⟩ = some (.bool false) ∧ w'.cell? ⟨ga + 1, 1, none⟩ = some (.slice A' n' c') ∧ w'.cell? ⟨g8 + 1, 0, none⟩ = some (.bool t9) ∧ w'.cell? ⟨g8 + 1, 1, none⟩ = some (.slice A9 n9 c9))) 8 (by kernel_rfl) (by kernel_rfl) (by intro c a d v w h; cases d <;> exact h) ⟨cell_dr X8.out.c0, cell_dr X8.out.c1, cell_dr Xa.out.c0, cell_dr Xa.out.c1, cell_dr Y.out.c0, cell_dr Y.out.c1, cell_dr X9.out.c0, cell_dr X9.out.c1⟩ (fun QT hT hP hHeld => ?_)
              simp only [List.extract_toArray, List.extract_eq_take_drop, List.drop_zero, Nat.sub_zero, List.take_succ_cons, List.take_zero]
              have HT := Lib.hid hT
              clear hT
              replace P := Lib.hid (P.out.trans ((Below.refl wc.heap.size wc).drew.mono P.out.size))
              replace Xa := Lib.hid (Xa.out.next (Below.refl wc.heap.size wc).drew)
              replace Y := Lib.hid (Y.out.next (Below.refl wc.heap.size wc).drew)
              replace X8 := Lib.hid (X8.out.next (Below.refl wc.heap.size wc).drew)
              replace X9 := Lib.hid (X9.out.next (Below.refl wc.heap.size wc).drew)
              replace X11 := Lib.hid (X11.out.next (Below.refl wc.heap.size wc).drew)
              replace X13 := Lib.hid (X13.out.next (Below.refl wc.heap.size wc).drew)
              generalize wc.drew = D51 at P Xa Y X8 X9 X11 X13 hHeld ⊢
              refine take_on (i := 0) (d := (some 62)) (v := ?v5) rfl rfl (by kernel_rfl) (by kernel_rfl) (by kernel_rfl) (fun c a w h => hP c a _ _ w h) (by rfl) ?h5 (by assumption) ?r5
              case h5 => intro w hSw; obtain ⟨h0, h1, h2, h3, h4, h5, h6, h7⟩ := hSw; go_simp; rfl
              simp only [Act.put, List.setIfInBounds_toArray, List.set_cons_zero, List.set_cons_succ]
              refine take_on (i := 1) (d := (some 63)) (v := ?v6) rfl rfl (by kernel_rfl) (by kernel_rfl) (by kernel_rfl) (fun c a w h => hP c a _ _ w h) (by rfl) ?h6 (by assumption) ?r6
              case h6 => intro w hSw; obtain ⟨h0, h1, h2, h3, h4, h5, h6, h7⟩ := hSw; go_simp; rfl
              simp only [Act.put, List.setIfInBounds_toArray, List.set_cons_zero, List.set_cons_succ]
              refine take_on (i := 2) (d := (some 64)) (v := ?v7) rfl rfl (by kernel_rfl) (by kernel_rfl) (by kernel_rfl) (fun c a w h => hP c a _ _ w h) (by rfl) ?h7 (by assumption) ?r7
              case h7 => intro w hSw; obtain ⟨h0, h1, h2, h3, h4, h5, h6, h7⟩ := hSw; go_simp; rfl
              simp only [Act.put, List.setIfInBounds_toArray, List.set_cons_zero, List.set_cons_succ]
              refine take_on (i := 4) (d := (some 66)) (v := ?v8) rfl rfl (by kernel_rfl) (by kernel_rfl) (by kernel_rfl) (fun c a w h => hP c a _ _ w h) (by rfl) ?h8 (by assumption) ?r8
              case h8 => intro w hSw; obtain ⟨h0, h1, h2, h3, h4, h5, h6, h7⟩ := hSw; go_simp; rfl
              simp only [Act.put, List.setIfInBounds_toArray, List.set_cons_zero, List.set_cons_succ]
              refine wpAnyH_ready (rs := [3, 7]) (by kernel_rfl) (by simp) ?_
              refine AllReadyH.cons rfl (fun K hK => ?_) ?_
              ·
                go_simp
                refine (refSub_c Xa.out.is (HI.out _ Y.out.rd).is (Nat.le_trans (Xa.out.is.len HS.out) (by omega)) (Nat.le_trans ((HI.out _ Y.out.rd).is.len SB.out) (by omega))).mono ?_
                rintro e w52 ⟨t30, A30, n30, c30, rfl, i30, hb⟩
                replace P := Lib.hid (P.out.trans (hb.mono P.out.size))
                replace Xa := Lib.hid (Xa.out.next hb)
                replace Y := Lib.hid (Y.out.next hb)
                replace X8 := Lib.hid (X8.out.next hb)
                replace X9 := Lib.hid (X9.out.next hb)
                replace X11 := Lib.hid (X11.out.next hb)
                replace X13 := Lib.hid (X13.out.next hb)
                have J0 := Lib.hid (i30)
                clear hb hHeld i30
                refine hK.out _ _ ⟨X8.out.c0, X8.out.c1, Xa.out.c0, Xa.out.c1, Y.out.c0, Y.out.c1, X9.out.c0, X9.out.c1⟩ (fun hHeld => ?_)
                clear hK K
                refine wpAnyH_ready (rs := [5, 7]) (by kernel_rfl) (by simp) ?_
                refine AllReadyH.cons rfl (fun K hK => ?_) ?_
                ·
                  go_simp
                  refine (refMul_c J0.out X9.out.is (Nat.le_trans (J0.out.len SD.out) (by omega)) (Nat.le_trans (X9.out.is.len SY.out) (by omega))).mono ?_
                  rintro e w53 ⟨t31, A31, n31, c31, rfl, i31, hb⟩
                  replace P := Lib.hid (P.out.trans (hb.mono P.out.size))
                  replace Xa := Lib.hid (Xa.out.next hb)
                  replace Y := Lib.hid (Y.out.next hb)
                  replace X8 := Lib.hid (X8.out.next hb)
                  replace X9 := Lib.hid (X9.out.next hb)
                  replace X11 := Lib.hid (X11.out.next hb)
                  replace X13 := Lib.hid (X13.out.next hb)
                  replace J0 := Lib.hid (J0.out.below hb)
                  have J1 := Lib.hid (i31)
                  clear hb hHeld i31
                  refine hK.out _ _ ⟨X8.out.c0, X8.out.c1, Xa.out.c0, Xa.out.c1, Y.out.c0, Y.out.c1, X9.out.c0, X9.out.c1⟩ (fun hHeld => ?_)
                  clear hK K
                  refine wpAnyH_ready (rs := [6, 7]) (by kernel_rfl) (by simp) ?_
                  refine AllReadyH.cons rfl (fun K hK => ?_) ?_
                  ·
                    go_simp
                    refine (refSub_c X8.out.is J1.out (Nat.le_trans (X8.out.is.len SX.out) (by omega)) (Nat.le_trans (J1.out.len SDY.out) (by omega))).mono ?_
                    rintro e w54 ⟨t32, A32, n32, c32, rfl, i32, hb⟩
                    replace P := Lib.hid (P.out.trans (hb.mono P.out.size))
                    replace Xa := Lib.hid (Xa.out.next hb)
                    replace Y := Lib.hid (Y.out.next hb)
                    replace X8 := Lib.hid (X8.out.next hb)
                    replace X9 := Lib.hid (X9.out.next hb)
                    replace X11 := Lib.hid (X11.out.next hb)
                    replace X13 := Lib.hid (X13.out.next hb)
                    replace J0 := Lib.hid (J0.out.below hb)
                    replace J1 := Lib.hid (J1.out.below hb)
                    have J2 := Lib.hid (i32)
                    clear hb hHeld i32
                    refine hK.out _ _ ⟨X8.out.c0, X8.out.c1, Xa.out.c0, Xa.out.c1, Y.out.c0, Y.out.c1, X9.out.c0, X9.out.c1⟩ (fun hHeld => ?_)
                    clear hK K
                    refine wpAnyH_ready (rs := [7]) (by kernel_rfl) (by simp) ?_
                    refine AllReadyH.cons rfl (fun K hK => ?_) AllReadyH.nil
                    go_simp
                    clear hHeld
                    have V14 := Lib.hid (Nvr.new (is_zero8 w54))
                    have lXa := Xa.out.lt
                    have lY := Y.out.lt
                    have lX8 := X8.out.lt
                    have lX9 := X9.out.lt
                    have lX11 := X11.out.lt
                    have lX13 := X13.out.lt
                    replace P := Lib.hid (P.out.trans ((below_alloc _ (.cells #[.bool false, .slice none 0 0] 24)).mono P.out.size))
                    replace Xa := Lib.hid (Xa.out.next (below_alloc _ (.cells #[.bool false, .slice none 0 0] 24)))
                    replace Y := Lib.hid (Y.out.next (below_alloc _ (.cells #[.bool false, .slice none 0 0] 24)))
                    replace X8 := Lib.hid (X8.out.next (below_alloc _ (.cells #[.bool false, .slice none 0 0] 24)))
                    replace X9 := Lib.hid (X9.out.next (below_alloc _ (.cells #[.bool false, .slice none 0 0] 24)))
                    replace X11 := Lib.hid (X11.out.next (below_alloc _ (.cells #[.bool false, .slice none 0 0] 24)))
                    replace X13 := Lib.hid (X13.out.next (below_alloc _ (.cells #[.bool false, .slice none 0 0] 24)))
                    replace J0 := Lib.hid (J0.out.below (below_alloc _ (.cells #[.bool false, .slice none 0 0] 24)))
                    replace J1 := Lib.hid (J1.out.below (below_alloc _ (.cells #[.bool false, .slice none 0 0] 24)))
                    replace J2 := Lib.hid (J2.out.below (below_alloc _ (.cells #[.bool false, .slice none 0 0] 24)))
                    skip
                    generalize w54.alloc (.cells #[.bool false, .slice none 0 0] 24) = y55 at P Xa Y X8 X9 X11 X13 J0 J1 J2 V14 ⊢
                    generalize w54.heap.size = gV14 at V14 lXa lY lX8 lX9 lX11 lX13 ⊢
                    refine hK.out _ _ ⟨X8.out.c0, X8.out.c1, Xa.out.c0, Xa.out.c1, Y.out.c0, Y.out.c1, X9.out.c0, X9.out.c1⟩ (fun hHeld => ?_)
                    clear hK K
                    clear hHeld
                    refine wpAnyH_done (by kernel_rfl) ?_ _
                    refine HT.out _ _ ?_
                    clear HT hP QT
                    have p0 := V14.out.c0
                    have p1 := V14.out.c1
                    have p2 := V14.out.f0
                    have p3 := V14.out.f1
                    refine wpList_step fun K hK => ?_
                    go_simp
                    refine hK _ _ ?_
                    clear hK K
                    refine wpList_nil ?_
                    go_wp2
                    go_meet
                    exact ⟨gV14, _, _, _, _, rfl, below_store P.out (by have := HGA.out; omega) _ _, X11.out.far (by omega) p0 p1 _ _, X13.out.far (by omega) p0 p1 _ _, V14.out.put J2.out⟩
                  refine AllReadyH.cons rfl (fun K hK => ?_) ?_
                  ·
                    go_simp
                    clear hHeld
                    have V14 := Lib.hid (Nvr.new (is_zero8 w53))
                    have lXa := Xa.out.lt
                    have lY := Y.out.lt
                    have lX8 := X8.out.lt
                    have lX9 := X9.out.lt
                    have lX11 := X11.out.lt
                    have lX13 := X13.out.lt
                    replace P := Lib.hid (P.out.trans ((below_alloc _ (.cells #[.bool false, .slice none 0 0] 24)).mono P.out.size))
                    replace Xa := Lib.hid (Xa.out.next (below_alloc _ (.cells #[.bool false, .slice none 0 0] 24)))
                    replace Y := Lib.hid (Y.out.next (below_alloc _ (.cells #[.bool false, .slice none 0 0] 24)))
                    replace X8 := Lib.hid (X8.out.next (below_alloc _ (.cells #[.bool false, .slice none 0 0] 24)))
                    replace X9 := Lib.hid (X9.out.next (below_alloc _ (.cells #[.bool false, .slice none 0 0] 24)))
                    replace X11 := Lib.hid (X11.out.next (below_alloc _ (.cells #[.bool false, .slice none 0 0] 24)))
                    replace X13 := Lib.hid (X13.out.next (below_alloc _ (.cells #[.bool false, .slice none 0 0] 24)))
                    replace J0 := Lib.hid (J0.out.below (below_alloc _ (.cells #[.bool false, .slice none 0 0] 24)))
                    replace J1 := Lib.hid (J1.out.below (below_alloc _ (.cells #[.bool false, .slice none 0 0] 24)))
                    skip
                    generalize w53.alloc (.cells #[.bool false, .slice none 0 0] 24) = y56 at P Xa Y X8 X9 X11 X13 J0 J1 V14 ⊢
                    generalize w53.heap.size = gV14 at V14 lXa lY lX8 lX9 lX11 lX13 ⊢
                    refine hK.out _ _ ⟨X8.out.c0, X8.out.c1, Xa.out.c0, Xa.out.c1, Y.out.c0, Y.out.c1, X9.out.c0, X9.out.c1⟩ (fun hHeld => ?_)
                    clear hK K
                    refine wpAnyH_ready (rs := [6]) (by kernel_rfl) (by simp) ?_
                    refine AllReadyH.cons rfl (fun K hK => ?_) AllReadyH.nil
                    go_simp
                    refine (refSub_c X8.out.is J1.out (Nat.le_trans (X8.out.is.len SX.out) (by omega)) (Nat.le_trans (J1.out.len SDY.out) (by omega))).mono ?_
                    rintro e w57 ⟨t32, A32, n32, c32, rfl, i32, hb⟩
                    replace P := Lib.hid (P.out.trans (hb.mono P.out.size))
                    replace Xa := Lib.hid (Xa.out.next hb)
                    replace Y := Lib.hid (Y.out.next hb)
                    replace X8 := Lib.hid (X8.out.next hb)
                    replace X9 := Lib.hid (X9.out.next hb)
                    replace X11 := Lib.hid (X11.out.next hb)
                    replace X13 := Lib.hid (X13.out.next hb)
                    replace J0 := Lib.hid (J0.out.below hb)
                    replace J1 := Lib.hid (J1.out.below hb)
                    replace V14 := Lib.hid (V14.out.next hb)
                    have J2 := Lib.hid (i32)
                    clear hb hHeld i32
                    refine hK.out _ _ ⟨X8.out.c0, X8.out.c1, Xa.out.c0, Xa.out.c1, Y.out.c0, Y.out.c1, X9.out.c0, X9.out.c1⟩ (fun hHeld => ?_)
                    clear hK K
                    clear hHeld
                    refine wpAnyH_done (by kernel_rfl) ?_ _
                    refine HT.out _ _ ?_
                    clear HT hP QT
                    have p0 := V14.out.c0
                    have p1 := V14.out.c1
                    have p2 := V14.out.f0
                    have p3 := V14.out.f1
                    refine wpList_step fun K hK => ?_
                    go_simp
                    refine hK _ _ ?_
                    clear hK K
                    refine wpList_nil ?_
                    go_wp2
                    go_meet
                    exact ⟨gV14, _, _, _, _, rfl, below_store P.out (by have := HGA.out; omega) _ _, X11.out.far (by omega) p0 p1 _ _, X13.out.far (by omega) p0 p1 _ _, V14.out.put J2.out⟩
                  exact AllReadyH.nil
                refine AllReadyH.cons rfl (fun K hK => ?_) ?_
                ·
                  go_simp
                  clear hHeld
                  have V14 := Lib.hid (Nvr.new (is_zero8 w52))
                  have lXa := Xa.out.lt
                  have lY := Y.out.lt
                  have lX8 := X8.out.lt
                  have lX9 := X9.out.lt
                  have lX11 := X11.out.lt
                  have lX13 := X13.out.lt
                  replace P := Lib.hid (P.out.trans ((below_alloc _ (.cells #[.bool false, .slice none 0 0] 24)).mono P.out.size))
                  replace Xa := Lib.hid (Xa.out.next (below_alloc _ (.cells #[.bool false, .slice none 0 0] 24)))
                  replace Y := Lib.hid (Y.out.next (below_alloc _ (.cells #[.bool false, .slice none 0 0] 24)))
                  replace X8 := Lib.hid (X8.out.next (below_alloc _ (.cells #[.bool false, .slice none 0 0] 24)))
                  replace X9 := Lib.hid (X9.out.next (below_alloc _ (.cells #[.bool false, .slice none 0 0] 24)))
                  replace X11 := Lib.hid (X11.out.next (below_alloc _ (.cells #[.bool false, .slice none 0 0] 24)))
                  replace X13 := Lib.hid (X13.out.next (below_alloc _ (.cells #[.bool false, .slice none 0 0] 24)))
                  replace J0 := Lib.hid (J0.out.below (below_alloc _ (.cells #[.bool false, .slice none 0 0] 24)))
                  skip
                  generalize w52.alloc (.cells #[.bool false, .slice none 0 0] 24) = y58 at P Xa Y X8 X9 X11 X13 J0 V14 ⊢
                  generalize w52.heap.size = gV14 at V14 lXa lY lX8 lX9 lX11 lX13 ⊢
                  refine hK.out _ _ ⟨X8.out.c0, X8.out.c1, Xa.out.c0, Xa.out.c1, Y.out.c0, Y.out.c1, X9.out.c0, X9.out.c1⟩ (fun hHeld => ?_)
                  clear hK K
                  refine wpAnyH_ready (rs := [5]) (by kernel_rfl) (by simp) ?_
                  refine AllReadyH.cons rfl (fun K hK => ?_) AllReadyH.nil
                  go_simp
                  refine (refMul_c J0.out X9.out.is (Nat.le_trans (J0.out.len SD.out) (by omega)) (Nat.le_trans (X9.out.is.len SY.out) (by omega))).mono ?_
                  rintro e w59 ⟨t31, A31, n31, c31, rfl, i31, hb⟩
                  replace P := Lib.hid (P.out.trans (hb.mono P.out.size))
                  replace Xa := Lib.hid (Xa.out.next hb)
                  replace Y := Lib.hid (Y.out.next hb)
                  replace X8 := Lib.hid (X8.out.next hb)
                  replace X9 := Lib.hid (X9.out.next hb)
                  replace X11 := Lib.hid (X11.out.next hb)
                  replace X13 := Lib.hid (X13.out.next hb)
                  replace J0 := Lib.hid (J0.out.below hb)
                  replace V14 := Lib.hid (V14.out.next hb)
                  have J1 := Lib.hid (i31)
                  clear hb hHeld i31
                  refine hK.out _ _ ⟨X8.out.c0, X8.out.c1, Xa.out.c0, Xa.out.c1, Y.out.c0, Y.out.c1, X9.out.c0, X9.out.c1⟩ (fun hHeld => ?_)
                  clear hK K
                  refine wpAnyH_ready (rs := [6]) (by kernel_rfl) (by simp) ?_
                  refine AllReadyH.cons rfl (fun K hK => ?_) AllReadyH.nil
                  go_simp
                  refine (refSub_c X8.out.is J1.out (Nat.le_trans (X8.out.is.len SX.out) (by omega)) (Nat.le_trans (J1.out.len SDY.out) (by omega))).mono ?_
                  rintro e w60 ⟨t32, A32, n32, c32, rfl, i32, hb⟩
                  replace P := Lib.hid (P.out.trans (hb.mono P.out.size))
                  replace Xa := Lib.hid (Xa.out.next hb)
                  replace Y := Lib.hid (Y.out.next hb)
                  replace X8 := Lib.hid (X8.out.next hb)
                  replace X9 := Lib.hid (X9.out.next hb)
                  replace X11 := Lib.hid (X11.out.next hb)
                  replace X13 := Lib.hid (X13.out.next hb)
                  replace J0 := Lib.hid (J0.out.below hb)
                  replace V14 := Lib.hid (V14.out.next hb)
                  replace J1 := Lib.hid (J1.out.below hb)
                  have J2 := Lib.hid (i32)
                  clear hb hHeld i32
                  refine hK.out _ _ ⟨X8.out.c0, X8.out.c1, Xa.out.c0, Xa.out.c1, Y.out.c0, Y.out.c1, X9.out.c0, X9.out.c1⟩ (fun hHeld => ?_)
                  clear hK K
                  clear hHeld
                  refine wpAnyH_done (by kernel_rfl) ?_ _
                  refine HT.out _ _ ?_
                  clear HT hP QT
                  have p0 := V14.out.c0
                  have p1 := V14.out.c1
                  have p2 := V14.out.f0
                  have p3 := V14.out.f1
                  refine wpList_step fun K hK => ?_
                  go_simp
                  refine hK _ _ ?_
                  clear hK K
                  refine wpList_nil ?_
                  go_wp2
                  go_meet
                  exact ⟨gV14, _, _, _, _, rfl, below_store P.out (by have := HGA.out; omega) _ _, X11.out.far (by omega) p0 p1 _ _, X13.out.far (by omega) p0 p1 _ _, V14.out.put J2.out⟩
                exact AllReadyH.nil
              refine AllReadyH.cons rfl (fun K hK => ?_) ?_
              ·
                go_simp
                clear hHeld
                have V14 := Lib.hid (Nvr.new (is_zero8 D51))
                have lXa := Xa.out.lt
                have lY := Y.out.lt
                have lX8 := X8.out.lt
                have lX9 := X9.out.lt
                have lX11 := X11.out.lt
                have lX13 := X13.out.lt
                replace P := Lib.hid (P.out.trans ((below_alloc _ (.cells #[.bool false, .slice none 0 0] 24)).mono P.out.size))
                replace Xa := Lib.hid (Xa.out.next (below_alloc _ (.cells #[.bool false, .slice none 0 0] 24)))
                replace Y := Lib.hid (Y.out.next (below_alloc _ (.cells #[.bool false, .slice none 0 0] 24)))
                replace X8 := Lib.hid (X8.out.next (below_alloc _ (.cells #[.bool false, .slice none 0 0] 24)))
                replace X9 := Lib.hid (X9.out.next (below_alloc _ (.cells #[.bool false, .slice none 0 0] 24)))
                replace X11 := Lib.hid (X11.out.next (below_alloc _ (.cells #[.bool false, .slice none 0 0] 24)))
                replace X13 := Lib.hid (X13.out.next (below_alloc _ (.cells #[.bool false, .slice none 0 0] 24)))
                skip
                generalize D51.alloc (.cells #[.bool false, .slice none 0 0] 24) = y61 at P Xa Y X8 X9 X11 X13 V14 ⊢
                generalize D51.heap.size = gV14 at V14 lXa lY lX8 lX9 lX11 lX13 ⊢
                refine hK.out _ _ ⟨X8.out.c0, X8.out.c1, Xa.out.c0, Xa.out.c1, Y.out.c0, Y.out.c1, X9.out.c0, X9.out.c1⟩ (fun hHeld => ?_)
                clear hK K
                refine wpAnyH_ready (rs := [3]) (by kernel_rfl) (by simp) ?_
                refine AllReadyH.cons rfl (fun K hK => ?_) AllReadyH.nil
                go_simp
                refine (refSub_c Xa.out.is (HI.out _ Y.out.rd).is (Nat.le_trans (Xa.out.is.len HS.out) (by omega)) (Nat.le_trans ((HI.out _ Y.out.rd).is.len SB.out) (by omega))).mono ?_
                rintro e w62 ⟨t30, A30, n30, c30, rfl, i30, hb⟩
                replace P := Lib.hid (P.out.trans (hb.mono P.out.size))
                replace Xa := Lib.hid (Xa.out.next hb)
                replace Y := Lib.hid (Y.out.next hb)
                replace X8 := Lib.hid (X8.out.next hb)
                replace X9 := Lib.hid (X9.out.next hb)
                replace X11 := Lib.hid (X11.out.next hb)
                replace X13 := Lib.hid (X13.out.next hb)
                replace V14 := Lib.hid (V14.out.next hb)
                have J0 := Lib.hid (i30)
                clear hb hHeld i30
                refine hK.out _ _ ⟨X8.out.c0, X8.out.c1, Xa.out.c0, Xa.out.c1, Y.out.c0, Y.out.c1, X9.out.c0, X9.out.c1⟩ (fun hHeld => ?_)
                clear hK K
                refine wpAnyH_ready (rs := [5]) (by kernel_rfl) (by simp) ?_
                refine AllReadyH.cons rfl (fun K hK => ?_) AllReadyH.nil
                go_simp
                refine (refMul_c J0.out X9.out.is (Nat.le_trans (J0.out.len SD.out) (by omega)) (Nat.le_trans (X9.out.is.len SY.out) (by omega))).mono ?_
                rintro e w63 ⟨t31, A31, n31, c31, rfl, i31, hb⟩
                replace P := Lib.hid (P.out.trans (hb.mono P.out.size))
                replace Xa := Lib.hid (Xa.out.next hb)
                replace Y := Lib.hid (Y.out.next hb)
                replace X8 := Lib.hid (X8.out.next hb)
                replace X9 := Lib.hid (X9.out.next hb)
                replace X11 := Lib.hid (X11.out.next hb)
                replace X13 := Lib.hid (X13.out.next hb)
                replace V14 := Lib.hid (V14.out.next hb)
                replace J0 := Lib.hid (J0.out.below hb)
                have J1 := Lib.hid (i31)
                clear hb hHeld i31
                refine hK.out _ _ ⟨X8.out.c0, X8.out.c1, Xa.out.c0, Xa.out.c1, Y.out.c0, Y.out.c1, X9.out.c0, X9.out.c1⟩ (fun hHeld => ?_)
                clear hK K
                refine wpAnyH_ready (rs := [6]) (by kernel_rfl) (by simp) ?_
                refine AllReadyH.cons rfl (fun K hK => ?_) AllReadyH.nil
                go_simp
                refine (refSub_c X8.out.is J1.out (Nat.le_trans (X8.out.is.len SX.out) (by omega)) (Nat.le_trans (J1.out.len SDY.out) (by omega))).mono ?_
                rintro e w64 ⟨t32, A32, n32, c32, rfl, i32, hb⟩
                replace P := Lib.hid (P.out.trans (hb.mono P.out.size))
                replace Xa := Lib.hid (Xa.out.next hb)
                replace Y := Lib.hid (Y.out.next hb)
                replace X8 := Lib.hid (X8.out.next hb)
                replace X9 := Lib.hid (X9.out.next hb)
                replace X11 := Lib.hid (X11.out.next hb)
                replace X13 := Lib.hid (X13.out.next hb)
                replace V14 := Lib.hid (V14.out.next hb)
                replace J0 := Lib.hid (J0.out.below hb)
                replace J1 := Lib.hid (J1.out.below hb)
                have J2 := Lib.hid (i32)
                clear hb hHeld i32
                refine hK.out _ _ ⟨X8.out.c0, X8.out.c1, Xa.out.c0, Xa.out.c1, Y.out.c0, Y.out.c1, X9.out.c0, X9.out.c1⟩ (fun hHeld => ?_)
                clear hK K
                clear hHeld
                refine wpAnyH_done (by kernel_rfl) ?_ _
                refine HT.out _ _ ?_
                clear HT hP QT
                have p0 := V14.out.c0
                have p1 := V14.out.c1
                have p2 := V14.out.f0
                have p3 := V14.out.f1
                refine wpList_step fun K hK => ?_
                go_simp
                refine hK _ _ ?_
                clear hK K
                refine wpList_nil ?_
                go_wp2
                go_meet
                exact ⟨gV14, _, _, _, _, rfl, below_store P.out (by have := HGA.out; omega) _ _, X11.out.far (by omega) p0 p1 _ _, X13.out.far (by omega) p0 p1 _ _, V14.out.put J2.out⟩
              exact AllReadyH.nil
            case rest =>
              obtain ⟨g14, t14, A14, n14, c14, rfl, hp, h1, h2, h3⟩ := hcut
              clear P Xa Y X8 X9 X11 X13
              have P := Lib.hid hp
              have X11 := Lib.hid h1
              have X13 := Lib.hid h2
              have X14 := Lib.hid h3
              clear hp h1 h2 h3
              obtain ⟨q, hq0, hq⟩ := powers_of HB.out HA.out N
              have HM0 := Lib.hid (Int.mul_nonneg (pow_m HB.out HBA.out) hq0)
              have HDV := Lib.hid (show (2 * (a * b) - b * b - 1) ∣ (chi a N - (a - b) * psi a N - b ^ N) from ⟨q, by omega⟩)
              have HGE := Lib.hid (show b ^ N ≤ chi a N - (a - b) * psi a N by have := HM0.out; omega)
              obtain ⟨r9, hr9⟩ : ∃ r, r = ord (chi a N - (a - b) * psi a N) (b ^ N) := ⟨_, rfl⟩
              have r90 : 0 ≤ r9 := by rw [hr9]; exact ord_ge (by have := HGE.out; omega)
              have r91 : decide (r9 < 0) = false := decide_eq_false (by omega)
              have r92 : decide (0 ≤ r9) = true := decide_eq_true r90
              have HR9 := Lib.hid hr9.symm
              clear hq0 hq hr9
              go_upto_region 9 with (fail)
              refine wp_region_held_drew (S := (fun w' => w'.cell? ⟨g14, 0, none⟩ = some (.bool t14) ∧ w'.cell? ⟨g14, 1, none⟩ = some (.slice A14 n14 c14) ∧ w'.cell? ⟨g11, 0, none⟩ = some (.bool t11) ∧ w'.cell? ⟨g11, 1, none⟩ = some (.slice A11 n11 c11) ∧ w'.cell? ⟨g13, 0, none⟩ = some (.bool t13) ∧ w'.cell? ⟨g13, 1, none⟩ = some (.slice A13 n13 c13))) (by kernel_rfl) ⟨cell_dr X14.out.c0, cell_dr X14.out.c1, cell_dr X11.out.c0, cell_dr X11.out.c1, cell_dr X13.out.c0, cell_dr X13.out.c1⟩ (fun hHeld => ?_)
              replace P := Lib.hid (P.out.trans ((Below.refl wc.heap.size wc).drew.mono P.out.size))
              replace X11 := Lib.hid (X11.out.next (Below.refl wc.heap.size wc).drew)
              replace X13 := Lib.hid (X13.out.next (Below.refl wc.heap.size wc).drew)
              replace X14 := Lib.hid (X14.out.next (Below.refl wc.heap.size wc).drew)
              generalize wc.drew = D65 at P X11 X13 X14 hHeld ⊢
              refine take_on (i := 0) (d := (some 69)) (v := ?v9) rfl rfl (by kernel_rfl) (by kernel_rfl) (by kernel_rfl) (fun c a w h => h) (by rfl) ?h9 (by assumption) ?r9
              case h9 => intro w hSw; obtain ⟨h0, h1, h2, h3, h4, h5⟩ := hSw; go_simp; rfl
              simp only [Act.put, List.setIfInBounds_toArray, List.set_cons_zero, List.set_cons_succ]
              refine take_on (i := 1) (d := (some 70)) (v := ?v10) rfl rfl (by kernel_rfl) (by kernel_rfl) (by kernel_rfl) (fun c a w h => h) (by rfl) ?h10 (by assumption) ?r10
              case h10 => intro w hSw; obtain ⟨h0, h1, h2, h3, h4, h5⟩ := hSw; go_simp; rfl
              simp only [Act.put, List.setIfInBounds_toArray, List.set_cons_zero, List.set_cons_succ]
              refine take_on (i := 2) (d := (some 71)) (v := ?v11) rfl rfl (by kernel_rfl) (by kernel_rfl) (by kernel_rfl) (fun c a w h => h) (by rfl) ?h11 (by assumption) ?r11
              case h11 => intro w hSw; obtain ⟨h0, h1, h2, h3, h4, h5⟩ := hSw; go_simp; rfl
              simp only [Act.put, List.setIfInBounds_toArray, List.set_cons_zero, List.set_cons_succ]
              refine take_on (i := 3) (d := (some 72)) (v := ?v12) rfl rfl (by kernel_rfl) (by kernel_rfl) (by kernel_rfl) (fun c a w h => h) (by rfl) ?h12 (by assumption) ?r12
              case h12 => intro w hSw; obtain ⟨h0, h1, h2, h3, h4, h5⟩ := hSw; go_simp; rfl
              simp only [Act.put, List.setIfInBounds_toArray, List.set_cons_zero, List.set_cons_succ]
              refine take_on (i := 4) (d := (some 73)) (v := ?v13) rfl rfl (by kernel_rfl) (by kernel_rfl) (by kernel_rfl) (fun c a w h => h) (by rfl) ?h13 (by assumption) ?r13
              case h13 => intro w hSw; obtain ⟨h0, h1, h2, h3, h4, h5⟩ := hSw; go_simp; rfl
              simp only [Act.put, List.setIfInBounds_toArray, List.set_cons_zero, List.set_cons_succ]
              refine take_on (i := 5) (d := (some 74)) (v := ?v14) rfl rfl (by kernel_rfl) (by kernel_rfl) (by kernel_rfl) (fun c a w h => h) (by rfl) ?h14 (by assumption) ?r14
              case h14 => intro w hSw; obtain ⟨h0, h1, h2, h3, h4, h5⟩ := hSw; go_simp; rfl
              simp only [Act.put, List.setIfInBounds_toArray, List.set_cons_zero, List.set_cons_succ]
              refine take_on (i := 6) (d := (some 75)) (v := ?v15) rfl rfl (by kernel_rfl) (by kernel_rfl) (by kernel_rfl) (fun c a w h => h) (by rfl) ?h15 (by assumption) ?r15
              case h15 => intro w hSw; obtain ⟨h0, h1, h2, h3, h4, h5⟩ := hSw; go_simp; rfl
              simp only [Act.put, List.setIfInBounds_toArray, List.set_cons_zero, List.set_cons_succ]
              refine wpAnyH_ready (rs := [7]) (by kernel_rfl) (by simp) ?_
              refine AllReadyH.cons rfl (fun K hK => ?_) AllReadyH.nil
              go_simp
              refine (refCmp_c X14.out.is X11.out.is (Nat.le_trans (X14.out.is.len SZ.out) (by omega)) (Nat.le_trans (X11.out.is.len SPw.out) (by omega))).mono ?_
              rw [HR9.out]
              rintro e w66 ⟨rfl, hb⟩
              replace P := Lib.hid (P.out.trans (hb.mono P.out.size))
              replace X11 := Lib.hid (X11.out.next hb)
              replace X13 := Lib.hid (X13.out.next hb)
              replace X14 := Lib.hid (X14.out.next hb)
              clear hb hHeld
              refine hK.out _ _ ⟨X14.out.c0, X14.out.c1, X11.out.c0, X11.out.c1, X13.out.c0, X13.out.c1⟩ (fun hHeld => ?_)
              clear hK K
              refine take_on (i := 8) (d := (some 77)) (v := ?v16) rfl rfl (by kernel_rfl) (by kernel_rfl) (by kernel_rfl) (fun c a w h => h) (by rfl) ?h16 (by assumption) ?r16
              case h16 => intro w hSw; obtain ⟨h0, h1, h2, h3, h4, h5⟩ := hSw; go_simp; rfl
              simp only [Act.put, List.setIfInBounds_toArray, List.set_cons_zero, List.set_cons_succ]
              refine take_on (i := 9) (d := (some 78)) (v := ?v17) rfl rfl (by kernel_rfl) (by kernel_rfl) (by kernel_rfl) (fun c a w h => h) (by rfl) ?h17 (by assumption) ?r17
              case h17 => intro w hSw; obtain ⟨h0, h1, h2, h3, h4, h5⟩ := hSw; go_simp; rfl
              simp only [Act.put, List.setIfInBounds_toArray, List.set_cons_zero, List.set_cons_succ]
              refine take_on (i := 10) (d := (some 79)) (v := ?v18) rfl rfl (by kernel_rfl) (by kernel_rfl) (by kernel_rfl) (fun c a w h => h) (by rfl) ?h18 (by assumption) ?r18
              case h18 => intro w hSw; obtain ⟨h0, h1, h2, h3, h4, h5⟩ := hSw; go_simp; rfl
              simp only [Act.put, List.setIfInBounds_toArray, List.set_cons_zero, List.set_cons_succ]
              refine take_on (i := 11) (d := (some 80)) (v := ?v19) rfl rfl (by kernel_rfl) (by kernel_rfl) (by kernel_rfl) (fun c a w h => h) (by rfl) ?h19 (by assumption) ?r19
              case h19 => intro w hSw; obtain ⟨h0, h1, h2, h3, h4, h5⟩ := hSw; go_simp; rfl
              simp only [Act.put, List.setIfInBounds_toArray, List.set_cons_zero, List.set_cons_succ]
              refine take_on (i := 12) (d := (some 81)) (v := ?v20) rfl rfl (by kernel_rfl) (by kernel_rfl) (by kernel_rfl) (fun c a w h => h) (by rfl) ?h20 (by assumption) ?r20
              case h20 => intro w hSw; obtain ⟨h0, h1, h2, h3, h4, h5⟩ := hSw; go_simp; rfl
              simp only [Act.put, List.setIfInBounds_toArray, List.set_cons_zero, List.set_cons_succ]
              refine take_on (i := 13) (d := (some 82)) (v := ?v21) rfl rfl (by kernel_rfl) (by kernel_rfl) (by kernel_rfl) (fun c a w h => h) (by rfl) ?h21 (by assumption) ?r21
              case h21 => intro w hSw; obtain ⟨h0, h1, h2, h3, h4, h5⟩ := hSw; go_simp; rfl
              simp only [Act.put, List.setIfInBounds_toArray, List.set_cons_zero, List.set_cons_succ]
              refine wpAnyH_ready (rs := [14]) (by kernel_rfl) (by simp) ?_
              refine AllReadyH.cons rfl (fun K hK => ?_) AllReadyH.nil
              go_simp
              refine (refSub_c X14.out.is X11.out.is (Nat.le_trans (X14.out.is.len SZ.out) (by omega)) (Nat.le_trans (X11.out.is.len SPw.out) (by omega))).mono ?_
              rintro e w67 ⟨t40, A40, n40, c40, rfl, i40, hb⟩
              replace P := Lib.hid (P.out.trans (hb.mono P.out.size))
              replace X11 := Lib.hid (X11.out.next hb)
              replace X13 := Lib.hid (X13.out.next hb)
              replace X14 := Lib.hid (X14.out.next hb)
              have J0 := Lib.hid (i40)
              clear hb hHeld i40
              refine hK.out _ _ ⟨X14.out.c0, X14.out.c1, X11.out.c0, X11.out.c1, X13.out.c0, X13.out.c1⟩ (fun hHeld => ?_)
              clear hK K
              refine wpAnyH_ready (rs := [15]) (by kernel_rfl) (by simp) ?_
              refine AllReadyH.cons rfl (fun K hK => ?_) AllReadyH.nil
              go_simp
              refine (Divides_yes X13.out.is J0.out (Nat.le_trans (X13.out.is.len S4.out) (by omega)) (Nat.le_trans (J0.out.len (SZ.out.sub (SPw.out.le (by omega)))) (by omega)) HDV.out).mono ?_
              rintro e w68 ⟨rfl, hb⟩
              replace P := Lib.hid (P.out.trans (hb.mono P.out.size))
              replace X11 := Lib.hid (X11.out.next hb)
              replace X13 := Lib.hid (X13.out.next hb)
              replace X14 := Lib.hid (X14.out.next hb)
              replace J0 := Lib.hid (J0.out.below hb)
              clear hb hHeld
              refine hK.out _ _ ⟨X14.out.c0, X14.out.c1, X11.out.c0, X11.out.c1, X13.out.c0, X13.out.c1⟩ (fun hHeld => ?_)
              clear hK K
              refine take_on (i := 16) (d := (some 85)) (v := ?v22) rfl rfl (by kernel_rfl) (by kernel_rfl) (by kernel_rfl) (fun c a w h => h) (by rfl) ?h22 (by assumption) ?r22
              case h22 => intro w hSw; obtain ⟨h0, h1, h2, h3, h4, h5⟩ := hSw; go_simp; rfl
              simp only [Act.put, List.setIfInBounds_toArray, List.set_cons_zero, List.set_cons_succ]
              refine take_on (i := 17) (d := (some 86)) (v := ?v23) rfl rfl (by kernel_rfl) (by kernel_rfl) (by kernel_rfl) (fun c a w h => h) (by rfl) ?h23 (by assumption) ?r23
              case h23 => intro w hSw; obtain ⟨h0, h1, h2, h3, h4, h5⟩ := hSw; go_simp; rfl
              simp only [Act.put, List.setIfInBounds_toArray, List.set_cons_zero, List.set_cons_succ]
              refine wpAnyH_ready (rs := [18]) (by kernel_rfl) (by simp) ?_
              refine AllReadyH.cons rfl (fun K hK => ?_) AllReadyH.nil
              go_simp
              refine (awake8_c _).mono ?_
              rintro e w69 ⟨rfl, hb⟩
              replace P := Lib.hid (P.out.trans (hb.mono P.out.size))
              replace X11 := Lib.hid (X11.out.next hb)
              replace X13 := Lib.hid (X13.out.next hb)
              replace X14 := Lib.hid (X14.out.next hb)
              replace J0 := Lib.hid (J0.out.below hb)
              clear hb hHeld
              refine hK.out _ _ ⟨X14.out.c0, X14.out.c1, X11.out.c0, X11.out.c1, X13.out.c0, X13.out.c1⟩ (fun hHeld => ?_)
              clear hK K
              refine take_on (i := 19) (d := (some 88)) (v := ?v24) rfl rfl (by kernel_rfl) (by kernel_rfl) (by kernel_rfl) (fun c a w h => h) (by rfl) ?h24 (by assumption) ?r24
              case h24 => intro w hSw; obtain ⟨h0, h1, h2, h3, h4, h5⟩ := hSw; go_simp; rfl
              simp only [Act.put, List.setIfInBounds_toArray, List.set_cons_zero, List.set_cons_succ]
              refine take_on (i := 20) (d := (some 6)) (v := ?v25) rfl rfl (by kernel_rfl) (by kernel_rfl) (by kernel_rfl) (fun c a w h => h) (by rfl) ?h25 (by assumption) ?r25
              case h25 => intro w hSw; obtain ⟨h0, h1, h2, h3, h4, h5⟩ := hSw; go_simp; rfl
              simp only [Act.put, List.setIfInBounds_toArray, List.set_cons_zero, List.set_cons_succ]
              clear hHeld
              refine wpAnyH_done (by kernel_rfl) ?_ _
              go_wp2
              go_ret
              exact ⟨rfl, P.out⟩
theorem LucasPower_i (s : Bool) (A : Option Addr) (n c : Nat) (xs : List Nat) (s' : Bool) (A' : Option Addr) (n' c' : Nat) (ys : List Nat) (a1 : Int) (w1 : (Lit.int .u8 a1).wf = true) (w : World) (h : Rd w A n xs) (hn : n ≤ c) (hc : c ≤ 9223372036854775807) (h' : Rd w A' n' ys) (hn' : n' ≤ c') (hc' : c' ≤ 9223372036854775807) :
    Calls Try.prog 11 #[.agg #[.bool s, .slice A n c], .agg #[.bool s', .slice A' n' c'], .int .u8 a1] w (IsB true w) := by
  obtain ⟨x, rfl, hx⟩ := nat_of_u8 w1
  exact LucasPower_c s A n c xs s' A' n' c' ys x (x % 61) (by omega) hx (by omega) w h hn hc h' hn' hc'
end Go.Proofs.Ytbblckaplddggaa

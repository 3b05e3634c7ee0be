import Derived.Test.YtbblckaplddggaaOv
set_option maxRecDepth 100000
namespace Go.Proofs.Ytbblckaplddggaa
open Go.RowKit Go.Shelf
theorem number_num {w : World} {z k : Int} {t t' : Bool} {A A' : Option Addr} {n c n' c' : Nat} (h : NumIs w z t A n c k) (h' : Is w z t' A' n' c') :
    Calls Try.prog 19 #[.agg #[.bool t, .slice A n c], .int .i64 k, .agg #[.bool t', .slice A' n' c'], .int .i64 k] w (IsB true w) := by
  by_cases hl : (words z.natAbs).length ≤ 4096
  · obtain ⟨rfl, h1, h2, h3, h4, h5⟩ := h.1 hl
    exact number_ok ⟨h1, h2, h3, h4, h5⟩ h' (words_len_le.1 hl)
  · obtain ⟨rfl, rfl, rfl, rfl, rfl⟩ := h.2 hl
    exact number_err 4 (by omega) _ _ _ _ w
theorem NumIs.kfit {w : World} {z k : Int} {t : Bool} {A : Option Addr} {n c : Nat} (h : NumIs w z t A n c k) {m : Nat} (hm : m = (words z.natAbs).length) : (m ≤ 4096 → k = 0) ∧ (¬ m ≤ 4096 → k = 4) :=
  ⟨fun hl => (h.1 (hm ▸ hl)).1, fun hl => (h.2 (hm ▸ hl)).1⟩
theorem NumIs.big {w : World} {z k : Int} {t : Bool} {A : Option Addr} {n c : Nat} (h : NumIs w z t A n c k) (hz : ¬ Sz z 8192) : k = 4 ∧ t = false ∧ A = none ∧ n = 0 ∧ c = 0 :=
  h.2 fun hl => hz (words_len_le.1 (Nat.le_trans hl (by omega)))
set_option maxHeartbeats 8000000 in
theorem Tells_main (s : Bool) (A : Option Addr) (n c : Nat) (xs : List Nat) (K : Int) (w : World) (h : Rd w A n xs) (hn : n ≤ c) (hc : c ≤ 9223372036854775807) (N : Nat) (hK : K = (N : Int)) (hask : n ≤ 100 ∧ N ≤ 2000) (h0 : codeV s xs true = 0) :
    Calls Try.prog 3 #[.agg #[.bool s, .slice A n c], .int .i64 K] w (IsB true w) := by
  have P := Lib.hid (below_alloc w (.cells #[.bool s, .slice A n c] 24))
  have B := Lib.hid (Rb.new (s := s) (c := c) h)
  have HN := Lib.hid (And.intro hn hc)
  clear h hn hc
  have HASK := Lib.hid hask
  have HZ := Lib.hid (codeV_zero h0)
  have HV := Lib.hid h0
  have HKN := Lib.hid hK
  have t1 : K ≤ 2000 := by omega
  have t2 : 0 ≤ K := by omega
  have HI := Lib.hid (fun (W : World) (r : Rd W A n xs) => raw_iv (s := s) (c := c) r HZ.out.1 HN.out.1 HN.out.2)
  have HA := Lib.hid HZ.out.2.2
  obtain ⟨a, ha⟩ : ∃ a, a = sgn s (val xs) := ⟨_, rfl⟩
  rw [← ha] at HI HA
  have HPs := Lib.hid (fun (W : World) (i : Iv W a s A n c) => Psi_ok i HA.out N (by omega))
  have HCh := Lib.hid (fun (W : World) (i : Iv W a s A n c) => Chi_ok i HA.out N (by omega))
  have HPa := Lib.hid (fun (W : World) (i : Iv W a s A n c) => refPair_c i.is HA.out i.sz N (by omega))
  rw [← hK] at HPs HCh HPa
  clear hask h0 hK ha HZ
  go_enter Try.func3, Try.ntmps3
  go_upto_region 1 with (fail)
  generalize w.alloc (.cells #[.bool s, .slice A n c] 24) = W0 at P B ⊢
  have a0 := B.out.c0
  have a1 := B.out.c1
  go_wp2_with fail
  have hb := below_alloc W0 (.cells #[.bool s, .slice A n c] 24)
  refine (short1_c 100 _ A n c _ (by go_simp)).mono ?_
  rintro e w1 ⟨rfl, hb1⟩
  replace P := Lib.hid ((P.out.trans (hb.mono P.out.size)).trans (hb1.mono (Nat.le_trans P.out.size hb.size)))
  replace B := Lib.hid ((B.out.next hb).next hb1)
  clear hb hb1 a0 a1
  rw [decide_eq_true HASK.out.1]
  have a0 := B.out.c0
  have a1 := B.out.c1
  go_wp2_with fail
  refine (HPs.out _ (HI.out _ B.out.rd)).mono ?_
  rintro e w2 ⟨ty, Ay, ny, cy, ky, rfl, hy, hb⟩
  replace P := Lib.hid (P.out.trans (hb.mono P.out.size))
  replace B := Lib.hid (B.out.next hb)
  have HY := Lib.hid (hy.below (below_alloc w2 (.cells #[.bool ty, .slice Ay ny cy] 24)))
  have Y := Lib.hid (Vb.new w2 w2 ty Ay ny cy (Nat.le_refl _))
  replace P := Lib.hid (P.out.alloc P.out.size (.cells #[.bool ty, .slice Ay ny cy] 24))
  replace B := Lib.hid (B.out.alloc (.cells #[.bool ty, .slice Ay ny cy] 24))
  clear hb hy a0 a1 HPs
  go_upto_region 4 with (fail)
  generalize w2.alloc (.cells #[.bool ty, .slice Ay ny cy] 24) = W2 at P B Y HY ⊢
  have a0 := B.out.c0
  have a1 := B.out.c1
  go_wp2_with fail
  refine (HCh.out _ (HI.out _ B.out.rd)).mono ?_
  rintro e w3 ⟨tx, Ax, nx, cx, kx, rfl, hx, hb⟩
  replace P := Lib.hid (P.out.trans (hb.mono P.out.size))
  replace B := Lib.hid (B.out.next hb)
  replace Y := Lib.hid (Y.out.below hb)
  replace HY := Lib.hid (HY.out.below hb)
  have HX := Lib.hid (hx.below (below_alloc w3 (.cells #[.bool tx, .slice Ax nx cx] 24)))
  have X := Lib.hid (Vb.new w3 w3 tx Ax nx cx (Nat.le_refl _))
  replace P := Lib.hid (P.out.alloc P.out.size (.cells #[.bool tx, .slice Ax nx cx] 24))
  replace B := Lib.hid (B.out.alloc (.cells #[.bool tx, .slice Ax nx cx] 24))
  replace Y := Lib.hid (Y.out.below (below_alloc _ (.cells #[.bool tx, .slice Ax nx cx] 24)))
  replace HY := Lib.hid (HY.out.below (below_alloc _ (.cells #[.bool tx, .slice Ax nx cx] 24)))
  clear hb hx a0 a1 HCh
  go_upto_region 5 with (fail)
  generalize w3.alloc (.cells #[.bool tx, .slice Ax nx cx] 24) = W3 at P B Y HY X HX ⊢
  have a0 := B.out.c0
  have a1 := B.out.c1
  go_wp2_with fail
  refine (code_c B.out.rd HN.out.1 HN.out.2).mono ?_
  rw [HV.out]
  rintro e w4 ⟨rfl, hb⟩
  replace P := Lib.hid (P.out.trans (hb.mono P.out.size))
  replace B := Lib.hid (B.out.next hb)
  replace Y := Lib.hid (Y.out.below hb)
  replace HY := Lib.hid (HY.out.below hb)
  replace X := Lib.hid (X.out.below hb)
  replace HX := Lib.hid (HX.out.below hb)
  clear hb a0 a1
  have a0 := B.out.c0
  have a1 := B.out.c1
  go_wp2_with fail
  refine (HPa.out _ (HI.out _ B.out.rd)).mono ?_
  rintro e w5 ⟨tc, Ac, nc, cc, tp, Ap, np, cp, b, rfl, hb, hres⟩
  replace P := Lib.hid (P.out.trans (hb.mono P.out.size))
  replace B := Lib.hid (B.out.next hb)
  replace Y := Lib.hid (Y.out.below hb)
  replace HY := Lib.hid (HY.out.below hb)
  replace X := Lib.hid (X.out.below hb)
  replace HX := Lib.hid (HX.out.below hb)
  have HR := Lib.hid hres
  have C := Lib.hid ((Vb.new w5 w5 tc Ac nc cc (Nat.le_refl _)).below (below_alloc _ (.cells #[.bool tp, .slice Ap np cp] 24)))
  have D := Lib.hid (Vb.new1 w5 w5 (.cells #[.bool tc, .slice Ac nc cc] 24) tp Ap np cp (Nat.le_refl _))
  replace P := Lib.hid (P.out.alloc P.out.size (.cells #[.bool tc, .slice Ac nc cc] 24))
  replace B := Lib.hid (B.out.alloc (.cells #[.bool tc, .slice Ac nc cc] 24))
  replace Y := Lib.hid (Y.out.below (below_alloc _ (.cells #[.bool tc, .slice Ac nc cc] 24)))
  replace HY := Lib.hid (HY.out.below (below_alloc _ (.cells #[.bool tc, .slice Ac nc cc] 24)))
  replace X := Lib.hid (X.out.below (below_alloc _ (.cells #[.bool tc, .slice Ac nc cc] 24)))
  replace HX := Lib.hid (HX.out.below (below_alloc _ (.cells #[.bool tc, .slice Ac nc cc] 24)))
  replace P := Lib.hid (P.out.alloc P.out.size (.cells #[.bool tp, .slice Ap np cp] 24))
  replace B := Lib.hid (B.out.alloc (.cells #[.bool tp, .slice Ap np cp] 24))
  replace Y := Lib.hid (Y.out.below (below_alloc _ (.cells #[.bool tp, .slice Ap np cp] 24)))
  replace HY := Lib.hid (HY.out.below (below_alloc _ (.cells #[.bool tp, .slice Ap np cp] 24)))
  replace X := Lib.hid (X.out.below (below_alloc _ (.cells #[.bool tp, .slice Ap np cp] 24)))
  replace HX := Lib.hid (HX.out.below (below_alloc _ (.cells #[.bool tp, .slice Ap np cp] 24)))
  have HB5 := Lib.hid ((below_alloc w5 (.cells #[.bool tc, .slice Ac nc cc] 24)).alloc (by simp) (.cells #[.bool tp, .slice Ap np cp] 24))
  clear hb hres a0 a1 HPa
  go_upto_region 13 with (fail)
  generalize (w5.alloc (.cells #[.bool tc, .slice Ac nc cc] 24)).alloc (.cells #[.bool tp, .slice Ap np cp] 24) = W5 at P B Y HY X HX C D HB5 ⊢
  rcases HR.out with ⟨rfl, ic, ip, sp⟩ | ⟨rfl, ic, ip, sp⟩
  · have IC := Lib.hid (ic.below HB5.out)
    have IP := Lib.hid (ip.below HB5.out)
    have HKY := Lib.hid (HY.out.kfit IP.out.2.1)
    have HKX := Lib.hid (HX.out.kfit IC.out.2.1)
    clear ic ip sp HR HB5
    by_cases hp : np ≤ 4096
    · have e1 : ky = 0 := HKY.out.1 hp
      have FP := Lib.hid (decide_eq_true hp)
      subst e1
      clear hp HKY
      by_cases hc : nc ≤ 4096
      · have e2 : kx = 0 := HKX.out.1 hc
        have FC := Lib.hid (decide_eq_true hc)
        subst e2
        clear hc HKX
        have d0 := D.out.c0
        have d1 := D.out.c1
        go_wp2_with fail
        refine (Fits_c tp Ap np cp _).mono ?_
        rw [FP.out]
        rintro e u1 ⟨rfl, hb⟩
        replace P := Lib.hid (P.out.trans (hb.mono P.out.size))
        replace B := Lib.hid (B.out.next hb)
        replace Y := Lib.hid (Y.out.below hb)
        replace HY := Lib.hid (HY.out.below hb)
        replace X := Lib.hid (X.out.below hb)
        replace HX := Lib.hid (HX.out.below hb)
        replace C := Lib.hid (C.out.below hb)
        replace D := Lib.hid (D.out.below hb)
        replace IC := Lib.hid (IC.out.below hb)
        replace IP := Lib.hid (IP.out.below hb)
        clear hb
        clear d0 d1
        have c0 := C.out.c0
        have c1 := C.out.c1
        go_wp2_with fail
        refine (Fits_c tc Ac nc cc _).mono ?_
        rw [FC.out]
        rintro e u1 ⟨rfl, hb⟩
        replace P := Lib.hid (P.out.trans (hb.mono P.out.size))
        replace B := Lib.hid (B.out.next hb)
        replace Y := Lib.hid (Y.out.below hb)
        replace HY := Lib.hid (HY.out.below hb)
        replace X := Lib.hid (X.out.below hb)
        replace HX := Lib.hid (HX.out.below hb)
        replace C := Lib.hid (C.out.below hb)
        replace D := Lib.hid (D.out.below hb)
        replace IC := Lib.hid (IC.out.below hb)
        replace IP := Lib.hid (IP.out.below hb)
        clear hb
        clear c0 c1
        have y0 := Y.out.c0
        have y1 := Y.out.c1
        have d0 := D.out.c0
        have d1 := D.out.c1
        go_wp2_with fail
        refine (number_num HY.out IP.out).mono ?_
        rintro e u2 ⟨rfl, hb⟩
        replace P := Lib.hid (P.out.trans (hb.mono P.out.size))
        replace B := Lib.hid (B.out.next hb)
        replace Y := Lib.hid (Y.out.below hb)
        replace HY := Lib.hid (HY.out.below hb)
        replace X := Lib.hid (X.out.below hb)
        replace HX := Lib.hid (HX.out.below hb)
        replace C := Lib.hid (C.out.below hb)
        replace D := Lib.hid (D.out.below hb)
        replace IC := Lib.hid (IC.out.below hb)
        replace IP := Lib.hid (IP.out.below hb)
        clear hb
        clear y0 y1 d0 d1
        have x0 := X.out.c0
        have x1 := X.out.c1
        have c0 := C.out.c0
        have c1 := C.out.c1
        go_wp2_with fail
        refine (number_num HX.out IC.out).mono ?_
        rintro e u3 ⟨rfl, hb⟩
        replace P := Lib.hid (P.out.trans (hb.mono P.out.size))
        replace B := Lib.hid (B.out.next hb)
        replace Y := Lib.hid (Y.out.below hb)
        replace HY := Lib.hid (HY.out.below hb)
        replace X := Lib.hid (X.out.below hb)
        replace HX := Lib.hid (HX.out.below hb)
        replace C := Lib.hid (C.out.below hb)
        replace D := Lib.hid (D.out.below hb)
        replace IC := Lib.hid (IC.out.below hb)
        replace IP := Lib.hid (IP.out.below hb)
        clear hb
        clear x0 x1 c0 c1
        go_wp2_with fail
        refine (awake8_c _).mono ?_
        rintro e u9 ⟨rfl, b9⟩
        have P9 := Lib.hid (P.out.trans (b9.mono P.out.size))
        clear b9
        go_wp2
        go_ret
        exact ⟨rfl, P9.out⟩
      · have e2 : kx = 4 := HKX.out.2 hc
        have FC := Lib.hid (decide_eq_false hc)
        subst e2
        clear hc HKX
        have d0 := D.out.c0
        have d1 := D.out.c1
        go_wp2_with fail
        refine (Fits_c tp Ap np cp _).mono ?_
        rw [FP.out]
        rintro e u1 ⟨rfl, hb⟩
        replace P := Lib.hid (P.out.trans (hb.mono P.out.size))
        replace B := Lib.hid (B.out.next hb)
        replace Y := Lib.hid (Y.out.below hb)
        replace HY := Lib.hid (HY.out.below hb)
        replace X := Lib.hid (X.out.below hb)
        replace HX := Lib.hid (HX.out.below hb)
        replace C := Lib.hid (C.out.below hb)
        replace D := Lib.hid (D.out.below hb)
        replace IC := Lib.hid (IC.out.below hb)
        replace IP := Lib.hid (IP.out.below hb)
        clear hb
        clear d0 d1
        have c0 := C.out.c0
        have c1 := C.out.c1
        go_wp2_with fail
        refine (Fits_c tc Ac nc cc _).mono ?_
        rw [FC.out]
        rintro e u1 ⟨rfl, hb⟩
        replace P := Lib.hid (P.out.trans (hb.mono P.out.size))
        replace B := Lib.hid (B.out.next hb)
        replace Y := Lib.hid (Y.out.below hb)
        replace HY := Lib.hid (HY.out.below hb)
        replace X := Lib.hid (X.out.below hb)
        replace HX := Lib.hid (HX.out.below hb)
        replace C := Lib.hid (C.out.below hb)
        replace D := Lib.hid (D.out.below hb)
        replace IC := Lib.hid (IC.out.below hb)
        replace IP := Lib.hid (IP.out.below hb)
        clear hb
        clear c0 c1
        have y0 := Y.out.c0
        have y1 := Y.out.c1
        have d0 := D.out.c0
        have d1 := D.out.c1
        go_wp2_with fail
        refine (number_num HY.out IP.out).mono ?_
        rintro e u2 ⟨rfl, hb⟩
        replace P := Lib.hid (P.out.trans (hb.mono P.out.size))
        replace B := Lib.hid (B.out.next hb)
        replace Y := Lib.hid (Y.out.below hb)
        replace HY := Lib.hid (HY.out.below hb)
        replace X := Lib.hid (X.out.below hb)
        replace HX := Lib.hid (HX.out.below hb)
        replace C := Lib.hid (C.out.below hb)
        replace D := Lib.hid (D.out.below hb)
        replace IC := Lib.hid (IC.out.below hb)
        replace IP := Lib.hid (IP.out.below hb)
        clear hb
        clear y0 y1 d0 d1
        have x0 := X.out.c0
        have x1 := X.out.c1
        have c0 := C.out.c0
        have c1 := C.out.c1
        go_wp2_with fail
        refine (number_num HX.out IC.out).mono ?_
        rintro e u3 ⟨rfl, hb⟩
        replace P := Lib.hid (P.out.trans (hb.mono P.out.size))
        replace B := Lib.hid (B.out.next hb)
        replace Y := Lib.hid (Y.out.below hb)
        replace HY := Lib.hid (HY.out.below hb)
        replace X := Lib.hid (X.out.below hb)
        replace HX := Lib.hid (HX.out.below hb)
        replace C := Lib.hid (C.out.below hb)
        replace D := Lib.hid (D.out.below hb)
        replace IC := Lib.hid (IC.out.below hb)
        replace IP := Lib.hid (IP.out.below hb)
        clear hb
        clear x0 x1 c0 c1
        go_wp2_with fail
        refine (awake8_c _).mono ?_
        rintro e u9 ⟨rfl, b9⟩
        have P9 := Lib.hid (P.out.trans (b9.mono P.out.size))
        clear b9
        go_wp2
        go_ret
        exact ⟨rfl, P9.out⟩
    · have e1 : ky = 4 := HKY.out.2 hp
      have FP := Lib.hid (decide_eq_false hp)
      subst e1
      clear hp HKY
      by_cases hc : nc ≤ 4096
      · have e2 : kx = 0 := HKX.out.1 hc
        have FC := Lib.hid (decide_eq_true hc)
        subst e2
        clear hc HKX
        have d0 := D.out.c0
        have d1 := D.out.c1
        go_wp2_with fail
        refine (Fits_c tp Ap np cp _).mono ?_
        rw [FP.out]
        rintro e u1 ⟨rfl, hb⟩
        replace P := Lib.hid (P.out.trans (hb.mono P.out.size))
        replace B := Lib.hid (B.out.next hb)
        replace Y := Lib.hid (Y.out.below hb)
        replace HY := Lib.hid (HY.out.below hb)
        replace X := Lib.hid (X.out.below hb)
        replace HX := Lib.hid (HX.out.below hb)
        replace C := Lib.hid (C.out.below hb)
        replace D := Lib.hid (D.out.below hb)
        replace IC := Lib.hid (IC.out.below hb)
        replace IP := Lib.hid (IP.out.below hb)
        clear hb
        clear d0 d1
        have c0 := C.out.c0
        have c1 := C.out.c1
        go_wp2_with fail
        refine (Fits_c tc Ac nc cc _).mono ?_
        rw [FC.out]
        rintro e u1 ⟨rfl, hb⟩
        replace P := Lib.hid (P.out.trans (hb.mono P.out.size))
        replace B := Lib.hid (B.out.next hb)
        replace Y := Lib.hid (Y.out.below hb)
        replace HY := Lib.hid (HY.out.below hb)
        replace X := Lib.hid (X.out.below hb)
        replace HX := Lib.hid (HX.out.below hb)
        replace C := Lib.hid (C.out.below hb)
        replace D := Lib.hid (D.out.below hb)
        replace IC := Lib.hid (IC.out.below hb)
        replace IP := Lib.hid (IP.out.below hb)
        clear hb
        clear c0 c1
        have y0 := Y.out.c0
        have y1 := Y.out.c1
        have d0 := D.out.c0
        have d1 := D.out.c1
        go_wp2_with fail
        refine (number_num HY.out IP.out).mono ?_
        rintro e u2 ⟨rfl, hb⟩
        replace P := Lib.hid (P.out.trans (hb.mono P.out.size))
        replace B := Lib.hid (B.out.next hb)
        replace Y := Lib.hid (Y.out.below hb)
        replace HY := Lib.hid (HY.out.below hb)
        replace X := Lib.hid (X.out.below hb)
        replace HX := Lib.hid (HX.out.below hb)
        replace C := Lib.hid (C.out.below hb)
        replace D := Lib.hid (D.out.below hb)
        replace IC := Lib.hid (IC.out.below hb)
        replace IP := Lib.hid (IP.out.below hb)
        clear hb
        clear y0 y1 d0 d1
        have x0 := X.out.c0
        have x1 := X.out.c1
        have c0 := C.out.c0
        have c1 := C.out.c1
        go_wp2_with fail
        refine (number_num HX.out IC.out).mono ?_
        rintro e u3 ⟨rfl, hb⟩
        replace P := Lib.hid (P.out.trans (hb.mono P.out.size))
        replace B := Lib.hid (B.out.next hb)
        replace Y := Lib.hid (Y.out.below hb)
        replace HY := Lib.hid (HY.out.below hb)
        replace X := Lib.hid (X.out.below hb)
        replace HX := Lib.hid (HX.out.below hb)
        replace C := Lib.hid (C.out.below hb)
        replace D := Lib.hid (D.out.below hb)
        replace IC := Lib.hid (IC.out.below hb)
        replace IP := Lib.hid (IP.out.below hb)
        clear hb
        clear x0 x1 c0 c1
        go_wp2_with fail
        refine (awake8_c _).mono ?_
        rintro e u9 ⟨rfl, b9⟩
        have P9 := Lib.hid (P.out.trans (b9.mono P.out.size))
        clear b9
        go_wp2
        go_ret
        exact ⟨rfl, P9.out⟩
      · have e2 : kx = 4 := HKX.out.2 hc
        have FC := Lib.hid (decide_eq_false hc)
        subst e2
        clear hc HKX
        have d0 := D.out.c0
        have d1 := D.out.c1
        go_wp2_with fail
        refine (Fits_c tp Ap np cp _).mono ?_
        rw [FP.out]
        rintro e u1 ⟨rfl, hb⟩
        replace P := Lib.hid (P.out.trans (hb.mono P.out.size))
        replace B := Lib.hid (B.out.next hb)
        replace Y := Lib.hid (Y.out.below hb)
        replace HY := Lib.hid (HY.out.below hb)
        replace X := Lib.hid (X.out.below hb)
        replace HX := Lib.hid (HX.out.below hb)
        replace C := Lib.hid (C.out.below hb)
        replace D := Lib.hid (D.out.below hb)
        replace IC := Lib.hid (IC.out.below hb)
        replace IP := Lib.hid (IP.out.below hb)
        clear hb
        clear d0 d1
        have c0 := C.out.c0
        have c1 := C.out.c1
        go_wp2_with fail
        refine (Fits_c tc Ac nc cc _).mono ?_
        rw [FC.out]
        rintro e u1 ⟨rfl, hb⟩
        replace P := Lib.hid (P.out.trans (hb.mono P.out.size))
        replace B := Lib.hid (B.out.next hb)
        replace Y := Lib.hid (Y.out.below hb)
        replace HY := Lib.hid (HY.out.below hb)
        replace X := Lib.hid (X.out.below hb)
        replace HX := Lib.hid (HX.out.below hb)
        replace C := Lib.hid (C.out.below hb)
        replace D := Lib.hid (D.out.below hb)
        replace IC := Lib.hid (IC.out.below hb)
        replace IP := Lib.hid (IP.out.below hb)
        clear hb
        clear c0 c1
        have y0 := Y.out.c0
        have y1 := Y.out.c1
        have d0 := D.out.c0
        have d1 := D.out.c1
        go_wp2_with fail
        refine (number_num HY.out IP.out).mono ?_
        rintro e u2 ⟨rfl, hb⟩
        replace P := Lib.hid (P.out.trans (hb.mono P.out.size))
        replace B := Lib.hid (B.out.next hb)
        replace Y := Lib.hid (Y.out.below hb)
        replace HY := Lib.hid (HY.out.below hb)
        replace X := Lib.hid (X.out.below hb)
        replace HX := Lib.hid (HX.out.below hb)
        replace C := Lib.hid (C.out.below hb)
        replace D := Lib.hid (D.out.below hb)
        replace IC := Lib.hid (IC.out.below hb)
        replace IP := Lib.hid (IP.out.below hb)
        clear hb
        clear y0 y1 d0 d1
        have x0 := X.out.c0
        have x1 := X.out.c1
        have c0 := C.out.c0
        have c1 := C.out.c1
        go_wp2_with fail
        refine (number_num HX.out IC.out).mono ?_
        rintro e u3 ⟨rfl, hb⟩
        replace P := Lib.hid (P.out.trans (hb.mono P.out.size))
        replace B := Lib.hid (B.out.next hb)
        replace Y := Lib.hid (Y.out.below hb)
        replace HY := Lib.hid (HY.out.below hb)
        replace X := Lib.hid (X.out.below hb)
        replace HX := Lib.hid (HX.out.below hb)
        replace C := Lib.hid (C.out.below hb)
        replace D := Lib.hid (D.out.below hb)
        replace IC := Lib.hid (IC.out.below hb)
        replace IP := Lib.hid (IP.out.below hb)
        clear hb
        clear x0 x1 c0 c1
        go_wp2_with fail
        refine (awake8_c _).mono ?_
        rintro e u9 ⟨rfl, b9⟩
        have P9 := Lib.hid (P.out.trans (b9.mono P.out.size))
        clear b9
        go_wp2
        go_ret
        exact ⟨rfl, P9.out⟩
  · have HSP := Lib.hid sp
    obtain ⟨e1, e2, e3, e4, e5⟩ := HY.out.big HSP.out
    obtain ⟨f1, f2, f3, f4, f5⟩ := HX.out.big (fun h => HSP.out (sz_of_le' (psi_nn HA.out N) (by have := psi_lt_chi HA.out N; omega) h))
    subst e1 e2 e3 e4 e5 f1 f2 f3 f4 f5
    clear ic ip sp HR HB5 HSP HY HX
    have y0 := Y.out.c0
    have y1 := Y.out.c1
    have d0 := D.out.c0
    have d1 := D.out.c1
    go_wp2_with fail
    refine (number_err 4 (by omega) tp Ap np cp _).mono ?_
    rintro e u2 ⟨rfl, hb⟩
    replace P := Lib.hid (P.out.trans (hb.mono P.out.size))
    replace B := Lib.hid (B.out.next hb)
    replace Y := Lib.hid (Y.out.below hb)
    replace X := Lib.hid (X.out.below hb)
    replace C := Lib.hid (C.out.below hb)
    replace D := Lib.hid (D.out.below hb)
    clear hb
    clear y0 y1 d0 d1
    have x0 := X.out.c0
    have x1 := X.out.c1
    have c0 := C.out.c0
    have c1 := C.out.c1
    go_wp2_with fail
    refine (number_err 4 (by omega) tc Ac nc cc _).mono ?_
    rintro e u3 ⟨rfl, hb⟩
    replace P := Lib.hid (P.out.trans (hb.mono P.out.size))
    replace B := Lib.hid (B.out.next hb)
    replace Y := Lib.hid (Y.out.below hb)
    replace X := Lib.hid (X.out.below hb)
    replace C := Lib.hid (C.out.below hb)
    replace D := Lib.hid (D.out.below hb)
    clear hb
    clear x0 x1 c0 c1
    go_wp2_with fail
    refine (awake8_c _).mono ?_
    rintro e u9 ⟨rfl, b9⟩
    have P9 := Lib.hid (P.out.trans (b9.mono P.out.size))
    clear b9
    go_wp2
    go_ret
    exact ⟨rfl, P9.out⟩
theorem i64_range {z : Int} (h : (Lit.int .i64 z).wf = true) : -9223372036854775808 ≤ z ∧ z < 9223372036854775808 := by
  simp only [Lit.wf, Bool.and_eq_true, decide_eq_true_eq] at h
  have h1 : IntKind.min .i64 = -9223372036854775808 := rfl
  have h2 : IntKind.max .i64 = 9223372036854775807 := rfl
  omega

theorem LucasTells_c (s : Bool) (A : Option Addr) (n c : Nat) (xs : List Nat) (K : Int) (hw : (Lit.int .i64 K).wf = true) (w : World) (h : Rd w A n xs) (hn : n ≤ c) (hc : c ≤ 9223372036854775807) :
    Calls Try.prog 3 #[.agg #[.bool s, .slice A n c], .int .i64 K] w (IsB true w) := by
  obtain ⟨k0, k1⟩ := i64_range hw
  by_cases h1 : n ≤ 100
  · by_cases h2 : 2000 < K ∧ K ≤ 140000
    · exact Tells_no s A n c xs K w h hn hc (.inr ⟨h1, h2⟩)
    · by_cases h3 : codeV s xs true = 0
      · have hz := codeV_zero h3
        by_cases h4 : K < 0
        · exact Tells_errL s A n c xs K w h hn hc ⟨h1, by omega⟩ 2 (.inr (.inl ⟨h3, h4, rfl⟩)) (fun W r => Psi_err r hn hc K 2 (.inr ⟨h3, h4, rfl⟩)) (fun W r => Chi_err r hn hc K 2 (.inr ⟨h3, h4, rfl⟩))
        · by_cases h5 : K ≤ 2000
          · exact Tells_main s A n c xs K w h hn hc K.toNat (by omega) ⟨h1, by omega⟩ h3
          · have hbig : ¬ Sz (psi (sgn s (val xs)) K.toNat) 4096 := fun hs => by
              have e := psi_dn hz.2.2 (b := 1) (by omega) (K.toNat - 1)
              rw [show K.toNat - 1 + 1 = K.toNat by omega] at e
              have h6 : (psi (sgn s (val xs)) K.toNat).natAbs < pw 4096 := hs
              rw [pw_two] at h6
              have h7 := (Nat.pow_lt_pow_iff_right (by omega : 1 < 2)).1 (Nat.lt_of_le_of_lt e h6)
              omega
            have hK : K = ((K.toNat : Nat) : Int) := by omega
            refine Tells_errG s A n c xs K w h hn hc ⟨h1, by omega⟩ 4 (.inr (.inr ⟨h3, by omega, rfl⟩)) (fun W r => ?_) (fun W r => ?_)
            · rw [hK]
              refine (Psi_ok (raw_iv r hz.1 hn hc) hz.2.2 K.toNat (by omega)).mono ?_
              rintro e w' ⟨t, B, m, d, k, rfl, hy, hb⟩
              obtain ⟨rfl, rfl, rfl, rfl, rfl⟩ := hy.2 (fun hl => hbig (words_len_le.1 hl))
              exact ⟨rfl, hb⟩
            · rw [hK]
              refine (Chi_ok (raw_iv r hz.1 hn hc) hz.2.2 K.toNat (by omega)).mono ?_
              rintro e w' ⟨t, B, m, d, k, rfl, hy, hb⟩
              obtain ⟨rfl, rfl, rfl, rfl, rfl⟩ := hy.2 (fun hl => hbig (sz_of_le' (psi_nn hz.2.2 _) (by have := psi_lt_chi hz.2.2 K.toNat; omega) (words_len_le.1 hl)))
              exact ⟨rfl, hb⟩
      · have h4 : TellErr s xs K (codeV s xs true) := .inl ⟨rfl, h3⟩
        by_cases h5 : K ≤ 2000
        · exact Tells_errL s A n c xs K w h hn hc ⟨h1, h5⟩ _ h4 (fun W r => Psi_err r hn hc K _ (.inl ⟨rfl, h3⟩)) (fun W r => Chi_err r hn hc K _ (.inl ⟨rfl, h3⟩))
        · exact Tells_errG s A n c xs K w h hn hc ⟨h1, by omega⟩ _ h4 (fun W r => Psi_err r hn hc K _ (.inl ⟨rfl, h3⟩)) (fun W r => Chi_err r hn hc K _ (.inl ⟨rfl, h3⟩))
  · exact Tells_no s A n c xs K w h hn hc (.inl h1)
end Go.Proofs.Ytbblckaplddggaa

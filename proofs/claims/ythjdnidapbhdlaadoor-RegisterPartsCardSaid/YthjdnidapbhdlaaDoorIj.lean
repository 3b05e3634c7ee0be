/- the law RegisterParts -/
import Derived.Test.YthjdnidapbhdlaaDoorIi
set_option maxRecDepth 100000
namespace Go.Proofs.YthjdnidapbhdlaaDoor
open Go.RowKit
theorem run_k (cs : List Ins) : ∀ (n : Nat) (at_ : Int) (zs : List Int), (runM cs n at_ zs).k ≤ n
  | 0, at_, zs => Nat.le_refl _
  | n + 1, at_, zs => by
    have ih := run_k cs n (advAt (insAt cs at_.toNat) zs) (advZs (insAt cs at_.toNat) zs)
    unfold runM
    dsimp only
    split
    · exact Nat.zero_le _
    · split
      · exact Nat.zero_le _
      · split
        · exact Nat.zero_le _
        · show _ + 1 ≤ n + 1
          omega
set_option maxHeartbeats 8000000 in
theorem RegisterParts_c (R : Int) (A : Option Addr) (n c : Nat) (cs : List Ins) (at_ : Int) (B : Option Addr) (m d : Nat) (zs : List Int) (N K : Nat) (w : World) (h : RdC w A n cs) (h' : RdI w B m zs) (hm : m ≤ 9223372036854775807) (hN : N ≤ 65535) (hK : K ≤ 65535) (hml : Ml w) :
    Calls Tryd.prog 6 #[.agg #[.int .i64 R, .slice A n c], .agg #[.int .i64 at_, .slice B m d], .int .u16 (N : Int), .int .u16 (K : Int)] w (RetB true w) := by
  have E := Lib.hid (LR.start R A n c cs at_ B m d zs none 0 [] w h h' (RdI.nil _ _) hml)
  clear h h' hml
  go_enter Tryd.func6, Tryd.ntmps6
  go_upto_region 1 with (fail)
  generalize (w.alloc (.cells #[.int .i64 R, .slice A n c] 43)).alloc (.cells #[.int .i64 at_, .slice B m d] 46) = W0 at E ⊢
  generalize w.heap.size = g at E ⊢
  obtain ⟨m0, m1, s0, s1⟩ := E.out.cells
  by_cases hw : n ≤ 100 ∧ m ≤ 100 ∧ 0 ≤ 100
  · go_wp2_with fail
    refine (wide_f R A n c at_ B m d none 0 0 W0 hw).mono ?_
    rintro e' w1 ⟨rfl, hb⟩
    replace E := Lib.hid (E.out.next hb)
    clear hb hw m0 m1 s0 s1
    obtain ⟨m0, m1, s0, s1⟩ := E.out.cells
    go_wp2_with fail
    refine (refFits_c R A n c cs at_ B m d zs w1 E.out.ms.rc E.out.ms.ri hm).mono ?_
    rintro e' w2 ⟨rfl, hb⟩
    replace E := Lib.hid (E.out.next hb)
    clear hb m0 m1 s0 s1
    obtain ⟨m0, m1, s0, s1⟩ := E.out.cells
    obtain ⟨v, hv⟩ : ∃ v, v = fitsM R cs at_ zs := ⟨_, rfl⟩
    rw [← hv]
    have HV := Lib.hid hv
    clear hv
    cases v with
    | false =>
      go_wp2_with fail
      refine (awake13_c w2 E.out.ml).mono ?_
      rintro e' w3 ⟨rfl, hb⟩
      replace E := Lib.hid (E.out.next hb)
      clear hb
      go_wp2
      go_ret
      exact ⟨rfl, E.out.ms.below⟩
    | true =>
      by_cases hs : 2000 < N + K
      · have t1 : decide ((2000 : Int) < (N : Int) + (K : Int)) = true := decide_eq_true (by omega)
        go_wp2_with fail
        refine (awake13_c w2 E.out.ml).mono ?_
        rintro e' w3 ⟨rfl, hb⟩
        replace E := Lib.hid (E.out.next hb)
        clear hb
        go_wp2
        go_ret
        exact ⟨rfl, E.out.ms.below⟩
      · have t1 : decide ((2000 : Int) < (N : Int) + (K : Int)) = false := decide_eq_false (by omega)
        have HF := Lib.hid (fits_p HV.out.symm)
        go_upto_region 3 with (fail)
        clear t1
        have HS := Lib.hid (show N + K ≤ 2000 by omega)
        have HR1 := Run_ok R A n c cs at_ B m d zs (N + K) w2 E.out.ms.rc E.out.ms.ri hm HF.out (by omega)
        rw [Int.natCast_add, run_add] at HR1
        have HR := Lib.hid HR1
        clear HR1
        go_wp2_with fail
        refine HR.out.mono ?_
        rintro e' w3 ⟨A1, c1, rfl, hr1, _, _, hb, _⟩
        obtain ⟨r1, hr⟩ : ∃ r, r = andThen cs (runM cs N at_ zs) K := ⟨_, rfl⟩
        rw [← hr] at hr1 ⊢
        have hbb := bel_alloc w3 (.cells #[.int .i64 r1.at_, .slice A1 r1.zs.length c1] 46)
        replace E := Lib.hid ((E.out.next hb).next hbb)
        have X1 := Lib.hid (BxS.new w3 r1.at_ A1 r1.zs.length c1)
        have Y1 := Lib.hid (hr1.below hbb)
        have HR1 := Lib.hid hr
        obtain ⟨f1, hf1⟩ : ∃ f : Int, f = if r1.big = true then 4 else 0 := ⟨_, rfl⟩
        rw [← hf1]
        have HF1 := Lib.hid hf1
        clear hbb hb hr1 hr HR m0 m1 s0 s1 hf1
        go_upto_region 4 with (fail)
        generalize w3.alloc (.cells #[.int .i64 r1.at_, .slice A1 r1.zs.length c1] 46) = W3 at E X1 Y1 ⊢
        generalize w3.heap.size = g1 at X1 ⊢
        obtain ⟨m0, m1, s0, s1⟩ := E.out.cells
        go_wp2_with fail
        refine (Run_ok R A n c cs at_ B m d zs N W3 E.out.ms.rc E.out.ms.ri hm HF.out (by have := HS.out; omega)).mono ?_
        rintro e' w4 ⟨A2, c2, rfl, hr2, _, _, hb, _⟩
        obtain ⟨r2, hr⟩ : ∃ r, r = runM cs N at_ zs := ⟨_, rfl⟩
        rw [← hr] at hr2 HR1 ⊢
        have hbb := bel_alloc w4 (.cells #[.int .i64 r2.at_, .slice A2 r2.zs.length c2] 46)
        replace E := Lib.hid ((E.out.next hb).next hbb)
        replace X1 := Lib.hid ((X1.out.next hb).next hbb)
        replace Y1 := Lib.hid ((Y1.out.below hb).below hbb)
        have X2 := Lib.hid (BxS.new w4 r2.at_ A2 r2.zs.length c2)
        have Y2 := Lib.hid (hr2.below hbb)
        have HR2 := Lib.hid hr
        clear hbb hb hr2 hr m0 m1 s0 s1
        obtain ⟨at2, zs2, k2, b2⟩ := r2
        dsimp only at HR1 HR2 X2 Y2 ⊢
        cases b2 with
        | true =>
          have e1 : r1 = ⟨0, [], 0, true⟩ := by rw [HR1.out]; rfl
          subst e1
          have hf1 : f1 = 4 := HF1.out
          subst hf1
          clear HF1
          go_upto_region 5 with (fail)
          generalize w4.alloc (.cells #[.int .i64 at2, .slice A2 zs2.length c2] 46) = W4 at E X1 Y1 X2 Y2 ⊢
          go_wp2_with fail
          refine (awake13_c W4 E.out.ml).mono ?_
          rintro e' w5 ⟨rfl, hb⟩
          replace E := Lib.hid (E.out.next hb)
          clear hb
          go_wp2
          go_ret
          exact ⟨rfl, E.out.ms.below⟩
        | false =>
          have HF2 := Lib.hid (show FitsP R cs at2 zs2 by
            have h := run_fits N HF.out (by rw [← HR2.out])
            rw [← HR2.out] at h
            exact h)
          go_upto_region 5 with (fail)
          generalize w4.alloc (.cells #[.int .i64 at2, .slice A2 zs2.length c2] 46) = W4 at E X1 Y1 X2 Y2 ⊢
          generalize w4.heap.size = g2 at X2 ⊢
          obtain ⟨m0, m1, s0, s1⟩ := E.out.cells
          have p0 := X2.out.c0
          have p1 := X2.out.c1
          go_wp2_with fail
          refine (Run_ok R A n c cs at2 A2 zs2.length c2 zs2 K W4 E.out.ms.rc Y2.out (by have := HF2.out.len; have := HF2.out.bounds; omega) HF2.out (by have := HS.out; omega)).mono ?_
          rintro e' w5 ⟨A3, c3, rfl, hr3, _, _, hb, _⟩
          obtain ⟨r3, hr⟩ : ∃ r, r = runM cs K at2 zs2 := ⟨_, rfl⟩
          rw [← hr] at hr3 ⊢
          have hbb := bel_alloc w5 (.cells #[.int .i64 r3.at_, .slice A3 r3.zs.length c3] 46)
          replace E := Lib.hid ((E.out.next hb).next hbb)
          replace X1 := Lib.hid ((X1.out.next hb).next hbb)
          replace Y1 := Lib.hid ((Y1.out.below hb).below hbb)
          replace X2 := Lib.hid ((X2.out.next hb).next hbb)
          replace Y2 := Lib.hid ((Y2.out.below hb).below hbb)
          have X3 := Lib.hid (BxS.new w5 r3.at_ A3 r3.zs.length c3)
          have Y3 := Lib.hid (hr3.below hbb)
          have HB3 := Lib.hid (run_big cs K at2 zs2)
          rw [← hr] at HB3
          have HE1 := Lib.hid (show r1 = if r3.big = true then ⟨0, [], 0, true⟩ else ⟨r3.at_, r3.zs, k2 + r3.k, false⟩ by rw [HR1.out, hr]; rfl)
          clear hbb hb hr3 m0 m1 s0 s1 p0 p1 HR1
          have HL3 := Lib.hid (show r3.big = false → r3.zs.length ≤ 4 from fun hb => by
            have h := run_fits K HF2.out (by rw [← hr]; exact hb)
            rw [← hr] at h
            have := h.len
            have := h.bounds
            omega)
          have HK3 := Lib.hid (show r3.big = false → k2 ≤ 1000000 ∧ r3.k ≤ 1000000 from fun _ => by
            have h1 := run_k cs N at_ zs
            rw [← HR2.out] at h1
            have h2 := run_k cs K at2 zs2
            rw [← hr] at h2
            have h3 : k2 ≤ N := h1
            omega)
          clear hr
          obtain ⟨at3, zs3, k3, b3⟩ := r3
          dsimp only at HE1 HB3 X3 Y3 HL3 HK3 ⊢
          cases b3 with
          | true =>
            have e3 : (⟨at3, zs3, k3, true⟩ : RunE) = ⟨0, [], 0, true⟩ := HB3.out rfl
            injection e3 with h1 h2 h3 _
            subst h1 h2 h3
            have e1 : r1 = ⟨0, [], 0, true⟩ := HE1.out
            subst e1
            have hf1 : f1 = 4 := HF1.out
            subst hf1
            clear HF1 HB3 HE1
            go_upto_region 8 with (fail)
            generalize w5.alloc (.cells #[.int .i64 0, .slice A3 0 c3] 46) = W5 at E X1 Y1 X2 Y2 X3 Y3 ⊢
            generalize w5.heap.size = g3 at X3 ⊢
            have a0 := X1.out.c0
            have a1 := X1.out.c1
            have d0 := X3.out.c0
            have d1 := X3.out.c1
            go_wp2_with fail
            refine (sameState_t 0 A1 A3 0 c1 c3 [] W5 Y1.out Y3.out (by omega)).mono ?_
            rintro e' w6 ⟨rfl, hb⟩
            replace E := Lib.hid (E.out.next hb)
            replace X2 := Lib.hid (X2.out.next hb)
            replace Y2 := Lib.hid (Y2.out.below hb)
            clear hb a0 a1 d0 d1 X1 Y1 X3 Y3
            go_upto_region 10 with (fail)
            have HM2 := Lib.hid (show zs2.length ≤ 4 by have := HF2.out.len; have := HF2.out.bounds; omega)
            obtain ⟨m0, m1, s0, s1⟩ := E.out.cells
            have p0 := X2.out.c0
            have p1 := X2.out.c1
            go_wp2_with fail
            refine (Step_ok R A n c cs at2 A2 zs2.length c2 zs2 w6 E.out.ms.rc Y2.out (by have := HM2.out; omega) HF2.out).mono ?_
            have HSM := Lib.hid (show stepM cs at2 zs2 = if endM (insAt cs at2.toNat) zs2 = true then (0, [], 5) else if advOk (insAt cs at2.toNat) zs2 = true then (advAt (insAt cs at2.toNat) zs2, advZs (insAt cs at2.toNat) zs2, 0) else (0, [], 4) from rfl)
            rcases h3 : endM (insAt cs at2.toNat) zs2 with _ | _
            · rcases h4 : advOk (insAt cs at2.toNat) zs2 with _ | _
              · rw [HSM.out, h3, h4, if_neg (by simp), if_neg (by simp)]
                clear h3 h4 HSM
                rintro e' w7 ⟨A4, c4, rfl, hr4, _, _, hb, _⟩
                have hbb := bel_alloc w7 (.cells #[.int .i64 0, .slice A4 0 c4] 46)
                replace E := Lib.hid ((E.out.next hb).next hbb)
                clear hb hr4 m0 m1 s0 s1 p0 p1 hbb
                go_upto_region 11 with (fail)
                generalize w7.alloc (.cells #[.int .i64 0, .slice A4 0 c4] 46) = W7 at E ⊢
                go_wp2_with fail
                refine (awake13_c W7 E.out.ml).mono ?_
                rintro e' w8 ⟨rfl, hb⟩
                replace E := Lib.hid (E.out.next hb)
                clear hb
                go_wp2
                go_ret
                exact ⟨rfl, E.out.ms.below⟩
              · rw [HSM.out, h3, h4, if_neg (by simp), if_pos rfl]
                rintro e' w7 ⟨A4, c4, rfl, hr4, _, _, hb, _⟩
                dsimp only at hr4 ⊢
                clear h3 h4 HSM m0 m1 s0 s1 p0 p1
                generalize advAt (insAt cs at2.toNat) zs2 = at4
                obtain ⟨x, hx⟩ : ∃ x, x = insAt cs at2.toNat := ⟨_, rfl⟩
                rw [← hx] at hr4 ⊢
                clear hx
                obtain ⟨ys, hys⟩ : ∃ ys, ys = advZs x zs2 := ⟨_, rfl⟩
                rw [← hys] at hr4 ⊢
                have hyl : ys.length = zs2.length := by rw [hys]; exact adv_len x zs2
                have HD := Lib.hid (show ∀ i, i < zs2.length → ys.getD i 0 - zs2.getD i 0 = stepD x i ∧ 0 ≤ zs2.getD i 0 ∧ zs2.getD i 0 ≤ 1099511627776 from fun i hi => by
                  refine ⟨by rw [hys]; exact adv_diff x zs2 i hi, ?_⟩
                  have h := HF2.out.all
                  unfold allIn at h
                  have h2 := of_decide_eq_true h i hi
                  unfold inR at h2
                  simpa using h2)
                rw [hyl] at hr4 ⊢
                clear hys hyl
                have hbb := bel_alloc w7 (.cells #[.int .i64 at4, .slice A4 zs2.length c4] 46)
                replace E := Lib.hid ((E.out.next hb).next hbb)
                replace X2 := Lib.hid ((X2.out.next hb).next hbb)
                replace Y2 := Lib.hid ((Y2.out.below hb).below hbb)
                have X4 := Lib.hid (BxS.new w7 at4 A4 zs2.length c4)
                have Y4 := Lib.hid (hr4.below hbb)
                clear hb hr4 hbb
                go_upto_region 11 with (fail)
                generalize w7.alloc (.cells #[.int .i64 at4, .slice A4 zs2.length c4] 46) = W7 at E X2 Y2 X4 Y4 ⊢
                generalize w7.heap.size = g4 at X4 ⊢
                go_wp2
                go_loopw [20, 21] (fun v20 v21 wr => ∃ i j : Nat, v20 = .int .i64 (movedT x i : Int) ∧ v21 = .int .i64 (i : Int) ∧ i ≤ zs2.length ∧ wr = W7.drewN j) (fun _ v21 _ => zs2.length - (intOf v21).toNat)
                case atStart => exact ⟨0, 0, by simp [movedT], rfl, Nat.zero_le _, rfl⟩
                case round =>
                  obtain ⟨i, j, rfl, rfl, hi, rfl⟩ := hrel
                  have q1 := X4.out.c1
                  have p1 := X2.out.c1
                  have hl4 := HM2.out
                  have hml1 := moved_le x i
                  rcases Nat.lt_or_ge i zs2.length with hil | hil
                  · have t1 : decide ((i : Int) < (zs2.length : Int)) = true := decide_eq_true (by omega)
                    have hiI : (i : Int) < (zs2.length : Int) := by omega
                    obtain ⟨b4, o4, rfl, _, hc4⟩ := Y4.out.at_ (by omega)
                    obtain ⟨b5, o5, rfl, _, hc5⟩ := Y2.out.at_ (by omega)
                    have k4 := hc4 i hil
                    have k5 := hc5 i hil
                    obtain ⟨hd, z0, z1⟩ := HD.out i hil
                    have hmv := moved_step x i
                    clear hc4 hc5
                    generalize ys.getD i 0 = za at k4 hd
                    generalize zs2.getD i 0 = zb at k5 hd z0 z1
                    generalize movedT x i = mv at hmv hml1 ⊢
                    rcases stepD_cases x i with hq | hq | hq
                    · rw [hq] at hd hmv
                      have HMV := Lib.hid hmv
                      clear hmv hq
                      go_upto_region 17 with (fail)
                      go_quiet (fail)
                      go_wp2
                      go_roundw
                      case measure => simp [intOf]; omega
                      case rel => exact ⟨i + 1, _, by rw [HMV.out]; rfl, by go_num, by omega, rfl⟩
                    · rw [hq] at hd hmv
                      have HMV := Lib.hid hmv
                      clear hmv hq
                      go_upto_region 17 with (fail)
                      go_quiet (fail)
                      go_wp2
                      go_roundw
                      case measure => simp [intOf]; omega
                      case rel => exact ⟨i + 1, _, by rw [HMV.out]; go_num, by go_num, by omega, rfl⟩
                    · rw [hq] at hd hmv
                      have HMV := Lib.hid hmv
                      clear hmv hq
                      go_upto_region 17 with (fail)
                      go_quiet (fail)
                      go_wp2
                      go_roundw
                      case measure => simp [intOf]; omega
                      case rel => exact ⟨i + 1, _, by rw [HMV.out]; go_num, by go_num, by omega, rfl⟩
                  · have t1 : decide ((i : Int) < (zs2.length : Int)) = false := decide_eq_false (by omega)
                    have t2 : decide ((movedT x i : Int) ≤ 1) = true := decide_eq_true (by omega)
                    replace E := Lib.hid (E.out.next (bel_drew (Below.refl _ _) j))
                    go_wp2_with fail
                    refine (awake13_c (W7.drewN j) E.out.ml).mono ?_
                    rintro e' w8 ⟨rfl, hb⟩
                    replace E := Lib.hid (E.out.next hb)
                    clear hb
                    go_wp2
                    go_ret
                    exact ⟨rfl, E.out.ms.below⟩
            · rw [HSM.out, h3, if_pos rfl]
              clear h3 HSM
              rintro e' w7 ⟨A4, c4, rfl, hr4, _, _, hb, _⟩
              have hbb := bel_alloc w7 (.cells #[.int .i64 0, .slice A4 0 c4] 46)
              replace E := Lib.hid ((E.out.next hb).next hbb)
              clear hb hr4 m0 m1 s0 s1 p0 p1 hbb
              go_upto_region 11 with (fail)
              generalize w7.alloc (.cells #[.int .i64 0, .slice A4 0 c4] 46) = W7 at E ⊢
              go_wp2_with fail
              refine (awake13_c W7 E.out.ml).mono ?_
              rintro e' w8 ⟨rfl, hb⟩
              replace E := Lib.hid (E.out.next hb)
              clear hb
              go_wp2
              go_ret
              exact ⟨rfl, E.out.ms.below⟩
          | false =>
            have e1 : r1 = ⟨at3, zs3, k2 + k3, false⟩ := HE1.out
            subst e1
            have hf1 : f1 = 0 := HF1.out
            subst hf1
            clear HF1 HB3 HE1
            go_upto_region 8 with (fail)
            generalize w5.alloc (.cells #[.int .i64 at3, .slice A3 zs3.length c3] 46) = W5 at E X1 Y1 X2 Y2 X3 Y3 ⊢
            generalize w5.heap.size = g3 at X3 ⊢
            have a0 := X1.out.c0
            have a1 := X1.out.c1
            have d0 := X3.out.c0
            have d1 := X3.out.c1
            go_wp2_with fail
            refine (sameState_t at3 A1 A3 zs3.length c1 c3 zs3 W5 Y1.out Y3.out (by have := HL3.out trivial; omega)).mono ?_
            rintro e' w6 ⟨rfl, hb⟩
            replace E := Lib.hid (E.out.next hb)
            replace X2 := Lib.hid (X2.out.next hb)
            replace Y2 := Lib.hid (Y2.out.below hb)
            clear hb a0 a1 d0 d1 X1 Y1 X3 Y3
            have hkk := HK3.out trivial
            go_upto_region 10 with (fail)
            have HM2 := Lib.hid (show zs2.length ≤ 4 by have := HF2.out.len; have := HF2.out.bounds; omega)
            obtain ⟨m0, m1, s0, s1⟩ := E.out.cells
            have p0 := X2.out.c0
            have p1 := X2.out.c1
            go_wp2_with fail
            refine (Step_ok R A n c cs at2 A2 zs2.length c2 zs2 w6 E.out.ms.rc Y2.out (by have := HM2.out; omega) HF2.out).mono ?_
            have HSM := Lib.hid (show stepM cs at2 zs2 = if endM (insAt cs at2.toNat) zs2 = true then (0, [], 5) else if advOk (insAt cs at2.toNat) zs2 = true then (advAt (insAt cs at2.toNat) zs2, advZs (insAt cs at2.toNat) zs2, 0) else (0, [], 4) from rfl)
            rcases h3 : endM (insAt cs at2.toNat) zs2 with _ | _
            · rcases h4 : advOk (insAt cs at2.toNat) zs2 with _ | _
              · rw [HSM.out, h3, h4, if_neg (by simp), if_neg (by simp)]
                clear h3 h4 HSM
                rintro e' w7 ⟨A4, c4, rfl, hr4, _, _, hb, _⟩
                have hbb := bel_alloc w7 (.cells #[.int .i64 0, .slice A4 0 c4] 46)
                replace E := Lib.hid ((E.out.next hb).next hbb)
                clear hb hr4 m0 m1 s0 s1 p0 p1 hbb
                go_upto_region 11 with (fail)
                generalize w7.alloc (.cells #[.int .i64 0, .slice A4 0 c4] 46) = W7 at E ⊢
                go_wp2_with fail
                refine (awake13_c W7 E.out.ml).mono ?_
                rintro e' w8 ⟨rfl, hb⟩
                replace E := Lib.hid (E.out.next hb)
                clear hb
                go_wp2
                go_ret
                exact ⟨rfl, E.out.ms.below⟩
              · rw [HSM.out, h3, h4, if_neg (by simp), if_pos rfl]
                rintro e' w7 ⟨A4, c4, rfl, hr4, _, _, hb, _⟩
                dsimp only at hr4 ⊢
                clear h3 h4 HSM m0 m1 s0 s1 p0 p1
                generalize advAt (insAt cs at2.toNat) zs2 = at4
                obtain ⟨x, hx⟩ : ∃ x, x = insAt cs at2.toNat := ⟨_, rfl⟩
                rw [← hx] at hr4 ⊢
                clear hx
                obtain ⟨ys, hys⟩ : ∃ ys, ys = advZs x zs2 := ⟨_, rfl⟩
                rw [← hys] at hr4 ⊢
                have hyl : ys.length = zs2.length := by rw [hys]; exact adv_len x zs2
                have HD := Lib.hid (show ∀ i, i < zs2.length → ys.getD i 0 - zs2.getD i 0 = stepD x i ∧ 0 ≤ zs2.getD i 0 ∧ zs2.getD i 0 ≤ 1099511627776 from fun i hi => by
                  refine ⟨by rw [hys]; exact adv_diff x zs2 i hi, ?_⟩
                  have h := HF2.out.all
                  unfold allIn at h
                  have h2 := of_decide_eq_true h i hi
                  unfold inR at h2
                  simpa using h2)
                rw [hyl] at hr4 ⊢
                clear hys hyl
                have hbb := bel_alloc w7 (.cells #[.int .i64 at4, .slice A4 zs2.length c4] 46)
                replace E := Lib.hid ((E.out.next hb).next hbb)
                replace X2 := Lib.hid ((X2.out.next hb).next hbb)
                replace Y2 := Lib.hid ((Y2.out.below hb).below hbb)
                have X4 := Lib.hid (BxS.new w7 at4 A4 zs2.length c4)
                have Y4 := Lib.hid (hr4.below hbb)
                clear hb hr4 hbb
                go_upto_region 11 with (fail)
                generalize w7.alloc (.cells #[.int .i64 at4, .slice A4 zs2.length c4] 46) = W7 at E X2 Y2 X4 Y4 ⊢
                generalize w7.heap.size = g4 at X4 ⊢
                go_wp2
                go_loopw [20, 21] (fun v20 v21 wr => ∃ i j : Nat, v20 = .int .i64 (movedT x i : Int) ∧ v21 = .int .i64 (i : Int) ∧ i ≤ zs2.length ∧ wr = W7.drewN j) (fun _ v21 _ => zs2.length - (intOf v21).toNat)
                case atStart => exact ⟨0, 0, by simp [movedT], rfl, Nat.zero_le _, rfl⟩
                case round =>
                  obtain ⟨i, j, rfl, rfl, hi, rfl⟩ := hrel
                  have q1 := X4.out.c1
                  have p1 := X2.out.c1
                  have hl4 := HM2.out
                  have hml1 := moved_le x i
                  rcases Nat.lt_or_ge i zs2.length with hil | hil
                  · have t1 : decide ((i : Int) < (zs2.length : Int)) = true := decide_eq_true (by omega)
                    have hiI : (i : Int) < (zs2.length : Int) := by omega
                    obtain ⟨b4, o4, rfl, _, hc4⟩ := Y4.out.at_ (by omega)
                    obtain ⟨b5, o5, rfl, _, hc5⟩ := Y2.out.at_ (by omega)
                    have k4 := hc4 i hil
                    have k5 := hc5 i hil
                    obtain ⟨hd, z0, z1⟩ := HD.out i hil
                    have hmv := moved_step x i
                    clear hc4 hc5
                    generalize ys.getD i 0 = za at k4 hd
                    generalize zs2.getD i 0 = zb at k5 hd z0 z1
                    generalize movedT x i = mv at hmv hml1 ⊢
                    rcases stepD_cases x i with hq | hq | hq
                    · rw [hq] at hd hmv
                      have HMV := Lib.hid hmv
                      clear hmv hq
                      go_upto_region 17 with (fail)
                      go_quiet (fail)
                      go_wp2
                      go_roundw
                      case measure => simp [intOf]; omega
                      case rel => exact ⟨i + 1, _, by rw [HMV.out]; rfl, by go_num, by omega, rfl⟩
                    · rw [hq] at hd hmv
                      have HMV := Lib.hid hmv
                      clear hmv hq
                      go_upto_region 17 with (fail)
                      go_quiet (fail)
                      go_wp2
                      go_roundw
                      case measure => simp [intOf]; omega
                      case rel => exact ⟨i + 1, _, by rw [HMV.out]; go_num, by go_num, by omega, rfl⟩
                    · rw [hq] at hd hmv
                      have HMV := Lib.hid hmv
                      clear hmv hq
                      go_upto_region 17 with (fail)
                      go_quiet (fail)
                      go_wp2
                      go_roundw
                      case measure => simp [intOf]; omega
                      case rel => exact ⟨i + 1, _, by rw [HMV.out]; go_num, by go_num, by omega, rfl⟩
                  · have t1 : decide ((i : Int) < (zs2.length : Int)) = false := decide_eq_false (by omega)
                    have t2 : decide ((movedT x i : Int) ≤ 1) = true := decide_eq_true (by omega)
                    replace E := Lib.hid (E.out.next (bel_drew (Below.refl _ _) j))
                    go_wp2_with fail
                    refine (awake13_c (W7.drewN j) E.out.ml).mono ?_
                    rintro e' w8 ⟨rfl, hb⟩
                    replace E := Lib.hid (E.out.next hb)
                    clear hb
                    go_wp2
                    go_ret
                    exact ⟨rfl, E.out.ms.below⟩
            · rw [HSM.out, h3, if_pos rfl]
              clear h3 HSM
              rintro e' w7 ⟨A4, c4, rfl, hr4, _, _, hb, _⟩
              have hbb := bel_alloc w7 (.cells #[.int .i64 0, .slice A4 0 c4] 46)
              replace E := Lib.hid ((E.out.next hb).next hbb)
              clear hb hr4 m0 m1 s0 s1 p0 p1 hbb
              go_upto_region 11 with (fail)
              generalize w7.alloc (.cells #[.int .i64 0, .slice A4 0 c4] 46) = W7 at E ⊢
              go_wp2_with fail
              refine (awake13_c W7 E.out.ml).mono ?_
              rintro e' w8 ⟨rfl, hb⟩
              replace E := Lib.hid (E.out.next hb)
              clear hb
              go_wp2
              go_ret
              exact ⟨rfl, E.out.ms.below⟩
  · go_wp2_with fail
    refine (wide_t R A n c at_ B m d none 0 0 W0 hw).mono ?_
    rintro e' w1 ⟨rfl, hb⟩
    replace E := Lib.hid (E.out.next hb)
    clear hb hw m0 m1 s0 s1
    go_wp2_with fail
    refine (awake13_c w1 E.out.ml).mono ?_
    rintro e' w2 ⟨rfl, hb⟩
    replace E := Lib.hid (E.out.next hb)
    clear hb
    go_wp2
    go_ret
    exact ⟨rfl, E.out.ms.below⟩
end Go.Proofs.YthjdnidapbhdlaaDoor

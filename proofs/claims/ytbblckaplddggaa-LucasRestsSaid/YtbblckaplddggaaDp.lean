import Derived.Test.YtbblckaplddggaaDo
set_option maxRecDepth 100000
namespace Go.Proofs.Ytbblckaplddggaa
open Go.RowKit Go.Shelf
set_option maxHeartbeats 16000000 in
theorem refRests_step {w : World} {a : Int} {t : Bool} {A : Option Addr} {n c : Nat} {m : Int} {t' : Bool} {A' : Option Addr} {n' c' : Nat} (h : Is w a t A n c) (h' : Is w m t' A' n' c') (hm : 0 < m) (hs : Sz a 4096) (hs' : Sz m 4096) (N : Nat) (hN : 0 < N) (hb : N ≤ 1152921504606846976) (IH : ∀ W, Is W a t A n c → Is W m t' A' n' c' → Calls Try.prog 28 #[.agg #[.bool t, .slice A n c], .int .i64 ((N / 2 : Nat) : Int), .agg #[.bool t', .slice A' n' c']] W (RestsRef a m (N / 2) W)) :
    Calls Try.prog 28 #[.agg #[.bool t, .slice A n c], .int .i64 (N : Int), .agg #[.bool t', .slice A' n' c']] w (RestsRef a m N w) := by
  have E := Lib.hid (Rt.start h h')
  have HM := Lib.hid (And.intro hm (show m ≠ 0 by omega))
  have HS := Lib.hid (And.intro hs hs')
  obtain ⟨Ki, hK⟩ : ∃ K : Int, K = (N : Int) := ⟨_, rfl⟩
  obtain ⟨k, hk⟩ : ∃ k, k = N / 2 := ⟨_, rfl⟩
  rw [← hk] at IH
  rw [show ((k : Nat) : Int) = Ki / 2 by omega] at IH
  rw [← hK]
  have HIH := Lib.hid IH
  have k0 : 0 < Ki := by omega
  have k1 : Ki ≤ 1152921504606846976 := by omega
  have k2 : ¬ Ki = 0 := by omega
  have k3 : decide (Ki = 0) = false := decide_eq_false k2
  have HK := Lib.hid (And.intro hK hk)
  have hp : Ki % 2 = 0 ∨ Ki % 2 = 1 := by omega
  have HP := Lib.hid hp
  clear h h' hm hs hs' IH hN hb hK hk hp
  go_enter Try.func28, Try.ntmps28
  go_upto_region 1 with (fail)
  generalize (((w.alloc (.cells #[.bool t, .slice A n c] 24)).alloc (.cells #[.bool t', .slice A' n' c'] 24)).alloc (.cells #[.bool false, .slice none 0 0] 24)).alloc (.cells #[.bool false, .slice none 0 0] 24) = W0 at E ⊢
  obtain ⟨ga, hga⟩ : ∃ g, g = w.heap.size := ⟨_, rfl⟩
  rw [← hga] at E ⊢
  clear hga
  have a0 := E.out.ba.c0
  have a1 := E.out.ba.c1
  have b0 := E.out.bm.c0
  have b1 := E.out.bm.c1
  go_wp2_with fail
  refine (HIH.out _ E.out.ba.is E.out.bm.is).mono ?_
  rintro e w1 ⟨t8, A8, n8, c8, t9, A9, n9, c9, rfl, hb, i8, i9⟩
  clear HIH k3 k2

  replace E := Lib.hid (E.out.next hb)
  clear hb a0 a1 b0 b1
  have X8 := Lib.hid ((Nvr.new i8).alloc (.cells #[.bool t9, .slice A9 n9 c9] 24))
  have X9 := Lib.hid (Nvr.new (i9.below (below_alloc w1 (.cells #[.bool t8, .slice A8 n8 c8] 24))))
  rw [World.size_alloc] at X9
  have HL := Lib.hid (show ga + 1 + 1 + 1 < w1.heap.size from E.out.r7.lt)
  replace E := Lib.hid ((E.out.next (below_alloc _ (.cells #[.bool t8, .slice A8 n8 c8] 24))).next (below_alloc _ (.cells #[.bool t9, .slice A9 n9 c9] 24)))
  clear i8 i9
  go_upto_region 4 with (fail)
  generalize (w1.alloc (.cells #[.bool t8, .slice A8 n8 c8] 24)).alloc (.cells #[.bool t9, .slice A9 n9 c9] 24) = W2 at E X8 X9 ⊢
  obtain ⟨g8, hg8⟩ : ∃ g, g = w1.heap.size := ⟨_, rfl⟩
  rw [← hg8] at X8 X9 HL ⊢
  clear hg8
  have SA := Lib.hid (show Sz (a * a) 8192 from HS.out.1.mul HS.out.1)
  have SD := Lib.hid (show Sz (a * a - 1) 8193 from SA.out.sub (sz_one' (by omega)))
  have SC := Lib.hid (show Sz (chi a k % m) 4096 from sz_rest HM.out.1 HS.out.2)
  have SP := Lib.hid (show Sz (psi a k % m) 4096 from sz_rest HM.out.1 HS.out.2)
  have SDM := Lib.hid (show Sz ((a * a - 1) % m) 4096 from sz_rest HM.out.1 HS.out.2)
  have SPP := Lib.hid (show Sz (psi a k % m * (psi a k % m)) 8192 from SP.out.mul SP.out)
  have SCC := Lib.hid (show Sz (chi a k % m * (chi a k % m)) 8192 from SC.out.mul SC.out)
  have SDP := Lib.hid (show Sz ((a * a - 1) % m * (psi a k % m * (psi a k % m))) 12288 from SDM.out.mul SPP.out)
  have SU := Lib.hid (show Sz (chi a k % m * (chi a k % m) + (a * a - 1) % m * (psi a k % m * (psi a k % m))) 12289 from (SCC.out.le (by omega)).add SDP.out)
  have S2C := Lib.hid (show Sz (chi a k % m + chi a k % m) 4097 from SC.out.add SC.out)
  have SV := Lib.hid (show Sz ((chi a k % m + chi a k % m) * (psi a k % m)) 8193 from S2C.out.mul SP.out)
  have a0 := E.out.ba.c0
  have a1 := E.out.ba.c1
  go_wp2_with fail
  refine (refMul_c E.out.ba.is E.out.ba.is (Nat.le_trans (E.out.ba.is.len HS.out.1) (by omega)) (Nat.le_trans (E.out.ba.is.len HS.out.1) (by omega))).mono ?_
  rintro e w4 ⟨t30, A30, n30, c30, rfl, i30, hb⟩
  replace E := Lib.hid (E.out.next hb)
  replace X8 := Lib.hid (X8.out.next hb)
  replace X9 := Lib.hid (X9.out.next hb)
  have J0 := Lib.hid (i30)
  clear hb
  clear a0 a1 i30
  go_wp2_with fail
  refine (refOfV 1 _ (by omega) (by omega)).mono ?_
  rintro e w5 ⟨t31, A31, n31, c31, rfl, i31, hb⟩
  replace E := Lib.hid (E.out.next hb)
  replace X8 := Lib.hid (X8.out.next hb)
  replace X9 := Lib.hid (X9.out.next hb)
  replace J0 := Lib.hid (J0.out.below hb)
  have J1 := Lib.hid (i31.is)
  clear hb
  clear i31
  go_wp2_with fail
  refine (refSub_c J0.out J1.out (Nat.le_trans (J0.out.len SA.out) (by omega)) (Nat.le_trans (J1.out.len (sz_one' (Nat.le_refl 1))) (by omega))).mono ?_
  rintro e w6 ⟨t32, A32, n32, c32, rfl, i32, hb⟩
  replace E := Lib.hid (E.out.next hb)
  replace X8 := Lib.hid (X8.out.next hb)
  replace X9 := Lib.hid (X9.out.next hb)
  replace J0 := Lib.hid (J0.out.below hb)
  replace J1 := Lib.hid (J1.out.below hb)
  clear hb
  clear J0 J1
  have X10 := Lib.hid (Nvr.new i32)
  have lX8 := X8.out.lt
  have lX9 := X9.out.lt
  replace E := Lib.hid (E.out.next (below_alloc _ (.cells #[.bool t32, .slice A32 n32 c32] 24)))
  replace X8 := Lib.hid (X8.out.next (below_alloc _ (.cells #[.bool t32, .slice A32 n32 c32] 24)))
  replace X9 := Lib.hid (X9.out.next (below_alloc _ (.cells #[.bool t32, .slice A32 n32 c32] 24)))
  clear i32
  go_upto_region 5 with (fail)
  generalize w6.alloc (.cells #[.bool t32, .slice A32 n32 c32] 24) = W3 at E X8 X9 X10 ⊢
  generalize w6.heap.size = g10 at X10 lX8 lX9 ⊢
  have HL10 := Lib.hid (And.intro lX8 lX9)
  clear lX8 lX9
  go_cut [11] (fun v W => ∃ g t11 A11 n11 c11, v = .pointer (some ⟨g, 0, none⟩) ∧ ga + 1 + 1 + 1 < g ∧ Rt w W ga a t A n c m t' A' n' c' ∧ Nvr W g8 (chi a k % m) t8 A8 n8 c8 ∧ Nvr W (g8 + 1) (psi a k % m) t9 A9 n9 c9 ∧ Nvr W g10 (a * a - 1) t32 A32 n32 c32 ∧ Nvr W g (chi a (2 * k) % m) t11 A11 n11 c11)
  case first =>
    refine wp_region_tail (S := (fun w' => w'.cell? ⟨ga + 1, 0, none⟩ = some (.bool t') ∧ w'.cell? ⟨ga + 1, 1, none⟩ = some (.slice A' n' c') ∧ w'.cell? ⟨g8, 0, none⟩ = some (.bool t8) ∧ w'.cell? ⟨g8, 1, none⟩ = some (.slice A8 n8 c8) ∧ w'.cell? ⟨g8 + 1, 0, none⟩ = some (.bool t9) ∧ w'.cell? ⟨g8 + 1, 1, none⟩ = some (.slice A9 n9 c9) ∧ w'.cell? ⟨g10, 0, none⟩ = some (.bool t32) ∧ w'.cell? ⟨g10, 1, none⟩ = some (.slice A32 n32 c32))) 14 (by kernel_rfl) (by kernel_rfl) (by intro c a d v w h; cases d <;> exact h) ⟨cell_dr E.out.bm.c0, cell_dr E.out.bm.c1, cell_dr X8.out.c0, cell_dr X8.out.c1, cell_dr X9.out.c0, cell_dr X9.out.c1, cell_dr X10.out.c0, cell_dr X10.out.c1⟩ (fun QT hT hP hHeld => ?_)
    simp only [List.extract_toArray, List.extract_eq_take_drop, List.drop_zero, Nat.sub_zero, List.take_succ_cons, List.take_zero]
    have HT := Lib.hid hT
    clear hT
    replace E := Lib.hid (E.out.next (Below.refl W3.heap.size W3).drew)
    replace X8 := Lib.hid (X8.out.next (Below.refl W3.heap.size W3).drew)
    replace X9 := Lib.hid (X9.out.next (Below.refl W3.heap.size W3).drew)
    replace X10 := Lib.hid (X10.out.next (Below.refl W3.heap.size W3).drew)
    generalize W3.drew = D7 at E X8 X9 X10 hHeld ⊢
    refine take_on (i := 0) (d := (some 33)) (v := ?v3) rfl rfl (by kernel_rfl) (by kernel_rfl) (by kernel_rfl) (fun c a w h => hP c a _ _ w h) (by rfl) ?h3 (by assumption) ?r3
    case h3 => intro w hSw; obtain ⟨h0, h1, h2, h3, h4, h5, h6, h7⟩ := hSw; go_simp; rfl
    simp only [Act.put, List.setIfInBounds_toArray, List.set_cons_zero, List.set_cons_succ]
    refine take_on (i := 1) (d := (some 34)) (v := ?v4) rfl rfl (by kernel_rfl) (by kernel_rfl) (by kernel_rfl) (fun c a w h => hP c a _ _ w h) (by rfl) ?h4 (by assumption) ?r4
    case h4 => intro w hSw; obtain ⟨h0, h1, h2, h3, h4, h5, h6, h7⟩ := hSw; go_simp; rfl
    simp only [Act.put, List.setIfInBounds_toArray, List.set_cons_zero, List.set_cons_succ]
    refine take_on (i := 3) (d := (some 36)) (v := ?v5) rfl rfl (by kernel_rfl) (by kernel_rfl) (by kernel_rfl) (fun c a w h => hP c a _ _ w h) (by rfl) ?h5 (by assumption) ?r5
    case h5 => intro w hSw; obtain ⟨h0, h1, h2, h3, h4, h5, h6, h7⟩ := hSw; go_simp; rfl
    simp only [Act.put, List.setIfInBounds_toArray, List.set_cons_zero, List.set_cons_succ]
    refine take_on (i := 4) (d := (some 37)) (v := ?v6) rfl rfl (by kernel_rfl) (by kernel_rfl) (by kernel_rfl) (fun c a w h => hP c a _ _ w h) (by rfl) ?h6 (by assumption) ?r6
    case h6 => intro w hSw; obtain ⟨h0, h1, h2, h3, h4, h5, h6, h7⟩ := hSw; go_simp; rfl
    simp only [Act.put, List.setIfInBounds_toArray, List.set_cons_zero, List.set_cons_succ]
    refine take_on (i := 6) (d := (some 39)) (v := ?v7) rfl rfl (by kernel_rfl) (by kernel_rfl) (by kernel_rfl) (fun c a w h => hP c a _ _ w h) (by rfl) ?h7 (by assumption) ?r7
    case h7 => intro w hSw; obtain ⟨h0, h1, h2, h3, h4, h5, h6, h7⟩ := hSw; go_simp; rfl
    simp only [Act.put, List.setIfInBounds_toArray, List.set_cons_zero, List.set_cons_succ]
    refine take_on (i := 7) (d := (some 40)) (v := ?v8) rfl rfl (by kernel_rfl) (by kernel_rfl) (by kernel_rfl) (fun c a w h => hP c a _ _ w h) (by rfl) ?h8 (by assumption) ?r8
    case h8 => intro w hSw; obtain ⟨h0, h1, h2, h3, h4, h5, h6, h7⟩ := hSw; go_simp; rfl
    simp only [Act.put, List.setIfInBounds_toArray, List.set_cons_zero, List.set_cons_succ]
    refine take_on (i := 11) (d := (some 44)) (v := ?v9) rfl rfl (by kernel_rfl) (by kernel_rfl) (by kernel_rfl) (fun c a w h => hP c a _ _ w h) (by rfl) ?h9 (by assumption) ?r9
    case h9 => intro w hSw; obtain ⟨h0, h1, h2, h3, h4, h5, h6, h7⟩ := hSw; go_simp; rfl
    simp only [Act.put, List.setIfInBounds_toArray, List.set_cons_zero, List.set_cons_succ]
    refine wpAnyH_ready (rs := [2, 13]) (by kernel_rfl) (by simp) ?_
    refine AllReadyH.cons rfl (fun K hK => ?_) ?_
    ·
      go_simp
      refine (refMul_c X8.out.is X8.out.is (Nat.le_trans (X8.out.is.len SC.out) (by omega)) (Nat.le_trans (X8.out.is.len SC.out) (by omega))).mono ?_
      rintro e w8 ⟨t40, A40, n40, c40, rfl, i40, hb⟩
      replace E := Lib.hid (E.out.next hb)
      replace X8 := Lib.hid (X8.out.next hb)
      replace X9 := Lib.hid (X9.out.next hb)
      replace X10 := Lib.hid (X10.out.next hb)
      have J0 := Lib.hid (i40)
      clear hb hHeld i40
      refine hK.out _ _ ⟨E.out.bm.c0, E.out.bm.c1, X8.out.c0, X8.out.c1, X9.out.c0, X9.out.c1, X10.out.c0, X10.out.c1⟩ (fun hHeld => ?_)
      clear hK K
      refine wpAnyH_ready (rs := [5, 13]) (by kernel_rfl) (by simp) ?_
      refine AllReadyH.cons rfl (fun K hK => ?_) ?_
      ·
        go_simp
        refine (rest_c X10.out.is E.out.bm.is HM.out.2 (Nat.le_trans (X10.out.is.len SD.out) (by omega)) (Nat.le_trans (E.out.bm.is.len HS.out.2) (by omega))).mono ?_
        rintro e w9 ⟨t41, A41, n41, c41, rfl, i41, hb⟩
        replace E := Lib.hid (E.out.next hb)
        replace X8 := Lib.hid (X8.out.next hb)
        replace X9 := Lib.hid (X9.out.next hb)
        replace X10 := Lib.hid (X10.out.next hb)
        replace J0 := Lib.hid (J0.out.below hb)
        have J1 := Lib.hid (i41)
        clear hb hHeld i41
        refine hK.out _ _ ⟨E.out.bm.c0, E.out.bm.c1, X8.out.c0, X8.out.c1, X9.out.c0, X9.out.c1, X10.out.c0, X10.out.c1⟩ (fun hHeld => ?_)
        clear hK K
        refine wpAnyH_ready (rs := [8, 13]) (by kernel_rfl) (by simp) ?_
        refine AllReadyH.cons rfl (fun K hK => ?_) ?_
        ·
          go_simp
          refine (refMul_c X9.out.is X9.out.is (Nat.le_trans (X9.out.is.len SP.out) (by omega)) (Nat.le_trans (X9.out.is.len SP.out) (by omega))).mono ?_
          rintro e w10 ⟨t42, A42, n42, c42, rfl, i42, hb⟩
          replace E := Lib.hid (E.out.next hb)
          replace X8 := Lib.hid (X8.out.next hb)
          replace X9 := Lib.hid (X9.out.next hb)
          replace X10 := Lib.hid (X10.out.next hb)
          replace J0 := Lib.hid (J0.out.below hb)
          replace J1 := Lib.hid (J1.out.below hb)
          have J2 := Lib.hid (i42)
          clear hb hHeld i42
          refine hK.out _ _ ⟨E.out.bm.c0, E.out.bm.c1, X8.out.c0, X8.out.c1, X9.out.c0, X9.out.c1, X10.out.c0, X10.out.c1⟩ (fun hHeld => ?_)
          clear hK K
          refine wpAnyH_ready (rs := [9, 13]) (by kernel_rfl) (by simp) ?_
          refine AllReadyH.cons rfl (fun K hK => ?_) ?_
          ·
            go_simp
            refine (refMul_c J1.out J2.out (Nat.le_trans (J1.out.len SDM.out) (by omega)) (Nat.le_trans (J2.out.len SPP.out) (by omega))).mono ?_
            rintro e w11 ⟨t43, A43, n43, c43, rfl, i43, hb⟩
            replace E := Lib.hid (E.out.next hb)
            replace X8 := Lib.hid (X8.out.next hb)
            replace X9 := Lib.hid (X9.out.next hb)
            replace X10 := Lib.hid (X10.out.next hb)
            replace J0 := Lib.hid (J0.out.below hb)
            replace J1 := Lib.hid (J1.out.below hb)
            replace J2 := Lib.hid (J2.out.below hb)
            have J3 := Lib.hid (i43)
            clear hb hHeld i43
            refine hK.out _ _ ⟨E.out.bm.c0, E.out.bm.c1, X8.out.c0, X8.out.c1, X9.out.c0, X9.out.c1, X10.out.c0, X10.out.c1⟩ (fun hHeld => ?_)
            clear hK K
            refine wpAnyH_ready (rs := [10, 13]) (by kernel_rfl) (by simp) ?_
            refine AllReadyH.cons rfl (fun K hK => ?_) ?_
            ·
              go_simp
              refine (refAdd_c J0.out J3.out (Nat.le_trans (J0.out.len SCC.out) (by omega)) (Nat.le_trans (J3.out.len SDP.out) (by omega))).mono ?_
              rintro e w12 ⟨t44, A44, n44, c44, rfl, i44, hb⟩
              replace E := Lib.hid (E.out.next hb)
              replace X8 := Lib.hid (X8.out.next hb)
              replace X9 := Lib.hid (X9.out.next hb)
              replace X10 := Lib.hid (X10.out.next hb)
              replace J0 := Lib.hid (J0.out.below hb)
              replace J1 := Lib.hid (J1.out.below hb)
              replace J2 := Lib.hid (J2.out.below hb)
              replace J3 := Lib.hid (J3.out.below hb)
              have J4 := Lib.hid (i44)
              clear hb hHeld i44
              refine hK.out _ _ ⟨E.out.bm.c0, E.out.bm.c1, X8.out.c0, X8.out.c1, X9.out.c0, X9.out.c1, X10.out.c0, X10.out.c1⟩ (fun hHeld => ?_)
              clear hK K
              refine wpAnyH_ready (rs := [12, 13]) (by kernel_rfl) (by simp) ?_
              refine AllReadyH.cons rfl (fun K hK => ?_) ?_
              ·
                go_simp
                refine (rest_c J4.out E.out.bm.is HM.out.2 (Nat.le_trans (J4.out.len SU.out) (by omega)) (Nat.le_trans (E.out.bm.is.len HS.out.2) (by omega))).mono ?_
                rintro e w13 ⟨t45, A45, n45, c45, rfl, i45, hb⟩
                replace E := Lib.hid (E.out.next hb)
                replace X8 := Lib.hid (X8.out.next hb)
                replace X9 := Lib.hid (X9.out.next hb)
                replace X10 := Lib.hid (X10.out.next hb)
                replace J0 := Lib.hid (J0.out.below hb)
                replace J1 := Lib.hid (J1.out.below hb)
                replace J2 := Lib.hid (J2.out.below hb)
                replace J3 := Lib.hid (J3.out.below hb)
                replace J4 := Lib.hid (J4.out.below hb)
                have J5 := Lib.hid (i45)
                clear hb hHeld i45
                refine hK.out _ _ ⟨E.out.bm.c0, E.out.bm.c1, X8.out.c0, X8.out.c1, X9.out.c0, X9.out.c1, X10.out.c0, X10.out.c1⟩ (fun hHeld => ?_)
                clear hK K
                refine wpAnyH_ready (rs := [13]) (by kernel_rfl) (by simp) ?_
                refine AllReadyH.cons rfl (fun K hK => ?_) AllReadyH.nil
                go_simp
                clear hHeld
                have V11 := Lib.hid (Nvr.new (is_zero8 w13))
                have lX8 := X8.out.lt
                have lX9 := X9.out.lt
                have lX10 := X10.out.lt
                replace E := Lib.hid (E.out.next (below_alloc _ (.cells #[.bool false, .slice none 0 0] 24)))
                replace X8 := Lib.hid (X8.out.next (below_alloc _ (.cells #[.bool false, .slice none 0 0] 24)))
                replace X9 := Lib.hid (X9.out.next (below_alloc _ (.cells #[.bool false, .slice none 0 0] 24)))
                replace X10 := Lib.hid (X10.out.next (below_alloc _ (.cells #[.bool false, .slice none 0 0] 24)))
                replace J0 := Lib.hid (J0.out.below (below_alloc _ (.cells #[.bool false, .slice none 0 0] 24)))
                replace J1 := Lib.hid (J1.out.below (below_alloc _ (.cells #[.bool false, .slice none 0 0] 24)))
                replace J2 := Lib.hid (J2.out.below (below_alloc _ (.cells #[.bool false, .slice none 0 0] 24)))
                replace J3 := Lib.hid (J3.out.below (below_alloc _ (.cells #[.bool false, .slice none 0 0] 24)))
                replace J4 := Lib.hid (J4.out.below (below_alloc _ (.cells #[.bool false, .slice none 0 0] 24)))
                replace J5 := Lib.hid (J5.out.below (below_alloc _ (.cells #[.bool false, .slice none 0 0] 24)))
                skip
                generalize w13.alloc (.cells #[.bool false, .slice none 0 0] 24) = y14 at E X8 X9 X10 J0 J1 J2 J3 J4 J5 V11 ⊢
                generalize w13.heap.size = gV11 at V11 lX8 lX9 lX10 ⊢
                refine hK.out _ _ ⟨E.out.bm.c0, E.out.bm.c1, X8.out.c0, X8.out.c1, X9.out.c0, X9.out.c1, X10.out.c0, X10.out.c1⟩ (fun hHeld => ?_)
                clear hK K
                clear hHeld
                refine wpAnyH_done (by kernel_rfl) ?_ _
                refine HT.out _ _ ?_
                clear HT hP QT
                have p0 := V11.out.c0
                have p1 := V11.out.c1
                have p2 := V11.out.f0
                have p3 := V11.out.f1
                refine wpList_step fun K hK => ?_
                go_simp
                refine hK _ _ ?_
                clear hK K
                refine wpList_nil ?_
                have J6 := J5.out
                rw [even_chi] at J6
                have hl1 := HL.out
                have hl2 := HL10.out
                go_wp2
                go_meet
                exact ⟨gV11, _, _, _, _, rfl, by omega, E.out.far (by omega) p0 p1 _ _ _ _, X8.out.far (by omega) p0 p1 _ _, X9.out.far (by omega) p0 p1 _ _, X10.out.far (by omega) p0 p1 _ _, V11.out.put J6⟩
              refine AllReadyH.cons rfl (fun K hK => ?_) ?_
              ·
                go_simp
                clear hHeld
                have V11 := Lib.hid (Nvr.new (is_zero8 w12))
                have lX8 := X8.out.lt
                have lX9 := X9.out.lt
                have lX10 := X10.out.lt
                replace E := Lib.hid (E.out.next (below_alloc _ (.cells #[.bool false, .slice none 0 0] 24)))
                replace X8 := Lib.hid (X8.out.next (below_alloc _ (.cells #[.bool false, .slice none 0 0] 24)))
                replace X9 := Lib.hid (X9.out.next (below_alloc _ (.cells #[.bool false, .slice none 0 0] 24)))
                replace X10 := Lib.hid (X10.out.next (below_alloc _ (.cells #[.bool false, .slice none 0 0] 24)))
                replace J0 := Lib.hid (J0.out.below (below_alloc _ (.cells #[.bool false, .slice none 0 0] 24)))
                replace J1 := Lib.hid (J1.out.below (below_alloc _ (.cells #[.bool false, .slice none 0 0] 24)))
                replace J2 := Lib.hid (J2.out.below (below_alloc _ (.cells #[.bool false, .slice none 0 0] 24)))
                replace J3 := Lib.hid (J3.out.below (below_alloc _ (.cells #[.bool false, .slice none 0 0] 24)))
                replace J4 := Lib.hid (J4.out.below (below_alloc _ (.cells #[.bool false, .slice none 0 0] 24)))
                skip
                generalize w12.alloc (.cells #[.bool false, .slice none 0 0] 24) = y15 at E X8 X9 X10 J0 J1 J2 J3 J4 V11 ⊢
                generalize w12.heap.size = gV11 at V11 lX8 lX9 lX10 ⊢
                refine hK.out _ _ ⟨E.out.bm.c0, E.out.bm.c1, X8.out.c0, X8.out.c1, X9.out.c0, X9.out.c1, X10.out.c0, X10.out.c1⟩ (fun hHeld => ?_)
                clear hK K
                refine wpAnyH_ready (rs := [12]) (by kernel_rfl) (by simp) ?_
                refine AllReadyH.cons rfl (fun K hK => ?_) AllReadyH.nil
                go_simp
                refine (rest_c J4.out E.out.bm.is HM.out.2 (Nat.le_trans (J4.out.len SU.out) (by omega)) (Nat.le_trans (E.out.bm.is.len HS.out.2) (by omega))).mono ?_
                rintro e w16 ⟨t45, A45, n45, c45, rfl, i45, hb⟩
                replace E := Lib.hid (E.out.next hb)
                replace X8 := Lib.hid (X8.out.next hb)
                replace X9 := Lib.hid (X9.out.next hb)
                replace X10 := Lib.hid (X10.out.next hb)
                replace J0 := Lib.hid (J0.out.below hb)
                replace J1 := Lib.hid (J1.out.below hb)
                replace J2 := Lib.hid (J2.out.below hb)
                replace J3 := Lib.hid (J3.out.below hb)
                replace J4 := Lib.hid (J4.out.below hb)
                replace V11 := Lib.hid (V11.out.next hb)
                have J5 := Lib.hid (i45)
                clear hb hHeld i45
                refine hK.out _ _ ⟨E.out.bm.c0, E.out.bm.c1, X8.out.c0, X8.out.c1, X9.out.c0, X9.out.c1, X10.out.c0, X10.out.c1⟩ (fun hHeld => ?_)
                clear hK K
                clear hHeld
                refine wpAnyH_done (by kernel_rfl) ?_ _
                refine HT.out _ _ ?_
                clear HT hP QT
                have p0 := V11.out.c0
                have p1 := V11.out.c1
                have p2 := V11.out.f0
                have p3 := V11.out.f1
                refine wpList_step fun K hK => ?_
                go_simp
                refine hK _ _ ?_
                clear hK K
                refine wpList_nil ?_
                have J6 := J5.out
                rw [even_chi] at J6
                have hl1 := HL.out
                have hl2 := HL10.out
                go_wp2
                go_meet
                exact ⟨gV11, _, _, _, _, rfl, by omega, E.out.far (by omega) p0 p1 _ _ _ _, X8.out.far (by omega) p0 p1 _ _, X9.out.far (by omega) p0 p1 _ _, X10.out.far (by omega) p0 p1 _ _, V11.out.put J6⟩
              exact AllReadyH.nil
            refine AllReadyH.cons rfl (fun K hK => ?_) ?_
            ·
              go_simp
              clear hHeld
              have V11 := Lib.hid (Nvr.new (is_zero8 w11))
              have lX8 := X8.out.lt
              have lX9 := X9.out.lt
              have lX10 := X10.out.lt
              replace E := Lib.hid (E.out.next (below_alloc _ (.cells #[.bool false, .slice none 0 0] 24)))
              replace X8 := Lib.hid (X8.out.next (below_alloc _ (.cells #[.bool false, .slice none 0 0] 24)))
              replace X9 := Lib.hid (X9.out.next (below_alloc _ (.cells #[.bool false, .slice none 0 0] 24)))
              replace X10 := Lib.hid (X10.out.next (below_alloc _ (.cells #[.bool false, .slice none 0 0] 24)))
              replace J0 := Lib.hid (J0.out.below (below_alloc _ (.cells #[.bool false, .slice none 0 0] 24)))
              replace J1 := Lib.hid (J1.out.below (below_alloc _ (.cells #[.bool false, .slice none 0 0] 24)))
              replace J2 := Lib.hid (J2.out.below (below_alloc _ (.cells #[.bool false, .slice none 0 0] 24)))
              replace J3 := Lib.hid (J3.out.below (below_alloc _ (.cells #[.bool false, .slice none 0 0] 24)))
              skip
              generalize w11.alloc (.cells #[.bool false, .slice none 0 0] 24) = y17 at E X8 X9 X10 J0 J1 J2 J3 V11 ⊢
              generalize w11.heap.size = gV11 at V11 lX8 lX9 lX10 ⊢
              refine hK.out _ _ ⟨E.out.bm.c0, E.out.bm.c1, X8.out.c0, X8.out.c1, X9.out.c0, X9.out.c1, X10.out.c0, X10.out.c1⟩ (fun hHeld => ?_)
              clear hK K
              refine wpAnyH_ready (rs := [10]) (by kernel_rfl) (by simp) ?_
              refine AllReadyH.cons rfl (fun K hK => ?_) AllReadyH.nil
              go_simp
              refine (refAdd_c J0.out J3.out (Nat.le_trans (J0.out.len SCC.out) (by omega)) (Nat.le_trans (J3.out.len SDP.out) (by omega))).mono ?_
              rintro e w18 ⟨t44, A44, n44, c44, rfl, i44, hb⟩
              replace E := Lib.hid (E.out.next hb)
              replace X8 := Lib.hid (X8.out.next hb)
              replace X9 := Lib.hid (X9.out.next hb)
              replace X10 := Lib.hid (X10.out.next hb)
              replace J0 := Lib.hid (J0.out.below hb)
              replace J1 := Lib.hid (J1.out.below hb)
              replace J2 := Lib.hid (J2.out.below hb)
              replace J3 := Lib.hid (J3.out.below hb)
              replace V11 := Lib.hid (V11.out.next hb)
              have J4 := Lib.hid (i44)
              clear hb hHeld i44
              refine hK.out _ _ ⟨E.out.bm.c0, E.out.bm.c1, X8.out.c0, X8.out.c1, X9.out.c0, X9.out.c1, X10.out.c0, X10.out.c1⟩ (fun hHeld => ?_)
              clear hK K
              refine wpAnyH_ready (rs := [12]) (by kernel_rfl) (by simp) ?_
              refine AllReadyH.cons rfl (fun K hK => ?_) AllReadyH.nil
              go_simp
              refine (rest_c J4.out E.out.bm.is HM.out.2 (Nat.le_trans (J4.out.len SU.out) (by omega)) (Nat.le_trans (E.out.bm.is.len HS.out.2) (by omega))).mono ?_
              rintro e w19 ⟨t45, A45, n45, c45, rfl, i45, hb⟩
              replace E := Lib.hid (E.out.next hb)
              replace X8 := Lib.hid (X8.out.next hb)
              replace X9 := Lib.hid (X9.out.next hb)
              replace X10 := Lib.hid (X10.out.next hb)
              replace J0 := Lib.hid (J0.out.below hb)
              replace J1 := Lib.hid (J1.out.below hb)
              replace J2 := Lib.hid (J2.out.below hb)
              replace J3 := Lib.hid (J3.out.below hb)
              replace V11 := Lib.hid (V11.out.next hb)
              replace J4 := Lib.hid (J4.out.below hb)
              have J5 := Lib.hid (i45)
              clear hb hHeld i45
              refine hK.out _ _ ⟨E.out.bm.c0, E.out.bm.c1, X8.out.c0, X8.out.c1, X9.out.c0, X9.out.c1, X10.out.c0, X10.out.c1⟩ (fun hHeld => ?_)
              clear hK K
              clear hHeld
              refine wpAnyH_done (by kernel_rfl) ?_ _
              refine HT.out _ _ ?_
              clear HT hP QT
              have p0 := V11.out.c0
              have p1 := V11.out.c1
              have p2 := V11.out.f0
              have p3 := V11.out.f1
              refine wpList_step fun K hK => ?_
              go_simp
              refine hK _ _ ?_
              clear hK K
              refine wpList_nil ?_
              have J6 := J5.out
              rw [even_chi] at J6
              have hl1 := HL.out
              have hl2 := HL10.out
              go_wp2
              go_meet
              exact ⟨gV11, _, _, _, _, rfl, by omega, E.out.far (by omega) p0 p1 _ _ _ _, X8.out.far (by omega) p0 p1 _ _, X9.out.far (by omega) p0 p1 _ _, X10.out.far (by omega) p0 p1 _ _, V11.out.put J6⟩
            exact AllReadyH.nil
          refine AllReadyH.cons rfl (fun K hK => ?_) ?_
          ·
            go_simp
            clear hHeld
            have V11 := Lib.hid (Nvr.new (is_zero8 w10))
            have lX8 := X8.out.lt
            have lX9 := X9.out.lt
            have lX10 := X10.out.lt
            replace E := Lib.hid (E.out.next (below_alloc _ (.cells #[.bool false, .slice none 0 0] 24)))
            replace X8 := Lib.hid (X8.out.next (below_alloc _ (.cells #[.bool false, .slice none 0 0] 24)))
            replace X9 := Lib.hid (X9.out.next (below_alloc _ (.cells #[.bool false, .slice none 0 0] 24)))
            replace X10 := Lib.hid (X10.out.next (below_alloc _ (.cells #[.bool false, .slice none 0 0] 24)))
            replace J0 := Lib.hid (J0.out.below (below_alloc _ (.cells #[.bool false, .slice none 0 0] 24)))
            replace J1 := Lib.hid (J1.out.below (below_alloc _ (.cells #[.bool false, .slice none 0 0] 24)))
            replace J2 := Lib.hid (J2.out.below (below_alloc _ (.cells #[.bool false, .slice none 0 0] 24)))
            skip
            generalize w10.alloc (.cells #[.bool false, .slice none 0 0] 24) = y20 at E X8 X9 X10 J0 J1 J2 V11 ⊢
            generalize w10.heap.size = gV11 at V11 lX8 lX9 lX10 ⊢
            refine hK.out _ _ ⟨E.out.bm.c0, E.out.bm.c1, X8.out.c0, X8.out.c1, X9.out.c0, X9.out.c1, X10.out.c0, X10.out.c1⟩ (fun hHeld => ?_)
            clear hK K
            refine wpAnyH_ready (rs := [9]) (by kernel_rfl) (by simp) ?_
            refine AllReadyH.cons rfl (fun K hK => ?_) AllReadyH.nil
            go_simp
            refine (refMul_c J1.out J2.out (Nat.le_trans (J1.out.len SDM.out) (by omega)) (Nat.le_trans (J2.out.len SPP.out) (by omega))).mono ?_
            rintro e w21 ⟨t43, A43, n43, c43, rfl, i43, hb⟩
            replace E := Lib.hid (E.out.next hb)
            replace X8 := Lib.hid (X8.out.next hb)
            replace X9 := Lib.hid (X9.out.next hb)
            replace X10 := Lib.hid (X10.out.next hb)
            replace J0 := Lib.hid (J0.out.below hb)
            replace J1 := Lib.hid (J1.out.below hb)
            replace J2 := Lib.hid (J2.out.below hb)
            replace V11 := Lib.hid (V11.out.next hb)
            have J3 := Lib.hid (i43)
            clear hb hHeld i43
            refine hK.out _ _ ⟨E.out.bm.c0, E.out.bm.c1, X8.out.c0, X8.out.c1, X9.out.c0, X9.out.c1, X10.out.c0, X10.out.c1⟩ (fun hHeld => ?_)
            clear hK K
            refine wpAnyH_ready (rs := [10]) (by kernel_rfl) (by simp) ?_
            refine AllReadyH.cons rfl (fun K hK => ?_) AllReadyH.nil
            go_simp
            refine (refAdd_c J0.out J3.out (Nat.le_trans (J0.out.len SCC.out) (by omega)) (Nat.le_trans (J3.out.len SDP.out) (by omega))).mono ?_
            rintro e w22 ⟨t44, A44, n44, c44, rfl, i44, hb⟩
            replace E := Lib.hid (E.out.next hb)
            replace X8 := Lib.hid (X8.out.next hb)
            replace X9 := Lib.hid (X9.out.next hb)
            replace X10 := Lib.hid (X10.out.next hb)
            replace J0 := Lib.hid (J0.out.below hb)
            replace J1 := Lib.hid (J1.out.below hb)
            replace J2 := Lib.hid (J2.out.below hb)
            replace V11 := Lib.hid (V11.out.next hb)
            replace J3 := Lib.hid (J3.out.below hb)
            have J4 := Lib.hid (i44)
            clear hb hHeld i44
            refine hK.out _ _ ⟨E.out.bm.c0, E.out.bm.c1, X8.out.c0, X8.out.c1, X9.out.c0, X9.out.c1, X10.out.c0, X10.out.c1⟩ (fun hHeld => ?_)
            clear hK K
            refine wpAnyH_ready (rs := [12]) (by kernel_rfl) (by simp) ?_
            refine AllReadyH.cons rfl (fun K hK => ?_) AllReadyH.nil
            go_simp
            refine (rest_c J4.out E.out.bm.is HM.out.2 (Nat.le_trans (J4.out.len SU.out) (by omega)) (Nat.le_trans (E.out.bm.is.len HS.out.2) (by omega))).mono ?_
            rintro e w23 ⟨t45, A45, n45, c45, rfl, i45, hb⟩
            replace E := Lib.hid (E.out.next hb)
            replace X8 := Lib.hid (X8.out.next hb)
            replace X9 := Lib.hid (X9.out.next hb)
            replace X10 := Lib.hid (X10.out.next hb)
            replace J0 := Lib.hid (J0.out.below hb)
            replace J1 := Lib.hid (J1.out.below hb)
            replace J2 := Lib.hid (J2.out.below hb)
            replace V11 := Lib.hid (V11.out.next hb)
            replace J3 := Lib.hid (J3.out.below hb)
            replace J4 := Lib.hid (J4.out.below hb)
            have J5 := Lib.hid (i45)
            clear hb hHeld i45
            refine hK.out _ _ ⟨E.out.bm.c0, E.out.bm.c1, X8.out.c0, X8.out.c1, X9.out.c0, X9.out.c1, X10.out.c0, X10.out.c1⟩ (fun hHeld => ?_)
            clear hK K
            clear hHeld
            refine wpAnyH_done (by kernel_rfl) ?_ _
            refine HT.out _ _ ?_
            clear HT hP QT
            have p0 := V11.out.c0
            have p1 := V11.out.c1
            have p2 := V11.out.f0
            have p3 := V11.out.f1
            refine wpList_step fun K hK => ?_
            go_simp
            refine hK _ _ ?_
            clear hK K
            refine wpList_nil ?_
            have J6 := J5.out
            rw [even_chi] at J6
            have hl1 := HL.out
            have hl2 := HL10.out
            go_wp2
            go_meet
            exact ⟨gV11, _, _, _, _, rfl, by omega, E.out.far (by omega) p0 p1 _ _ _ _, X8.out.far (by omega) p0 p1 _ _, X9.out.far (by omega) p0 p1 _ _, X10.out.far (by omega) p0 p1 _ _, V11.out.put J6⟩
          exact AllReadyH.nil
        refine AllReadyH.cons rfl (fun K hK => ?_) ?_
        ·
          go_simp
          clear hHeld
          have V11 := Lib.hid (Nvr.new (is_zero8 w9))
          have lX8 := X8.out.lt
          have lX9 := X9.out.lt
          have lX10 := X10.out.lt
          replace E := Lib.hid (E.out.next (below_alloc _ (.cells #[.bool false, .slice none 0 0] 24)))
          replace X8 := Lib.hid (X8.out.next (below_alloc _ (.cells #[.bool false, .slice none 0 0] 24)))
          replace X9 := Lib.hid (X9.out.next (below_alloc _ (.cells #[.bool false, .slice none 0 0] 24)))
          replace X10 := Lib.hid (X10.out.next (below_alloc _ (.cells #[.bool false, .slice none 0 0] 24)))
          replace J0 := Lib.hid (J0.out.below (below_alloc _ (.cells #[.bool false, .slice none 0 0] 24)))
          replace J1 := Lib.hid (J1.out.below (below_alloc _ (.cells #[.bool false, .slice none 0 0] 24)))
          skip
          generalize w9.alloc (.cells #[.bool false, .slice none 0 0] 24) = y24 at E X8 X9 X10 J0 J1 V11 ⊢
          generalize w9.heap.size = gV11 at V11 lX8 lX9 lX10 ⊢
          refine hK.out _ _ ⟨E.out.bm.c0, E.out.bm.c1, X8.out.c0, X8.out.c1, X9.out.c0, X9.out.c1, X10.out.c0, X10.out.c1⟩ (fun hHeld => ?_)
          clear hK K
          refine wpAnyH_ready (rs := [8]) (by kernel_rfl) (by simp) ?_
          refine AllReadyH.cons rfl (fun K hK => ?_) AllReadyH.nil
          go_simp
          refine (refMul_c X9.out.is X9.out.is (Nat.le_trans (X9.out.is.len SP.out) (by omega)) (Nat.le_trans (X9.out.is.len SP.out) (by omega))).mono ?_
          rintro e w25 ⟨t42, A42, n42, c42, rfl, i42, hb⟩
          replace E := Lib.hid (E.out.next hb)
          replace X8 := Lib.hid (X8.out.next hb)
          replace X9 := Lib.hid (X9.out.next hb)
          replace X10 := Lib.hid (X10.out.next hb)
          replace J0 := Lib.hid (J0.out.below hb)
          replace J1 := Lib.hid (J1.out.below hb)
          replace V11 := Lib.hid (V11.out.next hb)
          have J2 := Lib.hid (i42)
          clear hb hHeld i42
          refine hK.out _ _ ⟨E.out.bm.c0, E.out.bm.c1, X8.out.c0, X8.out.c1, X9.out.c0, X9.out.c1, X10.out.c0, X10.out.c1⟩ (fun hHeld => ?_)
          clear hK K
          refine wpAnyH_ready (rs := [9]) (by kernel_rfl) (by simp) ?_
          refine AllReadyH.cons rfl (fun K hK => ?_) AllReadyH.nil
          go_simp
          refine (refMul_c J1.out J2.out (Nat.le_trans (J1.out.len SDM.out) (by omega)) (Nat.le_trans (J2.out.len SPP.out) (by omega))).mono ?_
          rintro e w26 ⟨t43, A43, n43, c43, rfl, i43, hb⟩
          replace E := Lib.hid (E.out.next hb)
          replace X8 := Lib.hid (X8.out.next hb)
          replace X9 := Lib.hid (X9.out.next hb)
          replace X10 := Lib.hid (X10.out.next hb)
          replace J0 := Lib.hid (J0.out.below hb)
          replace J1 := Lib.hid (J1.out.below hb)
          replace V11 := Lib.hid (V11.out.next hb)
          replace J2 := Lib.hid (J2.out.below hb)
          have J3 := Lib.hid (i43)
          clear hb hHeld i43
          refine hK.out _ _ ⟨E.out.bm.c0, E.out.bm.c1, X8.out.c0, X8.out.c1, X9.out.c0, X9.out.c1, X10.out.c0, X10.out.c1⟩ (fun hHeld => ?_)
          clear hK K
          refine wpAnyH_ready (rs := [10]) (by kernel_rfl) (by simp) ?_
          refine AllReadyH.cons rfl (fun K hK => ?_) AllReadyH.nil
          go_simp
          refine (refAdd_c J0.out J3.out (Nat.le_trans (J0.out.len SCC.out) (by omega)) (Nat.le_trans (J3.out.len SDP.out) (by omega))).mono ?_
          rintro e w27 ⟨t44, A44, n44, c44, rfl, i44, hb⟩
          replace E := Lib.hid (E.out.next hb)
          replace X8 := Lib.hid (X8.out.next hb)
          replace X9 := Lib.hid (X9.out.next hb)
          replace X10 := Lib.hid (X10.out.next hb)
          replace J0 := Lib.hid (J0.out.below hb)
          replace J1 := Lib.hid (J1.out.below hb)
          replace V11 := Lib.hid (V11.out.next hb)
          replace J2 := Lib.hid (J2.out.below hb)
          replace J3 := Lib.hid (J3.out.below hb)
          have J4 := Lib.hid (i44)
          clear hb hHeld i44
          refine hK.out _ _ ⟨E.out.bm.c0, E.out.bm.c1, X8.out.c0, X8.out.c1, X9.out.c0, X9.out.c1, X10.out.c0, X10.out.c1⟩ (fun hHeld => ?_)
          clear hK K
          refine wpAnyH_ready (rs := [12]) (by kernel_rfl) (by simp) ?_
          refine AllReadyH.cons rfl (fun K hK => ?_) AllReadyH.nil
          go_simp
          refine (rest_c J4.out E.out.bm.is HM.out.2 (Nat.le_trans (J4.out.len SU.out) (by omega)) (Nat.le_trans (E.out.bm.is.len HS.out.2) (by omega))).mono ?_
          rintro e w28 ⟨t45, A45, n45, c45, rfl, i45, hb⟩
          replace E := Lib.hid (E.out.next hb)
          replace X8 := Lib.hid (X8.out.next hb)
          replace X9 := Lib.hid (X9.out.next hb)
          replace X10 := Lib.hid (X10.out.next hb)
          replace J0 := Lib.hid (J0.out.below hb)
          replace J1 := Lib.hid (J1.out.below hb)
          replace V11 := Lib.hid (V11.out.next hb)
          replace J2 := Lib.hid (J2.out.below hb)
          replace J3 := Lib.hid (J3.out.below hb)
          replace J4 := Lib.hid (J4.out.below hb)
          have J5 := Lib.hid (i45)
          clear hb hHeld i45
          refine hK.out _ _ ⟨E.out.bm.c0, E.out.bm.c1, X8.out.c0, X8.out.c1, X9.out.c0, X9.out.c1, X10.out.c0, X10.out.c1⟩ (fun hHeld => ?_)
          clear hK K
          clear hHeld
          refine wpAnyH_done (by kernel_rfl) ?_ _
          refine HT.out _ _ ?_
          clear HT hP QT
          have p0 := V11.out.c0
          have p1 := V11.out.c1
          have p2 := V11.out.f0
          have p3 := V11.out.f1
          refine wpList_step fun K hK => ?_
          go_simp
          refine hK _ _ ?_
          clear hK K
          refine wpList_nil ?_
          have J6 := J5.out
          rw [even_chi] at J6
          have hl1 := HL.out
          have hl2 := HL10.out
          go_wp2
          go_meet
          exact ⟨gV11, _, _, _, _, rfl, by omega, E.out.far (by omega) p0 p1 _ _ _ _, X8.out.far (by omega) p0 p1 _ _, X9.out.far (by omega) p0 p1 _ _, X10.out.far (by omega) p0 p1 _ _, V11.out.put J6⟩
        exact AllReadyH.nil
      refine AllReadyH.cons rfl (fun K hK => ?_) ?_
      ·
        go_simp
        clear hHeld
        have V11 := Lib.hid (Nvr.new (is_zero8 w8))
        have lX8 := X8.out.lt
        have lX9 := X9.out.lt
        have lX10 := X10.out.lt
        replace E := Lib.hid (E.out.next (below_alloc _ (.cells #[.bool false, .slice none 0 0] 24)))
        replace X8 := Lib.hid (X8.out.next (below_alloc _ (.cells #[.bool false, .slice none 0 0] 24)))
        replace X9 := Lib.hid (X9.out.next (below_alloc _ (.cells #[.bool false, .slice none 0 0] 24)))
        replace X10 := Lib.hid (X10.out.next (below_alloc _ (.cells #[.bool false, .slice none 0 0] 24)))
        replace J0 := Lib.hid (J0.out.below (below_alloc _ (.cells #[.bool false, .slice none 0 0] 24)))
        skip
        generalize w8.alloc (.cells #[.bool false, .slice none 0 0] 24) = y29 at E X8 X9 X10 J0 V11 ⊢
        generalize w8.heap.size = gV11 at V11 lX8 lX9 lX10 ⊢
        refine hK.out _ _ ⟨E.out.bm.c0, E.out.bm.c1, X8.out.c0, X8.out.c1, X9.out.c0, X9.out.c1, X10.out.c0, X10.out.c1⟩ (fun hHeld => ?_)
        clear hK K
        refine wpAnyH_ready (rs := [5]) (by kernel_rfl) (by simp) ?_
        refine AllReadyH.cons rfl (fun K hK => ?_) AllReadyH.nil
        go_simp
        refine (rest_c X10.out.is E.out.bm.is HM.out.2 (Nat.le_trans (X10.out.is.len SD.out) (by omega)) (Nat.le_trans (E.out.bm.is.len HS.out.2) (by omega))).mono ?_
        rintro e w30 ⟨t41, A41, n41, c41, rfl, i41, hb⟩
        replace E := Lib.hid (E.out.next hb)
        replace X8 := Lib.hid (X8.out.next hb)
        replace X9 := Lib.hid (X9.out.next hb)
        replace X10 := Lib.hid (X10.out.next hb)
        replace J0 := Lib.hid (J0.out.below hb)
        replace V11 := Lib.hid (V11.out.next hb)
        have J1 := Lib.hid (i41)
        clear hb hHeld i41
        refine hK.out _ _ ⟨E.out.bm.c0, E.out.bm.c1, X8.out.c0, X8.out.c1, X9.out.c0, X9.out.c1, X10.out.c0, X10.out.c1⟩ (fun hHeld => ?_)
        clear hK K
        refine wpAnyH_ready (rs := [8]) (by kernel_rfl) (by simp) ?_
        refine AllReadyH.cons rfl (fun K hK => ?_) AllReadyH.nil
        go_simp
        refine (refMul_c X9.out.is X9.out.is (Nat.le_trans (X9.out.is.len SP.out) (by omega)) (Nat.le_trans (X9.out.is.len SP.out) (by omega))).mono ?_
        rintro e w31 ⟨t42, A42, n42, c42, rfl, i42, hb⟩
        replace E := Lib.hid (E.out.next hb)
        replace X8 := Lib.hid (X8.out.next hb)
        replace X9 := Lib.hid (X9.out.next hb)
        replace X10 := Lib.hid (X10.out.next hb)
        replace J0 := Lib.hid (J0.out.below hb)
        replace V11 := Lib.hid (V11.out.next hb)
        replace J1 := Lib.hid (J1.out.below hb)
        have J2 := Lib.hid (i42)
        clear hb hHeld i42
        refine hK.out _ _ ⟨E.out.bm.c0, E.out.bm.c1, X8.out.c0, X8.out.c1, X9.out.c0, X9.out.c1, X10.out.c0, X10.out.c1⟩ (fun hHeld => ?_)
        clear hK K
        refine wpAnyH_ready (rs := [9]) (by kernel_rfl) (by simp) ?_
        refine AllReadyH.cons rfl (fun K hK => ?_) AllReadyH.nil
        go_simp
        refine (refMul_c J1.out J2.out (Nat.le_trans (J1.out.len SDM.out) (by omega)) (Nat.le_trans (J2.out.len SPP.out) (by omega))).mono ?_
        rintro e w32 ⟨t43, A43, n43, c43, rfl, i43, hb⟩
        replace E := Lib.hid (E.out.next hb)
        replace X8 := Lib.hid (X8.out.next hb)
        replace X9 := Lib.hid (X9.out.next hb)
        replace X10 := Lib.hid (X10.out.next hb)
        replace J0 := Lib.hid (J0.out.below hb)
        replace V11 := Lib.hid (V11.out.next hb)
        replace J1 := Lib.hid (J1.out.below hb)
        replace J2 := Lib.hid (J2.out.below hb)
        have J3 := Lib.hid (i43)
        clear hb hHeld i43
        refine hK.out _ _ ⟨E.out.bm.c0, E.out.bm.c1, X8.out.c0, X8.out.c1, X9.out.c0, X9.out.c1, X10.out.c0, X10.out.c1⟩ (fun hHeld => ?_)
        clear hK K
        refine wpAnyH_ready (rs := [10]) (by kernel_rfl) (by simp) ?_
        refine AllReadyH.cons rfl (fun K hK => ?_) AllReadyH.nil
        go_simp
        refine (refAdd_c J0.out J3.out (Nat.le_trans (J0.out.len SCC.out) (by omega)) (Nat.le_trans (J3.out.len SDP.out) (by omega))).mono ?_
        rintro e w33 ⟨t44, A44, n44, c44, rfl, i44, hb⟩
        replace E := Lib.hid (E.out.next hb)
        replace X8 := Lib.hid (X8.out.next hb)
        replace X9 := Lib.hid (X9.out.next hb)
        replace X10 := Lib.hid (X10.out.next hb)
        replace J0 := Lib.hid (J0.out.below hb)
        replace V11 := Lib.hid (V11.out.next hb)
        replace J1 := Lib.hid (J1.out.below hb)
        replace J2 := Lib.hid (J2.out.below hb)
        replace J3 := Lib.hid (J3.out.below hb)
        have J4 := Lib.hid (i44)
        clear hb hHeld i44
        refine hK.out _ _ ⟨E.out.bm.c0, E.out.bm.c1, X8.out.c0, X8.out.c1, X9.out.c0, X9.out.c1, X10.out.c0, X10.out.c1⟩ (fun hHeld => ?_)
        clear hK K
        refine wpAnyH_ready (rs := [12]) (by kernel_rfl) (by simp) ?_
        refine AllReadyH.cons rfl (fun K hK => ?_) AllReadyH.nil
        go_simp
        refine (rest_c J4.out E.out.bm.is HM.out.2 (Nat.le_trans (J4.out.len SU.out) (by omega)) (Nat.le_trans (E.out.bm.is.len HS.out.2) (by omega))).mono ?_
        rintro e w34 ⟨t45, A45, n45, c45, rfl, i45, hb⟩
        replace E := Lib.hid (E.out.next hb)
        replace X8 := Lib.hid (X8.out.next hb)
        replace X9 := Lib.hid (X9.out.next hb)
        replace X10 := Lib.hid (X10.out.next hb)
        replace J0 := Lib.hid (J0.out.below hb)
        replace V11 := Lib.hid (V11.out.next hb)
        replace J1 := Lib.hid (J1.out.below hb)
        replace J2 := Lib.hid (J2.out.below hb)
        replace J3 := Lib.hid (J3.out.below hb)
        replace J4 := Lib.hid (J4.out.below hb)
        have J5 := Lib.hid (i45)
        clear hb hHeld i45
        refine hK.out _ _ ⟨E.out.bm.c0, E.out.bm.c1, X8.out.c0, X8.out.c1, X9.out.c0, X9.out.c1, X10.out.c0, X10.out.c1⟩ (fun hHeld => ?_)
        clear hK K
        clear hHeld
        refine wpAnyH_done (by kernel_rfl) ?_ _
        refine HT.out _ _ ?_
        clear HT hP QT
        have p0 := V11.out.c0
        have p1 := V11.out.c1
        have p2 := V11.out.f0
        have p3 := V11.out.f1
        refine wpList_step fun K hK => ?_
        go_simp
        refine hK _ _ ?_
        clear hK K
        refine wpList_nil ?_
        have J6 := J5.out
        rw [even_chi] at J6
        have hl1 := HL.out
        have hl2 := HL10.out
        go_wp2
        go_meet
        exact ⟨gV11, _, _, _, _, rfl, by omega, E.out.far (by omega) p0 p1 _ _ _ _, X8.out.far (by omega) p0 p1 _ _, X9.out.far (by omega) p0 p1 _ _, X10.out.far (by omega) p0 p1 _ _, V11.out.put J6⟩
      exact AllReadyH.nil
    refine AllReadyH.cons rfl (fun K hK => ?_) ?_
    ·
      go_simp
      clear hHeld
      have V11 := Lib.hid (Nvr.new (is_zero8 D7))
      have lX8 := X8.out.lt
      have lX9 := X9.out.lt
      have lX10 := X10.out.lt
      replace E := Lib.hid (E.out.next (below_alloc _ (.cells #[.bool false, .slice none 0 0] 24)))
      replace X8 := Lib.hid (X8.out.next (below_alloc _ (.cells #[.bool false, .slice none 0 0] 24)))
      replace X9 := Lib.hid (X9.out.next (below_alloc _ (.cells #[.bool false, .slice none 0 0] 24)))
      replace X10 := Lib.hid (X10.out.next (below_alloc _ (.cells #[.bool false, .slice none 0 0] 24)))
      skip
      generalize D7.alloc (.cells #[.bool false, .slice none 0 0] 24) = y35 at E X8 X9 X10 V11 ⊢
      generalize D7.heap.size = gV11 at V11 lX8 lX9 lX10 ⊢
      refine hK.out _ _ ⟨E.out.bm.c0, E.out.bm.c1, X8.out.c0, X8.out.c1, X9.out.c0, X9.out.c1, X10.out.c0, X10.out.c1⟩ (fun hHeld => ?_)
      clear hK K
      refine wpAnyH_ready (rs := [2]) (by kernel_rfl) (by simp) ?_
      refine AllReadyH.cons rfl (fun K hK => ?_) AllReadyH.nil
      go_simp
      refine (refMul_c X8.out.is X8.out.is (Nat.le_trans (X8.out.is.len SC.out) (by omega)) (Nat.le_trans (X8.out.is.len SC.out) (by omega))).mono ?_
      rintro e w36 ⟨t40, A40, n40, c40, rfl, i40, hb⟩
      replace E := Lib.hid (E.out.next hb)
      replace X8 := Lib.hid (X8.out.next hb)
      replace X9 := Lib.hid (X9.out.next hb)
      replace X10 := Lib.hid (X10.out.next hb)
      replace V11 := Lib.hid (V11.out.next hb)
      have J0 := Lib.hid (i40)
      clear hb hHeld i40
      refine hK.out _ _ ⟨E.out.bm.c0, E.out.bm.c1, X8.out.c0, X8.out.c1, X9.out.c0, X9.out.c1, X10.out.c0, X10.out.c1⟩ (fun hHeld => ?_)
      clear hK K
      refine wpAnyH_ready (rs := [5]) (by kernel_rfl) (by simp) ?_
      refine AllReadyH.cons rfl (fun K hK => ?_) AllReadyH.nil
      go_simp
      refine (rest_c X10.out.is E.out.bm.is HM.out.2 (Nat.le_trans (X10.out.is.len SD.out) (by omega)) (Nat.le_trans (E.out.bm.is.len HS.out.2) (by omega))).mono ?_
      rintro e w37 ⟨t41, A41, n41, c41, rfl, i41, hb⟩
      replace E := Lib.hid (E.out.next hb)
      replace X8 := Lib.hid (X8.out.next hb)
      replace X9 := Lib.hid (X9.out.next hb)
      replace X10 := Lib.hid (X10.out.next hb)
      replace V11 := Lib.hid (V11.out.next hb)
      replace J0 := Lib.hid (J0.out.below hb)
      have J1 := Lib.hid (i41)
      clear hb hHeld i41
      refine hK.out _ _ ⟨E.out.bm.c0, E.out.bm.c1, X8.out.c0, X8.out.c1, X9.out.c0, X9.out.c1, X10.out.c0, X10.out.c1⟩ (fun hHeld => ?_)
      clear hK K
      refine wpAnyH_ready (rs := [8]) (by kernel_rfl) (by simp) ?_
      refine AllReadyH.cons rfl (fun K hK => ?_) AllReadyH.nil
      go_simp
      refine (refMul_c X9.out.is X9.out.is (Nat.le_trans (X9.out.is.len SP.out) (by omega)) (Nat.le_trans (X9.out.is.len SP.out) (by omega))).mono ?_
      rintro e w38 ⟨t42, A42, n42, c42, rfl, i42, hb⟩
      replace E := Lib.hid (E.out.next hb)
      replace X8 := Lib.hid (X8.out.next hb)
      replace X9 := Lib.hid (X9.out.next hb)
      replace X10 := Lib.hid (X10.out.next hb)
      replace V11 := Lib.hid (V11.out.next hb)
      replace J0 := Lib.hid (J0.out.below hb)
      replace J1 := Lib.hid (J1.out.below hb)
      have J2 := Lib.hid (i42)
      clear hb hHeld i42
      refine hK.out _ _ ⟨E.out.bm.c0, E.out.bm.c1, X8.out.c0, X8.out.c1, X9.out.c0, X9.out.c1, X10.out.c0, X10.out.c1⟩ (fun hHeld => ?_)
      clear hK K
      refine wpAnyH_ready (rs := [9]) (by kernel_rfl) (by simp) ?_
      refine AllReadyH.cons rfl (fun K hK => ?_) AllReadyH.nil
      go_simp
      refine (refMul_c J1.out J2.out (Nat.le_trans (J1.out.len SDM.out) (by omega)) (Nat.le_trans (J2.out.len SPP.out) (by omega))).mono ?_
      rintro e w39 ⟨t43, A43, n43, c43, rfl, i43, hb⟩
      replace E := Lib.hid (E.out.next hb)
      replace X8 := Lib.hid (X8.out.next hb)
      replace X9 := Lib.hid (X9.out.next hb)
      replace X10 := Lib.hid (X10.out.next hb)
      replace V11 := Lib.hid (V11.out.next hb)
      replace J0 := Lib.hid (J0.out.below hb)
      replace J1 := Lib.hid (J1.out.below hb)
      replace J2 := Lib.hid (J2.out.below hb)
      have J3 := Lib.hid (i43)
      clear hb hHeld i43
      refine hK.out _ _ ⟨E.out.bm.c0, E.out.bm.c1, X8.out.c0, X8.out.c1, X9.out.c0, X9.out.c1, X10.out.c0, X10.out.c1⟩ (fun hHeld => ?_)
      clear hK K
      refine wpAnyH_ready (rs := [10]) (by kernel_rfl) (by simp) ?_
      refine AllReadyH.cons rfl (fun K hK => ?_) AllReadyH.nil
      go_simp
      refine (refAdd_c J0.out J3.out (Nat.le_trans (J0.out.len SCC.out) (by omega)) (Nat.le_trans (J3.out.len SDP.out) (by omega))).mono ?_
      rintro e w40 ⟨t44, A44, n44, c44, rfl, i44, hb⟩
      replace E := Lib.hid (E.out.next hb)
      replace X8 := Lib.hid (X8.out.next hb)
      replace X9 := Lib.hid (X9.out.next hb)
      replace X10 := Lib.hid (X10.out.next hb)
      replace V11 := Lib.hid (V11.out.next hb)
      replace J0 := Lib.hid (J0.out.below hb)
      replace J1 := Lib.hid (J1.out.below hb)
      replace J2 := Lib.hid (J2.out.below hb)
      replace J3 := Lib.hid (J3.out.below hb)
      have J4 := Lib.hid (i44)
      clear hb hHeld i44
      refine hK.out _ _ ⟨E.out.bm.c0, E.out.bm.c1, X8.out.c0, X8.out.c1, X9.out.c0, X9.out.c1, X10.out.c0, X10.out.c1⟩ (fun hHeld => ?_)
      clear hK K
      refine wpAnyH_ready (rs := [12]) (by kernel_rfl) (by simp) ?_
      refine AllReadyH.cons rfl (fun K hK => ?_) AllReadyH.nil
      go_simp
      refine (rest_c J4.out E.out.bm.is HM.out.2 (Nat.le_trans (J4.out.len SU.out) (by omega)) (Nat.le_trans (E.out.bm.is.len HS.out.2) (by omega))).mono ?_
      rintro e w41 ⟨t45, A45, n45, c45, rfl, i45, hb⟩
      replace E := Lib.hid (E.out.next hb)
      replace X8 := Lib.hid (X8.out.next hb)
      replace X9 := Lib.hid (X9.out.next hb)
      replace X10 := Lib.hid (X10.out.next hb)
      replace V11 := Lib.hid (V11.out.next hb)
      replace J0 := Lib.hid (J0.out.below hb)
      replace J1 := Lib.hid (J1.out.below hb)
      replace J2 := Lib.hid (J2.out.below hb)
      replace J3 := Lib.hid (J3.out.below hb)
      replace J4 := Lib.hid (J4.out.below hb)
      have J5 := Lib.hid (i45)
      clear hb hHeld i45
      refine hK.out _ _ ⟨E.out.bm.c0, E.out.bm.c1, X8.out.c0, X8.out.c1, X9.out.c0, X9.out.c1, X10.out.c0, X10.out.c1⟩ (fun hHeld => ?_)
      clear hK K
      clear hHeld
      refine wpAnyH_done (by kernel_rfl) ?_ _
      refine HT.out _ _ ?_
      clear HT hP QT
      have p0 := V11.out.c0
      have p1 := V11.out.c1
      have p2 := V11.out.f0
      have p3 := V11.out.f1
      refine wpList_step fun K hK => ?_
      go_simp
      refine hK _ _ ?_
      clear hK K
      refine wpList_nil ?_
      have J6 := J5.out
      rw [even_chi] at J6
      have hl1 := HL.out
      have hl2 := HL10.out
      go_wp2
      go_meet
      exact ⟨gV11, _, _, _, _, rfl, by omega, E.out.far (by omega) p0 p1 _ _ _ _, X8.out.far (by omega) p0 p1 _ _, X9.out.far (by omega) p0 p1 _ _, X10.out.far (by omega) p0 p1 _ _, V11.out.put J6⟩
    exact AllReadyH.nil
  case rest =>
    obtain ⟨g11, t11, A11, n11, c11, rfl, l1, h1, h2, h3, h4, h5⟩ := hcut
    clear E X8 X9 X10
    have E := Lib.hid h1
    have X8 := Lib.hid h2
    have X9 := Lib.hid h3
    have X10 := Lib.hid h4
    have X11 := Lib.hid h5
    have HL11 := Lib.hid l1
    clear l1 h1 h2 h3 h4 h5
    go_upto_region 6 with (fail)
    go_cut [12] (fun v W => ∃ g t12 A12 n12 c12, v = .pointer (some ⟨g, 0, none⟩) ∧ ga + 1 + 1 + 1 < g ∧ Rt w W ga a t A n c m t' A' n' c' ∧ Nvr W g10 (a * a - 1) t32 A32 n32 c32 ∧ Nvr W g11 (chi a (2 * k) % m) t11 A11 n11 c11 ∧ Nvr W g (psi a (2 * k) % m) t12 A12 n12 c12)
    case first =>
      refine wp_region_tail (S := (fun w' => w'.cell? ⟨ga + 1, 0, none⟩ = some (.bool t') ∧ w'.cell? ⟨ga + 1, 1, none⟩ = some (.slice A' n' c') ∧ w'.cell? ⟨g8, 0, none⟩ = some (.bool t8) ∧ w'.cell? ⟨g8, 1, none⟩ = some (.slice A8 n8 c8) ∧ w'.cell? ⟨g8 + 1, 0, none⟩ = some (.bool t9) ∧ w'.cell? ⟨g8 + 1, 1, none⟩ = some (.slice A9 n9 c9))) 8 (by kernel_rfl) (by kernel_rfl) (by intro c a d v w h; cases d <;> exact h) ⟨cell_dr E.out.bm.c0, cell_dr E.out.bm.c1, cell_dr X8.out.c0, cell_dr X8.out.c1, cell_dr X9.out.c0, cell_dr X9.out.c1⟩ (fun QT hT hP hHeld => ?_)
      simp only [List.extract_toArray, List.extract_eq_take_drop, List.drop_zero, Nat.sub_zero, List.take_succ_cons, List.take_zero]
      have HT := Lib.hid hT
      clear hT
      replace E := Lib.hid (E.out.next (Below.refl wc.heap.size wc).drew)
      replace X8 := Lib.hid (X8.out.next (Below.refl wc.heap.size wc).drew)
      replace X9 := Lib.hid (X9.out.next (Below.refl wc.heap.size wc).drew)
      replace X10 := Lib.hid (X10.out.next (Below.refl wc.heap.size wc).drew)
      replace X11 := Lib.hid (X11.out.next (Below.refl wc.heap.size wc).drew)
      generalize wc.drew = D42 at E X8 X9 X10 X11 hHeld ⊢
      refine take_on (i := 0) (d := (some 46)) (v := ?v10) rfl rfl (by kernel_rfl) (by kernel_rfl) (by kernel_rfl) (fun c a w h => hP c a _ _ w h) (by rfl) ?h10 (by assumption) ?r10
      case h10 => intro w hSw; obtain ⟨h0, h1, h2, h3, h4, h5⟩ := hSw; go_simp; rfl
      simp only [Act.put, List.setIfInBounds_toArray, List.set_cons_zero, List.set_cons_succ]
      refine take_on (i := 1) (d := (some 47)) (v := ?v11) rfl rfl (by kernel_rfl) (by kernel_rfl) (by kernel_rfl) (fun c a w h => hP c a _ _ w h) (by rfl) ?h11 (by assumption) ?r11
      case h11 => intro w hSw; obtain ⟨h0, h1, h2, h3, h4, h5⟩ := hSw; go_simp; rfl
      simp only [Act.put, List.setIfInBounds_toArray, List.set_cons_zero, List.set_cons_succ]
      refine take_on (i := 3) (d := (some 49)) (v := ?v12) rfl rfl (by kernel_rfl) (by kernel_rfl) (by kernel_rfl) (fun c a w h => hP c a _ _ w h) (by rfl) ?h12 (by assumption) ?r12
      case h12 => intro w hSw; obtain ⟨h0, h1, h2, h3, h4, h5⟩ := hSw; go_simp; rfl
      simp only [Act.put, List.setIfInBounds_toArray, List.set_cons_zero, List.set_cons_succ]
      refine take_on (i := 5) (d := (some 51)) (v := ?v13) rfl rfl (by kernel_rfl) (by kernel_rfl) (by kernel_rfl) (fun c a w h => hP c a _ _ w h) (by rfl) ?h13 (by assumption) ?r13
      case h13 => intro w hSw; obtain ⟨h0, h1, h2, h3, h4, h5⟩ := hSw; go_simp; rfl
      simp only [Act.put, List.setIfInBounds_toArray, List.set_cons_zero, List.set_cons_succ]
      refine wpAnyH_ready (rs := [2, 7]) (by kernel_rfl) (by simp) ?_
      refine AllReadyH.cons rfl (fun K hK => ?_) ?_
      ·
        go_simp
        refine (refAdd_c X8.out.is X8.out.is (Nat.le_trans (X8.out.is.len SC.out) (by omega)) (Nat.le_trans (X8.out.is.len SC.out) (by omega))).mono ?_
        rintro e w43 ⟨t50, A50, n50, c50, rfl, i50, hb⟩
        replace E := Lib.hid (E.out.next hb)
        replace X8 := Lib.hid (X8.out.next hb)
        replace X9 := Lib.hid (X9.out.next hb)
        replace X10 := Lib.hid (X10.out.next hb)
        replace X11 := Lib.hid (X11.out.next hb)
        have J0 := Lib.hid (i50)
        clear hb hHeld i50
        refine hK.out _ _ ⟨E.out.bm.c0, E.out.bm.c1, X8.out.c0, X8.out.c1, X9.out.c0, X9.out.c1⟩ (fun hHeld => ?_)
        clear hK K
        refine wpAnyH_ready (rs := [4, 7]) (by kernel_rfl) (by simp) ?_
        refine AllReadyH.cons rfl (fun K hK => ?_) ?_
        ·
          go_simp
          refine (refMul_c J0.out X9.out.is (Nat.le_trans (J0.out.len S2C.out) (by omega)) (Nat.le_trans (X9.out.is.len SP.out) (by omega))).mono ?_
          rintro e w44 ⟨t51, A51, n51, c51, rfl, i51, hb⟩
          replace E := Lib.hid (E.out.next hb)
          replace X8 := Lib.hid (X8.out.next hb)
          replace X9 := Lib.hid (X9.out.next hb)
          replace X10 := Lib.hid (X10.out.next hb)
          replace X11 := Lib.hid (X11.out.next hb)
          replace J0 := Lib.hid (J0.out.below hb)
          have J1 := Lib.hid (i51)
          clear hb hHeld i51
          refine hK.out _ _ ⟨E.out.bm.c0, E.out.bm.c1, X8.out.c0, X8.out.c1, X9.out.c0, X9.out.c1⟩ (fun hHeld => ?_)
          clear hK K
          refine wpAnyH_ready (rs := [6, 7]) (by kernel_rfl) (by simp) ?_
          refine AllReadyH.cons rfl (fun K hK => ?_) ?_
          ·
            go_simp
            refine (rest_c J1.out E.out.bm.is HM.out.2 (Nat.le_trans (J1.out.len SV.out) (by omega)) (Nat.le_trans (E.out.bm.is.len HS.out.2) (by omega))).mono ?_
            rintro e w45 ⟨t52, A52, n52, c52, rfl, i52, hb⟩
            replace E := Lib.hid (E.out.next hb)
            replace X8 := Lib.hid (X8.out.next hb)
            replace X9 := Lib.hid (X9.out.next hb)
            replace X10 := Lib.hid (X10.out.next hb)
            replace X11 := Lib.hid (X11.out.next hb)
            replace J0 := Lib.hid (J0.out.below hb)
            replace J1 := Lib.hid (J1.out.below hb)
            have J2 := Lib.hid (i52)
            clear hb hHeld i52
            refine hK.out _ _ ⟨E.out.bm.c0, E.out.bm.c1, X8.out.c0, X8.out.c1, X9.out.c0, X9.out.c1⟩ (fun hHeld => ?_)
            clear hK K
            refine wpAnyH_ready (rs := [7]) (by kernel_rfl) (by simp) ?_
            refine AllReadyH.cons rfl (fun K hK => ?_) AllReadyH.nil
            go_simp
            clear hHeld
            have V12 := Lib.hid (Nvr.new (is_zero8 w45))
            have lX8 := X8.out.lt
            have lX9 := X9.out.lt
            have lX10 := X10.out.lt
            have lX11 := X11.out.lt
            replace E := Lib.hid (E.out.next (below_alloc _ (.cells #[.bool false, .slice none 0 0] 24)))
            replace X8 := Lib.hid (X8.out.next (below_alloc _ (.cells #[.bool false, .slice none 0 0] 24)))
            replace X9 := Lib.hid (X9.out.next (below_alloc _ (.cells #[.bool false, .slice none 0 0] 24)))
            replace X10 := Lib.hid (X10.out.next (below_alloc _ (.cells #[.bool false, .slice none 0 0] 24)))
            replace X11 := Lib.hid (X11.out.next (below_alloc _ (.cells #[.bool false, .slice none 0 0] 24)))
            replace J0 := Lib.hid (J0.out.below (below_alloc _ (.cells #[.bool false, .slice none 0 0] 24)))
            replace J1 := Lib.hid (J1.out.below (below_alloc _ (.cells #[.bool false, .slice none 0 0] 24)))
            replace J2 := Lib.hid (J2.out.below (below_alloc _ (.cells #[.bool false, .slice none 0 0] 24)))
            skip
            generalize w45.alloc (.cells #[.bool false, .slice none 0 0] 24) = y46 at E X8 X9 X10 X11 J0 J1 J2 V12 ⊢
            generalize w45.heap.size = gV12 at V12 lX8 lX9 lX10 lX11 ⊢
            refine hK.out _ _ ⟨E.out.bm.c0, E.out.bm.c1, X8.out.c0, X8.out.c1, X9.out.c0, X9.out.c1⟩ (fun hHeld => ?_)
            clear hK K
            clear hHeld
            refine wpAnyH_done (by kernel_rfl) ?_ _
            refine HT.out _ _ ?_
            clear HT hP QT
            have p0 := V12.out.c0
            have p1 := V12.out.c1
            have p2 := V12.out.f0
            have p3 := V12.out.f1
            refine wpList_step fun K hK => ?_
            go_simp
            refine hK _ _ ?_
            clear hK K
            refine wpList_nil ?_
            have J6 := J2.out
            rw [even_psi] at J6
            have hl1 := HL.out
            have hl2 := HL10.out
            go_wp2
            go_meet
            exact ⟨gV12, _, _, _, _, rfl, by omega, E.out.far (by omega) p0 p1 _ _ _ _, X10.out.far (by omega) p0 p1 _ _, X11.out.far (by omega) p0 p1 _ _, V12.out.put J6⟩
          refine AllReadyH.cons rfl (fun K hK => ?_) ?_
          ·
            go_simp
            clear hHeld
            have V12 := Lib.hid (Nvr.new (is_zero8 w44))
            have lX8 := X8.out.lt
            have lX9 := X9.out.lt
            have lX10 := X10.out.lt
            have lX11 := X11.out.lt
            replace E := Lib.hid (E.out.next (below_alloc _ (.cells #[.bool false, .slice none 0 0] 24)))
            replace X8 := Lib.hid (X8.out.next (below_alloc _ (.cells #[.bool false, .slice none 0 0] 24)))
            replace X9 := Lib.hid (X9.out.next (below_alloc _ (.cells #[.bool false, .slice none 0 0] 24)))
            replace X10 := Lib.hid (X10.out.next (below_alloc _ (.cells #[.bool false, .slice none 0 0] 24)))
            replace X11 := Lib.hid (X11.out.next (below_alloc _ (.cells #[.bool false, .slice none 0 0] 24)))
            replace J0 := Lib.hid (J0.out.below (below_alloc _ (.cells #[.bool false, .slice none 0 0] 24)))
            replace J1 := Lib.hid (J1.out.below (below_alloc _ (.cells #[.bool false, .slice none 0 0] 24)))
            skip
            generalize w44.alloc (.cells #[.bool false, .slice none 0 0] 24) = y47 at E X8 X9 X10 X11 J0 J1 V12 ⊢
            generalize w44.heap.size = gV12 at V12 lX8 lX9 lX10 lX11 ⊢
            refine hK.out _ _ ⟨E.out.bm.c0, E.out.bm.c1, X8.out.c0, X8.out.c1, X9.out.c0, X9.out.c1⟩ (fun hHeld => ?_)
            clear hK K
            refine wpAnyH_ready (rs := [6]) (by kernel_rfl) (by simp) ?_
            refine AllReadyH.cons rfl (fun K hK => ?_) AllReadyH.nil
            go_simp
            refine (rest_c J1.out E.out.bm.is HM.out.2 (Nat.le_trans (J1.out.len SV.out) (by omega)) (Nat.le_trans (E.out.bm.is.len HS.out.2) (by omega))).mono ?_
            rintro e w48 ⟨t52, A52, n52, c52, rfl, i52, hb⟩
            replace E := Lib.hid (E.out.next hb)
            replace X8 := Lib.hid (X8.out.next hb)
            replace X9 := Lib.hid (X9.out.next hb)
            replace X10 := Lib.hid (X10.out.next hb)
            replace X11 := Lib.hid (X11.out.next hb)
            replace J0 := Lib.hid (J0.out.below hb)
            replace J1 := Lib.hid (J1.out.below hb)
            replace V12 := Lib.hid (V12.out.next hb)
            have J2 := Lib.hid (i52)
            clear hb hHeld i52
            refine hK.out _ _ ⟨E.out.bm.c0, E.out.bm.c1, X8.out.c0, X8.out.c1, X9.out.c0, X9.out.c1⟩ (fun hHeld => ?_)
            clear hK K
            clear hHeld
            refine wpAnyH_done (by kernel_rfl) ?_ _
            refine HT.out _ _ ?_
            clear HT hP QT
            have p0 := V12.out.c0
            have p1 := V12.out.c1
            have p2 := V12.out.f0
            have p3 := V12.out.f1
            refine wpList_step fun K hK => ?_
            go_simp
            refine hK _ _ ?_
            clear hK K
            refine wpList_nil ?_
            have J6 := J2.out
            rw [even_psi] at J6
            have hl1 := HL.out
            have hl2 := HL10.out
            go_wp2
            go_meet
            exact ⟨gV12, _, _, _, _, rfl, by omega, E.out.far (by omega) p0 p1 _ _ _ _, X10.out.far (by omega) p0 p1 _ _, X11.out.far (by omega) p0 p1 _ _, V12.out.put J6⟩
          exact AllReadyH.nil
        refine AllReadyH.cons rfl (fun K hK => ?_) ?_
        ·
          go_simp
          clear hHeld
          have V12 := Lib.hid (Nvr.new (is_zero8 w43))
          have lX8 := X8.out.lt
          have lX9 := X9.out.lt
          have lX10 := X10.out.lt
          have lX11 := X11.out.lt
          replace E := Lib.hid (E.out.next (below_alloc _ (.cells #[.bool false, .slice none 0 0] 24)))
          replace X8 := Lib.hid (X8.out.next (below_alloc _ (.cells #[.bool false, .slice none 0 0] 24)))
          replace X9 := Lib.hid (X9.out.next (below_alloc _ (.cells #[.bool false, .slice none 0 0] 24)))
          replace X10 := Lib.hid (X10.out.next (below_alloc _ (.cells #[.bool false, .slice none 0 0] 24)))
          replace X11 := Lib.hid (X11.out.next (below_alloc _ (.cells #[.bool false, .slice none 0 0] 24)))
          replace J0 := Lib.hid (J0.out.below (below_alloc _ (.cells #[.bool false, .slice none 0 0] 24)))
          skip
          generalize w43.alloc (.cells #[.bool false, .slice none 0 0] 24) = y49 at E X8 X9 X10 X11 J0 V12 ⊢
          generalize w43.heap.size = gV12 at V12 lX8 lX9 lX10 lX11 ⊢
          refine hK.out _ _ ⟨E.out.bm.c0, E.out.bm.c1, X8.out.c0, X8.out.c1, X9.out.c0, X9.out.c1⟩ (fun hHeld => ?_)
          clear hK K
          refine wpAnyH_ready (rs := [4]) (by kernel_rfl) (by simp) ?_
          refine AllReadyH.cons rfl (fun K hK => ?_) AllReadyH.nil
          go_simp
          refine (refMul_c J0.out X9.out.is (Nat.le_trans (J0.out.len S2C.out) (by omega)) (Nat.le_trans (X9.out.is.len SP.out) (by omega))).mono ?_
          rintro e w50 ⟨t51, A51, n51, c51, rfl, i51, hb⟩
          replace E := Lib.hid (E.out.next hb)
          replace X8 := Lib.hid (X8.out.next hb)
          replace X9 := Lib.hid (X9.out.next hb)
          replace X10 := Lib.hid (X10.out.next hb)
          replace X11 := Lib.hid (X11.out.next hb)
          replace J0 := Lib.hid (J0.out.below hb)
          replace V12 := Lib.hid (V12.out.next hb)
          have J1 := Lib.hid (i51)
          clear hb hHeld i51
          refine hK.out _ _ ⟨E.out.bm.c0, E.out.bm.c1, X8.out.c0, X8.out.c1, X9.out.c0, X9.out.c1⟩ (fun hHeld => ?_)
          clear hK K
          refine wpAnyH_ready (rs := [6]) (by kernel_rfl) (by simp) ?_
          refine AllReadyH.cons rfl (fun K hK => ?_) AllReadyH.nil
          go_simp
          refine (rest_c J1.out E.out.bm.is HM.out.2 (Nat.le_trans (J1.out.len SV.out) (by omega)) (Nat.le_trans (E.out.bm.is.len HS.out.2) (by omega))).mono ?_
          rintro e w51 ⟨t52, A52, n52, c52, rfl, i52, hb⟩
          replace E := Lib.hid (E.out.next hb)
          replace X8 := Lib.hid (X8.out.next hb)
          replace X9 := Lib.hid (X9.out.next hb)
          replace X10 := Lib.hid (X10.out.next hb)
          replace X11 := Lib.hid (X11.out.next hb)
          replace J0 := Lib.hid (J0.out.below hb)
          replace V12 := Lib.hid (V12.out.next hb)
          replace J1 := Lib.hid (J1.out.below hb)
          have J2 := Lib.hid (i52)
          clear hb hHeld i52
          refine hK.out _ _ ⟨E.out.bm.c0, E.out.bm.c1, X8.out.c0, X8.out.c1, X9.out.c0, X9.out.c1⟩ (fun hHeld => ?_)
          clear hK K
          clear hHeld
          refine wpAnyH_done (by kernel_rfl) ?_ _
          refine HT.out _ _ ?_
          clear HT hP QT
          have p0 := V12.out.c0
          have p1 := V12.out.c1
          have p2 := V12.out.f0
          have p3 := V12.out.f1
          refine wpList_step fun K hK => ?_
          go_simp
          refine hK _ _ ?_
          clear hK K
          refine wpList_nil ?_
          have J6 := J2.out
          rw [even_psi] at J6
          have hl1 := HL.out
          have hl2 := HL10.out
          go_wp2
          go_meet
          exact ⟨gV12, _, _, _, _, rfl, by omega, E.out.far (by omega) p0 p1 _ _ _ _, X10.out.far (by omega) p0 p1 _ _, X11.out.far (by omega) p0 p1 _ _, V12.out.put J6⟩
        exact AllReadyH.nil
      refine AllReadyH.cons rfl (fun K hK => ?_) ?_
      ·
        go_simp
        clear hHeld
        have V12 := Lib.hid (Nvr.new (is_zero8 D42))
        have lX8 := X8.out.lt
        have lX9 := X9.out.lt
        have lX10 := X10.out.lt
        have lX11 := X11.out.lt
        replace E := Lib.hid (E.out.next (below_alloc _ (.cells #[.bool false, .slice none 0 0] 24)))
        replace X8 := Lib.hid (X8.out.next (below_alloc _ (.cells #[.bool false, .slice none 0 0] 24)))
        replace X9 := Lib.hid (X9.out.next (below_alloc _ (.cells #[.bool false, .slice none 0 0] 24)))
        replace X10 := Lib.hid (X10.out.next (below_alloc _ (.cells #[.bool false, .slice none 0 0] 24)))
        replace X11 := Lib.hid (X11.out.next (below_alloc _ (.cells #[.bool false, .slice none 0 0] 24)))
        skip
        generalize D42.alloc (.cells #[.bool false, .slice none 0 0] 24) = y52 at E X8 X9 X10 X11 V12 ⊢
        generalize D42.heap.size = gV12 at V12 lX8 lX9 lX10 lX11 ⊢
        refine hK.out _ _ ⟨E.out.bm.c0, E.out.bm.c1, X8.out.c0, X8.out.c1, X9.out.c0, X9.out.c1⟩ (fun hHeld => ?_)
        clear hK K
        refine wpAnyH_ready (rs := [2]) (by kernel_rfl) (by simp) ?_
        refine AllReadyH.cons rfl (fun K hK => ?_) AllReadyH.nil
        go_simp
        refine (refAdd_c X8.out.is X8.out.is (Nat.le_trans (X8.out.is.len SC.out) (by omega)) (Nat.le_trans (X8.out.is.len SC.out) (by omega))).mono ?_
        rintro e w53 ⟨t50, A50, n50, c50, rfl, i50, hb⟩
        replace E := Lib.hid (E.out.next hb)
        replace X8 := Lib.hid (X8.out.next hb)
        replace X9 := Lib.hid (X9.out.next hb)
        replace X10 := Lib.hid (X10.out.next hb)
        replace X11 := Lib.hid (X11.out.next hb)
        replace V12 := Lib.hid (V12.out.next hb)
        have J0 := Lib.hid (i50)
        clear hb hHeld i50
        refine hK.out _ _ ⟨E.out.bm.c0, E.out.bm.c1, X8.out.c0, X8.out.c1, X9.out.c0, X9.out.c1⟩ (fun hHeld => ?_)
        clear hK K
        refine wpAnyH_ready (rs := [4]) (by kernel_rfl) (by simp) ?_
        refine AllReadyH.cons rfl (fun K hK => ?_) AllReadyH.nil
        go_simp
        refine (refMul_c J0.out X9.out.is (Nat.le_trans (J0.out.len S2C.out) (by omega)) (Nat.le_trans (X9.out.is.len SP.out) (by omega))).mono ?_
        rintro e w54 ⟨t51, A51, n51, c51, rfl, i51, hb⟩
        replace E := Lib.hid (E.out.next hb)
        replace X8 := Lib.hid (X8.out.next hb)
        replace X9 := Lib.hid (X9.out.next hb)
        replace X10 := Lib.hid (X10.out.next hb)
        replace X11 := Lib.hid (X11.out.next hb)
        replace V12 := Lib.hid (V12.out.next hb)
        replace J0 := Lib.hid (J0.out.below hb)
        have J1 := Lib.hid (i51)
        clear hb hHeld i51
        refine hK.out _ _ ⟨E.out.bm.c0, E.out.bm.c1, X8.out.c0, X8.out.c1, X9.out.c0, X9.out.c1⟩ (fun hHeld => ?_)
        clear hK K
        refine wpAnyH_ready (rs := [6]) (by kernel_rfl) (by simp) ?_
        refine AllReadyH.cons rfl (fun K hK => ?_) AllReadyH.nil
        go_simp
        refine (rest_c J1.out E.out.bm.is HM.out.2 (Nat.le_trans (J1.out.len SV.out) (by omega)) (Nat.le_trans (E.out.bm.is.len HS.out.2) (by omega))).mono ?_
        rintro e w55 ⟨t52, A52, n52, c52, rfl, i52, hb⟩
        replace E := Lib.hid (E.out.next hb)
        replace X8 := Lib.hid (X8.out.next hb)
        replace X9 := Lib.hid (X9.out.next hb)
        replace X10 := Lib.hid (X10.out.next hb)
        replace X11 := Lib.hid (X11.out.next hb)
        replace V12 := Lib.hid (V12.out.next hb)
        replace J0 := Lib.hid (J0.out.below hb)
        replace J1 := Lib.hid (J1.out.below hb)
        have J2 := Lib.hid (i52)
        clear hb hHeld i52
        refine hK.out _ _ ⟨E.out.bm.c0, E.out.bm.c1, X8.out.c0, X8.out.c1, X9.out.c0, X9.out.c1⟩ (fun hHeld => ?_)
        clear hK K
        clear hHeld
        refine wpAnyH_done (by kernel_rfl) ?_ _
        refine HT.out _ _ ?_
        clear HT hP QT
        have p0 := V12.out.c0
        have p1 := V12.out.c1
        have p2 := V12.out.f0
        have p3 := V12.out.f1
        refine wpList_step fun K hK => ?_
        go_simp
        refine hK _ _ ?_
        clear hK K
        refine wpList_nil ?_
        have J6 := J2.out
        rw [even_psi] at J6
        have hl1 := HL.out
        have hl2 := HL10.out
        go_wp2
        go_meet
        exact ⟨gV12, _, _, _, _, rfl, by omega, E.out.far (by omega) p0 p1 _ _ _ _, X10.out.far (by omega) p0 p1 _ _, X11.out.far (by omega) p0 p1 _ _, V12.out.put J6⟩
      exact AllReadyH.nil
    case rest =>
      obtain ⟨g12, t12, A12, n12, c12, rfl, l1, h1, h2, h3, h4⟩ := hcut
      clear E X8 X9 X10 X11
      have E := Lib.hid h1
      have X10 := Lib.hid h2
      have X11 := Lib.hid h3
      have X12 := Lib.hid h4
      have HL12 := Lib.hid (And.intro HL11.out l1)
      clear l1 h1 h2 h3 h4 HL10 HL11 HL SU SV S2C SDP SCC SPP SDM SP SC SA
      rcases HP.out with hp | hp
      · have t1 : decide (Ki % 2 = 0) = true := decide_eq_true hp
        have HN2 := Lib.hid (show N = 2 * k by have h1 := HK.out.1; have h2 := HK.out.2; omega)
        have p0 := X11.out.c0
        have p1 := X11.out.c1
        have q0 := X12.out.c0
        have q1 := X12.out.c1
        have r0 := E.out.r6.c0
        have r1 := E.out.r6.c1
        have r2 := E.out.r6.f0
        have r3 := E.out.r6.f1
        have s0 := E.out.r7.c0
        have s1 := E.out.r7.c1
        have s2 := E.out.r7.f0
        have s3 := E.out.r7.f1
        have hg1 := HL12.out.1
        have hg2 := HL12.out.2
        have f1 : ¬ ga + 1 + 1 = g11 := by omega
        have f2 : ¬ ga + 1 + 1 + 1 = g11 := by omega
        have f3 : ¬ ga + 1 + 1 = g12 := by omega
        have f4 : ¬ ga + 1 + 1 + 1 = g12 := by omega
        have f5 : ¬ ga + 1 + 1 = ga + 1 + 1 + 1 := by omega
        have f6 : ¬ ga + 1 + 1 + 1 = ga + 1 + 1 := by omega
        clear hg1 hg2
        go_wp2
        go_region
        go_wp2
        generalize hX : (((wc.setCell ⟨ga + 1 + 1, 0, none⟩ (.bool t11)).setCell ⟨ga + 1 + 1, 1, none⟩ (.slice A11 n11 c11)).setCell ⟨ga + 1 + 1 + 1, 0, none⟩ (.bool t12)).setCell ⟨ga + 1 + 1 + 1, 1, none⟩ (.slice A12 n12 c12) = X
        obtain ⟨y0, y1, y2, y3, v1, v2, v3⟩ := two_res E.out.r6 E.out.r7 (by omega) X11.out.is X12.out.is E.out.below (by have := E.out.ge; omega) (by have := E.out.ge; omega) hX
        replace y0 := cell_dr y0
        replace y1 := cell_dr y1
        replace y2 := cell_dr y2
        replace y3 := cell_dr y3
        refine bodyPost_ret (v := .tuple #[.agg #[.bool t11, .slice A11 n11 c11], .agg #[.bool t12, .slice A12 n12 c12]]) (by simp [results, Try.results28, go_sem, y0, y1, y2, y3]) rfl ?_
        exact ⟨_, _, _, _, _, _, _, _, rfl, v3.trans ((Below.refl _ _).drew.mono v3.size), by rw [HN2.out]; exact v1.below (Below.refl _ _).drew, by rw [HN2.out]; exact v2.below (Below.refl _ _).drew⟩
      · have t1 : decide (Ki % 2 = 0) = false := decide_eq_false (by omega)
        have HN2 := Lib.hid (show N = 2 * k + 1 by have h1 := HK.out.1; have h2 := HK.out.2; omega)
        have hp2 : ¬ Ki % 2 = 0 := by omega
        clear hp
        have a0 := E.out.ba.c0
        have a1 := E.out.ba.c1
        have b0 := E.out.bm.c0
        have b1 := E.out.bm.c1
        go_wp2_with fail
        refine (rest_c E.out.ba.is E.out.bm.is HM.out.2 (Nat.le_trans (E.out.ba.is.len HS.out.1) (by omega)) (Nat.le_trans (E.out.bm.is.len HS.out.2) (by omega))).mono ?_
        rintro e w56 ⟨t53, A53, n53, c53, rfl, i53, hb⟩
        replace E := Lib.hid (E.out.next hb)
        replace X10 := Lib.hid (X10.out.next hb)
        replace X11 := Lib.hid (X11.out.next hb)
        replace X12 := Lib.hid (X12.out.next hb)
        clear hb
        clear a0 a1 b0 b1
        have X13 := Lib.hid (Nvr.new i53)
        replace E := Lib.hid (E.out.next (below_alloc _ (.cells #[.bool t53, .slice A53 n53 c53] 24)))
        replace X10 := Lib.hid (X10.out.next (below_alloc _ (.cells #[.bool t53, .slice A53 n53 c53] 24)))
        replace X11 := Lib.hid (X11.out.next (below_alloc _ (.cells #[.bool t53, .slice A53 n53 c53] 24)))
        replace X12 := Lib.hid (X12.out.next (below_alloc _ (.cells #[.bool t53, .slice A53 n53 c53] 24)))
        clear i53
        go_upto_region 10 with (fail)
        generalize w56.alloc (.cells #[.bool t53, .slice A53 n53 c53] 24) = W5 at E X10 X11 X12 X13 ⊢
        generalize w56.heap.size = g13 at X13 ⊢
        refine wp_region_tail (S := (fun w' => w'.cell? ⟨ga + 1, 0, none⟩ = some (.bool t') ∧ w'.cell? ⟨ga + 1, 1, none⟩ = some (.slice A' n' c') ∧ w'.cell? ⟨g10, 0, none⟩ = some (.bool t32) ∧ w'.cell? ⟨g10, 1, none⟩ = some (.slice A32 n32 c32) ∧ w'.cell? ⟨g11, 0, none⟩ = some (.bool t11) ∧ w'.cell? ⟨g11, 1, none⟩ = some (.slice A11 n11 c11) ∧ w'.cell? ⟨g12, 0, none⟩ = some (.bool t12) ∧ w'.cell? ⟨g12, 1, none⟩ = some (.slice A12 n12 c12) ∧ w'.cell? ⟨g13, 0, none⟩ = some (.bool t53) ∧ w'.cell? ⟨g13, 1, none⟩ = some (.slice A53 n53 c53))) 18 (by kernel_rfl) (by kernel_rfl) (by intro c a d v w h; cases d <;> exact h) ⟨cell_dr E.out.bm.c0, cell_dr E.out.bm.c1, cell_dr X10.out.c0, cell_dr X10.out.c1, cell_dr X11.out.c0, cell_dr X11.out.c1, cell_dr X12.out.c0, cell_dr X12.out.c1, cell_dr X13.out.c0, cell_dr X13.out.c1⟩ (fun QT hT hP hHeld => ?_)
        simp only [List.extract_toArray, List.extract_eq_take_drop, List.drop_zero, Nat.sub_zero, List.take_succ_cons, List.take_zero]
        have HT := Lib.hid hT
        clear hT
        replace E := Lib.hid (E.out.next (Below.refl W5.heap.size W5).drew)
        replace X10 := Lib.hid (X10.out.next (Below.refl W5.heap.size W5).drew)
        replace X11 := Lib.hid (X11.out.next (Below.refl W5.heap.size W5).drew)
        replace X12 := Lib.hid (X12.out.next (Below.refl W5.heap.size W5).drew)
        replace X13 := Lib.hid (X13.out.next (Below.refl W5.heap.size W5).drew)
        generalize W5.drew = D57 at E X10 X11 X12 X13 hHeld ⊢
        refine take_on (i := 0) (d := (some 61)) (v := ?v14) rfl rfl (by kernel_rfl) (by kernel_rfl) (by kernel_rfl) (fun c a w h => hP c a _ _ w h) (by rfl) ?h14 (by assumption) ?r14
        case h14 => intro w hSw; obtain ⟨h0, h1, h2, h3, h4, h5, h6, h7, h8, h9⟩ := hSw; go_simp; rfl
        simp only [Act.put, List.setIfInBounds_toArray, List.set_cons_zero, List.set_cons_succ]
        refine take_on (i := 1) (d := (some 62)) (v := ?v15) rfl rfl (by kernel_rfl) (by kernel_rfl) (by kernel_rfl) (fun c a w h => hP c a _ _ w h) (by rfl) ?h15 (by assumption) ?r15
        case h15 => intro w hSw; obtain ⟨h0, h1, h2, h3, h4, h5, h6, h7, h8, h9⟩ := hSw; go_simp; rfl
        simp only [Act.put, List.setIfInBounds_toArray, List.set_cons_zero, List.set_cons_succ]
        refine take_on (i := 3) (d := (some 64)) (v := ?v16) rfl rfl (by kernel_rfl) (by kernel_rfl) (by kernel_rfl) (fun c a w h => hP c a _ _ w h) (by rfl) ?h16 (by assumption) ?r16
        case h16 => intro w hSw; obtain ⟨h0, h1, h2, h3, h4, h5, h6, h7, h8, h9⟩ := hSw; go_simp; rfl
        simp only [Act.put, List.setIfInBounds_toArray, List.set_cons_zero, List.set_cons_succ]
        refine take_on (i := 4) (d := (some 65)) (v := ?v17) rfl rfl (by kernel_rfl) (by kernel_rfl) (by kernel_rfl) (fun c a w h => hP c a _ _ w h) (by rfl) ?h17 (by assumption) ?r17
        case h17 => intro w hSw; obtain ⟨h0, h1, h2, h3, h4, h5, h6, h7, h8, h9⟩ := hSw; go_simp; rfl
        simp only [Act.put, List.setIfInBounds_toArray, List.set_cons_zero, List.set_cons_succ]
        refine take_on (i := 6) (d := (some 67)) (v := ?v18) rfl rfl (by kernel_rfl) (by kernel_rfl) (by kernel_rfl) (fun c a w h => hP c a _ _ w h) (by rfl) ?h18 (by assumption) ?r18
        case h18 => intro w hSw; obtain ⟨h0, h1, h2, h3, h4, h5, h6, h7, h8, h9⟩ := hSw; go_simp; rfl
        simp only [Act.put, List.setIfInBounds_toArray, List.set_cons_zero, List.set_cons_succ]
        refine take_on (i := 9) (d := (some 70)) (v := ?v19) rfl rfl (by kernel_rfl) (by kernel_rfl) (by kernel_rfl) (fun c a w h => hP c a _ _ w h) (by rfl) ?h19 (by assumption) ?r19
        case h19 => intro w hSw; obtain ⟨h0, h1, h2, h3, h4, h5, h6, h7, h8, h9⟩ := hSw; go_simp; rfl
        simp only [Act.put, List.setIfInBounds_toArray, List.set_cons_zero, List.set_cons_succ]
        refine take_on (i := 11) (d := (some 72)) (v := ?v20) rfl rfl (by kernel_rfl) (by kernel_rfl) (by kernel_rfl) (fun c a w h => hP c a _ _ w h) (by rfl) ?h20 (by assumption) ?r20
        case h20 => intro w hSw; obtain ⟨h0, h1, h2, h3, h4, h5, h6, h7, h8, h9⟩ := hSw; go_simp; rfl
        simp only [Act.put, List.setIfInBounds_toArray, List.set_cons_zero, List.set_cons_succ]
        refine take_on (i := 12) (d := (some 73)) (v := ?v21) rfl rfl (by kernel_rfl) (by kernel_rfl) (by kernel_rfl) (fun c a w h => hP c a _ _ w h) (by rfl) ?h21 (by assumption) ?r21
        case h21 => intro w hSw; obtain ⟨h0, h1, h2, h3, h4, h5, h6, h7, h8, h9⟩ := hSw; go_simp; rfl
        simp only [Act.put, List.setIfInBounds_toArray, List.set_cons_zero, List.set_cons_succ]
        refine take_on (i := 13) (d := (some 74)) (v := ?v22) rfl rfl (by kernel_rfl) (by kernel_rfl) (by kernel_rfl) (fun c a w h => hP c a _ _ w h) (by rfl) ?h22 (by assumption) ?r22
        case h22 => intro w hSw; obtain ⟨h0, h1, h2, h3, h4, h5, h6, h7, h8, h9⟩ := hSw; go_simp; rfl
        simp only [Act.put, List.setIfInBounds_toArray, List.set_cons_zero, List.set_cons_succ]
        refine take_on (i := 16) (d := (some 77)) (v := ?v23) rfl rfl (by kernel_rfl) (by kernel_rfl) (by kernel_rfl) (fun c a w h => hP c a _ _ w h) (by rfl) ?h23 (by assumption) ?r23
        case h23 => intro w hSw; obtain ⟨h0, h1, h2, h3, h4, h5, h6, h7, h8, h9⟩ := hSw; go_simp; rfl
        simp only [Act.put, List.setIfInBounds_toArray, List.set_cons_zero, List.set_cons_succ]
        refine wpAnyH_ready (rs := [2]) (by kernel_rfl) (by simp) ?_
        refine AllReadyH.cons rfl (fun K hK => ?_) AllReadyH.nil
        go_simp
        refine (refMul_c X13.out.is X11.out.is (Nat.le_trans (X13.out.is.len (sz_rest HM.out.1 HS.out.2)) (by omega)) (Nat.le_trans (X11.out.is.len (sz_rest HM.out.1 HS.out.2)) (by omega))).mono ?_
        rintro e w58 ⟨t60, A60, n60, c60, rfl, i60, hb⟩
        replace E := Lib.hid (E.out.next hb)
        replace X10 := Lib.hid (X10.out.next hb)
        replace X11 := Lib.hid (X11.out.next hb)
        replace X12 := Lib.hid (X12.out.next hb)
        replace X13 := Lib.hid (X13.out.next hb)
        have J0 := Lib.hid (i60)
        clear hb hHeld i60
        refine hK.out _ _ ⟨E.out.bm.c0, E.out.bm.c1, X10.out.c0, X10.out.c1, X11.out.c0, X11.out.c1, X12.out.c0, X12.out.c1, X13.out.c0, X13.out.c1⟩ (fun hHeld => ?_)
        clear hK K
        refine wpAnyH_ready (rs := [5]) (by kernel_rfl) (by simp) ?_
        refine AllReadyH.cons rfl (fun K hK => ?_) AllReadyH.nil
        go_simp
        refine (rest_c X10.out.is E.out.bm.is HM.out.2 (Nat.le_trans (X10.out.is.len SD.out) (by omega)) (Nat.le_trans (E.out.bm.is.len HS.out.2) (by omega))).mono ?_
        rintro e w59 ⟨t61, A61, n61, c61, rfl, i61, hb⟩
        replace E := Lib.hid (E.out.next hb)
        replace X10 := Lib.hid (X10.out.next hb)
        replace X11 := Lib.hid (X11.out.next hb)
        replace X12 := Lib.hid (X12.out.next hb)
        replace X13 := Lib.hid (X13.out.next hb)
        replace J0 := Lib.hid (J0.out.below hb)
        have J1 := Lib.hid (i61)
        clear hb hHeld i61
        refine hK.out _ _ ⟨E.out.bm.c0, E.out.bm.c1, X10.out.c0, X10.out.c1, X11.out.c0, X11.out.c1, X12.out.c0, X12.out.c1, X13.out.c0, X13.out.c1⟩ (fun hHeld => ?_)
        clear hK K
        refine wpAnyH_ready (rs := [7]) (by kernel_rfl) (by simp) ?_
        refine AllReadyH.cons rfl (fun K hK => ?_) AllReadyH.nil
        go_simp
        refine (refMul_c J1.out X12.out.is (Nat.le_trans (J1.out.len (sz_rest HM.out.1 HS.out.2)) (by omega)) (Nat.le_trans (X12.out.is.len (sz_rest HM.out.1 HS.out.2)) (by omega))).mono ?_
        rintro e w60 ⟨t62, A62, n62, c62, rfl, i62, hb⟩
        replace E := Lib.hid (E.out.next hb)
        replace X10 := Lib.hid (X10.out.next hb)
        replace X11 := Lib.hid (X11.out.next hb)
        replace X12 := Lib.hid (X12.out.next hb)
        replace X13 := Lib.hid (X13.out.next hb)
        replace J0 := Lib.hid (J0.out.below hb)
        replace J1 := Lib.hid (J1.out.below hb)
        have J2 := Lib.hid (i62)
        clear hb hHeld i62
        refine hK.out _ _ ⟨E.out.bm.c0, E.out.bm.c1, X10.out.c0, X10.out.c1, X11.out.c0, X11.out.c1, X12.out.c0, X12.out.c1, X13.out.c0, X13.out.c1⟩ (fun hHeld => ?_)
        clear hK K
        refine wpAnyH_ready (rs := [8]) (by kernel_rfl) (by simp) ?_
        refine AllReadyH.cons rfl (fun K hK => ?_) AllReadyH.nil
        go_simp
        refine (refAdd_c J0.out J2.out (Nat.le_trans (J0.out.len ((sz_rest HM.out.1 HS.out.2).mul (sz_rest HM.out.1 HS.out.2))) (by omega)) (Nat.le_trans (J2.out.len ((sz_rest HM.out.1 HS.out.2).mul (sz_rest HM.out.1 HS.out.2))) (by omega))).mono ?_
        rintro e w61 ⟨t63, A63, n63, c63, rfl, i63, hb⟩
        replace E := Lib.hid (E.out.next hb)
        replace X10 := Lib.hid (X10.out.next hb)
        replace X11 := Lib.hid (X11.out.next hb)
        replace X12 := Lib.hid (X12.out.next hb)
        replace X13 := Lib.hid (X13.out.next hb)
        replace J0 := Lib.hid (J0.out.below hb)
        replace J1 := Lib.hid (J1.out.below hb)
        replace J2 := Lib.hid (J2.out.below hb)
        have J3 := Lib.hid (i63)
        clear hb hHeld i63
        refine hK.out _ _ ⟨E.out.bm.c0, E.out.bm.c1, X10.out.c0, X10.out.c1, X11.out.c0, X11.out.c1, X12.out.c0, X12.out.c1, X13.out.c0, X13.out.c1⟩ (fun hHeld => ?_)
        clear hK K
        refine wpAnyH_ready (rs := [10]) (by kernel_rfl) (by simp) ?_
        refine AllReadyH.cons rfl (fun K hK => ?_) AllReadyH.nil
        go_simp
        refine (rest_c J3.out E.out.bm.is HM.out.2 (Nat.le_trans (J3.out.len (((sz_rest HM.out.1 HS.out.2).mul (sz_rest HM.out.1 HS.out.2)).add ((sz_rest HM.out.1 HS.out.2).mul (sz_rest HM.out.1 HS.out.2)))) (by omega)) (Nat.le_trans (E.out.bm.is.len HS.out.2) (by omega))).mono ?_
        rintro e w62 ⟨t64, A64, n64, c64, rfl, i64, hb⟩
        replace E := Lib.hid (E.out.next hb)
        replace X10 := Lib.hid (X10.out.next hb)
        replace X11 := Lib.hid (X11.out.next hb)
        replace X12 := Lib.hid (X12.out.next hb)
        replace X13 := Lib.hid (X13.out.next hb)
        replace J0 := Lib.hid (J0.out.below hb)
        replace J1 := Lib.hid (J1.out.below hb)
        replace J2 := Lib.hid (J2.out.below hb)
        replace J3 := Lib.hid (J3.out.below hb)
        have J4 := Lib.hid (i64)
        clear hb hHeld i64
        refine hK.out _ _ ⟨E.out.bm.c0, E.out.bm.c1, X10.out.c0, X10.out.c1, X11.out.c0, X11.out.c1, X12.out.c0, X12.out.c1, X13.out.c0, X13.out.c1⟩ (fun hHeld => ?_)
        clear hK K
        refine wpAnyH_ready (rs := [14]) (by kernel_rfl) (by simp) ?_
        refine AllReadyH.cons rfl (fun K hK => ?_) AllReadyH.nil
        go_simp
        refine (refMul_c X13.out.is X12.out.is (Nat.le_trans (X13.out.is.len (sz_rest HM.out.1 HS.out.2)) (by omega)) (Nat.le_trans (X12.out.is.len (sz_rest HM.out.1 HS.out.2)) (by omega))).mono ?_
        rintro e w63 ⟨t65, A65, n65, c65, rfl, i65, hb⟩
        replace E := Lib.hid (E.out.next hb)
        replace X10 := Lib.hid (X10.out.next hb)
        replace X11 := Lib.hid (X11.out.next hb)
        replace X12 := Lib.hid (X12.out.next hb)
        replace X13 := Lib.hid (X13.out.next hb)
        replace J0 := Lib.hid (J0.out.below hb)
        replace J1 := Lib.hid (J1.out.below hb)
        replace J2 := Lib.hid (J2.out.below hb)
        replace J3 := Lib.hid (J3.out.below hb)
        replace J4 := Lib.hid (J4.out.below hb)
        have J5 := Lib.hid (i65)
        clear hb hHeld i65
        refine hK.out _ _ ⟨E.out.bm.c0, E.out.bm.c1, X10.out.c0, X10.out.c1, X11.out.c0, X11.out.c1, X12.out.c0, X12.out.c1, X13.out.c0, X13.out.c1⟩ (fun hHeld => ?_)
        clear hK K
        refine wpAnyH_ready (rs := [15]) (by kernel_rfl) (by simp) ?_
        refine AllReadyH.cons rfl (fun K hK => ?_) AllReadyH.nil
        go_simp
        refine (refAdd_c X11.out.is J5.out (Nat.le_trans (X11.out.is.len (sz_rest HM.out.1 HS.out.2)) (by omega)) (Nat.le_trans (J5.out.len ((sz_rest HM.out.1 HS.out.2).mul (sz_rest HM.out.1 HS.out.2))) (by omega))).mono ?_
        rintro e w64 ⟨t66, A66, n66, c66, rfl, i66, hb⟩
        replace E := Lib.hid (E.out.next hb)
        replace X10 := Lib.hid (X10.out.next hb)
        replace X11 := Lib.hid (X11.out.next hb)
        replace X12 := Lib.hid (X12.out.next hb)
        replace X13 := Lib.hid (X13.out.next hb)
        replace J0 := Lib.hid (J0.out.below hb)
        replace J1 := Lib.hid (J1.out.below hb)
        replace J2 := Lib.hid (J2.out.below hb)
        replace J3 := Lib.hid (J3.out.below hb)
        replace J4 := Lib.hid (J4.out.below hb)
        replace J5 := Lib.hid (J5.out.below hb)
        have J6 := Lib.hid (i66)
        clear hb hHeld i66
        refine hK.out _ _ ⟨E.out.bm.c0, E.out.bm.c1, X10.out.c0, X10.out.c1, X11.out.c0, X11.out.c1, X12.out.c0, X12.out.c1, X13.out.c0, X13.out.c1⟩ (fun hHeld => ?_)
        clear hK K
        refine wpAnyH_ready (rs := [17]) (by kernel_rfl) (by simp) ?_
        refine AllReadyH.cons rfl (fun K hK => ?_) AllReadyH.nil
        go_simp
        refine (rest_c J6.out E.out.bm.is HM.out.2 (Nat.le_trans (J6.out.len (((sz_rest HM.out.1 HS.out.2).le (show 4096 ≤ 8192 by omega)).add ((sz_rest HM.out.1 HS.out.2).mul (sz_rest HM.out.1 HS.out.2)))) (by omega)) (Nat.le_trans (E.out.bm.is.len HS.out.2) (by omega))).mono ?_
        rintro e w65 ⟨t67, A67, n67, c67, rfl, i67, hb⟩
        replace E := Lib.hid (E.out.next hb)
        replace X10 := Lib.hid (X10.out.next hb)
        replace X11 := Lib.hid (X11.out.next hb)
        replace X12 := Lib.hid (X12.out.next hb)
        replace X13 := Lib.hid (X13.out.next hb)
        replace J0 := Lib.hid (J0.out.below hb)
        replace J1 := Lib.hid (J1.out.below hb)
        replace J2 := Lib.hid (J2.out.below hb)
        replace J3 := Lib.hid (J3.out.below hb)
        replace J4 := Lib.hid (J4.out.below hb)
        replace J5 := Lib.hid (J5.out.below hb)
        replace J6 := Lib.hid (J6.out.below hb)
        have J7 := Lib.hid (i67)
        clear hb hHeld i67
        refine hK.out _ _ ⟨E.out.bm.c0, E.out.bm.c1, X10.out.c0, X10.out.c1, X11.out.c0, X11.out.c1, X12.out.c0, X12.out.c1, X13.out.c0, X13.out.c1⟩ (fun hHeld => ?_)
        clear hK K
        clear hHeld
        refine wpAnyH_done (by kernel_rfl) ?_ _
        refine HT.out _ _ ?_
        clear HT hP QT
        have r0 := E.out.r6.c0
        have r1 := E.out.r6.c1
        have r2 := E.out.r6.f0
        have r3 := E.out.r6.f1
        have s0 := E.out.r7.c0
        have s1 := E.out.r7.c1
        have s2 := E.out.r7.f0
        have s3 := E.out.r7.f1
        have f5 : ¬ ga + 1 + 1 = ga + 1 + 1 + 1 := by omega
        have f6 : ¬ ga + 1 + 1 + 1 = ga + 1 + 1 := by omega
        refine wpList_step fun K hK => ?_
        go_simp
        refine hK _ _ ?_
        clear hK K
        refine wpList_step fun K hK => ?_
        go_simp
        refine hK _ _ ?_
        clear hK K
        refine wpList_nil ?_
        go_wp2
        generalize hX : (((w65.setCell ⟨ga + 1 + 1, 0, none⟩ (.bool t64)).setCell ⟨ga + 1 + 1, 1, none⟩ (.slice A64 n64 c64)).setCell ⟨ga + 1 + 1 + 1, 0, none⟩ (.bool t67)).setCell ⟨ga + 1 + 1 + 1, 1, none⟩ (.slice A67 n67 c67) = X
        obtain ⟨y0, y1, y2, y3, v1, v2, v3⟩ := two_res E.out.r6 E.out.r7 (by omega) J4.out J7.out E.out.below (by have := E.out.ge; omega) (by have := E.out.ge; omega) hX
        refine bodyPost_ret (v := .tuple #[.agg #[.bool t64, .slice A64 n64 c64], .agg #[.bool t67, .slice A67 n67 c67]]) (by simp [results, Try.results28, go_sem, y0, y1, y2, y3]) rfl ?_
        exact ⟨_, _, _, _, _, _, _, _, rfl, v3, by rw [HN2.out, ← odd_chi]; exact v1, by rw [HN2.out, ← odd_psi]; exact v2⟩
theorem refRests_c {w : World} {a : Int} {t : Bool} {A : Option Addr} {n c : Nat} {m : Int} {t' : Bool} {A' : Option Addr} {n' c' : Nat} (h : Is w a t A n c) (h' : Is w m t' A' n' c') (hm : 0 < m) (hs : Sz a 4096) (hs' : Sz m 4096) (N : Nat) (hb : N ≤ 1152921504606846976) :
    Calls Try.prog 28 #[.agg #[.bool t, .slice A n c], .int .i64 (N : Int), .agg #[.bool t', .slice A' n' c']] w (RestsRef a m N w) := by
  induction N using Nat.strongRecOn generalizing w with
  | ind N ih =>
    rcases Nat.eq_zero_or_pos N with h0 | h0
    · subst h0
      exact refRests_zero h h' hm hs hs'
    · exact refRests_step h h' hm hs hs' N h0 hb (fun W i j => ih (N / 2) (by omega) i j (by omega))
end Go.Proofs.Ytbblckaplddggaa

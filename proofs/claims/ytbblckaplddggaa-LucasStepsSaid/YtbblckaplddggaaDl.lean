import Derived.Test.YtbblckaplddggaaDj
import Derived.Test.YtbblckaplddggaaDk
import Derived.Test.YtbblckaplddggaaDe
import Derived.Test.YtbblckaplddggaaOc
import Derived.Test.YtbblckaplddggaaMt
set_option maxRecDepth 100000
namespace Go.Proofs.Ytbblckaplddggaa
open Go.RowKit Go.Shelf
theorem mod_small {x m : Int} (hm : 0 < m) (h : Sz m 961) : Sz (x % m) 961 := sz_of_le (Int.emod_nonneg _ (by omega)) (Int.le_of_lt (Int.emod_lt_of_pos _ hm)) h
theorem dvd_iff (x y : Int) : x.tmod y = 0 ↔ x % y = 0 := by
  rw [← Int.dvd_iff_tmod_eq_zero, Int.dvd_iff_emod_eq_zero]
set_option maxHeartbeats 16000000 in
theorem LucasSteps_c (s : Bool) (A : Option Addr) (n c : Nat) (xs : List Nat) (x N i j : Nat) (hN : 2 ≤ N ∧ N ≤ 30) (hx : x < 256) (hi : i < 4294967296) (hj : j < 4294967296) (e1 : (x : Int) % 29 + 2 = (N : Int)) (w : World) (h : Rd w A n xs) (hn : n ≤ c) (hc : c ≤ 9223372036854775807) :
    Calls Try.prog 12 #[.agg #[.bool s, .slice A n c], .int .u8 (x : Int), .int .u32 (i : Int), .int .u32 (j : Int)] w (IsB true w) := by
  have hb := below_alloc w (.cells #[.bool s, .slice A n c] 24)
  have P := Lib.hid hb
  have V0 := Lib.hid (Vb.new w w s A n c (Nat.le_refl _))
  have RA := Lib.hid (h.below hb)
  have HN := Lib.hid (And.intro hn hc)
  have HN30 := Lib.hid hN
  obtain ⟨Kz, hK⟩ : ∃ K : Int, K = (N : Int) := ⟨_, rfl⟩
  obtain ⟨Kq, hq⟩ : ∃ K : Int, K = (x : Int) % 29 := ⟨_, rfl⟩
  have q0 : 0 ≤ Kq := by omega
  have q1 : Kq ≤ 28 := by omega
  have E2 := Lib.hid (show 2 + Kq = Kz by omega)
  have k0 : 2 ≤ Kz := by omega
  have k1 : Kz ≤ 30 := by omega
  have HK := Lib.hid hK
  replace e1 := hq.symm
  clear h hn hc hN hb hK hq
  go_enter Try.func12, Try.ntmps12
  go_upto_region 1 with (fail)
  generalize w.alloc (.cells #[.bool s, .slice A n c] 24) = W0 at P V0 RA ⊢
  obtain ⟨ga, hga⟩ : ∃ g, g = w.heap.size := ⟨_, rfl⟩
  have HGA := Lib.hid (show w.heap.size ≤ ga by omega)
  rw [← hga] at V0 ⊢
  clear hga
  have xV00 := V0.out.c0
  have xV01 := V0.out.c1
  go_wp2_with fail
  refine (small_c s A n c xs _ RA.out HN.out.1 HN.out.2).mono ?_
  rintro e w1 ⟨a, t0, A0, n0, c0, rfl, i0, ha, hs, hb⟩
  replace P := Lib.hid (P.out.trans (hb.mono P.out.size))
  replace V0 := Lib.hid (V0.out.below hb)
  replace RA := Lib.hid (RA.out.below hb)
  have I0 := Lib.hid (i0)
  clear hb xV00 xV01
  have HA := Lib.hid ha
  have HS := Lib.hid hs
  clear i0 ha hs
  clear RA
  have f0 := V0.out.c0
  have f1 := V0.out.c1
  have f2 := V0.out.f0
  have f3 := V0.out.f1
  go_upto_region 2 with (fail)
  have Xa := Lib.hid (V0.out.nvr I0.out.is)
  replace P := Lib.hid (below_store P.out (g := ga) HGA.out (.bool t0) (.slice A0 n0 c0))
  clear f0 f1 f2 f3 V0 I0
  generalize (w1.setCell ⟨ga, 0, none⟩ (.bool t0)).setCell ⟨ga, 1, none⟩ (.slice A0 n0 c0) = W1 at P Xa ⊢
  go_upto_region 3 with (fail)
  rw [E2.out]
  clear e1 q0 q1 E2
  have SX := Lib.hid (sz_chi_at HA.out HS.out (show N ≤ 120 by have := HN30.out; omega))
  have SY := Lib.hid (sz_psi_at HA.out HS.out (show N ≤ 120 by have := HN30.out; omega))
  have HBo := Lib.hid (fun (W : World) (i : Iv W a t0 A0 n0 c0) => both_c i HA.out N (by have := HN30.out; omega) (SX.out.le (by omega)) (SY.out.le (by omega)))
  rw [← HK.out] at HBo
  have HX0 := Lib.hid (show 0 < chi a N from chi_ge HA.out N)
  have xXa0 := Xa.out.c0
  have xXa1 := Xa.out.c1
  go_wp2_with fail
  refine (HBo.out _ (Xa.out.is.iv_of (HS.out.le (by omega)))).mono ?_
  rintro e w2 ⟨t8, A8, n8, c8, t9, A9, n9, c9, rfl, i8, i9, hb⟩
  replace P := Lib.hid (P.out.trans (hb.mono P.out.size))
  replace Xa := Lib.hid (Xa.out.next hb)
  clear hb xXa0 xXa1
  clear HBo
  have X8 := Lib.hid ((Nvr.new i8.is).alloc (.cells #[.bool t9, .slice A9 n9 c9] 24))
  replace P := Lib.hid ((P.out.alloc P.out.size (.cells #[.bool t8, .slice A8 n8 c8] 24)).alloc (by have := P.out.size; simp; omega) (.cells #[.bool t9, .slice A9 n9 c9] 24))
  replace Xa := Lib.hid ((Xa.out.next (below_alloc _ (.cells #[.bool t8, .slice A8 n8 c8] 24))).next (below_alloc _ (.cells #[.bool t9, .slice A9 n9 c9] 24)))
  clear i8 i9
  go_upto_region 4 with (fail)
  generalize (w2.alloc (.cells #[.bool t8, .slice A8 n8 c8] 24)).alloc (.cells #[.bool t9, .slice A9 n9 c9] 24) = W2 at P Xa X8 ⊢
  obtain ⟨g8, hg8⟩ : ∃ g, g = w2.heap.size := ⟨_, rfl⟩
  rw [← hg8] at X8 ⊢
  clear hg8
  obtain ⟨bl, hbl⟩ : ∃ b, b = blen (val (words (chi a N).natAbs)) := ⟨_, rfl⟩
  have HBL := Lib.hid hbl.symm
  clear hbl
  have xX80 := X8.out.c0
  have xX81 := X8.out.c1
  go_wp2_with fail
  refine (refBits_c _ _ _ _ _ _ X8.out.is.2.2.1 (words_canon _) (Nat.le_trans (X8.out.is.len SX.out) (by omega))).mono ?_
  rw [HBL.out]
  rintro e w3 ⟨rfl, hb⟩
  replace P := Lib.hid (P.out.trans (hb.mono P.out.size))
  replace Xa := Lib.hid (Xa.out.next hb)
  replace X8 := Lib.hid (X8.out.next hb)
  clear hb xX80 xX81
  by_cases hq : (4000 : Int) < (bl : Int)
  · have t1 : decide ((4000 : Int) < (bl : Int)) = true := decide_eq_true hq
    go_wp2_with fail
    refine (awake8_c _).mono ?_
    rintro e u9 ⟨rfl, b9⟩
    have P9 := Lib.hid (P.out.trans (b9.mono P.out.size))
    clear b9
    go_wp2
    go_ret
    exact ⟨rfl, P9.out⟩
  · have t1 : decide ((4000 : Int) < (bl : Int)) = false := decide_eq_false hq
    have HQ := Lib.hid (show blen (chi a N).natAbs ≤ 4000 by have := HBL.out; rw [val_words] at this; omega)
    have HR6 := Lib.hid (fun (W : World) (y : Iv W a t0 A0 n0 c0) (z : Iv W (chi a N) t8 A8 n8 c8) => Rests_ok y z HA.out HX0.out HQ.out i (by omega))
    have HR7 := Lib.hid (fun (W : World) (y : Iv W a t0 A0 n0 c0) (z : Iv W (chi a N) t8 A8 n8 c8) => Rests_ok y z HA.out HX0.out HQ.out j (by omega))
    have xXa0 := Xa.out.c0
    have xXa1 := Xa.out.c1
    have xX80 := X8.out.c0
    have xX81 := X8.out.c1
    go_wp2_with fail
    refine (HR6.out _ (Xa.out.is.iv_of (HS.out.le (by omega))) (X8.out.is.iv_of (SX.out.le (by omega)))).mono ?_
    rintro e w4 ⟨t13, A13, n13, c13, t14, A14, n14, c14, rfl, hb, i13, i14⟩
    replace P := Lib.hid (P.out.trans (hb.mono P.out.size))
    replace Xa := Lib.hid (Xa.out.next hb)
    replace X8 := Lib.hid (X8.out.next hb)
    clear hb xXa0 xXa1 xX80 xX81
    clear HR6 t1 hq
    have X14 := Lib.hid (Nvr.new (i14.below (below_alloc w4 (.cells #[.bool t13, .slice A13 n13 c13] 24))))
    rw [World.size_alloc] at X14
    replace P := Lib.hid ((P.out.alloc P.out.size (.cells #[.bool t13, .slice A13 n13 c13] 24)).alloc (by have := P.out.size; simp; omega) (.cells #[.bool t14, .slice A14 n14 c14] 24))
    replace Xa := Lib.hid ((Xa.out.next (below_alloc _ (.cells #[.bool t13, .slice A13 n13 c13] 24))).next (below_alloc _ (.cells #[.bool t14, .slice A14 n14 c14] 24)))
    replace X8 := Lib.hid ((X8.out.next (below_alloc _ (.cells #[.bool t13, .slice A13 n13 c13] 24))).next (below_alloc _ (.cells #[.bool t14, .slice A14 n14 c14] 24)))
    clear i13 i14
    go_upto_region 7 with (fail)
    generalize (w4.alloc (.cells #[.bool t13, .slice A13 n13 c13] 24)).alloc (.cells #[.bool t14, .slice A14 n14 c14] 24) = W3 at P Xa X8 X14 ⊢
    obtain ⟨g13, hg13⟩ : ∃ g, g = w4.heap.size := ⟨_, rfl⟩
    rw [← hg13] at X14 ⊢
    clear hg13
    have xXa0 := Xa.out.c0
    have xXa1 := Xa.out.c1
    have xX80 := X8.out.c0
    have xX81 := X8.out.c1
    go_wp2_with fail
    refine (HR7.out _ (Xa.out.is.iv_of (HS.out.le (by omega))) (X8.out.is.iv_of (SX.out.le (by omega)))).mono ?_
    rintro e w5 ⟨t16, A16, n16, c16, t17, A17, n17, c17, rfl, hb, i16, i17⟩
    replace P := Lib.hid (P.out.trans (hb.mono P.out.size))
    replace Xa := Lib.hid (Xa.out.next hb)
    replace X8 := Lib.hid (X8.out.next hb)
    replace X14 := Lib.hid (X14.out.next hb)
    clear hb xXa0 xXa1 xX80 xX81
    clear HR7
    have X17 := Lib.hid (Nvr.new (i17.below (below_alloc w5 (.cells #[.bool t16, .slice A16 n16 c16] 24))))
    rw [World.size_alloc] at X17
    replace P := Lib.hid ((P.out.alloc P.out.size (.cells #[.bool t16, .slice A16 n16 c16] 24)).alloc (by have := P.out.size; simp; omega) (.cells #[.bool t17, .slice A17 n17 c17] 24))
    replace Xa := Lib.hid ((Xa.out.next (below_alloc _ (.cells #[.bool t16, .slice A16 n16 c16] 24))).next (below_alloc _ (.cells #[.bool t17, .slice A17 n17 c17] 24)))
    replace X8 := Lib.hid ((X8.out.next (below_alloc _ (.cells #[.bool t16, .slice A16 n16 c16] 24))).next (below_alloc _ (.cells #[.bool t17, .slice A17 n17 c17] 24)))
    replace X14 := Lib.hid ((X14.out.next (below_alloc _ (.cells #[.bool t16, .slice A16 n16 c16] 24))).next (below_alloc _ (.cells #[.bool t17, .slice A17 n17 c17] 24)))
    clear i16 i17
    go_upto_region 8 with (fail)
    generalize (w5.alloc (.cells #[.bool t16, .slice A16 n16 c16] 24)).alloc (.cells #[.bool t17, .slice A17 n17 c17] 24) = W4 at P Xa X8 X14 X17 ⊢
    obtain ⟨g16, hg16⟩ : ∃ g, g = w5.heap.size := ⟨_, rfl⟩
    rw [← hg16] at X17 ⊢
    clear hg16
    clear Xa
    go_upto_region 10 with (fail)
    obtain ⟨S, hS⟩ : ∃ S, S = decide (psi a i % chi a N = psi a j % chi a N) := ⟨_, rfl⟩
    have HST := Lib.hid (show S = true ↔ (((i : Int) - (j : Int)).tmod (4 * Kz) = 0 ∨ ((i : Int) + (j : Int) - 2 * Kz).tmod (4 * Kz) = 0) by rw [hS, decide_eq_true_iff, HK.out, dvd_iff, dvd_iff]; exact steps_iff HA.out HN30.out.1 i j)
    have HSS := Lib.hid hS.symm
    clear hS
    go_cut [19] (fun v W => v = .bool S ∧ Below w.heap.size w W ∧ Nvr W g8 (chi a N) t8 A8 n8 c8 ∧ Nvr W (g13 + 1) (psi a i % chi a N) t14 A14 n14 c14 ∧ Nvr W (g16 + 1) (psi a j % chi a N) t17 A17 n17 c17)
    case first =>
      by_cases h1 : ((i : Int) - (j : Int)).tmod (4 * Kz) = 0
      · have hs := HST.out.2 (.inl h1)
        have t1 : decide (((i : Int) - (j : Int)).tmod (4 * Kz) = 0) = true := decide_eq_true h1
        clear HST
        go_wp2
        go_meet
        exact ⟨by rw [hs], P.out, X8.out, X14.out, X17.out⟩
      · by_cases h2 : ((i : Int) + (j : Int) - 2 * Kz).tmod (4 * Kz) = 0
        · have hs := HST.out.2 (.inr h2)
          have t1 : decide (((i : Int) - (j : Int)).tmod (4 * Kz) = 0) = false := decide_eq_false h1
          have t2 : decide (((i : Int) + (j : Int) - 2 * Kz).tmod (4 * Kz) = 0) = true := decide_eq_true h2
          clear HST
          go_wp2
          go_meet
          exact ⟨by rw [hs], P.out, X8.out, X14.out, X17.out⟩
        · have hs : S = false := by
            cases hq : S
            · rfl
            · exact absurd (HST.out.1 hq) (by simp only [h1, h2, or_self, not_false_eq_true])
          have t1 : decide (((i : Int) - (j : Int)).tmod (4 * Kz) = 0) = false := decide_eq_false h1
          have t2 : decide (((i : Int) + (j : Int) - 2 * Kz).tmod (4 * Kz) = 0) = false := decide_eq_false h2
          clear HST
          go_wp2
          go_meet
          exact ⟨by rw [hs, beq_eq_false_iff_ne.2 h1, beq_eq_false_iff_ne.2 h2]; rfl, P.out, X8.out, X14.out, X17.out⟩
    case rest =>
      obtain ⟨rfl, hp, h1, h2, h3⟩ := hcut
      clear P X8 X14 X17 HST
      have P := Lib.hid hp
      have X8 := Lib.hid h1
      have X14 := Lib.hid h2
      have X17 := Lib.hid h3
      clear hp h1 h2 h3
      have SU := Lib.hid (mod_small (x := psi a i) HX0.out SX.out)
      have HMM := Lib.hid (Int.emod_emod (psi a i) (chi a N))
      go_upto_region 11 with (fail)
      cases S with
      | false =>
        refine wp_region_tail (S := (fun w' => w'.cell? ⟨g13 + 1, 0, none⟩ = some (.bool t14) ∧ w'.cell? ⟨g13 + 1, 1, none⟩ = some (.slice A14 n14 c14) ∧ w'.cell? ⟨g16 + 1, 0, none⟩ = some (.bool t17) ∧ w'.cell? ⟨g16 + 1, 1, none⟩ = some (.slice A17 n17 c17) ∧ w'.cell? ⟨g8, 0, none⟩ = some (.bool t8) ∧ w'.cell? ⟨g8, 1, none⟩ = some (.slice A8 n8 c8))) 15 (by kernel_rfl) (by kernel_rfl) (by intro c a d v w h; cases d <;> exact h) ⟨cell_dr X14.out.c0, cell_dr X14.out.c1, cell_dr X17.out.c0, cell_dr X17.out.c1, cell_dr X8.out.c0, cell_dr X8.out.c1⟩ (fun QT hT hP hHeld => ?_)
        simp only [List.extract_toArray, List.extract_eq_take_drop, List.drop_zero, Nat.sub_zero, List.take_succ_cons, List.take_zero]
        have HT := Lib.hid hT
        clear hT
        replace P := Lib.hid (P.out.trans ((Below.refl wc.heap.size wc).drew.mono P.out.size))
        replace X8 := Lib.hid (X8.out.next (Below.refl wc.heap.size wc).drew)
        replace X14 := Lib.hid (X14.out.next (Below.refl wc.heap.size wc).drew)
        replace X17 := Lib.hid (X17.out.next (Below.refl wc.heap.size wc).drew)
        generalize wc.drew = D6 at P X8 X14 X17 hHeld ⊢
        refine take_on (i := 0) (d := (some 91)) (v := ?v1) rfl rfl (by kernel_rfl) (by kernel_rfl) (by kernel_rfl) (fun c a w h => hP c a _ _ w h) (by rfl) ?h1 (by assumption) ?r1
        case h1 => intro w hSw; obtain ⟨h0, h1, h2, h3, h4, h5⟩ := hSw; go_simp; rfl
        simp only [Act.put, List.setIfInBounds_toArray, List.set_cons_zero, List.set_cons_succ]
        refine take_on (i := 1) (d := (some 92)) (v := ?v2) rfl rfl (by kernel_rfl) (by kernel_rfl) (by kernel_rfl) (fun c a w h => hP c a _ _ w h) (by rfl) ?h2 (by assumption) ?r2
        case h2 => intro w hSw; obtain ⟨h0, h1, h2, h3, h4, h5⟩ := hSw; go_simp; rfl
        simp only [Act.put, List.setIfInBounds_toArray, List.set_cons_zero, List.set_cons_succ]
        refine take_on (i := 3) (d := (some 94)) (v := ?v3) rfl rfl (by kernel_rfl) (by kernel_rfl) (by kernel_rfl) (fun c a w h => hP c a _ _ w h) (by rfl) ?h3 (by assumption) ?r3
        case h3 => intro w hSw; obtain ⟨h0, h1, h2, h3, h4, h5⟩ := hSw; go_simp; rfl
        simp only [Act.put, List.setIfInBounds_toArray, List.set_cons_zero, List.set_cons_succ]
        refine wpAnyH_ready (rs := [2]) (by kernel_rfl) (by simp) ?_
        refine AllReadyH.cons rfl (fun K hK => ?_) AllReadyH.nil
        go_simp
        refine (same_is X14.out.is X17.out.is SU.out (by omega)).mono ?_
        rw [HSS.out]
        rintro e w7 ⟨rfl, hb⟩
        replace P := Lib.hid (P.out.trans (hb.mono P.out.size))
        replace X8 := Lib.hid (X8.out.next hb)
        replace X14 := Lib.hid (X14.out.next hb)
        replace X17 := Lib.hid (X17.out.next hb)
        clear hb hHeld
        refine hK.out _ _ ⟨X14.out.c0, X14.out.c1, X17.out.c0, X17.out.c1, X8.out.c0, X8.out.c1⟩ (fun hHeld => ?_)
        clear hK K
        refine take_on (i := 4) (d := (some 95)) (v := ?v4) rfl rfl (by kernel_rfl) (by kernel_rfl) (by kernel_rfl) (fun c a w h => hP c a _ _ w h) (by rfl) ?h4 (by assumption) ?r4
        case h4 => intro w hSw; obtain ⟨h0, h1, h2, h3, h4, h5⟩ := hSw; go_simp; rfl
        simp only [Act.put, List.setIfInBounds_toArray, List.set_cons_zero, List.set_cons_succ]
        refine take_on (i := 5) (d := (some 96)) (v := ?v5) rfl rfl (by kernel_rfl) (by kernel_rfl) (by kernel_rfl) (fun c a w h => hP c a _ _ w h) (by rfl) ?h5 (by assumption) ?r5
        case h5 => intro w hSw; obtain ⟨h0, h1, h2, h3, h4, h5⟩ := hSw; go_simp; rfl
        simp only [Act.put, List.setIfInBounds_toArray, List.set_cons_zero, List.set_cons_succ]
        refine take_on (i := 6) (d := (some 97)) (v := ?v6) rfl rfl (by kernel_rfl) (by kernel_rfl) (by kernel_rfl) (fun c a w h => hP c a _ _ w h) (by rfl) ?h6 (by assumption) ?r6
        case h6 => intro w hSw; obtain ⟨h0, h1, h2, h3, h4, h5⟩ := hSw; go_simp; rfl
        simp only [Act.put, List.setIfInBounds_toArray, List.set_cons_zero, List.set_cons_succ]
        refine take_on (i := 7) (d := (some 98)) (v := ?v7) rfl rfl (by kernel_rfl) (by kernel_rfl) (by kernel_rfl) (fun c a w h => hP c a _ _ w h) (by rfl) ?h7 (by assumption) ?r7
        case h7 => intro w hSw; obtain ⟨h0, h1, h2, h3, h4, h5⟩ := hSw; go_simp; rfl
        simp only [Act.put, List.setIfInBounds_toArray, List.set_cons_zero, List.set_cons_succ]
        refine take_on (i := 9) (d := (some 100)) (v := ?v8) rfl rfl (by kernel_rfl) (by kernel_rfl) (by kernel_rfl) (fun c a w h => hP c a _ _ w h) (by rfl) ?h8 (by assumption) ?r8
        case h8 => intro w hSw; obtain ⟨h0, h1, h2, h3, h4, h5⟩ := hSw; go_simp; rfl
        simp only [Act.put, List.setIfInBounds_toArray, List.set_cons_zero, List.set_cons_succ]
        refine wpAnyH_ready (rs := [8]) (by kernel_rfl) (by simp) ?_
        refine AllReadyH.cons rfl (fun K hK => ?_) AllReadyH.nil
        go_simp
        refine (moduled_c X14.out.is X8.out.is (by have := HX0.out; omega) (Nat.le_trans (X14.out.is.len SU.out) (by omega)) (Nat.le_trans (X8.out.is.len SX.out) (by omega))).mono ?_
        rintro e w8 ⟨t30, A30, n30, c30, rfl, i30, hb⟩
        replace P := Lib.hid (P.out.trans (hb.mono P.out.size))
        replace X8 := Lib.hid (X8.out.next hb)
        replace X14 := Lib.hid (X14.out.next hb)
        replace X17 := Lib.hid (X17.out.next hb)
        have J0 := Lib.hid (i30)
        clear hb hHeld i30
        refine hK.out _ _ ⟨X14.out.c0, X14.out.c1, X17.out.c0, X17.out.c1, X8.out.c0, X8.out.c1⟩ (fun hHeld => ?_)
        clear hK K
        refine wpAnyH_ready (rs := [10]) (by kernel_rfl) (by simp) ?_
        refine AllReadyH.cons rfl (fun K hK => ?_) AllReadyH.nil
        go_simp
        refine (same_eq J0.out X14.out.is (by rw [HMM.out]; exact SU.out) (by omega) HMM.out).mono ?_
        rintro e w9 ⟨rfl, hb⟩
        replace P := Lib.hid (P.out.trans (hb.mono P.out.size))
        replace X8 := Lib.hid (X8.out.next hb)
        replace X14 := Lib.hid (X14.out.next hb)
        replace X17 := Lib.hid (X17.out.next hb)
        replace J0 := Lib.hid (J0.out.below hb)
        clear hb hHeld
        refine hK.out _ _ ⟨X14.out.c0, X14.out.c1, X17.out.c0, X17.out.c1, X8.out.c0, X8.out.c1⟩ (fun hHeld => ?_)
        clear hK K
        refine take_on (i := 11) (d := (some 102)) (v := ?v9) rfl rfl (by kernel_rfl) (by kernel_rfl) (by kernel_rfl) (fun c a w h => hP c a _ _ w h) (by rfl) ?h9 (by assumption) ?r9
        case h9 => intro w hSw; obtain ⟨h0, h1, h2, h3, h4, h5⟩ := hSw; go_simp; rfl
        simp only [Act.put, List.setIfInBounds_toArray, List.set_cons_zero, List.set_cons_succ]
        refine take_on (i := 12) (d := (some 103)) (v := ?v10) rfl rfl (by kernel_rfl) (by kernel_rfl) (by kernel_rfl) (fun c a w h => hP c a _ _ w h) (by rfl) ?h10 (by assumption) ?r10
        case h10 => intro w hSw; obtain ⟨h0, h1, h2, h3, h4, h5⟩ := hSw; go_simp; rfl
        simp only [Act.put, List.setIfInBounds_toArray, List.set_cons_zero, List.set_cons_succ]
        refine wpAnyH_ready (rs := [13]) (by kernel_rfl) (by simp) ?_
        refine AllReadyH.cons rfl (fun K hK => ?_) AllReadyH.nil
        go_simp
        refine (awake8_c _).mono ?_
        rintro e w10 ⟨rfl, hb⟩
        replace P := Lib.hid (P.out.trans (hb.mono P.out.size))
        replace X8 := Lib.hid (X8.out.next hb)
        replace X14 := Lib.hid (X14.out.next hb)
        replace X17 := Lib.hid (X17.out.next hb)
        replace J0 := Lib.hid (J0.out.below hb)
        clear hb hHeld
        refine hK.out _ _ ⟨X14.out.c0, X14.out.c1, X17.out.c0, X17.out.c1, X8.out.c0, X8.out.c1⟩ (fun hHeld => ?_)
        clear hK K
        refine take_on (i := 14) (d := (some 105)) (v := ?v11) rfl rfl (by kernel_rfl) (by kernel_rfl) (by kernel_rfl) (fun c a w h => hP c a _ _ w h) (by rfl) ?h11 (by assumption) ?r11
        case h11 => intro w hSw; obtain ⟨h0, h1, h2, h3, h4, h5⟩ := hSw; go_simp; rfl
        simp only [Act.put, List.setIfInBounds_toArray, List.set_cons_zero, List.set_cons_succ]
        clear hHeld
        refine wpAnyH_done (by kernel_rfl) ?_ _
        refine HT.out _ _ ?_
        clear HT hP QT
        go_wp2
        go_ret
        exact ⟨rfl, P.out⟩
      | true =>
        refine wp_region_tail (S := (fun w' => w'.cell? ⟨g13 + 1, 0, none⟩ = some (.bool t14) ∧ w'.cell? ⟨g13 + 1, 1, none⟩ = some (.slice A14 n14 c14) ∧ w'.cell? ⟨g16 + 1, 0, none⟩ = some (.bool t17) ∧ w'.cell? ⟨g16 + 1, 1, none⟩ = some (.slice A17 n17 c17) ∧ w'.cell? ⟨g8, 0, none⟩ = some (.bool t8) ∧ w'.cell? ⟨g8, 1, none⟩ = some (.slice A8 n8 c8))) 15 (by kernel_rfl) (by kernel_rfl) (by intro c a d v w h; cases d <;> exact h) ⟨cell_dr X14.out.c0, cell_dr X14.out.c1, cell_dr X17.out.c0, cell_dr X17.out.c1, cell_dr X8.out.c0, cell_dr X8.out.c1⟩ (fun QT hT hP hHeld => ?_)
        simp only [List.extract_toArray, List.extract_eq_take_drop, List.drop_zero, Nat.sub_zero, List.take_succ_cons, List.take_zero]
        have HT := Lib.hid hT
        clear hT
        replace P := Lib.hid (P.out.trans ((Below.refl wc.heap.size wc).drew.mono P.out.size))
        replace X8 := Lib.hid (X8.out.next (Below.refl wc.heap.size wc).drew)
        replace X14 := Lib.hid (X14.out.next (Below.refl wc.heap.size wc).drew)
        replace X17 := Lib.hid (X17.out.next (Below.refl wc.heap.size wc).drew)
        generalize wc.drew = D11 at P X8 X14 X17 hHeld ⊢
        refine take_on (i := 0) (d := (some 91)) (v := ?v12) rfl rfl (by kernel_rfl) (by kernel_rfl) (by kernel_rfl) (fun c a w h => hP c a _ _ w h) (by rfl) ?h12 (by assumption) ?r12
        case h12 => intro w hSw; obtain ⟨h0, h1, h2, h3, h4, h5⟩ := hSw; go_simp; rfl
        simp only [Act.put, List.setIfInBounds_toArray, List.set_cons_zero, List.set_cons_succ]
        refine take_on (i := 1) (d := (some 92)) (v := ?v13) rfl rfl (by kernel_rfl) (by kernel_rfl) (by kernel_rfl) (fun c a w h => hP c a _ _ w h) (by rfl) ?h13 (by assumption) ?r13
        case h13 => intro w hSw; obtain ⟨h0, h1, h2, h3, h4, h5⟩ := hSw; go_simp; rfl
        simp only [Act.put, List.setIfInBounds_toArray, List.set_cons_zero, List.set_cons_succ]
        refine take_on (i := 3) (d := (some 94)) (v := ?v14) rfl rfl (by kernel_rfl) (by kernel_rfl) (by kernel_rfl) (fun c a w h => hP c a _ _ w h) (by rfl) ?h14 (by assumption) ?r14
        case h14 => intro w hSw; obtain ⟨h0, h1, h2, h3, h4, h5⟩ := hSw; go_simp; rfl
        simp only [Act.put, List.setIfInBounds_toArray, List.set_cons_zero, List.set_cons_succ]
        refine wpAnyH_ready (rs := [2]) (by kernel_rfl) (by simp) ?_
        refine AllReadyH.cons rfl (fun K hK => ?_) AllReadyH.nil
        go_simp
        refine (same_is X14.out.is X17.out.is SU.out (by omega)).mono ?_
        rw [HSS.out]
        rintro e w12 ⟨rfl, hb⟩
        replace P := Lib.hid (P.out.trans (hb.mono P.out.size))
        replace X8 := Lib.hid (X8.out.next hb)
        replace X14 := Lib.hid (X14.out.next hb)
        replace X17 := Lib.hid (X17.out.next hb)
        clear hb hHeld
        refine hK.out _ _ ⟨X14.out.c0, X14.out.c1, X17.out.c0, X17.out.c1, X8.out.c0, X8.out.c1⟩ (fun hHeld => ?_)
        clear hK K
        refine take_on (i := 4) (d := (some 95)) (v := ?v15) rfl rfl (by kernel_rfl) (by kernel_rfl) (by kernel_rfl) (fun c a w h => hP c a _ _ w h) (by rfl) ?h15 (by assumption) ?r15
        case h15 => intro w hSw; obtain ⟨h0, h1, h2, h3, h4, h5⟩ := hSw; go_simp; rfl
        simp only [Act.put, List.setIfInBounds_toArray, List.set_cons_zero, List.set_cons_succ]
        refine take_on (i := 5) (d := (some 96)) (v := ?v16) rfl rfl (by kernel_rfl) (by kernel_rfl) (by kernel_rfl) (fun c a w h => hP c a _ _ w h) (by rfl) ?h16 (by assumption) ?r16
        case h16 => intro w hSw; obtain ⟨h0, h1, h2, h3, h4, h5⟩ := hSw; go_simp; rfl
        simp only [Act.put, List.setIfInBounds_toArray, List.set_cons_zero, List.set_cons_succ]
        refine take_on (i := 6) (d := (some 97)) (v := ?v17) rfl rfl (by kernel_rfl) (by kernel_rfl) (by kernel_rfl) (fun c a w h => hP c a _ _ w h) (by rfl) ?h17 (by assumption) ?r17
        case h17 => intro w hSw; obtain ⟨h0, h1, h2, h3, h4, h5⟩ := hSw; go_simp; rfl
        simp only [Act.put, List.setIfInBounds_toArray, List.set_cons_zero, List.set_cons_succ]
        refine take_on (i := 7) (d := (some 98)) (v := ?v18) rfl rfl (by kernel_rfl) (by kernel_rfl) (by kernel_rfl) (fun c a w h => hP c a _ _ w h) (by rfl) ?h18 (by assumption) ?r18
        case h18 => intro w hSw; obtain ⟨h0, h1, h2, h3, h4, h5⟩ := hSw; go_simp; rfl
        simp only [Act.put, List.setIfInBounds_toArray, List.set_cons_zero, List.set_cons_succ]
        refine take_on (i := 9) (d := (some 100)) (v := ?v19) rfl rfl (by kernel_rfl) (by kernel_rfl) (by kernel_rfl) (fun c a w h => hP c a _ _ w h) (by rfl) ?h19 (by assumption) ?r19
        case h19 => intro w hSw; obtain ⟨h0, h1, h2, h3, h4, h5⟩ := hSw; go_simp; rfl
        simp only [Act.put, List.setIfInBounds_toArray, List.set_cons_zero, List.set_cons_succ]
        refine wpAnyH_ready (rs := [8]) (by kernel_rfl) (by simp) ?_
        refine AllReadyH.cons rfl (fun K hK => ?_) AllReadyH.nil
        go_simp
        refine (moduled_c X14.out.is X8.out.is (by have := HX0.out; omega) (Nat.le_trans (X14.out.is.len SU.out) (by omega)) (Nat.le_trans (X8.out.is.len SX.out) (by omega))).mono ?_
        rintro e w13 ⟨t30, A30, n30, c30, rfl, i30, hb⟩
        replace P := Lib.hid (P.out.trans (hb.mono P.out.size))
        replace X8 := Lib.hid (X8.out.next hb)
        replace X14 := Lib.hid (X14.out.next hb)
        replace X17 := Lib.hid (X17.out.next hb)
        have J0 := Lib.hid (i30)
        clear hb hHeld i30
        refine hK.out _ _ ⟨X14.out.c0, X14.out.c1, X17.out.c0, X17.out.c1, X8.out.c0, X8.out.c1⟩ (fun hHeld => ?_)
        clear hK K
        refine wpAnyH_ready (rs := [10]) (by kernel_rfl) (by simp) ?_
        refine AllReadyH.cons rfl (fun K hK => ?_) AllReadyH.nil
        go_simp
        refine (same_eq J0.out X14.out.is (by rw [HMM.out]; exact SU.out) (by omega) HMM.out).mono ?_
        rintro e w14 ⟨rfl, hb⟩
        replace P := Lib.hid (P.out.trans (hb.mono P.out.size))
        replace X8 := Lib.hid (X8.out.next hb)
        replace X14 := Lib.hid (X14.out.next hb)
        replace X17 := Lib.hid (X17.out.next hb)
        replace J0 := Lib.hid (J0.out.below hb)
        clear hb hHeld
        refine hK.out _ _ ⟨X14.out.c0, X14.out.c1, X17.out.c0, X17.out.c1, X8.out.c0, X8.out.c1⟩ (fun hHeld => ?_)
        clear hK K
        refine take_on (i := 11) (d := (some 102)) (v := ?v20) rfl rfl (by kernel_rfl) (by kernel_rfl) (by kernel_rfl) (fun c a w h => hP c a _ _ w h) (by rfl) ?h20 (by assumption) ?r20
        case h20 => intro w hSw; obtain ⟨h0, h1, h2, h3, h4, h5⟩ := hSw; go_simp; rfl
        simp only [Act.put, List.setIfInBounds_toArray, List.set_cons_zero, List.set_cons_succ]
        refine take_on (i := 12) (d := (some 103)) (v := ?v21) rfl rfl (by kernel_rfl) (by kernel_rfl) (by kernel_rfl) (fun c a w h => hP c a _ _ w h) (by rfl) ?h21 (by assumption) ?r21
        case h21 => intro w hSw; obtain ⟨h0, h1, h2, h3, h4, h5⟩ := hSw; go_simp; rfl
        simp only [Act.put, List.setIfInBounds_toArray, List.set_cons_zero, List.set_cons_succ]
        refine wpAnyH_ready (rs := [13]) (by kernel_rfl) (by simp) ?_
        refine AllReadyH.cons rfl (fun K hK => ?_) AllReadyH.nil
        go_simp
        refine (awake8_c _).mono ?_
        rintro e w15 ⟨rfl, hb⟩
        replace P := Lib.hid (P.out.trans (hb.mono P.out.size))
        replace X8 := Lib.hid (X8.out.next hb)
        replace X14 := Lib.hid (X14.out.next hb)
        replace X17 := Lib.hid (X17.out.next hb)
        replace J0 := Lib.hid (J0.out.below hb)
        clear hb hHeld
        refine hK.out _ _ ⟨X14.out.c0, X14.out.c1, X17.out.c0, X17.out.c1, X8.out.c0, X8.out.c1⟩ (fun hHeld => ?_)
        clear hK K
        refine take_on (i := 14) (d := (some 105)) (v := ?v22) rfl rfl (by kernel_rfl) (by kernel_rfl) (by kernel_rfl) (fun c a w h => hP c a _ _ w h) (by rfl) ?h22 (by assumption) ?r22
        case h22 => intro w hSw; obtain ⟨h0, h1, h2, h3, h4, h5⟩ := hSw; go_simp; rfl
        simp only [Act.put, List.setIfInBounds_toArray, List.set_cons_zero, List.set_cons_succ]
        clear hHeld
        refine wpAnyH_done (by kernel_rfl) ?_ _
        refine HT.out _ _ ?_
        clear HT hP QT
        go_wp2
        go_ret
        exact ⟨rfl, P.out⟩
theorem nat_of_u32' {a : Int} (h : (Lit.int .u32 a).wf = true) : ∃ n : Nat, a = (n : Int) ∧ n < 4294967296 := by
  simp only [Lit.wf, Bool.and_eq_true, decide_eq_true_eq] at h
  have h1 : IntKind.u32.min = 0 := rfl
  have h2 : IntKind.u32.max = 4294967295 := rfl
  exact ⟨a.toNat, by omega, by omega⟩
theorem LucasSteps_i (s : Bool) (A : Option Addr) (n c : Nat) (xs : List Nat) (a1 : Int) (w1 : (Lit.int .u8 a1).wf = true) (a2 : Int) (w2 : (Lit.int .u32 a2).wf = true) (a3 : Int) (w3 : (Lit.int .u32 a3).wf = true) (w : World) (h : Rd w A n xs) (hn : n ≤ c) (hc : c ≤ 9223372036854775807) :
    Calls Try.prog 12 #[.agg #[.bool s, .slice A n c], .int .u8 a1, .int .u32 a2, .int .u32 a3] w (IsB true w) := by
  obtain ⟨x, rfl, hx⟩ := nat_of_u8 w1
  obtain ⟨i, rfl, hi⟩ := nat_of_u32' w2
  obtain ⟨j, rfl, hj⟩ := nat_of_u32' w3
  exact LucasSteps_c s A n c xs x (x % 29 + 2) i j (by omega) hx hi hj (by omega) w h hn hc
end Go.Proofs.Ytbblckaplddggaa

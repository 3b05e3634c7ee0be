import Derived.Test.YtbblckaplddggaaDb
import Derived.Test.YtbblckaplddggaaOc
import Derived.Test.YtbblckaplddggaaMt
import Derived.Test.YtbblckaplddggaaDn
set_option maxRecDepth 100000
namespace Go.Proofs.Ytbblckaplddggaa
open Go.RowKit Go.Shelf
theorem ord_le' {a b : Int} (h : a ≤ b) : ord a b ≤ 0 := by
  unfold ord
  split
  · omega
  · rw [if_neg (by omega)]
    omega
theorem sz_small' {z : Int} {k : Nat} (h : z.natAbs < 4294967296) (hk : 1 ≤ k) : Sz z k := by
  have : pw 1 ≤ pw k := pw_le hk
  rw [show pw 1 = 4294967296 by unfold pw; decide] at this
  show z.natAbs < pw k
  omega
set_option maxHeartbeats 16000000 in
theorem LucasNear_c (s : Bool) (A : Option Addr) (n c : Nat) (xs : List Nat) (s' : Bool) (A' : Option Addr) (n' c' : Nat) (ys : List Nat) (x N : Nat) (hN : N ≤ 60) (hx : x < 256) (e1 : (x : Int) % 61 = (N : Int)) (w : World) (h : Rd w A n xs) (hn : n ≤ c) (hc : c ≤ 9223372036854775807) (h' : Rd w A' n' ys) (hn' : n' ≤ c') (hc' : c' ≤ 9223372036854775807) :
    Calls Try.prog 10 #[.agg #[.bool s, .slice A n c], .agg #[.bool s', .slice A' n' c'], .int .u8 (x : Int)] w (IsB true w) := by
  have hb := below_alloc w (.cells #[.bool s, .slice A n c] 24)
  have P := Lib.hid (hb.alloc hb.size (.cells #[.bool s', .slice A' n' c'] 24))
  have Va := Lib.hid ((Vb.new w w s A n c (Nat.le_refl _)).below (below_alloc _ (.cells #[.bool s', .slice A' n' c'] 24)))
  have Vc := Lib.hid (Vb.new1 w w (.cells #[.bool s, .slice A n c] 24) s' A' n' c' (Nat.le_refl _))
  have RA := Lib.hid ((h.below hb).below (below_alloc _ (.cells #[.bool s', .slice A' n' c'] 24)))
  have RB := Lib.hid ((h'.below hb).below (below_alloc _ (.cells #[.bool s', .slice A' n' c'] 24)))
  have HN := Lib.hid (And.intro (And.intro hn hc) (And.intro hn' hc'))
  have HN60 := Lib.hid hN
  obtain ⟨Ki, hK⟩ : ∃ K : Int, K = (N : Int) := ⟨_, rfl⟩
  rw [← hK] at e1
  have k0 : 0 ≤ Ki := by omega
  have k1 : Ki ≤ 60 := by omega
  have HK := Lib.hid hK
  clear h hn hc h' hn' hc' hN hb hK
  go_enter Try.func10, Try.ntmps10
  go_upto_region 1 with (fail)
  generalize (w.alloc (.cells #[.bool s, .slice A n c] 24)).alloc (.cells #[.bool s', .slice A' n' c'] 24) = W0 at P Va Vc RA RB ⊢
  obtain ⟨ga, hga⟩ : ∃ g, g = w.heap.size := ⟨_, rfl⟩
  have HGA := Lib.hid (show w.heap.size ≤ ga by omega)
  rw [← hga] at Va Vc ⊢
  clear hga
  go_cut [] (fun W => ∃ a b t0 A0 n0 c0 t1 A1 n1 c1, Below w.heap.size w W ∧ 2 ≤ a ∧ 2 ≤ b ∧ Sz a 7 ∧ Sz b 7 ∧ Nvr W ga a t0 A0 n0 c0 ∧ Nvr W (ga + 1) b t1 A1 n1 c1)
  case first =>
    refine wp_region_tail (S := (fun w' => w'.cell? ⟨ga, 0, none⟩ = some (.bool s) ∧ w'.cell? ⟨ga, 1, none⟩ = some (.slice A n c) ∧ w'.cell? ⟨ga + 1, 0, none⟩ = some (.bool s') ∧ w'.cell? ⟨ga + 1, 1, none⟩ = some (.slice A' n' c'))) 4 (by kernel_rfl) (by kernel_rfl) (by intro c a d v w h; cases d <;> exact h) ⟨cell_dr Va.out.c0, cell_dr Va.out.c1, cell_dr Vc.out.c0, cell_dr Vc.out.c1⟩ (fun QT hT hP hHeld => ?_)
    simp only [List.extract_toArray, List.extract_eq_take_drop, List.drop_zero, Nat.sub_zero, List.take_succ_cons, List.take_zero]
    have HT := Lib.hid hT
    clear hT
    replace P := Lib.hid (P.out.trans ((Below.refl W0.heap.size W0).drew.mono P.out.size))
    replace Va := Lib.hid (Va.out.below (Below.refl W0.heap.size W0).drew)
    replace Vc := Lib.hid (Vc.out.below (Below.refl W0.heap.size W0).drew)
    replace RA := Lib.hid (RA.out.below (Below.refl W0.heap.size W0).drew)
    replace RB := Lib.hid (RB.out.below (Below.refl W0.heap.size W0).drew)
    generalize W0.drew = D1 at P Va Vc RA RB hHeld ⊢
    refine take_on (i := 0) (d := (some 23)) (v := ?v1) rfl rfl (by kernel_rfl) (by kernel_rfl) (by kernel_rfl) (fun c a w h => hP c a _ _ w h) (by rfl) ?h1 (by assumption) ?r1
    case h1 => intro w hSw; obtain ⟨h0, h1, h2, h3⟩ := hSw; go_simp; rfl
    simp only [Act.put, List.setIfInBounds_toArray, List.set_cons_zero, List.set_cons_succ]
    refine take_on (i := 2) (d := (some 25)) (v := ?v2) rfl rfl (by kernel_rfl) (by kernel_rfl) (by kernel_rfl) (fun c a w h => hP c a _ _ w h) (by rfl) ?h2 (by assumption) ?r2
    case h2 => intro w hSw; obtain ⟨h0, h1, h2, h3⟩ := hSw; go_simp; rfl
    simp only [Act.put, List.setIfInBounds_toArray, List.set_cons_zero, List.set_cons_succ]
    refine wpAnyH_ready (rs := [1]) (by kernel_rfl) (by simp) ?_
    refine AllReadyH.cons rfl (fun K hK => ?_) AllReadyH.nil
    go_simp
    refine (small_c s A n c xs _ RA.out HN.out.1.1 HN.out.1.2).mono ?_
    rintro e w2 ⟨a, t0, A0, n0, c0, rfl, i0, ha0, hs0, hb⟩
    replace P := Lib.hid (P.out.trans (hb.mono P.out.size))
    replace Va := Lib.hid (Va.out.below hb)
    replace Vc := Lib.hid (Vc.out.below hb)
    replace RA := Lib.hid (RA.out.below hb)
    replace RB := Lib.hid (RB.out.below hb)
    have I0 := Lib.hid (i0)
    clear hb hHeld
    have HA0 := Lib.hid (And.intro ha0 hs0)
    clear ha0 hs0 i0
    refine hK.out _ _ ⟨Va.out.c0, Va.out.c1, Vc.out.c0, Vc.out.c1⟩ (fun hHeld => ?_)
    clear hK K
    refine wpAnyH_ready (rs := [3]) (by kernel_rfl) (by simp) ?_
    refine AllReadyH.cons rfl (fun K hK => ?_) AllReadyH.nil
    go_simp
    refine (small_c s' A' n' c' ys _ RB.out HN.out.2.1 HN.out.2.2).mono ?_
    rintro e w3 ⟨b, t1, A1, n1, c1, rfl, i1, ha1, hs1, hb⟩
    replace P := Lib.hid (P.out.trans (hb.mono P.out.size))
    replace Va := Lib.hid (Va.out.below hb)
    replace Vc := Lib.hid (Vc.out.below hb)
    replace RA := Lib.hid (RA.out.below hb)
    replace RB := Lib.hid (RB.out.below hb)
    replace I0 := Lib.hid (I0.out.below hb)
    have I1 := Lib.hid (i1)
    clear hb hHeld
    have HA1 := Lib.hid (And.intro ha1 hs1)
    clear ha1 hs1 i1
    refine hK.out _ _ ⟨Va.out.c0, Va.out.c1, Vc.out.c0, Vc.out.c1⟩ (fun hHeld => ?_)
    clear hK K
    clear hHeld
    refine wpAnyH_done (by kernel_rfl) ?_ _
    refine HT.out _ _ ?_
    clear HT hP QT
    have p0 := Va.out.c0
    have p1 := Va.out.c1
    have p2 := Va.out.f0
    have p3 := Va.out.f1
    refine wpList_step fun K hK => ?_
    go_simp
    refine hK _ _ ?_
    clear hK K
    have Xa := Lib.hid (Va.out.nvr I0.out.is)
    replace Vc := Lib.hid (Vc.out.far (g' := ga) (by omega) (.bool t0) (.slice A0 n0 c0))
    have J1 := Lib.hid (I1.out.is.store p0 p1 (.bool t0) (.slice A0 n0 c0))
    replace P := Lib.hid (below_store P.out (g := ga) HGA.out (.bool t0) (.slice A0 n0 c0))
    clear p0 p1 p2 p3 Va I0 I1 RA RB
    generalize (w3.setCell ⟨ga, 0, none⟩ (.bool t0)).setCell ⟨ga, 1, none⟩ (.slice A0 n0 c0) = U1 at P Xa Vc J1 ⊢
    have p0 := Vc.out.c0
    have p1 := Vc.out.c1
    have p2 := Vc.out.f0
    have p3 := Vc.out.f1
    refine wpList_step fun K hK => ?_
    go_simp
    refine hK _ _ ?_
    clear hK K
    refine wpList_nil ?_
    go_wp2
    go_meet
    exact ⟨a, b, _, _, _, _, _, _, _, _, below_store P.out (by have := HGA.out; omega) _ _, HA0.out.1, HA1.out.1, HA0.out.2, HA1.out.2, Xa.out.far (by omega) p0 p1 _ _, Vc.out.nvr J1.out⟩
  case rest =>
    obtain ⟨a0, b0, t0, A0, n0, c0, t1, A1, n1, c1, hp, h1, h2, h3, h4, h5, h6⟩ := hcut
    clear P Va Vc RA RB HN
    have P := Lib.hid hp
    have Xa := Lib.hid h5
    have Xb := Lib.hid h6
    have HAB := Lib.hid (And.intro (And.intro h1 h2) (And.intro h3 h4))
    clear hp h1 h2 h3 h4 h5 h6
    have xXa0 := Xa.out.c0
    have xXa1 := Xa.out.c1
    have xXb0 := Xb.out.c0
    have xXb1 := Xb.out.c1
    go_wp2_with fail
    refine (refCmp_c Xa.out.is Xb.out.is (Nat.le_trans (Xa.out.is.len HAB.out.2.1) (by omega)) (Nat.le_trans (Xb.out.is.len HAB.out.2.2) (by omega))).mono ?_
    rintro e w4 ⟨rfl, hb⟩
    replace P := Lib.hid (P.out.trans (hb.mono P.out.size))
    replace Xa := Lib.hid (Xa.out.next hb)
    replace Xb := Lib.hid (Xb.out.next hb)
    clear hb xXa0 xXa1 xXb0 xXb1
    obtain ⟨r, hr⟩ : ∃ r, r = ord a0 b0 := ⟨_, rfl⟩
    rw [← hr]
    have HR := Lib.hid hr
    clear hr
    go_upto_if 30 with (fail)
    go_cut [] (fun W => ∃ a b t0 A0 n0 c0 t1 A1 n1 c1, Below w.heap.size w W ∧ 2 ≤ b ∧ b ≤ a ∧ Sz a 7 ∧ Sz b 7 ∧ Nvr W ga a t0 A0 n0 c0 ∧ Nvr W (ga + 1) b t1 A1 n1 c1)
    case first =>
      by_cases hlt : a0 < b0
      · obtain rfl : r = -1 := by rw [HR.out]; exact ord_lt hlt
        have HLT := Lib.hid hlt
        clear HR hlt
        have p0 := Xa.out.c0
        have p1 := Xa.out.c1
        have p2 := Xa.out.f0
        have p3 := Xa.out.f1
        have q0 := Xb.out.c0
        have q1 := Xb.out.c1
        have q2 := Xb.out.f0
        have q3 := Xb.out.f1
        have g1 : ¬ ga = ga + 1 := by omega
        have g2 : ¬ ga + 1 = ga := by omega
        go_wp2
        go_meet
        have Yb := Xb.out.far (g' := ga) (by omega) p0 p1 (.bool t1) (.slice A1 n1 c1)
        have Ya := (Xa.out.put Xb.out.is).far (g' := ga + 1) (by omega) Yb.c0 Yb.c1 (.bool t0) (.slice A0 n0 c0)
        exact ⟨b0, a0, _, _, _, _, _, _, _, _, below_store (below_store P.out HGA.out _ _) (by have := HGA.out; omega) _ _, HAB.out.1.1, by have := HLT.out; omega, HAB.out.2.2, HAB.out.2.1, Ya, Yb.put (Xa.out.is.store p0 p1 _ _)⟩
      · have r0 : 0 ≤ r := by rw [HR.out]; exact ord_ge hlt
        have r1 : decide (r < 0) = false := decide_eq_false (by omega)
        have HLT := Lib.hid hlt
        clear HR hlt
        go_wp2
        go_meet
        exact ⟨a0, b0, _, _, _, _, _, _, _, _, P.out, HAB.out.1.2, by have := HLT.out; omega, HAB.out.2.1, HAB.out.2.2, Xa.out, Xb.out⟩
    case rest =>
      clear P Xa Xb HAB HR
      obtain ⟨a, b, t2, A2, n2, c2, t3, A3, n3, c3, hp, h1, h2, h3, h4, h5, h6⟩ := hcut
      have P := Lib.hid hp
      have Xa := Lib.hid h5
      have Xb := Lib.hid h6
      have HB := Lib.hid h1
      have HBA := Lib.hid h2
      have HA := Lib.hid (show 2 ≤ a by omega)
      have HS := Lib.hid h3
      have SB := Lib.hid h4
      clear hp h1 h2 h3 h4 h5 h6
      have HBo := Lib.hid (fun (W : World) (i : Iv W a t2 A2 n2 c2) => both_c i HA.out (N) (by have := HN60.out; omega) ((sz_chi_at HA.out HS.out (by have := HN60.out; omega)).le (by omega)) ((sz_psi_at HA.out HS.out (by have := HN60.out; omega)).le (by omega)))
      rw [show (((N : Nat)) : Int) = Ki by have := HK.out; omega] at HBo
      have xXa0 := Xa.out.c0
      have xXa1 := Xa.out.c1
      go_wp2_with fail
      refine (HBo.out _ (Xa.out.is.iv_of (HS.out.le (by omega)))).mono ?_
      rintro e w5 ⟨t8, A8, n8, c8, t9, A9, n9, c9, rfl, i8, i9, hb⟩
      replace P := Lib.hid (P.out.trans (hb.mono P.out.size))
      replace Xa := Lib.hid (Xa.out.next hb)
      replace Xb := Lib.hid (Xb.out.next hb)
      clear hb xXa0 xXa1
      have X8 := Lib.hid ((Nvr.new i8.is).alloc (.cells #[.bool t9, .slice A9 n9 c9] 24))
      have X9 := Lib.hid (Nvr.new (i9.is.below (below_alloc w5 (.cells #[.bool t8, .slice A8 n8 c8] 24))))
      rw [World.size_alloc] at X9
      replace P := Lib.hid ((P.out.alloc P.out.size (.cells #[.bool t8, .slice A8 n8 c8] 24)).alloc (by have := P.out.size; simp; omega) (.cells #[.bool t9, .slice A9 n9 c9] 24))
      replace Xa := Lib.hid ((Xa.out.next (below_alloc _ (.cells #[.bool t8, .slice A8 n8 c8] 24))).next (below_alloc _ (.cells #[.bool t9, .slice A9 n9 c9] 24)))
      replace Xb := Lib.hid ((Xb.out.next (below_alloc _ (.cells #[.bool t8, .slice A8 n8 c8] 24))).next (below_alloc _ (.cells #[.bool t9, .slice A9 n9 c9] 24)))
      clear i8 i9 HBo
      go_upto_region 6 with (fail)
      generalize (w5.alloc (.cells #[.bool t8, .slice A8 n8 c8] 24)).alloc (.cells #[.bool t9, .slice A9 n9 c9] 24) = v8 at P Xa Xb X8 X9 ⊢
      obtain ⟨gX8, hg⟩ : ∃ g, g = w5.heap.size := ⟨_, rfl⟩
      rw [← hg] at X8 X9 ⊢
      clear hg
      have HBo := Lib.hid (fun (W : World) (i : Iv W b t3 A3 n3 c3) => both_c i HB.out (N) (by have := HN60.out; omega) ((sz_chi_at HB.out SB.out (by have := HN60.out; omega)).le (by omega)) ((sz_psi_at HB.out SB.out (by have := HN60.out; omega)).le (by omega)))
      rw [show (((N : Nat)) : Int) = Ki by have := HK.out; omega] at HBo
      have xXb0 := Xb.out.c0
      have xXb1 := Xb.out.c1
      go_wp2_with fail
      refine (HBo.out _ (Xb.out.is.iv_of (SB.out.le (by omega)))).mono ?_
      rintro e w6 ⟨t11, A11, n11, c11, t12, A12, n12, c12, rfl, i11, i12, hb⟩
      replace P := Lib.hid (P.out.trans (hb.mono P.out.size))
      replace Xa := Lib.hid (Xa.out.next hb)
      replace Xb := Lib.hid (Xb.out.next hb)
      replace X8 := Lib.hid (X8.out.next hb)
      replace X9 := Lib.hid (X9.out.next hb)
      clear hb xXb0 xXb1
      have X11 := Lib.hid ((Nvr.new i11.is).alloc (.cells #[.bool t12, .slice A12 n12 c12] 24))
      have X12 := Lib.hid (Nvr.new (i12.is.below (below_alloc w6 (.cells #[.bool t11, .slice A11 n11 c11] 24))))
      rw [World.size_alloc] at X12
      replace P := Lib.hid ((P.out.alloc P.out.size (.cells #[.bool t11, .slice A11 n11 c11] 24)).alloc (by have := P.out.size; simp; omega) (.cells #[.bool t12, .slice A12 n12 c12] 24))
      replace Xa := Lib.hid ((Xa.out.next (below_alloc _ (.cells #[.bool t11, .slice A11 n11 c11] 24))).next (below_alloc _ (.cells #[.bool t12, .slice A12 n12 c12] 24)))
      replace Xb := Lib.hid ((Xb.out.next (below_alloc _ (.cells #[.bool t11, .slice A11 n11 c11] 24))).next (below_alloc _ (.cells #[.bool t12, .slice A12 n12 c12] 24)))
      replace X8 := Lib.hid ((X8.out.next (below_alloc _ (.cells #[.bool t11, .slice A11 n11 c11] 24))).next (below_alloc _ (.cells #[.bool t12, .slice A12 n12 c12] 24)))
      replace X9 := Lib.hid ((X9.out.next (below_alloc _ (.cells #[.bool t11, .slice A11 n11 c11] 24))).next (below_alloc _ (.cells #[.bool t12, .slice A12 n12 c12] 24)))
      clear i11 i12 HBo
      go_upto_region 7 with (fail)
      generalize (w6.alloc (.cells #[.bool t11, .slice A11 n11 c11] 24)).alloc (.cells #[.bool t12, .slice A12 n12 c12] 24) = v11 at P Xa Xb X8 X9 X11 X12 ⊢
      obtain ⟨gX11, hg⟩ : ∃ g, g = w6.heap.size := ⟨_, rfl⟩
      rw [← hg] at X11 X12 ⊢
      clear hg
      have HBo := Lib.hid (fun (W : World) (i : Iv W a t2 A2 n2 c2) => both_c i HA.out (N + 1) (by have := HN60.out; omega) ((sz_chi_at HA.out HS.out (by have := HN60.out; omega)).le (by omega)) ((sz_psi_at HA.out HS.out (by have := HN60.out; omega)).le (by omega)))
      rw [show (((N + 1 : Nat)) : Int) = Ki + 1 by have := HK.out; omega] at HBo
      have xXa0 := Xa.out.c0
      have xXa1 := Xa.out.c1
      go_wp2_with fail
      refine (HBo.out _ (Xa.out.is.iv_of (HS.out.le (by omega)))).mono ?_
      rintro e w7 ⟨t14, A14, n14, c14, t15, A15, n15, c15, rfl, i14, i15, hb⟩
      replace P := Lib.hid (P.out.trans (hb.mono P.out.size))
      replace Xa := Lib.hid (Xa.out.next hb)
      replace Xb := Lib.hid (Xb.out.next hb)
      replace X8 := Lib.hid (X8.out.next hb)
      replace X9 := Lib.hid (X9.out.next hb)
      replace X11 := Lib.hid (X11.out.next hb)
      replace X12 := Lib.hid (X12.out.next hb)
      clear hb xXa0 xXa1
      have X14 := Lib.hid ((Nvr.new i14.is).alloc (.cells #[.bool t15, .slice A15 n15 c15] 24))
      have X15 := Lib.hid (Nvr.new (i15.is.below (below_alloc w7 (.cells #[.bool t14, .slice A14 n14 c14] 24))))
      rw [World.size_alloc] at X15
      replace P := Lib.hid ((P.out.alloc P.out.size (.cells #[.bool t14, .slice A14 n14 c14] 24)).alloc (by have := P.out.size; simp; omega) (.cells #[.bool t15, .slice A15 n15 c15] 24))
      replace Xa := Lib.hid ((Xa.out.next (below_alloc _ (.cells #[.bool t14, .slice A14 n14 c14] 24))).next (below_alloc _ (.cells #[.bool t15, .slice A15 n15 c15] 24)))
      replace Xb := Lib.hid ((Xb.out.next (below_alloc _ (.cells #[.bool t14, .slice A14 n14 c14] 24))).next (below_alloc _ (.cells #[.bool t15, .slice A15 n15 c15] 24)))
      replace X8 := Lib.hid ((X8.out.next (below_alloc _ (.cells #[.bool t14, .slice A14 n14 c14] 24))).next (below_alloc _ (.cells #[.bool t15, .slice A15 n15 c15] 24)))
      replace X9 := Lib.hid ((X9.out.next (below_alloc _ (.cells #[.bool t14, .slice A14 n14 c14] 24))).next (below_alloc _ (.cells #[.bool t15, .slice A15 n15 c15] 24)))
      replace X11 := Lib.hid ((X11.out.next (below_alloc _ (.cells #[.bool t14, .slice A14 n14 c14] 24))).next (below_alloc _ (.cells #[.bool t15, .slice A15 n15 c15] 24)))
      replace X12 := Lib.hid ((X12.out.next (below_alloc _ (.cells #[.bool t14, .slice A14 n14 c14] 24))).next (below_alloc _ (.cells #[.bool t15, .slice A15 n15 c15] 24)))
      clear i14 i15 HBo
      go_upto_region 8 with (fail)
      generalize (w7.alloc (.cells #[.bool t14, .slice A14 n14 c14] 24)).alloc (.cells #[.bool t15, .slice A15 n15 c15] 24) = v14 at P Xa Xb X8 X9 X11 X12 X14 X15 ⊢
      obtain ⟨gX14, hg⟩ : ∃ g, g = w7.heap.size := ⟨_, rfl⟩
      rw [← hg] at X14 X15 ⊢
      clear hg
      have xXa0 := Xa.out.c0
      have xXa1 := Xa.out.c1
      have xXb0 := Xb.out.c0
      have xXb1 := Xb.out.c1
      go_wp2_with fail
      refine (refSub_c Xa.out.is Xb.out.is (Nat.le_trans (Xa.out.is.len HS.out) (by omega)) (Nat.le_trans (Xb.out.is.len SB.out) (by omega))).mono ?_
      rintro e w8 ⟨t17, A17, n17, c17, rfl, i17, hb⟩
      replace P := Lib.hid (P.out.trans (hb.mono P.out.size))
      replace Xa := Lib.hid (Xa.out.next hb)
      replace Xb := Lib.hid (Xb.out.next hb)
      replace X8 := Lib.hid (X8.out.next hb)
      replace X9 := Lib.hid (X9.out.next hb)
      replace X11 := Lib.hid (X11.out.next hb)
      replace X12 := Lib.hid (X12.out.next hb)
      replace X14 := Lib.hid (X14.out.next hb)
      replace X15 := Lib.hid (X15.out.next hb)
      clear hb xXa0 xXa1 xXb0 xXb1
      have X17 := Lib.hid (Nvr.new i17)
      replace P := Lib.hid (P.out.alloc P.out.size (.cells #[.bool t17, .slice A17 n17 c17] 24))
      replace Xa := Lib.hid (Xa.out.next (below_alloc _ (.cells #[.bool t17, .slice A17 n17 c17] 24)))
      replace Xb := Lib.hid (Xb.out.next (below_alloc _ (.cells #[.bool t17, .slice A17 n17 c17] 24)))
      replace X8 := Lib.hid (X8.out.next (below_alloc _ (.cells #[.bool t17, .slice A17 n17 c17] 24)))
      replace X9 := Lib.hid (X9.out.next (below_alloc _ (.cells #[.bool t17, .slice A17 n17 c17] 24)))
      replace X11 := Lib.hid (X11.out.next (below_alloc _ (.cells #[.bool t17, .slice A17 n17 c17] 24)))
      replace X12 := Lib.hid (X12.out.next (below_alloc _ (.cells #[.bool t17, .slice A17 n17 c17] 24)))
      replace X14 := Lib.hid (X14.out.next (below_alloc _ (.cells #[.bool t17, .slice A17 n17 c17] 24)))
      replace X15 := Lib.hid (X15.out.next (below_alloc _ (.cells #[.bool t17, .slice A17 n17 c17] 24)))
      clear i17
      go_upto_region 9 with (fail)
      generalize w8.alloc (.cells #[.bool t17, .slice A17 n17 c17] 24) = v17 at P Xa Xb X8 X9 X11 X12 X14 X15 X17 ⊢
      obtain ⟨gX17, hg⟩ : ∃ g, g = w8.heap.size := ⟨_, rfl⟩
      rw [← hg] at X17 ⊢
      clear hg
      have SXa := Lib.hid (sz_chi_at HA.out HS.out (show N ≤ 120 by have := HN60.out; omega))
      have SYa := Lib.hid (sz_psi_at HA.out HS.out (show N ≤ 120 by have := HN60.out; omega))
      have SXb := Lib.hid (sz_chi_at HB.out SB.out (show N ≤ 120 by have := HN60.out; omega))
      have SYb := Lib.hid (sz_psi_at HB.out SB.out (show N ≤ 120 by have := HN60.out; omega))
      have SD := Lib.hid (show Sz (a - b) 8 from HS.out.sub SB.out)
      have D1 := Lib.hid (chi_near a b N).1
      have D2 := Lib.hid (psi_near a b N).1
      have D3 := Lib.hid (psi_index a N).1
      rw [← HK.out] at D3
      have SK := Lib.hid (show Sz Ki 961 from sz_small' (by rw [HK.out]; have := HN60.out; omega) (by omega))
      refine wp_region_held_drew (S := (fun w' => w'.cell? ⟨gX17, 0, none⟩ = some (.bool t17) ∧ w'.cell? ⟨gX17, 1, none⟩ = some (.slice A17 n17 c17) ∧ w'.cell? ⟨gX8, 0, none⟩ = some (.bool t8) ∧ w'.cell? ⟨gX8, 1, none⟩ = some (.slice A8 n8 c8) ∧ w'.cell? ⟨gX11, 0, none⟩ = some (.bool t11) ∧ w'.cell? ⟨gX11, 1, none⟩ = some (.slice A11 n11 c11) ∧ w'.cell? ⟨gX8 + 1, 0, none⟩ = some (.bool t9) ∧ w'.cell? ⟨gX8 + 1, 1, none⟩ = some (.slice A9 n9 c9) ∧ w'.cell? ⟨gX11 + 1, 0, none⟩ = some (.bool t12) ∧ w'.cell? ⟨gX11 + 1, 1, none⟩ = some (.slice A12 n12 c12) ∧ w'.cell? ⟨ga, 0, none⟩ = some (.bool t2) ∧ w'.cell? ⟨ga, 1, none⟩ = some (.slice A2 n2 c2))) (by kernel_rfl) ⟨cell_dr X17.out.c0, cell_dr X17.out.c1, cell_dr X8.out.c0, cell_dr X8.out.c1, cell_dr X11.out.c0, cell_dr X11.out.c1, cell_dr X9.out.c0, cell_dr X9.out.c1, cell_dr X12.out.c0, cell_dr X12.out.c1, cell_dr Xa.out.c0, cell_dr Xa.out.c1⟩ (fun hHeld => ?_)
      replace P := Lib.hid (P.out.trans ((Below.refl v17.heap.size v17).drew.mono P.out.size))
      replace Xa := Lib.hid (Xa.out.next (Below.refl v17.heap.size v17).drew)
      replace Xb := Lib.hid (Xb.out.next (Below.refl v17.heap.size v17).drew)
      replace X8 := Lib.hid (X8.out.next (Below.refl v17.heap.size v17).drew)
      replace X9 := Lib.hid (X9.out.next (Below.refl v17.heap.size v17).drew)
      replace X11 := Lib.hid (X11.out.next (Below.refl v17.heap.size v17).drew)
      replace X12 := Lib.hid (X12.out.next (Below.refl v17.heap.size v17).drew)
      replace X14 := Lib.hid (X14.out.next (Below.refl v17.heap.size v17).drew)
      replace X15 := Lib.hid (X15.out.next (Below.refl v17.heap.size v17).drew)
      replace X17 := Lib.hid (X17.out.next (Below.refl v17.heap.size v17).drew)
      generalize v17.drew = D9 at P Xa Xb X8 X9 X11 X12 X14 X15 X17 hHeld ⊢
      refine take_on (i := 0) (d := (some 61)) (v := ?v3) rfl rfl (by kernel_rfl) (by kernel_rfl) (by kernel_rfl) (fun c a w h => h) (by rfl) ?h3 (by assumption) ?r3
      case h3 => intro w hSw; obtain ⟨h0, h1, h2, h3, h4, h5, h6, h7, h8, h9, h10, h11⟩ := hSw; go_simp; rfl
      simp only [Act.put, List.setIfInBounds_toArray, List.set_cons_zero, List.set_cons_succ]
      refine take_on (i := 1) (d := (some 62)) (v := ?v4) rfl rfl (by kernel_rfl) (by kernel_rfl) (by kernel_rfl) (fun c a w h => h) (by rfl) ?h4 (by assumption) ?r4
      case h4 => intro w hSw; obtain ⟨h0, h1, h2, h3, h4, h5, h6, h7, h8, h9, h10, h11⟩ := hSw; go_simp; rfl
      simp only [Act.put, List.setIfInBounds_toArray, List.set_cons_zero, List.set_cons_succ]
      refine take_on (i := 2) (d := (some 63)) (v := ?v5) rfl rfl (by kernel_rfl) (by kernel_rfl) (by kernel_rfl) (fun c a w h => h) (by rfl) ?h5 (by assumption) ?r5
      case h5 => intro w hSw; obtain ⟨h0, h1, h2, h3, h4, h5, h6, h7, h8, h9, h10, h11⟩ := hSw; go_simp; rfl
      simp only [Act.put, List.setIfInBounds_toArray, List.set_cons_zero, List.set_cons_succ]
      refine take_on (i := 3) (d := (some 64)) (v := ?v6) rfl rfl (by kernel_rfl) (by kernel_rfl) (by kernel_rfl) (fun c a w h => h) (by rfl) ?h6 (by assumption) ?r6
      case h6 => intro w hSw; obtain ⟨h0, h1, h2, h3, h4, h5, h6, h7, h8, h9, h10, h11⟩ := hSw; go_simp; rfl
      simp only [Act.put, List.setIfInBounds_toArray, List.set_cons_zero, List.set_cons_succ]
      refine take_on (i := 4) (d := (some 65)) (v := ?v7) rfl rfl (by kernel_rfl) (by kernel_rfl) (by kernel_rfl) (fun c a w h => h) (by rfl) ?h7 (by assumption) ?r7
      case h7 => intro w hSw; obtain ⟨h0, h1, h2, h3, h4, h5, h6, h7, h8, h9, h10, h11⟩ := hSw; go_simp; rfl
      simp only [Act.put, List.setIfInBounds_toArray, List.set_cons_zero, List.set_cons_succ]
      refine take_on (i := 5) (d := (some 66)) (v := ?v8) rfl rfl (by kernel_rfl) (by kernel_rfl) (by kernel_rfl) (fun c a w h => h) (by rfl) ?h8 (by assumption) ?r8
      case h8 => intro w hSw; obtain ⟨h0, h1, h2, h3, h4, h5, h6, h7, h8, h9, h10, h11⟩ := hSw; go_simp; rfl
      simp only [Act.put, List.setIfInBounds_toArray, List.set_cons_zero, List.set_cons_succ]
      refine take_on (i := 6) (d := (some 67)) (v := ?v9) rfl rfl (by kernel_rfl) (by kernel_rfl) (by kernel_rfl) (fun c a w h => h) (by rfl) ?h9 (by assumption) ?r9
      case h9 => intro w hSw; obtain ⟨h0, h1, h2, h3, h4, h5, h6, h7, h8, h9, h10, h11⟩ := hSw; go_simp; rfl
      simp only [Act.put, List.setIfInBounds_toArray, List.set_cons_zero, List.set_cons_succ]
      refine take_on (i := 7) (d := (some 68)) (v := ?v10) rfl rfl (by kernel_rfl) (by kernel_rfl) (by kernel_rfl) (fun c a w h => h) (by rfl) ?h10 (by assumption) ?r10
      case h10 => intro w hSw; obtain ⟨h0, h1, h2, h3, h4, h5, h6, h7, h8, h9, h10, h11⟩ := hSw; go_simp; rfl
      simp only [Act.put, List.setIfInBounds_toArray, List.set_cons_zero, List.set_cons_succ]
      refine take_on (i := 8) (d := (some 69)) (v := ?v11) rfl rfl (by kernel_rfl) (by kernel_rfl) (by kernel_rfl) (fun c a w h => h) (by rfl) ?h11 (by assumption) ?r11
      case h11 => intro w hSw; obtain ⟨h0, h1, h2, h3, h4, h5, h6, h7, h8, h9, h10, h11⟩ := hSw; go_simp; rfl
      simp only [Act.put, List.setIfInBounds_toArray, List.set_cons_zero, List.set_cons_succ]
      refine take_on (i := 9) (d := (some 70)) (v := ?v12) rfl rfl (by kernel_rfl) (by kernel_rfl) (by kernel_rfl) (fun c a w h => h) (by rfl) ?h12 (by assumption) ?r12
      case h12 => intro w hSw; obtain ⟨h0, h1, h2, h3, h4, h5, h6, h7, h8, h9, h10, h11⟩ := hSw; go_simp; rfl
      simp only [Act.put, List.setIfInBounds_toArray, List.set_cons_zero, List.set_cons_succ]
      refine take_on (i := 10) (d := (some 71)) (v := ?v13) rfl rfl (by kernel_rfl) (by kernel_rfl) (by kernel_rfl) (fun c a w h => h) (by rfl) ?h13 (by assumption) ?r13
      case h13 => intro w hSw; obtain ⟨h0, h1, h2, h3, h4, h5, h6, h7, h8, h9, h10, h11⟩ := hSw; go_simp; rfl
      simp only [Act.put, List.setIfInBounds_toArray, List.set_cons_zero, List.set_cons_succ]
      refine take_on (i := 11) (d := (some 72)) (v := ?v14) rfl rfl (by kernel_rfl) (by kernel_rfl) (by kernel_rfl) (fun c a w h => h) (by rfl) ?h14 (by assumption) ?r14
      case h14 => intro w hSw; obtain ⟨h0, h1, h2, h3, h4, h5, h6, h7, h8, h9, h10, h11⟩ := hSw; go_simp; rfl
      simp only [Act.put, List.setIfInBounds_toArray, List.set_cons_zero, List.set_cons_succ]
      refine take_on (i := 12) (d := (some 73)) (v := ?v15) rfl rfl (by kernel_rfl) (by kernel_rfl) (by kernel_rfl) (fun c a w h => h) (by rfl) ?h15 (by assumption) ?r15
      case h15 => intro w hSw; obtain ⟨h0, h1, h2, h3, h4, h5, h6, h7, h8, h9, h10, h11⟩ := hSw; go_simp; rfl
      simp only [Act.put, List.setIfInBounds_toArray, List.set_cons_zero, List.set_cons_succ]
      refine take_on (i := 13) (d := (some 74)) (v := ?v16) rfl rfl (by kernel_rfl) (by kernel_rfl) (by kernel_rfl) (fun c a w h => h) (by rfl) ?h16 (by assumption) ?r16
      case h16 => intro w hSw; obtain ⟨h0, h1, h2, h3, h4, h5, h6, h7, h8, h9, h10, h11⟩ := hSw; go_simp; rfl
      simp only [Act.put, List.setIfInBounds_toArray, List.set_cons_zero, List.set_cons_succ]
      refine wpAnyH_ready (rs := [14]) (by kernel_rfl) (by simp) ?_
      refine AllReadyH.cons rfl (fun K hK => ?_) AllReadyH.nil
      go_simp
      refine (refSub_c X8.out.is X11.out.is (Nat.le_trans (X8.out.is.len SXa.out) (by omega)) (Nat.le_trans (X11.out.is.len SXb.out) (by omega))).mono ?_
      rintro e w10 ⟨t20, A20, n20, c20, rfl, i20, hb⟩
      replace P := Lib.hid (P.out.trans (hb.mono P.out.size))
      replace Xa := Lib.hid (Xa.out.next hb)
      replace Xb := Lib.hid (Xb.out.next hb)
      replace X8 := Lib.hid (X8.out.next hb)
      replace X9 := Lib.hid (X9.out.next hb)
      replace X11 := Lib.hid (X11.out.next hb)
      replace X12 := Lib.hid (X12.out.next hb)
      replace X14 := Lib.hid (X14.out.next hb)
      replace X15 := Lib.hid (X15.out.next hb)
      replace X17 := Lib.hid (X17.out.next hb)
      have J0 := Lib.hid (i20)
      clear hb hHeld i20
      refine hK.out _ _ ⟨X17.out.c0, X17.out.c1, X8.out.c0, X8.out.c1, X11.out.c0, X11.out.c1, X9.out.c0, X9.out.c1, X12.out.c0, X12.out.c1, Xa.out.c0, Xa.out.c1⟩ (fun hHeld => ?_)
      clear hK K
      refine wpAnyH_ready (rs := [15]) (by kernel_rfl) (by simp) ?_
      refine AllReadyH.cons rfl (fun K hK => ?_) AllReadyH.nil
      go_simp
      refine (Divides_yes X17.out.is J0.out (Nat.le_trans (X17.out.is.len SD.out) (by omega)) (Nat.le_trans (J0.out.len (SXa.out.sub SXb.out)) (by omega)) D1.out).mono ?_
      rintro e w11 ⟨rfl, hb⟩
      clear J0
      replace P := Lib.hid (P.out.trans (hb.mono P.out.size))
      replace Xa := Lib.hid (Xa.out.next hb)
      replace Xb := Lib.hid (Xb.out.next hb)
      replace X8 := Lib.hid (X8.out.next hb)
      replace X9 := Lib.hid (X9.out.next hb)
      replace X11 := Lib.hid (X11.out.next hb)
      replace X12 := Lib.hid (X12.out.next hb)
      replace X14 := Lib.hid (X14.out.next hb)
      replace X15 := Lib.hid (X15.out.next hb)
      replace X17 := Lib.hid (X17.out.next hb)
      clear hb hHeld
      refine hK.out _ _ ⟨X17.out.c0, X17.out.c1, X8.out.c0, X8.out.c1, X11.out.c0, X11.out.c1, X9.out.c0, X9.out.c1, X12.out.c0, X12.out.c1, Xa.out.c0, Xa.out.c1⟩ (fun hHeld => ?_)
      clear hK K
      refine take_on (i := 16) (d := (some 77)) (v := ?v17) rfl rfl (by kernel_rfl) (by kernel_rfl) (by kernel_rfl) (fun c a w h => h) (by rfl) ?h17 (by assumption) ?r17
      case h17 => intro w hSw; obtain ⟨h0, h1, h2, h3, h4, h5, h6, h7, h8, h9, h10, h11⟩ := hSw; go_simp; rfl
      simp only [Act.put, List.setIfInBounds_toArray, List.set_cons_zero, List.set_cons_succ]
      refine take_on (i := 17) (d := (some 78)) (v := ?v18) rfl rfl (by kernel_rfl) (by kernel_rfl) (by kernel_rfl) (fun c a w h => h) (by rfl) ?h18 (by assumption) ?r18
      case h18 => intro w hSw; obtain ⟨h0, h1, h2, h3, h4, h5, h6, h7, h8, h9, h10, h11⟩ := hSw; go_simp; rfl
      simp only [Act.put, List.setIfInBounds_toArray, List.set_cons_zero, List.set_cons_succ]
      refine take_on (i := 18) (d := (some 79)) (v := ?v19) rfl rfl (by kernel_rfl) (by kernel_rfl) (by kernel_rfl) (fun c a w h => h) (by rfl) ?h19 (by assumption) ?r19
      case h19 => intro w hSw; obtain ⟨h0, h1, h2, h3, h4, h5, h6, h7, h8, h9, h10, h11⟩ := hSw; go_simp; rfl
      simp only [Act.put, List.setIfInBounds_toArray, List.set_cons_zero, List.set_cons_succ]
      refine take_on (i := 19) (d := (some 80)) (v := ?v20) rfl rfl (by kernel_rfl) (by kernel_rfl) (by kernel_rfl) (fun c a w h => h) (by rfl) ?h20 (by assumption) ?r20
      case h20 => intro w hSw; obtain ⟨h0, h1, h2, h3, h4, h5, h6, h7, h8, h9, h10, h11⟩ := hSw; go_simp; rfl
      simp only [Act.put, List.setIfInBounds_toArray, List.set_cons_zero, List.set_cons_succ]
      refine take_on (i := 20) (d := (some 81)) (v := ?v21) rfl rfl (by kernel_rfl) (by kernel_rfl) (by kernel_rfl) (fun c a w h => h) (by rfl) ?h21 (by assumption) ?r21
      case h21 => intro w hSw; obtain ⟨h0, h1, h2, h3, h4, h5, h6, h7, h8, h9, h10, h11⟩ := hSw; go_simp; rfl
      simp only [Act.put, List.setIfInBounds_toArray, List.set_cons_zero, List.set_cons_succ]
      refine take_on (i := 21) (d := (some 82)) (v := ?v22) rfl rfl (by kernel_rfl) (by kernel_rfl) (by kernel_rfl) (fun c a w h => h) (by rfl) ?h22 (by assumption) ?r22
      case h22 => intro w hSw; obtain ⟨h0, h1, h2, h3, h4, h5, h6, h7, h8, h9, h10, h11⟩ := hSw; go_simp; rfl
      simp only [Act.put, List.setIfInBounds_toArray, List.set_cons_zero, List.set_cons_succ]
      refine wpAnyH_ready (rs := [22]) (by kernel_rfl) (by simp) ?_
      refine AllReadyH.cons rfl (fun K hK => ?_) AllReadyH.nil
      go_simp
      refine (refSub_c X9.out.is X12.out.is (Nat.le_trans (X9.out.is.len SYa.out) (by omega)) (Nat.le_trans (X12.out.is.len SYb.out) (by omega))).mono ?_
      rintro e w12 ⟨t21, A21, n21, c21, rfl, i21, hb⟩
      replace P := Lib.hid (P.out.trans (hb.mono P.out.size))
      replace Xa := Lib.hid (Xa.out.next hb)
      replace Xb := Lib.hid (Xb.out.next hb)
      replace X8 := Lib.hid (X8.out.next hb)
      replace X9 := Lib.hid (X9.out.next hb)
      replace X11 := Lib.hid (X11.out.next hb)
      replace X12 := Lib.hid (X12.out.next hb)
      replace X14 := Lib.hid (X14.out.next hb)
      replace X15 := Lib.hid (X15.out.next hb)
      replace X17 := Lib.hid (X17.out.next hb)
      have J1 := Lib.hid (i21)
      clear hb hHeld i21
      refine hK.out _ _ ⟨X17.out.c0, X17.out.c1, X8.out.c0, X8.out.c1, X11.out.c0, X11.out.c1, X9.out.c0, X9.out.c1, X12.out.c0, X12.out.c1, Xa.out.c0, Xa.out.c1⟩ (fun hHeld => ?_)
      clear hK K
      refine wpAnyH_ready (rs := [23]) (by kernel_rfl) (by simp) ?_
      refine AllReadyH.cons rfl (fun K hK => ?_) AllReadyH.nil
      go_simp
      refine (Divides_yes X17.out.is J1.out (Nat.le_trans (X17.out.is.len SD.out) (by omega)) (Nat.le_trans (J1.out.len (SYa.out.sub SYb.out)) (by omega)) D2.out).mono ?_
      rintro e w13 ⟨rfl, hb⟩
      clear J1
      replace P := Lib.hid (P.out.trans (hb.mono P.out.size))
      replace Xa := Lib.hid (Xa.out.next hb)
      replace Xb := Lib.hid (Xb.out.next hb)
      replace X8 := Lib.hid (X8.out.next hb)
      replace X9 := Lib.hid (X9.out.next hb)
      replace X11 := Lib.hid (X11.out.next hb)
      replace X12 := Lib.hid (X12.out.next hb)
      replace X14 := Lib.hid (X14.out.next hb)
      replace X15 := Lib.hid (X15.out.next hb)
      replace X17 := Lib.hid (X17.out.next hb)
      clear hb hHeld
      refine hK.out _ _ ⟨X17.out.c0, X17.out.c1, X8.out.c0, X8.out.c1, X11.out.c0, X11.out.c1, X9.out.c0, X9.out.c1, X12.out.c0, X12.out.c1, Xa.out.c0, Xa.out.c1⟩ (fun hHeld => ?_)
      clear hK K
      refine take_on (i := 24) (d := (some 85)) (v := ?v23) rfl rfl (by kernel_rfl) (by kernel_rfl) (by kernel_rfl) (fun c a w h => h) (by rfl) ?h23 (by assumption) ?r23
      case h23 => intro w hSw; obtain ⟨h0, h1, h2, h3, h4, h5, h6, h7, h8, h9, h10, h11⟩ := hSw; go_simp; rfl
      simp only [Act.put, List.setIfInBounds_toArray, List.set_cons_zero, List.set_cons_succ]
      refine take_on (i := 25) (d := (some 86)) (v := ?v24) rfl rfl (by kernel_rfl) (by kernel_rfl) (by kernel_rfl) (fun c a w h => h) (by rfl) ?h24 (by assumption) ?r24
      case h24 => intro w hSw; obtain ⟨h0, h1, h2, h3, h4, h5, h6, h7, h8, h9, h10, h11⟩ := hSw; go_simp; rfl
      simp only [Act.put, List.setIfInBounds_toArray, List.set_cons_zero, List.set_cons_succ]
      refine take_on (i := 26) (d := (some 87)) (v := ?v25) rfl rfl (by kernel_rfl) (by kernel_rfl) (by kernel_rfl) (fun c a w h => h) (by rfl) ?h25 (by assumption) ?r25
      case h25 => intro w hSw; obtain ⟨h0, h1, h2, h3, h4, h5, h6, h7, h8, h9, h10, h11⟩ := hSw; go_simp; rfl
      simp only [Act.put, List.setIfInBounds_toArray, List.set_cons_zero, List.set_cons_succ]
      refine take_on (i := 27) (d := (some 88)) (v := ?v26) rfl rfl (by kernel_rfl) (by kernel_rfl) (by kernel_rfl) (fun c a w h => h) (by rfl) ?h26 (by assumption) ?r26
      case h26 => intro w hSw; obtain ⟨h0, h1, h2, h3, h4, h5, h6, h7, h8, h9, h10, h11⟩ := hSw; go_simp; rfl
      simp only [Act.put, List.setIfInBounds_toArray, List.set_cons_zero, List.set_cons_succ]
      refine take_on (i := 30) (d := (some 91)) (v := ?v27) rfl rfl (by kernel_rfl) (by kernel_rfl) (by kernel_rfl) (fun c a w h => h) (by rfl) ?h27 (by assumption) ?r27
      case h27 => intro w hSw; obtain ⟨h0, h1, h2, h3, h4, h5, h6, h7, h8, h9, h10, h11⟩ := hSw; go_simp; rfl
      simp only [Act.put, List.setIfInBounds_toArray, List.set_cons_zero, List.set_cons_succ]
      refine take_on (i := 31) (d := (some 92)) (v := ?v28) rfl rfl (by kernel_rfl) (by kernel_rfl) (by kernel_rfl) (fun c a w h => h) (by rfl) ?h28 (by assumption) ?r28
      case h28 => intro w hSw; obtain ⟨h0, h1, h2, h3, h4, h5, h6, h7, h8, h9, h10, h11⟩ := hSw; go_simp; rfl
      simp only [Act.put, List.setIfInBounds_toArray, List.set_cons_zero, List.set_cons_succ]
      refine wpAnyH_ready (rs := [28]) (by kernel_rfl) (by simp) ?_
      refine AllReadyH.cons rfl (fun K hK => ?_) AllReadyH.nil
      go_simp
      refine (refOfV 1 _ (by omega) (by omega)).mono ?_
      rintro e w14 ⟨t22, A22, n22, c22, rfl, i22, hb⟩
      replace P := Lib.hid (P.out.trans (hb.mono P.out.size))
      replace Xa := Lib.hid (Xa.out.next hb)
      replace Xb := Lib.hid (Xb.out.next hb)
      replace X8 := Lib.hid (X8.out.next hb)
      replace X9 := Lib.hid (X9.out.next hb)
      replace X11 := Lib.hid (X11.out.next hb)
      replace X12 := Lib.hid (X12.out.next hb)
      replace X14 := Lib.hid (X14.out.next hb)
      replace X15 := Lib.hid (X15.out.next hb)
      replace X17 := Lib.hid (X17.out.next hb)
      have J2 := Lib.hid (i22.is)
      clear hb hHeld i22
      refine hK.out _ _ ⟨X17.out.c0, X17.out.c1, X8.out.c0, X8.out.c1, X11.out.c0, X11.out.c1, X9.out.c0, X9.out.c1, X12.out.c0, X12.out.c1, Xa.out.c0, Xa.out.c1⟩ (fun hHeld => ?_)
      clear hK K
      refine wpAnyH_ready (rs := [29]) (by kernel_rfl) (by simp) ?_
      refine AllReadyH.cons rfl (fun K hK => ?_) AllReadyH.nil
      go_simp
      refine (refSub_c Xa.out.is J2.out (Nat.le_trans (Xa.out.is.len HS.out) (by omega)) (Nat.le_trans (J2.out.len (sz_one' (Nat.le_refl 1))) (by omega))).mono ?_
      rintro e w15 ⟨t23, A23, n23, c23, rfl, i23, hb⟩
      replace P := Lib.hid (P.out.trans (hb.mono P.out.size))
      replace Xa := Lib.hid (Xa.out.next hb)
      replace Xb := Lib.hid (Xb.out.next hb)
      replace X8 := Lib.hid (X8.out.next hb)
      replace X9 := Lib.hid (X9.out.next hb)
      replace X11 := Lib.hid (X11.out.next hb)
      replace X12 := Lib.hid (X12.out.next hb)
      replace X14 := Lib.hid (X14.out.next hb)
      replace X15 := Lib.hid (X15.out.next hb)
      replace X17 := Lib.hid (X17.out.next hb)
      replace J2 := Lib.hid (J2.out.below hb)
      have J3 := Lib.hid (i23)
      clear hb hHeld i23
      refine hK.out _ _ ⟨X17.out.c0, X17.out.c1, X8.out.c0, X8.out.c1, X11.out.c0, X11.out.c1, X9.out.c0, X9.out.c1, X12.out.c0, X12.out.c1, Xa.out.c0, Xa.out.c1⟩ (fun hHeld => ?_)
      clear hK K
      refine wpAnyH_ready (rs := [32]) (by kernel_rfl) (by simp) ?_
      refine AllReadyH.cons rfl (fun K hK => ?_) AllReadyH.nil
      go_simp
      refine (refOfV Ki _ (by omega) (by omega)).mono ?_
      rintro e w16 ⟨t24, A24, n24, c24, rfl, i24, hb⟩
      replace P := Lib.hid (P.out.trans (hb.mono P.out.size))
      replace Xa := Lib.hid (Xa.out.next hb)
      replace Xb := Lib.hid (Xb.out.next hb)
      replace X8 := Lib.hid (X8.out.next hb)
      replace X9 := Lib.hid (X9.out.next hb)
      replace X11 := Lib.hid (X11.out.next hb)
      replace X12 := Lib.hid (X12.out.next hb)
      replace X14 := Lib.hid (X14.out.next hb)
      replace X15 := Lib.hid (X15.out.next hb)
      replace X17 := Lib.hid (X17.out.next hb)
      replace J2 := Lib.hid (J2.out.below hb)
      replace J3 := Lib.hid (J3.out.below hb)
      have J4 := Lib.hid (i24.is)
      clear hb hHeld i24
      refine hK.out _ _ ⟨X17.out.c0, X17.out.c1, X8.out.c0, X8.out.c1, X11.out.c0, X11.out.c1, X9.out.c0, X9.out.c1, X12.out.c0, X12.out.c1, Xa.out.c0, Xa.out.c1⟩ (fun hHeld => ?_)
      clear hK K
      refine wpAnyH_ready (rs := [33]) (by kernel_rfl) (by simp) ?_
      refine AllReadyH.cons rfl (fun K hK => ?_) AllReadyH.nil
      go_simp
      refine (refSub_c X9.out.is J4.out (Nat.le_trans (X9.out.is.len SYa.out) (by omega)) (Nat.le_trans (J4.out.len SK.out) (by omega))).mono ?_
      rintro e w17 ⟨t25, A25, n25, c25, rfl, i25, hb⟩
      replace P := Lib.hid (P.out.trans (hb.mono P.out.size))
      replace Xa := Lib.hid (Xa.out.next hb)
      replace Xb := Lib.hid (Xb.out.next hb)
      replace X8 := Lib.hid (X8.out.next hb)
      replace X9 := Lib.hid (X9.out.next hb)
      replace X11 := Lib.hid (X11.out.next hb)
      replace X12 := Lib.hid (X12.out.next hb)
      replace X14 := Lib.hid (X14.out.next hb)
      replace X15 := Lib.hid (X15.out.next hb)
      replace X17 := Lib.hid (X17.out.next hb)
      replace J2 := Lib.hid (J2.out.below hb)
      replace J3 := Lib.hid (J3.out.below hb)
      replace J4 := Lib.hid (J4.out.below hb)
      have J5 := Lib.hid (i25)
      clear hb hHeld i25
      refine hK.out _ _ ⟨X17.out.c0, X17.out.c1, X8.out.c0, X8.out.c1, X11.out.c0, X11.out.c1, X9.out.c0, X9.out.c1, X12.out.c0, X12.out.c1, Xa.out.c0, Xa.out.c1⟩ (fun hHeld => ?_)
      clear hK K
      refine wpAnyH_ready (rs := [34]) (by kernel_rfl) (by simp) ?_
      refine AllReadyH.cons rfl (fun K hK => ?_) AllReadyH.nil
      go_simp
      refine (Divides_yes J3.out J5.out (Nat.le_trans (J3.out.len (HS.out.sub (sz_one' (by omega)))) (by omega)) (Nat.le_trans (J5.out.len (SYa.out.sub SK.out)) (by omega)) D3.out).mono ?_
      rintro e w18 ⟨rfl, hb⟩
      clear J3 J5 J4 J2
      replace P := Lib.hid (P.out.trans (hb.mono P.out.size))
      replace Xa := Lib.hid (Xa.out.next hb)
      replace Xb := Lib.hid (Xb.out.next hb)
      replace X8 := Lib.hid (X8.out.next hb)
      replace X9 := Lib.hid (X9.out.next hb)
      replace X11 := Lib.hid (X11.out.next hb)
      replace X12 := Lib.hid (X12.out.next hb)
      replace X14 := Lib.hid (X14.out.next hb)
      replace X15 := Lib.hid (X15.out.next hb)
      replace X17 := Lib.hid (X17.out.next hb)
      clear hb hHeld
      refine hK.out _ _ ⟨X17.out.c0, X17.out.c1, X8.out.c0, X8.out.c1, X11.out.c0, X11.out.c1, X9.out.c0, X9.out.c1, X12.out.c0, X12.out.c1, Xa.out.c0, Xa.out.c1⟩ (fun hHeld => ?_)
      clear hK K
      refine take_on (i := 35) (d := (some 96)) (v := ?v29) rfl rfl (by kernel_rfl) (by kernel_rfl) (by kernel_rfl) (fun c a w h => h) (by rfl) ?h29 (by assumption) ?r29
      case h29 => intro w hSw; obtain ⟨h0, h1, h2, h3, h4, h5, h6, h7, h8, h9, h10, h11⟩ := hSw; go_simp; rfl
      simp only [Act.put, List.setIfInBounds_toArray, List.set_cons_zero, List.set_cons_succ]
      refine take_on (i := 36) (d := (some 97)) (v := ?v30) rfl rfl (by kernel_rfl) (by kernel_rfl) (by kernel_rfl) (fun c a w h => h) (by rfl) ?h30 (by assumption) ?r30
      case h30 => intro w hSw; obtain ⟨h0, h1, h2, h3, h4, h5, h6, h7, h8, h9, h10, h11⟩ := hSw; go_simp; rfl
      simp only [Act.put, List.setIfInBounds_toArray, List.set_cons_zero, List.set_cons_succ]
      clear hHeld
      refine wpAnyH_done (by kernel_rfl) ?_ _
      clear X8 X9 X11 X12 X17 Xb X14 D1 D2 D3 SXa SXb SYb SK
      have xXa0 := Xa.out.c0
      have xXa1 := Xa.out.c1
      go_wp2_with fail
      refine (refAdd_c Xa.out.is Xa.out.is (Nat.le_trans (Xa.out.is.len HS.out) (by omega)) (Nat.le_trans (Xa.out.is.len HS.out) (by omega))).mono ?_
      rintro e w19 ⟨t18, A18, n18, c18, rfl, i18, hb⟩
      replace P := Lib.hid (P.out.trans (hb.mono P.out.size))
      replace Xa := Lib.hid (Xa.out.next hb)
      replace X15 := Lib.hid (X15.out.next hb)
      clear hb xXa0 xXa1
      have X18 := Lib.hid (Nvr.new i18)
      replace P := Lib.hid (P.out.alloc P.out.size (.cells #[.bool t18, .slice A18 n18 c18] 24))
      replace Xa := Lib.hid (Xa.out.next (below_alloc _ (.cells #[.bool t18, .slice A18 n18 c18] 24)))
      replace X15 := Lib.hid (X15.out.next (below_alloc _ (.cells #[.bool t18, .slice A18 n18 c18] 24)))
      clear i18
      go_upto_region 12 with (fail)
      generalize w19.alloc (.cells #[.bool t18, .slice A18 n18 c18] 24) = v18 at P Xa X15 X18 ⊢
      obtain ⟨gX18, hg⟩ : ∃ g, g = w19.heap.size := ⟨_, rfl⟩
      rw [← hg] at X18 ⊢
      clear hg
      have S2 := Lib.hid (show Sz (a + a) 8 from HS.out.add HS.out)
      have SL := Lib.hid (show Sz (a + a - 1) 9 from S2.out.sub (sz_one' (by omega)))
      have HPS := Lib.hid (psi_pows HA.out N)
      rw [show 2 * a = a + a by omega] at HPS
      have SPH := Lib.hid (show Sz ((a + a) ^ N) 481 from (sz_pow2 S2.out N).le (by have := HN60.out; have : 8 * N ≤ 8 * 60 := Nat.mul_le_mul_left 8 this; omega))
      have SPL := Lib.hid (show Sz ((a + a - 1) ^ N) 541 from (sz_pow2 SL.out N).le (by have := HN60.out; have : 9 * N ≤ 9 * 60 := Nat.mul_le_mul_left 9 this; omega))
      have SY1 := Lib.hid (sz_psi_at HA.out HS.out (show N + 1 ≤ 120 by have := HN60.out; omega))
      go_cut [19, 20] (fun v v20 W => ∃ g t19 A19 n19 c19, v = .pointer (some ⟨g, 0, none⟩) ∧ v20 = .bool true ∧ Below w.heap.size w W ∧ Nvr W (gX14 + 1) (psi a (N + 1)) t15 A15 n15 c15 ∧ Nvr W gX18 (a + a) t18 A18 n18 c18 ∧ Nvr W g ((a + a - 1) ^ N) t19 A19 n19 c19)
      case first =>
        refine wp_region_held_drew (S := (fun w' => w'.cell? ⟨gX18, 0, none⟩ = some (.bool t18) ∧ w'.cell? ⟨gX18, 1, none⟩ = some (.slice A18 n18 c18))) (by kernel_rfl) ⟨cell_dr X18.out.c0, cell_dr X18.out.c1⟩ (fun hHeld => ?_)
        replace P := Lib.hid (P.out.trans ((Below.refl v18.heap.size v18).drew.mono P.out.size))
        replace Xa := Lib.hid (Xa.out.next (Below.refl v18.heap.size v18).drew)
        replace X15 := Lib.hid (X15.out.next (Below.refl v18.heap.size v18).drew)
        replace X18 := Lib.hid (X18.out.next (Below.refl v18.heap.size v18).drew)
        generalize v18.drew = D20 at P Xa X15 X18 hHeld ⊢
        refine take_on (i := 0) (d := (some 102)) (v := ?v31) rfl rfl (by kernel_rfl) (by kernel_rfl) (by kernel_rfl) (fun c a w h => h) (by rfl) ?h31 (by assumption) ?r31
        case h31 => intro w hSw; obtain ⟨h0, h1⟩ := hSw; go_simp; rfl
        simp only [Act.put, List.setIfInBounds_toArray, List.set_cons_zero, List.set_cons_succ]
        refine take_on (i := 3) (d := (some 105)) (v := ?v32) rfl rfl (by kernel_rfl) (by kernel_rfl) (by kernel_rfl) (fun c a w h => h) (by rfl) ?h32 (by assumption) ?r32
        case h32 => intro w hSw; obtain ⟨h0, h1⟩ := hSw; go_simp; rfl
        simp only [Act.put, List.setIfInBounds_toArray, List.set_cons_zero, List.set_cons_succ]
        refine wpAnyH_ready (rs := [1, 8]) (by kernel_rfl) (by simp) ?_
        refine AllReadyH.cons rfl (fun K hK => ?_) ?_
        ·
          go_simp
          refine (refOfV 1 _ (by omega) (by omega)).mono ?_
          rintro e w21 ⟨t30, A30, n30, c30, rfl, i30, hb⟩
          replace P := Lib.hid (P.out.trans (hb.mono P.out.size))
          replace Xa := Lib.hid (Xa.out.next hb)
          replace X15 := Lib.hid (X15.out.next hb)
          replace X18 := Lib.hid (X18.out.next hb)
          have J0 := Lib.hid (i30.is)
          clear hb hHeld i30
          refine hK.out _ _ ⟨X18.out.c0, X18.out.c1⟩ (fun hHeld => ?_)
          clear hK K
          refine wpAnyH_ready (rs := [2, 8]) (by kernel_rfl) (by simp) ?_
          refine AllReadyH.cons rfl (fun K hK => ?_) ?_
          ·
            go_simp
            refine (refSub_c X18.out.is J0.out (Nat.le_trans (X18.out.is.len S2.out) (by omega)) (Nat.le_trans (J0.out.len (sz_one' (Nat.le_refl 1))) (by omega))).mono ?_
            rintro e w22 ⟨t31, A31, n31, c31, rfl, i31, hb⟩
            replace P := Lib.hid (P.out.trans (hb.mono P.out.size))
            replace Xa := Lib.hid (Xa.out.next hb)
            replace X15 := Lib.hid (X15.out.next hb)
            replace X18 := Lib.hid (X18.out.next hb)
            replace J0 := Lib.hid (J0.out.below hb)
            have J1 := Lib.hid (i31)
            clear hb hHeld i31
            refine hK.out _ _ ⟨X18.out.c0, X18.out.c1⟩ (fun hHeld => ?_)
            clear hK K
            refine wpAnyH_ready (rs := [4, 8]) (by kernel_rfl) (by simp) ?_
            refine AllReadyH.cons rfl (fun K hK => ?_) ?_
            ·
              go_simp
              have HPw := refPower_c J1.out (Nat.le_trans (J1.out.len SL.out) (by omega)) N (by have := HN60.out; omega)
              rw [← HK.out] at HPw
              refine (HPw).mono ?_
              rintro e w23 ⟨t32, A32, n32, c32, ok, rfl, hyes, hno, hb⟩
              replace P := Lib.hid (P.out.trans (hb.mono P.out.size))
              replace Xa := Lib.hid (Xa.out.next hb)
              replace X15 := Lib.hid (X15.out.next hb)
              replace X18 := Lib.hid (X18.out.next hb)
              replace J0 := Lib.hid (J0.out.below hb)
              replace J1 := Lib.hid (J1.out.below hb)
              clear hb hHeld
              have hok : ok = true := by
                cases ok
                · exact absurd (Nat.le_trans SPL.out.len (by omega)) (hno rfl)
                · rfl
              subst hok
              have J2 := Lib.hid (hyes rfl)
              clear hyes hno HPw
              refine hK.out _ _ ⟨X18.out.c0, X18.out.c1⟩ (fun hHeld => ?_)
              clear hK K
              refine take_on (i := 5) (d := (some 101)) (v := ?v33) rfl rfl (by kernel_rfl) (by kernel_rfl) (by kernel_rfl) (fun c a w h => h) (by rfl) ?h33 (by assumption) ?r33
              case h33 => intro w hSw; obtain ⟨h0, h1⟩ := hSw; go_simp; rfl
              simp only [Act.put, List.setIfInBounds_toArray, List.set_cons_zero, List.set_cons_succ]
              refine take_on (i := 6) (d := (some 107)) (v := ?v34) rfl rfl (by kernel_rfl) (by kernel_rfl) (by kernel_rfl) (fun c a w h => h) (by rfl) ?h34 (by assumption) ?r34
              case h34 => intro w hSw; obtain ⟨h0, h1⟩ := hSw; go_simp; rfl
              simp only [Act.put, List.setIfInBounds_toArray, List.set_cons_zero, List.set_cons_succ]
              refine take_on (i := 7) (d := (some 108)) (v := ?v35) rfl rfl (by kernel_rfl) (by kernel_rfl) (by kernel_rfl) (fun c a w h => h) (by rfl) ?h35 (by assumption) ?r35
              case h35 => intro w hSw; obtain ⟨h0, h1⟩ := hSw; go_simp; rfl
              simp only [Act.put, List.setIfInBounds_toArray, List.set_cons_zero, List.set_cons_succ]
              refine wpAnyH_ready (rs := [8]) (by kernel_rfl) (by simp) ?_
              refine AllReadyH.cons rfl (fun K hK => ?_) AllReadyH.nil
              go_simp
              clear hHeld
              have V19 := Lib.hid (Nvr.new (is_zero8 w23))
              have lXa := Xa.out.lt
              have lX15 := X15.out.lt
              have lX18 := X18.out.lt
              replace P := Lib.hid (P.out.trans ((below_alloc _ (.cells #[.bool false, .slice none 0 0] 24)).mono P.out.size))
              replace Xa := Lib.hid (Xa.out.next (below_alloc _ (.cells #[.bool false, .slice none 0 0] 24)))
              replace X15 := Lib.hid (X15.out.next (below_alloc _ (.cells #[.bool false, .slice none 0 0] 24)))
              replace X18 := Lib.hid (X18.out.next (below_alloc _ (.cells #[.bool false, .slice none 0 0] 24)))
              replace J0 := Lib.hid (J0.out.below (below_alloc _ (.cells #[.bool false, .slice none 0 0] 24)))
              replace J1 := Lib.hid (J1.out.below (below_alloc _ (.cells #[.bool false, .slice none 0 0] 24)))
              replace J2 := Lib.hid (J2.out.below (below_alloc _ (.cells #[.bool false, .slice none 0 0] 24)))
              skip
              generalize w23.alloc (.cells #[.bool false, .slice none 0 0] 24) = y24 at P Xa X15 X18 J0 J1 J2 V19 ⊢
              generalize w23.heap.size = gV19 at V19 lXa lX15 lX18 ⊢
              refine hK.out _ _ ⟨X18.out.c0, X18.out.c1⟩ (fun hHeld => ?_)
              clear hK K
              refine wpAnyH_ready (rs := [9]) (by kernel_rfl) (by simp) ?_
              refine AllReadyH.cons rfl (fun K hK => ?_) AllReadyH.nil
              have p0 := V19.out.c0
              have p1 := V19.out.c1
              have p2 := V19.out.f0
              have p3 := V19.out.f1
              go_simp
              have P1 := Lib.hid (below_store P.out (show w.heap.size ≤ gV19 by have := HGA.out; omega) (.bool t32) (.slice A32 n32 c32))
              have X15b := Lib.hid (X15.out.far (show gV19 ≠ gX14 + 1 by omega) p0 p1 (.bool t32) (.slice A32 n32 c32))
              have X18b := Lib.hid (X18.out.far (show gV19 ≠ gX18 by omega) p0 p1 (.bool t32) (.slice A32 n32 c32))
              have V19b := Lib.hid (V19.out.put J2.out)
              clear p0 p1 p2 p3 hHeld P X15 X18 V19 Xa J0 J1 J2
              have P := P1
              have X15 := X15b
              have X18 := X18b
              have V19 := V19b
              clear P1 X15b X18b V19b
              generalize (y24.setCell ⟨gV19, 0, none⟩ (.bool t32)).setCell ⟨gV19, 1, none⟩ (.slice A32 n32 c32) = z25 at P X15 X18 V19 ⊢
              refine hK.out _ _ ⟨X18.out.c0, X18.out.c1⟩ (fun hHeld => ?_)
              clear hK K
              refine take_on (i := 10) (d := (some 20)) (v := ?v36) rfl rfl (by kernel_rfl) (by kernel_rfl) (by kernel_rfl) (fun c a w h => h) (by rfl) ?h36 (by assumption) ?r36
              case h36 => intro w hSw; obtain ⟨h0, h1⟩ := hSw; go_simp; rfl
              simp only [Act.put, List.setIfInBounds_toArray, List.set_cons_zero, List.set_cons_succ]
              clear hHeld
              refine wpAnyH_done (by kernel_rfl) ?_ _
              go_wp2
              go_meet
              exact ⟨gV19, _, _, _, _, rfl, rfl, P.out, X15.out, X18.out, V19.out⟩
            refine AllReadyH.cons rfl (fun K hK => ?_) ?_
            ·
              go_simp
              clear hHeld
              have V19 := Lib.hid (Nvr.new (is_zero8 w22))
              have lXa := Xa.out.lt
              have lX15 := X15.out.lt
              have lX18 := X18.out.lt
              replace P := Lib.hid (P.out.trans ((below_alloc _ (.cells #[.bool false, .slice none 0 0] 24)).mono P.out.size))
              replace Xa := Lib.hid (Xa.out.next (below_alloc _ (.cells #[.bool false, .slice none 0 0] 24)))
              replace X15 := Lib.hid (X15.out.next (below_alloc _ (.cells #[.bool false, .slice none 0 0] 24)))
              replace X18 := Lib.hid (X18.out.next (below_alloc _ (.cells #[.bool false, .slice none 0 0] 24)))
              replace J0 := Lib.hid (J0.out.below (below_alloc _ (.cells #[.bool false, .slice none 0 0] 24)))
              replace J1 := Lib.hid (J1.out.below (below_alloc _ (.cells #[.bool false, .slice none 0 0] 24)))
              skip
              generalize w22.alloc (.cells #[.bool false, .slice none 0 0] 24) = y26 at P Xa X15 X18 J0 J1 V19 ⊢
              generalize w22.heap.size = gV19 at V19 lXa lX15 lX18 ⊢
              refine hK.out _ _ ⟨X18.out.c0, X18.out.c1⟩ (fun hHeld => ?_)
              clear hK K
              refine wpAnyH_ready (rs := [4]) (by kernel_rfl) (by simp) ?_
              refine AllReadyH.cons rfl (fun K hK => ?_) AllReadyH.nil
              go_simp
              have HPw := refPower_c J1.out (Nat.le_trans (J1.out.len SL.out) (by omega)) N (by have := HN60.out; omega)
              rw [← HK.out] at HPw
              refine (HPw).mono ?_
              rintro e w27 ⟨t32, A32, n32, c32, ok, rfl, hyes, hno, hb⟩
              replace P := Lib.hid (P.out.trans (hb.mono P.out.size))
              replace Xa := Lib.hid (Xa.out.next hb)
              replace X15 := Lib.hid (X15.out.next hb)
              replace X18 := Lib.hid (X18.out.next hb)
              replace J0 := Lib.hid (J0.out.below hb)
              replace J1 := Lib.hid (J1.out.below hb)
              replace V19 := Lib.hid (V19.out.next hb)
              clear hb hHeld
              have hok : ok = true := by
                cases ok
                · exact absurd (Nat.le_trans SPL.out.len (by omega)) (hno rfl)
                · rfl
              subst hok
              have J2 := Lib.hid (hyes rfl)
              clear hyes hno HPw
              refine hK.out _ _ ⟨X18.out.c0, X18.out.c1⟩ (fun hHeld => ?_)
              clear hK K
              refine take_on (i := 5) (d := (some 101)) (v := ?v37) rfl rfl (by kernel_rfl) (by kernel_rfl) (by kernel_rfl) (fun c a w h => h) (by rfl) ?h37 (by assumption) ?r37
              case h37 => intro w hSw; obtain ⟨h0, h1⟩ := hSw; go_simp; rfl
              simp only [Act.put, List.setIfInBounds_toArray, List.set_cons_zero, List.set_cons_succ]
              refine take_on (i := 6) (d := (some 107)) (v := ?v38) rfl rfl (by kernel_rfl) (by kernel_rfl) (by kernel_rfl) (fun c a w h => h) (by rfl) ?h38 (by assumption) ?r38
              case h38 => intro w hSw; obtain ⟨h0, h1⟩ := hSw; go_simp; rfl
              simp only [Act.put, List.setIfInBounds_toArray, List.set_cons_zero, List.set_cons_succ]
              refine take_on (i := 7) (d := (some 108)) (v := ?v39) rfl rfl (by kernel_rfl) (by kernel_rfl) (by kernel_rfl) (fun c a w h => h) (by rfl) ?h39 (by assumption) ?r39
              case h39 => intro w hSw; obtain ⟨h0, h1⟩ := hSw; go_simp; rfl
              simp only [Act.put, List.setIfInBounds_toArray, List.set_cons_zero, List.set_cons_succ]
              refine wpAnyH_ready (rs := [9]) (by kernel_rfl) (by simp) ?_
              refine AllReadyH.cons rfl (fun K hK => ?_) AllReadyH.nil
              have p0 := V19.out.c0
              have p1 := V19.out.c1
              have p2 := V19.out.f0
              have p3 := V19.out.f1
              go_simp
              have P1 := Lib.hid (below_store P.out (show w.heap.size ≤ gV19 by have := HGA.out; omega) (.bool t32) (.slice A32 n32 c32))
              have X15b := Lib.hid (X15.out.far (show gV19 ≠ gX14 + 1 by omega) p0 p1 (.bool t32) (.slice A32 n32 c32))
              have X18b := Lib.hid (X18.out.far (show gV19 ≠ gX18 by omega) p0 p1 (.bool t32) (.slice A32 n32 c32))
              have V19b := Lib.hid (V19.out.put J2.out)
              clear p0 p1 p2 p3 hHeld P X15 X18 V19 Xa J0 J1 J2
              have P := P1
              have X15 := X15b
              have X18 := X18b
              have V19 := V19b
              clear P1 X15b X18b V19b
              generalize (w27.setCell ⟨gV19, 0, none⟩ (.bool t32)).setCell ⟨gV19, 1, none⟩ (.slice A32 n32 c32) = z28 at P X15 X18 V19 ⊢
              refine hK.out _ _ ⟨X18.out.c0, X18.out.c1⟩ (fun hHeld => ?_)
              clear hK K
              refine take_on (i := 10) (d := (some 20)) (v := ?v40) rfl rfl (by kernel_rfl) (by kernel_rfl) (by kernel_rfl) (fun c a w h => h) (by rfl) ?h40 (by assumption) ?r40
              case h40 => intro w hSw; obtain ⟨h0, h1⟩ := hSw; go_simp; rfl
              simp only [Act.put, List.setIfInBounds_toArray, List.set_cons_zero, List.set_cons_succ]
              clear hHeld
              refine wpAnyH_done (by kernel_rfl) ?_ _
              go_wp2
              go_meet
              exact ⟨gV19, _, _, _, _, rfl, rfl, P.out, X15.out, X18.out, V19.out⟩
            exact AllReadyH.nil
          refine AllReadyH.cons rfl (fun K hK => ?_) ?_
          ·
            go_simp
            clear hHeld
            have V19 := Lib.hid (Nvr.new (is_zero8 w21))
            have lXa := Xa.out.lt
            have lX15 := X15.out.lt
            have lX18 := X18.out.lt
            replace P := Lib.hid (P.out.trans ((below_alloc _ (.cells #[.bool false, .slice none 0 0] 24)).mono P.out.size))
            replace Xa := Lib.hid (Xa.out.next (below_alloc _ (.cells #[.bool false, .slice none 0 0] 24)))
            replace X15 := Lib.hid (X15.out.next (below_alloc _ (.cells #[.bool false, .slice none 0 0] 24)))
            replace X18 := Lib.hid (X18.out.next (below_alloc _ (.cells #[.bool false, .slice none 0 0] 24)))
            replace J0 := Lib.hid (J0.out.below (below_alloc _ (.cells #[.bool false, .slice none 0 0] 24)))
            skip
            generalize w21.alloc (.cells #[.bool false, .slice none 0 0] 24) = y29 at P Xa X15 X18 J0 V19 ⊢
            generalize w21.heap.size = gV19 at V19 lXa lX15 lX18 ⊢
            refine hK.out _ _ ⟨X18.out.c0, X18.out.c1⟩ (fun hHeld => ?_)
            clear hK K
            refine wpAnyH_ready (rs := [2]) (by kernel_rfl) (by simp) ?_
            refine AllReadyH.cons rfl (fun K hK => ?_) AllReadyH.nil
            go_simp
            refine (refSub_c X18.out.is J0.out (Nat.le_trans (X18.out.is.len S2.out) (by omega)) (Nat.le_trans (J0.out.len (sz_one' (Nat.le_refl 1))) (by omega))).mono ?_
            rintro e w30 ⟨t31, A31, n31, c31, rfl, i31, hb⟩
            replace P := Lib.hid (P.out.trans (hb.mono P.out.size))
            replace Xa := Lib.hid (Xa.out.next hb)
            replace X15 := Lib.hid (X15.out.next hb)
            replace X18 := Lib.hid (X18.out.next hb)
            replace J0 := Lib.hid (J0.out.below hb)
            replace V19 := Lib.hid (V19.out.next hb)
            have J1 := Lib.hid (i31)
            clear hb hHeld i31
            refine hK.out _ _ ⟨X18.out.c0, X18.out.c1⟩ (fun hHeld => ?_)
            clear hK K
            refine wpAnyH_ready (rs := [4]) (by kernel_rfl) (by simp) ?_
            refine AllReadyH.cons rfl (fun K hK => ?_) AllReadyH.nil
            go_simp
            have HPw := refPower_c J1.out (Nat.le_trans (J1.out.len SL.out) (by omega)) N (by have := HN60.out; omega)
            rw [← HK.out] at HPw
            refine (HPw).mono ?_
            rintro e w31 ⟨t32, A32, n32, c32, ok, rfl, hyes, hno, hb⟩
            replace P := Lib.hid (P.out.trans (hb.mono P.out.size))
            replace Xa := Lib.hid (Xa.out.next hb)
            replace X15 := Lib.hid (X15.out.next hb)
            replace X18 := Lib.hid (X18.out.next hb)
            replace J0 := Lib.hid (J0.out.below hb)
            replace V19 := Lib.hid (V19.out.next hb)
            replace J1 := Lib.hid (J1.out.below hb)
            clear hb hHeld
            have hok : ok = true := by
              cases ok
              · exact absurd (Nat.le_trans SPL.out.len (by omega)) (hno rfl)
              · rfl
            subst hok
            have J2 := Lib.hid (hyes rfl)
            clear hyes hno HPw
            refine hK.out _ _ ⟨X18.out.c0, X18.out.c1⟩ (fun hHeld => ?_)
            clear hK K
            refine take_on (i := 5) (d := (some 101)) (v := ?v41) rfl rfl (by kernel_rfl) (by kernel_rfl) (by kernel_rfl) (fun c a w h => h) (by rfl) ?h41 (by assumption) ?r41
            case h41 => intro w hSw; obtain ⟨h0, h1⟩ := hSw; go_simp; rfl
            simp only [Act.put, List.setIfInBounds_toArray, List.set_cons_zero, List.set_cons_succ]
            refine take_on (i := 6) (d := (some 107)) (v := ?v42) rfl rfl (by kernel_rfl) (by kernel_rfl) (by kernel_rfl) (fun c a w h => h) (by rfl) ?h42 (by assumption) ?r42
            case h42 => intro w hSw; obtain ⟨h0, h1⟩ := hSw; go_simp; rfl
            simp only [Act.put, List.setIfInBounds_toArray, List.set_cons_zero, List.set_cons_succ]
            refine take_on (i := 7) (d := (some 108)) (v := ?v43) rfl rfl (by kernel_rfl) (by kernel_rfl) (by kernel_rfl) (fun c a w h => h) (by rfl) ?h43 (by assumption) ?r43
            case h43 => intro w hSw; obtain ⟨h0, h1⟩ := hSw; go_simp; rfl
            simp only [Act.put, List.setIfInBounds_toArray, List.set_cons_zero, List.set_cons_succ]
            refine wpAnyH_ready (rs := [9]) (by kernel_rfl) (by simp) ?_
            refine AllReadyH.cons rfl (fun K hK => ?_) AllReadyH.nil
            have p0 := V19.out.c0
            have p1 := V19.out.c1
            have p2 := V19.out.f0
            have p3 := V19.out.f1
            go_simp
            have P1 := Lib.hid (below_store P.out (show w.heap.size ≤ gV19 by have := HGA.out; omega) (.bool t32) (.slice A32 n32 c32))
            have X15b := Lib.hid (X15.out.far (show gV19 ≠ gX14 + 1 by omega) p0 p1 (.bool t32) (.slice A32 n32 c32))
            have X18b := Lib.hid (X18.out.far (show gV19 ≠ gX18 by omega) p0 p1 (.bool t32) (.slice A32 n32 c32))
            have V19b := Lib.hid (V19.out.put J2.out)
            clear p0 p1 p2 p3 hHeld P X15 X18 V19 Xa J0 J1 J2
            have P := P1
            have X15 := X15b
            have X18 := X18b
            have V19 := V19b
            clear P1 X15b X18b V19b
            generalize (w31.setCell ⟨gV19, 0, none⟩ (.bool t32)).setCell ⟨gV19, 1, none⟩ (.slice A32 n32 c32) = z32 at P X15 X18 V19 ⊢
            refine hK.out _ _ ⟨X18.out.c0, X18.out.c1⟩ (fun hHeld => ?_)
            clear hK K
            refine take_on (i := 10) (d := (some 20)) (v := ?v44) rfl rfl (by kernel_rfl) (by kernel_rfl) (by kernel_rfl) (fun c a w h => h) (by rfl) ?h44 (by assumption) ?r44
            case h44 => intro w hSw; obtain ⟨h0, h1⟩ := hSw; go_simp; rfl
            simp only [Act.put, List.setIfInBounds_toArray, List.set_cons_zero, List.set_cons_succ]
            clear hHeld
            refine wpAnyH_done (by kernel_rfl) ?_ _
            go_wp2
            go_meet
            exact ⟨gV19, _, _, _, _, rfl, rfl, P.out, X15.out, X18.out, V19.out⟩
          exact AllReadyH.nil
        refine AllReadyH.cons rfl (fun K hK => ?_) ?_
        ·
          go_simp
          clear hHeld
          have V19 := Lib.hid (Nvr.new (is_zero8 D20))
          have lXa := Xa.out.lt
          have lX15 := X15.out.lt
          have lX18 := X18.out.lt
          replace P := Lib.hid (P.out.trans ((below_alloc _ (.cells #[.bool false, .slice none 0 0] 24)).mono P.out.size))
          replace Xa := Lib.hid (Xa.out.next (below_alloc _ (.cells #[.bool false, .slice none 0 0] 24)))
          replace X15 := Lib.hid (X15.out.next (below_alloc _ (.cells #[.bool false, .slice none 0 0] 24)))
          replace X18 := Lib.hid (X18.out.next (below_alloc _ (.cells #[.bool false, .slice none 0 0] 24)))
          skip
          generalize D20.alloc (.cells #[.bool false, .slice none 0 0] 24) = y33 at P Xa X15 X18 V19 ⊢
          generalize D20.heap.size = gV19 at V19 lXa lX15 lX18 ⊢
          refine hK.out _ _ ⟨X18.out.c0, X18.out.c1⟩ (fun hHeld => ?_)
          clear hK K
          refine wpAnyH_ready (rs := [1]) (by kernel_rfl) (by simp) ?_
          refine AllReadyH.cons rfl (fun K hK => ?_) AllReadyH.nil
          go_simp
          refine (refOfV 1 _ (by omega) (by omega)).mono ?_
          rintro e w34 ⟨t30, A30, n30, c30, rfl, i30, hb⟩
          replace P := Lib.hid (P.out.trans (hb.mono P.out.size))
          replace Xa := Lib.hid (Xa.out.next hb)
          replace X15 := Lib.hid (X15.out.next hb)
          replace X18 := Lib.hid (X18.out.next hb)
          replace V19 := Lib.hid (V19.out.next hb)
          have J0 := Lib.hid (i30.is)
          clear hb hHeld i30
          refine hK.out _ _ ⟨X18.out.c0, X18.out.c1⟩ (fun hHeld => ?_)
          clear hK K
          refine wpAnyH_ready (rs := [2]) (by kernel_rfl) (by simp) ?_
          refine AllReadyH.cons rfl (fun K hK => ?_) AllReadyH.nil
          go_simp
          refine (refSub_c X18.out.is J0.out (Nat.le_trans (X18.out.is.len S2.out) (by omega)) (Nat.le_trans (J0.out.len (sz_one' (Nat.le_refl 1))) (by omega))).mono ?_
          rintro e w35 ⟨t31, A31, n31, c31, rfl, i31, hb⟩
          replace P := Lib.hid (P.out.trans (hb.mono P.out.size))
          replace Xa := Lib.hid (Xa.out.next hb)
          replace X15 := Lib.hid (X15.out.next hb)
          replace X18 := Lib.hid (X18.out.next hb)
          replace V19 := Lib.hid (V19.out.next hb)
          replace J0 := Lib.hid (J0.out.below hb)
          have J1 := Lib.hid (i31)
          clear hb hHeld i31
          refine hK.out _ _ ⟨X18.out.c0, X18.out.c1⟩ (fun hHeld => ?_)
          clear hK K
          refine wpAnyH_ready (rs := [4]) (by kernel_rfl) (by simp) ?_
          refine AllReadyH.cons rfl (fun K hK => ?_) AllReadyH.nil
          go_simp
          have HPw := refPower_c J1.out (Nat.le_trans (J1.out.len SL.out) (by omega)) N (by have := HN60.out; omega)
          rw [← HK.out] at HPw
          refine (HPw).mono ?_
          rintro e w36 ⟨t32, A32, n32, c32, ok, rfl, hyes, hno, hb⟩
          replace P := Lib.hid (P.out.trans (hb.mono P.out.size))
          replace Xa := Lib.hid (Xa.out.next hb)
          replace X15 := Lib.hid (X15.out.next hb)
          replace X18 := Lib.hid (X18.out.next hb)
          replace V19 := Lib.hid (V19.out.next hb)
          replace J0 := Lib.hid (J0.out.below hb)
          replace J1 := Lib.hid (J1.out.below hb)
          clear hb hHeld
          have hok : ok = true := by
            cases ok
            · exact absurd (Nat.le_trans SPL.out.len (by omega)) (hno rfl)
            · rfl
          subst hok
          have J2 := Lib.hid (hyes rfl)
          clear hyes hno HPw
          refine hK.out _ _ ⟨X18.out.c0, X18.out.c1⟩ (fun hHeld => ?_)
          clear hK K
          refine take_on (i := 5) (d := (some 101)) (v := ?v45) rfl rfl (by kernel_rfl) (by kernel_rfl) (by kernel_rfl) (fun c a w h => h) (by rfl) ?h45 (by assumption) ?r45
          case h45 => intro w hSw; obtain ⟨h0, h1⟩ := hSw; go_simp; rfl
          simp only [Act.put, List.setIfInBounds_toArray, List.set_cons_zero, List.set_cons_succ]
          refine take_on (i := 6) (d := (some 107)) (v := ?v46) rfl rfl (by kernel_rfl) (by kernel_rfl) (by kernel_rfl) (fun c a w h => h) (by rfl) ?h46 (by assumption) ?r46
          case h46 => intro w hSw; obtain ⟨h0, h1⟩ := hSw; go_simp; rfl
          simp only [Act.put, List.setIfInBounds_toArray, List.set_cons_zero, List.set_cons_succ]
          refine take_on (i := 7) (d := (some 108)) (v := ?v47) rfl rfl (by kernel_rfl) (by kernel_rfl) (by kernel_rfl) (fun c a w h => h) (by rfl) ?h47 (by assumption) ?r47
          case h47 => intro w hSw; obtain ⟨h0, h1⟩ := hSw; go_simp; rfl
          simp only [Act.put, List.setIfInBounds_toArray, List.set_cons_zero, List.set_cons_succ]
          refine wpAnyH_ready (rs := [9]) (by kernel_rfl) (by simp) ?_
          refine AllReadyH.cons rfl (fun K hK => ?_) AllReadyH.nil
          have p0 := V19.out.c0
          have p1 := V19.out.c1
          have p2 := V19.out.f0
          have p3 := V19.out.f1
          go_simp
          have P1 := Lib.hid (below_store P.out (show w.heap.size ≤ gV19 by have := HGA.out; omega) (.bool t32) (.slice A32 n32 c32))
          have X15b := Lib.hid (X15.out.far (show gV19 ≠ gX14 + 1 by omega) p0 p1 (.bool t32) (.slice A32 n32 c32))
          have X18b := Lib.hid (X18.out.far (show gV19 ≠ gX18 by omega) p0 p1 (.bool t32) (.slice A32 n32 c32))
          have V19b := Lib.hid (V19.out.put J2.out)
          clear p0 p1 p2 p3 hHeld P X15 X18 V19 Xa J0 J1 J2
          have P := P1
          have X15 := X15b
          have X18 := X18b
          have V19 := V19b
          clear P1 X15b X18b V19b
          generalize (w36.setCell ⟨gV19, 0, none⟩ (.bool t32)).setCell ⟨gV19, 1, none⟩ (.slice A32 n32 c32) = z37 at P X15 X18 V19 ⊢
          refine hK.out _ _ ⟨X18.out.c0, X18.out.c1⟩ (fun hHeld => ?_)
          clear hK K
          refine take_on (i := 10) (d := (some 20)) (v := ?v48) rfl rfl (by kernel_rfl) (by kernel_rfl) (by kernel_rfl) (fun c a w h => h) (by rfl) ?h48 (by assumption) ?r48
          case h48 => intro w hSw; obtain ⟨h0, h1⟩ := hSw; go_simp; rfl
          simp only [Act.put, List.setIfInBounds_toArray, List.set_cons_zero, List.set_cons_succ]
          clear hHeld
          refine wpAnyH_done (by kernel_rfl) ?_ _
          go_wp2
          go_meet
          exact ⟨gV19, _, _, _, _, rfl, rfl, P.out, X15.out, X18.out, V19.out⟩
        exact AllReadyH.nil
      case rest =>
        obtain ⟨g19, t19, A19, n19, c19, rfl, rfl, hp, h1, h2, h3⟩ := hcut
        clear P Xa X15 X18
        have P := Lib.hid hp
        have X15 := Lib.hid h1
        have X18 := Lib.hid h2
        have X19 := Lib.hid h3
        clear hp h1 h2 h3
        have HPw := Lib.hid (fun (W : World) (i : Is W (a + a) t18 A18 n18 c18) => refPower_c i (Nat.le_trans (i.len S2.out) (by omega)) N (by have := HN60.out; omega))
        rw [← HK.out] at HPw
        have xX180 := X18.out.c0
        have xX181 := X18.out.c1
        go_wp2_with fail
        refine (HPw.out _ X18.out.is).mono ?_
        rintro e w38 ⟨t21, A21, n21, c21, ok, rfl, hyes, hno, hb⟩
        replace P := Lib.hid (P.out.trans (hb.mono P.out.size))
        replace X15 := Lib.hid (X15.out.next hb)
        replace X18 := Lib.hid (X18.out.next hb)
        replace X19 := Lib.hid (X19.out.next hb)
        clear hb xX180 xX181
        have hok : ok = true := by
          cases ok
          · exact absurd (Nat.le_trans SPH.out.len (by omega)) (hno rfl)
          · rfl
        subst hok
        have i21 := hyes rfl
        clear hyes hno HPw
        have X21 := Lib.hid (Nvr.new i21)
        replace P := Lib.hid (P.out.alloc P.out.size (.cells #[.bool t21, .slice A21 n21 c21] 24))
        replace X15 := Lib.hid (X15.out.next (below_alloc _ (.cells #[.bool t21, .slice A21 n21 c21] 24)))
        replace X18 := Lib.hid (X18.out.next (below_alloc _ (.cells #[.bool t21, .slice A21 n21 c21] 24)))
        replace X19 := Lib.hid (X19.out.next (below_alloc _ (.cells #[.bool t21, .slice A21 n21 c21] 24)))
        clear i21
        go_upto_region 14 with (fail)
        generalize w38.alloc (.cells #[.bool t21, .slice A21 n21 c21] 24) = v21 at P X15 X18 X19 X21 ⊢
        obtain ⟨gX21, hg⟩ : ∃ g, g = w38.heap.size := ⟨_, rfl⟩
        rw [← hg] at X21 ⊢
        clear hg
        obtain ⟨r5, hr5⟩ : ∃ r, r = ord ((a + a - 1) ^ N) (psi a (N + 1)) := ⟨_, rfl⟩
        obtain ⟨r6, hr6⟩ : ∃ r, r = ord (psi a (N + 1)) ((a + a) ^ N) := ⟨_, rfl⟩
        have q5 : r5 ≤ 0 := by rw [hr5]; exact ord_le' HPS.out.1
        have q6 : r6 ≤ 0 := by rw [hr6]; exact ord_le' HPS.out.2
        have q7 : decide (r5 ≤ 0) = true := decide_eq_true q5
        have q8 : decide (r6 ≤ 0) = true := decide_eq_true q6
        have HR5 := Lib.hid hr5.symm
        have HR6 := Lib.hid hr6.symm
        clear hr5 hr6
        have xX190 := X19.out.c0
        have xX191 := X19.out.c1
        have xX150 := X15.out.c0
        have xX151 := X15.out.c1
        go_wp2_with fail
        refine (refCmp_c X19.out.is X15.out.is (Nat.le_trans (X19.out.is.len SPL.out) (by omega)) (Nat.le_trans (X15.out.is.len SY1.out) (by omega))).mono ?_
        rw [HR5.out]
        rintro e w39 ⟨rfl, hb⟩
        replace P := Lib.hid (P.out.trans (hb.mono P.out.size))
        replace X15 := Lib.hid (X15.out.next hb)
        replace X18 := Lib.hid (X18.out.next hb)
        replace X19 := Lib.hid (X19.out.next hb)
        replace X21 := Lib.hid (X21.out.next hb)
        clear hb xX190 xX191 xX150 xX151
        have xX150 := X15.out.c0
        have xX151 := X15.out.c1
        have xX210 := X21.out.c0
        have xX211 := X21.out.c1
        go_wp2_with fail
        refine (refCmp_c X15.out.is X21.out.is (Nat.le_trans (X15.out.is.len SY1.out) (by omega)) (Nat.le_trans (X21.out.is.len SPH.out) (by omega))).mono ?_
        rw [HR6.out]
        rintro e w40 ⟨rfl, hb⟩
        replace P := Lib.hid (P.out.trans (hb.mono P.out.size))
        replace X15 := Lib.hid (X15.out.next hb)
        replace X18 := Lib.hid (X18.out.next hb)
        replace X19 := Lib.hid (X19.out.next hb)
        replace X21 := Lib.hid (X21.out.next hb)
        clear hb xX150 xX151 xX210 xX211
        go_wp2_with fail
        refine (awake8_c _).mono ?_
        rintro e u9 ⟨rfl, b9⟩
        have P9 := Lib.hid (P.out.trans (b9.mono P.out.size))
        clear b9
        go_wp2
        go_ret
        exact ⟨rfl, P9.out⟩
theorem LucasNear_i (s : Bool) (A : Option Addr) (n c : Nat) (xs : List Nat) (s' : Bool) (A' : Option Addr) (n' c' : Nat) (ys : List Nat) (a1 : Int) (w1 : (Lit.int .u8 a1).wf = true) (w : World) (h : Rd w A n xs) (hn : n ≤ c) (hc : c ≤ 9223372036854775807) (h' : Rd w A' n' ys) (hn' : n' ≤ c') (hc' : c' ≤ 9223372036854775807) :
    Calls Try.prog 10 #[.agg #[.bool s, .slice A n c], .agg #[.bool s', .slice A' n' c'], .int .u8 a1] w (IsB true w) := by
  obtain ⟨x, rfl, hx⟩ := nat_of_u8 w1
  exact LucasNear_c s A n c xs s' A' n' c' ys x (x % 61) (by omega) hx (by omega) w h hn hc h' hn' hc'
end Go.Proofs.Ytbblckaplddggaa

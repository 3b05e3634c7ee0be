import Derived.Test.YtbblckaplddggaaEb
import Derived.Test.YtbblckaplddggaaEc
import Derived.Test.YtbblckaplddggaaDb
import Derived.Test.YtbblckaplddggaaOc
import Derived.Test.YtbblckaplddggaaMt
set_option maxRecDepth 100000
namespace Go.Proofs.Ytbblckaplddggaa
open Go.RowKit Go.Shelf
theorem sz_small4 {z : Int} {k : Nat} (h : z.natAbs < 4294967296) (hk : 1 ≤ k) : Sz z k := by
  have : pw 1 ≤ pw k := pw_le hk
  rw [show pw 1 = 4294967296 by unfold pw; decide] at this
  show z.natAbs < pw k
  omega
theorem gcd_le_200 {M N : Nat} (hM : M ≤ 40) (hN : N ≤ 200) : Nat.gcd M N ≤ 200 := by
  rcases Nat.eq_zero_or_pos M with h | h
  · subst h; rw [Nat.gcd_zero_left]; exact hN
  · exact Nat.le_trans (Nat.gcd_le_left N h) (by omega)
theorem dvd_dec {a : Int} (ha : 2 ≤ a) (M N : Nat) : decide (psi a N % psi a M = 0) = decide ((N : Int) % (M : Int) = 0) := by
  rw [decide_eq_decide, ← Int.dvd_iff_emod_eq_zero, ← Int.dvd_iff_emod_eq_zero, psi_inj_dvd ha, Int.natCast_dvd_natCast]
theorem sq_dec {a : Int} (ha : 2 ≤ a) (M N : Nat) (hM : 1 ≤ M) : decide (psi a N % (psi a M * psi a M) = 0) = decide ((N : Int) % ((M : Int) * psi a M) = 0) := by
  rw [decide_eq_decide, ← Int.dvd_iff_emod_eq_zero, ← Int.dvd_iff_emod_eq_zero, psi_sq_dvd ha M N hM]
set_option maxHeartbeats 16000000 in
theorem LucasDivides_c (s : Bool) (A : Option Addr) (n c : Nat) (xs : List Nat) (x y M N : Nat) (hM : M ≤ 40) (hN : N ≤ 200) (hx : x < 256) (hy : y < 256) (e1 : (x : Int) % 41 = (M : Int)) (e2 : (y : Int) % 201 = (N : Int)) (w : World) (h : Rd w A n xs) (hn : n ≤ c) (hc : c ≤ 9223372036854775807) :
    Calls Try.prog 9 #[.agg #[.bool s, .slice A n c], .int .u8 (x : Int), .int .u8 (y : Int)] w (IsB true w) := by
  have hb := below_alloc w (.cells #[.bool s, .slice A n c] 24)
  have P := Lib.hid hb
  have V0 := Lib.hid (Vb.new w w s A n c (Nat.le_refl _))
  have RA := Lib.hid (h.below hb)
  have HN := Lib.hid (And.intro hn hc)
  have HMN := Lib.hid (And.intro hM hN)
  obtain ⟨Mi, hMi⟩ : ∃ K : Int, K = (M : Int) := ⟨_, rfl⟩
  obtain ⟨Ni, hNi⟩ : ∃ K : Int, K = (N : Int) := ⟨_, rfl⟩
  rw [← hMi] at e1
  rw [← hNi] at e2
  have m0 : 0 ≤ Mi := by omega
  have m1 : Mi ≤ 40 := by omega
  have n0 : 0 ≤ Ni := by omega
  have n1 : Ni ≤ 200 := by omega
  have HK := Lib.hid (And.intro hMi hNi)
  clear h hn hc hM hN hb hMi hNi
  go_enter Try.func9, Try.ntmps9
  go_upto_region 1 with (fail)
  generalize w.alloc (.cells #[.bool s, .slice A n c] 24) = W0 at P V0 RA ⊢
  obtain ⟨ga, hga⟩ : ∃ g, g = w.heap.size := ⟨_, rfl⟩
  have HGA := Lib.hid (show w.heap.size ≤ ga by omega)
  rw [← hga] at V0 ⊢
  clear hga
  have xV00 := V0.out.c0
  have xV01 := V0.out.c1
  go_wp2_with fail
  refine (small_c s A n c xs _ RA.out HN.out.1 HN.out.2).mono ?_
  rintro e w1 ⟨a, t0, A0, k0, c0, rfl, i0, ha, hs, hb⟩
  replace P := Lib.hid (P.out.trans (hb.mono P.out.size))
  replace V0 := Lib.hid (V0.out.below hb)
  replace RA := Lib.hid (RA.out.below hb)
  have I0 := Lib.hid (i0)
  clear hb xV00 xV01
  have HA := Lib.hid ha
  have HS := Lib.hid hs
  clear i0 ha hs
  clear RA
  have f0 := V0.out.c0
  have f1 := V0.out.c1
  have f2 := V0.out.f0
  have f3 := V0.out.f1
  go_upto_region 2 with (fail)
  have Xa := Lib.hid (V0.out.nvr I0.out.is)
  replace P := Lib.hid (below_store P.out (g := ga) HGA.out (.bool t0) (.slice A0 k0 c0))
  clear f0 f1 f2 f3 V0 I0
  generalize (w1.setCell ⟨ga, 0, none⟩ (.bool t0)).setCell ⟨ga, 1, none⟩ (.slice A0 k0 c0) = W1 at P Xa ⊢
  go_upto_region 3 with (fail)
  try rw [e1, e2]
  clear e1 e2 hx hy
  have SY := Lib.hid (sz_psi_b HA.out HS.out (show M ≤ 200 by have := HMN.out.1; omega))
  have SV := Lib.hid (sz_psi_b HA.out HS.out HMN.out.2)
  have HG := Lib.hid (gcd_le_200 HMN.out.1 HMN.out.2)
  have SG := Lib.hid (sz_psi_b HA.out HS.out HG.out)
  have HBo := Lib.hid (fun (W : World) (i : Iv W a t0 A0 k0 c0) (k : Nat) (hk : k ≤ 200) => both_c i HA.out k (by omega) ((sz_chi_b HA.out HS.out hk).le (by omega)) ((sz_psi_b HA.out HS.out hk).le (by omega)))
  have HB1 := HBo.out
  have HB2 := Lib.hid (fun (W : World) (i : Iv W a t0 A0 k0 c0) => HB1 W i (M) (by have := HMN.out.1; omega))
  clear HB1
  rw [show (((M) : Nat) : Int) = Mi by have := HK.out; omega] at HB2
  have xXa0 := Xa.out.c0
  have xXa1 := Xa.out.c1
  go_wp2_with fail
  refine (HB2.out _ (Xa.out.is.iv_of (HS.out.le (by omega)))).mono ?_
  rintro e w2 ⟨t8, A8, n8, c8, t9, A9, n9, c9, rfl, i8, i9, hb⟩
  replace P := Lib.hid (P.out.trans (hb.mono P.out.size))
  replace Xa := Lib.hid (Xa.out.next hb)
  clear hb xXa0 xXa1
  have XY := Lib.hid (Nvr.new (i9.is.below (below_alloc w2 (.cells #[.bool t8, .slice A8 n8 c8] 24))))
  rw [World.size_alloc] at XY
  replace P := Lib.hid ((P.out.alloc P.out.size (.cells #[.bool t8, .slice A8 n8 c8] 24)).alloc (by have := P.out.size; simp; omega) (.cells #[.bool t9, .slice A9 n9 c9] 24))
  replace Xa := Lib.hid ((Xa.out.next (below_alloc _ (.cells #[.bool t8, .slice A8 n8 c8] 24))).next (below_alloc _ (.cells #[.bool t9, .slice A9 n9 c9] 24)))
  clear i8 i9 HB2
  go_upto_region 4 with (fail)
  generalize (w2.alloc (.cells #[.bool t8, .slice A8 n8 c8] 24)).alloc (.cells #[.bool t9, .slice A9 n9 c9] 24) = v8 at P Xa XY ⊢
  obtain ⟨gXY, hg⟩ : ∃ g, g = w2.heap.size + 1 := ⟨_, rfl⟩
  obtain ⟨hXY, hh⟩ : ∃ g, g = w2.heap.size := ⟨_, rfl⟩
  rw [← hg] at XY ⊢
  try rw [← hh]
  clear hg hh
  have HB1 := HBo.out
  have HB2 := Lib.hid (fun (W : World) (i : Iv W a t0 A0 k0 c0) => HB1 W i (N) (HMN.out.2))
  clear HB1
  rw [show (((N) : Nat) : Int) = Ni by have := HK.out; omega] at HB2
  have xXa0 := Xa.out.c0
  have xXa1 := Xa.out.c1
  go_wp2_with fail
  refine (HB2.out _ (Xa.out.is.iv_of (HS.out.le (by omega)))).mono ?_
  rintro e w3 ⟨t11, A11, n11, c11, t12, A12, n12, c12, rfl, i11, i12, hb⟩
  replace P := Lib.hid (P.out.trans (hb.mono P.out.size))
  replace Xa := Lib.hid (Xa.out.next hb)
  replace XY := Lib.hid (XY.out.next hb)
  clear hb xXa0 xXa1
  have XV := Lib.hid (Nvr.new (i12.is.below (below_alloc w3 (.cells #[.bool t11, .slice A11 n11 c11] 24))))
  rw [World.size_alloc] at XV
  replace P := Lib.hid ((P.out.alloc P.out.size (.cells #[.bool t11, .slice A11 n11 c11] 24)).alloc (by have := P.out.size; simp; omega) (.cells #[.bool t12, .slice A12 n12 c12] 24))
  replace Xa := Lib.hid ((Xa.out.next (below_alloc _ (.cells #[.bool t11, .slice A11 n11 c11] 24))).next (below_alloc _ (.cells #[.bool t12, .slice A12 n12 c12] 24)))
  replace XY := Lib.hid ((XY.out.next (below_alloc _ (.cells #[.bool t11, .slice A11 n11 c11] 24))).next (below_alloc _ (.cells #[.bool t12, .slice A12 n12 c12] 24)))
  clear i11 i12 HB2
  go_upto_region 5 with (fail)
  generalize (w3.alloc (.cells #[.bool t11, .slice A11 n11 c11] 24)).alloc (.cells #[.bool t12, .slice A12 n12 c12] 24) = v11 at P Xa XY XV ⊢
  obtain ⟨gXV, hg⟩ : ∃ g, g = w3.heap.size + 1 := ⟨_, rfl⟩
  obtain ⟨hXV, hh⟩ : ∃ g, g = w3.heap.size := ⟨_, rfl⟩
  rw [← hg] at XV ⊢
  try rw [← hh]
  clear hg hh
  have SMi := Lib.hid (show Sz Mi 4096 from sz_small4 (by omega) (by omega))
  have SNi := Lib.hid (show Sz Ni 4096 from sz_small4 (by omega) (by omega))
  go_wp2_with fail
  refine (refOfV Mi _ (by omega) (by omega)).mono ?_
  rintro e w4 ⟨t20, A20, n20, c20, rfl, i20, hb⟩
  replace P := Lib.hid (P.out.trans (hb.mono P.out.size))
  replace Xa := Lib.hid (Xa.out.next hb)
  replace XY := Lib.hid (XY.out.next hb)
  replace XV := Lib.hid (XV.out.next hb)
  have J0 := Lib.hid (i20.is)
  clear hb
  clear i20
  go_wp2_with fail
  refine (refOfV Ni _ (by omega) (by omega)).mono ?_
  rintro e w5 ⟨t21, A21, n21, c21, rfl, i21, hb⟩
  replace P := Lib.hid (P.out.trans (hb.mono P.out.size))
  replace Xa := Lib.hid (Xa.out.next hb)
  replace XY := Lib.hid (XY.out.next hb)
  replace XV := Lib.hid (XV.out.next hb)
  replace J0 := Lib.hid (J0.out.below hb)
  have J1 := Lib.hid (i21.is)
  clear hb
  clear i21
  go_wp2_with fail
  refine (refGcd_c J0.out J1.out SMi.out SNi.out).mono ?_
  rintro e w6 ⟨t22, A22, n22, c22, rfl, i22, hb⟩
  replace P := Lib.hid (P.out.trans (hb.mono P.out.size))
  replace Xa := Lib.hid (Xa.out.next hb)
  replace XY := Lib.hid (XY.out.next hb)
  replace XV := Lib.hid (XV.out.next hb)
  replace J0 := Lib.hid (J0.out.below hb)
  replace J1 := Lib.hid (J1.out.below hb)
  clear hb
  have hgg : Int.gcd Mi Ni = Nat.gcd M N := by rw [HK.out.1, HK.out.2, Int.gcd_natCast_natCast]
  rw [hgg] at i22
  clear hgg J0 J1
  have XG := Lib.hid (Nvr.new i22)
  replace P := Lib.hid (P.out.alloc P.out.size (.cells #[.bool t22, .slice A22 n22 c22] 24))
  replace Xa := Lib.hid (Xa.out.next (below_alloc _ (.cells #[.bool t22, .slice A22 n22 c22] 24)))
  replace XY := Lib.hid (XY.out.next (below_alloc _ (.cells #[.bool t22, .slice A22 n22 c22] 24)))
  replace XV := Lib.hid (XV.out.next (below_alloc _ (.cells #[.bool t22, .slice A22 n22 c22] 24)))
  clear i22
  go_upto_region 6 with (fail)
  generalize w6.alloc (.cells #[.bool t22, .slice A22 n22 c22] 24) = v22 at P Xa XY XV XG ⊢
  obtain ⟨gXG, hg⟩ : ∃ g, g = w6.heap.size := ⟨_, rfl⟩
  rw [← hg] at XG ⊢
  clear hg
  have xXG0 := XG.out.c0
  have xXG1 := XG.out.c1
  go_wp2_with fail
  refine (refSmall_c (by have := HG.out; omega) XG.out.is).mono ?_
  rintro e w7 ⟨rfl, hb⟩
  replace P := Lib.hid (P.out.trans (hb.mono P.out.size))
  replace Xa := Lib.hid (Xa.out.next hb)
  replace XY := Lib.hid (XY.out.next hb)
  replace XV := Lib.hid (XV.out.next hb)
  replace XG := Lib.hid (XG.out.next hb)
  clear hb xXG0 xXG1
  clear XG
  obtain ⟨Gi, hGi⟩ : ∃ K : Int, K = ((Nat.gcd M N : Nat) : Int) := ⟨_, rfl⟩
  rw [← hGi]
  have HGi := Lib.hid hGi
  have gi0 : 0 ≤ Gi := by omega
  have gi1 : Gi ≤ 200 := by have := HG.out; omega
  clear hGi
  go_upto_region 7 with (fail)
  have HB1 := HBo.out
  have HB2 := Lib.hid (fun (W : World) (i : Iv W a t0 A0 k0 c0) => HB1 W i (Nat.gcd M N) (HG.out))
  clear HB1
  rw [show (((Nat.gcd M N) : Nat) : Int) = Gi by exact HGi.out.symm] at HB2
  have xXa0 := Xa.out.c0
  have xXa1 := Xa.out.c1
  go_wp2_with fail
  refine (HB2.out _ (Xa.out.is.iv_of (HS.out.le (by omega)))).mono ?_
  rintro e w8 ⟨t17, A17, n17, c17, t18, A18, n18, c18, rfl, i17, i18, hb⟩
  replace P := Lib.hid (P.out.trans (hb.mono P.out.size))
  replace Xa := Lib.hid (Xa.out.next hb)
  replace XY := Lib.hid (XY.out.next hb)
  replace XV := Lib.hid (XV.out.next hb)
  clear hb xXa0 xXa1
  have XZ := Lib.hid (Nvr.new (i18.is.below (below_alloc w8 (.cells #[.bool t17, .slice A17 n17 c17] 24))))
  rw [World.size_alloc] at XZ
  replace P := Lib.hid ((P.out.alloc P.out.size (.cells #[.bool t17, .slice A17 n17 c17] 24)).alloc (by have := P.out.size; simp; omega) (.cells #[.bool t18, .slice A18 n18 c18] 24))
  replace Xa := Lib.hid ((Xa.out.next (below_alloc _ (.cells #[.bool t17, .slice A17 n17 c17] 24))).next (below_alloc _ (.cells #[.bool t18, .slice A18 n18 c18] 24)))
  replace XY := Lib.hid ((XY.out.next (below_alloc _ (.cells #[.bool t17, .slice A17 n17 c17] 24))).next (below_alloc _ (.cells #[.bool t18, .slice A18 n18 c18] 24)))
  replace XV := Lib.hid ((XV.out.next (below_alloc _ (.cells #[.bool t17, .slice A17 n17 c17] 24))).next (below_alloc _ (.cells #[.bool t18, .slice A18 n18 c18] 24)))
  clear i17 i18 HB2
  go_upto_region 8 with (fail)
  generalize (w8.alloc (.cells #[.bool t17, .slice A17 n17 c17] 24)).alloc (.cells #[.bool t18, .slice A18 n18 c18] 24) = v17 at P Xa XY XV XZ ⊢
  obtain ⟨gXZ, hg⟩ : ∃ g, g = w8.heap.size + 1 := ⟨_, rfl⟩
  obtain ⟨hXZ, hh⟩ : ∃ g, g = w8.heap.size := ⟨_, rfl⟩
  rw [← hg] at XZ ⊢
  try rw [← hh]
  clear hg hh
  clear HBo
  obtain ⟨d1, hd1⟩ : ∃ d, d = decide (Ni % Mi = 0) := ⟨_, rfl⟩
  have HD1 := Lib.hid (show decide (psi a N % psi a M = 0) = d1 by rw [hd1, HK.out.1, HK.out.2]; exact dvd_dec HA.out M N)
  have HD2 := Lib.hid hd1.symm
  clear hd1
  have q1 : (d1 != d1) = false := by cases d1 <;> rfl
  have HGC := Lib.hid (psi_gcd HA.out M N)
  refine wp_region_held_drew (S := (fun w' => w'.cell? ⟨gXY, 0, none⟩ = some (.bool t9) ∧ w'.cell? ⟨gXY, 1, none⟩ = some (.slice A9 n9 c9) ∧ w'.cell? ⟨gXV, 0, none⟩ = some (.bool t12) ∧ w'.cell? ⟨gXV, 1, none⟩ = some (.slice A12 n12 c12) ∧ w'.cell? ⟨gXZ, 0, none⟩ = some (.bool t18) ∧ w'.cell? ⟨gXZ, 1, none⟩ = some (.slice A18 n18 c18))) (by kernel_rfl) ⟨cell_dr XY.out.c0, cell_dr XY.out.c1, cell_dr XV.out.c0, cell_dr XV.out.c1, cell_dr XZ.out.c0, cell_dr XZ.out.c1⟩ (fun hHeld => ?_)
  replace P := Lib.hid (P.out.trans ((Below.refl v17.heap.size v17).drew.mono P.out.size))
  replace Xa := Lib.hid (Xa.out.next (Below.refl v17.heap.size v17).drew)
  replace XY := Lib.hid (XY.out.next (Below.refl v17.heap.size v17).drew)
  replace XV := Lib.hid (XV.out.next (Below.refl v17.heap.size v17).drew)
  replace XZ := Lib.hid (XZ.out.next (Below.refl v17.heap.size v17).drew)
  generalize v17.drew = D9 at P Xa XY XV XZ hHeld ⊢
  refine take_on (i := 0) (d := (some 60)) (v := ?v1) rfl rfl (by kernel_rfl) (by kernel_rfl) (by kernel_rfl) (fun c a w h => h) (by rfl) ?h1 (by assumption) ?r1
  case h1 => intro w hSw; obtain ⟨h0, h1, h2, h3, h4, h5⟩ := hSw; go_simp; rfl
  simp only [Act.put, List.setIfInBounds_toArray, List.set_cons_zero, List.set_cons_succ]
  refine take_on (i := 1) (d := (some 61)) (v := ?v2) rfl rfl (by kernel_rfl) (by kernel_rfl) (by kernel_rfl) (fun c a w h => h) (by rfl) ?h2 (by assumption) ?r2
  case h2 => intro w hSw; obtain ⟨h0, h1, h2, h3, h4, h5⟩ := hSw; go_simp; rfl
  simp only [Act.put, List.setIfInBounds_toArray, List.set_cons_zero, List.set_cons_succ]
  refine take_on (i := 2) (d := (some 62)) (v := ?v3) rfl rfl (by kernel_rfl) (by kernel_rfl) (by kernel_rfl) (fun c a w h => h) (by rfl) ?h3 (by assumption) ?r3
  case h3 => intro w hSw; obtain ⟨h0, h1, h2, h3, h4, h5⟩ := hSw; go_simp; rfl
  simp only [Act.put, List.setIfInBounds_toArray, List.set_cons_zero, List.set_cons_succ]
  refine take_on (i := 3) (d := (some 63)) (v := ?v4) rfl rfl (by kernel_rfl) (by kernel_rfl) (by kernel_rfl) (fun c a w h => h) (by rfl) ?h4 (by assumption) ?r4
  case h4 => intro w hSw; obtain ⟨h0, h1, h2, h3, h4, h5⟩ := hSw; go_simp; rfl
  simp only [Act.put, List.setIfInBounds_toArray, List.set_cons_zero, List.set_cons_succ]
  refine take_on (i := 4) (d := (some 64)) (v := ?v5) rfl rfl (by kernel_rfl) (by kernel_rfl) (by kernel_rfl) (fun c a w h => h) (by rfl) ?h5 (by assumption) ?r5
  case h5 => intro w hSw; obtain ⟨h0, h1, h2, h3, h4, h5⟩ := hSw; go_simp; rfl
  simp only [Act.put, List.setIfInBounds_toArray, List.set_cons_zero, List.set_cons_succ]
  refine take_on (i := 5) (d := (some 65)) (v := ?v6) rfl rfl (by kernel_rfl) (by kernel_rfl) (by kernel_rfl) (fun c a w h => h) (by rfl) ?h6 (by assumption) ?r6
  case h6 => intro w hSw; obtain ⟨h0, h1, h2, h3, h4, h5⟩ := hSw; go_simp; rfl
  simp only [Act.put, List.setIfInBounds_toArray, List.set_cons_zero, List.set_cons_succ]
  refine take_on (i := 6) (d := (some 66)) (v := ?v7) rfl rfl (by kernel_rfl) (by kernel_rfl) (by kernel_rfl) (fun c a w h => h) (by rfl) ?h7 (by assumption) ?r7
  case h7 => intro w hSw; obtain ⟨h0, h1, h2, h3, h4, h5⟩ := hSw; go_simp; rfl
  simp only [Act.put, List.setIfInBounds_toArray, List.set_cons_zero, List.set_cons_succ]
  refine take_on (i := 7) (d := (some 67)) (v := ?v8) rfl rfl (by kernel_rfl) (by kernel_rfl) (by kernel_rfl) (fun c a w h => h) (by rfl) ?h8 (by assumption) ?r8
  case h8 => intro w hSw; obtain ⟨h0, h1, h2, h3, h4, h5⟩ := hSw; go_simp; rfl
  simp only [Act.put, List.setIfInBounds_toArray, List.set_cons_zero, List.set_cons_succ]
  refine take_on (i := 8) (d := (some 68)) (v := ?v9) rfl rfl (by kernel_rfl) (by kernel_rfl) (by kernel_rfl) (fun c a w h => h) (by rfl) ?h9 (by assumption) ?r9
  case h9 => intro w hSw; obtain ⟨h0, h1, h2, h3, h4, h5⟩ := hSw; go_simp; rfl
  simp only [Act.put, List.setIfInBounds_toArray, List.set_cons_zero, List.set_cons_succ]
  refine take_on (i := 9) (d := (some 69)) (v := ?v10) rfl rfl (by kernel_rfl) (by kernel_rfl) (by kernel_rfl) (fun c a w h => h) (by rfl) ?h10 (by assumption) ?r10
  case h10 => intro w hSw; obtain ⟨h0, h1, h2, h3, h4, h5⟩ := hSw; go_simp; rfl
  simp only [Act.put, List.setIfInBounds_toArray, List.set_cons_zero, List.set_cons_succ]
  refine take_on (i := 10) (d := (some 70)) (v := ?v11) rfl rfl (by kernel_rfl) (by kernel_rfl) (by kernel_rfl) (fun c a w h => h) (by rfl) ?h11 (by assumption) ?r11
  case h11 => intro w hSw; obtain ⟨h0, h1, h2, h3, h4, h5⟩ := hSw; go_simp; rfl
  simp only [Act.put, List.setIfInBounds_toArray, List.set_cons_zero, List.set_cons_succ]
  refine take_on (i := 11) (d := (some 71)) (v := ?v12) rfl rfl (by kernel_rfl) (by kernel_rfl) (by kernel_rfl) (fun c a w h => h) (by rfl) ?h12 (by assumption) ?r12
  case h12 => intro w hSw; obtain ⟨h0, h1, h2, h3, h4, h5⟩ := hSw; go_simp; rfl
  simp only [Act.put, List.setIfInBounds_toArray, List.set_cons_zero, List.set_cons_succ]
  refine take_on (i := 12) (d := (some 72)) (v := ?v13) rfl rfl (by kernel_rfl) (by kernel_rfl) (by kernel_rfl) (fun c a w h => h) (by rfl) ?h13 (by assumption) ?r13
  case h13 => intro w hSw; obtain ⟨h0, h1, h2, h3, h4, h5⟩ := hSw; go_simp; rfl
  simp only [Act.put, List.setIfInBounds_toArray, List.set_cons_zero, List.set_cons_succ]
  refine take_on (i := 14) (d := (some 74)) (v := ?v14) rfl rfl (by kernel_rfl) (by kernel_rfl) (by kernel_rfl) (fun c a w h => h) (by rfl) ?h14 (by assumption) ?r14
  case h14 => intro w hSw; obtain ⟨h0, h1, h2, h3, h4, h5⟩ := hSw; go_simp; rfl
  simp only [Act.put, List.setIfInBounds_toArray, List.set_cons_zero, List.set_cons_succ]
  refine take_on (i := 16) (d := (some 76)) (v := ?v15) rfl rfl (by kernel_rfl) (by kernel_rfl) (by kernel_rfl) (fun c a w h => h) (by rfl) ?h15 (by assumption) ?r15
  case h15 => intro w hSw; obtain ⟨h0, h1, h2, h3, h4, h5⟩ := hSw; go_simp; rfl
  simp only [Act.put, List.setIfInBounds_toArray, List.set_cons_zero, List.set_cons_succ]
  refine wpAnyH_ready (rs := [13]) (by kernel_rfl) (by simp) ?_
  refine AllReadyH.cons rfl (fun K hK => ?_) AllReadyH.nil
  go_simp
  refine (Divides_c XY.out.is XV.out.is (Nat.le_trans (XY.out.is.len SY.out) (by omega)) (Nat.le_trans (XV.out.is.len SV.out) (by omega))).mono ?_
  rw [HD1.out]
  rintro e w10 ⟨rfl, hb⟩
  replace P := Lib.hid (P.out.trans (hb.mono P.out.size))
  replace Xa := Lib.hid (Xa.out.next hb)
  replace XY := Lib.hid (XY.out.next hb)
  replace XV := Lib.hid (XV.out.next hb)
  replace XZ := Lib.hid (XZ.out.next hb)
  clear hb hHeld
  refine hK.out _ _ ⟨XY.out.c0, XY.out.c1, XV.out.c0, XV.out.c1, XZ.out.c0, XZ.out.c1⟩ (fun hHeld => ?_)
  clear hK K
  refine wpAnyH_ready (rs := [15]) (by kernel_rfl) (by simp) ?_
  refine AllReadyH.cons rfl (fun K hK => ?_) AllReadyH.nil
  go_simp
  refine (refOfV Mi _ (by omega) (by omega)).mono ?_
  rintro e w11 ⟨t30, A30, n30, c30, rfl, i30, hb⟩
  replace P := Lib.hid (P.out.trans (hb.mono P.out.size))
  replace Xa := Lib.hid (Xa.out.next hb)
  replace XY := Lib.hid (XY.out.next hb)
  replace XV := Lib.hid (XV.out.next hb)
  replace XZ := Lib.hid (XZ.out.next hb)
  have J0 := Lib.hid (i30.is)
  clear hb hHeld i30
  refine hK.out _ _ ⟨XY.out.c0, XY.out.c1, XV.out.c0, XV.out.c1, XZ.out.c0, XZ.out.c1⟩ (fun hHeld => ?_)
  clear hK K
  refine wpAnyH_ready (rs := [17]) (by kernel_rfl) (by simp) ?_
  refine AllReadyH.cons rfl (fun K hK => ?_) AllReadyH.nil
  go_simp
  refine (refOfV Ni _ (by omega) (by omega)).mono ?_
  rintro e w12 ⟨t31, A31, n31, c31, rfl, i31, hb⟩
  replace P := Lib.hid (P.out.trans (hb.mono P.out.size))
  replace Xa := Lib.hid (Xa.out.next hb)
  replace XY := Lib.hid (XY.out.next hb)
  replace XV := Lib.hid (XV.out.next hb)
  replace XZ := Lib.hid (XZ.out.next hb)
  replace J0 := Lib.hid (J0.out.below hb)
  have J1 := Lib.hid (i31.is)
  clear hb hHeld i31
  refine hK.out _ _ ⟨XY.out.c0, XY.out.c1, XV.out.c0, XV.out.c1, XZ.out.c0, XZ.out.c1⟩ (fun hHeld => ?_)
  clear hK K
  refine wpAnyH_ready (rs := [18]) (by kernel_rfl) (by simp) ?_
  refine AllReadyH.cons rfl (fun K hK => ?_) AllReadyH.nil
  go_simp
  refine (Divides_c J0.out J1.out (Nat.le_trans (J0.out.len SMi.out) (by omega)) (Nat.le_trans (J1.out.len SNi.out) (by omega))).mono ?_
  rw [HD2.out]
  rintro e w13 ⟨rfl, hb⟩
  clear J0 J1
  replace P := Lib.hid (P.out.trans (hb.mono P.out.size))
  replace Xa := Lib.hid (Xa.out.next hb)
  replace XY := Lib.hid (XY.out.next hb)
  replace XV := Lib.hid (XV.out.next hb)
  replace XZ := Lib.hid (XZ.out.next hb)
  clear hb hHeld
  refine hK.out _ _ ⟨XY.out.c0, XY.out.c1, XV.out.c0, XV.out.c1, XZ.out.c0, XZ.out.c1⟩ (fun hHeld => ?_)
  clear hK K
  refine take_on (i := 19) (d := (some 79)) (v := ?v16) rfl rfl (by kernel_rfl) (by kernel_rfl) (by kernel_rfl) (fun c a w h => h) (by rfl) ?h16 (by assumption) ?r16
  case h16 => intro w hSw; obtain ⟨h0, h1, h2, h3, h4, h5⟩ := hSw; go_simp; rfl
  simp only [Act.put, List.setIfInBounds_toArray, List.set_cons_zero, List.set_cons_succ]
  refine take_on (i := 20) (d := (some 80)) (v := ?v17) rfl rfl (by kernel_rfl) (by kernel_rfl) (by kernel_rfl) (fun c a w h => h) (by rfl) ?h17 (by assumption) ?r17
  case h17 => intro w hSw; obtain ⟨h0, h1, h2, h3, h4, h5⟩ := hSw; go_simp; rfl
  simp only [Act.put, List.setIfInBounds_toArray, List.set_cons_zero, List.set_cons_succ]
  refine take_on (i := 21) (d := (some 81)) (v := ?v18) rfl rfl (by kernel_rfl) (by kernel_rfl) (by kernel_rfl) (fun c a w h => h) (by rfl) ?h18 (by assumption) ?r18
  case h18 => intro w hSw; obtain ⟨h0, h1, h2, h3, h4, h5⟩ := hSw; go_simp; rfl
  simp only [Act.put, List.setIfInBounds_toArray, List.set_cons_zero, List.set_cons_succ]
  refine take_on (i := 22) (d := (some 82)) (v := ?v19) rfl rfl (by kernel_rfl) (by kernel_rfl) (by kernel_rfl) (fun c a w h => h) (by rfl) ?h19 (by assumption) ?r19
  case h19 => intro w hSw; obtain ⟨h0, h1, h2, h3, h4, h5⟩ := hSw; go_simp; rfl
  simp only [Act.put, List.setIfInBounds_toArray, List.set_cons_zero, List.set_cons_succ]
  refine take_on (i := 23) (d := (some 83)) (v := ?v20) rfl rfl (by kernel_rfl) (by kernel_rfl) (by kernel_rfl) (fun c a w h => h) (by rfl) ?h20 (by assumption) ?r20
  case h20 => intro w hSw; obtain ⟨h0, h1, h2, h3, h4, h5⟩ := hSw; go_simp; rfl
  simp only [Act.put, List.setIfInBounds_toArray, List.set_cons_zero, List.set_cons_succ]
  refine take_on (i := 25) (d := (some 85)) (v := ?v21) rfl rfl (by kernel_rfl) (by kernel_rfl) (by kernel_rfl) (fun c a w h => h) (by rfl) ?h21 (by assumption) ?r21
  case h21 => intro w hSw; obtain ⟨h0, h1, h2, h3, h4, h5⟩ := hSw; go_simp; rfl
  simp only [Act.put, List.setIfInBounds_toArray, List.set_cons_zero, List.set_cons_succ]
  refine wpAnyH_ready (rs := [24]) (by kernel_rfl) (by simp) ?_
  refine AllReadyH.cons rfl (fun K hK => ?_) AllReadyH.nil
  go_simp
  refine (refGcd_c XY.out.is XV.out.is (SY.out.le (by omega)) (SV.out.le (by omega))).mono ?_
  rintro e w14 ⟨t32, A32, n32, c32, rfl, i32, hb⟩
  replace P := Lib.hid (P.out.trans (hb.mono P.out.size))
  replace Xa := Lib.hid (Xa.out.next hb)
  replace XY := Lib.hid (XY.out.next hb)
  replace XV := Lib.hid (XV.out.next hb)
  replace XZ := Lib.hid (XZ.out.next hb)
  have J2 := Lib.hid (i32)
  clear hb hHeld i32
  refine hK.out _ _ ⟨XY.out.c0, XY.out.c1, XV.out.c0, XV.out.c1, XZ.out.c0, XZ.out.c1⟩ (fun hHeld => ?_)
  clear hK K
  refine wpAnyH_ready (rs := [26]) (by kernel_rfl) (by simp) ?_
  refine AllReadyH.cons rfl (fun K hK => ?_) AllReadyH.nil
  go_simp
  refine (same_eq (k := 4096) J2.out XZ.out.is (by rw [HGC.out]; exact SG.out.le (by omega)) (Nat.le_refl _) HGC.out).mono ?_
  rintro e w15 ⟨rfl, hb⟩
  clear J2
  replace P := Lib.hid (P.out.trans (hb.mono P.out.size))
  replace Xa := Lib.hid (Xa.out.next hb)
  replace XY := Lib.hid (XY.out.next hb)
  replace XV := Lib.hid (XV.out.next hb)
  replace XZ := Lib.hid (XZ.out.next hb)
  clear hb hHeld
  refine hK.out _ _ ⟨XY.out.c0, XY.out.c1, XV.out.c0, XV.out.c1, XZ.out.c0, XZ.out.c1⟩ (fun hHeld => ?_)
  clear hK K
  refine take_on (i := 27) (d := (some 87)) (v := ?v22) rfl rfl (by kernel_rfl) (by kernel_rfl) (by kernel_rfl) (fun c a w h => h) (by rfl) ?h22 (by assumption) ?r22
  case h22 => intro w hSw; obtain ⟨h0, h1, h2, h3, h4, h5⟩ := hSw; go_simp; rfl
  simp only [Act.put, List.setIfInBounds_toArray, List.set_cons_zero, List.set_cons_succ]
  refine take_on (i := 28) (d := (some 88)) (v := ?v23) rfl rfl (by kernel_rfl) (by kernel_rfl) (by kernel_rfl) (fun c a w h => h) (by rfl) ?h23 (by assumption) ?r23
  case h23 => intro w hSw; obtain ⟨h0, h1, h2, h3, h4, h5⟩ := hSw; go_simp; rfl
  simp only [Act.put, List.setIfInBounds_toArray, List.set_cons_zero, List.set_cons_succ]
  clear hHeld
  refine wpAnyH_done (by kernel_rfl) ?_ _
  clear HD1 HD2 q1 HGC XZ SG
  go_upto_region 10 with (fail)
  by_cases hz : Mi = 0
  · have z1 : decide (Mi = 0) = true := decide_eq_true hz
    have z2 : (Mi == 0) = true := by rw [hz]; rfl
    have HZ := Lib.hid hz
    clear hz
    refine wp_region_tail (S := (fun w' => w'.cell? ⟨gXY, 0, none⟩ = some (.bool t9) ∧ w'.cell? ⟨gXY, 1, none⟩ = some (.slice A9 n9 c9) ∧ w'.cell? ⟨gXV, 0, none⟩ = some (.bool t12) ∧ w'.cell? ⟨gXV, 1, none⟩ = some (.slice A12 n12 c12))) 20 (by kernel_rfl) (by kernel_rfl) (by intro c a d v w h; cases d <;> exact h) ⟨cell_dr XY.out.c0, cell_dr XY.out.c1, cell_dr XV.out.c0, cell_dr XV.out.c1⟩ (fun QT hT hP hHeld => ?_)
    simp only [List.extract_toArray, List.extract_eq_take_drop, List.drop_zero, Nat.sub_zero, List.take_succ_cons, List.take_zero]
    have HT := Lib.hid hT
    clear hT
    replace P := Lib.hid (P.out.trans ((Below.refl w15.heap.size w15).drew.mono P.out.size))
    replace Xa := Lib.hid (Xa.out.next (Below.refl w15.heap.size w15).drew)
    replace XY := Lib.hid (XY.out.next (Below.refl w15.heap.size w15).drew)
    replace XV := Lib.hid (XV.out.next (Below.refl w15.heap.size w15).drew)
    generalize w15.drew = D16 at P Xa XY XV hHeld ⊢
    refine take_on (i := 0) (d := (some 89)) (v := ?v24) rfl rfl (by kernel_rfl) (by kernel_rfl) (by kernel_rfl) (fun c a w h => hP c a _ _ w h) (by rfl) ?h24 (by assumption) ?r24
    case h24 => intro w hSw; obtain ⟨h0, h1, h2, h3⟩ := hSw; go_simp; rfl
    simp only [Act.put, List.setIfInBounds_toArray, List.set_cons_zero, List.set_cons_succ]
    refine take_on (i := 1) (d := (some 90)) (v := ?v25) rfl rfl (by kernel_rfl) (by kernel_rfl) (by kernel_rfl) (fun c a w h => hP c a _ _ w h) (by rfl) ?h25 (by assumption) ?r25
    case h25 => intro w hSw; obtain ⟨h0, h1, h2, h3⟩ := hSw; go_simp; rfl
    simp only [Act.put, List.setIfInBounds_toArray, List.set_cons_zero, List.set_cons_succ]
    refine take_on (i := 2) (d := (some 91)) (v := ?v26) rfl rfl (by kernel_rfl) (by kernel_rfl) (by kernel_rfl) (fun c a w h => hP c a _ _ w h) (by rfl) ?h26 (by assumption) ?r26
    case h26 => intro w hSw; obtain ⟨h0, h1, h2, h3⟩ := hSw; go_simp; rfl
    simp only [Act.put, List.setIfInBounds_toArray, List.set_cons_zero, List.set_cons_succ]
    refine take_off (i := 3) (d := (some 92)) rfl rfl (by kernel_rfl) (by kernel_rfl) (by kernel_rfl) (fun c a w h => hP c a _ _ w h) (by rfl) (by assumption) ?_
    simp only [Act.put, List.setIfInBounds_toArray, List.set_cons_zero, List.set_cons_succ]
    refine take_off (i := 4) (d := (some 93)) rfl rfl (by kernel_rfl) (by kernel_rfl) (by kernel_rfl) (fun c a w h => hP c a _ _ w h) (by rfl) (by assumption) ?_
    simp only [Act.put, List.setIfInBounds_toArray, List.set_cons_zero, List.set_cons_succ]
    refine take_off (i := 5) (d := (some 94)) rfl rfl (by kernel_rfl) (by kernel_rfl) (by kernel_rfl) (fun c a w h => hP c a _ _ w h) (by rfl) (by assumption) ?_
    simp only [Act.put, List.setIfInBounds_toArray, List.set_cons_zero, List.set_cons_succ]
    refine take_off (i := 6) (d := (some 95)) rfl rfl (by kernel_rfl) (by kernel_rfl) (by kernel_rfl) (fun c a w h => hP c a _ _ w h) (by rfl) (by assumption) ?_
    simp only [Act.put, List.setIfInBounds_toArray, List.set_cons_zero, List.set_cons_succ]
    refine take_off (i := 7) (d := (some 96)) rfl rfl (by kernel_rfl) (by kernel_rfl) (by kernel_rfl) (fun c a w h => hP c a _ _ w h) (by rfl) (by assumption) ?_
    simp only [Act.put, List.setIfInBounds_toArray, List.set_cons_zero, List.set_cons_succ]
    refine take_off (i := 8) (d := (some 97)) rfl rfl (by kernel_rfl) (by kernel_rfl) (by kernel_rfl) (fun c a w h => hP c a _ _ w h) (by rfl) (by assumption) ?_
    simp only [Act.put, List.setIfInBounds_toArray, List.set_cons_zero, List.set_cons_succ]
    refine take_off (i := 9) (d := (some 98)) rfl rfl (by kernel_rfl) (by kernel_rfl) (by kernel_rfl) (fun c a w h => hP c a _ _ w h) (by rfl) (by assumption) ?_
    simp only [Act.put, List.setIfInBounds_toArray, List.set_cons_zero, List.set_cons_succ]
    refine take_off (i := 10) (d := (some 99)) rfl rfl (by kernel_rfl) (by kernel_rfl) (by kernel_rfl) (fun c a w h => hP c a _ _ w h) (by rfl) (by assumption) ?_
    simp only [Act.put, List.setIfInBounds_toArray, List.set_cons_zero, List.set_cons_succ]
    refine take_off (i := 11) (d := (some 100)) rfl rfl (by kernel_rfl) (by kernel_rfl) (by kernel_rfl) (fun c a w h => hP c a _ _ w h) (by rfl) (by assumption) ?_
    simp only [Act.put, List.setIfInBounds_toArray, List.set_cons_zero, List.set_cons_succ]
    refine take_off (i := 12) (d := (some 101)) rfl rfl (by kernel_rfl) (by kernel_rfl) (by kernel_rfl) (fun c a w h => hP c a _ _ w h) (by rfl) (by assumption) ?_
    simp only [Act.put, List.setIfInBounds_toArray, List.set_cons_zero, List.set_cons_succ]
    refine take_off (i := 13) (d := (some 102)) rfl rfl (by kernel_rfl) (by kernel_rfl) (by kernel_rfl) (fun c a w h => hP c a _ _ w h) (by rfl) (by assumption) ?_
    simp only [Act.put, List.setIfInBounds_toArray, List.set_cons_zero, List.set_cons_succ]
    refine take_off (i := 14) (d := (some 103)) rfl rfl (by kernel_rfl) (by kernel_rfl) (by kernel_rfl) (fun c a w h => hP c a _ _ w h) (by rfl) (by assumption) ?_
    simp only [Act.put, List.setIfInBounds_toArray, List.set_cons_zero, List.set_cons_succ]
    refine take_off (i := 15) (d := (some 104)) rfl rfl (by kernel_rfl) (by kernel_rfl) (by kernel_rfl) (fun c a w h => hP c a _ _ w h) (by rfl) (by assumption) ?_
    simp only [Act.put, List.setIfInBounds_toArray, List.set_cons_zero, List.set_cons_succ]
    refine take_on (i := 16) (d := (some 105)) (v := ?v40) rfl rfl (by kernel_rfl) (by kernel_rfl) (by kernel_rfl) (fun c a w h => hP c a _ _ w h) (by rfl) ?h40 (by assumption) ?r40
    case h40 => intro w hSw; obtain ⟨h0, h1, h2, h3⟩ := hSw; go_simp; rfl
    simp only [Act.put, List.setIfInBounds_toArray, List.set_cons_zero, List.set_cons_succ]
    refine take_on (i := 17) (d := (some 106)) (v := ?v41) rfl rfl (by kernel_rfl) (by kernel_rfl) (by kernel_rfl) (fun c a w h => hP c a _ _ w h) (by rfl) ?h41 (by assumption) ?r41
    case h41 => intro w hSw; obtain ⟨h0, h1, h2, h3⟩ := hSw; go_simp; rfl
    simp only [Act.put, List.setIfInBounds_toArray, List.set_cons_zero, List.set_cons_succ]
    refine wpAnyH_ready (rs := [18]) (by kernel_rfl) (by simp) ?_
    refine AllReadyH.cons rfl (fun K hK => ?_) AllReadyH.nil
    go_simp
    refine (awake8_c _).mono ?_
    rintro e w17 ⟨rfl, hb⟩
    replace P := Lib.hid (P.out.trans (hb.mono P.out.size))
    replace Xa := Lib.hid (Xa.out.next hb)
    replace XY := Lib.hid (XY.out.next hb)
    replace XV := Lib.hid (XV.out.next hb)
    clear hb hHeld
    refine hK.out _ _ ⟨XY.out.c0, XY.out.c1, XV.out.c0, XV.out.c1⟩ (fun hHeld => ?_)
    clear hK K
    refine take_on (i := 19) (d := (some 108)) (v := ?v42) rfl rfl (by kernel_rfl) (by kernel_rfl) (by kernel_rfl) (fun c a w h => hP c a _ _ w h) (by rfl) ?h42 (by assumption) ?r42
    case h42 => intro w hSw; obtain ⟨h0, h1, h2, h3⟩ := hSw; go_simp; rfl
    simp only [Act.put, List.setIfInBounds_toArray, List.set_cons_zero, List.set_cons_succ]
    clear hHeld
    refine wpAnyH_done (by kernel_rfl) ?_ _
    refine HT.out _ _ ?_
    clear HT hP QT
    refine wpList_step fun K hK => ?_
    go_simp
    refine hK _ _ ?_
    clear hK K
    refine wpList_nil ?_
    go_wp2
    go_ret
    exact ⟨rfl, P.out⟩
  · have z1 : decide (Mi = 0) = false := decide_eq_false hz
    have z2 : (Mi == 0) = false := by rw [beq_eq_false_iff_ne]; exact hz
    obtain ⟨d2, hd2⟩ : ∃ d, d = decide (Ni % (Mi * psi a M) = 0) := ⟨_, rfl⟩
    have HD1 := Lib.hid (show decide (psi a N % (psi a M * psi a M) = 0) = d2 by rw [hd2, HK.out.1, HK.out.2]; exact sq_dec HA.out M N (by have := HK.out.1; omega))
    have HD2 := Lib.hid hd2.symm
    clear hd2
    have q1 : (d2 == d2) = true := by cases d2 <;> rfl
    have HZ := Lib.hid hz
    clear hz
    refine wp_region_tail (S := (fun w' => w'.cell? ⟨gXY, 0, none⟩ = some (.bool t9) ∧ w'.cell? ⟨gXY, 1, none⟩ = some (.slice A9 n9 c9) ∧ w'.cell? ⟨gXV, 0, none⟩ = some (.bool t12) ∧ w'.cell? ⟨gXV, 1, none⟩ = some (.slice A12 n12 c12))) 20 (by kernel_rfl) (by kernel_rfl) (by intro c a d v w h; cases d <;> exact h) ⟨cell_dr XY.out.c0, cell_dr XY.out.c1, cell_dr XV.out.c0, cell_dr XV.out.c1⟩ (fun QT hT hP hHeld => ?_)
    simp only [List.extract_toArray, List.extract_eq_take_drop, List.drop_zero, Nat.sub_zero, List.take_succ_cons, List.take_zero]
    have HT := Lib.hid hT
    clear hT
    replace P := Lib.hid (P.out.trans ((Below.refl w15.heap.size w15).drew.mono P.out.size))
    replace Xa := Lib.hid (Xa.out.next (Below.refl w15.heap.size w15).drew)
    replace XY := Lib.hid (XY.out.next (Below.refl w15.heap.size w15).drew)
    replace XV := Lib.hid (XV.out.next (Below.refl w15.heap.size w15).drew)
    generalize w15.drew = D18 at P Xa XY XV hHeld ⊢
    refine take_on (i := 0) (d := (some 89)) (v := ?v43) rfl rfl (by kernel_rfl) (by kernel_rfl) (by kernel_rfl) (fun c a w h => hP c a _ _ w h) (by rfl) ?h43 (by assumption) ?r43
    case h43 => intro w hSw; obtain ⟨h0, h1, h2, h3⟩ := hSw; go_simp; rfl
    simp only [Act.put, List.setIfInBounds_toArray, List.set_cons_zero, List.set_cons_succ]
    refine take_on (i := 1) (d := (some 90)) (v := ?v44) rfl rfl (by kernel_rfl) (by kernel_rfl) (by kernel_rfl) (fun c a w h => hP c a _ _ w h) (by rfl) ?h44 (by assumption) ?r44
    case h44 => intro w hSw; obtain ⟨h0, h1, h2, h3⟩ := hSw; go_simp; rfl
    simp only [Act.put, List.setIfInBounds_toArray, List.set_cons_zero, List.set_cons_succ]
    refine take_on (i := 2) (d := (some 91)) (v := ?v45) rfl rfl (by kernel_rfl) (by kernel_rfl) (by kernel_rfl) (fun c a w h => hP c a _ _ w h) (by rfl) ?h45 (by assumption) ?r45
    case h45 => intro w hSw; obtain ⟨h0, h1, h2, h3⟩ := hSw; go_simp; rfl
    simp only [Act.put, List.setIfInBounds_toArray, List.set_cons_zero, List.set_cons_succ]
    refine take_on (i := 3) (d := (some 92)) (v := ?v46) rfl rfl (by kernel_rfl) (by kernel_rfl) (by kernel_rfl) (fun c a w h => hP c a _ _ w h) (by rfl) ?h46 (by assumption) ?r46
    case h46 => intro w hSw; obtain ⟨h0, h1, h2, h3⟩ := hSw; go_simp; rfl
    simp only [Act.put, List.setIfInBounds_toArray, List.set_cons_zero, List.set_cons_succ]
    refine take_on (i := 4) (d := (some 93)) (v := ?v47) rfl rfl (by kernel_rfl) (by kernel_rfl) (by kernel_rfl) (fun c a w h => hP c a _ _ w h) (by rfl) ?h47 (by assumption) ?r47
    case h47 => intro w hSw; obtain ⟨h0, h1, h2, h3⟩ := hSw; go_simp; rfl
    simp only [Act.put, List.setIfInBounds_toArray, List.set_cons_zero, List.set_cons_succ]
    refine take_on (i := 6) (d := (some 95)) (v := ?v48) rfl rfl (by kernel_rfl) (by kernel_rfl) (by kernel_rfl) (fun c a w h => hP c a _ _ w h) (by rfl) ?h48 (by assumption) ?r48
    case h48 => intro w hSw; obtain ⟨h0, h1, h2, h3⟩ := hSw; go_simp; rfl
    simp only [Act.put, List.setIfInBounds_toArray, List.set_cons_zero, List.set_cons_succ]
    refine take_on (i := 8) (d := (some 97)) (v := ?v49) rfl rfl (by kernel_rfl) (by kernel_rfl) (by kernel_rfl) (fun c a w h => hP c a _ _ w h) (by rfl) ?h49 (by assumption) ?r49
    case h49 => intro w hSw; obtain ⟨h0, h1, h2, h3⟩ := hSw; go_simp; rfl
    simp only [Act.put, List.setIfInBounds_toArray, List.set_cons_zero, List.set_cons_succ]
    refine take_on (i := 10) (d := (some 99)) (v := ?v50) rfl rfl (by kernel_rfl) (by kernel_rfl) (by kernel_rfl) (fun c a w h => hP c a _ _ w h) (by rfl) ?h50 (by assumption) ?r50
    case h50 => intro w hSw; obtain ⟨h0, h1, h2, h3⟩ := hSw; go_simp; rfl
    simp only [Act.put, List.setIfInBounds_toArray, List.set_cons_zero, List.set_cons_succ]
    refine take_on (i := 12) (d := (some 101)) (v := ?v51) rfl rfl (by kernel_rfl) (by kernel_rfl) (by kernel_rfl) (fun c a w h => hP c a _ _ w h) (by rfl) ?h51 (by assumption) ?r51
    case h51 => intro w hSw; obtain ⟨h0, h1, h2, h3⟩ := hSw; go_simp; rfl
    simp only [Act.put, List.setIfInBounds_toArray, List.set_cons_zero, List.set_cons_succ]
    refine wpAnyH_ready (rs := [5]) (by kernel_rfl) (by simp) ?_
    refine AllReadyH.cons rfl (fun K hK => ?_) AllReadyH.nil
    go_simp
    refine (refMul_c XY.out.is XY.out.is (Nat.le_trans (XY.out.is.len SY.out) (by omega)) (Nat.le_trans (XY.out.is.len SY.out) (by omega))).mono ?_
    rintro e w19 ⟨t40, A40, n40, c40, rfl, i40, hb⟩
    replace P := Lib.hid (P.out.trans (hb.mono P.out.size))
    replace Xa := Lib.hid (Xa.out.next hb)
    replace XY := Lib.hid (XY.out.next hb)
    replace XV := Lib.hid (XV.out.next hb)
    have J0 := Lib.hid (i40)
    clear hb hHeld i40
    refine hK.out _ _ ⟨XY.out.c0, XY.out.c1, XV.out.c0, XV.out.c1⟩ (fun hHeld => ?_)
    clear hK K
    refine wpAnyH_ready (rs := [7]) (by kernel_rfl) (by simp) ?_
    refine AllReadyH.cons rfl (fun K hK => ?_) AllReadyH.nil
    go_simp
    refine (Divides_c J0.out XV.out.is (Nat.le_trans (J0.out.len (SY.out.mul SY.out)) (by omega)) (Nat.le_trans (XV.out.is.len SV.out) (by omega))).mono ?_
    rw [HD1.out]
    rintro e w20 ⟨rfl, hb⟩
    clear J0
    replace P := Lib.hid (P.out.trans (hb.mono P.out.size))
    replace Xa := Lib.hid (Xa.out.next hb)
    replace XY := Lib.hid (XY.out.next hb)
    replace XV := Lib.hid (XV.out.next hb)
    clear hb hHeld
    refine hK.out _ _ ⟨XY.out.c0, XY.out.c1, XV.out.c0, XV.out.c1⟩ (fun hHeld => ?_)
    clear hK K
    refine wpAnyH_ready (rs := [9]) (by kernel_rfl) (by simp) ?_
    refine AllReadyH.cons rfl (fun K hK => ?_) AllReadyH.nil
    go_simp
    refine (refOfV Mi _ (by omega) (by omega)).mono ?_
    rintro e w21 ⟨t41, A41, n41, c41, rfl, i41, hb⟩
    replace P := Lib.hid (P.out.trans (hb.mono P.out.size))
    replace Xa := Lib.hid (Xa.out.next hb)
    replace XY := Lib.hid (XY.out.next hb)
    replace XV := Lib.hid (XV.out.next hb)
    have J1 := Lib.hid (i41.is)
    clear hb hHeld i41
    refine hK.out _ _ ⟨XY.out.c0, XY.out.c1, XV.out.c0, XV.out.c1⟩ (fun hHeld => ?_)
    clear hK K
    refine wpAnyH_ready (rs := [11]) (by kernel_rfl) (by simp) ?_
    refine AllReadyH.cons rfl (fun K hK => ?_) AllReadyH.nil
    go_simp
    refine (refMul_c J1.out XY.out.is (Nat.le_trans (J1.out.len SMi.out) (by omega)) (Nat.le_trans (XY.out.is.len SY.out) (by omega))).mono ?_
    rintro e w22 ⟨t42, A42, n42, c42, rfl, i42, hb⟩
    replace P := Lib.hid (P.out.trans (hb.mono P.out.size))
    replace Xa := Lib.hid (Xa.out.next hb)
    replace XY := Lib.hid (XY.out.next hb)
    replace XV := Lib.hid (XV.out.next hb)
    replace J1 := Lib.hid (J1.out.below hb)
    have J2 := Lib.hid (i42)
    clear hb hHeld i42
    refine hK.out _ _ ⟨XY.out.c0, XY.out.c1, XV.out.c0, XV.out.c1⟩ (fun hHeld => ?_)
    clear hK K
    refine wpAnyH_ready (rs := [13]) (by kernel_rfl) (by simp) ?_
    refine AllReadyH.cons rfl (fun K hK => ?_) AllReadyH.nil
    go_simp
    refine (refOfV Ni _ (by omega) (by omega)).mono ?_
    rintro e w23 ⟨t43, A43, n43, c43, rfl, i43, hb⟩
    replace P := Lib.hid (P.out.trans (hb.mono P.out.size))
    replace Xa := Lib.hid (Xa.out.next hb)
    replace XY := Lib.hid (XY.out.next hb)
    replace XV := Lib.hid (XV.out.next hb)
    replace J1 := Lib.hid (J1.out.below hb)
    replace J2 := Lib.hid (J2.out.below hb)
    have J3 := Lib.hid (i43.is)
    clear hb hHeld i43
    refine hK.out _ _ ⟨XY.out.c0, XY.out.c1, XV.out.c0, XV.out.c1⟩ (fun hHeld => ?_)
    clear hK K
    refine wpAnyH_ready (rs := [14]) (by kernel_rfl) (by simp) ?_
    refine AllReadyH.cons rfl (fun K hK => ?_) AllReadyH.nil
    go_simp
    refine (Divides_c J2.out J3.out (Nat.le_trans (J2.out.len (SMi.out.mul SY.out)) (by omega)) (Nat.le_trans (J3.out.len SNi.out) (by omega))).mono ?_
    rw [HD2.out]
    rintro e w24 ⟨rfl, hb⟩
    clear J1 J2 J3
    replace P := Lib.hid (P.out.trans (hb.mono P.out.size))
    replace Xa := Lib.hid (Xa.out.next hb)
    replace XY := Lib.hid (XY.out.next hb)
    replace XV := Lib.hid (XV.out.next hb)
    clear hb hHeld
    refine hK.out _ _ ⟨XY.out.c0, XY.out.c1, XV.out.c0, XV.out.c1⟩ (fun hHeld => ?_)
    clear hK K
    refine take_on (i := 15) (d := (some 104)) (v := ?v52) rfl rfl (by kernel_rfl) (by kernel_rfl) (by kernel_rfl) (fun c a w h => hP c a _ _ w h) (by rfl) ?h52 (by assumption) ?r52
    case h52 => intro w hSw; obtain ⟨h0, h1, h2, h3⟩ := hSw; go_simp; rfl
    simp only [Act.put, List.setIfInBounds_toArray, List.set_cons_zero, List.set_cons_succ]
    refine take_on (i := 16) (d := (some 105)) (v := ?v53) rfl rfl (by kernel_rfl) (by kernel_rfl) (by kernel_rfl) (fun c a w h => hP c a _ _ w h) (by rfl) ?h53 (by assumption) ?r53
    case h53 => intro w hSw; obtain ⟨h0, h1, h2, h3⟩ := hSw; go_simp; rfl
    simp only [Act.put, List.setIfInBounds_toArray, List.set_cons_zero, List.set_cons_succ]
    refine take_on (i := 17) (d := (some 106)) (v := ?v54) rfl rfl (by kernel_rfl) (by kernel_rfl) (by kernel_rfl) (fun c a w h => hP c a _ _ w h) (by rfl) ?h54 (by assumption) ?r54
    case h54 => intro w hSw; obtain ⟨h0, h1, h2, h3⟩ := hSw; go_simp; rfl
    simp only [Act.put, List.setIfInBounds_toArray, List.set_cons_zero, List.set_cons_succ]
    refine wpAnyH_ready (rs := [18]) (by kernel_rfl) (by simp) ?_
    refine AllReadyH.cons rfl (fun K hK => ?_) AllReadyH.nil
    go_simp
    refine (awake8_c _).mono ?_
    rintro e w25 ⟨rfl, hb⟩
    replace P := Lib.hid (P.out.trans (hb.mono P.out.size))
    replace Xa := Lib.hid (Xa.out.next hb)
    replace XY := Lib.hid (XY.out.next hb)
    replace XV := Lib.hid (XV.out.next hb)
    clear hb hHeld
    refine hK.out _ _ ⟨XY.out.c0, XY.out.c1, XV.out.c0, XV.out.c1⟩ (fun hHeld => ?_)
    clear hK K
    refine take_on (i := 19) (d := (some 108)) (v := ?v55) rfl rfl (by kernel_rfl) (by kernel_rfl) (by kernel_rfl) (fun c a w h => hP c a _ _ w h) (by rfl) ?h55 (by assumption) ?r55
    case h55 => intro w hSw; obtain ⟨h0, h1, h2, h3⟩ := hSw; go_simp; rfl
    simp only [Act.put, List.setIfInBounds_toArray, List.set_cons_zero, List.set_cons_succ]
    clear hHeld
    refine wpAnyH_done (by kernel_rfl) ?_ _
    refine HT.out _ _ ?_
    clear HT hP QT
    refine wpList_step fun K hK => ?_
    go_simp
    refine hK _ _ ?_
    clear hK K
    refine wpList_nil ?_
    go_wp2
    go_ret
    exact ⟨rfl, P.out⟩
theorem LucasDivides_i (s : Bool) (A : Option Addr) (n c : Nat) (xs : List Nat) (a1 a2 : Int) (w1 : (Lit.int .u8 a1).wf = true) (w2 : (Lit.int .u8 a2).wf = true) (w : World) (h : Rd w A n xs) (hn : n ≤ c) (hc : c ≤ 9223372036854775807) :
    Calls Try.prog 9 #[.agg #[.bool s, .slice A n c], .int .u8 a1, .int .u8 a2] w (IsB true w) := by
  obtain ⟨x, rfl, hx⟩ := nat_of_u8 w1
  obtain ⟨y, rfl, hy⟩ := nat_of_u8 w2
  exact LucasDivides_c s A n c xs x y (x % 41) (y % 201) (by omega) (by omega) hx hy (by omega) (by omega) w h hn hc
end Go.Proofs.Ytbblckaplddggaa

import Derived.Test.YtbblckaplddggaaMt
import Derived.Test.YtbblckaplddggaaDy
import Derived.Deep.LoopGhost
import Derived.BigRegion
set_option maxRecDepth 100000
namespace Go.Proofs.Ytbblckaplddggaa
open Go.RowKit
theorem sz_natAbs {x : Int} {k : Nat} (h : Sz x k) : Sz ((x.natAbs : Nat) : Int) k := by
  unfold Sz at h ⊢
  rwa [Int.natAbs_natCast]
theorem gcd_step (u v : Int) : Int.gcd v (u % v) = Int.gcd u v := by
  rw [Int.gcd_comm u v]
  have h : u = u % v + v * (u / v) := by have := Int.emod_add_mul_ediv u v; omega
  conv => rhs; rw [h]
  rw [Int.gcd_add_mul_left_right]
set_option maxHeartbeats 8000000 in
/-- the reference's Gcd -/
theorem refGcd_c {w : World} {x : Int} {t : Bool} {A : Option Addr} {n c : Nat} {y : Int} {t' : Bool} {A' : Option Addr} {n' c' : Nat} (h : Is w x t A n c) (h' : Is w y t' A' n' c') (hs : Sz x 4096) (hs' : Sz y 4096) :
    Calls Try.prog 39 #[.agg #[.bool t, .slice A n c], .agg #[.bool t', .slice A' n' c']] w (NumI w ((Int.gcd x y : Nat) : Int)) := by
  have hb0 := below_alloc w (.cells #[.bool t, .slice A n c] 24)
  have hb1 := hb0.alloc hb0.size (.cells #[.bool t', .slice A' n' c'] 24)
  have P := Lib.hid (hb1.alloc hb1.size (.cells #[.bool false, .slice none 0 0] 24))
  have Xa := Lib.hid (((Nvr.new h).alloc (.cells #[.bool t', .slice A' n' c'] 24)).alloc (.cells #[.bool false, .slice none 0 0] 24))
  have Xb := Lib.hid ((Nvr.new (h'.below hb0)).alloc (.cells #[.bool false, .slice none 0 0] 24))
  have X4 := Lib.hid (Nvr.new (is_zero8 ((w.alloc (.cells #[.bool t, .slice A n c] 24)).alloc (.cells #[.bool t', .slice A' n' c'] 24))))
  simp only [World.size_alloc] at Xb X4
  have HS := Lib.hid (And.intro hs hs')
  clear h h' hs hs' hb0 hb1
  go_enter Try.func39, Try.ntmps39
  go_upto_region 1 with (fail)
  generalize ((w.alloc (.cells #[.bool t, .slice A n c] 24)).alloc (.cells #[.bool t', .slice A' n' c'] 24)).alloc (.cells #[.bool false, .slice none 0 0] 24) = W0 at P Xa Xb X4 ⊢
  obtain ⟨ga, hga⟩ : ∃ g, g = w.heap.size := ⟨_, rfl⟩
  have HGA := Lib.hid (show w.heap.size ≤ ga by omega)
  rw [← hga] at Xa Xb X4 ⊢
  clear hga
  refine wp_region_tail (S := (fun w' => w'.cell? ⟨ga, 0, none⟩ = some (.bool t) ∧ w'.cell? ⟨ga, 1, none⟩ = some (.slice A n c) ∧ w'.cell? ⟨ga + 1, 0, none⟩ = some (.bool t') ∧ w'.cell? ⟨ga + 1, 1, none⟩ = some (.slice A' n' c'))) 4 (by kernel_rfl) (by kernel_rfl) (by intro c a d v w h; cases d <;> exact h) ⟨cell_dr Xa.out.c0, cell_dr Xa.out.c1, cell_dr Xb.out.c0, cell_dr Xb.out.c1⟩ (fun QT hT hP hHeld => ?_)
  simp only [List.extract_toArray, List.extract_eq_take_drop, List.drop_zero, Nat.sub_zero, List.take_succ_cons, List.take_zero]
  have HT := Lib.hid hT
  clear hT
  replace P := Lib.hid (P.out.trans ((Below.refl W0.heap.size W0).drew.mono P.out.size))
  replace Xa := Lib.hid (Xa.out.next (Below.refl W0.heap.size W0).drew)
  replace Xb := Lib.hid (Xb.out.next (Below.refl W0.heap.size W0).drew)
  replace X4 := Lib.hid (X4.out.next (Below.refl W0.heap.size W0).drew)
  generalize W0.drew = D1 at P Xa Xb X4 hHeld ⊢
  refine take_on (i := 0) (d := (some 7)) (v := ?v1) rfl rfl (by kernel_rfl) (by kernel_rfl) (by kernel_rfl) (fun c a w h => hP c a _ _ w h) (by rfl) ?h1 (by assumption) ?r1
  case h1 => intro w hSw; obtain ⟨h0, h1, h2, h3⟩ := hSw; go_simp; rfl
  simp only [Act.put, List.setIfInBounds_toArray, List.set_cons_zero, List.set_cons_succ]
  refine take_on (i := 2) (d := (some 9)) (v := ?v2) rfl rfl (by kernel_rfl) (by kernel_rfl) (by kernel_rfl) (fun c a w h => hP c a _ _ w h) (by rfl) ?h2 (by assumption) ?r2
  case h2 => intro w hSw; obtain ⟨h0, h1, h2, h3⟩ := hSw; go_simp; rfl
  simp only [Act.put, List.setIfInBounds_toArray, List.set_cons_zero, List.set_cons_succ]
  refine wpAnyH_ready (rs := [1]) (by kernel_rfl) (by simp) ?_
  refine AllReadyH.cons rfl (fun K hK => ?_) AllReadyH.nil
  go_simp
  refine (refAbs2_c Xa.out.is (Nat.le_trans (Xa.out.is.len HS.out.1) (by omega))).mono ?_
  rintro e w2 ⟨t20, A20, n20, c20, rfl, i20, hb⟩
  replace P := Lib.hid (P.out.trans (hb.mono P.out.size))
  replace Xa := Lib.hid (Xa.out.next hb)
  replace Xb := Lib.hid (Xb.out.next hb)
  replace X4 := Lib.hid (X4.out.next hb)
  have J0 := Lib.hid (i20)
  clear hb hHeld i20
  refine hK.out _ _ ⟨Xa.out.c0, Xa.out.c1, Xb.out.c0, Xb.out.c1⟩ (fun hHeld => ?_)
  clear hK K
  refine wpAnyH_ready (rs := [3]) (by kernel_rfl) (by simp) ?_
  refine AllReadyH.cons rfl (fun K hK => ?_) AllReadyH.nil
  go_simp
  refine (refAbs2_c Xb.out.is (Nat.le_trans (Xb.out.is.len HS.out.2) (by omega))).mono ?_
  rintro e w3 ⟨t21, A21, n21, c21, rfl, i21, hb⟩
  replace P := Lib.hid (P.out.trans (hb.mono P.out.size))
  replace Xa := Lib.hid (Xa.out.next hb)
  replace Xb := Lib.hid (Xb.out.next hb)
  replace X4 := Lib.hid (X4.out.next hb)
  replace J0 := Lib.hid (J0.out.below hb)
  have J1 := Lib.hid (i21)
  clear hb hHeld i21
  refine hK.out _ _ ⟨Xa.out.c0, Xa.out.c1, Xb.out.c0, Xb.out.c1⟩ (fun hHeld => ?_)
  clear hK K
  clear hHeld
  refine wpAnyH_done (by kernel_rfl) ?_ _
  refine HT.out _ _ ?_
  clear HT hP QT
  have p0 := Xa.out.c0
  have p1 := Xa.out.c1
  have p2 := Xa.out.f0
  have p3 := Xa.out.f1
  refine wpList_step fun K hK => ?_
  go_simp
  refine hK _ _ ?_
  clear hK K
  replace P := Lib.hid (below_store P.out (show w.heap.size ≤ ga by have := HGA.out; omega) (.bool t20) (.slice A20 n20 c20))
  replace Xb := Lib.hid (Xb.out.far (show ga ≠ ga + 1 by omega) p0 p1 (.bool t20) (.slice A20 n20 c20))
  replace X4 := Lib.hid (X4.out.far (show ga ≠ ga + 1 + 1 by omega) p0 p1 (.bool t20) (.slice A20 n20 c20))
  replace J1 := Lib.hid (J1.out.store p0 p1 (.bool t20) (.slice A20 n20 c20))
  replace Xa := Lib.hid (Xa.out.put J0.out)
  clear p0 p1 p2 p3
  generalize (w3.setCell ⟨ga, 0, none⟩ (.bool t20)).setCell ⟨ga, 1, none⟩ (.slice A20 n20 c20) = U1 at P Xa Xb X4 J1 ⊢
  clear J0
  have p0 := Xb.out.c0
  have p1 := Xb.out.c1
  have p2 := Xb.out.f0
  have p3 := Xb.out.f1
  refine wpList_step fun K hK => ?_
  go_simp
  refine hK _ _ ?_
  clear hK K
  replace P := Lib.hid (below_store P.out (show w.heap.size ≤ ga + 1 by have := HGA.out; omega) (.bool t21) (.slice A21 n21 c21))
  replace Xa := Lib.hid (Xa.out.far (show ga + 1 ≠ ga by omega) p0 p1 (.bool t21) (.slice A21 n21 c21))
  replace X4 := Lib.hid (X4.out.far (show ga + 1 ≠ ga + 1 + 1 by omega) p0 p1 (.bool t21) (.slice A21 n21 c21))
  replace Xb := Lib.hid (Xb.out.put J1.out)
  clear p0 p1 p2 p3
  generalize (U1.setCell ⟨ga + 1, 0, none⟩ (.bool t21)).setCell ⟨ga + 1, 1, none⟩ (.slice A21 n21 c21) = U2 at P Xb Xa X4  ⊢
  clear J1
  refine wpList_nil ?_
  go_wp2
  go_loopg [] y.natAbs (fun gk wr => ∃ u v : Int, 0 ≤ u ∧ 0 ≤ v ∧ v.natAbs ≤ gk ∧ Sz u 4096 ∧ Sz v 4096 ∧ Int.gcd u v = Int.gcd x y ∧ Below w.heap.size w wr ∧ Nwx wr ga u ∧ Nwx wr (ga + 1) v ∧ Nvr wr (ga + 1 + 1) 0 false none 0 0)
  case atStart => exact ⟨((x.natAbs : Nat) : Int), ((y.natAbs : Nat) : Int), Int.natCast_nonneg _, Int.natCast_nonneg _, Nat.le_of_eq (Int.natAbs_natCast _), sz_natAbs HS.out.1, sz_natAbs HS.out.2, by simp [Int.gcd], P.out, Xa.out.nw, Xb.out.nw, X4.out⟩
  case round =>
    clear P Xa Xb X4
    obtain ⟨u, v, hu, hv, hgk, hsu, hsv, hgcd, hp, h3, h4, h5⟩ := hrel
    obtain ⟨t1, A1, n1, c1, h3⟩ := h3
    obtain ⟨t2, A2, n2, c2, h4⟩ := h4
    have P := Lib.hid hp
    have Xa := Lib.hid h3
    have Xb := Lib.hid h4
    have X4 := Lib.hid h5
    have HU := Lib.hid (And.intro hu (And.intro hv (And.intro hgk hgcd)))
    have HSU := Lib.hid (And.intro hsu hsv)
    clear hp h3 h4 h5 hu hv hgk hsu hsv hgcd
    have b0 := Xb.out.c0
    have b1 := Xb.out.c1
    by_cases hz : v = 0
    · have HZ := Lib.hid hz
      have t0 : decide (v = 0) = true := decide_eq_true hz
      clear hz
      go_wp2_with fail
      refine (Zero_z Xb.out.is).mono ?_
      rw [t0]
      rintro e w3 ⟨rfl, hb⟩
      replace P := Lib.hid (P.out.trans (hb.mono P.out.size))
      replace Xa := Lib.hid (Xa.out.next hb)
      replace X4 := Lib.hid (X4.out.next hb)
      clear hb b0 b1 t0 Xb
      have a0 := Xa.out.c0
      have a1 := Xa.out.c1
      have r0 := X4.out.c0
      have r1 := X4.out.c1
      have r2 := X4.out.f0
      have r3 := X4.out.f1
      go_wp2
      have Q := X4.out.put Xa.out.is
      have PB := below_store P.out (show w.heap.size ≤ ga + 1 + 1 by have := HGA.out; omega) (.bool t1) (.slice A1 n1 c1)
      have y0 := Q.c0
      have y1 := Q.c1
      refine bodyPost_ret (v := .agg #[.bool t1, .slice A1 n1 c1]) (by simp [results, Try.results39, go_sem, y0, y1]) rfl ?_
      refine ⟨_, _, _, _, rfl, ?_, PB⟩
      have hg : u = ((Int.gcd x y : Nat) : Int) := by
        have h1 := HU.out.2.2.2
        have h2 := HU.out.1
        rw [HZ.out, Int.gcd_zero_right] at h1
        omega
      rw [← hg]
      exact Q.is
    · have HZ := Lib.hid hz
      have t0 : decide (v = 0) = false := decide_eq_false hz
      clear hz
      go_wp2_with fail
      refine (Zero_z Xb.out.is).mono ?_
      rw [t0]
      rintro e w3 ⟨rfl, hb⟩
      replace P := Lib.hid (P.out.trans (hb.mono P.out.size))
      replace Xa := Lib.hid (Xa.out.next hb)
      replace Xb := Lib.hid (Xb.out.next hb)
      replace X4 := Lib.hid (X4.out.next hb)
      clear hb b0 b1 t0
      have a0 := Xa.out.c0
      have a1 := Xa.out.c1
      have b0 := Xb.out.c0
      have b1 := Xb.out.c1
      go_wp2_with fail
      refine (refDiv_c Xa.out.is Xb.out.is HZ.out (Nat.le_trans (Xa.out.is.len HSU.out.1) (by omega)) (Nat.le_trans (Xb.out.is.len HSU.out.2) (by omega))).mono ?_
      rintro e w4 ⟨t5, A5, n5, c5, t6, A6, n6, c6, rfl, hb, i5, i6⟩
      have h56 := (below_alloc w4 (.cells #[.bool t5, .slice A5 n5 c5] 24))
      have h57 := h56.trans ((below_alloc (w4.alloc (.cells #[.bool t5, .slice A5 n5 c5] 24)) (.cells #[.bool t6, .slice A6 n6 c6] 24)).mono h56.size)
      have hB := hb.trans (h57.mono hb.size)
      replace P := Lib.hid (P.out.trans (hB.mono P.out.size))
      have lB := Lib.hid (show ga + 1 + 1 < w4.heap.size from Nat.lt_of_lt_of_le X4.out.lt hb.size)
      replace Xa := Lib.hid (Xa.out.next hB)
      replace Xb := Lib.hid (Xb.out.next hB)
      replace X4 := Lib.hid (X4.out.next hB)
      have X6 := Lib.hid (Nvr.new (i6.below h56))
      rw [World.size_alloc] at X6
      clear hb i5 i6 h56 h57 hB a0 a1 b0 b1
      go_upto_region 4 with (fail)
      generalize (w4.alloc (.cells #[.bool t5, .slice A5 n5 c5] 24)).alloc (.cells #[.bool t6, .slice A6 n6 c6] 24) = W4 at P Xa Xb X4 X6 ⊢
      obtain ⟨g6, hg6⟩ : ∃ g, g = w4.heap.size + 1 := ⟨_, rfl⟩
      rw [← hg6] at X6 ⊢
      have HG6 := Lib.hid (show ga + 1 + 1 < g6 by have := lB.out; omega)
      clear hg6 lB
      have a0 := Xa.out.c0
      have a1 := Xa.out.c1
      have a2 := Xa.out.f0
      have a3 := Xa.out.f1
      have b0 := Xb.out.c0
      have b1 := Xb.out.c1
      have b2 := Xb.out.f0
      have b3 := Xb.out.f1
      have d0 := X6.out.c0
      have d1 := X6.out.c1
      have hg := HG6.out
      have f1 : ¬ ga = g6 := by omega
      have f2 : ¬ ga + 1 = g6 := by omega
      have f3 : ¬ g6 = ga := by omega
      have f4 : ¬ g6 = ga + 1 := by omega
      clear hg
      go_region
      have Y6 := Lib.hid (X6.out.far (show ga ≠ g6 by omega) a0 a1 (.bool t2) (.slice A2 n2 c2))
      have Y4 := Lib.hid (X4.out.far (show ga ≠ ga + 1 + 1 by omega) a0 a1 (.bool t2) (.slice A2 n2 c2))
      have Ya := Lib.hid (Xa.out.put Xb.out.is)
      have Yb := Lib.hid (Xb.out.far (show ga ≠ ga + 1 by omega) a0 a1 (.bool t2) (.slice A2 n2 c2))
      have YP := Lib.hid (below_store P.out HGA.out (.bool t2) (.slice A2 n2 c2))
      have Za := Lib.hid (Ya.out.far (show ga + 1 ≠ ga by omega) Yb.out.c0 Yb.out.c1 (.bool t6) (.slice A6 n6 c6))
      have Zb := Lib.hid (Yb.out.put Y6.out.is)
      have Z4 := Lib.hid (Y4.out.far (show ga + 1 ≠ ga + 1 + 1 by omega) Yb.out.c0 Yb.out.c1 (.bool t6) (.slice A6 n6 c6))
      have ZP := Lib.hid (below_store YP.out (show w.heap.size ≤ ga + 1 by have := HGA.out; omega) (.bool t6) (.slice A6 n6 c6))
      clear a0 a1 a2 a3 b0 b1 b2 b3 d0 d1 Y6 Y4 Ya Yb YP P Xa Xb X4 X6
      generalize (((W4.setCell ⟨ga, 0, none⟩ (.bool t2)).setCell ⟨ga, 1, none⟩ (.slice A2 n2 c2)).setCell ⟨ga + 1, 0, none⟩ (.bool t6)).setCell ⟨ga + 1, 1, none⟩ (.slice A6 n6 c6) = X at Za Zb Z4 ZP ⊢
      go_wp2
      go_roundg (u % v).natAbs
      case measure =>
        have h1 := HU.out.2.1
        have h2 := HU.out.2.2.1
        have h3 := Int.emod_lt_of_pos u (show 0 < v by have := HZ.out; omega)
        have h4 := Int.emod_nonneg u HZ.out
        omega
      case rel =>
        have hd := (Below.refl X.heap.size X).drew
        exact ⟨v, u % v, HU.out.2.1, Int.emod_nonneg u HZ.out, Nat.le_refl _, HSU.out.2, sz_rest (show 0 < v by have := HU.out.2.1; have := HZ.out; omega) HSU.out.2, by rw [gcd_step u v]; exact HU.out.2.2.2, ZP.out.trans (hd.mono ZP.out.size), (Za.out.next hd).nw, (Zb.out.next hd).nw, Z4.out.next hd⟩
end Go.Proofs.Ytbblckaplddggaa

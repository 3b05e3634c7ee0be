import Derived.Test.YtbblckaplddggaaDb
set_option maxRecDepth 100000
namespace Go.Proofs.Ytbblckaplddggaa
open Go.RowKit Go.Shelf
set_option maxHeartbeats 4000000 in
theorem rest_c {w : World} {x : Int} {t : Bool} {A : Option Addr} {n c : Nat} {y : Int} {t' : Bool} {A' : Option Addr} {n' c' : Nat} (h : Is w x t A n c) (h' : Is w y t' A' n' c') (hy : y ≠ 0) (hn : n ≤ 4398046511104) (hn' : n' ≤ 4398046511104) :
    Calls Try.prog 66 #[.agg #[.bool t, .slice A n c], .agg #[.bool t', .slice A' n' c']] w (NumI w (x % y)) := by
  have hb0 := below_alloc w (.cells #[.bool t, .slice A n c] 24)
  have hb1 := hb0.alloc hb0.size (.cells #[.bool t', .slice A' n' c'] 24)
  have P := Lib.hid (hb1.alloc hb1.size (.cells #[.bool false, .slice none 0 0] 24))
  have Xa := Lib.hid (((Nvr.new h).alloc (.cells #[.bool t', .slice A' n' c'] 24)).alloc (.cells #[.bool false, .slice none 0 0] 24))
  have Xb := Lib.hid ((Nvr.new (h'.below hb0)).alloc (.cells #[.bool false, .slice none 0 0] 24))
  have Xr := Lib.hid (Nvr.new (is_zero8 ((w.alloc (.cells #[.bool t, .slice A n c] 24)).alloc (.cells #[.bool t', .slice A' n' c'] 24))))
  simp only [World.size_alloc] at Xb Xr
  have HY := Lib.hid hy
  have HN := Lib.hid (And.intro hn hn')
  clear h h' hy hn hn' hb0 hb1
  go_enter Try.func66, Try.ntmps66
  go_upto_region 1 with (fail)
  generalize ((w.alloc (.cells #[.bool t, .slice A n c] 24)).alloc (.cells #[.bool t', .slice A' n' c'] 24)).alloc (.cells #[.bool false, .slice none 0 0] 24) = W0 at P Xa Xb Xr ⊢
  have a0 := Xa.out.c0
  have a1 := Xa.out.c1
  have b0 := Xb.out.c0
  have b1 := Xb.out.c1
  go_wp2_with fail
  refine (refDiv_c Xa.out.is Xb.out.is HY.out HN.out.1 HN.out.2).mono ?_
  rintro e w2 ⟨t2, A2, n2, c2, t3, A3, n3, c3, rfl, hb, i2, i3⟩
  have k1 := below_alloc w2 (.cells #[.bool t2, .slice A2 n2 c2] 24)
  have k2 := below_alloc (w2.alloc (.cells #[.bool t2, .slice A2 n2 c2] 24)) (.cells #[.bool t3, .slice A3 n3 c3] 24)
  have R := Lib.hid (Nvr.new (i3.below k1))
  rw [World.size_alloc] at R
  replace P := Lib.hid (((P.out.trans (hb.mono P.out.size)).trans (k1.mono (Nat.le_trans P.out.size hb.size))).trans (k2.mono (Nat.le_trans (Nat.le_trans P.out.size hb.size) k1.size)))
  replace Xr := Lib.hid (((Xr.out.next hb).next k1).next k2)
  clear hb i2 i3 k1 k2 a0 a1 b0 b1 Xa Xb
  go_upto_region 2 with (fail)
  generalize (w2.alloc (.cells #[.bool t2, .slice A2 n2 c2] 24)).alloc (.cells #[.bool t3, .slice A3 n3 c3] 24) = W2 at P R Xr ⊢
  have a0 := R.out.c0
  have a1 := R.out.c1
  have r0 := Xr.out.c0
  have r1 := Xr.out.c1
  have f0 := Xr.out.f0
  have f1 := Xr.out.f1
  go_wp2
  refine bodyPost_ret (v := .agg #[.bool t3, .slice A3 n3 c3]) (by simp [results, Try.results66, go_sem, r0, r1]) rfl ?_
  exact ⟨t3, A3, n3, c3, rfl, R.out.is.store r0 r1 _ _, below_store P.out (by omega) _ _⟩
set_option maxHeartbeats 4000000 in
theorem moduled_c {w : World} {x : Int} {t : Bool} {A : Option Addr} {n c : Nat} {y : Int} {t' : Bool} {A' : Option Addr} {n' c' : Nat} (h : Is w x t A n c) (h' : Is w y t' A' n' c') (hy : y ≠ 0) (hn : n ≤ 4398046511104) (hn' : n' ≤ 4398046511104) :
    Calls Try.prog 43 #[.agg #[.bool t, .slice A n c], .agg #[.bool t', .slice A' n' c']] w (NumI w (x % y)) := by
  have hb0 := below_alloc w (.cells #[.bool t, .slice A n c] 24)
  have hb1 := hb0.alloc hb0.size (.cells #[.bool t', .slice A' n' c'] 24)
  have P := Lib.hid (hb1.alloc hb1.size (.cells #[.bool false, .slice none 0 0] 24))
  have Xa := Lib.hid (((Nvr.new h).alloc (.cells #[.bool t', .slice A' n' c'] 24)).alloc (.cells #[.bool false, .slice none 0 0] 24))
  have Xb := Lib.hid ((Nvr.new (h'.below hb0)).alloc (.cells #[.bool false, .slice none 0 0] 24))
  have Xr := Lib.hid (Nvr.new (is_zero8 ((w.alloc (.cells #[.bool t, .slice A n c] 24)).alloc (.cells #[.bool t', .slice A' n' c'] 24))))
  simp only [World.size_alloc] at Xb Xr
  have HY := Lib.hid hy
  have HN := Lib.hid (And.intro hn hn')
  clear h h' hy hn hn' hb0 hb1
  go_enter Try.func43, Try.ntmps43
  go_upto_region 1 with (fail)
  generalize ((w.alloc (.cells #[.bool t, .slice A n c] 24)).alloc (.cells #[.bool t', .slice A' n' c'] 24)).alloc (.cells #[.bool false, .slice none 0 0] 24) = W0 at P Xa Xb Xr ⊢
  have a0 := Xa.out.c0
  have a1 := Xa.out.c1
  have b0 := Xb.out.c0
  have b1 := Xb.out.c1
  go_wp2_with fail
  refine (refDiv_c Xa.out.is Xb.out.is HY.out HN.out.1 HN.out.2).mono ?_
  rintro e w2 ⟨t2, A2, n2, c2, t3, A3, n3, c3, rfl, hb, i2, i3⟩
  have k1 := below_alloc w2 (.cells #[.bool t2, .slice A2 n2 c2] 24)
  have k2 := below_alloc (w2.alloc (.cells #[.bool t2, .slice A2 n2 c2] 24)) (.cells #[.bool t3, .slice A3 n3 c3] 24)
  have R := Lib.hid (Nvr.new (i3.below k1))
  rw [World.size_alloc] at R
  replace P := Lib.hid (((P.out.trans (hb.mono P.out.size)).trans (k1.mono (Nat.le_trans P.out.size hb.size))).trans (k2.mono (Nat.le_trans (Nat.le_trans P.out.size hb.size) k1.size)))
  replace Xr := Lib.hid (((Xr.out.next hb).next k1).next k2)
  clear hb i2 i3 k1 k2 a0 a1 b0 b1 Xa Xb
  go_upto_region 2 with (fail)
  generalize (w2.alloc (.cells #[.bool t2, .slice A2 n2 c2] 24)).alloc (.cells #[.bool t3, .slice A3 n3 c3] 24) = W2 at P R Xr ⊢
  have a0 := R.out.c0
  have a1 := R.out.c1
  have r0 := Xr.out.c0
  have r1 := Xr.out.c1
  have f0 := Xr.out.f0
  have f1 := Xr.out.f1
  go_wp2
  refine bodyPost_ret (v := .agg #[.bool t3, .slice A3 n3 c3]) (by simp [results, Try.results43, go_sem, r0, r1]) rfl ?_
  exact ⟨t3, A3, n3, c3, rfl, R.out.is.store r0 r1 _ _, below_store P.out (by omega) _ _⟩
end Go.Proofs.Ytbblckaplddggaa

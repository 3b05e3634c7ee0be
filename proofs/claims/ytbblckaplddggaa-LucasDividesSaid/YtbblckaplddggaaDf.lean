import Derived.Test.YtbblckaplddggaaDe
import Derived.Test.YtbblckaplddggaaMt
import Derived.Deep.DeepCutAuto
set_option maxRecDepth 100000
namespace Go.Proofs.Ytbblckaplddggaa
open Go.RowKit Go.Shelf
/-- the reference's word on the rank -/
def RRank (a m : Int) (most : Nat) (w : World) (e : Ending) (w' : World) : Prop :=
  ∃ (r : Nat) (b : Bool), e = .returned (.tuple #[.int .i64 (r : Int), .bool b]) ∧ Below w.heap.size w w' ∧
    ((b = true ∧ 1 ≤ r ∧ r ≤ most ∧ psi a r % m = 0 ∧ ∀ j, 1 ≤ j → j < r → psi a j % m ≠ 0) ∨ (b = false ∧ r = 0 ∧ ∀ j, 1 ≤ j → j ≤ most → psi a j % m ≠ 0))
theorem rest_next (a x y m : Int) : ((2 * a) % m * (y % m) - x % m) % m = (2 * a * y - x) % m := by
  rw [Int.sub_emod, ← Int.mul_emod, ← Int.sub_emod, Int.sub_emod, Int.emod_emod_of_dvd _ (Int.dvd_refl m), ← Int.sub_emod]
theorem sz_rest {x m : Int} {k : Nat} (hm : 0 < m) (hs : Sz m k) : Sz (x % m) k := by
  have h1 := Int.emod_nonneg x (show m ≠ 0 by omega)
  have h2 := Int.emod_lt_of_pos x hm
  exact sz_of_le' h1 (by omega) hs
set_option maxHeartbeats 16000000 in
theorem refRank_c {w : World} {a : Int} {t : Bool} {A : Option Addr} {n c : Nat} {m : Int} {t' : Bool} {A' : Option Addr} {n' c' : Nat} (h : Is w a t A n c) (h' : Is w m t' A' n' c') (hm : 0 < m) (hs : Sz a 4096) (hs' : Sz m 4096) (most : Nat) (hmost : most ≤ 1000000) :
    Calls Try.prog 33 #[.agg #[.bool t, .slice A n c], .agg #[.bool t', .slice A' n' c'], .int .i64 (most : Int)] w (RRank a m most w) := by
  have hb0 := below_alloc w (.cells #[.bool t, .slice A n c] 24)
  have P := Lib.hid (hb0.alloc hb0.size (.cells #[.bool t', .slice A' n' c'] 24))
  have Xa := Lib.hid ((Nvr.new h).alloc (.cells #[.bool t', .slice A' n' c'] 24))
  have Xm := Lib.hid (Nvr.new (h'.below hb0))
  rw [World.size_alloc] at Xm
  have HM := Lib.hid (And.intro hm (show m ≠ 0 by omega))
  have HS := Lib.hid (And.intro hs hs')
  obtain ⟨K, hK⟩ : ∃ K : Int, K = (most : Int) := ⟨_, rfl⟩
  rw [← hK]
  have k0 : 0 ≤ K := by omega
  have k1 : K ≤ 1000000 := by omega
  have HK := Lib.hid hK
  clear h h' hm hs hs' hb0 hK hmost
  go_enter Try.func33, Try.ntmps33
  go_upto_region 1 with (fail)
  generalize (w.alloc (.cells #[.bool t, .slice A n c] 24)).alloc (.cells #[.bool t', .slice A' n' c'] 24) = W0 at P Xa Xm ⊢
  obtain ⟨ga, hga⟩ : ∃ g, g = w.heap.size := ⟨_, rfl⟩
  have HGA := Lib.hid (show w.heap.size ≤ ga by omega)
  rw [← hga] at Xa Xm ⊢
  clear hga
  go_cut [8, 9] (fun v8 v9 W => ∃ g8 g9, v8 = .pointer (some ⟨g8, 0, none⟩) ∧ v9 = .pointer (some ⟨g9, 0, none⟩) ∧ Below w.heap.size w W ∧ Nvr W ga a t A n c ∧ Nvr W (ga + 1) m t' A' n' c' ∧ Nwx W g8 0 ∧ Nwx W g9 (1 % m) ∧ ga + 1 < g8 ∧ ga + 1 < g9 ∧ g8 ≠ g9)
  case first =>
    refine wp_region_tail (S := (fun w' => w'.cell? ⟨ga + 1, 0, none⟩ = some (.bool t') ∧ w'.cell? ⟨ga + 1, 1, none⟩ = some (.slice A' n' c'))) 6 (by kernel_rfl) (by kernel_rfl) (by intro c a d v w h; cases d <;> exact h) ⟨cell_dr Xm.out.c0, cell_dr Xm.out.c1⟩ (fun QT hT hP hHeld => ?_)
    simp only [List.extract_toArray, List.extract_eq_take_drop, List.drop_zero, Nat.sub_zero, List.take_succ_cons, List.take_zero]
    have HT := Lib.hid hT
    clear hT
    replace P := Lib.hid (P.out.trans ((Below.refl W0.heap.size W0).drew.mono P.out.size))
    replace Xa := Lib.hid (Xa.out.next (Below.refl W0.heap.size W0).drew)
    replace Xm := Lib.hid (Xm.out.next (Below.refl W0.heap.size W0).drew)
    generalize W0.drew = D1 at P Xa Xm hHeld ⊢
    refine take_on (i := 0) (d := (some 12)) (v := ?v1) rfl rfl (by kernel_rfl) (by kernel_rfl) (by kernel_rfl) (fun c a w h => hP c a _ _ w h) (by rfl) ?h1 (by assumption) ?r1
    case h1 => intro w hSw; obtain ⟨h0, h1⟩ := hSw; go_simp; rfl
    simp only [Act.put, List.setIfInBounds_toArray, List.set_cons_zero, List.set_cons_succ]
    refine take_on (i := 2) (d := (some 14)) (v := ?v2) rfl rfl (by kernel_rfl) (by kernel_rfl) (by kernel_rfl) (fun c a w h => hP c a _ _ w h) (by rfl) ?h2 (by assumption) ?r2
    case h2 => intro w hSw; obtain ⟨h0, h1⟩ := hSw; go_simp; rfl
    simp only [Act.put, List.setIfInBounds_toArray, List.set_cons_zero, List.set_cons_succ]
    refine wpAnyH_ready (rs := [1, 4, 5]) (by kernel_rfl) (by simp) ?_
    refine AllReadyH.cons rfl (fun K hK => ?_) ?_
    ·
      go_simp
      refine (refOfV 1 _ (by omega) (by omega)).mono ?_
      rintro e w2 ⟨t20, A20, n20, c20, rfl, i20, hb⟩
      replace P := Lib.hid (P.out.trans (hb.mono P.out.size))
      replace Xa := Lib.hid (Xa.out.next hb)
      replace Xm := Lib.hid (Xm.out.next hb)
      have J0 := Lib.hid (i20.is)
      clear hb hHeld i20
      refine hK.out _ _ ⟨Xm.out.c0, Xm.out.c1⟩ (fun hHeld => ?_)
      clear hK K
      refine wpAnyH_ready (rs := [3, 4, 5]) (by kernel_rfl) (by simp) ?_
      refine AllReadyH.cons rfl (fun K hK => ?_) ?_
      ·
        go_simp
        refine (rest_c J0.out Xm.out.is HM.out.2 (Nat.le_trans (J0.out.len (sz_one' (Nat.le_refl 1))) (by omega)) (Nat.le_trans (Xm.out.is.len HS.out.2) (by omega))).mono ?_
        rintro e w3 ⟨t21, A21, n21, c21, rfl, i21, hb⟩
        replace P := Lib.hid (P.out.trans (hb.mono P.out.size))
        replace Xa := Lib.hid (Xa.out.next hb)
        replace Xm := Lib.hid (Xm.out.next hb)
        replace J0 := Lib.hid (J0.out.below hb)
        have J1 := Lib.hid (i21)
        clear hb hHeld i21
        refine hK.out _ _ ⟨Xm.out.c0, Xm.out.c1⟩ (fun hHeld => ?_)
        clear hK K
        refine wpAnyH_ready (rs := [4, 5]) (by kernel_rfl) (by simp) ?_
        refine AllReadyH.cons rfl (fun K hK => ?_) ?_
        ·
          go_simp
          clear hHeld
          have V8 := Lib.hid (Nvr.new (is_zero8 w3))
          have lXa := Xa.out.lt
          have lXm := Xm.out.lt
          replace P := Lib.hid (P.out.trans ((below_alloc _ (.cells #[.bool false, .slice none 0 0] 24)).mono P.out.size))
          replace Xa := Lib.hid (Xa.out.next (below_alloc _ (.cells #[.bool false, .slice none 0 0] 24)))
          replace Xm := Lib.hid (Xm.out.next (below_alloc _ (.cells #[.bool false, .slice none 0 0] 24)))
          replace J0 := Lib.hid (J0.out.below (below_alloc _ (.cells #[.bool false, .slice none 0 0] 24)))
          replace J1 := Lib.hid (J1.out.below (below_alloc _ (.cells #[.bool false, .slice none 0 0] 24)))
          skip
          generalize w3.alloc (.cells #[.bool false, .slice none 0 0] 24) = y4 at P Xa Xm J0 J1 V8 ⊢
          generalize w3.heap.size = gV8 at V8 lXa lXm ⊢
          refine hK.out _ _ ⟨Xm.out.c0, Xm.out.c1⟩ (fun hHeld => ?_)
          clear hK K
          refine wpAnyH_ready (rs := [5]) (by kernel_rfl) (by simp) ?_
          refine AllReadyH.cons rfl (fun K hK => ?_) AllReadyH.nil
          go_simp
          clear hHeld
          have V9 := Lib.hid (Nvr.new (is_zero8 y4))
          have lXa := Xa.out.lt
          have lXm := Xm.out.lt
          have lV8 := V8.out.lt
          replace P := Lib.hid (P.out.trans ((below_alloc _ (.cells #[.bool false, .slice none 0 0] 24)).mono P.out.size))
          replace Xa := Lib.hid (Xa.out.next (below_alloc _ (.cells #[.bool false, .slice none 0 0] 24)))
          replace Xm := Lib.hid (Xm.out.next (below_alloc _ (.cells #[.bool false, .slice none 0 0] 24)))
          replace J0 := Lib.hid (J0.out.below (below_alloc _ (.cells #[.bool false, .slice none 0 0] 24)))
          replace J1 := Lib.hid (J1.out.below (below_alloc _ (.cells #[.bool false, .slice none 0 0] 24)))
          replace V8 := Lib.hid (V8.out.next (below_alloc _ (.cells #[.bool false, .slice none 0 0] 24)))
          skip
          generalize y4.alloc (.cells #[.bool false, .slice none 0 0] 24) = y5 at P Xa Xm J0 J1 V8 V9 ⊢
          generalize y4.heap.size = gV9 at V9 lXa lXm lV8 ⊢
          refine hK.out _ _ ⟨Xm.out.c0, Xm.out.c1⟩ (fun hHeld => ?_)
          clear hK K
          clear hHeld
          refine wpAnyH_done (by kernel_rfl) ?_ _
          refine HT.out _ _ ?_
          clear HT hP QT
          have p0 := V8.out.c0
          have p1 := V8.out.c1
          have p2 := V8.out.f0
          have p3 := V8.out.f1
          refine wpList_step fun K hK => ?_
          go_simp
          refine hK _ _ ?_
          clear hK K
          have hne : gV8 ≠ gV9 := by omega
          have V9b := Lib.hid (V9.out.far hne p0 p1 (.bool false) (.slice none 0 0))
          have Xab := Lib.hid (Xa.out.far (show gV8 ≠ ga by omega) p0 p1 (.bool false) (.slice none 0 0))
          have Xmb := Lib.hid (Xm.out.far (show gV8 ≠ ga + 1 by omega) p0 p1 (.bool false) (.slice none 0 0))
          have J1b := Lib.hid (J1.out.store p0 p1 (.bool false) (.slice none 0 0))
          have V8b := Lib.hid (V8.out.put (is_zero8 _))
          have Pb := Lib.hid (below_store P.out (show w.heap.size ≤ gV8 by have := HGA.out; omega) (.bool false) (.slice none 0 0))
          clear p0 p1 p2 p3 P Xa Xm V8 V9 J0 J1
          generalize (y5.setCell ⟨gV8, 0, none⟩ (.bool false)).setCell ⟨gV8, 1, none⟩ (.slice none 0 0) = U1 at V9b Xab Xmb J1b V8b Pb ⊢
          have p0 := V9b.out.c0
          have p1 := V9b.out.c1
          have p2 := V9b.out.f0
          have p3 := V9b.out.f1
          refine wpList_step fun K hK => ?_
          go_simp
          refine hK _ _ ?_
          clear hK K
          refine wpList_nil ?_
          go_wp2
          go_meet
          exact ⟨gV8, gV9, rfl, rfl, below_store Pb.out (show w.heap.size ≤ gV9 by have := HGA.out; omega) _ _, Xab.out.far (by omega) p0 p1 _ _, Xmb.out.far (by omega) p0 p1 _ _, (V8b.out.far (by omega) p0 p1 _ _).nw, (V9b.out.put J1b.out).nw, by omega, by omega, hne⟩
        refine AllReadyH.cons rfl (fun K hK => ?_) ?_
        ·
          go_simp
          clear hHeld
          have V9 := Lib.hid (Nvr.new (is_zero8 w3))
          have lXa := Xa.out.lt
          have lXm := Xm.out.lt
          replace P := Lib.hid (P.out.trans ((below_alloc _ (.cells #[.bool false, .slice none 0 0] 24)).mono P.out.size))
          replace Xa := Lib.hid (Xa.out.next (below_alloc _ (.cells #[.bool false, .slice none 0 0] 24)))
          replace Xm := Lib.hid (Xm.out.next (below_alloc _ (.cells #[.bool false, .slice none 0 0] 24)))
          replace J0 := Lib.hid (J0.out.below (below_alloc _ (.cells #[.bool false, .slice none 0 0] 24)))
          replace J1 := Lib.hid (J1.out.below (below_alloc _ (.cells #[.bool false, .slice none 0 0] 24)))
          skip
          generalize w3.alloc (.cells #[.bool false, .slice none 0 0] 24) = y6 at P Xa Xm J0 J1 V9 ⊢
          generalize w3.heap.size = gV9 at V9 lXa lXm ⊢
          refine hK.out _ _ ⟨Xm.out.c0, Xm.out.c1⟩ (fun hHeld => ?_)
          clear hK K
          refine wpAnyH_ready (rs := [4]) (by kernel_rfl) (by simp) ?_
          refine AllReadyH.cons rfl (fun K hK => ?_) AllReadyH.nil
          go_simp
          clear hHeld
          have V8 := Lib.hid (Nvr.new (is_zero8 y6))
          have lXa := Xa.out.lt
          have lXm := Xm.out.lt
          have lV9 := V9.out.lt
          replace P := Lib.hid (P.out.trans ((below_alloc _ (.cells #[.bool false, .slice none 0 0] 24)).mono P.out.size))
          replace Xa := Lib.hid (Xa.out.next (below_alloc _ (.cells #[.bool false, .slice none 0 0] 24)))
          replace Xm := Lib.hid (Xm.out.next (below_alloc _ (.cells #[.bool false, .slice none 0 0] 24)))
          replace J0 := Lib.hid (J0.out.below (below_alloc _ (.cells #[.bool false, .slice none 0 0] 24)))
          replace J1 := Lib.hid (J1.out.below (below_alloc _ (.cells #[.bool false, .slice none 0 0] 24)))
          replace V9 := Lib.hid (V9.out.next (below_alloc _ (.cells #[.bool false, .slice none 0 0] 24)))
          skip
          generalize y6.alloc (.cells #[.bool false, .slice none 0 0] 24) = y7 at P Xa Xm J0 J1 V9 V8 ⊢
          generalize y6.heap.size = gV8 at V8 lXa lXm lV9 ⊢
          refine hK.out _ _ ⟨Xm.out.c0, Xm.out.c1⟩ (fun hHeld => ?_)
          clear hK K
          clear hHeld
          refine wpAnyH_done (by kernel_rfl) ?_ _
          refine HT.out _ _ ?_
          clear HT hP QT
          have p0 := V8.out.c0
          have p1 := V8.out.c1
          have p2 := V8.out.f0
          have p3 := V8.out.f1
          refine wpList_step fun K hK => ?_
          go_simp
          refine hK _ _ ?_
          clear hK K
          have hne : gV8 ≠ gV9 := by omega
          have V9b := Lib.hid (V9.out.far hne p0 p1 (.bool false) (.slice none 0 0))
          have Xab := Lib.hid (Xa.out.far (show gV8 ≠ ga by omega) p0 p1 (.bool false) (.slice none 0 0))
          have Xmb := Lib.hid (Xm.out.far (show gV8 ≠ ga + 1 by omega) p0 p1 (.bool false) (.slice none 0 0))
          have J1b := Lib.hid (J1.out.store p0 p1 (.bool false) (.slice none 0 0))
          have V8b := Lib.hid (V8.out.put (is_zero8 _))
          have Pb := Lib.hid (below_store P.out (show w.heap.size ≤ gV8 by have := HGA.out; omega) (.bool false) (.slice none 0 0))
          clear p0 p1 p2 p3 P Xa Xm V8 V9 J0 J1
          generalize (y7.setCell ⟨gV8, 0, none⟩ (.bool false)).setCell ⟨gV8, 1, none⟩ (.slice none 0 0) = U1 at V9b Xab Xmb J1b V8b Pb ⊢
          have p0 := V9b.out.c0
          have p1 := V9b.out.c1
          have p2 := V9b.out.f0
          have p3 := V9b.out.f1
          refine wpList_step fun K hK => ?_
          go_simp
          refine hK _ _ ?_
          clear hK K
          refine wpList_nil ?_
          go_wp2
          go_meet
          exact ⟨gV8, gV9, rfl, rfl, below_store Pb.out (show w.heap.size ≤ gV9 by have := HGA.out; omega) _ _, Xab.out.far (by omega) p0 p1 _ _, Xmb.out.far (by omega) p0 p1 _ _, (V8b.out.far (by omega) p0 p1 _ _).nw, (V9b.out.put J1b.out).nw, by omega, by omega, hne⟩
        exact AllReadyH.nil
      refine AllReadyH.cons rfl (fun K hK => ?_) ?_
      ·
        go_simp
        clear hHeld
        have V8 := Lib.hid (Nvr.new (is_zero8 w2))
        have lXa := Xa.out.lt
        have lXm := Xm.out.lt
        replace P := Lib.hid (P.out.trans ((below_alloc _ (.cells #[.bool false, .slice none 0 0] 24)).mono P.out.size))
        replace Xa := Lib.hid (Xa.out.next (below_alloc _ (.cells #[.bool false, .slice none 0 0] 24)))
        replace Xm := Lib.hid (Xm.out.next (below_alloc _ (.cells #[.bool false, .slice none 0 0] 24)))
        replace J0 := Lib.hid (J0.out.below (below_alloc _ (.cells #[.bool false, .slice none 0 0] 24)))
        skip
        generalize w2.alloc (.cells #[.bool false, .slice none 0 0] 24) = y8 at P Xa Xm J0 V8 ⊢
        generalize w2.heap.size = gV8 at V8 lXa lXm ⊢
        refine hK.out _ _ ⟨Xm.out.c0, Xm.out.c1⟩ (fun hHeld => ?_)
        clear hK K
        refine wpAnyH_ready (rs := [3, 5]) (by kernel_rfl) (by simp) ?_
        refine AllReadyH.cons rfl (fun K hK => ?_) ?_
        ·
          go_simp
          refine (rest_c J0.out Xm.out.is HM.out.2 (Nat.le_trans (J0.out.len (sz_one' (Nat.le_refl 1))) (by omega)) (Nat.le_trans (Xm.out.is.len HS.out.2) (by omega))).mono ?_
          rintro e w9 ⟨t21, A21, n21, c21, rfl, i21, hb⟩
          replace P := Lib.hid (P.out.trans (hb.mono P.out.size))
          replace Xa := Lib.hid (Xa.out.next hb)
          replace Xm := Lib.hid (Xm.out.next hb)
          replace J0 := Lib.hid (J0.out.below hb)
          replace V8 := Lib.hid (V8.out.next hb)
          have J1 := Lib.hid (i21)
          clear hb hHeld i21
          refine hK.out _ _ ⟨Xm.out.c0, Xm.out.c1⟩ (fun hHeld => ?_)
          clear hK K
          refine wpAnyH_ready (rs := [5]) (by kernel_rfl) (by simp) ?_
          refine AllReadyH.cons rfl (fun K hK => ?_) AllReadyH.nil
          go_simp
          clear hHeld
          have V9 := Lib.hid (Nvr.new (is_zero8 w9))
          have lXa := Xa.out.lt
          have lXm := Xm.out.lt
          have lV8 := V8.out.lt
          replace P := Lib.hid (P.out.trans ((below_alloc _ (.cells #[.bool false, .slice none 0 0] 24)).mono P.out.size))
          replace Xa := Lib.hid (Xa.out.next (below_alloc _ (.cells #[.bool false, .slice none 0 0] 24)))
          replace Xm := Lib.hid (Xm.out.next (below_alloc _ (.cells #[.bool false, .slice none 0 0] 24)))
          replace J0 := Lib.hid (J0.out.below (below_alloc _ (.cells #[.bool false, .slice none 0 0] 24)))
          replace V8 := Lib.hid (V8.out.next (below_alloc _ (.cells #[.bool false, .slice none 0 0] 24)))
          replace J1 := Lib.hid (J1.out.below (below_alloc _ (.cells #[.bool false, .slice none 0 0] 24)))
          skip
          generalize w9.alloc (.cells #[.bool false, .slice none 0 0] 24) = y10 at P Xa Xm J0 V8 J1 V9 ⊢
          generalize w9.heap.size = gV9 at V9 lXa lXm lV8 ⊢
          refine hK.out _ _ ⟨Xm.out.c0, Xm.out.c1⟩ (fun hHeld => ?_)
          clear hK K
          clear hHeld
          refine wpAnyH_done (by kernel_rfl) ?_ _
          refine HT.out _ _ ?_
          clear HT hP QT
          have p0 := V8.out.c0
          have p1 := V8.out.c1
          have p2 := V8.out.f0
          have p3 := V8.out.f1
          refine wpList_step fun K hK => ?_
          go_simp
          refine hK _ _ ?_
          clear hK K
          have hne : gV8 ≠ gV9 := by omega
          have V9b := Lib.hid (V9.out.far hne p0 p1 (.bool false) (.slice none 0 0))
          have Xab := Lib.hid (Xa.out.far (show gV8 ≠ ga by omega) p0 p1 (.bool false) (.slice none 0 0))
          have Xmb := Lib.hid (Xm.out.far (show gV8 ≠ ga + 1 by omega) p0 p1 (.bool false) (.slice none 0 0))
          have J1b := Lib.hid (J1.out.store p0 p1 (.bool false) (.slice none 0 0))
          have V8b := Lib.hid (V8.out.put (is_zero8 _))
          have Pb := Lib.hid (below_store P.out (show w.heap.size ≤ gV8 by have := HGA.out; omega) (.bool false) (.slice none 0 0))
          clear p0 p1 p2 p3 P Xa Xm V8 V9 J0 J1
          generalize (y10.setCell ⟨gV8, 0, none⟩ (.bool false)).setCell ⟨gV8, 1, none⟩ (.slice none 0 0) = U1 at V9b Xab Xmb J1b V8b Pb ⊢
          have p0 := V9b.out.c0
          have p1 := V9b.out.c1
          have p2 := V9b.out.f0
          have p3 := V9b.out.f1
          refine wpList_step fun K hK => ?_
          go_simp
          refine hK _ _ ?_
          clear hK K
          refine wpList_nil ?_
          go_wp2
          go_meet
          exact ⟨gV8, gV9, rfl, rfl, below_store Pb.out (show w.heap.size ≤ gV9 by have := HGA.out; omega) _ _, Xab.out.far (by omega) p0 p1 _ _, Xmb.out.far (by omega) p0 p1 _ _, (V8b.out.far (by omega) p0 p1 _ _).nw, (V9b.out.put J1b.out).nw, by omega, by omega, hne⟩
        refine AllReadyH.cons rfl (fun K hK => ?_) ?_
        ·
          go_simp
          clear hHeld
          have V9 := Lib.hid (Nvr.new (is_zero8 y8))
          have lXa := Xa.out.lt
          have lXm := Xm.out.lt
          have lV8 := V8.out.lt
          replace P := Lib.hid (P.out.trans ((below_alloc _ (.cells #[.bool false, .slice none 0 0] 24)).mono P.out.size))
          replace Xa := Lib.hid (Xa.out.next (below_alloc _ (.cells #[.bool false, .slice none 0 0] 24)))
          replace Xm := Lib.hid (Xm.out.next (below_alloc _ (.cells #[.bool false, .slice none 0 0] 24)))
          replace J0 := Lib.hid (J0.out.below (below_alloc _ (.cells #[.bool false, .slice none 0 0] 24)))
          replace V8 := Lib.hid (V8.out.next (below_alloc _ (.cells #[.bool false, .slice none 0 0] 24)))
          skip
          generalize y8.alloc (.cells #[.bool false, .slice none 0 0] 24) = y11 at P Xa Xm J0 V8 V9 ⊢
          generalize y8.heap.size = gV9 at V9 lXa lXm lV8 ⊢
          refine hK.out _ _ ⟨Xm.out.c0, Xm.out.c1⟩ (fun hHeld => ?_)
          clear hK K
          refine wpAnyH_ready (rs := [3]) (by kernel_rfl) (by simp) ?_
          refine AllReadyH.cons rfl (fun K hK => ?_) AllReadyH.nil
          go_simp
          refine (rest_c J0.out Xm.out.is HM.out.2 (Nat.le_trans (J0.out.len (sz_one' (Nat.le_refl 1))) (by omega)) (Nat.le_trans (Xm.out.is.len HS.out.2) (by omega))).mono ?_
          rintro e w12 ⟨t21, A21, n21, c21, rfl, i21, hb⟩
          replace P := Lib.hid (P.out.trans (hb.mono P.out.size))
          replace Xa := Lib.hid (Xa.out.next hb)
          replace Xm := Lib.hid (Xm.out.next hb)
          replace J0 := Lib.hid (J0.out.below hb)
          replace V8 := Lib.hid (V8.out.next hb)
          replace V9 := Lib.hid (V9.out.next hb)
          have J1 := Lib.hid (i21)
          clear hb hHeld i21
          refine hK.out _ _ ⟨Xm.out.c0, Xm.out.c1⟩ (fun hHeld => ?_)
          clear hK K
          clear hHeld
          refine wpAnyH_done (by kernel_rfl) ?_ _
          refine HT.out _ _ ?_
          clear HT hP QT
          have p0 := V8.out.c0
          have p1 := V8.out.c1
          have p2 := V8.out.f0
          have p3 := V8.out.f1
          refine wpList_step fun K hK => ?_
          go_simp
          refine hK _ _ ?_
          clear hK K
          have hne : gV8 ≠ gV9 := by omega
          have V9b := Lib.hid (V9.out.far hne p0 p1 (.bool false) (.slice none 0 0))
          have Xab := Lib.hid (Xa.out.far (show gV8 ≠ ga by omega) p0 p1 (.bool false) (.slice none 0 0))
          have Xmb := Lib.hid (Xm.out.far (show gV8 ≠ ga + 1 by omega) p0 p1 (.bool false) (.slice none 0 0))
          have J1b := Lib.hid (J1.out.store p0 p1 (.bool false) (.slice none 0 0))
          have V8b := Lib.hid (V8.out.put (is_zero8 _))
          have Pb := Lib.hid (below_store P.out (show w.heap.size ≤ gV8 by have := HGA.out; omega) (.bool false) (.slice none 0 0))
          clear p0 p1 p2 p3 P Xa Xm V8 V9 J0 J1
          generalize (w12.setCell ⟨gV8, 0, none⟩ (.bool false)).setCell ⟨gV8, 1, none⟩ (.slice none 0 0) = U1 at V9b Xab Xmb J1b V8b Pb ⊢
          have p0 := V9b.out.c0
          have p1 := V9b.out.c1
          have p2 := V9b.out.f0
          have p3 := V9b.out.f1
          refine wpList_step fun K hK => ?_
          go_simp
          refine hK _ _ ?_
          clear hK K
          refine wpList_nil ?_
          go_wp2
          go_meet
          exact ⟨gV8, gV9, rfl, rfl, below_store Pb.out (show w.heap.size ≤ gV9 by have := HGA.out; omega) _ _, Xab.out.far (by omega) p0 p1 _ _, Xmb.out.far (by omega) p0 p1 _ _, (V8b.out.far (by omega) p0 p1 _ _).nw, (V9b.out.put J1b.out).nw, by omega, by omega, hne⟩
        exact AllReadyH.nil
      refine AllReadyH.cons rfl (fun K hK => ?_) ?_
      ·
        go_simp
        clear hHeld
        have V9 := Lib.hid (Nvr.new (is_zero8 w2))
        have lXa := Xa.out.lt
        have lXm := Xm.out.lt
        replace P := Lib.hid (P.out.trans ((below_alloc _ (.cells #[.bool false, .slice none 0 0] 24)).mono P.out.size))
        replace Xa := Lib.hid (Xa.out.next (below_alloc _ (.cells #[.bool false, .slice none 0 0] 24)))
        replace Xm := Lib.hid (Xm.out.next (below_alloc _ (.cells #[.bool false, .slice none 0 0] 24)))
        replace J0 := Lib.hid (J0.out.below (below_alloc _ (.cells #[.bool false, .slice none 0 0] 24)))
        skip
        generalize w2.alloc (.cells #[.bool false, .slice none 0 0] 24) = y13 at P Xa Xm J0 V9 ⊢
        generalize w2.heap.size = gV9 at V9 lXa lXm ⊢
        refine hK.out _ _ ⟨Xm.out.c0, Xm.out.c1⟩ (fun hHeld => ?_)
        clear hK K
        refine wpAnyH_ready (rs := [3, 4]) (by kernel_rfl) (by simp) ?_
        refine AllReadyH.cons rfl (fun K hK => ?_) ?_
        ·
          go_simp
          refine (rest_c J0.out Xm.out.is HM.out.2 (Nat.le_trans (J0.out.len (sz_one' (Nat.le_refl 1))) (by omega)) (Nat.le_trans (Xm.out.is.len HS.out.2) (by omega))).mono ?_
          rintro e w14 ⟨t21, A21, n21, c21, rfl, i21, hb⟩
          replace P := Lib.hid (P.out.trans (hb.mono P.out.size))
          replace Xa := Lib.hid (Xa.out.next hb)
          replace Xm := Lib.hid (Xm.out.next hb)
          replace J0 := Lib.hid (J0.out.below hb)
          replace V9 := Lib.hid (V9.out.next hb)
          have J1 := Lib.hid (i21)
          clear hb hHeld i21
          refine hK.out _ _ ⟨Xm.out.c0, Xm.out.c1⟩ (fun hHeld => ?_)
          clear hK K
          refine wpAnyH_ready (rs := [4]) (by kernel_rfl) (by simp) ?_
          refine AllReadyH.cons rfl (fun K hK => ?_) AllReadyH.nil
          go_simp
          clear hHeld
          have V8 := Lib.hid (Nvr.new (is_zero8 w14))
          have lXa := Xa.out.lt
          have lXm := Xm.out.lt
          have lV9 := V9.out.lt
          replace P := Lib.hid (P.out.trans ((below_alloc _ (.cells #[.bool false, .slice none 0 0] 24)).mono P.out.size))
          replace Xa := Lib.hid (Xa.out.next (below_alloc _ (.cells #[.bool false, .slice none 0 0] 24)))
          replace Xm := Lib.hid (Xm.out.next (below_alloc _ (.cells #[.bool false, .slice none 0 0] 24)))
          replace J0 := Lib.hid (J0.out.below (below_alloc _ (.cells #[.bool false, .slice none 0 0] 24)))
          replace V9 := Lib.hid (V9.out.next (below_alloc _ (.cells #[.bool false, .slice none 0 0] 24)))
          replace J1 := Lib.hid (J1.out.below (below_alloc _ (.cells #[.bool false, .slice none 0 0] 24)))
          skip
          generalize w14.alloc (.cells #[.bool false, .slice none 0 0] 24) = y15 at P Xa Xm J0 V9 J1 V8 ⊢
          generalize w14.heap.size = gV8 at V8 lXa lXm lV9 ⊢
          refine hK.out _ _ ⟨Xm.out.c0, Xm.out.c1⟩ (fun hHeld => ?_)
          clear hK K
          clear hHeld
          refine wpAnyH_done (by kernel_rfl) ?_ _
          refine HT.out _ _ ?_
          clear HT hP QT
          have p0 := V8.out.c0
          have p1 := V8.out.c1
          have p2 := V8.out.f0
          have p3 := V8.out.f1
          refine wpList_step fun K hK => ?_
          go_simp
          refine hK _ _ ?_
          clear hK K
          have hne : gV8 ≠ gV9 := by omega
          have V9b := Lib.hid (V9.out.far hne p0 p1 (.bool false) (.slice none 0 0))
          have Xab := Lib.hid (Xa.out.far (show gV8 ≠ ga by omega) p0 p1 (.bool false) (.slice none 0 0))
          have Xmb := Lib.hid (Xm.out.far (show gV8 ≠ ga + 1 by omega) p0 p1 (.bool false) (.slice none 0 0))
          have J1b := Lib.hid (J1.out.store p0 p1 (.bool false) (.slice none 0 0))
          have V8b := Lib.hid (V8.out.put (is_zero8 _))
          have Pb := Lib.hid (below_store P.out (show w.heap.size ≤ gV8 by have := HGA.out; omega) (.bool false) (.slice none 0 0))
          clear p0 p1 p2 p3 P Xa Xm V8 V9 J0 J1
          generalize (y15.setCell ⟨gV8, 0, none⟩ (.bool false)).setCell ⟨gV8, 1, none⟩ (.slice none 0 0) = U1 at V9b Xab Xmb J1b V8b Pb ⊢
          have p0 := V9b.out.c0
          have p1 := V9b.out.c1
          have p2 := V9b.out.f0
          have p3 := V9b.out.f1
          refine wpList_step fun K hK => ?_
          go_simp
          refine hK _ _ ?_
          clear hK K
          refine wpList_nil ?_
          go_wp2
          go_meet
          exact ⟨gV8, gV9, rfl, rfl, below_store Pb.out (show w.heap.size ≤ gV9 by have := HGA.out; omega) _ _, Xab.out.far (by omega) p0 p1 _ _, Xmb.out.far (by omega) p0 p1 _ _, (V8b.out.far (by omega) p0 p1 _ _).nw, (V9b.out.put J1b.out).nw, by omega, by omega, hne⟩
        refine AllReadyH.cons rfl (fun K hK => ?_) ?_
        ·
          go_simp
          clear hHeld
          have V8 := Lib.hid (Nvr.new (is_zero8 y13))
          have lXa := Xa.out.lt
          have lXm := Xm.out.lt
          have lV9 := V9.out.lt
          replace P := Lib.hid (P.out.trans ((below_alloc _ (.cells #[.bool false, .slice none 0 0] 24)).mono P.out.size))
          replace Xa := Lib.hid (Xa.out.next (below_alloc _ (.cells #[.bool false, .slice none 0 0] 24)))
          replace Xm := Lib.hid (Xm.out.next (below_alloc _ (.cells #[.bool false, .slice none 0 0] 24)))
          replace J0 := Lib.hid (J0.out.below (below_alloc _ (.cells #[.bool false, .slice none 0 0] 24)))
          replace V9 := Lib.hid (V9.out.next (below_alloc _ (.cells #[.bool false, .slice none 0 0] 24)))
          skip
          generalize y13.alloc (.cells #[.bool false, .slice none 0 0] 24) = y16 at P Xa Xm J0 V9 V8 ⊢
          generalize y13.heap.size = gV8 at V8 lXa lXm lV9 ⊢
          refine hK.out _ _ ⟨Xm.out.c0, Xm.out.c1⟩ (fun hHeld => ?_)
          clear hK K
          refine wpAnyH_ready (rs := [3]) (by kernel_rfl) (by simp) ?_
          refine AllReadyH.cons rfl (fun K hK => ?_) AllReadyH.nil
          go_simp
          refine (rest_c J0.out Xm.out.is HM.out.2 (Nat.le_trans (J0.out.len (sz_one' (Nat.le_refl 1))) (by omega)) (Nat.le_trans (Xm.out.is.len HS.out.2) (by omega))).mono ?_
          rintro e w17 ⟨t21, A21, n21, c21, rfl, i21, hb⟩
          replace P := Lib.hid (P.out.trans (hb.mono P.out.size))
          replace Xa := Lib.hid (Xa.out.next hb)
          replace Xm := Lib.hid (Xm.out.next hb)
          replace J0 := Lib.hid (J0.out.below hb)
          replace V9 := Lib.hid (V9.out.next hb)
          replace V8 := Lib.hid (V8.out.next hb)
          have J1 := Lib.hid (i21)
          clear hb hHeld i21
          refine hK.out _ _ ⟨Xm.out.c0, Xm.out.c1⟩ (fun hHeld => ?_)
          clear hK K
          clear hHeld
          refine wpAnyH_done (by kernel_rfl) ?_ _
          refine HT.out _ _ ?_
          clear HT hP QT
          have p0 := V8.out.c0
          have p1 := V8.out.c1
          have p2 := V8.out.f0
          have p3 := V8.out.f1
          refine wpList_step fun K hK => ?_
          go_simp
          refine hK _ _ ?_
          clear hK K
          have hne : gV8 ≠ gV9 := by omega
          have V9b := Lib.hid (V9.out.far hne p0 p1 (.bool false) (.slice none 0 0))
          have Xab := Lib.hid (Xa.out.far (show gV8 ≠ ga by omega) p0 p1 (.bool false) (.slice none 0 0))
          have Xmb := Lib.hid (Xm.out.far (show gV8 ≠ ga + 1 by omega) p0 p1 (.bool false) (.slice none 0 0))
          have J1b := Lib.hid (J1.out.store p0 p1 (.bool false) (.slice none 0 0))
          have V8b := Lib.hid (V8.out.put (is_zero8 _))
          have Pb := Lib.hid (below_store P.out (show w.heap.size ≤ gV8 by have := HGA.out; omega) (.bool false) (.slice none 0 0))
          clear p0 p1 p2 p3 P Xa Xm V8 V9 J0 J1
          generalize (w17.setCell ⟨gV8, 0, none⟩ (.bool false)).setCell ⟨gV8, 1, none⟩ (.slice none 0 0) = U1 at V9b Xab Xmb J1b V8b Pb ⊢
          have p0 := V9b.out.c0
          have p1 := V9b.out.c1
          have p2 := V9b.out.f0
          have p3 := V9b.out.f1
          refine wpList_step fun K hK => ?_
          go_simp
          refine hK _ _ ?_
          clear hK K
          refine wpList_nil ?_
          go_wp2
          go_meet
          exact ⟨gV8, gV9, rfl, rfl, below_store Pb.out (show w.heap.size ≤ gV9 by have := HGA.out; omega) _ _, Xab.out.far (by omega) p0 p1 _ _, Xmb.out.far (by omega) p0 p1 _ _, (V8b.out.far (by omega) p0 p1 _ _).nw, (V9b.out.put J1b.out).nw, by omega, by omega, hne⟩
        exact AllReadyH.nil
      exact AllReadyH.nil
    refine AllReadyH.cons rfl (fun K hK => ?_) ?_
    ·
      go_simp
      clear hHeld
      have V8 := Lib.hid (Nvr.new (is_zero8 D1))
      have lXa := Xa.out.lt
      have lXm := Xm.out.lt
      replace P := Lib.hid (P.out.trans ((below_alloc _ (.cells #[.bool false, .slice none 0 0] 24)).mono P.out.size))
      replace Xa := Lib.hid (Xa.out.next (below_alloc _ (.cells #[.bool false, .slice none 0 0] 24)))
      replace Xm := Lib.hid (Xm.out.next (below_alloc _ (.cells #[.bool false, .slice none 0 0] 24)))
      skip
      generalize D1.alloc (.cells #[.bool false, .slice none 0 0] 24) = y18 at P Xa Xm V8 ⊢
      generalize D1.heap.size = gV8 at V8 lXa lXm ⊢
      refine hK.out _ _ ⟨Xm.out.c0, Xm.out.c1⟩ (fun hHeld => ?_)
      clear hK K
      refine wpAnyH_ready (rs := [1, 5]) (by kernel_rfl) (by simp) ?_
      refine AllReadyH.cons rfl (fun K hK => ?_) ?_
      ·
        go_simp
        refine (refOfV 1 _ (by omega) (by omega)).mono ?_
        rintro e w19 ⟨t20, A20, n20, c20, rfl, i20, hb⟩
        replace P := Lib.hid (P.out.trans (hb.mono P.out.size))
        replace Xa := Lib.hid (Xa.out.next hb)
        replace Xm := Lib.hid (Xm.out.next hb)
        replace V8 := Lib.hid (V8.out.next hb)
        have J0 := Lib.hid (i20.is)
        clear hb hHeld i20
        refine hK.out _ _ ⟨Xm.out.c0, Xm.out.c1⟩ (fun hHeld => ?_)
        clear hK K
        refine wpAnyH_ready (rs := [3, 5]) (by kernel_rfl) (by simp) ?_
        refine AllReadyH.cons rfl (fun K hK => ?_) ?_
        ·
          go_simp
          refine (rest_c J0.out Xm.out.is HM.out.2 (Nat.le_trans (J0.out.len (sz_one' (Nat.le_refl 1))) (by omega)) (Nat.le_trans (Xm.out.is.len HS.out.2) (by omega))).mono ?_
          rintro e w20 ⟨t21, A21, n21, c21, rfl, i21, hb⟩
          replace P := Lib.hid (P.out.trans (hb.mono P.out.size))
          replace Xa := Lib.hid (Xa.out.next hb)
          replace Xm := Lib.hid (Xm.out.next hb)
          replace V8 := Lib.hid (V8.out.next hb)
          replace J0 := Lib.hid (J0.out.below hb)
          have J1 := Lib.hid (i21)
          clear hb hHeld i21
          refine hK.out _ _ ⟨Xm.out.c0, Xm.out.c1⟩ (fun hHeld => ?_)
          clear hK K
          refine wpAnyH_ready (rs := [5]) (by kernel_rfl) (by simp) ?_
          refine AllReadyH.cons rfl (fun K hK => ?_) AllReadyH.nil
          go_simp
          clear hHeld
          have V9 := Lib.hid (Nvr.new (is_zero8 w20))
          have lXa := Xa.out.lt
          have lXm := Xm.out.lt
          have lV8 := V8.out.lt
          replace P := Lib.hid (P.out.trans ((below_alloc _ (.cells #[.bool false, .slice none 0 0] 24)).mono P.out.size))
          replace Xa := Lib.hid (Xa.out.next (below_alloc _ (.cells #[.bool false, .slice none 0 0] 24)))
          replace Xm := Lib.hid (Xm.out.next (below_alloc _ (.cells #[.bool false, .slice none 0 0] 24)))
          replace V8 := Lib.hid (V8.out.next (below_alloc _ (.cells #[.bool false, .slice none 0 0] 24)))
          replace J0 := Lib.hid (J0.out.below (below_alloc _ (.cells #[.bool false, .slice none 0 0] 24)))
          replace J1 := Lib.hid (J1.out.below (below_alloc _ (.cells #[.bool false, .slice none 0 0] 24)))
          skip
          generalize w20.alloc (.cells #[.bool false, .slice none 0 0] 24) = y21 at P Xa Xm V8 J0 J1 V9 ⊢
          generalize w20.heap.size = gV9 at V9 lXa lXm lV8 ⊢
          refine hK.out _ _ ⟨Xm.out.c0, Xm.out.c1⟩ (fun hHeld => ?_)
          clear hK K
          clear hHeld
          refine wpAnyH_done (by kernel_rfl) ?_ _
          refine HT.out _ _ ?_
          clear HT hP QT
          have p0 := V8.out.c0
          have p1 := V8.out.c1
          have p2 := V8.out.f0
          have p3 := V8.out.f1
          refine wpList_step fun K hK => ?_
          go_simp
          refine hK _ _ ?_
          clear hK K
          have hne : gV8 ≠ gV9 := by omega
          have V9b := Lib.hid (V9.out.far hne p0 p1 (.bool false) (.slice none 0 0))
          have Xab := Lib.hid (Xa.out.far (show gV8 ≠ ga by omega) p0 p1 (.bool false) (.slice none 0 0))
          have Xmb := Lib.hid (Xm.out.far (show gV8 ≠ ga + 1 by omega) p0 p1 (.bool false) (.slice none 0 0))
          have J1b := Lib.hid (J1.out.store p0 p1 (.bool false) (.slice none 0 0))
          have V8b := Lib.hid (V8.out.put (is_zero8 _))
          have Pb := Lib.hid (below_store P.out (show w.heap.size ≤ gV8 by have := HGA.out; omega) (.bool false) (.slice none 0 0))
          clear p0 p1 p2 p3 P Xa Xm V8 V9 J0 J1
          generalize (y21.setCell ⟨gV8, 0, none⟩ (.bool false)).setCell ⟨gV8, 1, none⟩ (.slice none 0 0) = U1 at V9b Xab Xmb J1b V8b Pb ⊢
          have p0 := V9b.out.c0
          have p1 := V9b.out.c1
          have p2 := V9b.out.f0
          have p3 := V9b.out.f1
          refine wpList_step fun K hK => ?_
          go_simp
          refine hK _ _ ?_
          clear hK K
          refine wpList_nil ?_
          go_wp2
          go_meet
          exact ⟨gV8, gV9, rfl, rfl, below_store Pb.out (show w.heap.size ≤ gV9 by have := HGA.out; omega) _ _, Xab.out.far (by omega) p0 p1 _ _, Xmb.out.far (by omega) p0 p1 _ _, (V8b.out.far (by omega) p0 p1 _ _).nw, (V9b.out.put J1b.out).nw, by omega, by omega, hne⟩
        refine AllReadyH.cons rfl (fun K hK => ?_) ?_
        ·
          go_simp
          clear hHeld
          have V9 := Lib.hid (Nvr.new (is_zero8 w19))
          have lXa := Xa.out.lt
          have lXm := Xm.out.lt
          have lV8 := V8.out.lt
          replace P := Lib.hid (P.out.trans ((below_alloc _ (.cells #[.bool false, .slice none 0 0] 24)).mono P.out.size))
          replace Xa := Lib.hid (Xa.out.next (below_alloc _ (.cells #[.bool false, .slice none 0 0] 24)))
          replace Xm := Lib.hid (Xm.out.next (below_alloc _ (.cells #[.bool false, .slice none 0 0] 24)))
          replace V8 := Lib.hid (V8.out.next (below_alloc _ (.cells #[.bool false, .slice none 0 0] 24)))
          replace J0 := Lib.hid (J0.out.below (below_alloc _ (.cells #[.bool false, .slice none 0 0] 24)))
          skip
          generalize w19.alloc (.cells #[.bool false, .slice none 0 0] 24) = y22 at P Xa Xm V8 J0 V9 ⊢
          generalize w19.heap.size = gV9 at V9 lXa lXm lV8 ⊢
          refine hK.out _ _ ⟨Xm.out.c0, Xm.out.c1⟩ (fun hHeld => ?_)
          clear hK K
          refine wpAnyH_ready (rs := [3]) (by kernel_rfl) (by simp) ?_
          refine AllReadyH.cons rfl (fun K hK => ?_) AllReadyH.nil
          go_simp
          refine (rest_c J0.out Xm.out.is HM.out.2 (Nat.le_trans (J0.out.len (sz_one' (Nat.le_refl 1))) (by omega)) (Nat.le_trans (Xm.out.is.len HS.out.2) (by omega))).mono ?_
          rintro e w23 ⟨t21, A21, n21, c21, rfl, i21, hb⟩
          replace P := Lib.hid (P.out.trans (hb.mono P.out.size))
          replace Xa := Lib.hid (Xa.out.next hb)
          replace Xm := Lib.hid (Xm.out.next hb)
          replace V8 := Lib.hid (V8.out.next hb)
          replace J0 := Lib.hid (J0.out.below hb)
          replace V9 := Lib.hid (V9.out.next hb)
          have J1 := Lib.hid (i21)
          clear hb hHeld i21
          refine hK.out _ _ ⟨Xm.out.c0, Xm.out.c1⟩ (fun hHeld => ?_)
          clear hK K
          clear hHeld
          refine wpAnyH_done (by kernel_rfl) ?_ _
          refine HT.out _ _ ?_
          clear HT hP QT
          have p0 := V8.out.c0
          have p1 := V8.out.c1
          have p2 := V8.out.f0
          have p3 := V8.out.f1
          refine wpList_step fun K hK => ?_
          go_simp
          refine hK _ _ ?_
          clear hK K
          have hne : gV8 ≠ gV9 := by omega
          have V9b := Lib.hid (V9.out.far hne p0 p1 (.bool false) (.slice none 0 0))
          have Xab := Lib.hid (Xa.out.far (show gV8 ≠ ga by omega) p0 p1 (.bool false) (.slice none 0 0))
          have Xmb := Lib.hid (Xm.out.far (show gV8 ≠ ga + 1 by omega) p0 p1 (.bool false) (.slice none 0 0))
          have J1b := Lib.hid (J1.out.store p0 p1 (.bool false) (.slice none 0 0))
          have V8b := Lib.hid (V8.out.put (is_zero8 _))
          have Pb := Lib.hid (below_store P.out (show w.heap.size ≤ gV8 by have := HGA.out; omega) (.bool false) (.slice none 0 0))
          clear p0 p1 p2 p3 P Xa Xm V8 V9 J0 J1
          generalize (w23.setCell ⟨gV8, 0, none⟩ (.bool false)).setCell ⟨gV8, 1, none⟩ (.slice none 0 0) = U1 at V9b Xab Xmb J1b V8b Pb ⊢
          have p0 := V9b.out.c0
          have p1 := V9b.out.c1
          have p2 := V9b.out.f0
          have p3 := V9b.out.f1
          refine wpList_step fun K hK => ?_
          go_simp
          refine hK _ _ ?_
          clear hK K
          refine wpList_nil ?_
          go_wp2
          go_meet
          exact ⟨gV8, gV9, rfl, rfl, below_store Pb.out (show w.heap.size ≤ gV9 by have := HGA.out; omega) _ _, Xab.out.far (by omega) p0 p1 _ _, Xmb.out.far (by omega) p0 p1 _ _, (V8b.out.far (by omega) p0 p1 _ _).nw, (V9b.out.put J1b.out).nw, by omega, by omega, hne⟩
        exact AllReadyH.nil
      refine AllReadyH.cons rfl (fun K hK => ?_) ?_
      ·
        go_simp
        clear hHeld
        have V9 := Lib.hid (Nvr.new (is_zero8 y18))
        have lXa := Xa.out.lt
        have lXm := Xm.out.lt
        have lV8 := V8.out.lt
        replace P := Lib.hid (P.out.trans ((below_alloc _ (.cells #[.bool false, .slice none 0 0] 24)).mono P.out.size))
        replace Xa := Lib.hid (Xa.out.next (below_alloc _ (.cells #[.bool false, .slice none 0 0] 24)))
        replace Xm := Lib.hid (Xm.out.next (below_alloc _ (.cells #[.bool false, .slice none 0 0] 24)))
        replace V8 := Lib.hid (V8.out.next (below_alloc _ (.cells #[.bool false, .slice none 0 0] 24)))
        skip
        generalize y18.alloc (.cells #[.bool false, .slice none 0 0] 24) = y24 at P Xa Xm V8 V9 ⊢
        generalize y18.heap.size = gV9 at V9 lXa lXm lV8 ⊢
        refine hK.out _ _ ⟨Xm.out.c0, Xm.out.c1⟩ (fun hHeld => ?_)
        clear hK K
        refine wpAnyH_ready (rs := [1]) (by kernel_rfl) (by simp) ?_
        refine AllReadyH.cons rfl (fun K hK => ?_) AllReadyH.nil
        go_simp
        refine (refOfV 1 _ (by omega) (by omega)).mono ?_
        rintro e w25 ⟨t20, A20, n20, c20, rfl, i20, hb⟩
        replace P := Lib.hid (P.out.trans (hb.mono P.out.size))
        replace Xa := Lib.hid (Xa.out.next hb)
        replace Xm := Lib.hid (Xm.out.next hb)
        replace V8 := Lib.hid (V8.out.next hb)
        replace V9 := Lib.hid (V9.out.next hb)
        have J0 := Lib.hid (i20.is)
        clear hb hHeld i20
        refine hK.out _ _ ⟨Xm.out.c0, Xm.out.c1⟩ (fun hHeld => ?_)
        clear hK K
        refine wpAnyH_ready (rs := [3]) (by kernel_rfl) (by simp) ?_
        refine AllReadyH.cons rfl (fun K hK => ?_) AllReadyH.nil
        go_simp
        refine (rest_c J0.out Xm.out.is HM.out.2 (Nat.le_trans (J0.out.len (sz_one' (Nat.le_refl 1))) (by omega)) (Nat.le_trans (Xm.out.is.len HS.out.2) (by omega))).mono ?_
        rintro e w26 ⟨t21, A21, n21, c21, rfl, i21, hb⟩
        replace P := Lib.hid (P.out.trans (hb.mono P.out.size))
        replace Xa := Lib.hid (Xa.out.next hb)
        replace Xm := Lib.hid (Xm.out.next hb)
        replace V8 := Lib.hid (V8.out.next hb)
        replace V9 := Lib.hid (V9.out.next hb)
        replace J0 := Lib.hid (J0.out.below hb)
        have J1 := Lib.hid (i21)
        clear hb hHeld i21
        refine hK.out _ _ ⟨Xm.out.c0, Xm.out.c1⟩ (fun hHeld => ?_)
        clear hK K
        clear hHeld
        refine wpAnyH_done (by kernel_rfl) ?_ _
        refine HT.out _ _ ?_
        clear HT hP QT
        have p0 := V8.out.c0
        have p1 := V8.out.c1
        have p2 := V8.out.f0
        have p3 := V8.out.f1
        refine wpList_step fun K hK => ?_
        go_simp
        refine hK _ _ ?_
        clear hK K
        have hne : gV8 ≠ gV9 := by omega
        have V9b := Lib.hid (V9.out.far hne p0 p1 (.bool false) (.slice none 0 0))
        have Xab := Lib.hid (Xa.out.far (show gV8 ≠ ga by omega) p0 p1 (.bool false) (.slice none 0 0))
        have Xmb := Lib.hid (Xm.out.far (show gV8 ≠ ga + 1 by omega) p0 p1 (.bool false) (.slice none 0 0))
        have J1b := Lib.hid (J1.out.store p0 p1 (.bool false) (.slice none 0 0))
        have V8b := Lib.hid (V8.out.put (is_zero8 _))
        have Pb := Lib.hid (below_store P.out (show w.heap.size ≤ gV8 by have := HGA.out; omega) (.bool false) (.slice none 0 0))
        clear p0 p1 p2 p3 P Xa Xm V8 V9 J0 J1
        generalize (w26.setCell ⟨gV8, 0, none⟩ (.bool false)).setCell ⟨gV8, 1, none⟩ (.slice none 0 0) = U1 at V9b Xab Xmb J1b V8b Pb ⊢
        have p0 := V9b.out.c0
        have p1 := V9b.out.c1
        have p2 := V9b.out.f0
        have p3 := V9b.out.f1
        refine wpList_step fun K hK => ?_
        go_simp
        refine hK _ _ ?_
        clear hK K
        refine wpList_nil ?_
        go_wp2
        go_meet
        exact ⟨gV8, gV9, rfl, rfl, below_store Pb.out (show w.heap.size ≤ gV9 by have := HGA.out; omega) _ _, Xab.out.far (by omega) p0 p1 _ _, Xmb.out.far (by omega) p0 p1 _ _, (V8b.out.far (by omega) p0 p1 _ _).nw, (V9b.out.put J1b.out).nw, by omega, by omega, hne⟩
      exact AllReadyH.nil
    refine AllReadyH.cons rfl (fun K hK => ?_) ?_
    ·
      go_simp
      clear hHeld
      have V9 := Lib.hid (Nvr.new (is_zero8 D1))
      have lXa := Xa.out.lt
      have lXm := Xm.out.lt
      replace P := Lib.hid (P.out.trans ((below_alloc _ (.cells #[.bool false, .slice none 0 0] 24)).mono P.out.size))
      replace Xa := Lib.hid (Xa.out.next (below_alloc _ (.cells #[.bool false, .slice none 0 0] 24)))
      replace Xm := Lib.hid (Xm.out.next (below_alloc _ (.cells #[.bool false, .slice none 0 0] 24)))
      skip
      generalize D1.alloc (.cells #[.bool false, .slice none 0 0] 24) = y27 at P Xa Xm V9 ⊢
      generalize D1.heap.size = gV9 at V9 lXa lXm ⊢
      refine hK.out _ _ ⟨Xm.out.c0, Xm.out.c1⟩ (fun hHeld => ?_)
      clear hK K
      refine wpAnyH_ready (rs := [1, 4]) (by kernel_rfl) (by simp) ?_
      refine AllReadyH.cons rfl (fun K hK => ?_) ?_
      ·
        go_simp
        refine (refOfV 1 _ (by omega) (by omega)).mono ?_
        rintro e w28 ⟨t20, A20, n20, c20, rfl, i20, hb⟩
        replace P := Lib.hid (P.out.trans (hb.mono P.out.size))
        replace Xa := Lib.hid (Xa.out.next hb)
        replace Xm := Lib.hid (Xm.out.next hb)
        replace V9 := Lib.hid (V9.out.next hb)
        have J0 := Lib.hid (i20.is)
        clear hb hHeld i20
        refine hK.out _ _ ⟨Xm.out.c0, Xm.out.c1⟩ (fun hHeld => ?_)
        clear hK K
        refine wpAnyH_ready (rs := [3, 4]) (by kernel_rfl) (by simp) ?_
        refine AllReadyH.cons rfl (fun K hK => ?_) ?_
        ·
          go_simp
          refine (rest_c J0.out Xm.out.is HM.out.2 (Nat.le_trans (J0.out.len (sz_one' (Nat.le_refl 1))) (by omega)) (Nat.le_trans (Xm.out.is.len HS.out.2) (by omega))).mono ?_
          rintro e w29 ⟨t21, A21, n21, c21, rfl, i21, hb⟩
          replace P := Lib.hid (P.out.trans (hb.mono P.out.size))
          replace Xa := Lib.hid (Xa.out.next hb)
          replace Xm := Lib.hid (Xm.out.next hb)
          replace V9 := Lib.hid (V9.out.next hb)
          replace J0 := Lib.hid (J0.out.below hb)
          have J1 := Lib.hid (i21)
          clear hb hHeld i21
          refine hK.out _ _ ⟨Xm.out.c0, Xm.out.c1⟩ (fun hHeld => ?_)
          clear hK K
          refine wpAnyH_ready (rs := [4]) (by kernel_rfl) (by simp) ?_
          refine AllReadyH.cons rfl (fun K hK => ?_) AllReadyH.nil
          go_simp
          clear hHeld
          have V8 := Lib.hid (Nvr.new (is_zero8 w29))
          have lXa := Xa.out.lt
          have lXm := Xm.out.lt
          have lV9 := V9.out.lt
          replace P := Lib.hid (P.out.trans ((below_alloc _ (.cells #[.bool false, .slice none 0 0] 24)).mono P.out.size))
          replace Xa := Lib.hid (Xa.out.next (below_alloc _ (.cells #[.bool false, .slice none 0 0] 24)))
          replace Xm := Lib.hid (Xm.out.next (below_alloc _ (.cells #[.bool false, .slice none 0 0] 24)))
          replace V9 := Lib.hid (V9.out.next (below_alloc _ (.cells #[.bool false, .slice none 0 0] 24)))
          replace J0 := Lib.hid (J0.out.below (below_alloc _ (.cells #[.bool false, .slice none 0 0] 24)))
          replace J1 := Lib.hid (J1.out.below (below_alloc _ (.cells #[.bool false, .slice none 0 0] 24)))
          skip
          generalize w29.alloc (.cells #[.bool false, .slice none 0 0] 24) = y30 at P Xa Xm V9 J0 J1 V8 ⊢
          generalize w29.heap.size = gV8 at V8 lXa lXm lV9 ⊢
          refine hK.out _ _ ⟨Xm.out.c0, Xm.out.c1⟩ (fun hHeld => ?_)
          clear hK K
          clear hHeld
          refine wpAnyH_done (by kernel_rfl) ?_ _
          refine HT.out _ _ ?_
          clear HT hP QT
          have p0 := V8.out.c0
          have p1 := V8.out.c1
          have p2 := V8.out.f0
          have p3 := V8.out.f1
          refine wpList_step fun K hK => ?_
          go_simp
          refine hK _ _ ?_
          clear hK K
          have hne : gV8 ≠ gV9 := by omega
          have V9b := Lib.hid (V9.out.far hne p0 p1 (.bool false) (.slice none 0 0))
          have Xab := Lib.hid (Xa.out.far (show gV8 ≠ ga by omega) p0 p1 (.bool false) (.slice none 0 0))
          have Xmb := Lib.hid (Xm.out.far (show gV8 ≠ ga + 1 by omega) p0 p1 (.bool false) (.slice none 0 0))
          have J1b := Lib.hid (J1.out.store p0 p1 (.bool false) (.slice none 0 0))
          have V8b := Lib.hid (V8.out.put (is_zero8 _))
          have Pb := Lib.hid (below_store P.out (show w.heap.size ≤ gV8 by have := HGA.out; omega) (.bool false) (.slice none 0 0))
          clear p0 p1 p2 p3 P Xa Xm V8 V9 J0 J1
          generalize (y30.setCell ⟨gV8, 0, none⟩ (.bool false)).setCell ⟨gV8, 1, none⟩ (.slice none 0 0) = U1 at V9b Xab Xmb J1b V8b Pb ⊢
          have p0 := V9b.out.c0
          have p1 := V9b.out.c1
          have p2 := V9b.out.f0
          have p3 := V9b.out.f1
          refine wpList_step fun K hK => ?_
          go_simp
          refine hK _ _ ?_
          clear hK K
          refine wpList_nil ?_
          go_wp2
          go_meet
          exact ⟨gV8, gV9, rfl, rfl, below_store Pb.out (show w.heap.size ≤ gV9 by have := HGA.out; omega) _ _, Xab.out.far (by omega) p0 p1 _ _, Xmb.out.far (by omega) p0 p1 _ _, (V8b.out.far (by omega) p0 p1 _ _).nw, (V9b.out.put J1b.out).nw, by omega, by omega, hne⟩
        refine AllReadyH.cons rfl (fun K hK => ?_) ?_
        ·
          go_simp
          clear hHeld
          have V8 := Lib.hid (Nvr.new (is_zero8 w28))
          have lXa := Xa.out.lt
          have lXm := Xm.out.lt
          have lV9 := V9.out.lt
          replace P := Lib.hid (P.out.trans ((below_alloc _ (.cells #[.bool false, .slice none 0 0] 24)).mono P.out.size))
          replace Xa := Lib.hid (Xa.out.next (below_alloc _ (.cells #[.bool false, .slice none 0 0] 24)))
          replace Xm := Lib.hid (Xm.out.next (below_alloc _ (.cells #[.bool false, .slice none 0 0] 24)))
          replace V9 := Lib.hid (V9.out.next (below_alloc _ (.cells #[.bool false, .slice none 0 0] 24)))
          replace J0 := Lib.hid (J0.out.below (below_alloc _ (.cells #[.bool false, .slice none 0 0] 24)))
          skip
          generalize w28.alloc (.cells #[.bool false, .slice none 0 0] 24) = y31 at P Xa Xm V9 J0 V8 ⊢
          generalize w28.heap.size = gV8 at V8 lXa lXm lV9 ⊢
          refine hK.out _ _ ⟨Xm.out.c0, Xm.out.c1⟩ (fun hHeld => ?_)
          clear hK K
          refine wpAnyH_ready (rs := [3]) (by kernel_rfl) (by simp) ?_
          refine AllReadyH.cons rfl (fun K hK => ?_) AllReadyH.nil
          go_simp
          refine (rest_c J0.out Xm.out.is HM.out.2 (Nat.le_trans (J0.out.len (sz_one' (Nat.le_refl 1))) (by omega)) (Nat.le_trans (Xm.out.is.len HS.out.2) (by omega))).mono ?_
          rintro e w32 ⟨t21, A21, n21, c21, rfl, i21, hb⟩
          replace P := Lib.hid (P.out.trans (hb.mono P.out.size))
          replace Xa := Lib.hid (Xa.out.next hb)
          replace Xm := Lib.hid (Xm.out.next hb)
          replace V9 := Lib.hid (V9.out.next hb)
          replace J0 := Lib.hid (J0.out.below hb)
          replace V8 := Lib.hid (V8.out.next hb)
          have J1 := Lib.hid (i21)
          clear hb hHeld i21
          refine hK.out _ _ ⟨Xm.out.c0, Xm.out.c1⟩ (fun hHeld => ?_)
          clear hK K
          clear hHeld
          refine wpAnyH_done (by kernel_rfl) ?_ _
          refine HT.out _ _ ?_
          clear HT hP QT
          have p0 := V8.out.c0
          have p1 := V8.out.c1
          have p2 := V8.out.f0
          have p3 := V8.out.f1
          refine wpList_step fun K hK => ?_
          go_simp
          refine hK _ _ ?_
          clear hK K
          have hne : gV8 ≠ gV9 := by omega
          have V9b := Lib.hid (V9.out.far hne p0 p1 (.bool false) (.slice none 0 0))
          have Xab := Lib.hid (Xa.out.far (show gV8 ≠ ga by omega) p0 p1 (.bool false) (.slice none 0 0))
          have Xmb := Lib.hid (Xm.out.far (show gV8 ≠ ga + 1 by omega) p0 p1 (.bool false) (.slice none 0 0))
          have J1b := Lib.hid (J1.out.store p0 p1 (.bool false) (.slice none 0 0))
          have V8b := Lib.hid (V8.out.put (is_zero8 _))
          have Pb := Lib.hid (below_store P.out (show w.heap.size ≤ gV8 by have := HGA.out; omega) (.bool false) (.slice none 0 0))
          clear p0 p1 p2 p3 P Xa Xm V8 V9 J0 J1
          generalize (w32.setCell ⟨gV8, 0, none⟩ (.bool false)).setCell ⟨gV8, 1, none⟩ (.slice none 0 0) = U1 at V9b Xab Xmb J1b V8b Pb ⊢
          have p0 := V9b.out.c0
          have p1 := V9b.out.c1
          have p2 := V9b.out.f0
          have p3 := V9b.out.f1
          refine wpList_step fun K hK => ?_
          go_simp
          refine hK _ _ ?_
          clear hK K
          refine wpList_nil ?_
          go_wp2
          go_meet
          exact ⟨gV8, gV9, rfl, rfl, below_store Pb.out (show w.heap.size ≤ gV9 by have := HGA.out; omega) _ _, Xab.out.far (by omega) p0 p1 _ _, Xmb.out.far (by omega) p0 p1 _ _, (V8b.out.far (by omega) p0 p1 _ _).nw, (V9b.out.put J1b.out).nw, by omega, by omega, hne⟩
        exact AllReadyH.nil
      refine AllReadyH.cons rfl (fun K hK => ?_) ?_
      ·
        go_simp
        clear hHeld
        have V8 := Lib.hid (Nvr.new (is_zero8 y27))
        have lXa := Xa.out.lt
        have lXm := Xm.out.lt
        have lV9 := V9.out.lt
        replace P := Lib.hid (P.out.trans ((below_alloc _ (.cells #[.bool false, .slice none 0 0] 24)).mono P.out.size))
        replace Xa := Lib.hid (Xa.out.next (below_alloc _ (.cells #[.bool false, .slice none 0 0] 24)))
        replace Xm := Lib.hid (Xm.out.next (below_alloc _ (.cells #[.bool false, .slice none 0 0] 24)))
        replace V9 := Lib.hid (V9.out.next (below_alloc _ (.cells #[.bool false, .slice none 0 0] 24)))
        skip
        generalize y27.alloc (.cells #[.bool false, .slice none 0 0] 24) = y33 at P Xa Xm V9 V8 ⊢
        generalize y27.heap.size = gV8 at V8 lXa lXm lV9 ⊢
        refine hK.out _ _ ⟨Xm.out.c0, Xm.out.c1⟩ (fun hHeld => ?_)
        clear hK K
        refine wpAnyH_ready (rs := [1]) (by kernel_rfl) (by simp) ?_
        refine AllReadyH.cons rfl (fun K hK => ?_) AllReadyH.nil
        go_simp
        refine (refOfV 1 _ (by omega) (by omega)).mono ?_
        rintro e w34 ⟨t20, A20, n20, c20, rfl, i20, hb⟩
        replace P := Lib.hid (P.out.trans (hb.mono P.out.size))
        replace Xa := Lib.hid (Xa.out.next hb)
        replace Xm := Lib.hid (Xm.out.next hb)
        replace V9 := Lib.hid (V9.out.next hb)
        replace V8 := Lib.hid (V8.out.next hb)
        have J0 := Lib.hid (i20.is)
        clear hb hHeld i20
        refine hK.out _ _ ⟨Xm.out.c0, Xm.out.c1⟩ (fun hHeld => ?_)
        clear hK K
        refine wpAnyH_ready (rs := [3]) (by kernel_rfl) (by simp) ?_
        refine AllReadyH.cons rfl (fun K hK => ?_) AllReadyH.nil
        go_simp
        refine (rest_c J0.out Xm.out.is HM.out.2 (Nat.le_trans (J0.out.len (sz_one' (Nat.le_refl 1))) (by omega)) (Nat.le_trans (Xm.out.is.len HS.out.2) (by omega))).mono ?_
        rintro e w35 ⟨t21, A21, n21, c21, rfl, i21, hb⟩
        replace P := Lib.hid (P.out.trans (hb.mono P.out.size))
        replace Xa := Lib.hid (Xa.out.next hb)
        replace Xm := Lib.hid (Xm.out.next hb)
        replace V9 := Lib.hid (V9.out.next hb)
        replace V8 := Lib.hid (V8.out.next hb)
        replace J0 := Lib.hid (J0.out.below hb)
        have J1 := Lib.hid (i21)
        clear hb hHeld i21
        refine hK.out _ _ ⟨Xm.out.c0, Xm.out.c1⟩ (fun hHeld => ?_)
        clear hK K
        clear hHeld
        refine wpAnyH_done (by kernel_rfl) ?_ _
        refine HT.out _ _ ?_
        clear HT hP QT
        have p0 := V8.out.c0
        have p1 := V8.out.c1
        have p2 := V8.out.f0
        have p3 := V8.out.f1
        refine wpList_step fun K hK => ?_
        go_simp
        refine hK _ _ ?_
        clear hK K
        have hne : gV8 ≠ gV9 := by omega
        have V9b := Lib.hid (V9.out.far hne p0 p1 (.bool false) (.slice none 0 0))
        have Xab := Lib.hid (Xa.out.far (show gV8 ≠ ga by omega) p0 p1 (.bool false) (.slice none 0 0))
        have Xmb := Lib.hid (Xm.out.far (show gV8 ≠ ga + 1 by omega) p0 p1 (.bool false) (.slice none 0 0))
        have J1b := Lib.hid (J1.out.store p0 p1 (.bool false) (.slice none 0 0))
        have V8b := Lib.hid (V8.out.put (is_zero8 _))
        have Pb := Lib.hid (below_store P.out (show w.heap.size ≤ gV8 by have := HGA.out; omega) (.bool false) (.slice none 0 0))
        clear p0 p1 p2 p3 P Xa Xm V8 V9 J0 J1
        generalize (w35.setCell ⟨gV8, 0, none⟩ (.bool false)).setCell ⟨gV8, 1, none⟩ (.slice none 0 0) = U1 at V9b Xab Xmb J1b V8b Pb ⊢
        have p0 := V9b.out.c0
        have p1 := V9b.out.c1
        have p2 := V9b.out.f0
        have p3 := V9b.out.f1
        refine wpList_step fun K hK => ?_
        go_simp
        refine hK _ _ ?_
        clear hK K
        refine wpList_nil ?_
        go_wp2
        go_meet
        exact ⟨gV8, gV9, rfl, rfl, below_store Pb.out (show w.heap.size ≤ gV9 by have := HGA.out; omega) _ _, Xab.out.far (by omega) p0 p1 _ _, Xmb.out.far (by omega) p0 p1 _ _, (V8b.out.far (by omega) p0 p1 _ _).nw, (V9b.out.put J1b.out).nw, by omega, by omega, hne⟩
      exact AllReadyH.nil
    exact AllReadyH.nil
  case rest =>
    obtain ⟨g8, g9, rfl, rfl, hp, h1, h2, h3, h4, l1, l2, l3⟩ := hcut
    clear P Xa Xm
    have P := Lib.hid hp
    have Xa := Lib.hid h1
    have Xm := Lib.hid h2
    have X8 := Lib.hid h3
    have X9 := Lib.hid h4
    have HL := Lib.hid (And.intro l1 (And.intro l2 l3))
    clear hp h1 h2 h3 h4 l1 l2 l3
    go_upto_region 2 with (fail)
    go_cut [10] (fun v W => ∃ g10, v = .pointer (some ⟨g10, 0, none⟩) ∧ Below w.heap.size w W ∧ Nvr W (ga + 1) m t' A' n' c' ∧ Nwx W g8 0 ∧ Nwx W g9 (1 % m) ∧ Nwx W g10 ((a + a) % m) ∧ ga + 1 < g10 ∧ g8 < g10 ∧ g9 < g10)
    case first =>
      refine wp_region_tail (S := (fun w' => w'.cell? ⟨ga, 0, none⟩ = some (.bool t) ∧ w'.cell? ⟨ga, 1, none⟩ = some (.slice A n c) ∧ w'.cell? ⟨ga + 1, 0, none⟩ = some (.bool t') ∧ w'.cell? ⟨ga + 1, 1, none⟩ = some (.slice A' n' c'))) 6 (by kernel_rfl) (by kernel_rfl) (by intro c a d v w h; cases d <;> exact h) ⟨cell_dr Xa.out.c0, cell_dr Xa.out.c1, cell_dr Xm.out.c0, cell_dr Xm.out.c1⟩ (fun QT hT hP hHeld => ?_)
      simp only [List.extract_toArray, List.extract_eq_take_drop, List.drop_zero, Nat.sub_zero, List.take_succ_cons, List.take_zero]
      have HT := Lib.hid hT
      clear hT
      replace P := Lib.hid (P.out.trans ((Below.refl wc.heap.size wc).drew.mono P.out.size))
      replace Xa := Lib.hid (Xa.out.next (Below.refl wc.heap.size wc).drew)
      replace Xm := Lib.hid (Xm.out.next (Below.refl wc.heap.size wc).drew)
      replace X8 := Lib.hid (X8.out.next (Below.refl wc.heap.size wc).drew)
      replace X9 := Lib.hid (X9.out.next (Below.refl wc.heap.size wc).drew)
      generalize wc.drew = D36 at P Xa Xm X8 X9 hHeld ⊢
      refine take_on (i := 0) (d := (some 16)) (v := ?v3) rfl rfl (by kernel_rfl) (by kernel_rfl) (by kernel_rfl) (fun c a w h => hP c a _ _ w h) (by rfl) ?h3 (by assumption) ?r3
      case h3 => intro w hSw; obtain ⟨h0, h1, h2, h3⟩ := hSw; go_simp; rfl
      simp only [Act.put, List.setIfInBounds_toArray, List.set_cons_zero, List.set_cons_succ]
      refine take_on (i := 1) (d := (some 17)) (v := ?v4) rfl rfl (by kernel_rfl) (by kernel_rfl) (by kernel_rfl) (fun c a w h => hP c a _ _ w h) (by rfl) ?h4 (by assumption) ?r4
      case h4 => intro w hSw; obtain ⟨h0, h1, h2, h3⟩ := hSw; go_simp; rfl
      simp only [Act.put, List.setIfInBounds_toArray, List.set_cons_zero, List.set_cons_succ]
      refine take_on (i := 3) (d := (some 19)) (v := ?v5) rfl rfl (by kernel_rfl) (by kernel_rfl) (by kernel_rfl) (fun c a w h => hP c a _ _ w h) (by rfl) ?h5 (by assumption) ?r5
      case h5 => intro w hSw; obtain ⟨h0, h1, h2, h3⟩ := hSw; go_simp; rfl
      simp only [Act.put, List.setIfInBounds_toArray, List.set_cons_zero, List.set_cons_succ]
      refine wpAnyH_ready (rs := [2, 5]) (by kernel_rfl) (by simp) ?_
      refine AllReadyH.cons rfl (fun K hK => ?_) ?_
      ·
        go_simp
        refine (refAdd_c Xa.out.is Xa.out.is (Nat.le_trans (Xa.out.is.len HS.out.1) (by omega)) (Nat.le_trans (Xa.out.is.len HS.out.1) (by omega))).mono ?_
        rintro e w37 ⟨t22, A22, n22, c22, rfl, i22, hb⟩
        replace P := Lib.hid (P.out.trans (hb.mono P.out.size))
        replace Xa := Lib.hid (Xa.out.next hb)
        replace Xm := Lib.hid (Xm.out.next hb)
        replace X8 := Lib.hid (X8.out.next hb)
        replace X9 := Lib.hid (X9.out.next hb)
        have J0 := Lib.hid (i22)
        clear hb hHeld i22
        refine hK.out _ _ ⟨Xa.out.c0, Xa.out.c1, Xm.out.c0, Xm.out.c1⟩ (fun hHeld => ?_)
        clear hK K
        refine wpAnyH_ready (rs := [4, 5]) (by kernel_rfl) (by simp) ?_
        refine AllReadyH.cons rfl (fun K hK => ?_) ?_
        ·
          go_simp
          refine (rest_c J0.out Xm.out.is HM.out.2 (Nat.le_trans (J0.out.len (HS.out.1.add HS.out.1)) (by omega)) (Nat.le_trans (Xm.out.is.len HS.out.2) (by omega))).mono ?_
          rintro e w38 ⟨t23, A23, n23, c23, rfl, i23, hb⟩
          replace P := Lib.hid (P.out.trans (hb.mono P.out.size))
          replace Xa := Lib.hid (Xa.out.next hb)
          replace Xm := Lib.hid (Xm.out.next hb)
          replace X8 := Lib.hid (X8.out.next hb)
          replace X9 := Lib.hid (X9.out.next hb)
          replace J0 := Lib.hid (J0.out.below hb)
          have J1 := Lib.hid (i23)
          clear hb hHeld i23
          refine hK.out _ _ ⟨Xa.out.c0, Xa.out.c1, Xm.out.c0, Xm.out.c1⟩ (fun hHeld => ?_)
          clear hK K
          refine wpAnyH_ready (rs := [5]) (by kernel_rfl) (by simp) ?_
          refine AllReadyH.cons rfl (fun K hK => ?_) AllReadyH.nil
          go_simp
          clear hHeld
          have V10 := Lib.hid (Nvr.new (is_zero8 w38))
          have lXa := Xa.out.lt
          have lXm := Xm.out.lt
          have lX8 := X8.out.lt
          have lX9 := X9.out.lt
          replace P := Lib.hid (P.out.trans ((below_alloc _ (.cells #[.bool false, .slice none 0 0] 24)).mono P.out.size))
          replace Xa := Lib.hid (Xa.out.next (below_alloc _ (.cells #[.bool false, .slice none 0 0] 24)))
          replace Xm := Lib.hid (Xm.out.next (below_alloc _ (.cells #[.bool false, .slice none 0 0] 24)))
          replace X8 := Lib.hid (X8.out.next (below_alloc _ (.cells #[.bool false, .slice none 0 0] 24)))
          replace X9 := Lib.hid (X9.out.next (below_alloc _ (.cells #[.bool false, .slice none 0 0] 24)))
          replace J0 := Lib.hid (J0.out.below (below_alloc _ (.cells #[.bool false, .slice none 0 0] 24)))
          replace J1 := Lib.hid (J1.out.below (below_alloc _ (.cells #[.bool false, .slice none 0 0] 24)))
          skip
          generalize w38.alloc (.cells #[.bool false, .slice none 0 0] 24) = y39 at P Xa Xm X8 X9 J0 J1 V10 ⊢
          generalize w38.heap.size = gV10 at V10 lXa lXm lX8 lX9 ⊢
          refine hK.out _ _ ⟨Xa.out.c0, Xa.out.c1, Xm.out.c0, Xm.out.c1⟩ (fun hHeld => ?_)
          clear hK K
          clear hHeld
          refine wpAnyH_done (by kernel_rfl) ?_ _
          refine HT.out _ _ ?_
          clear HT hP QT
          have p0 := V10.out.c0
          have p1 := V10.out.c1
          have p2 := V10.out.f0
          have p3 := V10.out.f1
          refine wpList_step fun K hK => ?_
          go_simp
          refine hK _ _ ?_
          clear hK K
          refine wpList_nil ?_
          go_wp2
          go_meet
          exact ⟨gV10, rfl, below_store P.out (by have := HGA.out; omega) _ _, Xm.out.far (by omega) p0 p1 _ _, X8.out.far V10.out (by omega) _ _, X9.out.far V10.out (by omega) _ _, (V10.out.put J1.out).nw, by omega, by omega, by omega⟩
        refine AllReadyH.cons rfl (fun K hK => ?_) ?_
        ·
          go_simp
          clear hHeld
          have V10 := Lib.hid (Nvr.new (is_zero8 w37))
          have lXa := Xa.out.lt
          have lXm := Xm.out.lt
          have lX8 := X8.out.lt
          have lX9 := X9.out.lt
          replace P := Lib.hid (P.out.trans ((below_alloc _ (.cells #[.bool false, .slice none 0 0] 24)).mono P.out.size))
          replace Xa := Lib.hid (Xa.out.next (below_alloc _ (.cells #[.bool false, .slice none 0 0] 24)))
          replace Xm := Lib.hid (Xm.out.next (below_alloc _ (.cells #[.bool false, .slice none 0 0] 24)))
          replace X8 := Lib.hid (X8.out.next (below_alloc _ (.cells #[.bool false, .slice none 0 0] 24)))
          replace X9 := Lib.hid (X9.out.next (below_alloc _ (.cells #[.bool false, .slice none 0 0] 24)))
          replace J0 := Lib.hid (J0.out.below (below_alloc _ (.cells #[.bool false, .slice none 0 0] 24)))
          skip
          generalize w37.alloc (.cells #[.bool false, .slice none 0 0] 24) = y40 at P Xa Xm X8 X9 J0 V10 ⊢
          generalize w37.heap.size = gV10 at V10 lXa lXm lX8 lX9 ⊢
          refine hK.out _ _ ⟨Xa.out.c0, Xa.out.c1, Xm.out.c0, Xm.out.c1⟩ (fun hHeld => ?_)
          clear hK K
          refine wpAnyH_ready (rs := [4]) (by kernel_rfl) (by simp) ?_
          refine AllReadyH.cons rfl (fun K hK => ?_) AllReadyH.nil
          go_simp
          refine (rest_c J0.out Xm.out.is HM.out.2 (Nat.le_trans (J0.out.len (HS.out.1.add HS.out.1)) (by omega)) (Nat.le_trans (Xm.out.is.len HS.out.2) (by omega))).mono ?_
          rintro e w41 ⟨t23, A23, n23, c23, rfl, i23, hb⟩
          replace P := Lib.hid (P.out.trans (hb.mono P.out.size))
          replace Xa := Lib.hid (Xa.out.next hb)
          replace Xm := Lib.hid (Xm.out.next hb)
          replace X8 := Lib.hid (X8.out.next hb)
          replace X9 := Lib.hid (X9.out.next hb)
          replace J0 := Lib.hid (J0.out.below hb)
          replace V10 := Lib.hid (V10.out.next hb)
          have J1 := Lib.hid (i23)
          clear hb hHeld i23
          refine hK.out _ _ ⟨Xa.out.c0, Xa.out.c1, Xm.out.c0, Xm.out.c1⟩ (fun hHeld => ?_)
          clear hK K
          clear hHeld
          refine wpAnyH_done (by kernel_rfl) ?_ _
          refine HT.out _ _ ?_
          clear HT hP QT
          have p0 := V10.out.c0
          have p1 := V10.out.c1
          have p2 := V10.out.f0
          have p3 := V10.out.f1
          refine wpList_step fun K hK => ?_
          go_simp
          refine hK _ _ ?_
          clear hK K
          refine wpList_nil ?_
          go_wp2
          go_meet
          exact ⟨gV10, rfl, below_store P.out (by have := HGA.out; omega) _ _, Xm.out.far (by omega) p0 p1 _ _, X8.out.far V10.out (by omega) _ _, X9.out.far V10.out (by omega) _ _, (V10.out.put J1.out).nw, by omega, by omega, by omega⟩
        exact AllReadyH.nil
      refine AllReadyH.cons rfl (fun K hK => ?_) ?_
      ·
        go_simp
        clear hHeld
        have V10 := Lib.hid (Nvr.new (is_zero8 D36))
        have lXa := Xa.out.lt
        have lXm := Xm.out.lt
        have lX8 := X8.out.lt
        have lX9 := X9.out.lt
        replace P := Lib.hid (P.out.trans ((below_alloc _ (.cells #[.bool false, .slice none 0 0] 24)).mono P.out.size))
        replace Xa := Lib.hid (Xa.out.next (below_alloc _ (.cells #[.bool false, .slice none 0 0] 24)))
        replace Xm := Lib.hid (Xm.out.next (below_alloc _ (.cells #[.bool false, .slice none 0 0] 24)))
        replace X8 := Lib.hid (X8.out.next (below_alloc _ (.cells #[.bool false, .slice none 0 0] 24)))
        replace X9 := Lib.hid (X9.out.next (below_alloc _ (.cells #[.bool false, .slice none 0 0] 24)))
        skip
        generalize D36.alloc (.cells #[.bool false, .slice none 0 0] 24) = y42 at P Xa Xm X8 X9 V10 ⊢
        generalize D36.heap.size = gV10 at V10 lXa lXm lX8 lX9 ⊢
        refine hK.out _ _ ⟨Xa.out.c0, Xa.out.c1, Xm.out.c0, Xm.out.c1⟩ (fun hHeld => ?_)
        clear hK K
        refine wpAnyH_ready (rs := [2]) (by kernel_rfl) (by simp) ?_
        refine AllReadyH.cons rfl (fun K hK => ?_) AllReadyH.nil
        go_simp
        refine (refAdd_c Xa.out.is Xa.out.is (Nat.le_trans (Xa.out.is.len HS.out.1) (by omega)) (Nat.le_trans (Xa.out.is.len HS.out.1) (by omega))).mono ?_
        rintro e w43 ⟨t22, A22, n22, c22, rfl, i22, hb⟩
        replace P := Lib.hid (P.out.trans (hb.mono P.out.size))
        replace Xa := Lib.hid (Xa.out.next hb)
        replace Xm := Lib.hid (Xm.out.next hb)
        replace X8 := Lib.hid (X8.out.next hb)
        replace X9 := Lib.hid (X9.out.next hb)
        replace V10 := Lib.hid (V10.out.next hb)
        have J0 := Lib.hid (i22)
        clear hb hHeld i22
        refine hK.out _ _ ⟨Xa.out.c0, Xa.out.c1, Xm.out.c0, Xm.out.c1⟩ (fun hHeld => ?_)
        clear hK K
        refine wpAnyH_ready (rs := [4]) (by kernel_rfl) (by simp) ?_
        refine AllReadyH.cons rfl (fun K hK => ?_) AllReadyH.nil
        go_simp
        refine (rest_c J0.out Xm.out.is HM.out.2 (Nat.le_trans (J0.out.len (HS.out.1.add HS.out.1)) (by omega)) (Nat.le_trans (Xm.out.is.len HS.out.2) (by omega))).mono ?_
        rintro e w44 ⟨t23, A23, n23, c23, rfl, i23, hb⟩
        replace P := Lib.hid (P.out.trans (hb.mono P.out.size))
        replace Xa := Lib.hid (Xa.out.next hb)
        replace Xm := Lib.hid (Xm.out.next hb)
        replace X8 := Lib.hid (X8.out.next hb)
        replace X9 := Lib.hid (X9.out.next hb)
        replace V10 := Lib.hid (V10.out.next hb)
        replace J0 := Lib.hid (J0.out.below hb)
        have J1 := Lib.hid (i23)
        clear hb hHeld i23
        refine hK.out _ _ ⟨Xa.out.c0, Xa.out.c1, Xm.out.c0, Xm.out.c1⟩ (fun hHeld => ?_)
        clear hK K
        clear hHeld
        refine wpAnyH_done (by kernel_rfl) ?_ _
        refine HT.out _ _ ?_
        clear HT hP QT
        have p0 := V10.out.c0
        have p1 := V10.out.c1
        have p2 := V10.out.f0
        have p3 := V10.out.f1
        refine wpList_step fun K hK => ?_
        go_simp
        refine hK _ _ ?_
        clear hK K
        refine wpList_nil ?_
        go_wp2
        go_meet
        exact ⟨gV10, rfl, below_store P.out (by have := HGA.out; omega) _ _, Xm.out.far (by omega) p0 p1 _ _, X8.out.far V10.out (by omega) _ _, X9.out.far V10.out (by omega) _ _, (V10.out.put J1.out).nw, by omega, by omega, by omega⟩
      exact AllReadyH.nil
    case rest =>
      obtain ⟨g10, rfl, hp, h2, h3, h4, h5, l1, l2, l3⟩ := hcut
      clear P Xa Xm X8 X9
      have E := Lib.hid (show Below w.heap.size w wc ∧ Nvr wc (ga + 1) m t' A' n' c' ∧ Nwx wc g8 (psi a 0 % m) ∧ Nwx wc g9 (psi a (0 + 1) % m) ∧ Nwx wc g10 ((2 * a) % m) from ⟨hp, h2, by rw [show psi a 0 = 0 from rfl, Int.zero_emod]; exact h3, h4, by rw [show 2 * a = a + a by omega]; exact h5⟩)
      have HG := Lib.hid (And.intro l1 (And.intro l2 l3))
      clear hp h2 h3 h4 h5 l1 l2 l3
      go_wp2
      go_loopw [11] (fun v wr => ∃ i : Nat, v = .int .i64 ((i + 1 : Nat) : Int) ∧ i ≤ most ∧ (∀ j, 1 ≤ j → j ≤ i → psi a j % m ≠ 0) ∧ Below w.heap.size w wr ∧ Nvr wr (ga + 1) m t' A' n' c' ∧ Nwx wr g8 (psi a i % m) ∧ Nwx wr g9 (psi a (i + 1) % m) ∧ Nwx wr g10 ((2 * a) % m)) (fun v _ => most + 1 - (intOf v).toNat)
      case atStart => exact ⟨0, rfl, Nat.zero_le _, fun j h1 h2 => by omega, E.out⟩
      case round =>
        clear E
        obtain ⟨i, rfl, h1, h2, hp, h3, h4, h5, h6⟩ := hrel
        obtain ⟨t8, A8, n8, c8, h4⟩ := h4
        obtain ⟨t9, A9, n9, c9, h5⟩ := h5
        obtain ⟨t10, A10, n10, c10, h6⟩ := h6
        have P := Lib.hid hp
        have Xm := Lib.hid h3
        have X8 := Lib.hid h4
        have X9 := Lib.hid h5
        have X10 := Lib.hid h6
        have HJ := Lib.hid h2
        have HI := Lib.hid h1
        clear hp h2 h3 h4 h5 h6
        obtain ⟨M, hMd⟩ : ∃ M : Int, M = ((i + 1 : Nat) : Int) := ⟨_, rfl⟩
        rw [← hMd]
        have HMd := Lib.hid hMd
        have m0 : 1 ≤ M := by omega
        have m1 : M ≤ 1000001 := by have := HK.out; omega
        clear hMd
        by_cases hlt : i < most
        · have hMK : M ≤ K := by have := HMd.out; have := HK.out; omega
          have hMK2 : decide (M ≤ K) = true := decide_eq_true hMK
          have HLT := Lib.hid hlt
          clear hlt h1
          go_upto_region 6 with (fail)
          refine wp_region_tail (S := (fun w' => w'.cell? ⟨g9, 0, none⟩ = some (.bool t9) ∧ w'.cell? ⟨g9, 1, none⟩ = some (.slice A9 n9 c9) ∧ w'.cell? ⟨g10, 0, none⟩ = some (.bool t10) ∧ w'.cell? ⟨g10, 1, none⟩ = some (.slice A10 n10 c10) ∧ w'.cell? ⟨g8, 0, none⟩ = some (.bool t8) ∧ w'.cell? ⟨g8, 1, none⟩ = some (.slice A8 n8 c8) ∧ w'.cell? ⟨ga + 1, 0, none⟩ = some (.bool t') ∧ w'.cell? ⟨ga + 1, 1, none⟩ = some (.slice A' n' c'))) 8 (by kernel_rfl) (by kernel_rfl) (by intro c a d v w h; cases d <;> exact h) ⟨cell_dr X9.out.c0, cell_dr X9.out.c1, cell_dr X10.out.c0, cell_dr X10.out.c1, cell_dr X8.out.c0, cell_dr X8.out.c1, cell_dr Xm.out.c0, cell_dr Xm.out.c1⟩ (fun QT hT hP hHeld => ?_)
          simp only [List.extract_toArray, List.extract_eq_take_drop, List.drop_zero, Nat.sub_zero, List.take_succ_cons, List.take_zero]
          have HT := Lib.hid hT
          clear hT
          replace P := Lib.hid (P.out.trans ((Below.refl wr.heap.size wr).drew.mono P.out.size))
          replace Xm := Lib.hid (Xm.out.next (Below.refl wr.heap.size wr).drew)
          replace X8 := Lib.hid (X8.out.next (Below.refl wr.heap.size wr).drew)
          replace X9 := Lib.hid (X9.out.next (Below.refl wr.heap.size wr).drew)
          replace X10 := Lib.hid (X10.out.next (Below.refl wr.heap.size wr).drew)
          generalize wr.drew = D45 at P Xm X8 X9 X10 hHeld ⊢
          refine take_on (i := 0) (d := (some 26)) (v := ?v6) rfl rfl (by kernel_rfl) (by kernel_rfl) (by kernel_rfl) (fun c a w h => hP c a _ _ w h) (by rfl) ?h6 (by assumption) ?r6
          case h6 => intro w hSw; obtain ⟨h0, h1, h2, h3, h4, h5, h6, h7⟩ := hSw; go_simp; rfl
          simp only [Act.put, List.setIfInBounds_toArray, List.set_cons_zero, List.set_cons_succ]
          refine take_on (i := 1) (d := (some 27)) (v := ?v7) rfl rfl (by kernel_rfl) (by kernel_rfl) (by kernel_rfl) (fun c a w h => hP c a _ _ w h) (by rfl) ?h7 (by assumption) ?r7
          case h7 => intro w hSw; obtain ⟨h0, h1, h2, h3, h4, h5, h6, h7⟩ := hSw; go_simp; rfl
          simp only [Act.put, List.setIfInBounds_toArray, List.set_cons_zero, List.set_cons_succ]
          refine take_on (i := 2) (d := (some 28)) (v := ?v8) rfl rfl (by kernel_rfl) (by kernel_rfl) (by kernel_rfl) (fun c a w h => hP c a _ _ w h) (by rfl) ?h8 (by assumption) ?r8
          case h8 => intro w hSw; obtain ⟨h0, h1, h2, h3, h4, h5, h6, h7⟩ := hSw; go_simp; rfl
          simp only [Act.put, List.setIfInBounds_toArray, List.set_cons_zero, List.set_cons_succ]
          refine take_on (i := 4) (d := (some 30)) (v := ?v9) rfl rfl (by kernel_rfl) (by kernel_rfl) (by kernel_rfl) (fun c a w h => hP c a _ _ w h) (by rfl) ?h9 (by assumption) ?r9
          case h9 => intro w hSw; obtain ⟨h0, h1, h2, h3, h4, h5, h6, h7⟩ := hSw; go_simp; rfl
          simp only [Act.put, List.setIfInBounds_toArray, List.set_cons_zero, List.set_cons_succ]
          refine take_on (i := 6) (d := (some 32)) (v := ?v10) rfl rfl (by kernel_rfl) (by kernel_rfl) (by kernel_rfl) (fun c a w h => hP c a _ _ w h) (by rfl) ?h10 (by assumption) ?r10
          case h10 => intro w hSw; obtain ⟨h0, h1, h2, h3, h4, h5, h6, h7⟩ := hSw; go_simp; rfl
          simp only [Act.put, List.setIfInBounds_toArray, List.set_cons_zero, List.set_cons_succ]
          refine wpAnyH_ready (rs := [3]) (by kernel_rfl) (by simp) ?_
          refine AllReadyH.cons rfl (fun K hK => ?_) AllReadyH.nil
          go_simp
          refine (refMul_c X10.out.is X9.out.is (Nat.le_trans (X10.out.is.len (sz_rest HM.out.1 HS.out.2)) (by omega)) (Nat.le_trans (X9.out.is.len (sz_rest HM.out.1 HS.out.2)) (by omega))).mono ?_
          rintro e w46 ⟨t30, A30, n30, c30, rfl, i30, hb⟩
          replace P := Lib.hid (P.out.trans (hb.mono P.out.size))
          replace Xm := Lib.hid (Xm.out.next hb)
          replace X8 := Lib.hid (X8.out.next hb)
          replace X9 := Lib.hid (X9.out.next hb)
          replace X10 := Lib.hid (X10.out.next hb)
          have J0 := Lib.hid (i30)
          clear hb hHeld i30
          refine hK.out _ _ ⟨X9.out.c0, X9.out.c1, X10.out.c0, X10.out.c1, X8.out.c0, X8.out.c1, Xm.out.c0, Xm.out.c1⟩ (fun hHeld => ?_)
          clear hK K
          refine wpAnyH_ready (rs := [5]) (by kernel_rfl) (by simp) ?_
          refine AllReadyH.cons rfl (fun K hK => ?_) AllReadyH.nil
          go_simp
          refine (refSub_c J0.out X8.out.is (Nat.le_trans (J0.out.len (Sz.mul (sz_rest HM.out.1 HS.out.2) (sz_rest HM.out.1 HS.out.2))) (by omega)) (Nat.le_trans (X8.out.is.len (sz_rest HM.out.1 HS.out.2)) (by omega))).mono ?_
          rintro e w47 ⟨t31, A31, n31, c31, rfl, i31, hb⟩
          replace P := Lib.hid (P.out.trans (hb.mono P.out.size))
          replace Xm := Lib.hid (Xm.out.next hb)
          replace X8 := Lib.hid (X8.out.next hb)
          replace X9 := Lib.hid (X9.out.next hb)
          replace X10 := Lib.hid (X10.out.next hb)
          replace J0 := Lib.hid (J0.out.below hb)
          have J1 := Lib.hid (i31)
          clear hb hHeld i31
          refine hK.out _ _ ⟨X9.out.c0, X9.out.c1, X10.out.c0, X10.out.c1, X8.out.c0, X8.out.c1, Xm.out.c0, Xm.out.c1⟩ (fun hHeld => ?_)
          clear hK K
          refine wpAnyH_ready (rs := [7]) (by kernel_rfl) (by simp) ?_
          refine AllReadyH.cons rfl (fun K hK => ?_) AllReadyH.nil
          go_simp
          refine (rest_c J1.out Xm.out.is HM.out.2 (Nat.le_trans (J1.out.len ((Sz.mul (sz_rest HM.out.1 HS.out.2) (sz_rest HM.out.1 HS.out.2)).sub ((sz_rest HM.out.1 HS.out.2).le (by omega)))) (by omega)) (Nat.le_trans (Xm.out.is.len HS.out.2) (by omega))).mono ?_
          rintro e w48 ⟨t32, A32, n32, c32, rfl, i32, hb⟩
          replace P := Lib.hid (P.out.trans (hb.mono P.out.size))
          replace Xm := Lib.hid (Xm.out.next hb)
          replace X8 := Lib.hid (X8.out.next hb)
          replace X9 := Lib.hid (X9.out.next hb)
          replace X10 := Lib.hid (X10.out.next hb)
          replace J0 := Lib.hid (J0.out.below hb)
          replace J1 := Lib.hid (J1.out.below hb)
          have J2 := Lib.hid (i32)
          clear hb hHeld i32
          refine hK.out _ _ ⟨X9.out.c0, X9.out.c1, X10.out.c0, X10.out.c1, X8.out.c0, X8.out.c1, Xm.out.c0, Xm.out.c1⟩ (fun hHeld => ?_)
          clear hK K
          clear hHeld
          refine wpAnyH_done (by kernel_rfl) ?_ _
          refine HT.out _ _ ?_
          clear HT hP QT
          have p0 := X8.out.c0
          have p1 := X8.out.c1
          have p2 := X8.out.f0
          have p3 := X8.out.f1
          refine wpList_step fun K hK => ?_
          go_simp
          refine hK _ _ ?_
          clear hK K
          have q1 := HL.out.1
          have q2 := HL.out.2.1
          have q3 := HL.out.2.2
          have q4 := HG.out.1
          have q5 := HG.out.2.1
          have q6 := HG.out.2.2
          have X9b := Lib.hid (X9.out.far (show g8 ≠ g9 by omega) p0 p1 (.bool t9) (.slice A9 n9 c9))
          have Xmb := Lib.hid (Xm.out.far (show g8 ≠ ga + 1 by omega) p0 p1 (.bool t9) (.slice A9 n9 c9))
          have X10b := Lib.hid (X10.out.far (show g8 ≠ g10 by omega) p0 p1 (.bool t9) (.slice A9 n9 c9))
          have X8b := Lib.hid (X8.out.put X9.out.is)
          have J2b := Lib.hid (J2.out.store p0 p1 (.bool t9) (.slice A9 n9 c9))
          have Pb := Lib.hid (below_store P.out (show w.heap.size ≤ g8 by have := HGA.out; omega) (.bool t9) (.slice A9 n9 c9))
          clear p0 p1 p2 p3 P Xm X8 X9 X10 J0 J1 J2
          generalize (w48.setCell ⟨g8, 0, none⟩ (.bool t9)).setCell ⟨g8, 1, none⟩ (.slice A9 n9 c9) = U1 at X9b Xmb X10b X8b J2b Pb ⊢
          have p0 := X9b.out.c0
          have p1 := X9b.out.c1
          have p2 := X9b.out.f0
          have p3 := X9b.out.f1
          refine wpList_step fun K hK => ?_
          go_simp
          refine hK _ _ ?_
          clear hK K
          have J3 := Lib.hid (show Is U1 (psi a (i + 2) % m) t32 A32 n32 c32 by have := J2b.out; rw [rest_next, ← psi_two] at this; exact this)
          have X9 := Lib.hid (X9b.out.put J3.out)
          have Xm := Lib.hid (Xmb.out.far (show g9 ≠ ga + 1 by omega) p0 p1 (.bool t32) (.slice A32 n32 c32))
          have X10 := Lib.hid (X10b.out.far (show g9 ≠ g10 by omega) p0 p1 (.bool t32) (.slice A32 n32 c32))
          have X8 := Lib.hid (X8b.out.far (show g9 ≠ g8 by omega) p0 p1 (.bool t32) (.slice A32 n32 c32))
          have P := Lib.hid (below_store Pb.out (show w.heap.size ≤ g9 by have := HGA.out; omega) (.bool t32) (.slice A32 n32 c32))
          clear p0 p1 p2 p3 q1 q2 q3 q4 q5 q6 X9b Xmb X10b X8b J2b Pb J3
          generalize (U1.setCell ⟨g9, 0, none⟩ (.bool t32)).setCell ⟨g9, 1, none⟩ (.slice A32 n32 c32) = U2 at P Xm X8 X9 X10 ⊢
          refine wpList_nil ?_
          have xX80 := X8.out.c0
          have xX81 := X8.out.c1
          go_wp2_with fail
          refine (Zero_z X8.out.is).mono ?_
          rintro e w49 ⟨rfl, hb⟩
          replace P := Lib.hid (P.out.trans (hb.mono P.out.size))
          replace Xm := Lib.hid (Xm.out.next hb)
          replace X8 := Lib.hid (X8.out.next hb)
          replace X9 := Lib.hid (X9.out.next hb)
          replace X10 := Lib.hid (X10.out.next hb)
          clear hb xX80 xX81
          by_cases hz : psi a (i + 1) % m = 0
          · rw [decide_eq_true hz]
            have HZ := Lib.hid hz
            clear hz
            go_wp2
            refine bodyPost_ret (v := .tuple #[.int .i64 M, .bool true]) (by simp [results, Try.results33, go_sem]) rfl ?_
            exact ⟨i + 1, true, by rw [HMd.out], P.out, .inl ⟨rfl, by omega, by have := HLT.out; omega, HZ.out, fun j h1 h2 => HJ.out j h1 (by omega)⟩⟩
          · rw [decide_eq_false hz]
            have HZ := Lib.hid (show ∀ j, 1 ≤ j → j ≤ i + 1 → psi a j % m ≠ 0 from fun j h1 h2 => by
              by_cases hji : j = i + 1
              · subst hji; exact hz
              · exact HJ.out j h1 (by omega))
            clear hz
            go_wp2
            go_roundw
            case measure => have := HMd.out; have := HLT.out; simp [intOf]; omega
            case rel => exact ⟨i + 1, by rw [HMd.out]; go_num, by have := HLT.out; omega, HZ.out, P.out, Xm.out, X8.out.nw, X9.out.nw, X10.out.nw⟩
        · have hMK : ¬ M ≤ K := by have := HMd.out; have := HK.out; omega
          have hMK2 : decide (M ≤ K) = false := decide_eq_false hMK
          have HE := Lib.hid (show i = most by omega)
          clear hlt h1
          go_wp2
          refine bodyPost_ret (v := .tuple #[.int .i64 0, .bool false]) (by simp [results, Try.results33, go_sem]) rfl ?_
          exact ⟨0, false, rfl, P.out, .inr ⟨rfl, rfl, fun j h1 h2 => HJ.out j h1 (by have := HE.out; omega)⟩⟩
end Go.Proofs.Ytbblckaplddggaa

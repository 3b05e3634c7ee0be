import Derived.Test.YtbblckaplddggaaFi
import Derived.Test.YtbblckaplddggaaDy
import Derived.Deep.LoopGhost
import Derived.Deep.DeepCutAuto
set_option maxRecDepth 100000
namespace Go.Proofs.Ytbblckaplddggaa
open Go.RowKit
theorem shl_one_up (k : Nat) : shl 1 (k : Int) = ((2 ^ k : Nat) : Int) := by
  unfold shl
  rw [if_pos (by omega)]
  simp
theorem shl_half (V : Nat) : shl (V : Int) (-1) = ((V / 2 : Nat) : Int) := by
  unfold shl
  rw [if_neg (by omega)]
  simp
def RefRoot (X : Nat) (w : World) (e : Ending) (w' : World) : Prop := ∃ r : Nat, IsRoot X r ∧ NumI w (r : Int) e w'
set_option maxHeartbeats 8000000 in
theorem refRoot_zero {w : World} {t : Bool} {A : Option Addr} {n c : Nat} (h : Is w 0 t A n c) :
    Calls Try.prog 84 #[.agg #[.bool t, .slice A n c]] w (RefRoot 0 w) := by
  have hb0 := below_alloc w (.cells #[.bool t, .slice A n c] 24)
  have P := Lib.hid (hb0.alloc hb0.size (.cells #[.bool false, .slice none 0 0] 24))
  have Xa := Lib.hid ((Nvr.new h).alloc (.cells #[.bool false, .slice none 0 0] 24))
  have X2 := Lib.hid (Nvr.new (is_zero8 (w.alloc (.cells #[.bool t, .slice A n c] 24))))
  simp only [World.size_alloc] at X2
  clear h hb0
  go_enter Try.func84, Try.ntmps84
  go_upto_region 1 with (fail)
  generalize (w.alloc (.cells #[.bool t, .slice A n c] 24)).alloc (.cells #[.bool false, .slice none 0 0] 24) = W0 at P Xa X2 ⊢
  obtain ⟨ga, hga⟩ : ∃ g, g = w.heap.size := ⟨_, rfl⟩
  have HGA := Lib.hid (show w.heap.size ≤ ga by omega)
  rw [← hga] at Xa X2 ⊢
  clear hga
  have a0 := Xa.out.c0
  have a1 := Xa.out.c1
  go_wp2_with fail
  refine (Zero_z Xa.out.is).mono ?_
  rw [decide_eq_true (show (0 : Int) = 0 from rfl)]
  rintro e w1 ⟨rfl, hb⟩
  replace P := Lib.hid (P.out.trans (hb.mono P.out.size))
  replace Xa := Lib.hid (Xa.out.next hb)
  replace X2 := Lib.hid (X2.out.next hb)
  clear hb a0 a1
  have a0 := Xa.out.c0
  have a1 := Xa.out.c1
  have r0 := X2.out.c0
  have r1 := X2.out.c1
  have r2 := X2.out.f0
  have r3 := X2.out.f1
  go_wp2
  have Q := X2.out.put Xa.out.is
  have PB := below_store P.out (show w.heap.size ≤ ga + 1 by have := HGA.out; omega) (.bool t) (.slice A n c)
  have y0 := Q.c0
  have y1 := Q.c1
  refine bodyPost_ret (v := .agg #[.bool t, .slice A n c]) (by simp [results, Try.results84, go_sem, y0, y1]) rfl ?_
  exact ⟨0, ⟨by omega, by omega⟩, _, _, _, _, rfl, Q.is, PB⟩
set_option maxHeartbeats 16000000 in
theorem refRoot_pos {w : World} {X : Nat} {t : Bool} {A : Option Addr} {n c : Nat} (h : Is w (X : Int) t A n c) (h0 : X ≠ 0) (hxl : (words X).length ≤ 4096) :
    Calls Try.prog 84 #[.agg #[.bool t, .slice A n c]] w (RefRoot X w) := by
  have hb0 := below_alloc w (.cells #[.bool t, .slice A n c] 24)
  have P := Lib.hid (hb0.alloc hb0.size (.cells #[.bool false, .slice none 0 0] 24))
  have Xa := Lib.hid ((Nvr.new h).alloc (.cells #[.bool false, .slice none 0 0] 24))
  have X2 := Lib.hid (Nvr.new (is_zero8 (w.alloc (.cells #[.bool t, .slice A n c] 24))))
  simp only [World.size_alloc] at X2
  have HS := Lib.hid (root_start X)
  obtain ⟨bl, hbl⟩ : ∃ bl, bl = blen X := ⟨_, rfl⟩
  have hblm : bl ≤ 131072 := by rw [hbl]; exact Nat.le_trans (blen_len hxl) (by omega)
  have HBL := Lib.hid hbl.symm
  rw [← hbl] at HS
  obtain ⟨hf, hhf⟩ : ∃ hf, hf = (bl + 1) / 2 := ⟨_, rfl⟩
  rw [← hhf] at HS
  have e1 : ((bl : Int) + 1) / 2 = (hf : Int) := by omega
  have e2 : IntKind.i64.wrap ((bl : Int) + 1) = (bl : Int) + 1 := IntWalk.i64_in _ (by omega)
  have e3 : ((bl : Int) + 1).tdiv 2 = (hf : Int) := by rw [Int.tdiv_eq_ediv_of_nonneg (by omega)]; exact e1
  have hf1 : hf ≤ 65537 := by omega
  have w64 : IntKind.i64.wrap (hf : Int) = (hf : Int) := IntWalk.i64_in _ (by omega)
  obtain ⟨K, hK⟩ : ∃ K, K = 2 ^ hf := ⟨_, rfl⟩
  rw [← hK] at HS
  have KP := Lib.hid (show 0 < K by rw [hK]; exact Nat.pow_pos (by omega))
  have HKL := Lib.hid (show (words K).length ≤ 6000 by rw [hK]; exact Nat.le_trans (two_len (k := 2050) (by omega)) (by omega))
  have HK := Lib.hid hK
  have HX0 := Lib.hid h0
  have HXL := Lib.hid hxl
  have HVX := Lib.hid (show val (words ((X : Int).natAbs)) = X by rw [Int.natAbs_natCast, val_words])
  have SX := Lib.hid (show Sz (X : Int) 4096 by show ((X : Int)).natAbs < pw 4096; rw [Int.natAbs_natCast]; exact words_len_le.1 hxl)
  clear h hb0 h0 hxl hbl hhf hK
  go_enter Try.func84, Try.ntmps84
  go_upto_region 1 with (fail)
  generalize (w.alloc (.cells #[.bool t, .slice A n c] 24)).alloc (.cells #[.bool false, .slice none 0 0] 24) = W0 at P Xa X2 ⊢
  obtain ⟨ga, hga⟩ : ∃ g, g = w.heap.size := ⟨_, rfl⟩
  have HGA := Lib.hid (show w.heap.size ≤ ga by omega)
  rw [← hga] at Xa X2 ⊢
  clear hga
  have a0 := Xa.out.c0
  have a1 := Xa.out.c1
  go_wp2_with fail
  refine (Zero_z Xa.out.is).mono ?_
  rw [decide_eq_false (show ¬ (X : Int) = 0 by have := HX0.out; omega)]
  rintro e w1 ⟨rfl, hb⟩
  replace P := Lib.hid (P.out.trans (hb.mono P.out.size))
  replace Xa := Lib.hid (Xa.out.next hb)
  replace X2 := Lib.hid (X2.out.next hb)
  clear hb a0 a1
  go_upto_region 3 with (fail)
  go_cut [3] (fun v W => ∃ g3, v = .pointer (some ⟨g3, 0, none⟩) ∧ Below w.heap.size w W ∧ Nvr W ga (X : Int) t A n c ∧ Nvr W (ga + 1) 0 false none 0 0 ∧ Nwx W g3 (K : Int) ∧ ga + 1 < g3)
  case first =>
    refine wp_region_tail (S := (fun w' => w'.cell? ⟨ga, 0, none⟩ = some (.bool t) ∧ w'.cell? ⟨ga, 1, none⟩ = some (.slice A n c))) 7 (by kernel_rfl) (by kernel_rfl) (by intro c a d v w h; cases d <;> exact h) ⟨cell_dr Xa.out.c0, cell_dr Xa.out.c1⟩ (fun QT hT hP hHeld => ?_)
    simp only [List.extract_toArray, List.extract_eq_take_drop, List.drop_zero, Nat.sub_zero, List.take_succ_cons, List.take_zero]
    have HT := Lib.hid hT
    clear hT
    replace P := Lib.hid (P.out.trans ((Below.refl w1.heap.size w1).drew.mono P.out.size))
    replace Xa := Lib.hid (Xa.out.next (Below.refl w1.heap.size w1).drew)
    replace X2 := Lib.hid (X2.out.next (Below.refl w1.heap.size w1).drew)
    generalize w1.drew = D1 at P Xa X2 hHeld ⊢
    refine take_on (i := 1) (d := (some 11)) (v := ?v1) rfl rfl (by kernel_rfl) (by kernel_rfl) (by kernel_rfl) (fun c a w h => hP c a _ _ w h) (by rfl) ?h1 (by assumption) ?r1
    case h1 => intro w hSw; obtain ⟨h0, h1⟩ := hSw; go_simp; rfl
    simp only [Act.put, List.setIfInBounds_toArray, List.set_cons_zero, List.set_cons_succ]
    refine wpAnyH_ready (rs := [0, 6]) (by kernel_rfl) (by simp) ?_
    refine AllReadyH.cons rfl (fun Kz hK => ?_) ?_
    ·
      go_simp
      refine (refOfV 1 _ (by omega) (by omega)).mono ?_
      rintro e w2 ⟨t20, A20, n20, c20, rfl, i20, hb⟩
      replace P := Lib.hid (P.out.trans (hb.mono P.out.size))
      replace Xa := Lib.hid (Xa.out.next hb)
      replace X2 := Lib.hid (X2.out.next hb)
      have J0 := Lib.hid (i20.is)
      clear hb hHeld i20
      refine hK.out _ _ ⟨Xa.out.c0, Xa.out.c1⟩ (fun hHeld => ?_)
      clear hK Kz
      refine wpAnyH_ready (rs := [2, 6]) (by kernel_rfl) (by simp) ?_
      refine AllReadyH.cons rfl (fun Kz hK => ?_) ?_
      ·
        go_simp
        refine (refBits_c t A n c _ _ Xa.out.is.2.2.1 (words_canon _) (Nat.le_trans (Xa.out.is.len SX.out) (by omega))).mono ?_
        rw [HVX.out, HBL.out]
        rintro e w3 ⟨rfl, hb⟩
        replace P := Lib.hid (P.out.trans (hb.mono P.out.size))
        replace Xa := Lib.hid (Xa.out.next hb)
        replace X2 := Lib.hid (X2.out.next hb)
        replace J0 := Lib.hid (J0.out.below hb)
        clear hb hHeld
        refine hK.out _ _ ⟨Xa.out.c0, Xa.out.c1⟩ (fun hHeld => ?_)
        clear hK Kz
        refine take_on (i := 3) (d := (some 13)) (v := ?v2) rfl rfl (by kernel_rfl) (by kernel_rfl) (by kernel_rfl) (fun c a w h => hP c a _ _ w h) (by rfl) ?h2 (by assumption) ?r2
        case h2 => intro w hSw; obtain ⟨h0, h1⟩ := hSw; go_simp; rfl
        simp only [Act.put, List.setIfInBounds_toArray, List.set_cons_zero, List.set_cons_succ]
        refine take_on (i := 4) (d := (some 14)) (v := ?v3) rfl rfl (by kernel_rfl) (by kernel_rfl) (by kernel_rfl) (fun c a w h => hP c a _ _ w h) (by rfl) ?h3 (by assumption) ?r3
        case h3 => intro w hSw; obtain ⟨h0, h1⟩ := hSw; go_simp; rfl
        simp only [Act.put, List.setIfInBounds_toArray, List.set_cons_zero, List.set_cons_succ]
        refine wpAnyH_ready (rs := [5, 6]) (by kernel_rfl) (by simp) ?_
        refine AllReadyH.cons rfl (fun Kz hK => ?_) ?_
        ·
          go_simp
          refine (refShift_c J0.out (Nat.le_trans (J0.out.len (sz_one' (Nat.le_refl 1))) (by omega)) (hf : Int) (by omega)).mono ?_
          rw [shl_one_up, ← HK.out]
          rintro e w4 ⟨t21, A21, n21, c21, rfl, i21, hb⟩
          replace P := Lib.hid (P.out.trans (hb.mono P.out.size))
          replace Xa := Lib.hid (Xa.out.next hb)
          replace X2 := Lib.hid (X2.out.next hb)
          replace J0 := Lib.hid (J0.out.below hb)
          have J1 := Lib.hid (i21)
          clear hb hHeld i21
          refine hK.out _ _ ⟨Xa.out.c0, Xa.out.c1⟩ (fun hHeld => ?_)
          clear hK Kz
          refine wpAnyH_ready (rs := [6]) (by kernel_rfl) (by simp) ?_
          refine AllReadyH.cons rfl (fun Kz hK => ?_) AllReadyH.nil
          go_simp
          clear hHeld
          have V3 := Lib.hid (Nvr.new (is_zero8 w4))
          have lXa := Xa.out.lt
          have lX2 := X2.out.lt
          replace P := Lib.hid (P.out.trans ((below_alloc _ (.cells #[.bool false, .slice none 0 0] 24)).mono P.out.size))
          replace Xa := Lib.hid (Xa.out.next (below_alloc _ (.cells #[.bool false, .slice none 0 0] 24)))
          replace X2 := Lib.hid (X2.out.next (below_alloc _ (.cells #[.bool false, .slice none 0 0] 24)))
          replace J0 := Lib.hid (J0.out.below (below_alloc _ (.cells #[.bool false, .slice none 0 0] 24)))
          replace J1 := Lib.hid (J1.out.below (below_alloc _ (.cells #[.bool false, .slice none 0 0] 24)))
          skip
          generalize w4.alloc (.cells #[.bool false, .slice none 0 0] 24) = y5 at P Xa X2 J0 J1 V3 ⊢
          generalize w4.heap.size = gV3 at V3 lXa lX2 ⊢
          refine hK.out _ _ ⟨Xa.out.c0, Xa.out.c1⟩ (fun hHeld => ?_)
          clear hK Kz
          clear hHeld
          refine wpAnyH_done (by kernel_rfl) ?_ _
          refine HT.out _ _ ?_
          clear HT hP QT
          have p0 := V3.out.c0
          have p1 := V3.out.c1
          have p2 := V3.out.f0
          have p3 := V3.out.f1
          refine wpList_step fun Kz hK => ?_
          go_simp
          refine hK _ _ ?_
          clear hK Kz
          refine wpList_nil ?_
          have hga := HGA.out
          go_wp2
          go_meet
          exact ⟨gV3, rfl, below_store P.out (by omega) _ _, Xa.out.far (by omega) p0 p1 _ _, X2.out.far (by omega) p0 p1 _ _, (V3.out.put J1.out).nw, by omega⟩
        refine AllReadyH.cons rfl (fun Kz hK => ?_) ?_
        ·
          go_simp
          clear hHeld
          have V3 := Lib.hid (Nvr.new (is_zero8 w3))
          have lXa := Xa.out.lt
          have lX2 := X2.out.lt
          replace P := Lib.hid (P.out.trans ((below_alloc _ (.cells #[.bool false, .slice none 0 0] 24)).mono P.out.size))
          replace Xa := Lib.hid (Xa.out.next (below_alloc _ (.cells #[.bool false, .slice none 0 0] 24)))
          replace X2 := Lib.hid (X2.out.next (below_alloc _ (.cells #[.bool false, .slice none 0 0] 24)))
          replace J0 := Lib.hid (J0.out.below (below_alloc _ (.cells #[.bool false, .slice none 0 0] 24)))
          skip
          generalize w3.alloc (.cells #[.bool false, .slice none 0 0] 24) = y6 at P Xa X2 J0 V3 ⊢
          generalize w3.heap.size = gV3 at V3 lXa lX2 ⊢
          refine hK.out _ _ ⟨Xa.out.c0, Xa.out.c1⟩ (fun hHeld => ?_)
          clear hK Kz
          refine wpAnyH_ready (rs := [5]) (by kernel_rfl) (by simp) ?_
          refine AllReadyH.cons rfl (fun Kz hK => ?_) AllReadyH.nil
          go_simp
          refine (refShift_c J0.out (Nat.le_trans (J0.out.len (sz_one' (Nat.le_refl 1))) (by omega)) (hf : Int) (by omega)).mono ?_
          rw [shl_one_up, ← HK.out]
          rintro e w7 ⟨t21, A21, n21, c21, rfl, i21, hb⟩
          replace P := Lib.hid (P.out.trans (hb.mono P.out.size))
          replace Xa := Lib.hid (Xa.out.next hb)
          replace X2 := Lib.hid (X2.out.next hb)
          replace J0 := Lib.hid (J0.out.below hb)
          replace V3 := Lib.hid (V3.out.next hb)
          have J1 := Lib.hid (i21)
          clear hb hHeld i21
          refine hK.out _ _ ⟨Xa.out.c0, Xa.out.c1⟩ (fun hHeld => ?_)
          clear hK Kz
          clear hHeld
          refine wpAnyH_done (by kernel_rfl) ?_ _
          refine HT.out _ _ ?_
          clear HT hP QT
          have p0 := V3.out.c0
          have p1 := V3.out.c1
          have p2 := V3.out.f0
          have p3 := V3.out.f1
          refine wpList_step fun Kz hK => ?_
          go_simp
          refine hK _ _ ?_
          clear hK Kz
          refine wpList_nil ?_
          have hga := HGA.out
          go_wp2
          go_meet
          exact ⟨gV3, rfl, below_store P.out (by omega) _ _, Xa.out.far (by omega) p0 p1 _ _, X2.out.far (by omega) p0 p1 _ _, (V3.out.put J1.out).nw, by omega⟩
        exact AllReadyH.nil
      refine AllReadyH.cons rfl (fun Kz hK => ?_) ?_
      ·
        go_simp
        clear hHeld
        have V3 := Lib.hid (Nvr.new (is_zero8 w2))
        have lXa := Xa.out.lt
        have lX2 := X2.out.lt
        replace P := Lib.hid (P.out.trans ((below_alloc _ (.cells #[.bool false, .slice none 0 0] 24)).mono P.out.size))
        replace Xa := Lib.hid (Xa.out.next (below_alloc _ (.cells #[.bool false, .slice none 0 0] 24)))
        replace X2 := Lib.hid (X2.out.next (below_alloc _ (.cells #[.bool false, .slice none 0 0] 24)))
        replace J0 := Lib.hid (J0.out.below (below_alloc _ (.cells #[.bool false, .slice none 0 0] 24)))
        skip
        generalize w2.alloc (.cells #[.bool false, .slice none 0 0] 24) = y8 at P Xa X2 J0 V3 ⊢
        generalize w2.heap.size = gV3 at V3 lXa lX2 ⊢
        refine hK.out _ _ ⟨Xa.out.c0, Xa.out.c1⟩ (fun hHeld => ?_)
        clear hK Kz
        refine wpAnyH_ready (rs := [2]) (by kernel_rfl) (by simp) ?_
        refine AllReadyH.cons rfl (fun Kz hK => ?_) AllReadyH.nil
        go_simp
        refine (refBits_c t A n c _ _ Xa.out.is.2.2.1 (words_canon _) (Nat.le_trans (Xa.out.is.len SX.out) (by omega))).mono ?_
        rw [HVX.out, HBL.out]
        rintro e w9 ⟨rfl, hb⟩
        replace P := Lib.hid (P.out.trans (hb.mono P.out.size))
        replace Xa := Lib.hid (Xa.out.next hb)
        replace X2 := Lib.hid (X2.out.next hb)
        replace J0 := Lib.hid (J0.out.below hb)
        replace V3 := Lib.hid (V3.out.next hb)
        clear hb hHeld
        refine hK.out _ _ ⟨Xa.out.c0, Xa.out.c1⟩ (fun hHeld => ?_)
        clear hK Kz
        refine take_on (i := 3) (d := (some 13)) (v := ?v4) rfl rfl (by kernel_rfl) (by kernel_rfl) (by kernel_rfl) (fun c a w h => hP c a _ _ w h) (by rfl) ?h4 (by assumption) ?r4
        case h4 => intro w hSw; obtain ⟨h0, h1⟩ := hSw; go_simp; rfl
        simp only [Act.put, List.setIfInBounds_toArray, List.set_cons_zero, List.set_cons_succ]
        refine take_on (i := 4) (d := (some 14)) (v := ?v5) rfl rfl (by kernel_rfl) (by kernel_rfl) (by kernel_rfl) (fun c a w h => hP c a _ _ w h) (by rfl) ?h5 (by assumption) ?r5
        case h5 => intro w hSw; obtain ⟨h0, h1⟩ := hSw; go_simp; rfl
        simp only [Act.put, List.setIfInBounds_toArray, List.set_cons_zero, List.set_cons_succ]
        refine wpAnyH_ready (rs := [5]) (by kernel_rfl) (by simp) ?_
        refine AllReadyH.cons rfl (fun Kz hK => ?_) AllReadyH.nil
        go_simp
        refine (refShift_c J0.out (Nat.le_trans (J0.out.len (sz_one' (Nat.le_refl 1))) (by omega)) (hf : Int) (by omega)).mono ?_
        rw [shl_one_up, ← HK.out]
        rintro e w10 ⟨t21, A21, n21, c21, rfl, i21, hb⟩
        replace P := Lib.hid (P.out.trans (hb.mono P.out.size))
        replace Xa := Lib.hid (Xa.out.next hb)
        replace X2 := Lib.hid (X2.out.next hb)
        replace J0 := Lib.hid (J0.out.below hb)
        replace V3 := Lib.hid (V3.out.next hb)
        have J1 := Lib.hid (i21)
        clear hb hHeld i21
        refine hK.out _ _ ⟨Xa.out.c0, Xa.out.c1⟩ (fun hHeld => ?_)
        clear hK Kz
        clear hHeld
        refine wpAnyH_done (by kernel_rfl) ?_ _
        refine HT.out _ _ ?_
        clear HT hP QT
        have p0 := V3.out.c0
        have p1 := V3.out.c1
        have p2 := V3.out.f0
        have p3 := V3.out.f1
        refine wpList_step fun Kz hK => ?_
        go_simp
        refine hK _ _ ?_
        clear hK Kz
        refine wpList_nil ?_
        have hga := HGA.out
        go_wp2
        go_meet
        exact ⟨gV3, rfl, below_store P.out (by omega) _ _, Xa.out.far (by omega) p0 p1 _ _, X2.out.far (by omega) p0 p1 _ _, (V3.out.put J1.out).nw, by omega⟩
      exact AllReadyH.nil
    refine AllReadyH.cons rfl (fun Kz hK => ?_) ?_
    ·
      go_simp
      clear hHeld
      have V3 := Lib.hid (Nvr.new (is_zero8 D1))
      have lXa := Xa.out.lt
      have lX2 := X2.out.lt
      replace P := Lib.hid (P.out.trans ((below_alloc _ (.cells #[.bool false, .slice none 0 0] 24)).mono P.out.size))
      replace Xa := Lib.hid (Xa.out.next (below_alloc _ (.cells #[.bool false, .slice none 0 0] 24)))
      replace X2 := Lib.hid (X2.out.next (below_alloc _ (.cells #[.bool false, .slice none 0 0] 24)))
      skip
      generalize D1.alloc (.cells #[.bool false, .slice none 0 0] 24) = y11 at P Xa X2 V3 ⊢
      generalize D1.heap.size = gV3 at V3 lXa lX2 ⊢
      refine hK.out _ _ ⟨Xa.out.c0, Xa.out.c1⟩ (fun hHeld => ?_)
      clear hK Kz
      refine wpAnyH_ready (rs := [0]) (by kernel_rfl) (by simp) ?_
      refine AllReadyH.cons rfl (fun Kz hK => ?_) AllReadyH.nil
      go_simp
      refine (refOfV 1 _ (by omega) (by omega)).mono ?_
      rintro e w12 ⟨t20, A20, n20, c20, rfl, i20, hb⟩
      replace P := Lib.hid (P.out.trans (hb.mono P.out.size))
      replace Xa := Lib.hid (Xa.out.next hb)
      replace X2 := Lib.hid (X2.out.next hb)
      replace V3 := Lib.hid (V3.out.next hb)
      have J0 := Lib.hid (i20.is)
      clear hb hHeld i20
      refine hK.out _ _ ⟨Xa.out.c0, Xa.out.c1⟩ (fun hHeld => ?_)
      clear hK Kz
      refine wpAnyH_ready (rs := [2]) (by kernel_rfl) (by simp) ?_
      refine AllReadyH.cons rfl (fun Kz hK => ?_) AllReadyH.nil
      go_simp
      refine (refBits_c t A n c _ _ Xa.out.is.2.2.1 (words_canon _) (Nat.le_trans (Xa.out.is.len SX.out) (by omega))).mono ?_
      rw [HVX.out, HBL.out]
      rintro e w13 ⟨rfl, hb⟩
      replace P := Lib.hid (P.out.trans (hb.mono P.out.size))
      replace Xa := Lib.hid (Xa.out.next hb)
      replace X2 := Lib.hid (X2.out.next hb)
      replace V3 := Lib.hid (V3.out.next hb)
      replace J0 := Lib.hid (J0.out.below hb)
      clear hb hHeld
      refine hK.out _ _ ⟨Xa.out.c0, Xa.out.c1⟩ (fun hHeld => ?_)
      clear hK Kz
      refine take_on (i := 3) (d := (some 13)) (v := ?v6) rfl rfl (by kernel_rfl) (by kernel_rfl) (by kernel_rfl) (fun c a w h => hP c a _ _ w h) (by rfl) ?h6 (by assumption) ?r6
      case h6 => intro w hSw; obtain ⟨h0, h1⟩ := hSw; go_simp; rfl
      simp only [Act.put, List.setIfInBounds_toArray, List.set_cons_zero, List.set_cons_succ]
      refine take_on (i := 4) (d := (some 14)) (v := ?v7) rfl rfl (by kernel_rfl) (by kernel_rfl) (by kernel_rfl) (fun c a w h => hP c a _ _ w h) (by rfl) ?h7 (by assumption) ?r7
      case h7 => intro w hSw; obtain ⟨h0, h1⟩ := hSw; go_simp; rfl
      simp only [Act.put, List.setIfInBounds_toArray, List.set_cons_zero, List.set_cons_succ]
      refine wpAnyH_ready (rs := [5]) (by kernel_rfl) (by simp) ?_
      refine AllReadyH.cons rfl (fun Kz hK => ?_) AllReadyH.nil
      go_simp
      refine (refShift_c J0.out (Nat.le_trans (J0.out.len (sz_one' (Nat.le_refl 1))) (by omega)) (hf : Int) (by omega)).mono ?_
      rw [shl_one_up, ← HK.out]
      rintro e w14 ⟨t21, A21, n21, c21, rfl, i21, hb⟩
      replace P := Lib.hid (P.out.trans (hb.mono P.out.size))
      replace Xa := Lib.hid (Xa.out.next hb)
      replace X2 := Lib.hid (X2.out.next hb)
      replace V3 := Lib.hid (V3.out.next hb)
      replace J0 := Lib.hid (J0.out.below hb)
      have J1 := Lib.hid (i21)
      clear hb hHeld i21
      refine hK.out _ _ ⟨Xa.out.c0, Xa.out.c1⟩ (fun hHeld => ?_)
      clear hK Kz
      clear hHeld
      refine wpAnyH_done (by kernel_rfl) ?_ _
      refine HT.out _ _ ?_
      clear HT hP QT
      have p0 := V3.out.c0
      have p1 := V3.out.c1
      have p2 := V3.out.f0
      have p3 := V3.out.f1
      refine wpList_step fun Kz hK => ?_
      go_simp
      refine hK _ _ ?_
      clear hK Kz
      refine wpList_nil ?_
      have hga := HGA.out
      go_wp2
      go_meet
      exact ⟨gV3, rfl, below_store P.out (by omega) _ _, Xa.out.far (by omega) p0 p1 _ _, X2.out.far (by omega) p0 p1 _ _, (V3.out.put J1.out).nw, by omega⟩
    exact AllReadyH.nil
  case rest =>
    obtain ⟨g3, rfl, hp, h1, h2, h3, l1⟩ := hcut
    clear P Xa X2 e1 e2 e3 w64
    have E := Lib.hid (And.intro hp (And.intro h1 (And.intro h2 h3)))
    have L1 := Lib.hid l1
    clear hp h1 h2 h3 l1
    go_wp2
    go_loopg [] K (fun gk wr => ∃ S : Nat, 0 < S ∧ S ≤ K ∧ S ≤ gk ∧ X < (S + 1) * (S + 1) ∧ Below w.heap.size w wr ∧ Nvr wr ga (X : Int) t A n c ∧ Nvr wr (ga + 1) 0 false none 0 0 ∧ Nwx wr g3 (S : Int))
    case atStart => exact ⟨K, KP.out, Nat.le_refl _, Nat.le_refl _, HS.out, E.out.1, E.out.2.1, E.out.2.2.1, E.out.2.2.2⟩
    case round =>
      clear E
      obtain ⟨S, hS0, hSK, hgk, hSX, hp, h1, h2, ⟨t3, A3, n3, c3, h3⟩⟩ := hrel
      have P := Lib.hid hp
      have Xa := Lib.hid h1
      have X2 := Lib.hid h2
      have X3 := Lib.hid h3
      have HGK := Lib.hid (And.intro hS0 (And.intro hSK (And.intro hgk hSX)))
      have NW := Lib.hid (newton hS0 (show 0 < X by have := HX0.out; omega))
      have NS := Lib.hid (@newton_stop X S)
      have lS : (words S).length ≤ 6000 := Nat.le_trans (words_mono hSK) HKL.out
      have SS := Lib.hid (show Sz (S : Int) 6000 by show ((S : Int)).natAbs < pw 6000; rw [Int.natAbs_natCast]; exact words_len_le.1 lS)
      have lQ : (words (X / S)).length ≤ 6000 := Nat.le_trans (words_mono (Nat.div_le_self X S)) (Nat.le_trans HXL.out (by omega))
      have SQ := Lib.hid (show Sz ((X / S : Nat) : Int) 6000 by show (((X / S : Nat) : Int)).natAbs < pw 6000; rw [Int.natAbs_natCast]; exact words_len_le.1 lQ)
      have HQ := Lib.hid (show (X : Int) / (S : Int) = ((X / S : Nat) : Int) by simp)
      have HSUM := Lib.hid (show (S : Int) + ((X / S : Nat) : Int) = ((S + X / S : Nat) : Int) by simp)
      obtain ⟨N, hN⟩ : ∃ N, N = (S + X / S) / 2 := ⟨_, rfl⟩
      have HN := Lib.hid hN.symm
      rw [← hN] at NW NS
      clear hS0 hSK hgk hSX hp h1 h2 h3 lS lQ hN
      have a0 := Xa.out.c0
      have a1 := Xa.out.c1
      have b0 := X3.out.c0
      have b1 := X3.out.c1
      go_wp2_with fail
      refine (refDiv_c Xa.out.is X3.out.is (by have := HGK.out.1; omega) (Nat.le_trans (Xa.out.is.len SX.out) (by omega)) (Nat.le_trans (X3.out.is.len SS.out) (by omega))).mono ?_
      rintro e w4 ⟨t5, A5, n5, c5, t6, A6, n6, c6, rfl, hb, i5, i6⟩
      rw [HQ.out] at i5
      have h56 := (below_alloc w4 (.cells #[.bool t5, .slice A5 n5 c5] 24))
      have h57 := (below_alloc (w4.alloc (.cells #[.bool t5, .slice A5 n5 c5] 24)) (.cells #[.bool t6, .slice A6 n6 c6] 24))
      have hB := hb.trans ((h56.trans (h57.mono h56.size)).mono hb.size)
      replace P := Lib.hid (P.out.trans (hB.mono P.out.size))
      replace Xa := Lib.hid (Xa.out.next hB)
      replace X2 := Lib.hid (X2.out.next hB)
      replace X3 := Lib.hid (X3.out.next hB)
      have X4 := Lib.hid ((Nvr.new i5).next h57)
      clear hb i5 i6 h56 h57 hB a0 a1 b0 b1
      go_upto_region 5 with (fail)
      generalize (w4.alloc (.cells #[.bool t5, .slice A5 n5 c5] 24)).alloc (.cells #[.bool t6, .slice A6 n6 c6] 24) = W4 at P Xa X2 X3 X4 ⊢
      generalize w4.heap.size = g4 at X4 ⊢
      have b0 := X3.out.c0
      have b1 := X3.out.c1
      have d0 := X4.out.c0
      have d1 := X4.out.c1
      go_wp2_with fail
      refine (refAdd_c X3.out.is X4.out.is (Nat.le_trans (X3.out.is.len SS.out) (by omega)) (Nat.le_trans (X4.out.is.len SQ.out) (by omega))).mono ?_
      rw [HSUM.out]
      rintro e w5 ⟨t7, A7, n7, c7, rfl, i7, hb⟩
      replace P := Lib.hid (P.out.trans (hb.mono P.out.size))
      replace Xa := Lib.hid (Xa.out.next hb)
      replace X2 := Lib.hid (X2.out.next hb)
      replace X3 := Lib.hid (X3.out.next hb)
      have I7 := Lib.hid i7
      have S7 := Lib.hid (show Sz ((S + X / S : Nat) : Int) 6001 by rw [← HSUM.out]; exact SS.out.add SQ.out)
      clear hb i7 X4 b0 b1 d0 d1
      go_wp2_with fail
      refine (refShift_c I7.out (Nat.le_trans (I7.out.len S7.out) (by omega)) (-1) (by omega)).mono ?_
      rw [shl_half, HN.out]
      rintro e w6 ⟨t8, A8, n8, c8, rfl, i8, hb⟩
      have ha := below_alloc w6 (.cells #[.bool t8, .slice A8 n8 c8] 24)
      have hB := hb.trans (ha.mono hb.size)
      have L6 := Lib.hid (show g3 < w6.heap.size from Nat.lt_of_lt_of_le X3.out.lt hb.size)
      replace P := Lib.hid (P.out.trans (hB.mono P.out.size))
      replace Xa := Lib.hid (Xa.out.next hB)
      replace X2 := Lib.hid (X2.out.next hB)
      replace X3 := Lib.hid (X3.out.next hB)
      have X6 := Lib.hid (Nvr.new i8)
      have SN := Lib.hid (show Sz (N : Int) 6001 by
        have h1 : (((S + X / S : Nat) : Int)).natAbs < pw 6001 := S7.out
        show ((N : Int)).natAbs < pw 6001
        rw [Int.natAbs_natCast] at h1 ⊢
        have := HN.out
        omega)
      clear hb ha hB i8 I7
      go_upto_region 6 with (fail)
      generalize w6.alloc (.cells #[.bool t8, .slice A8 n8 c8] 24) = W6 at P Xa X2 X3 X6 ⊢
      generalize w6.heap.size = g6 at X6 L6 ⊢
      have b0 := X3.out.c0
      have b1 := X3.out.c1
      have d0 := X6.out.c0
      have d1 := X6.out.c1
      obtain ⟨od, hod⟩ : ∃ r, r = ord (N : Int) (S : Int) := ⟨_, rfl⟩
      have HOD := Lib.hid hod.symm
      go_wp2_with fail
      refine (refCmp_c X6.out.is X3.out.is (Nat.le_trans (X6.out.is.len SN.out) (by omega)) (Nat.le_trans (X3.out.is.len SS.out) (by omega))).mono ?_
      rw [HOD.out]
      rintro e w7 ⟨rfl, hb⟩
      replace P := Lib.hid (P.out.trans (hb.mono P.out.size))
      replace Xa := Lib.hid (Xa.out.next hb)
      replace X2 := Lib.hid (X2.out.next hb)
      replace X3 := Lib.hid (X3.out.next hb)
      replace X6 := Lib.hid (X6.out.next hb)
      clear hb b0 b1 d0 d1
      have b0 := X3.out.c0
      have b1 := X3.out.c1
      by_cases hNS : N < S
      · obtain rfl : od = -1 := by rw [hod]; exact ord_lt (by omega)
        have HNS := Lib.hid hNS
        clear hNS hod HOD
        have b2 := X3.out.f0
        have b3 := X3.out.f1
        have d0 := X6.out.c0
        have d1 := X6.out.c1
        have l6 := L6.out
        have f1 : ¬ g3 = g6 := by omega
        have f2 : ¬ g6 = g3 := by omega
        go_wp2
        go_roundg N
        case measure => have := HNS.out; have := HGK.out.2.2.1; omega
        case rel =>
          have l1 := L1.out
          have hg := HGA.out
          exact ⟨N, NW.out.2, by have := HNS.out; have := HGK.out.2.1; omega, Nat.le_refl _, NW.out.1, below_store P.out (by omega) _ _, Xa.out.far (by omega) b0 b1 _ _, X2.out.far (by omega) b0 b1 _ _, (X3.out.put X6.out.is).nw⟩
      · have ho : 0 ≤ od := by
          rw [hod]
          rcases Nat.lt_or_ge S N with h1 | h1
          · rw [ord_gt (by omega)]; omega
          · rw [ord_eq (by omega)]; exact Int.le_refl _
        have t1 : decide (0 ≤ od) = true := decide_eq_true ho
        have HR := Lib.hid (show IsRoot X S from ⟨NS.out (by omega), HGK.out.2.2.2⟩)
        clear hod HOD hNS
        have r0 := X2.out.c0
        have r1 := X2.out.c1
        have r2 := X2.out.f0
        have r3 := X2.out.f1
        go_wp2
        have Q := X2.out.put X3.out.is
        have PB := below_store P.out (show w.heap.size ≤ ga + 1 by have := HGA.out; omega) (.bool t3) (.slice A3 n3 c3)
        have y0 := Q.c0
        have y1 := Q.c1
        refine bodyPost_ret (v := .agg #[.bool t3, .slice A3 n3 c3]) (by simp [results, Try.results84, go_sem, y0, y1]) rfl ?_
        exact ⟨S, HR.out, _, _, _, _, rfl, Q.is, PB⟩
theorem refRoot_c {w : World} {X : Nat} {t : Bool} {A : Option Addr} {n c : Nat} (h : Is w (X : Int) t A n c) (hxl : (words X).length ≤ 4096) :
    Calls Try.prog 84 #[.agg #[.bool t, .slice A n c]] w (RefRoot X w) := by
  by_cases h0 : X = 0
  · subst h0
    exact refRoot_zero h
  · exact refRoot_pos h h0 hxl
end Go.Proofs.Ytbblckaplddggaa

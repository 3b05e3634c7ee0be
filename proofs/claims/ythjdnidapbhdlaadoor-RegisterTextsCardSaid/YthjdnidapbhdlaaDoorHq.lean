/- the reference's Halts -/
import Derived.Test.YthjdnidapbhdlaaDoorHp
set_option maxRecDepth 100000
namespace Go.Proofs.YthjdnidapbhdlaaDoor
open Go.RowKit
theorem RdI.oth {w : World} {A : Option Addr} {n : Nat} {zs : List Int} (h : RdI w A n zs) {p : Addr} (hA : ∀ x, A = some x → 0 < n → x.block ≠ p.block) (u : Value) : RdI (w.setCell p u) A n zs := by
  refine ⟨h.len, fun h0 => ?_⟩
  obtain ⟨b, o, e, hlt, hc⟩ := h.at_ h0
  have hb := hA _ e h0
  refine ⟨b, o, e, by rw [World.size_setCell]; exact hlt, fun k hk => ?_⟩
  refine (World.cell?_setCell_other w p ⟨b, o + k, none⟩ u ?_).trans (hc k hk)
  first | (intro e2; exact hb (by rw [← e2])) | (intro e2; exact hb (by rw [e2]))
def HaltsR (cs : List Ins) (r : RunE) (w : World) (e : Ending) (w' : World) : Prop :=
  ((insAt cs r.at_.toNat).op = 3 → HaltsP (r.k : Int) r.zs (.bool true) w e w') ∧ ((insAt cs r.at_.toNat).op ≠ 3 → HaltsP 0 [] (.bool false) w e w')
set_option maxHeartbeats 8000000 in
theorem refHalts_c (R : Int) (A : Option Addr) (n c : Nat) (cs : List Ins) (B : Option Addr) (m d : Nat) (zs : List Int) (N : Nat) (w : World) (h : RdC w A n cs) (h' : RdI w B m zs) (hv : validM R cs = true) (hi : inputM R zs = true) (hN : N ≤ 1000000) :
    Calls Tryd.prog 65 #[.agg #[.int .i64 R, .slice A n c], .slice B m d, .int .i64 (N : Int)] w (HaltsR cs (runM cs N 0 zs) w) := by
  have E := Lib.hid (HM.start R A n c cs B m zs w h h')
  have HL := Lib.hid (And.intro h.len h'.len)
  obtain ⟨hf, hal⟩ := start_fits hv hi
  have HF := Lib.hid hf
  have HMM := Lib.hid (show 0 < m ∧ m ≤ 17592186044416 by have h1 := hf.bounds; have h2 := h'.len; omega)
  have hbig := run_small N hf hal (by omega)
  have hrf := run_fits N hf hbig
  obtain ⟨r, hr⟩ : ∃ r, r = runM cs N 0 zs := ⟨_, rfl⟩
  rw [← hr] at hbig hrf
  obtain ⟨a, ha⟩ := Int.eq_ofNat_of_zero_le hrf.at0
  have HA := Lib.hid ha
  have HAN := Lib.hid (show a < n by have h1 := hrf.at1; have h2 := h.len; omega)
  have HR := Lib.hid hr
  have HBG := Lib.hid hbig
  have HRF := Lib.hid hrf
  clear h h' hv hi hf hal hbig hrf hr ha
  go_enter Tryd.func65, Tryd.ntmps65
  go_upto_region 1 with (fail)
  generalize w.alloc (.cells #[.int .i64 R, .slice A n c] 43) = W0 at E ⊢
  generalize w.heap.size = g at E ⊢
  have HD := Lib.hid (Below.refl W0.heap.size W0)
  have E0 := E
  go_cut [9, 10, 11] (fun v9 v10 v11 W => ∃ gs A2 c2, v9 = .pointer (some ⟨gs, 0, none⟩) ∧ v10 = .int .i64 (r.k : Int) ∧ v11 = .int .i64 0 ∧ BxS W gs (a : Int) A2 r.zs.length c2 ∧ RdI W A2 r.zs.length r.zs ∧ r.zs.length ≤ c2 ∧ c2 ≤ 9223372036854775807 ∧ Below W0.heap.size W0 W)
  case first =>
    refine wp_region_tail (S := (fun w' => w'.cell? ⟨g, 0, none⟩ = some (.int .i64 R) ∧ w'.cell? ⟨g, 1, none⟩ = some (.slice A n c))) 12 (by kernel_rfl) (by kernel_rfl) (by intro c a d v w h; cases d <;> exact h) (⟨cell_dr E.out.bm.c0, cell_dr E.out.bm.c1⟩) (fun QT hT hP hHeld => ?_)
    simp only [List.extract_toArray, List.extract_eq_take_drop, List.drop_zero, Nat.sub_zero, List.take_succ_cons, List.take_zero]
    have HT := Lib.hid hT
    clear hT
    replace E := Lib.hid (E.out.next (Below.refl W0.heap.size W0).drew)
    replace HD := Lib.hid (HD.out.trans ((Below.refl W0.heap.size W0).drew.mono HD.out.size))
    generalize W0.drew = D1 at E HD hHeld ⊢
    refine take_on (i := 0) (d := (some 13)) (v := ?v1) rfl rfl (by kernel_rfl) (by kernel_rfl) (by kernel_rfl) (fun c a w h => hP c a _ _ w h) (by rfl) ?h1 (by assumption) ?r1
    case h1 => intro w hSw; obtain ⟨h0, h1⟩ := hSw; go_simp; rfl
    simp only [Act.put, List.setIfInBounds_toArray, List.set_cons_zero, List.set_cons_succ]
    refine take_on (i := 1) (d := (some 14)) (v := ?v2) rfl rfl (by kernel_rfl) (by kernel_rfl) (by kernel_rfl) (fun c a w h => hP c a _ _ w h) (by rfl) ?h2 (by assumption) ?r2
    case h2 => intro w hSw; obtain ⟨h0, h1⟩ := hSw; go_simp; rfl
    simp only [Act.put, List.setIfInBounds_toArray, List.set_cons_zero, List.set_cons_succ]
    refine take_on (i := 3) (d := (some 16)) (v := ?v3) rfl rfl (by kernel_rfl) (by kernel_rfl) (by kernel_rfl) (fun c a w h => hP c a _ _ w h) (by rfl) ?h3 (by assumption) ?r3
    case h3 => intro w hSw; obtain ⟨h0, h1⟩ := hSw; go_simp; rfl
    simp only [Act.put, List.setIfInBounds_toArray, List.set_cons_zero, List.set_cons_succ]
    refine wpAnyH_ready (rs := [2, 9]) (by kernel_rfl) (by simp) ?_
    refine AllReadyH.cons rfl (fun K hK => ?_) ?_
    ·
      go_simp
      refine (refStart_c B m d zs D1 E.out.ri HMM.out.1 HMM.out.2).mono ?_
      rintro e v2 ⟨gr, cr, rfl, h1, h2, h3, h4, hb⟩
      have O1 := Lib.hid h1.rd
      replace E := Lib.hid (E.out.next hb)
      replace HD := Lib.hid (HD.out.trans (hb.mono HD.out.size))
      clear hb hHeld h1 h2 h3 h4
      refine hK.out _ _ (⟨E.out.bm.c0, E.out.bm.c1⟩) (fun hHeld => ?_)
      clear hK K
      refine wpAnyH_ready (rs := [4, 9]) (by kernel_rfl) (by simp) ?_
      refine AllReadyH.cons rfl (fun K hK => ?_) ?_
      ·
        go_simp
        refine (refRun_c R A n c cs 0 (some ⟨gr, 0, none⟩) zs.length cr zs N v2 E.out.rc O1.out HF.out hN).mono ?_
        rw [← HR.out]
        intro e v3 hq
        unfold RunR at hq
        rw [HBG.out] at hq
        simp only [Bool.false_eq_true, if_false] at hq
        obtain ⟨A2, c2, rfl, h1, h2, h3, hb, hfr⟩ := hq
        have O2 := Lib.hid h1
        have H23 := Lib.hid (And.intro h2 h3)
        rw [HA.out]
        skip
        clear O1
        replace E := Lib.hid (E.out.next hb)
        replace HD := Lib.hid (HD.out.trans (hb.mono HD.out.size))
        clear hb hHeld h1 h2 h3 hfr
        refine hK.out _ _ (⟨E.out.bm.c0, E.out.bm.c1⟩) (fun hHeld => ?_)
        clear hK K
        refine take_on (i := 5) (d := (some 12)) (v := ?v4) rfl rfl (by kernel_rfl) (by kernel_rfl) (by kernel_rfl) (fun c a w h => hP c a _ _ w h) (by rfl) ?h4 (by assumption) ?r4
        case h4 => intro w hSw; obtain ⟨h0, h1⟩ := hSw; go_simp; rfl
        simp only [Act.put, List.setIfInBounds_toArray, List.set_cons_zero, List.set_cons_succ]
        refine take_on (i := 6) (d := (some 18)) (v := ?v5) rfl rfl (by kernel_rfl) (by kernel_rfl) (by kernel_rfl) (fun c a w h => hP c a _ _ w h) (by rfl) ?h5 (by assumption) ?r5
        case h5 => intro w hSw; obtain ⟨h0, h1⟩ := hSw; go_simp; rfl
        simp only [Act.put, List.setIfInBounds_toArray, List.set_cons_zero, List.set_cons_succ]
        refine take_on (i := 7) (d := (some 19)) (v := ?v6) rfl rfl (by kernel_rfl) (by kernel_rfl) (by kernel_rfl) (fun c a w h => hP c a _ _ w h) (by rfl) ?h6 (by assumption) ?r6
        case h6 => intro w hSw; obtain ⟨h0, h1⟩ := hSw; go_simp; rfl
        simp only [Act.put, List.setIfInBounds_toArray, List.set_cons_zero, List.set_cons_succ]
        refine take_on (i := 8) (d := (some 20)) (v := ?v7) rfl rfl (by kernel_rfl) (by kernel_rfl) (by kernel_rfl) (fun c a w h => hP c a _ _ w h) (by rfl) ?h7 (by assumption) ?r7
        case h7 => intro w hSw; obtain ⟨h0, h1⟩ := hSw; go_simp; rfl
        simp only [Act.put, List.setIfInBounds_toArray, List.set_cons_zero, List.set_cons_succ]
        refine wpAnyH_ready (rs := [9]) (by kernel_rfl) (by simp) ?_
        refine AllReadyH.cons rfl (fun K hK => ?_) AllReadyH.nil
        go_simp
        have hb := bel_alloc v3 (.cells #[.int .i64 0, .slice none 0 0] 46)
        have X6 := Lib.hid (BxS.new v3 0 none 0 0)
        have hz : W0.heap.size ≤ v3.heap.size := HD.out.size
        have HO2 := O2
        replace E := Lib.hid (E.out.next hb)
        replace HD := Lib.hid (HD.out.trans (hb.mono HD.out.size))
        replace O2 := Lib.hid (O2.out.below hb)
        clear hb hHeld
        generalize v3.alloc (.cells #[.int .i64 0, .slice none 0 0] 46) = Y4 at E HD O2 X6 ⊢
        obtain ⟨gs, hgs⟩ : ∃ g, g = v3.heap.size := ⟨_, rfl⟩
        rw [← hgs] at X6 hz ⊢
        have HNE := Lib.hid (show ∀ y, A2 = some y → 0 < r.zs.length → y.block ≠ gs from fun y hy h0 => by obtain ⟨b, o, e, hlt, _⟩ := HO2.out.at_ h0; rw [hy] at e; injection e with e; subst e; show b ≠ gs; omega)
        clear HO2
        have HGS := Lib.hid hz
        clear hgs hz
        refine hK.out _ _ (⟨E.out.bm.c0, E.out.bm.c1⟩) (fun hHeld => ?_)
        clear hK K
        refine wpAnyH_ready (rs := [10]) (by kernel_rfl) (by simp) ?_
        refine AllReadyH.cons rfl (fun K hK => ?_) AllReadyH.nil
        have r0 := X6.out.c0
        have r1 := X6.out.c1
        have f0 := X6.out.f0
        have f1 := X6.out.f1
        go_simp
        clear r0 r1 f0 f1 hHeld
        have X7 := Lib.hid (X6.out.put (a : Int) A2 r.zs.length c2)
        have O7 := Lib.hid ((O2.out.oth (p := ⟨gs, 0, none⟩) (fun x hx h0 => by first | exact HNE.out x hx h0 | exact HNE.out x hx) (.int .i64 (a : Int))).oth (p := ⟨gs, 1, none⟩) (fun x hx h0 => by first | exact HNE.out x hx h0 | exact HNE.out x hx) (.slice A2 r.zs.length c2))
        have B7 := Lib.hid (bel_set (bel_set HD.out (p := ⟨gs, 0, none⟩) HGS.out (.int .i64 (a : Int))) (p := ⟨gs, 1, none⟩) HGS.out (.slice A2 r.zs.length c2))
        generalize ((Y4.setCell ⟨gs, 0, none⟩ (.int .i64 (a : Int))).setCell ⟨gs, 1, none⟩ (.slice A2 r.zs.length c2)) = W7 at X7 O7 B7 ⊢
        clear HD X6 O2 E
        have HD := B7
        have X6 := X7
        have O2 := O7
        have E := Lib.hid (E0.out.next B7.out)
        clear B7 X7 O7
        refine hK.out _ _ (⟨E.out.bm.c0, E.out.bm.c1⟩) (fun hHeld => ?_)
        clear hK K
        refine take_on (i := 11) (d := (some 10)) (v := ?v8) rfl rfl (by kernel_rfl) (by kernel_rfl) (by kernel_rfl) (fun c a w h => hP c a _ _ w h) (by rfl) ?h8 (by assumption) ?r8
        case h8 => intro w hSw; obtain ⟨h0, h1⟩ := hSw; go_simp; rfl
        simp only [Act.put, List.setIfInBounds_toArray, List.set_cons_zero, List.set_cons_succ]
        clear hHeld
        refine wpAnyH_done (by kernel_rfl) ?_ _
        refine HT.out _ _ ?_
        clear HT hP QT
        refine wpList_step fun K hK => ?_
        go_simp
        refine hK _ _ ?_
        clear hK K
        refine wpList_nil ?_
        go_wp2
        go_meet
        exact ⟨gs, A2, c2, rfl, rfl, rfl, X6.out, O2.out, H23.out.1, H23.out.2, HD.out⟩
      refine AllReadyH.cons rfl (fun K hK => ?_) ?_
      ·
        go_simp
        have hb := bel_alloc v2 (.cells #[.int .i64 0, .slice none 0 0] 46)
        have X6 := Lib.hid (BxS.new v2 0 none 0 0)
        have hz : W0.heap.size ≤ v2.heap.size := HD.out.size
        replace E := Lib.hid (E.out.next hb)
        replace HD := Lib.hid (HD.out.trans (hb.mono HD.out.size))
        replace O1 := Lib.hid (O1.out.below hb)
        clear hb hHeld
        generalize v2.alloc (.cells #[.int .i64 0, .slice none 0 0] 46) = Y6 at E HD O1 X6 ⊢
        obtain ⟨gs, hgs⟩ : ∃ g, g = v2.heap.size := ⟨_, rfl⟩
        rw [← hgs] at X6 hz ⊢
        have HGS := Lib.hid hz
        clear hgs hz
        refine hK.out _ _ (⟨E.out.bm.c0, E.out.bm.c1⟩) (fun hHeld => ?_)
        clear hK K
        refine wpAnyH_ready (rs := [4]) (by kernel_rfl) (by simp) ?_
        refine AllReadyH.cons rfl (fun K hK => ?_) AllReadyH.nil
        go_simp
        refine (refRun_c R A n c cs 0 (some ⟨gr, 0, none⟩) zs.length cr zs N Y6 E.out.rc O1.out HF.out hN).mono ?_
        rw [← HR.out]
        intro e v7 hq
        unfold RunR at hq
        rw [HBG.out] at hq
        simp only [Bool.false_eq_true, if_false] at hq
        obtain ⟨A2, c2, rfl, h1, h2, h3, hb, hfr⟩ := hq
        have O2 := Lib.hid h1
        have H23 := Lib.hid (And.intro h2 h3)
        rw [HA.out]
        have HNE := Lib.hid (show ∀ y, A2 = some y → y.block ≠ gs from fun y hy => by have h8 := hfr y hy; have h9 := X6.out.lt; omega)
        clear O1
        replace E := Lib.hid (E.out.next hb)
        replace HD := Lib.hid (HD.out.trans (hb.mono HD.out.size))
        replace X6 := Lib.hid (X6.out.next hb)
        clear hb hHeld h1 h2 h3 hfr
        refine hK.out _ _ (⟨E.out.bm.c0, E.out.bm.c1⟩) (fun hHeld => ?_)
        clear hK K
        refine take_on (i := 5) (d := (some 12)) (v := ?v9) rfl rfl (by kernel_rfl) (by kernel_rfl) (by kernel_rfl) (fun c a w h => hP c a _ _ w h) (by rfl) ?h9 (by assumption) ?r9
        case h9 => intro w hSw; obtain ⟨h0, h1⟩ := hSw; go_simp; rfl
        simp only [Act.put, List.setIfInBounds_toArray, List.set_cons_zero, List.set_cons_succ]
        refine take_on (i := 6) (d := (some 18)) (v := ?v10) rfl rfl (by kernel_rfl) (by kernel_rfl) (by kernel_rfl) (fun c a w h => hP c a _ _ w h) (by rfl) ?h10 (by assumption) ?r10
        case h10 => intro w hSw; obtain ⟨h0, h1⟩ := hSw; go_simp; rfl
        simp only [Act.put, List.setIfInBounds_toArray, List.set_cons_zero, List.set_cons_succ]
        refine take_on (i := 7) (d := (some 19)) (v := ?v11) rfl rfl (by kernel_rfl) (by kernel_rfl) (by kernel_rfl) (fun c a w h => hP c a _ _ w h) (by rfl) ?h11 (by assumption) ?r11
        case h11 => intro w hSw; obtain ⟨h0, h1⟩ := hSw; go_simp; rfl
        simp only [Act.put, List.setIfInBounds_toArray, List.set_cons_zero, List.set_cons_succ]
        refine take_on (i := 8) (d := (some 20)) (v := ?v12) rfl rfl (by kernel_rfl) (by kernel_rfl) (by kernel_rfl) (fun c a w h => hP c a _ _ w h) (by rfl) ?h12 (by assumption) ?r12
        case h12 => intro w hSw; obtain ⟨h0, h1⟩ := hSw; go_simp; rfl
        simp only [Act.put, List.setIfInBounds_toArray, List.set_cons_zero, List.set_cons_succ]
        refine wpAnyH_ready (rs := [10]) (by kernel_rfl) (by simp) ?_
        refine AllReadyH.cons rfl (fun K hK => ?_) AllReadyH.nil
        have r0 := X6.out.c0
        have r1 := X6.out.c1
        have f0 := X6.out.f0
        have f1 := X6.out.f1
        go_simp
        clear r0 r1 f0 f1 hHeld
        have X7 := Lib.hid (X6.out.put (a : Int) A2 r.zs.length c2)
        have O7 := Lib.hid ((O2.out.oth (p := ⟨gs, 0, none⟩) (fun x hx h0 => by first | exact HNE.out x hx h0 | exact HNE.out x hx) (.int .i64 (a : Int))).oth (p := ⟨gs, 1, none⟩) (fun x hx h0 => by first | exact HNE.out x hx h0 | exact HNE.out x hx) (.slice A2 r.zs.length c2))
        have B7 := Lib.hid (bel_set (bel_set HD.out (p := ⟨gs, 0, none⟩) HGS.out (.int .i64 (a : Int))) (p := ⟨gs, 1, none⟩) HGS.out (.slice A2 r.zs.length c2))
        generalize ((v7.setCell ⟨gs, 0, none⟩ (.int .i64 (a : Int))).setCell ⟨gs, 1, none⟩ (.slice A2 r.zs.length c2)) = W7 at X7 O7 B7 ⊢
        clear HD X6 O2 E
        have HD := B7
        have X6 := X7
        have O2 := O7
        have E := Lib.hid (E0.out.next B7.out)
        clear B7 X7 O7
        refine hK.out _ _ (⟨E.out.bm.c0, E.out.bm.c1⟩) (fun hHeld => ?_)
        clear hK K
        refine take_on (i := 11) (d := (some 10)) (v := ?v13) rfl rfl (by kernel_rfl) (by kernel_rfl) (by kernel_rfl) (fun c a w h => hP c a _ _ w h) (by rfl) ?h13 (by assumption) ?r13
        case h13 => intro w hSw; obtain ⟨h0, h1⟩ := hSw; go_simp; rfl
        simp only [Act.put, List.setIfInBounds_toArray, List.set_cons_zero, List.set_cons_succ]
        clear hHeld
        refine wpAnyH_done (by kernel_rfl) ?_ _
        refine HT.out _ _ ?_
        clear HT hP QT
        refine wpList_step fun K hK => ?_
        go_simp
        refine hK _ _ ?_
        clear hK K
        refine wpList_nil ?_
        go_wp2
        go_meet
        exact ⟨gs, A2, c2, rfl, rfl, rfl, X6.out, O2.out, H23.out.1, H23.out.2, HD.out⟩
      exact AllReadyH.nil
    refine AllReadyH.cons rfl (fun K hK => ?_) ?_
    ·
      go_simp
      have hb := bel_alloc D1 (.cells #[.int .i64 0, .slice none 0 0] 46)
      have X6 := Lib.hid (BxS.new D1 0 none 0 0)
      have hz : W0.heap.size ≤ D1.heap.size := HD.out.size
      replace E := Lib.hid (E.out.next hb)
      replace HD := Lib.hid (HD.out.trans (hb.mono HD.out.size))
      clear hb hHeld
      generalize D1.alloc (.cells #[.int .i64 0, .slice none 0 0] 46) = Y9 at E HD X6 ⊢
      obtain ⟨gs, hgs⟩ : ∃ g, g = D1.heap.size := ⟨_, rfl⟩
      rw [← hgs] at X6 hz ⊢
      have HGS := Lib.hid hz
      clear hgs hz
      refine hK.out _ _ (⟨E.out.bm.c0, E.out.bm.c1⟩) (fun hHeld => ?_)
      clear hK K
      refine wpAnyH_ready (rs := [2]) (by kernel_rfl) (by simp) ?_
      refine AllReadyH.cons rfl (fun K hK => ?_) AllReadyH.nil
      go_simp
      refine (refStart_c B m d zs Y9 E.out.ri HMM.out.1 HMM.out.2).mono ?_
      rintro e v10 ⟨gr, cr, rfl, h1, h2, h3, h4, hb⟩
      have O1 := Lib.hid h1.rd
      replace E := Lib.hid (E.out.next hb)
      replace HD := Lib.hid (HD.out.trans (hb.mono HD.out.size))
      replace X6 := Lib.hid (X6.out.next hb)
      clear hb hHeld h1 h2 h3 h4
      refine hK.out _ _ (⟨E.out.bm.c0, E.out.bm.c1⟩) (fun hHeld => ?_)
      clear hK K
      refine wpAnyH_ready (rs := [4]) (by kernel_rfl) (by simp) ?_
      refine AllReadyH.cons rfl (fun K hK => ?_) AllReadyH.nil
      go_simp
      refine (refRun_c R A n c cs 0 (some ⟨gr, 0, none⟩) zs.length cr zs N v10 E.out.rc O1.out HF.out hN).mono ?_
      rw [← HR.out]
      intro e v11 hq
      unfold RunR at hq
      rw [HBG.out] at hq
      simp only [Bool.false_eq_true, if_false] at hq
      obtain ⟨A2, c2, rfl, h1, h2, h3, hb, hfr⟩ := hq
      have O2 := Lib.hid h1
      have H23 := Lib.hid (And.intro h2 h3)
      rw [HA.out]
      have HNE := Lib.hid (show ∀ y, A2 = some y → y.block ≠ gs from fun y hy => by have h8 := hfr y hy; have h9 := X6.out.lt; omega)
      clear O1
      replace E := Lib.hid (E.out.next hb)
      replace HD := Lib.hid (HD.out.trans (hb.mono HD.out.size))
      replace X6 := Lib.hid (X6.out.next hb)
      clear hb hHeld h1 h2 h3 hfr
      refine hK.out _ _ (⟨E.out.bm.c0, E.out.bm.c1⟩) (fun hHeld => ?_)
      clear hK K
      refine take_on (i := 5) (d := (some 12)) (v := ?v14) rfl rfl (by kernel_rfl) (by kernel_rfl) (by kernel_rfl) (fun c a w h => hP c a _ _ w h) (by rfl) ?h14 (by assumption) ?r14
      case h14 => intro w hSw; obtain ⟨h0, h1⟩ := hSw; go_simp; rfl
      simp only [Act.put, List.setIfInBounds_toArray, List.set_cons_zero, List.set_cons_succ]
      refine take_on (i := 6) (d := (some 18)) (v := ?v15) rfl rfl (by kernel_rfl) (by kernel_rfl) (by kernel_rfl) (fun c a w h => hP c a _ _ w h) (by rfl) ?h15 (by assumption) ?r15
      case h15 => intro w hSw; obtain ⟨h0, h1⟩ := hSw; go_simp; rfl
      simp only [Act.put, List.setIfInBounds_toArray, List.set_cons_zero, List.set_cons_succ]
      refine take_on (i := 7) (d := (some 19)) (v := ?v16) rfl rfl (by kernel_rfl) (by kernel_rfl) (by kernel_rfl) (fun c a w h => hP c a _ _ w h) (by rfl) ?h16 (by assumption) ?r16
      case h16 => intro w hSw; obtain ⟨h0, h1⟩ := hSw; go_simp; rfl
      simp only [Act.put, List.setIfInBounds_toArray, List.set_cons_zero, List.set_cons_succ]
      refine take_on (i := 8) (d := (some 20)) (v := ?v17) rfl rfl (by kernel_rfl) (by kernel_rfl) (by kernel_rfl) (fun c a w h => hP c a _ _ w h) (by rfl) ?h17 (by assumption) ?r17
      case h17 => intro w hSw; obtain ⟨h0, h1⟩ := hSw; go_simp; rfl
      simp only [Act.put, List.setIfInBounds_toArray, List.set_cons_zero, List.set_cons_succ]
      refine wpAnyH_ready (rs := [10]) (by kernel_rfl) (by simp) ?_
      refine AllReadyH.cons rfl (fun K hK => ?_) AllReadyH.nil
      have r0 := X6.out.c0
      have r1 := X6.out.c1
      have f0 := X6.out.f0
      have f1 := X6.out.f1
      go_simp
      clear r0 r1 f0 f1 hHeld
      have X7 := Lib.hid (X6.out.put (a : Int) A2 r.zs.length c2)
      have O7 := Lib.hid ((O2.out.oth (p := ⟨gs, 0, none⟩) (fun x hx h0 => by first | exact HNE.out x hx h0 | exact HNE.out x hx) (.int .i64 (a : Int))).oth (p := ⟨gs, 1, none⟩) (fun x hx h0 => by first | exact HNE.out x hx h0 | exact HNE.out x hx) (.slice A2 r.zs.length c2))
      have B7 := Lib.hid (bel_set (bel_set HD.out (p := ⟨gs, 0, none⟩) HGS.out (.int .i64 (a : Int))) (p := ⟨gs, 1, none⟩) HGS.out (.slice A2 r.zs.length c2))
      generalize ((v11.setCell ⟨gs, 0, none⟩ (.int .i64 (a : Int))).setCell ⟨gs, 1, none⟩ (.slice A2 r.zs.length c2)) = W7 at X7 O7 B7 ⊢
      clear HD X6 O2 E
      have HD := B7
      have X6 := X7
      have O2 := O7
      have E := Lib.hid (E0.out.next B7.out)
      clear B7 X7 O7
      refine hK.out _ _ (⟨E.out.bm.c0, E.out.bm.c1⟩) (fun hHeld => ?_)
      clear hK K
      refine take_on (i := 11) (d := (some 10)) (v := ?v18) rfl rfl (by kernel_rfl) (by kernel_rfl) (by kernel_rfl) (fun c a w h => hP c a _ _ w h) (by rfl) ?h18 (by assumption) ?r18
      case h18 => intro w hSw; obtain ⟨h0, h1⟩ := hSw; go_simp; rfl
      simp only [Act.put, List.setIfInBounds_toArray, List.set_cons_zero, List.set_cons_succ]
      clear hHeld
      refine wpAnyH_done (by kernel_rfl) ?_ _
      refine HT.out _ _ ?_
      clear HT hP QT
      refine wpList_step fun K hK => ?_
      go_simp
      refine hK _ _ ?_
      clear hK K
      refine wpList_nil ?_
      go_wp2
      go_meet
      exact ⟨gs, A2, c2, rfl, rfl, rfl, X6.out, O2.out, H23.out.1, H23.out.2, HD.out⟩
    exact AllReadyH.nil
  case rest =>
    obtain ⟨gs, A2, c2, rfl, rfl, rfl, hx, hri, h3, h4, hb⟩ := hcut
    have X6 := Lib.hid hx
    have O2 := Lib.hid hri
    have H34 := Lib.hid (And.intro h3 h4)
    clear hx hri h3 h4 HD E
    have E := Lib.hid (E0.out.next hb)
    clear hb E0
    obtain ⟨b, p, rfl, hblt, hc⟩ := E.out.rc.at_ (by have := HAN.out; omega)
    have han := HAN.out
    obtain ⟨x0, _, _, _⟩ := hc a han
    obtain ⟨op, hop⟩ : ∃ q, q = (insAt cs a).op := ⟨_, rfl⟩
    rw [← hop] at x0
    have HOP := Lib.hid hop
    clear hc hop
    have m0 := E.out.bm.c0
    have m1 := E.out.bm.c1
    have s0 := X6.out.c0
    have s1 := X6.out.c1
    by_cases h3 : op = 3
    · have t1 : (op != 3) = false := by simp [h3]
      have HQ := Lib.hid (show (insAt cs r.at_.toNat).op = 3 by rw [HA.out]; exact (HOP.out.symm.trans h3))
      clear h3
      go_wp2
      go_quiet (fail)
      go_wp2
      go_ret3
      refine (show HaltsR cs (runM cs N 0 zs) w _ _ from ?_)
      rw [← HR.out]
      exact ⟨fun _ => ⟨A2, c2, rfl, rd_drewN O2.out _, H34.out.1, H34.out.2, bel_drew E.out.below _⟩, fun h => absurd HQ.out h⟩
    · have t1 : (op != 3) = true := by rw [bne_iff_ne]; exact h3
      have HQ := Lib.hid (show (insAt cs r.at_.toNat).op ≠ 3 by rw [HA.out]; intro e; exact h3 (HOP.out.trans e))
      clear h3
      go_wp2
      go_ret3
      refine (show HaltsR cs (runM cs N 0 zs) w _ _ from ?_)
      rw [← HR.out]
      exact ⟨fun h => absurd h HQ.out, fun _ => ⟨none, 0, rfl, RdI.nil _ _, Nat.le_refl _, by omega, E.out.below⟩⟩
end Go.Proofs.YthjdnidapbhdlaaDoor

/- the law RegisterRuns -/
import Derived.Test.YthjdnidapbhdlaaDoorIf
import Derived.Test.YthjdnidapbhdlaaDoorHs
set_option maxRecDepth 100000
namespace Go.Proofs.YthjdnidapbhdlaaDoor
open Go.RowKit
/-- what the laws of register machines keep -/
structure LR (w W : World) (g : Nat) (R : Int) (A : Option Addr) (n c : Nat) (cs : List Ins) (at_ : Int) (B : Option Addr) (m d : Nat) (zs : List Int) (C : Option Addr) (k : Nat) (ys : List Int) : Prop where
  ms : MS w W g R A n c cs at_ B m d zs
  ry : RdI W C k ys
  ml : Ml W
theorem LR.next {w W W' : World} {g : Nat} {R : Int} {A : Option Addr} {n c : Nat} {cs : List Ins} {at_ : Int} {B : Option Addr} {m d : Nat} {zs : List Int} {C : Option Addr} {k : Nat} {ys : List Int} (h : LR w W g R A n c cs at_ B m d zs C k ys) (hb : Below W.heap.size W W') : LR w W' g R A n c cs at_ B m d zs C k ys :=
  ⟨h.ms.next hb, h.ry.below hb, h.ml.next hb⟩
theorem LR.start (R : Int) (A : Option Addr) (n c : Nat) (cs : List Ins) (at_ : Int) (B : Option Addr) (m d : Nat) (zs : List Int) (C : Option Addr) (k : Nat) (ys : List Int) (w : World) (h : RdC w A n cs) (h' : RdI w B m zs) (h2 : RdI w C k ys) (hml : Ml w) :
    LR w ((w.alloc (.cells #[.int .i64 R, .slice A n c] 43)).alloc (.cells #[.int .i64 at_, .slice B m d] 46)) w.heap.size R A n c cs at_ B m d zs C k ys := by
  have b1 := bel_alloc w (.cells #[.int .i64 R, .slice A n c] 43)
  have b2 := bel_alloc (w.alloc (.cells #[.int .i64 R, .slice A n c] 43)) (.cells #[.int .i64 at_, .slice B m d] 46)
  exact ⟨MS.start R A n c cs at_ B m d zs w h h', (h2.below b1).below b2, (hml.next b1).next b2⟩
theorem LR.cells {w W : World} {g : Nat} {R : Int} {A : Option Addr} {n c : Nat} {cs : List Ins} {at_ : Int} {B : Option Addr} {m d : Nat} {zs : List Int} {C : Option Addr} {k : Nat} {ys : List Int} (h : LR w W g R A n c cs at_ B m d zs C k ys) :
    W.cell? ⟨g, 0, none⟩ = some (.int .i64 R) ∧ W.cell? ⟨g, 1, none⟩ = some (.slice A n c) ∧ W.cell? ⟨g + 1, 0, none⟩ = some (.int .i64 at_) ∧ W.cell? ⟨g + 1, 1, none⟩ = some (.slice B m d) :=
  ⟨h.ms.bm.c0, h.ms.bm.c1, h.ms.bs.c0, h.ms.bs.c1⟩
set_option maxHeartbeats 8000000 in
theorem RegisterRuns_c (R : Int) (A : Option Addr) (n c : Nat) (cs : List Ins) (at_ : Int) (B : Option Addr) (m d : Nat) (zs : List Int) (C : Option Addr) (k e : Nat) (ys : List Int) (N : Int) (w : World) (h : RdC w A n cs) (h' : RdI w B m zs) (h2 : RdI w C k ys) (hm : m ≤ 9223372036854775807) (hk : k ≤ 9223372036854775807) (hml : Ml w) :
    Calls Tryd.prog 4 #[.agg #[.int .i64 R, .slice A n c], .agg #[.int .i64 at_, .slice B m d], .slice C k e, .int .i64 N] w (RetB true w) := by
  have E := Lib.hid (LR.start R A n c cs at_ B m d zs C k ys w h h' h2 hml)
  clear h h' h2 hml
  go_enter Tryd.func4, Tryd.ntmps4
  go_upto_region 1 with (fail)
  generalize (w.alloc (.cells #[.int .i64 R, .slice A n c] 43)).alloc (.cells #[.int .i64 at_, .slice B m d] 46) = W0 at E ⊢
  generalize w.heap.size = g at E ⊢
  obtain ⟨m0, m1, s0, s1⟩ := E.out.cells
  by_cases hw : n ≤ 100 ∧ m ≤ 100 ∧ k ≤ 100
  · go_wp2_with fail
    refine (wide_f R A n c at_ B m d C k e W0 hw).mono ?_
    rintro e' w1 ⟨rfl, hb⟩
    replace E := Lib.hid (E.out.next hb)
    clear hb hw m0 m1 s0 s1
    obtain ⟨m0, m1, s0, s1⟩ := E.out.cells
    by_cases hN : 3000 < N ∧ N ≤ 1000000
    · have t1 : decide (3000 < N) = true := decide_eq_true hN.1
      have t2 : decide (N ≤ 1000000) = true := decide_eq_true hN.2
      go_wp2_with fail
      refine (awake13_c w1 E.out.ml).mono ?_
      rintro e' w2 ⟨rfl, hb⟩
      replace E := Lib.hid (E.out.next hb)
      clear hb
      go_wp2
      go_ret
      exact ⟨rfl, E.out.ms.below⟩
    · obtain ⟨v1, t1⟩ : ∃ v, decide (3000 < N) = v := ⟨_, rfl⟩
      obtain ⟨v2, t2⟩ : ∃ v, decide (N ≤ 1000000) = v := ⟨_, rfl⟩
      have hv : v1 = false ∨ v2 = false := by
        by_cases h1 : 3000 < N
        · exact .inr (by rw [← t2]; exact decide_eq_false (fun h => hN ⟨h1, h⟩))
        · exact .inl (by rw [← t1]; exact decide_eq_false h1)
      have HB := Lib.hid (show v1 = false ∨ (v1 = true ∧ v2 = false) by cases v1 <;> simp_all)
      clear hv hN
      rcases HB.out with rfl | ⟨rfl, rfl⟩
      ·
        have HV1 := Lib.hid (fun W (h : RdC W A n cs) => Valid_c R A n c cs W h)
        have HV2 := Lib.hid (fun W (h : RdC W A n cs) => refValid13_c R A n c cs W h)
        have HU1 := Lib.hid (fun W (h : RdC W A n cs) (h' : RdI W B m zs) => Fits_c R A n c cs at_ B m d zs W h h' hm)
        have HU2 := Lib.hid (fun W (h : RdC W A n cs) (h' : RdI W B m zs) => refFits_c R A n c cs at_ B m d zs W h h' hm)
        generalize validM R cs = v at HV1 HV2
        generalize fitsM R cs at_ zs = u at HU1 HU2
        have tv : (v != v) = false := by simp
        have tu : (u != u) = false := by simp
        go_upto_region 3 with (fail)
        clear t1 t2
        refine wp_region_held_drew (S := (fun w' => w'.cell? ⟨g, 0, none⟩ = some (.int .i64 R) ∧ w'.cell? ⟨g, 1, none⟩ = some (.slice A n c) ∧ w'.cell? ⟨(g + 1), 0, none⟩ = some (.int .i64 at_) ∧ w'.cell? ⟨(g + 1), 1, none⟩ = some (.slice B m d))) (by kernel_rfl) (⟨cell_dr m0, cell_dr m1, cell_dr s0, cell_dr s1⟩) (fun hHeld => ?_)
        replace E := Lib.hid (E.out.next (Below.refl w1.heap.size w1).drew)
        generalize w1.drew = D1 at E hHeld ⊢
        refine take_on (i := 0) (d := (some 22)) (v := ?v1) rfl rfl (by kernel_rfl) (by kernel_rfl) (by kernel_rfl) (fun c a w h => h) (by rfl) ?h1 (by assumption) ?r1
        case h1 => intro w hSw; obtain ⟨h0, h1, h2, h3⟩ := hSw; go_simp; rfl
        simp only [Act.put, List.setIfInBounds_toArray, List.set_cons_zero, List.set_cons_succ]
        refine take_on (i := 2) (d := (some 24)) (v := ?v2) rfl rfl (by kernel_rfl) (by kernel_rfl) (by kernel_rfl) (fun c a w h => h) (by rfl) ?h2 (by assumption) ?r2
        case h2 => intro w hSw; obtain ⟨h0, h1, h2, h3⟩ := hSw; go_simp; rfl
        simp only [Act.put, List.setIfInBounds_toArray, List.set_cons_zero, List.set_cons_succ]
        refine wpAnyH_ready (rs := [1]) (by kernel_rfl) (by simp) ?_
        refine AllReadyH.cons rfl (fun K hK => ?_) AllReadyH.nil
        go_simp
        refine (HV1.out D1 E.out.ms.rc).mono ?_
        rintro e' v2 ⟨rfl, hb⟩
        clear m0 m1 s0 s1
        replace E := Lib.hid (E.out.next hb)
        obtain ⟨m0, m1, s0, s1⟩ := E.out.cells
        clear hb hHeld
        refine hK.out _ _ (⟨m0, m1, s0, s1⟩) (fun hHeld => ?_)
        clear hK K
        refine wpAnyH_ready (rs := [3]) (by kernel_rfl) (by simp) ?_
        refine AllReadyH.cons rfl (fun K hK => ?_) AllReadyH.nil
        go_simp
        refine (HV2.out v2 E.out.ms.rc).mono ?_
        rintro e' v3 ⟨rfl, hb⟩
        clear m0 m1 s0 s1
        replace E := Lib.hid (E.out.next hb)
        obtain ⟨m0, m1, s0, s1⟩ := E.out.cells
        clear hb hHeld
        refine hK.out _ _ (⟨m0, m1, s0, s1⟩) (fun hHeld => ?_)
        clear hK K
        refine take_on (i := 4) (d := (some 26)) (v := ?v3) rfl rfl (by kernel_rfl) (by kernel_rfl) (by kernel_rfl) (fun c a w h => h) (by rfl) ?h3 (by assumption) ?r3
        case h3 => intro w hSw; obtain ⟨h0, h1, h2, h3⟩ := hSw; go_simp; rfl
        simp only [Act.put, List.setIfInBounds_toArray, List.set_cons_zero, List.set_cons_succ]
        refine take_on (i := 5) (d := (some 27)) (v := ?v4) rfl rfl (by kernel_rfl) (by kernel_rfl) (by kernel_rfl) (fun c a w h => h) (by rfl) ?h4 (by assumption) ?r4
        case h4 => intro w hSw; obtain ⟨h0, h1, h2, h3⟩ := hSw; go_simp; rfl
        simp only [Act.put, List.setIfInBounds_toArray, List.set_cons_zero, List.set_cons_succ]
        refine take_on (i := 6) (d := (some 28)) (v := ?v5) rfl rfl (by kernel_rfl) (by kernel_rfl) (by kernel_rfl) (fun c a w h => h) (by rfl) ?h5 (by assumption) ?r5
        case h5 => intro w hSw; obtain ⟨h0, h1, h2, h3⟩ := hSw; go_simp; rfl
        simp only [Act.put, List.setIfInBounds_toArray, List.set_cons_zero, List.set_cons_succ]
        refine take_on (i := 7) (d := (some 29)) (v := ?v6) rfl rfl (by kernel_rfl) (by kernel_rfl) (by kernel_rfl) (fun c a w h => h) (by rfl) ?h6 (by assumption) ?r6
        case h6 => intro w hSw; obtain ⟨h0, h1, h2, h3⟩ := hSw; go_simp; rfl
        simp only [Act.put, List.setIfInBounds_toArray, List.set_cons_zero, List.set_cons_succ]
        refine take_on (i := 9) (d := (some 31)) (v := ?v7) rfl rfl (by kernel_rfl) (by kernel_rfl) (by kernel_rfl) (fun c a w h => h) (by rfl) ?h7 (by assumption) ?r7
        case h7 => intro w hSw; obtain ⟨h0, h1, h2, h3⟩ := hSw; go_simp; rfl
        simp only [Act.put, List.setIfInBounds_toArray, List.set_cons_zero, List.set_cons_succ]
        refine take_on (i := 10) (d := (some 32)) (v := ?v8) rfl rfl (by kernel_rfl) (by kernel_rfl) (by kernel_rfl) (fun c a w h => h) (by rfl) ?h8 (by assumption) ?r8
        case h8 => intro w hSw; obtain ⟨h0, h1, h2, h3⟩ := hSw; go_simp; rfl
        simp only [Act.put, List.setIfInBounds_toArray, List.set_cons_zero, List.set_cons_succ]
        refine wpAnyH_ready (rs := [8]) (by kernel_rfl) (by simp) ?_
        refine AllReadyH.cons rfl (fun K hK => ?_) AllReadyH.nil
        go_simp
        refine (HU1.out v3 E.out.ms.rc E.out.ms.ri).mono ?_
        rintro e' v4 ⟨rfl, hb⟩
        clear m0 m1 s0 s1
        replace E := Lib.hid (E.out.next hb)
        obtain ⟨m0, m1, s0, s1⟩ := E.out.cells
        clear hb hHeld
        refine hK.out _ _ (⟨m0, m1, s0, s1⟩) (fun hHeld => ?_)
        clear hK K
        refine wpAnyH_ready (rs := [11]) (by kernel_rfl) (by simp) ?_
        refine AllReadyH.cons rfl (fun K hK => ?_) AllReadyH.nil
        go_simp
        refine (HU2.out v4 E.out.ms.rc E.out.ms.ri).mono ?_
        rintro e' v5 ⟨rfl, hb⟩
        clear m0 m1 s0 s1
        replace E := Lib.hid (E.out.next hb)
        obtain ⟨m0, m1, s0, s1⟩ := E.out.cells
        clear hb hHeld
        refine hK.out _ _ (⟨m0, m1, s0, s1⟩) (fun hHeld => ?_)
        clear hK K
        refine take_on (i := 12) (d := (some 34)) (v := ?v9) rfl rfl (by kernel_rfl) (by kernel_rfl) (by kernel_rfl) (fun c a w h => h) (by rfl) ?h9 (by assumption) ?r9
        case h9 => intro w hSw; obtain ⟨h0, h1, h2, h3⟩ := hSw; go_simp; rfl
        simp only [Act.put, List.setIfInBounds_toArray, List.set_cons_zero, List.set_cons_succ]
        refine take_on (i := 13) (d := (some 35)) (v := ?v10) rfl rfl (by kernel_rfl) (by kernel_rfl) (by kernel_rfl) (fun c a w h => h) (by rfl) ?h10 (by assumption) ?r10
        case h10 => intro w hSw; obtain ⟨h0, h1, h2, h3⟩ := hSw; go_simp; rfl
        simp only [Act.put, List.setIfInBounds_toArray, List.set_cons_zero, List.set_cons_succ]
        clear hHeld
        refine wpAnyH_done (by kernel_rfl) ?_ _
        clear HV1 HV2 HU1 HU2 tv tu
        go_wp2_with fail
        refine (start_c R A n c cs C k e ys N v5 E.out.ms.rc E.out.ry hk).mono ?_
        rintro e' w5 ⟨rfl, hb⟩
        clear m0 m1 s0 s1
        replace E := Lib.hid (E.out.next hb)
        obtain ⟨m0, m1, s0, s1⟩ := E.out.cells
        clear hb
        go_wp2_with fail
        refine (steps_c R A n c cs at_ B m d zs N w5 E.out.ms.rc E.out.ms.ri hm).mono ?_
        rintro e' w6 ⟨rfl, hb⟩
        clear m0 m1 s0 s1
        replace E := Lib.hid (E.out.next hb)
        clear hb
        go_wp2_with fail
        refine (awake13_c w6 E.out.ml).mono ?_
        rintro e' w7 ⟨rfl, hb⟩
        replace E := Lib.hid (E.out.next hb)
        clear hb
        go_wp2
        go_ret
        exact ⟨rfl, E.out.ms.below⟩
      ·
        have HV1 := Lib.hid (fun W (h : RdC W A n cs) => Valid_c R A n c cs W h)
        have HV2 := Lib.hid (fun W (h : RdC W A n cs) => refValid13_c R A n c cs W h)
        have HU1 := Lib.hid (fun W (h : RdC W A n cs) (h' : RdI W B m zs) => Fits_c R A n c cs at_ B m d zs W h h' hm)
        have HU2 := Lib.hid (fun W (h : RdC W A n cs) (h' : RdI W B m zs) => refFits_c R A n c cs at_ B m d zs W h h' hm)
        generalize validM R cs = v at HV1 HV2
        generalize fitsM R cs at_ zs = u at HU1 HU2
        have tv : (v != v) = false := by simp
        have tu : (u != u) = false := by simp
        go_upto_region 3 with (fail)
        clear t1 t2
        refine wp_region_held_drew (S := (fun w' => w'.cell? ⟨g, 0, none⟩ = some (.int .i64 R) ∧ w'.cell? ⟨g, 1, none⟩ = some (.slice A n c) ∧ w'.cell? ⟨(g + 1), 0, none⟩ = some (.int .i64 at_) ∧ w'.cell? ⟨(g + 1), 1, none⟩ = some (.slice B m d))) (by kernel_rfl) (⟨cell_dr m0, cell_dr m1, cell_dr s0, cell_dr s1⟩) (fun hHeld => ?_)
        replace E := Lib.hid (E.out.next (Below.refl w1.heap.size w1).drew)
        generalize w1.drew = D6 at E hHeld ⊢
        refine take_on (i := 0) (d := (some 22)) (v := ?v11) rfl rfl (by kernel_rfl) (by kernel_rfl) (by kernel_rfl) (fun c a w h => h) (by rfl) ?h11 (by assumption) ?r11
        case h11 => intro w hSw; obtain ⟨h0, h1, h2, h3⟩ := hSw; go_simp; rfl
        simp only [Act.put, List.setIfInBounds_toArray, List.set_cons_zero, List.set_cons_succ]
        refine take_on (i := 2) (d := (some 24)) (v := ?v12) rfl rfl (by kernel_rfl) (by kernel_rfl) (by kernel_rfl) (fun c a w h => h) (by rfl) ?h12 (by assumption) ?r12
        case h12 => intro w hSw; obtain ⟨h0, h1, h2, h3⟩ := hSw; go_simp; rfl
        simp only [Act.put, List.setIfInBounds_toArray, List.set_cons_zero, List.set_cons_succ]
        refine wpAnyH_ready (rs := [1]) (by kernel_rfl) (by simp) ?_
        refine AllReadyH.cons rfl (fun K hK => ?_) AllReadyH.nil
        go_simp
        refine (HV1.out D6 E.out.ms.rc).mono ?_
        rintro e' v7 ⟨rfl, hb⟩
        clear m0 m1 s0 s1
        replace E := Lib.hid (E.out.next hb)
        obtain ⟨m0, m1, s0, s1⟩ := E.out.cells
        clear hb hHeld
        refine hK.out _ _ (⟨m0, m1, s0, s1⟩) (fun hHeld => ?_)
        clear hK K
        refine wpAnyH_ready (rs := [3]) (by kernel_rfl) (by simp) ?_
        refine AllReadyH.cons rfl (fun K hK => ?_) AllReadyH.nil
        go_simp
        refine (HV2.out v7 E.out.ms.rc).mono ?_
        rintro e' v8 ⟨rfl, hb⟩
        clear m0 m1 s0 s1
        replace E := Lib.hid (E.out.next hb)
        obtain ⟨m0, m1, s0, s1⟩ := E.out.cells
        clear hb hHeld
        refine hK.out _ _ (⟨m0, m1, s0, s1⟩) (fun hHeld => ?_)
        clear hK K
        refine take_on (i := 4) (d := (some 26)) (v := ?v13) rfl rfl (by kernel_rfl) (by kernel_rfl) (by kernel_rfl) (fun c a w h => h) (by rfl) ?h13 (by assumption) ?r13
        case h13 => intro w hSw; obtain ⟨h0, h1, h2, h3⟩ := hSw; go_simp; rfl
        simp only [Act.put, List.setIfInBounds_toArray, List.set_cons_zero, List.set_cons_succ]
        refine take_on (i := 5) (d := (some 27)) (v := ?v14) rfl rfl (by kernel_rfl) (by kernel_rfl) (by kernel_rfl) (fun c a w h => h) (by rfl) ?h14 (by assumption) ?r14
        case h14 => intro w hSw; obtain ⟨h0, h1, h2, h3⟩ := hSw; go_simp; rfl
        simp only [Act.put, List.setIfInBounds_toArray, List.set_cons_zero, List.set_cons_succ]
        refine take_on (i := 6) (d := (some 28)) (v := ?v15) rfl rfl (by kernel_rfl) (by kernel_rfl) (by kernel_rfl) (fun c a w h => h) (by rfl) ?h15 (by assumption) ?r15
        case h15 => intro w hSw; obtain ⟨h0, h1, h2, h3⟩ := hSw; go_simp; rfl
        simp only [Act.put, List.setIfInBounds_toArray, List.set_cons_zero, List.set_cons_succ]
        refine take_on (i := 7) (d := (some 29)) (v := ?v16) rfl rfl (by kernel_rfl) (by kernel_rfl) (by kernel_rfl) (fun c a w h => h) (by rfl) ?h16 (by assumption) ?r16
        case h16 => intro w hSw; obtain ⟨h0, h1, h2, h3⟩ := hSw; go_simp; rfl
        simp only [Act.put, List.setIfInBounds_toArray, List.set_cons_zero, List.set_cons_succ]
        refine take_on (i := 9) (d := (some 31)) (v := ?v17) rfl rfl (by kernel_rfl) (by kernel_rfl) (by kernel_rfl) (fun c a w h => h) (by rfl) ?h17 (by assumption) ?r17
        case h17 => intro w hSw; obtain ⟨h0, h1, h2, h3⟩ := hSw; go_simp; rfl
        simp only [Act.put, List.setIfInBounds_toArray, List.set_cons_zero, List.set_cons_succ]
        refine take_on (i := 10) (d := (some 32)) (v := ?v18) rfl rfl (by kernel_rfl) (by kernel_rfl) (by kernel_rfl) (fun c a w h => h) (by rfl) ?h18 (by assumption) ?r18
        case h18 => intro w hSw; obtain ⟨h0, h1, h2, h3⟩ := hSw; go_simp; rfl
        simp only [Act.put, List.setIfInBounds_toArray, List.set_cons_zero, List.set_cons_succ]
        refine wpAnyH_ready (rs := [8]) (by kernel_rfl) (by simp) ?_
        refine AllReadyH.cons rfl (fun K hK => ?_) AllReadyH.nil
        go_simp
        refine (HU1.out v8 E.out.ms.rc E.out.ms.ri).mono ?_
        rintro e' v9 ⟨rfl, hb⟩
        clear m0 m1 s0 s1
        replace E := Lib.hid (E.out.next hb)
        obtain ⟨m0, m1, s0, s1⟩ := E.out.cells
        clear hb hHeld
        refine hK.out _ _ (⟨m0, m1, s0, s1⟩) (fun hHeld => ?_)
        clear hK K
        refine wpAnyH_ready (rs := [11]) (by kernel_rfl) (by simp) ?_
        refine AllReadyH.cons rfl (fun K hK => ?_) AllReadyH.nil
        go_simp
        refine (HU2.out v9 E.out.ms.rc E.out.ms.ri).mono ?_
        rintro e' v10 ⟨rfl, hb⟩
        clear m0 m1 s0 s1
        replace E := Lib.hid (E.out.next hb)
        obtain ⟨m0, m1, s0, s1⟩ := E.out.cells
        clear hb hHeld
        refine hK.out _ _ (⟨m0, m1, s0, s1⟩) (fun hHeld => ?_)
        clear hK K
        refine take_on (i := 12) (d := (some 34)) (v := ?v19) rfl rfl (by kernel_rfl) (by kernel_rfl) (by kernel_rfl) (fun c a w h => h) (by rfl) ?h19 (by assumption) ?r19
        case h19 => intro w hSw; obtain ⟨h0, h1, h2, h3⟩ := hSw; go_simp; rfl
        simp only [Act.put, List.setIfInBounds_toArray, List.set_cons_zero, List.set_cons_succ]
        refine take_on (i := 13) (d := (some 35)) (v := ?v20) rfl rfl (by kernel_rfl) (by kernel_rfl) (by kernel_rfl) (fun c a w h => h) (by rfl) ?h20 (by assumption) ?r20
        case h20 => intro w hSw; obtain ⟨h0, h1, h2, h3⟩ := hSw; go_simp; rfl
        simp only [Act.put, List.setIfInBounds_toArray, List.set_cons_zero, List.set_cons_succ]
        clear hHeld
        refine wpAnyH_done (by kernel_rfl) ?_ _
        clear HV1 HV2 HU1 HU2 tv tu
        go_wp2_with fail
        refine (start_c R A n c cs C k e ys N v10 E.out.ms.rc E.out.ry hk).mono ?_
        rintro e' w5 ⟨rfl, hb⟩
        clear m0 m1 s0 s1
        replace E := Lib.hid (E.out.next hb)
        obtain ⟨m0, m1, s0, s1⟩ := E.out.cells
        clear hb
        go_wp2_with fail
        refine (steps_c R A n c cs at_ B m d zs N w5 E.out.ms.rc E.out.ms.ri hm).mono ?_
        rintro e' w6 ⟨rfl, hb⟩
        clear m0 m1 s0 s1
        replace E := Lib.hid (E.out.next hb)
        clear hb
        go_wp2_with fail
        refine (awake13_c w6 E.out.ml).mono ?_
        rintro e' w7 ⟨rfl, hb⟩
        replace E := Lib.hid (E.out.next hb)
        clear hb
        go_wp2
        go_ret
        exact ⟨rfl, E.out.ms.below⟩
  · go_wp2_with fail
    refine (wide_t R A n c at_ B m d C k e W0 hw).mono ?_
    rintro e' w1 ⟨rfl, hb⟩
    replace E := Lib.hid (E.out.next hb)
    clear hb hw m0 m1 s0 s1
    go_wp2_with fail
    refine (awake13_c w1 E.out.ml).mono ?_
    rintro e' w2 ⟨rfl, hb⟩
    replace E := Lib.hid (E.out.next hb)
    clear hb
    go_wp2
    go_ret
    exact ⟨rfl, E.out.ms.below⟩
end Go.Proofs.YthjdnidapbhdlaaDoor

import Derived.Test.YtbblckaplddggaaOn
import Derived.Test.YtbblckaplddggaaOu
set_option maxRecDepth 100000
namespace Go.Proofs.Ytbblckaplddggaa
open Go.RowKit Go.Shelf
theorem sgn_pos (v : Nat) : sgn false v = (v : Int) := rfl
theorem psi_idx {a y : Int} (ha : 2 ≤ a) (hy : Sz y 4096) {N : Nat} (h : psi a N = y) : N ≤ 131073 := by
  cases N with
  | zero => omega
  | succ j =>
    have h1 := psi_lt ha (show j < j + 1 by omega)
    have := idx_bound ha hy (i := j) (by omega)
    omega
set_option maxHeartbeats 8000000 in
theorem LucasOnly_main (s1 : Bool) (A1 A2 A3 : Option Addr) (n1 c1 n2 c2 n3 c3 : Nat) (xs1 xs2 xs3 : List Nat) (w : World) (h1 : Rd w A1 n1 xs1) (h2 : Rd w A2 n2 xs2) (h3 : Rd w A3 n3 xs3) (hv1 : validB s1 xs1 = true) (hv2 : validB false xs2 = true) (hv3 : validB false xs3 = true) (hsh : decide (n1 ≤ 60 ∧ n2 ≤ 60 ∧ n3 ≤ 60) = true) (k1 : n1 ≤ c1) (e1 : c1 ≤ 9223372036854775807) (k2 : n2 ≤ c2) (e2 : c2 ≤ 9223372036854775807) (k3 : n3 ≤ c3) (e3 : c3 ≤ 9223372036854775807) (hge : 2 ≤ sgn s1 (val xs1)) :
    Calls Try.prog 8 #[.agg #[.bool s1, .slice A1 n1 c1], .agg #[.bool false, .slice A2 n2 c2], .agg #[.bool false, .slice A3 n3 c3]] w (IsB true w) := by
  have E := Lib.hid (Rb3.start (s1 := s1) (s2 := false) (s3 := false) (c1 := c1) (c2 := c2) (c3 := c3) h1 h2 h3)
  have HV1 := Lib.hid hv1
  have HV2 := Lib.hid hv2
  have HV3 := Lib.hid hv3
  have HSH := Lib.hid hsh
  have HI1 := Lib.hid (fun (W : World) (r : Rd W A1 n1 xs1) => raw_iv (s := s1) (c := c1) r hv1 k1 e1)
  have HI2 := Lib.hid (fun (W : World) (r : Rd W A2 n2 xs2) => raw_iv (s := false) (c := c2) r hv2 k2 e2)
  have HI3 := Lib.hid (fun (W : World) (r : Rd W A3 n3 xs3) => raw_iv (s := false) (c := c3) r hv3 k3 e3)
  obtain ⟨r, hr⟩ : ∃ r, r = ord (sgn s1 (val xs1)) 2 := ⟨_, rfl⟩
  have r0 : 0 ≤ r := by rcases ord_cases (sgn s1 (val xs1)) 2 with (⟨h4, h5⟩ | ⟨h4, h5⟩ | ⟨h4, h5⟩) <;> omega
  have r2 : decide (r < 0) = false := decide_eq_false (by omega)
  have HO := Lib.hid hr.symm
  clear hr
  have HGE := Lib.hid hge
  have h60 := of_decide_eq_true hsh
  have HZ := Lib.hid (And.intro (sz_valid (s := s1) h1 h60.1) (And.intro (sz_valid (s := false) h2 h60.2.1) (sz_valid (s := false) h3 h60.2.2)))
  clear h60 hge k1 e1 k2 e2 k3 e3
  clear h1 h2 h3 hv1 hv2 hv3 hsh
  go_enter Try.func8, Try.ntmps8
  go_upto_region 1 with (fail)
  generalize ((w.alloc (.cells #[.bool s1, .slice A1 n1 c1] 24)).alloc (.cells #[.bool false, .slice A2 n2 c2] 24)).alloc (.cells #[.bool false, .slice A3 n3 c3] 24) = W0 at E ⊢
  refine wp_region_held_drew (S := (fun w' => w'.cell? ⟨w.heap.size, 0, none⟩ = some (.bool s1) ∧ w'.cell? ⟨w.heap.size, 1, none⟩ = some (.slice A1 n1 c1) ∧ w'.cell? ⟨w.heap.size + 1, 0, none⟩ = some (.bool false) ∧ w'.cell? ⟨w.heap.size + 1, 1, none⟩ = some (.slice A2 n2 c2) ∧ w'.cell? ⟨w.heap.size + 1 + 1, 0, none⟩ = some (.bool false) ∧ w'.cell? ⟨w.heap.size + 1 + 1, 1, none⟩ = some (.slice A3 n3 c3))) (by kernel_rfl) ⟨cell_dr E.out.b1.c0, cell_dr E.out.b1.c1, cell_dr E.out.b2.c0, cell_dr E.out.b2.c1, cell_dr E.out.b3.c0, cell_dr E.out.b3.c1⟩ (fun hHeld => ?_)
  replace E := Lib.hid (E.out.next (Below.refl W0.heap.size W0).drew)
  generalize W0.drew = D0 at E hHeld ⊢
  refine take_on (i := 0) (d := (some 13)) (v := ?v1) rfl rfl (by kernel_rfl) (by kernel_rfl) (by kernel_rfl) (fun c a w h => h) (by rfl) ?h1 (by assumption) ?r1
  case h1 => intro w hSw; obtain ⟨h0, h1, h2, h3, h4, h5⟩ := hSw; go_simp; rfl
  simp only [Act.put, List.setIfInBounds_toArray, List.set_cons_zero, List.set_cons_succ]
  refine wpAnyH_ready (rs := [1]) (by kernel_rfl) (by simp) ?_
  refine AllReadyH.cons rfl (fun K hK => ?_) AllReadyH.nil
  go_simp
  refine (refValid_c s1 A1 n1 c1 xs1 _ E.out.b1.rd).mono ?_
  rw [HV1.out]
  rintro e u1 ⟨rfl, hb⟩
  replace E := Lib.hid (E.out.next hb)
  clear hb hHeld
  refine hK.out _ _ ⟨E.out.b1.c0, E.out.b1.c1, E.out.b2.c0, E.out.b2.c1, E.out.b3.c0, E.out.b3.c1⟩ (fun hHeld => ?_)
  clear hK K
  refine take_on (i := 2) (d := (some 15)) (v := ?v2) rfl rfl (by kernel_rfl) (by kernel_rfl) (by kernel_rfl) (fun c a w h => h) (by rfl) ?h2 (by assumption) ?r2
  case h2 => intro w hSw; obtain ⟨h0, h1, h2, h3, h4, h5⟩ := hSw; go_simp; rfl
  simp only [Act.put, List.setIfInBounds_toArray, List.set_cons_zero, List.set_cons_succ]
  refine take_on (i := 3) (d := (some 16)) (v := ?v3) rfl rfl (by kernel_rfl) (by kernel_rfl) (by kernel_rfl) (fun c a w h => h) (by rfl) ?h3 (by assumption) ?r3
  case h3 => intro w hSw; obtain ⟨h0, h1, h2, h3, h4, h5⟩ := hSw; go_simp; rfl
  simp only [Act.put, List.setIfInBounds_toArray, List.set_cons_zero, List.set_cons_succ]
  refine take_on (i := 4) (d := (some 17)) (v := ?v4) rfl rfl (by kernel_rfl) (by kernel_rfl) (by kernel_rfl) (fun c a w h => h) (by rfl) ?h4 (by assumption) ?r4
  case h4 => intro w hSw; obtain ⟨h0, h1, h2, h3, h4, h5⟩ := hSw; go_simp; rfl
  simp only [Act.put, List.setIfInBounds_toArray, List.set_cons_zero, List.set_cons_succ]
  refine wpAnyH_ready (rs := [5]) (by kernel_rfl) (by simp) ?_
  refine AllReadyH.cons rfl (fun K hK => ?_) AllReadyH.nil
  go_simp
  refine (refValid_c false A2 n2 c2 xs2 _ E.out.b2.rd).mono ?_
  rw [HV2.out]
  rintro e u2 ⟨rfl, hb⟩
  replace E := Lib.hid (E.out.next hb)
  clear hb hHeld
  refine hK.out _ _ ⟨E.out.b1.c0, E.out.b1.c1, E.out.b2.c0, E.out.b2.c1, E.out.b3.c0, E.out.b3.c1⟩ (fun hHeld => ?_)
  clear hK K
  refine take_on (i := 6) (d := (some 19)) (v := ?v5) rfl rfl (by kernel_rfl) (by kernel_rfl) (by kernel_rfl) (fun c a w h => h) (by rfl) ?h5 (by assumption) ?r5
  case h5 => intro w hSw; obtain ⟨h0, h1, h2, h3, h4, h5⟩ := hSw; go_simp; rfl
  simp only [Act.put, List.setIfInBounds_toArray, List.set_cons_zero, List.set_cons_succ]
  refine take_on (i := 7) (d := (some 20)) (v := ?v6) rfl rfl (by kernel_rfl) (by kernel_rfl) (by kernel_rfl) (fun c a w h => h) (by rfl) ?h6 (by assumption) ?r6
  case h6 => intro w hSw; obtain ⟨h0, h1, h2, h3, h4, h5⟩ := hSw; go_simp; rfl
  simp only [Act.put, List.setIfInBounds_toArray, List.set_cons_zero, List.set_cons_succ]
  refine take_on (i := 8) (d := (some 21)) (v := ?v7) rfl rfl (by kernel_rfl) (by kernel_rfl) (by kernel_rfl) (fun c a w h => h) (by rfl) ?h7 (by assumption) ?r7
  case h7 => intro w hSw; obtain ⟨h0, h1, h2, h3, h4, h5⟩ := hSw; go_simp; rfl
  simp only [Act.put, List.setIfInBounds_toArray, List.set_cons_zero, List.set_cons_succ]
  refine take_on (i := 9) (d := (some 22)) (v := ?v8) rfl rfl (by kernel_rfl) (by kernel_rfl) (by kernel_rfl) (fun c a w h => h) (by rfl) ?h8 (by assumption) ?r8
  case h8 => intro w hSw; obtain ⟨h0, h1, h2, h3, h4, h5⟩ := hSw; go_simp; rfl
  simp only [Act.put, List.setIfInBounds_toArray, List.set_cons_zero, List.set_cons_succ]
  refine wpAnyH_ready (rs := [10]) (by kernel_rfl) (by simp) ?_
  refine AllReadyH.cons rfl (fun K hK => ?_) AllReadyH.nil
  go_simp
  refine (refValid_c false A3 n3 c3 xs3 _ E.out.b3.rd).mono ?_
  rw [HV3.out]
  rintro e u3 ⟨rfl, hb⟩
  replace E := Lib.hid (E.out.next hb)
  clear hb hHeld
  refine hK.out _ _ ⟨E.out.b1.c0, E.out.b1.c1, E.out.b2.c0, E.out.b2.c1, E.out.b3.c0, E.out.b3.c1⟩ (fun hHeld => ?_)
  clear hK K
  refine take_on (i := 11) (d := (some 24)) (v := ?v9) rfl rfl (by kernel_rfl) (by kernel_rfl) (by kernel_rfl) (fun c a w h => h) (by rfl) ?h9 (by assumption) ?r9
  case h9 => intro w hSw; obtain ⟨h0, h1, h2, h3, h4, h5⟩ := hSw; go_simp; rfl
  simp only [Act.put, List.setIfInBounds_toArray, List.set_cons_zero, List.set_cons_succ]
  refine take_on (i := 12) (d := (some 25)) (v := ?v10) rfl rfl (by kernel_rfl) (by kernel_rfl) (by kernel_rfl) (fun c a w h => h) (by rfl) ?h10 (by assumption) ?r10
  case h10 => intro w hSw; obtain ⟨h0, h1, h2, h3, h4, h5⟩ := hSw; go_simp; rfl
  simp only [Act.put, List.setIfInBounds_toArray, List.set_cons_zero, List.set_cons_succ]
  refine take_on (i := 13) (d := (some 26)) (v := ?v11) rfl rfl (by kernel_rfl) (by kernel_rfl) (by kernel_rfl) (fun c a w h => h) (by rfl) ?h11 (by assumption) ?r11
  case h11 => intro w hSw; obtain ⟨h0, h1, h2, h3, h4, h5⟩ := hSw; go_simp; rfl
  simp only [Act.put, List.setIfInBounds_toArray, List.set_cons_zero, List.set_cons_succ]
  refine take_on (i := 14) (d := (some 27)) (v := ?v12) rfl rfl (by kernel_rfl) (by kernel_rfl) (by kernel_rfl) (fun c a w h => h) (by rfl) ?h12 (by assumption) ?r12
  case h12 => intro w hSw; obtain ⟨h0, h1, h2, h3, h4, h5⟩ := hSw; go_simp; rfl
  simp only [Act.put, List.setIfInBounds_toArray, List.set_cons_zero, List.set_cons_succ]
  refine take_on (i := 15) (d := (some 28)) (v := ?v13) rfl rfl (by kernel_rfl) (by kernel_rfl) (by kernel_rfl) (fun c a w h => h) (by rfl) ?h13 (by assumption) ?r13
  case h13 => intro w hSw; obtain ⟨h0, h1, h2, h3, h4, h5⟩ := hSw; go_simp; rfl
  simp only [Act.put, List.setIfInBounds_toArray, List.set_cons_zero, List.set_cons_succ]
  refine take_on (i := 16) (d := (some 29)) (v := ?v14) rfl rfl (by kernel_rfl) (by kernel_rfl) (by kernel_rfl) (fun c a w h => h) (by rfl) ?h14 (by assumption) ?r14
  case h14 => intro w hSw; obtain ⟨h0, h1, h2, h3, h4, h5⟩ := hSw; go_simp; rfl
  simp only [Act.put, List.setIfInBounds_toArray, List.set_cons_zero, List.set_cons_succ]
  refine wpAnyH_ready (rs := [17]) (by kernel_rfl) (by simp) ?_
  refine AllReadyH.cons rfl (fun K hK => ?_) AllReadyH.nil
  go_simp
  have hb := below_alloc u3 (.cells #[.bool s1, .slice A1 n1 c1, .bool false, .slice A2 n2 c2, .bool false, .slice A3 n3 c3] 24)
  replace E := Lib.hid (E.out.next hb)
  clear hb hHeld
  refine hK.out _ _ ⟨E.out.b1.c0, E.out.b1.c1, E.out.b2.c0, E.out.b2.c1, E.out.b3.c0, E.out.b3.c1⟩ (fun hHeld => ?_)
  clear hK K
  refine wpAnyH_ready (rs := [18]) (by kernel_rfl) (by simp) ?_
  refine AllReadyH.cons rfl (fun K hK => ?_) AllReadyH.nil
  go_simp
  refine (short3_c 60 _ A1 A2 A3 n1 c1 n2 c2 n3 c3 _ (by go_simp) (by go_simp) (by go_simp)).mono ?_
  rw [HSH.out]
  rintro e u4 ⟨rfl, hb⟩
  replace E := Lib.hid (E.out.next hb)
  clear hb hHeld
  refine hK.out _ _ ⟨E.out.b1.c0, E.out.b1.c1, E.out.b2.c0, E.out.b2.c1, E.out.b3.c0, E.out.b3.c1⟩ (fun hHeld => ?_)
  clear hK K
  refine take_on (i := 19) (d := (some 32)) (v := ?v15) rfl rfl (by kernel_rfl) (by kernel_rfl) (by kernel_rfl) (fun c a w h => h) (by rfl) ?h15 (by assumption) ?r15
  case h15 => intro w hSw; obtain ⟨h0, h1, h2, h3, h4, h5⟩ := hSw; go_simp; rfl
  simp only [Act.put, List.setIfInBounds_toArray, List.set_cons_zero, List.set_cons_succ]
  refine take_on (i := 20) (d := (some 33)) (v := ?v16) rfl rfl (by kernel_rfl) (by kernel_rfl) (by kernel_rfl) (fun c a w h => h) (by rfl) ?h16 (by assumption) ?r16
  case h16 => intro w hSw; obtain ⟨h0, h1, h2, h3, h4, h5⟩ := hSw; go_simp; rfl
  simp only [Act.put, List.setIfInBounds_toArray, List.set_cons_zero, List.set_cons_succ]
  refine take_on (i := 21) (d := (some 34)) (v := ?v17) rfl rfl (by kernel_rfl) (by kernel_rfl) (by kernel_rfl) (fun c a w h => h) (by rfl) ?h17 (by assumption) ?r17
  case h17 => intro w hSw; obtain ⟨h0, h1, h2, h3, h4, h5⟩ := hSw; go_simp; rfl
  simp only [Act.put, List.setIfInBounds_toArray, List.set_cons_zero, List.set_cons_succ]
  refine take_on (i := 22) (d := (some 35)) (v := ?v18) rfl rfl (by kernel_rfl) (by kernel_rfl) (by kernel_rfl) (fun c a w h => h) (by rfl) ?h18 (by assumption) ?r18
  case h18 => intro w hSw; obtain ⟨h0, h1, h2, h3, h4, h5⟩ := hSw; go_simp; rfl
  simp only [Act.put, List.setIfInBounds_toArray, List.set_cons_zero, List.set_cons_succ]
  refine take_on (i := 23) (d := (some 36)) (v := ?v19) rfl rfl (by kernel_rfl) (by kernel_rfl) (by kernel_rfl) (fun c a w h => h) (by rfl) ?h19 (by assumption) ?r19
  case h19 => intro w hSw; obtain ⟨h0, h1, h2, h3, h4, h5⟩ := hSw; go_simp; rfl
  simp only [Act.put, List.setIfInBounds_toArray, List.set_cons_zero, List.set_cons_succ]
  refine take_on (i := 24) (d := (some 37)) (v := ?v20) rfl rfl (by kernel_rfl) (by kernel_rfl) (by kernel_rfl) (fun c a w h => h) (by rfl) ?h20 (by assumption) ?r20
  case h20 => intro w hSw; obtain ⟨h0, h1, h2, h3, h4, h5⟩ := hSw; go_simp; rfl
  simp only [Act.put, List.setIfInBounds_toArray, List.set_cons_zero, List.set_cons_succ]
  refine take_on (i := 25) (d := (some 38)) (v := ?v21) rfl rfl (by kernel_rfl) (by kernel_rfl) (by kernel_rfl) (fun c a w h => h) (by rfl) ?h21 (by assumption) ?r21
  case h21 => intro w hSw; obtain ⟨h0, h1, h2, h3, h4, h5⟩ := hSw; go_simp; rfl
  simp only [Act.put, List.setIfInBounds_toArray, List.set_cons_zero, List.set_cons_succ]
  refine take_on (i := 26) (d := (some 39)) (v := ?v22) rfl rfl (by kernel_rfl) (by kernel_rfl) (by kernel_rfl) (fun c a w h => h) (by rfl) ?h22 (by assumption) ?r22
  case h22 => intro w hSw; obtain ⟨h0, h1, h2, h3, h4, h5⟩ := hSw; go_simp; rfl
  simp only [Act.put, List.setIfInBounds_toArray, List.set_cons_zero, List.set_cons_succ]
  refine take_on (i := 27) (d := (some 40)) (v := ?v23) rfl rfl (by kernel_rfl) (by kernel_rfl) (by kernel_rfl) (fun c a w h => h) (by rfl) ?h23 (by assumption) ?r23
  case h23 => intro w hSw; obtain ⟨h0, h1, h2, h3, h4, h5⟩ := hSw; go_simp; rfl
  simp only [Act.put, List.setIfInBounds_toArray, List.set_cons_zero, List.set_cons_succ]
  refine take_on (i := 28) (d := (some 41)) (v := ?v24) rfl rfl (by kernel_rfl) (by kernel_rfl) (by kernel_rfl) (fun c a w h => h) (by rfl) ?h24 (by assumption) ?r24
  case h24 => intro w hSw; obtain ⟨h0, h1, h2, h3, h4, h5⟩ := hSw; go_simp; rfl
  simp only [Act.put, List.setIfInBounds_toArray, List.set_cons_zero, List.set_cons_succ]
  refine take_on (i := 29) (d := (some 42)) (v := ?v25) rfl rfl (by kernel_rfl) (by kernel_rfl) (by kernel_rfl) (fun c a w h => h) (by rfl) ?h25 (by assumption) ?r25
  case h25 => intro w hSw; obtain ⟨h0, h1, h2, h3, h4, h5⟩ := hSw; go_simp; rfl
  simp only [Act.put, List.setIfInBounds_toArray, List.set_cons_zero, List.set_cons_succ]
  refine take_on (i := 30) (d := (some 43)) (v := ?v26) rfl rfl (by kernel_rfl) (by kernel_rfl) (by kernel_rfl) (fun c a w h => h) (by rfl) ?h26 (by assumption) ?r26
  case h26 => intro w hSw; obtain ⟨h0, h1, h2, h3, h4, h5⟩ := hSw; go_simp; rfl
  simp only [Act.put, List.setIfInBounds_toArray, List.set_cons_zero, List.set_cons_succ]
  refine wpAnyH_ready (rs := [31]) (by kernel_rfl) (by simp) ?_
  refine AllReadyH.cons rfl (fun K hK => ?_) AllReadyH.nil
  go_simp
  refine (refOfV 2 _ (by omega) (by omega)).mono ?_
  rintro e u5 ⟨t5, B5, m5, d5, rfl, i5, hb⟩
  have I5 := Lib.hid i5
  replace E := Lib.hid (E.out.next hb)
  clear hb hHeld i5
  refine hK.out _ _ ⟨E.out.b1.c0, E.out.b1.c1, E.out.b2.c0, E.out.b2.c1, E.out.b3.c0, E.out.b3.c1⟩ (fun hHeld => ?_)
  clear hK K
  refine wpAnyH_ready (rs := [32]) (by kernel_rfl) (by simp) ?_
  refine AllReadyH.cons rfl (fun K hK => ?_) AllReadyH.nil
  go_simp
  refine (refCmp_c (HI1.out _ E.out.b1.rd).is I5.out.is (Nat.le_trans (raw_len E.out.b1.rd HV1.out) (by omega)) (Nat.le_trans (I5.out.is.len sz_two) (by omega))).mono ?_
  rw [HO.out]
  rintro e u6 ⟨rfl, hb⟩
  replace E := Lib.hid (E.out.next hb)
  clear hb hHeld I5
  refine hK.out _ _ ⟨E.out.b1.c0, E.out.b1.c1, E.out.b2.c0, E.out.b2.c1, E.out.b3.c0, E.out.b3.c1⟩ (fun hHeld => ?_)
  clear hK K
  refine take_on (i := 33) (d := (some 46)) (v := ?v27) rfl rfl (by kernel_rfl) (by kernel_rfl) (by kernel_rfl) (fun c a w h => h) (by rfl) ?h27 (by assumption) ?r27
  case h27 => intro w hSw; obtain ⟨h0, h1, h2, h3, h4, h5⟩ := hSw; go_simp; rfl
  simp only [Act.put, List.setIfInBounds_toArray, List.set_cons_zero, List.set_cons_succ]
  refine take_on (i := 34) (d := (some 47)) (v := ?v28) rfl rfl (by kernel_rfl) (by kernel_rfl) (by kernel_rfl) (fun c a w h => h) (by rfl) ?h28 (by assumption) ?r28
  case h28 => intro w hSw; obtain ⟨h0, h1, h2, h3, h4, h5⟩ := hSw; go_simp; rfl
  simp only [Act.put, List.setIfInBounds_toArray, List.set_cons_zero, List.set_cons_succ]
  clear hHeld
  refine wpAnyH_done (by kernel_rfl) ?_ _
  obtain ⟨a, ha⟩ : ∃ a, a = sgn s1 (val xs1) := ⟨_, rfl⟩
  obtain ⟨x, hx⟩ : ∃ x, x = sgn false (val xs2) := ⟨_, rfl⟩
  obtain ⟨y, hy⟩ : ∃ y, y = sgn false (val xs3) := ⟨_, rfl⟩
  have HXY := Lib.hid (show 0 ≤ x ∧ 0 ≤ y by rw [hx, hy, sgn_pos, sgn_pos]; omega)
  rw [← ha, ← hx, ← hy] at HZ
  rw [← ha] at HI1 HGE
  rw [← hx] at HI2
  rw [← hy] at HI3
  clear ha hx hy HV1 HV2 HV3 HSH HO r0 r2
  have a0 := E.out.b1.c0
  have a1 := E.out.b1.c1
  go_wp2_with fail
  have la : n1 ≤ 8796093022208 := Nat.le_trans ((HI1.out _ E.out.b1.rd).is.len HZ.out.1) (by omega)
  refine (refMul_c (HI1.out _ E.out.b1.rd).is (HI1.out _ E.out.b1.rd).is la la).mono ?_
  rintro e w10 ⟨t10, A10, n10, c10, rfl, i10, hb⟩
  replace E := Lib.hid (E.out.next hb)
  have I10 := Lib.hid i10
  clear hb i10 a0 a1 la
  go_wp2_with fail
  refine (refOfV 1 _ (by omega) (by omega)).mono ?_
  rintro e w11 ⟨t11, A11, n11, c11, rfl, i11, hb⟩
  replace E := Lib.hid (E.out.next hb)
  replace I10 := Lib.hid (I10.out.below hb)
  have I11 := Lib.hid i11
  clear hb i11
  go_wp2_with fail
  refine (refSub_c I10.out I11.out.is (Nat.le_trans (I10.out.len (HZ.out.1.mul HZ.out.1)) (by omega)) (Nat.le_trans (I11.out.is.len I11.out.sz) (by omega))).mono ?_
  rintro e w12 ⟨t12, A12, n12, c12, rfl, i12, hb⟩
  replace E := Lib.hid ((E.out.next hb).next (below_alloc _ (.cells #[.bool t12, .slice A12 n12 c12] 24)))
  have D := Lib.hid (Nvr.new i12)
  clear hb i12 I10 I11
  have SD : Hid (Sz (a * a - 1) 121) := by
    have h := (((HZ.out.1.mul HZ.out.1).le (by omega : 60 + 60 ≤ 120)).sub (sz_one' (by omega)))
    exact Lib.hid h
  go_upto_region 4 with (fail)
  generalize w12.alloc (.cells #[.bool t12, .slice A12 n12 c12] 24) = W12 at E D ⊢
  generalize w12.heap.size = g7 at D ⊢
  obtain ⟨q, hq⟩ : ∃ q, q = decide (x * x - (a * a - 1) * (y * y) = 1) := ⟨_, rfl⟩
  have HQ := Lib.hid hq
  clear hq
  refine wp_region_held_drew (S := (fun w' => w'.cell? ⟨w.heap.size + 1, 0, none⟩ = some (.bool false) ∧ w'.cell? ⟨w.heap.size + 1, 1, none⟩ = some (.slice A2 n2 c2) ∧ w'.cell? ⟨w.heap.size + 1 + 1, 0, none⟩ = some (.bool false) ∧ w'.cell? ⟨w.heap.size + 1 + 1, 1, none⟩ = some (.slice A3 n3 c3) ∧ w'.cell? ⟨g7, 0, none⟩ = some (.bool t12) ∧ w'.cell? ⟨g7, 1, none⟩ = some (.slice A12 n12 c12))) (by kernel_rfl) ⟨cell_dr E.out.b2.c0, cell_dr E.out.b2.c1, cell_dr E.out.b3.c0, cell_dr E.out.b3.c1, cell_dr D.out.c0, cell_dr D.out.c1⟩ (fun hHeld => ?_)
  replace E := Lib.hid (E.out.next (Below.refl W12.heap.size W12).drew)
  replace D := Lib.hid (D.out.next (Below.refl W12.heap.size W12).drew)
  generalize W12.drew = D1 at E D hHeld ⊢
  refine take_on (i := 0) (d := (some 54)) (v := ?v29) rfl rfl (by kernel_rfl) (by kernel_rfl) (by kernel_rfl) (fun c a w h => h) (by rfl) ?h29 (by assumption) ?r29
  case h29 => intro w hSw; obtain ⟨h0, h1, h2, h3, h4, h5⟩ := hSw; go_simp; rfl
  simp only [Act.put, List.setIfInBounds_toArray, List.set_cons_zero, List.set_cons_succ]
  refine take_on (i := 1) (d := (some 55)) (v := ?v30) rfl rfl (by kernel_rfl) (by kernel_rfl) (by kernel_rfl) (fun c a w h => h) (by rfl) ?h30 (by assumption) ?r30
  case h30 => intro w hSw; obtain ⟨h0, h1, h2, h3, h4, h5⟩ := hSw; go_simp; rfl
  simp only [Act.put, List.setIfInBounds_toArray, List.set_cons_zero, List.set_cons_succ]
  refine take_on (i := 3) (d := (some 57)) (v := ?v31) rfl rfl (by kernel_rfl) (by kernel_rfl) (by kernel_rfl) (fun c a w h => h) (by rfl) ?h31 (by assumption) ?r31
  case h31 => intro w hSw; obtain ⟨h0, h1, h2, h3, h4, h5⟩ := hSw; go_simp; rfl
  simp only [Act.put, List.setIfInBounds_toArray, List.set_cons_zero, List.set_cons_succ]
  refine take_on (i := 4) (d := (some 58)) (v := ?v32) rfl rfl (by kernel_rfl) (by kernel_rfl) (by kernel_rfl) (fun c a w h => h) (by rfl) ?h32 (by assumption) ?r32
  case h32 => intro w hSw; obtain ⟨h0, h1, h2, h3, h4, h5⟩ := hSw; go_simp; rfl
  simp only [Act.put, List.setIfInBounds_toArray, List.set_cons_zero, List.set_cons_succ]
  refine take_on (i := 5) (d := (some 59)) (v := ?v33) rfl rfl (by kernel_rfl) (by kernel_rfl) (by kernel_rfl) (fun c a w h => h) (by rfl) ?h33 (by assumption) ?r33
  case h33 => intro w hSw; obtain ⟨h0, h1, h2, h3, h4, h5⟩ := hSw; go_simp; rfl
  simp only [Act.put, List.setIfInBounds_toArray, List.set_cons_zero, List.set_cons_succ]
  refine wpAnyH_ready (rs := [2]) (by kernel_rfl) (by simp) ?_
  refine AllReadyH.cons rfl (fun K hK => ?_) AllReadyH.nil
  go_simp
  refine (refMul_c (HI2.out _ E.out.b2.rd).is (HI2.out _ E.out.b2.rd).is (Nat.le_trans ((HI2.out _ E.out.b2.rd).is.len HZ.out.2.1) (by omega)) (Nat.le_trans ((HI2.out _ E.out.b2.rd).is.len HZ.out.2.1) (by omega))).mono ?_
  rintro e v0 ⟨t20, A20, n20, c20, rfl, i20, hb⟩
  replace E := Lib.hid (E.out.next hb)
  replace D := Lib.hid (D.out.next hb)
  have J0 := Lib.hid i20
  clear i20
  clear hb hHeld
  refine hK.out _ _ ⟨E.out.b2.c0, E.out.b2.c1, E.out.b3.c0, E.out.b3.c1, D.out.c0, D.out.c1⟩ (fun hHeld => ?_)
  clear hK K
  refine wpAnyH_ready (rs := [6]) (by kernel_rfl) (by simp) ?_
  refine AllReadyH.cons rfl (fun K hK => ?_) AllReadyH.nil
  go_simp
  refine (refMul_c (HI3.out _ E.out.b3.rd).is (HI3.out _ E.out.b3.rd).is (Nat.le_trans ((HI3.out _ E.out.b3.rd).is.len HZ.out.2.2) (by omega)) (Nat.le_trans ((HI3.out _ E.out.b3.rd).is.len HZ.out.2.2) (by omega))).mono ?_
  rintro e v1 ⟨t21, A21, n21, c21, rfl, i21, hb⟩
  replace E := Lib.hid (E.out.next hb)
  replace D := Lib.hid (D.out.next hb)
  replace J0 := Lib.hid (J0.out.below hb)
  have J1 := Lib.hid i21
  clear i21
  clear hb hHeld
  refine hK.out _ _ ⟨E.out.b2.c0, E.out.b2.c1, E.out.b3.c0, E.out.b3.c1, D.out.c0, D.out.c1⟩ (fun hHeld => ?_)
  clear hK K
  refine wpAnyH_ready (rs := [7]) (by kernel_rfl) (by simp) ?_
  refine AllReadyH.cons rfl (fun K hK => ?_) AllReadyH.nil
  go_simp
  refine (refMul_c D.out.is J1.out (Nat.le_trans (D.out.is.len SD.out) (by omega)) (Nat.le_trans (J1.out.len (HZ.out.2.2.mul HZ.out.2.2)) (by omega))).mono ?_
  rintro e v2 ⟨t22, A22, n22, c22, rfl, i22, hb⟩
  replace E := Lib.hid (E.out.next hb)
  replace D := Lib.hid (D.out.next hb)
  replace J0 := Lib.hid (J0.out.below hb)
  replace J1 := Lib.hid (J1.out.below hb)
  have J2 := Lib.hid i22
  clear i22
  clear hb hHeld
  refine hK.out _ _ ⟨E.out.b2.c0, E.out.b2.c1, E.out.b3.c0, E.out.b3.c1, D.out.c0, D.out.c1⟩ (fun hHeld => ?_)
  clear hK K
  refine wpAnyH_ready (rs := [8]) (by kernel_rfl) (by simp) ?_
  refine AllReadyH.cons rfl (fun K hK => ?_) AllReadyH.nil
  go_simp
  refine (refSub_c J0.out J2.out (Nat.le_trans (J0.out.len (HZ.out.2.1.mul HZ.out.2.1)) (by omega)) (Nat.le_trans (J2.out.len (SD.out.mul (HZ.out.2.2.mul HZ.out.2.2))) (by omega))).mono ?_
  rintro e v3 ⟨t23, A23, n23, c23, rfl, i23, hb⟩
  replace E := Lib.hid (E.out.next hb)
  replace D := Lib.hid (D.out.next hb)
  replace J0 := Lib.hid (J0.out.below hb)
  replace J1 := Lib.hid (J1.out.below hb)
  replace J2 := Lib.hid (J2.out.below hb)
  have J3 := Lib.hid i23
  clear i23
  clear hb hHeld
  refine hK.out _ _ ⟨E.out.b2.c0, E.out.b2.c1, E.out.b3.c0, E.out.b3.c1, D.out.c0, D.out.c1⟩ (fun hHeld => ?_)
  clear hK K
  refine wpAnyH_ready (rs := [9]) (by kernel_rfl) (by simp) ?_
  refine AllReadyH.cons rfl (fun K hK => ?_) AllReadyH.nil
  go_simp
  refine (refOfV 1 _ (by omega) (by omega)).mono ?_
  rintro e v4 ⟨t24, A24, n24, c24, rfl, i24, hb⟩
  replace E := Lib.hid (E.out.next hb)
  replace D := Lib.hid (D.out.next hb)
  replace J3 := Lib.hid (J3.out.below hb)
  have I24 := Lib.hid i24
  clear i24 hb hHeld J0 J1 J2
  refine hK.out _ _ ⟨E.out.b2.c0, E.out.b2.c1, E.out.b3.c0, E.out.b3.c1, D.out.c0, D.out.c1⟩ (fun hHeld => ?_)
  clear hK K
  refine wpAnyH_ready (rs := [10]) (by kernel_rfl) (by simp) ?_
  refine AllReadyH.cons rfl (fun K hK => ?_) AllReadyH.nil
  go_simp
  refine (same_is J3.out I24.out.is ((((HZ.out.2.1.mul HZ.out.2.1).le (by omega : 60 + 60 ≤ 4000)).sub ((SD.out.mul (HZ.out.2.2.mul HZ.out.2.2)).le (by omega : 121 + (60 + 60) ≤ 4000))).le (by omega : 4000 + 1 ≤ 4096)) (Nat.le_refl _)).mono ?_
  rw [← HQ.out]
  rintro e v5 ⟨rfl, hb⟩
  replace E := Lib.hid (E.out.next hb)
  replace D := Lib.hid (D.out.next hb)
  clear hb hHeld J3 I24
  refine hK.out _ _ ⟨E.out.b2.c0, E.out.b2.c1, E.out.b3.c0, E.out.b3.c1, D.out.c0, D.out.c1⟩ (fun hHeld => ?_)
  clear hK K
  refine take_on (i := 11) (d := (some 65)) (v := ?v34) rfl rfl (by kernel_rfl) (by kernel_rfl) (by kernel_rfl) (fun c a w h => h) (by rfl) ?h34 (by assumption) ?r34
  case h34 => intro w hSw; obtain ⟨h0, h1, h2, h3, h4, h5⟩ := hSw; go_simp; rfl
  simp only [Act.put, List.setIfInBounds_toArray, List.set_cons_zero, List.set_cons_succ]
  clear hHeld
  refine wpAnyH_done (by kernel_rfl) ?_ _
  cases q with
  | false =>
    go_wp2_with fail
    refine (awake8_c _).mono ?_
    rintro e u9 ⟨rfl, b9⟩
    have P9 := Lib.hid (E.out.below.trans (b9.mono E.out.below.size))
    clear b9
    go_wp2
    go_ret
    exact ⟨rfl, P9.out⟩
  | true =>
    obtain ⟨N, hN1, hN2⟩ := pell_only HGE.out y.toNat x y HXY.out.1 HXY.out.2 (Nat.le_refl _) (of_decide_eq_true HQ.out.symm)
    have HN := Lib.hid (And.intro hN1.symm hN2.symm)
    have HNB := Lib.hid (psi_idx HGE.out (HZ.out.2.2.le (by omega : 60 ≤ 4096)) hN2.symm)
    clear hN1 hN2 HQ D SD
    have a0 := E.out.b1.c0
    have a1 := E.out.b1.c1
    have b0 := E.out.b3.c0
    have b1 := E.out.b3.c1
    go_wp2_with fail
    refine (Index_c (HI1.out _ E.out.b1.rd) (HI3.out _ E.out.b3.rd) HGE.out).mono ?_
    rintro e w30 ⟨r9, k9, rfl, hb, hres⟩
    replace E := Lib.hid (E.out.next hb)
    have hr9 : k9 = 0 ∧ r9 = (N : Int) := by
      rcases hres with ⟨h4, m, h5, h6⟩ | ⟨h4, h5, h6⟩
      · refine ⟨h4, ?_⟩
        rw [h5, psi_inj HGE.out (h6.trans HN.out.2.symm)]
      · exact absurd HN.out.2 (h6 N)
    obtain ⟨rfl, rfl⟩ := hr9
    clear hb hres a0 a1 b0 b1
    obtain ⟨K, hK⟩ : ∃ K : Int, K = (N : Int) := ⟨_, rfl⟩
    have HBo := Lib.hid (fun (W : World) (i : Iv W a s1 A1 n1 c1) => both_c i HGE.out N (by have := HNB.out; omega) (by rw [HN.out.1]; exact HZ.out.2.1.le (by omega)) (by rw [HN.out.2]; exact HZ.out.2.2.le (by omega)))
    rw [← hK] at HBo ⊢
    rw [HN.out.1, HN.out.2] at HBo
    clear hK
    have a0 := E.out.b1.c0
    have a1 := E.out.b1.c1
    go_wp2_with fail
    refine (HBo.out _ (HI1.out _ E.out.b1.rd)).mono ?_
    rintro e w31 ⟨t31, A31, n31, c31, t32, A32, n32, c32, rfl, i31, i32, hb⟩
    have U := Lib.hid ((Nvr.new i31.is).alloc (.cells #[.bool t32, .slice A32 n32 c32] 24))
    have V := Lib.hid (Nvr.new (i32.is.below (below_alloc w31 (.cells #[.bool t31, .slice A31 n31 c31] 24))))
    rw [World.size_alloc] at V
    replace E := Lib.hid (((E.out.next hb).next (below_alloc _ (.cells #[.bool t31, .slice A31 n31 c31] 24))).next (below_alloc _ (.cells #[.bool t32, .slice A32 n32 c32] 24)))
    clear hb i31 i32 a0 a1 HBo
    go_upto_region 8 with (fail)
    generalize (w31.alloc (.cells #[.bool t31, .slice A31 n31 c31] 24)).alloc (.cells #[.bool t32, .slice A32 n32 c32] 24) = W31 at E U V ⊢
    have u0 := U.out.c0
    have u1 := U.out.c1
    have b0 := E.out.b2.c0
    have b1 := E.out.b2.c1
    go_wp2_with fail
    refine (same_eq (k := 4096) U.out.is (HI2.out _ E.out.b2.rd).is (HZ.out.2.1.le (by omega)) (Nat.le_refl _) rfl).mono ?_
    rintro e w32 ⟨rfl, hb⟩
    replace E := Lib.hid (E.out.next hb)
    replace V := Lib.hid (V.out.next hb)
    clear hb u0 u1 b0 b1 U
    have u0 := V.out.c0
    have u1 := V.out.c1
    have b0 := E.out.b3.c0
    have b1 := E.out.b3.c1
    go_wp2_with fail
    refine (same_eq (k := 4096) V.out.is (HI3.out _ E.out.b3.rd).is (HZ.out.2.2.le (by omega)) (Nat.le_refl _) rfl).mono ?_
    rintro e w33 ⟨rfl, hb⟩
    replace E := Lib.hid (E.out.next hb)
    clear hb u0 u1 b0 b1 V
    go_wp2_with fail
    refine (awake8_c _).mono ?_
    rintro e u9 ⟨rfl, b9⟩
    have P9 := Lib.hid (E.out.below.trans (b9.mono E.out.below.size))
    clear b9
    go_wp2
    go_ret
    exact ⟨rfl, P9.out⟩
theorem LucasOnly_c (s1 s2 s3 : Bool) (A1 A2 A3 : Option Addr) (n1 c1 n2 c2 n3 c3 : Nat) (xs1 xs2 xs3 : List Nat) (w : World) (h1 : Rd w A1 n1 xs1) (h2 : Rd w A2 n2 xs2) (h3 : Rd w A3 n3 xs3)
    (k1 : n1 ≤ c1) (e1 : c1 ≤ 9223372036854775807) (k2 : n2 ≤ c2) (e2 : c2 ≤ 9223372036854775807) (k3 : n3 ≤ c3) (e3 : c3 ≤ 9223372036854775807) :
    Calls Try.prog 8 #[.agg #[.bool s1, .slice A1 n1 c1], .agg #[.bool s2, .slice A2 n2 c2], .agg #[.bool s3, .slice A3 n3 c3]] w (IsB true w) := by
  cases hv1 : validB s1 xs1 with
  | false => exact LucasOnly_0 s1 s2 s3 A1 A2 A3 n1 c1 n2 c2 n3 c3 xs1 xs2 xs3 w h1 h2 h3 hv1
  | true =>
    cases hv2 : validB s2 xs2 with
    | false => exact LucasOnly_1 s1 s2 s3 A1 A2 A3 n1 c1 n2 c2 n3 c3 xs1 xs2 xs3 w h1 h2 h3 hv1 hv2
    | true =>
      cases hv3 : validB s3 xs3 with
      | false => exact LucasOnly_2 s1 s2 s3 A1 A2 A3 n1 c1 n2 c2 n3 c3 xs1 xs2 xs3 w h1 h2 h3 hv1 hv2 hv3
      | true =>
        cases hsh : decide (n1 ≤ 60 ∧ n2 ≤ 60 ∧ n3 ≤ 60) with
        | false => exact LucasOnly_3 s1 s2 s3 A1 A2 A3 n1 c1 n2 c2 n3 c3 xs1 xs2 xs3 w h1 h2 h3 hv1 hv2 hv3 hsh
        | true =>
          cases s2 with
          | true => exact LucasOnly_4 s1 s3 A1 A2 A3 n1 c1 n2 c2 n3 c3 xs1 xs2 xs3 w h1 h2 h3 hv1 hv2 hv3 hsh
          | false =>
            cases s3 with
            | true => exact LucasOnly_5 s1 A1 A2 A3 n1 c1 n2 c2 n3 c3 xs1 xs2 xs3 w h1 h2 h3 hv1 hv2 hv3 hsh
            | false =>
              by_cases hge : sgn s1 (val xs1) < 2
              · exact LucasOnly_6 s1 A1 A2 A3 n1 c1 n2 c2 n3 c3 xs1 xs2 xs3 w h1 h2 h3 hv1 hv2 hv3 hsh k1 e1 hge
              · exact LucasOnly_main s1 A1 A2 A3 n1 c1 n2 c2 n3 c3 xs1 xs2 xs3 w h1 h2 h3 hv1 hv2 hv3 hsh k1 e1 k2 e2 k3 e3 (by omega)
end Go.Proofs.Ytbblckaplddggaa

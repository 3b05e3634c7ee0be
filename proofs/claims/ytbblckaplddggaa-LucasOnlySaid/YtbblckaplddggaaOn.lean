import Derived.Test.YtbblckaplddggaaOt
import Derived.Test.YtbblckaplddggaaMu
set_option maxRecDepth 100000
namespace Go.Proofs.Ytbblckaplddggaa
open Go.RowKit Go.Shelf
/-- three variables of whatever words -/
structure Rb3 (w W : World) (s1 : Bool) (A1 : Option Addr) (n1 c1 : Nat) (xs1 : List Nat) (s2 : Bool) (A2 : Option Addr) (n2 c2 : Nat) (xs2 : List Nat) (s3 : Bool) (A3 : Option Addr) (n3 c3 : Nat) (xs3 : List Nat) : Prop where
  below : Below w.heap.size w W
  b1 : Rb W w.heap.size s1 A1 n1 c1 xs1
  b2 : Rb W (w.heap.size + 1) s2 A2 n2 c2 xs2
  b3 : Rb W (w.heap.size + 1 + 1) s3 A3 n3 c3 xs3
theorem Rb3.next {w W W' : World} {s1 : Bool} {A1 : Option Addr} {n1 c1 : Nat} {xs1 : List Nat} {s2 : Bool} {A2 : Option Addr} {n2 c2 : Nat} {xs2 : List Nat} {s3 : Bool} {A3 : Option Addr} {n3 c3 : Nat} {xs3 : List Nat} (h : Rb3 w W s1 A1 n1 c1 xs1 s2 A2 n2 c2 xs2 s3 A3 n3 c3 xs3) (hb : Below W.heap.size W W') : Rb3 w W' s1 A1 n1 c1 xs1 s2 A2 n2 c2 xs2 s3 A3 n3 c3 xs3 :=
  ⟨h.below.trans (hb.mono h.below.size), h.b1.next hb, h.b2.next hb, h.b3.next hb⟩
theorem Rb3.start {w : World} {s1 : Bool} {A1 : Option Addr} {n1 c1 : Nat} {xs1 : List Nat} {s2 : Bool} {A2 : Option Addr} {n2 c2 : Nat} {xs2 : List Nat} {s3 : Bool} {A3 : Option Addr} {n3 c3 : Nat} {xs3 : List Nat} (h1 : Rd w A1 n1 xs1) (h2 : Rd w A2 n2 xs2) (h3 : Rd w A3 n3 xs3) :
    Rb3 w (((w.alloc (.cells #[.bool s1, .slice A1 n1 c1] 24)).alloc (.cells #[.bool s2, .slice A2 n2 c2] 24)).alloc (.cells #[.bool s3, .slice A3 n3 c3] 24)) s1 A1 n1 c1 xs1 s2 A2 n2 c2 xs2 s3 A3 n3 c3 xs3 := by
  have k1 := below_alloc w (.cells #[.bool s1, .slice A1 n1 c1] 24)
  have k2 := below_alloc (w.alloc (.cells #[.bool s1, .slice A1 n1 c1] 24)) (.cells #[.bool s2, .slice A2 n2 c2] 24)
  have r2 := Rb.new (s := s2) (c := c2) (h2.below k1)
  have r3 := Rb.new (s := s3) (c := c3) ((h3.below k1).below k2)
  simp only [World.size_alloc] at r2 r3
  exact ⟨((k1.trans (k2.mono k1.size)).alloc (by simp; omega) _), ((Rb.new h1).alloc _).alloc _, r2.alloc _, r3⟩
set_option maxHeartbeats 8000000 in
theorem LucasOnly_0 (s1 s2 s3 : Bool) (A1 A2 A3 : Option Addr) (n1 c1 n2 c2 n3 c3 : Nat) (xs1 xs2 xs3 : List Nat) (w : World) (h1 : Rd w A1 n1 xs1) (h2 : Rd w A2 n2 xs2) (h3 : Rd w A3 n3 xs3) (hv1 : validB s1 xs1 = false) :
    Calls Try.prog 8 #[.agg #[.bool s1, .slice A1 n1 c1], .agg #[.bool s2, .slice A2 n2 c2], .agg #[.bool s3, .slice A3 n3 c3]] w (IsB true w) := by
  have E := Lib.hid (Rb3.start (s1 := s1) (s2 := s2) (s3 := s3) (c1 := c1) (c2 := c2) (c3 := c3) h1 h2 h3)
  have HV1 := Lib.hid hv1
  clear h1 h2 h3 hv1
  go_enter Try.func8, Try.ntmps8
  go_upto_region 1 with (fail)
  generalize ((w.alloc (.cells #[.bool s1, .slice A1 n1 c1] 24)).alloc (.cells #[.bool s2, .slice A2 n2 c2] 24)).alloc (.cells #[.bool s3, .slice A3 n3 c3] 24) = W0 at E ⊢
  refine wp_region_held_drew (S := (fun w' => w'.cell? ⟨w.heap.size, 0, none⟩ = some (.bool s1) ∧ w'.cell? ⟨w.heap.size, 1, none⟩ = some (.slice A1 n1 c1) ∧ w'.cell? ⟨w.heap.size + 1, 0, none⟩ = some (.bool s2) ∧ w'.cell? ⟨w.heap.size + 1, 1, none⟩ = some (.slice A2 n2 c2) ∧ w'.cell? ⟨w.heap.size + 1 + 1, 0, none⟩ = some (.bool s3) ∧ w'.cell? ⟨w.heap.size + 1 + 1, 1, none⟩ = some (.slice A3 n3 c3))) (by kernel_rfl) ⟨cell_dr E.out.b1.c0, cell_dr E.out.b1.c1, cell_dr E.out.b2.c0, cell_dr E.out.b2.c1, cell_dr E.out.b3.c0, cell_dr E.out.b3.c1⟩ (fun hHeld => ?_)
  replace E := Lib.hid (E.out.next (Below.refl W0.heap.size W0).drew)
  generalize W0.drew = D0 at E hHeld ⊢
  refine take_on (i := 0) (d := (some 13)) (v := ?v1) rfl rfl (by kernel_rfl) (by kernel_rfl) (by kernel_rfl) (fun c a w h => h) (by rfl) ?h1 (by assumption) ?r1
  case h1 => intro w hSw; obtain ⟨h0, h1, h2, h3, h4, h5⟩ := hSw; go_simp; rfl
  simp only [Act.put, List.setIfInBounds_toArray, List.set_cons_zero, List.set_cons_succ]
  refine wpAnyH_ready (rs := [1]) (by kernel_rfl) (by simp) ?_
  refine AllReadyH.cons rfl (fun K hK => ?_) AllReadyH.nil
  go_simp
  refine (refValid_c s1 A1 n1 c1 xs1 _ E.out.b1.rd).mono ?_
  rw [HV1.out]
  rintro e u1 ⟨rfl, hb⟩
  replace E := Lib.hid (E.out.next hb)
  clear hb hHeld
  refine hK.out _ _ ⟨E.out.b1.c0, E.out.b1.c1, E.out.b2.c0, E.out.b2.c1, E.out.b3.c0, E.out.b3.c1⟩ (fun hHeld => ?_)
  clear hK K
  refine take_on (i := 2) (d := (some 15)) (v := ?v2) rfl rfl (by kernel_rfl) (by kernel_rfl) (by kernel_rfl) (fun c a w h => h) (by rfl) ?h2 (by assumption) ?r2
  case h2 => intro w hSw; obtain ⟨h0, h1, h2, h3, h4, h5⟩ := hSw; go_simp; rfl
  simp only [Act.put, List.setIfInBounds_toArray, List.set_cons_zero, List.set_cons_succ]
  refine take_on (i := 3) (d := (some 16)) (v := ?v3) rfl rfl (by kernel_rfl) (by kernel_rfl) (by kernel_rfl) (fun c a w h => h) (by rfl) ?h3 (by assumption) ?r3
  case h3 => intro w hSw; obtain ⟨h0, h1, h2, h3, h4, h5⟩ := hSw; go_simp; rfl
  simp only [Act.put, List.setIfInBounds_toArray, List.set_cons_zero, List.set_cons_succ]
  refine take_off (i := 4) (d := (some 17)) rfl rfl (by kernel_rfl) (by kernel_rfl) (by kernel_rfl) (fun c a w h => h) (by rfl) (by assumption) ?_
  simp only [Act.put, List.setIfInBounds_toArray, List.set_cons_zero, List.set_cons_succ]
  refine take_off (i := 5) (d := (some 18)) rfl rfl (by kernel_rfl) (by kernel_rfl) (by kernel_rfl) (fun c a w h => h) (by rfl) (by assumption) ?_
  simp only [Act.put, List.setIfInBounds_toArray, List.set_cons_zero, List.set_cons_succ]
  refine take_off (i := 6) (d := (some 19)) rfl rfl (by kernel_rfl) (by kernel_rfl) (by kernel_rfl) (fun c a w h => h) (by rfl) (by assumption) ?_
  simp only [Act.put, List.setIfInBounds_toArray, List.set_cons_zero, List.set_cons_succ]
  refine take_on (i := 7) (d := (some 20)) (v := ?v7) rfl rfl (by kernel_rfl) (by kernel_rfl) (by kernel_rfl) (fun c a w h => h) (by rfl) ?h7 (by assumption) ?r7
  case h7 => intro w hSw; obtain ⟨h0, h1, h2, h3, h4, h5⟩ := hSw; go_simp; rfl
  simp only [Act.put, List.setIfInBounds_toArray, List.set_cons_zero, List.set_cons_succ]
  refine take_on (i := 8) (d := (some 21)) (v := ?v8) rfl rfl (by kernel_rfl) (by kernel_rfl) (by kernel_rfl) (fun c a w h => h) (by rfl) ?h8 (by assumption) ?r8
  case h8 => intro w hSw; obtain ⟨h0, h1, h2, h3, h4, h5⟩ := hSw; go_simp; rfl
  simp only [Act.put, List.setIfInBounds_toArray, List.set_cons_zero, List.set_cons_succ]
  refine take_off (i := 9) (d := (some 22)) rfl rfl (by kernel_rfl) (by kernel_rfl) (by kernel_rfl) (fun c a w h => h) (by rfl) (by assumption) ?_
  simp only [Act.put, List.setIfInBounds_toArray, List.set_cons_zero, List.set_cons_succ]
  refine take_off (i := 10) (d := (some 23)) rfl rfl (by kernel_rfl) (by kernel_rfl) (by kernel_rfl) (fun c a w h => h) (by rfl) (by assumption) ?_
  simp only [Act.put, List.setIfInBounds_toArray, List.set_cons_zero, List.set_cons_succ]
  refine take_off (i := 11) (d := (some 24)) rfl rfl (by kernel_rfl) (by kernel_rfl) (by kernel_rfl) (fun c a w h => h) (by rfl) (by assumption) ?_
  simp only [Act.put, List.setIfInBounds_toArray, List.set_cons_zero, List.set_cons_succ]
  refine take_on (i := 12) (d := (some 25)) (v := ?v12) rfl rfl (by kernel_rfl) (by kernel_rfl) (by kernel_rfl) (fun c a w h => h) (by rfl) ?h12 (by assumption) ?r12
  case h12 => intro w hSw; obtain ⟨h0, h1, h2, h3, h4, h5⟩ := hSw; go_simp; rfl
  simp only [Act.put, List.setIfInBounds_toArray, List.set_cons_zero, List.set_cons_succ]
  refine take_on (i := 13) (d := (some 26)) (v := ?v13) rfl rfl (by kernel_rfl) (by kernel_rfl) (by kernel_rfl) (fun c a w h => h) (by rfl) ?h13 (by assumption) ?r13
  case h13 => intro w hSw; obtain ⟨h0, h1, h2, h3, h4, h5⟩ := hSw; go_simp; rfl
  simp only [Act.put, List.setIfInBounds_toArray, List.set_cons_zero, List.set_cons_succ]
  refine take_off (i := 14) (d := (some 27)) rfl rfl (by kernel_rfl) (by kernel_rfl) (by kernel_rfl) (fun c a w h => h) (by rfl) (by assumption) ?_
  simp only [Act.put, List.setIfInBounds_toArray, List.set_cons_zero, List.set_cons_succ]
  refine take_off (i := 15) (d := (some 28)) rfl rfl (by kernel_rfl) (by kernel_rfl) (by kernel_rfl) (fun c a w h => h) (by rfl) (by assumption) ?_
  simp only [Act.put, List.setIfInBounds_toArray, List.set_cons_zero, List.set_cons_succ]
  refine take_off (i := 16) (d := (some 29)) rfl rfl (by kernel_rfl) (by kernel_rfl) (by kernel_rfl) (fun c a w h => h) (by rfl) (by assumption) ?_
  simp only [Act.put, List.setIfInBounds_toArray, List.set_cons_zero, List.set_cons_succ]
  refine take_off (i := 17) (d := (some 30)) rfl rfl (by kernel_rfl) (by kernel_rfl) (by kernel_rfl) (fun c a w h => h) (by rfl) (by assumption) ?_
  simp only [Act.put, List.setIfInBounds_toArray, List.set_cons_zero, List.set_cons_succ]
  refine take_off (i := 18) (d := (some 31)) rfl rfl (by kernel_rfl) (by kernel_rfl) (by kernel_rfl) (fun c a w h => h) (by rfl) (by assumption) ?_
  simp only [Act.put, List.setIfInBounds_toArray, List.set_cons_zero, List.set_cons_succ]
  refine take_off (i := 19) (d := (some 32)) rfl rfl (by kernel_rfl) (by kernel_rfl) (by kernel_rfl) (fun c a w h => h) (by rfl) (by assumption) ?_
  simp only [Act.put, List.setIfInBounds_toArray, List.set_cons_zero, List.set_cons_succ]
  refine take_on (i := 20) (d := (some 33)) (v := ?v20) rfl rfl (by kernel_rfl) (by kernel_rfl) (by kernel_rfl) (fun c a w h => h) (by rfl) ?h20 (by assumption) ?r20
  case h20 => intro w hSw; obtain ⟨h0, h1, h2, h3, h4, h5⟩ := hSw; go_simp; rfl
  simp only [Act.put, List.setIfInBounds_toArray, List.set_cons_zero, List.set_cons_succ]
  refine take_on (i := 21) (d := (some 34)) (v := ?v21) rfl rfl (by kernel_rfl) (by kernel_rfl) (by kernel_rfl) (fun c a w h => h) (by rfl) ?h21 (by assumption) ?r21
  case h21 => intro w hSw; obtain ⟨h0, h1, h2, h3, h4, h5⟩ := hSw; go_simp; rfl
  simp only [Act.put, List.setIfInBounds_toArray, List.set_cons_zero, List.set_cons_succ]
  refine take_off (i := 22) (d := (some 35)) rfl rfl (by kernel_rfl) (by kernel_rfl) (by kernel_rfl) (fun c a w h => h) (by rfl) (by assumption) ?_
  simp only [Act.put, List.setIfInBounds_toArray, List.set_cons_zero, List.set_cons_succ]
  refine take_off (i := 23) (d := (some 36)) rfl rfl (by kernel_rfl) (by kernel_rfl) (by kernel_rfl) (fun c a w h => h) (by rfl) (by assumption) ?_
  simp only [Act.put, List.setIfInBounds_toArray, List.set_cons_zero, List.set_cons_succ]
  refine take_on (i := 24) (d := (some 37)) (v := ?v24) rfl rfl (by kernel_rfl) (by kernel_rfl) (by kernel_rfl) (fun c a w h => h) (by rfl) ?h24 (by assumption) ?r24
  case h24 => intro w hSw; obtain ⟨h0, h1, h2, h3, h4, h5⟩ := hSw; go_simp; rfl
  simp only [Act.put, List.setIfInBounds_toArray, List.set_cons_zero, List.set_cons_succ]
  refine take_on (i := 25) (d := (some 38)) (v := ?v25) rfl rfl (by kernel_rfl) (by kernel_rfl) (by kernel_rfl) (fun c a w h => h) (by rfl) ?h25 (by assumption) ?r25
  case h25 => intro w hSw; obtain ⟨h0, h1, h2, h3, h4, h5⟩ := hSw; go_simp; rfl
  simp only [Act.put, List.setIfInBounds_toArray, List.set_cons_zero, List.set_cons_succ]
  refine take_off (i := 26) (d := (some 39)) rfl rfl (by kernel_rfl) (by kernel_rfl) (by kernel_rfl) (fun c a w h => h) (by rfl) (by assumption) ?_
  simp only [Act.put, List.setIfInBounds_toArray, List.set_cons_zero, List.set_cons_succ]
  refine take_off (i := 27) (d := (some 40)) rfl rfl (by kernel_rfl) (by kernel_rfl) (by kernel_rfl) (fun c a w h => h) (by rfl) (by assumption) ?_
  simp only [Act.put, List.setIfInBounds_toArray, List.set_cons_zero, List.set_cons_succ]
  refine take_on (i := 28) (d := (some 41)) (v := ?v28) rfl rfl (by kernel_rfl) (by kernel_rfl) (by kernel_rfl) (fun c a w h => h) (by rfl) ?h28 (by assumption) ?r28
  case h28 => intro w hSw; obtain ⟨h0, h1, h2, h3, h4, h5⟩ := hSw; go_simp; rfl
  simp only [Act.put, List.setIfInBounds_toArray, List.set_cons_zero, List.set_cons_succ]
  refine take_on (i := 29) (d := (some 42)) (v := ?v29) rfl rfl (by kernel_rfl) (by kernel_rfl) (by kernel_rfl) (fun c a w h => h) (by rfl) ?h29 (by assumption) ?r29
  case h29 => intro w hSw; obtain ⟨h0, h1, h2, h3, h4, h5⟩ := hSw; go_simp; rfl
  simp only [Act.put, List.setIfInBounds_toArray, List.set_cons_zero, List.set_cons_succ]
  refine take_off (i := 30) (d := (some 43)) rfl rfl (by kernel_rfl) (by kernel_rfl) (by kernel_rfl) (fun c a w h => h) (by rfl) (by assumption) ?_
  simp only [Act.put, List.setIfInBounds_toArray, List.set_cons_zero, List.set_cons_succ]
  refine take_off (i := 31) (d := (some 44)) rfl rfl (by kernel_rfl) (by kernel_rfl) (by kernel_rfl) (fun c a w h => h) (by rfl) (by assumption) ?_
  simp only [Act.put, List.setIfInBounds_toArray, List.set_cons_zero, List.set_cons_succ]
  refine take_off (i := 32) (d := (some 45)) rfl rfl (by kernel_rfl) (by kernel_rfl) (by kernel_rfl) (fun c a w h => h) (by rfl) (by assumption) ?_
  simp only [Act.put, List.setIfInBounds_toArray, List.set_cons_zero, List.set_cons_succ]
  refine take_off (i := 33) (d := (some 46)) rfl rfl (by kernel_rfl) (by kernel_rfl) (by kernel_rfl) (fun c a w h => h) (by rfl) (by assumption) ?_
  simp only [Act.put, List.setIfInBounds_toArray, List.set_cons_zero, List.set_cons_succ]
  refine take_on (i := 34) (d := (some 47)) (v := ?v34) rfl rfl (by kernel_rfl) (by kernel_rfl) (by kernel_rfl) (fun c a w h => h) (by rfl) ?h34 (by assumption) ?r34
  case h34 => intro w hSw; obtain ⟨h0, h1, h2, h3, h4, h5⟩ := hSw; go_simp; rfl
  simp only [Act.put, List.setIfInBounds_toArray, List.set_cons_zero, List.set_cons_succ]
  clear hHeld
  refine wpAnyH_done (by kernel_rfl) ?_ _
  go_wp2_with fail
  refine (awake8_c _).mono ?_
  rintro e u9 ⟨rfl, b9⟩
  have P9 := Lib.hid (E.out.below.trans (b9.mono E.out.below.size))
  clear b9
  go_wp2
  go_ret
  exact ⟨rfl, P9.out⟩
set_option maxHeartbeats 8000000 in
theorem LucasOnly_1 (s1 s2 s3 : Bool) (A1 A2 A3 : Option Addr) (n1 c1 n2 c2 n3 c3 : Nat) (xs1 xs2 xs3 : List Nat) (w : World) (h1 : Rd w A1 n1 xs1) (h2 : Rd w A2 n2 xs2) (h3 : Rd w A3 n3 xs3) (hv1 : validB s1 xs1 = true) (hv2 : validB s2 xs2 = false) :
    Calls Try.prog 8 #[.agg #[.bool s1, .slice A1 n1 c1], .agg #[.bool s2, .slice A2 n2 c2], .agg #[.bool s3, .slice A3 n3 c3]] w (IsB true w) := by
  have E := Lib.hid (Rb3.start (s1 := s1) (s2 := s2) (s3 := s3) (c1 := c1) (c2 := c2) (c3 := c3) h1 h2 h3)
  have HV1 := Lib.hid hv1
  have HV2 := Lib.hid hv2
  clear h1 h2 h3 hv1 hv2
  go_enter Try.func8, Try.ntmps8
  go_upto_region 1 with (fail)
  generalize ((w.alloc (.cells #[.bool s1, .slice A1 n1 c1] 24)).alloc (.cells #[.bool s2, .slice A2 n2 c2] 24)).alloc (.cells #[.bool s3, .slice A3 n3 c3] 24) = W0 at E ⊢
  refine wp_region_held_drew (S := (fun w' => w'.cell? ⟨w.heap.size, 0, none⟩ = some (.bool s1) ∧ w'.cell? ⟨w.heap.size, 1, none⟩ = some (.slice A1 n1 c1) ∧ w'.cell? ⟨w.heap.size + 1, 0, none⟩ = some (.bool s2) ∧ w'.cell? ⟨w.heap.size + 1, 1, none⟩ = some (.slice A2 n2 c2) ∧ w'.cell? ⟨w.heap.size + 1 + 1, 0, none⟩ = some (.bool s3) ∧ w'.cell? ⟨w.heap.size + 1 + 1, 1, none⟩ = some (.slice A3 n3 c3))) (by kernel_rfl) ⟨cell_dr E.out.b1.c0, cell_dr E.out.b1.c1, cell_dr E.out.b2.c0, cell_dr E.out.b2.c1, cell_dr E.out.b3.c0, cell_dr E.out.b3.c1⟩ (fun hHeld => ?_)
  replace E := Lib.hid (E.out.next (Below.refl W0.heap.size W0).drew)
  generalize W0.drew = D0 at E hHeld ⊢
  refine take_on (i := 0) (d := (some 13)) (v := ?v35) rfl rfl (by kernel_rfl) (by kernel_rfl) (by kernel_rfl) (fun c a w h => h) (by rfl) ?h35 (by assumption) ?r35
  case h35 => intro w hSw; obtain ⟨h0, h1, h2, h3, h4, h5⟩ := hSw; go_simp; rfl
  simp only [Act.put, List.setIfInBounds_toArray, List.set_cons_zero, List.set_cons_succ]
  refine wpAnyH_ready (rs := [1]) (by kernel_rfl) (by simp) ?_
  refine AllReadyH.cons rfl (fun K hK => ?_) AllReadyH.nil
  go_simp
  refine (refValid_c s1 A1 n1 c1 xs1 _ E.out.b1.rd).mono ?_
  rw [HV1.out]
  rintro e u1 ⟨rfl, hb⟩
  replace E := Lib.hid (E.out.next hb)
  clear hb hHeld
  refine hK.out _ _ ⟨E.out.b1.c0, E.out.b1.c1, E.out.b2.c0, E.out.b2.c1, E.out.b3.c0, E.out.b3.c1⟩ (fun hHeld => ?_)
  clear hK K
  refine take_on (i := 2) (d := (some 15)) (v := ?v36) rfl rfl (by kernel_rfl) (by kernel_rfl) (by kernel_rfl) (fun c a w h => h) (by rfl) ?h36 (by assumption) ?r36
  case h36 => intro w hSw; obtain ⟨h0, h1, h2, h3, h4, h5⟩ := hSw; go_simp; rfl
  simp only [Act.put, List.setIfInBounds_toArray, List.set_cons_zero, List.set_cons_succ]
  refine take_on (i := 3) (d := (some 16)) (v := ?v37) rfl rfl (by kernel_rfl) (by kernel_rfl) (by kernel_rfl) (fun c a w h => h) (by rfl) ?h37 (by assumption) ?r37
  case h37 => intro w hSw; obtain ⟨h0, h1, h2, h3, h4, h5⟩ := hSw; go_simp; rfl
  simp only [Act.put, List.setIfInBounds_toArray, List.set_cons_zero, List.set_cons_succ]
  refine take_on (i := 4) (d := (some 17)) (v := ?v38) rfl rfl (by kernel_rfl) (by kernel_rfl) (by kernel_rfl) (fun c a w h => h) (by rfl) ?h38 (by assumption) ?r38
  case h38 => intro w hSw; obtain ⟨h0, h1, h2, h3, h4, h5⟩ := hSw; go_simp; rfl
  simp only [Act.put, List.setIfInBounds_toArray, List.set_cons_zero, List.set_cons_succ]
  refine wpAnyH_ready (rs := [5]) (by kernel_rfl) (by simp) ?_
  refine AllReadyH.cons rfl (fun K hK => ?_) AllReadyH.nil
  go_simp
  refine (refValid_c s2 A2 n2 c2 xs2 _ E.out.b2.rd).mono ?_
  rw [HV2.out]
  rintro e u2 ⟨rfl, hb⟩
  replace E := Lib.hid (E.out.next hb)
  clear hb hHeld
  refine hK.out _ _ ⟨E.out.b1.c0, E.out.b1.c1, E.out.b2.c0, E.out.b2.c1, E.out.b3.c0, E.out.b3.c1⟩ (fun hHeld => ?_)
  clear hK K
  refine take_on (i := 6) (d := (some 19)) (v := ?v39) rfl rfl (by kernel_rfl) (by kernel_rfl) (by kernel_rfl) (fun c a w h => h) (by rfl) ?h39 (by assumption) ?r39
  case h39 => intro w hSw; obtain ⟨h0, h1, h2, h3, h4, h5⟩ := hSw; go_simp; rfl
  simp only [Act.put, List.setIfInBounds_toArray, List.set_cons_zero, List.set_cons_succ]
  refine take_on (i := 7) (d := (some 20)) (v := ?v40) rfl rfl (by kernel_rfl) (by kernel_rfl) (by kernel_rfl) (fun c a w h => h) (by rfl) ?h40 (by assumption) ?r40
  case h40 => intro w hSw; obtain ⟨h0, h1, h2, h3, h4, h5⟩ := hSw; go_simp; rfl
  simp only [Act.put, List.setIfInBounds_toArray, List.set_cons_zero, List.set_cons_succ]
  refine take_on (i := 8) (d := (some 21)) (v := ?v41) rfl rfl (by kernel_rfl) (by kernel_rfl) (by kernel_rfl) (fun c a w h => h) (by rfl) ?h41 (by assumption) ?r41
  case h41 => intro w hSw; obtain ⟨h0, h1, h2, h3, h4, h5⟩ := hSw; go_simp; rfl
  simp only [Act.put, List.setIfInBounds_toArray, List.set_cons_zero, List.set_cons_succ]
  refine take_off (i := 9) (d := (some 22)) rfl rfl (by kernel_rfl) (by kernel_rfl) (by kernel_rfl) (fun c a w h => h) (by rfl) (by assumption) ?_
  simp only [Act.put, List.setIfInBounds_toArray, List.set_cons_zero, List.set_cons_succ]
  refine take_off (i := 10) (d := (some 23)) rfl rfl (by kernel_rfl) (by kernel_rfl) (by kernel_rfl) (fun c a w h => h) (by rfl) (by assumption) ?_
  simp only [Act.put, List.setIfInBounds_toArray, List.set_cons_zero, List.set_cons_succ]
  refine take_off (i := 11) (d := (some 24)) rfl rfl (by kernel_rfl) (by kernel_rfl) (by kernel_rfl) (fun c a w h => h) (by rfl) (by assumption) ?_
  simp only [Act.put, List.setIfInBounds_toArray, List.set_cons_zero, List.set_cons_succ]
  refine take_on (i := 12) (d := (some 25)) (v := ?v45) rfl rfl (by kernel_rfl) (by kernel_rfl) (by kernel_rfl) (fun c a w h => h) (by rfl) ?h45 (by assumption) ?r45
  case h45 => intro w hSw; obtain ⟨h0, h1, h2, h3, h4, h5⟩ := hSw; go_simp; rfl
  simp only [Act.put, List.setIfInBounds_toArray, List.set_cons_zero, List.set_cons_succ]
  refine take_on (i := 13) (d := (some 26)) (v := ?v46) rfl rfl (by kernel_rfl) (by kernel_rfl) (by kernel_rfl) (fun c a w h => h) (by rfl) ?h46 (by assumption) ?r46
  case h46 => intro w hSw; obtain ⟨h0, h1, h2, h3, h4, h5⟩ := hSw; go_simp; rfl
  simp only [Act.put, List.setIfInBounds_toArray, List.set_cons_zero, List.set_cons_succ]
  refine take_off (i := 14) (d := (some 27)) rfl rfl (by kernel_rfl) (by kernel_rfl) (by kernel_rfl) (fun c a w h => h) (by rfl) (by assumption) ?_
  simp only [Act.put, List.setIfInBounds_toArray, List.set_cons_zero, List.set_cons_succ]
  refine take_off (i := 15) (d := (some 28)) rfl rfl (by kernel_rfl) (by kernel_rfl) (by kernel_rfl) (fun c a w h => h) (by rfl) (by assumption) ?_
  simp only [Act.put, List.setIfInBounds_toArray, List.set_cons_zero, List.set_cons_succ]
  refine take_off (i := 16) (d := (some 29)) rfl rfl (by kernel_rfl) (by kernel_rfl) (by kernel_rfl) (fun c a w h => h) (by rfl) (by assumption) ?_
  simp only [Act.put, List.setIfInBounds_toArray, List.set_cons_zero, List.set_cons_succ]
  refine take_off (i := 17) (d := (some 30)) rfl rfl (by kernel_rfl) (by kernel_rfl) (by kernel_rfl) (fun c a w h => h) (by rfl) (by assumption) ?_
  simp only [Act.put, List.setIfInBounds_toArray, List.set_cons_zero, List.set_cons_succ]
  refine take_off (i := 18) (d := (some 31)) rfl rfl (by kernel_rfl) (by kernel_rfl) (by kernel_rfl) (fun c a w h => h) (by rfl) (by assumption) ?_
  simp only [Act.put, List.setIfInBounds_toArray, List.set_cons_zero, List.set_cons_succ]
  refine take_off (i := 19) (d := (some 32)) rfl rfl (by kernel_rfl) (by kernel_rfl) (by kernel_rfl) (fun c a w h => h) (by rfl) (by assumption) ?_
  simp only [Act.put, List.setIfInBounds_toArray, List.set_cons_zero, List.set_cons_succ]
  refine take_on (i := 20) (d := (some 33)) (v := ?v53) rfl rfl (by kernel_rfl) (by kernel_rfl) (by kernel_rfl) (fun c a w h => h) (by rfl) ?h53 (by assumption) ?r53
  case h53 => intro w hSw; obtain ⟨h0, h1, h2, h3, h4, h5⟩ := hSw; go_simp; rfl
  simp only [Act.put, List.setIfInBounds_toArray, List.set_cons_zero, List.set_cons_succ]
  refine take_on (i := 21) (d := (some 34)) (v := ?v54) rfl rfl (by kernel_rfl) (by kernel_rfl) (by kernel_rfl) (fun c a w h => h) (by rfl) ?h54 (by assumption) ?r54
  case h54 => intro w hSw; obtain ⟨h0, h1, h2, h3, h4, h5⟩ := hSw; go_simp; rfl
  simp only [Act.put, List.setIfInBounds_toArray, List.set_cons_zero, List.set_cons_succ]
  refine take_off (i := 22) (d := (some 35)) rfl rfl (by kernel_rfl) (by kernel_rfl) (by kernel_rfl) (fun c a w h => h) (by rfl) (by assumption) ?_
  simp only [Act.put, List.setIfInBounds_toArray, List.set_cons_zero, List.set_cons_succ]
  refine take_off (i := 23) (d := (some 36)) rfl rfl (by kernel_rfl) (by kernel_rfl) (by kernel_rfl) (fun c a w h => h) (by rfl) (by assumption) ?_
  simp only [Act.put, List.setIfInBounds_toArray, List.set_cons_zero, List.set_cons_succ]
  refine take_on (i := 24) (d := (some 37)) (v := ?v57) rfl rfl (by kernel_rfl) (by kernel_rfl) (by kernel_rfl) (fun c a w h => h) (by rfl) ?h57 (by assumption) ?r57
  case h57 => intro w hSw; obtain ⟨h0, h1, h2, h3, h4, h5⟩ := hSw; go_simp; rfl
  simp only [Act.put, List.setIfInBounds_toArray, List.set_cons_zero, List.set_cons_succ]
  refine take_on (i := 25) (d := (some 38)) (v := ?v58) rfl rfl (by kernel_rfl) (by kernel_rfl) (by kernel_rfl) (fun c a w h => h) (by rfl) ?h58 (by assumption) ?r58
  case h58 => intro w hSw; obtain ⟨h0, h1, h2, h3, h4, h5⟩ := hSw; go_simp; rfl
  simp only [Act.put, List.setIfInBounds_toArray, List.set_cons_zero, List.set_cons_succ]
  refine take_off (i := 26) (d := (some 39)) rfl rfl (by kernel_rfl) (by kernel_rfl) (by kernel_rfl) (fun c a w h => h) (by rfl) (by assumption) ?_
  simp only [Act.put, List.setIfInBounds_toArray, List.set_cons_zero, List.set_cons_succ]
  refine take_off (i := 27) (d := (some 40)) rfl rfl (by kernel_rfl) (by kernel_rfl) (by kernel_rfl) (fun c a w h => h) (by rfl) (by assumption) ?_
  simp only [Act.put, List.setIfInBounds_toArray, List.set_cons_zero, List.set_cons_succ]
  refine take_on (i := 28) (d := (some 41)) (v := ?v61) rfl rfl (by kernel_rfl) (by kernel_rfl) (by kernel_rfl) (fun c a w h => h) (by rfl) ?h61 (by assumption) ?r61
  case h61 => intro w hSw; obtain ⟨h0, h1, h2, h3, h4, h5⟩ := hSw; go_simp; rfl
  simp only [Act.put, List.setIfInBounds_toArray, List.set_cons_zero, List.set_cons_succ]
  refine take_on (i := 29) (d := (some 42)) (v := ?v62) rfl rfl (by kernel_rfl) (by kernel_rfl) (by kernel_rfl) (fun c a w h => h) (by rfl) ?h62 (by assumption) ?r62
  case h62 => intro w hSw; obtain ⟨h0, h1, h2, h3, h4, h5⟩ := hSw; go_simp; rfl
  simp only [Act.put, List.setIfInBounds_toArray, List.set_cons_zero, List.set_cons_succ]
  refine take_off (i := 30) (d := (some 43)) rfl rfl (by kernel_rfl) (by kernel_rfl) (by kernel_rfl) (fun c a w h => h) (by rfl) (by assumption) ?_
  simp only [Act.put, List.setIfInBounds_toArray, List.set_cons_zero, List.set_cons_succ]
  refine take_off (i := 31) (d := (some 44)) rfl rfl (by kernel_rfl) (by kernel_rfl) (by kernel_rfl) (fun c a w h => h) (by rfl) (by assumption) ?_
  simp only [Act.put, List.setIfInBounds_toArray, List.set_cons_zero, List.set_cons_succ]
  refine take_off (i := 32) (d := (some 45)) rfl rfl (by kernel_rfl) (by kernel_rfl) (by kernel_rfl) (fun c a w h => h) (by rfl) (by assumption) ?_
  simp only [Act.put, List.setIfInBounds_toArray, List.set_cons_zero, List.set_cons_succ]
  refine take_off (i := 33) (d := (some 46)) rfl rfl (by kernel_rfl) (by kernel_rfl) (by kernel_rfl) (fun c a w h => h) (by rfl) (by assumption) ?_
  simp only [Act.put, List.setIfInBounds_toArray, List.set_cons_zero, List.set_cons_succ]
  refine take_on (i := 34) (d := (some 47)) (v := ?v67) rfl rfl (by kernel_rfl) (by kernel_rfl) (by kernel_rfl) (fun c a w h => h) (by rfl) ?h67 (by assumption) ?r67
  case h67 => intro w hSw; obtain ⟨h0, h1, h2, h3, h4, h5⟩ := hSw; go_simp; rfl
  simp only [Act.put, List.setIfInBounds_toArray, List.set_cons_zero, List.set_cons_succ]
  clear hHeld
  refine wpAnyH_done (by kernel_rfl) ?_ _
  go_wp2_with fail
  refine (awake8_c _).mono ?_
  rintro e u9 ⟨rfl, b9⟩
  have P9 := Lib.hid (E.out.below.trans (b9.mono E.out.below.size))
  clear b9
  go_wp2
  go_ret
  exact ⟨rfl, P9.out⟩
set_option maxHeartbeats 8000000 in
theorem LucasOnly_2 (s1 s2 s3 : Bool) (A1 A2 A3 : Option Addr) (n1 c1 n2 c2 n3 c3 : Nat) (xs1 xs2 xs3 : List Nat) (w : World) (h1 : Rd w A1 n1 xs1) (h2 : Rd w A2 n2 xs2) (h3 : Rd w A3 n3 xs3) (hv1 : validB s1 xs1 = true) (hv2 : validB s2 xs2 = true) (hv3 : validB s3 xs3 = false) :
    Calls Try.prog 8 #[.agg #[.bool s1, .slice A1 n1 c1], .agg #[.bool s2, .slice A2 n2 c2], .agg #[.bool s3, .slice A3 n3 c3]] w (IsB true w) := by
  have E := Lib.hid (Rb3.start (s1 := s1) (s2 := s2) (s3 := s3) (c1 := c1) (c2 := c2) (c3 := c3) h1 h2 h3)
  have HV1 := Lib.hid hv1
  have HV2 := Lib.hid hv2
  have HV3 := Lib.hid hv3
  clear h1 h2 h3 hv1 hv2 hv3
  go_enter Try.func8, Try.ntmps8
  go_upto_region 1 with (fail)
  generalize ((w.alloc (.cells #[.bool s1, .slice A1 n1 c1] 24)).alloc (.cells #[.bool s2, .slice A2 n2 c2] 24)).alloc (.cells #[.bool s3, .slice A3 n3 c3] 24) = W0 at E ⊢
  refine wp_region_held_drew (S := (fun w' => w'.cell? ⟨w.heap.size, 0, none⟩ = some (.bool s1) ∧ w'.cell? ⟨w.heap.size, 1, none⟩ = some (.slice A1 n1 c1) ∧ w'.cell? ⟨w.heap.size + 1, 0, none⟩ = some (.bool s2) ∧ w'.cell? ⟨w.heap.size + 1, 1, none⟩ = some (.slice A2 n2 c2) ∧ w'.cell? ⟨w.heap.size + 1 + 1, 0, none⟩ = some (.bool s3) ∧ w'.cell? ⟨w.heap.size + 1 + 1, 1, none⟩ = some (.slice A3 n3 c3))) (by kernel_rfl) ⟨cell_dr E.out.b1.c0, cell_dr E.out.b1.c1, cell_dr E.out.b2.c0, cell_dr E.out.b2.c1, cell_dr E.out.b3.c0, cell_dr E.out.b3.c1⟩ (fun hHeld => ?_)
  replace E := Lib.hid (E.out.next (Below.refl W0.heap.size W0).drew)
  generalize W0.drew = D0 at E hHeld ⊢
  refine take_on (i := 0) (d := (some 13)) (v := ?v68) rfl rfl (by kernel_rfl) (by kernel_rfl) (by kernel_rfl) (fun c a w h => h) (by rfl) ?h68 (by assumption) ?r68
  case h68 => intro w hSw; obtain ⟨h0, h1, h2, h3, h4, h5⟩ := hSw; go_simp; rfl
  simp only [Act.put, List.setIfInBounds_toArray, List.set_cons_zero, List.set_cons_succ]
  refine wpAnyH_ready (rs := [1]) (by kernel_rfl) (by simp) ?_
  refine AllReadyH.cons rfl (fun K hK => ?_) AllReadyH.nil
  go_simp
  refine (refValid_c s1 A1 n1 c1 xs1 _ E.out.b1.rd).mono ?_
  rw [HV1.out]
  rintro e u1 ⟨rfl, hb⟩
  replace E := Lib.hid (E.out.next hb)
  clear hb hHeld
  refine hK.out _ _ ⟨E.out.b1.c0, E.out.b1.c1, E.out.b2.c0, E.out.b2.c1, E.out.b3.c0, E.out.b3.c1⟩ (fun hHeld => ?_)
  clear hK K
  refine take_on (i := 2) (d := (some 15)) (v := ?v69) rfl rfl (by kernel_rfl) (by kernel_rfl) (by kernel_rfl) (fun c a w h => h) (by rfl) ?h69 (by assumption) ?r69
  case h69 => intro w hSw; obtain ⟨h0, h1, h2, h3, h4, h5⟩ := hSw; go_simp; rfl
  simp only [Act.put, List.setIfInBounds_toArray, List.set_cons_zero, List.set_cons_succ]
  refine take_on (i := 3) (d := (some 16)) (v := ?v70) rfl rfl (by kernel_rfl) (by kernel_rfl) (by kernel_rfl) (fun c a w h => h) (by rfl) ?h70 (by assumption) ?r70
  case h70 => intro w hSw; obtain ⟨h0, h1, h2, h3, h4, h5⟩ := hSw; go_simp; rfl
  simp only [Act.put, List.setIfInBounds_toArray, List.set_cons_zero, List.set_cons_succ]
  refine take_on (i := 4) (d := (some 17)) (v := ?v71) rfl rfl (by kernel_rfl) (by kernel_rfl) (by kernel_rfl) (fun c a w h => h) (by rfl) ?h71 (by assumption) ?r71
  case h71 => intro w hSw; obtain ⟨h0, h1, h2, h3, h4, h5⟩ := hSw; go_simp; rfl
  simp only [Act.put, List.setIfInBounds_toArray, List.set_cons_zero, List.set_cons_succ]
  refine wpAnyH_ready (rs := [5]) (by kernel_rfl) (by simp) ?_
  refine AllReadyH.cons rfl (fun K hK => ?_) AllReadyH.nil
  go_simp
  refine (refValid_c s2 A2 n2 c2 xs2 _ E.out.b2.rd).mono ?_
  rw [HV2.out]
  rintro e u2 ⟨rfl, hb⟩
  replace E := Lib.hid (E.out.next hb)
  clear hb hHeld
  refine hK.out _ _ ⟨E.out.b1.c0, E.out.b1.c1, E.out.b2.c0, E.out.b2.c1, E.out.b3.c0, E.out.b3.c1⟩ (fun hHeld => ?_)
  clear hK K
  refine take_on (i := 6) (d := (some 19)) (v := ?v72) rfl rfl (by kernel_rfl) (by kernel_rfl) (by kernel_rfl) (fun c a w h => h) (by rfl) ?h72 (by assumption) ?r72
  case h72 => intro w hSw; obtain ⟨h0, h1, h2, h3, h4, h5⟩ := hSw; go_simp; rfl
  simp only [Act.put, List.setIfInBounds_toArray, List.set_cons_zero, List.set_cons_succ]
  refine take_on (i := 7) (d := (some 20)) (v := ?v73) rfl rfl (by kernel_rfl) (by kernel_rfl) (by kernel_rfl) (fun c a w h => h) (by rfl) ?h73 (by assumption) ?r73
  case h73 => intro w hSw; obtain ⟨h0, h1, h2, h3, h4, h5⟩ := hSw; go_simp; rfl
  simp only [Act.put, List.setIfInBounds_toArray, List.set_cons_zero, List.set_cons_succ]
  refine take_on (i := 8) (d := (some 21)) (v := ?v74) rfl rfl (by kernel_rfl) (by kernel_rfl) (by kernel_rfl) (fun c a w h => h) (by rfl) ?h74 (by assumption) ?r74
  case h74 => intro w hSw; obtain ⟨h0, h1, h2, h3, h4, h5⟩ := hSw; go_simp; rfl
  simp only [Act.put, List.setIfInBounds_toArray, List.set_cons_zero, List.set_cons_succ]
  refine take_on (i := 9) (d := (some 22)) (v := ?v75) rfl rfl (by kernel_rfl) (by kernel_rfl) (by kernel_rfl) (fun c a w h => h) (by rfl) ?h75 (by assumption) ?r75
  case h75 => intro w hSw; obtain ⟨h0, h1, h2, h3, h4, h5⟩ := hSw; go_simp; rfl
  simp only [Act.put, List.setIfInBounds_toArray, List.set_cons_zero, List.set_cons_succ]
  refine wpAnyH_ready (rs := [10]) (by kernel_rfl) (by simp) ?_
  refine AllReadyH.cons rfl (fun K hK => ?_) AllReadyH.nil
  go_simp
  refine (refValid_c s3 A3 n3 c3 xs3 _ E.out.b3.rd).mono ?_
  rw [HV3.out]
  rintro e u3 ⟨rfl, hb⟩
  replace E := Lib.hid (E.out.next hb)
  clear hb hHeld
  refine hK.out _ _ ⟨E.out.b1.c0, E.out.b1.c1, E.out.b2.c0, E.out.b2.c1, E.out.b3.c0, E.out.b3.c1⟩ (fun hHeld => ?_)
  clear hK K
  refine take_on (i := 11) (d := (some 24)) (v := ?v76) rfl rfl (by kernel_rfl) (by kernel_rfl) (by kernel_rfl) (fun c a w h => h) (by rfl) ?h76 (by assumption) ?r76
  case h76 => intro w hSw; obtain ⟨h0, h1, h2, h3, h4, h5⟩ := hSw; go_simp; rfl
  simp only [Act.put, List.setIfInBounds_toArray, List.set_cons_zero, List.set_cons_succ]
  refine take_on (i := 12) (d := (some 25)) (v := ?v77) rfl rfl (by kernel_rfl) (by kernel_rfl) (by kernel_rfl) (fun c a w h => h) (by rfl) ?h77 (by assumption) ?r77
  case h77 => intro w hSw; obtain ⟨h0, h1, h2, h3, h4, h5⟩ := hSw; go_simp; rfl
  simp only [Act.put, List.setIfInBounds_toArray, List.set_cons_zero, List.set_cons_succ]
  refine take_on (i := 13) (d := (some 26)) (v := ?v78) rfl rfl (by kernel_rfl) (by kernel_rfl) (by kernel_rfl) (fun c a w h => h) (by rfl) ?h78 (by assumption) ?r78
  case h78 => intro w hSw; obtain ⟨h0, h1, h2, h3, h4, h5⟩ := hSw; go_simp; rfl
  simp only [Act.put, List.setIfInBounds_toArray, List.set_cons_zero, List.set_cons_succ]
  refine take_off (i := 14) (d := (some 27)) rfl rfl (by kernel_rfl) (by kernel_rfl) (by kernel_rfl) (fun c a w h => h) (by rfl) (by assumption) ?_
  simp only [Act.put, List.setIfInBounds_toArray, List.set_cons_zero, List.set_cons_succ]
  refine take_off (i := 15) (d := (some 28)) rfl rfl (by kernel_rfl) (by kernel_rfl) (by kernel_rfl) (fun c a w h => h) (by rfl) (by assumption) ?_
  simp only [Act.put, List.setIfInBounds_toArray, List.set_cons_zero, List.set_cons_succ]
  refine take_off (i := 16) (d := (some 29)) rfl rfl (by kernel_rfl) (by kernel_rfl) (by kernel_rfl) (fun c a w h => h) (by rfl) (by assumption) ?_
  simp only [Act.put, List.setIfInBounds_toArray, List.set_cons_zero, List.set_cons_succ]
  refine take_off (i := 17) (d := (some 30)) rfl rfl (by kernel_rfl) (by kernel_rfl) (by kernel_rfl) (fun c a w h => h) (by rfl) (by assumption) ?_
  simp only [Act.put, List.setIfInBounds_toArray, List.set_cons_zero, List.set_cons_succ]
  refine take_off (i := 18) (d := (some 31)) rfl rfl (by kernel_rfl) (by kernel_rfl) (by kernel_rfl) (fun c a w h => h) (by rfl) (by assumption) ?_
  simp only [Act.put, List.setIfInBounds_toArray, List.set_cons_zero, List.set_cons_succ]
  refine take_off (i := 19) (d := (some 32)) rfl rfl (by kernel_rfl) (by kernel_rfl) (by kernel_rfl) (fun c a w h => h) (by rfl) (by assumption) ?_
  simp only [Act.put, List.setIfInBounds_toArray, List.set_cons_zero, List.set_cons_succ]
  refine take_on (i := 20) (d := (some 33)) (v := ?v85) rfl rfl (by kernel_rfl) (by kernel_rfl) (by kernel_rfl) (fun c a w h => h) (by rfl) ?h85 (by assumption) ?r85
  case h85 => intro w hSw; obtain ⟨h0, h1, h2, h3, h4, h5⟩ := hSw; go_simp; rfl
  simp only [Act.put, List.setIfInBounds_toArray, List.set_cons_zero, List.set_cons_succ]
  refine take_on (i := 21) (d := (some 34)) (v := ?v86) rfl rfl (by kernel_rfl) (by kernel_rfl) (by kernel_rfl) (fun c a w h => h) (by rfl) ?h86 (by assumption) ?r86
  case h86 => intro w hSw; obtain ⟨h0, h1, h2, h3, h4, h5⟩ := hSw; go_simp; rfl
  simp only [Act.put, List.setIfInBounds_toArray, List.set_cons_zero, List.set_cons_succ]
  refine take_off (i := 22) (d := (some 35)) rfl rfl (by kernel_rfl) (by kernel_rfl) (by kernel_rfl) (fun c a w h => h) (by rfl) (by assumption) ?_
  simp only [Act.put, List.setIfInBounds_toArray, List.set_cons_zero, List.set_cons_succ]
  refine take_off (i := 23) (d := (some 36)) rfl rfl (by kernel_rfl) (by kernel_rfl) (by kernel_rfl) (fun c a w h => h) (by rfl) (by assumption) ?_
  simp only [Act.put, List.setIfInBounds_toArray, List.set_cons_zero, List.set_cons_succ]
  refine take_on (i := 24) (d := (some 37)) (v := ?v89) rfl rfl (by kernel_rfl) (by kernel_rfl) (by kernel_rfl) (fun c a w h => h) (by rfl) ?h89 (by assumption) ?r89
  case h89 => intro w hSw; obtain ⟨h0, h1, h2, h3, h4, h5⟩ := hSw; go_simp; rfl
  simp only [Act.put, List.setIfInBounds_toArray, List.set_cons_zero, List.set_cons_succ]
  refine take_on (i := 25) (d := (some 38)) (v := ?v90) rfl rfl (by kernel_rfl) (by kernel_rfl) (by kernel_rfl) (fun c a w h => h) (by rfl) ?h90 (by assumption) ?r90
  case h90 => intro w hSw; obtain ⟨h0, h1, h2, h3, h4, h5⟩ := hSw; go_simp; rfl
  simp only [Act.put, List.setIfInBounds_toArray, List.set_cons_zero, List.set_cons_succ]
  refine take_off (i := 26) (d := (some 39)) rfl rfl (by kernel_rfl) (by kernel_rfl) (by kernel_rfl) (fun c a w h => h) (by rfl) (by assumption) ?_
  simp only [Act.put, List.setIfInBounds_toArray, List.set_cons_zero, List.set_cons_succ]
  refine take_off (i := 27) (d := (some 40)) rfl rfl (by kernel_rfl) (by kernel_rfl) (by kernel_rfl) (fun c a w h => h) (by rfl) (by assumption) ?_
  simp only [Act.put, List.setIfInBounds_toArray, List.set_cons_zero, List.set_cons_succ]
  refine take_on (i := 28) (d := (some 41)) (v := ?v93) rfl rfl (by kernel_rfl) (by kernel_rfl) (by kernel_rfl) (fun c a w h => h) (by rfl) ?h93 (by assumption) ?r93
  case h93 => intro w hSw; obtain ⟨h0, h1, h2, h3, h4, h5⟩ := hSw; go_simp; rfl
  simp only [Act.put, List.setIfInBounds_toArray, List.set_cons_zero, List.set_cons_succ]
  refine take_on (i := 29) (d := (some 42)) (v := ?v94) rfl rfl (by kernel_rfl) (by kernel_rfl) (by kernel_rfl) (fun c a w h => h) (by rfl) ?h94 (by assumption) ?r94
  case h94 => intro w hSw; obtain ⟨h0, h1, h2, h3, h4, h5⟩ := hSw; go_simp; rfl
  simp only [Act.put, List.setIfInBounds_toArray, List.set_cons_zero, List.set_cons_succ]
  refine take_off (i := 30) (d := (some 43)) rfl rfl (by kernel_rfl) (by kernel_rfl) (by kernel_rfl) (fun c a w h => h) (by rfl) (by assumption) ?_
  simp only [Act.put, List.setIfInBounds_toArray, List.set_cons_zero, List.set_cons_succ]
  refine take_off (i := 31) (d := (some 44)) rfl rfl (by kernel_rfl) (by kernel_rfl) (by kernel_rfl) (fun c a w h => h) (by rfl) (by assumption) ?_
  simp only [Act.put, List.setIfInBounds_toArray, List.set_cons_zero, List.set_cons_succ]
  refine take_off (i := 32) (d := (some 45)) rfl rfl (by kernel_rfl) (by kernel_rfl) (by kernel_rfl) (fun c a w h => h) (by rfl) (by assumption) ?_
  simp only [Act.put, List.setIfInBounds_toArray, List.set_cons_zero, List.set_cons_succ]
  refine take_off (i := 33) (d := (some 46)) rfl rfl (by kernel_rfl) (by kernel_rfl) (by kernel_rfl) (fun c a w h => h) (by rfl) (by assumption) ?_
  simp only [Act.put, List.setIfInBounds_toArray, List.set_cons_zero, List.set_cons_succ]
  refine take_on (i := 34) (d := (some 47)) (v := ?v99) rfl rfl (by kernel_rfl) (by kernel_rfl) (by kernel_rfl) (fun c a w h => h) (by rfl) ?h99 (by assumption) ?r99
  case h99 => intro w hSw; obtain ⟨h0, h1, h2, h3, h4, h5⟩ := hSw; go_simp; rfl
  simp only [Act.put, List.setIfInBounds_toArray, List.set_cons_zero, List.set_cons_succ]
  clear hHeld
  refine wpAnyH_done (by kernel_rfl) ?_ _
  go_wp2_with fail
  refine (awake8_c _).mono ?_
  rintro e u9 ⟨rfl, b9⟩
  have P9 := Lib.hid (E.out.below.trans (b9.mono E.out.below.size))
  clear b9
  go_wp2
  go_ret
  exact ⟨rfl, P9.out⟩
set_option maxHeartbeats 8000000 in
theorem LucasOnly_3 (s1 s2 s3 : Bool) (A1 A2 A3 : Option Addr) (n1 c1 n2 c2 n3 c3 : Nat) (xs1 xs2 xs3 : List Nat) (w : World) (h1 : Rd w A1 n1 xs1) (h2 : Rd w A2 n2 xs2) (h3 : Rd w A3 n3 xs3) (hv1 : validB s1 xs1 = true) (hv2 : validB s2 xs2 = true) (hv3 : validB s3 xs3 = true) (hsh : decide (n1 ≤ 60 ∧ n2 ≤ 60 ∧ n3 ≤ 60) = false) :
    Calls Try.prog 8 #[.agg #[.bool s1, .slice A1 n1 c1], .agg #[.bool s2, .slice A2 n2 c2], .agg #[.bool s3, .slice A3 n3 c3]] w (IsB true w) := by
  have E := Lib.hid (Rb3.start (s1 := s1) (s2 := s2) (s3 := s3) (c1 := c1) (c2 := c2) (c3 := c3) h1 h2 h3)
  have HV1 := Lib.hid hv1
  have HV2 := Lib.hid hv2
  have HV3 := Lib.hid hv3
  have HSH := Lib.hid hsh
  clear h1 h2 h3 hv1 hv2 hv3 hsh
  go_enter Try.func8, Try.ntmps8
  go_upto_region 1 with (fail)
  generalize ((w.alloc (.cells #[.bool s1, .slice A1 n1 c1] 24)).alloc (.cells #[.bool s2, .slice A2 n2 c2] 24)).alloc (.cells #[.bool s3, .slice A3 n3 c3] 24) = W0 at E ⊢
  refine wp_region_held_drew (S := (fun w' => w'.cell? ⟨w.heap.size, 0, none⟩ = some (.bool s1) ∧ w'.cell? ⟨w.heap.size, 1, none⟩ = some (.slice A1 n1 c1) ∧ w'.cell? ⟨w.heap.size + 1, 0, none⟩ = some (.bool s2) ∧ w'.cell? ⟨w.heap.size + 1, 1, none⟩ = some (.slice A2 n2 c2) ∧ w'.cell? ⟨w.heap.size + 1 + 1, 0, none⟩ = some (.bool s3) ∧ w'.cell? ⟨w.heap.size + 1 + 1, 1, none⟩ = some (.slice A3 n3 c3))) (by kernel_rfl) ⟨cell_dr E.out.b1.c0, cell_dr E.out.b1.c1, cell_dr E.out.b2.c0, cell_dr E.out.b2.c1, cell_dr E.out.b3.c0, cell_dr E.out.b3.c1⟩ (fun hHeld => ?_)
  replace E := Lib.hid (E.out.next (Below.refl W0.heap.size W0).drew)
  generalize W0.drew = D0 at E hHeld ⊢
  refine take_on (i := 0) (d := (some 13)) (v := ?v100) rfl rfl (by kernel_rfl) (by kernel_rfl) (by kernel_rfl) (fun c a w h => h) (by rfl) ?h100 (by assumption) ?r100
  case h100 => intro w hSw; obtain ⟨h0, h1, h2, h3, h4, h5⟩ := hSw; go_simp; rfl
  simp only [Act.put, List.setIfInBounds_toArray, List.set_cons_zero, List.set_cons_succ]
  refine wpAnyH_ready (rs := [1]) (by kernel_rfl) (by simp) ?_
  refine AllReadyH.cons rfl (fun K hK => ?_) AllReadyH.nil
  go_simp
  refine (refValid_c s1 A1 n1 c1 xs1 _ E.out.b1.rd).mono ?_
  rw [HV1.out]
  rintro e u1 ⟨rfl, hb⟩
  replace E := Lib.hid (E.out.next hb)
  clear hb hHeld
  refine hK.out _ _ ⟨E.out.b1.c0, E.out.b1.c1, E.out.b2.c0, E.out.b2.c1, E.out.b3.c0, E.out.b3.c1⟩ (fun hHeld => ?_)
  clear hK K
  refine take_on (i := 2) (d := (some 15)) (v := ?v101) rfl rfl (by kernel_rfl) (by kernel_rfl) (by kernel_rfl) (fun c a w h => h) (by rfl) ?h101 (by assumption) ?r101
  case h101 => intro w hSw; obtain ⟨h0, h1, h2, h3, h4, h5⟩ := hSw; go_simp; rfl
  simp only [Act.put, List.setIfInBounds_toArray, List.set_cons_zero, List.set_cons_succ]
  refine take_on (i := 3) (d := (some 16)) (v := ?v102) rfl rfl (by kernel_rfl) (by kernel_rfl) (by kernel_rfl) (fun c a w h => h) (by rfl) ?h102 (by assumption) ?r102
  case h102 => intro w hSw; obtain ⟨h0, h1, h2, h3, h4, h5⟩ := hSw; go_simp; rfl
  simp only [Act.put, List.setIfInBounds_toArray, List.set_cons_zero, List.set_cons_succ]
  refine take_on (i := 4) (d := (some 17)) (v := ?v103) rfl rfl (by kernel_rfl) (by kernel_rfl) (by kernel_rfl) (fun c a w h => h) (by rfl) ?h103 (by assumption) ?r103
  case h103 => intro w hSw; obtain ⟨h0, h1, h2, h3, h4, h5⟩ := hSw; go_simp; rfl
  simp only [Act.put, List.setIfInBounds_toArray, List.set_cons_zero, List.set_cons_succ]
  refine wpAnyH_ready (rs := [5]) (by kernel_rfl) (by simp) ?_
  refine AllReadyH.cons rfl (fun K hK => ?_) AllReadyH.nil
  go_simp
  refine (refValid_c s2 A2 n2 c2 xs2 _ E.out.b2.rd).mono ?_
  rw [HV2.out]
  rintro e u2 ⟨rfl, hb⟩
  replace E := Lib.hid (E.out.next hb)
  clear hb hHeld
  refine hK.out _ _ ⟨E.out.b1.c0, E.out.b1.c1, E.out.b2.c0, E.out.b2.c1, E.out.b3.c0, E.out.b3.c1⟩ (fun hHeld => ?_)
  clear hK K
  refine take_on (i := 6) (d := (some 19)) (v := ?v104) rfl rfl (by kernel_rfl) (by kernel_rfl) (by kernel_rfl) (fun c a w h => h) (by rfl) ?h104 (by assumption) ?r104
  case h104 => intro w hSw; obtain ⟨h0, h1, h2, h3, h4, h5⟩ := hSw; go_simp; rfl
  simp only [Act.put, List.setIfInBounds_toArray, List.set_cons_zero, List.set_cons_succ]
  refine take_on (i := 7) (d := (some 20)) (v := ?v105) rfl rfl (by kernel_rfl) (by kernel_rfl) (by kernel_rfl) (fun c a w h => h) (by rfl) ?h105 (by assumption) ?r105
  case h105 => intro w hSw; obtain ⟨h0, h1, h2, h3, h4, h5⟩ := hSw; go_simp; rfl
  simp only [Act.put, List.setIfInBounds_toArray, List.set_cons_zero, List.set_cons_succ]
  refine take_on (i := 8) (d := (some 21)) (v := ?v106) rfl rfl (by kernel_rfl) (by kernel_rfl) (by kernel_rfl) (fun c a w h => h) (by rfl) ?h106 (by assumption) ?r106
  case h106 => intro w hSw; obtain ⟨h0, h1, h2, h3, h4, h5⟩ := hSw; go_simp; rfl
  simp only [Act.put, List.setIfInBounds_toArray, List.set_cons_zero, List.set_cons_succ]
  refine take_on (i := 9) (d := (some 22)) (v := ?v107) rfl rfl (by kernel_rfl) (by kernel_rfl) (by kernel_rfl) (fun c a w h => h) (by rfl) ?h107 (by assumption) ?r107
  case h107 => intro w hSw; obtain ⟨h0, h1, h2, h3, h4, h5⟩ := hSw; go_simp; rfl
  simp only [Act.put, List.setIfInBounds_toArray, List.set_cons_zero, List.set_cons_succ]
  refine wpAnyH_ready (rs := [10]) (by kernel_rfl) (by simp) ?_
  refine AllReadyH.cons rfl (fun K hK => ?_) AllReadyH.nil
  go_simp
  refine (refValid_c s3 A3 n3 c3 xs3 _ E.out.b3.rd).mono ?_
  rw [HV3.out]
  rintro e u3 ⟨rfl, hb⟩
  replace E := Lib.hid (E.out.next hb)
  clear hb hHeld
  refine hK.out _ _ ⟨E.out.b1.c0, E.out.b1.c1, E.out.b2.c0, E.out.b2.c1, E.out.b3.c0, E.out.b3.c1⟩ (fun hHeld => ?_)
  clear hK K
  refine take_on (i := 11) (d := (some 24)) (v := ?v108) rfl rfl (by kernel_rfl) (by kernel_rfl) (by kernel_rfl) (fun c a w h => h) (by rfl) ?h108 (by assumption) ?r108
  case h108 => intro w hSw; obtain ⟨h0, h1, h2, h3, h4, h5⟩ := hSw; go_simp; rfl
  simp only [Act.put, List.setIfInBounds_toArray, List.set_cons_zero, List.set_cons_succ]
  refine take_on (i := 12) (d := (some 25)) (v := ?v109) rfl rfl (by kernel_rfl) (by kernel_rfl) (by kernel_rfl) (fun c a w h => h) (by rfl) ?h109 (by assumption) ?r109
  case h109 => intro w hSw; obtain ⟨h0, h1, h2, h3, h4, h5⟩ := hSw; go_simp; rfl
  simp only [Act.put, List.setIfInBounds_toArray, List.set_cons_zero, List.set_cons_succ]
  refine take_on (i := 13) (d := (some 26)) (v := ?v110) rfl rfl (by kernel_rfl) (by kernel_rfl) (by kernel_rfl) (fun c a w h => h) (by rfl) ?h110 (by assumption) ?r110
  case h110 => intro w hSw; obtain ⟨h0, h1, h2, h3, h4, h5⟩ := hSw; go_simp; rfl
  simp only [Act.put, List.setIfInBounds_toArray, List.set_cons_zero, List.set_cons_succ]
  refine take_on (i := 14) (d := (some 27)) (v := ?v111) rfl rfl (by kernel_rfl) (by kernel_rfl) (by kernel_rfl) (fun c a w h => h) (by rfl) ?h111 (by assumption) ?r111
  case h111 => intro w hSw; obtain ⟨h0, h1, h2, h3, h4, h5⟩ := hSw; go_simp; rfl
  simp only [Act.put, List.setIfInBounds_toArray, List.set_cons_zero, List.set_cons_succ]
  refine take_on (i := 15) (d := (some 28)) (v := ?v112) rfl rfl (by kernel_rfl) (by kernel_rfl) (by kernel_rfl) (fun c a w h => h) (by rfl) ?h112 (by assumption) ?r112
  case h112 => intro w hSw; obtain ⟨h0, h1, h2, h3, h4, h5⟩ := hSw; go_simp; rfl
  simp only [Act.put, List.setIfInBounds_toArray, List.set_cons_zero, List.set_cons_succ]
  refine take_on (i := 16) (d := (some 29)) (v := ?v113) rfl rfl (by kernel_rfl) (by kernel_rfl) (by kernel_rfl) (fun c a w h => h) (by rfl) ?h113 (by assumption) ?r113
  case h113 => intro w hSw; obtain ⟨h0, h1, h2, h3, h4, h5⟩ := hSw; go_simp; rfl
  simp only [Act.put, List.setIfInBounds_toArray, List.set_cons_zero, List.set_cons_succ]
  refine wpAnyH_ready (rs := [17]) (by kernel_rfl) (by simp) ?_
  refine AllReadyH.cons rfl (fun K hK => ?_) AllReadyH.nil
  go_simp
  have hb := below_alloc u3 (.cells #[.bool s1, .slice A1 n1 c1, .bool s2, .slice A2 n2 c2, .bool s3, .slice A3 n3 c3] 24)
  replace E := Lib.hid (E.out.next hb)
  clear hb hHeld
  refine hK.out _ _ ⟨E.out.b1.c0, E.out.b1.c1, E.out.b2.c0, E.out.b2.c1, E.out.b3.c0, E.out.b3.c1⟩ (fun hHeld => ?_)
  clear hK K
  refine wpAnyH_ready (rs := [18]) (by kernel_rfl) (by simp) ?_
  refine AllReadyH.cons rfl (fun K hK => ?_) AllReadyH.nil
  go_simp
  refine (short3_c 60 _ A1 A2 A3 n1 c1 n2 c2 n3 c3 _ (by go_simp) (by go_simp) (by go_simp)).mono ?_
  rw [HSH.out]
  rintro e u4 ⟨rfl, hb⟩
  replace E := Lib.hid (E.out.next hb)
  clear hb hHeld
  refine hK.out _ _ ⟨E.out.b1.c0, E.out.b1.c1, E.out.b2.c0, E.out.b2.c1, E.out.b3.c0, E.out.b3.c1⟩ (fun hHeld => ?_)
  clear hK K
  refine take_on (i := 19) (d := (some 32)) (v := ?v114) rfl rfl (by kernel_rfl) (by kernel_rfl) (by kernel_rfl) (fun c a w h => h) (by rfl) ?h114 (by assumption) ?r114
  case h114 => intro w hSw; obtain ⟨h0, h1, h2, h3, h4, h5⟩ := hSw; go_simp; rfl
  simp only [Act.put, List.setIfInBounds_toArray, List.set_cons_zero, List.set_cons_succ]
  refine take_on (i := 20) (d := (some 33)) (v := ?v115) rfl rfl (by kernel_rfl) (by kernel_rfl) (by kernel_rfl) (fun c a w h => h) (by rfl) ?h115 (by assumption) ?r115
  case h115 => intro w hSw; obtain ⟨h0, h1, h2, h3, h4, h5⟩ := hSw; go_simp; rfl
  simp only [Act.put, List.setIfInBounds_toArray, List.set_cons_zero, List.set_cons_succ]
  refine take_on (i := 21) (d := (some 34)) (v := ?v116) rfl rfl (by kernel_rfl) (by kernel_rfl) (by kernel_rfl) (fun c a w h => h) (by rfl) ?h116 (by assumption) ?r116
  case h116 => intro w hSw; obtain ⟨h0, h1, h2, h3, h4, h5⟩ := hSw; go_simp; rfl
  simp only [Act.put, List.setIfInBounds_toArray, List.set_cons_zero, List.set_cons_succ]
  refine take_off (i := 22) (d := (some 35)) rfl rfl (by kernel_rfl) (by kernel_rfl) (by kernel_rfl) (fun c a w h => h) (by rfl) (by assumption) ?_
  simp only [Act.put, List.setIfInBounds_toArray, List.set_cons_zero, List.set_cons_succ]
  refine take_off (i := 23) (d := (some 36)) rfl rfl (by kernel_rfl) (by kernel_rfl) (by kernel_rfl) (fun c a w h => h) (by rfl) (by assumption) ?_
  simp only [Act.put, List.setIfInBounds_toArray, List.set_cons_zero, List.set_cons_succ]
  refine take_on (i := 24) (d := (some 37)) (v := ?v119) rfl rfl (by kernel_rfl) (by kernel_rfl) (by kernel_rfl) (fun c a w h => h) (by rfl) ?h119 (by assumption) ?r119
  case h119 => intro w hSw; obtain ⟨h0, h1, h2, h3, h4, h5⟩ := hSw; go_simp; rfl
  simp only [Act.put, List.setIfInBounds_toArray, List.set_cons_zero, List.set_cons_succ]
  refine take_on (i := 25) (d := (some 38)) (v := ?v120) rfl rfl (by kernel_rfl) (by kernel_rfl) (by kernel_rfl) (fun c a w h => h) (by rfl) ?h120 (by assumption) ?r120
  case h120 => intro w hSw; obtain ⟨h0, h1, h2, h3, h4, h5⟩ := hSw; go_simp; rfl
  simp only [Act.put, List.setIfInBounds_toArray, List.set_cons_zero, List.set_cons_succ]
  refine take_off (i := 26) (d := (some 39)) rfl rfl (by kernel_rfl) (by kernel_rfl) (by kernel_rfl) (fun c a w h => h) (by rfl) (by assumption) ?_
  simp only [Act.put, List.setIfInBounds_toArray, List.set_cons_zero, List.set_cons_succ]
  refine take_off (i := 27) (d := (some 40)) rfl rfl (by kernel_rfl) (by kernel_rfl) (by kernel_rfl) (fun c a w h => h) (by rfl) (by assumption) ?_
  simp only [Act.put, List.setIfInBounds_toArray, List.set_cons_zero, List.set_cons_succ]
  refine take_on (i := 28) (d := (some 41)) (v := ?v123) rfl rfl (by kernel_rfl) (by kernel_rfl) (by kernel_rfl) (fun c a w h => h) (by rfl) ?h123 (by assumption) ?r123
  case h123 => intro w hSw; obtain ⟨h0, h1, h2, h3, h4, h5⟩ := hSw; go_simp; rfl
  simp only [Act.put, List.setIfInBounds_toArray, List.set_cons_zero, List.set_cons_succ]
  refine take_on (i := 29) (d := (some 42)) (v := ?v124) rfl rfl (by kernel_rfl) (by kernel_rfl) (by kernel_rfl) (fun c a w h => h) (by rfl) ?h124 (by assumption) ?r124
  case h124 => intro w hSw; obtain ⟨h0, h1, h2, h3, h4, h5⟩ := hSw; go_simp; rfl
  simp only [Act.put, List.setIfInBounds_toArray, List.set_cons_zero, List.set_cons_succ]
  refine take_off (i := 30) (d := (some 43)) rfl rfl (by kernel_rfl) (by kernel_rfl) (by kernel_rfl) (fun c a w h => h) (by rfl) (by assumption) ?_
  simp only [Act.put, List.setIfInBounds_toArray, List.set_cons_zero, List.set_cons_succ]
  refine take_off (i := 31) (d := (some 44)) rfl rfl (by kernel_rfl) (by kernel_rfl) (by kernel_rfl) (fun c a w h => h) (by rfl) (by assumption) ?_
  simp only [Act.put, List.setIfInBounds_toArray, List.set_cons_zero, List.set_cons_succ]
  refine take_off (i := 32) (d := (some 45)) rfl rfl (by kernel_rfl) (by kernel_rfl) (by kernel_rfl) (fun c a w h => h) (by rfl) (by assumption) ?_
  simp only [Act.put, List.setIfInBounds_toArray, List.set_cons_zero, List.set_cons_succ]
  refine take_off (i := 33) (d := (some 46)) rfl rfl (by kernel_rfl) (by kernel_rfl) (by kernel_rfl) (fun c a w h => h) (by rfl) (by assumption) ?_
  simp only [Act.put, List.setIfInBounds_toArray, List.set_cons_zero, List.set_cons_succ]
  refine take_on (i := 34) (d := (some 47)) (v := ?v129) rfl rfl (by kernel_rfl) (by kernel_rfl) (by kernel_rfl) (fun c a w h => h) (by rfl) ?h129 (by assumption) ?r129
  case h129 => intro w hSw; obtain ⟨h0, h1, h2, h3, h4, h5⟩ := hSw; go_simp; rfl
  simp only [Act.put, List.setIfInBounds_toArray, List.set_cons_zero, List.set_cons_succ]
  clear hHeld
  refine wpAnyH_done (by kernel_rfl) ?_ _
  go_wp2_with fail
  refine (awake8_c _).mono ?_
  rintro e u9 ⟨rfl, b9⟩
  have P9 := Lib.hid (E.out.below.trans (b9.mono E.out.below.size))
  clear b9
  go_wp2
  go_ret
  exact ⟨rfl, P9.out⟩
set_option maxHeartbeats 8000000 in
theorem LucasOnly_4 (s1 s3 : Bool) (A1 A2 A3 : Option Addr) (n1 c1 n2 c2 n3 c3 : Nat) (xs1 xs2 xs3 : List Nat) (w : World) (h1 : Rd w A1 n1 xs1) (h2 : Rd w A2 n2 xs2) (h3 : Rd w A3 n3 xs3) (hv1 : validB s1 xs1 = true) (hv2 : validB true xs2 = true) (hv3 : validB s3 xs3 = true) (hsh : decide (n1 ≤ 60 ∧ n2 ≤ 60 ∧ n3 ≤ 60) = true) :
    Calls Try.prog 8 #[.agg #[.bool s1, .slice A1 n1 c1], .agg #[.bool true, .slice A2 n2 c2], .agg #[.bool s3, .slice A3 n3 c3]] w (IsB true w) := by
  have E := Lib.hid (Rb3.start (s1 := s1) (s2 := true) (s3 := s3) (c1 := c1) (c2 := c2) (c3 := c3) h1 h2 h3)
  have HV1 := Lib.hid hv1
  have HV2 := Lib.hid hv2
  have HV3 := Lib.hid hv3
  have HSH := Lib.hid hsh
  clear h1 h2 h3 hv1 hv2 hv3 hsh
  go_enter Try.func8, Try.ntmps8
  go_upto_region 1 with (fail)
  generalize ((w.alloc (.cells #[.bool s1, .slice A1 n1 c1] 24)).alloc (.cells #[.bool true, .slice A2 n2 c2] 24)).alloc (.cells #[.bool s3, .slice A3 n3 c3] 24) = W0 at E ⊢
  refine wp_region_held_drew (S := (fun w' => w'.cell? ⟨w.heap.size, 0, none⟩ = some (.bool s1) ∧ w'.cell? ⟨w.heap.size, 1, none⟩ = some (.slice A1 n1 c1) ∧ w'.cell? ⟨w.heap.size + 1, 0, none⟩ = some (.bool true) ∧ w'.cell? ⟨w.heap.size + 1, 1, none⟩ = some (.slice A2 n2 c2) ∧ w'.cell? ⟨w.heap.size + 1 + 1, 0, none⟩ = some (.bool s3) ∧ w'.cell? ⟨w.heap.size + 1 + 1, 1, none⟩ = some (.slice A3 n3 c3))) (by kernel_rfl) ⟨cell_dr E.out.b1.c0, cell_dr E.out.b1.c1, cell_dr E.out.b2.c0, cell_dr E.out.b2.c1, cell_dr E.out.b3.c0, cell_dr E.out.b3.c1⟩ (fun hHeld => ?_)
  replace E := Lib.hid (E.out.next (Below.refl W0.heap.size W0).drew)
  generalize W0.drew = D0 at E hHeld ⊢
  refine take_on (i := 0) (d := (some 13)) (v := ?v130) rfl rfl (by kernel_rfl) (by kernel_rfl) (by kernel_rfl) (fun c a w h => h) (by rfl) ?h130 (by assumption) ?r130
  case h130 => intro w hSw; obtain ⟨h0, h1, h2, h3, h4, h5⟩ := hSw; go_simp; rfl
  simp only [Act.put, List.setIfInBounds_toArray, List.set_cons_zero, List.set_cons_succ]
  refine wpAnyH_ready (rs := [1]) (by kernel_rfl) (by simp) ?_
  refine AllReadyH.cons rfl (fun K hK => ?_) AllReadyH.nil
  go_simp
  refine (refValid_c s1 A1 n1 c1 xs1 _ E.out.b1.rd).mono ?_
  rw [HV1.out]
  rintro e u1 ⟨rfl, hb⟩
  replace E := Lib.hid (E.out.next hb)
  clear hb hHeld
  refine hK.out _ _ ⟨E.out.b1.c0, E.out.b1.c1, E.out.b2.c0, E.out.b2.c1, E.out.b3.c0, E.out.b3.c1⟩ (fun hHeld => ?_)
  clear hK K
  refine take_on (i := 2) (d := (some 15)) (v := ?v131) rfl rfl (by kernel_rfl) (by kernel_rfl) (by kernel_rfl) (fun c a w h => h) (by rfl) ?h131 (by assumption) ?r131
  case h131 => intro w hSw; obtain ⟨h0, h1, h2, h3, h4, h5⟩ := hSw; go_simp; rfl
  simp only [Act.put, List.setIfInBounds_toArray, List.set_cons_zero, List.set_cons_succ]
  refine take_on (i := 3) (d := (some 16)) (v := ?v132) rfl rfl (by kernel_rfl) (by kernel_rfl) (by kernel_rfl) (fun c a w h => h) (by rfl) ?h132 (by assumption) ?r132
  case h132 => intro w hSw; obtain ⟨h0, h1, h2, h3, h4, h5⟩ := hSw; go_simp; rfl
  simp only [Act.put, List.setIfInBounds_toArray, List.set_cons_zero, List.set_cons_succ]
  refine take_on (i := 4) (d := (some 17)) (v := ?v133) rfl rfl (by kernel_rfl) (by kernel_rfl) (by kernel_rfl) (fun c a w h => h) (by rfl) ?h133 (by assumption) ?r133
  case h133 => intro w hSw; obtain ⟨h0, h1, h2, h3, h4, h5⟩ := hSw; go_simp; rfl
  simp only [Act.put, List.setIfInBounds_toArray, List.set_cons_zero, List.set_cons_succ]
  refine wpAnyH_ready (rs := [5]) (by kernel_rfl) (by simp) ?_
  refine AllReadyH.cons rfl (fun K hK => ?_) AllReadyH.nil
  go_simp
  refine (refValid_c true A2 n2 c2 xs2 _ E.out.b2.rd).mono ?_
  rw [HV2.out]
  rintro e u2 ⟨rfl, hb⟩
  replace E := Lib.hid (E.out.next hb)
  clear hb hHeld
  refine hK.out _ _ ⟨E.out.b1.c0, E.out.b1.c1, E.out.b2.c0, E.out.b2.c1, E.out.b3.c0, E.out.b3.c1⟩ (fun hHeld => ?_)
  clear hK K
  refine take_on (i := 6) (d := (some 19)) (v := ?v134) rfl rfl (by kernel_rfl) (by kernel_rfl) (by kernel_rfl) (fun c a w h => h) (by rfl) ?h134 (by assumption) ?r134
  case h134 => intro w hSw; obtain ⟨h0, h1, h2, h3, h4, h5⟩ := hSw; go_simp; rfl
  simp only [Act.put, List.setIfInBounds_toArray, List.set_cons_zero, List.set_cons_succ]
  refine take_on (i := 7) (d := (some 20)) (v := ?v135) rfl rfl (by kernel_rfl) (by kernel_rfl) (by kernel_rfl) (fun c a w h => h) (by rfl) ?h135 (by assumption) ?r135
  case h135 => intro w hSw; obtain ⟨h0, h1, h2, h3, h4, h5⟩ := hSw; go_simp; rfl
  simp only [Act.put, List.setIfInBounds_toArray, List.set_cons_zero, List.set_cons_succ]
  refine take_on (i := 8) (d := (some 21)) (v := ?v136) rfl rfl (by kernel_rfl) (by kernel_rfl) (by kernel_rfl) (fun c a w h => h) (by rfl) ?h136 (by assumption) ?r136
  case h136 => intro w hSw; obtain ⟨h0, h1, h2, h3, h4, h5⟩ := hSw; go_simp; rfl
  simp only [Act.put, List.setIfInBounds_toArray, List.set_cons_zero, List.set_cons_succ]
  refine take_on (i := 9) (d := (some 22)) (v := ?v137) rfl rfl (by kernel_rfl) (by kernel_rfl) (by kernel_rfl) (fun c a w h => h) (by rfl) ?h137 (by assumption) ?r137
  case h137 => intro w hSw; obtain ⟨h0, h1, h2, h3, h4, h5⟩ := hSw; go_simp; rfl
  simp only [Act.put, List.setIfInBounds_toArray, List.set_cons_zero, List.set_cons_succ]
  refine wpAnyH_ready (rs := [10]) (by kernel_rfl) (by simp) ?_
  refine AllReadyH.cons rfl (fun K hK => ?_) AllReadyH.nil
  go_simp
  refine (refValid_c s3 A3 n3 c3 xs3 _ E.out.b3.rd).mono ?_
  rw [HV3.out]
  rintro e u3 ⟨rfl, hb⟩
  replace E := Lib.hid (E.out.next hb)
  clear hb hHeld
  refine hK.out _ _ ⟨E.out.b1.c0, E.out.b1.c1, E.out.b2.c0, E.out.b2.c1, E.out.b3.c0, E.out.b3.c1⟩ (fun hHeld => ?_)
  clear hK K
  refine take_on (i := 11) (d := (some 24)) (v := ?v138) rfl rfl (by kernel_rfl) (by kernel_rfl) (by kernel_rfl) (fun c a w h => h) (by rfl) ?h138 (by assumption) ?r138
  case h138 => intro w hSw; obtain ⟨h0, h1, h2, h3, h4, h5⟩ := hSw; go_simp; rfl
  simp only [Act.put, List.setIfInBounds_toArray, List.set_cons_zero, List.set_cons_succ]
  refine take_on (i := 12) (d := (some 25)) (v := ?v139) rfl rfl (by kernel_rfl) (by kernel_rfl) (by kernel_rfl) (fun c a w h => h) (by rfl) ?h139 (by assumption) ?r139
  case h139 => intro w hSw; obtain ⟨h0, h1, h2, h3, h4, h5⟩ := hSw; go_simp; rfl
  simp only [Act.put, List.setIfInBounds_toArray, List.set_cons_zero, List.set_cons_succ]
  refine take_on (i := 13) (d := (some 26)) (v := ?v140) rfl rfl (by kernel_rfl) (by kernel_rfl) (by kernel_rfl) (fun c a w h => h) (by rfl) ?h140 (by assumption) ?r140
  case h140 => intro w hSw; obtain ⟨h0, h1, h2, h3, h4, h5⟩ := hSw; go_simp; rfl
  simp only [Act.put, List.setIfInBounds_toArray, List.set_cons_zero, List.set_cons_succ]
  refine take_on (i := 14) (d := (some 27)) (v := ?v141) rfl rfl (by kernel_rfl) (by kernel_rfl) (by kernel_rfl) (fun c a w h => h) (by rfl) ?h141 (by assumption) ?r141
  case h141 => intro w hSw; obtain ⟨h0, h1, h2, h3, h4, h5⟩ := hSw; go_simp; rfl
  simp only [Act.put, List.setIfInBounds_toArray, List.set_cons_zero, List.set_cons_succ]
  refine take_on (i := 15) (d := (some 28)) (v := ?v142) rfl rfl (by kernel_rfl) (by kernel_rfl) (by kernel_rfl) (fun c a w h => h) (by rfl) ?h142 (by assumption) ?r142
  case h142 => intro w hSw; obtain ⟨h0, h1, h2, h3, h4, h5⟩ := hSw; go_simp; rfl
  simp only [Act.put, List.setIfInBounds_toArray, List.set_cons_zero, List.set_cons_succ]
  refine take_on (i := 16) (d := (some 29)) (v := ?v143) rfl rfl (by kernel_rfl) (by kernel_rfl) (by kernel_rfl) (fun c a w h => h) (by rfl) ?h143 (by assumption) ?r143
  case h143 => intro w hSw; obtain ⟨h0, h1, h2, h3, h4, h5⟩ := hSw; go_simp; rfl
  simp only [Act.put, List.setIfInBounds_toArray, List.set_cons_zero, List.set_cons_succ]
  refine wpAnyH_ready (rs := [17]) (by kernel_rfl) (by simp) ?_
  refine AllReadyH.cons rfl (fun K hK => ?_) AllReadyH.nil
  go_simp
  have hb := below_alloc u3 (.cells #[.bool s1, .slice A1 n1 c1, .bool true, .slice A2 n2 c2, .bool s3, .slice A3 n3 c3] 24)
  replace E := Lib.hid (E.out.next hb)
  clear hb hHeld
  refine hK.out _ _ ⟨E.out.b1.c0, E.out.b1.c1, E.out.b2.c0, E.out.b2.c1, E.out.b3.c0, E.out.b3.c1⟩ (fun hHeld => ?_)
  clear hK K
  refine wpAnyH_ready (rs := [18]) (by kernel_rfl) (by simp) ?_
  refine AllReadyH.cons rfl (fun K hK => ?_) AllReadyH.nil
  go_simp
  refine (short3_c 60 _ A1 A2 A3 n1 c1 n2 c2 n3 c3 _ (by go_simp) (by go_simp) (by go_simp)).mono ?_
  rw [HSH.out]
  rintro e u4 ⟨rfl, hb⟩
  replace E := Lib.hid (E.out.next hb)
  clear hb hHeld
  refine hK.out _ _ ⟨E.out.b1.c0, E.out.b1.c1, E.out.b2.c0, E.out.b2.c1, E.out.b3.c0, E.out.b3.c1⟩ (fun hHeld => ?_)
  clear hK K
  refine take_on (i := 19) (d := (some 32)) (v := ?v144) rfl rfl (by kernel_rfl) (by kernel_rfl) (by kernel_rfl) (fun c a w h => h) (by rfl) ?h144 (by assumption) ?r144
  case h144 => intro w hSw; obtain ⟨h0, h1, h2, h3, h4, h5⟩ := hSw; go_simp; rfl
  simp only [Act.put, List.setIfInBounds_toArray, List.set_cons_zero, List.set_cons_succ]
  refine take_on (i := 20) (d := (some 33)) (v := ?v145) rfl rfl (by kernel_rfl) (by kernel_rfl) (by kernel_rfl) (fun c a w h => h) (by rfl) ?h145 (by assumption) ?r145
  case h145 => intro w hSw; obtain ⟨h0, h1, h2, h3, h4, h5⟩ := hSw; go_simp; rfl
  simp only [Act.put, List.setIfInBounds_toArray, List.set_cons_zero, List.set_cons_succ]
  refine take_on (i := 21) (d := (some 34)) (v := ?v146) rfl rfl (by kernel_rfl) (by kernel_rfl) (by kernel_rfl) (fun c a w h => h) (by rfl) ?h146 (by assumption) ?r146
  case h146 => intro w hSw; obtain ⟨h0, h1, h2, h3, h4, h5⟩ := hSw; go_simp; rfl
  simp only [Act.put, List.setIfInBounds_toArray, List.set_cons_zero, List.set_cons_succ]
  refine take_on (i := 22) (d := (some 35)) (v := ?v147) rfl rfl (by kernel_rfl) (by kernel_rfl) (by kernel_rfl) (fun c a w h => h) (by rfl) ?h147 (by assumption) ?r147
  case h147 => intro w hSw; obtain ⟨h0, h1, h2, h3, h4, h5⟩ := hSw; go_simp; rfl
  simp only [Act.put, List.setIfInBounds_toArray, List.set_cons_zero, List.set_cons_succ]
  refine take_on (i := 23) (d := (some 36)) (v := ?v148) rfl rfl (by kernel_rfl) (by kernel_rfl) (by kernel_rfl) (fun c a w h => h) (by rfl) ?h148 (by assumption) ?r148
  case h148 => intro w hSw; obtain ⟨h0, h1, h2, h3, h4, h5⟩ := hSw; go_simp; rfl
  simp only [Act.put, List.setIfInBounds_toArray, List.set_cons_zero, List.set_cons_succ]
  refine take_on (i := 24) (d := (some 37)) (v := ?v149) rfl rfl (by kernel_rfl) (by kernel_rfl) (by kernel_rfl) (fun c a w h => h) (by rfl) ?h149 (by assumption) ?r149
  case h149 => intro w hSw; obtain ⟨h0, h1, h2, h3, h4, h5⟩ := hSw; go_simp; rfl
  simp only [Act.put, List.setIfInBounds_toArray, List.set_cons_zero, List.set_cons_succ]
  refine take_on (i := 25) (d := (some 38)) (v := ?v150) rfl rfl (by kernel_rfl) (by kernel_rfl) (by kernel_rfl) (fun c a w h => h) (by rfl) ?h150 (by assumption) ?r150
  case h150 => intro w hSw; obtain ⟨h0, h1, h2, h3, h4, h5⟩ := hSw; go_simp; rfl
  simp only [Act.put, List.setIfInBounds_toArray, List.set_cons_zero, List.set_cons_succ]
  refine take_off (i := 26) (d := (some 39)) rfl rfl (by kernel_rfl) (by kernel_rfl) (by kernel_rfl) (fun c a w h => h) (by rfl) (by assumption) ?_
  simp only [Act.put, List.setIfInBounds_toArray, List.set_cons_zero, List.set_cons_succ]
  refine take_off (i := 27) (d := (some 40)) rfl rfl (by kernel_rfl) (by kernel_rfl) (by kernel_rfl) (fun c a w h => h) (by rfl) (by assumption) ?_
  simp only [Act.put, List.setIfInBounds_toArray, List.set_cons_zero, List.set_cons_succ]
  refine take_on (i := 28) (d := (some 41)) (v := ?v153) rfl rfl (by kernel_rfl) (by kernel_rfl) (by kernel_rfl) (fun c a w h => h) (by rfl) ?h153 (by assumption) ?r153
  case h153 => intro w hSw; obtain ⟨h0, h1, h2, h3, h4, h5⟩ := hSw; go_simp; rfl
  simp only [Act.put, List.setIfInBounds_toArray, List.set_cons_zero, List.set_cons_succ]
  refine take_on (i := 29) (d := (some 42)) (v := ?v154) rfl rfl (by kernel_rfl) (by kernel_rfl) (by kernel_rfl) (fun c a w h => h) (by rfl) ?h154 (by assumption) ?r154
  case h154 => intro w hSw; obtain ⟨h0, h1, h2, h3, h4, h5⟩ := hSw; go_simp; rfl
  simp only [Act.put, List.setIfInBounds_toArray, List.set_cons_zero, List.set_cons_succ]
  refine take_off (i := 30) (d := (some 43)) rfl rfl (by kernel_rfl) (by kernel_rfl) (by kernel_rfl) (fun c a w h => h) (by rfl) (by assumption) ?_
  simp only [Act.put, List.setIfInBounds_toArray, List.set_cons_zero, List.set_cons_succ]
  refine take_off (i := 31) (d := (some 44)) rfl rfl (by kernel_rfl) (by kernel_rfl) (by kernel_rfl) (fun c a w h => h) (by rfl) (by assumption) ?_
  simp only [Act.put, List.setIfInBounds_toArray, List.set_cons_zero, List.set_cons_succ]
  refine take_off (i := 32) (d := (some 45)) rfl rfl (by kernel_rfl) (by kernel_rfl) (by kernel_rfl) (fun c a w h => h) (by rfl) (by assumption) ?_
  simp only [Act.put, List.setIfInBounds_toArray, List.set_cons_zero, List.set_cons_succ]
  refine take_off (i := 33) (d := (some 46)) rfl rfl (by kernel_rfl) (by kernel_rfl) (by kernel_rfl) (fun c a w h => h) (by rfl) (by assumption) ?_
  simp only [Act.put, List.setIfInBounds_toArray, List.set_cons_zero, List.set_cons_succ]
  refine take_on (i := 34) (d := (some 47)) (v := ?v159) rfl rfl (by kernel_rfl) (by kernel_rfl) (by kernel_rfl) (fun c a w h => h) (by rfl) ?h159 (by assumption) ?r159
  case h159 => intro w hSw; obtain ⟨h0, h1, h2, h3, h4, h5⟩ := hSw; go_simp; rfl
  simp only [Act.put, List.setIfInBounds_toArray, List.set_cons_zero, List.set_cons_succ]
  clear hHeld
  refine wpAnyH_done (by kernel_rfl) ?_ _
  go_wp2_with fail
  refine (awake8_c _).mono ?_
  rintro e u9 ⟨rfl, b9⟩
  have P9 := Lib.hid (E.out.below.trans (b9.mono E.out.below.size))
  clear b9
  go_wp2
  go_ret
  exact ⟨rfl, P9.out⟩
set_option maxHeartbeats 8000000 in
theorem LucasOnly_5 (s1 : Bool) (A1 A2 A3 : Option Addr) (n1 c1 n2 c2 n3 c3 : Nat) (xs1 xs2 xs3 : List Nat) (w : World) (h1 : Rd w A1 n1 xs1) (h2 : Rd w A2 n2 xs2) (h3 : Rd w A3 n3 xs3) (hv1 : validB s1 xs1 = true) (hv2 : validB false xs2 = true) (hv3 : validB true xs3 = true) (hsh : decide (n1 ≤ 60 ∧ n2 ≤ 60 ∧ n3 ≤ 60) = true) :
    Calls Try.prog 8 #[.agg #[.bool s1, .slice A1 n1 c1], .agg #[.bool false, .slice A2 n2 c2], .agg #[.bool true, .slice A3 n3 c3]] w (IsB true w) := by
  have E := Lib.hid (Rb3.start (s1 := s1) (s2 := false) (s3 := true) (c1 := c1) (c2 := c2) (c3 := c3) h1 h2 h3)
  have HV1 := Lib.hid hv1
  have HV2 := Lib.hid hv2
  have HV3 := Lib.hid hv3
  have HSH := Lib.hid hsh
  clear h1 h2 h3 hv1 hv2 hv3 hsh
  go_enter Try.func8, Try.ntmps8
  go_upto_region 1 with (fail)
  generalize ((w.alloc (.cells #[.bool s1, .slice A1 n1 c1] 24)).alloc (.cells #[.bool false, .slice A2 n2 c2] 24)).alloc (.cells #[.bool true, .slice A3 n3 c3] 24) = W0 at E ⊢
  refine wp_region_held_drew (S := (fun w' => w'.cell? ⟨w.heap.size, 0, none⟩ = some (.bool s1) ∧ w'.cell? ⟨w.heap.size, 1, none⟩ = some (.slice A1 n1 c1) ∧ w'.cell? ⟨w.heap.size + 1, 0, none⟩ = some (.bool false) ∧ w'.cell? ⟨w.heap.size + 1, 1, none⟩ = some (.slice A2 n2 c2) ∧ w'.cell? ⟨w.heap.size + 1 + 1, 0, none⟩ = some (.bool true) ∧ w'.cell? ⟨w.heap.size + 1 + 1, 1, none⟩ = some (.slice A3 n3 c3))) (by kernel_rfl) ⟨cell_dr E.out.b1.c0, cell_dr E.out.b1.c1, cell_dr E.out.b2.c0, cell_dr E.out.b2.c1, cell_dr E.out.b3.c0, cell_dr E.out.b3.c1⟩ (fun hHeld => ?_)
  replace E := Lib.hid (E.out.next (Below.refl W0.heap.size W0).drew)
  generalize W0.drew = D0 at E hHeld ⊢
  refine take_on (i := 0) (d := (some 13)) (v := ?v160) rfl rfl (by kernel_rfl) (by kernel_rfl) (by kernel_rfl) (fun c a w h => h) (by rfl) ?h160 (by assumption) ?r160
  case h160 => intro w hSw; obtain ⟨h0, h1, h2, h3, h4, h5⟩ := hSw; go_simp; rfl
  simp only [Act.put, List.setIfInBounds_toArray, List.set_cons_zero, List.set_cons_succ]
  refine wpAnyH_ready (rs := [1]) (by kernel_rfl) (by simp) ?_
  refine AllReadyH.cons rfl (fun K hK => ?_) AllReadyH.nil
  go_simp
  refine (refValid_c s1 A1 n1 c1 xs1 _ E.out.b1.rd).mono ?_
  rw [HV1.out]
  rintro e u1 ⟨rfl, hb⟩
  replace E := Lib.hid (E.out.next hb)
  clear hb hHeld
  refine hK.out _ _ ⟨E.out.b1.c0, E.out.b1.c1, E.out.b2.c0, E.out.b2.c1, E.out.b3.c0, E.out.b3.c1⟩ (fun hHeld => ?_)
  clear hK K
  refine take_on (i := 2) (d := (some 15)) (v := ?v161) rfl rfl (by kernel_rfl) (by kernel_rfl) (by kernel_rfl) (fun c a w h => h) (by rfl) ?h161 (by assumption) ?r161
  case h161 => intro w hSw; obtain ⟨h0, h1, h2, h3, h4, h5⟩ := hSw; go_simp; rfl
  simp only [Act.put, List.setIfInBounds_toArray, List.set_cons_zero, List.set_cons_succ]
  refine take_on (i := 3) (d := (some 16)) (v := ?v162) rfl rfl (by kernel_rfl) (by kernel_rfl) (by kernel_rfl) (fun c a w h => h) (by rfl) ?h162 (by assumption) ?r162
  case h162 => intro w hSw; obtain ⟨h0, h1, h2, h3, h4, h5⟩ := hSw; go_simp; rfl
  simp only [Act.put, List.setIfInBounds_toArray, List.set_cons_zero, List.set_cons_succ]
  refine take_on (i := 4) (d := (some 17)) (v := ?v163) rfl rfl (by kernel_rfl) (by kernel_rfl) (by kernel_rfl) (fun c a w h => h) (by rfl) ?h163 (by assumption) ?r163
  case h163 => intro w hSw; obtain ⟨h0, h1, h2, h3, h4, h5⟩ := hSw; go_simp; rfl
  simp only [Act.put, List.setIfInBounds_toArray, List.set_cons_zero, List.set_cons_succ]
  refine wpAnyH_ready (rs := [5]) (by kernel_rfl) (by simp) ?_
  refine AllReadyH.cons rfl (fun K hK => ?_) AllReadyH.nil
  go_simp
  refine (refValid_c false A2 n2 c2 xs2 _ E.out.b2.rd).mono ?_
  rw [HV2.out]
  rintro e u2 ⟨rfl, hb⟩
  replace E := Lib.hid (E.out.next hb)
  clear hb hHeld
  refine hK.out _ _ ⟨E.out.b1.c0, E.out.b1.c1, E.out.b2.c0, E.out.b2.c1, E.out.b3.c0, E.out.b3.c1⟩ (fun hHeld => ?_)
  clear hK K
  refine take_on (i := 6) (d := (some 19)) (v := ?v164) rfl rfl (by kernel_rfl) (by kernel_rfl) (by kernel_rfl) (fun c a w h => h) (by rfl) ?h164 (by assumption) ?r164
  case h164 => intro w hSw; obtain ⟨h0, h1, h2, h3, h4, h5⟩ := hSw; go_simp; rfl
  simp only [Act.put, List.setIfInBounds_toArray, List.set_cons_zero, List.set_cons_succ]
  refine take_on (i := 7) (d := (some 20)) (v := ?v165) rfl rfl (by kernel_rfl) (by kernel_rfl) (by kernel_rfl) (fun c a w h => h) (by rfl) ?h165 (by assumption) ?r165
  case h165 => intro w hSw; obtain ⟨h0, h1, h2, h3, h4, h5⟩ := hSw; go_simp; rfl
  simp only [Act.put, List.setIfInBounds_toArray, List.set_cons_zero, List.set_cons_succ]
  refine take_on (i := 8) (d := (some 21)) (v := ?v166) rfl rfl (by kernel_rfl) (by kernel_rfl) (by kernel_rfl) (fun c a w h => h) (by rfl) ?h166 (by assumption) ?r166
  case h166 => intro w hSw; obtain ⟨h0, h1, h2, h3, h4, h5⟩ := hSw; go_simp; rfl
  simp only [Act.put, List.setIfInBounds_toArray, List.set_cons_zero, List.set_cons_succ]
  refine take_on (i := 9) (d := (some 22)) (v := ?v167) rfl rfl (by kernel_rfl) (by kernel_rfl) (by kernel_rfl) (fun c a w h => h) (by rfl) ?h167 (by assumption) ?r167
  case h167 => intro w hSw; obtain ⟨h0, h1, h2, h3, h4, h5⟩ := hSw; go_simp; rfl
  simp only [Act.put, List.setIfInBounds_toArray, List.set_cons_zero, List.set_cons_succ]
  refine wpAnyH_ready (rs := [10]) (by kernel_rfl) (by simp) ?_
  refine AllReadyH.cons rfl (fun K hK => ?_) AllReadyH.nil
  go_simp
  refine (refValid_c true A3 n3 c3 xs3 _ E.out.b3.rd).mono ?_
  rw [HV3.out]
  rintro e u3 ⟨rfl, hb⟩
  replace E := Lib.hid (E.out.next hb)
  clear hb hHeld
  refine hK.out _ _ ⟨E.out.b1.c0, E.out.b1.c1, E.out.b2.c0, E.out.b2.c1, E.out.b3.c0, E.out.b3.c1⟩ (fun hHeld => ?_)
  clear hK K
  refine take_on (i := 11) (d := (some 24)) (v := ?v168) rfl rfl (by kernel_rfl) (by kernel_rfl) (by kernel_rfl) (fun c a w h => h) (by rfl) ?h168 (by assumption) ?r168
  case h168 => intro w hSw; obtain ⟨h0, h1, h2, h3, h4, h5⟩ := hSw; go_simp; rfl
  simp only [Act.put, List.setIfInBounds_toArray, List.set_cons_zero, List.set_cons_succ]
  refine take_on (i := 12) (d := (some 25)) (v := ?v169) rfl rfl (by kernel_rfl) (by kernel_rfl) (by kernel_rfl) (fun c a w h => h) (by rfl) ?h169 (by assumption) ?r169
  case h169 => intro w hSw; obtain ⟨h0, h1, h2, h3, h4, h5⟩ := hSw; go_simp; rfl
  simp only [Act.put, List.setIfInBounds_toArray, List.set_cons_zero, List.set_cons_succ]
  refine take_on (i := 13) (d := (some 26)) (v := ?v170) rfl rfl (by kernel_rfl) (by kernel_rfl) (by kernel_rfl) (fun c a w h => h) (by rfl) ?h170 (by assumption) ?r170
  case h170 => intro w hSw; obtain ⟨h0, h1, h2, h3, h4, h5⟩ := hSw; go_simp; rfl
  simp only [Act.put, List.setIfInBounds_toArray, List.set_cons_zero, List.set_cons_succ]
  refine take_on (i := 14) (d := (some 27)) (v := ?v171) rfl rfl (by kernel_rfl) (by kernel_rfl) (by kernel_rfl) (fun c a w h => h) (by rfl) ?h171 (by assumption) ?r171
  case h171 => intro w hSw; obtain ⟨h0, h1, h2, h3, h4, h5⟩ := hSw; go_simp; rfl
  simp only [Act.put, List.setIfInBounds_toArray, List.set_cons_zero, List.set_cons_succ]
  refine take_on (i := 15) (d := (some 28)) (v := ?v172) rfl rfl (by kernel_rfl) (by kernel_rfl) (by kernel_rfl) (fun c a w h => h) (by rfl) ?h172 (by assumption) ?r172
  case h172 => intro w hSw; obtain ⟨h0, h1, h2, h3, h4, h5⟩ := hSw; go_simp; rfl
  simp only [Act.put, List.setIfInBounds_toArray, List.set_cons_zero, List.set_cons_succ]
  refine take_on (i := 16) (d := (some 29)) (v := ?v173) rfl rfl (by kernel_rfl) (by kernel_rfl) (by kernel_rfl) (fun c a w h => h) (by rfl) ?h173 (by assumption) ?r173
  case h173 => intro w hSw; obtain ⟨h0, h1, h2, h3, h4, h5⟩ := hSw; go_simp; rfl
  simp only [Act.put, List.setIfInBounds_toArray, List.set_cons_zero, List.set_cons_succ]
  refine wpAnyH_ready (rs := [17]) (by kernel_rfl) (by simp) ?_
  refine AllReadyH.cons rfl (fun K hK => ?_) AllReadyH.nil
  go_simp
  have hb := below_alloc u3 (.cells #[.bool s1, .slice A1 n1 c1, .bool false, .slice A2 n2 c2, .bool true, .slice A3 n3 c3] 24)
  replace E := Lib.hid (E.out.next hb)
  clear hb hHeld
  refine hK.out _ _ ⟨E.out.b1.c0, E.out.b1.c1, E.out.b2.c0, E.out.b2.c1, E.out.b3.c0, E.out.b3.c1⟩ (fun hHeld => ?_)
  clear hK K
  refine wpAnyH_ready (rs := [18]) (by kernel_rfl) (by simp) ?_
  refine AllReadyH.cons rfl (fun K hK => ?_) AllReadyH.nil
  go_simp
  refine (short3_c 60 _ A1 A2 A3 n1 c1 n2 c2 n3 c3 _ (by go_simp) (by go_simp) (by go_simp)).mono ?_
  rw [HSH.out]
  rintro e u4 ⟨rfl, hb⟩
  replace E := Lib.hid (E.out.next hb)
  clear hb hHeld
  refine hK.out _ _ ⟨E.out.b1.c0, E.out.b1.c1, E.out.b2.c0, E.out.b2.c1, E.out.b3.c0, E.out.b3.c1⟩ (fun hHeld => ?_)
  clear hK K
  refine take_on (i := 19) (d := (some 32)) (v := ?v174) rfl rfl (by kernel_rfl) (by kernel_rfl) (by kernel_rfl) (fun c a w h => h) (by rfl) ?h174 (by assumption) ?r174
  case h174 => intro w hSw; obtain ⟨h0, h1, h2, h3, h4, h5⟩ := hSw; go_simp; rfl
  simp only [Act.put, List.setIfInBounds_toArray, List.set_cons_zero, List.set_cons_succ]
  refine take_on (i := 20) (d := (some 33)) (v := ?v175) rfl rfl (by kernel_rfl) (by kernel_rfl) (by kernel_rfl) (fun c a w h => h) (by rfl) ?h175 (by assumption) ?r175
  case h175 => intro w hSw; obtain ⟨h0, h1, h2, h3, h4, h5⟩ := hSw; go_simp; rfl
  simp only [Act.put, List.setIfInBounds_toArray, List.set_cons_zero, List.set_cons_succ]
  refine take_on (i := 21) (d := (some 34)) (v := ?v176) rfl rfl (by kernel_rfl) (by kernel_rfl) (by kernel_rfl) (fun c a w h => h) (by rfl) ?h176 (by assumption) ?r176
  case h176 => intro w hSw; obtain ⟨h0, h1, h2, h3, h4, h5⟩ := hSw; go_simp; rfl
  simp only [Act.put, List.setIfInBounds_toArray, List.set_cons_zero, List.set_cons_succ]
  refine take_on (i := 22) (d := (some 35)) (v := ?v177) rfl rfl (by kernel_rfl) (by kernel_rfl) (by kernel_rfl) (fun c a w h => h) (by rfl) ?h177 (by assumption) ?r177
  case h177 => intro w hSw; obtain ⟨h0, h1, h2, h3, h4, h5⟩ := hSw; go_simp; rfl
  simp only [Act.put, List.setIfInBounds_toArray, List.set_cons_zero, List.set_cons_succ]
  refine take_on (i := 23) (d := (some 36)) (v := ?v178) rfl rfl (by kernel_rfl) (by kernel_rfl) (by kernel_rfl) (fun c a w h => h) (by rfl) ?h178 (by assumption) ?r178
  case h178 => intro w hSw; obtain ⟨h0, h1, h2, h3, h4, h5⟩ := hSw; go_simp; rfl
  simp only [Act.put, List.setIfInBounds_toArray, List.set_cons_zero, List.set_cons_succ]
  refine take_on (i := 24) (d := (some 37)) (v := ?v179) rfl rfl (by kernel_rfl) (by kernel_rfl) (by kernel_rfl) (fun c a w h => h) (by rfl) ?h179 (by assumption) ?r179
  case h179 => intro w hSw; obtain ⟨h0, h1, h2, h3, h4, h5⟩ := hSw; go_simp; rfl
  simp only [Act.put, List.setIfInBounds_toArray, List.set_cons_zero, List.set_cons_succ]
  refine take_on (i := 25) (d := (some 38)) (v := ?v180) rfl rfl (by kernel_rfl) (by kernel_rfl) (by kernel_rfl) (fun c a w h => h) (by rfl) ?h180 (by assumption) ?r180
  case h180 => intro w hSw; obtain ⟨h0, h1, h2, h3, h4, h5⟩ := hSw; go_simp; rfl
  simp only [Act.put, List.setIfInBounds_toArray, List.set_cons_zero, List.set_cons_succ]
  refine take_on (i := 26) (d := (some 39)) (v := ?v181) rfl rfl (by kernel_rfl) (by kernel_rfl) (by kernel_rfl) (fun c a w h => h) (by rfl) ?h181 (by assumption) ?r181
  case h181 => intro w hSw; obtain ⟨h0, h1, h2, h3, h4, h5⟩ := hSw; go_simp; rfl
  simp only [Act.put, List.setIfInBounds_toArray, List.set_cons_zero, List.set_cons_succ]
  refine take_on (i := 27) (d := (some 40)) (v := ?v182) rfl rfl (by kernel_rfl) (by kernel_rfl) (by kernel_rfl) (fun c a w h => h) (by rfl) ?h182 (by assumption) ?r182
  case h182 => intro w hSw; obtain ⟨h0, h1, h2, h3, h4, h5⟩ := hSw; go_simp; rfl
  simp only [Act.put, List.setIfInBounds_toArray, List.set_cons_zero, List.set_cons_succ]
  refine take_on (i := 28) (d := (some 41)) (v := ?v183) rfl rfl (by kernel_rfl) (by kernel_rfl) (by kernel_rfl) (fun c a w h => h) (by rfl) ?h183 (by assumption) ?r183
  case h183 => intro w hSw; obtain ⟨h0, h1, h2, h3, h4, h5⟩ := hSw; go_simp; rfl
  simp only [Act.put, List.setIfInBounds_toArray, List.set_cons_zero, List.set_cons_succ]
  refine take_on (i := 29) (d := (some 42)) (v := ?v184) rfl rfl (by kernel_rfl) (by kernel_rfl) (by kernel_rfl) (fun c a w h => h) (by rfl) ?h184 (by assumption) ?r184
  case h184 => intro w hSw; obtain ⟨h0, h1, h2, h3, h4, h5⟩ := hSw; go_simp; rfl
  simp only [Act.put, List.setIfInBounds_toArray, List.set_cons_zero, List.set_cons_succ]
  refine take_off (i := 30) (d := (some 43)) rfl rfl (by kernel_rfl) (by kernel_rfl) (by kernel_rfl) (fun c a w h => h) (by rfl) (by assumption) ?_
  simp only [Act.put, List.setIfInBounds_toArray, List.set_cons_zero, List.set_cons_succ]
  refine take_off (i := 31) (d := (some 44)) rfl rfl (by kernel_rfl) (by kernel_rfl) (by kernel_rfl) (fun c a w h => h) (by rfl) (by assumption) ?_
  simp only [Act.put, List.setIfInBounds_toArray, List.set_cons_zero, List.set_cons_succ]
  refine take_off (i := 32) (d := (some 45)) rfl rfl (by kernel_rfl) (by kernel_rfl) (by kernel_rfl) (fun c a w h => h) (by rfl) (by assumption) ?_
  simp only [Act.put, List.setIfInBounds_toArray, List.set_cons_zero, List.set_cons_succ]
  refine take_off (i := 33) (d := (some 46)) rfl rfl (by kernel_rfl) (by kernel_rfl) (by kernel_rfl) (fun c a w h => h) (by rfl) (by assumption) ?_
  simp only [Act.put, List.setIfInBounds_toArray, List.set_cons_zero, List.set_cons_succ]
  refine take_on (i := 34) (d := (some 47)) (v := ?v189) rfl rfl (by kernel_rfl) (by kernel_rfl) (by kernel_rfl) (fun c a w h => h) (by rfl) ?h189 (by assumption) ?r189
  case h189 => intro w hSw; obtain ⟨h0, h1, h2, h3, h4, h5⟩ := hSw; go_simp; rfl
  simp only [Act.put, List.setIfInBounds_toArray, List.set_cons_zero, List.set_cons_succ]
  clear hHeld
  refine wpAnyH_done (by kernel_rfl) ?_ _
  go_wp2_with fail
  refine (awake8_c _).mono ?_
  rintro e u9 ⟨rfl, b9⟩
  have P9 := Lib.hid (E.out.below.trans (b9.mono E.out.below.size))
  clear b9
  go_wp2
  go_ret
  exact ⟨rfl, P9.out⟩
set_option maxHeartbeats 8000000 in
theorem LucasOnly_6 (s1 : Bool) (A1 A2 A3 : Option Addr) (n1 c1 n2 c2 n3 c3 : Nat) (xs1 xs2 xs3 : List Nat) (w : World) (h1 : Rd w A1 n1 xs1) (h2 : Rd w A2 n2 xs2) (h3 : Rd w A3 n3 xs3) (hv1 : validB s1 xs1 = true) (hv2 : validB false xs2 = true) (hv3 : validB false xs3 = true) (hsh : decide (n1 ≤ 60 ∧ n2 ≤ 60 ∧ n3 ≤ 60) = true) (k1 : n1 ≤ c1) (e1 : c1 ≤ 9223372036854775807) (hlt : sgn s1 (val xs1) < 2) :
    Calls Try.prog 8 #[.agg #[.bool s1, .slice A1 n1 c1], .agg #[.bool false, .slice A2 n2 c2], .agg #[.bool false, .slice A3 n3 c3]] w (IsB true w) := by
  have E := Lib.hid (Rb3.start (s1 := s1) (s2 := false) (s3 := false) (c1 := c1) (c2 := c2) (c3 := c3) h1 h2 h3)
  have HV1 := Lib.hid hv1
  have HV2 := Lib.hid hv2
  have HV3 := Lib.hid hv3
  have HSH := Lib.hid hsh
  have HI1 := Lib.hid (fun (W : World) (r : Rd W A1 n1 xs1) => raw_iv (s := s1) (c := c1) r hv1 k1 e1)
  have HO := Lib.hid (ord_lt hlt)
  clear hlt k1 e1
  clear h1 h2 h3 hv1 hv2 hv3 hsh
  go_enter Try.func8, Try.ntmps8
  go_upto_region 1 with (fail)
  generalize ((w.alloc (.cells #[.bool s1, .slice A1 n1 c1] 24)).alloc (.cells #[.bool false, .slice A2 n2 c2] 24)).alloc (.cells #[.bool false, .slice A3 n3 c3] 24) = W0 at E ⊢
  refine wp_region_held_drew (S := (fun w' => w'.cell? ⟨w.heap.size, 0, none⟩ = some (.bool s1) ∧ w'.cell? ⟨w.heap.size, 1, none⟩ = some (.slice A1 n1 c1) ∧ w'.cell? ⟨w.heap.size + 1, 0, none⟩ = some (.bool false) ∧ w'.cell? ⟨w.heap.size + 1, 1, none⟩ = some (.slice A2 n2 c2) ∧ w'.cell? ⟨w.heap.size + 1 + 1, 0, none⟩ = some (.bool false) ∧ w'.cell? ⟨w.heap.size + 1 + 1, 1, none⟩ = some (.slice A3 n3 c3))) (by kernel_rfl) ⟨cell_dr E.out.b1.c0, cell_dr E.out.b1.c1, cell_dr E.out.b2.c0, cell_dr E.out.b2.c1, cell_dr E.out.b3.c0, cell_dr E.out.b3.c1⟩ (fun hHeld => ?_)
  replace E := Lib.hid (E.out.next (Below.refl W0.heap.size W0).drew)
  generalize W0.drew = D0 at E hHeld ⊢
  refine take_on (i := 0) (d := (some 13)) (v := ?v190) rfl rfl (by kernel_rfl) (by kernel_rfl) (by kernel_rfl) (fun c a w h => h) (by rfl) ?h190 (by assumption) ?r190
  case h190 => intro w hSw; obtain ⟨h0, h1, h2, h3, h4, h5⟩ := hSw; go_simp; rfl
  simp only [Act.put, List.setIfInBounds_toArray, List.set_cons_zero, List.set_cons_succ]
  refine wpAnyH_ready (rs := [1]) (by kernel_rfl) (by simp) ?_
  refine AllReadyH.cons rfl (fun K hK => ?_) AllReadyH.nil
  go_simp
  refine (refValid_c s1 A1 n1 c1 xs1 _ E.out.b1.rd).mono ?_
  rw [HV1.out]
  rintro e u1 ⟨rfl, hb⟩
  replace E := Lib.hid (E.out.next hb)
  clear hb hHeld
  refine hK.out _ _ ⟨E.out.b1.c0, E.out.b1.c1, E.out.b2.c0, E.out.b2.c1, E.out.b3.c0, E.out.b3.c1⟩ (fun hHeld => ?_)
  clear hK K
  refine take_on (i := 2) (d := (some 15)) (v := ?v191) rfl rfl (by kernel_rfl) (by kernel_rfl) (by kernel_rfl) (fun c a w h => h) (by rfl) ?h191 (by assumption) ?r191
  case h191 => intro w hSw; obtain ⟨h0, h1, h2, h3, h4, h5⟩ := hSw; go_simp; rfl
  simp only [Act.put, List.setIfInBounds_toArray, List.set_cons_zero, List.set_cons_succ]
  refine take_on (i := 3) (d := (some 16)) (v := ?v192) rfl rfl (by kernel_rfl) (by kernel_rfl) (by kernel_rfl) (fun c a w h => h) (by rfl) ?h192 (by assumption) ?r192
  case h192 => intro w hSw; obtain ⟨h0, h1, h2, h3, h4, h5⟩ := hSw; go_simp; rfl
  simp only [Act.put, List.setIfInBounds_toArray, List.set_cons_zero, List.set_cons_succ]
  refine take_on (i := 4) (d := (some 17)) (v := ?v193) rfl rfl (by kernel_rfl) (by kernel_rfl) (by kernel_rfl) (fun c a w h => h) (by rfl) ?h193 (by assumption) ?r193
  case h193 => intro w hSw; obtain ⟨h0, h1, h2, h3, h4, h5⟩ := hSw; go_simp; rfl
  simp only [Act.put, List.setIfInBounds_toArray, List.set_cons_zero, List.set_cons_succ]
  refine wpAnyH_ready (rs := [5]) (by kernel_rfl) (by simp) ?_
  refine AllReadyH.cons rfl (fun K hK => ?_) AllReadyH.nil
  go_simp
  refine (refValid_c false A2 n2 c2 xs2 _ E.out.b2.rd).mono ?_
  rw [HV2.out]
  rintro e u2 ⟨rfl, hb⟩
  replace E := Lib.hid (E.out.next hb)
  clear hb hHeld
  refine hK.out _ _ ⟨E.out.b1.c0, E.out.b1.c1, E.out.b2.c0, E.out.b2.c1, E.out.b3.c0, E.out.b3.c1⟩ (fun hHeld => ?_)
  clear hK K
  refine take_on (i := 6) (d := (some 19)) (v := ?v194) rfl rfl (by kernel_rfl) (by kernel_rfl) (by kernel_rfl) (fun c a w h => h) (by rfl) ?h194 (by assumption) ?r194
  case h194 => intro w hSw; obtain ⟨h0, h1, h2, h3, h4, h5⟩ := hSw; go_simp; rfl
  simp only [Act.put, List.setIfInBounds_toArray, List.set_cons_zero, List.set_cons_succ]
  refine take_on (i := 7) (d := (some 20)) (v := ?v195) rfl rfl (by kernel_rfl) (by kernel_rfl) (by kernel_rfl) (fun c a w h => h) (by rfl) ?h195 (by assumption) ?r195
  case h195 => intro w hSw; obtain ⟨h0, h1, h2, h3, h4, h5⟩ := hSw; go_simp; rfl
  simp only [Act.put, List.setIfInBounds_toArray, List.set_cons_zero, List.set_cons_succ]
  refine take_on (i := 8) (d := (some 21)) (v := ?v196) rfl rfl (by kernel_rfl) (by kernel_rfl) (by kernel_rfl) (fun c a w h => h) (by rfl) ?h196 (by assumption) ?r196
  case h196 => intro w hSw; obtain ⟨h0, h1, h2, h3, h4, h5⟩ := hSw; go_simp; rfl
  simp only [Act.put, List.setIfInBounds_toArray, List.set_cons_zero, List.set_cons_succ]
  refine take_on (i := 9) (d := (some 22)) (v := ?v197) rfl rfl (by kernel_rfl) (by kernel_rfl) (by kernel_rfl) (fun c a w h => h) (by rfl) ?h197 (by assumption) ?r197
  case h197 => intro w hSw; obtain ⟨h0, h1, h2, h3, h4, h5⟩ := hSw; go_simp; rfl
  simp only [Act.put, List.setIfInBounds_toArray, List.set_cons_zero, List.set_cons_succ]
  refine wpAnyH_ready (rs := [10]) (by kernel_rfl) (by simp) ?_
  refine AllReadyH.cons rfl (fun K hK => ?_) AllReadyH.nil
  go_simp
  refine (refValid_c false A3 n3 c3 xs3 _ E.out.b3.rd).mono ?_
  rw [HV3.out]
  rintro e u3 ⟨rfl, hb⟩
  replace E := Lib.hid (E.out.next hb)
  clear hb hHeld
  refine hK.out _ _ ⟨E.out.b1.c0, E.out.b1.c1, E.out.b2.c0, E.out.b2.c1, E.out.b3.c0, E.out.b3.c1⟩ (fun hHeld => ?_)
  clear hK K
  refine take_on (i := 11) (d := (some 24)) (v := ?v198) rfl rfl (by kernel_rfl) (by kernel_rfl) (by kernel_rfl) (fun c a w h => h) (by rfl) ?h198 (by assumption) ?r198
  case h198 => intro w hSw; obtain ⟨h0, h1, h2, h3, h4, h5⟩ := hSw; go_simp; rfl
  simp only [Act.put, List.setIfInBounds_toArray, List.set_cons_zero, List.set_cons_succ]
  refine take_on (i := 12) (d := (some 25)) (v := ?v199) rfl rfl (by kernel_rfl) (by kernel_rfl) (by kernel_rfl) (fun c a w h => h) (by rfl) ?h199 (by assumption) ?r199
  case h199 => intro w hSw; obtain ⟨h0, h1, h2, h3, h4, h5⟩ := hSw; go_simp; rfl
  simp only [Act.put, List.setIfInBounds_toArray, List.set_cons_zero, List.set_cons_succ]
  refine take_on (i := 13) (d := (some 26)) (v := ?v200) rfl rfl (by kernel_rfl) (by kernel_rfl) (by kernel_rfl) (fun c a w h => h) (by rfl) ?h200 (by assumption) ?r200
  case h200 => intro w hSw; obtain ⟨h0, h1, h2, h3, h4, h5⟩ := hSw; go_simp; rfl
  simp only [Act.put, List.setIfInBounds_toArray, List.set_cons_zero, List.set_cons_succ]
  refine take_on (i := 14) (d := (some 27)) (v := ?v201) rfl rfl (by kernel_rfl) (by kernel_rfl) (by kernel_rfl) (fun c a w h => h) (by rfl) ?h201 (by assumption) ?r201
  case h201 => intro w hSw; obtain ⟨h0, h1, h2, h3, h4, h5⟩ := hSw; go_simp; rfl
  simp only [Act.put, List.setIfInBounds_toArray, List.set_cons_zero, List.set_cons_succ]
  refine take_on (i := 15) (d := (some 28)) (v := ?v202) rfl rfl (by kernel_rfl) (by kernel_rfl) (by kernel_rfl) (fun c a w h => h) (by rfl) ?h202 (by assumption) ?r202
  case h202 => intro w hSw; obtain ⟨h0, h1, h2, h3, h4, h5⟩ := hSw; go_simp; rfl
  simp only [Act.put, List.setIfInBounds_toArray, List.set_cons_zero, List.set_cons_succ]
  refine take_on (i := 16) (d := (some 29)) (v := ?v203) rfl rfl (by kernel_rfl) (by kernel_rfl) (by kernel_rfl) (fun c a w h => h) (by rfl) ?h203 (by assumption) ?r203
  case h203 => intro w hSw; obtain ⟨h0, h1, h2, h3, h4, h5⟩ := hSw; go_simp; rfl
  simp only [Act.put, List.setIfInBounds_toArray, List.set_cons_zero, List.set_cons_succ]
  refine wpAnyH_ready (rs := [17]) (by kernel_rfl) (by simp) ?_
  refine AllReadyH.cons rfl (fun K hK => ?_) AllReadyH.nil
  go_simp
  have hb := below_alloc u3 (.cells #[.bool s1, .slice A1 n1 c1, .bool false, .slice A2 n2 c2, .bool false, .slice A3 n3 c3] 24)
  replace E := Lib.hid (E.out.next hb)
  clear hb hHeld
  refine hK.out _ _ ⟨E.out.b1.c0, E.out.b1.c1, E.out.b2.c0, E.out.b2.c1, E.out.b3.c0, E.out.b3.c1⟩ (fun hHeld => ?_)
  clear hK K
  refine wpAnyH_ready (rs := [18]) (by kernel_rfl) (by simp) ?_
  refine AllReadyH.cons rfl (fun K hK => ?_) AllReadyH.nil
  go_simp
  refine (short3_c 60 _ A1 A2 A3 n1 c1 n2 c2 n3 c3 _ (by go_simp) (by go_simp) (by go_simp)).mono ?_
  rw [HSH.out]
  rintro e u4 ⟨rfl, hb⟩
  replace E := Lib.hid (E.out.next hb)
  clear hb hHeld
  refine hK.out _ _ ⟨E.out.b1.c0, E.out.b1.c1, E.out.b2.c0, E.out.b2.c1, E.out.b3.c0, E.out.b3.c1⟩ (fun hHeld => ?_)
  clear hK K
  refine take_on (i := 19) (d := (some 32)) (v := ?v204) rfl rfl (by kernel_rfl) (by kernel_rfl) (by kernel_rfl) (fun c a w h => h) (by rfl) ?h204 (by assumption) ?r204
  case h204 => intro w hSw; obtain ⟨h0, h1, h2, h3, h4, h5⟩ := hSw; go_simp; rfl
  simp only [Act.put, List.setIfInBounds_toArray, List.set_cons_zero, List.set_cons_succ]
  refine take_on (i := 20) (d := (some 33)) (v := ?v205) rfl rfl (by kernel_rfl) (by kernel_rfl) (by kernel_rfl) (fun c a w h => h) (by rfl) ?h205 (by assumption) ?r205
  case h205 => intro w hSw; obtain ⟨h0, h1, h2, h3, h4, h5⟩ := hSw; go_simp; rfl
  simp only [Act.put, List.setIfInBounds_toArray, List.set_cons_zero, List.set_cons_succ]
  refine take_on (i := 21) (d := (some 34)) (v := ?v206) rfl rfl (by kernel_rfl) (by kernel_rfl) (by kernel_rfl) (fun c a w h => h) (by rfl) ?h206 (by assumption) ?r206
  case h206 => intro w hSw; obtain ⟨h0, h1, h2, h3, h4, h5⟩ := hSw; go_simp; rfl
  simp only [Act.put, List.setIfInBounds_toArray, List.set_cons_zero, List.set_cons_succ]
  refine take_on (i := 22) (d := (some 35)) (v := ?v207) rfl rfl (by kernel_rfl) (by kernel_rfl) (by kernel_rfl) (fun c a w h => h) (by rfl) ?h207 (by assumption) ?r207
  case h207 => intro w hSw; obtain ⟨h0, h1, h2, h3, h4, h5⟩ := hSw; go_simp; rfl
  simp only [Act.put, List.setIfInBounds_toArray, List.set_cons_zero, List.set_cons_succ]
  refine take_on (i := 23) (d := (some 36)) (v := ?v208) rfl rfl (by kernel_rfl) (by kernel_rfl) (by kernel_rfl) (fun c a w h => h) (by rfl) ?h208 (by assumption) ?r208
  case h208 => intro w hSw; obtain ⟨h0, h1, h2, h3, h4, h5⟩ := hSw; go_simp; rfl
  simp only [Act.put, List.setIfInBounds_toArray, List.set_cons_zero, List.set_cons_succ]
  refine take_on (i := 24) (d := (some 37)) (v := ?v209) rfl rfl (by kernel_rfl) (by kernel_rfl) (by kernel_rfl) (fun c a w h => h) (by rfl) ?h209 (by assumption) ?r209
  case h209 => intro w hSw; obtain ⟨h0, h1, h2, h3, h4, h5⟩ := hSw; go_simp; rfl
  simp only [Act.put, List.setIfInBounds_toArray, List.set_cons_zero, List.set_cons_succ]
  refine take_on (i := 25) (d := (some 38)) (v := ?v210) rfl rfl (by kernel_rfl) (by kernel_rfl) (by kernel_rfl) (fun c a w h => h) (by rfl) ?h210 (by assumption) ?r210
  case h210 => intro w hSw; obtain ⟨h0, h1, h2, h3, h4, h5⟩ := hSw; go_simp; rfl
  simp only [Act.put, List.setIfInBounds_toArray, List.set_cons_zero, List.set_cons_succ]
  refine take_on (i := 26) (d := (some 39)) (v := ?v211) rfl rfl (by kernel_rfl) (by kernel_rfl) (by kernel_rfl) (fun c a w h => h) (by rfl) ?h211 (by assumption) ?r211
  case h211 => intro w hSw; obtain ⟨h0, h1, h2, h3, h4, h5⟩ := hSw; go_simp; rfl
  simp only [Act.put, List.setIfInBounds_toArray, List.set_cons_zero, List.set_cons_succ]
  refine take_on (i := 27) (d := (some 40)) (v := ?v212) rfl rfl (by kernel_rfl) (by kernel_rfl) (by kernel_rfl) (fun c a w h => h) (by rfl) ?h212 (by assumption) ?r212
  case h212 => intro w hSw; obtain ⟨h0, h1, h2, h3, h4, h5⟩ := hSw; go_simp; rfl
  simp only [Act.put, List.setIfInBounds_toArray, List.set_cons_zero, List.set_cons_succ]
  refine take_on (i := 28) (d := (some 41)) (v := ?v213) rfl rfl (by kernel_rfl) (by kernel_rfl) (by kernel_rfl) (fun c a w h => h) (by rfl) ?h213 (by assumption) ?r213
  case h213 => intro w hSw; obtain ⟨h0, h1, h2, h3, h4, h5⟩ := hSw; go_simp; rfl
  simp only [Act.put, List.setIfInBounds_toArray, List.set_cons_zero, List.set_cons_succ]
  refine take_on (i := 29) (d := (some 42)) (v := ?v214) rfl rfl (by kernel_rfl) (by kernel_rfl) (by kernel_rfl) (fun c a w h => h) (by rfl) ?h214 (by assumption) ?r214
  case h214 => intro w hSw; obtain ⟨h0, h1, h2, h3, h4, h5⟩ := hSw; go_simp; rfl
  simp only [Act.put, List.setIfInBounds_toArray, List.set_cons_zero, List.set_cons_succ]
  refine take_on (i := 30) (d := (some 43)) (v := ?v215) rfl rfl (by kernel_rfl) (by kernel_rfl) (by kernel_rfl) (fun c a w h => h) (by rfl) ?h215 (by assumption) ?r215
  case h215 => intro w hSw; obtain ⟨h0, h1, h2, h3, h4, h5⟩ := hSw; go_simp; rfl
  simp only [Act.put, List.setIfInBounds_toArray, List.set_cons_zero, List.set_cons_succ]
  refine wpAnyH_ready (rs := [31]) (by kernel_rfl) (by simp) ?_
  refine AllReadyH.cons rfl (fun K hK => ?_) AllReadyH.nil
  go_simp
  refine (refOfV 2 _ (by omega) (by omega)).mono ?_
  rintro e u5 ⟨t5, B5, m5, d5, rfl, i5, hb⟩
  have I5 := Lib.hid i5
  replace E := Lib.hid (E.out.next hb)
  clear hb hHeld i5
  refine hK.out _ _ ⟨E.out.b1.c0, E.out.b1.c1, E.out.b2.c0, E.out.b2.c1, E.out.b3.c0, E.out.b3.c1⟩ (fun hHeld => ?_)
  clear hK K
  refine wpAnyH_ready (rs := [32]) (by kernel_rfl) (by simp) ?_
  refine AllReadyH.cons rfl (fun K hK => ?_) AllReadyH.nil
  go_simp
  refine (refCmp_c (HI1.out _ E.out.b1.rd).is I5.out.is (Nat.le_trans (raw_len E.out.b1.rd HV1.out) (by omega)) (Nat.le_trans (I5.out.is.len sz_two) (by omega))).mono ?_
  rw [HO.out]
  rintro e u6 ⟨rfl, hb⟩
  replace E := Lib.hid (E.out.next hb)
  clear hb hHeld I5
  refine hK.out _ _ ⟨E.out.b1.c0, E.out.b1.c1, E.out.b2.c0, E.out.b2.c1, E.out.b3.c0, E.out.b3.c1⟩ (fun hHeld => ?_)
  clear hK K
  refine take_on (i := 33) (d := (some 46)) (v := ?v216) rfl rfl (by kernel_rfl) (by kernel_rfl) (by kernel_rfl) (fun c a w h => h) (by rfl) ?h216 (by assumption) ?r216
  case h216 => intro w hSw; obtain ⟨h0, h1, h2, h3, h4, h5⟩ := hSw; go_simp; rfl
  simp only [Act.put, List.setIfInBounds_toArray, List.set_cons_zero, List.set_cons_succ]
  refine take_on (i := 34) (d := (some 47)) (v := ?v217) rfl rfl (by kernel_rfl) (by kernel_rfl) (by kernel_rfl) (fun c a w h => h) (by rfl) ?h217 (by assumption) ?r217
  case h217 => intro w hSw; obtain ⟨h0, h1, h2, h3, h4, h5⟩ := hSw; go_simp; rfl
  simp only [Act.put, List.setIfInBounds_toArray, List.set_cons_zero, List.set_cons_succ]
  clear hHeld
  refine wpAnyH_done (by kernel_rfl) ?_ _
  go_wp2_with fail
  refine (awake8_c _).mono ?_
  rintro e u9 ⟨rfl, b9⟩
  have P9 := Lib.hid (E.out.below.trans (b9.mono E.out.below.size))
  clear b9
  go_wp2
  go_ret
  exact ⟨rfl, P9.out⟩
end Go.Proofs.Ytbblckaplddggaa

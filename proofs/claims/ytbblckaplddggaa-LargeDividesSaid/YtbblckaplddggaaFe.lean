import Derived.Test.YtbblckaplddggaaFd
import Derived.Test.YtbblckaplddggaaWu
import Derived.Test.YtbblckaplddggaaMt
set_option maxRecDepth 100000
namespace Go.Proofs.Ytbblckaplddggaa
open Go.RowKit
theorem cell_d1 {w : World} {a : Addr} {v : Value} (h : w.cell? a = some v) : w.drew.cell? a = some v := h
set_option maxHeartbeats 8000000 in
theorem factors_c (A B : Option Addr) (n c m d : Nat) (xs ys : List Nat) (u0 v0 u1 v1 : Nat) (w : World) (ha : Rd w A n xs) (hb : Rd w B m ys) (hn : n < 35184372088832) (hm : m < 35184372088832) (hu0 : u0 < 4294967296) (hv0 : v0 < 4294967296) (hu1 : u1 < 4294967296) (hv1 : v1 < 4294967296) (odd : Bool) :
    Calls Try.prog 133 #[.agg #[.int .u64 (u0 : Int), .int .u64 (v0 : Int), .int .u64 (u1 : Int), .int .u64 (v1 : Int), .bool odd], .slice A n c, .slice B m d] w (Out2 w (u0 * val xs + v0 * val ys) (u1 * val xs + v1 * val ys)) := by
  have S := Lib.hid (St5.new w u0 v0 u1 v1 odd)
  have P := Lib.hid (below_alloc w (.cells #[.int .u64 (u0 : Int), .int .u64 (v0 : Int), .int .u64 (u1 : Int), .int .u64 (v1 : Int), .bool odd] 127))
  have RA := Lib.hid (ha.below P.out)
  have RB := Lib.hid (hb.below P.out)
  have HN := Lib.hid (And.intro hn hm)
  have HB := Lib.hid (And.intro (And.intro hu0 hv0) (And.intro hu1 hv1))
  clear hu0 hv0 hu1 hv1
  clear ha hb hn hm
  go_enter Try.func133, Try.ntmps133
  go_upto_region 1 with (fail)
  generalize w.alloc (.cells #[.int .u64 (u0 : Int), .int .u64 (v0 : Int), .int .u64 (u1 : Int), .int .u64 (v1 : Int), .bool odd] 127) = W0 at P S RA RB ⊢
  obtain ⟨ga, hga⟩ : ∃ g, g = w.heap.size := ⟨_, rfl⟩
  rw [← hga] at S ⊢
  clear hga
  refine wp_region_tail (S := (fun w' => w'.cell? ⟨ga, 0, none⟩ = some (.int .u64 (u0 : Int)) ∧ w'.cell? ⟨ga, 1, none⟩ = some (.int .u64 (v0 : Int)) ∧ w'.cell? ⟨ga, 2, none⟩ = some (.int .u64 (u1 : Int)) ∧ w'.cell? ⟨ga, 3, none⟩ = some (.int .u64 (v1 : Int)))) 14 (by kernel_rfl) (by kernel_rfl) (by intro c a d v w h; cases d <;> exact h) ⟨cell_d1 S.out.c0, cell_d1 S.out.c1, cell_d1 S.out.c2, cell_d1 S.out.c3⟩ (fun QT hT hP hHeld => ?_)
  simp only [List.extract_toArray, List.extract_eq_take_drop, List.drop_zero, Nat.sub_zero, List.take_succ_cons, List.take_zero]
  have HT := Lib.hid hT
  clear hT
  replace P := Lib.hid (P.out.trans ((Below.refl W0.heap.size W0).drew.mono P.out.size))
  replace S := Lib.hid (S.out.next (Below.refl W0.heap.size W0).drew)
  replace RA := Lib.hid (RA.out.below (Below.refl W0.heap.size W0).drew)
  replace RB := Lib.hid (RB.out.below (Below.refl W0.heap.size W0).drew)
  generalize W0.drew = D1 at P S RA RB hHeld ⊢
  refine take_on (i := 0) (d := (some 8)) (v := ?v1) rfl rfl (by kernel_rfl) (by kernel_rfl) (by kernel_rfl) (fun c a w h => hP c a _ _ w h) (by rfl) ?h1 (by assumption) ?r1
  case h1 => intro w hSw; obtain ⟨h0, h1, h2, h3⟩ := hSw; go_simp; rfl
  simp only [Act.put, List.setIfInBounds_toArray, List.set_cons_zero, List.set_cons_succ]
  refine take_on (i := 1) (d := (some 9)) (v := ?v2) rfl rfl (by kernel_rfl) (by kernel_rfl) (by kernel_rfl) (fun c a w h => hP c a _ _ w h) (by rfl) ?h2 (by assumption) ?r2
  case h2 => intro w hSw; obtain ⟨h0, h1, h2, h3⟩ := hSw; go_simp; rfl
  simp only [Act.put, List.setIfInBounds_toArray, List.set_cons_zero, List.set_cons_succ]
  refine take_on (i := 2) (d := (some 10)) (v := ?v3) rfl rfl (by kernel_rfl) (by kernel_rfl) (by kernel_rfl) (fun c a w h => hP c a _ _ w h) (by rfl) ?h3 (by assumption) ?r3
  case h3 => intro w hSw; obtain ⟨h0, h1, h2, h3⟩ := hSw; go_simp; rfl
  simp only [Act.put, List.setIfInBounds_toArray, List.set_cons_zero, List.set_cons_succ]
  refine take_on (i := 3) (d := (some 11)) (v := ?v4) rfl rfl (by kernel_rfl) (by kernel_rfl) (by kernel_rfl) (fun c a w h => hP c a _ _ w h) (by rfl) ?h4 (by assumption) ?r4
  case h4 => intro w hSw; obtain ⟨h0, h1, h2, h3⟩ := hSw; go_simp; rfl
  simp only [Act.put, List.setIfInBounds_toArray, List.set_cons_zero, List.set_cons_succ]
  refine take_on (i := 4) (d := (some 12)) (v := ?v5) rfl rfl (by kernel_rfl) (by kernel_rfl) (by kernel_rfl) (fun c a w h => hP c a _ _ w h) (by rfl) ?h5 (by assumption) ?r5
  case h5 => intro w hSw; obtain ⟨h0, h1, h2, h3⟩ := hSw; go_simp; rfl
  simp only [Act.put, List.setIfInBounds_toArray, List.set_cons_zero, List.set_cons_succ]
  refine take_on (i := 5) (d := (some 13)) (v := ?v6) rfl rfl (by kernel_rfl) (by kernel_rfl) (by kernel_rfl) (fun c a w h => hP c a _ _ w h) (by rfl) ?h6 (by assumption) ?r6
  case h6 => intro w hSw; obtain ⟨h0, h1, h2, h3⟩ := hSw; go_simp; rfl
  simp only [Act.put, List.setIfInBounds_toArray, List.set_cons_zero, List.set_cons_succ]
  refine take_on (i := 7) (d := (some 15)) (v := ?v7) rfl rfl (by kernel_rfl) (by kernel_rfl) (by kernel_rfl) (fun c a w h => hP c a _ _ w h) (by rfl) ?h7 (by assumption) ?r7
  case h7 => intro w hSw; obtain ⟨h0, h1, h2, h3⟩ := hSw; go_simp; rfl
  simp only [Act.put, List.setIfInBounds_toArray, List.set_cons_zero, List.set_cons_succ]
  refine take_on (i := 8) (d := (some 16)) (v := ?v8) rfl rfl (by kernel_rfl) (by kernel_rfl) (by kernel_rfl) (fun c a w h => hP c a _ _ w h) (by rfl) ?h8 (by assumption) ?r8
  case h8 => intro w hSw; obtain ⟨h0, h1, h2, h3⟩ := hSw; go_simp; rfl
  simp only [Act.put, List.setIfInBounds_toArray, List.set_cons_zero, List.set_cons_succ]
  refine take_on (i := 9) (d := (some 17)) (v := ?v9) rfl rfl (by kernel_rfl) (by kernel_rfl) (by kernel_rfl) (fun c a w h => hP c a _ _ w h) (by rfl) ?h9 (by assumption) ?r9
  case h9 => intro w hSw; obtain ⟨h0, h1, h2, h3⟩ := hSw; go_simp; rfl
  simp only [Act.put, List.setIfInBounds_toArray, List.set_cons_zero, List.set_cons_succ]
  refine take_on (i := 10) (d := (some 18)) (v := ?v10) rfl rfl (by kernel_rfl) (by kernel_rfl) (by kernel_rfl) (fun c a w h => hP c a _ _ w h) (by rfl) ?h10 (by assumption) ?r10
  case h10 => intro w hSw; obtain ⟨h0, h1, h2, h3⟩ := hSw; go_simp; rfl
  simp only [Act.put, List.setIfInBounds_toArray, List.set_cons_zero, List.set_cons_succ]
  refine take_on (i := 11) (d := (some 19)) (v := ?v11) rfl rfl (by kernel_rfl) (by kernel_rfl) (by kernel_rfl) (fun c a w h => hP c a _ _ w h) (by rfl) ?h11 (by assumption) ?r11
  case h11 => intro w hSw; obtain ⟨h0, h1, h2, h3⟩ := hSw; go_simp; rfl
  simp only [Act.put, List.setIfInBounds_toArray, List.set_cons_zero, List.set_cons_succ]
  refine take_on (i := 12) (d := (some 20)) (v := ?v12) rfl rfl (by kernel_rfl) (by kernel_rfl) (by kernel_rfl) (fun c a w h => hP c a _ _ w h) (by rfl) ?h12 (by assumption) ?r12
  case h12 => intro w hSw; obtain ⟨h0, h1, h2, h3⟩ := hSw; go_simp; rfl
  simp only [Act.put, List.setIfInBounds_toArray, List.set_cons_zero, List.set_cons_succ]
  refine wpAnyH_ready (rs := [6]) (by kernel_rfl) (by simp) ?_
  refine AllReadyH.cons rfl (fun K hK => ?_) AllReadyH.nil
  go_simp
  refine (mixed_add A B n c m d u0 v0 xs ys _ RA.out RB.out HB.out.1.1 HB.out.1.2 HN.out.1 HN.out.2).mono ?_
  rintro e w2 ⟨E1, d1, rfl, q1, l1, m1, hb, -⟩
  replace P := Lib.hid (P.out.trans (hb.mono P.out.size))
  replace S := Lib.hid (S.out.next hb)
  replace RA := Lib.hid (RA.out.below hb)
  replace RB := Lib.hid (RB.out.below hb)
  have Q1 := Lib.hid (q1)
  clear hb hHeld
  have L1 := Lib.hid (And.intro l1 m1)
  clear q1 l1 m1
  refine hK.out _ _ ⟨S.out.c0, S.out.c1, S.out.c2, S.out.c3⟩ (fun hHeld => ?_)
  clear hK K
  refine wpAnyH_ready (rs := [13]) (by kernel_rfl) (by simp) ?_
  refine AllReadyH.cons rfl (fun K hK => ?_) AllReadyH.nil
  go_simp
  refine (mixed_add A B n c m d u1 v1 xs ys _ RA.out RB.out HB.out.2.1 HB.out.2.2 HN.out.1 HN.out.2).mono ?_
  rintro e w3 ⟨E2, d2, rfl, q2, l2, m2, hb, -⟩
  replace P := Lib.hid (P.out.trans (hb.mono P.out.size))
  replace S := Lib.hid (S.out.next hb)
  replace RA := Lib.hid (RA.out.below hb)
  replace RB := Lib.hid (RB.out.below hb)
  replace Q1 := Lib.hid (Q1.out.below hb)
  have Q2 := Lib.hid (q2)
  clear hb hHeld
  have L2 := Lib.hid (And.intro l2 m2)
  clear q2 l2 m2
  refine hK.out _ _ ⟨S.out.c0, S.out.c1, S.out.c2, S.out.c3⟩ (fun hHeld => ?_)
  clear hK K
  clear hHeld
  refine wpAnyH_done (by kernel_rfl) ?_ _
  refine HT.out _ _ ?_
  clear HT hP QT
  refine wpList_step fun K hK => ?_
  go_simp
  refine hK _ _ ?_
  clear hK K
  refine wpList_step fun K hK => ?_
  go_simp
  refine hK _ _ ?_
  clear hK K
  refine wpList_nil ?_
  go_wp2
  go_ret2
  exact ⟨_, _, _, _, rfl, Q1.out, L1.out.1, L1.out.2, Q2.out, L2.out.1, L2.out.2, P.out⟩
set_option maxHeartbeats 8000000 in
theorem rests_odd (A B : Option Addr) (n c m d : Nat) (xs ys : List Nat) (u0 v0 u1 v1 : Nat) (w : World) (ha : Rd w A n xs) (hb : Rd w B m ys) (hn : n < 35184372088832) (hm : m < 35184372088832) (hu0 : u0 < 4294967296) (hv0 : v0 < 4294967296) (hu1 : u1 < 4294967296) (hv1 : v1 < 4294967296) (h1 : u0 * val xs ≤ v0 * val ys) (h2 : v1 * val ys ≤ u1 * val xs) :
    Calls Try.prog 132 #[.agg #[.int .u64 (u0 : Int), .int .u64 (v0 : Int), .int .u64 (u1 : Int), .int .u64 (v1 : Int), .bool true], .slice A n c, .slice B m d] w (Out2 w (v0 * val ys - u0 * val xs) (u1 * val xs - v1 * val ys)) := by
  have S := Lib.hid (St5.new w u0 v0 u1 v1 true)
  have P := Lib.hid (below_alloc w (.cells #[.int .u64 (u0 : Int), .int .u64 (v0 : Int), .int .u64 (u1 : Int), .int .u64 (v1 : Int), .bool true] 127))
  have RA := Lib.hid (ha.below P.out)
  have RB := Lib.hid (hb.below P.out)
  have HN := Lib.hid (And.intro hn hm)
  have HB := Lib.hid (And.intro (And.intro hu0 hv0) (And.intro hu1 hv1))
  clear hu0 hv0 hu1 hv1
  have HL := Lib.hid (And.intro h1 h2)
  clear h1 h2
  clear ha hb hn hm
  go_enter Try.func132, Try.ntmps132
  go_upto_region 1 with (fail)
  generalize w.alloc (.cells #[.int .u64 (u0 : Int), .int .u64 (v0 : Int), .int .u64 (u1 : Int), .int .u64 (v1 : Int), .bool true] 127) = W0 at P S RA RB ⊢
  obtain ⟨ga, hga⟩ : ∃ g, g = w.heap.size := ⟨_, rfl⟩
  rw [← hga] at S ⊢
  clear hga
  have y4 := S.out.c4
  go_upto_region 2 with (fail)
  clear y4
  refine wp_region_tail (S := (fun w' => w'.cell? ⟨ga, 0, none⟩ = some (.int .u64 (u0 : Int)) ∧ w'.cell? ⟨ga, 1, none⟩ = some (.int .u64 (v0 : Int)) ∧ w'.cell? ⟨ga, 2, none⟩ = some (.int .u64 (u1 : Int)) ∧ w'.cell? ⟨ga, 3, none⟩ = some (.int .u64 (v1 : Int)))) 14 (by kernel_rfl) (by kernel_rfl) (by intro c a d v w h; cases d <;> exact h) ⟨cell_d1 S.out.c0, cell_d1 S.out.c1, cell_d1 S.out.c2, cell_d1 S.out.c3⟩ (fun QT hT hP hHeld => ?_)
  simp only [List.extract_toArray, List.extract_eq_take_drop, List.drop_zero, Nat.sub_zero, List.take_succ_cons, List.take_zero]
  have HT := Lib.hid hT
  clear hT
  replace P := Lib.hid (P.out.trans ((Below.refl W0.heap.size W0).drew.mono P.out.size))
  replace S := Lib.hid (S.out.next (Below.refl W0.heap.size W0).drew)
  replace RA := Lib.hid (RA.out.below (Below.refl W0.heap.size W0).drew)
  replace RB := Lib.hid (RB.out.below (Below.refl W0.heap.size W0).drew)
  generalize W0.drew = D4 at P S RA RB hHeld ⊢
  refine take_on (i := 0) (d := (some 10)) (v := ?v13) rfl rfl (by kernel_rfl) (by kernel_rfl) (by kernel_rfl) (fun c a w h => hP c a _ _ w h) (by rfl) ?h13 (by assumption) ?r13
  case h13 => intro w hSw; obtain ⟨h0, h1, h2, h3⟩ := hSw; go_simp; rfl
  simp only [Act.put, List.setIfInBounds_toArray, List.set_cons_zero, List.set_cons_succ]
  refine take_on (i := 1) (d := (some 11)) (v := ?v14) rfl rfl (by kernel_rfl) (by kernel_rfl) (by kernel_rfl) (fun c a w h => hP c a _ _ w h) (by rfl) ?h14 (by assumption) ?r14
  case h14 => intro w hSw; obtain ⟨h0, h1, h2, h3⟩ := hSw; go_simp; rfl
  simp only [Act.put, List.setIfInBounds_toArray, List.set_cons_zero, List.set_cons_succ]
  refine take_on (i := 2) (d := (some 12)) (v := ?v15) rfl rfl (by kernel_rfl) (by kernel_rfl) (by kernel_rfl) (fun c a w h => hP c a _ _ w h) (by rfl) ?h15 (by assumption) ?r15
  case h15 => intro w hSw; obtain ⟨h0, h1, h2, h3⟩ := hSw; go_simp; rfl
  simp only [Act.put, List.setIfInBounds_toArray, List.set_cons_zero, List.set_cons_succ]
  refine take_on (i := 3) (d := (some 13)) (v := ?v16) rfl rfl (by kernel_rfl) (by kernel_rfl) (by kernel_rfl) (fun c a w h => hP c a _ _ w h) (by rfl) ?h16 (by assumption) ?r16
  case h16 => intro w hSw; obtain ⟨h0, h1, h2, h3⟩ := hSw; go_simp; rfl
  simp only [Act.put, List.setIfInBounds_toArray, List.set_cons_zero, List.set_cons_succ]
  refine take_on (i := 4) (d := (some 14)) (v := ?v17) rfl rfl (by kernel_rfl) (by kernel_rfl) (by kernel_rfl) (fun c a w h => hP c a _ _ w h) (by rfl) ?h17 (by assumption) ?r17
  case h17 => intro w hSw; obtain ⟨h0, h1, h2, h3⟩ := hSw; go_simp; rfl
  simp only [Act.put, List.setIfInBounds_toArray, List.set_cons_zero, List.set_cons_succ]
  refine take_on (i := 5) (d := (some 15)) (v := ?v18) rfl rfl (by kernel_rfl) (by kernel_rfl) (by kernel_rfl) (fun c a w h => hP c a _ _ w h) (by rfl) ?h18 (by assumption) ?r18
  case h18 => intro w hSw; obtain ⟨h0, h1, h2, h3⟩ := hSw; go_simp; rfl
  simp only [Act.put, List.setIfInBounds_toArray, List.set_cons_zero, List.set_cons_succ]
  refine take_on (i := 7) (d := (some 17)) (v := ?v19) rfl rfl (by kernel_rfl) (by kernel_rfl) (by kernel_rfl) (fun c a w h => hP c a _ _ w h) (by rfl) ?h19 (by assumption) ?r19
  case h19 => intro w hSw; obtain ⟨h0, h1, h2, h3⟩ := hSw; go_simp; rfl
  simp only [Act.put, List.setIfInBounds_toArray, List.set_cons_zero, List.set_cons_succ]
  refine take_on (i := 8) (d := (some 18)) (v := ?v20) rfl rfl (by kernel_rfl) (by kernel_rfl) (by kernel_rfl) (fun c a w h => hP c a _ _ w h) (by rfl) ?h20 (by assumption) ?r20
  case h20 => intro w hSw; obtain ⟨h0, h1, h2, h3⟩ := hSw; go_simp; rfl
  simp only [Act.put, List.setIfInBounds_toArray, List.set_cons_zero, List.set_cons_succ]
  refine take_on (i := 9) (d := (some 19)) (v := ?v21) rfl rfl (by kernel_rfl) (by kernel_rfl) (by kernel_rfl) (fun c a w h => hP c a _ _ w h) (by rfl) ?h21 (by assumption) ?r21
  case h21 => intro w hSw; obtain ⟨h0, h1, h2, h3⟩ := hSw; go_simp; rfl
  simp only [Act.put, List.setIfInBounds_toArray, List.set_cons_zero, List.set_cons_succ]
  refine take_on (i := 10) (d := (some 20)) (v := ?v22) rfl rfl (by kernel_rfl) (by kernel_rfl) (by kernel_rfl) (fun c a w h => hP c a _ _ w h) (by rfl) ?h22 (by assumption) ?r22
  case h22 => intro w hSw; obtain ⟨h0, h1, h2, h3⟩ := hSw; go_simp; rfl
  simp only [Act.put, List.setIfInBounds_toArray, List.set_cons_zero, List.set_cons_succ]
  refine take_on (i := 11) (d := (some 21)) (v := ?v23) rfl rfl (by kernel_rfl) (by kernel_rfl) (by kernel_rfl) (fun c a w h => hP c a _ _ w h) (by rfl) ?h23 (by assumption) ?r23
  case h23 => intro w hSw; obtain ⟨h0, h1, h2, h3⟩ := hSw; go_simp; rfl
  simp only [Act.put, List.setIfInBounds_toArray, List.set_cons_zero, List.set_cons_succ]
  refine take_on (i := 12) (d := (some 22)) (v := ?v24) rfl rfl (by kernel_rfl) (by kernel_rfl) (by kernel_rfl) (fun c a w h => hP c a _ _ w h) (by rfl) ?h24 (by assumption) ?r24
  case h24 => intro w hSw; obtain ⟨h0, h1, h2, h3⟩ := hSw; go_simp; rfl
  simp only [Act.put, List.setIfInBounds_toArray, List.set_cons_zero, List.set_cons_succ]
  refine wpAnyH_ready (rs := [6]) (by kernel_rfl) (by simp) ?_
  refine AllReadyH.cons rfl (fun K hK => ?_) AllReadyH.nil
  go_simp
  refine (mixed_sub B A m d n c v0 u0 ys xs _ RB.out RA.out HB.out.1.2 HB.out.1.1 HN.out.2 HN.out.1 HL.out.1).mono ?_
  rintro e w5 ⟨E1, d1, rfl, q1, l1, m1, hb, -⟩
  replace P := Lib.hid (P.out.trans (hb.mono P.out.size))
  replace S := Lib.hid (S.out.next hb)
  replace RA := Lib.hid (RA.out.below hb)
  replace RB := Lib.hid (RB.out.below hb)
  have Q1 := Lib.hid (q1)
  clear hb hHeld
  have L1 := Lib.hid (And.intro l1 m1)
  clear q1 l1 m1
  refine hK.out _ _ ⟨S.out.c0, S.out.c1, S.out.c2, S.out.c3⟩ (fun hHeld => ?_)
  clear hK K
  refine wpAnyH_ready (rs := [13]) (by kernel_rfl) (by simp) ?_
  refine AllReadyH.cons rfl (fun K hK => ?_) AllReadyH.nil
  go_simp
  refine (mixed_sub A B n c m d u1 v1 xs ys _ RA.out RB.out HB.out.2.1 HB.out.2.2 HN.out.1 HN.out.2 HL.out.2).mono ?_
  rintro e w6 ⟨E2, d2, rfl, q2, l2, m2, hb, -⟩
  replace P := Lib.hid (P.out.trans (hb.mono P.out.size))
  replace S := Lib.hid (S.out.next hb)
  replace RA := Lib.hid (RA.out.below hb)
  replace RB := Lib.hid (RB.out.below hb)
  replace Q1 := Lib.hid (Q1.out.below hb)
  have Q2 := Lib.hid (q2)
  clear hb hHeld
  have L2 := Lib.hid (And.intro l2 m2)
  clear q2 l2 m2
  refine hK.out _ _ ⟨S.out.c0, S.out.c1, S.out.c2, S.out.c3⟩ (fun hHeld => ?_)
  clear hK K
  clear hHeld
  refine wpAnyH_done (by kernel_rfl) ?_ _
  refine HT.out _ _ ?_
  clear HT hP QT
  refine wpList_step fun K hK => ?_
  go_simp
  refine hK _ _ ?_
  clear hK K
  refine wpList_step fun K hK => ?_
  go_simp
  refine hK _ _ ?_
  clear hK K
  refine wpList_nil ?_
  go_wp2
  go_ret2
  exact ⟨_, _, _, _, rfl, Q1.out, L1.out.1, L1.out.2, Q2.out, L2.out.1, L2.out.2, P.out⟩
set_option maxHeartbeats 8000000 in
theorem rests_even (A B : Option Addr) (n c m d : Nat) (xs ys : List Nat) (u0 v0 u1 v1 : Nat) (w : World) (ha : Rd w A n xs) (hb : Rd w B m ys) (hn : n < 35184372088832) (hm : m < 35184372088832) (hu0 : u0 < 4294967296) (hv0 : v0 < 4294967296) (hu1 : u1 < 4294967296) (hv1 : v1 < 4294967296) (h1 : v0 * val ys ≤ u0 * val xs) (h2 : u1 * val xs ≤ v1 * val ys) :
    Calls Try.prog 132 #[.agg #[.int .u64 (u0 : Int), .int .u64 (v0 : Int), .int .u64 (u1 : Int), .int .u64 (v1 : Int), .bool false], .slice A n c, .slice B m d] w (Out2 w (u0 * val xs - v0 * val ys) (v1 * val ys - u1 * val xs)) := by
  have S := Lib.hid (St5.new w u0 v0 u1 v1 false)
  have P := Lib.hid (below_alloc w (.cells #[.int .u64 (u0 : Int), .int .u64 (v0 : Int), .int .u64 (u1 : Int), .int .u64 (v1 : Int), .bool false] 127))
  have RA := Lib.hid (ha.below P.out)
  have RB := Lib.hid (hb.below P.out)
  have HN := Lib.hid (And.intro hn hm)
  have HB := Lib.hid (And.intro (And.intro hu0 hv0) (And.intro hu1 hv1))
  clear hu0 hv0 hu1 hv1
  have HL := Lib.hid (And.intro h1 h2)
  clear h1 h2
  clear ha hb hn hm
  go_enter Try.func132, Try.ntmps132
  go_upto_region 1 with (fail)
  generalize w.alloc (.cells #[.int .u64 (u0 : Int), .int .u64 (v0 : Int), .int .u64 (u1 : Int), .int .u64 (v1 : Int), .bool false] 127) = W0 at P S RA RB ⊢
  obtain ⟨ga, hga⟩ : ∃ g, g = w.heap.size := ⟨_, rfl⟩
  rw [← hga] at S ⊢
  clear hga
  have y4 := S.out.c4
  go_upto_region 3 with (fail)
  clear y4
  refine wp_region_tail (S := (fun w' => w'.cell? ⟨ga, 0, none⟩ = some (.int .u64 (u0 : Int)) ∧ w'.cell? ⟨ga, 1, none⟩ = some (.int .u64 (v0 : Int)) ∧ w'.cell? ⟨ga, 2, none⟩ = some (.int .u64 (u1 : Int)) ∧ w'.cell? ⟨ga, 3, none⟩ = some (.int .u64 (v1 : Int)))) 14 (by kernel_rfl) (by kernel_rfl) (by intro c a d v w h; cases d <;> exact h) ⟨cell_d1 S.out.c0, cell_d1 S.out.c1, cell_d1 S.out.c2, cell_d1 S.out.c3⟩ (fun QT hT hP hHeld => ?_)
  simp only [List.extract_toArray, List.extract_eq_take_drop, List.drop_zero, Nat.sub_zero, List.take_succ_cons, List.take_zero]
  have HT := Lib.hid hT
  clear hT
  replace P := Lib.hid (P.out.trans ((Below.refl W0.heap.size W0).drew.mono P.out.size))
  replace S := Lib.hid (S.out.next (Below.refl W0.heap.size W0).drew)
  replace RA := Lib.hid (RA.out.below (Below.refl W0.heap.size W0).drew)
  replace RB := Lib.hid (RB.out.below (Below.refl W0.heap.size W0).drew)
  generalize W0.drew = D7 at P S RA RB hHeld ⊢
  refine take_on (i := 0) (d := (some 24)) (v := ?v25) rfl rfl (by kernel_rfl) (by kernel_rfl) (by kernel_rfl) (fun c a w h => hP c a _ _ w h) (by rfl) ?h25 (by assumption) ?r25
  case h25 => intro w hSw; obtain ⟨h0, h1, h2, h3⟩ := hSw; go_simp; rfl
  simp only [Act.put, List.setIfInBounds_toArray, List.set_cons_zero, List.set_cons_succ]
  refine take_on (i := 1) (d := (some 25)) (v := ?v26) rfl rfl (by kernel_rfl) (by kernel_rfl) (by kernel_rfl) (fun c a w h => hP c a _ _ w h) (by rfl) ?h26 (by assumption) ?r26
  case h26 => intro w hSw; obtain ⟨h0, h1, h2, h3⟩ := hSw; go_simp; rfl
  simp only [Act.put, List.setIfInBounds_toArray, List.set_cons_zero, List.set_cons_succ]
  refine take_on (i := 2) (d := (some 26)) (v := ?v27) rfl rfl (by kernel_rfl) (by kernel_rfl) (by kernel_rfl) (fun c a w h => hP c a _ _ w h) (by rfl) ?h27 (by assumption) ?r27
  case h27 => intro w hSw; obtain ⟨h0, h1, h2, h3⟩ := hSw; go_simp; rfl
  simp only [Act.put, List.setIfInBounds_toArray, List.set_cons_zero, List.set_cons_succ]
  refine take_on (i := 3) (d := (some 27)) (v := ?v28) rfl rfl (by kernel_rfl) (by kernel_rfl) (by kernel_rfl) (fun c a w h => hP c a _ _ w h) (by rfl) ?h28 (by assumption) ?r28
  case h28 => intro w hSw; obtain ⟨h0, h1, h2, h3⟩ := hSw; go_simp; rfl
  simp only [Act.put, List.setIfInBounds_toArray, List.set_cons_zero, List.set_cons_succ]
  refine take_on (i := 4) (d := (some 28)) (v := ?v29) rfl rfl (by kernel_rfl) (by kernel_rfl) (by kernel_rfl) (fun c a w h => hP c a _ _ w h) (by rfl) ?h29 (by assumption) ?r29
  case h29 => intro w hSw; obtain ⟨h0, h1, h2, h3⟩ := hSw; go_simp; rfl
  simp only [Act.put, List.setIfInBounds_toArray, List.set_cons_zero, List.set_cons_succ]
  refine take_on (i := 5) (d := (some 29)) (v := ?v30) rfl rfl (by kernel_rfl) (by kernel_rfl) (by kernel_rfl) (fun c a w h => hP c a _ _ w h) (by rfl) ?h30 (by assumption) ?r30
  case h30 => intro w hSw; obtain ⟨h0, h1, h2, h3⟩ := hSw; go_simp; rfl
  simp only [Act.put, List.setIfInBounds_toArray, List.set_cons_zero, List.set_cons_succ]
  refine take_on (i := 7) (d := (some 31)) (v := ?v31) rfl rfl (by kernel_rfl) (by kernel_rfl) (by kernel_rfl) (fun c a w h => hP c a _ _ w h) (by rfl) ?h31 (by assumption) ?r31
  case h31 => intro w hSw; obtain ⟨h0, h1, h2, h3⟩ := hSw; go_simp; rfl
  simp only [Act.put, List.setIfInBounds_toArray, List.set_cons_zero, List.set_cons_succ]
  refine take_on (i := 8) (d := (some 32)) (v := ?v32) rfl rfl (by kernel_rfl) (by kernel_rfl) (by kernel_rfl) (fun c a w h => hP c a _ _ w h) (by rfl) ?h32 (by assumption) ?r32
  case h32 => intro w hSw; obtain ⟨h0, h1, h2, h3⟩ := hSw; go_simp; rfl
  simp only [Act.put, List.setIfInBounds_toArray, List.set_cons_zero, List.set_cons_succ]
  refine take_on (i := 9) (d := (some 33)) (v := ?v33) rfl rfl (by kernel_rfl) (by kernel_rfl) (by kernel_rfl) (fun c a w h => hP c a _ _ w h) (by rfl) ?h33 (by assumption) ?r33
  case h33 => intro w hSw; obtain ⟨h0, h1, h2, h3⟩ := hSw; go_simp; rfl
  simp only [Act.put, List.setIfInBounds_toArray, List.set_cons_zero, List.set_cons_succ]
  refine take_on (i := 10) (d := (some 34)) (v := ?v34) rfl rfl (by kernel_rfl) (by kernel_rfl) (by kernel_rfl) (fun c a w h => hP c a _ _ w h) (by rfl) ?h34 (by assumption) ?r34
  case h34 => intro w hSw; obtain ⟨h0, h1, h2, h3⟩ := hSw; go_simp; rfl
  simp only [Act.put, List.setIfInBounds_toArray, List.set_cons_zero, List.set_cons_succ]
  refine take_on (i := 11) (d := (some 35)) (v := ?v35) rfl rfl (by kernel_rfl) (by kernel_rfl) (by kernel_rfl) (fun c a w h => hP c a _ _ w h) (by rfl) ?h35 (by assumption) ?r35
  case h35 => intro w hSw; obtain ⟨h0, h1, h2, h3⟩ := hSw; go_simp; rfl
  simp only [Act.put, List.setIfInBounds_toArray, List.set_cons_zero, List.set_cons_succ]
  refine take_on (i := 12) (d := (some 36)) (v := ?v36) rfl rfl (by kernel_rfl) (by kernel_rfl) (by kernel_rfl) (fun c a w h => hP c a _ _ w h) (by rfl) ?h36 (by assumption) ?r36
  case h36 => intro w hSw; obtain ⟨h0, h1, h2, h3⟩ := hSw; go_simp; rfl
  simp only [Act.put, List.setIfInBounds_toArray, List.set_cons_zero, List.set_cons_succ]
  refine wpAnyH_ready (rs := [6]) (by kernel_rfl) (by simp) ?_
  refine AllReadyH.cons rfl (fun K hK => ?_) AllReadyH.nil
  go_simp
  refine (mixed_sub A B n c m d u0 v0 xs ys _ RA.out RB.out HB.out.1.1 HB.out.1.2 HN.out.1 HN.out.2 HL.out.1).mono ?_
  rintro e w8 ⟨E1, d1, rfl, q1, l1, m1, hb, -⟩
  replace P := Lib.hid (P.out.trans (hb.mono P.out.size))
  replace S := Lib.hid (S.out.next hb)
  replace RA := Lib.hid (RA.out.below hb)
  replace RB := Lib.hid (RB.out.below hb)
  have Q1 := Lib.hid (q1)
  clear hb hHeld
  have L1 := Lib.hid (And.intro l1 m1)
  clear q1 l1 m1
  refine hK.out _ _ ⟨S.out.c0, S.out.c1, S.out.c2, S.out.c3⟩ (fun hHeld => ?_)
  clear hK K
  refine wpAnyH_ready (rs := [13]) (by kernel_rfl) (by simp) ?_
  refine AllReadyH.cons rfl (fun K hK => ?_) AllReadyH.nil
  go_simp
  refine (mixed_sub B A m d n c v1 u1 ys xs _ RB.out RA.out HB.out.2.2 HB.out.2.1 HN.out.2 HN.out.1 HL.out.2).mono ?_
  rintro e w9 ⟨E2, d2, rfl, q2, l2, m2, hb, -⟩
  replace P := Lib.hid (P.out.trans (hb.mono P.out.size))
  replace S := Lib.hid (S.out.next hb)
  replace RA := Lib.hid (RA.out.below hb)
  replace RB := Lib.hid (RB.out.below hb)
  replace Q1 := Lib.hid (Q1.out.below hb)
  have Q2 := Lib.hid (q2)
  clear hb hHeld
  have L2 := Lib.hid (And.intro l2 m2)
  clear q2 l2 m2
  refine hK.out _ _ ⟨S.out.c0, S.out.c1, S.out.c2, S.out.c3⟩ (fun hHeld => ?_)
  clear hK K
  clear hHeld
  refine wpAnyH_done (by kernel_rfl) ?_ _
  refine HT.out _ _ ?_
  clear HT hP QT
  refine wpList_step fun K hK => ?_
  go_simp
  refine hK _ _ ?_
  clear hK K
  refine wpList_step fun K hK => ?_
  go_simp
  refine hK _ _ ?_
  clear hK K
  refine wpList_nil ?_
  go_wp2
  go_ret2
  exact ⟨_, _, _, _, rfl, Q1.out, L1.out.1, L1.out.2, Q2.out, L2.out.1, L2.out.2, P.out⟩
/-- the steps done on the numbers -/
theorem rests_w {A B : Option Addr} {n c m d : Nat} {xs ys : List Nat} {u0 v0 u1 v1 : Nat} {odd : Bool} {a' b' : Nat} {w : World} (ha : Rd w A n xs) (hb : Rd w B m ys) (hn : n < 35184372088832) (hm : m < 35184372088832) (g : StepsOf (val xs) (val ys) u0 v0 u1 v1 odd a' b') :
    Calls Try.prog 132 #[.agg #[.int .u64 (u0 : Int), .int .u64 (v0 : Int), .int .u64 (u1 : Int), .int .u64 (v1 : Int), .bool odd], .slice A n c, .slice B m d] w (Out2 w a' b') := by
  have sa := g.sa
  have sb := g.sb
  cases odd with
  | true =>
    have e1 : (a' : Int) = ((v0 * val ys : Nat) : Int) - ((u0 * val xs : Nat) : Int) := by rw [sa]; show (-1 : Int) * _ = _; push_cast; omega
    have e2 : (b' : Int) = ((u1 * val xs : Nat) : Int) - ((v1 * val ys : Nat) : Int) := by rw [sb]; show (-1 : Int) * _ = _; push_cast; omega
    have := rests_odd A B n c m d xs ys u0 v0 u1 v1 w ha hb hn hm g.b1 g.b2 g.b3 g.b4 (by omega) (by omega)
    rwa [show v0 * val ys - u0 * val xs = a' by omega, show u1 * val xs - v1 * val ys = b' by omega] at this
  | false =>
    have e1 : (a' : Int) = ((u0 * val xs : Nat) : Int) - ((v0 * val ys : Nat) : Int) := by rw [sa]; show (1 : Int) * _ = _; push_cast; omega
    have e2 : (b' : Int) = ((v1 * val ys : Nat) : Int) - ((u1 * val xs : Nat) : Int) := by rw [sb]; show (1 : Int) * _ = _; push_cast; omega
    have := rests_even A B n c m d xs ys u0 v0 u1 v1 w ha hb hn hm g.b1 g.b2 g.b3 g.b4 (by omega) (by omega)
    rwa [show u0 * val xs - v0 * val ys = a' by omega, show v1 * val ys - u1 * val xs = b' by omega] at this
end Go.Proofs.Ytbblckaplddggaa

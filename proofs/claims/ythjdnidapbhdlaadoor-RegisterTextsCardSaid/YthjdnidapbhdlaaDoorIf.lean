/- the first example holds -/
import Derived.Test.YthjdnidapbhdlaaDoorIe
import Derived.Test.YthjdnidapbhdlaaDoorHp
import Derived.Test.YthjdnidapbhdlaaDoorHh
set_option maxRecDepth 100000
namespace Go.Proofs.YthjdnidapbhdlaaDoor
open Go.RowKit
/-- a word of memory that strings' functions look at -/
structure Ml (w : World) : Prop where
  lt : 1 < w.heap.size
  at_ : ∃ m : Int, w.cell? ⟨1, 0, none⟩ = some (.int .i64 m)
theorem Ml.next {w w' : World} (h : Ml w) (hb : Below w.heap.size w w') : Ml w' :=
  ⟨Nat.lt_of_lt_of_le h.lt hb.size, by obtain ⟨m, hm⟩ := h.at_; exact ⟨m, (hb.cell (p := ⟨1, 0, none⟩) h.lt).trans hm⟩⟩
theorem rdI_two (W : World) (a b : Int) : RdI (W.alloc (.cells #[.int .i64 a, .int .i64 b] 3)) (some ⟨W.heap.size, 0, none⟩) 2 [a, b] := by
  refine ⟨rfl, fun _ => ⟨W.heap.size, 0, rfl, by simp, fun k hk => ?_⟩⟩
  match k, hk with
  | 0, _ => go_simp
  | 1, _ => go_simp
set_option maxHeartbeats 4000000 in
theorem awake13_c (w : World) (hml : Ml w) : Calls Tryd.prog 22 #[] w (RetB true w) := by
  obtain ⟨hw, m, hm⟩ := hml
  have HP := Lib.hid (parse13_ex m w hm hw)
  clear hm hw
  go_enter Tryd.func22, Tryd.ntmps22
  go_upto_region 1 with (fail)
  go_wp2_with fail
  refine HP.out.mono ?_
  rintro e w1 ⟨A, c, rfl, hr, hb, _⟩
  have P := Lib.hid (hb.trans ((bel_alloc w1 (.cells #[.int .i64 2, .slice A 4 c] 43)).mono hb.size))
  have X := Lib.hid (BxM.new w1 2 A 4 c)
  have RC := Lib.hid (hr.below (bel_alloc w1 (.cells #[.int .i64 2, .slice A 4 c] 43)))
  clear HP hb hr
  go_upto_region 2 with (fail)
  generalize w1.alloc (.cells #[.int .i64 2, .slice A 4 c] 43) = W2 at P X RC ⊢
  generalize w1.heap.size = g at X ⊢
  have x0 := X.out.c0
  have x1 := X.out.c1
  have hb := bel_alloc W2 (.cells #[.int .i64 2, .int .i64 3] 3)
  have RI := Lib.hid (rdI_two W2 2 3)
  have P2 := Lib.hid (P.out.trans (hb.mono P.out.size))
  have X2 := Lib.hid (X.out.next hb)
  have RC2 := Lib.hid (RC.out.below hb)
  clear hb P RC
  go_wp2_with fail
  clear x0 x1 X
  generalize W2.alloc (.cells #[.int .i64 2, .int .i64 3] 3) = W3 at P2 X2 RC2 RI ⊢
  generalize W2.heap.size = g2 at RI ⊢
  have HH := Lib.hid (Halts_ok 2 A 4 c cs13 (some ⟨g2, 0, none⟩) 2 2 [2, 3] 100 W3 RC2.out RI.out (by omega) valid13 (by decide) (by omega))
  rw [run13] at HH
  refine HH.out.mono ?_
  rintro e w4 ⟨h1, _⟩
  obtain ⟨B, d, rfl, hri, _, _, hb⟩ := h1 rfl
  have P := Lib.hid (P2.out.trans (hb.mono P2.out.size))
  have X := Lib.hid (X2.out.next hb)
  have RC := Lib.hid (RC2.out.below hb)
  have RJ := Lib.hid hri
  clear hb h1 hri P2 X2 RC2 RI HH
  have x0 := X.out.c0
  have x1 := X.out.c1
  go_upto_region 3 with (fail)
  refine wp_region_tail (S := (fun w' => w'.cell? ⟨g, 0, none⟩ = some (.int .i64 2) ∧ w'.cell? ⟨g, 1, none⟩ = some (.slice A 4 c))) 20 (by kernel_rfl) (by kernel_rfl) (by intro c a d v w h; cases d <;> exact h) (⟨cell_dr x0, cell_dr x1⟩) (fun QT hT hP hHeld => ?_)
  simp only [List.extract_toArray, List.extract_eq_take_drop, List.drop_zero, Nat.sub_zero, List.take_succ_cons, List.take_zero]
  have HT := Lib.hid hT
  clear hT
  replace P := Lib.hid (P.out.trans ((Below.refl w4.heap.size w4).drew.mono P.out.size))
  replace X := Lib.hid (X.out.next (Below.refl w4.heap.size w4).drew)
  replace RC := Lib.hid (RC.out.below (Below.refl w4.heap.size w4).drew)
  replace RJ := Lib.hid (RJ.out.below (Below.refl w4.heap.size w4).drew)
  generalize w4.drew = D1 at P X RC RJ hHeld ⊢
  refine take_on (i := 0) (d := (some 17)) (v := ?v1) rfl rfl (by kernel_rfl) (by kernel_rfl) (by kernel_rfl) (fun c a w h => hP c a _ _ w h) (by rfl) ?h1 (by assumption) ?r1
  case h1 => intro w hSw; obtain ⟨h0, h1⟩ := hSw; go_simp; rfl
  simp only [Act.put, List.setIfInBounds_toArray, List.set_cons_zero, List.set_cons_succ]
  refine take_on (i := 1) (d := (some 18)) (v := ?v2) rfl rfl (by kernel_rfl) (by kernel_rfl) (by kernel_rfl) (fun c a w h => hP c a _ _ w h) (by rfl) ?h2 (by assumption) ?r2
  case h2 => intro w hSw; obtain ⟨h0, h1⟩ := hSw; go_simp; rfl
  simp only [Act.put, List.setIfInBounds_toArray, List.set_cons_zero, List.set_cons_succ]
  refine take_on (i := 2) (d := (some 19)) (v := ?v3) rfl rfl (by kernel_rfl) (by kernel_rfl) (by kernel_rfl) (fun c a w h => hP c a _ _ w h) (by rfl) ?h3 (by assumption) ?r3
  case h3 => intro w hSw; obtain ⟨h0, h1⟩ := hSw; go_simp; rfl
  simp only [Act.put, List.setIfInBounds_toArray, List.set_cons_zero, List.set_cons_succ]
  refine take_on (i := 3) (d := (some 20)) (v := ?v4) rfl rfl (by kernel_rfl) (by kernel_rfl) (by kernel_rfl) (fun c a w h => hP c a _ _ w h) (by rfl) ?h4 (by assumption) ?r4
  case h4 => intro w hSw; obtain ⟨h0, h1⟩ := hSw; go_simp; rfl
  simp only [Act.put, List.setIfInBounds_toArray, List.set_cons_zero, List.set_cons_succ]
  refine take_on (i := 4) (d := (some 21)) (v := ?v5) rfl rfl (by kernel_rfl) (by kernel_rfl) (by kernel_rfl) (fun c a w h => hP c a _ _ w h) (by rfl) ?h5 (by assumption) ?r5
  case h5 => intro w hSw; obtain ⟨h0, h1⟩ := hSw; go_simp; rfl
  simp only [Act.put, List.setIfInBounds_toArray, List.set_cons_zero, List.set_cons_succ]
  refine take_on (i := 5) (d := (some 22)) (v := ?v6) rfl rfl (by kernel_rfl) (by kernel_rfl) (by kernel_rfl) (fun c a w h => hP c a _ _ w h) (by rfl) ?h6 (by assumption) ?r6
  case h6 => intro w hSw; obtain ⟨h0, h1⟩ := hSw; go_simp; rfl
  simp only [Act.put, List.setIfInBounds_toArray, List.set_cons_zero, List.set_cons_succ]
  refine take_on (i := 6) (d := (some 23)) (v := ?v7) rfl rfl (by kernel_rfl) (by kernel_rfl) (by kernel_rfl) (fun c a w h => hP c a _ _ w h) (by rfl) ?h7 (by assumption) ?r7
  case h7 => intro w hSw; obtain ⟨h0, h1⟩ := hSw; go_simp; rfl
  simp only [Act.put, List.setIfInBounds_toArray, List.set_cons_zero, List.set_cons_succ]
  refine take_on (i := 7) (d := (some 24)) (v := ?v8) rfl rfl (by kernel_rfl) (by kernel_rfl) (by kernel_rfl) (fun c a w h => hP c a _ _ w h) (by rfl) ?h8 (by assumption) ?r8
  case h8 => intro w hSw; obtain ⟨h0, h1⟩ := hSw; go_simp; rfl
  simp only [Act.put, List.setIfInBounds_toArray, List.set_cons_zero, List.set_cons_succ]
  refine wpAnyH_ready (rs := [8]) (by kernel_rfl) (by simp) ?_
  refine AllReadyH.cons rfl (fun K hK => ?_) AllReadyH.nil
  go_simp
  refine (adder_c D1).mono ?_
  rintro e v2 ⟨A2, c2, rfl, hr2, hb, _⟩
  clear x0 x1
  replace P := Lib.hid (P.out.trans (hb.mono P.out.size))
  replace X := Lib.hid (X.out.next hb)
  replace RC := Lib.hid (RC.out.below hb)
  replace RJ := Lib.hid (RJ.out.below hb)
  have RD := Lib.hid hr2
  have x0 := X.out.c0
  have x1 := X.out.c1
  clear hb hHeld hr2
  refine hK.out _ _ (⟨x0, x1⟩) (fun hHeld => ?_)
  clear hK K
  refine wpAnyH_ready (rs := [9]) (by kernel_rfl) (by simp) ?_
  refine AllReadyH.cons rfl (fun K hK => ?_) AllReadyH.nil
  go_simp
  refine (sameM_t 2 A A2 4 c c2 cs13 v2 RC.out RD.out (by omega)).mono ?_
  rintro e v3 ⟨rfl, hb⟩
  clear x0 x1 RD
  replace P := Lib.hid (P.out.trans (hb.mono P.out.size))
  replace X := Lib.hid (X.out.next hb)
  replace RC := Lib.hid (RC.out.below hb)
  replace RJ := Lib.hid (RJ.out.below hb)
  have x0 := X.out.c0
  have x1 := X.out.c1
  clear hb hHeld
  refine hK.out _ _ (⟨x0, x1⟩) (fun hHeld => ?_)
  clear hK K
  refine take_on (i := 10) (d := (some 27)) (v := ?v9) rfl rfl (by kernel_rfl) (by kernel_rfl) (by kernel_rfl) (fun c a w h => hP c a _ _ w h) (by rfl) ?h9 (by assumption) ?r9
  case h9 => intro w hSw; obtain ⟨h0, h1⟩ := hSw; go_simp; rfl
  simp only [Act.put, List.setIfInBounds_toArray, List.set_cons_zero, List.set_cons_succ]
  refine take_on (i := 11) (d := (some 28)) (v := ?v10) rfl rfl (by kernel_rfl) (by kernel_rfl) (by kernel_rfl) (fun c a w h => hP c a _ _ w h) (by rfl) ?h10 (by assumption) ?r10
  case h10 => intro w hSw; obtain ⟨h0, h1⟩ := hSw; go_simp; rfl
  simp only [Act.put, List.setIfInBounds_toArray, List.set_cons_zero, List.set_cons_succ]
  refine take_on (i := 12) (d := (some 29)) (v := ?v11) rfl rfl (by kernel_rfl) (by kernel_rfl) (by kernel_rfl) (fun c a w h => hP c a _ _ w h) (by rfl) ?h11 (by assumption) ?r11
  case h11 => intro w hSw; obtain ⟨h0, h1⟩ := hSw; go_simp; rfl
  simp only [Act.put, List.setIfInBounds_toArray, List.set_cons_zero, List.set_cons_succ]
  refine take_on (i := 13) (d := (some 30)) (v := ?v12) rfl rfl (by kernel_rfl) (by kernel_rfl) (by kernel_rfl) (fun c a w h => hP c a _ _ w h) (by rfl) ?h12 (by assumption) ?r12
  case h12 => intro w hSw; obtain ⟨h0, h1⟩ := hSw; go_simp; rfl
  simp only [Act.put, List.setIfInBounds_toArray, List.set_cons_zero, List.set_cons_succ]
  refine take_on (i := 14) (d := (some 31)) (v := ?v13) rfl rfl (by kernel_rfl) (by kernel_rfl) (by kernel_rfl) (fun c a w h => hP c a _ _ w h) (by rfl) ?h13 (by assumption) ?r13
  case h13 => intro w hSw; obtain ⟨h0, h1⟩ := hSw; go_simp; rfl
  simp only [Act.put, List.setIfInBounds_toArray, List.set_cons_zero, List.set_cons_succ]
  refine take_on (i := 15) (d := (some 32)) (v := ?v14) rfl rfl (by kernel_rfl) (by kernel_rfl) (by kernel_rfl) (fun c a w h => hP c a _ _ w h) (by rfl) ?h14 (by assumption) ?r14
  case h14 => intro w hSw; obtain ⟨h0, h1⟩ := hSw; go_simp; rfl
  simp only [Act.put, List.setIfInBounds_toArray, List.set_cons_zero, List.set_cons_succ]
  refine take_on (i := 16) (d := (some 33)) (v := ?v15) rfl rfl (by kernel_rfl) (by kernel_rfl) (by kernel_rfl) (fun c a w h => hP c a _ _ w h) (by rfl) ?h15 (by assumption) ?r15
  case h15 => intro w hSw; obtain ⟨h0, h1⟩ := hSw; go_simp; rfl
  simp only [Act.put, List.setIfInBounds_toArray, List.set_cons_zero, List.set_cons_succ]
  refine wpAnyH_ready (rs := [17]) (by kernel_rfl) (by simp) ?_
  refine AllReadyH.cons rfl (fun K hK => ?_) AllReadyH.nil
  go_simp
  have hb := bel_alloc v3 (.cells #[.int .i64 0, .int .i64 5] 3)
  have RK := Lib.hid (rdI_two v3 0 5)
  clear x0 x1
  replace P := Lib.hid (P.out.trans (hb.mono P.out.size))
  replace X := Lib.hid (X.out.next hb)
  replace RC := Lib.hid (RC.out.below hb)
  replace RJ := Lib.hid (RJ.out.below hb)
  clear hb hHeld
  generalize v3.alloc (.cells #[.int .i64 0, .int .i64 5] 3) = Y4 at P X RC RJ RK ⊢
  generalize v3.heap.size = gb at RK ⊢
  have x0 := X.out.c0
  have x1 := X.out.c1
  refine hK.out _ _ (⟨x0, x1⟩) (fun hHeld => ?_)
  clear hK K
  refine wpAnyH_ready (rs := [18]) (by kernel_rfl) (by simp) ?_
  refine AllReadyH.cons rfl (fun K hK => ?_) AllReadyH.nil
  go_simp
  refine (sameInts_t B (some ⟨gb, 0, none⟩) 2 d 2 [0, 5] Y4 RJ.out RK.out (by omega)).mono ?_
  rintro e v5 ⟨rfl, hb⟩
  clear x0 x1
  replace P := Lib.hid (P.out.trans (hb.mono P.out.size))
  replace X := Lib.hid (X.out.next hb)
  replace RC := Lib.hid (RC.out.below hb)
  replace RJ := Lib.hid (RJ.out.below hb)
  replace RK := Lib.hid (RK.out.below hb)
  have x0 := X.out.c0
  have x1 := X.out.c1
  clear hb hHeld
  refine hK.out _ _ (⟨x0, x1⟩) (fun hHeld => ?_)
  clear hK K
  refine take_on (i := 19) (d := (some 36)) (v := ?v16) rfl rfl (by kernel_rfl) (by kernel_rfl) (by kernel_rfl) (fun c a w h => hP c a _ _ w h) (by rfl) ?h16 (by assumption) ?r16
  case h16 => intro w hSw; obtain ⟨h0, h1⟩ := hSw; go_simp; rfl
  simp only [Act.put, List.setIfInBounds_toArray]
  clear hHeld
  refine wpAnyH_done (by kernel_rfl) ?_ _
  refine HT.out _ _ ?_
  clear HT hP QT
  refine wpList_step fun K hK => ?_
  go_simp
  refine hK _ _ ?_
  clear hK K
  refine wpList_nil ?_
  clear x0 x1
  go_wp2
  go_ret
  exact ⟨rfl, P.out⟩
end Go.Proofs.YthjdnidapbhdlaaDoor

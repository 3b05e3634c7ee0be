import Derived.Test.YthjdnidapbhdlaaDoorVb
import Derived.Test.YthjdnidapbhdlaaDoorVc
namespace Go.Proofs.YthjdnidapbhdlaaDoor
open Go.RowKit

/-- block b holds a number of one word -/
structure Box1 (W : World) (b : Nat) (t : Bool) (A : Option Addr) (c m : Nat) : Prop where
  lt : b < W.heap.size
  c0 : W.cell? ⟨b, 0, none⟩ = some (.bool t)
  c1 : W.cell? ⟨b, 1, none⟩ = some (.slice A 1 c)
  rd : Rd W A 1 [m]
theorem Box1.next {W w1 : World} {b : Nat} {t : Bool} {A : Option Addr} {c m : Nat} (h : Box1 W b t A c m) (hb : Below W.heap.size W w1) : Box1 w1 b t A c m :=
  ⟨Nat.lt_of_lt_of_le h.lt hb.size, (hb.cell (p := ⟨b, 0, none⟩) h.lt).trans h.c0, (hb.cell (p := ⟨b, 1, none⟩) h.lt).trans h.c1, h.rd.below hb⟩
theorem Box1.new {W : World} {t : Bool} {A : Option Addr} {c m : Nat} (h : Rd W A 1 [m]) : Box1 (W.alloc (.cells #[.bool t, .slice A 1 c] 24)) W.heap.size t A c m :=
  ⟨by simp, by go_simp, by go_simp, h.alloc _⟩
theorem Box1.alloc {W : World} {b : Nat} {t : Bool} {A : Option Addr} {c m : Nat} (h : Box1 W b t A c m) (o : Obj) : Box1 (W.alloc o) b t A c m := h.next ((Below.refl _ _).alloc (Nat.le_refl _) o)

set_option maxHeartbeats 2000000 in
set_option maxRecDepth 100000 in
theorem awake_c (w : World) : Calls Tryd.prog 8 #[] w fun e w' => e = .returned (.bool true) ∧ Below w.heap.size w w' := by
  have P1 := Lib.hid (Below.refl w.heap.size w)
  go_enter Tryd.func8, Tryd.ntmps8
  go_wp2_with fail
  refine (of_lit (-7) 7 true _ (by omega) (by omega) (by omega) (by decide)).mono ?_
  rintro e w1 ⟨A1, c1, rfl, r1, -, -, b1⟩
  have P2 := Lib.hid (P1.out.trans b1)
  go_wp2_with fail
  refine (of_lit 2 2 false _ (by omega) (by omega) (by omega) (by decide)).mono ?_
  rintro e w2 ⟨A2, c2, rfl, r2, -, -, b2⟩
  have P3 := Lib.hid (P2.out.trans (b2.mono P2.out.size))
  go_wp2_with fail
  refine (div_lit true false A1 A2 c1 c2 7 2 4 1 true w2 (r1.below b2) r2 (by omega) (by omega) (by omega) (by omega) (by decide) (by decide) (by omega) (by omega) (by omega) (by omega)).mono ?_
  rintro e w3 ⟨B1, d1, B2, d2, rfl, q1, q2, b3⟩
  have P4 := Lib.hid (P3.out.trans (b3.mono P3.out.size))
  have X1 := Lib.hid ((Box1.new (t := true) (c := d1) q1).alloc (.cells #[.bool false, .slice B2 1 d2] 24))
  have X2 := Lib.hid (Box1.new (t := false) (c := d2) (q2.alloc (.cells #[.bool true, .slice B1 1 d1] 24)))
  have P5 := Lib.hid ((P4.out.alloc P4.out.size (.cells #[.bool true, .slice B1 1 d1] 24)).alloc (by have := P4.out.size; simp; omega) (.cells #[.bool false, .slice B2 1 d2] 24))
  rw [World.size_alloc] at X2
  clear r1 r2 b1 b2 b3 q1 q2
  go_wp2_with fail
  generalize (w3.alloc (.cells #[.bool true, .slice B1 1 d1] 24)).alloc (.cells #[.bool false, .slice B2 1 d2] 24) = v1 at X1 X2 P5 ⊢
  refine (of_lit (-7) 7 true _ (by omega) (by omega) (by omega) (by decide)).mono ?_
  rintro e w4 ⟨A1, c1, rfl, r1, -, -, b1⟩
  have P6 := Lib.hid (P5.out.trans (b1.mono P5.out.size))
  go_wp2_with fail
  refine (of_lit (-2) 2 true _ (by omega) (by omega) (by omega) (by decide)).mono ?_
  rintro e w5 ⟨A2, c2, rfl, r2, -, -, b2⟩
  have P7 := Lib.hid (P6.out.trans (b2.mono P6.out.size))
  go_wp2_with fail
  refine (div_lit true true A1 A2 c1 c2 7 2 4 1 false w5 (r1.below b2) r2 (by omega) (by omega) (by omega) (by omega) (by decide) (by decide) (by omega) (by omega) (by omega) (by omega)).mono ?_
  rintro e w6 ⟨B3, d3, B4, d4, rfl, q1, q2, b3⟩
  have P8 := Lib.hid (P7.out.trans (b3.mono P7.out.size))
  have X3 := Lib.hid ((Box1.new (t := false) (c := d3) q1).alloc (.cells #[.bool false, .slice B4 1 d4] 24))
  have X4 := Lib.hid (Box1.new (t := false) (c := d4) (q2.alloc (.cells #[.bool false, .slice B3 1 d3] 24)))
  have P9 := Lib.hid ((P8.out.alloc P8.out.size (.cells #[.bool false, .slice B3 1 d3] 24)).alloc (by have := P8.out.size; simp; omega) (.cells #[.bool false, .slice B4 1 d4] 24))
  have Y1 := Lib.hid ((((X1.out.next b1).next b2).next b3).alloc (.cells #[.bool false, .slice B3 1 d3] 24) |>.alloc (.cells #[.bool false, .slice B4 1 d4] 24))
  have Y2 := Lib.hid ((((X2.out.next b1).next b2).next b3).alloc (.cells #[.bool false, .slice B3 1 d3] 24) |>.alloc (.cells #[.bool false, .slice B4 1 d4] 24))
  rw [World.size_alloc] at X4
  clear r1 r2 b1 b2 b3 q1 q2
  go_wp2_with fail
  generalize (w6.alloc (.cells #[.bool false, .slice B3 1 d3] 24)).alloc (.cells #[.bool false, .slice B4 1 d4] 24) = v2 at X3 X4 P9 Y1 Y2 ⊢
  refine (of_lit 5 5 false _ (by omega) (by omega) (by omega) (by decide)).mono ?_
  rintro e w7 ⟨A1, c1, rfl, r1, -, -, b1⟩
  go_wp2_with fail
  refine (of_lit 13 13 false _ (by omega) (by omega) (by omega) (by decide)).mono ?_
  rintro e w8 ⟨A2, c2, rfl, r2, -, -, b2⟩
  go_wp2_with fail
  refine (Under_ok A1 A2 1 c1 1 c2 [5] [13] w8 (r1.below b2) r2 (valid_one (by omega)) (valid_one (by omega))).mono ?_
  rw [val_one, val_one, show decide (5 &&& 13 = 5) = true from by decide]
  rintro e w9 ⟨rfl, b3⟩
  have b12 := (b1.trans (b2.mono b1.size)).trans (b3.mono (b1.trans (b2.mono b1.size)).size)
  clear r1 r2 b1 b2 b3
  go_wp2_with fail
  refine (of_lit 2 2 false _ (by omega) (by omega) (by omega) (by decide)).mono ?_
  rintro e w10 ⟨A1, c1, rfl, r1, -, -, b1⟩
  go_wp2_with fail
  refine (of_lit 13 13 false _ (by omega) (by omega) (by omega) (by decide)).mono ?_
  rintro e w11 ⟨A2, c2, rfl, r2, -, -, b2⟩
  go_wp2_with fail
  refine (Under_ok A1 A2 1 c1 1 c2 [2] [13] w11 (r1.below b2) r2 (valid_one (by omega)) (valid_one (by omega))).mono ?_
  rw [val_one, val_one, show decide (2 &&& 13 = 2) = false from by decide]
  rintro e w12 ⟨rfl, b3⟩
  have b34 := b12.trans (((b1.trans (b2.mono b1.size)).trans (b3.mono (b1.trans (b2.mono b1.size)).size)).mono b12.size)
  clear r1 r2 b1 b2 b3 b12
  go_wp2_with fail
  refine (of_lit 99 99 false _ (by omega) (by omega) (by omega) (by decide)).mono ?_
  rintro e w13 ⟨A1, c1, rfl, r1, -, -, b1⟩
  go_wp2_with fail
  refine (root_lit A1 c1 w13 r1).mono ?_
  rintro e w14 ⟨B5, d5, rfl, q1, b2⟩
  have b56 := b34.trans ((b1.trans (b2.mono b1.size)).mono b34.size)
  have X5 := Box1.new (t := false) (c := d5) q1
  have Z1 := (Y1.out.next b56).alloc (.cells #[.bool false, .slice B5 1 d5] 24)
  have Z2 := (Y2.out.next b56).alloc (.cells #[.bool false, .slice B5 1 d5] 24)
  have Z3 := (X3.out.next b56).alloc (.cells #[.bool false, .slice B5 1 d5] 24)
  have Z4 := (X4.out.next b56).alloc (.cells #[.bool false, .slice B5 1 d5] 24)
  have P10 := (P9.out.trans (b56.mono P9.out.size))
  have P11 := P10.alloc P10.size (.cells #[.bool false, .slice B5 1 d5] 24)
  have HP := Lib.hid P11
  clear r1 b1 b2 b34 b56 q1 P10 P11
  go_wp2_with fail
  generalize w14.alloc (.cells #[.bool false, .slice B5 1 d5] 24) = v3 at X5 Z1 Z2 Z3 Z4 HP ⊢
  have Z5 := X5
  have z10 := Z1.c0
  have z11 := Z1.c1
  have z20 := Z2.c0
  have z21 := Z2.c1
  have z30 := Z3.c0
  have z31 := Z3.c1
  have z40 := Z4.c0
  have z41 := Z4.c1
  have z50 := Z5.c0
  have z51 := Z5.c1
  have HS1 : Hid (∀ (w' : World) (Aq : Option Addr) (cq : Nat), Rd w' B1 1 [4] → Rd w' Aq 1 [4] → Calls Tryd.prog 12 #[.agg #[.bool true, .slice B1 1 d1], .agg #[.bool true, .slice Aq 1 cq]] w' fun e w'' => e = .returned (.bool true) ∧ Below w'.heap.size w' w'') := fun w' Aq cq h1 h2 =>
    (Same_c true true B1 Aq 1 d1 1 cq [4] [4] w' h1 h2 (by omega)).mono fun _ _ ⟨he, hb⟩ => ⟨by rw [he]; rfl, hb⟩
  have HS2 : Hid (∀ (w' : World) (Aq : Option Addr) (cq : Nat), Rd w' B2 1 [1] → Rd w' Aq 1 [1] → Calls Tryd.prog 12 #[.agg #[.bool false, .slice B2 1 d2], .agg #[.bool false, .slice Aq 1 cq]] w' fun e w'' => e = .returned (.bool true) ∧ Below w'.heap.size w' w'') := fun w' Aq cq h1 h2 =>
    (Same_c false false B2 Aq 1 d2 1 cq [1] [1] w' h1 h2 (by omega)).mono fun _ _ ⟨he, hb⟩ => ⟨by rw [he]; rfl, hb⟩
  have HS3 : Hid (∀ (w' : World) (Aq : Option Addr) (cq : Nat), Rd w' B3 1 [4] → Rd w' Aq 1 [4] → Calls Tryd.prog 12 #[.agg #[.bool false, .slice B3 1 d3], .agg #[.bool false, .slice Aq 1 cq]] w' fun e w'' => e = .returned (.bool true) ∧ Below w'.heap.size w' w'') := fun w' Aq cq h1 h2 =>
    (Same_c false false B3 Aq 1 d3 1 cq [4] [4] w' h1 h2 (by omega)).mono fun _ _ ⟨he, hb⟩ => ⟨by rw [he]; rfl, hb⟩
  have HS4 : Hid (∀ (w' : World) (Aq : Option Addr) (cq : Nat), Rd w' B4 1 [1] → Rd w' Aq 1 [1] → Calls Tryd.prog 12 #[.agg #[.bool false, .slice B4 1 d4], .agg #[.bool false, .slice Aq 1 cq]] w' fun e w'' => e = .returned (.bool true) ∧ Below w'.heap.size w' w'') := fun w' Aq cq h1 h2 =>
    (Same_c false false B4 Aq 1 d4 1 cq [1] [1] w' h1 h2 (by omega)).mono fun _ _ ⟨he, hb⟩ => ⟨by rw [he]; rfl, hb⟩
  have HS5 : Hid (∀ (w' : World) (Aq : Option Addr) (cq : Nat), Rd w' B5 1 [9] → Rd w' Aq 1 [9] → Calls Tryd.prog 12 #[.agg #[.bool false, .slice B5 1 d5], .agg #[.bool false, .slice Aq 1 cq]] w' fun e w'' => e = .returned (.bool true) ∧ Below w'.heap.size w' w'') := fun w' Aq cq h1 h2 =>
    (Same_c false false B5 Aq 1 d5 1 cq [9] [9] w' h1 h2 (by omega)).mono fun _ _ ⟨he, hb⟩ => ⟨by rw [he]; rfl, hb⟩
  have HOm4 : Hid (∀ w' : World, Calls Tryd.prog 14 #[.int .i64 (-4)] w' (Lit1 w' true 4)) := fun w' => refof_lit (-4) 4 true w' (by omega) (by omega) (by omega) (by decide)
  have HO1 : Hid (∀ w' : World, Calls Tryd.prog 14 #[.int .i64 1] w' (Lit1 w' false 1)) := fun w' => refof_lit 1 1 false w' (by omega) (by omega) (by omega) (by decide)
  have HO4 : Hid (∀ w' : World, Calls Tryd.prog 14 #[.int .i64 4] w' (Lit1 w' false 4)) := fun w' => refof_lit 4 4 false w' (by omega) (by omega) (by omega) (by decide)
  have HO9 : Hid (∀ w' : World, Calls Tryd.prog 14 #[.int .i64 9] w' (Lit1 w' false 9)) := fun w' => refof_lit 9 9 false w' (by omega) (by omega) (by omega) (by decide)
  have Z1 := Z1.next (Below.refl _ _).drew
  have Z2 := Z2.next (Below.refl _ _).drew
  have Z3 := Z3.next (Below.refl _ _).drew
  have Z4 := Z4.next (Below.refl _ _).drew
  have Z5 := Z5.next (Below.refl _ _).drew
  have HP := Lib.hid HP.out.drew
  go_region_held3 (fun w' => w'.cell? ⟨w3.heap.size, 0, none⟩ = some (.bool true) ∧ w'.cell? ⟨w3.heap.size, 1, none⟩ = some (.slice B1 1 d1) ∧ w'.cell? ⟨w3.heap.size + 1, 0, none⟩ = some (.bool false) ∧ w'.cell? ⟨w3.heap.size + 1, 1, none⟩ = some (.slice B2 1 d2) ∧ w'.cell? ⟨w6.heap.size, 0, none⟩ = some (.bool false) ∧ w'.cell? ⟨w6.heap.size, 1, none⟩ = some (.slice B3 1 d3) ∧ w'.cell? ⟨w6.heap.size + 1, 0, none⟩ = some (.bool false) ∧ w'.cell? ⟨w6.heap.size + 1, 1, none⟩ = some (.slice B4 1 d4) ∧ w'.cell? ⟨w14.heap.size, 0, none⟩ = some (.bool false) ∧ w'.cell? ⟨w14.heap.size, 1, none⟩ = some (.slice B5 1 d5)) (exact ⟨z10, z11, z20, z21, z30, z31, z40, z41, z50, z51⟩)
    (first
      | (go_at_call 14
         (with_reducible refine (HOm4.out _).mono ?_)
         rintro e wq ⟨Aq, cq, rfl, rq, -, -, bq⟩
         have Z1 := Z1.next bq
         have z10 := Z1.c0
         have z11 := Z1.c1
         have Z2 := Z2.next bq
         have z20 := Z2.c0
         have z21 := Z2.c1
         have Z3 := Z3.next bq
         have z30 := Z3.c0
         have z31 := Z3.c1
         have Z4 := Z4.next bq
         have z40 := Z4.c0
         have z41 := Z4.c1
         have Z5 := Z5.next bq
         have z50 := Z5.c0
         have z51 := Z5.c1
         have HP := Lib.hid (HP.out.trans (bq.mono HP.out.size)))
      | (go_at_call 14
         (with_reducible refine (HO1.out _).mono ?_)
         rintro e wq ⟨Aq, cq, rfl, rq, -, -, bq⟩
         have Z1 := Z1.next bq
         have z10 := Z1.c0
         have z11 := Z1.c1
         have Z2 := Z2.next bq
         have z20 := Z2.c0
         have z21 := Z2.c1
         have Z3 := Z3.next bq
         have z30 := Z3.c0
         have z31 := Z3.c1
         have Z4 := Z4.next bq
         have z40 := Z4.c0
         have z41 := Z4.c1
         have Z5 := Z5.next bq
         have z50 := Z5.c0
         have z51 := Z5.c1
         have HP := Lib.hid (HP.out.trans (bq.mono HP.out.size)))
      | (go_at_call 14
         (with_reducible refine (HO4.out _).mono ?_)
         rintro e wq ⟨Aq, cq, rfl, rq, -, -, bq⟩
         have Z1 := Z1.next bq
         have z10 := Z1.c0
         have z11 := Z1.c1
         have Z2 := Z2.next bq
         have z20 := Z2.c0
         have z21 := Z2.c1
         have Z3 := Z3.next bq
         have z30 := Z3.c0
         have z31 := Z3.c1
         have Z4 := Z4.next bq
         have z40 := Z4.c0
         have z41 := Z4.c1
         have Z5 := Z5.next bq
         have z50 := Z5.c0
         have z51 := Z5.c1
         have HP := Lib.hid (HP.out.trans (bq.mono HP.out.size)))
      | (go_at_call 14
         (with_reducible refine (HO9.out _).mono ?_)
         rintro e wq ⟨Aq, cq, rfl, rq, -, -, bq⟩
         have Z1 := Z1.next bq
         have z10 := Z1.c0
         have z11 := Z1.c1
         have Z2 := Z2.next bq
         have z20 := Z2.c0
         have z21 := Z2.c1
         have Z3 := Z3.next bq
         have z30 := Z3.c0
         have z31 := Z3.c1
         have Z4 := Z4.next bq
         have z40 := Z4.c0
         have z41 := Z4.c1
         have Z5 := Z5.next bq
         have z50 := Z5.c0
         have z51 := Z5.c1
         have HP := Lib.hid (HP.out.trans (bq.mono HP.out.size)))
      | (go_at_call_of 12 B1
         refine (HS1.out _ Aq cq Z1.rd rq).mono ?_
         rintro e wq ⟨rfl, bq⟩
         have Z1 := Z1.next bq
         have z10 := Z1.c0
         have z11 := Z1.c1
         have Z2 := Z2.next bq
         have z20 := Z2.c0
         have z21 := Z2.c1
         have Z3 := Z3.next bq
         have z30 := Z3.c0
         have z31 := Z3.c1
         have Z4 := Z4.next bq
         have z40 := Z4.c0
         have z41 := Z4.c1
         have Z5 := Z5.next bq
         have z50 := Z5.c0
         have z51 := Z5.c1
         have HP := Lib.hid (HP.out.trans (bq.mono HP.out.size)))
      | (go_at_call_of 12 B2
         refine (HS2.out _ Aq cq Z2.rd rq).mono ?_
         rintro e wq ⟨rfl, bq⟩
         have Z1 := Z1.next bq
         have z10 := Z1.c0
         have z11 := Z1.c1
         have Z2 := Z2.next bq
         have z20 := Z2.c0
         have z21 := Z2.c1
         have Z3 := Z3.next bq
         have z30 := Z3.c0
         have z31 := Z3.c1
         have Z4 := Z4.next bq
         have z40 := Z4.c0
         have z41 := Z4.c1
         have Z5 := Z5.next bq
         have z50 := Z5.c0
         have z51 := Z5.c1
         have HP := Lib.hid (HP.out.trans (bq.mono HP.out.size)))
      | (go_at_call_of 12 B3
         refine (HS3.out _ Aq cq Z3.rd rq).mono ?_
         rintro e wq ⟨rfl, bq⟩
         have Z1 := Z1.next bq
         have z10 := Z1.c0
         have z11 := Z1.c1
         have Z2 := Z2.next bq
         have z20 := Z2.c0
         have z21 := Z2.c1
         have Z3 := Z3.next bq
         have z30 := Z3.c0
         have z31 := Z3.c1
         have Z4 := Z4.next bq
         have z40 := Z4.c0
         have z41 := Z4.c1
         have Z5 := Z5.next bq
         have z50 := Z5.c0
         have z51 := Z5.c1
         have HP := Lib.hid (HP.out.trans (bq.mono HP.out.size)))
      | (go_at_call_of 12 B4
         refine (HS4.out _ Aq cq Z4.rd rq).mono ?_
         rintro e wq ⟨rfl, bq⟩
         have Z1 := Z1.next bq
         have z10 := Z1.c0
         have z11 := Z1.c1
         have Z2 := Z2.next bq
         have z20 := Z2.c0
         have z21 := Z2.c1
         have Z3 := Z3.next bq
         have z30 := Z3.c0
         have z31 := Z3.c1
         have Z4 := Z4.next bq
         have z40 := Z4.c0
         have z41 := Z4.c1
         have Z5 := Z5.next bq
         have z50 := Z5.c0
         have z51 := Z5.c1
         have HP := Lib.hid (HP.out.trans (bq.mono HP.out.size)))
      | (go_at_call_of 12 B5
         refine (HS5.out _ Aq cq Z5.rd rq).mono ?_
         rintro e wq ⟨rfl, bq⟩
         have Z1 := Z1.next bq
         have z10 := Z1.c0
         have z11 := Z1.c1
         have Z2 := Z2.next bq
         have z20 := Z2.c0
         have z21 := Z2.c1
         have Z3 := Z3.next bq
         have z30 := Z3.c0
         have z31 := Z3.c1
         have Z4 := Z4.next bq
         have z40 := Z4.c0
         have z41 := Z4.c1
         have Z5 := Z5.next bq
         have z50 := Z5.c0
         have z51 := Z5.c1
         have HP := Lib.hid (HP.out.trans (bq.mono HP.out.size))))
  go_wp2
  go_ret
  exact ⟨rfl, HP.out⟩
end Go.Proofs.YthjdnidapbhdlaaDoor

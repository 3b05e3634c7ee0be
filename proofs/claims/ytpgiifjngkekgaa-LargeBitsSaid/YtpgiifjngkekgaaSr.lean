import Derived.Test.YtpgiifjngkekgaaSq
namespace Go.Proofs.Ytpgiifjngkekgaa
open Go.RowKit Go.Deep

/-- the arguments in memory, valid or not -/
structure Lr (w W : World) (s1 : Bool) (A1 : Option Addr) (n1 c1 : Nat) (s2 : Bool) (A2 : Option Addr) (n2 c2 : Nat) (xs1 xs2 : List Nat) : Prop where
  below : Below w.heap.size w W
  lb : w.heap.size + 1 < W.heap.size
  a0 : W.cell? ⟨w.heap.size, 0, none⟩ = some (.bool s1)
  a1 : W.cell? ⟨w.heap.size, 1, none⟩ = some (.slice A1 n1 c1)
  b0 : W.cell? ⟨w.heap.size + 1, 0, none⟩ = some (.bool s2)
  b1 : W.cell? ⟨w.heap.size + 1, 1, none⟩ = some (.slice A2 n2 c2)
  ra : Rd W A1 n1 xs1
  rb : Rd W A2 n2 xs2
theorem Lr.next {w W w1 : World} {s1 : Bool} {A1 : Option Addr} {n1 c1 : Nat} {s2 : Bool} {A2 : Option Addr} {n2 c2 : Nat} {xs1 xs2 : List Nat}
    (h : Lr w W s1 A1 n1 c1 s2 A2 n2 c2 xs1 xs2) (hb : Below W.heap.size W w1) : Lr w w1 s1 A1 n1 c1 s2 A2 n2 c2 xs1 xs2 :=
  ⟨h.below.trans (hb.mono h.below.size), Nat.lt_of_lt_of_le h.lb hb.size, (hb.cell (p := ⟨w.heap.size, 0, none⟩) (Nat.lt_of_succ_lt h.lb)).trans h.a0, (hb.cell (p := ⟨w.heap.size, 1, none⟩) (Nat.lt_of_succ_lt h.lb)).trans h.a1,
    (hb.cell (p := ⟨w.heap.size + 1, 0, none⟩) h.lb).trans h.b0, (hb.cell (p := ⟨w.heap.size + 1, 1, none⟩) h.lb).trans h.b1, h.ra.below hb, h.rb.below hb⟩
theorem Lr.start {w : World} (s1 : Bool) {A1 : Option Addr} {n1 : Nat} (c1 : Nat) (s2 : Bool) {A2 : Option Addr} {n2 : Nat} (c2 : Nat) {xs1 xs2 : List Nat} (h1 : Rd w A1 n1 xs1) (h2 : Rd w A2 n2 xs2) :
    Lr w ((w.alloc (.cells #[.bool s1, .slice A1 n1 c1] 24)).alloc (.cells #[.bool s2, .slice A2 n2 c2] 24)) s1 A1 n1 c1 s2 A2 n2 c2 xs1 xs2 :=
  have hB := (below_alloc w (.cells #[.bool s1, .slice A1 n1 c1] 24)).trans ((below_alloc (w.alloc (.cells #[.bool s1, .slice A1 n1 c1] 24)) (.cells #[.bool s2, .slice A2 n2 c2] 24)).mono (by simp))
  ⟨hB, by simp, by go_simp, by go_simp, by go_simp, by go_simp, h1.below hB, h2.below hB⟩

set_option maxHeartbeats 4000000 in
set_option maxRecDepth 100000 in
theorem LargeBits_inv (s1 s2 : Bool) (A1 A2 : Option Addr) (n1 c1 n2 c2 : Nat) (xs1 xs2 : List Nat) (K : Int) (w : World) (h1 : Rd w A1 n1 xs1) (h2 : Rd w A2 n2 xs2) (l1 : n1 ≤ 4200) (l2 : n2 ≤ 4200) (v1 : validB s1 xs1 = false) :
    Calls Try.prog 5 #[.agg #[.bool s1, .slice A1 n1 c1], .agg #[.bool s2, .slice A2 n2 c2], .int .i64 K] w fun e w' => e = .returned (.bool true) ∧ Below w.heap.size w w' := by
  have H := Lib.hid (Lr.start s1 c1 s2 c2 h1 h2)
  have HV1 := Lib.hid v1
  clear h1 h2 v1
  go_enter Try.func5, Try.ntmps5
  go_wp2_with fail
  generalize (w.alloc (.cells #[.bool s1, .slice A1 n1 c1] 24)).alloc (.cells #[.bool s2, .slice A2 n2 c2] 24) = W at H ⊢
  refine (Power_bad s1 A1 n1 c1 xs1 K _ H.out.ra HV1.out).mono ?_
  rintro e w1 ⟨rfl, hb⟩
  have BP := Lib.hid (Box.new (is_zero' w1))
  replace H := Lib.hid ((H.out.next hb).next (below_alloc w1 (.cells #[.bool false, .slice none 0 0] 24)))
  clear hb
  have a0 := H.out.a0
  have a1 := H.out.a1
  go_wp2_with fail
  clear a0 a1
  obtain ⟨g7, hg7⟩ : ∃ g7, g7 = w1.heap.size := ⟨_, rfl⟩
  rw [← hg7] at BP ⊢
  clear hg7
  generalize w1.alloc (.cells #[.bool false, .slice none 0 0] 24) = W1 at H BP ⊢
  refine (Shift_bad s1 A1 n1 c1 xs1 K _ H.out.ra HV1.out).mono ?_
  rintro e w2 ⟨rfl, hb⟩
  have BS := Lib.hid (Box.new (is_zero' w2))
  replace BP := Lib.hid ((BP.out.next hb).next (below_alloc w2 (.cells #[.bool false, .slice none 0 0] 24)))
  replace H := Lib.hid ((H.out.next hb).next (below_alloc w2 (.cells #[.bool false, .slice none 0 0] 24)))
  clear hb
  have a0 := H.out.a0
  have a1 := H.out.a1
  have b0 := H.out.b0
  have b1 := H.out.b1
  go_wp2_with fail
  clear a0 a1 b0 b1
  obtain ⟨g9, hg9⟩ : ∃ g9, g9 = w2.heap.size := ⟨_, rfl⟩
  rw [← hg9] at BS ⊢
  clear hg9
  generalize w2.alloc (.cells #[.bool false, .slice none 0 0] 24) = W2 at H BP BS ⊢
  refine (Under_bad s1 s2 A1 A2 n1 c1 n2 c2 xs1 xs2 _ H.out.ra H.out.rb (by rw [HV1.out]; rfl)).mono ?_
  rintro e w3 ⟨rfl, hb⟩
  replace H := Lib.hid (H.out.next hb)
  replace BP := Lib.hid (BP.out.next hb)
  replace BS := Lib.hid (BS.out.next hb)
  clear hb
  have a0 := H.out.a0
  have a1 := H.out.a1
  go_wp2_with fail
  refine (refValid_c s1 A1 n1 c1 xs1 _ H.out.ra).mono ?_
  rw [HV1.out]
  rintro e w4 ⟨rfl, hb⟩
  replace H := Lib.hid (H.out.next hb)
  replace BP := Lib.hid (BP.out.next hb)
  replace BS := Lib.hid (BS.out.next hb)
  clear hb a0 a1
  have p0 := BP.out.c0
  have p1 := BP.out.c1
  go_wp2_with fail
  refine (no_c 1 _).mono ?_
  rintro e w5 ⟨rfl, hb⟩
  replace H := Lib.hid (H.out.next hb)
  replace BS := Lib.hid (BS.out.next hb)
  clear hb p0 p1 BP
  have p0 := BS.out.c0
  have p1 := BS.out.c1
  go_wp2_with fail
  refine (no_c 1 _).mono ?_
  rintro e w6 ⟨rfl, hb⟩
  replace H := Lib.hid (H.out.next hb)
  clear hb p0 p1 BS
  have a0 := H.out.a0
  have a1 := H.out.a1
  go_wp2_with fail
  refine (Bits_bad s1 A1 n1 c1 xs1 _ H.out.ra HV1.out).mono ?_
  rintro e w7 ⟨rfl, hb⟩
  replace H := Lib.hid (H.out.next hb)
  clear hb a0 a1
  go_wp2_with fail
  refine (awake_c _).mono ?_
  rintro e y9 ⟨rfl, hb⟩
  replace H := Lib.hid (H.out.next hb)
  clear hb
  go_wp2
  go_ret
  exact ⟨rfl, H.out.below⟩

set_option maxHeartbeats 1000000 in
set_option maxRecDepth 100000 in
theorem LargeBits_long (s1 s2 : Bool) (A1 A2 : Option Addr) (n1 c1 n2 c2 : Nat) (xs1 xs2 : List Nat) (K : Int) (w : World) (h1 : Rd w A1 n1 xs1) (h2 : Rd w A2 n2 xs2) (l : 4200 < n1 ∨ 4200 < n2) :
    Calls Try.prog 5 #[.agg #[.bool s1, .slice A1 n1 c1], .agg #[.bool s2, .slice A2 n2 c2], .int .i64 K] w fun e w' => e = .returned (.bool true) ∧ Below w.heap.size w w' := by
  have H := Lib.hid (Lr.start s1 c1 s2 c2 h1 h2)
  clear h1 h2
  by_cases l1 : 4200 < n1
  all_goals
    go_enter Try.func5, Try.ntmps5
    go_wp2_with fail
    refine (awake_c _).mono ?_
    rintro e y9 ⟨rfl, hb⟩
    replace H := Lib.hid (H.out.next hb)
    clear hb
    go_wp2
    go_ret
    exact ⟨rfl, H.out.below⟩

theorem wf_i64 {z : Int} (h : (Lit.int .i64 z).wf = true) : -9223372036854775808 ≤ z ∧ z < 9223372036854775808 := by
  simp only [Lit.wf, Bool.and_eq_true, decide_eq_true_eq] at h
  have h1 : IntKind.min .i64 = -9223372036854775808 := rfl
  have h2 : IntKind.max .i64 = 9223372036854775807 := rfl
  omega
theorem LargeBits_c (s1 s2 : Bool) (A1 A2 : Option Addr) (n1 c1 n2 c2 : Nat) (xs1 xs2 : List Nat) (K : Int) (w : World) (h1 : Rd w A1 n1 xs1) (h2 : Rd w A2 n2 xs2) (k1 : n1 ≤ c1) (e1 : c1 ≤ 9223372036854775807) (hK : (Lit.int .i64 K).wf = true) :
    Calls Try.prog 5 #[.agg #[.bool s1, .slice A1 n1 c1], .agg #[.bool s2, .slice A2 n2 c2], .int .i64 K] w fun e w' => e = .returned (.bool true) ∧ Below w.heap.size w w' := by
  by_cases l : 4200 < n1 ∨ 4200 < n2
  · exact LargeBits_long s1 s2 A1 A2 n1 c1 n2 c2 xs1 xs2 K w h1 h2 l
  · by_cases v1 : validB s1 xs1 = true
    · exact LargeBits_valid s1 s2 A1 A2 n1 c1 n2 c2 xs1 xs2 K w h1 h2 k1 e1 (wf_i64 hK).1 (wf_i64 hK).2 (by omega) (by omega) v1
    · exact LargeBits_inv s1 s2 A1 A2 n1 c1 n2 c2 xs1 xs2 K w h1 h2 (by omega) (by omega) (by simpa using v1)
end Go.Proofs.Ytpgiifjngkekgaa

import Derived.Test.YtbblckaplddggaaFk
import Derived.Test.YtbblckaplddggaaEy
import Derived.BigRegion
set_option maxRecDepth 100000
namespace Go.Proofs.Ytbblckaplddggaa
open Go.RowKit
theorem raw_len1 {w : World} {s : Bool} {A : Option Addr} {n : Nat} {xs : List Nat} (h : Rd w A n xs) (h1 : validB s xs = true) : n ≤ 4096 := by
  unfold validB at h1
  rw [h.len] at h1
  split at h1
  · omega
  · simp at h1; omega
theorem valid_is {w : World} {z : Int} {t : Bool} {A : Option Addr} {n c : Nat} (h : Is w z t A n c) (hz : Sz z 4096) :
    Calls Try.prog 23 #[.agg #[.bool t, .slice A n c]] w (IsB true w) := by
  obtain ⟨r, v, _, _, _⟩ := h.raw hz (Nat.le_refl _)
  have := refValid_c t A n c _ w r
  rwa [v] at this
theorem fit_num {w : World} {z : Int} {t : Bool} {A : Option Addr} {n c : Nat} (h : Is w z t A n c) (hz : Sz z 4096) : NumIs w z t A n c 0 :=
  ⟨fun _ => ⟨rfl, h.1, h.2.1, h.2.2.1, h.2.2.2.1, h.2.2.2.2⟩, fun hl => absurd (words_len_le.2 hz) hl⟩
theorem ord_le0 {a b : Int} (h : a ≤ b) : ord a b ≤ 0 := by
  unfold ord
  split
  · omega
  · rw [if_neg (by omega)]; omega
/-- the two numbers -/
structure LdV (w W : World) (ga : Nat) (s s' : Bool) (A A' : Option Addr) (n c n' c' : Nat) (xs ys : List Nat) : Prop where
  below : Below w.heap.size w W
  ge : w.heap.size ≤ ga
  ba : Bx W ga s A n c
  bb : Bx W (ga + 1) s' A' n' c'
  ra : Rd W A n xs
  rb : Rd W A' n' ys
theorem LdV.next {w W W' : World} {ga : Nat} {s s' : Bool} {A A' : Option Addr} {n c n' c' : Nat} {xs ys : List Nat} (h : LdV w W ga s s' A A' n c n' c' xs ys) (hb : Below W.heap.size W W') : LdV w W' ga s s' A A' n c n' c' xs ys :=
  ⟨h.below.trans (hb.mono h.below.size), h.ge, h.ba.next hb, h.bb.next hb, h.ra.below hb, h.rb.below hb⟩
theorem LdV.start (s s' : Bool) (A A' : Option Addr) (n c n' c' : Nat) (xs ys : List Nat) (w : World) (h : Rd w A n xs) (h' : Rd w A' n' ys) : LdV w ((w.alloc (.cells #[.bool s, .slice A n c] 24)).alloc (.cells #[.bool s', .slice A' n' c'] 24)) w.heap.size s s' A A' n c n' c' xs ys := by
  have k0 := below_alloc w (.cells #[.bool s, .slice A n c] 24)
  have k1 := below_alloc (w.alloc (.cells #[.bool s, .slice A n c] 24)) (.cells #[.bool s', .slice A' n' c'] 24)
  have b1 := Bx.new (w.alloc (.cells #[.bool s, .slice A n c] 24)) s' A' n' c'
  rw [World.size_alloc] at b1
  exact ⟨k0.trans (k1.mono k0.size), Nat.le_refl _, (Bx.new w s A n c).next k1, b1, (h.below k0).below k1, (h'.below k0).below k1⟩
set_option maxHeartbeats 16000000 in
theorem LD_long (s s' : Bool) (A A' : Option Addr) (n c n' c' : Nat) (xs ys : List Nat) (w : World) (h : Rd w A n xs) (h' : Rd w A' n' ys) (hn : n ≤ c) (hn' : n' ≤ c') (hc : c ≤ 9223372036854775807) (hc' : c' ≤ 9223372036854775807) (hno : 4200 < n ∨ 4200 < n') :
    Calls Try.prog 13 #[.agg #[.bool s, .slice A n c], .agg #[.bool s', .slice A' n' c']] w (IsB true w) := by
  have E := Lib.hid (LdV.start s s' A A' n c n' c' xs ys w h h')
  have HN := Lib.hid (And.intro (And.intro hn hc) (And.intro hn' hc'))
  have HNO := Lib.hid hno
  clear hno
  clear h h' hn hn' hc hc'
  go_enter Try.func13, Try.ntmps13
  go_upto_region 1 with (fail)
  generalize (w.alloc (.cells #[.bool s, .slice A n c] 24)).alloc (.cells #[.bool s', .slice A' n' c'] 24) = W0 at E ⊢
  obtain ⟨ga, hga⟩ : ∃ g, g = w.heap.size := ⟨_, rfl⟩
  rw [← hga] at E ⊢
  clear hga
  have a0 := E.out.ba.c0
  have a1 := E.out.ba.c1
  have b0 := E.out.bb.c0
  have b1 := E.out.bb.c1
  by_cases h1 : 4200 < n
  · have t1 : decide ((4200 : Int) < (n : Int)) = true := decide_eq_true (by omega)
    have t2 : (4200 : Int) < (n : Int) := by omega
    clear h1 HNO
    go_wp2_with fail
    refine (awake_c _).mono ?_
    rintro e u9 ⟨rfl, b9⟩
    have P9 := Lib.hid (E.out.below.trans (b9.mono E.out.below.size))
    clear b9
    go_wp2
    go_ret
    exact ⟨rfl, P9.out⟩
  · have h2 : 4200 < n' := by have := HNO.out; omega
    have t1 : decide ((4200 : Int) < (n : Int)) = false := decide_eq_false (by omega)
    have t2 : ¬ (4200 : Int) < (n : Int) := by omega
    have t3 : decide ((4200 : Int) < (n' : Int)) = true := decide_eq_true (by omega)
    have t4 : (4200 : Int) < (n' : Int) := by omega
    clear h1 h2 HNO
    go_wp2_with fail
    refine (awake_c _).mono ?_
    rintro e u9 ⟨rfl, b9⟩
    have P9 := Lib.hid (E.out.below.trans (b9.mono E.out.below.size))
    clear b9
    go_wp2
    go_ret
    exact ⟨rfl, P9.out⟩
set_option maxHeartbeats 16000000 in
theorem LD_wide (s s' : Bool) (A A' : Option Addr) (n c n' c' : Nat) (xs ys : List Nat) (w : World) (h : Rd w A n xs) (h' : Rd w A' n' ys) (hn : n ≤ c) (hn' : n' ≤ c') (hc : c ≤ 9223372036854775807) (hc' : c' ≤ 9223372036854775807) (hs : n ≤ 4200 ∧ n' ≤ 4200) (vx : validB s xs = true) (vy : validB s' ys = true) (hno : 700 < n ∨ 700 < n') :
    Calls Try.prog 13 #[.agg #[.bool s, .slice A n c], .agg #[.bool s', .slice A' n' c']] w (IsB true w) := by
  have E := Lib.hid (LdV.start s s' A A' n c n' c' xs ys w h h')
  have HN := Lib.hid (And.intro (And.intro hn hc) (And.intro hn' hc'))
  have HNO := Lib.hid hno
  have HV := Lib.hid (And.intro vx vy)
  have t1 : decide ((4200 : Int) < (n : Int)) = false := decide_eq_false (by omega)
  have t2 : ¬ (4200 : Int) < (n : Int) := by omega
  have t3 : decide ((4200 : Int) < (n' : Int)) = false := decide_eq_false (by omega)
  have t4 : ¬ (4200 : Int) < (n' : Int) := by omega
  clear hno vx vy hs
  clear h h' hn hn' hc hc'
  go_enter Try.func13, Try.ntmps13
  go_upto_region 1 with (fail)
  generalize (w.alloc (.cells #[.bool s, .slice A n c] 24)).alloc (.cells #[.bool s', .slice A' n' c'] 24) = W0 at E ⊢
  obtain ⟨ga, hga⟩ : ∃ g, g = w.heap.size := ⟨_, rfl⟩
  rw [← hga] at E ⊢
  clear hga
  have a0 := E.out.ba.c0
  have a1 := E.out.ba.c1
  have b0 := E.out.bb.c0
  have b1 := E.out.bb.c1
  go_wp2_with fail
  refine (refValid_c s A n c xs _ E.out.ra).mono ?_
  rw [HV.out.1]
  rintro e w1 ⟨rfl, hb⟩
  replace E := Lib.hid (E.out.next hb)
  clear hb a0 a1 b0 b1
  have a0 := E.out.ba.c0
  have a1 := E.out.ba.c1
  have b0 := E.out.bb.c0
  have b1 := E.out.bb.c1
  go_wp2_with fail
  refine (refValid_c s' A' n' c' ys _ E.out.rb).mono ?_
  rw [HV.out.2]
  rintro e w2 ⟨rfl, hb⟩
  replace E := Lib.hid (E.out.next hb)
  clear hb a0 a1 b0 b1
  have a0 := E.out.ba.c0
  have a1 := E.out.ba.c1
  have b0 := E.out.bb.c0
  have b1 := E.out.bb.c1
  rcases Nat.lt_or_ge n n' with h1 | h1
  · have h2 : 700 < n' := by have := HNO.out; omega
    have m1 : (n : Int) < (n' : Int) := by omega
    have m2 : (700 : Int) < (n' : Int) := by omega
    clear h1 h2 HNO
    go_wp2_with fail
    refine (awake_c _).mono ?_
    rintro e u9 ⟨rfl, b9⟩
    have P9 := Lib.hid (E.out.below.trans (b9.mono E.out.below.size))
    clear b9
    go_wp2
    go_ret
    exact ⟨rfl, P9.out⟩
  · have h2 : 700 < n := by have := HNO.out; omega
    have m1 : (n' : Int) ≤ (n : Int) := by omega
    have m2 : (700 : Int) < (n : Int) := by omega
    clear h1 h2 HNO
    go_wp2_with fail
    refine (awake_c _).mono ?_
    rintro e u9 ⟨rfl, b9⟩
    have P9 := Lib.hid (E.out.below.trans (b9.mono E.out.below.size))
    clear b9
    go_wp2
    go_ret
    exact ⟨rfl, P9.out⟩
set_option maxHeartbeats 16000000 in
theorem LD_inv (s s' : Bool) (A A' : Option Addr) (n c n' c' : Nat) (xs ys : List Nat) (w : World) (h : Rd w A n xs) (h' : Rd w A' n' ys) (hn : n ≤ c) (hn' : n' ≤ c') (hc : c ≤ 9223372036854775807) (hc' : c' ≤ 9223372036854775807) (hs : n ≤ 4200 ∧ n' ≤ 4200) (hv : (validB s xs && validB s' ys) = false) :
    Calls Try.prog 13 #[.agg #[.bool s, .slice A n c], .agg #[.bool s', .slice A' n' c']] w (IsB true w) := by
  have E := Lib.hid (LdV.start s s' A A' n c n' c' xs ys w h h')
  have HN := Lib.hid (And.intro (And.intro hn hc) (And.intro hn' hc'))
  have HV := Lib.hid hv
  have t1 : decide ((4200 : Int) < (n : Int)) = false := decide_eq_false (by omega)
  have t2 : ¬ (4200 : Int) < (n : Int) := by omega
  have t3 : decide ((4200 : Int) < (n' : Int)) = false := decide_eq_false (by omega)
  have t4 : ¬ (4200 : Int) < (n' : Int) := by omega
  have HC := Lib.hid (show validB s xs = false ∨ (validB s xs = true ∧ validB s' ys = false) by revert hv; cases validB s xs <;> cases validB s' ys <;> simp)
  clear hv hs
  clear h h' hn hn' hc hc'
  go_enter Try.func13, Try.ntmps13
  go_upto_region 1 with (fail)
  generalize (w.alloc (.cells #[.bool s, .slice A n c] 24)).alloc (.cells #[.bool s', .slice A' n' c'] 24) = W0 at E ⊢
  obtain ⟨ga, hga⟩ : ∃ g, g = w.heap.size := ⟨_, rfl⟩
  rw [← hga] at E ⊢
  clear hga
  go_cut [42] (fun v W => v = .bool false ∧ LdV w W ga s s' A A' n c n' c' xs ys)
  case first =>
    rcases HC.out with hx | ⟨hx, hy⟩
    · have VX := Lib.hid hx
      clear hx
      have a0 := E.out.ba.c0
      have a1 := E.out.ba.c1
      have b0 := E.out.bb.c0
      have b1 := E.out.bb.c1
      go_wp2_with fail
      refine (refValid_c s A n c xs _ E.out.ra).mono ?_
      rw [VX.out]
      rintro e w1 ⟨rfl, hb⟩
      replace E := Lib.hid (E.out.next hb)
      clear hb a0 a1 b0 b1
      have a0 := E.out.ba.c0
      have a1 := E.out.ba.c1
      have b0 := E.out.bb.c0
      have b1 := E.out.bb.c1
      go_wp2
      go_meet
      exact ⟨rfl, E.out⟩
    · have VX := Lib.hid hx
      have VY := Lib.hid hy
      clear hx hy
      have a0 := E.out.ba.c0
      have a1 := E.out.ba.c1
      have b0 := E.out.bb.c0
      have b1 := E.out.bb.c1
      go_wp2_with fail
      refine (refValid_c s A n c xs _ E.out.ra).mono ?_
      rw [VX.out]
      rintro e w1 ⟨rfl, hb⟩
      replace E := Lib.hid (E.out.next hb)
      clear hb a0 a1 b0 b1
      have a0 := E.out.ba.c0
      have a1 := E.out.ba.c1
      have b0 := E.out.bb.c0
      have b1 := E.out.bb.c1
      go_wp2_with fail
      refine (refValid_c s' A' n' c' ys _ E.out.rb).mono ?_
      rw [VY.out]
      rintro e w2 ⟨rfl, hb⟩
      replace E := Lib.hid (E.out.next hb)
      clear hb a0 a1 b0 b1
      have a0 := E.out.ba.c0
      have a1 := E.out.ba.c1
      have b0 := E.out.bb.c0
      have b1 := E.out.bb.c1
      go_wp2
      go_meet
      exact ⟨rfl, E.out⟩
  case rest =>
    obtain ⟨rfl, hE⟩ := hcut
    clear E
    have E := Lib.hid hE
    clear hE
    have a0 := E.out.ba.c0
    have a1 := E.out.ba.c1
    have b0 := E.out.bb.c0
    have b1 := E.out.bb.c1
    go_wp2_with fail
    refine (Div_bad s s' A A' n c n' c' xs ys _ E.out.ra E.out.rb HV.out).mono ?_
    rintro e w3 ⟨rfl, hb⟩
    replace E := Lib.hid (E.out.next hb)
    clear hb a0 a1 b0 b1
    have q0 := below_alloc (w3) (.cells #[.bool false, .slice none 0 0] 24)
    have q1 := below_alloc ((w3).alloc (.cells #[.bool false, .slice none 0 0] 24)) (.cells #[.bool false, .slice none 0 0] 24)
    have q01 := q0.trans (q1.mono q0.size)
    have X5 := Lib.hid ((Bx.new (w3) false none 0 0).next q1)
    have X6 := Lib.hid (Bx.new ((w3).alloc (.cells #[.bool false, .slice none 0 0] 24)) false none 0 0)
    simp only [World.size_alloc] at X6
    replace E := Lib.hid (E.out.next q01)
    clear q0 q1 q01
    go_upto_region 4 with (fail)
    generalize (w3.alloc (.cells #[.bool false, .slice none 0 0] 24)).alloc (.cells #[.bool false, .slice none 0 0] 24) = W3 at E X5 X6 ⊢
    generalize w3.heap.size = gX5 at X5 X6 ⊢
    have a0 := E.out.ba.c0
    have a1 := E.out.ba.c1
    have b0 := E.out.bb.c0
    have b1 := E.out.bb.c1
    go_wp2_with fail
    refine (Gcd_bad s s' A A' n c n' c' xs ys _ E.out.ra E.out.rb HV.out).mono ?_
    rintro e w4 ⟨rfl, hb⟩
    replace E := Lib.hid (E.out.next hb)
    replace X5 := Lib.hid (X5.out.next hb)
    replace X6 := Lib.hid (X6.out.next hb)
    clear hb a0 a1 b0 b1
    have q0 := below_alloc (w4) (.cells #[.bool false, .slice none 0 0] 24)
    have q1 := below_alloc ((w4).alloc (.cells #[.bool false, .slice none 0 0] 24)) (.cells #[.bool false, .slice none 0 0] 24)
    have q2 := below_alloc (((w4).alloc (.cells #[.bool false, .slice none 0 0] 24)).alloc (.cells #[.bool false, .slice none 0 0] 24)) (.cells #[.bool false, .slice none 0 0] 24)
    have q01 := q0.trans (q1.mono q0.size)
    have q02 := q01.trans (q2.mono q01.size)
    have X8 := Lib.hid (((Bx.new (w4) false none 0 0).next q1).next q2)
    have X9 := Lib.hid ((Bx.new ((w4).alloc (.cells #[.bool false, .slice none 0 0] 24)) false none 0 0).next q2)
    have X10 := Lib.hid (Bx.new (((w4).alloc (.cells #[.bool false, .slice none 0 0] 24)).alloc (.cells #[.bool false, .slice none 0 0] 24)) false none 0 0)
    simp only [World.size_alloc] at X9 X10
    replace E := Lib.hid (E.out.next q02)
    replace X5 := Lib.hid (X5.out.next q02)
    replace X6 := Lib.hid (X6.out.next q02)
    clear q0 q1 q2 q01 q02
    go_upto_region 5 with (fail)
    generalize ((w4.alloc (.cells #[.bool false, .slice none 0 0] 24)).alloc (.cells #[.bool false, .slice none 0 0] 24)).alloc (.cells #[.bool false, .slice none 0 0] 24) = W4 at E X5 X6 X8 X9 X10 ⊢
    generalize w4.heap.size = gX8 at X8 X9 X10 ⊢
    go_cut [66] (fun v W => v = .bool true ∧ LdV w W ga s s' A A' n c n' c' xs ys ∧ Bx W gX5 false none 0 0 ∧ Bx W (gX5 + 1) false none 0 0 ∧ Bx W gX8 false none 0 0 ∧ Bx W (gX8 + 1) false none 0 0 ∧ Bx W (gX8 + 1 + 1) false none 0 0)
    case first =>
      rcases HC.out with hx | ⟨hx, hy⟩
      · have VX := Lib.hid hx
        clear hx
        have a0 := E.out.ba.c0
        have a1 := E.out.ba.c1
        have b0 := E.out.bb.c0
        have b1 := E.out.bb.c1
        go_wp2_with fail
        refine (refValid_c s A n c xs _ E.out.ra).mono ?_
        rw [VX.out]
        rintro e w1 ⟨rfl, hb⟩
        replace E := Lib.hid (E.out.next hb)
        replace X5 := Lib.hid (X5.out.next hb)
        replace X6 := Lib.hid (X6.out.next hb)
        replace X8 := Lib.hid (X8.out.next hb)
        replace X9 := Lib.hid (X9.out.next hb)
        replace X10 := Lib.hid (X10.out.next hb)
        clear hb a0 a1 b0 b1
        have a0 := E.out.ba.c0
        have a1 := E.out.ba.c1
        have b0 := E.out.bb.c0
        have b1 := E.out.bb.c1
        go_wp2
        go_meet
        exact ⟨rfl, E.out, X5.out, X6.out, X8.out, X9.out, X10.out⟩
      · have VX := Lib.hid hx
        have VY := Lib.hid hy
        clear hx hy
        have a0 := E.out.ba.c0
        have a1 := E.out.ba.c1
        have b0 := E.out.bb.c0
        have b1 := E.out.bb.c1
        go_wp2_with fail
        refine (refValid_c s A n c xs _ E.out.ra).mono ?_
        rw [VX.out]
        rintro e w1 ⟨rfl, hb⟩
        replace E := Lib.hid (E.out.next hb)
        replace X5 := Lib.hid (X5.out.next hb)
        replace X6 := Lib.hid (X6.out.next hb)
        replace X8 := Lib.hid (X8.out.next hb)
        replace X9 := Lib.hid (X9.out.next hb)
        replace X10 := Lib.hid (X10.out.next hb)
        clear hb a0 a1 b0 b1
        have a0 := E.out.ba.c0
        have a1 := E.out.ba.c1
        have b0 := E.out.bb.c0
        have b1 := E.out.bb.c1
        go_wp2_with fail
        refine (refValid_c s' A' n' c' ys _ E.out.rb).mono ?_
        rw [VY.out]
        rintro e w2 ⟨rfl, hb⟩
        replace E := Lib.hid (E.out.next hb)
        replace X5 := Lib.hid (X5.out.next hb)
        replace X6 := Lib.hid (X6.out.next hb)
        replace X8 := Lib.hid (X8.out.next hb)
        replace X9 := Lib.hid (X9.out.next hb)
        replace X10 := Lib.hid (X10.out.next hb)
        clear hb a0 a1 b0 b1
        have a0 := E.out.ba.c0
        have a1 := E.out.ba.c1
        have b0 := E.out.bb.c0
        have b1 := E.out.bb.c1
        go_wp2
        go_meet
        exact ⟨rfl, E.out, X5.out, X6.out, X8.out, X9.out, X10.out⟩
    case rest =>
      obtain ⟨rfl, h1, h2, h3, h4, h5, h6⟩ := hcut
      clear E X5 X6 X8 X9 X10
      have E := Lib.hid h1
      have X5 := Lib.hid h2
      have X6 := Lib.hid h3
      have X8 := Lib.hid h4
      have X9 := Lib.hid h5
      have X10 := Lib.hid h6
      clear h1 h2 h3 h4 h5 h6
      have xX50 := X5.out.c0
      have xX51 := X5.out.c1
      go_wp2_with fail
      refine (no_c 1 _).mono ?_
      rintro e w1 ⟨rfl, hb⟩
      replace E := Lib.hid (E.out.next hb)
      replace X5 := Lib.hid (X5.out.next hb)
      replace X6 := Lib.hid (X6.out.next hb)
      replace X8 := Lib.hid (X8.out.next hb)
      replace X9 := Lib.hid (X9.out.next hb)
      replace X10 := Lib.hid (X10.out.next hb)
      clear hb xX50 xX51
      have xX60 := X6.out.c0
      have xX61 := X6.out.c1
      go_wp2_with fail
      refine (no_c 1 _).mono ?_
      rintro e w2 ⟨rfl, hb⟩
      replace E := Lib.hid (E.out.next hb)
      replace X5 := Lib.hid (X5.out.next hb)
      replace X6 := Lib.hid (X6.out.next hb)
      replace X8 := Lib.hid (X8.out.next hb)
      replace X9 := Lib.hid (X9.out.next hb)
      replace X10 := Lib.hid (X10.out.next hb)
      clear hb xX60 xX61
      have xX80 := X8.out.c0
      have xX81 := X8.out.c1
      go_wp2_with fail
      refine (no_c 1 _).mono ?_
      rintro e w3 ⟨rfl, hb⟩
      replace E := Lib.hid (E.out.next hb)
      replace X5 := Lib.hid (X5.out.next hb)
      replace X6 := Lib.hid (X6.out.next hb)
      replace X8 := Lib.hid (X8.out.next hb)
      replace X9 := Lib.hid (X9.out.next hb)
      replace X10 := Lib.hid (X10.out.next hb)
      clear hb xX80 xX81
      have xX90 := X9.out.c0
      have xX91 := X9.out.c1
      go_wp2_with fail
      refine (zero_c false none 0 0 _).mono ?_
      rw [decide_eq_true (show (0 : Nat) = 0 from rfl)]
      rintro e w4 ⟨rfl, hb⟩
      replace E := Lib.hid (E.out.next hb)
      replace X5 := Lib.hid (X5.out.next hb)
      replace X6 := Lib.hid (X6.out.next hb)
      replace X8 := Lib.hid (X8.out.next hb)
      replace X9 := Lib.hid (X9.out.next hb)
      replace X10 := Lib.hid (X10.out.next hb)
      clear hb xX90 xX91
      have xX100 := X10.out.c0
      have xX101 := X10.out.c1
      go_wp2_with fail
      refine (zero_c false none 0 0 _).mono ?_
      rw [decide_eq_true (show (0 : Nat) = 0 from rfl)]
      rintro e w5 ⟨rfl, hb⟩
      replace E := Lib.hid (E.out.next hb)
      replace X5 := Lib.hid (X5.out.next hb)
      replace X6 := Lib.hid (X6.out.next hb)
      replace X8 := Lib.hid (X8.out.next hb)
      replace X9 := Lib.hid (X9.out.next hb)
      replace X10 := Lib.hid (X10.out.next hb)
      clear hb xX100 xX101
      have a0 := E.out.ba.c0
      have a1 := E.out.ba.c1
      go_wp2_with fail
      refine (root_law s A n c xs _ E.out.ra HN.out.1.1 HN.out.1.2).mono ?_
      rintro e w9 ⟨rfl, hb⟩
      replace E := Lib.hid (E.out.next hb)
      replace X5 := Lib.hid (X5.out.next hb)
      replace X6 := Lib.hid (X6.out.next hb)
      replace X8 := Lib.hid (X8.out.next hb)
      replace X9 := Lib.hid (X9.out.next hb)
      replace X10 := Lib.hid (X10.out.next hb)
      clear hb a0 a1
      go_wp2_with fail
      refine (awake_c _).mono ?_
      rintro e u9 ⟨rfl, b9⟩
      have P9 := Lib.hid (E.out.below.trans (b9.mono E.out.below.size))
      clear b9
      go_wp2
      go_ret
      exact ⟨rfl, P9.out⟩
theorem sz_succ {x y : Int} {k : Nat} (h : x.natAbs ≤ y.natAbs + 1) (hy : Sz y k) : Sz x (k + 1) := by
  have h1 : y.natAbs < pw k := hy
  have h2 := pw_succ k
  show x.natAbs < pw (k + 1)
  omega
theorem sz_gcd {x y : Int} {k : Nat} (hx : Sz x k) (hy : Sz y k) (hk : k ≤ 4096 := by omega) : Sz ((Int.gcd x y : Nat) : Int) 4096 := by
  have h1 : x.natAbs < pw k := hx
  have h2 : y.natAbs < pw k := hy
  have h3 := pw_le hk
  show ((Int.gcd x y : Nat) : Int).natAbs < pw 4096
  rw [Int.natAbs_natCast]
  rcases Nat.eq_zero_or_pos y.natAbs with h0 | h0
  · have : Int.gcd x y = x.natAbs := by rw [Int.gcd, h0, Nat.gcd_zero_right]
    omega
  · have : Int.gcd x y ≤ y.natAbs := Nat.gcd_le_right _ h0
    omega
theorem sz_div {x y : Int} {k : Nat} (hx : Sz x k) : Sz (x / y) (k + 1) := by
  have h1 : x.natAbs < pw k := hx
  have h2 := pw_succ k
  show (x / y).natAbs < pw (k + 1)
  have := Int.natAbs_ediv_le_natAbs x y
  omega
theorem sz_mod {x y : Int} {k : Nat} (h0 : y ≠ 0) (hy : Sz y k) : Sz (x % y) k := by
  have h1 : y.natAbs < pw k := hy
  show (x % y).natAbs < pw k
  have h2 := Int.emod_nonneg x h0
  have h3 := Int.emod_lt x h0
  omega
set_option maxHeartbeats 16000000 in
theorem LD_zero (s s' : Bool) (A A' : Option Addr) (n c n' c' : Nat) (xs ys : List Nat) (w : World) (h : Rd w A n xs) (h' : Rd w A' n' ys) (hn : n ≤ c) (hn' : n' ≤ c') (hc : c ≤ 9223372036854775807) (hc' : c' ≤ 9223372036854775807) (hs : n ≤ 700 ∧ n' ≤ 700) (vx : validB s xs = true) (vy : validB s' ys = true) (h0 : n' = 0) :
    Calls Try.prog 13 #[.agg #[.bool s, .slice A n c], .agg #[.bool s', .slice A' n' c']] w (IsB true w) := by
  have E := Lib.hid (LdV.start s s' A A' n c n' c' xs ys w h h')
  have HN := Lib.hid (And.intro (And.intro hn hc) (And.intro hn' hc'))
  have HV := Lib.hid (And.intro vx vy)
  have HVB := Lib.hid (show (validB s xs && validB s' ys) = true by rw [vx, vy]; rfl)
  have HL7 := Lib.hid hs
  have H0 := Lib.hid h0
  have t1 : decide ((4200 : Int) < (n : Int)) = false := decide_eq_false (by omega)
  have t2 : ¬ (4200 : Int) < (n : Int) := by omega
  have t3 : decide ((4200 : Int) < (n' : Int)) = false := decide_eq_false (by omega)
  have t4 : ¬ (4200 : Int) < (n' : Int) := by omega
  have HIa := Lib.hid (fun (W : World) (r : Rd W A n xs) => Is.of_valid (s := s) (c := c) r vx hn hc)
  have HIb := Lib.hid (fun (W : World) (r : Rd W A' n' ys) => Is.of_valid (s := s') (c := c') r vy hn' hc')
  have SA := Lib.hid (sz_valid (s := s) h hs.1)
  have SB := Lib.hid (sz_valid (s := s') h' hs.2)
  obtain ⟨za, hza⟩ : ∃ z, z = sgn s (val xs) := ⟨_, rfl⟩
  obtain ⟨zb, hzb⟩ : ∃ z, z = sgn s' (val ys) := ⟨_, rfl⟩
  have HZA := Lib.hid (And.intro hza hzb)
  rw [← hza] at HIa SA
  rw [← hzb] at HIb SB
  clear vx vy h0 hza hzb hs
  clear h h' hn hn' hc hc'
  go_enter Try.func13, Try.ntmps13
  go_upto_region 1 with (fail)
  generalize (w.alloc (.cells #[.bool s, .slice A n c] 24)).alloc (.cells #[.bool s', .slice A' n' c'] 24) = W0 at E ⊢
  obtain ⟨ga, hga⟩ : ∃ g, g = w.heap.size := ⟨_, rfl⟩
  rw [← hga] at E ⊢
  clear hga
  go_cut [42] (fun v W => v = .bool false ∧ LdV w W ga s s' A A' n c n' c' xs ys)
  case first =>
    have a0 := E.out.ba.c0
    have a1 := E.out.ba.c1
    have b0 := E.out.bb.c0
    have b1 := E.out.bb.c1
    go_wp2_with fail
    refine (refValid_c s A n c xs _ E.out.ra).mono ?_
    rw [HV.out.1]
    rintro e w1 ⟨rfl, hb⟩
    replace E := Lib.hid (E.out.next hb)
    clear hb a0 a1 b0 b1
    have a0 := E.out.ba.c0
    have a1 := E.out.ba.c1
    have b0 := E.out.bb.c0
    have b1 := E.out.bb.c1
    go_wp2_with fail
    refine (refValid_c s' A' n' c' ys _ E.out.rb).mono ?_
    rw [HV.out.2]
    rintro e w2 ⟨rfl, hb⟩
    replace E := Lib.hid (E.out.next hb)
    clear hb a0 a1 b0 b1
    have a0 := E.out.ba.c0
    have a1 := E.out.ba.c1
    have b0 := E.out.bb.c0
    have b1 := E.out.bb.c1
    rcases Nat.lt_or_ge n n' with h1 | h1
    · have m1 : (n : Int) < (n' : Int) := by omega
      have m2 : (n' : Int) ≤ 700 := by have := HL7.out.2; omega
      have m3 : decide ((700 : Int) < (n' : Int)) = false := decide_eq_false (by omega)
      clear h1
      go_wp2
      go_meet
      exact ⟨rfl, E.out⟩
    · have m1 : (n' : Int) ≤ (n : Int) := by omega
      have m2 : (n : Int) ≤ 700 := by have := HL7.out.1; omega
      have m3 : decide ((700 : Int) < (n : Int)) = false := decide_eq_false (by omega)
      clear h1
      go_wp2
      go_meet
      exact ⟨rfl, E.out⟩
  case rest =>
    obtain ⟨rfl, hE⟩ := hcut
    clear E
    have E := Lib.hid hE
    clear hE
    have Xa := Lib.hid (show Nvr wc ga za s A n c from ⟨E.out.ba.lt, E.out.ba.c0, E.out.ba.c1, E.out.ba.f0, E.out.ba.f1, HIa.out _ E.out.ra⟩)
    have Xb := Lib.hid (show Nvr wc (ga + 1) zb s' A' n' c' from ⟨E.out.bb.lt, E.out.bb.c0, E.out.bb.c1, E.out.bb.f0, E.out.bb.f1, HIb.out _ E.out.rb⟩)
    have a0 := Xa.out.c0
    have a1 := Xa.out.c1
    have b0 := Xb.out.c0
    have b1 := Xb.out.c1
    go_wp2_with fail
    refine (Div_zero s s' A A' n c n' c' xs ys _ E.out.ra E.out.rb HVB.out H0.out).mono ?_
    rintro e w3 ⟨rfl, hb⟩
    replace E := Lib.hid (E.out.next hb)
    replace Xa := Lib.hid (Xa.out.next hb)
    replace Xb := Lib.hid (Xb.out.next hb)
    clear hb a0 a1 b0 b1
    have q0 := below_alloc (w3) (.cells #[.bool false, .slice none 0 0] 24)
    have q1 := below_alloc ((w3).alloc (.cells #[.bool false, .slice none 0 0] 24)) (.cells #[.bool false, .slice none 0 0] 24)
    have q01 := q0.trans (q1.mono q0.size)
    have X5 := Lib.hid ((Bx.new (w3) false none 0 0).next q1)
    have X6 := Lib.hid (Bx.new ((w3).alloc (.cells #[.bool false, .slice none 0 0] 24)) false none 0 0)
    simp only [World.size_alloc] at X6
    replace E := Lib.hid (E.out.next q01)
    replace Xa := Lib.hid (Xa.out.next q01)
    replace Xb := Lib.hid (Xb.out.next q01)
    clear q0 q1 q01
    go_upto_region 4 with (fail)
    generalize (w3.alloc (.cells #[.bool false, .slice none 0 0] 24)).alloc (.cells #[.bool false, .slice none 0 0] 24) = W3 at E Xa Xb X5 X6 ⊢
    generalize w3.heap.size = gX5 at X5 X6 ⊢
    have a0 := Xa.out.c0
    have a1 := Xa.out.c1
    have b0 := Xb.out.c0
    have b1 := Xb.out.c1
    go_wp2_with fail
    refine (Gcd_ok s s' A A' n c n' c' xs ys _ E.out.ra E.out.rb HV.out.1 HV.out.2 (by have := HL7.out.1; omega) (by have := HL7.out.2; omega) HN.out.1.1 HN.out.1.2).mono ?_
    rw [← HZA.out.1, ← HZA.out.2]
    rintro e w4 ⟨t8, A8, n8, c8, t9, A9, n9, c9, tx, Ax, nx, cx, zx, zy, rfl, i8, i9, ix, hlx, hly, hbz, hb⟩
    replace E := Lib.hid (E.out.next hb)
    replace Xa := Lib.hid (Xa.out.next hb)
    replace Xb := Lib.hid (Xb.out.next hb)
    replace X5 := Lib.hid (X5.out.next hb)
    replace X6 := Lib.hid (X6.out.next hb)
    have HBZ := Lib.hid hbz
    have SX := Lib.hid (sz_succ hlx SB.out)
    have SY := Lib.hid (sz_succ hly SA.out)
    have HLX := Lib.hid (And.intro hlx hly)
    clear hb hbz hlx hly a0 a1 b0 b1
    have q8 := below_alloc w4 (.cells #[.bool t8, .slice A8 n8 c8] 24)
    have q9 := below_alloc (w4.alloc (.cells #[.bool t8, .slice A8 n8 c8] 24)) (.cells #[.bool t9, .slice A9 n9 c9] 24)
    replace i9 := i9.below q8
    replace ix := (ix.below q8).below q9
    clear q8 q9
    have q0 := below_alloc (w4) (.cells #[.bool t8, .slice A8 n8 c8] 24)
    have q1 := below_alloc ((w4).alloc (.cells #[.bool t8, .slice A8 n8 c8] 24)) (.cells #[.bool t9, .slice A9 n9 c9] 24)
    have q2 := below_alloc (((w4).alloc (.cells #[.bool t8, .slice A8 n8 c8] 24)).alloc (.cells #[.bool t9, .slice A9 n9 c9] 24)) (.cells #[.bool tx, .slice Ax nx cx] 24)
    have q01 := q0.trans (q1.mono q0.size)
    have q02 := q01.trans (q2.mono q01.size)
    have X8 := Lib.hid (((Nvr.new i8).next q1).next q2)
    have X9 := Lib.hid ((Nvr.new i9).next q2)
    have X10 := Lib.hid (Nvr.new ix)
    simp only [World.size_alloc] at X9 X10
    replace E := Lib.hid (E.out.next q02)
    replace Xa := Lib.hid (Xa.out.next q02)
    replace Xb := Lib.hid (Xb.out.next q02)
    replace X5 := Lib.hid (X5.out.next q02)
    replace X6 := Lib.hid (X6.out.next q02)
    clear q0 q1 q2 q01 q02
    go_upto_region 5 with (fail)
    generalize ((w4.alloc (.cells #[.bool t8, .slice A8 n8 c8] 24)).alloc (.cells #[.bool t9, .slice A9 n9 c9] 24)).alloc (.cells #[.bool tx, .slice Ax nx cx] 24) = W4 at E Xa Xb X5 X6 X8 X9 X10 ⊢
    generalize w4.heap.size = gX8 at X8 X9 X10 ⊢
    clear i8 i9 ix
    obtain ⟨zg, hzg⟩ : ∃ z, z = ((Int.gcd za zb : Nat) : Int) := ⟨_, rfl⟩
    rw [← hzg] at X8 HBZ
    have HZG := Lib.hid hzg.symm
    have SG := Lib.hid (show Sz zg 4096 by rw [hzg]; exact sz_gcd SA.out SB.out)
    clear hzg
    have xXa0 := Xa.out.c0
    have xXa1 := Xa.out.c1
    go_wp2_with fail
    refine (refValid_c s A n c xs _ E.out.ra).mono ?_
    rw [HV.out.1]
    rintro e w6 ⟨rfl, hb⟩
    replace E := Lib.hid (E.out.next hb)
    replace Xa := Lib.hid (Xa.out.next hb)
    replace Xb := Lib.hid (Xb.out.next hb)
    replace X5 := Lib.hid (X5.out.next hb)
    replace X6 := Lib.hid (X6.out.next hb)
    replace X8 := Lib.hid (X8.out.next hb)
    replace X9 := Lib.hid (X9.out.next hb)
    replace X10 := Lib.hid (X10.out.next hb)
    clear hb xXa0 xXa1
    have xXb0 := Xb.out.c0
    have xXb1 := Xb.out.c1
    go_wp2_with fail
    refine (refValid_c s' A' n' c' ys _ E.out.rb).mono ?_
    rw [HV.out.2]
    rintro e w7 ⟨rfl, hb⟩
    replace E := Lib.hid (E.out.next hb)
    replace Xa := Lib.hid (Xa.out.next hb)
    replace Xb := Lib.hid (Xb.out.next hb)
    replace X5 := Lib.hid (X5.out.next hb)
    replace X6 := Lib.hid (X6.out.next hb)
    replace X8 := Lib.hid (X8.out.next hb)
    replace X9 := Lib.hid (X9.out.next hb)
    replace X10 := Lib.hid (X10.out.next hb)
    clear hb xXb0 xXb1
    have xXb0 := Xb.out.c0
    have xXb1 := Xb.out.c1
    go_wp2_with fail
    refine (zero_c s' A' n' c' _).mono ?_
    rw [decide_eq_true H0.out]
    rintro e w8 ⟨rfl, hb⟩
    replace E := Lib.hid (E.out.next hb)
    replace Xa := Lib.hid (Xa.out.next hb)
    replace Xb := Lib.hid (Xb.out.next hb)
    replace X5 := Lib.hid (X5.out.next hb)
    replace X6 := Lib.hid (X6.out.next hb)
    replace X8 := Lib.hid (X8.out.next hb)
    replace X9 := Lib.hid (X9.out.next hb)
    replace X10 := Lib.hid (X10.out.next hb)
    clear hb xXb0 xXb1
    have xX50 := X5.out.c0
    have xX51 := X5.out.c1
    go_wp2_with fail
    refine (no_c 2 _).mono ?_
    rintro e w9 ⟨rfl, hb⟩
    replace E := Lib.hid (E.out.next hb)
    replace Xa := Lib.hid (Xa.out.next hb)
    replace Xb := Lib.hid (Xb.out.next hb)
    replace X5 := Lib.hid (X5.out.next hb)
    replace X6 := Lib.hid (X6.out.next hb)
    replace X8 := Lib.hid (X8.out.next hb)
    replace X9 := Lib.hid (X9.out.next hb)
    replace X10 := Lib.hid (X10.out.next hb)
    clear hb xX50 xX51
    have xX60 := X6.out.c0
    have xX61 := X6.out.c1
    go_wp2_with fail
    refine (no_c 2 _).mono ?_
    rintro e w10 ⟨rfl, hb⟩
    replace E := Lib.hid (E.out.next hb)
    replace Xa := Lib.hid (Xa.out.next hb)
    replace Xb := Lib.hid (Xb.out.next hb)
    replace X5 := Lib.hid (X5.out.next hb)
    replace X6 := Lib.hid (X6.out.next hb)
    replace X8 := Lib.hid (X8.out.next hb)
    replace X9 := Lib.hid (X9.out.next hb)
    replace X10 := Lib.hid (X10.out.next hb)
    clear hb xX60 xX61
    clear X5 X6
    go_upto_region 13 with (fail)
    refine wp_region_held_drew (S := (fun w' => w'.cell? ⟨gX8, 0, none⟩ = some (.bool t8) ∧ w'.cell? ⟨gX8, 1, none⟩ = some (.slice A8 n8 c8) ∧ w'.cell? ⟨ga, 0, none⟩ = some (.bool s) ∧ w'.cell? ⟨ga, 1, none⟩ = some (.slice A n c) ∧ w'.cell? ⟨ga + 1, 0, none⟩ = some (.bool s') ∧ w'.cell? ⟨ga + 1, 1, none⟩ = some (.slice A' n' c') ∧ w'.cell? ⟨gX8 + 1, 0, none⟩ = some (.bool t9) ∧ w'.cell? ⟨gX8 + 1, 1, none⟩ = some (.slice A9 n9 c9) ∧ w'.cell? ⟨gX8 + 1 + 1, 0, none⟩ = some (.bool tx) ∧ w'.cell? ⟨gX8 + 1 + 1, 1, none⟩ = some (.slice Ax nx cx))) (by kernel_rfl) ⟨cell_dr X8.out.c0, cell_dr X8.out.c1, cell_dr Xa.out.c0, cell_dr Xa.out.c1, cell_dr Xb.out.c0, cell_dr Xb.out.c1, cell_dr X9.out.c0, cell_dr X9.out.c1, cell_dr X10.out.c0, cell_dr X10.out.c1⟩ (fun hHeld => ?_)
    replace E := Lib.hid (E.out.next (Below.refl w10.heap.size w10).drew)
    replace Xa := Lib.hid (Xa.out.next (Below.refl w10.heap.size w10).drew)
    replace Xb := Lib.hid (Xb.out.next (Below.refl w10.heap.size w10).drew)
    replace X8 := Lib.hid (X8.out.next (Below.refl w10.heap.size w10).drew)
    replace X9 := Lib.hid (X9.out.next (Below.refl w10.heap.size w10).drew)
    replace X10 := Lib.hid (X10.out.next (Below.refl w10.heap.size w10).drew)
    generalize w10.drew = D11 at E Xa Xb X8 X9 X10 hHeld ⊢
    refine take_on (i := 0) (d := (some 125)) (v := ?v1) rfl rfl (by kernel_rfl) (by kernel_rfl) (by kernel_rfl) (fun c a w h => h) (by rfl) ?h1 (by assumption) ?r1
    case h1 => intro w hSw; obtain ⟨h0, h1, h2, h3, h4, h5, h6, h7, h8, h9⟩ := hSw; go_simp; rfl
    simp only [Act.put, List.setIfInBounds_toArray, List.set_cons_zero, List.set_cons_succ]
    refine take_on (i := 1) (d := (some 126)) (v := ?v2) rfl rfl (by kernel_rfl) (by kernel_rfl) (by kernel_rfl) (fun c a w h => h) (by rfl) ?h2 (by assumption) ?r2
    case h2 => intro w hSw; obtain ⟨h0, h1, h2, h3, h4, h5, h6, h7, h8, h9⟩ := hSw; go_simp; rfl
    simp only [Act.put, List.setIfInBounds_toArray, List.set_cons_zero, List.set_cons_succ]
    refine take_on (i := 2) (d := (some 127)) (v := ?v3) rfl rfl (by kernel_rfl) (by kernel_rfl) (by kernel_rfl) (fun c a w h => h) (by rfl) ?h3 (by assumption) ?r3
    case h3 => intro w hSw; obtain ⟨h0, h1, h2, h3, h4, h5, h6, h7, h8, h9⟩ := hSw; go_simp; rfl
    simp only [Act.put, List.setIfInBounds_toArray, List.set_cons_zero, List.set_cons_succ]
    refine take_on (i := 3) (d := (some 128)) (v := ?v4) rfl rfl (by kernel_rfl) (by kernel_rfl) (by kernel_rfl) (fun c a w h => h) (by rfl) ?h4 (by assumption) ?r4
    case h4 => intro w hSw; obtain ⟨h0, h1, h2, h3, h4, h5, h6, h7, h8, h9⟩ := hSw; go_simp; rfl
    simp only [Act.put, List.setIfInBounds_toArray, List.set_cons_zero, List.set_cons_succ]
    refine take_on (i := 4) (d := (some 129)) (v := ?v5) rfl rfl (by kernel_rfl) (by kernel_rfl) (by kernel_rfl) (fun c a w h => h) (by rfl) ?h5 (by assumption) ?r5
    case h5 => intro w hSw; obtain ⟨h0, h1, h2, h3, h4, h5, h6, h7, h8, h9⟩ := hSw; go_simp; rfl
    simp only [Act.put, List.setIfInBounds_toArray, List.set_cons_zero, List.set_cons_succ]
    refine take_on (i := 5) (d := (some 130)) (v := ?v6) rfl rfl (by kernel_rfl) (by kernel_rfl) (by kernel_rfl) (fun c a w h => h) (by rfl) ?h6 (by assumption) ?r6
    case h6 => intro w hSw; obtain ⟨h0, h1, h2, h3, h4, h5, h6, h7, h8, h9⟩ := hSw; go_simp; rfl
    simp only [Act.put, List.setIfInBounds_toArray, List.set_cons_zero, List.set_cons_succ]
    refine wpAnyH_ready (rs := [6]) (by kernel_rfl) (by simp) ?_
    refine AllReadyH.cons rfl (fun K hK => ?_) AllReadyH.nil
    go_simp
    refine (refGcd_c Xa.out.is Xb.out.is (SA.out.le (by omega)) (SB.out.le (by omega))).mono ?_
    rw [HZG.out]
    rintro e w12 ⟨t30, A30, n30, c30, rfl, i30, hb⟩
    replace E := Lib.hid (E.out.next hb)
    replace Xa := Lib.hid (Xa.out.next hb)
    replace Xb := Lib.hid (Xb.out.next hb)
    replace X8 := Lib.hid (X8.out.next hb)
    replace X9 := Lib.hid (X9.out.next hb)
    replace X10 := Lib.hid (X10.out.next hb)
    have J0 := Lib.hid (i30)
    clear hb hHeld i30
    refine hK.out _ _ ⟨X8.out.c0, X8.out.c1, Xa.out.c0, Xa.out.c1, Xb.out.c0, Xb.out.c1, X9.out.c0, X9.out.c1, X10.out.c0, X10.out.c1⟩ (fun hHeld => ?_)
    clear hK K
    refine wpAnyH_ready (rs := [7]) (by kernel_rfl) (by simp) ?_
    refine AllReadyH.cons rfl (fun K hK => ?_) AllReadyH.nil
    go_simp
    refine (same_eq (k := 4096) X8.out.is J0.out SG.out (Nat.le_refl _) rfl).mono ?_
    rintro e w13 ⟨rfl, hb⟩
    clear J0
    replace E := Lib.hid (E.out.next hb)
    replace Xa := Lib.hid (Xa.out.next hb)
    replace Xb := Lib.hid (Xb.out.next hb)
    replace X8 := Lib.hid (X8.out.next hb)
    replace X9 := Lib.hid (X9.out.next hb)
    replace X10 := Lib.hid (X10.out.next hb)
    clear hb hHeld
    refine hK.out _ _ ⟨X8.out.c0, X8.out.c1, Xa.out.c0, Xa.out.c1, Xb.out.c0, Xb.out.c1, X9.out.c0, X9.out.c1, X10.out.c0, X10.out.c1⟩ (fun hHeld => ?_)
    clear hK K
    refine take_on (i := 8) (d := (some 133)) (v := ?v7) rfl rfl (by kernel_rfl) (by kernel_rfl) (by kernel_rfl) (fun c a w h => h) (by rfl) ?h7 (by assumption) ?r7
    case h7 => intro w hSw; obtain ⟨h0, h1, h2, h3, h4, h5, h6, h7, h8, h9⟩ := hSw; go_simp; rfl
    simp only [Act.put, List.setIfInBounds_toArray, List.set_cons_zero, List.set_cons_succ]
    refine take_on (i := 9) (d := (some 134)) (v := ?v8) rfl rfl (by kernel_rfl) (by kernel_rfl) (by kernel_rfl) (fun c a w h => h) (by rfl) ?h8 (by assumption) ?r8
    case h8 => intro w hSw; obtain ⟨h0, h1, h2, h3, h4, h5, h6, h7, h8, h9⟩ := hSw; go_simp; rfl
    simp only [Act.put, List.setIfInBounds_toArray, List.set_cons_zero, List.set_cons_succ]
    refine take_on (i := 10) (d := (some 135)) (v := ?v9) rfl rfl (by kernel_rfl) (by kernel_rfl) (by kernel_rfl) (fun c a w h => h) (by rfl) ?h9 (by assumption) ?r9
    case h9 => intro w hSw; obtain ⟨h0, h1, h2, h3, h4, h5, h6, h7, h8, h9⟩ := hSw; go_simp; rfl
    simp only [Act.put, List.setIfInBounds_toArray, List.set_cons_zero, List.set_cons_succ]
    refine take_on (i := 11) (d := (some 136)) (v := ?v10) rfl rfl (by kernel_rfl) (by kernel_rfl) (by kernel_rfl) (fun c a w h => h) (by rfl) ?h10 (by assumption) ?r10
    case h10 => intro w hSw; obtain ⟨h0, h1, h2, h3, h4, h5, h6, h7, h8, h9⟩ := hSw; go_simp; rfl
    simp only [Act.put, List.setIfInBounds_toArray, List.set_cons_zero, List.set_cons_succ]
    refine wpAnyH_ready (rs := [12]) (by kernel_rfl) (by simp) ?_
    refine AllReadyH.cons rfl (fun K hK => ?_) AllReadyH.nil
    go_simp
    refine (valid_is X9.out.is (SX.out.le (by omega))).mono ?_
    rintro e w14 ⟨rfl, hb⟩
    replace E := Lib.hid (E.out.next hb)
    replace Xa := Lib.hid (Xa.out.next hb)
    replace Xb := Lib.hid (Xb.out.next hb)
    replace X8 := Lib.hid (X8.out.next hb)
    replace X9 := Lib.hid (X9.out.next hb)
    replace X10 := Lib.hid (X10.out.next hb)
    clear hb hHeld
    refine hK.out _ _ ⟨X8.out.c0, X8.out.c1, Xa.out.c0, Xa.out.c1, Xb.out.c0, Xb.out.c1, X9.out.c0, X9.out.c1, X10.out.c0, X10.out.c1⟩ (fun hHeld => ?_)
    clear hK K
    refine take_on (i := 13) (d := (some 138)) (v := ?v11) rfl rfl (by kernel_rfl) (by kernel_rfl) (by kernel_rfl) (fun c a w h => h) (by rfl) ?h11 (by assumption) ?r11
    case h11 => intro w hSw; obtain ⟨h0, h1, h2, h3, h4, h5, h6, h7, h8, h9⟩ := hSw; go_simp; rfl
    simp only [Act.put, List.setIfInBounds_toArray, List.set_cons_zero, List.set_cons_succ]
    refine take_on (i := 14) (d := (some 139)) (v := ?v12) rfl rfl (by kernel_rfl) (by kernel_rfl) (by kernel_rfl) (fun c a w h => h) (by rfl) ?h12 (by assumption) ?r12
    case h12 => intro w hSw; obtain ⟨h0, h1, h2, h3, h4, h5, h6, h7, h8, h9⟩ := hSw; go_simp; rfl
    simp only [Act.put, List.setIfInBounds_toArray, List.set_cons_zero, List.set_cons_succ]
    refine take_on (i := 15) (d := (some 140)) (v := ?v13) rfl rfl (by kernel_rfl) (by kernel_rfl) (by kernel_rfl) (fun c a w h => h) (by rfl) ?h13 (by assumption) ?r13
    case h13 => intro w hSw; obtain ⟨h0, h1, h2, h3, h4, h5, h6, h7, h8, h9⟩ := hSw; go_simp; rfl
    simp only [Act.put, List.setIfInBounds_toArray, List.set_cons_zero, List.set_cons_succ]
    refine take_on (i := 16) (d := (some 141)) (v := ?v14) rfl rfl (by kernel_rfl) (by kernel_rfl) (by kernel_rfl) (fun c a w h => h) (by rfl) ?h14 (by assumption) ?r14
    case h14 => intro w hSw; obtain ⟨h0, h1, h2, h3, h4, h5, h6, h7, h8, h9⟩ := hSw; go_simp; rfl
    simp only [Act.put, List.setIfInBounds_toArray, List.set_cons_zero, List.set_cons_succ]
    refine wpAnyH_ready (rs := [17]) (by kernel_rfl) (by simp) ?_
    refine AllReadyH.cons rfl (fun K hK => ?_) AllReadyH.nil
    go_simp
    refine (valid_is X10.out.is (SY.out.le (by omega))).mono ?_
    rintro e w15 ⟨rfl, hb⟩
    replace E := Lib.hid (E.out.next hb)
    replace Xa := Lib.hid (Xa.out.next hb)
    replace Xb := Lib.hid (Xb.out.next hb)
    replace X8 := Lib.hid (X8.out.next hb)
    replace X9 := Lib.hid (X9.out.next hb)
    replace X10 := Lib.hid (X10.out.next hb)
    clear hb hHeld
    refine hK.out _ _ ⟨X8.out.c0, X8.out.c1, Xa.out.c0, Xa.out.c1, Xb.out.c0, Xb.out.c1, X9.out.c0, X9.out.c1, X10.out.c0, X10.out.c1⟩ (fun hHeld => ?_)
    clear hK K
    refine take_on (i := 18) (d := (some 143)) (v := ?v15) rfl rfl (by kernel_rfl) (by kernel_rfl) (by kernel_rfl) (fun c a w h => h) (by rfl) ?h15 (by assumption) ?r15
    case h15 => intro w hSw; obtain ⟨h0, h1, h2, h3, h4, h5, h6, h7, h8, h9⟩ := hSw; go_simp; rfl
    simp only [Act.put, List.setIfInBounds_toArray, List.set_cons_zero, List.set_cons_succ]
    refine take_on (i := 19) (d := (some 144)) (v := ?v16) rfl rfl (by kernel_rfl) (by kernel_rfl) (by kernel_rfl) (fun c a w h => h) (by rfl) ?h16 (by assumption) ?r16
    case h16 => intro w hSw; obtain ⟨h0, h1, h2, h3, h4, h5, h6, h7, h8, h9⟩ := hSw; go_simp; rfl
    simp only [Act.put, List.setIfInBounds_toArray, List.set_cons_zero, List.set_cons_succ]
    clear hHeld
    refine wpAnyH_done (by kernel_rfl) ?_ _
    go_wp2_with fail
    refine (refOfV 1 _ (by omega) (by omega)).mono ?_
    rintro e w16 ⟨t31, A31, n31, c31, rfl, i31, hb⟩
    replace E := Lib.hid (E.out.next hb)
    replace Xa := Lib.hid (Xa.out.next hb)
    replace Xb := Lib.hid (Xb.out.next hb)
    replace X8 := Lib.hid (X8.out.next hb)
    replace X9 := Lib.hid (X9.out.next hb)
    replace X10 := Lib.hid (X10.out.next hb)
    clear hb
    have q0 := below_alloc (w16) (.cells #[.bool t31, .slice A31 n31 c31] 24)
    have X14 := Lib.hid (Nvr.new i31.is)
    replace E := Lib.hid (E.out.next q0)
    replace Xa := Lib.hid (Xa.out.next q0)
    replace Xb := Lib.hid (Xb.out.next q0)
    replace X8 := Lib.hid (X8.out.next q0)
    replace X9 := Lib.hid (X9.out.next q0)
    replace X10 := Lib.hid (X10.out.next q0)
    clear q0 
    go_upto_region 16 with (fail)
    generalize w16.alloc (.cells #[.bool t31, .slice A31 n31 c31] 24) = W6 at E Xa Xb X8 X9 X10 X14 ⊢
    generalize w16.heap.size = gX14 at X14 ⊢
    clear i31
    obtain ⟨r1, hr1⟩ : ∃ r, r = ord ((zx.natAbs : Nat) : Int) (((zb.natAbs : Nat) : Int) + 1) := ⟨_, rfl⟩
    obtain ⟨r2, hr2⟩ : ∃ r, r = ord ((zy.natAbs : Nat) : Int) (((za.natAbs : Nat) : Int) + 1) := ⟨_, rfl⟩
    have l1 : r1 ≤ 0 := by rw [hr1]; exact ord_le0 (by have := HLX.out.1; omega)
    have l2 : r2 ≤ 0 := by rw [hr2]; exact ord_le0 (by have := HLX.out.2; omega)
    have d1 : decide (0 < r1) = false := decide_eq_false (by omega)
    have d2 : decide (0 < r2) = false := decide_eq_false (by omega)
    have HR1 := Lib.hid hr1.symm
    have HR2 := Lib.hid hr2.symm
    have SNX := Lib.hid (sz_natAbs SX.out)
    have SNY := Lib.hid (sz_natAbs SY.out)
    have SNA := Lib.hid (sz_natAbs SA.out)
    have SNB := Lib.hid (sz_natAbs SB.out)
    clear hr1 hr2
    refine wp_region_held_drew (S := (fun w' => w'.cell? ⟨gX8 + 1, 0, none⟩ = some (.bool t9) ∧ w'.cell? ⟨gX8 + 1, 1, none⟩ = some (.slice A9 n9 c9) ∧ w'.cell? ⟨ga + 1, 0, none⟩ = some (.bool s') ∧ w'.cell? ⟨ga + 1, 1, none⟩ = some (.slice A' n' c') ∧ w'.cell? ⟨gX14, 0, none⟩ = some (.bool t31) ∧ w'.cell? ⟨gX14, 1, none⟩ = some (.slice A31 n31 c31) ∧ w'.cell? ⟨gX8 + 1 + 1, 0, none⟩ = some (.bool tx) ∧ w'.cell? ⟨gX8 + 1 + 1, 1, none⟩ = some (.slice Ax nx cx) ∧ w'.cell? ⟨ga, 0, none⟩ = some (.bool s) ∧ w'.cell? ⟨ga, 1, none⟩ = some (.slice A n c))) (by kernel_rfl) ⟨cell_dr X9.out.c0, cell_dr X9.out.c1, cell_dr Xb.out.c0, cell_dr Xb.out.c1, cell_dr X14.out.c0, cell_dr X14.out.c1, cell_dr X10.out.c0, cell_dr X10.out.c1, cell_dr Xa.out.c0, cell_dr Xa.out.c1⟩ (fun hHeld => ?_)
    replace E := Lib.hid (E.out.next (Below.refl W6.heap.size W6).drew)
    replace Xa := Lib.hid (Xa.out.next (Below.refl W6.heap.size W6).drew)
    replace Xb := Lib.hid (Xb.out.next (Below.refl W6.heap.size W6).drew)
    replace X8 := Lib.hid (X8.out.next (Below.refl W6.heap.size W6).drew)
    replace X9 := Lib.hid (X9.out.next (Below.refl W6.heap.size W6).drew)
    replace X10 := Lib.hid (X10.out.next (Below.refl W6.heap.size W6).drew)
    replace X14 := Lib.hid (X14.out.next (Below.refl W6.heap.size W6).drew)
    generalize W6.drew = D17 at E Xa Xb X8 X9 X10 X14 hHeld ⊢
    refine take_on (i := 0) (d := (some 146)) (v := ?v17) rfl rfl (by kernel_rfl) (by kernel_rfl) (by kernel_rfl) (fun c a w h => h) (by rfl) ?h17 (by assumption) ?r17
    case h17 => intro w hSw; obtain ⟨h0, h1, h2, h3, h4, h5, h6, h7, h8, h9⟩ := hSw; go_simp; rfl
    simp only [Act.put, List.setIfInBounds_toArray, List.set_cons_zero, List.set_cons_succ]
    refine take_on (i := 2) (d := (some 148)) (v := ?v18) rfl rfl (by kernel_rfl) (by kernel_rfl) (by kernel_rfl) (fun c a w h => h) (by rfl) ?h18 (by assumption) ?r18
    case h18 => intro w hSw; obtain ⟨h0, h1, h2, h3, h4, h5, h6, h7, h8, h9⟩ := hSw; go_simp; rfl
    simp only [Act.put, List.setIfInBounds_toArray, List.set_cons_zero, List.set_cons_succ]
    refine take_on (i := 4) (d := (some 150)) (v := ?v19) rfl rfl (by kernel_rfl) (by kernel_rfl) (by kernel_rfl) (fun c a w h => h) (by rfl) ?h19 (by assumption) ?r19
    case h19 => intro w hSw; obtain ⟨h0, h1, h2, h3, h4, h5, h6, h7, h8, h9⟩ := hSw; go_simp; rfl
    simp only [Act.put, List.setIfInBounds_toArray, List.set_cons_zero, List.set_cons_succ]
    refine wpAnyH_ready (rs := [1]) (by kernel_rfl) (by simp) ?_
    refine AllReadyH.cons rfl (fun K hK => ?_) AllReadyH.nil
    go_simp
    refine (refAbs2_c X9.out.is (Nat.le_trans (X9.out.is.len SX.out) (by omega))).mono ?_
    rintro e w18 ⟨t40, A40, n40, c40, rfl, i40, hb⟩
    replace E := Lib.hid (E.out.next hb)
    replace Xa := Lib.hid (Xa.out.next hb)
    replace Xb := Lib.hid (Xb.out.next hb)
    replace X8 := Lib.hid (X8.out.next hb)
    replace X9 := Lib.hid (X9.out.next hb)
    replace X10 := Lib.hid (X10.out.next hb)
    replace X14 := Lib.hid (X14.out.next hb)
    have J0 := Lib.hid (i40)
    clear hb hHeld i40
    refine hK.out _ _ ⟨X9.out.c0, X9.out.c1, Xb.out.c0, Xb.out.c1, X14.out.c0, X14.out.c1, X10.out.c0, X10.out.c1, Xa.out.c0, Xa.out.c1⟩ (fun hHeld => ?_)
    clear hK K
    refine wpAnyH_ready (rs := [3]) (by kernel_rfl) (by simp) ?_
    refine AllReadyH.cons rfl (fun K hK => ?_) AllReadyH.nil
    go_simp
    refine (refAbs2_c Xb.out.is (Nat.le_trans (Xb.out.is.len SB.out) (by omega))).mono ?_
    rintro e w19 ⟨t41, A41, n41, c41, rfl, i41, hb⟩
    replace E := Lib.hid (E.out.next hb)
    replace Xa := Lib.hid (Xa.out.next hb)
    replace Xb := Lib.hid (Xb.out.next hb)
    replace X8 := Lib.hid (X8.out.next hb)
    replace X9 := Lib.hid (X9.out.next hb)
    replace X10 := Lib.hid (X10.out.next hb)
    replace X14 := Lib.hid (X14.out.next hb)
    replace J0 := Lib.hid (J0.out.below hb)
    have J1 := Lib.hid (i41)
    clear hb hHeld i41
    refine hK.out _ _ ⟨X9.out.c0, X9.out.c1, Xb.out.c0, Xb.out.c1, X14.out.c0, X14.out.c1, X10.out.c0, X10.out.c1, Xa.out.c0, Xa.out.c1⟩ (fun hHeld => ?_)
    clear hK K
    refine wpAnyH_ready (rs := [5]) (by kernel_rfl) (by simp) ?_
    refine AllReadyH.cons rfl (fun K hK => ?_) AllReadyH.nil
    go_simp
    refine (refAdd_c J1.out X14.out.is (Nat.le_trans (J1.out.len SNB.out) (by omega)) (Nat.le_trans (X14.out.is.len (sz_one' (Nat.le_refl 1))) (by omega))).mono ?_
    rintro e w20 ⟨t42, A42, n42, c42, rfl, i42, hb⟩
    replace E := Lib.hid (E.out.next hb)
    replace Xa := Lib.hid (Xa.out.next hb)
    replace Xb := Lib.hid (Xb.out.next hb)
    replace X8 := Lib.hid (X8.out.next hb)
    replace X9 := Lib.hid (X9.out.next hb)
    replace X10 := Lib.hid (X10.out.next hb)
    replace X14 := Lib.hid (X14.out.next hb)
    replace J0 := Lib.hid (J0.out.below hb)
    replace J1 := Lib.hid (J1.out.below hb)
    have J2 := Lib.hid (i42)
    clear hb hHeld i42
    refine hK.out _ _ ⟨X9.out.c0, X9.out.c1, Xb.out.c0, Xb.out.c1, X14.out.c0, X14.out.c1, X10.out.c0, X10.out.c1, Xa.out.c0, Xa.out.c1⟩ (fun hHeld => ?_)
    clear hK K
    refine wpAnyH_ready (rs := [6]) (by kernel_rfl) (by simp) ?_
    refine AllReadyH.cons rfl (fun K hK => ?_) AllReadyH.nil
    go_simp
    refine (refCmp_c J0.out J2.out (Nat.le_trans (J0.out.len SNX.out) (by omega)) (Nat.le_trans (J2.out.len (SNB.out.add (sz_one' (by omega)))) (by omega))).mono ?_
    rw [HR1.out]
    rintro e w21 ⟨rfl, hb⟩
    clear J0 J1 J2
    replace E := Lib.hid (E.out.next hb)
    replace Xa := Lib.hid (Xa.out.next hb)
    replace Xb := Lib.hid (Xb.out.next hb)
    replace X8 := Lib.hid (X8.out.next hb)
    replace X9 := Lib.hid (X9.out.next hb)
    replace X10 := Lib.hid (X10.out.next hb)
    replace X14 := Lib.hid (X14.out.next hb)
    clear hb hHeld
    refine hK.out _ _ ⟨X9.out.c0, X9.out.c1, Xb.out.c0, Xb.out.c1, X14.out.c0, X14.out.c1, X10.out.c0, X10.out.c1, Xa.out.c0, Xa.out.c1⟩ (fun hHeld => ?_)
    clear hK K
    refine take_on (i := 7) (d := (some 153)) (v := ?v20) rfl rfl (by kernel_rfl) (by kernel_rfl) (by kernel_rfl) (fun c a w h => h) (by rfl) ?h20 (by assumption) ?r20
    case h20 => intro w hSw; obtain ⟨h0, h1, h2, h3, h4, h5, h6, h7, h8, h9⟩ := hSw; go_simp; rfl
    simp only [Act.put, List.setIfInBounds_toArray, List.set_cons_zero, List.set_cons_succ]
    refine take_on (i := 8) (d := (some 154)) (v := ?v21) rfl rfl (by kernel_rfl) (by kernel_rfl) (by kernel_rfl) (fun c a w h => h) (by rfl) ?h21 (by assumption) ?r21
    case h21 => intro w hSw; obtain ⟨h0, h1, h2, h3, h4, h5, h6, h7, h8, h9⟩ := hSw; go_simp; rfl
    simp only [Act.put, List.setIfInBounds_toArray, List.set_cons_zero, List.set_cons_succ]
    refine take_on (i := 9) (d := (some 155)) (v := ?v22) rfl rfl (by kernel_rfl) (by kernel_rfl) (by kernel_rfl) (fun c a w h => h) (by rfl) ?h22 (by assumption) ?r22
    case h22 => intro w hSw; obtain ⟨h0, h1, h2, h3, h4, h5, h6, h7, h8, h9⟩ := hSw; go_simp; rfl
    simp only [Act.put, List.setIfInBounds_toArray, List.set_cons_zero, List.set_cons_succ]
    refine take_on (i := 11) (d := (some 157)) (v := ?v23) rfl rfl (by kernel_rfl) (by kernel_rfl) (by kernel_rfl) (fun c a w h => h) (by rfl) ?h23 (by assumption) ?r23
    case h23 => intro w hSw; obtain ⟨h0, h1, h2, h3, h4, h5, h6, h7, h8, h9⟩ := hSw; go_simp; rfl
    simp only [Act.put, List.setIfInBounds_toArray, List.set_cons_zero, List.set_cons_succ]
    refine take_on (i := 13) (d := (some 159)) (v := ?v24) rfl rfl (by kernel_rfl) (by kernel_rfl) (by kernel_rfl) (fun c a w h => h) (by rfl) ?h24 (by assumption) ?r24
    case h24 => intro w hSw; obtain ⟨h0, h1, h2, h3, h4, h5, h6, h7, h8, h9⟩ := hSw; go_simp; rfl
    simp only [Act.put, List.setIfInBounds_toArray, List.set_cons_zero, List.set_cons_succ]
    refine wpAnyH_ready (rs := [10]) (by kernel_rfl) (by simp) ?_
    refine AllReadyH.cons rfl (fun K hK => ?_) AllReadyH.nil
    go_simp
    refine (refAbs2_c X10.out.is (Nat.le_trans (X10.out.is.len SY.out) (by omega))).mono ?_
    rintro e w22 ⟨t43, A43, n43, c43, rfl, i43, hb⟩
    replace E := Lib.hid (E.out.next hb)
    replace Xa := Lib.hid (Xa.out.next hb)
    replace Xb := Lib.hid (Xb.out.next hb)
    replace X8 := Lib.hid (X8.out.next hb)
    replace X9 := Lib.hid (X9.out.next hb)
    replace X10 := Lib.hid (X10.out.next hb)
    replace X14 := Lib.hid (X14.out.next hb)
    have J3 := Lib.hid (i43)
    clear hb hHeld i43
    refine hK.out _ _ ⟨X9.out.c0, X9.out.c1, Xb.out.c0, Xb.out.c1, X14.out.c0, X14.out.c1, X10.out.c0, X10.out.c1, Xa.out.c0, Xa.out.c1⟩ (fun hHeld => ?_)
    clear hK K
    refine wpAnyH_ready (rs := [12]) (by kernel_rfl) (by simp) ?_
    refine AllReadyH.cons rfl (fun K hK => ?_) AllReadyH.nil
    go_simp
    refine (refAbs2_c Xa.out.is (Nat.le_trans (Xa.out.is.len SA.out) (by omega))).mono ?_
    rintro e w23 ⟨t44, A44, n44, c44, rfl, i44, hb⟩
    replace E := Lib.hid (E.out.next hb)
    replace Xa := Lib.hid (Xa.out.next hb)
    replace Xb := Lib.hid (Xb.out.next hb)
    replace X8 := Lib.hid (X8.out.next hb)
    replace X9 := Lib.hid (X9.out.next hb)
    replace X10 := Lib.hid (X10.out.next hb)
    replace X14 := Lib.hid (X14.out.next hb)
    replace J3 := Lib.hid (J3.out.below hb)
    have J4 := Lib.hid (i44)
    clear hb hHeld i44
    refine hK.out _ _ ⟨X9.out.c0, X9.out.c1, Xb.out.c0, Xb.out.c1, X14.out.c0, X14.out.c1, X10.out.c0, X10.out.c1, Xa.out.c0, Xa.out.c1⟩ (fun hHeld => ?_)
    clear hK K
    refine wpAnyH_ready (rs := [14]) (by kernel_rfl) (by simp) ?_
    refine AllReadyH.cons rfl (fun K hK => ?_) AllReadyH.nil
    go_simp
    refine (refAdd_c J4.out X14.out.is (Nat.le_trans (J4.out.len SNA.out) (by omega)) (Nat.le_trans (X14.out.is.len (sz_one' (Nat.le_refl 1))) (by omega))).mono ?_
    rintro e w24 ⟨t45, A45, n45, c45, rfl, i45, hb⟩
    replace E := Lib.hid (E.out.next hb)
    replace Xa := Lib.hid (Xa.out.next hb)
    replace Xb := Lib.hid (Xb.out.next hb)
    replace X8 := Lib.hid (X8.out.next hb)
    replace X9 := Lib.hid (X9.out.next hb)
    replace X10 := Lib.hid (X10.out.next hb)
    replace X14 := Lib.hid (X14.out.next hb)
    replace J3 := Lib.hid (J3.out.below hb)
    replace J4 := Lib.hid (J4.out.below hb)
    have J5 := Lib.hid (i45)
    clear hb hHeld i45
    refine hK.out _ _ ⟨X9.out.c0, X9.out.c1, Xb.out.c0, Xb.out.c1, X14.out.c0, X14.out.c1, X10.out.c0, X10.out.c1, Xa.out.c0, Xa.out.c1⟩ (fun hHeld => ?_)
    clear hK K
    refine wpAnyH_ready (rs := [15]) (by kernel_rfl) (by simp) ?_
    refine AllReadyH.cons rfl (fun K hK => ?_) AllReadyH.nil
    go_simp
    refine (refCmp_c J3.out J5.out (Nat.le_trans (J3.out.len SNY.out) (by omega)) (Nat.le_trans (J5.out.len (SNA.out.add (sz_one' (by omega)))) (by omega))).mono ?_
    rw [HR2.out]
    rintro e w25 ⟨rfl, hb⟩
    clear J3 J4 J5
    replace E := Lib.hid (E.out.next hb)
    replace Xa := Lib.hid (Xa.out.next hb)
    replace Xb := Lib.hid (Xb.out.next hb)
    replace X8 := Lib.hid (X8.out.next hb)
    replace X9 := Lib.hid (X9.out.next hb)
    replace X10 := Lib.hid (X10.out.next hb)
    replace X14 := Lib.hid (X14.out.next hb)
    clear hb hHeld
    refine hK.out _ _ ⟨X9.out.c0, X9.out.c1, Xb.out.c0, Xb.out.c1, X14.out.c0, X14.out.c1, X10.out.c0, X10.out.c1, Xa.out.c0, Xa.out.c1⟩ (fun hHeld => ?_)
    clear hK K
    refine take_on (i := 16) (d := (some 162)) (v := ?v25) rfl rfl (by kernel_rfl) (by kernel_rfl) (by kernel_rfl) (fun c a w h => h) (by rfl) ?h25 (by assumption) ?r25
    case h25 => intro w hSw; obtain ⟨h0, h1, h2, h3, h4, h5, h6, h7, h8, h9⟩ := hSw; go_simp; rfl
    simp only [Act.put, List.setIfInBounds_toArray, List.set_cons_zero, List.set_cons_succ]
    refine take_on (i := 17) (d := (some 163)) (v := ?v26) rfl rfl (by kernel_rfl) (by kernel_rfl) (by kernel_rfl) (fun c a w h => h) (by rfl) ?h26 (by assumption) ?r26
    case h26 => intro w hSw; obtain ⟨h0, h1, h2, h3, h4, h5, h6, h7, h8, h9⟩ := hSw; go_simp; rfl
    simp only [Act.put, List.setIfInBounds_toArray, List.set_cons_zero, List.set_cons_succ]
    clear hHeld
    refine wpAnyH_done (by kernel_rfl) ?_ _
    clear X14
    clear HR1 HR2 l1 l2 d1 d2 SNX SNY SNA SNB
    go_upto_region 18 with (fail)
    refine wp_region_tail (S := (fun w' => w'.cell? ⟨ga, 0, none⟩ = some (.bool s) ∧ w'.cell? ⟨ga, 1, none⟩ = some (.slice A n c) ∧ w'.cell? ⟨gX8 + 1, 0, none⟩ = some (.bool t9) ∧ w'.cell? ⟨gX8 + 1, 1, none⟩ = some (.slice A9 n9 c9) ∧ w'.cell? ⟨ga + 1, 0, none⟩ = some (.bool s') ∧ w'.cell? ⟨ga + 1, 1, none⟩ = some (.slice A' n' c') ∧ w'.cell? ⟨gX8 + 1 + 1, 0, none⟩ = some (.bool tx) ∧ w'.cell? ⟨gX8 + 1 + 1, 1, none⟩ = some (.slice Ax nx cx) ∧ w'.cell? ⟨gX8, 0, none⟩ = some (.bool t8) ∧ w'.cell? ⟨gX8, 1, none⟩ = some (.slice A8 n8 c8))) 16 (by kernel_rfl) (by kernel_rfl) (by intro c a d v w h; cases d <;> exact h) ⟨cell_dr Xa.out.c0, cell_dr Xa.out.c1, cell_dr X9.out.c0, cell_dr X9.out.c1, cell_dr Xb.out.c0, cell_dr Xb.out.c1, cell_dr X10.out.c0, cell_dr X10.out.c1, cell_dr X8.out.c0, cell_dr X8.out.c1⟩ (fun QT hT hP hHeld => ?_)
    simp only [List.extract_toArray, List.extract_eq_take_drop, List.drop_zero, Nat.sub_zero, List.take_succ_cons, List.take_zero]
    have HT := Lib.hid hT
    clear hT
    replace E := Lib.hid (E.out.next (Below.refl w25.heap.size w25).drew)
    replace Xa := Lib.hid (Xa.out.next (Below.refl w25.heap.size w25).drew)
    replace Xb := Lib.hid (Xb.out.next (Below.refl w25.heap.size w25).drew)
    replace X8 := Lib.hid (X8.out.next (Below.refl w25.heap.size w25).drew)
    replace X9 := Lib.hid (X9.out.next (Below.refl w25.heap.size w25).drew)
    replace X10 := Lib.hid (X10.out.next (Below.refl w25.heap.size w25).drew)
    generalize w25.drew = D26 at E Xa Xb X8 X9 X10 hHeld ⊢
    refine take_on (i := 0) (d := (some 164)) (v := ?v27) rfl rfl (by kernel_rfl) (by kernel_rfl) (by kernel_rfl) (fun c a w h => hP c a _ _ w h) (by rfl) ?h27 (by assumption) ?r27
    case h27 => intro w hSw; obtain ⟨h0, h1, h2, h3, h4, h5, h6, h7, h8, h9⟩ := hSw; go_simp; rfl
    simp only [Act.put, List.setIfInBounds_toArray, List.set_cons_zero, List.set_cons_succ]
    refine take_on (i := 1) (d := (some 165)) (v := ?v28) rfl rfl (by kernel_rfl) (by kernel_rfl) (by kernel_rfl) (fun c a w h => hP c a _ _ w h) (by rfl) ?h28 (by assumption) ?r28
    case h28 => intro w hSw; obtain ⟨h0, h1, h2, h3, h4, h5, h6, h7, h8, h9⟩ := hSw; go_simp; rfl
    simp only [Act.put, List.setIfInBounds_toArray, List.set_cons_zero, List.set_cons_succ]
    refine take_on (i := 3) (d := (some 167)) (v := ?v29) rfl rfl (by kernel_rfl) (by kernel_rfl) (by kernel_rfl) (fun c a w h => hP c a _ _ w h) (by rfl) ?h29 (by assumption) ?r29
    case h29 => intro w hSw; obtain ⟨h0, h1, h2, h3, h4, h5, h6, h7, h8, h9⟩ := hSw; go_simp; rfl
    simp only [Act.put, List.setIfInBounds_toArray, List.set_cons_zero, List.set_cons_succ]
    refine take_on (i := 4) (d := (some 168)) (v := ?v30) rfl rfl (by kernel_rfl) (by kernel_rfl) (by kernel_rfl) (fun c a w h => hP c a _ _ w h) (by rfl) ?h30 (by assumption) ?r30
    case h30 => intro w hSw; obtain ⟨h0, h1, h2, h3, h4, h5, h6, h7, h8, h9⟩ := hSw; go_simp; rfl
    simp only [Act.put, List.setIfInBounds_toArray, List.set_cons_zero, List.set_cons_succ]
    refine take_on (i := 7) (d := (some 171)) (v := ?v31) rfl rfl (by kernel_rfl) (by kernel_rfl) (by kernel_rfl) (fun c a w h => hP c a _ _ w h) (by rfl) ?h31 (by assumption) ?r31
    case h31 => intro w hSw; obtain ⟨h0, h1, h2, h3, h4, h5, h6, h7, h8, h9⟩ := hSw; go_simp; rfl
    simp only [Act.put, List.setIfInBounds_toArray, List.set_cons_zero, List.set_cons_succ]
    refine wpAnyH_ready (rs := [2]) (by kernel_rfl) (by simp) ?_
    refine AllReadyH.cons rfl (fun K hK => ?_) AllReadyH.nil
    go_simp
    refine (refMul_c Xa.out.is X9.out.is (Nat.le_trans (Xa.out.is.len SA.out) (by omega)) (Nat.le_trans (X9.out.is.len SX.out) (by omega))).mono ?_
    rintro e w27 ⟨t50, A50, n50, c50, rfl, i50, hb⟩
    replace E := Lib.hid (E.out.next hb)
    replace Xa := Lib.hid (Xa.out.next hb)
    replace Xb := Lib.hid (Xb.out.next hb)
    replace X8 := Lib.hid (X8.out.next hb)
    replace X9 := Lib.hid (X9.out.next hb)
    replace X10 := Lib.hid (X10.out.next hb)
    have J0 := Lib.hid (i50)
    clear hb hHeld i50
    refine hK.out _ _ ⟨Xa.out.c0, Xa.out.c1, X9.out.c0, X9.out.c1, Xb.out.c0, Xb.out.c1, X10.out.c0, X10.out.c1, X8.out.c0, X8.out.c1⟩ (fun hHeld => ?_)
    clear hK K
    refine wpAnyH_ready (rs := [5]) (by kernel_rfl) (by simp) ?_
    refine AllReadyH.cons rfl (fun K hK => ?_) AllReadyH.nil
    go_simp
    refine (refMul_c Xb.out.is X10.out.is (Nat.le_trans (Xb.out.is.len SB.out) (by omega)) (Nat.le_trans (X10.out.is.len SY.out) (by omega))).mono ?_
    rintro e w28 ⟨t51, A51, n51, c51, rfl, i51, hb⟩
    replace E := Lib.hid (E.out.next hb)
    replace Xa := Lib.hid (Xa.out.next hb)
    replace Xb := Lib.hid (Xb.out.next hb)
    replace X8 := Lib.hid (X8.out.next hb)
    replace X9 := Lib.hid (X9.out.next hb)
    replace X10 := Lib.hid (X10.out.next hb)
    replace J0 := Lib.hid (J0.out.below hb)
    have J1 := Lib.hid (i51)
    clear hb hHeld i51
    refine hK.out _ _ ⟨Xa.out.c0, Xa.out.c1, X9.out.c0, X9.out.c1, Xb.out.c0, Xb.out.c1, X10.out.c0, X10.out.c1, X8.out.c0, X8.out.c1⟩ (fun hHeld => ?_)
    clear hK K
    refine wpAnyH_ready (rs := [6]) (by kernel_rfl) (by simp) ?_
    refine AllReadyH.cons rfl (fun K hK => ?_) AllReadyH.nil
    go_simp
    refine (refAdd_c J0.out J1.out (Nat.le_trans (J0.out.len (SA.out.mul SX.out)) (by omega)) (Nat.le_trans (J1.out.len (SB.out.mul SY.out)) (by omega))).mono ?_
    rintro e w29 ⟨t52, A52, n52, c52, rfl, i52, hb⟩
    replace E := Lib.hid (E.out.next hb)
    replace Xa := Lib.hid (Xa.out.next hb)
    replace Xb := Lib.hid (Xb.out.next hb)
    replace X8 := Lib.hid (X8.out.next hb)
    replace X9 := Lib.hid (X9.out.next hb)
    replace X10 := Lib.hid (X10.out.next hb)
    replace J0 := Lib.hid (J0.out.below hb)
    replace J1 := Lib.hid (J1.out.below hb)
    have J2 := Lib.hid (i52)
    clear hb hHeld i52
    refine hK.out _ _ ⟨Xa.out.c0, Xa.out.c1, X9.out.c0, X9.out.c1, Xb.out.c0, Xb.out.c1, X10.out.c0, X10.out.c1, X8.out.c0, X8.out.c1⟩ (fun hHeld => ?_)
    clear hK K
    refine wpAnyH_ready (rs := [8]) (by kernel_rfl) (by simp) ?_
    refine AllReadyH.cons rfl (fun K hK => ?_) AllReadyH.nil
    go_simp
    refine (same_eq (k := 4096) J2.out X8.out.is (by rw [HBZ.out]; exact SG.out) (Nat.le_refl _) HBZ.out).mono ?_
    rintro e w30 ⟨rfl, hb⟩
    clear J0 J1 J2
    replace E := Lib.hid (E.out.next hb)
    replace Xa := Lib.hid (Xa.out.next hb)
    replace Xb := Lib.hid (Xb.out.next hb)
    replace X8 := Lib.hid (X8.out.next hb)
    replace X9 := Lib.hid (X9.out.next hb)
    replace X10 := Lib.hid (X10.out.next hb)
    clear hb hHeld
    refine hK.out _ _ ⟨Xa.out.c0, Xa.out.c1, X9.out.c0, X9.out.c1, Xb.out.c0, Xb.out.c1, X10.out.c0, X10.out.c1, X8.out.c0, X8.out.c1⟩ (fun hHeld => ?_)
    clear hK K
    refine take_on (i := 9) (d := (some 173)) (v := ?v32) rfl rfl (by kernel_rfl) (by kernel_rfl) (by kernel_rfl) (fun c a w h => hP c a _ _ w h) (by rfl) ?h32 (by assumption) ?r32
    case h32 => intro w hSw; obtain ⟨h0, h1, h2, h3, h4, h5, h6, h7, h8, h9⟩ := hSw; go_simp; rfl
    simp only [Act.put, List.setIfInBounds_toArray, List.set_cons_zero, List.set_cons_succ]
    refine take_on (i := 10) (d := (some 174)) (v := ?v33) rfl rfl (by kernel_rfl) (by kernel_rfl) (by kernel_rfl) (fun c a w h => hP c a _ _ w h) (by rfl) ?h33 (by assumption) ?r33
    case h33 => intro w hSw; obtain ⟨h0, h1, h2, h3, h4, h5, h6, h7, h8, h9⟩ := hSw; go_simp; rfl
    simp only [Act.put, List.setIfInBounds_toArray, List.set_cons_zero, List.set_cons_succ]
    refine wpAnyH_ready (rs := [11]) (by kernel_rfl) (by simp) ?_
    refine AllReadyH.cons rfl (fun K hK => ?_) AllReadyH.nil
    go_simp
    refine (root_law s A n c xs _ E.out.ra HN.out.1.1 HN.out.1.2).mono ?_
    rintro e w31 ⟨rfl, hb⟩
    replace E := Lib.hid (E.out.next hb)
    replace Xa := Lib.hid (Xa.out.next hb)
    replace Xb := Lib.hid (Xb.out.next hb)
    replace X8 := Lib.hid (X8.out.next hb)
    replace X9 := Lib.hid (X9.out.next hb)
    replace X10 := Lib.hid (X10.out.next hb)
    clear hb hHeld
    refine hK.out _ _ ⟨Xa.out.c0, Xa.out.c1, X9.out.c0, X9.out.c1, Xb.out.c0, Xb.out.c1, X10.out.c0, X10.out.c1, X8.out.c0, X8.out.c1⟩ (fun hHeld => ?_)
    clear hK K
    refine take_on (i := 12) (d := (some 176)) (v := ?v34) rfl rfl (by kernel_rfl) (by kernel_rfl) (by kernel_rfl) (fun c a w h => hP c a _ _ w h) (by rfl) ?h34 (by assumption) ?r34
    case h34 => intro w hSw; obtain ⟨h0, h1, h2, h3, h4, h5, h6, h7, h8, h9⟩ := hSw; go_simp; rfl
    simp only [Act.put, List.setIfInBounds_toArray, List.set_cons_zero, List.set_cons_succ]
    refine take_on (i := 13) (d := (some 177)) (v := ?v35) rfl rfl (by kernel_rfl) (by kernel_rfl) (by kernel_rfl) (fun c a w h => hP c a _ _ w h) (by rfl) ?h35 (by assumption) ?r35
    case h35 => intro w hSw; obtain ⟨h0, h1, h2, h3, h4, h5, h6, h7, h8, h9⟩ := hSw; go_simp; rfl
    simp only [Act.put, List.setIfInBounds_toArray, List.set_cons_zero, List.set_cons_succ]
    refine wpAnyH_ready (rs := [14]) (by kernel_rfl) (by simp) ?_
    refine AllReadyH.cons rfl (fun K hK => ?_) AllReadyH.nil
    go_simp
    refine (awake_c _).mono ?_
    rintro e w32 ⟨rfl, hb⟩
    replace E := Lib.hid (E.out.next hb)
    replace Xa := Lib.hid (Xa.out.next hb)
    replace Xb := Lib.hid (Xb.out.next hb)
    replace X8 := Lib.hid (X8.out.next hb)
    replace X9 := Lib.hid (X9.out.next hb)
    replace X10 := Lib.hid (X10.out.next hb)
    clear hb hHeld
    refine hK.out _ _ ⟨Xa.out.c0, Xa.out.c1, X9.out.c0, X9.out.c1, Xb.out.c0, Xb.out.c1, X10.out.c0, X10.out.c1, X8.out.c0, X8.out.c1⟩ (fun hHeld => ?_)
    clear hK K
    refine take_on (i := 15) (d := (some 179)) (v := ?v36) rfl rfl (by kernel_rfl) (by kernel_rfl) (by kernel_rfl) (fun c a w h => hP c a _ _ w h) (by rfl) ?h36 (by assumption) ?r36
    case h36 => intro w hSw; obtain ⟨h0, h1, h2, h3, h4, h5, h6, h7, h8, h9⟩ := hSw; go_simp; rfl
    simp only [Act.put, List.setIfInBounds_toArray, List.set_cons_zero, List.set_cons_succ]
    clear hHeld
    refine wpAnyH_done (by kernel_rfl) ?_ _
    refine HT.out _ _ ?_
    clear HT hP QT
    refine wpList_step fun K hK => ?_
    go_simp
    refine hK _ _ ?_
    clear hK K
    refine wpList_nil ?_
    go_wp2
    go_ret
    exact ⟨rfl, E.out.below⟩
set_option maxHeartbeats 16000000 in
theorem LD_main (s s' : Bool) (A A' : Option Addr) (n c n' c' : Nat) (xs ys : List Nat) (w : World) (h : Rd w A n xs) (h' : Rd w A' n' ys) (hn : n ≤ c) (hn' : n' ≤ c') (hc : c ≤ 9223372036854775807) (hc' : c' ≤ 9223372036854775807) (hs : n ≤ 700 ∧ n' ≤ 700) (vx : validB s xs = true) (vy : validB s' ys = true) (h0 : 0 < n') :
    Calls Try.prog 13 #[.agg #[.bool s, .slice A n c], .agg #[.bool s', .slice A' n' c']] w (IsB true w) := by
  have E := Lib.hid (LdV.start s s' A A' n c n' c' xs ys w h h')
  have HN := Lib.hid (And.intro (And.intro hn hc) (And.intro hn' hc'))
  have HV := Lib.hid (And.intro vx vy)
  have HVB := Lib.hid (show (validB s xs && validB s' ys) = true by rw [vx, vy]; rfl)
  have HL7 := Lib.hid hs
  have H0 := Lib.hid h0
  have t1 : decide ((4200 : Int) < (n : Int)) = false := decide_eq_false (by omega)
  have t2 : ¬ (4200 : Int) < (n : Int) := by omega
  have t3 : decide ((4200 : Int) < (n' : Int)) = false := decide_eq_false (by omega)
  have t4 : ¬ (4200 : Int) < (n' : Int) := by omega
  have HIa := Lib.hid (fun (W : World) (r : Rd W A n xs) => Is.of_valid (s := s) (c := c) r vx hn hc)
  have HIb := Lib.hid (fun (W : World) (r : Rd W A' n' ys) => Is.of_valid (s := s') (c := c') r vy hn' hc')
  have SA := Lib.hid (sz_valid (s := s) h hs.1)
  have SB := Lib.hid (sz_valid (s := s') h' hs.2)
  obtain ⟨za, hza⟩ : ∃ z, z = sgn s (val xs) := ⟨_, rfl⟩
  obtain ⟨zb, hzb⟩ : ∃ z, z = sgn s' (val ys) := ⟨_, rfl⟩
  have HZA := Lib.hid (And.intro hza hzb)
  rw [← hza] at HIa SA
  rw [← hzb] at HIb SB
  have HB0 := Lib.hid (show zb ≠ 0 by
    intro e
    have h1 := (HIb.out w h').2.1
    rw [e, show (0 : Int).natAbs = 0 from rfl, words_zero] at h1
    simp at h1
    omega)
  clear vx vy h0 hza hzb hs
  clear h h' hn hn' hc hc'
  go_enter Try.func13, Try.ntmps13
  go_upto_region 1 with (fail)
  generalize (w.alloc (.cells #[.bool s, .slice A n c] 24)).alloc (.cells #[.bool s', .slice A' n' c'] 24) = W0 at E ⊢
  obtain ⟨ga, hga⟩ : ∃ g, g = w.heap.size := ⟨_, rfl⟩
  rw [← hga] at E ⊢
  clear hga
  go_cut [42] (fun v W => v = .bool false ∧ LdV w W ga s s' A A' n c n' c' xs ys)
  case first =>
    have a0 := E.out.ba.c0
    have a1 := E.out.ba.c1
    have b0 := E.out.bb.c0
    have b1 := E.out.bb.c1
    go_wp2_with fail
    refine (refValid_c s A n c xs _ E.out.ra).mono ?_
    rw [HV.out.1]
    rintro e w1 ⟨rfl, hb⟩
    replace E := Lib.hid (E.out.next hb)
    clear hb a0 a1 b0 b1
    have a0 := E.out.ba.c0
    have a1 := E.out.ba.c1
    have b0 := E.out.bb.c0
    have b1 := E.out.bb.c1
    go_wp2_with fail
    refine (refValid_c s' A' n' c' ys _ E.out.rb).mono ?_
    rw [HV.out.2]
    rintro e w2 ⟨rfl, hb⟩
    replace E := Lib.hid (E.out.next hb)
    clear hb a0 a1 b0 b1
    have a0 := E.out.ba.c0
    have a1 := E.out.ba.c1
    have b0 := E.out.bb.c0
    have b1 := E.out.bb.c1
    rcases Nat.lt_or_ge n n' with h1 | h1
    · have m1 : (n : Int) < (n' : Int) := by omega
      have m2 : (n' : Int) ≤ 700 := by have := HL7.out.2; omega
      have m3 : decide ((700 : Int) < (n' : Int)) = false := decide_eq_false (by omega)
      clear h1
      go_wp2
      go_meet
      exact ⟨rfl, E.out⟩
    · have m1 : (n' : Int) ≤ (n : Int) := by omega
      have m2 : (n : Int) ≤ 700 := by have := HL7.out.1; omega
      have m3 : decide ((700 : Int) < (n : Int)) = false := decide_eq_false (by omega)
      clear h1
      go_wp2
      go_meet
      exact ⟨rfl, E.out⟩
  case rest =>
    obtain ⟨rfl, hE⟩ := hcut
    clear E
    have E := Lib.hid hE
    clear hE
    have Xa := Lib.hid (show Nvr wc ga za s A n c from ⟨E.out.ba.lt, E.out.ba.c0, E.out.ba.c1, E.out.ba.f0, E.out.ba.f1, HIa.out _ E.out.ra⟩)
    have Xb := Lib.hid (show Nvr wc (ga + 1) zb s' A' n' c' from ⟨E.out.bb.lt, E.out.bb.c0, E.out.bb.c1, E.out.bb.f0, E.out.bb.f1, HIb.out _ E.out.rb⟩)
    have a0 := Xa.out.c0
    have a1 := Xa.out.c1
    have b0 := Xb.out.c0
    have b1 := Xb.out.c1
    go_wp2_with fail
    refine (Div_is (k := 700) Xa.out.is Xb.out.is SA.out SB.out (by omega) HB0.out).mono ?_
    rintro e w3 ⟨t5, A5, n5, c5, t6, A6, n6, c6, rfl, i5, i6, hb⟩
    replace E := Lib.hid (E.out.next hb)
    replace Xa := Lib.hid (Xa.out.next hb)
    replace Xb := Lib.hid (Xb.out.next hb)
    clear hb a0 a1 b0 b1
    have q9 := below_alloc w3 (.cells #[.bool t5, .slice A5 n5 c5] 24)
    replace i6 := i6.below q9
    clear q9
    have q0 := below_alloc (w3) (.cells #[.bool t5, .slice A5 n5 c5] 24)
    have q1 := below_alloc ((w3).alloc (.cells #[.bool t5, .slice A5 n5 c5] 24)) (.cells #[.bool t6, .slice A6 n6 c6] 24)
    have q01 := q0.trans (q1.mono q0.size)
    have X5 := Lib.hid ((Nvr.new i5).next q1)
    have X6 := Lib.hid (Nvr.new i6)
    simp only [World.size_alloc] at X6
    replace E := Lib.hid (E.out.next q01)
    replace Xa := Lib.hid (Xa.out.next q01)
    replace Xb := Lib.hid (Xb.out.next q01)
    clear q0 q1 q01
    go_upto_region 4 with (fail)
    generalize (w3.alloc (.cells #[.bool t5, .slice A5 n5 c5] 24)).alloc (.cells #[.bool t6, .slice A6 n6 c6] 24) = W3 at E Xa Xb X5 X6 ⊢
    generalize w3.heap.size = gX5 at X5 X6 ⊢
    clear i5 i6
    have a0 := Xa.out.c0
    have a1 := Xa.out.c1
    have b0 := Xb.out.c0
    have b1 := Xb.out.c1
    go_wp2_with fail
    refine (Gcd_ok s s' A A' n c n' c' xs ys _ E.out.ra E.out.rb HV.out.1 HV.out.2 (by have := HL7.out.1; omega) (by have := HL7.out.2; omega) HN.out.1.1 HN.out.1.2).mono ?_
    rw [← HZA.out.1, ← HZA.out.2]
    rintro e w4 ⟨t8, A8, n8, c8, t9, A9, n9, c9, tx, Ax, nx, cx, zx, zy, rfl, i8, i9, ix, hlx, hly, hbz, hb⟩
    replace E := Lib.hid (E.out.next hb)
    replace Xa := Lib.hid (Xa.out.next hb)
    replace Xb := Lib.hid (Xb.out.next hb)
    replace X5 := Lib.hid (X5.out.next hb)
    replace X6 := Lib.hid (X6.out.next hb)
    have HBZ := Lib.hid hbz
    have SX := Lib.hid (sz_succ hlx SB.out)
    have SY := Lib.hid (sz_succ hly SA.out)
    have HLX := Lib.hid (And.intro hlx hly)
    clear hb hbz hlx hly a0 a1 b0 b1
    have q8 := below_alloc w4 (.cells #[.bool t8, .slice A8 n8 c8] 24)
    have q9 := below_alloc (w4.alloc (.cells #[.bool t8, .slice A8 n8 c8] 24)) (.cells #[.bool t9, .slice A9 n9 c9] 24)
    replace i9 := i9.below q8
    replace ix := (ix.below q8).below q9
    clear q8 q9
    have q0 := below_alloc (w4) (.cells #[.bool t8, .slice A8 n8 c8] 24)
    have q1 := below_alloc ((w4).alloc (.cells #[.bool t8, .slice A8 n8 c8] 24)) (.cells #[.bool t9, .slice A9 n9 c9] 24)
    have q2 := below_alloc (((w4).alloc (.cells #[.bool t8, .slice A8 n8 c8] 24)).alloc (.cells #[.bool t9, .slice A9 n9 c9] 24)) (.cells #[.bool tx, .slice Ax nx cx] 24)
    have q01 := q0.trans (q1.mono q0.size)
    have q02 := q01.trans (q2.mono q01.size)
    have X8 := Lib.hid (((Nvr.new i8).next q1).next q2)
    have X9 := Lib.hid ((Nvr.new i9).next q2)
    have X10 := Lib.hid (Nvr.new ix)
    simp only [World.size_alloc] at X9 X10
    replace E := Lib.hid (E.out.next q02)
    replace Xa := Lib.hid (Xa.out.next q02)
    replace Xb := Lib.hid (Xb.out.next q02)
    replace X5 := Lib.hid (X5.out.next q02)
    replace X6 := Lib.hid (X6.out.next q02)
    clear q0 q1 q2 q01 q02
    go_upto_region 5 with (fail)
    generalize ((w4.alloc (.cells #[.bool t8, .slice A8 n8 c8] 24)).alloc (.cells #[.bool t9, .slice A9 n9 c9] 24)).alloc (.cells #[.bool tx, .slice Ax nx cx] 24) = W4 at E Xa Xb X5 X6 X8 X9 X10 ⊢
    generalize w4.heap.size = gX8 at X8 X9 X10 ⊢
    clear i8 i9 ix
    obtain ⟨zg, hzg⟩ : ∃ z, z = ((Int.gcd za zb : Nat) : Int) := ⟨_, rfl⟩
    rw [← hzg] at X8 HBZ
    have HZG := Lib.hid hzg.symm
    have SG := Lib.hid (show Sz zg 4096 by rw [hzg]; exact sz_gcd SA.out SB.out)
    clear hzg
    have xXa0 := Xa.out.c0
    have xXa1 := Xa.out.c1
    go_wp2_with fail
    refine (refValid_c s A n c xs _ E.out.ra).mono ?_
    rw [HV.out.1]
    rintro e w33 ⟨rfl, hb⟩
    replace E := Lib.hid (E.out.next hb)
    replace Xa := Lib.hid (Xa.out.next hb)
    replace Xb := Lib.hid (Xb.out.next hb)
    replace X5 := Lib.hid (X5.out.next hb)
    replace X6 := Lib.hid (X6.out.next hb)
    replace X8 := Lib.hid (X8.out.next hb)
    replace X9 := Lib.hid (X9.out.next hb)
    replace X10 := Lib.hid (X10.out.next hb)
    clear hb xXa0 xXa1
    have xXb0 := Xb.out.c0
    have xXb1 := Xb.out.c1
    go_wp2_with fail
    refine (refValid_c s' A' n' c' ys _ E.out.rb).mono ?_
    rw [HV.out.2]
    rintro e w34 ⟨rfl, hb⟩
    replace E := Lib.hid (E.out.next hb)
    replace Xa := Lib.hid (Xa.out.next hb)
    replace Xb := Lib.hid (Xb.out.next hb)
    replace X5 := Lib.hid (X5.out.next hb)
    replace X6 := Lib.hid (X6.out.next hb)
    replace X8 := Lib.hid (X8.out.next hb)
    replace X9 := Lib.hid (X9.out.next hb)
    replace X10 := Lib.hid (X10.out.next hb)
    clear hb xXb0 xXb1
    have xXb0 := Xb.out.c0
    have xXb1 := Xb.out.c1
    go_wp2_with fail
    refine (zero_c s' A' n' c' _).mono ?_
    rw [decide_eq_false (show ¬ n' = 0 by have := H0.out; omega)]
    rintro e w35 ⟨rfl, hb⟩
    replace E := Lib.hid (E.out.next hb)
    replace Xa := Lib.hid (Xa.out.next hb)
    replace Xb := Lib.hid (Xb.out.next hb)
    replace X5 := Lib.hid (X5.out.next hb)
    replace X6 := Lib.hid (X6.out.next hb)
    replace X8 := Lib.hid (X8.out.next hb)
    replace X9 := Lib.hid (X9.out.next hb)
    replace X10 := Lib.hid (X10.out.next hb)
    clear hb xXb0 xXb1
    have xXa0 := Xa.out.c0
    have xXa1 := Xa.out.c1
    have xXb0 := Xb.out.c0
    have xXb1 := Xb.out.c1
    go_wp2_with fail
    refine (refDiv_c Xa.out.is Xb.out.is HB0.out (Nat.le_trans (Xa.out.is.len SA.out) (by omega)) (Nat.le_trans (Xb.out.is.len SB.out) (by omega))).mono ?_
    rintro e w36 ⟨t12, A12, n12, c12, t13, A13, n13, c13, rfl, hb, i12, i13⟩
    replace E := Lib.hid (E.out.next hb)
    replace Xa := Lib.hid (Xa.out.next hb)
    replace Xb := Lib.hid (Xb.out.next hb)
    replace X5 := Lib.hid (X5.out.next hb)
    replace X6 := Lib.hid (X6.out.next hb)
    replace X8 := Lib.hid (X8.out.next hb)
    replace X9 := Lib.hid (X9.out.next hb)
    replace X10 := Lib.hid (X10.out.next hb)
    clear hb xXa0 xXa1 xXb0 xXb1
    have q9 := below_alloc w36 (.cells #[.bool t12, .slice A12 n12 c12] 24)
    replace i13 := i13.below q9
    clear q9
    have q0 := below_alloc (w36) (.cells #[.bool t12, .slice A12 n12 c12] 24)
    have q1 := below_alloc ((w36).alloc (.cells #[.bool t12, .slice A12 n12 c12] 24)) (.cells #[.bool t13, .slice A13 n13 c13] 24)
    have q01 := q0.trans (q1.mono q0.size)
    have X12 := Lib.hid ((Nvr.new i12).next q1)
    have X13 := Lib.hid (Nvr.new i13)
    simp only [World.size_alloc] at X13
    replace E := Lib.hid (E.out.next q01)
    replace Xa := Lib.hid (Xa.out.next q01)
    replace Xb := Lib.hid (Xb.out.next q01)
    replace X5 := Lib.hid (X5.out.next q01)
    replace X6 := Lib.hid (X6.out.next q01)
    replace X8 := Lib.hid (X8.out.next q01)
    replace X9 := Lib.hid (X9.out.next q01)
    replace X10 := Lib.hid (X10.out.next q01)
    clear q0 q1 q01
    go_upto_region 11 with (fail)
    generalize (w36.alloc (.cells #[.bool t12, .slice A12 n12 c12] 24)).alloc (.cells #[.bool t13, .slice A13 n13 c13] 24) = W5 at E Xa Xb X5 X6 X8 X9 X10 X12 X13 ⊢
    generalize w36.heap.size = gX12 at X12 X13 ⊢
    clear i12 i13
    have SQ := Lib.hid (show Sz (za / zb) 4096 from (sz_div SA.out).le (by omega))
    have SR := Lib.hid (show Sz (za % zb) 4096 from (sz_mod HB0.out SB.out).le (by omega))
    have xX50 := X5.out.c0
    have xX51 := X5.out.c1
    have xX120 := X12.out.c0
    have xX121 := X12.out.c1
    go_wp2_with fail
    refine (is_c (fit_num X5.out.is SQ.out) X12.out.is).mono ?_
    rintro e w37 ⟨rfl, hb⟩
    replace E := Lib.hid (E.out.next hb)
    replace Xa := Lib.hid (Xa.out.next hb)
    replace Xb := Lib.hid (Xb.out.next hb)
    replace X5 := Lib.hid (X5.out.next hb)
    replace X6 := Lib.hid (X6.out.next hb)
    replace X8 := Lib.hid (X8.out.next hb)
    replace X9 := Lib.hid (X9.out.next hb)
    replace X10 := Lib.hid (X10.out.next hb)
    replace X12 := Lib.hid (X12.out.next hb)
    replace X13 := Lib.hid (X13.out.next hb)
    clear hb xX50 xX51 xX120 xX121
    have xX60 := X6.out.c0
    have xX61 := X6.out.c1
    have xX130 := X13.out.c0
    have xX131 := X13.out.c1
    go_wp2_with fail
    refine (is_c (fit_num X6.out.is SR.out) X13.out.is).mono ?_
    rintro e w38 ⟨rfl, hb⟩
    replace E := Lib.hid (E.out.next hb)
    replace Xa := Lib.hid (Xa.out.next hb)
    replace Xb := Lib.hid (Xb.out.next hb)
    replace X5 := Lib.hid (X5.out.next hb)
    replace X6 := Lib.hid (X6.out.next hb)
    replace X8 := Lib.hid (X8.out.next hb)
    replace X9 := Lib.hid (X9.out.next hb)
    replace X10 := Lib.hid (X10.out.next hb)
    replace X12 := Lib.hid (X12.out.next hb)
    replace X13 := Lib.hid (X13.out.next hb)
    clear hb xX60 xX61 xX130 xX131
    clear X12 X13
    clear X5 X6
    go_upto_region 13 with (fail)
    refine wp_region_held_drew (S := (fun w' => w'.cell? ⟨gX8, 0, none⟩ = some (.bool t8) ∧ w'.cell? ⟨gX8, 1, none⟩ = some (.slice A8 n8 c8) ∧ w'.cell? ⟨ga, 0, none⟩ = some (.bool s) ∧ w'.cell? ⟨ga, 1, none⟩ = some (.slice A n c) ∧ w'.cell? ⟨ga + 1, 0, none⟩ = some (.bool s') ∧ w'.cell? ⟨ga + 1, 1, none⟩ = some (.slice A' n' c') ∧ w'.cell? ⟨gX8 + 1, 0, none⟩ = some (.bool t9) ∧ w'.cell? ⟨gX8 + 1, 1, none⟩ = some (.slice A9 n9 c9) ∧ w'.cell? ⟨gX8 + 1 + 1, 0, none⟩ = some (.bool tx) ∧ w'.cell? ⟨gX8 + 1 + 1, 1, none⟩ = some (.slice Ax nx cx))) (by kernel_rfl) ⟨cell_dr X8.out.c0, cell_dr X8.out.c1, cell_dr Xa.out.c0, cell_dr Xa.out.c1, cell_dr Xb.out.c0, cell_dr Xb.out.c1, cell_dr X9.out.c0, cell_dr X9.out.c1, cell_dr X10.out.c0, cell_dr X10.out.c1⟩ (fun hHeld => ?_)
    replace E := Lib.hid (E.out.next (Below.refl w38.heap.size w38).drew)
    replace Xa := Lib.hid (Xa.out.next (Below.refl w38.heap.size w38).drew)
    replace Xb := Lib.hid (Xb.out.next (Below.refl w38.heap.size w38).drew)
    replace X8 := Lib.hid (X8.out.next (Below.refl w38.heap.size w38).drew)
    replace X9 := Lib.hid (X9.out.next (Below.refl w38.heap.size w38).drew)
    replace X10 := Lib.hid (X10.out.next (Below.refl w38.heap.size w38).drew)
    generalize w38.drew = D39 at E Xa Xb X8 X9 X10 hHeld ⊢
    refine take_on (i := 0) (d := (some 125)) (v := ?v37) rfl rfl (by kernel_rfl) (by kernel_rfl) (by kernel_rfl) (fun c a w h => h) (by rfl) ?h37 (by assumption) ?r37
    case h37 => intro w hSw; obtain ⟨h0, h1, h2, h3, h4, h5, h6, h7, h8, h9⟩ := hSw; go_simp; rfl
    simp only [Act.put, List.setIfInBounds_toArray, List.set_cons_zero, List.set_cons_succ]
    refine take_on (i := 1) (d := (some 126)) (v := ?v38) rfl rfl (by kernel_rfl) (by kernel_rfl) (by kernel_rfl) (fun c a w h => h) (by rfl) ?h38 (by assumption) ?r38
    case h38 => intro w hSw; obtain ⟨h0, h1, h2, h3, h4, h5, h6, h7, h8, h9⟩ := hSw; go_simp; rfl
    simp only [Act.put, List.setIfInBounds_toArray, List.set_cons_zero, List.set_cons_succ]
    refine take_on (i := 2) (d := (some 127)) (v := ?v39) rfl rfl (by kernel_rfl) (by kernel_rfl) (by kernel_rfl) (fun c a w h => h) (by rfl) ?h39 (by assumption) ?r39
    case h39 => intro w hSw; obtain ⟨h0, h1, h2, h3, h4, h5, h6, h7, h8, h9⟩ := hSw; go_simp; rfl
    simp only [Act.put, List.setIfInBounds_toArray, List.set_cons_zero, List.set_cons_succ]
    refine take_on (i := 3) (d := (some 128)) (v := ?v40) rfl rfl (by kernel_rfl) (by kernel_rfl) (by kernel_rfl) (fun c a w h => h) (by rfl) ?h40 (by assumption) ?r40
    case h40 => intro w hSw; obtain ⟨h0, h1, h2, h3, h4, h5, h6, h7, h8, h9⟩ := hSw; go_simp; rfl
    simp only [Act.put, List.setIfInBounds_toArray, List.set_cons_zero, List.set_cons_succ]
    refine take_on (i := 4) (d := (some 129)) (v := ?v41) rfl rfl (by kernel_rfl) (by kernel_rfl) (by kernel_rfl) (fun c a w h => h) (by rfl) ?h41 (by assumption) ?r41
    case h41 => intro w hSw; obtain ⟨h0, h1, h2, h3, h4, h5, h6, h7, h8, h9⟩ := hSw; go_simp; rfl
    simp only [Act.put, List.setIfInBounds_toArray, List.set_cons_zero, List.set_cons_succ]
    refine take_on (i := 5) (d := (some 130)) (v := ?v42) rfl rfl (by kernel_rfl) (by kernel_rfl) (by kernel_rfl) (fun c a w h => h) (by rfl) ?h42 (by assumption) ?r42
    case h42 => intro w hSw; obtain ⟨h0, h1, h2, h3, h4, h5, h6, h7, h8, h9⟩ := hSw; go_simp; rfl
    simp only [Act.put, List.setIfInBounds_toArray, List.set_cons_zero, List.set_cons_succ]
    refine wpAnyH_ready (rs := [6]) (by kernel_rfl) (by simp) ?_
    refine AllReadyH.cons rfl (fun K hK => ?_) AllReadyH.nil
    go_simp
    refine (refGcd_c Xa.out.is Xb.out.is (SA.out.le (by omega)) (SB.out.le (by omega))).mono ?_
    rw [HZG.out]
    rintro e w40 ⟨t30, A30, n30, c30, rfl, i30, hb⟩
    replace E := Lib.hid (E.out.next hb)
    replace Xa := Lib.hid (Xa.out.next hb)
    replace Xb := Lib.hid (Xb.out.next hb)
    replace X8 := Lib.hid (X8.out.next hb)
    replace X9 := Lib.hid (X9.out.next hb)
    replace X10 := Lib.hid (X10.out.next hb)
    have J0 := Lib.hid (i30)
    clear hb hHeld i30
    refine hK.out _ _ ⟨X8.out.c0, X8.out.c1, Xa.out.c0, Xa.out.c1, Xb.out.c0, Xb.out.c1, X9.out.c0, X9.out.c1, X10.out.c0, X10.out.c1⟩ (fun hHeld => ?_)
    clear hK K
    refine wpAnyH_ready (rs := [7]) (by kernel_rfl) (by simp) ?_
    refine AllReadyH.cons rfl (fun K hK => ?_) AllReadyH.nil
    go_simp
    refine (same_eq (k := 4096) X8.out.is J0.out SG.out (Nat.le_refl _) rfl).mono ?_
    rintro e w41 ⟨rfl, hb⟩
    clear J0
    replace E := Lib.hid (E.out.next hb)
    replace Xa := Lib.hid (Xa.out.next hb)
    replace Xb := Lib.hid (Xb.out.next hb)
    replace X8 := Lib.hid (X8.out.next hb)
    replace X9 := Lib.hid (X9.out.next hb)
    replace X10 := Lib.hid (X10.out.next hb)
    clear hb hHeld
    refine hK.out _ _ ⟨X8.out.c0, X8.out.c1, Xa.out.c0, Xa.out.c1, Xb.out.c0, Xb.out.c1, X9.out.c0, X9.out.c1, X10.out.c0, X10.out.c1⟩ (fun hHeld => ?_)
    clear hK K
    refine take_on (i := 8) (d := (some 133)) (v := ?v43) rfl rfl (by kernel_rfl) (by kernel_rfl) (by kernel_rfl) (fun c a w h => h) (by rfl) ?h43 (by assumption) ?r43
    case h43 => intro w hSw; obtain ⟨h0, h1, h2, h3, h4, h5, h6, h7, h8, h9⟩ := hSw; go_simp; rfl
    simp only [Act.put, List.setIfInBounds_toArray, List.set_cons_zero, List.set_cons_succ]
    refine take_on (i := 9) (d := (some 134)) (v := ?v44) rfl rfl (by kernel_rfl) (by kernel_rfl) (by kernel_rfl) (fun c a w h => h) (by rfl) ?h44 (by assumption) ?r44
    case h44 => intro w hSw; obtain ⟨h0, h1, h2, h3, h4, h5, h6, h7, h8, h9⟩ := hSw; go_simp; rfl
    simp only [Act.put, List.setIfInBounds_toArray, List.set_cons_zero, List.set_cons_succ]
    refine take_on (i := 10) (d := (some 135)) (v := ?v45) rfl rfl (by kernel_rfl) (by kernel_rfl) (by kernel_rfl) (fun c a w h => h) (by rfl) ?h45 (by assumption) ?r45
    case h45 => intro w hSw; obtain ⟨h0, h1, h2, h3, h4, h5, h6, h7, h8, h9⟩ := hSw; go_simp; rfl
    simp only [Act.put, List.setIfInBounds_toArray, List.set_cons_zero, List.set_cons_succ]
    refine take_on (i := 11) (d := (some 136)) (v := ?v46) rfl rfl (by kernel_rfl) (by kernel_rfl) (by kernel_rfl) (fun c a w h => h) (by rfl) ?h46 (by assumption) ?r46
    case h46 => intro w hSw; obtain ⟨h0, h1, h2, h3, h4, h5, h6, h7, h8, h9⟩ := hSw; go_simp; rfl
    simp only [Act.put, List.setIfInBounds_toArray, List.set_cons_zero, List.set_cons_succ]
    refine wpAnyH_ready (rs := [12]) (by kernel_rfl) (by simp) ?_
    refine AllReadyH.cons rfl (fun K hK => ?_) AllReadyH.nil
    go_simp
    refine (valid_is X9.out.is (SX.out.le (by omega))).mono ?_
    rintro e w42 ⟨rfl, hb⟩
    replace E := Lib.hid (E.out.next hb)
    replace Xa := Lib.hid (Xa.out.next hb)
    replace Xb := Lib.hid (Xb.out.next hb)
    replace X8 := Lib.hid (X8.out.next hb)
    replace X9 := Lib.hid (X9.out.next hb)
    replace X10 := Lib.hid (X10.out.next hb)
    clear hb hHeld
    refine hK.out _ _ ⟨X8.out.c0, X8.out.c1, Xa.out.c0, Xa.out.c1, Xb.out.c0, Xb.out.c1, X9.out.c0, X9.out.c1, X10.out.c0, X10.out.c1⟩ (fun hHeld => ?_)
    clear hK K
    refine take_on (i := 13) (d := (some 138)) (v := ?v47) rfl rfl (by kernel_rfl) (by kernel_rfl) (by kernel_rfl) (fun c a w h => h) (by rfl) ?h47 (by assumption) ?r47
    case h47 => intro w hSw; obtain ⟨h0, h1, h2, h3, h4, h5, h6, h7, h8, h9⟩ := hSw; go_simp; rfl
    simp only [Act.put, List.setIfInBounds_toArray, List.set_cons_zero, List.set_cons_succ]
    refine take_on (i := 14) (d := (some 139)) (v := ?v48) rfl rfl (by kernel_rfl) (by kernel_rfl) (by kernel_rfl) (fun c a w h => h) (by rfl) ?h48 (by assumption) ?r48
    case h48 => intro w hSw; obtain ⟨h0, h1, h2, h3, h4, h5, h6, h7, h8, h9⟩ := hSw; go_simp; rfl
    simp only [Act.put, List.setIfInBounds_toArray, List.set_cons_zero, List.set_cons_succ]
    refine take_on (i := 15) (d := (some 140)) (v := ?v49) rfl rfl (by kernel_rfl) (by kernel_rfl) (by kernel_rfl) (fun c a w h => h) (by rfl) ?h49 (by assumption) ?r49
    case h49 => intro w hSw; obtain ⟨h0, h1, h2, h3, h4, h5, h6, h7, h8, h9⟩ := hSw; go_simp; rfl
    simp only [Act.put, List.setIfInBounds_toArray, List.set_cons_zero, List.set_cons_succ]
    refine take_on (i := 16) (d := (some 141)) (v := ?v50) rfl rfl (by kernel_rfl) (by kernel_rfl) (by kernel_rfl) (fun c a w h => h) (by rfl) ?h50 (by assumption) ?r50
    case h50 => intro w hSw; obtain ⟨h0, h1, h2, h3, h4, h5, h6, h7, h8, h9⟩ := hSw; go_simp; rfl
    simp only [Act.put, List.setIfInBounds_toArray, List.set_cons_zero, List.set_cons_succ]
    refine wpAnyH_ready (rs := [17]) (by kernel_rfl) (by simp) ?_
    refine AllReadyH.cons rfl (fun K hK => ?_) AllReadyH.nil
    go_simp
    refine (valid_is X10.out.is (SY.out.le (by omega))).mono ?_
    rintro e w43 ⟨rfl, hb⟩
    replace E := Lib.hid (E.out.next hb)
    replace Xa := Lib.hid (Xa.out.next hb)
    replace Xb := Lib.hid (Xb.out.next hb)
    replace X8 := Lib.hid (X8.out.next hb)
    replace X9 := Lib.hid (X9.out.next hb)
    replace X10 := Lib.hid (X10.out.next hb)
    clear hb hHeld
    refine hK.out _ _ ⟨X8.out.c0, X8.out.c1, Xa.out.c0, Xa.out.c1, Xb.out.c0, Xb.out.c1, X9.out.c0, X9.out.c1, X10.out.c0, X10.out.c1⟩ (fun hHeld => ?_)
    clear hK K
    refine take_on (i := 18) (d := (some 143)) (v := ?v51) rfl rfl (by kernel_rfl) (by kernel_rfl) (by kernel_rfl) (fun c a w h => h) (by rfl) ?h51 (by assumption) ?r51
    case h51 => intro w hSw; obtain ⟨h0, h1, h2, h3, h4, h5, h6, h7, h8, h9⟩ := hSw; go_simp; rfl
    simp only [Act.put, List.setIfInBounds_toArray, List.set_cons_zero, List.set_cons_succ]
    refine take_on (i := 19) (d := (some 144)) (v := ?v52) rfl rfl (by kernel_rfl) (by kernel_rfl) (by kernel_rfl) (fun c a w h => h) (by rfl) ?h52 (by assumption) ?r52
    case h52 => intro w hSw; obtain ⟨h0, h1, h2, h3, h4, h5, h6, h7, h8, h9⟩ := hSw; go_simp; rfl
    simp only [Act.put, List.setIfInBounds_toArray, List.set_cons_zero, List.set_cons_succ]
    clear hHeld
    refine wpAnyH_done (by kernel_rfl) ?_ _
    go_wp2_with fail
    refine (refOfV 1 _ (by omega) (by omega)).mono ?_
    rintro e w44 ⟨t31, A31, n31, c31, rfl, i31, hb⟩
    replace E := Lib.hid (E.out.next hb)
    replace Xa := Lib.hid (Xa.out.next hb)
    replace Xb := Lib.hid (Xb.out.next hb)
    replace X8 := Lib.hid (X8.out.next hb)
    replace X9 := Lib.hid (X9.out.next hb)
    replace X10 := Lib.hid (X10.out.next hb)
    clear hb
    have q0 := below_alloc (w44) (.cells #[.bool t31, .slice A31 n31 c31] 24)
    have X14 := Lib.hid (Nvr.new i31.is)
    replace E := Lib.hid (E.out.next q0)
    replace Xa := Lib.hid (Xa.out.next q0)
    replace Xb := Lib.hid (Xb.out.next q0)
    replace X8 := Lib.hid (X8.out.next q0)
    replace X9 := Lib.hid (X9.out.next q0)
    replace X10 := Lib.hid (X10.out.next q0)
    clear q0 
    go_upto_region 16 with (fail)
    generalize w44.alloc (.cells #[.bool t31, .slice A31 n31 c31] 24) = W6 at E Xa Xb X8 X9 X10 X14 ⊢
    generalize w44.heap.size = gX14 at X14 ⊢
    clear i31
    obtain ⟨r1, hr1⟩ : ∃ r, r = ord ((zx.natAbs : Nat) : Int) (((zb.natAbs : Nat) : Int) + 1) := ⟨_, rfl⟩
    obtain ⟨r2, hr2⟩ : ∃ r, r = ord ((zy.natAbs : Nat) : Int) (((za.natAbs : Nat) : Int) + 1) := ⟨_, rfl⟩
    have l1 : r1 ≤ 0 := by rw [hr1]; exact ord_le0 (by have := HLX.out.1; omega)
    have l2 : r2 ≤ 0 := by rw [hr2]; exact ord_le0 (by have := HLX.out.2; omega)
    have d1 : decide (0 < r1) = false := decide_eq_false (by omega)
    have d2 : decide (0 < r2) = false := decide_eq_false (by omega)
    have HR1 := Lib.hid hr1.symm
    have HR2 := Lib.hid hr2.symm
    have SNX := Lib.hid (sz_natAbs SX.out)
    have SNY := Lib.hid (sz_natAbs SY.out)
    have SNA := Lib.hid (sz_natAbs SA.out)
    have SNB := Lib.hid (sz_natAbs SB.out)
    clear hr1 hr2
    refine wp_region_held_drew (S := (fun w' => w'.cell? ⟨gX8 + 1, 0, none⟩ = some (.bool t9) ∧ w'.cell? ⟨gX8 + 1, 1, none⟩ = some (.slice A9 n9 c9) ∧ w'.cell? ⟨ga + 1, 0, none⟩ = some (.bool s') ∧ w'.cell? ⟨ga + 1, 1, none⟩ = some (.slice A' n' c') ∧ w'.cell? ⟨gX14, 0, none⟩ = some (.bool t31) ∧ w'.cell? ⟨gX14, 1, none⟩ = some (.slice A31 n31 c31) ∧ w'.cell? ⟨gX8 + 1 + 1, 0, none⟩ = some (.bool tx) ∧ w'.cell? ⟨gX8 + 1 + 1, 1, none⟩ = some (.slice Ax nx cx) ∧ w'.cell? ⟨ga, 0, none⟩ = some (.bool s) ∧ w'.cell? ⟨ga, 1, none⟩ = some (.slice A n c))) (by kernel_rfl) ⟨cell_dr X9.out.c0, cell_dr X9.out.c1, cell_dr Xb.out.c0, cell_dr Xb.out.c1, cell_dr X14.out.c0, cell_dr X14.out.c1, cell_dr X10.out.c0, cell_dr X10.out.c1, cell_dr Xa.out.c0, cell_dr Xa.out.c1⟩ (fun hHeld => ?_)
    replace E := Lib.hid (E.out.next (Below.refl W6.heap.size W6).drew)
    replace Xa := Lib.hid (Xa.out.next (Below.refl W6.heap.size W6).drew)
    replace Xb := Lib.hid (Xb.out.next (Below.refl W6.heap.size W6).drew)
    replace X8 := Lib.hid (X8.out.next (Below.refl W6.heap.size W6).drew)
    replace X9 := Lib.hid (X9.out.next (Below.refl W6.heap.size W6).drew)
    replace X10 := Lib.hid (X10.out.next (Below.refl W6.heap.size W6).drew)
    replace X14 := Lib.hid (X14.out.next (Below.refl W6.heap.size W6).drew)
    generalize W6.drew = D45 at E Xa Xb X8 X9 X10 X14 hHeld ⊢
    refine take_on (i := 0) (d := (some 146)) (v := ?v53) rfl rfl (by kernel_rfl) (by kernel_rfl) (by kernel_rfl) (fun c a w h => h) (by rfl) ?h53 (by assumption) ?r53
    case h53 => intro w hSw; obtain ⟨h0, h1, h2, h3, h4, h5, h6, h7, h8, h9⟩ := hSw; go_simp; rfl
    simp only [Act.put, List.setIfInBounds_toArray, List.set_cons_zero, List.set_cons_succ]
    refine take_on (i := 2) (d := (some 148)) (v := ?v54) rfl rfl (by kernel_rfl) (by kernel_rfl) (by kernel_rfl) (fun c a w h => h) (by rfl) ?h54 (by assumption) ?r54
    case h54 => intro w hSw; obtain ⟨h0, h1, h2, h3, h4, h5, h6, h7, h8, h9⟩ := hSw; go_simp; rfl
    simp only [Act.put, List.setIfInBounds_toArray, List.set_cons_zero, List.set_cons_succ]
    refine take_on (i := 4) (d := (some 150)) (v := ?v55) rfl rfl (by kernel_rfl) (by kernel_rfl) (by kernel_rfl) (fun c a w h => h) (by rfl) ?h55 (by assumption) ?r55
    case h55 => intro w hSw; obtain ⟨h0, h1, h2, h3, h4, h5, h6, h7, h8, h9⟩ := hSw; go_simp; rfl
    simp only [Act.put, List.setIfInBounds_toArray, List.set_cons_zero, List.set_cons_succ]
    refine wpAnyH_ready (rs := [1]) (by kernel_rfl) (by simp) ?_
    refine AllReadyH.cons rfl (fun K hK => ?_) AllReadyH.nil
    go_simp
    refine (refAbs2_c X9.out.is (Nat.le_trans (X9.out.is.len SX.out) (by omega))).mono ?_
    rintro e w46 ⟨t40, A40, n40, c40, rfl, i40, hb⟩
    replace E := Lib.hid (E.out.next hb)
    replace Xa := Lib.hid (Xa.out.next hb)
    replace Xb := Lib.hid (Xb.out.next hb)
    replace X8 := Lib.hid (X8.out.next hb)
    replace X9 := Lib.hid (X9.out.next hb)
    replace X10 := Lib.hid (X10.out.next hb)
    replace X14 := Lib.hid (X14.out.next hb)
    have J0 := Lib.hid (i40)
    clear hb hHeld i40
    refine hK.out _ _ ⟨X9.out.c0, X9.out.c1, Xb.out.c0, Xb.out.c1, X14.out.c0, X14.out.c1, X10.out.c0, X10.out.c1, Xa.out.c0, Xa.out.c1⟩ (fun hHeld => ?_)
    clear hK K
    refine wpAnyH_ready (rs := [3]) (by kernel_rfl) (by simp) ?_
    refine AllReadyH.cons rfl (fun K hK => ?_) AllReadyH.nil
    go_simp
    refine (refAbs2_c Xb.out.is (Nat.le_trans (Xb.out.is.len SB.out) (by omega))).mono ?_
    rintro e w47 ⟨t41, A41, n41, c41, rfl, i41, hb⟩
    replace E := Lib.hid (E.out.next hb)
    replace Xa := Lib.hid (Xa.out.next hb)
    replace Xb := Lib.hid (Xb.out.next hb)
    replace X8 := Lib.hid (X8.out.next hb)
    replace X9 := Lib.hid (X9.out.next hb)
    replace X10 := Lib.hid (X10.out.next hb)
    replace X14 := Lib.hid (X14.out.next hb)
    replace J0 := Lib.hid (J0.out.below hb)
    have J1 := Lib.hid (i41)
    clear hb hHeld i41
    refine hK.out _ _ ⟨X9.out.c0, X9.out.c1, Xb.out.c0, Xb.out.c1, X14.out.c0, X14.out.c1, X10.out.c0, X10.out.c1, Xa.out.c0, Xa.out.c1⟩ (fun hHeld => ?_)
    clear hK K
    refine wpAnyH_ready (rs := [5]) (by kernel_rfl) (by simp) ?_
    refine AllReadyH.cons rfl (fun K hK => ?_) AllReadyH.nil
    go_simp
    refine (refAdd_c J1.out X14.out.is (Nat.le_trans (J1.out.len SNB.out) (by omega)) (Nat.le_trans (X14.out.is.len (sz_one' (Nat.le_refl 1))) (by omega))).mono ?_
    rintro e w48 ⟨t42, A42, n42, c42, rfl, i42, hb⟩
    replace E := Lib.hid (E.out.next hb)
    replace Xa := Lib.hid (Xa.out.next hb)
    replace Xb := Lib.hid (Xb.out.next hb)
    replace X8 := Lib.hid (X8.out.next hb)
    replace X9 := Lib.hid (X9.out.next hb)
    replace X10 := Lib.hid (X10.out.next hb)
    replace X14 := Lib.hid (X14.out.next hb)
    replace J0 := Lib.hid (J0.out.below hb)
    replace J1 := Lib.hid (J1.out.below hb)
    have J2 := Lib.hid (i42)
    clear hb hHeld i42
    refine hK.out _ _ ⟨X9.out.c0, X9.out.c1, Xb.out.c0, Xb.out.c1, X14.out.c0, X14.out.c1, X10.out.c0, X10.out.c1, Xa.out.c0, Xa.out.c1⟩ (fun hHeld => ?_)
    clear hK K
    refine wpAnyH_ready (rs := [6]) (by kernel_rfl) (by simp) ?_
    refine AllReadyH.cons rfl (fun K hK => ?_) AllReadyH.nil
    go_simp
    refine (refCmp_c J0.out J2.out (Nat.le_trans (J0.out.len SNX.out) (by omega)) (Nat.le_trans (J2.out.len (SNB.out.add (sz_one' (by omega)))) (by omega))).mono ?_
    rw [HR1.out]
    rintro e w49 ⟨rfl, hb⟩
    clear J0 J1 J2
    replace E := Lib.hid (E.out.next hb)
    replace Xa := Lib.hid (Xa.out.next hb)
    replace Xb := Lib.hid (Xb.out.next hb)
    replace X8 := Lib.hid (X8.out.next hb)
    replace X9 := Lib.hid (X9.out.next hb)
    replace X10 := Lib.hid (X10.out.next hb)
    replace X14 := Lib.hid (X14.out.next hb)
    clear hb hHeld
    refine hK.out _ _ ⟨X9.out.c0, X9.out.c1, Xb.out.c0, Xb.out.c1, X14.out.c0, X14.out.c1, X10.out.c0, X10.out.c1, Xa.out.c0, Xa.out.c1⟩ (fun hHeld => ?_)
    clear hK K
    refine take_on (i := 7) (d := (some 153)) (v := ?v56) rfl rfl (by kernel_rfl) (by kernel_rfl) (by kernel_rfl) (fun c a w h => h) (by rfl) ?h56 (by assumption) ?r56
    case h56 => intro w hSw; obtain ⟨h0, h1, h2, h3, h4, h5, h6, h7, h8, h9⟩ := hSw; go_simp; rfl
    simp only [Act.put, List.setIfInBounds_toArray, List.set_cons_zero, List.set_cons_succ]
    refine take_on (i := 8) (d := (some 154)) (v := ?v57) rfl rfl (by kernel_rfl) (by kernel_rfl) (by kernel_rfl) (fun c a w h => h) (by rfl) ?h57 (by assumption) ?r57
    case h57 => intro w hSw; obtain ⟨h0, h1, h2, h3, h4, h5, h6, h7, h8, h9⟩ := hSw; go_simp; rfl
    simp only [Act.put, List.setIfInBounds_toArray, List.set_cons_zero, List.set_cons_succ]
    refine take_on (i := 9) (d := (some 155)) (v := ?v58) rfl rfl (by kernel_rfl) (by kernel_rfl) (by kernel_rfl) (fun c a w h => h) (by rfl) ?h58 (by assumption) ?r58
    case h58 => intro w hSw; obtain ⟨h0, h1, h2, h3, h4, h5, h6, h7, h8, h9⟩ := hSw; go_simp; rfl
    simp only [Act.put, List.setIfInBounds_toArray, List.set_cons_zero, List.set_cons_succ]
    refine take_on (i := 11) (d := (some 157)) (v := ?v59) rfl rfl (by kernel_rfl) (by kernel_rfl) (by kernel_rfl) (fun c a w h => h) (by rfl) ?h59 (by assumption) ?r59
    case h59 => intro w hSw; obtain ⟨h0, h1, h2, h3, h4, h5, h6, h7, h8, h9⟩ := hSw; go_simp; rfl
    simp only [Act.put, List.setIfInBounds_toArray, List.set_cons_zero, List.set_cons_succ]
    refine take_on (i := 13) (d := (some 159)) (v := ?v60) rfl rfl (by kernel_rfl) (by kernel_rfl) (by kernel_rfl) (fun c a w h => h) (by rfl) ?h60 (by assumption) ?r60
    case h60 => intro w hSw; obtain ⟨h0, h1, h2, h3, h4, h5, h6, h7, h8, h9⟩ := hSw; go_simp; rfl
    simp only [Act.put, List.setIfInBounds_toArray, List.set_cons_zero, List.set_cons_succ]
    refine wpAnyH_ready (rs := [10]) (by kernel_rfl) (by simp) ?_
    refine AllReadyH.cons rfl (fun K hK => ?_) AllReadyH.nil
    go_simp
    refine (refAbs2_c X10.out.is (Nat.le_trans (X10.out.is.len SY.out) (by omega))).mono ?_
    rintro e w50 ⟨t43, A43, n43, c43, rfl, i43, hb⟩
    replace E := Lib.hid (E.out.next hb)
    replace Xa := Lib.hid (Xa.out.next hb)
    replace Xb := Lib.hid (Xb.out.next hb)
    replace X8 := Lib.hid (X8.out.next hb)
    replace X9 := Lib.hid (X9.out.next hb)
    replace X10 := Lib.hid (X10.out.next hb)
    replace X14 := Lib.hid (X14.out.next hb)
    have J3 := Lib.hid (i43)
    clear hb hHeld i43
    refine hK.out _ _ ⟨X9.out.c0, X9.out.c1, Xb.out.c0, Xb.out.c1, X14.out.c0, X14.out.c1, X10.out.c0, X10.out.c1, Xa.out.c0, Xa.out.c1⟩ (fun hHeld => ?_)
    clear hK K
    refine wpAnyH_ready (rs := [12]) (by kernel_rfl) (by simp) ?_
    refine AllReadyH.cons rfl (fun K hK => ?_) AllReadyH.nil
    go_simp
    refine (refAbs2_c Xa.out.is (Nat.le_trans (Xa.out.is.len SA.out) (by omega))).mono ?_
    rintro e w51 ⟨t44, A44, n44, c44, rfl, i44, hb⟩
    replace E := Lib.hid (E.out.next hb)
    replace Xa := Lib.hid (Xa.out.next hb)
    replace Xb := Lib.hid (Xb.out.next hb)
    replace X8 := Lib.hid (X8.out.next hb)
    replace X9 := Lib.hid (X9.out.next hb)
    replace X10 := Lib.hid (X10.out.next hb)
    replace X14 := Lib.hid (X14.out.next hb)
    replace J3 := Lib.hid (J3.out.below hb)
    have J4 := Lib.hid (i44)
    clear hb hHeld i44
    refine hK.out _ _ ⟨X9.out.c0, X9.out.c1, Xb.out.c0, Xb.out.c1, X14.out.c0, X14.out.c1, X10.out.c0, X10.out.c1, Xa.out.c0, Xa.out.c1⟩ (fun hHeld => ?_)
    clear hK K
    refine wpAnyH_ready (rs := [14]) (by kernel_rfl) (by simp) ?_
    refine AllReadyH.cons rfl (fun K hK => ?_) AllReadyH.nil
    go_simp
    refine (refAdd_c J4.out X14.out.is (Nat.le_trans (J4.out.len SNA.out) (by omega)) (Nat.le_trans (X14.out.is.len (sz_one' (Nat.le_refl 1))) (by omega))).mono ?_
    rintro e w52 ⟨t45, A45, n45, c45, rfl, i45, hb⟩
    replace E := Lib.hid (E.out.next hb)
    replace Xa := Lib.hid (Xa.out.next hb)
    replace Xb := Lib.hid (Xb.out.next hb)
    replace X8 := Lib.hid (X8.out.next hb)
    replace X9 := Lib.hid (X9.out.next hb)
    replace X10 := Lib.hid (X10.out.next hb)
    replace X14 := Lib.hid (X14.out.next hb)
    replace J3 := Lib.hid (J3.out.below hb)
    replace J4 := Lib.hid (J4.out.below hb)
    have J5 := Lib.hid (i45)
    clear hb hHeld i45
    refine hK.out _ _ ⟨X9.out.c0, X9.out.c1, Xb.out.c0, Xb.out.c1, X14.out.c0, X14.out.c1, X10.out.c0, X10.out.c1, Xa.out.c0, Xa.out.c1⟩ (fun hHeld => ?_)
    clear hK K
    refine wpAnyH_ready (rs := [15]) (by kernel_rfl) (by simp) ?_
    refine AllReadyH.cons rfl (fun K hK => ?_) AllReadyH.nil
    go_simp
    refine (refCmp_c J3.out J5.out (Nat.le_trans (J3.out.len SNY.out) (by omega)) (Nat.le_trans (J5.out.len (SNA.out.add (sz_one' (by omega)))) (by omega))).mono ?_
    rw [HR2.out]
    rintro e w53 ⟨rfl, hb⟩
    clear J3 J4 J5
    replace E := Lib.hid (E.out.next hb)
    replace Xa := Lib.hid (Xa.out.next hb)
    replace Xb := Lib.hid (Xb.out.next hb)
    replace X8 := Lib.hid (X8.out.next hb)
    replace X9 := Lib.hid (X9.out.next hb)
    replace X10 := Lib.hid (X10.out.next hb)
    replace X14 := Lib.hid (X14.out.next hb)
    clear hb hHeld
    refine hK.out _ _ ⟨X9.out.c0, X9.out.c1, Xb.out.c0, Xb.out.c1, X14.out.c0, X14.out.c1, X10.out.c0, X10.out.c1, Xa.out.c0, Xa.out.c1⟩ (fun hHeld => ?_)
    clear hK K
    refine take_on (i := 16) (d := (some 162)) (v := ?v61) rfl rfl (by kernel_rfl) (by kernel_rfl) (by kernel_rfl) (fun c a w h => h) (by rfl) ?h61 (by assumption) ?r61
    case h61 => intro w hSw; obtain ⟨h0, h1, h2, h3, h4, h5, h6, h7, h8, h9⟩ := hSw; go_simp; rfl
    simp only [Act.put, List.setIfInBounds_toArray, List.set_cons_zero, List.set_cons_succ]
    refine take_on (i := 17) (d := (some 163)) (v := ?v62) rfl rfl (by kernel_rfl) (by kernel_rfl) (by kernel_rfl) (fun c a w h => h) (by rfl) ?h62 (by assumption) ?r62
    case h62 => intro w hSw; obtain ⟨h0, h1, h2, h3, h4, h5, h6, h7, h8, h9⟩ := hSw; go_simp; rfl
    simp only [Act.put, List.setIfInBounds_toArray, List.set_cons_zero, List.set_cons_succ]
    clear hHeld
    refine wpAnyH_done (by kernel_rfl) ?_ _
    clear X14
    clear HR1 HR2 l1 l2 d1 d2 SNX SNY SNA SNB
    go_upto_region 18 with (fail)
    refine wp_region_tail (S := (fun w' => w'.cell? ⟨ga, 0, none⟩ = some (.bool s) ∧ w'.cell? ⟨ga, 1, none⟩ = some (.slice A n c) ∧ w'.cell? ⟨gX8 + 1, 0, none⟩ = some (.bool t9) ∧ w'.cell? ⟨gX8 + 1, 1, none⟩ = some (.slice A9 n9 c9) ∧ w'.cell? ⟨ga + 1, 0, none⟩ = some (.bool s') ∧ w'.cell? ⟨ga + 1, 1, none⟩ = some (.slice A' n' c') ∧ w'.cell? ⟨gX8 + 1 + 1, 0, none⟩ = some (.bool tx) ∧ w'.cell? ⟨gX8 + 1 + 1, 1, none⟩ = some (.slice Ax nx cx) ∧ w'.cell? ⟨gX8, 0, none⟩ = some (.bool t8) ∧ w'.cell? ⟨gX8, 1, none⟩ = some (.slice A8 n8 c8))) 16 (by kernel_rfl) (by kernel_rfl) (by intro c a d v w h; cases d <;> exact h) ⟨cell_dr Xa.out.c0, cell_dr Xa.out.c1, cell_dr X9.out.c0, cell_dr X9.out.c1, cell_dr Xb.out.c0, cell_dr Xb.out.c1, cell_dr X10.out.c0, cell_dr X10.out.c1, cell_dr X8.out.c0, cell_dr X8.out.c1⟩ (fun QT hT hP hHeld => ?_)
    simp only [List.extract_toArray, List.extract_eq_take_drop, List.drop_zero, Nat.sub_zero, List.take_succ_cons, List.take_zero]
    have HT := Lib.hid hT
    clear hT
    replace E := Lib.hid (E.out.next (Below.refl w53.heap.size w53).drew)
    replace Xa := Lib.hid (Xa.out.next (Below.refl w53.heap.size w53).drew)
    replace Xb := Lib.hid (Xb.out.next (Below.refl w53.heap.size w53).drew)
    replace X8 := Lib.hid (X8.out.next (Below.refl w53.heap.size w53).drew)
    replace X9 := Lib.hid (X9.out.next (Below.refl w53.heap.size w53).drew)
    replace X10 := Lib.hid (X10.out.next (Below.refl w53.heap.size w53).drew)
    generalize w53.drew = D54 at E Xa Xb X8 X9 X10 hHeld ⊢
    refine take_on (i := 0) (d := (some 164)) (v := ?v63) rfl rfl (by kernel_rfl) (by kernel_rfl) (by kernel_rfl) (fun c a w h => hP c a _ _ w h) (by rfl) ?h63 (by assumption) ?r63
    case h63 => intro w hSw; obtain ⟨h0, h1, h2, h3, h4, h5, h6, h7, h8, h9⟩ := hSw; go_simp; rfl
    simp only [Act.put, List.setIfInBounds_toArray, List.set_cons_zero, List.set_cons_succ]
    refine take_on (i := 1) (d := (some 165)) (v := ?v64) rfl rfl (by kernel_rfl) (by kernel_rfl) (by kernel_rfl) (fun c a w h => hP c a _ _ w h) (by rfl) ?h64 (by assumption) ?r64
    case h64 => intro w hSw; obtain ⟨h0, h1, h2, h3, h4, h5, h6, h7, h8, h9⟩ := hSw; go_simp; rfl
    simp only [Act.put, List.setIfInBounds_toArray, List.set_cons_zero, List.set_cons_succ]
    refine take_on (i := 3) (d := (some 167)) (v := ?v65) rfl rfl (by kernel_rfl) (by kernel_rfl) (by kernel_rfl) (fun c a w h => hP c a _ _ w h) (by rfl) ?h65 (by assumption) ?r65
    case h65 => intro w hSw; obtain ⟨h0, h1, h2, h3, h4, h5, h6, h7, h8, h9⟩ := hSw; go_simp; rfl
    simp only [Act.put, List.setIfInBounds_toArray, List.set_cons_zero, List.set_cons_succ]
    refine take_on (i := 4) (d := (some 168)) (v := ?v66) rfl rfl (by kernel_rfl) (by kernel_rfl) (by kernel_rfl) (fun c a w h => hP c a _ _ w h) (by rfl) ?h66 (by assumption) ?r66
    case h66 => intro w hSw; obtain ⟨h0, h1, h2, h3, h4, h5, h6, h7, h8, h9⟩ := hSw; go_simp; rfl
    simp only [Act.put, List.setIfInBounds_toArray, List.set_cons_zero, List.set_cons_succ]
    refine take_on (i := 7) (d := (some 171)) (v := ?v67) rfl rfl (by kernel_rfl) (by kernel_rfl) (by kernel_rfl) (fun c a w h => hP c a _ _ w h) (by rfl) ?h67 (by assumption) ?r67
    case h67 => intro w hSw; obtain ⟨h0, h1, h2, h3, h4, h5, h6, h7, h8, h9⟩ := hSw; go_simp; rfl
    simp only [Act.put, List.setIfInBounds_toArray, List.set_cons_zero, List.set_cons_succ]
    refine wpAnyH_ready (rs := [2]) (by kernel_rfl) (by simp) ?_
    refine AllReadyH.cons rfl (fun K hK => ?_) AllReadyH.nil
    go_simp
    refine (refMul_c Xa.out.is X9.out.is (Nat.le_trans (Xa.out.is.len SA.out) (by omega)) (Nat.le_trans (X9.out.is.len SX.out) (by omega))).mono ?_
    rintro e w55 ⟨t50, A50, n50, c50, rfl, i50, hb⟩
    replace E := Lib.hid (E.out.next hb)
    replace Xa := Lib.hid (Xa.out.next hb)
    replace Xb := Lib.hid (Xb.out.next hb)
    replace X8 := Lib.hid (X8.out.next hb)
    replace X9 := Lib.hid (X9.out.next hb)
    replace X10 := Lib.hid (X10.out.next hb)
    have J0 := Lib.hid (i50)
    clear hb hHeld i50
    refine hK.out _ _ ⟨Xa.out.c0, Xa.out.c1, X9.out.c0, X9.out.c1, Xb.out.c0, Xb.out.c1, X10.out.c0, X10.out.c1, X8.out.c0, X8.out.c1⟩ (fun hHeld => ?_)
    clear hK K
    refine wpAnyH_ready (rs := [5]) (by kernel_rfl) (by simp) ?_
    refine AllReadyH.cons rfl (fun K hK => ?_) AllReadyH.nil
    go_simp
    refine (refMul_c Xb.out.is X10.out.is (Nat.le_trans (Xb.out.is.len SB.out) (by omega)) (Nat.le_trans (X10.out.is.len SY.out) (by omega))).mono ?_
    rintro e w56 ⟨t51, A51, n51, c51, rfl, i51, hb⟩
    replace E := Lib.hid (E.out.next hb)
    replace Xa := Lib.hid (Xa.out.next hb)
    replace Xb := Lib.hid (Xb.out.next hb)
    replace X8 := Lib.hid (X8.out.next hb)
    replace X9 := Lib.hid (X9.out.next hb)
    replace X10 := Lib.hid (X10.out.next hb)
    replace J0 := Lib.hid (J0.out.below hb)
    have J1 := Lib.hid (i51)
    clear hb hHeld i51
    refine hK.out _ _ ⟨Xa.out.c0, Xa.out.c1, X9.out.c0, X9.out.c1, Xb.out.c0, Xb.out.c1, X10.out.c0, X10.out.c1, X8.out.c0, X8.out.c1⟩ (fun hHeld => ?_)
    clear hK K
    refine wpAnyH_ready (rs := [6]) (by kernel_rfl) (by simp) ?_
    refine AllReadyH.cons rfl (fun K hK => ?_) AllReadyH.nil
    go_simp
    refine (refAdd_c J0.out J1.out (Nat.le_trans (J0.out.len (SA.out.mul SX.out)) (by omega)) (Nat.le_trans (J1.out.len (SB.out.mul SY.out)) (by omega))).mono ?_
    rintro e w57 ⟨t52, A52, n52, c52, rfl, i52, hb⟩
    replace E := Lib.hid (E.out.next hb)
    replace Xa := Lib.hid (Xa.out.next hb)
    replace Xb := Lib.hid (Xb.out.next hb)
    replace X8 := Lib.hid (X8.out.next hb)
    replace X9 := Lib.hid (X9.out.next hb)
    replace X10 := Lib.hid (X10.out.next hb)
    replace J0 := Lib.hid (J0.out.below hb)
    replace J1 := Lib.hid (J1.out.below hb)
    have J2 := Lib.hid (i52)
    clear hb hHeld i52
    refine hK.out _ _ ⟨Xa.out.c0, Xa.out.c1, X9.out.c0, X9.out.c1, Xb.out.c0, Xb.out.c1, X10.out.c0, X10.out.c1, X8.out.c0, X8.out.c1⟩ (fun hHeld => ?_)
    clear hK K
    refine wpAnyH_ready (rs := [8]) (by kernel_rfl) (by simp) ?_
    refine AllReadyH.cons rfl (fun K hK => ?_) AllReadyH.nil
    go_simp
    refine (same_eq (k := 4096) J2.out X8.out.is (by rw [HBZ.out]; exact SG.out) (Nat.le_refl _) HBZ.out).mono ?_
    rintro e w58 ⟨rfl, hb⟩
    clear J0 J1 J2
    replace E := Lib.hid (E.out.next hb)
    replace Xa := Lib.hid (Xa.out.next hb)
    replace Xb := Lib.hid (Xb.out.next hb)
    replace X8 := Lib.hid (X8.out.next hb)
    replace X9 := Lib.hid (X9.out.next hb)
    replace X10 := Lib.hid (X10.out.next hb)
    clear hb hHeld
    refine hK.out _ _ ⟨Xa.out.c0, Xa.out.c1, X9.out.c0, X9.out.c1, Xb.out.c0, Xb.out.c1, X10.out.c0, X10.out.c1, X8.out.c0, X8.out.c1⟩ (fun hHeld => ?_)
    clear hK K
    refine take_on (i := 9) (d := (some 173)) (v := ?v68) rfl rfl (by kernel_rfl) (by kernel_rfl) (by kernel_rfl) (fun c a w h => hP c a _ _ w h) (by rfl) ?h68 (by assumption) ?r68
    case h68 => intro w hSw; obtain ⟨h0, h1, h2, h3, h4, h5, h6, h7, h8, h9⟩ := hSw; go_simp; rfl
    simp only [Act.put, List.setIfInBounds_toArray, List.set_cons_zero, List.set_cons_succ]
    refine take_on (i := 10) (d := (some 174)) (v := ?v69) rfl rfl (by kernel_rfl) (by kernel_rfl) (by kernel_rfl) (fun c a w h => hP c a _ _ w h) (by rfl) ?h69 (by assumption) ?r69
    case h69 => intro w hSw; obtain ⟨h0, h1, h2, h3, h4, h5, h6, h7, h8, h9⟩ := hSw; go_simp; rfl
    simp only [Act.put, List.setIfInBounds_toArray, List.set_cons_zero, List.set_cons_succ]
    refine wpAnyH_ready (rs := [11]) (by kernel_rfl) (by simp) ?_
    refine AllReadyH.cons rfl (fun K hK => ?_) AllReadyH.nil
    go_simp
    refine (root_law s A n c xs _ E.out.ra HN.out.1.1 HN.out.1.2).mono ?_
    rintro e w59 ⟨rfl, hb⟩
    replace E := Lib.hid (E.out.next hb)
    replace Xa := Lib.hid (Xa.out.next hb)
    replace Xb := Lib.hid (Xb.out.next hb)
    replace X8 := Lib.hid (X8.out.next hb)
    replace X9 := Lib.hid (X9.out.next hb)
    replace X10 := Lib.hid (X10.out.next hb)
    clear hb hHeld
    refine hK.out _ _ ⟨Xa.out.c0, Xa.out.c1, X9.out.c0, X9.out.c1, Xb.out.c0, Xb.out.c1, X10.out.c0, X10.out.c1, X8.out.c0, X8.out.c1⟩ (fun hHeld => ?_)
    clear hK K
    refine take_on (i := 12) (d := (some 176)) (v := ?v70) rfl rfl (by kernel_rfl) (by kernel_rfl) (by kernel_rfl) (fun c a w h => hP c a _ _ w h) (by rfl) ?h70 (by assumption) ?r70
    case h70 => intro w hSw; obtain ⟨h0, h1, h2, h3, h4, h5, h6, h7, h8, h9⟩ := hSw; go_simp; rfl
    simp only [Act.put, List.setIfInBounds_toArray, List.set_cons_zero, List.set_cons_succ]
    refine take_on (i := 13) (d := (some 177)) (v := ?v71) rfl rfl (by kernel_rfl) (by kernel_rfl) (by kernel_rfl) (fun c a w h => hP c a _ _ w h) (by rfl) ?h71 (by assumption) ?r71
    case h71 => intro w hSw; obtain ⟨h0, h1, h2, h3, h4, h5, h6, h7, h8, h9⟩ := hSw; go_simp; rfl
    simp only [Act.put, List.setIfInBounds_toArray, List.set_cons_zero, List.set_cons_succ]
    refine wpAnyH_ready (rs := [14]) (by kernel_rfl) (by simp) ?_
    refine AllReadyH.cons rfl (fun K hK => ?_) AllReadyH.nil
    go_simp
    refine (awake_c _).mono ?_
    rintro e w60 ⟨rfl, hb⟩
    replace E := Lib.hid (E.out.next hb)
    replace Xa := Lib.hid (Xa.out.next hb)
    replace Xb := Lib.hid (Xb.out.next hb)
    replace X8 := Lib.hid (X8.out.next hb)
    replace X9 := Lib.hid (X9.out.next hb)
    replace X10 := Lib.hid (X10.out.next hb)
    clear hb hHeld
    refine hK.out _ _ ⟨Xa.out.c0, Xa.out.c1, X9.out.c0, X9.out.c1, Xb.out.c0, Xb.out.c1, X10.out.c0, X10.out.c1, X8.out.c0, X8.out.c1⟩ (fun hHeld => ?_)
    clear hK K
    refine take_on (i := 15) (d := (some 179)) (v := ?v72) rfl rfl (by kernel_rfl) (by kernel_rfl) (by kernel_rfl) (fun c a w h => hP c a _ _ w h) (by rfl) ?h72 (by assumption) ?r72
    case h72 => intro w hSw; obtain ⟨h0, h1, h2, h3, h4, h5, h6, h7, h8, h9⟩ := hSw; go_simp; rfl
    simp only [Act.put, List.setIfInBounds_toArray, List.set_cons_zero, List.set_cons_succ]
    clear hHeld
    refine wpAnyH_done (by kernel_rfl) ?_ _
    refine HT.out _ _ ?_
    clear HT hP QT
    refine wpList_step fun K hK => ?_
    go_simp
    refine hK _ _ ?_
    clear hK K
    refine wpList_nil ?_
    go_wp2
    go_ret
    exact ⟨rfl, E.out.below⟩
theorem LargeDivides_c (s s' : Bool) (A A' : Option Addr) (n c n' c' : Nat) (xs ys : List Nat) (w : World) (h : Rd w A n xs) (h' : Rd w A' n' ys) (hn : n ≤ c) (hn' : n' ≤ c') (hc : c ≤ 9223372036854775807) (hc' : c' ≤ 9223372036854775807) :
    Calls Try.prog 13 #[.agg #[.bool s, .slice A n c], .agg #[.bool s', .slice A' n' c']] w (IsB true w) := by
  by_cases hl : 4200 < n ∨ 4200 < n'
  · exact LD_long s s' A A' n c n' c' xs ys w h h' hn hn' hc hc' hl
  · have hs : n ≤ 4200 ∧ n' ≤ 4200 := by omega
    cases hv : (validB s xs && validB s' ys) with
    | false => exact LD_inv s s' A A' n c n' c' xs ys w h h' hn hn' hc hc' hs hv
    | true =>
      have vx : validB s xs = true := by revert hv; cases validB s xs <;> simp
      have vy : validB s' ys = true := by revert hv; cases validB s' ys <;> simp
      by_cases h7 : 700 < n ∨ 700 < n'
      · exact LD_wide s s' A A' n c n' c' xs ys w h h' hn hn' hc hc' hs vx vy h7
      · rcases Nat.eq_zero_or_pos n' with h0 | h0
        · exact LD_zero s s' A A' n c n' c' xs ys w h h' hn hn' hc hc' (by omega) vx vy h0
        · exact LD_main s s' A A' n c n' c' xs ys w h h' hn hn' hc hc' (by omega) vx vy h0
end Go.Proofs.Ytbblckaplddggaa

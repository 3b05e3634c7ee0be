import Derived.Test.YtbblckaplddggaaDe
import Derived.Test.YtbblckaplddggaaOm
import Derived.Test.YtbblckaplddggaaDq
import Derived.Test.YtbblckaplddggaaDp
import Derived.Test.YtbblckaplddggaaOc
set_option maxRecDepth 100000
namespace Go.Proofs.Ytbblckaplddggaa
open Go.RowKit Go.Shelf
theorem short1s_c (most g : Nat) (A1 : Option Addr) (n1 c1 : Nat) (w : World) (h1 : w.cell? ⟨g, 1, none⟩ = some (.slice A1 n1 c1)) :
    Calls Try.prog 14 #[.int .i64 (most : Int), .slice (some ⟨g, 0, none⟩) 1 1] w (IsB (decide (n1 ≤ most)) w) := by
  refine (short_c most g 1 (of3 A1 A1 A1) (of3 n1 n1 n1) (of3 c1 c1 c1) w ?_ (by omega)).mono ?_
  · intro i hi
    obtain rfl : i = 0 := by omega
    exact h1
  · rintro e w' ⟨rfl, hb⟩
    refine ⟨?_, hb⟩
    congr 2
    rw [decide_eq_decide]
    constructor
    · intro h; exact h 0 (by omega)
    · intro h i hi
      obtain rfl : i = 0 := by omega
      exact h
/-- what is not asked -/
def RestsNo (n n' : Nat) : Prop := ¬ n ≤ 60 ∨ (n ≤ 60 ∧ 60 < n' ∧ n' < 126)
def RestsYes (n n' : Nat) : Prop := n ≤ 60 ∧ (n' ≤ 60 ∨ 126 ≤ n')
set_option maxHeartbeats 16000000 in
theorem LucasRests_no (s : Bool) (A : Option Addr) (n c : Nat) (xs : List Nat) (s' : Bool) (A' : Option Addr) (n' c' : Nat) (ys : List Nat) (K : Int) (w : World) (h : Rd w A n xs) (hn : n ≤ c) (hc : c ≤ 9223372036854775807) (h' : Rd w A' n' ys) (hn' : n' ≤ c') (hc' : c' ≤ 9223372036854775807) (hno : RestsNo n n') :
    Calls Try.prog 4 #[.agg #[.bool s, .slice A n c], .int .i64 K, .agg #[.bool s', .slice A' n' c']] w (IsB true w) := by
  have E := Lib.hid (Rb2.start (s := s) (c := c) (s' := s') (c' := c') h h')
  have HN := Lib.hid (And.intro (And.intro hn hc) (And.intro hn' hc'))
  clear h h' hn hc hn' hc'
  go_enter Try.func4, Try.ntmps4
  go_upto_region 1 with (fail)
  generalize (w.alloc (.cells #[.bool s, .slice A n c] 24)).alloc (.cells #[.bool s', .slice A' n' c'] 24) = W0 at E ⊢
  have a0 := E.out.ba.c0
  have a1 := E.out.ba.c1
  have b0 := E.out.bb.c0
  have b1 := E.out.bb.c1
  go_wp2_with fail
  have hb := below_alloc W0 (.cells #[.bool s, .slice A n c] 24)
  refine (short1s_c 60 _ A n c _ (by go_simp)).mono ?_
  rintro e w1 ⟨rfl, hb1⟩
  replace E := Lib.hid ((E.out.next hb).next hb1)
  clear hb hb1 a0 a1 b0 b1
  rcases hno with hno | ⟨h0, h1, h2⟩
  · rw [decide_eq_false hno]
    clear hno
    go_wp2_with fail
    refine (awake8_c _).mono ?_
    rintro e u9 ⟨rfl, b9⟩
    have P9 := Lib.hid (E.out.below.trans (b9.mono E.out.below.size))
    clear b9
    go_wp2
    go_ret
    exact ⟨rfl, P9.out⟩
  · rw [decide_eq_true h0]
    have t1 : decide ((60 : Int) < (n' : Int)) = true := decide_eq_true (by omega)
    have t2 : decide ((n' : Int) < 126) = true := decide_eq_true (by omega)
    have t3 : (60 : Int) < (n' : Int) := by omega
    have t4 : (n' : Int) < 126 := by omega
    clear h0 h1 h2
    have b0 := E.out.bb.c0
    have b1 := E.out.bb.c1
    go_wp2_with fail
    refine (awake8_c _).mono ?_
    rintro e u9 ⟨rfl, b9⟩
    have P9 := Lib.hid (E.out.below.trans (b9.mono E.out.below.size))
    clear b9
    go_wp2
    go_ret
    exact ⟨rfl, P9.out⟩
set_option maxHeartbeats 16000000 in
theorem LucasRests_E1 (s : Bool) (A : Option Addr) (n c : Nat) (xs : List Nat) (s' : Bool) (A' : Option Addr) (n' c' : Nat) (ys : List Nat) (K : Int) (w : World) (h : Rd w A n xs) (hn : n ≤ c) (hc : c ≤ 9223372036854775807) (h' : Rd w A' n' ys) (hn' : n' ≤ c') (hc' : c' ≤ 9223372036854775807) (hask : RestsYes n n') (hR : ∀ W, Rd W A n xs → Rd W A' n' ys → Calls Try.prog 22 #[.agg #[.bool s, .slice A n c], .int .i64 K, .agg #[.bool s', .slice A' n' c']] W (RestsZ 1 W)) (v : Int) (hv : codeV s xs true = v) (hvy : validB s' ys = false) :
    Calls Try.prog 4 #[.agg #[.bool s, .slice A n c], .int .i64 K, .agg #[.bool s', .slice A' n' c']] w (IsB true w) := by
  have E := Lib.hid (Rb2.start (s := s) (c := c) (s' := s') (c' := c') h h')
  have HN := Lib.hid (And.intro (And.intro hn hc) (And.intro hn' hc'))
  clear h h' hn hc hn' hc'
  have HASK := Lib.hid hask
  clear hask
  have HR := Lib.hid hR
  have HC := Lib.hid hv
  have HV := Lib.hid hvy
  have HK0 := Lib.hid (show (1 : Int) ≠ 0 by omega)
  clear hR hv hvy
  go_enter Try.func4, Try.ntmps4
  go_upto_region 1 with (fail)
  generalize (w.alloc (.cells #[.bool s, .slice A n c] 24)).alloc (.cells #[.bool s', .slice A' n' c'] 24) = W0 at E ⊢
  go_cut [28] (fun v W => v = .bool false ∧ Rb2 w W s A n c xs s' A' n' c' ys)
  case first =>
    have a0 := E.out.ba.c0
    have a1 := E.out.ba.c1
    have b0 := E.out.bb.c0
    have b1 := E.out.bb.c1
    go_wp2_with fail
    have hb := below_alloc W0 (.cells #[.bool s, .slice A n c] 24)
    refine (short1s_c 60 _ A n c _ (by go_simp)).mono ?_
    rintro e w1 ⟨rfl, hb1⟩
    replace E := Lib.hid ((E.out.next hb).next hb1)
    clear hb hb1 a0 a1 b0 b1
    rw [decide_eq_true HASK.out.1]
    have b0 := E.out.bb.c0
    have b1 := E.out.bb.c1
    rcases HASK.out.2 with h1 | h1
    · have t1 : decide ((60 : Int) < (n' : Int)) = false := decide_eq_false (by omega)
      have t3 : ¬ (60 : Int) < (n' : Int) := by omega
      clear h1
      go_wp2
      go_meet
      exact ⟨rfl, E.out⟩
    · have t1 : decide ((60 : Int) < (n' : Int)) = true := decide_eq_true (by omega)
      have t2 : decide ((n' : Int) < 126) = false := decide_eq_false (by omega)
      have t3 : (60 : Int) < (n' : Int) := by omega
      have t4 : ¬ (n' : Int) < 126 := by omega
      clear h1
      go_wp2
      go_meet
      exact ⟨rfl, E.out⟩
  case rest =>
    obtain ⟨rfl, hE⟩ := hcut
    clear E
    have E := Lib.hid hE
    clear hE
    have a0 := E.out.ba.c0
    have a1 := E.out.ba.c1
    have b0 := E.out.bb.c0
    have b1 := E.out.bb.c1
    go_wp2_with fail
    refine (HR.out _ E.out.ba.rd E.out.bb.rd).mono ?_
    rintro e w3 ⟨rfl, hb⟩
    replace E := Lib.hid (E.out.next hb)
    clear hb a0 a1 b0 b1
    have Xg3 := Lib.hid ((Nvr.new (is_zero8 w3)).alloc (.cells #[.bool false, .slice none 0 0] 24))
    have Yg3 := Lib.hid (Nvr.new ((is_zero8 w3).below (below_alloc w3 (.cells #[.bool false, .slice none 0 0] 24))))
    rw [World.size_alloc] at Yg3
    replace E := Lib.hid ((E.out.next (below_alloc _ (.cells #[.bool false, .slice none 0 0] 24))).next (below_alloc _ (.cells #[.bool false, .slice none 0 0] 24)))
    go_upto_region 4 with (fail)
    generalize (w3.alloc (.cells #[.bool false, .slice none 0 0] 24)).alloc (.cells #[.bool false, .slice none 0 0] 24) = W3 at E Xg3 Yg3 ⊢
    obtain ⟨g3, hg3⟩ : ∃ g, g = w3.heap.size := ⟨_, rfl⟩
    rw [← hg3] at Xg3 Yg3 ⊢
    clear hg3
    have a0 := E.out.ba.c0
    have a1 := E.out.ba.c1
    go_wp2_with fail
    refine (code_c E.out.ba.rd HN.out.1.1 HN.out.1.2).mono ?_
    rw [HC.out]
    rintro e w4 ⟨rfl, hb⟩
    replace E := Lib.hid (E.out.next hb)
    replace Xg3 := Lib.hid (Xg3.out.next hb)
    replace Yg3 := Lib.hid (Yg3.out.next hb)
    clear hb a0 a1
    have b0 := E.out.bb.c0
    have b1 := E.out.bb.c1
    go_wp2_with fail
    refine (refValid_c s' A' n' c' ys _ E.out.bb.rd).mono ?_
    rw [HV.out]
    rintro e W7 ⟨rfl, hb⟩
    replace E := Lib.hid (E.out.next hb)
    replace Xg3 := Lib.hid (Xg3.out.next hb)
    replace Yg3 := Lib.hid (Yg3.out.next hb)
    clear hb b0 b1
    go_upto_region 7 with (fail)
    refine wp_region_held_drew (S := (fun w' => w'.cell? ⟨w.heap.size + 1, 0, none⟩ = some (.bool s') ∧ w'.cell? ⟨w.heap.size + 1, 1, none⟩ = some (.slice A' n' c'))) (by kernel_rfl) ⟨cell_dr E.out.bb.c0, cell_dr E.out.bb.c1⟩ (fun hHeld => ?_)
    replace E := Lib.hid (E.out.next (Below.refl W7.heap.size W7).drew)
    replace Xg3 := Lib.hid (Xg3.out.next (Below.refl W7.heap.size W7).drew)
    replace Yg3 := Lib.hid (Yg3.out.next (Below.refl W7.heap.size W7).drew)
    generalize W7.drew = D1 at E Xg3 Yg3 hHeld ⊢
    refine take_on (i := 0) (d := (some 43)) (v := ?v1) rfl rfl (by kernel_rfl) (by kernel_rfl) (by kernel_rfl) (fun c a w h => h) (by rfl) ?h1 (by assumption) ?r1
    case h1 => intro w hSw; obtain ⟨h0, h1⟩ := hSw; go_simp; rfl
    simp only [Act.put, List.setIfInBounds_toArray, List.set_cons_zero, List.set_cons_succ]
    refine take_on (i := 1) (d := (some 44)) (v := ?v2) rfl rfl (by kernel_rfl) (by kernel_rfl) (by kernel_rfl) (fun c a w h => h) (by rfl) ?h2 (by assumption) ?r2
    case h2 => intro w hSw; obtain ⟨h0, h1⟩ := hSw; go_simp; rfl
    simp only [Act.put, List.setIfInBounds_toArray, List.set_cons_zero, List.set_cons_succ]
    refine take_on (i := 2) (d := (some 45)) (v := ?v3) rfl rfl (by kernel_rfl) (by kernel_rfl) (by kernel_rfl) (fun c a w h => h) (by rfl) ?h3 (by assumption) ?r3
    case h3 => intro w hSw; obtain ⟨h0, h1⟩ := hSw; go_simp; rfl
    simp only [Act.put, List.setIfInBounds_toArray, List.set_cons_zero, List.set_cons_succ]
    refine take_off (i := 3) (d := (some 46)) rfl rfl (by kernel_rfl) (by kernel_rfl) (by kernel_rfl) (fun c a w h => h) (by rfl) (by assumption) ?_
    simp only [Act.put, List.setIfInBounds_toArray, List.set_cons_zero, List.set_cons_succ]
    refine take_off (i := 4) (d := (some 47)) rfl rfl (by kernel_rfl) (by kernel_rfl) (by kernel_rfl) (fun c a w h => h) (by rfl) (by assumption) ?_
    simp only [Act.put, List.setIfInBounds_toArray, List.set_cons_zero, List.set_cons_succ]
    refine take_off (i := 5) (d := (some 48)) rfl rfl (by kernel_rfl) (by kernel_rfl) (by kernel_rfl) (fun c a w h => h) (by rfl) (by assumption) ?_
    simp only [Act.put, List.setIfInBounds_toArray, List.set_cons_zero, List.set_cons_succ]
    refine take_off (i := 6) (d := (some 49)) rfl rfl (by kernel_rfl) (by kernel_rfl) (by kernel_rfl) (fun c a w h => h) (by rfl) (by assumption) ?_
    simp only [Act.put, List.setIfInBounds_toArray, List.set_cons_zero, List.set_cons_succ]
    refine take_off (i := 7) (d := (some 50)) rfl rfl (by kernel_rfl) (by kernel_rfl) (by kernel_rfl) (fun c a w h => h) (by rfl) (by assumption) ?_
    simp only [Act.put, List.setIfInBounds_toArray, List.set_cons_zero, List.set_cons_succ]
    refine take_off (i := 8) (d := (some 51)) rfl rfl (by kernel_rfl) (by kernel_rfl) (by kernel_rfl) (fun c a w h => h) (by rfl) (by assumption) ?_
    simp only [Act.put, List.setIfInBounds_toArray, List.set_cons_zero, List.set_cons_succ]
    refine take_off (i := 9) (d := (some 52)) rfl rfl (by kernel_rfl) (by kernel_rfl) (by kernel_rfl) (fun c a w h => h) (by rfl) (by assumption) ?_
    simp only [Act.put, List.setIfInBounds_toArray, List.set_cons_zero, List.set_cons_succ]
    refine take_off (i := 10) (d := (some 53)) rfl rfl (by kernel_rfl) (by kernel_rfl) (by kernel_rfl) (fun c a w h => h) (by rfl) (by assumption) ?_
    simp only [Act.put, List.setIfInBounds_toArray, List.set_cons_zero, List.set_cons_succ]
    refine take_off (i := 11) (d := (some 54)) rfl rfl (by kernel_rfl) (by kernel_rfl) (by kernel_rfl) (fun c a w h => h) (by rfl) (by assumption) ?_
    simp only [Act.put, List.setIfInBounds_toArray, List.set_cons_zero, List.set_cons_succ]
    refine take_off (i := 12) (d := (some 55)) rfl rfl (by kernel_rfl) (by kernel_rfl) (by kernel_rfl) (fun c a w h => h) (by rfl) (by assumption) ?_
    simp only [Act.put, List.setIfInBounds_toArray, List.set_cons_zero, List.set_cons_succ]
    refine take_off (i := 13) (d := (some 56)) rfl rfl (by kernel_rfl) (by kernel_rfl) (by kernel_rfl) (fun c a w h => h) (by rfl) (by assumption) ?_
    simp only [Act.put, List.setIfInBounds_toArray, List.set_cons_zero, List.set_cons_succ]
    refine take_off (i := 14) (d := (some 57)) rfl rfl (by kernel_rfl) (by kernel_rfl) (by kernel_rfl) (fun c a w h => h) (by rfl) (by assumption) ?_
    simp only [Act.put, List.setIfInBounds_toArray, List.set_cons_zero, List.set_cons_succ]
    refine take_off (i := 15) (d := (some 58)) rfl rfl (by kernel_rfl) (by kernel_rfl) (by kernel_rfl) (fun c a w h => h) (by rfl) (by assumption) ?_
    simp only [Act.put, List.setIfInBounds_toArray, List.set_cons_zero, List.set_cons_succ]
    refine take_off (i := 16) (d := (some 59)) rfl rfl (by kernel_rfl) (by kernel_rfl) (by kernel_rfl) (fun c a w h => h) (by rfl) (by assumption) ?_
    simp only [Act.put, List.setIfInBounds_toArray, List.set_cons_zero, List.set_cons_succ]
    refine take_off (i := 17) (d := (some 60)) rfl rfl (by kernel_rfl) (by kernel_rfl) (by kernel_rfl) (fun c a w h => h) (by rfl) (by assumption) ?_
    simp only [Act.put, List.setIfInBounds_toArray, List.set_cons_zero, List.set_cons_succ]
    refine take_off (i := 18) (d := (some 61)) rfl rfl (by kernel_rfl) (by kernel_rfl) (by kernel_rfl) (fun c a w h => h) (by rfl) (by assumption) ?_
    simp only [Act.put, List.setIfInBounds_toArray, List.set_cons_zero, List.set_cons_succ]
    refine take_off (i := 19) (d := (some 62)) rfl rfl (by kernel_rfl) (by kernel_rfl) (by kernel_rfl) (fun c a w h => h) (by rfl) (by assumption) ?_
    simp only [Act.put, List.setIfInBounds_toArray, List.set_cons_zero, List.set_cons_succ]
    refine take_on (i := 20) (d := (some 63)) (v := ?v21) rfl rfl (by kernel_rfl) (by kernel_rfl) (by kernel_rfl) (fun c a w h => h) (by rfl) ?h21 (by assumption) ?r21
    case h21 => intro w hSw; obtain ⟨h0, h1⟩ := hSw; go_simp; rfl
    simp only [Act.put, List.setIfInBounds_toArray, List.set_cons_zero, List.set_cons_succ]
    clear hHeld
    refine wpAnyH_done (by kernel_rfl) ?_ _
    have x0 := Xg3.out.c0
    have x1 := Xg3.out.c1
    go_wp2_with fail
    refine (number_err 1 (by first | exact HK0.out | omega) _ _ _ _ _).mono ?_
    rintro e w10 ⟨rfl, hb⟩
    replace E := Lib.hid (E.out.next hb)
    replace Xg3 := Lib.hid (Xg3.out.next hb)
    replace Yg3 := Lib.hid (Yg3.out.next hb)
    clear hb x0 x1
    have y0 := Yg3.out.c0
    have y1 := Yg3.out.c1
    go_wp2_with fail
    refine (Zero_z Yg3.out.is).mono ?_
    rw [decide_eq_true (show (0 : Int) = 0 from rfl)]
    rintro e w11 ⟨rfl, hb⟩
    replace E := Lib.hid (E.out.next hb)
    replace Xg3 := Lib.hid (Xg3.out.next hb)
    replace Yg3 := Lib.hid (Yg3.out.next hb)
    clear hb y0 y1
    go_wp2_with fail
    refine (awake8_c _).mono ?_
    rintro e u9 ⟨rfl, b9⟩
    have P9 := Lib.hid (E.out.below.trans (b9.mono E.out.below.size))
    clear b9
    go_wp2
    go_ret
    exact ⟨rfl, P9.out⟩
set_option maxHeartbeats 16000000 in
theorem LucasRests_E2 (s : Bool) (A : Option Addr) (n c : Nat) (xs : List Nat) (s' : Bool) (A' : Option Addr) (n' c' : Nat) (ys : List Nat) (K : Int) (w : World) (h : Rd w A n xs) (hn : n ≤ c) (hc : c ≤ 9223372036854775807) (h' : Rd w A' n' ys) (hn' : n' ≤ c') (hc' : c' ≤ 9223372036854775807) (hask : RestsYes n n') (k : Int) (hk0 : k ≠ 0) (hR : ∀ W, Rd W A n xs → Rd W A' n' ys → Calls Try.prog 22 #[.agg #[.bool s, .slice A n c], .int .i64 K, .agg #[.bool s', .slice A' n' c']] W (RestsZ k W)) (hv : codeV s xs true = k) (hvy : validB s' ys = true) :
    Calls Try.prog 4 #[.agg #[.bool s, .slice A n c], .int .i64 K, .agg #[.bool s', .slice A' n' c']] w (IsB true w) := by
  have E := Lib.hid (Rb2.start (s := s) (c := c) (s' := s') (c' := c') h h')
  have HN := Lib.hid (And.intro (And.intro hn hc) (And.intro hn' hc'))
  clear h h' hn hc hn' hc'
  have HASK := Lib.hid hask
  clear hask
  have HR := Lib.hid hR
  have HC := Lib.hid hv
  have HV := Lib.hid hvy
  have q1 : (k == 0) = false := by rw [beq_eq_false_iff_ne]; exact hk0
  have HK0 := Lib.hid hk0
  clear hR hv hvy hk0
  go_enter Try.func4, Try.ntmps4
  go_upto_region 1 with (fail)
  generalize (w.alloc (.cells #[.bool s, .slice A n c] 24)).alloc (.cells #[.bool s', .slice A' n' c'] 24) = W0 at E ⊢
  go_cut [28] (fun v W => v = .bool false ∧ Rb2 w W s A n c xs s' A' n' c' ys)
  case first =>
    have a0 := E.out.ba.c0
    have a1 := E.out.ba.c1
    have b0 := E.out.bb.c0
    have b1 := E.out.bb.c1
    go_wp2_with fail
    have hb := below_alloc W0 (.cells #[.bool s, .slice A n c] 24)
    refine (short1s_c 60 _ A n c _ (by go_simp)).mono ?_
    rintro e w1 ⟨rfl, hb1⟩
    replace E := Lib.hid ((E.out.next hb).next hb1)
    clear hb hb1 a0 a1 b0 b1
    rw [decide_eq_true HASK.out.1]
    have b0 := E.out.bb.c0
    have b1 := E.out.bb.c1
    rcases HASK.out.2 with h1 | h1
    · have t1 : decide ((60 : Int) < (n' : Int)) = false := decide_eq_false (by omega)
      have t3 : ¬ (60 : Int) < (n' : Int) := by omega
      clear h1
      go_wp2
      go_meet
      exact ⟨rfl, E.out⟩
    · have t1 : decide ((60 : Int) < (n' : Int)) = true := decide_eq_true (by omega)
      have t2 : decide ((n' : Int) < 126) = false := decide_eq_false (by omega)
      have t3 : (60 : Int) < (n' : Int) := by omega
      have t4 : ¬ (n' : Int) < 126 := by omega
      clear h1
      go_wp2
      go_meet
      exact ⟨rfl, E.out⟩
  case rest =>
    obtain ⟨rfl, hE⟩ := hcut
    clear E
    have E := Lib.hid hE
    clear hE
    have a0 := E.out.ba.c0
    have a1 := E.out.ba.c1
    have b0 := E.out.bb.c0
    have b1 := E.out.bb.c1
    go_wp2_with fail
    refine (HR.out _ E.out.ba.rd E.out.bb.rd).mono ?_
    rintro e w3 ⟨rfl, hb⟩
    replace E := Lib.hid (E.out.next hb)
    clear hb a0 a1 b0 b1
    have Xg3 := Lib.hid ((Nvr.new (is_zero8 w3)).alloc (.cells #[.bool false, .slice none 0 0] 24))
    have Yg3 := Lib.hid (Nvr.new ((is_zero8 w3).below (below_alloc w3 (.cells #[.bool false, .slice none 0 0] 24))))
    rw [World.size_alloc] at Yg3
    replace E := Lib.hid ((E.out.next (below_alloc _ (.cells #[.bool false, .slice none 0 0] 24))).next (below_alloc _ (.cells #[.bool false, .slice none 0 0] 24)))
    go_upto_region 4 with (fail)
    generalize (w3.alloc (.cells #[.bool false, .slice none 0 0] 24)).alloc (.cells #[.bool false, .slice none 0 0] 24) = W3 at E Xg3 Yg3 ⊢
    obtain ⟨g3, hg3⟩ : ∃ g, g = w3.heap.size := ⟨_, rfl⟩
    rw [← hg3] at Xg3 Yg3 ⊢
    clear hg3
    have a0 := E.out.ba.c0
    have a1 := E.out.ba.c1
    go_wp2_with fail
    refine (code_c E.out.ba.rd HN.out.1.1 HN.out.1.2).mono ?_
    rw [HC.out]
    rintro e w4 ⟨rfl, hb⟩
    replace E := Lib.hid (E.out.next hb)
    replace Xg3 := Lib.hid (Xg3.out.next hb)
    replace Yg3 := Lib.hid (Yg3.out.next hb)
    clear hb a0 a1
    have b0 := E.out.bb.c0
    have b1 := E.out.bb.c1
    go_wp2_with fail
    refine (refValid_c s' A' n' c' ys _ E.out.bb.rd).mono ?_
    rw [HV.out]
    rintro e W7 ⟨rfl, hb⟩
    replace E := Lib.hid (E.out.next hb)
    replace Xg3 := Lib.hid (Xg3.out.next hb)
    replace Yg3 := Lib.hid (Yg3.out.next hb)
    clear hb b0 b1
    go_upto_region 7 with (fail)
    refine wp_region_held_drew (S := (fun w' => w'.cell? ⟨w.heap.size + 1, 0, none⟩ = some (.bool s') ∧ w'.cell? ⟨w.heap.size + 1, 1, none⟩ = some (.slice A' n' c'))) (by kernel_rfl) ⟨cell_dr E.out.bb.c0, cell_dr E.out.bb.c1⟩ (fun hHeld => ?_)
    replace E := Lib.hid (E.out.next (Below.refl W7.heap.size W7).drew)
    replace Xg3 := Lib.hid (Xg3.out.next (Below.refl W7.heap.size W7).drew)
    replace Yg3 := Lib.hid (Yg3.out.next (Below.refl W7.heap.size W7).drew)
    generalize W7.drew = D2 at E Xg3 Yg3 hHeld ⊢
    refine take_on (i := 0) (d := (some 43)) (v := ?v22) rfl rfl (by kernel_rfl) (by kernel_rfl) (by kernel_rfl) (fun c a w h => h) (by rfl) ?h22 (by assumption) ?r22
    case h22 => intro w hSw; obtain ⟨h0, h1⟩ := hSw; go_simp; rfl
    simp only [Act.put, List.setIfInBounds_toArray, List.set_cons_zero, List.set_cons_succ]
    refine take_on (i := 1) (d := (some 44)) (v := ?v23) rfl rfl (by kernel_rfl) (by kernel_rfl) (by kernel_rfl) (fun c a w h => h) (by rfl) ?h23 (by assumption) ?r23
    case h23 => intro w hSw; obtain ⟨h0, h1⟩ := hSw; go_simp; rfl
    simp only [Act.put, List.setIfInBounds_toArray, List.set_cons_zero, List.set_cons_succ]
    refine take_on (i := 2) (d := (some 45)) (v := ?v24) rfl rfl (by kernel_rfl) (by kernel_rfl) (by kernel_rfl) (fun c a w h => h) (by rfl) ?h24 (by assumption) ?r24
    case h24 => intro w hSw; obtain ⟨h0, h1⟩ := hSw; go_simp; rfl
    simp only [Act.put, List.setIfInBounds_toArray, List.set_cons_zero, List.set_cons_succ]
    refine take_off (i := 3) (d := (some 46)) rfl rfl (by kernel_rfl) (by kernel_rfl) (by kernel_rfl) (fun c a w h => h) (by rfl) (by assumption) ?_
    simp only [Act.put, List.setIfInBounds_toArray, List.set_cons_zero, List.set_cons_succ]
    refine take_off (i := 4) (d := (some 47)) rfl rfl (by kernel_rfl) (by kernel_rfl) (by kernel_rfl) (fun c a w h => h) (by rfl) (by assumption) ?_
    simp only [Act.put, List.setIfInBounds_toArray, List.set_cons_zero, List.set_cons_succ]
    refine take_off (i := 5) (d := (some 48)) rfl rfl (by kernel_rfl) (by kernel_rfl) (by kernel_rfl) (fun c a w h => h) (by rfl) (by assumption) ?_
    simp only [Act.put, List.setIfInBounds_toArray, List.set_cons_zero, List.set_cons_succ]
    refine take_off (i := 6) (d := (some 49)) rfl rfl (by kernel_rfl) (by kernel_rfl) (by kernel_rfl) (fun c a w h => h) (by rfl) (by assumption) ?_
    simp only [Act.put, List.setIfInBounds_toArray, List.set_cons_zero, List.set_cons_succ]
    refine take_off (i := 7) (d := (some 50)) rfl rfl (by kernel_rfl) (by kernel_rfl) (by kernel_rfl) (fun c a w h => h) (by rfl) (by assumption) ?_
    simp only [Act.put, List.setIfInBounds_toArray, List.set_cons_zero, List.set_cons_succ]
    refine take_off (i := 8) (d := (some 51)) rfl rfl (by kernel_rfl) (by kernel_rfl) (by kernel_rfl) (fun c a w h => h) (by rfl) (by assumption) ?_
    simp only [Act.put, List.setIfInBounds_toArray, List.set_cons_zero, List.set_cons_succ]
    refine take_off (i := 9) (d := (some 52)) rfl rfl (by kernel_rfl) (by kernel_rfl) (by kernel_rfl) (fun c a w h => h) (by rfl) (by assumption) ?_
    simp only [Act.put, List.setIfInBounds_toArray, List.set_cons_zero, List.set_cons_succ]
    refine take_off (i := 10) (d := (some 53)) rfl rfl (by kernel_rfl) (by kernel_rfl) (by kernel_rfl) (fun c a w h => h) (by rfl) (by assumption) ?_
    simp only [Act.put, List.setIfInBounds_toArray, List.set_cons_zero, List.set_cons_succ]
    refine take_off (i := 11) (d := (some 54)) rfl rfl (by kernel_rfl) (by kernel_rfl) (by kernel_rfl) (fun c a w h => h) (by rfl) (by assumption) ?_
    simp only [Act.put, List.setIfInBounds_toArray, List.set_cons_zero, List.set_cons_succ]
    refine take_off (i := 12) (d := (some 55)) rfl rfl (by kernel_rfl) (by kernel_rfl) (by kernel_rfl) (fun c a w h => h) (by rfl) (by assumption) ?_
    simp only [Act.put, List.setIfInBounds_toArray, List.set_cons_zero, List.set_cons_succ]
    refine take_off (i := 13) (d := (some 56)) rfl rfl (by kernel_rfl) (by kernel_rfl) (by kernel_rfl) (fun c a w h => h) (by rfl) (by assumption) ?_
    simp only [Act.put, List.setIfInBounds_toArray, List.set_cons_zero, List.set_cons_succ]
    refine take_off (i := 14) (d := (some 57)) rfl rfl (by kernel_rfl) (by kernel_rfl) (by kernel_rfl) (fun c a w h => h) (by rfl) (by assumption) ?_
    simp only [Act.put, List.setIfInBounds_toArray, List.set_cons_zero, List.set_cons_succ]
    refine take_off (i := 15) (d := (some 58)) rfl rfl (by kernel_rfl) (by kernel_rfl) (by kernel_rfl) (fun c a w h => h) (by rfl) (by assumption) ?_
    simp only [Act.put, List.setIfInBounds_toArray, List.set_cons_zero, List.set_cons_succ]
    refine take_off (i := 16) (d := (some 59)) rfl rfl (by kernel_rfl) (by kernel_rfl) (by kernel_rfl) (fun c a w h => h) (by rfl) (by assumption) ?_
    simp only [Act.put, List.setIfInBounds_toArray, List.set_cons_zero, List.set_cons_succ]
    refine take_off (i := 17) (d := (some 60)) rfl rfl (by kernel_rfl) (by kernel_rfl) (by kernel_rfl) (fun c a w h => h) (by rfl) (by assumption) ?_
    simp only [Act.put, List.setIfInBounds_toArray, List.set_cons_zero, List.set_cons_succ]
    refine take_off (i := 18) (d := (some 61)) rfl rfl (by kernel_rfl) (by kernel_rfl) (by kernel_rfl) (fun c a w h => h) (by rfl) (by assumption) ?_
    simp only [Act.put, List.setIfInBounds_toArray, List.set_cons_zero, List.set_cons_succ]
    refine take_off (i := 19) (d := (some 62)) rfl rfl (by kernel_rfl) (by kernel_rfl) (by kernel_rfl) (fun c a w h => h) (by rfl) (by assumption) ?_
    simp only [Act.put, List.setIfInBounds_toArray, List.set_cons_zero, List.set_cons_succ]
    refine take_on (i := 20) (d := (some 63)) (v := ?v42) rfl rfl (by kernel_rfl) (by kernel_rfl) (by kernel_rfl) (fun c a w h => h) (by rfl) ?h42 (by assumption) ?r42
    case h42 => intro w hSw; obtain ⟨h0, h1⟩ := hSw; go_simp; rfl
    simp only [Act.put, List.setIfInBounds_toArray, List.set_cons_zero, List.set_cons_succ]
    clear hHeld
    refine wpAnyH_done (by kernel_rfl) ?_ _
    have x0 := Xg3.out.c0
    have x1 := Xg3.out.c1
    go_wp2_with fail
    refine (number_err k (by first | exact HK0.out | omega) _ _ _ _ _).mono ?_
    rintro e w10 ⟨rfl, hb⟩
    replace E := Lib.hid (E.out.next hb)
    replace Xg3 := Lib.hid (Xg3.out.next hb)
    replace Yg3 := Lib.hid (Yg3.out.next hb)
    clear hb x0 x1
    have y0 := Yg3.out.c0
    have y1 := Yg3.out.c1
    go_wp2_with fail
    refine (Zero_z Yg3.out.is).mono ?_
    rw [decide_eq_true (show (0 : Int) = 0 from rfl)]
    rintro e w11 ⟨rfl, hb⟩
    replace E := Lib.hid (E.out.next hb)
    replace Xg3 := Lib.hid (Xg3.out.next hb)
    replace Yg3 := Lib.hid (Yg3.out.next hb)
    clear hb y0 y1
    go_wp2_with fail
    refine (awake8_c _).mono ?_
    rintro e u9 ⟨rfl, b9⟩
    have P9 := Lib.hid (E.out.below.trans (b9.mono E.out.below.size))
    clear b9
    go_wp2
    go_ret
    exact ⟨rfl, P9.out⟩
set_option maxHeartbeats 16000000 in
theorem LucasRests_A (s : Bool) (A : Option Addr) (n c : Nat) (xs : List Nat) (s' : Bool) (A' : Option Addr) (n' c' : Nat) (ys : List Nat) (K : Int) (w : World) (h : Rd w A n xs) (hn : n ≤ c) (hc : c ≤ 9223372036854775807) (h' : Rd w A' n' ys) (hn' : n' ≤ c') (hc' : c' ≤ 9223372036854775807) (hask : RestsYes n n') (hR : ∀ W, Rd W A n xs → Rd W A' n' ys → Calls Try.prog 22 #[.agg #[.bool s, .slice A n c], .int .i64 K, .agg #[.bool s', .slice A' n' c']] W (RestsZ 2 W)) (hv : codeV s xs true = 0) (hvy : validB s' ys = true) (hK0 : K < 0) :
    Calls Try.prog 4 #[.agg #[.bool s, .slice A n c], .int .i64 K, .agg #[.bool s', .slice A' n' c']] w (IsB true w) := by
  have E := Lib.hid (Rb2.start (s := s) (c := c) (s' := s') (c' := c') h h')
  have HN := Lib.hid (And.intro (And.intro hn hc) (And.intro hn' hc'))
  clear h h' hn hc hn' hc'
  have HASK := Lib.hid hask
  clear hask
  have HR := Lib.hid hR
  have HC := Lib.hid hv
  have HV := Lib.hid hvy
  have HK0 := Lib.hid (show (2 : Int) ≠ 0 by omega)
  clear hR hv hvy
  have HI := Lib.hid (fun (W : World) (r : Rd W A' n' ys) => raw_iv (s := s') (c := c') r HV.out HN.out.2.1 HN.out.2.2)
  obtain ⟨bl, hbl⟩ : ∃ bl, bl = blen (sgn s' (val ys)).natAbs := ⟨_, rfl⟩
  have HBL := Lib.hid hbl
  have d0 : decide (K < 0) = true := decide_eq_true hK0
  clear hbl
  go_enter Try.func4, Try.ntmps4
  go_upto_region 1 with (fail)
  generalize (w.alloc (.cells #[.bool s, .slice A n c] 24)).alloc (.cells #[.bool s', .slice A' n' c'] 24) = W0 at E ⊢
  go_cut [28] (fun v W => v = .bool false ∧ Rb2 w W s A n c xs s' A' n' c' ys)
  case first =>
    have a0 := E.out.ba.c0
    have a1 := E.out.ba.c1
    have b0 := E.out.bb.c0
    have b1 := E.out.bb.c1
    go_wp2_with fail
    have hb := below_alloc W0 (.cells #[.bool s, .slice A n c] 24)
    refine (short1s_c 60 _ A n c _ (by go_simp)).mono ?_
    rintro e w1 ⟨rfl, hb1⟩
    replace E := Lib.hid ((E.out.next hb).next hb1)
    clear hb hb1 a0 a1 b0 b1
    rw [decide_eq_true HASK.out.1]
    have b0 := E.out.bb.c0
    have b1 := E.out.bb.c1
    rcases HASK.out.2 with h1 | h1
    · have t1 : decide ((60 : Int) < (n' : Int)) = false := decide_eq_false (by omega)
      have t3 : ¬ (60 : Int) < (n' : Int) := by omega
      clear h1
      go_wp2
      go_meet
      exact ⟨rfl, E.out⟩
    · have t1 : decide ((60 : Int) < (n' : Int)) = true := decide_eq_true (by omega)
      have t2 : decide ((n' : Int) < 126) = false := decide_eq_false (by omega)
      have t3 : (60 : Int) < (n' : Int) := by omega
      have t4 : ¬ (n' : Int) < 126 := by omega
      clear h1
      go_wp2
      go_meet
      exact ⟨rfl, E.out⟩
  case rest =>
    obtain ⟨rfl, hE⟩ := hcut
    clear E
    have E := Lib.hid hE
    clear hE
    have a0 := E.out.ba.c0
    have a1 := E.out.ba.c1
    have b0 := E.out.bb.c0
    have b1 := E.out.bb.c1
    go_wp2_with fail
    refine (HR.out _ E.out.ba.rd E.out.bb.rd).mono ?_
    rintro e w3 ⟨rfl, hb⟩
    replace E := Lib.hid (E.out.next hb)
    clear hb a0 a1 b0 b1
    have Xg3 := Lib.hid ((Nvr.new (is_zero8 w3)).alloc (.cells #[.bool false, .slice none 0 0] 24))
    have Yg3 := Lib.hid (Nvr.new ((is_zero8 w3).below (below_alloc w3 (.cells #[.bool false, .slice none 0 0] 24))))
    rw [World.size_alloc] at Yg3
    replace E := Lib.hid ((E.out.next (below_alloc _ (.cells #[.bool false, .slice none 0 0] 24))).next (below_alloc _ (.cells #[.bool false, .slice none 0 0] 24)))
    go_upto_region 4 with (fail)
    generalize (w3.alloc (.cells #[.bool false, .slice none 0 0] 24)).alloc (.cells #[.bool false, .slice none 0 0] 24) = W3 at E Xg3 Yg3 ⊢
    obtain ⟨g3, hg3⟩ : ∃ g, g = w3.heap.size := ⟨_, rfl⟩
    rw [← hg3] at Xg3 Yg3 ⊢
    clear hg3
    have a0 := E.out.ba.c0
    have a1 := E.out.ba.c1
    go_wp2_with fail
    refine (code_c E.out.ba.rd HN.out.1.1 HN.out.1.2).mono ?_
    rw [HC.out]
    rintro e w4 ⟨rfl, hb⟩
    replace E := Lib.hid (E.out.next hb)
    replace Xg3 := Lib.hid (Xg3.out.next hb)
    replace Yg3 := Lib.hid (Yg3.out.next hb)
    clear hb a0 a1
    have b0 := E.out.bb.c0
    have b1 := E.out.bb.c1
    go_wp2_with fail
    refine (refValid_c s' A' n' c' ys _ E.out.bb.rd).mono ?_
    rw [HV.out]
    rintro e W7 ⟨rfl, hb⟩
    replace E := Lib.hid (E.out.next hb)
    replace Xg3 := Lib.hid (Xg3.out.next hb)
    replace Yg3 := Lib.hid (Yg3.out.next hb)
    clear hb b0 b1
    go_upto_region 7 with (fail)
    refine wp_region_held_drew (S := (fun w' => w'.cell? ⟨w.heap.size + 1, 0, none⟩ = some (.bool s') ∧ w'.cell? ⟨w.heap.size + 1, 1, none⟩ = some (.slice A' n' c'))) (by kernel_rfl) ⟨cell_dr E.out.bb.c0, cell_dr E.out.bb.c1⟩ (fun hHeld => ?_)
    replace E := Lib.hid (E.out.next (Below.refl W7.heap.size W7).drew)
    replace Xg3 := Lib.hid (Xg3.out.next (Below.refl W7.heap.size W7).drew)
    replace Yg3 := Lib.hid (Yg3.out.next (Below.refl W7.heap.size W7).drew)
    generalize W7.drew = D3 at E Xg3 Yg3 hHeld ⊢
    refine take_on (i := 0) (d := (some 43)) (v := ?v43) rfl rfl (by kernel_rfl) (by kernel_rfl) (by kernel_rfl) (fun c a w h => h) (by rfl) ?h43 (by assumption) ?r43
    case h43 => intro w hSw; obtain ⟨h0, h1⟩ := hSw; go_simp; rfl
    simp only [Act.put, List.setIfInBounds_toArray, List.set_cons_zero, List.set_cons_succ]
    refine take_on (i := 1) (d := (some 44)) (v := ?v44) rfl rfl (by kernel_rfl) (by kernel_rfl) (by kernel_rfl) (fun c a w h => h) (by rfl) ?h44 (by assumption) ?r44
    case h44 => intro w hSw; obtain ⟨h0, h1⟩ := hSw; go_simp; rfl
    simp only [Act.put, List.setIfInBounds_toArray, List.set_cons_zero, List.set_cons_succ]
    refine take_on (i := 2) (d := (some 45)) (v := ?v45) rfl rfl (by kernel_rfl) (by kernel_rfl) (by kernel_rfl) (fun c a w h => h) (by rfl) ?h45 (by assumption) ?r45
    case h45 => intro w hSw; obtain ⟨h0, h1⟩ := hSw; go_simp; rfl
    simp only [Act.put, List.setIfInBounds_toArray, List.set_cons_zero, List.set_cons_succ]
    refine take_on (i := 3) (d := (some 46)) (v := ?v46) rfl rfl (by kernel_rfl) (by kernel_rfl) (by kernel_rfl) (fun c a w h => h) (by rfl) ?h46 (by assumption) ?r46
    case h46 => intro w hSw; obtain ⟨h0, h1⟩ := hSw; go_simp; rfl
    simp only [Act.put, List.setIfInBounds_toArray, List.set_cons_zero, List.set_cons_succ]
    refine take_on (i := 4) (d := (some 47)) (v := ?v47) rfl rfl (by kernel_rfl) (by kernel_rfl) (by kernel_rfl) (fun c a w h => h) (by rfl) ?h47 (by assumption) ?r47
    case h47 => intro w hSw; obtain ⟨h0, h1⟩ := hSw; go_simp; rfl
    simp only [Act.put, List.setIfInBounds_toArray, List.set_cons_zero, List.set_cons_succ]
    refine take_on (i := 5) (d := (some 48)) (v := ?v48) rfl rfl (by kernel_rfl) (by kernel_rfl) (by kernel_rfl) (fun c a w h => h) (by rfl) ?h48 (by assumption) ?r48
    case h48 => intro w hSw; obtain ⟨h0, h1⟩ := hSw; go_simp; rfl
    simp only [Act.put, List.setIfInBounds_toArray, List.set_cons_zero, List.set_cons_succ]
    refine take_off (i := 6) (d := (some 49)) rfl rfl (by kernel_rfl) (by kernel_rfl) (by kernel_rfl) (fun c a w h => h) (by rfl) (by assumption) ?_
    simp only [Act.put, List.setIfInBounds_toArray, List.set_cons_zero, List.set_cons_succ]
    refine take_off (i := 7) (d := (some 50)) rfl rfl (by kernel_rfl) (by kernel_rfl) (by kernel_rfl) (fun c a w h => h) (by rfl) (by assumption) ?_
    simp only [Act.put, List.setIfInBounds_toArray, List.set_cons_zero, List.set_cons_succ]
    refine take_on (i := 8) (d := (some 51)) (v := ?v51) rfl rfl (by kernel_rfl) (by kernel_rfl) (by kernel_rfl) (fun c a w h => h) (by rfl) ?h51 (by assumption) ?r51
    case h51 => intro w hSw; obtain ⟨h0, h1⟩ := hSw; go_simp; rfl
    simp only [Act.put, List.setIfInBounds_toArray, List.set_cons_zero, List.set_cons_succ]
    refine take_on (i := 9) (d := (some 52)) (v := ?v52) rfl rfl (by kernel_rfl) (by kernel_rfl) (by kernel_rfl) (fun c a w h => h) (by rfl) ?h52 (by assumption) ?r52
    case h52 => intro w hSw; obtain ⟨h0, h1⟩ := hSw; go_simp; rfl
    simp only [Act.put, List.setIfInBounds_toArray, List.set_cons_zero, List.set_cons_succ]
    refine take_off (i := 10) (d := (some 53)) rfl rfl (by kernel_rfl) (by kernel_rfl) (by kernel_rfl) (fun c a w h => h) (by rfl) (by assumption) ?_
    simp only [Act.put, List.setIfInBounds_toArray, List.set_cons_zero, List.set_cons_succ]
    refine take_off (i := 11) (d := (some 54)) rfl rfl (by kernel_rfl) (by kernel_rfl) (by kernel_rfl) (fun c a w h => h) (by rfl) (by assumption) ?_
    simp only [Act.put, List.setIfInBounds_toArray, List.set_cons_zero, List.set_cons_succ]
    refine take_off (i := 12) (d := (some 55)) rfl rfl (by kernel_rfl) (by kernel_rfl) (by kernel_rfl) (fun c a w h => h) (by rfl) (by assumption) ?_
    simp only [Act.put, List.setIfInBounds_toArray, List.set_cons_zero, List.set_cons_succ]
    refine take_off (i := 13) (d := (some 56)) rfl rfl (by kernel_rfl) (by kernel_rfl) (by kernel_rfl) (fun c a w h => h) (by rfl) (by assumption) ?_
    simp only [Act.put, List.setIfInBounds_toArray, List.set_cons_zero, List.set_cons_succ]
    refine take_on (i := 14) (d := (some 57)) (v := ?v57) rfl rfl (by kernel_rfl) (by kernel_rfl) (by kernel_rfl) (fun c a w h => h) (by rfl) ?h57 (by assumption) ?r57
    case h57 => intro w hSw; obtain ⟨h0, h1⟩ := hSw; go_simp; rfl
    simp only [Act.put, List.setIfInBounds_toArray, List.set_cons_zero, List.set_cons_succ]
    refine take_on (i := 15) (d := (some 58)) (v := ?v58) rfl rfl (by kernel_rfl) (by kernel_rfl) (by kernel_rfl) (fun c a w h => h) (by rfl) ?h58 (by assumption) ?r58
    case h58 => intro w hSw; obtain ⟨h0, h1⟩ := hSw; go_simp; rfl
    simp only [Act.put, List.setIfInBounds_toArray, List.set_cons_zero, List.set_cons_succ]
    refine take_off (i := 16) (d := (some 59)) rfl rfl (by kernel_rfl) (by kernel_rfl) (by kernel_rfl) (fun c a w h => h) (by rfl) (by assumption) ?_
    simp only [Act.put, List.setIfInBounds_toArray, List.set_cons_zero, List.set_cons_succ]
    refine take_off (i := 17) (d := (some 60)) rfl rfl (by kernel_rfl) (by kernel_rfl) (by kernel_rfl) (fun c a w h => h) (by rfl) (by assumption) ?_
    simp only [Act.put, List.setIfInBounds_toArray, List.set_cons_zero, List.set_cons_succ]
    refine take_off (i := 18) (d := (some 61)) rfl rfl (by kernel_rfl) (by kernel_rfl) (by kernel_rfl) (fun c a w h => h) (by rfl) (by assumption) ?_
    simp only [Act.put, List.setIfInBounds_toArray, List.set_cons_zero, List.set_cons_succ]
    refine take_on (i := 19) (d := (some 62)) (v := ?v62) rfl rfl (by kernel_rfl) (by kernel_rfl) (by kernel_rfl) (fun c a w h => h) (by rfl) ?h62 (by assumption) ?r62
    case h62 => intro w hSw; obtain ⟨h0, h1⟩ := hSw; go_simp; rfl
    simp only [Act.put, List.setIfInBounds_toArray, List.set_cons_zero, List.set_cons_succ]
    refine take_on (i := 20) (d := (some 63)) (v := ?v63) rfl rfl (by kernel_rfl) (by kernel_rfl) (by kernel_rfl) (fun c a w h => h) (by rfl) ?h63 (by assumption) ?r63
    case h63 => intro w hSw; obtain ⟨h0, h1⟩ := hSw; go_simp; rfl
    simp only [Act.put, List.setIfInBounds_toArray, List.set_cons_zero, List.set_cons_succ]
    clear hHeld
    refine wpAnyH_done (by kernel_rfl) ?_ _
    have x0 := Xg3.out.c0
    have x1 := Xg3.out.c1
    go_wp2_with fail
    refine (number_err 2 (by first | exact HK0.out | omega) _ _ _ _ _).mono ?_
    rintro e w10 ⟨rfl, hb⟩
    replace E := Lib.hid (E.out.next hb)
    replace Xg3 := Lib.hid (Xg3.out.next hb)
    replace Yg3 := Lib.hid (Yg3.out.next hb)
    clear hb x0 x1
    have y0 := Yg3.out.c0
    have y1 := Yg3.out.c1
    go_wp2_with fail
    refine (Zero_z Yg3.out.is).mono ?_
    rw [decide_eq_true (show (0 : Int) = 0 from rfl)]
    rintro e w11 ⟨rfl, hb⟩
    replace E := Lib.hid (E.out.next hb)
    replace Xg3 := Lib.hid (Xg3.out.next hb)
    replace Yg3 := Lib.hid (Yg3.out.next hb)
    clear hb y0 y1
    go_wp2_with fail
    refine (awake8_c _).mono ?_
    rintro e u9 ⟨rfl, b9⟩
    have P9 := Lib.hid (E.out.below.trans (b9.mono E.out.below.size))
    clear b9
    go_wp2
    go_ret
    exact ⟨rfl, P9.out⟩
set_option maxHeartbeats 16000000 in
theorem LucasRests_B (s : Bool) (A : Option Addr) (n c : Nat) (xs : List Nat) (s' : Bool) (A' : Option Addr) (n' c' : Nat) (ys : List Nat) (K : Int) (w : World) (h : Rd w A n xs) (hn : n ≤ c) (hc : c ≤ 9223372036854775807) (h' : Rd w A' n' ys) (hn' : n' ≤ c') (hc' : c' ≤ 9223372036854775807) (hask : RestsYes n n') (hR : ∀ W, Rd W A n xs → Rd W A' n' ys → Calls Try.prog 22 #[.agg #[.bool s, .slice A n c], .int .i64 K, .agg #[.bool s', .slice A' n' c']] W (RestsZ 2 W)) (hv : codeV s xs true = 0) (hvy : validB s' ys = true) (hK0 : ¬ K < 0) (hK1 : 1152921504606846976 < K) :
    Calls Try.prog 4 #[.agg #[.bool s, .slice A n c], .int .i64 K, .agg #[.bool s', .slice A' n' c']] w (IsB true w) := by
  have E := Lib.hid (Rb2.start (s := s) (c := c) (s' := s') (c' := c') h h')
  have HN := Lib.hid (And.intro (And.intro hn hc) (And.intro hn' hc'))
  clear h h' hn hc hn' hc'
  have HASK := Lib.hid hask
  clear hask
  have HR := Lib.hid hR
  have HC := Lib.hid hv
  have HV := Lib.hid hvy
  have HK0 := Lib.hid (show (2 : Int) ≠ 0 by omega)
  clear hR hv hvy
  have HI := Lib.hid (fun (W : World) (r : Rd W A' n' ys) => raw_iv (s := s') (c := c') r HV.out HN.out.2.1 HN.out.2.2)
  obtain ⟨bl, hbl⟩ : ∃ bl, bl = blen (sgn s' (val ys)).natAbs := ⟨_, rfl⟩
  have HBL := Lib.hid hbl
  have d0 : decide (K < 0) = false := decide_eq_false hK0
  have d1 : decide (1152921504606846976 < K) = true := decide_eq_true hK1
  clear hbl
  go_enter Try.func4, Try.ntmps4
  go_upto_region 1 with (fail)
  generalize (w.alloc (.cells #[.bool s, .slice A n c] 24)).alloc (.cells #[.bool s', .slice A' n' c'] 24) = W0 at E ⊢
  go_cut [28] (fun v W => v = .bool false ∧ Rb2 w W s A n c xs s' A' n' c' ys)
  case first =>
    have a0 := E.out.ba.c0
    have a1 := E.out.ba.c1
    have b0 := E.out.bb.c0
    have b1 := E.out.bb.c1
    go_wp2_with fail
    have hb := below_alloc W0 (.cells #[.bool s, .slice A n c] 24)
    refine (short1s_c 60 _ A n c _ (by go_simp)).mono ?_
    rintro e w1 ⟨rfl, hb1⟩
    replace E := Lib.hid ((E.out.next hb).next hb1)
    clear hb hb1 a0 a1 b0 b1
    rw [decide_eq_true HASK.out.1]
    have b0 := E.out.bb.c0
    have b1 := E.out.bb.c1
    rcases HASK.out.2 with h1 | h1
    · have t1 : decide ((60 : Int) < (n' : Int)) = false := decide_eq_false (by omega)
      have t3 : ¬ (60 : Int) < (n' : Int) := by omega
      clear h1
      go_wp2
      go_meet
      exact ⟨rfl, E.out⟩
    · have t1 : decide ((60 : Int) < (n' : Int)) = true := decide_eq_true (by omega)
      have t2 : decide ((n' : Int) < 126) = false := decide_eq_false (by omega)
      have t3 : (60 : Int) < (n' : Int) := by omega
      have t4 : ¬ (n' : Int) < 126 := by omega
      clear h1
      go_wp2
      go_meet
      exact ⟨rfl, E.out⟩
  case rest =>
    obtain ⟨rfl, hE⟩ := hcut
    clear E
    have E := Lib.hid hE
    clear hE
    have a0 := E.out.ba.c0
    have a1 := E.out.ba.c1
    have b0 := E.out.bb.c0
    have b1 := E.out.bb.c1
    go_wp2_with fail
    refine (HR.out _ E.out.ba.rd E.out.bb.rd).mono ?_
    rintro e w3 ⟨rfl, hb⟩
    replace E := Lib.hid (E.out.next hb)
    clear hb a0 a1 b0 b1
    have Xg3 := Lib.hid ((Nvr.new (is_zero8 w3)).alloc (.cells #[.bool false, .slice none 0 0] 24))
    have Yg3 := Lib.hid (Nvr.new ((is_zero8 w3).below (below_alloc w3 (.cells #[.bool false, .slice none 0 0] 24))))
    rw [World.size_alloc] at Yg3
    replace E := Lib.hid ((E.out.next (below_alloc _ (.cells #[.bool false, .slice none 0 0] 24))).next (below_alloc _ (.cells #[.bool false, .slice none 0 0] 24)))
    go_upto_region 4 with (fail)
    generalize (w3.alloc (.cells #[.bool false, .slice none 0 0] 24)).alloc (.cells #[.bool false, .slice none 0 0] 24) = W3 at E Xg3 Yg3 ⊢
    obtain ⟨g3, hg3⟩ : ∃ g, g = w3.heap.size := ⟨_, rfl⟩
    rw [← hg3] at Xg3 Yg3 ⊢
    clear hg3
    have a0 := E.out.ba.c0
    have a1 := E.out.ba.c1
    go_wp2_with fail
    refine (code_c E.out.ba.rd HN.out.1.1 HN.out.1.2).mono ?_
    rw [HC.out]
    rintro e w4 ⟨rfl, hb⟩
    replace E := Lib.hid (E.out.next hb)
    replace Xg3 := Lib.hid (Xg3.out.next hb)
    replace Yg3 := Lib.hid (Yg3.out.next hb)
    clear hb a0 a1
    have b0 := E.out.bb.c0
    have b1 := E.out.bb.c1
    go_wp2_with fail
    refine (refValid_c s' A' n' c' ys _ E.out.bb.rd).mono ?_
    rw [HV.out]
    rintro e W7 ⟨rfl, hb⟩
    replace E := Lib.hid (E.out.next hb)
    replace Xg3 := Lib.hid (Xg3.out.next hb)
    replace Yg3 := Lib.hid (Yg3.out.next hb)
    clear hb b0 b1
    go_upto_region 7 with (fail)
    refine wp_region_held_drew (S := (fun w' => w'.cell? ⟨w.heap.size + 1, 0, none⟩ = some (.bool s') ∧ w'.cell? ⟨w.heap.size + 1, 1, none⟩ = some (.slice A' n' c'))) (by kernel_rfl) ⟨cell_dr E.out.bb.c0, cell_dr E.out.bb.c1⟩ (fun hHeld => ?_)
    replace E := Lib.hid (E.out.next (Below.refl W7.heap.size W7).drew)
    replace Xg3 := Lib.hid (Xg3.out.next (Below.refl W7.heap.size W7).drew)
    replace Yg3 := Lib.hid (Yg3.out.next (Below.refl W7.heap.size W7).drew)
    generalize W7.drew = D4 at E Xg3 Yg3 hHeld ⊢
    refine take_on (i := 0) (d := (some 43)) (v := ?v64) rfl rfl (by kernel_rfl) (by kernel_rfl) (by kernel_rfl) (fun c a w h => h) (by rfl) ?h64 (by assumption) ?r64
    case h64 => intro w hSw; obtain ⟨h0, h1⟩ := hSw; go_simp; rfl
    simp only [Act.put, List.setIfInBounds_toArray, List.set_cons_zero, List.set_cons_succ]
    refine take_on (i := 1) (d := (some 44)) (v := ?v65) rfl rfl (by kernel_rfl) (by kernel_rfl) (by kernel_rfl) (fun c a w h => h) (by rfl) ?h65 (by assumption) ?r65
    case h65 => intro w hSw; obtain ⟨h0, h1⟩ := hSw; go_simp; rfl
    simp only [Act.put, List.setIfInBounds_toArray, List.set_cons_zero, List.set_cons_succ]
    refine take_on (i := 2) (d := (some 45)) (v := ?v66) rfl rfl (by kernel_rfl) (by kernel_rfl) (by kernel_rfl) (fun c a w h => h) (by rfl) ?h66 (by assumption) ?r66
    case h66 => intro w hSw; obtain ⟨h0, h1⟩ := hSw; go_simp; rfl
    simp only [Act.put, List.setIfInBounds_toArray, List.set_cons_zero, List.set_cons_succ]
    refine take_on (i := 3) (d := (some 46)) (v := ?v67) rfl rfl (by kernel_rfl) (by kernel_rfl) (by kernel_rfl) (fun c a w h => h) (by rfl) ?h67 (by assumption) ?r67
    case h67 => intro w hSw; obtain ⟨h0, h1⟩ := hSw; go_simp; rfl
    simp only [Act.put, List.setIfInBounds_toArray, List.set_cons_zero, List.set_cons_succ]
    refine take_on (i := 4) (d := (some 47)) (v := ?v68) rfl rfl (by kernel_rfl) (by kernel_rfl) (by kernel_rfl) (fun c a w h => h) (by rfl) ?h68 (by assumption) ?r68
    case h68 => intro w hSw; obtain ⟨h0, h1⟩ := hSw; go_simp; rfl
    simp only [Act.put, List.setIfInBounds_toArray, List.set_cons_zero, List.set_cons_succ]
    refine take_on (i := 5) (d := (some 48)) (v := ?v69) rfl rfl (by kernel_rfl) (by kernel_rfl) (by kernel_rfl) (fun c a w h => h) (by rfl) ?h69 (by assumption) ?r69
    case h69 => intro w hSw; obtain ⟨h0, h1⟩ := hSw; go_simp; rfl
    simp only [Act.put, List.setIfInBounds_toArray, List.set_cons_zero, List.set_cons_succ]
    refine take_on (i := 6) (d := (some 49)) (v := ?v70) rfl rfl (by kernel_rfl) (by kernel_rfl) (by kernel_rfl) (fun c a w h => h) (by rfl) ?h70 (by assumption) ?r70
    case h70 => intro w hSw; obtain ⟨h0, h1⟩ := hSw; go_simp; rfl
    simp only [Act.put, List.setIfInBounds_toArray, List.set_cons_zero, List.set_cons_succ]
    refine take_on (i := 7) (d := (some 50)) (v := ?v71) rfl rfl (by kernel_rfl) (by kernel_rfl) (by kernel_rfl) (fun c a w h => h) (by rfl) ?h71 (by assumption) ?r71
    case h71 => intro w hSw; obtain ⟨h0, h1⟩ := hSw; go_simp; rfl
    simp only [Act.put, List.setIfInBounds_toArray, List.set_cons_zero, List.set_cons_succ]
    refine take_on (i := 8) (d := (some 51)) (v := ?v72) rfl rfl (by kernel_rfl) (by kernel_rfl) (by kernel_rfl) (fun c a w h => h) (by rfl) ?h72 (by assumption) ?r72
    case h72 => intro w hSw; obtain ⟨h0, h1⟩ := hSw; go_simp; rfl
    simp only [Act.put, List.setIfInBounds_toArray, List.set_cons_zero, List.set_cons_succ]
    refine take_on (i := 9) (d := (some 52)) (v := ?v73) rfl rfl (by kernel_rfl) (by kernel_rfl) (by kernel_rfl) (fun c a w h => h) (by rfl) ?h73 (by assumption) ?r73
    case h73 => intro w hSw; obtain ⟨h0, h1⟩ := hSw; go_simp; rfl
    simp only [Act.put, List.setIfInBounds_toArray, List.set_cons_zero, List.set_cons_succ]
    refine take_off (i := 10) (d := (some 53)) rfl rfl (by kernel_rfl) (by kernel_rfl) (by kernel_rfl) (fun c a w h => h) (by rfl) (by assumption) ?_
    simp only [Act.put, List.setIfInBounds_toArray, List.set_cons_zero, List.set_cons_succ]
    refine take_off (i := 11) (d := (some 54)) rfl rfl (by kernel_rfl) (by kernel_rfl) (by kernel_rfl) (fun c a w h => h) (by rfl) (by assumption) ?_
    simp only [Act.put, List.setIfInBounds_toArray, List.set_cons_zero, List.set_cons_succ]
    refine take_off (i := 12) (d := (some 55)) rfl rfl (by kernel_rfl) (by kernel_rfl) (by kernel_rfl) (fun c a w h => h) (by rfl) (by assumption) ?_
    simp only [Act.put, List.setIfInBounds_toArray, List.set_cons_zero, List.set_cons_succ]
    refine take_off (i := 13) (d := (some 56)) rfl rfl (by kernel_rfl) (by kernel_rfl) (by kernel_rfl) (fun c a w h => h) (by rfl) (by assumption) ?_
    simp only [Act.put, List.setIfInBounds_toArray, List.set_cons_zero, List.set_cons_succ]
    refine take_on (i := 14) (d := (some 57)) (v := ?v78) rfl rfl (by kernel_rfl) (by kernel_rfl) (by kernel_rfl) (fun c a w h => h) (by rfl) ?h78 (by assumption) ?r78
    case h78 => intro w hSw; obtain ⟨h0, h1⟩ := hSw; go_simp; rfl
    simp only [Act.put, List.setIfInBounds_toArray, List.set_cons_zero, List.set_cons_succ]
    refine take_on (i := 15) (d := (some 58)) (v := ?v79) rfl rfl (by kernel_rfl) (by kernel_rfl) (by kernel_rfl) (fun c a w h => h) (by rfl) ?h79 (by assumption) ?r79
    case h79 => intro w hSw; obtain ⟨h0, h1⟩ := hSw; go_simp; rfl
    simp only [Act.put, List.setIfInBounds_toArray, List.set_cons_zero, List.set_cons_succ]
    refine take_off (i := 16) (d := (some 59)) rfl rfl (by kernel_rfl) (by kernel_rfl) (by kernel_rfl) (fun c a w h => h) (by rfl) (by assumption) ?_
    simp only [Act.put, List.setIfInBounds_toArray, List.set_cons_zero, List.set_cons_succ]
    refine take_off (i := 17) (d := (some 60)) rfl rfl (by kernel_rfl) (by kernel_rfl) (by kernel_rfl) (fun c a w h => h) (by rfl) (by assumption) ?_
    simp only [Act.put, List.setIfInBounds_toArray, List.set_cons_zero, List.set_cons_succ]
    refine take_off (i := 18) (d := (some 61)) rfl rfl (by kernel_rfl) (by kernel_rfl) (by kernel_rfl) (fun c a w h => h) (by rfl) (by assumption) ?_
    simp only [Act.put, List.setIfInBounds_toArray, List.set_cons_zero, List.set_cons_succ]
    refine take_on (i := 19) (d := (some 62)) (v := ?v83) rfl rfl (by kernel_rfl) (by kernel_rfl) (by kernel_rfl) (fun c a w h => h) (by rfl) ?h83 (by assumption) ?r83
    case h83 => intro w hSw; obtain ⟨h0, h1⟩ := hSw; go_simp; rfl
    simp only [Act.put, List.setIfInBounds_toArray, List.set_cons_zero, List.set_cons_succ]
    refine take_on (i := 20) (d := (some 63)) (v := ?v84) rfl rfl (by kernel_rfl) (by kernel_rfl) (by kernel_rfl) (fun c a w h => h) (by rfl) ?h84 (by assumption) ?r84
    case h84 => intro w hSw; obtain ⟨h0, h1⟩ := hSw; go_simp; rfl
    simp only [Act.put, List.setIfInBounds_toArray, List.set_cons_zero, List.set_cons_succ]
    clear hHeld
    refine wpAnyH_done (by kernel_rfl) ?_ _
    have x0 := Xg3.out.c0
    have x1 := Xg3.out.c1
    go_wp2_with fail
    refine (number_err 2 (by first | exact HK0.out | omega) _ _ _ _ _).mono ?_
    rintro e w10 ⟨rfl, hb⟩
    replace E := Lib.hid (E.out.next hb)
    replace Xg3 := Lib.hid (Xg3.out.next hb)
    replace Yg3 := Lib.hid (Yg3.out.next hb)
    clear hb x0 x1
    have y0 := Yg3.out.c0
    have y1 := Yg3.out.c1
    go_wp2_with fail
    refine (Zero_z Yg3.out.is).mono ?_
    rw [decide_eq_true (show (0 : Int) = 0 from rfl)]
    rintro e w11 ⟨rfl, hb⟩
    replace E := Lib.hid (E.out.next hb)
    replace Xg3 := Lib.hid (Xg3.out.next hb)
    replace Yg3 := Lib.hid (Yg3.out.next hb)
    clear hb y0 y1
    go_wp2_with fail
    refine (awake8_c _).mono ?_
    rintro e u9 ⟨rfl, b9⟩
    have P9 := Lib.hid (E.out.below.trans (b9.mono E.out.below.size))
    clear b9
    go_wp2
    go_ret
    exact ⟨rfl, P9.out⟩
set_option maxHeartbeats 16000000 in
theorem LucasRests_C (s : Bool) (A : Option Addr) (n c : Nat) (xs : List Nat) (s' : Bool) (A' : Option Addr) (n' c' : Nat) (ys : List Nat) (K : Int) (w : World) (h : Rd w A n xs) (hn : n ≤ c) (hc : c ≤ 9223372036854775807) (h' : Rd w A' n' ys) (hn' : n' ≤ c') (hc' : c' ≤ 9223372036854775807) (hask : RestsYes n n') (hR : ∀ W, Rd W A n xs → Rd W A' n' ys → Calls Try.prog 22 #[.agg #[.bool s, .slice A n c], .int .i64 K, .agg #[.bool s', .slice A' n' c']] W (RestsZ 2 W)) (hv : codeV s xs true = 0) (hvy : validB s' ys = true) (hK0 : ¬ K < 0) (hK1 : ¬ 1152921504606846976 < K) (hm : sgn s' (val ys) < 1) :
    Calls Try.prog 4 #[.agg #[.bool s, .slice A n c], .int .i64 K, .agg #[.bool s', .slice A' n' c']] w (IsB true w) := by
  have E := Lib.hid (Rb2.start (s := s) (c := c) (s' := s') (c' := c') h h')
  have HN := Lib.hid (And.intro (And.intro hn hc) (And.intro hn' hc'))
  clear h h' hn hc hn' hc'
  have HASK := Lib.hid hask
  clear hask
  have HR := Lib.hid hR
  have HC := Lib.hid hv
  have HV := Lib.hid hvy
  have HK0 := Lib.hid (show (2 : Int) ≠ 0 by omega)
  clear hR hv hvy
  have HI := Lib.hid (fun (W : World) (r : Rd W A' n' ys) => raw_iv (s := s') (c := c') r HV.out HN.out.2.1 HN.out.2.2)
  obtain ⟨bl, hbl⟩ : ∃ bl, bl = blen (sgn s' (val ys)).natAbs := ⟨_, rfl⟩
  have HBL := Lib.hid hbl
  have d0 : decide (K < 0) = false := decide_eq_false hK0
  have d1 : decide (1152921504606846976 < K) = false := decide_eq_false hK1
  have HO := Lib.hid (show ord (sgn s' (val ys)) 1 = -1 from ord_lt hm)
  clear hbl hm
  go_enter Try.func4, Try.ntmps4
  go_upto_region 1 with (fail)
  generalize (w.alloc (.cells #[.bool s, .slice A n c] 24)).alloc (.cells #[.bool s', .slice A' n' c'] 24) = W0 at E ⊢
  go_cut [28] (fun v W => v = .bool false ∧ Rb2 w W s A n c xs s' A' n' c' ys)
  case first =>
    have a0 := E.out.ba.c0
    have a1 := E.out.ba.c1
    have b0 := E.out.bb.c0
    have b1 := E.out.bb.c1
    go_wp2_with fail
    have hb := below_alloc W0 (.cells #[.bool s, .slice A n c] 24)
    refine (short1s_c 60 _ A n c _ (by go_simp)).mono ?_
    rintro e w1 ⟨rfl, hb1⟩
    replace E := Lib.hid ((E.out.next hb).next hb1)
    clear hb hb1 a0 a1 b0 b1
    rw [decide_eq_true HASK.out.1]
    have b0 := E.out.bb.c0
    have b1 := E.out.bb.c1
    rcases HASK.out.2 with h1 | h1
    · have t1 : decide ((60 : Int) < (n' : Int)) = false := decide_eq_false (by omega)
      have t3 : ¬ (60 : Int) < (n' : Int) := by omega
      clear h1
      go_wp2
      go_meet
      exact ⟨rfl, E.out⟩
    · have t1 : decide ((60 : Int) < (n' : Int)) = true := decide_eq_true (by omega)
      have t2 : decide ((n' : Int) < 126) = false := decide_eq_false (by omega)
      have t3 : (60 : Int) < (n' : Int) := by omega
      have t4 : ¬ (n' : Int) < 126 := by omega
      clear h1
      go_wp2
      go_meet
      exact ⟨rfl, E.out⟩
  case rest =>
    obtain ⟨rfl, hE⟩ := hcut
    clear E
    have E := Lib.hid hE
    clear hE
    have a0 := E.out.ba.c0
    have a1 := E.out.ba.c1
    have b0 := E.out.bb.c0
    have b1 := E.out.bb.c1
    go_wp2_with fail
    refine (HR.out _ E.out.ba.rd E.out.bb.rd).mono ?_
    rintro e w3 ⟨rfl, hb⟩
    replace E := Lib.hid (E.out.next hb)
    clear hb a0 a1 b0 b1
    have Xg3 := Lib.hid ((Nvr.new (is_zero8 w3)).alloc (.cells #[.bool false, .slice none 0 0] 24))
    have Yg3 := Lib.hid (Nvr.new ((is_zero8 w3).below (below_alloc w3 (.cells #[.bool false, .slice none 0 0] 24))))
    rw [World.size_alloc] at Yg3
    replace E := Lib.hid ((E.out.next (below_alloc _ (.cells #[.bool false, .slice none 0 0] 24))).next (below_alloc _ (.cells #[.bool false, .slice none 0 0] 24)))
    go_upto_region 4 with (fail)
    generalize (w3.alloc (.cells #[.bool false, .slice none 0 0] 24)).alloc (.cells #[.bool false, .slice none 0 0] 24) = W3 at E Xg3 Yg3 ⊢
    obtain ⟨g3, hg3⟩ : ∃ g, g = w3.heap.size := ⟨_, rfl⟩
    rw [← hg3] at Xg3 Yg3 ⊢
    clear hg3
    have a0 := E.out.ba.c0
    have a1 := E.out.ba.c1
    go_wp2_with fail
    refine (code_c E.out.ba.rd HN.out.1.1 HN.out.1.2).mono ?_
    rw [HC.out]
    rintro e w4 ⟨rfl, hb⟩
    replace E := Lib.hid (E.out.next hb)
    replace Xg3 := Lib.hid (Xg3.out.next hb)
    replace Yg3 := Lib.hid (Yg3.out.next hb)
    clear hb a0 a1
    have b0 := E.out.bb.c0
    have b1 := E.out.bb.c1
    go_wp2_with fail
    refine (refValid_c s' A' n' c' ys _ E.out.bb.rd).mono ?_
    rw [HV.out]
    rintro e W7 ⟨rfl, hb⟩
    replace E := Lib.hid (E.out.next hb)
    replace Xg3 := Lib.hid (Xg3.out.next hb)
    replace Yg3 := Lib.hid (Yg3.out.next hb)
    clear hb b0 b1
    go_upto_region 7 with (fail)
    refine wp_region_held_drew (S := (fun w' => w'.cell? ⟨w.heap.size + 1, 0, none⟩ = some (.bool s') ∧ w'.cell? ⟨w.heap.size + 1, 1, none⟩ = some (.slice A' n' c'))) (by kernel_rfl) ⟨cell_dr E.out.bb.c0, cell_dr E.out.bb.c1⟩ (fun hHeld => ?_)
    replace E := Lib.hid (E.out.next (Below.refl W7.heap.size W7).drew)
    replace Xg3 := Lib.hid (Xg3.out.next (Below.refl W7.heap.size W7).drew)
    replace Yg3 := Lib.hid (Yg3.out.next (Below.refl W7.heap.size W7).drew)
    generalize W7.drew = D5 at E Xg3 Yg3 hHeld ⊢
    refine take_on (i := 0) (d := (some 43)) (v := ?v85) rfl rfl (by kernel_rfl) (by kernel_rfl) (by kernel_rfl) (fun c a w h => h) (by rfl) ?h85 (by assumption) ?r85
    case h85 => intro w hSw; obtain ⟨h0, h1⟩ := hSw; go_simp; rfl
    simp only [Act.put, List.setIfInBounds_toArray, List.set_cons_zero, List.set_cons_succ]
    refine take_on (i := 1) (d := (some 44)) (v := ?v86) rfl rfl (by kernel_rfl) (by kernel_rfl) (by kernel_rfl) (fun c a w h => h) (by rfl) ?h86 (by assumption) ?r86
    case h86 => intro w hSw; obtain ⟨h0, h1⟩ := hSw; go_simp; rfl
    simp only [Act.put, List.setIfInBounds_toArray, List.set_cons_zero, List.set_cons_succ]
    refine take_on (i := 2) (d := (some 45)) (v := ?v87) rfl rfl (by kernel_rfl) (by kernel_rfl) (by kernel_rfl) (fun c a w h => h) (by rfl) ?h87 (by assumption) ?r87
    case h87 => intro w hSw; obtain ⟨h0, h1⟩ := hSw; go_simp; rfl
    simp only [Act.put, List.setIfInBounds_toArray, List.set_cons_zero, List.set_cons_succ]
    refine take_on (i := 3) (d := (some 46)) (v := ?v88) rfl rfl (by kernel_rfl) (by kernel_rfl) (by kernel_rfl) (fun c a w h => h) (by rfl) ?h88 (by assumption) ?r88
    case h88 => intro w hSw; obtain ⟨h0, h1⟩ := hSw; go_simp; rfl
    simp only [Act.put, List.setIfInBounds_toArray, List.set_cons_zero, List.set_cons_succ]
    refine take_on (i := 4) (d := (some 47)) (v := ?v89) rfl rfl (by kernel_rfl) (by kernel_rfl) (by kernel_rfl) (fun c a w h => h) (by rfl) ?h89 (by assumption) ?r89
    case h89 => intro w hSw; obtain ⟨h0, h1⟩ := hSw; go_simp; rfl
    simp only [Act.put, List.setIfInBounds_toArray, List.set_cons_zero, List.set_cons_succ]
    refine take_on (i := 5) (d := (some 48)) (v := ?v90) rfl rfl (by kernel_rfl) (by kernel_rfl) (by kernel_rfl) (fun c a w h => h) (by rfl) ?h90 (by assumption) ?r90
    case h90 => intro w hSw; obtain ⟨h0, h1⟩ := hSw; go_simp; rfl
    simp only [Act.put, List.setIfInBounds_toArray, List.set_cons_zero, List.set_cons_succ]
    refine take_on (i := 6) (d := (some 49)) (v := ?v91) rfl rfl (by kernel_rfl) (by kernel_rfl) (by kernel_rfl) (fun c a w h => h) (by rfl) ?h91 (by assumption) ?r91
    case h91 => intro w hSw; obtain ⟨h0, h1⟩ := hSw; go_simp; rfl
    simp only [Act.put, List.setIfInBounds_toArray, List.set_cons_zero, List.set_cons_succ]
    refine take_on (i := 7) (d := (some 50)) (v := ?v92) rfl rfl (by kernel_rfl) (by kernel_rfl) (by kernel_rfl) (fun c a w h => h) (by rfl) ?h92 (by assumption) ?r92
    case h92 => intro w hSw; obtain ⟨h0, h1⟩ := hSw; go_simp; rfl
    simp only [Act.put, List.setIfInBounds_toArray, List.set_cons_zero, List.set_cons_succ]
    refine take_on (i := 8) (d := (some 51)) (v := ?v93) rfl rfl (by kernel_rfl) (by kernel_rfl) (by kernel_rfl) (fun c a w h => h) (by rfl) ?h93 (by assumption) ?r93
    case h93 => intro w hSw; obtain ⟨h0, h1⟩ := hSw; go_simp; rfl
    simp only [Act.put, List.setIfInBounds_toArray, List.set_cons_zero, List.set_cons_succ]
    refine take_on (i := 9) (d := (some 52)) (v := ?v94) rfl rfl (by kernel_rfl) (by kernel_rfl) (by kernel_rfl) (fun c a w h => h) (by rfl) ?h94 (by assumption) ?r94
    case h94 => intro w hSw; obtain ⟨h0, h1⟩ := hSw; go_simp; rfl
    simp only [Act.put, List.setIfInBounds_toArray, List.set_cons_zero, List.set_cons_succ]
    refine take_on (i := 10) (d := (some 53)) (v := ?v95) rfl rfl (by kernel_rfl) (by kernel_rfl) (by kernel_rfl) (fun c a w h => h) (by rfl) ?h95 (by assumption) ?r95
    case h95 => intro w hSw; obtain ⟨h0, h1⟩ := hSw; go_simp; rfl
    simp only [Act.put, List.setIfInBounds_toArray, List.set_cons_zero, List.set_cons_succ]
    refine wpAnyH_ready (rs := [11]) (by kernel_rfl) (by simp) ?_
    refine AllReadyH.cons rfl (fun K hK => ?_) AllReadyH.nil
    go_simp
    refine (refOfV 1 _ (by omega) (by omega)).mono ?_
    rintro e w6 ⟨t21, A21, n21, c21, rfl, i21, hb⟩
    replace E := Lib.hid (E.out.next hb)
    replace Xg3 := Lib.hid (Xg3.out.next hb)
    replace Yg3 := Lib.hid (Yg3.out.next hb)
    have J0 := Lib.hid (i21.is)
    clear hb hHeld i21
    refine hK.out _ _ ⟨E.out.bb.c0, E.out.bb.c1⟩ (fun hHeld => ?_)
    clear hK K
    refine wpAnyH_ready (rs := [12]) (by kernel_rfl) (by simp) ?_
    refine AllReadyH.cons rfl (fun K hK => ?_) AllReadyH.nil
    go_simp
    refine (refCmp_c (HI.out _ E.out.bb.rd).is J0.out (Nat.le_trans (raw_len E.out.bb.rd HV.out) (by omega)) (Nat.le_trans (J0.out.len (sz_one' (Nat.le_refl 1))) (by omega))).mono ?_
    rw [HO.out]
    rintro e w7 ⟨rfl, hb⟩
    clear J0
    replace E := Lib.hid (E.out.next hb)
    replace Xg3 := Lib.hid (Xg3.out.next hb)
    replace Yg3 := Lib.hid (Yg3.out.next hb)
    clear hb hHeld
    refine hK.out _ _ ⟨E.out.bb.c0, E.out.bb.c1⟩ (fun hHeld => ?_)
    clear hK K
    refine take_on (i := 13) (d := (some 56)) (v := ?v96) rfl rfl (by kernel_rfl) (by kernel_rfl) (by kernel_rfl) (fun c a w h => h) (by rfl) ?h96 (by assumption) ?r96
    case h96 => intro w hSw; obtain ⟨h0, h1⟩ := hSw; go_simp; rfl
    simp only [Act.put, List.setIfInBounds_toArray, List.set_cons_zero, List.set_cons_succ]
    refine take_on (i := 14) (d := (some 57)) (v := ?v97) rfl rfl (by kernel_rfl) (by kernel_rfl) (by kernel_rfl) (fun c a w h => h) (by rfl) ?h97 (by assumption) ?r97
    case h97 => intro w hSw; obtain ⟨h0, h1⟩ := hSw; go_simp; rfl
    simp only [Act.put, List.setIfInBounds_toArray, List.set_cons_zero, List.set_cons_succ]
    refine take_on (i := 15) (d := (some 58)) (v := ?v98) rfl rfl (by kernel_rfl) (by kernel_rfl) (by kernel_rfl) (fun c a w h => h) (by rfl) ?h98 (by assumption) ?r98
    case h98 => intro w hSw; obtain ⟨h0, h1⟩ := hSw; go_simp; rfl
    simp only [Act.put, List.setIfInBounds_toArray, List.set_cons_zero, List.set_cons_succ]
    refine take_off (i := 16) (d := (some 59)) rfl rfl (by kernel_rfl) (by kernel_rfl) (by kernel_rfl) (fun c a w h => h) (by rfl) (by assumption) ?_
    simp only [Act.put, List.setIfInBounds_toArray, List.set_cons_zero, List.set_cons_succ]
    refine take_off (i := 17) (d := (some 60)) rfl rfl (by kernel_rfl) (by kernel_rfl) (by kernel_rfl) (fun c a w h => h) (by rfl) (by assumption) ?_
    simp only [Act.put, List.setIfInBounds_toArray, List.set_cons_zero, List.set_cons_succ]
    refine take_off (i := 18) (d := (some 61)) rfl rfl (by kernel_rfl) (by kernel_rfl) (by kernel_rfl) (fun c a w h => h) (by rfl) (by assumption) ?_
    simp only [Act.put, List.setIfInBounds_toArray, List.set_cons_zero, List.set_cons_succ]
    refine take_on (i := 19) (d := (some 62)) (v := ?v102) rfl rfl (by kernel_rfl) (by kernel_rfl) (by kernel_rfl) (fun c a w h => h) (by rfl) ?h102 (by assumption) ?r102
    case h102 => intro w hSw; obtain ⟨h0, h1⟩ := hSw; go_simp; rfl
    simp only [Act.put, List.setIfInBounds_toArray, List.set_cons_zero, List.set_cons_succ]
    refine take_on (i := 20) (d := (some 63)) (v := ?v103) rfl rfl (by kernel_rfl) (by kernel_rfl) (by kernel_rfl) (fun c a w h => h) (by rfl) ?h103 (by assumption) ?r103
    case h103 => intro w hSw; obtain ⟨h0, h1⟩ := hSw; go_simp; rfl
    simp only [Act.put, List.setIfInBounds_toArray, List.set_cons_zero, List.set_cons_succ]
    clear hHeld
    refine wpAnyH_done (by kernel_rfl) ?_ _
    have x0 := Xg3.out.c0
    have x1 := Xg3.out.c1
    go_wp2_with fail
    refine (number_err 2 (by first | exact HK0.out | omega) _ _ _ _ _).mono ?_
    rintro e w10 ⟨rfl, hb⟩
    replace E := Lib.hid (E.out.next hb)
    replace Xg3 := Lib.hid (Xg3.out.next hb)
    replace Yg3 := Lib.hid (Yg3.out.next hb)
    clear hb x0 x1
    have y0 := Yg3.out.c0
    have y1 := Yg3.out.c1
    go_wp2_with fail
    refine (Zero_z Yg3.out.is).mono ?_
    rw [decide_eq_true (show (0 : Int) = 0 from rfl)]
    rintro e w11 ⟨rfl, hb⟩
    replace E := Lib.hid (E.out.next hb)
    replace Xg3 := Lib.hid (Xg3.out.next hb)
    replace Yg3 := Lib.hid (Yg3.out.next hb)
    clear hb y0 y1
    go_wp2_with fail
    refine (awake8_c _).mono ?_
    rintro e u9 ⟨rfl, b9⟩
    have P9 := Lib.hid (E.out.below.trans (b9.mono E.out.below.size))
    clear b9
    go_wp2
    go_ret
    exact ⟨rfl, P9.out⟩
set_option maxHeartbeats 16000000 in
theorem LucasRests_D (s : Bool) (A : Option Addr) (n c : Nat) (xs : List Nat) (s' : Bool) (A' : Option Addr) (n' c' : Nat) (ys : List Nat) (K : Int) (w : World) (h : Rd w A n xs) (hn : n ≤ c) (hc : c ≤ 9223372036854775807) (h' : Rd w A' n' ys) (hn' : n' ≤ c') (hc' : c' ≤ 9223372036854775807) (hask : RestsYes n n') (hR : ∀ W, Rd W A n xs → Rd W A' n' ys → Calls Try.prog 22 #[.agg #[.bool s, .slice A n c], .int .i64 K, .agg #[.bool s', .slice A' n' c']] W (RestsZ 2 W)) (hv : codeV s xs true = 0) (hvy : validB s' ys = true) (hK0 : ¬ K < 0) (hK1 : ¬ 1152921504606846976 < K) (hm : ¬ sgn s' (val ys) < 1) (hbb : ¬ blen (sgn s' (val ys)).natAbs ≤ 4000) :
    Calls Try.prog 4 #[.agg #[.bool s, .slice A n c], .int .i64 K, .agg #[.bool s', .slice A' n' c']] w (IsB true w) := by
  have E := Lib.hid (Rb2.start (s := s) (c := c) (s' := s') (c' := c') h h')
  have HN := Lib.hid (And.intro (And.intro hn hc) (And.intro hn' hc'))
  clear h h' hn hc hn' hc'
  have HASK := Lib.hid hask
  clear hask
  have HR := Lib.hid hR
  have HC := Lib.hid hv
  have HV := Lib.hid hvy
  have HK0 := Lib.hid (show (2 : Int) ≠ 0 by omega)
  clear hR hv hvy
  have HI := Lib.hid (fun (W : World) (r : Rd W A' n' ys) => raw_iv (s := s') (c := c') r HV.out HN.out.2.1 HN.out.2.2)
  obtain ⟨bl, hbl⟩ : ∃ bl, bl = blen (sgn s' (val ys)).natAbs := ⟨_, rfl⟩
  have HBL := Lib.hid hbl
  have d0 : decide (K < 0) = false := decide_eq_false hK0
  have d1 : decide (1152921504606846976 < K) = false := decide_eq_false hK1
  rw [← hbl] at hbb
  have q1 : decide ((4000 : Int) < (bl : Int)) = true := decide_eq_true (by omega)
  clear hbb
  obtain ⟨r, hr⟩ : ∃ r, r = ord (sgn s' (val ys)) 1 := ⟨_, rfl⟩
  have r0 : 0 ≤ r := by rw [hr]; exact ord_ge hm
  have r1 : decide (r < 0) = false := decide_eq_false (by omega)
  have HO := Lib.hid hr.symm
  clear hr hbl hm
  go_enter Try.func4, Try.ntmps4
  go_upto_region 1 with (fail)
  generalize (w.alloc (.cells #[.bool s, .slice A n c] 24)).alloc (.cells #[.bool s', .slice A' n' c'] 24) = W0 at E ⊢
  go_cut [28] (fun v W => v = .bool false ∧ Rb2 w W s A n c xs s' A' n' c' ys)
  case first =>
    have a0 := E.out.ba.c0
    have a1 := E.out.ba.c1
    have b0 := E.out.bb.c0
    have b1 := E.out.bb.c1
    go_wp2_with fail
    have hb := below_alloc W0 (.cells #[.bool s, .slice A n c] 24)
    refine (short1s_c 60 _ A n c _ (by go_simp)).mono ?_
    rintro e w1 ⟨rfl, hb1⟩
    replace E := Lib.hid ((E.out.next hb).next hb1)
    clear hb hb1 a0 a1 b0 b1
    rw [decide_eq_true HASK.out.1]
    have b0 := E.out.bb.c0
    have b1 := E.out.bb.c1
    rcases HASK.out.2 with h1 | h1
    · have t1 : decide ((60 : Int) < (n' : Int)) = false := decide_eq_false (by omega)
      have t3 : ¬ (60 : Int) < (n' : Int) := by omega
      clear h1
      go_wp2
      go_meet
      exact ⟨rfl, E.out⟩
    · have t1 : decide ((60 : Int) < (n' : Int)) = true := decide_eq_true (by omega)
      have t2 : decide ((n' : Int) < 126) = false := decide_eq_false (by omega)
      have t3 : (60 : Int) < (n' : Int) := by omega
      have t4 : ¬ (n' : Int) < 126 := by omega
      clear h1
      go_wp2
      go_meet
      exact ⟨rfl, E.out⟩
  case rest =>
    obtain ⟨rfl, hE⟩ := hcut
    clear E
    have E := Lib.hid hE
    clear hE
    have a0 := E.out.ba.c0
    have a1 := E.out.ba.c1
    have b0 := E.out.bb.c0
    have b1 := E.out.bb.c1
    go_wp2_with fail
    refine (HR.out _ E.out.ba.rd E.out.bb.rd).mono ?_
    rintro e w3 ⟨rfl, hb⟩
    replace E := Lib.hid (E.out.next hb)
    clear hb a0 a1 b0 b1
    have Xg3 := Lib.hid ((Nvr.new (is_zero8 w3)).alloc (.cells #[.bool false, .slice none 0 0] 24))
    have Yg3 := Lib.hid (Nvr.new ((is_zero8 w3).below (below_alloc w3 (.cells #[.bool false, .slice none 0 0] 24))))
    rw [World.size_alloc] at Yg3
    replace E := Lib.hid ((E.out.next (below_alloc _ (.cells #[.bool false, .slice none 0 0] 24))).next (below_alloc _ (.cells #[.bool false, .slice none 0 0] 24)))
    go_upto_region 4 with (fail)
    generalize (w3.alloc (.cells #[.bool false, .slice none 0 0] 24)).alloc (.cells #[.bool false, .slice none 0 0] 24) = W3 at E Xg3 Yg3 ⊢
    obtain ⟨g3, hg3⟩ : ∃ g, g = w3.heap.size := ⟨_, rfl⟩
    rw [← hg3] at Xg3 Yg3 ⊢
    clear hg3
    have a0 := E.out.ba.c0
    have a1 := E.out.ba.c1
    go_wp2_with fail
    refine (code_c E.out.ba.rd HN.out.1.1 HN.out.1.2).mono ?_
    rw [HC.out]
    rintro e w4 ⟨rfl, hb⟩
    replace E := Lib.hid (E.out.next hb)
    replace Xg3 := Lib.hid (Xg3.out.next hb)
    replace Yg3 := Lib.hid (Yg3.out.next hb)
    clear hb a0 a1
    have b0 := E.out.bb.c0
    have b1 := E.out.bb.c1
    go_wp2_with fail
    refine (refValid_c s' A' n' c' ys _ E.out.bb.rd).mono ?_
    rw [HV.out]
    rintro e W7 ⟨rfl, hb⟩
    replace E := Lib.hid (E.out.next hb)
    replace Xg3 := Lib.hid (Xg3.out.next hb)
    replace Yg3 := Lib.hid (Yg3.out.next hb)
    clear hb b0 b1
    go_upto_region 7 with (fail)
    refine wp_region_held_drew (S := (fun w' => w'.cell? ⟨w.heap.size + 1, 0, none⟩ = some (.bool s') ∧ w'.cell? ⟨w.heap.size + 1, 1, none⟩ = some (.slice A' n' c'))) (by kernel_rfl) ⟨cell_dr E.out.bb.c0, cell_dr E.out.bb.c1⟩ (fun hHeld => ?_)
    replace E := Lib.hid (E.out.next (Below.refl W7.heap.size W7).drew)
    replace Xg3 := Lib.hid (Xg3.out.next (Below.refl W7.heap.size W7).drew)
    replace Yg3 := Lib.hid (Yg3.out.next (Below.refl W7.heap.size W7).drew)
    generalize W7.drew = D8 at E Xg3 Yg3 hHeld ⊢
    refine take_on (i := 0) (d := (some 43)) (v := ?v104) rfl rfl (by kernel_rfl) (by kernel_rfl) (by kernel_rfl) (fun c a w h => h) (by rfl) ?h104 (by assumption) ?r104
    case h104 => intro w hSw; obtain ⟨h0, h1⟩ := hSw; go_simp; rfl
    simp only [Act.put, List.setIfInBounds_toArray, List.set_cons_zero, List.set_cons_succ]
    refine take_on (i := 1) (d := (some 44)) (v := ?v105) rfl rfl (by kernel_rfl) (by kernel_rfl) (by kernel_rfl) (fun c a w h => h) (by rfl) ?h105 (by assumption) ?r105
    case h105 => intro w hSw; obtain ⟨h0, h1⟩ := hSw; go_simp; rfl
    simp only [Act.put, List.setIfInBounds_toArray, List.set_cons_zero, List.set_cons_succ]
    refine take_on (i := 2) (d := (some 45)) (v := ?v106) rfl rfl (by kernel_rfl) (by kernel_rfl) (by kernel_rfl) (fun c a w h => h) (by rfl) ?h106 (by assumption) ?r106
    case h106 => intro w hSw; obtain ⟨h0, h1⟩ := hSw; go_simp; rfl
    simp only [Act.put, List.setIfInBounds_toArray, List.set_cons_zero, List.set_cons_succ]
    refine take_on (i := 3) (d := (some 46)) (v := ?v107) rfl rfl (by kernel_rfl) (by kernel_rfl) (by kernel_rfl) (fun c a w h => h) (by rfl) ?h107 (by assumption) ?r107
    case h107 => intro w hSw; obtain ⟨h0, h1⟩ := hSw; go_simp; rfl
    simp only [Act.put, List.setIfInBounds_toArray, List.set_cons_zero, List.set_cons_succ]
    refine take_on (i := 4) (d := (some 47)) (v := ?v108) rfl rfl (by kernel_rfl) (by kernel_rfl) (by kernel_rfl) (fun c a w h => h) (by rfl) ?h108 (by assumption) ?r108
    case h108 => intro w hSw; obtain ⟨h0, h1⟩ := hSw; go_simp; rfl
    simp only [Act.put, List.setIfInBounds_toArray, List.set_cons_zero, List.set_cons_succ]
    refine take_on (i := 5) (d := (some 48)) (v := ?v109) rfl rfl (by kernel_rfl) (by kernel_rfl) (by kernel_rfl) (fun c a w h => h) (by rfl) ?h109 (by assumption) ?r109
    case h109 => intro w hSw; obtain ⟨h0, h1⟩ := hSw; go_simp; rfl
    simp only [Act.put, List.setIfInBounds_toArray, List.set_cons_zero, List.set_cons_succ]
    refine take_on (i := 6) (d := (some 49)) (v := ?v110) rfl rfl (by kernel_rfl) (by kernel_rfl) (by kernel_rfl) (fun c a w h => h) (by rfl) ?h110 (by assumption) ?r110
    case h110 => intro w hSw; obtain ⟨h0, h1⟩ := hSw; go_simp; rfl
    simp only [Act.put, List.setIfInBounds_toArray, List.set_cons_zero, List.set_cons_succ]
    refine take_on (i := 7) (d := (some 50)) (v := ?v111) rfl rfl (by kernel_rfl) (by kernel_rfl) (by kernel_rfl) (fun c a w h => h) (by rfl) ?h111 (by assumption) ?r111
    case h111 => intro w hSw; obtain ⟨h0, h1⟩ := hSw; go_simp; rfl
    simp only [Act.put, List.setIfInBounds_toArray, List.set_cons_zero, List.set_cons_succ]
    refine take_on (i := 8) (d := (some 51)) (v := ?v112) rfl rfl (by kernel_rfl) (by kernel_rfl) (by kernel_rfl) (fun c a w h => h) (by rfl) ?h112 (by assumption) ?r112
    case h112 => intro w hSw; obtain ⟨h0, h1⟩ := hSw; go_simp; rfl
    simp only [Act.put, List.setIfInBounds_toArray, List.set_cons_zero, List.set_cons_succ]
    refine take_on (i := 9) (d := (some 52)) (v := ?v113) rfl rfl (by kernel_rfl) (by kernel_rfl) (by kernel_rfl) (fun c a w h => h) (by rfl) ?h113 (by assumption) ?r113
    case h113 => intro w hSw; obtain ⟨h0, h1⟩ := hSw; go_simp; rfl
    simp only [Act.put, List.setIfInBounds_toArray, List.set_cons_zero, List.set_cons_succ]
    refine take_on (i := 10) (d := (some 53)) (v := ?v114) rfl rfl (by kernel_rfl) (by kernel_rfl) (by kernel_rfl) (fun c a w h => h) (by rfl) ?h114 (by assumption) ?r114
    case h114 => intro w hSw; obtain ⟨h0, h1⟩ := hSw; go_simp; rfl
    simp only [Act.put, List.setIfInBounds_toArray, List.set_cons_zero, List.set_cons_succ]
    refine wpAnyH_ready (rs := [11]) (by kernel_rfl) (by simp) ?_
    refine AllReadyH.cons rfl (fun K hK => ?_) AllReadyH.nil
    go_simp
    refine (refOfV 1 _ (by omega) (by omega)).mono ?_
    rintro e w9 ⟨t21, A21, n21, c21, rfl, i21, hb⟩
    replace E := Lib.hid (E.out.next hb)
    replace Xg3 := Lib.hid (Xg3.out.next hb)
    replace Yg3 := Lib.hid (Yg3.out.next hb)
    have J0 := Lib.hid (i21.is)
    clear hb hHeld i21
    refine hK.out _ _ ⟨E.out.bb.c0, E.out.bb.c1⟩ (fun hHeld => ?_)
    clear hK K
    refine wpAnyH_ready (rs := [12]) (by kernel_rfl) (by simp) ?_
    refine AllReadyH.cons rfl (fun K hK => ?_) AllReadyH.nil
    go_simp
    refine (refCmp_c (HI.out _ E.out.bb.rd).is J0.out (Nat.le_trans (raw_len E.out.bb.rd HV.out) (by omega)) (Nat.le_trans (J0.out.len (sz_one' (Nat.le_refl 1))) (by omega))).mono ?_
    rw [HO.out]
    rintro e w10 ⟨rfl, hb⟩
    clear J0
    replace E := Lib.hid (E.out.next hb)
    replace Xg3 := Lib.hid (Xg3.out.next hb)
    replace Yg3 := Lib.hid (Yg3.out.next hb)
    clear hb hHeld
    refine hK.out _ _ ⟨E.out.bb.c0, E.out.bb.c1⟩ (fun hHeld => ?_)
    clear hK K
    refine take_on (i := 13) (d := (some 56)) (v := ?v115) rfl rfl (by kernel_rfl) (by kernel_rfl) (by kernel_rfl) (fun c a w h => h) (by rfl) ?h115 (by assumption) ?r115
    case h115 => intro w hSw; obtain ⟨h0, h1⟩ := hSw; go_simp; rfl
    simp only [Act.put, List.setIfInBounds_toArray, List.set_cons_zero, List.set_cons_succ]
    refine take_on (i := 14) (d := (some 57)) (v := ?v116) rfl rfl (by kernel_rfl) (by kernel_rfl) (by kernel_rfl) (fun c a w h => h) (by rfl) ?h116 (by assumption) ?r116
    case h116 => intro w hSw; obtain ⟨h0, h1⟩ := hSw; go_simp; rfl
    simp only [Act.put, List.setIfInBounds_toArray, List.set_cons_zero, List.set_cons_succ]
    refine take_on (i := 15) (d := (some 58)) (v := ?v117) rfl rfl (by kernel_rfl) (by kernel_rfl) (by kernel_rfl) (fun c a w h => h) (by rfl) ?h117 (by assumption) ?r117
    case h117 => intro w hSw; obtain ⟨h0, h1⟩ := hSw; go_simp; rfl
    simp only [Act.put, List.setIfInBounds_toArray, List.set_cons_zero, List.set_cons_succ]
    refine take_on (i := 16) (d := (some 59)) (v := ?v118) rfl rfl (by kernel_rfl) (by kernel_rfl) (by kernel_rfl) (fun c a w h => h) (by rfl) ?h118 (by assumption) ?r118
    case h118 => intro w hSw; obtain ⟨h0, h1⟩ := hSw; go_simp; rfl
    simp only [Act.put, List.setIfInBounds_toArray, List.set_cons_zero, List.set_cons_succ]
    refine wpAnyH_ready (rs := [17]) (by kernel_rfl) (by simp) ?_
    refine AllReadyH.cons rfl (fun K hK => ?_) AllReadyH.nil
    go_simp
    refine (refBits_c s' A' n' c' _ _ (HI.out _ E.out.bb.rd).is.2.2.1 (words_canon _) (Nat.le_trans (raw_len E.out.bb.rd HV.out) (by omega))).mono ?_
    rw [val_words, ← HBL.out]
    rintro e w11 ⟨rfl, hb⟩
    replace E := Lib.hid (E.out.next hb)
    replace Xg3 := Lib.hid (Xg3.out.next hb)
    replace Yg3 := Lib.hid (Yg3.out.next hb)
    clear hb hHeld
    refine hK.out _ _ ⟨E.out.bb.c0, E.out.bb.c1⟩ (fun hHeld => ?_)
    clear hK K
    refine take_on (i := 18) (d := (some 61)) (v := ?v119) rfl rfl (by kernel_rfl) (by kernel_rfl) (by kernel_rfl) (fun c a w h => h) (by rfl) ?h119 (by assumption) ?r119
    case h119 => intro w hSw; obtain ⟨h0, h1⟩ := hSw; go_simp; rfl
    simp only [Act.put, List.setIfInBounds_toArray, List.set_cons_zero, List.set_cons_succ]
    refine take_on (i := 19) (d := (some 62)) (v := ?v120) rfl rfl (by kernel_rfl) (by kernel_rfl) (by kernel_rfl) (fun c a w h => h) (by rfl) ?h120 (by assumption) ?r120
    case h120 => intro w hSw; obtain ⟨h0, h1⟩ := hSw; go_simp; rfl
    simp only [Act.put, List.setIfInBounds_toArray, List.set_cons_zero, List.set_cons_succ]
    refine take_on (i := 20) (d := (some 63)) (v := ?v121) rfl rfl (by kernel_rfl) (by kernel_rfl) (by kernel_rfl) (fun c a w h => h) (by rfl) ?h121 (by assumption) ?r121
    case h121 => intro w hSw; obtain ⟨h0, h1⟩ := hSw; go_simp; rfl
    simp only [Act.put, List.setIfInBounds_toArray, List.set_cons_zero, List.set_cons_succ]
    clear hHeld
    refine wpAnyH_done (by kernel_rfl) ?_ _
    have x0 := Xg3.out.c0
    have x1 := Xg3.out.c1
    go_wp2_with fail
    refine (number_err 2 (by first | exact HK0.out | omega) _ _ _ _ _).mono ?_
    rintro e w10 ⟨rfl, hb⟩
    replace E := Lib.hid (E.out.next hb)
    replace Xg3 := Lib.hid (Xg3.out.next hb)
    replace Yg3 := Lib.hid (Yg3.out.next hb)
    clear hb x0 x1
    have y0 := Yg3.out.c0
    have y1 := Yg3.out.c1
    go_wp2_with fail
    refine (Zero_z Yg3.out.is).mono ?_
    rw [decide_eq_true (show (0 : Int) = 0 from rfl)]
    rintro e w11 ⟨rfl, hb⟩
    replace E := Lib.hid (E.out.next hb)
    replace Xg3 := Lib.hid (Xg3.out.next hb)
    replace Yg3 := Lib.hid (Yg3.out.next hb)
    clear hb y0 y1
    go_wp2_with fail
    refine (awake8_c _).mono ?_
    rintro e u9 ⟨rfl, b9⟩
    have P9 := Lib.hid (E.out.below.trans (b9.mono E.out.below.size))
    clear b9
    go_wp2
    go_ret
    exact ⟨rfl, P9.out⟩
set_option maxHeartbeats 16000000 in
theorem LucasRests_main (s : Bool) (A : Option Addr) (n c : Nat) (xs : List Nat) (s' : Bool) (A' : Option Addr) (n' c' : Nat) (ys : List Nat) (K : Int) (w : World) (h : Rd w A n xs) (hn : n ≤ c) (hc : c ≤ 9223372036854775807) (h' : Rd w A' n' ys) (hn' : n' ≤ c') (hc' : c' ≤ 9223372036854775807) (hask : RestsYes n n') (N : Nat) (hK : K = (N : Int)) (hv : codeV s xs true = 0) (hvy : validB s' ys = true) (hm : ¬ sgn s' (val ys) < 1) (hbb : blen (sgn s' (val ys)).natAbs ≤ 4000) (hK0 : ¬ K < 0) (hK1 : ¬ 1152921504606846976 < K) :
    Calls Try.prog 4 #[.agg #[.bool s, .slice A n c], .int .i64 K, .agg #[.bool s', .slice A' n' c']] w (IsB true w) := by
  have E := Lib.hid (Rb2.start (s := s) (c := c) (s' := s') (c' := c') h h')
  have HN := Lib.hid (And.intro (And.intro hn hc) (And.intro hn' hc'))
  have HASK := Lib.hid hask
  clear hask
  have HC := Lib.hid hv
  have HV := Lib.hid hvy
  have HZ := Lib.hid (codeV_zero hv).2.2
  have HVA := Lib.hid (codeV_zero hv).1
  have HI := Lib.hid (fun (W : World) (r : Rd W A' n' ys) => raw_iv (s := s') (c := c') r HV.out HN.out.2.1 HN.out.2.2)
  obtain ⟨bl, hbl⟩ : ∃ bl, bl = blen (sgn s' (val ys)).natAbs := ⟨_, rfl⟩
  have HBL := Lib.hid hbl
  have HIa := Lib.hid (fun (W : World) (r : Rd W A n xs) => raw_iv (s := s) (c := c) r HVA.out HN.out.1.1 HN.out.1.2)
  have HM := Lib.hid (show 0 < sgn s' (val ys) by omega)
  have HR := Lib.hid (fun (W : World) (i : Iv W (sgn s (val xs)) s A n c) (j : Iv W (sgn s' (val ys)) s' A' n' c') => Rests_ok i j HZ.out HM.out hbb N (by omega))
  have HR2 := Lib.hid (fun (W : World) (i : Iv W (sgn s (val xs)) s A n c) (j : Iv W (sgn s' (val ys)) s' A' n' c') => refRests_c i.is j.is HM.out i.sz j.sz N (by omega))
  have HSM := Lib.hid (show Sz (sgn s' (val ys)) 4096 from (HI.out w h').sz)
  rw [← hK] at HR HR2
  rw [← hbl] at hbb
  have q1 : decide ((4000 : Int) < (bl : Int)) = false := decide_eq_false (by omega)
  have d0 : decide (K < 0) = false := decide_eq_false hK0
  have d1 : decide (1152921504606846976 < K) = false := decide_eq_false hK1
  clear hbb
  obtain ⟨r, hr⟩ : ∃ r, r = ord (sgn s' (val ys)) 1 := ⟨_, rfl⟩
  have r0 : 0 ≤ r := by rw [hr]; exact ord_ge hm
  have r1 : decide (r < 0) = false := decide_eq_false (by omega)
  have HO := Lib.hid hr.symm
  clear hr hbl hm
  clear hv hvy hK
  clear h h' hn hc hn' hc'
  go_enter Try.func4, Try.ntmps4
  go_upto_region 1 with (fail)
  generalize (w.alloc (.cells #[.bool s, .slice A n c] 24)).alloc (.cells #[.bool s', .slice A' n' c'] 24) = W0 at E ⊢
  go_cut [28] (fun v W => v = .bool false ∧ Rb2 w W s A n c xs s' A' n' c' ys)
  case first =>
    have a0 := E.out.ba.c0
    have a1 := E.out.ba.c1
    have b0 := E.out.bb.c0
    have b1 := E.out.bb.c1
    go_wp2_with fail
    have hb := below_alloc W0 (.cells #[.bool s, .slice A n c] 24)
    refine (short1s_c 60 _ A n c _ (by go_simp)).mono ?_
    rintro e w1 ⟨rfl, hb1⟩
    replace E := Lib.hid ((E.out.next hb).next hb1)
    clear hb hb1 a0 a1 b0 b1
    rw [decide_eq_true HASK.out.1]
    have b0 := E.out.bb.c0
    have b1 := E.out.bb.c1
    rcases HASK.out.2 with h1 | h1
    · have t1 : decide ((60 : Int) < (n' : Int)) = false := decide_eq_false (by omega)
      have t3 : ¬ (60 : Int) < (n' : Int) := by omega
      clear h1
      go_wp2
      go_meet
      exact ⟨rfl, E.out⟩
    · have t1 : decide ((60 : Int) < (n' : Int)) = true := decide_eq_true (by omega)
      have t2 : decide ((n' : Int) < 126) = false := decide_eq_false (by omega)
      have t3 : (60 : Int) < (n' : Int) := by omega
      have t4 : ¬ (n' : Int) < 126 := by omega
      clear h1
      go_wp2
      go_meet
      exact ⟨rfl, E.out⟩
  case rest =>
    obtain ⟨rfl, hE⟩ := hcut
    clear E
    have E := Lib.hid hE
    clear hE
    have a0 := E.out.ba.c0
    have a1 := E.out.ba.c1
    have b0 := E.out.bb.c0
    have b1 := E.out.bb.c1
    go_wp2_with fail
    refine (HR.out _ (HIa.out _ E.out.ba.rd) (HI.out _ E.out.bb.rd)).mono ?_
    rintro e w3 ⟨t5, A5, n5, c5, t6, A6, n6, c6, rfl, hb, i5, i6⟩
    replace E := Lib.hid (E.out.next hb)
    clear HR hb a0 a1 b0 b1
    have Xg3 := Lib.hid ((Nvr.new i5).alloc (.cells #[.bool t6, .slice A6 n6 c6] 24))
    have Yg3 := Lib.hid (Nvr.new ((i6).below (below_alloc w3 (.cells #[.bool t5, .slice A5 n5 c5] 24))))
    rw [World.size_alloc] at Yg3
    replace E := Lib.hid ((E.out.next (below_alloc _ (.cells #[.bool t5, .slice A5 n5 c5] 24))).next (below_alloc _ (.cells #[.bool t6, .slice A6 n6 c6] 24)))
    go_upto_region 4 with (fail)
    generalize (w3.alloc (.cells #[.bool t5, .slice A5 n5 c5] 24)).alloc (.cells #[.bool t6, .slice A6 n6 c6] 24) = W3 at E Xg3 Yg3 ⊢
    obtain ⟨g3, hg3⟩ : ∃ g, g = w3.heap.size := ⟨_, rfl⟩
    rw [← hg3] at Xg3 Yg3 ⊢
    clear hg3
    clear i5 i6
    have a0 := E.out.ba.c0
    have a1 := E.out.ba.c1
    go_wp2_with fail
    refine (code_c E.out.ba.rd HN.out.1.1 HN.out.1.2).mono ?_
    rw [HC.out]
    rintro e w4 ⟨rfl, hb⟩
    replace E := Lib.hid (E.out.next hb)
    replace Xg3 := Lib.hid (Xg3.out.next hb)
    replace Yg3 := Lib.hid (Yg3.out.next hb)
    clear hb a0 a1
    have b0 := E.out.bb.c0
    have b1 := E.out.bb.c1
    go_wp2_with fail
    refine (refValid_c s' A' n' c' ys _ E.out.bb.rd).mono ?_
    rw [HV.out]
    rintro e W7 ⟨rfl, hb⟩
    replace E := Lib.hid (E.out.next hb)
    replace Xg3 := Lib.hid (Xg3.out.next hb)
    replace Yg3 := Lib.hid (Yg3.out.next hb)
    clear hb b0 b1
    go_upto_region 7 with (fail)
    refine wp_region_held_drew (S := (fun w' => w'.cell? ⟨w.heap.size + 1, 0, none⟩ = some (.bool s') ∧ w'.cell? ⟨w.heap.size + 1, 1, none⟩ = some (.slice A' n' c'))) (by kernel_rfl) ⟨cell_dr E.out.bb.c0, cell_dr E.out.bb.c1⟩ (fun hHeld => ?_)
    replace E := Lib.hid (E.out.next (Below.refl W7.heap.size W7).drew)
    replace Xg3 := Lib.hid (Xg3.out.next (Below.refl W7.heap.size W7).drew)
    replace Yg3 := Lib.hid (Yg3.out.next (Below.refl W7.heap.size W7).drew)
    generalize W7.drew = D12 at E Xg3 Yg3 hHeld ⊢
    refine take_on (i := 0) (d := (some 43)) (v := ?v122) rfl rfl (by kernel_rfl) (by kernel_rfl) (by kernel_rfl) (fun c a w h => h) (by rfl) ?h122 (by assumption) ?r122
    case h122 => intro w hSw; obtain ⟨h0, h1⟩ := hSw; go_simp; rfl
    simp only [Act.put, List.setIfInBounds_toArray, List.set_cons_zero, List.set_cons_succ]
    refine take_on (i := 1) (d := (some 44)) (v := ?v123) rfl rfl (by kernel_rfl) (by kernel_rfl) (by kernel_rfl) (fun c a w h => h) (by rfl) ?h123 (by assumption) ?r123
    case h123 => intro w hSw; obtain ⟨h0, h1⟩ := hSw; go_simp; rfl
    simp only [Act.put, List.setIfInBounds_toArray, List.set_cons_zero, List.set_cons_succ]
    refine take_on (i := 2) (d := (some 45)) (v := ?v124) rfl rfl (by kernel_rfl) (by kernel_rfl) (by kernel_rfl) (fun c a w h => h) (by rfl) ?h124 (by assumption) ?r124
    case h124 => intro w hSw; obtain ⟨h0, h1⟩ := hSw; go_simp; rfl
    simp only [Act.put, List.setIfInBounds_toArray, List.set_cons_zero, List.set_cons_succ]
    refine take_on (i := 3) (d := (some 46)) (v := ?v125) rfl rfl (by kernel_rfl) (by kernel_rfl) (by kernel_rfl) (fun c a w h => h) (by rfl) ?h125 (by assumption) ?r125
    case h125 => intro w hSw; obtain ⟨h0, h1⟩ := hSw; go_simp; rfl
    simp only [Act.put, List.setIfInBounds_toArray, List.set_cons_zero, List.set_cons_succ]
    refine take_on (i := 4) (d := (some 47)) (v := ?v126) rfl rfl (by kernel_rfl) (by kernel_rfl) (by kernel_rfl) (fun c a w h => h) (by rfl) ?h126 (by assumption) ?r126
    case h126 => intro w hSw; obtain ⟨h0, h1⟩ := hSw; go_simp; rfl
    simp only [Act.put, List.setIfInBounds_toArray, List.set_cons_zero, List.set_cons_succ]
    refine take_on (i := 5) (d := (some 48)) (v := ?v127) rfl rfl (by kernel_rfl) (by kernel_rfl) (by kernel_rfl) (fun c a w h => h) (by rfl) ?h127 (by assumption) ?r127
    case h127 => intro w hSw; obtain ⟨h0, h1⟩ := hSw; go_simp; rfl
    simp only [Act.put, List.setIfInBounds_toArray, List.set_cons_zero, List.set_cons_succ]
    refine take_on (i := 6) (d := (some 49)) (v := ?v128) rfl rfl (by kernel_rfl) (by kernel_rfl) (by kernel_rfl) (fun c a w h => h) (by rfl) ?h128 (by assumption) ?r128
    case h128 => intro w hSw; obtain ⟨h0, h1⟩ := hSw; go_simp; rfl
    simp only [Act.put, List.setIfInBounds_toArray, List.set_cons_zero, List.set_cons_succ]
    refine take_on (i := 7) (d := (some 50)) (v := ?v129) rfl rfl (by kernel_rfl) (by kernel_rfl) (by kernel_rfl) (fun c a w h => h) (by rfl) ?h129 (by assumption) ?r129
    case h129 => intro w hSw; obtain ⟨h0, h1⟩ := hSw; go_simp; rfl
    simp only [Act.put, List.setIfInBounds_toArray, List.set_cons_zero, List.set_cons_succ]
    refine take_on (i := 8) (d := (some 51)) (v := ?v130) rfl rfl (by kernel_rfl) (by kernel_rfl) (by kernel_rfl) (fun c a w h => h) (by rfl) ?h130 (by assumption) ?r130
    case h130 => intro w hSw; obtain ⟨h0, h1⟩ := hSw; go_simp; rfl
    simp only [Act.put, List.setIfInBounds_toArray, List.set_cons_zero, List.set_cons_succ]
    refine take_on (i := 9) (d := (some 52)) (v := ?v131) rfl rfl (by kernel_rfl) (by kernel_rfl) (by kernel_rfl) (fun c a w h => h) (by rfl) ?h131 (by assumption) ?r131
    case h131 => intro w hSw; obtain ⟨h0, h1⟩ := hSw; go_simp; rfl
    simp only [Act.put, List.setIfInBounds_toArray, List.set_cons_zero, List.set_cons_succ]
    refine take_on (i := 10) (d := (some 53)) (v := ?v132) rfl rfl (by kernel_rfl) (by kernel_rfl) (by kernel_rfl) (fun c a w h => h) (by rfl) ?h132 (by assumption) ?r132
    case h132 => intro w hSw; obtain ⟨h0, h1⟩ := hSw; go_simp; rfl
    simp only [Act.put, List.setIfInBounds_toArray, List.set_cons_zero, List.set_cons_succ]
    refine wpAnyH_ready (rs := [11]) (by kernel_rfl) (by simp) ?_
    refine AllReadyH.cons rfl (fun K hK => ?_) AllReadyH.nil
    go_simp
    refine (refOfV 1 _ (by omega) (by omega)).mono ?_
    rintro e w13 ⟨t21, A21, n21, c21, rfl, i21, hb⟩
    replace E := Lib.hid (E.out.next hb)
    replace Xg3 := Lib.hid (Xg3.out.next hb)
    replace Yg3 := Lib.hid (Yg3.out.next hb)
    have J0 := Lib.hid (i21.is)
    clear hb hHeld i21
    refine hK.out _ _ ⟨E.out.bb.c0, E.out.bb.c1⟩ (fun hHeld => ?_)
    clear hK K
    refine wpAnyH_ready (rs := [12]) (by kernel_rfl) (by simp) ?_
    refine AllReadyH.cons rfl (fun K hK => ?_) AllReadyH.nil
    go_simp
    refine (refCmp_c (HI.out _ E.out.bb.rd).is J0.out (Nat.le_trans (raw_len E.out.bb.rd HV.out) (by omega)) (Nat.le_trans (J0.out.len (sz_one' (Nat.le_refl 1))) (by omega))).mono ?_
    rw [HO.out]
    rintro e w14 ⟨rfl, hb⟩
    clear J0
    replace E := Lib.hid (E.out.next hb)
    replace Xg3 := Lib.hid (Xg3.out.next hb)
    replace Yg3 := Lib.hid (Yg3.out.next hb)
    clear hb hHeld
    refine hK.out _ _ ⟨E.out.bb.c0, E.out.bb.c1⟩ (fun hHeld => ?_)
    clear hK K
    refine take_on (i := 13) (d := (some 56)) (v := ?v133) rfl rfl (by kernel_rfl) (by kernel_rfl) (by kernel_rfl) (fun c a w h => h) (by rfl) ?h133 (by assumption) ?r133
    case h133 => intro w hSw; obtain ⟨h0, h1⟩ := hSw; go_simp; rfl
    simp only [Act.put, List.setIfInBounds_toArray, List.set_cons_zero, List.set_cons_succ]
    refine take_on (i := 14) (d := (some 57)) (v := ?v134) rfl rfl (by kernel_rfl) (by kernel_rfl) (by kernel_rfl) (fun c a w h => h) (by rfl) ?h134 (by assumption) ?r134
    case h134 => intro w hSw; obtain ⟨h0, h1⟩ := hSw; go_simp; rfl
    simp only [Act.put, List.setIfInBounds_toArray, List.set_cons_zero, List.set_cons_succ]
    refine take_on (i := 15) (d := (some 58)) (v := ?v135) rfl rfl (by kernel_rfl) (by kernel_rfl) (by kernel_rfl) (fun c a w h => h) (by rfl) ?h135 (by assumption) ?r135
    case h135 => intro w hSw; obtain ⟨h0, h1⟩ := hSw; go_simp; rfl
    simp only [Act.put, List.setIfInBounds_toArray, List.set_cons_zero, List.set_cons_succ]
    refine take_on (i := 16) (d := (some 59)) (v := ?v136) rfl rfl (by kernel_rfl) (by kernel_rfl) (by kernel_rfl) (fun c a w h => h) (by rfl) ?h136 (by assumption) ?r136
    case h136 => intro w hSw; obtain ⟨h0, h1⟩ := hSw; go_simp; rfl
    simp only [Act.put, List.setIfInBounds_toArray, List.set_cons_zero, List.set_cons_succ]
    refine wpAnyH_ready (rs := [17]) (by kernel_rfl) (by simp) ?_
    refine AllReadyH.cons rfl (fun K hK => ?_) AllReadyH.nil
    go_simp
    refine (refBits_c s' A' n' c' _ _ (HI.out _ E.out.bb.rd).is.2.2.1 (words_canon _) (Nat.le_trans (raw_len E.out.bb.rd HV.out) (by omega))).mono ?_
    rw [val_words, ← HBL.out]
    rintro e w15 ⟨rfl, hb⟩
    replace E := Lib.hid (E.out.next hb)
    replace Xg3 := Lib.hid (Xg3.out.next hb)
    replace Yg3 := Lib.hid (Yg3.out.next hb)
    clear hb hHeld
    refine hK.out _ _ ⟨E.out.bb.c0, E.out.bb.c1⟩ (fun hHeld => ?_)
    clear hK K
    refine take_on (i := 18) (d := (some 61)) (v := ?v137) rfl rfl (by kernel_rfl) (by kernel_rfl) (by kernel_rfl) (fun c a w h => h) (by rfl) ?h137 (by assumption) ?r137
    case h137 => intro w hSw; obtain ⟨h0, h1⟩ := hSw; go_simp; rfl
    simp only [Act.put, List.setIfInBounds_toArray, List.set_cons_zero, List.set_cons_succ]
    refine take_on (i := 19) (d := (some 62)) (v := ?v138) rfl rfl (by kernel_rfl) (by kernel_rfl) (by kernel_rfl) (fun c a w h => h) (by rfl) ?h138 (by assumption) ?r138
    case h138 => intro w hSw; obtain ⟨h0, h1⟩ := hSw; go_simp; rfl
    simp only [Act.put, List.setIfInBounds_toArray, List.set_cons_zero, List.set_cons_succ]
    refine take_on (i := 20) (d := (some 63)) (v := ?v139) rfl rfl (by kernel_rfl) (by kernel_rfl) (by kernel_rfl) (fun c a w h => h) (by rfl) ?h139 (by assumption) ?r139
    case h139 => intro w hSw; obtain ⟨h0, h1⟩ := hSw; go_simp; rfl
    simp only [Act.put, List.setIfInBounds_toArray, List.set_cons_zero, List.set_cons_succ]
    clear hHeld
    refine wpAnyH_done (by kernel_rfl) ?_ _
    have a0 := E.out.ba.c0
    have a1 := E.out.ba.c1
    have b0 := E.out.bb.c0
    have b1 := E.out.bb.c1
    go_wp2_with fail
    refine (HR2.out _ (HIa.out _ E.out.ba.rd) (HI.out _ E.out.bb.rd)).mono ?_
    rintro e w8 ⟨t7, A7, n7, c7, t8, A8, n8, c8, rfl, hb, i7, i8⟩
    replace E := Lib.hid (E.out.next hb)
    replace Xg3 := Lib.hid (Xg3.out.next hb)
    replace Yg3 := Lib.hid (Yg3.out.next hb)
    clear HR2 hb a0 a1 b0 b1
    have Xg8 := Lib.hid ((Nvr.new i7).alloc (.cells #[.bool t8, .slice A8 n8 c8] 24))
    have Yg8 := Lib.hid (Nvr.new ((i8).below (below_alloc w8 (.cells #[.bool t7, .slice A7 n7 c7] 24))))
    rw [World.size_alloc] at Yg8
    replace E := Lib.hid ((E.out.next (below_alloc _ (.cells #[.bool t7, .slice A7 n7 c7] 24))).next (below_alloc _ (.cells #[.bool t8, .slice A8 n8 c8] 24)))
    replace Xg3 := Lib.hid ((Xg3.out.next (below_alloc _ (.cells #[.bool t7, .slice A7 n7 c7] 24))).next (below_alloc _ (.cells #[.bool t8, .slice A8 n8 c8] 24)))
    replace Yg3 := Lib.hid ((Yg3.out.next (below_alloc _ (.cells #[.bool t7, .slice A7 n7 c7] 24))).next (below_alloc _ (.cells #[.bool t8, .slice A8 n8 c8] 24)))
    go_upto_region 12 with (fail)
    generalize (w8.alloc (.cells #[.bool t7, .slice A7 n7 c7] 24)).alloc (.cells #[.bool t8, .slice A8 n8 c8] 24) = W8 at E Xg3 Yg3 Xg8 Yg8 ⊢
    obtain ⟨g8, hg8⟩ : ∃ g, g = w8.heap.size := ⟨_, rfl⟩
    rw [← hg8] at Xg8 Yg8 ⊢
    clear hg8
    clear i7 i8
    have x0 := Xg3.out.c0
    have x1 := Xg3.out.c1
    have y0 := Xg8.out.c0
    have y1 := Xg8.out.c1
    go_wp2_with fail
    refine (same_eq (k := 4096) Xg3.out.is Xg8.out.is (sz_rest HM.out HSM.out) (Nat.le_refl _) rfl).mono ?_
    rintro e w9 ⟨rfl, hb⟩
    replace E := Lib.hid (E.out.next hb)
    replace Xg3 := Lib.hid (Xg3.out.next hb)
    replace Yg3 := Lib.hid (Yg3.out.next hb)
    replace Xg8 := Lib.hid (Xg8.out.next hb)
    replace Yg8 := Lib.hid (Yg8.out.next hb)
    clear hb x0 x1 y0 y1
    have x0 := Yg3.out.c0
    have x1 := Yg3.out.c1
    have y0 := Yg8.out.c0
    have y1 := Yg8.out.c1
    go_wp2_with fail
    refine (same_eq (k := 4096) Yg3.out.is Yg8.out.is (sz_rest HM.out HSM.out) (Nat.le_refl _) rfl).mono ?_
    rintro e w9 ⟨rfl, hb⟩
    replace E := Lib.hid (E.out.next hb)
    replace Xg3 := Lib.hid (Xg3.out.next hb)
    replace Yg3 := Lib.hid (Yg3.out.next hb)
    replace Xg8 := Lib.hid (Xg8.out.next hb)
    replace Yg8 := Lib.hid (Yg8.out.next hb)
    clear hb x0 x1 y0 y1
    go_wp2_with fail
    refine (awake8_c _).mono ?_
    rintro e u9 ⟨rfl, b9⟩
    have P9 := Lib.hid (E.out.below.trans (b9.mono E.out.below.size))
    clear b9
    go_wp2
    go_ret
    exact ⟨rfl, P9.out⟩
theorem LucasRests_c (s : Bool) (A : Option Addr) (n c : Nat) (xs : List Nat) (s' : Bool) (A' : Option Addr) (n' c' : Nat) (ys : List Nat) (K : Int) (w : World) (h : Rd w A n xs) (hn : n ≤ c) (hc : c ≤ 9223372036854775807) (h' : Rd w A' n' ys) (hn' : n' ≤ c') (hc' : c' ≤ 9223372036854775807) :
    Calls Try.prog 4 #[.agg #[.bool s, .slice A n c], .int .i64 K, .agg #[.bool s', .slice A' n' c']] w (IsB true w) := by
  by_cases hno : RestsNo n n'
  · exact LucasRests_no s A n c xs s' A' n' c' ys K w h hn hc h' hn' hc' hno
  · have hask : RestsYes n n' := by
      unfold RestsNo at hno
      unfold RestsYes
      omega
    cases hvy : validB s' ys with
    | false => exact LucasRests_E1 s A n c xs s' A' n' c' ys K w h hn hc h' hn' hc' hask (fun W r r' => Rests_err r r' hn hc K 1 (codeV_bad (.inr hvy)) (by omega)) _ rfl hvy
    | true =>
      by_cases hk : codeV s xs true = 0
      · have harg : ∀ W, (¬ (0 < sgn s' (val ys) ∧ blen (sgn s' (val ys)).natAbs ≤ 4000) ∨ K < 0 ∨ 1152921504606846976 < K) → Rd W A n xs → Rd W A' n' ys → Calls Try.prog 22 #[.agg #[.bool s, .slice A n c], .int .i64 K, .agg #[.bool s', .slice A' n' c']] W (RestsZ 2 W) :=
          fun W hbad r r' => Rests_arg r r' hn hc hn' hc' K (by rw [hvy]; exact hk) hbad
        by_cases hK0 : K < 0
        · exact LucasRests_A s A n c xs s' A' n' c' ys K w h hn hc h' hn' hc' hask (fun W => harg W (.inr (.inl hK0))) hk hvy hK0
        · by_cases hK1 : 1152921504606846976 < K
          · exact LucasRests_B s A n c xs s' A' n' c' ys K w h hn hc h' hn' hc' hask (fun W => harg W (.inr (.inr hK1))) hk hvy hK0 hK1
          · by_cases hm : sgn s' (val ys) < 1
            · exact LucasRests_C s A n c xs s' A' n' c' ys K w h hn hc h' hn' hc' hask (fun W => harg W (.inl (by omega))) hk hvy hK0 hK1 hm
            · by_cases hbb : blen (sgn s' (val ys)).natAbs ≤ 4000
              · exact LucasRests_main s A n c xs s' A' n' c' ys K w h hn hc h' hn' hc' hask K.toNat (by omega) hk hvy hm hbb hK0 hK1
              · exact LucasRests_D s A n c xs s' A' n' c' ys K w h hn hc h' hn' hc' hask (fun W => harg W (.inl (fun hx => hbb hx.2))) hk hvy hK0 hK1 hm hbb
      · exact LucasRests_E2 s A n c xs s' A' n' c' ys K w h hn hc h' hn' hc' hask _ hk (fun W r r' => Rests_err r r' hn hc K _ (by rw [hvy]) hk) rfl hvy
end Go.Proofs.Ytbblckaplddggaa

import Derived.Test.YtbblckaplddggaaDf
import Derived.Test.YtbblckaplddggaaDg
import Derived.Test.YtbblckaplddggaaOc
set_option maxRecDepth 100000
namespace Go.Proofs.Ytbblckaplddggaa
open Go.RowKit Go.Shelf
theorem short1r_c (most g : Nat) (A1 : Option Addr) (n1 c1 : Nat) (w : World) (h1 : w.cell? ⟨g, 1, none⟩ = some (.slice A1 n1 c1)) :
    Calls Try.prog 14 #[.int .i64 (most : Int), .slice (some ⟨g, 0, none⟩) 1 1] w (IsB (decide (n1 ≤ most)) w) := by
  refine (short_c most g 1 (of3 A1 A1 A1) (of3 n1 n1 n1) (of3 c1 c1 c1) w ?_ (by omega)).mono ?_
  · intro i hi
    obtain rfl : i = 0 := by omega
    exact h1
  · rintro e w' ⟨rfl, hb⟩
    refine ⟨?_, hb⟩
    congr 2
    rw [decide_eq_decide]
    constructor
    · intro h; exact h 0 (by omega)
    · intro h i hi
      obtain rfl : i = 0 := by omega
      exact h
/-- what is not asked -/
def RankNo (n n' : Nat) (K : Int) : Prop := ¬ n ≤ 20 ∨ (n ≤ 20 ∧ 20 < n' ∧ n' < 126) ∨ (n ≤ 20 ∧ (n' ≤ 20 ∨ 126 ≤ n') ∧ 400 < K ∧ K ≤ 20000)
def RankYes (n n' : Nat) (K : Int) : Prop := n ≤ 20 ∧ (n' ≤ 20 ∨ 126 ≤ n') ∧ (K ≤ 400 ∨ 20000 < K)
set_option maxHeartbeats 8000000 in
theorem LucasRank_no (s : Bool) (A : Option Addr) (n c : Nat) (xs : List Nat) (s' : Bool) (A' : Option Addr) (n' c' : Nat) (ys : List Nat) (K : Int) (w : World) (h : Rd w A n xs) (hn : n ≤ c) (hc : c ≤ 9223372036854775807) (h' : Rd w A' n' ys) (hn' : n' ≤ c') (hc' : c' ≤ 9223372036854775807) (hno : RankNo n n' K) :
    Calls Try.prog 6 #[.agg #[.bool s, .slice A n c], .agg #[.bool s', .slice A' n' c'], .int .i64 K] w (IsB true w) := by
  have E := Lib.hid (Rb2.start (s := s) (c := c) (s' := s') (c' := c') h h')
  have HN := Lib.hid (And.intro (And.intro hn hc) (And.intro hn' hc'))
  clear h h' hn hc hn' hc'
  go_enter Try.func6, Try.ntmps6
  go_upto_region 1 with (fail)
  generalize (w.alloc (.cells #[.bool s, .slice A n c] 24)).alloc (.cells #[.bool s', .slice A' n' c'] 24) = W0 at E ⊢
  have a0 := E.out.ba.c0
  have a1 := E.out.ba.c1
  have b0 := E.out.bb.c0
  have b1 := E.out.bb.c1
  go_wp2_with fail
  have hb := below_alloc W0 (.cells #[.bool s, .slice A n c] 24)
  refine (short1r_c 20 _ A n c _ (by go_simp)).mono ?_
  rintro e w1 ⟨rfl, hb1⟩
  replace E := Lib.hid ((E.out.next hb).next hb1)
  clear hb hb1 a0 a1 b0 b1
  rcases hno with hno | ⟨h0, h1, h2⟩ | ⟨h0, h1, h2, h3⟩
  · rw [decide_eq_false hno]
    clear hno
    go_wp2_with fail
    refine (awake8_c _).mono ?_
    rintro e u9 ⟨rfl, b9⟩
    have P9 := Lib.hid (E.out.below.trans (b9.mono E.out.below.size))
    clear b9
    go_wp2
    go_ret
    exact ⟨rfl, P9.out⟩
  · rw [decide_eq_true h0]
    have t1 : decide ((20 : Int) < (n' : Int)) = true := decide_eq_true (by omega)
    have t2 : decide ((n' : Int) < 126) = true := decide_eq_true (by omega)
    have t3 : (20 : Int) < (n' : Int) := by omega
    have t4 : (n' : Int) < 126 := by omega
    clear h0 h1 h2
    have b0 := E.out.bb.c0
    have b1 := E.out.bb.c1
    go_wp2_with fail
    refine (awake8_c _).mono ?_
    rintro e u9 ⟨rfl, b9⟩
    have P9 := Lib.hid (E.out.below.trans (b9.mono E.out.below.size))
    clear b9
    go_wp2
    go_ret
    exact ⟨rfl, P9.out⟩
  · rw [decide_eq_true h0]
    have t5 : decide (400 < K) = true := decide_eq_true h2
    have t6 : decide (K ≤ 20000) = true := decide_eq_true h3
    have b0 := E.out.bb.c0
    have b1 := E.out.bb.c1
    clear h0
    rcases h1 with h1 | h1
    · have t1 : decide ((20 : Int) < (n' : Int)) = false := decide_eq_false (by omega)
      have t3 : ¬ (20 : Int) < (n' : Int) := by omega
      clear h1
      go_wp2_with fail
      refine (awake8_c _).mono ?_
      rintro e u9 ⟨rfl, b9⟩
      have P9 := Lib.hid (E.out.below.trans (b9.mono E.out.below.size))
      clear b9
      go_wp2
      go_ret
      exact ⟨rfl, P9.out⟩
    · have t1 : decide ((20 : Int) < (n' : Int)) = true := decide_eq_true (by omega)
      have t2 : decide ((n' : Int) < 126) = false := decide_eq_false (by omega)
      have t3 : (20 : Int) < (n' : Int) := by omega
      have t4 : ¬ (n' : Int) < 126 := by omega
      clear h1
      go_wp2_with fail
      refine (awake8_c _).mono ?_
      rintro e u9 ⟨rfl, b9⟩
      have P9 := Lib.hid (E.out.below.trans (b9.mono E.out.below.size))
      clear b9
      go_wp2
      go_ret
      exact ⟨rfl, P9.out⟩
set_option maxHeartbeats 8000000 in
theorem LucasRank_E1 (s : Bool) (A : Option Addr) (n c : Nat) (xs : List Nat) (s' : Bool) (A' : Option Addr) (n' c' : Nat) (ys : List Nat) (K : Int) (w : World) (h : Rd w A n xs) (hn : n ≤ c) (hc : c ≤ 9223372036854775807) (h' : Rd w A' n' ys) (hn' : n' ≤ c') (hc' : c' ≤ 9223372036854775807) (hask : RankYes n n' K) (hR : ∀ W, Rd W A n xs → Rd W A' n' ys → Calls Try.prog 32 #[.agg #[.bool s, .slice A n c], .agg #[.bool s', .slice A' n' c'], .int .i64 K] W (IdxZ 1 W)) (v : Int) (hv : codeV s xs true = v) (hvy : validB s' ys = false) :
    Calls Try.prog 6 #[.agg #[.bool s, .slice A n c], .agg #[.bool s', .slice A' n' c'], .int .i64 K] w (IsB true w) := by
  have E := Lib.hid (Rb2.start (s := s) (c := c) (s' := s') (c' := c') h h')
  have HN := Lib.hid (And.intro (And.intro hn hc) (And.intro hn' hc'))
  clear h h' hn hc hn' hc'
  have HASK := Lib.hid hask
  clear hask
  have HR := Lib.hid hR
  have HC := Lib.hid hv
  have HV := Lib.hid hvy
  clear hR hv hvy
  go_enter Try.func6, Try.ntmps6
  go_upto_region 1 with (fail)
  generalize (w.alloc (.cells #[.bool s, .slice A n c] 24)).alloc (.cells #[.bool s', .slice A' n' c'] 24) = W0 at E ⊢
  go_cut [35] (fun v W => v = .bool false ∧ Rb2 w W s A n c xs s' A' n' c' ys)
  case first =>
    have a0 := E.out.ba.c0
    have a1 := E.out.ba.c1
    have b0 := E.out.bb.c0
    have b1 := E.out.bb.c1
    go_wp2_with fail
    have hb := below_alloc W0 (.cells #[.bool s, .slice A n c] 24)
    refine (short1r_c 20 _ A n c _ (by go_simp)).mono ?_
    rintro e w1 ⟨rfl, hb1⟩
    replace E := Lib.hid ((E.out.next hb).next hb1)
    clear hb hb1 a0 a1 b0 b1
    rw [decide_eq_true HASK.out.1]
    have b0 := E.out.bb.c0
    have b1 := E.out.bb.c1
    rcases HASK.out.2.1 with h1 | h1
    · have t1 : decide ((20 : Int) < (n' : Int)) = false := decide_eq_false (by omega)
      have t3 : ¬ (20 : Int) < (n' : Int) := by omega
      clear h1
      rcases HASK.out.2.2 with h2 | h2
      · have t5 : decide (400 < K) = false := decide_eq_false (by omega)
        go_wp2
        go_meet
        exact ⟨rfl, E.out⟩
      · have t5 : decide (400 < K) = true := decide_eq_true (by omega)
        have t6 : decide (K ≤ 20000) = false := decide_eq_false (by omega)
        go_wp2
        go_meet
        exact ⟨rfl, E.out⟩
    · have t1 : decide ((20 : Int) < (n' : Int)) = true := decide_eq_true (by omega)
      have t2 : decide ((n' : Int) < 126) = false := decide_eq_false (by omega)
      have t3 : (20 : Int) < (n' : Int) := by omega
      have t4 : ¬ (n' : Int) < 126 := by omega
      clear h1
      rcases HASK.out.2.2 with h2 | h2
      · have t5 : decide (400 < K) = false := decide_eq_false (by omega)
        go_wp2
        go_meet
        exact ⟨rfl, E.out⟩
      · have t5 : decide (400 < K) = true := decide_eq_true (by omega)
        have t6 : decide (K ≤ 20000) = false := decide_eq_false (by omega)
        go_wp2
        go_meet
        exact ⟨rfl, E.out⟩
  case rest =>
    obtain ⟨rfl, hE⟩ := hcut
    clear E
    have E := Lib.hid hE
    clear hE
    have a0 := E.out.ba.c0
    have a1 := E.out.ba.c1
    have b0 := E.out.bb.c0
    have b1 := E.out.bb.c1
    go_wp2_with fail
    refine (HR.out _ E.out.ba.rd E.out.bb.rd).mono ?_
    rintro e w3 ⟨rfl, hb⟩
    replace E := Lib.hid (E.out.next hb)
    clear hb a0 a1 b0 b1
    have a0 := E.out.ba.c0
    have a1 := E.out.ba.c1
    go_wp2_with fail
    refine (code_c E.out.ba.rd HN.out.1.1 HN.out.1.2).mono ?_
    rw [HC.out]
    rintro e w4 ⟨rfl, hb⟩
    replace E := Lib.hid (E.out.next hb)
    clear hb a0 a1
    have b0 := E.out.bb.c0
    have b1 := E.out.bb.c1
    go_wp2_with fail
    refine (refValid_c s' A' n' c' ys _ E.out.bb.rd).mono ?_
    rw [HV.out]
    rintro e W7 ⟨rfl, hb⟩
    replace E := Lib.hid (E.out.next hb)
    clear hb b0 b1
    go_upto_region 7 with (fail)
    refine wp_region_held_drew (S := (fun w' => w'.cell? ⟨w.heap.size + 1, 0, none⟩ = some (.bool s') ∧ w'.cell? ⟨w.heap.size + 1, 1, none⟩ = some (.slice A' n' c'))) (by kernel_rfl) ⟨cell_dr E.out.bb.c0, cell_dr E.out.bb.c1⟩ (fun hHeld => ?_)
    replace E := Lib.hid (E.out.next (Below.refl W7.heap.size W7).drew)
    generalize W7.drew = D1 at E hHeld ⊢
    refine take_on (i := 0) (d := (some 49)) (v := ?v1) rfl rfl (by kernel_rfl) (by kernel_rfl) (by kernel_rfl) (fun c a w h => h) (by rfl) ?h1 (by assumption) ?r1
    case h1 => intro w hSw; obtain ⟨h0, h1⟩ := hSw; go_simp; rfl
    simp only [Act.put, List.setIfInBounds_toArray, List.set_cons_zero, List.set_cons_succ]
    refine take_on (i := 1) (d := (some 50)) (v := ?v2) rfl rfl (by kernel_rfl) (by kernel_rfl) (by kernel_rfl) (fun c a w h => h) (by rfl) ?h2 (by assumption) ?r2
    case h2 => intro w hSw; obtain ⟨h0, h1⟩ := hSw; go_simp; rfl
    simp only [Act.put, List.setIfInBounds_toArray, List.set_cons_zero, List.set_cons_succ]
    refine take_on (i := 2) (d := (some 51)) (v := ?v3) rfl rfl (by kernel_rfl) (by kernel_rfl) (by kernel_rfl) (fun c a w h => h) (by rfl) ?h3 (by assumption) ?r3
    case h3 => intro w hSw; obtain ⟨h0, h1⟩ := hSw; go_simp; rfl
    simp only [Act.put, List.setIfInBounds_toArray, List.set_cons_zero, List.set_cons_succ]
    refine take_off (i := 3) (d := (some 52)) rfl rfl (by kernel_rfl) (by kernel_rfl) (by kernel_rfl) (fun c a w h => h) (by rfl) (by assumption) ?_
    simp only [Act.put, List.setIfInBounds_toArray, List.set_cons_zero, List.set_cons_succ]
    refine take_off (i := 4) (d := (some 53)) rfl rfl (by kernel_rfl) (by kernel_rfl) (by kernel_rfl) (fun c a w h => h) (by rfl) (by assumption) ?_
    simp only [Act.put, List.setIfInBounds_toArray, List.set_cons_zero, List.set_cons_succ]
    refine take_off (i := 5) (d := (some 54)) rfl rfl (by kernel_rfl) (by kernel_rfl) (by kernel_rfl) (fun c a w h => h) (by rfl) (by assumption) ?_
    simp only [Act.put, List.setIfInBounds_toArray, List.set_cons_zero, List.set_cons_succ]
    refine take_off (i := 6) (d := (some 55)) rfl rfl (by kernel_rfl) (by kernel_rfl) (by kernel_rfl) (fun c a w h => h) (by rfl) (by assumption) ?_
    simp only [Act.put, List.setIfInBounds_toArray, List.set_cons_zero, List.set_cons_succ]
    refine take_off (i := 7) (d := (some 56)) rfl rfl (by kernel_rfl) (by kernel_rfl) (by kernel_rfl) (fun c a w h => h) (by rfl) (by assumption) ?_
    simp only [Act.put, List.setIfInBounds_toArray, List.set_cons_zero, List.set_cons_succ]
    refine take_off (i := 8) (d := (some 57)) rfl rfl (by kernel_rfl) (by kernel_rfl) (by kernel_rfl) (fun c a w h => h) (by rfl) (by assumption) ?_
    simp only [Act.put, List.setIfInBounds_toArray, List.set_cons_zero, List.set_cons_succ]
    refine take_off (i := 9) (d := (some 58)) rfl rfl (by kernel_rfl) (by kernel_rfl) (by kernel_rfl) (fun c a w h => h) (by rfl) (by assumption) ?_
    simp only [Act.put, List.setIfInBounds_toArray, List.set_cons_zero, List.set_cons_succ]
    refine take_off (i := 10) (d := (some 59)) rfl rfl (by kernel_rfl) (by kernel_rfl) (by kernel_rfl) (fun c a w h => h) (by rfl) (by assumption) ?_
    simp only [Act.put, List.setIfInBounds_toArray, List.set_cons_zero, List.set_cons_succ]
    refine take_off (i := 11) (d := (some 60)) rfl rfl (by kernel_rfl) (by kernel_rfl) (by kernel_rfl) (fun c a w h => h) (by rfl) (by assumption) ?_
    simp only [Act.put, List.setIfInBounds_toArray, List.set_cons_zero, List.set_cons_succ]
    refine take_off (i := 12) (d := (some 61)) rfl rfl (by kernel_rfl) (by kernel_rfl) (by kernel_rfl) (fun c a w h => h) (by rfl) (by assumption) ?_
    simp only [Act.put, List.setIfInBounds_toArray, List.set_cons_zero, List.set_cons_succ]
    refine take_off (i := 13) (d := (some 62)) rfl rfl (by kernel_rfl) (by kernel_rfl) (by kernel_rfl) (fun c a w h => h) (by rfl) (by assumption) ?_
    simp only [Act.put, List.setIfInBounds_toArray, List.set_cons_zero, List.set_cons_succ]
    refine take_off (i := 14) (d := (some 63)) rfl rfl (by kernel_rfl) (by kernel_rfl) (by kernel_rfl) (fun c a w h => h) (by rfl) (by assumption) ?_
    simp only [Act.put, List.setIfInBounds_toArray, List.set_cons_zero, List.set_cons_succ]
    refine take_off (i := 15) (d := (some 64)) rfl rfl (by kernel_rfl) (by kernel_rfl) (by kernel_rfl) (fun c a w h => h) (by rfl) (by assumption) ?_
    simp only [Act.put, List.setIfInBounds_toArray, List.set_cons_zero, List.set_cons_succ]
    refine take_off (i := 16) (d := (some 65)) rfl rfl (by kernel_rfl) (by kernel_rfl) (by kernel_rfl) (fun c a w h => h) (by rfl) (by assumption) ?_
    simp only [Act.put, List.setIfInBounds_toArray, List.set_cons_zero, List.set_cons_succ]
    refine take_off (i := 17) (d := (some 66)) rfl rfl (by kernel_rfl) (by kernel_rfl) (by kernel_rfl) (fun c a w h => h) (by rfl) (by assumption) ?_
    simp only [Act.put, List.setIfInBounds_toArray, List.set_cons_zero, List.set_cons_succ]
    refine take_off (i := 18) (d := (some 67)) rfl rfl (by kernel_rfl) (by kernel_rfl) (by kernel_rfl) (fun c a w h => h) (by rfl) (by assumption) ?_
    simp only [Act.put, List.setIfInBounds_toArray, List.set_cons_zero, List.set_cons_succ]
    refine take_off (i := 19) (d := (some 68)) rfl rfl (by kernel_rfl) (by kernel_rfl) (by kernel_rfl) (fun c a w h => h) (by rfl) (by assumption) ?_
    simp only [Act.put, List.setIfInBounds_toArray, List.set_cons_zero, List.set_cons_succ]
    refine take_on (i := 20) (d := (some 69)) (v := ?v21) rfl rfl (by kernel_rfl) (by kernel_rfl) (by kernel_rfl) (fun c a w h => h) (by rfl) ?h21 (by assumption) ?r21
    case h21 => intro w hSw; obtain ⟨h0, h1⟩ := hSw; go_simp; rfl
    simp only [Act.put, List.setIfInBounds_toArray, List.set_cons_zero, List.set_cons_succ]
    clear hHeld
    refine wpAnyH_done (by kernel_rfl) ?_ _
    go_wp2_with fail
    refine (awake8_c _).mono ?_
    rintro e u9 ⟨rfl, b9⟩
    have P9 := Lib.hid (E.out.below.trans (b9.mono E.out.below.size))
    clear b9
    go_wp2
    go_ret
    exact ⟨rfl, P9.out⟩
set_option maxHeartbeats 8000000 in
theorem LucasRank_E2 (s : Bool) (A : Option Addr) (n c : Nat) (xs : List Nat) (s' : Bool) (A' : Option Addr) (n' c' : Nat) (ys : List Nat) (K : Int) (w : World) (h : Rd w A n xs) (hn : n ≤ c) (hc : c ≤ 9223372036854775807) (h' : Rd w A' n' ys) (hn' : n' ≤ c') (hc' : c' ≤ 9223372036854775807) (hask : RankYes n n' K) (k : Int) (hk0 : k ≠ 0) (hR : ∀ W, Rd W A n xs → Rd W A' n' ys → Calls Try.prog 32 #[.agg #[.bool s, .slice A n c], .agg #[.bool s', .slice A' n' c'], .int .i64 K] W (IdxZ k W)) (hv : codeV s xs true = k) (hvy : validB s' ys = true) :
    Calls Try.prog 6 #[.agg #[.bool s, .slice A n c], .agg #[.bool s', .slice A' n' c'], .int .i64 K] w (IsB true w) := by
  have E := Lib.hid (Rb2.start (s := s) (c := c) (s' := s') (c' := c') h h')
  have HN := Lib.hid (And.intro (And.intro hn hc) (And.intro hn' hc'))
  clear h h' hn hc hn' hc'
  have HASK := Lib.hid hask
  clear hask
  have HR := Lib.hid hR
  have HC := Lib.hid hv
  have HV := Lib.hid hvy
  have q1 : (k == 0) = false := by rw [beq_eq_false_iff_ne]; exact hk0
  clear hR hv hvy hk0
  go_enter Try.func6, Try.ntmps6
  go_upto_region 1 with (fail)
  generalize (w.alloc (.cells #[.bool s, .slice A n c] 24)).alloc (.cells #[.bool s', .slice A' n' c'] 24) = W0 at E ⊢
  go_cut [35] (fun v W => v = .bool false ∧ Rb2 w W s A n c xs s' A' n' c' ys)
  case first =>
    have a0 := E.out.ba.c0
    have a1 := E.out.ba.c1
    have b0 := E.out.bb.c0
    have b1 := E.out.bb.c1
    go_wp2_with fail
    have hb := below_alloc W0 (.cells #[.bool s, .slice A n c] 24)
    refine (short1r_c 20 _ A n c _ (by go_simp)).mono ?_
    rintro e w1 ⟨rfl, hb1⟩
    replace E := Lib.hid ((E.out.next hb).next hb1)
    clear hb hb1 a0 a1 b0 b1
    rw [decide_eq_true HASK.out.1]
    have b0 := E.out.bb.c0
    have b1 := E.out.bb.c1
    rcases HASK.out.2.1 with h1 | h1
    · have t1 : decide ((20 : Int) < (n' : Int)) = false := decide_eq_false (by omega)
      have t3 : ¬ (20 : Int) < (n' : Int) := by omega
      clear h1
      rcases HASK.out.2.2 with h2 | h2
      · have t5 : decide (400 < K) = false := decide_eq_false (by omega)
        go_wp2
        go_meet
        exact ⟨rfl, E.out⟩
      · have t5 : decide (400 < K) = true := decide_eq_true (by omega)
        have t6 : decide (K ≤ 20000) = false := decide_eq_false (by omega)
        go_wp2
        go_meet
        exact ⟨rfl, E.out⟩
    · have t1 : decide ((20 : Int) < (n' : Int)) = true := decide_eq_true (by omega)
      have t2 : decide ((n' : Int) < 126) = false := decide_eq_false (by omega)
      have t3 : (20 : Int) < (n' : Int) := by omega
      have t4 : ¬ (n' : Int) < 126 := by omega
      clear h1
      rcases HASK.out.2.2 with h2 | h2
      · have t5 : decide (400 < K) = false := decide_eq_false (by omega)
        go_wp2
        go_meet
        exact ⟨rfl, E.out⟩
      · have t5 : decide (400 < K) = true := decide_eq_true (by omega)
        have t6 : decide (K ≤ 20000) = false := decide_eq_false (by omega)
        go_wp2
        go_meet
        exact ⟨rfl, E.out⟩
  case rest =>
    obtain ⟨rfl, hE⟩ := hcut
    clear E
    have E := Lib.hid hE
    clear hE
    have a0 := E.out.ba.c0
    have a1 := E.out.ba.c1
    have b0 := E.out.bb.c0
    have b1 := E.out.bb.c1
    go_wp2_with fail
    refine (HR.out _ E.out.ba.rd E.out.bb.rd).mono ?_
    rintro e w3 ⟨rfl, hb⟩
    replace E := Lib.hid (E.out.next hb)
    clear hb a0 a1 b0 b1
    have a0 := E.out.ba.c0
    have a1 := E.out.ba.c1
    go_wp2_with fail
    refine (code_c E.out.ba.rd HN.out.1.1 HN.out.1.2).mono ?_
    rw [HC.out]
    rintro e w4 ⟨rfl, hb⟩
    replace E := Lib.hid (E.out.next hb)
    clear hb a0 a1
    have b0 := E.out.bb.c0
    have b1 := E.out.bb.c1
    go_wp2_with fail
    refine (refValid_c s' A' n' c' ys _ E.out.bb.rd).mono ?_
    rw [HV.out]
    rintro e W7 ⟨rfl, hb⟩
    replace E := Lib.hid (E.out.next hb)
    clear hb b0 b1
    go_upto_region 7 with (fail)
    refine wp_region_held_drew (S := (fun w' => w'.cell? ⟨w.heap.size + 1, 0, none⟩ = some (.bool s') ∧ w'.cell? ⟨w.heap.size + 1, 1, none⟩ = some (.slice A' n' c'))) (by kernel_rfl) ⟨cell_dr E.out.bb.c0, cell_dr E.out.bb.c1⟩ (fun hHeld => ?_)
    replace E := Lib.hid (E.out.next (Below.refl W7.heap.size W7).drew)
    generalize W7.drew = D2 at E hHeld ⊢
    refine take_on (i := 0) (d := (some 49)) (v := ?v22) rfl rfl (by kernel_rfl) (by kernel_rfl) (by kernel_rfl) (fun c a w h => h) (by rfl) ?h22 (by assumption) ?r22
    case h22 => intro w hSw; obtain ⟨h0, h1⟩ := hSw; go_simp; rfl
    simp only [Act.put, List.setIfInBounds_toArray, List.set_cons_zero, List.set_cons_succ]
    refine take_on (i := 1) (d := (some 50)) (v := ?v23) rfl rfl (by kernel_rfl) (by kernel_rfl) (by kernel_rfl) (fun c a w h => h) (by rfl) ?h23 (by assumption) ?r23
    case h23 => intro w hSw; obtain ⟨h0, h1⟩ := hSw; go_simp; rfl
    simp only [Act.put, List.setIfInBounds_toArray, List.set_cons_zero, List.set_cons_succ]
    refine take_on (i := 2) (d := (some 51)) (v := ?v24) rfl rfl (by kernel_rfl) (by kernel_rfl) (by kernel_rfl) (fun c a w h => h) (by rfl) ?h24 (by assumption) ?r24
    case h24 => intro w hSw; obtain ⟨h0, h1⟩ := hSw; go_simp; rfl
    simp only [Act.put, List.setIfInBounds_toArray, List.set_cons_zero, List.set_cons_succ]
    refine take_off (i := 3) (d := (some 52)) rfl rfl (by kernel_rfl) (by kernel_rfl) (by kernel_rfl) (fun c a w h => h) (by rfl) (by assumption) ?_
    simp only [Act.put, List.setIfInBounds_toArray, List.set_cons_zero, List.set_cons_succ]
    refine take_off (i := 4) (d := (some 53)) rfl rfl (by kernel_rfl) (by kernel_rfl) (by kernel_rfl) (fun c a w h => h) (by rfl) (by assumption) ?_
    simp only [Act.put, List.setIfInBounds_toArray, List.set_cons_zero, List.set_cons_succ]
    refine take_off (i := 5) (d := (some 54)) rfl rfl (by kernel_rfl) (by kernel_rfl) (by kernel_rfl) (fun c a w h => h) (by rfl) (by assumption) ?_
    simp only [Act.put, List.setIfInBounds_toArray, List.set_cons_zero, List.set_cons_succ]
    refine take_off (i := 6) (d := (some 55)) rfl rfl (by kernel_rfl) (by kernel_rfl) (by kernel_rfl) (fun c a w h => h) (by rfl) (by assumption) ?_
    simp only [Act.put, List.setIfInBounds_toArray, List.set_cons_zero, List.set_cons_succ]
    refine take_off (i := 7) (d := (some 56)) rfl rfl (by kernel_rfl) (by kernel_rfl) (by kernel_rfl) (fun c a w h => h) (by rfl) (by assumption) ?_
    simp only [Act.put, List.setIfInBounds_toArray, List.set_cons_zero, List.set_cons_succ]
    refine take_off (i := 8) (d := (some 57)) rfl rfl (by kernel_rfl) (by kernel_rfl) (by kernel_rfl) (fun c a w h => h) (by rfl) (by assumption) ?_
    simp only [Act.put, List.setIfInBounds_toArray, List.set_cons_zero, List.set_cons_succ]
    refine take_off (i := 9) (d := (some 58)) rfl rfl (by kernel_rfl) (by kernel_rfl) (by kernel_rfl) (fun c a w h => h) (by rfl) (by assumption) ?_
    simp only [Act.put, List.setIfInBounds_toArray, List.set_cons_zero, List.set_cons_succ]
    refine take_off (i := 10) (d := (some 59)) rfl rfl (by kernel_rfl) (by kernel_rfl) (by kernel_rfl) (fun c a w h => h) (by rfl) (by assumption) ?_
    simp only [Act.put, List.setIfInBounds_toArray, List.set_cons_zero, List.set_cons_succ]
    refine take_off (i := 11) (d := (some 60)) rfl rfl (by kernel_rfl) (by kernel_rfl) (by kernel_rfl) (fun c a w h => h) (by rfl) (by assumption) ?_
    simp only [Act.put, List.setIfInBounds_toArray, List.set_cons_zero, List.set_cons_succ]
    refine take_off (i := 12) (d := (some 61)) rfl rfl (by kernel_rfl) (by kernel_rfl) (by kernel_rfl) (fun c a w h => h) (by rfl) (by assumption) ?_
    simp only [Act.put, List.setIfInBounds_toArray, List.set_cons_zero, List.set_cons_succ]
    refine take_off (i := 13) (d := (some 62)) rfl rfl (by kernel_rfl) (by kernel_rfl) (by kernel_rfl) (fun c a w h => h) (by rfl) (by assumption) ?_
    simp only [Act.put, List.setIfInBounds_toArray, List.set_cons_zero, List.set_cons_succ]
    refine take_off (i := 14) (d := (some 63)) rfl rfl (by kernel_rfl) (by kernel_rfl) (by kernel_rfl) (fun c a w h => h) (by rfl) (by assumption) ?_
    simp only [Act.put, List.setIfInBounds_toArray, List.set_cons_zero, List.set_cons_succ]
    refine take_off (i := 15) (d := (some 64)) rfl rfl (by kernel_rfl) (by kernel_rfl) (by kernel_rfl) (fun c a w h => h) (by rfl) (by assumption) ?_
    simp only [Act.put, List.setIfInBounds_toArray, List.set_cons_zero, List.set_cons_succ]
    refine take_off (i := 16) (d := (some 65)) rfl rfl (by kernel_rfl) (by kernel_rfl) (by kernel_rfl) (fun c a w h => h) (by rfl) (by assumption) ?_
    simp only [Act.put, List.setIfInBounds_toArray, List.set_cons_zero, List.set_cons_succ]
    refine take_off (i := 17) (d := (some 66)) rfl rfl (by kernel_rfl) (by kernel_rfl) (by kernel_rfl) (fun c a w h => h) (by rfl) (by assumption) ?_
    simp only [Act.put, List.setIfInBounds_toArray, List.set_cons_zero, List.set_cons_succ]
    refine take_off (i := 18) (d := (some 67)) rfl rfl (by kernel_rfl) (by kernel_rfl) (by kernel_rfl) (fun c a w h => h) (by rfl) (by assumption) ?_
    simp only [Act.put, List.setIfInBounds_toArray, List.set_cons_zero, List.set_cons_succ]
    refine take_off (i := 19) (d := (some 68)) rfl rfl (by kernel_rfl) (by kernel_rfl) (by kernel_rfl) (fun c a w h => h) (by rfl) (by assumption) ?_
    simp only [Act.put, List.setIfInBounds_toArray, List.set_cons_zero, List.set_cons_succ]
    refine take_on (i := 20) (d := (some 69)) (v := ?v42) rfl rfl (by kernel_rfl) (by kernel_rfl) (by kernel_rfl) (fun c a w h => h) (by rfl) ?h42 (by assumption) ?r42
    case h42 => intro w hSw; obtain ⟨h0, h1⟩ := hSw; go_simp; rfl
    simp only [Act.put, List.setIfInBounds_toArray, List.set_cons_zero, List.set_cons_succ]
    clear hHeld
    refine wpAnyH_done (by kernel_rfl) ?_ _
    go_wp2_with fail
    refine (awake8_c _).mono ?_
    rintro e u9 ⟨rfl, b9⟩
    have P9 := Lib.hid (E.out.below.trans (b9.mono E.out.below.size))
    clear b9
    go_wp2
    go_ret
    exact ⟨rfl, P9.out⟩
set_option maxHeartbeats 8000000 in
theorem LucasRank_A (s : Bool) (A : Option Addr) (n c : Nat) (xs : List Nat) (s' : Bool) (A' : Option Addr) (n' c' : Nat) (ys : List Nat) (K : Int) (w : World) (h : Rd w A n xs) (hn : n ≤ c) (hc : c ≤ 9223372036854775807) (h' : Rd w A' n' ys) (hn' : n' ≤ c') (hc' : c' ≤ 9223372036854775807) (hask : RankYes n n' K) (hR : ∀ W, Rd W A n xs → Rd W A' n' ys → Calls Try.prog 32 #[.agg #[.bool s, .slice A n c], .agg #[.bool s', .slice A' n' c'], .int .i64 K] W (IdxZ 2 W)) (hv : codeV s xs true = 0) (hvy : validB s' ys = true) (hm : sgn s' (val ys) < 1) :
    Calls Try.prog 6 #[.agg #[.bool s, .slice A n c], .agg #[.bool s', .slice A' n' c'], .int .i64 K] w (IsB true w) := by
  have E := Lib.hid (Rb2.start (s := s) (c := c) (s' := s') (c' := c') h h')
  have HN := Lib.hid (And.intro (And.intro hn hc) (And.intro hn' hc'))
  clear h h' hn hc hn' hc'
  have HASK := Lib.hid hask
  clear hask
  have HR := Lib.hid hR
  have HC := Lib.hid hv
  have HV := Lib.hid hvy
  clear hR hv hvy
  have HI := Lib.hid (fun (W : World) (r : Rd W A' n' ys) => raw_iv (s := s') (c := c') r HV.out HN.out.2.1 HN.out.2.2)
  obtain ⟨bl, hbl⟩ : ∃ bl, bl = blen (sgn s' (val ys)).natAbs := ⟨_, rfl⟩
  have HBL := Lib.hid hbl
  have HO := Lib.hid (show ord (sgn s' (val ys)) 1 = -1 from ord_lt hm)
  clear hbl hm
  go_enter Try.func6, Try.ntmps6
  go_upto_region 1 with (fail)
  generalize (w.alloc (.cells #[.bool s, .slice A n c] 24)).alloc (.cells #[.bool s', .slice A' n' c'] 24) = W0 at E ⊢
  go_cut [35] (fun v W => v = .bool false ∧ Rb2 w W s A n c xs s' A' n' c' ys)
  case first =>
    have a0 := E.out.ba.c0
    have a1 := E.out.ba.c1
    have b0 := E.out.bb.c0
    have b1 := E.out.bb.c1
    go_wp2_with fail
    have hb := below_alloc W0 (.cells #[.bool s, .slice A n c] 24)
    refine (short1r_c 20 _ A n c _ (by go_simp)).mono ?_
    rintro e w1 ⟨rfl, hb1⟩
    replace E := Lib.hid ((E.out.next hb).next hb1)
    clear hb hb1 a0 a1 b0 b1
    rw [decide_eq_true HASK.out.1]
    have b0 := E.out.bb.c0
    have b1 := E.out.bb.c1
    rcases HASK.out.2.1 with h1 | h1
    · have t1 : decide ((20 : Int) < (n' : Int)) = false := decide_eq_false (by omega)
      have t3 : ¬ (20 : Int) < (n' : Int) := by omega
      clear h1
      rcases HASK.out.2.2 with h2 | h2
      · have t5 : decide (400 < K) = false := decide_eq_false (by omega)
        go_wp2
        go_meet
        exact ⟨rfl, E.out⟩
      · have t5 : decide (400 < K) = true := decide_eq_true (by omega)
        have t6 : decide (K ≤ 20000) = false := decide_eq_false (by omega)
        go_wp2
        go_meet
        exact ⟨rfl, E.out⟩
    · have t1 : decide ((20 : Int) < (n' : Int)) = true := decide_eq_true (by omega)
      have t2 : decide ((n' : Int) < 126) = false := decide_eq_false (by omega)
      have t3 : (20 : Int) < (n' : Int) := by omega
      have t4 : ¬ (n' : Int) < 126 := by omega
      clear h1
      rcases HASK.out.2.2 with h2 | h2
      · have t5 : decide (400 < K) = false := decide_eq_false (by omega)
        go_wp2
        go_meet
        exact ⟨rfl, E.out⟩
      · have t5 : decide (400 < K) = true := decide_eq_true (by omega)
        have t6 : decide (K ≤ 20000) = false := decide_eq_false (by omega)
        go_wp2
        go_meet
        exact ⟨rfl, E.out⟩
  case rest =>
    obtain ⟨rfl, hE⟩ := hcut
    clear E
    have E := Lib.hid hE
    clear hE
    have a0 := E.out.ba.c0
    have a1 := E.out.ba.c1
    have b0 := E.out.bb.c0
    have b1 := E.out.bb.c1
    go_wp2_with fail
    refine (HR.out _ E.out.ba.rd E.out.bb.rd).mono ?_
    rintro e w3 ⟨rfl, hb⟩
    replace E := Lib.hid (E.out.next hb)
    clear hb a0 a1 b0 b1
    have a0 := E.out.ba.c0
    have a1 := E.out.ba.c1
    go_wp2_with fail
    refine (code_c E.out.ba.rd HN.out.1.1 HN.out.1.2).mono ?_
    rw [HC.out]
    rintro e w4 ⟨rfl, hb⟩
    replace E := Lib.hid (E.out.next hb)
    clear hb a0 a1
    have b0 := E.out.bb.c0
    have b1 := E.out.bb.c1
    go_wp2_with fail
    refine (refValid_c s' A' n' c' ys _ E.out.bb.rd).mono ?_
    rw [HV.out]
    rintro e W7 ⟨rfl, hb⟩
    replace E := Lib.hid (E.out.next hb)
    clear hb b0 b1
    go_upto_region 7 with (fail)
    refine wp_region_held_drew (S := (fun w' => w'.cell? ⟨w.heap.size + 1, 0, none⟩ = some (.bool s') ∧ w'.cell? ⟨w.heap.size + 1, 1, none⟩ = some (.slice A' n' c'))) (by kernel_rfl) ⟨cell_dr E.out.bb.c0, cell_dr E.out.bb.c1⟩ (fun hHeld => ?_)
    replace E := Lib.hid (E.out.next (Below.refl W7.heap.size W7).drew)
    generalize W7.drew = D3 at E hHeld ⊢
    refine take_on (i := 0) (d := (some 49)) (v := ?v43) rfl rfl (by kernel_rfl) (by kernel_rfl) (by kernel_rfl) (fun c a w h => h) (by rfl) ?h43 (by assumption) ?r43
    case h43 => intro w hSw; obtain ⟨h0, h1⟩ := hSw; go_simp; rfl
    simp only [Act.put, List.setIfInBounds_toArray, List.set_cons_zero, List.set_cons_succ]
    refine take_on (i := 1) (d := (some 50)) (v := ?v44) rfl rfl (by kernel_rfl) (by kernel_rfl) (by kernel_rfl) (fun c a w h => h) (by rfl) ?h44 (by assumption) ?r44
    case h44 => intro w hSw; obtain ⟨h0, h1⟩ := hSw; go_simp; rfl
    simp only [Act.put, List.setIfInBounds_toArray, List.set_cons_zero, List.set_cons_succ]
    refine take_on (i := 2) (d := (some 51)) (v := ?v45) rfl rfl (by kernel_rfl) (by kernel_rfl) (by kernel_rfl) (fun c a w h => h) (by rfl) ?h45 (by assumption) ?r45
    case h45 => intro w hSw; obtain ⟨h0, h1⟩ := hSw; go_simp; rfl
    simp only [Act.put, List.setIfInBounds_toArray, List.set_cons_zero, List.set_cons_succ]
    refine take_on (i := 3) (d := (some 52)) (v := ?v46) rfl rfl (by kernel_rfl) (by kernel_rfl) (by kernel_rfl) (fun c a w h => h) (by rfl) ?h46 (by assumption) ?r46
    case h46 => intro w hSw; obtain ⟨h0, h1⟩ := hSw; go_simp; rfl
    simp only [Act.put, List.setIfInBounds_toArray, List.set_cons_zero, List.set_cons_succ]
    refine wpAnyH_ready (rs := [4]) (by kernel_rfl) (by simp) ?_
    refine AllReadyH.cons rfl (fun K hK => ?_) AllReadyH.nil
    go_simp
    refine (refOfV 1 _ (by omega) (by omega)).mono ?_
    rintro e w4 ⟨t21, A21, n21, c21, rfl, i21, hb⟩
    replace E := Lib.hid (E.out.next hb)
    have J0 := Lib.hid (i21.is)
    clear hb hHeld i21
    refine hK.out _ _ ⟨E.out.bb.c0, E.out.bb.c1⟩ (fun hHeld => ?_)
    clear hK K
    refine wpAnyH_ready (rs := [5]) (by kernel_rfl) (by simp) ?_
    refine AllReadyH.cons rfl (fun K hK => ?_) AllReadyH.nil
    go_simp
    refine (refCmp_c (HI.out _ E.out.bb.rd).is J0.out (Nat.le_trans (raw_len E.out.bb.rd HV.out) (by omega)) (Nat.le_trans (J0.out.len (sz_one' (Nat.le_refl 1))) (by omega))).mono ?_
    rw [HO.out]
    rintro e w5 ⟨rfl, hb⟩
    clear J0
    replace E := Lib.hid (E.out.next hb)
    clear hb hHeld
    refine hK.out _ _ ⟨E.out.bb.c0, E.out.bb.c1⟩ (fun hHeld => ?_)
    clear hK K
    refine take_on (i := 6) (d := (some 55)) (v := ?v47) rfl rfl (by kernel_rfl) (by kernel_rfl) (by kernel_rfl) (fun c a w h => h) (by rfl) ?h47 (by assumption) ?r47
    case h47 => intro w hSw; obtain ⟨h0, h1⟩ := hSw; go_simp; rfl
    simp only [Act.put, List.setIfInBounds_toArray, List.set_cons_zero, List.set_cons_succ]
    refine take_on (i := 7) (d := (some 56)) (v := ?v48) rfl rfl (by kernel_rfl) (by kernel_rfl) (by kernel_rfl) (fun c a w h => h) (by rfl) ?h48 (by assumption) ?r48
    case h48 => intro w hSw; obtain ⟨h0, h1⟩ := hSw; go_simp; rfl
    simp only [Act.put, List.setIfInBounds_toArray, List.set_cons_zero, List.set_cons_succ]
    refine take_off (i := 8) (d := (some 57)) rfl rfl (by kernel_rfl) (by kernel_rfl) (by kernel_rfl) (fun c a w h => h) (by rfl) (by assumption) ?_
    simp only [Act.put, List.setIfInBounds_toArray, List.set_cons_zero, List.set_cons_succ]
    refine take_off (i := 9) (d := (some 58)) rfl rfl (by kernel_rfl) (by kernel_rfl) (by kernel_rfl) (fun c a w h => h) (by rfl) (by assumption) ?_
    simp only [Act.put, List.setIfInBounds_toArray, List.set_cons_zero, List.set_cons_succ]
    refine take_off (i := 10) (d := (some 59)) rfl rfl (by kernel_rfl) (by kernel_rfl) (by kernel_rfl) (fun c a w h => h) (by rfl) (by assumption) ?_
    simp only [Act.put, List.setIfInBounds_toArray, List.set_cons_zero, List.set_cons_succ]
    refine take_on (i := 11) (d := (some 60)) (v := ?v52) rfl rfl (by kernel_rfl) (by kernel_rfl) (by kernel_rfl) (fun c a w h => h) (by rfl) ?h52 (by assumption) ?r52
    case h52 => intro w hSw; obtain ⟨h0, h1⟩ := hSw; go_simp; rfl
    simp only [Act.put, List.setIfInBounds_toArray, List.set_cons_zero, List.set_cons_succ]
    refine take_on (i := 12) (d := (some 61)) (v := ?v53) rfl rfl (by kernel_rfl) (by kernel_rfl) (by kernel_rfl) (fun c a w h => h) (by rfl) ?h53 (by assumption) ?r53
    case h53 => intro w hSw; obtain ⟨h0, h1⟩ := hSw; go_simp; rfl
    simp only [Act.put, List.setIfInBounds_toArray, List.set_cons_zero, List.set_cons_succ]
    refine take_off (i := 13) (d := (some 62)) rfl rfl (by kernel_rfl) (by kernel_rfl) (by kernel_rfl) (fun c a w h => h) (by rfl) (by assumption) ?_
    simp only [Act.put, List.setIfInBounds_toArray, List.set_cons_zero, List.set_cons_succ]
    refine take_off (i := 14) (d := (some 63)) rfl rfl (by kernel_rfl) (by kernel_rfl) (by kernel_rfl) (fun c a w h => h) (by rfl) (by assumption) ?_
    simp only [Act.put, List.setIfInBounds_toArray, List.set_cons_zero, List.set_cons_succ]
    refine take_on (i := 15) (d := (some 64)) (v := ?v56) rfl rfl (by kernel_rfl) (by kernel_rfl) (by kernel_rfl) (fun c a w h => h) (by rfl) ?h56 (by assumption) ?r56
    case h56 => intro w hSw; obtain ⟨h0, h1⟩ := hSw; go_simp; rfl
    simp only [Act.put, List.setIfInBounds_toArray, List.set_cons_zero, List.set_cons_succ]
    refine take_on (i := 16) (d := (some 65)) (v := ?v57) rfl rfl (by kernel_rfl) (by kernel_rfl) (by kernel_rfl) (fun c a w h => h) (by rfl) ?h57 (by assumption) ?r57
    case h57 => intro w hSw; obtain ⟨h0, h1⟩ := hSw; go_simp; rfl
    simp only [Act.put, List.setIfInBounds_toArray, List.set_cons_zero, List.set_cons_succ]
    refine take_off (i := 17) (d := (some 66)) rfl rfl (by kernel_rfl) (by kernel_rfl) (by kernel_rfl) (fun c a w h => h) (by rfl) (by assumption) ?_
    simp only [Act.put, List.setIfInBounds_toArray, List.set_cons_zero, List.set_cons_succ]
    refine take_off (i := 18) (d := (some 67)) rfl rfl (by kernel_rfl) (by kernel_rfl) (by kernel_rfl) (fun c a w h => h) (by rfl) (by assumption) ?_
    simp only [Act.put, List.setIfInBounds_toArray, List.set_cons_zero, List.set_cons_succ]
    refine take_on (i := 19) (d := (some 68)) (v := ?v60) rfl rfl (by kernel_rfl) (by kernel_rfl) (by kernel_rfl) (fun c a w h => h) (by rfl) ?h60 (by assumption) ?r60
    case h60 => intro w hSw; obtain ⟨h0, h1⟩ := hSw; go_simp; rfl
    simp only [Act.put, List.setIfInBounds_toArray, List.set_cons_zero, List.set_cons_succ]
    refine take_on (i := 20) (d := (some 69)) (v := ?v61) rfl rfl (by kernel_rfl) (by kernel_rfl) (by kernel_rfl) (fun c a w h => h) (by rfl) ?h61 (by assumption) ?r61
    case h61 => intro w hSw; obtain ⟨h0, h1⟩ := hSw; go_simp; rfl
    simp only [Act.put, List.setIfInBounds_toArray, List.set_cons_zero, List.set_cons_succ]
    clear hHeld
    refine wpAnyH_done (by kernel_rfl) ?_ _
    go_wp2_with fail
    refine (awake8_c _).mono ?_
    rintro e u9 ⟨rfl, b9⟩
    have P9 := Lib.hid (E.out.below.trans (b9.mono E.out.below.size))
    clear b9
    go_wp2
    go_ret
    exact ⟨rfl, P9.out⟩
set_option maxHeartbeats 8000000 in
theorem LucasRank_B (s : Bool) (A : Option Addr) (n c : Nat) (xs : List Nat) (s' : Bool) (A' : Option Addr) (n' c' : Nat) (ys : List Nat) (K : Int) (w : World) (h : Rd w A n xs) (hn : n ≤ c) (hc : c ≤ 9223372036854775807) (h' : Rd w A' n' ys) (hn' : n' ≤ c') (hc' : c' ≤ 9223372036854775807) (hask : RankYes n n' K) (hR : ∀ W, Rd W A n xs → Rd W A' n' ys → Calls Try.prog 32 #[.agg #[.bool s, .slice A n c], .agg #[.bool s', .slice A' n' c'], .int .i64 K] W (IdxZ 2 W)) (hv : codeV s xs true = 0) (hvy : validB s' ys = true) (hm : ¬ sgn s' (val ys) < 1) (hbb : ¬ blen (sgn s' (val ys)).natAbs ≤ 4000) :
    Calls Try.prog 6 #[.agg #[.bool s, .slice A n c], .agg #[.bool s', .slice A' n' c'], .int .i64 K] w (IsB true w) := by
  have E := Lib.hid (Rb2.start (s := s) (c := c) (s' := s') (c' := c') h h')
  have HN := Lib.hid (And.intro (And.intro hn hc) (And.intro hn' hc'))
  clear h h' hn hc hn' hc'
  have HASK := Lib.hid hask
  clear hask
  have HR := Lib.hid hR
  have HC := Lib.hid hv
  have HV := Lib.hid hvy
  clear hR hv hvy
  have HI := Lib.hid (fun (W : World) (r : Rd W A' n' ys) => raw_iv (s := s') (c := c') r HV.out HN.out.2.1 HN.out.2.2)
  obtain ⟨bl, hbl⟩ : ∃ bl, bl = blen (sgn s' (val ys)).natAbs := ⟨_, rfl⟩
  have HBL := Lib.hid hbl
  rw [← hbl] at hbb
  have q1 : decide ((4000 : Int) < (bl : Int)) = true := decide_eq_true (by omega)
  obtain ⟨r, hr⟩ : ∃ r, r = ord (sgn s' (val ys)) 1 := ⟨_, rfl⟩
  have r0 : 0 ≤ r := by rw [hr]; exact ord_ge hm
  have r1 : decide (r < 0) = false := decide_eq_false (by omega)
  have HO := Lib.hid hr.symm
  clear hr hbl hbb hm
  go_enter Try.func6, Try.ntmps6
  go_upto_region 1 with (fail)
  generalize (w.alloc (.cells #[.bool s, .slice A n c] 24)).alloc (.cells #[.bool s', .slice A' n' c'] 24) = W0 at E ⊢
  go_cut [35] (fun v W => v = .bool false ∧ Rb2 w W s A n c xs s' A' n' c' ys)
  case first =>
    have a0 := E.out.ba.c0
    have a1 := E.out.ba.c1
    have b0 := E.out.bb.c0
    have b1 := E.out.bb.c1
    go_wp2_with fail
    have hb := below_alloc W0 (.cells #[.bool s, .slice A n c] 24)
    refine (short1r_c 20 _ A n c _ (by go_simp)).mono ?_
    rintro e w1 ⟨rfl, hb1⟩
    replace E := Lib.hid ((E.out.next hb).next hb1)
    clear hb hb1 a0 a1 b0 b1
    rw [decide_eq_true HASK.out.1]
    have b0 := E.out.bb.c0
    have b1 := E.out.bb.c1
    rcases HASK.out.2.1 with h1 | h1
    · have t1 : decide ((20 : Int) < (n' : Int)) = false := decide_eq_false (by omega)
      have t3 : ¬ (20 : Int) < (n' : Int) := by omega
      clear h1
      rcases HASK.out.2.2 with h2 | h2
      · have t5 : decide (400 < K) = false := decide_eq_false (by omega)
        go_wp2
        go_meet
        exact ⟨rfl, E.out⟩
      · have t5 : decide (400 < K) = true := decide_eq_true (by omega)
        have t6 : decide (K ≤ 20000) = false := decide_eq_false (by omega)
        go_wp2
        go_meet
        exact ⟨rfl, E.out⟩
    · have t1 : decide ((20 : Int) < (n' : Int)) = true := decide_eq_true (by omega)
      have t2 : decide ((n' : Int) < 126) = false := decide_eq_false (by omega)
      have t3 : (20 : Int) < (n' : Int) := by omega
      have t4 : ¬ (n' : Int) < 126 := by omega
      clear h1
      rcases HASK.out.2.2 with h2 | h2
      · have t5 : decide (400 < K) = false := decide_eq_false (by omega)
        go_wp2
        go_meet
        exact ⟨rfl, E.out⟩
      · have t5 : decide (400 < K) = true := decide_eq_true (by omega)
        have t6 : decide (K ≤ 20000) = false := decide_eq_false (by omega)
        go_wp2
        go_meet
        exact ⟨rfl, E.out⟩
  case rest =>
    obtain ⟨rfl, hE⟩ := hcut
    clear E
    have E := Lib.hid hE
    clear hE
    have a0 := E.out.ba.c0
    have a1 := E.out.ba.c1
    have b0 := E.out.bb.c0
    have b1 := E.out.bb.c1
    go_wp2_with fail
    refine (HR.out _ E.out.ba.rd E.out.bb.rd).mono ?_
    rintro e w3 ⟨rfl, hb⟩
    replace E := Lib.hid (E.out.next hb)
    clear hb a0 a1 b0 b1
    have a0 := E.out.ba.c0
    have a1 := E.out.ba.c1
    go_wp2_with fail
    refine (code_c E.out.ba.rd HN.out.1.1 HN.out.1.2).mono ?_
    rw [HC.out]
    rintro e w4 ⟨rfl, hb⟩
    replace E := Lib.hid (E.out.next hb)
    clear hb a0 a1
    have b0 := E.out.bb.c0
    have b1 := E.out.bb.c1
    go_wp2_with fail
    refine (refValid_c s' A' n' c' ys _ E.out.bb.rd).mono ?_
    rw [HV.out]
    rintro e W7 ⟨rfl, hb⟩
    replace E := Lib.hid (E.out.next hb)
    clear hb b0 b1
    go_upto_region 7 with (fail)
    refine wp_region_held_drew (S := (fun w' => w'.cell? ⟨w.heap.size + 1, 0, none⟩ = some (.bool s') ∧ w'.cell? ⟨w.heap.size + 1, 1, none⟩ = some (.slice A' n' c'))) (by kernel_rfl) ⟨cell_dr E.out.bb.c0, cell_dr E.out.bb.c1⟩ (fun hHeld => ?_)
    replace E := Lib.hid (E.out.next (Below.refl W7.heap.size W7).drew)
    generalize W7.drew = D6 at E hHeld ⊢
    refine take_on (i := 0) (d := (some 49)) (v := ?v62) rfl rfl (by kernel_rfl) (by kernel_rfl) (by kernel_rfl) (fun c a w h => h) (by rfl) ?h62 (by assumption) ?r62
    case h62 => intro w hSw; obtain ⟨h0, h1⟩ := hSw; go_simp; rfl
    simp only [Act.put, List.setIfInBounds_toArray, List.set_cons_zero, List.set_cons_succ]
    refine take_on (i := 1) (d := (some 50)) (v := ?v63) rfl rfl (by kernel_rfl) (by kernel_rfl) (by kernel_rfl) (fun c a w h => h) (by rfl) ?h63 (by assumption) ?r63
    case h63 => intro w hSw; obtain ⟨h0, h1⟩ := hSw; go_simp; rfl
    simp only [Act.put, List.setIfInBounds_toArray, List.set_cons_zero, List.set_cons_succ]
    refine take_on (i := 2) (d := (some 51)) (v := ?v64) rfl rfl (by kernel_rfl) (by kernel_rfl) (by kernel_rfl) (fun c a w h => h) (by rfl) ?h64 (by assumption) ?r64
    case h64 => intro w hSw; obtain ⟨h0, h1⟩ := hSw; go_simp; rfl
    simp only [Act.put, List.setIfInBounds_toArray, List.set_cons_zero, List.set_cons_succ]
    refine take_on (i := 3) (d := (some 52)) (v := ?v65) rfl rfl (by kernel_rfl) (by kernel_rfl) (by kernel_rfl) (fun c a w h => h) (by rfl) ?h65 (by assumption) ?r65
    case h65 => intro w hSw; obtain ⟨h0, h1⟩ := hSw; go_simp; rfl
    simp only [Act.put, List.setIfInBounds_toArray, List.set_cons_zero, List.set_cons_succ]
    refine wpAnyH_ready (rs := [4]) (by kernel_rfl) (by simp) ?_
    refine AllReadyH.cons rfl (fun K hK => ?_) AllReadyH.nil
    go_simp
    refine (refOfV 1 _ (by omega) (by omega)).mono ?_
    rintro e w7 ⟨t21, A21, n21, c21, rfl, i21, hb⟩
    replace E := Lib.hid (E.out.next hb)
    have J0 := Lib.hid (i21.is)
    clear hb hHeld i21
    refine hK.out _ _ ⟨E.out.bb.c0, E.out.bb.c1⟩ (fun hHeld => ?_)
    clear hK K
    refine wpAnyH_ready (rs := [5]) (by kernel_rfl) (by simp) ?_
    refine AllReadyH.cons rfl (fun K hK => ?_) AllReadyH.nil
    go_simp
    refine (refCmp_c (HI.out _ E.out.bb.rd).is J0.out (Nat.le_trans (raw_len E.out.bb.rd HV.out) (by omega)) (Nat.le_trans (J0.out.len (sz_one' (Nat.le_refl 1))) (by omega))).mono ?_
    rw [HO.out]
    rintro e w8 ⟨rfl, hb⟩
    clear J0
    replace E := Lib.hid (E.out.next hb)
    clear hb hHeld
    refine hK.out _ _ ⟨E.out.bb.c0, E.out.bb.c1⟩ (fun hHeld => ?_)
    clear hK K
    refine take_on (i := 6) (d := (some 55)) (v := ?v66) rfl rfl (by kernel_rfl) (by kernel_rfl) (by kernel_rfl) (fun c a w h => h) (by rfl) ?h66 (by assumption) ?r66
    case h66 => intro w hSw; obtain ⟨h0, h1⟩ := hSw; go_simp; rfl
    simp only [Act.put, List.setIfInBounds_toArray, List.set_cons_zero, List.set_cons_succ]
    refine take_on (i := 7) (d := (some 56)) (v := ?v67) rfl rfl (by kernel_rfl) (by kernel_rfl) (by kernel_rfl) (fun c a w h => h) (by rfl) ?h67 (by assumption) ?r67
    case h67 => intro w hSw; obtain ⟨h0, h1⟩ := hSw; go_simp; rfl
    simp only [Act.put, List.setIfInBounds_toArray, List.set_cons_zero, List.set_cons_succ]
    refine take_on (i := 8) (d := (some 57)) (v := ?v68) rfl rfl (by kernel_rfl) (by kernel_rfl) (by kernel_rfl) (fun c a w h => h) (by rfl) ?h68 (by assumption) ?r68
    case h68 => intro w hSw; obtain ⟨h0, h1⟩ := hSw; go_simp; rfl
    simp only [Act.put, List.setIfInBounds_toArray, List.set_cons_zero, List.set_cons_succ]
    refine wpAnyH_ready (rs := [9]) (by kernel_rfl) (by simp) ?_
    refine AllReadyH.cons rfl (fun K hK => ?_) AllReadyH.nil
    go_simp
    refine (refBits_c s' A' n' c' _ _ (HI.out _ E.out.bb.rd).is.2.2.1 (words_canon _) (Nat.le_trans (raw_len E.out.bb.rd HV.out) (by omega))).mono ?_
    rw [val_words, ← HBL.out]
    rintro e w9 ⟨rfl, hb⟩
    replace E := Lib.hid (E.out.next hb)
    clear hb hHeld
    refine hK.out _ _ ⟨E.out.bb.c0, E.out.bb.c1⟩ (fun hHeld => ?_)
    clear hK K
    refine take_on (i := 10) (d := (some 59)) (v := ?v69) rfl rfl (by kernel_rfl) (by kernel_rfl) (by kernel_rfl) (fun c a w h => h) (by rfl) ?h69 (by assumption) ?r69
    case h69 => intro w hSw; obtain ⟨h0, h1⟩ := hSw; go_simp; rfl
    simp only [Act.put, List.setIfInBounds_toArray, List.set_cons_zero, List.set_cons_succ]
    refine take_on (i := 11) (d := (some 60)) (v := ?v70) rfl rfl (by kernel_rfl) (by kernel_rfl) (by kernel_rfl) (fun c a w h => h) (by rfl) ?h70 (by assumption) ?r70
    case h70 => intro w hSw; obtain ⟨h0, h1⟩ := hSw; go_simp; rfl
    simp only [Act.put, List.setIfInBounds_toArray, List.set_cons_zero, List.set_cons_succ]
    refine take_on (i := 12) (d := (some 61)) (v := ?v71) rfl rfl (by kernel_rfl) (by kernel_rfl) (by kernel_rfl) (fun c a w h => h) (by rfl) ?h71 (by assumption) ?r71
    case h71 => intro w hSw; obtain ⟨h0, h1⟩ := hSw; go_simp; rfl
    simp only [Act.put, List.setIfInBounds_toArray, List.set_cons_zero, List.set_cons_succ]
    refine take_off (i := 13) (d := (some 62)) rfl rfl (by kernel_rfl) (by kernel_rfl) (by kernel_rfl) (fun c a w h => h) (by rfl) (by assumption) ?_
    simp only [Act.put, List.setIfInBounds_toArray, List.set_cons_zero, List.set_cons_succ]
    refine take_off (i := 14) (d := (some 63)) rfl rfl (by kernel_rfl) (by kernel_rfl) (by kernel_rfl) (fun c a w h => h) (by rfl) (by assumption) ?_
    simp only [Act.put, List.setIfInBounds_toArray, List.set_cons_zero, List.set_cons_succ]
    refine take_on (i := 15) (d := (some 64)) (v := ?v74) rfl rfl (by kernel_rfl) (by kernel_rfl) (by kernel_rfl) (fun c a w h => h) (by rfl) ?h74 (by assumption) ?r74
    case h74 => intro w hSw; obtain ⟨h0, h1⟩ := hSw; go_simp; rfl
    simp only [Act.put, List.setIfInBounds_toArray, List.set_cons_zero, List.set_cons_succ]
    refine take_on (i := 16) (d := (some 65)) (v := ?v75) rfl rfl (by kernel_rfl) (by kernel_rfl) (by kernel_rfl) (fun c a w h => h) (by rfl) ?h75 (by assumption) ?r75
    case h75 => intro w hSw; obtain ⟨h0, h1⟩ := hSw; go_simp; rfl
    simp only [Act.put, List.setIfInBounds_toArray, List.set_cons_zero, List.set_cons_succ]
    refine take_off (i := 17) (d := (some 66)) rfl rfl (by kernel_rfl) (by kernel_rfl) (by kernel_rfl) (fun c a w h => h) (by rfl) (by assumption) ?_
    simp only [Act.put, List.setIfInBounds_toArray, List.set_cons_zero, List.set_cons_succ]
    refine take_off (i := 18) (d := (some 67)) rfl rfl (by kernel_rfl) (by kernel_rfl) (by kernel_rfl) (fun c a w h => h) (by rfl) (by assumption) ?_
    simp only [Act.put, List.setIfInBounds_toArray, List.set_cons_zero, List.set_cons_succ]
    refine take_on (i := 19) (d := (some 68)) (v := ?v78) rfl rfl (by kernel_rfl) (by kernel_rfl) (by kernel_rfl) (fun c a w h => h) (by rfl) ?h78 (by assumption) ?r78
    case h78 => intro w hSw; obtain ⟨h0, h1⟩ := hSw; go_simp; rfl
    simp only [Act.put, List.setIfInBounds_toArray, List.set_cons_zero, List.set_cons_succ]
    refine take_on (i := 20) (d := (some 69)) (v := ?v79) rfl rfl (by kernel_rfl) (by kernel_rfl) (by kernel_rfl) (fun c a w h => h) (by rfl) ?h79 (by assumption) ?r79
    case h79 => intro w hSw; obtain ⟨h0, h1⟩ := hSw; go_simp; rfl
    simp only [Act.put, List.setIfInBounds_toArray, List.set_cons_zero, List.set_cons_succ]
    clear hHeld
    refine wpAnyH_done (by kernel_rfl) ?_ _
    go_wp2_with fail
    refine (awake8_c _).mono ?_
    rintro e u9 ⟨rfl, b9⟩
    have P9 := Lib.hid (E.out.below.trans (b9.mono E.out.below.size))
    clear b9
    go_wp2
    go_ret
    exact ⟨rfl, P9.out⟩
set_option maxHeartbeats 8000000 in
theorem LucasRank_C (s : Bool) (A : Option Addr) (n c : Nat) (xs : List Nat) (s' : Bool) (A' : Option Addr) (n' c' : Nat) (ys : List Nat) (K : Int) (w : World) (h : Rd w A n xs) (hn : n ≤ c) (hc : c ≤ 9223372036854775807) (h' : Rd w A' n' ys) (hn' : n' ≤ c') (hc' : c' ≤ 9223372036854775807) (hask : RankYes n n' K) (hR : ∀ W, Rd W A n xs → Rd W A' n' ys → Calls Try.prog 32 #[.agg #[.bool s, .slice A n c], .agg #[.bool s', .slice A' n' c'], .int .i64 K] W (IdxZ 2 W)) (hv : codeV s xs true = 0) (hvy : validB s' ys = true) (hm : ¬ sgn s' (val ys) < 1) (hbb : blen (sgn s' (val ys)).natAbs ≤ 4000) (hK1 : K < 1) :
    Calls Try.prog 6 #[.agg #[.bool s, .slice A n c], .agg #[.bool s', .slice A' n' c'], .int .i64 K] w (IsB true w) := by
  have E := Lib.hid (Rb2.start (s := s) (c := c) (s' := s') (c' := c') h h')
  have HN := Lib.hid (And.intro (And.intro hn hc) (And.intro hn' hc'))
  clear h h' hn hc hn' hc'
  have HASK := Lib.hid hask
  clear hask
  have HR := Lib.hid hR
  have HC := Lib.hid hv
  have HV := Lib.hid hvy
  clear hR hv hvy
  have HI := Lib.hid (fun (W : World) (r : Rd W A' n' ys) => raw_iv (s := s') (c := c') r HV.out HN.out.2.1 HN.out.2.2)
  obtain ⟨bl, hbl⟩ : ∃ bl, bl = blen (sgn s' (val ys)).natAbs := ⟨_, rfl⟩
  have HBL := Lib.hid hbl
  rw [← hbl] at hbb
  have q1 : decide ((4000 : Int) < (bl : Int)) = false := decide_eq_false (by omega)
  have q2 : decide (K < 1) = true := decide_eq_true hK1
  obtain ⟨r, hr⟩ : ∃ r, r = ord (sgn s' (val ys)) 1 := ⟨_, rfl⟩
  have r0 : 0 ≤ r := by rw [hr]; exact ord_ge hm
  have r1 : decide (r < 0) = false := decide_eq_false (by omega)
  have HO := Lib.hid hr.symm
  clear hr hbl hbb hm
  go_enter Try.func6, Try.ntmps6
  go_upto_region 1 with (fail)
  generalize (w.alloc (.cells #[.bool s, .slice A n c] 24)).alloc (.cells #[.bool s', .slice A' n' c'] 24) = W0 at E ⊢
  go_cut [35] (fun v W => v = .bool false ∧ Rb2 w W s A n c xs s' A' n' c' ys)
  case first =>
    have a0 := E.out.ba.c0
    have a1 := E.out.ba.c1
    have b0 := E.out.bb.c0
    have b1 := E.out.bb.c1
    go_wp2_with fail
    have hb := below_alloc W0 (.cells #[.bool s, .slice A n c] 24)
    refine (short1r_c 20 _ A n c _ (by go_simp)).mono ?_
    rintro e w1 ⟨rfl, hb1⟩
    replace E := Lib.hid ((E.out.next hb).next hb1)
    clear hb hb1 a0 a1 b0 b1
    rw [decide_eq_true HASK.out.1]
    have b0 := E.out.bb.c0
    have b1 := E.out.bb.c1
    rcases HASK.out.2.1 with h1 | h1
    · have t1 : decide ((20 : Int) < (n' : Int)) = false := decide_eq_false (by omega)
      have t3 : ¬ (20 : Int) < (n' : Int) := by omega
      clear h1
      rcases HASK.out.2.2 with h2 | h2
      · have t5 : decide (400 < K) = false := decide_eq_false (by omega)
        go_wp2
        go_meet
        exact ⟨rfl, E.out⟩
      · exfalso; omega
    · have t1 : decide ((20 : Int) < (n' : Int)) = true := decide_eq_true (by omega)
      have t2 : decide ((n' : Int) < 126) = false := decide_eq_false (by omega)
      have t3 : (20 : Int) < (n' : Int) := by omega
      have t4 : ¬ (n' : Int) < 126 := by omega
      clear h1
      rcases HASK.out.2.2 with h2 | h2
      · have t5 : decide (400 < K) = false := decide_eq_false (by omega)
        go_wp2
        go_meet
        exact ⟨rfl, E.out⟩
      · exfalso; omega
  case rest =>
    obtain ⟨rfl, hE⟩ := hcut
    clear E
    have E := Lib.hid hE
    clear hE
    have a0 := E.out.ba.c0
    have a1 := E.out.ba.c1
    have b0 := E.out.bb.c0
    have b1 := E.out.bb.c1
    go_wp2_with fail
    refine (HR.out _ E.out.ba.rd E.out.bb.rd).mono ?_
    rintro e w3 ⟨rfl, hb⟩
    replace E := Lib.hid (E.out.next hb)
    clear hb a0 a1 b0 b1
    have a0 := E.out.ba.c0
    have a1 := E.out.ba.c1
    go_wp2_with fail
    refine (code_c E.out.ba.rd HN.out.1.1 HN.out.1.2).mono ?_
    rw [HC.out]
    rintro e w4 ⟨rfl, hb⟩
    replace E := Lib.hid (E.out.next hb)
    clear hb a0 a1
    have b0 := E.out.bb.c0
    have b1 := E.out.bb.c1
    go_wp2_with fail
    refine (refValid_c s' A' n' c' ys _ E.out.bb.rd).mono ?_
    rw [HV.out]
    rintro e W7 ⟨rfl, hb⟩
    replace E := Lib.hid (E.out.next hb)
    clear hb b0 b1
    go_upto_region 7 with (fail)
    refine wp_region_held_drew (S := (fun w' => w'.cell? ⟨w.heap.size + 1, 0, none⟩ = some (.bool s') ∧ w'.cell? ⟨w.heap.size + 1, 1, none⟩ = some (.slice A' n' c'))) (by kernel_rfl) ⟨cell_dr E.out.bb.c0, cell_dr E.out.bb.c1⟩ (fun hHeld => ?_)
    replace E := Lib.hid (E.out.next (Below.refl W7.heap.size W7).drew)
    generalize W7.drew = D10 at E hHeld ⊢
    refine take_on (i := 0) (d := (some 49)) (v := ?v80) rfl rfl (by kernel_rfl) (by kernel_rfl) (by kernel_rfl) (fun c a w h => h) (by rfl) ?h80 (by assumption) ?r80
    case h80 => intro w hSw; obtain ⟨h0, h1⟩ := hSw; go_simp; rfl
    simp only [Act.put, List.setIfInBounds_toArray, List.set_cons_zero, List.set_cons_succ]
    refine take_on (i := 1) (d := (some 50)) (v := ?v81) rfl rfl (by kernel_rfl) (by kernel_rfl) (by kernel_rfl) (fun c a w h => h) (by rfl) ?h81 (by assumption) ?r81
    case h81 => intro w hSw; obtain ⟨h0, h1⟩ := hSw; go_simp; rfl
    simp only [Act.put, List.setIfInBounds_toArray, List.set_cons_zero, List.set_cons_succ]
    refine take_on (i := 2) (d := (some 51)) (v := ?v82) rfl rfl (by kernel_rfl) (by kernel_rfl) (by kernel_rfl) (fun c a w h => h) (by rfl) ?h82 (by assumption) ?r82
    case h82 => intro w hSw; obtain ⟨h0, h1⟩ := hSw; go_simp; rfl
    simp only [Act.put, List.setIfInBounds_toArray, List.set_cons_zero, List.set_cons_succ]
    refine take_on (i := 3) (d := (some 52)) (v := ?v83) rfl rfl (by kernel_rfl) (by kernel_rfl) (by kernel_rfl) (fun c a w h => h) (by rfl) ?h83 (by assumption) ?r83
    case h83 => intro w hSw; obtain ⟨h0, h1⟩ := hSw; go_simp; rfl
    simp only [Act.put, List.setIfInBounds_toArray, List.set_cons_zero, List.set_cons_succ]
    refine wpAnyH_ready (rs := [4]) (by kernel_rfl) (by simp) ?_
    refine AllReadyH.cons rfl (fun K hK => ?_) AllReadyH.nil
    go_simp
    refine (refOfV 1 _ (by omega) (by omega)).mono ?_
    rintro e w11 ⟨t21, A21, n21, c21, rfl, i21, hb⟩
    replace E := Lib.hid (E.out.next hb)
    have J0 := Lib.hid (i21.is)
    clear hb hHeld i21
    refine hK.out _ _ ⟨E.out.bb.c0, E.out.bb.c1⟩ (fun hHeld => ?_)
    clear hK K
    refine wpAnyH_ready (rs := [5]) (by kernel_rfl) (by simp) ?_
    refine AllReadyH.cons rfl (fun K hK => ?_) AllReadyH.nil
    go_simp
    refine (refCmp_c (HI.out _ E.out.bb.rd).is J0.out (Nat.le_trans (raw_len E.out.bb.rd HV.out) (by omega)) (Nat.le_trans (J0.out.len (sz_one' (Nat.le_refl 1))) (by omega))).mono ?_
    rw [HO.out]
    rintro e w12 ⟨rfl, hb⟩
    clear J0
    replace E := Lib.hid (E.out.next hb)
    clear hb hHeld
    refine hK.out _ _ ⟨E.out.bb.c0, E.out.bb.c1⟩ (fun hHeld => ?_)
    clear hK K
    refine take_on (i := 6) (d := (some 55)) (v := ?v84) rfl rfl (by kernel_rfl) (by kernel_rfl) (by kernel_rfl) (fun c a w h => h) (by rfl) ?h84 (by assumption) ?r84
    case h84 => intro w hSw; obtain ⟨h0, h1⟩ := hSw; go_simp; rfl
    simp only [Act.put, List.setIfInBounds_toArray, List.set_cons_zero, List.set_cons_succ]
    refine take_on (i := 7) (d := (some 56)) (v := ?v85) rfl rfl (by kernel_rfl) (by kernel_rfl) (by kernel_rfl) (fun c a w h => h) (by rfl) ?h85 (by assumption) ?r85
    case h85 => intro w hSw; obtain ⟨h0, h1⟩ := hSw; go_simp; rfl
    simp only [Act.put, List.setIfInBounds_toArray, List.set_cons_zero, List.set_cons_succ]
    refine take_on (i := 8) (d := (some 57)) (v := ?v86) rfl rfl (by kernel_rfl) (by kernel_rfl) (by kernel_rfl) (fun c a w h => h) (by rfl) ?h86 (by assumption) ?r86
    case h86 => intro w hSw; obtain ⟨h0, h1⟩ := hSw; go_simp; rfl
    simp only [Act.put, List.setIfInBounds_toArray, List.set_cons_zero, List.set_cons_succ]
    refine wpAnyH_ready (rs := [9]) (by kernel_rfl) (by simp) ?_
    refine AllReadyH.cons rfl (fun K hK => ?_) AllReadyH.nil
    go_simp
    refine (refBits_c s' A' n' c' _ _ (HI.out _ E.out.bb.rd).is.2.2.1 (words_canon _) (Nat.le_trans (raw_len E.out.bb.rd HV.out) (by omega))).mono ?_
    rw [val_words, ← HBL.out]
    rintro e w13 ⟨rfl, hb⟩
    replace E := Lib.hid (E.out.next hb)
    clear hb hHeld
    refine hK.out _ _ ⟨E.out.bb.c0, E.out.bb.c1⟩ (fun hHeld => ?_)
    clear hK K
    refine take_on (i := 10) (d := (some 59)) (v := ?v87) rfl rfl (by kernel_rfl) (by kernel_rfl) (by kernel_rfl) (fun c a w h => h) (by rfl) ?h87 (by assumption) ?r87
    case h87 => intro w hSw; obtain ⟨h0, h1⟩ := hSw; go_simp; rfl
    simp only [Act.put, List.setIfInBounds_toArray, List.set_cons_zero, List.set_cons_succ]
    refine take_on (i := 11) (d := (some 60)) (v := ?v88) rfl rfl (by kernel_rfl) (by kernel_rfl) (by kernel_rfl) (fun c a w h => h) (by rfl) ?h88 (by assumption) ?r88
    case h88 => intro w hSw; obtain ⟨h0, h1⟩ := hSw; go_simp; rfl
    simp only [Act.put, List.setIfInBounds_toArray, List.set_cons_zero, List.set_cons_succ]
    refine take_on (i := 12) (d := (some 61)) (v := ?v89) rfl rfl (by kernel_rfl) (by kernel_rfl) (by kernel_rfl) (fun c a w h => h) (by rfl) ?h89 (by assumption) ?r89
    case h89 => intro w hSw; obtain ⟨h0, h1⟩ := hSw; go_simp; rfl
    simp only [Act.put, List.setIfInBounds_toArray, List.set_cons_zero, List.set_cons_succ]
    refine take_on (i := 13) (d := (some 62)) (v := ?v90) rfl rfl (by kernel_rfl) (by kernel_rfl) (by kernel_rfl) (fun c a w h => h) (by rfl) ?h90 (by assumption) ?r90
    case h90 => intro w hSw; obtain ⟨h0, h1⟩ := hSw; go_simp; rfl
    simp only [Act.put, List.setIfInBounds_toArray, List.set_cons_zero, List.set_cons_succ]
    refine take_on (i := 14) (d := (some 63)) (v := ?v91) rfl rfl (by kernel_rfl) (by kernel_rfl) (by kernel_rfl) (fun c a w h => h) (by rfl) ?h91 (by assumption) ?r91
    case h91 => intro w hSw; obtain ⟨h0, h1⟩ := hSw; go_simp; rfl
    simp only [Act.put, List.setIfInBounds_toArray, List.set_cons_zero, List.set_cons_succ]
    refine take_on (i := 15) (d := (some 64)) (v := ?v92) rfl rfl (by kernel_rfl) (by kernel_rfl) (by kernel_rfl) (fun c a w h => h) (by rfl) ?h92 (by assumption) ?r92
    case h92 => intro w hSw; obtain ⟨h0, h1⟩ := hSw; go_simp; rfl
    simp only [Act.put, List.setIfInBounds_toArray, List.set_cons_zero, List.set_cons_succ]
    refine take_on (i := 16) (d := (some 65)) (v := ?v93) rfl rfl (by kernel_rfl) (by kernel_rfl) (by kernel_rfl) (fun c a w h => h) (by rfl) ?h93 (by assumption) ?r93
    case h93 => intro w hSw; obtain ⟨h0, h1⟩ := hSw; go_simp; rfl
    simp only [Act.put, List.setIfInBounds_toArray, List.set_cons_zero, List.set_cons_succ]
    refine take_off (i := 17) (d := (some 66)) rfl rfl (by kernel_rfl) (by kernel_rfl) (by kernel_rfl) (fun c a w h => h) (by rfl) (by assumption) ?_
    simp only [Act.put, List.setIfInBounds_toArray, List.set_cons_zero, List.set_cons_succ]
    refine take_off (i := 18) (d := (some 67)) rfl rfl (by kernel_rfl) (by kernel_rfl) (by kernel_rfl) (fun c a w h => h) (by rfl) (by assumption) ?_
    simp only [Act.put, List.setIfInBounds_toArray, List.set_cons_zero, List.set_cons_succ]
    refine take_on (i := 19) (d := (some 68)) (v := ?v96) rfl rfl (by kernel_rfl) (by kernel_rfl) (by kernel_rfl) (fun c a w h => h) (by rfl) ?h96 (by assumption) ?r96
    case h96 => intro w hSw; obtain ⟨h0, h1⟩ := hSw; go_simp; rfl
    simp only [Act.put, List.setIfInBounds_toArray, List.set_cons_zero, List.set_cons_succ]
    refine take_on (i := 20) (d := (some 69)) (v := ?v97) rfl rfl (by kernel_rfl) (by kernel_rfl) (by kernel_rfl) (fun c a w h => h) (by rfl) ?h97 (by assumption) ?r97
    case h97 => intro w hSw; obtain ⟨h0, h1⟩ := hSw; go_simp; rfl
    simp only [Act.put, List.setIfInBounds_toArray, List.set_cons_zero, List.set_cons_succ]
    clear hHeld
    refine wpAnyH_done (by kernel_rfl) ?_ _
    go_wp2_with fail
    refine (awake8_c _).mono ?_
    rintro e u9 ⟨rfl, b9⟩
    have P9 := Lib.hid (E.out.below.trans (b9.mono E.out.below.size))
    clear b9
    go_wp2
    go_ret
    exact ⟨rfl, P9.out⟩
set_option maxHeartbeats 8000000 in
theorem LucasRank_D (s : Bool) (A : Option Addr) (n c : Nat) (xs : List Nat) (s' : Bool) (A' : Option Addr) (n' c' : Nat) (ys : List Nat) (K : Int) (w : World) (h : Rd w A n xs) (hn : n ≤ c) (hc : c ≤ 9223372036854775807) (h' : Rd w A' n' ys) (hn' : n' ≤ c') (hc' : c' ≤ 9223372036854775807) (hask : RankYes n n' K) (hR : ∀ W, Rd W A n xs → Rd W A' n' ys → Calls Try.prog 32 #[.agg #[.bool s, .slice A n c], .agg #[.bool s', .slice A' n' c'], .int .i64 K] W (IdxZ 2 W)) (hv : codeV s xs true = 0) (hvy : validB s' ys = true) (hm : ¬ sgn s' (val ys) < 1) (hbb : blen (sgn s' (val ys)).natAbs ≤ 4000) (hK1 : ¬ K < 1) (hK2 : 20000 < K) :
    Calls Try.prog 6 #[.agg #[.bool s, .slice A n c], .agg #[.bool s', .slice A' n' c'], .int .i64 K] w (IsB true w) := by
  have E := Lib.hid (Rb2.start (s := s) (c := c) (s' := s') (c' := c') h h')
  have HN := Lib.hid (And.intro (And.intro hn hc) (And.intro hn' hc'))
  clear h h' hn hc hn' hc'
  have HASK := Lib.hid hask
  clear hask
  have HR := Lib.hid hR
  have HC := Lib.hid hv
  have HV := Lib.hid hvy
  clear hR hv hvy
  have HI := Lib.hid (fun (W : World) (r : Rd W A' n' ys) => raw_iv (s := s') (c := c') r HV.out HN.out.2.1 HN.out.2.2)
  obtain ⟨bl, hbl⟩ : ∃ bl, bl = blen (sgn s' (val ys)).natAbs := ⟨_, rfl⟩
  have HBL := Lib.hid hbl
  rw [← hbl] at hbb
  have q1 : decide ((4000 : Int) < (bl : Int)) = false := decide_eq_false (by omega)
  have q2 : decide (K < 1) = false := decide_eq_false hK1
  have q3 : decide (20000 < K) = true := decide_eq_true hK2
  obtain ⟨r, hr⟩ : ∃ r, r = ord (sgn s' (val ys)) 1 := ⟨_, rfl⟩
  have r0 : 0 ≤ r := by rw [hr]; exact ord_ge hm
  have r1 : decide (r < 0) = false := decide_eq_false (by omega)
  have HO := Lib.hid hr.symm
  clear hr hbl hbb hm
  go_enter Try.func6, Try.ntmps6
  go_upto_region 1 with (fail)
  generalize (w.alloc (.cells #[.bool s, .slice A n c] 24)).alloc (.cells #[.bool s', .slice A' n' c'] 24) = W0 at E ⊢
  go_cut [35] (fun v W => v = .bool false ∧ Rb2 w W s A n c xs s' A' n' c' ys)
  case first =>
    have a0 := E.out.ba.c0
    have a1 := E.out.ba.c1
    have b0 := E.out.bb.c0
    have b1 := E.out.bb.c1
    go_wp2_with fail
    have hb := below_alloc W0 (.cells #[.bool s, .slice A n c] 24)
    refine (short1r_c 20 _ A n c _ (by go_simp)).mono ?_
    rintro e w1 ⟨rfl, hb1⟩
    replace E := Lib.hid ((E.out.next hb).next hb1)
    clear hb hb1 a0 a1 b0 b1
    rw [decide_eq_true HASK.out.1]
    have b0 := E.out.bb.c0
    have b1 := E.out.bb.c1
    rcases HASK.out.2.1 with h1 | h1
    · have t1 : decide ((20 : Int) < (n' : Int)) = false := decide_eq_false (by omega)
      have t3 : ¬ (20 : Int) < (n' : Int) := by omega
      clear h1
      rcases HASK.out.2.2 with h2 | h2
      · exfalso; omega
      · have t5 : decide (400 < K) = true := decide_eq_true (by omega)
        have t6 : decide (K ≤ 20000) = false := decide_eq_false (by omega)
        go_wp2
        go_meet
        exact ⟨rfl, E.out⟩
    · have t1 : decide ((20 : Int) < (n' : Int)) = true := decide_eq_true (by omega)
      have t2 : decide ((n' : Int) < 126) = false := decide_eq_false (by omega)
      have t3 : (20 : Int) < (n' : Int) := by omega
      have t4 : ¬ (n' : Int) < 126 := by omega
      clear h1
      rcases HASK.out.2.2 with h2 | h2
      · exfalso; omega
      · have t5 : decide (400 < K) = true := decide_eq_true (by omega)
        have t6 : decide (K ≤ 20000) = false := decide_eq_false (by omega)
        go_wp2
        go_meet
        exact ⟨rfl, E.out⟩
  case rest =>
    obtain ⟨rfl, hE⟩ := hcut
    clear E
    have E := Lib.hid hE
    clear hE
    have a0 := E.out.ba.c0
    have a1 := E.out.ba.c1
    have b0 := E.out.bb.c0
    have b1 := E.out.bb.c1
    go_wp2_with fail
    refine (HR.out _ E.out.ba.rd E.out.bb.rd).mono ?_
    rintro e w3 ⟨rfl, hb⟩
    replace E := Lib.hid (E.out.next hb)
    clear hb a0 a1 b0 b1
    have a0 := E.out.ba.c0
    have a1 := E.out.ba.c1
    go_wp2_with fail
    refine (code_c E.out.ba.rd HN.out.1.1 HN.out.1.2).mono ?_
    rw [HC.out]
    rintro e w4 ⟨rfl, hb⟩
    replace E := Lib.hid (E.out.next hb)
    clear hb a0 a1
    have b0 := E.out.bb.c0
    have b1 := E.out.bb.c1
    go_wp2_with fail
    refine (refValid_c s' A' n' c' ys _ E.out.bb.rd).mono ?_
    rw [HV.out]
    rintro e W7 ⟨rfl, hb⟩
    replace E := Lib.hid (E.out.next hb)
    clear hb b0 b1
    go_upto_region 7 with (fail)
    refine wp_region_held_drew (S := (fun w' => w'.cell? ⟨w.heap.size + 1, 0, none⟩ = some (.bool s') ∧ w'.cell? ⟨w.heap.size + 1, 1, none⟩ = some (.slice A' n' c'))) (by kernel_rfl) ⟨cell_dr E.out.bb.c0, cell_dr E.out.bb.c1⟩ (fun hHeld => ?_)
    replace E := Lib.hid (E.out.next (Below.refl W7.heap.size W7).drew)
    generalize W7.drew = D14 at E hHeld ⊢
    refine take_on (i := 0) (d := (some 49)) (v := ?v98) rfl rfl (by kernel_rfl) (by kernel_rfl) (by kernel_rfl) (fun c a w h => h) (by rfl) ?h98 (by assumption) ?r98
    case h98 => intro w hSw; obtain ⟨h0, h1⟩ := hSw; go_simp; rfl
    simp only [Act.put, List.setIfInBounds_toArray, List.set_cons_zero, List.set_cons_succ]
    refine take_on (i := 1) (d := (some 50)) (v := ?v99) rfl rfl (by kernel_rfl) (by kernel_rfl) (by kernel_rfl) (fun c a w h => h) (by rfl) ?h99 (by assumption) ?r99
    case h99 => intro w hSw; obtain ⟨h0, h1⟩ := hSw; go_simp; rfl
    simp only [Act.put, List.setIfInBounds_toArray, List.set_cons_zero, List.set_cons_succ]
    refine take_on (i := 2) (d := (some 51)) (v := ?v100) rfl rfl (by kernel_rfl) (by kernel_rfl) (by kernel_rfl) (fun c a w h => h) (by rfl) ?h100 (by assumption) ?r100
    case h100 => intro w hSw; obtain ⟨h0, h1⟩ := hSw; go_simp; rfl
    simp only [Act.put, List.setIfInBounds_toArray, List.set_cons_zero, List.set_cons_succ]
    refine take_on (i := 3) (d := (some 52)) (v := ?v101) rfl rfl (by kernel_rfl) (by kernel_rfl) (by kernel_rfl) (fun c a w h => h) (by rfl) ?h101 (by assumption) ?r101
    case h101 => intro w hSw; obtain ⟨h0, h1⟩ := hSw; go_simp; rfl
    simp only [Act.put, List.setIfInBounds_toArray, List.set_cons_zero, List.set_cons_succ]
    refine wpAnyH_ready (rs := [4]) (by kernel_rfl) (by simp) ?_
    refine AllReadyH.cons rfl (fun K hK => ?_) AllReadyH.nil
    go_simp
    refine (refOfV 1 _ (by omega) (by omega)).mono ?_
    rintro e w15 ⟨t21, A21, n21, c21, rfl, i21, hb⟩
    replace E := Lib.hid (E.out.next hb)
    have J0 := Lib.hid (i21.is)
    clear hb hHeld i21
    refine hK.out _ _ ⟨E.out.bb.c0, E.out.bb.c1⟩ (fun hHeld => ?_)
    clear hK K
    refine wpAnyH_ready (rs := [5]) (by kernel_rfl) (by simp) ?_
    refine AllReadyH.cons rfl (fun K hK => ?_) AllReadyH.nil
    go_simp
    refine (refCmp_c (HI.out _ E.out.bb.rd).is J0.out (Nat.le_trans (raw_len E.out.bb.rd HV.out) (by omega)) (Nat.le_trans (J0.out.len (sz_one' (Nat.le_refl 1))) (by omega))).mono ?_
    rw [HO.out]
    rintro e w16 ⟨rfl, hb⟩
    clear J0
    replace E := Lib.hid (E.out.next hb)
    clear hb hHeld
    refine hK.out _ _ ⟨E.out.bb.c0, E.out.bb.c1⟩ (fun hHeld => ?_)
    clear hK K
    refine take_on (i := 6) (d := (some 55)) (v := ?v102) rfl rfl (by kernel_rfl) (by kernel_rfl) (by kernel_rfl) (fun c a w h => h) (by rfl) ?h102 (by assumption) ?r102
    case h102 => intro w hSw; obtain ⟨h0, h1⟩ := hSw; go_simp; rfl
    simp only [Act.put, List.setIfInBounds_toArray, List.set_cons_zero, List.set_cons_succ]
    refine take_on (i := 7) (d := (some 56)) (v := ?v103) rfl rfl (by kernel_rfl) (by kernel_rfl) (by kernel_rfl) (fun c a w h => h) (by rfl) ?h103 (by assumption) ?r103
    case h103 => intro w hSw; obtain ⟨h0, h1⟩ := hSw; go_simp; rfl
    simp only [Act.put, List.setIfInBounds_toArray, List.set_cons_zero, List.set_cons_succ]
    refine take_on (i := 8) (d := (some 57)) (v := ?v104) rfl rfl (by kernel_rfl) (by kernel_rfl) (by kernel_rfl) (fun c a w h => h) (by rfl) ?h104 (by assumption) ?r104
    case h104 => intro w hSw; obtain ⟨h0, h1⟩ := hSw; go_simp; rfl
    simp only [Act.put, List.setIfInBounds_toArray, List.set_cons_zero, List.set_cons_succ]
    refine wpAnyH_ready (rs := [9]) (by kernel_rfl) (by simp) ?_
    refine AllReadyH.cons rfl (fun K hK => ?_) AllReadyH.nil
    go_simp
    refine (refBits_c s' A' n' c' _ _ (HI.out _ E.out.bb.rd).is.2.2.1 (words_canon _) (Nat.le_trans (raw_len E.out.bb.rd HV.out) (by omega))).mono ?_
    rw [val_words, ← HBL.out]
    rintro e w17 ⟨rfl, hb⟩
    replace E := Lib.hid (E.out.next hb)
    clear hb hHeld
    refine hK.out _ _ ⟨E.out.bb.c0, E.out.bb.c1⟩ (fun hHeld => ?_)
    clear hK K
    refine take_on (i := 10) (d := (some 59)) (v := ?v105) rfl rfl (by kernel_rfl) (by kernel_rfl) (by kernel_rfl) (fun c a w h => h) (by rfl) ?h105 (by assumption) ?r105
    case h105 => intro w hSw; obtain ⟨h0, h1⟩ := hSw; go_simp; rfl
    simp only [Act.put, List.setIfInBounds_toArray, List.set_cons_zero, List.set_cons_succ]
    refine take_on (i := 11) (d := (some 60)) (v := ?v106) rfl rfl (by kernel_rfl) (by kernel_rfl) (by kernel_rfl) (fun c a w h => h) (by rfl) ?h106 (by assumption) ?r106
    case h106 => intro w hSw; obtain ⟨h0, h1⟩ := hSw; go_simp; rfl
    simp only [Act.put, List.setIfInBounds_toArray, List.set_cons_zero, List.set_cons_succ]
    refine take_on (i := 12) (d := (some 61)) (v := ?v107) rfl rfl (by kernel_rfl) (by kernel_rfl) (by kernel_rfl) (fun c a w h => h) (by rfl) ?h107 (by assumption) ?r107
    case h107 => intro w hSw; obtain ⟨h0, h1⟩ := hSw; go_simp; rfl
    simp only [Act.put, List.setIfInBounds_toArray, List.set_cons_zero, List.set_cons_succ]
    refine take_on (i := 13) (d := (some 62)) (v := ?v108) rfl rfl (by kernel_rfl) (by kernel_rfl) (by kernel_rfl) (fun c a w h => h) (by rfl) ?h108 (by assumption) ?r108
    case h108 => intro w hSw; obtain ⟨h0, h1⟩ := hSw; go_simp; rfl
    simp only [Act.put, List.setIfInBounds_toArray, List.set_cons_zero, List.set_cons_succ]
    refine take_on (i := 14) (d := (some 63)) (v := ?v109) rfl rfl (by kernel_rfl) (by kernel_rfl) (by kernel_rfl) (fun c a w h => h) (by rfl) ?h109 (by assumption) ?r109
    case h109 => intro w hSw; obtain ⟨h0, h1⟩ := hSw; go_simp; rfl
    simp only [Act.put, List.setIfInBounds_toArray, List.set_cons_zero, List.set_cons_succ]
    refine take_on (i := 15) (d := (some 64)) (v := ?v110) rfl rfl (by kernel_rfl) (by kernel_rfl) (by kernel_rfl) (fun c a w h => h) (by rfl) ?h110 (by assumption) ?r110
    case h110 => intro w hSw; obtain ⟨h0, h1⟩ := hSw; go_simp; rfl
    simp only [Act.put, List.setIfInBounds_toArray, List.set_cons_zero, List.set_cons_succ]
    refine take_on (i := 16) (d := (some 65)) (v := ?v111) rfl rfl (by kernel_rfl) (by kernel_rfl) (by kernel_rfl) (fun c a w h => h) (by rfl) ?h111 (by assumption) ?r111
    case h111 => intro w hSw; obtain ⟨h0, h1⟩ := hSw; go_simp; rfl
    simp only [Act.put, List.setIfInBounds_toArray, List.set_cons_zero, List.set_cons_succ]
    refine take_on (i := 17) (d := (some 66)) (v := ?v112) rfl rfl (by kernel_rfl) (by kernel_rfl) (by kernel_rfl) (fun c a w h => h) (by rfl) ?h112 (by assumption) ?r112
    case h112 => intro w hSw; obtain ⟨h0, h1⟩ := hSw; go_simp; rfl
    simp only [Act.put, List.setIfInBounds_toArray, List.set_cons_zero, List.set_cons_succ]
    refine take_on (i := 18) (d := (some 67)) (v := ?v113) rfl rfl (by kernel_rfl) (by kernel_rfl) (by kernel_rfl) (fun c a w h => h) (by rfl) ?h113 (by assumption) ?r113
    case h113 => intro w hSw; obtain ⟨h0, h1⟩ := hSw; go_simp; rfl
    simp only [Act.put, List.setIfInBounds_toArray, List.set_cons_zero, List.set_cons_succ]
    refine take_on (i := 19) (d := (some 68)) (v := ?v114) rfl rfl (by kernel_rfl) (by kernel_rfl) (by kernel_rfl) (fun c a w h => h) (by rfl) ?h114 (by assumption) ?r114
    case h114 => intro w hSw; obtain ⟨h0, h1⟩ := hSw; go_simp; rfl
    simp only [Act.put, List.setIfInBounds_toArray, List.set_cons_zero, List.set_cons_succ]
    refine take_on (i := 20) (d := (some 69)) (v := ?v115) rfl rfl (by kernel_rfl) (by kernel_rfl) (by kernel_rfl) (fun c a w h => h) (by rfl) ?h115 (by assumption) ?r115
    case h115 => intro w hSw; obtain ⟨h0, h1⟩ := hSw; go_simp; rfl
    simp only [Act.put, List.setIfInBounds_toArray, List.set_cons_zero, List.set_cons_succ]
    clear hHeld
    refine wpAnyH_done (by kernel_rfl) ?_ _
    go_wp2_with fail
    refine (awake8_c _).mono ?_
    rintro e u9 ⟨rfl, b9⟩
    have P9 := Lib.hid (E.out.below.trans (b9.mono E.out.below.size))
    clear b9
    go_wp2
    go_ret
    exact ⟨rfl, P9.out⟩
set_option maxHeartbeats 8000000 in
theorem LucasRank_main (s : Bool) (A : Option Addr) (n c : Nat) (xs : List Nat) (s' : Bool) (A' : Option Addr) (n' c' : Nat) (ys : List Nat) (K : Int) (w : World) (h : Rd w A n xs) (hn : n ≤ c) (hc : c ≤ 9223372036854775807) (h' : Rd w A' n' ys) (hn' : n' ≤ c') (hc' : c' ≤ 9223372036854775807) (hask : RankYes n n' K) (most : Nat) (hK : K = (most : Int)) (hv : codeV s xs true = 0) (hvy : validB s' ys = true) (hm : ¬ sgn s' (val ys) < 1) (hbb : blen (sgn s' (val ys)).natAbs ≤ 4000) (hK1 : ¬ K < 1) (hK2 : ¬ 20000 < K) :
    Calls Try.prog 6 #[.agg #[.bool s, .slice A n c], .agg #[.bool s', .slice A' n' c'], .int .i64 K] w (IsB true w) := by
  have E := Lib.hid (Rb2.start (s := s) (c := c) (s' := s') (c' := c') h h')
  have HN := Lib.hid (And.intro (And.intro hn hc) (And.intro hn' hc'))
  clear h h' hn hc hn' hc'
  have HASK := Lib.hid hask
  clear hask
  have HC := Lib.hid hv
  have HV := Lib.hid hvy
  have HZ := Lib.hid (codeV_zero hv).2.2
  have HVA := Lib.hid (codeV_zero hv).1
  have HI := Lib.hid (fun (W : World) (r : Rd W A' n' ys) => raw_iv (s := s') (c := c') r HV.out HN.out.2.1 HN.out.2.2)
  obtain ⟨bl, hbl⟩ : ∃ bl, bl = blen (sgn s' (val ys)).natAbs := ⟨_, rfl⟩
  have HBL := Lib.hid hbl
  have HIa := Lib.hid (fun (W : World) (r : Rd W A n xs) => raw_iv (s := s) (c := c) r HVA.out HN.out.1.1 HN.out.1.2)
  have HM := Lib.hid (show 0 < sgn s' (val ys) by omega)
  have HB4 := Lib.hid hbb
  have HR := Lib.hid (fun (W : World) (i : Iv W (sgn s (val xs)) s A n c) (j : Iv W (sgn s' (val ys)) s' A' n' c') => Rank_c i j HZ.out HM.out hbb most (by omega) (by omega))
  have HR2 := Lib.hid (fun (W : World) (i : Iv W (sgn s (val xs)) s A n c) (j : Iv W (sgn s' (val ys)) s' A' n' c') => refRank_c i.is j.is HM.out i.sz j.sz most (by omega))
  rw [← hK] at HR HR2
  rw [← hbl] at hbb
  have q1 : decide ((4000 : Int) < (bl : Int)) = false := decide_eq_false (by omega)
  have q2 : decide (K < 1) = false := decide_eq_false hK1
  have q3 : decide (20000 < K) = false := decide_eq_false hK2
  obtain ⟨r, hr⟩ : ∃ r, r = ord (sgn s' (val ys)) 1 := ⟨_, rfl⟩
  have r0 : 0 ≤ r := by rw [hr]; exact ord_ge hm
  have r1 : decide (r < 0) = false := decide_eq_false (by omega)
  have HO := Lib.hid hr.symm
  clear hr hbl hbb hm
  clear hv hvy hK
  go_enter Try.func6, Try.ntmps6
  go_upto_region 1 with (fail)
  generalize (w.alloc (.cells #[.bool s, .slice A n c] 24)).alloc (.cells #[.bool s', .slice A' n' c'] 24) = W0 at E ⊢
  go_cut [35] (fun v W => v = .bool false ∧ Rb2 w W s A n c xs s' A' n' c' ys)
  case first =>
    have a0 := E.out.ba.c0
    have a1 := E.out.ba.c1
    have b0 := E.out.bb.c0
    have b1 := E.out.bb.c1
    go_wp2_with fail
    have hb := below_alloc W0 (.cells #[.bool s, .slice A n c] 24)
    refine (short1r_c 20 _ A n c _ (by go_simp)).mono ?_
    rintro e w1 ⟨rfl, hb1⟩
    replace E := Lib.hid ((E.out.next hb).next hb1)
    clear hb hb1 a0 a1 b0 b1
    rw [decide_eq_true HASK.out.1]
    have b0 := E.out.bb.c0
    have b1 := E.out.bb.c1
    rcases HASK.out.2.1 with h1 | h1
    · have t1 : decide ((20 : Int) < (n' : Int)) = false := decide_eq_false (by omega)
      have t3 : ¬ (20 : Int) < (n' : Int) := by omega
      clear h1
      rcases HASK.out.2.2 with h2 | h2
      · have t5 : decide (400 < K) = false := decide_eq_false (by omega)
        go_wp2
        go_meet
        exact ⟨rfl, E.out⟩
      · exfalso; omega
    · have t1 : decide ((20 : Int) < (n' : Int)) = true := decide_eq_true (by omega)
      have t2 : decide ((n' : Int) < 126) = false := decide_eq_false (by omega)
      have t3 : (20 : Int) < (n' : Int) := by omega
      have t4 : ¬ (n' : Int) < 126 := by omega
      clear h1
      rcases HASK.out.2.2 with h2 | h2
      · have t5 : decide (400 < K) = false := decide_eq_false (by omega)
        go_wp2
        go_meet
        exact ⟨rfl, E.out⟩
      · exfalso; omega
  case rest =>
    obtain ⟨rfl, hE⟩ := hcut
    clear E
    have E := Lib.hid hE
    clear hE
    have a0 := E.out.ba.c0
    have a1 := E.out.ba.c1
    have b0 := E.out.bb.c0
    have b1 := E.out.bb.c1
    go_wp2_with fail
    refine (HR.out _ (HIa.out _ E.out.ba.rd) (HI.out _ E.out.bb.rd)).mono ?_
    rintro e w3 ⟨r5, k5, rfl, hb, hres⟩
    have HRES := Lib.hid hres
    replace E := Lib.hid (E.out.next hb)
    clear hb hres a0 a1 b0 b1
    have a0 := E.out.ba.c0
    have a1 := E.out.ba.c1
    go_wp2_with fail
    refine (code_c E.out.ba.rd HN.out.1.1 HN.out.1.2).mono ?_
    rw [HC.out]
    rintro e w4 ⟨rfl, hb⟩
    replace E := Lib.hid (E.out.next hb)
    clear hb a0 a1
    have b0 := E.out.bb.c0
    have b1 := E.out.bb.c1
    go_wp2_with fail
    refine (refValid_c s' A' n' c' ys _ E.out.bb.rd).mono ?_
    rw [HV.out]
    rintro e W7 ⟨rfl, hb⟩
    replace E := Lib.hid (E.out.next hb)
    clear hb b0 b1
    go_upto_region 7 with (fail)
    refine wp_region_held_drew (S := (fun w' => w'.cell? ⟨w.heap.size + 1, 0, none⟩ = some (.bool s') ∧ w'.cell? ⟨w.heap.size + 1, 1, none⟩ = some (.slice A' n' c'))) (by kernel_rfl) ⟨cell_dr E.out.bb.c0, cell_dr E.out.bb.c1⟩ (fun hHeld => ?_)
    replace E := Lib.hid (E.out.next (Below.refl W7.heap.size W7).drew)
    generalize W7.drew = D18 at E hHeld ⊢
    refine take_on (i := 0) (d := (some 49)) (v := ?v116) rfl rfl (by kernel_rfl) (by kernel_rfl) (by kernel_rfl) (fun c a w h => h) (by rfl) ?h116 (by assumption) ?r116
    case h116 => intro w hSw; obtain ⟨h0, h1⟩ := hSw; go_simp; rfl
    simp only [Act.put, List.setIfInBounds_toArray, List.set_cons_zero, List.set_cons_succ]
    refine take_on (i := 1) (d := (some 50)) (v := ?v117) rfl rfl (by kernel_rfl) (by kernel_rfl) (by kernel_rfl) (fun c a w h => h) (by rfl) ?h117 (by assumption) ?r117
    case h117 => intro w hSw; obtain ⟨h0, h1⟩ := hSw; go_simp; rfl
    simp only [Act.put, List.setIfInBounds_toArray, List.set_cons_zero, List.set_cons_succ]
    refine take_on (i := 2) (d := (some 51)) (v := ?v118) rfl rfl (by kernel_rfl) (by kernel_rfl) (by kernel_rfl) (fun c a w h => h) (by rfl) ?h118 (by assumption) ?r118
    case h118 => intro w hSw; obtain ⟨h0, h1⟩ := hSw; go_simp; rfl
    simp only [Act.put, List.setIfInBounds_toArray, List.set_cons_zero, List.set_cons_succ]
    refine take_on (i := 3) (d := (some 52)) (v := ?v119) rfl rfl (by kernel_rfl) (by kernel_rfl) (by kernel_rfl) (fun c a w h => h) (by rfl) ?h119 (by assumption) ?r119
    case h119 => intro w hSw; obtain ⟨h0, h1⟩ := hSw; go_simp; rfl
    simp only [Act.put, List.setIfInBounds_toArray, List.set_cons_zero, List.set_cons_succ]
    refine wpAnyH_ready (rs := [4]) (by kernel_rfl) (by simp) ?_
    refine AllReadyH.cons rfl (fun K hK => ?_) AllReadyH.nil
    go_simp
    refine (refOfV 1 _ (by omega) (by omega)).mono ?_
    rintro e w19 ⟨t21, A21, n21, c21, rfl, i21, hb⟩
    replace E := Lib.hid (E.out.next hb)
    have J0 := Lib.hid (i21.is)
    clear hb hHeld i21
    refine hK.out _ _ ⟨E.out.bb.c0, E.out.bb.c1⟩ (fun hHeld => ?_)
    clear hK K
    refine wpAnyH_ready (rs := [5]) (by kernel_rfl) (by simp) ?_
    refine AllReadyH.cons rfl (fun K hK => ?_) AllReadyH.nil
    go_simp
    refine (refCmp_c (HI.out _ E.out.bb.rd).is J0.out (Nat.le_trans (raw_len E.out.bb.rd HV.out) (by omega)) (Nat.le_trans (J0.out.len (sz_one' (Nat.le_refl 1))) (by omega))).mono ?_
    rw [HO.out]
    rintro e w20 ⟨rfl, hb⟩
    clear J0
    replace E := Lib.hid (E.out.next hb)
    clear hb hHeld
    refine hK.out _ _ ⟨E.out.bb.c0, E.out.bb.c1⟩ (fun hHeld => ?_)
    clear hK K
    refine take_on (i := 6) (d := (some 55)) (v := ?v120) rfl rfl (by kernel_rfl) (by kernel_rfl) (by kernel_rfl) (fun c a w h => h) (by rfl) ?h120 (by assumption) ?r120
    case h120 => intro w hSw; obtain ⟨h0, h1⟩ := hSw; go_simp; rfl
    simp only [Act.put, List.setIfInBounds_toArray, List.set_cons_zero, List.set_cons_succ]
    refine take_on (i := 7) (d := (some 56)) (v := ?v121) rfl rfl (by kernel_rfl) (by kernel_rfl) (by kernel_rfl) (fun c a w h => h) (by rfl) ?h121 (by assumption) ?r121
    case h121 => intro w hSw; obtain ⟨h0, h1⟩ := hSw; go_simp; rfl
    simp only [Act.put, List.setIfInBounds_toArray, List.set_cons_zero, List.set_cons_succ]
    refine take_on (i := 8) (d := (some 57)) (v := ?v122) rfl rfl (by kernel_rfl) (by kernel_rfl) (by kernel_rfl) (fun c a w h => h) (by rfl) ?h122 (by assumption) ?r122
    case h122 => intro w hSw; obtain ⟨h0, h1⟩ := hSw; go_simp; rfl
    simp only [Act.put, List.setIfInBounds_toArray, List.set_cons_zero, List.set_cons_succ]
    refine wpAnyH_ready (rs := [9]) (by kernel_rfl) (by simp) ?_
    refine AllReadyH.cons rfl (fun K hK => ?_) AllReadyH.nil
    go_simp
    refine (refBits_c s' A' n' c' _ _ (HI.out _ E.out.bb.rd).is.2.2.1 (words_canon _) (Nat.le_trans (raw_len E.out.bb.rd HV.out) (by omega))).mono ?_
    rw [val_words, ← HBL.out]
    rintro e w21 ⟨rfl, hb⟩
    replace E := Lib.hid (E.out.next hb)
    clear hb hHeld
    refine hK.out _ _ ⟨E.out.bb.c0, E.out.bb.c1⟩ (fun hHeld => ?_)
    clear hK K
    refine take_on (i := 10) (d := (some 59)) (v := ?v123) rfl rfl (by kernel_rfl) (by kernel_rfl) (by kernel_rfl) (fun c a w h => h) (by rfl) ?h123 (by assumption) ?r123
    case h123 => intro w hSw; obtain ⟨h0, h1⟩ := hSw; go_simp; rfl
    simp only [Act.put, List.setIfInBounds_toArray, List.set_cons_zero, List.set_cons_succ]
    refine take_on (i := 11) (d := (some 60)) (v := ?v124) rfl rfl (by kernel_rfl) (by kernel_rfl) (by kernel_rfl) (fun c a w h => h) (by rfl) ?h124 (by assumption) ?r124
    case h124 => intro w hSw; obtain ⟨h0, h1⟩ := hSw; go_simp; rfl
    simp only [Act.put, List.setIfInBounds_toArray, List.set_cons_zero, List.set_cons_succ]
    refine take_on (i := 12) (d := (some 61)) (v := ?v125) rfl rfl (by kernel_rfl) (by kernel_rfl) (by kernel_rfl) (fun c a w h => h) (by rfl) ?h125 (by assumption) ?r125
    case h125 => intro w hSw; obtain ⟨h0, h1⟩ := hSw; go_simp; rfl
    simp only [Act.put, List.setIfInBounds_toArray, List.set_cons_zero, List.set_cons_succ]
    refine take_on (i := 13) (d := (some 62)) (v := ?v126) rfl rfl (by kernel_rfl) (by kernel_rfl) (by kernel_rfl) (fun c a w h => h) (by rfl) ?h126 (by assumption) ?r126
    case h126 => intro w hSw; obtain ⟨h0, h1⟩ := hSw; go_simp; rfl
    simp only [Act.put, List.setIfInBounds_toArray, List.set_cons_zero, List.set_cons_succ]
    refine take_on (i := 14) (d := (some 63)) (v := ?v127) rfl rfl (by kernel_rfl) (by kernel_rfl) (by kernel_rfl) (fun c a w h => h) (by rfl) ?h127 (by assumption) ?r127
    case h127 => intro w hSw; obtain ⟨h0, h1⟩ := hSw; go_simp; rfl
    simp only [Act.put, List.setIfInBounds_toArray, List.set_cons_zero, List.set_cons_succ]
    refine take_on (i := 15) (d := (some 64)) (v := ?v128) rfl rfl (by kernel_rfl) (by kernel_rfl) (by kernel_rfl) (fun c a w h => h) (by rfl) ?h128 (by assumption) ?r128
    case h128 => intro w hSw; obtain ⟨h0, h1⟩ := hSw; go_simp; rfl
    simp only [Act.put, List.setIfInBounds_toArray, List.set_cons_zero, List.set_cons_succ]
    refine take_on (i := 16) (d := (some 65)) (v := ?v129) rfl rfl (by kernel_rfl) (by kernel_rfl) (by kernel_rfl) (fun c a w h => h) (by rfl) ?h129 (by assumption) ?r129
    case h129 => intro w hSw; obtain ⟨h0, h1⟩ := hSw; go_simp; rfl
    simp only [Act.put, List.setIfInBounds_toArray, List.set_cons_zero, List.set_cons_succ]
    refine take_on (i := 17) (d := (some 66)) (v := ?v130) rfl rfl (by kernel_rfl) (by kernel_rfl) (by kernel_rfl) (fun c a w h => h) (by rfl) ?h130 (by assumption) ?r130
    case h130 => intro w hSw; obtain ⟨h0, h1⟩ := hSw; go_simp; rfl
    simp only [Act.put, List.setIfInBounds_toArray, List.set_cons_zero, List.set_cons_succ]
    refine take_on (i := 18) (d := (some 67)) (v := ?v131) rfl rfl (by kernel_rfl) (by kernel_rfl) (by kernel_rfl) (fun c a w h => h) (by rfl) ?h131 (by assumption) ?r131
    case h131 => intro w hSw; obtain ⟨h0, h1⟩ := hSw; go_simp; rfl
    simp only [Act.put, List.setIfInBounds_toArray, List.set_cons_zero, List.set_cons_succ]
    refine take_on (i := 19) (d := (some 68)) (v := ?v132) rfl rfl (by kernel_rfl) (by kernel_rfl) (by kernel_rfl) (fun c a w h => h) (by rfl) ?h132 (by assumption) ?r132
    case h132 => intro w hSw; obtain ⟨h0, h1⟩ := hSw; go_simp; rfl
    simp only [Act.put, List.setIfInBounds_toArray, List.set_cons_zero, List.set_cons_succ]
    refine take_on (i := 20) (d := (some 69)) (v := ?v133) rfl rfl (by kernel_rfl) (by kernel_rfl) (by kernel_rfl) (fun c a w h => h) (by rfl) ?h133 (by assumption) ?r133
    case h133 => intro w hSw; obtain ⟨h0, h1⟩ := hSw; go_simp; rfl
    simp only [Act.put, List.setIfInBounds_toArray, List.set_cons_zero, List.set_cons_succ]
    clear hHeld
    refine wpAnyH_done (by kernel_rfl) ?_ _
    have a0 := E.out.ba.c0
    have a1 := E.out.ba.c1
    have b0 := E.out.bb.c0
    have b1 := E.out.bb.c1
    go_wp2_with fail
    refine (HR2.out _ (HIa.out _ E.out.ba.rd) (HI.out _ E.out.bb.rd)).mono ?_
    rintro e w8 ⟨r6, b6, rfl, hb, hres2⟩
    replace E := Lib.hid (E.out.next hb)
    clear hb a0 a1 b0 b1
    rcases HRES.out with ⟨rfl, m5, rfl, h1, h2, h3, h4⟩ | ⟨rfl, rfl, h4⟩
    · have hb6 : b6 = true ∧ r6 = m5 := by
        rcases hres2 with ⟨hb, g1, g2, g3, g4⟩ | ⟨hb, g1, g4⟩
        · refine ⟨hb, ?_⟩
          rcases Nat.lt_trichotomy r6 m5 with (h5 | h5 | h5)
          · exact absurd g3 (h4 r6 g1 h5)
          · exact h5
          · exact absurd h3 (g4 m5 h1 h5)
        · exact absurd h3 (g4 m5 h1 h2)
      obtain ⟨rfl, rfl⟩ := hb6
      clear hres2 h1 h2 h3 h4 HRES
      go_wp2_with fail
      refine (awake8_c _).mono ?_
      rintro e u9 ⟨rfl, b9⟩
      have P9 := Lib.hid (E.out.below.trans (b9.mono E.out.below.size))
      clear b9
      go_wp2
      go_ret
      exact ⟨rfl, P9.out⟩
    · have hb6 : b6 = false := by
        rcases hres2 with ⟨hb, g1, g2, g3, g4⟩ | ⟨hb, g1, g4⟩
        · exact absurd g3 (h4 r6 g1 g2)
        · exact hb
      subst hb6
      clear hres2 h4 HRES
      go_wp2_with fail
      refine (awake8_c _).mono ?_
      rintro e u9 ⟨rfl, b9⟩
      have P9 := Lib.hid (E.out.below.trans (b9.mono E.out.below.size))
      clear b9
      go_wp2
      go_ret
      exact ⟨rfl, P9.out⟩
theorem LucasRank_c (s : Bool) (A : Option Addr) (n c : Nat) (xs : List Nat) (s' : Bool) (A' : Option Addr) (n' c' : Nat) (ys : List Nat) (K : Int) (w : World) (h : Rd w A n xs) (hn : n ≤ c) (hc : c ≤ 9223372036854775807) (h' : Rd w A' n' ys) (hn' : n' ≤ c') (hc' : c' ≤ 9223372036854775807) :
    Calls Try.prog 6 #[.agg #[.bool s, .slice A n c], .agg #[.bool s', .slice A' n' c'], .int .i64 K] w (IsB true w) := by
  by_cases hno : RankNo n n' K
  · exact LucasRank_no s A n c xs s' A' n' c' ys K w h hn hc h' hn' hc' hno
  · have hask : RankYes n n' K := by
      unfold RankNo at hno
      unfold RankYes
      omega
    cases hvy : validB s' ys with
    | false => exact LucasRank_E1 s A n c xs s' A' n' c' ys K w h hn hc h' hn' hc' hask (fun W r r' => Rank_err r r' hn hc K 1 (codeV_bad (.inr hvy)) (by omega)) _ rfl hvy
    | true =>
      by_cases hk : codeV s xs true = 0
      · have harg : ∀ W, (¬ (0 < sgn s' (val ys) ∧ blen (sgn s' (val ys)).natAbs ≤ 4000) ∨ K < 1 ∨ 20000 < K) → Rd W A n xs → Rd W A' n' ys → Calls Try.prog 32 #[.agg #[.bool s, .slice A n c], .agg #[.bool s', .slice A' n' c'], .int .i64 K] W (IdxZ 2 W) :=
          fun W hbad r r' => Rank_arg r r' hn hc hn' hc' K (by rw [hvy]; exact hk) hbad
        by_cases hm : sgn s' (val ys) < 1
        · exact LucasRank_A s A n c xs s' A' n' c' ys K w h hn hc h' hn' hc' hask (fun W => harg W (.inl (by omega))) hk hvy hm
        · by_cases hbb : blen (sgn s' (val ys)).natAbs ≤ 4000
          · by_cases hK1 : K < 1
            · exact LucasRank_C s A n c xs s' A' n' c' ys K w h hn hc h' hn' hc' hask (fun W => harg W (.inr (.inl hK1))) hk hvy hm hbb hK1
            · by_cases hK2 : 20000 < K
              · exact LucasRank_D s A n c xs s' A' n' c' ys K w h hn hc h' hn' hc' hask (fun W => harg W (.inr (.inr hK2))) hk hvy hm hbb hK1 hK2
              · exact LucasRank_main s A n c xs s' A' n' c' ys K w h hn hc h' hn' hc' hask K.toNat (by omega) hk hvy hm hbb hK1 hK2
          · exact LucasRank_B s A n c xs s' A' n' c' ys K w h hn hc h' hn' hc' hask (fun W => harg W (.inl (fun hx => hbb hx.2))) hk hvy hm hbb
      · exact LucasRank_E2 s A n c xs s' A' n' c' ys K w h hn hc h' hn' hc' hask _ hk (fun W r r' => Rank_err r r' hn hc K _ (by rw [hvy]) hk) rfl hvy
end Go.Proofs.Ytbblckaplddggaa

import Derived.Test.YtbblckaplddggaaOt
import Derived.Test.YtbblckaplddggaaOr
set_option maxRecDepth 100000
namespace Go.Proofs.Ytbblckaplddggaa
open Go.RowKit Go.Shelf
set_option maxHeartbeats 1000000 in
theorem Fits_c (t : Bool) (A : Option Addr) (n c : Nat) (w : World) : Calls Try.prog 21 #[.agg #[.bool t, .slice A n c]] w (IsB (decide (n ≤ 4096)) w) := by
  have HB := Lib.hid (below_alloc w (.cells #[.bool t, .slice A n c] 24))
  by_cases h : n ≤ 4096
  · have H := Lib.hid (show decide (n ≤ 4096) = true from decide_eq_true h)
    have h1 : (n : Int) ≤ 4096 := by omega
    have h2 : decide ((n : Int) ≤ 4096) = true := decide_eq_true h1
    clear h
    go_enter Try.func21, Try.ntmps21
    go_wp2
    go_ret
    exact ⟨by rw [H.out]; rfl, HB.out⟩
  · have H := Lib.hid (show decide (n ≤ 4096) = false from decide_eq_false h)
    have h1 : ¬ (n : Int) ≤ 4096 := by omega
    have h2 : decide ((n : Int) ≤ 4096) = false := decide_eq_false h1
    clear h
    go_enter Try.func21, Try.ntmps21
    go_wp2
    go_ret
    exact ⟨by rw [H.out]; rfl, HB.out⟩
theorem short1_c (most g : Nat) (A1 : Option Addr) (n1 c1 : Nat) (w : World) (h1 : w.cell? ⟨g, 1, none⟩ = some (.slice A1 n1 c1)) :
    Calls Try.prog 14 #[.int .i64 (most : Int), .slice (some ⟨g, 0, none⟩) 1 1] w (IsB (decide (n1 ≤ most)) w) := by
  refine (short_c most g 1 (of3 A1 A1 A1) (of3 n1 n1 n1) (of3 c1 c1 c1) w ?_ (by omega)).mono ?_
  · intro i hi
    obtain rfl : i = 0 := by omega
    exact h1
  · rintro e w' ⟨rfl, hb⟩
    refine ⟨?_, hb⟩
    congr 2
    rw [decide_eq_decide]
    constructor
    · intro h; exact h 0 (by omega)
    · intro h i hi
      obtain rfl : i = 0 := by omega
      exact h
/-- what LucasTells is told of an error -/
def TellErr (s : Bool) (xs : List Nat) (K kk : Int) : Prop := (codeV s xs true = kk ∧ kk ≠ 0) ∨ (codeV s xs true = 0 ∧ K < 0 ∧ kk = 2) ∨ (codeV s xs true = 0 ∧ 140000 < K ∧ kk = 4)
set_option maxHeartbeats 8000000 in
theorem Tells_no (s : Bool) (A : Option Addr) (n c : Nat) (xs : List Nat) (K : Int) (w : World) (h : Rd w A n xs) (hn : n ≤ c) (hc : c ≤ 9223372036854775807) (hno : ¬ n ≤ 100 ∨ (n ≤ 100 ∧ 2000 < K ∧ K ≤ 140000)) :
    Calls Try.prog 3 #[.agg #[.bool s, .slice A n c], .int .i64 K] w (IsB true w) := by
  have P := Lib.hid (below_alloc w (.cells #[.bool s, .slice A n c] 24))
  have B := Lib.hid (Rb.new (s := s) (c := c) h)
  have HN := Lib.hid (And.intro hn hc)
  clear h hn hc
  go_enter Try.func3, Try.ntmps3
  go_upto_region 1 with (fail)
  generalize w.alloc (.cells #[.bool s, .slice A n c] 24) = W0 at P B ⊢
  have a0 := B.out.c0
  have a1 := B.out.c1
  go_wp2_with fail
  have hb := below_alloc W0 (.cells #[.bool s, .slice A n c] 24)
  refine (short1_c 100 _ A n c _ (by go_simp)).mono ?_
  rintro e w1 ⟨rfl, hb1⟩
  replace P := Lib.hid ((P.out.trans (hb.mono P.out.size)).trans (hb1.mono (Nat.le_trans P.out.size hb.size)))
  replace B := Lib.hid ((B.out.next hb).next hb1)
  clear hb hb1 a0 a1
  rcases hno with hno | ⟨hno, h2, h3⟩
  · rw [decide_eq_false hno]
    clear hno
    go_wp2_with fail
    refine (awake8_c _).mono ?_
    rintro e u9 ⟨rfl, b9⟩
    have P9 := Lib.hid (P.out.trans (b9.mono P.out.size))
    clear b9
    go_wp2
    go_ret
    exact ⟨rfl, P9.out⟩
  · rw [decide_eq_true hno]
    clear hno
    have t1 : decide (2000 < K) = true := decide_eq_true h2
    have t2 : decide (K ≤ 140000) = true := decide_eq_true h3
    go_wp2_with fail
    refine (awake8_c _).mono ?_
    rintro e u9 ⟨rfl, b9⟩
    have P9 := Lib.hid (P.out.trans (b9.mono P.out.size))
    clear b9
    go_wp2
    go_ret
    exact ⟨rfl, P9.out⟩
set_option maxHeartbeats 8000000 in
theorem Tells_errL (s : Bool) (A : Option Addr) (n c : Nat) (xs : List Nat) (K : Int) (w : World) (h : Rd w A n xs) (hn : n ≤ c) (hc : c ≤ 9223372036854775807) (hask : n ≤ 100 ∧ K ≤ 2000) (kk : Int) (hkk : TellErr s xs K kk) (hP : ∀ W, Rd W A n xs → Calls Try.prog 16 #[.agg #[.bool s, .slice A n c], .int .i64 K] W (NumZ kk W)) (hC : ∀ W, Rd W A n xs → Calls Try.prog 17 #[.agg #[.bool s, .slice A n c], .int .i64 K] W (NumZ kk W)) :
    Calls Try.prog 3 #[.agg #[.bool s, .slice A n c], .int .i64 K] w (IsB true w) := by
  have P := Lib.hid (below_alloc w (.cells #[.bool s, .slice A n c] 24))
  have B := Lib.hid (Rb.new (s := s) (c := c) h)
  have HN := Lib.hid (And.intro hn hc)
  clear h hn hc
  have HASK := Lib.hid hask
  have HKK := Lib.hid hkk
  have HP := Lib.hid hP
  have HC := Lib.hid hC
  clear hask hkk hP hC
  go_enter Try.func3, Try.ntmps3
  go_upto_region 1 with (fail)
  generalize w.alloc (.cells #[.bool s, .slice A n c] 24) = W0 at P B ⊢
  have a0 := B.out.c0
  have a1 := B.out.c1
  go_wp2_with fail
  have hb := below_alloc W0 (.cells #[.bool s, .slice A n c] 24)
  refine (short1_c 100 _ A n c _ (by go_simp)).mono ?_
  rintro e w1 ⟨rfl, hb1⟩
  replace P := Lib.hid ((P.out.trans (hb.mono P.out.size)).trans (hb1.mono (Nat.le_trans P.out.size hb.size)))
  replace B := Lib.hid ((B.out.next hb).next hb1)
  clear hb hb1 a0 a1
  rw [decide_eq_true HASK.out.1]
  have ha := HASK.out.2
  all_goals
    have a0 := B.out.c0
    have a1 := B.out.c1
    go_wp2_with fail
    refine (HP.out _ B.out.rd).mono ?_
    rintro e w2 ⟨rfl, hb⟩
    have Y := Lib.hid (Vb.new w2 w2 false none 0 0 (Nat.le_refl _))
    replace P := Lib.hid ((P.out.trans (hb.mono P.out.size)).alloc (Nat.le_trans P.out.size hb.size) (.cells #[.bool false, .slice none 0 0] 24))
    replace B := Lib.hid ((B.out.next hb).alloc (.cells #[.bool false, .slice none 0 0] 24))
    clear hb a0 a1
    go_upto_region 4 with (fail)
    generalize w2.alloc (.cells #[.bool false, .slice none 0 0] 24) = W2 at P B Y ⊢
    have a0 := B.out.c0
    have a1 := B.out.c1
    go_wp2_with fail
    refine (HC.out _ B.out.rd).mono ?_
    rintro e w3 ⟨rfl, hb⟩
    have X := Lib.hid (Vb.new w3 w3 false none 0 0 (Nat.le_refl _))
    replace P := Lib.hid ((P.out.trans (hb.mono P.out.size)).alloc (Nat.le_trans P.out.size hb.size) (.cells #[.bool false, .slice none 0 0] 24))
    replace B := Lib.hid ((B.out.next hb).alloc (.cells #[.bool false, .slice none 0 0] 24))
    replace Y := Lib.hid ((Y.out.below hb).below (below_alloc _ (.cells #[.bool false, .slice none 0 0] 24)))
    clear hb a0 a1
    go_upto_region 5 with (fail)
    generalize w3.alloc (.cells #[.bool false, .slice none 0 0] 24) = W3 at P B X Y ⊢
    have a0 := B.out.c0
    have a1 := B.out.c1
    go_wp2_with fail
    refine (code_c B.out.rd HN.out.1 HN.out.2).mono ?_
    obtain ⟨v, hv⟩ : ∃ v, v = codeV s xs true := ⟨_, rfl⟩
    have hkk := HKK.out
    unfold TellErr at hkk
    rw [← hv] at hkk ⊢
    rintro e w4 ⟨rfl, hb⟩
    replace P := Lib.hid (P.out.trans (hb.mono P.out.size))
    replace B := Lib.hid (B.out.next hb)
    replace X := Lib.hid (X.out.below hb)
    replace Y := Lib.hid (Y.out.below hb)
    clear hb a0 a1 hv
    have y0 := Y.out.c0
    have y1 := Y.out.c1
    have x0 := X.out.c0
    have x1 := X.out.c1
    rcases hkk with ⟨rfl, h0⟩ | ⟨rfl, h0, rfl⟩ | ⟨rfl, h0, rfl⟩
    · have t1 : (v == 0) = false := by rw [beq_eq_false_iff_ne]; exact h0
      have H0 := Lib.hid h0
      clear h0
      go_wp2_with fail
      refine (number_err v H0.out false none 0 0 _).mono ?_
      rintro e w5 ⟨rfl, hb⟩
      replace P := Lib.hid (P.out.trans (hb.mono P.out.size))
      replace X := Lib.hid (X.out.below hb)
      clear hb x0 x1 y0 y1
      have x0 := X.out.c0
      have x1 := X.out.c1
      go_wp2_with fail
      refine (number_err v H0.out false none 0 0 _).mono ?_
      rintro e w6 ⟨rfl, hb⟩
      replace P := Lib.hid (P.out.trans (hb.mono P.out.size))
      clear hb x0 x1
      go_wp2_with fail
      refine (awake8_c _).mono ?_
      rintro e u9 ⟨rfl, b9⟩
      have P9 := Lib.hid (P.out.trans (b9.mono P.out.size))
      clear b9
      go_wp2
      go_ret
      exact ⟨rfl, P9.out⟩
    · go_wp2_with fail
      refine (number_err 2 (by omega) false none 0 0 _).mono ?_
      rintro e w5 ⟨rfl, hb⟩
      replace P := Lib.hid (P.out.trans (hb.mono P.out.size))
      replace X := Lib.hid (X.out.below hb)
      clear hb x0 x1 y0 y1
      have x0 := X.out.c0
      have x1 := X.out.c1
      go_wp2_with fail
      refine (number_err 2 (by omega) false none 0 0 _).mono ?_
      rintro e w6 ⟨rfl, hb⟩
      replace P := Lib.hid (P.out.trans (hb.mono P.out.size))
      clear hb x0 x1
      go_wp2_with fail
      refine (awake8_c _).mono ?_
      rintro e u9 ⟨rfl, b9⟩
      have P9 := Lib.hid (P.out.trans (b9.mono P.out.size))
      clear b9
      go_wp2
      go_ret
      exact ⟨rfl, P9.out⟩
    · exfalso; omega
set_option maxHeartbeats 8000000 in
theorem Tells_errG (s : Bool) (A : Option Addr) (n c : Nat) (xs : List Nat) (K : Int) (w : World) (h : Rd w A n xs) (hn : n ≤ c) (hc : c ≤ 9223372036854775807) (hask : n ≤ 100 ∧ 140000 < K) (kk : Int) (hkk : TellErr s xs K kk) (hP : ∀ W, Rd W A n xs → Calls Try.prog 16 #[.agg #[.bool s, .slice A n c], .int .i64 K] W (NumZ kk W)) (hC : ∀ W, Rd W A n xs → Calls Try.prog 17 #[.agg #[.bool s, .slice A n c], .int .i64 K] W (NumZ kk W)) :
    Calls Try.prog 3 #[.agg #[.bool s, .slice A n c], .int .i64 K] w (IsB true w) := by
  have P := Lib.hid (below_alloc w (.cells #[.bool s, .slice A n c] 24))
  have B := Lib.hid (Rb.new (s := s) (c := c) h)
  have HN := Lib.hid (And.intro hn hc)
  clear h hn hc
  have HASK := Lib.hid hask
  have HKK := Lib.hid hkk
  have HP := Lib.hid hP
  have HC := Lib.hid hC
  clear hask hkk hP hC
  go_enter Try.func3, Try.ntmps3
  go_upto_region 1 with (fail)
  generalize w.alloc (.cells #[.bool s, .slice A n c] 24) = W0 at P B ⊢
  have a0 := B.out.c0
  have a1 := B.out.c1
  go_wp2_with fail
  have hb := below_alloc W0 (.cells #[.bool s, .slice A n c] 24)
  refine (short1_c 100 _ A n c _ (by go_simp)).mono ?_
  rintro e w1 ⟨rfl, hb1⟩
  replace P := Lib.hid ((P.out.trans (hb.mono P.out.size)).trans (hb1.mono (Nat.le_trans P.out.size hb.size)))
  replace B := Lib.hid ((B.out.next hb).next hb1)
  clear hb hb1 a0 a1
  rw [decide_eq_true HASK.out.1]
  have ha := HASK.out.2
  all_goals
    have a0 := B.out.c0
    have a1 := B.out.c1
    go_wp2_with fail
    refine (HP.out _ B.out.rd).mono ?_
    rintro e w2 ⟨rfl, hb⟩
    have Y := Lib.hid (Vb.new w2 w2 false none 0 0 (Nat.le_refl _))
    replace P := Lib.hid ((P.out.trans (hb.mono P.out.size)).alloc (Nat.le_trans P.out.size hb.size) (.cells #[.bool false, .slice none 0 0] 24))
    replace B := Lib.hid ((B.out.next hb).alloc (.cells #[.bool false, .slice none 0 0] 24))
    clear hb a0 a1
    go_upto_region 4 with (fail)
    generalize w2.alloc (.cells #[.bool false, .slice none 0 0] 24) = W2 at P B Y ⊢
    have a0 := B.out.c0
    have a1 := B.out.c1
    go_wp2_with fail
    refine (HC.out _ B.out.rd).mono ?_
    rintro e w3 ⟨rfl, hb⟩
    have X := Lib.hid (Vb.new w3 w3 false none 0 0 (Nat.le_refl _))
    replace P := Lib.hid ((P.out.trans (hb.mono P.out.size)).alloc (Nat.le_trans P.out.size hb.size) (.cells #[.bool false, .slice none 0 0] 24))
    replace B := Lib.hid ((B.out.next hb).alloc (.cells #[.bool false, .slice none 0 0] 24))
    replace Y := Lib.hid ((Y.out.below hb).below (below_alloc _ (.cells #[.bool false, .slice none 0 0] 24)))
    clear hb a0 a1
    go_upto_region 5 with (fail)
    generalize w3.alloc (.cells #[.bool false, .slice none 0 0] 24) = W3 at P B X Y ⊢
    have a0 := B.out.c0
    have a1 := B.out.c1
    go_wp2_with fail
    refine (code_c B.out.rd HN.out.1 HN.out.2).mono ?_
    obtain ⟨v, hv⟩ : ∃ v, v = codeV s xs true := ⟨_, rfl⟩
    have hkk := HKK.out
    unfold TellErr at hkk
    rw [← hv] at hkk ⊢
    rintro e w4 ⟨rfl, hb⟩
    replace P := Lib.hid (P.out.trans (hb.mono P.out.size))
    replace B := Lib.hid (B.out.next hb)
    replace X := Lib.hid (X.out.below hb)
    replace Y := Lib.hid (Y.out.below hb)
    clear hb a0 a1 hv
    have y0 := Y.out.c0
    have y1 := Y.out.c1
    have x0 := X.out.c0
    have x1 := X.out.c1
    rcases hkk with ⟨rfl, h0⟩ | ⟨rfl, h0, rfl⟩ | ⟨rfl, h0, rfl⟩
    · have t1 : (v == 0) = false := by rw [beq_eq_false_iff_ne]; exact h0
      have H0 := Lib.hid h0
      clear h0
      go_wp2_with fail
      refine (number_err v H0.out false none 0 0 _).mono ?_
      rintro e w5 ⟨rfl, hb⟩
      replace P := Lib.hid (P.out.trans (hb.mono P.out.size))
      replace X := Lib.hid (X.out.below hb)
      clear hb x0 x1 y0 y1
      have x0 := X.out.c0
      have x1 := X.out.c1
      go_wp2_with fail
      refine (number_err v H0.out false none 0 0 _).mono ?_
      rintro e w6 ⟨rfl, hb⟩
      replace P := Lib.hid (P.out.trans (hb.mono P.out.size))
      clear hb x0 x1
      go_wp2_with fail
      refine (awake8_c _).mono ?_
      rintro e u9 ⟨rfl, b9⟩
      have P9 := Lib.hid (P.out.trans (b9.mono P.out.size))
      clear b9
      go_wp2
      go_ret
      exact ⟨rfl, P9.out⟩
    · exfalso; omega
    · go_wp2_with fail
      refine (number_err 4 (by omega) false none 0 0 _).mono ?_
      rintro e w5 ⟨rfl, hb⟩
      replace P := Lib.hid (P.out.trans (hb.mono P.out.size))
      replace X := Lib.hid (X.out.below hb)
      clear hb x0 x1 y0 y1
      have x0 := X.out.c0
      have x1 := X.out.c1
      go_wp2_with fail
      refine (number_err 4 (by omega) false none 0 0 _).mono ?_
      rintro e w6 ⟨rfl, hb⟩
      replace P := Lib.hid (P.out.trans (hb.mono P.out.size))
      clear hb x0 x1
      go_wp2_with fail
      refine (awake8_c _).mono ?_
      rintro e u9 ⟨rfl, b9⟩
      have P9 := Lib.hid (P.out.trans (b9.mono P.out.size))
      clear b9
      go_wp2
      go_ret
      exact ⟨rfl, P9.out⟩
end Go.Proofs.Ytbblckaplddggaa

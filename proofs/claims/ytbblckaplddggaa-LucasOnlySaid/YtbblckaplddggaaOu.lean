import Derived.Test.YtbblckaplddggaaOt
set_option maxRecDepth 100000
namespace Go.Proofs.Ytbblckaplddggaa
open Go.RowKit Go.Shelf
theorem psi_inj {a : Int} (ha : 2 ≤ a) {m n : Nat} (h : psi a m = psi a n) : m = n := by
  rcases Nat.lt_trichotomy m n with (h1 | h1 | h1)
  · have := psi_lt ha h1; omega
  · exact h1
  · have := psi_lt ha h1; omega
set_option maxHeartbeats 8000000 in
theorem LucasIndex_c (s : Bool) (A : Option Addr) (n c : Nat) (xs : List Nat) (s' : Bool) (A' : Option Addr) (n' c' : Nat) (ys : List Nat) (w : World) (h : Rd w A n xs) (hn : n ≤ c) (hc : c ≤ 9223372036854775807) (h' : Rd w A' n' ys) (hn' : n' ≤ c') (hc' : c' ≤ 9223372036854775807) :
    Calls Try.prog 5 #[.agg #[.bool s, .slice A n c], .agg #[.bool s', .slice A' n' c']] w (IsB true w) := by
  have E := Lib.hid (Rb2.start (s := s) (c := c) (s' := s') (c' := c') h h')
  have HN := Lib.hid (And.intro (And.intro hn hc) (And.intro hn' hc'))
  clear h h' hn hc hn' hc'
  go_enter Try.func5, Try.ntmps5
  go_upto_region 1 with (fail)
  generalize (w.alloc (.cells #[.bool s, .slice A n c] 24)).alloc (.cells #[.bool s', .slice A' n' c'] 24) = W0 at E ⊢
  have a0 := E.out.ba.c0
  have a1 := E.out.ba.c1
  have b0 := E.out.bb.c0
  have b1 := E.out.bb.c1
  go_wp2_with fail
  have hb := below_alloc W0 (.cells #[.bool s, .slice A n c, .bool s', .slice A' n' c'] 24)
  refine (short2_c 100 _ A A' n c n' c' _ (by go_simp) (by go_simp)).mono ?_
  rintro e w1 ⟨rfl, hb1⟩
  replace E := Lib.hid ((E.out.next hb).next hb1)
  clear hb hb1 a0 a1 b0 b1
  by_cases hsh : n ≤ 100 ∧ n' ≤ 100
  · rw [decide_eq_true hsh]
    have HSH := Lib.hid hsh
    clear hsh
    obtain ⟨vy, hvy⟩ : ∃ vy, vy = validB s' ys := ⟨_, rfl⟩
    have HVY := Lib.hid hvy
    clear hvy
    obtain ⟨k, hk⟩ : ∃ k, k = codeV s xs (validB s' ys) := ⟨_, rfl⟩
    have HK := Lib.hid hk
    clear hk
    by_cases hk0 : k = 0
    · subst hk0
      have HZ := Lib.hid (codeV_zero HK.out.symm)
      have Ia := Lib.hid (raw_iv E.out.ba.rd HZ.out.1 HN.out.1.1 HN.out.1.2)
      have Iy := Lib.hid (raw_iv E.out.bb.rd HZ.out.2.1 HN.out.2.1 HN.out.2.2)
      have a0 := E.out.ba.c0
      have a1 := E.out.ba.c1
      have b0 := E.out.bb.c0
      have b1 := E.out.bb.c1
      go_wp2_with fail
      refine (Index_c Ia.out Iy.out HZ.out.2.2).mono ?_
      rintro e w2 ⟨r, k, rfl, hb, hres⟩
      replace E := Lib.hid (E.out.next hb)
      replace Ia := Lib.hid (Ia.out.below hb)
      replace Iy := Lib.hid (Iy.out.below hb)
      have HR := Lib.hid hres
      clear hb hres a0 a1 b0 b1
      have a0 := E.out.ba.c0
      have a1 := E.out.ba.c1
      have b0 := E.out.bb.c0
      have b1 := E.out.bb.c1
      go_wp2_with fail
      refine (code_c E.out.ba.rd HN.out.1.1 HN.out.1.2).mono ?_
      rw [show codeV s xs true = 0 by have := HK.out; rw [HZ.out.2.1] at this; exact this.symm]
      rintro e w3 ⟨rfl, hb⟩
      replace E := Lib.hid (E.out.next hb)
      replace Ia := Lib.hid (Ia.out.below hb)
      replace Iy := Lib.hid (Iy.out.below hb)
      clear hb a0 a1 b0 b1
      have a0 := E.out.ba.c0
      have a1 := E.out.ba.c1
      have b0 := E.out.bb.c0
      have b1 := E.out.bb.c1
      go_wp2_with fail
      refine (refValid_c s' A' n' c' ys _ E.out.bb.rd).mono ?_
      rw [HZ.out.2.1]
      rintro e w4 ⟨rfl, hb⟩
      replace E := Lib.hid (E.out.next hb)
      replace Ia := Lib.hid (Ia.out.below hb)
      replace Iy := Lib.hid (Iy.out.below hb)
      clear hb a0 a1 b0 b1
      have a0 := E.out.ba.c0
      have a1 := E.out.ba.c1
      have b0 := E.out.bb.c0
      have b1 := E.out.bb.c1
      go_wp2_with fail
      refine (refIndex_c Ia.out.is Iy.out.is HZ.out.2.2 Ia.out.sz Iy.out.sz).mono ?_
      rintro e w5 ⟨r', b, rfl, hb, hyes, hno⟩
      replace E := Lib.hid (E.out.next hb)
      clear hb a0 a1 b0 b1 Ia Iy
      rcases HR.out with ⟨rfl, m, rfl, hm⟩ | ⟨rfl, rfl, hm⟩
      · have hbt : b = true := by
          cases b
          · exact absurd hm (hno rfl m)
          · rfl
        subst hbt
        have hmr : r' = m := psi_inj HZ.out.2.2 ((hyes rfl).trans hm.symm)
        subst hmr
        clear hyes hno hm HR
        go_wp2_with fail
        refine (awake8_c _).mono ?_
        rintro e u9 ⟨rfl, b9⟩
        replace E := Lib.hid (E.out.next b9)
        clear b9
        go_wp2
        go_ret
        exact ⟨rfl, E.out.below⟩
      · have hbf : b = false := by
          cases b
          · rfl
          · exact absurd (hyes rfl) (hm r')
        subst hbf
        clear hyes hno hm HR
        go_wp2_with fail
        refine (awake8_c _).mono ?_
        rintro e u9 ⟨rfl, b9⟩
        replace E := Lib.hid (E.out.next b9)
        clear b9
        go_wp2
        go_ret
        exact ⟨rfl, E.out.below⟩
    · have t1 : (k == 0) = false := by rw [beq_eq_false_iff_ne]; exact hk0
      have HK0 := Lib.hid hk0
      clear hk0
      have a0 := E.out.ba.c0
      have a1 := E.out.ba.c1
      have b0 := E.out.bb.c0
      have b1 := E.out.bb.c1
      go_wp2_with fail
      refine (Index_err E.out.ba.rd E.out.bb.rd HN.out.1.1 HN.out.1.2 k HK.out.symm HK0.out).mono ?_
      rintro e w2 ⟨rfl, hb⟩
      replace E := Lib.hid (E.out.next hb)
      clear hb a0 a1 b0 b1
      have a0 := E.out.ba.c0
      have a1 := E.out.ba.c1
      have b0 := E.out.bb.c0
      have b1 := E.out.bb.c1
      go_wp2_with fail
      refine (code_c E.out.ba.rd HN.out.1.1 HN.out.1.2).mono ?_
      obtain ⟨k1, hk1⟩ : ∃ k1, k1 = codeV s xs true := ⟨_, rfl⟩
      rw [← hk1]
      have HK1 := Lib.hid hk1
      clear hk1
      rintro e w3 ⟨rfl, hb⟩
      replace E := Lib.hid (E.out.next hb)
      clear hb a0 a1 b0 b1
      have a0 := E.out.ba.c0
      have a1 := E.out.ba.c1
      have b0 := E.out.bb.c0
      have b1 := E.out.bb.c1
      go_wp2_with fail
      refine (refValid_c s' A' n' c' ys _ E.out.bb.rd).mono ?_
      rw [← HVY.out]
      rintro e w4 ⟨rfl, hb⟩
      replace E := Lib.hid (E.out.next hb)
      clear hb a0 a1 b0 b1
      cases vy with
      | false =>
        have hk1 : k = 1 := by rw [HK.out]; exact codeV_bad (.inr HVY.out.symm)
        subst hk1
        go_wp2_with fail
        refine (awake8_c _).mono ?_
        rintro e u9 ⟨rfl, b9⟩
        replace E := Lib.hid (E.out.next b9)
        clear b9
        go_wp2
        go_ret
        exact ⟨rfl, E.out.below⟩
      | true =>
        have hkk : k1 = k := by rw [HK1.out, HK.out, ← HVY.out]
        subst hkk
        go_wp2_with fail
        refine (awake8_c _).mono ?_
        rintro e u9 ⟨rfl, b9⟩
        replace E := Lib.hid (E.out.next b9)
        clear b9
        go_wp2
        go_ret
        exact ⟨rfl, E.out.below⟩
  · rw [decide_eq_false hsh]
    clear hsh
    go_wp2_with fail
    refine (awake8_c _).mono ?_
    rintro e u9 ⟨rfl, b9⟩
    replace E := Lib.hid (E.out.next b9)
    clear b9
    go_wp2
    go_ret
    exact ⟨rfl, E.out.below⟩
end Go.Proofs.Ytbblckaplddggaa

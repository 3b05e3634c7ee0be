import Derived.Test.YtbblckaplddggaaDj
import Derived.Test.YtbblckaplddggaaOs
import Derived.Test.YtbblckaplddggaaNz
set_option maxRecDepth 100000
namespace Go.Proofs.Ytbblckaplddggaa
open Go.RowKit Go.Shelf
set_option maxHeartbeats 2000000 in
theorem isModulus_no {w : World} {m : Int} {t : Bool} {A : Option Addr} {n c : Nat} (h : Iv w m t A n c) (hm : ¬ (0 < m ∧ blen m.natAbs ≤ 4000)) :
    Calls Try.prog 60 #[.agg #[.bool t, .slice A n c]] w (IsB false w) := by
  have b0 := below_alloc w (.cells #[.bool t, .slice A n c] 24)
  have B0 := Lib.hid (Box.new h.is)
  have HB := Lib.hid b0
  rcases (show m < 0 ∨ m = 0 ∨ (0 < m ∧ ¬ blen m.natAbs ≤ 4000) by omega) with (h1 | h1 | ⟨h1, h2⟩)
  · have ht : t = true := by rw [h.is.1]; exact decide_eq_true h1
    subst ht
    clear h b0 hm h1
    go_enter Try.func60, Try.ntmps60
    go_upto_region 1 with (fail)
    generalize w.alloc (.cells #[.bool true, .slice A n c] 24) = W0 at B0 HB ⊢
    have a0 := B0.out.c0
    have a1 := B0.out.c1
    go_wp2
    go_ret
    exact ⟨rfl, HB.out⟩
  · have ht : t = false := by rw [h.is.1]; exact decide_eq_false (by omega)
    have hn : n = 0 := by rw [h.is.2.1, h1, show (0 : Int).natAbs = 0 from rfl, words_zero]; rfl
    subst ht
    subst hn
    clear h b0 hm h1
    go_enter Try.func60, Try.ntmps60
    go_upto_region 1 with (fail)
    generalize w.alloc (.cells #[.bool false, .slice A 0 c] 24) = W0 at B0 HB ⊢
    have a0 := B0.out.c0
    have a1 := B0.out.c1
    go_wp2_with fail
    refine (IsZero_c _ _ _ _ _).mono ?_
    rw [show decide ((0 : Nat) = 0) = true from rfl]
    rintro e w1 ⟨rfl, hb1⟩
    replace HB := Lib.hid (HB.out.trans (hb1.mono HB.out.size))
    clear hb1 a0 a1
    go_wp2
    go_ret
    exact ⟨rfl, HB.out⟩
  · have ht : t = false := by rw [h.is.1]; exact decide_eq_false (by omega)
    subst ht
    have hn : decide (n = 0) = false := decide_eq_false (by
      rw [h.is.2.1]
      intro e
      have := words_len_le.1 (Nat.le_of_eq e)
      simp [pw] at this
      omega)
    have hl : n ≤ 4096 := by rw [h.is.2.1]; exact words_len_le.2 h.sz
    have HN := Lib.hid hn
    have HL := Lib.hid hl
    have hd : decide ((blen m.natAbs : Int) ≤ 4000) = false := decide_eq_false (by omega)
    clear h b0 hn hl hm h1 h2
    go_enter Try.func60, Try.ntmps60
    go_upto_region 1 with (fail)
    generalize w.alloc (.cells #[.bool false, .slice A n c] 24) = W0 at B0 HB ⊢
    have a0 := B0.out.c0
    have a1 := B0.out.c1
    go_wp2_with fail
    refine (IsZero_c _ _ _ _ _).mono ?_
    rw [HN.out]
    rintro e w1 ⟨rfl, hb1⟩
    replace B0 := Lib.hid (B0.out.next hb1)
    replace HB := Lib.hid (HB.out.trans (hb1.mono HB.out.size))
    clear hb1 a0 a1
    have a0 := B0.out.c0
    have a1 := B0.out.c1
    go_wp2_with fail
    refine (Bits_c B0.out.is HL.out).mono ?_
    rintro e w2 ⟨rfl, hb1⟩
    replace HB := Lib.hid (HB.out.trans (hb1.mono HB.out.size))
    clear hb1 a0 a1
    go_wp2
    go_ret
    exact ⟨rfl, HB.out⟩
/-- Rests's variables, whatever the words -/
structure Rtr (w W : World) (ga : Nat) (s : Bool) (A : Option Addr) (n c : Nat) (xs : List Nat) (s' : Bool) (A' : Option Addr) (n' c' : Nat) (ys : List Nat) : Prop where
  below : Below w.heap.size w W
  ge : w.heap.size ≤ ga
  ba : Rb W ga s A n c xs
  bm : Rb W (ga + 1) s' A' n' c' ys
  r6 : Nvr W (ga + 1 + 1) 0 false none 0 0
  r7 : Nvr W (ga + 1 + 1 + 1) 0 false none 0 0
theorem Rtr.next {w W W' : World} {ga : Nat} {s : Bool} {A : Option Addr} {n c : Nat} {xs : List Nat} {s' : Bool} {A' : Option Addr} {n' c' : Nat} {ys : List Nat} (h : Rtr w W ga s A n c xs s' A' n' c' ys) (hb : Below W.heap.size W W') : Rtr w W' ga s A n c xs s' A' n' c' ys :=
  ⟨h.below.trans (hb.mono h.below.size), h.ge, h.ba.next hb, h.bm.next hb, h.r6.next hb, h.r7.next hb⟩
theorem Rtr.start {w : World} {s : Bool} {A : Option Addr} {n c : Nat} {xs : List Nat} {s' : Bool} {A' : Option Addr} {n' c' : Nat} {ys : List Nat} (h : Rd w A n xs) (h' : Rd w A' n' ys) : Rtr w ((((w.alloc (.cells #[.bool s, .slice A n c] 24)).alloc (.cells #[.bool s', .slice A' n' c'] 24)).alloc (.cells #[.bool false, .slice none 0 0] 24)).alloc (.cells #[.bool false, .slice none 0 0] 24)) w.heap.size s A n c xs s' A' n' c' ys := by
  have k0 := below_alloc w (.cells #[.bool s, .slice A n c] 24)
  have k1 := below_alloc (w.alloc (.cells #[.bool s, .slice A n c] 24)) (.cells #[.bool s', .slice A' n' c'] 24)
  have k2 := below_alloc ((w.alloc (.cells #[.bool s, .slice A n c] 24)).alloc (.cells #[.bool s', .slice A' n' c'] 24)) (.cells #[.bool false, .slice none 0 0] 24)
  have k3 := below_alloc (((w.alloc (.cells #[.bool s, .slice A n c] 24)).alloc (.cells #[.bool s', .slice A' n' c'] 24)).alloc (.cells #[.bool false, .slice none 0 0] 24)) (.cells #[.bool false, .slice none 0 0] 24)
  have v0 := Rb.new (s := s) (c := c) h
  have v1 := Rb.new (s := s') (c := c') (h'.below k0)
  have v2 := Nvr.new (is_zero8 ((w.alloc (.cells #[.bool s, .slice A n c] 24)).alloc (.cells #[.bool s', .slice A' n' c'] 24)))
  have v3 := Nvr.new (is_zero8 (((w.alloc (.cells #[.bool s, .slice A n c] 24)).alloc (.cells #[.bool s', .slice A' n' c'] 24)).alloc (.cells #[.bool false, .slice none 0 0] 24)))
  simp only [World.size_alloc] at v1 v2 v3
  have hB : Below w.heap.size w ((((w.alloc (.cells #[.bool s, .slice A n c] 24)).alloc (.cells #[.bool s', .slice A' n' c'] 24)).alloc (.cells #[.bool false, .slice none 0 0] 24)).alloc (.cells #[.bool false, .slice none 0 0] 24)) := by
    refine (((k0.trans (k1.mono ?_)).trans (k2.mono ?_)).trans (k3.mono ?_))
    all_goals simp; try omega
  exact ⟨hB, Nat.le_refl _, ((v0.next k1).next k2).next k3, (v1.next k2).next k3, v2.next k3, v3⟩
/-- no rests and an error -/
def RestsZ (k : Int) (w : World) (e : Ending) (w' : World) : Prop := e = .returned (.tuple #[.agg #[.bool false, .slice none 0 0], .agg #[.bool false, .slice none 0 0], .int .i64 k]) ∧ Below w.heap.size w w'
set_option maxHeartbeats 8000000 in
theorem Rests_err {w : World} {s : Bool} {A : Option Addr} {n c : Nat} {xs : List Nat} {s' : Bool} {A' : Option Addr} {n' c' : Nat} {ys : List Nat} (h : Rd w A n xs) (h' : Rd w A' n' ys) (hn : n ≤ c) (hc : c ≤ 9223372036854775807) (K k : Int) (hk : codeV s xs (validB s' ys) = k) (hk0 : k ≠ 0) :
    Calls Try.prog 22 #[.agg #[.bool s, .slice A n c], .int .i64 K, .agg #[.bool s', .slice A' n' c']] w (RestsZ k w) := by
  have E := Lib.hid (Rtr.start (s := s) (c := c) (s' := s') (c' := c') h h')
  have HN := Lib.hid (And.intro (And.intro hn hc) True.intro)
  have t1 : (k == 0) = false := by rw [beq_eq_false_iff_ne]; exact hk0
  have HK := Lib.hid hk
  clear h h' hn hc hk hk0
  go_enter Try.func22, Try.ntmps22
  go_upto_region 1 with (fail)
  generalize (((w.alloc (.cells #[.bool s, .slice A n c] 24)).alloc (.cells #[.bool s', .slice A' n' c'] 24)).alloc (.cells #[.bool false, .slice none 0 0] 24)).alloc (.cells #[.bool false, .slice none 0 0] 24) = W0 at E ⊢
  obtain ⟨ga, hga⟩ : ∃ g, g = w.heap.size := ⟨_, rfl⟩
  rw [← hga] at E ⊢
  clear hga
  have a0 := E.out.ba.c0
  have a1 := E.out.ba.c1
  have b0 := E.out.bm.c0
  have b1 := E.out.bm.c1
  go_wp2_with fail
  have hb := below_alloc W0 (.cells #[.bool s', .slice A' n' c'] 24)
  have O1 := Lib.hid (oth1_raw (Rb.new (s := s') (c := c') E.out.bm.rd))
  replace E := Lib.hid (E.out.next hb)
  clear hb a0 a1 b0 b1
  generalize W0.alloc (.cells #[.bool s', .slice A' n' c'] 24) = W1 at E O1 ⊢
  refine (check_raw E.out.ba.rd HN.out.1.1 HN.out.1.2 _ _ O1.out).mono ?_
  rw [HK.out]
  rintro e w1 ⟨rfl, hb⟩
  replace E := Lib.hid (E.out.next hb)
  clear hb O1
  have r0 := E.out.r6.c0
  have r1 := E.out.r6.c1
  have r2 := E.out.r6.f0
  have r3 := E.out.r6.f1
  have s0 := E.out.r7.c0
  have s1 := E.out.r7.c1
  have s2 := E.out.r7.f0
  have s3 := E.out.r7.f1
  have f5 : ¬ ga + 1 + 1 = ga + 1 + 1 + 1 := by omega
  have f6 : ¬ ga + 1 + 1 + 1 = ga + 1 + 1 := by omega
  go_wp2
  generalize hX : (((w1.setCell ⟨ga + 1 + 1, 0, none⟩ (.bool false)).setCell ⟨ga + 1 + 1, 1, none⟩ (.slice none 0 0)).setCell ⟨ga + 1 + 1 + 1, 0, none⟩ (.bool false)).setCell ⟨ga + 1 + 1 + 1, 1, none⟩ (.slice none 0 0) = X
  obtain ⟨y0, y1, y2, y3, v1, v2, v3⟩ := two_res E.out.r6 E.out.r7 (by omega) (is_zero8 _) (is_zero8 _) E.out.below (by have := E.out.ge; omega) (by have := E.out.ge; omega) hX
  refine bodyPost_ret (v := .tuple #[.agg #[.bool false, .slice none 0 0], .agg #[.bool false, .slice none 0 0], .int .i64 k]) (by simp [results, Try.results22, go_sem, y0, y1, y2, y3]) rfl ?_
  exact ⟨rfl, v3⟩
set_option maxHeartbeats 8000000 in
theorem Rests_arg {w : World} {s : Bool} {A : Option Addr} {n c : Nat} {xs : List Nat} {s' : Bool} {A' : Option Addr} {n' c' : Nat} {ys : List Nat} (h : Rd w A n xs) (h' : Rd w A' n' ys) (hn : n ≤ c) (hc : c ≤ 9223372036854775807) (hn' : n' ≤ c') (hc' : c' ≤ 9223372036854775807) (K : Int) (hk : codeV s xs (validB s' ys) = 0)
    (hbad : ¬ (0 < sgn s' (val ys) ∧ blen (sgn s' (val ys)).natAbs ≤ 4000) ∨ K < 0 ∨ 1152921504606846976 < K) :
    Calls Try.prog 22 #[.agg #[.bool s, .slice A n c], .int .i64 K, .agg #[.bool s', .slice A' n' c']] w (RestsZ 2 w) := by
  have E := Lib.hid (Rtr.start (s := s) (c := c) (s' := s') (c' := c') h h')
  have HN := Lib.hid (And.intro (And.intro hn hc) (And.intro hn' hc'))
  have HK := Lib.hid hk
  have HV := Lib.hid (codeV_zero hk).2.1
  have HBAD := Lib.hid hbad
  clear h h' hn hc hn' hc' hk hbad
  go_enter Try.func22, Try.ntmps22
  go_upto_region 1 with (fail)
  generalize (((w.alloc (.cells #[.bool s, .slice A n c] 24)).alloc (.cells #[.bool s', .slice A' n' c'] 24)).alloc (.cells #[.bool false, .slice none 0 0] 24)).alloc (.cells #[.bool false, .slice none 0 0] 24) = W0 at E ⊢
  obtain ⟨ga, hga⟩ : ∃ g, g = w.heap.size := ⟨_, rfl⟩
  rw [← hga] at E ⊢
  clear hga
  have a0 := E.out.ba.c0
  have a1 := E.out.ba.c1
  have b0 := E.out.bm.c0
  have b1 := E.out.bm.c1
  go_wp2_with fail
  have hb := below_alloc W0 (.cells #[.bool s', .slice A' n' c'] 24)
  have O1 := Lib.hid (oth1_raw (Rb.new (s := s') (c := c') E.out.bm.rd))
  replace E := Lib.hid (E.out.next hb)
  clear hb a0 a1 b0 b1
  generalize W0.alloc (.cells #[.bool s', .slice A' n' c'] 24) = W1 at E O1 ⊢
  refine (check_raw E.out.ba.rd HN.out.1.1 HN.out.1.2 _ _ O1.out).mono ?_
  rw [HK.out]
  rintro e w1 ⟨rfl, hb⟩
  replace E := Lib.hid (E.out.next hb)
  clear hb O1
  by_cases h1 : K < 0
  · have k2 : decide (K < 0) = true := decide_eq_true h1
    clear HBAD
    have r0 := E.out.r6.c0
    have r1 := E.out.r6.c1
    have r2 := E.out.r6.f0
    have r3 := E.out.r6.f1
    have s0 := E.out.r7.c0
    have s1 := E.out.r7.c1
    have s2 := E.out.r7.f0
    have s3 := E.out.r7.f1
    have f5 : ¬ ga + 1 + 1 = ga + 1 + 1 + 1 := by omega
    have f6 : ¬ ga + 1 + 1 + 1 = ga + 1 + 1 := by omega
    go_wp2
    generalize hX : (((w1.setCell ⟨ga + 1 + 1, 0, none⟩ (.bool false)).setCell ⟨ga + 1 + 1, 1, none⟩ (.slice none 0 0)).setCell ⟨ga + 1 + 1 + 1, 0, none⟩ (.bool false)).setCell ⟨ga + 1 + 1 + 1, 1, none⟩ (.slice none 0 0) = X
    obtain ⟨y0, y1, y2, y3, v1, v2, v3⟩ := two_res E.out.r6 E.out.r7 (by omega) (is_zero8 _) (is_zero8 _) E.out.below (by have := E.out.ge; omega) (by have := E.out.ge; omega) hX
    refine bodyPost_ret (v := .tuple #[.agg #[.bool false, .slice none 0 0], .agg #[.bool false, .slice none 0 0], .int .i64 2]) (by simp [results, Try.results22, go_sem, y0, y1, y2, y3]) rfl ?_
    exact ⟨rfl, v3⟩
  · have k2 : decide (K < 0) = false := decide_eq_false h1
    by_cases h3 : 1152921504606846976 < K
    · have k3 : decide (1152921504606846976 < K) = true := decide_eq_true h3
      clear HBAD
      have r0 := E.out.r6.c0
      have r1 := E.out.r6.c1
      have r2 := E.out.r6.f0
      have r3 := E.out.r6.f1
      have s0 := E.out.r7.c0
      have s1 := E.out.r7.c1
      have s2 := E.out.r7.f0
      have s3 := E.out.r7.f1
      have f5 : ¬ ga + 1 + 1 = ga + 1 + 1 + 1 := by omega
      have f6 : ¬ ga + 1 + 1 + 1 = ga + 1 + 1 := by omega
      go_wp2
      generalize hX : (((w1.setCell ⟨ga + 1 + 1, 0, none⟩ (.bool false)).setCell ⟨ga + 1 + 1, 1, none⟩ (.slice none 0 0)).setCell ⟨ga + 1 + 1 + 1, 0, none⟩ (.bool false)).setCell ⟨ga + 1 + 1 + 1, 1, none⟩ (.slice none 0 0) = X
      obtain ⟨y0, y1, y2, y3, v1, v2, v3⟩ := two_res E.out.r6 E.out.r7 (by omega) (is_zero8 _) (is_zero8 _) E.out.below (by have := E.out.ge; omega) (by have := E.out.ge; omega) hX
      refine bodyPost_ret (v := .tuple #[.agg #[.bool false, .slice none 0 0], .agg #[.bool false, .slice none 0 0], .int .i64 2]) (by simp [results, Try.results22, go_sem, y0, y1, y2, y3]) rfl ?_
      exact ⟨rfl, v3⟩
    · have k3 : decide (1152921504606846976 < K) = false := decide_eq_false h3
      have HMD := Lib.hid (show ¬ (0 < sgn s' (val ys) ∧ blen (sgn s' (val ys)).natAbs ≤ 4000) by rcases HBAD.out with h | h | h; exact h; exact absurd h h1; exact absurd h h3)
      clear HBAD
      have b0 := E.out.bm.c0
      have b1 := E.out.bm.c1
      go_wp2_with fail
      refine (isModulus_no (raw_iv E.out.bm.rd HV.out HN.out.2.1 HN.out.2.2) HMD.out).mono ?_
      rintro e w2 ⟨rfl, hb⟩
      replace E := Lib.hid (E.out.next hb)
      clear hb b0 b1
      have r0 := E.out.r6.c0
      have r1 := E.out.r6.c1
      have r2 := E.out.r6.f0
      have r3 := E.out.r6.f1
      have s0 := E.out.r7.c0
      have s1 := E.out.r7.c1
      have s2 := E.out.r7.f0
      have s3 := E.out.r7.f1
      have f5 : ¬ ga + 1 + 1 = ga + 1 + 1 + 1 := by omega
      have f6 : ¬ ga + 1 + 1 + 1 = ga + 1 + 1 := by omega
      go_wp2
      generalize hX : (((w2.setCell ⟨ga + 1 + 1, 0, none⟩ (.bool false)).setCell ⟨ga + 1 + 1, 1, none⟩ (.slice none 0 0)).setCell ⟨ga + 1 + 1 + 1, 0, none⟩ (.bool false)).setCell ⟨ga + 1 + 1 + 1, 1, none⟩ (.slice none 0 0) = X
      obtain ⟨y0, y1, y2, y3, v1, v2, v3⟩ := two_res E.out.r6 E.out.r7 (by omega) (is_zero8 _) (is_zero8 _) E.out.below (by have := E.out.ge; omega) (by have := E.out.ge; omega) hX
      refine bodyPost_ret (v := .tuple #[.agg #[.bool false, .slice none 0 0], .agg #[.bool false, .slice none 0 0], .int .i64 2]) (by simp [results, Try.results22, go_sem, y0, y1, y2, y3]) rfl ?_
      exact ⟨rfl, v3⟩
end Go.Proofs.Ytbblckaplddggaa

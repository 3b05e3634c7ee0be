import Derived.Test.YtpgiifjngkekgaaSn
import Derived.Deep.DeepMust
namespace Go.Proofs.Ytpgiifjngkekgaa
open Go.RowKit Go.Deep

theorem is_zero' (w : World) : Is w 0 false none 0 0 := ⟨rfl, by rw [show (0 : Int).natAbs = 0 from rfl, words_zero]; rfl, by rw [show (0 : Int).natAbs = 0 from rfl, words_zero]; exact Rd.nil _, Nat.le_refl _, by omega⟩
theorem quo_zero {z : Int} {n m : Nat} (h : (words z.natAbs).length = n) (hm : 32 * n ≤ m) : z.natAbs / 2 ^ m = 0 := by
  have h1 := lt_pw_words z.natAbs
  rw [h, pw_two] at h1
  exact Nat.div_eq_of_lt (Nat.lt_of_lt_of_le h1 (Nat.pow_le_pow_right (by omega) hm))

set_option maxHeartbeats 2000000 in
set_option maxRecDepth 100000 in
/-- the reference's Shift downward by all words -/
theorem refShift_down2 {w : World} {z : Int} {t : Bool} {A : Option Addr} {n c : Nat} (h : Is w z t A n c) (hn4 : n ≤ 4398046511104) (m : Nat) (hm : m = 32 * n) (hm0 : 0 < m) :
    Calls Try.prog 38 #[.agg #[.bool t, .slice A n c], .int .i64 (-(m : Int))] w (NumI w (z / (2 ^ m : Nat))) := by
  have hn : n ≤ 8796093022208 := by omega
  have HI := Lib.hid h
  have E := Lib.hid (Env1r.start w t A n c)
  have HO0 := Lib.hid (quo_zero (z := z) (m := m) h.2.1.symm (by omega))
  have HM4 := Lib.hid (show m ≤ 281474976710656 by omega)
  have HN5 := Lib.hid (show n ≤ 17592186044416 by omega)
  clear h
  have e1 : ((m : Int) / 32) = (n : Int) := by omega
  have hm3 : -32 * (n : Int) ≤ -(m : Int) := by omega
  clear hm
  go_enter Try.func38, Try.ntmps38
  go_wp2_with fail
  have O := Lib.hid (Res.new ((w.alloc (.cells #[.bool t, .slice A n c] 24)).alloc (.cells #[.bool false, .slice none 0 0] 24)))
  rw [show ((w.alloc (.cells #[.bool t, .slice A n c] 24)).alloc (.cells #[.bool false, .slice none 0 0] 24)).heap.size = w.heap.size + 1 + 1 by simp] at O
  replace E := Lib.hid (E.out.next (below_alloc _ (.cells #[.bool false, .slice none 0 0] 24)))
  generalize ((w.alloc (.cells #[.bool t, .slice A n c] 24)).alloc (.cells #[.bool false, .slice none 0 0] 24)).alloc (.cells #[.bool false, .slice none 0 0] 24) = W6 at E O ⊢
  have OF := Lib.hid O.out.fz
  obtain ⟨o, HO⟩ : ∃ o : Int, Hid (o = sgn t (z.natAbs / 2 ^ m)) := ⟨_, Lib.hid rfl⟩
  obtain ⟨t5, B5, m5, d5, OB, OL⟩ : ∃ t5 B5 m5 d5, Hid (Box W6 (w.heap.size + 1 + 1) o t5 B5 m5 d5) ∧ Hid (m5 ≤ n) :=
    ⟨false, none, 0, 0, Lib.hid ⟨O.out.lt, O.out.r0, O.out.r1, by rw [HO.out, HO0.out, sgn_zero]; exact is_zero' _⟩, Lib.hid (Nat.zero_le _)⟩
  clear O HO0
  rcases t with _ | _
  · have HF := Lib.hid (show o = z / (2 ^ m : Nat) by
      rw [HO.out]
      have hz : 0 ≤ z := by have := HI.out.1; simpa using this
      show ((z.natAbs / 2 ^ m : Nat) : Int) = _
      rw [Int.natCast_ediv]; congr 1; omega)
    have a0 := E.out.a0
    have o0 := OB.out.c0
    have o1 := OB.out.c1
    go_wp2_with fail
    go_quiet (fail)
    replace E := Lib.hid (E.out.next (below_drewN (Below.refl _ _) nq))
    replace OB := Lib.hid (OB.out.next (below_drewN (Below.refl _ _) nq))
    clear a0 o0 o1
    generalize W6.drewN nq = W7 at E OB ⊢
    have o0 := OB.out.c0
    have o1 := OB.out.c1
    have r0 := E.out.res.r0
    have r1 := E.out.res.r1
    have f0 := E.out.res.f0
    have f1 := E.out.res.f1
    go_wp2
    refine bodyPost_ret (v := .agg #[.bool t5, .slice B5 m5 d5]) (by simp [results, Try.results38, go_sem, r0, r1]) rfl ?_
    exact ⟨t5, B5, m5, d5, rfl, by rw [← HF.out]; exact OB.out.is.store r0 r1 _ _, below_store E.out.below (by omega) _ _⟩
  · have hz : z < 0 := by have := HI.out.1; simpa using this.symm
    have HP := Lib.hid (two_pos m)
    obtain ⟨P, hP⟩ : ∃ P, P = 2 ^ m := ⟨_, rfl⟩
    obtain ⟨X5, hX5⟩ : ∃ X5, X5 = z.natAbs := ⟨_, rfl⟩
    have hzX : z = -(X5 : Int) := by omega
    have HS1 := Lib.hid (shl_up o m)
    rw [← hP] at HP HO HS1 ⊢
    rw [← hX5] at HO
    have HO2 := Lib.hid (show shl o m = -((X5 / P * P : Nat) : Int) by rw [HS1.out, HO.out, Int.natCast_mul]; show -((X5 / P : Nat) : Int) * (P : Int) = _; rw [Int.neg_mul])
    have HL2 := Lib.hid (show (words (shl o m).natAbs).length ≤ n by
      rw [HO2.out, HI.out.2.1, ← hX5]
      exact words_mono (by have := Nat.div_mul_le_self X5 P; omega))
    by_cases hd : X5 / P * P = X5
    · have HF := Lib.hid (show o = z / ((2 ^ m : Nat) : Int) by rw [← hP, hzX, fl0 X5 P HP.out hd, HO.out])
      have HC := Lib.hid (show ord (shl o m) z = 0 from ord_eq (by rw [HO2.out, hd, hzX]))
      clear hd hzX hX5 hP HS1 HO2 hz
      have a0 := E.out.a0
      have a1 := E.out.a1
      have o0 := OB.out.c0
      have o1 := OB.out.c1
      replace E := Lib.hid (E.out.next (Below.refl _ _).drew)
      replace OB := Lib.hid (OB.out.next (Below.refl _ _).drew)
      replace OF := Lib.hid (OF.out.next (Below.refl _ _).drew)
      go_wp2_with fail
      go_region_held3 (fun w' => w'.cell? ⟨w.heap.size, 0, none⟩ = some (.bool true) ∧ w'.cell? ⟨w.heap.size, 1, none⟩ = some (.slice A n c) ∧ w'.cell? ⟨w.heap.size + 1 + 1, 0, none⟩ = some (.bool t5) ∧ w'.cell? ⟨w.heap.size + 1 + 1, 1, none⟩ = some (.slice B5 m5 d5)) (first | exact ⟨a0, a1, o0, o1⟩)
        (first
          | (go_at_call 38
             refine (refShift_nn OB.out.is (Nat.le_trans OL.out hn) m HM4.out).mono ?_
             rintro e y6 ⟨t6, B6, m6, d6, rfl, hi6, hb⟩
             replace E := Lib.hid (E.out.next hb)
             replace OB := Lib.hid (OB.out.next hb)
             replace OF := Lib.hid (OF.out.next hb)
             have I6 := Lib.hid hi6
             replace a0 := E.out.a0
             replace a1 := E.out.a1
             replace o0 := OB.out.c0
             replace o1 := OB.out.c1
             clear hi6 hb)
          | (go_at_call 18
             refine (refCmp_c I6.out (HI.out.below E.out.below) (Nat.le_trans (by rw [I6.out.2.1]; exact HL2.out) HN5.out) HN5.out).mono ?_
             rw [HC.out]
             rintro e y7 ⟨rfl, hb⟩
             replace E := Lib.hid (E.out.next hb)
             replace OB := Lib.hid (OB.out.next hb)
             replace OF := Lib.hid (OF.out.next hb)
             replace a0 := E.out.a0
             replace a1 := E.out.a1
             replace o0 := OB.out.c0
             replace o1 := OB.out.c1
             clear hb)
          | fail "no arm")
      clear a0 a1
      have r0 := E.out.res.r0
      have r1 := E.out.res.r1
      have f0 := E.out.res.f0
      have f1 := E.out.res.f1
      go_wp2
      refine bodyPost_ret (v := .agg #[.bool t5, .slice B5 m5 d5]) (by simp [results, Try.results38, go_sem, r0, r1]) rfl ?_
      exact ⟨t5, B5, m5, d5, rfl, by rw [← HF.out]; exact OB.out.is.store r0 r1 _ _, below_store E.out.below (by omega) _ _⟩
    · have HF := Lib.hid (show o - 1 = z / ((2 ^ m : Nat) : Int) by
        rw [← hP, hzX, fl1 X5 P HP.out hd, HO.out]
        show -((X5 / P : Nat) : Int) - 1 = -((X5 / P + 1 : Nat) : Int)
        omega)
      have HC := Lib.hid (show ord (shl o m) z = 1 from ord_gt (by rw [HO2.out, hzX]; have := Nat.div_mul_le_self X5 P; omega))
      clear hd hzX hX5 hP HS1 HO2 hz
      have a0 := E.out.a0
      have a1 := E.out.a1
      have o0 := OB.out.c0
      have o1 := OB.out.c1
      replace E := Lib.hid (E.out.next (Below.refl _ _).drew)
      replace OB := Lib.hid (OB.out.next (Below.refl _ _).drew)
      replace OF := Lib.hid (OF.out.next (Below.refl _ _).drew)
      go_wp2_with fail
      go_region_held3 (fun w' => w'.cell? ⟨w.heap.size, 0, none⟩ = some (.bool true) ∧ w'.cell? ⟨w.heap.size, 1, none⟩ = some (.slice A n c) ∧ w'.cell? ⟨w.heap.size + 1 + 1, 0, none⟩ = some (.bool t5) ∧ w'.cell? ⟨w.heap.size + 1 + 1, 1, none⟩ = some (.slice B5 m5 d5)) (first | exact ⟨a0, a1, o0, o1⟩)
        (first
          | (go_at_call 38
             refine (refShift_nn OB.out.is (Nat.le_trans OL.out hn) m HM4.out).mono ?_
             rintro e y6 ⟨t6, B6, m6, d6, rfl, hi6, hb⟩
             replace E := Lib.hid (E.out.next hb)
             replace OB := Lib.hid (OB.out.next hb)
             replace OF := Lib.hid (OF.out.next hb)
             have I6 := Lib.hid hi6
             replace a0 := E.out.a0
             replace a1 := E.out.a1
             replace o0 := OB.out.c0
             replace o1 := OB.out.c1
             clear hi6 hb)
          | (go_at_call 18
             refine (refCmp_c I6.out (HI.out.below E.out.below) (Nat.le_trans (by rw [I6.out.2.1]; exact HL2.out) HN5.out) HN5.out).mono ?_
             rw [HC.out]
             rintro e y7 ⟨rfl, hb⟩
             replace E := Lib.hid (E.out.next hb)
             replace OB := Lib.hid (OB.out.next hb)
             replace OF := Lib.hid (OF.out.next hb)
             replace a0 := E.out.a0
             replace a1 := E.out.a1
             replace o0 := OB.out.c0
             replace o1 := OB.out.c1
             clear hb)
          | fail "no arm")
      clear a0 a1
      go_wp2_with fail
      go_region_with (first
        | (go_at_call 30
           go_must (refine (refOf_i1 _).mono ?_)
           rintro e y8 ⟨A8, n8, c8, rfl, p1, p4⟩
           replace E := Lib.hid (E.out.next (below_drew2 p4))
           replace OB := Lib.hid (OB.out.next (below_drew2 p4))
           replace OF := Lib.hid (OF.out.next (below_drew2 p4))
           have I8 := Lib.hid p1
           have o0 := OB.out.c0
           have o1 := OB.out.c1
           clear p1 p4)
        | (go_at_call 21
           go_must (refine (refSub_c OB.out.is I8.out (Nat.le_trans OL.out hn) (by rw [I8.out.2.1]; exact one_len)).mono ?_)
           rintro e y9 ⟨t9, B9, m9, d9, rfl, hi9, hb⟩
           rw [HF.out] at hi9
           replace E := Lib.hid (E.out.next hb)
           replace OB := Lib.hid (OB.out.next hb)
           replace OF := Lib.hid (OF.out.next hb)
           have f8 := OF.out.f0
           have f9 := OF.out.f1
           have o0 := OB.out.c0
           have o1 := OB.out.c1
           have OB2 := Lib.hid (Box.put OB.out hi9)
           have E2 := Lib.hid (E.out.two (g := w.heap.size + 1 + 1) (Nat.le_refl _) (.bool t9) (.slice B9 m9 d9))
           clear hi9 hb)
        | fail "no arm")
      all_goals
        generalize (y9.setCell ⟨w.heap.size + 1 + 1, 0, none⟩ (.bool t9)).setCell ⟨w.heap.size + 1 + 1, 1, none⟩ (.slice B9 m9 d9) = W10 at E2 OB2 ⊢
        clear o0 o1 E OB OF f8 f9
        have o0 := OB2.out.c0
        have o1 := OB2.out.c1
        have r0 := E2.out.res.r0
        have r1 := E2.out.res.r1
        have f0 := E2.out.res.f0
        have f1 := E2.out.res.f1
        go_wp2
        refine bodyPost_ret (v := .agg #[.bool t9, .slice B9 m9 d9]) (by simp [results, Try.results38, go_sem, r0, r1]) rfl ?_
        exact ⟨t9, B9, m9, d9, rfl, OB2.out.is.store r0 r1 _ _, below_store E2.out.below (by omega) _ _⟩

set_option maxHeartbeats 2000000 in
set_option maxRecDepth 100000 in
/-- the reference's Shift downward beyond all words -/
theorem refShift_down3 {w : World} {z : Int} {t : Bool} {A : Option Addr} {n c : Nat} (h : Is w z t A n c) (hn4 : n ≤ 4398046511104) (m : Nat) (hm : m = 32 * n + 1) (k : Int) (hk : k < -32 * (n : Int)) :
    Calls Try.prog 38 #[.agg #[.bool t, .slice A n c], .int .i64 k] w (NumI w (z / (2 ^ m : Nat))) := by
  have hn : n ≤ 8796093022208 := by omega
  have HI := Lib.hid h
  have E := Lib.hid (Env1r.start w t A n c)
  have HO0 := Lib.hid (quo_zero (z := z) (m := m) h.2.1.symm (by omega))
  have HM4 := Lib.hid (show m ≤ 281474976710656 by omega)
  have HN5 := Lib.hid (show n ≤ 17592186044416 by omega)
  clear h
  have hk0 : k < 0 := by omega
  have e0 : (-(-32 * (n : Int) - 1)) = (m : Int) := by omega
  have e1 : ((m : Int) / 32) = (n : Int) := by omega
  clear hm
  go_enter Try.func38, Try.ntmps38
  go_wp2_with fail
  have O := Lib.hid (Res.new ((w.alloc (.cells #[.bool t, .slice A n c] 24)).alloc (.cells #[.bool false, .slice none 0 0] 24)))
  rw [show ((w.alloc (.cells #[.bool t, .slice A n c] 24)).alloc (.cells #[.bool false, .slice none 0 0] 24)).heap.size = w.heap.size + 1 + 1 by simp] at O
  replace E := Lib.hid (E.out.next (below_alloc _ (.cells #[.bool false, .slice none 0 0] 24)))
  generalize ((w.alloc (.cells #[.bool t, .slice A n c] 24)).alloc (.cells #[.bool false, .slice none 0 0] 24)).alloc (.cells #[.bool false, .slice none 0 0] 24) = W6 at E O ⊢
  have OF := Lib.hid O.out.fz
  obtain ⟨o, HO⟩ : ∃ o : Int, Hid (o = sgn t (z.natAbs / 2 ^ m)) := ⟨_, Lib.hid rfl⟩
  obtain ⟨t5, B5, m5, d5, OB, OL⟩ : ∃ t5 B5 m5 d5, Hid (Box W6 (w.heap.size + 1 + 1) o t5 B5 m5 d5) ∧ Hid (m5 ≤ n) :=
    ⟨false, none, 0, 0, Lib.hid ⟨O.out.lt, O.out.r0, O.out.r1, by rw [HO.out, HO0.out, sgn_zero]; exact is_zero' _⟩, Lib.hid (Nat.zero_le _)⟩
  clear O HO0
  rcases t with _ | _
  · have HF := Lib.hid (show o = z / (2 ^ m : Nat) by
      rw [HO.out]
      have hz : 0 ≤ z := by have := HI.out.1; simpa using this
      show ((z.natAbs / 2 ^ m : Nat) : Int) = _
      rw [Int.natCast_ediv]; congr 1; omega)
    have a0 := E.out.a0
    have o0 := OB.out.c0
    have o1 := OB.out.c1
    go_wp2_with fail
    go_quiet (fail)
    replace E := Lib.hid (E.out.next (below_drewN (Below.refl _ _) nq))
    replace OB := Lib.hid (OB.out.next (below_drewN (Below.refl _ _) nq))
    clear a0 o0 o1
    generalize W6.drewN nq = W7 at E OB ⊢
    have o0 := OB.out.c0
    have o1 := OB.out.c1
    have r0 := E.out.res.r0
    have r1 := E.out.res.r1
    have f0 := E.out.res.f0
    have f1 := E.out.res.f1
    go_wp2
    refine bodyPost_ret (v := .agg #[.bool t5, .slice B5 m5 d5]) (by simp [results, Try.results38, go_sem, r0, r1]) rfl ?_
    exact ⟨t5, B5, m5, d5, rfl, by rw [← HF.out]; exact OB.out.is.store r0 r1 _ _, below_store E.out.below (by omega) _ _⟩
  · have hz : z < 0 := by have := HI.out.1; simpa using this.symm
    have HP := Lib.hid (two_pos m)
    obtain ⟨P, hP⟩ : ∃ P, P = 2 ^ m := ⟨_, rfl⟩
    obtain ⟨X5, hX5⟩ : ∃ X5, X5 = z.natAbs := ⟨_, rfl⟩
    have hzX : z = -(X5 : Int) := by omega
    have HS1 := Lib.hid (shl_up o m)
    rw [← hP] at HP HO HS1 ⊢
    rw [← hX5] at HO
    have HO2 := Lib.hid (show shl o m = -((X5 / P * P : Nat) : Int) by rw [HS1.out, HO.out, Int.natCast_mul]; show -((X5 / P : Nat) : Int) * (P : Int) = _; rw [Int.neg_mul])
    have HL2 := Lib.hid (show (words (shl o m).natAbs).length ≤ n by
      rw [HO2.out, HI.out.2.1, ← hX5]
      exact words_mono (by have := Nat.div_mul_le_self X5 P; omega))
    by_cases hd : X5 / P * P = X5
    · have HF := Lib.hid (show o = z / ((2 ^ m : Nat) : Int) by rw [← hP, hzX, fl0 X5 P HP.out hd, HO.out])
      have HC := Lib.hid (show ord (shl o m) z = 0 from ord_eq (by rw [HO2.out, hd, hzX]))
      clear hd hzX hX5 hP HS1 HO2 hz
      have a0 := E.out.a0
      have a1 := E.out.a1
      have o0 := OB.out.c0
      have o1 := OB.out.c1
      replace E := Lib.hid (E.out.next (Below.refl _ _).drew)
      replace OB := Lib.hid (OB.out.next (Below.refl _ _).drew)
      replace OF := Lib.hid (OF.out.next (Below.refl _ _).drew)
      go_wp2_with fail
      go_region_held3 (fun w' => w'.cell? ⟨w.heap.size, 0, none⟩ = some (.bool true) ∧ w'.cell? ⟨w.heap.size, 1, none⟩ = some (.slice A n c) ∧ w'.cell? ⟨w.heap.size + 1 + 1, 0, none⟩ = some (.bool t5) ∧ w'.cell? ⟨w.heap.size + 1 + 1, 1, none⟩ = some (.slice B5 m5 d5)) (first | exact ⟨a0, a1, o0, o1⟩)
        (first
          | (go_at_call 38
             refine (refShift_nn OB.out.is (Nat.le_trans OL.out hn) m HM4.out).mono ?_
             rintro e y6 ⟨t6, B6, m6, d6, rfl, hi6, hb⟩
             replace E := Lib.hid (E.out.next hb)
             replace OB := Lib.hid (OB.out.next hb)
             replace OF := Lib.hid (OF.out.next hb)
             have I6 := Lib.hid hi6
             replace a0 := E.out.a0
             replace a1 := E.out.a1
             replace o0 := OB.out.c0
             replace o1 := OB.out.c1
             clear hi6 hb)
          | (go_at_call 18
             refine (refCmp_c I6.out (HI.out.below E.out.below) (Nat.le_trans (by rw [I6.out.2.1]; exact HL2.out) HN5.out) HN5.out).mono ?_
             rw [HC.out]
             rintro e y7 ⟨rfl, hb⟩
             replace E := Lib.hid (E.out.next hb)
             replace OB := Lib.hid (OB.out.next hb)
             replace OF := Lib.hid (OF.out.next hb)
             replace a0 := E.out.a0
             replace a1 := E.out.a1
             replace o0 := OB.out.c0
             replace o1 := OB.out.c1
             clear hb)
          | fail "no arm")
      clear a0 a1
      have r0 := E.out.res.r0
      have r1 := E.out.res.r1
      have f0 := E.out.res.f0
      have f1 := E.out.res.f1
      go_wp2
      refine bodyPost_ret (v := .agg #[.bool t5, .slice B5 m5 d5]) (by simp [results, Try.results38, go_sem, r0, r1]) rfl ?_
      exact ⟨t5, B5, m5, d5, rfl, by rw [← HF.out]; exact OB.out.is.store r0 r1 _ _, below_store E.out.below (by omega) _ _⟩
    · have HF := Lib.hid (show o - 1 = z / ((2 ^ m : Nat) : Int) by
        rw [← hP, hzX, fl1 X5 P HP.out hd, HO.out]
        show -((X5 / P : Nat) : Int) - 1 = -((X5 / P + 1 : Nat) : Int)
        omega)
      have HC := Lib.hid (show ord (shl o m) z = 1 from ord_gt (by rw [HO2.out, hzX]; have := Nat.div_mul_le_self X5 P; omega))
      clear hd hzX hX5 hP HS1 HO2 hz
      have a0 := E.out.a0
      have a1 := E.out.a1
      have o0 := OB.out.c0
      have o1 := OB.out.c1
      replace E := Lib.hid (E.out.next (Below.refl _ _).drew)
      replace OB := Lib.hid (OB.out.next (Below.refl _ _).drew)
      replace OF := Lib.hid (OF.out.next (Below.refl _ _).drew)
      go_wp2_with fail
      go_region_held3 (fun w' => w'.cell? ⟨w.heap.size, 0, none⟩ = some (.bool true) ∧ w'.cell? ⟨w.heap.size, 1, none⟩ = some (.slice A n c) ∧ w'.cell? ⟨w.heap.size + 1 + 1, 0, none⟩ = some (.bool t5) ∧ w'.cell? ⟨w.heap.size + 1 + 1, 1, none⟩ = some (.slice B5 m5 d5)) (first | exact ⟨a0, a1, o0, o1⟩)
        (first
          | (go_at_call 38
             refine (refShift_nn OB.out.is (Nat.le_trans OL.out hn) m HM4.out).mono ?_
             rintro e y6 ⟨t6, B6, m6, d6, rfl, hi6, hb⟩
             replace E := Lib.hid (E.out.next hb)
             replace OB := Lib.hid (OB.out.next hb)
             replace OF := Lib.hid (OF.out.next hb)
             have I6 := Lib.hid hi6
             replace a0 := E.out.a0
             replace a1 := E.out.a1
             replace o0 := OB.out.c0
             replace o1 := OB.out.c1
             clear hi6 hb)
          | (go_at_call 18
             refine (refCmp_c I6.out (HI.out.below E.out.below) (Nat.le_trans (by rw [I6.out.2.1]; exact HL2.out) HN5.out) HN5.out).mono ?_
             rw [HC.out]
             rintro e y7 ⟨rfl, hb⟩
             replace E := Lib.hid (E.out.next hb)
             replace OB := Lib.hid (OB.out.next hb)
             replace OF := Lib.hid (OF.out.next hb)
             replace a0 := E.out.a0
             replace a1 := E.out.a1
             replace o0 := OB.out.c0
             replace o1 := OB.out.c1
             clear hb)
          | fail "no arm")
      clear a0 a1
      go_wp2_with fail
      go_region_with (first
        | (go_at_call 30
           go_must (refine (refOf_i1 _).mono ?_)
           rintro e y8 ⟨A8, n8, c8, rfl, p1, p4⟩
           replace E := Lib.hid (E.out.next (below_drew2 p4))
           replace OB := Lib.hid (OB.out.next (below_drew2 p4))
           replace OF := Lib.hid (OF.out.next (below_drew2 p4))
           have I8 := Lib.hid p1
           have o0 := OB.out.c0
           have o1 := OB.out.c1
           clear p1 p4)
        | (go_at_call 21
           go_must (refine (refSub_c OB.out.is I8.out (Nat.le_trans OL.out hn) (by rw [I8.out.2.1]; exact one_len)).mono ?_)
           rintro e y9 ⟨t9, B9, m9, d9, rfl, hi9, hb⟩
           rw [HF.out] at hi9
           replace E := Lib.hid (E.out.next hb)
           replace OB := Lib.hid (OB.out.next hb)
           replace OF := Lib.hid (OF.out.next hb)
           have f8 := OF.out.f0
           have f9 := OF.out.f1
           have o0 := OB.out.c0
           have o1 := OB.out.c1
           have OB2 := Lib.hid (Box.put OB.out hi9)
           have E2 := Lib.hid (E.out.two (g := w.heap.size + 1 + 1) (Nat.le_refl _) (.bool t9) (.slice B9 m9 d9))
           clear hi9 hb)
        | fail "no arm")
      all_goals
        generalize (y9.setCell ⟨w.heap.size + 1 + 1, 0, none⟩ (.bool t9)).setCell ⟨w.heap.size + 1 + 1, 1, none⟩ (.slice B9 m9 d9) = W10 at E2 OB2 ⊢
        clear o0 o1 E OB OF f8 f9
        have o0 := OB2.out.c0
        have o1 := OB2.out.c1
        have r0 := E2.out.res.r0
        have r1 := E2.out.res.r1
        have f0 := E2.out.res.f0
        have f1 := E2.out.res.f1
        go_wp2
        refine bodyPost_ret (v := .agg #[.bool t9, .slice B9 m9 d9]) (by simp [results, Try.results38, go_sem, r0, r1]) rfl ?_
        exact ⟨t9, B9, m9, d9, rfl, OB2.out.is.store r0 r1 _ _, below_store E2.out.below (by omega) _ _⟩

theorem far_eq {z : Int} {a b : Nat} (ha : z.natAbs < 2 ^ a) (hb : z.natAbs < 2 ^ b) : z / ((2 ^ a : Nat) : Int) = z / ((2 ^ b : Nat) : Int) := by
  have key : ∀ P : Nat, z.natAbs < P → z / (P : Int) = if z < 0 then -1 else 0 := fun P hP => by
    split
    · exact ((Int.ediv_emod_unique (a := z) (b := (P : Int)) (r := z + P) (q := -1) (by omega)).2 ⟨by omega, by omega, by omega⟩).1
    · exact Int.ediv_eq_zero_of_lt (by omega) (by omega)
  rw [key _ ha, key _ hb]
/-- the reference's Shift -/
theorem refShift_c {w : World} {z : Int} {t : Bool} {A : Option Addr} {n c : Nat} (h : Is w z t A n c) (hn : n ≤ 4398046511104) (k : Int) (hk : k ≤ 281474976710656) :
    Calls Try.prog 38 #[.agg #[.bool t, .slice A n c], .int .i64 k] w (NumI w (shl z k)) := by
  by_cases h0 : 0 ≤ k
  · obtain ⟨k, rfl⟩ := Int.eq_ofNat_of_zero_le h0
    exact refShift_nn h (by omega) k (by omega)
  · have hz : z.natAbs < 2 ^ (32 * n) := by rw [← pw_two, h.2.1]; exact lt_pw_words _
    by_cases hc : k < -32 * (n : Int)
    · have := refShift_down3 h hn (32 * n + 1) rfl k hc
      rwa [far_eq (a := 32 * n + 1) (b := (-k).toNat) (Nat.lt_of_lt_of_le hz (Nat.pow_le_pow_right (by omega) (by omega))) (Nat.lt_of_lt_of_le hz (Nat.pow_le_pow_right (by omega) (by omega))), show z / ((2 ^ (-k).toNat : Nat) : Int) = shl z k by unfold shl; rw [if_neg h0]] at this
    · obtain ⟨m, rfl⟩ : ∃ m : Nat, k = -(m : Int) := ⟨(-k).toNat, by omega⟩
      rw [shl_down z (by omega)]
      by_cases hp : m / 32 < n
      · exact refShift_down1 h (by omega) m (m / 32) (m % 32) (by omega) (by omega) (by omega) hp
      · exact refShift_down2 h hn m (by omega) (by omega)
end Go.Proofs.Ytpgiifjngkekgaa

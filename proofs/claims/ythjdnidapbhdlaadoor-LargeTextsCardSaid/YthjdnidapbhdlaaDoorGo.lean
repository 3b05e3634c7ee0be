import Derived.Test.YthjdnidapbhdlaaDoorGq
import Derived.Test.YthjdnidapbhdlaaDoorVd
import Derived.Test.YthjdnidapbhdlaaDoorFx
import Derived.Deep.DeepCutAuto
set_option maxRecDepth 100000
namespace Go.Proofs.YthjdnidapbhdlaaDoor
open Go.RowKit
set_option maxHeartbeats 16000000 in
theorem LT_long (s : Bool) (A : Option Addr) (n c : Nat) (xs : List Nat) (str : ByteArray) (k : Int) (w : World) (h : Rd w A n xs) (hn : n ≤ c) (hc : c ≤ 9223372036854775807) (hstr : str.size ≤ 9223372036854775807) (k1 : -9223372036854775808 ≤ k) (k2 : k < 9223372036854775808) (ht : Tb w) (hno : 4200 < n ∨ 61000 < str.size) :
    Calls Tryd.prog 3 #[.agg #[.bool s, .slice A n c], .string str, .int .i64 k] w (IsB true w) := by
  have E := Lib.hid (Ev.start s A n c xs w h ht)
  have HN := Lib.hid (And.intro hn hc)
  have HK := Lib.hid (And.intro k1 k2)
  have HST := Lib.hid hstr
  have HNO := Lib.hid hno
  clear hno
  clear h hn hc ht k1 k2 hstr
  go_enter Tryd.func3, Tryd.ntmps3
  go_upto_region 1 with (fail)
  generalize w.alloc (.cells #[.bool s, .slice A n c] 24) = W0 at E ⊢
  obtain ⟨ga, hga⟩ : ∃ g, g = w.heap.size := ⟨_, rfl⟩
  rw [← hga] at E ⊢
  clear hga
  have a0 := E.out.va.c0
  have a1 := E.out.va.c1
  by_cases h1 : 4200 < n
  · have t1 : decide ((4200 : Int) < (n : Int)) = true := decide_eq_true (by omega)
    have t2 : (4200 : Int) < (n : Int) := by omega
    clear h1 HNO
    go_wp2_with fail
    refine (awake_c _).mono ?_
    rintro e u9 ⟨rfl, b9⟩
    have P9 := Lib.hid (E.out.below.trans (b9.mono E.out.below.size))
    clear b9
    go_wp2
    go_ret
    exact ⟨rfl, P9.out⟩
  · have h2 : 61000 < str.size := by have := HNO.out; omega
    have t1 : decide ((4200 : Int) < (n : Int)) = false := decide_eq_false (by omega)
    have t2 : ¬ (4200 : Int) < (n : Int) := by omega
    have t3 : decide ((61000 : Int) < (str.size : Int)) = true := decide_eq_true (by omega)
    have t4 : (61000 : Int) < (str.size : Int) := by omega
    clear h1 h2 HNO
    go_wp2_with fail
    refine (awake_c _).mono ?_
    rintro e u9 ⟨rfl, b9⟩
    have P9 := Lib.hid (E.out.below.trans (b9.mono E.out.below.size))
    clear b9
    go_wp2
    go_ret
    exact ⟨rfl, P9.out⟩
set_option maxHeartbeats 16000000 in
theorem LT_main (s : Bool) (A : Option Addr) (n c : Nat) (xs : List Nat) (str : ByteArray) (k : Int) (w : World) (h : Rd w A n xs) (hn : n ≤ c) (hc : c ≤ 9223372036854775807) (hstr : str.size ≤ 9223372036854775807) (k1 : -9223372036854775808 ≤ k) (k2 : k < 9223372036854775808) (ht : Tb w) (T : ByteArray) (K M : Int) (S : Bool) (hs : n ≤ 4200 ∧ str.size ≤ 61000) (HTX : ∀ W : World, Rd W A n xs → Tb W → Calls Tryd.prog 9 #[.agg #[.bool s, .slice A n c]] W fun e w' => e = .returned (.tuple #[.string T, .int .i64 K]) ∧ Below W.heap.size W w') (HSM : ∀ W : World, Rd W A n xs → Calls Tryd.prog 11 #[.agg #[.bool s, .slice A n c]] W fun e w' => e = .returned (.tuple #[.int .i64 M, .bool S]) ∧ Below W.heap.size W w') (HD : (validB s xs = false ∧ T = ⟨#[]⟩ ∧ K = 1 ∧ M = 0 ∧ S = false) ∨ (validB s xs = true ∧ T = ⟨(Lib.itoa (sgn s (val xs))).toArray⟩ ∧ K = 0 ∧ M = (if smallB s (val xs) = true then sgn s (val xs) else 0) ∧ S = smallB s (val xs))) :
    Calls Tryd.prog 3 #[.agg #[.bool s, .slice A n c], .string str, .int .i64 k] w (IsB true w) := by
  have E := Lib.hid (Ev.start s A n c xs w h ht)
  have HN := Lib.hid (And.intro hn hc)
  have HK := Lib.hid (And.intro k1 k2)
  have HST := Lib.hid hstr
  have HTX0 := HTX
  replace HTX := Lib.hid HTX0
  clear HTX0
  have HSM0 := HSM
  replace HSM := Lib.hid HSM0
  clear HSM0
  have HD0 := HD
  replace HD := Lib.hid HD0
  clear HD0
  have HL := Lib.hid hs
  have t1 : decide ((4200 : Int) < (n : Int)) = false := decide_eq_false (by omega)
  have t2 : ¬ (4200 : Int) < (n : Int) := by omega
  have t3 : decide ((61000 : Int) < (str.size : Int)) = false := decide_eq_false (by omega)
  have t4 : ¬ (61000 : Int) < (str.size : Int) := by omega
  clear hs
  clear h hn hc ht k1 k2 hstr
  go_enter Tryd.func3, Tryd.ntmps3
  go_upto_region 1 with (fail)
  generalize w.alloc (.cells #[.bool s, .slice A n c] 24) = W0 at E ⊢
  obtain ⟨ga, hga⟩ : ∃ g, g = w.heap.size := ⟨_, rfl⟩
  rw [← hga] at E ⊢
  clear hga
  have a0 := E.out.va.c0
  have a1 := E.out.va.c1
  go_wp2_with fail
  refine (HTX.out _ E.out.ra E.out.tb).mono ?_
  rintro e w1 ⟨rfl, hb⟩
  replace E := Lib.hid (E.out.next hb)
  clear hb a0 a1
  have a0 := E.out.va.c0
  have a1 := E.out.va.c1
  clear t1 t2 t3 t4 HTX
  go_wp2_with fail
  refine (Parse_p str _ HST.out).mono ?_
  rintro e w2 ⟨t9, B9, m9, d9, k9, rfl, q9, hb⟩
  replace E := Lib.hid (E.out.next hb)
  clear hb a0 a1
  have Q9 := Lib.hid q9
  clear q9
  have q0 := below_alloc w2 (.cells #[.bool t9, .slice B9 m9 d9] 24)
  have X9 := Lib.hid (Vx.new w2 t9 B9 m9 d9)
  replace E := Lib.hid (E.out.next q0)
  replace Q9 := Lib.hid (Q9.out.below q0)
  clear q0
  go_upto_region 5 with (fail)
  generalize w2.alloc (.cells #[.bool t9, .slice B9 m9 d9] 24) = W2 at E Q9 X9 ⊢
  generalize w2.heap.size = g9 at X9 ⊢
  have a0 := E.out.va.c0
  have a1 := E.out.va.c1
  go_wp2_with fail
  refine (HSM.out _ E.out.ra).mono ?_
  rintro e w1 ⟨rfl, hb⟩
  replace E := Lib.hid (E.out.next hb)
  replace Q9 := Lib.hid (Q9.out.below hb)
  replace X9 := Lib.hid (X9.out.next hb)
  clear hb a0 a1
  have a0 := E.out.va.c0
  have a1 := E.out.va.c1
  clear HSM
  go_wp2_with fail
  refine (of_v k _ HK.out.1 HK.out.2).mono ?_
  rintro e w1 ⟨t1, A1, n1, c1, rfl, i1, hb⟩
  replace E := Lib.hid (E.out.next hb)
  replace Q9 := Lib.hid (Q9.out.below hb)
  replace X9 := Lib.hid (X9.out.next hb)
  clear hb a0 a1
  have J1 := Lib.hid i1
  clear i1
  have a0 := E.out.va.c0
  have a1 := E.out.va.c1
  go_wp2_with fail
  refine (rof_v k _ HK.out.1 HK.out.2).mono ?_
  rintro e w1 ⟨t2, A2, n2, c2, rfl, i2, hb⟩
  replace E := Lib.hid (E.out.next hb)
  replace Q9 := Lib.hid (Q9.out.below hb)
  replace X9 := Lib.hid (X9.out.next hb)
  replace J1 := Lib.hid (J1.out.below hb)
  clear hb a0 a1
  have J2 := Lib.hid i2
  clear i2
  have a0 := E.out.va.c0
  have a1 := E.out.va.c1
  go_wp2_with fail
  refine (same_eq J1.out J2.out (sz_int HK.out.1 HK.out.2) (Nat.le_refl _) rfl).mono ?_
  rintro e w1 ⟨rfl, hb⟩
  replace E := Lib.hid (E.out.next hb)
  replace Q9 := Lib.hid (Q9.out.below hb)
  replace X9 := Lib.hid (X9.out.next hb)
  replace J1 := Lib.hid (J1.out.below hb)
  replace J2 := Lib.hid (J2.out.below hb)
  clear hb a0 a1 J1 J2
  have a0 := E.out.va.c0
  have a1 := E.out.va.c1
  go_wp2_with fail
  refine (refParse_p str _ HST.out).mono ?_
  rintro e w3 ⟨t13, B13, m13, d13, ok, rfl, q13, hb⟩
  replace E := Lib.hid (E.out.next hb)
  replace Q9 := Lib.hid (Q9.out.below hb)
  replace X9 := Lib.hid (X9.out.next hb)
  clear hb a0 a1
  have Q13 := Lib.hid q13
  clear q13
  have q0 := below_alloc w3 (.cells #[.bool t13, .slice B13 m13 d13] 24)
  have X13 := Lib.hid (Vx.new w3 t13 B13 m13 d13)
  replace E := Lib.hid (E.out.next q0)
  replace Q9 := Lib.hid (Q9.out.below q0)
  replace X9 := Lib.hid (X9.out.next q0)
  replace Q13 := Lib.hid (Q13.out.below q0)
  clear q0
  go_upto_if 58 with (fail)
  generalize w3.alloc (.cells #[.bool t13, .slice B13 m13 d13] 24) = W3 at E Q9 X9 Q13 X13 ⊢
  generalize w3.heap.size = g13 at X13 ⊢
  go_cut [] (fun W => Ev w W ga s A n c xs)
  case first =>
    rcases both_pq Q9.out Q13.out with ⟨rfl, rfl, rfl, rfl, rfl, rfl⟩ | ⟨z, hz, i9, i13, rfl⟩
    · clear Q9 Q13 HD HN HK HST HL
      have x0 := X9.out.c0
      have x1 := X9.out.c1
      go_wp2_with fail
      refine (no_c 3 _).mono ?_
      rintro e w4 ⟨rfl, hb⟩
      replace E := Lib.hid (E.out.next hb)
      clear hb x0 x1
      go_wp2
      go_meet
      exact E.out
    · have I9 := Lib.hid i9
      have I13 := Lib.hid i13
      have HZ := Lib.hid hz
      clear i9 i13 hz Q9 Q13
      have y0 := X13.out.c0
      have y1 := X13.out.c1
      by_cases hf : m13 ≤ 4096
      · have HF := Lib.hid hf
        have HM := Lib.hid (show Sz z 4096 by have h1 := I13.out.2.1; rw [h1] at hf; exact words_len_le.1 hf)
        obtain ⟨e1, e2, e3, e4, e5, e6⟩ := I9.out.1 (words_len_le.2 HM.out)
        subst e1
        have J9 := Lib.hid (show Is W3 z t9 B9 m9 d9 from ⟨e2, e3, e4, e5, e6⟩)
        clear I9 e2 e3 e4 e5 e6
        go_wp2_with fail
        refine (fits_c t13 B13 m13 d13 _).mono ?_
        rw [decide_eq_true hf]
        rintro e w4 ⟨rfl, hb⟩
        replace E := Lib.hid (E.out.next hb)
        replace X9 := Lib.hid (X9.out.next hb)
        replace X13 := Lib.hid (X13.out.next hb)
        replace I13 := Lib.hid (I13.out.below hb)
        replace J9 := Lib.hid (J9.out.below hb)
        clear hb hf y0 y1
        have x0 := X9.out.c0
        have x1 := X9.out.c1
        go_wp2_with fail
        refine (Text_is J9.out HM.out E.out.tb).mono ?_
        rw [← HZ.out]
        rintro e w5 ⟨rfl, hb⟩
        replace E := Lib.hid (E.out.next hb)
        replace X9 := Lib.hid (X9.out.next hb)
        replace X13 := Lib.hid (X13.out.next hb)
        replace I13 := Lib.hid (I13.out.below hb)
        replace J9 := Lib.hid (J9.out.below hb)
        clear hb x0 x1
        have x0 := X9.out.c0
        have x1 := X9.out.c1
        have y0 := X13.out.c0
        have y1 := X13.out.c1
        go_wp2_with fail
        refine (same_eq J9.out I13.out HM.out (Nat.le_refl _) rfl).mono ?_
        rintro e w6 ⟨rfl, hb⟩
        replace E := Lib.hid (E.out.next hb)
        replace X9 := Lib.hid (X9.out.next hb)
        replace X13 := Lib.hid (X13.out.next hb)
        replace I13 := Lib.hid (I13.out.below hb)
        replace J9 := Lib.hid (J9.out.below hb)
        clear hb x0 x1 y0 y1
        go_wp2
        go_meet
        exact E.out
      · have HF := Lib.hid hf
        obtain ⟨e1, e2, e3, e4, e5⟩ := I9.out.2 (fun h1 => hf (by have h2 := I13.out.2.1; rw [h2]; exact h1))
        subst e1 e2 e3 e4 e5
        clear I9 I13 HZ
        go_wp2_with fail
        refine (fits_c t13 B13 m13 d13 _).mono ?_
        rw [decide_eq_false hf]
        rintro e w4 ⟨rfl, hb⟩
        replace E := Lib.hid (E.out.next hb)
        replace X9 := Lib.hid (X9.out.next hb)
        replace X13 := Lib.hid (X13.out.next hb)
        clear hb hf y0 y1
        have x0 := X9.out.c0
        have x1 := X9.out.c1
        go_wp2_with fail
        refine (no_c 4 _).mono ?_
        rintro e w5 ⟨rfl, hb⟩
        replace E := Lib.hid (E.out.next hb)
        replace X9 := Lib.hid (X9.out.next hb)
        replace X13 := Lib.hid (X13.out.next hb)
        clear hb x0 x1
        go_wp2
        go_meet
        exact E.out
  case rest =>
    have hE := hcut
    clear E X9 X13 Q9 Q13 hcut
    have E := Lib.hid hE
    clear hE
    rcases HD.out with ⟨hv, rfl, rfl, rfl, rfl⟩ | ⟨hv, hT, rfl, hM, hS⟩
    · have HV := Lib.hid hv
      clear hv HD
      have a0 := E.out.va.c0
      have a1 := E.out.va.c1
      go_wp2_with fail
      refine (refValid_c s A n c xs _ E.out.ra).mono ?_
      rw [HV.out]
      rintro e w4 ⟨rfl, hb⟩
      replace E := Lib.hid (E.out.next hb)
      clear hb a0 a1
      go_wp2_with fail
      refine (awake_c _).mono ?_
      rintro e u9 ⟨rfl, b9⟩
      have P9 := Lib.hid (E.out.below.trans (b9.mono E.out.below.size))
      clear b9
      go_wp2
      go_ret
      exact ⟨rfl, P9.out⟩
    · have HV := Lib.hid hv
      have HT := Lib.hid hT
      have HM := Lib.hid hM
      have HS := Lib.hid hS
      obtain ⟨hcan, h4, h0⟩ := valid_canon E.out.ra.sm hv
      have HSV := Lib.hid (show s = true → val xs ≠ 0 from fun e h1 => by have := h0 h1; rw [e] at this; cases this)
      have HW := Lib.hid (words_val hcan)
      have hl := E.out.ra.len
      have IA := Lib.hid (Is.of_valid E.out.ra hv HN.out.1 HN.out.2)
      have SZ := Lib.hid (show Sz (sgn s (val xs)) 4096 from sz_valid E.out.ra (by omega))
      clear hv hT hM hS HD hcan h4 h0 hl
      have HRT := Lib.hid (fun (W : World) (r : Rd W A n xs) => refText_c s A n c (val xs) W (by rw [HW.out]; exact r) HL.out.1 HSV.out)
      have HRS := Lib.hid (fun (W : World) (r : Rd W A n xs) => refSmall_g s A n c (val xs) W (by rw [HW.out]; exact r) HSV.out (by have := HL.out.1; omega))
      obtain ⟨za, hza⟩ : ∃ z, z = sgn s (val xs) := ⟨_, rfl⟩
      rw [← hza] at IA SZ HT HM HRT
      have HPT := Lib.hid (fun (W : World) => Parse_is za W SZ.out)
      rw [← HT.out] at HPT HRT
      unfold RefSmall at HRS
      rw [← HS.out, ← hza] at HRS
      have HM2 := Lib.hid (show (S = true → M = za) ∧ (S = false → M = 0) by
        rw [HM.out, HS.out]
        constructor <;> intro h1 <;> rw [h1] <;> simp)
      clear hza HT HM HS HSV HW
      have a0 := E.out.va.c0
      have a1 := E.out.va.c1
      go_wp2_with fail
      refine (refValid_c s A n c xs _ E.out.ra).mono ?_
      rw [HV.out]
      rintro e w4 ⟨rfl, hb⟩
      replace E := Lib.hid (E.out.next hb)
      replace IA := Lib.hid (IA.out.below hb)
      clear hb a0 a1
      have a0 := E.out.va.c0
      have a1 := E.out.va.c1
      go_wp2_with fail
      refine (HRS.out _ E.out.ra).mono ?_
      rintro e w5 ⟨m, rfl, hm, hb⟩
      replace E := Lib.hid (E.out.next hb)
      replace IA := Lib.hid (IA.out.below hb)
      have HMM := Lib.hid hm
      clear hb a0 a1 HRS hm
      have E0 := E
      cases S
      · obtain rfl : M = 0 := HM2.out.2 rfl
        clear HM2 HMM
        clear E0
        have a0 := E.out.va.c0
        have a1 := E.out.va.c1
        go_wp2_with fail
        refine (HRT.out _ E.out.ra).mono ?_
        rintro e w6 ⟨rfl, hb⟩
        replace E := Lib.hid (E.out.next hb)
        replace IA := Lib.hid (IA.out.below hb)
        clear hb a0 a1 HRT
        have a0 := E.out.va.c0
        have a1 := E.out.va.c1
        go_wp2_with fail
        refine (HPT.out _).mono ?_
        rintro e w7 ⟨t19, B19, m19, d19, rfl, i19, hb⟩
        replace E := Lib.hid (E.out.next hb)
        replace IA := Lib.hid (IA.out.below hb)
        have J19 := Lib.hid i19
        clear hb a0 a1 HPT i19
        have q0 := below_alloc w7 (.cells #[.bool t19, .slice B19 m19 d19] 24)
        have X19 := Lib.hid (Vx.new w7 t19 B19 m19 d19)
        replace E := Lib.hid (E.out.next q0)
        replace IA := Lib.hid (IA.out.below q0)
        replace J19 := Lib.hid (J19.out.below q0)
        clear q0
        go_upto_region 24 with (fail)
        generalize w7.alloc (.cells #[.bool t19, .slice B19 m19 d19] 24) = W7 at E IA J19 X19 ⊢
        generalize w7.heap.size = g19 at X19 ⊢
        have a0 := E.out.va.c0
        have a1 := E.out.va.c1
        have x0 := X19.out.c0
        have x1 := X19.out.c1
        go_wp2_with fail
        refine (same_eq J19.out IA.out SZ.out (Nat.le_refl _) rfl).mono ?_
        rintro e w8 ⟨rfl, hb⟩
        replace E := Lib.hid (E.out.next hb)
        replace IA := Lib.hid (IA.out.below hb)
        replace J19 := Lib.hid (J19.out.below hb)
        replace X19 := Lib.hid (X19.out.next hb)
        clear hb a0 a1 x0 x1
        go_wp2_with fail
        refine (awake_c _).mono ?_
        rintro e u9 ⟨rfl, b9⟩
        have P9 := Lib.hid (E.out.below.trans (b9.mono E.out.below.size))
        clear b9
        go_wp2
        go_ret
        exact ⟨rfl, P9.out⟩
      · obtain rfl : M = za := HM2.out.1 rfl
        obtain rfl : m = M := HMM.out rfl
        clear HM2 HMM
        clear E0
        have a0 := E.out.va.c0
        have a1 := E.out.va.c1
        go_wp2_with fail
        refine (HRT.out _ E.out.ra).mono ?_
        rintro e w6 ⟨rfl, hb⟩
        replace E := Lib.hid (E.out.next hb)
        replace IA := Lib.hid (IA.out.below hb)
        clear hb a0 a1 HRT
        have a0 := E.out.va.c0
        have a1 := E.out.va.c1
        go_wp2_with fail
        refine (HPT.out _).mono ?_
        rintro e w7 ⟨t19, B19, m19, d19, rfl, i19, hb⟩
        replace E := Lib.hid (E.out.next hb)
        replace IA := Lib.hid (IA.out.below hb)
        have J19 := Lib.hid i19
        clear hb a0 a1 HPT i19
        have q0 := below_alloc w7 (.cells #[.bool t19, .slice B19 m19 d19] 24)
        have X19 := Lib.hid (Vx.new w7 t19 B19 m19 d19)
        replace E := Lib.hid (E.out.next q0)
        replace IA := Lib.hid (IA.out.below q0)
        replace J19 := Lib.hid (J19.out.below q0)
        clear q0
        go_upto_region 24 with (fail)
        generalize w7.alloc (.cells #[.bool t19, .slice B19 m19 d19] 24) = W7 at E IA J19 X19 ⊢
        generalize w7.heap.size = g19 at X19 ⊢
        have a0 := E.out.va.c0
        have a1 := E.out.va.c1
        have x0 := X19.out.c0
        have x1 := X19.out.c1
        go_wp2_with fail
        refine (same_eq J19.out IA.out SZ.out (Nat.le_refl _) rfl).mono ?_
        rintro e w8 ⟨rfl, hb⟩
        replace E := Lib.hid (E.out.next hb)
        replace IA := Lib.hid (IA.out.below hb)
        replace J19 := Lib.hid (J19.out.below hb)
        replace X19 := Lib.hid (X19.out.next hb)
        clear hb a0 a1 x0 x1
        go_wp2_with fail
        refine (awake_c _).mono ?_
        rintro e u9 ⟨rfl, b9⟩
        have P9 := Lib.hid (E.out.below.trans (b9.mono E.out.below.size))
        clear b9
        go_wp2
        go_ret
        exact ⟨rfl, P9.out⟩
end Go.Proofs.YthjdnidapbhdlaaDoor

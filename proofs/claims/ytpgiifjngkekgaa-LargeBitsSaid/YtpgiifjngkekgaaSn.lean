import Derived.Test.YtpgiifjngkekgaaSm
import Derived.Test.YtpgiifjngkekgaaRj
import Derived.Deep.RegionWith
import Derived.StillTailTactics
import Derived.BigRegion
import Derived.IntWalk
namespace Go.Proofs.Ytpgiifjngkekgaa
open Go.RowKit Go.Deep

/-- a box that may be written -/
structure Fz (W : World) (b : Nat) : Prop where
  lt : b < W.heap.size
  f0 : W.frozen? ⟨b, 0, none⟩ = false
  f1 : W.frozen? ⟨b, 1, none⟩ = false
theorem Fz.next {W w1 : World} {b : Nat} (h : Fz W b) (hb : Below W.heap.size W w1) : Fz w1 b :=
  ⟨Nat.lt_of_lt_of_le h.lt hb.size, (hb.frozen (p := ⟨b, 0, none⟩) h.lt).trans h.f0, (hb.frozen (p := ⟨b, 1, none⟩) h.lt).trans h.f1⟩
theorem Res.fz {W : World} {b : Nat} (h : Res W b) : Fz W b := ⟨h.lt, h.f0, h.f1⟩
theorem Fz.two {W : World} {b : Nat} (h : Fz W b) (g : Nat) (u v : Value) : Fz ((W.setCell ⟨g, 0, none⟩ u).setCell ⟨g, 1, none⟩ v) b :=
  ⟨by rw [size_two]; exact h.lt, by rw [frozen_two]; exact h.f0, by rw [frozen_two]; exact h.f1⟩
theorem below_drew2 {w w1 : World} (h : Below w.drew.heap.size w.drew w1) : Below w.heap.size w w1 := ⟨h.os, h.tape, h.output, h.size, h.block⟩
theorem refOf_i1 (w : World) : Calls Try.prog 30 #[.int .i64 1] w fun e w' => ∃ A n c, e = .returned (.agg #[.bool false, .slice A n c]) ∧ Is w' 1 false A n c ∧ Below w.heap.size w w' :=
  (refOf_c 1 w (by omega) (by omega)).mono fun _ _ ⟨A, c, he, p1, p2, p3, p4⟩ => ⟨A, _, c, he, ⟨rfl, rfl, p1, p2, p3⟩, p4⟩
theorem one_len : (words (1 : Int).natAbs).length ≤ 8796093022208 := by
  rw [show (1 : Int).natAbs = 1 from rfl, words_one (by omega) (by omega)]; decide
/-- an empty box is given a number -/
theorem Res.put {W : World} {b : Nat} {z' : Int} {t' : Bool} {B : Option Addr} {m d : Nat} (h : Res W b) (hi : Is W z' t' B m d) : Box ((W.setCell ⟨b, 0, none⟩ (.bool t')).setCell ⟨b, 1, none⟩ (.slice B m d)) b z' t' B m d :=
  ⟨by rw [size_two]; exact h.lt, (own_two h.r0 h.r1).1, (own_two h.r0 h.r1).2, hi.store h.r0 h.r1 _ _⟩

set_option maxHeartbeats 400000 in
set_option maxRecDepth 100000 in
/-- the reference's Shift of 0, up -/
theorem refShift_zero {w : World} {t : Bool} {A : Option Addr} {n c : Nat} (h : Is w 0 t A n c) (k : Nat) :
    Calls Try.prog 38 #[.agg #[.bool t, .slice A n c], .int .i64 (k : Int)] w (NumI w (shl 0 k)) := by
  rw [shl_zero]
  have HI := Lib.hid h
  have hn0 : n = 0 := by rw [h.2.1, show (0 : Int).natAbs = 0 from rfl, words_zero]; rfl
  have HN0 := Lib.hid hn0
  have E := Lib.hid (Env1r.start w t A n c)
  clear h hn0
  go_enter Try.func38, Try.ntmps38
  go_wp2_with fail
  generalize (w.alloc (.cells #[.bool t, .slice A n c] 24)).alloc (.cells #[.bool false, .slice none 0 0] 24) = W at E ⊢
  have a0 := E.out.a0
  have a1 := E.out.a1
  refine (zero_c t A n c W).mono ?_
  rintro e w1 ⟨rfl, hb⟩
  rw [decide_eq_true HN0.out]
  replace E := Lib.hid (E.out.next hb)
  clear hb
  replace a0 := E.out.a0
  replace a1 := E.out.a1
  have r0 := E.out.res.r0
  have r1 := E.out.res.r1
  have f0 := E.out.res.f0
  have f1 := E.out.res.f1
  go_wp2
  refine bodyPost_ret (v := .agg #[.bool t, .slice A n c]) (by simp [results, Try.results38, go_sem, r0, r1]) rfl ?_
  exact ⟨t, A, n, c, rfl, (HI.out.below E.out.below).store r0 r1 _ _, below_store E.out.below (by omega) _ _⟩
theorem refShift_nn {w : World} {z : Int} {t : Bool} {A : Option Addr} {n c : Nat} (h : Is w z t A n c) (hn : n ≤ 8796093022208) (k : Nat) (hk : k ≤ 281474976710656) :
    Calls Try.prog 38 #[.agg #[.bool t, .slice A n c], .int .i64 (k : Int)] w (NumI w (shl z k)) := by
  by_cases hz : z = 0
  · subst hz; exact refShift_zero h k
  · exact refShift_up h hn hz k hk

set_option maxHeartbeats 2000000 in
set_option maxRecDepth 100000 in
/-- the reference's Shift downward, where words are left -/
theorem refShift_down1 {w : World} {z : Int} {t : Bool} {A : Option Addr} {n c : Nat} (h : Is w z t A n c) (hn : n ≤ 8796093022208) (m p q : Nat) (hm : 0 < m) (hq : q < 32) (hmpq : m = 32 * p + q) (hp : p < n) :
    Calls Try.prog 38 #[.agg #[.bool t, .slice A n c], .int .i64 (-(m : Int))] w (NumI w (z / (2 ^ m : Nat))) := by
  have HI := Lib.hid h
  have E := Lib.hid (Env1r.start w t A n c)
  have R0 := Lib.hid h.2.2.1
  clear h
  have e1 : ((m : Int) / 32) = (p : Int) := by omega
  have HM := Lib.hid hmpq
  have hm3 : -32 * (n : Int) ≤ -(m : Int) := by omega
  have hc := HI.out.2.2.2.1
  have hc2 := HI.out.2.2.2.2
  clear hmpq
  go_enter Try.func38, Try.ntmps38
  go_wp2_with fail
  have O := Lib.hid (Res.new ((w.alloc (.cells #[.bool t, .slice A n c] 24)).alloc (.cells #[.bool false, .slice none 0 0] 24)))
  rw [show ((w.alloc (.cells #[.bool t, .slice A n c] 24)).alloc (.cells #[.bool false, .slice none 0 0] 24)).heap.size = w.heap.size + 1 + 1 by simp] at O
  replace E := Lib.hid (E.out.next (below_alloc _ (.cells #[.bool false, .slice none 0 0] 24)))
  generalize ((w.alloc (.cells #[.bool t, .slice A n c] 24)).alloc (.cells #[.bool false, .slice none 0 0] 24)).alloc (.cells #[.bool false, .slice none 0 0] 24) = V at E O ⊢
  obtain ⟨X, hX⟩ : ∃ X, X = words z.natAbs := ⟨_, rfl⟩
  rw [← hX] at R0
  have HX := Lib.hid hX
  have hXl := R0.out.len
  refine (shifted_c _ (n - p) _ 0 (X.drop p) V ((R0.out.below E.out.below).drop (by omega)) (by omega) (by omega)).mono ?_
  rintro e y ⟨cs, rfl, l1, l2, l3, l4⟩
  rw [Nat.pow_zero, Nat.mul_one] at l2
  have hv : val cs < pw (n - p) := by
    rw [l2]
    have := val_lt (small_drop R0.out.sm p)
    rwa [List.length_drop, hXl] at this
  obtain ⟨g, hg⟩ : ∃ g, g = V.heap.size := ⟨_, rfl⟩
  have HG := Lib.hid hg
  rw [← hg] at l3 ⊢
  have Y := Lib.hid l4
  rw [← hg] at Y
  have HV := Lib.hid hv
  have H2 := Lib.hid l2
  have H3 := Lib.hid l3
  obtain ⟨k, hk⟩ : ∃ k, k = n - p := ⟨_, rfl⟩
  rw [← hk] at l1 HV ⊢
  have HK := Lib.hid hk
  have hk1 : 0 < k := by omega
  have hk2 : k ≤ 8796093022208 := by omega
  have HL := Lib.hid l1
  have hcs := l3.1
  clear hX hXl l1 l2 l3 l4 hv hg hk
  have D0 := Lib.hid (downs_len q cs)
  have DS := Lib.hid (downs_get q cs)
  have DV := Lib.hid (downs_val hq hcs)
  obtain ⟨D, hD⟩ : ∃ D, D = downs q cs := ⟨_, rfl⟩
  rw [← hD] at D0 DS DV
  have DD := Lib.hid hD
  clear hD
  have e2 : ((m : Int).tmod 32) = (q : Int) := by have := HM.out; rw [Int.tmod_eq_emod_of_nonneg (by omega)]; omega
  have e3 : ((m : Int) % 32) = (q : Int) := by have := HM.out; omega
  go_wp2_with fail
  clear e1 hm3
  go_loopw [7] (fun i wr => ∃ j : Nat, ∃ L, i = .int .i64 j ∧ j ≤ k ∧ L.length = k + 1 ∧ L.take j = D.take j ∧ L.drop j = cs.drop j ∧ Bk wr g L ∧ Below g V wr) (fun i _ => k - (intOf i).toNat)
  case atStart => exact ⟨0, cs, rfl, by omega, HL.out, rfl, rfl, H3.out, Y.out⟩
  case round =>
    obtain ⟨j, L, rfl, hj, hLl, hT, hR, hB, hW⟩ := hrel
    by_cases hjk : j < k
    · have hcx := hB.cell j (by omega)
      have hcy := hB.cell (j + 1) (by omega)
      have hfx := hB.frozen j
      have hx0 := getD_drop_eq hR
      have hy0 : L.getD (j + 1) 0 = cs.getD (j + 1) 0 := by
        have := congrArg (fun l : List Nat => l.getD 1 0) hR
        simpa [List.getD_eq_getElem?_getD, List.getElem?_drop] using this
      have hDj := DS.out j (by rw [HL.out]; omega)
      have hx1 := small_get hcs j
      have hy1 := small_get hcs (j + 1)
      rw [hx0] at hcx
      rw [hy0] at hcy
      obtain ⟨x, hx⟩ : ∃ x, x = cs.getD j 0 := ⟨_, rfl⟩
      obtain ⟨v, hv⟩ : ∃ v, v = cs.getD (j + 1) 0 := ⟨_, rfl⟩
      rw [← hx] at hcx hx1 hDj
      rw [← hv] at hcy hy1 hDj
      obtain ⟨T, hTT⟩ : ∃ T, T = x + 4294967296 * v := ⟨_, rfl⟩
      rw [← hTT] at hDj
      have hT1 : T < 18446744073709551616 := by omega
      have hT2 : (x : Int) + (v : Int) * 4294967296 = (T : Int) := by omega
      obtain ⟨S, hS⟩ : ∃ S, S = T / 2 ^ q := ⟨_, rfl⟩
      rw [← hS] at hDj
      have hS1 : S ≤ T := by rw [hS]; exact Nat.div_le_self _ _
      have hS2 : (T : Int) / 2 ^ q = (S : Int) := by rw [hS, Int.natCast_ediv, Int.natCast_pow]; rfl
      obtain ⟨R, hRR⟩ : ∃ R, R = S % 4294967296 := ⟨_, rfl⟩
      rw [← hRR] at hDj
      have hR1 : R < 4294967296 := by omega
      have hmask : bits .and .u64 (S : Int) 4294967295 = (R : Int) := by rw [u64_mask (by omega) (by omega), hRR]; omega
      have hS3 : S < 18446744073709551616 := by omega
      have K1 := Lib.hid (show (L.set j R).length = k + 1 by rw [List.length_set]; exact hLl)
      have K2 := Lib.hid (show (L.set j R).take (j + 1) = D.take (j + 1) by rw [← hDj]; exact fill_step hT (by omega) (by rw [hLl, D0.out, HL.out]))
      have K3 := Lib.hid (drop_set_eq (v := R) hR)
      have K4 := Lib.hid (hB.set_ j R hR1)
      have K5 := Lib.hid (hW.setCell (p := ⟨g, j, none⟩) (Nat.le_refl _) (.int .u32 (R : Int)))
      clear hT hR hB hW hx0 hy0 hDj hx hv hTT hS hRR hLl hcs hS1
      go_wp2_with fail
      go_region
      all_goals
        go_wp2
        go_roundw
        case measure => simp [intOf]; omega
        case rel => exact ⟨j + 1, _, by go_num, by omega, K1.out, K2.out, K3.out, by first | exact K4.out | exact K4.out.drewN 1, by first | exact K5.out | exact below_drewN K5.out 1⟩
    · obtain rfl : j = k := by omega
      have hL1 : val L = z.natAbs / 2 ^ m := by
        have h1 := val_take_drop L j (by omega)
        have h2 := val_take_drop D j (by rw [D0.out, HL.out]; omega)
        have h3 : val (L.drop j) = 0 := by rw [hR, val_drop hcs, Nat.div_eq_of_lt HV.out]
        have h4 : val (D.drop j) = 0 := by
          have hsD : small D := by rw [DD.out]; exact downs_small q cs
          rw [val_drop hsD, DV.out, Nat.div_eq_of_lt (Nat.lt_of_le_of_lt (Nat.div_le_self _ _) HV.out)]
        rw [h3, Nat.mul_zero, Nat.add_zero] at h1
        rw [h4, Nat.mul_zero, Nat.add_zero] at h2
        rw [h1, hT, ← h2, DV.out, H2.out, val_drop R0.out.sm, shift_div _ p q m HM.out, HX.out, val_words]
      have HO0 := Lib.hid (show sgn t (val L) = sgn t (z.natAbs / 2 ^ m) by rw [hL1])
      have hjn : j ≤ n := by have := HK.out; omega
      have hBr := hB.rd
      rw [hLl] at hBr
      have HB := Lib.hid hBr
      rw [HG.out] at hW
      replace E := Lib.hid (E.out.next hW)
      replace O := Lib.hid (O.out.next hW)
      have a0 := E.out.a0
      clear hL1 hT hR hB hW hLl hBr H3 Y HG D0 DS DV DD H2 HV R0 hcs e2 e3
      go_wp2_with fail
      refine (Make_i HB.out (Nat.le_refl _) (by omega) (by omega)).mono ?_
      rw [HO0.out]
      rintro e w5 ⟨t5, B5, m5, d5, rfl, hi, hb⟩
      replace E := Lib.hid (E.out.next hb)
      replace O := Lib.hid (O.out.next hb)
      have hg2 := E.out.size
      have c0 := O.out.r0
      have c1 := O.out.r1
      have g0 := O.out.f0
      have g1 := O.out.f1
      have E2 := Lib.hid (E.out.two (g := w.heap.size + 1 + 1) (Nat.le_refl _) (.bool t5) (.slice B5 m5 d5))
      have OB := Lib.hid (O.out.put hi)
      have OF2 := Lib.hid (O.out.fz.two (w.heap.size + 1 + 1) (.bool t5) (.slice B5 m5 d5))
      have OL := Lib.hid (show m5 ≤ n by
        rw [hi.2.1, sgn_abs, HI.out.2.1]; exact words_mono (Nat.div_le_self _ _))
      clear hi hb HB E O a0 hg2 HO0
      have HM4 := Lib.hid (show m ≤ 281474976710656 by have := HM.out; omega)
      have HN5 := Lib.hid (show n ≤ 17592186044416 by omega)
      obtain ⟨o, ho⟩ : ∃ o, o = sgn t (z.natAbs / 2 ^ m) := ⟨_, rfl⟩
      rw [← ho] at OB
      have HO := Lib.hid ho
      clear ho
      go_wp2_with fail
      generalize (w5.setCell ⟨w.heap.size + 1 + 1, 0, none⟩ (.bool t5)).setCell ⟨w.heap.size + 1 + 1, 1, none⟩ (.slice B5 m5 d5) = W6 at E2 OB OF2 ⊢
      have E := E2
      clear E2 c0 c1 g0 g1
      have OF := Lib.hid (OF2.out)
      clear OF2
      rcases t with _ | _
      · have HF := Lib.hid (show o = z / (2 ^ m : Nat) by
          rw [HO.out]
          have hz : 0 ≤ z := by have := HI.out.1; simpa using this
          show ((z.natAbs / 2 ^ m : Nat) : Int) = _
          rw [Int.natCast_ediv]; congr 1; omega)
        have a0 := E.out.a0
        have o0 := OB.out.c0
        have o1 := OB.out.c1
        go_wp2_with fail
        go_quiet (fail)
        replace E := Lib.hid (E.out.next (below_drewN (Below.refl _ _) nq))
        replace OB := Lib.hid (OB.out.next (below_drewN (Below.refl _ _) nq))
        clear a0 o0 o1
        generalize W6.drewN nq = W7 at E OB ⊢
        have o0 := OB.out.c0
        have o1 := OB.out.c1
        have r0 := E.out.res.r0
        have r1 := E.out.res.r1
        have f0 := E.out.res.f0
        have f1 := E.out.res.f1
        go_wp2
        refine bodyPost_ret (v := .agg #[.bool t5, .slice B5 m5 d5]) (by simp [results, Try.results38, go_sem, r0, r1]) rfl ?_
        exact ⟨t5, B5, m5, d5, rfl, by rw [← HF.out]; exact OB.out.is.store r0 r1 _ _, below_store E.out.below (by omega) _ _⟩
      · have hz : z < 0 := by have := HI.out.1; simpa using this.symm
        have HP := Lib.hid (two_pos m)
        obtain ⟨P, hP⟩ : ∃ P, P = 2 ^ m := ⟨_, rfl⟩
        obtain ⟨X5, hX5⟩ : ∃ X5, X5 = z.natAbs := ⟨_, rfl⟩
        have hzX : z = -(X5 : Int) := by omega
        have HS1 := Lib.hid (shl_up o m)
        rw [← hP] at HP HO HS1 ⊢
        rw [← hX5] at HO
        have HO2 := Lib.hid (show shl o m = -((X5 / P * P : Nat) : Int) by rw [HS1.out, HO.out, Int.natCast_mul]; show -((X5 / P : Nat) : Int) * (P : Int) = _; rw [Int.neg_mul])
        have HL2 := Lib.hid (show (words (shl o m).natAbs).length ≤ n by
          rw [HO2.out, HI.out.2.1, ← hX5]
          exact words_mono (by have := Nat.div_mul_le_self X5 P; omega))
        by_cases hd : X5 / P * P = X5
        · have HF := Lib.hid (show o = z / ((2 ^ m : Nat) : Int) by rw [← hP, hzX, fl0 X5 P HP.out hd, HO.out])
          have HC := Lib.hid (show ord (shl o m) z = 0 from ord_eq (by rw [HO2.out, hd, hzX]))
          clear hd hzX hX5 hP HS1 HO2 hz
          have a0 := E.out.a0
          have a1 := E.out.a1
          have o0 := OB.out.c0
          have o1 := OB.out.c1
          replace E := Lib.hid (E.out.next (Below.refl _ _).drew)
          replace OB := Lib.hid (OB.out.next (Below.refl _ _).drew)
          replace OF := Lib.hid (OF.out.next (Below.refl _ _).drew)
          go_wp2_with fail
          go_region_held3 (fun w' => w'.cell? ⟨w.heap.size, 0, none⟩ = some (.bool true) ∧ w'.cell? ⟨w.heap.size, 1, none⟩ = some (.slice A n c) ∧ w'.cell? ⟨w.heap.size + 1 + 1, 0, none⟩ = some (.bool t5) ∧ w'.cell? ⟨w.heap.size + 1 + 1, 1, none⟩ = some (.slice B5 m5 d5)) (first | exact ⟨a0, a1, o0, o1⟩)
            (first
              | (go_at_call 38
                 refine (refShift_nn OB.out.is (Nat.le_trans OL.out hn) m HM4.out).mono ?_
                 rintro e y6 ⟨t6, B6, m6, d6, rfl, hi6, hb⟩
                 replace E := Lib.hid (E.out.next hb)
                 replace OB := Lib.hid (OB.out.next hb)
                 replace OF := Lib.hid (OF.out.next hb)
                 have I6 := Lib.hid hi6
                 replace a0 := E.out.a0
                 replace a1 := E.out.a1
                 replace o0 := OB.out.c0
                 replace o1 := OB.out.c1
                 clear hi6 hb)
              | (go_at_call 18
                 refine (refCmp_c I6.out (HI.out.below E.out.below) (Nat.le_trans (by rw [I6.out.2.1]; exact HL2.out) HN5.out) HN5.out).mono ?_
                 rw [HC.out]
                 rintro e y7 ⟨rfl, hb⟩
                 replace E := Lib.hid (E.out.next hb)
                 replace OB := Lib.hid (OB.out.next hb)
                 replace OF := Lib.hid (OF.out.next hb)
                 replace a0 := E.out.a0
                 replace a1 := E.out.a1
                 replace o0 := OB.out.c0
                 replace o1 := OB.out.c1
                 clear hb)
              | fail "no arm")
          clear a0 a1
          have r0 := E.out.res.r0
          have r1 := E.out.res.r1
          have f0 := E.out.res.f0
          have f1 := E.out.res.f1
          go_wp2
          refine bodyPost_ret (v := .agg #[.bool t5, .slice B5 m5 d5]) (by simp [results, Try.results38, go_sem, r0, r1]) rfl ?_
          exact ⟨t5, B5, m5, d5, rfl, by rw [← HF.out]; exact OB.out.is.store r0 r1 _ _, below_store E.out.below (by omega) _ _⟩
        · have HF := Lib.hid (show o - 1 = z / ((2 ^ m : Nat) : Int) by
            rw [← hP, hzX, fl1 X5 P HP.out hd, HO.out]
            show -((X5 / P : Nat) : Int) - 1 = -((X5 / P + 1 : Nat) : Int)
            omega)
          have HC := Lib.hid (show ord (shl o m) z = 1 from ord_gt (by rw [HO2.out, hzX]; have := Nat.div_mul_le_self X5 P; omega))
          clear hd hzX hX5 hP HS1 HO2 hz
          have a0 := E.out.a0
          have a1 := E.out.a1
          have o0 := OB.out.c0
          have o1 := OB.out.c1
          replace E := Lib.hid (E.out.next (Below.refl _ _).drew)
          replace OB := Lib.hid (OB.out.next (Below.refl _ _).drew)
          replace OF := Lib.hid (OF.out.next (Below.refl _ _).drew)
          go_wp2_with fail
          go_region_held3 (fun w' => w'.cell? ⟨w.heap.size, 0, none⟩ = some (.bool true) ∧ w'.cell? ⟨w.heap.size, 1, none⟩ = some (.slice A n c) ∧ w'.cell? ⟨w.heap.size + 1 + 1, 0, none⟩ = some (.bool t5) ∧ w'.cell? ⟨w.heap.size + 1 + 1, 1, none⟩ = some (.slice B5 m5 d5)) (first | exact ⟨a0, a1, o0, o1⟩)
            (first
              | (go_at_call 38
                 refine (refShift_nn OB.out.is (Nat.le_trans OL.out hn) m HM4.out).mono ?_
                 rintro e y6 ⟨t6, B6, m6, d6, rfl, hi6, hb⟩
                 replace E := Lib.hid (E.out.next hb)
                 replace OB := Lib.hid (OB.out.next hb)
                 replace OF := Lib.hid (OF.out.next hb)
                 have I6 := Lib.hid hi6
                 replace a0 := E.out.a0
                 replace a1 := E.out.a1
                 replace o0 := OB.out.c0
                 replace o1 := OB.out.c1
                 clear hi6 hb)
              | (go_at_call 18
                 refine (refCmp_c I6.out (HI.out.below E.out.below) (Nat.le_trans (by rw [I6.out.2.1]; exact HL2.out) HN5.out) HN5.out).mono ?_
                 rw [HC.out]
                 rintro e y7 ⟨rfl, hb⟩
                 replace E := Lib.hid (E.out.next hb)
                 replace OB := Lib.hid (OB.out.next hb)
                 replace OF := Lib.hid (OF.out.next hb)
                 replace a0 := E.out.a0
                 replace a1 := E.out.a1
                 replace o0 := OB.out.c0
                 replace o1 := OB.out.c1
                 clear hb)
              | fail "no arm")
          clear a0 a1
          go_wp2_with fail
          go_region_with (first
            | (go_at_call 30
               go_must (refine (refOf_i1 _).mono ?_)
               rintro e y8 ⟨A8, n8, c8, rfl, p1, p4⟩
               replace E := Lib.hid (E.out.next (below_drew2 p4))
               replace OB := Lib.hid (OB.out.next (below_drew2 p4))
               replace OF := Lib.hid (OF.out.next (below_drew2 p4))
               have I8 := Lib.hid p1
               have o0 := OB.out.c0
               have o1 := OB.out.c1
               clear p1 p4)
            | (go_at_call 21
               go_must (refine (refSub_c OB.out.is I8.out (Nat.le_trans OL.out hn) (by rw [I8.out.2.1]; exact one_len)).mono ?_)
               rintro e y9 ⟨t9, B9, m9, d9, rfl, hi9, hb⟩
               rw [HF.out] at hi9
               replace E := Lib.hid (E.out.next hb)
               replace OB := Lib.hid (OB.out.next hb)
               replace OF := Lib.hid (OF.out.next hb)
               have f8 := OF.out.f0
               have f9 := OF.out.f1
               have o0 := OB.out.c0
               have o1 := OB.out.c1
               have OB2 := Lib.hid (Box.put OB.out hi9)
               have E2 := Lib.hid (E.out.two (g := w.heap.size + 1 + 1) (Nat.le_refl _) (.bool t9) (.slice B9 m9 d9))
               clear hi9 hb)
            | fail "no arm")
          all_goals
            generalize (y9.setCell ⟨w.heap.size + 1 + 1, 0, none⟩ (.bool t9)).setCell ⟨w.heap.size + 1 + 1, 1, none⟩ (.slice B9 m9 d9) = W10 at E2 OB2 ⊢
            clear o0 o1 E OB OF f8 f9
            have o0 := OB2.out.c0
            have o1 := OB2.out.c1
            have r0 := E2.out.res.r0
            have r1 := E2.out.res.r1
            have f0 := E2.out.res.f0
            have f1 := E2.out.res.f1
            go_wp2
            refine bodyPost_ret (v := .agg #[.bool t9, .slice B9 m9 d9]) (by simp [results, Try.results38, go_sem, r0, r1]) rfl ?_
            exact ⟨t9, B9, m9, d9, rfl, OB2.out.is.store r0 r1 _ _, below_store E2.out.below (by omega) _ _⟩
end Go.Proofs.Ytpgiifjngkekgaa

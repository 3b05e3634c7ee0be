import Derived.Test.YtbblckaplddggaaDi
import Derived.Test.YtbblckaplddggaaOq
import Derived.BigRegion
set_option maxRecDepth 100000
namespace Go.Proofs.Ytbblckaplddggaa
open Go.RowKit Go.Shelf
/-- Rests's variables -/
structure Rt (w W : World) (ga : Nat) (a : Int) (t : Bool) (A : Option Addr) (n c : Nat) (m : Int) (t' : Bool) (A' : Option Addr) (n' c' : Nat) : Prop where
  below : Below w.heap.size w W
  ge : w.heap.size ≤ ga
  ba : Nvr W ga a t A n c
  bm : Nvr W (ga + 1) m t' A' n' c'
  r6 : Nvr W (ga + 1 + 1) 0 false none 0 0
  r7 : Nvr W (ga + 1 + 1 + 1) 0 false none 0 0
theorem Rt.next {w W W' : World} {ga : Nat} {a : Int} {t : Bool} {A : Option Addr} {n c : Nat} {m : Int} {t' : Bool} {A' : Option Addr} {n' c' : Nat} (h : Rt w W ga a t A n c m t' A' n' c') (hb : Below W.heap.size W W') : Rt w W' ga a t A n c m t' A' n' c' :=
  ⟨h.below.trans (hb.mono h.below.size), h.ge, h.ba.next hb, h.bm.next hb, h.r6.next hb, h.r7.next hb⟩
theorem Rt.start {w : World} {a : Int} {t : Bool} {A : Option Addr} {n c : Nat} {m : Int} {t' : Bool} {A' : Option Addr} {n' c' : Nat} (h : Is w a t A n c) (h' : Is w m t' A' n' c') : Rt w ((((w.alloc (.cells #[.bool t, .slice A n c] 24)).alloc (.cells #[.bool t', .slice A' n' c'] 24)).alloc (.cells #[.bool false, .slice none 0 0] 24)).alloc (.cells #[.bool false, .slice none 0 0] 24)) w.heap.size a t A n c m t' A' n' c' := by
  have k0 := below_alloc w (.cells #[.bool t, .slice A n c] 24)
  have k1 := below_alloc (w.alloc (.cells #[.bool t, .slice A n c] 24)) (.cells #[.bool t', .slice A' n' c'] 24)
  have k2 := below_alloc ((w.alloc (.cells #[.bool t, .slice A n c] 24)).alloc (.cells #[.bool t', .slice A' n' c'] 24)) (.cells #[.bool false, .slice none 0 0] 24)
  have k3 := below_alloc (((w.alloc (.cells #[.bool t, .slice A n c] 24)).alloc (.cells #[.bool t', .slice A' n' c'] 24)).alloc (.cells #[.bool false, .slice none 0 0] 24)) (.cells #[.bool false, .slice none 0 0] 24)
  have v0 := Nvr.new h
  have v1 := Nvr.new (h'.below k0)
  have v2 := Nvr.new (is_zero8 ((w.alloc (.cells #[.bool t, .slice A n c] 24)).alloc (.cells #[.bool t', .slice A' n' c'] 24)))
  have v3 := Nvr.new (is_zero8 (((w.alloc (.cells #[.bool t, .slice A n c] 24)).alloc (.cells #[.bool t', .slice A' n' c'] 24)).alloc (.cells #[.bool false, .slice none 0 0] 24)))
  simp only [World.size_alloc] at v1 v2 v3
  have hB : Below w.heap.size w ((((w.alloc (.cells #[.bool t, .slice A n c] 24)).alloc (.cells #[.bool t', .slice A' n' c'] 24)).alloc (.cells #[.bool false, .slice none 0 0] 24)).alloc (.cells #[.bool false, .slice none 0 0] 24)) := by
    refine (((k0.trans (k1.mono ?_)).trans (k2.mono ?_)).trans (k3.mono ?_))
    all_goals simp; try omega
  exact ⟨hB, Nat.le_refl _, ((v0.next k1).next k2).next k3, (v1.next k2).next k3, v2.next k3, v3⟩
/-- rests of chi and psi -/
def RestsPost (a m : Int) (N : Nat) (w : World) (e : Ending) (w' : World) : Prop :=
  ∃ (t : Bool) (A : Option Addr) (n c : Nat) (t' : Bool) (A' : Option Addr) (n' c' : Nat), e = .returned (.tuple #[.agg #[.bool t, .slice A n c], .agg #[.bool t', .slice A' n' c'], .int .i64 0]) ∧ Below w.heap.size w w' ∧ Is w' (chi a N % m) t A n c ∧ Is w' (psi a N % m) t' A' n' c'
set_option maxHeartbeats 8000000 in
theorem Rests_ok {w : World} {a : Int} {t : Bool} {A : Option Addr} {n c : Nat} {m : Int} {t' : Bool} {A' : Option Addr} {n' c' : Nat} (h : Iv w a t A n c) (h' : Iv w m t' A' n' c') (ha : 2 ≤ a) (hm : 0 < m) (hbl : blen m.natAbs ≤ 4000) (N : Nat) (hN : N ≤ 1152921504606846976) :
    Calls Try.prog 22 #[.agg #[.bool t, .slice A n c], .int .i64 (N : Int), .agg #[.bool t', .slice A' n' c']] w (RestsPost a m N w) := by
  have E := Lib.hid (Rt.start h.is h'.is)
  have HS := Lib.hid (And.intro h.sz h'.sz)
  have HA := Lib.hid ha
  have HM := Lib.hid hm
  have HB := Lib.hid hbl
  obtain ⟨Ki, hK⟩ : ∃ K : Int, K = (N : Int) := ⟨_, rfl⟩
  have HAt := Lib.hid (mod_sq (a := a) hm N)
  rw [← hK]
  have k0 : ¬ Ki < 0 := by omega
  have k1 : ¬ 1152921504606846976 < Ki := by omega
  have k2 : decide (Ki < 0) = false := decide_eq_false k0
  have k3 : decide (1152921504606846976 < Ki) = false := decide_eq_false k1
  have HK := Lib.hid hK
  have HN := Lib.hid hN
  clear h h' ha hm hbl hK hN
  go_enter Try.func22, Try.ntmps22
  go_upto_region 1 with (fail)
  generalize (((w.alloc (.cells #[.bool t, .slice A n c] 24)).alloc (.cells #[.bool t', .slice A' n' c'] 24)).alloc (.cells #[.bool false, .slice none 0 0] 24)).alloc (.cells #[.bool false, .slice none 0 0] 24) = W0 at E ⊢
  obtain ⟨ga, hga⟩ : ∃ g, g = w.heap.size := ⟨_, rfl⟩
  rw [← hga] at E ⊢
  clear hga
  have a0 := E.out.ba.c0
  have a1 := E.out.ba.c1
  have b0 := E.out.bm.c0
  have b1 := E.out.bm.c1
  go_wp2_with fail
  have hb := below_alloc W0 (.cells #[.bool t', .slice A' n' c'] 24)
  have O1 := Lib.hid (oth1 (W := W0.alloc (.cells #[.bool t', .slice A' n' c'] 24)) (g := W0.heap.size) ((Is.iv_of E.out.bm.is HS.out.2).below hb) (by simp) (by go_simp) (by go_simp))
  replace E := Lib.hid (E.out.next hb)
  clear hb a0 a1 b0 b1
  generalize W0.alloc (.cells #[.bool t', .slice A' n' c'] 24) = W1 at E O1 ⊢
  refine (check_ok (Is.iv_of E.out.ba.is HS.out.1) _ O1.out 0 (.inl ⟨HA.out, rfl⟩)).mono ?_
  rintro e w1 ⟨rfl, hb⟩
  replace E := Lib.hid (E.out.next hb)
  clear hb O1
  have b0 := E.out.bm.c0
  have b1 := E.out.bm.c1
  go_wp2_with fail
  refine (isModulus_c (Is.iv_of E.out.bm.is HS.out.2) HM.out HB.out).mono ?_
  rintro e w2 ⟨rfl, hb⟩
  replace E := Lib.hid (E.out.next hb)
  clear hb b0 b1
  have a0 := E.out.ba.c0
  have a1 := E.out.ba.c1
  have b0 := E.out.bm.c0
  have b1 := E.out.bm.c1
  go_wp2_with fail
  refine (modulo_c (T3 m) a m t A n c t' A' n' c' _ (Is.iv_of E.out.ba.is HS.out.1) (Is.iv_of E.out.bm.is HS.out.2) HM.out (by unfold T3; omega)).mono ?_
  rintro e w3 ⟨b, v, mb, tm, Am, nm, cm, ta, Aa, na, ca, tt, At, nt, ct, k, rfl, hbg, hb, hms⟩
  have hk := hms.st.none (T3_lt HB.out)
  subst hk
  have HBG := Lib.hid hbg
  have HX := Lib.hid hb
  have HW := Lib.hid hms
  clear hb hms hbg a0 a1 b0 b1
  go_wp2_with fail
  rw [HK.out]
  refine (at_c HW.out N (by have := HN.out; omega) (fun j => psi a j % m) HAt.out).mono ?_
  rintro e w4 ⟨t4, A4, n4, c4, t5, A5, n5, c5, k4, rfl, s4, ms4, z4, v4, v5⟩
  have hk4 := ms4.st.none (T3_lt HB.out)
  subst hk4
  have HX4 := Lib.hid (Stp.fresh HX.out HBG.out s4)
  have L0 := below_alloc w4 (.cells #[.bool t4, .slice A4 n4 c4] 24)
  have L1 := below_alloc (w4.alloc (.cells #[.bool t4, .slice A4 n4 c4] 24)) (.cells #[.bool t5, .slice A5 n5 c5] 24)
  have HL := Lib.hid (L0.trans (L1.mono (by simp)))
  have X11 := Lib.hid ((Nvr.new (v4 rfl).is).next L1)
  have X12 := Lib.hid (Nvr.new ((v5 rfl).is.below L0))
  rw [World.size_alloc] at X12
  have HW4 := Lib.hid (ms4.below HL.out)
  have V4 := Lib.hid (v4 rfl)
  have V5 := Lib.hid (v5 rfl)
  replace V4 := Lib.hid (V4.out.below HL.out)
  replace V5 := Lib.hid (V5.out.below HL.out)
  have HNE := Lib.hid (show b < w4.heap.size from ms4.cc.lt)
  have HG11 := Lib.hid (show ga + 1 + 1 + 1 < w4.heap.size by have h1 := E.out.r7.lt; have h2 := HX4.out.size; omega)
  replace HX4 := Lib.hid (HX4.out.trans (HL.out.mono HX4.out.size))
  clear s4 ms4 z4 v4 v5 L0 L1 HL HX HW HAt
  go_upto_region 8 with (fail)
  generalize (w4.alloc (.cells #[.bool t4, .slice A4 n4 c4] 24)).alloc (.cells #[.bool t5, .slice A5 n5 c5] 24) = W4 at X11 X12 HW4 V4 V5 HX4 ⊢
  generalize w4.heap.size = g11 at X11 X12 HNE HG11 ⊢
  have a0 := X11.out.c0
  have a1 := X11.out.c1
  have b0 := X12.out.c0
  have b1 := X12.out.c1
  go_wp2_with fail
  refine (chiOf_m HW4.out (fun _ => V4.out) (fun _ => V5.out) (mod_chi_le HM.out N).1 (mod_chi_le HM.out N).2).mono ?_
  rintro e w6 ⟨t6, A6, n6, c6, k6, rfl, s6, ms6, z6, v6⟩
  have hk6 := ms6.st.none (T3_lt HB.out)
  subst hk6
  have I6 := Lib.hid (show Is w6 (chi a N % m) t6 A6 n6 c6 by rw [← mod_chi]; exact (v6 rfl).is)
  have C11 := Lib.hid (Vb.next' (w := { w6 with heap := #[] }) ⟨Nat.zero_le _, X11.out.lt, X11.out.c0, X11.out.c1, X11.out.f0, X11.out.f1⟩ s6 (by have := HNE.out; omega))
  have L0 := below_alloc w6 (.cells #[.bool t6, .slice A6 n6 c6] 24)
  have HX6 := Lib.hid ((Stp.fresh HX4.out HBG.out s6).trans (L0.mono (Stp.fresh HX4.out HBG.out s6).size))
  have I11 := Lib.hid ((V4.out.stp HW4.out.cc s6).is.below L0)
  have C12 := Lib.hid (C11.out.below L0)
  have C6 := Lib.hid (ms6.cc.below L0)
  have X13 := Lib.hid (Nvr.new I6.out)
  have HG13 := Lib.hid (show ga + 1 + 1 + 1 < w6.heap.size by have h1 := E.out.r7.lt; have h2 := (Stp.fresh HX4.out HBG.out s6).size; omega)
  replace E := Lib.hid (E.out.next HX6.out)
  clear s6 ms6 z6 v6 L0 HX6 HX4 HW4 V4 V5 X11 X12 C11 I6 a0 a1 b0 b1
  go_upto_region 9 with (fail)
  generalize w6.alloc (.cells #[.bool t6, .slice A6 n6 c6] 24) = W6 at E I11 C12 C6 X13 ⊢
  generalize w6.heap.size = g13 at X13 HG13 ⊢
  have c0 := C6.out.c0
  have p0 := X13.out.c0
  have p1 := X13.out.c1
  have q0 := C12.out.c0
  have q1 := C12.out.c1
  have r0 := E.out.r6.c0
  have r1 := E.out.r6.c1
  have r2 := E.out.r6.f0
  have r3 := E.out.r6.f1
  have s0 := E.out.r7.c0
  have s1 := E.out.r7.c1
  have s2 := E.out.r7.f0
  have s3 := E.out.r7.f1
  have hg1 := HG11.out
  have hg2 := HG13.out
  have f1 : ¬ ga + 1 + 1 = g13 := by omega
  have f2 : ¬ ga + 1 + 1 + 1 = g13 := by omega
  have f3 : ¬ ga + 1 + 1 = g11 := by omega
  have f4 : ¬ ga + 1 + 1 + 1 = g11 := by omega
  have f5 : ¬ ga + 1 + 1 = ga + 1 + 1 + 1 := by omega
  have f6 : ¬ ga + 1 + 1 + 1 = ga + 1 + 1 := by omega
  clear hg1 hg2
  go_wp2
  go_region
  go_wp2
  generalize hX : (((W6.setCell ⟨ga + 1 + 1, 0, none⟩ (.bool t6)).setCell ⟨ga + 1 + 1, 1, none⟩ (.slice A6 n6 c6)).setCell ⟨ga + 1 + 1 + 1, 0, none⟩ (.bool t4)).setCell ⟨ga + 1 + 1 + 1, 1, none⟩ (.slice A4 n4 c4) = X
  obtain ⟨y0, y1, y2, y3, v1, v2, v3⟩ := two_res E.out.r6 E.out.r7 (by omega) X13.out.is I11.out E.out.below (by have := E.out.ge; omega) (by have := E.out.ge; omega) hX
  replace y0 := cell_dr y0
  replace y1 := cell_dr y1
  replace y2 := cell_dr y2
  replace y3 := cell_dr y3
  refine bodyPost_ret (v := .tuple #[.agg #[.bool t6, .slice A6 n6 c6], .agg #[.bool t4, .slice A4 n4 c4], .int .i64 0]) (by simp [results, Try.results22, go_sem, y0, y1, y2, y3]) rfl ?_
  exact ⟨_, _, _, _, _, _, _, _, rfl, v3.trans ((Below.refl _ _).drew.mono v3.size), v1.below (Below.refl _ _).drew, v2.below (Below.refl _ _).drew⟩
end Go.Proofs.Ytbblckaplddggaa

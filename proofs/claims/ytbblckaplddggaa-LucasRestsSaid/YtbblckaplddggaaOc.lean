import Derived.Test.YtbblckaplddggaaNz
import Derived.Test.YtbblckaplddggaaNp
import Derived.Test.YtbblckaplddggaaRi
import Derived.Test.YtbblckaplddggaaRc
import Derived.Test.YtbblckaplddggaaRe
import Derived.Deep.DeepCutAuto
set_option maxRecDepth 100000
namespace Go.Proofs.Ytbblckaplddggaa
open Go.RowKit Go.Shelf
theorem refOfV (z : Int) (w : World) (h1 : -9223372036854775808 ≤ z) (h2 : z < 9223372036854775808) : Calls Try.prog 25 #[.int .i64 z] w (NumV w z) :=
  (refOf_c z w h1 h2).mono fun e w' h => by
    obtain ⟨A, c, he, r1, r2, r3, r4⟩ := h
    refine ⟨_, A, _, c, he, ⟨⟨rfl, rfl, r1, r2, r3⟩, ?_⟩, r4⟩
    show z.natAbs < pw 4096
    have : pw 2 ≤ pw 4096 := pw_le (by omega)
    rw [show pw 2 = 18446744073709551616 by unfold pw; decide] at this
    omega
theorem NumIs.iv {w : World} {z k : Int} {t : Bool} {B : Option Addr} {m d : Nat} (h : NumIs w z t B m d k) (hz : Sz z 4096) : k = 0 ∧ Iv w z t B m d := by
  obtain ⟨h0, h1, h2, h3, h4, h5⟩ := h.1 (words_len_le.2 hz)
  exact ⟨h0, ⟨h1, h2, h3, h4, h5⟩, hz⟩
theorem sz_small {z : Int} (h : z.natAbs < 18446744073709551616) : Sz z 4096 := by
  have : pw 2 ≤ pw 4096 := pw_le (by omega)
  rw [show pw 2 = 18446744073709551616 by unfold pw; decide] at this
  show z.natAbs < pw 4096
  omega
theorem Iv.same {W : World} {z z' : Int} {t t' : Bool} {A A' : Option Addr} {n c n' c' : Nat} (h : Iv W z t A n c) (h' : Iv W z' t' A' n' c') (e : z = z') :
    Calls Try.prog 29 #[.agg #[.bool t, .slice A n c], .agg #[.bool t', .slice A' n' c']] W (IsB true W) := same_eq h.is h'.is h.sz (Nat.le_refl _) e
set_option maxHeartbeats 4000000 in
theorem awake8_c (w : World) : Calls Try.prog 15 #[] w (IsB true w) := by
  have P := Lib.hid (Below.refl w.heap.size w)
  go_enter Try.func15, Try.ntmps15
  go_wp2_with fail
  refine (refOfV 2 _ (by omega) (by omega)).mono ?_
  rintro e w1 ⟨t1, A1, n1, c1, rfl, i1, b1⟩
  replace P := Lib.hid (P.out.trans b1)
  have I1 := Lib.hid i1
  clear i1 b1
  go_wp2_with fail
  refine (Psi_ok I1.out (by omega) 5 (by omega)).mono ?_
  rintro e w2 ⟨t2, B2, m2, d2, k2, rfl, hn, b2⟩
  rw [show psi 2 5 = 209 from rfl] at hn
  obtain ⟨rfl, i2⟩ := hn.iv (sz_small (by decide))
  have X1 := Lib.hid (Box.new i2.is)
  replace P := Lib.hid ((P.out.trans (b2.mono P.out.size)).alloc (Nat.le_trans P.out.size b2.size) (.cells #[.bool t2, .slice B2 m2 d2] 24))
  clear hn i2 b2 I1
  go_wp2_with fail
  generalize w2.alloc (.cells #[.bool t2, .slice B2 m2 d2] 24) = v2 at X1 P ⊢
  refine (refOfV 2 _ (by omega) (by omega)).mono ?_
  rintro e w3 ⟨t3, A3, n3, c3, rfl, i3, b3⟩
  replace P := Lib.hid (P.out.trans (b3.mono P.out.size))
  replace X1 := Lib.hid (X1.out.next b3)
  have I3 := Lib.hid i3
  clear i3 b3
  go_wp2_with fail
  refine (Chi_ok I3.out (by omega) 4 (by omega)).mono ?_
  rintro e w4 ⟨t4, B4, m4, d4, k4, rfl, hn, b4⟩
  rw [show chi 2 4 = 97 from rfl] at hn
  obtain ⟨rfl, i4⟩ := hn.iv (sz_small (by decide))
  have X2 := Lib.hid (Box.new i4.is)
  replace X1 := Lib.hid ((X1.out.next b4).alloc (.cells #[.bool t4, .slice B4 m4 d4] 24))
  replace P := Lib.hid ((P.out.trans (b4.mono P.out.size)).alloc (Nat.le_trans P.out.size b4.size) (.cells #[.bool t4, .slice B4 m4 d4] 24))
  clear hn i4 b4 I3
  go_wp2_with fail
  generalize w4.alloc (.cells #[.bool t4, .slice B4 m4 d4] 24) = v4 at X1 X2 P ⊢
  refine (refOfV 2 _ (by omega) (by omega)).mono ?_
  rintro e w5 ⟨t5, A5, n5, c5, rfl, i5, b5⟩
  replace P := Lib.hid (P.out.trans (b5.mono P.out.size))
  replace X1 := Lib.hid (X1.out.next b5)
  replace X2 := Lib.hid (X2.out.next b5)
  have I5 := Lib.hid i5
  clear i5 b5
  go_wp2_with fail
  refine (refOfV 8 _ (by omega) (by omega)).mono ?_
  rintro e w6 ⟨t6, A6, n6, c6, rfl, i6, b6⟩
  replace P := Lib.hid (P.out.trans (b6.mono P.out.size))
  replace X1 := Lib.hid (X1.out.next b6)
  replace X2 := Lib.hid (X2.out.next b6)
  replace I5 := Lib.hid (I5.out.below b6)
  have I6 := Lib.hid i6
  clear i6 b6
  go_wp2_with fail
  refine (Rank_c I5.out I6.out (by omega) (by omega) (by decide) 9 (by omega) (by omega)).mono ?_
  rintro e w7 ⟨r, k, rfl, b7, hr⟩
  have hr4 : r = 4 ∧ k = 0 := by
    rcases hr with ⟨rfl, n, rfl, h1, h2, h3, h4⟩ | ⟨rfl, rfl, h4⟩
    · refine ⟨?_, rfl⟩
      have hn : n = 4 := by
        rcases Nat.lt_or_ge n 4 with h5 | h5
        · rcases (show n = 1 ∨ n = 2 ∨ n = 3 by omega) with rfl | rfl | rfl
          · exact absurd h3 (by decide)
          · exact absurd h3 (by decide)
          · exact absurd h3 (by decide)
        · rcases Nat.lt_or_ge 4 n with h6 | h6
          · exact absurd (show psi 2 4 % 8 = 0 by decide) (h4 4 (by omega) h6)
          · omega
      rw [hn]; rfl
    · exact absurd (show psi 2 4 % 8 = 0 by decide) (h4 4 (by omega) (by omega))
  obtain ⟨rfl, rfl⟩ := hr4
  replace P := Lib.hid (P.out.trans (b7.mono P.out.size))
  replace X1 := Lib.hid (X1.out.next b7)
  replace X2 := Lib.hid (X2.out.next b7)
  clear b7 I5 I6 hr
  go_upto_region 4 with (fail)
  have a0 := X1.out.c0
  have a1 := X1.out.c1
  have d0 := X2.out.c0
  have d1 := X2.out.c1
  go_region_held3 (fun w' => w'.cell? ⟨w2.heap.size, 0, none⟩ = some (.bool t2) ∧ w'.cell? ⟨w2.heap.size, 1, none⟩ = some (.slice B2 m2 d2) ∧ w'.cell? ⟨w4.heap.size, 0, none⟩ = some (.bool t4) ∧ w'.cell? ⟨w4.heap.size, 1, none⟩ = some (.slice B4 m4 d4))
    (first | (with_reducible exact ⟨a0, a1, d0, d1⟩) | (with_reducible exact ⟨cell_dr a0, cell_dr a1, cell_dr d0, cell_dr d1⟩) | fail)
    (first
      | (go_at_call 25; (with_reducible refine (refOfV 209 _ (by omega) (by omega)).mono ?_); rintro e w8 ⟨t8, A8, n8, c8, rfl, i8, b8⟩; have b9 := (Below.refl w7.heap.size w7).drew.trans b8; have I8 := Lib.hid i8; replace X1 := Lib.hid (X1.out.next b9); replace X2 := Lib.hid (X2.out.next b9); replace P := Lib.hid (P.out.trans (b9.mono P.out.size)); clear a0 a1 d0 d1; have a0 := X1.out.c0; have a1 := X1.out.c1; have d0 := X2.out.c0; have d1 := X2.out.c1)
      | (go_at_call 29; (with_reducible refine (Iv.same (Is.iv_of X1.out.is (sz_small (by decide))) I8.out rfl).mono ?_); rintro e w9 ⟨rfl, b9⟩; replace X1 := Lib.hid (X1.out.next b9); replace X2 := Lib.hid (X2.out.next b9); replace P := Lib.hid (P.out.trans (b9.mono P.out.size)); clear a0 a1 d0 d1; have a0 := X1.out.c0; have a1 := X1.out.c1; have d0 := X2.out.c0; have d1 := X2.out.c1)
      | (go_at_call 25; (with_reducible refine (refOfV 97 _ (by omega) (by omega)).mono ?_); rintro e w10 ⟨tt, At, nt, ct, rfl, it, b9⟩; have I10 := Lib.hid it; replace X1 := Lib.hid (X1.out.next b9); replace X2 := Lib.hid (X2.out.next b9); replace P := Lib.hid (P.out.trans (b9.mono P.out.size)); clear a0 a1 d0 d1; have a0 := X1.out.c0; have a1 := X1.out.c1; have d0 := X2.out.c0; have d1 := X2.out.c1)
      | (go_at_call 29; (with_reducible refine (Iv.same (Is.iv_of X2.out.is (sz_small (by decide))) I10.out rfl).mono ?_); rintro e w11 ⟨rfl, b9⟩; replace X1 := Lib.hid (X1.out.next b9); replace X2 := Lib.hid (X2.out.next b9); replace P := Lib.hid (P.out.trans (b9.mono P.out.size)); clear a0 a1 d0 d1; have a0 := X1.out.c0; have a1 := X1.out.c1; have d0 := X2.out.c0; have d1 := X2.out.c1)
      | fail "no arm")
  go_wp2
  go_ret
  exact ⟨rfl, P.out⟩
/-- what both leaves: an element of each sequence -/
def BothPost (x y : Int) (w : World) (e : Ending) (w' : World) : Prop :=
  ∃ t A n c t' A' n' c', e = .returned (.tuple #[.agg #[.bool t, .slice A n c], .agg #[.bool t', .slice A' n' c'], .bool true]) ∧ Iv w' x t A n c ∧ Iv w' y t' A' n' c' ∧ Below w.heap.size w w'
/-- its boxes -/
structure Bo (w W : World) (z : Int) (t : Bool) (A : Option Addr) (n c : Nat) : Prop where
  below : Below w.heap.size w W
  bx : Box W w.heap.size z t A n c
  r4 : Vb w W (w.heap.size + 1) false none 0 0
  r5 : Vb w W (w.heap.size + 1 + 1) false none 0 0
theorem Bo.next {w W W' : World} {z : Int} {t : Bool} {A : Option Addr} {n c : Nat} (h : Bo w W z t A n c) (hb : Below W.heap.size W W') : Bo w W' z t A n c :=
  ⟨h.below.trans (hb.mono h.below.size), h.bx.next hb, h.r4.below hb, h.r5.below hb⟩
theorem Bo.start {w : World} {z : Int} {t : Bool} {A : Option Addr} {n c : Nat} (h : Is w z t A n c) : Bo w (((w.alloc (.cells #[.bool t, .slice A n c] 24)).alloc (.cells #[.bool false, .slice none 0 0] 24)).alloc (.cells #[.bool false, .slice none 0 0] 24)) z t A n c := by
  have hb : Below w.heap.size w (((w.alloc (.cells #[.bool t, .slice A n c] 24)).alloc (.cells #[.bool false, .slice none 0 0] 24)).alloc (.cells #[.bool false, .slice none 0 0] 24)) := (((Below.refl _ _).alloc (Nat.le_refl _) _).alloc (by simp) _).alloc (by simp; omega) _
  refine ⟨hb, ((Box.new h).alloc _).alloc _, (Vb.new1 w w _ false none 0 0 (Nat.le_refl _)).below (below_alloc _ _), ?_⟩
  have := Vb.new1 w (w.alloc (.cells #[.bool t, .slice A n c] 24)) (.cells #[.bool false, .slice none 0 0] 24) false none 0 0 (by simp)
  rwa [World.size_alloc] at this
set_option maxHeartbeats 4000000 in
theorem both_c {w : World} {a : Int} {t : Bool} {A : Option Addr} {n c : Nat} (h : Iv w a t A n c) (ha : 2 ≤ a) (N : Nat) (hN : N < 9223372036854775808) (hx : Sz (chi a N) 4096) (hy : Sz (psi a N) 4096) :
    Calls Try.prog 35 #[.agg #[.bool t, .slice A n c], .int .i64 (N : Int)] w (BothPost (chi a N) (psi a N) w) := by
  have E := Lib.hid (Bo.start h.is)
  have HS := Lib.hid h.sz
  have HA := Lib.hid ha
  have HX := Lib.hid hx
  have HY := Lib.hid hy
  have HC := Lib.hid (fun (W : World) (hi : Iv W a t A n c) => Chi_ok hi ha N hN)
  have HP := Lib.hid (fun (W : World) (hi : Iv W a t A n c) => Psi_ok hi ha N hN)
  obtain ⟨K, hK⟩ : ∃ K : Int, K = (N : Int) := ⟨_, rfl⟩
  rw [← hK] at HC HP ⊢
  clear h ha hx hy hN hK
  go_enter Try.func35, Try.ntmps35
  go_upto_region 1 with (fail)
  generalize ((w.alloc (.cells #[.bool t, .slice A n c] 24)).alloc (.cells #[.bool false, .slice none 0 0] 24)).alloc (.cells #[.bool false, .slice none 0 0] 24) = W0 at E ⊢
  have a0 := E.out.bx.c0
  have a1 := E.out.bx.c1
  go_wp2_with fail
  refine (HC.out _ (Is.iv_of E.out.bx.is HS.out)).mono ?_
  rintro e w2 ⟨t2, B2, m2, d2, k2, rfl, hn, b2⟩
  have hz0 := E.out.r5.lt
  obtain ⟨rfl, i2⟩ := hn.iv HX.out
  have X1 := Lib.hid (Vb.new w w2 t2 B2 m2 d2 (Nat.le_trans E.out.below.size b2.size))
  replace E := Lib.hid ((E.out.next b2).next (below_alloc _ (.cells #[.bool t2, .slice B2 m2 d2] 24)))
  have I2 := Lib.hid (i2.below (below_alloc _ (.cells #[.bool t2, .slice B2 m2 d2] 24)))
  have hz2 : w.heap.size + 3 ≤ w2.heap.size := by have := hz0; have := b2.size; omega
  clear hn i2 b2 a0 a1
  have a0 := E.out.bx.c0
  have a1 := E.out.bx.c1
  go_wp2_with fail
  generalize w2.alloc (.cells #[.bool t2, .slice B2 m2 d2] 24) = v2 at X1 E I2 a0 a1 ⊢
  refine (HP.out _ (Is.iv_of E.out.bx.is HS.out)).mono ?_
  rintro e w4 ⟨t4, B4, m4, d4, k4, rfl, hn, b4⟩
  have hv4 := X1.out.lt
  obtain ⟨rfl, i4⟩ := hn.iv HY.out
  have X2 := Lib.hid (Vb.new w w4 t4 B4 m4 d4 (Nat.le_trans E.out.below.size b4.size))
  replace X1 := Lib.hid ((X1.out.below b4).below (below_alloc _ (.cells #[.bool t4, .slice B4 m4 d4] 24)))
  replace I2 := Lib.hid ((I2.out.below b4).below (below_alloc _ (.cells #[.bool t4, .slice B4 m4 d4] 24)))
  replace E := Lib.hid ((E.out.next b4).next (below_alloc _ (.cells #[.bool t4, .slice B4 m4 d4] 24)))
  have I4 := Lib.hid (i4.below (below_alloc _ (.cells #[.bool t4, .slice B4 m4 d4] 24)))
  have hz4 : w2.heap.size < w4.heap.size := by have := hv4; have := b4.size; omega
  clear hn i4 b4 a0 a1
  go_upto_region 3 with (fail)
  generalize w4.alloc (.cells #[.bool t4, .slice B4 m4 d4] 24) = v4 at X1 X2 E I2 I4 ⊢
  have a0 := X1.out.c0
  have a1 := X1.out.c1
  have d0 := X2.out.c0
  have d1 := X2.out.c1
  have r0 := E.out.r4.c0
  have r1 := E.out.r4.c1
  have q0 := E.out.r4.f0
  have q1 := E.out.r4.f1
  have s0 := E.out.r5.c0
  have s1 := E.out.r5.c1
  have p0 := E.out.r5.f0
  have p1 := E.out.r5.f1
  have n0 : ¬ w.heap.size + 1 = w.heap.size + 1 + 1 := by omega
  have n1 : ¬ w.heap.size + 1 = w.heap.size + 2 := by omega
  have n2 : ¬ w.heap.size + 1 = w2.heap.size := by omega
  have n3 : ¬ w.heap.size + 1 = w4.heap.size := by omega
  have n4 : ¬ w.heap.size + 1 + 1 = w.heap.size + 1 := by omega
  have n5 : ¬ w.heap.size + 1 + 1 = w2.heap.size := by omega
  have n6 : ¬ w.heap.size + 1 + 1 = w4.heap.size := by omega
  have n7 : ¬ w.heap.size + 2 = w.heap.size + 1 := by omega
  have n8 : ¬ w.heap.size + 2 = w2.heap.size := by omega
  have n9 : ¬ w.heap.size + 2 = w4.heap.size := by omega
  have n10 : ¬ w2.heap.size = w.heap.size + 1 := by omega
  have n11 : ¬ w2.heap.size = w.heap.size + 1 + 1 := by omega
  have n12 : ¬ w2.heap.size = w.heap.size + 2 := by omega
  have n13 : ¬ w2.heap.size = w4.heap.size := by omega
  have n14 : ¬ w4.heap.size = w.heap.size + 1 := by omega
  have n15 : ¬ w4.heap.size = w.heap.size + 1 + 1 := by omega
  have n16 : ¬ w4.heap.size = w.heap.size + 2 := by omega
  have n17 : ¬ w4.heap.size = w2.heap.size := by omega
  go_region
  all_goals (try go_wp2)
  have R5 := E.out.r5.far (g' := w.heap.size + 1) (by omega) (.bool t2) (.slice B2 m2 d2)
  have R4' := (E.out.r4.put t2 B2 m2 d2).far (g' := w.heap.size + 1 + 1) (by omega) (.bool t4) (.slice B4 m4 d4)
  have R5' := R5.put t4 B4 m4 d4
  have y0 := cell_dr R4'.c0
  have y1 := cell_dr R4'.c1
  have y2 := cell_dr R5'.c0
  have y3 := cell_dr R5'.c1
  have J2 := ((I2.out.two r0 r1 (.bool t2) (.slice B2 m2 d2)).two R5.c0 R5.c1 (.bool t4) (.slice B4 m4 d4)).below (Below.refl _ _).drew
  have J4 := ((I4.out.two r0 r1 (.bool t2) (.slice B2 m2 d2)).two R5.c0 R5.c1 (.bool t4) (.slice B4 m4 d4)).below (Below.refl _ _).drew
  have HB := (below_store (below_store E.out.below (g := w.heap.size + 1) (by omega) (.bool t2) (.slice B2 m2 d2)) (g := w.heap.size + 1 + 1) (by omega) (.bool t4) (.slice B4 m4 d4)).drew
  generalize ((((v4.setCell ⟨w.heap.size + 1, 0, none⟩ (.bool t2)).setCell ⟨w.heap.size + 1, 1, none⟩ (.slice B2 m2 d2)).setCell ⟨w.heap.size + 1 + 1, 0, none⟩ (.bool t4)).setCell ⟨w.heap.size + 1 + 1, 1, none⟩ (.slice B4 m4 d4)).drew = X at y0 y1 y2 y3 J2 J4 HB ⊢
  refine bodyPost_ret (v := .tuple #[.agg #[.bool t2, .slice B2 m2 d2], .agg #[.bool t4, .slice B4 m4 d4], .bool true]) (by simp [results, Try.results35, go_sem, y0, y1, y2, y3]) rfl ?_
  exact ⟨t2, B2, m2, d2, t4, B4, m4, d4, rfl, J2, J4, HB⟩
set_option maxHeartbeats 400000 in
theorem refAbs_c {w : World} {z : Int} {t : Bool} {A : Option Addr} {n c : Nat} (h : Is w z t A n c) (hn : n ≤ 17592186044416) :
    Calls Try.prog 51 #[.agg #[.bool t, .slice A n c]] w (NumI w (z.natAbs : Int)) := by
  have HI := Lib.hid h
  have HN := Lib.hid (show sgn false (val (words z.natAbs)) = (z.natAbs : Int) by rw [val_words]; rfl)
  clear h
  have hb : Below w.heap.size w ((w.alloc (.cells #[.bool t, .slice A n c] 24)).alloc (.cells #[.bool false, .slice none 0 0] 24)) := ((Below.refl _ _).alloc (Nat.le_refl _) _).alloc (by simp) _
  have R := Lib.hid (Res.new (w.alloc (.cells #[.bool t, .slice A n c] 24)))
  have HB := Lib.hid hb
  clear hb
  go_enter Try.func51, Try.ntmps51
  go_wp2_with fail
  refine (Make_i (HI.out.below HB.out).2.2.1 (HI.out).2.2.2.1 (HI.out).2.2.2.2 (by omega)).mono ?_
  rw [HN.out]
  rintro e w1 ⟨t', B, m, d, rfl, hi, hb1⟩
  have H := Lib.hid (HB.out.trans (hb1.mono HB.out.size))
  have R1 := Lib.hid (R.out.next hb1)
  have HH := Lib.hid hi
  clear hi hb1
  rw [World.size_alloc] at R1
  have r0 := R1.out.r0
  have r1 := R1.out.r1
  have f0 := R1.out.f0
  have f1 := R1.out.f1
  go_wp2
  refine bodyPost_ret (v := .agg #[.bool t', .slice B m d]) (by simp [results, Try.results51, go_sem, r0, r1]) rfl ?_
  exact ⟨t', B, m, d, rfl, HH.out.store r0 r1 _ _, below_store H.out (by omega) _ _⟩
/-- what small leaves: a number from 2 on -/
def SmallPost (w : World) (e : Ending) (w' : World) : Prop :=
  ∃ z t B m d, e = .returned (.agg #[.bool t, .slice B m d]) ∧ Iv w' z t B m d ∧ 2 ≤ z ∧ Sz z 7 ∧ Below w.heap.size w w'
theorem sz7_two : Sz 2 7 := by
  have : pw 2 ≤ pw 7 := pw_le (by omega)
  rw [show pw 2 = 18446744073709551616 by unfold pw; decide] at this
  show (2 : Int).natAbs < pw 7
  omega
theorem sz7_add {a : Int} (h : Sz a 6) : Sz ((a.natAbs : Int) + 2) 7 := by
  have h1 : a.natAbs < pw 6 := h
  have h3 := pw_succ 6
  have h4 := pw_pos 6
  show ((a.natAbs : Int) + 2).natAbs < pw (6 + 1)
  omega
set_option maxHeartbeats 4000000 in
theorem small_c (s : Bool) (A : Option Addr) (n c : Nat) (xs : List Nat) (w : World) (h : Rd w A n xs) (hn : n ≤ c) (hc : c ≤ 9223372036854775807) :
    Calls Try.prog 34 #[.agg #[.bool s, .slice A n c]] w (SmallPost w) := by
  have hb : Below w.heap.size w ((w.alloc (.cells #[.bool s, .slice A n c] 24)).alloc (.cells #[.bool false, .slice none 0 0] 24)) := ((Below.refl _ _).alloc (Nat.le_refl _) _).alloc (by simp) _
  have R := Res.new (w.alloc (.cells #[.bool s, .slice A n c] 24))
  rw [World.size_alloc] at R
  replace R := Lib.hid R
  have HB := Lib.hid hb
  have HR := Lib.hid (h.below hb)
  have HK := Lib.hid (And.intro hn hc)
  have HL : Hid (w.heap.size < ((w.alloc (.cells #[.bool s, .slice A n c] 24)).alloc (.cells #[.bool false, .slice none 0 0] 24)).heap.size ∧ ((w.alloc (.cells #[.bool s, .slice A n c] 24)).alloc (.cells #[.bool false, .slice none 0 0] 24)).cell? ⟨w.heap.size, 0, none⟩ = some (.bool s) ∧ ((w.alloc (.cells #[.bool s, .slice A n c] 24)).alloc (.cells #[.bool false, .slice none 0 0] 24)).cell? ⟨w.heap.size, 1, none⟩ = some (.slice A n c)) := ⟨by simp; omega, by go_simp, by go_simp⟩
  clear h hb hn hc
  go_enter Try.func34, Try.ntmps34
  go_upto_region 1 with (fail)
  generalize (w.alloc (.cells #[.bool s, .slice A n c] 24)).alloc (.cells #[.bool false, .slice none 0 0] 24) = W0 at R HB HR HL ⊢
  have a0 := HL.out.2.1
  have a1 := HL.out.2.2
  go_wp2_with fail
  refine (refValid_c s A n c xs _ HR.out).mono ?_
  rintro e w1 ⟨rfl, hb⟩
  have hl := HL.out.1
  replace HR := Lib.hid (HR.out.below hb)
  replace R := Lib.hid (R.out.next hb)
  replace HB := Lib.hid (HB.out.trans (hb.mono HB.out.size))
  clear a0 a1
  have a0 : w1.cell? ⟨w.heap.size, 0, none⟩ = some (.bool s) := (hb.cell (p := ⟨_, 0, none⟩) hl).trans HL.out.2.1
  have a1 : w1.cell? ⟨w.heap.size, 1, none⟩ = some (.slice A n c) := (hb.cell (p := ⟨_, 1, none⟩) hl).trans HL.out.2.2
  replace HL := Lib.hid (Nat.lt_of_lt_of_le hl hb.size)
  clear hb hl
  by_cases hv : validB s xs = true ∧ n ≤ 6
  · obtain ⟨hv, h6⟩ := hv
    have HZ := Lib.hid (sz_valid (s := s) HR.out h6)
    have HI := Lib.hid (Is.of_valid HR.out hv HK.out.1 HK.out.2)
    rw [hv]
    have q : ¬ (6 : Int) < (n : Int) := by omega
    generalize sgn s (val xs) = z at HZ HI
    clear hv
    go_wp2_with fail
    refine (refAbs_c HI.out (by omega)).mono ?_
    rintro e w2 ⟨t2, B2, m2, d2, rfl, i2, hb⟩
    replace R := Lib.hid (R.out.next hb)
    replace HB := Lib.hid (HB.out.trans (hb.mono HB.out.size))
    have I2 := Lib.hid i2
    clear i2 hb a0 a1
    go_wp2_with fail
    refine (refOfV 2 _ (by omega) (by omega)).mono ?_
    rintro e w3 ⟨t3, B3, m3, d3, rfl, i3, hb⟩
    replace R := Lib.hid (R.out.next hb)
    replace HB := Lib.hid (HB.out.trans (hb.mono HB.out.size))
    replace I2 := Lib.hid (I2.out.below hb)
    have I3 := Lib.hid i3
    clear i3 hb
    go_wp2_with fail
    refine (refAdd_c I2.out I3.out.is (by rw [I2.out.2.1]; exact Nat.le_trans (words_len_le.2 (show ((z.natAbs : Int)).natAbs < pw 6 from by rw [Int.natAbs_natCast]; exact HZ.out)) (by omega)) (by rw [I3.out.is.2.1]; exact Nat.le_trans (words_len_le.2 sz7_two) (by omega))).mono ?_
    rintro e w4 ⟨t4, B4, m4, d4, rfl, i4, hb⟩
    replace R := Lib.hid (R.out.next hb)
    replace HB := Lib.hid (HB.out.trans (hb.mono HB.out.size))
    have I4 := Lib.hid i4
    clear i4 hb
    have r0 := R.out.r0
    have r1 := R.out.r1
    have f0 := R.out.f0
    have f1 := R.out.f1
    go_wp2
    refine bodyPost_ret (v := .agg #[.bool t4, .slice B4 m4 d4]) (by simp [results, Try.results34, go_sem, r0, r1]) rfl ?_
    exact ⟨_, t4, B4, m4, d4, rfl, ⟨I4.out.store r0 r1 _ _, (sz7_add HZ.out).le (by omega)⟩, by omega, sz7_add HZ.out, below_store HB.out (by omega) _ _⟩
  · have hq : validB s xs = false ∨ (validB s xs = true ∧ 6 < n) := by
      cases hb : validB s xs
      · exact .inl rfl
      · exact .inr ⟨rfl, by have : ¬ n ≤ 6 := fun h6 => hv ⟨hb, h6⟩
                            omega⟩
    clear hv
    rcases hq with hv | ⟨hv, h6⟩
    all_goals
      rw [hv]
      (try have q : (6 : Int) < (n : Int) := by omega)
      clear hv
      go_wp2_with fail
      refine (refOfV 2 _ (by omega) (by omega)).mono ?_
      rintro e w3 ⟨t3, B3, m3, d3, rfl, i3, hb⟩
      replace R := Lib.hid (R.out.next hb)
      replace HB := Lib.hid (HB.out.trans (hb.mono HB.out.size))
      have I3 := Lib.hid i3
      clear i3 hb a0 a1
      have r0 := R.out.r0
      have r1 := R.out.r1
      have f0 := R.out.f0
      have f1 := R.out.f1
      go_wp2
      refine bodyPost_ret (v := .agg #[.bool t3, .slice B3 m3 d3]) (by simp [results, Try.results34, go_sem, r0, r1]) rfl ?_
      exact ⟨_, t3, B3, m3, d3, rfl, ⟨I3.out.is.store r0 r1 _ _, I3.out.sz⟩, by omega, sz7_two, below_store HB.out (by omega) _ _⟩
theorem sz_of_le {x y : Int} {k : Nat} (h0 : 0 ≤ x) (h : x ≤ y) (hy : Sz y k) : Sz x k := by
  have h1 : y.natAbs < pw k := hy
  show x.natAbs < pw k
  omega
theorem sz_chi {a : Int} (ha : 2 ≤ a) (hs : Sz a 7) : ∀ n : Nat, Sz (chi a n) (8 * n + 1) ∧ Sz (chi a (n + 1)) (8 * (n + 1) + 1) := by
  have h8 : Sz (2 * a) 8 := by
    have h1 : a.natAbs < pw 7 := hs
    have h3 := pw_succ 7
    show (2 * a).natAbs < pw (7 + 1)
    omega
  intro n
  induction n with
  | zero =>
    refine ⟨?_, (hs.le (by omega) : Sz a _)⟩
    show (1 : Int).natAbs < pw 1
    rw [pw_one]
    decide
  | succ n ih =>
    refine ⟨ih.2, ?_⟩
    have h2 := chi_two a n
    have h3 := chi_ge ha n
    have h4 := chi_ge ha (n + 2)
    show Sz (chi a (n + 2)) (8 * (n + 2) + 1)
    exact (sz_of_le (y := 2 * a * chi a (n + 1)) (by omega) (by omega) (h8.mul ih.2)).le (by omega)
theorem sz_chi_at {a : Int} (ha : 2 ≤ a) (hs : Sz a 7) {n : Nat} (hn : n ≤ 120) : Sz (chi a n) 961 := (sz_chi ha hs n).1.le (by omega)
theorem sz_psi_at {a : Int} (ha : 2 ≤ a) (hs : Sz a 7) {n : Nat} (hn : n ≤ 120) : Sz (psi a n) 961 := by
  have := psi_lt_chi ha n
  exact sz_of_le (psi_nn ha n) (by omega) (sz_chi_at ha hs hn)
section
variable {w W W' : World} {g p : Nat} {z z' : Int} {t : Bool} {A : Option Addr} {n c : Nat} {t' : Bool} {A' : Option Addr} {n' c' : Nat}
theorem Box.far (h : Box W g z t A n c) (hne : p ≠ g) {x : Bool} {a : Option Addr} {i j : Nat} (h0 : W.cell? ⟨p, 0, none⟩ = some (.bool x)) (h1 : W.cell? ⟨p, 1, none⟩ = some (.slice a i j)) (u v : Value) : Box ((W.setCell ⟨p, 0, none⟩ u).setCell ⟨p, 1, none⟩ v) g z t A n c :=
  ⟨by rw [size_pair]; exact h.lt, cell_two hne h.c0, cell_two hne h.c1, h.is.store h0 h1 u v⟩
theorem Vb.box {x : Bool} {a : Option Addr} {i j : Nat} (h : Vb w W p x a i j) (hi : Is W z t A n c) : Box ((W.setCell ⟨p, 0, none⟩ (.bool t)).setCell ⟨p, 1, none⟩ (.slice A n c)) p z t A n c := by
  have h1 := h.put t A n c
  exact ⟨h1.lt, h1.c0, h1.c1, hi.store h.c0 h.c1 _ _⟩
end
theorem len_of {W : World} {z : Int} {t : Bool} {A : Option Addr} {n c k : Nat} (h : Is W z t A n c) (hz : Sz z k) (hk : k ≤ 8796093022208) : n ≤ 8796093022208 := by
  rw [h.2.1]; exact Nat.le_trans (words_len_le.2 hz) hk
set_option maxHeartbeats 16000000 in
theorem LucasPell_c (s : Bool) (A : Option Addr) (n c : Nat) (xs : List Nat) (x y M N : Nat) (hM : M ≤ 60) (hN : N ≤ 60) (hx : x < 256) (hy : y < 256) (e1 : (x : Int) % 61 = (M : Int)) (e2 : (y : Int) % 61 = (N : Int)) (w : World) (h : Rd w A n xs) (hn : n ≤ c) (hc : c ≤ 9223372036854775807) :
    Calls Try.prog 7 #[.agg #[.bool s, .slice A n c], .int .u8 (x : Int), .int .u8 (y : Int)] w (IsB true w) := by
  have hb := below_alloc w (.cells #[.bool s, .slice A n c] 24)
  have P := Lib.hid hb
  have HV := Lib.hid (Vb.new w w s A n c (Nat.le_refl _))
  have HR := Lib.hid (h.below hb)
  have HK := Lib.hid (And.intro hn hc)
  obtain ⟨K, hK⟩ : ∃ K : Int, K = (M : Int) := ⟨_, rfl⟩
  obtain ⟨L, hL⟩ : ∃ L : Int, L = (N : Int) := ⟨_, rfl⟩
  rw [← hK] at e1
  rw [← hL] at e2
  have HKL := Lib.hid (And.intro (And.intro hK hL) (And.intro hM hN))
  have hK0 : 0 ≤ K := by omega
  have hK1 : K ≤ 60 := by omega
  have hL0 : 0 ≤ L := by omega
  have hL1 : L ≤ 60 := by omega
  clear h hb hn hc hK hL hM hN
  go_enter Try.func7, Try.ntmps7
  go_upto_region 1 with (fail)
  generalize w.alloc (.cells #[.bool s, .slice A n c] 24) = W0 at P HV HR ⊢
  have a0 := HV.out.c0
  have a1 := HV.out.c1
  go_wp2_with fail
  refine (small_c s A n c xs _ HR.out HK.out.1 HK.out.2).mono ?_
  rintro e w1 ⟨a, t0, A0, n0, c0, rfl, i0, ha, hs, hb⟩
  replace HV := Lib.hid (HV.out.below hb)
  replace P := Lib.hid (P.out.trans (hb.mono P.out.size))
  have I0 := Lib.hid i0
  have HA := Lib.hid ha
  have HS := Lib.hid hs
  clear hb i0 ha hs a0 a1 HR
  have a0 := HV.out.c0
  have a1 := HV.out.c1
  have f0 := HV.out.f0
  have f1 := HV.out.f1
  go_upto_region 2 with (fail)
  have Xa := Lib.hid (HV.out.box I0.out.is)
  replace P := Lib.hid (below_store P.out (g := w.heap.size) (Nat.le_refl _) (.bool t0) (.slice A0 n0 c0))
  clear a0 a1 f0 f1 HV I0
  generalize (w1.setCell ⟨w.heap.size, 0, none⟩ (.bool t0)).setCell ⟨w.heap.size, 1, none⟩ (.slice A0 n0 c0) = w2 at Xa P ⊢
  go_upto_region 3 with (fail)
  have pa := Xa.out.c0
  have qa := Xa.out.c1
  go_wp2_with fail
  have HBo := Lib.hid (both_c (Is.iv_of Xa.out.is (HS.out.le (by omega))) HA.out (M) (by have := HKL.out; omega) ((sz_chi_at HA.out HS.out (by have := HKL.out; omega)).le (by omega)) ((sz_psi_at HA.out HS.out (by have := HKL.out; omega)).le (by omega)))
  rw [show (((M : Nat)) : Int) = K by have := HKL.out; omega] at HBo
  refine HBo.out.mono ?_
  rintro e w10 ⟨t10, B10, m10, d10, t70, B70, m70, d70, rfl, i1, i2, hb⟩
  clear HBo
  replace Xa := Lib.hid (((Xa.out.next hb).alloc (.cells #[.bool t10, .slice B10 m10 d10] 24)).alloc (.cells #[.bool t70, .slice B70 m70 d70] 24))
  have Xxm := Lib.hid ((Box.new i1.is).alloc (.cells #[.bool t70, .slice B70 m70 d70] 24))
  have Xym := Lib.hid (Box.new (i2.is.below (below_alloc w10 (.cells #[.bool t10, .slice B10 m10 d10] 24))))
  rw [World.size_alloc] at Xym
  replace P := Lib.hid (((P.out.trans (hb.mono P.out.size)).alloc (Nat.le_trans P.out.size hb.size) (.cells #[.bool t10, .slice B10 m10 d10] 24)).alloc (by have := P.out.size; have := hb.size; simp; omega) (.cells #[.bool t70, .slice B70 m70 d70] 24))
  clear hb i1 i2 pa qa
  go_upto_region 4 with (fail)
  generalize (w10.alloc (.cells #[.bool t10, .slice B10 m10 d10] 24)).alloc (.cells #[.bool t70, .slice B70 m70 d70] 24) = v10 at P Xa Xxm Xym ⊢
  have pa := Xa.out.c0
  have qa := Xa.out.c1
  go_wp2_with fail
  have HBo := Lib.hid (both_c (Is.iv_of Xa.out.is (HS.out.le (by omega))) HA.out (N) (by have := HKL.out; omega) ((sz_chi_at HA.out HS.out (by have := HKL.out; omega)).le (by omega)) ((sz_psi_at HA.out HS.out (by have := HKL.out; omega)).le (by omega)))
  rw [show (((N : Nat)) : Int) = L by have := HKL.out; omega] at HBo
  refine HBo.out.mono ?_
  rintro e w11 ⟨t11, B11, m11, d11, t71, B71, m71, d71, rfl, i1, i2, hb⟩
  clear HBo
  replace Xa := Lib.hid (((Xa.out.next hb).alloc (.cells #[.bool t11, .slice B11 m11 d11] 24)).alloc (.cells #[.bool t71, .slice B71 m71 d71] 24))
  replace Xxm := Lib.hid (((Xxm.out.next hb).alloc (.cells #[.bool t11, .slice B11 m11 d11] 24)).alloc (.cells #[.bool t71, .slice B71 m71 d71] 24))
  replace Xym := Lib.hid (((Xym.out.next hb).alloc (.cells #[.bool t11, .slice B11 m11 d11] 24)).alloc (.cells #[.bool t71, .slice B71 m71 d71] 24))
  have Xxn := Lib.hid ((Box.new i1.is).alloc (.cells #[.bool t71, .slice B71 m71 d71] 24))
  have Xyn := Lib.hid (Box.new (i2.is.below (below_alloc w11 (.cells #[.bool t11, .slice B11 m11 d11] 24))))
  rw [World.size_alloc] at Xyn
  replace P := Lib.hid (((P.out.trans (hb.mono P.out.size)).alloc (Nat.le_trans P.out.size hb.size) (.cells #[.bool t11, .slice B11 m11 d11] 24)).alloc (by have := P.out.size; have := hb.size; simp; omega) (.cells #[.bool t71, .slice B71 m71 d71] 24))
  clear hb i1 i2 pa qa
  go_upto_region 5 with (fail)
  generalize (w11.alloc (.cells #[.bool t11, .slice B11 m11 d11] 24)).alloc (.cells #[.bool t71, .slice B71 m71 d71] 24) = v11 at P Xa Xxm Xym Xxn Xyn ⊢
  have pa := Xa.out.c0
  have qa := Xa.out.c1
  go_wp2_with fail
  have HBo := Lib.hid (both_c (Is.iv_of Xa.out.is (HS.out.le (by omega))) HA.out (M + N) (by have := HKL.out; omega) ((sz_chi_at HA.out HS.out (by have := HKL.out; omega)).le (by omega)) ((sz_psi_at HA.out HS.out (by have := HKL.out; omega)).le (by omega)))
  rw [show (((M + N : Nat)) : Int) = (K + L) by have := HKL.out; omega] at HBo
  refine HBo.out.mono ?_
  rintro e w12 ⟨t12, B12, m12, d12, t72, B72, m72, d72, rfl, i1, i2, hb⟩
  clear HBo
  replace Xa := Lib.hid (((Xa.out.next hb).alloc (.cells #[.bool t12, .slice B12 m12 d12] 24)).alloc (.cells #[.bool t72, .slice B72 m72 d72] 24))
  replace Xxm := Lib.hid (((Xxm.out.next hb).alloc (.cells #[.bool t12, .slice B12 m12 d12] 24)).alloc (.cells #[.bool t72, .slice B72 m72 d72] 24))
  replace Xym := Lib.hid (((Xym.out.next hb).alloc (.cells #[.bool t12, .slice B12 m12 d12] 24)).alloc (.cells #[.bool t72, .slice B72 m72 d72] 24))
  replace Xxn := Lib.hid (((Xxn.out.next hb).alloc (.cells #[.bool t12, .slice B12 m12 d12] 24)).alloc (.cells #[.bool t72, .slice B72 m72 d72] 24))
  replace Xyn := Lib.hid (((Xyn.out.next hb).alloc (.cells #[.bool t12, .slice B12 m12 d12] 24)).alloc (.cells #[.bool t72, .slice B72 m72 d72] 24))
  have Xxs := Lib.hid ((Box.new i1.is).alloc (.cells #[.bool t72, .slice B72 m72 d72] 24))
  have Xys := Lib.hid (Box.new (i2.is.below (below_alloc w12 (.cells #[.bool t12, .slice B12 m12 d12] 24))))
  rw [World.size_alloc] at Xys
  replace P := Lib.hid (((P.out.trans (hb.mono P.out.size)).alloc (Nat.le_trans P.out.size hb.size) (.cells #[.bool t12, .slice B12 m12 d12] 24)).alloc (by have := P.out.size; have := hb.size; simp; omega) (.cells #[.bool t72, .slice B72 m72 d72] 24))
  clear hb i1 i2 pa qa
  go_upto_region 6 with (fail)
  generalize (w12.alloc (.cells #[.bool t12, .slice B12 m12 d12] 24)).alloc (.cells #[.bool t72, .slice B72 m72 d72] 24) = v12 at P Xa Xxm Xym Xxn Xyn Xxs Xys ⊢
  have pa := Xa.out.c0
  have qa := Xa.out.c1
  go_wp2_with fail
  refine (refMul_c Xa.out.is Xa.out.is (len_of Xa.out.is HS.out (by omega)) (len_of Xa.out.is HS.out (by omega))).mono ?_
  rintro e w20 ⟨t20, B20, m20, d20, rfl, i1, hb⟩
  replace Xa := Lib.hid (Xa.out.next hb)
  replace Xxm := Lib.hid (Xxm.out.next hb)
  replace Xym := Lib.hid (Xym.out.next hb)
  replace Xxn := Lib.hid (Xxn.out.next hb)
  replace Xyn := Lib.hid (Xyn.out.next hb)
  replace Xxs := Lib.hid (Xxs.out.next hb)
  replace Xys := Lib.hid (Xys.out.next hb)
  replace P := Lib.hid (P.out.trans (hb.mono P.out.size))
  have I1 := Lib.hid i1
  clear hb i1 pa qa
  go_wp2_with fail
  refine (refOfV 1 _ (by omega) (by omega)).mono ?_
  rintro e w21 ⟨t21, B21, m21, d21, rfl, i2, hb⟩
  replace Xa := Lib.hid (Xa.out.next hb)
  replace Xxm := Lib.hid (Xxm.out.next hb)
  replace Xym := Lib.hid (Xym.out.next hb)
  replace Xxn := Lib.hid (Xxn.out.next hb)
  replace Xyn := Lib.hid (Xyn.out.next hb)
  replace Xxs := Lib.hid (Xxs.out.next hb)
  replace Xys := Lib.hid (Xys.out.next hb)
  replace P := Lib.hid (P.out.trans (hb.mono P.out.size))
  replace I1 := Lib.hid (I1.out.below hb)
  have I2 := Lib.hid i2
  clear hb i2
  go_wp2_with fail
  refine (refSub_c I1.out I2.out.is (len_of I1.out (HS.out.mul HS.out) (by omega)) (len_of I2.out.is I2.out.sz (by omega))).mono ?_
  rintro e w22 ⟨t22, B22, m22, d22, rfl, i3, hb⟩
  replace Xa := Lib.hid ((Xa.out.next hb).alloc (.cells #[.bool t22, .slice B22 m22 d22] 24))
  replace Xxm := Lib.hid ((Xxm.out.next hb).alloc (.cells #[.bool t22, .slice B22 m22 d22] 24))
  replace Xym := Lib.hid ((Xym.out.next hb).alloc (.cells #[.bool t22, .slice B22 m22 d22] 24))
  replace Xxn := Lib.hid ((Xxn.out.next hb).alloc (.cells #[.bool t22, .slice B22 m22 d22] 24))
  replace Xyn := Lib.hid ((Xyn.out.next hb).alloc (.cells #[.bool t22, .slice B22 m22 d22] 24))
  replace Xxs := Lib.hid ((Xxs.out.next hb).alloc (.cells #[.bool t22, .slice B22 m22 d22] 24))
  replace Xys := Lib.hid ((Xys.out.next hb).alloc (.cells #[.bool t22, .slice B22 m22 d22] 24))
  have Xd := Lib.hid (Box.new i3)
  replace P := Lib.hid ((P.out.trans (hb.mono P.out.size)).alloc (Nat.le_trans P.out.size hb.size) (.cells #[.bool t22, .slice B22 m22 d22] 24))
  clear hb i3 I1 I2
  go_upto_region 7 with (fail)
  generalize w22.alloc (.cells #[.bool t22, .slice B22 m22 d22] 24) = v22 at P Xa Xxm Xym Xxn Xyn Xxs Xys Xd ⊢
  clear Xa
  have SX := Lib.hid (fun (j : Nat) (hj : j ≤ 120) => sz_chi_at HA.out HS.out hj)
  have SY := Lib.hid (fun (j : Nat) (hj : j ≤ 120) => sz_psi_at HA.out HS.out hj)
  have SD : Hid (Sz (a * a - 1) 15) := by
    have h1 := HS.out.mul HS.out
    have h2 := HA.out
    have h3 : (0 : Int) ≤ a * a := Int.mul_nonneg (by omega) (by omega)
    have h4 : 2 * 2 ≤ a * a := Int.mul_le_mul h2 h2 (by omega) (by omega)
    exact (sz_of_le (y := a * a) (by omega) (by omega) h1).le (by omega)
  have bM : M ≤ 120 := by have := HKL.out; omega
  have bN : N ≤ 120 := by have := HKL.out; omega
  have bS : M + N ≤ 120 := by have := HKL.out; omega
  go_cut [19] (fun v W => ∃ g t A n c, v = .pointer (some ⟨g, 0, none⟩) ∧ Below w.heap.size w W ∧ Box W g 1 t A n c ∧ Box W w10.heap.size (chi a (M)) t10 B10 m10 d10 ∧ Box W (w10.heap.size + 1) (psi a (M)) t70 B70 m70 d70 ∧ Box W w11.heap.size (chi a (N)) t11 B11 m11 d11 ∧ Box W (w11.heap.size + 1) (psi a (N)) t71 B71 m71 d71 ∧ Box W w12.heap.size (chi a (M + N)) t12 B12 m12 d12 ∧ Box W (w12.heap.size + 1) (psi a (M + N)) t72 B72 m72 d72 ∧ Box W w22.heap.size (a * a - 1) t22 B22 m22 d22)
  case first =>
    have pxm := Xxm.out.c0
    have qxm := Xxm.out.c1
    have pym := Xym.out.c0
    have qym := Xym.out.c1
    have pd := Xd.out.c0
    have qd := Xd.out.c1
    have HPs := Lib.hid P.out.size
    have lz := P.out.size
    go_region_held3 (fun w' => w'.cell? ⟨w10.heap.size, 0, none⟩ = some (.bool t10) ∧ w'.cell? ⟨w10.heap.size, 1, none⟩ = some (.slice B10 m10 d10) ∧ w'.cell? ⟨(w10.heap.size + 1), 0, none⟩ = some (.bool t70) ∧ w'.cell? ⟨(w10.heap.size + 1), 1, none⟩ = some (.slice B70 m70 d70) ∧ w'.cell? ⟨w22.heap.size, 0, none⟩ = some (.bool t22) ∧ w'.cell? ⟨w22.heap.size, 1, none⟩ = some (.slice B22 m22 d22)) (first | (with_reducible exact ⟨pxm, qxm, pym, qym, pd, qd⟩) | (with_reducible exact ⟨cell_dr pxm, cell_dr qxm, cell_dr pym, cell_dr qym, cell_dr pd, cell_dr qd⟩) | (with_reducible exact ⟨cell_al pxm _, cell_al qxm _, cell_al pym _, cell_al qym _, cell_al pd _, cell_al qd _⟩) | (with_reducible exact ⟨cell_dr (cell_al pxm _), cell_dr (cell_al qxm _), cell_dr (cell_al pym _), cell_dr (cell_al qym _), cell_dr (cell_al pd _), cell_dr (cell_al qd _)⟩) | (with_reducible exact ⟨cell_al (cell_dr pxm) _, cell_al (cell_dr qxm) _, cell_al (cell_dr pym) _, cell_al (cell_dr qym) _, cell_al (cell_dr pd) _, cell_al (cell_dr qd) _⟩) | (with_reducible exact ⟨cell_two (by omega) pxm, cell_two (by omega) qxm, cell_two (by omega) pym, cell_two (by omega) qym, cell_two (by omega) pd, cell_two (by omega) qd⟩) | fail)
      (first
        | (go_at_call 37; (with_reducible refine (refMul_c (Xxm.out.is.below ((Below.refl _ _).drew)) (Xxm.out.is.below ((Below.refl _ _).drew)) (len_of Xxm.out.is (SX.out M bM) (by omega)) (len_of Xxm.out.is (SX.out M bM) (by omega))).mono ?_); rintro e w30 ⟨t30, B30, m30, d30, rfl, i30, b1⟩; have hb : Below v22.heap.size v22 w30 := ((Below.refl _ _).drew).trans b1; have U0 := Lib.hid i30; replace Xxm := Lib.hid (Xxm.out.next hb); replace Xym := Lib.hid (Xym.out.next hb); replace Xxn := Lib.hid (Xxn.out.next hb); replace Xyn := Lib.hid (Xyn.out.next hb); replace Xxs := Lib.hid (Xxs.out.next hb); replace Xys := Lib.hid (Xys.out.next hb); replace Xd := Lib.hid (Xd.out.next hb); replace P := Lib.hid (P.out.trans (hb.mono P.out.size)); replace HPs := Lib.hid P.out.size; have lz0 := P.out.size; clear b1 hb i30 pxm qxm pym qym pd qd; have pxm := Xxm.out.c0; have qxm := Xxm.out.c1; have pym := Xym.out.c0; have qym := Xym.out.c1; have pd := Xd.out.c0; have qd := Xd.out.c1)
        | (go_at_call 37; (with_reducible refine (refMul_c (Xxm.out.is.below ((below_alloc v22 (.cells #[.bool false, .slice none 0 0] 24)).drew)) (Xxm.out.is.below ((below_alloc v22 (.cells #[.bool false, .slice none 0 0] 24)).drew)) (len_of Xxm.out.is (SX.out M bM) (by omega)) (len_of Xxm.out.is (SX.out M bM) (by omega))).mono ?_); rintro e w30 ⟨t30, B30, m30, d30, rfl, i30, b1⟩; have hb : Below v22.heap.size v22 w30 := ((below_alloc v22 (.cells #[.bool false, .slice none 0 0] 24)).drew).trans (b1.mono (by simp)); have VA0 := Lib.hid (((Vb.new w v22 false none 0 0 HPs.out).below (Below.refl _ _).drew).below b1); have l0xm := Xxm.out.lt; have l0ym := Xym.out.lt; have l0xn := Xxn.out.lt; have l0yn := Xyn.out.lt; have l0xs := Xxs.out.lt; have l0ys := Xys.out.lt; have l0d := Xd.out.lt; have U0 := Lib.hid i30; replace Xxm := Lib.hid (Xxm.out.next hb); replace Xym := Lib.hid (Xym.out.next hb); replace Xxn := Lib.hid (Xxn.out.next hb); replace Xyn := Lib.hid (Xyn.out.next hb); replace Xxs := Lib.hid (Xxs.out.next hb); replace Xys := Lib.hid (Xys.out.next hb); replace Xd := Lib.hid (Xd.out.next hb); replace P := Lib.hid (P.out.trans (hb.mono P.out.size)); replace HPs := Lib.hid P.out.size; have lz0 := P.out.size; clear b1 hb i30 pxm qxm pym qym pd qd; have pxm := Xxm.out.c0; have qxm := Xxm.out.c1; have pym := Xym.out.c0; have qym := Xym.out.c1; have pd := Xd.out.c0; have qd := Xd.out.c1)
        | (go_at_call 37; (with_reducible refine (refMul_c Xym.out.is Xym.out.is (len_of Xym.out.is (SY.out M bM) (by omega)) (len_of Xym.out.is (SY.out M bM) (by omega))).mono ?_); rintro e w31 ⟨t31, B31, m31, d31, rfl, i31, b1⟩; have hb : Below w30.heap.size w30 w31 := b1; replace U0 := Lib.hid (U0.out.below hb); (try (replace VA0 := Lib.hid (VA0.out.below hb))); have U1 := Lib.hid i31; replace Xxm := Lib.hid (Xxm.out.next hb); replace Xym := Lib.hid (Xym.out.next hb); replace Xxn := Lib.hid (Xxn.out.next hb); replace Xyn := Lib.hid (Xyn.out.next hb); replace Xxs := Lib.hid (Xxs.out.next hb); replace Xys := Lib.hid (Xys.out.next hb); replace Xd := Lib.hid (Xd.out.next hb); replace P := Lib.hid (P.out.trans (hb.mono P.out.size)); replace HPs := Lib.hid P.out.size; have lz1 := P.out.size; clear b1 hb i31 pxm qxm pym qym pd qd; have pxm := Xxm.out.c0; have qxm := Xxm.out.c1; have pym := Xym.out.c0; have qym := Xym.out.c1; have pd := Xd.out.c0; have qd := Xd.out.c1)
        | (go_at_call 37; (with_reducible refine (refMul_c (Xym.out.is.below ((below_alloc w30 (.cells #[.bool false, .slice none 0 0] 24)))) (Xym.out.is.below ((below_alloc w30 (.cells #[.bool false, .slice none 0 0] 24)))) (len_of Xym.out.is (SY.out M bM) (by omega)) (len_of Xym.out.is (SY.out M bM) (by omega))).mono ?_); rintro e w31 ⟨t31, B31, m31, d31, rfl, i31, b1⟩; have hb : Below w30.heap.size w30 w31 := ((below_alloc w30 (.cells #[.bool false, .slice none 0 0] 24))).trans (b1.mono (by simp)); replace U0 := Lib.hid (U0.out.below hb); (try (replace VA0 := Lib.hid (VA0.out.below hb))); have VA1 := Lib.hid (((Vb.new w w30 false none 0 0 HPs.out)).below b1); have l1xm := Xxm.out.lt; have l1ym := Xym.out.lt; have l1xn := Xxn.out.lt; have l1yn := Xyn.out.lt; have l1xs := Xxs.out.lt; have l1ys := Xys.out.lt; have l1d := Xd.out.lt; have U1 := Lib.hid i31; replace Xxm := Lib.hid (Xxm.out.next hb); replace Xym := Lib.hid (Xym.out.next hb); replace Xxn := Lib.hid (Xxn.out.next hb); replace Xyn := Lib.hid (Xyn.out.next hb); replace Xxs := Lib.hid (Xxs.out.next hb); replace Xys := Lib.hid (Xys.out.next hb); replace Xd := Lib.hid (Xd.out.next hb); replace P := Lib.hid (P.out.trans (hb.mono P.out.size)); replace HPs := Lib.hid P.out.size; have lz1 := P.out.size; clear b1 hb i31 pxm qxm pym qym pd qd; have pxm := Xxm.out.c0; have qxm := Xxm.out.c1; have pym := Xym.out.c0; have qym := Xym.out.c1; have pd := Xd.out.c0; have qd := Xd.out.c1)
        | (go_at_call 37; (with_reducible refine (refMul_c Xd.out.is U1.out (len_of Xd.out.is SD.out (by omega)) (len_of U1.out ((SY.out M bM).mul (SY.out M bM)) (by omega))).mono ?_); rintro e w32 ⟨t32, B32, m32, d32, rfl, i32, b1⟩; have hb : Below w31.heap.size w31 w32 := b1; replace U0 := Lib.hid (U0.out.below hb); replace U1 := Lib.hid (U1.out.below hb); (try (replace VA0 := Lib.hid (VA0.out.below hb))); (try (replace VA1 := Lib.hid (VA1.out.below hb))); have U2 := Lib.hid i32; replace Xxm := Lib.hid (Xxm.out.next hb); replace Xym := Lib.hid (Xym.out.next hb); replace Xxn := Lib.hid (Xxn.out.next hb); replace Xyn := Lib.hid (Xyn.out.next hb); replace Xxs := Lib.hid (Xxs.out.next hb); replace Xys := Lib.hid (Xys.out.next hb); replace Xd := Lib.hid (Xd.out.next hb); replace P := Lib.hid (P.out.trans (hb.mono P.out.size)); replace HPs := Lib.hid P.out.size; have lz2 := P.out.size; clear b1 hb i32 pxm qxm pym qym pd qd; have pxm := Xxm.out.c0; have qxm := Xxm.out.c1; have pym := Xym.out.c0; have qym := Xym.out.c1; have pd := Xd.out.c0; have qd := Xd.out.c1)
        | (go_at_call 37; (with_reducible refine (refMul_c (Xd.out.is.below ((below_alloc w31 (.cells #[.bool false, .slice none 0 0] 24)))) (U1.out.below ((below_alloc w31 (.cells #[.bool false, .slice none 0 0] 24)))) (len_of Xd.out.is SD.out (by omega)) (len_of U1.out ((SY.out M bM).mul (SY.out M bM)) (by omega))).mono ?_); rintro e w32 ⟨t32, B32, m32, d32, rfl, i32, b1⟩; have hb : Below w31.heap.size w31 w32 := ((below_alloc w31 (.cells #[.bool false, .slice none 0 0] 24))).trans (b1.mono (by simp)); replace U0 := Lib.hid (U0.out.below hb); replace U1 := Lib.hid (U1.out.below hb); (try (replace VA0 := Lib.hid (VA0.out.below hb))); (try (replace VA1 := Lib.hid (VA1.out.below hb))); have VA2 := Lib.hid (((Vb.new w w31 false none 0 0 HPs.out)).below b1); have l2xm := Xxm.out.lt; have l2ym := Xym.out.lt; have l2xn := Xxn.out.lt; have l2yn := Xyn.out.lt; have l2xs := Xxs.out.lt; have l2ys := Xys.out.lt; have l2d := Xd.out.lt; have U2 := Lib.hid i32; replace Xxm := Lib.hid (Xxm.out.next hb); replace Xym := Lib.hid (Xym.out.next hb); replace Xxn := Lib.hid (Xxn.out.next hb); replace Xyn := Lib.hid (Xyn.out.next hb); replace Xxs := Lib.hid (Xxs.out.next hb); replace Xys := Lib.hid (Xys.out.next hb); replace Xd := Lib.hid (Xd.out.next hb); replace P := Lib.hid (P.out.trans (hb.mono P.out.size)); replace HPs := Lib.hid P.out.size; have lz2 := P.out.size; clear b1 hb i32 pxm qxm pym qym pd qd; have pxm := Xxm.out.c0; have qxm := Xxm.out.c1; have pym := Xym.out.c0; have qym := Xym.out.c1; have pd := Xd.out.c0; have qd := Xd.out.c1)
        | (go_at_call 36; (with_reducible refine (refSub_c U0.out U2.out (len_of U0.out ((SX.out M bM).mul (SX.out M bM)) (by omega)) (len_of U2.out (SD.out.mul ((SY.out M bM).mul (SY.out M bM))) (by omega))).mono ?_); rintro e w33 ⟨t33, B33, m33, d33, rfl, i33, b1⟩; have hb : Below w32.heap.size w32 w33 := b1; replace U0 := Lib.hid (U0.out.below hb); replace U1 := Lib.hid (U1.out.below hb); replace U2 := Lib.hid (U2.out.below hb); (try (replace VA0 := Lib.hid (VA0.out.below hb))); (try (replace VA1 := Lib.hid (VA1.out.below hb))); (try (replace VA2 := Lib.hid (VA2.out.below hb))); have U3 := Lib.hid i33; replace Xxm := Lib.hid (Xxm.out.next hb); replace Xym := Lib.hid (Xym.out.next hb); replace Xxn := Lib.hid (Xxn.out.next hb); replace Xyn := Lib.hid (Xyn.out.next hb); replace Xxs := Lib.hid (Xxs.out.next hb); replace Xys := Lib.hid (Xys.out.next hb); replace Xd := Lib.hid (Xd.out.next hb); replace P := Lib.hid (P.out.trans (hb.mono P.out.size)); replace HPs := Lib.hid P.out.size; have lz3 := P.out.size; clear b1 hb i33 pxm qxm pym qym pd qd; have pxm := Xxm.out.c0; have qxm := Xxm.out.c1; have pym := Xym.out.c0; have qym := Xym.out.c1; have pd := Xd.out.c0; have qd := Xd.out.c1; (try (have z0 := VA0.out.c0; have z1 := VA0.out.c1; have z2 := VA0.out.f0; have z3 := VA0.out.f1)); (try (have z0 := VA1.out.c0; have z1 := VA1.out.c1; have z2 := VA1.out.f0; have z3 := VA1.out.f1)); (try (have z0 := VA2.out.c0; have z1 := VA2.out.c1; have z2 := VA2.out.f0; have z3 := VA2.out.f1)); (try (have z0 := VA3.out.c0; have z1 := VA3.out.c1; have z2 := VA3.out.f0; have z3 := VA3.out.f1)))
        | (go_at_call 36; (with_reducible refine (refSub_c (U0.out.below ((below_alloc w32 (.cells #[.bool false, .slice none 0 0] 24)))) (U2.out.below ((below_alloc w32 (.cells #[.bool false, .slice none 0 0] 24)))) (len_of U0.out ((SX.out M bM).mul (SX.out M bM)) (by omega)) (len_of U2.out (SD.out.mul ((SY.out M bM).mul (SY.out M bM))) (by omega))).mono ?_); rintro e w33 ⟨t33, B33, m33, d33, rfl, i33, b1⟩; have hb : Below w32.heap.size w32 w33 := ((below_alloc w32 (.cells #[.bool false, .slice none 0 0] 24))).trans (b1.mono (by simp)); replace U0 := Lib.hid (U0.out.below hb); replace U1 := Lib.hid (U1.out.below hb); replace U2 := Lib.hid (U2.out.below hb); (try (replace VA0 := Lib.hid (VA0.out.below hb))); (try (replace VA1 := Lib.hid (VA1.out.below hb))); (try (replace VA2 := Lib.hid (VA2.out.below hb))); have VA3 := Lib.hid (((Vb.new w w32 false none 0 0 HPs.out)).below b1); have l3xm := Xxm.out.lt; have l3ym := Xym.out.lt; have l3xn := Xxn.out.lt; have l3yn := Xyn.out.lt; have l3xs := Xxs.out.lt; have l3ys := Xys.out.lt; have l3d := Xd.out.lt; have U3 := Lib.hid i33; replace Xxm := Lib.hid (Xxm.out.next hb); replace Xym := Lib.hid (Xym.out.next hb); replace Xxn := Lib.hid (Xxn.out.next hb); replace Xyn := Lib.hid (Xyn.out.next hb); replace Xxs := Lib.hid (Xxs.out.next hb); replace Xys := Lib.hid (Xys.out.next hb); replace Xd := Lib.hid (Xd.out.next hb); replace P := Lib.hid (P.out.trans (hb.mono P.out.size)); replace HPs := Lib.hid P.out.size; have lz3 := P.out.size; clear b1 hb i33 pxm qxm pym qym pd qd; have pxm := Xxm.out.c0; have qxm := Xxm.out.c1; have pym := Xym.out.c0; have qym := Xym.out.c1; have pd := Xd.out.c0; have qd := Xd.out.c1; (try (have z0 := VA0.out.c0; have z1 := VA0.out.c1; have z2 := VA0.out.f0; have z3 := VA0.out.f1)); (try (have z0 := VA1.out.c0; have z1 := VA1.out.c1; have z2 := VA1.out.f0; have z3 := VA1.out.f1)); (try (have z0 := VA2.out.c0; have z1 := VA2.out.c1; have z2 := VA2.out.f0; have z3 := VA2.out.f1)); (try (have z0 := VA3.out.c0; have z1 := VA3.out.c1; have z2 := VA3.out.f0; have z3 := VA3.out.f1)))
        | fail "no arm")
    all_goals
      have HPELL := Lib.hid (pell a M)
      go_wp2
      go_meet
      first
        | exact ⟨w33.heap.size, t33, B33, m33, d33, rfl, P.out.alloc HPs.out _, by rw [← HPELL.out]; exact Box.new U3.out, Xxm.out.alloc _, Xym.out.alloc _, Xxn.out.alloc _, Xyn.out.alloc _, Xxs.out.alloc _, Xys.out.alloc _, Xd.out.alloc _⟩
        | exact ⟨v22.heap.size, t33, B33, m33, d33, rfl, below_store P.out (by omega) _ _, by rw [← HPELL.out]; exact VA0.out.box U3.out, Xxm.out.far (by omega) VA0.out.c0 VA0.out.c1 _ _, Xym.out.far (by omega) VA0.out.c0 VA0.out.c1 _ _, Xxn.out.far (by omega) VA0.out.c0 VA0.out.c1 _ _, Xyn.out.far (by omega) VA0.out.c0 VA0.out.c1 _ _, Xxs.out.far (by omega) VA0.out.c0 VA0.out.c1 _ _, Xys.out.far (by omega) VA0.out.c0 VA0.out.c1 _ _, Xd.out.far (by omega) VA0.out.c0 VA0.out.c1 _ _⟩
        | exact ⟨w30.heap.size, t33, B33, m33, d33, rfl, below_store P.out (by omega) _ _, by rw [← HPELL.out]; exact VA1.out.box U3.out, Xxm.out.far (by omega) VA1.out.c0 VA1.out.c1 _ _, Xym.out.far (by omega) VA1.out.c0 VA1.out.c1 _ _, Xxn.out.far (by omega) VA1.out.c0 VA1.out.c1 _ _, Xyn.out.far (by omega) VA1.out.c0 VA1.out.c1 _ _, Xxs.out.far (by omega) VA1.out.c0 VA1.out.c1 _ _, Xys.out.far (by omega) VA1.out.c0 VA1.out.c1 _ _, Xd.out.far (by omega) VA1.out.c0 VA1.out.c1 _ _⟩
        | exact ⟨w31.heap.size, t33, B33, m33, d33, rfl, below_store P.out (by omega) _ _, by rw [← HPELL.out]; exact VA2.out.box U3.out, Xxm.out.far (by omega) VA2.out.c0 VA2.out.c1 _ _, Xym.out.far (by omega) VA2.out.c0 VA2.out.c1 _ _, Xxn.out.far (by omega) VA2.out.c0 VA2.out.c1 _ _, Xyn.out.far (by omega) VA2.out.c0 VA2.out.c1 _ _, Xxs.out.far (by omega) VA2.out.c0 VA2.out.c1 _ _, Xys.out.far (by omega) VA2.out.c0 VA2.out.c1 _ _, Xd.out.far (by omega) VA2.out.c0 VA2.out.c1 _ _⟩
        | exact ⟨w32.heap.size, t33, B33, m33, d33, rfl, below_store P.out (by omega) _ _, by rw [← HPELL.out]; exact VA3.out.box U3.out, Xxm.out.far (by omega) VA3.out.c0 VA3.out.c1 _ _, Xym.out.far (by omega) VA3.out.c0 VA3.out.c1 _ _, Xxn.out.far (by omega) VA3.out.c0 VA3.out.c1 _ _, Xyn.out.far (by omega) VA3.out.c0 VA3.out.c1 _ _, Xxs.out.far (by omega) VA3.out.c0 VA3.out.c1 _ _, Xys.out.far (by omega) VA3.out.c0 VA3.out.c1 _ _, Xd.out.far (by omega) VA3.out.c0 VA3.out.c1 _ _⟩
        | fail "no end"
  case rest =>
    clear P Xxm Xym Xxn Xyn Xxs Xys Xd
    obtain ⟨g, t40, B40, m40, d40, rfl, hp, h1, hxm, hym, hxn, hyn, hxs, hys, hd⟩ := hcut
    have P := Lib.hid hp
    have Xe := Lib.hid h1
    have Xxm := Lib.hid hxm
    have Xym := Lib.hid hym
    have Xxn := Lib.hid hxn
    have Xyn := Lib.hid hyn
    have Xxs := Lib.hid hxs
    have Xys := Lib.hid hys
    have Xd := Lib.hid hd
    clear hp h1 hxm hym hxn hyn hxs hys hd
    go_upto_region 8 with (fail)
    have pxm := Xxm.out.c0
    have qxm := Xxm.out.c1
    have pym := Xym.out.c0
    have qym := Xym.out.c1
    have pxn := Xxn.out.c0
    have qxn := Xxn.out.c1
    have pyn := Xyn.out.c0
    have qyn := Xyn.out.c1
    have pxs := Xxs.out.c0
    have qxs := Xxs.out.c1
    have pys := Xys.out.c0
    have qys := Xys.out.c1
    have pd := Xd.out.c0
    have qd := Xd.out.c1
    have pe := Xe.out.c0
    have qe := Xe.out.c1
    go_region_held3 (fun w' => w'.cell? ⟨w10.heap.size, 0, none⟩ = some (.bool t10) ∧ w'.cell? ⟨w10.heap.size, 1, none⟩ = some (.slice B10 m10 d10) ∧ w'.cell? ⟨(w10.heap.size + 1), 0, none⟩ = some (.bool t70) ∧ w'.cell? ⟨(w10.heap.size + 1), 1, none⟩ = some (.slice B70 m70 d70) ∧ w'.cell? ⟨w11.heap.size, 0, none⟩ = some (.bool t11) ∧ w'.cell? ⟨w11.heap.size, 1, none⟩ = some (.slice B11 m11 d11) ∧ w'.cell? ⟨(w11.heap.size + 1), 0, none⟩ = some (.bool t71) ∧ w'.cell? ⟨(w11.heap.size + 1), 1, none⟩ = some (.slice B71 m71 d71) ∧ w'.cell? ⟨w12.heap.size, 0, none⟩ = some (.bool t12) ∧ w'.cell? ⟨w12.heap.size, 1, none⟩ = some (.slice B12 m12 d12) ∧ w'.cell? ⟨(w12.heap.size + 1), 0, none⟩ = some (.bool t72) ∧ w'.cell? ⟨(w12.heap.size + 1), 1, none⟩ = some (.slice B72 m72 d72) ∧ w'.cell? ⟨w22.heap.size, 0, none⟩ = some (.bool t22) ∧ w'.cell? ⟨w22.heap.size, 1, none⟩ = some (.slice B22 m22 d22) ∧ w'.cell? ⟨g, 0, none⟩ = some (.bool t40) ∧ w'.cell? ⟨g, 1, none⟩ = some (.slice B40 m40 d40)) (first | (with_reducible exact ⟨pxm, qxm, pym, qym, pxn, qxn, pyn, qyn, pxs, qxs, pys, qys, pd, qd, pe, qe⟩) | (with_reducible exact ⟨cell_dr pxm, cell_dr qxm, cell_dr pym, cell_dr qym, cell_dr pxn, cell_dr qxn, cell_dr pyn, cell_dr qyn, cell_dr pxs, cell_dr qxs, cell_dr pys, cell_dr qys, cell_dr pd, cell_dr qd, cell_dr pe, cell_dr qe⟩) | fail)
      (first
        | (go_at_call 25; (with_reducible refine (refOfV 1 _ (by omega) (by omega)).mono ?_); rintro e w50 ⟨t50, B50, m50, d50, rfl, i1, b0⟩; have b1 := (Below.refl _ _).drew.trans b0; have I0 := Lib.hid i1; clear i1 b0; replace Xxm := Lib.hid (Xxm.out.next b1); replace Xym := Lib.hid (Xym.out.next b1); replace Xxn := Lib.hid (Xxn.out.next b1); replace Xyn := Lib.hid (Xyn.out.next b1); replace Xxs := Lib.hid (Xxs.out.next b1); replace Xys := Lib.hid (Xys.out.next b1); replace Xd := Lib.hid (Xd.out.next b1); replace Xe := Lib.hid (Xe.out.next b1); replace P := Lib.hid (P.out.trans (b1.mono P.out.size)); clear b1 pxm qxm pym qym pxn qxn pyn qyn pxs qxs pys qys pd qd pe qe; have pxm := Xxm.out.c0; have qxm := Xxm.out.c1; have pym := Xym.out.c0; have qym := Xym.out.c1; have pxn := Xxn.out.c0; have qxn := Xxn.out.c1; have pyn := Xyn.out.c0; have qyn := Xyn.out.c1; have pxs := Xxs.out.c0; have qxs := Xxs.out.c1; have pys := Xys.out.c0; have qys := Xys.out.c1; have pd := Xd.out.c0; have qd := Xd.out.c1; have pe := Xe.out.c0; have qe := Xe.out.c1)
        | (go_at_call 29; (with_reducible refine (same_eq (k := 4096) Xe.out.is I0.out.is (show Sz 1 4096 from sz_small (by decide)) (Nat.le_refl _) (rfl)).mono ?_); rintro e w51 ⟨rfl, b1⟩; replace I0 := Lib.hid (I0.out.below b1); replace Xxm := Lib.hid (Xxm.out.next b1); replace Xym := Lib.hid (Xym.out.next b1); replace Xxn := Lib.hid (Xxn.out.next b1); replace Xyn := Lib.hid (Xyn.out.next b1); replace Xxs := Lib.hid (Xxs.out.next b1); replace Xys := Lib.hid (Xys.out.next b1); replace Xd := Lib.hid (Xd.out.next b1); replace Xe := Lib.hid (Xe.out.next b1); replace P := Lib.hid (P.out.trans (b1.mono P.out.size)); clear b1 pxm qxm pym qym pxn qxn pyn qyn pxs qxs pys qys pd qd pe qe; have pxm := Xxm.out.c0; have qxm := Xxm.out.c1; have pym := Xym.out.c0; have qym := Xym.out.c1; have pxn := Xxn.out.c0; have qxn := Xxn.out.c1; have pyn := Xyn.out.c0; have qyn := Xyn.out.c1; have pxs := Xxs.out.c0; have qxs := Xxs.out.c1; have pys := Xys.out.c0; have qys := Xys.out.c1; have pd := Xd.out.c0; have qd := Xd.out.c1; have pe := Xe.out.c0; have qe := Xe.out.c1)
        | (go_at_call 37; (with_reducible refine (refMul_c Xym.out.is Xxn.out.is (len_of Xym.out.is (SY.out M bM) (by omega)) (len_of Xxn.out.is (SX.out N bN) (by omega))).mono ?_); rintro e w52 ⟨t52, B52, m52, d52, rfl, i1, b1⟩; replace I0 := Lib.hid (I0.out.below b1); have J0 := Lib.hid i1; clear i1; replace Xxm := Lib.hid (Xxm.out.next b1); replace Xym := Lib.hid (Xym.out.next b1); replace Xxn := Lib.hid (Xxn.out.next b1); replace Xyn := Lib.hid (Xyn.out.next b1); replace Xxs := Lib.hid (Xxs.out.next b1); replace Xys := Lib.hid (Xys.out.next b1); replace Xd := Lib.hid (Xd.out.next b1); replace Xe := Lib.hid (Xe.out.next b1); replace P := Lib.hid (P.out.trans (b1.mono P.out.size)); clear b1 pxm qxm pym qym pxn qxn pyn qyn pxs qxs pys qys pd qd pe qe; have pxm := Xxm.out.c0; have qxm := Xxm.out.c1; have pym := Xym.out.c0; have qym := Xym.out.c1; have pxn := Xxn.out.c0; have qxn := Xxn.out.c1; have pyn := Xyn.out.c0; have qyn := Xyn.out.c1; have pxs := Xxs.out.c0; have qxs := Xxs.out.c1; have pys := Xys.out.c0; have qys := Xys.out.c1; have pd := Xd.out.c0; have qd := Xd.out.c1; have pe := Xe.out.c0; have qe := Xe.out.c1)
        | (go_at_call 37; (with_reducible refine (refMul_c Xxm.out.is Xyn.out.is (len_of Xxm.out.is (SX.out M bM) (by omega)) (len_of Xyn.out.is (SY.out N bN) (by omega))).mono ?_); rintro e w53 ⟨t53, B53, m53, d53, rfl, i1, b1⟩; replace I0 := Lib.hid (I0.out.below b1); replace J0 := Lib.hid (J0.out.below b1); have J1 := Lib.hid i1; clear i1; replace Xxm := Lib.hid (Xxm.out.next b1); replace Xym := Lib.hid (Xym.out.next b1); replace Xxn := Lib.hid (Xxn.out.next b1); replace Xyn := Lib.hid (Xyn.out.next b1); replace Xxs := Lib.hid (Xxs.out.next b1); replace Xys := Lib.hid (Xys.out.next b1); replace Xd := Lib.hid (Xd.out.next b1); replace Xe := Lib.hid (Xe.out.next b1); replace P := Lib.hid (P.out.trans (b1.mono P.out.size)); clear b1 pxm qxm pym qym pxn qxn pyn qyn pxs qxs pys qys pd qd pe qe; have pxm := Xxm.out.c0; have qxm := Xxm.out.c1; have pym := Xym.out.c0; have qym := Xym.out.c1; have pxn := Xxn.out.c0; have qxn := Xxn.out.c1; have pyn := Xyn.out.c0; have qyn := Xyn.out.c1; have pxs := Xxs.out.c0; have qxs := Xxs.out.c1; have pys := Xys.out.c0; have qys := Xys.out.c1; have pd := Xd.out.c0; have qd := Xd.out.c1; have pe := Xe.out.c0; have qe := Xe.out.c1)
        | (go_at_call 38; (with_reducible refine (refAdd_c J0.out J1.out (len_of J0.out ((SY.out M bM).mul (SX.out N bN)) (by omega)) (len_of J1.out ((SX.out M bM).mul (SY.out N bN)) (by omega))).mono ?_); rintro e w54 ⟨t54, B54, m54, d54, rfl, i1, b1⟩; replace I0 := Lib.hid (I0.out.below b1); replace J0 := Lib.hid (J0.out.below b1); replace J1 := Lib.hid (J1.out.below b1); have J2 := Lib.hid i1; clear i1; replace Xxm := Lib.hid (Xxm.out.next b1); replace Xym := Lib.hid (Xym.out.next b1); replace Xxn := Lib.hid (Xxn.out.next b1); replace Xyn := Lib.hid (Xyn.out.next b1); replace Xxs := Lib.hid (Xxs.out.next b1); replace Xys := Lib.hid (Xys.out.next b1); replace Xd := Lib.hid (Xd.out.next b1); replace Xe := Lib.hid (Xe.out.next b1); replace P := Lib.hid (P.out.trans (b1.mono P.out.size)); clear b1 pxm qxm pym qym pxn qxn pyn qyn pxs qxs pys qys pd qd pe qe; have pxm := Xxm.out.c0; have qxm := Xxm.out.c1; have pym := Xym.out.c0; have qym := Xym.out.c1; have pxn := Xxn.out.c0; have qxn := Xxn.out.c1; have pyn := Xyn.out.c0; have qyn := Xyn.out.c1; have pxs := Xxs.out.c0; have qxs := Xxs.out.c1; have pys := Xys.out.c0; have qys := Xys.out.c1; have pd := Xd.out.c0; have qd := Xd.out.c1; have pe := Xe.out.c0; have qe := Xe.out.c1)
        | (go_at_call 29; (with_reducible refine (same_eq (k := 4096) Xys.out.is J2.out ((SY.out (M + N) bS).le (by omega) : Sz _ 4096) (Nat.le_refl _) ((both_add a M N).1)).mono ?_); rintro e w55 ⟨rfl, b1⟩; replace I0 := Lib.hid (I0.out.below b1); replace J0 := Lib.hid (J0.out.below b1); replace J1 := Lib.hid (J1.out.below b1); replace J2 := Lib.hid (J2.out.below b1); replace Xxm := Lib.hid (Xxm.out.next b1); replace Xym := Lib.hid (Xym.out.next b1); replace Xxn := Lib.hid (Xxn.out.next b1); replace Xyn := Lib.hid (Xyn.out.next b1); replace Xxs := Lib.hid (Xxs.out.next b1); replace Xys := Lib.hid (Xys.out.next b1); replace Xd := Lib.hid (Xd.out.next b1); replace Xe := Lib.hid (Xe.out.next b1); replace P := Lib.hid (P.out.trans (b1.mono P.out.size)); clear b1 pxm qxm pym qym pxn qxn pyn qyn pxs qxs pys qys pd qd pe qe; have pxm := Xxm.out.c0; have qxm := Xxm.out.c1; have pym := Xym.out.c0; have qym := Xym.out.c1; have pxn := Xxn.out.c0; have qxn := Xxn.out.c1; have pyn := Xyn.out.c0; have qyn := Xyn.out.c1; have pxs := Xxs.out.c0; have qxs := Xxs.out.c1; have pys := Xys.out.c0; have qys := Xys.out.c1; have pd := Xd.out.c0; have qd := Xd.out.c1; have pe := Xe.out.c0; have qe := Xe.out.c1)
        | (go_at_call 37; (with_reducible refine (refMul_c Xxm.out.is Xxn.out.is (len_of Xxm.out.is (SX.out M bM) (by omega)) (len_of Xxn.out.is (SX.out N bN) (by omega))).mono ?_); rintro e w56 ⟨t56, B56, m56, d56, rfl, i1, b1⟩; replace I0 := Lib.hid (I0.out.below b1); replace J0 := Lib.hid (J0.out.below b1); replace J1 := Lib.hid (J1.out.below b1); replace J2 := Lib.hid (J2.out.below b1); have J3 := Lib.hid i1; clear i1; replace Xxm := Lib.hid (Xxm.out.next b1); replace Xym := Lib.hid (Xym.out.next b1); replace Xxn := Lib.hid (Xxn.out.next b1); replace Xyn := Lib.hid (Xyn.out.next b1); replace Xxs := Lib.hid (Xxs.out.next b1); replace Xys := Lib.hid (Xys.out.next b1); replace Xd := Lib.hid (Xd.out.next b1); replace Xe := Lib.hid (Xe.out.next b1); replace P := Lib.hid (P.out.trans (b1.mono P.out.size)); clear b1 pxm qxm pym qym pxn qxn pyn qyn pxs qxs pys qys pd qd pe qe; have pxm := Xxm.out.c0; have qxm := Xxm.out.c1; have pym := Xym.out.c0; have qym := Xym.out.c1; have pxn := Xxn.out.c0; have qxn := Xxn.out.c1; have pyn := Xyn.out.c0; have qyn := Xyn.out.c1; have pxs := Xxs.out.c0; have qxs := Xxs.out.c1; have pys := Xys.out.c0; have qys := Xys.out.c1; have pd := Xd.out.c0; have qd := Xd.out.c1; have pe := Xe.out.c0; have qe := Xe.out.c1)
        | (go_at_call 37; (with_reducible refine (refMul_c Xym.out.is Xyn.out.is (len_of Xym.out.is (SY.out M bM) (by omega)) (len_of Xyn.out.is (SY.out N bN) (by omega))).mono ?_); rintro e w57 ⟨t57, B57, m57, d57, rfl, i1, b1⟩; replace I0 := Lib.hid (I0.out.below b1); replace J0 := Lib.hid (J0.out.below b1); replace J1 := Lib.hid (J1.out.below b1); replace J2 := Lib.hid (J2.out.below b1); replace J3 := Lib.hid (J3.out.below b1); have J4 := Lib.hid i1; clear i1; replace Xxm := Lib.hid (Xxm.out.next b1); replace Xym := Lib.hid (Xym.out.next b1); replace Xxn := Lib.hid (Xxn.out.next b1); replace Xyn := Lib.hid (Xyn.out.next b1); replace Xxs := Lib.hid (Xxs.out.next b1); replace Xys := Lib.hid (Xys.out.next b1); replace Xd := Lib.hid (Xd.out.next b1); replace Xe := Lib.hid (Xe.out.next b1); replace P := Lib.hid (P.out.trans (b1.mono P.out.size)); clear b1 pxm qxm pym qym pxn qxn pyn qyn pxs qxs pys qys pd qd pe qe; have pxm := Xxm.out.c0; have qxm := Xxm.out.c1; have pym := Xym.out.c0; have qym := Xym.out.c1; have pxn := Xxn.out.c0; have qxn := Xxn.out.c1; have pyn := Xyn.out.c0; have qyn := Xyn.out.c1; have pxs := Xxs.out.c0; have qxs := Xxs.out.c1; have pys := Xys.out.c0; have qys := Xys.out.c1; have pd := Xd.out.c0; have qd := Xd.out.c1; have pe := Xe.out.c0; have qe := Xe.out.c1)
        | (go_at_call 37; (with_reducible refine (refMul_c Xd.out.is J4.out (len_of Xd.out.is SD.out (by omega)) (len_of J4.out ((SY.out M bM).mul (SY.out N bN)) (by omega))).mono ?_); rintro e w58 ⟨t58, B58, m58, d58, rfl, i1, b1⟩; replace I0 := Lib.hid (I0.out.below b1); replace J0 := Lib.hid (J0.out.below b1); replace J1 := Lib.hid (J1.out.below b1); replace J2 := Lib.hid (J2.out.below b1); replace J3 := Lib.hid (J3.out.below b1); replace J4 := Lib.hid (J4.out.below b1); have J5 := Lib.hid i1; clear i1; replace Xxm := Lib.hid (Xxm.out.next b1); replace Xym := Lib.hid (Xym.out.next b1); replace Xxn := Lib.hid (Xxn.out.next b1); replace Xyn := Lib.hid (Xyn.out.next b1); replace Xxs := Lib.hid (Xxs.out.next b1); replace Xys := Lib.hid (Xys.out.next b1); replace Xd := Lib.hid (Xd.out.next b1); replace Xe := Lib.hid (Xe.out.next b1); replace P := Lib.hid (P.out.trans (b1.mono P.out.size)); clear b1 pxm qxm pym qym pxn qxn pyn qyn pxs qxs pys qys pd qd pe qe; have pxm := Xxm.out.c0; have qxm := Xxm.out.c1; have pym := Xym.out.c0; have qym := Xym.out.c1; have pxn := Xxn.out.c0; have qxn := Xxn.out.c1; have pyn := Xyn.out.c0; have qyn := Xyn.out.c1; have pxs := Xxs.out.c0; have qxs := Xxs.out.c1; have pys := Xys.out.c0; have qys := Xys.out.c1; have pd := Xd.out.c0; have qd := Xd.out.c1; have pe := Xe.out.c0; have qe := Xe.out.c1)
        | (go_at_call 38; (with_reducible refine (refAdd_c J3.out J5.out (len_of J3.out ((SX.out M bM).mul (SX.out N bN)) (by omega)) (len_of J5.out (SD.out.mul ((SY.out M bM).mul (SY.out N bN))) (by omega))).mono ?_); rintro e w59 ⟨t59, B59, m59, d59, rfl, i1, b1⟩; replace I0 := Lib.hid (I0.out.below b1); replace J0 := Lib.hid (J0.out.below b1); replace J1 := Lib.hid (J1.out.below b1); replace J2 := Lib.hid (J2.out.below b1); replace J3 := Lib.hid (J3.out.below b1); replace J4 := Lib.hid (J4.out.below b1); replace J5 := Lib.hid (J5.out.below b1); have J6 := Lib.hid i1; clear i1; replace Xxm := Lib.hid (Xxm.out.next b1); replace Xym := Lib.hid (Xym.out.next b1); replace Xxn := Lib.hid (Xxn.out.next b1); replace Xyn := Lib.hid (Xyn.out.next b1); replace Xxs := Lib.hid (Xxs.out.next b1); replace Xys := Lib.hid (Xys.out.next b1); replace Xd := Lib.hid (Xd.out.next b1); replace Xe := Lib.hid (Xe.out.next b1); replace P := Lib.hid (P.out.trans (b1.mono P.out.size)); clear b1 pxm qxm pym qym pxn qxn pyn qyn pxs qxs pys qys pd qd pe qe; have pxm := Xxm.out.c0; have qxm := Xxm.out.c1; have pym := Xym.out.c0; have qym := Xym.out.c1; have pxn := Xxn.out.c0; have qxn := Xxn.out.c1; have pyn := Xyn.out.c0; have qyn := Xyn.out.c1; have pxs := Xxs.out.c0; have qxs := Xxs.out.c1; have pys := Xys.out.c0; have qys := Xys.out.c1; have pd := Xd.out.c0; have qd := Xd.out.c1; have pe := Xe.out.c0; have qe := Xe.out.c1)
        | (go_at_call 29; (with_reducible refine (same_eq (k := 4096) Xxs.out.is J6.out ((SX.out (M + N) bS).le (by omega) : Sz _ 4096) (Nat.le_refl _) ((both_add a M N).2)).mono ?_); rintro e w60 ⟨rfl, b1⟩; replace I0 := Lib.hid (I0.out.below b1); replace J0 := Lib.hid (J0.out.below b1); replace J1 := Lib.hid (J1.out.below b1); replace J2 := Lib.hid (J2.out.below b1); replace J3 := Lib.hid (J3.out.below b1); replace J4 := Lib.hid (J4.out.below b1); replace J5 := Lib.hid (J5.out.below b1); replace J6 := Lib.hid (J6.out.below b1); replace Xxm := Lib.hid (Xxm.out.next b1); replace Xym := Lib.hid (Xym.out.next b1); replace Xxn := Lib.hid (Xxn.out.next b1); replace Xyn := Lib.hid (Xyn.out.next b1); replace Xxs := Lib.hid (Xxs.out.next b1); replace Xys := Lib.hid (Xys.out.next b1); replace Xd := Lib.hid (Xd.out.next b1); replace Xe := Lib.hid (Xe.out.next b1); replace P := Lib.hid (P.out.trans (b1.mono P.out.size)); clear b1 pxm qxm pym qym pxn qxn pyn qyn pxs qxs pys qys pd qd pe qe; have pxm := Xxm.out.c0; have qxm := Xxm.out.c1; have pym := Xym.out.c0; have qym := Xym.out.c1; have pxn := Xxn.out.c0; have qxn := Xxn.out.c1; have pyn := Xyn.out.c0; have qyn := Xyn.out.c1; have pxs := Xxs.out.c0; have qxs := Xxs.out.c1; have pys := Xys.out.c0; have qys := Xys.out.c1; have pd := Xd.out.c0; have qd := Xd.out.c1; have pe := Xe.out.c0; have qe := Xe.out.c1)
        | (go_at_call 15; (with_reducible refine (awake8_c _).mono ?_); rintro e w61 ⟨rfl, b1⟩; replace I0 := Lib.hid (I0.out.below b1); replace J0 := Lib.hid (J0.out.below b1); replace J1 := Lib.hid (J1.out.below b1); replace J2 := Lib.hid (J2.out.below b1); replace J3 := Lib.hid (J3.out.below b1); replace J4 := Lib.hid (J4.out.below b1); replace J5 := Lib.hid (J5.out.below b1); replace J6 := Lib.hid (J6.out.below b1); replace Xxm := Lib.hid (Xxm.out.next b1); replace Xym := Lib.hid (Xym.out.next b1); replace Xxn := Lib.hid (Xxn.out.next b1); replace Xyn := Lib.hid (Xyn.out.next b1); replace Xxs := Lib.hid (Xxs.out.next b1); replace Xys := Lib.hid (Xys.out.next b1); replace Xd := Lib.hid (Xd.out.next b1); replace Xe := Lib.hid (Xe.out.next b1); replace P := Lib.hid (P.out.trans (b1.mono P.out.size)); clear b1 pxm qxm pym qym pxn qxn pyn qyn pxs qxs pys qys pd qd pe qe; have pxm := Xxm.out.c0; have qxm := Xxm.out.c1; have pym := Xym.out.c0; have qym := Xym.out.c1; have pxn := Xxn.out.c0; have qxn := Xxn.out.c1; have pyn := Xyn.out.c0; have qyn := Xyn.out.c1; have pxs := Xxs.out.c0; have qxs := Xxs.out.c1; have pys := Xys.out.c0; have qys := Xys.out.c1; have pd := Xd.out.c0; have qd := Xd.out.c1; have pe := Xe.out.c0; have qe := Xe.out.c1)
        | fail "no arm")
    go_wp2
    go_ret
    exact ⟨rfl, P.out⟩
theorem nat_of_u8 {a : Int} (h : (Lit.int .u8 a).wf = true) : ∃ n : Nat, a = (n : Int) ∧ n < 256 := by
  simp only [Lit.wf, Bool.and_eq_true, decide_eq_true_eq] at h
  have h1 : IntKind.min .u8 = 0 := rfl
  have h2 : IntKind.max .u8 = 255 := rfl
  exact ⟨a.toNat, by omega, by omega⟩
theorem LucasPell_i (s : Bool) (A : Option Addr) (n c : Nat) (xs : List Nat) (a1 a2 : Int) (w1 : (Lit.int .u8 a1).wf = true) (w2 : (Lit.int .u8 a2).wf = true) (w : World) (h : Rd w A n xs) (hn : n ≤ c) (hc : c ≤ 9223372036854775807) :
    Calls Try.prog 7 #[.agg #[.bool s, .slice A n c], .int .u8 a1, .int .u8 a2] w fun e w' => e = .returned (.bool true) ∧ Below w.heap.size w w' := by
  obtain ⟨x, rfl, hx⟩ := nat_of_u8 w1
  obtain ⟨y, rfl, hy⟩ := nat_of_u8 w2
  exact LucasPell_c s A n c xs x y (x % 61) (y % 61) (by omega) (by omega) hx hy (by omega) (by omega) w h hn hc
end Go.Proofs.Ytbblckaplddggaa

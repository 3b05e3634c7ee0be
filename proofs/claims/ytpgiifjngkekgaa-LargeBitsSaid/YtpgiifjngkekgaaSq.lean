import Derived.Test.YtpgiifjngkekgaaSp
import Derived.Test.YtpgiifjngkekgaaRk
import Derived.Deep.DeepMust
import Derived.Outline
namespace Go.Proofs.Ytpgiifjngkekgaa
open Go.RowKit Go.Deep

/-- what is in memory behind the calls of the program -/
structure LB (w W : World) (s1 : Bool) (A1 : Option Addr) (n1 c1 : Nat) (s2 : Bool) (A2 : Option Addr) (n2 c2 : Nat) (xs2 : List Nat) (z K : Int) (g7 g9 : Nat) (t7 : Bool) (A7 : Option Addr) (n7 c7 : Nat) (k7 : Int) (t9 : Bool) (A9 : Option Addr) (n9 c9 : Nat) (k9 : Int) : Prop where
  below : Below w.heap.size w W
  ba : Box W w.heap.size z s1 A1 n1 c1
  lb : w.heap.size + 1 < W.heap.size
  b0 : W.cell? ⟨w.heap.size + 1, 0, none⟩ = some (.bool s2)
  b1 : W.cell? ⟨w.heap.size + 1, 1, none⟩ = some (.slice A2 n2 c2)
  rb : Rd W A2 n2 xs2
  l7 : g7 < W.heap.size
  p0 : W.cell? ⟨g7, 0, none⟩ = some (.bool t7)
  p1 : W.cell? ⟨g7, 1, none⟩ = some (.slice A7 n7 c7)
  pn : K < 0 → t7 = false ∧ A7 = none ∧ n7 = 0 ∧ c7 = 0 ∧ k7 = 2
  pp : 0 ≤ K → NumIs W (z ^ K.toNat) t7 A7 n7 c7 k7
  sb : NBox W g9 (shl z K) t9 A9 n9 c9 k9
theorem LB.next {w W w1 : World} {s1 : Bool} {A1 : Option Addr} {n1 c1 : Nat} {s2 : Bool} {A2 : Option Addr} {n2 c2 : Nat} {xs2 : List Nat} {z K : Int} {g7 g9 : Nat} {t7 : Bool} {A7 : Option Addr} {n7 c7 : Nat} {k7 : Int} {t9 : Bool} {A9 : Option Addr} {n9 c9 : Nat} {k9 : Int}
    (h : LB w W s1 A1 n1 c1 s2 A2 n2 c2 xs2 z K g7 g9 t7 A7 n7 c7 k7 t9 A9 n9 c9 k9) (hb : Below W.heap.size W w1) : LB w w1 s1 A1 n1 c1 s2 A2 n2 c2 xs2 z K g7 g9 t7 A7 n7 c7 k7 t9 A9 n9 c9 k9 :=
  ⟨h.below.trans (hb.mono h.below.size), h.ba.next hb, Nat.lt_of_lt_of_le h.lb hb.size, (hb.cell (p := ⟨w.heap.size + 1, 0, none⟩) h.lb).trans h.b0, (hb.cell (p := ⟨w.heap.size + 1, 1, none⟩) h.lb).trans h.b1, h.rb.below hb,
    Nat.lt_of_lt_of_le h.l7 hb.size, (hb.cell (p := ⟨g7, 0, none⟩) h.l7).trans h.p0, (hb.cell (p := ⟨g7, 1, none⟩) h.l7).trans h.p1, h.pn, fun k => (h.pp k).below hb, h.sb.next hb⟩
/-- the arguments in memory -/
structure L0 (w W : World) (s1 : Bool) (A1 : Option Addr) (n1 c1 : Nat) (s2 : Bool) (A2 : Option Addr) (n2 c2 : Nat) (xs2 : List Nat) (z : Int) : Prop where
  below : Below w.heap.size w W
  ba : Box W w.heap.size z s1 A1 n1 c1
  lb : w.heap.size + 1 < W.heap.size
  b0 : W.cell? ⟨w.heap.size + 1, 0, none⟩ = some (.bool s2)
  b1 : W.cell? ⟨w.heap.size + 1, 1, none⟩ = some (.slice A2 n2 c2)
  rb : Rd W A2 n2 xs2
theorem L0.next {w W w1 : World} {s1 : Bool} {A1 : Option Addr} {n1 c1 : Nat} {s2 : Bool} {A2 : Option Addr} {n2 c2 : Nat} {xs2 : List Nat} {z : Int}
    (h : L0 w W s1 A1 n1 c1 s2 A2 n2 c2 xs2 z) (hb : Below W.heap.size W w1) : L0 w w1 s1 A1 n1 c1 s2 A2 n2 c2 xs2 z :=
  ⟨h.below.trans (hb.mono h.below.size), h.ba.next hb, Nat.lt_of_lt_of_le h.lb hb.size, (hb.cell (p := ⟨w.heap.size + 1, 0, none⟩) h.lb).trans h.b0, (hb.cell (p := ⟨w.heap.size + 1, 1, none⟩) h.lb).trans h.b1, h.rb.below hb⟩
/-- Power by any number -/
theorem Power_any {w : World} {z : Int} {t : Bool} {A : Option Addr} {n c : Nat} {xs : List Nat} (h : Is w z t A n c) (hn : n ≤ 4096) (hr : Rd w A n xs) (hv : validB t xs = true) (K : Int) (h1 : K < 9223372036854775808) :
    Calls Try.prog 32 #[.agg #[.bool t, .slice A n c], .int .i64 K] w fun e w' => ∃ u B m d k, e = .returned (.tuple #[.agg #[.bool u, .slice B m d], .int .i64 k]) ∧
      (K < 0 → u = false ∧ B = none ∧ m = 0 ∧ d = 0 ∧ k = 2) ∧ (0 ≤ K → NumIs w' (z ^ K.toNat) u B m d k) ∧ Below w.heap.size w w' := by
  by_cases h0 : 0 ≤ K
  · obtain ⟨m, rfl⟩ := Int.eq_ofNat_of_zero_le h0
    refine (Power_is h hn m (by omega)).mono ?_
    rintro e w' ⟨u, B, m', d, k, he, hnum, hb⟩
    exact ⟨u, B, m', d, k, he, fun h => by omega, fun _ => hnum, hb⟩
  · refine (Power_neg t A n c xs K w hr hv (by omega)).mono ?_
    rintro e w' ⟨he, hb⟩
    exact ⟨false, none, 0, 0, 2, he, fun _ => ⟨rfl, rfl, rfl, rfl, rfl⟩, fun h => by omega, hb⟩
theorem shl_long {z K : Int} (hz : z ≠ 0) (hK : 135168 < K) : ¬ (words (shl z K).natAbs).length ≤ 4096 := by
  obtain ⟨k, rfl⟩ := Int.eq_ofNat_of_zero_le (show 0 ≤ K by omega)
  rw [shl_up]
  apply long_of_blen
  rw [Int.natAbs_mul, Int.natAbs_natCast, blen_mul_two (by omega)]
  omega
theorem Power_k {w : World} {z : Int} {t : Bool} {A : Option Addr} {n c : Nat} (h : Is w z t A n c) (hn : n ≤ 4096) (K : Int) (h0 : 0 ≤ K) (h1 : K < 9223372036854775808) :
    Calls Try.prog 32 #[.agg #[.bool t, .slice A n c], .int .i64 K] w (Num w (z ^ K.toNat)) := by
  obtain ⟨m, rfl⟩ := Int.eq_ofNat_of_zero_le h0
  exact Power_is h hn m (by omega)
theorem refPower_k {w : World} {z : Int} {t : Bool} {A : Option Addr} {n c : Nat} (h : Is w z t A n c) (hn : n ≤ 4096) (K : Int) (h0 : 0 ≤ K) (h1 : K < 9223372036854775808) :
    Calls Try.prog 39 #[.agg #[.bool t, .slice A n c], .int .i64 K] w (PowPost w (z ^ K.toNat)) := by
  obtain ⟨m, rfl⟩ := Int.eq_ofNat_of_zero_le h0
  exact refPower_c h hn m (by omega)
theorem is_len_zero {w : World} {z : Int} {t : Bool} {A : Option Addr} {n c : Nat} (h : Is w z t A n c) (hz : z = 0) : n = 0 := by
  rw [h.2.1, hz, show (0 : Int).natAbs = 0 from rfl, words_zero]; rfl
theorem is_len_ne {w : World} {z : Int} {t : Bool} {A : Option Addr} {n c : Nat} (h : Is w z t A n c) (hz : z ≠ 0) : ¬ n = 0 := by
  rw [h.2.1]; intro e; exact hz (by have := words_nil.1 (List.eq_nil_of_length_eq_zero e); omega)

set_option maxHeartbeats 8000000 in
set_option maxRecDepth 100000 in
theorem LargeBits_valid (s1 s2 : Bool) (A1 A2 : Option Addr) (n1 c1 n2 c2 : Nat) (xs1 xs2 : List Nat) (K : Int) (w : World) (h1 : Rd w A1 n1 xs1) (h2 : Rd w A2 n2 xs2) (k1 : n1 ≤ c1) (e1 : c1 ≤ 9223372036854775807)
    (hK1 : -9223372036854775808 ≤ K) (hK2 : K < 9223372036854775808) (l1 : n1 ≤ 4200) (l2 : n2 ≤ 4200) (v1 : validB s1 xs1 = true) :
    Calls Try.prog 5 #[.agg #[.bool s1, .slice A1 n1 c1], .agg #[.bool s2, .slice A2 n2 c2], .int .i64 K] w fun e w' => e = .returned (.bool true) ∧ Below w.heap.size w w' := by
  have HB := Lib.hid ((below_alloc w (.cells #[.bool s1, .slice A1 n1 c1] 24)).trans ((below_alloc (w.alloc (.cells #[.bool s1, .slice A1 n1 c1] 24)) (.cells #[.bool s2, .slice A2 n2 c2] 24)).mono (by simp)))
  have hn4 := Lib.hid (show n1 ≤ 4096 by rw [← h1.len]; exact (valid_canon h1.sm v1).2.1)
  have HN42 := Lib.hid (show n1 ≤ 4398046511104 by omega)
  have HN17 := Lib.hid (show n1 ≤ 17592186044416 by omega)
  have HM17 := Lib.hid (show n2 ≤ 17592186044416 by omega)
  have HV1 := Lib.hid v1
  have HKr := Lib.hid hK2
  have hKl := Lib.hid hK1
  have R1 := Lib.hid h1
  have R2 := Lib.hid h2
  have I1 := Is.of_valid h1 v1 k1 e1
  have HXV := Lib.hid (show sgn s1 (val xs1) = sgn s1 (val xs1) from rfl)
  have CX := Lib.hid (valid_canon h1.sm v1).1
  have HAbs := Lib.hid (sgn_abs s1 (val xs1))
  obtain ⟨z, hz⟩ : ∃ z, z = sgn s1 (val xs1) := ⟨_, rfl⟩
  rw [← hz] at I1 HAbs
  have II := Lib.hid I1
  have HZ := Lib.hid hz
  clear h1 h2 v1 I1 HXV hz k1 e1 hK1 hK2
  go_enter Try.func5, Try.ntmps5
  go_wp2_with fail
  have H0 : L0 w ((w.alloc (.cells #[.bool s1, .slice A1 n1 c1] 24)).alloc (.cells #[.bool s2, .slice A2 n2 c2] 24)) s1 A1 n1 c1 s2 A2 n2 c2 xs2 z :=
    ⟨HB.out, (Box.new II.out).next (below_alloc _ _), by simp, by go_simp, by go_simp, R2.out.below HB.out⟩
  have H := Lib.hid H0
  clear H0
  have HR := Lib.hid (R1.out.below HB.out)
  generalize (w.alloc (.cells #[.bool s1, .slice A1 n1 c1] 24)).alloc (.cells #[.bool s2, .slice A2 n2 c2] 24) = W at H HR ⊢
  refine (Power_any H.out.ba.is hn4.out HR.out HV1.out K HKr.out).mono ?_
  rintro e w1 ⟨t7, A7, n7, c7, k7, rfl, pn, pp, hb⟩
  replace H := Lib.hid ((H.out.next hb).next (below_alloc w1 (.cells #[.bool t7, .slice A7 n7 c7] 24)))
  have HRa := Lib.hid (R1.out.below H.out.below)
  have P0 := Lib.hid (show (w1.alloc (.cells #[.bool t7, .slice A7 n7 c7] 24)).cell? ⟨w1.heap.size, 0, none⟩ = some (.bool t7) by go_simp)
  have P1 := Lib.hid (show (w1.alloc (.cells #[.bool t7, .slice A7 n7 c7] 24)).cell? ⟨w1.heap.size, 1, none⟩ = some (.slice A7 n7 c7) by go_simp)
  have PL := Lib.hid (show w1.heap.size < (w1.alloc (.cells #[.bool t7, .slice A7 n7 c7] 24)).heap.size by simp)
  have PN := Lib.hid pn
  have PP := Lib.hid (fun h => (pp h).below (below_alloc w1 (.cells #[.bool t7, .slice A7 n7 c7] 24)))
  clear hb pn pp HR
  have a0 := H.out.ba.c0
  have a1 := H.out.ba.c1
  go_wp2_with fail
  clear a0 a1
  obtain ⟨g7, hg7⟩ : ∃ g7, g7 = w1.heap.size := ⟨_, rfl⟩
  rw [← hg7] at P0 P1 PL ⊢
  generalize w1.alloc (.cells #[.bool t7, .slice A7 n7 c7] 24) = W1 at H HRa P0 P1 PL PP ⊢
  clear hg7
  refine (Shift_is H.out.ba.is hn4.out K).mono ?_
  rintro e w2 ⟨t9, A9, n9, c9, k9, rfl, sn, hb⟩
  have Y := Lib.hid (hb.trans ((below_alloc w2 (.cells #[.bool t9, .slice A9 n9 c9] 24)).mono hb.size))
  have HL : LB w (w2.alloc (.cells #[.bool t9, .slice A9 n9 c9] 24)) s1 A1 n1 c1 s2 A2 n2 c2 xs2 z K g7 w2.heap.size t7 A7 n7 c7 k7 t9 A9 n9 c9 k9 :=
    have k := H.out.next Y.out
    ⟨k.below, k.ba, k.lb, k.b0, k.b1, k.rb, Nat.lt_of_lt_of_le PL.out Y.out.size, (Y.out.cell (p := ⟨g7, 0, none⟩) PL.out).trans P0.out, (Y.out.cell (p := ⟨g7, 1, none⟩) PL.out).trans P1.out, PN.out, fun h => (PP.out h).below Y.out, NBox.new sn⟩
  clear H
  have H := Lib.hid HL
  clear HL hb sn Y HRa P0 P1 PL PN PP
  have a0 := H.out.ba.c0
  have a1 := H.out.ba.c1
  have b0 := H.out.b0
  have b1 := H.out.b1
  go_wp2_with fail
  obtain ⟨g9, hg9⟩ : ∃ g9, g9 = w2.heap.size := ⟨_, rfl⟩
  rw [← hg9] at H ⊢
  clear a0 a1 b0 b1
  generalize w2.alloc (.cells #[.bool t9, .slice A9 n9 c9] 24) = W2 at H ⊢
  clear hg9
  have RA := fun (W : World) (hb : Below w.heap.size w W) => R1.out.below hb
  have HRA := Lib.hid RA
  clear RA
  by_cases v2 : validB s2 xs2 = true
  case neg =>
    have HV2 := Lib.hid (show validB s2 xs2 = false by simpa using v2)
    clear v2
    refine (Under_bad s1 s2 A1 A2 n1 c1 n2 c2 xs1 xs2 _ (HRA.out _ H.out.below) H.out.rb (by rw [HV2.out, Bool.and_false])).mono ?_
    rintro e yu ⟨rfl, hb⟩
    replace H := Lib.hid (H.out.next hb)
    clear hb
    have a0 := H.out.ba.c0
    have a1 := H.out.ba.c1
    go_wp2_with fail
    refine (refValid_c s1 A1 n1 c1 xs1 _ (HRA.out _ H.out.below)).mono ?_
    rw [HV1.out]
    rintro e yv ⟨rfl, hb⟩
    replace H := Lib.hid (H.out.next hb)
    clear hb a0 a1
    have a0 := H.out.ba.c0
    have a1 := H.out.ba.c1
    go_wp2_with fail
    replace H := Lib.hid (H.out.next (Below.refl _ _).drew)
    go_region_held3 (fun w' => w'.cell? ⟨w.heap.size, 0, none⟩ = some (.bool s1) ∧ w'.cell? ⟨w.heap.size, 1, none⟩ = some (.slice A1 n1 c1)) (first | exact ⟨a0, a1⟩)
      (first
        | (go_at_call 35
           refine (Bits_c H.out.ba.is hn4.out).mono ?_
           rintro e yb ⟨rfl, hb⟩
           replace H := Lib.hid (H.out.next hb)
           replace a0 := H.out.ba.c0
           replace a1 := H.out.ba.c1
           clear hb)
        | (go_at_call 36
           refine (refBits_c s1 A1 n1 c1 xs1 _ (HRA.out _ H.out.below) CX.out HN17.out).mono ?_
           rw [← HAbs.out]
           rintro e yc ⟨rfl, hb⟩
           replace H := Lib.hid (H.out.next hb)
           replace a0 := H.out.ba.c0
           replace a1 := H.out.ba.c1
           clear hb)
        | fail "no arm")
    clear a0 a1
    obtain ⟨bb, hbb⟩ : ∃ bb, bb = blen z.natAbs := ⟨_, rfl⟩
    rw [← hbb]
    clear hbb
    have tbb : ((bb : Int) != (bb : Int)) = false := by simp
    have b0 := H.out.b0
    have b1 := H.out.b1
    go_wp2_with fail
    refine (refValid_c s2 A2 n2 c2 xs2 _ H.out.rb).mono ?_
    rw [HV2.out]
    rintro e yw ⟨rfl, hb⟩
    replace H := Lib.hid (H.out.next hb)
    clear hb b0 b1 tbb
    by_cases hbig : 135168 < K
    · have hK0 : 0 ≤ K := by omega
      by_cases hz : z = 0
      · have HSK := Lib.hid (show shl z 135168 = shl z K by rw [hz, shl_zero, shl_zero])
        have HZn := Lib.hid (is_len_zero H.out.ba.is hz)
        clear hz
        have a0 := H.out.ba.c0
        have a1 := H.out.ba.c1
        go_wp2_with fail
        refine (zero_c s1 A1 n1 c1 _).mono ?_
        rintro e yz ⟨rfl, hb⟩
        replace H := Lib.hid (H.out.next hb)
        clear hb a0 a1
        rw [HZn.out, decide_eq_true rfl]
        clear HZn
        have a0 := H.out.ba.c0
        have a1 := H.out.ba.c1
        go_wp2_with fail
        replace H := Lib.hid (H.out.next (Below.refl _ _).drew)
        have s0 := H.out.sb.c0
        have s1c := H.out.sb.c1
        go_region_held3 (fun w' => w'.cell? ⟨w.heap.size, 0, none⟩ = some (.bool s1) ∧ w'.cell? ⟨w.heap.size, 1, none⟩ = some (.slice A1 n1 c1) ∧ w'.cell? ⟨g9, 0, none⟩ = some (.bool t9) ∧ w'.cell? ⟨g9, 1, none⟩ = some (.slice A9 n9 c9)) (first | exact ⟨a0, a1, s0, s1c⟩)
          (first
            | (go_at_call 38
               refine (refShift_c H.out.ba.is HN42.out 135168 (by omega)).mono ?_
               rintro e ys ⟨ts, Bs, ms, ds, rfl, hi, hb⟩
               rw [HSK.out] at hi
               replace H := Lib.hid (H.out.next hb)
               have IS := Lib.hid hi
               replace a0 := H.out.ba.c0
               replace a1 := H.out.ba.c1
               replace s0 := H.out.sb.c0
               replace s1c := H.out.sb.c1
               clear hi hb)
            | (go_at_call 19
               refine (is_c H.out.sb.num IS.out).mono ?_
               rintro e yt ⟨rfl, hb⟩
               replace H := Lib.hid (H.out.next hb)
               replace a0 := H.out.ba.c0
               replace a1 := H.out.ba.c1
               replace s0 := H.out.sb.c0
               replace s1c := H.out.sb.c1
               clear hb)
            | fail "no arm")
        clear a0 a1 s0 s1c
        have a0 := H.out.ba.c0
        have a1 := H.out.ba.c1
        go_wp2_with fail
        refine (refPower_k H.out.ba.is hn4.out K hK0 HKr.out).mono ?_
        rintro e yp ⟨tq, Bq, mq, dq, ok, rfl, io, il, hb⟩
        replace H := Lib.hid (H.out.next hb)
        have IO := Lib.hid io
        have IL := Lib.hid il
        clear hb io il a0 a1
        have I2 := Lib.hid (fun h => (IO.out h).below (below_alloc yp (.cells #[.bool tq, .slice Bq mq dq] 24)))
        replace H := Lib.hid (H.out.next (below_alloc yp (.cells #[.bool tq, .slice Bq mq dq] 24)))
        have y0 : (yp.alloc (.cells #[.bool tq, .slice Bq mq dq] 24)).cell? ⟨yp.heap.size, 0, none⟩ = some (.bool tq) := by go_simp
        have y1 : (yp.alloc (.cells #[.bool tq, .slice Bq mq dq] 24)).cell? ⟨yp.heap.size, 1, none⟩ = some (.slice Bq mq dq) := by go_simp
        clear IO
        rcases ok with _ | _
        · have hp := H.out.pp hK0
          obtain ⟨rfl, rfl, rfl, rfl, rfl⟩ := hp.2 (IL.out rfl)
          clear hp y0 y1
          have p0 := H.out.p0
          have p1 := H.out.p1
          go_wp2_with fail
          refine (no_c 4 _).mono ?_
          rintro e y8 ⟨rfl, hb⟩
          replace H := Lib.hid (H.out.next hb)
          clear hb p0 p1
          go_wp2_with fail
          refine (awake_c _).mono ?_
          rintro e y9 ⟨rfl, hb⟩
          replace H := Lib.hid (H.out.next hb)
          clear hb
          go_wp2
          go_ret
          exact ⟨rfl, H.out.below⟩
        · have p0 := H.out.p0
          have p1 := H.out.p1
          go_wp2_with fail
          refine (is_c (H.out.pp hK0) (I2.out (by simp))).mono ?_
          rintro e y8 ⟨rfl, hb⟩
          replace H := Lib.hid (H.out.next hb)
          clear hb p0 p1 y0 y1
          go_wp2_with fail
          refine (awake_c _).mono ?_
          rintro e y9 ⟨rfl, hb⟩
          replace H := Lib.hid (H.out.next hb)
          clear hb
          go_wp2
          go_ret
          exact ⟨rfl, H.out.below⟩
      · have HZn := Lib.hid (is_len_ne H.out.ba.is hz)
        have HLong := Lib.hid (shl_long hz hbig)
        clear hz
        have a0 := H.out.ba.c0
        have a1 := H.out.ba.c1
        go_wp2_with fail
        refine (zero_c s1 A1 n1 c1 _).mono ?_
        rintro e yz ⟨rfl, hb⟩
        replace H := Lib.hid (H.out.next hb)
        clear hb a0 a1
        rw [decide_eq_false HZn.out]
        obtain ⟨rfl, rfl, rfl, rfl, rfl⟩ := H.out.sb.num.2 HLong.out
        have s0 := H.out.sb.c0
        have s1c := H.out.sb.c1
        go_wp2_with fail
        refine (no_c 4 _).mono ?_
        rintro e yt ⟨rfl, hb⟩
        replace H := Lib.hid (H.out.next hb)
        clear hb s0 s1c
        have a0 := H.out.ba.c0
        have a1 := H.out.ba.c1
        go_wp2_with fail
        refine (refPower_k H.out.ba.is hn4.out K hK0 HKr.out).mono ?_
        rintro e yp ⟨tq, Bq, mq, dq, ok, rfl, io, il, hb⟩
        replace H := Lib.hid (H.out.next hb)
        have IO := Lib.hid io
        have IL := Lib.hid il
        clear hb io il a0 a1
        have I2 := Lib.hid (fun h => (IO.out h).below (below_alloc yp (.cells #[.bool tq, .slice Bq mq dq] 24)))
        replace H := Lib.hid (H.out.next (below_alloc yp (.cells #[.bool tq, .slice Bq mq dq] 24)))
        have y0 : (yp.alloc (.cells #[.bool tq, .slice Bq mq dq] 24)).cell? ⟨yp.heap.size, 0, none⟩ = some (.bool tq) := by go_simp
        have y1 : (yp.alloc (.cells #[.bool tq, .slice Bq mq dq] 24)).cell? ⟨yp.heap.size, 1, none⟩ = some (.slice Bq mq dq) := by go_simp
        clear IO
        rcases ok with _ | _
        · have hp := H.out.pp hK0
          obtain ⟨rfl, rfl, rfl, rfl, rfl⟩ := hp.2 (IL.out rfl)
          clear hp y0 y1
          have p0 := H.out.p0
          have p1 := H.out.p1
          go_wp2_with fail
          refine (no_c 4 _).mono ?_
          rintro e y8 ⟨rfl, hb⟩
          replace H := Lib.hid (H.out.next hb)
          clear hb p0 p1
          go_wp2_with fail
          refine (awake_c _).mono ?_
          rintro e y9 ⟨rfl, hb⟩
          replace H := Lib.hid (H.out.next hb)
          clear hb
          go_wp2
          go_ret
          exact ⟨rfl, H.out.below⟩
        · have p0 := H.out.p0
          have p1 := H.out.p1
          go_wp2_with fail
          refine (is_c (H.out.pp hK0) (I2.out (by simp))).mono ?_
          rintro e y8 ⟨rfl, hb⟩
          replace H := Lib.hid (H.out.next hb)
          clear hb p0 p1 y0 y1
          go_wp2_with fail
          refine (awake_c _).mono ?_
          rintro e y9 ⟨rfl, hb⟩
          replace H := Lib.hid (H.out.next hb)
          clear hb
          go_wp2
          go_ret
          exact ⟨rfl, H.out.below⟩
    · have HSK := Lib.hid (rfl : shl z K = shl z K)
      have HBN := Lib.hid (show K ≤ 135168 by omega)
      have a0 := H.out.ba.c0
      have a1 := H.out.ba.c1
      go_wp2_with fail
      replace H := Lib.hid (H.out.next (Below.refl _ _).drew)
      have s0 := H.out.sb.c0
      have s1c := H.out.sb.c1
      go_region_held3 (fun w' => w'.cell? ⟨w.heap.size, 0, none⟩ = some (.bool s1) ∧ w'.cell? ⟨w.heap.size, 1, none⟩ = some (.slice A1 n1 c1) ∧ w'.cell? ⟨g9, 0, none⟩ = some (.bool t9) ∧ w'.cell? ⟨g9, 1, none⟩ = some (.slice A9 n9 c9)) (first | exact ⟨a0, a1, s0, s1c⟩)
        (first
          | (go_at_call 38
             rw [if_neg (Int.not_lt.2 HBN.out)]
             refine (refShift_c H.out.ba.is HN42.out K (by omega)).mono ?_
             rintro e ys ⟨ts, Bs, ms, ds, rfl, hi, hb⟩
             skip
             replace H := Lib.hid (H.out.next hb)
             have IS := Lib.hid hi
             replace a0 := H.out.ba.c0
             replace a1 := H.out.ba.c1
             replace s0 := H.out.sb.c0
             replace s1c := H.out.sb.c1
             clear hi hb)
          | (go_at_call 19
             refine (is_c H.out.sb.num IS.out).mono ?_
             rintro e yt ⟨rfl, hb⟩
             replace H := Lib.hid (H.out.next hb)
             replace a0 := H.out.ba.c0
             replace a1 := H.out.ba.c1
             replace s0 := H.out.sb.c0
             replace s1c := H.out.sb.c1
             clear hb)
          | fail "no arm")
      clear a0 a1 s0 s1c
      by_cases hKn : K < 0
      · clear HSK
        obtain ⟨rfl, rfl, rfl, rfl, rfl⟩ := H.out.pn hKn
        have p0 := H.out.p0
        have p1 := H.out.p1
        go_wp2_with fail
        refine (no_c 2 _).mono ?_
        rintro e y8 ⟨rfl, hb⟩
        replace H := Lib.hid (H.out.next hb)
        clear hb p0 p1
        go_wp2_with fail
        refine (awake_c _).mono ?_
        rintro e y9 ⟨rfl, hb⟩
        replace H := Lib.hid (H.out.next hb)
        clear hb
        go_wp2
        go_ret
        exact ⟨rfl, H.out.below⟩
      · have hK0 : 0 ≤ K := by omega
        have a0 := H.out.ba.c0
        have a1 := H.out.ba.c1
        go_wp2_with fail
        refine (refPower_k H.out.ba.is hn4.out K hK0 HKr.out).mono ?_
        rintro e yp ⟨tq, Bq, mq, dq, ok, rfl, io, il, hb⟩
        replace H := Lib.hid (H.out.next hb)
        have IO := Lib.hid io
        have IL := Lib.hid il
        clear hb io il a0 a1
        have I2 := Lib.hid (fun h => (IO.out h).below (below_alloc yp (.cells #[.bool tq, .slice Bq mq dq] 24)))
        replace H := Lib.hid (H.out.next (below_alloc yp (.cells #[.bool tq, .slice Bq mq dq] 24)))
        have y0 : (yp.alloc (.cells #[.bool tq, .slice Bq mq dq] 24)).cell? ⟨yp.heap.size, 0, none⟩ = some (.bool tq) := by go_simp
        have y1 : (yp.alloc (.cells #[.bool tq, .slice Bq mq dq] 24)).cell? ⟨yp.heap.size, 1, none⟩ = some (.slice Bq mq dq) := by go_simp
        clear IO
        rcases ok with _ | _
        · have hp := H.out.pp hK0
          obtain ⟨rfl, rfl, rfl, rfl, rfl⟩ := hp.2 (IL.out rfl)
          clear hp y0 y1
          have p0 := H.out.p0
          have p1 := H.out.p1
          go_wp2_with fail
          refine (no_c 4 _).mono ?_
          rintro e y8 ⟨rfl, hb⟩
          replace H := Lib.hid (H.out.next hb)
          clear hb p0 p1
          go_wp2_with fail
          refine (awake_c _).mono ?_
          rintro e y9 ⟨rfl, hb⟩
          replace H := Lib.hid (H.out.next hb)
          clear hb
          go_wp2
          go_ret
          exact ⟨rfl, H.out.below⟩
        · have p0 := H.out.p0
          have p1 := H.out.p1
          go_wp2_with fail
          refine (is_c (H.out.pp hK0) (I2.out (by simp))).mono ?_
          rintro e y8 ⟨rfl, hb⟩
          replace H := Lib.hid (H.out.next hb)
          clear hb p0 p1 y0 y1
          go_wp2_with fail
          refine (awake_c _).mono ?_
          rintro e y9 ⟨rfl, hb⟩
          replace H := Lib.hid (H.out.next hb)
          clear hb
          go_wp2
          go_ret
          exact ⟨rfl, H.out.below⟩
  have HV2 := Lib.hid v2
  clear v2
  by_cases hsg : (s1 || s2) = true
  case pos =>
    refine (Under_neg s1 s2 A1 A2 n1 c1 n2 c2 xs1 xs2 _ (HRA.out _ H.out.below) H.out.rb (by rw [HV1.out, HV2.out]; rfl) hsg).mono ?_
    rintro e yu ⟨rfl, hb⟩
    replace H := Lib.hid (H.out.next hb)
    clear hb
    have a0 := H.out.ba.c0
    have a1 := H.out.ba.c1
    go_wp2_with fail
    refine (refValid_c s1 A1 n1 c1 xs1 _ (HRA.out _ H.out.below)).mono ?_
    rw [HV1.out]
    rintro e yv ⟨rfl, hb⟩
    replace H := Lib.hid (H.out.next hb)
    clear hb a0 a1
    have a0 := H.out.ba.c0
    have a1 := H.out.ba.c1
    go_wp2_with fail
    replace H := Lib.hid (H.out.next (Below.refl _ _).drew)
    go_region_held3 (fun w' => w'.cell? ⟨w.heap.size, 0, none⟩ = some (.bool s1) ∧ w'.cell? ⟨w.heap.size, 1, none⟩ = some (.slice A1 n1 c1)) (first | exact ⟨a0, a1⟩)
      (first
        | (go_at_call 35
           refine (Bits_c H.out.ba.is hn4.out).mono ?_
           rintro e yb ⟨rfl, hb⟩
           replace H := Lib.hid (H.out.next hb)
           replace a0 := H.out.ba.c0
           replace a1 := H.out.ba.c1
           clear hb)
        | (go_at_call 36
           refine (refBits_c s1 A1 n1 c1 xs1 _ (HRA.out _ H.out.below) CX.out HN17.out).mono ?_
           rw [← HAbs.out]
           rintro e yc ⟨rfl, hb⟩
           replace H := Lib.hid (H.out.next hb)
           replace a0 := H.out.ba.c0
           replace a1 := H.out.ba.c1
           clear hb)
        | fail "no arm")
    clear a0 a1
    obtain ⟨bb, hbb⟩ : ∃ bb, bb = blen z.natAbs := ⟨_, rfl⟩
    rw [← hbb]
    clear hbb
    have tbb : ((bb : Int) != (bb : Int)) = false := by simp
    have b0 := H.out.b0
    have b1 := H.out.b1
    go_wp2_with fail
    refine (refValid_c s2 A2 n2 c2 xs2 _ H.out.rb).mono ?_
    rw [HV2.out]
    rintro e yw ⟨rfl, hb⟩
    replace H := Lib.hid (H.out.next hb)
    clear hb b0 b1 tbb
    have a0 := H.out.ba.c0
    have b0 := H.out.b0
    rcases s1 with _ | _
    · obtain rfl : s2 = true := by simpa using hsg
      clear hsg
      by_cases hbig : 135168 < K
      · have hK0 : 0 ≤ K := by omega
        by_cases hz : z = 0
        · have HSK := Lib.hid (show shl z 135168 = shl z K by rw [hz, shl_zero, shl_zero])
          have HZn := Lib.hid (is_len_zero H.out.ba.is hz)
          clear hz
          have a0 := H.out.ba.c0
          have a1 := H.out.ba.c1
          go_wp2_with fail
          refine (zero_c false A1 n1 c1 _).mono ?_
          rintro e yz ⟨rfl, hb⟩
          replace H := Lib.hid (H.out.next hb)
          clear hb a0 a1
          rw [HZn.out, decide_eq_true rfl]
          clear HZn
          have a0 := H.out.ba.c0
          have a1 := H.out.ba.c1
          go_wp2_with fail
          replace H := Lib.hid (H.out.next (Below.refl _ _).drew)
          have s0 := H.out.sb.c0
          have s1c := H.out.sb.c1
          go_region_held3 (fun w' => w'.cell? ⟨w.heap.size, 0, none⟩ = some (.bool false) ∧ w'.cell? ⟨w.heap.size, 1, none⟩ = some (.slice A1 n1 c1) ∧ w'.cell? ⟨g9, 0, none⟩ = some (.bool t9) ∧ w'.cell? ⟨g9, 1, none⟩ = some (.slice A9 n9 c9)) (first | exact ⟨a0, a1, s0, s1c⟩)
            (first
              | (go_at_call 38
                 refine (refShift_c H.out.ba.is HN42.out 135168 (by omega)).mono ?_
                 rintro e ys ⟨ts, Bs, ms, ds, rfl, hi, hb⟩
                 rw [HSK.out] at hi
                 replace H := Lib.hid (H.out.next hb)
                 have IS := Lib.hid hi
                 replace a0 := H.out.ba.c0
                 replace a1 := H.out.ba.c1
                 replace s0 := H.out.sb.c0
                 replace s1c := H.out.sb.c1
                 clear hi hb)
              | (go_at_call 19
                 refine (is_c H.out.sb.num IS.out).mono ?_
                 rintro e yt ⟨rfl, hb⟩
                 replace H := Lib.hid (H.out.next hb)
                 replace a0 := H.out.ba.c0
                 replace a1 := H.out.ba.c1
                 replace s0 := H.out.sb.c0
                 replace s1c := H.out.sb.c1
                 clear hb)
              | fail "no arm")
          clear a0 a1 s0 s1c
          have a0 := H.out.ba.c0
          have a1 := H.out.ba.c1
          go_wp2_with fail
          refine (refPower_k H.out.ba.is hn4.out K hK0 HKr.out).mono ?_
          rintro e yp ⟨tq, Bq, mq, dq, ok, rfl, io, il, hb⟩
          replace H := Lib.hid (H.out.next hb)
          have IO := Lib.hid io
          have IL := Lib.hid il
          clear hb io il a0 a1
          have I2 := Lib.hid (fun h => (IO.out h).below (below_alloc yp (.cells #[.bool tq, .slice Bq mq dq] 24)))
          replace H := Lib.hid (H.out.next (below_alloc yp (.cells #[.bool tq, .slice Bq mq dq] 24)))
          have y0 : (yp.alloc (.cells #[.bool tq, .slice Bq mq dq] 24)).cell? ⟨yp.heap.size, 0, none⟩ = some (.bool tq) := by go_simp
          have y1 : (yp.alloc (.cells #[.bool tq, .slice Bq mq dq] 24)).cell? ⟨yp.heap.size, 1, none⟩ = some (.slice Bq mq dq) := by go_simp
          clear IO
          rcases ok with _ | _
          · have hp := H.out.pp hK0
            obtain ⟨rfl, rfl, rfl, rfl, rfl⟩ := hp.2 (IL.out rfl)
            clear hp y0 y1
            have p0 := H.out.p0
            have p1 := H.out.p1
            go_wp2_with fail
            refine (no_c 4 _).mono ?_
            rintro e y8 ⟨rfl, hb⟩
            replace H := Lib.hid (H.out.next hb)
            clear hb p0 p1
            go_wp2_with fail
            refine (awake_c _).mono ?_
            rintro e y9 ⟨rfl, hb⟩
            replace H := Lib.hid (H.out.next hb)
            clear hb
            go_wp2
            go_ret
            exact ⟨rfl, H.out.below⟩
          · have p0 := H.out.p0
            have p1 := H.out.p1
            go_wp2_with fail
            refine (is_c (H.out.pp hK0) (I2.out (by simp))).mono ?_
            rintro e y8 ⟨rfl, hb⟩
            replace H := Lib.hid (H.out.next hb)
            clear hb p0 p1 y0 y1
            go_wp2_with fail
            refine (awake_c _).mono ?_
            rintro e y9 ⟨rfl, hb⟩
            replace H := Lib.hid (H.out.next hb)
            clear hb
            go_wp2
            go_ret
            exact ⟨rfl, H.out.below⟩
        · have HZn := Lib.hid (is_len_ne H.out.ba.is hz)
          have HLong := Lib.hid (shl_long hz hbig)
          clear hz
          have a0 := H.out.ba.c0
          have a1 := H.out.ba.c1
          go_wp2_with fail
          refine (zero_c false A1 n1 c1 _).mono ?_
          rintro e yz ⟨rfl, hb⟩
          replace H := Lib.hid (H.out.next hb)
          clear hb a0 a1
          rw [decide_eq_false HZn.out]
          obtain ⟨rfl, rfl, rfl, rfl, rfl⟩ := H.out.sb.num.2 HLong.out
          have s0 := H.out.sb.c0
          have s1c := H.out.sb.c1
          go_wp2_with fail
          refine (no_c 4 _).mono ?_
          rintro e yt ⟨rfl, hb⟩
          replace H := Lib.hid (H.out.next hb)
          clear hb s0 s1c
          have a0 := H.out.ba.c0
          have a1 := H.out.ba.c1
          go_wp2_with fail
          refine (refPower_k H.out.ba.is hn4.out K hK0 HKr.out).mono ?_
          rintro e yp ⟨tq, Bq, mq, dq, ok, rfl, io, il, hb⟩
          replace H := Lib.hid (H.out.next hb)
          have IO := Lib.hid io
          have IL := Lib.hid il
          clear hb io il a0 a1
          have I2 := Lib.hid (fun h => (IO.out h).below (below_alloc yp (.cells #[.bool tq, .slice Bq mq dq] 24)))
          replace H := Lib.hid (H.out.next (below_alloc yp (.cells #[.bool tq, .slice Bq mq dq] 24)))
          have y0 : (yp.alloc (.cells #[.bool tq, .slice Bq mq dq] 24)).cell? ⟨yp.heap.size, 0, none⟩ = some (.bool tq) := by go_simp
          have y1 : (yp.alloc (.cells #[.bool tq, .slice Bq mq dq] 24)).cell? ⟨yp.heap.size, 1, none⟩ = some (.slice Bq mq dq) := by go_simp
          clear IO
          rcases ok with _ | _
          · have hp := H.out.pp hK0
            obtain ⟨rfl, rfl, rfl, rfl, rfl⟩ := hp.2 (IL.out rfl)
            clear hp y0 y1
            have p0 := H.out.p0
            have p1 := H.out.p1
            go_wp2_with fail
            refine (no_c 4 _).mono ?_
            rintro e y8 ⟨rfl, hb⟩
            replace H := Lib.hid (H.out.next hb)
            clear hb p0 p1
            go_wp2_with fail
            refine (awake_c _).mono ?_
            rintro e y9 ⟨rfl, hb⟩
            replace H := Lib.hid (H.out.next hb)
            clear hb
            go_wp2
            go_ret
            exact ⟨rfl, H.out.below⟩
          · have p0 := H.out.p0
            have p1 := H.out.p1
            go_wp2_with fail
            refine (is_c (H.out.pp hK0) (I2.out (by simp))).mono ?_
            rintro e y8 ⟨rfl, hb⟩
            replace H := Lib.hid (H.out.next hb)
            clear hb p0 p1 y0 y1
            go_wp2_with fail
            refine (awake_c _).mono ?_
            rintro e y9 ⟨rfl, hb⟩
            replace H := Lib.hid (H.out.next hb)
            clear hb
            go_wp2
            go_ret
            exact ⟨rfl, H.out.below⟩
      · have HSK := Lib.hid (rfl : shl z K = shl z K)
        have HBN := Lib.hid (show K ≤ 135168 by omega)
        have a0 := H.out.ba.c0
        have a1 := H.out.ba.c1
        go_wp2_with fail
        replace H := Lib.hid (H.out.next (Below.refl _ _).drew)
        have s0 := H.out.sb.c0
        have s1c := H.out.sb.c1
        go_region_held3 (fun w' => w'.cell? ⟨w.heap.size, 0, none⟩ = some (.bool false) ∧ w'.cell? ⟨w.heap.size, 1, none⟩ = some (.slice A1 n1 c1) ∧ w'.cell? ⟨g9, 0, none⟩ = some (.bool t9) ∧ w'.cell? ⟨g9, 1, none⟩ = some (.slice A9 n9 c9)) (first | exact ⟨a0, a1, s0, s1c⟩)
          (first
            | (go_at_call 38
               rw [if_neg (Int.not_lt.2 HBN.out)]
               refine (refShift_c H.out.ba.is HN42.out K (by omega)).mono ?_
               rintro e ys ⟨ts, Bs, ms, ds, rfl, hi, hb⟩
               skip
               replace H := Lib.hid (H.out.next hb)
               have IS := Lib.hid hi
               replace a0 := H.out.ba.c0
               replace a1 := H.out.ba.c1
               replace s0 := H.out.sb.c0
               replace s1c := H.out.sb.c1
               clear hi hb)
            | (go_at_call 19
               refine (is_c H.out.sb.num IS.out).mono ?_
               rintro e yt ⟨rfl, hb⟩
               replace H := Lib.hid (H.out.next hb)
               replace a0 := H.out.ba.c0
               replace a1 := H.out.ba.c1
               replace s0 := H.out.sb.c0
               replace s1c := H.out.sb.c1
               clear hb)
            | fail "no arm")
        clear a0 a1 s0 s1c
        by_cases hKn : K < 0
        · clear HSK
          obtain ⟨rfl, rfl, rfl, rfl, rfl⟩ := H.out.pn hKn
          have p0 := H.out.p0
          have p1 := H.out.p1
          go_wp2_with fail
          refine (no_c 2 _).mono ?_
          rintro e y8 ⟨rfl, hb⟩
          replace H := Lib.hid (H.out.next hb)
          clear hb p0 p1
          go_wp2_with fail
          refine (awake_c _).mono ?_
          rintro e y9 ⟨rfl, hb⟩
          replace H := Lib.hid (H.out.next hb)
          clear hb
          go_wp2
          go_ret
          exact ⟨rfl, H.out.below⟩
        · have hK0 : 0 ≤ K := by omega
          have a0 := H.out.ba.c0
          have a1 := H.out.ba.c1
          go_wp2_with fail
          refine (refPower_k H.out.ba.is hn4.out K hK0 HKr.out).mono ?_
          rintro e yp ⟨tq, Bq, mq, dq, ok, rfl, io, il, hb⟩
          replace H := Lib.hid (H.out.next hb)
          have IO := Lib.hid io
          have IL := Lib.hid il
          clear hb io il a0 a1
          have I2 := Lib.hid (fun h => (IO.out h).below (below_alloc yp (.cells #[.bool tq, .slice Bq mq dq] 24)))
          replace H := Lib.hid (H.out.next (below_alloc yp (.cells #[.bool tq, .slice Bq mq dq] 24)))
          have y0 : (yp.alloc (.cells #[.bool tq, .slice Bq mq dq] 24)).cell? ⟨yp.heap.size, 0, none⟩ = some (.bool tq) := by go_simp
          have y1 : (yp.alloc (.cells #[.bool tq, .slice Bq mq dq] 24)).cell? ⟨yp.heap.size, 1, none⟩ = some (.slice Bq mq dq) := by go_simp
          clear IO
          rcases ok with _ | _
          · have hp := H.out.pp hK0
            obtain ⟨rfl, rfl, rfl, rfl, rfl⟩ := hp.2 (IL.out rfl)
            clear hp y0 y1
            have p0 := H.out.p0
            have p1 := H.out.p1
            go_wp2_with fail
            refine (no_c 4 _).mono ?_
            rintro e y8 ⟨rfl, hb⟩
            replace H := Lib.hid (H.out.next hb)
            clear hb p0 p1
            go_wp2_with fail
            refine (awake_c _).mono ?_
            rintro e y9 ⟨rfl, hb⟩
            replace H := Lib.hid (H.out.next hb)
            clear hb
            go_wp2
            go_ret
            exact ⟨rfl, H.out.below⟩
          · have p0 := H.out.p0
            have p1 := H.out.p1
            go_wp2_with fail
            refine (is_c (H.out.pp hK0) (I2.out (by simp))).mono ?_
            rintro e y8 ⟨rfl, hb⟩
            replace H := Lib.hid (H.out.next hb)
            clear hb p0 p1 y0 y1
            go_wp2_with fail
            refine (awake_c _).mono ?_
            rintro e y9 ⟨rfl, hb⟩
            replace H := Lib.hid (H.out.next hb)
            clear hb
            go_wp2
            go_ret
            exact ⟨rfl, H.out.below⟩
    · clear hsg
      by_cases hbig : 135168 < K
      · have hK0 : 0 ≤ K := by omega
        by_cases hz : z = 0
        · have HSK := Lib.hid (show shl z 135168 = shl z K by rw [hz, shl_zero, shl_zero])
          have HZn := Lib.hid (is_len_zero H.out.ba.is hz)
          clear hz
          have a0 := H.out.ba.c0
          have a1 := H.out.ba.c1
          go_wp2_with fail
          refine (zero_c true A1 n1 c1 _).mono ?_
          rintro e yz ⟨rfl, hb⟩
          replace H := Lib.hid (H.out.next hb)
          clear hb a0 a1
          rw [HZn.out, decide_eq_true rfl]
          clear HZn
          have a0 := H.out.ba.c0
          have a1 := H.out.ba.c1
          go_wp2_with fail
          replace H := Lib.hid (H.out.next (Below.refl _ _).drew)
          have s0 := H.out.sb.c0
          have s1c := H.out.sb.c1
          go_region_held3 (fun w' => w'.cell? ⟨w.heap.size, 0, none⟩ = some (.bool true) ∧ w'.cell? ⟨w.heap.size, 1, none⟩ = some (.slice A1 n1 c1) ∧ w'.cell? ⟨g9, 0, none⟩ = some (.bool t9) ∧ w'.cell? ⟨g9, 1, none⟩ = some (.slice A9 n9 c9)) (first | exact ⟨a0, a1, s0, s1c⟩)
            (first
              | (go_at_call 38
                 refine (refShift_c H.out.ba.is HN42.out 135168 (by omega)).mono ?_
                 rintro e ys ⟨ts, Bs, ms, ds, rfl, hi, hb⟩
                 rw [HSK.out] at hi
                 replace H := Lib.hid (H.out.next hb)
                 have IS := Lib.hid hi
                 replace a0 := H.out.ba.c0
                 replace a1 := H.out.ba.c1
                 replace s0 := H.out.sb.c0
                 replace s1c := H.out.sb.c1
                 clear hi hb)
              | (go_at_call 19
                 refine (is_c H.out.sb.num IS.out).mono ?_
                 rintro e yt ⟨rfl, hb⟩
                 replace H := Lib.hid (H.out.next hb)
                 replace a0 := H.out.ba.c0
                 replace a1 := H.out.ba.c1
                 replace s0 := H.out.sb.c0
                 replace s1c := H.out.sb.c1
                 clear hb)
              | fail "no arm")
          clear a0 a1 s0 s1c
          have a0 := H.out.ba.c0
          have a1 := H.out.ba.c1
          go_wp2_with fail
          refine (refPower_k H.out.ba.is hn4.out K hK0 HKr.out).mono ?_
          rintro e yp ⟨tq, Bq, mq, dq, ok, rfl, io, il, hb⟩
          replace H := Lib.hid (H.out.next hb)
          have IO := Lib.hid io
          have IL := Lib.hid il
          clear hb io il a0 a1
          have I2 := Lib.hid (fun h => (IO.out h).below (below_alloc yp (.cells #[.bool tq, .slice Bq mq dq] 24)))
          replace H := Lib.hid (H.out.next (below_alloc yp (.cells #[.bool tq, .slice Bq mq dq] 24)))
          have y0 : (yp.alloc (.cells #[.bool tq, .slice Bq mq dq] 24)).cell? ⟨yp.heap.size, 0, none⟩ = some (.bool tq) := by go_simp
          have y1 : (yp.alloc (.cells #[.bool tq, .slice Bq mq dq] 24)).cell? ⟨yp.heap.size, 1, none⟩ = some (.slice Bq mq dq) := by go_simp
          clear IO
          rcases ok with _ | _
          · have hp := H.out.pp hK0
            obtain ⟨rfl, rfl, rfl, rfl, rfl⟩ := hp.2 (IL.out rfl)
            clear hp y0 y1
            have p0 := H.out.p0
            have p1 := H.out.p1
            go_wp2_with fail
            refine (no_c 4 _).mono ?_
            rintro e y8 ⟨rfl, hb⟩
            replace H := Lib.hid (H.out.next hb)
            clear hb p0 p1
            go_wp2_with fail
            refine (awake_c _).mono ?_
            rintro e y9 ⟨rfl, hb⟩
            replace H := Lib.hid (H.out.next hb)
            clear hb
            go_wp2
            go_ret
            exact ⟨rfl, H.out.below⟩
          · have p0 := H.out.p0
            have p1 := H.out.p1
            go_wp2_with fail
            refine (is_c (H.out.pp hK0) (I2.out (by simp))).mono ?_
            rintro e y8 ⟨rfl, hb⟩
            replace H := Lib.hid (H.out.next hb)
            clear hb p0 p1 y0 y1
            go_wp2_with fail
            refine (awake_c _).mono ?_
            rintro e y9 ⟨rfl, hb⟩
            replace H := Lib.hid (H.out.next hb)
            clear hb
            go_wp2
            go_ret
            exact ⟨rfl, H.out.below⟩
        · have HZn := Lib.hid (is_len_ne H.out.ba.is hz)
          have HLong := Lib.hid (shl_long hz hbig)
          clear hz
          have a0 := H.out.ba.c0
          have a1 := H.out.ba.c1
          go_wp2_with fail
          refine (zero_c true A1 n1 c1 _).mono ?_
          rintro e yz ⟨rfl, hb⟩
          replace H := Lib.hid (H.out.next hb)
          clear hb a0 a1
          rw [decide_eq_false HZn.out]
          obtain ⟨rfl, rfl, rfl, rfl, rfl⟩ := H.out.sb.num.2 HLong.out
          have s0 := H.out.sb.c0
          have s1c := H.out.sb.c1
          go_wp2_with fail
          refine (no_c 4 _).mono ?_
          rintro e yt ⟨rfl, hb⟩
          replace H := Lib.hid (H.out.next hb)
          clear hb s0 s1c
          have a0 := H.out.ba.c0
          have a1 := H.out.ba.c1
          go_wp2_with fail
          refine (refPower_k H.out.ba.is hn4.out K hK0 HKr.out).mono ?_
          rintro e yp ⟨tq, Bq, mq, dq, ok, rfl, io, il, hb⟩
          replace H := Lib.hid (H.out.next hb)
          have IO := Lib.hid io
          have IL := Lib.hid il
          clear hb io il a0 a1
          have I2 := Lib.hid (fun h => (IO.out h).below (below_alloc yp (.cells #[.bool tq, .slice Bq mq dq] 24)))
          replace H := Lib.hid (H.out.next (below_alloc yp (.cells #[.bool tq, .slice Bq mq dq] 24)))
          have y0 : (yp.alloc (.cells #[.bool tq, .slice Bq mq dq] 24)).cell? ⟨yp.heap.size, 0, none⟩ = some (.bool tq) := by go_simp
          have y1 : (yp.alloc (.cells #[.bool tq, .slice Bq mq dq] 24)).cell? ⟨yp.heap.size, 1, none⟩ = some (.slice Bq mq dq) := by go_simp
          clear IO
          rcases ok with _ | _
          · have hp := H.out.pp hK0
            obtain ⟨rfl, rfl, rfl, rfl, rfl⟩ := hp.2 (IL.out rfl)
            clear hp y0 y1
            have p0 := H.out.p0
            have p1 := H.out.p1
            go_wp2_with fail
            refine (no_c 4 _).mono ?_
            rintro e y8 ⟨rfl, hb⟩
            replace H := Lib.hid (H.out.next hb)
            clear hb p0 p1
            go_wp2_with fail
            refine (awake_c _).mono ?_
            rintro e y9 ⟨rfl, hb⟩
            replace H := Lib.hid (H.out.next hb)
            clear hb
            go_wp2
            go_ret
            exact ⟨rfl, H.out.below⟩
          · have p0 := H.out.p0
            have p1 := H.out.p1
            go_wp2_with fail
            refine (is_c (H.out.pp hK0) (I2.out (by simp))).mono ?_
            rintro e y8 ⟨rfl, hb⟩
            replace H := Lib.hid (H.out.next hb)
            clear hb p0 p1 y0 y1
            go_wp2_with fail
            refine (awake_c _).mono ?_
            rintro e y9 ⟨rfl, hb⟩
            replace H := Lib.hid (H.out.next hb)
            clear hb
            go_wp2
            go_ret
            exact ⟨rfl, H.out.below⟩
      · have HSK := Lib.hid (rfl : shl z K = shl z K)
        have HBN := Lib.hid (show K ≤ 135168 by omega)
        have a0 := H.out.ba.c0
        have a1 := H.out.ba.c1
        go_wp2_with fail
        replace H := Lib.hid (H.out.next (Below.refl _ _).drew)
        have s0 := H.out.sb.c0
        have s1c := H.out.sb.c1
        go_region_held3 (fun w' => w'.cell? ⟨w.heap.size, 0, none⟩ = some (.bool true) ∧ w'.cell? ⟨w.heap.size, 1, none⟩ = some (.slice A1 n1 c1) ∧ w'.cell? ⟨g9, 0, none⟩ = some (.bool t9) ∧ w'.cell? ⟨g9, 1, none⟩ = some (.slice A9 n9 c9)) (first | exact ⟨a0, a1, s0, s1c⟩)
          (first
            | (go_at_call 38
               rw [if_neg (Int.not_lt.2 HBN.out)]
               refine (refShift_c H.out.ba.is HN42.out K (by omega)).mono ?_
               rintro e ys ⟨ts, Bs, ms, ds, rfl, hi, hb⟩
               skip
               replace H := Lib.hid (H.out.next hb)
               have IS := Lib.hid hi
               replace a0 := H.out.ba.c0
               replace a1 := H.out.ba.c1
               replace s0 := H.out.sb.c0
               replace s1c := H.out.sb.c1
               clear hi hb)
            | (go_at_call 19
               refine (is_c H.out.sb.num IS.out).mono ?_
               rintro e yt ⟨rfl, hb⟩
               replace H := Lib.hid (H.out.next hb)
               replace a0 := H.out.ba.c0
               replace a1 := H.out.ba.c1
               replace s0 := H.out.sb.c0
               replace s1c := H.out.sb.c1
               clear hb)
            | fail "no arm")
        clear a0 a1 s0 s1c
        by_cases hKn : K < 0
        · clear HSK
          obtain ⟨rfl, rfl, rfl, rfl, rfl⟩ := H.out.pn hKn
          have p0 := H.out.p0
          have p1 := H.out.p1
          go_wp2_with fail
          refine (no_c 2 _).mono ?_
          rintro e y8 ⟨rfl, hb⟩
          replace H := Lib.hid (H.out.next hb)
          clear hb p0 p1
          go_wp2_with fail
          refine (awake_c _).mono ?_
          rintro e y9 ⟨rfl, hb⟩
          replace H := Lib.hid (H.out.next hb)
          clear hb
          go_wp2
          go_ret
          exact ⟨rfl, H.out.below⟩
        · have hK0 : 0 ≤ K := by omega
          have a0 := H.out.ba.c0
          have a1 := H.out.ba.c1
          go_wp2_with fail
          refine (refPower_k H.out.ba.is hn4.out K hK0 HKr.out).mono ?_
          rintro e yp ⟨tq, Bq, mq, dq, ok, rfl, io, il, hb⟩
          replace H := Lib.hid (H.out.next hb)
          have IO := Lib.hid io
          have IL := Lib.hid il
          clear hb io il a0 a1
          have I2 := Lib.hid (fun h => (IO.out h).below (below_alloc yp (.cells #[.bool tq, .slice Bq mq dq] 24)))
          replace H := Lib.hid (H.out.next (below_alloc yp (.cells #[.bool tq, .slice Bq mq dq] 24)))
          have y0 : (yp.alloc (.cells #[.bool tq, .slice Bq mq dq] 24)).cell? ⟨yp.heap.size, 0, none⟩ = some (.bool tq) := by go_simp
          have y1 : (yp.alloc (.cells #[.bool tq, .slice Bq mq dq] 24)).cell? ⟨yp.heap.size, 1, none⟩ = some (.slice Bq mq dq) := by go_simp
          clear IO
          rcases ok with _ | _
          · have hp := H.out.pp hK0
            obtain ⟨rfl, rfl, rfl, rfl, rfl⟩ := hp.2 (IL.out rfl)
            clear hp y0 y1
            have p0 := H.out.p0
            have p1 := H.out.p1
            go_wp2_with fail
            refine (no_c 4 _).mono ?_
            rintro e y8 ⟨rfl, hb⟩
            replace H := Lib.hid (H.out.next hb)
            clear hb p0 p1
            go_wp2_with fail
            refine (awake_c _).mono ?_
            rintro e y9 ⟨rfl, hb⟩
            replace H := Lib.hid (H.out.next hb)
            clear hb
            go_wp2
            go_ret
            exact ⟨rfl, H.out.below⟩
          · have p0 := H.out.p0
            have p1 := H.out.p1
            go_wp2_with fail
            refine (is_c (H.out.pp hK0) (I2.out (by simp))).mono ?_
            rintro e y8 ⟨rfl, hb⟩
            replace H := Lib.hid (H.out.next hb)
            clear hb p0 p1 y0 y1
            go_wp2_with fail
            refine (awake_c _).mono ?_
            rintro e y9 ⟨rfl, hb⟩
            replace H := Lib.hid (H.out.next hb)
            clear hb
            go_wp2
            go_ret
            exact ⟨rfl, H.out.below⟩
  obtain ⟨rfl, rfl⟩ : s1 = false ∧ s2 = false := by simpa using hsg
  clear hsg
  case neg =>
    refine (Under_ok A1 A2 n1 c1 n2 c2 xs1 xs2 _ (HRA.out _ H.out.below) H.out.rb HV1.out HV2.out).mono ?_
    rintro e yu ⟨rfl, hb⟩
    replace H := Lib.hid (H.out.next hb)
    clear hb
    obtain ⟨u, hu⟩ : ∃ u, u = decide (val xs1 &&& val xs2 = val xs1) := ⟨_, rfl⟩
    rw [← hu]
    have HU := Lib.hid hu
    clear hu
    have a0 := H.out.ba.c0
    have a1 := H.out.ba.c1
    go_wp2_with fail
    refine (refValid_c false A1 n1 c1 xs1 _ (HRA.out _ H.out.below)).mono ?_
    rw [HV1.out]
    rintro e yv ⟨rfl, hb⟩
    replace H := Lib.hid (H.out.next hb)
    clear hb a0 a1
    have a0 := H.out.ba.c0
    have a1 := H.out.ba.c1
    go_wp2_with fail
    replace H := Lib.hid (H.out.next (Below.refl _ _).drew)
    go_region_held3 (fun w' => w'.cell? ⟨w.heap.size, 0, none⟩ = some (.bool false) ∧ w'.cell? ⟨w.heap.size, 1, none⟩ = some (.slice A1 n1 c1)) (first | exact ⟨a0, a1⟩)
      (first
        | (go_at_call 35
           refine (Bits_c H.out.ba.is hn4.out).mono ?_
           rintro e yb ⟨rfl, hb⟩
           replace H := Lib.hid (H.out.next hb)
           replace a0 := H.out.ba.c0
           replace a1 := H.out.ba.c1
           clear hb)
        | (go_at_call 36
           refine (refBits_c false A1 n1 c1 xs1 _ (HRA.out _ H.out.below) CX.out HN17.out).mono ?_
           rw [← HAbs.out]
           rintro e yc ⟨rfl, hb⟩
           replace H := Lib.hid (H.out.next hb)
           replace a0 := H.out.ba.c0
           replace a1 := H.out.ba.c1
           clear hb)
        | fail "no arm")
    clear a0 a1
    obtain ⟨bb, hbb⟩ : ∃ bb, bb = blen z.natAbs := ⟨_, rfl⟩
    rw [← hbb]
    clear hbb
    have tbb : ((bb : Int) != (bb : Int)) = false := by simp
    have b0 := H.out.b0
    have b1 := H.out.b1
    go_wp2_with fail
    refine (refValid_c false A2 n2 c2 xs2 _ H.out.rb).mono ?_
    rw [HV2.out]
    rintro e yw ⟨rfl, hb⟩
    replace H := Lib.hid (H.out.next hb)
    clear hb b0 b1 tbb
    have a0 := H.out.ba.c0
    have a1 := H.out.ba.c1
    have b0 := H.out.b0
    have b1 := H.out.b1
    go_wp2_with fail
    refine (refUnder_c false false A1 A2 n1 c1 n2 c2 xs1 xs2 _ (HRA.out _ H.out.below) H.out.rb HN17.out HM17.out).mono ?_
    rw [← HU.out]
    rintro e yx ⟨rfl, hb⟩
    replace H := Lib.hid (H.out.next hb)
    clear hb a0 a1 b0 b1 HU
    have tuu : (u != u) = false := by simp
    by_cases hbig : 135168 < K
    · have hK0 : 0 ≤ K := by omega
      by_cases hz : z = 0
      · have HSK := Lib.hid (show shl z 135168 = shl z K by rw [hz, shl_zero, shl_zero])
        have HZn := Lib.hid (is_len_zero H.out.ba.is hz)
        clear hz
        have a0 := H.out.ba.c0
        have a1 := H.out.ba.c1
        go_wp2_with fail
        refine (zero_c false A1 n1 c1 _).mono ?_
        rintro e yz ⟨rfl, hb⟩
        replace H := Lib.hid (H.out.next hb)
        clear hb a0 a1
        rw [HZn.out, decide_eq_true rfl]
        clear HZn
        have a0 := H.out.ba.c0
        have a1 := H.out.ba.c1
        go_wp2_with fail
        replace H := Lib.hid (H.out.next (Below.refl _ _).drew)
        have s0 := H.out.sb.c0
        have s1c := H.out.sb.c1
        go_region_held3 (fun w' => w'.cell? ⟨w.heap.size, 0, none⟩ = some (.bool false) ∧ w'.cell? ⟨w.heap.size, 1, none⟩ = some (.slice A1 n1 c1) ∧ w'.cell? ⟨g9, 0, none⟩ = some (.bool t9) ∧ w'.cell? ⟨g9, 1, none⟩ = some (.slice A9 n9 c9)) (first | exact ⟨a0, a1, s0, s1c⟩)
          (first
            | (go_at_call 38
               refine (refShift_c H.out.ba.is HN42.out 135168 (by omega)).mono ?_
               rintro e ys ⟨ts, Bs, ms, ds, rfl, hi, hb⟩
               rw [HSK.out] at hi
               replace H := Lib.hid (H.out.next hb)
               have IS := Lib.hid hi
               replace a0 := H.out.ba.c0
               replace a1 := H.out.ba.c1
               replace s0 := H.out.sb.c0
               replace s1c := H.out.sb.c1
               clear hi hb)
            | (go_at_call 19
               refine (is_c H.out.sb.num IS.out).mono ?_
               rintro e yt ⟨rfl, hb⟩
               replace H := Lib.hid (H.out.next hb)
               replace a0 := H.out.ba.c0
               replace a1 := H.out.ba.c1
               replace s0 := H.out.sb.c0
               replace s1c := H.out.sb.c1
               clear hb)
            | fail "no arm")
        clear a0 a1 s0 s1c
        have a0 := H.out.ba.c0
        have a1 := H.out.ba.c1
        go_wp2_with fail
        refine (refPower_k H.out.ba.is hn4.out K hK0 HKr.out).mono ?_
        rintro e yp ⟨tq, Bq, mq, dq, ok, rfl, io, il, hb⟩
        replace H := Lib.hid (H.out.next hb)
        have IO := Lib.hid io
        have IL := Lib.hid il
        clear hb io il a0 a1
        have I2 := Lib.hid (fun h => (IO.out h).below (below_alloc yp (.cells #[.bool tq, .slice Bq mq dq] 24)))
        replace H := Lib.hid (H.out.next (below_alloc yp (.cells #[.bool tq, .slice Bq mq dq] 24)))
        have y0 : (yp.alloc (.cells #[.bool tq, .slice Bq mq dq] 24)).cell? ⟨yp.heap.size, 0, none⟩ = some (.bool tq) := by go_simp
        have y1 : (yp.alloc (.cells #[.bool tq, .slice Bq mq dq] 24)).cell? ⟨yp.heap.size, 1, none⟩ = some (.slice Bq mq dq) := by go_simp
        clear IO
        rcases ok with _ | _
        · have hp := H.out.pp hK0
          obtain ⟨rfl, rfl, rfl, rfl, rfl⟩ := hp.2 (IL.out rfl)
          clear hp y0 y1
          have p0 := H.out.p0
          have p1 := H.out.p1
          go_wp2_with fail
          refine (no_c 4 _).mono ?_
          rintro e y8 ⟨rfl, hb⟩
          replace H := Lib.hid (H.out.next hb)
          clear hb p0 p1
          go_wp2_with fail
          refine (awake_c _).mono ?_
          rintro e y9 ⟨rfl, hb⟩
          replace H := Lib.hid (H.out.next hb)
          clear hb
          go_wp2
          go_ret
          exact ⟨rfl, H.out.below⟩
        · have p0 := H.out.p0
          have p1 := H.out.p1
          go_wp2_with fail
          refine (is_c (H.out.pp hK0) (I2.out (by simp))).mono ?_
          rintro e y8 ⟨rfl, hb⟩
          replace H := Lib.hid (H.out.next hb)
          clear hb p0 p1 y0 y1
          go_wp2_with fail
          refine (awake_c _).mono ?_
          rintro e y9 ⟨rfl, hb⟩
          replace H := Lib.hid (H.out.next hb)
          clear hb
          go_wp2
          go_ret
          exact ⟨rfl, H.out.below⟩
      · have HZn := Lib.hid (is_len_ne H.out.ba.is hz)
        have HLong := Lib.hid (shl_long hz hbig)
        clear hz
        have a0 := H.out.ba.c0
        have a1 := H.out.ba.c1
        go_wp2_with fail
        refine (zero_c false A1 n1 c1 _).mono ?_
        rintro e yz ⟨rfl, hb⟩
        replace H := Lib.hid (H.out.next hb)
        clear hb a0 a1
        rw [decide_eq_false HZn.out]
        obtain ⟨rfl, rfl, rfl, rfl, rfl⟩ := H.out.sb.num.2 HLong.out
        have s0 := H.out.sb.c0
        have s1c := H.out.sb.c1
        go_wp2_with fail
        refine (no_c 4 _).mono ?_
        rintro e yt ⟨rfl, hb⟩
        replace H := Lib.hid (H.out.next hb)
        clear hb s0 s1c
        have a0 := H.out.ba.c0
        have a1 := H.out.ba.c1
        go_wp2_with fail
        refine (refPower_k H.out.ba.is hn4.out K hK0 HKr.out).mono ?_
        rintro e yp ⟨tq, Bq, mq, dq, ok, rfl, io, il, hb⟩
        replace H := Lib.hid (H.out.next hb)
        have IO := Lib.hid io
        have IL := Lib.hid il
        clear hb io il a0 a1
        have I2 := Lib.hid (fun h => (IO.out h).below (below_alloc yp (.cells #[.bool tq, .slice Bq mq dq] 24)))
        replace H := Lib.hid (H.out.next (below_alloc yp (.cells #[.bool tq, .slice Bq mq dq] 24)))
        have y0 : (yp.alloc (.cells #[.bool tq, .slice Bq mq dq] 24)).cell? ⟨yp.heap.size, 0, none⟩ = some (.bool tq) := by go_simp
        have y1 : (yp.alloc (.cells #[.bool tq, .slice Bq mq dq] 24)).cell? ⟨yp.heap.size, 1, none⟩ = some (.slice Bq mq dq) := by go_simp
        clear IO
        rcases ok with _ | _
        · have hp := H.out.pp hK0
          obtain ⟨rfl, rfl, rfl, rfl, rfl⟩ := hp.2 (IL.out rfl)
          clear hp y0 y1
          have p0 := H.out.p0
          have p1 := H.out.p1
          go_wp2_with fail
          refine (no_c 4 _).mono ?_
          rintro e y8 ⟨rfl, hb⟩
          replace H := Lib.hid (H.out.next hb)
          clear hb p0 p1
          go_wp2_with fail
          refine (awake_c _).mono ?_
          rintro e y9 ⟨rfl, hb⟩
          replace H := Lib.hid (H.out.next hb)
          clear hb
          go_wp2
          go_ret
          exact ⟨rfl, H.out.below⟩
        · have p0 := H.out.p0
          have p1 := H.out.p1
          go_wp2_with fail
          refine (is_c (H.out.pp hK0) (I2.out (by simp))).mono ?_
          rintro e y8 ⟨rfl, hb⟩
          replace H := Lib.hid (H.out.next hb)
          clear hb p0 p1 y0 y1
          go_wp2_with fail
          refine (awake_c _).mono ?_
          rintro e y9 ⟨rfl, hb⟩
          replace H := Lib.hid (H.out.next hb)
          clear hb
          go_wp2
          go_ret
          exact ⟨rfl, H.out.below⟩
    · have HSK := Lib.hid (rfl : shl z K = shl z K)
      have HBN := Lib.hid (show K ≤ 135168 by omega)
      have a0 := H.out.ba.c0
      have a1 := H.out.ba.c1
      go_wp2_with fail
      replace H := Lib.hid (H.out.next (Below.refl _ _).drew)
      have s0 := H.out.sb.c0
      have s1c := H.out.sb.c1
      go_region_held3 (fun w' => w'.cell? ⟨w.heap.size, 0, none⟩ = some (.bool false) ∧ w'.cell? ⟨w.heap.size, 1, none⟩ = some (.slice A1 n1 c1) ∧ w'.cell? ⟨g9, 0, none⟩ = some (.bool t9) ∧ w'.cell? ⟨g9, 1, none⟩ = some (.slice A9 n9 c9)) (first | exact ⟨a0, a1, s0, s1c⟩)
        (first
          | (go_at_call 38
             rw [if_neg (Int.not_lt.2 HBN.out)]
             refine (refShift_c H.out.ba.is HN42.out K (by omega)).mono ?_
             rintro e ys ⟨ts, Bs, ms, ds, rfl, hi, hb⟩
             skip
             replace H := Lib.hid (H.out.next hb)
             have IS := Lib.hid hi
             replace a0 := H.out.ba.c0
             replace a1 := H.out.ba.c1
             replace s0 := H.out.sb.c0
             replace s1c := H.out.sb.c1
             clear hi hb)
          | (go_at_call 19
             refine (is_c H.out.sb.num IS.out).mono ?_
             rintro e yt ⟨rfl, hb⟩
             replace H := Lib.hid (H.out.next hb)
             replace a0 := H.out.ba.c0
             replace a1 := H.out.ba.c1
             replace s0 := H.out.sb.c0
             replace s1c := H.out.sb.c1
             clear hb)
          | fail "no arm")
      clear a0 a1 s0 s1c
      by_cases hKn : K < 0
      · clear HSK
        obtain ⟨rfl, rfl, rfl, rfl, rfl⟩ := H.out.pn hKn
        have p0 := H.out.p0
        have p1 := H.out.p1
        go_wp2_with fail
        refine (no_c 2 _).mono ?_
        rintro e y8 ⟨rfl, hb⟩
        replace H := Lib.hid (H.out.next hb)
        clear hb p0 p1
        go_wp2_with fail
        refine (awake_c _).mono ?_
        rintro e y9 ⟨rfl, hb⟩
        replace H := Lib.hid (H.out.next hb)
        clear hb
        go_wp2
        go_ret
        exact ⟨rfl, H.out.below⟩
      · have hK0 : 0 ≤ K := by omega
        have a0 := H.out.ba.c0
        have a1 := H.out.ba.c1
        go_wp2_with fail
        refine (refPower_k H.out.ba.is hn4.out K hK0 HKr.out).mono ?_
        rintro e yp ⟨tq, Bq, mq, dq, ok, rfl, io, il, hb⟩
        replace H := Lib.hid (H.out.next hb)
        have IO := Lib.hid io
        have IL := Lib.hid il
        clear hb io il a0 a1
        have I2 := Lib.hid (fun h => (IO.out h).below (below_alloc yp (.cells #[.bool tq, .slice Bq mq dq] 24)))
        replace H := Lib.hid (H.out.next (below_alloc yp (.cells #[.bool tq, .slice Bq mq dq] 24)))
        have y0 : (yp.alloc (.cells #[.bool tq, .slice Bq mq dq] 24)).cell? ⟨yp.heap.size, 0, none⟩ = some (.bool tq) := by go_simp
        have y1 : (yp.alloc (.cells #[.bool tq, .slice Bq mq dq] 24)).cell? ⟨yp.heap.size, 1, none⟩ = some (.slice Bq mq dq) := by go_simp
        clear IO
        rcases ok with _ | _
        · have hp := H.out.pp hK0
          obtain ⟨rfl, rfl, rfl, rfl, rfl⟩ := hp.2 (IL.out rfl)
          clear hp y0 y1
          have p0 := H.out.p0
          have p1 := H.out.p1
          go_wp2_with fail
          refine (no_c 4 _).mono ?_
          rintro e y8 ⟨rfl, hb⟩
          replace H := Lib.hid (H.out.next hb)
          clear hb p0 p1
          go_wp2_with fail
          refine (awake_c _).mono ?_
          rintro e y9 ⟨rfl, hb⟩
          replace H := Lib.hid (H.out.next hb)
          clear hb
          go_wp2
          go_ret
          exact ⟨rfl, H.out.below⟩
        · have p0 := H.out.p0
          have p1 := H.out.p1
          go_wp2_with fail
          refine (is_c (H.out.pp hK0) (I2.out (by simp))).mono ?_
          rintro e y8 ⟨rfl, hb⟩
          replace H := Lib.hid (H.out.next hb)
          clear hb p0 p1 y0 y1
          go_wp2_with fail
          refine (awake_c _).mono ?_
          rintro e y9 ⟨rfl, hb⟩
          replace H := Lib.hid (H.out.next hb)
          clear hb
          go_wp2
          go_ret
          exact ⟨rfl, H.out.below⟩
end Go.Proofs.Ytpgiifjngkekgaa

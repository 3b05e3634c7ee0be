import Derived.Test.YtbblckaplddggaaFx
import Derived.Test.YtbblckaplddggaaMt
import Derived.Test.YtbblckaplddggaaTg
import Derived.Test.YtbblckaplddggaaTi
import Derived.BigRegion
import Derived.Deep.DeepCutAuto
set_option maxRecDepth 100000
namespace Go.Proofs.Ytbblckaplddggaa
open Go.RowKit
set_option maxHeartbeats 400000 in
theorem refAbs2_c {w : World} {z : Int} {t : Bool} {A : Option Addr} {n c : Nat} (h : Is w z t A n c) (hn : n ≤ 17592186044416) :
    Calls Try.prog 51 #[.agg #[.bool t, .slice A n c]] w (NumI w ((z.natAbs : Nat) : Int)) := by
  have HI := Lib.hid h
  have HN := Lib.hid (show sgn false (val (words z.natAbs)) = ((z.natAbs : Nat) : Int) by rw [val_words]; rfl)
  clear h
  have hb : Below w.heap.size w ((w.alloc (.cells #[.bool t, .slice A n c] 24)).alloc (.cells #[.bool false, .slice none 0 0] 24)) := ((Below.refl _ _).alloc (Nat.le_refl _) _).alloc (by simp) _
  have R := Lib.hid (Res.new (w.alloc (.cells #[.bool t, .slice A n c] 24)))
  have HB := Lib.hid hb
  clear hb
  go_enter Try.func51, Try.ntmps51
  go_wp2_with fail
  refine (Make_i (s := false) (HI.out.below HB.out).2.2.1 (HI.out).2.2.2.1 (HI.out).2.2.2.2 (by omega)).mono ?_
  rw [HN.out]
  rintro e w1 ⟨t', B, m, d, rfl, hi, hb1⟩
  have H := Lib.hid (HB.out.trans (hb1.mono HB.out.size))
  have R1 := Lib.hid (R.out.next hb1)
  have HH := Lib.hid hi
  clear hi hb1
  rw [World.size_alloc] at R1
  have r0 := R1.out.r0
  have r1 := R1.out.r1
  have f0 := R1.out.f0
  have f1 := R1.out.f1
  go_wp2
  refine bodyPost_ret (v := .agg #[.bool t', .slice B m d]) (by simp [results, Try.results51, go_sem, r0, r1]) rfl ?_
  exact ⟨t', B, m, d, rfl, HH.out.store r0 r1 _ _, below_store H.out (by omega) _ _⟩
theorem ord_ge {a b : Int} (h : ¬ a < b) : 0 ≤ ord a b := by
  unfold ord
  rw [if_neg h]
  split <;> omega
/-- quotient and rest of absolute values, made those of the numbers -/
theorem div_signs {a b : Int} (hb : b ≠ 0) (q r : Nat) (hq : q = a.natAbs / b.natAbs) (hr : r = a.natAbs % b.natAbs) :
    (0 ≤ a → 0 < b → a / b = q ∧ a % b = r) ∧ (0 ≤ a → b < 0 → a / b = -(q : Int) ∧ a % b = r) ∧
    (a < 0 → r = 0 → 0 < b → a / b = -(q : Int) ∧ a % b = 0) ∧ (a < 0 → r = 0 → b < 0 → a / b = q ∧ a % b = 0) ∧
    (a < 0 → r ≠ 0 → 0 < b → a / b = -((q : Int) + 1) ∧ a % b = (b.natAbs : Int) - r) ∧ (a < 0 → r ≠ 0 → b < 0 → a / b = (q : Int) + 1 ∧ a % b = (b.natAbs : Int) - r) := by
  have h1 : b.natAbs * q + r = a.natAbs := by rw [hq, hr]; exact Nat.div_add_mod _ _
  have h2 : r < b.natAbs := by rw [hr]; exact Nat.mod_lt _ (by omega)
  have h3 : ((b.natAbs : Int)) * q + r = (a.natAbs : Int) := by rw [← Int.natCast_mul, ← Int.natCast_add, h1]
  clear hq hr h1
  have key : ∀ (Q R : Int), R + b * Q = a → 0 ≤ R → R < (b.natAbs : Int) → a / b = Q ∧ a % b = R := fun Q R e0 e1 e2 => by
    rcases Int.lt_trichotomy b 0 with hb0 | hb0 | hb0
    · have e3 := (Int.ediv_emod_unique (a := a) (b := -b) (r := R) (q := -Q) (by omega)).2 ⟨by rw [Int.neg_mul_neg]; exact e0, e1, by omega⟩
      refine ⟨?_, by rw [← Int.emod_neg]; exact e3.2⟩
      have := e3.1
      rw [Int.ediv_neg] at this
      omega
    · exact absurd hb0 hb
    · exact (Int.ediv_emod_unique hb0).2 ⟨e0, e1, by omega⟩
  generalize hB : (b.natAbs : Int) = B at *
  generalize hA : (a.natAbs : Int) = A at *
  have hq1 : B * (q + 1) = B * q + B := by rw [Int.mul_add, Int.mul_one]
  refine ⟨fun p1 p2 => ?_, fun p1 p2 => ?_, fun p1 p2 p3 => ?_, fun p1 p2 p3 => ?_, fun p1 p2 p3 => ?_, fun p1 p2 p3 => ?_⟩
  · have : b = B := by omega
    exact key _ _ (by rw [this]; omega) (by omega) (by omega)
  · have : b = -B := by omega
    exact key _ _ (by rw [this, Int.neg_mul_neg]; omega) (by omega) (by omega)
  · have : b = B := by omega
    exact key _ _ (by rw [this, Int.mul_neg]; omega) (by omega) (by omega)
  · have : b = -B := by omega
    exact key _ _ (by rw [this, Int.neg_mul]; omega) (by omega) (by omega)
  · have : b = B := by omega
    exact key _ _ (by rw [this, Int.mul_neg, hq1]; omega) (by omega) (by omega)
  · have : b = -B := by omega
    exact key _ _ (by rw [this, Int.neg_mul, hq1]; omega) (by omega) (by omega)
/-- the variables of Div -/
structure DV (w W : World) (b : Nat) (x : Int) (t : Bool) (A : Option Addr) (n c : Nat) (y : Int) (t' : Bool) (A' : Option Addr) (n' c' : Nat) (q r : Int) : Prop where
  below : Below w.heap.size w W
  ge : w.heap.size ≤ b
  ba : Nvr W (b) x t A n c
  bb : Nvr W (b + 1) y t' A' n' c'
  r4 : Nvr W (b + 1 + 1) 0 false none 0 0
  r5 : Nvr W (b + 1 + 1 + 1) 0 false none 0 0
  bq : Nwx W (b + 1 + 1 + 1 + 1) q
  br : Nwx W (b + 1 + 1 + 1 + 1 + 1) r
theorem DV.next {w W W' : World} {b : Nat} {x : Int} {t : Bool} {A : Option Addr} {n c : Nat} {y : Int} {t' : Bool} {A' : Option Addr} {n' c' : Nat} {q r : Int} (h : DV w W b x t A n c y t' A' n' c' q r) (hb : Below W.heap.size W W') : DV w W' b x t A n c y t' A' n' c' q r :=
  ⟨h.below.trans (hb.mono h.below.size), h.ge, h.ba.next hb, h.bb.next hb, h.r4.next hb, h.r5.next hb, h.bq.next hb, h.br.next hb⟩
theorem DV.putq {w W : World} {b : Nat} {x : Int} {t : Bool} {A : Option Addr} {n c : Nat} {y : Int} {t' : Bool} {A' : Option Addr} {n' c' : Nat} {q r : Int} {q2 : Int} {u u' : Bool} {C C' : Option Addr} {m d m' d' : Nat} (h : DV w W b x t A n c y t' A' n' c' q r) (h' : Nvr W (b + 1 + 1 + 1 + 1) q u C m d) (i : Is W q2 u' C' m' d') : DV w ((W.setCell ⟨b + 1 + 1 + 1 + 1, 0, none⟩ (.bool u')).setCell ⟨b + 1 + 1 + 1 + 1, 1, none⟩ (.slice C' m' d')) b x t A n c y t' A' n' c' q2 r := by
  have h0 := h.ge
  exact ⟨below_store h.below (by omega) _ _, h0, h.ba.far (by omega) h'.c0 h'.c1 _ _, h.bb.far (by omega) h'.c0 h'.c1 _ _, h.r4.far (by omega) h'.c0 h'.c1 _ _, h.r5.far (by omega) h'.c0 h'.c1 _ _, (h'.put i).nw, h.br.far h' (by omega) _ _⟩
theorem DV.putr {w W : World} {b : Nat} {x : Int} {t : Bool} {A : Option Addr} {n c : Nat} {y : Int} {t' : Bool} {A' : Option Addr} {n' c' : Nat} {q r : Int} {r2 : Int} {u u' : Bool} {C C' : Option Addr} {m d m' d' : Nat} (h : DV w W b x t A n c y t' A' n' c' q r) (h' : Nvr W (b + 1 + 1 + 1 + 1 + 1) r u C m d) (i : Is W r2 u' C' m' d') : DV w ((W.setCell ⟨b + 1 + 1 + 1 + 1 + 1, 0, none⟩ (.bool u')).setCell ⟨b + 1 + 1 + 1 + 1 + 1, 1, none⟩ (.slice C' m' d')) b x t A n c y t' A' n' c' q r2 := by
  have h0 := h.ge
  exact ⟨below_store h.below (by omega) _ _, h0, h.ba.far (by omega) h'.c0 h'.c1 _ _, h.bb.far (by omega) h'.c0 h'.c1 _ _, h.r4.far (by omega) h'.c0 h'.c1 _ _, h.r5.far (by omega) h'.c0 h'.c1 _ _, h.bq.far h' (by omega) _ _, (h'.put i).nw⟩
/-- quotient and rest -/
def RDiv (x y : Int) (w : World) (e : Ending) (w' : World) : Prop :=
  ∃ (t : Bool) (A : Option Addr) (n c : Nat) (t' : Bool) (A' : Option Addr) (n' c' : Nat), e = .returned (.tuple #[.agg #[.bool t, .slice A n c], .agg #[.bool t', .slice A' n' c']]) ∧ Below w.heap.size w w' ∧ Is w' (x / y) t A n c ∧ Is w' (x % y) t' A' n' c'
set_option maxHeartbeats 8000000 in
theorem refDiv_c {w : World} {x : Int} {t : Bool} {A : Option Addr} {n c : Nat} {y : Int} {t' : Bool} {A' : Option Addr} {n' c' : Nat} (h : Is w x t A n c) (h' : Is w y t' A' n' c') (hy : y ≠ 0) (hn : n ≤ 4398046511104) (hn' : n' ≤ 4398046511104) :
    Calls Try.prog 49 #[.agg #[.bool t, .slice A n c], .agg #[.bool t', .slice A' n' c']] w (RDiv x y w) := by
  obtain ⟨b, hb⟩ : ∃ b, b = w.heap.size := ⟨_, rfl⟩
  have E := Lib.hid (show DV w ((((((w.alloc (.cells #[.bool t, .slice A n c] 24)).alloc (.cells #[.bool t', .slice A' n' c'] 24)).alloc (.cells #[.bool false, .slice none 0 0] 24)).alloc (.cells #[.bool false, .slice none 0 0] 24)).alloc (.cells #[.bool false, .slice none 0 0] 24)).alloc (.cells #[.bool false, .slice none 0 0] 24)) w.heap.size x t A n c y t' A' n' c' 0 0 by
    have k0 := below_alloc w (.cells #[.bool t, .slice A n c] 24)
    have k1 := below_alloc (w.alloc (.cells #[.bool t, .slice A n c] 24)) (.cells #[.bool t', .slice A' n' c'] 24)
    have k2 := below_alloc ((w.alloc (.cells #[.bool t, .slice A n c] 24)).alloc (.cells #[.bool t', .slice A' n' c'] 24)) (.cells #[.bool false, .slice none 0 0] 24)
    have k3 := below_alloc (((w.alloc (.cells #[.bool t, .slice A n c] 24)).alloc (.cells #[.bool t', .slice A' n' c'] 24)).alloc (.cells #[.bool false, .slice none 0 0] 24)) (.cells #[.bool false, .slice none 0 0] 24)
    have k4 := below_alloc ((((w.alloc (.cells #[.bool t, .slice A n c] 24)).alloc (.cells #[.bool t', .slice A' n' c'] 24)).alloc (.cells #[.bool false, .slice none 0 0] 24)).alloc (.cells #[.bool false, .slice none 0 0] 24)) (.cells #[.bool false, .slice none 0 0] 24)
    have k5 := below_alloc (((((w.alloc (.cells #[.bool t, .slice A n c] 24)).alloc (.cells #[.bool t', .slice A' n' c'] 24)).alloc (.cells #[.bool false, .slice none 0 0] 24)).alloc (.cells #[.bool false, .slice none 0 0] 24)).alloc (.cells #[.bool false, .slice none 0 0] 24)) (.cells #[.bool false, .slice none 0 0] 24)
    have v0 := Nvr.new h
    have v1 := Nvr.new (h'.below k0)
    have v2 := Nvr.new (is_zero8 ((w.alloc (.cells #[.bool t, .slice A n c] 24)).alloc (.cells #[.bool t', .slice A' n' c'] 24)))
    have v3 := Nvr.new (is_zero8 (((w.alloc (.cells #[.bool t, .slice A n c] 24)).alloc (.cells #[.bool t', .slice A' n' c'] 24)).alloc (.cells #[.bool false, .slice none 0 0] 24)))
    have v4 := Nvr.new (is_zero8 ((((w.alloc (.cells #[.bool t, .slice A n c] 24)).alloc (.cells #[.bool t', .slice A' n' c'] 24)).alloc (.cells #[.bool false, .slice none 0 0] 24)).alloc (.cells #[.bool false, .slice none 0 0] 24)))
    have v5 := Nvr.new (is_zero8 (((((w.alloc (.cells #[.bool t, .slice A n c] 24)).alloc (.cells #[.bool t', .slice A' n' c'] 24)).alloc (.cells #[.bool false, .slice none 0 0] 24)).alloc (.cells #[.bool false, .slice none 0 0] 24)).alloc (.cells #[.bool false, .slice none 0 0] 24)))
    simp only [World.size_alloc] at v1 v2 v3 v4 v5
    have hB : Below w.heap.size w ((((((w.alloc (.cells #[.bool t, .slice A n c] 24)).alloc (.cells #[.bool t', .slice A' n' c'] 24)).alloc (.cells #[.bool false, .slice none 0 0] 24)).alloc (.cells #[.bool false, .slice none 0 0] 24)).alloc (.cells #[.bool false, .slice none 0 0] 24)).alloc (.cells #[.bool false, .slice none 0 0] 24)) := by
      refine (((((k0.trans (k1.mono ?_)).trans (k2.mono ?_)).trans (k3.mono ?_)).trans (k4.mono ?_)).trans (k5.mono ?_))
      all_goals simp; try omega
    exact ⟨hB, Nat.le_refl _, (((((v0.next k1).next k2).next k3).next k4).next k5), ((((v1.next k2).next k3).next k4).next k5), (((v2.next k3).next k4).next k5), ((v3.next k4).next k5), (v4.next k5).nw, v5.nw⟩)
  have HYN := Lib.hid hy
  have HN := Lib.hid (And.intro hn hn')
  have HS := Lib.hid (And.intro h.1 h'.1)
  clear h h' hy hn hn'
  go_enter Try.func49, Try.ntmps49
  go_upto_region 2 with (fail)
  generalize (((((w.alloc (.cells #[.bool t, .slice A n c] 24)).alloc (.cells #[.bool t', .slice A' n' c'] 24)).alloc (.cells #[.bool false, .slice none 0 0] 24)).alloc (.cells #[.bool false, .slice none 0 0] 24)).alloc (.cells #[.bool false, .slice none 0 0] 24)).alloc (.cells #[.bool false, .slice none 0 0] 24) = W0 at E ⊢
  rw [← hb] at E ⊢
  clear hb
  have a1 := E.out.ba.c1
  have b1 := E.out.bb.c1
  go_wp2_with fail
  refine (order_c A A' n c n' c' _ _ _ E.out.ba.is.2.2.1 E.out.bb.is.2.2.1 (words_canon _) (words_canon _) (by have := HN.out; omega) (by have := HN.out; omega)).mono ?_
  rintro e w1 ⟨rfl, j, rfl⟩
  rw [val_words, val_words]
  replace E := Lib.hid (E.out.next (below_drewN (Below.refl _ _) j))
  clear a1 b1
  generalize W0.drewN j = W1 at E ⊢
  obtain ⟨r, hr⟩ : ∃ r, r = ord ((x.natAbs : Nat) : Int) ((y.natAbs : Nat) : Int) := ⟨_, rfl⟩
  rw [← hr]
  have HR := Lib.hid hr
  clear hr
  go_upto_if 17 with (fail)
  go_cut [8, 9, 10, 11] (fun _ _ _ _ W => DV w W b x t A n c y t' A' n' c' ((x.natAbs / y.natAbs : Nat) : Int) ((x.natAbs % y.natAbs : Nat) : Int))
  case first =>
    by_cases hlt : x.natAbs < y.natAbs
    · obtain rfl : r = -1 := by rw [HR.out]; exact ord_lt (by omega)
      clear HR
      have HQ := Lib.hid (And.intro (Nat.div_eq_of_lt hlt) (Nat.mod_eq_of_lt hlt))
      clear hlt
      have a0 := E.out.ba.c0
      have a1 := E.out.ba.c1
      go_wp2_with fail
      refine (refAbs2_c E.out.ba.is (by have := HN.out; omega)).mono ?_
      rintro e w2 ⟨t5, A5, n5, c5, rfl, i5, hb⟩
      replace E := Lib.hid (E.out.next hb)
      have I5 := Lib.hid i5
      clear hb i5 a0 a1
      obtain ⟨tr, Ar, nr, cr, hr⟩ := E.out.br
      have V := Lib.hid hr
      have p0 := hr.c0
      have p1 := hr.c1
      have p2 := hr.f0
      have p3 := hr.f1
      clear hr
      go_wp2
      go_meet
      rw [HQ.out.1, HQ.out.2]
      exact E.out.putr V.out I5.out
    · have r0 : 0 ≤ r := by rw [HR.out]; exact ord_ge (by omega)
      have r2 : decide (r < 0) = false := decide_eq_false (by omega)
      clear HR
      have HLE := Lib.hid (show n' ≤ n by rw [E.out.bb.is.2.1, E.out.ba.is.2.1]; exact words_mono (Nat.not_lt.1 hlt))
      have HPOS := Lib.hid (show 0 < n' by
        rcases Nat.eq_zero_or_pos n' with h0 | h0
        · exfalso
          have h1 := E.out.bb.is.2.1
          rw [h0] at h1
          have h2 := words_len_le.1 (Nat.le_of_eq h1.symm)
          rw [pw_zero] at h2
          exact HYN.out (by omega)
        · exact h0)
      clear hlt
      by_cases h1 : n' = 1
      · subst h1
        obtain ⟨v, hv⟩ : ∃ v, v = y.natAbs := ⟨_, rfl⟩
        have hv2 : v < 4294967296 := by
          have h2 := words_len_le.1 (Nat.le_of_eq E.out.bb.is.2.1.symm)
          rw [show pw 1 = 4294967296 by unfold pw; decide] at h2
          omega
        have hv0 : 0 < v := by have := HYN.out; omega
        obtain ⟨g, o, rfl, hg, hc⟩ := E.out.bb.is.2.2.1.at_ (by omega)
        have hc0 := hc 0 (by omega)
        rw [Nat.add_zero, ← hv, words_one (by omega) (by omega)] at hc0
        have hc1 : W1.cell? ⟨g, o, none⟩ = some (.int .u32 (v : Int)) := hc0
        have HV := Lib.hid hv
        have a1 := E.out.ba.c1
        have b1 := E.out.bb.c1
        clear hc hc0 hv
        go_upto_region 5 with (fail)
        refine wp_region_held_drew (S := (fun w' => w'.cell? ⟨b, 1, none⟩ = some (.slice A n c) ∧ w'.cell? ⟨b + 1, 1, none⟩ = some (.slice (some ⟨g, o, none⟩) 1 c') ∧ w'.cell? ⟨g, o, none⟩ = some (.int .u32 (v : Int)))) (by kernel_rfl) ⟨cell_dr a1, cell_dr b1, cell_dr hc1⟩ (fun hHeld => ?_)
        replace E := Lib.hid (E.out.next (Below.refl W1.heap.size W1).drew)
        replace hc1 := cell_dr hc1
        rw [show W1.heap.size = W1.drew.heap.size from rfl] at hg
        clear a1 b1
        generalize W1.drew = D1 at E hHeld hc1 hg ⊢
        refine take_on (i := 0) (d := (some 25)) (v := ?v1) rfl rfl (by kernel_rfl) (by kernel_rfl) (by kernel_rfl) (fun c a w h => h) (by rfl) ?h1 (by assumption) ?r1
        case h1 => intro w hSw; obtain ⟨h0, h1, h2⟩ := hSw; go_simp; rfl
        simp only [Act.put, List.setIfInBounds_toArray, List.set_cons_zero, List.set_cons_succ]
        refine take_on (i := 1) (d := (some 26)) (v := ?v2) rfl rfl (by kernel_rfl) (by kernel_rfl) (by kernel_rfl) (fun c a w h => h) (by rfl) ?h2 (by assumption) ?r2
        case h2 => intro w hSw; obtain ⟨h0, h1, h2⟩ := hSw; go_simp; rfl
        simp only [Act.put, List.setIfInBounds_toArray, List.set_cons_zero, List.set_cons_succ]
        refine take_on (i := 2) (d := (some 27)) (v := ?v3) rfl rfl (by kernel_rfl) (by kernel_rfl) (by kernel_rfl) (fun c a w h => h) (by rfl) ?h3 (by assumption) ?r3
        case h3 => intro w hSw; obtain ⟨h0, h1, h2⟩ := hSw; go_simp; rfl
        simp only [Act.put, List.setIfInBounds_toArray, List.set_cons_zero, List.set_cons_succ]
        refine take_on (i := 3) (d := (some 28)) (v := ?v4) rfl rfl (by kernel_rfl) (by kernel_rfl) (by kernel_rfl) (fun c a w h => h) (by rfl) ?h4 (by assumption) ?r4
        case h4 => intro w hSw; obtain ⟨h0, h1, h2⟩ := hSw; go_simp; rfl
        simp only [Act.put, List.setIfInBounds_toArray, List.set_cons_zero, List.set_cons_succ]
        refine take_on (i := 4) (d := (some 29)) (v := ?v5) rfl rfl (by kernel_rfl) (by kernel_rfl) (by kernel_rfl) (fun c a w h => h) (by rfl) ?h5 (by assumption) ?r5
        case h5 => intro w hSw; obtain ⟨h0, h1, h2⟩ := hSw; go_simp; rfl
        simp only [Act.put, List.setIfInBounds_toArray, List.set_cons_zero, List.set_cons_succ]
        refine take_on (i := 5) (d := (some 30)) (v := ?v6) rfl rfl (by kernel_rfl) (by kernel_rfl) (by kernel_rfl) (fun c a w h => h) (by rfl) ?h6 (by assumption) ?r6
        case h6 => intro w hSw; obtain ⟨h0, h1, h2⟩ := hSw; go_simp; rfl
        simp only [Act.put, List.setIfInBounds_toArray, List.set_cons_zero, List.set_cons_succ]
        refine wpAnyH_ready (rs := [6]) (by kernel_rfl) (by simp) ?_
        refine AllReadyH.cons rfl (fun K hK => ?_) AllReadyH.nil
        go_simp
        refine (refShort_c A n c v _ _ E.out.ba.is.2.2.1 (by have := HN.out; omega) hv0 hv2).mono ?_
        rintro e w2 ⟨rfl, hb, qs, q1, q2, q3⟩
        have HC1 := Lib.hid ((hb.cell (p := ⟨g, o, none⟩) hg).trans hc1)
        replace E := Lib.hid (E.out.next hb)
        have Q := Lib.hid (And.intro q1 (And.intro q2 q3))
        clear hb q1 q2 q3 hHeld hc1
        refine hK.out _ _ ⟨E.out.ba.c1, E.out.bb.c1, HC1.out⟩ (fun hHeld => ?_)
        clear hK K
        refine take_on (i := 7) (d := (some 24)) (v := ?v7) rfl rfl (by kernel_rfl) (by kernel_rfl) (by kernel_rfl) (fun c a w h => h) (by rfl) ?h7 (by assumption) ?r7
        case h7 => intro w hSw; obtain ⟨h0, h1, h2⟩ := hSw; go_simp; rfl
        simp only [Act.put, List.setIfInBounds_toArray, List.set_cons_zero, List.set_cons_succ]
        refine take_on (i := 8) (d := (some 32)) (v := ?v8) rfl rfl (by kernel_rfl) (by kernel_rfl) (by kernel_rfl) (fun c a w h => h) (by rfl) ?h8 (by assumption) ?r8
        case h8 => intro w hSw; obtain ⟨h0, h1, h2⟩ := hSw; go_simp; rfl
        simp only [Act.put, List.setIfInBounds_toArray, List.set_cons_zero, List.set_cons_succ]
        refine take_on (i := 9) (d := (some 33)) (v := ?v9) rfl rfl (by kernel_rfl) (by kernel_rfl) (by kernel_rfl) (fun c a w h => h) (by rfl) ?h9 (by assumption) ?r9
        case h9 => intro w hSw; obtain ⟨h0, h1, h2⟩ := hSw; go_simp; rfl
        simp only [Act.put, List.setIfInBounds_toArray, List.set_cons_zero, List.set_cons_succ]
        refine take_on (i := 10) (d := (some 8)) (v := ?v10) rfl rfl (by kernel_rfl) (by kernel_rfl) (by kernel_rfl) (fun c a w h => h) (by rfl) ?h10 (by assumption) ?r10
        case h10 => intro w hSw; obtain ⟨h0, h1, h2⟩ := hSw; go_simp; rfl
        simp only [Act.put, List.setIfInBounds_toArray, List.set_cons_zero, List.set_cons_succ]
        refine take_on (i := 11) (d := (some 9)) (v := ?v11) rfl rfl (by kernel_rfl) (by kernel_rfl) (by kernel_rfl) (fun c a w h => h) (by rfl) ?h11 (by assumption) ?r11
        case h11 => intro w hSw; obtain ⟨h0, h1, h2⟩ := hSw; go_simp; rfl
        simp only [Act.put, List.setIfInBounds_toArray, List.set_cons_zero, List.set_cons_succ]
        clear hHeld
        refine wpAnyH_done (by kernel_rfl) ?_ _
        go_wp2_with fail
        refine (Make_i (s := false) (n := n) (c := n) (xs := qs) (by have := Q.out.2.2.rd; rwa [Q.out.1] at this) (Nat.le_refl _) (by have := HN.out; omega) (by have := HN.out; omega)).mono ?_
        rintro e w3 ⟨t6, A6, n6, c6, rfl, i6, hb⟩
        replace E := Lib.hid (E.out.next hb)
        have I6 := Lib.hid (show Is w3 ((x.natAbs / y.natAbs : Nat) : Int) t6 A6 n6 c6 by
          have := i6
          rw [Q.out.2.1, val_words] at this
          rw [← HV.out]; exact this)
        clear hb i6 HC1
        have hm : (val (words x.natAbs) % v) < 4294967296 := Nat.lt_trans (Nat.mod_lt _ hv0) hv2
        have HM := Lib.hid (show val (words x.natAbs) % v = x.natAbs % y.natAbs by rw [val_words, ← HV.out])
        obtain ⟨m, hmd⟩ : ∃ m, m = val (words x.natAbs) % v := ⟨_, rfl⟩
        have hmi : ((val (words x.natAbs) : Nat) : Int) % (v : Int) = (m : Int) := by rw [hmd]; rfl
        rw [← hmd] at hm HM
        clear hmd
        go_wp2_with fail
        have hb := below_alloc w3 (.cells #[.int .u32 (m : Int)] 60)
        refine (Make_i (s := false) (n := 1) (c := 1) (Bk.new w3 (small_one hm)).rd (Nat.le_refl _) (by omega) (by omega)).mono ?_
        rintro e w4 ⟨t7, A7, n7, c7, rfl, i7, hb2⟩
        replace E := Lib.hid ((E.out.next hb).next hb2)
        replace I6 := Lib.hid ((I6.out.below hb).below hb2)
        have I7 := Lib.hid (show Is w4 ((x.natAbs % y.natAbs : Nat) : Int) t7 A7 n7 c7 by
          have := i7
          rw [show val [m] = m by simp [val], HM.out] at this
          exact this)
        clear hb hb2 i7 hm
        obtain ⟨tq, Aq, nq, cq, hq⟩ := E.out.bq
        have V := Lib.hid hq
        have p0 := hq.c0
        have p1 := hq.c1
        have p2 := hq.f0
        have p3 := hq.f1
        obtain ⟨tr, Ar, nr, cr, hr⟩ := E.out.br
        have s0 := hr.c0
        have s1 := hr.c1
        have s2 := hr.f0
        have s3 := hr.f1
        clear hq hr
        have g1 : ¬ b + 1 + 1 + 1 + 1 = b + 1 + 1 + 1 + 1 + 1 := by omega
        have g2 : ¬ b + 1 + 1 + 1 + 1 + 1 = b + 1 + 1 + 1 + 1 := by omega
        go_wp2
        go_meet
        have E2 := E.out.putq V.out I6.out
        obtain ⟨tr, Ar, nr, cr, hr⟩ := E2.br
        exact E2.putr hr (I7.out.store p0 p1 _ _)
      · obtain ⟨m, hm⟩ : ∃ m, n' = m + 2 := ⟨n' - 2, by have := HPOS.out; omega⟩
        subst hm
        have h2 : ((m : Int) + 2 == 1) = false := by rw [beq_eq_false_iff_ne]; omega
        have h3 : ¬ (m : Int) + 2 = 1 := by omega
        have a1 := E.out.ba.c1
        have b1 := E.out.bb.c1
        clear h1
        go_wp2_with fail
        refine (refLong_c A A' n c m c' _ _ _ E.out.ba.is.2.2.1 E.out.bb.is.2.2.1 (words_canon _) HN.out.1 (by have := HN.out; omega) HLE.out).mono ?_
        rw [val_words, val_words]
        rintro e w2 ⟨A5, c5, A6, n6, c6, qs, rfl, l1, l2, l3, l4, l5, l6, l7, hb⟩
        replace E := Lib.hid (E.out.next hb)
        have L := Lib.hid (And.intro l1 (And.intro l2 (And.intro l3 (And.intro l4 (And.intro l5 (And.intro l6 l7))))))
        clear hb l1 l2 l3 l4 l5 l6 l7 a1 b1
        have hnm : n - m ≤ 4398046511104 := by have := HN.out; omega
        go_wp2_with fail
        refine (Make_i (s := false) L.out.1 L.out.2.2.1 L.out.2.2.2.1 (by omega)).mono ?_
        rintro e w3 ⟨t6, B6, m6, d6, rfl, i6, hb⟩
        replace E := Lib.hid (E.out.next hb)
        have I6 := Lib.hid (show Is w3 ((x.natAbs / y.natAbs : Nat) : Int) t6 B6 m6 d6 by
          have := i6
          rw [L.out.2.1] at this
          exact this)
        have R6 := Lib.hid (And.intro (L.out.2.2.2.2.1.below hb) L.out.2.2.2.2.2)
        clear hb i6 L hnm
        have hn6 : n6 ≤ 35184372088832 := by
          have h5 := R6.out.1.len
          have h6 : x.natAbs % y.natAbs < y.natAbs := Nat.mod_lt _ (by have := HYN.out; omega)
          have h7 := words_mono (Nat.le_of_lt h6)
          have h8 := E.out.bb.is.2.1
          have := HN.out
          omega
        go_wp2_with fail
        refine (Make_i (s := false) R6.out.1 R6.out.2.1 R6.out.2.2 hn6).mono ?_
        rw [val_words]
        rintro e w4 ⟨t7, B7, m7, d7, rfl, i7, hb⟩
        replace E := Lib.hid (E.out.next hb)
        replace I6 := Lib.hid (I6.out.below hb)
        have I7 := Lib.hid (show Is w4 ((x.natAbs % y.natAbs : Nat) : Int) t7 B7 m7 d7 from i7)
        clear hb i7 R6 hn6
        obtain ⟨tq, Aq, nq, cq, hq⟩ := E.out.bq
        have V := Lib.hid hq
        have p0 := hq.c0
        have p1 := hq.c1
        have p2 := hq.f0
        have p3 := hq.f1
        obtain ⟨tr, Ar, nr, cr, hr⟩ := E.out.br
        have s0 := hr.c0
        have s1 := hr.c1
        have s2 := hr.f0
        have s3 := hr.f1
        clear hq hr
        have g1 : ¬ b + 1 + 1 + 1 + 1 = b + 1 + 1 + 1 + 1 + 1 := by omega
        have g2 : ¬ b + 1 + 1 + 1 + 1 + 1 = b + 1 + 1 + 1 + 1 := by omega
        go_wp2
        go_meet
        have E2 := E.out.putq V.out I6.out
        obtain ⟨tr, Ar, nr, cr, hr⟩ := E2.br
        exact E2.putr hr (I7.out.store p0 p1 _ _)
  case rest =>
    have hE := hcut
    clear hcut E HR
    have E := Lib.hid hE
    clear hE
    obtain ⟨Q, hQ⟩ : ∃ Q, Q = x.natAbs / y.natAbs := ⟨_, rfl⟩
    obtain ⟨M, hM⟩ : ∃ M, M = x.natAbs % y.natAbs := ⟨_, rfl⟩
    rw [← hQ, ← hM] at E
    have HD := Lib.hid (div_signs (a := x) HYN.out Q M hQ hM)
    have HMY := Lib.hid (show M ≤ y.natAbs by rw [hM]; exact Nat.le_of_lt (Nat.mod_lt _ (by have := HYN.out; omega)))
    have HQX := Lib.hid (show Q ≤ x.natAbs by rw [hQ]; exact Nat.div_le_self _ _)
    clear hQ hM
    rcases Int.lt_or_le x 0 with hx | hx
    · have ht : t = true := by rw [HS.out.1]; exact decide_eq_true hx
      subst ht
      rcases Int.lt_or_le y 0 with hy | hy
      · have ht : t' = true := by rw [HS.out.2]; exact decide_eq_true hy
        subst ht
        have HSQ := Lib.hid (show Sz ((Q : Nat) : Int) n from words_len_le.1 (by rw [E.out.ba.is.2.1]; exact words_mono HQX.out))
        have HSM := Lib.hid (show Sz ((M : Nat) : Int) n' from words_len_le.1 (by rw [E.out.bb.is.2.1]; exact words_mono HMY.out))
        have HSY := Lib.hid (show Sz ((y.natAbs : Nat) : Int) n' from words_len_le.1 (by rw [E.out.bb.is.2.1]; exact Nat.le_refl _))
        rcases Nat.eq_zero_or_pos M with hz | hz
        · have HZ := Lib.hid hz
          clear hz
          have HSQ1 := HSQ
          have a0 := E.out.ba.c0
          obtain ⟨tr, Ar, nr, cr, hr⟩ := E.out.br
          have s0 := hr.c0
          have s1 := hr.c1
          have HNR := Lib.hid hr.is.2.1
          have NR := Lib.hid hr
          clear hr
          go_wp2_with fail
          refine (zero_c tr Ar nr cr _).mono ?_
          have hz : decide (nr = 0) = true := decide_eq_true (by rw [HNR.out, show ((M : Nat) : Int).natAbs = M from rfl, HZ.out, words_zero]; rfl)
          rw [hz]
          rintro e w5 ⟨rfl, hb⟩
          replace E := Lib.hid (E.out.next hb)
          replace NR := Lib.hid (NR.out.next hb)
          clear hb hz HNR a0 s0 s1
          clear NR
          (try clear a0)
          have a0 := E.out.ba.c0
          have b0 := E.out.bb.c0
          go_upto_region 13 with (fail)
          clear a0 b0
          obtain ⟨tq, Aq, nq, cq, hq⟩ := E.out.bq
          obtain ⟨tr, Ar, nr, cr, hr⟩ := E.out.br
          have p0 := hq.c0
          have p1 := hq.c1
          have q0 := hr.c0
          have q1 := hr.c1
          have r0 := E.out.r4.c0
          have r1 := E.out.r4.c1
          have r2 := E.out.r4.f0
          have r3 := E.out.r4.f1
          have s0 := E.out.r5.c0
          have s1 := E.out.r5.c1
          have s2 := E.out.r5.f0
          have s3 := E.out.r5.f1
          have f0 : ¬ b + 1 + 1 = b + 1 + 1 + 1 := by omega
          have f1 : ¬ b + 1 + 1 = b + 1 + 1 + 1 + 1 := by omega
          have f2 : ¬ b + 1 + 1 = b + 1 + 1 + 1 + 1 + 1 := by omega
          have f3 : ¬ b + 1 + 1 + 1 = b + 1 + 1 := by omega
          have f4 : ¬ b + 1 + 1 + 1 = b + 1 + 1 + 1 + 1 := by omega
          have f5 : ¬ b + 1 + 1 + 1 = b + 1 + 1 + 1 + 1 + 1 := by omega
          have HF := Lib.hid (And.intro hq.is hr.is)
          clear hq hr
          go_region
          go_wp2
          generalize hX : (((w5.setCell ⟨b + 1 + 1, 0, none⟩ (.bool tq)).setCell ⟨b + 1 + 1, 1, none⟩ (.slice Aq nq cq)).setCell ⟨b + 1 + 1 + 1, 0, none⟩ (.bool tr)).setCell ⟨b + 1 + 1 + 1, 1, none⟩ (.slice Ar nr cr) = X
          obtain ⟨y0, y1, y2, y3, v1, v2, v3⟩ := two_res E.out.r4 E.out.r5 (by omega) HF.out.1 HF.out.2 E.out.below (by have := E.out.ge; omega) (by have := E.out.ge; omega) hX
          replace y0 := cell_dr y0
          replace y1 := cell_dr y1
          replace y2 := cell_dr y2
          replace y3 := cell_dr y3
          refine bodyPost_ret (v := .tuple #[.agg #[.bool tq, .slice Aq nq cq], .agg #[.bool tr, .slice Ar nr cr]]) (by simp [results, Try.results49, go_sem, y0, y1, y2, y3]) rfl ?_
          have hd := HD.out
          obtain ⟨d1, d2⟩ := hd.2.2.2.1 hx HZ.out hy
          refine ⟨_, _, _, _, _, _, _, _, rfl, v3.trans ((Below.refl _ _).drew.mono v3.size), ?_, ?_⟩
          · rw [d1]; exact v1.below (Below.refl _ _).drew
          · rw [d2]; have hm : ((M : Nat) : Int) = 0 := by rw [HZ.out]; rfl
            rw [hm] at v2; exact v2.below (Below.refl _ _).drew
        · have HZ := Lib.hid (show M ≠ 0 by omega)
          clear hz
          have HSQ1 := Lib.hid (show Sz (((Q : Nat) : Int) + 1) (n + 1 + 1) from (HSQ.out.le (Nat.le_succ n)).add (sz_one' (by omega)))
          have a0 := E.out.ba.c0
          obtain ⟨tr, Ar, nr, cr, hr⟩ := E.out.br
          have s0 := hr.c0
          have s1 := hr.c1
          have HNR := Lib.hid hr.is.2.1
          have NR := Lib.hid hr
          clear hr
          go_wp2_with fail
          refine (zero_c tr Ar nr cr _).mono ?_
          have hz : decide (nr = 0) = false := decide_eq_false (fun h => HZ.out (by rw [HNR.out] at h; have h9 := words_len_le.1 (Nat.le_of_eq h); rw [pw_zero] at h9; omega))
          rw [hz]
          rintro e w5 ⟨rfl, hb⟩
          replace E := Lib.hid (E.out.next hb)
          replace NR := Lib.hid (NR.out.next hb)
          clear hb hz HNR a0 s0 s1
          go_upto_region 10 with (fail)
          obtain ⟨tq, Aq, nq, cq, hq⟩ := E.out.bq
          have NQ := Lib.hid hq
          clear hq
          refine wp_region_tail (S := (fun w' => w'.cell? ⟨b + 1 + 1 + 1 + 1, 0, none⟩ = some (.bool tq) ∧ w'.cell? ⟨b + 1 + 1 + 1 + 1, 1, none⟩ = some (.slice Aq nq cq) ∧ w'.cell? ⟨b + 1, 0, none⟩ = some (.bool true) ∧ w'.cell? ⟨b + 1, 1, none⟩ = some (.slice A' n' c') ∧ w'.cell? ⟨b + 1 + 1 + 1 + 1 + 1, 0, none⟩ = some (.bool tr) ∧ w'.cell? ⟨b + 1 + 1 + 1 + 1 + 1, 1, none⟩ = some (.slice Ar nr cr))) 7 (by kernel_rfl) (by kernel_rfl) (by intro c a d v w h; cases d <;> exact h) ⟨cell_dr NQ.out.c0, cell_dr NQ.out.c1, cell_dr E.out.bb.c0, cell_dr E.out.bb.c1, cell_dr NR.out.c0, cell_dr NR.out.c1⟩ (fun QT hT hP hHeld => ?_)
          simp only [List.extract_toArray, List.extract_eq_take_drop, List.drop_zero, Nat.sub_zero, List.take_succ_cons, List.take_zero]
          have HT := Lib.hid hT
          clear hT
          replace E := Lib.hid (E.out.next (Below.refl w5.heap.size w5).drew)
          replace NQ := Lib.hid (NQ.out.next (Below.refl w5.heap.size w5).drew)
          replace NR := Lib.hid (NR.out.next (Below.refl w5.heap.size w5).drew)
          generalize w5.drew = D5 at E NQ NR hHeld ⊢
          refine take_on (i := 0) (d := (some 58)) (v := ?v12) rfl rfl (by kernel_rfl) (by kernel_rfl) (by kernel_rfl) (fun c a w h => hP c a _ _ w h) (by rfl) ?h12 (by assumption) ?r12
          case h12 => intro w hSw; obtain ⟨h0, h1, h2, h3, h4, h5⟩ := hSw; go_simp; rfl
          simp only [Act.put, List.setIfInBounds_toArray, List.set_cons_zero, List.set_cons_succ]
          refine take_on (i := 3) (d := (some 61)) (v := ?v13) rfl rfl (by kernel_rfl) (by kernel_rfl) (by kernel_rfl) (fun c a w h => hP c a _ _ w h) (by rfl) ?h13 (by assumption) ?r13
          case h13 => intro w hSw; obtain ⟨h0, h1, h2, h3, h4, h5⟩ := hSw; go_simp; rfl
          simp only [Act.put, List.setIfInBounds_toArray, List.set_cons_zero, List.set_cons_succ]
          refine take_on (i := 5) (d := (some 63)) (v := ?v14) rfl rfl (by kernel_rfl) (by kernel_rfl) (by kernel_rfl) (fun c a w h => hP c a _ _ w h) (by rfl) ?h14 (by assumption) ?r14
          case h14 => intro w hSw; obtain ⟨h0, h1, h2, h3, h4, h5⟩ := hSw; go_simp; rfl
          simp only [Act.put, List.setIfInBounds_toArray, List.set_cons_zero, List.set_cons_succ]
          refine wpAnyH_ready (rs := [1]) (by kernel_rfl) (by simp) ?_
          refine AllReadyH.cons rfl (fun K hK => ?_) AllReadyH.nil
          go_simp
          refine (refOf_c 1 _ (by omega) (by omega)).mono ?_
          rintro e v1 h1
          obtain ⟨t21, A21, n21, c21, rfl, i21, hb⟩ := h1.numI
          replace E := Lib.hid (E.out.next hb)
          replace NQ := Lib.hid (NQ.out.next hb)
          replace NR := Lib.hid (NR.out.next hb)
          have J1 := Lib.hid i21
          clear hb i21 h1 hHeld
          refine hK.out _ _ ⟨NQ.out.c0, NQ.out.c1, E.out.bb.c0, E.out.bb.c1, NR.out.c0, NR.out.c1⟩ (fun hHeld => ?_)
          clear hK K
          refine wpAnyH_ready (rs := [2]) (by kernel_rfl) (by simp) ?_
          refine AllReadyH.cons rfl (fun K hK => ?_) AllReadyH.nil
          go_simp
          refine (refAdd_c NQ.out.is J1.out (Nat.le_trans (NQ.out.is.len HSQ.out) (by have := HN.out; omega)) (Nat.le_trans (J1.out.len (sz_one' (Nat.le_refl 1))) (by omega))).mono ?_
          rintro e v2 ⟨t22, A22, n22, c22, rfl, i22, hb⟩
          replace E := Lib.hid (E.out.next hb)
          replace NQ := Lib.hid (NQ.out.next hb)
          replace NR := Lib.hid (NR.out.next hb)
          have J2 := Lib.hid i22
          clear hb i22 hHeld J1
          refine hK.out _ _ ⟨NQ.out.c0, NQ.out.c1, E.out.bb.c0, E.out.bb.c1, NR.out.c0, NR.out.c1⟩ (fun hHeld => ?_)
          clear hK K
          refine wpAnyH_ready (rs := [4]) (by kernel_rfl) (by simp) ?_
          refine AllReadyH.cons rfl (fun K hK => ?_) AllReadyH.nil
          go_simp
          refine (refAbs2_c E.out.bb.is (by have := HN.out; omega)).mono ?_
          rintro e v3 ⟨t23, A23, n23, c23, rfl, i23, hb⟩
          replace E := Lib.hid (E.out.next hb)
          replace NQ := Lib.hid (NQ.out.next hb)
          replace NR := Lib.hid (NR.out.next hb)
          replace J2 := Lib.hid (J2.out.below hb)
          have J3 := Lib.hid i23
          clear hb i23 hHeld
          refine hK.out _ _ ⟨NQ.out.c0, NQ.out.c1, E.out.bb.c0, E.out.bb.c1, NR.out.c0, NR.out.c1⟩ (fun hHeld => ?_)
          clear hK K
          refine wpAnyH_ready (rs := [6]) (by kernel_rfl) (by simp) ?_
          refine AllReadyH.cons rfl (fun K hK => ?_) AllReadyH.nil
          go_simp
          refine (refSub_c J3.out NR.out.is (Nat.le_trans (J3.out.len HSY.out) (by have := HN.out; omega)) (Nat.le_trans (NR.out.is.len HSM.out) (by have := HN.out; omega))).mono ?_
          rintro e v4 ⟨t24, A24, n24, c24, rfl, i24, hb⟩
          replace E := Lib.hid (E.out.next hb)
          replace NQ := Lib.hid (NQ.out.next hb)
          replace NR := Lib.hid (NR.out.next hb)
          replace J2 := Lib.hid (J2.out.below hb)
          have J4 := Lib.hid i24
          clear hb i24 hHeld J3
          refine hK.out _ _ ⟨NQ.out.c0, NQ.out.c1, E.out.bb.c0, E.out.bb.c1, NR.out.c0, NR.out.c1⟩ (fun hHeld => ?_)
          clear hK K
          clear hHeld
          refine wpAnyH_done (by kernel_rfl) ?_ _
          refine HT.out _ _ ?_
          clear HT hP QT
          have p0 := NQ.out.c0
          have p1 := NQ.out.c1
          have p2 := NQ.out.f0
          have p3 := NQ.out.f1
          refine wpList_step fun K hK => ?_
          go_simp
          refine hK _ _ ?_
          clear hK K
          have J5 := Lib.hid (J4.out.store p0 p1 (.bool t22) (.slice A22 n22 c22))
          have N5 := Lib.hid (NR.out.far (by omega) p0 p1 (.bool t22) (.slice A22 n22 c22))
          replace E := Lib.hid (E.out.putq NQ.out J2.out)
          clear p0 p1 p2 p3 NQ NR J2 J4
          generalize (v4.setCell ⟨b + 1 + 1 + 1 + 1, 0, none⟩ (.bool t22)).setCell ⟨b + 1 + 1 + 1 + 1, 1, none⟩ (.slice A22 n22 c22) = v5 at E J5 N5 ⊢
          have p0 := N5.out.c0
          have p1 := N5.out.c1
          have p2 := N5.out.f0
          have p3 := N5.out.f1
          refine wpList_step fun K hK => ?_
          go_simp
          refine hK _ _ ?_
          clear hK K
          replace E := Lib.hid (E.out.putr N5.out J5.out)
          clear p0 p1 p2 p3 N5 J5
          generalize (v5.setCell ⟨b + 1 + 1 + 1 + 1 + 1, 0, none⟩ (.bool t24)).setCell ⟨b + 1 + 1 + 1 + 1 + 1, 1, none⟩ (.slice A24 n24 c24) = v6 at E ⊢
          refine wpList_nil ?_
          (try clear a0)
          have a0 := E.out.ba.c0
          have b0 := E.out.bb.c0
          go_upto_region 13 with (fail)
          clear a0 b0
          obtain ⟨tq, Aq, nq, cq, hq⟩ := E.out.bq
          obtain ⟨tr, Ar, nr, cr, hr⟩ := E.out.br
          have p0 := hq.c0
          have p1 := hq.c1
          have q0 := hr.c0
          have q1 := hr.c1
          have r0 := E.out.r4.c0
          have r1 := E.out.r4.c1
          have r2 := E.out.r4.f0
          have r3 := E.out.r4.f1
          have s0 := E.out.r5.c0
          have s1 := E.out.r5.c1
          have s2 := E.out.r5.f0
          have s3 := E.out.r5.f1
          have f0 : ¬ b + 1 + 1 = b + 1 + 1 + 1 := by omega
          have f1 : ¬ b + 1 + 1 = b + 1 + 1 + 1 + 1 := by omega
          have f2 : ¬ b + 1 + 1 = b + 1 + 1 + 1 + 1 + 1 := by omega
          have f3 : ¬ b + 1 + 1 + 1 = b + 1 + 1 := by omega
          have f4 : ¬ b + 1 + 1 + 1 = b + 1 + 1 + 1 + 1 := by omega
          have f5 : ¬ b + 1 + 1 + 1 = b + 1 + 1 + 1 + 1 + 1 := by omega
          have HF := Lib.hid (And.intro hq.is hr.is)
          clear hq hr
          go_region
          go_wp2
          generalize hX : (((v6.setCell ⟨b + 1 + 1, 0, none⟩ (.bool tq)).setCell ⟨b + 1 + 1, 1, none⟩ (.slice Aq nq cq)).setCell ⟨b + 1 + 1 + 1, 0, none⟩ (.bool tr)).setCell ⟨b + 1 + 1 + 1, 1, none⟩ (.slice Ar nr cr) = X
          obtain ⟨y0, y1, y2, y3, v1, v2, v3⟩ := two_res E.out.r4 E.out.r5 (by omega) HF.out.1 HF.out.2 E.out.below (by have := E.out.ge; omega) (by have := E.out.ge; omega) hX
          replace y0 := cell_dr y0
          replace y1 := cell_dr y1
          replace y2 := cell_dr y2
          replace y3 := cell_dr y3
          refine bodyPost_ret (v := .tuple #[.agg #[.bool tq, .slice Aq nq cq], .agg #[.bool tr, .slice Ar nr cr]]) (by simp [results, Try.results49, go_sem, y0, y1, y2, y3]) rfl ?_
          have hd := HD.out
          obtain ⟨d1, d2⟩ := hd.2.2.2.2.2 hx HZ.out hy
          refine ⟨_, _, _, _, _, _, _, _, rfl, v3.trans ((Below.refl _ _).drew.mono v3.size), ?_, ?_⟩
          · rw [d1]; exact v1.below (Below.refl _ _).drew
          · rw [d2]; exact v2.below (Below.refl _ _).drew
      · have ht : t' = false := by rw [HS.out.2]; exact decide_eq_false (by omega)
        subst ht
        have HSQ := Lib.hid (show Sz ((Q : Nat) : Int) n from words_len_le.1 (by rw [E.out.ba.is.2.1]; exact words_mono HQX.out))
        have HSM := Lib.hid (show Sz ((M : Nat) : Int) n' from words_len_le.1 (by rw [E.out.bb.is.2.1]; exact words_mono HMY.out))
        have HSY := Lib.hid (show Sz ((y.natAbs : Nat) : Int) n' from words_len_le.1 (by rw [E.out.bb.is.2.1]; exact Nat.le_refl _))
        rcases Nat.eq_zero_or_pos M with hz | hz
        · have HZ := Lib.hid hz
          clear hz
          have HSQ1 := HSQ
          have a0 := E.out.ba.c0
          obtain ⟨tr, Ar, nr, cr, hr⟩ := E.out.br
          have s0 := hr.c0
          have s1 := hr.c1
          have HNR := Lib.hid hr.is.2.1
          have NR := Lib.hid hr
          clear hr
          go_wp2_with fail
          refine (zero_c tr Ar nr cr _).mono ?_
          have hz : decide (nr = 0) = true := decide_eq_true (by rw [HNR.out, show ((M : Nat) : Int).natAbs = M from rfl, HZ.out, words_zero]; rfl)
          rw [hz]
          rintro e w5 ⟨rfl, hb⟩
          replace E := Lib.hid (E.out.next hb)
          replace NR := Lib.hid (NR.out.next hb)
          clear hb hz HNR a0 s0 s1
          clear NR
          (try clear a0)
          have a0 := E.out.ba.c0
          have b0 := E.out.bb.c0
          obtain ⟨tq, Aq, nq, cq, hq⟩ := E.out.bq
          have NQ := Lib.hid hq
          have q0 := hq.c0
          have q1 := hq.c1
          clear hq
          go_wp2_with fail
          refine (refNeg_c NQ.out.is (Nat.le_trans (NQ.out.is.len HSQ1.out) (by have := HN.out; omega))).mono ?_
          rintro e v7 ⟨t27, A27, n27, c27, rfl, i27, hb⟩
          replace E := Lib.hid (E.out.next hb)
          replace NQ := Lib.hid (NQ.out.next hb)
          have J7 := Lib.hid i27
          clear hb i27 a0 b0 q0 q1
          have q0 := NQ.out.c0
          have q1 := NQ.out.c1
          have q2 := NQ.out.f0
          have q3 := NQ.out.f1
          go_upto_region 13 with (fail)
          replace E := Lib.hid (E.out.putq NQ.out J7.out)
          clear q0 q1 q2 q3 NQ J7
          generalize (v7.setCell ⟨b + 1 + 1 + 1 + 1, 0, none⟩ (.bool t27)).setCell ⟨b + 1 + 1 + 1 + 1, 1, none⟩ (.slice A27 n27 c27) = v8 at E ⊢
          obtain ⟨tq, Aq, nq, cq, hq⟩ := E.out.bq
          obtain ⟨tr, Ar, nr, cr, hr⟩ := E.out.br
          have p0 := hq.c0
          have p1 := hq.c1
          have q0 := hr.c0
          have q1 := hr.c1
          have r0 := E.out.r4.c0
          have r1 := E.out.r4.c1
          have r2 := E.out.r4.f0
          have r3 := E.out.r4.f1
          have s0 := E.out.r5.c0
          have s1 := E.out.r5.c1
          have s2 := E.out.r5.f0
          have s3 := E.out.r5.f1
          have f0 : ¬ b + 1 + 1 = b + 1 + 1 + 1 := by omega
          have f1 : ¬ b + 1 + 1 = b + 1 + 1 + 1 + 1 := by omega
          have f2 : ¬ b + 1 + 1 = b + 1 + 1 + 1 + 1 + 1 := by omega
          have f3 : ¬ b + 1 + 1 + 1 = b + 1 + 1 := by omega
          have f4 : ¬ b + 1 + 1 + 1 = b + 1 + 1 + 1 + 1 := by omega
          have f5 : ¬ b + 1 + 1 + 1 = b + 1 + 1 + 1 + 1 + 1 := by omega
          have HF := Lib.hid (And.intro hq.is hr.is)
          clear hq hr
          go_region
          go_wp2
          generalize hX : (((v8.setCell ⟨b + 1 + 1, 0, none⟩ (.bool tq)).setCell ⟨b + 1 + 1, 1, none⟩ (.slice Aq nq cq)).setCell ⟨b + 1 + 1 + 1, 0, none⟩ (.bool tr)).setCell ⟨b + 1 + 1 + 1, 1, none⟩ (.slice Ar nr cr) = X
          obtain ⟨y0, y1, y2, y3, v1, v2, v3⟩ := two_res E.out.r4 E.out.r5 (by omega) HF.out.1 HF.out.2 E.out.below (by have := E.out.ge; omega) (by have := E.out.ge; omega) hX
          replace y0 := cell_dr y0
          replace y1 := cell_dr y1
          replace y2 := cell_dr y2
          replace y3 := cell_dr y3
          refine bodyPost_ret (v := .tuple #[.agg #[.bool tq, .slice Aq nq cq], .agg #[.bool tr, .slice Ar nr cr]]) (by simp [results, Try.results49, go_sem, y0, y1, y2, y3]) rfl ?_
          have hd := HD.out
          obtain ⟨d1, d2⟩ := hd.2.2.1 hx HZ.out (by have := HYN.out; omega)
          refine ⟨_, _, _, _, _, _, _, _, rfl, v3.trans ((Below.refl _ _).drew.mono v3.size), ?_, ?_⟩
          · rw [d1]; exact v1.below (Below.refl _ _).drew
          · rw [d2]; have hm : ((M : Nat) : Int) = 0 := by rw [HZ.out]; rfl
            rw [hm] at v2; exact v2.below (Below.refl _ _).drew
        · have HZ := Lib.hid (show M ≠ 0 by omega)
          clear hz
          have HSQ1 := Lib.hid (show Sz (((Q : Nat) : Int) + 1) (n + 1 + 1) from (HSQ.out.le (Nat.le_succ n)).add (sz_one' (by omega)))
          have a0 := E.out.ba.c0
          obtain ⟨tr, Ar, nr, cr, hr⟩ := E.out.br
          have s0 := hr.c0
          have s1 := hr.c1
          have HNR := Lib.hid hr.is.2.1
          have NR := Lib.hid hr
          clear hr
          go_wp2_with fail
          refine (zero_c tr Ar nr cr _).mono ?_
          have hz : decide (nr = 0) = false := decide_eq_false (fun h => HZ.out (by rw [HNR.out] at h; have h9 := words_len_le.1 (Nat.le_of_eq h); rw [pw_zero] at h9; omega))
          rw [hz]
          rintro e w5 ⟨rfl, hb⟩
          replace E := Lib.hid (E.out.next hb)
          replace NR := Lib.hid (NR.out.next hb)
          clear hb hz HNR a0 s0 s1
          go_upto_region 10 with (fail)
          obtain ⟨tq, Aq, nq, cq, hq⟩ := E.out.bq
          have NQ := Lib.hid hq
          clear hq
          refine wp_region_tail (S := (fun w' => w'.cell? ⟨b + 1 + 1 + 1 + 1, 0, none⟩ = some (.bool tq) ∧ w'.cell? ⟨b + 1 + 1 + 1 + 1, 1, none⟩ = some (.slice Aq nq cq) ∧ w'.cell? ⟨b + 1, 0, none⟩ = some (.bool false) ∧ w'.cell? ⟨b + 1, 1, none⟩ = some (.slice A' n' c') ∧ w'.cell? ⟨b + 1 + 1 + 1 + 1 + 1, 0, none⟩ = some (.bool tr) ∧ w'.cell? ⟨b + 1 + 1 + 1 + 1 + 1, 1, none⟩ = some (.slice Ar nr cr))) 7 (by kernel_rfl) (by kernel_rfl) (by intro c a d v w h; cases d <;> exact h) ⟨cell_dr NQ.out.c0, cell_dr NQ.out.c1, cell_dr E.out.bb.c0, cell_dr E.out.bb.c1, cell_dr NR.out.c0, cell_dr NR.out.c1⟩ (fun QT hT hP hHeld => ?_)
          simp only [List.extract_toArray, List.extract_eq_take_drop, List.drop_zero, Nat.sub_zero, List.take_succ_cons, List.take_zero]
          have HT := Lib.hid hT
          clear hT
          replace E := Lib.hid (E.out.next (Below.refl w5.heap.size w5).drew)
          replace NQ := Lib.hid (NQ.out.next (Below.refl w5.heap.size w5).drew)
          replace NR := Lib.hid (NR.out.next (Below.refl w5.heap.size w5).drew)
          generalize w5.drew = D5 at E NQ NR hHeld ⊢
          refine take_on (i := 0) (d := (some 58)) (v := ?v15) rfl rfl (by kernel_rfl) (by kernel_rfl) (by kernel_rfl) (fun c a w h => hP c a _ _ w h) (by rfl) ?h15 (by assumption) ?r15
          case h15 => intro w hSw; obtain ⟨h0, h1, h2, h3, h4, h5⟩ := hSw; go_simp; rfl
          simp only [Act.put, List.setIfInBounds_toArray, List.set_cons_zero, List.set_cons_succ]
          refine take_on (i := 3) (d := (some 61)) (v := ?v16) rfl rfl (by kernel_rfl) (by kernel_rfl) (by kernel_rfl) (fun c a w h => hP c a _ _ w h) (by rfl) ?h16 (by assumption) ?r16
          case h16 => intro w hSw; obtain ⟨h0, h1, h2, h3, h4, h5⟩ := hSw; go_simp; rfl
          simp only [Act.put, List.setIfInBounds_toArray, List.set_cons_zero, List.set_cons_succ]
          refine take_on (i := 5) (d := (some 63)) (v := ?v17) rfl rfl (by kernel_rfl) (by kernel_rfl) (by kernel_rfl) (fun c a w h => hP c a _ _ w h) (by rfl) ?h17 (by assumption) ?r17
          case h17 => intro w hSw; obtain ⟨h0, h1, h2, h3, h4, h5⟩ := hSw; go_simp; rfl
          simp only [Act.put, List.setIfInBounds_toArray, List.set_cons_zero, List.set_cons_succ]
          refine wpAnyH_ready (rs := [1]) (by kernel_rfl) (by simp) ?_
          refine AllReadyH.cons rfl (fun K hK => ?_) AllReadyH.nil
          go_simp
          refine (refOf_c 1 _ (by omega) (by omega)).mono ?_
          rintro e v1 h1
          obtain ⟨t21, A21, n21, c21, rfl, i21, hb⟩ := h1.numI
          replace E := Lib.hid (E.out.next hb)
          replace NQ := Lib.hid (NQ.out.next hb)
          replace NR := Lib.hid (NR.out.next hb)
          have J1 := Lib.hid i21
          clear hb i21 h1 hHeld
          refine hK.out _ _ ⟨NQ.out.c0, NQ.out.c1, E.out.bb.c0, E.out.bb.c1, NR.out.c0, NR.out.c1⟩ (fun hHeld => ?_)
          clear hK K
          refine wpAnyH_ready (rs := [2]) (by kernel_rfl) (by simp) ?_
          refine AllReadyH.cons rfl (fun K hK => ?_) AllReadyH.nil
          go_simp
          refine (refAdd_c NQ.out.is J1.out (Nat.le_trans (NQ.out.is.len HSQ.out) (by have := HN.out; omega)) (Nat.le_trans (J1.out.len (sz_one' (Nat.le_refl 1))) (by omega))).mono ?_
          rintro e v2 ⟨t22, A22, n22, c22, rfl, i22, hb⟩
          replace E := Lib.hid (E.out.next hb)
          replace NQ := Lib.hid (NQ.out.next hb)
          replace NR := Lib.hid (NR.out.next hb)
          have J2 := Lib.hid i22
          clear hb i22 hHeld J1
          refine hK.out _ _ ⟨NQ.out.c0, NQ.out.c1, E.out.bb.c0, E.out.bb.c1, NR.out.c0, NR.out.c1⟩ (fun hHeld => ?_)
          clear hK K
          refine wpAnyH_ready (rs := [4]) (by kernel_rfl) (by simp) ?_
          refine AllReadyH.cons rfl (fun K hK => ?_) AllReadyH.nil
          go_simp
          refine (refAbs2_c E.out.bb.is (by have := HN.out; omega)).mono ?_
          rintro e v3 ⟨t23, A23, n23, c23, rfl, i23, hb⟩
          replace E := Lib.hid (E.out.next hb)
          replace NQ := Lib.hid (NQ.out.next hb)
          replace NR := Lib.hid (NR.out.next hb)
          replace J2 := Lib.hid (J2.out.below hb)
          have J3 := Lib.hid i23
          clear hb i23 hHeld
          refine hK.out _ _ ⟨NQ.out.c0, NQ.out.c1, E.out.bb.c0, E.out.bb.c1, NR.out.c0, NR.out.c1⟩ (fun hHeld => ?_)
          clear hK K
          refine wpAnyH_ready (rs := [6]) (by kernel_rfl) (by simp) ?_
          refine AllReadyH.cons rfl (fun K hK => ?_) AllReadyH.nil
          go_simp
          refine (refSub_c J3.out NR.out.is (Nat.le_trans (J3.out.len HSY.out) (by have := HN.out; omega)) (Nat.le_trans (NR.out.is.len HSM.out) (by have := HN.out; omega))).mono ?_
          rintro e v4 ⟨t24, A24, n24, c24, rfl, i24, hb⟩
          replace E := Lib.hid (E.out.next hb)
          replace NQ := Lib.hid (NQ.out.next hb)
          replace NR := Lib.hid (NR.out.next hb)
          replace J2 := Lib.hid (J2.out.below hb)
          have J4 := Lib.hid i24
          clear hb i24 hHeld J3
          refine hK.out _ _ ⟨NQ.out.c0, NQ.out.c1, E.out.bb.c0, E.out.bb.c1, NR.out.c0, NR.out.c1⟩ (fun hHeld => ?_)
          clear hK K
          clear hHeld
          refine wpAnyH_done (by kernel_rfl) ?_ _
          refine HT.out _ _ ?_
          clear HT hP QT
          have p0 := NQ.out.c0
          have p1 := NQ.out.c1
          have p2 := NQ.out.f0
          have p3 := NQ.out.f1
          refine wpList_step fun K hK => ?_
          go_simp
          refine hK _ _ ?_
          clear hK K
          have J5 := Lib.hid (J4.out.store p0 p1 (.bool t22) (.slice A22 n22 c22))
          have N5 := Lib.hid (NR.out.far (by omega) p0 p1 (.bool t22) (.slice A22 n22 c22))
          replace E := Lib.hid (E.out.putq NQ.out J2.out)
          clear p0 p1 p2 p3 NQ NR J2 J4
          generalize (v4.setCell ⟨b + 1 + 1 + 1 + 1, 0, none⟩ (.bool t22)).setCell ⟨b + 1 + 1 + 1 + 1, 1, none⟩ (.slice A22 n22 c22) = v5 at E J5 N5 ⊢
          have p0 := N5.out.c0
          have p1 := N5.out.c1
          have p2 := N5.out.f0
          have p3 := N5.out.f1
          refine wpList_step fun K hK => ?_
          go_simp
          refine hK _ _ ?_
          clear hK K
          replace E := Lib.hid (E.out.putr N5.out J5.out)
          clear p0 p1 p2 p3 N5 J5
          generalize (v5.setCell ⟨b + 1 + 1 + 1 + 1 + 1, 0, none⟩ (.bool t24)).setCell ⟨b + 1 + 1 + 1 + 1 + 1, 1, none⟩ (.slice A24 n24 c24) = v6 at E ⊢
          refine wpList_nil ?_
          (try clear a0)
          have a0 := E.out.ba.c0
          have b0 := E.out.bb.c0
          obtain ⟨tq, Aq, nq, cq, hq⟩ := E.out.bq
          have NQ := Lib.hid hq
          have q0 := hq.c0
          have q1 := hq.c1
          clear hq
          go_wp2_with fail
          refine (refNeg_c NQ.out.is (Nat.le_trans (NQ.out.is.len HSQ1.out) (by have := HN.out; omega))).mono ?_
          rintro e v7 ⟨t27, A27, n27, c27, rfl, i27, hb⟩
          replace E := Lib.hid (E.out.next hb)
          replace NQ := Lib.hid (NQ.out.next hb)
          have J7 := Lib.hid i27
          clear hb i27 a0 b0 q0 q1
          have q0 := NQ.out.c0
          have q1 := NQ.out.c1
          have q2 := NQ.out.f0
          have q3 := NQ.out.f1
          go_upto_region 13 with (fail)
          replace E := Lib.hid (E.out.putq NQ.out J7.out)
          clear q0 q1 q2 q3 NQ J7
          generalize (v7.setCell ⟨b + 1 + 1 + 1 + 1, 0, none⟩ (.bool t27)).setCell ⟨b + 1 + 1 + 1 + 1, 1, none⟩ (.slice A27 n27 c27) = v8 at E ⊢
          obtain ⟨tq, Aq, nq, cq, hq⟩ := E.out.bq
          obtain ⟨tr, Ar, nr, cr, hr⟩ := E.out.br
          have p0 := hq.c0
          have p1 := hq.c1
          have q0 := hr.c0
          have q1 := hr.c1
          have r0 := E.out.r4.c0
          have r1 := E.out.r4.c1
          have r2 := E.out.r4.f0
          have r3 := E.out.r4.f1
          have s0 := E.out.r5.c0
          have s1 := E.out.r5.c1
          have s2 := E.out.r5.f0
          have s3 := E.out.r5.f1
          have f0 : ¬ b + 1 + 1 = b + 1 + 1 + 1 := by omega
          have f1 : ¬ b + 1 + 1 = b + 1 + 1 + 1 + 1 := by omega
          have f2 : ¬ b + 1 + 1 = b + 1 + 1 + 1 + 1 + 1 := by omega
          have f3 : ¬ b + 1 + 1 + 1 = b + 1 + 1 := by omega
          have f4 : ¬ b + 1 + 1 + 1 = b + 1 + 1 + 1 + 1 := by omega
          have f5 : ¬ b + 1 + 1 + 1 = b + 1 + 1 + 1 + 1 + 1 := by omega
          have HF := Lib.hid (And.intro hq.is hr.is)
          clear hq hr
          go_region
          go_wp2
          generalize hX : (((v8.setCell ⟨b + 1 + 1, 0, none⟩ (.bool tq)).setCell ⟨b + 1 + 1, 1, none⟩ (.slice Aq nq cq)).setCell ⟨b + 1 + 1 + 1, 0, none⟩ (.bool tr)).setCell ⟨b + 1 + 1 + 1, 1, none⟩ (.slice Ar nr cr) = X
          obtain ⟨y0, y1, y2, y3, v1, v2, v3⟩ := two_res E.out.r4 E.out.r5 (by omega) HF.out.1 HF.out.2 E.out.below (by have := E.out.ge; omega) (by have := E.out.ge; omega) hX
          replace y0 := cell_dr y0
          replace y1 := cell_dr y1
          replace y2 := cell_dr y2
          replace y3 := cell_dr y3
          refine bodyPost_ret (v := .tuple #[.agg #[.bool tq, .slice Aq nq cq], .agg #[.bool tr, .slice Ar nr cr]]) (by simp [results, Try.results49, go_sem, y0, y1, y2, y3]) rfl ?_
          have hd := HD.out
          obtain ⟨d1, d2⟩ := hd.2.2.2.2.1 hx HZ.out (by have := HYN.out; omega)
          refine ⟨_, _, _, _, _, _, _, _, rfl, v3.trans ((Below.refl _ _).drew.mono v3.size), ?_, ?_⟩
          · rw [d1]; exact v1.below (Below.refl _ _).drew
          · rw [d2]; exact v2.below (Below.refl _ _).drew
    · have ht : t = false := by rw [HS.out.1]; exact decide_eq_false (by omega)
      subst ht
      rcases Int.lt_or_le y 0 with hy | hy
      · have ht : t' = true := by rw [HS.out.2]; exact decide_eq_true hy
        subst ht
        have HSQ := Lib.hid (show Sz ((Q : Nat) : Int) n from words_len_le.1 (by rw [E.out.ba.is.2.1]; exact words_mono HQX.out))
        have HSM := Lib.hid (show Sz ((M : Nat) : Int) n' from words_len_le.1 (by rw [E.out.bb.is.2.1]; exact words_mono HMY.out))
        have HSY := Lib.hid (show Sz ((y.natAbs : Nat) : Int) n' from words_len_le.1 (by rw [E.out.bb.is.2.1]; exact Nat.le_refl _))
        have HSQ1 := HSQ
        have a0 := E.out.ba.c0
        (try clear a0)
        have a0 := E.out.ba.c0
        have b0 := E.out.bb.c0
        obtain ⟨tq, Aq, nq, cq, hq⟩ := E.out.bq
        have NQ := Lib.hid hq
        have q0 := hq.c0
        have q1 := hq.c1
        clear hq
        go_wp2_with fail
        refine (refNeg_c NQ.out.is (Nat.le_trans (NQ.out.is.len HSQ1.out) (by have := HN.out; omega))).mono ?_
        rintro e v7 ⟨t27, A27, n27, c27, rfl, i27, hb⟩
        replace E := Lib.hid (E.out.next hb)
        replace NQ := Lib.hid (NQ.out.next hb)
        have J7 := Lib.hid i27
        clear hb i27 a0 b0 q0 q1
        have q0 := NQ.out.c0
        have q1 := NQ.out.c1
        have q2 := NQ.out.f0
        have q3 := NQ.out.f1
        go_upto_region 13 with (fail)
        replace E := Lib.hid (E.out.putq NQ.out J7.out)
        clear q0 q1 q2 q3 NQ J7
        generalize (v7.setCell ⟨b + 1 + 1 + 1 + 1, 0, none⟩ (.bool t27)).setCell ⟨b + 1 + 1 + 1 + 1, 1, none⟩ (.slice A27 n27 c27) = v8 at E ⊢
        obtain ⟨tq, Aq, nq, cq, hq⟩ := E.out.bq
        obtain ⟨tr, Ar, nr, cr, hr⟩ := E.out.br
        have p0 := hq.c0
        have p1 := hq.c1
        have q0 := hr.c0
        have q1 := hr.c1
        have r0 := E.out.r4.c0
        have r1 := E.out.r4.c1
        have r2 := E.out.r4.f0
        have r3 := E.out.r4.f1
        have s0 := E.out.r5.c0
        have s1 := E.out.r5.c1
        have s2 := E.out.r5.f0
        have s3 := E.out.r5.f1
        have f0 : ¬ b + 1 + 1 = b + 1 + 1 + 1 := by omega
        have f1 : ¬ b + 1 + 1 = b + 1 + 1 + 1 + 1 := by omega
        have f2 : ¬ b + 1 + 1 = b + 1 + 1 + 1 + 1 + 1 := by omega
        have f3 : ¬ b + 1 + 1 + 1 = b + 1 + 1 := by omega
        have f4 : ¬ b + 1 + 1 + 1 = b + 1 + 1 + 1 + 1 := by omega
        have f5 : ¬ b + 1 + 1 + 1 = b + 1 + 1 + 1 + 1 + 1 := by omega
        have HF := Lib.hid (And.intro hq.is hr.is)
        clear hq hr
        go_region
        go_wp2
        generalize hX : (((v8.setCell ⟨b + 1 + 1, 0, none⟩ (.bool tq)).setCell ⟨b + 1 + 1, 1, none⟩ (.slice Aq nq cq)).setCell ⟨b + 1 + 1 + 1, 0, none⟩ (.bool tr)).setCell ⟨b + 1 + 1 + 1, 1, none⟩ (.slice Ar nr cr) = X
        obtain ⟨y0, y1, y2, y3, v1, v2, v3⟩ := two_res E.out.r4 E.out.r5 (by omega) HF.out.1 HF.out.2 E.out.below (by have := E.out.ge; omega) (by have := E.out.ge; omega) hX
        replace y0 := cell_dr y0
        replace y1 := cell_dr y1
        replace y2 := cell_dr y2
        replace y3 := cell_dr y3
        refine bodyPost_ret (v := .tuple #[.agg #[.bool tq, .slice Aq nq cq], .agg #[.bool tr, .slice Ar nr cr]]) (by simp [results, Try.results49, go_sem, y0, y1, y2, y3]) rfl ?_
        have hd := HD.out
        obtain ⟨d1, d2⟩ := hd.2.1 hx hy
        refine ⟨_, _, _, _, _, _, _, _, rfl, v3.trans ((Below.refl _ _).drew.mono v3.size), ?_, ?_⟩
        · rw [d1]; exact v1.below (Below.refl _ _).drew
        · rw [d2]; exact v2.below (Below.refl _ _).drew
      · have ht : t' = false := by rw [HS.out.2]; exact decide_eq_false (by omega)
        subst ht
        have HSQ := Lib.hid (show Sz ((Q : Nat) : Int) n from words_len_le.1 (by rw [E.out.ba.is.2.1]; exact words_mono HQX.out))
        have HSM := Lib.hid (show Sz ((M : Nat) : Int) n' from words_len_le.1 (by rw [E.out.bb.is.2.1]; exact words_mono HMY.out))
        have HSY := Lib.hid (show Sz ((y.natAbs : Nat) : Int) n' from words_len_le.1 (by rw [E.out.bb.is.2.1]; exact Nat.le_refl _))
        have HSQ1 := HSQ
        have a0 := E.out.ba.c0
        (try clear a0)
        have a0 := E.out.ba.c0
        have b0 := E.out.bb.c0
        go_upto_region 13 with (fail)
        clear a0 b0
        obtain ⟨tq, Aq, nq, cq, hq⟩ := E.out.bq
        obtain ⟨tr, Ar, nr, cr, hr⟩ := E.out.br
        have p0 := hq.c0
        have p1 := hq.c1
        have q0 := hr.c0
        have q1 := hr.c1
        have r0 := E.out.r4.c0
        have r1 := E.out.r4.c1
        have r2 := E.out.r4.f0
        have r3 := E.out.r4.f1
        have s0 := E.out.r5.c0
        have s1 := E.out.r5.c1
        have s2 := E.out.r5.f0
        have s3 := E.out.r5.f1
        have f0 : ¬ b + 1 + 1 = b + 1 + 1 + 1 := by omega
        have f1 : ¬ b + 1 + 1 = b + 1 + 1 + 1 + 1 := by omega
        have f2 : ¬ b + 1 + 1 = b + 1 + 1 + 1 + 1 + 1 := by omega
        have f3 : ¬ b + 1 + 1 + 1 = b + 1 + 1 := by omega
        have f4 : ¬ b + 1 + 1 + 1 = b + 1 + 1 + 1 + 1 := by omega
        have f5 : ¬ b + 1 + 1 + 1 = b + 1 + 1 + 1 + 1 + 1 := by omega
        have HF := Lib.hid (And.intro hq.is hr.is)
        clear hq hr
        go_region
        go_wp2
        generalize hX : (((wc.setCell ⟨b + 1 + 1, 0, none⟩ (.bool tq)).setCell ⟨b + 1 + 1, 1, none⟩ (.slice Aq nq cq)).setCell ⟨b + 1 + 1 + 1, 0, none⟩ (.bool tr)).setCell ⟨b + 1 + 1 + 1, 1, none⟩ (.slice Ar nr cr) = X
        obtain ⟨y0, y1, y2, y3, v1, v2, v3⟩ := two_res E.out.r4 E.out.r5 (by omega) HF.out.1 HF.out.2 E.out.below (by have := E.out.ge; omega) (by have := E.out.ge; omega) hX
        replace y0 := cell_dr y0
        replace y1 := cell_dr y1
        replace y2 := cell_dr y2
        replace y3 := cell_dr y3
        refine bodyPost_ret (v := .tuple #[.agg #[.bool tq, .slice Aq nq cq], .agg #[.bool tr, .slice Ar nr cr]]) (by simp [results, Try.results49, go_sem, y0, y1, y2, y3]) rfl ?_
        have hd := HD.out
        obtain ⟨d1, d2⟩ := hd.1 hx (by have := HYN.out; omega)
        refine ⟨_, _, _, _, _, _, _, _, rfl, v3.trans ((Below.refl _ _).drew.mono v3.size), ?_, ?_⟩
        · rw [d1]; exact v1.below (Below.refl _ _).drew
        · rw [d2]; exact v2.below (Below.refl _ _).drew
end Go.Proofs.Ytbblckaplddggaa

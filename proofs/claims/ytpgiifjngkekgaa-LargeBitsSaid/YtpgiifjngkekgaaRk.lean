import Derived.Test.YtpgiifjngkekgaaRj
namespace Go.Proofs.Ytpgiifjngkekgaa
open Go.RowKit

set_option maxHeartbeats 400000 in
theorem fits_c (s : Bool) (A : Option Addr) (n c : Nat) (w : World) : Calls Try.prog 53 #[.agg #[.bool s, .slice A n c]] w fun e w' => e = .returned (.bool (decide (n ≤ 4096))) ∧ Below w.heap.size w w' := by
  by_cases h : n ≤ 4096
  · have H := Lib.hid (show decide (n ≤ 4096) = true from decide_eq_true h)
    go_enter Try.func53, Try.ntmps53
    go_wp2
    go_ret
    exact ⟨by rw [H.out]; simp; omega, below_alloc _ _⟩
  · have H := Lib.hid (show decide (n ≤ 4096) = false from decide_eq_false h)
    go_enter Try.func53, Try.ntmps53
    go_wp2
    go_ret
    exact ⟨by rw [H.out]; simp; omega, below_alloc _ _⟩
theorem same_zero (w : World) : Calls Try.prog 28 #[.agg #[.bool false, .slice none 0 0], .agg #[.bool false, .slice none 0 0]] w fun e w' => e = .returned (.bool true) ∧ Below w.heap.size w w' :=
  (Same_c false false none none 0 0 0 0 [] [] w (Rd.nil _) (Rd.nil _) (by omega)).mono fun _ _ ⟨he, hb⟩ => ⟨by rw [he]; rfl, hb⟩

set_option maxHeartbeats 400000 in
theorem no_c (k : Int) (w : World) : Calls Try.prog 17 #[.agg #[.bool false, .slice none 0 0], .int .i64 k, .int .i64 k] w fun e w' => e = .returned (.bool true) ∧ Below w.heap.size w w' := by
  have t : (k == k) = true := by simp
  have hb := below_alloc w (.cells #[.bool false, .slice none 0 0] 24)
  have HB := Lib.hid hb
  clear hb
  go_enter Try.func17, Try.ntmps17
  go_wp2_with fail
  refine (same_zero _).mono ?_
  rintro e w1 ⟨rfl, hb⟩
  have H := Lib.hid (HB.out.trans (hb.mono HB.out.size))
  clear hb
  go_wp2
  go_ret
  exact ⟨rfl, H.out⟩

set_option maxHeartbeats 1000000 in
theorem is_c {w : World} {z k : Int} {t t' : Bool} {B B' : Option Addr} {m d m' d' : Nat} (h : NumIs w z t B m d k) (h' : Is w z t' B' m' d') :
    Calls Try.prog 19 #[.agg #[.bool t, .slice B m d], .int .i64 k, .agg #[.bool t', .slice B' m' d']] w fun e w' => e = .returned (.bool true) ∧ Below w.heap.size w w' := by
  by_cases hf : m' ≤ 4096
  · obtain ⟨rfl, hi⟩ := h.is_ (by rw [← h'.2.1]; exact hf)
    have HI := Lib.hid hi
    have HJ := Lib.hid h'
    have hsz := Lib.hid (show Sz z 4096 by show z.natAbs < pw 4096; exact words_len_le.1 (by rw [← h'.2.1]; exact hf))
    have HF := Lib.hid (show decide (m' ≤ 4096) = true from decide_eq_true hf)
    clear h hi h' hf
    have E := Env2.start w t t' B B' m d m' d'
    have HE := Lib.hid E
    clear E
    go_enter Try.func19, Try.ntmps19
    go_wp2_with fail
    generalize (w.alloc (.cells #[.bool t, .slice B m d] 24)).alloc (.cells #[.bool t', .slice B' m' d'] 24) = W at HE ⊢
    refine (fits_c t' B' m' d' _).mono ?_
    rintro e w1 ⟨rfl, hb⟩
    rw [HF.out]
    have E1 := Lib.hid (HE.out.next hb)
    clear hb
    have a0 := E1.out.a0
    have a1 := E1.out.a1
    have b0 := E1.out.b0
    have b1 := E1.out.b1
    go_wp2_with fail
    refine (same_eq (k := 4096) (HI.out.below E1.out.below) (HJ.out.below E1.out.below) hsz.out (Nat.le_refl _) rfl).mono ?_
    rintro e w2 ⟨rfl, hb⟩
    have H := Lib.hid (E1.out.below.trans (hb.mono E1.out.below.size))
    clear hb a0 a1 b0 b1
    go_wp2
    go_ret
    exact ⟨rfl, H.out⟩
  · obtain ⟨rfl, rfl, rfl, rfl, rfl⟩ := h.2 (by rw [← h'.2.1]; exact hf)
    have HF := Lib.hid (show decide (m' ≤ 4096) = false from decide_eq_false hf)
    clear h h' hf
    have E := Env2.start w false t' none B' 0 0 m' d'
    have HE := Lib.hid E
    clear E
    go_enter Try.func19, Try.ntmps19
    go_wp2_with fail
    generalize (w.alloc (.cells #[.bool false, .slice none 0 0] 24)).alloc (.cells #[.bool t', .slice B' m' d'] 24) = W at HE ⊢
    refine (fits_c t' B' m' d' _).mono ?_
    rintro e w1 ⟨rfl, hb⟩
    rw [HF.out]
    have E1 := Lib.hid (HE.out.next hb)
    clear hb
    have a0 := E1.out.a0
    have a1 := E1.out.a1
    have b0 := E1.out.b0
    have b1 := E1.out.b1
    go_wp2_with fail
    refine (same_zero _).mono ?_
    rintro e w2 ⟨rfl, hb⟩
    have H := Lib.hid (E1.out.below.trans (hb.mono E1.out.below.size))
    clear hb a0 a1 b0 b1
    go_wp2
    go_ret
    exact ⟨rfl, H.out⟩

theorem is_zero (w : World) : Is w 0 false none 0 0 := by
  have e : words (0 : Int).natAbs = [] := words_zero
  exact ⟨rfl, by rw [e]; rfl, by rw [e]; exact Rd.nil _, Nat.le_refl _, by omega⟩
/-- block b is a box that holds a number or, where it is too long, 0 -/
structure NBox (W : World) (b : Nat) (z : Int) (t : Bool) (A : Option Addr) (n c : Nat) (k : Int) : Prop where
  lt : b < W.heap.size
  c0 : W.cell? ⟨b, 0, none⟩ = some (.bool t)
  c1 : W.cell? ⟨b, 1, none⟩ = some (.slice A n c)
  num : NumIs W z t A n c k
theorem NBox.next {W w1 : World} {b : Nat} {z k : Int} {t : Bool} {A : Option Addr} {n c : Nat} (h : NBox W b z t A n c k) (hb : Below W.heap.size W w1) : NBox w1 b z t A n c k :=
  ⟨Nat.lt_of_lt_of_le h.lt hb.size, (hb.cell (p := ⟨b, 0, none⟩) h.lt).trans h.c0, (hb.cell (p := ⟨b, 1, none⟩) h.lt).trans h.c1, h.num.below hb⟩
theorem NBox.new {W : World} {z k : Int} {t : Bool} {A : Option Addr} {n c : Nat} (h : NumIs W z t A n c k) : NBox (W.alloc (.cells #[.bool t, .slice A n c] 24)) W.heap.size z t A n c k :=
  ⟨by simp, by go_simp, by go_simp, h.below (below_alloc _ _)⟩
theorem NBox.alloc {W : World} {b : Nat} {z k : Int} {t : Bool} {A : Option Addr} {n c : Nat} (h : NBox W b z t A n c k) (o : Obj) : NBox (W.alloc o) b z t A n c k := h.next (below_alloc _ _)

set_option maxHeartbeats 4000000 in
set_option maxRecDepth 100000 in
theorem LargeSums_c (s1 s2 : Bool) (A1 A2 : Option Addr) (n1 c1 n2 c2 : Nat) (xs1 xs2 : List Nat) (w : World) (h1 : Rd w A1 n1 xs1) (h2 : Rd w A2 n2 xs2) (k1 : n1 ≤ c1) (k2 : n2 ≤ c2) (e1 : c1 ≤ 9223372036854775807) (e2 : c2 ≤ 9223372036854775807) :
    Calls Try.prog 3 #[.agg #[.bool s1, .slice A1 n1 c1], .agg #[.bool s2, .slice A2 n2 c2]] w fun e w' => e = .returned (.bool true) ∧ Below w.heap.size w w' := by
  have E := Env2.start w s1 s2 A1 A2 n1 c1 n2 c2
  have R1 := Lib.hid (h1.below E.below)
  have R2 := Lib.hid (h2.below E.below)
  have HE := Lib.hid E
  have HK := Lib.hid (And.intro (And.intro k1 e1) (And.intro k2 e2))
  clear E h1 h2 k1 k2 e1 e2
  go_enter Try.func3, Try.ntmps3
  by_cases l1 : 4200 < n1
  · go_wp2_with fail
    have P := Lib.hid HE.out.below
    clear HE R1 R2 HK
    refine (awake_c _).mono ?_
    rintro e w9 ⟨rfl, hb⟩
    replace P := Lib.hid (P.out.trans (hb.mono P.out.size))
    clear hb
    go_wp2
    go_ret
    exact ⟨rfl, P.out⟩
  by_cases l2 : 4200 < n2
  · go_wp2_with fail
    have P := Lib.hid HE.out.below
    clear HE R1 R2 HK
    refine (awake_c _).mono ?_
    rintro e w9 ⟨rfl, hb⟩
    replace P := Lib.hid (P.out.trans (hb.mono P.out.size))
    clear hb
    go_wp2
    go_ret
    exact ⟨rfl, P.out⟩
  by_cases hv : (validB s1 xs1 && validB s2 xs2) = true
  · rw [Bool.and_eq_true] at hv
    obtain ⟨v1, v2⟩ := hv
    have I1 := Is.of_valid R1.out v1 HK.out.1.1 HK.out.1.2
    have I2 := Is.of_valid R2.out v2 HK.out.2.1 HK.out.2.2
    have V1 := Lib.hid v1
    have V2 := Lib.hid v2
    have S1 := sz_valid (k := 4096) (s := s1) R1.out (by have := (valid_canon R1.out.sm v1).2.1; rw [R1.out.len] at this; exact this)
    have S2 := sz_valid (k := 4096) (s := s2) R2.out (by have := (valid_canon R2.out.sm v2).2.1; rw [R2.out.len] at this; exact this)
    obtain ⟨z1, hz1⟩ : ∃ z, z = sgn s1 (val xs1) := ⟨_, rfl⟩
    obtain ⟨z2, hz2⟩ : ∃ z, z = sgn s2 (val xs2) := ⟨_, rfl⟩
    rw [← hz1] at I1 S1
    rw [← hz2] at I2 S2
    have J1 := Lib.hid I1
    have J2 := Lib.hid I2
    clear v1 v2 hz1 hz2 I1 I2 HK
    have a0 := HE.out.a0
    have a1 := HE.out.a1
    have b0 := HE.out.b0
    have b1 := HE.out.b1
    go_wp2_with fail
    generalize (w.alloc (.cells #[.bool s1, .slice A1 n1 c1] 24)).alloc (.cells #[.bool s2, .slice A2 n2 c2] 24) = W at HE R1 R2 J1 J2 a0 a1 b0 b1 ⊢
    refine (Cmp_is (k := 4096) J1.out J2.out S1 S2 (Nat.le_refl _)).mono ?_
    rintro e x1 ⟨rfl, hb⟩
    replace HE := Lib.hid (HE.out.next hb)
    replace J1 := Lib.hid (J1.out.below hb)
    replace J2 := Lib.hid (J2.out.below hb)
    replace R1 := Lib.hid (R1.out.below hb)
    replace R2 := Lib.hid (R2.out.below hb)
    clear hb a0 a1 b0 b1
    have a0 := HE.out.a0
    have a1 := HE.out.a1
    have b0 := HE.out.b0
    have b1 := HE.out.b1
    go_wp2_with fail
    clear a0 a1 b0 b1
    refine (Add_is (k := 4096) J1.out J2.out S1 S2 (Nat.le_refl _)).mono ?_
    rintro e w_s ⟨t_s, B_s, m_s, d_s, k_s, rfl, hi, hb⟩
    have H_s := Lib.hid (NBox.new hi)
    replace HE := Lib.hid ((HE.out.next hb).alloc (.cells #[.bool t_s, .slice B_s m_s d_s] 24))
    replace J1 := Lib.hid ((J1.out.below hb).below (below_alloc w_s (.cells #[.bool t_s, .slice B_s m_s d_s] 24)))
    replace J2 := Lib.hid ((J2.out.below hb).below (below_alloc w_s (.cells #[.bool t_s, .slice B_s m_s d_s] 24)))
    replace R1 := Lib.hid ((R1.out.below hb).below (below_alloc w_s (.cells #[.bool t_s, .slice B_s m_s d_s] 24)))
    replace R2 := Lib.hid ((R2.out.below hb).below (below_alloc w_s (.cells #[.bool t_s, .slice B_s m_s d_s] 24)))
    clear hi hb
    have a0 := HE.out.a0
    have a1 := HE.out.a1
    have b0 := HE.out.b0
    have b1 := HE.out.b1
    go_wp2_with fail
    clear a0 a1 b0 b1
    generalize w_s.alloc (.cells #[.bool t_s, .slice B_s m_s d_s] 24) = v_s at HE J1 J2 R1 R2 H_s ⊢
    refine (Sub_is (k := 4096) J1.out J2.out S1 S2 (Nat.le_refl _)).mono ?_
    rintro e w_d ⟨t_d, B_d, m_d, d_d, k_d, rfl, hi, hb⟩
    replace H_s := Lib.hid ((H_s.out.next hb).alloc (.cells #[.bool t_d, .slice B_d m_d d_d] 24))
    have H_d := Lib.hid (NBox.new hi)
    replace HE := Lib.hid ((HE.out.next hb).alloc (.cells #[.bool t_d, .slice B_d m_d d_d] 24))
    replace J1 := Lib.hid ((J1.out.below hb).below (below_alloc w_d (.cells #[.bool t_d, .slice B_d m_d d_d] 24)))
    replace J2 := Lib.hid ((J2.out.below hb).below (below_alloc w_d (.cells #[.bool t_d, .slice B_d m_d d_d] 24)))
    replace R1 := Lib.hid ((R1.out.below hb).below (below_alloc w_d (.cells #[.bool t_d, .slice B_d m_d d_d] 24)))
    replace R2 := Lib.hid ((R2.out.below hb).below (below_alloc w_d (.cells #[.bool t_d, .slice B_d m_d d_d] 24)))
    clear hi hb
    have a0 := HE.out.a0
    have a1 := HE.out.a1
    have b0 := HE.out.b0
    have b1 := HE.out.b1
    go_wp2_with fail
    clear a0 a1 b0 b1
    generalize w_d.alloc (.cells #[.bool t_d, .slice B_d m_d d_d] 24) = v_d at HE J1 J2 R1 R2 H_s H_d ⊢
    refine (Mul_is (k := 4096) J1.out J2.out S1 S2 (Nat.le_refl _)).mono ?_
    rintro e w_p ⟨t_p, B_p, m_p, d_p, k_p, rfl, hi, hb⟩
    replace H_s := Lib.hid ((H_s.out.next hb).alloc (.cells #[.bool t_p, .slice B_p m_p d_p] 24))
    replace H_d := Lib.hid ((H_d.out.next hb).alloc (.cells #[.bool t_p, .slice B_p m_p d_p] 24))
    have H_p := Lib.hid (NBox.new hi)
    replace HE := Lib.hid ((HE.out.next hb).alloc (.cells #[.bool t_p, .slice B_p m_p d_p] 24))
    replace J1 := Lib.hid ((J1.out.below hb).below (below_alloc w_p (.cells #[.bool t_p, .slice B_p m_p d_p] 24)))
    replace J2 := Lib.hid ((J2.out.below hb).below (below_alloc w_p (.cells #[.bool t_p, .slice B_p m_p d_p] 24)))
    replace R1 := Lib.hid ((R1.out.below hb).below (below_alloc w_p (.cells #[.bool t_p, .slice B_p m_p d_p] 24)))
    replace R2 := Lib.hid ((R2.out.below hb).below (below_alloc w_p (.cells #[.bool t_p, .slice B_p m_p d_p] 24)))
    clear hi hb
    have a0 := HE.out.a0
    have a1 := HE.out.a1
    have b0 := HE.out.b0
    have b1 := HE.out.b1
    go_wp2_with fail
    generalize w_p.alloc (.cells #[.bool t_p, .slice B_p m_p d_p] 24) = v_p at HE J1 J2 R1 R2 H_s H_d H_p a0 a1 b0 b1 ⊢
    clear a0 a1 b0 b1
    replace HE := Lib.hid (HE.out.next (Below.refl _ _).drew)
    replace J1 := Lib.hid (J1.out.below (Below.refl _ _).drew)
    replace J2 := Lib.hid (J2.out.below (Below.refl _ _).drew)
    replace R1 := Lib.hid (R1.out.below (Below.refl _ _).drew)
    replace R2 := Lib.hid (R2.out.below (Below.refl _ _).drew)
    replace H_s := Lib.hid (H_s.out.next (Below.refl _ _).drew)
    replace H_d := Lib.hid (H_d.out.next (Below.refl _ _).drew)
    replace H_p := Lib.hid (H_p.out.next (Below.refl _ _).drew)
    have a0 := HE.out.a0
    have a1 := HE.out.a1
    have b0 := HE.out.b0
    have b1 := HE.out.b1
    go_region_held3 (fun w' => w'.cell? ⟨w.heap.size, 0, none⟩ = some (.bool s1) ∧ w'.cell? ⟨w.heap.size, 1, none⟩ = some (.slice A1 n1 c1) ∧ w'.cell? ⟨w.heap.size + 1, 0, none⟩ = some (.bool s2) ∧ w'.cell? ⟨w.heap.size + 1, 1, none⟩ = some (.slice A2 n2 c2)) (exact ⟨a0, a1, b0, b1⟩)
      (first
        | (go_at_call 15
           (with_reducible refine (valid_c s1 A1 n1 c1 xs1 _ R1.out).mono ?_)
           rintro e y ⟨rfl, hb⟩
           rw [V1.out]
           replace HE := Lib.hid (HE.out.next hb)
           replace J1 := Lib.hid (J1.out.below hb)
           replace J2 := Lib.hid (J2.out.below hb)
           replace R1 := Lib.hid (R1.out.below hb)
           replace R2 := Lib.hid (R2.out.below hb)
           replace H_s := Lib.hid (H_s.out.next hb)
           replace H_d := Lib.hid (H_d.out.next hb)
           replace H_p := Lib.hid (H_p.out.next hb)
           replace a0 := HE.out.a0
           replace a1 := HE.out.a1
           replace b0 := HE.out.b0
           replace b1 := HE.out.b1
           clear hb)
        | (go_at_call 16
           (with_reducible refine (refValid_c s1 A1 n1 c1 xs1 _ R1.out).mono ?_)
           rintro e y ⟨rfl, hb⟩
           rw [V1.out]
           replace HE := Lib.hid (HE.out.next hb)
           replace J1 := Lib.hid (J1.out.below hb)
           replace J2 := Lib.hid (J2.out.below hb)
           replace R1 := Lib.hid (R1.out.below hb)
           replace R2 := Lib.hid (R2.out.below hb)
           replace H_s := Lib.hid (H_s.out.next hb)
           replace H_d := Lib.hid (H_d.out.next hb)
           replace H_p := Lib.hid (H_p.out.next hb)
           replace a0 := HE.out.a0
           replace a1 := HE.out.a1
           replace b0 := HE.out.b0
           replace b1 := HE.out.b1
           clear hb)
        | (go_at_call 15
           (with_reducible refine (valid_c s2 A2 n2 c2 xs2 _ R2.out).mono ?_)
           rintro e y ⟨rfl, hb⟩
           rw [V2.out]
           replace HE := Lib.hid (HE.out.next hb)
           replace J1 := Lib.hid (J1.out.below hb)
           replace J2 := Lib.hid (J2.out.below hb)
           replace R1 := Lib.hid (R1.out.below hb)
           replace R2 := Lib.hid (R2.out.below hb)
           replace H_s := Lib.hid (H_s.out.next hb)
           replace H_d := Lib.hid (H_d.out.next hb)
           replace H_p := Lib.hid (H_p.out.next hb)
           replace a0 := HE.out.a0
           replace a1 := HE.out.a1
           replace b0 := HE.out.b0
           replace b1 := HE.out.b1
           clear hb)
        | (go_at_call 16
           (with_reducible refine (refValid_c s2 A2 n2 c2 xs2 _ R2.out).mono ?_)
           rintro e y ⟨rfl, hb⟩
           rw [V2.out]
           replace HE := Lib.hid (HE.out.next hb)
           replace J1 := Lib.hid (J1.out.below hb)
           replace J2 := Lib.hid (J2.out.below hb)
           replace R1 := Lib.hid (R1.out.below hb)
           replace R2 := Lib.hid (R2.out.below hb)
           replace H_s := Lib.hid (H_s.out.next hb)
           replace H_d := Lib.hid (H_d.out.next hb)
           replace H_p := Lib.hid (H_p.out.next hb)
           replace a0 := HE.out.a0
           replace a1 := HE.out.a1
           replace b0 := HE.out.b0
           replace b1 := HE.out.b1
           clear hb))
    clear a0 a1 b0 b1
    have a0 := HE.out.a0
    have a1 := HE.out.a1
    go_wp2_with fail
    refine (refValid_c s1 A1 n1 c1 xs1 _ R1.out).mono ?_
    rintro e y ⟨rfl, hb⟩
    rw [V1.out]
    replace HE := Lib.hid (HE.out.next hb)
    replace J1 := Lib.hid (J1.out.below hb)
    replace J2 := Lib.hid (J2.out.below hb)
    replace R1 := Lib.hid (R1.out.below hb)
    replace R2 := Lib.hid (R2.out.below hb)
    replace H_s := Lib.hid (H_s.out.next hb)
    replace H_d := Lib.hid (H_d.out.next hb)
    replace H_p := Lib.hid (H_p.out.next hb)
    clear hb a0 a1
    have b0 := HE.out.b0
    have b1 := HE.out.b1
    go_wp2_with fail
    refine (refValid_c s2 A2 n2 c2 xs2 _ R2.out).mono ?_
    rintro e y ⟨rfl, hb⟩
    rw [V2.out]
    replace HE := Lib.hid (HE.out.next hb)
    replace J1 := Lib.hid (J1.out.below hb)
    replace J2 := Lib.hid (J2.out.below hb)
    replace R1 := Lib.hid (R1.out.below hb)
    replace R2 := Lib.hid (R2.out.below hb)
    replace H_s := Lib.hid (H_s.out.next hb)
    replace H_d := Lib.hid (H_d.out.next hb)
    replace H_p := Lib.hid (H_p.out.next hb)
    clear hb b0 b1
    go_wp2_with fail
    replace HE := Lib.hid (HE.out.next (Below.refl _ _).drew)
    replace J1 := Lib.hid (J1.out.below (Below.refl _ _).drew)
    replace J2 := Lib.hid (J2.out.below (Below.refl _ _).drew)
    replace R1 := Lib.hid (R1.out.below (Below.refl _ _).drew)
    replace R2 := Lib.hid (R2.out.below (Below.refl _ _).drew)
    replace H_s := Lib.hid (H_s.out.next (Below.refl _ _).drew)
    replace H_d := Lib.hid (H_d.out.next (Below.refl _ _).drew)
    replace H_p := Lib.hid (H_p.out.next (Below.refl _ _).drew)
    have a0 := HE.out.a0
    have a1 := HE.out.a1
    have b0 := HE.out.b0
    have b1 := HE.out.b1
    have f0_s := H_s.out.c0
    have f1_s := H_s.out.c1
    have f0_d := H_d.out.c0
    have f1_d := H_d.out.c1
    have f0_p := H_p.out.c0
    have f1_p := H_p.out.c1
    go_region_held3 (fun w' => w'.cell? ⟨w.heap.size, 0, none⟩ = some (.bool s1) ∧ w'.cell? ⟨w.heap.size, 1, none⟩ = some (.slice A1 n1 c1) ∧ w'.cell? ⟨w.heap.size + 1, 0, none⟩ = some (.bool s2) ∧ w'.cell? ⟨w.heap.size + 1, 1, none⟩ = some (.slice A2 n2 c2) ∧ w'.cell? ⟨w_s.heap.size, 0, none⟩ = some (.bool t_s) ∧ w'.cell? ⟨w_s.heap.size, 1, none⟩ = some (.slice B_s m_s d_s) ∧ w'.cell? ⟨w_d.heap.size, 0, none⟩ = some (.bool t_d) ∧ w'.cell? ⟨w_d.heap.size, 1, none⟩ = some (.slice B_d m_d d_d) ∧ w'.cell? ⟨w_p.heap.size, 0, none⟩ = some (.bool t_p) ∧ w'.cell? ⟨w_p.heap.size, 1, none⟩ = some (.slice B_p m_p d_p)) (exact ⟨a0, a1, b0, b1, f0_s, f1_s, f0_d, f1_d, f0_p, f1_p⟩)
      (first
        | (go_at_call 18
           (with_reducible refine (refCmp_c J1.out J2.out (by omega) (by omega)).mono ?_)
           rintro e y ⟨rfl, hb⟩
           replace HE := Lib.hid (HE.out.next hb)
           replace J1 := Lib.hid (J1.out.below hb)
           replace J2 := Lib.hid (J2.out.below hb)
           replace R1 := Lib.hid (R1.out.below hb)
           replace R2 := Lib.hid (R2.out.below hb)
           replace H_s := Lib.hid (H_s.out.next hb)
           replace H_d := Lib.hid (H_d.out.next hb)
           replace H_p := Lib.hid (H_p.out.next hb)
           replace a0 := HE.out.a0
           replace a1 := HE.out.a1
           replace b0 := HE.out.b0
           replace b1 := HE.out.b1
           replace f0_s := H_s.out.c0
           replace f1_s := H_s.out.c1
           replace f0_d := H_d.out.c0
           replace f1_d := H_d.out.c1
           replace f0_p := H_p.out.c0
           replace f1_p := H_p.out.c1
           clear hb)
        | (go_at_call 20
           (with_reducible refine (refAdd_c J1.out J2.out (by omega) (by omega)).mono ?_)
           rintro e y ⟨t1_s, B1_s, m1_s, d1_s, rfl, hi, hb⟩
           have I_s := Lib.hid hi
           clear hi
           replace HE := Lib.hid (HE.out.next hb)
           replace J1 := Lib.hid (J1.out.below hb)
           replace J2 := Lib.hid (J2.out.below hb)
           replace R1 := Lib.hid (R1.out.below hb)
           replace R2 := Lib.hid (R2.out.below hb)
           replace H_s := Lib.hid (H_s.out.next hb)
           replace H_d := Lib.hid (H_d.out.next hb)
           replace H_p := Lib.hid (H_p.out.next hb)
           replace a0 := HE.out.a0
           replace a1 := HE.out.a1
           replace b0 := HE.out.b0
           replace b1 := HE.out.b1
           replace f0_s := H_s.out.c0
           replace f1_s := H_s.out.c1
           replace f0_d := H_d.out.c0
           replace f1_d := H_d.out.c1
           replace f0_p := H_p.out.c0
           replace f1_p := H_p.out.c1
           clear hb)
        | (go_at_call 19
           (with_reducible refine (is_c H_s.out.num I_s.out).mono ?_)
           rintro e y ⟨rfl, hb⟩
           clear I_s
           replace HE := Lib.hid (HE.out.next hb)
           replace J1 := Lib.hid (J1.out.below hb)
           replace J2 := Lib.hid (J2.out.below hb)
           replace R1 := Lib.hid (R1.out.below hb)
           replace R2 := Lib.hid (R2.out.below hb)
           replace H_s := Lib.hid (H_s.out.next hb)
           replace H_d := Lib.hid (H_d.out.next hb)
           replace H_p := Lib.hid (H_p.out.next hb)
           replace a0 := HE.out.a0
           replace a1 := HE.out.a1
           replace b0 := HE.out.b0
           replace b1 := HE.out.b1
           replace f0_s := H_s.out.c0
           replace f1_s := H_s.out.c1
           replace f0_d := H_d.out.c0
           replace f1_d := H_d.out.c1
           replace f0_p := H_p.out.c0
           replace f1_p := H_p.out.c1
           clear hb)
        | (go_at_call 21
           (with_reducible refine (refSub_c J1.out J2.out (by omega) (by omega)).mono ?_)
           rintro e y ⟨t1_d, B1_d, m1_d, d1_d, rfl, hi, hb⟩
           have I_d := Lib.hid hi
           clear hi
           replace HE := Lib.hid (HE.out.next hb)
           replace J1 := Lib.hid (J1.out.below hb)
           replace J2 := Lib.hid (J2.out.below hb)
           replace R1 := Lib.hid (R1.out.below hb)
           replace R2 := Lib.hid (R2.out.below hb)
           replace H_s := Lib.hid (H_s.out.next hb)
           replace H_d := Lib.hid (H_d.out.next hb)
           replace H_p := Lib.hid (H_p.out.next hb)
           replace a0 := HE.out.a0
           replace a1 := HE.out.a1
           replace b0 := HE.out.b0
           replace b1 := HE.out.b1
           replace f0_s := H_s.out.c0
           replace f1_s := H_s.out.c1
           replace f0_d := H_d.out.c0
           replace f1_d := H_d.out.c1
           replace f0_p := H_p.out.c0
           replace f1_p := H_p.out.c1
           clear hb)
        | (go_at_call 19
           (with_reducible refine (is_c H_d.out.num I_d.out).mono ?_)
           rintro e y ⟨rfl, hb⟩
           clear I_d
           replace HE := Lib.hid (HE.out.next hb)
           replace J1 := Lib.hid (J1.out.below hb)
           replace J2 := Lib.hid (J2.out.below hb)
           replace R1 := Lib.hid (R1.out.below hb)
           replace R2 := Lib.hid (R2.out.below hb)
           replace H_s := Lib.hid (H_s.out.next hb)
           replace H_d := Lib.hid (H_d.out.next hb)
           replace H_p := Lib.hid (H_p.out.next hb)
           replace a0 := HE.out.a0
           replace a1 := HE.out.a1
           replace b0 := HE.out.b0
           replace b1 := HE.out.b1
           replace f0_s := H_s.out.c0
           replace f1_s := H_s.out.c1
           replace f0_d := H_d.out.c0
           replace f1_d := H_d.out.c1
           replace f0_p := H_p.out.c0
           replace f1_p := H_p.out.c1
           clear hb)
        | (go_at_call 22
           (with_reducible refine (refMul_c J1.out J2.out (by omega) (by omega)).mono ?_)
           rintro e y ⟨t1_p, B1_p, m1_p, d1_p, rfl, hi, hb⟩
           have I_p := Lib.hid hi
           clear hi
           replace HE := Lib.hid (HE.out.next hb)
           replace J1 := Lib.hid (J1.out.below hb)
           replace J2 := Lib.hid (J2.out.below hb)
           replace R1 := Lib.hid (R1.out.below hb)
           replace R2 := Lib.hid (R2.out.below hb)
           replace H_s := Lib.hid (H_s.out.next hb)
           replace H_d := Lib.hid (H_d.out.next hb)
           replace H_p := Lib.hid (H_p.out.next hb)
           replace a0 := HE.out.a0
           replace a1 := HE.out.a1
           replace b0 := HE.out.b0
           replace b1 := HE.out.b1
           replace f0_s := H_s.out.c0
           replace f1_s := H_s.out.c1
           replace f0_d := H_d.out.c0
           replace f1_d := H_d.out.c1
           replace f0_p := H_p.out.c0
           replace f1_p := H_p.out.c1
           clear hb)
        | (go_at_call 19
           (with_reducible refine (is_c H_p.out.num I_p.out).mono ?_)
           rintro e y ⟨rfl, hb⟩
           clear I_p
           replace HE := Lib.hid (HE.out.next hb)
           replace J1 := Lib.hid (J1.out.below hb)
           replace J2 := Lib.hid (J2.out.below hb)
           replace R1 := Lib.hid (R1.out.below hb)
           replace R2 := Lib.hid (R2.out.below hb)
           replace H_s := Lib.hid (H_s.out.next hb)
           replace H_d := Lib.hid (H_d.out.next hb)
           replace H_p := Lib.hid (H_p.out.next hb)
           replace a0 := HE.out.a0
           replace a1 := HE.out.a1
           replace b0 := HE.out.b0
           replace b1 := HE.out.b1
           replace f0_s := H_s.out.c0
           replace f1_s := H_s.out.c1
           replace f0_d := H_d.out.c0
           replace f1_d := H_d.out.c1
           replace f0_p := H_p.out.c0
           replace f1_p := H_p.out.c1
           clear hb)
        | (go_at_call 10
           (with_reducible refine (awake_c _).mono ?_)
           rintro e y ⟨rfl, hb⟩
           replace HE := Lib.hid (HE.out.next hb)
           replace J1 := Lib.hid (J1.out.below hb)
           replace J2 := Lib.hid (J2.out.below hb)
           replace R1 := Lib.hid (R1.out.below hb)
           replace R2 := Lib.hid (R2.out.below hb)
           replace H_s := Lib.hid (H_s.out.next hb)
           replace H_d := Lib.hid (H_d.out.next hb)
           replace H_p := Lib.hid (H_p.out.next hb)
           replace a0 := HE.out.a0
           replace a1 := HE.out.a1
           replace b0 := HE.out.b0
           replace b1 := HE.out.b1
           replace f0_s := H_s.out.c0
           replace f1_s := H_s.out.c1
           replace f0_d := H_d.out.c0
           replace f1_d := H_d.out.c1
           replace f0_p := H_p.out.c0
           replace f1_p := H_p.out.c1
           clear hb))
    go_wp2
    go_ret
    exact ⟨rfl, HE.out.below⟩
  · have HV := Lib.hid (show (validB s1 xs1 && validB s2 xs2) = false by simpa using hv)
    clear hv HK
    rcases hp : validB s1 xs1 with _ | _
    · obtain ⟨q, hq⟩ : ∃ q, q = validB s2 xs2 := ⟨_, rfl⟩
      have V1 := Lib.hid hp
      have V2 := Lib.hid hq.symm
      clear hp hq
      have a0 := HE.out.a0
      have a1 := HE.out.a1
      have b0 := HE.out.b0
      have b1 := HE.out.b1
      go_wp2_with fail
      generalize (w.alloc (.cells #[.bool s1, .slice A1 n1 c1] 24)).alloc (.cells #[.bool s2, .slice A2 n2 c2] 24) = W at HE R1 R2 a0 a1 b0 b1 ⊢
      refine (Cmp_bad s1 s2 A1 A2 n1 c1 n2 c2 xs1 xs2 _ R1.out R2.out HV.out).mono ?_
      rintro e x1 ⟨rfl, hb⟩
      replace HE := Lib.hid (HE.out.next hb)
      replace R1 := Lib.hid (R1.out.below hb)
      replace R2 := Lib.hid (R2.out.below hb)
      clear hb a0 a1 b0 b1
      have a0 := HE.out.a0
      have a1 := HE.out.a1
      have b0 := HE.out.b0
      have b1 := HE.out.b1
      go_wp2_with fail
      clear a0 a1 b0 b1
      refine (Add_bad s1 s2 A1 A2 n1 c1 n2 c2 xs1 xs2 _ R1.out R2.out HV.out).mono ?_
      rintro e w_s ⟨rfl, hb⟩
      have H_s := Lib.hid (Box.new (is_zero w_s))
      replace HE := Lib.hid ((HE.out.next hb).alloc (.cells #[.bool false, .slice none 0 0] 24))
      replace R1 := Lib.hid ((R1.out.below hb).below (below_alloc w_s (.cells #[.bool false, .slice none 0 0] 24)))
      replace R2 := Lib.hid ((R2.out.below hb).below (below_alloc w_s (.cells #[.bool false, .slice none 0 0] 24)))
      clear hb
      have a0 := HE.out.a0
      have a1 := HE.out.a1
      have b0 := HE.out.b0
      have b1 := HE.out.b1
      go_wp2_with fail
      clear a0 a1 b0 b1
      generalize w_s.alloc (.cells #[.bool false, .slice none 0 0] 24) = v_s at HE R1 R2 H_s ⊢
      refine (Sub_bad s1 s2 A1 A2 n1 c1 n2 c2 xs1 xs2 _ R1.out R2.out HV.out).mono ?_
      rintro e w_d ⟨rfl, hb⟩
      replace H_s := Lib.hid ((H_s.out.next hb).alloc (.cells #[.bool false, .slice none 0 0] 24))
      have H_d := Lib.hid (Box.new (is_zero w_d))
      replace HE := Lib.hid ((HE.out.next hb).alloc (.cells #[.bool false, .slice none 0 0] 24))
      replace R1 := Lib.hid ((R1.out.below hb).below (below_alloc w_d (.cells #[.bool false, .slice none 0 0] 24)))
      replace R2 := Lib.hid ((R2.out.below hb).below (below_alloc w_d (.cells #[.bool false, .slice none 0 0] 24)))
      clear hb
      have a0 := HE.out.a0
      have a1 := HE.out.a1
      have b0 := HE.out.b0
      have b1 := HE.out.b1
      go_wp2_with fail
      clear a0 a1 b0 b1
      generalize w_d.alloc (.cells #[.bool false, .slice none 0 0] 24) = v_d at HE R1 R2 H_s H_d ⊢
      refine (Mul_bad s1 s2 A1 A2 n1 c1 n2 c2 xs1 xs2 _ R1.out R2.out HV.out).mono ?_
      rintro e w_p ⟨rfl, hb⟩
      replace H_s := Lib.hid ((H_s.out.next hb).alloc (.cells #[.bool false, .slice none 0 0] 24))
      replace H_d := Lib.hid ((H_d.out.next hb).alloc (.cells #[.bool false, .slice none 0 0] 24))
      have H_p := Lib.hid (Box.new (is_zero w_p))
      replace HE := Lib.hid ((HE.out.next hb).alloc (.cells #[.bool false, .slice none 0 0] 24))
      replace R1 := Lib.hid ((R1.out.below hb).below (below_alloc w_p (.cells #[.bool false, .slice none 0 0] 24)))
      replace R2 := Lib.hid ((R2.out.below hb).below (below_alloc w_p (.cells #[.bool false, .slice none 0 0] 24)))
      clear hb
      have a0 := HE.out.a0
      have a1 := HE.out.a1
      have b0 := HE.out.b0
      have b1 := HE.out.b1
      go_wp2_with fail
      clear a0 a1 b0 b1
      generalize w_p.alloc (.cells #[.bool false, .slice none 0 0] 24) = v_p at HE R1 R2 H_s H_d H_p ⊢
      replace HE := Lib.hid (HE.out.next (Below.refl _ _).drew)
      replace R1 := Lib.hid (R1.out.below (Below.refl _ _).drew)
      replace R2 := Lib.hid (R2.out.below (Below.refl _ _).drew)
      replace H_s := Lib.hid (H_s.out.next (Below.refl _ _).drew)
      replace H_d := Lib.hid (H_d.out.next (Below.refl _ _).drew)
      replace H_p := Lib.hid (H_p.out.next (Below.refl _ _).drew)
      have a0 := HE.out.a0
      have a1 := HE.out.a1
      have b0 := HE.out.b0
      have b1 := HE.out.b1
      go_region_held3 (fun w' => w'.cell? ⟨w.heap.size, 0, none⟩ = some (.bool s1) ∧ w'.cell? ⟨w.heap.size, 1, none⟩ = some (.slice A1 n1 c1) ∧ w'.cell? ⟨w.heap.size + 1, 0, none⟩ = some (.bool s2) ∧ w'.cell? ⟨w.heap.size + 1, 1, none⟩ = some (.slice A2 n2 c2)) (exact ⟨a0, a1, b0, b1⟩)
        (first
          | (go_at_call 15
             (with_reducible refine (valid_c s1 A1 n1 c1 xs1 _ R1.out).mono ?_)
             rintro e y ⟨rfl, hb⟩
             rw [V1.out]
             replace HE := Lib.hid (HE.out.next hb)
             replace R1 := Lib.hid (R1.out.below hb)
             replace R2 := Lib.hid (R2.out.below hb)
             replace H_s := Lib.hid (H_s.out.next hb)
             replace H_d := Lib.hid (H_d.out.next hb)
             replace H_p := Lib.hid (H_p.out.next hb)
             replace a0 := HE.out.a0
             replace a1 := HE.out.a1
             replace b0 := HE.out.b0
             replace b1 := HE.out.b1
             clear hb)
          | (go_at_call 16
             (with_reducible refine (refValid_c s1 A1 n1 c1 xs1 _ R1.out).mono ?_)
             rintro e y ⟨rfl, hb⟩
             rw [V1.out]
             replace HE := Lib.hid (HE.out.next hb)
             replace R1 := Lib.hid (R1.out.below hb)
             replace R2 := Lib.hid (R2.out.below hb)
             replace H_s := Lib.hid (H_s.out.next hb)
             replace H_d := Lib.hid (H_d.out.next hb)
             replace H_p := Lib.hid (H_p.out.next hb)
             replace a0 := HE.out.a0
             replace a1 := HE.out.a1
             replace b0 := HE.out.b0
             replace b1 := HE.out.b1
             clear hb)
          | (go_at_call 15
             (with_reducible refine (valid_c s2 A2 n2 c2 xs2 _ R2.out).mono ?_)
             rintro e y ⟨rfl, hb⟩
             rw [V2.out]
             replace HE := Lib.hid (HE.out.next hb)
             replace R1 := Lib.hid (R1.out.below hb)
             replace R2 := Lib.hid (R2.out.below hb)
             replace H_s := Lib.hid (H_s.out.next hb)
             replace H_d := Lib.hid (H_d.out.next hb)
             replace H_p := Lib.hid (H_p.out.next hb)
             replace a0 := HE.out.a0
             replace a1 := HE.out.a1
             replace b0 := HE.out.b0
             replace b1 := HE.out.b1
             clear hb)
          | (go_at_call 16
             (with_reducible refine (refValid_c s2 A2 n2 c2 xs2 _ R2.out).mono ?_)
             rintro e y ⟨rfl, hb⟩
             rw [V2.out]
             replace HE := Lib.hid (HE.out.next hb)
             replace R1 := Lib.hid (R1.out.below hb)
             replace R2 := Lib.hid (R2.out.below hb)
             replace H_s := Lib.hid (H_s.out.next hb)
             replace H_d := Lib.hid (H_d.out.next hb)
             replace H_p := Lib.hid (H_p.out.next hb)
             replace a0 := HE.out.a0
             replace a1 := HE.out.a1
             replace b0 := HE.out.b0
             replace b1 := HE.out.b1
             clear hb))
      clear a0 a1 b0 b1
      have a0 := HE.out.a0
      have a1 := HE.out.a1
      go_wp2_with fail
      refine (refValid_c s1 A1 n1 c1 xs1 _ R1.out).mono ?_
      rintro e y ⟨rfl, hb⟩
      rw [V1.out]
      replace HE := Lib.hid (HE.out.next hb)
      replace R1 := Lib.hid (R1.out.below hb)
      replace R2 := Lib.hid (R2.out.below hb)
      replace H_s := Lib.hid (H_s.out.next hb)
      replace H_d := Lib.hid (H_d.out.next hb)
      replace H_p := Lib.hid (H_p.out.next hb)
      clear hb a0 a1
      have f0 := H_s.out.c0
      have f1 := H_s.out.c1
      go_wp2_with fail
      refine (no_c 1 _).mono ?_
      rintro e y ⟨rfl, hb⟩
      replace HE := Lib.hid (HE.out.next hb)
      replace R1 := Lib.hid (R1.out.below hb)
      replace R2 := Lib.hid (R2.out.below hb)
      replace H_s := Lib.hid (H_s.out.next hb)
      replace H_d := Lib.hid (H_d.out.next hb)
      replace H_p := Lib.hid (H_p.out.next hb)
      clear hb f0 f1
      have f0 := H_d.out.c0
      have f1 := H_d.out.c1
      go_wp2_with fail
      refine (no_c 1 _).mono ?_
      rintro e y ⟨rfl, hb⟩
      replace HE := Lib.hid (HE.out.next hb)
      replace R1 := Lib.hid (R1.out.below hb)
      replace R2 := Lib.hid (R2.out.below hb)
      replace H_s := Lib.hid (H_s.out.next hb)
      replace H_d := Lib.hid (H_d.out.next hb)
      replace H_p := Lib.hid (H_p.out.next hb)
      clear hb f0 f1
      have f0 := H_p.out.c0
      have f1 := H_p.out.c1
      go_wp2_with fail
      refine (no_c 1 _).mono ?_
      rintro e y ⟨rfl, hb⟩
      replace HE := Lib.hid (HE.out.next hb)
      replace R1 := Lib.hid (R1.out.below hb)
      replace R2 := Lib.hid (R2.out.below hb)
      replace H_s := Lib.hid (H_s.out.next hb)
      replace H_d := Lib.hid (H_d.out.next hb)
      replace H_p := Lib.hid (H_p.out.next hb)
      clear hb f0 f1
      go_wp2_with fail
      refine (awake_c _).mono ?_
      rintro e y ⟨rfl, hb⟩
      replace HE := Lib.hid (HE.out.next hb)
      replace R1 := Lib.hid (R1.out.below hb)
      replace R2 := Lib.hid (R2.out.below hb)
      replace H_s := Lib.hid (H_s.out.next hb)
      replace H_d := Lib.hid (H_d.out.next hb)
      replace H_p := Lib.hid (H_p.out.next hb)
      clear hb
      go_wp2
      go_ret
      exact ⟨rfl, HE.out.below⟩
    · have V1 := Lib.hid hp
      have V2 := Lib.hid (show validB s2 xs2 = false by have := HV.out; rw [hp] at this; simpa using this)
      clear hp
      have a0 := HE.out.a0
      have a1 := HE.out.a1
      have b0 := HE.out.b0
      have b1 := HE.out.b1
      go_wp2_with fail
      generalize (w.alloc (.cells #[.bool s1, .slice A1 n1 c1] 24)).alloc (.cells #[.bool s2, .slice A2 n2 c2] 24) = W at HE R1 R2 a0 a1 b0 b1 ⊢
      refine (Cmp_bad s1 s2 A1 A2 n1 c1 n2 c2 xs1 xs2 _ R1.out R2.out HV.out).mono ?_
      rintro e x1 ⟨rfl, hb⟩
      replace HE := Lib.hid (HE.out.next hb)
      replace R1 := Lib.hid (R1.out.below hb)
      replace R2 := Lib.hid (R2.out.below hb)
      clear hb a0 a1 b0 b1
      have a0 := HE.out.a0
      have a1 := HE.out.a1
      have b0 := HE.out.b0
      have b1 := HE.out.b1
      go_wp2_with fail
      clear a0 a1 b0 b1
      refine (Add_bad s1 s2 A1 A2 n1 c1 n2 c2 xs1 xs2 _ R1.out R2.out HV.out).mono ?_
      rintro e w_s ⟨rfl, hb⟩
      have H_s := Lib.hid (Box.new (is_zero w_s))
      replace HE := Lib.hid ((HE.out.next hb).alloc (.cells #[.bool false, .slice none 0 0] 24))
      replace R1 := Lib.hid ((R1.out.below hb).below (below_alloc w_s (.cells #[.bool false, .slice none 0 0] 24)))
      replace R2 := Lib.hid ((R2.out.below hb).below (below_alloc w_s (.cells #[.bool false, .slice none 0 0] 24)))
      clear hb
      have a0 := HE.out.a0
      have a1 := HE.out.a1
      have b0 := HE.out.b0
      have b1 := HE.out.b1
      go_wp2_with fail
      clear a0 a1 b0 b1
      generalize w_s.alloc (.cells #[.bool false, .slice none 0 0] 24) = v_s at HE R1 R2 H_s ⊢
      refine (Sub_bad s1 s2 A1 A2 n1 c1 n2 c2 xs1 xs2 _ R1.out R2.out HV.out).mono ?_
      rintro e w_d ⟨rfl, hb⟩
      replace H_s := Lib.hid ((H_s.out.next hb).alloc (.cells #[.bool false, .slice none 0 0] 24))
      have H_d := Lib.hid (Box.new (is_zero w_d))
      replace HE := Lib.hid ((HE.out.next hb).alloc (.cells #[.bool false, .slice none 0 0] 24))
      replace R1 := Lib.hid ((R1.out.below hb).below (below_alloc w_d (.cells #[.bool false, .slice none 0 0] 24)))
      replace R2 := Lib.hid ((R2.out.below hb).below (below_alloc w_d (.cells #[.bool false, .slice none 0 0] 24)))
      clear hb
      have a0 := HE.out.a0
      have a1 := HE.out.a1
      have b0 := HE.out.b0
      have b1 := HE.out.b1
      go_wp2_with fail
      clear a0 a1 b0 b1
      generalize w_d.alloc (.cells #[.bool false, .slice none 0 0] 24) = v_d at HE R1 R2 H_s H_d ⊢
      refine (Mul_bad s1 s2 A1 A2 n1 c1 n2 c2 xs1 xs2 _ R1.out R2.out HV.out).mono ?_
      rintro e w_p ⟨rfl, hb⟩
      replace H_s := Lib.hid ((H_s.out.next hb).alloc (.cells #[.bool false, .slice none 0 0] 24))
      replace H_d := Lib.hid ((H_d.out.next hb).alloc (.cells #[.bool false, .slice none 0 0] 24))
      have H_p := Lib.hid (Box.new (is_zero w_p))
      replace HE := Lib.hid ((HE.out.next hb).alloc (.cells #[.bool false, .slice none 0 0] 24))
      replace R1 := Lib.hid ((R1.out.below hb).below (below_alloc w_p (.cells #[.bool false, .slice none 0 0] 24)))
      replace R2 := Lib.hid ((R2.out.below hb).below (below_alloc w_p (.cells #[.bool false, .slice none 0 0] 24)))
      clear hb
      have a0 := HE.out.a0
      have a1 := HE.out.a1
      have b0 := HE.out.b0
      have b1 := HE.out.b1
      go_wp2_with fail
      clear a0 a1 b0 b1
      generalize w_p.alloc (.cells #[.bool false, .slice none 0 0] 24) = v_p at HE R1 R2 H_s H_d H_p ⊢
      replace HE := Lib.hid (HE.out.next (Below.refl _ _).drew)
      replace R1 := Lib.hid (R1.out.below (Below.refl _ _).drew)
      replace R2 := Lib.hid (R2.out.below (Below.refl _ _).drew)
      replace H_s := Lib.hid (H_s.out.next (Below.refl _ _).drew)
      replace H_d := Lib.hid (H_d.out.next (Below.refl _ _).drew)
      replace H_p := Lib.hid (H_p.out.next (Below.refl _ _).drew)
      have a0 := HE.out.a0
      have a1 := HE.out.a1
      have b0 := HE.out.b0
      have b1 := HE.out.b1
      go_region_held3 (fun w' => w'.cell? ⟨w.heap.size, 0, none⟩ = some (.bool s1) ∧ w'.cell? ⟨w.heap.size, 1, none⟩ = some (.slice A1 n1 c1) ∧ w'.cell? ⟨w.heap.size + 1, 0, none⟩ = some (.bool s2) ∧ w'.cell? ⟨w.heap.size + 1, 1, none⟩ = some (.slice A2 n2 c2)) (exact ⟨a0, a1, b0, b1⟩)
        (first
          | (go_at_call 15
             (with_reducible refine (valid_c s1 A1 n1 c1 xs1 _ R1.out).mono ?_)
             rintro e y ⟨rfl, hb⟩
             rw [V1.out]
             replace HE := Lib.hid (HE.out.next hb)
             replace R1 := Lib.hid (R1.out.below hb)
             replace R2 := Lib.hid (R2.out.below hb)
             replace H_s := Lib.hid (H_s.out.next hb)
             replace H_d := Lib.hid (H_d.out.next hb)
             replace H_p := Lib.hid (H_p.out.next hb)
             replace a0 := HE.out.a0
             replace a1 := HE.out.a1
             replace b0 := HE.out.b0
             replace b1 := HE.out.b1
             clear hb)
          | (go_at_call 16
             (with_reducible refine (refValid_c s1 A1 n1 c1 xs1 _ R1.out).mono ?_)
             rintro e y ⟨rfl, hb⟩
             rw [V1.out]
             replace HE := Lib.hid (HE.out.next hb)
             replace R1 := Lib.hid (R1.out.below hb)
             replace R2 := Lib.hid (R2.out.below hb)
             replace H_s := Lib.hid (H_s.out.next hb)
             replace H_d := Lib.hid (H_d.out.next hb)
             replace H_p := Lib.hid (H_p.out.next hb)
             replace a0 := HE.out.a0
             replace a1 := HE.out.a1
             replace b0 := HE.out.b0
             replace b1 := HE.out.b1
             clear hb)
          | (go_at_call 15
             (with_reducible refine (valid_c s2 A2 n2 c2 xs2 _ R2.out).mono ?_)
             rintro e y ⟨rfl, hb⟩
             rw [V2.out]
             replace HE := Lib.hid (HE.out.next hb)
             replace R1 := Lib.hid (R1.out.below hb)
             replace R2 := Lib.hid (R2.out.below hb)
             replace H_s := Lib.hid (H_s.out.next hb)
             replace H_d := Lib.hid (H_d.out.next hb)
             replace H_p := Lib.hid (H_p.out.next hb)
             replace a0 := HE.out.a0
             replace a1 := HE.out.a1
             replace b0 := HE.out.b0
             replace b1 := HE.out.b1
             clear hb)
          | (go_at_call 16
             (with_reducible refine (refValid_c s2 A2 n2 c2 xs2 _ R2.out).mono ?_)
             rintro e y ⟨rfl, hb⟩
             rw [V2.out]
             replace HE := Lib.hid (HE.out.next hb)
             replace R1 := Lib.hid (R1.out.below hb)
             replace R2 := Lib.hid (R2.out.below hb)
             replace H_s := Lib.hid (H_s.out.next hb)
             replace H_d := Lib.hid (H_d.out.next hb)
             replace H_p := Lib.hid (H_p.out.next hb)
             replace a0 := HE.out.a0
             replace a1 := HE.out.a1
             replace b0 := HE.out.b0
             replace b1 := HE.out.b1
             clear hb))
      clear a0 a1 b0 b1
      have a0 := HE.out.a0
      have a1 := HE.out.a1
      go_wp2_with fail
      refine (refValid_c s1 A1 n1 c1 xs1 _ R1.out).mono ?_
      rintro e y ⟨rfl, hb⟩
      rw [V1.out]
      replace HE := Lib.hid (HE.out.next hb)
      replace R1 := Lib.hid (R1.out.below hb)
      replace R2 := Lib.hid (R2.out.below hb)
      replace H_s := Lib.hid (H_s.out.next hb)
      replace H_d := Lib.hid (H_d.out.next hb)
      replace H_p := Lib.hid (H_p.out.next hb)
      clear hb a0 a1
      have b0 := HE.out.b0
      have b1 := HE.out.b1
      go_wp2_with fail
      refine (refValid_c s2 A2 n2 c2 xs2 _ R2.out).mono ?_
      rintro e y ⟨rfl, hb⟩
      rw [V2.out]
      replace HE := Lib.hid (HE.out.next hb)
      replace R1 := Lib.hid (R1.out.below hb)
      replace R2 := Lib.hid (R2.out.below hb)
      replace H_s := Lib.hid (H_s.out.next hb)
      replace H_d := Lib.hid (H_d.out.next hb)
      replace H_p := Lib.hid (H_p.out.next hb)
      clear hb b0 b1
      have f0 := H_s.out.c0
      have f1 := H_s.out.c1
      go_wp2_with fail
      refine (no_c 1 _).mono ?_
      rintro e y ⟨rfl, hb⟩
      replace HE := Lib.hid (HE.out.next hb)
      replace R1 := Lib.hid (R1.out.below hb)
      replace R2 := Lib.hid (R2.out.below hb)
      replace H_s := Lib.hid (H_s.out.next hb)
      replace H_d := Lib.hid (H_d.out.next hb)
      replace H_p := Lib.hid (H_p.out.next hb)
      clear hb f0 f1
      have f0 := H_d.out.c0
      have f1 := H_d.out.c1
      go_wp2_with fail
      refine (no_c 1 _).mono ?_
      rintro e y ⟨rfl, hb⟩
      replace HE := Lib.hid (HE.out.next hb)
      replace R1 := Lib.hid (R1.out.below hb)
      replace R2 := Lib.hid (R2.out.below hb)
      replace H_s := Lib.hid (H_s.out.next hb)
      replace H_d := Lib.hid (H_d.out.next hb)
      replace H_p := Lib.hid (H_p.out.next hb)
      clear hb f0 f1
      have f0 := H_p.out.c0
      have f1 := H_p.out.c1
      go_wp2_with fail
      refine (no_c 1 _).mono ?_
      rintro e y ⟨rfl, hb⟩
      replace HE := Lib.hid (HE.out.next hb)
      replace R1 := Lib.hid (R1.out.below hb)
      replace R2 := Lib.hid (R2.out.below hb)
      replace H_s := Lib.hid (H_s.out.next hb)
      replace H_d := Lib.hid (H_d.out.next hb)
      replace H_p := Lib.hid (H_p.out.next hb)
      clear hb f0 f1
      go_wp2_with fail
      refine (awake_c _).mono ?_
      rintro e y ⟨rfl, hb⟩
      replace HE := Lib.hid (HE.out.next hb)
      replace R1 := Lib.hid (R1.out.below hb)
      replace R2 := Lib.hid (R2.out.below hb)
      replace H_s := Lib.hid (H_s.out.next hb)
      replace H_d := Lib.hid (H_d.out.next hb)
      replace H_p := Lib.hid (H_p.out.next hb)
      clear hb
      go_wp2
      go_ret
      exact ⟨rfl, HE.out.below⟩
end Go.Proofs.Ytpgiifjngkekgaa

import Derived.Test.YtpgiifjngkekgaaRc
import Derived.Test.YtpgiifjngkekgaaRd
namespace Go.Proofs.Ytpgiifjngkekgaa
open Go.RowKit

/-- block b is a box that holds the integer z -/
structure Box (W : World) (b : Nat) (z : Int) (t : Bool) (A : Option Addr) (n c : Nat) : Prop where
  lt : b < W.heap.size
  c0 : W.cell? ⟨b, 0, none⟩ = some (.bool t)
  c1 : W.cell? ⟨b, 1, none⟩ = some (.slice A n c)
  is : Is W z t A n c
theorem Box.next {W w1 : World} {b : Nat} {z : Int} {t : Bool} {A : Option Addr} {n c : Nat} (h : Box W b z t A n c) (hb : Below W.heap.size W w1) : Box w1 b z t A n c :=
  ⟨Nat.lt_of_lt_of_le h.lt hb.size, (hb.cell (p := ⟨b, 0, none⟩) h.lt).trans h.c0, (hb.cell (p := ⟨b, 1, none⟩) h.lt).trans h.c1, h.is.below hb⟩
theorem below_alloc (W : World) (o : Obj) : Below W.heap.size W (W.alloc o) := (Below.refl _ _).alloc (Nat.le_refl _) o
theorem Box.new {W : World} {z : Int} {t : Bool} {A : Option Addr} {n c : Nat} (h : Is W z t A n c) : Box (W.alloc (.cells #[.bool t, .slice A n c] 24)) W.heap.size z t A n c :=
  ⟨by simp, by go_simp, by go_simp, h.below (below_alloc _ _)⟩
theorem Box.alloc {W : World} {b : Nat} {z : Int} {t : Bool} {A : Option Addr} {n c : Nat} (h : Box W b z t A n c) (o : Obj) : Box (W.alloc o) b z t A n c := h.next (below_alloc _ _)

def three {α : Type} (a b c : α) (i : Nat) : α := if i = 0 then a else if i = 1 then b else c

/-- three numbers are valid and have at most some words -/
def L3 (most : Nat) (s1 s2 s3 : Bool) (n1 n2 n3 : Nat) (xs1 xs2 xs3 : List Nat) : Prop := (n1 ≤ most ∧ validB s1 xs1 = true) ∧ (n2 ≤ most ∧ validB s2 xs2 = true) ∧ (n3 ≤ most ∧ validB s3 xs3 = true)
instance (most : Nat) (s1 s2 s3 : Bool) (n1 n2 n3 : Nat) (xs1 xs2 xs3 : List Nat) : Decidable (L3 most s1 s2 s3 n1 n2 n3 xs1 xs2 xs3) := by unfold L3; infer_instance
theorem light3_c (most g : Nat) (s1 s2 s3 : Bool) (A1 A2 A3 : Option Addr) (n1 c1 n2 c2 n3 c3 : Nat) (xs1 xs2 xs3 : List Nat) (w : World) (h1 : Rd w A1 n1 xs1) (h2 : Rd w A2 n2 xs2) (h3 : Rd w A3 n3 xs3) (hg : g < w.heap.size)
    (a0 : w.cell? ⟨g, 0, none⟩ = some (.bool s1)) (a1 : w.cell? ⟨g, 1, none⟩ = some (.slice A1 n1 c1)) (b0 : w.cell? ⟨g, 2, none⟩ = some (.bool s2)) (b1 : w.cell? ⟨g, 3, none⟩ = some (.slice A2 n2 c2)) (d0 : w.cell? ⟨g, 4, none⟩ = some (.bool s3)) (d1 : w.cell? ⟨g, 5, none⟩ = some (.slice A3 n3 c3)) :
    Calls Try.prog 40 #[.int .i64 (most : Int), .slice (some ⟨g, 0, none⟩) 3 3] w fun e w' => e = .returned (.bool (decide (L3 most s1 s2 s3 n1 n2 n3 xs1 xs2 xs3))) ∧ Below w.heap.size w w' := by
  have cases3 : ∀ i : Nat, i < 3 → i = 0 ∨ i = 1 ∨ i = 2 := fun i hi => by omega
  have H : Numbers w g 3 (three s1 s2 s3) (three A1 A2 A3) (three n1 n2 n3) (three c1 c2 c3) (three xs1 xs2 xs3) := by
    refine ⟨hg, ?_, ?_, ?_⟩ <;> intro i hi <;> rcases cases3 i hi with rfl | rfl | rfl <;> simp only [three] <;> assumption
  refine (light_c most g 3 _ _ _ _ _ w H (by omega)).mono ?_
  rintro e w' ⟨rfl, hb⟩
  refine ⟨?_, hb⟩
  congr 2
  rw [decide_eq_decide]
  constructor
  · intro h; exact ⟨h 0 (by omega), h 1 (by omega), h 2 (by omega)⟩
  · intro h i hi
    rcases cases3 i hi with rfl | rfl | rfl
    · exact h.1
    · exact h.2.1
    · exact h.2.2

theorem sz_valid {s : Bool} {n k : Nat} {xs : List Nat} {w : World} {A : Option Addr} (h : Rd w A n xs) (hn : n ≤ k) : Sz (sgn s (val xs)) k := by
  show (sgn s (val xs)).natAbs < pw k
  rw [sgn_abs]
  have h1 := val_lt h.sm
  rw [h.len] at h1
  exact Nat.lt_of_lt_of_le h1 (pw_le hn)

set_option maxHeartbeats 4000000 in
set_option maxRecDepth 100000 in
theorem LargeRing_c (s1 s2 s3 : Bool) (A1 A2 A3 : Option Addr) (n1 c1 n2 c2 n3 c3 : Nat) (xs1 xs2 xs3 : List Nat) (w : World) (h1 : Rd w A1 n1 xs1) (h2 : Rd w A2 n2 xs2) (h3 : Rd w A3 n3 xs3)
    (k1 : n1 ≤ c1) (k2 : n2 ≤ c2) (k3 : n3 ≤ c3) (e1 : c1 ≤ 9223372036854775807) (e2 : c2 ≤ 9223372036854775807) (e3 : c3 ≤ 9223372036854775807) :
    Calls Try.prog 6 #[.agg #[.bool s1, .slice A1 n1 c1], .agg #[.bool s2, .slice A2 n2 c2], .agg #[.bool s3, .slice A3 n3 c3]] w fun e w' => e = .returned (.bool true) ∧ Below w.heap.size w w' := by
  have HB := Lib.hid (((((Below.refl w.heap.size w).alloc (Nat.le_refl _) (.cells #[.bool s1, .slice A1 n1 c1] 24)).alloc (by simp) (.cells #[.bool s2, .slice A2 n2 c2] 24)).alloc (by simp; omega) (.cells #[.bool s3, .slice A3 n3 c3] 24)).alloc (by simp; omega) (.cells #[.bool s1, .slice A1 n1 c1, .bool s2, .slice A2 n2 c2, .bool s3, .slice A3 n3 c3] 24))
  have HK := Lib.hid (And.intro (And.intro k1 e1) (And.intro (And.intro k2 e2) (And.intro k3 e3)))
  clear k1 k2 k3 e1 e2 e3
  have R1 := Lib.hid h1
  have R2 := Lib.hid h2
  have R3 := Lib.hid h3
  clear h1 h2 h3
  go_enter Try.func6, Try.ntmps6
  go_wp2_with fail
  refine (light3_c 1000 (w.heap.size + 1 + 1 + 1) s1 s2 s3 A1 A2 A3 n1 c1 n2 c2 n3 c3 xs1 xs2 xs3 _ (R1.out.below HB.out) (R2.out.below HB.out) (R3.out.below HB.out) (by simp) (by go_simp) (by go_simp) (by go_simp) (by go_simp) (by go_simp) (by go_simp)).mono ?_
  rintro e w0 ⟨rfl, hb⟩
  have P := Lib.hid (HB.out.trans (hb.mono HB.out.size))
  by_cases hL : L3 1000 s1 s2 s3 n1 n2 n3 xs1 xs2 xs3
  · rw [decide_eq_true hL]
    obtain ⟨⟨l1, v1⟩, ⟨l2, v2⟩, ⟨l3, v3⟩⟩ := hL
    have a0 := sz_valid (s := s1) R1.out l1
    have b0 := sz_valid (s := s2) R2.out l2
    have c0 := sz_valid (s := s3) R3.out l3
    have I1 := Is.of_valid (R1.out.below HB.out) v1 HK.out.1.1 HK.out.1.2
    have I2 := Is.of_valid (R2.out.below HB.out) v2 HK.out.2.1.1 HK.out.2.1.2
    have I3 := Is.of_valid (R3.out.below HB.out) v3 HK.out.2.2.1 HK.out.2.2.2
    generalize sgn s1 (val xs1) = x at a0 I1
    generalize sgn s2 (val xs2) = y at b0 I2
    generalize sgn s3 (val xs3) = z at c0 I3
    have H_a := Lib.hid ((Box.mk (b := w.heap.size) (by simp; omega) (by go_simp) (by go_simp) I1).next hb)
    have H_b := Lib.hid ((Box.mk (b := w.heap.size + 1) (by simp) (by go_simp) (by go_simp) I2).next hb)
    have H_c := Lib.hid ((Box.mk (b := w.heap.size + 1 + 1) (by simp) (by go_simp) (by go_simp) I3).next hb)
    have S_a : Sz (x) 4096 := (a0).le (by omega)
    have S_b : Sz (y) 4096 := (b0).le (by omega)
    have S_c : Sz (z) 4096 := (c0).le (by omega)
    have S_ab : Sz (x + y) 4096 := (((a0).add (b0))).le (by omega)
    have S_ba : Sz (y + x) 4096 := (((b0).add (a0))).le (by omega)
    have S_bc : Sz (y + z) 4096 := (((b0).add (c0))).le (by omega)
    have S_l : Sz (x + y + z) 4096 := (((((a0).add (b0))).add (((c0).le (by omega : 1000 ≤ 1001))))).le (by omega)
    have S_r : Sz (x + (y + z)) 4096 := (((((a0).le (by omega : 1000 ≤ 1001))).add (((b0).add (c0))))).le (by omega)
    have S_back : Sz (x + y - y) 4096 := (((((a0).add (b0))).sub (((b0).le (by omega : 1000 ≤ 1001))))).le (by omega)
    have S_p : Sz (x * y) 4096 := (((a0).mul (b0))).le (by omega)
    have S_q : Sz (y * x) 4096 := (((b0).mul (a0))).le (by omega)
    have S_s : Sz (y * z) 4096 := (((b0).mul (c0))).le (by omega)
    have S_t : Sz (x * y * z) 4096 := (((((a0).mul (b0))).mul (c0))).le (by omega)
    have S_u : Sz (x * (y * z)) 4096 := (((a0).mul (((b0).mul (c0))))).le (by omega)
    have S_v : Sz (x * (y + z)) 4096 := (((a0).mul (((b0).add (c0))))).le (by omega)
    have S_w : Sz (x * z) 4096 := (((a0).mul (c0))).le (by omega)
    have S_z : Sz (x * y + x * z) 4096 := (((((a0).mul (b0))).add (((a0).mul (c0))))).le (by omega)

    clear a0 b0 c0 I1 I2 I3 l1 l2 l3 v1 v2 v3 R1 R2 R3 HK HB hb
    have f0_a := H_a.out.c0
    have f1_a := H_a.out.c1
    have f0_b := H_b.out.c0
    have f1_b := H_b.out.c1
    go_wp2_with fail
    clear f0_a f1_a f0_b f1_b
    refine (add_is (k := 4096) H_a.out.is H_b.out.is S_a S_b (Nat.le_refl _) S_ab).mono ?_
    rintro e w_ab ⟨t_ab, B_ab, m_ab, d_ab, rfl, hi, hb⟩
    replace H_a := Lib.hid ((H_a.out.next hb).alloc (.cells #[.bool t_ab, .slice B_ab m_ab d_ab] 24))
    replace H_b := Lib.hid ((H_b.out.next hb).alloc (.cells #[.bool t_ab, .slice B_ab m_ab d_ab] 24))
    replace H_c := Lib.hid ((H_c.out.next hb).alloc (.cells #[.bool t_ab, .slice B_ab m_ab d_ab] 24))
    have H_ab := Lib.hid (Box.new hi)
    replace P := Lib.hid ((P.out.trans (hb.mono P.out.size)).alloc (Nat.le_trans P.out.size hb.size) (.cells #[.bool t_ab, .slice B_ab m_ab d_ab] 24))
    clear hi hb
    have f0_a := H_a.out.c0
    have f1_a := H_a.out.c1
    have f0_b := H_b.out.c0
    have f1_b := H_b.out.c1
    go_wp2_with fail
    clear f0_a f1_a f0_b f1_b
    generalize w_ab.alloc (.cells #[.bool t_ab, .slice B_ab m_ab d_ab] 24) = v_ab at H_a H_b H_c H_ab P ⊢
    refine (add_is (k := 4096) H_b.out.is H_a.out.is S_b S_a (Nat.le_refl _) S_ba).mono ?_
    rintro e w_ba ⟨t_ba, B_ba, m_ba, d_ba, rfl, hi, hb⟩
    replace H_a := Lib.hid ((H_a.out.next hb).alloc (.cells #[.bool t_ba, .slice B_ba m_ba d_ba] 24))
    replace H_b := Lib.hid ((H_b.out.next hb).alloc (.cells #[.bool t_ba, .slice B_ba m_ba d_ba] 24))
    replace H_c := Lib.hid ((H_c.out.next hb).alloc (.cells #[.bool t_ba, .slice B_ba m_ba d_ba] 24))
    replace H_ab := Lib.hid ((H_ab.out.next hb).alloc (.cells #[.bool t_ba, .slice B_ba m_ba d_ba] 24))
    have H_ba := Lib.hid (Box.new hi)
    replace P := Lib.hid ((P.out.trans (hb.mono P.out.size)).alloc (Nat.le_trans P.out.size hb.size) (.cells #[.bool t_ba, .slice B_ba m_ba d_ba] 24))
    clear hi hb
    have f0_b := H_b.out.c0
    have f1_b := H_b.out.c1
    have f0_c := H_c.out.c0
    have f1_c := H_c.out.c1
    go_wp2_with fail
    clear f0_b f1_b f0_c f1_c
    generalize w_ba.alloc (.cells #[.bool t_ba, .slice B_ba m_ba d_ba] 24) = v_ba at H_a H_b H_c H_ab H_ba P ⊢
    refine (add_is (k := 4096) H_b.out.is H_c.out.is S_b S_c (Nat.le_refl _) S_bc).mono ?_
    rintro e w_bc ⟨t_bc, B_bc, m_bc, d_bc, rfl, hi, hb⟩
    replace H_a := Lib.hid ((H_a.out.next hb).alloc (.cells #[.bool t_bc, .slice B_bc m_bc d_bc] 24))
    replace H_b := Lib.hid ((H_b.out.next hb).alloc (.cells #[.bool t_bc, .slice B_bc m_bc d_bc] 24))
    replace H_c := Lib.hid ((H_c.out.next hb).alloc (.cells #[.bool t_bc, .slice B_bc m_bc d_bc] 24))
    replace H_ab := Lib.hid ((H_ab.out.next hb).alloc (.cells #[.bool t_bc, .slice B_bc m_bc d_bc] 24))
    replace H_ba := Lib.hid ((H_ba.out.next hb).alloc (.cells #[.bool t_bc, .slice B_bc m_bc d_bc] 24))
    have H_bc := Lib.hid (Box.new hi)
    replace P := Lib.hid ((P.out.trans (hb.mono P.out.size)).alloc (Nat.le_trans P.out.size hb.size) (.cells #[.bool t_bc, .slice B_bc m_bc d_bc] 24))
    clear hi hb
    have f0_ab := H_ab.out.c0
    have f1_ab := H_ab.out.c1
    have f0_c := H_c.out.c0
    have f1_c := H_c.out.c1
    go_wp2_with fail
    clear f0_ab f1_ab f0_c f1_c
    generalize w_bc.alloc (.cells #[.bool t_bc, .slice B_bc m_bc d_bc] 24) = v_bc at H_a H_b H_c H_ab H_ba H_bc P ⊢
    refine (add_is (k := 4096) H_ab.out.is H_c.out.is S_ab S_c (Nat.le_refl _) S_l).mono ?_
    rintro e w_l ⟨t_l, B_l, m_l, d_l, rfl, hi, hb⟩
    replace H_a := Lib.hid ((H_a.out.next hb).alloc (.cells #[.bool t_l, .slice B_l m_l d_l] 24))
    replace H_b := Lib.hid ((H_b.out.next hb).alloc (.cells #[.bool t_l, .slice B_l m_l d_l] 24))
    replace H_c := Lib.hid ((H_c.out.next hb).alloc (.cells #[.bool t_l, .slice B_l m_l d_l] 24))
    replace H_ab := Lib.hid ((H_ab.out.next hb).alloc (.cells #[.bool t_l, .slice B_l m_l d_l] 24))
    replace H_ba := Lib.hid ((H_ba.out.next hb).alloc (.cells #[.bool t_l, .slice B_l m_l d_l] 24))
    replace H_bc := Lib.hid ((H_bc.out.next hb).alloc (.cells #[.bool t_l, .slice B_l m_l d_l] 24))
    have H_l := Lib.hid (Box.new hi)
    replace P := Lib.hid ((P.out.trans (hb.mono P.out.size)).alloc (Nat.le_trans P.out.size hb.size) (.cells #[.bool t_l, .slice B_l m_l d_l] 24))
    clear hi hb
    have f0_a := H_a.out.c0
    have f1_a := H_a.out.c1
    have f0_bc := H_bc.out.c0
    have f1_bc := H_bc.out.c1
    go_wp2_with fail
    clear f0_a f1_a f0_bc f1_bc
    generalize w_l.alloc (.cells #[.bool t_l, .slice B_l m_l d_l] 24) = v_l at H_a H_b H_c H_ab H_ba H_bc H_l P ⊢
    refine (add_is (k := 4096) H_a.out.is H_bc.out.is S_a S_bc (Nat.le_refl _) S_r).mono ?_
    rintro e w_r ⟨t_r, B_r, m_r, d_r, rfl, hi, hb⟩
    replace H_a := Lib.hid ((H_a.out.next hb).alloc (.cells #[.bool t_r, .slice B_r m_r d_r] 24))
    replace H_b := Lib.hid ((H_b.out.next hb).alloc (.cells #[.bool t_r, .slice B_r m_r d_r] 24))
    replace H_c := Lib.hid ((H_c.out.next hb).alloc (.cells #[.bool t_r, .slice B_r m_r d_r] 24))
    replace H_ab := Lib.hid ((H_ab.out.next hb).alloc (.cells #[.bool t_r, .slice B_r m_r d_r] 24))
    replace H_ba := Lib.hid ((H_ba.out.next hb).alloc (.cells #[.bool t_r, .slice B_r m_r d_r] 24))
    replace H_bc := Lib.hid ((H_bc.out.next hb).alloc (.cells #[.bool t_r, .slice B_r m_r d_r] 24))
    replace H_l := Lib.hid ((H_l.out.next hb).alloc (.cells #[.bool t_r, .slice B_r m_r d_r] 24))
    have H_r := Lib.hid (Box.new hi)
    replace P := Lib.hid ((P.out.trans (hb.mono P.out.size)).alloc (Nat.le_trans P.out.size hb.size) (.cells #[.bool t_r, .slice B_r m_r d_r] 24))
    clear hi hb
    have f0_ab := H_ab.out.c0
    have f1_ab := H_ab.out.c1
    have f0_b := H_b.out.c0
    have f1_b := H_b.out.c1
    go_wp2_with fail
    clear f0_ab f1_ab f0_b f1_b
    generalize w_r.alloc (.cells #[.bool t_r, .slice B_r m_r d_r] 24) = v_r at H_a H_b H_c H_ab H_ba H_bc H_l H_r P ⊢
    refine (sub_is (k := 4096) H_ab.out.is H_b.out.is S_ab S_b (Nat.le_refl _) S_back).mono ?_
    rintro e w_back ⟨t_back, B_back, m_back, d_back, rfl, hi, hb⟩
    replace H_a := Lib.hid ((H_a.out.next hb).alloc (.cells #[.bool t_back, .slice B_back m_back d_back] 24))
    replace H_b := Lib.hid ((H_b.out.next hb).alloc (.cells #[.bool t_back, .slice B_back m_back d_back] 24))
    replace H_c := Lib.hid ((H_c.out.next hb).alloc (.cells #[.bool t_back, .slice B_back m_back d_back] 24))
    replace H_ab := Lib.hid ((H_ab.out.next hb).alloc (.cells #[.bool t_back, .slice B_back m_back d_back] 24))
    replace H_ba := Lib.hid ((H_ba.out.next hb).alloc (.cells #[.bool t_back, .slice B_back m_back d_back] 24))
    replace H_bc := Lib.hid ((H_bc.out.next hb).alloc (.cells #[.bool t_back, .slice B_back m_back d_back] 24))
    replace H_l := Lib.hid ((H_l.out.next hb).alloc (.cells #[.bool t_back, .slice B_back m_back d_back] 24))
    replace H_r := Lib.hid ((H_r.out.next hb).alloc (.cells #[.bool t_back, .slice B_back m_back d_back] 24))
    have H_back := Lib.hid (Box.new hi)
    replace P := Lib.hid ((P.out.trans (hb.mono P.out.size)).alloc (Nat.le_trans P.out.size hb.size) (.cells #[.bool t_back, .slice B_back m_back d_back] 24))
    clear hi hb
    have f0_ab := H_ab.out.c0
    have f1_ab := H_ab.out.c1
    have f0_ba := H_ba.out.c0
    have f1_ba := H_ba.out.c1
    go_wp2_with fail
    clear f0_ab f1_ab f0_ba f1_ba
    generalize w_back.alloc (.cells #[.bool t_back, .slice B_back m_back d_back] 24) = v_back at H_a H_b H_c H_ab H_ba H_bc H_l H_r H_back P ⊢
    refine (same_eq (k := 4096) H_ab.out.is H_ba.out.is S_ab (Nat.le_refl _) (Int.add_comm x y)).mono ?_
    rintro e x6 ⟨rfl, hb⟩
    replace H_a := Lib.hid (H_a.out.next hb)
    replace H_b := Lib.hid (H_b.out.next hb)
    replace H_c := Lib.hid (H_c.out.next hb)
    replace H_bc := Lib.hid (H_bc.out.next hb)
    replace H_l := Lib.hid (H_l.out.next hb)
    replace H_r := Lib.hid (H_r.out.next hb)
    replace H_back := Lib.hid (H_back.out.next hb)
    replace P := Lib.hid (P.out.trans (hb.mono P.out.size))
    clear hb
    have f0_l := H_l.out.c0
    have f1_l := H_l.out.c1
    have f0_r := H_r.out.c0
    have f1_r := H_r.out.c1
    go_wp2_with fail
    clear f0_l f1_l f0_r f1_r
    refine (same_eq (k := 4096) H_l.out.is H_r.out.is S_l (Nat.le_refl _) (Int.add_assoc x y z)).mono ?_
    rintro e x7 ⟨rfl, hb⟩
    replace H_a := Lib.hid (H_a.out.next hb)
    replace H_b := Lib.hid (H_b.out.next hb)
    replace H_c := Lib.hid (H_c.out.next hb)
    replace H_bc := Lib.hid (H_bc.out.next hb)
    replace H_back := Lib.hid (H_back.out.next hb)
    replace P := Lib.hid (P.out.trans (hb.mono P.out.size))
    clear hb
    have f0_a := H_a.out.c0
    have f1_a := H_a.out.c1
    have f0_back := H_back.out.c0
    have f1_back := H_back.out.c1
    go_wp2_with fail
    clear f0_a f1_a f0_back f1_back
    refine (same_eq (k := 4096) H_back.out.is H_a.out.is S_back (Nat.le_refl _) (Int.add_sub_cancel x y)).mono ?_
    rintro e x8 ⟨rfl, hb⟩
    replace H_a := Lib.hid (H_a.out.next hb)
    replace H_b := Lib.hid (H_b.out.next hb)
    replace H_c := Lib.hid (H_c.out.next hb)
    replace H_bc := Lib.hid (H_bc.out.next hb)
    replace P := Lib.hid (P.out.trans (hb.mono P.out.size))
    clear hb
    have f0_a := H_a.out.c0
    have f1_a := H_a.out.c1
    have f0_b := H_b.out.c0
    have f1_b := H_b.out.c1
    go_wp2_with fail
    clear f0_a f1_a f0_b f1_b
    refine (mul_is (k := 4096) H_a.out.is H_b.out.is S_a S_b (Nat.le_refl _) S_p).mono ?_
    rintro e w_p ⟨t_p, B_p, m_p, d_p, rfl, hi, hb⟩
    replace H_a := Lib.hid ((H_a.out.next hb).alloc (.cells #[.bool t_p, .slice B_p m_p d_p] 24))
    replace H_b := Lib.hid ((H_b.out.next hb).alloc (.cells #[.bool t_p, .slice B_p m_p d_p] 24))
    replace H_c := Lib.hid ((H_c.out.next hb).alloc (.cells #[.bool t_p, .slice B_p m_p d_p] 24))
    replace H_bc := Lib.hid ((H_bc.out.next hb).alloc (.cells #[.bool t_p, .slice B_p m_p d_p] 24))
    have H_p := Lib.hid (Box.new hi)
    replace P := Lib.hid ((P.out.trans (hb.mono P.out.size)).alloc (Nat.le_trans P.out.size hb.size) (.cells #[.bool t_p, .slice B_p m_p d_p] 24))
    clear hi hb
    have f0_a := H_a.out.c0
    have f1_a := H_a.out.c1
    have f0_b := H_b.out.c0
    have f1_b := H_b.out.c1
    go_wp2_with fail
    clear f0_a f1_a f0_b f1_b
    generalize w_p.alloc (.cells #[.bool t_p, .slice B_p m_p d_p] 24) = v_p at H_a H_b H_c H_bc H_p P ⊢
    refine (mul_is (k := 4096) H_b.out.is H_a.out.is S_b S_a (Nat.le_refl _) S_q).mono ?_
    rintro e w_q ⟨t_q, B_q, m_q, d_q, rfl, hi, hb⟩
    replace H_a := Lib.hid ((H_a.out.next hb).alloc (.cells #[.bool t_q, .slice B_q m_q d_q] 24))
    replace H_b := Lib.hid ((H_b.out.next hb).alloc (.cells #[.bool t_q, .slice B_q m_q d_q] 24))
    replace H_c := Lib.hid ((H_c.out.next hb).alloc (.cells #[.bool t_q, .slice B_q m_q d_q] 24))
    replace H_bc := Lib.hid ((H_bc.out.next hb).alloc (.cells #[.bool t_q, .slice B_q m_q d_q] 24))
    replace H_p := Lib.hid ((H_p.out.next hb).alloc (.cells #[.bool t_q, .slice B_q m_q d_q] 24))
    have H_q := Lib.hid (Box.new hi)
    replace P := Lib.hid ((P.out.trans (hb.mono P.out.size)).alloc (Nat.le_trans P.out.size hb.size) (.cells #[.bool t_q, .slice B_q m_q d_q] 24))
    clear hi hb
    have f0_b := H_b.out.c0
    have f1_b := H_b.out.c1
    have f0_c := H_c.out.c0
    have f1_c := H_c.out.c1
    go_wp2_with fail
    clear f0_b f1_b f0_c f1_c
    generalize w_q.alloc (.cells #[.bool t_q, .slice B_q m_q d_q] 24) = v_q at H_a H_b H_c H_bc H_p H_q P ⊢
    refine (mul_is (k := 4096) H_b.out.is H_c.out.is S_b S_c (Nat.le_refl _) S_s).mono ?_
    rintro e w_s ⟨t_s, B_s, m_s, d_s, rfl, hi, hb⟩
    replace H_a := Lib.hid ((H_a.out.next hb).alloc (.cells #[.bool t_s, .slice B_s m_s d_s] 24))
    replace H_c := Lib.hid ((H_c.out.next hb).alloc (.cells #[.bool t_s, .slice B_s m_s d_s] 24))
    replace H_bc := Lib.hid ((H_bc.out.next hb).alloc (.cells #[.bool t_s, .slice B_s m_s d_s] 24))
    replace H_p := Lib.hid ((H_p.out.next hb).alloc (.cells #[.bool t_s, .slice B_s m_s d_s] 24))
    replace H_q := Lib.hid ((H_q.out.next hb).alloc (.cells #[.bool t_s, .slice B_s m_s d_s] 24))
    have H_s := Lib.hid (Box.new hi)
    replace P := Lib.hid ((P.out.trans (hb.mono P.out.size)).alloc (Nat.le_trans P.out.size hb.size) (.cells #[.bool t_s, .slice B_s m_s d_s] 24))
    clear hi hb
    have f0_c := H_c.out.c0
    have f1_c := H_c.out.c1
    have f0_p := H_p.out.c0
    have f1_p := H_p.out.c1
    go_wp2_with fail
    clear f0_c f1_c f0_p f1_p
    generalize w_s.alloc (.cells #[.bool t_s, .slice B_s m_s d_s] 24) = v_s at H_a H_c H_bc H_p H_q H_s P ⊢
    refine (mul_is (k := 4096) H_p.out.is H_c.out.is S_p S_c (Nat.le_refl _) S_t).mono ?_
    rintro e w_t ⟨t_t, B_t, m_t, d_t, rfl, hi, hb⟩
    replace H_a := Lib.hid ((H_a.out.next hb).alloc (.cells #[.bool t_t, .slice B_t m_t d_t] 24))
    replace H_c := Lib.hid ((H_c.out.next hb).alloc (.cells #[.bool t_t, .slice B_t m_t d_t] 24))
    replace H_bc := Lib.hid ((H_bc.out.next hb).alloc (.cells #[.bool t_t, .slice B_t m_t d_t] 24))
    replace H_p := Lib.hid ((H_p.out.next hb).alloc (.cells #[.bool t_t, .slice B_t m_t d_t] 24))
    replace H_q := Lib.hid ((H_q.out.next hb).alloc (.cells #[.bool t_t, .slice B_t m_t d_t] 24))
    replace H_s := Lib.hid ((H_s.out.next hb).alloc (.cells #[.bool t_t, .slice B_t m_t d_t] 24))
    have H_t := Lib.hid (Box.new hi)
    replace P := Lib.hid ((P.out.trans (hb.mono P.out.size)).alloc (Nat.le_trans P.out.size hb.size) (.cells #[.bool t_t, .slice B_t m_t d_t] 24))
    clear hi hb
    have f0_a := H_a.out.c0
    have f1_a := H_a.out.c1
    have f0_s := H_s.out.c0
    have f1_s := H_s.out.c1
    go_wp2_with fail
    clear f0_a f1_a f0_s f1_s
    generalize w_t.alloc (.cells #[.bool t_t, .slice B_t m_t d_t] 24) = v_t at H_a H_c H_bc H_p H_q H_s H_t P ⊢
    refine (mul_is (k := 4096) H_a.out.is H_s.out.is S_a S_s (Nat.le_refl _) S_u).mono ?_
    rintro e w_u ⟨t_u, B_u, m_u, d_u, rfl, hi, hb⟩
    replace H_a := Lib.hid ((H_a.out.next hb).alloc (.cells #[.bool t_u, .slice B_u m_u d_u] 24))
    replace H_c := Lib.hid ((H_c.out.next hb).alloc (.cells #[.bool t_u, .slice B_u m_u d_u] 24))
    replace H_bc := Lib.hid ((H_bc.out.next hb).alloc (.cells #[.bool t_u, .slice B_u m_u d_u] 24))
    replace H_p := Lib.hid ((H_p.out.next hb).alloc (.cells #[.bool t_u, .slice B_u m_u d_u] 24))
    replace H_q := Lib.hid ((H_q.out.next hb).alloc (.cells #[.bool t_u, .slice B_u m_u d_u] 24))
    replace H_t := Lib.hid ((H_t.out.next hb).alloc (.cells #[.bool t_u, .slice B_u m_u d_u] 24))
    have H_u := Lib.hid (Box.new hi)
    replace P := Lib.hid ((P.out.trans (hb.mono P.out.size)).alloc (Nat.le_trans P.out.size hb.size) (.cells #[.bool t_u, .slice B_u m_u d_u] 24))
    clear hi hb
    have f0_a := H_a.out.c0
    have f1_a := H_a.out.c1
    have f0_bc := H_bc.out.c0
    have f1_bc := H_bc.out.c1
    go_wp2_with fail
    clear f0_a f1_a f0_bc f1_bc
    generalize w_u.alloc (.cells #[.bool t_u, .slice B_u m_u d_u] 24) = v_u at H_a H_c H_bc H_p H_q H_t H_u P ⊢
    refine (mul_is (k := 4096) H_a.out.is H_bc.out.is S_a S_bc (Nat.le_refl _) S_v).mono ?_
    rintro e w_v ⟨t_v, B_v, m_v, d_v, rfl, hi, hb⟩
    replace H_a := Lib.hid ((H_a.out.next hb).alloc (.cells #[.bool t_v, .slice B_v m_v d_v] 24))
    replace H_c := Lib.hid ((H_c.out.next hb).alloc (.cells #[.bool t_v, .slice B_v m_v d_v] 24))
    replace H_p := Lib.hid ((H_p.out.next hb).alloc (.cells #[.bool t_v, .slice B_v m_v d_v] 24))
    replace H_q := Lib.hid ((H_q.out.next hb).alloc (.cells #[.bool t_v, .slice B_v m_v d_v] 24))
    replace H_t := Lib.hid ((H_t.out.next hb).alloc (.cells #[.bool t_v, .slice B_v m_v d_v] 24))
    replace H_u := Lib.hid ((H_u.out.next hb).alloc (.cells #[.bool t_v, .slice B_v m_v d_v] 24))
    have H_v := Lib.hid (Box.new hi)
    replace P := Lib.hid ((P.out.trans (hb.mono P.out.size)).alloc (Nat.le_trans P.out.size hb.size) (.cells #[.bool t_v, .slice B_v m_v d_v] 24))
    clear hi hb
    have f0_a := H_a.out.c0
    have f1_a := H_a.out.c1
    have f0_c := H_c.out.c0
    have f1_c := H_c.out.c1
    go_wp2_with fail
    clear f0_a f1_a f0_c f1_c
    generalize w_v.alloc (.cells #[.bool t_v, .slice B_v m_v d_v] 24) = v_v at H_a H_c H_p H_q H_t H_u H_v P ⊢
    refine (mul_is (k := 4096) H_a.out.is H_c.out.is S_a S_c (Nat.le_refl _) S_w).mono ?_
    rintro e w_w ⟨t_w, B_w, m_w, d_w, rfl, hi, hb⟩
    replace H_p := Lib.hid ((H_p.out.next hb).alloc (.cells #[.bool t_w, .slice B_w m_w d_w] 24))
    replace H_q := Lib.hid ((H_q.out.next hb).alloc (.cells #[.bool t_w, .slice B_w m_w d_w] 24))
    replace H_t := Lib.hid ((H_t.out.next hb).alloc (.cells #[.bool t_w, .slice B_w m_w d_w] 24))
    replace H_u := Lib.hid ((H_u.out.next hb).alloc (.cells #[.bool t_w, .slice B_w m_w d_w] 24))
    replace H_v := Lib.hid ((H_v.out.next hb).alloc (.cells #[.bool t_w, .slice B_w m_w d_w] 24))
    have H_w := Lib.hid (Box.new hi)
    replace P := Lib.hid ((P.out.trans (hb.mono P.out.size)).alloc (Nat.le_trans P.out.size hb.size) (.cells #[.bool t_w, .slice B_w m_w d_w] 24))
    clear hi hb
    have f0_p := H_p.out.c0
    have f1_p := H_p.out.c1
    have f0_w := H_w.out.c0
    have f1_w := H_w.out.c1
    go_wp2_with fail
    clear f0_p f1_p f0_w f1_w
    generalize w_w.alloc (.cells #[.bool t_w, .slice B_w m_w d_w] 24) = v_w at H_p H_q H_t H_u H_v H_w P ⊢
    refine (add_is (k := 4096) H_p.out.is H_w.out.is S_p S_w (Nat.le_refl _) S_z).mono ?_
    rintro e w_z ⟨t_z, B_z, m_z, d_z, rfl, hi, hb⟩
    replace H_p := Lib.hid ((H_p.out.next hb).alloc (.cells #[.bool t_z, .slice B_z m_z d_z] 24))
    replace H_q := Lib.hid ((H_q.out.next hb).alloc (.cells #[.bool t_z, .slice B_z m_z d_z] 24))
    replace H_t := Lib.hid ((H_t.out.next hb).alloc (.cells #[.bool t_z, .slice B_z m_z d_z] 24))
    replace H_u := Lib.hid ((H_u.out.next hb).alloc (.cells #[.bool t_z, .slice B_z m_z d_z] 24))
    replace H_v := Lib.hid ((H_v.out.next hb).alloc (.cells #[.bool t_z, .slice B_z m_z d_z] 24))
    have H_z := Lib.hid (Box.new hi)
    replace P := Lib.hid ((P.out.trans (hb.mono P.out.size)).alloc (Nat.le_trans P.out.size hb.size) (.cells #[.bool t_z, .slice B_z m_z d_z] 24))
    clear hi hb
    have f0_p := H_p.out.c0
    have f1_p := H_p.out.c1
    have f0_q := H_q.out.c0
    have f1_q := H_q.out.c1
    go_wp2_with fail
    clear f0_p f1_p f0_q f1_q
    generalize w_z.alloc (.cells #[.bool t_z, .slice B_z m_z d_z] 24) = v_z at H_p H_q H_t H_u H_v H_z P ⊢
    refine (same_eq (k := 4096) H_p.out.is H_q.out.is S_p (Nat.le_refl _) (Int.mul_comm x y)).mono ?_
    rintro e x17 ⟨rfl, hb⟩
    replace H_t := Lib.hid (H_t.out.next hb)
    replace H_u := Lib.hid (H_u.out.next hb)
    replace H_v := Lib.hid (H_v.out.next hb)
    replace H_z := Lib.hid (H_z.out.next hb)
    replace P := Lib.hid (P.out.trans (hb.mono P.out.size))
    clear hb
    have f0_t := H_t.out.c0
    have f1_t := H_t.out.c1
    have f0_u := H_u.out.c0
    have f1_u := H_u.out.c1
    go_wp2_with fail
    clear f0_t f1_t f0_u f1_u
    refine (same_eq (k := 4096) H_t.out.is H_u.out.is S_t (Nat.le_refl _) (Int.mul_assoc x y z)).mono ?_
    rintro e x18 ⟨rfl, hb⟩
    replace H_v := Lib.hid (H_v.out.next hb)
    replace H_z := Lib.hid (H_z.out.next hb)
    replace P := Lib.hid (P.out.trans (hb.mono P.out.size))
    clear hb
    have f0_v := H_v.out.c0
    have f1_v := H_v.out.c1
    have f0_z := H_z.out.c0
    have f1_z := H_z.out.c1
    go_wp2_with fail
    clear f0_v f1_v f0_z f1_z
    refine (same_eq (k := 4096) H_v.out.is H_z.out.is S_v (Nat.le_refl _) (Int.mul_add x y z)).mono ?_
    rintro e x19 ⟨rfl, hb⟩
    replace P := Lib.hid (P.out.trans (hb.mono P.out.size))
    clear hb
    go_wp2_with fail
    refine (awake_c _).mono ?_
    rintro e x20 ⟨rfl, hb⟩
    replace P := Lib.hid (P.out.trans (hb.mono P.out.size))
    clear hb
    go_wp2
    go_ret
    exact ⟨rfl, P.out⟩

  · rw [decide_eq_false hL]
    clear HB HK R1 R2 R3 hb hL
    go_wp2_with fail
    refine (awake_c _).mono ?_
    rintro e w9 ⟨rfl, hb⟩
    replace P := Lib.hid (P.out.trans (hb.mono P.out.size))
    clear hb
    go_wp2
    go_ret
    exact ⟨rfl, P.out⟩
end Go.Proofs.Ytpgiifjngkekgaa

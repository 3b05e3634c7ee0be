import Derived.Test.YtbblckaplddggaaRi
import Derived.Test.YtbblckaplddggaaVd
namespace Go.Proofs.Ytbblckaplddggaa
open Go.RowKit

set_option maxHeartbeats 400000 in
theorem fits_c (s : Bool) (A : Option Addr) (n c : Nat) (w : World) : Calls Try.prog 21 #[.agg #[.bool s, .slice A n c]] w fun e w' => e = .returned (.bool (decide (n ≤ 4096))) ∧ Below w.heap.size w w' := by
  by_cases h : n ≤ 4096
  · have H := Lib.hid (show decide (n ≤ 4096) = true from decide_eq_true h)
    go_enter Try.func21, Try.ntmps21
    go_wp2
    go_ret
    exact ⟨by rw [H.out]; simp; omega, below_alloc _ _⟩
  · have H := Lib.hid (show decide (n ≤ 4096) = false from decide_eq_false h)
    go_enter Try.func21, Try.ntmps21
    go_wp2
    go_ret
    exact ⟨by rw [H.out]; simp; omega, below_alloc _ _⟩
theorem same_zero (w : World) : Calls Try.prog 29 #[.agg #[.bool false, .slice none 0 0], .agg #[.bool false, .slice none 0 0]] w fun e w' => e = .returned (.bool true) ∧ Below w.heap.size w w' :=
  (Same_c false false none none 0 0 0 0 [] [] w (Rd.nil _) (Rd.nil _) (by omega)).mono fun _ _ ⟨he, hb⟩ => ⟨by rw [he]; rfl, hb⟩

set_option maxHeartbeats 400000 in
theorem no_c (k : Int) (w : World) : Calls Try.prog 47 #[.agg #[.bool false, .slice none 0 0], .int .i64 k, .int .i64 k] w fun e w' => e = .returned (.bool true) ∧ Below w.heap.size w w' := by
  have t : (k == k) = true := by simp
  have hb := below_alloc w (.cells #[.bool false, .slice none 0 0] 24)
  have HB := Lib.hid hb
  clear hb
  go_enter Try.func47, Try.ntmps47
  go_wp2_with fail
  refine (same_zero _).mono ?_
  rintro e w1 ⟨rfl, hb⟩
  have H := Lib.hid (HB.out.trans (hb.mono HB.out.size))
  clear hb
  go_wp2
  go_ret
  exact ⟨rfl, H.out⟩

set_option maxHeartbeats 1000000 in
theorem is_c {w : World} {z k : Int} {t t' : Bool} {B B' : Option Addr} {m d m' d' : Nat} (h : NumIs w z t B m d k) (h' : Is w z t' B' m' d') :
    Calls Try.prog 50 #[.agg #[.bool t, .slice B m d], .int .i64 k, .agg #[.bool t', .slice B' m' d']] w fun e w' => e = .returned (.bool true) ∧ Below w.heap.size w w' := by
  by_cases hf : m' ≤ 4096
  · obtain ⟨rfl, hi⟩ := h.is_ (by rw [← h'.2.1]; exact hf)
    have HI := Lib.hid hi
    have HJ := Lib.hid h'
    have hsz := Lib.hid (show Sz z 4096 by show z.natAbs < pw 4096; exact words_len_le.1 (by rw [← h'.2.1]; exact hf))
    have HF := Lib.hid (show decide (m' ≤ 4096) = true from decide_eq_true hf)
    clear h hi h' hf
    have E := Env2.start w t t' B B' m d m' d'
    have HE := Lib.hid E
    clear E
    go_enter Try.func50, Try.ntmps50
    go_wp2_with fail
    generalize (w.alloc (.cells #[.bool t, .slice B m d] 24)).alloc (.cells #[.bool t', .slice B' m' d'] 24) = W at HE ⊢
    refine (fits_c t' B' m' d' _).mono ?_
    rintro e w1 ⟨rfl, hb⟩
    rw [HF.out]
    have E1 := Lib.hid (HE.out.next hb)
    clear hb
    have a0 := E1.out.a0
    have a1 := E1.out.a1
    have b0 := E1.out.b0
    have b1 := E1.out.b1
    go_wp2_with fail
    refine (same_eq (k := 4096) (HI.out.below E1.out.below) (HJ.out.below E1.out.below) hsz.out (Nat.le_refl _) rfl).mono ?_
    rintro e w2 ⟨rfl, hb⟩
    have H := Lib.hid (E1.out.below.trans (hb.mono E1.out.below.size))
    clear hb a0 a1 b0 b1
    go_wp2
    go_ret
    exact ⟨rfl, H.out⟩
  · obtain ⟨rfl, rfl, rfl, rfl, rfl⟩ := h.2 (by rw [← h'.2.1]; exact hf)
    have HF := Lib.hid (show decide (m' ≤ 4096) = false from decide_eq_false hf)
    clear h h' hf
    have E := Env2.start w false t' none B' 0 0 m' d'
    have HE := Lib.hid E
    clear E
    go_enter Try.func50, Try.ntmps50
    go_wp2_with fail
    generalize (w.alloc (.cells #[.bool false, .slice none 0 0] 24)).alloc (.cells #[.bool t', .slice B' m' d'] 24) = W at HE ⊢
    refine (fits_c t' B' m' d' _).mono ?_
    rintro e w1 ⟨rfl, hb⟩
    rw [HF.out]
    have E1 := Lib.hid (HE.out.next hb)
    clear hb
    have a0 := E1.out.a0
    have a1 := E1.out.a1
    have b0 := E1.out.b0
    have b1 := E1.out.b1
    go_wp2_with fail
    refine (same_zero _).mono ?_
    rintro e w2 ⟨rfl, hb⟩
    have H := Lib.hid (E1.out.below.trans (hb.mono E1.out.below.size))
    clear hb a0 a1 b0 b1
    go_wp2
    go_ret
    exact ⟨rfl, H.out⟩

theorem is_zero (w : World) : Is w 0 false none 0 0 := by
  have e : words (0 : Int).natAbs = [] := words_zero
  exact ⟨rfl, by rw [e]; rfl, by rw [e]; exact Rd.nil _, Nat.le_refl _, by omega⟩
/-- block b is a box that holds a number or, where it is too long, 0 -/
structure NBox (W : World) (b : Nat) (z : Int) (t : Bool) (A : Option Addr) (n c : Nat) (k : Int) : Prop where
  lt : b < W.heap.size
  c0 : W.cell? ⟨b, 0, none⟩ = some (.bool t)
  c1 : W.cell? ⟨b, 1, none⟩ = some (.slice A n c)
  num : NumIs W z t A n c k
theorem NBox.next {W w1 : World} {b : Nat} {z k : Int} {t : Bool} {A : Option Addr} {n c : Nat} (h : NBox W b z t A n c k) (hb : Below W.heap.size W w1) : NBox w1 b z t A n c k :=
  ⟨Nat.lt_of_lt_of_le h.lt hb.size, (hb.cell (p := ⟨b, 0, none⟩) h.lt).trans h.c0, (hb.cell (p := ⟨b, 1, none⟩) h.lt).trans h.c1, h.num.below hb⟩
theorem NBox.new {W : World} {z k : Int} {t : Bool} {A : Option Addr} {n c : Nat} (h : NumIs W z t A n c k) : NBox (W.alloc (.cells #[.bool t, .slice A n c] 24)) W.heap.size z t A n c k :=
  ⟨by simp, by go_simp, by go_simp, h.below (below_alloc _ _)⟩
theorem NBox.alloc {W : World} {b : Nat} {z k : Int} {t : Bool} {A : Option Addr} {n c : Nat} (h : NBox W b z t A n c k) (o : Obj) : NBox (W.alloc o) b z t A n c k := h.next (below_alloc _ _)

end Go.Proofs.Ytbblckaplddggaa

import Derived.Test.YthjdnidapbhdlaaDoorWq
import Derived.Test.YthjdnidapbhdlaaDoorWz
namespace Go.Proofs.YthjdnidapbhdlaaDoor
open Go.RowKit

/-- a number in a box, and the cells of a result -/
structure Env1 (w W : World) (s : Bool) (A : Option Addr) (n c : Nat) : Prop where
  size : w.heap.size + 2 ≤ W.heap.size
  a0 : W.cell? ⟨w.heap.size, 0, none⟩ = some (.bool s)
  a1 : W.cell? ⟨w.heap.size, 1, none⟩ = some (.slice A n c)
  r0 : W.cell? ⟨w.heap.size + 1, 0, none⟩ = some (.bool false)
  r1 : W.cell? ⟨w.heap.size + 1, 1, none⟩ = some (.slice none 0 0)
  f0 : W.frozen? ⟨w.heap.size + 1, 0, none⟩ = false
  f1 : W.frozen? ⟨w.heap.size + 1, 1, none⟩ = false
  below : Below w.heap.size w W
theorem Env1.start (w : World) (s : Bool) (A : Option Addr) (n c : Nat) :
    Env1 w ((w.alloc (.cells #[.bool s, .slice A n c] 24)).alloc (.cells #[.bool false, .slice none 0 0] 24)) s A n c :=
  ⟨by simp, by go_simp, by go_simp, by go_simp, by go_simp, by go_simp, by go_simp, (((Below.refl _ _).alloc (Nat.le_refl _) _).alloc (by simp) _)⟩
theorem Env1.next {w W w1 : World} {s : Bool} {A : Option Addr} {n c : Nat} (h : Env1 w W s A n c) (hb : Below W.heap.size W w1) : Env1 w w1 s A n c := by
  have hz := h.size
  have hz1 := hb.size
  exact ⟨by omega, (hb.cell (p := ⟨w.heap.size, 0, none⟩) (by simp; omega)).trans h.a0, (hb.cell (p := ⟨w.heap.size, 1, none⟩) (by simp; omega)).trans h.a1,
    (hb.cell (p := ⟨w.heap.size + 1, 0, none⟩) (by simp; omega)).trans h.r0, (hb.cell (p := ⟨w.heap.size + 1, 1, none⟩) (by simp; omega)).trans h.r1,
    (hb.frozen (p := ⟨w.heap.size + 1, 0, none⟩) (by simp; omega)).trans h.f0, (hb.frozen (p := ⟨w.heap.size + 1, 1, none⟩) (by simp; omega)).trans h.f1,
    h.below.trans (hb.mono (by omega))⟩
theorem Env1.alloc {w W : World} {s : Bool} {A : Option Addr} {n c : Nat} (h : Env1 w W s A n c) (o : Obj) : Env1 w (W.alloc o) s A n c := h.next ((Below.refl _ _).alloc (Nat.le_refl _) o)
theorem Env1.drewN {w W : World} {s : Bool} {A : Option Addr} {n c : Nat} (h : Env1 w W s A n c) (k : Nat) : Env1 w (W.drewN k) s A n c := h.next (below_drewN (Below.refl _ _) k)

theorem ord_beq (a b : Nat) : ((ord (a : Int) (b : Int)) == 0) = decide (a = b) := by
  rcases Nat.lt_trichotomy a b with h | h | h
  · rw [ord_lt (by omega), decide_eq_false (by omega)]; rfl
  · rw [ord_eq (by omega), decide_eq_true h]; rfl
  · rw [ord_gt (by omega), decide_eq_false (by omega)]; rfl

def RootNum (w : World) (X : Nat) (e : Ending) (w' : World) : Prop :=
  ∃ r t B m d, IsRoot X r ∧ e = .returned (.tuple #[.agg #[.bool t, .slice B m d], .bool (decide (r * r = X)), .int .i64 0]) ∧ Is w' (r : Int) t B m d ∧ Below w.heap.size w w'

set_option maxHeartbeats 1000000 in
set_option maxRecDepth 100000 in
theorem Root_ok (A : Option Addr) (n c : Nat) (xs : List Nat) (w : World) (h : Rd w A n xs) (vx : validB false xs = true)
    (RT : Hid (∀ w', Rd w' A n xs → Calls Tryd.prog 83 #[.slice A n c] w' (RootPost w' (val xs)))) :
    Calls Tryd.prog 39 #[.agg #[.bool false, .slice A n c]] w (RootNum w (val xs)) := by
  have VX := Lib.hid (valid_canon h.sm vx)
  have HV := Lib.hid vx
  have hl := VX.out.2.1
  rw [h.len] at hl
  have HX := Lib.hid (show (words (val xs)).length ≤ 4096 by rw [words_val VX.out.1]; exact VX.out.2.1)
  clear vx
  go_enter Tryd.func39, Tryd.ntmps39
  go_wp2_with fail
  have E := Env1.start w false A n c
  refine (valid_c false A n c xs _ (h.below E.below)).mono ?_
  rintro e w1 ⟨rfl, hb⟩
  rw [HV.out]
  have E1 := Lib.hid (E.next hb)
  clear E hb
  have a0 := E1.out.a0
  have a1 := E1.out.a1
  go_wp2_with fail
  refine (RT.out w1 (h.below E1.out.below)).mono ?_
  rintro e w2 ⟨r, hroot, Ar, cr, rfl, r1, r2, r3, r4, -⟩
  have E2 := Lib.hid (E1.out.next r4)
  have hrx : r ≤ val xs := Nat.le_trans (by rcases Nat.eq_zero_or_pos r with h0 | h0; · omega
                                            · exact Nat.le_mul_of_pos_left r h0) hroot.1
  have hrl : (words r).length ≤ 4096 := Nat.le_trans (words_mono hrx) HX.out
  have HR := Lib.hid (show (words (sgn false (val (words r))).natAbs).length ≤ 4096 by rw [sgn_abs, val_words]; exact hrl)
  have RR := Lib.hid hroot
  clear a0 a1 hrx hroot
  go_wp2_with fail
  refine (number_c false Ar _ cr (words r) w2 r1 r2 r3).mono ?_
  rintro e w3 ⟨t, B, m, d, k, rfl, p1, p2⟩
  obtain ⟨hk, I1⟩ := p1.is_ HR.out
  subst hk
  have E3 := Lib.hid (E2.out.next p2)
  have rr := r1.below p2
  clear p1 r1
  go_wp2_with fail
  have hbn : Below w3.heap.size w3 (w3.alloc (.cells #[.bool t, .slice B m d] 24)) := (Below.refl _ _).alloc (Nat.le_refl _) _
  have E4 := Lib.hid (E3.out.next hbn)
  have J1 := I1.below hbn
  have rr4 := rr.below hbn
  have y0 : (w3.alloc (.cells #[.bool t, .slice B m d] 24)).cell? ⟨w3.heap.size, 0, none⟩ = some (.bool t) := by go_simp
  have y1 : (w3.alloc (.cells #[.bool t, .slice B m d] 24)).cell? ⟨w3.heap.size, 1, none⟩ = some (.slice B m d) := by go_simp
  have hz4 : w3.heap.size < (w3.alloc (.cells #[.bool t, .slice B m d] 24)).heap.size := by simp
  generalize w3.alloc (.cells #[.bool t, .slice B m d] 24) = w4 at E4 J1 rr4 y0 y1 hz4 ⊢
  have a1 := E4.out.a1
  have hz3 := E3.out.size
  have HM := Lib.hid (fun w' hx hy => multiply_c Ar Ar (words r).length cr (words r).length cr (words r) (words r) w' hx hy (words_canon _) (words_canon _) (by omega) (by omega) r2 r2 r3 r3)
  clear hbn rr I1
  go_region_held3 (fun w' => w'.cell? ⟨w3.heap.size, 0, none⟩ = some (.bool t) ∧ w'.cell? ⟨w3.heap.size, 1, none⟩ = some (.slice B m d) ∧ w'.cell? ⟨w.heap.size, 1, none⟩ = some (.slice A n c)) (first | (go_keep; done) | (refine ⟨cell_two (by omega) l0, cell_two (by omega) l1, cell_two (by omega) l2⟩))
    (first
      | (go_at_call 85
         refine (HM.out _ rr4.drew rr4.drew).mono ?_
         rintro e w5 ⟨Am, cm, rfl, m1, m2, m3, m4, -⟩
         have E5 := Lib.hid ((E4.out.drewN 1).next m4)
         have k0 := (m4.cell (p := ⟨w3.heap.size, 0, none⟩) hz4).trans y0
         have k1 := (m4.cell (p := ⟨w3.heap.size, 1, none⟩) hz4).trans y1
         have k2 := E5.out.a1)
      | (go_at_call 84
         refine (compare_c Am A _ cm n c (words (val (words r) * val (words r))) xs w5 m1 (h.below E5.out.below) (words_canon _) VX.out.1 (by rw [val_words] at m2 ⊢; have := words_mono RR.out.1; have := HX.out; omega) (by omega)).mono ?_
         rintro e w6 ⟨rfl, q, rfl⟩
         have hdo : ((ord (val (words (val (words r) * val (words r)))) (val xs)) == 0) = decide (r * r = val xs) := by rw [val_words, val_words]; exact ord_beq _ _
         obtain ⟨od, hod⟩ : ∃ od, od = ord (val (words (val (words r) * val (words r)))) (val xs) := ⟨_, rfl⟩
         rw [← hod] at hdo ⊢
         have HOD := Lib.hid hdo
         clear hod hdo
         have l0 := k0
         have l1 := k1
         have l2 := k2
         have E6 := Lib.hid (E5.out.drewN q)
         have r0 := E6.out.r0
         have r1 := E6.out.r1
         have f0 := E6.out.f0
         have f1 := E6.out.f1))
  go_wp2
  have J5 := (J1.drew.below m4).below (below_drewN (Below.refl w5.heap.size w5) q)
  refine bodyPost_ret (v := .tuple #[.agg #[.bool t, .slice B m d], .bool (od == 0), .int .i64 0]) (by simp [results, Tryd.results39, go_sem, r0, r1]) rfl ?_
  rw [HOD.out]
  rw [val_words] at J5
  exact ⟨r, t, B, m, d, RR.out, rfl, J5.store r0 r1 _ _, below_store E6.out.below (by omega) _ _⟩
end Go.Proofs.YthjdnidapbhdlaaDoor

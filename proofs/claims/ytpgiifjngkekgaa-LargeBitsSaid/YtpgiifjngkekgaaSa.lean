import Derived.Test.YtpgiifjngkekgaaLe
import Derived.Test.YtpgiifjngkekgaaRh
import Derived.IntWalk
namespace Go.Proofs.Ytpgiifjngkekgaa
open Go.RowKit

/-- a number in a box, and a result's box, behind the world w -/
structure Env1r (w W : World) (s : Bool) (A : Option Addr) (n c : Nat) : Prop where
  size : w.heap.size + 2 ≤ W.heap.size
  a0 : W.cell? ⟨w.heap.size, 0, none⟩ = some (.bool s)
  a1 : W.cell? ⟨w.heap.size, 1, none⟩ = some (.slice A n c)
  res : Res W (w.heap.size + 1)
  below : Below w.heap.size w W
theorem Env1r.start (w : World) (s : Bool) (A : Option Addr) (n c : Nat) : Env1r w ((w.alloc (.cells #[.bool s, .slice A n c] 24)).alloc (.cells #[.bool false, .slice none 0 0] 24)) s A n c :=
  ⟨by simp, by go_simp, by go_simp, by
    have := Res.new (w.alloc (.cells #[.bool s, .slice A n c] 24))
    rw [World.size_alloc] at this
    exact this, ((Below.refl _ _).alloc (Nat.le_refl _) _).alloc (by simp) _⟩
theorem Env1r.next {w W w1 : World} {s : Bool} {A : Option Addr} {n c : Nat} (h : Env1r w W s A n c) (hb : Below W.heap.size W w1) : Env1r w w1 s A n c := by
  have hz := h.size
  have hz1 := hb.size
  exact ⟨by omega, (hb.cell (p := ⟨w.heap.size, 0, none⟩) (by simp; omega)).trans h.a0, (hb.cell (p := ⟨w.heap.size, 1, none⟩) (by simp; omega)).trans h.a1, h.res.next hb, h.below.trans (hb.mono (by omega))⟩

set_option maxHeartbeats 400000 in
theorem Bits_c {w : World} {z : Int} {t : Bool} {A : Option Addr} {n c : Nat} (h : Is w z t A n c) (hn : n ≤ 4096) :
    Calls Try.prog 35 #[.agg #[.bool t, .slice A n c]] w fun e w' => e = .returned (.int .i64 (blen z.natAbs)) ∧ Below w.heap.size w w' := by
  have S : Sz z 4096 := by show z.natAbs < pw 4096; exact words_len_le.1 (by rw [← h.2.1]; exact hn)
  obtain ⟨r, v, _, _, _⟩ := h.raw S (Nat.le_refl _)
  have H := Lib.hid (Box.new h)
  have B := Lib.hid (below_alloc w (.cells #[.bool t, .slice A n c] 24))
  have HR := Lib.hid r
  have HV := Lib.hid v
  clear h r v
  go_enter Try.func35, Try.ntmps35
  go_wp2_with fail
  generalize w.alloc (.cells #[.bool t, .slice A n c] 24) = W at H B ⊢
  refine (valid_c t A n c _ W (HR.out.below B.out)).mono ?_
  rintro e w1 ⟨rfl, hb⟩
  rw [HV.out]
  have H1 := Lib.hid (H.out.next hb)
  have B1 := Lib.hid (B.out.trans (hb.mono B.out.size))
  have hd := digits_c A n c _ _ H1.out.is.2.2.1 (words_canon _) (by omega)
  rw [val_words] at hd
  have HD := Lib.hid hd
  have c1 := H1.out.c1
  clear hd hb
  go_wp2_with fail
  refine HD.out.mono ?_
  rintro e w2 ⟨rfl, rfl⟩
  clear c1
  go_wp2
  go_ret
  exact ⟨rfl, B1.out⟩

theorem sgn_mul_nat (t : Bool) (X Y : Nat) : sgn t (X * Y) = sgn t X * (Y : Int) := by cases t <;> simp [sgn, Int.neg_mul]

set_option maxHeartbeats 1000000 in
/-- Shift by a number of places that is not negative -/
theorem Shift_up {w : World} {z : Int} {t : Bool} {A : Option Addr} {n c : Nat} (h : Is w z t A n c) (hn : n ≤ 4096) (hz : z ≠ 0) (k : Nat) (hk : k + blen z.natAbs ≤ 131072) :
    Calls Try.prog 33 #[.agg #[.bool t, .slice A n c], .int .i64 (k : Int)] w (Num w (z * (2 ^ k : Nat))) := by
  have S : Sz z 4096 := by show z.natAbs < pw 4096; exact words_len_le.1 (by rw [← h.2.1]; exact hn)
  obtain ⟨r, v, s, hc, hc2⟩ := h.raw S (Nat.le_refl _)
  have HV := Lib.hid v
  have HI := Lib.hid h
  have HR := Lib.hid r
  have HZ0 := Lib.hid (show sgn t (val (words z.natAbs) * 2 ^ k) = z * (2 ^ k : Nat) by rw [sgn_mul_nat, s])
  have E := Lib.hid (Env1r.start w t A n c)
  have hbl := blen_pos (v := z.natAbs) (by omega)
  clear v r h s
  go_enter Try.func33, Try.ntmps33
  go_wp2_with fail
  generalize (w.alloc (.cells #[.bool t, .slice A n c] 24)).alloc (.cells #[.bool false, .slice none 0 0] 24) = W at E ⊢
  refine (valid_c t A n c _ W (HR.out.below E.out.below)).mono ?_
  rintro e w1 ⟨rfl, hb⟩
  rw [HV.out]
  replace E := Lib.hid (E.out.next hb)
  clear hb
  have a0 := E.out.a0
  have a1 := E.out.a1
  go_wp2_with fail
  refine (Bits_c (HI.out.below E.out.below) hn).mono ?_
  rintro e w2 ⟨rfl, hb⟩
  replace E := Lib.hid (E.out.next hb)
  clear hb
  replace a0 := E.out.a0
  replace a1 := E.out.a1
  obtain ⟨b, hb0⟩ : ∃ b, b = blen z.natAbs := ⟨_, rfl⟩
  rw [← hb0]
  rw [← hb0] at hbl hk
  clear hb0 hz
  have t0 : ((b : Int) == 0) = false := by rw [beq_eq_false_iff_ne]; omega
  go_wp2_with fail
  replace E := Lib.hid (E.out.next (Below.refl _ _).drew)
  go_region_held3 (fun w' => w'.cell? ⟨w.heap.size, 0, none⟩ = some (.bool t) ∧ w'.cell? ⟨w.heap.size, 1, none⟩ = some (.slice A n c)) (first | exact ⟨a0, a1⟩ | exact ⟨cell_two (by omega) a0, cell_two (by omega) a1⟩)
    (first
      | (go_at_call 68
         refine (shiftUp_c A n c k _ _ (HR.out.below E.out.below) (by omega) (by omega)).mono ?_
         rintro e y ⟨A1, c1, rfl, o1, o2, o3, o4, -⟩
         replace E := Lib.hid (E.out.next o4)
         have O1 := Lib.hid o1
         replace a0 := E.out.a0
         replace a1 := E.out.a1
         clear o1 o4)
      | (go_at_call 50
         refine (number_c t A1 _ c1 _ _ O1.out o2 o3).mono ?_
         rintro e y2 ⟨t', B, m', d', k', rfl, hnum, hb⟩
         rw [val_words, HZ0.out] at hnum
         replace E := Lib.hid (E.out.next hb)
         have HN := Lib.hid hnum
         replace a0 := E.out.a0
         replace a1 := E.out.a1
         have r0 := E.out.res.r0
         have r1 := E.out.res.r1
         have f0 := E.out.res.f0
         have f1 := E.out.res.f1
         clear hnum hb))
  go_wp2
  refine bodyPost_ret (v := .tuple #[.agg #[.bool t', .slice B m' d'], .int .i64 k']) (by simp [results, Try.results33, go_sem, r0, r1]) rfl ?_
  exact ⟨t', B, m', d', k', rfl, HN.out.store r0 r1 _ _, below_store E.out.below (by omega) _ _⟩
end Go.Proofs.Ytpgiifjngkekgaa
namespace Go.Proofs.Ytpgiifjngkekgaa
open Go.RowKit

theorem blen_sz {z : Int} {k : Nat} (h : Sz z k) : blen z.natAbs ≤ 32 * k := blen_le.2 (by
  have h1 : z.natAbs < pw k := h
  unfold pw at h1
  rw [show (4294967296 : Nat) = 2 ^ 32 from rfl, ← Nat.pow_mul] at h1
  exact h1)

set_option maxHeartbeats 1000000 in
/-- Shift of 0 -/
theorem Shift_zero {w : World} {t : Bool} {A : Option Addr} {n c : Nat} (h : Is w 0 t A n c) (k : Int) :
    Calls Try.prog 33 #[.agg #[.bool t, .slice A n c], .int .i64 k] w fun e w' => e = .returned (.tuple #[.agg #[.bool false, .slice none 0 0], .int .i64 0]) ∧ Below w.heap.size w w' := by
  have S : Sz 0 4096 := sz_zero
  have hn := h.len S
  obtain ⟨r, v, s, hc, hc2⟩ := h.raw S (Nat.le_refl _)
  have HV := Lib.hid v
  have HI := Lib.hid h
  have HR := Lib.hid r
  have E := Lib.hid (Env1r.start w t A n c)
  clear v r h s
  go_enter Try.func33, Try.ntmps33
  go_wp2_with fail
  generalize (w.alloc (.cells #[.bool t, .slice A n c] 24)).alloc (.cells #[.bool false, .slice none 0 0] 24) = W at E ⊢
  refine (valid_c t A n c _ W (HR.out.below E.out.below)).mono ?_
  rintro e w1 ⟨rfl, hb⟩
  rw [HV.out]
  replace E := Lib.hid (E.out.next hb)
  clear hb
  have a0 := E.out.a0
  have a1 := E.out.a1
  go_wp2_with fail
  refine (Bits_c (HI.out.below E.out.below) hn).mono ?_
  rintro e w2 ⟨rfl, hb⟩
  replace E := Lib.hid (E.out.next hb)
  clear hb a0 a1
  rw [show blen (0 : Int).natAbs = 0 from rfl]
  have r0 := E.out.res.r0
  have r1 := E.out.res.r1
  have f0 := E.out.res.f0
  have f1 := E.out.res.f1
  go_wp2
  refine bodyPost_ret (v := .tuple #[.agg #[.bool false, .slice none 0 0], .int .i64 0]) (by simp [results, Try.results33, go_sem, r0, r1]) rfl ?_
  exact ⟨rfl, below_store E.out.below (by omega) _ _⟩

set_option maxHeartbeats 1000000 in
/-- Shift beyond the greatest size -/
theorem Shift_big {w : World} {z : Int} {t : Bool} {A : Option Addr} {n c : Nat} (h : Is w z t A n c) (hn : n ≤ 4096) (hz : z ≠ 0) (k : Nat) (hk : 131072 < k + blen z.natAbs) :
    Calls Try.prog 33 #[.agg #[.bool t, .slice A n c], .int .i64 (k : Int)] w (Bad w 4) := by
  have S : Sz z 4096 := by show z.natAbs < pw 4096; exact words_len_le.1 (by rw [← h.2.1]; exact hn)
  have hbl2 := blen_sz S
  obtain ⟨r, v, s, hc, hc2⟩ := h.raw S (Nat.le_refl _)
  have HV := Lib.hid v
  have HI := Lib.hid h
  have HR := Lib.hid r
  have E := Lib.hid (Env1r.start w t A n c)
  have hbl := blen_pos (v := z.natAbs) (by omega)
  clear v r h s
  go_enter Try.func33, Try.ntmps33
  go_wp2_with fail
  generalize (w.alloc (.cells #[.bool t, .slice A n c] 24)).alloc (.cells #[.bool false, .slice none 0 0] 24) = W at E ⊢
  refine (valid_c t A n c _ W (HR.out.below E.out.below)).mono ?_
  rintro e w1 ⟨rfl, hb⟩
  rw [HV.out]
  replace E := Lib.hid (E.out.next hb)
  clear hb
  have a0 := E.out.a0
  have a1 := E.out.a1
  go_wp2_with fail
  refine (Bits_c (HI.out.below E.out.below) hn).mono ?_
  rintro e w2 ⟨rfl, hb⟩
  replace E := Lib.hid (E.out.next hb)
  clear hb a0 a1
  obtain ⟨b, hb0⟩ : ∃ b, b = blen z.natAbs := ⟨_, rfl⟩
  rw [← hb0]
  rw [← hb0] at hbl hk hbl2
  clear hb0 hz S
  have t0 : ((b : Int) == 0) = false := by rw [beq_eq_false_iff_ne]; omega
  have r0 := E.out.res.r0
  have r1 := E.out.res.r1
  have f0 := E.out.res.f0
  have f1 := E.out.res.f1
  go_wp2
  refine bodyPost_ret (v := .tuple #[.agg #[.bool false, .slice none 0 0], .int .i64 4]) (by simp [results, Try.results33, go_sem, r0, r1]) rfl ?_
  exact ⟨rfl, below_store E.out.below (by omega) _ _⟩
end Go.Proofs.Ytpgiifjngkekgaa
namespace Go.Proofs.Ytpgiifjngkekgaa
open Go.RowKit

theorem down_min (X m b : Nat) (h : X < 2 ^ b) : X / 2 ^ (if b < m then b else m) = X / 2 ^ m := by
  split
  · rename_i hbm
    rw [Nat.div_eq_of_lt h, Nat.div_eq_of_lt (Nat.lt_of_lt_of_le h (Nat.pow_le_pow_right (by omega) (by omega)))]
  · rfl

set_option maxHeartbeats 1000000 in
/-- Shift down of a positive number, by at most its size -/
theorem Shift_down_pos {w : World} {z : Int} {A : Option Addr} {n c : Nat} (h : Is w z false A n c) (hn : n ≤ 4096) (hz : z ≠ 0) (m : Nat) (hm0 : 0 < m) (hm : m ≤ blen z.natAbs) :
    Calls Try.prog 33 #[.agg #[.bool false, .slice A n c], .int .i64 (-(m : Int))] w (Num w ((z.natAbs / 2 ^ m : Nat) : Int)) := by
  have S : Sz z 4096 := by show z.natAbs < pw 4096; exact words_len_le.1 (by rw [← h.2.1]; exact hn)
  have hbl2 := blen_sz S
  obtain ⟨r, v, s, hc, hc2⟩ := h.raw S (Nat.le_refl _)
  have HV := Lib.hid v
  have HI := Lib.hid h
  have HR := Lib.hid r
  have E := Lib.hid (Env1r.start w false A n c)
  have hbl := blen_pos (v := z.natAbs) (by omega)
  clear v r h s
  go_enter Try.func33, Try.ntmps33
  go_wp2_with fail
  generalize (w.alloc (.cells #[.bool false, .slice A n c] 24)).alloc (.cells #[.bool false, .slice none 0 0] 24) = W at E ⊢
  refine (valid_c false A n c _ W (HR.out.below E.out.below)).mono ?_
  rintro e w1 ⟨rfl, hb⟩
  rw [HV.out]
  replace E := Lib.hid (E.out.next hb)
  clear hb
  have a0 := E.out.a0
  have a1 := E.out.a1
  go_wp2_with fail
  refine (Bits_c (HI.out.below E.out.below) hn).mono ?_
  rintro e w2 ⟨rfl, hb⟩
  replace E := Lib.hid (E.out.next hb)
  clear hb
  replace a0 := E.out.a0
  replace a1 := E.out.a1
  obtain ⟨b, hb0⟩ : ∃ b, b = blen z.natAbs := ⟨_, rfl⟩
  rw [← hb0]
  rw [← hb0] at hbl hm hbl2
  clear hb0 hz S
  have t0 : ((b : Int) == 0) = false := by rw [beq_eq_false_iff_ne]; omega
  go_wp2_with fail
  refine (shiftDown_c A n c m _ _ (HR.out.below E.out.below) (by omega) (by omega)).mono ?_
  rw [val_words]
  rintro e w3 ⟨A1, c1, rfl, o1, o2, o3, o4, -⟩
  replace E := Lib.hid (E.out.next o4)
  have O1 := Lib.hid o1
  replace a0 := E.out.a0
  clear o1 o4 a1
  go_wp2_with fail
  go_quiet (fail)
  go_wp2_with fail
  replace E := Lib.hid (E.out.next (below_drewN (Below.refl _ _) nq))
  have O2 := Lib.hid (O1.out.drewN nq)
  clear a0 O1
  generalize w3.drewN nq = v3 at E O2 ⊢
  refine (number_c false A1 _ c1 _ _ O2.out o2 o3).mono ?_
  rintro e w4 ⟨t', B, m', d', k', rfl, hnum, hb⟩
  rw [val_words] at hnum
  replace E := Lib.hid (E.out.next hb)
  have HN := Lib.hid hnum
  clear hnum hb O2
  have r0 := E.out.res.r0
  have r1 := E.out.res.r1
  have f0 := E.out.res.f0
  have f1 := E.out.res.f1
  go_wp2
  refine bodyPost_ret (v := .tuple #[.agg #[.bool t', .slice B m' d'], .int .i64 k']) (by simp [results, Try.results33, go_sem, r0, r1]) rfl ?_
  exact ⟨t', B, m', d', k', rfl, HN.out.store r0 r1 _ _, below_store E.out.below (by omega) _ _⟩
end Go.Proofs.Ytpgiifjngkekgaa
namespace Go.Proofs.Ytpgiifjngkekgaa
open Go.RowKit

theorem fl0 (X P : Nat) (hP : 0 < P) (h : X / P * P = X) : (-(X : Int)) / (P : Int) = sgn true (X / P) := by
  have e : -(X : Int) = -((X / P : Nat) : Int) * (P : Int) := by
    rw [Int.neg_mul, ← Int.natCast_mul, h]
  rw [e, Int.mul_ediv_cancel _ (by omega)]
  rfl
theorem fl1 (X P : Nat) (hP : 0 < P) (h : ¬ X / P * P = X) : (-(X : Int)) / (P : Int) = sgn true (X / P + 1) := by
  have h1 := Nat.div_add_mod X P
  have h2 := Nat.mod_lt X hP
  have h3 : X % P ≠ 0 := fun e => h (by rw [e, Nat.mul_comm] at h1; omega)
  refine ((Int.ediv_emod_unique (a := -(X : Int)) (b := (P : Int)) (r := (P : Int) - ((X % P : Nat) : Int)) (q := sgn true (X / P + 1)) (by omega)).2 ⟨?_, by omega, by omega⟩).1
  have h4 : (X : Int) = (P : Int) * ((X / P : Nat) : Int) + ((X % P : Nat) : Int) := by
    rw [← Int.natCast_mul, ← Int.natCast_add, h1]
  have h5 : sgn true (X / P + 1) = -((X / P : Nat) : Int) - 1 := by simp [sgn]; omega
  rw [h5, Int.mul_sub, Int.mul_neg, Int.mul_one]
  omega

theorem words_len4 {v k : Nat} (h : v < pw k) {u : Nat} (hu : u ≤ v) : (words u).length ≤ k := words_len_le.2 (Nat.lt_of_le_of_lt hu h)

set_option maxHeartbeats 1000000 in
set_option maxRecDepth 100000 in
/-- Shift down of a negative number, by at most its size -/
theorem Shift_down_neg {w : World} {z : Int} {A : Option Addr} {n c : Nat} (h : Is w z true A n c) (hn : n ≤ 4096) (hz : z ≠ 0) (m : Nat) (hm0 : 0 < m) (hm : m ≤ blen z.natAbs) :
    Calls Try.prog 33 #[.agg #[.bool true, .slice A n c], .int .i64 (-(m : Int))] w (Num w (z / (2 ^ m : Nat))) := by
  have S : Sz z 4096 := by show z.natAbs < pw 4096; exact words_len_le.1 (by rw [← h.2.1]; exact hn)
  have hbl2 := blen_sz S
  obtain ⟨r, v, s, hc, hc2⟩ := h.raw S (Nat.le_refl _)
  have HV := Lib.hid v
  have HI := Lib.hid h
  have HR := Lib.hid r
  have E := Lib.hid (Env1r.start w true A n c)
  have hbl := blen_pos (v := z.natAbs) (by omega)
  have hl4 := words_len4 S (Nat.div_le_self z.natAbs (2 ^ m))
  have HX := Lib.hid (words_len4 S (Nat.div_mul_le_self z.natAbs (2 ^ m)))
  clear v r h s
  go_enter Try.func33, Try.ntmps33
  go_wp2_with fail
  generalize (w.alloc (.cells #[.bool true, .slice A n c] 24)).alloc (.cells #[.bool false, .slice none 0 0] 24) = W at E ⊢
  refine (valid_c true A n c _ W (HR.out.below E.out.below)).mono ?_
  rintro e w1 ⟨rfl, hb⟩
  rw [HV.out]
  replace E := Lib.hid (E.out.next hb)
  clear hb
  have a0 := E.out.a0
  have a1 := E.out.a1
  go_wp2_with fail
  refine (Bits_c (HI.out.below E.out.below) hn).mono ?_
  rintro e w2 ⟨rfl, hb⟩
  replace E := Lib.hid (E.out.next hb)
  clear hb
  replace a0 := E.out.a0
  replace a1 := E.out.a1
  obtain ⟨b, hb0⟩ : ∃ b, b = blen z.natAbs := ⟨_, rfl⟩
  rw [← hb0]
  rw [← hb0] at hbl hm hbl2
  clear hb0 hz S
  have t0 : ((b : Int) == 0) = false := by rw [beq_eq_false_iff_ne]; omega
  go_wp2_with fail
  refine (shiftDown_c A n c m _ _ (HR.out.below E.out.below) (by omega) (by omega)).mono ?_
  rw [val_words]
  rintro e w3 ⟨A1, c1, rfl, o1, o2, o3, o4, -⟩
  replace E := Lib.hid (E.out.next o4)
  have O1 := Lib.hid o1
  replace a0 := E.out.a0
  replace a1 := E.out.a1


  clear o1 o4
  go_wp2_with fail
  have HM := Lib.hid (show m ≤ 131072 by omega)
  have HW := Lib.hid (show IntKind.i64.wrap (m : Int) = (m : Int) from IntWalk.i64_in _ (by omega))
  clear hbl2 HV
  replace E := Lib.hid (E.out.next (Below.refl _ _).drew)
  obtain ⟨X, hX⟩ : ∃ X, X = z.natAbs := ⟨_, rfl⟩
  have HZ : Hid (z < 0) := Lib.hid (by have := HI.out.1; simpa using this.symm)
  rw [← hX] at HR HX hl4 O1 o2 ⊢
  have HXe := Lib.hid hX
  clear hX
  by_cases hd : X / 2 ^ m * 2 ^ m = X
  · have HO := Lib.hid (show ord ((X / 2 ^ m * 2 ^ m : Nat) : Int) (X : Int) = 0 by rw [hd]; exact ord_eq rfl)
    have HZ0 := Lib.hid (show sgn true (X / 2 ^ m) = z / (2 ^ m : Nat) by
      rw [← fl0 X (2 ^ m) (two_pos m) hd, HXe.out]; congr 1; have := HZ.out; omega)
    clear hd
    go_region_held3 (fun w' => w'.cell? ⟨w.heap.size, 0, none⟩ = some (.bool true) ∧ w'.cell? ⟨w.heap.size, 1, none⟩ = some (.slice A n c)) (first | exact ⟨a0, a1⟩)
      (first
        | (go_at_call 68
           rw [HW.out]
           refine (shiftUp_c A1 _ c1 m _ _ (O1.out.below (Below.refl _ _).drew) (by omega) (by have := HM.out; omega)).mono ?_
           rw [val_words]
           rintro e y ⟨A2, c2, rfl, p1, p2, p3, p4, -⟩
           replace E := Lib.hid (E.out.next p4)
           replace O1 := Lib.hid ((O1.out.below (Below.refl _ _).drew).below p4)
           have P1 := Lib.hid p1
           replace a0 := E.out.a0
           replace a1 := E.out.a1
           clear p1 p4)
        | (go_at_call 48
           refine (compare_c A2 A _ c2 n c _ _ _ P1.out (HR.out.below E.out.below) (words_canon _) (words_canon _) (by have := HX.out; omega) (by omega)).mono ?_
           rw [val_words, val_words, HO.out]
           rintro e y2 ⟨rfl, q, rfl⟩
           replace E := Lib.hid (E.out.next (below_drewN (Below.refl _ _) q))
           replace O1 := Lib.hid (O1.out.drewN q)
           replace a0 := E.out.a0
           replace a1 := E.out.a1))
    go_wp2_with fail
    refine (number_c true A1 _ c1 _ _ O1.out o2 o3).mono ?_
    rw [val_words, HZ0.out]
    rintro e w4 ⟨t', B, m', d', k', rfl, hnum, hb⟩
    replace E := Lib.hid (E.out.next hb)
    have HN := Lib.hid hnum
    clear hnum hb
    have r0 := E.out.res.r0
    have r1 := E.out.res.r1
    have f0 := E.out.res.f0
    have f1 := E.out.res.f1
    go_wp2
    refine bodyPost_ret (v := .tuple #[.agg #[.bool t', .slice B m' d'], .int .i64 k']) (by simp [results, Try.results33, go_sem, r0, r1]) rfl ?_
    exact ⟨t', B, m', d', k', rfl, HN.out.store r0 r1 _ _, below_store E.out.below (by omega) _ _⟩
  · have HO := Lib.hid (show ord ((X / 2 ^ m * 2 ^ m : Nat) : Int) (X : Int) = -1 from ord_lt (by have := Nat.div_mul_le_self X (2 ^ m); omega))
    have HZ0 := Lib.hid (show sgn true (X / 2 ^ m + 1) = z / (2 ^ m : Nat) by
      rw [← fl1 X (2 ^ m) (two_pos m) hd, HXe.out]; congr 1; have := HZ.out; omega)
    clear hd
    go_region_held3 (fun w' => w'.cell? ⟨w.heap.size, 0, none⟩ = some (.bool true) ∧ w'.cell? ⟨w.heap.size, 1, none⟩ = some (.slice A n c)) (first | exact ⟨a0, a1⟩)
      (first
        | (go_at_call 68
           rw [HW.out]
           refine (shiftUp_c A1 _ c1 m _ _ (O1.out.below (Below.refl _ _).drew) (by omega) (by have := HM.out; omega)).mono ?_
           rw [val_words]
           rintro e y ⟨A2, c2, rfl, p1, p2, p3, p4, -⟩
           replace E := Lib.hid (E.out.next p4)
           replace O1 := Lib.hid ((O1.out.below (Below.refl _ _).drew).below p4)
           have P1 := Lib.hid p1
           replace a0 := E.out.a0
           replace a1 := E.out.a1
           clear p1 p4)
        | (go_at_call 48
           refine (compare_c A2 A _ c2 n c _ _ _ P1.out (HR.out.below E.out.below) (words_canon _) (words_canon _) (by have := HX.out; omega) (by omega)).mono ?_
           rw [val_words, val_words, HO.out]
           rintro e y2 ⟨rfl, q, rfl⟩
           replace E := Lib.hid (E.out.next (below_drewN (Below.refl _ _) q))
           replace O1 := Lib.hid (O1.out.drewN q)
           replace a0 := E.out.a0
           replace a1 := E.out.a1))
    go_wp2_with fail
    have R1 : Rd ((y.drewN q).alloc (row [1])) (some ⟨y.heap.size, 0, none⟩) 1 [1] := (Bk.new (y.drewN q) (xs := [1]) (small_one (by omega))).rd
    replace E := Lib.hid (E.out.next (below_alloc _ (row [1])))
    rw [show Obj.cells #[Value.int .u32 1] 66 = row [1] from rfl]
    refine (add_c A1 _ _ c1 1 1 _ [1] _ (O1.out.alloc _) R1 (by omega) (by omega)).mono ?_
    rw [val_words, val_one]
    rintro e w5 ⟨A3, c3, rfl, q1, q2, q3, q4, -⟩
    replace E := Lib.hid (E.out.next q4)
    have Q1 := Lib.hid q1
    clear R1 q1 q4 O1
    replace a0 := E.out.a0
    clear a1
    go_wp2_with fail
    refine (number_c true A3 _ c3 _ _ Q1.out q2 q3).mono ?_
    rw [val_words, HZ0.out]
    rintro e w4 ⟨t', B, m', d', k', rfl, hnum, hb⟩
    replace E := Lib.hid (E.out.next hb)
    have HN := Lib.hid hnum
    clear hnum hb
    have r0 := E.out.res.r0
    have r1 := E.out.res.r1
    have f0 := E.out.res.f0
    have f1 := E.out.res.f1
    go_wp2
    refine bodyPost_ret (v := .tuple #[.agg #[.bool t', .slice B m' d'], .int .i64 k']) (by simp [results, Try.results33, go_sem, r0, r1]) rfl ?_
    exact ⟨t', B, m', d', k', rfl, HN.out.store r0 r1 _ _, below_store E.out.below (by omega) _ _⟩
end Go.Proofs.Ytpgiifjngkekgaa
namespace Go.Proofs.Ytpgiifjngkekgaa
open Go.RowKit

set_option maxHeartbeats 1000000 in
set_option maxRecDepth 100000 in
theorem Shift_far_pos {w : World} {z : Int} {A : Option Addr} {n c : Nat} (h : Is w z false A n c) (hn : n ≤ 4096) (hz : z ≠ 0) (b : Nat) (hb0 : b = blen z.natAbs) (k : Int) (hk : k < -(b : Int)) :
    Calls Try.prog 33 #[.agg #[.bool false, .slice A n c], .int .i64 k] w (Num w ((z.natAbs / 2 ^ b : Nat) : Int)) := by
  have S : Sz z 4096 := by show z.natAbs < pw 4096; exact words_len_le.1 (by rw [← h.2.1]; exact hn)
  have hbl2 := blen_sz S
  rw [← hb0] at hbl2
  obtain ⟨r, v, s, hc, hc2⟩ := h.raw S (Nat.le_refl _)
  have HV := Lib.hid v
  have HI := Lib.hid h
  have HR := Lib.hid r
  have E := Lib.hid (Env1r.start w false A n c)
  have hbl := blen_pos (v := z.natAbs) (by omega)
  rw [← hb0] at hbl
  have HB0 := Lib.hid hb0
  clear hb0
  clear v r h s S
  go_enter Try.func33, Try.ntmps33
  go_wp2_with fail
  generalize (w.alloc (.cells #[.bool false, .slice A n c] 24)).alloc (.cells #[.bool false, .slice none 0 0] 24) = W at E ⊢
  refine (valid_c false A n c _ W (HR.out.below E.out.below)).mono ?_
  rintro e w1 ⟨rfl, hb⟩
  rw [HV.out]
  replace E := Lib.hid (E.out.next hb)
  clear hb
  have a0 := E.out.a0
  have a1 := E.out.a1
  go_wp2_with fail
  refine (Bits_c (HI.out.below E.out.below) hn).mono ?_
  rintro e w2 ⟨rfl, hb⟩
  replace E := Lib.hid (E.out.next hb)
  clear hb
  replace a0 := E.out.a0
  replace a1 := E.out.a1
  rw [← HB0.out]
  clear hz
  have t0 : ((b : Int) == 0) = false := by rw [beq_eq_false_iff_ne]; omega
  go_wp2_with fail
  refine (shiftDown_c A n c b _ _ (HR.out.below E.out.below) (by omega) (by omega)).mono ?_
  rw [val_words]
  rintro e w3 ⟨A1, c1, rfl, o1, o2, o3, o4, -⟩
  replace E := Lib.hid (E.out.next o4)
  have O1 := Lib.hid o1
  replace a0 := E.out.a0
  clear o1 o4 a1
  go_wp2_with fail
  go_quiet (fail)
  go_wp2_with fail
  replace E := Lib.hid (E.out.next (below_drewN (Below.refl _ _) nq))
  have O2 := Lib.hid (O1.out.drewN nq)
  clear a0 O1
  generalize w3.drewN nq = v3 at E O2 ⊢
  refine (number_c false A1 _ c1 _ _ O2.out o2 o3).mono ?_
  rintro e w4 ⟨t', B, m', d', k', rfl, hnum, hb⟩
  rw [val_words] at hnum
  replace E := Lib.hid (E.out.next hb)
  have HN := Lib.hid hnum
  clear hnum hb O2
  have r0 := E.out.res.r0
  have r1 := E.out.res.r1
  have f0 := E.out.res.f0
  have f1 := E.out.res.f1
  go_wp2
  refine bodyPost_ret (v := .tuple #[.agg #[.bool t', .slice B m' d'], .int .i64 k']) (by simp [results, Try.results33, go_sem, r0, r1]) rfl ?_
  exact ⟨t', B, m', d', k', rfl, HN.out.store r0 r1 _ _, below_store E.out.below (by omega) _ _⟩

set_option maxHeartbeats 1000000 in
set_option maxRecDepth 100000 in
theorem Shift_far_neg {w : World} {z : Int} {A : Option Addr} {n c : Nat} (h : Is w z true A n c) (hn : n ≤ 4096) (hz : z ≠ 0) (b : Nat) (hb0 : b = blen z.natAbs) (k : Int) (hk : k < -(b : Int)) :
    Calls Try.prog 33 #[.agg #[.bool true, .slice A n c], .int .i64 k] w (Num w (z / (2 ^ b : Nat))) := by
  have S : Sz z 4096 := by show z.natAbs < pw 4096; exact words_len_le.1 (by rw [← h.2.1]; exact hn)
  have hbl2 := blen_sz S
  rw [← hb0] at hbl2
  obtain ⟨r, v, s, hc, hc2⟩ := h.raw S (Nat.le_refl _)
  have HV := Lib.hid v
  have HI := Lib.hid h
  have HR := Lib.hid r
  have E := Lib.hid (Env1r.start w true A n c)
  have hbl := blen_pos (v := z.natAbs) (by omega)
  rw [← hb0] at hbl
  have HB0 := Lib.hid hb0
  clear hb0
  have hl4 := words_len4 S (Nat.div_le_self z.natAbs (2 ^ b))
  have HX := Lib.hid (words_len4 S (Nat.div_mul_le_self z.natAbs (2 ^ b)))
  clear v r h s S
  go_enter Try.func33, Try.ntmps33
  go_wp2_with fail
  generalize (w.alloc (.cells #[.bool true, .slice A n c] 24)).alloc (.cells #[.bool false, .slice none 0 0] 24) = W at E ⊢
  refine (valid_c true A n c _ W (HR.out.below E.out.below)).mono ?_
  rintro e w1 ⟨rfl, hb⟩
  rw [HV.out]
  replace E := Lib.hid (E.out.next hb)
  clear hb
  have a0 := E.out.a0
  have a1 := E.out.a1
  go_wp2_with fail
  refine (Bits_c (HI.out.below E.out.below) hn).mono ?_
  rintro e w2 ⟨rfl, hb⟩
  replace E := Lib.hid (E.out.next hb)
  clear hb
  replace a0 := E.out.a0
  replace a1 := E.out.a1
  rw [← HB0.out]
  clear hz
  have t0 : ((b : Int) == 0) = false := by rw [beq_eq_false_iff_ne]; omega
  go_wp2_with fail
  refine (shiftDown_c A n c b _ _ (HR.out.below E.out.below) (by omega) (by omega)).mono ?_
  rw [val_words]
  rintro e w3 ⟨A1, c1, rfl, o1, o2, o3, o4, -⟩
  replace E := Lib.hid (E.out.next o4)
  have O1 := Lib.hid o1
  replace a0 := E.out.a0
  replace a1 := E.out.a1


  clear o1 o4
  go_wp2_with fail
  have HM := Lib.hid (show b ≤ 131072 by omega)
  have HW := Lib.hid (show IntKind.i64.wrap (b : Int) = (b : Int) from IntWalk.i64_in _ (by omega))
  clear hbl2 HV
  replace E := Lib.hid (E.out.next (Below.refl _ _).drew)
  obtain ⟨X, hX⟩ : ∃ X, X = z.natAbs := ⟨_, rfl⟩
  have HZ : Hid (z < 0) := Lib.hid (by have := HI.out.1; simpa using this.symm)
  rw [← hX] at HR HX hl4 O1 o2 ⊢
  have HXe := Lib.hid hX
  clear hX
  by_cases hd : X / 2 ^ b * 2 ^ b = X
  · have HO := Lib.hid (show ord ((X / 2 ^ b * 2 ^ b : Nat) : Int) (X : Int) = 0 by rw [hd]; exact ord_eq rfl)
    have HZ0 := Lib.hid (show sgn true (X / 2 ^ b) = z / (2 ^ b : Nat) by
      rw [← fl0 X (2 ^ b) (two_pos b) hd, HXe.out]; congr 1; have := HZ.out; omega)
    clear hd
    go_region_held3 (fun w' => w'.cell? ⟨w.heap.size, 0, none⟩ = some (.bool true) ∧ w'.cell? ⟨w.heap.size, 1, none⟩ = some (.slice A n c)) (first | exact ⟨a0, a1⟩)
      (first
        | (go_at_call 68
           rw [HW.out]
           refine (shiftUp_c A1 _ c1 b _ _ (O1.out.below (Below.refl _ _).drew) (by omega) (by have := HM.out; omega)).mono ?_
           rw [val_words]
           rintro e y ⟨A2, c2, rfl, p1, p2, p3, p4, -⟩
           replace E := Lib.hid (E.out.next p4)
           replace O1 := Lib.hid ((O1.out.below (Below.refl _ _).drew).below p4)
           have P1 := Lib.hid p1
           replace a0 := E.out.a0
           replace a1 := E.out.a1
           clear p1 p4)
        | (go_at_call 48
           refine (compare_c A2 A _ c2 n c _ _ _ P1.out (HR.out.below E.out.below) (words_canon _) (words_canon _) (by have := HX.out; omega) (by omega)).mono ?_
           rw [val_words, val_words, HO.out]
           rintro e y2 ⟨rfl, q, rfl⟩
           replace E := Lib.hid (E.out.next (below_drewN (Below.refl _ _) q))
           replace O1 := Lib.hid (O1.out.drewN q)
           replace a0 := E.out.a0
           replace a1 := E.out.a1))
    go_wp2_with fail
    refine (number_c true A1 _ c1 _ _ O1.out o2 o3).mono ?_
    rw [val_words, HZ0.out]
    rintro e w4 ⟨t', B, m', d', k', rfl, hnum, hb⟩
    replace E := Lib.hid (E.out.next hb)
    have HN := Lib.hid hnum
    clear hnum hb
    have r0 := E.out.res.r0
    have r1 := E.out.res.r1
    have f0 := E.out.res.f0
    have f1 := E.out.res.f1
    go_wp2
    refine bodyPost_ret (v := .tuple #[.agg #[.bool t', .slice B m' d'], .int .i64 k']) (by simp [results, Try.results33, go_sem, r0, r1]) rfl ?_
    exact ⟨t', B, m', d', k', rfl, HN.out.store r0 r1 _ _, below_store E.out.below (by omega) _ _⟩
  · have HO := Lib.hid (show ord ((X / 2 ^ b * 2 ^ b : Nat) : Int) (X : Int) = -1 from ord_lt (by have := Nat.div_mul_le_self X (2 ^ b); omega))
    have HZ0 := Lib.hid (show sgn true (X / 2 ^ b + 1) = z / (2 ^ b : Nat) by
      rw [← fl1 X (2 ^ b) (two_pos b) hd, HXe.out]; congr 1; have := HZ.out; omega)
    clear hd
    go_region_held3 (fun w' => w'.cell? ⟨w.heap.size, 0, none⟩ = some (.bool true) ∧ w'.cell? ⟨w.heap.size, 1, none⟩ = some (.slice A n c)) (first | exact ⟨a0, a1⟩)
      (first
        | (go_at_call 68
           rw [HW.out]
           refine (shiftUp_c A1 _ c1 b _ _ (O1.out.below (Below.refl _ _).drew) (by omega) (by have := HM.out; omega)).mono ?_
           rw [val_words]
           rintro e y ⟨A2, c2, rfl, p1, p2, p3, p4, -⟩
           replace E := Lib.hid (E.out.next p4)
           replace O1 := Lib.hid ((O1.out.below (Below.refl _ _).drew).below p4)
           have P1 := Lib.hid p1
           replace a0 := E.out.a0
           replace a1 := E.out.a1
           clear p1 p4)
        | (go_at_call 48
           refine (compare_c A2 A _ c2 n c _ _ _ P1.out (HR.out.below E.out.below) (words_canon _) (words_canon _) (by have := HX.out; omega) (by omega)).mono ?_
           rw [val_words, val_words, HO.out]
           rintro e y2 ⟨rfl, q, rfl⟩
           replace E := Lib.hid (E.out.next (below_drewN (Below.refl _ _) q))
           replace O1 := Lib.hid (O1.out.drewN q)
           replace a0 := E.out.a0
           replace a1 := E.out.a1))
    go_wp2_with fail
    have R1 : Rd ((y.drewN q).alloc (row [1])) (some ⟨y.heap.size, 0, none⟩) 1 [1] := (Bk.new (y.drewN q) (xs := [1]) (small_one (by omega))).rd
    replace E := Lib.hid (E.out.next (below_alloc _ (row [1])))
    rw [show Obj.cells #[Value.int .u32 1] 66 = row [1] from rfl]
    refine (add_c A1 _ _ c1 1 1 _ [1] _ (O1.out.alloc _) R1 (by omega) (by omega)).mono ?_
    rw [val_words, val_one]
    rintro e w5 ⟨A3, c3, rfl, q1, q2, q3, q4, -⟩
    replace E := Lib.hid (E.out.next q4)
    have Q1 := Lib.hid q1
    clear R1 q1 q4 O1
    replace a0 := E.out.a0
    clear a1
    go_wp2_with fail
    refine (number_c true A3 _ c3 _ _ Q1.out q2 q3).mono ?_
    rw [val_words, HZ0.out]
    rintro e w4 ⟨t', B, m', d', k', rfl, hnum, hb⟩
    replace E := Lib.hid (E.out.next hb)
    have HN := Lib.hid hnum
    clear hnum hb
    have r0 := E.out.res.r0
    have r1 := E.out.res.r1
    have f0 := E.out.res.f0
    have f1 := E.out.res.f1
    go_wp2
    refine bodyPost_ret (v := .tuple #[.agg #[.bool t', .slice B m' d'], .int .i64 k']) (by simp [results, Try.results33, go_sem, r0, r1]) rfl ?_
    exact ⟨t', B, m', d', k', rfl, HN.out.store r0 r1 _ _, below_store E.out.below (by omega) _ _⟩

end Go.Proofs.Ytpgiifjngkekgaa
namespace Go.Proofs.Ytpgiifjngkekgaa
open Go.RowKit

/-- z times 2^k, rounded down -/
def shl (z k : Int) : Int := if 0 ≤ k then z * (2 ^ k.toNat : Nat) else z / (2 ^ (-k).toNat : Nat)
theorem shl_up (z : Int) (k : Nat) : shl z k = z * (2 ^ k : Nat) := by
  unfold shl; rw [if_pos (by omega)]; rfl
theorem shl_down (z : Int) {k : Nat} (h : 0 < k) : shl z (-(k : Int)) = z / (2 ^ k : Nat) := by
  unfold shl; rw [if_neg (by omega)]; congr 3; omega
theorem shl_zero (k : Int) : shl 0 k = 0 := by
  unfold shl; split
  · exact Int.zero_mul _
  · exact Int.zero_ediv _

/-- where the error is ErrSize, there is no such number -/
theorem Bad.num {w w' : World} {z : Int} {e : Ending} (h : Bad w 4 e w') (hz : ¬ (words z.natAbs).length ≤ 4096) : Num w z e w' := by
  obtain ⟨rfl, hb⟩ := h
  exact ⟨false, none, 0, 0, 4, rfl, ⟨fun h => absurd h hz, fun _ => ⟨rfl, rfl, rfl, rfl, rfl⟩⟩, hb⟩
theorem num_zero {w w' : World} {e : Ending} (h : e = .returned (.tuple #[.agg #[.bool false, .slice none 0 0], .int .i64 0]) ∧ Below w.heap.size w w') : Num w 0 e w' := by
  obtain ⟨rfl, hb⟩ := h
  refine ⟨false, none, 0, 0, 0, rfl, ⟨fun _ => ⟨rfl, rfl, ?_, ?_, Nat.le_refl _, by omega⟩, fun h => absurd ?_ h⟩, hb⟩
  · rw [show (0 : Int).natAbs = 0 from rfl, words_zero]; rfl
  · rw [show (0 : Int).natAbs = 0 from rfl, words_zero]; exact Rd.nil _
  · rw [show (0 : Int).natAbs = 0 from rfl, words_zero]; exact Nat.zero_le _
theorem long_of_blen {v k : Nat} (h : 32 * k < blen v) : ¬ (words v).length ≤ k := by
  intro hl
  have h1 := words_len_le.1 hl
  rw [pw_two] at h1
  have := blen_le.2 h1
  omega
theorem blen_mul_two {X k : Nat} (h : X ≠ 0) : blen (X * 2 ^ k) = k + blen X := by
  have := blen_up (y := 0) (k := k) h (two_pos k)
  rw [Nat.zero_add, Nat.mul_comm] at this
  exact this
theorem shl_far_pos {z : Int} {k : Int} (hk : k < -(blen z.natAbs : Int)) (h0 : 0 < z) : ((z.natAbs / 2 ^ blen z.natAbs : Nat) : Int) = shl z k := by
  unfold shl
  rw [if_neg (by omega), Nat.div_eq_of_lt (blen_lt _)]
  have h1 : z < ((2 ^ (-k).toNat : Nat) : Int) := by
    have h2 := blen_lt z.natAbs
    have h3 : 2 ^ blen z.natAbs ≤ 2 ^ (-k).toNat := Nat.pow_le_pow_right (by omega) (by omega)
    omega
  exact (Int.ediv_eq_zero_of_lt (by omega) h1).symm
theorem shl_far_neg {z : Int} {k : Int} (hk : k < -(blen z.natAbs : Int)) (h0 : z < 0) : z / ((2 ^ blen z.natAbs : Nat) : Int) = shl z k := by
  unfold shl
  rw [if_neg (by omega)]
  have h2 := blen_lt z.natAbs
  have h3 : 2 ^ blen z.natAbs ≤ 2 ^ (-k).toNat := Nat.pow_le_pow_right (by omega) (by omega)
  have key : ∀ P : Nat, z.natAbs < P → z / (P : Int) = -1 := fun P hP =>
    ((Int.ediv_emod_unique (a := z) (b := (P : Int)) (r := z + P) (q := -1) (by omega)).2 ⟨by omega, by omega, by omega⟩).1
  rw [key _ h2, key _ (Nat.lt_of_lt_of_le h2 h3)]

theorem Shift_is {w : World} {z : Int} {t : Bool} {A : Option Addr} {n c : Nat} (h : Is w z t A n c) (hn : n ≤ 4096) (k : Int) :
    Calls Try.prog 33 #[.agg #[.bool t, .slice A n c], .int .i64 k] w (Num w (shl z k)) := by
  by_cases hz : z = 0
  · subst hz
    rw [shl_zero]
    exact (Shift_zero h k).mono fun _ _ h => num_zero h
  by_cases h0 : 0 ≤ k
  · obtain ⟨k, rfl⟩ := Int.eq_ofNat_of_zero_le h0
    rw [shl_up]
    by_cases hb : k + blen z.natAbs ≤ 131072
    · exact Shift_up h hn hz k hb
    · refine (Shift_big h hn hz k (by omega)).mono fun _ _ h => h.num (long_of_blen ?_)
      rw [Int.natAbs_mul, Int.natAbs_natCast, blen_mul_two (by omega)]
      omega
  · by_cases hm : k < -(blen z.natAbs : Int)
    · by_cases hs : z < 0
      · obtain rfl : t = true := by rw [h.1]; simpa using hs
        rw [← shl_far_neg hm hs]
        exact Shift_far_neg h hn hz _ rfl k hm
      · obtain rfl : t = false := by rw [h.1]; simpa using hs
        rw [← shl_far_pos hm (by omega)]
        exact Shift_far_pos h hn hz _ rfl k hm
    · obtain ⟨m, rfl⟩ : ∃ m : Nat, k = -(m : Int) := ⟨(-k).toNat, by omega⟩
      rw [shl_down z (by omega)]
      by_cases hs : z < 0
      · obtain rfl : t = true := by rw [h.1]; simpa using hs
        exact Shift_down_neg h hn hz m (by omega) (by omega)
      · obtain rfl : t = false := by rw [h.1]; simpa using hs
        have := Shift_down_pos h hn hz m (by omega) (by omega)
        rwa [show ((z.natAbs / 2 ^ m : Nat) : Int) = z / ((2 ^ m : Nat) : Int) by
          rw [Int.natCast_ediv]; congr 1; omega] at this
end Go.Proofs.Ytpgiifjngkekgaa

import Derived.Test.YtmgkgomecakoiaaWu
import Derived.Test.YtmgkgomecakoiaaWm
namespace Go.Proofs.Ytmgkgomecakoiaa
open Go.RowKit

/-- quotient and rest, as two slices of words -/
def Out2 (w : World) (q r : Nat) (e : Ending) (w' : World) : Prop :=
  ∃ A c B d, e = .returned (.tuple #[.slice A (words q).length c, .slice B (words r).length d]) ∧ Rd w' A (words q).length (words q) ∧ (words q).length ≤ c ∧ c ≤ 9223372036854775807 ∧ Rd w' B (words r).length (words r) ∧ (words r).length ≤ d ∧ d ≤ 9223372036854775807 ∧ Below w.heap.size w w'

theorem words_one {x : Nat} (h : x < 4294967296) (h0 : x ≠ 0) : words x = [x] := by
  rw [words_pos h0, Nat.mod_eq_of_lt h, Nat.div_eq_of_lt h, words_zero]
theorem val_one (x : Nat) : val [x] = x := by simp [val]
theorem small_one {x : Nat} (h : x < 4294967296) : small [x] := small_cons.2 ⟨h, small_nil⟩

set_option maxHeartbeats 800000 in
theorem divide_less (A B : Option Addr) (n c m d : Nat) (xs ys : List Nat) (w : World) (ha : Rd w A n xs) (hb : Rd w B m ys) (cx : canon xs) (cy : canon ys) (hn : n ≤ 70368744177664) (hm : m ≤ 70368744177664) (hlt : val xs < val ys) :
    Calls Try.prog 58 #[.slice A n c, .slice B m d] w (Out2 w (val xs / val ys) (val xs % val ys)) := by
  have HX := Lib.hid ha.len
  have HC := Lib.hid cx
  have CM := Lib.hid (fun w' hx hy => compare_c A B n c m d xs ys w' hx hy cx cy (by omega) (by omega))
  have HO := Lib.hid (ord_lt (show (val xs : Int) < (val ys : Int) by omega))
  have HQ := Lib.hid (Nat.div_eq_of_lt hlt)
  have HR := Lib.hid (Nat.mod_eq_of_lt hlt)
  clear hlt
  go_enter Try.func58, Try.ntmps58
  go_wp2_with fail
  refine (CM.out w ha hb).mono ?_
  rintro e w1 ⟨rfl, k, rfl⟩
  rw [HO.out]
  go_wp2_with fail
  refine (clone_c A n c xs _ (ha.drewN k) hn).mono ?_
  rintro e w2 ⟨g, rfl, hg, hbk, hw⟩
  go_wp2
  go_ret2
  refine ⟨none, 0, some ⟨g, 0, none⟩, xs.length, ?_, ?_, ?_, by omega, ?_, ?_, by rw [HX.out]; omega, (below_drewN (Below.refl _ _) k).trans hw⟩
  · rw [HQ.out, HR.out, words_zero, words_val HC.out]; rfl
  · rw [HQ.out, words_zero]; exact Rd.nil _
  · rw [HQ.out, words_zero]; exact Nat.le_refl _
  · rw [HR.out, words_val HC.out]; exact hbk.rd
  · rw [HR.out, words_val HC.out]; exact Nat.le_refl _

set_option maxHeartbeats 1000000 in
set_option maxRecDepth 100000 in
theorem divide_word (A B : Option Addr) (n c d v : Nat) (xs : List Nat) (w : World) (ha : Rd w A n xs) (hb : Rd w B 1 [v]) (cx : canon xs) (hv0 : 0 < v) (hn : n ≤ 70368744177664) (hle : v ≤ val xs) :
    Calls Try.prog 58 #[.slice A n c, .slice B 1 d] w (Out2 w (val xs / v) (val xs % v)) := by
  have hv2 : v < 4294967296 := (small_cons.1 hb.sm).1
  have cv : canon [v] := ⟨small_one hv2, by simp; omega⟩
  have HX := Lib.hid ha.len
  have CM := Lib.hid (fun w' hx hy => compare_c A B n c 1 d xs [v] w' hx hy cx cv (by omega) (by omega))
  have ho : 0 ≤ ord (val xs) (val [v]) := by
    rw [val_one]
    rcases Nat.lt_or_ge v (val xs) with h1 | h1
    · rw [ord_gt (by omega)]; omega
    · rw [ord_eq (by omega)]; exact Int.le_refl _
  obtain ⟨od, hod⟩ : ∃ od, od = ord (val xs) (val [v]) := ⟨_, rfl⟩
  rw [← hod] at ho CM
  obtain ⟨b, o, rfl, hb1, hcell⟩ := hb.of (by omega)
  have hc0 := hcell 0 (by omega)
  have hc0' : w.cell? ⟨b, o, none⟩ = some (.int .u32 (v : Int)) := hc0
  have HC0 := Lib.hid hc0'
  have hrl := Nat.mod_lt (val xs) hv0
  obtain ⟨rv, hrv⟩ : ∃ rv, rv = val xs % v := ⟨_, rfl⟩
  have DW : Hid (∀ g w', Bk w' g xs → Calls Try.prog 79 #[.slice (some ⟨g, 0, none⟩) n n, .int .u32 (v : Int)] w' fun e w'' => e = .returned (.int .u32 (rv : Int)) ∧ w'.grownBy w'' (some g) ∧ ∃ qs, qs.length = n ∧ val qs = val xs / v ∧ Bk w'' g qs) := fun g w' hk => by
    rw [hrv]
    exact divideByWord_c g n n v xs w' hk HX.out (by omega) hv0 hv2
  rw [← hrv] at hrl
  have RV := Lib.hid hrv
  clear hod hle cv hcell hc0 hc0' hrv
  go_enter Try.func58, Try.ntmps58
  go_wp2_with fail
  refine (CM.out w ha hb).mono ?_
  rintro e w1 ⟨rfl, k, rfl⟩
  go_wp2_with fail
  refine (clone_c A n c xs _ (ha.drewN k) hn).mono ?_
  rintro e w2 ⟨g, rfl, hg, hbk, hw⟩
  rw [HX.out]
  have HB2 := Lib.hid ((below_drewN (Below.refl w.heap.size w) k).trans hw)
  have hc2 := (HB2.out.cell (p := ⟨b, o, none⟩) hb1).trans HC0.out
  go_wp2_with fail
  refine (DW.out g w2 hbk).mono ?_
  rintro e w3 ⟨rfl, hg3, qs, hql, hqv, hqb⟩
  have HB3 := Lib.hid (HB2.out.trans (below_of_grown hg3 HB2.out.size hg))
  have QL := Lib.hid hql
  have QV := Lib.hid hqv
  have hrd := hqb.rd
  rw [hql] at hrd
  clear hql hqv hg3
  go_wp2_with fail
  refine (trim_c _ _ _ qs w3 hrd (Nat.le_refl _) (by omega)).mono ?_
  intro e w4 h4
  obtain ⟨A', c', rfl, r1, r2, r3, r4, -⟩ := out_of_trim (w := w) (v := val xs / v) hqb hg QV.out HB3.out (by have := QL.out; omega) h4
  have R1 := Lib.hid r1
  clear h4 r1
  go_wp2_with fail
  rw [show Obj.cells #[.int .u32 (rv : Int)] 66 = row [rv] from rfl]
  have hb5 := Bk.new w4 (small_one (show rv < 4294967296 by omega))
  have hw5 := r4.alloc r4.size (row [rv])
  have R2 := Lib.hid (R1.out.alloc (row [rv]))
  refine (trim_c _ 1 1 [rv] _ hb5.rd (Nat.le_refl _) (by omega)).mono ?_
  intro e w5 h5
  obtain ⟨A5, c5, rfl, s1, s2, s3, s4, -⟩ := out_of_trim (w := w) (v := rv) hb5 r4.size (val_one rv) hw5 (by simp) h5
  obtain ⟨k5, hk5⟩ : ∃ k5, w5 = (w4.alloc (row [rv])).drewN k5 := by
    obtain ⟨_, _, _, k5, hk5⟩ := h5
    exact ⟨k5, hk5⟩
  have R3 := Lib.hid (show Rd w5 A' (words (val xs / v)).length (words (val xs / v)) by rw [hk5]; exact R2.out.drewN k5)
  have S1 := Lib.hid s1
  clear h5 s1 hk5
  go_wp2
  go_ret2
  exact ⟨A', c', A5, c5, by rw [← RV.out]; rfl, R3.out, r2, r3, by rw [← RV.out]; exact S1.out, by rw [← RV.out]; exact s2, s3, s4⟩
end Go.Proofs.Ytmgkgomecakoiaa

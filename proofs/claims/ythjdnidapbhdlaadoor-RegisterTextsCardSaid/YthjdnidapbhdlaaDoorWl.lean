import Derived.Test.YthjdnidapbhdlaaDoorWg
namespace Go.Proofs.YthjdnidapbhdlaaDoor
open Go.RowKit

/-- a number -/
def One (w : World) (z : Int) (e : Ending) (w' : World) : Prop :=
  ∃ A c, e = .returned (.agg #[.bool (decide (z < 0)), .slice A (words z.natAbs).length c]) ∧ Rd w' A (words z.natAbs).length (words z.natAbs) ∧ (words z.natAbs).length ≤ c ∧ c ≤ 9223372036854775807 ∧ Below w.heap.size w w'

theorem two_row (m : Nat) (_h : m < 18446744073709551616) : Obj.cells #[.int .u32 ((m : Int) % 4294967296), .int .u32 ((m : Int) / 4294967296)] 86 = row [m % 4294967296, m / 4294967296] := by
  simp [row, wd]
theorem two_small (m : Nat) (h : m < 18446744073709551616) : small [m % 4294967296, m / 4294967296] := by
  refine small_cons.2 ⟨by omega, small_cons.2 ⟨by omega, small_nil⟩⟩
theorem two_val (m : Nat) : val [m % 4294967296, m / 4294967296] = m := by simp [val]; omega
set_option maxHeartbeats 400000 in
theorem Of_neg (m : Nat) (w : World) (h1 : m ≤ 9223372036854775808) (h2 : 0 < m) :
    Calls Tryd.prog 13 #[.int .i64 (-(m : Int))] w (One w (-(m : Int))) := by
  have HN := Lib.hid (show ((-(m : Int)) : Int).natAbs = m by omega)
  have HD := Lib.hid (show decide (((-(m : Int)) : Int) < 0) = true by simp; omega)
  have e1 : IntKind.u64.wrap (-IntKind.u64.wrap (-(m : Int))) = (m : Int) := by rw [IntKind.wrap_u64, IntKind.wrap_u64]; omega
  have t : -(m : Int) < 0 := by omega
  go_enter Tryd.func13, Tryd.ntmps13
  go_wp2_with fail
  rw [two_row m (by omega)]
  have hb := Bk.new (w.alloc (.cells #[.bool false, .slice none 0 0] 24)) (two_small m (by omega))
  rw [World.size_alloc] at hb
  have hb1 : Below w.heap.size w ((w.alloc (.cells #[.bool false, .slice none 0 0] 24)).alloc (row [m % 4294967296, m / 4294967296])) := ((Below.refl _ _).alloc (Nat.le_refl _) _).alloc (by simp) _
  refine (trim_c _ 2 2 _ _ hb.rd (Nat.le_refl _) (by omega)).mono ?_
  intro e w3 h3
  obtain ⟨A', rfl, hA, k, rfl⟩ := h3
  obtain ⟨A2, c2, he, r1, r2, r3, r4, -⟩ := out_of_trim (w := w) hb (by omega) (two_val m) hb1 (by simp) ⟨A', rfl, hA, k, rfl⟩
  rw [two_val] at he ⊢
  injection he with he
  injection he with he1 he2 he3
  subst he1 he3
  have R := Lib.hid r1
  clear he2 r1 hb hb1
  go_wp2
  refine bodyPost_ret (v := .agg #[.bool true, .slice A' (words m).length (words m).length]) (by simp [results, Tryd.results13, go_sem]) rfl ?_
  exact ⟨A', (words m).length, by rw [HN.out, HD.out], by rw [HN.out]; exact R.out.store (x := false) (a := none) (i := 0) (j := 0) (by go_simp) (by go_simp) _ _, by rw [HN.out]; exact Nat.le_refl _, r3, below_store r4 (Nat.le_refl _) _ _⟩
set_option maxHeartbeats 400000 in
theorem Of_pos (m : Nat) (w : World) (h1 : m < 9223372036854775808) :
    Calls Tryd.prog 13 #[.int .i64 (m : Int)] w (One w (m : Int)) := by
  have HN := Lib.hid (show ((m : Int) : Int).natAbs = m by omega)
  have HD := Lib.hid (show decide (((m : Int) : Int) < 0) = false by simp)
  go_enter Tryd.func13, Tryd.ntmps13
  go_wp2_with fail
  rw [two_row m (by omega)]
  have hb := Bk.new (w.alloc (.cells #[.bool false, .slice none 0 0] 24)) (two_small m (by omega))
  rw [World.size_alloc] at hb
  have hb1 : Below w.heap.size w ((w.alloc (.cells #[.bool false, .slice none 0 0] 24)).alloc (row [m % 4294967296, m / 4294967296])) := ((Below.refl _ _).alloc (Nat.le_refl _) _).alloc (by simp) _
  refine (trim_c _ 2 2 _ _ hb.rd (Nat.le_refl _) (by omega)).mono ?_
  intro e w3 h3
  obtain ⟨A', rfl, hA, k, rfl⟩ := h3
  obtain ⟨A2, c2, he, r1, r2, r3, r4, -⟩ := out_of_trim (w := w) hb (by omega) (two_val m) hb1 (by simp) ⟨A', rfl, hA, k, rfl⟩
  rw [two_val] at he ⊢
  injection he with he
  injection he with he1 he2 he3
  subst he1 he3
  have R := Lib.hid r1
  clear he2 r1 hb hb1
  go_wp2
  refine bodyPost_ret (v := .agg #[.bool false, .slice A' (words m).length (words m).length]) (by simp [results, Tryd.results13, go_sem]) rfl ?_
  exact ⟨A', (words m).length, by rw [HN.out, HD.out], by rw [HN.out]; exact R.out.store (x := false) (a := none) (i := 0) (j := 0) (by go_simp) (by go_simp) _ _, by rw [HN.out]; exact Nat.le_refl _, r3, below_store r4 (Nat.le_refl _) _ _⟩
theorem Of_c (z : Int) (w : World) (h1 : -9223372036854775808 ≤ z) (h2 : z < 9223372036854775808) :
    Calls Tryd.prog 13 #[.int .i64 z] w (One w z) := by
  by_cases h : z < 0
  · obtain ⟨m, rfl⟩ : ∃ m : Nat, z = -(m : Int) := ⟨z.natAbs, by omega⟩
    exact Of_neg m w (by omega) (by omega)
  · obtain ⟨m, rfl⟩ : ∃ m : Nat, z = (m : Int) := ⟨z.natAbs, by omega⟩
    exact Of_pos m w (by omega)
end Go.Proofs.YthjdnidapbhdlaaDoor

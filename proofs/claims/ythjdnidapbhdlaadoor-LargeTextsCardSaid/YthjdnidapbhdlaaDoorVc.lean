import Derived.Test.YthjdnidapbhdlaaDoorWy
import Derived.Test.YthjdnidapbhdlaaDoorVa
import Derived.Test.YthjdnidapbhdlaaDoorRa
namespace Go.Proofs.YthjdnidapbhdlaaDoor
open Go.RowKit

/-- a number of one word -/
def Lit1 (w : World) (t : Bool) (m : Nat) (e : Ending) (w' : World) : Prop :=
  ∃ A c, e = .returned (.agg #[.bool t, .slice A 1 c]) ∧ Rd w' A 1 [m] ∧ 1 ≤ c ∧ c ≤ 9223372036854775807 ∧ Below w.heap.size w w'
theorem lit_of {w w' : World} {z : Int} {t : Bool} {m : Nat} {e : Ending} (hm : z.natAbs = m) (h0 : m ≠ 0) (hB : m < 4294967296) (ht : decide (z < 0) = t) (h : One w z e w') : Lit1 w t m e w' := by
  obtain ⟨A, c, rfl, r1, r2, r3, r4⟩ := h
  subst hm ht
  rw [words_one hB h0] at r1 r2 ⊢
  exact ⟨A, c, rfl, r1, r2, r3, r4⟩
theorem of_lit (z : Int) (m : Nat) (t : Bool) (w : World) (hm : z.natAbs = m) (h0 : m ≠ 0) (hB : m < 4294967296) (ht : decide (z < 0) = t) : Calls Tryd.prog 13 #[.int .i64 z] w (Lit1 w t m) :=
  (Of_c z w (by omega) (by omega)).mono fun _ _ h => lit_of hm h0 hB ht h
theorem refof_lit (z : Int) (m : Nat) (t : Bool) (w : World) (hm : z.natAbs = m) (h0 : m ≠ 0) (hB : m < 4294967296) (ht : decide (z < 0) = t) : Calls Tryd.prog 14 #[.int .i64 z] w (Lit1 w t m) :=
  (refOf_c z w (by omega) (by omega)).mono fun _ _ h => lit_of hm h0 hB ht h
theorem valid_one {s : Bool} {m : Nat} (h0 : m ≠ 0) : validB s [m] = true := by simp [validB, h0]
theorem canon_one {m : Nat} (hB : m < 4294967296) (h0 : m ≠ 0) : canon [m] := ⟨small_one hB, by simpa using h0⟩

def Div1 (w : World) (tq : Bool) (q r : Nat) (e : Ending) (w' : World) : Prop :=
  ∃ B d B' d', e = .returned (.tuple #[.agg #[.bool tq, .slice B 1 d], .agg #[.bool false, .slice B' 1 d'], .int .i64 0]) ∧ Rd w' B 1 [q] ∧ Rd w' B' 1 [r] ∧ Below w.heap.size w w'
theorem div_lit (s s' : Bool) (A A' : Option Addr) (c c' : Nat) (x y q r : Nat) (tq : Bool) (w : World) (h : Rd w A 1 [x]) (h' : Rd w A' 1 [y]) (hx : x < 4294967296) (hx0 : x ≠ 0) (hy0 : 0 < y) (hyx : y ≤ x)
    (hq : sgn s x / sgn s' y = sgn tq q) (hr : sgn s x % sgn s' y = (r : Int)) (hq0 : q ≠ 0) (hr0 : r ≠ 0) (hqB : q < 4294967296) (hrB : r < 4294967296) :
    Calls Tryd.prog 37 #[.agg #[.bool s, .slice A 1 c], .agg #[.bool s', .slice A' 1 c']] w (Div1 w tq q r) := by
  refine (Div_ok s s' A A' 1 c 1 c' [x] [y] w h h' (valid_one hx0) (valid_one (by omega)) (by omega) (fun w' h1 h2 => ?_)).mono ?_
  · rw [val_one, val_one]
    have := divide_word A A' 1 c c' y [x] w' h1 h2 (canon_one hx hx0) hy0 (by omega) (by rw [val_one]; exact hyx)
    rwa [val_one] at this
  · rw [val_one, val_one, hq, hr]
    rintro e w1 ⟨t, B, m, d, t', B', m', d', rfl, I1, I2, hb⟩
    obtain ⟨i1, i2, i3, -⟩ := I1
    obtain ⟨j1, j2, j3, -⟩ := I2
    rw [sgn_abs] at i2 i3
    rw [Int.natAbs_natCast] at j2 j3
    rw [sgn_lt _ _ hq0] at i1
    rw [decide_eq_false (by omega)] at j1
    rw [words_one hqB hq0] at i2 i3
    rw [words_one hrB hr0] at j2 j3
    subst i1 j1 i2 j2
    exact ⟨B, d, B', d', rfl, i3, j3, hb⟩

theorem root_lit (A : Option Addr) (c : Nat) (w : World) (h : Rd w A 1 [99]) : Calls Tryd.prog 39 #[.agg #[.bool false, .slice A 1 c]] w
    fun e w' => ∃ B d, e = .returned (.tuple #[.agg #[.bool false, .slice B 1 d], .bool false, .int .i64 0]) ∧ Rd w' B 1 [9] ∧ Below w.heap.size w w' := by
  have hv : val [99] = 99 := val_one 99
  have hbl : blen 99 = 7 := blen_unique (k := 6) (by omega) (by omega)
  refine (Root_ok A 1 c [99] w h (valid_one (by omega)) (Lib.hid (fun w' hw => ?_))).mono ?_
  · refine root_flat A 1 c [99] w' hw (canon_one (by omega) (by omega)) (by omega) (by rw [hv, hbl]; omega) (Lib.hid (fun S B m d w'' h0 hS ha hb => ?_))
    rw [hv] at hS ⊢
    rw [hbl] at hS
    have hS2 : S ≤ 16 := by simpa using hS
    rw [words_one (by omega) (by omega)] at hb
    have hm : 1 = m := hb.len
    subst hm
    have := divide_word A B 1 c d S [99] w'' ha hb (canon_one (by omega) (by omega)) h0 (by omega) (by rw [hv]; omega)
    rwa [hv] at this
  · rw [hv]
    rintro e w1 ⟨r, t, B, m, d, hr, rfl, ⟨i1, i2, i3, -⟩, hb⟩
    have h9 : r = 9 := hr.unique ⟨by omega, by omega⟩
    subst h9
    rw [Int.natAbs_natCast, words_one (by omega) (by omega)] at i2 i3
    rw [decide_eq_false (by omega)] at i1
    subst i1 i2
    exact ⟨B, d, by rw [decide_eq_false (by omega)]; rfl, i3, hb⟩
end Go.Proofs.YthjdnidapbhdlaaDoor

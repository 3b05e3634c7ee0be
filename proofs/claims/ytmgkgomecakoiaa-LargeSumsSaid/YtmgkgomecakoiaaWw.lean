import Derived.Test.YtmgkgomecakoiaaWv
import Derived.RegionTactic
namespace Go.Proofs.Ytmgkgomecakoiaa
open Go.RowKit

/-- a struct's cells read as the integer z -/
def Is (w : World) (z : Int) (t : Bool) (B : Option Addr) (m d : Nat) : Prop :=
  t = decide (z < 0) ∧ m = (words z.natAbs).length ∧ Rd w B m (words z.natAbs) ∧ m ≤ d ∧ d ≤ 9223372036854775807
theorem Is.below {w w' : World} {z : Int} {t : Bool} {B : Option Addr} {m d : Nat} (h : Is w z t B m d) (hb : Below w.heap.size w w') : Is w' z t B m d :=
  ⟨h.1, h.2.1, h.2.2.1.below hb, h.2.2.2⟩
theorem Is.set_other {w : World} {z : Int} {t : Bool} {B : Option Addr} {m d : Nat} (h : Is w z t B m d) {p : Addr} {v : Value} (hp : w.cell? p = some v) (hv : ∀ z, v ≠ .int .u32 z) (u : Value) : Is (w.setCell p u) z t B m d :=
  ⟨h.1, h.2.1, h.2.2.1.set_other hp hv u, h.2.2.2⟩
theorem Is.store {w : World} {z : Int} {t : Bool} {B : Option Addr} {m d : Nat} (h : Is w z t B m d) {g : Nat} {x : Bool} {a : Option Addr} {i j : Nat} (h0 : w.cell? ⟨g, 0, none⟩ = some (.bool x)) (h1 : w.cell? ⟨g, 1, none⟩ = some (.slice a i j)) (u v : Value) :
    Is ((w.setCell ⟨g, 0, none⟩ u).setCell ⟨g, 1, none⟩ v) z t B m d :=
  ⟨h.1, h.2.1, h.2.2.1.store h0 h1 u v, h.2.2.2⟩
theorem NumIs.is_ {w : World} {z k : Int} {t : Bool} {B : Option Addr} {m d : Nat} (h : NumIs w z t B m d k) (hl : (words z.natAbs).length ≤ 4096) : k = 0 ∧ Is w z t B m d := by
  obtain ⟨a, b⟩ := h.1 hl
  exact ⟨a, b⟩
def DivPost (w : World) (zq zr : Int) (e : Ending) (w' : World) : Prop :=
  ∃ t B m d t' B' m' d', e = .returned (.tuple #[.agg #[.bool t, .slice B m d], .agg #[.bool t', .slice B' m' d'], .int .i64 0]) ∧ Is w' zq t B m d ∧ Is w' zr t' B' m' d' ∧ Below w.heap.size w w'

theorem div_pos (s' : Bool) (X Y : Nat) : (X : Int) / sgn s' Y = sgn (false != s') (X / Y) ∧ (X : Int) % sgn s' Y = ((X % Y : Nat) : Int) := by
  cases s'
  · simp [sgn]
  · simp [sgn]
theorem div_neg0 (s' : Bool) (X Y : Nat) (hY : 0 < Y) (hr : X % Y = 0) : (-(X : Int)) / sgn s' Y = sgn (true != s') (X / Y) ∧ (-(X : Int)) % sgn s' Y = 0 := by
  have e : (X : Int) = (Y : Int) * ((X / Y : Nat) : Int) := by
    have := Nat.div_add_mod X Y
    rw [hr, Nat.add_zero] at this
    rw [← Int.natCast_mul, this]
  have e2 : -(X : Int) = (Y : Int) * -((X / Y : Nat) : Int) := by rw [Int.mul_neg, ← e]
  obtain ⟨Q, hQ⟩ : ∃ Q, Q = X / Y := ⟨_, rfl⟩
  rw [← hQ] at e2 ⊢
  rw [e2]
  have hY0 : (Y : Int) ≠ 0 := by omega
  cases s'
  · show (Y : Int) * -(Q : Int) / (Y : Int) = -(Q : Int) ∧ (Y : Int) * -(Q : Int) % (Y : Int) = 0
    exact ⟨Int.mul_ediv_cancel_left _ hY0, Int.mul_emod_right _ _⟩
  · show (Y : Int) * -(Q : Int) / -(Y : Int) = (Q : Int) ∧ (Y : Int) * -(Q : Int) % -(Y : Int) = 0
    rw [Int.ediv_neg, Int.mul_ediv_cancel_left _ hY0, Int.neg_neg, Int.emod_neg]
    exact ⟨rfl, Int.mul_emod_right _ _⟩
theorem div_neg1 (s' : Bool) (X Y : Nat) (hY : 0 < Y) (hr : 0 < X % Y) : (-(X : Int)) / sgn s' Y = sgn (true != s') (X / Y + 1) ∧ (-(X : Int)) % sgn s' Y = ((Y - X % Y : Nat) : Int) := by
  have hl := Nat.mod_lt X hY
  have hd := Nat.div_add_mod X Y
  obtain ⟨Q, hQ⟩ : ∃ Q, Q = X / Y := ⟨_, rfl⟩
  obtain ⟨R, hR⟩ : ∃ R, R = X % Y := ⟨_, rfl⟩
  rw [← hQ, ← hR] at hd
  rw [← hR] at hl hr
  rw [← hQ, ← hR]
  have hc : (Y : Int) * (Q : Int) + (R : Int) = (X : Int) := by rw [← hd]; simp
  have hu := (Int.ediv_emod_unique (a := -(X : Int)) (b := (Y : Int)) (q := -((Q + 1 : Nat) : Int)) (r := ((Y - R : Nat) : Int)) (by omega)).2 ⟨by
    rw [Int.mul_neg, Int.natCast_add, Int.mul_add]
    simp only [Int.natCast_one, Int.mul_one]
    omega, by omega, by omega⟩
  cases s'
  · exact hu
  · show -(X : Int) / -(Y : Int) = ((Q + 1 : Nat) : Int) ∧ -(X : Int) % -(Y : Int) = ((Y - R : Nat) : Int)
    rw [Int.ediv_neg, Int.emod_neg, hu.1, hu.2, Int.neg_neg]
    exact ⟨rfl, rfl⟩

/-- two numbers in boxes, and the cells of two results -/
structure Env4 (w W : World) (s s' : Bool) (A A' : Option Addr) (n c n' c' : Nat) : Prop where
  env : Env w W s s' A A' n c n' c'
  size : w.heap.size + 4 ≤ W.heap.size
  r0 : W.cell? ⟨w.heap.size + 1 + 1 + 1, 0, none⟩ = some (.bool false)
  r1 : W.cell? ⟨w.heap.size + 1 + 1 + 1, 1, none⟩ = some (.slice none 0 0)
  f0 : W.frozen? ⟨w.heap.size + 1 + 1 + 1, 0, none⟩ = false
  f1 : W.frozen? ⟨w.heap.size + 1 + 1 + 1, 1, none⟩ = false
theorem Env4.start (w : World) (s s' : Bool) (A A' : Option Addr) (n c n' c' : Nat) :
    Env4 w ((((w.alloc (.cells #[.bool s, .slice A n c] 24)).alloc (.cells #[.bool s', .slice A' n' c'] 24)).alloc (.cells #[.bool false, .slice none 0 0] 24)).alloc (.cells #[.bool false, .slice none 0 0] 24)) s s' A A' n c n' c' :=
  ⟨(Env.start w s s' A A' n c n' c').alloc _, by simp, by go_simp, by go_simp, by go_simp, by go_simp⟩
theorem Env4.next {w W w1 : World} {s s' : Bool} {A A' : Option Addr} {n c n' c' : Nat} (h : Env4 w W s s' A A' n c n' c') (hb : Below W.heap.size W w1) : Env4 w w1 s s' A A' n c n' c' := by
  have hz := h.size
  have hz1 := hb.size
  exact ⟨h.env.next hb, by omega,
    (hb.cell (p := ⟨w.heap.size + 1 + 1 + 1, 0, none⟩) (by simp; omega)).trans h.r0, (hb.cell (p := ⟨w.heap.size + 1 + 1 + 1, 1, none⟩) (by simp; omega)).trans h.r1,
    (hb.frozen (p := ⟨w.heap.size + 1 + 1 + 1, 0, none⟩) (by simp; omega)).trans h.f0, (hb.frozen (p := ⟨w.heap.size + 1 + 1 + 1, 1, none⟩) (by simp; omega)).trans h.f1⟩
theorem Env4.alloc {w W : World} {s s' : Bool} {A A' : Option Addr} {n c n' c' : Nat} (h : Env4 w W s s' A A' n c n' c') (o : Obj) : Env4 w (W.alloc o) s s' A A' n c n' c' :=
  h.next ((Below.refl _ _).alloc (Nat.le_refl _) o)
theorem Is.drew {w : World} {z : Int} {t : Bool} {B : Option Addr} {m d : Nat} (h : Is w z t B m d) : Is w.drew z t B m d := h.below (Below.refl _ _).drew
theorem div_done {w W W6 : World} {s s' : Bool} {A A' : Option Addr} {n c n' c' : Nat} {zq zr : Int} {t t' : Bool} {B B' : Option Addr} {m d m' d' : Nat} (E : Env4 w W s s' A A' n c n' c') (J1 : Is W zq t B m d) (J2 : Is W zr t' B' m' d')
    (hW : (((W.setCell ⟨w.heap.size + 1 + 1, 0, none⟩ (.bool t)).setCell ⟨w.heap.size + 1 + 1, 1, none⟩ (.slice B m d)).setCell ⟨w.heap.size + 1 + 1 + 1, 0, none⟩ (.bool t')).setCell ⟨w.heap.size + 1 + 1 + 1, 1, none⟩ (.slice B' m' d') = W6) :
    DivPost w zq zr (.returned (.tuple #[.agg #[.bool t, .slice B m d], .agg #[.bool t', .slice B' m' d'], .int .i64 0])) W6.drew := by
  subst hW
  have k0 := cell_two (u := .bool t) (v := .slice B m d) (show w.heap.size + 1 + 1 ≠ w.heap.size + 1 + 1 + 1 by omega) E.r0
  have k1 := cell_two (u := .bool t) (v := .slice B m d) (show w.heap.size + 1 + 1 ≠ w.heap.size + 1 + 1 + 1 by omega) E.r1
  refine ⟨t, B, m, d, t', B', m', d', rfl, ((J1.store E.env.r0 E.env.r1 _ _).store k0 k1 _ _).drew, ((J2.store E.env.r0 E.env.r1 _ _).store k0 k1 _ _).drew, ?_⟩
  exact (below_store (below_store E.env.below (by omega) _ _) (by omega) _ _).drew
end Go.Proofs.Ytmgkgomecakoiaa

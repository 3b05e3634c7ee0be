import Derived.Test.YthjdnidapbhdlaaDoorWa
import Derived.Deep.RegionHeld3
import Derived.Lib.Tables
import Derived.Deep.Light
import Derived.Deep.LoopGhost
import Derived.Test.YthjdnidapbhdlaaDoorRd
namespace Go.Proofs.YthjdnidapbhdlaaDoor
open Go.RowKit

/-- sums of words under way: k words are out -/
structure PlusAt (xs ys : List Nat) (n k : Nat) (cs : List Nat) (y : Nat) : Prop where
  len : cs.length = n
  sm : small cs
  eq : val (cs.take k) + pw k * y = val (xs.take k) + val (ys.take k)
  le : y ≤ 1
theorem PlusAt.start (xs ys : List Nat) (n : Nat) : PlusAt xs ys n 0 (List.replicate n 0) 0 :=
  ⟨by simp, fun x hx => by have := List.eq_of_mem_replicate hx; omega, by simp [val], by omega⟩
theorem PlusAt.next {xs ys cs : List Nat} {n k y : Nat} (h : PlusAt xs ys n k cs y) (hx : small xs) (hy : small ys) (hk : k < n) :
    PlusAt xs ys n (k + 1) (cs.set k ((y + xs.getD k 0 + ys.getD k 0) % 4294967296)) ((y + xs.getD k 0 + ys.getD k 0) / 4294967296) := by
  have h1 := small_get hx k
  have h2 := small_get hy k
  have h3 := h.le
  refine ⟨by simp [h.len], small_set h.sm _ _ (by omega), ?_, by omega⟩
  rw [val_take_step, val_take_step, val_take_step]
  have e1 : (cs.set k ((y + xs.getD k 0 + ys.getD k 0) % 4294967296)).take k = cs.take k := by
    rw [List.take_set_of_le (Nat.le_refl _)]
  have e2 : (cs.set k ((y + xs.getD k 0 + ys.getD k 0) % 4294967296)).getD k 0 = (y + xs.getD k 0 + ys.getD k 0) % 4294967296 := by
    simp [List.getD_eq_getElem?_getD, h.len, hk]
  rw [e1, e2, pw_succ]
  have e := h.eq
  obtain ⟨X, hX⟩ : ∃ X, X = xs.getD k 0 := ⟨_, rfl⟩
  obtain ⟨Y, hY⟩ : ∃ Y, Y = ys.getD k 0 := ⟨_, rfl⟩
  rw [← hX, ← hY]
  obtain ⟨S, hS⟩ : ∃ S, S = y + X + Y := ⟨_, rfl⟩
  rw [← hS]
  have hd := Nat.div_add_mod S 4294967296
  have m1 : pw k * S = pw k * (S % 4294967296) + pw k * 4294967296 * (S / 4294967296) := by
    conv => lhs; rw [← hd]
    rw [Nat.mul_add, Nat.mul_assoc, Nat.add_comm]
  have m2 : pw k * S = pw k * y + pw k * X + pw k * Y := by rw [hS, Nat.mul_add, Nat.mul_add]
  have m3 : 4294967296 * pw k = pw k * 4294967296 := Nat.mul_comm _ _
  first
    | (rw [m3]; omega)
    | omega
end Go.Proofs.YthjdnidapbhdlaaDoor
namespace Go.Proofs.YthjdnidapbhdlaaDoor
open Go.RowKit

/-- words made: a block of its own, of which all is known -/
def Made (w : World) (n v : Nat) (e : Ending) (w' : World) : Prop :=
  ∃ cs, e = .returned (.slice (some ⟨w.heap.size, 0, none⟩) n n) ∧ cs.length = n ∧ val cs = v ∧ Bk w' w.heap.size cs ∧ Below w.heap.size w w'
theorem u64_mask {z : Int} (h0 : 0 ≤ z) (h1 : z < 18446744073709551616) : bits .and .u64 z 4294967295 = z % 4294967296 := by
  obtain ⟨n, rfl⟩ : ∃ n : Nat, z = (n : Int) := ⟨z.toNat, by omega⟩
  show IntKind.u64.wrap ((BitVec.ofInt 64 (n : Int) &&& BitVec.ofInt 64 4294967295).toNat : Int) = _
  have e1 : (BitVec.ofInt 64 (n : Int)).toNat = n := by
    rw [BitVec.ofInt_natCast, BitVec.toNat_ofNat]; exact Nat.mod_eq_of_lt (by omega)
  have e2 : (BitVec.ofInt 64 4294967295).toNat = 4294967295 := by rfl
  have e3 : n &&& 4294967295 = n % 4294967296 := Nat.and_two_pow_sub_one_eq_mod n 32
  rw [BitVec.toNat_and, e1, e2, e3, IntKind.wrap_u64]
  omega
theorem PlusAt.done {xs ys cs : List Nat} {N y : Nat} (h : PlusAt xs ys (N + 1) (N + 1) cs y) (hx : xs.length ≤ N) (hy : ys.length ≤ N) (sx : small xs) (sy : small ys) : val cs = val xs + val ys := by
  have e := h.eq
  rw [take_of_len (by rw [h.len]; exact Nat.le_refl _), List.take_of_length_le (by omega), List.take_of_length_le (by omega)] at e
  have h1 := Nat.lt_of_lt_of_le (val_lt sx) (pw_le hx)
  have h2 := Nat.lt_of_lt_of_le (val_lt sy) (pw_le hy)
  rw [pw_succ] at e
  rcases Nat.eq_zero_or_pos y with h0 | h0
  · rw [h0, Nat.mul_zero] at e; omega
  · have : 4294967296 * pw N * 1 ≤ 4294967296 * pw N * y := Nat.mul_le_mul_left _ h0
    omega

end Go.Proofs.YthjdnidapbhdlaaDoor
namespace Go.Proofs.YthjdnidapbhdlaaDoor
open Go.RowKit

/-- an integer, new -/
def NumI (w : World) (z : Int) (e : Ending) (w' : World) : Prop :=
  ∃ t B m d, e = .returned (.agg #[.bool t, .slice B m d]) ∧ Is w' z t B m d ∧ Below w.heap.size w w'
theorem One.numI {w w' : World} {z : Int} {e : Ending} (h : One w z e w') : NumI w z e w' := by
  obtain ⟨A, c, he, h1, h2, h3, h4⟩ := h
  exact ⟨_, _, _, _, he, ⟨rfl, rfl, h1, h2, h3⟩, h4⟩
theorem Make_i {w : World} {s : Bool} {A : Option Addr} {n c : Nat} {xs : List Nat} (h : Rd w A n xs) (hc : n ≤ c) (hc2 : c ≤ 9223372036854775807) (hn : n ≤ 35184372088832) :
    Calls Tryd.prog 53 #[.bool s, .slice A n c] w (NumI w (sgn s (val xs))) := (Make_c s A n c xs w h hc hc2 hn).mono fun _ _ h => h.numI
theorem Is.neg_sgn {w : World} {z : Int} {t : Bool} {A : Option Addr} {n c : Nat} (h : Is w z t A n c) : sgn (!t) (val (words z.natAbs)) = -z := by
  rw [sgn_not, h.1, val_words, sgn_self]
theorem Is.pos_sgn {w : World} {z : Int} {t : Bool} {A : Option Addr} {n c : Nat} (h : Is w z t A n c) : sgn t (val (words z.natAbs)) = z := by
  rw [h.1, val_words, sgn_self]

/-- a result's box, not yet written -/
structure Res (W : World) (g : Nat) : Prop where
  lt : g < W.heap.size
  r0 : W.cell? ⟨g, 0, none⟩ = some (.bool false)
  r1 : W.cell? ⟨g, 1, none⟩ = some (.slice none 0 0)
  f0 : W.frozen? ⟨g, 0, none⟩ = false
  f1 : W.frozen? ⟨g, 1, none⟩ = false
theorem Res.next {W w1 : World} {g : Nat} (h : Res W g) (hb : Below W.heap.size W w1) : Res w1 g :=
  ⟨Nat.lt_of_lt_of_le h.lt hb.size, (hb.cell (p := ⟨g, 0, none⟩) h.lt).trans h.r0, (hb.cell (p := ⟨g, 1, none⟩) h.lt).trans h.r1, (hb.frozen (p := ⟨g, 0, none⟩) h.lt).trans h.f0, (hb.frozen (p := ⟨g, 1, none⟩) h.lt).trans h.f1⟩
theorem Res.new (W : World) : Res (W.alloc (.cells #[.bool false, .slice none 0 0] 24)) W.heap.size := ⟨by simp, by go_simp, by go_simp, by go_simp, by go_simp⟩

end Go.Proofs.YthjdnidapbhdlaaDoor

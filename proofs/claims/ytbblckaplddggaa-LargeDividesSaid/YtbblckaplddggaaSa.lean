import Derived.Test.YtbblckaplddggaaRd
import Derived.Test.YtbblckaplddggaaRe
import Derived.IntWalk
namespace Go.Proofs.Ytbblckaplddggaa
open Go.RowKit

/-- a number in a box, and a result's box, behind the world w -/
structure Env1r (w W : World) (s : Bool) (A : Option Addr) (n c : Nat) : Prop where
  size : w.heap.size + 2 ≤ W.heap.size
  a0 : W.cell? ⟨w.heap.size, 0, none⟩ = some (.bool s)
  a1 : W.cell? ⟨w.heap.size, 1, none⟩ = some (.slice A n c)
  res : Res W (w.heap.size + 1)
  below : Below w.heap.size w W
theorem Env1r.start (w : World) (s : Bool) (A : Option Addr) (n c : Nat) : Env1r w ((w.alloc (.cells #[.bool s, .slice A n c] 24)).alloc (.cells #[.bool false, .slice none 0 0] 24)) s A n c :=
  ⟨by simp, by go_simp, by go_simp, by
    have := Res.new (w.alloc (.cells #[.bool s, .slice A n c] 24))
    rw [World.size_alloc] at this
    exact this, ((Below.refl _ _).alloc (Nat.le_refl _) _).alloc (by simp) _⟩
theorem Env1r.next {w W w1 : World} {s : Bool} {A : Option Addr} {n c : Nat} (h : Env1r w W s A n c) (hb : Below W.heap.size W w1) : Env1r w w1 s A n c := by
  have hz := h.size
  have hz1 := hb.size
  exact ⟨by omega, (hb.cell (p := ⟨w.heap.size, 0, none⟩) (by simp; omega)).trans h.a0, (hb.cell (p := ⟨w.heap.size, 1, none⟩) (by simp; omega)).trans h.a1, h.res.next hb, h.below.trans (hb.mono (by omega))⟩

set_option maxHeartbeats 400000 in
theorem Bits_c {w : World} {z : Int} {t : Bool} {A : Option Addr} {n c : Nat} (h : Is w z t A n c) (hn : n ≤ 4096) :
    Calls Try.prog 68 #[.agg #[.bool t, .slice A n c]] w fun e w' => e = .returned (.int .i64 (blen z.natAbs)) ∧ Below w.heap.size w w' := by
  have S : Sz z 4096 := by show z.natAbs < pw 4096; exact words_len_le.1 (by rw [← h.2.1]; exact hn)
  obtain ⟨r, v, _, _, _⟩ := h.raw S (Nat.le_refl _)
  have H := Lib.hid (Box.new h)
  have B := Lib.hid (below_alloc w (.cells #[.bool t, .slice A n c] 24))
  have HR := Lib.hid r
  have HV := Lib.hid v
  clear h r v
  go_enter Try.func68, Try.ntmps68
  go_wp2_with fail
  generalize w.alloc (.cells #[.bool t, .slice A n c] 24) = W at H B ⊢
  refine (valid_c t A n c _ W (HR.out.below B.out)).mono ?_
  rintro e w1 ⟨rfl, hb⟩
  rw [HV.out]
  have H1 := Lib.hid (H.out.next hb)
  have B1 := Lib.hid (B.out.trans (hb.mono B.out.size))
  have hd := digits_c A n c _ _ H1.out.is.2.2.1 (words_canon _) (by omega)
  rw [val_words] at hd
  have HD := Lib.hid hd
  have c1 := H1.out.c1
  clear hd hb
  go_wp2_with fail
  refine HD.out.mono ?_
  rintro e w2 ⟨rfl, rfl⟩
  clear c1
  go_wp2
  go_ret
  exact ⟨rfl, B1.out⟩

theorem sgn_mul_nat (t : Bool) (X Y : Nat) : sgn t (X * Y) = sgn t X * (Y : Int) := by cases t <;> simp [sgn, Int.neg_mul]

end Go.Proofs.Ytbblckaplddggaa
namespace Go.Proofs.Ytbblckaplddggaa
open Go.RowKit

theorem blen_sz {z : Int} {k : Nat} (h : Sz z k) : blen z.natAbs ≤ 32 * k := blen_le.2 (by
  have h1 : z.natAbs < pw k := h
  unfold pw at h1
  rw [show (4294967296 : Nat) = 2 ^ 32 from rfl, ← Nat.pow_mul] at h1
  exact h1)

end Go.Proofs.Ytbblckaplddggaa
namespace Go.Proofs.Ytbblckaplddggaa
open Go.RowKit

theorem down_min (X m b : Nat) (h : X < 2 ^ b) : X / 2 ^ (if b < m then b else m) = X / 2 ^ m := by
  split
  · rename_i hbm
    rw [Nat.div_eq_of_lt h, Nat.div_eq_of_lt (Nat.lt_of_lt_of_le h (Nat.pow_le_pow_right (by omega) (by omega)))]
  · rfl

end Go.Proofs.Ytbblckaplddggaa
namespace Go.Proofs.Ytbblckaplddggaa
open Go.RowKit

theorem fl0 (X P : Nat) (hP : 0 < P) (h : X / P * P = X) : (-(X : Int)) / (P : Int) = sgn true (X / P) := by
  have e : -(X : Int) = -((X / P : Nat) : Int) * (P : Int) := by
    rw [Int.neg_mul, ← Int.natCast_mul, h]
  rw [e, Int.mul_ediv_cancel _ (by omega)]
  rfl
theorem fl1 (X P : Nat) (hP : 0 < P) (h : ¬ X / P * P = X) : (-(X : Int)) / (P : Int) = sgn true (X / P + 1) := by
  have h1 := Nat.div_add_mod X P
  have h2 := Nat.mod_lt X hP
  have h3 : X % P ≠ 0 := fun e => h (by rw [e, Nat.mul_comm] at h1; omega)
  refine ((Int.ediv_emod_unique (a := -(X : Int)) (b := (P : Int)) (r := (P : Int) - ((X % P : Nat) : Int)) (q := sgn true (X / P + 1)) (by omega)).2 ⟨?_, by omega, by omega⟩).1
  have h4 : (X : Int) = (P : Int) * ((X / P : Nat) : Int) + ((X % P : Nat) : Int) := by
    rw [← Int.natCast_mul, ← Int.natCast_add, h1]
  have h5 : sgn true (X / P + 1) = -((X / P : Nat) : Int) - 1 := by simp [sgn]; omega
  rw [h5, Int.mul_sub, Int.mul_neg, Int.mul_one]
  omega

theorem words_len4 {v k : Nat} (h : v < pw k) {u : Nat} (hu : u ≤ v) : (words u).length ≤ k := words_len_le.2 (Nat.lt_of_le_of_lt hu h)

end Go.Proofs.Ytbblckaplddggaa
namespace Go.Proofs.Ytbblckaplddggaa
open Go.RowKit

end Go.Proofs.Ytbblckaplddggaa
namespace Go.Proofs.Ytbblckaplddggaa
open Go.RowKit

/-- z times 2^k, rounded down -/
def shl (z k : Int) : Int := if 0 ≤ k then z * (2 ^ k.toNat : Nat) else z / (2 ^ (-k).toNat : Nat)
theorem shl_up (z : Int) (k : Nat) : shl z k = z * (2 ^ k : Nat) := by
  unfold shl; rw [if_pos (by omega)]; rfl
theorem shl_down (z : Int) {k : Nat} (h : 0 < k) : shl z (-(k : Int)) = z / (2 ^ k : Nat) := by
  unfold shl; rw [if_neg (by omega)]; congr 3; omega
theorem shl_zero (k : Int) : shl 0 k = 0 := by
  unfold shl; split
  · exact Int.zero_mul _
  · exact Int.zero_ediv _

/-- where the error is ErrSize, there is no such number -/
theorem Bad.num {w w' : World} {z : Int} {e : Ending} (h : Bad w 4 e w') (hz : ¬ (words z.natAbs).length ≤ 4096) : Num w z e w' := by
  obtain ⟨rfl, hb⟩ := h
  exact ⟨false, none, 0, 0, 4, rfl, ⟨fun h => absurd h hz, fun _ => ⟨rfl, rfl, rfl, rfl, rfl⟩⟩, hb⟩
theorem num_zero {w w' : World} {e : Ending} (h : e = .returned (.tuple #[.agg #[.bool false, .slice none 0 0], .int .i64 0]) ∧ Below w.heap.size w w') : Num w 0 e w' := by
  obtain ⟨rfl, hb⟩ := h
  refine ⟨false, none, 0, 0, 0, rfl, ⟨fun _ => ⟨rfl, rfl, ?_, ?_, Nat.le_refl _, by omega⟩, fun h => absurd ?_ h⟩, hb⟩
  · rw [show (0 : Int).natAbs = 0 from rfl, words_zero]; rfl
  · rw [show (0 : Int).natAbs = 0 from rfl, words_zero]; exact Rd.nil _
  · rw [show (0 : Int).natAbs = 0 from rfl, words_zero]; exact Nat.zero_le _
theorem long_of_blen {v k : Nat} (h : 32 * k < blen v) : ¬ (words v).length ≤ k := by
  intro hl
  have h1 := words_len_le.1 hl
  rw [pw_two] at h1
  have := blen_le.2 h1
  omega
theorem blen_mul_two {X k : Nat} (h : X ≠ 0) : blen (X * 2 ^ k) = k + blen X := by
  have := blen_up (y := 0) (k := k) h (two_pos k)
  rw [Nat.zero_add, Nat.mul_comm] at this
  exact this
theorem shl_far_pos {z : Int} {k : Int} (hk : k < -(blen z.natAbs : Int)) (h0 : 0 < z) : ((z.natAbs / 2 ^ blen z.natAbs : Nat) : Int) = shl z k := by
  unfold shl
  rw [if_neg (by omega), Nat.div_eq_of_lt (blen_lt _)]
  have h1 : z < ((2 ^ (-k).toNat : Nat) : Int) := by
    have h2 := blen_lt z.natAbs
    have h3 : 2 ^ blen z.natAbs ≤ 2 ^ (-k).toNat := Nat.pow_le_pow_right (by omega) (by omega)
    omega
  exact (Int.ediv_eq_zero_of_lt (by omega) h1).symm
theorem shl_far_neg {z : Int} {k : Int} (hk : k < -(blen z.natAbs : Int)) (h0 : z < 0) : z / ((2 ^ blen z.natAbs : Nat) : Int) = shl z k := by
  unfold shl
  rw [if_neg (by omega)]
  have h2 := blen_lt z.natAbs
  have h3 : 2 ^ blen z.natAbs ≤ 2 ^ (-k).toNat := Nat.pow_le_pow_right (by omega) (by omega)
  have key : ∀ P : Nat, z.natAbs < P → z / (P : Int) = -1 := fun P hP =>
    ((Int.ediv_emod_unique (a := z) (b := (P : Int)) (r := z + P) (q := -1) (by omega)).2 ⟨by omega, by omega, by omega⟩).1
  rw [key _ h2, key _ (Nat.lt_of_lt_of_le h2 h3)]

end Go.Proofs.Ytbblckaplddggaa

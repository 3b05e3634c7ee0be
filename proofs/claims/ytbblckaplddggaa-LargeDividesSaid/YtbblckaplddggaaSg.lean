import Derived.Test.YtbblckaplddggaaSa
namespace Go.Proofs.Ytbblckaplddggaa
open Go.RowKit

theorem len_i (x : Int) (w : World) (h0 : 0 ≤ x) (h1 : x ≤ 18446744073709551615) : Calls Try.prog 98 #[.int .u64 x] w fun e w' => e = .returned (.int .i64 (Lib.bitLen x.toNat)) ∧ w' = w := by
  have H := Lib.hid (len64_i x w h0 h1)
  go_enter Try.func98, Try.ntmps98
  go_wp2_with fail
  refine H.out.mono ?_
  rintro e w' ⟨rfl, rfl⟩
  go_wp2
  go_ret
  exact ⟨rfl, rfl⟩

/-- the power so far, in a box -/
structure PowAt (w W : World) (z : Int) (t : Bool) (A : Option Addr) (n c g q : Nat) (t' : Bool) (B : Option Addr) (m d : Nat) : Prop where
  env : Env1r w W t A n c
  hg : w.heap.size + 2 ≤ g
  box : Box W g (z ^ q) t' B m d
  f0 : W.frozen? ⟨g, 0, none⟩ = false
  f1 : W.frozen? ⟨g, 1, none⟩ = false
  sz : m ≤ 4096
theorem PowAt.next {w W w1 : World} {z : Int} {t : Bool} {A : Option Addr} {n c g q : Nat} {t' : Bool} {B : Option Addr} {m d : Nat} (h : PowAt w W z t A n c g q t' B m d) (hb : Below W.heap.size W w1) : PowAt w w1 z t A n c g q t' B m d :=
  ⟨h.env.next hb, h.hg, h.box.next hb, (hb.frozen (p := ⟨g, 0, none⟩) h.box.lt).trans h.f0, (hb.frozen (p := ⟨g, 1, none⟩) h.box.lt).trans h.f1, h.sz⟩
theorem frozen_two (W : World) (g : Nat) (u v : Value) (p : Addr) : ((W.setCell ⟨g, 0, none⟩ u).setCell ⟨g, 1, none⟩ v).frozen? p = W.frozen? p := by
  rw [World.frozen?_setCell, World.frozen?_setCell]
theorem size_two (W : World) (g : Nat) (u v : Value) : ((W.setCell ⟨g, 0, none⟩ u).setCell ⟨g, 1, none⟩ v).heap.size = W.heap.size := by simp [World.setCell]
theorem own_two {W : World} {g : Nat} {x y u v : Value} (h0 : W.cell? ⟨g, 0, none⟩ = some x) (h1 : W.cell? ⟨g, 1, none⟩ = some y) :
    ((W.setCell ⟨g, 0, none⟩ u).setCell ⟨g, 1, none⟩ v).cell? ⟨g, 0, none⟩ = some u ∧ ((W.setCell ⟨g, 0, none⟩ u).setCell ⟨g, 1, none⟩ v).cell? ⟨g, 1, none⟩ = some v := by
  have e : (W.setCell ⟨g, 0, none⟩ u).cell? ⟨g, 1, none⟩ = some y := by rw [World.cell?_setCell_other _ _ _ _ (by simp)]; exact h1
  exact ⟨by rw [World.cell?_setCell_other _ _ _ _ (by simp)]; exact World.cell?_setCell_same _ _ _ h0, World.cell?_setCell_same _ _ _ e⟩
theorem Res.two {W : World} {b g : Nat} (h : Res W b) (hne : g ≠ b) (u v : Value) : Res ((W.setCell ⟨g, 0, none⟩ u).setCell ⟨g, 1, none⟩ v) b :=
  ⟨by rw [size_two]; exact h.lt, cell_two hne h.r0, cell_two hne h.r1, by rw [frozen_two]; exact h.f0, by rw [frozen_two]; exact h.f1⟩
theorem Env1r.two {w W : World} {s : Bool} {A : Option Addr} {n c g : Nat} (h : Env1r w W s A n c) (hg : w.heap.size + 2 ≤ g) (u v : Value) : Env1r w ((W.setCell ⟨g, 0, none⟩ u).setCell ⟨g, 1, none⟩ v) s A n c :=
  ⟨by rw [size_two]; exact h.size, cell_two (by omega) h.a0, cell_two (by omega) h.a1, h.res.two (by omega) u v, below_store h.below (by omega) u v⟩
/-- a box is given another number -/
theorem Box.put {W : World} {b : Nat} {z z' : Int} {t t' : Bool} {A B : Option Addr} {n c m d : Nat} (h : Box W b z t A n c) (hi : Is W z' t' B m d) : Box ((W.setCell ⟨b, 0, none⟩ (.bool t')).setCell ⟨b, 1, none⟩ (.slice B m d)) b z' t' B m d :=
  ⟨by rw [size_two]; exact h.lt, (own_two h.c0 h.c1).1, (own_two h.c0 h.c1).2, hi.store h.c0 h.c1 _ _⟩
theorem PowAt.put {w W : World} {z : Int} {t : Bool} {A : Option Addr} {n c g q : Nat} {t' : Bool} {B : Option Addr} {m d : Nat} (h : PowAt w W z t A n c g q t' B m d) {q' : Nat} {t2 : Bool} {B2 : Option Addr} {m2 d2 : Nat}
    (hi : Is W (z ^ q') t2 B2 m2 d2) (hl : m2 ≤ 4096) : PowAt w ((W.setCell ⟨g, 0, none⟩ (.bool t2)).setCell ⟨g, 1, none⟩ (.slice B2 m2 d2)) z t A n c g q' t2 B2 m2 d2 :=
  ⟨h.env.two h.hg _ _, h.hg, h.box.put hi, by rw [frozen_two]; exact h.f0, by rw [frozen_two]; exact h.f1, hl⟩
theorem Is.numIs {w : World} {z : Int} {t : Bool} {A : Option Addr} {n c : Nat} (h : Is w z t A n c) (hn : n ≤ 4096) : NumIs w z t A n c 0 :=
  ⟨fun _ => ⟨rfl, h.1, h.2.1, h.2.2.1, h.2.2.2⟩, fun hl => absurd (by rw [← h.2.1]; exact hn) hl⟩
theorem sz_of_len {z : Int} (h : (words z.natAbs).length ≤ 4096) : Sz z 4096 := words_len_le.1 h
theorem pow_len {z : Int} {p k : Nat} (hz : z ≠ 0) (hp : p ≤ k) (h : ¬ (words (z ^ p).natAbs).length ≤ 4096) : ¬ (words (z ^ k).natAbs).length ≤ 4096 := by
  intro hl
  apply h
  refine Nat.le_trans (words_mono ?_) hl
  rw [Int.natAbs_pow, Int.natAbs_pow]
  exact Nat.pow_le_pow_right (by omega) hp

theorem and_one (x : Nat) (h : x < 9223372036854775808) : bits BinOp.and IntKind.i64 (x : Int) 1 = ((x % 2 : Nat) : Int) := by
  show IntKind.i64.wrap ((BitVec.ofInt 64 (x : Int) &&& BitVec.ofInt 64 1).toNat : Int) = _
  rw [BitVec.toNat_and, BitVec.toNat_ofInt, BitVec.toNat_ofInt]
  rw [show (((x : Int) % ((2 ^ 64 : Nat) : Int)).toNat) = x by omega, show ((1 : Int) % ((2 ^ 64 : Nat) : Int)).toNat = 1 by decide, Nat.and_one_is_mod]
  exact IntWalk.i64_in _ (by omega)
theorem bit_at {K : Int} {k i : Nat} (h : K = (k : Int)) (hk : k < 131072) : bits BinOp.and IntKind.i64 (K / 2 ^ i) 1 = ((k / 2 ^ i % 2 : Nat) : Int) := by
  have e : K / 2 ^ i = ((k / 2 ^ i : Nat) : Int) := by rw [h, Int.natCast_ediv, Int.natCast_pow]; rfl
  rw [e, and_one _ (Nat.lt_of_le_of_lt (Nat.div_le_self _ _) (by omega))]

end Go.Proofs.Ytbblckaplddggaa

/- the small declarations of the texts of stage 8 that LargeDivides wants, by themselves (gen/light.py) -/
import Derived.Deep.RegionHeld3
import Derived.Test.YthjdnidapbhdlaaDoorRi
import Derived.Test.YthjdnidapbhdlaaDoorRc
import Derived.Test.YthjdnidapbhdlaaDoorMt
set_option maxRecDepth 100000
namespace Go.Proofs.YthjdnidapbhdlaaDoor
open Go.RowKit
section
variable {w W : World} {g : Nat} {t : Bool} {A : Option Addr} {n c : Nat}
/-- a variable of two cells, made behind w -/
structure Vb (w W : World) (g : Nat) (t : Bool) (A : Option Addr) (n c : Nat) : Prop where
  ge : w.heap.size ≤ g
  lt : g < W.heap.size
  c0 : W.cell? ⟨g, 0, none⟩ = some (.bool t)
  c1 : W.cell? ⟨g, 1, none⟩ = some (.slice A n c)
  f0 : W.frozen? ⟨g, 0, none⟩ = false
  f1 : W.frozen? ⟨g, 1, none⟩ = false
theorem frozen_pair (W : World) (g : Nat) (u v : Value) (p : Addr) : ((W.setCell ⟨g, 0, none⟩ u).setCell ⟨g, 1, none⟩ v).frozen? p = W.frozen? p := by rw [World.frozen?_setCell, World.frozen?_setCell]
theorem size_pair (W : World) (g : Nat) (u v : Value) : ((W.setCell ⟨g, 0, none⟩ u).setCell ⟨g, 1, none⟩ v).heap.size = W.heap.size := by simp [World.setCell]
/-- a store into it -/
theorem Vb.put (h : Vb w W g t A n c) (t' : Bool) (A' : Option Addr) (n' c' : Nat) : Vb w ((W.setCell ⟨g, 0, none⟩ (.bool t')).setCell ⟨g, 1, none⟩ (.slice A' n' c')) g t' A' n' c' := by
  have e : (W.setCell ⟨g, 0, none⟩ (.bool t')).cell? ⟨g, 1, none⟩ = some (.slice A n c) := by rw [World.cell?_setCell_other _ _ _ _ (by simp)]; exact h.c1
  exact ⟨h.ge, by rw [size_pair]; exact h.lt, by rw [World.cell?_setCell_other _ _ _ _ (by simp)]; exact World.cell?_setCell_same _ _ _ h.c0, World.cell?_setCell_same _ _ _ e, by rw [frozen_pair]; exact h.f0, by rw [frozen_pair]; exact h.f1⟩
end
/-- a number that is not too long -/
structure Iv (w : World) (z : Int) (t : Bool) (B : Option Addr) (m d : Nat) : Prop where
  is : Is w z t B m d
  sz : Sz z 4096
theorem cell_dr {W : World} {p : Addr} {v : Value} (h : W.cell? p = some v) : W.drew.cell? p = some v := h
/-- a small number, new -/
def NumV (w : World) (z : Int) (e : Ending) (w' : World) : Prop := ∃ t A n c, e = .returned (.agg #[.bool t, .slice A n c]) ∧ Iv w' z t A n c ∧ Below w.heap.size w w'
def IsB (x : Bool) (w : World) (e : Ending) (w' : World) : Prop := e = .returned (.bool x) ∧ Below w.heap.size w w'
theorem is_zero8 (w : World) : Is w 0 false none 0 0 := ⟨rfl, by rw [show (0 : Int).natAbs = 0 from rfl, words_zero]; rfl, by rw [show (0 : Int).natAbs = 0 from rfl, words_zero]; exact Rd.nil _, Nat.le_refl _, by omega⟩
/-- a variable that holds a number -/
structure Nvr (W : World) (g : Nat) (z : Int) (t : Bool) (A : Option Addr) (n c : Nat) : Prop where
  lt : g < W.heap.size
  c0 : W.cell? ⟨g, 0, none⟩ = some (.bool t)
  c1 : W.cell? ⟨g, 1, none⟩ = some (.slice A n c)
  f0 : W.frozen? ⟨g, 0, none⟩ = false
  f1 : W.frozen? ⟨g, 1, none⟩ = false
  is : Is W z t A n c
section
variable {W W' : World} {g : Nat} {z z' : Int} {t t' : Bool} {A A' : Option Addr} {n c n' c' : Nat}
theorem Nvr.next (h : Nvr W g z t A n c) (hs : Below W.heap.size W W') : Nvr W' g z t A n c :=
  ⟨Nat.lt_of_lt_of_le h.lt hs.size, (hs.cell (p := ⟨g, 0, none⟩) h.lt).trans h.c0, (hs.cell (p := ⟨g, 1, none⟩) h.lt).trans h.c1, (hs.frozen (p := ⟨g, 0, none⟩) h.lt).trans h.f0, (hs.frozen (p := ⟨g, 1, none⟩) h.lt).trans h.f1, h.is.below hs⟩
theorem Nvr.new (h : Is W z t A n c) : Nvr (W.alloc (.cells #[.bool t, .slice A n c] 24)) W.heap.size z t A n c :=
  ⟨by simp, by go_simp, by go_simp, by go_simp, by go_simp, h.below (below_alloc _ _)⟩
theorem Nvr.alloc (h : Nvr W g z t A n c) (o : Obj) : Nvr (W.alloc o) g z t A n c := h.next (below_alloc _ _)
theorem Nvr.put (h : Nvr W g z t A n c) (h' : Is W z' t' A' n' c') : Nvr ((W.setCell ⟨g, 0, none⟩ (.bool t')).setCell ⟨g, 1, none⟩ (.slice A' n' c')) g z' t' A' n' c' := by
  have v := Vb.put (w := { W with heap := #[] }) ⟨Nat.zero_le _, h.lt, h.c0, h.c1, h.f0, h.f1⟩ t' A' n' c'
  exact ⟨v.lt, v.c0, v.c1, v.f0, v.f1, h'.store h.c0 h.c1 _ _⟩
theorem Nvr.far (h : Nvr W g z t A n c) {g' : Nat} (hne : g' ≠ g) {x : Bool} {a : Option Addr} {i j : Nat} (h0 : W.cell? ⟨g', 0, none⟩ = some (.bool x)) (h1 : W.cell? ⟨g', 1, none⟩ = some (.slice a i j)) (u v : Value) : Nvr ((W.setCell ⟨g', 0, none⟩ u).setCell ⟨g', 1, none⟩ v) g z t A n c :=
  ⟨by rw [size_pair]; exact h.lt, cell_two hne h.c0, cell_two hne h.c1, by rw [frozen_pair]; exact h.f0, by rw [frozen_pair]; exact h.f1, h.is.store h0 h1 u v⟩
theorem Nvr.box (h : Nvr W g z t A n c) : Box W g z t A n c := ⟨h.lt, h.c0, h.c1, h.is⟩
end
/-- a variable of whatever representation -/
def Nwx (W : World) (g : Nat) (z : Int) : Prop := ∃ t A n c, Nvr W g z t A n c
theorem sz_of_le' {x y : Int} {k : Nat} (h0 : 0 ≤ x) (h : x ≤ y) (hy : Sz y k) : Sz x k := by
  have h1 : y.natAbs < pw k := hy
  show x.natAbs < pw k
  omega
theorem sz_one' {k : Nat} (hk : 1 ≤ k) : Sz 1 k := by
  have : pw 1 ≤ pw k := pw_le hk
  rw [show pw 1 = 4294967296 by unfold pw; decide] at this
  show (1 : Int).natAbs < pw k
  omega
theorem Nwx.next {W W' : World} {g : Nat} {z : Int} (h : Nwx W g z) (hs : Below W.heap.size W W') : Nwx W' g z := by
  obtain ⟨t, A, n, c, h⟩ := h
  exact ⟨t, A, n, c, h.next hs⟩
theorem Nwx.far {W : World} {g g' : Nat} {z z' : Int} {t : Bool} {A : Option Addr} {n c : Nat} (h : Nwx W g z) (h' : Nvr W g' z' t A n c) (hne : g' ≠ g) (u v : Value) : Nwx ((W.setCell ⟨g', 0, none⟩ u).setCell ⟨g', 1, none⟩ v) g z := by
  obtain ⟨t, A, n, c, h⟩ := h
  exact ⟨t, A, n, c, h.far hne h'.c0 h'.c1 u v⟩
theorem Nwx.lt {W : World} {g : Nat} {z : Int} (h : Nwx W g z) : g < W.heap.size := by
  obtain ⟨t, A, n, c, h⟩ := h
  exact h.lt
theorem Nvr.nw {W : World} {g : Nat} {z : Int} {t : Bool} {A : Option Addr} {n c : Nat} (h : Nvr W g z t A n c) : Nwx W g z := ⟨t, A, n, c, h⟩
theorem two_res {w W X : World} {g g' : Nat} {z z' y y' : Int} {t t' u u' : Bool} {A A' B B' : Option Addr} {n c n' c' m d m' d' : Nat} (h : Nvr W g y u B m d) (h' : Nvr W g' y' u' B' m' d') (hne : g ≠ g') (i : Is W z t A n c) (i' : Is W z' t' A' n' c') (hb : Below w.heap.size w W) (hg : w.heap.size ≤ g) (hg' : w.heap.size ≤ g')
    (hX : (((W.setCell ⟨g, 0, none⟩ (.bool t)).setCell ⟨g, 1, none⟩ (.slice A n c)).setCell ⟨g', 0, none⟩ (.bool t')).setCell ⟨g', 1, none⟩ (.slice A' n' c') = X) :
    X.cell? ⟨g, 0, none⟩ = some (.bool t) ∧ X.cell? ⟨g, 1, none⟩ = some (.slice A n c) ∧ X.cell? ⟨g', 0, none⟩ = some (.bool t') ∧ X.cell? ⟨g', 1, none⟩ = some (.slice A' n' c') ∧ Is X z t A n c ∧ Is X z' t' A' n' c' ∧ Below w.heap.size w X := by
  subst hX
  have k := h'.far hne h.c0 h.c1 (.bool t) (.slice A n c)
  have j := (h.put i).far (Ne.symm hne) k.c0 k.c1 (.bool t') (.slice A' n' c')
  have l := k.put (i'.store h.c0 h.c1 (.bool t) (.slice A n c))
  exact ⟨j.c0, j.c1, l.c0, l.c1, j.is, l.is, below_store (below_store hb hg _ _) hg' _ _⟩
theorem refOfV (z : Int) (w : World) (h1 : -9223372036854775808 ≤ z) (h2 : z < 9223372036854775808) : Calls Tryd.prog 14 #[.int .i64 z] w (NumV w z) :=
  (refOf_c z w h1 h2).mono fun e w' h => by
    obtain ⟨A, c, he, r1, r2, r3, r4⟩ := h
    refine ⟨_, A, _, c, he, ⟨⟨rfl, rfl, r1, r2, r3⟩, ?_⟩, r4⟩
    show z.natAbs < pw 4096
    have : pw 2 ≤ pw 4096 := pw_le (by omega)
    rw [show pw 2 = 18446744073709551616 by unfold pw; decide] at this
    omega
theorem sz_of_le {x y : Int} {k : Nat} (h0 : 0 ≤ x) (h : x ≤ y) (hy : Sz y k) : Sz x k := by
  have h1 : y.natAbs < pw k := hy
  show x.natAbs < pw k
  omega
theorem sz_rest {x m : Int} {k : Nat} (hm : 0 < m) (hs : Sz m k) : Sz (x % m) k := by
  have h1 := Int.emod_nonneg x (show m ≠ 0 by omega)
  have h2 := Int.emod_lt_of_pos x hm
  exact sz_of_le' h1 (by omega) hs
theorem nil_iff {w : World} {z : Int} {t : Bool} {A : Option Addr} {n c : Nat} (h : Is w z t A n c) : decide (n = 0) = decide (z = 0) := by
  rw [decide_eq_decide, h.2.1]
  constructor
  · intro e
    have h1 := words_len_le.1 (Nat.le_of_eq e)
    rw [pw_zero] at h1
    omega
  · rintro rfl
    rw [show (0 : Int).natAbs = 0 from rfl, words_zero]
    rfl
theorem Zero_z {w : World} {z : Int} {t : Bool} {A : Option Addr} {n c : Nat} (h : Is w z t A n c) : Calls Tryd.prog 54 #[.agg #[.bool t, .slice A n c]] w (IsB (decide (z = 0)) w) := by
  rw [← nil_iff h]
  exact zero_c t A n c w
end Go.Proofs.YthjdnidapbhdlaaDoor

import Derived.Test.YtbblckaplddggaaNf
import Derived.Test.YtbblckaplddggaaNh
import Derived.Test.YtbblckaplddggaaNr
import Derived.Laws.EntriesVeiled
set_option maxRecDepth 100000
namespace Go.Proofs.Ytbblckaplddggaa
open Go.RowKit Go.Shelf
section
variable {w w' W W' : World} {T b f : Nat} {caps : Array Value} {g : Int → Int} {Ev : World → Prop} {k k' zt zx zy za z : Int} {ta : Bool} {Aa : Option Addr} {na ca : Nat} {tt : Bool} {At : Option Addr} {nt ct : Nat} {t : Bool} {A : Option Addr} {n c : Nat} {t' : Bool} {A' : Option Addr} {n' c' : Nat} {e : Ending}
/-- the variable that holds the walker -/
structure Pp (W : World) (pb b : Nat) : Prop where
  ne : pb ≠ b
  lt : pb < W.heap.size
  c0 : W.cell? ⟨pb, 0, none⟩ = some (.pointer (some ⟨b, 0, none⟩))
theorem Pp.stp {pb : Nat} (h : Pp W pb b) (hs : Stp b W W') : Pp W' pb b := ⟨h.ne, Nat.lt_of_lt_of_le h.lt hs.size, (hs.cell (p := ⟨pb, 0, none⟩) h.lt h.ne).trans h.c0⟩
theorem Pp.below {pb : Nat} (h : Pp W pb b) (hs : Below W.heap.size W W') : Pp W' pb b := ⟨h.ne, Nat.lt_of_lt_of_le h.lt hs.size, (hs.cell (p := ⟨pb, 0, none⟩) h.lt).trans h.c0⟩
theorem Pp.kc {pb : Nat} (h : Pp W pb b) (hs : Kc W W') : Pp W' pb b := ⟨h.ne, Nat.lt_of_lt_of_le h.lt hs.1, hs.cell h.c0⟩
theorem Pp.two {pb p : Nat} (h : Pp W pb b) (hne : p ≠ pb) (u v : Value) : Pp ((W.setCell ⟨p, 0, none⟩ u).setCell ⟨p, 1, none⟩ v) pb b := ⟨h.ne, by rw [size_pair]; exact h.lt, cell_two hne h.c0⟩
/-- rests -/
theorem rests_c (b : Nat) (w : World) : Calls Try.prog 71 #[.pointer (some ⟨b, 0, none⟩)] w fun e w' =>
    e = .returned (.func (.func 102) #[] #[.pointer (some ⟨w.heap.size, 0, none⟩)]) ∧ Below w.heap.size w w' ∧ w.heap.size < w'.heap.size ∧ w'.cell? ⟨w.heap.size, 0, none⟩ = some (.pointer (some ⟨b, 0, none⟩)) := by
  have hmf : ∀ (fn : Fn) (first cap : Array Value) (w : World), (Instr.makeFunc fn first cap).run Try.prog w = .ok (.func fn first cap) w := fun _ _ _ _ => rfl
  go_enter Try.func71, Try.ntmps71
  go_wp2
  go_ret
  exact ⟨rfl, (Below.refl _ _).alloc (Nat.le_refl _) _, by simp, by go_simp⟩
/-- the iterator's two variables -/
def It0 (b : Nat) (T : Nat) (k : Int) (g : Int → Int) (w : World) (v6 v7 : Value) (W : World) : Prop :=
  ∃ p q k' t1 A1 n1 c1 t2 A2 n2 c2, v6 = .pointer (some ⟨p, 0, none⟩) ∧ v7 = .pointer (some ⟨q, 0, none⟩) ∧ Rp2 b k' w W p q (g 0) t1 A1 n1 c1 (g 1) t2 A2 n2 c2 ∧ St T k' ∧ (k' = 0 → k = 0)

/-- what the iterator yields -/
structure Rv where
  n : Nat
  t : Bool
  A : Option Addr
  len : Nat
  c : Nat
def Rv.encs (x : Rv) : Array Value := #[.int .i64 (x.n : Int), .agg #[.bool x.t, .slice x.A x.len x.c]]
def RvOk (P : Nat → Int) (pre : List Rv) (x : Rv) : Prop := x.n = pre.length + 1 ∧ x.len = (words (P (pre.length + 1)).natAbs).length
/-- the sequence that the iterator walks along -/
structure Sr (T : Nat) (g : Int → Int) (zt : Int) (P : Nat → Int) (N : Nat) : Prop where
  hT : T < pw 4096
  hN : N < 4611686018427387904
  p0 : P 0 = g 0
  p1 : P 1 = g 1
  nx : ∀ j, j < N → g (zt * P (j + 1) - P j) = P (j + 2)
  c1 : ∀ j, j < N → (zt * P (j + 1)).natAbs ≤ T
  c2 : ∀ j, j < N → (zt * P (j + 1) - P j).natAbs ≤ T
theorem St.none {T : Nat} {k : Int} (h : St T k) (hT : T < pw 4096) : k = 0 := h.elim id fun h => by omega
/-- an environment that stays through a caller's round, and through stores into new variables -/
structure Es (Ev : World → Prop) (D : Nat) : Prop where
  kc : ∀ W W', Ev W → Kc W W' → Ev W'
  two : ∀ (W : World) (p : Nat) (x : Bool) (a : Option Addr) (i j : Nat) (u v : Value), D ≤ p → W.cell? ⟨p, 0, none⟩ = some (.bool x) → W.cell? ⟨p, 1, none⟩ = some (.slice a i j) → Ev W → Ev ((W.setCell ⟨p, 0, none⟩ u).setCell ⟨p, 1, none⟩ v)
/-- the state of the iterator's loop -/
structure Lp (T b f : Nat) (caps : Array Value) (g : Int → Int) (Ev : World → Prop) (zt za : Int) (ta : Bool) (Aa : Option Addr) (na ca : Nat) (tt : Bool) (At : Option Addr) (nt ct : Nat) (w W : World) (pb p q : Nat) (z1 : Int) (t1 : Bool) (A1 : Option Addr) (n1 c1 : Nat) (z2 : Int) (t2 : Bool) (A2 : Option Addr) (n2 c2 : Nat) : Prop where
  ne : p ≠ q
  bl : b < w.heap.size
  pl : pb < w.heap.size
  ms : Ms T b f caps g Ev zt za ta Aa na ca tt At nt ct W 0
  pp : Pp W pb b
  vp : Vb w W p t1 A1 n1 c1
  vq : Vb w W q t2 A2 n2 c2
  v1 : Vn W 0 z1 t1 A1 n1 c1
  v2 : Vn W 0 z2 t2 A2 n2 c2
section
variable {pb p q : Nat} {z1 z2 z3 : Int} {t1 : Bool} {A1 : Option Addr} {n1 c1 : Nat} {t2 : Bool} {A2 : Option Addr} {n2 c2 : Nat} {t3 : Bool} {A3 : Option Addr} {n3 c3 : Nat}
theorem Lp.kc (h : Lp T b f caps g Ev zt za ta Aa na ca tt At nt ct w W pb p q z1 t1 A1 n1 c1 z2 t2 A2 n2 c2) (hk : Kc W W') (he : Ev W → Ev W') : Lp T b f caps g Ev zt za ta Aa na ca tt At nt ct w W' pb p q z1 t1 A1 n1 c1 z2 t2 A2 n2 c2 :=
  ⟨h.ne, h.bl, h.pl, h.ms.kc hk he, h.pp.kc hk, h.vp.kc hk, h.vq.kc hk, h.v1.kc hk, h.v2.kc hk⟩
theorem Lp.next (h : Lp T b f caps g Ev zt za ta Aa na ca tt At nt ct w W pb p q z1 t1 A1 n1 c1 z2 t2 A2 n2 c2) (hs : Stp b W W') (hm : Ms T b f caps g Ev zt za ta Aa na ca tt At nt ct W' 0) : Lp T b f caps g Ev zt za ta Aa na ca tt At nt ct w W' pb p q z1 t1 A1 n1 c1 z2 t2 A2 n2 c2 :=
  ⟨h.ne, h.bl, h.pl, hm, h.pp.stp hs, h.vp.next hs h.bl, h.vq.next hs h.bl, h.v1.next h.ms.cc hs id, h.v2.next h.ms.cc hs id⟩
theorem Lp.put (h : Lp T b f caps g Ev zt za ta Aa na ca tt At nt ct w W pb p q z1 t1 A1 n1 c1 z2 t2 A2 n2 c2) (hE : Es Ev w.heap.size) (v3 : Vn W 0 z3 t3 A3 n3 c3) :
    Lp T b f caps g Ev zt za ta Aa na ca tt At nt ct w (st2 (st2 W p t2 A2 n2 c2) q t3 A3 n3 c3) pb p q z2 t2 A2 n2 c2 z3 t3 A3 n3 c3 := by
  have bl := h.bl
  have pl := h.pl
  have gp := h.vp.ge
  have gq := h.vq.ge
  have vq := h.vq.far h.ne (.bool t2) (.slice A2 n2 c2)
  have m1 := h.ms.two (u := .bool t2) (v := .slice A2 n2 c2) (by omega) h.vp.c0 h.vp.c1 (hE.two _ _ _ _ _ _ _ _ gp h.vp.c0 h.vp.c1 h.ms.ev)
  have m2 := m1.two (u := .bool t3) (v := .slice A3 n3 c3) (by omega) vq.c0 vq.c1 (hE.two _ _ _ _ _ _ _ _ gq vq.c0 vq.c1 m1.ev)
  exact ⟨h.ne, bl, pl, m2, (h.pp.two (by omega) _ _).two (by omega) _ _, (h.vp.put _ _ _ _).far (Ne.symm h.ne) _ _, vq.put _ _ _ _, (h.v2.two h.vp.c0 h.vp.c1 _ _).two vq.c0 vq.c1 _ _, (v3.two h.vp.c0 h.vp.c1 _ _).two vq.c0 vq.c1 _ _⟩
theorem Lp.put' (h : Lp T b f caps g Ev zt za ta Aa na ca tt At nt ct w W pb p q z1 t1 A1 n1 c1 z2 t2 A2 n2 c2) (hE : Es Ev w.heap.size) (v3 : Vn W 0 z3 t3 A3 n3 c3) :
    Lp T b f caps g Ev zt za ta Aa na ca tt At nt ct w (st2 (st2 W q t3 A3 n3 c3) p t2 A2 n2 c2) pb p q z2 t2 A2 n2 c2 z3 t3 A3 n3 c3 := by
  have bl := h.bl
  have pl := h.pl
  have gp := h.vp.ge
  have gq := h.vq.ge
  have vp := h.vp.far (Ne.symm h.ne) (.bool t3) (.slice A3 n3 c3)
  have m1 := h.ms.two (u := .bool t3) (v := .slice A3 n3 c3) (by omega) h.vq.c0 h.vq.c1 (hE.two _ _ _ _ _ _ _ _ gq h.vq.c0 h.vq.c1 h.ms.ev)
  have m2 := m1.two (u := .bool t2) (v := .slice A2 n2 c2) (by omega) vp.c0 vp.c1 (hE.two _ _ _ _ _ _ _ _ gp vp.c0 vp.c1 m1.ev)
  exact ⟨h.ne, bl, pl, m2, (h.pp.two (by omega) _ _).two (by omega) _ _, vp.put _ _ _ _, (h.vq.put _ _ _ _).far h.ne _ _, (h.v2.two h.vq.c0 h.vq.c1 _ _).two vp.c0 vp.c1 _ _, (v3.two h.vq.c0 h.vq.c1 _ _).two vp.c0 vp.c1 _ _⟩
theorem Lp.sto (h : Lp T b f caps g Ev zt za ta Aa na ca tt At nt ct w W pb p q z1 t1 A1 n1 c1 z2 t2 A2 n2 c2) {W0 : World} {D : Nat} (hD : D ≤ w.heap.size) (hs : Sto D b W0 W) {u1 u2 u3 u4 : Value} : Sto D b W0 (((W.setCell ⟨p, 0, none⟩ u1).setCell ⟨p, 1, none⟩ u2).setCell ⟨q, 0, none⟩ u3 |>.setCell ⟨q, 1, none⟩ u4) := by
  have bl := h.bl
  have gp := h.vp.ge
  have gq := h.vq.ge
  exact (hs.two (by omega) (by omega) _ _).two (by omega) (by omega) _ _
theorem Lp.sto' (h : Lp T b f caps g Ev zt za ta Aa na ca tt At nt ct w W pb p q z1 t1 A1 n1 c1 z2 t2 A2 n2 c2) {W0 : World} {D : Nat} (hD : D ≤ w.heap.size) (hs : Sto D b W0 W) {u1 u2 u3 u4 : Value} : Sto D b W0 (((W.setCell ⟨q, 0, none⟩ u1).setCell ⟨q, 1, none⟩ u2).setCell ⟨p, 0, none⟩ u3 |>.setCell ⟨p, 1, none⟩ u4) := by
  have bl := h.bl
  have gp := h.vp.ge
  have gq := h.vq.ge
  exact (hs.two (by omega) (by omega) _ _).two (by omega) (by omega) _ _
end
structure LRel (T b f : Nat) (caps : Array Value) (g : Int → Int) (Ev : World → Prop) (zt za : Int) (ta : Bool) (Aa : Option Addr) (na ca : Nat) (tt : Bool) (At : Option Addr) (nt ct : Nat) (J : List Rv → World → Prop) (P : Nat → Int) (w : World) (pb p q : Nat) (v : Value) (W : World) : Prop where
  of : ∃ pre : List Rv, v = .int .i64 ((pre.length : Int) + 1) ∧ J pre W ∧ ∃ t1 A1 n1 c1 t2 A2 n2 c2, Lp T b f caps g Ev zt za ta Aa na ca tt At nt ct w W pb p q (P pre.length) t1 A1 n1 c1 (P (pre.length + 1)) t2 A2 n2 c2
end
end Go.Proofs.Ytbblckaplddggaa

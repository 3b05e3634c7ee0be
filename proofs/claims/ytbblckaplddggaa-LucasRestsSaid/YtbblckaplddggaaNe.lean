import Derived.Test.YtbblckaplddggaaNc
import Derived.Test.YtbblckaplddggaaSg
set_option maxRecDepth 100000
namespace Go.Proofs.Ytbblckaplddggaa
open Go.RowKit Go.Shelf

theorem cell_dr {W : World} {p : Addr} {v : Value} (h : W.cell? p = some v) : W.drew.cell? p = some v := h
/-- a small number, new -/
def NumV (w : World) (z : Int) (e : Ending) (w' : World) : Prop := ∃ t A n c, e = .returned (.agg #[.bool t, .slice A n c]) ∧ Iv w' z t A n c ∧ Below w.heap.size w w'
theorem OfV (z : Int) (w : World) (h1 : -9223372036854775808 ≤ z) (h2 : z < 9223372036854775808) : Calls Try.prog 53 #[.int .i64 z] w (NumV w z) :=
  (Of_c z w h1 h2).mono fun e w' h => by
    obtain ⟨A, c, he, r1, r2, r3, r4⟩ := h
    refine ⟨_, A, _, c, he, ⟨⟨rfl, rfl, r1, r2, r3⟩, ?_⟩, r4⟩
    show z.natAbs < pw 4096
    have : pw 2 ≤ pw 4096 := pw_le (by omega)
    rw [show pw 2 = 18446744073709551616 by unfold pw; decide] at this
    omega
section
variable {w w' W W' : World} {T b f : Nat} {caps : Array Value} {g : Int → Int} {Ev : World → Prop} {k k' zt zx zy za z : Int} {ta : Bool} {Aa : Option Addr} {na ca : Nat} {tt : Bool} {At : Option Addr} {nt ct : Nat} {t : Bool} {A : Option Addr} {n c : Nat} {t' : Bool} {A' : Option Addr} {n' c' : Nat} {e : Ending}
theorem Vb.new1 (w W : World) (o : Obj) (t : Bool) (A : Option Addr) (n c : Nat) (h : w.heap.size ≤ W.heap.size) : Vb w ((W.alloc o).alloc (.cells #[.bool t, .slice A n c] 24)) (W.heap.size + 1) t A n c := by
  have := Vb.new w (W.alloc o) t A n c (by simp; omega)
  rwa [World.size_alloc] at this
/-- the variables of at: two results, the two numbers -/
structure AtV (T b f : Nat) (caps : Array Value) (g : Int → Int) (Ev : World → Prop) (zt za : Int) (ta : Bool) (Aa : Option Addr) (na ca : Nat) (tt : Bool) (At : Option Addr) (nt ct : Nat) (k : Int) (w W : World) (p q : Nat) (k' zl zh : Int) (tl : Bool) (Al : Option Addr) (nl cl : Nat) (th : Bool) (Ah : Option Addr) (nh ch : Nat) : Prop where
  ne : p ≠ q
  stp : Stp b w W
  ms : Ms T b f caps g Ev zt za ta Aa na ca tt At nt ct W k'
  r4 : Vb w W w.heap.size false none 0 0
  r5 : Vb w W (w.heap.size + 1) false none 0 0
  gp : w.heap.size + 2 ≤ p
  gq : w.heap.size + 2 ≤ q
  vp : Vb w W p tl Al nl cl
  vq : Vb w W q th Ah nh ch
  z0 : k' = 0 → k = 0
  vl : Vn W k' zl tl Al nl cl
  vh : Vn W k' zh th Ah nh ch
/-- behind a call that made memory -/
theorem AtV.next {p q : Nat} {zl zh : Int} {tl : Bool} {Al : Option Addr} {nl cl : Nat} {th : Bool} {Ah : Option Addr} {nh ch : Nat} {k1 k2 : Int} (h : AtV T b f caps g Ev zt za ta Aa na ca tt At nt ct k w W p q k1 zl zh tl Al nl cl th Ah nh ch) (hb : b < w.heap.size) (hs : Stp b W W') (hm : Ms T b f caps g Ev zt za ta Aa na ca tt At nt ct W' k2) (hz : k2 = 0 → k1 = 0) :
    AtV T b f caps g Ev zt za ta Aa na ca tt At nt ct k w W' p q k2 zl zh tl Al nl cl th Ah nh ch :=
  ⟨h.ne, h.stp.trans hs, hm, h.r4.next hs hb, h.r5.next hs hb, h.gp, h.gq, h.vp.next hs hb, h.vq.next hs hb, fun e => h.z0 (hz e), h.vl.next h.ms.cc hs hz, h.vh.next h.ms.cc hs hz⟩
section
variable {p q : Nat} {zl zh : Int} {tl : Bool} {Al : Option Addr} {nl cl : Nat} {th : Bool} {Ah : Option Addr} {nh ch : Nat}
theorem Vn.two {W : World} {k z : Int} {t : Bool} {A : Option Addr} {n c : Nat} (h : Vn W k z t A n c) {g : Nat} {x : Bool} {a : Option Addr} {i j : Nat} (h0 : W.cell? ⟨g, 0, none⟩ = some (.bool x)) (h1 : W.cell? ⟨g, 1, none⟩ = some (.slice a i j)) (u v : Value) :
    Vn ((W.setCell ⟨g, 0, none⟩ u).setCell ⟨g, 1, none⟩ v) k z t A n c := fun e => (h e).two h0 h1 u v
/-- all that is known in front of the two stores -/
structure AtW (T b f : Nat) (caps : Array Value) (g : Int → Int) (Ev : World → Prop) (zt za : Int) (ta : Bool) (Aa : Option Addr) (na ca : Nat) (tt : Bool) (At : Option Addr) (nt ct : Nat) (k : Int) (w W : World) (k' zl zh : Int) (tl : Bool) (Al : Option Addr) (nl cl : Nat) (th : Bool) (Ah : Option Addr) (nh ch : Nat) : Prop where
  m0 : Ms T b f caps g Ev zt za ta Aa na ca tt At nt ct w k
  hz : w.heap.size + 2 ≤ W.heap.size
  stp : Stp b w W
  ms : Ms T b f caps g Ev zt za ta Aa na ca tt At nt ct W k'
  r4 : Vb w W w.heap.size false none 0 0
  r5 : Vb w W (w.heap.size + 1) false none 0 0
  z0 : k' = 0 → k = 0
  vl : Vn W k' zl tl Al nl cl
  vh : Vn W k' zh th Ah nh ch
theorem AtW.alloc (h : AtW T b f caps g Ev zt za ta Aa na ca tt At nt ct k w W k' zl zh tl Al nl cl th Ah nh ch) (o : Obj) : AtW T b f caps g Ev zt za ta Aa na ca tt At nt ct k w (W.alloc o) k' zl zh tl Al nl cl th Ah nh ch :=
  have hb := below_alloc W o
  ⟨h.m0, Nat.le_trans h.hz hb.size, h.stp.trans (Stp.of_below h.ms.cc.lt hb), h.ms.below hb, h.r4.below hb, h.r5.below hb, h.z0, h.vl.below hb, h.vh.below hb⟩
theorem AtW.two (h : AtW T b f caps g Ev zt za ta Aa na ca tt At nt ct k w W k' zl zh tl Al nl cl th Ah nh ch) {x : Bool} {a : Option Addr} {i j : Nat} (hp : w.heap.size + 2 ≤ p) (v : Vb w W p x a i j) (u1 u2 : Value) :
    AtW T b f caps g Ev zt za ta Aa na ca tt At nt ct k w ((W.setCell ⟨p, 0, none⟩ u1).setCell ⟨p, 1, none⟩ u2) k' zl zh tl Al nl cl th Ah nh ch := by
  have hl := h.m0.cc.lt
  have hs := h.stp.two (g := p) (by omega) (by omega) u1 u2
  exact ⟨h.m0, by rw [size_pair]; exact h.hz, hs, h.ms.two (by omega) v.c0 v.c1 (h.m0.ea.stp _ _ _ h.m0.ev h.m0.cc hs), h.r4.far (by omega) _ _, h.r5.far (by omega) _ _, h.z0, h.vl.two v.c0 v.c1 _ _, h.vh.two v.c0 v.c1 _ _⟩
theorem AtW.v (h : AtW T b f caps g Ev zt za ta Aa na ca tt At nt ct k w W k' zl zh tl Al nl cl th Ah nh ch) (hne : p ≠ q) (hp : w.heap.size + 2 ≤ p) (hq : w.heap.size + 2 ≤ q) (vp : Vb w W p tl Al nl cl) (vq : Vb w W q th Ah nh ch) :
    AtV T b f caps g Ev zt za ta Aa na ca tt At nt ct k w W p q k' zl zh tl Al nl cl th Ah nh ch :=
  ⟨hne, h.stp, h.ms, h.r4, h.r5, hp, hq, vp, vq, h.z0, h.vl, h.vh⟩
abbrev st2 (W : World) (p : Nat) (t : Bool) (A : Option Addr) (n c : Nat) : World := (W.setCell ⟨p, 0, none⟩ (.bool t)).setCell ⟨p, 1, none⟩ (.slice A n c)
abbrev ob2 (t : Bool) (A : Option Addr) (n c : Nat) : Obj := .cells #[.bool t, .slice A n c] 24
theorem AtW.dd (h : AtW T b f caps g Ev zt za ta Aa na ca tt At nt ct k w W k' zl zh tl Al nl cl th Ah nh ch) : AtV T b f caps g Ev zt za ta Aa na ca tt At nt ct k w ((W.alloc (ob2 tl Al nl cl)).alloc (ob2 th Ah nh ch)) W.heap.size (W.heap.size + 1) k' zl zh tl Al nl cl th Ah nh ch := by
  have hz := h.hz
  exact ((h.alloc _).alloc _).v (by omega) hz (by omega) ((Vb.new w W tl Al nl cl (by omega)).below (below_alloc _ _)) (Vb.new1 w W _ th Ah nh ch (by omega))
theorem AtW.dd2 (h : AtW T b f caps g Ev zt za ta Aa na ca tt At nt ct k w W k' zl zh tl Al nl cl th Ah nh ch) : AtV T b f caps g Ev zt za ta Aa na ca tt At nt ct k w ((W.alloc (ob2 th Ah nh ch)).alloc (ob2 tl Al nl cl)) (W.heap.size + 1) W.heap.size k' zl zh tl Al nl cl th Ah nh ch := by
  have hz := h.hz
  exact ((h.alloc _).alloc _).v (by omega) (by omega) hz (Vb.new1 w W _ tl Al nl cl (by omega)) ((Vb.new w W th Ah nh ch (by omega)).below (below_alloc _ _))
theorem AtW.de (h : AtW T b f caps g Ev zt za ta Aa na ca tt At nt ct k w W k' zl zh tl Al nl cl th Ah nh ch) {x : Bool} {a : Option Addr} {i j : Nat} (hp : w.heap.size + 2 ≤ p) (v : Vb w W p x a i j) : AtV T b f caps g Ev zt za ta Aa na ca tt At nt ct k w ((st2 W p tl Al nl cl).alloc (ob2 th Ah nh ch)) p W.heap.size k' zl zh tl Al nl cl th Ah nh ch := by
  have hz := h.hz
  have hl := v.lt
  have e := size_pair W p (.bool tl) (.slice Al nl cl)
  refine ((h.two hp v _ _).alloc _).v (by omega) hp hz ((v.put _ _ _ _).below (below_alloc _ _)) ?_
  have := Vb.new w (st2 W p tl Al nl cl) th Ah nh ch (by rw [e]; omega)
  rwa [e] at this
theorem AtW.ed (h : AtW T b f caps g Ev zt za ta Aa na ca tt At nt ct k w W k' zl zh tl Al nl cl th Ah nh ch) {x : Bool} {a : Option Addr} {i j : Nat} (hq : w.heap.size + 2 ≤ q) (v : Vb w W q x a i j) : AtV T b f caps g Ev zt za ta Aa na ca tt At nt ct k w ((st2 W q th Ah nh ch).alloc (ob2 tl Al nl cl)) W.heap.size q k' zl zh tl Al nl cl th Ah nh ch := by
  have hz := h.hz
  have hl := v.lt
  have e := size_pair W q (.bool th) (.slice Ah nh ch)
  refine ((h.two hq v _ _).alloc _).v (by omega) hz hq ?_ ((v.put _ _ _ _).below (below_alloc _ _))
  have := Vb.new w (st2 W q th Ah nh ch) tl Al nl cl (by rw [e]; omega)
  rwa [e] at this
theorem AtW.ee (h : AtW T b f caps g Ev zt za ta Aa na ca tt At nt ct k w W k' zl zh tl Al nl cl th Ah nh ch) {x : Bool} {a : Option Addr} {i j : Nat} {x' : Bool} {a' : Option Addr} {i' j' : Nat} (hne : p ≠ q) (hp : w.heap.size + 2 ≤ p) (hq : w.heap.size + 2 ≤ q) (v : Vb w W p x a i j) (v' : Vb w W q x' a' i' j') : AtV T b f caps g Ev zt za ta Aa na ca tt At nt ct k w (st2 (st2 W p tl Al nl cl) q th Ah nh ch) p q k' zl zh tl Al nl cl th Ah nh ch :=
  ((h.two hp v _ _).two hq (v'.far hne _ _) _ _).v hne hp hq ((v.put _ _ _ _).far (Ne.symm hne) _ _) ((v'.far hne _ _).put _ _ _ _)
theorem AtW.ee2 (h : AtW T b f caps g Ev zt za ta Aa na ca tt At nt ct k w W k' zl zh tl Al nl cl th Ah nh ch) {x : Bool} {a : Option Addr} {i j : Nat} {x' : Bool} {a' : Option Addr} {i' j' : Nat} (hne : p ≠ q) (hp : w.heap.size + 2 ≤ p) (hq : w.heap.size + 2 ≤ q) (v : Vb w W p x a i j) (v' : Vb w W q x' a' i' j') : AtV T b f caps g Ev zt za ta Aa na ca tt At nt ct k w (st2 (st2 W q th Ah nh ch) p tl Al nl cl) p q k' zl zh tl Al nl cl th Ah nh ch :=
  ((h.two hq v' _ _).two hp (v.far (Ne.symm hne) _ _) _ _).v hne hp hq ((v.far (Ne.symm hne) _ _).put _ _ _ _) ((v'.put _ _ _ _).far hne _ _)
end
section
variable {p q : Nat} {zl zh z1 z2 : Int} {tl : Bool} {Al : Option Addr} {nl cl : Nat} {th : Bool} {Ah : Option Addr} {nh ch : Nat} {t1 : Bool} {A1 : Option Addr} {n1 c1 : Nat} {t2 : Bool} {A2 : Option Addr} {n2 c2 : Nat}
theorem AtV.mid (h : AtV T b f caps g Ev zt za ta Aa na ca tt At nt ct k w W p q k' zl zh tl Al nl cl th Ah nh ch) (m0 : Ms T b f caps g Ev zt za ta Aa na ca tt At nt ct w k) (v1 : Vn W k' z1 t1 A1 n1 c1) (v2 : Vn W k' z2 t2 A2 n2 c2) : AtW T b f caps g Ev zt za ta Aa na ca tt At nt ct k w W k' z1 z2 t1 A1 n1 c1 t2 A2 n2 c2 :=
  ⟨m0, by have := h.gp; have := h.vp.lt; omega, h.stp, h.ms, h.r4, h.r5, h.z0, v1, v2⟩
/-- both variables are written, in either order -/
theorem AtV.put (h : AtV T b f caps g Ev zt za ta Aa na ca tt At nt ct k w W p q k' zl zh tl Al nl cl th Ah nh ch) (m0 : Ms T b f caps g Ev zt za ta Aa na ca tt At nt ct w k) (v1 : Vn W k' z1 t1 A1 n1 c1) (v2 : Vn W k' z2 t2 A2 n2 c2) :
    AtV T b f caps g Ev zt za ta Aa na ca tt At nt ct k w (st2 (st2 W p t1 A1 n1 c1) q t2 A2 n2 c2) p q k' z1 z2 t1 A1 n1 c1 t2 A2 n2 c2 := (h.mid m0 v1 v2).ee h.ne h.gp h.gq h.vp h.vq
theorem AtV.put' (h : AtV T b f caps g Ev zt za ta Aa na ca tt At nt ct k w W p q k' zl zh tl Al nl cl th Ah nh ch) (m0 : Ms T b f caps g Ev zt za ta Aa na ca tt At nt ct w k) (v1 : Vn W k' z1 t1 A1 n1 c1) (v2 : Vn W k' z2 t2 A2 n2 c2) :
    AtV T b f caps g Ev zt za ta Aa na ca tt At nt ct k w (st2 (st2 W q t2 A2 n2 c2) p t1 A1 n1 c1) p q k' z1 z2 t1 A1 n1 c1 t2 A2 n2 c2 := (h.mid m0 v1 v2).ee2 h.ne h.gp h.gq h.vp h.vq
end
theorem bit_at2 {K : Int} {k i : Nat} (h : K = (k : Int)) (hk : k < 9223372036854775808) : bits BinOp.and IntKind.i64 (K / 2 ^ i) 1 = ((k / 2 ^ i % 2 : Nat) : Int) := by
  have e : K / 2 ^ i = ((k / 2 ^ i : Nat) : Int) := by rw [h, Int.natCast_ediv, Int.natCast_pow]; rfl
  rw [e, and_one _ (Nat.lt_of_le_of_lt (Nat.div_le_self _ _) hk)]
/-- a sequence that a walker walks along, up to N and N + 1 -/
structure Sq (T : Nat) (g : Int → Int) (zt : Int) (P : Nat → Int) (N : Nat) : Prop where
  p0 : P 0 = g 0
  p1 : P 1 = g 1
  ev : ∀ j, 2 * j ≤ N → g (P j * (P (j + 1) - (zt * P j - P (j + 1)))) = P (2 * j)
  od : ∀ j, 2 * j ≤ N → g ((P (j + 1) - P j) * (P (j + 1) + P j)) = P (2 * j + 1)
  nx : ∀ j, 2 * j + 1 ≤ N → g (zt * P (2 * j + 1) - P (2 * j)) = P (2 * j + 2)
  a1 : ∀ j, 2 * j ≤ N → (zt * P j).natAbs ≤ T
  a2 : ∀ j, 2 * j ≤ N → (zt * P j - P (j + 1)).natAbs ≤ T
  a3 : ∀ j, 2 * j ≤ N → (P (j + 1) - (zt * P j - P (j + 1))).natAbs ≤ T
  a4 : ∀ j, 2 * j ≤ N → (P j * (P (j + 1) - (zt * P j - P (j + 1)))).natAbs ≤ T
  b1 : ∀ j, 2 * j ≤ N → (P (j + 1) - P j).natAbs ≤ T
  b2 : ∀ j, 2 * j ≤ N → (P (j + 1) + P j).natAbs ≤ T
  b3 : ∀ j, 2 * j ≤ N → ((P (j + 1) - P j) * (P (j + 1) + P j)).natAbs ≤ T
  c1 : ∀ j, 2 * j + 1 ≤ N → (zt * P (2 * j + 1)).natAbs ≤ T
  c2 : ∀ j, 2 * j + 1 ≤ N → (zt * P (2 * j + 1) - P (2 * j)).natAbs ≤ T
section
variable {p q : Nat} {zl zh z1 z2 : Int} {tl : Bool} {Al : Option Addr} {nl cl : Nat} {th : Bool} {Ah : Option Addr} {nh ch : Nat}
/-- the results are written -/
theorem AtV.fin (h : AtV T b f caps g Ev zt za ta Aa na ca tt At nt ct k w W p q k' zl zh tl Al nl cl th Ah nh ch) (m0 : Ms T b f caps g Ev zt za ta Aa na ca tt At nt ct w k) {X : World} (hX : (st2 (st2 W w.heap.size tl Al nl cl) (w.heap.size + 1) th Ah nh ch).drew = X) :
    X.cell? ⟨w.heap.size, 0, none⟩ = some (.bool tl) ∧ X.cell? ⟨w.heap.size, 1, none⟩ = some (.slice Al nl cl) ∧ X.cell? ⟨w.heap.size + 1, 0, none⟩ = some (.bool th) ∧ X.cell? ⟨w.heap.size + 1, 1, none⟩ = some (.slice Ah nh ch) ∧
    Stp b w X ∧ Ms T b f caps g Ev zt za ta Aa na ca tt At nt ct X k' ∧ Vn X k' zl tl Al nl cl ∧ Vn X k' zh th Ah nh ch := by
  have hl := m0.cc.lt
  have hg := h.gp
  have hpl := h.vp.lt
  have s1 := h.stp.two (g := w.heap.size) (Nat.le_refl _) (by omega) (.bool tl) (.slice Al nl cl)
  have r5 := h.r5.far (g' := w.heap.size) (by omega) (.bool tl) (.slice Al nl cl)
  have m1 := h.ms.two (p := w.heap.size) (by omega) h.r4.c0 h.r4.c1 (m0.ea.stp _ _ _ m0.ev m0.cc s1)
  have s2 := s1.two (g := w.heap.size + 1) (by omega) (by omega) (.bool th) (.slice Ah nh ch)
  have m2 := m1.two (p := w.heap.size + 1) (by omega) r5.c0 r5.c1 (m0.ea.stp _ _ _ m0.ev m0.cc s2)
  have y4 := (h.r4.put tl Al nl cl).far (g' := w.heap.size + 1) (by simp) (.bool th) (.slice Ah nh ch)
  have y5 := r5.put th Ah nh ch
  have v1 := (h.vl.two h.r4.c0 h.r4.c1 (.bool tl) (.slice Al nl cl)).two r5.c0 r5.c1 (.bool th) (.slice Ah nh ch)
  have v2 := (h.vh.two h.r4.c0 h.r4.c1 (.bool tl) (.slice Al nl cl)).two r5.c0 r5.c1 (.bool th) (.slice Ah nh ch)
  subst hX
  exact ⟨cell_dr y4.c0, cell_dr y4.c1, cell_dr y5.c0, cell_dr y5.c1, s2.trans (Stp.of_below (m2.cc.lt) (Below.refl _ _).drew), m2.below (Below.refl _ _).drew, v1.below (Below.refl _ _).drew, v2.below (Below.refl _ _).drew⟩
end
end
end Go.Proofs.Ytbblckaplddggaa

import Derived.Test.YteabokkofoomkaaCak
import Derived.Test.YteabokkofoomkaaCal
import Derived.Test.YteabokkofoomkaaCaj
import Derived.Laws.EntriesVeiled
set_option maxRecDepth 100000
namespace Go.Proofs.Yteabokkofoomkaa
open Go.RowKit Go.Shelf
theorem cell_dr {W : World} {p : Addr} {v : Value} (h : W.cell? p = some v) : W.drew.cell? p = some v := h
def NumV (w : World) (z : Int) (e : Ending) (w' : World) : Prop := ∃ t A n c, e = .returned (.agg #[.bool t, .slice A n c]) ∧ Iv w' z t A n c ∧ Below w.heap.size w w'
theorem OfV (z : Int) (w : World) (h1 : -9223372036854775808 ≤ z) (h2 : z < 9223372036854775808) : Calls Try.prog 60 #[.int .i64 z] w (NumV w z) :=
 (Of_c z w h1 h2).mono fun e w' h => by
  obtain ⟨A, c, he, r1, r2, r3, r4⟩ := h
  refine ⟨_, A, _, c, he, ⟨⟨rfl, rfl, r1, r2, r3⟩, ?_⟩, r4⟩
  show z.natAbs < pw 4096
  have : pw 2 ≤ pw 4096 := pw_le (by omega)
  rw [show pw 2 = 18446744073709551616 by unfold pw; decide] at this
  omega
section
variable {w w' W W' : World} {T b f : Nat} {caps : Array Value} {g : Int → Int} {Ev : World → Prop} {k k' zt zx zy za z : Int} {ta : Bool} {Aa : Option Addr} {na ca : Nat} {tt : Bool} {At : Option Addr} {nt ct : Nat} {t : Bool} {A : Option Addr} {n c : Nat} {t' : Bool} {A' : Option Addr} {n' c' : Nat} {e : Ending}
theorem Vb.new1 (w W : World) (o : Obj) (t : Bool) (A : Option Addr) (n c : Nat) (h : w.heap.size ≤ W.heap.size) : Vb w ((W.alloc o).alloc (.cells #[.bool t, .slice A n c] 24)) (W.heap.size + 1) t A n c := by
 have := Vb.new w (W.alloc o) t A n c (by simp; omega)
 rwa [World.size_alloc] at this
structure AtV (T b f : Nat) (caps : Array Value) (g : Int → Int) (Ev : World → Prop) (zt za : Int) (ta : Bool) (Aa : Option Addr) (na ca : Nat) (tt : Bool) (At : Option Addr) (nt ct : Nat) (k : Int) (w W : World) (p q : Nat) (k' zl zh : Int) (tl : Bool) (Al : Option Addr) (nl cl : Nat) (th : Bool) (Ah : Option Addr) (nh ch : Nat) : Prop where
 ne : p ≠ q
 stp : Stp b w W
 ms : Ms T b f caps g Ev zt za ta Aa na ca tt At nt ct W k'
 r4 : Vb w W w.heap.size false none 0 0
 r5 : Vb w W (w.heap.size + 1) false none 0 0
 gp : w.heap.size + 2 ≤ p
 gq : w.heap.size + 2 ≤ q
 vp : Vb w W p tl Al nl cl
 vq : Vb w W q th Ah nh ch
 z0 : k' = 0 → k = 0
 vl : Vn W k' zl tl Al nl cl
 vh : Vn W k' zh th Ah nh ch
theorem AtV.next {p q : Nat} {zl zh : Int} {tl : Bool} {Al : Option Addr} {nl cl : Nat} {th : Bool} {Ah : Option Addr} {nh ch : Nat} {k1 k2 : Int} (h : AtV T b f caps g Ev zt za ta Aa na ca tt At nt ct k w W p q k1 zl zh tl Al nl cl th Ah nh ch) (hb : b < w.heap.size) (hs : Stp b W W') (hm : Ms T b f caps g Ev zt za ta Aa na ca tt At nt ct W' k2) (hz : k2 = 0 → k1 = 0) :
 AtV T b f caps g Ev zt za ta Aa na ca tt At nt ct k w W' p q k2 zl zh tl Al nl cl th Ah nh ch :=
 ⟨h.ne, h.stp.trans hs, hm, h.r4.next hs hb, h.r5.next hs hb, h.gp, h.gq, h.vp.next hs hb, h.vq.next hs hb, fun e => h.z0 (hz e), h.vl.next h.ms.cc hs hz, h.vh.next h.ms.cc hs hz⟩
section
variable {p q : Nat} {zl zh : Int} {tl : Bool} {Al : Option Addr} {nl cl : Nat} {th : Bool} {Ah : Option Addr} {nh ch : Nat}
theorem Vn.two {W : World} {k z : Int} {t : Bool} {A : Option Addr} {n c : Nat} (h : Vn W k z t A n c) {g : Nat} {x : Bool} {a : Option Addr} {i j : Nat} (h0 : W.cell? ⟨g, 0, none⟩ = some (.bool x)) (h1 : W.cell? ⟨g, 1, none⟩ = some (.slice a i j)) (u v : Value) :
 Vn ((W.setCell ⟨g, 0, none⟩ u).setCell ⟨g, 1, none⟩ v) k z t A n c := fun e => (h e).two h0 h1 u v
structure AtW (T b f : Nat) (caps : Array Value) (g : Int → Int) (Ev : World → Prop) (zt za : Int) (ta : Bool) (Aa : Option Addr) (na ca : Nat) (tt : Bool) (At : Option Addr) (nt ct : Nat) (k : Int) (w W : World) (k' zl zh : Int) (tl : Bool) (Al : Option Addr) (nl cl : Nat) (th : Bool) (Ah : Option Addr) (nh ch : Nat) : Prop where
 m0 : Ms T b f caps g Ev zt za ta Aa na ca tt At nt ct w k
 hz : w.heap.size + 2 ≤ W.heap.size
 stp : Stp b w W
 ms : Ms T b f caps g Ev zt za ta Aa na ca tt At nt ct W k'
 r4 : Vb w W w.heap.size false none 0 0
 r5 : Vb w W (w.heap.size + 1) false none 0 0
 z0 : k' = 0 → k = 0
 vl : Vn W k' zl tl Al nl cl
 vh : Vn W k' zh th Ah nh ch
theorem AtW.alloc (h : AtW T b f caps g Ev zt za ta Aa na ca tt At nt ct k w W k' zl zh tl Al nl cl th Ah nh ch) (o : Obj) : AtW T b f caps g Ev zt za ta Aa na ca tt At nt ct k w (W.alloc o) k' zl zh tl Al nl cl th Ah nh ch :=
 have hb := below_alloc W o
 ⟨h.m0, Nat.le_trans h.hz hb.size, h.stp.trans (Stp.of_below h.ms.cc.lt hb), h.ms.below hb, h.r4.below hb, h.r5.below hb, h.z0, h.vl.below hb, h.vh.below hb⟩
theorem AtW.two (h : AtW T b f caps g Ev zt za ta Aa na ca tt At nt ct k w W k' zl zh tl Al nl cl th Ah nh ch) {x : Bool} {a : Option Addr} {i j : Nat} (hp : w.heap.size + 2 ≤ p) (v : Vb w W p x a i j) (u1 u2 : Value) :
 AtW T b f caps g Ev zt za ta Aa na ca tt At nt ct k w ((W.setCell ⟨p, 0, none⟩ u1).setCell ⟨p, 1, none⟩ u2) k' zl zh tl Al nl cl th Ah nh ch := by
 have hl := h.m0.cc.lt
 have hs := h.stp.two (g := p) (by omega) (by omega) u1 u2
 exact ⟨h.m0, by rw [size_pair]; exact h.hz, hs, h.ms.two (by omega) v.c0 v.c1 (h.m0.ea.stp _ _ _ h.m0.ev h.m0.cc hs), h.r4.far (by omega) _ _, h.r5.far (by omega) _ _, h.z0, h.vl.two v.c0 v.c1 _ _, h.vh.two v.c0 v.c1 _ _⟩
theorem AtW.v (h : AtW T b f caps g Ev zt za ta Aa na ca tt At nt ct k w W k' zl zh tl Al nl cl th Ah nh ch) (hne : p ≠ q) (hp : w.heap.size + 2 ≤ p) (hq : w.heap.size + 2 ≤ q) (vp : Vb w W p tl Al nl cl) (vq : Vb w W q th Ah nh ch) :
 AtV T b f caps g Ev zt za ta Aa na ca tt At nt ct k w W p q k' zl zh tl Al nl cl th Ah nh ch :=
 ⟨hne, h.stp, h.ms, h.r4, h.r5, hp, hq, vp, vq, h.z0, h.vl, h.vh⟩
abbrev st2 (W : World) (p : Nat) (t : Bool) (A : Option Addr) (n c : Nat) : World := (W.setCell ⟨p, 0, none⟩ (.bool t)).setCell ⟨p, 1, none⟩ (.slice A n c)
abbrev ob2 (t : Bool) (A : Option Addr) (n c : Nat) : Obj := .cells #[.bool t, .slice A n c] 24
theorem AtW.dd (h : AtW T b f caps g Ev zt za ta Aa na ca tt At nt ct k w W k' zl zh tl Al nl cl th Ah nh ch) : AtV T b f caps g Ev zt za ta Aa na ca tt At nt ct k w ((W.alloc (ob2 tl Al nl cl)).alloc (ob2 th Ah nh ch)) W.heap.size (W.heap.size + 1) k' zl zh tl Al nl cl th Ah nh ch := by
 have hz := h.hz
 exact ((h.alloc _).alloc _).v (by omega) hz (by omega) ((Vb.new w W tl Al nl cl (by omega)).below (below_alloc _ _)) (Vb.new1 w W _ th Ah nh ch (by omega))
theorem AtW.dd2 (h : AtW T b f caps g Ev zt za ta Aa na ca tt At nt ct k w W k' zl zh tl Al nl cl th Ah nh ch) : AtV T b f caps g Ev zt za ta Aa na ca tt At nt ct k w ((W.alloc (ob2 th Ah nh ch)).alloc (ob2 tl Al nl cl)) (W.heap.size + 1) W.heap.size k' zl zh tl Al nl cl th Ah nh ch := by
 have hz := h.hz
 exact ((h.alloc _).alloc _).v (by omega) (by omega) hz (Vb.new1 w W _ tl Al nl cl (by omega)) ((Vb.new w W th Ah nh ch (by omega)).below (below_alloc _ _))
theorem AtW.de (h : AtW T b f caps g Ev zt za ta Aa na ca tt At nt ct k w W k' zl zh tl Al nl cl th Ah nh ch) {x : Bool} {a : Option Addr} {i j : Nat} (hp : w.heap.size + 2 ≤ p) (v : Vb w W p x a i j) : AtV T b f caps g Ev zt za ta Aa na ca tt At nt ct k w ((st2 W p tl Al nl cl).alloc (ob2 th Ah nh ch)) p W.heap.size k' zl zh tl Al nl cl th Ah nh ch := by
 have hz := h.hz
 have hl := v.lt
 have e := size_pair W p (.bool tl) (.slice Al nl cl)
 refine ((h.two hp v _ _).alloc _).v (by omega) hp hz ((v.put _ _ _ _).below (below_alloc _ _)) ?_
 have := Vb.new w (st2 W p tl Al nl cl) th Ah nh ch (by rw [e]; omega)
 rwa [e] at this
theorem AtW.ed (h : AtW T b f caps g Ev zt za ta Aa na ca tt At nt ct k w W k' zl zh tl Al nl cl th Ah nh ch) {x : Bool} {a : Option Addr} {i j : Nat} (hq : w.heap.size + 2 ≤ q) (v : Vb w W q x a i j) : AtV T b f caps g Ev zt za ta Aa na ca tt At nt ct k w ((st2 W q th Ah nh ch).alloc (ob2 tl Al nl cl)) W.heap.size q k' zl zh tl Al nl cl th Ah nh ch := by
 have hz := h.hz
 have hl := v.lt
 have e := size_pair W q (.bool th) (.slice Ah nh ch)
 refine ((h.two hq v _ _).alloc _).v (by omega) hz hq ?_ ((v.put _ _ _ _).below (below_alloc _ _))
 have := Vb.new w (st2 W q th Ah nh ch) tl Al nl cl (by rw [e]; omega)
 rwa [e] at this
theorem AtW.ee (h : AtW T b f caps g Ev zt za ta Aa na ca tt At nt ct k w W k' zl zh tl Al nl cl th Ah nh ch) {x : Bool} {a : Option Addr} {i j : Nat} {x' : Bool} {a' : Option Addr} {i' j' : Nat} (hne : p ≠ q) (hp : w.heap.size + 2 ≤ p) (hq : w.heap.size + 2 ≤ q) (v : Vb w W p x a i j) (v' : Vb w W q x' a' i' j') : AtV T b f caps g Ev zt za ta Aa na ca tt At nt ct k w (st2 (st2 W p tl Al nl cl) q th Ah nh ch) p q k' zl zh tl Al nl cl th Ah nh ch :=
 ((h.two hp v _ _).two hq (v'.far hne _ _) _ _).v hne hp hq ((v.put _ _ _ _).far (Ne.symm hne) _ _) ((v'.far hne _ _).put _ _ _ _)
theorem AtW.ee2 (h : AtW T b f caps g Ev zt za ta Aa na ca tt At nt ct k w W k' zl zh tl Al nl cl th Ah nh ch) {x : Bool} {a : Option Addr} {i j : Nat} {x' : Bool} {a' : Option Addr} {i' j' : Nat} (hne : p ≠ q) (hp : w.heap.size + 2 ≤ p) (hq : w.heap.size + 2 ≤ q) (v : Vb w W p x a i j) (v' : Vb w W q x' a' i' j') : AtV T b f caps g Ev zt za ta Aa na ca tt At nt ct k w (st2 (st2 W q th Ah nh ch) p tl Al nl cl) p q k' zl zh tl Al nl cl th Ah nh ch :=
 ((h.two hq v' _ _).two hp (v.far (Ne.symm hne) _ _) _ _).v hne hp hq ((v.far (Ne.symm hne) _ _).put _ _ _ _) ((v'.put _ _ _ _).far hne _ _)
end
section
variable {p q : Nat} {zl zh z1 z2 : Int} {tl : Bool} {Al : Option Addr} {nl cl : Nat} {th : Bool} {Ah : Option Addr} {nh ch : Nat} {t1 : Bool} {A1 : Option Addr} {n1 c1 : Nat} {t2 : Bool} {A2 : Option Addr} {n2 c2 : Nat}
theorem AtV.mid (h : AtV T b f caps g Ev zt za ta Aa na ca tt At nt ct k w W p q k' zl zh tl Al nl cl th Ah nh ch) (m0 : Ms T b f caps g Ev zt za ta Aa na ca tt At nt ct w k) (v1 : Vn W k' z1 t1 A1 n1 c1) (v2 : Vn W k' z2 t2 A2 n2 c2) : AtW T b f caps g Ev zt za ta Aa na ca tt At nt ct k w W k' z1 z2 t1 A1 n1 c1 t2 A2 n2 c2 :=
 ⟨m0, by have := h.gp; have := h.vp.lt; omega, h.stp, h.ms, h.r4, h.r5, h.z0, v1, v2⟩
theorem AtV.put (h : AtV T b f caps g Ev zt za ta Aa na ca tt At nt ct k w W p q k' zl zh tl Al nl cl th Ah nh ch) (m0 : Ms T b f caps g Ev zt za ta Aa na ca tt At nt ct w k) (v1 : Vn W k' z1 t1 A1 n1 c1) (v2 : Vn W k' z2 t2 A2 n2 c2) :
 AtV T b f caps g Ev zt za ta Aa na ca tt At nt ct k w (st2 (st2 W p t1 A1 n1 c1) q t2 A2 n2 c2) p q k' z1 z2 t1 A1 n1 c1 t2 A2 n2 c2 := (h.mid m0 v1 v2).ee h.ne h.gp h.gq h.vp h.vq
theorem AtV.put' (h : AtV T b f caps g Ev zt za ta Aa na ca tt At nt ct k w W p q k' zl zh tl Al nl cl th Ah nh ch) (m0 : Ms T b f caps g Ev zt za ta Aa na ca tt At nt ct w k) (v1 : Vn W k' z1 t1 A1 n1 c1) (v2 : Vn W k' z2 t2 A2 n2 c2) :
 AtV T b f caps g Ev zt za ta Aa na ca tt At nt ct k w (st2 (st2 W q t2 A2 n2 c2) p t1 A1 n1 c1) p q k' z1 z2 t1 A1 n1 c1 t2 A2 n2 c2 := (h.mid m0 v1 v2).ee2 h.ne h.gp h.gq h.vp h.vq
end
theorem bit_at2 {K : Int} {k i : Nat} (h : K = (k : Int)) (hk : k < 9223372036854775808) : bits BinOp.and IntKind.i64 (K / 2 ^ i) 1 = ((k / 2 ^ i % 2 : Nat) : Int) := by
 have e : K / 2 ^ i = ((k / 2 ^ i : Nat) : Int) := by rw [h, Int.natCast_ediv, Int.natCast_pow]; rfl
 rw [e, and_one _ (Nat.lt_of_le_of_lt (Nat.div_le_self _ _) hk)]
structure Sq (T : Nat) (g : Int → Int) (zt : Int) (P : Nat → Int) (N : Nat) : Prop where
 p0 : P 0 = g 0
 p1 : P 1 = g 1
 ev : ∀ j, 2 * j ≤ N → g (P j * (P (j + 1) - (zt * P j - P (j + 1)))) = P (2 * j)
 od : ∀ j, 2 * j ≤ N → g ((P (j + 1) - P j) * (P (j + 1) + P j)) = P (2 * j + 1)
 nx : ∀ j, 2 * j + 1 ≤ N → g (zt * P (2 * j + 1) - P (2 * j)) = P (2 * j + 2)
 a1 : ∀ j, 2 * j ≤ N → (zt * P j).natAbs ≤ T
 a2 : ∀ j, 2 * j ≤ N → (zt * P j - P (j + 1)).natAbs ≤ T
 a3 : ∀ j, 2 * j ≤ N → (P (j + 1) - (zt * P j - P (j + 1))).natAbs ≤ T
 a4 : ∀ j, 2 * j ≤ N → (P j * (P (j + 1) - (zt * P j - P (j + 1)))).natAbs ≤ T
 b1 : ∀ j, 2 * j ≤ N → (P (j + 1) - P j).natAbs ≤ T
 b2 : ∀ j, 2 * j ≤ N → (P (j + 1) + P j).natAbs ≤ T
 b3 : ∀ j, 2 * j ≤ N → ((P (j + 1) - P j) * (P (j + 1) + P j)).natAbs ≤ T
 c1 : ∀ j, 2 * j + 1 ≤ N → (zt * P (2 * j + 1)).natAbs ≤ T
 c2 : ∀ j, 2 * j + 1 ≤ N → (zt * P (2 * j + 1) - P (2 * j)).natAbs ≤ T
section
variable {p q : Nat} {zl zh z1 z2 : Int} {tl : Bool} {Al : Option Addr} {nl cl : Nat} {th : Bool} {Ah : Option Addr} {nh ch : Nat}
theorem AtV.fin (h : AtV T b f caps g Ev zt za ta Aa na ca tt At nt ct k w W p q k' zl zh tl Al nl cl th Ah nh ch) (m0 : Ms T b f caps g Ev zt za ta Aa na ca tt At nt ct w k) {X : World} (hX : (st2 (st2 W w.heap.size tl Al nl cl) (w.heap.size + 1) th Ah nh ch).drew = X) :
 X.cell? ⟨w.heap.size, 0, none⟩ = some (.bool tl) ∧ X.cell? ⟨w.heap.size, 1, none⟩ = some (.slice Al nl cl) ∧ X.cell? ⟨w.heap.size + 1, 0, none⟩ = some (.bool th) ∧ X.cell? ⟨w.heap.size + 1, 1, none⟩ = some (.slice Ah nh ch) ∧
 Stp b w X ∧ Ms T b f caps g Ev zt za ta Aa na ca tt At nt ct X k' ∧ Vn X k' zl tl Al nl cl ∧ Vn X k' zh th Ah nh ch := by
 have hl := m0.cc.lt
 have hg := h.gp
 have hpl := h.vp.lt
 have s1 := h.stp.two (g := w.heap.size) (Nat.le_refl _) (by omega) (.bool tl) (.slice Al nl cl)
 have r5 := h.r5.far (g' := w.heap.size) (by omega) (.bool tl) (.slice Al nl cl)
 have m1 := h.ms.two (p := w.heap.size) (by omega) h.r4.c0 h.r4.c1 (m0.ea.stp _ _ _ m0.ev m0.cc s1)
 have s2 := s1.two (g := w.heap.size + 1) (by omega) (by omega) (.bool th) (.slice Ah nh ch)
 have m2 := m1.two (p := w.heap.size + 1) (by omega) r5.c0 r5.c1 (m0.ea.stp _ _ _ m0.ev m0.cc s2)
 have y4 := (h.r4.put tl Al nl cl).far (g' := w.heap.size + 1) (by simp) (.bool th) (.slice Ah nh ch)
 have y5 := r5.put th Ah nh ch
 have v1 := (h.vl.two h.r4.c0 h.r4.c1 (.bool tl) (.slice Al nl cl)).two r5.c0 r5.c1 (.bool th) (.slice Ah nh ch)
 have v2 := (h.vh.two h.r4.c0 h.r4.c1 (.bool tl) (.slice Al nl cl)).two r5.c0 r5.c1 (.bool th) (.slice Ah nh ch)
 subst hX
 exact ⟨cell_dr y4.c0, cell_dr y4.c1, cell_dr y5.c0, cell_dr y5.c1, s2.trans (Stp.of_below (m2.cc.lt) (Below.refl _ _).drew), m2.below (Below.refl _ _).drew, v1.below (Below.refl _ _).drew, v2.below (Below.refl _ _).drew⟩
end
end
theorem Valid_i {w : World} {z : Int} {t : Bool} {A : Option Addr} {n c : Nat} (h : Iv w z t A n c) : Calls Try.prog 36 #[.agg #[.bool t, .slice A n c]] w fun e w' => e = .returned (.bool true) ∧ Below w.heap.size w w' := by
 obtain ⟨r, v, _, _, _⟩ := h.is.raw h.sz (Nat.le_refl _)
 have := valid_c t A n c _ w r
 rwa [v] at this
def IsB (x : Bool) (w : World) (e : Ending) (w' : World) : Prop := e = .returned (.bool x) ∧ Below w.heap.size w w'
theorem ord_cases (z z' : Int) : (ord z z' = -1 ∧ z < z') ∨ (ord z z' = 0 ∧ z = z') ∨ (ord z z' = 1 ∧ z' < z) := by
 rcases Int.lt_trichotomy z z' with h | h | h
 · exact .inl ⟨ord_lt h, h⟩
 · exact .inr (.inl ⟨ord_eq h, h⟩)
 · exact .inr (.inr ⟨ord_gt h, h⟩)
set_option maxHeartbeats 1000000 in
theorem Less_c {w : World} {z z' : Int} {t t' : Bool} {A A' : Option Addr} {n c n' c' : Nat} (h : Iv w z t A n c) (h' : Iv w z' t' A' n' c') :
 Calls Try.prog 58 #[.agg #[.bool t, .slice A n c], .agg #[.bool t', .slice A' n' c']] w (IsB (decide (z < z')) w) := by
 have E := Env2.start w t t' A A' n c n' c'
 have HC := Lib.hid (Cmp_is (k := 4096) (h.is.below E.below) (h'.is.below E.below) h.sz h'.sz (Nat.le_refl _))
 have HB := Lib.hid E.below
 rcases ord_cases z z' with ⟨o, hz⟩ | ⟨o, hz⟩ | ⟨o, hz⟩
 all_goals
  rw [o] at HC
  have HD := Lib.hid (show decide (z < z') = _ from by first | exact decide_eq_true hz | exact decide_eq_false (by omega))
  clear h h' E o hz
  go_enter Try.func58, Try.ntmps58
  go_wp2_with (refine HC.out.mono ?_; rintro e w1 ⟨rfl, hb⟩; have HB1 := Lib.hid (HB.out.trans (hb.mono HB.out.size)); clear hb)
  go_ret
  exact ⟨by rw [HD.out]; rfl, HB1.out⟩
set_option maxHeartbeats 1000000 in
theorem Equal_c {w : World} {z z' : Int} {t t' : Bool} {A A' : Option Addr} {n c n' c' : Nat} (h : Iv w z t A n c) (h' : Iv w z' t' A' n' c') :
 Calls Try.prog 59 #[.agg #[.bool t, .slice A n c], .agg #[.bool t', .slice A' n' c']] w (IsB (decide (z = z')) w) := by
 have E := Env2.start w t t' A A' n c n' c'
 have HC := Lib.hid (Cmp_is (k := 4096) (h.is.below E.below) (h'.is.below E.below) h.sz h'.sz (Nat.le_refl _))
 have HB := Lib.hid E.below
 rcases ord_cases z z' with ⟨o, hz⟩ | ⟨o, hz⟩ | ⟨o, hz⟩
 all_goals
  rw [o] at HC
  have HD := Lib.hid (show decide (z = z') = _ from by first | exact decide_eq_true hz | exact decide_eq_false (by omega))
  clear h h' E o hz
  go_enter Try.func59, Try.ntmps59
  go_wp2_with (refine HC.out.mono ?_; rintro e w1 ⟨rfl, hb⟩; have HB1 := Lib.hid (HB.out.trans (hb.mono HB.out.size)); clear hb)
  go_ret
  exact ⟨by rw [HD.out]; rfl, HB1.out⟩
end Go.Proofs.Yteabokkofoomkaa
set_option maxRecDepth 100000
namespace Go.Proofs.Yteabokkofoomkaa
open Go.RowKit
structure MinusAt (xs ys : List Nat) (k : Nat) (cs : List Nat) (y : Nat) : Prop where
 len : cs.length = xs.length
 sm : small cs
 eq : val (cs.take k) + val (ys.take k) = val (xs.take k) + pw k * y
 le : y ≤ 1
theorem MinusAt.start (xs ys : List Nat) : MinusAt xs ys 0 (List.replicate xs.length 0) 0 :=
 ⟨by simp, fun x hx => by have := List.eq_of_mem_replicate hx; omega, by simp [val], by omega⟩
theorem MinusAt.next {xs ys cs : List Nat} {k y r d : Nat} (h : MinusAt xs ys k cs y) (hk : k < xs.length) (hr : r < 4294967296) (hd : d ≤ 1) (key : r + ys.getD k 0 + y = xs.getD k 0 + 4294967296 * d) :
 MinusAt xs ys (k + 1) (cs.set k r) d := by
 refine ⟨by simp [h.len], small_set h.sm _ _ hr, ?_, hd⟩
 rw [val_take_step, val_take_step, val_take_step]
 have e1 : (cs.set k r).take k = cs.take k := List.take_set_of_le (Nat.le_refl _)
 have e2 : (cs.set k r).getD k 0 = r := by simp [List.getD_eq_getElem?_getD, h.len, hk]
 rw [e1, e2, pw_succ]
 have e := h.eq
 obtain ⟨X, hX⟩ : ∃ X, X = xs.getD k 0 := ⟨_, rfl⟩
 obtain ⟨Y, hY⟩ : ∃ Y, Y = ys.getD k 0 := ⟨_, rfl⟩
 rw [← hX, ← hY] at key ⊢
 obtain ⟨p, hp⟩ : ∃ p, p = pw k := ⟨_, rfl⟩
 rw [← hp] at e ⊢
 have m1 : p * (r + Y + y) = p * (X + 4294967296 * d) := by rw [key]
 have m2 : p * (4294967296 * d) = 4294967296 * p * d := by rw [← Nat.mul_assoc, Nat.mul_comm p]
 rw [Nat.mul_add, Nat.mul_add, Nat.mul_add, m2] at m1
 omega
theorem MinusAt.done {xs ys cs : List Nat} {y : Nat} (h : MinusAt xs ys xs.length cs y) (hl : ys.length ≤ xs.length) (hv : val ys ≤ val xs) : val cs = val xs - val ys := by
 have e := h.eq
 rw [take_of_len (by rw [h.len]; exact Nat.le_refl _), List.take_of_length_le hl, List.take_of_length_le (Nat.le_refl _)] at e
 have h2 := val_lt h.sm
 rw [h.len] at h2
 rcases Nat.eq_zero_or_pos y with h0 | h0
 · rw [h0, Nat.mul_zero] at e; omega
 · have : pw xs.length * 1 ≤ pw xs.length * y := Nat.mul_le_mul_left _ h0
   omega
set_option maxHeartbeats 1000000 in
set_option maxRecDepth 100000 in
theorem minus_c (A B : Option Addr) (n c m d : Nat) (xs ys : List Nat) (w : World) (ha : Rd w A n xs) (hb : Rd w B m ys) (hn : n ≤ 17592186044416) (hm : m ≤ n) (hv : val ys ≤ val xs) :
 Calls Try.prog 66 #[.slice A n c, .slice B m d] w (Made w n (val xs - val ys)) := by
 have HX := Lib.hid ha.len
 have HY := Lib.hid hb.len
 have HV := Lib.hid hv
 have hsx := ha.sm
 have hsy := hb.sm
 clear hv
 have hmk : ∀ w : World, (Instr.makeSlice 22 (.int .i64 (n : Int)) (.int .i64 (n : Int))).run Try.prog w = .ok (.slice (some ⟨w.heap.size, 0, none⟩) n n) (w.alloc (row (List.replicate n 0))) := mk_words n (by omega)
 have HK := Lib.hid (Bk.new0 w n)
 have HB := Lib.hid (below_alloc w (row (List.replicate n 0)))
 go_enter Try.func66, Try.ntmps66
 go_wp2
 go_loopw [6, 7] (fun cy v wr => ∃ k y : Nat, ∃ cs, cy = .int .u64 y ∧ v = .int .i64 k ∧ k ≤ n ∧ MinusAt xs ys k cs y ∧ Bk wr w.heap.size cs ∧ Below w.heap.size w wr) (fun _ v _ => n - (intOf v).toNat)
 case atStart => exact ⟨0, 0, List.replicate n 0, rfl, rfl, Nat.zero_le _, by rw [← HX.out]; exact MinusAt.start xs ys, HK.out, HB.out⟩
 case round =>
  obtain ⟨k, y, cs, rfl, rfl, hk, hP, hK, hG⟩ := hrel
  have hle := hP.le
  by_cases hkn : k < n
  · have hfx := hK.frozen k
    have hl : cs.length = n := hP.len.trans HX.out
    have hcx := hK.cell k (by omega)
    obtain ⟨b1, o1, rfl, _, hca⟩ := (ha.below hG).of (by omega)
    have hci := hca k hkn
    have hx1 := small_get hsx k
    obtain ⟨x, hx⟩ : ∃ x, x = xs.getD k 0 := ⟨_, rfl⟩
    rw [← hx] at hci hx1
    by_cases hkm : k < m
    · obtain ⟨b2, o2, rfl, _, hcb⟩ := (hb.below hG).of (by omega)
      have hdi := hcb k hkm
      have hy1 := small_get hsy k
      obtain ⟨z, hz⟩ : ∃ z, z = ys.getD k 0 := ⟨_, rfl⟩
      rw [← hz] at hdi hy1
      obtain ⟨T, hT⟩ : ∃ T, T = x + 4294967296 - y - z := ⟨_, rfl⟩
      have hT2 : (x : Int) + 4294967296 - y - z = (T : Int) := by omega
      have hT3 : T < 8589934592 := by omega
      obtain ⟨D, hD⟩ : ∃ D, D = 1 - T / 4294967296 := ⟨_, rfl⟩
      obtain ⟨R, hR⟩ : ∃ R, R = T % 4294967296 := ⟨_, rfl⟩
      have hR2 : R < 4294967296 := by omega
      have hD2 : D ≤ 1 := by omega
      have key : R + ys.getD k 0 + y = xs.getD k 0 + 4294967296 * D := by rw [← hz, ← hx]; omega
      have hnx := hP.next (by rw [HX.out]; exact hkn) hR2 hD2 key
      have hmask : bits .and .u64 (T : Int) 4294967295 = (R : Int) := by rw [u64_mask (by omega) (by omega)]; omega
      have hdv : 1 - (T : Int) / 4294967296 = (D : Int) := by omega
      have hbn := hK.set_ k R hR2
      have hgn := hG.setCell (p := ⟨w.heap.size, k, none⟩) (Nat.le_refl _) (.int .u32 (R : Int))
      have H1 := Lib.hid hnx
      have H2 := Lib.hid hbn
      have H3 := Lib.hid hgn
      clear hnx hbn hgn hP hK hG ha hb hsx hsy hT hx hca hD hR key hz hcb
      go_wp2
      go_roundw
      case measure => simp [intOf]; omega
      case rel => exact ⟨k + 1, D, _, by go_num, by go_num, by omega, H1.out, H2.out, H3.out⟩
    · have hz : 0 = ys.getD k 0 := by rw [List.getD_eq_getElem?_getD, List.getElem?_eq_none (by rw [HY.out]; omega)]; rfl
      obtain ⟨T, hT⟩ : ∃ T, T = x + 4294967296 - y := ⟨_, rfl⟩
      have hT2 : (x : Int) + 4294967296 - y = (T : Int) := by omega
      have hT3 : T < 8589934592 := by omega
      obtain ⟨D, hD⟩ : ∃ D, D = 1 - T / 4294967296 := ⟨_, rfl⟩
      obtain ⟨R, hR⟩ : ∃ R, R = T % 4294967296 := ⟨_, rfl⟩
      have hR2 : R < 4294967296 := by omega
      have hD2 : D ≤ 1 := by omega
      have key : R + ys.getD k 0 + y = xs.getD k 0 + 4294967296 * D := by rw [← hz, ← hx]; omega
      have hnx := hP.next (by rw [HX.out]; exact hkn) hR2 hD2 key
      have hmask : bits .and .u64 (T : Int) 4294967295 = (R : Int) := by rw [u64_mask (by omega) (by omega)]; omega
      have hdv : 1 - (T : Int) / 4294967296 = (D : Int) := by omega
      have hbn := hK.set_ k R hR2
      have hgn := hG.setCell (p := ⟨w.heap.size, k, none⟩) (Nat.le_refl _) (.int .u32 (R : Int))
      have H1 := Lib.hid hnx
      have H2 := Lib.hid hbn
      have H3 := Lib.hid hgn
      clear hnx hbn hgn hP hK hG ha hb hsx hsy hT hx hca hD hR key hz
      go_wp2
      go_roundw
      case measure => simp [intOf]; omega
      case rel => exact ⟨k + 1, D, _, by go_num, by go_num, by omega, H1.out, H2.out, H3.out⟩
  · obtain rfl : k = n := by omega
    have hd := (show MinusAt xs ys xs.length cs y by rw [HX.out]; exact hP).done (by rw [HX.out, HY.out]; exact hm) HV.out
    have H := Lib.hid (show ∃ cs, cs.length = k ∧ val cs = val xs - val ys ∧ Bk wr w.heap.size cs ∧ Below w.heap.size w wr from ⟨cs, hP.len.trans HX.out, hd, hK, hG⟩)
    clear hP hK hG hd ha hb hsx hsy hle
    go_wp2
    go_ret
    obtain ⟨cs, h1, h2, h3, h4⟩ := H.out
    exact ⟨cs, rfl, h1, h2, h3, h4⟩
theorem sgn_add_same (t : Bool) (X Y : Nat) : sgn t (X + Y) = sgn t X + sgn t Y := by cases t <;> simp [sgn] <;> omega
theorem sgn_sub_diff (t u : Bool) (h : t ≠ u) (X Y : Nat) (hl : Y ≤ X) : sgn t (X - Y) = sgn t X + sgn u Y := by cases t <;> cases u <;> simp [sgn] at h ⊢ <;> omega
set_option maxHeartbeats 1000000 in
set_option maxRecDepth 100000 in
theorem refAdd_same {w : World} {z z' : Int} {t : Bool} {A A' : Option Addr} {n c n' c' : Nat} (h : Is w z t A n c) (h' : Is w z' t A' n' c') (hn : n ≤ 8796093022208) (hn' : n' ≤ 8796093022208) :
 Calls Try.prog 45 #[.agg #[.bool t, .slice A n c], .agg #[.bool t, .slice A' n' c']] w (NumI w (z + z')) := by
 have HZ := Lib.hid (show sgn t (val (words z.natAbs) + val (words z'.natAbs)) = z + z' by
  rw [sgn_add_same, h.pos_sgn, h'.pos_sgn])
 have E := Env.start w t t A A' n c n' c'
 have HE := Lib.hid E
 have HI := Lib.hid (h.below E.below)
 have HJ := Lib.hid (h'.below E.below)
 clear E h h'
 have a0 := HE.out.a0
 have a1 := HE.out.a1
 have b0 := HE.out.b0
 have b1 := HE.out.b1
 have ht : (t == t) = true := by simp
 go_enter Try.func45, Try.ntmps45
 go_wp2_with fail
 generalize ((w.alloc (.cells #[.bool t, .slice A n c] 24)).alloc (.cells #[.bool t, .slice A' n' c'] 24)).alloc (.cells #[.bool false, .slice none 0 0] 24) = W at HE HI HJ a0 a1 b0 b1 ⊢
 have E0 := Lib.hid (HE.out.next (Below.refl _ _).drew)
 obtain ⟨N, hN, HP0⟩ := plus_c A A' n c n' c' _ _ W.drew (HI.out.2.2.1.drew) (HJ.out.2.2.1.drew) (by omega) (by omega)
 have HP := Lib.hid HP0
 clear HP0
 replace a0 : W.drew.cell? ⟨w.heap.size, 0, none⟩ = some (.bool t) := a0
 go_region_held3 (fun w' => w'.cell? ⟨w.heap.size, 0, none⟩ = some (.bool t) ∧ w'.cell? ⟨w.heap.size, 1, none⟩ = some (.slice A n c) ∧ w'.cell? ⟨w.heap.size + 1, 0, none⟩ = some (.bool t) ∧ w'.cell? ⟨w.heap.size + 1, 1, none⟩ = some (.slice A' n' c')) (first | exact ⟨a0, a1, b0, b1⟩ | exact ⟨cell_two (by omega) a0, cell_two (by omega) a1, cell_two (by omega) b0, cell_two (by omega) b1⟩)
  (first
   | (go_at_call 64
      (with_reducible refine (HP.out).mono ?_)
      rintro e w1 ⟨cs, rfl, hl, hv, hk, hb⟩
      have E1 := Lib.hid (E0.out.next hb)
      have a0 := E1.out.a0
      have a1 := E1.out.a1
      have b0 := E1.out.b0
      have b1 := E1.out.b1
      have K1 := Lib.hid (And.intro hk (And.intro hl hv))
      clear hk hl hv hb)
   | (go_at_call 21
      refine (Make_i (s := t) (xs := cs) (K1.out.2.1 ▸ K1.out.1.rd) (Nat.le_refl _) (by omega) (by omega)).mono ?_
      rintro e w2 ⟨t', B, m', d', rfl, hi, hb⟩
      rw [K1.out.2.2] at hi
      have E2 := Lib.hid (E1.out.next hb)
      have a0 := E2.out.a0
      have a1 := E2.out.a1
      have b0 := E2.out.b0
      have b1 := E2.out.b1
      have HH := Lib.hid hi
      have r0 := E2.out.r0
      have r1 := E2.out.r1
      have f0 := E2.out.f0
      have f1 := E2.out.f1
      clear hb hi))
 rw [HZ.out] at HH
 have r0 := E2.out.r0
 have r1 := E2.out.r1
 have f0 := E2.out.f0
 have f1 := E2.out.f1
 go_wp2
 refine bodyPost_ret (v := .agg #[.bool t', .slice B m' d']) (by simp [results, Try.results45, go_sem, r0, r1]) rfl ?_
 exact ⟨t', B, m', d', rfl, HH.out.store r0 r1 _ _, below_store E2.out.below (by omega) _ _⟩
set_option maxHeartbeats 1000000 in
set_option maxRecDepth 100000 in
theorem refAdd_diff {w : World} {z z' : Int} {t u : Bool} {A A' : Option Addr} {n c n' c' : Nat} (h : Is w z t A n c) (h' : Is w z' u A' n' c') (htu : t ≠ u) (hn : n ≤ 8796093022208) (hn' : n' ≤ 8796093022208) :
 Calls Try.prog 45 #[.agg #[.bool t, .slice A n c], .agg #[.bool u, .slice A' n' c']] w (NumI w (z + z')) := by
 have HL := Lib.hid h.2.1
 have HM := Lib.hid h'.2.1
 have P1 := Lib.hid h.pos_sgn
 have P2 := Lib.hid h'.pos_sgn
 have HTU := Lib.hid htu
 have ht : (t == u) = false := by rw [beq_eq_false_iff_ne]; exact htu
 clear htu
 have E := Env.start w t u A A' n c n' c'
 have HE := Lib.hid E
 have HI := Lib.hid (h.below E.below)
 have HJ := Lib.hid (h'.below E.below)
 clear E h h'
 have a0 := HE.out.a0
 have a1 := HE.out.a1
 have b0 := HE.out.b0
 have b1 := HE.out.b1
 go_enter Try.func45, Try.ntmps45
 go_wp2_with fail
 generalize ((w.alloc (.cells #[.bool t, .slice A n c] 24)).alloc (.cells #[.bool u, .slice A' n' c'] 24)).alloc (.cells #[.bool false, .slice none 0 0] 24) = W at HE HI HJ a0 a1 b0 b1 ⊢
 refine (order_c A A' n c n' c' _ _ W HI.out.2.2.1 HJ.out.2.2.1 (words_canon _) (words_canon _) (by omega) (by omega)).mono ?_
 rintro e w1 ⟨rfl, j, rfl⟩
 rw [val_words, val_words]
 have E00 := HE.out.drewN j
 have I0 := HI.out.below (below_drewN (Below.refl _ _) j)
 have J0 := HJ.out.below (below_drewN (Below.refl _ _) j)
 clear HE HI HJ a0 a1 b0 b1
 generalize W.drewN j = V at E00 I0 J0 ⊢
 have HE := Lib.hid E00
 have HI := Lib.hid I0
 have HJ := Lib.hid J0
 clear E00 I0 J0
 have a0 := HE.out.a0
 have a1 := HE.out.a1
 have b0 := HE.out.b0
 have b1 := HE.out.b1
 obtain ⟨o, ho⟩ : ∃ o, o = ord (z.natAbs : Int) (z'.natAbs : Int) := ⟨_, rfl⟩
 rw [← ho]
 rcases Nat.lt_or_ge z.natAbs z'.natAbs with hlt | hge
 · have o1 : o < 0 := by rw [ho, ord_lt (by omega)]; omega
   have HZ := Lib.hid (show sgn u (val (words z'.natAbs) - val (words z.natAbs)) = z + z' by
    rw [sgn_sub_diff u t (fun e => HTU.out e.symm) _ _ (by rw [val_words, val_words]; omega), P1.out, P2.out, Int.add_comm])
   have HV := Lib.hid (show val (words z.natAbs) ≤ val (words z'.natAbs) by rw [val_words, val_words]; omega)
   have HW := Lib.hid (show n ≤ n' by rw [HL.out, HM.out]; exact words_mono (by omega))
   clear ho hlt
   go_wp2_with fail
   have E0 := Lib.hid (HE.out.next (Below.refl _ _).drew)
   have HP := Lib.hid (minus_c A' A n' c' n c _ _ V.drew (HJ.out.2.2.1.drew) (HI.out.2.2.1.drew) (by omega) HW.out HV.out)
   replace a0 : V.drew.cell? ⟨w.heap.size, 0, none⟩ = some (.bool t) := a0
   go_region_held3 (fun w' => w'.cell? ⟨w.heap.size, 0, none⟩ = some (.bool t) ∧ w'.cell? ⟨w.heap.size, 1, none⟩ = some (.slice A n c) ∧ w'.cell? ⟨w.heap.size + 1, 0, none⟩ = some (.bool u) ∧ w'.cell? ⟨w.heap.size + 1, 1, none⟩ = some (.slice A' n' c')) (first | exact ⟨a0, a1, b0, b1⟩ | exact ⟨cell_two (by omega) a0, cell_two (by omega) a1, cell_two (by omega) b0, cell_two (by omega) b1⟩)
    (first
     | (go_at_call 66
        (with_reducible refine (HP.out).mono ?_)
        rintro e w1 ⟨cs, rfl, hl, hv, hk, hb⟩
        have E1 := Lib.hid (E0.out.next hb)
        have a0 := E1.out.a0
        have a1 := E1.out.a1
        have b0 := E1.out.b0
        have b1 := E1.out.b1
        have K1 := Lib.hid (And.intro hk (And.intro hl hv))
        clear hk hl hv hb)
     | (go_at_call 21
        refine (Make_i (s := u) (xs := cs) (K1.out.2.1 ▸ K1.out.1.rd) (Nat.le_refl _) (by omega) (by omega)).mono ?_
        rintro e w2 ⟨t', B, m', d', rfl, hi, hb⟩
        rw [K1.out.2.2] at hi
        have E2 := Lib.hid (E1.out.next hb)
        have a0 := E2.out.a0
        have a1 := E2.out.a1
        have b0 := E2.out.b0
        have b1 := E2.out.b1
        have HH := Lib.hid hi
        have r0 := E2.out.r0
        have r1 := E2.out.r1
        have f0 := E2.out.f0
        have f1 := E2.out.f1
        clear hb hi))
   rw [HZ.out] at HH
   have r0 := E2.out.r0
   have r1 := E2.out.r1
   have f0 := E2.out.f0
   have f1 := E2.out.f1
   go_wp2
   refine bodyPost_ret (v := .agg #[.bool t', .slice B m' d']) (by simp [results, Try.results45, go_sem, r0, r1]) rfl ?_
   exact ⟨t', B, m', d', rfl, HH.out.store r0 r1 _ _, below_store E2.out.below (by omega) _ _⟩
 · have o1 : 0 ≤ o := by
    rcases Nat.lt_or_ge z'.natAbs z.natAbs with h1 | h1
    · rw [ho, ord_gt (by omega)]; omega
    · rw [ho, ord_eq (by omega)]; omega
   have HZ := Lib.hid (show sgn t (val (words z.natAbs) - val (words z'.natAbs)) = z + z' by
    rw [sgn_sub_diff t u HTU.out _ _ (by rw [val_words, val_words]; omega), P1.out, P2.out])
   have HV := Lib.hid (show val (words z'.natAbs) ≤ val (words z.natAbs) by rw [val_words, val_words]; omega)
   have HW := Lib.hid (show n' ≤ n by rw [HL.out, HM.out]; exact words_mono (by omega))
   clear ho hge
   go_wp2_with fail
   have E0 := Lib.hid (HE.out.next (Below.refl _ _).drew)
   have HP := Lib.hid (minus_c A A' n c n' c' _ _ V.drew (HI.out.2.2.1.drew) (HJ.out.2.2.1.drew) (by omega) HW.out HV.out)
   replace a0 : V.drew.cell? ⟨w.heap.size, 0, none⟩ = some (.bool t) := a0
   go_region_held3 (fun w' => w'.cell? ⟨w.heap.size, 0, none⟩ = some (.bool t) ∧ w'.cell? ⟨w.heap.size, 1, none⟩ = some (.slice A n c) ∧ w'.cell? ⟨w.heap.size + 1, 0, none⟩ = some (.bool u) ∧ w'.cell? ⟨w.heap.size + 1, 1, none⟩ = some (.slice A' n' c')) (first | exact ⟨a0, a1, b0, b1⟩ | exact ⟨cell_two (by omega) a0, cell_two (by omega) a1, cell_two (by omega) b0, cell_two (by omega) b1⟩)
    (first
     | (go_at_call 66
        (with_reducible refine (HP.out).mono ?_)
        rintro e w1 ⟨cs, rfl, hl, hv, hk, hb⟩
        have E1 := Lib.hid (E0.out.next hb)
        have a0 := E1.out.a0
        have a1 := E1.out.a1
        have b0 := E1.out.b0
        have b1 := E1.out.b1
        have K1 := Lib.hid (And.intro hk (And.intro hl hv))
        clear hk hl hv hb)
     | (go_at_call 21
        refine (Make_i (s := t) (xs := cs) (K1.out.2.1 ▸ K1.out.1.rd) (Nat.le_refl _) (by omega) (by omega)).mono ?_
        rintro e w2 ⟨t', B, m', d', rfl, hi, hb⟩
        rw [K1.out.2.2] at hi
        have E2 := Lib.hid (E1.out.next hb)
        have a0 := E2.out.a0
        have a1 := E2.out.a1
        have b0 := E2.out.b0
        have b1 := E2.out.b1
        have HH := Lib.hid hi
        have r0 := E2.out.r0
        have r1 := E2.out.r1
        have f0 := E2.out.f0
        have f1 := E2.out.f1
        clear hb hi))
   rw [HZ.out] at HH
   have r0 := E2.out.r0
   have r1 := E2.out.r1
   have f0 := E2.out.f0
   have f1 := E2.out.f1
   go_wp2
   refine bodyPost_ret (v := .agg #[.bool t', .slice B m' d']) (by simp [results, Try.results45, go_sem, r0, r1]) rfl ?_
   exact ⟨t', B, m', d', rfl, HH.out.store r0 r1 _ _, below_store E2.out.below (by omega) _ _⟩
theorem refAdd_c {w : World} {z z' : Int} {t u : Bool} {A A' : Option Addr} {n c n' c' : Nat} (h : Is w z t A n c) (h' : Is w z' u A' n' c') (hn : n ≤ 8796093022208) (hn' : n' ≤ 8796093022208) :
 Calls Try.prog 45 #[.agg #[.bool t, .slice A n c], .agg #[.bool u, .slice A' n' c']] w (NumI w (z + z')) := by
 by_cases e : t = u
 · subst e; exact refAdd_same h h' hn hn'
 · exact refAdd_diff h h' e hn hn'
set_option maxHeartbeats 1000000 in
set_option maxRecDepth 100000 in
theorem refMul_c {w : World} {z z' : Int} {t u : Bool} {A A' : Option Addr} {n c n' c' : Nat} (h : Is w z t A n c) (h' : Is w z' u A' n' c') (hn : n ≤ 8796093022208) (hn' : n' ≤ 8796093022208) :
 Calls Try.prog 13 #[.agg #[.bool t, .slice A n c], .agg #[.bool u, .slice A' n' c']] w (NumI w (z * z')) := by
 have hmk : ∀ w : World, (Instr.makeSlice 22 (.int .i64 ((n : Int) + n')) (.int .i64 ((n : Int) + n'))).run Try.prog w = .ok (.slice (some ⟨w.heap.size, 0, none⟩) (n + n') (n + n')) (w.alloc (row (List.replicate (n + n') 0))) := mk_words (n + n') (by omega)
 have E := Env.start w t u A A' n c n' c'
 have HE := Lib.hid E
 have HI := Lib.hid (h.below E.below)
 have HJ := Lib.hid (h'.below E.below)
 clear E h h'
 have a0 := HE.out.a0
 have a1 := HE.out.a1
 have b0 := HE.out.b0
 have b1 := HE.out.b1
 go_enter Try.func13, Try.ntmps13
 go_wp2
 have hsz : ((((w.alloc (.cells #[.bool t, .slice A n c] 24)).alloc (.cells #[.bool u, .slice A' n' c'] 24)).alloc (.cells #[.bool false, .slice none 0 0] 24))).heap.size = w.heap.size + 1 + 1 + 1 := by simp
 generalize ((w.alloc (.cells #[.bool t, .slice A n c] 24)).alloc (.cells #[.bool u, .slice A' n' c'] 24)).alloc (.cells #[.bool false, .slice none 0 0] 24) = W at HE HI HJ hsz ⊢
 clear a0 a1 b0 b1
 obtain ⟨xs, hxs⟩ : ∃ xs, xs = words z.natAbs := ⟨_, rfl⟩
 obtain ⟨ys, hys⟩ : ∃ ys, ys = words z'.natAbs := ⟨_, rfl⟩
 have ra := HI.out.2.2.1
 have rb := HJ.out.2.2.1
 rw [← hxs] at ra
 rw [← hys] at rb
 have HZ := Lib.hid (show sgn (t != u) (val ys * val xs) = z * z' by rw [Nat.mul_comm, sgn_mul, hxs, hys, HI.out.pos_sgn, HJ.out.pos_sgn])
 clear hxs hys
 have HX := Lib.hid ra.len
 have HY := Lib.hid rb.len
 have RA := Lib.hid ra
 have RB := Lib.hid rb
 have hsx := ra.sm
 have hsy := rb.sm
 have K0 := Bk.new0 W (n + n')
 rw [hsz] at K0
 have HK := Lib.hid K0
 have HB := Lib.hid (below_alloc W (row (List.replicate (n + n') 0)))
 clear ra rb K0 HI HJ
 generalize W.alloc (row (List.replicate (n + n') 0)) = V at HK HB ⊢
 go_loopw [6] (fun v wr => ∃ i : Nat, ∃ cs, v = .int .i64 i ∧ i ≤ n ∧ RowAt ys xs i 0 cs 0 ∧ Bk wr (w.heap.size + 1 + 1 + 1) cs ∧ Below W.heap.size W wr) (fun v _ => n - (intOf v).toNat)
 case atStart => exact ⟨0, _, rfl, Nat.zero_le _, RowAt.start ys xs, by rw [HX.out, HY.out, Nat.add_comm n' n]; exact HK.out, HB.out⟩
 case round =>
  obtain ⟨i, cs, rfl, hi, hR, hK, hG⟩ := hrel
  have EN := Lib.hid (HE.out.next hG)
  have a1 := EN.out.a1
  have b1 := EN.out.b1
  by_cases hin : i < n
  · have H0 := Lib.hid hR
    have H1 := Lib.hid hK
    have H2 := Lib.hid hG
    clear hR hK hG
    go_wp2
    obtain ⟨wo, hwo⟩ : ∃ wo : World, wo = wr := ⟨_, rfl⟩
    rw [← hwo]
    rw [← hwo] at H1 H2
    clear hwo a1 b1 EN
    go_loopw [7, 8] (fun cy v wr => ∃ j y' : Nat, ∃ cs', cy = .int .u64 y' ∧ v = .int .i64 j ∧ j ≤ n' ∧ y' < 4294967296 ∧ RowAt ys xs i j cs' y' ∧ Bk wr (w.heap.size + 1 + 1 + 1) cs' ∧ Below W.heap.size W wr) (fun _ v _ => n' - (intOf v).toNat)
    case atStart => exact ⟨0, 0, cs, rfl, rfl, Nat.zero_le _, by omega, H0.out, H1.out, H2.out⟩
    case round =>
     obtain ⟨j, y', cs', rfl, rfl, hj, hy', hR, hK, hG⟩ := hrel
     have EN := Lib.hid (HE.out.next hG)
     have a1 := EN.out.a1
     have b1 := EN.out.b1
     have hl : cs'.length = n' + n := by rw [hR.len, HX.out, HY.out]
     by_cases hjn : j < n'
     · obtain ⟨p1, q1, hAe, _, hca⟩ := (RA.out.below hG).of (by omega)
       obtain ⟨p2, q2, hBe, _, hcb⟩ := (RB.out.below hG).of (by omega)
       subst hAe hBe
       have hci := hca i hin
       have hcj := hcb j hjn
       have hcx := hK.cell (i + j) (by omega)
       have hfx := hK.frozen (i + j)
       have hx1 := small_get hsx i
       have hy1 := small_get hsy j
       have hr1 := small_get hK.1 (i + j)
       have hnx := hR.next hsy hsx (by rw [HY.out]; exact hjn) (by rw [HX.out]; exact hin)
       obtain ⟨x, hx2⟩ : ∃ x, x = xs.getD i 0 := ⟨_, rfl⟩
       obtain ⟨y, hy2⟩ : ∃ y, y = ys.getD j 0 := ⟨_, rfl⟩
       obtain ⟨r, hr2⟩ : ∃ r, r = cs'.getD (i + j) 0 := ⟨_, rfl⟩
       rw [← hx2] at hci hx1 hnx
       rw [← hy2] at hcj hy1 hnx
       rw [← hr2] at hcx hr1 hnx
       have hml := mul_word_le hx1 hy1
       have hmul : ((x : Int) * (y : Int)) = ((x * y : Nat) : Int) := by simp
       obtain ⟨P, hP⟩ : ∃ P, P = x * y := ⟨_, rfl⟩
       rw [← hP] at hml hmul hnx
       obtain ⟨T, hT⟩ : ∃ T, T = P + r + y' := ⟨_, rfl⟩
       rw [← hT] at hnx
       obtain ⟨D, hD⟩ : ∃ D, D = T / 4294967296 := ⟨_, rfl⟩
       obtain ⟨R, hR0⟩ : ∃ R, R = T % 4294967296 := ⟨_, rfl⟩
       rw [← hD, ← hR0] at hnx
       have hR2 : R < 4294967296 := by omega
       have hD2 : D < 4294967296 := by omega
       have hTB : T < 18446744073709551616 := by omega
       have hT2 : (y' : Int) + ((P : Int) + (r : Int)) = (T : Int) := by omega
       have hmask : bits .and .u64 (T : Int) 4294967295 = (R : Int) := by rw [u64_mask (by omega) (by omega)]; omega
       have hdv : (T : Int) / 4294967296 = (D : Int) := by omega
       have G1 := Lib.hid hnx
       have G2 := Lib.hid hK
       have G3 := Lib.hid hG
       clear hT hP hx2 hy2 hr2 hnx hca hcb hR hK hG hl hsx hsy hD hR0
       go_wp2
       go_quiet (fail)
       have K2 := G2.out.drewN nq
       have B2 := below_drewN G3.out nq
       have hlc := G1.out.len
       rw [List.length_set, HX.out, HY.out] at hlc
       have hcx := K2.cell (i + j) (by omega)
       have hfx := K2.frozen (i + j)
       have hbn := K2.set_ (i + j) R hR2
       have hgn := B2.setCell (p := ⟨w.heap.size + 1 + 1 + 1, i + j, none⟩) (Nat.le_of_eq hsz) (.int .u32 (R : Int))
       generalize wr.drewN nq = v2 at hcx hfx hbn hgn ⊢
       have G4 := Lib.hid hbn
       have G5 := Lib.hid hgn
       clear K2 B2 hbn hgn hlc G2 G3 a1 b1
       go_wp2
       go_roundw
       case measure => simp [intOf]; omega
       case rel => exact ⟨j + 1, D, _, by go_num, by go_num, by omega, hD2, G1.out, G4.out, G5.out⟩
     · obtain rfl : j = n' := by omega
       have hcx := hK.cell (i + j) (by omega)
       have hfx := hK.frozen (i + j)
       have hbn := hK.set_ (i + j) y' hy'
       have hgn := hG.setCell (p := ⟨w.heap.size + 1 + 1 + 1, i + j, none⟩) (Nat.le_of_eq hsz) (.int .u32 (y' : Int))
       have hrn := (show RowAt ys xs i ys.length cs' y' by rw [HY.out]; exact hR).row (by rw [HX.out]; exact hin)
       rw [HY.out] at hrn
       have G1 := Lib.hid hrn
       have G2 := Lib.hid hbn
       have G3 := Lib.hid hgn
       clear hrn hbn hgn hR hK hG hl hsx hsy
       go_wp2
       go_roundw
       case measure => simp [intOf]; omega
       case rel => exact ⟨i + 1, _, by go_num, by omega, G1.out, G2.out, G3.out⟩
  · have hd := hR.done (by rw [HX.out]; omega)
    have hl : cs.length = n + n' := by rw [hR.len, HX.out, HY.out, Nat.add_comm]
    have RK := Lib.hid (show Rd wr (some ⟨w.heap.size + 1 + 1 + 1, 0, none⟩) (n + n') cs by rw [← hl]; exact hK.rd)
    have HD := Lib.hid hd
    have a0 := EN.out.a0
    have b0 := EN.out.b0
    have E1 := EN
    clear hd hl hR hK hG hsx hsy
    go_wp2_with fail
    refine (Make_i (s := t != u) (xs := cs) RK.out (Nat.le_refl _) (by omega) (by omega)).mono ?_
    rintro e w2 ⟨t', B, m', d', rfl, hi2, hb⟩
    rw [HD.out, HZ.out] at hi2
    have E2 := Lib.hid (E1.out.next hb)
    have HH := Lib.hid hi2
    have r0 := E2.out.r0
    have r1 := E2.out.r1
    have f0 := E2.out.f0
    have f1 := E2.out.f1
    clear hb hi2 a0 a1 b0 b1
    go_wp2
    refine bodyPost_ret (v := .agg #[.bool t', .slice B m' d']) (by simp [results, Try.results13, go_sem, r0, r1]) rfl ?_
    exact ⟨t', B, m', d', rfl, HH.out.store r0 r1 _ _, below_store E2.out.below (by omega) _ _⟩
end Go.Proofs.Yteabokkofoomkaa

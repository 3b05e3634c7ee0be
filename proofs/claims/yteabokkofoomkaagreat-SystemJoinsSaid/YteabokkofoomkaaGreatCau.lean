import Derived.Test.YteabokkofoomkaaGreatCat
import Derived.Test.YteabokkofoomkaaGreatCan
import Derived.Test.YteabokkofoomkaaGreatCah
import Derived.Test.YteabokkofoomkaaGreatCai
import Derived.Test.YteabokkofoomkaaGreatCaq
import Derived.Test.YteabokkofoomkaaGreatCar
import Derived.Laws.EntriesVeiled
import Derived.Deep.DeepCutAuto
set_option maxRecDepth 100000
namespace Go.Proofs.YteabokkofoomkaaGreat
open Go.RowKit Go.Shelf
theorem cell_dr {W : World} {p : Addr} {v : Value} (h : W.cell? p = some v) : W.drew.cell? p = some v := h
def NumV (w : World) (z : Int) (e : Ending) (w' : World) : Prop := ∃ t A n c, e = .returned (.agg #[.bool t, .slice A n c]) ∧ Iv w' z t A n c ∧ Below w.heap.size w w'
theorem OfV (z : Int) (w : World) (h1 : -9223372036854775808 ≤ z) (h2 : z < 9223372036854775808) : Calls Tryz.prog 97 #[.int .i64 z] w (NumV w z) :=
 (Of_c z w h1 h2).mono fun e w' h => by
  obtain ⟨A, c, he, r1, r2, r3, r4⟩ := h
  refine ⟨_, A, _, c, he, ⟨⟨rfl, rfl, r1, r2, r3⟩, ?_⟩, r4⟩
  show z.natAbs < pw 4096
  have : pw 2 ≤ pw 4096 := pw_le (by omega)
  rw [show pw 2 = 18446744073709551616 by unfold pw; decide] at this
  omega
section
variable {w w' W W' : World} {T b f : Nat} {caps : Array Value} {g : Int → Int} {Ev : World → Prop} {k k' zt zx zy za z : Int} {ta : Bool} {Aa : Option Addr} {na ca : Nat} {tt : Bool} {At : Option Addr} {nt ct : Nat} {t : Bool} {A : Option Addr} {n c : Nat} {t' : Bool} {A' : Option Addr} {n' c' : Nat} {e : Ending}
theorem Vb.new1 (w W : World) (o : Obj) (t : Bool) (A : Option Addr) (n c : Nat) (h : w.heap.size ≤ W.heap.size) : Vb w ((W.alloc o).alloc (.cells #[.bool t, .slice A n c] 58)) (W.heap.size + 1) t A n c := by
 have := Vb.new w (W.alloc o) t A n c (by simp; omega)
 rwa [World.size_alloc] at this
structure AtV (T b f : Nat) (caps : Array Value) (g : Int → Int) (Ev : World → Prop) (zt za : Int) (ta : Bool) (Aa : Option Addr) (na ca : Nat) (tt : Bool) (At : Option Addr) (nt ct : Nat) (k : Int) (w W : World) (p q : Nat) (k' zl zh : Int) (tl : Bool) (Al : Option Addr) (nl cl : Nat) (th : Bool) (Ah : Option Addr) (nh ch : Nat) : Prop where
 ne : p ≠ q
 stp : Stp b w W
 ms : Ms T b f caps g Ev zt za ta Aa na ca tt At nt ct W k'
 r4 : Vb w W w.heap.size false none 0 0
 r5 : Vb w W (w.heap.size + 1) false none 0 0
 gp : w.heap.size + 2 ≤ p
 gq : w.heap.size + 2 ≤ q
 vp : Vb w W p tl Al nl cl
 vq : Vb w W q th Ah nh ch
 z0 : k' = 0 → k = 0
 vl : Vn W k' zl tl Al nl cl
 vh : Vn W k' zh th Ah nh ch
theorem AtV.next {p q : Nat} {zl zh : Int} {tl : Bool} {Al : Option Addr} {nl cl : Nat} {th : Bool} {Ah : Option Addr} {nh ch : Nat} {k1 k2 : Int} (h : AtV T b f caps g Ev zt za ta Aa na ca tt At nt ct k w W p q k1 zl zh tl Al nl cl th Ah nh ch) (hb : b < w.heap.size) (hs : Stp b W W') (hm : Ms T b f caps g Ev zt za ta Aa na ca tt At nt ct W' k2) (hz : k2 = 0 → k1 = 0) :
 AtV T b f caps g Ev zt za ta Aa na ca tt At nt ct k w W' p q k2 zl zh tl Al nl cl th Ah nh ch :=
 ⟨h.ne, h.stp.trans hs, hm, h.r4.next hs hb, h.r5.next hs hb, h.gp, h.gq, h.vp.next hs hb, h.vq.next hs hb, fun e => h.z0 (hz e), h.vl.next h.ms.cc hs hz, h.vh.next h.ms.cc hs hz⟩
section
variable {p q : Nat} {zl zh : Int} {tl : Bool} {Al : Option Addr} {nl cl : Nat} {th : Bool} {Ah : Option Addr} {nh ch : Nat}
theorem Vn.two {W : World} {k z : Int} {t : Bool} {A : Option Addr} {n c : Nat} (h : Vn W k z t A n c) {g : Nat} {x : Bool} {a : Option Addr} {i j : Nat} (h0 : W.cell? ⟨g, 0, none⟩ = some (.bool x)) (h1 : W.cell? ⟨g, 1, none⟩ = some (.slice a i j)) (u v : Value) :
 Vn ((W.setCell ⟨g, 0, none⟩ u).setCell ⟨g, 1, none⟩ v) k z t A n c := fun e => (h e).two h0 h1 u v
structure AtW (T b f : Nat) (caps : Array Value) (g : Int → Int) (Ev : World → Prop) (zt za : Int) (ta : Bool) (Aa : Option Addr) (na ca : Nat) (tt : Bool) (At : Option Addr) (nt ct : Nat) (k : Int) (w W : World) (k' zl zh : Int) (tl : Bool) (Al : Option Addr) (nl cl : Nat) (th : Bool) (Ah : Option Addr) (nh ch : Nat) : Prop where
 m0 : Ms T b f caps g Ev zt za ta Aa na ca tt At nt ct w k
 hz : w.heap.size + 2 ≤ W.heap.size
 stp : Stp b w W
 ms : Ms T b f caps g Ev zt za ta Aa na ca tt At nt ct W k'
 r4 : Vb w W w.heap.size false none 0 0
 r5 : Vb w W (w.heap.size + 1) false none 0 0
 z0 : k' = 0 → k = 0
 vl : Vn W k' zl tl Al nl cl
 vh : Vn W k' zh th Ah nh ch
theorem AtW.alloc (h : AtW T b f caps g Ev zt za ta Aa na ca tt At nt ct k w W k' zl zh tl Al nl cl th Ah nh ch) (o : Obj) : AtW T b f caps g Ev zt za ta Aa na ca tt At nt ct k w (W.alloc o) k' zl zh tl Al nl cl th Ah nh ch :=
 have hb := below_alloc W o
 ⟨h.m0, Nat.le_trans h.hz hb.size, h.stp.trans (Stp.of_below h.ms.cc.lt hb), h.ms.below hb, h.r4.below hb, h.r5.below hb, h.z0, h.vl.below hb, h.vh.below hb⟩
theorem AtW.two (h : AtW T b f caps g Ev zt za ta Aa na ca tt At nt ct k w W k' zl zh tl Al nl cl th Ah nh ch) {x : Bool} {a : Option Addr} {i j : Nat} (hp : w.heap.size + 2 ≤ p) (v : Vb w W p x a i j) (u1 u2 : Value) :
 AtW T b f caps g Ev zt za ta Aa na ca tt At nt ct k w ((W.setCell ⟨p, 0, none⟩ u1).setCell ⟨p, 1, none⟩ u2) k' zl zh tl Al nl cl th Ah nh ch := by
 have hl := h.m0.cc.lt
 have hs := h.stp.two (g := p) (by omega) (by omega) u1 u2
 exact ⟨h.m0, by rw [size_pair]; exact h.hz, hs, h.ms.two (by omega) v.c0 v.c1 (h.m0.ea.stp _ _ _ h.m0.ev h.m0.cc hs), h.r4.far (by omega) _ _, h.r5.far (by omega) _ _, h.z0, h.vl.two v.c0 v.c1 _ _, h.vh.two v.c0 v.c1 _ _⟩
theorem AtW.v (h : AtW T b f caps g Ev zt za ta Aa na ca tt At nt ct k w W k' zl zh tl Al nl cl th Ah nh ch) (hne : p ≠ q) (hp : w.heap.size + 2 ≤ p) (hq : w.heap.size + 2 ≤ q) (vp : Vb w W p tl Al nl cl) (vq : Vb w W q th Ah nh ch) :
 AtV T b f caps g Ev zt za ta Aa na ca tt At nt ct k w W p q k' zl zh tl Al nl cl th Ah nh ch :=
 ⟨hne, h.stp, h.ms, h.r4, h.r5, hp, hq, vp, vq, h.z0, h.vl, h.vh⟩
abbrev st2 (W : World) (p : Nat) (t : Bool) (A : Option Addr) (n c : Nat) : World := (W.setCell ⟨p, 0, none⟩ (.bool t)).setCell ⟨p, 1, none⟩ (.slice A n c)
abbrev ob2 (t : Bool) (A : Option Addr) (n c : Nat) : Obj := .cells #[.bool t, .slice A n c] 58
theorem AtW.dd (h : AtW T b f caps g Ev zt za ta Aa na ca tt At nt ct k w W k' zl zh tl Al nl cl th Ah nh ch) : AtV T b f caps g Ev zt za ta Aa na ca tt At nt ct k w ((W.alloc (ob2 tl Al nl cl)).alloc (ob2 th Ah nh ch)) W.heap.size (W.heap.size + 1) k' zl zh tl Al nl cl th Ah nh ch := by
 have hz := h.hz
 exact ((h.alloc _).alloc _).v (by omega) hz (by omega) ((Vb.new w W tl Al nl cl (by omega)).below (below_alloc _ _)) (Vb.new1 w W _ th Ah nh ch (by omega))
theorem AtW.dd2 (h : AtW T b f caps g Ev zt za ta Aa na ca tt At nt ct k w W k' zl zh tl Al nl cl th Ah nh ch) : AtV T b f caps g Ev zt za ta Aa na ca tt At nt ct k w ((W.alloc (ob2 th Ah nh ch)).alloc (ob2 tl Al nl cl)) (W.heap.size + 1) W.heap.size k' zl zh tl Al nl cl th Ah nh ch := by
 have hz := h.hz
 exact ((h.alloc _).alloc _).v (by omega) (by omega) hz (Vb.new1 w W _ tl Al nl cl (by omega)) ((Vb.new w W th Ah nh ch (by omega)).below (below_alloc _ _))
theorem AtW.de (h : AtW T b f caps g Ev zt za ta Aa na ca tt At nt ct k w W k' zl zh tl Al nl cl th Ah nh ch) {x : Bool} {a : Option Addr} {i j : Nat} (hp : w.heap.size + 2 ≤ p) (v : Vb w W p x a i j) : AtV T b f caps g Ev zt za ta Aa na ca tt At nt ct k w ((st2 W p tl Al nl cl).alloc (ob2 th Ah nh ch)) p W.heap.size k' zl zh tl Al nl cl th Ah nh ch := by
 have hz := h.hz
 have hl := v.lt
 have e := size_pair W p (.bool tl) (.slice Al nl cl)
 refine ((h.two hp v _ _).alloc _).v (by omega) hp hz ((v.put _ _ _ _).below (below_alloc _ _)) ?_
 have := Vb.new w (st2 W p tl Al nl cl) th Ah nh ch (by rw [e]; omega)
 rwa [e] at this
theorem AtW.ed (h : AtW T b f caps g Ev zt za ta Aa na ca tt At nt ct k w W k' zl zh tl Al nl cl th Ah nh ch) {x : Bool} {a : Option Addr} {i j : Nat} (hq : w.heap.size + 2 ≤ q) (v : Vb w W q x a i j) : AtV T b f caps g Ev zt za ta Aa na ca tt At nt ct k w ((st2 W q th Ah nh ch).alloc (ob2 tl Al nl cl)) W.heap.size q k' zl zh tl Al nl cl th Ah nh ch := by
 have hz := h.hz
 have hl := v.lt
 have e := size_pair W q (.bool th) (.slice Ah nh ch)
 refine ((h.two hq v _ _).alloc _).v (by omega) hz hq ?_ ((v.put _ _ _ _).below (below_alloc _ _))
 have := Vb.new w (st2 W q th Ah nh ch) tl Al nl cl (by rw [e]; omega)
 rwa [e] at this
theorem AtW.ee (h : AtW T b f caps g Ev zt za ta Aa na ca tt At nt ct k w W k' zl zh tl Al nl cl th Ah nh ch) {x : Bool} {a : Option Addr} {i j : Nat} {x' : Bool} {a' : Option Addr} {i' j' : Nat} (hne : p ≠ q) (hp : w.heap.size + 2 ≤ p) (hq : w.heap.size + 2 ≤ q) (v : Vb w W p x a i j) (v' : Vb w W q x' a' i' j') : AtV T b f caps g Ev zt za ta Aa na ca tt At nt ct k w (st2 (st2 W p tl Al nl cl) q th Ah nh ch) p q k' zl zh tl Al nl cl th Ah nh ch :=
 ((h.two hp v _ _).two hq (v'.far hne _ _) _ _).v hne hp hq ((v.put _ _ _ _).far (Ne.symm hne) _ _) ((v'.far hne _ _).put _ _ _ _)
theorem AtW.ee2 (h : AtW T b f caps g Ev zt za ta Aa na ca tt At nt ct k w W k' zl zh tl Al nl cl th Ah nh ch) {x : Bool} {a : Option Addr} {i j : Nat} {x' : Bool} {a' : Option Addr} {i' j' : Nat} (hne : p ≠ q) (hp : w.heap.size + 2 ≤ p) (hq : w.heap.size + 2 ≤ q) (v : Vb w W p x a i j) (v' : Vb w W q x' a' i' j') : AtV T b f caps g Ev zt za ta Aa na ca tt At nt ct k w (st2 (st2 W q th Ah nh ch) p tl Al nl cl) p q k' zl zh tl Al nl cl th Ah nh ch :=
 ((h.two hq v' _ _).two hp (v.far (Ne.symm hne) _ _) _ _).v hne hp hq ((v.far (Ne.symm hne) _ _).put _ _ _ _) ((v'.put _ _ _ _).far hne _ _)
end
section
variable {p q : Nat} {zl zh z1 z2 : Int} {tl : Bool} {Al : Option Addr} {nl cl : Nat} {th : Bool} {Ah : Option Addr} {nh ch : Nat} {t1 : Bool} {A1 : Option Addr} {n1 c1 : Nat} {t2 : Bool} {A2 : Option Addr} {n2 c2 : Nat}
theorem AtV.mid (h : AtV T b f caps g Ev zt za ta Aa na ca tt At nt ct k w W p q k' zl zh tl Al nl cl th Ah nh ch) (m0 : Ms T b f caps g Ev zt za ta Aa na ca tt At nt ct w k) (v1 : Vn W k' z1 t1 A1 n1 c1) (v2 : Vn W k' z2 t2 A2 n2 c2) : AtW T b f caps g Ev zt za ta Aa na ca tt At nt ct k w W k' z1 z2 t1 A1 n1 c1 t2 A2 n2 c2 :=
 ⟨m0, by have := h.gp; have := h.vp.lt; omega, h.stp, h.ms, h.r4, h.r5, h.z0, v1, v2⟩
theorem AtV.put (h : AtV T b f caps g Ev zt za ta Aa na ca tt At nt ct k w W p q k' zl zh tl Al nl cl th Ah nh ch) (m0 : Ms T b f caps g Ev zt za ta Aa na ca tt At nt ct w k) (v1 : Vn W k' z1 t1 A1 n1 c1) (v2 : Vn W k' z2 t2 A2 n2 c2) :
 AtV T b f caps g Ev zt za ta Aa na ca tt At nt ct k w (st2 (st2 W p t1 A1 n1 c1) q t2 A2 n2 c2) p q k' z1 z2 t1 A1 n1 c1 t2 A2 n2 c2 := (h.mid m0 v1 v2).ee h.ne h.gp h.gq h.vp h.vq
theorem AtV.put' (h : AtV T b f caps g Ev zt za ta Aa na ca tt At nt ct k w W p q k' zl zh tl Al nl cl th Ah nh ch) (m0 : Ms T b f caps g Ev zt za ta Aa na ca tt At nt ct w k) (v1 : Vn W k' z1 t1 A1 n1 c1) (v2 : Vn W k' z2 t2 A2 n2 c2) :
 AtV T b f caps g Ev zt za ta Aa na ca tt At nt ct k w (st2 (st2 W q t2 A2 n2 c2) p t1 A1 n1 c1) p q k' z1 z2 t1 A1 n1 c1 t2 A2 n2 c2 := (h.mid m0 v1 v2).ee2 h.ne h.gp h.gq h.vp h.vq
end
theorem bit_at2 {K : Int} {k i : Nat} (h : K = (k : Int)) (hk : k < 9223372036854775808) : bits BinOp.and IntKind.i64 (K / 2 ^ i) 1 = ((k / 2 ^ i % 2 : Nat) : Int) := by
 have e : K / 2 ^ i = ((k / 2 ^ i : Nat) : Int) := by rw [h, Int.natCast_ediv, Int.natCast_pow]; rfl
 rw [e, and_one _ (Nat.lt_of_le_of_lt (Nat.div_le_self _ _) hk)]
structure Sq (T : Nat) (g : Int → Int) (zt : Int) (P : Nat → Int) (N : Nat) : Prop where
 p0 : P 0 = g 0
 p1 : P 1 = g 1
 ev : ∀ j, 2 * j ≤ N → g (P j * (P (j + 1) - (zt * P j - P (j + 1)))) = P (2 * j)
 od : ∀ j, 2 * j ≤ N → g ((P (j + 1) - P j) * (P (j + 1) + P j)) = P (2 * j + 1)
 nx : ∀ j, 2 * j + 1 ≤ N → g (zt * P (2 * j + 1) - P (2 * j)) = P (2 * j + 2)
 a1 : ∀ j, 2 * j ≤ N → (zt * P j).natAbs ≤ T
 a2 : ∀ j, 2 * j ≤ N → (zt * P j - P (j + 1)).natAbs ≤ T
 a3 : ∀ j, 2 * j ≤ N → (P (j + 1) - (zt * P j - P (j + 1))).natAbs ≤ T
 a4 : ∀ j, 2 * j ≤ N → (P j * (P (j + 1) - (zt * P j - P (j + 1)))).natAbs ≤ T
 b1 : ∀ j, 2 * j ≤ N → (P (j + 1) - P j).natAbs ≤ T
 b2 : ∀ j, 2 * j ≤ N → (P (j + 1) + P j).natAbs ≤ T
 b3 : ∀ j, 2 * j ≤ N → ((P (j + 1) - P j) * (P (j + 1) + P j)).natAbs ≤ T
 c1 : ∀ j, 2 * j + 1 ≤ N → (zt * P (2 * j + 1)).natAbs ≤ T
 c2 : ∀ j, 2 * j + 1 ≤ N → (zt * P (2 * j + 1) - P (2 * j)).natAbs ≤ T
section
variable {p q : Nat} {zl zh z1 z2 : Int} {tl : Bool} {Al : Option Addr} {nl cl : Nat} {th : Bool} {Ah : Option Addr} {nh ch : Nat}
theorem AtV.fin (h : AtV T b f caps g Ev zt za ta Aa na ca tt At nt ct k w W p q k' zl zh tl Al nl cl th Ah nh ch) (m0 : Ms T b f caps g Ev zt za ta Aa na ca tt At nt ct w k) {X : World} (hX : (st2 (st2 W w.heap.size tl Al nl cl) (w.heap.size + 1) th Ah nh ch).drew = X) :
 X.cell? ⟨w.heap.size, 0, none⟩ = some (.bool tl) ∧ X.cell? ⟨w.heap.size, 1, none⟩ = some (.slice Al nl cl) ∧ X.cell? ⟨w.heap.size + 1, 0, none⟩ = some (.bool th) ∧ X.cell? ⟨w.heap.size + 1, 1, none⟩ = some (.slice Ah nh ch) ∧
 Stp b w X ∧ Ms T b f caps g Ev zt za ta Aa na ca tt At nt ct X k' ∧ Vn X k' zl tl Al nl cl ∧ Vn X k' zh th Ah nh ch := by
 have hl := m0.cc.lt
 have hg := h.gp
 have hpl := h.vp.lt
 have s1 := h.stp.two (g := w.heap.size) (Nat.le_refl _) (by omega) (.bool tl) (.slice Al nl cl)
 have r5 := h.r5.far (g' := w.heap.size) (by omega) (.bool tl) (.slice Al nl cl)
 have m1 := h.ms.two (p := w.heap.size) (by omega) h.r4.c0 h.r4.c1 (m0.ea.stp _ _ _ m0.ev m0.cc s1)
 have s2 := s1.two (g := w.heap.size + 1) (by omega) (by omega) (.bool th) (.slice Ah nh ch)
 have m2 := m1.two (p := w.heap.size + 1) (by omega) r5.c0 r5.c1 (m0.ea.stp _ _ _ m0.ev m0.cc s2)
 have y4 := (h.r4.put tl Al nl cl).far (g' := w.heap.size + 1) (by simp) (.bool th) (.slice Ah nh ch)
 have y5 := r5.put th Ah nh ch
 have v1 := (h.vl.two h.r4.c0 h.r4.c1 (.bool tl) (.slice Al nl cl)).two r5.c0 r5.c1 (.bool th) (.slice Ah nh ch)
 have v2 := (h.vh.two h.r4.c0 h.r4.c1 (.bool tl) (.slice Al nl cl)).two r5.c0 r5.c1 (.bool th) (.slice Ah nh ch)
 subst hX
 exact ⟨cell_dr y4.c0, cell_dr y4.c1, cell_dr y5.c0, cell_dr y5.c1, s2.trans (Stp.of_below (m2.cc.lt) (Below.refl _ _).drew), m2.below (Below.refl _ _).drew, v1.below (Below.refl _ _).drew, v2.below (Below.refl _ _).drew⟩
end
end
theorem Valid_i {w : World} {z : Int} {t : Bool} {A : Option Addr} {n c : Nat} (h : Iv w z t A n c) : Calls Tryz.prog 74 #[.agg #[.bool t, .slice A n c]] w fun e w' => e = .returned (.bool true) ∧ Below w.heap.size w w' := by
 obtain ⟨r, v, _, _, _⟩ := h.is.raw h.sz (Nat.le_refl _)
 have := valid_c t A n c _ w r
 rwa [v] at this
def IsB (x : Bool) (w : World) (e : Ending) (w' : World) : Prop := e = .returned (.bool x) ∧ Below w.heap.size w w'
theorem ord_cases (z z' : Int) : (ord z z' = -1 ∧ z < z') ∨ (ord z z' = 0 ∧ z = z') ∨ (ord z z' = 1 ∧ z' < z) := by
 rcases Int.lt_trichotomy z z' with h | h | h
 · exact .inl ⟨ord_lt h, h⟩
 · exact .inr (.inl ⟨ord_eq h, h⟩)
 · exact .inr (.inr ⟨ord_gt h, h⟩)
set_option maxHeartbeats 1000000 in
theorem Less_c {w : World} {z z' : Int} {t t' : Bool} {A A' : Option Addr} {n c n' c' : Nat} (h : Iv w z t A n c) (h' : Iv w z' t' A' n' c') :
 Calls Tryz.prog 117 #[.agg #[.bool t, .slice A n c], .agg #[.bool t', .slice A' n' c']] w (IsB (decide (z < z')) w) := by
 have E := Env2.start w t t' A A' n c n' c'
 have HC := Lib.hid (Cmp_is (k := 4096) (h.is.below E.below) (h'.is.below E.below) h.sz h'.sz (Nat.le_refl _))
 have HB := Lib.hid E.below
 rcases ord_cases z z' with ⟨o, hz⟩ | ⟨o, hz⟩ | ⟨o, hz⟩
 all_goals
  rw [o] at HC
  have HD := Lib.hid (show decide (z < z') = _ from by first | exact decide_eq_true hz | exact decide_eq_false (by omega))
  clear h h' E o hz
  go_enter Tryz.func117, Tryz.ntmps117
  go_wp2_with (refine HC.out.mono ?_; rintro e w1 ⟨rfl, hb⟩; have HB1 := Lib.hid (HB.out.trans (hb.mono HB.out.size)); clear hb)
  go_ret
  exact ⟨by rw [HD.out]; rfl, HB1.out⟩
set_option maxHeartbeats 1000000 in
theorem Equal_c {w : World} {z z' : Int} {t t' : Bool} {A A' : Option Addr} {n c n' c' : Nat} (h : Iv w z t A n c) (h' : Iv w z' t' A' n' c') :
 Calls Tryz.prog 118 #[.agg #[.bool t, .slice A n c], .agg #[.bool t', .slice A' n' c']] w (IsB (decide (z = z')) w) := by
 have E := Env2.start w t t' A A' n c n' c'
 have HC := Lib.hid (Cmp_is (k := 4096) (h.is.below E.below) (h'.is.below E.below) h.sz h'.sz (Nat.le_refl _))
 have HB := Lib.hid E.below
 rcases ord_cases z z' with ⟨o, hz⟩ | ⟨o, hz⟩ | ⟨o, hz⟩
 all_goals
  rw [o] at HC
  have HD := Lib.hid (show decide (z = z') = _ from by first | exact decide_eq_true hz | exact decide_eq_false (by omega))
  clear h h' E o hz
  go_enter Tryz.func118, Tryz.ntmps118
  go_wp2_with (refine HC.out.mono ?_; rintro e w1 ⟨rfl, hb⟩; have HB1 := Lib.hid (HB.out.trans (hb.mono HB.out.size)); clear hb)
  go_ret
  exact ⟨by rw [HD.out]; rfl, HB1.out⟩
structure Nvr (W : World) (g : Nat) (z : Int) (t : Bool) (A : Option Addr) (n c : Nat) : Prop where
 lt : g < W.heap.size
 c0 : W.cell? ⟨g, 0, none⟩ = some (.bool t)
 c1 : W.cell? ⟨g, 1, none⟩ = some (.slice A n c)
 f0 : W.frozen? ⟨g, 0, none⟩ = false
 f1 : W.frozen? ⟨g, 1, none⟩ = false
 is : Is W z t A n c
section
variable {W W' : World} {g : Nat} {z z' : Int} {t t' : Bool} {A A' : Option Addr} {n c n' c' : Nat}
theorem Nvr.next (h : Nvr W g z t A n c) (hs : Below W.heap.size W W') : Nvr W' g z t A n c :=
 ⟨Nat.lt_of_lt_of_le h.lt hs.size, (hs.cell (p := ⟨g, 0, none⟩) h.lt).trans h.c0, (hs.cell (p := ⟨g, 1, none⟩) h.lt).trans h.c1, (hs.frozen (p := ⟨g, 0, none⟩) h.lt).trans h.f0, (hs.frozen (p := ⟨g, 1, none⟩) h.lt).trans h.f1, h.is.below hs⟩
theorem Nvr.new (h : Is W z t A n c) : Nvr (W.alloc (.cells #[.bool t, .slice A n c] 58)) W.heap.size z t A n c :=
 ⟨by simp, by go_simp, by go_simp, by go_simp, by go_simp, h.below (below_alloc _ _)⟩
theorem Nvr.alloc (h : Nvr W g z t A n c) (o : Obj) : Nvr (W.alloc o) g z t A n c := h.next (below_alloc _ _)
theorem Nvr.put (h : Nvr W g z t A n c) (h' : Is W z' t' A' n' c') : Nvr ((W.setCell ⟨g, 0, none⟩ (.bool t')).setCell ⟨g, 1, none⟩ (.slice A' n' c')) g z' t' A' n' c' := by
 have v := Vb.put (w := { W with heap := #[] }) ⟨Nat.zero_le _, h.lt, h.c0, h.c1, h.f0, h.f1⟩ t' A' n' c'
 exact ⟨v.lt, v.c0, v.c1, v.f0, v.f1, h'.store h.c0 h.c1 _ _⟩
theorem Nvr.far (h : Nvr W g z t A n c) {g' : Nat} (hne : g' ≠ g) {x : Bool} {a : Option Addr} {i j : Nat} (h0 : W.cell? ⟨g', 0, none⟩ = some (.bool x)) (h1 : W.cell? ⟨g', 1, none⟩ = some (.slice a i j)) (u v : Value) : Nvr ((W.setCell ⟨g', 0, none⟩ u).setCell ⟨g', 1, none⟩ v) g z t A n c :=
 ⟨by rw [size_pair]; exact h.lt, cell_two hne h.c0, cell_two hne h.c1, by rw [frozen_pair]; exact h.f0, by rw [frozen_pair]; exact h.f1, h.is.store h0 h1 u v⟩
theorem Nvr.box (h : Nvr W g z t A n c) : Box W g z t A n c := ⟨h.lt, h.c0, h.c1, h.is⟩
end
def Nwx (W : World) (g : Nat) (z : Int) : Prop := ∃ t A n c, Nvr W g z t A n c
theorem idx_bound {a y : Int} (ha : 2 ≤ a) (hy : Sz y 4096) {i : Nat} (h : psi a i < y) : i ≤ 131072 := by
 cases i with
 | zero => omega
 | succ j =>
   have h1 := psi_dn ha (b := 1) (by omega) j
   have h2 := psi_nn ha (j + 1)
   have h3 : y.natAbs < pw 4096 := hy
   rw [pw_two] at h3
   have h4 : 2 ^ (1 * j) < 2 ^ (32 * 4096) := by omega
   have h5 := (Nat.pow_lt_pow_iff_right (by omega : 1 < 2)).1 h4
   omega
theorem Nwx.next {W W' : World} {g : Nat} {z : Int} (h : Nwx W g z) (hs : Below W.heap.size W W') : Nwx W' g z := by
 obtain ⟨t, A, n, c, h⟩ := h
 exact ⟨t, A, n, c, h.next hs⟩
theorem Nwx.far {W : World} {g g' : Nat} {z z' : Int} {t : Bool} {A : Option Addr} {n c : Nat} (h : Nwx W g z) (h' : Nvr W g' z' t A n c) (hne : g' ≠ g) (u v : Value) : Nwx ((W.setCell ⟨g', 0, none⟩ u).setCell ⟨g', 1, none⟩ v) g z := by
 obtain ⟨t, A, n, c, h⟩ := h
 exact ⟨t, A, n, c, h.far hne h'.c0 h'.c1 u v⟩
theorem Nwx.lt {W : World} {g : Nat} {z : Int} (h : Nwx W g z) : g < W.heap.size := by
 obtain ⟨t, A, n, c, h⟩ := h
 exact h.lt
theorem Nvr.nw {W : World} {g : Nat} {z : Int} {t : Bool} {A : Option Addr} {n c : Nat} (h : Nvr W g z t A n c) : Nwx W g z := ⟨t, A, n, c, h⟩
end Go.Proofs.YteabokkofoomkaaGreat
set_option maxRecDepth 100000
namespace Go.Proofs.YteabokkofoomkaaGreat
open Go.RowKit Go.Shelf Go.Deep
def badPly (m : Nat) (p : Ply) : Bool := !(decide (p.V = (m : Int)) && validP p.V p.ts)
set_option maxHeartbeats 2000000 in
theorem validLink1_c (V : Int) (A : Option Addr) (n c : Nat) (ts : List Trm) (q : Nat) (B : Option Addr) (m d : Nat) (w : World) (h : RdT w A n ts) (hq : q < w.heap.size) (c1 : w.cell? ⟨q, 1, none⟩ = some (.slice B m d)) :
 Calls Tryz.prog 84 #[aggP V A n c, .pointer (some ⟨q, 0, none⟩)] w (RetB (badPly m ⟨V, ts⟩) w) := by
 have k0 := bel_alloc w (boxP V A n c)
 have P := Lib.hid k0
 have RT := Lib.hid (h.below k0)
 have X := Lib.hid (BxP.new w V A n c)
 have b1 := (k0.cell (p := ⟨q, 1, none⟩) hq).trans c1
 clear h k0 hq c1
 go_enter Tryz.func84, Tryz.ntmps84
 go_upto_region 1 with (fail)
 generalize w.alloc (boxP V A n c) = W0 at P RT X b1 ⊢
 obtain ⟨g, hg⟩ : ∃ g, g = w.heap.size := ⟨_, rfl⟩
 rw [← hg] at X ⊢
 clear hg
 have a0 := X.out.c0
 have a1 := X.out.c1
 by_cases hv : V = (m : Int)
 · have t0 : (V != (m : Int)) = false := by rw [hv]; exact bne_self_eq_false _
   have HB := Lib.hid (show badPly m ⟨V, ts⟩ = !validP V ts by unfold badPly; rw [decide_eq_true hv]; rfl)
   clear hv
   go_wp2_with fail
   refine (polyValid_c V A n c ts _ RT.out).mono ?_
   rintro e w1 ⟨rfl, hb⟩
   replace P := Lib.hid (P.out.trans (hb.mono P.out.size))
   clear hb a0 a1 b1 X RT
   generalize validP V ts = v at HB ⊢
   cases v with
   | false =>
     go_wp2
     go_ret
     exact ⟨by rw [HB.out] <;> rfl, P.out⟩
   | true =>
     go_wp2
     go_ret
     exact ⟨by rw [HB.out] <;> rfl, P.out⟩
 · have t0 : (V != (m : Int)) = true := by rw [bne_iff_ne]; exact hv
   have HB := Lib.hid (show badPly m ⟨V, ts⟩ = true by unfold badPly; rw [decide_eq_false hv]; rfl)
   clear hv
   go_wp2
   go_ret
   exact ⟨by rw [HB.out] <;> rfl, P.out⟩
def anyP (pred : Ply → Bool) (ps : List Ply) : Bool := decide (∃ k, k < ps.length ∧ pred (plyAt ps k) = true)
structure OnPly (f : Nat) (caps : Array Value) (Ev : World → Prop) (pred : Ply → Bool) : Prop where
 enters : ∀ args w, (callFunc f args).run Tryz.prog w = .ok (.enter f args) w
 next : ∀ W W', Ev W → Below W.heap.size W W' → Ev W'
 call : ∀ (W : World) (V : Int) (A : Option Addr) (n c : Nat) (ts : List Trm), Ev W → RdT W A n ts → Calls Tryz.prog f (#[aggP V A n c] ++ caps) W (RetB (pred ⟨V, ts⟩) W)
set_option maxHeartbeats 2000000 in
theorem indexFuncP_c {f : Nat} {caps : Array Value} {Ev : World → Prop} {pred : Ply → Bool} (H : OnPly f caps Ev pred) (A : Option Addr) (n c : Nat) (ps : List Ply) (w : World) (h : RdP w A n ps) (hE : Ev w) (hn : n ≤ 9223372036854775807) :
 Calls Tryz.prog 121 #[.slice A n c, .func (.func f) #[] caps] w fun e w' => ∃ i : Int, e = .returned (.int .i64 i) ∧ decide (0 ≤ i) = anyP pred ps ∧ Below w.heap.size w w' := by
 have HP := Lib.hid h
 have HL := Lib.hid (And.intro h.len hn)
 have EV := Lib.hid hE
 have heg := H.enters
 have HH := Lib.hid H
 clear h hn hE H
 go_enter Tryz.func121, Tryz.ntmps121
 go_wp2
 go_loopw [8] (fun v wr => ∃ k : Nat, v = .int .i64 (k : Int) ∧ k ≤ n ∧ Below w.heap.size w wr ∧ Ev wr ∧ ∀ i, i < k → pred (plyAt ps i) = false) (fun v _ => n - (intOf v).toNat)
 case atStart => exact ⟨0, rfl, Nat.zero_le _, Below.refl _ _, EV.out, fun i hi => absurd hi (by omega)⟩
 case round =>
  obtain ⟨k, rfl, hk, hp, hev, hall⟩ := hrel
  have hM := HL.out.2
  have P := Lib.hid hp
  have HA := Lib.hid hall
  replace EV := Lib.hid hev
  replace HP := Lib.hid (HP.out.below hp)
  clear hp hall hev
  by_cases hkn : k < n
  · have t1 : decide ((k : Int) < (n : Int)) = true := decide_eq_true (by omega)
    have t1n : decide (k < n) = true := decide_eq_true hkn
    have hkI : (k : Int) < (n : Int) := by omega
    obtain ⟨b, o, rfl, hblt, hcell⟩ := HP.out.at_ (by omega)
    obtain ⟨A1, n1, c1, hT⟩ := hcell k hkn
    obtain ⟨p, hpp⟩ : ∃ p, p = plyAt ps k := ⟨_, rfl⟩
    rw [← hpp] at hT
    have HPP := Lib.hid hpp
    clear hpp hcell
    obtain ⟨V, ts⟩ := p
    have c0 := hT.c0
    have c1' := hT.c1
    dsimp only at c0
    have HC := Lib.hid (HH.out.call wr V A1 n1 c1 ts EV.out hT.rt)
    clear hT
    go_wp2_with fail
    refine HC.out.mono ?_
    rintro e w1 ⟨rfl, hb⟩
    replace P := Lib.hid (P.out.trans (hb.mono P.out.size))
    replace EV := Lib.hid (HH.out.next _ _ EV.out hb)
    clear hb HC c0 c1' hblt
    obtain ⟨v, hv⟩ : ∃ v, v = pred ⟨V, ts⟩ := ⟨_, rfl⟩
    rw [← hv]
    have HV := Lib.hid hv
    clear hv
    cases v with
    | true =>
      have HF := Lib.hid (show decide (0 ≤ (k : Int)) = anyP pred ps by
       rw [decide_eq_true (by omega)]
       exact (decide_eq_true ⟨k, by rw [HL.out.1]; exact hkn, by rw [← HPP.out]; exact HV.out.symm⟩).symm)
      go_wp2
      go_ret
      exact ⟨(k : Int), rfl, HF.out, P.out⟩
    | false =>
      go_wp2
      go_roundw
      case measure => simp [intOf]; omega
      case rel => exact ⟨k + 1, by go_num, by omega, P.out, EV.out, fun i hi => by
       by_cases e : i = k
       · subst e; rw [← HPP.out]; exact HV.out.symm
       · exact HA.out i (by omega)⟩
  · have t1 : decide ((k : Int) < (n : Int)) = false := decide_eq_false (by omega)
    have t1n : decide (k < n) = false := decide_eq_false hkn
    have HF := Lib.hid (show decide (0 ≤ (-1 : Int)) = anyP pred ps by
     rw [decide_eq_false (by omega)]
     refine (decide_eq_false ?_).symm
     rintro ⟨i, hi, hp⟩
     rw [HA.out i (by rw [HL.out.1] at hi; omega)] at hp
     cases hp)
    go_wp2
    go_ret
    exact ⟨-1, rfl, HF.out, P.out⟩
set_option maxHeartbeats 2000000 in
theorem containsFuncP_c {f : Nat} {caps : Array Value} {Ev : World → Prop} {pred : Ply → Bool} (H : OnPly f caps Ev pred) (A : Option Addr) (n c : Nat) (ps : List Ply) (w : World) (h : RdP w A n ps) (hE : Ev w) (hn : n ≤ 9223372036854775807) :
 Calls Tryz.prog 83 #[.slice A n c, .func (.func f) #[] caps] w (RetB (anyP pred ps) w) := by
 have HI := Lib.hid (indexFuncP_c H A n c ps w h hE hn)
 clear h hE H
 go_enter Tryz.func83, Tryz.ntmps83
 go_wp2_with fail
 refine HI.out.mono ?_
 rintro e w1 ⟨i, rfl, hi, hb⟩
 have HB := Lib.hid (And.intro hi hb)
 clear hi hb HI
 go_wp2
 go_ret
 exact ⟨by rw [← HB.out.1] <;> rfl, HB.out.2⟩
end Go.Proofs.YteabokkofoomkaaGreat

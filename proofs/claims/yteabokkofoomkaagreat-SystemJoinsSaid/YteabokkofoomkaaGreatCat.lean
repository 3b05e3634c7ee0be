import Derived.Test.YteabokkofoomkaaGreatCah
import Derived.Test.YteabokkofoomkaaGreatCas
import Derived.Deep.RegionHeld3
import Derived.Deep.DeepMust
import Derived.Outline
import Derived.Deep.DeepCutAuto
set_option maxRecDepth 100000
namespace Go.Proofs.YteabokkofoomkaaGreat
open Go.RowKit Go.Shelf
def Vn (w : World) (k z : Int) (t : Bool) (A : Option Addr) (n c : Nat) : Prop := k = 0 → Iv w z t A n c
theorem Vn.next {w w' : World} {b : Nat} {k k' z : Int} {t : Bool} {A : Option Addr} {n c : Nat} (h : Vn w k z t A n c) (hc : Cc w b k) (hs : Stp b w w') (h0 : k' = 0 → k = 0) : Vn w' k' z t A n c := fun e => (h (h0 e)).stp hc hs
theorem Vn.below {w w' : World} {k z : Int} {t : Bool} {A : Option Addr} {n c : Nat} (h : Vn w k z t A n c) (hb : Below w.heap.size w w') : Vn w' k z t A n c := fun e => (h e).below hb
theorem Iv.vn {w : World} {k z : Int} {t : Bool} {A : Option Addr} {n c : Nat} (h : Iv w z t A n c) : Vn w k z t A n c := fun _ => h
theorem Vn.pair {w : World} {k z z' : Int} {t t' : Bool} {A A' : Option Addr} {n c n' c' : Nat} (h : Vn w k z t A n c) (h' : Vn w k z' t' A' n' c') : k = 0 → Iv w z t A n c ∧ Iv w z' t' A' n' c' := fun e => ⟨h e, h' e⟩
structure Each (T b f : Nat) (caps : Array Value) (g : Int → Int) (Ev : World → Prop) : Prop where
 enters : ∀ args w, (callFunc f args).run Tryz.prog w = .ok (.enter f args) w
 stp : ∀ w w' k, Ev w → Cc w b k → Stp b w w' → Ev w'
 call : ∀ (w : World) (k z : Int) (t : Bool) (A : Option Addr) (n c : Nat), Ev w → Cc w b k → St T k → Vn w k z t A n c → Calls Tryz.prog f (#[.agg #[.bool t, .slice A n c]] ++ caps) w (Wv T b k (g z) w)
structure Wk (w : World) (b f : Nat) (caps : Array Value) (ta : Bool) (Aa : Option Addr) (na ca : Nat) (tt : Bool) (At : Option Addr) (nt ct : Nat) : Prop where
 e1 : w.cell? ⟨b, 1, none⟩ = some (.func (.func f) #[] caps)
 a0 : w.cell? ⟨b, 2, none⟩ = some (.bool ta)
 a1 : w.cell? ⟨b, 3, none⟩ = some (.slice Aa na ca)
 t0 : w.cell? ⟨b, 4, none⟩ = some (.bool tt)
 t1 : w.cell? ⟨b, 5, none⟩ = some (.slice At nt ct)
section
variable {w w' W W' : World} {b f : Nat} {caps : Array Value} {ta : Bool} {Aa : Option Addr} {na ca : Nat} {tt : Bool} {At : Option Addr} {nt ct : Nat}
theorem Wk.stp (h : Wk w b f caps ta Aa na ca tt At nt ct) (hs : Stp b w w') : Wk w' b f caps ta Aa na ca tt At nt ct :=
 ⟨(hs.own 1 (by omega)).trans h.e1, (hs.own 2 (by omega)).trans h.a0, (hs.own 3 (by omega)).trans h.a1, (hs.own 4 (by omega)).trans h.t0, (hs.own 5 (by omega)).trans h.t1⟩
end
structure En (w W : World) (b : Nat) (t : Bool) (A : Option Addr) (n c : Nat) (t' : Bool) (A' : Option Addr) (n' c' : Nat) : Prop where
 size : w.heap.size + 3 ≤ W.heap.size
 lt : b < w.heap.size
 stp : Stp b w W
 a0 : W.cell? ⟨w.heap.size, 0, none⟩ = some (.bool t)
 a1 : W.cell? ⟨w.heap.size, 1, none⟩ = some (.slice A n c)
 b0 : W.cell? ⟨w.heap.size + 1, 0, none⟩ = some (.bool t')
 b1 : W.cell? ⟨w.heap.size + 1, 1, none⟩ = some (.slice A' n' c')
 r0 : W.cell? ⟨w.heap.size + 1 + 1, 0, none⟩ = some (.bool false)
 r1 : W.cell? ⟨w.heap.size + 1 + 1, 1, none⟩ = some (.slice none 0 0)
 f0 : W.frozen? ⟨w.heap.size + 1 + 1, 0, none⟩ = false
 f1 : W.frozen? ⟨w.heap.size + 1 + 1, 1, none⟩ = false
section
variable {w W W' : World} {b : Nat} {t : Bool} {A : Option Addr} {n c : Nat} {t' : Bool} {A' : Option Addr} {n' c' : Nat}
theorem En.start (w : World) (b : Nat) (t : Bool) (A : Option Addr) (n c : Nat) (t' : Bool) (A' : Option Addr) (n' c' : Nat) (hb : b < w.heap.size) :
 En w (((w.alloc (.cells #[.bool t, .slice A n c] 58)).alloc (.cells #[.bool t', .slice A' n' c'] 58)).alloc (.cells #[.bool false, .slice none 0 0] 58)) b t A n c t' A' n' c' := by
 have E := Env.start w t t' A A' n c n' c'
 exact ⟨E.size, hb, Stp.of_below hb E.below, E.a0, E.a1, E.b0, E.b1, E.r0, E.r1, E.f0, E.f1⟩
theorem En.next (h : En w W b t A n c t' A' n' c') (hs : Stp b W W') : En w W' b t A n c t' A' n' c' := by
 have hz := h.size
 have hl := h.lt
 exact ⟨Nat.le_trans hz hs.size, hl, h.stp.trans hs, (hs.cell (p := ⟨w.heap.size, 0, none⟩) (by simp; omega) (by simp; omega)).trans h.a0, (hs.cell (p := ⟨w.heap.size, 1, none⟩) (by simp; omega) (by simp; omega)).trans h.a1,
  (hs.cell (p := ⟨w.heap.size + 1, 0, none⟩) (by simp; omega) (by simp; omega)).trans h.b0, (hs.cell (p := ⟨w.heap.size + 1, 1, none⟩) (by simp; omega) (by simp; omega)).trans h.b1,
  (hs.cell (p := ⟨w.heap.size + 1 + 1, 0, none⟩) (by simp; omega) (by simp; omega)).trans h.r0, (hs.cell (p := ⟨w.heap.size + 1 + 1, 1, none⟩) (by simp; omega) (by simp; omega)).trans h.r1,
  (hs.frozen (by omega) (by omega)).trans h.f0, (hs.frozen (by omega) (by omega)).trans h.f1⟩
end
section
variable {w : World} {T b f : Nat} {caps : Array Value} {g : Int → Int} {Ev : World → Prop} {k zt zx zy za : Int} {ta : Bool} {Aa : Option Addr} {na ca : Nat} {tt : Bool} {At : Option Addr} {nt ct : Nat} {t : Bool} {A : Option Addr} {n c : Nat} {t' : Bool} {A' : Option Addr} {n' c' : Nat}
set_option maxHeartbeats 4000000 in
theorem next_c (H : Each T b f caps g Ev) (hE : Ev w) (hC : Cc w b k) (hK : St T k) (hW : Wk w b f caps ta Aa na ca tt At nt ct) (vt : Vn w k zt tt At nt ct) (vx : Vn w k zx t A n c) (vy : Vn w k zy t' A' n' c') (va : Vn w k za ta Aa na ca)
 (q0 : (zt * zy).natAbs ≤ T) (q1 : ((zt * zy) - zx).natAbs ≤ T) :
 Calls Tryz.prog 159 #[.pointer (some ⟨b, 0, none⟩), .agg #[.bool t, .slice A n c], .agg #[.bool t', .slice A' n' c']] w (Wv T b k (g ((zt * zy) - zx)) w) := by
 have HH := Lib.hid H
 have heg := H.enters
 have E0 := En.start w b t A n c t' A' n' c' hC.lt
 have S0 := E0.stp
 have hlt := hC.lt
 have HC := Lib.hid (((hC.alloc (.cells #[.bool t, .slice A n c] 58)).alloc (.cells #[.bool t', .slice A' n' c'] 58)).alloc (.cells #[.bool false, .slice none 0 0] 58))
 have HW := Lib.hid (hW.stp S0)
 have HV := Lib.hid (And.intro (H.stp _ _ _ hE hC S0) (And.intro (vt.next hC S0 id) (And.intro (vx.next hC S0 id) (And.intro (vy.next hC S0 id) (va.next hC S0 id)))))
 have HK := Lib.hid hK
 have Q0 := Lib.hid q0
 have Q1 := Lib.hid q1
 have HE := Lib.hid E0
 clear E0 S0 H hE hC hK hW vt vx vy va q0 q1
 go_enter Tryz.func159, Tryz.ntmps159
 go_upto_region 1 with (fail)
 generalize ((w.alloc (.cells #[.bool t, .slice A n c] 58)).alloc (.cells #[.bool t', .slice A' n' c'] 58)).alloc (.cells #[.bool false, .slice none 0 0] 58) = W0 at HC HW HV HE ⊢
 have a0 := HE.out.a0
 have a1 := HE.out.a1
 have b0 := HE.out.b0
 have b1 := HE.out.b1
 have r0 := HE.out.r0
 have r1 := HE.out.r1
 have f0 := HE.out.f0
 have f1 := HE.out.f1
 have e1 := HW.out.e1
 have g0 := HW.out.t0
 have g1 := HW.out.t1
 have h0 := HW.out.a0
 have h1 := HW.out.a1
 go_region_held3 (fun w' => w'.cell? ⟨w.heap.size, 0, none⟩ = some (.bool t) ∧ w'.cell? ⟨w.heap.size, 1, none⟩ = some (.slice A n c) ∧ w'.cell? ⟨w.heap.size + 1, 0, none⟩ = some (.bool t') ∧ w'.cell? ⟨w.heap.size + 1, 1, none⟩ = some (.slice A' n' c') ∧ w'.cell? ⟨b, 1, none⟩ = some (.func (.func f) #[] caps) ∧ w'.cell? ⟨b, 4, none⟩ = some (.bool tt) ∧ w'.cell? ⟨b, 5, none⟩ = some (.slice At nt ct)) (first | exact ⟨a0, a1, b0, b1, e1, g0, g1⟩ | exact ⟨cell_two (by omega) a0, cell_two (by omega) a1, cell_two (by omega) b0, cell_two (by omega) b1, cell_two (by omega) e1, cell_two (by omega) g0, cell_two (by omega) g1⟩)
  (first
   | (go_at_call 67; (with_reducible refine (cMul_c T b k (zt) (zy) tt t' At A' nt ct n' c' _ (HC.out.below (Below.refl _ _).drew) HK.out (fun _ => Q0.out) (Vn.pair (Vn.below HV.out.2.1 (Below.refl _ _).drew) (Vn.below HV.out.2.2.2.1 (Below.refl _ _).drew))).mono ?_); rintro e W1 ⟨tx0, Bx0, mx0, dx0, k0, rfl, s0, c1, v1, st1⟩; have s1 := ((Stp.of_below HC.out.lt (Below.refl _ _).drew).trans s0); have z1 := fun e => (v1 e).1; replace HE := Lib.hid (HE.out.next s1); replace HW := Lib.hid (HW.out.stp s1); replace HV := Lib.hid (And.intro (HH.out.stp _ _ _ HV.out.1 HC.out s1) (And.intro (HV.out.2.1.next HC.out s1 z1) (And.intro (HV.out.2.2.1.next HC.out s1 z1) (And.intro (HV.out.2.2.2.1.next HC.out s1 z1) (HV.out.2.2.2.2.next HC.out s1 z1))))); have U0 : Hid (Vn _ _ (zt * zy) _ _ _ _) := fun e => (v1 e).2; have Z0 := Lib.hid z1; replace HC := Lib.hid c1; replace HK := Lib.hid st1; clear s0 s1 c1 v1 st1 z1 a0 a1 b0 b1 r0 r1 f0 f1 e1 g0 g1 h0 h1; have a0 := HE.out.a0; have a1 := HE.out.a1; have b0 := HE.out.b0; have b1 := HE.out.b1; have r0 := HE.out.r0; have r1 := HE.out.r1; have f0 := HE.out.f0; have f1 := HE.out.f1; have e1 := HW.out.e1; have g0 := HW.out.t0; have g1 := HW.out.t1; have h0 := HW.out.a0; have h1 := HW.out.a1)
   | (go_at_call 160; (with_reducible refine (cSub_c T b k0 ((zt * zy)) (zx) tx0 t Bx0 A mx0 dx0 n c _ HC.out HK.out (fun _ => Q1.out) (Vn.pair U0.out HV.out.2.2.1)).mono ?_); rintro e W2 ⟨tx1, Bx1, mx1, dx1, k1, rfl, s0, c1, v1, st1⟩; have s1 := s0; have z1 := fun e => (v1 e).1; replace HE := Lib.hid (HE.out.next s1); replace HW := Lib.hid (HW.out.stp s1); replace HV := Lib.hid (And.intro (HH.out.stp _ _ _ HV.out.1 HC.out s1) (And.intro (HV.out.2.1.next HC.out s1 z1) (And.intro (HV.out.2.2.1.next HC.out s1 z1) (And.intro (HV.out.2.2.2.1.next HC.out s1 z1) (HV.out.2.2.2.2.next HC.out s1 z1))))); replace U0 := Lib.hid (U0.out.next HC.out s1 z1); have U1 : Hid (Vn _ _ ((zt * zy) - zx) _ _ _ _) := fun e => (v1 e).2; have Z1 := Lib.hid (fun e => Z0.out (z1 e)); replace HC := Lib.hid c1; replace HK := Lib.hid st1; clear s0 s1 c1 v1 st1 z1 a0 a1 b0 b1 r0 r1 f0 f1 e1 g0 g1 h0 h1; have a0 := HE.out.a0; have a1 := HE.out.a1; have b0 := HE.out.b0; have b1 := HE.out.b1; have r0 := HE.out.r0; have r1 := HE.out.r1; have f0 := HE.out.f0; have f1 := HE.out.f1; have e1 := HW.out.e1; have g0 := HW.out.t0; have g1 := HW.out.t1; have h0 := HW.out.a0; have h1 := HW.out.a1)
   | ((with_reducible refine (HH.out.call _ k1 ((zt * zy) - zx) tx1 Bx1 mx1 dx1 HV.out.1 HC.out HK.out U1.out).mono ?_); rintro e W3 ⟨tx2, Bx2, mx2, dx2, k2, rfl, s0, c1, v1, st1⟩; have s1 := s0; have z1 := fun e => (v1 e).1; replace HE := Lib.hid (HE.out.next s1); replace HW := Lib.hid (HW.out.stp s1); replace HV := Lib.hid (And.intro (HH.out.stp _ _ _ HV.out.1 HC.out s1) (And.intro (HV.out.2.1.next HC.out s1 z1) (And.intro (HV.out.2.2.1.next HC.out s1 z1) (And.intro (HV.out.2.2.2.1.next HC.out s1 z1) (HV.out.2.2.2.2.next HC.out s1 z1))))); replace U0 := Lib.hid (U0.out.next HC.out s1 z1); replace U1 := Lib.hid (U1.out.next HC.out s1 z1); have U2 : Hid (Vn _ _ (g ((zt * zy) - zx)) _ _ _ _) := fun e => (v1 e).2; have Z2 := Lib.hid (fun e => Z1.out (z1 e)); replace HC := Lib.hid c1; replace HK := Lib.hid st1; clear s0 s1 c1 v1 st1 z1 a0 a1 b0 b1 r0 r1 f0 f1 e1 g0 g1 h0 h1; have a0 := HE.out.a0; have a1 := HE.out.a1; have b0 := HE.out.b0; have b1 := HE.out.b1; have r0 := HE.out.r0; have r1 := HE.out.r1; have f0 := HE.out.f0; have f1 := HE.out.f1; have e1 := HW.out.e1; have g0 := HW.out.t0; have g1 := HW.out.t1; have h0 := HW.out.a0; have h1 := HW.out.a1)
   | fail "no arm")
 go_wp2
 have hsz := HE.out.size
 have hne : w.heap.size + 1 + 1 ≠ b := by omega
 refine bodyPost_ret (v := .agg #[.bool tx2, .slice Bx2 mx2 dx2]) (by simp [results, Tryz.results159, go_sem, r0, r1]) rfl ?_
 exact ⟨tx2, Bx2, mx2, dx2, k2, rfl, HE.out.stp.two (by omega) hne _ _, HC.out.two hne _ _, fun e => ⟨Z2.out e, (U2.out e).two r0 r1 _ _⟩, HK.out⟩
set_option maxHeartbeats 4000000 in
theorem odd_c (H : Each T b f caps g Ev) (hE : Ev w) (hC : Cc w b k) (hK : St T k) (hW : Wk w b f caps ta Aa na ca tt At nt ct) (vt : Vn w k zt tt At nt ct) (vx : Vn w k zx t A n c) (vy : Vn w k zy t' A' n' c') (va : Vn w k za ta Aa na ca)
 (q0 : (zy - zx).natAbs ≤ T) (q1 : (zy + zx).natAbs ≤ T) (q2 : ((zy - zx) * (zy + zx)).natAbs ≤ T) :
 Calls Tryz.prog 154 #[.pointer (some ⟨b, 0, none⟩), .agg #[.bool t, .slice A n c], .agg #[.bool t', .slice A' n' c']] w (Wv T b k (g ((zy - zx) * (zy + zx))) w) := by
 have HH := Lib.hid H
 have heg := H.enters
 have E0 := En.start w b t A n c t' A' n' c' hC.lt
 have S0 := E0.stp
 have hlt := hC.lt
 have HC := Lib.hid (((hC.alloc (.cells #[.bool t, .slice A n c] 58)).alloc (.cells #[.bool t', .slice A' n' c'] 58)).alloc (.cells #[.bool false, .slice none 0 0] 58))
 have HW := Lib.hid (hW.stp S0)
 have HV := Lib.hid (And.intro (H.stp _ _ _ hE hC S0) (And.intro (vt.next hC S0 id) (And.intro (vx.next hC S0 id) (And.intro (vy.next hC S0 id) (va.next hC S0 id)))))
 have HK := Lib.hid hK
 have Q0 := Lib.hid q0
 have Q1 := Lib.hid q1
 have Q2 := Lib.hid q2
 have HE := Lib.hid E0
 clear E0 S0 H hE hC hK hW vt vx vy va q0 q1 q2
 go_enter Tryz.func154, Tryz.ntmps154
 go_upto_region 1 with (fail)
 generalize ((w.alloc (.cells #[.bool t, .slice A n c] 58)).alloc (.cells #[.bool t', .slice A' n' c'] 58)).alloc (.cells #[.bool false, .slice none 0 0] 58) = W0 at HC HW HV HE ⊢
 have a0 := HE.out.a0
 have a1 := HE.out.a1
 have b0 := HE.out.b0
 have b1 := HE.out.b1
 have r0 := HE.out.r0
 have r1 := HE.out.r1
 have f0 := HE.out.f0
 have f1 := HE.out.f1
 have e1 := HW.out.e1
 have g0 := HW.out.t0
 have g1 := HW.out.t1
 have h0 := HW.out.a0
 have h1 := HW.out.a1
 go_region_held3 (fun w' => w'.cell? ⟨w.heap.size, 0, none⟩ = some (.bool t) ∧ w'.cell? ⟨w.heap.size, 1, none⟩ = some (.slice A n c) ∧ w'.cell? ⟨w.heap.size + 1, 0, none⟩ = some (.bool t') ∧ w'.cell? ⟨w.heap.size + 1, 1, none⟩ = some (.slice A' n' c') ∧ w'.cell? ⟨b, 1, none⟩ = some (.func (.func f) #[] caps)) (first | exact ⟨a0, a1, b0, b1, e1⟩ | exact ⟨cell_two (by omega) a0, cell_two (by omega) a1, cell_two (by omega) b0, cell_two (by omega) b1, cell_two (by omega) e1⟩)
  (first
   | (go_at_call 160; (with_reducible refine (cSub_c T b k (zy) (zx) t' t A' A n' c' n c _ (HC.out.below (Below.refl _ _).drew) HK.out (fun _ => Q0.out) (Vn.pair (Vn.below HV.out.2.2.2.1 (Below.refl _ _).drew) (Vn.below HV.out.2.2.1 (Below.refl _ _).drew))).mono ?_); rintro e W1 ⟨tx0, Bx0, mx0, dx0, k0, rfl, s0, c1, v1, st1⟩; have s1 := ((Stp.of_below HC.out.lt (Below.refl _ _).drew).trans s0); have z1 := fun e => (v1 e).1; replace HE := Lib.hid (HE.out.next s1); replace HW := Lib.hid (HW.out.stp s1); replace HV := Lib.hid (And.intro (HH.out.stp _ _ _ HV.out.1 HC.out s1) (And.intro (HV.out.2.1.next HC.out s1 z1) (And.intro (HV.out.2.2.1.next HC.out s1 z1) (And.intro (HV.out.2.2.2.1.next HC.out s1 z1) (HV.out.2.2.2.2.next HC.out s1 z1))))); have U0 : Hid (Vn _ _ (zy - zx) _ _ _ _) := fun e => (v1 e).2; have Z0 := Lib.hid z1; replace HC := Lib.hid c1; replace HK := Lib.hid st1; clear s0 s1 c1 v1 st1 z1 a0 a1 b0 b1 r0 r1 f0 f1 e1 g0 g1 h0 h1; have a0 := HE.out.a0; have a1 := HE.out.a1; have b0 := HE.out.b0; have b1 := HE.out.b1; have r0 := HE.out.r0; have r1 := HE.out.r1; have f0 := HE.out.f0; have f1 := HE.out.f1; have e1 := HW.out.e1; have g0 := HW.out.t0; have g1 := HW.out.t1; have h0 := HW.out.a0; have h1 := HW.out.a1)
   | (go_at_call 66; (with_reducible refine (cAdd_c T b k0 (zy) (zx) t' t A' A n' c' n c _ HC.out HK.out (fun _ => Q1.out) (Vn.pair HV.out.2.2.2.1 HV.out.2.2.1)).mono ?_); rintro e W2 ⟨tx1, Bx1, mx1, dx1, k1, rfl, s0, c1, v1, st1⟩; have s1 := s0; have z1 := fun e => (v1 e).1; replace HE := Lib.hid (HE.out.next s1); replace HW := Lib.hid (HW.out.stp s1); replace HV := Lib.hid (And.intro (HH.out.stp _ _ _ HV.out.1 HC.out s1) (And.intro (HV.out.2.1.next HC.out s1 z1) (And.intro (HV.out.2.2.1.next HC.out s1 z1) (And.intro (HV.out.2.2.2.1.next HC.out s1 z1) (HV.out.2.2.2.2.next HC.out s1 z1))))); replace U0 := Lib.hid (U0.out.next HC.out s1 z1); have U1 : Hid (Vn _ _ (zy + zx) _ _ _ _) := fun e => (v1 e).2; have Z1 := Lib.hid (fun e => Z0.out (z1 e)); replace HC := Lib.hid c1; replace HK := Lib.hid st1; clear s0 s1 c1 v1 st1 z1 a0 a1 b0 b1 r0 r1 f0 f1 e1 g0 g1 h0 h1; have a0 := HE.out.a0; have a1 := HE.out.a1; have b0 := HE.out.b0; have b1 := HE.out.b1; have r0 := HE.out.r0; have r1 := HE.out.r1; have f0 := HE.out.f0; have f1 := HE.out.f1; have e1 := HW.out.e1; have g0 := HW.out.t0; have g1 := HW.out.t1; have h0 := HW.out.a0; have h1 := HW.out.a1)
   | (go_at_call 67; (with_reducible refine (cMul_c T b k1 ((zy - zx)) ((zy + zx)) tx0 tx1 Bx0 Bx1 mx0 dx0 mx1 dx1 _ HC.out HK.out (fun _ => Q2.out) (Vn.pair U0.out U1.out)).mono ?_); rintro e W3 ⟨tx2, Bx2, mx2, dx2, k2, rfl, s0, c1, v1, st1⟩; have s1 := s0; have z1 := fun e => (v1 e).1; replace HE := Lib.hid (HE.out.next s1); replace HW := Lib.hid (HW.out.stp s1); replace HV := Lib.hid (And.intro (HH.out.stp _ _ _ HV.out.1 HC.out s1) (And.intro (HV.out.2.1.next HC.out s1 z1) (And.intro (HV.out.2.2.1.next HC.out s1 z1) (And.intro (HV.out.2.2.2.1.next HC.out s1 z1) (HV.out.2.2.2.2.next HC.out s1 z1))))); replace U0 := Lib.hid (U0.out.next HC.out s1 z1); replace U1 := Lib.hid (U1.out.next HC.out s1 z1); have U2 : Hid (Vn _ _ ((zy - zx) * (zy + zx)) _ _ _ _) := fun e => (v1 e).2; have Z2 := Lib.hid (fun e => Z1.out (z1 e)); replace HC := Lib.hid c1; replace HK := Lib.hid st1; clear s0 s1 c1 v1 st1 z1 a0 a1 b0 b1 r0 r1 f0 f1 e1 g0 g1 h0 h1; have a0 := HE.out.a0; have a1 := HE.out.a1; have b0 := HE.out.b0; have b1 := HE.out.b1; have r0 := HE.out.r0; have r1 := HE.out.r1; have f0 := HE.out.f0; have f1 := HE.out.f1; have e1 := HW.out.e1; have g0 := HW.out.t0; have g1 := HW.out.t1; have h0 := HW.out.a0; have h1 := HW.out.a1)
   | ((with_reducible refine (HH.out.call _ k2 ((zy - zx) * (zy + zx)) tx2 Bx2 mx2 dx2 HV.out.1 HC.out HK.out U2.out).mono ?_); rintro e W4 ⟨tx3, Bx3, mx3, dx3, k3, rfl, s0, c1, v1, st1⟩; have s1 := s0; have z1 := fun e => (v1 e).1; replace HE := Lib.hid (HE.out.next s1); replace HW := Lib.hid (HW.out.stp s1); replace HV := Lib.hid (And.intro (HH.out.stp _ _ _ HV.out.1 HC.out s1) (And.intro (HV.out.2.1.next HC.out s1 z1) (And.intro (HV.out.2.2.1.next HC.out s1 z1) (And.intro (HV.out.2.2.2.1.next HC.out s1 z1) (HV.out.2.2.2.2.next HC.out s1 z1))))); replace U0 := Lib.hid (U0.out.next HC.out s1 z1); replace U1 := Lib.hid (U1.out.next HC.out s1 z1); replace U2 := Lib.hid (U2.out.next HC.out s1 z1); have U3 : Hid (Vn _ _ (g ((zy - zx) * (zy + zx))) _ _ _ _) := fun e => (v1 e).2; have Z3 := Lib.hid (fun e => Z2.out (z1 e)); replace HC := Lib.hid c1; replace HK := Lib.hid st1; clear s0 s1 c1 v1 st1 z1 a0 a1 b0 b1 r0 r1 f0 f1 e1 g0 g1 h0 h1; have a0 := HE.out.a0; have a1 := HE.out.a1; have b0 := HE.out.b0; have b1 := HE.out.b1; have r0 := HE.out.r0; have r1 := HE.out.r1; have f0 := HE.out.f0; have f1 := HE.out.f1; have e1 := HW.out.e1; have g0 := HW.out.t0; have g1 := HW.out.t1; have h0 := HW.out.a0; have h1 := HW.out.a1)
   | fail "no arm")
 go_wp2
 have hsz := HE.out.size
 have hne : w.heap.size + 1 + 1 ≠ b := by omega
 refine bodyPost_ret (v := .agg #[.bool tx3, .slice Bx3 mx3 dx3]) (by simp [results, Tryz.results154, go_sem, r0, r1]) rfl ?_
 exact ⟨tx3, Bx3, mx3, dx3, k3, rfl, HE.out.stp.two (by omega) hne _ _, HC.out.two hne _ _, fun e => ⟨Z3.out e, (U3.out e).two r0 r1 _ _⟩, HK.out⟩
end
structure Vb (w W : World) (g : Nat) (t : Bool) (A : Option Addr) (n c : Nat) : Prop where
 ge : w.heap.size ≤ g
 lt : g < W.heap.size
 c0 : W.cell? ⟨g, 0, none⟩ = some (.bool t)
 c1 : W.cell? ⟨g, 1, none⟩ = some (.slice A n c)
 f0 : W.frozen? ⟨g, 0, none⟩ = false
 f1 : W.frozen? ⟨g, 1, none⟩ = false
section
variable {w W W' : World} {b g : Nat} {t : Bool} {A : Option Addr} {n c : Nat} {t' : Bool} {A' : Option Addr} {n' c' : Nat}
theorem Vb.next (h : Vb w W g t A n c) (hs : Stp b W W') (hb : b < w.heap.size) : Vb w W' g t A n c := by
 have h1 := h.ge
 have h2 := h.lt
 exact ⟨h1, Nat.lt_of_lt_of_le h2 hs.size, (hs.cell (p := ⟨g, 0, none⟩) h2 (by simp; omega)).trans h.c0, (hs.cell (p := ⟨g, 1, none⟩) h2 (by simp; omega)).trans h.c1, (hs.frozen h2 (by omega)).trans h.f0, (hs.frozen h2 (by omega)).trans h.f1⟩
theorem Vb.below (h : Vb w W g t A n c) (hs : Below W.heap.size W W') : Vb w W' g t A n c :=
 ⟨h.ge, Nat.lt_of_lt_of_le h.lt hs.size, (hs.cell (p := ⟨g, 0, none⟩) h.lt).trans h.c0, (hs.cell (p := ⟨g, 1, none⟩) h.lt).trans h.c1, (hs.frozen (p := ⟨g, 0, none⟩) h.lt).trans h.f0, (hs.frozen (p := ⟨g, 1, none⟩) h.lt).trans h.f1⟩
theorem Vb.new (w W : World) (t : Bool) (A : Option Addr) (n c : Nat) (h : w.heap.size ≤ W.heap.size) : Vb w (W.alloc (.cells #[.bool t, .slice A n c] 58)) W.heap.size t A n c :=
 ⟨h, by simp, by go_simp, by go_simp, by go_simp, by go_simp⟩
theorem frozen_pair (W : World) (g : Nat) (u v : Value) (p : Addr) : ((W.setCell ⟨g, 0, none⟩ u).setCell ⟨g, 1, none⟩ v).frozen? p = W.frozen? p := by rw [World.frozen?_setCell, World.frozen?_setCell]
theorem size_pair (W : World) (g : Nat) (u v : Value) : ((W.setCell ⟨g, 0, none⟩ u).setCell ⟨g, 1, none⟩ v).heap.size = W.heap.size := by simp [World.setCell]
theorem Vb.put (h : Vb w W g t A n c) (t' : Bool) (A' : Option Addr) (n' c' : Nat) : Vb w ((W.setCell ⟨g, 0, none⟩ (.bool t')).setCell ⟨g, 1, none⟩ (.slice A' n' c')) g t' A' n' c' := by
 have e : (W.setCell ⟨g, 0, none⟩ (.bool t')).cell? ⟨g, 1, none⟩ = some (.slice A n c) := by rw [World.cell?_setCell_other _ _ _ _ (by simp)]; exact h.c1
 exact ⟨h.ge, by rw [size_pair]; exact h.lt, by rw [World.cell?_setCell_other _ _ _ _ (by simp)]; exact World.cell?_setCell_same _ _ _ h.c0, World.cell?_setCell_same _ _ _ e, by rw [frozen_pair]; exact h.f0, by rw [frozen_pair]; exact h.f1⟩
theorem Vb.far (h : Vb w W g t A n c) {g' : Nat} (hne : g' ≠ g) (u v : Value) : Vb w ((W.setCell ⟨g', 0, none⟩ u).setCell ⟨g', 1, none⟩ v) g t A n c :=
 ⟨h.ge, by rw [size_pair]; exact h.lt, cell_two hne h.c0, cell_two hne h.c1, by rw [frozen_pair]; exact h.f0, by rw [frozen_pair]; exact h.f1⟩
theorem cell_al {g o : Nat} {v : Value} (h : W.cell? ⟨g, o, none⟩ = some v) (x : Obj) : (W.alloc x).cell? ⟨g, o, none⟩ = some v := by
 rcases Nat.lt_or_ge g W.heap.size with hg | hg
 · exact ((below_alloc W x).cell (p := ⟨g, o, none⟩) hg).trans h
 · exfalso
   have : W.heap[g]? = none := Array.getElem?_eq_none hg
   simp [World.cell?, this] at h
theorem En.two (h : En w W b t A n c t' A' n' c') {g : Nat} (hg : w.heap.size + 3 ≤ g) (u v : Value) : En w ((W.setCell ⟨g, 0, none⟩ u).setCell ⟨g, 1, none⟩ v) b t A n c t' A' n' c' := by
 have hl := h.lt
 exact ⟨by rw [size_pair]; exact h.size, hl, h.stp.two (by omega) (by omega) u v, cell_two (by omega) h.a0, cell_two (by omega) h.a1, cell_two (by omega) h.b0, cell_two (by omega) h.b1, cell_two (by omega) h.r0, cell_two (by omega) h.r1, by rw [frozen_pair]; exact h.f0, by rw [frozen_pair]; exact h.f1⟩
end
structure Ms (T b f : Nat) (caps : Array Value) (g : Int → Int) (Ev : World → Prop) (zt za : Int) (ta : Bool) (Aa : Option Addr) (na ca : Nat) (tt : Bool) (At : Option Addr) (nt ct : Nat) (W : World) (k : Int) : Prop where
 ea : Each T b f caps g Ev
 wk : Wk W b f caps ta Aa na ca tt At nt ct
 ev : Ev W
 cc : Cc W b k
 st : St T k
 vt : Vn W k zt tt At nt ct
 va : Vn W k za ta Aa na ca
section
variable {w W W' : World} {T b f : Nat} {caps : Array Value} {g : Int → Int} {Ev : World → Prop} {k k' zt zx zy za z : Int} {ta : Bool} {Aa : Option Addr} {na ca : Nat} {tt : Bool} {At : Option Addr} {nt ct : Nat} {t : Bool} {A : Option Addr} {n c : Nat} {t' : Bool} {A' : Option Addr} {n' c' : Nat} {e : Ending}
theorem Ms.next (h : Ms T b f caps g Ev zt za ta Aa na ca tt At nt ct W k) (hs : Stp b W W') (hc : Cc W' b k') (hk : St T k') (hz : k' = 0 → k = 0) : Ms T b f caps g Ev zt za ta Aa na ca tt At nt ct W' k' :=
 ⟨h.ea, h.wk.stp hs, h.ea.stp _ _ _ h.ev h.cc hs, hc, hk, h.vt.next h.cc hs hz, h.va.next h.cc hs hz⟩
theorem Ms.below (h : Ms T b f caps g Ev zt za ta Aa na ca tt At nt ct W k) (hb : Below W.heap.size W W') : Ms T b f caps g Ev zt za ta Aa na ca tt At nt ct W' k :=
 h.next (Stp.of_below h.cc.lt hb) (h.cc.below hb) h.st id
theorem Ms.two (h : Ms T b f caps g Ev zt za ta Aa na ca tt At nt ct W k) {u v : Value} {p : Nat} (hne : p ≠ b) {x : Bool} {a : Option Addr} {i j : Nat} (h0 : W.cell? ⟨p, 0, none⟩ = some (.bool x)) (h1 : W.cell? ⟨p, 1, none⟩ = some (.slice a i j)) (hs : Ev ((W.setCell ⟨p, 0, none⟩ u).setCell ⟨p, 1, none⟩ v)) :
 Ms T b f caps g Ev zt za ta Aa na ca tt At nt ct ((W.setCell ⟨p, 0, none⟩ u).setCell ⟨p, 1, none⟩ v) k :=
 ⟨h.ea, ⟨cell_two hne h.wk.e1, cell_two hne h.wk.a0, cell_two hne h.wk.a1, cell_two hne h.wk.t0, cell_two hne h.wk.t1⟩, hs, h.cc.two hne _ _, h.st, fun e => (h.vt e).two h0 h1 _ _, fun e => (h.va e).two h0 h1 _ _⟩
def Wm (T b f : Nat) (caps : Array Value) (g : Int → Int) (Ev : World → Prop) (zt za : Int) (ta : Bool) (Aa : Option Addr) (na ca : Nat) (tt : Bool) (At : Option Addr) (nt ct : Nat) (k z : Int) (W : World) (e : Ending) (W' : World) : Prop :=
 ∃ t B m d k', e = .returned (.agg #[.bool t, .slice B m d]) ∧ Stp b W W' ∧ Ms T b f caps g Ev zt za ta Aa na ca tt At nt ct W' k' ∧ (k' = 0 → k = 0) ∧ Vn W' k' z t B m d
theorem Wv.wm (h : Wv T b k z W e W') (hm : Ms T b f caps g Ev zt za ta Aa na ca tt At nt ct W k) : Wm T b f caps g Ev zt za ta Aa na ca tt At nt ct k z W e W' := by
 obtain ⟨t, B, m, d, k', he, hs, hc, hv, hk⟩ := h
 exact ⟨t, B, m, d, k', he, hs, hm.next hs hc hk (fun e => (hv e).1), fun e => (hv e).1, fun e => (hv e).2⟩
theorem next_m (h : Ms T b f caps g Ev zt za ta Aa na ca tt At nt ct W k) (vx : Vn W k zx t A n c) (vy : Vn W k zy t' A' n' c') (q0 : (zt * zy).natAbs ≤ T) (q1 : (zt * zy - zx).natAbs ≤ T) :
 Calls Tryz.prog 159 #[.pointer (some ⟨b, 0, none⟩), .agg #[.bool t, .slice A n c], .agg #[.bool t', .slice A' n' c']] W (Wm T b f caps g Ev zt za ta Aa na ca tt At nt ct k (g (zt * zy - zx)) W) :=
 (next_c h.ea h.ev h.cc h.st h.wk h.vt vx vy h.va q0 q1).mono fun _ _ hh => hh.wm h
theorem odd_m (h : Ms T b f caps g Ev zt za ta Aa na ca tt At nt ct W k) (vx : Vn W k zx t A n c) (vy : Vn W k zy t' A' n' c') (q0 : (zy - zx).natAbs ≤ T) (q1 : (zy + zx).natAbs ≤ T) (q2 : ((zy - zx) * (zy + zx)).natAbs ≤ T) :
 Calls Tryz.prog 154 #[.pointer (some ⟨b, 0, none⟩), .agg #[.bool t, .slice A n c], .agg #[.bool t', .slice A' n' c']] W (Wm T b f caps g Ev zt za ta Aa na ca tt At nt ct k (g ((zy - zx) * (zy + zx))) W) :=
 (odd_c h.ea h.ev h.cc h.st h.wk h.vt vx vy h.va q0 q1 q2).mono fun _ _ hh => hh.wm h
def EvenMid (T b f : Nat) (caps : Array Value) (g : Int → Int) (Ev : World → Prop) (zt zx zy za : Int) (ta : Bool) (Aa : Option Addr) (na ca : Nat) (tt : Bool) (At : Option Addr) (nt ct : Nat) (t : Bool) (A : Option Addr) (n c : Nat) (t' : Bool) (A' : Option Addr) (n' c' : Nat) (k : Int) (w : World) (v : Value) (W : World) : Prop :=
 ∃ p t1 B1 m1 d1 k', v = .pointer (some ⟨p, 0, none⟩) ∧ w.heap.size + 3 ≤ p ∧ Vb w W p t1 B1 m1 d1 ∧ En w W b t A n c t' A' n' c' ∧ Ms T b f caps g Ev zt za ta Aa na ca tt At nt ct W k' ∧ (k' = 0 → k = 0) ∧ Vn W k' zx t A n c ∧ Vn W k' zy t' A' n' c' ∧ Vn W k' (zt * zx - zy) t1 B1 m1 d1
set_option maxHeartbeats 8000000 in
theorem even_m (h : Ms T b f caps g Ev zt za ta Aa na ca tt At nt ct w k) (vx : Vn w k zx t A n c) (vy : Vn w k zy t' A' n' c')
 (q0 : (zt * zx).natAbs ≤ T) (q1 : (zt * zx - zy).natAbs ≤ T) (q2 : (zy - (zt * zx - zy)).natAbs ≤ T) (q3 : (zx * (zy - (zt * zx - zy))).natAbs ≤ T) :
 Calls Tryz.prog 153 #[.pointer (some ⟨b, 0, none⟩), .agg #[.bool t, .slice A n c], .agg #[.bool t', .slice A' n' c']] w (Wm T b f caps g Ev zt za ta Aa na ca tt At nt ct k (g (zx * (zy - (zt * zx - zy)))) w) := by
 have heg := h.ea.enters
 have hlt := h.cc.lt
 have E0 := En.start w b t A n c t' A' n' c' hlt
 have hb0 := (Env.start w t t' A A' n c n' c').below
 have HM := Lib.hid (h.below hb0)
 have H0 := Lib.hid h
 have VX := Lib.hid (vx.below hb0)
 have VY := Lib.hid (vy.below hb0)
 have HE := Lib.hid E0
 have HZ : Hid (k = 0 → k = 0) := fun e => e
 have Q0 := Lib.hid q0
 have Q1 := Lib.hid q1
 have Q2 := Lib.hid q2
 have Q3 := Lib.hid q3
 clear E0 hb0 h vx vy q0 q1 q2 q3
 go_enter Tryz.func153, Tryz.ntmps153
 go_upto_region 1 with (fail)
 generalize ((w.alloc (.cells #[.bool t, .slice A n c] 58)).alloc (.cells #[.bool t', .slice A' n' c'] 58)).alloc (.cells #[.bool false, .slice none 0 0] 58) = W0 at HM VX VY HE ⊢
 go_cut [7] (fun v W => EvenMid T b f caps g Ev zt zx zy za ta Aa na ca tt At nt ct t A n c t' A' n' c' k w v W)
 case first =>
  have a0 := HE.out.a0
  have a1 := HE.out.a1
  have b0 := HE.out.b0
  have b1 := HE.out.b1
  have r0 := HE.out.r0
  have r1 := HE.out.r1
  have f0 := HE.out.f0
  have f1 := HE.out.f1
  have e1 := HM.out.wk.e1
  have g0 := HM.out.wk.t0
  have g1 := HM.out.wk.t1
  have HS := Lib.hid (show w.heap.size ≤ _ from Nat.le_trans (Nat.le_add_right _ 3) HE.out.size)
  have hz0 := HE.out.size
  go_region_held3 (fun w' => w'.cell? ⟨w.heap.size, 0, none⟩ = some (.bool t) ∧ w'.cell? ⟨w.heap.size, 1, none⟩ = some (.slice A n c) ∧ w'.cell? ⟨w.heap.size + 1, 0, none⟩ = some (.bool t') ∧ w'.cell? ⟨w.heap.size + 1, 1, none⟩ = some (.slice A' n' c') ∧ w'.cell? ⟨b, 1, none⟩ = some (.func (.func f) #[] caps) ∧ w'.cell? ⟨b, 4, none⟩ = some (.bool tt) ∧ w'.cell? ⟨b, 5, none⟩ = some (.slice At nt ct)) (first | exact ⟨a0, a1, b0, b1, e1, g0, g1⟩ | exact ⟨cell_al a0 _, cell_al a1 _, cell_al b0 _, cell_al b1 _, cell_al e1 _, cell_al g0 _, cell_al g1 _⟩ | exact ⟨cell_two (by omega) a0, cell_two (by omega) a1, cell_two (by omega) b0, cell_two (by omega) b1, cell_two (by omega) e1, cell_two (by omega) g0, cell_two (by omega) g1⟩ | fail)
   (first
    | (go_at_call 67; (with_reducible refine (cMul_c T b k (zt) (zx) tt t At A nt ct n c _ (HM.out.cc.below (Below.refl _ _).drew) HM.out.st (fun _ => Q0.out) (Vn.pair (Vn.below HM.out.vt (Below.refl _ _).drew) (Vn.below VX.out (Below.refl _ _).drew))).mono ?_); rintro e W1 ⟨tx0, Bx0, mx0, dx0, k0, rfl, s0, c1, v1, st1⟩; have s1 : Stp b W0 W1 := (Stp.of_below HM.out.cc.lt (Below.refl _ _).drew).trans s0; have z1 := fun e => (v1 e).1; have U0 : Hid (Vn _ _ (zt * zx) _ _ _ _) := fun e => (v1 e).2; replace VX := Lib.hid (VX.out.next HM.out.cc s1 z1); replace VY := Lib.hid (VY.out.next HM.out.cc s1 z1); replace HE := Lib.hid (HE.out.next s1); replace HM := Lib.hid (HM.out.next s1 c1 st1 z1); replace HZ := Lib.hid (fun e => HZ.out (z1 e)); clear s0 s1 c1 z1 v1 st1; clear a0 a1 b0 b1 r0 r1 f0 f1 e1 g0 g1 HS; have a0 := HE.out.a0; have a1 := HE.out.a1; have b0 := HE.out.b0; have b1 := HE.out.b1; have r0 := HE.out.r0; have r1 := HE.out.r1; have f0 := HE.out.f0; have f1 := HE.out.f1; have e1 := HM.out.wk.e1; have g0 := HM.out.wk.t0; have g1 := HM.out.wk.t1; have HS := Lib.hid (show w.heap.size ≤ _ from Nat.le_trans (Nat.le_add_right _ 3) HE.out.size); have hzz := HE.out.size; (try (clear p0 p1 p2 p3)); (try (have p0 := VB.out.c0; have p1 := VB.out.c1; have p2 := VB.out.f0; have p3 := VB.out.f1)))
    | (go_at_call 67; (with_reducible refine (cMul_c T b k (zt) (zx) tt t At A nt ct n c _ (HM.out.cc.below (below_alloc _ _).drew) HM.out.st (fun _ => Q0.out) (Vn.pair (Vn.below HM.out.vt (below_alloc _ _).drew) (Vn.below VX.out (below_alloc _ _).drew))).mono ?_); rintro e W1 ⟨tx0, Bx0, mx0, dx0, k0, rfl, s0, c1, v1, st1⟩; have s1 : Stp b W0 W1 := (Stp.of_below HM.out.cc.lt (below_alloc _ _).drew).trans s0; have z1 := fun e => (v1 e).1; have U0 : Hid (Vn _ _ (zt * zx) _ _ _ _) := fun e => (v1 e).2; replace VX := Lib.hid (VX.out.next HM.out.cc s1 z1); replace VY := Lib.hid (VY.out.next HM.out.cc s1 z1); have VB := Lib.hid (((Vb.new w W0 false none 0 0 HS.out).below (Below.refl _ _).drew).next s0 hlt); replace HE := Lib.hid (HE.out.next s1); replace HM := Lib.hid (HM.out.next s1 c1 st1 z1); replace HZ := Lib.hid (fun e => HZ.out (z1 e)); clear s0 s1 c1 z1 v1 st1; clear a0 a1 b0 b1 r0 r1 f0 f1 e1 g0 g1 HS; have a0 := HE.out.a0; have a1 := HE.out.a1; have b0 := HE.out.b0; have b1 := HE.out.b1; have r0 := HE.out.r0; have r1 := HE.out.r1; have f0 := HE.out.f0; have f1 := HE.out.f1; have e1 := HM.out.wk.e1; have g0 := HM.out.wk.t0; have g1 := HM.out.wk.t1; have HS := Lib.hid (show w.heap.size ≤ _ from Nat.le_trans (Nat.le_add_right _ 3) HE.out.size); have hzz := HE.out.size; (try (clear p0 p1 p2 p3)); (try (have p0 := VB.out.c0; have p1 := VB.out.c1; have p2 := VB.out.f0; have p3 := VB.out.f1)))
    | (go_at_call 160; (with_reducible refine (cSub_c T b k0 (zt * zx) (zy) tx0 t' Bx0 A' mx0 dx0 n' c' _ HM.out.cc HM.out.st (fun _ => Q1.out) (Vn.pair U0.out VY.out)).mono ?_); rintro e W2 ⟨tx1, Bx1, mx1, dx1, k1, rfl, s0, c1, v1, st1⟩; have s1 : Stp b W1 W2 := s0; have z1 := fun e => (v1 e).1; have U1 : Hid (Vn _ _ (zt * zx - zy) _ _ _ _) := fun e => (v1 e).2; replace VX := Lib.hid (VX.out.next HM.out.cc s1 z1); replace VY := Lib.hid (VY.out.next HM.out.cc s1 z1); (try (replace VB := Lib.hid (VB.out.next s1 hlt))); replace HE := Lib.hid (HE.out.next s1); replace HM := Lib.hid (HM.out.next s1 c1 st1 z1); replace HZ := Lib.hid (fun e => HZ.out (z1 e)); clear s0 s1 c1 z1 v1 st1; clear a0 a1 b0 b1 r0 r1 f0 f1 e1 g0 g1 HS; have a0 := HE.out.a0; have a1 := HE.out.a1; have b0 := HE.out.b0; have b1 := HE.out.b1; have r0 := HE.out.r0; have r1 := HE.out.r1; have f0 := HE.out.f0; have f1 := HE.out.f1; have e1 := HM.out.wk.e1; have g0 := HM.out.wk.t0; have g1 := HM.out.wk.t1; have HS := Lib.hid (show w.heap.size ≤ _ from Nat.le_trans (Nat.le_add_right _ 3) HE.out.size); have hzz := HE.out.size; (try (clear p0 p1 p2 p3)); (try (have p0 := VB.out.c0; have p1 := VB.out.c1; have p2 := VB.out.f0; have p3 := VB.out.f1)))
    | (go_at_call 160; (with_reducible refine (cSub_c T b k0 (zt * zx) (zy) tx0 t' Bx0 A' mx0 dx0 n' c' _ (HM.out.cc.below (below_alloc _ _)) HM.out.st (fun _ => Q1.out) (Vn.pair (Vn.below U0.out (below_alloc _ _)) (Vn.below VY.out (below_alloc _ _)))).mono ?_); rintro e W2 ⟨tx1, Bx1, mx1, dx1, k1, rfl, s0, c1, v1, st1⟩; have s1 : Stp b W1 W2 := (Stp.of_below HM.out.cc.lt (below_alloc _ _)).trans s0; have z1 := fun e => (v1 e).1; have U1 : Hid (Vn _ _ (zt * zx - zy) _ _ _ _) := fun e => (v1 e).2; replace VX := Lib.hid (VX.out.next HM.out.cc s1 z1); replace VY := Lib.hid (VY.out.next HM.out.cc s1 z1); have VB := Lib.hid (((Vb.new w W1 false none 0 0 HS.out)).next s0 hlt); replace HE := Lib.hid (HE.out.next s1); replace HM := Lib.hid (HM.out.next s1 c1 st1 z1); replace HZ := Lib.hid (fun e => HZ.out (z1 e)); clear s0 s1 c1 z1 v1 st1; clear a0 a1 b0 b1 r0 r1 f0 f1 e1 g0 g1 HS; have a0 := HE.out.a0; have a1 := HE.out.a1; have b0 := HE.out.b0; have b1 := HE.out.b1; have r0 := HE.out.r0; have r1 := HE.out.r1; have f0 := HE.out.f0; have f1 := HE.out.f1; have e1 := HM.out.wk.e1; have g0 := HM.out.wk.t0; have g1 := HM.out.wk.t1; have HS := Lib.hid (show w.heap.size ≤ _ from Nat.le_trans (Nat.le_add_right _ 3) HE.out.size); have hzz := HE.out.size; (try (clear p0 p1 p2 p3)); (try (have p0 := VB.out.c0; have p1 := VB.out.c1; have p2 := VB.out.f0; have p3 := VB.out.f1)))
    | fail "no arm")
  all_goals
   go_wp2
   go_meet
   first
    | exact ⟨_, tx1, Bx1, mx1, dx1, k1, rfl, HE.out.size, Vb.new w W2 _ _ _ _ HS.out, HE.out.next (Stp.of_below HM.out.cc.lt (below_alloc _ _)), HM.out.below (below_alloc _ _), HZ.out, VX.out.below (below_alloc _ _), VY.out.below (below_alloc _ _), U1.out.below (below_alloc _ _)⟩
    | exact ⟨_, tx1, Bx1, mx1, dx1, k1, rfl, (by omega), VB.out.put _ _ _ _, HE.out.two (by omega) _ _, HM.out.two (by omega) p0 p1 (HM.out.ea.stp _ _ _ H0.out.ev H0.out.cc (HE.out.stp.two (by omega) (by omega) _ _)), HZ.out, fun e => (VX.out e).two p0 p1 _ _, fun e => (VY.out e).two p0 p1 _ _, fun e => (U1.out e).two p0 p1 _ _⟩
 case rest =>
  clear HM VX VY HE HZ
  obtain ⟨p, tp, Bp, mp, dp, k1, rfl, hp, vb, en, ms, z1, vx, vy, vp⟩ := hcut
  have HM := Lib.hid ms
  have HE := Lib.hid en
  have VB := Lib.hid vb
  have VX := Lib.hid vx
  have VY := Lib.hid vy
  have VP := Lib.hid vp
  have HZ := Lib.hid z1
  clear vb en ms z1 vx vy vp
  go_upto_region 2 with (fail)
  have a0 := HE.out.a0
  have a1 := HE.out.a1
  have b0 := HE.out.b0
  have b1 := HE.out.b1
  have r0 := HE.out.r0
  have r1 := HE.out.r1
  have f0 := HE.out.f0
  have f1 := HE.out.f1
  have e1 := HM.out.wk.e1
  have g0 := HM.out.wk.t0
  have g1 := HM.out.wk.t1
  have HS := Lib.hid (show w.heap.size ≤ _ from Nat.le_trans (Nat.le_add_right _ 3) HE.out.size)
  have p0 := VB.out.c0
  have p1 := VB.out.c1
  go_region_held3 (fun w' => w'.cell? ⟨w.heap.size, 0, none⟩ = some (.bool t) ∧ w'.cell? ⟨w.heap.size, 1, none⟩ = some (.slice A n c) ∧ w'.cell? ⟨w.heap.size + 1, 0, none⟩ = some (.bool t') ∧ w'.cell? ⟨w.heap.size + 1, 1, none⟩ = some (.slice A' n' c') ∧ w'.cell? ⟨b, 1, none⟩ = some (.func (.func f) #[] caps) ∧ w'.cell? ⟨b, 4, none⟩ = some (.bool tt) ∧ w'.cell? ⟨b, 5, none⟩ = some (.slice At nt ct) ∧ w'.cell? ⟨p, 0, none⟩ = some (.bool tp) ∧ w'.cell? ⟨p, 1, none⟩ = some (.slice Bp mp dp)) (first | exact ⟨a0, a1, b0, b1, e1, g0, g1, p0, p1⟩ | exact ⟨cell_al a0 _, cell_al a1 _, cell_al b0 _, cell_al b1 _, cell_al e1 _, cell_al g0 _, cell_al g1 _, cell_al p0 _, cell_al p1 _⟩ | exact ⟨cell_two (by omega) a0, cell_two (by omega) a1, cell_two (by omega) b0, cell_two (by omega) b1, cell_two (by omega) e1, cell_two (by omega) g0, cell_two (by omega) g1, cell_two (by omega) p0, cell_two (by omega) p1⟩ | fail)
   (first
    | (go_at_call 160; (with_reducible refine (cSub_c T b k1 (zy) ((zt * zx - zy)) t' tp A' Bp n' c' mp dp _ (HM.out.cc.below (Below.refl _ _).drew) HM.out.st (fun _ => Q2.out) (Vn.pair (Vn.below VY.out (Below.refl _ _).drew) (Vn.below VP.out (Below.refl _ _).drew))).mono ?_); rintro e W3 ⟨tx2, Bx2, mx2, dx2, k2, rfl, s0, c1, v1, st1⟩; have s1 : Stp b wc W3 := (Stp.of_below HM.out.cc.lt (Below.refl _ _).drew).trans s0; have z1 := fun e => (v1 e).1; have U2 : Hid (Vn _ _ (zy - (zt * zx - zy)) _ _ _ _) := fun e => (v1 e).2; replace VX := Lib.hid (VX.out.next HM.out.cc s1 z1); replace VY := Lib.hid (VY.out.next HM.out.cc s1 z1); replace VP := Lib.hid (VP.out.next HM.out.cc s1 z1); replace VB := Lib.hid (VB.out.next s1 hlt); replace HE := Lib.hid (HE.out.next s1); replace HM := Lib.hid (HM.out.next s1 c1 st1 z1); replace HZ := Lib.hid (fun e => HZ.out (z1 e)); clear s0 s1 c1 z1 v1 st1; clear a0 a1 b0 b1 r0 r1 f0 f1 e1 g0 g1 HS; have a0 := HE.out.a0; have a1 := HE.out.a1; have b0 := HE.out.b0; have b1 := HE.out.b1; have r0 := HE.out.r0; have r1 := HE.out.r1; have f0 := HE.out.f0; have f1 := HE.out.f1; have e1 := HM.out.wk.e1; have g0 := HM.out.wk.t0; have g1 := HM.out.wk.t1; have HS := Lib.hid (show w.heap.size ≤ _ from Nat.le_trans (Nat.le_add_right _ 3) HE.out.size); clear p0 p1; have p0 := VB.out.c0; have p1 := VB.out.c1)
    | (go_at_call 67; (with_reducible refine (cMul_c T b k2 (zx) ((zy - (zt * zx - zy))) t tx2 A Bx2 n c mx2 dx2 _ HM.out.cc HM.out.st (fun _ => Q3.out) (Vn.pair VX.out U2.out)).mono ?_); rintro e W4 ⟨tx3, Bx3, mx3, dx3, k3, rfl, s0, c1, v1, st1⟩; have s1 : Stp b W3 W4 := s0; have z1 := fun e => (v1 e).1; have U3 : Hid (Vn _ _ (zx * (zy - (zt * zx - zy))) _ _ _ _) := fun e => (v1 e).2; replace VX := Lib.hid (VX.out.next HM.out.cc s1 z1); replace VY := Lib.hid (VY.out.next HM.out.cc s1 z1); replace VP := Lib.hid (VP.out.next HM.out.cc s1 z1); replace VB := Lib.hid (VB.out.next s1 hlt); replace HE := Lib.hid (HE.out.next s1); replace HM := Lib.hid (HM.out.next s1 c1 st1 z1); replace HZ := Lib.hid (fun e => HZ.out (z1 e)); clear s0 s1 c1 z1 v1 st1; clear a0 a1 b0 b1 r0 r1 f0 f1 e1 g0 g1 HS; have a0 := HE.out.a0; have a1 := HE.out.a1; have b0 := HE.out.b0; have b1 := HE.out.b1; have r0 := HE.out.r0; have r1 := HE.out.r1; have f0 := HE.out.f0; have f1 := HE.out.f1; have e1 := HM.out.wk.e1; have g0 := HM.out.wk.t0; have g1 := HM.out.wk.t1; have HS := Lib.hid (show w.heap.size ≤ _ from Nat.le_trans (Nat.le_add_right _ 3) HE.out.size); clear p0 p1; have p0 := VB.out.c0; have p1 := VB.out.c1)
    | ((with_reducible refine (HM.out.ea.call _ k3 (zx * (zy - (zt * zx - zy))) tx3 Bx3 mx3 dx3 HM.out.ev HM.out.cc HM.out.st U3.out).mono ?_); rintro e W5 ⟨tx4, Bx4, mx4, dx4, k4, rfl, s0, c1, v1, st1⟩; have s1 : Stp b W4 W5 := s0; have z1 := fun e => (v1 e).1; have U4 : Hid (Vn _ _ (g (zx * (zy - (zt * zx - zy)))) _ _ _ _) := fun e => (v1 e).2; replace VX := Lib.hid (VX.out.next HM.out.cc s1 z1); replace VY := Lib.hid (VY.out.next HM.out.cc s1 z1); replace VP := Lib.hid (VP.out.next HM.out.cc s1 z1); replace VB := Lib.hid (VB.out.next s1 hlt); replace HE := Lib.hid (HE.out.next s1); replace HM := Lib.hid (HM.out.next s1 c1 st1 z1); replace HZ := Lib.hid (fun e => HZ.out (z1 e)); clear s0 s1 c1 z1 v1 st1; clear a0 a1 b0 b1 r0 r1 f0 f1 e1 g0 g1 HS; have a0 := HE.out.a0; have a1 := HE.out.a1; have b0 := HE.out.b0; have b1 := HE.out.b1; have r0 := HE.out.r0; have r1 := HE.out.r1; have f0 := HE.out.f0; have f1 := HE.out.f1; have e1 := HM.out.wk.e1; have g0 := HM.out.wk.t0; have g1 := HM.out.wk.t1; have HS := Lib.hid (show w.heap.size ≤ _ from Nat.le_trans (Nat.le_add_right _ 3) HE.out.size); clear p0 p1; have p0 := VB.out.c0; have p1 := VB.out.c1)
    | fail "no arm")
  go_wp2
  have hsz := HE.out.size
  have hne : w.heap.size + 1 + 1 ≠ b := by omega
  refine bodyPost_ret (v := .agg #[.bool tx4, .slice Bx4 mx4 dx4]) (by simp [results, Tryz.results153, go_sem, r0, r1]) rfl ?_
  have st := HE.out.stp.two (g := w.heap.size + 1 + 1) (by omega) hne (.bool tx4) (.slice Bx4 mx4 dx4)
  exact ⟨tx4, Bx4, mx4, dx4, k4, rfl, st, HM.out.two hne r0 r1 (HM.out.ea.stp _ _ _ H0.out.ev H0.out.cc st), HZ.out, fun e => (U4.out e).two r0 r1 _ _⟩
end
end Go.Proofs.YteabokkofoomkaaGreat

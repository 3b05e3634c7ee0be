import Derived.Test.YtbblckaplddggaaNb
import Derived.Test.YtbblckaplddggaaNa
import Derived.Deep.RegionHeld3
import Derived.Deep.DeepMust
import Derived.Outline
set_option maxRecDepth 100000
namespace Go.Proofs.Ytbblckaplddggaa
open Go.RowKit Go.Shelf

/-- the number z, as long as there was no error -/
def Vn (w : World) (k z : Int) (t : Bool) (A : Option Addr) (n c : Nat) : Prop := k = 0 → Iv w z t A n c
theorem Vn.next {w w' : World} {b : Nat} {k k' z : Int} {t : Bool} {A : Option Addr} {n c : Nat} (h : Vn w k z t A n c) (hc : Cc w b k) (hs : Stp b w w') (h0 : k' = 0 → k = 0) : Vn w' k' z t A n c := fun e => (h (h0 e)).stp hc hs
theorem Vn.below {w w' : World} {k z : Int} {t : Bool} {A : Option Addr} {n c : Nat} (h : Vn w k z t A n c) (hb : Below w.heap.size w w') : Vn w' k z t A n c := fun e => (h e).below hb
theorem Iv.vn {w : World} {k z : Int} {t : Bool} {A : Option Addr} {n c : Nat} (h : Iv w z t A n c) : Vn w k z t A n c := fun _ => h

theorem Vn.pair {w : World} {k z z' : Int} {t t' : Bool} {A A' : Option Addr} {n c n' c' : Nat} (h : Vn w k z t A n c) (h' : Vn w k z' t' A' n' c') : k = 0 → Iv w z t A n c ∧ Iv w z' t' A' n' c' := fun e => ⟨h e, h' e⟩

/-- what is done with every number: the function f with what it has captured -/
structure Each (T b f : Nat) (caps : Array Value) (g : Int → Int) (Ev : World → Prop) : Prop where
  enters : ∀ args w, (callFunc f args).run Try.prog w = .ok (.enter f args) w
  stp : ∀ w w' k, Ev w → Cc w b k → Stp b w w' → Ev w'
  call : ∀ (w : World) (k z : Int) (t : Bool) (A : Option Addr) (n c : Nat), Ev w → Cc w b k → St T k → Vn w k z t A n c → Calls Try.prog f (#[.agg #[.bool t, .slice A n c]] ++ caps) w (Wv T b k (g z) w)

/-- the cells of a walker -/
structure Wk (w : World) (b f : Nat) (caps : Array Value) (ta : Bool) (Aa : Option Addr) (na ca : Nat) (tt : Bool) (At : Option Addr) (nt ct : Nat) : Prop where
  e1 : w.cell? ⟨b, 1, none⟩ = some (.func (.func f) #[] caps)
  a0 : w.cell? ⟨b, 2, none⟩ = some (.bool ta)
  a1 : w.cell? ⟨b, 3, none⟩ = some (.slice Aa na ca)
  t0 : w.cell? ⟨b, 4, none⟩ = some (.bool tt)
  t1 : w.cell? ⟨b, 5, none⟩ = some (.slice At nt ct)
section
variable {w w' W W' : World} {b f : Nat} {caps : Array Value} {ta : Bool} {Aa : Option Addr} {na ca : Nat} {tt : Bool} {At : Option Addr} {nt ct : Nat}
theorem Wk.stp (h : Wk w b f caps ta Aa na ca tt At nt ct) (hs : Stp b w w') : Wk w' b f caps ta Aa na ca tt At nt ct :=
  ⟨(hs.own 1 (by omega)).trans h.e1, (hs.own 2 (by omega)).trans h.a0, (hs.own 3 (by omega)).trans h.a1, (hs.own 4 (by omega)).trans h.t0, (hs.own 5 (by omega)).trans h.t1⟩
end
/-- two numbers in boxes and the result's cells, beside the walker's block -/
structure En (w W : World) (b : Nat) (t : Bool) (A : Option Addr) (n c : Nat) (t' : Bool) (A' : Option Addr) (n' c' : Nat) : Prop where
  size : w.heap.size + 3 ≤ W.heap.size
  lt : b < w.heap.size
  stp : Stp b w W
  a0 : W.cell? ⟨w.heap.size, 0, none⟩ = some (.bool t)
  a1 : W.cell? ⟨w.heap.size, 1, none⟩ = some (.slice A n c)
  b0 : W.cell? ⟨w.heap.size + 1, 0, none⟩ = some (.bool t')
  b1 : W.cell? ⟨w.heap.size + 1, 1, none⟩ = some (.slice A' n' c')
  r0 : W.cell? ⟨w.heap.size + 1 + 1, 0, none⟩ = some (.bool false)
  r1 : W.cell? ⟨w.heap.size + 1 + 1, 1, none⟩ = some (.slice none 0 0)
  f0 : W.frozen? ⟨w.heap.size + 1 + 1, 0, none⟩ = false
  f1 : W.frozen? ⟨w.heap.size + 1 + 1, 1, none⟩ = false
section
variable {w W W' : World} {b : Nat} {t : Bool} {A : Option Addr} {n c : Nat} {t' : Bool} {A' : Option Addr} {n' c' : Nat}
theorem En.start (w : World) (b : Nat) (t : Bool) (A : Option Addr) (n c : Nat) (t' : Bool) (A' : Option Addr) (n' c' : Nat) (hb : b < w.heap.size) :
    En w (((w.alloc (.cells #[.bool t, .slice A n c] 24)).alloc (.cells #[.bool t', .slice A' n' c'] 24)).alloc (.cells #[.bool false, .slice none 0 0] 24)) b t A n c t' A' n' c' := by
  have E := Env.start w t t' A A' n c n' c'
  exact ⟨E.size, hb, Stp.of_below hb E.below, E.a0, E.a1, E.b0, E.b1, E.r0, E.r1, E.f0, E.f1⟩
theorem En.next (h : En w W b t A n c t' A' n' c') (hs : Stp b W W') : En w W' b t A n c t' A' n' c' := by
  have hz := h.size
  have hl := h.lt
  exact ⟨Nat.le_trans hz hs.size, hl, h.stp.trans hs, (hs.cell (p := ⟨w.heap.size, 0, none⟩) (by simp; omega) (by simp; omega)).trans h.a0, (hs.cell (p := ⟨w.heap.size, 1, none⟩) (by simp; omega) (by simp; omega)).trans h.a1,
    (hs.cell (p := ⟨w.heap.size + 1, 0, none⟩) (by simp; omega) (by simp; omega)).trans h.b0, (hs.cell (p := ⟨w.heap.size + 1, 1, none⟩) (by simp; omega) (by simp; omega)).trans h.b1,
    (hs.cell (p := ⟨w.heap.size + 1 + 1, 0, none⟩) (by simp; omega) (by simp; omega)).trans h.r0, (hs.cell (p := ⟨w.heap.size + 1 + 1, 1, none⟩) (by simp; omega) (by simp; omega)).trans h.r1,
    (hs.frozen (by omega) (by omega)).trans h.f0, (hs.frozen (by omega) (by omega)).trans h.f1⟩
end
section
variable {w : World} {T b f : Nat} {caps : Array Value} {g : Int → Int} {Ev : World → Prop} {k zt zx zy za : Int} {ta : Bool} {Aa : Option Addr} {na ca : Nat} {tt : Bool} {At : Option Addr} {nt ct : Nat} {t : Bool} {A : Option Addr} {n c : Nat} {t' : Bool} {A' : Option Addr} {n' c' : Nat}
set_option maxHeartbeats 4000000 in
theorem next_c (H : Each T b f caps g Ev) (hE : Ev w) (hC : Cc w b k) (hK : St T k) (hW : Wk w b f caps ta Aa na ca tt At nt ct) (vt : Vn w k zt tt At nt ct) (vx : Vn w k zx t A n c) (vy : Vn w k zy t' A' n' c') (va : Vn w k za ta Aa na ca)
    (q0 : (zt * zy).natAbs ≤ T) (q1 : ((zt * zy) - zx).natAbs ≤ T) :
    Calls Try.prog 99 #[.pointer (some ⟨b, 0, none⟩), .agg #[.bool t, .slice A n c], .agg #[.bool t', .slice A' n' c']] w (Wv T b k (g ((zt * zy) - zx)) w) := by
  have HH := Lib.hid H
  have heg := H.enters
  have E0 := En.start w b t A n c t' A' n' c' hC.lt
  have S0 := E0.stp
  have hlt := hC.lt
  have HC := Lib.hid (((hC.alloc (.cells #[.bool t, .slice A n c] 24)).alloc (.cells #[.bool t', .slice A' n' c'] 24)).alloc (.cells #[.bool false, .slice none 0 0] 24))
  have HW := Lib.hid (hW.stp S0)
  have HV := Lib.hid (And.intro (H.stp _ _ _ hE hC S0) (And.intro (vt.next hC S0 id) (And.intro (vx.next hC S0 id) (And.intro (vy.next hC S0 id) (va.next hC S0 id)))))
  have HK := Lib.hid hK
  have Q0 := Lib.hid q0
  have Q1 := Lib.hid q1
  have HE := Lib.hid E0
  clear E0 S0 H hE hC hK hW vt vx vy va q0 q1
  go_enter Try.func99, Try.ntmps99
  go_upto_region 1 with (fail)
  generalize ((w.alloc (.cells #[.bool t, .slice A n c] 24)).alloc (.cells #[.bool t', .slice A' n' c'] 24)).alloc (.cells #[.bool false, .slice none 0 0] 24) = W0 at HC HW HV HE ⊢
  have a0 := HE.out.a0
  have a1 := HE.out.a1
  have b0 := HE.out.b0
  have b1 := HE.out.b1
  have r0 := HE.out.r0
  have r1 := HE.out.r1
  have f0 := HE.out.f0
  have f1 := HE.out.f1
  have e1 := HW.out.e1
  have g0 := HW.out.t0
  have g1 := HW.out.t1
  have h0 := HW.out.a0
  have h1 := HW.out.a1
  go_region_held3 (fun w' => w'.cell? ⟨w.heap.size, 0, none⟩ = some (.bool t) ∧ w'.cell? ⟨w.heap.size, 1, none⟩ = some (.slice A n c) ∧ w'.cell? ⟨w.heap.size + 1, 0, none⟩ = some (.bool t') ∧ w'.cell? ⟨w.heap.size + 1, 1, none⟩ = some (.slice A' n' c') ∧ w'.cell? ⟨b, 1, none⟩ = some (.func (.func f) #[] caps) ∧ w'.cell? ⟨b, 4, none⟩ = some (.bool tt) ∧ w'.cell? ⟨b, 5, none⟩ = some (.slice At nt ct)) (first | exact ⟨a0, a1, b0, b1, e1, g0, g1⟩ | exact ⟨cell_two (by omega) a0, cell_two (by omega) a1, cell_two (by omega) b0, cell_two (by omega) b1, cell_two (by omega) e1, cell_two (by omega) g0, cell_two (by omega) g1⟩)
    (first
      | (go_at_call 95; (with_reducible refine (cMul_c T b k (zt) (zy) tt t' At A' nt ct n' c' _ (HC.out.below (Below.refl _ _).drew) HK.out (fun _ => Q0.out) (Vn.pair (Vn.below HV.out.2.1 (Below.refl _ _).drew) (Vn.below HV.out.2.2.2.1 (Below.refl _ _).drew))).mono ?_); rintro e W1 ⟨tx0, Bx0, mx0, dx0, k0, rfl, s0, c1, v1, st1⟩; have s1 := ((Stp.of_below HC.out.lt (Below.refl _ _).drew).trans s0); have z1 := fun e => (v1 e).1; replace HE := Lib.hid (HE.out.next s1); replace HW := Lib.hid (HW.out.stp s1); replace HV := Lib.hid (And.intro (HH.out.stp _ _ _ HV.out.1 HC.out s1) (And.intro (HV.out.2.1.next HC.out s1 z1) (And.intro (HV.out.2.2.1.next HC.out s1 z1) (And.intro (HV.out.2.2.2.1.next HC.out s1 z1) (HV.out.2.2.2.2.next HC.out s1 z1))))); have U0 : Hid (Vn _ _ (zt * zy) _ _ _ _) := fun e => (v1 e).2; have Z0 := Lib.hid z1; replace HC := Lib.hid c1; replace HK := Lib.hid st1; clear s0 s1 c1 v1 st1 z1 a0 a1 b0 b1 r0 r1 f0 f1 e1 g0 g1 h0 h1; have a0 := HE.out.a0; have a1 := HE.out.a1; have b0 := HE.out.b0; have b1 := HE.out.b1; have r0 := HE.out.r0; have r1 := HE.out.r1; have f0 := HE.out.f0; have f1 := HE.out.f1; have e1 := HW.out.e1; have g0 := HW.out.t0; have g1 := HW.out.t1; have h0 := HW.out.a0; have h1 := HW.out.a1)
      | (go_at_call 94; (with_reducible refine (cSub_c T b k0 ((zt * zy)) (zx) tx0 t Bx0 A mx0 dx0 n c _ HC.out HK.out (fun _ => Q1.out) (Vn.pair U0.out HV.out.2.2.1)).mono ?_); rintro e W2 ⟨tx1, Bx1, mx1, dx1, k1, rfl, s0, c1, v1, st1⟩; have s1 := s0; have z1 := fun e => (v1 e).1; replace HE := Lib.hid (HE.out.next s1); replace HW := Lib.hid (HW.out.stp s1); replace HV := Lib.hid (And.intro (HH.out.stp _ _ _ HV.out.1 HC.out s1) (And.intro (HV.out.2.1.next HC.out s1 z1) (And.intro (HV.out.2.2.1.next HC.out s1 z1) (And.intro (HV.out.2.2.2.1.next HC.out s1 z1) (HV.out.2.2.2.2.next HC.out s1 z1))))); replace U0 := Lib.hid (U0.out.next HC.out s1 z1); have U1 : Hid (Vn _ _ ((zt * zy) - zx) _ _ _ _) := fun e => (v1 e).2; have Z1 := Lib.hid (fun e => Z0.out (z1 e)); replace HC := Lib.hid c1; replace HK := Lib.hid st1; clear s0 s1 c1 v1 st1 z1 a0 a1 b0 b1 r0 r1 f0 f1 e1 g0 g1 h0 h1; have a0 := HE.out.a0; have a1 := HE.out.a1; have b0 := HE.out.b0; have b1 := HE.out.b1; have r0 := HE.out.r0; have r1 := HE.out.r1; have f0 := HE.out.f0; have f1 := HE.out.f1; have e1 := HW.out.e1; have g0 := HW.out.t0; have g1 := HW.out.t1; have h0 := HW.out.a0; have h1 := HW.out.a1)
      | ((with_reducible refine (HH.out.call _ k1 ((zt * zy) - zx) tx1 Bx1 mx1 dx1 HV.out.1 HC.out HK.out U1.out).mono ?_); rintro e W3 ⟨tx2, Bx2, mx2, dx2, k2, rfl, s0, c1, v1, st1⟩; have s1 := s0; have z1 := fun e => (v1 e).1; replace HE := Lib.hid (HE.out.next s1); replace HW := Lib.hid (HW.out.stp s1); replace HV := Lib.hid (And.intro (HH.out.stp _ _ _ HV.out.1 HC.out s1) (And.intro (HV.out.2.1.next HC.out s1 z1) (And.intro (HV.out.2.2.1.next HC.out s1 z1) (And.intro (HV.out.2.2.2.1.next HC.out s1 z1) (HV.out.2.2.2.2.next HC.out s1 z1))))); replace U0 := Lib.hid (U0.out.next HC.out s1 z1); replace U1 := Lib.hid (U1.out.next HC.out s1 z1); have U2 : Hid (Vn _ _ (g ((zt * zy) - zx)) _ _ _ _) := fun e => (v1 e).2; have Z2 := Lib.hid (fun e => Z1.out (z1 e)); replace HC := Lib.hid c1; replace HK := Lib.hid st1; clear s0 s1 c1 v1 st1 z1 a0 a1 b0 b1 r0 r1 f0 f1 e1 g0 g1 h0 h1; have a0 := HE.out.a0; have a1 := HE.out.a1; have b0 := HE.out.b0; have b1 := HE.out.b1; have r0 := HE.out.r0; have r1 := HE.out.r1; have f0 := HE.out.f0; have f1 := HE.out.f1; have e1 := HW.out.e1; have g0 := HW.out.t0; have g1 := HW.out.t1; have h0 := HW.out.a0; have h1 := HW.out.a1)
      | fail "no arm")
  go_wp2
  have hsz := HE.out.size
  have hne : w.heap.size + 1 + 1 ≠ b := by omega
  refine bodyPost_ret (v := .agg #[.bool tx2, .slice Bx2 mx2 dx2]) (by simp [results, Try.results99, go_sem, r0, r1]) rfl ?_
  exact ⟨tx2, Bx2, mx2, dx2, k2, rfl, HE.out.stp.two (by omega) hne _ _, HC.out.two hne _ _, fun e => ⟨Z2.out e, (U2.out e).two r0 r1 _ _⟩, HK.out⟩
set_option maxHeartbeats 4000000 in
theorem chiOf_c (H : Each T b f caps g Ev) (hE : Ev w) (hC : Cc w b k) (hK : St T k) (hW : Wk w b f caps ta Aa na ca tt At nt ct) (vt : Vn w k zt tt At nt ct) (vx : Vn w k zx t A n c) (vy : Vn w k zy t' A' n' c') (va : Vn w k za ta Aa na ca)
    (q0 : (za * zx).natAbs ≤ T) (q1 : (zy - (za * zx)).natAbs ≤ T) :
    Calls Try.prog 63 #[.pointer (some ⟨b, 0, none⟩), .agg #[.bool t, .slice A n c], .agg #[.bool t', .slice A' n' c']] w (Wv T b k (g (zy - (za * zx))) w) := by
  have HH := Lib.hid H
  have heg := H.enters
  have E0 := En.start w b t A n c t' A' n' c' hC.lt
  have S0 := E0.stp
  have hlt := hC.lt
  have HC := Lib.hid (((hC.alloc (.cells #[.bool t, .slice A n c] 24)).alloc (.cells #[.bool t', .slice A' n' c'] 24)).alloc (.cells #[.bool false, .slice none 0 0] 24))
  have HW := Lib.hid (hW.stp S0)
  have HV := Lib.hid (And.intro (H.stp _ _ _ hE hC S0) (And.intro (vt.next hC S0 id) (And.intro (vx.next hC S0 id) (And.intro (vy.next hC S0 id) (va.next hC S0 id)))))
  have HK := Lib.hid hK
  have Q0 := Lib.hid q0
  have Q1 := Lib.hid q1
  have HE := Lib.hid E0
  clear E0 S0 H hE hC hK hW vt vx vy va q0 q1
  go_enter Try.func63, Try.ntmps63
  go_upto_region 1 with (fail)
  generalize ((w.alloc (.cells #[.bool t, .slice A n c] 24)).alloc (.cells #[.bool t', .slice A' n' c'] 24)).alloc (.cells #[.bool false, .slice none 0 0] 24) = W0 at HC HW HV HE ⊢
  have a0 := HE.out.a0
  have a1 := HE.out.a1
  have b0 := HE.out.b0
  have b1 := HE.out.b1
  have r0 := HE.out.r0
  have r1 := HE.out.r1
  have f0 := HE.out.f0
  have f1 := HE.out.f1
  have e1 := HW.out.e1
  have g0 := HW.out.t0
  have g1 := HW.out.t1
  have h0 := HW.out.a0
  have h1 := HW.out.a1
  go_region_held3 (fun w' => w'.cell? ⟨w.heap.size, 0, none⟩ = some (.bool t) ∧ w'.cell? ⟨w.heap.size, 1, none⟩ = some (.slice A n c) ∧ w'.cell? ⟨w.heap.size + 1, 0, none⟩ = some (.bool t') ∧ w'.cell? ⟨w.heap.size + 1, 1, none⟩ = some (.slice A' n' c') ∧ w'.cell? ⟨b, 1, none⟩ = some (.func (.func f) #[] caps) ∧ w'.cell? ⟨b, 2, none⟩ = some (.bool ta) ∧ w'.cell? ⟨b, 3, none⟩ = some (.slice Aa na ca)) (first | exact ⟨a0, a1, b0, b1, e1, h0, h1⟩ | exact ⟨cell_two (by omega) a0, cell_two (by omega) a1, cell_two (by omega) b0, cell_two (by omega) b1, cell_two (by omega) e1, cell_two (by omega) h0, cell_two (by omega) h1⟩)
    (first
      | (go_at_call 95; (with_reducible refine (cMul_c T b k (za) (zx) ta t Aa A na ca n c _ (HC.out.below (Below.refl _ _).drew) HK.out (fun _ => Q0.out) (Vn.pair (Vn.below HV.out.2.2.2.2 (Below.refl _ _).drew) (Vn.below HV.out.2.2.1 (Below.refl _ _).drew))).mono ?_); rintro e W1 ⟨tx0, Bx0, mx0, dx0, k0, rfl, s0, c1, v1, st1⟩; have s1 := ((Stp.of_below HC.out.lt (Below.refl _ _).drew).trans s0); have z1 := fun e => (v1 e).1; replace HE := Lib.hid (HE.out.next s1); replace HW := Lib.hid (HW.out.stp s1); replace HV := Lib.hid (And.intro (HH.out.stp _ _ _ HV.out.1 HC.out s1) (And.intro (HV.out.2.1.next HC.out s1 z1) (And.intro (HV.out.2.2.1.next HC.out s1 z1) (And.intro (HV.out.2.2.2.1.next HC.out s1 z1) (HV.out.2.2.2.2.next HC.out s1 z1))))); have U0 : Hid (Vn _ _ (za * zx) _ _ _ _) := fun e => (v1 e).2; have Z0 := Lib.hid z1; replace HC := Lib.hid c1; replace HK := Lib.hid st1; clear s0 s1 c1 v1 st1 z1 a0 a1 b0 b1 r0 r1 f0 f1 e1 g0 g1 h0 h1; have a0 := HE.out.a0; have a1 := HE.out.a1; have b0 := HE.out.b0; have b1 := HE.out.b1; have r0 := HE.out.r0; have r1 := HE.out.r1; have f0 := HE.out.f0; have f1 := HE.out.f1; have e1 := HW.out.e1; have g0 := HW.out.t0; have g1 := HW.out.t1; have h0 := HW.out.a0; have h1 := HW.out.a1)
      | (go_at_call 94; (with_reducible refine (cSub_c T b k0 (zy) ((za * zx)) t' tx0 A' Bx0 n' c' mx0 dx0 _ HC.out HK.out (fun _ => Q1.out) (Vn.pair HV.out.2.2.2.1 U0.out)).mono ?_); rintro e W2 ⟨tx1, Bx1, mx1, dx1, k1, rfl, s0, c1, v1, st1⟩; have s1 := s0; have z1 := fun e => (v1 e).1; replace HE := Lib.hid (HE.out.next s1); replace HW := Lib.hid (HW.out.stp s1); replace HV := Lib.hid (And.intro (HH.out.stp _ _ _ HV.out.1 HC.out s1) (And.intro (HV.out.2.1.next HC.out s1 z1) (And.intro (HV.out.2.2.1.next HC.out s1 z1) (And.intro (HV.out.2.2.2.1.next HC.out s1 z1) (HV.out.2.2.2.2.next HC.out s1 z1))))); replace U0 := Lib.hid (U0.out.next HC.out s1 z1); have U1 : Hid (Vn _ _ (zy - (za * zx)) _ _ _ _) := fun e => (v1 e).2; have Z1 := Lib.hid (fun e => Z0.out (z1 e)); replace HC := Lib.hid c1; replace HK := Lib.hid st1; clear s0 s1 c1 v1 st1 z1 a0 a1 b0 b1 r0 r1 f0 f1 e1 g0 g1 h0 h1; have a0 := HE.out.a0; have a1 := HE.out.a1; have b0 := HE.out.b0; have b1 := HE.out.b1; have r0 := HE.out.r0; have r1 := HE.out.r1; have f0 := HE.out.f0; have f1 := HE.out.f1; have e1 := HW.out.e1; have g0 := HW.out.t0; have g1 := HW.out.t1; have h0 := HW.out.a0; have h1 := HW.out.a1)
      | ((with_reducible refine (HH.out.call _ k1 (zy - (za * zx)) tx1 Bx1 mx1 dx1 HV.out.1 HC.out HK.out U1.out).mono ?_); rintro e W3 ⟨tx2, Bx2, mx2, dx2, k2, rfl, s0, c1, v1, st1⟩; have s1 := s0; have z1 := fun e => (v1 e).1; replace HE := Lib.hid (HE.out.next s1); replace HW := Lib.hid (HW.out.stp s1); replace HV := Lib.hid (And.intro (HH.out.stp _ _ _ HV.out.1 HC.out s1) (And.intro (HV.out.2.1.next HC.out s1 z1) (And.intro (HV.out.2.2.1.next HC.out s1 z1) (And.intro (HV.out.2.2.2.1.next HC.out s1 z1) (HV.out.2.2.2.2.next HC.out s1 z1))))); replace U0 := Lib.hid (U0.out.next HC.out s1 z1); replace U1 := Lib.hid (U1.out.next HC.out s1 z1); have U2 : Hid (Vn _ _ (g (zy - (za * zx))) _ _ _ _) := fun e => (v1 e).2; have Z2 := Lib.hid (fun e => Z1.out (z1 e)); replace HC := Lib.hid c1; replace HK := Lib.hid st1; clear s0 s1 c1 v1 st1 z1 a0 a1 b0 b1 r0 r1 f0 f1 e1 g0 g1 h0 h1; have a0 := HE.out.a0; have a1 := HE.out.a1; have b0 := HE.out.b0; have b1 := HE.out.b1; have r0 := HE.out.r0; have r1 := HE.out.r1; have f0 := HE.out.f0; have f1 := HE.out.f1; have e1 := HW.out.e1; have g0 := HW.out.t0; have g1 := HW.out.t1; have h0 := HW.out.a0; have h1 := HW.out.a1)
      | fail "no arm")
  go_wp2
  have hsz := HE.out.size
  have hne : w.heap.size + 1 + 1 ≠ b := by omega
  refine bodyPost_ret (v := .agg #[.bool tx2, .slice Bx2 mx2 dx2]) (by simp [results, Try.results63, go_sem, r0, r1]) rfl ?_
  exact ⟨tx2, Bx2, mx2, dx2, k2, rfl, HE.out.stp.two (by omega) hne _ _, HC.out.two hne _ _, fun e => ⟨Z2.out e, (U2.out e).two r0 r1 _ _⟩, HK.out⟩
set_option maxHeartbeats 4000000 in
theorem odd_c (H : Each T b f caps g Ev) (hE : Ev w) (hC : Cc w b k) (hK : St T k) (hW : Wk w b f caps ta Aa na ca tt At nt ct) (vt : Vn w k zt tt At nt ct) (vx : Vn w k zx t A n c) (vy : Vn w k zy t' A' n' c') (va : Vn w k za ta Aa na ca)
    (q0 : (zy - zx).natAbs ≤ T) (q1 : (zy + zx).natAbs ≤ T) (q2 : ((zy - zx) * (zy + zx)).natAbs ≤ T) :
    Calls Try.prog 93 #[.pointer (some ⟨b, 0, none⟩), .agg #[.bool t, .slice A n c], .agg #[.bool t', .slice A' n' c']] w (Wv T b k (g ((zy - zx) * (zy + zx))) w) := by
  have HH := Lib.hid H
  have heg := H.enters
  have E0 := En.start w b t A n c t' A' n' c' hC.lt
  have S0 := E0.stp
  have hlt := hC.lt
  have HC := Lib.hid (((hC.alloc (.cells #[.bool t, .slice A n c] 24)).alloc (.cells #[.bool t', .slice A' n' c'] 24)).alloc (.cells #[.bool false, .slice none 0 0] 24))
  have HW := Lib.hid (hW.stp S0)
  have HV := Lib.hid (And.intro (H.stp _ _ _ hE hC S0) (And.intro (vt.next hC S0 id) (And.intro (vx.next hC S0 id) (And.intro (vy.next hC S0 id) (va.next hC S0 id)))))
  have HK := Lib.hid hK
  have Q0 := Lib.hid q0
  have Q1 := Lib.hid q1
  have Q2 := Lib.hid q2
  have HE := Lib.hid E0
  clear E0 S0 H hE hC hK hW vt vx vy va q0 q1 q2
  go_enter Try.func93, Try.ntmps93
  go_upto_region 1 with (fail)
  generalize ((w.alloc (.cells #[.bool t, .slice A n c] 24)).alloc (.cells #[.bool t', .slice A' n' c'] 24)).alloc (.cells #[.bool false, .slice none 0 0] 24) = W0 at HC HW HV HE ⊢
  have a0 := HE.out.a0
  have a1 := HE.out.a1
  have b0 := HE.out.b0
  have b1 := HE.out.b1
  have r0 := HE.out.r0
  have r1 := HE.out.r1
  have f0 := HE.out.f0
  have f1 := HE.out.f1
  have e1 := HW.out.e1
  have g0 := HW.out.t0
  have g1 := HW.out.t1
  have h0 := HW.out.a0
  have h1 := HW.out.a1
  go_region_held3 (fun w' => w'.cell? ⟨w.heap.size, 0, none⟩ = some (.bool t) ∧ w'.cell? ⟨w.heap.size, 1, none⟩ = some (.slice A n c) ∧ w'.cell? ⟨w.heap.size + 1, 0, none⟩ = some (.bool t') ∧ w'.cell? ⟨w.heap.size + 1, 1, none⟩ = some (.slice A' n' c') ∧ w'.cell? ⟨b, 1, none⟩ = some (.func (.func f) #[] caps)) (first | exact ⟨a0, a1, b0, b1, e1⟩ | exact ⟨cell_two (by omega) a0, cell_two (by omega) a1, cell_two (by omega) b0, cell_two (by omega) b1, cell_two (by omega) e1⟩)
    (first
      | (go_at_call 94; (with_reducible refine (cSub_c T b k (zy) (zx) t' t A' A n' c' n c _ (HC.out.below (Below.refl _ _).drew) HK.out (fun _ => Q0.out) (Vn.pair (Vn.below HV.out.2.2.2.1 (Below.refl _ _).drew) (Vn.below HV.out.2.2.1 (Below.refl _ _).drew))).mono ?_); rintro e W1 ⟨tx0, Bx0, mx0, dx0, k0, rfl, s0, c1, v1, st1⟩; have s1 := ((Stp.of_below HC.out.lt (Below.refl _ _).drew).trans s0); have z1 := fun e => (v1 e).1; replace HE := Lib.hid (HE.out.next s1); replace HW := Lib.hid (HW.out.stp s1); replace HV := Lib.hid (And.intro (HH.out.stp _ _ _ HV.out.1 HC.out s1) (And.intro (HV.out.2.1.next HC.out s1 z1) (And.intro (HV.out.2.2.1.next HC.out s1 z1) (And.intro (HV.out.2.2.2.1.next HC.out s1 z1) (HV.out.2.2.2.2.next HC.out s1 z1))))); have U0 : Hid (Vn _ _ (zy - zx) _ _ _ _) := fun e => (v1 e).2; have Z0 := Lib.hid z1; replace HC := Lib.hid c1; replace HK := Lib.hid st1; clear s0 s1 c1 v1 st1 z1 a0 a1 b0 b1 r0 r1 f0 f1 e1 g0 g1 h0 h1; have a0 := HE.out.a0; have a1 := HE.out.a1; have b0 := HE.out.b0; have b1 := HE.out.b1; have r0 := HE.out.r0; have r1 := HE.out.r1; have f0 := HE.out.f0; have f1 := HE.out.f1; have e1 := HW.out.e1; have g0 := HW.out.t0; have g1 := HW.out.t1; have h0 := HW.out.a0; have h1 := HW.out.a1)
      | (go_at_call 90; (with_reducible refine (cAdd_c T b k0 (zy) (zx) t' t A' A n' c' n c _ HC.out HK.out (fun _ => Q1.out) (Vn.pair HV.out.2.2.2.1 HV.out.2.2.1)).mono ?_); rintro e W2 ⟨tx1, Bx1, mx1, dx1, k1, rfl, s0, c1, v1, st1⟩; have s1 := s0; have z1 := fun e => (v1 e).1; replace HE := Lib.hid (HE.out.next s1); replace HW := Lib.hid (HW.out.stp s1); replace HV := Lib.hid (And.intro (HH.out.stp _ _ _ HV.out.1 HC.out s1) (And.intro (HV.out.2.1.next HC.out s1 z1) (And.intro (HV.out.2.2.1.next HC.out s1 z1) (And.intro (HV.out.2.2.2.1.next HC.out s1 z1) (HV.out.2.2.2.2.next HC.out s1 z1))))); replace U0 := Lib.hid (U0.out.next HC.out s1 z1); have U1 : Hid (Vn _ _ (zy + zx) _ _ _ _) := fun e => (v1 e).2; have Z1 := Lib.hid (fun e => Z0.out (z1 e)); replace HC := Lib.hid c1; replace HK := Lib.hid st1; clear s0 s1 c1 v1 st1 z1 a0 a1 b0 b1 r0 r1 f0 f1 e1 g0 g1 h0 h1; have a0 := HE.out.a0; have a1 := HE.out.a1; have b0 := HE.out.b0; have b1 := HE.out.b1; have r0 := HE.out.r0; have r1 := HE.out.r1; have f0 := HE.out.f0; have f1 := HE.out.f1; have e1 := HW.out.e1; have g0 := HW.out.t0; have g1 := HW.out.t1; have h0 := HW.out.a0; have h1 := HW.out.a1)
      | (go_at_call 95; (with_reducible refine (cMul_c T b k1 ((zy - zx)) ((zy + zx)) tx0 tx1 Bx0 Bx1 mx0 dx0 mx1 dx1 _ HC.out HK.out (fun _ => Q2.out) (Vn.pair U0.out U1.out)).mono ?_); rintro e W3 ⟨tx2, Bx2, mx2, dx2, k2, rfl, s0, c1, v1, st1⟩; have s1 := s0; have z1 := fun e => (v1 e).1; replace HE := Lib.hid (HE.out.next s1); replace HW := Lib.hid (HW.out.stp s1); replace HV := Lib.hid (And.intro (HH.out.stp _ _ _ HV.out.1 HC.out s1) (And.intro (HV.out.2.1.next HC.out s1 z1) (And.intro (HV.out.2.2.1.next HC.out s1 z1) (And.intro (HV.out.2.2.2.1.next HC.out s1 z1) (HV.out.2.2.2.2.next HC.out s1 z1))))); replace U0 := Lib.hid (U0.out.next HC.out s1 z1); replace U1 := Lib.hid (U1.out.next HC.out s1 z1); have U2 : Hid (Vn _ _ ((zy - zx) * (zy + zx)) _ _ _ _) := fun e => (v1 e).2; have Z2 := Lib.hid (fun e => Z1.out (z1 e)); replace HC := Lib.hid c1; replace HK := Lib.hid st1; clear s0 s1 c1 v1 st1 z1 a0 a1 b0 b1 r0 r1 f0 f1 e1 g0 g1 h0 h1; have a0 := HE.out.a0; have a1 := HE.out.a1; have b0 := HE.out.b0; have b1 := HE.out.b1; have r0 := HE.out.r0; have r1 := HE.out.r1; have f0 := HE.out.f0; have f1 := HE.out.f1; have e1 := HW.out.e1; have g0 := HW.out.t0; have g1 := HW.out.t1; have h0 := HW.out.a0; have h1 := HW.out.a1)
      | ((with_reducible refine (HH.out.call _ k2 ((zy - zx) * (zy + zx)) tx2 Bx2 mx2 dx2 HV.out.1 HC.out HK.out U2.out).mono ?_); rintro e W4 ⟨tx3, Bx3, mx3, dx3, k3, rfl, s0, c1, v1, st1⟩; have s1 := s0; have z1 := fun e => (v1 e).1; replace HE := Lib.hid (HE.out.next s1); replace HW := Lib.hid (HW.out.stp s1); replace HV := Lib.hid (And.intro (HH.out.stp _ _ _ HV.out.1 HC.out s1) (And.intro (HV.out.2.1.next HC.out s1 z1) (And.intro (HV.out.2.2.1.next HC.out s1 z1) (And.intro (HV.out.2.2.2.1.next HC.out s1 z1) (HV.out.2.2.2.2.next HC.out s1 z1))))); replace U0 := Lib.hid (U0.out.next HC.out s1 z1); replace U1 := Lib.hid (U1.out.next HC.out s1 z1); replace U2 := Lib.hid (U2.out.next HC.out s1 z1); have U3 : Hid (Vn _ _ (g ((zy - zx) * (zy + zx))) _ _ _ _) := fun e => (v1 e).2; have Z3 := Lib.hid (fun e => Z2.out (z1 e)); replace HC := Lib.hid c1; replace HK := Lib.hid st1; clear s0 s1 c1 v1 st1 z1 a0 a1 b0 b1 r0 r1 f0 f1 e1 g0 g1 h0 h1; have a0 := HE.out.a0; have a1 := HE.out.a1; have b0 := HE.out.b0; have b1 := HE.out.b1; have r0 := HE.out.r0; have r1 := HE.out.r1; have f0 := HE.out.f0; have f1 := HE.out.f1; have e1 := HW.out.e1; have g0 := HW.out.t0; have g1 := HW.out.t1; have h0 := HW.out.a0; have h1 := HW.out.a1)
      | fail "no arm")
  go_wp2
  have hsz := HE.out.size
  have hne : w.heap.size + 1 + 1 ≠ b := by omega
  refine bodyPost_ret (v := .agg #[.bool tx3, .slice Bx3 mx3 dx3]) (by simp [results, Try.results93, go_sem, r0, r1]) rfl ?_
  exact ⟨tx3, Bx3, mx3, dx3, k3, rfl, HE.out.stp.two (by omega) hne _ _, HC.out.two hne _ _, fun e => ⟨Z3.out e, (U3.out e).two r0 r1 _ _⟩, HK.out⟩
end
end Go.Proofs.Ytbblckaplddggaa

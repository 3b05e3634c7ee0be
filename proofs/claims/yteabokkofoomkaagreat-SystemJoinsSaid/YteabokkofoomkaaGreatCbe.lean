import Derived.Test.YteabokkofoomkaaGreatCbd
import Derived.Test.YteabokkofoomkaaGreatCau
import Derived.Laws.EntriesVeiled
import Derived.LoopN
set_option maxRecDepth 100000
namespace Go.Proofs.YteabokkofoomkaaGreat
open Go.RowKit Go.Shelf
section
variable {w W W' : World} {T b f : Nat} {caps : Array Value} {g : Int → Int} {Ev : World → Prop} {k k' zt zx zy za z : Int} {ta : Bool} {Aa : Option Addr} {na ca : Nat} {tt : Bool} {At : Option Addr} {nt ct : Nat} {t : Bool} {A : Option Addr} {n c : Nat} {t' : Bool} {A' : Option Addr} {n' c' : Nat} {e : Ending}
structure EvOk (T : Nat) (g : Int → Int) (zt : Int) (P : Nat → Int) (j : Nat) : Prop where
 ev : g (P j * (P (j + 1) - (zt * P j - P (j + 1)))) = P (2 * j)
 a1 : (zt * P j).natAbs ≤ T
 a2 : (zt * P j - P (j + 1)).natAbs ≤ T
 a3 : (P (j + 1) - (zt * P j - P (j + 1))).natAbs ≤ T
 a4 : (P j * (P (j + 1) - (zt * P j - P (j + 1)))).natAbs ≤ T
structure OdOk (T : Nat) (g : Int → Int) (P : Nat → Int) (j : Nat) : Prop where
 od : g ((P (j + 1) - P j) * (P (j + 1) + P j)) = P (2 * j + 1)
 b1 : (P (j + 1) - P j).natAbs ≤ T
 b2 : (P (j + 1) + P j).natAbs ≤ T
 b3 : ((P (j + 1) - P j) * (P (j + 1) + P j)).natAbs ≤ T
theorem quo_two {K : Int} {N : Nat} (h : K = (N : Int)) : K / 2 = ((N / 2 : Nat) : Int) := by omega
set_option maxHeartbeats 4000000 in
theorem psi_c (h : Ms T b f caps g Ev zt za ta Aa na ca tt At nt ct w k) (N : Nat) (hN : N < 9223372036854775808) (P : Nat → Int) (hP : Sq T g zt P (N / 2)) (hE : N % 2 = 0 → EvOk T g zt P (N / 2)) (hO : N % 2 = 1 → OdOk T g P (N / 2)) :
 Calls Tryz.prog 138 #[.pointer (some ⟨b, 0, none⟩), .int .i64 (N : Int)] w (Wm T b f caps g Ev zt za ta Aa na ca tt At nt ct k (P N) w) := by
 have hlt := h.cc.lt
 have H0 := Lib.hid h
 have HP := Lib.hid hP
 have HN := Lib.hid hN
 have hb0 : Below w.heap.size w (w.alloc (.cells #[.bool false, .slice none 0 0] 58)) := below_alloc _ _
 have HM := Lib.hid (h.below hb0)
 have R4 := Lib.hid (Vb.new w w false none 0 0 (Nat.le_refl _))
 have HS := Lib.hid (Stp.of_below hlt hb0)
 obtain ⟨K, hK⟩ : ∃ K : Int, K = (N : Int) := ⟨_, rfl⟩
 have hK0 : 0 ≤ K := by omega
 have hK1 : K < 9223372036854775808 := by omega
 rw [← hK]
 have HKN := Lib.hid hK
 clear h hP hN hb0 hK
 go_enter Tryz.func138, Tryz.ntmps138
 go_wp2_with fail
 generalize w.alloc (.cells #[.bool false, .slice none 0 0] 58) = W0 at HM R4 HS ⊢
 rw [quo_two HKN.out]
 refine (at_c HM.out (N / 2) (Nat.lt_of_le_of_lt (Nat.div_le_self _ _) HN.out) P HP.out).mono ?_
 rintro e W1 ⟨tl, Al, nl, cl, th, Ah, nh, ch, k1, rfl, s1, ms1, z1, vl, vh⟩
 have b1 := below_alloc W1 (ob2 tl Al nl cl)
 have b2 := below_alloc (W1.alloc (ob2 tl Al nl cl)) (ob2 th Ah nh ch)
 have hsz : w.heap.size < W1.heap.size := Nat.lt_of_lt_of_le R4.out.lt s1.size
 replace R4 := Lib.hid (((R4.out.next s1 hlt).below b1).below b2)
 replace HS := Lib.hid (((HS.out.trans s1).trans (Stp.of_below ms1.cc.lt b1)).trans (Stp.of_below (ms1.below b1).cc.lt b2))
 replace HM := Lib.hid ((ms1.below b1).below b2)
 have HZ := Lib.hid z1
 have VL := Lib.hid ((vl.below b1).below b2)
 have VH := Lib.hid ((vh.below b1).below b2)
 clear s1 ms1 z1 vl vh b1 b2
 by_cases hpar : N % 2 = 0
 · have t0 : (K % 2 == 0) = true := by have := HKN.out; simp; omega
   have E := Lib.hid (hE hpar)
   have EN := Lib.hid (show 2 * (N / 2) = N by omega)
   clear hE hO hpar
   go_wp2_with fail
   generalize (W1.alloc (.cells #[.bool tl, .slice Al nl cl] 58)).alloc (.cells #[.bool th, .slice Ah nh ch] 58) = W2 at R4 HS HM VL VH ⊢
   refine (even_m HM.out VL.out VH.out E.out.a1 E.out.a2 E.out.a3 E.out.a4).mono ?_
   rw [E.out.ev, EN.out]
   rintro e W3 ⟨t3, B3, m3, d3, k3, rfl, s3, ms3, z3, v3⟩
   replace R4 := Lib.hid (R4.out.next s3 hlt)
   replace HS := Lib.hid (HS.out.trans s3)
   have M3 := Lib.hid ms3
   have Z3 := Lib.hid z3
   have V3 := Lib.hid v3
   clear s3 ms3 z3 v3
   have r0 := R4.out.c0
   have r1 := R4.out.c1
   have r2 := R4.out.f0
   have r3 := R4.out.f1
   go_wp2
   have hne : w.heap.size ≠ b := by omega
   refine bodyPost_ret (v := .agg #[.bool t3, .slice B3 m3 d3]) (by simp [results, Tryz.results138, go_sem, r0, r1]) rfl ?_
   have st := HS.out.two (g := w.heap.size) (Nat.le_refl _) hne (.bool t3) (.slice B3 m3 d3)
   exact ⟨t3, B3, m3, d3, k3, rfl, st, M3.out.two hne r0 r1 (M3.out.ea.stp _ _ _ H0.out.ev H0.out.cc st), fun e => HZ.out (Z3.out e), V3.out.two r0 r1 _ _⟩
 · have t0 : (K % 2 == 0) = false := by have := HKN.out; rw [beq_eq_false_iff_ne]; omega
   have E := Lib.hid (hO (by omega))
   have EN := Lib.hid (show 2 * (N / 2) + 1 = N by omega)
   clear hE hO hpar
   go_wp2_with fail
   generalize (W1.alloc (.cells #[.bool tl, .slice Al nl cl] 58)).alloc (.cells #[.bool th, .slice Ah nh ch] 58) = W2 at R4 HS HM VL VH ⊢
   refine (odd_m HM.out VL.out VH.out E.out.b1 E.out.b2 E.out.b3).mono ?_
   rw [E.out.od, EN.out]
   rintro e W3 ⟨t3, B3, m3, d3, k3, rfl, s3, ms3, z3, v3⟩
   replace R4 := Lib.hid (R4.out.next s3 hlt)
   replace HS := Lib.hid (HS.out.trans s3)
   have M3 := Lib.hid ms3
   have Z3 := Lib.hid z3
   have V3 := Lib.hid v3
   clear s3 ms3 z3 v3
   have r0 := R4.out.c0
   have r1 := R4.out.c1
   have r2 := R4.out.f0
   have r3 := R4.out.f1
   go_wp2
   have hne : w.heap.size ≠ b := by omega
   refine bodyPost_ret (v := .agg #[.bool t3, .slice B3 m3 d3]) (by simp [results, Tryz.results138, go_sem, r0, r1]) rfl ?_
   have st := HS.out.two (g := w.heap.size) (Nat.le_refl _) hne (.bool t3) (.slice B3 m3 d3)
   exact ⟨t3, B3, m3, d3, k3, rfl, st, M3.out.two hne r0 r1 (M3.out.ea.stp _ _ _ H0.out.ev H0.out.cc st), fun e => HZ.out (Z3.out e), V3.out.two r0 r1 _ _⟩
end
section
variable {w W W' : World} {T b f : Nat} {caps : Array Value} {g : Int → Int} {Ev : World → Prop} {k k' zt zx zy za z : Int} {ta : Bool} {Aa : Option Addr} {na ca : Nat} {tt : Bool} {At : Option Addr} {nt ct : Nat} {t : Bool} {A : Option Addr} {n c : Nat} {t' : Bool} {A' : Option Addr} {n' c' : Nat} {e : Ending}
variable {p q : Nat} {z1 z2 : Int} {t1 : Bool} {A1 : Option Addr} {n1 c1 : Nat} {t2 : Bool} {A2 : Option Addr} {n2 c2 : Nat}
structure Rp1 (b : Nat) (k : Int) (w W : World) (p : Nat) (z : Int) (t : Bool) (A : Option Addr) (n c : Nat) : Prop where
 stp : Stp b w W
 cc : Cc W b k
 vb : Vb w W p t A n c
 vn : Vn W k z t A n c
theorem Vn.alloc {W : World} {k z : Int} {t : Bool} {A : Option Addr} {n c : Nat} (h : Vn W k z t A n c) (o : Obj) : Vn (W.alloc o) k z t A n c := h.below (below_alloc _ _)
theorem Rp1.late (hs : Stp b w W) (hc : Cc W b k) (hv : Vn W k z t A n c) : Rp1 b k w (W.alloc (ob2 t A n c)) W.heap.size z t A n c :=
 ⟨hs.trans (Stp.of_below hc.lt (below_alloc _ _)), hc.alloc _, Vb.new w W t A n c hs.size, hv.alloc _⟩
theorem Rp1.early (hs : Stp b w W) (hc : Cc W b k) (hv : Vn W k z t A n c) (hb : b < w.heap.size) {x : Bool} {a : Option Addr} {i j : Nat} (v : Vb w W p x a i j) : Rp1 b k w (st2 W p t A n c) p z t A n c := by
 have hg := v.ge
 exact ⟨hs.two hg (by omega) _ _, hc.two (by omega) _ _, v.put _ _ _ _, hv.two v.c0 v.c1 _ _⟩
structure Rp2 (b : Nat) (k : Int) (w W : World) (p q : Nat) (z1 : Int) (t1 : Bool) (A1 : Option Addr) (n1 c1 : Nat) (z2 : Int) (t2 : Bool) (A2 : Option Addr) (n2 c2 : Nat) : Prop where
 ne : p ≠ q
 stp : Stp b w W
 cc : Cc W b k
 vp : Vb w W p t1 A1 n1 c1
 vq : Vb w W q t2 A2 n2 c2
 v1 : Vn W k z1 t1 A1 n1 c1
 v2 : Vn W k z2 t2 A2 n2 c2
theorem Rp2.dd (hs : Stp b w W) (hc : Cc W b k) (v1 : Vn W k z1 t1 A1 n1 c1) (v2 : Vn W k z2 t2 A2 n2 c2) : Rp2 b k w ((W.alloc (ob2 t1 A1 n1 c1)).alloc (ob2 t2 A2 n2 c2)) W.heap.size (W.heap.size + 1) z1 t1 A1 n1 c1 z2 t2 A2 n2 c2 :=
 ⟨by omega, (hs.trans (Stp.of_below hc.lt (below_alloc _ _))).trans (Stp.of_below (hc.alloc _).lt (below_alloc _ _)), (hc.alloc _).alloc _, (Vb.new w W t1 A1 n1 c1 hs.size).below (below_alloc _ _), Vb.new1 w W _ t2 A2 n2 c2 hs.size, (v1.alloc _).alloc _, (v2.alloc _).alloc _⟩
theorem Rp2.dd2 (hs : Stp b w W) (hc : Cc W b k) (v1 : Vn W k z1 t1 A1 n1 c1) (v2 : Vn W k z2 t2 A2 n2 c2) : Rp2 b k w ((W.alloc (ob2 t2 A2 n2 c2)).alloc (ob2 t1 A1 n1 c1)) (W.heap.size + 1) W.heap.size z1 t1 A1 n1 c1 z2 t2 A2 n2 c2 :=
 ⟨by omega, (hs.trans (Stp.of_below hc.lt (below_alloc _ _))).trans (Stp.of_below (hc.alloc _).lt (below_alloc _ _)), (hc.alloc _).alloc _, Vb.new1 w W _ t1 A1 n1 c1 hs.size, (Vb.new w W t2 A2 n2 c2 hs.size).below (below_alloc _ _), (v1.alloc _).alloc _, (v2.alloc _).alloc _⟩
theorem Rp2.de (hs : Stp b w W) (hc : Cc W b k) (v1 : Vn W k z1 t1 A1 n1 c1) (v2 : Vn W k z2 t2 A2 n2 c2) (hb : b < w.heap.size) {x : Bool} {a : Option Addr} {i j : Nat} (v : Vb w W p x a i j) : Rp2 b k w ((st2 W p t1 A1 n1 c1).alloc (ob2 t2 A2 n2 c2)) p W.heap.size z1 t1 A1 n1 c1 z2 t2 A2 n2 c2 := by
 have h := Rp1.early hs hc v1 hb v
 have h2 := Rp1.late h.stp h.cc (v2.two v.c0 v.c1 (.bool t1) (.slice A1 n1 c1))
 have e := size_pair W p (.bool t1) (.slice A1 n1 c1)
 have hl := v.lt
 have vb := h2.vb
 rw [e] at vb
 exact ⟨by omega, h2.stp, h2.cc, h.vb.below (below_alloc _ _), vb, h.vn.alloc _, h2.vn⟩
theorem Rp2.ed (hs : Stp b w W) (hc : Cc W b k) (v1 : Vn W k z1 t1 A1 n1 c1) (v2 : Vn W k z2 t2 A2 n2 c2) (hb : b < w.heap.size) {x : Bool} {a : Option Addr} {i j : Nat} (v : Vb w W q x a i j) : Rp2 b k w ((st2 W q t2 A2 n2 c2).alloc (ob2 t1 A1 n1 c1)) W.heap.size q z1 t1 A1 n1 c1 z2 t2 A2 n2 c2 := by
 have h := Rp2.de hs hc v2 v1 hb v
 exact ⟨Ne.symm h.ne, h.stp, h.cc, h.vq, h.vp, h.v2, h.v1⟩
theorem Rp2.ee (hs : Stp b w W) (hc : Cc W b k) (v1 : Vn W k z1 t1 A1 n1 c1) (v2 : Vn W k z2 t2 A2 n2 c2) (hb : b < w.heap.size) (hne : p ≠ q) {x : Bool} {a : Option Addr} {i j : Nat} (v : Vb w W p x a i j) {x' : Bool} {a' : Option Addr} {i' j' : Nat} (v' : Vb w W q x' a' i' j') : Rp2 b k w (st2 (st2 W p t1 A1 n1 c1) q t2 A2 n2 c2) p q z1 t1 A1 n1 c1 z2 t2 A2 n2 c2 := by
 have h := Rp1.early hs hc v1 hb v
 have hg := v'.ge
 have w' := v'.far hne (.bool t1) (.slice A1 n1 c1)
 have h2 := Rp1.early h.stp h.cc (v2.two v.c0 v.c1 (.bool t1) (.slice A1 n1 c1)) hb w'
 exact ⟨hne, h2.stp, h2.cc, h.vb.far (Ne.symm hne) _ _, h2.vb, h.vn.two w'.c0 w'.c1 _ _, h2.vn⟩
theorem Rp2.ee2 (hs : Stp b w W) (hc : Cc W b k) (v1 : Vn W k z1 t1 A1 n1 c1) (v2 : Vn W k z2 t2 A2 n2 c2) (hb : b < w.heap.size) (hne : p ≠ q) {x : Bool} {a : Option Addr} {i j : Nat} (v : Vb w W p x a i j) {x' : Bool} {a' : Option Addr} {i' j' : Nat} (v' : Vb w W q x' a' i' j') : Rp2 b k w (st2 (st2 W q t2 A2 n2 c2) p t1 A1 n1 c1) p q z1 t1 A1 n1 c1 z2 t2 A2 n2 c2 := by
 have h := Rp2.ee hs hc v2 v1 hb (Ne.symm hne) v' v
 exact ⟨hne, h.stp, h.cc, h.vq, h.vp, h.v2, h.v1⟩
end
section
variable {w W W' : World} {T b f : Nat} {caps : Array Value} {g : Int → Int} {Ev : World → Prop} {k k' zt zx zy za z : Int} {ta : Bool} {Aa : Option Addr} {na ca : Nat} {tt : Bool} {At : Option Addr} {nt ct : Nat} {t : Bool} {A : Option Addr} {n c : Nat} {t' : Bool} {A' : Option Addr} {n' c' : Nat} {e : Ending}
end
section
variable {w W W' : World} {T b f : Nat} {caps : Array Value} {g : Int → Int} {Ev : World → Prop} {k k' zt zx zy za z : Int} {ta : Bool} {Aa : Option Addr} {na ca : Nat} {tt : Bool} {At : Option Addr} {nt ct : Nat} {t : Bool} {A : Option Addr} {n c : Nat} {t' : Bool} {A' : Option Addr} {n' c' : Nat} {e : Ending}
end
set_option maxHeartbeats 1000000 in
theorem exact1_c (T b : Nat) (k z : Int) (t : Bool) (A : Option Addr) (n c : Nat) (w : World) (hc : Cc w b k) (hk : St T k) (hv : Vn w k z t A n c) :
 Calls Tryz.prog 151 #[.agg #[.bool t, .slice A n c]] w (Wv T b k z w) := by
 have HC := Lib.hid hc
 have HK := Lib.hid hk
 have HV := Lib.hid hv
 clear hc hk hv
 go_enter Tryz.func151, Tryz.ntmps151
 go_wp2
 refine bodyPost_ret (v := .agg #[.bool t, .slice A n c]) (by simp [results, Tryz.results151, go_sem]) rfl ?_
 have h1 := HC.out
 have b1 := below_alloc w (ob2 t A n c)
 have b2 := below_alloc (w.alloc (ob2 t A n c)) (ob2 t A n c)
 exact ⟨t, A, n, c, k, rfl, (Stp.of_below h1.lt b1).trans (Stp.of_below (h1.alloc _).lt b2), (h1.alloc _).alloc _, fun e => ⟨e, ((HV.out e).below b1).below b2⟩, HK.out⟩
theorem entersExact : ∀ args w, (callFunc 151 args).run Tryz.prog w = .ok (.enter 151 args) w := enters_of Tryz.func151 (by kernel_rfl) rfl
theorem each_exact (T b : Nat) : Each T b 151 #[] id (fun _ => True) :=
 ⟨entersExact, fun _ _ _ _ _ _ => trivial, fun w k z t A n c _ hc hk hv => by simpa using exact1_c T b k z t A n c w hc hk hv⟩
abbrev Mx (T b : Nat) (zt za : Int) (ta : Bool) (Aa : Option Addr) (na ca : Nat) (tt : Bool) (At : Option Addr) (nt ct : Nat) (W : World) (k : Int) : Prop := Ms T b 151 #[] id (fun _ => True) zt za ta Aa na ca tt At nt ct W k
def ExactPost (T : Nat) (z : Int) (t : Bool) (A : Option Addr) (n c : Nat) (w : World) (e : Ending) (w' : World) : Prop :=
 ∃ b tt At nt ct k, e = .returned (.pointer (some ⟨b, 0, none⟩)) ∧ w.heap.size ≤ b ∧ Below w.heap.size w w' ∧ Mx T b (2 * z) z t A n c tt At nt ct w' k
theorem cell_45 {W : World} {b g o i j : Nat} {x u v : Value} (hne : g ≠ b) (h : W.cell? ⟨g, o, none⟩ = some x) : ((W.setCell ⟨b, i, none⟩ u).setCell ⟨b, j, none⟩ v).cell? ⟨g, o, none⟩ = some x := by
 rw [World.cell?_setCell_other _ _ _ _ (fun e => hne (by injection e with e; exact e.symm)), World.cell?_setCell_other _ _ _ _ (fun e => hne (by injection e with e; exact e.symm))]
 exact h
structure Nw (w W : World) (b : Nat) (t : Bool) (A : Option Addr) (n c : Nat) (k : Int) : Prop where
 ge : w.heap.size ≤ b
 cc : Cc W b k
 below : Below w.heap.size w W
 e1 : W.cell? ⟨b, 1, none⟩ = some .nilFunc
 a0 : W.cell? ⟨b, 2, none⟩ = some (.bool t)
 a1 : W.cell? ⟨b, 3, none⟩ = some (.slice A n c)
 t0 : W.cell? ⟨b, 4, none⟩ = some (.bool false)
 t1 : W.cell? ⟨b, 5, none⟩ = some (.slice none 0 0)
 fz : ∀ o, W.frozen? ⟨b, o, none⟩ = false
theorem Nw.next {w W W' : World} {b : Nat} {t : Bool} {A : Option Addr} {n c : Nat} {k k' : Int} (h : Nw w W b t A n c k) (hs : Stp b W W') (hc : Cc W' b k') : Nw w W' b t A n c k' :=
 ⟨h.ge, hc, h.below.trans (hs.below h.below.size h.ge), (hs.own 1 (by omega)).trans h.e1, (hs.own 2 (by omega)).trans h.a0, (hs.own 3 (by omega)).trans h.a1, (hs.own 4 (by omega)).trans h.t0, (hs.own 5 (by omega)).trans h.t1, fun o => (hs.frz o).trans (h.fz o)⟩
set_option maxHeartbeats 1000000 in
theorem Nw.done {w W : World} {b f : Nat} {t : Bool} {A : Option Addr} {n c : Nat} {k : Int} (h : Nw w W b t A n c k) {T : Nat} {caps : Array Value} {g : Int → Int} {Ev : World → Prop} {zt za : Int} {tt : Bool} {At : Option Addr} {nt ct : Nat} (hk : St T k) (he : Each T b f caps g Ev) (vt : Vn W k zt tt At nt ct) (va : Vn W k za t A n c)
 {X : World} (hX : ((W.setCell ⟨b, 4, none⟩ (.bool tt)).setCell ⟨b, 5, none⟩ (.slice At nt ct)).setCell ⟨b, 1, none⟩ (.func (.func f) #[] caps) = X) (hev : Ev X) : Below w.heap.size w X ∧ Ms T b f caps g Ev zt za t A n c tt At nt ct X k := by
 have p5 : (W.setCell ⟨b, 4, none⟩ (.bool tt)).cell? ⟨b, 5, none⟩ = some (.slice none 0 0) := by rw [World.cell?_setCell_other _ _ _ _ (by simp)]; exact h.t1
 have p1 : ((W.setCell ⟨b, 4, none⟩ (.bool tt)).setCell ⟨b, 5, none⟩ (.slice At nt ct)).cell? ⟨b, 1, none⟩ = some .nilFunc := by
  rw [World.cell?_setCell_other _ _ _ _ (by simp), World.cell?_setCell_other _ _ _ _ (by simp)]; exact h.e1
 subst hX
 have o : ∀ i, i ≠ 1 → i ≠ 4 → i ≠ 5 → (((W.setCell ⟨b, 4, none⟩ (.bool tt)).setCell ⟨b, 5, none⟩ (.slice At nt ct)).setCell ⟨b, 1, none⟩ (.func (.func f) #[] caps)).cell? ⟨b, i, none⟩ = W.cell? ⟨b, i, none⟩ := fun i h1 h4 h5 => by
  rw [World.cell?_setCell_other _ _ _ _ (by intro e; injection e with _ e; omega), World.cell?_setCell_other _ _ _ _ (by intro e; injection e with _ e; omega), World.cell?_setCell_other _ _ _ _ (by intro e; injection e with _ e; omega)]
 have iv : ∀ {z : Int} {t' : Bool} {A' : Option Addr} {n' c' : Nat}, Vn W k z t' A' n' c' → Vn (((W.setCell ⟨b, 4, none⟩ (.bool tt)).setCell ⟨b, 5, none⟩ (.slice At nt ct)).setCell ⟨b, 1, none⟩ (.func (.func f) #[] caps)) k z t' A' n' c' := fun v e =>
  ⟨(((v e).is.set_other h.t0 (by intro z; simp) _).set_other p5 (by intro z; simp) _).set_other p1 (by intro z; simp) _, (v e).sz⟩
 refine ⟨((h.below.setCell (p := ⟨b, 4, none⟩) h.ge _).setCell (p := ⟨b, 5, none⟩) h.ge _).setCell (p := ⟨b, 1, none⟩) h.ge _, he, ⟨?_, ?_, ?_, ?_, ?_⟩, hev, ⟨?_, ?_, ?_⟩, hk, iv vt, iv va⟩
 · exact World.cell?_setCell_same _ _ _ p1
 · rw [o 2 (by omega) (by omega) (by omega)]; exact h.a0
 · rw [o 3 (by omega) (by omega) (by omega)]; exact h.a1
 · rw [World.cell?_setCell_other _ _ _ _ (by simp), World.cell?_setCell_other _ _ _ _ (by simp)]; exact World.cell?_setCell_same _ _ _ h.t0
 · rw [World.cell?_setCell_other _ _ _ _ (by simp)]; exact World.cell?_setCell_same _ _ _ p5
 · simpa [World.setCell] using h.cc.lt
 · rw [o 0 (by omega) (by omega) (by omega)]; exact h.cc.c0
 · rw [World.frozen?_setCell, World.frozen?_setCell, World.frozen?_setCell]; exact h.cc.f0
set_option maxHeartbeats 1000000 in
theorem exact_c (T : Nat) (z : Int) (t : Bool) (A : Option Addr) (n c : Nat) (w : World) (h : Iv w z t A n c) (hz : (z + z).natAbs ≤ T) :
 Calls Tryz.prog 136 #[.agg #[.bool t, .slice A n c]] w (ExactPost T z t A n c w) := by
 have hb0 : Below w.heap.size w ((w.alloc (.cells #[.bool t, .slice A n c] 58)).alloc (.cells #[.int .i64 0, .nilFunc, .bool t, .slice A n c, .bool false, .slice none 0 0] 166)) := ((Below.refl _ _).alloc (Nat.le_refl _) _).alloc (by simp) _
 have HV := Lib.hid (h.below hb0)
 have HQ := Lib.hid hz
 have x0 : ((w.alloc (.cells #[.bool t, .slice A n c] 58)).alloc (.cells #[.int .i64 0, .nilFunc, .bool t, .slice A n c, .bool false, .slice none 0 0] 166)).cell? ⟨w.heap.size, 0, none⟩ = some (.bool t) := by go_simp
 have x1 : ((w.alloc (.cells #[.bool t, .slice A n c] 58)).alloc (.cells #[.int .i64 0, .nilFunc, .bool t, .slice A n c, .bool false, .slice none 0 0] 166)).cell? ⟨w.heap.size, 1, none⟩ = some (.slice A n c) := by go_simp
 have HN := Lib.hid (Nw.mk (w := w) (W := ((w.alloc (.cells #[.bool t, .slice A n c] 58)).alloc (.cells #[.int .i64 0, .nilFunc, .bool t, .slice A n c, .bool false, .slice none 0 0] 166))) (b := w.heap.size + 1) (t := t) (A := A) (n := n) (c := c) (k := 0) (by omega) ⟨by simp, by go_simp, by go_simp⟩ hb0 (by go_simp) (by go_simp) (by go_simp) (by go_simp) (by go_simp) (fun o => by go_simp))
 clear h hz hb0
 go_enter Tryz.func136, Tryz.ntmps136
 go_upto_region 2 with (fail)
 generalize ((w.alloc (.cells #[.bool t, .slice A n c] 58)).alloc (.cells #[.int .i64 0, .nilFunc, .bool t, .slice A n c, .bool false, .slice none 0 0] 166)) = W0 at HV x0 x1 HN ⊢
 have hlt := HN.out.cc.lt
 go_region_held3 (fun w' => w'.cell? ⟨w.heap.size, 0, none⟩ = some (.bool t) ∧ w'.cell? ⟨w.heap.size, 1, none⟩ = some (.slice A n c)) (first | (with_reducible exact ⟨x0, x1⟩) | (with_reducible exact ⟨cell_dr x0, cell_dr x1⟩) | (with_reducible exact ⟨cell_45 (by omega) x0, cell_45 (by omega) x1⟩) | fail)
  (first
   | (go_at_call 66; (with_reducible refine (cAdd_c T (w.heap.size + 1) 0 z z t t A A n c n c _ (HN.out.cc.below (Below.refl _ _).drew) (St.zero T) (fun _ => HQ.out) (Vn.pair (Iv.vn (HV.out.below (Below.refl _ _).drew)) (Iv.vn (HV.out.below (Below.refl _ _).drew)))).mono ?_); rintro e W1 ⟨t1, B1, m1, d1, k1, rfl, s0, c1, v1, st1⟩; have s1 := (Stp.of_below hlt (Below.refl _ _).drew).trans s0; have VA := Lib.hid (HV.out.vn.next HN.out.cc s1 (fun e => (v1 e).1)); have y0 := (s1.cell (p := ⟨w.heap.size, 0, none⟩) (by simp; omega) (by simp)).trans x0; have y1 := (s1.cell (p := ⟨w.heap.size, 1, none⟩) (by simp; omega) (by simp)).trans x1; clear x0 x1; have x0 := y0; have x1 := y1; have HW := Lib.hid (HN.out.next s1 c1); have VT : Hid (Vn _ _ (z + z) _ _ _ _) := fun e => (v1 e).2; have HK := Lib.hid st1; clear s0 s1 c1 v1 st1 y0 y1; have r0 := HW.out.t0; have r1 := HW.out.t1; have f4 := HW.out.fz 4; have f5 := HW.out.fz 5)
   | fail "no arm")
 have e1 := HW.out.e1
 have f1 := HW.out.fz 1
 go_wp2
 generalize hX : ((W1.setCell ⟨w.heap.size + 1, 4, none⟩ (.bool t1)).setCell ⟨w.heap.size + 1, 5, none⟩ (.slice B1 m1 d1)).setCell ⟨w.heap.size + 1, 1, none⟩ (.func (.func 151) #[] #[]) = X
 go_ret
 obtain ⟨hb, hm⟩ := HW.out.done HK.out (each_exact T (w.heap.size + 1)) VT.out VA.out hX trivial
 rw [show z + z = 2 * z by omega] at hm
 exact ⟨w.heap.size + 1, t1, B1, m1, d1, k1, rfl, by omega, hb, hm⟩
set_option maxHeartbeats 1000000 in
theorem result_c (b : Nat) (k z : Int) (t : Bool) (A : Option Addr) (n c : Nat) (w : World) (hc : Cc w b k) (hv : Vn w k z t A n c) :
 Calls Tryz.prog 137 #[.pointer (some ⟨b, 0, none⟩), .agg #[.bool t, .slice A n c]] w (fun e w' => Below w.heap.size w w' ∧ ((k = 0 → ∃ t' A' n' c', e = .returned (.tuple #[.agg #[.bool t', .slice A' n' c'], .int .i64 0]) ∧ Iv w' z t' A' n' c') ∧ (k ≠ 0 → e = .returned (.tuple #[.agg #[.bool false, .slice none 0 0], .int .i64 k])))) := by
 have HC := Lib.hid (hc.alloc (.cells #[.bool t, .slice A n c] 58) |>.alloc (.cells #[.bool false, .slice none 0 0] 58))
 have HV := Lib.hid hv
 have c0 := HC.out.c0
 clear hc hv
 by_cases hk : k = 0
 · subst hk
   go_enter Tryz.func137, Tryz.ntmps137
   go_wp2
   refine bodyPost_ret (v := .tuple #[.agg #[.bool t, .slice A n c], .int .i64 0]) (by simp [results, Tryz.results137, go_sem]) rfl ?_
   exact ⟨(below_alloc _ _).trans ((below_alloc _ _).mono (by simp)), fun _ => ⟨t, A, n, c, rfl, ((HV.out rfl).below (below_alloc _ _)).below (below_alloc _ _)⟩, fun h => absurd rfl h⟩
 · have t0 : (k != 0) = true := by simp [hk]
   have HK := Lib.hid hk
   clear hk
   go_enter Tryz.func137, Tryz.ntmps137
   go_wp2
   go_region
   go_wp2
   refine bodyPost_ret (v := .tuple #[.agg #[.bool false, .slice none 0 0], .int .i64 k]) (by simp [results, Tryz.results137, go_sem]) rfl ?_
   exact ⟨((below_alloc _ _).trans ((below_alloc _ _).mono (by simp))).drew, fun h => absurd h HK.out, fun _ => rfl⟩
end Go.Proofs.YteabokkofoomkaaGreat
namespace Go.Proofs.YteabokkofoomkaaGreat
open Go.RowKit
theorem nat_abs_le {x y : Int} {T : Nat} (h1 : -y ≤ x) (h2 : x ≤ y) (hT : y.natAbs ≤ T) : x.natAbs ≤ T := by omega
section
variable {a : Int} (ha : 2 ≤ a)
include ha
theorem four_le {n : Nat} (h : 2 ≤ n) : 4 ≤ psi a n := by have := psi_two_le ha n h; omega
theorem ev_exact {j n T : Nat} (hj : 2 * j ≤ n) (hn : 2 ≤ n) (hT : (psi a n).natAbs ≤ T) : EvOk T id (2 * a) (psi a) j := by
 have h4 := four_le ha hn
 have hb := before_le ha j
 have h2 := psi_le ha (show j ≤ n by omega)
 have h3 := psi_nn ha j
 refine ⟨(psi_even a j).symm, nat_abs_le (y := psi a n) ?_ ?_ hT, nat_abs_le (y := psi a n) ?_ ?_ hT, nat_abs_le (y := psi a n) ?_ ?_ hT, nat_abs_le (y := psi a n) ?_ ?_ hT⟩
 · have := Int.mul_nonneg (show 0 ≤ 2 * a by omega) h3; omega
 · exact Int.le_trans (twice_le ha j) (psi_le ha hj)
 · omega
 · omega
 · rw [diff_eq]; have := chi_ge ha j; omega
 · rw [diff_eq]; exact diff_le ha hj hn
 · rw [← psi_even]; have := psi_nn ha (2 * j); omega
 · rw [← psi_even]; exact psi_le ha hj
theorem od_exact {j n T : Nat} (hj : 2 * j + 1 ≤ n) (hT : (psi a n).natAbs ≤ T) : OdOk T id (psi a) j := by
 have h1 := psi_le ha (show j + 1 ≤ n by omega)
 have h2 := (grow ha j).2.2.1
 have h3 := psi_nn ha j
 have h4 := psi_le ha hj
 have h5 := sum_le ha j
 refine ⟨(psi_odd a j).symm, nat_abs_le (y := psi a n) ?_ ?_ hT, nat_abs_le (y := psi a n) ?_ ?_ hT, nat_abs_le (y := psi a n) ?_ ?_ hT⟩
 · omega
 · omega
 · omega
 · omega
 · rw [← psi_odd]; have := psi_nn ha (2 * j + 1); omega
 · rw [← psi_odd]; exact h4
theorem sq_exact {m n T : Nat} (hm : 1 ≤ m) (hn : 2 * m ≤ n) (hT : (psi a n).natAbs ≤ T) : Sq T id (2 * a) (psi a) m := by
 have e := fun (j : Nat) (hj : 2 * j ≤ m) => ev_exact (T := T) ha (j := j) (n := n) (by omega) (by omega) hT
 have o := fun (j : Nat) (hj : 2 * j ≤ m) => od_exact (T := T) ha (j := j) (n := n) (by omega) hT
 refine ⟨rfl, rfl, fun j h => (e j h).ev, fun j h => (o j h).od, fun j _ => (psi_two a (2 * j)).symm, fun j h => (e j h).a1, fun j h => (e j h).a2, fun j h => (e j h).a3, fun j h => (e j h).a4, fun j h => (o j h).b1, fun j h => (o j h).b2, fun j h => (o j h).b3, fun j h => ?_, fun j h => ?_⟩
 · have h3 := psi_nn ha (2 * j + 1)
   refine nat_abs_le (y := psi a n) ?_ ?_ hT
   · have := Int.mul_nonneg (show 0 ≤ 2 * a by omega) h3; have := psi_nn ha n; omega
   · exact Int.le_trans (twice_le ha _) (psi_le ha (by omega))
 · rw [← psi_two]
   have h3 := psi_nn ha (2 * j + 2)
   refine nat_abs_le (y := psi a n) ?_ (psi_le ha (by omega)) hT
   have := psi_nn ha n; omega
end
end Go.Proofs.YteabokkofoomkaaGreat
set_option maxRecDepth 100000
namespace Go.Proofs.YteabokkofoomkaaGreat
open Go.RowKit Go.Shelf
set_option maxHeartbeats 1000000 in
theorem Valid0_c (w : World) : Calls Tryz.prog 37 #[.slice none 0 0] w (IsB true w) := by
 go_enter Tryz.func37, Tryz.ntmps37
 go_wp2
 refine wp_loop_rounds 1 ?_
 rw [rounds_succ]
 go_wp2
 go_ret
 exact ⟨rfl, Below.refl _ _⟩
def Oth (w : World) (o : Value) (v : Bool) : Prop := ∀ W, Below w.heap.size w W → Calls Tryz.prog 37 #[o] W (IsB v W)
theorem oth_nil (w : World) : Oth w (.slice none 0 0) true := fun W _ => Valid0_c W
set_option maxHeartbeats 2000000 in
theorem check_ok {w : World} {z : Int} {t : Bool} {A : Option Addr} {n c : Nat} (h : Iv w z t A n c) (o : Value) (ho : Oth w o true) (v : Int) (hv : (2 ≤ z ∧ v = 0) ∨ (z < 2 ∧ v = 2)) :
 Calls Tryz.prog 114 #[.agg #[.bool t, .slice A n c], o] w fun e w' => e = .returned (.int .i64 v) ∧ Below w.heap.size w w' := by
 have b0 := below_alloc w (ob2 t A n c)
 have B0 := Lib.hid (Box.new h.is)
 have HV := Lib.hid (h.below b0)
 have HB := Lib.hid b0
 have HO := Lib.hid ho
 clear h b0 ho
 go_enter Tryz.func114, Tryz.ntmps114
 go_wp2_with fail
 generalize w.alloc (.cells #[.bool t, .slice A n c] 58) = W0 at B0 HV HB ⊢
 refine (Valid_i HV.out).mono ?_
 rintro e w1 ⟨rfl, hb⟩
 replace B0 := Lib.hid (B0.out.next hb)
 replace HV := Lib.hid (HV.out.below hb)
 replace HB := Lib.hid (HB.out.trans (hb.mono HB.out.size))
 clear hb
 go_wp2_with fail
 refine (HO.out _ HB.out).mono ?_
 rintro e w2 ⟨rfl, hb⟩
 replace B0 := Lib.hid (B0.out.next hb)
 replace HV := Lib.hid (HV.out.below hb)
 replace HB := Lib.hid (HB.out.trans (hb.mono HB.out.size))
 clear hb
 have a0 := B0.out.c0
 have a1 := B0.out.c1
 go_upto_region 3 with (fail)
 go_region_held3 (fun w' => w'.cell? ⟨w.heap.size, 0, none⟩ = some (.bool t) ∧ w'.cell? ⟨w.heap.size, 1, none⟩ = some (.slice A n c)) (first | (with_reducible exact ⟨a0, a1⟩) | (with_reducible exact ⟨cell_dr a0, cell_dr a1⟩) | fail)
  (first
   | (go_at_call 97; (with_reducible refine (OfV 2 _ (by omega) (by omega)).mono ?_); rintro e w3 ⟨t2, A2, n2, c2, rfl, i2, hb⟩; have hb' := (Below.refl w2.heap.size w2).drew.trans hb; replace B0 := Lib.hid (B0.out.next hb'); replace HV := Lib.hid (HV.out.below hb'); replace HB := Lib.hid (HB.out.trans (hb'.mono HB.out.size)); have I2 := Lib.hid i2; clear a0 a1 hb hb' i2; have a0 := B0.out.c0; have a1 := B0.out.c1)
   | (go_at_call 117; (with_reducible refine (Less_c HV.out I2.out).mono ?_); rintro e w4 ⟨rfl, hb⟩; replace B0 := Lib.hid (B0.out.next hb); replace HB := Lib.hid (HB.out.trans (hb.mono HB.out.size)); clear a0 a1 hb; have a0 := B0.out.c0; have a1 := B0.out.c1)
   | fail "no arm")
 rcases hv with ⟨hz, rfl⟩ | ⟨hz, rfl⟩
 · have hd : decide (z < 2) = false := decide_eq_false (by omega)
   go_wp2
   go_ret
   exact ⟨rfl, HB.out⟩
 · have hd : decide (z < 2) = true := decide_eq_true hz
   go_wp2
   go_ret
   exact ⟨rfl, HB.out⟩
theorem not_fits {z : Int} (h : pw 4096 ≤ z.natAbs) : ¬ (words z.natAbs).length ≤ 4096 := fun hl => by
 have := words_len_le.1 hl
 omega
theorem NumIs.bad {w : World} {z : Int} (h : ¬ (words z.natAbs).length ≤ 4096) : NumIs w z false none 0 0 4 := ⟨fun hl => absurd hl h, fun _ => ⟨rfl, rfl, rfl, rfl, rfl⟩⟩
theorem NumIs.vb {w0 w : World} {z k : Int} {t : Bool} {B : Option Addr} {m d : Nat} (h : NumIs w z t B m d k) {g : Nat} {x : Bool} {a : Option Addr} {i j : Nat} (v : Vb w0 w g x a i j) (u1 u2 : Value) : NumIs ((w.setCell ⟨g, 0, none⟩ u1).setCell ⟨g, 1, none⟩ u2) z t B m d k := h.store v.c0 v.c1 u1 u2
structure Ar (w W : World) (z : Int) (t : Bool) (A : Option Addr) (n c : Nat) : Prop where
 below : Below w.heap.size w W
 bx : Box W w.heap.size z t A n c
 vb : Vb w W (w.heap.size + 1) false none 0 0
theorem Ar.start {w : World} {z : Int} {t : Bool} {A : Option Addr} {n c : Nat} (h : Is w z t A n c) : Ar w ((w.alloc (.cells #[.bool t, .slice A n c] 58)).alloc (.cells #[.bool false, .slice none 0 0] 58)) z t A n c :=
 ⟨((Below.refl _ _).alloc (Nat.le_refl _) _).alloc (by simp) _, (Box.new h).alloc _, Vb.new1 w w _ false none 0 0 (Nat.le_refl _)⟩
theorem Ar.next {w W W' : World} {z : Int} {t : Bool} {A : Option Addr} {n c : Nat} (h : Ar w W z t A n c) (hb : Below W.heap.size W W') : Ar w W' z t A n c :=
 ⟨h.below.trans (hb.mono h.below.size), h.bx.next hb, h.vb.below hb⟩
theorem Stp.fresh {w2 w3 w4 : World} {b : Nat} (hb : Below w2.heap.size w2 w3) (h : w2.heap.size ≤ b) (hs : Stp b w3 w4) : Below w2.heap.size w2 w4 := hb.trans (hs.below hb.size h)
theorem Is.iv_of {w : World} {z : Int} {t : Bool} {A : Option Addr} {n c : Nat} (h : Is w z t A n c) (hs : Sz z 4096) : Iv w z t A n c := ⟨h, hs⟩
set_option maxHeartbeats 4000000 in
theorem Psi_small {w : World} {a : Int} {t : Bool} {A : Option Addr} {n c : Nat} (h : Iv w a t A n c) (ha : 2 ≤ a) (N : Nat) (hN : N < 9223372036854775808) (hs : N < 2) :
 Calls Tryz.prog 116 #[.agg #[.bool t, .slice A n c], .int .i64 (N : Int)] w (Num w (psi a N)) := by
 have E := Lib.hid (Ar.start h.is)
 have HSz := Lib.hid h.sz
 have HA := Lib.hid ha
 have HN := Lib.hid hN
 have hs2 : (N : Int) < 2 := by omega
 have HP := Lib.hid (show psi a N = (N : Int) by rcases (show N = 0 ∨ N = 1 by omega) with rfl | rfl <;> rfl)
 rw [HP.out]
 obtain ⟨K, hK⟩ : ∃ K : Int, K = (N : Int) := ⟨_, rfl⟩
 rw [← hK]
 rw [← hK] at hs2
 have hK0 : 0 ≤ K := by omega
 clear h ha hN hs HP hK
 go_enter Tryz.func116, Tryz.ntmps116
 go_wp2_with fail
 generalize (w.alloc (.cells #[.bool t, .slice A n c] 58)).alloc (.cells #[.bool false, .slice none 0 0] 58) = W0 at E ⊢
 refine (check_ok (Is.iv_of E.out.bx.is HSz.out) _ (oth_nil _) 0 (.inl ⟨HA.out, rfl⟩)).mono ?_
 rintro e w1 ⟨rfl, hb⟩
 replace E := Lib.hid (E.out.next hb)
 clear hb
 have a0 := E.out.bx.c0
 have a1 := E.out.bx.c1
 go_wp2_with fail
 refine (OfV K _ (by omega) (by omega)).mono ?_
 rintro e w2 ⟨t2, A2, n2, c2, rfl, i2, hb⟩
 replace E := Lib.hid (E.out.next hb)
 have I2 := Lib.hid i2
 clear hb i2 a0 a1
 have r0 := E.out.vb.c0
 have r1 := E.out.vb.c1
 have f0 := E.out.vb.f0
 have f1 := E.out.vb.f1
 go_wp2
 refine bodyPost_ret (v := .tuple #[.agg #[.bool t2, .slice A2 n2 c2], .int .i64 0]) (by simp [results, Tryz.results116, go_sem, r0, r1]) rfl ?_
 exact ⟨t2, A2, n2, c2, 0, rfl, (Is.nums I2.out.is (by rw [I2.out.is.2.1]; exact words_len_le.2 I2.out.sz)).vb E.out.vb _ _, below_store E.out.below (by omega) _ _⟩
set_option maxHeartbeats 4000000 in
theorem Psi_big {w : World} {a : Int} {t : Bool} {A : Option Addr} {n c : Nat} (h : Iv w a t A n c) (ha : 2 ≤ a) (N : Nat) (hN : N < 9223372036854775808) (hs : 2 ≤ N) :
 Calls Tryz.prog 116 #[.agg #[.bool t, .slice A n c], .int .i64 (N : Int)] w (Num w (psi a N)) := by
 have E := Lib.hid (Ar.start h.is)
 have HSz := Lib.hid h.sz
 have HA := Lib.hid ha
 have HN := Lib.hid hN
 have HT := Lib.hid (show (a + a).natAbs ≤ (psi a N).natAbs by have := psi_two_le ha N hs; omega)
 have HQ := Lib.hid (sq_exact ha (m := N / 2) (n := N) (by omega) (by omega) (Nat.le_refl _))
 have HE := Lib.hid (fun (hp : N % 2 = 0) => ev_exact ha (j := N / 2) (n := N) (by omega) hs (Nat.le_refl (psi a N).natAbs))
 have HO := Lib.hid (fun (hp : N % 2 = 1) => od_exact ha (j := N / 2) (n := N) (by omega) (Nat.le_refl (psi a N).natAbs))
 have hs2 : ¬ (N : Int) < 2 := by omega
 obtain ⟨K, hK⟩ : ∃ K : Int, K = (N : Int) := ⟨_, rfl⟩
 rw [← hK]
 rw [← hK] at hs2
 have hK0 : 0 ≤ K := by omega
 have HKN := Lib.hid hK
 clear h ha hN hs hK
 go_enter Tryz.func116, Tryz.ntmps116
 go_wp2_with fail
 generalize (w.alloc (.cells #[.bool t, .slice A n c] 58)).alloc (.cells #[.bool false, .slice none 0 0] 58) = W0 at E ⊢
 refine (check_ok (Is.iv_of E.out.bx.is HSz.out) _ (oth_nil _) 0 (.inl ⟨HA.out, rfl⟩)).mono ?_
 rintro e w1 ⟨rfl, hb⟩
 replace E := Lib.hid (E.out.next hb)
 clear hb
 have a0 := E.out.bx.c0
 have a1 := E.out.bx.c1
 go_wp2_with fail
 refine (exact_c _ a t A n c w1 (Is.iv_of E.out.bx.is HSz.out) HT.out).mono ?_
 rintro e w3 ⟨b, tt, At, nt, ct, k, rfl, hb1, hb2, hm⟩
 have HB := Lib.hid hb1
 have HX := Lib.hid hb2
 have HM := Lib.hid hm
 clear hb1 hb2 hm a0 a1
 go_wp2_with fail
 rw [HKN.out]
 refine (psi_c HM.out N HN.out (psi a) HQ.out HE.out HO.out).mono ?_
 rintro e w4 ⟨t4, B4, m4, d4, k4, rfl, s4, ms4, z4, v4⟩
 have HS4 := Lib.hid (Stp.fresh HX.out HB.out s4)
 have HV4 := Lib.hid v4
 have HC4 := Lib.hid ms4.cc
 have HK4 := Lib.hid ms4.st
 clear s4 ms4 z4 v4
 go_wp2_with fail
 refine (result_c _ k4 _ t4 B4 m4 d4 w4 HC4.out HV4.out).mono ?_
 rintro e w5 ⟨hb5, h1, h2⟩
 replace E := Lib.hid (E.out.next (HS4.out.trans (hb5.mono HS4.out.size)))
 have r0 := E.out.vb.c0
 have r1 := E.out.vb.c1
 have f0 := E.out.vb.f0
 have f1 := E.out.vb.f1
 by_cases hk : k4 = 0
 · obtain ⟨t6, B6, m6, d6, rfl, i6⟩ := h1 hk
   have H6 := Lib.hid i6
   clear h1 h2 hk hb5 i6 HX HB HS4 HV4 HC4 HK4
   go_wp2
   refine bodyPost_ret (v := .tuple #[.agg #[.bool t6, .slice B6 m6 d6], .int .i64 0]) (by simp [results, Tryz.results116, go_sem, r0, r1]) rfl ?_
   exact ⟨t6, B6, m6, d6, 0, rfl, (Is.nums H6.out.is (by rw [H6.out.is.2.1]; exact words_len_le.2 H6.out.sz)).vb E.out.vb _ _, below_store E.out.below (by omega) _ _⟩
 · obtain rfl := h2 hk
   have H6 : Hid (k4 = 4 ∧ pw 4096 ≤ _) := (HK4.out).resolve_left hk
   obtain ⟨rfl, h7⟩ := H6
   have H7 := Lib.hid (not_fits h7)
   clear h1 h2 hk hb5 HX HB HS4 HV4 HC4 HK4 h7
   go_wp2
   refine bodyPost_ret (v := .tuple #[.agg #[.bool false, .slice none 0 0], .int .i64 4]) (by simp [results, Tryz.results116, go_sem, r0, r1]) rfl ?_
   exact ⟨false, none, 0, 0, 4, rfl, (NumIs.bad H7.out).vb E.out.vb _ _, below_store E.out.below (by omega) _ _⟩
theorem Psi_ok {w : World} {a : Int} {t : Bool} {A : Option Addr} {n c : Nat} (h : Iv w a t A n c) (ha : 2 ≤ a) (N : Nat) (hN : N < 9223372036854775808) :
 Calls Tryz.prog 116 #[.agg #[.bool t, .slice A n c], .int .i64 (N : Int)] w (Num w (psi a N)) := by
 by_cases hs : N < 2
 · exact Psi_small h ha N hN hs
 · exact Psi_big h ha N hN (by omega)
end Go.Proofs.YteabokkofoomkaaGreat

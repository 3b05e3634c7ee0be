import Derived.Test.YtbblckaplddggaaNf
import Derived.Test.YtbblckaplddggaaNe
set_option maxRecDepth 100000
namespace Go.Proofs.Ytbblckaplddggaa
open Go.RowKit Go.Shelf
section
variable {w W W' : World} {T b f : Nat} {caps : Array Value} {g : Int → Int} {Ev : World → Prop} {k k' zt zx zy za z : Int} {ta : Bool} {Aa : Option Addr} {na ca : Nat} {tt : Bool} {At : Option Addr} {nt ct : Nat} {t : Bool} {A : Option Addr} {n c : Nat} {t' : Bool} {A' : Option Addr} {n' c' : Nat} {e : Ending}
/-- the double of j can be reached -/
structure EvOk (T : Nat) (g : Int → Int) (zt : Int) (P : Nat → Int) (j : Nat) : Prop where
  ev : g (P j * (P (j + 1) - (zt * P j - P (j + 1)))) = P (2 * j)
  a1 : (zt * P j).natAbs ≤ T
  a2 : (zt * P j - P (j + 1)).natAbs ≤ T
  a3 : (P (j + 1) - (zt * P j - P (j + 1))).natAbs ≤ T
  a4 : (P j * (P (j + 1) - (zt * P j - P (j + 1)))).natAbs ≤ T
structure OdOk (T : Nat) (g : Int → Int) (P : Nat → Int) (j : Nat) : Prop where
  od : g ((P (j + 1) - P j) * (P (j + 1) + P j)) = P (2 * j + 1)
  b1 : (P (j + 1) - P j).natAbs ≤ T
  b2 : (P (j + 1) + P j).natAbs ≤ T
  b3 : ((P (j + 1) - P j) * (P (j + 1) + P j)).natAbs ≤ T
theorem quo_two {K : Int} {N : Nat} (h : K = (N : Int)) : K / 2 = ((N / 2 : Nat) : Int) := by omega
set_option maxHeartbeats 4000000 in
theorem psi_c (h : Ms T b f caps g Ev zt za ta Aa na ca tt At nt ct w k) (N : Nat) (hN : N < 9223372036854775808) (P : Nat → Int) (hP : Sq T g zt P (N / 2)) (hE : N % 2 = 0 → EvOk T g zt P (N / 2)) (hO : N % 2 = 1 → OdOk T g P (N / 2)) :
    Calls Try.prog 56 #[.pointer (some ⟨b, 0, none⟩), .int .i64 (N : Int)] w (Wm T b f caps g Ev zt za ta Aa na ca tt At nt ct k (P N) w) := by
  have hlt := h.cc.lt
  have H0 := Lib.hid h
  have HP := Lib.hid hP
  have HN := Lib.hid hN
  have hb0 : Below w.heap.size w (w.alloc (.cells #[.bool false, .slice none 0 0] 24)) := below_alloc _ _
  have HM := Lib.hid (h.below hb0)
  have R4 := Lib.hid (Vb.new w w false none 0 0 (Nat.le_refl _))
  have HS := Lib.hid (Stp.of_below hlt hb0)
  obtain ⟨K, hK⟩ : ∃ K : Int, K = (N : Int) := ⟨_, rfl⟩
  have hK0 : 0 ≤ K := by omega
  have hK1 : K < 9223372036854775808 := by omega
  rw [← hK]
  have HKN := Lib.hid hK
  clear h hP hN hb0 hK
  go_enter Try.func56, Try.ntmps56
  go_wp2_with fail
  generalize w.alloc (.cells #[.bool false, .slice none 0 0] 24) = W0 at HM R4 HS ⊢
  rw [quo_two HKN.out]
  refine (at_c HM.out (N / 2) (Nat.lt_of_le_of_lt (Nat.div_le_self _ _) HN.out) P HP.out).mono ?_
  rintro e W1 ⟨tl, Al, nl, cl, th, Ah, nh, ch, k1, rfl, s1, ms1, z1, vl, vh⟩
  have b1 := below_alloc W1 (ob2 tl Al nl cl)
  have b2 := below_alloc (W1.alloc (ob2 tl Al nl cl)) (ob2 th Ah nh ch)
  have hsz : w.heap.size < W1.heap.size := Nat.lt_of_lt_of_le R4.out.lt s1.size
  replace R4 := Lib.hid (((R4.out.next s1 hlt).below b1).below b2)
  replace HS := Lib.hid (((HS.out.trans s1).trans (Stp.of_below ms1.cc.lt b1)).trans (Stp.of_below (ms1.below b1).cc.lt b2))
  replace HM := Lib.hid ((ms1.below b1).below b2)
  have HZ := Lib.hid z1
  have VL := Lib.hid ((vl.below b1).below b2)
  have VH := Lib.hid ((vh.below b1).below b2)
  clear s1 ms1 z1 vl vh b1 b2
  by_cases hpar : N % 2 = 0
  · have t0 : (K % 2 == 0) = true := by have := HKN.out; simp; omega
    have E := Lib.hid (hE hpar)
    have EN := Lib.hid (show 2 * (N / 2) = N by omega)
    clear hE hO hpar
    go_wp2_with fail
    generalize (W1.alloc (.cells #[.bool tl, .slice Al nl cl] 24)).alloc (.cells #[.bool th, .slice Ah nh ch] 24) = W2 at R4 HS HM VL VH ⊢
    refine (even_m HM.out VL.out VH.out E.out.a1 E.out.a2 E.out.a3 E.out.a4).mono ?_
    rw [E.out.ev, EN.out]
    rintro e W3 ⟨t3, B3, m3, d3, k3, rfl, s3, ms3, z3, v3⟩
    replace R4 := Lib.hid (R4.out.next s3 hlt)
    replace HS := Lib.hid (HS.out.trans s3)
    have M3 := Lib.hid ms3
    have Z3 := Lib.hid z3
    have V3 := Lib.hid v3
    clear s3 ms3 z3 v3
    have r0 := R4.out.c0
    have r1 := R4.out.c1
    have r2 := R4.out.f0
    have r3 := R4.out.f1
    go_wp2
    have hne : w.heap.size ≠ b := by omega
    refine bodyPost_ret (v := .agg #[.bool t3, .slice B3 m3 d3]) (by simp [results, Try.results56, go_sem, r0, r1]) rfl ?_
    have st := HS.out.two (g := w.heap.size) (Nat.le_refl _) hne (.bool t3) (.slice B3 m3 d3)
    exact ⟨t3, B3, m3, d3, k3, rfl, st, M3.out.two hne r0 r1 (M3.out.ea.stp _ _ _ H0.out.ev H0.out.cc st), fun e => HZ.out (Z3.out e), V3.out.two r0 r1 _ _⟩
  · have t0 : (K % 2 == 0) = false := by have := HKN.out; rw [beq_eq_false_iff_ne]; omega
    have E := Lib.hid (hO (by omega))
    have EN := Lib.hid (show 2 * (N / 2) + 1 = N by omega)
    clear hE hO hpar
    go_wp2_with fail
    generalize (W1.alloc (.cells #[.bool tl, .slice Al nl cl] 24)).alloc (.cells #[.bool th, .slice Ah nh ch] 24) = W2 at R4 HS HM VL VH ⊢
    refine (odd_m HM.out VL.out VH.out E.out.b1 E.out.b2 E.out.b3).mono ?_
    rw [E.out.od, EN.out]
    rintro e W3 ⟨t3, B3, m3, d3, k3, rfl, s3, ms3, z3, v3⟩
    replace R4 := Lib.hid (R4.out.next s3 hlt)
    replace HS := Lib.hid (HS.out.trans s3)
    have M3 := Lib.hid ms3
    have Z3 := Lib.hid z3
    have V3 := Lib.hid v3
    clear s3 ms3 z3 v3
    have r0 := R4.out.c0
    have r1 := R4.out.c1
    have r2 := R4.out.f0
    have r3 := R4.out.f1
    go_wp2
    have hne : w.heap.size ≠ b := by omega
    refine bodyPost_ret (v := .agg #[.bool t3, .slice B3 m3 d3]) (by simp [results, Try.results56, go_sem, r0, r1]) rfl ?_
    have st := HS.out.two (g := w.heap.size) (Nat.le_refl _) hne (.bool t3) (.slice B3 m3 d3)
    exact ⟨t3, B3, m3, d3, k3, rfl, st, M3.out.two hne r0 r1 (M3.out.ea.stp _ _ _ H0.out.ev H0.out.cc st), fun e => HZ.out (Z3.out e), V3.out.two r0 r1 _ _⟩
end
end Go.Proofs.Ytbblckaplddggaa
set_option maxRecDepth 100000
namespace Go.Proofs.Ytbblckaplddggaa
open Go.RowKit Go.Shelf
section
variable {w W W' : World} {T b f : Nat} {caps : Array Value} {g : Int → Int} {Ev : World → Prop} {k k' zt zx zy za z : Int} {ta : Bool} {Aa : Option Addr} {na ca : Nat} {tt : Bool} {At : Option Addr} {nt ct : Nat} {t : Bool} {A : Option Addr} {n c : Nat} {t' : Bool} {A' : Option Addr} {n' c' : Nat} {e : Ending}
variable {p q : Nat} {z1 z2 : Int} {t1 : Bool} {A1 : Option Addr} {n1 c1 : Nat} {t2 : Bool} {A2 : Option Addr} {n2 c2 : Nat}
/-- what a region leaves that makes one variable, or writes one made since w -/
structure Rp1 (b : Nat) (k : Int) (w W : World) (p : Nat) (z : Int) (t : Bool) (A : Option Addr) (n c : Nat) : Prop where
  stp : Stp b w W
  cc : Cc W b k
  vb : Vb w W p t A n c
  vn : Vn W k z t A n c
theorem Vn.alloc {W : World} {k z : Int} {t : Bool} {A : Option Addr} {n c : Nat} (h : Vn W k z t A n c) (o : Obj) : Vn (W.alloc o) k z t A n c := h.below (below_alloc _ _)
theorem Rp1.late (hs : Stp b w W) (hc : Cc W b k) (hv : Vn W k z t A n c) : Rp1 b k w (W.alloc (ob2 t A n c)) W.heap.size z t A n c :=
  ⟨hs.trans (Stp.of_below hc.lt (below_alloc _ _)), hc.alloc _, Vb.new w W t A n c hs.size, hv.alloc _⟩
theorem Rp1.early (hs : Stp b w W) (hc : Cc W b k) (hv : Vn W k z t A n c) (hb : b < w.heap.size) {x : Bool} {a : Option Addr} {i j : Nat} (v : Vb w W p x a i j) : Rp1 b k w (st2 W p t A n c) p z t A n c := by
  have hg := v.ge
  exact ⟨hs.two hg (by omega) _ _, hc.two (by omega) _ _, v.put _ _ _ _, hv.two v.c0 v.c1 _ _⟩
/-- and two of them -/
structure Rp2 (b : Nat) (k : Int) (w W : World) (p q : Nat) (z1 : Int) (t1 : Bool) (A1 : Option Addr) (n1 c1 : Nat) (z2 : Int) (t2 : Bool) (A2 : Option Addr) (n2 c2 : Nat) : Prop where
  ne : p ≠ q
  stp : Stp b w W
  cc : Cc W b k
  vp : Vb w W p t1 A1 n1 c1
  vq : Vb w W q t2 A2 n2 c2
  v1 : Vn W k z1 t1 A1 n1 c1
  v2 : Vn W k z2 t2 A2 n2 c2
theorem Rp2.dd (hs : Stp b w W) (hc : Cc W b k) (v1 : Vn W k z1 t1 A1 n1 c1) (v2 : Vn W k z2 t2 A2 n2 c2) : Rp2 b k w ((W.alloc (ob2 t1 A1 n1 c1)).alloc (ob2 t2 A2 n2 c2)) W.heap.size (W.heap.size + 1) z1 t1 A1 n1 c1 z2 t2 A2 n2 c2 :=
  ⟨by omega, (hs.trans (Stp.of_below hc.lt (below_alloc _ _))).trans (Stp.of_below (hc.alloc _).lt (below_alloc _ _)), (hc.alloc _).alloc _, (Vb.new w W t1 A1 n1 c1 hs.size).below (below_alloc _ _), Vb.new1 w W _ t2 A2 n2 c2 hs.size, (v1.alloc _).alloc _, (v2.alloc _).alloc _⟩
theorem Rp2.dd2 (hs : Stp b w W) (hc : Cc W b k) (v1 : Vn W k z1 t1 A1 n1 c1) (v2 : Vn W k z2 t2 A2 n2 c2) : Rp2 b k w ((W.alloc (ob2 t2 A2 n2 c2)).alloc (ob2 t1 A1 n1 c1)) (W.heap.size + 1) W.heap.size z1 t1 A1 n1 c1 z2 t2 A2 n2 c2 :=
  ⟨by omega, (hs.trans (Stp.of_below hc.lt (below_alloc _ _))).trans (Stp.of_below (hc.alloc _).lt (below_alloc _ _)), (hc.alloc _).alloc _, Vb.new1 w W _ t1 A1 n1 c1 hs.size, (Vb.new w W t2 A2 n2 c2 hs.size).below (below_alloc _ _), (v1.alloc _).alloc _, (v2.alloc _).alloc _⟩
theorem Rp2.de (hs : Stp b w W) (hc : Cc W b k) (v1 : Vn W k z1 t1 A1 n1 c1) (v2 : Vn W k z2 t2 A2 n2 c2) (hb : b < w.heap.size) {x : Bool} {a : Option Addr} {i j : Nat} (v : Vb w W p x a i j) : Rp2 b k w ((st2 W p t1 A1 n1 c1).alloc (ob2 t2 A2 n2 c2)) p W.heap.size z1 t1 A1 n1 c1 z2 t2 A2 n2 c2 := by
  have h := Rp1.early hs hc v1 hb v
  have h2 := Rp1.late h.stp h.cc (v2.two v.c0 v.c1 (.bool t1) (.slice A1 n1 c1))
  have e := size_pair W p (.bool t1) (.slice A1 n1 c1)
  have hl := v.lt
  have vb := h2.vb
  rw [e] at vb
  exact ⟨by omega, h2.stp, h2.cc, h.vb.below (below_alloc _ _), vb, h.vn.alloc _, h2.vn⟩
theorem Rp2.ed (hs : Stp b w W) (hc : Cc W b k) (v1 : Vn W k z1 t1 A1 n1 c1) (v2 : Vn W k z2 t2 A2 n2 c2) (hb : b < w.heap.size) {x : Bool} {a : Option Addr} {i j : Nat} (v : Vb w W q x a i j) : Rp2 b k w ((st2 W q t2 A2 n2 c2).alloc (ob2 t1 A1 n1 c1)) W.heap.size q z1 t1 A1 n1 c1 z2 t2 A2 n2 c2 := by
  have h := Rp2.de hs hc v2 v1 hb v
  exact ⟨Ne.symm h.ne, h.stp, h.cc, h.vq, h.vp, h.v2, h.v1⟩
theorem Rp2.ee (hs : Stp b w W) (hc : Cc W b k) (v1 : Vn W k z1 t1 A1 n1 c1) (v2 : Vn W k z2 t2 A2 n2 c2) (hb : b < w.heap.size) (hne : p ≠ q) {x : Bool} {a : Option Addr} {i j : Nat} (v : Vb w W p x a i j) {x' : Bool} {a' : Option Addr} {i' j' : Nat} (v' : Vb w W q x' a' i' j') : Rp2 b k w (st2 (st2 W p t1 A1 n1 c1) q t2 A2 n2 c2) p q z1 t1 A1 n1 c1 z2 t2 A2 n2 c2 := by
  have h := Rp1.early hs hc v1 hb v
  have hg := v'.ge
  have w' := v'.far hne (.bool t1) (.slice A1 n1 c1)
  have h2 := Rp1.early h.stp h.cc (v2.two v.c0 v.c1 (.bool t1) (.slice A1 n1 c1)) hb w'
  exact ⟨hne, h2.stp, h2.cc, h.vb.far (Ne.symm hne) _ _, h2.vb, h.vn.two w'.c0 w'.c1 _ _, h2.vn⟩
theorem Rp2.ee2 (hs : Stp b w W) (hc : Cc W b k) (v1 : Vn W k z1 t1 A1 n1 c1) (v2 : Vn W k z2 t2 A2 n2 c2) (hb : b < w.heap.size) (hne : p ≠ q) {x : Bool} {a : Option Addr} {i j : Nat} (v : Vb w W p x a i j) {x' : Bool} {a' : Option Addr} {i' j' : Nat} (v' : Vb w W q x' a' i' j') : Rp2 b k w (st2 (st2 W q t2 A2 n2 c2) p t1 A1 n1 c1) p q z1 t1 A1 n1 c1 z2 t2 A2 n2 c2 := by
  have h := Rp2.ee hs hc v2 v1 hb (Ne.symm hne) v' v
  exact ⟨hne, h.stp, h.cc, h.vq, h.vp, h.v2, h.v1⟩
end
end Go.Proofs.Ytbblckaplddggaa

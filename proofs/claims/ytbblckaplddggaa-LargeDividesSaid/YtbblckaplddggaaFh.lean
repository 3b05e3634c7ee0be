import Derived.Test.YtbblckaplddggaaFg
import Derived.Test.YtbblckaplddggaaWt
set_option maxRecDepth 100000
namespace Go.Proofs.Ytbblckaplddggaa
open Go.RowKit
/-- Gcd's variables -/
structure GcV (w W : World) (ga : Nat) (s s' : Bool) (A A' : Option Addr) (n c n' c' : Nat) (xs ys : List Nat) : Prop where
  below : Below w.heap.size w W
  ge : w.heap.size ≤ ga
  ba : Bx W ga s A n c
  bb : Bx W (ga + 1) s' A' n' c'
  r4 : Bx W (ga + 1 + 1) false none 0 0
  r5 : Bx W (ga + 1 + 1 + 1) false none 0 0
  r6 : Bx W (ga + 1 + 1 + 1 + 1) false none 0 0
  ra : Rd W A n xs
  rb : Rd W A' n' ys
theorem GcV.next {w W W' : World} {ga : Nat} {s s' : Bool} {A A' : Option Addr} {n c n' c' : Nat} {xs ys : List Nat} (h : GcV w W ga s s' A A' n c n' c' xs ys) (hb : Below W.heap.size W W') : GcV w W' ga s s' A A' n c n' c' xs ys :=
  ⟨h.below.trans (hb.mono h.below.size), h.ge, h.ba.next hb, h.bb.next hb, h.r4.next hb, h.r5.next hb, h.r6.next hb, h.ra.below hb, h.rb.below hb⟩
theorem GcV.start (s s' : Bool) (A A' : Option Addr) (n c n' c' : Nat) (xs ys : List Nat) (w : World) (h : Rd w A n xs) (h' : Rd w A' n' ys) : GcV w (((((w.alloc (.cells #[.bool s, .slice A n c] 24)).alloc (.cells #[.bool s', .slice A' n' c'] 24)).alloc (.cells #[.bool false, .slice none 0 0] 24)).alloc (.cells #[.bool false, .slice none 0 0] 24)).alloc (.cells #[.bool false, .slice none 0 0] 24)) w.heap.size s s' A A' n c n' c' xs ys := by
  have k0 := below_alloc w (.cells #[.bool s, .slice A n c] 24)
  have k1 := below_alloc (w.alloc (.cells #[.bool s, .slice A n c] 24)) (.cells #[.bool s', .slice A' n' c'] 24)
  have k2 := below_alloc ((w.alloc (.cells #[.bool s, .slice A n c] 24)).alloc (.cells #[.bool s', .slice A' n' c'] 24)) (.cells #[.bool false, .slice none 0 0] 24)
  have k3 := below_alloc (((w.alloc (.cells #[.bool s, .slice A n c] 24)).alloc (.cells #[.bool s', .slice A' n' c'] 24)).alloc (.cells #[.bool false, .slice none 0 0] 24)) (.cells #[.bool false, .slice none 0 0] 24)
  have k4 := below_alloc ((((w.alloc (.cells #[.bool s, .slice A n c] 24)).alloc (.cells #[.bool s', .slice A' n' c'] 24)).alloc (.cells #[.bool false, .slice none 0 0] 24)).alloc (.cells #[.bool false, .slice none 0 0] 24)) (.cells #[.bool false, .slice none 0 0] 24)
  have b0 := Bx.new w s A n c
  have b1 := Bx.new (w.alloc (.cells #[.bool s, .slice A n c] 24)) s' A' n' c'
  have b2 := Bx.new ((w.alloc (.cells #[.bool s, .slice A n c] 24)).alloc (.cells #[.bool s', .slice A' n' c'] 24)) false none 0 0
  have b3 := Bx.new (((w.alloc (.cells #[.bool s, .slice A n c] 24)).alloc (.cells #[.bool s', .slice A' n' c'] 24)).alloc (.cells #[.bool false, .slice none 0 0] 24)) false none 0 0
  have b4 := Bx.new ((((w.alloc (.cells #[.bool s, .slice A n c] 24)).alloc (.cells #[.bool s', .slice A' n' c'] 24)).alloc (.cells #[.bool false, .slice none 0 0] 24)).alloc (.cells #[.bool false, .slice none 0 0] 24)) false none 0 0
  simp only [World.size_alloc] at b1 b2 b3 b4
  have hB : Below w.heap.size w (((((w.alloc (.cells #[.bool s, .slice A n c] 24)).alloc (.cells #[.bool s', .slice A' n' c'] 24)).alloc (.cells #[.bool false, .slice none 0 0] 24)).alloc (.cells #[.bool false, .slice none 0 0] 24)).alloc (.cells #[.bool false, .slice none 0 0] 24)) := by
    refine ((((k0.trans (k1.mono ?_)).trans (k2.mono ?_)).trans (k3.mono ?_)).trans (k4.mono ?_))
    all_goals simp; try omega
  exact ⟨hB, Nat.le_refl _, (((b0.next k1).next k2).next k3).next k4, ((b1.next k2).next k3).next k4, (b2.next k3).next k4, b3.next k4, b4, h.below hB, h'.below hB⟩
/-- what Gcd returns for valid numbers -/
def GcdPost (a b : Int) (w : World) (e : Ending) (w' : World) : Prop :=
  ∃ (t1 : Bool) (A1 : Option Addr) (n1 c1 : Nat) (t2 : Bool) (A2 : Option Addr) (n2 c2 : Nat) (t3 : Bool) (A3 : Option Addr) (n3 c3 : Nat) (x y : Int), e = .returned (.tuple #[.agg #[.bool t1, .slice A1 n1 c1], .agg #[.bool t2, .slice A2 n2 c2], .agg #[.bool t3, .slice A3 n3 c3], .int .i64 0]) ∧
    Is w' ((Int.gcd a b : Nat) : Int) t1 A1 n1 c1 ∧ Is w' x t2 A2 n2 c2 ∧ Is w' y t3 A3 n3 c3 ∧ x.natAbs ≤ b.natAbs + 1 ∧ y.natAbs ≤ a.natAbs + 1 ∧ a * x + b * y = ((Int.gcd a b : Nat) : Int) ∧ Below w.heap.size w w'
def GcdNo (w : World) (e : Ending) (w' : World) : Prop :=
  e = .returned (.tuple #[.agg #[.bool false, .slice none 0 0], .agg #[.bool false, .slice none 0 0], .agg #[.bool false, .slice none 0 0], .int .i64 1]) ∧ Below w.heap.size w w'
theorem sgn_cancel (s x : Bool) (X V : Nat) : sgn s X * sgn (x != s) V = (X : Int) * sgn x V := by
  cases s <;> cases x <;> simp [sgn, Int.neg_mul, Int.mul_neg, Int.neg_neg]
theorem three_res {w W X : World} {g : Nat} {a1 : Bool} {B1 : Option Addr} {m1 d1 : Nat} {a2 : Bool} {B2 : Option Addr} {m2 d2 : Nat} {a3 : Bool} {B3 : Option Addr} {m3 d3 : Nat} (b4 : Bx W g a1 B1 m1 d1) (b5 : Bx W (g + 1) a2 B2 m2 d2) (b6 : Bx W (g + 1 + 1) a3 B3 m3 d3) (hb : Below w.heap.size w W) (hg : w.heap.size ≤ g)
    {t1 : Bool} {A1 : Option Addr} {n1 c1 : Nat} {t2 : Bool} {A2 : Option Addr} {n2 c2 : Nat} {t3 : Bool} {A3 : Option Addr} {n3 c3 : Nat} (hX : (((((W.setCell ⟨g, 0, none⟩ (.bool t1)).setCell ⟨g, 1, none⟩ (.slice A1 n1 c1)).setCell ⟨g + 1, 0, none⟩ (.bool t2)).setCell ⟨g + 1, 1, none⟩ (.slice A2 n2 c2)).setCell ⟨g + 1 + 1, 0, none⟩ (.bool t3)).setCell ⟨g + 1 + 1, 1, none⟩ (.slice A3 n3 c3) = X) :
    Bx X g t1 A1 n1 c1 ∧ Bx X (g + 1) t2 A2 n2 c2 ∧ Bx X (g + 1 + 1) t3 A3 n3 c3 ∧ Below w.heap.size w X ∧ ∀ z t A n c, Is W z t A n c → Is X z t A n c := by
  subst hX
  have p4 := b4.put t1 A1 n1 c1
  have p5 := b5.far (show g ≠ g + 1 by omega) (.bool t1) (.slice A1 n1 c1)
  have p6 := b6.far (show g ≠ g + 1 + 1 by omega) (.bool t1) (.slice A1 n1 c1)
  have q4 := p4.far (show g + 1 ≠ g by omega) (.bool t2) (.slice A2 n2 c2)
  have q5 := p5.put t2 A2 n2 c2
  have q6 := p6.far (show g + 1 ≠ g + 1 + 1 by omega) (.bool t2) (.slice A2 n2 c2)
  have r4 := q4.far (show g + 1 + 1 ≠ g by omega) (.bool t3) (.slice A3 n3 c3)
  have r5 := q5.far (show g + 1 + 1 ≠ g + 1 by omega) (.bool t3) (.slice A3 n3 c3)
  have r6 := q6.put t3 A3 n3 c3
  exact ⟨r4, r5, r6, below_store (below_store (below_store hb hg _ _) (by omega) _ _) (by omega) _ _, fun z t A n c i => ((i.store b4.c0 b4.c1 _ _).store p5.c0 p5.c1 _ _).store q6.c0 q6.c1 _ _⟩
set_option maxHeartbeats 8000000 in
theorem Gcd_bad (s s' : Bool) (A A' : Option Addr) (n c n' c' : Nat) (xs ys : List Nat) (w : World) (h : Rd w A n xs) (h' : Rd w A' n' ys) (hv : (validB s xs && validB s' ys) = false) :
    Calls Try.prog 46 #[.agg #[.bool s, .slice A n c], .agg #[.bool s', .slice A' n' c']] w (GcdNo w) := by
  have E := Lib.hid (GcV.start s s' A A' n c n' c' xs ys w h h')
  have HV := Lib.hid hv
  clear h h' hv
  go_enter Try.func46, Try.ntmps46
  go_upto_region 1 with (fail)
  generalize ((((w.alloc (.cells #[.bool s, .slice A n c] 24)).alloc (.cells #[.bool s', .slice A' n' c'] 24)).alloc (.cells #[.bool false, .slice none 0 0] 24)).alloc (.cells #[.bool false, .slice none 0 0] 24)).alloc (.cells #[.bool false, .slice none 0 0] 24) = W0 at E ⊢
  obtain ⟨ga, hga⟩ : ∃ g, g = w.heap.size := ⟨_, rfl⟩
  rw [← hga] at E ⊢
  clear hga
  have a0 := E.out.ba.c0
  have a1 := E.out.ba.c1
  have b0 := E.out.bb.c0
  have b1 := E.out.bb.c1
  go_wp2_with fail
  have hb := below_alloc W0 (.cells #[.bool s, .slice A n c, .bool s', .slice A' n' c'] 24)
  refine (allValid_c W0.heap.size s s' A A' n c n' c' xs ys _ (E.out.ra.below hb) (E.out.rb.below hb) (by simp) (by go_simp) (by go_simp) (by go_simp) (by go_simp)).mono ?_
  rw [HV.out]
  rintro e w1 ⟨rfl, hb1⟩
  replace E := Lib.hid ((E.out.next hb).next hb1)
  clear hb hb1 a0 a1 b0 b1
  have r0 := E.out.r4.c0
  have r1 := E.out.r4.c1
  have r2 := E.out.r4.f0
  have r3 := E.out.r4.f1
  have s0 := E.out.r5.c0
  have s1 := E.out.r5.c1
  have s2 := E.out.r5.f0
  have s3 := E.out.r5.f1
  have t0 := E.out.r6.c0
  have t1 := E.out.r6.c1
  have t2 := E.out.r6.f0
  have t3 := E.out.r6.f1
  go_wp2
  generalize hX : (((((w1.setCell ⟨ga + 1 + 1, 0, none⟩ (.bool false)).setCell ⟨ga + 1 + 1, 1, none⟩ (.slice none 0 0)).setCell ⟨ga + 1 + 1 + 1, 0, none⟩ (.bool false)).setCell ⟨ga + 1 + 1 + 1, 1, none⟩ (.slice none 0 0)).setCell ⟨ga + 1 + 1 + 1 + 1, 0, none⟩ (.bool false)).setCell ⟨ga + 1 + 1 + 1 + 1, 1, none⟩ (.slice none 0 0) = X
  obtain ⟨k4, k5, k6, kb, -⟩ := three_res E.out.r4 E.out.r5 E.out.r6 E.out.below (by have := E.out.ge; omega) hX
  have y0 := k4.c0
  have y1 := k4.c1
  have y2 := k5.c0
  have y3 := k5.c1
  have y4 := k6.c0
  have y5 := k6.c1
  refine bodyPost_ret (v := .tuple #[.agg #[.bool false, .slice none 0 0], .agg #[.bool false, .slice none 0 0], .agg #[.bool false, .slice none 0 0], .int .i64 1]) (by simp [results, Try.results46, go_sem, y0, y1, y2, y3, y4, y5]) rfl ?_
  exact ⟨rfl, kb⟩
set_option maxHeartbeats 16000000 in
theorem Gcd_ok (s s' : Bool) (A A' : Option Addr) (n c n' c' : Nat) (xs ys : List Nat) (w : World) (h : Rd w A n xs) (h' : Rd w A' n' ys) (vx : validB s xs = true) (vy : validB s' ys = true) (hn : n ≤ 4000) (hn' : n' ≤ 4000) (hc : n ≤ c) (hc2 : c ≤ 9223372036854775807) :
    Calls Try.prog 46 #[.agg #[.bool s, .slice A n c], .agg #[.bool s', .slice A' n' c']] w (GcdPost (sgn s (val xs)) (sgn s' (val ys)) w) := by
  have E := Lib.hid (GcV.start s s' A A' n c n' c' xs ys w h h')
  have HV := Lib.hid (show (validB s xs && validB s' ys) = true by rw [vx, vy]; rfl)
  have VX := Lib.hid (valid_canon h.sm vx)
  have VY := Lib.hid (valid_canon h'.sm vy)
  have HN := Lib.hid (And.intro (And.intro hn hn') (And.intro hc hc2))
  have HL := Lib.hid (show (words (val xs)).length ≤ 4000 ∧ (words (val ys)).length ≤ 4000 by rw [words_val VX.out.1, words_val VY.out.1, h.len, h'.len]; exact ⟨hn, hn'⟩)
  obtain ⟨X, hX⟩ : ∃ X, X = val xs := ⟨_, rfl⟩
  obtain ⟨Y, hY⟩ : ∃ Y, Y = val ys := ⟨_, rfl⟩
  have HXY := Lib.hid (And.intro hX hY)
  rw [← hX, ← hY] at HL ⊢
  have HGC := Lib.hid (show Int.gcd (sgn s X) (sgn s' Y) = Nat.gcd X Y by rw [Int.gcd, sgn_abs, sgn_abs])
  clear h h' vx vy hn hn' hc hc2 hX hY
  go_enter Try.func46, Try.ntmps46
  go_upto_region 1 with (fail)
  generalize ((((w.alloc (.cells #[.bool s, .slice A n c] 24)).alloc (.cells #[.bool s', .slice A' n' c'] 24)).alloc (.cells #[.bool false, .slice none 0 0] 24)).alloc (.cells #[.bool false, .slice none 0 0] 24)).alloc (.cells #[.bool false, .slice none 0 0] 24) = W0 at E ⊢
  obtain ⟨ga, hga⟩ : ∃ g, g = w.heap.size := ⟨_, rfl⟩
  rw [← hga] at E ⊢
  clear hga
  have a0 := E.out.ba.c0
  have a1 := E.out.ba.c1
  have b0 := E.out.bb.c0
  have b1 := E.out.bb.c1
  go_wp2_with fail
  have hb := below_alloc W0 (.cells #[.bool s, .slice A n c, .bool s', .slice A' n' c'] 24)
  refine (allValid_c W0.heap.size s s' A A' n c n' c' xs ys _ (E.out.ra.below hb) (E.out.rb.below hb) (by simp) (by go_simp) (by go_simp) (by go_simp) (by go_simp)).mono ?_
  rw [HV.out]
  rintro e w1 ⟨rfl, hb1⟩
  replace E := Lib.hid ((E.out.next hb).next hb1)
  clear hb hb1 a0 a1 b0 b1
  have a1 := E.out.ba.c1
  have b1 := E.out.bb.c1
  go_wp2_with fail
  refine (common_c A A' n c n' c' xs ys _ E.out.ra E.out.rb VX.out.1 VY.out.1 (by have := HN.out.1.1; omega) (by have := HN.out.1.2; omega) HN.out.2.1 HN.out.2.2).mono ?_
  rw [← HXY.out.1, ← HXY.out.2]
  rintro e w2 ⟨Ag, cg, xn, Ax, cx, xv, yn, Ay, cy, yv, rfl, wg, wx, wy, lx, ly, hbz, hb⟩
  have HBZ := Lib.hid hbz
  have HLL := Lib.hid (And.intro lx ly)
  have lgx : (words xv).length ≤ 4001 := Nat.le_trans (words_mono lx) (sum_len (k := 4000) HL.out.2 (by rw [words_one (by omega) (by omega)]; simp))
  have lgy : (words yv).length ≤ 4001 := Nat.le_trans (words_mono ly) (sum_len (k := 4000) HL.out.1 (by rw [words_one (by omega) (by omega)]; simp))
  have lgg : (words (Nat.gcd X Y)).length ≤ 4000 := by
    rcases Nat.eq_zero_or_pos Y with h0 | h0
    · rw [h0, Nat.gcd_zero_right]; exact HL.out.1
    · exact Nat.le_trans (words_mono (Nat.gcd_le_right X h0)) HL.out.2
  have LL := Lib.hid (And.intro lgg (And.intro lgx lgy))
  have hx := below_alloc w2 (.cells #[.bool xn, .slice Ax (words xv).length cx] 24)
  have hy := below_alloc (w2.alloc (.cells #[.bool xn, .slice Ax (words xv).length cx] 24)) (.cells #[.bool yn, .slice Ay (words yv).length cy] 24)
  have hxy := hx.trans (hy.mono hx.size)
  replace E := Lib.hid ((E.out.next hb).next hxy)
  have WG := Lib.hid (wg.below hxy)
  have WX := Lib.hid (wx.below hxy)
  have WY := Lib.hid (wy.below hxy)
  have X9 := Lib.hid ((Bx.new w2 xn Ax (words xv).length cx).next hy)
  have X10 := Lib.hid (Bx.new (w2.alloc (.cells #[.bool xn, .slice Ax (words xv).length cx] 24)) yn Ay (words yv).length cy)
  rw [World.size_alloc] at X10
  clear hb hbz lx ly wg wx wy hx hy hxy lgx lgy lgg a1 b1
  go_upto_region 4 with (fail)
  generalize (w2.alloc (.cells #[.bool xn, .slice Ax (words xv).length cx] 24)).alloc (.cells #[.bool yn, .slice Ay (words yv).length cy] 24) = W2 at E WG WX WY X9 X10 ⊢
  generalize w2.heap.size = g9 at X9 X10 ⊢
  go_wp2_with fail
  refine (number_c (false) Ag _ cg (words (Nat.gcd X Y)) _ WG.out.rd WG.out.le WG.out.top).mono ?_
  rw [val_words]
  rintro e w1 ⟨t1, B1, m1, d1, k1, rfl, hn, hb⟩
  obtain ⟨rfl, j1, j2, j3, j4, j5⟩ := hn.1 (by rw [sgn_abs]; have := LL.out; omega)
  have i1 : Is w1 (sgn (false) (Nat.gcd X Y)) t1 B1 m1 d1 := ⟨j1, j2, j3, j4, j5⟩
  have ha := below_alloc w1 (.cells #[.bool t1, .slice B1 m1 d1] 24)
  have Ig := Lib.hid (i1.below ha)
  have Lg := Lib.hid (show ga + 1 + 1 + 1 + 1 < w1.heap.size from Nat.lt_of_lt_of_le E.out.r6.lt hb.size)
  have Yg := Lib.hid (Bx.new w1 t1 B1 m1 d1)
  replace E := Lib.hid (E.out.next hb)
  replace WG := Lib.hid (WG.out.below hb)
  replace WX := Lib.hid (WX.out.below hb)
  replace WY := Lib.hid (WY.out.below hb)
  replace X9 := Lib.hid (X9.out.next hb)
  replace X10 := Lib.hid (X10.out.next hb)
  replace E := Lib.hid (E.out.next ha)
  replace WG := Lib.hid (WG.out.below ha)
  replace WX := Lib.hid (WX.out.below ha)
  replace WY := Lib.hid (WY.out.below ha)
  replace X9 := Lib.hid (X9.out.next ha)
  replace X10 := Lib.hid (X10.out.next ha)
  clear hb ha hn j1 j2 j3 j4 j5 i1 
  go_upto_region 5 with (fail)
  generalize w1.alloc (.cells #[.bool t1, .slice B1 m1 d1] 24) = V1 at E WG WX WY X9 X10 Ig Yg ⊢
  generalize w1.heap.size = gg at Yg Lg ⊢
  clear WG
  have x0 := X9.out.c0
  have x1 := X9.out.c1
  have y0 := E.out.ba.c0
  go_wp2_with fail
  refine (number_c (xn != s) Ax _ cx (words xv) _ WX.out.rd WX.out.le WX.out.top).mono ?_
  rw [val_words]
  rintro e w2 ⟨t2, B2, m2, d2, k2, rfl, hn, hb⟩
  obtain ⟨rfl, j1, j2, j3, j4, j5⟩ := hn.1 (by rw [sgn_abs]; have := LL.out; omega)
  have i2 : Is w2 (sgn (xn != s) xv) t2 B2 m2 d2 := ⟨j1, j2, j3, j4, j5⟩
  have ha := below_alloc w2 (.cells #[.bool t2, .slice B2 m2 d2] 24)
  have Ix := Lib.hid (i2.below ha)
  have Lx := Lib.hid (show ga + 1 + 1 + 1 + 1 < w2.heap.size from Nat.lt_of_lt_of_le E.out.r6.lt hb.size)
  have Yx := Lib.hid (Bx.new w2 t2 B2 m2 d2)
  replace E := Lib.hid (E.out.next hb)
  replace WX := Lib.hid (WX.out.below hb)
  replace WY := Lib.hid (WY.out.below hb)
  replace X9 := Lib.hid (X9.out.next hb)
  replace X10 := Lib.hid (X10.out.next hb)
  replace Ig := Lib.hid (Ig.out.below hb)
  replace Yg := Lib.hid (Yg.out.next hb)
  replace E := Lib.hid (E.out.next ha)
  replace WX := Lib.hid (WX.out.below ha)
  replace WY := Lib.hid (WY.out.below ha)
  replace X9 := Lib.hid (X9.out.next ha)
  replace X10 := Lib.hid (X10.out.next ha)
  replace Ig := Lib.hid (Ig.out.below ha)
  replace Yg := Lib.hid (Yg.out.next ha)
  clear hb ha hn j1 j2 j3 j4 j5 i2 x0 x1 y0
  go_upto_region 6 with (fail)
  generalize w2.alloc (.cells #[.bool t2, .slice B2 m2 d2] 24) = V2 at E WX WY X9 X10 Ig Yg Ix Yx ⊢
  generalize w2.heap.size = gx at Yx Lx ⊢
  clear WX X9
  have x0 := X10.out.c0
  have x1 := X10.out.c1
  have y0 := E.out.bb.c0
  go_wp2_with fail
  refine (number_c (yn != s') Ay _ cy (words yv) _ WY.out.rd WY.out.le WY.out.top).mono ?_
  rw [val_words]
  rintro e w3 ⟨t3, B3, m3, d3, k3, rfl, hn, hb⟩
  obtain ⟨rfl, j1, j2, j3, j4, j5⟩ := hn.1 (by rw [sgn_abs]; have := LL.out; omega)
  have i3 : Is w3 (sgn (yn != s') yv) t3 B3 m3 d3 := ⟨j1, j2, j3, j4, j5⟩
  have ha := below_alloc w3 (.cells #[.bool t3, .slice B3 m3 d3] 24)
  have Iy := Lib.hid (i3.below ha)
  have Ly := Lib.hid (show ga + 1 + 1 + 1 + 1 < w3.heap.size from Nat.lt_of_lt_of_le E.out.r6.lt hb.size)
  have Yy := Lib.hid (Bx.new w3 t3 B3 m3 d3)
  replace E := Lib.hid (E.out.next hb)
  replace WY := Lib.hid (WY.out.below hb)
  replace X10 := Lib.hid (X10.out.next hb)
  replace Ig := Lib.hid (Ig.out.below hb)
  replace Yg := Lib.hid (Yg.out.next hb)
  replace Ix := Lib.hid (Ix.out.below hb)
  replace Yx := Lib.hid (Yx.out.next hb)
  replace E := Lib.hid (E.out.next ha)
  replace WY := Lib.hid (WY.out.below ha)
  replace X10 := Lib.hid (X10.out.next ha)
  replace Ig := Lib.hid (Ig.out.below ha)
  replace Yg := Lib.hid (Yg.out.next ha)
  replace Ix := Lib.hid (Ix.out.below ha)
  replace Yx := Lib.hid (Yx.out.next ha)
  clear hb ha hn j1 j2 j3 j4 j5 i3 x0 x1 y0
  go_upto_region 7 with (fail)
  generalize w3.alloc (.cells #[.bool t3, .slice B3 m3 d3] 24) = V3 at E WY X10 Ig Yg Ix Yx Iy Yy ⊢
  generalize w3.heap.size = gy at Yy Ly ⊢
  clear WY X10
  have HP := Lib.hid E.out.below
  have HGE := Lib.hid E.out.ge
  have R4 := Lib.hid E.out.r4
  have R5 := Lib.hid E.out.r5
  have R6 := Lib.hid E.out.r6
  have L1 := Lib.hid (show ga + 1 + 1 + 1 + 1 < gg by exact Lg.out)
  have L2 := Lib.hid (show ga + 1 + 1 + 1 + 1 < gx by exact Lx.out)
  have L3 := Lib.hid (show ga + 1 + 1 + 1 + 1 < gy by exact Ly.out)
  clear E
  refine wp_region_tail (S := (fun w' => w'.cell? ⟨gg, 0, none⟩ = some (.bool t1) ∧ w'.cell? ⟨gg, 1, none⟩ = some (.slice B1 m1 d1) ∧ w'.cell? ⟨gx, 0, none⟩ = some (.bool t2) ∧ w'.cell? ⟨gx, 1, none⟩ = some (.slice B2 m2 d2) ∧ w'.cell? ⟨gy, 0, none⟩ = some (.bool t3) ∧ w'.cell? ⟨gy, 1, none⟩ = some (.slice B3 m3 d3))) 5 (by kernel_rfl) (by kernel_rfl) (by intro c a d v w h; cases d <;> exact h) ⟨cell_dr7 Yg.out.c0, cell_dr7 Yg.out.c1, cell_dr7 Yx.out.c0, cell_dr7 Yx.out.c1, cell_dr7 Yy.out.c0, cell_dr7 Yy.out.c1⟩ (fun QT hT hP hHeld => ?_)
  simp only [List.extract_toArray, List.extract_eq_take_drop, List.drop_zero, Nat.sub_zero, List.take_succ_cons, List.take_zero]
  have HT := Lib.hid hT
  clear hT
  replace HP := Lib.hid (HP.out.trans ((Below.refl V3.heap.size V3).drew.mono HP.out.size))
  replace R4 := Lib.hid (R4.out.next (Below.refl V3.heap.size V3).drew)
  replace R5 := Lib.hid (R5.out.next (Below.refl V3.heap.size V3).drew)
  replace R6 := Lib.hid (R6.out.next (Below.refl V3.heap.size V3).drew)
  replace Ig := Lib.hid (Ig.out.below (Below.refl V3.heap.size V3).drew)
  replace Ix := Lib.hid (Ix.out.below (Below.refl V3.heap.size V3).drew)
  replace Iy := Lib.hid (Iy.out.below (Below.refl V3.heap.size V3).drew)
  replace Yg := Lib.hid (Yg.out.next (Below.refl V3.heap.size V3).drew)
  replace Yx := Lib.hid (Yx.out.next (Below.refl V3.heap.size V3).drew)
  replace Yy := Lib.hid (Yy.out.next (Below.refl V3.heap.size V3).drew)
  generalize V3.drew = D4 at HP R4 R5 R6 Ig Ix Iy Yg Yx Yy hHeld ⊢
  refine take_on (i := 0) (d := (some 61)) (v := ?v1) rfl rfl (by kernel_rfl) (by kernel_rfl) (by kernel_rfl) (fun c a w h => hP c a _ _ w h) (by rfl) ?h1 (by assumption) ?r1
  case h1 => intro w hSw; obtain ⟨h0, h1, h2, h3, h4, h5⟩ := hSw; go_simp; rfl
  simp only [Act.put, List.setIfInBounds_toArray, List.set_cons_zero, List.set_cons_succ]
  refine take_on (i := 1) (d := (some 62)) (v := ?v2) rfl rfl (by kernel_rfl) (by kernel_rfl) (by kernel_rfl) (fun c a w h => hP c a _ _ w h) (by rfl) ?h2 (by assumption) ?r2
  case h2 => intro w hSw; obtain ⟨h0, h1, h2, h3, h4, h5⟩ := hSw; go_simp; rfl
  simp only [Act.put, List.setIfInBounds_toArray, List.set_cons_zero, List.set_cons_succ]
  refine take_on (i := 2) (d := (some 63)) (v := ?v3) rfl rfl (by kernel_rfl) (by kernel_rfl) (by kernel_rfl) (fun c a w h => hP c a _ _ w h) (by rfl) ?h3 (by assumption) ?r3
  case h3 => intro w hSw; obtain ⟨h0, h1, h2, h3, h4, h5⟩ := hSw; go_simp; rfl
  simp only [Act.put, List.setIfInBounds_toArray, List.set_cons_zero, List.set_cons_succ]
  refine wpAnyH_ready (rs := [3]) (by kernel_rfl) (by simp) ?_
  refine AllReadyH.cons rfl (fun K hK => ?_) AllReadyH.nil
  have p0 := R4.out.c0
  have p1 := R4.out.c1
  have p2 := R4.out.f0
  have p3 := R4.out.f1
  go_simp
  clear hHeld
  replace HP := Lib.hid (below_store HP.out (show w.heap.size ≤ ga + 1 + 1 by have := HGE.out; omega) (.bool t1) (.slice B1 m1 d1))
  replace R5 := Lib.hid (R5.out.far (show ga + 1 + 1 ≠ ga + 1 + 1 + 1 by have := L1.out; have := L2.out; have := L3.out; omega) (.bool t1) (.slice B1 m1 d1))
  replace R6 := Lib.hid (R6.out.far (show ga + 1 + 1 ≠ ga + 1 + 1 + 1 + 1 by have := L1.out; have := L2.out; have := L3.out; omega) (.bool t1) (.slice B1 m1 d1))
  replace Yg := Lib.hid (Yg.out.far (show ga + 1 + 1 ≠ gg by have := L1.out; have := L2.out; have := L3.out; omega) (.bool t1) (.slice B1 m1 d1))
  replace Yx := Lib.hid (Yx.out.far (show ga + 1 + 1 ≠ gx by have := L1.out; have := L2.out; have := L3.out; omega) (.bool t1) (.slice B1 m1 d1))
  replace Yy := Lib.hid (Yy.out.far (show ga + 1 + 1 ≠ gy by have := L1.out; have := L2.out; have := L3.out; omega) (.bool t1) (.slice B1 m1 d1))
  replace Ig := Lib.hid (Ig.out.store p0 p1 (.bool t1) (.slice B1 m1 d1))
  replace Ix := Lib.hid (Ix.out.store p0 p1 (.bool t1) (.slice B1 m1 d1))
  replace Iy := Lib.hid (Iy.out.store p0 p1 (.bool t1) (.slice B1 m1 d1))
  replace R4 := Lib.hid (R4.out.put t1 B1 m1 d1)
  clear p0 p1 p2 p3
  generalize (D4.setCell ⟨ga + 1 + 1, 0, none⟩ (.bool t1)).setCell ⟨ga + 1 + 1, 1, none⟩ (.slice B1 m1 d1) = U5 at HP R4 R5 R6 Ig Ix Iy Yg Yx Yy ⊢
  refine hK.out _ _ ⟨Yg.out.c0, Yg.out.c1, Yx.out.c0, Yx.out.c1, Yy.out.c0, Yy.out.c1⟩ (fun hHeld => ?_)
  clear hK K
  refine wpAnyH_ready (rs := [4]) (by kernel_rfl) (by simp) ?_
  refine AllReadyH.cons rfl (fun K hK => ?_) AllReadyH.nil
  have p0 := R5.out.c0
  have p1 := R5.out.c1
  have p2 := R5.out.f0
  have p3 := R5.out.f1
  go_simp
  clear hHeld
  replace HP := Lib.hid (below_store HP.out (show w.heap.size ≤ ga + 1 + 1 + 1 by have := HGE.out; omega) (.bool t2) (.slice B2 m2 d2))
  replace R4 := Lib.hid (R4.out.far (show ga + 1 + 1 + 1 ≠ ga + 1 + 1 by have := L1.out; have := L2.out; have := L3.out; omega) (.bool t2) (.slice B2 m2 d2))
  replace R6 := Lib.hid (R6.out.far (show ga + 1 + 1 + 1 ≠ ga + 1 + 1 + 1 + 1 by have := L1.out; have := L2.out; have := L3.out; omega) (.bool t2) (.slice B2 m2 d2))
  replace Yg := Lib.hid (Yg.out.far (show ga + 1 + 1 + 1 ≠ gg by have := L1.out; have := L2.out; have := L3.out; omega) (.bool t2) (.slice B2 m2 d2))
  replace Yx := Lib.hid (Yx.out.far (show ga + 1 + 1 + 1 ≠ gx by have := L1.out; have := L2.out; have := L3.out; omega) (.bool t2) (.slice B2 m2 d2))
  replace Yy := Lib.hid (Yy.out.far (show ga + 1 + 1 + 1 ≠ gy by have := L1.out; have := L2.out; have := L3.out; omega) (.bool t2) (.slice B2 m2 d2))
  replace Ig := Lib.hid (Ig.out.store p0 p1 (.bool t2) (.slice B2 m2 d2))
  replace Ix := Lib.hid (Ix.out.store p0 p1 (.bool t2) (.slice B2 m2 d2))
  replace Iy := Lib.hid (Iy.out.store p0 p1 (.bool t2) (.slice B2 m2 d2))
  replace R5 := Lib.hid (R5.out.put t2 B2 m2 d2)
  clear p0 p1 p2 p3
  generalize (U5.setCell ⟨ga + 1 + 1 + 1, 0, none⟩ (.bool t2)).setCell ⟨ga + 1 + 1 + 1, 1, none⟩ (.slice B2 m2 d2) = U6 at HP R4 R5 R6 Ig Ix Iy Yg Yx Yy ⊢
  refine hK.out _ _ ⟨Yg.out.c0, Yg.out.c1, Yx.out.c0, Yx.out.c1, Yy.out.c0, Yy.out.c1⟩ (fun hHeld => ?_)
  clear hK K
  clear hHeld
  refine wpAnyH_done (by kernel_rfl) ?_ _
  refine HT.out _ _ ?_
  clear HT hP QT
  have p0 := R6.out.c0
  have p1 := R6.out.c1
  have p2 := R6.out.f0
  have p3 := R6.out.f1
  refine wpList_step fun K hK => ?_
  go_simp
  refine hK _ _ ?_
  clear hK K
  replace HP := Lib.hid (below_store HP.out (show w.heap.size ≤ ga + 1 + 1 + 1 + 1 by have := HGE.out; omega) (.bool t3) (.slice B3 m3 d3))
  replace R4 := Lib.hid (R4.out.far (show ga + 1 + 1 + 1 + 1 ≠ ga + 1 + 1 by have := L1.out; have := L2.out; have := L3.out; omega) (.bool t3) (.slice B3 m3 d3))
  replace R5 := Lib.hid (R5.out.far (show ga + 1 + 1 + 1 + 1 ≠ ga + 1 + 1 + 1 by have := L1.out; have := L2.out; have := L3.out; omega) (.bool t3) (.slice B3 m3 d3))
  replace Yg := Lib.hid (Yg.out.far (show ga + 1 + 1 + 1 + 1 ≠ gg by have := L1.out; have := L2.out; have := L3.out; omega) (.bool t3) (.slice B3 m3 d3))
  replace Yx := Lib.hid (Yx.out.far (show ga + 1 + 1 + 1 + 1 ≠ gx by have := L1.out; have := L2.out; have := L3.out; omega) (.bool t3) (.slice B3 m3 d3))
  replace Yy := Lib.hid (Yy.out.far (show ga + 1 + 1 + 1 + 1 ≠ gy by have := L1.out; have := L2.out; have := L3.out; omega) (.bool t3) (.slice B3 m3 d3))
  replace Ig := Lib.hid (Ig.out.store p0 p1 (.bool t3) (.slice B3 m3 d3))
  replace Ix := Lib.hid (Ix.out.store p0 p1 (.bool t3) (.slice B3 m3 d3))
  replace Iy := Lib.hid (Iy.out.store p0 p1 (.bool t3) (.slice B3 m3 d3))
  replace R6 := Lib.hid (R6.out.put t3 B3 m3 d3)
  clear p0 p1 p2 p3
  generalize (U6.setCell ⟨ga + 1 + 1 + 1 + 1, 0, none⟩ (.bool t3)).setCell ⟨ga + 1 + 1 + 1 + 1, 1, none⟩ (.slice B3 m3 d3) = U9 at HP R4 R5 R6 Ig Ix Iy Yg Yx Yy ⊢
  refine wpList_step fun K hK => ?_
  go_simp
  refine hK _ _ ?_
  clear hK K
  refine wpList_nil ?_
  go_wp2
  have y0 := R4.out.c0
  have y1 := R4.out.c1
  have y2 := R5.out.c0
  have y3 := R5.out.c1
  have y4 := R6.out.c0
  have y5 := R6.out.c1
  refine bodyPost_ret (v := .tuple #[.agg #[.bool t1, .slice B1 m1 d1], .agg #[.bool t2, .slice B2 m2 d2], .agg #[.bool t3, .slice B3 m3 d3], .int .i64 0]) (by simp [results, Try.results46, go_sem, y0, y1, y2, y3, y4, y5]) rfl ?_
  refine ⟨_, _, _, _, _, _, _, _, _, _, _, _, sgn (xn != s) xv, sgn (yn != s') yv, rfl, ?_, Ix.out, Iy.out, by rw [sgn_abs, sgn_abs]; exact HLL.out.1, by rw [sgn_abs, sgn_abs]; exact HLL.out.2, ?_, HP.out⟩
  · rw [HGC.out]
    exact Ig.out
  · rw [HGC.out, sgn_cancel, sgn_cancel]
    exact HBZ.out
end Go.Proofs.Ytbblckaplddggaa

import Derived.Test.YtbblckaplddggaaFh
import Derived.Test.YtbblckaplddggaaFj
import Derived.Test.YtbblckaplddggaaRk
set_option maxRecDepth 100000
namespace Go.Proofs.Ytbblckaplddggaa
open Go.RowKit
theorem root_le {X r : Nat} (h : IsRoot X r) : r ≤ X := by
  refine Nat.le_trans ?_ h.1
  rcases Nat.eq_zero_or_pos r with h0 | h0
  · omega
  · exact Nat.le_mul_of_pos_left r h0
theorem same_big {w : World} {z z' : Int} {t t' : Bool} {A A' : Option Addr} {n c n' c' : Nat} {k : Nat} (h : Is w z t A n c) (h' : Is w z' t' A' n' c') (hz : Sz z (k + k)) (hk : k ≤ 4096 := by omega) :
    Calls Try.prog 29 #[.agg #[.bool t, .slice A n c], .agg #[.bool t', .slice A' n' c']] w (IsB (decide (z = z')) w) := by
  have hl := h.len hz
  have := Same_c t t' A A' n c n' c' _ _ w h.2.2.1 h'.2.2.1 (by omega)
  rw [h.1, h'.1, same_iff] at this
  rw [h.1, h'.1]
  exact this
def RootNo (k : Int) (w : World) (e : Ending) (w' : World) : Prop :=
  e = .returned (.tuple #[.agg #[.bool false, .slice none 0 0], .bool false, .int .i64 k]) ∧ Below w.heap.size w w'

set_option maxHeartbeats 4000000 in
theorem Root_bad (s : Bool) (A : Option Addr) (n c : Nat) (xs : List Nat) (w : World) (h : Rd w A n xs) (hv : validB s xs = false) :
    Calls Try.prog 77 #[.agg #[.bool s, .slice A n c]] w (RootNo 1 w) := by
  have k0 := below_alloc w (.cells #[.bool s, .slice A n c] 24)
  have k1 := below_alloc (w.alloc (.cells #[.bool s, .slice A n c] 24)) (.cells #[.bool false, .slice none 0 0] 24)
  have P := Lib.hid (k0.trans (k1.mono k0.size))
  have Xa := Lib.hid ((Bx.new w s A n c).next k1)
  have X2 := Lib.hid (Bx.new (w.alloc (.cells #[.bool s, .slice A n c] 24)) false none 0 0)
  rw [World.size_alloc] at X2
  have RA := Lib.hid ((h.below k0).below k1)
  have HV := Lib.hid hv
  skip
  clear h hv k0 k1
  go_enter Try.func77, Try.ntmps77
  go_upto_region 1 with (fail)
  generalize (w.alloc (.cells #[.bool s, .slice A n c] 24)).alloc (.cells #[.bool false, .slice none 0 0] 24) = W0 at P Xa X2 RA ⊢
  obtain ⟨ga, hga⟩ : ∃ g, g = w.heap.size := ⟨_, rfl⟩
  have HG := Lib.hid (show w.heap.size ≤ ga by omega)
  rw [← hga] at Xa X2 ⊢
  clear hga
  have a0 := Xa.out.c0
  have a1 := Xa.out.c1
  go_wp2_with fail
  refine (valid_c s A n c xs _ RA.out).mono ?_
  rintro e w1 ⟨rfl, hb⟩
  rw [HV.out]
  replace P := Lib.hid (P.out.trans (hb.mono P.out.size))
  replace Xa := Lib.hid (Xa.out.next hb)
  replace X2 := Lib.hid (X2.out.next hb)
  clear hb a0 a1
  have a0 := Xa.out.c0
  have r0 := X2.out.c0
  have r1 := X2.out.c1
  have r2 := X2.out.f0
  have r3 := X2.out.f1
  go_wp2
  have Q := X2.out.put false none 0 0
  have PB := below_store P.out (show w.heap.size ≤ ga + 1 by have := HG.out; omega) (.bool false) (.slice none 0 0)
  have y0 := Q.c0
  have y1 := Q.c1
  refine bodyPost_ret (v := .tuple #[.agg #[.bool false, .slice none 0 0], .bool false, .int .i64 1]) (by simp [results, Try.results77, go_sem, y0, y1]) rfl ?_
  exact ⟨rfl, PB⟩
set_option maxHeartbeats 4000000 in
theorem Root_neg (s : Bool) (A : Option Addr) (n c : Nat) (xs : List Nat) (w : World) (h : Rd w A n xs) (hv : validB s xs = true) (hs : s = true) :
    Calls Try.prog 77 #[.agg #[.bool s, .slice A n c]] w (RootNo 2 w) := by
  have k0 := below_alloc w (.cells #[.bool s, .slice A n c] 24)
  have k1 := below_alloc (w.alloc (.cells #[.bool s, .slice A n c] 24)) (.cells #[.bool false, .slice none 0 0] 24)
  have P := Lib.hid (k0.trans (k1.mono k0.size))
  have Xa := Lib.hid ((Bx.new w s A n c).next k1)
  have X2 := Lib.hid (Bx.new (w.alloc (.cells #[.bool s, .slice A n c] 24)) false none 0 0)
  rw [World.size_alloc] at X2
  have RA := Lib.hid ((h.below k0).below k1)
  have HV := Lib.hid hv
  subst hs
  clear h hv k0 k1
  go_enter Try.func77, Try.ntmps77
  go_upto_region 1 with (fail)
  generalize (w.alloc (.cells #[.bool true, .slice A n c] 24)).alloc (.cells #[.bool false, .slice none 0 0] 24) = W0 at P Xa X2 RA ⊢
  obtain ⟨ga, hga⟩ : ∃ g, g = w.heap.size := ⟨_, rfl⟩
  have HG := Lib.hid (show w.heap.size ≤ ga by omega)
  rw [← hga] at Xa X2 ⊢
  clear hga
  have a0 := Xa.out.c0
  have a1 := Xa.out.c1
  go_wp2_with fail
  refine (valid_c true A n c xs _ RA.out).mono ?_
  rintro e w1 ⟨rfl, hb⟩
  rw [HV.out]
  replace P := Lib.hid (P.out.trans (hb.mono P.out.size))
  replace Xa := Lib.hid (Xa.out.next hb)
  replace X2 := Lib.hid (X2.out.next hb)
  clear hb a0 a1
  have a0 := Xa.out.c0
  have r0 := X2.out.c0
  have r1 := X2.out.c1
  have r2 := X2.out.f0
  have r3 := X2.out.f1
  go_wp2
  have Q := X2.out.put false none 0 0
  have PB := below_store P.out (show w.heap.size ≤ ga + 1 by have := HG.out; omega) (.bool false) (.slice none 0 0)
  have y0 := Q.c0
  have y1 := Q.c1
  refine bodyPost_ret (v := .tuple #[.agg #[.bool false, .slice none 0 0], .bool false, .int .i64 2]) (by simp [results, Try.results77, go_sem, y0, y1]) rfl ?_
  exact ⟨rfl, PB⟩
def DivNo (k : Int) (w : World) (e : Ending) (w' : World) : Prop :=
  e = .returned (.tuple #[.agg #[.bool false, .slice none 0 0], .agg #[.bool false, .slice none 0 0], .int .i64 k]) ∧ Below w.heap.size w w'
set_option maxHeartbeats 8000000 in
theorem Div_bad (s s' : Bool) (A A' : Option Addr) (n c n' c' : Nat) (xs ys : List Nat) (w : World) (h : Rd w A n xs) (h' : Rd w A' n' ys) (hv : (validB s xs && validB s' ys) = false) :
    Calls Try.prog 45 #[.agg #[.bool s, .slice A n c], .agg #[.bool s', .slice A' n' c']] w (DivNo 1 w) := by
  have k0 := below_alloc w (.cells #[.bool s, .slice A n c] 24)
  have k1 := below_alloc (w.alloc (.cells #[.bool s, .slice A n c] 24)) (.cells #[.bool s', .slice A' n' c'] 24)
  have k2 := below_alloc ((w.alloc (.cells #[.bool s, .slice A n c] 24)).alloc (.cells #[.bool s', .slice A' n' c'] 24)) (.cells #[.bool false, .slice none 0 0] 24)
  have k3 := below_alloc (((w.alloc (.cells #[.bool s, .slice A n c] 24)).alloc (.cells #[.bool s', .slice A' n' c'] 24)).alloc (.cells #[.bool false, .slice none 0 0] 24)) (.cells #[.bool false, .slice none 0 0] 24)
  have k01 := k0.trans (k1.mono k0.size)
  have k012 := k01.trans (k2.mono k01.size)
  have P := Lib.hid (k012.trans (k3.mono k012.size))
  have Xa := Lib.hid ((((Bx.new w s A n c).next k1).next k2).next k3)
  have Xb := Lib.hid (((Bx.new (w.alloc (.cells #[.bool s, .slice A n c] 24)) s' A' n' c').next k2).next k3)
  have X4 := Lib.hid ((Bx.new ((w.alloc (.cells #[.bool s, .slice A n c] 24)).alloc (.cells #[.bool s', .slice A' n' c'] 24)) false none 0 0).next k3)
  have X5 := Lib.hid (Bx.new (((w.alloc (.cells #[.bool s, .slice A n c] 24)).alloc (.cells #[.bool s', .slice A' n' c'] 24)).alloc (.cells #[.bool false, .slice none 0 0] 24)) false none 0 0)
  simp only [World.size_alloc] at Xb X4 X5
  have RA := Lib.hid (h.below P.out)
  have RB := Lib.hid (h'.below P.out)
  have HV := Lib.hid hv
  skip
  clear h h' hv k0 k1 k2 k3 k01 k012
  go_enter Try.func45, Try.ntmps45
  go_upto_region 1 with (fail)
  generalize (((w.alloc (.cells #[.bool s, .slice A n c] 24)).alloc (.cells #[.bool s', .slice A' n' c'] 24)).alloc (.cells #[.bool false, .slice none 0 0] 24)).alloc (.cells #[.bool false, .slice none 0 0] 24) = W0 at P Xa Xb X4 X5 RA RB ⊢
  obtain ⟨ga, hga⟩ : ∃ g, g = w.heap.size := ⟨_, rfl⟩
  have HG := Lib.hid (show w.heap.size ≤ ga by omega)
  rw [← hga] at Xa Xb X4 X5 ⊢
  clear hga
  have a0 := Xa.out.c0
  have a1 := Xa.out.c1
  have b0 := Xb.out.c0
  have b1 := Xb.out.c1
  go_wp2_with fail
  have hb := below_alloc W0 (.cells #[.bool s, .slice A n c, .bool s', .slice A' n' c'] 24)
  refine (allValid_c W0.heap.size s s' A A' n c n' c' xs ys _ (RA.out.below hb) (RB.out.below hb) (by simp) (by go_simp) (by go_simp) (by go_simp) (by go_simp)).mono ?_
  rw [HV.out]
  rintro e w1 ⟨rfl, hb1⟩
  have hB := hb.trans (hb1.mono hb.size)
  replace P := Lib.hid (P.out.trans (hB.mono P.out.size))
  replace Xb := Lib.hid (Xb.out.next hB)
  replace X4 := Lib.hid (X4.out.next hB)
  replace X5 := Lib.hid (X5.out.next hB)
  clear hb hb1 hB a0 a1 b0 b1 Xa
  have b1 := Xb.out.c1
  have r0 := X4.out.c0
  have r1 := X4.out.c1
  have r2 := X4.out.f0
  have r3 := X4.out.f1
  have s0 := X5.out.c0
  have s1 := X5.out.c1
  have s2 := X5.out.f0
  have s3 := X5.out.f1
  go_wp2
  generalize hX : (((w1.setCell ⟨ga + 1 + 1, 0, none⟩ (.bool false)).setCell ⟨ga + 1 + 1, 1, none⟩ (.slice none 0 0)).setCell ⟨ga + 1 + 1 + 1, 0, none⟩ (.bool false)).setCell ⟨ga + 1 + 1 + 1, 1, none⟩ (.slice none 0 0) = X
  have Q4 := (X4.out.put false none 0 0).far (show ga + 1 + 1 + 1 ≠ ga + 1 + 1 by omega) (.bool false) (.slice none 0 0)
  have Q5 := (X5.out.far (show ga + 1 + 1 ≠ ga + 1 + 1 + 1 by omega) (.bool false) (.slice none 0 0)).put false none 0 0
  have PB := below_store (below_store P.out (show w.heap.size ≤ ga + 1 + 1 by have := HG.out; omega) (.bool false) (.slice none 0 0)) (show w.heap.size ≤ ga + 1 + 1 + 1 by have := HG.out; omega) (.bool false) (.slice none 0 0)
  rw [hX] at Q4 Q5 PB
  have y0 := Q4.c0
  have y1 := Q4.c1
  have y2 := Q5.c0
  have y3 := Q5.c1
  refine bodyPost_ret (v := .tuple #[.agg #[.bool false, .slice none 0 0], .agg #[.bool false, .slice none 0 0], .int .i64 1]) (by simp [results, Try.results45, go_sem, y0, y1, y2, y3]) rfl ?_
  exact ⟨rfl, PB⟩
set_option maxHeartbeats 8000000 in
theorem Div_zero (s s' : Bool) (A A' : Option Addr) (n c n' c' : Nat) (xs ys : List Nat) (w : World) (h : Rd w A n xs) (h' : Rd w A' n' ys) (hv : (validB s xs && validB s' ys) = true) (h0 : n' = 0) :
    Calls Try.prog 45 #[.agg #[.bool s, .slice A n c], .agg #[.bool s', .slice A' n' c']] w (DivNo 2 w) := by
  have k0 := below_alloc w (.cells #[.bool s, .slice A n c] 24)
  have k1 := below_alloc (w.alloc (.cells #[.bool s, .slice A n c] 24)) (.cells #[.bool s', .slice A' n' c'] 24)
  have k2 := below_alloc ((w.alloc (.cells #[.bool s, .slice A n c] 24)).alloc (.cells #[.bool s', .slice A' n' c'] 24)) (.cells #[.bool false, .slice none 0 0] 24)
  have k3 := below_alloc (((w.alloc (.cells #[.bool s, .slice A n c] 24)).alloc (.cells #[.bool s', .slice A' n' c'] 24)).alloc (.cells #[.bool false, .slice none 0 0] 24)) (.cells #[.bool false, .slice none 0 0] 24)
  have k01 := k0.trans (k1.mono k0.size)
  have k012 := k01.trans (k2.mono k01.size)
  have P := Lib.hid (k012.trans (k3.mono k012.size))
  have Xa := Lib.hid ((((Bx.new w s A n c).next k1).next k2).next k3)
  have Xb := Lib.hid (((Bx.new (w.alloc (.cells #[.bool s, .slice A n c] 24)) s' A' n' c').next k2).next k3)
  have X4 := Lib.hid ((Bx.new ((w.alloc (.cells #[.bool s, .slice A n c] 24)).alloc (.cells #[.bool s', .slice A' n' c'] 24)) false none 0 0).next k3)
  have X5 := Lib.hid (Bx.new (((w.alloc (.cells #[.bool s, .slice A n c] 24)).alloc (.cells #[.bool s', .slice A' n' c'] 24)).alloc (.cells #[.bool false, .slice none 0 0] 24)) false none 0 0)
  simp only [World.size_alloc] at Xb X4 X5
  have RA := Lib.hid (h.below P.out)
  have RB := Lib.hid (h'.below P.out)
  have HV := Lib.hid hv
  subst h0
  clear h h' hv k0 k1 k2 k3 k01 k012
  go_enter Try.func45, Try.ntmps45
  go_upto_region 1 with (fail)
  generalize (((w.alloc (.cells #[.bool s, .slice A n c] 24)).alloc (.cells #[.bool s', .slice A' 0 c'] 24)).alloc (.cells #[.bool false, .slice none 0 0] 24)).alloc (.cells #[.bool false, .slice none 0 0] 24) = W0 at P Xa Xb X4 X5 RA RB ⊢
  obtain ⟨ga, hga⟩ : ∃ g, g = w.heap.size := ⟨_, rfl⟩
  have HG := Lib.hid (show w.heap.size ≤ ga by omega)
  rw [← hga] at Xa Xb X4 X5 ⊢
  clear hga
  have a0 := Xa.out.c0
  have a1 := Xa.out.c1
  have b0 := Xb.out.c0
  have b1 := Xb.out.c1
  go_wp2_with fail
  have hb := below_alloc W0 (.cells #[.bool s, .slice A n c, .bool s', .slice A' 0 c'] 24)
  refine (allValid_c W0.heap.size s s' A A' n c 0 c' xs ys _ (RA.out.below hb) (RB.out.below hb) (by simp) (by go_simp) (by go_simp) (by go_simp) (by go_simp)).mono ?_
  rw [HV.out]
  rintro e w1 ⟨rfl, hb1⟩
  have hB := hb.trans (hb1.mono hb.size)
  replace P := Lib.hid (P.out.trans (hB.mono P.out.size))
  replace Xb := Lib.hid (Xb.out.next hB)
  replace X4 := Lib.hid (X4.out.next hB)
  replace X5 := Lib.hid (X5.out.next hB)
  clear hb hb1 hB a0 a1 b0 b1 Xa
  have b1 := Xb.out.c1
  have r0 := X4.out.c0
  have r1 := X4.out.c1
  have r2 := X4.out.f0
  have r3 := X4.out.f1
  have s0 := X5.out.c0
  have s1 := X5.out.c1
  have s2 := X5.out.f0
  have s3 := X5.out.f1
  go_wp2
  generalize hX : (((w1.setCell ⟨ga + 1 + 1, 0, none⟩ (.bool false)).setCell ⟨ga + 1 + 1, 1, none⟩ (.slice none 0 0)).setCell ⟨ga + 1 + 1 + 1, 0, none⟩ (.bool false)).setCell ⟨ga + 1 + 1 + 1, 1, none⟩ (.slice none 0 0) = X
  have Q4 := (X4.out.put false none 0 0).far (show ga + 1 + 1 + 1 ≠ ga + 1 + 1 by omega) (.bool false) (.slice none 0 0)
  have Q5 := (X5.out.far (show ga + 1 + 1 ≠ ga + 1 + 1 + 1 by omega) (.bool false) (.slice none 0 0)).put false none 0 0
  have PB := below_store (below_store P.out (show w.heap.size ≤ ga + 1 + 1 by have := HG.out; omega) (.bool false) (.slice none 0 0)) (show w.heap.size ≤ ga + 1 + 1 + 1 by have := HG.out; omega) (.bool false) (.slice none 0 0)
  rw [hX] at Q4 Q5 PB
  have y0 := Q4.c0
  have y1 := Q4.c1
  have y2 := Q5.c0
  have y3 := Q5.c1
  refine bodyPost_ret (v := .tuple #[.agg #[.bool false, .slice none 0 0], .agg #[.bool false, .slice none 0 0], .int .i64 2]) (by simp [results, Try.results45, go_sem, y0, y1, y2, y3]) rfl ?_
  exact ⟨rfl, PB⟩
set_option maxHeartbeats 8000000 in
theorem root_law_bad (s : Bool) (A : Option Addr) (n c : Nat) (xs : List Nat) (w : World) (h : Rd w A n xs) (hv : validB s xs = false) :
    Calls Try.prog 48 #[.agg #[.bool s, .slice A n c]] w (IsB true w) := by
  have k0 := below_alloc w (.cells #[.bool s, .slice A n c] 24)
  have P := Lib.hid k0
  have Xa := Lib.hid (Bx.new w s A n c)
  have RA := Lib.hid (h.below k0)
  have HV := Lib.hid hv
  skip
  clear h hv k0 
  go_enter Try.func48, Try.ntmps48
  go_upto_region 1 with (fail)
  generalize w.alloc (.cells #[.bool s, .slice A n c] 24) = W0 at P Xa RA ⊢
  obtain ⟨ga, hga⟩ : ∃ g, g = w.heap.size := ⟨_, rfl⟩
  rw [← hga] at Xa ⊢
  clear hga
  have a0 := Xa.out.c0
  have a1 := Xa.out.c1
  go_wp2_with fail
  refine (Root_bad s A n c xs _ RA.out HV.out ).mono ?_
  rintro e w1 ⟨rfl, hb⟩
  have ha := below_alloc w1 (.cells #[.bool false, .slice none 0 0] 24)
  have hB := hb.trans (ha.mono hb.size)
  replace P := Lib.hid (P.out.trans (hB.mono P.out.size))
  replace Xa := Lib.hid (Xa.out.next hB)
  replace RA := Lib.hid (RA.out.below hB)
  have X3 := Lib.hid (Bx.new w1 false none 0 0)
  clear hb ha hB a0 a1
  go_upto_region 2 with (fail)
  generalize w1.alloc (.cells #[.bool false, .slice none 0 0] 24) = W1 at P Xa RA X3 ⊢
  generalize w1.heap.size = g3 at X3 ⊢
  have a0 := Xa.out.c0
  have a1 := Xa.out.c1
  go_wp2_with fail
  refine (refValid_c s A n c xs _ RA.out).mono ?_
  rw [HV.out]
  rintro e w2 ⟨rfl, hb⟩
  replace P := Lib.hid (P.out.trans (hb.mono P.out.size))
  replace Xa := Lib.hid (Xa.out.next hb)
  replace X3 := Lib.hid (X3.out.next hb)
  clear hb a0 a1
  have a0 := Xa.out.c0
  skip
  have b0 := X3.out.c0
  have b1 := X3.out.c1
  go_wp2_with fail
  refine (no_c 1 _).mono ?_
  rintro e w3 ⟨rfl, hb⟩
  replace P := Lib.hid (P.out.trans (hb.mono P.out.size))
  clear hb a0 b0 b1
  go_wp2
  go_ret
  exact ⟨rfl, P.out⟩
set_option maxHeartbeats 8000000 in
theorem root_law_neg (s : Bool) (A : Option Addr) (n c : Nat) (xs : List Nat) (w : World) (h : Rd w A n xs) (hv : validB s xs = true) (hs : s = true) :
    Calls Try.prog 48 #[.agg #[.bool s, .slice A n c]] w (IsB true w) := by
  have k0 := below_alloc w (.cells #[.bool s, .slice A n c] 24)
  have P := Lib.hid k0
  have Xa := Lib.hid (Bx.new w s A n c)
  have RA := Lib.hid (h.below k0)
  have HV := Lib.hid hv
  have HS := Lib.hid hs
  clear h hv k0 hs
  go_enter Try.func48, Try.ntmps48
  go_upto_region 1 with (fail)
  generalize w.alloc (.cells #[.bool s, .slice A n c] 24) = W0 at P Xa RA ⊢
  obtain ⟨ga, hga⟩ : ∃ g, g = w.heap.size := ⟨_, rfl⟩
  rw [← hga] at Xa ⊢
  clear hga
  have a0 := Xa.out.c0
  have a1 := Xa.out.c1
  go_wp2_with fail
  refine (Root_neg s A n c xs _ RA.out HV.out HS.out).mono ?_
  rintro e w1 ⟨rfl, hb⟩
  have ha := below_alloc w1 (.cells #[.bool false, .slice none 0 0] 24)
  have hB := hb.trans (ha.mono hb.size)
  replace P := Lib.hid (P.out.trans (hB.mono P.out.size))
  replace Xa := Lib.hid (Xa.out.next hB)
  replace RA := Lib.hid (RA.out.below hB)
  have X3 := Lib.hid (Bx.new w1 false none 0 0)
  clear hb ha hB a0 a1
  go_upto_region 2 with (fail)
  generalize w1.alloc (.cells #[.bool false, .slice none 0 0] 24) = W1 at P Xa RA X3 ⊢
  generalize w1.heap.size = g3 at X3 ⊢
  have a0 := Xa.out.c0
  have a1 := Xa.out.c1
  go_wp2_with fail
  refine (refValid_c s A n c xs _ RA.out).mono ?_
  rw [HV.out]
  rintro e w2 ⟨rfl, hb⟩
  replace P := Lib.hid (P.out.trans (hb.mono P.out.size))
  replace Xa := Lib.hid (Xa.out.next hb)
  replace X3 := Lib.hid (X3.out.next hb)
  clear hb a0 a1
  have a0 := Xa.out.c0
  rw [HS.out] at a0
  have b0 := X3.out.c0
  have b1 := X3.out.c1
  go_wp2_with fail
  refine (no_c 2 _).mono ?_
  rintro e w3 ⟨rfl, hb⟩
  replace P := Lib.hid (P.out.trans (hb.mono P.out.size))
  clear hb a0 b0 b1
  go_wp2
  go_ret
  exact ⟨rfl, P.out⟩
set_option maxHeartbeats 8000000 in
theorem root_law_ok (A : Option Addr) (n c : Nat) (xs : List Nat) (w : World) (h : Rd w A n xs) (hv : validB false xs = true) (hn : n ≤ c) (hc : c ≤ 9223372036854775807) :
    Calls Try.prog 48 #[.agg #[.bool false, .slice A n c]] w (IsB true w) := by
  have k0 := below_alloc w (.cells #[.bool false, .slice A n c] 24)
  have P := Lib.hid k0
  have Xa := Lib.hid (Bx.new w false A n c)
  have RA := Lib.hid (h.below k0)
  have VX := Lib.hid (valid_canon h.sm hv)
  have HV := Lib.hid hv
  have HLN := Lib.hid h.len
  have hl := VX.out.2.1
  rw [h.len] at hl
  obtain ⟨X, hX⟩ : ∃ X, X = val xs := ⟨_, rfl⟩
  have HX := Lib.hid hX
  have hXl : (words X).length ≤ 4096 := by rw [hX, words_val VX.out.1]; exact VX.out.2.1
  have HXL := Lib.hid hXl
  have HI := Lib.hid (fun (W : World) (r : Rd W A n xs) => show Is W (X : Int) false A n c by
    have e : words X = xs := by rw [hX, words_val VX.out.1]
    refine ⟨by rw [eq_comm, decide_eq_false_iff_not]; omega, ?_, ?_, hn, hc⟩
    · rw [Int.natAbs_natCast, e]; exact HLN.out.symm
    · rw [Int.natAbs_natCast, e]; exact r)
  have SX := Lib.hid (show Sz (X : Int) 4096 by show ((X : Int)).natAbs < pw 4096; rw [Int.natAbs_natCast]; exact words_len_le.1 hXl)
  clear h hv k0 hX hXl hn hc
  go_enter Try.func48, Try.ntmps48
  go_upto_region 1 with (fail)
  generalize w.alloc (.cells #[.bool false, .slice A n c] 24) = W0 at P Xa RA ⊢
  obtain ⟨ga, hga⟩ : ∃ g, g = w.heap.size := ⟨_, rfl⟩
  rw [← hga] at Xa ⊢
  clear hga
  have a0 := Xa.out.c0
  have a1 := Xa.out.c1
  go_wp2_with fail
  refine (Root_ok A n c xs _ RA.out HV.out (Lib.hid fun w' r => root_c A n c xs w' r VX.out.1 hl)).mono ?_
  rw [← HX.out]
  rintro e w1 ⟨r, t3, A3, n3, c3, hr, rfl, i3, hb⟩
  have HR := Lib.hid hr
  have hrX : r ≤ X := root_le hr
  have lr : (words r).length ≤ 4096 := Nat.le_trans (words_mono hrX) HXL.out
  have SR := Lib.hid (show Sz (r : Int) 4096 by show ((r : Int)).natAbs < pw 4096; rw [Int.natAbs_natCast]; exact words_len_le.1 lr)
  obtain ⟨dd, hdd⟩ : ∃ d, d = decide (r * r = X) := ⟨_, rfl⟩
  rw [← hdd]
  have HD := Lib.hid (show decide ((r : Int) * (r : Int) = (X : Int)) = dd by rw [hdd, decide_eq_decide]; exact ⟨fun h => by exact_mod_cast h, fun h => by exact_mod_cast h⟩)
  have q1 : (dd == dd) = true := by cases dd <;> rfl
  have ha := below_alloc w1 (.cells #[.bool t3, .slice A3 n3 c3] 24)
  have hB := hb.trans (ha.mono hb.size)
  replace P := Lib.hid (P.out.trans (hB.mono P.out.size))
  replace Xa := Lib.hid (Xa.out.next hB)
  replace RA := Lib.hid (RA.out.below hB)
  have X3 := Lib.hid (Nvr.new i3)
  clear hb ha hB a0 a1 hr hrX lr hdd i3
  go_upto_region 2 with (fail)
  generalize w1.alloc (.cells #[.bool t3, .slice A3 n3 c3] 24) = W1 at P Xa RA X3 ⊢
  generalize w1.heap.size = g3 at X3 ⊢
  have a0 := Xa.out.c0
  have a1 := Xa.out.c1
  go_wp2_with fail
  refine (refValid_c false A n c xs _ RA.out).mono ?_
  rw [HV.out]
  rintro e w2 ⟨rfl, hb⟩
  replace P := Lib.hid (P.out.trans (hb.mono P.out.size))
  replace Xa := Lib.hid (Xa.out.next hb)
  replace RA := Lib.hid (RA.out.below hb)
  replace X3 := Lib.hid (X3.out.next hb)
  clear hb a0 a1
  have a0 := Xa.out.c0
  have a1 := Xa.out.c1
  go_wp2_with fail
  refine (refRoot_c (HI.out _ RA.out) HXL.out).mono ?_
  rintro e w3 ⟨r', hr', t6, A6, n6, c6, rfl, i6, hb⟩
  obtain rfl : r' = r := hr'.unique HR.out
  have ha := below_alloc w3 (.cells #[.bool t6, .slice A6 n6 c6] 24)
  have hB := hb.trans (ha.mono hb.size)
  replace P := Lib.hid (P.out.trans (hB.mono P.out.size))
  replace Xa := Lib.hid (Xa.out.next hB)
  replace RA := Lib.hid (RA.out.below hB)
  replace X3 := Lib.hid (X3.out.next hB)
  have X6 := Lib.hid (Nvr.new i6)
  clear hb ha hB a0 a1 i6 hr'
  go_upto_region 7 with (fail)
  generalize w3.alloc (.cells #[.bool t6, .slice A6 n6 c6] 24) = W3 at P Xa RA X3 X6 ⊢
  generalize w3.heap.size = g6 at X6 ⊢
  refine wp_region_tail (S := (fun w' => w'.cell? ⟨g3, 0, none⟩ = some (.bool t3) ∧ w'.cell? ⟨g3, 1, none⟩ = some (.slice A3 n3 c3) ∧ w'.cell? ⟨g6, 0, none⟩ = some (.bool t6) ∧ w'.cell? ⟨g6, 1, none⟩ = some (.slice A6 n6 c6) ∧ w'.cell? ⟨ga, 0, none⟩ = some (.bool false) ∧ w'.cell? ⟨ga, 1, none⟩ = some (.slice A n c))) 16 (by kernel_rfl) (by kernel_rfl) (by intro c a d v w h; cases d <;> exact h) ⟨cell_dr X3.out.c0, cell_dr X3.out.c1, cell_dr X6.out.c0, cell_dr X6.out.c1, cell_dr7 Xa.out.c0, cell_dr7 Xa.out.c1⟩ (fun QT hT hP hHeld => ?_)
  simp only [List.extract_toArray, List.extract_eq_take_drop, List.drop_zero, Nat.sub_zero, List.take_succ_cons, List.take_zero]
  have HT := Lib.hid hT
  clear hT
  replace P := Lib.hid (P.out.trans ((Below.refl W3.heap.size W3).drew.mono P.out.size))
  replace Xa := Lib.hid (Xa.out.next (Below.refl W3.heap.size W3).drew)
  replace RA := Lib.hid (RA.out.below (Below.refl W3.heap.size W3).drew)
  replace X3 := Lib.hid (X3.out.next (Below.refl W3.heap.size W3).drew)
  replace X6 := Lib.hid (X6.out.next (Below.refl W3.heap.size W3).drew)
  generalize W3.drew = D1 at P Xa RA X3 X6 hHeld ⊢
  refine take_on (i := 0) (d := (some 36)) (v := ?v1) rfl rfl (by kernel_rfl) (by kernel_rfl) (by kernel_rfl) (fun c a w h => hP c a _ _ w h) (by rfl) ?h1 (by assumption) ?r1
  case h1 => intro w hSw; obtain ⟨h0, h1, h2, h3, h4, h5⟩ := hSw; go_simp; rfl
  simp only [Act.put, List.setIfInBounds_toArray, List.set_cons_zero, List.set_cons_succ]
  refine take_on (i := 1) (d := (some 37)) (v := ?v2) rfl rfl (by kernel_rfl) (by kernel_rfl) (by kernel_rfl) (fun c a w h => hP c a _ _ w h) (by rfl) ?h2 (by assumption) ?r2
  case h2 => intro w hSw; obtain ⟨h0, h1, h2, h3, h4, h5⟩ := hSw; go_simp; rfl
  simp only [Act.put, List.setIfInBounds_toArray, List.set_cons_zero, List.set_cons_succ]
  refine take_on (i := 2) (d := (some 38)) (v := ?v3) rfl rfl (by kernel_rfl) (by kernel_rfl) (by kernel_rfl) (fun c a w h => hP c a _ _ w h) (by rfl) ?h3 (by assumption) ?r3
  case h3 => intro w hSw; obtain ⟨h0, h1, h2, h3, h4, h5⟩ := hSw; go_simp; rfl
  simp only [Act.put, List.setIfInBounds_toArray, List.set_cons_zero, List.set_cons_succ]
  refine take_on (i := 3) (d := (some 39)) (v := ?v4) rfl rfl (by kernel_rfl) (by kernel_rfl) (by kernel_rfl) (fun c a w h => hP c a _ _ w h) (by rfl) ?h4 (by assumption) ?r4
  case h4 => intro w hSw; obtain ⟨h0, h1, h2, h3, h4, h5⟩ := hSw; go_simp; rfl
  simp only [Act.put, List.setIfInBounds_toArray, List.set_cons_zero, List.set_cons_succ]
  refine take_on (i := 4) (d := (some 40)) (v := ?v5) rfl rfl (by kernel_rfl) (by kernel_rfl) (by kernel_rfl) (fun c a w h => hP c a _ _ w h) (by rfl) ?h5 (by assumption) ?r5
  case h5 => intro w hSw; obtain ⟨h0, h1, h2, h3, h4, h5⟩ := hSw; go_simp; rfl
  simp only [Act.put, List.setIfInBounds_toArray, List.set_cons_zero, List.set_cons_succ]
  refine wpAnyH_ready (rs := [5]) (by kernel_rfl) (by simp) ?_
  refine AllReadyH.cons rfl (fun K hK => ?_) AllReadyH.nil
  go_simp
  refine (same_eq (k := 4096) X3.out.is X6.out.is SR.out (Nat.le_refl _) rfl).mono ?_
  rintro e w2 ⟨rfl, hb⟩
  replace P := Lib.hid (P.out.trans (hb.mono P.out.size))
  replace Xa := Lib.hid (Xa.out.next hb)
  replace RA := Lib.hid (RA.out.below hb)
  replace X3 := Lib.hid (X3.out.next hb)
  replace X6 := Lib.hid (X6.out.next hb)
  clear hb hHeld
  refine hK.out _ _ ⟨X3.out.c0, X3.out.c1, X6.out.c0, X6.out.c1, Xa.out.c0, Xa.out.c1⟩ (fun hHeld => ?_)
  clear hK K
  refine take_on (i := 6) (d := (some 42)) (v := ?v6) rfl rfl (by kernel_rfl) (by kernel_rfl) (by kernel_rfl) (fun c a w h => hP c a _ _ w h) (by rfl) ?h6 (by assumption) ?r6
  case h6 => intro w hSw; obtain ⟨h0, h1, h2, h3, h4, h5⟩ := hSw; go_simp; rfl
  simp only [Act.put, List.setIfInBounds_toArray, List.set_cons_zero, List.set_cons_succ]
  refine take_on (i := 7) (d := (some 43)) (v := ?v7) rfl rfl (by kernel_rfl) (by kernel_rfl) (by kernel_rfl) (fun c a w h => hP c a _ _ w h) (by rfl) ?h7 (by assumption) ?r7
  case h7 => intro w hSw; obtain ⟨h0, h1, h2, h3, h4, h5⟩ := hSw; go_simp; rfl
  simp only [Act.put, List.setIfInBounds_toArray, List.set_cons_zero, List.set_cons_succ]
  refine take_on (i := 8) (d := (some 44)) (v := ?v8) rfl rfl (by kernel_rfl) (by kernel_rfl) (by kernel_rfl) (fun c a w h => hP c a _ _ w h) (by rfl) ?h8 (by assumption) ?r8
  case h8 => intro w hSw; obtain ⟨h0, h1, h2, h3, h4, h5⟩ := hSw; go_simp; rfl
  simp only [Act.put, List.setIfInBounds_toArray, List.set_cons_zero, List.set_cons_succ]
  refine take_on (i := 9) (d := (some 45)) (v := ?v9) rfl rfl (by kernel_rfl) (by kernel_rfl) (by kernel_rfl) (fun c a w h => hP c a _ _ w h) (by rfl) ?h9 (by assumption) ?r9
  case h9 => intro w hSw; obtain ⟨h0, h1, h2, h3, h4, h5⟩ := hSw; go_simp; rfl
  simp only [Act.put, List.setIfInBounds_toArray, List.set_cons_zero, List.set_cons_succ]
  refine take_on (i := 10) (d := (some 46)) (v := ?v10) rfl rfl (by kernel_rfl) (by kernel_rfl) (by kernel_rfl) (fun c a w h => hP c a _ _ w h) (by rfl) ?h10 (by assumption) ?r10
  case h10 => intro w hSw; obtain ⟨h0, h1, h2, h3, h4, h5⟩ := hSw; go_simp; rfl
  simp only [Act.put, List.setIfInBounds_toArray, List.set_cons_zero, List.set_cons_succ]
  refine take_on (i := 12) (d := (some 48)) (v := ?v11) rfl rfl (by kernel_rfl) (by kernel_rfl) (by kernel_rfl) (fun c a w h => hP c a _ _ w h) (by rfl) ?h11 (by assumption) ?r11
  case h11 => intro w hSw; obtain ⟨h0, h1, h2, h3, h4, h5⟩ := hSw; go_simp; rfl
  simp only [Act.put, List.setIfInBounds_toArray, List.set_cons_zero, List.set_cons_succ]
  refine wpAnyH_ready (rs := [11]) (by kernel_rfl) (by simp) ?_
  refine AllReadyH.cons rfl (fun K hK => ?_) AllReadyH.nil
  go_simp
  refine (refMul_c X6.out.is X6.out.is (Nat.le_trans (X6.out.is.len SR.out) (by omega)) (Nat.le_trans (X6.out.is.len SR.out) (by omega))).mono ?_
  rintro e w3 ⟨t40, A40, n40, c40, rfl, i40, hb⟩
  replace P := Lib.hid (P.out.trans (hb.mono P.out.size))
  replace Xa := Lib.hid (Xa.out.next hb)
  replace RA := Lib.hid (RA.out.below hb)
  replace X3 := Lib.hid (X3.out.next hb)
  replace X6 := Lib.hid (X6.out.next hb)
  have J0 := Lib.hid (i40)
  clear hb hHeld i40
  refine hK.out _ _ ⟨X3.out.c0, X3.out.c1, X6.out.c0, X6.out.c1, Xa.out.c0, Xa.out.c1⟩ (fun hHeld => ?_)
  clear hK K
  refine wpAnyH_ready (rs := [13]) (by kernel_rfl) (by simp) ?_
  refine AllReadyH.cons rfl (fun K hK => ?_) AllReadyH.nil
  go_simp
  refine (same_big J0.out (HI.out _ RA.out) (SR.out.mul SR.out)).mono ?_
  rw [HD.out]
  rintro e w4 ⟨rfl, hb⟩
  clear J0
  replace P := Lib.hid (P.out.trans (hb.mono P.out.size))
  replace Xa := Lib.hid (Xa.out.next hb)
  replace RA := Lib.hid (RA.out.below hb)
  replace X3 := Lib.hid (X3.out.next hb)
  replace X6 := Lib.hid (X6.out.next hb)
  clear hb hHeld
  refine hK.out _ _ ⟨X3.out.c0, X3.out.c1, X6.out.c0, X6.out.c1, Xa.out.c0, Xa.out.c1⟩ (fun hHeld => ?_)
  clear hK K
  refine take_on (i := 14) (d := (some 50)) (v := ?v12) rfl rfl (by kernel_rfl) (by kernel_rfl) (by kernel_rfl) (fun c a w h => hP c a _ _ w h) (by rfl) ?h12 (by assumption) ?r12
  case h12 => intro w hSw; obtain ⟨h0, h1, h2, h3, h4, h5⟩ := hSw; go_simp; rfl
  simp only [Act.put, List.setIfInBounds_toArray, List.set_cons_zero, List.set_cons_succ]
  refine take_on (i := 15) (d := (some 51)) (v := ?v13) rfl rfl (by kernel_rfl) (by kernel_rfl) (by kernel_rfl) (fun c a w h => hP c a _ _ w h) (by rfl) ?h13 (by assumption) ?r13
  case h13 => intro w hSw; obtain ⟨h0, h1, h2, h3, h4, h5⟩ := hSw; go_simp; rfl
  simp only [Act.put, List.setIfInBounds_toArray, List.set_cons_zero, List.set_cons_succ]
  clear hHeld
  refine wpAnyH_done (by kernel_rfl) ?_ _
  refine HT.out _ _ ?_
  clear HT hP QT
  refine wpList_step fun K hK => ?_
  go_simp
  refine hK _ _ ?_
  clear hK K
  refine wpList_nil ?_
  go_wp2
  go_ret
  exact ⟨rfl, P.out⟩
theorem root_law (s : Bool) (A : Option Addr) (n c : Nat) (xs : List Nat) (w : World) (h : Rd w A n xs) (hn : n ≤ c) (hc : c ≤ 9223372036854775807) :
    Calls Try.prog 48 #[.agg #[.bool s, .slice A n c]] w (IsB true w) := by
  cases hv : validB s xs with
  | false => exact root_law_bad s A n c xs w h hv
  | true =>
    cases s with
    | true => exact root_law_neg true A n c xs w h hv rfl
    | false => exact root_law_ok A n c xs w h hv hn hc
end Go.Proofs.Ytbblckaplddggaa

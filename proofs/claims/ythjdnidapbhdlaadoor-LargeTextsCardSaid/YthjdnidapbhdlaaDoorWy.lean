import Derived.Test.YthjdnidapbhdlaaDoorWu
namespace Go.Proofs.YthjdnidapbhdlaaDoor
open Go.RowKit

set_option maxHeartbeats 400000 in
set_option maxRecDepth 100000 in
theorem Div_neg0 (s' : Bool) (A A' : Option Addr) (n c n' c' : Nat) (xs ys : List Nat) (w : World) (h : Rd w A n xs) (h' : Rd w A' n' ys) (vx : validB true xs = true) (vy : validB s' ys = true) (h0 : 0 < n') (hR0 : val xs % val ys = 0)
    (DV : Hid (∀ w', Rd w' A n xs → Rd w' A' n' ys → Calls Tryd.prog 80 #[.slice A n c, .slice A' n' c'] w' (Out2 w' (val xs / val ys) (val xs % val ys)))) :
    Calls Tryd.prog 37 #[.agg #[.bool true, .slice A n c], .agg #[.bool s', .slice A' n' c']] w (DivPost w (sgn true (val xs) / sgn s' (val ys)) (sgn true (val xs) % sgn s' (val ys))) := by
  have VX := Lib.hid (valid_canon h.sm vx)
  have VY := Lib.hid (valid_canon h'.sm vy)
  have HV := Lib.hid (show (validB true xs && validB s' ys) = true by rw [vx, vy]; rfl)
  have t0 : ((n' : Int) == 0) = false := by rw [beq_eq_false_iff_ne]; omega
  have hYp := canon_pos VY.out.1 (by rw [h'.len]; omega)
  have hZ := Lib.hid (div_neg0 s' (val xs) (val ys) hYp hR0)
  rw [show (true != s') = !s' by cases s' <;> rfl] at hZ
  obtain ⟨Q, hQ⟩ : ∃ Q, Q = val xs / val ys := ⟨_, rfl⟩
  obtain ⟨R, hR⟩ : ∃ R, R = val xs % val ys := ⟨_, rfl⟩
  have hQl : (words Q).length ≤ 4096 := by
    have := words_mono (Nat.div_le_self (val xs) (val ys))
    rw [words_val VX.out.1, ← hQ] at this
    exact Nat.le_trans this VX.out.2.1
  have hRl : (words R).length ≤ 4096 := by
    have := words_mono (Nat.mod_le (val xs) (val ys))
    rw [words_val VX.out.1, ← hR] at this
    exact Nat.le_trans this VX.out.2.1
  rw [← hQ, ← hR] at DV
  rw [← hQ] at hZ
  have hRz : R = 0 := hR.trans hR0
  have hrl : (words R).length ≤ 0 := by rw [hRz, words_zero]; exact Nat.le_refl _
  have HRZ := Lib.hid hRz
  have HQ := Lib.hid (show (words (sgn (!s') (val (words Q))).natAbs).length ≤ 4096 by rw [sgn_abs, val_words]; exact hQl)
  have HR := Lib.hid (show (words (sgn false (val (words R))).natAbs).length ≤ 4096 by rw [sgn_abs, val_words]; exact hRl)
  clear vx vy hQ hR hYp hR0 hRz
  go_enter Tryd.func37, Tryd.ntmps37
  go_wp2_with fail
  have E := (Env4.start w true s' A A' n c n' c').alloc (.cells #[.bool true, .slice A n c, .bool s', .slice A' n' c'] 24)
  refine (allValid_c (w.heap.size + 1 + 1 + 1 + 1) true s' A A' n c n' c' xs ys _ (h.below E.env.below) (h'.below E.env.below) (by simp) (by go_simp) (by go_simp) (by go_simp) (by go_simp)).mono ?_
  rintro e w1 ⟨rfl, hb⟩
  rw [HV.out]
  have E1 := Lib.hid (E.next hb)
  clear E hb
  have a0 := E1.out.env.a0
  have a1 := E1.out.env.a1
  have b1 := E1.out.env.b1
  go_wp2_with fail
  refine (DV.out w1 (h.below E1.out.env.below) (h'.below E1.out.env.below)).mono ?_
  rintro e w2 ⟨Aq, cq, Ar, cr, rfl, q1, q2, q3, r1, r2, r3, hb⟩
  have E2 := Lib.hid (E1.out.next hb)
  clear a0 a1 b1 hb
  have a0 := E2.out.env.a0
  have b0 := E2.out.env.b0
  go_wp2_with fail
  refine (number_c (!s') Aq _ cq (words Q) w2 q1 q2 q3).mono ?_
  rintro e w3 ⟨t, B, m, d, k, rfl, p1, p2⟩
  obtain ⟨hk, I1⟩ := p1.is_ HQ.out
  subst hk
  have E3 := Lib.hid (E2.out.next p2)
  have rr := r1.below p2
  clear a0 b0 p1 q1
  go_wp2_with fail
  refine (number_c false Ar _ cr (words R) _ (rr.alloc _) r2 r3).mono ?_
  rintro e w4 ⟨t', B', m', d', k, rfl, p3, p4⟩
  obtain ⟨hk, I2⟩ := p3.is_ HR.out
  subst hk
  have E4 := Lib.hid ((E3.out.alloc (.cells #[.bool t, .slice B m d] 24)).next p4)
  have hb34 : Below w3.heap.size w3 w4 := ((Below.refl _ _).alloc (Nat.le_refl _) (.cells #[.bool t, .slice B m d] 24)).trans (p4.mono (by simp))
  have v0 := (p4.cell (p := ⟨w3.heap.size, 0, none⟩) (by simp)).trans (show _ = some (.bool t) by go_simp)
  have v1 := (p4.cell (p := ⟨w3.heap.size, 1, none⟩) (by simp)).trans (show _ = some (.slice B m d) by go_simp)
  have hz34 : w3.heap.size < w4.heap.size := by have := p4.size; simp at this; omega
  have I1' := I1.below hb34
  clear p3 I1 rr r1
  go_wp2_with fail
  have hbn : Below w4.heap.size w4 (w4.alloc (.cells #[.bool t', .slice B' m' d'] 24)) := (Below.refl _ _).alloc (Nat.le_refl _) _
  have E5 := E4.out.next hbn
  have J1 := I1'.below hbn
  have J2 := I2.below hbn
  have x0 := (hbn.cell (p := ⟨w3.heap.size, 0, none⟩) hz34).trans v0
  have x1 := (hbn.cell (p := ⟨w3.heap.size, 1, none⟩) hz34).trans v1
  have y0 : (w4.alloc (.cells #[.bool t', .slice B' m' d'] 24)).cell? ⟨w4.heap.size, 0, none⟩ = some (.bool t') := by go_simp
  have y1 : (w4.alloc (.cells #[.bool t', .slice B' m' d'] 24)).cell? ⟨w4.heap.size, 1, none⟩ = some (.slice B' m' d') := by go_simp
  generalize w4.alloc (.cells #[.bool t', .slice B' m' d'] 24) = w5 at E5 J1 J2 x0 x1 y0 y1 ⊢
  have r0 := E5.env.r0
  have r1 := E5.env.r1
  have f0 := E5.env.f0
  have f1 := E5.env.f1
  have s0 := E5.r0
  have s1 := E5.r1
  have g0 := E5.f0
  have g1 := E5.f1
  have hz4 := E4.out.size
  have hz3 := E3.out.size
  clear hbn
  go_region
  go_wp2
  generalize hW : (((w5.setCell ⟨w.heap.size + 1 + 1, 0, none⟩ (.bool t)).setCell ⟨w.heap.size + 1 + 1, 1, none⟩ (.slice B m d)).setCell ⟨w.heap.size + 1 + 1 + 1, 0, none⟩ (.bool t')).setCell ⟨w.heap.size + 1 + 1 + 1, 1, none⟩ (.slice B' m' d') = w6
  obtain ⟨z0, z1, z2, z3, -, -⟩ := swap_cells (by omega) r0 r1 s0 s1 hW
  refine bodyPost_ret (v := .tuple #[.agg #[.bool t, .slice B m d], .agg #[.bool t', .slice B' m' d'], .int .i64 0]) (by simp [results, Tryd.results37, go_sem, z0, z1, z2, z3]) rfl ?_
  have hd := div_done E5 J1 J2 hW
  rw [val_words] at hd
  rw [val_words] at hd
  show DivPost w (-(val xs : Int) / sgn s' (val ys)) (-(val xs : Int) % sgn s' (val ys)) _ _
  rw [hZ.out.1, hZ.out.2]
  rw [HRZ.out] at hd
  exact hd

set_option maxHeartbeats 400000 in
set_option maxRecDepth 100000 in
theorem Div_neg1 (s' : Bool) (A A' : Option Addr) (n c n' c' : Nat) (xs ys : List Nat) (w : World) (h : Rd w A n xs) (h' : Rd w A' n' ys) (vx : validB true xs = true) (vy : validB s' ys = true) (h0 : 0 < n') (hR0 : 0 < val xs % val ys)
    (DV : Hid (∀ w', Rd w' A n xs → Rd w' A' n' ys → Calls Tryd.prog 80 #[.slice A n c, .slice A' n' c'] w' (Out2 w' (val xs / val ys) (val xs % val ys)))) :
    Calls Tryd.prog 37 #[.agg #[.bool true, .slice A n c], .agg #[.bool s', .slice A' n' c']] w (DivPost w (sgn true (val xs) / sgn s' (val ys)) (sgn true (val xs) % sgn s' (val ys))) := by
  have VX := Lib.hid (valid_canon h.sm vx)
  have VY := Lib.hid (valid_canon h'.sm vy)
  have HV := Lib.hid (show (validB true xs && validB s' ys) = true by rw [vx, vy]; rfl)
  have t0 : ((n' : Int) == 0) = false := by rw [beq_eq_false_iff_ne]; omega
  have hYp := canon_pos VY.out.1 (by rw [h'.len]; omega)
  have hZ := Lib.hid (div_neg1 s' (val xs) (val ys) hYp hR0)
  rw [show (true != s') = !s' by cases s' <;> rfl] at hZ
  have hq1 : val xs / val ys + 1 ≤ val xs := by
    have h1 := Nat.div_add_mod (val xs) (val ys)
    have h2 := Nat.mod_lt (val xs) hYp
    have h3 : 2 * (val xs / val ys) ≤ val ys * (val xs / val ys) := Nat.mul_le_mul_right _ (by omega)
    omega
  have hlr := Nat.mod_lt (val xs) hYp
  obtain ⟨Q, hQ⟩ : ∃ Q, Q = val xs / val ys := ⟨_, rfl⟩
  obtain ⟨R, hR⟩ : ∃ R, R = val xs % val ys := ⟨_, rfl⟩
  have hQl : (words (Q + 1)).length ≤ 4096 := by
    have := words_mono hq1
    rw [words_val VX.out.1, ← hQ] at this
    exact Nat.le_trans this VX.out.2.1
  have hRl : (words (val ys - R)).length ≤ 4096 := by
    have := words_mono (Nat.sub_le (val ys) R)
    rw [words_val VY.out.1] at this
    exact Nat.le_trans this VY.out.2.1
  have hRl2 : (words R).length ≤ n' := by
    have := words_mono (Nat.le_of_lt hlr)
    rw [words_val VY.out.1, h'.len, ← hR] at this
    exact this
  have hQl2 : (words Q).length ≤ 4096 := Nat.le_trans (words_mono (Nat.le_succ Q)) hQl
  have hn4 : n' ≤ 4096 := by have := VY.out.2.1; rw [h'.len] at this; exact this
  rw [← hQ, ← hR] at DV hZ
  rw [← hR] at hR0 hlr
  have hrl : 0 < (words R).length := words_len_lt.2 (by rw [pw_zero]; exact hR0)
  have HLR := Lib.hid (Nat.le_of_lt hlr)
  have HQ := Lib.hid (show (words (sgn (!s') (val (words (Q + 1)))).natAbs).length ≤ 4096 by rw [sgn_abs, val_words]; exact hQl)
  have HR := Lib.hid (show (words (sgn false (val (words (val ys - R)))).natAbs).length ≤ 4096 by rw [sgn_abs, val_words]; exact hRl)
  clear vx vy hQ hR hYp hR0 hq1 hlr
  go_enter Tryd.func37, Tryd.ntmps37
  go_wp2_with fail
  have E := (Env4.start w true s' A A' n c n' c').alloc (.cells #[.bool true, .slice A n c, .bool s', .slice A' n' c'] 24)
  refine (allValid_c (w.heap.size + 1 + 1 + 1 + 1) true s' A A' n c n' c' xs ys _ (h.below E.env.below) (h'.below E.env.below) (by simp) (by go_simp) (by go_simp) (by go_simp) (by go_simp)).mono ?_
  rintro e w1 ⟨rfl, hb⟩
  rw [HV.out]
  have E1 := Lib.hid (E.next hb)
  clear E hb
  have a0 := E1.out.env.a0
  have a1 := E1.out.env.a1
  have b1 := E1.out.env.b1
  go_wp2_with fail
  refine (DV.out w1 (h.below E1.out.env.below) (h'.below E1.out.env.below)).mono ?_
  rintro e w2 ⟨Aq, cq, Ar, cr, rfl, q1, q2, q3, r1, r2, r3, hb⟩
  have E2 := Lib.hid (E1.out.next hb)
  clear a0 a1 b1 hb
  have a0 := E2.out.env.a0
  go_wp2_with fail
  rw [show Obj.cells #[.int .u32 1] 86 = row [1] from rfl]
  have e1 := Bk.new w2 (small_one (show 1 < 4294967296 by omega))
  refine (add_c Aq _ _ cq 1 1 (words Q) [1] _ (q1.alloc _) e1.rd (by omega) (by omega)).mono ?_
  rw [val_words, val_one]
  rintro e w2a ⟨Aq2, cq2, rfl, u1, u2, u3, u4, -⟩
  have hb2a : Below w2.heap.size w2 w2a := ((Below.refl _ _).alloc (Nat.le_refl _) _).trans (u4.mono (by simp))
  have E2a := Lib.hid (E2.out.next hb2a)
  have r1a := r1.below hb2a
  clear a0 q1 r1
  have b1 := E2a.out.env.b1
  go_wp2_with fail
  refine (subtract_c A' Ar n' c' _ cr ys (words R) w2a (h'.below E2a.out.env.below) r1a (by omega) hRl2 (by rw [val_words]; exact HLR.out)).mono ?_
  rw [val_words]
  rintro e w2b ⟨Ar2, cr2, rfl, vv1, vv2, vv3, vv4, -⟩
  have E2b := Lib.hid (E2a.out.next vv4)
  have u1b := u1.below vv4
  clear b1 u1 r1a
  have a0 := E2b.out.env.a0
  have b0 := E2b.out.env.b0
  go_wp2_with fail
  refine (number_c (!s') Aq2 _ cq2 (words (Q + 1)) w2b u1b u2 u3).mono ?_
  rintro e w3 ⟨t, B, m, d, k, rfl, p1, p2⟩
  obtain ⟨hk, I1⟩ := p1.is_ HQ.out
  subst hk
  have E3 := Lib.hid (E2b.out.next p2)
  have rr := vv1.below p2
  clear a0 b0 p1 u1b
  go_wp2_with fail
  refine (number_c false Ar2 _ cr2 (words (val ys - R)) _ (rr.alloc _) vv2 vv3).mono ?_
  rintro e w4 ⟨t', B', m', d', k, rfl, p3, p4⟩
  obtain ⟨hk, I2⟩ := p3.is_ HR.out
  subst hk
  have E4 := Lib.hid ((E3.out.alloc (.cells #[.bool t, .slice B m d] 24)).next p4)
  have hb34 : Below w3.heap.size w3 w4 := ((Below.refl _ _).alloc (Nat.le_refl _) (.cells #[.bool t, .slice B m d] 24)).trans (p4.mono (by simp))
  have v0 := (p4.cell (p := ⟨w3.heap.size, 0, none⟩) (by simp)).trans (show _ = some (.bool t) by go_simp)
  have v1 := (p4.cell (p := ⟨w3.heap.size, 1, none⟩) (by simp)).trans (show _ = some (.slice B m d) by go_simp)
  have hz34 : w3.heap.size < w4.heap.size := by have := p4.size; simp at this; omega
  have I1' := I1.below hb34
  clear p3 I1 rr vv1
  go_wp2_with fail
  have hbn : Below w4.heap.size w4 (w4.alloc (.cells #[.bool t', .slice B' m' d'] 24)) := (Below.refl _ _).alloc (Nat.le_refl _) _
  have E5 := E4.out.next hbn
  have J1 := I1'.below hbn
  have J2 := I2.below hbn
  have x0 := (hbn.cell (p := ⟨w3.heap.size, 0, none⟩) hz34).trans v0
  have x1 := (hbn.cell (p := ⟨w3.heap.size, 1, none⟩) hz34).trans v1
  have y0 : (w4.alloc (.cells #[.bool t', .slice B' m' d'] 24)).cell? ⟨w4.heap.size, 0, none⟩ = some (.bool t') := by go_simp
  have y1 : (w4.alloc (.cells #[.bool t', .slice B' m' d'] 24)).cell? ⟨w4.heap.size, 1, none⟩ = some (.slice B' m' d') := by go_simp
  generalize w4.alloc (.cells #[.bool t', .slice B' m' d'] 24) = w5 at E5 J1 J2 x0 x1 y0 y1 ⊢
  have r0 := E5.env.r0
  have r1 := E5.env.r1
  have f0 := E5.env.f0
  have f1 := E5.env.f1
  have s0 := E5.r0
  have s1 := E5.r1
  have g0 := E5.f0
  have g1 := E5.f1
  have hz4 := E4.out.size
  have hz3 := E3.out.size
  clear hbn
  go_region
  go_wp2
  generalize hW : (((w5.setCell ⟨w.heap.size + 1 + 1, 0, none⟩ (.bool t)).setCell ⟨w.heap.size + 1 + 1, 1, none⟩ (.slice B m d)).setCell ⟨w.heap.size + 1 + 1 + 1, 0, none⟩ (.bool t')).setCell ⟨w.heap.size + 1 + 1 + 1, 1, none⟩ (.slice B' m' d') = w6
  obtain ⟨z0, z1, z2, z3, -, -⟩ := swap_cells (by omega) r0 r1 s0 s1 hW
  refine bodyPost_ret (v := .tuple #[.agg #[.bool t, .slice B m d], .agg #[.bool t', .slice B' m' d'], .int .i64 0]) (by simp [results, Tryd.results37, go_sem, z0, z1, z2, z3]) rfl ?_
  have hd := div_done E5 J1 J2 hW
  rw [val_words] at hd
  rw [val_words] at hd
  show DivPost w (-(val xs : Int) / sgn s' (val ys)) (-(val xs : Int) % sgn s' (val ys)) _ _
  rw [hZ.out.1, hZ.out.2]
  exact hd

/-- Div is right where divide is -/
theorem Div_ok (s s' : Bool) (A A' : Option Addr) (n c n' c' : Nat) (xs ys : List Nat) (w : World) (h : Rd w A n xs) (h' : Rd w A' n' ys) (vx : validB s xs = true) (vy : validB s' ys = true) (h0 : 0 < n')
    (DV : ∀ w', Rd w' A n xs → Rd w' A' n' ys → Calls Tryd.prog 80 #[.slice A n c, .slice A' n' c'] w' (Out2 w' (val xs / val ys) (val xs % val ys))) :
    Calls Tryd.prog 37 #[.agg #[.bool s, .slice A n c], .agg #[.bool s', .slice A' n' c']] w (DivPost w (sgn s (val xs) / sgn s' (val ys)) (sgn s (val xs) % sgn s' (val ys))) := by
  cases s
  · exact Div_pos s' A A' n c n' c' xs ys w h h' vx vy h0 (Lib.hid DV)
  · rcases Nat.eq_zero_or_pos (val xs % val ys) with h1 | h1
    · exact Div_neg0 s' A A' n c n' c' xs ys w h h' vx vy h0 h1 (Lib.hid DV)
    · exact Div_neg1 s' A A' n c n' c' xs ys w h h' vx vy h0 h1 (Lib.hid DV)
end Go.Proofs.YthjdnidapbhdlaaDoor

import Derived.Test.YteabokkofoomkaaGreatCac
import Derived.Deep.RegionHeld3
namespace Go.Proofs.YteabokkofoomkaaGreat
open Go.RowKit
theorem valid_canon {s : Bool} {xs : List Nat} (hs : small xs) (h : validB s xs = true) : canon xs ∧ xs.length ≤ 4096 ∧ (val xs = 0 → s = false) := by
 unfold validB at h
 split at h
 · rename_i h0
   have : xs = [] := List.eq_nil_of_length_eq_zero h0
   subst this
   exact ⟨⟨hs, by simp⟩, by simp, fun _ => by simpa using h⟩
 · rename_i h0
   simp only [Bool.and_eq_true, decide_eq_true_eq] at h
   have hc : canon xs := by
    refine ⟨hs, fun hl => h.2 ?_⟩
    rw [List.getLast?_eq_getElem?] at hl
    rw [List.getD_eq_getElem?_getD, hl]; rfl
   refine ⟨hc, h.1, fun hv => ?_⟩
   have := words_val hc
   rw [hv, words_zero] at this
   rw [← this] at h0
   exact absurd rfl h0
theorem swap_cells {w : World} {g g' : Nat} (hne : g ≠ g') {x0 x1 y0 y1 a b c d : Value} (h0 : w.cell? ⟨g, 0, none⟩ = some x0) (h1 : w.cell? ⟨g, 1, none⟩ = some x1) (k0 : w.cell? ⟨g', 0, none⟩ = some y0) (k1 : w.cell? ⟨g', 1, none⟩ = some y1) {W : World}
 (hW : (((w.setCell ⟨g, 0, none⟩ a).setCell ⟨g, 1, none⟩ b).setCell ⟨g', 0, none⟩ c).setCell ⟨g', 1, none⟩ d = W) :
 W.cell? ⟨g, 0, none⟩ = some a ∧ W.cell? ⟨g, 1, none⟩ = some b ∧ W.cell? ⟨g', 0, none⟩ = some c ∧ W.cell? ⟨g', 1, none⟩ = some d ∧ (∀ i o, i ≠ g → i ≠ g' → W.cell? ⟨i, o, none⟩ = w.cell? ⟨i, o, none⟩ ∧ W.frozen? ⟨i, o, none⟩ = w.frozen? ⟨i, o, none⟩) ∧ W.heap.size = w.heap.size := by
 have A1 : ∀ i o, i ≠ g → (((w.setCell ⟨g, 0, none⟩ a).setCell ⟨g, 1, none⟩ b)).cell? ⟨i, o, none⟩ = w.cell? ⟨i, o, none⟩ := fun i o hi => by
  rw [World.cell?_setCell_other _ _ _ _ (fun e => hi (by injection e with e1; exact e1.symm)), World.cell?_setCell_other _ _ _ _ (fun e => hi (by injection e with e1; exact e1.symm))]
 have A2 : ∀ (v : World) i o, i ≠ g' → (((v.setCell ⟨g', 0, none⟩ c).setCell ⟨g', 1, none⟩ d)).cell? ⟨i, o, none⟩ = v.cell? ⟨i, o, none⟩ := fun v i o hi => by
  rw [World.cell?_setCell_other _ _ _ _ (fun e => hi (by injection e with e1; exact e1.symm)), World.cell?_setCell_other _ _ _ _ (fun e => hi (by injection e with e1; exact e1.symm))]
 have B : ∀ (v : World) i o x0 x1 p q, v.cell? ⟨i, 0, none⟩ = some x0 → v.cell? ⟨i, 1, none⟩ = some x1 → o = o → ((v.setCell ⟨i, 0, none⟩ p).setCell ⟨i, 1, none⟩ q).cell? ⟨i, 0, none⟩ = some p ∧ ((v.setCell ⟨i, 0, none⟩ p).setCell ⟨i, 1, none⟩ q).cell? ⟨i, 1, none⟩ = some q := fun v i (o : Nat) x0 x1 p q e0 e1 _ => by
  have f1 : (v.setCell ⟨i, 0, none⟩ p).cell? ⟨i, 1, none⟩ = some x1 := by rw [World.cell?_setCell_other _ _ _ _ (by simp)]; exact e1
  exact ⟨by rw [World.cell?_setCell_other _ _ _ _ (by simp)]; exact World.cell?_setCell_same _ _ _ e0, World.cell?_setCell_same _ _ _ f1⟩
 subst hW
 have b1 := B w g 0 _ _ a b h0 h1 rfl
 have b2 := B _ g' 0 _ _ c d ((A1 g' 0 (Ne.symm hne)).trans k0) ((A1 g' 1 (Ne.symm hne)).trans k1) rfl
 refine ⟨(A2 _ _ _ hne).trans b1.1, (A2 _ _ _ hne).trans b1.2, b2.1, b2.2, fun i o h1 h2 => ⟨(A2 _ _ _ h2).trans (A1 _ _ h1), ?_⟩, by simp [World.setCell]⟩
 simp [World.frozen?, World.setCell, Array.getElem?_modify, Ne.symm h1, Ne.symm h2]
set_option maxHeartbeats 400000 in
theorem sum_same (s : Bool) (A A' : Option Addr) (n c n' c' : Nat) (xs ys : List Nat) (w : World) (h : Rd w A n xs) (h' : Rd w A' n' ys) (hn : n < 35184372088832) (hn' : n' < 35184372088832) :
 Calls Tryz.prog 129 #[.agg #[.bool s, .slice A n c], .agg #[.bool s, .slice A' n' c']] w (Num w (sgn s (val xs + val ys))) := by
 go_enter Tryz.func129, Tryz.ntmps129
 go_wp2_with fail
 have hx := ((h.alloc (.cells #[.bool s, .slice A n c] 58)).alloc (.cells #[.bool s, .slice A' n' c'] 58)).alloc (.cells #[.bool false, .slice none 0 0] 58)
 have hy := ((h'.alloc (.cells #[.bool s, .slice A n c] 58)).alloc (.cells #[.bool s, .slice A' n' c'] 58)).alloc (.cells #[.bool false, .slice none 0 0] 58)
 generalize hW : ((w.alloc (.cells #[.bool s, .slice A n c] 58)).alloc (.cells #[.bool s, .slice A' n' c'] 58)).alloc (.cells #[.bool false, .slice none 0 0] 58) = W at hx hy ⊢
 have c0 : W.cell? ⟨w.heap.size, 0, none⟩ = some (.bool s) := by subst hW; go_simp
 have c1 : W.cell? ⟨w.heap.size, 1, none⟩ = some (.slice A n c) := by subst hW; go_simp
 have c2 : W.cell? ⟨w.heap.size + 1, 1, none⟩ = some (.slice A' n' c') := by subst hW; go_simp
 have c3 : W.cell? ⟨w.heap.size + 1 + 1, 0, none⟩ = some (.bool false) := by subst hW; go_simp
 have c4 : W.cell? ⟨w.heap.size + 1 + 1, 1, none⟩ = some (.slice none 0 0) := by subst hW; go_simp
 have f3 : W.frozen? ⟨w.heap.size + 1 + 1, 0, none⟩ = false := by subst hW; go_simp
 have f4 : W.frozen? ⟨w.heap.size + 1 + 1, 1, none⟩ = false := by subst hW; go_simp
 have hbW : Below w.heap.size w W := by subst hW; exact (((Below.refl _ _).alloc (Nat.le_refl _) _).alloc (by simp) _).alloc (by simp; omega) _
 have hsz : W.heap.size = w.heap.size + 3 := by subst hW; simp
 have HW := Lib.hid hW
 have HS := Lib.hid hsz
 clear hW hsz h h'
 have AD := Lib.hid (fun w' hx hy => add_c A A' n c n' c' xs ys w' hx hy (by omega) (by omega))
 go_region_held3 (fun w' => w'.cell? ⟨w.heap.size, 0, none⟩ = some (.bool s) ∧ w'.cell? ⟨w.heap.size, 1, none⟩ = some (.slice A n c) ∧ w'.cell? ⟨w.heap.size + 1, 1, none⟩ = some (.slice A' n' c')) (first | (go_keep; done) | (refine ⟨cell_two (by omega) l0, cell_two (by omega) l1, cell_two (by omega) l2⟩))
  (first
   | (go_at_call 143
      refine (AD.out _ hx.drew hy.drew).mono ?_
      rintro e w1 ⟨B, d, rfl, r1, r2, r3, r4, r5⟩
      have k0 := (r4.cell (p := ⟨w.heap.size, 0, none⟩) (by have := HS.out; simp; omega)).trans c0
      have k1 := (r4.cell (p := ⟨w.heap.size, 1, none⟩) (by have := HS.out; simp; omega)).trans c1
      have k2 := (r4.cell (p := ⟨w.heap.size + 1, 1, none⟩) (by have := HS.out; simp; omega)).trans c2)
   | (go_at_call 130
      refine (number_c s B _ d _ w1 r1 r2 r3).mono ?_
      rintro e w2 ⟨t, B2, m2, d2, k, rfl, q1, q2⟩
      have l0 := (q2.cell (p := ⟨w.heap.size, 0, none⟩) (by have := HS.out; have := r4.size; simp at this ⊢; omega)).trans k0
      have l1 := (q2.cell (p := ⟨w.heap.size, 1, none⟩) (by have := HS.out; have := r4.size; simp at this ⊢; omega)).trans k1
      have l2 := (q2.cell (p := ⟨w.heap.size + 1, 1, none⟩) (by have := HS.out; have := r4.size; simp at this ⊢; omega)).trans k2
      have l3 := (q2.cell (p := ⟨w.heap.size + 1 + 1, 0, none⟩) (by have := HS.out; have := r4.size; simp at this ⊢; omega)).trans ((r4.cell (p := ⟨w.heap.size + 1 + 1, 0, none⟩) (by have := HS.out; simp; omega)).trans c3)
      have l4 := (q2.cell (p := ⟨w.heap.size + 1 + 1, 1, none⟩) (by have := HS.out; have := r4.size; simp at this ⊢; omega)).trans ((r4.cell (p := ⟨w.heap.size + 1 + 1, 1, none⟩) (by have := HS.out; simp; omega)).trans c4)
      have g3 := (q2.frozen (p := ⟨w.heap.size + 1 + 1, 0, none⟩) (by have := HS.out; have := r4.size; simp at this ⊢; omega)).trans ((r4.frozen (p := ⟨w.heap.size + 1 + 1, 0, none⟩) (by have := HS.out; simp; omega)).trans f3)
      have g4 := (q2.frozen (p := ⟨w.heap.size + 1 + 1, 1, none⟩) (by have := HS.out; have := r4.size; simp at this ⊢; omega)).trans ((r4.frozen (p := ⟨w.heap.size + 1 + 1, 1, none⟩) (by have := HS.out; simp; omega)).trans f4)))
 go_wp2
 rw [val_words] at q1
 have hz1 := r4.size
 have hz2 := q2.size
 have hz3 := HS.out
 rw [World.size_drew] at hz1
 have hB := ((hbW.drew).trans (r4.mono (by simp; omega))).trans (q2.mono (by omega))
 refine bodyPost_ret (v := .tuple #[.agg #[.bool t, .slice B2 m2 d2], .int .i64 k]) (by simp [results, Tryz.results129, go_sem, l3, l4]) rfl ?_
 exact ⟨t, B2, m2, d2, k, rfl, q1.store l3 l4 _ _, below_store hB (by omega) _ _⟩
set_option maxHeartbeats 400000 in
theorem sum_ge (s s' : Bool) (hss : s ≠ s') (A A' : Option Addr) (n c n' c' : Nat) (xs ys : List Nat) (w : World) (h : Rd w A n xs) (h' : Rd w A' n' ys) (hn : n < 35184372088832) (hn' : n' < 35184372088832) (cx : canon xs) (cy : canon ys) (hle : val ys ≤ val xs) :
 Calls Tryz.prog 129 #[.agg #[.bool s, .slice A n c], .agg #[.bool s', .slice A' n' c']] w (Num w (sgn s (val xs - val ys))) := by
 have hnn : n' ≤ n := by
  rcases Nat.lt_or_ge n n' with h1 | h1
  · have := cmp_len cx.1 cy (by rw [h.len, h'.len]; exact h1); omega
  · exact h1
 have HLE := Lib.hid hle
 clear hle
 have tss : (s == s') = false := by simpa using hss
 have CMP := Lib.hid (fun w' hx hy => compare_c A A' n c n' c' xs ys w' hx hy cx cy (by omega) (by omega))
 clear hss
 go_enter Tryz.func129, Tryz.ntmps129
 go_wp2_with fail
 refine (CMP.out _ (((h.alloc _).alloc _).alloc _) (((h'.alloc _).alloc _).alloc _)).mono ?_
 rintro e w1 ⟨rfl, q, rfl⟩
 have ho : 0 ≤ ord (val xs) (val ys) := by
  have := HLE.out
  rcases Nat.lt_or_ge (val ys) (val xs) with h1 | h1
  · rw [ord_gt (by omega)]; omega
  · rw [ord_eq (by omega)]; exact Int.le_refl _
 obtain ⟨od, hod⟩ : ∃ od, od = ord (val xs) (val ys) := ⟨_, rfl⟩
 rw [← hod] at ho ⊢
 clear hod
 go_wp2_with fail
 have hx := (((h.alloc (.cells #[.bool s, .slice A n c] 58)).alloc (.cells #[.bool s', .slice A' n' c'] 58)).alloc (.cells #[.bool false, .slice none 0 0] 58)).drewN q
 have hy := (((h'.alloc (.cells #[.bool s, .slice A n c] 58)).alloc (.cells #[.bool s', .slice A' n' c'] 58)).alloc (.cells #[.bool false, .slice none 0 0] 58)).drewN q
 generalize hW : (((w.alloc (.cells #[.bool s, .slice A n c] 58)).alloc (.cells #[.bool s', .slice A' n' c'] 58)).alloc (.cells #[.bool false, .slice none 0 0] 58)).drewN q = W at hx hy ⊢
 have c0 : W.cell? ⟨w.heap.size, 0, none⟩ = some (.bool s) := by subst hW; go_simp
 have c1 : W.cell? ⟨w.heap.size, 1, none⟩ = some (.slice A n c) := by subst hW; go_simp
 have c2 : W.cell? ⟨w.heap.size + 1, 1, none⟩ = some (.slice A' n' c') := by subst hW; go_simp
 have c3 : W.cell? ⟨w.heap.size + 1 + 1, 0, none⟩ = some (.bool false) := by subst hW; go_simp
 have c4 : W.cell? ⟨w.heap.size + 1 + 1, 1, none⟩ = some (.slice none 0 0) := by subst hW; go_simp
 have f3 : W.frozen? ⟨w.heap.size + 1 + 1, 0, none⟩ = false := by subst hW; go_simp
 have f4 : W.frozen? ⟨w.heap.size + 1 + 1, 1, none⟩ = false := by subst hW; go_simp
 have hbW : Below w.heap.size w W := by subst hW; exact below_drewN ((((Below.refl _ _).alloc (Nat.le_refl _) _).alloc (by simp) _).alloc (by simp; omega) _) q
 have hsz : W.heap.size = w.heap.size + 3 := by subst hW; simp
 have HW := Lib.hid hW
 have HS := Lib.hid hsz
 clear hW hsz h h'
 have AD := Lib.hid (fun w' hx hy => subtract_c A A' n c n' c' xs ys w' hx hy (by omega) hnn HLE.out)
 go_region_held3 (fun w' => w'.cell? ⟨w.heap.size, 0, none⟩ = some (.bool s) ∧ w'.cell? ⟨w.heap.size, 1, none⟩ = some (.slice A n c) ∧ w'.cell? ⟨w.heap.size + 1, 1, none⟩ = some (.slice A' n' c')) (first | (go_keep; done) | (refine ⟨cell_two (by omega) l0, cell_two (by omega) l1, cell_two (by omega) l2⟩))
  (first
   | (go_at_call 145
      refine (AD.out _ hx.drew hy.drew).mono ?_
      rintro e w1 ⟨B, d, rfl, r1, r2, r3, r4, r5⟩
      have k0 := (r4.cell (p := ⟨w.heap.size, 0, none⟩) (by have := HS.out; simp; omega)).trans c0
      have k1 := (r4.cell (p := ⟨w.heap.size, 1, none⟩) (by have := HS.out; simp; omega)).trans c1
      have k2 := (r4.cell (p := ⟨w.heap.size + 1, 1, none⟩) (by have := HS.out; simp; omega)).trans c2)
   | (go_at_call 130
      refine (number_c s B _ d _ w1 r1 r2 r3).mono ?_
      rintro e w2 ⟨t, B2, m2, d2, k, rfl, q1, q2⟩
      have l0 := (q2.cell (p := ⟨w.heap.size, 0, none⟩) (by have := HS.out; have := r4.size; simp at this ⊢; omega)).trans k0
      have l1 := (q2.cell (p := ⟨w.heap.size, 1, none⟩) (by have := HS.out; have := r4.size; simp at this ⊢; omega)).trans k1
      have l2 := (q2.cell (p := ⟨w.heap.size + 1, 1, none⟩) (by have := HS.out; have := r4.size; simp at this ⊢; omega)).trans k2
      have l3 := (q2.cell (p := ⟨w.heap.size + 1 + 1, 0, none⟩) (by have := HS.out; have := r4.size; simp at this ⊢; omega)).trans ((r4.cell (p := ⟨w.heap.size + 1 + 1, 0, none⟩) (by have := HS.out; simp; omega)).trans c3)
      have l4 := (q2.cell (p := ⟨w.heap.size + 1 + 1, 1, none⟩) (by have := HS.out; have := r4.size; simp at this ⊢; omega)).trans ((r4.cell (p := ⟨w.heap.size + 1 + 1, 1, none⟩) (by have := HS.out; simp; omega)).trans c4)
      have g3 := (q2.frozen (p := ⟨w.heap.size + 1 + 1, 0, none⟩) (by have := HS.out; have := r4.size; simp at this ⊢; omega)).trans ((r4.frozen (p := ⟨w.heap.size + 1 + 1, 0, none⟩) (by have := HS.out; simp; omega)).trans f3)
      have g4 := (q2.frozen (p := ⟨w.heap.size + 1 + 1, 1, none⟩) (by have := HS.out; have := r4.size; simp at this ⊢; omega)).trans ((r4.frozen (p := ⟨w.heap.size + 1 + 1, 1, none⟩) (by have := HS.out; simp; omega)).trans f4)))
 go_wp2
 rw [val_words] at q1
 have hz1 := r4.size
 have hz2 := q2.size
 have hz3 := HS.out
 rw [World.size_drew] at hz1
 have hB := ((hbW.drew).trans (r4.mono (by simp; omega))).trans (q2.mono (by omega))
 refine bodyPost_ret (v := .tuple #[.agg #[.bool t, .slice B2 m2 d2], .int .i64 k]) (by simp [results, Tryz.results129, go_sem, l3, l4]) rfl ?_
 exact ⟨t, B2, m2, d2, k, rfl, q1.store l3 l4 _ _, below_store hB (by omega) _ _⟩
set_option maxHeartbeats 400000 in
theorem sum_lt (s s' : Bool) (hss : s ≠ s') (A A' : Option Addr) (n c n' c' : Nat) (xs ys : List Nat) (w : World) (h : Rd w A n xs) (h' : Rd w A' n' ys) (hn : n < 35184372088832) (hn' : n' < 35184372088832) (cx : canon xs) (cy : canon ys) (hle : val xs < val ys) :
 Calls Tryz.prog 129 #[.agg #[.bool s, .slice A n c], .agg #[.bool s', .slice A' n' c']] w (Num w (sgn s' (val ys - val xs))) := by
 have hnn : n ≤ n' := by
  rcases Nat.lt_or_ge n' n with h1 | h1
  · have := cmp_len cy.1 cx (by rw [h.len, h'.len]; exact h1); omega
  · exact h1
 have HLE := Lib.hid hle
 clear hle
 have tss : (s == s') = false := by simpa using hss
 have CMP := Lib.hid (fun w' hx hy => compare_c A A' n c n' c' xs ys w' hx hy cx cy (by omega) (by omega))
 clear hss
 go_enter Tryz.func129, Tryz.ntmps129
 go_wp2_with fail
 refine (CMP.out _ (((h.alloc _).alloc _).alloc _) (((h'.alloc _).alloc _).alloc _)).mono ?_
 rintro e w1 ⟨rfl, q, rfl⟩
 have ho : ord (val xs) (val ys) < 0 := by
  have := HLE.out
  rw [ord_lt (by omega)]; omega
 obtain ⟨od, hod⟩ : ∃ od, od = ord (val xs) (val ys) := ⟨_, rfl⟩
 rw [← hod] at ho ⊢
 clear hod
 generalize hV : (((w.alloc (.cells #[.bool s, .slice A n c] 58)).alloc (.cells #[.bool s', .slice A' n' c'] 58)).alloc (.cells #[.bool false, .slice none 0 0] 58)).drewN q = V
 have v0 : V.cell? ⟨w.heap.size, 0, none⟩ = some (.bool s) := by subst hV; go_simp
 have v1 : V.cell? ⟨w.heap.size, 1, none⟩ = some (.slice A n c) := by subst hV; go_simp
 have v2 : V.cell? ⟨w.heap.size + 1, 0, none⟩ = some (.bool s') := by subst hV; go_simp
 have v3 : V.cell? ⟨w.heap.size + 1, 1, none⟩ = some (.slice A' n' c') := by subst hV; go_simp
 have v4 : V.cell? ⟨w.heap.size + 1 + 1, 0, none⟩ = some (.bool false) := by subst hV; go_simp
 have v5 : V.cell? ⟨w.heap.size + 1 + 1, 1, none⟩ = some (.slice none 0 0) := by subst hV; go_simp
 have z0 : V.frozen? ⟨w.heap.size, 0, none⟩ = false := by subst hV; go_simp
 have z1 : V.frozen? ⟨w.heap.size, 1, none⟩ = false := by subst hV; go_simp
 have z2 : V.frozen? ⟨w.heap.size + 1, 0, none⟩ = false := by subst hV; go_simp
 have z3 : V.frozen? ⟨w.heap.size + 1, 1, none⟩ = false := by subst hV; go_simp
 have z4 : V.frozen? ⟨w.heap.size + 1 + 1, 0, none⟩ = false := by subst hV; go_simp
 have z5 : V.frozen? ⟨w.heap.size + 1 + 1, 1, none⟩ = false := by subst hV; go_simp
 have hbV : Below w.heap.size w V := by subst hV; exact below_drewN ((((Below.refl _ _).alloc (Nat.le_refl _) _).alloc (by simp) _).alloc (by simp; omega) _) q
 have hszV : V.heap.size = w.heap.size + 3 := by subst hV; simp
 clear hV
 go_wp2_with fail
 generalize hW : (((V.setCell ⟨w.heap.size, 0, none⟩ (.bool s')).setCell ⟨w.heap.size, 1, none⟩ (.slice A' n' c')).setCell ⟨w.heap.size + 1, 0, none⟩ (.bool s)).setCell ⟨w.heap.size + 1, 1, none⟩ (.slice A n c) = W
 obtain ⟨c0, c1, _, c2, hoth, hsz⟩ := swap_cells (by omega) v0 v1 v2 v3 hW
 have c3 := (hoth (w.heap.size + 1 + 1) 0 (by omega) (by omega)).1.trans v4
 have c4 := (hoth (w.heap.size + 1 + 1) 1 (by omega) (by omega)).1.trans v5
 have f3 := (hoth (w.heap.size + 1 + 1) 0 (by omega) (by omega)).2.trans z4
 have f4 := (hoth (w.heap.size + 1 + 1) 1 (by omega) (by omega)).2.trans z5
 have hbW : Below w.heap.size w W := by
  subst hW
  exact (((hbV.setCell (p := ⟨w.heap.size, 0, none⟩) (Nat.le_refl _) _).setCell (p := ⟨w.heap.size, 1, none⟩) (Nat.le_refl _) _).setCell (p := ⟨w.heap.size + 1, 0, none⟩) (Nat.le_succ _) _).setCell (p := ⟨w.heap.size + 1, 1, none⟩) (Nat.le_succ _) _
 have hx := h'.below hbW
 have hy := h.below hbW
 have HS := Lib.hid (hsz.trans hszV)
 clear hW hsz hszV hoth h h' v0 v1 v2 v3 v4 v5 z0 z1 z2 z3 z4 z5 hbV
 have AD := Lib.hid (fun w' hx hy => subtract_c A' A n' c' n c ys xs w' hx hy (by omega) hnn (Nat.le_of_lt HLE.out))
 go_region_held3 (fun w' => w'.cell? ⟨w.heap.size, 0, none⟩ = some (.bool s') ∧ w'.cell? ⟨w.heap.size, 1, none⟩ = some (.slice A' n' c') ∧ w'.cell? ⟨w.heap.size + 1, 1, none⟩ = some (.slice A n c)) (first | (go_keep; done) | (refine ⟨cell_two (by omega) l0, cell_two (by omega) l1, cell_two (by omega) l2⟩))
  (first
   | (go_at_call 145
      refine (AD.out _ hx.drew hy.drew).mono ?_
      rintro e w1 ⟨B, d, rfl, r1, r2, r3, r4, r5⟩
      have k0 := (r4.cell (p := ⟨w.heap.size, 0, none⟩) (by have := HS.out; simp; omega)).trans c0
      have k1 := (r4.cell (p := ⟨w.heap.size, 1, none⟩) (by have := HS.out; simp; omega)).trans c1
      have k2 := (r4.cell (p := ⟨w.heap.size + 1, 1, none⟩) (by have := HS.out; simp; omega)).trans c2)
   | (go_at_call 130
      refine (number_c s' B _ d _ w1 r1 r2 r3).mono ?_
      rintro e w2 ⟨t, B2, m2, d2, k, rfl, q1, q2⟩
      have l0 := (q2.cell (p := ⟨w.heap.size, 0, none⟩) (by have := HS.out; have := r4.size; simp at this ⊢; omega)).trans k0
      have l1 := (q2.cell (p := ⟨w.heap.size, 1, none⟩) (by have := HS.out; have := r4.size; simp at this ⊢; omega)).trans k1
      have l2 := (q2.cell (p := ⟨w.heap.size + 1, 1, none⟩) (by have := HS.out; have := r4.size; simp at this ⊢; omega)).trans k2
      have l3 := (q2.cell (p := ⟨w.heap.size + 1 + 1, 0, none⟩) (by have := HS.out; have := r4.size; simp at this ⊢; omega)).trans ((r4.cell (p := ⟨w.heap.size + 1 + 1, 0, none⟩) (by have := HS.out; simp; omega)).trans c3)
      have l4 := (q2.cell (p := ⟨w.heap.size + 1 + 1, 1, none⟩) (by have := HS.out; have := r4.size; simp at this ⊢; omega)).trans ((r4.cell (p := ⟨w.heap.size + 1 + 1, 1, none⟩) (by have := HS.out; simp; omega)).trans c4)
      have g3 := (q2.frozen (p := ⟨w.heap.size + 1 + 1, 0, none⟩) (by have := HS.out; have := r4.size; simp at this ⊢; omega)).trans ((r4.frozen (p := ⟨w.heap.size + 1 + 1, 0, none⟩) (by have := HS.out; simp; omega)).trans f3)
      have g4 := (q2.frozen (p := ⟨w.heap.size + 1 + 1, 1, none⟩) (by have := HS.out; have := r4.size; simp at this ⊢; omega)).trans ((r4.frozen (p := ⟨w.heap.size + 1 + 1, 1, none⟩) (by have := HS.out; simp; omega)).trans f4)))
 go_wp2
 rw [val_words] at q1
 have hz1 := r4.size
 have hz2 := q2.size
 have hz3 := HS.out
 rw [World.size_drew] at hz1
 have hB := ((hbW.drew).trans (r4.mono (by simp; omega))).trans (q2.mono (by omega))
 refine bodyPost_ret (v := .tuple #[.agg #[.bool t, .slice B2 m2 d2], .int .i64 k]) (by simp [results, Tryz.results129, go_sem, l3, l4]) rfl ?_
 exact ⟨t, B2, m2, d2, k, rfl, q1.store l3 l4 _ _, below_store hB (by omega) _ _⟩
theorem sum_c (s s' : Bool) (A A' : Option Addr) (n c n' c' : Nat) (xs ys : List Nat) (w : World) (h : Rd w A n xs) (h' : Rd w A' n' ys) (hn : n < 35184372088832) (hn' : n' < 35184372088832) (cx : canon xs) (cy : canon ys) :
 Calls Tryz.prog 129 #[.agg #[.bool s, .slice A n c], .agg #[.bool s', .slice A' n' c']] w (Num w (sgn s (val xs) + sgn s' (val ys))) := by
 by_cases hs : s = s'
 · subst hs
   have e : sgn s (val xs) + sgn s (val ys) = sgn s (val xs + val ys) := by cases s <;> simp [sgn] <;> omega
   rw [e]
   exact sum_same s A A' n c n' c' xs ys w h h' hn hn'
 · rcases Nat.lt_or_ge (val xs) (val ys) with hv | hv
   · have e : sgn s (val xs) + sgn s' (val ys) = sgn s' (val ys - val xs) := by
      cases s <;> cases s' <;> simp [sgn] at hs ⊢ <;> omega
     rw [e]
     exact sum_lt s s' hs A A' n c n' c' xs ys w h h' hn hn' cx cy hv
   · have e : sgn s (val xs) + sgn s' (val ys) = sgn s (val xs - val ys) := by
      cases s <;> cases s' <;> simp [sgn] at hs ⊢ <;> omega
     rw [e]
     exact sum_ge s s' hs A A' n c n' c' xs ys w h h' hn hn' cx cy hv
structure Env (w W : World) (s s' : Bool) (A A' : Option Addr) (n c n' c' : Nat) : Prop where
 size : w.heap.size + 3 ≤ W.heap.size
 a0 : W.cell? ⟨w.heap.size, 0, none⟩ = some (.bool s)
 a1 : W.cell? ⟨w.heap.size, 1, none⟩ = some (.slice A n c)
 b0 : W.cell? ⟨w.heap.size + 1, 0, none⟩ = some (.bool s')
 b1 : W.cell? ⟨w.heap.size + 1, 1, none⟩ = some (.slice A' n' c')
 r0 : W.cell? ⟨w.heap.size + 1 + 1, 0, none⟩ = some (.bool false)
 r1 : W.cell? ⟨w.heap.size + 1 + 1, 1, none⟩ = some (.slice none 0 0)
 f0 : W.frozen? ⟨w.heap.size + 1 + 1, 0, none⟩ = false
 f1 : W.frozen? ⟨w.heap.size + 1 + 1, 1, none⟩ = false
 below : Below w.heap.size w W
theorem Env.start (w : World) (s s' : Bool) (A A' : Option Addr) (n c n' c' : Nat) :
 Env w (((w.alloc (.cells #[.bool s, .slice A n c] 58)).alloc (.cells #[.bool s', .slice A' n' c'] 58)).alloc (.cells #[.bool false, .slice none 0 0] 58)) s s' A A' n c n' c' :=
 ⟨by simp, by go_simp, by go_simp, by go_simp, by go_simp, by go_simp, by go_simp, by go_simp, by go_simp, ((((Below.refl _ _).alloc (Nat.le_refl _) _).alloc (by simp) _).alloc (by simp; omega) _)⟩
theorem Env.next {w W w1 : World} {s s' : Bool} {A A' : Option Addr} {n c n' c' : Nat} (h : Env w W s s' A A' n c n' c') (hb : Below W.heap.size W w1) : Env w w1 s s' A A' n c n' c' := by
 have hz := h.size
 have hz1 := hb.size
 exact ⟨by omega, (hb.cell (p := ⟨w.heap.size, 0, none⟩) (by simp; omega)).trans h.a0, (hb.cell (p := ⟨w.heap.size, 1, none⟩) (by simp; omega)).trans h.a1,
  (hb.cell (p := ⟨w.heap.size + 1, 0, none⟩) (by simp; omega)).trans h.b0, (hb.cell (p := ⟨w.heap.size + 1, 1, none⟩) (by simp; omega)).trans h.b1,
  (hb.cell (p := ⟨w.heap.size + 1 + 1, 0, none⟩) (by simp; omega)).trans h.r0, (hb.cell (p := ⟨w.heap.size + 1 + 1, 1, none⟩) (by simp; omega)).trans h.r1,
  (hb.frozen (p := ⟨w.heap.size + 1 + 1, 0, none⟩) (by simp; omega)).trans h.f0, (hb.frozen (p := ⟨w.heap.size + 1 + 1, 1, none⟩) (by simp; omega)).trans h.f1,
  h.below.trans (hb.mono (by omega))⟩
theorem Env.alloc {w W : World} {s s' : Bool} {A A' : Option Addr} {n c n' c' : Nat} (h : Env w W s s' A A' n c n' c') (o : Obj) : Env w (W.alloc o) s s' A A' n c n' c' :=
 h.next ((Below.refl _ _).alloc (Nat.le_refl _) o)
theorem Env.drewN {w W : World} {s s' : Bool} {A A' : Option Addr} {n c n' c' : Nat} (h : Env w W s s' A A' n c n' c') (k : Nat) : Env w (W.drewN k) s s' A A' n c n' c' :=
 h.next (below_drewN (Below.refl _ _) k)
theorem sgn_not (b : Bool) (v : Nat) : sgn (!b) v = -sgn b v := by cases b <;> simp [sgn]
set_option maxHeartbeats 400000 in
theorem Add_ok (s s' : Bool) (A A' : Option Addr) (n c n' c' : Nat) (xs ys : List Nat) (w : World) (h : Rd w A n xs) (h' : Rd w A' n' ys) (vx : validB s xs = true) (vy : validB s' ys = true) :
 Calls Tryz.prog 109 #[.agg #[.bool s, .slice A n c], .agg #[.bool s', .slice A' n' c']] w (Num w (sgn s (val xs) + sgn s' (val ys))) := by
 have VX := Lib.hid (valid_canon h.sm vx)
 have VY := Lib.hid (valid_canon h'.sm vy)
 have HV := Lib.hid (show (validB s xs && validB s' ys) = true by rw [vx, vy]; rfl)
 clear vx vy
 go_enter Tryz.func109, Tryz.ntmps109
 go_wp2_with fail
 have E := (Env.start w s s' A A' n c n' c').alloc (.cells #[.bool s, .slice A n c, .bool s', .slice A' n' c'] 58)
 refine (allValid_c (w.heap.size + 1 + 1 + 1) s s' A A' n c n' c' xs ys _ (h.below E.below) (h'.below E.below) (by simp) (by go_simp) (by go_simp) (by go_simp) (by go_simp)).mono ?_
 rintro e w1 ⟨rfl, hb⟩
 rw [HV.out]
 have E1 := Lib.hid (E.next hb)
 clear E hb
 have a0 := E1.out.a0
 have a1 := E1.out.a1
 have b0 := E1.out.b0
 have b1 := E1.out.b1
 go_wp2_with fail
 have hz := E1.out.below.size
 refine (sum_c s s' A A' n c n' c' xs ys w1 (h.below E1.out.below) (h'.below E1.out.below) (by have := VX.out.2.1; have := h.len; omega) (by have := VY.out.2.1; have := h'.len; omega) VX.out.1 VY.out.1).mono ?_
 rintro e w2 ⟨t, B, m, d, k, rfl, q1, q2⟩
 have E2 := Lib.hid (E1.out.next q2)
 clear a0 a1 b0 b1
 have r0 := E2.out.r0
 have r1 := E2.out.r1
 have f0 := E2.out.f0
 have f1 := E2.out.f1
 go_wp2
 refine bodyPost_ret (v := .tuple #[.agg #[.bool t, .slice B m d], .int .i64 k]) (by simp [results, Tryz.results109, go_sem, r0, r1]) rfl ?_
 exact ⟨t, B, m, d, k, rfl, q1.store r0 r1 _ _, below_store E2.out.below (by omega) _ _⟩
set_option maxHeartbeats 400000 in
theorem Sub_ok (s s' : Bool) (A A' : Option Addr) (n c n' c' : Nat) (xs ys : List Nat) (w : World) (h : Rd w A n xs) (h' : Rd w A' n' ys) (vx : validB s xs = true) (vy : validB s' ys = true) :
 Calls Tryz.prog 167 #[.agg #[.bool s, .slice A n c], .agg #[.bool s', .slice A' n' c']] w (Num w (sgn s (val xs) - sgn s' (val ys))) := by
 have VX := Lib.hid (valid_canon h.sm vx)
 have VY := Lib.hid (valid_canon h'.sm vy)
 have HV := Lib.hid (show (validB s xs && validB s' ys) = true by rw [vx, vy]; rfl)
 clear vx vy
 go_enter Tryz.func167, Tryz.ntmps167
 go_wp2_with fail
 have E := (Env.start w s s' A A' n c n' c').alloc (.cells #[.bool s, .slice A n c, .bool s', .slice A' n' c'] 58)
 refine (allValid_c (w.heap.size + 1 + 1 + 1) s s' A A' n c n' c' xs ys _ (h.below E.below) (h'.below E.below) (by simp) (by go_simp) (by go_simp) (by go_simp) (by go_simp)).mono ?_
 rintro e w1 ⟨rfl, hb⟩
 rw [HV.out]
 have E1 := Lib.hid (E.next hb)
 clear E hb
 have a0 := E1.out.a0
 have a1 := E1.out.a1
 have b0 := E1.out.b0
 have b1 := E1.out.b1
 go_wp2_with fail
 have hz := E1.out.below.size
 refine (sum_c s (!s') A A' n c n' c' xs ys w1 (h.below E1.out.below) (h'.below E1.out.below) (by have := VX.out.2.1; have := h.len; omega) (by have := VY.out.2.1; have := h'.len; omega) VX.out.1 VY.out.1).mono ?_
 rintro e w2 ⟨t, B, m, d, k, rfl, q1, q2⟩
 rw [sgn_not, ← Int.sub_eq_add_neg] at q1
 have E2 := Lib.hid (E1.out.next q2)
 clear a0 a1 b0 b1
 have r0 := E2.out.r0
 have r1 := E2.out.r1
 have f0 := E2.out.f0
 have f1 := E2.out.f1
 go_wp2
 refine bodyPost_ret (v := .tuple #[.agg #[.bool t, .slice B m d], .int .i64 k]) (by simp [results, Tryz.results167, go_sem, r0, r1]) rfl ?_
 exact ⟨t, B, m, d, k, rfl, q1.store r0 r1 _ _, below_store E2.out.below (by omega) _ _⟩
def Bad (w : World) (k : Int) (e : Ending) (w' : World) : Prop := e = .returned (.tuple #[.agg #[.bool false, .slice none 0 0], .int .i64 k]) ∧ Below w.heap.size w w'
structure Env2 (w W : World) (s s' : Bool) (A A' : Option Addr) (n c n' c' : Nat) : Prop where
 size : w.heap.size + 2 ≤ W.heap.size
 a0 : W.cell? ⟨w.heap.size, 0, none⟩ = some (.bool s)
 a1 : W.cell? ⟨w.heap.size, 1, none⟩ = some (.slice A n c)
 b0 : W.cell? ⟨w.heap.size + 1, 0, none⟩ = some (.bool s')
 b1 : W.cell? ⟨w.heap.size + 1, 1, none⟩ = some (.slice A' n' c')
 below : Below w.heap.size w W
theorem Env2.start (w : World) (s s' : Bool) (A A' : Option Addr) (n c n' c' : Nat) :
 Env2 w ((w.alloc (.cells #[.bool s, .slice A n c] 58)).alloc (.cells #[.bool s', .slice A' n' c'] 58)) s s' A A' n c n' c' :=
 ⟨by simp, by go_simp, by go_simp, by go_simp, by go_simp, (((Below.refl _ _).alloc (Nat.le_refl _) _).alloc (by simp) _)⟩
theorem Env2.next {w W w1 : World} {s s' : Bool} {A A' : Option Addr} {n c n' c' : Nat} (h : Env2 w W s s' A A' n c n' c') (hb : Below W.heap.size W w1) : Env2 w w1 s s' A A' n c n' c' := by
 have hz := h.size
 have hz1 := hb.size
 exact ⟨by omega, (hb.cell (p := ⟨w.heap.size, 0, none⟩) (by simp; omega)).trans h.a0, (hb.cell (p := ⟨w.heap.size, 1, none⟩) (by simp; omega)).trans h.a1,
  (hb.cell (p := ⟨w.heap.size + 1, 0, none⟩) (by simp; omega)).trans h.b0, (hb.cell (p := ⟨w.heap.size + 1, 1, none⟩) (by simp; omega)).trans h.b1,
  h.below.trans (hb.mono (by omega))⟩
theorem Env2.alloc {w W : World} {s s' : Bool} {A A' : Option Addr} {n c n' c' : Nat} (h : Env2 w W s s' A A' n c n' c') (o : Obj) : Env2 w (W.alloc o) s s' A A' n c n' c' :=
 h.next ((Below.refl _ _).alloc (Nat.le_refl _) o)
theorem ord_sgn (s s' : Bool) (X Y : Nat) (h : X = 0 → s = false) (h' : Y = 0 → s' = false) :
 ord (sgn s X) (sgn s' Y) = if s && !s' then -1 else if s' && !s then 1 else if s then ord (Y : Int) (X : Int) else ord (X : Int) (Y : Int) := by
 cases s <;> cases s' <;> simp [sgn]
 · have : Y ≠ 0 := fun e => by simp [e] at h'
   exact ord_gt (by omega)
 · have : X ≠ 0 := fun e => by simp [e] at h
   exact ord_lt (by omega)
 · rcases Nat.lt_trichotomy X Y with h1 | h1 | h1
   · rw [ord_gt (by omega), ord_gt (by omega)]
   · rw [ord_eq (by omega), ord_eq (by omega)]
   · rw [ord_lt (by omega), ord_lt (by omega)]
set_option maxHeartbeats 400000 in
theorem Cmp_ok (s s' : Bool) (A A' : Option Addr) (n c n' c' : Nat) (xs ys : List Nat) (w : World) (h : Rd w A n xs) (h' : Rd w A' n' ys) (vx : validB s xs = true) (vy : validB s' ys = true) :
 Calls Tryz.prog 139 #[.agg #[.bool s, .slice A n c], .agg #[.bool s', .slice A' n' c']] w (fun e w' => e = .returned (.tuple #[.int .i64 (ord (sgn s (val xs)) (sgn s' (val ys))), .int .i64 0]) ∧ Below w.heap.size w w') := by
 have VX := Lib.hid (valid_canon h.sm vx)
 have VY := Lib.hid (valid_canon h'.sm vy)
 have HV := Lib.hid (show (validB s xs && validB s' ys) = true by rw [vx, vy]; rfl)
 clear vx vy
 go_enter Tryz.func139, Tryz.ntmps139
 have HO := Lib.hid (ord_sgn s s' (val xs) (val ys) VX.out.2.2 VY.out.2.2)
 have CA := Lib.hid (fun w' hx hy => compare_c A A' n c n' c' xs ys w' hx hy VX.out.1 VY.out.1 (by have := VX.out.2.1; have := h.len; omega) (by have := VY.out.2.1; have := h'.len; omega))
 have CB := Lib.hid (fun w' hx hy => compare_c A' A n' c' n c ys xs w' hx hy VY.out.1 VX.out.1 (by have := VY.out.2.1; have := h'.len; omega) (by have := VX.out.2.1; have := h.len; omega))
 go_wp2_with fail
 have E := (Env2.start w s s' A A' n c n' c').alloc (.cells #[.bool s, .slice A n c, .bool s', .slice A' n' c'] 58)
 refine (allValid_c (w.heap.size + 1 + 1) s s' A A' n c n' c' xs ys _ (h.below E.below) (h'.below E.below) (by simp) (by go_simp) (by go_simp) (by go_simp) (by go_simp)).mono ?_
 rintro e w1 ⟨rfl, hb⟩
 rw [HV.out]
 have E1 := Lib.hid (E.next hb)
 clear E hb
 have a0 := E1.out.a0
 have a1 := E1.out.a1
 have b0 := E1.out.b0
 have b1 := E1.out.b1
 cases s <;> cases s'
 · go_wp2_with fail
   refine (CA.out w1 (h.below E1.out.below) (h'.below E1.out.below)).mono ?_
   rintro e w2 ⟨rfl, k, rfl⟩
   go_wp2
   go_ret2
   exact ⟨by rw [HO.out]; rfl, below_drewN E1.out.below k⟩
 · go_wp2
   go_ret2
   exact ⟨by rw [HO.out]; rfl, E1.out.below⟩
 · go_wp2
   go_ret2
   exact ⟨by rw [HO.out]; rfl, E1.out.below⟩
 · go_wp2_with fail
   refine (CB.out w1 (h'.below E1.out.below) (h.below E1.out.below)).mono ?_
   rintro e w2 ⟨rfl, k, rfl⟩
   go_wp2
   go_ret2
   exact ⟨by rw [HO.out]; rfl, below_drewN E1.out.below k⟩
end Go.Proofs.YteabokkofoomkaaGreat

import Derived.Test.YtbblckaplddggaaWg
import Derived.Deep.RegionHeld3
namespace Go.Proofs.Ytbblckaplddggaa
open Go.RowKit

theorem valid_canon {s : Bool} {xs : List Nat} (hs : small xs) (h : validB s xs = true) : canon xs ∧ xs.length ≤ 4096 ∧ (val xs = 0 → s = false) := by
  unfold validB at h
  split at h
  · rename_i h0
    have : xs = [] := List.eq_nil_of_length_eq_zero h0
    subst this
    exact ⟨⟨hs, by simp⟩, by simp, fun _ => by simpa using h⟩
  · rename_i h0
    simp only [Bool.and_eq_true, decide_eq_true_eq] at h
    have hc : canon xs := by
      refine ⟨hs, fun hl => h.2 ?_⟩
      rw [List.getLast?_eq_getElem?] at hl
      rw [List.getD_eq_getElem?_getD, hl]; rfl
    refine ⟨hc, h.1, fun hv => ?_⟩
    have := words_val hc
    rw [hv, words_zero] at this
    rw [← this] at h0
    exact absurd rfl h0

theorem swap_cells {w : World} {g g' : Nat} (hne : g ≠ g') {x0 x1 y0 y1 a b c d : Value} (h0 : w.cell? ⟨g, 0, none⟩ = some x0) (h1 : w.cell? ⟨g, 1, none⟩ = some x1) (k0 : w.cell? ⟨g', 0, none⟩ = some y0) (k1 : w.cell? ⟨g', 1, none⟩ = some y1) {W : World}
    (hW : (((w.setCell ⟨g, 0, none⟩ a).setCell ⟨g, 1, none⟩ b).setCell ⟨g', 0, none⟩ c).setCell ⟨g', 1, none⟩ d = W) :
    W.cell? ⟨g, 0, none⟩ = some a ∧ W.cell? ⟨g, 1, none⟩ = some b ∧ W.cell? ⟨g', 0, none⟩ = some c ∧ W.cell? ⟨g', 1, none⟩ = some d ∧ (∀ i o, i ≠ g → i ≠ g' → W.cell? ⟨i, o, none⟩ = w.cell? ⟨i, o, none⟩ ∧ W.frozen? ⟨i, o, none⟩ = w.frozen? ⟨i, o, none⟩) ∧ W.heap.size = w.heap.size := by
  have A1 : ∀ i o, i ≠ g → (((w.setCell ⟨g, 0, none⟩ a).setCell ⟨g, 1, none⟩ b)).cell? ⟨i, o, none⟩ = w.cell? ⟨i, o, none⟩ := fun i o hi => by
    rw [World.cell?_setCell_other _ _ _ _ (fun e => hi (by injection e with e1; exact e1.symm)), World.cell?_setCell_other _ _ _ _ (fun e => hi (by injection e with e1; exact e1.symm))]
  have A2 : ∀ (v : World) i o, i ≠ g' → (((v.setCell ⟨g', 0, none⟩ c).setCell ⟨g', 1, none⟩ d)).cell? ⟨i, o, none⟩ = v.cell? ⟨i, o, none⟩ := fun v i o hi => by
    rw [World.cell?_setCell_other _ _ _ _ (fun e => hi (by injection e with e1; exact e1.symm)), World.cell?_setCell_other _ _ _ _ (fun e => hi (by injection e with e1; exact e1.symm))]
  have B : ∀ (v : World) i o x0 x1 p q, v.cell? ⟨i, 0, none⟩ = some x0 → v.cell? ⟨i, 1, none⟩ = some x1 → o = o → ((v.setCell ⟨i, 0, none⟩ p).setCell ⟨i, 1, none⟩ q).cell? ⟨i, 0, none⟩ = some p ∧ ((v.setCell ⟨i, 0, none⟩ p).setCell ⟨i, 1, none⟩ q).cell? ⟨i, 1, none⟩ = some q := fun v i (o : Nat) x0 x1 p q e0 e1 _ => by
    have f1 : (v.setCell ⟨i, 0, none⟩ p).cell? ⟨i, 1, none⟩ = some x1 := by rw [World.cell?_setCell_other _ _ _ _ (by simp)]; exact e1
    exact ⟨by rw [World.cell?_setCell_other _ _ _ _ (by simp)]; exact World.cell?_setCell_same _ _ _ e0, World.cell?_setCell_same _ _ _ f1⟩
  subst hW
  have b1 := B w g 0 _ _ a b h0 h1 rfl
  have b2 := B _ g' 0 _ _ c d ((A1 g' 0 (Ne.symm hne)).trans k0) ((A1 g' 1 (Ne.symm hne)).trans k1) rfl
  refine ⟨(A2 _ _ _ hne).trans b1.1, (A2 _ _ _ hne).trans b1.2, b2.1, b2.2, fun i o h1 h2 => ⟨(A2 _ _ _ h2).trans (A1 _ _ h1), ?_⟩, by simp [World.setCell]⟩
  simp [World.frozen?, World.setCell, Array.getElem?_modify, Ne.symm h1, Ne.symm h2]

set_option maxHeartbeats 400000 in
theorem sum_same (s : Bool) (A A' : Option Addr) (n c n' c' : Nat) (xs ys : List Nat) (w : World) (h : Rd w A n xs) (h' : Rd w A' n' ys) (hn : n < 35184372088832) (hn' : n' < 35184372088832) :
    Calls Try.prog 135 #[.agg #[.bool s, .slice A n c], .agg #[.bool s, .slice A' n' c']] w (Num w (sgn s (val xs + val ys))) := by
  go_enter Try.func135, Try.ntmps135
  go_wp2_with fail
  have hx := ((h.alloc (.cells #[.bool s, .slice A n c] 24)).alloc (.cells #[.bool s, .slice A' n' c'] 24)).alloc (.cells #[.bool false, .slice none 0 0] 24)
  have hy := ((h'.alloc (.cells #[.bool s, .slice A n c] 24)).alloc (.cells #[.bool s, .slice A' n' c'] 24)).alloc (.cells #[.bool false, .slice none 0 0] 24)
  generalize hW : ((w.alloc (.cells #[.bool s, .slice A n c] 24)).alloc (.cells #[.bool s, .slice A' n' c'] 24)).alloc (.cells #[.bool false, .slice none 0 0] 24) = W at hx hy ⊢
  have c0 : W.cell? ⟨w.heap.size, 0, none⟩ = some (.bool s) := by subst hW; go_simp
  have c1 : W.cell? ⟨w.heap.size, 1, none⟩ = some (.slice A n c) := by subst hW; go_simp
  have c2 : W.cell? ⟨w.heap.size + 1, 1, none⟩ = some (.slice A' n' c') := by subst hW; go_simp
  have c3 : W.cell? ⟨w.heap.size + 1 + 1, 0, none⟩ = some (.bool false) := by subst hW; go_simp
  have c4 : W.cell? ⟨w.heap.size + 1 + 1, 1, none⟩ = some (.slice none 0 0) := by subst hW; go_simp
  have f3 : W.frozen? ⟨w.heap.size + 1 + 1, 0, none⟩ = false := by subst hW; go_simp
  have f4 : W.frozen? ⟨w.heap.size + 1 + 1, 1, none⟩ = false := by subst hW; go_simp
  have hbW : Below w.heap.size w W := by subst hW; exact (((Below.refl _ _).alloc (Nat.le_refl _) _).alloc (by simp) _).alloc (by simp; omega) _
  have hsz : W.heap.size = w.heap.size + 3 := by subst hW; simp
  have HW := Lib.hid hW
  have HS := Lib.hid hsz
  clear hW hsz h h'
  have AD := Lib.hid (fun w' hx hy => add_c A A' n c n' c' xs ys w' hx hy (by omega) (by omega))
  go_region_held3 (fun w' => w'.cell? ⟨w.heap.size, 0, none⟩ = some (.bool s) ∧ w'.cell? ⟨w.heap.size, 1, none⟩ = some (.slice A n c) ∧ w'.cell? ⟨w.heap.size + 1, 1, none⟩ = some (.slice A' n' c')) (first | (go_keep; done) | (refine ⟨cell_two (by omega) l0, cell_two (by omega) l1, cell_two (by omega) l2⟩))
    (first
      | (go_at_call 80
         refine (AD.out _ hx.drew hy.drew).mono ?_
         rintro e w1 ⟨B, d, rfl, r1, r2, r3, r4, r5⟩
         have k0 := (r4.cell (p := ⟨w.heap.size, 0, none⟩) (by have := HS.out; simp; omega)).trans c0
         have k1 := (r4.cell (p := ⟨w.heap.size, 1, none⟩) (by have := HS.out; simp; omega)).trans c1
         have k2 := (r4.cell (p := ⟨w.heap.size + 1, 1, none⟩) (by have := HS.out; simp; omega)).trans c2)
      | (go_at_call 82
         refine (number_c s B _ d _ w1 r1 r2 r3).mono ?_
         rintro e w2 ⟨t, B2, m2, d2, k, rfl, q1, q2⟩
         have l0 := (q2.cell (p := ⟨w.heap.size, 0, none⟩) (by have := HS.out; have := r4.size; simp at this ⊢; omega)).trans k0
         have l1 := (q2.cell (p := ⟨w.heap.size, 1, none⟩) (by have := HS.out; have := r4.size; simp at this ⊢; omega)).trans k1
         have l2 := (q2.cell (p := ⟨w.heap.size + 1, 1, none⟩) (by have := HS.out; have := r4.size; simp at this ⊢; omega)).trans k2
         have l3 := (q2.cell (p := ⟨w.heap.size + 1 + 1, 0, none⟩) (by have := HS.out; have := r4.size; simp at this ⊢; omega)).trans ((r4.cell (p := ⟨w.heap.size + 1 + 1, 0, none⟩) (by have := HS.out; simp; omega)).trans c3)
         have l4 := (q2.cell (p := ⟨w.heap.size + 1 + 1, 1, none⟩) (by have := HS.out; have := r4.size; simp at this ⊢; omega)).trans ((r4.cell (p := ⟨w.heap.size + 1 + 1, 1, none⟩) (by have := HS.out; simp; omega)).trans c4)
         have g3 := (q2.frozen (p := ⟨w.heap.size + 1 + 1, 0, none⟩) (by have := HS.out; have := r4.size; simp at this ⊢; omega)).trans ((r4.frozen (p := ⟨w.heap.size + 1 + 1, 0, none⟩) (by have := HS.out; simp; omega)).trans f3)
         have g4 := (q2.frozen (p := ⟨w.heap.size + 1 + 1, 1, none⟩) (by have := HS.out; have := r4.size; simp at this ⊢; omega)).trans ((r4.frozen (p := ⟨w.heap.size + 1 + 1, 1, none⟩) (by have := HS.out; simp; omega)).trans f4)))
  go_wp2
  rw [val_words] at q1
  have hz1 := r4.size
  have hz2 := q2.size
  have hz3 := HS.out
  rw [World.size_drew] at hz1
  have hB := ((hbW.drew).trans (r4.mono (by simp; omega))).trans (q2.mono (by omega))
  refine bodyPost_ret (v := .tuple #[.agg #[.bool t, .slice B2 m2 d2], .int .i64 k]) (by simp [results, Try.results135, go_sem, l3, l4]) rfl ?_
  exact ⟨t, B2, m2, d2, k, rfl, q1.store l3 l4 _ _, below_store hB (by omega) _ _⟩
set_option maxHeartbeats 400000 in
theorem sum_ge (s s' : Bool) (hss : s ≠ s') (A A' : Option Addr) (n c n' c' : Nat) (xs ys : List Nat) (w : World) (h : Rd w A n xs) (h' : Rd w A' n' ys) (hn : n < 35184372088832) (hn' : n' < 35184372088832) (cx : canon xs) (cy : canon ys) (hle : val ys ≤ val xs) :
    Calls Try.prog 135 #[.agg #[.bool s, .slice A n c], .agg #[.bool s', .slice A' n' c']] w (Num w (sgn s (val xs - val ys))) := by
  have hnn : n' ≤ n := by
    rcases Nat.lt_or_ge n n' with h1 | h1
    · have := cmp_len cx.1 cy (by rw [h.len, h'.len]; exact h1); omega
    · exact h1
  have HLE := Lib.hid hle
  clear hle
  have tss : (s == s') = false := by simpa using hss
  have CMP := Lib.hid (fun w' hx hy => compare_c A A' n c n' c' xs ys w' hx hy cx cy (by omega) (by omega))
  clear hss

  go_enter Try.func135, Try.ntmps135
  go_wp2_with fail
  refine (CMP.out _ (((h.alloc _).alloc _).alloc _) (((h'.alloc _).alloc _).alloc _)).mono ?_
  rintro e w1 ⟨rfl, q, rfl⟩
  have ho : 0 ≤ ord (val xs) (val ys) := by
    have := HLE.out
    rcases Nat.lt_or_ge (val ys) (val xs) with h1 | h1
    · rw [ord_gt (by omega)]; omega
    · rw [ord_eq (by omega)]; exact Int.le_refl _
  obtain ⟨od, hod⟩ : ∃ od, od = ord (val xs) (val ys) := ⟨_, rfl⟩
  rw [← hod] at ho ⊢
  clear hod
  go_wp2_with fail
  have hx := (((h.alloc (.cells #[.bool s, .slice A n c] 24)).alloc (.cells #[.bool s', .slice A' n' c'] 24)).alloc (.cells #[.bool false, .slice none 0 0] 24)).drewN q
  have hy := (((h'.alloc (.cells #[.bool s, .slice A n c] 24)).alloc (.cells #[.bool s', .slice A' n' c'] 24)).alloc (.cells #[.bool false, .slice none 0 0] 24)).drewN q
  generalize hW : (((w.alloc (.cells #[.bool s, .slice A n c] 24)).alloc (.cells #[.bool s', .slice A' n' c'] 24)).alloc (.cells #[.bool false, .slice none 0 0] 24)).drewN q = W at hx hy ⊢
  have c0 : W.cell? ⟨w.heap.size, 0, none⟩ = some (.bool s) := by subst hW; go_simp
  have c1 : W.cell? ⟨w.heap.size, 1, none⟩ = some (.slice A n c) := by subst hW; go_simp
  have c2 : W.cell? ⟨w.heap.size + 1, 1, none⟩ = some (.slice A' n' c') := by subst hW; go_simp
  have c3 : W.cell? ⟨w.heap.size + 1 + 1, 0, none⟩ = some (.bool false) := by subst hW; go_simp
  have c4 : W.cell? ⟨w.heap.size + 1 + 1, 1, none⟩ = some (.slice none 0 0) := by subst hW; go_simp
  have f3 : W.frozen? ⟨w.heap.size + 1 + 1, 0, none⟩ = false := by subst hW; go_simp
  have f4 : W.frozen? ⟨w.heap.size + 1 + 1, 1, none⟩ = false := by subst hW; go_simp
  have hbW : Below w.heap.size w W := by subst hW; exact below_drewN ((((Below.refl _ _).alloc (Nat.le_refl _) _).alloc (by simp) _).alloc (by simp; omega) _) q
  have hsz : W.heap.size = w.heap.size + 3 := by subst hW; simp
  have HW := Lib.hid hW
  have HS := Lib.hid hsz
  clear hW hsz h h'
  have AD := Lib.hid (fun w' hx hy => subtract_c A A' n c n' c' xs ys w' hx hy (by omega) hnn HLE.out)
  go_region_held3 (fun w' => w'.cell? ⟨w.heap.size, 0, none⟩ = some (.bool s) ∧ w'.cell? ⟨w.heap.size, 1, none⟩ = some (.slice A n c) ∧ w'.cell? ⟨w.heap.size + 1, 1, none⟩ = some (.slice A' n' c')) (first | (go_keep; done) | (refine ⟨cell_two (by omega) l0, cell_two (by omega) l1, cell_two (by omega) l2⟩))
    (first
      | (go_at_call 81
         refine (AD.out _ hx.drew hy.drew).mono ?_
         rintro e w1 ⟨B, d, rfl, r1, r2, r3, r4, r5⟩
         have k0 := (r4.cell (p := ⟨w.heap.size, 0, none⟩) (by have := HS.out; simp; omega)).trans c0
         have k1 := (r4.cell (p := ⟨w.heap.size, 1, none⟩) (by have := HS.out; simp; omega)).trans c1
         have k2 := (r4.cell (p := ⟨w.heap.size + 1, 1, none⟩) (by have := HS.out; simp; omega)).trans c2)
      | (go_at_call 82
         refine (number_c s B _ d _ w1 r1 r2 r3).mono ?_
         rintro e w2 ⟨t, B2, m2, d2, k, rfl, q1, q2⟩
         have l0 := (q2.cell (p := ⟨w.heap.size, 0, none⟩) (by have := HS.out; have := r4.size; simp at this ⊢; omega)).trans k0
         have l1 := (q2.cell (p := ⟨w.heap.size, 1, none⟩) (by have := HS.out; have := r4.size; simp at this ⊢; omega)).trans k1
         have l2 := (q2.cell (p := ⟨w.heap.size + 1, 1, none⟩) (by have := HS.out; have := r4.size; simp at this ⊢; omega)).trans k2
         have l3 := (q2.cell (p := ⟨w.heap.size + 1 + 1, 0, none⟩) (by have := HS.out; have := r4.size; simp at this ⊢; omega)).trans ((r4.cell (p := ⟨w.heap.size + 1 + 1, 0, none⟩) (by have := HS.out; simp; omega)).trans c3)
         have l4 := (q2.cell (p := ⟨w.heap.size + 1 + 1, 1, none⟩) (by have := HS.out; have := r4.size; simp at this ⊢; omega)).trans ((r4.cell (p := ⟨w.heap.size + 1 + 1, 1, none⟩) (by have := HS.out; simp; omega)).trans c4)
         have g3 := (q2.frozen (p := ⟨w.heap.size + 1 + 1, 0, none⟩) (by have := HS.out; have := r4.size; simp at this ⊢; omega)).trans ((r4.frozen (p := ⟨w.heap.size + 1 + 1, 0, none⟩) (by have := HS.out; simp; omega)).trans f3)
         have g4 := (q2.frozen (p := ⟨w.heap.size + 1 + 1, 1, none⟩) (by have := HS.out; have := r4.size; simp at this ⊢; omega)).trans ((r4.frozen (p := ⟨w.heap.size + 1 + 1, 1, none⟩) (by have := HS.out; simp; omega)).trans f4)))
  go_wp2
  rw [val_words] at q1
  have hz1 := r4.size
  have hz2 := q2.size
  have hz3 := HS.out
  rw [World.size_drew] at hz1
  have hB := ((hbW.drew).trans (r4.mono (by simp; omega))).trans (q2.mono (by omega))
  refine bodyPost_ret (v := .tuple #[.agg #[.bool t, .slice B2 m2 d2], .int .i64 k]) (by simp [results, Try.results135, go_sem, l3, l4]) rfl ?_
  exact ⟨t, B2, m2, d2, k, rfl, q1.store l3 l4 _ _, below_store hB (by omega) _ _⟩
set_option maxHeartbeats 400000 in
theorem sum_lt (s s' : Bool) (hss : s ≠ s') (A A' : Option Addr) (n c n' c' : Nat) (xs ys : List Nat) (w : World) (h : Rd w A n xs) (h' : Rd w A' n' ys) (hn : n < 35184372088832) (hn' : n' < 35184372088832) (cx : canon xs) (cy : canon ys) (hle : val xs < val ys) :
    Calls Try.prog 135 #[.agg #[.bool s, .slice A n c], .agg #[.bool s', .slice A' n' c']] w (Num w (sgn s' (val ys - val xs))) := by
  have hnn : n ≤ n' := by
    rcases Nat.lt_or_ge n' n with h1 | h1
    · have := cmp_len cy.1 cx (by rw [h.len, h'.len]; exact h1); omega
    · exact h1
  have HLE := Lib.hid hle
  clear hle
  have tss : (s == s') = false := by simpa using hss
  have CMP := Lib.hid (fun w' hx hy => compare_c A A' n c n' c' xs ys w' hx hy cx cy (by omega) (by omega))
  clear hss

  go_enter Try.func135, Try.ntmps135
  go_wp2_with fail
  refine (CMP.out _ (((h.alloc _).alloc _).alloc _) (((h'.alloc _).alloc _).alloc _)).mono ?_
  rintro e w1 ⟨rfl, q, rfl⟩
  have ho : ord (val xs) (val ys) < 0 := by
    have := HLE.out
    rw [ord_lt (by omega)]; omega
  obtain ⟨od, hod⟩ : ∃ od, od = ord (val xs) (val ys) := ⟨_, rfl⟩
  rw [← hod] at ho ⊢
  clear hod
  generalize hV : (((w.alloc (.cells #[.bool s, .slice A n c] 24)).alloc (.cells #[.bool s', .slice A' n' c'] 24)).alloc (.cells #[.bool false, .slice none 0 0] 24)).drewN q = V
  have v0 : V.cell? ⟨w.heap.size, 0, none⟩ = some (.bool s) := by subst hV; go_simp
  have v1 : V.cell? ⟨w.heap.size, 1, none⟩ = some (.slice A n c) := by subst hV; go_simp
  have v2 : V.cell? ⟨w.heap.size + 1, 0, none⟩ = some (.bool s') := by subst hV; go_simp
  have v3 : V.cell? ⟨w.heap.size + 1, 1, none⟩ = some (.slice A' n' c') := by subst hV; go_simp
  have v4 : V.cell? ⟨w.heap.size + 1 + 1, 0, none⟩ = some (.bool false) := by subst hV; go_simp
  have v5 : V.cell? ⟨w.heap.size + 1 + 1, 1, none⟩ = some (.slice none 0 0) := by subst hV; go_simp
  have z0 : V.frozen? ⟨w.heap.size, 0, none⟩ = false := by subst hV; go_simp
  have z1 : V.frozen? ⟨w.heap.size, 1, none⟩ = false := by subst hV; go_simp
  have z2 : V.frozen? ⟨w.heap.size + 1, 0, none⟩ = false := by subst hV; go_simp
  have z3 : V.frozen? ⟨w.heap.size + 1, 1, none⟩ = false := by subst hV; go_simp
  have z4 : V.frozen? ⟨w.heap.size + 1 + 1, 0, none⟩ = false := by subst hV; go_simp
  have z5 : V.frozen? ⟨w.heap.size + 1 + 1, 1, none⟩ = false := by subst hV; go_simp
  have hbV : Below w.heap.size w V := by subst hV; exact below_drewN ((((Below.refl _ _).alloc (Nat.le_refl _) _).alloc (by simp) _).alloc (by simp; omega) _) q
  have hszV : V.heap.size = w.heap.size + 3 := by subst hV; simp
  clear hV
  go_wp2_with fail
  generalize hW : (((V.setCell ⟨w.heap.size, 0, none⟩ (.bool s')).setCell ⟨w.heap.size, 1, none⟩ (.slice A' n' c')).setCell ⟨w.heap.size + 1, 0, none⟩ (.bool s)).setCell ⟨w.heap.size + 1, 1, none⟩ (.slice A n c) = W
  obtain ⟨c0, c1, _, c2, hoth, hsz⟩ := swap_cells (by omega) v0 v1 v2 v3 hW
  have c3 := (hoth (w.heap.size + 1 + 1) 0 (by omega) (by omega)).1.trans v4
  have c4 := (hoth (w.heap.size + 1 + 1) 1 (by omega) (by omega)).1.trans v5
  have f3 := (hoth (w.heap.size + 1 + 1) 0 (by omega) (by omega)).2.trans z4
  have f4 := (hoth (w.heap.size + 1 + 1) 1 (by omega) (by omega)).2.trans z5
  have hbW : Below w.heap.size w W := by
    subst hW
    exact (((hbV.setCell (p := ⟨w.heap.size, 0, none⟩) (Nat.le_refl _) _).setCell (p := ⟨w.heap.size, 1, none⟩) (Nat.le_refl _) _).setCell (p := ⟨w.heap.size + 1, 0, none⟩) (Nat.le_succ _) _).setCell (p := ⟨w.heap.size + 1, 1, none⟩) (Nat.le_succ _) _
  have hx := h'.below hbW
  have hy := h.below hbW
  have HS := Lib.hid (hsz.trans hszV)
  clear hW hsz hszV hoth h h' v0 v1 v2 v3 v4 v5 z0 z1 z2 z3 z4 z5 hbV
  have AD := Lib.hid (fun w' hx hy => subtract_c A' A n' c' n c ys xs w' hx hy (by omega) hnn (Nat.le_of_lt HLE.out))
  go_region_held3 (fun w' => w'.cell? ⟨w.heap.size, 0, none⟩ = some (.bool s') ∧ w'.cell? ⟨w.heap.size, 1, none⟩ = some (.slice A' n' c') ∧ w'.cell? ⟨w.heap.size + 1, 1, none⟩ = some (.slice A n c)) (first | (go_keep; done) | (refine ⟨cell_two (by omega) l0, cell_two (by omega) l1, cell_two (by omega) l2⟩))
    (first
      | (go_at_call 81
         refine (AD.out _ hx.drew hy.drew).mono ?_
         rintro e w1 ⟨B, d, rfl, r1, r2, r3, r4, r5⟩
         have k0 := (r4.cell (p := ⟨w.heap.size, 0, none⟩) (by have := HS.out; simp; omega)).trans c0
         have k1 := (r4.cell (p := ⟨w.heap.size, 1, none⟩) (by have := HS.out; simp; omega)).trans c1
         have k2 := (r4.cell (p := ⟨w.heap.size + 1, 1, none⟩) (by have := HS.out; simp; omega)).trans c2)
      | (go_at_call 82
         refine (number_c s' B _ d _ w1 r1 r2 r3).mono ?_
         rintro e w2 ⟨t, B2, m2, d2, k, rfl, q1, q2⟩
         have l0 := (q2.cell (p := ⟨w.heap.size, 0, none⟩) (by have := HS.out; have := r4.size; simp at this ⊢; omega)).trans k0
         have l1 := (q2.cell (p := ⟨w.heap.size, 1, none⟩) (by have := HS.out; have := r4.size; simp at this ⊢; omega)).trans k1
         have l2 := (q2.cell (p := ⟨w.heap.size + 1, 1, none⟩) (by have := HS.out; have := r4.size; simp at this ⊢; omega)).trans k2
         have l3 := (q2.cell (p := ⟨w.heap.size + 1 + 1, 0, none⟩) (by have := HS.out; have := r4.size; simp at this ⊢; omega)).trans ((r4.cell (p := ⟨w.heap.size + 1 + 1, 0, none⟩) (by have := HS.out; simp; omega)).trans c3)
         have l4 := (q2.cell (p := ⟨w.heap.size + 1 + 1, 1, none⟩) (by have := HS.out; have := r4.size; simp at this ⊢; omega)).trans ((r4.cell (p := ⟨w.heap.size + 1 + 1, 1, none⟩) (by have := HS.out; simp; omega)).trans c4)
         have g3 := (q2.frozen (p := ⟨w.heap.size + 1 + 1, 0, none⟩) (by have := HS.out; have := r4.size; simp at this ⊢; omega)).trans ((r4.frozen (p := ⟨w.heap.size + 1 + 1, 0, none⟩) (by have := HS.out; simp; omega)).trans f3)
         have g4 := (q2.frozen (p := ⟨w.heap.size + 1 + 1, 1, none⟩) (by have := HS.out; have := r4.size; simp at this ⊢; omega)).trans ((r4.frozen (p := ⟨w.heap.size + 1 + 1, 1, none⟩) (by have := HS.out; simp; omega)).trans f4)))
  go_wp2
  rw [val_words] at q1
  have hz1 := r4.size
  have hz2 := q2.size
  have hz3 := HS.out
  rw [World.size_drew] at hz1
  have hB := ((hbW.drew).trans (r4.mono (by simp; omega))).trans (q2.mono (by omega))
  refine bodyPost_ret (v := .tuple #[.agg #[.bool t, .slice B2 m2 d2], .int .i64 k]) (by simp [results, Try.results135, go_sem, l3, l4]) rfl ?_
  exact ⟨t, B2, m2, d2, k, rfl, q1.store l3 l4 _ _, below_store hB (by omega) _ _⟩
end Go.Proofs.Ytbblckaplddggaa

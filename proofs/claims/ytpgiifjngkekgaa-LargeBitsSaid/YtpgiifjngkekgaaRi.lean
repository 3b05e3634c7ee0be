import Derived.Test.YtpgiifjngkekgaaRg
import Derived.Test.YtpgiifjngkekgaaRh
namespace Go.Proofs.Ytpgiifjngkekgaa
open Go.RowKit

theorem sgn_add_same (t : Bool) (X Y : Nat) : sgn t (X + Y) = sgn t X + sgn t Y := by cases t <;> simp [sgn] <;> omega
theorem sgn_sub_diff (t u : Bool) (h : t ≠ u) (X Y : Nat) (hl : Y ≤ X) : sgn t (X - Y) = sgn t X + sgn u Y := by cases t <;> cases u <;> simp [sgn] at h ⊢ <;> omega

set_option maxHeartbeats 1000000 in
set_option maxRecDepth 100000 in
theorem refAdd_same {w : World} {z z' : Int} {t : Bool} {A A' : Option Addr} {n c n' c' : Nat} (h : Is w z t A n c) (h' : Is w z' t A' n' c') (hn : n ≤ 8796093022208) (hn' : n' ≤ 8796093022208) :
    Calls Try.prog 20 #[.agg #[.bool t, .slice A n c], .agg #[.bool t, .slice A' n' c']] w (NumI w (z + z')) := by
  have HZ := Lib.hid (show sgn t (val (words z.natAbs) + val (words z'.natAbs)) = z + z' by
    rw [sgn_add_same, h.pos_sgn, h'.pos_sgn])
  have E := Env.start w t t A A' n c n' c'
  have HE := Lib.hid E
  have HI := Lib.hid (h.below E.below)
  have HJ := Lib.hid (h'.below E.below)
  clear E h h'
  have a0 := HE.out.a0
  have a1 := HE.out.a1
  have b0 := HE.out.b0
  have b1 := HE.out.b1
  have ht : (t == t) = true := by simp
  go_enter Try.func20, Try.ntmps20
  go_wp2_with fail
  generalize ((w.alloc (.cells #[.bool t, .slice A n c] 24)).alloc (.cells #[.bool t, .slice A' n' c'] 24)).alloc (.cells #[.bool false, .slice none 0 0] 24) = W at HE HI HJ a0 a1 b0 b1 ⊢
  have E0 := Lib.hid (HE.out.next (Below.refl _ _).drew)
  obtain ⟨N, hN, HP0⟩ := plus_c A A' n c n' c' _ _ W.drew (HI.out.2.2.1.drew) (HJ.out.2.2.1.drew) (by omega) (by omega)
  have HP := Lib.hid HP0
  clear HP0
  replace a0 : W.drew.cell? ⟨w.heap.size, 0, none⟩ = some (.bool t) := a0
  go_region_held3 (fun w' => w'.cell? ⟨w.heap.size, 0, none⟩ = some (.bool t) ∧ w'.cell? ⟨w.heap.size, 1, none⟩ = some (.slice A n c) ∧ w'.cell? ⟨w.heap.size + 1, 0, none⟩ = some (.bool t) ∧ w'.cell? ⟨w.heap.size + 1, 1, none⟩ = some (.slice A' n' c')) (first | exact ⟨a0, a1, b0, b1⟩ | exact ⟨cell_two (by omega) a0, cell_two (by omega) a1, cell_two (by omega) b0, cell_two (by omega) b1⟩)
    (first
      | (go_at_call 55
         (with_reducible refine (HP.out).mono ?_)
         rintro e w1 ⟨cs, rfl, hl, hv, hk, hb⟩
         have E1 := Lib.hid (E0.out.next hb)
         have a0 := E1.out.a0
         have a1 := E1.out.a1
         have b0 := E1.out.b0
         have b1 := E1.out.b1
         have K1 := Lib.hid (And.intro hk (And.intro hl hv))
         clear hk hl hv hb)
      | (go_at_call 54
         refine (Make_i (s := t) (xs := cs) (K1.out.2.1 ▸ K1.out.1.rd) (Nat.le_refl _) (by omega) (by omega)).mono ?_
         rintro e w2 ⟨t', B, m', d', rfl, hi, hb⟩
         rw [K1.out.2.2] at hi
         have E2 := Lib.hid (E1.out.next hb)
         have a0 := E2.out.a0
         have a1 := E2.out.a1
         have b0 := E2.out.b0
         have b1 := E2.out.b1
         have HH := Lib.hid hi
         have r0 := E2.out.r0
         have r1 := E2.out.r1
         have f0 := E2.out.f0
         have f1 := E2.out.f1
         clear hb hi))
  rw [HZ.out] at HH
  have r0 := E2.out.r0
  have r1 := E2.out.r1
  have f0 := E2.out.f0
  have f1 := E2.out.f1
  go_wp2
  refine bodyPost_ret (v := .agg #[.bool t', .slice B m' d']) (by simp [results, Try.results20, go_sem, r0, r1]) rfl ?_
  exact ⟨t', B, m', d', rfl, HH.out.store r0 r1 _ _, below_store E2.out.below (by omega) _ _⟩

set_option maxHeartbeats 1000000 in
set_option maxRecDepth 100000 in
theorem refAdd_diff {w : World} {z z' : Int} {t u : Bool} {A A' : Option Addr} {n c n' c' : Nat} (h : Is w z t A n c) (h' : Is w z' u A' n' c') (htu : t ≠ u) (hn : n ≤ 8796093022208) (hn' : n' ≤ 8796093022208) :
    Calls Try.prog 20 #[.agg #[.bool t, .slice A n c], .agg #[.bool u, .slice A' n' c']] w (NumI w (z + z')) := by
  have HL := Lib.hid h.2.1
  have HM := Lib.hid h'.2.1
  have P1 := Lib.hid h.pos_sgn
  have P2 := Lib.hid h'.pos_sgn
  have HTU := Lib.hid htu
  have ht : (t == u) = false := by rw [beq_eq_false_iff_ne]; exact htu
  clear htu
  have E := Env.start w t u A A' n c n' c'
  have HE := Lib.hid E
  have HI := Lib.hid (h.below E.below)
  have HJ := Lib.hid (h'.below E.below)
  clear E h h'
  have a0 := HE.out.a0
  have a1 := HE.out.a1
  have b0 := HE.out.b0
  have b1 := HE.out.b1
  go_enter Try.func20, Try.ntmps20
  go_wp2_with fail
  generalize ((w.alloc (.cells #[.bool t, .slice A n c] 24)).alloc (.cells #[.bool u, .slice A' n' c'] 24)).alloc (.cells #[.bool false, .slice none 0 0] 24) = W at HE HI HJ a0 a1 b0 b1 ⊢
  refine (order_c A A' n c n' c' _ _ W HI.out.2.2.1 HJ.out.2.2.1 (words_canon _) (words_canon _) (by omega) (by omega)).mono ?_
  rintro e w1 ⟨rfl, j, rfl⟩
  rw [val_words, val_words]
  have E00 := HE.out.drewN j
  have I0 := HI.out.below (below_drewN (Below.refl _ _) j)
  have J0 := HJ.out.below (below_drewN (Below.refl _ _) j)
  clear HE HI HJ a0 a1 b0 b1
  generalize W.drewN j = V at E00 I0 J0 ⊢
  have HE := Lib.hid E00
  have HI := Lib.hid I0
  have HJ := Lib.hid J0
  clear E00 I0 J0
  have a0 := HE.out.a0
  have a1 := HE.out.a1
  have b0 := HE.out.b0
  have b1 := HE.out.b1
  obtain ⟨o, ho⟩ : ∃ o, o = ord (z.natAbs : Int) (z'.natAbs : Int) := ⟨_, rfl⟩
  rw [← ho]
  rcases Nat.lt_or_ge z.natAbs z'.natAbs with hlt | hge
  · have o1 : o < 0 := by rw [ho, ord_lt (by omega)]; omega
    have HZ := Lib.hid (show sgn u (val (words z'.natAbs) - val (words z.natAbs)) = z + z' by
      rw [sgn_sub_diff u t (fun e => HTU.out e.symm) _ _ (by rw [val_words, val_words]; omega), P1.out, P2.out, Int.add_comm])
    have HV := Lib.hid (show val (words z.natAbs) ≤ val (words z'.natAbs) by rw [val_words, val_words]; omega)
    have HW := Lib.hid (show n ≤ n' by rw [HL.out, HM.out]; exact words_mono (by omega))
    clear ho hlt
    go_wp2_with fail
    have E0 := Lib.hid (HE.out.next (Below.refl _ _).drew)
    have HP := Lib.hid (minus_c A' A n' c' n c _ _ V.drew (HJ.out.2.2.1.drew) (HI.out.2.2.1.drew) (by omega) HW.out HV.out)
    replace a0 : V.drew.cell? ⟨w.heap.size, 0, none⟩ = some (.bool t) := a0
    go_region_held3 (fun w' => w'.cell? ⟨w.heap.size, 0, none⟩ = some (.bool t) ∧ w'.cell? ⟨w.heap.size, 1, none⟩ = some (.slice A n c) ∧ w'.cell? ⟨w.heap.size + 1, 0, none⟩ = some (.bool u) ∧ w'.cell? ⟨w.heap.size + 1, 1, none⟩ = some (.slice A' n' c')) (first | exact ⟨a0, a1, b0, b1⟩ | exact ⟨cell_two (by omega) a0, cell_two (by omega) a1, cell_two (by omega) b0, cell_two (by omega) b1⟩)
      (first
        | (go_at_call 56
           (with_reducible refine (HP.out).mono ?_)
           rintro e w1 ⟨cs, rfl, hl, hv, hk, hb⟩
           have E1 := Lib.hid (E0.out.next hb)
           have a0 := E1.out.a0
           have a1 := E1.out.a1
           have b0 := E1.out.b0
           have b1 := E1.out.b1
           have K1 := Lib.hid (And.intro hk (And.intro hl hv))
           clear hk hl hv hb)
        | (go_at_call 54
           refine (Make_i (s := u) (xs := cs) (K1.out.2.1 ▸ K1.out.1.rd) (Nat.le_refl _) (by omega) (by omega)).mono ?_
           rintro e w2 ⟨t', B, m', d', rfl, hi, hb⟩
           rw [K1.out.2.2] at hi
           have E2 := Lib.hid (E1.out.next hb)
           have a0 := E2.out.a0
           have a1 := E2.out.a1
           have b0 := E2.out.b0
           have b1 := E2.out.b1
           have HH := Lib.hid hi
           have r0 := E2.out.r0
           have r1 := E2.out.r1
           have f0 := E2.out.f0
           have f1 := E2.out.f1
           clear hb hi))
    rw [HZ.out] at HH
    have r0 := E2.out.r0
    have r1 := E2.out.r1
    have f0 := E2.out.f0
    have f1 := E2.out.f1
    go_wp2
    refine bodyPost_ret (v := .agg #[.bool t', .slice B m' d']) (by simp [results, Try.results20, go_sem, r0, r1]) rfl ?_
    exact ⟨t', B, m', d', rfl, HH.out.store r0 r1 _ _, below_store E2.out.below (by omega) _ _⟩
  · have o1 : 0 ≤ o := by
      rcases Nat.lt_or_ge z'.natAbs z.natAbs with h1 | h1
      · rw [ho, ord_gt (by omega)]; omega
      · rw [ho, ord_eq (by omega)]; omega
    have HZ := Lib.hid (show sgn t (val (words z.natAbs) - val (words z'.natAbs)) = z + z' by
      rw [sgn_sub_diff t u HTU.out _ _ (by rw [val_words, val_words]; omega), P1.out, P2.out])
    have HV := Lib.hid (show val (words z'.natAbs) ≤ val (words z.natAbs) by rw [val_words, val_words]; omega)
    have HW := Lib.hid (show n' ≤ n by rw [HL.out, HM.out]; exact words_mono (by omega))
    clear ho hge
    go_wp2_with fail
    have E0 := Lib.hid (HE.out.next (Below.refl _ _).drew)
    have HP := Lib.hid (minus_c A A' n c n' c' _ _ V.drew (HI.out.2.2.1.drew) (HJ.out.2.2.1.drew) (by omega) HW.out HV.out)
    replace a0 : V.drew.cell? ⟨w.heap.size, 0, none⟩ = some (.bool t) := a0
    go_region_held3 (fun w' => w'.cell? ⟨w.heap.size, 0, none⟩ = some (.bool t) ∧ w'.cell? ⟨w.heap.size, 1, none⟩ = some (.slice A n c) ∧ w'.cell? ⟨w.heap.size + 1, 0, none⟩ = some (.bool u) ∧ w'.cell? ⟨w.heap.size + 1, 1, none⟩ = some (.slice A' n' c')) (first | exact ⟨a0, a1, b0, b1⟩ | exact ⟨cell_two (by omega) a0, cell_two (by omega) a1, cell_two (by omega) b0, cell_two (by omega) b1⟩)
      (first
        | (go_at_call 56
           (with_reducible refine (HP.out).mono ?_)
           rintro e w1 ⟨cs, rfl, hl, hv, hk, hb⟩
           have E1 := Lib.hid (E0.out.next hb)
           have a0 := E1.out.a0
           have a1 := E1.out.a1
           have b0 := E1.out.b0
           have b1 := E1.out.b1
           have K1 := Lib.hid (And.intro hk (And.intro hl hv))
           clear hk hl hv hb)
        | (go_at_call 54
           refine (Make_i (s := t) (xs := cs) (K1.out.2.1 ▸ K1.out.1.rd) (Nat.le_refl _) (by omega) (by omega)).mono ?_
           rintro e w2 ⟨t', B, m', d', rfl, hi, hb⟩
           rw [K1.out.2.2] at hi
           have E2 := Lib.hid (E1.out.next hb)
           have a0 := E2.out.a0
           have a1 := E2.out.a1
           have b0 := E2.out.b0
           have b1 := E2.out.b1
           have HH := Lib.hid hi
           have r0 := E2.out.r0
           have r1 := E2.out.r1
           have f0 := E2.out.f0
           have f1 := E2.out.f1
           clear hb hi))
    rw [HZ.out] at HH
    have r0 := E2.out.r0
    have r1 := E2.out.r1
    have f0 := E2.out.f0
    have f1 := E2.out.f1
    go_wp2
    refine bodyPost_ret (v := .agg #[.bool t', .slice B m' d']) (by simp [results, Try.results20, go_sem, r0, r1]) rfl ?_
    exact ⟨t', B, m', d', rfl, HH.out.store r0 r1 _ _, below_store E2.out.below (by omega) _ _⟩
end Go.Proofs.Ytpgiifjngkekgaa

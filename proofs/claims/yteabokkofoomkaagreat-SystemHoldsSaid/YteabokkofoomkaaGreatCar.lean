import Derived.Test.YteabokkofoomkaaGreatCan
import Derived.Test.YteabokkofoomkaaGreatCae
import Derived.Test.YteabokkofoomkaaGreatCag
import Derived.Test.YteabokkofoomkaaGreatCaf
import Derived.Test.YteabokkofoomkaaGreatCad
import Derived.Deep.LoopGhost
set_option maxRecDepth 100000
namespace Go.Proofs.YteabokkofoomkaaGreat
open Go.RowKit
structure MinusAt (xs ys : List Nat) (k : Nat) (cs : List Nat) (y : Nat) : Prop where
 len : cs.length = xs.length
 sm : small cs
 eq : val (cs.take k) + val (ys.take k) = val (xs.take k) + pw k * y
 le : y ≤ 1
theorem MinusAt.start (xs ys : List Nat) : MinusAt xs ys 0 (List.replicate xs.length 0) 0 :=
 ⟨by simp, fun x hx => by have := List.eq_of_mem_replicate hx; omega, by simp [val], by omega⟩
theorem MinusAt.next {xs ys cs : List Nat} {k y r d : Nat} (h : MinusAt xs ys k cs y) (hk : k < xs.length) (hr : r < 4294967296) (hd : d ≤ 1) (key : r + ys.getD k 0 + y = xs.getD k 0 + 4294967296 * d) :
 MinusAt xs ys (k + 1) (cs.set k r) d := by
 refine ⟨by simp [h.len], small_set h.sm _ _ hr, ?_, hd⟩
 rw [val_take_step, val_take_step, val_take_step]
 have e1 : (cs.set k r).take k = cs.take k := List.take_set_of_le (Nat.le_refl _)
 have e2 : (cs.set k r).getD k 0 = r := by simp [List.getD_eq_getElem?_getD, h.len, hk]
 rw [e1, e2, pw_succ]
 have e := h.eq
 obtain ⟨X, hX⟩ : ∃ X, X = xs.getD k 0 := ⟨_, rfl⟩
 obtain ⟨Y, hY⟩ : ∃ Y, Y = ys.getD k 0 := ⟨_, rfl⟩
 rw [← hX, ← hY] at key ⊢
 obtain ⟨p, hp⟩ : ∃ p, p = pw k := ⟨_, rfl⟩
 rw [← hp] at e ⊢
 have m1 : p * (r + Y + y) = p * (X + 4294967296 * d) := by rw [key]
 have m2 : p * (4294967296 * d) = 4294967296 * p * d := by rw [← Nat.mul_assoc, Nat.mul_comm p]
 rw [Nat.mul_add, Nat.mul_add, Nat.mul_add, m2] at m1
 omega
theorem MinusAt.done {xs ys cs : List Nat} {y : Nat} (h : MinusAt xs ys xs.length cs y) (hl : ys.length ≤ xs.length) (hv : val ys ≤ val xs) : val cs = val xs - val ys := by
 have e := h.eq
 rw [take_of_len (by rw [h.len]; exact Nat.le_refl _), List.take_of_length_le hl, List.take_of_length_le (Nat.le_refl _)] at e
 have h2 := val_lt h.sm
 rw [h.len] at h2
 rcases Nat.eq_zero_or_pos y with h0 | h0
 · rw [h0, Nat.mul_zero] at e; omega
 · have : pw xs.length * 1 ≤ pw xs.length * y := Nat.mul_le_mul_left _ h0
   omega
set_option maxHeartbeats 1000000 in
set_option maxRecDepth 100000 in
theorem minus_c (A B : Option Addr) (n c m d : Nat) (xs ys : List Nat) (w : World) (ha : Rd w A n xs) (hb : Rd w B m ys) (hn : n ≤ 17592186044416) (hm : m ≤ n) (hv : val ys ≤ val xs) :
 Calls Tryz.prog 107 #[.slice A n c, .slice B m d] w (Made w n (val xs - val ys)) := by
 have HX := Lib.hid ha.len
 have HY := Lib.hid hb.len
 have HV := Lib.hid hv
 have hsx := ha.sm
 have hsy := hb.sm
 clear hv
 have hmk : ∀ w : World, (Instr.makeSlice 56 (.int .i64 (n : Int)) (.int .i64 (n : Int))).run Tryz.prog w = .ok (.slice (some ⟨w.heap.size, 0, none⟩) n n) (w.alloc (row (List.replicate n 0))) := mk_words n (by omega)
 have HK := Lib.hid (Bk.new0 w n)
 have HB := Lib.hid (below_alloc w (row (List.replicate n 0)))
 go_enter Tryz.func107, Tryz.ntmps107
 go_wp2
 go_loopw [6, 7] (fun cy v wr => ∃ k y : Nat, ∃ cs, cy = .int .u64 y ∧ v = .int .i64 k ∧ k ≤ n ∧ MinusAt xs ys k cs y ∧ Bk wr w.heap.size cs ∧ Below w.heap.size w wr) (fun _ v _ => n - (intOf v).toNat)
 case atStart => exact ⟨0, 0, List.replicate n 0, rfl, rfl, Nat.zero_le _, by rw [← HX.out]; exact MinusAt.start xs ys, HK.out, HB.out⟩
 case round =>
  obtain ⟨k, y, cs, rfl, rfl, hk, hP, hK, hG⟩ := hrel
  have hle := hP.le
  by_cases hkn : k < n
  · have hfx := hK.frozen k
    have hl : cs.length = n := hP.len.trans HX.out
    have hcx := hK.cell k (by omega)
    obtain ⟨b1, o1, rfl, _, hca⟩ := (ha.below hG).of (by omega)
    have hci := hca k hkn
    have hx1 := small_get hsx k
    obtain ⟨x, hx⟩ : ∃ x, x = xs.getD k 0 := ⟨_, rfl⟩
    rw [← hx] at hci hx1
    by_cases hkm : k < m
    · obtain ⟨b2, o2, rfl, _, hcb⟩ := (hb.below hG).of (by omega)
      have hdi := hcb k hkm
      have hy1 := small_get hsy k
      obtain ⟨z, hz⟩ : ∃ z, z = ys.getD k 0 := ⟨_, rfl⟩
      rw [← hz] at hdi hy1
      obtain ⟨T, hT⟩ : ∃ T, T = x + 4294967296 - y - z := ⟨_, rfl⟩
      have hT2 : (x : Int) + 4294967296 - y - z = (T : Int) := by omega
      have hT3 : T < 8589934592 := by omega
      obtain ⟨D, hD⟩ : ∃ D, D = 1 - T / 4294967296 := ⟨_, rfl⟩
      obtain ⟨R, hR⟩ : ∃ R, R = T % 4294967296 := ⟨_, rfl⟩
      have hR2 : R < 4294967296 := by omega
      have hD2 : D ≤ 1 := by omega
      have key : R + ys.getD k 0 + y = xs.getD k 0 + 4294967296 * D := by rw [← hz, ← hx]; omega
      have hnx := hP.next (by rw [HX.out]; exact hkn) hR2 hD2 key
      have hmask : bits .and .u64 (T : Int) 4294967295 = (R : Int) := by rw [u64_mask (by omega) (by omega)]; omega
      have hdv : 1 - (T : Int) / 4294967296 = (D : Int) := by omega
      have hbn := hK.set_ k R hR2
      have hgn := hG.setCell (p := ⟨w.heap.size, k, none⟩) (Nat.le_refl _) (.int .u32 (R : Int))
      have H1 := Lib.hid hnx
      have H2 := Lib.hid hbn
      have H3 := Lib.hid hgn
      clear hnx hbn hgn hP hK hG ha hb hsx hsy hT hx hca hD hR key hz hcb
      go_wp2
      go_roundw
      case measure => simp [intOf]; omega
      case rel => exact ⟨k + 1, D, _, by go_num, by go_num, by omega, H1.out, H2.out, H3.out⟩
    · have hz : 0 = ys.getD k 0 := by rw [List.getD_eq_getElem?_getD, List.getElem?_eq_none (by rw [HY.out]; omega)]; rfl
      obtain ⟨T, hT⟩ : ∃ T, T = x + 4294967296 - y := ⟨_, rfl⟩
      have hT2 : (x : Int) + 4294967296 - y = (T : Int) := by omega
      have hT3 : T < 8589934592 := by omega
      obtain ⟨D, hD⟩ : ∃ D, D = 1 - T / 4294967296 := ⟨_, rfl⟩
      obtain ⟨R, hR⟩ : ∃ R, R = T % 4294967296 := ⟨_, rfl⟩
      have hR2 : R < 4294967296 := by omega
      have hD2 : D ≤ 1 := by omega
      have key : R + ys.getD k 0 + y = xs.getD k 0 + 4294967296 * D := by rw [← hz, ← hx]; omega
      have hnx := hP.next (by rw [HX.out]; exact hkn) hR2 hD2 key
      have hmask : bits .and .u64 (T : Int) 4294967295 = (R : Int) := by rw [u64_mask (by omega) (by omega)]; omega
      have hdv : 1 - (T : Int) / 4294967296 = (D : Int) := by omega
      have hbn := hK.set_ k R hR2
      have hgn := hG.setCell (p := ⟨w.heap.size, k, none⟩) (Nat.le_refl _) (.int .u32 (R : Int))
      have H1 := Lib.hid hnx
      have H2 := Lib.hid hbn
      have H3 := Lib.hid hgn
      clear hnx hbn hgn hP hK hG ha hb hsx hsy hT hx hca hD hR key hz
      go_wp2
      go_roundw
      case measure => simp [intOf]; omega
      case rel => exact ⟨k + 1, D, _, by go_num, by go_num, by omega, H1.out, H2.out, H3.out⟩
  · obtain rfl : k = n := by omega
    have hd := (show MinusAt xs ys xs.length cs y by rw [HX.out]; exact hP).done (by rw [HX.out, HY.out]; exact hm) HV.out
    have H := Lib.hid (show ∃ cs, cs.length = k ∧ val cs = val xs - val ys ∧ Bk wr w.heap.size cs ∧ Below w.heap.size w wr from ⟨cs, hP.len.trans HX.out, hd, hK, hG⟩)
    clear hP hK hG hd ha hb hsx hsy hle
    go_wp2
    go_ret
    obtain ⟨cs, h1, h2, h3, h4⟩ := H.out
    exact ⟨cs, rfl, h1, h2, h3, h4⟩
theorem sgn_add_same (t : Bool) (X Y : Nat) : sgn t (X + Y) = sgn t X + sgn t Y := by cases t <;> simp [sgn] <;> omega
theorem sgn_sub_diff (t u : Bool) (h : t ≠ u) (X Y : Nat) (hl : Y ≤ X) : sgn t (X - Y) = sgn t X + sgn u Y := by cases t <;> cases u <;> simp [sgn] at h ⊢ <;> omega
set_option maxHeartbeats 1000000 in
set_option maxRecDepth 100000 in
theorem refAdd_same {w : World} {z z' : Int} {t : Bool} {A A' : Option Addr} {n c n' c' : Nat} (h : Is w z t A n c) (h' : Is w z' t A' n' c') (hn : n ≤ 8796093022208) (hn' : n' ≤ 8796093022208) :
 Calls Tryz.prog 63 #[.agg #[.bool t, .slice A n c], .agg #[.bool t, .slice A' n' c']] w (NumI w (z + z')) := by
 have HZ := Lib.hid (show sgn t (val (words z.natAbs) + val (words z'.natAbs)) = z + z' by
  rw [sgn_add_same, h.pos_sgn, h'.pos_sgn])
 have E := Env.start w t t A A' n c n' c'
 have HE := Lib.hid E
 have HI := Lib.hid (h.below E.below)
 have HJ := Lib.hid (h'.below E.below)
 clear E h h'
 have a0 := HE.out.a0
 have a1 := HE.out.a1
 have b0 := HE.out.b0
 have b1 := HE.out.b1
 have ht : (t == t) = true := by simp
 go_enter Tryz.func63, Tryz.ntmps63
 go_wp2_with fail
 generalize ((w.alloc (.cells #[.bool t, .slice A n c] 58)).alloc (.cells #[.bool t, .slice A' n' c'] 58)).alloc (.cells #[.bool false, .slice none 0 0] 58) = W at HE HI HJ a0 a1 b0 b1 ⊢
 have E0 := Lib.hid (HE.out.next (Below.refl _ _).drew)
 obtain ⟨N, hN, HP0⟩ := plus_c A A' n c n' c' _ _ W.drew (HI.out.2.2.1.drew) (HJ.out.2.2.1.drew) (by omega) (by omega)
 have HP := Lib.hid HP0
 clear HP0
 replace a0 : W.drew.cell? ⟨w.heap.size, 0, none⟩ = some (.bool t) := a0
 go_region_held3 (fun w' => w'.cell? ⟨w.heap.size, 0, none⟩ = some (.bool t) ∧ w'.cell? ⟨w.heap.size, 1, none⟩ = some (.slice A n c) ∧ w'.cell? ⟨w.heap.size + 1, 0, none⟩ = some (.bool t) ∧ w'.cell? ⟨w.heap.size + 1, 1, none⟩ = some (.slice A' n' c')) (first | exact ⟨a0, a1, b0, b1⟩ | exact ⟨cell_two (by omega) a0, cell_two (by omega) a1, cell_two (by omega) b0, cell_two (by omega) b1⟩)
  (first
   | (go_at_call 105
      (with_reducible refine (HP.out).mono ?_)
      rintro e w1 ⟨cs, rfl, hl, hv, hk, hb⟩
      have E1 := Lib.hid (E0.out.next hb)
      have a0 := E1.out.a0
      have a1 := E1.out.a1
      have b0 := E1.out.b0
      have b1 := E1.out.b1
      have K1 := Lib.hid (And.intro hk (And.intro hl hv))
      clear hk hl hv hb)
   | (go_at_call 71
      refine (Make_i (s := t) (xs := cs) (K1.out.2.1 ▸ K1.out.1.rd) (Nat.le_refl _) (by omega) (by omega)).mono ?_
      rintro e w2 ⟨t', B, m', d', rfl, hi, hb⟩
      rw [K1.out.2.2] at hi
      have E2 := Lib.hid (E1.out.next hb)
      have a0 := E2.out.a0
      have a1 := E2.out.a1
      have b0 := E2.out.b0
      have b1 := E2.out.b1
      have HH := Lib.hid hi
      have r0 := E2.out.r0
      have r1 := E2.out.r1
      have f0 := E2.out.f0
      have f1 := E2.out.f1
      clear hb hi))
 rw [HZ.out] at HH
 have r0 := E2.out.r0
 have r1 := E2.out.r1
 have f0 := E2.out.f0
 have f1 := E2.out.f1
 go_wp2
 refine bodyPost_ret (v := .agg #[.bool t', .slice B m' d']) (by simp [results, Tryz.results63, go_sem, r0, r1]) rfl ?_
 exact ⟨t', B, m', d', rfl, HH.out.store r0 r1 _ _, below_store E2.out.below (by omega) _ _⟩
set_option maxHeartbeats 1000000 in
set_option maxRecDepth 100000 in
theorem refAdd_diff {w : World} {z z' : Int} {t u : Bool} {A A' : Option Addr} {n c n' c' : Nat} (h : Is w z t A n c) (h' : Is w z' u A' n' c') (htu : t ≠ u) (hn : n ≤ 8796093022208) (hn' : n' ≤ 8796093022208) :
 Calls Tryz.prog 63 #[.agg #[.bool t, .slice A n c], .agg #[.bool u, .slice A' n' c']] w (NumI w (z + z')) := by
 have HL := Lib.hid h.2.1
 have HM := Lib.hid h'.2.1
 have P1 := Lib.hid h.pos_sgn
 have P2 := Lib.hid h'.pos_sgn
 have HTU := Lib.hid htu
 have ht : (t == u) = false := by rw [beq_eq_false_iff_ne]; exact htu
 clear htu
 have E := Env.start w t u A A' n c n' c'
 have HE := Lib.hid E
 have HI := Lib.hid (h.below E.below)
 have HJ := Lib.hid (h'.below E.below)
 clear E h h'
 have a0 := HE.out.a0
 have a1 := HE.out.a1
 have b0 := HE.out.b0
 have b1 := HE.out.b1
 go_enter Tryz.func63, Tryz.ntmps63
 go_wp2_with fail
 generalize ((w.alloc (.cells #[.bool t, .slice A n c] 58)).alloc (.cells #[.bool u, .slice A' n' c'] 58)).alloc (.cells #[.bool false, .slice none 0 0] 58) = W at HE HI HJ a0 a1 b0 b1 ⊢
 refine (order_c A A' n c n' c' _ _ W HI.out.2.2.1 HJ.out.2.2.1 (words_canon _) (words_canon _) (by omega) (by omega)).mono ?_
 rintro e w1 ⟨rfl, j, rfl⟩
 rw [val_words, val_words]
 have E00 := HE.out.drewN j
 have I0 := HI.out.below (below_drewN (Below.refl _ _) j)
 have J0 := HJ.out.below (below_drewN (Below.refl _ _) j)
 clear HE HI HJ a0 a1 b0 b1
 generalize W.drewN j = V at E00 I0 J0 ⊢
 have HE := Lib.hid E00
 have HI := Lib.hid I0
 have HJ := Lib.hid J0
 clear E00 I0 J0
 have a0 := HE.out.a0
 have a1 := HE.out.a1
 have b0 := HE.out.b0
 have b1 := HE.out.b1
 obtain ⟨o, ho⟩ : ∃ o, o = ord (z.natAbs : Int) (z'.natAbs : Int) := ⟨_, rfl⟩
 rw [← ho]
 rcases Nat.lt_or_ge z.natAbs z'.natAbs with hlt | hge
 · have o1 : o < 0 := by rw [ho, ord_lt (by omega)]; omega
   have HZ := Lib.hid (show sgn u (val (words z'.natAbs) - val (words z.natAbs)) = z + z' by
    rw [sgn_sub_diff u t (fun e => HTU.out e.symm) _ _ (by rw [val_words, val_words]; omega), P1.out, P2.out, Int.add_comm])
   have HV := Lib.hid (show val (words z.natAbs) ≤ val (words z'.natAbs) by rw [val_words, val_words]; omega)
   have HW := Lib.hid (show n ≤ n' by rw [HL.out, HM.out]; exact words_mono (by omega))
   clear ho hlt
   go_wp2_with fail
   have E0 := Lib.hid (HE.out.next (Below.refl _ _).drew)
   have HP := Lib.hid (minus_c A' A n' c' n c _ _ V.drew (HJ.out.2.2.1.drew) (HI.out.2.2.1.drew) (by omega) HW.out HV.out)
   replace a0 : V.drew.cell? ⟨w.heap.size, 0, none⟩ = some (.bool t) := a0
   go_region_held3 (fun w' => w'.cell? ⟨w.heap.size, 0, none⟩ = some (.bool t) ∧ w'.cell? ⟨w.heap.size, 1, none⟩ = some (.slice A n c) ∧ w'.cell? ⟨w.heap.size + 1, 0, none⟩ = some (.bool u) ∧ w'.cell? ⟨w.heap.size + 1, 1, none⟩ = some (.slice A' n' c')) (first | exact ⟨a0, a1, b0, b1⟩ | exact ⟨cell_two (by omega) a0, cell_two (by omega) a1, cell_two (by omega) b0, cell_two (by omega) b1⟩)
    (first
     | (go_at_call 107
        (with_reducible refine (HP.out).mono ?_)
        rintro e w1 ⟨cs, rfl, hl, hv, hk, hb⟩
        have E1 := Lib.hid (E0.out.next hb)
        have a0 := E1.out.a0
        have a1 := E1.out.a1
        have b0 := E1.out.b0
        have b1 := E1.out.b1
        have K1 := Lib.hid (And.intro hk (And.intro hl hv))
        clear hk hl hv hb)
     | (go_at_call 71
        refine (Make_i (s := u) (xs := cs) (K1.out.2.1 ▸ K1.out.1.rd) (Nat.le_refl _) (by omega) (by omega)).mono ?_
        rintro e w2 ⟨t', B, m', d', rfl, hi, hb⟩
        rw [K1.out.2.2] at hi
        have E2 := Lib.hid (E1.out.next hb)
        have a0 := E2.out.a0
        have a1 := E2.out.a1
        have b0 := E2.out.b0
        have b1 := E2.out.b1
        have HH := Lib.hid hi
        have r0 := E2.out.r0
        have r1 := E2.out.r1
        have f0 := E2.out.f0
        have f1 := E2.out.f1
        clear hb hi))
   rw [HZ.out] at HH
   have r0 := E2.out.r0
   have r1 := E2.out.r1
   have f0 := E2.out.f0
   have f1 := E2.out.f1
   go_wp2
   refine bodyPost_ret (v := .agg #[.bool t', .slice B m' d']) (by simp [results, Tryz.results63, go_sem, r0, r1]) rfl ?_
   exact ⟨t', B, m', d', rfl, HH.out.store r0 r1 _ _, below_store E2.out.below (by omega) _ _⟩
 · have o1 : 0 ≤ o := by
    rcases Nat.lt_or_ge z'.natAbs z.natAbs with h1 | h1
    · rw [ho, ord_gt (by omega)]; omega
    · rw [ho, ord_eq (by omega)]; omega
   have HZ := Lib.hid (show sgn t (val (words z.natAbs) - val (words z'.natAbs)) = z + z' by
    rw [sgn_sub_diff t u HTU.out _ _ (by rw [val_words, val_words]; omega), P1.out, P2.out])
   have HV := Lib.hid (show val (words z'.natAbs) ≤ val (words z.natAbs) by rw [val_words, val_words]; omega)
   have HW := Lib.hid (show n' ≤ n by rw [HL.out, HM.out]; exact words_mono (by omega))
   clear ho hge
   go_wp2_with fail
   have E0 := Lib.hid (HE.out.next (Below.refl _ _).drew)
   have HP := Lib.hid (minus_c A A' n c n' c' _ _ V.drew (HI.out.2.2.1.drew) (HJ.out.2.2.1.drew) (by omega) HW.out HV.out)
   replace a0 : V.drew.cell? ⟨w.heap.size, 0, none⟩ = some (.bool t) := a0
   go_region_held3 (fun w' => w'.cell? ⟨w.heap.size, 0, none⟩ = some (.bool t) ∧ w'.cell? ⟨w.heap.size, 1, none⟩ = some (.slice A n c) ∧ w'.cell? ⟨w.heap.size + 1, 0, none⟩ = some (.bool u) ∧ w'.cell? ⟨w.heap.size + 1, 1, none⟩ = some (.slice A' n' c')) (first | exact ⟨a0, a1, b0, b1⟩ | exact ⟨cell_two (by omega) a0, cell_two (by omega) a1, cell_two (by omega) b0, cell_two (by omega) b1⟩)
    (first
     | (go_at_call 107
        (with_reducible refine (HP.out).mono ?_)
        rintro e w1 ⟨cs, rfl, hl, hv, hk, hb⟩
        have E1 := Lib.hid (E0.out.next hb)
        have a0 := E1.out.a0
        have a1 := E1.out.a1
        have b0 := E1.out.b0
        have b1 := E1.out.b1
        have K1 := Lib.hid (And.intro hk (And.intro hl hv))
        clear hk hl hv hb)
     | (go_at_call 71
        refine (Make_i (s := t) (xs := cs) (K1.out.2.1 ▸ K1.out.1.rd) (Nat.le_refl _) (by omega) (by omega)).mono ?_
        rintro e w2 ⟨t', B, m', d', rfl, hi, hb⟩
        rw [K1.out.2.2] at hi
        have E2 := Lib.hid (E1.out.next hb)
        have a0 := E2.out.a0
        have a1 := E2.out.a1
        have b0 := E2.out.b0
        have b1 := E2.out.b1
        have HH := Lib.hid hi
        have r0 := E2.out.r0
        have r1 := E2.out.r1
        have f0 := E2.out.f0
        have f1 := E2.out.f1
        clear hb hi))
   rw [HZ.out] at HH
   have r0 := E2.out.r0
   have r1 := E2.out.r1
   have f0 := E2.out.f0
   have f1 := E2.out.f1
   go_wp2
   refine bodyPost_ret (v := .agg #[.bool t', .slice B m' d']) (by simp [results, Tryz.results63, go_sem, r0, r1]) rfl ?_
   exact ⟨t', B, m', d', rfl, HH.out.store r0 r1 _ _, below_store E2.out.below (by omega) _ _⟩
theorem refAdd_c {w : World} {z z' : Int} {t u : Bool} {A A' : Option Addr} {n c n' c' : Nat} (h : Is w z t A n c) (h' : Is w z' u A' n' c') (hn : n ≤ 8796093022208) (hn' : n' ≤ 8796093022208) :
 Calls Tryz.prog 63 #[.agg #[.bool t, .slice A n c], .agg #[.bool u, .slice A' n' c']] w (NumI w (z + z')) := by
 by_cases e : t = u
 · subst e; exact refAdd_same h h' hn hn'
 · exact refAdd_diff h h' e hn hn'
set_option maxHeartbeats 1000000 in
set_option maxRecDepth 100000 in
theorem refSub_c {w : World} {z z' : Int} {t u : Bool} {A A' : Option Addr} {n c n' c' : Nat} (h : Is w z t A n c) (h' : Is w z' u A' n' c') (hn : n ≤ 8796093022208) (hn' : n' ≤ 8796093022208) :
 Calls Tryz.prog 88 #[.agg #[.bool t, .slice A n c], .agg #[.bool u, .slice A' n' c']] w (NumI w (z - z')) := by
 have HM := Lib.hid (show (words (-z').natAbs).length ≤ 8796093022208 by rw [Int.natAbs_neg, ← h'.2.1]; exact hn')
 have E := Env.start w t u A A' n c n' c'
 have HE := Lib.hid E
 have HI := Lib.hid (h.below E.below)
 have HJ := Lib.hid (h'.below E.below)
 clear E h h'
 have a0 := HE.out.a0
 have a1 := HE.out.a1
 have b0 := HE.out.b0
 have b1 := HE.out.b1
 go_enter Tryz.func88, Tryz.ntmps88
 go_wp2_with fail
 generalize ((w.alloc (.cells #[.bool t, .slice A n c] 58)).alloc (.cells #[.bool u, .slice A' n' c'] 58)).alloc (.cells #[.bool false, .slice none 0 0] 58) = W at HE HI HJ a0 a1 b0 b1 ⊢
 have E0 := Lib.hid (HE.out.next (Below.refl _ _).drew)
 have I0 := Lib.hid (HI.out.below (Below.refl _ _).drew)
 have J0 := Lib.hid (HJ.out.below (Below.refl _ _).drew)
 go_region_held3 (fun w' => w'.cell? ⟨w.heap.size, 0, none⟩ = some (.bool t) ∧ w'.cell? ⟨w.heap.size, 1, none⟩ = some (.slice A n c) ∧ w'.cell? ⟨w.heap.size + 1, 0, none⟩ = some (.bool u) ∧ w'.cell? ⟨w.heap.size + 1, 1, none⟩ = some (.slice A' n' c')) (first | exact ⟨a0, a1, b0, b1⟩ | exact ⟨cell_two (by omega) a0, cell_two (by omega) a1, cell_two (by omega) b0, cell_two (by omega) b1⟩)
  (first
   | (go_at_call 123
      refine (refNeg_c J0.out (by omega)).mono ?_
      rintro e w1 ⟨t1, B1, m1, d1, rfl, hi, hb⟩
      have E1 := Lib.hid (E0.out.next hb)
      have I1 := Lib.hid (I0.out.below hb)
      have a0 := E1.out.a0
      have a1 := E1.out.a1
      have b0 := E1.out.b0
      have b1 := E1.out.b1
      have N1 := Lib.hid hi
      have hm1 : m1 ≤ 8796093022208 := by rw [hi.2.1]; exact HM.out
      clear hi hb)
   | (go_at_call 63
      refine (refAdd_c I1.out N1.out hn hm1).mono ?_
      rintro e w2 ⟨t', B, m', d', rfl, hi, hb⟩
      have E2 := Lib.hid (E1.out.next hb)
      have a0 := E2.out.a0
      have a1 := E2.out.a1
      have b0 := E2.out.b0
      have b1 := E2.out.b1
      have HH := Lib.hid hi
      have r0 := E2.out.r0
      have r1 := E2.out.r1
      have f0 := E2.out.f0
      have f1 := E2.out.f1
      clear hb hi))
 rw [← Int.sub_eq_add_neg] at HH
 go_wp2
 refine bodyPost_ret (v := .agg #[.bool t', .slice B m' d']) (by simp [results, Tryz.results88, go_sem, r0, r1]) rfl ?_
 exact ⟨t', B, m', d', rfl, HH.out.store r0 r1 _ _, below_store E2.out.below (by omega) _ _⟩
set_option maxHeartbeats 1000000 in
set_option maxRecDepth 100000 in
theorem refMul_c {w : World} {z z' : Int} {t u : Bool} {A A' : Option Addr} {n c n' c' : Nat} (h : Is w z t A n c) (h' : Is w z' u A' n' c') (hn : n ≤ 8796093022208) (hn' : n' ≤ 8796093022208) :
 Calls Tryz.prog 62 #[.agg #[.bool t, .slice A n c], .agg #[.bool u, .slice A' n' c']] w (NumI w (z * z')) := by
 have hmk : ∀ w : World, (Instr.makeSlice 56 (.int .i64 ((n : Int) + n')) (.int .i64 ((n : Int) + n'))).run Tryz.prog w = .ok (.slice (some ⟨w.heap.size, 0, none⟩) (n + n') (n + n')) (w.alloc (row (List.replicate (n + n') 0))) := mk_words (n + n') (by omega)
 have E := Env.start w t u A A' n c n' c'
 have HE := Lib.hid E
 have HI := Lib.hid (h.below E.below)
 have HJ := Lib.hid (h'.below E.below)
 clear E h h'
 have a0 := HE.out.a0
 have a1 := HE.out.a1
 have b0 := HE.out.b0
 have b1 := HE.out.b1
 go_enter Tryz.func62, Tryz.ntmps62
 go_wp2
 have hsz : ((((w.alloc (.cells #[.bool t, .slice A n c] 58)).alloc (.cells #[.bool u, .slice A' n' c'] 58)).alloc (.cells #[.bool false, .slice none 0 0] 58))).heap.size = w.heap.size + 1 + 1 + 1 := by simp
 generalize ((w.alloc (.cells #[.bool t, .slice A n c] 58)).alloc (.cells #[.bool u, .slice A' n' c'] 58)).alloc (.cells #[.bool false, .slice none 0 0] 58) = W at HE HI HJ hsz ⊢
 clear a0 a1 b0 b1
 obtain ⟨xs, hxs⟩ : ∃ xs, xs = words z.natAbs := ⟨_, rfl⟩
 obtain ⟨ys, hys⟩ : ∃ ys, ys = words z'.natAbs := ⟨_, rfl⟩
 have ra := HI.out.2.2.1
 have rb := HJ.out.2.2.1
 rw [← hxs] at ra
 rw [← hys] at rb
 have HZ := Lib.hid (show sgn (t != u) (val ys * val xs) = z * z' by rw [Nat.mul_comm, sgn_mul, hxs, hys, HI.out.pos_sgn, HJ.out.pos_sgn])
 clear hxs hys
 have HX := Lib.hid ra.len
 have HY := Lib.hid rb.len
 have RA := Lib.hid ra
 have RB := Lib.hid rb
 have hsx := ra.sm
 have hsy := rb.sm
 have K0 := Bk.new0 W (n + n')
 rw [hsz] at K0
 have HK := Lib.hid K0
 have HB := Lib.hid (below_alloc W (row (List.replicate (n + n') 0)))
 clear ra rb K0 HI HJ
 generalize W.alloc (row (List.replicate (n + n') 0)) = V at HK HB ⊢
 go_loopw [6] (fun v wr => ∃ i : Nat, ∃ cs, v = .int .i64 i ∧ i ≤ n ∧ RowAt ys xs i 0 cs 0 ∧ Bk wr (w.heap.size + 1 + 1 + 1) cs ∧ Below W.heap.size W wr) (fun v _ => n - (intOf v).toNat)
 case atStart => exact ⟨0, _, rfl, Nat.zero_le _, RowAt.start ys xs, by rw [HX.out, HY.out, Nat.add_comm n' n]; exact HK.out, HB.out⟩
 case round =>
  obtain ⟨i, cs, rfl, hi, hR, hK, hG⟩ := hrel
  have EN := Lib.hid (HE.out.next hG)
  have a1 := EN.out.a1
  have b1 := EN.out.b1
  by_cases hin : i < n
  · have H0 := Lib.hid hR
    have H1 := Lib.hid hK
    have H2 := Lib.hid hG
    clear hR hK hG
    go_wp2
    obtain ⟨wo, hwo⟩ : ∃ wo : World, wo = wr := ⟨_, rfl⟩
    rw [← hwo]
    rw [← hwo] at H1 H2
    clear hwo a1 b1 EN
    go_loopw [7, 8] (fun cy v wr => ∃ j y' : Nat, ∃ cs', cy = .int .u64 y' ∧ v = .int .i64 j ∧ j ≤ n' ∧ y' < 4294967296 ∧ RowAt ys xs i j cs' y' ∧ Bk wr (w.heap.size + 1 + 1 + 1) cs' ∧ Below W.heap.size W wr) (fun _ v _ => n' - (intOf v).toNat)
    case atStart => exact ⟨0, 0, cs, rfl, rfl, Nat.zero_le _, by omega, H0.out, H1.out, H2.out⟩
    case round =>
     obtain ⟨j, y', cs', rfl, rfl, hj, hy', hR, hK, hG⟩ := hrel
     have EN := Lib.hid (HE.out.next hG)
     have a1 := EN.out.a1
     have b1 := EN.out.b1
     have hl : cs'.length = n' + n := by rw [hR.len, HX.out, HY.out]
     by_cases hjn : j < n'
     · obtain ⟨p1, q1, hAe, _, hca⟩ := (RA.out.below hG).of (by omega)
       obtain ⟨p2, q2, hBe, _, hcb⟩ := (RB.out.below hG).of (by omega)
       subst hAe hBe
       have hci := hca i hin
       have hcj := hcb j hjn
       have hcx := hK.cell (i + j) (by omega)
       have hfx := hK.frozen (i + j)
       have hx1 := small_get hsx i
       have hy1 := small_get hsy j
       have hr1 := small_get hK.1 (i + j)
       have hnx := hR.next hsy hsx (by rw [HY.out]; exact hjn) (by rw [HX.out]; exact hin)
       obtain ⟨x, hx2⟩ : ∃ x, x = xs.getD i 0 := ⟨_, rfl⟩
       obtain ⟨y, hy2⟩ : ∃ y, y = ys.getD j 0 := ⟨_, rfl⟩
       obtain ⟨r, hr2⟩ : ∃ r, r = cs'.getD (i + j) 0 := ⟨_, rfl⟩
       rw [← hx2] at hci hx1 hnx
       rw [← hy2] at hcj hy1 hnx
       rw [← hr2] at hcx hr1 hnx
       have hml := mul_word_le hx1 hy1
       have hmul : ((x : Int) * (y : Int)) = ((x * y : Nat) : Int) := by simp
       obtain ⟨P, hP⟩ : ∃ P, P = x * y := ⟨_, rfl⟩
       rw [← hP] at hml hmul hnx
       obtain ⟨T, hT⟩ : ∃ T, T = P + r + y' := ⟨_, rfl⟩
       rw [← hT] at hnx
       obtain ⟨D, hD⟩ : ∃ D, D = T / 4294967296 := ⟨_, rfl⟩
       obtain ⟨R, hR0⟩ : ∃ R, R = T % 4294967296 := ⟨_, rfl⟩
       rw [← hD, ← hR0] at hnx
       have hR2 : R < 4294967296 := by omega
       have hD2 : D < 4294967296 := by omega
       have hTB : T < 18446744073709551616 := by omega
       have hT2 : (y' : Int) + ((P : Int) + (r : Int)) = (T : Int) := by omega
       have hmask : bits .and .u64 (T : Int) 4294967295 = (R : Int) := by rw [u64_mask (by omega) (by omega)]; omega
       have hdv : (T : Int) / 4294967296 = (D : Int) := by omega
       have G1 := Lib.hid hnx
       have G2 := Lib.hid hK
       have G3 := Lib.hid hG
       clear hT hP hx2 hy2 hr2 hnx hca hcb hR hK hG hl hsx hsy hD hR0
       go_wp2
       go_quiet (fail)
       have K2 := G2.out.drewN nq
       have B2 := below_drewN G3.out nq
       have hlc := G1.out.len
       rw [List.length_set, HX.out, HY.out] at hlc
       have hcx := K2.cell (i + j) (by omega)
       have hfx := K2.frozen (i + j)
       have hbn := K2.set_ (i + j) R hR2
       have hgn := B2.setCell (p := ⟨w.heap.size + 1 + 1 + 1, i + j, none⟩) (Nat.le_of_eq hsz) (.int .u32 (R : Int))
       generalize wr.drewN nq = v2 at hcx hfx hbn hgn ⊢
       have G4 := Lib.hid hbn
       have G5 := Lib.hid hgn
       clear K2 B2 hbn hgn hlc G2 G3 a1 b1
       go_wp2
       go_roundw
       case measure => simp [intOf]; omega
       case rel => exact ⟨j + 1, D, _, by go_num, by go_num, by omega, hD2, G1.out, G4.out, G5.out⟩
     · obtain rfl : j = n' := by omega
       have hcx := hK.cell (i + j) (by omega)
       have hfx := hK.frozen (i + j)
       have hbn := hK.set_ (i + j) y' hy'
       have hgn := hG.setCell (p := ⟨w.heap.size + 1 + 1 + 1, i + j, none⟩) (Nat.le_of_eq hsz) (.int .u32 (y' : Int))
       have hrn := (show RowAt ys xs i ys.length cs' y' by rw [HY.out]; exact hR).row (by rw [HX.out]; exact hin)
       rw [HY.out] at hrn
       have G1 := Lib.hid hrn
       have G2 := Lib.hid hbn
       have G3 := Lib.hid hgn
       clear hrn hbn hgn hR hK hG hl hsx hsy
       go_wp2
       go_roundw
       case measure => simp [intOf]; omega
       case rel => exact ⟨i + 1, _, by go_num, by omega, G1.out, G2.out, G3.out⟩
  · have hd := hR.done (by rw [HX.out]; omega)
    have hl : cs.length = n + n' := by rw [hR.len, HX.out, HY.out, Nat.add_comm]
    have RK := Lib.hid (show Rd wr (some ⟨w.heap.size + 1 + 1 + 1, 0, none⟩) (n + n') cs by rw [← hl]; exact hK.rd)
    have HD := Lib.hid hd
    have a0 := EN.out.a0
    have b0 := EN.out.b0
    have E1 := EN
    clear hd hl hR hK hG hsx hsy
    go_wp2_with fail
    refine (Make_i (s := t != u) (xs := cs) RK.out (Nat.le_refl _) (by omega) (by omega)).mono ?_
    rintro e w2 ⟨t', B, m', d', rfl, hi2, hb⟩
    rw [HD.out, HZ.out] at hi2
    have E2 := Lib.hid (E1.out.next hb)
    have HH := Lib.hid hi2
    have r0 := E2.out.r0
    have r1 := E2.out.r1
    have f0 := E2.out.f0
    have f1 := E2.out.f1
    clear hb hi2 a0 a1 b0 b1
    go_wp2
    refine bodyPost_ret (v := .agg #[.bool t', .slice B m' d']) (by simp [results, Tryz.results62, go_sem, r0, r1]) rfl ?_
    exact ⟨t', B, m', d', rfl, HH.out.store r0 r1 _ _, below_store E2.out.below (by omega) _ _⟩
theorem mod_and (a b : Nat) : (a &&& b) % 4294967296 = a % 4294967296 &&& b % 4294967296 := by
 have h := @Nat.and_mod_two_pow a b 32
 simpa using h
theorem div_and (a b : Nat) : (a &&& b) / 4294967296 = a / 4294967296 &&& b / 4294967296 := by
 have h := @Nat.shiftRight_and_distrib 32 a b
 simpa [Nat.shiftRight_eq_div_pow] using h
theorem and_split (x y X Y : Nat) (hx : x < 4294967296) (hy : y < 4294967296) : (x + 4294967296 * X) &&& (y + 4294967296 * Y) = (x &&& y) + 4294967296 * (X &&& Y) := by
 have h1 := mod_and (x + 4294967296 * X) (y + 4294967296 * Y)
 have h2 := div_and (x + 4294967296 * X) (y + 4294967296 * Y)
 rw [show (x + 4294967296 * X) % 4294967296 = x by omega, show (y + 4294967296 * Y) % 4294967296 = y by omega] at h1
 rw [show (x + 4294967296 * X) / 4294967296 = X by omega, show (y + 4294967296 * Y) / 4294967296 = Y by omega] at h2
 omega
theorem not_under (x y : Nat) (hy : y < 4294967296) : x < 4294967296 → (x &&& (4294967295 - y) = 0 ↔ x &&& y = x) := by
 intro hx
 have hb : ∀ i, (4294967295 - y).testBit i = (decide (i < 32) && !y.testBit i) := fun i => by
  have := @Nat.testBit_two_pow_sub_succ y 32 (by simpa using hy) i
  simpa using this
 have hxi : ∀ i, x.testBit i = true → i < 32 := fun i h => by
  rcases Nat.lt_or_ge i 32 with h1 | h1
  · exact h1
  · have := Nat.testBit_lt_two_pow (x := x) (i := i) (Nat.lt_of_lt_of_le hx (by
     have := Nat.pow_le_pow_right (n := 2) (by omega) h1
     simpa using this))
    rw [this] at h
    cases h
 constructor
 · intro h
   apply Nat.eq_of_testBit_eq
   intro i
   rw [Nat.testBit_and]
   have hi := congrArg (fun z : Nat => z.testBit i) h
   simp only [Nat.testBit_and, hb, Nat.zero_testBit] at hi
   cases hxb : x.testBit i with
   | false => rfl
   | true =>
     have := hxi i hxb
     rw [hxb] at hi
     simpa [this] using hi
 · intro h
   apply Nat.eq_of_testBit_eq
   intro i
   rw [Nat.testBit_and, hb, Nat.zero_testBit]
   have hi := congrArg (fun z : Nat => z.testBit i) h
   simp only [Nat.testBit_and] at hi
   cases hxb : x.testBit i with
   | false => rfl
   | true =>
     rw [hxb] at hi
     have hyb : y.testBit i = true := by simpa using hi
     simp [hyb]
theorem under_iff {xs ys : List Nat} (hx : small xs) (hy : small ys) : (∀ j, j < xs.length → xs.getD j 0 &&& ys.getD j 0 = xs.getD j 0) ↔ val xs &&& val ys = val xs := by
 induction xs generalizing ys with
 | nil => simp [val]
 | cons x xs ih =>
   obtain ⟨h1, h2⟩ := small_cons.1 hx
   obtain ⟨y, ys', hys, hyl, hysm⟩ : ∃ y ys', (∀ j, ys.getD j 0 = (y :: ys').getD j 0) ∧ val ys = val (y :: ys') ∧ small (y :: ys') := by
    cases ys with
    | nil => exact ⟨0, [], fun j => by cases j <;> simp, by simp [val], small_cons.2 ⟨by omega, small_nil⟩⟩
    | cons y ys => exact ⟨y, ys, fun _ => rfl, rfl, hy⟩
   obtain ⟨h3, h4⟩ := small_cons.1 hysm
   rw [hyl, val_cons, val_cons, and_split x y _ _ h1 h3]
   have ih' := ih h2 h4
   constructor
   · intro h
     have a := h 0 (by simp)
     rw [hys] at a
     simp only [List.getD_cons_zero] at a
     have b := ih'.1 (fun j hj => by
      have := h (j + 1) (by simpa using hj)
      rw [hys] at this
      simpa using this)
     rw [a, b]
   · intro h
     have hle : x &&& y ≤ x := Nat.and_le_left
     have hlt : x &&& y < 4294967296 := by omega
     have a : x &&& y = x := by omega
     have b : val xs &&& val ys' = val xs := by omega
     intro j hj
     rw [hys]
     cases j with
     | zero => simpa using a
     | succ j => simpa using ih'.2 b j (by simpa using hj)
theorem under_len {xs ys : List Nat} (cx : canon xs) (cy : canon ys) (h : ys.length < xs.length) : ¬ val xs &&& val ys = val xs := by
 intro e
 have h1 := cmp_len cy.1 cx h
 have h2 : val xs &&& val ys ≤ val ys := Nat.and_le_right
 omega
set_option maxHeartbeats 1000000 in
set_option maxRecDepth 100000 in
theorem Under_ok (A A' : Option Addr) (n c n' c' : Nat) (xs ys : List Nat) (w : World) (h : Rd w A n xs) (h' : Rd w A' n' ys) (vx : validB false xs = true) (vy : validB false ys = true) :
 Calls Tryz.prog 80 #[.agg #[.bool false, .slice A n c], .agg #[.bool false, .slice A' n' c']] w (fun e w' => e = .returned (.tuple #[.bool (decide (val xs &&& val ys = val xs)), .int .i64 0]) ∧ Below w.heap.size w w') := by
 have VX := Lib.hid (valid_canon h.sm vx)
 have VY := Lib.hid (valid_canon h'.sm vy)
 have HV := Lib.hid (show (validB false xs && validB false ys) = true by rw [vx, vy]; rfl)
 have hn := VX.out.2.1
 have hn' := VY.out.2.1
 rw [h.len] at hn
 rw [h'.len] at hn'
 have HX := Lib.hid h.len
 have HY := Lib.hid h'.len
 have hsx := h.sm
 have hsy := h'.sm
 have HU := Lib.hid (under_iff hsx hsy)
 have HW := Lib.hid (under_len VX.out.1 VY.out.1)
 clear vx vy
 go_enter Tryz.func80, Tryz.ntmps80
 go_wp2_with fail
 have E := (Env2.start w false false A A' n c n' c').alloc (.cells #[.bool false, .slice A n c, .bool false, .slice A' n' c'] 58)
 refine (allValid_c (w.heap.size + 1 + 1) false false A A' n c n' c' xs ys _ (h.below E.below) (h'.below E.below) (by simp) (by go_simp) (by go_simp) (by go_simp) (by go_simp)).mono ?_
 rintro e w1 ⟨rfl, hb⟩
 rw [HV.out]
 have E1 := Lib.hid (E.next hb)
 clear E hb
 have a0 := E1.out.a0
 have a1 := E1.out.a1
 have b0 := E1.out.b0
 have b1 := E1.out.b1
 by_cases hnn : n' < n
 · have HF := Lib.hid (HW.out (by rw [HX.out, HY.out]; exact hnn))
   clear hsx hsy
   go_wp2
   go_ret2
   exact ⟨by rw [decide_eq_false HF.out]; rfl, E1.out.below⟩
 · have hcell : 0 < n → ∃ b o, A = some ⟨b, o, none⟩ ∧ b < w1.heap.size ∧ ∀ k, k < n → w1.cell? ⟨b, o + k, none⟩ = some (.int .u32 ((xs.getD k 0 : Nat) : Int)) := (h.below E1.out.below).at_
   have hcell' : 0 < n' → ∃ b o, A' = some ⟨b, o, none⟩ ∧ b < w1.heap.size ∧ ∀ k, k < n' → w1.cell? ⟨b, o + k, none⟩ = some (.int .u32 ((ys.getD k 0 : Nat) : Int)) := (h'.below E1.out.below).at_
   have CA := Lib.hid hcell
   have CB := Lib.hid hcell'
   clear hcell hcell' h h'
   go_wp2
   go_loop [29] (fun v => ∃ i : Nat, v = .int .i64 i ∧ i ≤ n ∧ ∀ j, j < i → xs.getD j 0 &&& ys.getD j 0 = xs.getD j 0) (fun v => n - (intOf v).toNat)
   case atStart => exact ⟨0, rfl, Nat.zero_le _, fun j hj => by omega⟩
   case round =>
    obtain ⟨i, rfl, hi, hall⟩ := hrel
    have HA := Lib.hid hall
    clear hall
    by_cases hin : i < n
    · obtain ⟨b, o, rfl, _, hca⟩ := CA.out (by omega)
      obtain ⟨b', o', rfl, _, hcb⟩ := CB.out (by omega)
      have hci := hca i hin
      have hdi := hcb i (by omega)
      have hx1 := small_get hsx i
      have hy1 := small_get hsy i
      have NU := Lib.hid (not_under _ _ hy1 hx1)
      obtain ⟨x, hx2⟩ : ∃ x, x = xs.getD i 0 := ⟨_, rfl⟩
      obtain ⟨y, hy2⟩ : ∃ y, y = ys.getD i 0 := ⟨_, rfl⟩
      have HX2 := Lib.hid hx2
      have HY2 := Lib.hid hy2
      rw [← hx2, ← hy2] at NU
      rw [← hx2] at hci hx1
      rw [← hy2] at hdi hy1
      have han := u32_andNot_nat x y hx1 hy1
      obtain ⟨z, hz⟩ : ∃ z, z = x &&& (4294967295 - y) := ⟨_, rfl⟩
      rw [← hz] at han NU
      clear hx2 hy2 hca hcb hsx hsy hz
      by_cases hz0 : z = 0
      · have t : ((z : Int) != 0) = false := by rw [hz0]; rfl
        have HN := Lib.hid (NU.out.1 hz0)
        clear hz0
        go_wp2
        go_round
        case measure => simp [intOf]; omega
        case rel => exact ⟨i + 1, by go_num, by omega, fun j hj => by
         by_cases hji : j = i
         · subst hji; rw [← HX2.out, ← HY2.out]; exact HN.out
         · exact HA.out j (by omega)⟩
      · have t : ((z : Int) != 0) = true := by rw [bne_iff_ne]; omega
        have HF := Lib.hid (show ¬ val xs &&& val ys = val xs from fun e => hz0 (NU.out.2 (by
         have := HU.out.2 e i (by rw [HX.out]; exact hin)
         rw [HX2.out, HY2.out]; exact this)))
        clear hz0
        go_wp2
        go_ret2
        exact ⟨by rw [decide_eq_false HF.out]; rfl, E1.out.below⟩
    · have HF := Lib.hid (HU.out.1 (fun j hj => HA.out j (by rw [HX.out] at hj; omega)))
      go_wp2
      go_ret2
      exact ⟨by rw [decide_eq_true HF.out]; rfl, E1.out.below⟩
structure Env1 (w W : World) (s : Bool) (A : Option Addr) (n c : Nat) : Prop where
 size : w.heap.size + 2 ≤ W.heap.size
 a0 : W.cell? ⟨w.heap.size, 0, none⟩ = some (.bool s)
 a1 : W.cell? ⟨w.heap.size, 1, none⟩ = some (.slice A n c)
 r0 : W.cell? ⟨w.heap.size + 1, 0, none⟩ = some (.bool false)
 r1 : W.cell? ⟨w.heap.size + 1, 1, none⟩ = some (.slice none 0 0)
 f0 : W.frozen? ⟨w.heap.size + 1, 0, none⟩ = false
 f1 : W.frozen? ⟨w.heap.size + 1, 1, none⟩ = false
 below : Below w.heap.size w W
theorem Env1.start (w : World) (s : Bool) (A : Option Addr) (n c : Nat) :
 Env1 w ((w.alloc (.cells #[.bool s, .slice A n c] 58)).alloc (.cells #[.bool false, .slice none 0 0] 58)) s A n c :=
 ⟨by simp, by go_simp, by go_simp, by go_simp, by go_simp, by go_simp, by go_simp, (((Below.refl _ _).alloc (Nat.le_refl _) _).alloc (by simp) _)⟩
theorem Env1.next {w W w1 : World} {s : Bool} {A : Option Addr} {n c : Nat} (h : Env1 w W s A n c) (hb : Below W.heap.size W w1) : Env1 w w1 s A n c := by
 have hz := h.size
 have hz1 := hb.size
 exact ⟨by omega, (hb.cell (p := ⟨w.heap.size, 0, none⟩) (by simp; omega)).trans h.a0, (hb.cell (p := ⟨w.heap.size, 1, none⟩) (by simp; omega)).trans h.a1,
  (hb.cell (p := ⟨w.heap.size + 1, 0, none⟩) (by simp; omega)).trans h.r0, (hb.cell (p := ⟨w.heap.size + 1, 1, none⟩) (by simp; omega)).trans h.r1,
  (hb.frozen (p := ⟨w.heap.size + 1, 0, none⟩) (by simp; omega)).trans h.f0, (hb.frozen (p := ⟨w.heap.size + 1, 1, none⟩) (by simp; omega)).trans h.f1,
  h.below.trans (hb.mono (by omega))⟩
theorem Env1.alloc {w W : World} {s : Bool} {A : Option Addr} {n c : Nat} (h : Env1 w W s A n c) (o : Obj) : Env1 w (W.alloc o) s A n c := h.next ((Below.refl _ _).alloc (Nat.le_refl _) o)
theorem Env1.drewN {w W : World} {s : Bool} {A : Option Addr} {n c : Nat} (h : Env1 w W s A n c) (k : Nat) : Env1 w (W.drewN k) s A n c := h.next (below_drewN (Below.refl _ _) k)
set_option maxHeartbeats 400000 in
theorem fits_c (s : Bool) (A : Option Addr) (n c : Nat) (w : World) : Calls Tryz.prog 65 #[.agg #[.bool s, .slice A n c]] w fun e w' => e = .returned (.bool (decide (n ≤ 4096))) ∧ Below w.heap.size w w' := by
 by_cases h : n ≤ 4096
 · have H := Lib.hid (show decide (n ≤ 4096) = true from decide_eq_true h)
   go_enter Tryz.func65, Tryz.ntmps65
   go_wp2
   go_ret
   exact ⟨by rw [H.out]; simp; omega, below_alloc _ _⟩
 · have H := Lib.hid (show decide (n ≤ 4096) = false from decide_eq_false h)
   go_enter Tryz.func65, Tryz.ntmps65
   go_wp2
   go_ret
   exact ⟨by rw [H.out]; simp; omega, below_alloc _ _⟩
end Go.Proofs.YteabokkofoomkaaGreat

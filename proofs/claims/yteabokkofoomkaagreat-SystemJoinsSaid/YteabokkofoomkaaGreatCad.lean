import Derived.Test.YteabokkofoomkaaGreatCac
import Derived.Deep.RegionHeld3
namespace Go.Proofs.YteabokkofoomkaaGreat
open Go.RowKit
theorem make_env (w : World) (t : Bool) (w2 : World)
 (h : Below ((w.alloc (.cells #[.bool false, .slice none 0 0] 58)).alloc (.cells #[.bool t, .slice none 0 0] 58)).drew.heap.size ((w.alloc (.cells #[.bool false, .slice none 0 0] 58)).alloc (.cells #[.bool t, .slice none 0 0] 58)).drew w2) :
 (w2.cell? ⟨w.heap.size, 0, none⟩ = some (.bool false) ∧ w2.cell? ⟨w.heap.size, 1, none⟩ = some (.slice none 0 0) ∧ w2.cell? ⟨w.heap.size + 1, 0, none⟩ = some (.bool t) ∧ w2.cell? ⟨w.heap.size + 1, 1, none⟩ = some (.slice none 0 0)) ∧
 (w2.frozen? ⟨w.heap.size, 0, none⟩ = false ∧ w2.frozen? ⟨w.heap.size, 1, none⟩ = false ∧ w2.frozen? ⟨w.heap.size + 1, 1, none⟩ = false) ∧ Below w.heap.size w w2 := by
 refine ⟨⟨(h.cell (p := ⟨w.heap.size, 0, none⟩) (by simp; omega)).trans (by go_simp), (h.cell (p := ⟨w.heap.size, 1, none⟩) (by simp; omega)).trans (by go_simp), (h.cell (p := ⟨w.heap.size + 1, 0, none⟩) (by simp)).trans (by go_simp), (h.cell (p := ⟨w.heap.size + 1, 1, none⟩) (by simp)).trans (by go_simp)⟩,
  ⟨(h.frozen (p := ⟨w.heap.size, 0, none⟩) (by simp; omega)).trans (by go_simp), (h.frozen (p := ⟨w.heap.size, 1, none⟩) (by simp; omega)).trans (by go_simp), (h.frozen (p := ⟨w.heap.size + 1, 1, none⟩) (by simp)).trans (by go_simp)⟩, ?_⟩
 exact ((((Below.refl _ _).alloc (Nat.le_refl _) _).alloc (by simp) _).drew).trans (h.mono (by simp; omega))
theorem make_done {w w2 : World} {s t t2 : Bool} {v k c2 : Nat} {A2 : Option Addr} (hm : (words v).length = k) (g1 : Rd w2 A2 k (words v)) (g2 : k ≤ c2) (g3 : c2 ≤ 9223372036854775807) (ht : decide (sgn s v < 0) = t) (kb : Below w.heap.size w w2)
 (k0 : w2.cell? ⟨w.heap.size, 0, none⟩ = some (.bool t2)) (k1 : w2.cell? ⟨w.heap.size, 1, none⟩ = some (.slice none 0 0)) (k3 : w2.cell? ⟨w.heap.size + 1, 1, none⟩ = some (.slice none 0 0)) (u x y : Value) :
 One w (sgn s v) (.returned (.agg #[.bool t, .slice A2 k c2])) (((w2.setCell ⟨w.heap.size + 1, 1, none⟩ u).setCell ⟨w.heap.size, 0, none⟩ x).setCell ⟨w.heap.size, 1, none⟩ y) := by
 subst hm ht
 refine ⟨A2, c2, by rw [sgn_abs], by rw [sgn_abs]; exact (g1.set_other k3 (fun _ e => by cases e) u).store (x := t2) (a := none) (i := 0) (j := 0) ((World.cell?_setCell_other _ _ _ _ (fun e => by injection e with e1; omega)).trans k0) ((World.cell?_setCell_other _ _ _ _ (fun e => by injection e with e1; omega)).trans k1) _ _, by rw [sgn_abs]; exact g2, g3, below_store (kb.setCell (p := ⟨w.heap.size + 1, 1, none⟩) (Nat.le_succ _) u) (Nat.le_refl _) _ _⟩
set_option maxHeartbeats 400000 in
theorem Make_c (s : Bool) (A : Option Addr) (n c : Nat) (xs : List Nat) (w : World) (h : Rd w A n xs) (hc : n ≤ c) (hc2 : c ≤ 9223372036854775807) (hn : n ≤ 35184372088832) :
 Calls Tryz.prog 71 #[.bool s, .slice A n c] w (One w (sgn s (val xs))) := by
 have hlen := h.len
 have hs := h.sm
 have HL := Lib.hid hlen
 have hcell : 0 < n → ∃ b o, A = some ⟨b, o, none⟩ ∧ b < w.heap.size ∧ ∀ k, k < n → w.cell? ⟨b, o + k, none⟩ = some (.int .u32 ((xs.getD k 0 : Nat) : Int)) := h.at_
 have HC := Lib.hid hcell
 have HR := Lib.hid h
 clear hlen hcell h
 go_enter Tryz.func71, Tryz.ntmps71
 go_wp2
 go_loop [5] (fun v => ∃ k : Nat, k ≤ n ∧ v = .int .i64 k ∧ val (xs.drop k) = 0) (fun v => (intOf v).toNat)
 case atStart => exact ⟨n, Nat.le_refl _, rfl, by rw [← HL.out, List.drop_length]; rfl⟩
 case round =>
  obtain ⟨k, hk, rfl, hz⟩ := hrel
  have HZ := Lib.hid hz
  clear hz
  rcases Nat.eq_zero_or_pos k with hk0 | hk0
  · subst hk0
    have HM := Lib.hid (trim_len hs (Nat.zero_le _) HZ.out (.inl rfl))
    have HRD := Lib.hid (show Rd w A 0 (words (val xs)) by rw [List.eq_nil_of_length_eq_zero HM.out]; exact Rd.nil _)
    have i2 : (0 : Int) ≤ (c : Int) := by omega
    cases s
    · go_wp2_with fail
      have r1 := (HRD.out.alloc (.cells #[.bool false, .slice none 0 0] 58)).alloc (.cells #[.bool false, .slice none 0 0] 58)
      go_region_law (first | (refine step_app_nil rfl (.tmp 28) (.tmp 31) rfl A 0 c (words (val xs)) rfl rfl (by first | exact r1 | exact r1.drew | exact r1.drewN _ | exact (r1.drewN _).drew) (by omega) ?_; intro A2 c2 w2 g1 g2 g3 g4 g5; obtain ⟨⟨k0, k1, k2, k3⟩, ⟨y0, y1, y2⟩, kb⟩ := make_env w false w2 g4))
      go_wp2
      refine bodyPost_ret (v := .agg #[.bool false, .slice A2 0 c2]) (by simp [results, Tryz.results71, go_sem, k0, k1]) rfl ?_
      exact make_done HM.out g1 g2 g3 (by rw [len_zero_eq HM.out.symm]; rfl) kb k0 k1 k3 _ _ _
    · go_wp2_with fail
      have r1 := (HRD.out.alloc (.cells #[.bool false, .slice none 0 0] 58)).alloc (.cells #[.bool false, .slice none 0 0] 58)
      go_region_law (first | (refine step_app_nil rfl (.tmp 28) (.tmp 31) rfl A 0 c (words (val xs)) rfl rfl (by first | exact r1 | exact r1.drew | exact r1.drewN _ | exact (r1.drewN _).drew) (by omega) ?_; intro A2 c2 w2 g1 g2 g3 g4 g5; obtain ⟨⟨k0, k1, k2, k3⟩, ⟨y0, y1, y2⟩, kb⟩ := make_env w false w2 g4))
      go_wp2
      refine bodyPost_ret (v := .agg #[.bool false, .slice A2 0 c2]) (by simp [results, Tryz.results71, go_sem, k0, k1]) rfl ?_
      exact make_done HM.out g1 g2 g3 (by rw [len_zero_eq HM.out.symm]; rfl) kb k0 k1 k3 _ _ _
  · obtain ⟨b, o, rfl, hb, hcell⟩ := HC.out (by omega)
    obtain ⟨j, rfl⟩ : ∃ j, k = j + 1 := ⟨k - 1, by omega⟩
    have hcj := (World.cell?_alloc_lt w (.cells #[.bool false, .slice none 0 0] 58) ⟨b, o + j, none⟩ hb).trans (hcell j (by omega))
    clear hcell
    obtain ⟨x, hx⟩ : ∃ x, x = xs.getD j 0 := ⟨_, rfl⟩
    rw [← hx] at hcj
    have HX := Lib.hid hx
    clear hx
    by_cases h0 : x = 0
    · have t : ((x : Int) == 0) = true := by subst h0; rfl
      have hz2 := trim_last (by have := HL.out; omega) HZ.out (by rw [← HX.out]; exact h0)
      have HZ2 := Lib.hid hz2
      clear hz2 h0
      go_wp2
      go_round
      case rel => exact ⟨j, by omega, by go_num, HZ2.out⟩
      case measure => simp [intOf]
    · have t : ((x : Int) == 0) = false := by simpa using h0
      have HM := Lib.hid (trim_len hs (by have := HL.out; omega) HZ.out (.inr (by rw [Nat.add_sub_cancel, ← HX.out]; exact h0)))
      clear h0
      have hrd : Rd w (some ⟨b, o, none⟩) (j + 1) (words (val xs)) := by
       have := HR.out.take (m := j + 1) (by omega)
       rwa [← HM.out, (take_words hs).1, HM.out] at this
      have HRD := Lib.hid hrd
      clear hrd
      have i1 : (0 : Int) ≤ (j : Int) + 1 := by omega
      have i2 : (j : Int) + 1 ≤ (c : Int) := by omega
      cases s
      · go_wp2_with fail
        have r1 := (HRD.out.alloc (.cells #[.bool false, .slice none 0 0] 58)).alloc (.cells #[.bool false, .slice none 0 0] 58)
        go_region_law (first | (refine step_app_nil rfl (.tmp 28) (.tmp 31) rfl (some ⟨b, o, none⟩) (j + 1) c (words (val xs)) rfl rfl (by first | exact r1 | exact r1.drew | exact r1.drewN _ | exact (r1.drewN _).drew) (by omega) ?_; intro A2 c2 w2 g1 g2 g3 g4 g5; obtain ⟨⟨k0, k1, k2, k3⟩, ⟨y0, y1, y2⟩, kb⟩ := make_env w false w2 g4))
        go_wp2
        refine bodyPost_ret (v := .agg #[.bool false, .slice A2 (j + 1) c2]) (by simp [results, Tryz.results71, go_sem, k0, k1]) rfl ?_
        exact make_done HM.out g1 g2 g3 (sgn_lt _ _ (len_pos_ne HM.out.symm (by omega))) kb k0 k1 k3 _ _ _
      · go_wp2_with fail
        have r1 := (HRD.out.alloc (.cells #[.bool false, .slice none 0 0] 58)).alloc (.cells #[.bool true, .slice none 0 0] 58)
        go_region_law (first | (refine step_app_nil rfl (.tmp 28) (.tmp 31) rfl (some ⟨b, o, none⟩) (j + 1) c (words (val xs)) rfl rfl (by first | exact r1 | exact r1.drew | exact r1.drewN _ | exact (r1.drewN _).drew) (by omega) ?_; intro A2 c2 w2 g1 g2 g3 g4 g5; obtain ⟨⟨k0, k1, k2, k3⟩, ⟨y0, y1, y2⟩, kb⟩ := make_env w true w2 g4))
        go_wp2
        refine bodyPost_ret (v := .agg #[.bool true, .slice A2 (j + 1) c2]) (by simp [results, Tryz.results71, go_sem, k0, k1]) rfl ?_
        exact make_done HM.out g1 g2 g3 (sgn_lt _ _ (len_pos_ne HM.out.symm (by omega))) kb k0 k1 k3 _ _ _
theorem take_ne {xs ys : List Nat} {k : Nat} (hne : ¬ xs.getD k 0 = ys.getD k 0) : ¬ xs = ys := fun e => hne (by rw [e])
theorem take_more {xs ys : List Nat} (hl : xs.length = ys.length) {k : Nat} (hk : k < xs.length) (he : xs.take k = ys.take k) (h : xs.getD k 0 = ys.getD k 0) : xs.take (k + 1) = ys.take (k + 1) := by
 rw [List.take_succ_eq_append_getElem hk, List.take_succ_eq_append_getElem (show k < ys.length by omega), he]
 simp only [List.getD_eq_getElem?_getD, List.getElem?_eq_getElem hk, List.getElem?_eq_getElem (show k < ys.length by omega), Option.getD_some] at h
 rw [h]
set_option maxHeartbeats 800000 in
theorem sameWords_c (A B : Option Addr) (n c m d : Nat) (xs ys : List Nat) (w : World) (ha : Rd w A n xs) (hb : Rd w B m ys) (hn : n ≤ 9223372036854775800) :
 Calls Tryz.prog 68 #[.slice A n c, .slice B m d] w (Quietly w (.bool (decide (xs = ys)))) := by
 have hxl := ha.len
 have hyl := hb.len
 by_cases hnm : n = m
 · subst hnm
   have HX := Lib.hid hxl
   have HY := Lib.hid hyl
   clear hxl hyl
   have hsx := ha.sm
   have hsy := hb.sm
   have t : ((n : Int) != (n : Int)) = false := by simp
   have hcell : 0 < n → ∃ b o, A = some ⟨b, o, none⟩ ∧ b < w.heap.size ∧ ∀ k, k < n → w.cell? ⟨b, o + k, none⟩ = some (.int .u32 ((xs.getD k 0 : Nat) : Int)) := ha.at_
   have hcell' : 0 < n → ∃ b o, B = some ⟨b, o, none⟩ ∧ b < w.heap.size ∧ ∀ k, k < n → w.cell? ⟨b, o + k, none⟩ = some (.int .u32 ((ys.getD k 0 : Nat) : Int)) := hb.at_
   have HA := Lib.hid hcell
   have HB := Lib.hid hcell'
   clear hcell hcell' ha hb
   go_enter Tryz.func68, Tryz.ntmps68
   go_wp2
   go_loopw [5] (fun v wr => ∃ k j : Nat, k ≤ n ∧ v = .int .i64 k ∧ xs.take k = ys.take k ∧ wr = w.drewN j) (fun v _ => n - (intOf v).toNat)
   case atStart => exact ⟨0, 0, Nat.zero_le _, rfl, rfl, rfl⟩
   case round =>
    obtain ⟨k, j, hk, rfl, hd, rfl⟩ := hrel
    have HD := Lib.hid hd
    clear hd t
    by_cases hkn : k < n
    · obtain ⟨b, o, rfl, _, hca⟩ := HA.out (by omega)
      obtain ⟨b', o', rfl, _, hcb⟩ := HB.out (by omega)
      have hci := hca k hkn
      have hdi := hcb k hkn
      have hx1 := small_get hsx k
      have hy1 := small_get hsy k
      have HN := Lib.hid (@take_ne xs ys k)
      have HM := Lib.hid (take_more (by rw [HX.out, HY.out]) (by rw [HX.out]; exact hkn) HD.out)
      obtain ⟨x, hx2⟩ : ∃ x, x = xs.getD k 0 := ⟨_, rfl⟩
      obtain ⟨y, hy2⟩ : ∃ y, y = ys.getD k 0 := ⟨_, rfl⟩
      rw [← hx2] at hci hx1 HN HM
      rw [← hy2] at hdi hy1 HN HM
      clear hx2 hy2 hca hcb hsx hsy
      by_cases hxy : x = y
      · have HS := Lib.hid (HM.out hxy)
        subst hxy
        have t : ((x : Int) != (x : Int)) = false := by simp
        go_wp2
        go_quiet (fail)
        go_wp2
        go_roundw
        case measure => simp [intOf]; omega
        case rel => exact ⟨k + 1, _, by omega, by go_num, HS.out, rfl⟩
      · have HS := Lib.hid (HN.out hxy)
        have t : ((x : Int) != (y : Int)) = true := by rw [bne_iff_ne]; omega
        go_wp2
        go_quiet (fail)
        go_wp2
        go_ret
        exact ⟨by rw [decide_eq_false HS.out]; rfl, j + _, by rw [World.drewN_drewN]⟩
    · have HE := Lib.hid (show xs = ys by
       have h1 := HD.out
       rwa [take_of_len (by rw [HX.out]; omega), take_of_len (by rw [HY.out]; omega)] at h1)
      go_wp2
      go_ret
      exact ⟨by rw [decide_eq_true HE.out]; rfl, j, rfl⟩
 · have HE := Lib.hid (show ¬ xs = ys from fun e => hnm (by rw [← hxl, ← hyl, e]))
   have t : ((n : Int) != (m : Int)) = true := by rw [bne_iff_ne]; omega
   clear hxl hyl
   go_enter Tryz.func68, Tryz.ntmps68
   go_wp2
   go_ret
   exact ⟨by rw [decide_eq_false HE.out]; rfl, 0, rfl⟩
set_option maxHeartbeats 400000 in
theorem Same_c (s s' : Bool) (A B : Option Addr) (n c m d : Nat) (xs ys : List Nat) (w : World) (ha : Rd w A n xs) (hb : Rd w B m ys) (hn : n ≤ 9223372036854775800) :
 Calls Tryz.prog 29 #[.agg #[.bool s, .slice A n c], .agg #[.bool s', .slice B m d]] w fun e w' => e = .returned (.bool (decide (s = s') && decide (xs = ys))) ∧ Below w.heap.size w w' := by
 by_cases hs : s = s'
 · subst hs
   have t : (s == s) = true := by simp
   have HE := Lib.hid (show (decide (s = s) && decide (xs = ys)) = decide (xs = ys) by simp)
   have HC := Lib.hid (fun w' h1 h2 => sameWords_c A B n c m d xs ys w' h1 h2 hn)
   go_enter Tryz.func29, Tryz.ntmps29
   go_wp2_with fail
   refine (HC.out _ ((ha.alloc _).alloc _) ((hb.alloc _).alloc _)).mono ?_
   rintro e w1 ⟨rfl, k, rfl⟩
   go_wp2
   go_ret
   exact ⟨by rw [HE.out]; rfl, below_drewN (((Below.refl _ _).alloc (Nat.le_refl _) _).alloc (by simp) _) k⟩
 · have t : (s == s') = false := by simpa using hs
   have HE := Lib.hid (show (decide (s = s') && decide (xs = ys)) = false by simp [hs])
   go_enter Tryz.func29, Tryz.ntmps29
   go_wp2
   go_ret
   exact ⟨by rw [HE.out]; rfl, ((Below.refl _ _).alloc (Nat.le_refl _) _).alloc (by simp) _⟩
theorem same_iff {z z' : Int} : (decide (decide (z < 0) = decide (z' < 0)) && decide (words z.natAbs = words z'.natAbs)) = decide (z = z') := by
 by_cases h : z = z'
 · subst h; simp
 · rw [decide_eq_false h, Bool.and_eq_false_iff]
   by_cases h2 : words z.natAbs = words z'.natAbs
   · left
     have h3 := words_inj h2
     simp only [decide_eq_false_iff_not, decide_eq_decide]
     omega
   · right; simp [h2]
set_option maxHeartbeats 400000 in
theorem refOf_neg (m : Nat) (w : World) (h1 : m ≤ 9223372036854775808) (h2 : 0 < m) :
 Calls Tryz.prog 35 #[.int .i64 (-(m : Int))] w (One w (-(m : Int))) := by
 have HZ := Lib.hid (show sgn true (val [m % 4294967296, m / 4294967296]) = (-(m : Int)) by rw [two_val]; rfl)
 go_enter Tryz.func35, Tryz.ntmps35
 go_wp2_with fail
 rw [show -(-(m : Int) + 1) + 1 = (m : Int) by omega]
 rw [and_low32 (m : Int) (by omega) (by omega), Int.emod_emod_of_dvd _ (Int.dvd_refl _), two_row m (by omega)]
 have hb := Bk.new (w.alloc (.cells #[.bool false, .slice none 0 0] 58)) (two_small m (by omega))
 rw [World.size_alloc] at hb
 have hb1 : Below w.heap.size w ((w.alloc (.cells #[.bool false, .slice none 0 0] 58)).alloc (row [m % 4294967296, m / 4294967296])) := ((Below.refl _ _).alloc (Nat.le_refl _) _).alloc (by simp) _
 refine (Make_c true _ 2 2 _ _ hb.rd (Nat.le_refl _) (by omega) (by omega)).mono ?_
 rw [HZ.out]
 rintro e w3 ⟨A, c, rfl, r1, r2, r3, r4⟩
 have c0 := (r4.cell (p := ⟨w.heap.size, 0, none⟩) (by simp; omega)).trans (show _ = some (.bool false) by go_simp)
 have c1 := (r4.cell (p := ⟨w.heap.size, 1, none⟩) (by simp; omega)).trans (show _ = some (.slice none 0 0) by go_simp)
 have f0 := (r4.frozen (p := ⟨w.heap.size, 0, none⟩) (by simp; omega)).trans (show _ = false by go_simp)
 have f1 := (r4.frozen (p := ⟨w.heap.size, 1, none⟩) (by simp; omega)).trans (show _ = false by go_simp)
 have HB := Lib.hid (hb1.trans (r4.mono (by simp; omega)))
 have R1 := Lib.hid r1
 obtain ⟨N, hN⟩ : ∃ N, N = (words ((-(m : Int)) : Int).natAbs).length := ⟨_, rfl⟩
 rw [← hN] at r2 ⊢
 obtain ⟨t, ht⟩ : ∃ t, t = decide (((-(m : Int)) : Int) < 0) := ⟨_, rfl⟩
 rw [← ht]
 have HN := Lib.hid hN
 have HT := Lib.hid ht
 clear hN ht hb hb1 r1 r4
 go_wp2
 refine bodyPost_ret (v := .agg #[.bool t, .slice A N c]) (by simp [results, Tryz.results35, go_sem, c0, c1]) rfl ?_
 exact ⟨A, c, by rw [HN.out, HT.out], R1.out.store c0 c1 _ _, by rw [← HN.out]; exact r2, r3, below_store HB.out (Nat.le_refl _) _ _⟩
set_option maxHeartbeats 400000 in
theorem refOf_pos (m : Nat) (w : World) (h1 : m < 9223372036854775808) :
 Calls Tryz.prog 35 #[.int .i64 (m : Int)] w (One w (m : Int)) := by
 have HZ := Lib.hid (show sgn false (val [m % 4294967296, m / 4294967296]) = (m : Int) by rw [two_val]; rfl)
 go_enter Tryz.func35, Tryz.ntmps35
 go_wp2_with fail
 rw [and_low32 (m : Int) (by omega) (by omega), Int.emod_emod_of_dvd _ (Int.dvd_refl _), two_row m (by omega)]
 have hb := Bk.new (w.alloc (.cells #[.bool false, .slice none 0 0] 58)) (two_small m (by omega))
 rw [World.size_alloc] at hb
 have hb1 : Below w.heap.size w ((w.alloc (.cells #[.bool false, .slice none 0 0] 58)).alloc (row [m % 4294967296, m / 4294967296])) := ((Below.refl _ _).alloc (Nat.le_refl _) _).alloc (by simp) _
 refine (Make_c false _ 2 2 _ _ hb.rd (Nat.le_refl _) (by omega) (by omega)).mono ?_
 rw [HZ.out]
 rintro e w3 ⟨A, c, rfl, r1, r2, r3, r4⟩
 have c0 := (r4.cell (p := ⟨w.heap.size, 0, none⟩) (by simp; omega)).trans (show _ = some (.bool false) by go_simp)
 have c1 := (r4.cell (p := ⟨w.heap.size, 1, none⟩) (by simp; omega)).trans (show _ = some (.slice none 0 0) by go_simp)
 have f0 := (r4.frozen (p := ⟨w.heap.size, 0, none⟩) (by simp; omega)).trans (show _ = false by go_simp)
 have f1 := (r4.frozen (p := ⟨w.heap.size, 1, none⟩) (by simp; omega)).trans (show _ = false by go_simp)
 have HB := Lib.hid (hb1.trans (r4.mono (by simp; omega)))
 have R1 := Lib.hid r1
 obtain ⟨N, hN⟩ : ∃ N, N = (words ((m : Int) : Int).natAbs).length := ⟨_, rfl⟩
 rw [← hN] at r2 ⊢
 obtain ⟨t, ht⟩ : ∃ t, t = decide (((m : Int) : Int) < 0) := ⟨_, rfl⟩
 rw [← ht]
 have HN := Lib.hid hN
 have HT := Lib.hid ht
 clear hN ht hb hb1 r1 r4
 go_wp2
 refine bodyPost_ret (v := .agg #[.bool t, .slice A N c]) (by simp [results, Tryz.results35, go_sem, c0, c1]) rfl ?_
 exact ⟨A, c, by rw [HN.out, HT.out], R1.out.store c0 c1 _ _, by rw [← HN.out]; exact r2, r3, below_store HB.out (Nat.le_refl _) _ _⟩
theorem refOf_c (z : Int) (w : World) (h1 : -9223372036854775808 ≤ z) (h2 : z < 9223372036854775808) :
 Calls Tryz.prog 35 #[.int .i64 z] w (One w z) := by
 by_cases h : z < 0
 · obtain ⟨m, rfl⟩ : ∃ m : Nat, z = -(m : Int) := ⟨z.natAbs, by omega⟩
   exact refOf_neg m w (by omega) (by omega)
 · obtain ⟨m, rfl⟩ : ∃ m : Nat, z = (m : Int) := ⟨z.natAbs, by omega⟩
   exact refOf_pos m w (by omega)
end Go.Proofs.YteabokkofoomkaaGreat

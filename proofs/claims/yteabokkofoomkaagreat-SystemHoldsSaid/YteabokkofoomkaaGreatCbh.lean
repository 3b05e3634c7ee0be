import Derived.Test.YteabokkofoomkaaGreatCak
import Derived.Test.YteabokkofoomkaaGreatCbf
import Derived.Test.YteabokkofoomkaaGreatCbg
import Derived.Test.YteabokkofoomkaaGreatCbe
import Derived.Test.YteabokkofoomkaaGreatCba
import Derived.Test.YteabokkofoomkaaGreatCao
set_option maxRecDepth 100000
namespace Go.Proofs.YteabokkofoomkaaGreat
open Go.RowKit Go.Shelf Go.Deep
def powB (a b c : Int) : Bool := decide (1 ≤ a ∧ 0 ≤ b ∧ a ^ b.toNat = c)
theorem ord_ge9 {a b : Int} (h : ¬ a < b) : 0 ≤ ord a b := by
 rcases Int.lt_trichotomy a b with q | q | q
 · exact absurd q h
 · rw [ord_eq q]; omega
 · rw [ord_gt q]; omega
theorem blen_two9 {a : Int} (ha : 2 ≤ a) : 2 ≤ blen a.natAbs := by
 have h1 : 2 ≤ a.natAbs := by omega
 rcases Nat.lt_or_ge 1 (blen a.natAbs) with h2 | h2
 · exact h2
 · have := blen_lt a.natAbs
   have h3 := Nat.pow_le_pow_right (n := 2) (by omega) h2
   omega
theorem nil_iff9 {w : World} {z : Int} {t : Bool} {A : Option Addr} {n c : Nat} (h : Is w z t A n c) : decide (n = 0) = decide (z = 0) := by
 rw [decide_eq_decide, h.2.1]
 constructor
 · intro e
   have h1 := words_len_le.1 (Nat.le_of_eq e)
   rw [pw_zero] at h1
   omega
 · rintro rfl
   rw [show (0 : Int).natAbs = 0 from rfl, words_zero]
   rfl
theorem Zero_v {w : World} {z : Int} {t : Bool} {A : Option Addr} {n c : Nat} (h : Is w z t A n c) : Calls Tryz.prog 26 #[.agg #[.bool t, .slice A n c]] w (IsB (decide (z = 0)) w) := by
 rw [← nil_iff9 h]
 exact zero_c t A n c w
theorem abs_pow (a : Int) (n : Nat) : (a ^ n).natAbs = a.natAbs ^ n := Int.natAbs_pow a n
theorem pow_bits {a c : Int} {N : Nat} (ha : 2 ≤ a) (h : a ^ N = c) : N * (blen a.natAbs - 1) < blen c.natAbs := by
 have h1 : 2 ^ (blen a.natAbs - 1) ≤ a.natAbs := blen_ge (by omega)
 have h2 : (2 ^ (blen a.natAbs - 1)) ^ N ≤ a.natAbs ^ N := Nat.pow_le_pow_left h1 N
 rw [← Nat.pow_mul, Nat.mul_comm] at h2
 rw [← abs_pow, h] at h2
 rcases Nat.lt_or_ge (N * (blen a.natAbs - 1)) (blen c.natAbs) with q | q
 · exact q
 · have := blen_le.1 q
   omega
theorem pow_few {a b c : Int} (ha : 2 ≤ a) (hb : 163840 < b) (hc : Sz c 4096) : ¬ a ^ b.toNat = c := by
 intro e
 have h := pow_bits ha e
 have h2 := blen_two9 ha
 have h3 := blen_sz hc
 have h4 : b.toNat * 1 ≤ b.toNat * (blen a.natAbs - 1) := Nat.mul_le_mul_left _ (by omega)
 omega
theorem len_one {w : World} {t : Bool} {A : Option Addr} {n c : Nat} (h : Is w 1 t A n c) : n ≤ 1 := by
 rw [h.2.1]
 exact words_len_le.2 (by rw [pw_two]; decide)
theorem refSame_z {w : World} {z z' : Int} {t t' : Bool} {A A' : Option Addr} {n c n' c' : Nat} (h : Is w z t A n c) (h' : Is w z' t' A' n' c') (hn : n ≤ 9223372036854775800) :
 Calls Tryz.prog 29 #[.agg #[.bool t, .slice A n c], .agg #[.bool t', .slice A' n' c']] w (IsB (decide (z = z')) w) := by
 have := Same_c t t' A A' n c n' c' _ _ w h.2.2.1 h'.2.2.1 hn
 rw [h.1, h'.1, same_iff] at this
 rw [h.1, h'.1]
 exact this
theorem pow_len9 {a : Int} {N la k : Nat} (h : a.natAbs < 2 ^ la) (hb : la * N < 32 * k) : (words (a ^ N).natAbs).length ≤ k := by
 refine words_len_le.2 ?_
 rw [pw_two, abs_pow]
 have h1 : a.natAbs ^ N ≤ (2 ^ la) ^ N := Nat.pow_le_pow_left (Nat.le_of_lt h) N
 rw [← Nat.pow_mul] at h1
 exact Nat.lt_of_le_of_lt h1 (Nat.pow_lt_pow_right (by decide) hb)
theorem powB_no {a b c : Int} (h : ¬ (1 ≤ a ∧ 0 ≤ b ∧ a ^ b.toNat = c)) : powB a b c = false := decide_eq_false h
theorem pow_gt {a : Int} (ha : 2 ≤ a) (n : Nat) : 0 < a ^ n := Int.pow_pos (by omega)
theorem isB_of {b r : Bool} {w w' : World} (h : b = r) (hb : Below w.heap.size w w') : IsB b w (.returned (.bool r)) w' := by
 subst h
 exact ⟨rfl, hb⟩
set_option maxHeartbeats 8000000 in
theorem refIsPower_c {w : World} {a : Int} {t0 : Bool} {A0 : Option Addr} {n0 c0 : Nat} {b : Int} {t1 : Bool} {A1 : Option Addr} {n1 c1 : Nat} {c : Int} {t2 : Bool} {A2 : Option Addr} {n2 c2 : Nat} (h0 : Iv w a t0 A0 n0 c0) (h1 : Iv w b t1 A1 n1 c1) (h2 : Iv w c t2 A2 n2 c2) :
 Calls Tryz.prog 45 #[.agg #[.bool t0, .slice A0 n0 c0], .agg #[.bool t1, .slice A1 n1 c1], .agg #[.bool t2, .slice A2 n2 c2]] w (IsB (powB a b c) w) := by
 have E := Lib.hid (B3.start h0.is h1.is h2.is)
 have HS := Lib.hid (And.intro h0.sz (And.intro h1.sz h2.sz))
 have HT := Lib.hid (And.intro h1.is.1 h2.is.1)
 have HL := Lib.hid (show n0 ≤ 4096 ∧ n1 ≤ 4096 ∧ n2 ≤ 4096 from ⟨h0.is.len h0.sz, h1.is.len h1.sz, h2.is.len h2.sz⟩)
 clear h0 h1 h2
 go_enter Tryz.func45, Tryz.ntmps45
 go_upto_region 1 with (fail)
 generalize ((w.alloc (.cells #[.bool t0, .slice A0 n0 c0] 58)).alloc (.cells #[.bool t1, .slice A1 n1 c1] 58)).alloc (.cells #[.bool t2, .slice A2 n2 c2] 58) = W0 at E ⊢
 obtain ⟨o, ho⟩ : ∃ o, o = ord a 1 := ⟨_, rfl⟩
 have HO := Lib.hid ho
 by_cases qa : a < 1
 · have tq : decide (o < 0) = true := by rw [ho, ord_lt qa]; rfl
   clear ho
   have HF := Lib.hid (powB_no (a := a) (b := b) (c := c) (fun q => by omega))
   clear qa
   refine wp_region_held_drew (S := (fun w' => w'.cell? ⟨w.heap.size, 0, none⟩ = some (.bool t0) ∧ w'.cell? ⟨w.heap.size, 1, none⟩ = some (.slice A0 n0 c0) ∧ w'.cell? ⟨(w.heap.size + 1), 0, none⟩ = some (.bool t1))) (by kernel_rfl) (⟨cell_drq E.out.ba.c0, cell_drq E.out.ba.c1, cell_drq E.out.bb.c0⟩) (fun hHeld => ?_)
   replace E := Lib.hid (E.out.next (Below.refl W0.heap.size W0).drew)
   generalize W0.drew = D1 at E hHeld ⊢
   refine tkk 0 10 rfl rfl (by kernel_rfl) (fun _ _ _ _ h => h) (by rfl) (fun w h => by obtain ⟨h0, h1, h2⟩ := h; go_simp; rfl) (by assumption) ?_
   simp only [set0, set1]
   refine wpAnyH_ready (rs := [1]) (by kernel_rfl) (by simp) ?_
   refine AllReadyH.cons rfl (fun K hK => ?_) AllReadyH.nil
   go_simp
   refine (refOf_c 1 D1 (by omega) (by omega)).mono ?_
   rintro e v2 hq
   obtain ⟨tO, AO, nO, cO, rfl, iO, hb⟩ := hq.numI
   replace E := Lib.hid (E.out.next hb)
   have IO := Lib.hid iO
   clear hb hq iO hHeld
   refine hK.out _ _ (⟨E.out.ba.c0, E.out.ba.c1, E.out.bb.c0⟩) (fun hHeld => ?_)
   clear hK K
   refine wpAnyH_ready (rs := [2]) (by kernel_rfl) (by simp) ?_
   refine AllReadyH.cons rfl (fun K hK => ?_) AllReadyH.nil
   go_simp
   refine (refCmp_c E.out.ba.is IO.out (by have := HL.out.1; omega) (by have := len_one IO.out; omega)).mono ?_
   rintro e v3 ⟨rfl, hb⟩
   rw [← HO.out]
   replace E := Lib.hid (E.out.next hb)
   replace IO := Lib.hid (IO.out.below hb)
   clear hb hHeld
   refine hK.out _ _ (⟨E.out.ba.c0, E.out.ba.c1, E.out.bb.c0⟩) (fun hHeld => ?_)
   clear hK K
   refine tkk 3 13 rfl rfl (by kernel_rfl) (fun _ _ _ _ h => h) (by rfl) (fun w h => by obtain ⟨h0, h1, h2⟩ := h; go_simp; rfl) (by assumption) ?_
   simp only [set0, set1]
   refine tkk 4 14 rfl rfl (by kernel_rfl) (fun _ _ _ _ h => h) (by rfl) (fun w h => by obtain ⟨h0, h1, h2⟩ := h; go_simp; rfl) (by assumption) ?_
   simp only [set0, set1]
   refine tff 5 15 rfl rfl (by kernel_rfl) (fun _ _ _ _ h => h) (by rfl) (by assumption) ?_
   simp only [set0, set1]
   refine tff 6 16 rfl rfl (by kernel_rfl) (fun _ _ _ _ h => h) (by rfl) (by assumption) ?_
   simp only [set0, set1]
   refine tkk 7 17 rfl rfl (by kernel_rfl) (fun _ _ _ _ h => h) (by rfl) (fun w h => by obtain ⟨h0, h1, h2⟩ := h; go_simp; rfl) (by assumption) ?_
   clear hHeld
   refine wpAnyH_done (by kernel_rfl) ?_ _
   go_wp2
   go_ret
   exact isB_of HF.out E.out.low
 have tq : decide (o < 0) = false := decide_eq_false (by have := ord_ge9 qa; omega)
 clear ho
 have HA1 := Lib.hid (show 1 ≤ a by omega)
 clear qa
 cases t1 with
 | true =>
   have HF := Lib.hid (powB_no (a := a) (b := b) (c := c) (fun q => by have := of_decide_eq_true HT.out.1.symm; omega))
   refine wp_region_held_drew (S := (fun w' => w'.cell? ⟨w.heap.size, 0, none⟩ = some (.bool t0) ∧ w'.cell? ⟨w.heap.size, 1, none⟩ = some (.slice A0 n0 c0) ∧ w'.cell? ⟨(w.heap.size + 1), 0, none⟩ = some (.bool true))) (by kernel_rfl) (⟨cell_drq E.out.ba.c0, cell_drq E.out.ba.c1, cell_drq E.out.bb.c0⟩) (fun hHeld => ?_)
   replace E := Lib.hid (E.out.next (Below.refl W0.heap.size W0).drew)
   generalize W0.drew = D4 at E hHeld ⊢
   refine tkk 0 10 rfl rfl (by kernel_rfl) (fun _ _ _ _ h => h) (by rfl) (fun w h => by obtain ⟨h0, h1, h2⟩ := h; go_simp; rfl) (by assumption) ?_
   simp only [set0, set1]
   refine wpAnyH_ready (rs := [1]) (by kernel_rfl) (by simp) ?_
   refine AllReadyH.cons rfl (fun K hK => ?_) AllReadyH.nil
   go_simp
   refine (refOf_c 1 D4 (by omega) (by omega)).mono ?_
   rintro e v5 hq
   obtain ⟨tO, AO, nO, cO, rfl, iO, hb⟩ := hq.numI
   replace E := Lib.hid (E.out.next hb)
   have IO := Lib.hid iO
   clear hb hq iO hHeld
   refine hK.out _ _ (⟨E.out.ba.c0, E.out.ba.c1, E.out.bb.c0⟩) (fun hHeld => ?_)
   clear hK K
   refine wpAnyH_ready (rs := [2]) (by kernel_rfl) (by simp) ?_
   refine AllReadyH.cons rfl (fun K hK => ?_) AllReadyH.nil
   go_simp
   refine (refCmp_c E.out.ba.is IO.out (by have := HL.out.1; omega) (by have := len_one IO.out; omega)).mono ?_
   rintro e v6 ⟨rfl, hb⟩
   rw [← HO.out]
   replace E := Lib.hid (E.out.next hb)
   replace IO := Lib.hid (IO.out.below hb)
   clear hb hHeld
   refine hK.out _ _ (⟨E.out.ba.c0, E.out.ba.c1, E.out.bb.c0⟩) (fun hHeld => ?_)
   clear hK K
   refine tkk 3 13 rfl rfl (by kernel_rfl) (fun _ _ _ _ h => h) (by rfl) (fun w h => by obtain ⟨h0, h1, h2⟩ := h; go_simp; rfl) (by assumption) ?_
   simp only [set0, set1]
   refine tkk 4 14 rfl rfl (by kernel_rfl) (fun _ _ _ _ h => h) (by rfl) (fun w h => by obtain ⟨h0, h1, h2⟩ := h; go_simp; rfl) (by assumption) ?_
   simp only [set0, set1]
   refine tkk 5 15 rfl rfl (by kernel_rfl) (fun _ _ _ _ h => h) (by rfl) (fun w h => by obtain ⟨h0, h1, h2⟩ := h; go_simp; rfl) (by assumption) ?_
   simp only [set0, set1]
   refine tkk 6 16 rfl rfl (by kernel_rfl) (fun _ _ _ _ h => h) (by rfl) (fun w h => by obtain ⟨h0, h1, h2⟩ := h; go_simp; rfl) (by assumption) ?_
   simp only [set0, set1]
   refine tkk 7 17 rfl rfl (by kernel_rfl) (fun _ _ _ _ h => h) (by rfl) (fun w h => by obtain ⟨h0, h1, h2⟩ := h; go_simp; rfl) (by assumption) ?_
   clear hHeld
   refine wpAnyH_done (by kernel_rfl) ?_ _
   go_wp2
   go_ret
   exact isB_of HF.out E.out.low
 | false =>
 have HB0 := Lib.hid (show 0 ≤ b by have := of_decide_eq_false HT.out.1.symm; omega)
 refine wp_region_held_drew (S := (fun w' => w'.cell? ⟨w.heap.size, 0, none⟩ = some (.bool t0) ∧ w'.cell? ⟨w.heap.size, 1, none⟩ = some (.slice A0 n0 c0) ∧ w'.cell? ⟨(w.heap.size + 1), 0, none⟩ = some (.bool false))) (by kernel_rfl) (⟨cell_drq E.out.ba.c0, cell_drq E.out.ba.c1, cell_drq E.out.bb.c0⟩) (fun hHeld => ?_)
 replace E := Lib.hid (E.out.next (Below.refl W0.heap.size W0).drew)
 generalize W0.drew = D7 at E hHeld ⊢
 refine tkk 0 10 rfl rfl (by kernel_rfl) (fun _ _ _ _ h => h) (by rfl) (fun w h => by obtain ⟨h0, h1, h2⟩ := h; go_simp; rfl) (by assumption) ?_
 simp only [set0, set1]
 refine wpAnyH_ready (rs := [1]) (by kernel_rfl) (by simp) ?_
 refine AllReadyH.cons rfl (fun K hK => ?_) AllReadyH.nil
 go_simp
 refine (refOf_c 1 D7 (by omega) (by omega)).mono ?_
 rintro e v8 hq
 obtain ⟨tO, AO, nO, cO, rfl, iO, hb⟩ := hq.numI
 replace E := Lib.hid (E.out.next hb)
 have IO := Lib.hid iO
 clear hb hq iO hHeld
 refine hK.out _ _ (⟨E.out.ba.c0, E.out.ba.c1, E.out.bb.c0⟩) (fun hHeld => ?_)
 clear hK K
 refine wpAnyH_ready (rs := [2]) (by kernel_rfl) (by simp) ?_
 refine AllReadyH.cons rfl (fun K hK => ?_) AllReadyH.nil
 go_simp
 refine (refCmp_c E.out.ba.is IO.out (by have := HL.out.1; omega) (by have := len_one IO.out; omega)).mono ?_
 rintro e v9 ⟨rfl, hb⟩
 rw [← HO.out]
 replace E := Lib.hid (E.out.next hb)
 replace IO := Lib.hid (IO.out.below hb)
 clear hb hHeld
 refine hK.out _ _ (⟨E.out.ba.c0, E.out.ba.c1, E.out.bb.c0⟩) (fun hHeld => ?_)
 clear hK K
 refine tkk 3 13 rfl rfl (by kernel_rfl) (fun _ _ _ _ h => h) (by rfl) (fun w h => by obtain ⟨h0, h1, h2⟩ := h; go_simp; rfl) (by assumption) ?_
 simp only [set0, set1]
 refine tkk 4 14 rfl rfl (by kernel_rfl) (fun _ _ _ _ h => h) (by rfl) (fun w h => by obtain ⟨h0, h1, h2⟩ := h; go_simp; rfl) (by assumption) ?_
 simp only [set0, set1]
 refine tkk 5 15 rfl rfl (by kernel_rfl) (fun _ _ _ _ h => h) (by rfl) (fun w h => by obtain ⟨h0, h1, h2⟩ := h; go_simp; rfl) (by assumption) ?_
 simp only [set0, set1]
 refine tkk 6 16 rfl rfl (by kernel_rfl) (fun _ _ _ _ h => h) (by rfl) (fun w h => by obtain ⟨h0, h1, h2⟩ := h; go_simp; rfl) (by assumption) ?_
 simp only [set0, set1]
 refine tkk 7 17 rfl rfl (by kernel_rfl) (fun _ _ _ _ h => h) (by rfl) (fun w h => by obtain ⟨h0, h1, h2⟩ := h; go_simp; rfl) (by assumption) ?_
 clear hHeld
 refine wpAnyH_done (by kernel_rfl) ?_ _
 clear IO tq
 go_upto_region 3 with (fail)
 refine wp_region_held_drew (S := (fun w' => w'.cell? ⟨w.heap.size, 0, none⟩ = some (.bool t0) ∧ w'.cell? ⟨w.heap.size, 1, none⟩ = some (.slice A0 n0 c0))) (by kernel_rfl) (⟨cell_drq E.out.ba.c0, cell_drq E.out.ba.c1⟩) (fun hHeld => ?_)
 replace E := Lib.hid (E.out.next (Below.refl v9.heap.size v9).drew)
 generalize v9.drew = D10 at E hHeld ⊢
 refine tkk 0 18 rfl rfl (by kernel_rfl) (fun _ _ _ _ h => h) (by rfl) (fun w h => by obtain ⟨h0, h1⟩ := h; go_simp; rfl) (by assumption) ?_
 simp only [set0, set1]
 refine wpAnyH_ready (rs := [1]) (by kernel_rfl) (by simp) ?_
 refine AllReadyH.cons rfl (fun K hK => ?_) AllReadyH.nil
 go_simp
 refine (refOf_c 1 D10 (by omega) (by omega)).mono ?_
 rintro e v11 hq
 obtain ⟨tO, AO, nO, cO, rfl, iO, hb⟩ := hq.numI
 replace E := Lib.hid (E.out.next hb)
 have IO := Lib.hid iO
 clear hb hq iO hHeld
 refine hK.out _ _ (⟨E.out.ba.c0, E.out.ba.c1⟩) (fun hHeld => ?_)
 clear hK K
 refine wpAnyH_ready (rs := [2]) (by kernel_rfl) (by simp) ?_
 refine AllReadyH.cons rfl (fun K hK => ?_) AllReadyH.nil
 go_simp
 refine (same_is E.out.ba.is IO.out HS.out.1 (Nat.le_refl _)).mono ?_
 rintro e v12 ⟨rfl, hb⟩
 replace E := Lib.hid (E.out.next hb)
 replace IO := Lib.hid (IO.out.below hb)
 clear hb hHeld
 refine hK.out _ _ (⟨E.out.ba.c0, E.out.ba.c1⟩) (fun hHeld => ?_)
 clear hK K
 clear hHeld
 refine wpAnyH_done (by kernel_rfl) ?_ _
 clear IO
 obtain ⟨v, hv⟩ : ∃ v, v = decide (a = 1) := ⟨_, rfl⟩
 rw [← hv]
 have HV := Lib.hid hv
 clear hv
 cases v with
 | true =>
   have x0 := E.out.bc.c0
   have x1 := E.out.bc.c1
   have y0 := E.out.ba.c0
   have y1 := E.out.ba.c1
   go_wp2_with fail
   refine (refSame_z E.out.bc.is E.out.ba.is (by have := HL.out.2.2; omega)).mono ?_
   rintro e w4 ⟨rfl, hb⟩
   replace E := Lib.hid (E.out.next hb)
   clear hb x0 x1 y0 y1
   have HF := Lib.hid (show powB a b c = decide (c = a) by
    have h1 := of_decide_eq_true HV.out.symm
    have h2 := HB0.out
    unfold powB
    rw [h1, Int.one_pow]
    by_cases h : c = 1
    · rw [decide_eq_true h, decide_eq_true ⟨by omega, h2, h.symm⟩]
    · rw [decide_eq_false h, decide_eq_false (fun q => h q.2.2.symm)])
   generalize decide (c = a) = v at HF ⊢
   go_wp2
   go_ret
   exact isB_of HF.out E.out.low
 | false =>
 have HA2 := Lib.hid (show 2 ≤ a by have h1 := of_decide_eq_false HV.out.symm; have h2 := HA1.out; omega)
 clear HV HO
 have x0 := E.out.bb.c0
 have x1 := E.out.bb.c1
 go_wp2_with fail
 refine (refFew_c E.out.bb.is (by have := HL.out.2.1; omega)).mono ?_
 rintro e w5 ⟨m, rfl, hm, hb⟩
 replace E := Lib.hid (E.out.next hb)
 obtain ⟨u, hu⟩ : ∃ v, v = fewB b := ⟨_, rfl⟩
 rw [← hu] at hm ⊢
 have HU := Lib.hid hu
 have HM := Lib.hid hm
 clear hb x0 x1 hu hm
 cases u with
 | false =>
   have HF := Lib.hid (powB_no (a := a) (b := b) (c := c) (fun q => by
    have h1 := of_decide_eq_false HU.out.symm
    exact pow_few HA2.out (by have := HB0.out; omega) HS.out.2.2 q.2.2))
   go_wp2
   go_ret
   exact isB_of HF.out E.out.low
 | true =>
 obtain ⟨N, hN⟩ : ∃ N : Nat, b = (N : Int) := ⟨b.toNat, by have := HB0.out; omega⟩
 subst hN
 obtain rfl : m = (N : Int) := HM.out rfl
 have HN := Lib.hid (show N ≤ 163840 by have h1 := of_decide_eq_true HU.out.symm; omega)
 have y0 := E.out.bc.c0
 cases t2 with
 | true =>
   have HF := Lib.hid (powB_no (a := a) (b := (N : Int)) (c := c) (fun q => by
    have h1 := of_decide_eq_true HT.out.2.symm
    have h2 := pow_gt HA2.out ((N : Int).toNat)
    rw [q.2.2] at h2
    omega))
   go_wp2
   go_ret
   exact isB_of HF.out E.out.low
 | false =>
 have y1 := E.out.bc.c1
 go_wp2_with fail
 refine (Zero_v E.out.bc.is).mono ?_
 rintro e w6 ⟨rfl, hb⟩
 replace E := Lib.hid (E.out.next hb)
 clear hb y0 y1
 obtain ⟨v, hv⟩ : ∃ v, v = decide (c = 0) := ⟨_, rfl⟩
 rw [← hv]
 have HV := Lib.hid hv
 clear hv
 cases v with
 | true =>
   have HF := Lib.hid (powB_no (a := a) (b := (N : Int)) (c := c) (fun q => by
    have h1 := of_decide_eq_true HV.out.symm
    have h2 := pow_gt HA2.out ((N : Int).toNat)
    rw [q.2.2] at h2
    omega))
   go_wp2
   go_ret
   exact isB_of HF.out E.out.low
 | false =>
 obtain ⟨la, hla⟩ : ∃ x, x = blen (val (words a.natAbs)) := ⟨_, rfl⟩
 obtain ⟨lc, hlc⟩ : ∃ x, x = blen (val (words c.natAbs)) := ⟨_, rfl⟩
 have HLA := Lib.hid hla
 have HLC := Lib.hid hlc
 have hla2 : 2 ≤ la := by rw [hla, val_words]; exact blen_two9 HA2.out
 have hla3 : la ≤ 131072 := by rw [hla, val_words]; exact blen_sz HS.out.1
 have hlc3 : lc ≤ 131072 := by rw [hlc, val_words]; exact blen_sz HS.out.2.2
 obtain ⟨d, hd⟩ : ∃ d, la = d + 1 := ⟨la - 1, by omega⟩
 have HPB := Lib.hid (show ∀ c', a ^ N = c' → N * d < blen c'.natAbs from fun c' h => by
  have h1 := pow_bits HA2.out h
  have h2 := HLA.out
  rw [val_words, hd] at h2
  rw [← h2] at h1
  exact h1)
 obtain ⟨pr, hpr⟩ : ∃ q, q = N * d := ⟨_, rfl⟩
 have hprb : pr ≤ 163840 * 131072 := by rw [hpr]; exact Nat.mul_le_mul HN.out (by omega)
 have epr : (N : Int) * (d : Int) = (pr : Int) := by rw [hpr]; exact (Int.natCast_mul N d).symm
 have ed : (la : Int) - 1 = (d : Int) := by omega
 have wd : IntKind.i64.wrap (d : Int) = (d : Int) := IntWalk.i64_in _ (by omega)
 have wm : IntKind.i64.wrap (pr : Int) = (pr : Int) := IntWalk.i64_in _ (by omega)
 rw [← hpr] at HPB
 have HPR := Lib.hid (show pr = N * d ∧ lc ≤ 131072 from ⟨hpr, hlc3⟩)
 have hd0 := Lib.hid hd
 clear hla hlc hpr hla2 hla3 hlc3 hprb hd
 by_cases q8 : lc < pr
 · have t8 : decide ((lc : Int) < (pr : Int)) = true := decide_eq_true (by omega)
   have t8n : decide (lc < pr) = true := decide_eq_true q8
   have HF := Lib.hid (powB_no (a := a) (b := (N : Int)) (c := c) (fun q => by
    have h1 := HPB.out c q.2.2
    have h2 := HLC.out
    rw [val_words] at h2
    omega))
   clear q8
   go_upto_region 8 with (fail)
   refine wp_region_held_drew (S := (fun w' => w'.cell? ⟨w.heap.size, 0, none⟩ = some (.bool t0) ∧ w'.cell? ⟨w.heap.size, 1, none⟩ = some (.slice A0 n0 c0) ∧ w'.cell? ⟨(w.heap.size + 1 + 1), 0, none⟩ = some (.bool false) ∧ w'.cell? ⟨(w.heap.size + 1 + 1), 1, none⟩ = some (.slice A2 n2 c2))) (by kernel_rfl) (⟨cell_drq E.out.ba.c0, cell_drq E.out.ba.c1, cell_drq E.out.bc.c0, cell_drq E.out.bc.c1⟩) (fun hHeld => ?_)
   replace E := Lib.hid (E.out.next (Below.refl w6.heap.size w6).drew)
   generalize w6.drew = D13 at E hHeld ⊢
   refine tkk 0 39 rfl rfl (by kernel_rfl) (fun _ _ _ _ h => h) (by rfl) (fun w h => by obtain ⟨h0, h1, h2, h3⟩ := h; go_simp; rfl) (by assumption) ?_
   simp only [set0, set1]
   refine tkk 1 40 rfl rfl (by kernel_rfl) (fun _ _ _ _ h => h) (by rfl) (fun w h => by obtain ⟨h0, h1, h2, h3⟩ := h; go_simp; rfl) (by assumption) ?_
   simp only [set0, set1]
   refine tkk 5 44 rfl rfl (by kernel_rfl) (fun _ _ _ _ h => h) (by rfl) (fun w h => by obtain ⟨h0, h1, h2, h3⟩ := h; go_simp; rfl) (by assumption) ?_
   simp only [set0, set1]
   refine wpAnyH_ready (rs := [2]) (by kernel_rfl) (by simp) ?_
   refine AllReadyH.cons rfl (fun K hK => ?_) AllReadyH.nil
   go_simp
   refine (refBits_c t0 A0 n0 c0 (words a.natAbs) D13 E.out.ba.is.2.2.1 (words_canon _) (by have := HL.out.1; omega)).mono ?_
   rintro e v14 ⟨rfl, hb⟩
   rw [← HLA.out]
   replace E := Lib.hid (E.out.next hb)
   clear hb hHeld
   refine hK.out _ _ (⟨E.out.ba.c0, E.out.ba.c1, E.out.bc.c0, E.out.bc.c1⟩) (fun hHeld => ?_)
   clear hK K
   refine tkk 3 42 rfl rfl (by kernel_rfl) (fun _ _ _ _ h => h) (by rfl) (fun w h => by obtain ⟨h0, h1, h2, h3⟩ := h; go_simp; rfl) (by assumption) ?_
   simp only [set0, set1]
   refine tkk 4 43 rfl rfl (by kernel_rfl) (fun _ _ _ _ h => h) (by rfl) (fun w h => by obtain ⟨h0, h1, h2, h3⟩ := h; go_simp; rfl) (by assumption) ?_
   simp only [set0, set1]
   refine wpAnyH_ready (rs := [6]) (by kernel_rfl) (by simp) ?_
   refine AllReadyH.cons rfl (fun K hK => ?_) AllReadyH.nil
   go_simp
   refine (refBits_c false A2 n2 c2 (words c.natAbs) v14 E.out.bc.is.2.2.1 (words_canon _) (by have := HL.out.2.2; omega)).mono ?_
   rintro e v15 ⟨rfl, hb⟩
   rw [← HLC.out]
   replace E := Lib.hid (E.out.next hb)
   clear hb hHeld
   refine hK.out _ _ (⟨E.out.ba.c0, E.out.ba.c1, E.out.bc.c0, E.out.bc.c1⟩) (fun hHeld => ?_)
   clear hK K
   refine tkk 7 46 rfl rfl (by kernel_rfl) (fun _ _ _ _ h => h) (by rfl) (fun w h => by obtain ⟨h0, h1, h2, h3⟩ := h; go_simp; rfl) (by assumption) ?_
   clear hHeld
   refine wpAnyH_done (by kernel_rfl) ?_ _
   go_wp2
   go_ret
   exact isB_of HF.out E.out.low
 have HLN5 := Lib.hid (show (words (a ^ N).natAbs).length ≤ 10001 from pow_len9 (la := la) (by
  have h1 := blen_lt a.natAbs
  have h2 := HLA.out
  rw [val_words] at h2
  rw [← h2] at h1
  exact h1) (by
  have h1 := HPR.out
  have h2 := HN.out
  rw [hd0.out, Nat.add_mul, Nat.one_mul, Nat.mul_comm d N]
  omega))
 have t8 : decide ((lc : Int) < (pr : Int)) = false := decide_eq_false (by omega)
 have t8n : decide (lc < pr) = false := decide_eq_false q8
 clear q8
 go_upto_region 8 with (fail)
 refine wp_region_held_drew (S := (fun w' => w'.cell? ⟨w.heap.size, 0, none⟩ = some (.bool t0) ∧ w'.cell? ⟨w.heap.size, 1, none⟩ = some (.slice A0 n0 c0) ∧ w'.cell? ⟨(w.heap.size + 1 + 1), 0, none⟩ = some (.bool false) ∧ w'.cell? ⟨(w.heap.size + 1 + 1), 1, none⟩ = some (.slice A2 n2 c2))) (by kernel_rfl) (⟨cell_drq E.out.ba.c0, cell_drq E.out.ba.c1, cell_drq E.out.bc.c0, cell_drq E.out.bc.c1⟩) (fun hHeld => ?_)
 replace E := Lib.hid (E.out.next (Below.refl w6.heap.size w6).drew)
 generalize w6.drew = D16 at E hHeld ⊢
 refine tkk 0 39 rfl rfl (by kernel_rfl) (fun _ _ _ _ h => h) (by rfl) (fun w h => by obtain ⟨h0, h1, h2, h3⟩ := h; go_simp; rfl) (by assumption) ?_
 simp only [set0, set1]
 refine tkk 1 40 rfl rfl (by kernel_rfl) (fun _ _ _ _ h => h) (by rfl) (fun w h => by obtain ⟨h0, h1, h2, h3⟩ := h; go_simp; rfl) (by assumption) ?_
 simp only [set0, set1]
 refine tkk 5 44 rfl rfl (by kernel_rfl) (fun _ _ _ _ h => h) (by rfl) (fun w h => by obtain ⟨h0, h1, h2, h3⟩ := h; go_simp; rfl) (by assumption) ?_
 simp only [set0, set1]
 refine wpAnyH_ready (rs := [2]) (by kernel_rfl) (by simp) ?_
 refine AllReadyH.cons rfl (fun K hK => ?_) AllReadyH.nil
 go_simp
 refine (refBits_c t0 A0 n0 c0 (words a.natAbs) D16 E.out.ba.is.2.2.1 (words_canon _) (by have := HL.out.1; omega)).mono ?_
 rintro e v17 ⟨rfl, hb⟩
 rw [← HLA.out]
 replace E := Lib.hid (E.out.next hb)
 clear hb hHeld
 refine hK.out _ _ (⟨E.out.ba.c0, E.out.ba.c1, E.out.bc.c0, E.out.bc.c1⟩) (fun hHeld => ?_)
 clear hK K
 refine tkk 3 42 rfl rfl (by kernel_rfl) (fun _ _ _ _ h => h) (by rfl) (fun w h => by obtain ⟨h0, h1, h2, h3⟩ := h; go_simp; rfl) (by assumption) ?_
 simp only [set0, set1]
 refine tkk 4 43 rfl rfl (by kernel_rfl) (fun _ _ _ _ h => h) (by rfl) (fun w h => by obtain ⟨h0, h1, h2, h3⟩ := h; go_simp; rfl) (by assumption) ?_
 simp only [set0, set1]
 refine wpAnyH_ready (rs := [6]) (by kernel_rfl) (by simp) ?_
 refine AllReadyH.cons rfl (fun K hK => ?_) AllReadyH.nil
 go_simp
 refine (refBits_c false A2 n2 c2 (words c.natAbs) v17 E.out.bc.is.2.2.1 (words_canon _) (by have := HL.out.2.2; omega)).mono ?_
 rintro e v18 ⟨rfl, hb⟩
 rw [← HLC.out]
 replace E := Lib.hid (E.out.next hb)
 clear hb hHeld
 refine hK.out _ _ (⟨E.out.ba.c0, E.out.ba.c1, E.out.bc.c0, E.out.bc.c1⟩) (fun hHeld => ?_)
 clear hK K
 refine tkk 7 46 rfl rfl (by kernel_rfl) (fun _ _ _ _ h => h) (by rfl) (fun w h => by obtain ⟨h0, h1, h2, h3⟩ := h; go_simp; rfl) (by assumption) ?_
 clear hHeld
 refine wpAnyH_done (by kernel_rfl) ?_ _
 have x0 := E.out.ba.c0
 have x1 := E.out.ba.c1
 go_wp2_with fail
 refine (refPower_c E.out.ba.is HL.out.1 N (by have := HN.out; omega)).mono ?_
 rintro e w7 ⟨t5, A5, m5, d5, ok, rfl, hi, hl, hb⟩
 replace E := Lib.hid (E.out.next hb)
 have k1 := bel_alloc w7 (.cells #[.bool t5, .slice A5 m5 d5] 58)
 replace E := Lib.hid (E.out.next k1)
 have HL2 := Lib.hid hl
 clear hb k1 hl x0 x1
 cases ok with
 | false =>
   have HF := Lib.hid (powB_no (a := a) (b := (N : Int)) (c := c) (fun q => by
    have h1 := HL2.out rfl
    rw [show a ^ N = c from q.2.2] at h1
    exact h1 HS.out.2.2.len))
   clear hi
   go_upto_region 11 with (fail)
   generalize w7.alloc (.cells #[.bool t5, .slice A5 m5 d5] 58) = W8 at E ⊢
   go_wp2
   go_ret
   exact isB_of HF.out E.out.low
 | true =>
 have HLN := Lib.hid (show m5 ≤ 10001 by rw [(hi rfl).2.1]; exact HLN5.out)
 have BP := Lib.hid (Box.new (hi rfl))
 clear hi
 go_upto_region 11 with (fail)
 generalize w7.alloc (.cells #[.bool t5, .slice A5 m5 d5] 58) = W8 at E BP ⊢
 generalize w7.heap.size = gp at BP ⊢
 have x0 := E.out.bc.c0
 have x1 := E.out.bc.c1
 have o0 := BP.out.c0
 have o1 := BP.out.c1
 go_wp2_with fail
 refine (refSame_z BP.out.is E.out.bc.is (by have := HLN.out; omega)).mono ?_
 rintro e w9 ⟨rfl, hb⟩
 replace E := Lib.hid (E.out.next hb)
 clear hb x0 x1 o0 o1
 have HF := Lib.hid (show powB a (N : Int) c = decide (a ^ N = c) by
  unfold powB
  rw [show ((N : Int)).toNat = N from Int.toNat_natCast N]
  by_cases h : a ^ N = c
  · rw [decide_eq_true h, decide_eq_true ⟨HA1.out, HB0.out, h⟩]
  · rw [decide_eq_false h, decide_eq_false (fun q => h q.2.2)])
 generalize decide (a ^ N = c) = v at HF ⊢
 go_wp2
 go_ret
 exact isB_of HF.out E.out.low
set_option maxHeartbeats 8000000 in
theorem wide9_c (V : Int) (A : Option Addr) (n c : Nat) (ls : List Lnk) (X : Option Addr) (nx cx : Nat) (ns : List Nmr) (most : Int) (w : World) (h : RdL w A n ls) (h' : RdN w X nx ns) (hx : nx ≤ 9223372036854775807) (hn : n ≤ 9223372036854775807) :
 Calls Tryz.prog 8 #[aggS V A n c, .slice X nx cx, .int .i64 most] w (LightP V ls nx ns most w) := by
 have k1 := bel_alloc w (boxS V A n c)
 have X0 := Lib.hid (show SL w (w.alloc (boxS V A n c)) w.heap.size V A n c from ⟨k1, BxY.new w V A n c⟩)
 have HI := Lib.hid (And.intro h h')
 have HL := Lib.hid (And.intro h.len h'.len)
 clear k1 h h'
 go_enter Tryz.func8, Tryz.ntmps8
 go_upto_region 1 with (fail)
 generalize w.alloc (boxS V A n c) = W0 at X0 ⊢
 obtain ⟨g, hg⟩ : ∃ g, g = w.heap.size := ⟨_, rfl⟩
 rw [← hg] at X0 ⊢
 clear hg
 have a0 := X0.out.bx.c0
 have a1 := X0.out.bx.c1
 go_wp2_with fail
 refine (light9_c V A n c ls X nx cx ns most _ (HI.out.1.below X0.out.low) (HI.out.2.below X0.out.low) hx hn).mono ?_
 rintro e w0 ⟨b, rfl, hb, hl⟩
 replace X0 := Lib.hid (X0.out.next hb)
 have HLI := Lib.hid hl
 clear hb hl a0 a1
 cases b with
 | true =>
   go_wp2
   go_ret
   exact ⟨true, rfl, X0.out.low, fun _ => HLI.out True.intro⟩
 | false =>
 clear HLI
 have a1 := X0.out.bx.c1
 by_cases q1 : 6000 < n
 · have t1 : decide ((6000 : Int) < (n : Int)) = true := decide_eq_true (by omega)
   have t1n : decide (6000 < n) = true := decide_eq_true q1
   go_wp2
   go_ret
   exact LightP.no X0.out.low
 have t1 : decide ((6000 : Int) < (n : Int)) = false := decide_eq_false (by omega)
 have t1n : decide (6000 < n) = false := decide_eq_false q1
 by_cases q2 : 20100 < nx
 · have t2 : decide ((20100 : Int) < (nx : Int)) = true := decide_eq_true (by omega)
   have t2n : decide (20100 < nx) = true := decide_eq_true q2
   go_wp2
   go_ret
   exact LightP.no X0.out.low
 have t2 : decide ((20100 : Int) < (nx : Int)) = false := decide_eq_false (by omega)
 have t2n : decide (20100 < nx) = false := decide_eq_false q2
 have HN := Lib.hid (show n ≤ 6000 ∧ nx ≤ 20100 from ⟨by omega, by omega⟩)
 clear q1 q2 hx hn
 go_wp2
 clear a1 t1 t1n t2 t2n
 go_loopw [7, 8] (fun v7 v8 wr => ∃ (i : Nat), v8 = .int .i64 (i : Int) ∧ (∃ C : Int, v7 = .int .i64 C) ∧ i ≤ n ∧ SL w wr g V A n c) (fun _ v _ => n - (intOf v).toNat)
 case atStart => exact ⟨0, rfl, ⟨0, rfl⟩, Nat.zero_le _, X0.out⟩
 case round =>
  obtain ⟨i, rfl, ⟨C, rfl⟩, hi, hx⟩ := hrel
  clear X0
  have X0 := Lib.hid hx
  have hnn := HN.out.1
  clear hx
  have a1 := X0.out.bx.c1
  by_cases hin : i < n
  · have t1 : decide ((i : Int) < (n : Int)) = true := decide_eq_true (by omega)
    have t1n : decide (i < n) = true := decide_eq_true hin
    have hiI : (i : Int) < (n : Int) := by omega
    by_cases hC0 : C ≤ 300000
    case neg =>
     have t2 : decide (C ≤ 300000) = false := decide_eq_false hC0
     have t3 : decide (300000 < C) = true := decide_eq_true (by omega)
     go_wp2
     go_ret
     exact LightP.no X0.out.low
    case pos =>
    have t2 : decide (C ≤ 300000) = true := decide_eq_true hC0
    clear hC0
    obtain ⟨bL, oL, rfl, hltL, hcL⟩ := HI.out.1.at_ (by omega)
    obtain ⟨B1, m1, d1, C1, p1, q1, hK⟩ := hcL i hin
    obtain ⟨l, hl⟩ : ∃ x, x = lnkAt ls i := ⟨_, rfl⟩
    rw [← hl] at hK
    have LK := Lib.hid (LkA.mk hltL hK)
    have HRP := Lib.hid hK.rp
    have HPQ := Lib.hid (show p1 ≤ 9223372036854775807 from Nat.le_trans hK.pq hK.qm)
    clear hl hK hcL hltL
    have LW := LK.out.next X0.out.low
    have b1 := LW.is.c1
    have b2 := LW.is.c2
    clear LW
    go_upto_region 9 with (fail)
    go_quiet (fail)
    have hdr := below_drewN (Below.refl wr.heap.size wr) nq
    have X1 := Lib.hid (X0.out.next hdr)
    clear hdr a1 b1 b2 X0 t1 t1n t2
    generalize wr.drewN nq = W1 at X1 ⊢
    go_wp2
    go_loopw [7, 9] (fun v7 v9 wq => ∃ (j : Nat), v9 = .int .i64 (j : Int) ∧ (∃ C : Int, v7 = .int .i64 C) ∧ j ≤ p1 ∧ SL w wq g V (some ⟨bL, oL, none⟩) n c) (fun _ v _ => p1 - (intOf v).toNat)
    case atStart => exact ⟨0, rfl, ⟨_, rfl⟩, Nat.zero_le _, X1.out⟩
    case round =>
     obtain ⟨j, rfl, ⟨C', rfl⟩, hj, hx⟩ := hrel
     clear X1
     have X0 := Lib.hid hx
     clear hx
     have hpp := HPQ.out
     have a1 := X0.out.bx.c1
     have LW := LK.out.next X0.out.low
     have b2 := LW.is.c2
     clear LW
     by_cases hjp : j < p1
     · have t1 : decide ((j : Int) < (p1 : Int)) = true := decide_eq_true (by omega)
       have t1n : decide (j < p1) = true := decide_eq_true hjp
       have hjI : (j : Int) < (p1 : Int) := by omega
       by_cases hC : C' ≤ 300000
       · have t2 : decide (C' ≤ 300000) = true := decide_eq_true hC
         obtain ⟨bP, oP, rfl, hltP, hcP⟩ := HRP.out.at_ (by omega)
         obtain ⟨A4, n4, c4, hP⟩ := hcP j hjp
         have d1 := (PlA.next ⟨hltP, hP⟩ X0.out.low).is.c1
         have PT := Lib.hid hP.rt
         have HN4 := Lib.hid (show n4 ≤ 9223372036854775807 from Nat.le_trans hP.nc hP.cm)
         clear hP hcP hltP hC
         go_wp2
         clear a1 b2 d1 t1 t1n t2
         go_loopw [7, 11] (fun v7 v11 wq => ∃ (k : Nat), v11 = .int .i64 (k : Int) ∧ (∃ C : Int, v7 = .int .i64 C) ∧ k ≤ n4 ∧ SL w wq g V (some ⟨bL, oL, none⟩) n c) (fun _ v _ => n4 - (intOf v).toNat)
         case atStart => exact ⟨0, rfl, ⟨_, rfl⟩, Nat.zero_le _, X0.out⟩
         case round =>
          obtain ⟨k, rfl, ⟨C'', rfl⟩, hk, hx⟩ := hrel
          clear X0
          have X0 := Lib.hid hx
          clear hx
          have hn4 := HN4.out
          by_cases hkn : k < n4
          · have t1 : decide ((k : Int) < (n4 : Int)) = true := decide_eq_true (by omega)
            have t1n : decide (k < n4) = true := decide_eq_true hkn
            have hkI : (k : Int) < (n4 : Int) := by omega
            by_cases hC : C'' ≤ 300000
            · have t2 : decide (C'' ≤ 300000) = true := decide_eq_true hC
              obtain ⟨bT, oT, rfl, hblt, hcell⟩ := PT.out.at_ (by omega)
              obtain ⟨A5, n5, c5, B5, m5, e5, hT0⟩ := hcell k hkn
              have TW := (TrA.mk hblt hT0).next X0.out.low
              have b1 := TW.is.c1
              have b2 := TW.is.c2
              clear TW hT0 hcell hC
              go_upto_region 18 with (fail)
              go_quiet (fail)
              have hdr := below_drewN (Below.refl wr.heap.size wr) nq
              have X1 := Lib.hid (X0.out.next hdr)
              clear hdr b1 b2 X0 t1 t1n t2
              generalize wr.drewN nq = W1 at X1 ⊢
              go_wp2
              go_roundw
              case measure => simp [intOf]; omega
              case rel => exact ⟨k + 1, by go_num, ⟨_, rfl⟩, by omega, X1.out⟩
            · have t2 : decide (C'' ≤ 300000) = false := decide_eq_false hC
              clear hC
              go_wp2
              go_roundw
              case measure => simp [intOf]; omega
              case rel => exact ⟨j + 1, by go_num, ⟨_, rfl⟩, by omega, X0.out⟩
          · have t1 : decide ((k : Int) < (n4 : Int)) = false := decide_eq_false (by omega)
            have t1n : decide (k < n4) = false := decide_eq_false hkn
            go_wp2
            go_roundw
            case measure => simp [intOf]; omega
            case rel => exact ⟨j + 1, by go_num, ⟨_, rfl⟩, by omega, X0.out⟩
       · have t2 : decide (C' ≤ 300000) = false := decide_eq_false hC
         clear hC
         go_wp2
         go_roundw
         case measure => simp [intOf]; omega
         case rel => exact ⟨i + 1, by go_num, ⟨_, rfl⟩, by omega, X0.out⟩
     · have t1 : decide ((j : Int) < (p1 : Int)) = false := decide_eq_false (by omega)
       have t1n : decide (j < p1) = false := decide_eq_false hjp
       go_wp2
       go_roundw
       case measure => simp [intOf]; omega
       case rel => exact ⟨i + 1, by go_num, ⟨_, rfl⟩, by omega, X0.out⟩
  · have t1 : decide ((i : Int) < (n : Int)) = false := decide_eq_false (by omega)
    have t1n : decide (i < n) = false := decide_eq_false hin
    by_cases hC0 : 300000 < C
    · have t3 : decide (300000 < C) = true := decide_eq_true hC0
      go_wp2
      go_ret
      exact LightP.no X0.out.low
    have t3 : decide (300000 < C) = false := decide_eq_false hC0
    clear hC0
    have a0 := X0.out.bx.c0
    go_wp2_with fail
    refine (refSysValid_c V A n c ls _ (HI.out.1.below X0.out.low)).mono ?_
    rintro e w1 ⟨rfl, hb⟩
    have X1 := Lib.hid (X0.out.next hb)
    clear hb a0 a1 X0 t1 t1n t3 hin
    obtain ⟨v, hv⟩ : ∃ v, v = validS V ls := ⟨_, rfl⟩
    rw [← hv]
    have HV := Lib.hid hv
    clear hv
    cases v with
    | false =>
      go_wp2
      go_ret
      exact ⟨true, rfl, X1.out.low, fun _ hq => by rw [← HV.out] at hq; cases hq⟩
    | true =>
    have a0 := X1.out.bx.c0
    have a1 := X1.out.bx.c1
    by_cases hm : (nx : Int) = V
    case neg =>
     have t0 : ((nx : Int) != V) = true := by rw [bne_iff_ne]; exact hm
     have HM := Lib.hid hm
     clear hm
     go_wp2
     go_ret
     exact ⟨true, rfl, X1.out.low, fun _ _ hq => absurd hq HM.out⟩
    case pos =>
    have t0 : ((nx : Int) != V) = false := by rw [hm]; exact bne_self_eq_false _
    have HM := Lib.hid hm
    clear hm
    go_wp2_with fail
    refine (refSysLoad_c V A n c ls X nx cx ns _ (HI.out.1.below X1.out.low) (HI.out.2.below X1.out.low) HV.out.symm HM.out).mono ?_
    rintro e w2 ⟨v, rfl, hb, hs⟩
    have X2 := Lib.hid (X1.out.next hb)
    have HS := Lib.hid hs
    clear hb hs X1 a0 a1 t0
    by_cases hm : most ≤ 60
    · have u1 : ¬ 60 < most := by omega
      have u2 : min most 60 = most := by omega
      go_wp2
      go_ret
      exact ⟨_, rfl, X2.out.low, fun hq _ _ hal => (HS.out hal).mono (by have h := of_decide_eq_true hq; revert h; (try split) <;> intro h <;> omega)⟩
    · have u1 : 60 < most := by omega
      have u2 : min most 60 = 60 := by omega
      go_wp2
      go_ret
      exact ⟨_, rfl, X2.out.low, fun hq _ _ hal => (HS.out hal).mono (by have h := of_decide_eq_true hq; revert h; (try split) <;> intro h <;> omega)⟩
theorem pw_plus (a b : Nat) : pw (a + b) = pw a * pw b := by rw [pw_two, pw_two, pw_two, Nat.mul_add, Nat.pow_add]
theorem pw_times (e a : Nat) : pw (e * a) = pw a ^ e := by
 rw [pw_two, pw_two, ← Nat.pow_mul]
 congr 1
 rw [Nat.mul_comm e a, Nat.mul_assoc]
theorem pw_up {a b : Nat} (h : a ≤ b) : pw a ≤ pw b := by
 rw [pw_two, pw_two]
 exact Nat.pow_le_pow_right (by decide) (Nat.mul_le_mul_left _ h)
theorem RdN.small {w : World} {A : Option Addr} {n : Nat} {ns : List Nmr} (h : RdN w A n ns) : ∀ i, i < ns.length → small (nmAt ns i).xs := fun i hi => by
 have hl := h.len
 obtain ⟨b, o, _, _, hc⟩ := h.at_ (by omega)
 obtain ⟨A1, n1, c1, hN⟩ := hc i (by omega)
 exact hN.rd.sm
theorem RdT.small {w : World} {A : Option Addr} {n : Nat} {ts : List Trm} (h : RdT w A n ts) : ∀ i, i < ts.length → small (trmAt ts i).xs := fun i hi => by
 have hl := h.len
 obtain ⟨b, o, _, _, hc⟩ := h.at_ (by omega)
 obtain ⟨A1, n1, c1, B1, m1, d1, hT⟩ := hc i (by omega)
 exact hT.rd.sm
theorem valid_short {s : Bool} {xs : List Nat} (h : small xs) : (sgn s (val xs)).natAbs ≤ pw xs.length := by
 rw [sgn_abs]
 exact Nat.le_of_lt (val_lt h)
theorem term_short {t : Trm} {ns : List Nmr} (ht : small t.xs) (hn : ∀ i, i < ns.length → small (nmAt ns i).xs) : ∀ k, k ≤ ns.length → (trZ t * prodI t.es ns k).natAbs * pw 1 ≤ pw (loadT t ns k)
 | 0, _ => by
   show (trZ t * 1).natAbs * pw 1 ≤ pw (t.xs.length + 1)
   rw [Int.mul_one, pw_plus]
   exact Nat.mul_le_mul_right _ (valid_short ht)
 | k + 1, hk => by
   have ih := term_short (t := t) ht hn k (by omega)
   show (trZ t * (prodI t.es ns k * nmZ (nmAt ns k) ^ (t.es.getD k 0).toNat)).natAbs * pw 1 ≤ pw (loadT t ns k + (t.es.getD k 0).toNat * (nmAt ns k).xs.length)
   rw [← Int.mul_assoc, Int.natAbs_mul, Int.natAbs_pow, pw_plus, pw_times]
   have hv := hn k (by omega)
   have h2 : (nmZ (nmAt ns k)).natAbs ^ (t.es.getD k 0).toNat ≤ pw (nmAt ns k).xs.length ^ (t.es.getD k 0).toNat := Nat.pow_le_pow_left (valid_short hv) _
   calc _ = ((trZ t * prodI t.es ns k).natAbs * pw 1) * (nmZ (nmAt ns k)).natAbs ^ (t.es.getD k 0).toNat := by rw [Nat.mul_right_comm]
    _ ≤ _ := Nat.mul_le_mul ih h2
theorem most_le (ts : List Trm) (ns : List Nmr) : ∀ k j, j < k → loadT (trmAt ts j) ns (trmAt ts j).es.length ≤ mostT ts ns k
 | 0, j, h => absurd h (by omega)
 | k + 1, j, h => by
   show _ ≤ max (mostT ts ns k) (loadT (trmAt ts k) ns (trmAt ts k).es.length)
   by_cases e : j = k
   · rw [e]; exact Nat.le_max_right _ _
   · exact Nat.le_trans (most_le ts ns k j (by omega)) (Nat.le_max_left _ _)
theorem all_short {V : Int} {ts : List Trm} {ns : List Nmr} (hv : validP V ts = true) (hm : (ns.length : Int) = V) (hs : ∀ j, j < ts.length → small (trmAt ts j).xs) (hn : ∀ i, i < ns.length → small (nmAt ns i).xs) : ∀ k, k ≤ ts.length → allV ts ns k * pw 1 ≤ k * pw (loadP ts ns)
 | 0, _ => by show 0 * pw 1 ≤ _; rw [Nat.zero_mul]; exact Nat.zero_le _
 | k + 1, hk => by
   have ih := all_short hv hm hs hn k (by omega)
   have hvt := vp_at hv (k := k) (by omega)
   have h1 := vt_exps hvt
   have h2 := term_short (t := trmAt ts k) (hs k (by omega)) hn (trmAt ts k).es.length (by omega)
   have h3 := pw_up (most_le ts ns ts.length k (by omega))
   show (allV ts ns k + (trZ (trmAt ts k) * prodI (trmAt ts k).es ns (trmAt ts k).es.length).natAbs) * pw 1 ≤ _
   rw [Nat.add_mul, Nat.add_mul, Nat.one_mul]
   exact Nat.add_le_add ih (Nat.le_trans h2 h3)
theorem load_short {V : Int} {ts : List Trm} {ns : List Nmr} (hv : validP V ts = true) (hm : (ns.length : Int) = V) (hs : ∀ j, j < ts.length → small (trmAt ts j).xs) (hn : ∀ i, i < ns.length → small (nmAt ns i).xs) : allV ts ns ts.length < pw (loadP ts ns) + 1 := by
 have h := all_short hv hm hs hn ts.length (Nat.le_refl _)
 have hb := (vp_bounds hv).2.2
 have h1 : ts.length * pw (loadP ts ns) ≤ pw (loadP ts ns) * pw 1 := by
  rw [Nat.mul_comm]
  exact Nat.mul_le_mul_left _ (Nat.le_trans hb (by rw [pw_two]; decide))
 have h2 := Nat.le_of_mul_le_mul_right (Nat.le_trans h h1) (by rw [pw_two]; decide)
 omega
theorem own_small {vs : List Int} {ps : List Ply} {kind V : Int} {ns : List Nmr} (hv : validLnk ⟨kind, vs, ps⟩ V = true) (hm : (ns.length : Int) = V) (hn : ∀ i, i < ns.length → small (nmAt ns i).xs) : ∀ i, i < (ownOf vs ns).length → small (nmAt (ownOf vs ns) i).xs := fun i hi => by
 rw [ownOf_len] at hi
 rw [ownOf_at hi]
 have h1 := vl_vars hv i hi
 exact hn _ (by omega)
theorem sys_short {w : World} {V M : Int} {A : Option Addr} {n : Nat} {ls : List Lnk} {X : Option Addr} {nx : Nat} {ns : List Nmr} (h : RdL w A n ls) (h' : RdN w X nx ns) (hv : validS V ls = true) (hm : (nx : Int) = V) (hs : sysMost ls ns ls.length M) (hM : M ≤ 600) :
 ∀ i, i < ls.length → ∀ j, j < (lnkAt ls i).ps.length → allV (plyAt (lnkAt ls i).ps j).ts (ownOf (lnkAt ls i).vs ns) (plyAt (lnkAt ls i).ps j).ts.length ≤ pw 600 := fun i hi j hj => by
 have hl := h.len
 have hl' := h'.len
 obtain ⟨b, o, _, _, hc⟩ := h.at_ (by omega)
 obtain ⟨B1, m1, d1, C1, p1, q1, hK⟩ := hc i (by omega)
 have hvl := vs_link hv hi
 have hlo := hs i hi j hj
 generalize lnkAt ls i = l at hj hK hvl hlo ⊢
 obtain ⟨kind, vs, ps⟩ := l
 dsimp only at hj hlo ⊢
 have hp : RdP w C1 p1 ps := hK.rp
 have hpl := hp.len
 obtain ⟨bP, oP, _, _, hcP⟩ := hp.at_ (by omega)
 obtain ⟨A4, n4, c4, hP⟩ := hcP j (by omega)
 have hV1 := vl_polys hvl j hj
 have h1 := load_short hV1.2 (ns := ownOf vs ns) (by rw [ownOf_len]; exact hV1.1.symm) (RdT.small hP.rt) (own_small hvl (by omega) (RdN.small h'))
 have h2 : loadP (plyAt ps j).ts (ownOf vs ns) ≤ 600 := by omega
 have h3 := pw_up h2
 omega
theorem ok_short {ps : List Ply} {os : List Nmr} (h : ∀ j, j < ps.length → allV (plyAt ps j).ts os (plyAt ps j).ts.length ≤ pw 600) : okPs ps os = true :=
 decide_eq_true fun i hi => Nat.lt_of_le_of_lt (h i hi) (pw_lt (by decide))
end Go.Proofs.YteabokkofoomkaaGreat
namespace Go.Proofs.YteabokkofoomkaaGreat
open Go.RowKit
set_option maxHeartbeats 400000 in
theorem Under_neg (s s' : Bool) (A A' : Option Addr) (n c n' c' : Nat) (xs ys : List Nat) (w : World) (h : Rd w A n xs) (h' : Rd w A' n' ys) (hv : (validB s xs && validB s' ys) = true) (hs : (s || s') = true) :
 Calls Tryz.prog 80 #[.agg #[.bool s, .slice A n c], .agg #[.bool s', .slice A' n' c']] w (fun e w' => e = .returned (.tuple #[.bool false, .int .i64 2]) ∧ Below w.heap.size w w') := by
 have HV := Lib.hid hv
 clear hv
 go_enter Tryz.func80, Tryz.ntmps80
 go_wp2_with fail
 have E := (Env2.start w s s' A A' n c n' c').alloc (.cells #[.bool s, .slice A n c, .bool s', .slice A' n' c'] 58)
 refine (allValid_c (w.heap.size + 1 + 1) s s' A A' n c n' c' xs ys _ (h.below E.below) (h'.below E.below) (by simp) (by go_simp) (by go_simp) (by go_simp) (by go_simp)).mono ?_
 rintro e w1 ⟨rfl, hb⟩
 rw [HV.out]
 have E1 := Lib.hid (E.next hb)
 clear E hb
 have a0 := E1.out.a0
 have b0 := E1.out.b0
 clear h h'
 rcases s with _ | _
 · obtain rfl : s' = true := by simpa using hs
   go_wp2
   go_ret2
   exact ⟨rfl, E1.out.below⟩
 · clear hs
   go_wp2
   go_ret2
   exact ⟨rfl, E1.out.below⟩
end Go.Proofs.YteabokkofoomkaaGreat

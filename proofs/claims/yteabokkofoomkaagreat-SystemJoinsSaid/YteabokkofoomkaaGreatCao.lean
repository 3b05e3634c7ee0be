import Derived.Test.YteabokkofoomkaaGreatCan
import Derived.Test.YteabokkofoomkaaGreatCah
import Derived.Test.YteabokkofoomkaaGreatCam
namespace Go.Proofs.YteabokkofoomkaaGreat
open Go.RowKit
set_option maxHeartbeats 1000000 in
set_option maxRecDepth 100000 in
theorem Power_one {w : World} {z : Int} {t : Bool} {A : Option Addr} {n c : Nat} (h : Is w z t A n c) (hn : n ≤ 4096) (u : Bool) (hz : blen z.natAbs ≤ 1) (k : Nat) (hk0 : 0 < k) (hk : k < 9223372036854775808) (hs : sgn u z.natAbs = z ^ k) (hu : (t && decide ((k : Int) % 2 = 1)) = u) :
 Calls Tryz.prog 119 #[.agg #[.bool t, .slice A n c], .int .i64 (k : Int)] w (Num w (z ^ k)) := by
 have S : Sz z 4096 := by show z.natAbs < pw 4096; exact words_len_le.1 (by rw [← h.2.1]; exact hn)
 obtain ⟨r, v, s, hc, hc2⟩ := h.raw S (Nat.le_refl _)
 have hbl2 := blen_sz S
 have HV := Lib.hid v
 have HI := Lib.hid h
 have HR := Lib.hid r
 have E := Lib.hid (Env1r.start w t A n c)
 clear v r h s
 obtain ⟨K, hK⟩ : ∃ K : Int, K = (k : Int) := ⟨_, rfl⟩
 have hK0 : 0 < K := by omega
 have hK1 : K ≤ 9223372036854775807 := by omega
 rw [← hK]
 rw [← hK] at hu
 have HKk := Lib.hid hK
 have HS := Lib.hid hs
 have HU := Lib.hid hu
 clear hK hk0 hk hs hu
 have t0 : (K == 0) = false := by rw [beq_eq_false_iff_ne]; omega
 go_enter Tryz.func119, Tryz.ntmps119
 go_wp2_with fail
 generalize (w.alloc (.cells #[.bool t, .slice A n c] 58)).alloc (.cells #[.bool false, .slice none 0 0] 58) = W at E ⊢
 refine (valid_c t A n c _ W (HR.out.below E.out.below)).mono ?_
 rintro e w1 ⟨rfl, hb⟩
 rw [HV.out]
 replace E := Lib.hid (E.out.next hb)
 clear hb
 have a0 := E.out.a0
 have a1 := E.out.a1
 go_wp2_with fail
 refine (Bits_c (HI.out.below E.out.below) hn).mono ?_
 rintro e w2 ⟨rfl, hb⟩
 replace E := Lib.hid (E.out.next hb)
 clear hb
 replace a0 := E.out.a0
 replace a1 := E.out.a1
 obtain ⟨b, hb0⟩ : ∃ b, b = blen z.natAbs := ⟨_, rfl⟩
 rw [← hb0]
 rw [← hb0] at hz
 clear hb0 S hbl2
 cases t
 · obtain rfl : u = false := by rw [← HU.out]; rfl
   go_wp2_with fail
   refine (clone_c A n c _ _ (HR.out.below E.out.below) (by omega)).mono ?_
   rintro e w3 ⟨g, rfl, hg, o1, o2⟩
   replace E := Lib.hid (E.out.next o2)
   have O1 := Lib.hid o1.rd
   clear o1 o2 a0 a1
   go_wp2_with fail
   refine (number_c false (some ⟨g, 0, none⟩) _ _ _ _ O1.out (Nat.le_refl _) (by have := HI.out.2.1; omega)).mono ?_
   rw [val_words, HS.out]
   rintro e w4 ⟨t', B, m', d', k', rfl, hnum, hb⟩
   replace E := Lib.hid (E.out.next hb)
   have HN := Lib.hid hnum
   clear hnum hb
   have r0 := E.out.res.r0
   have r1 := E.out.res.r1
   have f0 := E.out.res.f0
   have f1 := E.out.res.f1
   go_wp2
   refine bodyPost_ret (v := .tuple #[.agg #[.bool t', .slice B m' d'], .int .i64 k']) (by simp [results, Tryz.results119, go_sem, r0, r1]) rfl ?_
   exact ⟨t', B, m', d', k', rfl, HN.out.store r0 r1 _ _, below_store E.out.below (by omega) _ _⟩
 · by_cases hodd : K % 2 = 1
   · obtain rfl : u = true := by rw [← HU.out, decide_eq_true hodd]; rfl
     have tb : (K % 2 == 1) = true := by rw [beq_iff_eq]; exact hodd
     clear hodd
     go_wp2_with fail
     refine (clone_c A n c _ _ (HR.out.below E.out.below) (by omega)).mono ?_
     rintro e w3 ⟨g, rfl, hg, o1, o2⟩
     replace E := Lib.hid (E.out.next o2)
     have O1 := Lib.hid o1.rd
     clear o1 o2 a0 a1
     go_wp2_with fail
     refine (number_c true (some ⟨g, 0, none⟩) _ _ _ _ O1.out (Nat.le_refl _) (by have := HI.out.2.1; omega)).mono ?_
     rw [val_words, HS.out]
     rintro e w4 ⟨t', B, m', d', k', rfl, hnum, hb⟩
     replace E := Lib.hid (E.out.next hb)
     have HN := Lib.hid hnum
     clear hnum hb
     have r0 := E.out.res.r0
     have r1 := E.out.res.r1
     have f0 := E.out.res.f0
     have f1 := E.out.res.f1
     go_wp2
     refine bodyPost_ret (v := .tuple #[.agg #[.bool t', .slice B m' d'], .int .i64 k']) (by simp [results, Tryz.results119, go_sem, r0, r1]) rfl ?_
     exact ⟨t', B, m', d', k', rfl, HN.out.store r0 r1 _ _, below_store E.out.below (by omega) _ _⟩
   · obtain rfl : u = false := by rw [← HU.out, decide_eq_false hodd]; rfl
     have tb : (K % 2 == 1) = false := by rw [beq_eq_false_iff_ne]; exact hodd
     clear hodd
     go_wp2_with fail
     refine (clone_c A n c _ _ (HR.out.below E.out.below) (by omega)).mono ?_
     rintro e w3 ⟨g, rfl, hg, o1, o2⟩
     replace E := Lib.hid (E.out.next o2)
     have O1 := Lib.hid o1.rd
     clear o1 o2 a0 a1
     go_wp2_with fail
     refine (number_c false (some ⟨g, 0, none⟩) _ _ _ _ O1.out (Nat.le_refl _) (by have := HI.out.2.1; omega)).mono ?_
     rw [val_words, HS.out]
     rintro e w4 ⟨t', B, m', d', k', rfl, hnum, hb⟩
     replace E := Lib.hid (E.out.next hb)
     have HN := Lib.hid hnum
     clear hnum hb
     have r0 := E.out.res.r0
     have r1 := E.out.res.r1
     have f0 := E.out.res.f0
     have f1 := E.out.res.f1
     go_wp2
     refine bodyPost_ret (v := .tuple #[.agg #[.bool t', .slice B m' d'], .int .i64 k']) (by simp [results, Tryz.results119, go_sem, r0, r1]) rfl ?_
     exact ⟨t', B, m', d', k', rfl, HN.out.store r0 r1 _ _, below_store E.out.below (by omega) _ _⟩
theorem pow_one_sgn {z : Int} {k : Nat} (h : blen z.natAbs ≤ 1) (h0 : 0 < k) : sgn (decide (z < 0) && decide ((k : Int) % 2 = 1)) z.natAbs = z ^ k := by
 have h1 : z.natAbs < 2 ^ 1 := blen_le.1 h
 have h2 : z = 0 ∨ z = 1 ∨ z = -1 := by omega
 rcases h2 with rfl | rfl | rfl
 · rw [Int.zero_pow (by omega)]; simp [sgn]
 · rw [Int.one_pow]; simp [sgn]
 · by_cases hk : k % 2 = 1
   · obtain ⟨m, rfl⟩ : ∃ m, k = 2 * m + 1 := ⟨k / 2, by omega⟩
     have e : (((2 * m + 1 : Nat) : Int) % 2 = 1) := by omega
     rw [decide_eq_true e, Int.pow_succ, Int.pow_mul, show ((-1 : Int) ^ 2) = 1 from rfl, Int.one_pow]
     rfl
   · obtain ⟨m, rfl⟩ : ∃ m, k = 2 * m := ⟨k / 2, by omega⟩
     have e : ¬ (((2 * m : Nat) : Int) % 2 = 1) := by omega
     rw [decide_eq_false e, Int.pow_mul, show ((-1 : Int) ^ 2) = 1 from rfl, Int.one_pow]
     rfl
set_option maxHeartbeats 1000000 in
set_option maxRecDepth 100000 in
theorem Power_zero {w : World} {z : Int} {t : Bool} {A : Option Addr} {n c : Nat} (h : Is w z t A n c) (hn : n ≤ 4096) :
 Calls Tryz.prog 119 #[.agg #[.bool t, .slice A n c], .int .i64 0] w (Num w 1) := by
 have S : Sz z 4096 := by show z.natAbs < pw 4096; exact words_len_le.1 (by rw [← h.2.1]; exact hn)
 obtain ⟨r, v, s, hc, hc2⟩ := h.raw S (Nat.le_refl _)
 have HV := Lib.hid v
 have HR := Lib.hid r
 have E := Lib.hid (Env1r.start w t A n c)
 clear v r h s S
 go_enter Tryz.func119, Tryz.ntmps119
 go_wp2_with fail
 generalize (w.alloc (.cells #[.bool t, .slice A n c] 58)).alloc (.cells #[.bool false, .slice none 0 0] 58) = W at E ⊢
 refine (valid_c t A n c _ W (HR.out.below E.out.below)).mono ?_
 rintro e w1 ⟨rfl, hb⟩
 rw [HV.out]
 replace E := Lib.hid (E.out.next hb)
 clear hb
 go_wp2_with fail
 refine (of_nat 1 _ (by omega)).mono ?_
 rintro e w3 ⟨B, d, rfl, o1, o2, o3, o4⟩
 replace E := Lib.hid (E.out.next o4)
 have I1 := Lib.hid (show Is w3 1 false B (words 1).length d from ⟨rfl, rfl, o1, o2, o3⟩)
 have HL := Lib.hid (show (words 1).length ≤ 4096 by rw [words_one (by omega) (by omega)]; decide)
 clear o1 o2 o3 o4
 have r0 := E.out.res.r0
 have r1 := E.out.res.r1
 have f0 := E.out.res.f0
 have f1 := E.out.res.f1
 obtain ⟨m, hm⟩ : ∃ m, m = (words 1).length := ⟨_, rfl⟩
 rw [← hm] at I1 HL ⊢
 clear hm
 go_wp2
 refine bodyPost_ret (v := .tuple #[.agg #[.bool false, .slice B m d], .int .i64 0]) (by simp [results, Tryz.results119, go_sem, r0, r1]) rfl ?_
 exact ⟨false, B, m, d, 0, rfl, (I1.out.numIs HL.out).store r0 r1 _ _, below_store E.out.below (by omega) _ _⟩
set_option maxHeartbeats 1000000 in
set_option maxRecDepth 100000 in
theorem Power_big {w : World} {z : Int} {t : Bool} {A : Option Addr} {n c : Nat} (h : Is w z t A n c) (hn : n ≤ 4096) (hz : 1 < blen z.natAbs) (K : Int) (hK : 131072 ≤ K) :
 Calls Tryz.prog 119 #[.agg #[.bool t, .slice A n c], .int .i64 K] w (Bad w 4) := by
 have S : Sz z 4096 := by show z.natAbs < pw 4096; exact words_len_le.1 (by rw [← h.2.1]; exact hn)
 obtain ⟨r, v, s, hc, hc2⟩ := h.raw S (Nat.le_refl _)
 have HV := Lib.hid v
 have HI := Lib.hid h
 have HR := Lib.hid r
 have E := Lib.hid (Env1r.start w t A n c)
 clear v r h s S
 have t0 : (K == 0) = false := by rw [beq_eq_false_iff_ne]; omega
 go_enter Tryz.func119, Tryz.ntmps119
 go_wp2_with fail
 generalize (w.alloc (.cells #[.bool t, .slice A n c] 58)).alloc (.cells #[.bool false, .slice none 0 0] 58) = W at E ⊢
 refine (valid_c t A n c _ W (HR.out.below E.out.below)).mono ?_
 rintro e w1 ⟨rfl, hb⟩
 rw [HV.out]
 replace E := Lib.hid (E.out.next hb)
 clear hb
 have a0 := E.out.a0
 have a1 := E.out.a1
 go_wp2_with fail
 refine (Bits_c (HI.out.below E.out.below) hn).mono ?_
 rintro e w2 ⟨rfl, hb⟩
 replace E := Lib.hid (E.out.next hb)
 clear hb
 obtain ⟨b, hb0⟩ : ∃ b, b = blen z.natAbs := ⟨_, rfl⟩
 rw [← hb0]
 rw [← hb0] at hz
 clear hb0 a0 a1
 have r0 := E.out.res.r0
 have r1 := E.out.res.r1
 have f0 := E.out.res.f0
 have f1 := E.out.res.f1
 go_wp2
 refine bodyPost_ret (v := .tuple #[.agg #[.bool false, .slice none 0 0], .int .i64 4]) (by simp [results, Tryz.results119, go_sem, r0, r1]) rfl ?_
 exact ⟨rfl, below_store E.out.below (by omega) _ _⟩
theorem pow_long {z : Int} {k : Nat} (hz : 1 < blen z.natAbs) (hk : 131072 ≤ k) : ¬ (words (z ^ k).natAbs).length ≤ 4096 := by
 apply long_of_blen
 have h1 : 2 ≤ z.natAbs := by
  rcases Nat.lt_or_ge z.natAbs 2 with h | h
  · have := blen_le (v := z.natAbs) (k := 1)
    have := this.2 h
    omega
  · exact h
 have h2 : 2 ^ k ≤ (z ^ k).natAbs := by rw [Int.natAbs_pow]; exact Nat.pow_le_pow_left h1 k
 have h3 : ¬ blen (z ^ k).natAbs ≤ k := fun h => by have := blen_le.1 h; omega
 omega
theorem Power_is {w : World} {z : Int} {t : Bool} {A : Option Addr} {n c : Nat} (h : Is w z t A n c) (hn : n ≤ 4096) (k : Nat) (hk : k < 9223372036854775808) :
 Calls Tryz.prog 119 #[.agg #[.bool t, .slice A n c], .int .i64 (k : Int)] w (Num w (z ^ k)) := by
 rcases Nat.eq_zero_or_pos k with rfl | h0
 · rw [Int.pow_zero]; exact Power_zero h hn
 by_cases hz : blen z.natAbs ≤ 1
 · exact Power_one h hn _ hz k h0 hk (pow_one_sgn hz h0) (by rw [h.1])
 · by_cases hb : k < 131072
   · exact Power_loop h hn (by omega) k h0 hb
   · exact (Power_big h hn (by omega) (k : Int) (by omega)).mono fun _ _ h => h.num (pow_long (by omega) (by omega))
end Go.Proofs.YteabokkofoomkaaGreat
set_option maxRecDepth 100000
namespace Go.Proofs.YteabokkofoomkaaGreat
open Go.RowKit Go.Shelf
set_option maxHeartbeats 400000 in
theorem cpow_bad (b : Nat) (k : Int) (z : Int) (t : Bool) (A : Option Addr) (n c : Nat) (x : Int) (w : World) (hc : Cc w b k) (hk : k ≠ 0) :
 Calls Tryz.prog 134 #[.pointer (some ⟨b, 0, none⟩), .agg #[.bool t, .slice A n c], .int .i64 x] w (Two b k z w) := by
 have HC := Lib.hid hc
 have hlt := hc.lt
 have q0 : ((w.alloc (.cells #[.bool t, .slice A n c] 58)).alloc (.cells #[.bool false, .slice none 0 0] 58)).cell? ⟨b, 0, none⟩ = some (.int .i64 k) := ((hc.alloc _).alloc _).c0
 have t0 : (k != 0) = true := by simp [hk]
 have t1 : (k == 0) = false := by simp [hk]
 have HK := Lib.hid hk
 clear hc hk
 go_enter Tryz.func134, Tryz.ntmps134
 go_wp2
 refine bodyPost_ret (v := .agg #[.bool false, .slice none 0 0]) (by simp [results, Tryz.results134, go_sem]) rfl ?_
 have h1 := HC.out
 exact ⟨false, none, 0, 0, k, rfl, ((Stp.of_below h1.lt (below_alloc _ _)).trans (Stp.of_below (h1.alloc _).lt (below_alloc _ _))), (h1.alloc _).alloc _, fun h => absurd h HK.out, fun _ => rfl, fun h => absurd h HK.out, fun h => absurd h HK.out⟩
set_option maxHeartbeats 400000 in
theorem cpow_ok (b : Nat) (z : Int) (t : Bool) (A : Option Addr) (n c : Nat) (x : Nat) (w : World) (hc : Cc w b 0) (hx : Iv w z t A n c) (hx0 : x < 9223372036854775808) :
 Calls Tryz.prog 134 #[.pointer (some ⟨b, 0, none⟩), .agg #[.bool t, .slice A n c], .int .i64 (x : Int)] w (Two b 0 (z ^ x) w) := by
 have HC := Lib.hid hc
 have q0 : ((w.alloc (.cells #[.bool t, .slice A n c] 58)).alloc (.cells #[.bool false, .slice none 0 0] 58)).cell? ⟨b, 0, none⟩ = some (.int .i64 0) := ((hc.alloc _).alloc _).c0
 have hlt := hc.lt
 have E := Env1r.start w t A n c
 have C3 := Lib.hid ((hc.alloc (.cells #[.bool t, .slice A n c] 58)).alloc (.cells #[.bool false, .slice none 0 0] 58))
 have HF := Lib.hid (fun w1 hb => Power_is (w := w1) (hx.is.below hb) (by rw [hx.is.2.1]; exact words_len_le.2 hx.sz) x hx0)
 have HE := Lib.hid E
 obtain ⟨X, hX⟩ : ∃ X : Int, X = (x : Int) := ⟨_, rfl⟩
 rw [← hX] at HF ⊢
 generalize z ^ x = zx at HF ⊢
 have a0 := E.a0
 have a1 := E.a1
 clear hc hx E hX hx0
 go_enter Tryz.func134, Tryz.ntmps134
 go_wp2_with fail
 refine (HF.out _ HE.out.below).mono ?_
 rintro e w1 ⟨t1, B, m, d, k1, rfl, hn, hb⟩
 have E1 := Lib.hid (HE.out.next hb)
 have C1 := Lib.hid (C3.out.below hb)
 clear HE hb q0 a0 a1
 by_cases hz : (words zx.natAbs).length ≤ 4096
 · obtain ⟨rfl, hi⟩ := hn.is_ hz
   have HI := Lib.hid hi
   have HZ := Lib.hid hz
   clear hn hi hz
   go_wp2_with fail
   refine (Keep_zero b t1 B m d w1 C1.out).mono ?_
   rintro e w2 ⟨t2, B2, m2, d2, k2, rfl, s2, c2, h2, -, h4⟩
   have hk2 := h4 rfl
   subst hk2
   obtain ⟨-, -, rfl, rfl, rfl, rfl⟩ := h2 rfl
   have hsz := E1.out.size
   have hne : w.heap.size + 1 ≠ b := by omega
   have r0 := (s2.cell (p := ⟨w.heap.size + 1, 0, none⟩) (by simp; omega) hne).trans E1.out.res.r0
   have r1 := (s2.cell (p := ⟨w.heap.size + 1, 1, none⟩) (by simp; omega) hne).trans E1.out.res.r1
   have f0 := (s2.frozen (g := w.heap.size + 1) (o := 0) (by omega) hne).trans E1.out.res.f0
   have f1 := (s2.frozen (g := w.heap.size + 1) (o := 1) (by omega) hne).trans E1.out.res.f1
   have S2 := Lib.hid s2
   have C2 := Lib.hid c2
   clear h2 h4 s2 c2
   go_wp2
   refine bodyPost_ret (v := .agg #[.bool t2, .slice B2 m2 d2]) (by simp [results, Tryz.results134, go_sem, r0, r1]) rfl ?_
   exact ⟨t2, B2, m2, d2, 0, rfl, ((Stp.of_below HC.out.lt E1.out.below).trans S2.out).two (by omega) hne _ _, C2.out.two hne _ _, fun _ => ⟨rfl, (HI.out.stp C1.out S2.out).store r0 r1 _ _⟩, fun h => absurd rfl h, fun _ _ => rfl, fun _ h => absurd HZ.out h⟩
 · obtain ⟨rfl, rfl, rfl, rfl, rfl⟩ := hn.2 hz
   have HZ := Lib.hid hz
   clear hn hz
   go_wp2_with fail
   refine (Keep_four b false none 0 0 w1 C1.out).mono ?_
   rintro e w2 ⟨t2, B2, m2, d2, k2, rfl, s2, c2, h2, -, h4⟩
   have hk2 := h4 rfl
   subst hk2
   have hsz := E1.out.size
   have hne : w.heap.size + 1 ≠ b := by omega
   have r0 := (s2.cell (p := ⟨w.heap.size + 1, 0, none⟩) (by simp; omega) hne).trans E1.out.res.r0
   have r1 := (s2.cell (p := ⟨w.heap.size + 1, 1, none⟩) (by simp; omega) hne).trans E1.out.res.r1
   have f0 := (s2.frozen (g := w.heap.size + 1) (o := 0) (by omega) hne).trans E1.out.res.f0
   have f1 := (s2.frozen (g := w.heap.size + 1) (o := 1) (by omega) hne).trans E1.out.res.f1
   have S2 := Lib.hid s2
   have C2 := Lib.hid c2
   clear h2 h4 s2 c2
   go_wp2
   refine bodyPost_ret (v := .agg #[.bool t2, .slice B2 m2 d2]) (by simp [results, Tryz.results134, go_sem, r0, r1]) rfl ?_
   exact ⟨t2, B2, m2, d2, 4, rfl, ((Stp.of_below HC.out.lt E1.out.below).trans S2.out).two (by omega) hne _ _, C2.out.two hne _ _, fun h => by omega, fun h => absurd rfl h, fun _ h => absurd h HZ.out, fun _ _ => rfl⟩
theorem cPower_c (T b : Nat) (k z : Int) (t : Bool) (A : Option Addr) (n c x : Nat) (w : World) (hc : Cc w b k) (hk : St T k) (hz : k = 0 → (z ^ x).natAbs ≤ T) (hx : k = 0 → Iv w z t A n c) (hx0 : x < 9223372036854775808) :
 Calls Tryz.prog 134 #[.pointer (some ⟨b, 0, none⟩), .agg #[.bool t, .slice A n c], .int .i64 (x : Int)] w (Wv T b k (z ^ x) w) := by
 by_cases h : k = 0
 · subst h
   exact (cpow_ok b z t A n c x w hc (hx rfl) hx0).mono fun _ _ h => h.wv hk hz
 · exact (cpow_bad b k (z ^ x) t A n c (x : Int) w hc h).mono fun _ _ h => h.wv hk hz
structure Nmr where
 s : Bool
 xs : List Nat
def nmAt (ns : List Nmr) (k : Nat) : Nmr := ns.getD k ⟨false, []⟩
structure NmIs (w : World) (b o : Nat) (t : Nmr) (A : Option Addr) (n c : Nat) : Prop where
 c0 : w.cell? ⟨b, o, none⟩ = some (.bool t.s)
 c1 : w.cell? ⟨b, o + 1, none⟩ = some (.slice A n c)
 rd : Rd w A n t.xs
 nc : n ≤ c
 cm : c ≤ 9223372036854775807
theorem NmIs.below {w w' : World} {b o : Nat} {t : Nmr} {A : Option Addr} {n c : Nat} (h : NmIs w b o t A n c) (hlt : b < w.heap.size) (hb : Below w.heap.size w w') : NmIs w' b o t A n c :=
 ⟨(hb.cell (p := ⟨b, o, none⟩) hlt).trans h.c0, (hb.cell (p := ⟨b, o + 1, none⟩) hlt).trans h.c1, h.rd.below hb, h.nc, h.cm⟩
structure RdN (w : World) (A : Option Addr) (n : Nat) (ns : List Nmr) : Prop where
 len : ns.length = n
 at_ : 0 < n → ∃ b o, A = some ⟨b, o, none⟩ ∧ b < w.heap.size ∧ ∀ k, k < n → ∃ A1 n1 c1, NmIs w b (o + k * 2) (nmAt ns k) A1 n1 c1
theorem RdN.below {w w' : World} {A : Option Addr} {n : Nat} {ns : List Nmr} (h : RdN w A n ns) (hb : Below w.heap.size w w') : RdN w' A n ns := by
 refine ⟨h.len, fun h0 => ?_⟩
 obtain ⟨b, o, e, hlt, hc⟩ := h.at_ h0
 refine ⟨b, o, e, Nat.lt_of_lt_of_le hlt hb.size, fun k hk => ?_⟩
 obtain ⟨A1, n1, c1, ht⟩ := hc k hk
 exact ⟨A1, n1, c1, ht.below hlt hb⟩
def allB (ns : List Nmr) : Bool := decide (∀ i, i < ns.length → validB (nmAt ns i).s (nmAt ns i).xs = true)
set_option maxHeartbeats 2000000 in
theorem calcValid_c (A : Option Addr) (n c : Nat) (ns : List Nmr) (w : World) (h : RdN w A n ns) (hn : n ≤ 9223372036854775807) :
 Calls Tryz.prog 37 #[.slice A n c] w (RetB (allB ns) w) := by
 have RN := Lib.hid h
 have HL := Lib.hid (And.intro h.len hn)
 clear h hn
 go_enter Tryz.func37, Tryz.ntmps37
 go_wp2
 go_loopw [7] (fun v wr => ∃ k : Nat, v = .int .i64 (k : Int) ∧ k ≤ n ∧ Below w.heap.size w wr ∧ RdN wr A n ns ∧ ∀ i, i < k → validB (nmAt ns i).s (nmAt ns i).xs = true) (fun v _ => n - (intOf v).toNat)
 case atStart => exact ⟨0, rfl, Nat.zero_le _, Below.refl _ _, RN.out, fun i hi => absurd hi (by omega)⟩
 case round =>
  obtain ⟨k, rfl, hk, hp, hr, hall⟩ := hrel
  have hnb := HL.out.2
  have P := Lib.hid hp
  replace RN := Lib.hid hr
  have HA := Lib.hid hall
  clear hp hr hall
  by_cases hkn : k < n
  · have t1 : decide ((k : Int) < (n : Int)) = true := decide_eq_true (by omega)
    have t1n : decide (k < n) = true := decide_eq_true hkn
    have hkI : (k : Int) < (n : Int) := by omega
    obtain ⟨b, o, rfl, hblt, hcell⟩ := RN.out.at_ (by omega)
    obtain ⟨A1, n1, c1, hT⟩ := hcell k hkn
    obtain ⟨t, ht⟩ : ∃ t, t = nmAt ns k := ⟨_, rfl⟩
    rw [← ht] at hT
    have HT := Lib.hid ht
    clear hcell ht
    obtain ⟨s, xs⟩ := t
    have c0 := hT.c0
    have c1' := hT.c1
    dsimp only at c0
    have hb0 := bel_alloc wr (.cells #[.bool s, .slice A1 n1 c1] 58)
    have R1 := Lib.hid (hT.rd.below hb0)
    dsimp only at R1
    replace P := Lib.hid (P.out.trans (hb0.mono P.out.size))
    replace RN := Lib.hid (RN.out.below hb0)
    clear hT hb0
    go_wp2_with fail
    refine (valid_c s A1 n1 c1 xs _ R1.out).mono ?_
    rintro e w1 ⟨rfl, hb⟩
    replace P := Lib.hid (P.out.trans (hb.mono P.out.size))
    replace RN := Lib.hid (RN.out.below hb)
    clear hb R1 c0 c1' hblt
    obtain ⟨v, hvv⟩ : ∃ v, v = validB s xs := ⟨_, rfl⟩
    rw [← hvv]
    have HV := Lib.hid hvv
    clear hvv
    cases v with
    | false =>
      have HF := Lib.hid (show allB ns = false from decide_eq_false fun q => by
       have := q k (by rw [HL.out.1]; exact hkn)
       rw [← HT.out] at this
       rw [show validB s xs = true from this] at HV
       exact absurd HV.out (by decide))
      go_wp2
      go_ret
      exact ⟨by rw [HF.out] <;> rfl, P.out⟩
    | true =>
      go_wp2
      go_roundw
      case measure => simp [intOf]; omega
      case rel => exact ⟨k + 1, by go_num, by omega, P.out, RN.out, fun i hi => by
       by_cases e : i = k
       · subst e; rw [← HT.out]; exact HV.out.symm
       · exact HA.out i (by omega)⟩
  · have t1 : decide ((k : Int) < (n : Int)) = false := decide_eq_false (by omega)
    have t1n : decide (k < n) = false := decide_eq_false hkn
    have HF := Lib.hid (show allB ns = true from decide_eq_true fun i hi => HA.out i (by rw [HL.out.1] at hi; omega))
    go_wp2
    go_ret
    exact ⟨by rw [HF.out] <;> rfl, P.out⟩
end Go.Proofs.YteabokkofoomkaaGreat
set_option maxRecDepth 100000
namespace Go.Proofs.YteabokkofoomkaaGreat
open Go.RowKit Go.Shelf Go.Deep
def nmZ (x : Nmr) : Int := sgn x.s (val x.xs)
def trZ (t : Trm) : Int := sgn t.s (val t.xs)
def prodI (es : List Int) (ns : List Nmr) : Nat → Int
 | 0 => 1
 | k + 1 => prodI es ns k * nmZ (nmAt ns k) ^ (es.getD k 0).toNat
def tVal (t : Trm) (ns : List Nmr) : Int := trZ t * prodI t.es ns t.es.length
theorem prodI_dvd (es : List Int) (ns : List Nmr) {j : Nat} : ∀ k, j ≤ k → prodI es ns j ∣ prodI es ns k := by
 intro k
 induction k with
 | zero => intro h; obtain rfl : j = 0 := by omega
           exact Int.dvd_refl _
 | succ k ih =>
   intro h
   by_cases e : j = k + 1
   · subst e; exact Int.dvd_refl _
   · exact Int.dvd_trans (ih (by omega)) (Int.dvd_mul_right _ _)
theorem prodI_ne {es : List Int} {ns : List Nmr} : ∀ k, (∀ i, i < k → 0 < es.getD i 0 → nmZ (nmAt ns i) ≠ 0) → prodI es ns k ≠ 0 := by
 intro k
 induction k with
 | zero => intro _; show (1 : Int) ≠ 0; decide
 | succ k ih =>
   intro h
   show prodI es ns k * _ ≠ 0
   refine Int.mul_ne_zero (ih fun i hi => h i (by omega)) ?_
   by_cases h0 : 0 < es.getD k 0
   · exact Int.pow_ne_zero (h k (by omega) h0)
   · rw [show (es.getD k 0).toNat = 0 by omega, Int.pow_zero]; decide
theorem prodI_zero {es : List Int} {ns : List Nmr} {i k : Nat} (hi : i < k) (h0 : 0 < es.getD i 0) (hz : nmZ (nmAt ns i) = 0) : prodI es ns k = 0 := by
 have h1 : prodI es ns (i + 1) = 0 := by
  show _ * nmZ (nmAt ns i) ^ _ = 0
  rw [hz, Int.zero_pow (by omega), Int.mul_zero]
 have := prodI_dvd es ns (j := i + 1) k (by omega)
 rw [h1] at this
 exact Int.zero_dvd.1 this
theorem abs_le_dvd {a b : Int} (h : a ∣ b) (hb : b ≠ 0) : a.natAbs ≤ b.natAbs :=
 Nat.le_of_dvd (by omega) (Int.natAbs_dvd_natAbs.2 h)
theorem dvd_tVal {t : Trm} {ns : List Nmr} {j : Nat} (hj : j ≤ t.es.length) : trZ t * prodI t.es ns j ∣ tVal t ns := Int.mul_dvd_mul_left _ (prodI_dvd _ _ _ hj)
theorem pow_dvd_tVal {t : Trm} {ns : List Nmr} {j : Nat} (hj : j < t.es.length) : nmZ (nmAt ns j) ^ (t.es.getD j 0).toNat ∣ tVal t ns := by
 refine Int.dvd_trans ?_ (dvd_tVal (t := t) (ns := ns) (j := j + 1) (by omega))
 exact Int.dvd_trans (Int.dvd_mul_left (prodI t.es ns j) _) (Int.dvd_mul_left _ _)
theorem rawIv {w : World} {s : Bool} {A : Option Addr} {n c : Nat} {xs : List Nat} (h : Rd w A n xs) (h1 : validB s xs = true) (hn : n ≤ c) (hc : c ≤ 9223372036854775807) : Iv w (sgn s (val xs)) s A n c := by
 have hl : n ≤ 4096 := by
  have hl := h.len
  unfold validB at h1
  split at h1
  · omega
  · simp at h1; omega
 exact ⟨Is.of_valid h h1 hn hc, sz_valid h hl⟩
theorem zero_iff {w : World} {z : Int} {t : Bool} {A : Option Addr} {n c : Nat} (h : Is w z t A n c) : n = 0 ↔ z = 0 := by
 obtain ⟨_, h2, _⟩ := h
 constructor
 · intro e
   rw [e] at h2
   have := words_nil.1 (List.eq_nil_of_length_eq_zero h2.symm)
   omega
 · intro e
   rw [h2, e]
   show (words 0).length = 0
   rw [words_zero]; rfl
theorem zero_is (w : World) : Is w 0 false none 0 0 := ⟨rfl, by rw [show (0 : Int).natAbs = 0 from rfl, words_zero]; rfl, by rw [show (0 : Int).natAbs = 0 from rfl, words_zero]; exact Rd.nil _, Nat.le_refl _, by omega⟩
structure VS (w0 w : World) (b : Nat) (W : World) (k : Int) : Prop where
 low : Below w0.heap.size w0 W
 stp : Stp b w W
 cc : Cc W b k
theorem VS.next {w0 w W W' : World} {b : Nat} {k : Int} (h : VS w0 w b W k) (hb : Below W.heap.size W W') : VS w0 w b W' k :=
 ⟨h.low.trans (hb.mono h.low.size), h.stp.trans (Stp.of_below h.cc.lt hb), h.cc.below hb⟩
theorem VS.put {w0 w W W' : World} {b : Nat} {k k' : Int} (h : VS w0 w b W k) (h0 : w0.heap.size ≤ b) (hs : Stp b W W') (hc : Cc W' b k') : VS w0 w b W' k' :=
 ⟨h.low.trans (hs.below h.low.size h0), h.stp.trans hs, hc⟩
theorem VS.two {w0 w W : World} {b : Nat} {k : Int} (h : VS w0 w b W k) {g : Nat} (hg0 : w0.heap.size ≤ g) (hg : w.heap.size ≤ g) (hne : g ≠ b) (u v : Value) : VS w0 w b ((W.setCell ⟨g, 0, none⟩ u).setCell ⟨g, 1, none⟩ v) k :=
 ⟨below_store h.low hg0 u v, h.stp.two hg hne u v, h.cc.two hne u v⟩
structure NV (W : World) (g : Nat) (t : Bool) (B : Option Addr) (m d : Nat) : Prop where
 lt : g < W.heap.size
 r0 : W.cell? ⟨g, 0, none⟩ = some (.bool t)
 r1 : W.cell? ⟨g, 1, none⟩ = some (.slice B m d)
 f0 : W.frozen? ⟨g, 0, none⟩ = false
 f1 : W.frozen? ⟨g, 1, none⟩ = false
theorem NV.next {W w1 : World} {g : Nat} {t : Bool} {B : Option Addr} {m d : Nat} (h : NV W g t B m d) (hb : Below W.heap.size W w1) : NV w1 g t B m d :=
 ⟨Nat.lt_of_lt_of_le h.lt hb.size, (hb.cell (p := ⟨g, 0, none⟩) h.lt).trans h.r0, (hb.cell (p := ⟨g, 1, none⟩) h.lt).trans h.r1, (hb.frozen (p := ⟨g, 0, none⟩) h.lt).trans h.f0, (hb.frozen (p := ⟨g, 1, none⟩) h.lt).trans h.f1⟩
theorem NV.stp {W w1 : World} {g b : Nat} {t : Bool} {B : Option Addr} {m d : Nat} (h : NV W g t B m d) (hne : g ≠ b) (hs : Stp b W w1) : NV w1 g t B m d :=
 ⟨Nat.lt_of_lt_of_le h.lt hs.size, (hs.cell (p := ⟨g, 0, none⟩) h.lt hne).trans h.r0, (hs.cell (p := ⟨g, 1, none⟩) h.lt hne).trans h.r1, (hs.frozen h.lt hne).trans h.f0, (hs.frozen h.lt hne).trans h.f1⟩
theorem NV.new (W : World) (t : Bool) (B : Option Addr) (m d : Nat) : NV (W.alloc (.cells #[.bool t, .slice B m d] 58)) W.heap.size t B m d := ⟨by simp, by go_simp, by go_simp, by go_simp, by go_simp⟩
theorem NV.oth {W : World} {g : Nat} {t : Bool} {B : Option Addr} {m d : Nat} (h : NV W g t B m d) {g' : Nat} (hne : g' ≠ g) (u v : Value) : NV ((W.setCell ⟨g', 0, none⟩ u).setCell ⟨g', 1, none⟩ v) g t B m d :=
 ⟨by simpa [World.setCell] using h.lt, cell_two hne h.r0, cell_two hne h.r1, by rw [World.frozen?_setCell, World.frozen?_setCell]; exact h.f0, by rw [World.frozen?_setCell, World.frozen?_setCell]; exact h.f1⟩
theorem NV.put {W : World} {g : Nat} {t : Bool} {B : Option Addr} {m d : Nat} (h : NV W g t B m d) (t' : Bool) (B' : Option Addr) (m' d' : Nat) : NV ((W.setCell ⟨g, 0, none⟩ (.bool t')).setCell ⟨g, 1, none⟩ (.slice B' m' d')) g t' B' m' d' :=
 ⟨by simpa [World.setCell] using h.lt,
  (World.cell?_setCell_other _ _ _ _ (by intro e; injection e with _ e; exact absurd e (by decide))).trans (World.cell?_setCell_same' _ _ _ (by rw [h.r0]; rfl)),
  World.cell?_setCell_same' _ _ _ (by rw [World.cell?_setCell_other _ _ _ _ (by intro e; injection e with _ e; exact absurd e (by decide)), h.r1]; rfl),
  by rw [World.frozen?_setCell, World.frozen?_setCell]; exact h.f0, by rw [World.frozen?_setCell, World.frozen?_setCell]; exact h.f1⟩
structure Ivk (W : World) (k k' z : Int) (t : Bool) (B : Option Addr) (m d : Nat) : Prop where
 h : k' = 0 → k = 0 ∧ Iv W z t B m d
theorem Ivk.next {W W' : World} {k k' z : Int} {t : Bool} {B : Option Addr} {m d : Nat} (h : Ivk W k k' z t B m d) (hb : Below W.heap.size W W') : Ivk W' k k' z t B m d :=
 ⟨fun e => ⟨(h.h e).1, (h.h e).2.below hb⟩⟩
theorem Ivk.stp {W W' : World} {k k' z : Int} {t : Bool} {B : Option Addr} {m d b : Nat} {q : Int} (h : Ivk W k k' z t B m d) (hc : Cc W b q) (hs : Stp b W W') : Ivk W' k k' z t B m d :=
 ⟨fun e => ⟨(h.h e).1, (h.h e).2.stp hc hs⟩⟩
structure NmA (W : World) (b o : Nat) (t : Nmr) (A : Option Addr) (n c : Nat) : Prop where
 lt : b < W.heap.size
 is : NmIs W b o t A n c
theorem NmA.next {W W' : World} {b o : Nat} {t : Nmr} {A : Option Addr} {n c : Nat} (h : NmA W b o t A n c) (hb : Below W.heap.size W W') : NmA W' b o t A n c :=
 ⟨Nat.lt_of_lt_of_le h.lt hb.size, h.is.below h.lt hb⟩
end Go.Proofs.YteabokkofoomkaaGreat

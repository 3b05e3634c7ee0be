import Derived.Test.YteabokkofoomkaaGreatCbf
import Derived.Test.YteabokkofoomkaaGreatCan
import Derived.Test.YteabokkofoomkaaGreatCar
import Derived.Deep.RegionWith
import Derived.StillTailTactics
import Derived.BigRegion
import Derived.IntWalk
import Derived.Deep.DeepMust
set_option maxRecDepth 100000
namespace Go.Proofs.YteabokkofoomkaaGreat
open Go.RowKit Go.Deep
structure Fz (W : World) (b : Nat) : Prop where
 lt : b < W.heap.size
 f0 : W.frozen? ⟨b, 0, none⟩ = false
 f1 : W.frozen? ⟨b, 1, none⟩ = false
theorem Fz.next {W w1 : World} {b : Nat} (h : Fz W b) (hb : Below W.heap.size W w1) : Fz w1 b :=
 ⟨Nat.lt_of_lt_of_le h.lt hb.size, (hb.frozen (p := ⟨b, 0, none⟩) h.lt).trans h.f0, (hb.frozen (p := ⟨b, 1, none⟩) h.lt).trans h.f1⟩
theorem Res.fz {W : World} {b : Nat} (h : Res W b) : Fz W b := ⟨h.lt, h.f0, h.f1⟩
theorem Fz.two {W : World} {b : Nat} (h : Fz W b) (g : Nat) (u v : Value) : Fz ((W.setCell ⟨g, 0, none⟩ u).setCell ⟨g, 1, none⟩ v) b :=
 ⟨by rw [size_two]; exact h.lt, by rw [frozen_two]; exact h.f0, by rw [frozen_two]; exact h.f1⟩
theorem refOf_i1 (w : World) : Calls Tryz.prog 35 #[.int .i64 1] w fun e w' => ∃ A n c, e = .returned (.agg #[.bool false, .slice A n c]) ∧ Is w' 1 false A n c ∧ Below w.heap.size w w' :=
 (refOf_c 1 w (by omega) (by omega)).mono fun _ _ ⟨A, c, he, p1, p2, p3, p4⟩ => ⟨A, _, c, he, ⟨rfl, rfl, p1, p2, p3⟩, p4⟩
theorem Res.put {W : World} {b : Nat} {z' : Int} {t' : Bool} {B : Option Addr} {m d : Nat} (h : Res W b) (hi : Is W z' t' B m d) : Box ((W.setCell ⟨b, 0, none⟩ (.bool t')).setCell ⟨b, 1, none⟩ (.slice B m d)) b z' t' B m d :=
 ⟨by rw [size_two]; exact h.lt, (own_two h.r0 h.r1).1, (own_two h.r0 h.r1).2, hi.store h.r0 h.r1 _ _⟩
theorem Box.two {W : World} {b g : Nat} {z z' : Int} {t t' : Bool} {A A' : Option Addr} {n c n' c' : Nat} (h : Box W b z t A n c) (h' : Box W g z' t' A' n' c') (hne : g ≠ b) (u v : Value) : Box ((W.setCell ⟨g, 0, none⟩ u).setCell ⟨g, 1, none⟩ v) b z t A n c :=
 ⟨by rw [size_two]; exact h.lt, cell_two hne h.c0, cell_two hne h.c1, h.is.store h'.c0 h'.c1 _ _⟩
structure PW (w W : World) (t : Bool) (A : Option Addr) (n c g7 g8 : Nat) (o x : Int) (t7 : Bool) (A7 : Option Addr) (n7 c7 : Nat) (t8 : Bool) (A8 : Option Addr) (n8 c8 : Nat) : Prop where
 env : Env1r w W t A n c
 l7 : w.heap.size + 2 ≤ g7
 l8 : w.heap.size + 2 ≤ g8
 ne : g7 ≠ g8
 b7 : Box W g7 o t7 A7 n7 c7
 b8 : Box W g8 x t8 A8 n8 c8
 f7 : Fz W g7
 f8 : Fz W g8
section
variable {w W w1 : World} {t : Bool} {A : Option Addr} {n c g7 g8 : Nat} {o x : Int} {t7 : Bool} {A7 : Option Addr} {n7 c7 : Nat} {t8 : Bool} {A8 : Option Addr} {n8 c8 : Nat}
theorem PW.next (h : PW w W t A n c g7 g8 o x t7 A7 n7 c7 t8 A8 n8 c8) (hb : Below W.heap.size W w1) : PW w w1 t A n c g7 g8 o x t7 A7 n7 c7 t8 A8 n8 c8 :=
 ⟨h.env.next hb, h.l7, h.l8, h.ne, h.b7.next hb, h.b8.next hb, h.f7.next hb, h.f8.next hb⟩
theorem PW.put7 (h : PW w W t A n c g7 g8 o x t7 A7 n7 c7 t8 A8 n8 c8) {o' : Int} {t' : Bool} {A' : Option Addr} {n' c' : Nat} (hi : Is W o' t' A' n' c') :
 PW w ((W.setCell ⟨g7, 0, none⟩ (.bool t')).setCell ⟨g7, 1, none⟩ (.slice A' n' c')) t A n c g7 g8 o' x t' A' n' c' t8 A8 n8 c8 :=
 ⟨h.env.two h.l7 _ _, h.l7, h.l8, h.ne, h.b7.put hi, h.b8.two h.b7 h.ne _ _, h.f7.two _ _ _, h.f8.two _ _ _⟩
theorem PW.put8 (h : PW w W t A n c g7 g8 o x t7 A7 n7 c7 t8 A8 n8 c8) {x' : Int} {t' : Bool} {A' : Option Addr} {n' c' : Nat} (hi : Is W x' t' A' n' c') :
 PW w ((W.setCell ⟨g8, 0, none⟩ (.bool t')).setCell ⟨g8, 1, none⟩ (.slice A' n' c')) t A n c g7 g8 o x' t7 A7 n7 c7 t' A' n' c' :=
 ⟨h.env.two h.l8 _ _, h.l7, h.l8, h.ne, h.b7.two h.b8 (Ne.symm h.ne) _ _, h.b8.put hi, h.f7.two _ _ _, h.f8.two _ _ _⟩
theorem PW.new8 (h : PW w W t A n c g7 g8 o x t7 A7 n7 c7 t8 A8 n8 c8) :
 PW w (W.alloc (.cells #[.bool t8, .slice A8 n8 c8] 58)) t A n c g7 W.heap.size o x t7 A7 n7 c7 t8 A8 n8 c8 :=
 have k := h.next (below_alloc W (.cells #[.bool t8, .slice A8 n8 c8] 58))
 ⟨k.env, h.l7, h.env.size, Nat.ne_of_lt h.b7.lt, k.b7, Box.new h.b8.is, k.f7, ⟨by simp, by go_simp, by go_simp⟩⟩
end
theorem pow_one_sgn2 {z : Int} {k : Nat} (h : blen z.natAbs ≤ 1) (h0 : 0 < k) : sgn (decide (z < 0) && decide ((k : Int) % 2 = 1)) z.natAbs = z ^ k := by
 have h1 : z.natAbs < 2 ^ 1 := blen_le.1 h
 have h2 : z = 0 ∨ z = 1 ∨ z = -1 := by omega
 rcases h2 with rfl | rfl | rfl
 · rw [Int.zero_pow (by omega)]; simp [sgn]
 · rw [Int.one_pow]; simp [sgn]
 · by_cases hk : k % 2 = 1
   · obtain ⟨m, rfl⟩ : ∃ m, k = 2 * m + 1 := ⟨k / 2, by omega⟩
     have e : (((2 * m + 1 : Nat) : Int) % 2 = 1) := by omega
     rw [decide_eq_true e, Int.pow_succ, Int.pow_mul, show ((-1 : Int) ^ 2) = 1 from rfl, Int.one_pow]
     rfl
   · obtain ⟨m, rfl⟩ : ∃ m, k = 2 * m := ⟨k / 2, by omega⟩
     have e : ¬ (((2 * m : Nat) : Int) % 2 = 1) := by omega
     rw [decide_eq_false e, Int.pow_mul, show ((-1 : Int) ^ 2) = 1 from rfl, Int.one_pow]
     rfl
theorem sz_pow2 {z : Int} {p : Nat} (h : Sz z p) (k : Nat) : Sz (z ^ k) (p * k + 1) := by
 show (z ^ k).natAbs < pw (p * k + 1)
 rw [Int.natAbs_pow]
 have h1 : z.natAbs ^ k ≤ pw p ^ k := Nat.pow_le_pow_left (Nat.le_of_lt h) k
 have h2 : pw p ^ k = pw (p * k) := by unfold pw; rw [← Nat.pow_mul]
 have h3 := pw_succ (p * k)
 have h4 := pw_pos (p * k)
 omega
def PowPost (w : World) (z : Int) (e : Ending) (w' : World) : Prop :=
 ∃ t B m d ok, e = .returned (.tuple #[.agg #[.bool t, .slice B m d], .bool ok]) ∧ (ok = true → Is w' z t B m d) ∧ (ok = false → ¬ (words z.natAbs).length ≤ 4096) ∧ Below w.heap.size w w'
theorem natAbs_le_mul {a b : Int} (hb : b ≠ 0) : a.natAbs ≤ (a * b).natAbs := by
 rw [Int.natAbs_mul]
 exact Nat.le_mul_of_pos_right _ (by omega)
theorem pow_ne {x : Int} (h : x ≠ 0) (k : Nat) : x ^ k ≠ 0 := fun e => h (by
 have h1 : (x ^ k).natAbs = 0 := by rw [e]; rfl
 rw [Int.natAbs_pow] at h1
 have := Nat.pow_eq_zero.1 h1
 omega)
theorem mul_ne {a b : Int} (ha : a ≠ 0) (hb : b ≠ 0) : a * b ≠ 0 := Int.mul_ne_zero ha hb
theorem pow_odd (o x J : Int) (h0 : 0 ≤ J) (h : J % 2 = 1) : (o * x) * (x * x) ^ (J / 2).toNat = o * x ^ J.toNat := by
 obtain ⟨k, rfl⟩ : ∃ k : Nat, J = 2 * (k : Int) + 1 := ⟨(J / 2).toNat, by omega⟩
 rw [show ((2 * (k : Int) + 1) / 2).toNat = k by omega, show (2 * (k : Int) + 1).toNat = 2 * k + 1 by omega, Int.pow_succ, Int.pow_mul, show x ^ 2 = x * x by rw [Int.pow_succ, Int.pow_succ, Int.pow_zero, Int.one_mul], Int.mul_assoc, Int.mul_comm x]
theorem pow_even (o x J : Int) (h0 : 0 ≤ J) (h : J % 2 = 0) : o * (x * x) ^ (J / 2).toNat = o * x ^ J.toNat := by
 obtain ⟨k, rfl⟩ : ∃ k : Nat, J = 2 * (k : Int) := ⟨(J / 2).toNat, by omega⟩
 rw [show ((2 * (k : Int)) / 2).toNat = k by omega, show (2 * (k : Int)).toNat = 2 * k by omega, Int.pow_mul, show x ^ 2 = x * x by rw [Int.pow_succ, Int.pow_succ, Int.pow_zero, Int.one_mul]]
theorem natAbs_le_pow {x : Int} (h : x ≠ 0) {k : Nat} (hk : 0 < k) : x.natAbs ≤ (x ^ k).natAbs := by
 obtain ⟨j, rfl⟩ : ∃ j, k = j + 1 := ⟨k - 1, by omega⟩
 rw [Int.pow_succ, Int.mul_comm]
 exact natAbs_le_mul (pow_ne h j)
set_option maxHeartbeats 2000000 in
set_option maxRecDepth 100000 in
theorem refPower_loop {w : World} {z : Int} {t : Bool} {A : Option Addr} {n c : Nat} (h : Is w z t A n c) (hn : n ≤ 4096) (hz : 1 < blen z.natAbs) (N : Nat) (hN : N ≤ 262144) (hNb : N ≤ 262144 / (blen z.natAbs - 1)) :
 Calls Tryz.prog 90 #[.agg #[.bool t, .slice A n c], .int .i64 (N : Int)] w (PowPost w (z ^ N)) := by
 have S : Sz z 4096 := by show z.natAbs < pw 4096; exact words_len_le.1 (by rw [← h.2.1]; exact hn)
 have hz0 : z ≠ 0 := by rintro rfl; exact absurd hz (by decide)
 have HSz := Lib.hid (show (words (z ^ N).natAbs).length ≤ 8796093022208 from Nat.le_trans (sz_pow2 S N).len (by omega))
 have hbl2 := blen_sz S
 have hBits := fun w (h : Rd w A n (words z.natAbs)) => refBits_c t A n c (words z.natAbs) w h (words_canon _) (by omega)
 rw [val_words] at hBits
 obtain ⟨b, hb⟩ : ∃ b, b = blen z.natAbs := ⟨_, rfl⟩
 rw [← hb] at hz hNb hBits hbl2
 have HBits := Lib.hid hBits
 obtain ⟨K, hK⟩ : ∃ K : Int, K = (N : Int) := ⟨_, rfl⟩
 have HKN := Lib.hid hK
 have hK0 : 0 ≤ K := by omega
 have hK1 : K ≤ 262144 := by omega
 have hdiv : K ≤ (262144 : Int) / ((b : Int) - 1) := by
  have e : (262144 : Int) / ((b : Int) - 1) = ((262144 / (b - 1) : Nat) : Int) := by
   rw [Int.natCast_ediv]; congr 1; omega
  omega
 have HI := Lib.hid h
 have HZ0 := Lib.hid hz0
 have E := Lib.hid (Env1r.start w t A n c)
 clear h S hb hBits hz0 hN hNb
 rw [← hK]
 clear hK
 go_enter Tryz.func90, Tryz.ntmps90
 go_wp2_with fail
 generalize (w.alloc (.cells #[.bool t, .slice A n c] 58)).alloc (.cells #[.bool false, .slice none 0 0] 58) = W at E ⊢
 refine (HBits.out W (HI.out.2.2.1.below E.out.below)).mono ?_
 rintro e w1 ⟨rfl, hb⟩
 replace E := Lib.hid (E.out.next hb)
 clear hb
 have a0 := E.out.a0
 have a1 := E.out.a1
 go_wp2_with fail
 refine (refOf_i1 _).mono ?_
 rintro e w2 ⟨A1, n1, c1, rfl, hi1, hb⟩
 replace E := Lib.hid (E.out.next hb)
 clear hb
 replace a0 := E.out.a0
 replace a1 := E.out.a1
 have hz1 := E.out.size
 have P : PW w ((w2.alloc (.cells #[.bool false, .slice A1 n1 c1] 58)).alloc (.cells #[.bool t, .slice A n c] 58)) t A n c w2.heap.size (w2.heap.size + 1) 1 z false A1 n1 c1 t A n c := by
  have E3 := (E.out.next (below_alloc w2 (.cells #[.bool false, .slice A1 n1 c1] 58)))
  have E4 := E3.next (below_alloc _ (.cells #[.bool t, .slice A n c] 58))
  have B3 := (Box.new hi1).alloc (.cells #[.bool t, .slice A n c] 58)
  have B4 := Box.new (HI.out.below E3.below)
  rw [World.size_alloc] at B4
  exact ⟨E4, hz1, by omega, by omega, B3, B4, ⟨by simp; omega, by go_simp, by go_simp⟩, ⟨by simp, by go_simp, by go_simp⟩⟩
 have HP := Lib.hid P
 clear P hi1
 have e0 := (World.cell?_alloc_lt w2 (.cells #[.bool false, .slice A1 n1 c1] 58) ⟨w.heap.size, 0, none⟩ (by simp; omega)).trans a0
 have e1 := (World.cell?_alloc_lt w2 (.cells #[.bool false, .slice A1 n1 c1] 58) ⟨w.heap.size, 1, none⟩ (by simp; omega)).trans a1
 have HO0 := Lib.hid (show (1 : Int) * z ^ K.toNat = z ^ N by rw [Int.one_mul, HKN.out, Int.toNat_natCast])
 clear a0 a1
 go_wp2_with fail
 generalize (w2.alloc (.cells #[.bool false, .slice A1 n1 c1] 58)).alloc (.cells #[.bool t, .slice A n c] 58) = W at HP ⊢
 obtain ⟨g, hg⟩ : ∃ g, g = w2.heap.size := ⟨_, rfl⟩
 rw [← hg] at HP ⊢
 clear hg hdiv e0 e1 hz1
 go_loopw [1, 8] (fun v p wr => ∃ J : Int, 0 ≤ J ∧ J ≤ 262144 ∧ v = .int .i64 J ∧ ∃ (g8 : Nat) (o x : Int) (t7 : Bool) (A7 : Option Addr) (n7 c7 : Nat) (t8 : Bool) (A8 : Option Addr) (n8 c8 : Nat), p = .pointer (some ⟨g8, 0, none⟩) ∧ (o ≠ 0 ∧ x ≠ 0 ∧ o * x ^ J.toNat = z ^ N) ∧ PW w wr t A n c g g8 o x t7 A7 n7 c7 t8 A8 n8 c8) (fun v _ _ => (intOf v).toNat)
 case atStart => exact ⟨K, hK0, hK1, rfl, _, _, _, _, _, _, _, _, _, _, _, rfl, ⟨by omega, HZ0.out, HO0.out⟩, HP.out⟩
 case round =>
  obtain ⟨J, hJ0, hJ1, rfl, g8, o, x, t7, A7, n7, c7, t8, A8, n8, c8, rfl, ⟨ho, hx, he⟩, hP⟩ := hrel
  clear HP HO0
  have HP := Lib.hid hP
  have HE := Lib.hid he
  have HOn := Lib.hid ho
  have HXn := Lib.hid hx
  clear hP he ho hx hK0 hK1
  have s0 := HP.out.b7.c0
  have s1 := HP.out.b7.c1
  have u0 := HP.out.b8.c0
  have u1 := HP.out.b8.c1
  have q1 : ¬ g = w.heap.size := by have := HP.out.l7; omega
  have q2 : ¬ g = w.heap.size + 1 := by have := HP.out.l7; omega
  have q3 : ¬ g = g8 := HP.out.ne
  have q4 : ¬ g8 = g := Ne.symm HP.out.ne
  by_cases hJ : 0 < J
  · have HO2 := Lib.hid (show n7 ≤ 8796093022208 by
     rw [HP.out.b7.is.2.1]; refine Nat.le_trans (words_mono ?_) HSz.out
     rw [← HE.out]; exact natAbs_le_mul (pow_ne HXn.out _))
    have HX2 := Lib.hid (show n8 ≤ 8796093022208 by
     rw [HP.out.b8.is.2.1]; refine Nat.le_trans (words_mono ?_) HSz.out
     rw [← HE.out, Int.mul_comm]; exact Nat.le_trans (natAbs_le_pow HXn.out (by omega)) (natAbs_le_mul HOn.out))
    have HXX := Lib.hid (mul_ne HXn.out HXn.out)
    by_cases hJ1' : 1 < J
    · by_cases hodd : J % 2 = 1
      · have tb : (J % 2 == 1) = true := by rw [beq_iff_eq]; exact hodd
        have HE2 := Lib.hid (show (o * x) * (x * x) ^ (J / 2).toNat = z ^ N by
         rw [← HE.out]; exact pow_odd o x J (by omega) hodd)
        have HOX := Lib.hid (mul_ne HOn.out HXn.out)
        clear hodd
        go_wp2_with fail
        refine (refMul_c HP.out.b7.is HP.out.b8.is HO2.out HX2.out).mono ?_
        rintro e w5 ⟨t5, B5, m5, d5, rfl, hi5, hb⟩
        replace HP := Lib.hid (HP.out.next hb)
        have I5 := Lib.hid hi5
        clear hi5 hb s0 s1 u0 u1
        have s0 := HP.out.b7.c0
        have s1 := HP.out.b7.c1
        have v0 := HP.out.f7.f0
        have v1 := HP.out.f7.f1
        have u0 := (HP.out.put7 I5.out).b8.c0
        have u1 := (HP.out.put7 I5.out).b8.c1
        have HP7 := Lib.hid (HP.out.put7 I5.out)
        go_wp2_with fail
        generalize (w5.setCell ⟨g, 0, none⟩ (.bool t5)).setCell ⟨g, 1, none⟩ (.slice B5 m5 d5) = W6 at HP7 u0 u1 ⊢
        refine (refMul_c HP7.out.b8.is HP7.out.b8.is HX2.out HX2.out).mono ?_
        rintro e w6 ⟨t6, B6, m6, d6, rfl, hi6, hb⟩
        replace HP := Lib.hid (HP7.out.next hb)
        have I6 := Lib.hid hi6
        clear hi6 hb u0 u1 s0 s1 v0 v1 HP7
        have u0 := HP.out.b8.c0
        have u1 := HP.out.b8.c1
        have v0 := HP.out.f8.f0
        have v1 := HP.out.f8.f1
        have y0 := (HP.out.put8 I6.out).b8.c0
        have y1 := (HP.out.put8 I6.out).b8.c1
        have HPE := Lib.hid (HP.out.put8 I6.out).new8
        rw [size_two] at HPE
        clear HP
        go_wp2
        go_roundw
        case measure => simp [intOf]; omega
        case rel => exact ⟨J / 2, by omega, by omega, rfl, _, _, _, _, _, _, _, _, _, _, _, rfl, ⟨HOX.out, HXX.out, HE2.out⟩, HPE.out⟩
      · have tb : (J % 2 == 1) = false := by rw [beq_eq_false_iff_ne]; exact hodd
        have HE2 := Lib.hid (show o * (x * x) ^ (J / 2).toNat = z ^ N by
         rw [← HE.out]; exact pow_even o x J (by omega) (by omega))
        clear hodd
        go_wp2_with fail
        refine (refMul_c HP.out.b8.is HP.out.b8.is HX2.out HX2.out).mono ?_
        rintro e w6 ⟨t6, B6, m6, d6, rfl, hi6, hb⟩
        replace HP := Lib.hid (HP.out.next hb)
        have I6 := Lib.hid hi6
        clear hi6 hb u0 u1 s0 s1
        have u0 := HP.out.b8.c0
        have u1 := HP.out.b8.c1
        have v0 := HP.out.f8.f0
        have v1 := HP.out.f8.f1
        have y0 := (HP.out.put8 I6.out).b8.c0
        have y1 := (HP.out.put8 I6.out).b8.c1
        have HPE := Lib.hid (HP.out.put8 I6.out).new8
        rw [size_two] at HPE
        clear HP
        go_wp2
        go_roundw
        case measure => simp [intOf]; omega
        case rel => exact ⟨J / 2, by omega, by omega, rfl, _, _, _, _, _, _, _, _, _, _, _, rfl, ⟨HOn.out, HXX.out, HE2.out⟩, HPE.out⟩
    · obtain rfl : J = 1 := by omega
      have HE2 := Lib.hid (show (o * x) * x ^ (0 : Int).toNat = z ^ N by
       rw [← HE.out]; show o * x * x ^ 0 = o * x ^ 1; rw [Int.pow_zero, Int.mul_one, Int.pow_succ, Int.pow_zero, Int.one_mul])
      have HOX := Lib.hid (mul_ne HOn.out HXn.out)
      go_wp2_with fail
      refine (refMul_c HP.out.b7.is HP.out.b8.is HO2.out HX2.out).mono ?_
      rintro e w5 ⟨t5, B5, m5, d5, rfl, hi5, hb⟩
      replace HP := Lib.hid (HP.out.next hb)
      have I5 := Lib.hid hi5
      clear hi5 hb s0 s1 u0 u1
      have s0 := HP.out.b7.c0
      have s1 := HP.out.b7.c1
      have v0 := HP.out.f7.f0
      have v1 := HP.out.f7.f1
      have u0 := (HP.out.put7 I5.out).b8.c0
      have u1 := (HP.out.put7 I5.out).b8.c1
      have HP7 := Lib.hid (HP.out.put7 I5.out)
      have HPE := Lib.hid HP7.out.new8
      rw [size_two] at HPE
      clear HP HP7
      go_wp2
      go_roundw
      case measure => simp [intOf]
      case rel => exact ⟨0, by omega, by omega, rfl, _, _, _, _, _, _, _, _, _, _, _, rfl, ⟨HOX.out, HXn.out, HE2.out⟩, HPE.out⟩
  · obtain rfl : J = 0 := by omega
    have HF := Lib.hid (show o = z ^ N by rw [← HE.out]; show o = o * x ^ 0; rw [Int.pow_zero, Int.mul_one])
    have r0 := HP.out.env.res.r0
    have r1 := HP.out.env.res.r1
    have f0 := HP.out.env.res.f0
    have f1 := HP.out.env.res.f1
    go_wp2
    refine bodyPost_ret (v := .tuple #[.agg #[.bool t7, .slice A7 n7 c7], .bool true]) (by simp [results, Tryz.results90, go_sem, r0, r1]) rfl ?_
    exact ⟨t7, A7, n7, c7, true, rfl, fun _ => by rw [← HF.out]; exact HP.out.b7.is.store r0 r1 _ _, fun h => (Bool.noConfusion h), below_store HP.out.env.below (by omega) _ _⟩
theorem pow_far {z : Int} {b N : Nat} (hb : b = blen z.natAbs) (h1 : 1 < b) (hN : 262144 / (b - 1) < N) : ¬ (words (z ^ N).natAbs).length ≤ 4096 := by
 apply long_of_blen
 have h2 : 2 ^ (b - 1) ≤ z.natAbs := by rw [hb]; exact blen_ge (by rintro h; rw [h] at hb; rw [hb] at h1; exact absurd h1 (by decide))
 have h3 : 2 ^ ((b - 1) * N) ≤ (z ^ N).natAbs := by rw [Int.natAbs_pow, Nat.pow_mul]; exact Nat.pow_le_pow_left h2 N
 have h4 : 262144 < (b - 1) * N := by
  have := Nat.lt_mul_of_div_lt hN (by omega)
  rwa [Nat.mul_comm] at this
 have h5 : ¬ blen (z ^ N).natAbs ≤ (b - 1) * N := fun h => by have := blen_le.1 h; omega
 omega
set_option maxHeartbeats 1000000 in
set_option maxRecDepth 100000 in
theorem refPower_far {w : World} {z : Int} {t : Bool} {A : Option Addr} {n c : Nat} (h : Is w z t A n c) (hn : n ≤ 4096) (hz : 1 < blen z.natAbs) (N : Nat) (hN : 262144 / (blen z.natAbs - 1) < N) :
 Calls Tryz.prog 90 #[.agg #[.bool t, .slice A n c], .int .i64 (N : Int)] w (PowPost w (z ^ N)) := by
 have S : Sz z 4096 := by show z.natAbs < pw 4096; exact words_len_le.1 (by rw [← h.2.1]; exact hn)
 have hbl2 := blen_sz S
 have hBits := fun w (h : Rd w A n (words z.natAbs)) => refBits_c t A n c (words z.natAbs) w h (words_canon _) (by omega)
 rw [val_words] at hBits
 obtain ⟨b, hb⟩ : ∃ b, b = blen z.natAbs := ⟨_, rfl⟩
 have HF := Lib.hid (pow_far hb (by omega) (by rw [hb]; exact hN) : ¬ (words (z ^ N).natAbs).length ≤ 4096)
 rw [← hb] at hz hN hBits hbl2
 have HBits := Lib.hid hBits
 obtain ⟨K, hK⟩ : ∃ K : Int, K = (N : Int) := ⟨_, rfl⟩
 have hdiv : (262144 : Int) / ((b : Int) - 1) < K := by
  have e : (262144 : Int) / ((b : Int) - 1) = ((262144 / (b - 1) : Nat) : Int) := by
   rw [Int.natCast_ediv]; congr 1; omega
  omega
 have HI := Lib.hid h
 have E := Lib.hid (Env1r.start w t A n c)
 clear h S hb hBits hN
 rw [← hK]
 clear hK
 go_enter Tryz.func90, Tryz.ntmps90
 go_wp2_with fail
 generalize (w.alloc (.cells #[.bool t, .slice A n c] 58)).alloc (.cells #[.bool false, .slice none 0 0] 58) = W at E ⊢
 refine (HBits.out W (HI.out.2.2.1.below E.out.below)).mono ?_
 rintro e w1 ⟨rfl, hb⟩
 replace E := Lib.hid (E.out.next hb)
 clear hb
 have r0 := E.out.res.r0
 have r1 := E.out.res.r1
 have f0 := E.out.res.f0
 have f1 := E.out.res.f1
 go_wp2
 refine bodyPost_ret (v := .tuple #[.agg #[.bool false, .slice none 0 0], .bool false]) (by simp [results, Tryz.results90, go_sem, r0, r1]) rfl ?_
 exact ⟨false, none, 0, 0, false, rfl, fun h => (Bool.noConfusion h), fun _ => HF.out, below_store E.out.below (by omega) _ _⟩
set_option maxHeartbeats 1000000 in
set_option maxRecDepth 100000 in
theorem refPower_one {w : World} {z : Int} {t : Bool} {A : Option Addr} {n c : Nat} (h : Is w z t A n c) (hn : n ≤ 4096) (hz : blen z.natAbs ≤ 1) (N : Nat) (hN : N < 9223372036854775808) :
 Calls Tryz.prog 90 #[.agg #[.bool t, .slice A n c], .int .i64 (N : Int)] w (PowPost w (z ^ N)) := by
 have hBits := fun w (h : Rd w A n (words z.natAbs)) => refBits_c t A n c (words z.natAbs) w h (words_canon _) (by omega)
 rw [val_words] at hBits
 have hpw : 0 < N → sgn (decide (z < 0) && decide ((N : Int) % 2 = 1)) z.natAbs = z ^ N := pow_one_sgn2 hz
 obtain ⟨b, hb⟩ : ∃ b, b = blen z.natAbs := ⟨_, rfl⟩
 rw [← hb] at hz hBits
 have HBits := Lib.hid hBits
 obtain ⟨K, hK⟩ : ∃ K : Int, K = (N : Int) := ⟨_, rfl⟩
 have hK0 : 0 ≤ K := by omega
 have hK1 : K ≤ 9223372036854775807 := by omega
 rw [← hK] at hpw
 have HK := Lib.hid hK
 have HPW := Lib.hid hpw
 have HI := Lib.hid h
 have HT := Lib.hid h.1
 have E := Lib.hid (Env1r.start w t A n c)
 clear h hb hBits hN hpw
 rw [← hK]
 clear hK
 by_cases hK2 : K = 0
 · subst hK2
   have HZ := Lib.hid (show z ^ N = 1 by rw [show N = 0 by have := HK.out; omega, Int.pow_zero])
   have t0 : ((0 : Int) == 0) = true := rfl
   go_enter Tryz.func90, Tryz.ntmps90
   go_wp2_with fail
   generalize (w.alloc (.cells #[.bool t, .slice A n c] 58)).alloc (.cells #[.bool false, .slice none 0 0] 58) = W at E ⊢
   refine (HBits.out W (HI.out.2.2.1.below E.out.below)).mono ?_
   rintro e w1 ⟨rfl, hb⟩
   replace E := Lib.hid (E.out.next hb)
   clear hb
   go_wp2_with fail
   refine (refOf_i1 _).mono ?_
   rintro e w2 ⟨A1, n1, c1, rfl, hi1, hb⟩
   replace E := Lib.hid (E.out.next hb)
   have I1 := Lib.hid hi1
   clear hb hi1
   have r0 := E.out.res.r0
   have r1 := E.out.res.r1
   have f0 := E.out.res.f0
   have f1 := E.out.res.f1
   go_wp2
   refine bodyPost_ret (v := .tuple #[.agg #[.bool false, .slice A1 n1 c1], .bool true]) (by simp [results, Tryz.results90, go_sem, r0, r1]) rfl ?_
   exact ⟨false, A1, n1, c1, true, rfl, fun _ => by rw [HZ.out]; exact I1.out.store r0 r1 _ _, fun h => (Bool.noConfusion h), below_store E.out.below (by omega) _ _⟩
 · have t0 : (K == 0) = false := by rw [beq_eq_false_iff_ne]; exact hK2
   have hZN : sgn (decide (z < 0) && decide (K % 2 = 1)) z.natAbs = z ^ N := HPW.out (by have := HK.out; omega)
   clear hK2
   rcases t with _ | _
   · have hd : decide (z < 0) = false := HT.out.symm
     rw [hd] at hZN
     have HZ := Lib.hid (show z = z ^ N by
      rw [← hZN]; show z = ((z.natAbs : Nat) : Int); have : ¬ z < 0 := by simpa using hd
      omega)
     clear hZN hd
     go_enter Tryz.func90, Tryz.ntmps90
     go_wp2_with fail
     generalize (w.alloc (.cells #[.bool false, .slice A n c] 58)).alloc (.cells #[.bool false, .slice none 0 0] 58) = W at E ⊢
     refine (HBits.out W (HI.out.2.2.1.below E.out.below)).mono ?_
     rintro e w1 ⟨rfl, hb⟩
     replace E := Lib.hid (E.out.next hb)
     clear hb
     have a0 := E.out.a0
     have a1 := E.out.a1
     have r0 := E.out.res.r0
     have r1 := E.out.res.r1
     have f0 := E.out.res.f0
     have f1 := E.out.res.f1
     have I1 := Lib.hid (HI.out.below E.out.below)
     go_wp2
     refine bodyPost_ret (v := .tuple #[.agg #[.bool false, .slice A n c], .bool true]) (by simp [results, Tryz.results90, go_sem, r0, r1]) rfl ?_
     exact ⟨false, A, n, c, true, rfl, fun _ => by rw [← HZ.out]; exact I1.out.store r0 r1 _ _, fun h => (Bool.noConfusion h), below_store E.out.below (by omega) _ _⟩
   · have hd : decide (z < 0) = true := HT.out.symm
     rw [hd] at hZN
     by_cases hodd : K % 2 = 1
     · have tb : (K % 2 == 0) = false := by rw [beq_eq_false_iff_ne]; omega
       rw [decide_eq_true hodd] at hZN
       have HZ := Lib.hid (show z = z ^ N by
        rw [← hZN]; show z = -((z.natAbs : Nat) : Int); have : z < 0 := by simpa using hd
        omega)
       clear hZN hd hodd
       go_enter Tryz.func90, Tryz.ntmps90
       go_wp2_with fail
       generalize (w.alloc (.cells #[.bool true, .slice A n c] 58)).alloc (.cells #[.bool false, .slice none 0 0] 58) = W at E ⊢
       refine (HBits.out W (HI.out.2.2.1.below E.out.below)).mono ?_
       rintro e w1 ⟨rfl, hb⟩
       replace E := Lib.hid (E.out.next hb)
       clear hb
       have a0 := E.out.a0
       have a1 := E.out.a1
       have r0 := E.out.res.r0
       have r1 := E.out.res.r1
       have f0 := E.out.res.f0
       have f1 := E.out.res.f1
       have I1 := Lib.hid (HI.out.below E.out.below)
       go_wp2
       refine bodyPost_ret (v := .tuple #[.agg #[.bool true, .slice A n c], .bool true]) (by simp [results, Tryz.results90, go_sem, r0, r1]) rfl ?_
       exact ⟨true, A, n, c, true, rfl, fun _ => by rw [← HZ.out]; exact I1.out.store r0 r1 _ _, fun h => (Bool.noConfusion h), below_store E.out.below (by omega) _ _⟩
     · have tb : (K % 2 == 0) = true := by rw [beq_iff_eq]; omega
       rw [decide_eq_false hodd] at hZN
       have HZ := Lib.hid (show -z = z ^ N by
        rw [← hZN]; show -z = ((z.natAbs : Nat) : Int); have : z < 0 := by simpa using hd
        omega)
       clear hZN hd hodd
       go_enter Tryz.func90, Tryz.ntmps90
       go_wp2_with fail
       generalize (w.alloc (.cells #[.bool true, .slice A n c] 58)).alloc (.cells #[.bool false, .slice none 0 0] 58) = W at E ⊢
       refine (HBits.out W (HI.out.2.2.1.below E.out.below)).mono ?_
       rintro e w1 ⟨rfl, hb⟩
       replace E := Lib.hid (E.out.next hb)
       clear hb
       have a0 := E.out.a0
       have a1 := E.out.a1
       go_wp2_with fail
       refine (refNeg_c (HI.out.below E.out.below) (by omega)).mono ?_
       rintro e w2 ⟨t1, A1, n1, c1, rfl, hi1, hb⟩
       replace E := Lib.hid (E.out.next hb)
       rw [HZ.out] at hi1
       have I1 := Lib.hid hi1
       clear hb hi1 a0 a1
       have r0 := E.out.res.r0
       have r1 := E.out.res.r1
       have f0 := E.out.res.f0
       have f1 := E.out.res.f1
       go_wp2
       refine bodyPost_ret (v := .tuple #[.agg #[.bool t1, .slice A1 n1 c1], .bool true]) (by simp [results, Tryz.results90, go_sem, r0, r1]) rfl ?_
       exact ⟨t1, A1, n1, c1, true, rfl, fun _ => I1.out.store r0 r1 _ _, fun h => (Bool.noConfusion h), below_store E.out.below (by omega) _ _⟩
theorem refPower_c {w : World} {z : Int} {t : Bool} {A : Option Addr} {n c : Nat} (h : Is w z t A n c) (hn : n ≤ 4096) (N : Nat) (hN : N < 9223372036854775808) :
 Calls Tryz.prog 90 #[.agg #[.bool t, .slice A n c], .int .i64 (N : Int)] w (PowPost w (z ^ N)) := by
 by_cases hz : blen z.natAbs ≤ 1
 · exact refPower_one h hn hz N hN
 · by_cases hb : N ≤ 262144 / (blen z.natAbs - 1)
   · exact refPower_loop h hn (by omega) N (Nat.le_trans hb (Nat.div_le_self _ _)) hb
   · exact refPower_far h hn (by omega) N (by omega)
end Go.Proofs.YteabokkofoomkaaGreat

import Derived.Test.YteabokkofoomkaaGreatCas
import Derived.Test.YteabokkofoomkaaGreatCbf
import Derived.Test.YteabokkofoomkaaGreatCbe
import Derived.Test.YteabokkofoomkaaGreatCau
import Derived.Test.YteabokkofoomkaaGreatCaj
import Derived.BigRegion
import Derived.BigQuiet
set_option maxRecDepth 100000
namespace Go.Proofs.YteabokkofoomkaaGreat
open Go.RowKit Go.Shelf
def IdxPost (a y : Int) (w : World) (e : Ending) (w' : World) : Prop :=
 ∃ r k : Int, e = .returned (.tuple #[.int .i64 r, .int .i64 k]) ∧ Below w.heap.size w w' ∧ ((k = 0 ∧ ∃ n : Nat, r = (n : Int) ∧ psi a n = y) ∨ (k = 6 ∧ r = 0 ∧ ∀ n, psi a n ≠ y))
structure B2 (w W : World) (z : Int) (t : Bool) (A : Option Addr) (n c : Nat) (z' : Int) (t' : Bool) (A' : Option Addr) (n' c' : Nat) : Prop where
 below : Below w.heap.size w W
 ba : Box W w.heap.size z t A n c
 by_ : Box W (w.heap.size + 1) z' t' A' n' c'
theorem B2.next {w W W' : World} {z : Int} {t : Bool} {A : Option Addr} {n c : Nat} {z' : Int} {t' : Bool} {A' : Option Addr} {n' c' : Nat} (h : B2 w W z t A n c z' t' A' n' c') (hb : Below W.heap.size W W') : B2 w W' z t A n c z' t' A' n' c' :=
 ⟨h.below.trans (hb.mono h.below.size), h.ba.next hb, h.by_.next hb⟩
theorem B2.start {w : World} {z : Int} {t : Bool} {A : Option Addr} {n c : Nat} {z' : Int} {t' : Bool} {A' : Option Addr} {n' c' : Nat} (h : Is w z t A n c) (h' : Is w z' t' A' n' c') : B2 w ((w.alloc (.cells #[.bool t, .slice A n c] 58)).alloc (.cells #[.bool t', .slice A' n' c'] 58)) z t A n c z' t' A' n' c' := by
 refine ⟨((Below.refl _ _).alloc (Nat.le_refl _) _).alloc (by simp) _, (Box.new h).alloc _, ?_⟩
 have := Box.new (h'.below (below_alloc w (.cells #[.bool t, .slice A n c] 58)))
 rwa [World.size_alloc] at this
theorem sz_blen {z : Int} {k : Nat} (h : Sz z k) : blen z.natAbs ≤ 32 * k := blen_le.2 (by
 have h1 : z.natAbs < pw k := h
 rwa [pw_two] at h1)
theorem blen_two {a : Int} (ha : 2 ≤ a) : 2 ≤ blen a.natAbs := by
 rcases Nat.lt_or_ge 1 (blen a.natAbs) with h1 | h1
 · exact h1
 · have := blen_le.1 h1
   omega
theorem lowv {S Q : Int} {s q : Nat} (hS : S = (s : Int)) (hQ : Q = (q : Int)) (h : 1 ≤ S) : (S - 1) / (Q + 1) = (((s - 1) / (q + 1) : Nat) : Int) := by
 rw [Int.natCast_ediv, show ((s - 1 : Nat) : Int) = S - 1 by omega, show ((q + 1 : Nat) : Int) = Q + 1 by omega]
theorem highv {S Q : Int} {s q : Nat} (hS : S = (s : Int)) (hQ : Q = (q : Int)) (h : 2 ≤ Q) : S / (Q - 1) = ((s / (q - 1) : Nat) : Int) := by
 rw [Int.natCast_ediv, show ((q - 1 : Nat) : Int) = Q - 1 by omega, hS]
set_option maxHeartbeats 8000000 in
theorem Index_pos {w : World} {a : Int} {t : Bool} {A : Option Addr} {n c : Nat} {y : Int} {t' : Bool} {A' : Option Addr} {n' c' : Nat} (h : Iv w a t A n c) (h' : Iv w y t' A' n' c') (ha : 2 ≤ a) (hy : 0 ≤ y) :
 Calls Tryz.prog 78 #[.agg #[.bool t, .slice A n c], .agg #[.bool t', .slice A' n' c']] w (IdxPost a y w) := by
 have ht' : t' = false := by rw [h'.is.1]; exact decide_eq_false (by omega)
 subst ht'
 have E := Lib.hid (B2.start h.is h'.is)
 have HS := Lib.hid (And.intro h.sz h'.sz)
 have HA := Lib.hid (And.intro ha hy)
 have HL := Lib.hid (And.intro (by rw [h.is.2.1]; exact words_len_le.2 h.sz : n ≤ 4096) (by rw [h'.is.2.1]; exact words_len_le.2 h'.sz : n' ≤ 4096))
 clear h h' ha hy
 go_enter Tryz.func78, Tryz.ntmps78
 go_upto_region 1 with (fail)
 generalize (w.alloc (.cells #[.bool t, .slice A n c] 58)).alloc (.cells #[.bool false, .slice A' n' c'] 58) = W0 at E ⊢
 have a0 := E.out.ba.c0
 have a1 := E.out.ba.c1
 have b0 := E.out.by_.c0
 have b1 := E.out.by_.c1
 go_wp2_with fail
 have hb := below_alloc W0 (.cells #[.bool false, .slice A' n' c'] 58)
 have O1 := Lib.hid (oth1 (W := W0.alloc (.cells #[.bool false, .slice A' n' c'] 58)) (g := W0.heap.size) ((Is.iv_of E.out.by_.is HS.out.2).below hb) (by simp) (by go_simp) (by go_simp))
 replace E := Lib.hid (E.out.next hb)
 clear hb a0 a1 b0 b1
 generalize W0.alloc (.cells #[.bool false, .slice A' n' c'] 58) = W1 at E O1 ⊢
 refine (check_ok (Is.iv_of E.out.ba.is HS.out.1) _ O1.out 0 (.inl ⟨HA.out.1, rfl⟩)).mono ?_
 rintro e w1 ⟨rfl, hb⟩
 replace E := Lib.hid (E.out.next hb)
 clear hb O1
 have a0 := E.out.ba.c0
 have a1 := E.out.ba.c1
 have b0 := E.out.by_.c0
 have b1 := E.out.by_.c1
 go_upto_region 6 with (fail)
 go_region_held3 (fun w' => w'.cell? ⟨w.heap.size, 0, none⟩ = some (.bool t) ∧ w'.cell? ⟨w.heap.size, 1, none⟩ = some (.slice A n c) ∧ w'.cell? ⟨w.heap.size + 1, 0, none⟩ = some (.bool false) ∧ w'.cell? ⟨w.heap.size + 1, 1, none⟩ = some (.slice A' n' c'))
  (first | (with_reducible exact ⟨a0, a1, b0, b1⟩) | (with_reducible exact ⟨cell_dr a0, cell_dr a1, cell_dr b0, cell_dr b1⟩) | fail)
  (first
   | (go_at_call 115; (with_reducible refine (Bits_c (E.out.by_.is.below (Below.refl _ _).drew) HL.out.2).mono ?_); rintro e w2 ⟨rfl, b2⟩; have b9 := (Below.refl w1.heap.size w1).drew.trans b2; replace E := Lib.hid (E.out.next b9); clear a0 a1 b0 b1 b2 b9; have a0 := E.out.ba.c0; have a1 := E.out.ba.c1; have b0 := E.out.by_.c0; have b1 := E.out.by_.c1)
   | (go_at_call 115; (with_reducible refine (Bits_c E.out.ba.is HL.out.1).mono ?_); rintro e w3 ⟨rfl, b9⟩; replace E := Lib.hid (E.out.next b9); clear a0 a1 b0 b1 b9; have a0 := E.out.ba.c0; have a1 := E.out.ba.c1; have b0 := E.out.by_.c0; have b1 := E.out.by_.c1)
   | fail "no arm")
 have hs : blen y.natAbs ≤ 131072 := Nat.le_trans (sz_blen HS.out.2) (by omega)
 have hb2 : 2 ≤ blen a.natAbs := blen_two HA.out.1
 have hb3 : blen a.natAbs ≤ 131072 := Nat.le_trans (sz_blen HS.out.1) (by omega)
 have HI := Lib.hid (And.intro (fun j => idx_low (j := j) HA.out.1 HA.out.2) (fun n => idx_high (y := y) (n := n) HA.out.1))
 obtain ⟨s, hs0⟩ : ∃ s, s = blen y.natAbs := ⟨_, rfl⟩
 obtain ⟨q, hq0⟩ : ∃ q, q = blen a.natAbs := ⟨_, rfl⟩
 rw [← hs0] at hs HI ⊢
 rw [← hq0] at hb2 hb3 HI ⊢
 obtain ⟨S, hS⟩ : ∃ S : Int, S = (s : Int) := ⟨_, rfl⟩
 obtain ⟨Q, hQ⟩ : ∃ Q : Int, Q = (q : Int) := ⟨_, rfl⟩
 rw [← hS, ← hQ]
 have k1 : 0 ≤ S := by omega
 have k2 : S ≤ 131072 := by omega
 have k3 : 2 ≤ Q := by omega
 have k4 : Q ≤ 131072 := by omega
 have HSQ := Lib.hid (And.intro hS hQ)
 clear hs hb2 hb3 hs0 hq0 hS hQ
 go_upto_region 7 with (fail)
 go_cut [9, 10] (fun v9 v10 W => v9 = .int .i64 (((s - 1) / (q + 1) : Nat) : Int) ∧ v10 = .int .i64 ((s / (q - 1) + 1 : Nat) : Int) ∧ B2 w W a t A n c y false A' n' c')
 case first =>
  have z1 : ¬ Q + 1 = 0 := by omega
  have z2 : ¬ Q - 1 = 0 := by omega
  have z3 : S / (Q - 1) = ((s / (q - 1) : Nat) : Int) := highv HSQ.out.1 HSQ.out.2 k3
  have z4 : s / (q - 1) ≤ 131072 := Nat.le_trans (Nat.div_le_self _ _) (by have := HSQ.out.1; omega)
  have z5 : 0 ≤ S / (Q - 1) := by rw [z3]; exact Int.natCast_nonneg _
  have z6 : S / (Q - 1) ≤ 131072 := by rw [z3]; exact Int.ofNat_le.2 z4
  have HZ3 := Lib.hid z3
  clear z3 z4
  go_region
  all_goals go_wp2
  all_goals go_meet
  all_goals
   refine ⟨?_, by rw [HZ3.out, Int.natCast_add]; rfl, E.out.next (Below.refl _ _).drew⟩
  all_goals
   first
    | rw [lowv HSQ.out.1 HSQ.out.2 (by omega)]
    | (rw [show s - 1 = 0 by have := HSQ.out.1; omega, Nat.zero_div]; rfl)
 case rest =>
  obtain ⟨rfl, rfl, hE⟩ := hcut
  replace E := Lib.hid hE
  have HIN := Lib.hid (show (s - 1) / (q + 1) ≤ s / (q - 1) + 1 ∧ s / (q - 1) + 1 ≤ 131073 by
   have h1 : (s - 1) / (q + 1) ≤ s / (q - 1) := Nat.le_trans (Nat.div_le_div_right (Nat.sub_le s 1)) (Nat.div_le_div_left (by omega) (by have := HSQ.out.2; omega))
   have h2 : s / (q - 1) ≤ s := Nat.div_le_self _ _
   have h3 := HSQ.out.1
   omega)
  clear hE a0 a1 b0 b1
  go_wp2_with fail
  go_loopw [9, 10] (fun v9 v10 wr => ∃ lo hi : Nat, v9 = .int .i64 (lo : Int) ∧ v10 = .int .i64 (hi : Int) ∧ lo ≤ hi ∧ hi ≤ 131073 ∧ (∀ j, j < lo → psi a j < y) ∧ (∀ n, psi a n = y → n ≤ hi) ∧ B2 w wr a t A n c y false A' n' c') (fun v9 v10 _ => (intOf v10 - intOf v9).toNat)
  case atStart => exact ⟨_, _, rfl, rfl, HIN.out.1, HIN.out.2, HI.out.1, HI.out.2, E.out⟩
  case round =>
   clear E HI HIN HSQ k1 k2 k3 k4 HL
   obtain ⟨lo, hi, rfl, rfl, h1, h2, h3, h4, hE⟩ := hrel
   have E := Lib.hid hE
   have HLO := Lib.hid h3
   have HHI := Lib.hid h4
   obtain ⟨Lo, hLo⟩ : ∃ x : Int, x = (lo : Int) := ⟨_, rfl⟩
   obtain ⟨Hi, hHi⟩ : ∃ x : Int, x = (hi : Int) := ⟨_, rfl⟩
   rw [← hLo, ← hHi]
   have j1 : 0 ≤ Lo := by omega
   have j2 : Hi ≤ 131073 := by omega
   have j3 : Lo ≤ Hi := by omega
   have j4 : 0 ≤ Hi := by omega
   have j5 : Lo ≤ 131073 := by omega
   have a0 := hE.ba.c0
   have a1 := hE.ba.c1
   by_cases hlt : lo < hi
   · have hlt' : Lo < Hi := by omega
     obtain ⟨M, hM⟩ : ∃ x : Int, (Lo + Hi) / 2 = x := ⟨_, rfl⟩
     have hMm : M = (((lo + hi) / 2 : Nat) : Int) := by omega
     have hm1 : lo ≤ (lo + hi) / 2 := by omega
     have hm2 : (lo + hi) / 2 < hi := by omega
     have j6 : 0 ≤ M := by omega
     have j7 : M ≤ 131073 := by omega
     generalize (lo + hi) / 2 = md at hMm hm1 hm2
     have HP := Lib.hid (fun (W : World) (hi : Iv W a t A n c) => Psi_ok hi HA.out.1 md (by omega))
     rw [← hMm] at HP
     have HJ := Lib.hid (And.intro (And.intro hLo hHi) (And.intro hMm (And.intro hm1 hm2)))
     clear hLo hHi hMm hm1 hm2 h1 h2 h3 h4 hlt hE
     go_wp2_with fail
     refine (HP.out _ (Is.iv_of E.out.ba.is HS.out.1)).mono ?_
     rintro e w4 ⟨t4, B4, m4, d4, k4, rfl, hn, b4⟩
     by_cases hf : (words (psi a md).natAbs).length ≤ 4096
     · obtain ⟨k0, q1, q2, q3, q4, q5⟩ := hn.1 hf
       subst k0
       have X := Lib.hid (Box.new (show Is w4 (psi a md) t4 B4 m4 d4 from ⟨q1, q2, q3, q4, q5⟩))
       have HF := Lib.hid (words_len_le.1 hf)
       replace E := Lib.hid ((E.out.next b4).next (below_alloc w4 (.cells #[.bool t4, .slice B4 m4 d4] 58)))
       clear hn q1 q2 q3 q4 q5 hf b4 a0 a1
       have p0 := X.out.c0
       have p1 := X.out.c1
       have b0 := E.out.by_.c0
       have b1 := E.out.by_.c1
       by_cases hl : psi a md < y
       · have HD := Lib.hid hl
         clear hl
         go_wp2_with fail
         refine (Less_c (Is.iv_of X.out.is HF.out) (Is.iv_of E.out.by_.is HS.out.2)).mono ?_
         rw [decide_eq_true HD.out]
         rintro e w5 ⟨rfl, b5⟩
         replace E := Lib.hid (E.out.next b5)
         clear b5 p0 p1 b0 b1
         go_wp2
         go_roundw
         case measure => simp [intOf]; have := HJ.out; omega
         case rel => exact ⟨md + 1, hi, by rw [HJ.out.2.1]; rfl, by rw [HJ.out.1.2], by have := HJ.out; omega, by have := HJ.out; omega, fun j hj => Int.lt_of_le_of_lt (psi_le HA.out.1 (by omega)) HD.out, HHI.out, E.out⟩
       · have HD := Lib.hid hl
         clear hl
         go_wp2_with fail
         refine (Less_c (Is.iv_of X.out.is HF.out) (Is.iv_of E.out.by_.is HS.out.2)).mono ?_
         rw [decide_eq_false (show ¬ psi a md < y by have := HD.out; omega)]
         rintro e w5 ⟨rfl, b5⟩
         replace E := Lib.hid (E.out.next b5)
         clear b5 p0 p1 b0 b1
         go_wp2
         go_roundw
         case measure => simp [intOf]; have := HJ.out; omega
         case rel => exact ⟨lo, md, by rw [HJ.out.1.1], by rw [HJ.out.2.1], by have := HJ.out; omega, by have := HJ.out; omega, HLO.out, fun n hn => by
          rcases Nat.lt_or_ge md n with h5 | h5
          · have := psi_lt HA.out.1 h5
            have := HD.out
            omega
          · exact h5, E.out⟩
     · obtain ⟨rfl, rfl, rfl, rfl, rfl⟩ := hn.2 hf
       have HF := Lib.hid (show y < psi a md by
        have h5 : ¬ (psi a md).natAbs < pw 4096 := fun h6 => hf (words_len_le.2 h6)
        have h6 : y.natAbs < pw 4096 := HS.out.2
        have h7 := psi_nn HA.out.1 md
        omega)
       replace E := Lib.hid ((E.out.next b4).next (below_alloc w4 (.cells #[.bool false, .slice none 0 0] 58)))
       clear hn hf b4 a0 a1
       go_wp2
       go_roundw
       case measure => simp [intOf]; have := HJ.out; omega
       case rel => exact ⟨lo, md, by rw [HJ.out.1.1], by rw [HJ.out.2.1], by have := HJ.out; omega, by have := HJ.out; omega, HLO.out, fun n hn => by
        rcases Nat.lt_or_ge md n with h5 | h5
        · have := psi_lt HA.out.1 h5
          have := HF.out
          omega
        · exact h5, E.out⟩
   · have hlt' : ¬ Lo < Hi := by omega
     have HP := Lib.hid (fun (W : World) (hi : Iv W a t A n c) => Psi_ok hi HA.out.1 lo (by omega))
     rw [← hLo] at HP
     have HJ := Lib.hid (And.intro hLo (show lo = hi by omega))
     have HNO := Lib.hid (show psi a lo ≠ y → ∀ n, psi a n ≠ y from fun hne n hn => by
      have h5 := h4 n hn
      rcases Nat.lt_or_ge n lo with h6 | h6
      · have := h3 n h6
        omega
      · exact hne (by rw [show lo = n by omega]; exact hn))
     clear hLo hHi h1 h2 h3 h4 hlt hE HLO HHI
     go_wp2_with fail
     refine (HP.out _ (Is.iv_of E.out.ba.is HS.out.1)).mono ?_
     rintro e w4 ⟨t4, B4, m4, d4, k4, rfl, hn, b4⟩
     by_cases hf : (words (psi a lo).natAbs).length ≤ 4096
     · obtain ⟨k0, q1, q2, q3, q4, q5⟩ := hn.1 hf
       subst k0
       have X := Lib.hid (Box.new (show Is w4 (psi a lo) t4 B4 m4 d4 from ⟨q1, q2, q3, q4, q5⟩))
       have HF := Lib.hid (words_len_le.1 hf)
       replace E := Lib.hid ((E.out.next b4).next (below_alloc w4 (.cells #[.bool t4, .slice B4 m4 d4] 58)))
       clear hn q1 q2 q3 q4 q5 hf b4 a0 a1
       have p0 := X.out.c0
       have p1 := X.out.c1
       have b0 := E.out.by_.c0
       have b1 := E.out.by_.c1
       by_cases hl : psi a lo = y
       · have HD := Lib.hid hl
         clear hl
         go_wp2_with fail
         refine (Equal_c (Is.iv_of X.out.is HF.out) (Is.iv_of E.out.by_.is HS.out.2)).mono ?_
         rw [decide_eq_true HD.out]
         rintro e w5 ⟨rfl, b5⟩
         replace E := Lib.hid (E.out.next b5)
         clear b5 p0 p1 b0 b1
         go_wp2
         go_ret2
         exact ⟨_, _, rfl, E.out.below, .inl ⟨rfl, lo, HJ.out.1, HD.out⟩⟩
       · have HD := Lib.hid hl
         clear hl
         go_wp2_with fail
         refine (Equal_c (Is.iv_of X.out.is HF.out) (Is.iv_of E.out.by_.is HS.out.2)).mono ?_
         rw [decide_eq_false HD.out]
         rintro e w5 ⟨rfl, b5⟩
         replace E := Lib.hid (E.out.next b5)
         clear b5 p0 p1 b0 b1
         go_wp2
         go_ret2
         exact ⟨_, _, rfl, E.out.below, .inr ⟨rfl, rfl, HNO.out HD.out⟩⟩
     · obtain ⟨rfl, rfl, rfl, rfl, rfl⟩ := hn.2 hf
       have HF := Lib.hid (show psi a lo ≠ y by
        have h5 : ¬ (psi a lo).natAbs < pw 4096 := fun h6 => hf (words_len_le.2 h6)
        have h6 : y.natAbs < pw 4096 := HS.out.2
        omega)
       replace E := Lib.hid ((E.out.next b4).next (below_alloc w4 (.cells #[.bool false, .slice none 0 0] 58)))
       clear hn hf b4 a0 a1
       go_wp2
       go_ret2
       exact ⟨_, _, rfl, E.out.below, .inr ⟨rfl, rfl, HNO.out HF.out⟩⟩
set_option maxHeartbeats 4000000 in
theorem Index_neg {w : World} {a : Int} {t : Bool} {A : Option Addr} {n c : Nat} {y : Int} {t' : Bool} {A' : Option Addr} {n' c' : Nat} (h : Iv w a t A n c) (h' : Iv w y t' A' n' c') (ha : 2 ≤ a) (hy : y < 0) :
 Calls Tryz.prog 78 #[.agg #[.bool t, .slice A n c], .agg #[.bool t', .slice A' n' c']] w (IdxPost a y w) := by
 have ht' : t' = true := by rw [h'.is.1]; exact decide_eq_true hy
 subst ht'
 have E := Lib.hid (B2.start h.is h'.is)
 have HS := Lib.hid (And.intro h.sz h'.sz)
 have HA := Lib.hid (And.intro ha hy)
 clear h h' ha hy
 go_enter Tryz.func78, Tryz.ntmps78
 go_upto_region 1 with (fail)
 generalize (w.alloc (.cells #[.bool t, .slice A n c] 58)).alloc (.cells #[.bool true, .slice A' n' c'] 58) = W0 at E ⊢
 have a0 := E.out.ba.c0
 have a1 := E.out.ba.c1
 have b0 := E.out.by_.c0
 have b1 := E.out.by_.c1
 go_wp2_with fail
 have hb := below_alloc W0 (.cells #[.bool true, .slice A' n' c'] 58)
 have O1 := Lib.hid (oth1 (W := W0.alloc (.cells #[.bool true, .slice A' n' c'] 58)) (g := W0.heap.size) ((Is.iv_of E.out.by_.is HS.out.2).below hb) (by simp) (by go_simp) (by go_simp))
 replace E := Lib.hid (E.out.next hb)
 clear hb a0 a1 b0 b1
 generalize W0.alloc (.cells #[.bool true, .slice A' n' c'] 58) = W1 at E O1 ⊢
 refine (check_ok (Is.iv_of E.out.ba.is HS.out.1) _ O1.out 0 (.inl ⟨HA.out.1, rfl⟩)).mono ?_
 rintro e w1 ⟨rfl, hb⟩
 replace E := Lib.hid (E.out.next hb)
 clear hb O1
 have b0 := E.out.by_.c0
 go_wp2
 go_ret2
 exact ⟨_, _, rfl, E.out.below, .inr ⟨rfl, rfl, fun n hn => by
  have h5 := psi_nn HA.out.1 n
  have := HA.out.2
  omega⟩⟩
theorem Index_c {w : World} {a : Int} {t : Bool} {A : Option Addr} {n c : Nat} {y : Int} {t' : Bool} {A' : Option Addr} {n' c' : Nat} (h : Iv w a t A n c) (h' : Iv w y t' A' n' c') (ha : 2 ≤ a) :
 Calls Tryz.prog 78 #[.agg #[.bool t, .slice A n c], .agg #[.bool t', .slice A' n' c']] w (IdxPost a y w) := by
 rcases (show y < 0 ∨ 0 ≤ y by omega) with hy | hy
 · exact Index_neg h h' ha hy
 · exact Index_pos h h' ha hy
structure Rb (W : World) (g : Nat) (s : Bool) (A : Option Addr) (n c : Nat) (xs : List Nat) : Prop where
 lt : g < W.heap.size
 c0 : W.cell? ⟨g, 0, none⟩ = some (.bool s)
 c1 : W.cell? ⟨g, 1, none⟩ = some (.slice A n c)
 rd : Rd W A n xs
theorem Rb.next {W w1 : World} {b : Nat} {s : Bool} {A : Option Addr} {n c : Nat} {xs : List Nat} (h : Rb W b s A n c xs) (hb : Below W.heap.size W w1) : Rb w1 b s A n c xs :=
 ⟨Nat.lt_of_lt_of_le h.lt hb.size, (hb.cell (p := ⟨b, 0, none⟩) h.lt).trans h.c0, (hb.cell (p := ⟨b, 1, none⟩) h.lt).trans h.c1, h.rd.below hb⟩
theorem Rb.new {W : World} {s : Bool} {A : Option Addr} {n c : Nat} {xs : List Nat} (h : Rd W A n xs) : Rb (W.alloc (.cells #[.bool s, .slice A n c] 58)) W.heap.size s A n c xs :=
 ⟨by simp, by go_simp, by go_simp, h.below (below_alloc _ _)⟩
theorem Rb.alloc {W : World} {b : Nat} {s : Bool} {A : Option Addr} {n c : Nat} {xs : List Nat} (h : Rb W b s A n c xs) (o : Obj) : Rb (W.alloc o) b s A n c xs := h.next (below_alloc _ _)
set_option maxHeartbeats 2000000 in
theorem Valid1_raw {W : World} {g : Nat} {s : Bool} {A : Option Addr} {n c : Nat} {xs : List Nat} (h : Rb W g s A n c xs) :
 Calls Tryz.prog 37 #[.slice (some ⟨g, 0, none⟩) 1 1] W (IsB (validB s xs) W) := by
 have HV := Lib.hid h.rd
 have c0 := h.c0
 have c1 := h.c1
 clear h
 go_enter Tryz.func37, Tryz.ntmps37
 go_wp2_with fail
 refine wp_loop_rounds 2 ?_
 rw [rounds_succ]
 go_wp2_with fail
 refine (valid_c s A n c xs _ (HV.out.below (below_alloc _ _))).mono ?_
 rintro e w1 ⟨rfl, hb⟩
 have HB := Lib.hid ((below_alloc W (.cells #[.bool s, .slice A n c] 58)).trans (hb.mono (by simp)))
 clear hb
 cases hv : validB s xs with
 | true =>
   go_wp2_with fail
   rw [rounds_succ]
   go_wp2
   go_ret
   exact ⟨by rw [hv]; rfl, HB.out⟩
 | false =>
   go_wp2
   go_ret
   exact ⟨by rw [hv]; rfl, HB.out⟩
theorem oth1_raw {W : World} {g : Nat} {s : Bool} {A : Option Addr} {n c : Nat} {xs : List Nat} (h : Rb W g s A n c xs) : Oth W (.slice (some ⟨g, 0, none⟩) 1 1) (validB s xs) := fun _ hb =>
 Valid1_raw (h.next hb)
def codeV (s : Bool) (xs : List Nat) (vo : Bool) : Int := if validB s xs = false ∨ vo = false then 1 else if sgn s (val xs) < 2 then 2 else 0
set_option maxHeartbeats 2000000 in
theorem check_bad {w : World} {s : Bool} {A : Option Addr} {n c : Nat} {xs : List Nat} (h : Rd w A n xs) (o : Value) (vo : Bool) (ho : Oth w o vo) (hv : validB s xs = false ∨ vo = false) :
 Calls Tryz.prog 114 #[.agg #[.bool s, .slice A n c], o] w fun e w' => e = .returned (.int .i64 1) ∧ Below w.heap.size w w' := by
 have b0 := below_alloc w (.cells #[.bool s, .slice A n c] 58)
 have B0 := Lib.hid (Rb.new (s := s) (c := c) h)
 have HB := Lib.hid b0
 have HO := Lib.hid ho
 obtain ⟨va, hva⟩ : ∃ va, va = validB s xs := ⟨_, rfl⟩
 rw [← hva] at hv
 have HVA := Lib.hid hva
 clear h b0 ho hva
 go_enter Tryz.func114, Tryz.ntmps114
 go_wp2_with fail
 generalize w.alloc (.cells #[.bool s, .slice A n c] 58) = W0 at B0 HB ⊢
 refine (valid_c s A n c xs _ B0.out.rd).mono ?_
 rw [← HVA.out]
 rintro e w1 ⟨rfl, hb⟩
 replace HB := Lib.hid (HB.out.trans (hb.mono HB.out.size))
 clear hb B0
 cases va with
 | false =>
   go_wp2
   go_ret
   exact ⟨rfl, HB.out⟩
 | true =>
   have hvo : vo = false := by
    rcases hv with h | h
    · cases h
    · exact h
   subst hvo
   go_wp2_with fail
   refine (HO.out _ HB.out).mono ?_
   rintro e w2 ⟨rfl, hb⟩
   replace HB := Lib.hid (HB.out.trans (hb.mono HB.out.size))
   clear hb
   go_wp2
   go_ret
   exact ⟨rfl, HB.out⟩
theorem check_raw {w : World} {s : Bool} {A : Option Addr} {n c : Nat} {xs : List Nat} (h : Rd w A n xs) (hn : n ≤ c) (hc : c ≤ 9223372036854775807) (o : Value) (vo : Bool) (ho : Oth w o vo) :
 Calls Tryz.prog 114 #[.agg #[.bool s, .slice A n c], o] w fun e w' => e = .returned (.int .i64 (codeV s xs vo)) ∧ Below w.heap.size w w' := by
 by_cases hv : validB s xs = false ∨ vo = false
 · have := check_bad (s := s) (c := c) h o vo ho hv
   unfold codeV
   rw [if_pos hv]
   exact this
 · have h1 : validB s xs = true := by
    cases hb : validB s xs
    · exact absurd (.inl hb) hv
    · rfl
   have h2 : vo = true := by
    cases vo
    · exact absurd (.inr rfl) hv
    · rfl
   subst h2
   have i := Is.of_valid h h1 hn hc
   have hl : n ≤ 4096 := by
    rw [i.2.1]
    have := i.2.1
    unfold validB at h1
    rw [h.len] at h1
    split at h1
    · omega
    · simp at h1; omega
   have hz : Sz (sgn s (val xs)) 4096 := sz_valid h hl
   unfold codeV
   rw [if_neg hv]
   split
   · exact check_ok (i.iv_of hz) o ho 2 (.inr ⟨by assumption, rfl⟩)
   · exact check_ok (i.iv_of hz) o ho 0 (.inl ⟨by omega, rfl⟩)
structure Rb2 (w W : World) (s : Bool) (A : Option Addr) (n c : Nat) (xs : List Nat) (s' : Bool) (A' : Option Addr) (n' c' : Nat) (ys : List Nat) : Prop where
 below : Below w.heap.size w W
 ba : Rb W w.heap.size s A n c xs
 bb : Rb W (w.heap.size + 1) s' A' n' c' ys
theorem Rb2.next {w W W' : World} {s : Bool} {A : Option Addr} {n c : Nat} {xs : List Nat} {s' : Bool} {A' : Option Addr} {n' c' : Nat} {ys : List Nat} (h : Rb2 w W s A n c xs s' A' n' c' ys) (hb : Below W.heap.size W W') : Rb2 w W' s A n c xs s' A' n' c' ys :=
 ⟨h.below.trans (hb.mono h.below.size), h.ba.next hb, h.bb.next hb⟩
theorem Rb2.start {w : World} {s : Bool} {A : Option Addr} {n c : Nat} {xs : List Nat} {s' : Bool} {A' : Option Addr} {n' c' : Nat} {ys : List Nat} (h : Rd w A n xs) (h' : Rd w A' n' ys) : Rb2 w ((w.alloc (.cells #[.bool s, .slice A n c] 58)).alloc (.cells #[.bool s', .slice A' n' c'] 58)) s A n c xs s' A' n' c' ys := by
 refine ⟨((Below.refl _ _).alloc (Nat.le_refl _) _).alloc (by simp) _, (Rb.new h).alloc _, ?_⟩
 have := Rb.new (s := s') (c := c') (h'.below (below_alloc w (.cells #[.bool s, .slice A n c] 58)))
 rwa [World.size_alloc] at this
set_option maxHeartbeats 4000000 in
theorem Index_err {w : World} {s : Bool} {A : Option Addr} {n c : Nat} {xs : List Nat} {s' : Bool} {A' : Option Addr} {n' c' : Nat} {ys : List Nat} (h : Rd w A n xs) (h' : Rd w A' n' ys) (hn : n ≤ c) (hc : c ≤ 9223372036854775807) (k : Int) (hk : codeV s xs (validB s' ys) = k) (hk0 : k ≠ 0) :
 Calls Tryz.prog 78 #[.agg #[.bool s, .slice A n c], .agg #[.bool s', .slice A' n' c']] w fun e w' => e = .returned (.tuple #[.int .i64 0, .int .i64 k]) ∧ Below w.heap.size w w' := by
 have E := Lib.hid (Rb2.start (s := s) (c := c) (s' := s') (c' := c') h h')
 have HN := Lib.hid (And.intro hn hc)
 have t1 : (k == 0) = false := by rw [beq_eq_false_iff_ne]; exact hk0
 have HK := Lib.hid hk
 clear h h' hn hc hk hk0
 go_enter Tryz.func78, Tryz.ntmps78
 go_upto_region 1 with (fail)
 generalize (w.alloc (.cells #[.bool s, .slice A n c] 58)).alloc (.cells #[.bool s', .slice A' n' c'] 58) = W0 at E ⊢
 have a0 := E.out.ba.c0
 have a1 := E.out.ba.c1
 have b0 := E.out.bb.c0
 have b1 := E.out.bb.c1
 go_wp2_with fail
 have hb := below_alloc W0 (.cells #[.bool s', .slice A' n' c'] 58)
 have O1 := Lib.hid (oth1_raw (Rb.new (s := s') (c := c') E.out.bb.rd))
 replace E := Lib.hid (E.out.next hb)
 clear hb a0 a1 b0 b1
 generalize W0.alloc (.cells #[.bool s', .slice A' n' c'] 58) = W1 at E O1 ⊢
 refine (check_raw E.out.ba.rd HN.out.1 HN.out.2 _ _ O1.out).mono ?_
 rw [HK.out]
 rintro e w1 ⟨rfl, hb⟩
 replace E := Lib.hid (E.out.next hb)
 clear hb O1
 go_wp2
 go_ret2
 exact ⟨rfl, E.out.below⟩
end Go.Proofs.YteabokkofoomkaaGreat

import Derived.Test.YteabokkofoomkaaGreatCaa
import Derived.Test.YteabokkofoomkaaGreatCab
import Derived.Deep.RegionHeld3
namespace Go.Proofs.YteabokkofoomkaaGreat
open Go.RowKit
set_option maxHeartbeats 1000000 in
theorem rowByRow_c (g c : Nat) (A B : Option Addr) (n a1 m b1 : Nat) (xs ys : List Nat) (w : World) (hL : Bk w g (List.replicate (n + m) 0)) (ha : Rd w A n xs) (hb : Rd w B m ys) (hoa : 0 < n → Off A g) (hob : 0 < m → Off B g)
 (hc : n + m ≤ c) (hc2 : c ≤ 9223372036854775800) (hmn : m ≤ n) (hn : n < 35184372088832) :
 Calls Tryz.prog 146 #[.slice (some ⟨g, 0, none⟩) (n + m) c, .slice A n a1, .slice B m b1] w fun e w' => e = .returned (.tuple #[]) ∧ w.grownBy w' (some g) ∧ ∃ cs, cs.length = n + m ∧ val cs = val xs * val ys ∧ Bk w' g cs := by
 have HX := Lib.hid ha.len
 have HY := Lib.hid hb.len
 have hsx := ha.sm
 have hsy := hb.sm
 go_enter Tryz.func146, Tryz.ntmps146
 go_wp2
 go_loopw [15] (fun v wr => ∃ i : Nat, ∃ cs, v = .int .i64 i ∧ i ≤ m ∧ RowAt xs ys i 0 cs 0 ∧ Bk wr g cs ∧ w.grownBy wr (some g)) (fun v _ => m - (intOf v).toNat)
 case atStart => exact ⟨0, _, rfl, Nat.zero_le _, RowAt.start xs ys, by rw [HX.out, HY.out]; exact hL, ⟨rfl, rfl, rfl, Nat.le_refl _, fun _ _ _ => rfl⟩⟩
 case round =>
  obtain ⟨i, cs, rfl, hi, hR, hB, hg⟩ := hrel
  by_cases him : i < m
  · obtain ⟨bb, q, hBe, _, hcb⟩ := (hb.grown hg hob).of (by omega)
    subst hBe
    have hci := hcb i him
    have hy1 := small_get hsy i
    obtain ⟨y, hy2⟩ : ∃ y, y = ys.getD i 0 := ⟨_, rfl⟩
    rw [← hy2] at hci hy1
    have HY2 := Lib.hid hy2
    clear hy2 hcb
    have i1 : (0 : Int) ≤ (i : Int) := by omega
    have i2 : (i : Int) + n + 1 ≤ (c : Int) := by omega
    have H0 := Lib.hid hR
    have H1 := Lib.hid hB
    have H2 := Lib.hid hg
    clear hR hB hg
    go_wp2
    obtain ⟨wo, hwo⟩ : ∃ wo : World, wo = wr := ⟨_, rfl⟩
    rw [← hwo]
    rw [← hwo] at H1 H2
    clear hwo hci
    go_loopw [9, 30] (fun cy v wr => ∃ j y' : Nat, ∃ cs', cy = .int .u64 y' ∧ v = .int .i64 j ∧ j ≤ n ∧ y' < 4294967296 ∧ RowAt xs ys i j cs' y' ∧ Bk wr g cs' ∧ w.grownBy wr (some g)) (fun _ v _ => n - (intOf v).toNat)
    case atStart => exact ⟨0, 0, cs, rfl, rfl, Nat.zero_le _, by omega, H0.out, H1.out, H2.out⟩
    case round =>
     obtain ⟨j, y', cs', rfl, rfl, hj, hy', hR, hB, hg⟩ := hrel
     have hl : cs'.length = n + m := by rw [hR.len, HX.out, HY.out]
     by_cases hjn : j < n
     · obtain ⟨bb2, q2, hAe, _, hca⟩ := (ha.grown hg hoa).of (by omega)
       subst hAe
       have hcj := hca j hjn
       have hcx := hB.cell (i + j) (by omega)
       have hfx := hB.frozen (i + j)
       have hx1 := small_get hsx j
       have hr1 := small_get hB.1 (i + j)
       have hnx := hR.next hsx hsy (by rw [HX.out]; exact hjn) (by rw [HY.out]; exact him)
       rw [← HY2.out] at hnx
       obtain ⟨x, hx2⟩ : ∃ x, x = xs.getD j 0 := ⟨_, rfl⟩
       obtain ⟨r, hr2⟩ : ∃ r, r = cs'.getD (i + j) 0 := ⟨_, rfl⟩
       rw [← hx2] at hcj hx1 hnx
       rw [← hr2] at hcx hr1 hnx
       have hml := mul_word_le hy1 hx1
       have hmul : ((y : Int) * (x : Int)) = ((y * x : Nat) : Int) := by simp
       obtain ⟨P, hP⟩ : ∃ P, P = y * x := ⟨_, rfl⟩
       rw [← hP] at hml hmul hnx
       obtain ⟨T, hT⟩ : ∃ T, T = P + r + y' := ⟨_, rfl⟩
       rw [← hT] at hnx
       have hbn := hB.set_ (i + j) (T % 4294967296) (by omega)
       have hgn := grown_setCell hg (p := ⟨g, i + j, none⟩) (.inl rfl) (.int .u32 ((T % 4294967296 : Nat) : Int))
       have hv : ((T % 4294967296 : Nat) : Int) = ((P : Int) + r + y') % 4294967296 := by omega
       have hv2 : ((T / 4294967296 : Nat) : Int) = ((P : Int) + r + y') / 4294967296 := by omega
       rw [hv] at hbn hgn
       have G1 := Lib.hid hnx
       have G2 := Lib.hid hbn
       have G3 := Lib.hid hgn
       have G4 := Lib.hid hv2
       have G5 := Lib.hid (show T / 4294967296 < 4294967296 by omega)
       clear hv hv2 hT hP hx2 hr2 hnx hbn hgn hca hR hB hg hl hsx hsy hmn
       go_wp2
       go_roundw
       case measure => simp [intOf]; omega
       case rel => exact ⟨j + 1, T / 4294967296, _, by rw [G4.out], by go_num, by omega, G5.out, G1.out, G2.out, G3.out⟩
     · obtain rfl : j = n := by omega
       have hcx := hB.cell (i + j) (by omega)
       have hfx := hB.frozen (i + j)
       have hbn := hB.set_ (i + j) y' hy'
       have hgn := grown_setCell hg (p := ⟨g, i + j, none⟩) (.inl rfl) (.int .u32 (y' : Int))
       have hrn := (show RowAt xs ys i xs.length cs' y' by rw [HX.out]; exact hR).row (by rw [HY.out]; exact him)
       rw [HX.out] at hrn
       have G1 := Lib.hid hrn
       have G2 := Lib.hid hbn
       have G3 := Lib.hid hgn
       clear hrn hbn hgn hR hB hg hl hsx hsy
       go_wp2
       go_roundw
       case measure => simp [intOf]; omega
       case rel => exact ⟨i + 1, _, by go_num, by omega, G1.out, G2.out, G3.out⟩
  · have hd := hR.done (by rw [HY.out]; omega)
    have hl : cs.length = n + m := by rw [hR.len, HX.out, HY.out]
    have H := Lib.hid (show w.grownBy wr (some g) ∧ ∃ cs, cs.length = n + m ∧ val cs = val xs * val ys ∧ Bk wr g cs from ⟨hg, cs, hl, hd, hB⟩)
    clear hd hl hR hB hg
    go_wp2
    go_end0
    exact ⟨rfl, H.out⟩
def MulUpTo (N : Nat) : Prop := ∀ (A B : Option Addr) (n c m d : Nat) (xs ys : List Nat) (w : World), n + m < N → Rd w A n xs → Rd w B m ys → canon xs → canon ys → n < 17592186044416 → m < 17592186044416 → n ≤ c → m ≤ d → c ≤ 9223372036854775807 → d ≤ 9223372036854775807 →
 Calls Tryz.prog 131 #[.slice A n c, .slice B m d] w (Out w (val xs * val ys))
theorem quiet_one {P : Program} {f : FuncId} {args : Array Value} {w : World} {n : Nat} {v : Value} (h : Calls P f args (w.drewN n) (Quietly (w.drewN n) v)) :
 Calls P f args (w.drewN n) fun e w'' => e = .returned v ∧ ∃ m, w'' = w.drewN m :=
 h.mono fun _ _ ⟨he, m, hm⟩ => ⟨he, n + m, by rw [hm, World.drewN_drewN]⟩
set_option maxHeartbeats 1000000 in
set_option maxRecDepth 100000 in
theorem threeProducts_c (g b b' o o' n a1 m b1 kk : Nat) (ih : MulUpTo (n + m)) (xs ys : List Nat) (w : World) (hL : Bk w g (List.replicate (n + m) 0)) (ha : Rd w (some ⟨b, o, none⟩) n xs) (hb : Rd w (some ⟨b', o', none⟩) m ys)
 (cx : canon xs) (cy : canon ys) (hn : n < 17592186044416) (hm : m ≤ n) (hh : kk < m) (hh2 : n ≤ 2 * kk) (hh3 : 2 * kk ≤ n + 1) (h40 : 40 ≤ m) (hc1 : n ≤ a1) (hc2 : m ≤ b1) (hc3 : a1 ≤ 9223372036854775807) (hc4 : b1 ≤ 9223372036854775807) :
 Calls Tryz.prog 148 #[.slice (some ⟨g, 0, none⟩) (n + m) (n + m), .slice (some ⟨b, o, none⟩) n a1, .slice (some ⟨b', o', none⟩) m b1, .int .i64 (kk : Int)] w fun e w' => e = .returned (.tuple #[]) ∧ w.grownBy w' (some g) ∧ ∃ cs, cs.length = n + m ∧ val cs = val xs * val ys ∧ Bk w' g cs := by
 have IH := Lib.hid ih
 clear ih
 have HX := Lib.hid ha.len
 have HY := Lib.hid hb.len
 have r0 := ha.take (m := kk) (by omega)
 have s0 := hb.take (m := kk) (by omega)
 have r1 := ha.drop (m := kk) (by omega)
 have s1 := hb.drop (m := kk) (by omega)
 have cx1 := canon_drop cx (k := kk) (by rw [ha.len]; omega)
 have cy1 := canon_drop cy (k := kk) (by rw [hb.len]; omega)
 have T1 := Lib.hid (fun w' hw => trim_q (some ⟨b, o, none⟩) kk a1 (xs.take kk) w' hw (by omega) (by omega))
 have T2 := Lib.hid (fun w' hw => trim_q (some ⟨b', o', none⟩) kk b1 (ys.take kk) w' hw (by omega) (by omega))
 have ex := val_take_drop xs kk (by rw [ha.len]; omega)
 have ey := val_take_drop ys kk (by rw [hb.len]; omega)
 have lx0 := val_lt r0.sm
 have ly0 := val_lt s0.sm
 have lx1 := val_lt r1.sm
 have ly1 := val_lt s1.sm
 rw [r0.len] at lx0
 rw [s0.len] at ly0
 rw [r1.len] at lx1
 rw [s1.len] at ly1
 have px := pw_le (show n - kk ≤ kk by omega)
 have py := pw_le (show m - kk ≤ kk by omega)
 have rt0 := r0.trim
 have st0 := s0.trim
 obtain ⟨l1, hl1⟩ : ∃ l1, l1 = xs.drop kk := ⟨_, rfl⟩
 obtain ⟨m1, hm1⟩ : ∃ m1, m1 = ys.drop kk := ⟨_, rfl⟩
 rw [← hl1] at ex lx1 r1 cx1
 rw [← hm1] at ey ly1 s1 cy1
 obtain ⟨X0, hX0⟩ : ∃ X0, X0 = val (xs.take kk) := ⟨_, rfl⟩
 obtain ⟨Y0, hY0⟩ : ∃ Y0, Y0 = val (ys.take kk) := ⟨_, rfl⟩
 rw [← hX0] at ex lx0 rt0 T1
 rw [← hY0] at ey ly0 st0 T2
 have wx0 : (words X0).length ≤ kk := words_len_le.2 lx0
 have wy0 : (words Y0).length ≤ kk := words_len_le.2 ly0
 have hsucc := pw_succ kk
 have wxs : (words (X0 + val l1)).length ≤ kk + 1 := words_len_le.2 (by omega)
 have wys : (words (Y0 + val m1)).length ≤ kk + 1 := words_len_le.2 (by omega)
 have EX := Lib.hid ex
 have EY := Lib.hid ey
 have PB := Lib.hid (show X0 < pw kk ∧ Y0 < pw kk ∧ val l1 < pw (n - kk) ∧ val m1 < pw (m - kk) from ⟨lx0, ly0, lx1, ly1⟩)
 have lr1 := Lib.hid r1.len
 clear hX0 hY0 hl1 hm1 ex ey lx0 ly0 lx1 ly1 px py hsucc
 have i1 : (kk : Int) ≤ (a1 : Int) := by omega
 have i2 : (kk : Int) ≤ (b1 : Int) := by omega
 have i3 : (kk : Int) ≤ (n : Int) := by omega
 have i4 : (kk : Int) ≤ (m : Int) := by omega
 have e1 : (some (⟨b, o, none⟩ : Addr)).map (·.add kk) = some ⟨b, o + kk, none⟩ := by simp [Addr.add]; intro h0; omega
 have e2 : (some (⟨b', o', none⟩ : Addr)).map (·.add kk) = some ⟨b', o' + kk, none⟩ := by simp [Addr.add]; intro h0; omega
 rw [e1] at r1
 rw [e2] at s1
 clear e1 e2
 go_enter Tryz.func148, Tryz.ntmps148
 go_wp2_with fail
 go_quiet ((go_at_call 125; exact quiet_one (T1.out _ (r0.drewN _))))
 go_wp2_with fail
 go_quiet ((go_at_call 125; exact quiet_add_q (T2.out _ (s0.drewN _))))
 go_wp2_with fail
 refine (IH.out _ _ _ _ _ _ (words X0) (words Y0) _ (by omega) (rt0.drewN _) (st0.drewN _) (words_canon _) (words_canon _) (by omega) (by omega) (Nat.le_refl _) (Nat.le_refl _) (by omega) (by omega)).mono ?_
 rw [val_words, val_words]
 rintro e w1 ⟨Al, cl, rfl, lo1, lo2, lo3, lo4, -⟩
 have B1 := (below_drewN (Below.refl w.heap.size w) _).trans lo4
 go_wp2_with fail
 refine (IH.out (some ⟨b, o + kk, none⟩) (some ⟨b', o' + kk, none⟩) (n - kk) (a1 - kk) (m - kk) (b1 - kk) l1 m1 w1 (by omega) (r1.below B1) (s1.below B1) cx1 cy1 (by omega) (by omega) (by omega) (by omega) (by omega) (by omega)).mono ?_
 rintro e w2 ⟨Ah, ch, rfl, hi1, hi2, hi3, hi4, hi6⟩
 have hog : 0 < (words (val l1 * val m1)).length → Off Ah g := fun hp a ha0 => by
  obtain ⟨g', _, hA, hg', _⟩ := hi6 hp
  rw [hA] at ha0
  injection ha0 with ha0
  subst ha0
  have := hL.lt
  have := B1.size
  simp
  omega
 have HOG := Lib.hid hog
 clear hi6 hog
 have B2 := B1.trans (hi4.mono B1.size)
 go_wp2_with fail
 refine (add_c _ _ _ _ _ _ (words X0) l1 w2 (rt0.below B2) (r1.below B2) (by omega) (by omega)).mono ?_
 rw [val_words]
 rintro e w3 ⟨As, cs, rfl, as1, as2, as3, as4, -⟩
 have B3 := B2.trans (as4.mono B2.size)
 go_wp2_with fail
 refine (add_c _ _ _ _ _ _ (words Y0) m1 w3 (st0.below B3) (s1.below B3) (by omega) (by omega)).mono ?_
 rw [val_words]
 rintro e w4 ⟨At, ct, rfl, at1, at2, at3, at4, -⟩
 have B4 := B3.trans (at4.mono B3.size)
 go_wp2_with fail
 refine (IH.out As At _ _ _ _ (words (X0 + val l1)) (words (Y0 + val m1)) w4 (by omega) (as1.below at4) at1 (words_canon _) (words_canon _) (by omega) (by omega) as2 at2 (by omega) (by omega)).mono ?_
 rw [val_words, val_words]
 rintro e w5 ⟨Am, cm, rfl, mi1, mi2, mi3, mi4, mi5⟩
 have B5 := B4.trans (mi4.mono B4.size)
 have lpos : 0 < val l1 * val m1 := Nat.mul_pos (canon_pos cx1 (by rw [lr1.out]; omega)) (canon_pos cy1 (by rw [s1.len]; omega))
 obtain ⟨M, hM⟩ : ∃ M, M = (X0 + val l1) * (Y0 + val m1) := ⟨_, rfl⟩
 obtain ⟨lowv, hlow⟩ : ∃ v, v = X0 * Y0 := ⟨_, rfl⟩
 obtain ⟨hiv, hhi⟩ : ∃ v, v = val l1 * val m1 := ⟨_, rfl⟩
 have kle := kara_le X0 (val l1) Y0 (val m1)
 rw [← hM, ← hlow, ← hhi] at kle
 rw [← hhi] at lpos
 rw [← hM] at mi1 mi2 mi5 ⊢
 rw [← hlow] at lo1 lo2 ⊢
 rw [← hhi] at hi1 hi2 HOG ⊢
 have HM := Lib.hid hM
 have HLo := Lib.hid hlow
 have HHi := Lib.hid hhi
 clear hM hlow hhi
 have mpos : 0 < (words M).length := words_len_lt.2 (by rw [pw_zero]; omega)
 obtain ⟨gm, Lm, hAm, gm1, gmB, gmT⟩ := mi5 mpos
 subst hAm
 have gml : (words M).length ≤ Lm.length := by
  have := congrArg List.length gmT
  rw [List.length_take] at this
  omega
 have lole : (words lowv).length ≤ (words M).length := words_mono (by omega)
 have hile : (words hiv).length ≤ (words M).length := words_mono (by omega)
 have mlen : (words M).length ≤ n + m + 4 := by
  refine words_len_le.2 ?_
  rw [HM.out]
  have h1 := lt_pw_words (X0 + val l1)
  have h2 := lt_pw_words (Y0 + val m1)
  exact Nat.lt_of_lt_of_le (mul_lt_pw h1 h2) (pw_le (by omega))
 have C13 := hi4.trans (as4.mono hi4.size)
 have C14 := C13.trans (at4.mono C13.size)
 have C15 := C14.trans (mi4.mono C14.size)
 have D24 := as4.trans (at4.mono as4.size)
 have D25 := D24.trans (mi4.mono D24.size)
 have lo5 := lo1.below C15
 have hi5 := hi1.below D25
 have loff : 0 < (words lowv).length → Off Al gm := fun hp a ha0 => by have := lo1.blk hp a ha0; have := C14.size; omega
 have hoff : 0 < (words hiv).length → Off Ah gm := fun hp a ha0 => by have := hi1.blk hp a ha0; have := D24.size; omega
 have ggm : g ≠ gm := by have := hL.lt; have := B4.size; omega
 have LV := Lib.hid gmT
 clear mi5 mi1 gmT C13 C14 C15 D24 D25
 go_wp2_with fail
 refine (takeFrom_c gm 0 (words M).length cm Lm Al (words lowv).length cl (words lowv) w5 gmB (by omega) lo5 loff lole (by omega) (by omega) (by rw [List.drop_zero, LV.out, val_words, val_words]; omega)).mono ?_
 rw [List.drop_zero, LV.out, val_words, val_words]
 rintro e w6 ⟨rfl, tg6, cs1, c1l, c1s, c1v, c1B⟩
 have C1V := Lib.hid c1v
 have C1L := Lib.hid c1l
 have ep : ((splice Lm 0 cs1).drop 0).take (words M).length = cs1 := by
  have := splice_part (L := Lm) (o := 0) (cs := cs1) (by omega)
  rwa [c1l] at this
 have EP := Lib.hid ep
 clear c1v ep
 go_wp2_with fail
 refine (takeFrom_c gm 0 (words M).length cm (splice Lm 0 cs1) Ah (words hiv).length ch (words hiv) w6 c1B (by rw [splice_len (by omega)]; omega) (hi5.grown tg6 hoff) hoff hile (by omega) (by omega) (by rw [EP.out, val_words, C1V.out]; omega)).mono ?_
 rw [EP.out, val_words, C1V.out]
 rintro e w7 ⟨rfl, tg7, cs2, c2l, c2s, c2v, c2B⟩
 have tg := grown_trans tg6 tg7
 have cB := (hL.below B5 hL.lt).grown tg ggm
 have lo7 := lo5.grown tg loff
 have hi7 := hi5.grown tg hoff
 have mi7 := c2B.rdAt (o := 0) (n := (words M).length) (by rw [splice_len (by rw [splice_len (by omega)]; omega), splice_len (by omega)]; omega)
 have ep2 := splice_part (L := splice Lm 0 cs1) (o := 0) (cs := cs2) (by omega)
 rw [c2l] at ep2
 rw [ep2] at mi7
 have G7 := Lib.hid (grown_of_below (Below.refl w.heap.size w) (some gm))
 have lowh : (words lowv).length ≤ 2 * kk := by
  refine words_len_le.2 ?_
  rw [HLo.out, Nat.two_mul]
  exact mul_lt_pw PB.out.1 PB.out.2.1
 have hih : (words hiv).length ≤ n - kk + (m - kk) := by
  refine words_len_le.2 ?_
  rw [HHi.out]
  exact mul_lt_pw PB.out.2.2.1 PB.out.2.2.2
 have C2V := Lib.hid c2v
 have C2L := Lib.hid c2l
 have i5 : 2 * (kk : Int) ≤ (n : Int) + m := by omega
 have i7 : (kk : Int) ≤ (n : Int) + m := by omega
 have i8 : (0 : Int) ≤ (kk : Int) := by omega
 have i9 : ¬ n + m = kk := by omega
 have i6 : (2 * kk) + (n + m - 2 * kk) = n + m := by omega
 have I6 := Lib.hid i6
 have lrep : (List.replicate (n + m) 0).length = n + m := by simp
 have LR := Lib.hid lrep
 clear c2v c2l i6 lrep ep2 c1B tg6 tg7
 have LS := Lib.hid (show (splice (List.replicate (n + m) 0) 0 (words lowv)).length = n + m by rw [splice_len (by rw [LR.out]; omega), LR.out])
 go_wp2_with (first | (with_reducible refine wpList_copy_words rfl (.tmp 48) (.tmp 49) rfl _ _ _ _ _ _ rfl rfl g 0 _ (words lowv) cB lo7 rfl (by omega) (by rw [LR.out]; omega) ?_; intro w8 b8 g8) | (with_reducible refine wpList_copy_words rfl (.tmp 54) (.tmp 55) rfl _ _ _ _ _ _ rfl rfl g (2 * kk) _ (words hiv) b8 (hi7.grown g8 HOG.out) rfl (by omega) (by rw [LS.out]; omega) ?_; intro w9 b9 g9))
 have hEX := EX.out
 have hEY := EY.out
 have V8 := val_splice (L := List.replicate (n + m) 0) (o := 0) (cs := words lowv) (by rw [LR.out]; omega)
 rw [val_zeros, val_replicate, pw_zero, val_words] at V8
 have V9 := val_splice (L := splice (List.replicate (n + m) 0) 0 (words lowv)) (o := 2 * kk) (cs := words hiv) (by rw [LS.out]; omega)
 rw [val_part_zero b8.1 (by rw [show val (splice (List.replicate (n + m) 0) 0 (words lowv)) = lowv by omega]; exact words_len_le.1 lowh), val_words] at V9
 have L9 := Lib.hid (show (splice (splice (List.replicate (n + m) 0) 0 (words lowv)) (2 * kk) (words hiv)).length = n + m by rw [splice_len (by rw [LS.out]; omega), LS.out])
 have hk := kara X0 (val l1) Y0 (val m1) (pw kk)
 rw [← HM.out, ← HLo.out, ← HHi.out, ← hEX, ← hEY, ← pw_add, ← Nat.two_mul, ← C2V.out] at hk
 obtain ⟨L9v, hL9v⟩ : ∃ L, L = splice (splice (List.replicate (n + m) 0) 0 (words lowv)) (2 * kk) (words hiv) := ⟨_, rfl⟩
 rw [← hL9v] at V9 L9 b9
 have TOT : val L9v + pw kk * val cs2 = val xs * val ys := by omega
 have hxy := mul_lt_pw (val_lt cx.1) (val_lt cy.1)
 rw [HX.out, HY.out, ← TOT] at hxy
 have hf := fits_add b9.1 (o := kk) (n := n + m - kk) (mid := val cs2) (by rw [L9.out]; omega) (by rw [L9.out]; exact hxy)
 have hkl : (words (val cs2)).length ≤ n + m - kk := words_len_le.2 (by omega)
 have mi9 := ((mi7.grown g8 (fun _ a ha0 => by injection ha0 with ha0; subst ha0; simp; omega)).grown g9 (fun _ a ha0 => by injection ha0 with ha0; subst ha0; simp; omega))
 have B7 := B5.trans (below_of_grown tg B5.size (by have := B4.size; omega))
 have GF := Lib.hid (grown_trans (grown_trans (grown_of_below B7 (some g)) g8) g9)
 have HF := Lib.hid hf
 have TOT2 := Lib.hid TOT
 have TO := Lib.hid (show 0 < (words (val cs2)).length → Off (trimA (some ⟨gm, 0, none⟩) (words (val cs2)).length) g from fun hp a ha0 => by
  rw [trimA_pos _ (by omega)] at ha0
  injection ha0 with ha0
  subst ha0
  simp
  omega)
 have T3 := Lib.hid (fun w' hw => trim_q (some ⟨gm, 0, none⟩) (words M).length cm cs2 w' hw mi2 mi3)
 have hkl2 : (words (val cs2)).length ≤ 9223372036854775800 := by omega
 clear V8 V9 hk hxy hf TOT hEX hEY hL9v b8 g8 g9 mi7 lo7 hi7 cB tg B7
 go_region_held3 (fun _ => True) (trivial)
  (first
   | (go_at_call 125
      refine (T3.out _ mi9.drew).mono ?_
      rintro e wx ⟨rfl, kx, rfl⟩)
   | (go_at_call 147
      refine (addTo_c g kk (n + m - kk) (n + m - kk) L9v (trimA (some ⟨gm, 0, none⟩) (words (val cs2)).length) (words (val cs2)).length (words (val cs2)).length (words (val cs2)) _ (b9.drewN (1 + kx)) (by rw [L9.out]; omega) (mi9.trim.drewN (1 + kx)) TO.out hkl (by omega) hkl2 (by rw [val_words]; exact HF.out)).mono ?_
      rintro e wy ⟨rfl, tgy, cs3, c3l, c3s, c3v, c3B⟩))
 go_end0
 rw [val_words] at c3v
 have V3 := val_splice (L := L9v) (o := kk) (cs := cs3) (by rw [L9.out]; omega)
 rw [c3l, c3v, Nat.mul_add] at V3
 have := TOT2.out
 refine ⟨rfl, grown_trans (grown_drewN GF.out (1 + kx)) tgy, splice L9v kk cs3, by rw [splice_len (by rw [L9.out]; omega)]; exact L9.out, by omega, c3B⟩
set_option maxHeartbeats 1000000 in
set_option maxRecDepth 100000 in
theorem mul_mid (A B : Option Addr) (n c m d : Nat) (xs ys : List Nat) (w : World) (ih : MulUpTo (n + m)) (ha : Rd w A n xs) (hb : Rd w B m ys) (cx : canon xs) (cy : canon ys) (hn : n < 17592186044416) (hmn : m ≤ n) (hc1 : n ≤ c) (hc2 : m ≤ d) (hc3 : c ≤ 9223372036854775807) (hc4 : d ≤ 9223372036854775807) (h40 : ¬ m < 40) (kk : Nat) (hkk : kk = (n + 1) / 2) (hmk2 : m ≤ kk) :
 Calls Tryz.prog 131 #[.slice A n c, .slice B m d] w (Out w (val xs * val ys)) := by
 have HX := Lib.hid ha.len
 have HY := Lib.hid hb.len
 have IH := Lib.hid ih
 clear ih
 have hm0 : 0 < m := by omega
 have tm : ((m : Int) == 0) = false := by rw [beq_eq_false_iff_ne]; omega
 have hmk : ∀ w : World, (Instr.makeSlice 56 (.int .i64 ((n : Int) + m)) (.int .i64 ((n : Int) + m))).run Tryz.prog w = .ok (.slice (some ⟨w.heap.size, 0, none⟩) (n + m) (n + m)) (w.alloc (row (List.replicate (n + m) 0))) := mk_words (n + m) (by omega)
 obtain ⟨b, o, hA, hb1, _⟩ := ha.of (by omega)
 obtain ⟨b', o', hB, hb2, _⟩ := hb.of hm0
 subst hA hB
 have hbw : Below w.heap.size w (w.alloc (row (List.replicate (n + m) 0))) := (Below.refl _ _).alloc (Nat.le_refl _) _
 have hx := ha.alloc (row (List.replicate (n + m) 0))
 have hy := hb.alloc (row (List.replicate (n + m) 0))
 have hbk := Bk.new0 w (n + m)
 have HL := Lib.hid (show (List.replicate (n + m) 0).length = n + m by simp)
 have fin : ∀ (w1 w' : World) (cs : List Nat) (e : Ending), w.grownBy w1 none ∨ True → (w.alloc (row (List.replicate (n + m) 0))).grownBy w1 (some w.heap.size) → cs.length = n + m → val cs = val xs * val ys → Bk w1 w.heap.size cs → TrimPost (some ⟨w.heap.size, 0, none⟩) (words (val cs)).length w1 e w' → Out w (val xs * val ys) e w' :=
  fun w1 w' cs e _ hg hl hv hk ht => out_of_trim hk (Nat.le_refl _) hv (below_new hg) (by omega) ht
 have FIN := Lib.hid fin
 clear fin
 have ek : ((n : Int) + 1) / 2 = (kk : Int) := by omega
 have k1 : n ≤ 2 * kk := by omega
 have k2 : 2 * kk ≤ n + 1 := by omega
 clear hkk
 have r0 := ha.take (m := kk) (by omega)
 have r1 := ha.drop (m := kk) (by omega)
 have cx1 := canon_drop cx (k := kk) (by rw [ha.len]; omega)
 have ex := val_take_drop xs kk (by rw [ha.len]; omega)
 have lx0 := val_lt r0.sm
 rw [r0.len] at lx0
 have lx1 := val_lt r1.sm
 rw [r1.len] at lx1
 have ly := val_lt cy.1
 rw [hb.len] at ly
 have lx := val_lt cx.1
 rw [ha.len] at lx
 have rt0 := r0.trim
 have e1 : (some (⟨b, o, none⟩ : Addr)).map (·.add kk) = some ⟨b, o + kk, none⟩ := by simp [Addr.add]; intro h0; omega
 rw [e1] at r1
 clear e1
 obtain ⟨l1, hl1⟩ : ∃ l1, l1 = xs.drop kk := ⟨_, rfl⟩
 rw [← hl1] at ex lx1 r1 cx1
 obtain ⟨X0, hX0⟩ : ∃ X0, X0 = val (xs.take kk) := ⟨_, rfl⟩
 rw [← hX0] at ex lx0 rt0
 have wx0 : (words X0).length ≤ kk := words_len_le.2 lx0
 have EX := Lib.hid ex
 have HX0 := Lib.hid hX0
 clear hl1 ex hX0
 have i1 : (kk : Int) ≤ (c : Int) := by omega
 have i3 : (kk : Int) ≤ (n : Int) := by omega
 have i7 : (kk : Int) ≤ (n : Int) + m := by omega
 have i8 : (0 : Int) ≤ (kk : Int) := by omega
 have i9 : ¬ n + m = kk := by omega
 have i10 : ¬ c = kk := by omega
 go_enter Tryz.func131, Tryz.ntmps131
 go_wp2_with fail
 refine (trim_q (some ⟨b, o, none⟩) kk c (xs.take kk) _ (hx.take (by omega)) (by omega) (by omega)).mono ?_
 rintro e w1 ⟨rfl, q, rfl⟩
 rw [← HX0.out]
 go_wp2_with fail
 refine (IH.out (trimA (some ⟨b, o, none⟩) (words X0).length) (some ⟨b', o', none⟩) (words X0).length (words X0).length m d (words X0) ys _ (by omega) ((rt0.below hbw).drewN q) (hy.drewN q) (words_canon _) cy (by omega) (by omega) (Nat.le_refl _) hc2 (by omega) hc4).mono ?_
 rw [val_words]
 rintro e w2 ⟨Al, cl, rfl, lo1, lo2, lo3, lo4, lo5⟩
 have hbk2 := (hbk.drewN q).below lo4 (hbk.drewN q).lt
 have B2 : Below w.heap.size w w2 := (below_drewN hbw q).trans (lo4.mono (by simp))
 have lof : 0 < (words (X0 * val ys)).length → Off Al w.heap.size := fun hp a ha0 => by
  obtain ⟨g', _, hA, hg', _⟩ := lo5 hp
  rw [hA] at ha0
  injection ha0 with ha0
  subst ha0
  simp at hg' ⊢
  omega
 have lol : (words (X0 * val ys)).length ≤ n + m := words_len_le.2 (Nat.lt_of_lt_of_le (mul_lt_pw lx0 ly) (pw_le (by omega)))
 go_wp2_with fail
 refine (addTo_c w.heap.size 0 (n + m) (n + m) (List.replicate (n + m) 0) Al (words (X0 * val ys)).length cl (words (X0 * val ys)) w2 hbk2 (by rw [HL.out]; omega) lo1 lof lol (by omega) (by omega) (by rw [val_zeros, val_words, Nat.zero_add]; exact words_len_le.1 lol)).mono ?_
 rw [val_zeros, val_words, Nat.zero_add]
 rintro e w3 ⟨rfl, tg3, cs3, c3l, c3s, c3v, c3B⟩
 rw [splice_all (by rw [c3l, HL.out])] at c3B
 have B3 := B2.trans (below_of_grown tg3 B2.size (Nat.le_refl _))
 have C3V := Lib.hid c3v
 have C3L := Lib.hid c3l
 clear c3v c3l tg3
 go_wp2_with fail
 have hEX := EX.out
 have TOT : val cs3 + pw kk * (val l1 * val ys) = val xs * val ys := by
  rw [C3V.out, hEX, Nat.add_mul, Nat.mul_assoc]
 have hxy := mul_lt_pw lx ly
 have hf := fits_add c3B.1 (o := kk) (n := n + m - kk) (mid := val l1 * val ys) (by rw [C3L.out]; omega) (by rw [C3L.out, TOT]; exact hxy)
 have hil : (words (val l1 * val ys)).length ≤ n + m - kk := words_len_le.2 (by omega)
 have HF := Lib.hid hf
 have TOT2 := Lib.hid TOT
 have GF := Lib.hid B3
 have hsz3 := B3.size
 have q1 := (r1.below B3).drew
 have q2 := (hb.below B3).drew
 have q3 : Bk w3.drew w.heap.size cs3 := c3B
 have q4 : w.heap.size < w3.drew.heap.size := q3.lt
 have hil2 : (words (val l1 * val ys)).length ≤ 9223372036854775800 := by omega
 clear hEX TOT hf lx0 lx1 lx hxy B2 lo1 lo4 lo5 hbk2 c3B
 go_region_held3 (fun _ => True) (trivial)
  (first
   | (go_at_call 131
      refine (IH.out (some ⟨b, o + kk, none⟩) (some ⟨b', o', none⟩) (n - kk) (c - kk) m d l1 ys _ (by omega) q1 q2 cx1 cy (by omega) (by omega) (by omega) hc2 (by omega) hc4).mono ?_
      rintro e w4 ⟨Ah, ch, rfl, hi1, hi2, hi3, hi4, hi5⟩
      have hof : 0 < (words (val l1 * val ys)).length → Off Ah w.heap.size := fun hp a ha0 => by
       obtain ⟨g', _, hA, hg', _⟩ := hi5 hp
       rw [hA] at ha0
       injection ha0 with ha0
       subst ha0
       have q5 := q4
       rw [World.size_drew] at hg' q5
       intro e
       have e2 : g' = w.heap.size := e
       omega
      clear hi5)
   | (go_at_call 147
      refine (addTo_c w.heap.size kk (n + m - kk) (n + m - kk) cs3 Ah (words (val l1 * val ys)).length ch (words (val l1 * val ys)) _ (q3.below hi4 q4) (by rw [C3L.out]; omega) hi1 hof hil (by omega) hil2 (by rw [val_words]; exact HF.out)).mono ?_
      rintro e w5 ⟨rfl, tg5, cs4, c4l, c4s, c4v, c4B⟩))
 rw [val_words] at c4v
 have V4 := val_splice (L := cs3) (o := kk) (cs := cs4) (by rw [C3L.out]; omega)
 rw [c4l, c4v, Nat.mul_add] at V4
 have T2 := TOT2.out
 have V5 : val (splice cs3 kk cs4) = val xs * val ys := by omega
 have L5 : (splice cs3 kk cs4).length = n + m := by rw [splice_len (by rw [C3L.out]; omega)]; exact C3L.out
 have B5 : Below w.heap.size w w5 := ((GF.out.drew).trans (hi4.mono (by omega))).trans (below_of_grown tg5 (by have := hi4.size; omega) (Nat.le_refl _))
 have hrd := c4B.rd
 rw [L5] at hrd
 have HB5 := Lib.hid B5
 have HV5 := Lib.hid V5
 have HL5 := Lib.hid L5
 clear V4 c4v T2 V5 L5 B5 tg5 hi4 hi1 q1 q2 q3 q4 hof c4l
 go_wp2_with fail
 refine (trim_c _ _ _ (splice cs3 kk cs4) w5 hrd (Nat.le_refl _) (by omega)).mono ?_
 intro e w6 h6
 obtain ⟨A', c', rfl, r1', r2', r3', r4', r5'⟩ := out_of_trim (v := val xs * val ys) c4B (Nat.le_refl _) HV5.out HB5.out (by have := HL5.out; omega) h6
 have R := Lib.hid r5'
 clear r5' h6
 go_wp2
 go_ret
 exact ⟨A', c', rfl, r1', r2', r3', r4', R.out⟩
set_option maxHeartbeats 1000000 in
set_option maxRecDepth 100000 in
theorem mul_ge (A B : Option Addr) (n c m d : Nat) (xs ys : List Nat) (w : World) (ih : MulUpTo (n + m)) (ha : Rd w A n xs) (hb : Rd w B m ys) (cx : canon xs) (cy : canon ys) (hn : n < 17592186044416) (hmn : m ≤ n) (hc1 : n ≤ c) (hc2 : m ≤ d) (hc3 : c ≤ 9223372036854775807) (hc4 : d ≤ 9223372036854775807) :
 Calls Tryz.prog 131 #[.slice A n c, .slice B m d] w (Out w (val xs * val ys)) := by
 have HX := Lib.hid ha.len
 have HY := Lib.hid hb.len
 have IH := Lib.hid ih
 clear ih
 rcases Nat.eq_zero_or_pos m with hm0 | hm0
 · subst hm0
   have hy0 : ys = [] := List.eq_nil_of_length_eq_zero HY.out
   have H := Lib.hid (show Out w (val xs * val ys) (.returned (.slice none 0 0)) w by rw [hy0, val_nil, Nat.mul_zero]; exact out_zero w)
   clear hy0
   go_enter Tryz.func131, Tryz.ntmps131
   go_wp2
   go_ret
   exact H.out
 · have tm : ((m : Int) == 0) = false := by rw [beq_eq_false_iff_ne]; omega
   have hmk : ∀ w : World, (Instr.makeSlice 56 (.int .i64 ((n : Int) + m)) (.int .i64 ((n : Int) + m))).run Tryz.prog w = .ok (.slice (some ⟨w.heap.size, 0, none⟩) (n + m) (n + m)) (w.alloc (row (List.replicate (n + m) 0))) := mk_words (n + m) (by omega)
   obtain ⟨b, o, hA, hb1, _⟩ := ha.of (by omega)
   obtain ⟨b', o', hB, hb2, _⟩ := hb.of hm0
   subst hA hB
   have hbw : Below w.heap.size w (w.alloc (row (List.replicate (n + m) 0))) := (Below.refl _ _).alloc (Nat.le_refl _) _
   have hx := ha.alloc (row (List.replicate (n + m) 0))
   have hy := hb.alloc (row (List.replicate (n + m) 0))
   have hbk := Bk.new0 w (n + m)
   have HL := Lib.hid (show (List.replicate (n + m) 0).length = n + m by simp)
   have fin : ∀ (w1 w' : World) (cs : List Nat) (e : Ending), w.grownBy w1 none ∨ True → (w.alloc (row (List.replicate (n + m) 0))).grownBy w1 (some w.heap.size) → cs.length = n + m → val cs = val xs * val ys → Bk w1 w.heap.size cs → TrimPost (some ⟨w.heap.size, 0, none⟩) (words (val cs)).length w1 e w' → Out w (val xs * val ys) e w' :=
    fun w1 w' cs e _ hg hl hv hk ht => out_of_trim hk (Nat.le_refl _) hv (below_new hg) (by omega) ht
   have FIN := Lib.hid fin
   clear fin
   by_cases h40 : m < 40
   · go_enter Tryz.func131, Tryz.ntmps131
     go_wp2_with fail
     refine (rowByRow_c w.heap.size (n + m) (some ⟨b, o, none⟩) (some ⟨b', o', none⟩) n c m d xs ys _ hbk hx hy (fun _ a h => by injection h with h; subst h; simp; omega) (fun _ a h => by injection h with h; subst h; simp; omega) (Nat.le_refl _) (by omega) hmn (by omega)).mono ?_
     rintro e w1 ⟨rfl, hg, cs, hl, hv, hk⟩
     have HV := Lib.hid hv
     have HG := Lib.hid hg
     have HC := Lib.hid hl
     have hrd := hk.rd
     rw [hl] at hrd
     clear hv hg hl
     go_wp2_with fail
     refine (trim_c _ _ _ cs w1 hrd (Nat.le_refl _) (by omega)).mono ?_
     intro e w3 h3
     obtain ⟨A', c', rfl, r1, r2, r3, r4, r5⟩ := FIN.out w1 w3 cs e (.inr trivial) HG.out HC.out HV.out hk h3
     have R := Lib.hid r5
     clear r5 h3
     go_wp2
     go_ret
     exact ⟨A', c', rfl, r1, r2, r3, r4, R.out⟩
   · obtain ⟨kk, hkk⟩ : ∃ kk, kk = (n + 1) / 2 := ⟨_, rfl⟩
     have ek : ((n : Int) + 1) / 2 = (kk : Int) := by omega
     have k1 : n ≤ 2 * kk := by omega
     have k2 : 2 * kk ≤ n + 1 := by omega
     by_cases hmk2 : m ≤ kk
     · exact mul_mid (some ⟨b, o, none⟩) (some ⟨b', o', none⟩) n c m d xs ys w IH.out ha hb cx cy hn hmn hc1 hc2 hc3 hc4 h40 kk hkk hmk2
     · clear hkk
       go_enter Tryz.func131, Tryz.ntmps131
       go_wp2_with fail
       refine (threeProducts_c w.heap.size b b' o o' n c m d kk IH.out xs ys _ hbk hx hy cx cy hn hmn (by omega) k1 k2 (by omega) hc1 hc2 hc3 hc4).mono ?_
       rintro e w1 ⟨rfl, hg, cs, hl, hv, hk⟩
       have HV := Lib.hid hv
       have HG := Lib.hid hg
       have HC := Lib.hid hl
       have hrd := hk.rd
       rw [hl] at hrd
       clear hv hg hl
       go_wp2_with fail
       refine (trim_c _ _ _ cs w1 hrd (Nat.le_refl _) (by omega)).mono ?_
       intro e w3 h3
       obtain ⟨A', c', rfl, r1, r2, r3, r4, r5⟩ := FIN.out w1 w3 cs e (.inr trivial) HG.out HC.out HV.out hk h3
       have R := Lib.hid r5
       clear r5 h3
       go_wp2
       go_ret
       exact ⟨A', c', rfl, r1, r2, r3, r4, R.out⟩
set_option maxHeartbeats 1000000 in
set_option maxRecDepth 100000 in
theorem mul_midS (A B : Option Addr) (n c m d : Nat) (xs ys : List Nat) (w : World) (ih : MulUpTo (n + m)) (ha : Rd w A n xs) (hb : Rd w B m ys) (cx : canon xs) (cy : canon ys) (hn : n < 17592186044416) (hmn : m < n) (hc1 : n ≤ c) (hc2 : m ≤ d) (hc3 : c ≤ 9223372036854775807) (hc4 : d ≤ 9223372036854775807) (h40 : ¬ m < 40) (kk : Nat) (hkk : kk = (n + 1) / 2) (hmk2 : m ≤ kk) :
 Calls Tryz.prog 131 #[.slice B m d, .slice A n c] w (Out w (val xs * val ys)) := by
 have HX := Lib.hid ha.len
 have HY := Lib.hid hb.len
 have IH := Lib.hid ih
 clear ih
 have hm0 : 0 < m := by omega
 have tm : ((m : Int) == 0) = false := by rw [beq_eq_false_iff_ne]; omega
 have hmk : ∀ w : World, (Instr.makeSlice 56 (.int .i64 ((n : Int) + m)) (.int .i64 ((n : Int) + m))).run Tryz.prog w = .ok (.slice (some ⟨w.heap.size, 0, none⟩) (n + m) (n + m)) (w.alloc (row (List.replicate (n + m) 0))) := mk_words (n + m) (by omega)
 obtain ⟨b, o, hA, hb1, _⟩ := ha.of (by omega)
 obtain ⟨b', o', hB, hb2, _⟩ := hb.of hm0
 subst hA hB
 have hbw : Below w.heap.size w (w.alloc (row (List.replicate (n + m) 0))) := (Below.refl _ _).alloc (Nat.le_refl _) _
 have hx := ha.alloc (row (List.replicate (n + m) 0))
 have hy := hb.alloc (row (List.replicate (n + m) 0))
 have hbk := Bk.new0 w (n + m)
 have HL := Lib.hid (show (List.replicate (n + m) 0).length = n + m by simp)
 have fin : ∀ (w1 w' : World) (cs : List Nat) (e : Ending), w.grownBy w1 none ∨ True → (w.alloc (row (List.replicate (n + m) 0))).grownBy w1 (some w.heap.size) → cs.length = n + m → val cs = val xs * val ys → Bk w1 w.heap.size cs → TrimPost (some ⟨w.heap.size, 0, none⟩) (words (val cs)).length w1 e w' → Out w (val xs * val ys) e w' :=
  fun w1 w' cs e _ hg hl hv hk ht => out_of_trim hk (Nat.le_refl _) hv (below_new hg) (by omega) ht
 have FIN := Lib.hid fin
 clear fin
 have ek : ((n : Int) + 1) / 2 = (kk : Int) := by omega
 have k1 : n ≤ 2 * kk := by omega
 have k2 : 2 * kk ≤ n + 1 := by omega
 clear hkk
 have r0 := ha.take (m := kk) (by omega)
 have r1 := ha.drop (m := kk) (by omega)
 have cx1 := canon_drop cx (k := kk) (by rw [ha.len]; omega)
 have ex := val_take_drop xs kk (by rw [ha.len]; omega)
 have lx0 := val_lt r0.sm
 rw [r0.len] at lx0
 have lx1 := val_lt r1.sm
 rw [r1.len] at lx1
 have ly := val_lt cy.1
 rw [hb.len] at ly
 have lx := val_lt cx.1
 rw [ha.len] at lx
 have rt0 := r0.trim
 have e1 : (some (⟨b, o, none⟩ : Addr)).map (·.add kk) = some ⟨b, o + kk, none⟩ := by simp [Addr.add]; intro h0; omega
 rw [e1] at r1
 clear e1
 obtain ⟨l1, hl1⟩ : ∃ l1, l1 = xs.drop kk := ⟨_, rfl⟩
 rw [← hl1] at ex lx1 r1 cx1
 obtain ⟨X0, hX0⟩ : ∃ X0, X0 = val (xs.take kk) := ⟨_, rfl⟩
 rw [← hX0] at ex lx0 rt0
 have wx0 : (words X0).length ≤ kk := words_len_le.2 lx0
 have EX := Lib.hid ex
 have HX0 := Lib.hid hX0
 clear hl1 ex hX0
 have i1 : (kk : Int) ≤ (c : Int) := by omega
 have i3 : (kk : Int) ≤ (n : Int) := by omega
 have i7 : (kk : Int) ≤ (n : Int) + m := by omega
 have i8 : (0 : Int) ≤ (kk : Int) := by omega
 have i9 : ¬ n + m = kk := by omega
 have i10 : ¬ c = kk := by omega
 go_enter Tryz.func131, Tryz.ntmps131
 go_wp2_with fail
 refine (trim_q (some ⟨b, o, none⟩) kk c (xs.take kk) _ (hx.take (by omega)) (by omega) (by omega)).mono ?_
 rintro e w1 ⟨rfl, q, rfl⟩
 rw [← HX0.out]
 go_wp2_with fail
 refine (IH.out (trimA (some ⟨b, o, none⟩) (words X0).length) (some ⟨b', o', none⟩) (words X0).length (words X0).length m d (words X0) ys _ (by omega) ((rt0.below hbw).drewN q) (hy.drewN q) (words_canon _) cy (by omega) (by omega) (Nat.le_refl _) hc2 (by omega) hc4).mono ?_
 rw [val_words]
 rintro e w2 ⟨Al, cl, rfl, lo1, lo2, lo3, lo4, lo5⟩
 have hbk2 := (hbk.drewN q).below lo4 (hbk.drewN q).lt
 have B2 : Below w.heap.size w w2 := (below_drewN hbw q).trans (lo4.mono (by simp))
 have lof : 0 < (words (X0 * val ys)).length → Off Al w.heap.size := fun hp a ha0 => by
  obtain ⟨g', _, hA, hg', _⟩ := lo5 hp
  rw [hA] at ha0
  injection ha0 with ha0
  subst ha0
  simp at hg' ⊢
  omega
 have lol : (words (X0 * val ys)).length ≤ n + m := words_len_le.2 (Nat.lt_of_lt_of_le (mul_lt_pw lx0 ly) (pw_le (by omega)))
 go_wp2_with fail
 refine (addTo_c w.heap.size 0 (n + m) (n + m) (List.replicate (n + m) 0) Al (words (X0 * val ys)).length cl (words (X0 * val ys)) w2 hbk2 (by rw [HL.out]; omega) lo1 lof lol (by omega) (by omega) (by rw [val_zeros, val_words, Nat.zero_add]; exact words_len_le.1 lol)).mono ?_
 rw [val_zeros, val_words, Nat.zero_add]
 rintro e w3 ⟨rfl, tg3, cs3, c3l, c3s, c3v, c3B⟩
 rw [splice_all (by rw [c3l, HL.out])] at c3B
 have B3 := B2.trans (below_of_grown tg3 B2.size (Nat.le_refl _))
 have C3V := Lib.hid c3v
 have C3L := Lib.hid c3l
 clear c3v c3l tg3
 go_wp2_with fail
 have hEX := EX.out
 have TOT : val cs3 + pw kk * (val l1 * val ys) = val xs * val ys := by
  rw [C3V.out, hEX, Nat.add_mul, Nat.mul_assoc]
 have hxy := mul_lt_pw lx ly
 have hf := fits_add c3B.1 (o := kk) (n := n + m - kk) (mid := val l1 * val ys) (by rw [C3L.out]; omega) (by rw [C3L.out, TOT]; exact hxy)
 have hil : (words (val l1 * val ys)).length ≤ n + m - kk := words_len_le.2 (by omega)
 have HF := Lib.hid hf
 have TOT2 := Lib.hid TOT
 have GF := Lib.hid B3
 have hsz3 := B3.size
 have q1 := (r1.below B3).drew
 have q2 := (hb.below B3).drew
 have q3 : Bk w3.drew w.heap.size cs3 := c3B
 have q4 : w.heap.size < w3.drew.heap.size := q3.lt
 have hil2 : (words (val l1 * val ys)).length ≤ 9223372036854775800 := by omega
 clear hEX TOT hf lx0 lx1 lx hxy B2 lo1 lo4 lo5 hbk2 c3B
 go_region_held3 (fun _ => True) (trivial)
  (first
   | (go_at_call 131
      refine (IH.out (some ⟨b, o + kk, none⟩) (some ⟨b', o', none⟩) (n - kk) (c - kk) m d l1 ys _ (by omega) q1 q2 cx1 cy (by omega) (by omega) (by omega) hc2 (by omega) hc4).mono ?_
      rintro e w4 ⟨Ah, ch, rfl, hi1, hi2, hi3, hi4, hi5⟩
      have hof : 0 < (words (val l1 * val ys)).length → Off Ah w.heap.size := fun hp a ha0 => by
       obtain ⟨g', _, hA, hg', _⟩ := hi5 hp
       rw [hA] at ha0
       injection ha0 with ha0
       subst ha0
       have q5 := q4
       rw [World.size_drew] at hg' q5
       intro e
       have e2 : g' = w.heap.size := e
       omega
      clear hi5)
   | (go_at_call 147
      refine (addTo_c w.heap.size kk (n + m - kk) (n + m - kk) cs3 Ah (words (val l1 * val ys)).length ch (words (val l1 * val ys)) _ (q3.below hi4 q4) (by rw [C3L.out]; omega) hi1 hof hil (by omega) hil2 (by rw [val_words]; exact HF.out)).mono ?_
      rintro e w5 ⟨rfl, tg5, cs4, c4l, c4s, c4v, c4B⟩))
 rw [val_words] at c4v
 have V4 := val_splice (L := cs3) (o := kk) (cs := cs4) (by rw [C3L.out]; omega)
 rw [c4l, c4v, Nat.mul_add] at V4
 have T2 := TOT2.out
 have V5 : val (splice cs3 kk cs4) = val xs * val ys := by omega
 have L5 : (splice cs3 kk cs4).length = n + m := by rw [splice_len (by rw [C3L.out]; omega)]; exact C3L.out
 have B5 : Below w.heap.size w w5 := ((GF.out.drew).trans (hi4.mono (by omega))).trans (below_of_grown tg5 (by have := hi4.size; omega) (Nat.le_refl _))
 have hrd := c4B.rd
 rw [L5] at hrd
 have HB5 := Lib.hid B5
 have HV5 := Lib.hid V5
 have HL5 := Lib.hid L5
 clear V4 c4v T2 V5 L5 B5 tg5 hi4 hi1 q1 q2 q3 q4 hof c4l
 go_wp2_with fail
 refine (trim_c _ _ _ (splice cs3 kk cs4) w5 hrd (Nat.le_refl _) (by omega)).mono ?_
 intro e w6 h6
 obtain ⟨A', c', rfl, r1', r2', r3', r4', r5'⟩ := out_of_trim (v := val xs * val ys) c4B (Nat.le_refl _) HV5.out HB5.out (by have := HL5.out; omega) h6
 have R := Lib.hid r5'
 clear r5' h6
 go_wp2
 go_ret
 exact ⟨A', c', rfl, r1', r2', r3', r4', R.out⟩
set_option maxHeartbeats 1000000 in
set_option maxRecDepth 100000 in
theorem mul_geS (A B : Option Addr) (n c m d : Nat) (xs ys : List Nat) (w : World) (ih : MulUpTo (n + m)) (ha : Rd w A n xs) (hb : Rd w B m ys) (cx : canon xs) (cy : canon ys) (hn : n < 17592186044416) (hmn : m < n) (hc1 : n ≤ c) (hc2 : m ≤ d) (hc3 : c ≤ 9223372036854775807) (hc4 : d ≤ 9223372036854775807) :
 Calls Tryz.prog 131 #[.slice B m d, .slice A n c] w (Out w (val xs * val ys)) := by
 have HX := Lib.hid ha.len
 have HY := Lib.hid hb.len
 have IH := Lib.hid ih
 clear ih
 rcases Nat.eq_zero_or_pos m with hm0 | hm0
 · subst hm0
   have hy0 : ys = [] := List.eq_nil_of_length_eq_zero HY.out
   have H := Lib.hid (show Out w (val xs * val ys) (.returned (.slice none 0 0)) w by rw [hy0, val_nil, Nat.mul_zero]; exact out_zero w)
   clear hy0
   go_enter Tryz.func131, Tryz.ntmps131
   go_wp2
   go_ret
   exact H.out
 · have tm : ((m : Int) == 0) = false := by rw [beq_eq_false_iff_ne]; omega
   have hmk : ∀ w : World, (Instr.makeSlice 56 (.int .i64 ((n : Int) + m)) (.int .i64 ((n : Int) + m))).run Tryz.prog w = .ok (.slice (some ⟨w.heap.size, 0, none⟩) (n + m) (n + m)) (w.alloc (row (List.replicate (n + m) 0))) := mk_words (n + m) (by omega)
   obtain ⟨b, o, hA, hb1, _⟩ := ha.of (by omega)
   obtain ⟨b', o', hB, hb2, _⟩ := hb.of hm0
   subst hA hB
   have hbw : Below w.heap.size w (w.alloc (row (List.replicate (n + m) 0))) := (Below.refl _ _).alloc (Nat.le_refl _) _
   have hx := ha.alloc (row (List.replicate (n + m) 0))
   have hy := hb.alloc (row (List.replicate (n + m) 0))
   have hbk := Bk.new0 w (n + m)
   have HL := Lib.hid (show (List.replicate (n + m) 0).length = n + m by simp)
   have fin : ∀ (w1 w' : World) (cs : List Nat) (e : Ending), w.grownBy w1 none ∨ True → (w.alloc (row (List.replicate (n + m) 0))).grownBy w1 (some w.heap.size) → cs.length = n + m → val cs = val xs * val ys → Bk w1 w.heap.size cs → TrimPost (some ⟨w.heap.size, 0, none⟩) (words (val cs)).length w1 e w' → Out w (val xs * val ys) e w' :=
    fun w1 w' cs e _ hg hl hv hk ht => out_of_trim hk (Nat.le_refl _) hv (below_new hg) (by omega) ht
   have FIN := Lib.hid fin
   clear fin
   by_cases h40 : m < 40
   · go_enter Tryz.func131, Tryz.ntmps131
     go_wp2_with fail
     refine (rowByRow_c w.heap.size (n + m) (some ⟨b, o, none⟩) (some ⟨b', o', none⟩) n c m d xs ys _ hbk hx hy (fun _ a h => by injection h with h; subst h; simp; omega) (fun _ a h => by injection h with h; subst h; simp; omega) (Nat.le_refl _) (by omega) (Nat.le_of_lt hmn) (by omega)).mono ?_
     rintro e w1 ⟨rfl, hg, cs, hl, hv, hk⟩
     have HV := Lib.hid hv
     have HG := Lib.hid hg
     have HC := Lib.hid hl
     have hrd := hk.rd
     rw [hl] at hrd
     clear hv hg hl
     go_wp2_with fail
     refine (trim_c _ _ _ cs w1 hrd (Nat.le_refl _) (by omega)).mono ?_
     intro e w3 h3
     obtain ⟨A', c', rfl, r1, r2, r3, r4, r5⟩ := FIN.out w1 w3 cs e (.inr trivial) HG.out HC.out HV.out hk h3
     have R := Lib.hid r5
     clear r5 h3
     go_wp2
     go_ret
     exact ⟨A', c', rfl, r1, r2, r3, r4, R.out⟩
   · obtain ⟨kk, hkk⟩ : ∃ kk, kk = (n + 1) / 2 := ⟨_, rfl⟩
     have ek : ((n : Int) + 1) / 2 = (kk : Int) := by omega
     have k1 : n ≤ 2 * kk := by omega
     have k2 : 2 * kk ≤ n + 1 := by omega
     by_cases hmk2 : m ≤ kk
     · exact mul_midS (some ⟨b, o, none⟩) (some ⟨b', o', none⟩) n c m d xs ys w IH.out ha hb cx cy hn hmn hc1 hc2 hc3 hc4 h40 kk hkk hmk2
     · clear hkk
       go_enter Tryz.func131, Tryz.ntmps131
       go_wp2_with fail
       refine (threeProducts_c w.heap.size b b' o o' n c m d kk IH.out xs ys _ hbk hx hy cx cy hn (Nat.le_of_lt hmn) (by omega) k1 k2 (by omega) hc1 hc2 hc3 hc4).mono ?_
       rintro e w1 ⟨rfl, hg, cs, hl, hv, hk⟩
       have HV := Lib.hid hv
       have HG := Lib.hid hg
       have HC := Lib.hid hl
       have hrd := hk.rd
       rw [hl] at hrd
       clear hv hg hl
       go_wp2_with fail
       refine (trim_c _ _ _ cs w1 hrd (Nat.le_refl _) (by omega)).mono ?_
       intro e w3 h3
       obtain ⟨A', c', rfl, r1, r2, r3, r4, r5⟩ := FIN.out w1 w3 cs e (.inr trivial) HG.out HC.out HV.out hk h3
       have R := Lib.hid r5
       clear r5 h3
       go_wp2
       go_ret
       exact ⟨A', c', rfl, r1, r2, r3, r4, R.out⟩
theorem mul_upTo (N : Nat) : MulUpTo N := by
 induction N with
 | zero => intro A B n c m d xs ys w h; omega
 | succ N ih =>
   intro A B n c m d xs ys w h ha hb cx cy hn hm hc1 hc2 hc3 hc4
   have ih' : ∀ k, k ≤ N → MulUpTo k := fun k hk A B n c m d xs ys w h => ih A B n c m d xs ys w (by omega)
   rcases Nat.lt_or_ge n m with h1 | h1
   · rw [Nat.mul_comm]
     exact mul_geS B A m d n c ys xs w (ih' _ (by omega)) hb ha cy cx hm h1 hc2 hc1 hc4 hc3
   · exact mul_ge A B n c m d xs ys w (ih' _ (by omega)) ha hb cx cy hn h1 hc1 hc2 hc3 hc4
theorem multiply_c (A B : Option Addr) (n c m d : Nat) (xs ys : List Nat) (w : World) (ha : Rd w A n xs) (hb : Rd w B m ys) (cx : canon xs) (cy : canon ys) (hn : n < 17592186044416) (hm : m < 17592186044416) (hc1 : n ≤ c) (hc2 : m ≤ d) (hc3 : c ≤ 9223372036854775807) (hc4 : d ≤ 9223372036854775807) :
 Calls Tryz.prog 131 #[.slice A n c, .slice B m d] w (Out w (val xs * val ys)) :=
 mul_upTo (n + m + 1) A B n c m d xs ys w (by omega) ha hb cx cy hn hm hc1 hc2 hc3 hc4
end Go.Proofs.YteabokkofoomkaaGreat

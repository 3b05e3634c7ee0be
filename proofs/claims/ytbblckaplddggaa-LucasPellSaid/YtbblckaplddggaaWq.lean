import Derived.Test.YtbblckaplddggaaMa
namespace Go.Proofs.Ytbblckaplddggaa
open Go.RowKit

set_option maxHeartbeats 1000000 in
theorem rowByRow_c (g c : Nat) (A B : Option Addr) (n a1 m b1 : Nat) (xs ys : List Nat) (w : World) (hL : Bk w g (List.replicate (n + m) 0)) (ha : Rd w A n xs) (hb : Rd w B m ys) (hoa : 0 < n → Off A g) (hob : 0 < m → Off B g)
    (hc : n + m ≤ c) (hc2 : c ≤ 9223372036854775800) (hmn : m ≤ n) (hn : n < 35184372088832) :
    Calls Try.prog 126 #[.slice (some ⟨g, 0, none⟩) (n + m) c, .slice A n a1, .slice B m b1] w fun e w' => e = .returned (.tuple #[]) ∧ w.grownBy w' (some g) ∧ ∃ cs, cs.length = n + m ∧ val cs = val xs * val ys ∧ Bk w' g cs := by
  have HX := Lib.hid ha.len
  have HY := Lib.hid hb.len
  have hsx := ha.sm
  have hsy := hb.sm
  go_enter Try.func126, Try.ntmps126
  go_wp2
  go_loopw [15] (fun v wr => ∃ i : Nat, ∃ cs, v = .int .i64 i ∧ i ≤ m ∧ RowAt xs ys i 0 cs 0 ∧ Bk wr g cs ∧ w.grownBy wr (some g)) (fun v _ => m - (intOf v).toNat)
  case atStart => exact ⟨0, _, rfl, Nat.zero_le _, RowAt.start xs ys, by rw [HX.out, HY.out]; exact hL, ⟨rfl, rfl, rfl, Nat.le_refl _, fun _ _ _ => rfl⟩⟩
  case round =>
    obtain ⟨i, cs, rfl, hi, hR, hB, hg⟩ := hrel
    by_cases him : i < m
    · obtain ⟨bb, q, hBe, _, hcb⟩ := (hb.grown hg hob).of (by omega)
      subst hBe
      have hci := hcb i him
      have hy1 := small_get hsy i
      obtain ⟨y, hy2⟩ : ∃ y, y = ys.getD i 0 := ⟨_, rfl⟩
      rw [← hy2] at hci hy1
      have HY2 := Lib.hid hy2
      clear hy2 hcb
      have i1 : (0 : Int) ≤ (i : Int) := by omega
      have i2 : (i : Int) + n + 1 ≤ (c : Int) := by omega
      have H0 := Lib.hid hR
      have H1 := Lib.hid hB
      have H2 := Lib.hid hg
      clear hR hB hg
      go_wp2
      obtain ⟨wo, hwo⟩ : ∃ wo : World, wo = wr := ⟨_, rfl⟩
      rw [← hwo]
      rw [← hwo] at H1 H2
      clear hwo hci
      go_loopw [9, 30] (fun cy v wr => ∃ j y' : Nat, ∃ cs', cy = .int .u64 y' ∧ v = .int .i64 j ∧ j ≤ n ∧ y' < 4294967296 ∧ RowAt xs ys i j cs' y' ∧ Bk wr g cs' ∧ w.grownBy wr (some g)) (fun _ v _ => n - (intOf v).toNat)
      case atStart => exact ⟨0, 0, cs, rfl, rfl, Nat.zero_le _, by omega, H0.out, H1.out, H2.out⟩
      case round =>
        obtain ⟨j, y', cs', rfl, rfl, hj, hy', hR, hB, hg⟩ := hrel
        have hl : cs'.length = n + m := by rw [hR.len, HX.out, HY.out]
        by_cases hjn : j < n
        · obtain ⟨bb2, q2, hAe, _, hca⟩ := (ha.grown hg hoa).of (by omega)
          subst hAe
          have hcj := hca j hjn
          have hcx := hB.cell (i + j) (by omega)
          have hfx := hB.frozen (i + j)
          have hx1 := small_get hsx j
          have hr1 := small_get hB.1 (i + j)
          have hnx := hR.next hsx hsy (by rw [HX.out]; exact hjn) (by rw [HY.out]; exact him)
          rw [← HY2.out] at hnx
          obtain ⟨x, hx2⟩ : ∃ x, x = xs.getD j 0 := ⟨_, rfl⟩
          obtain ⟨r, hr2⟩ : ∃ r, r = cs'.getD (i + j) 0 := ⟨_, rfl⟩
          rw [← hx2] at hcj hx1 hnx
          rw [← hr2] at hcx hr1 hnx
          have hml := mul_word_le hy1 hx1
          have hmul : ((y : Int) * (x : Int)) = ((y * x : Nat) : Int) := by simp
          obtain ⟨P, hP⟩ : ∃ P, P = y * x := ⟨_, rfl⟩
          rw [← hP] at hml hmul hnx
          obtain ⟨T, hT⟩ : ∃ T, T = P + r + y' := ⟨_, rfl⟩
          rw [← hT] at hnx
          have hbn := hB.set_ (i + j) (T % 4294967296) (by omega)
          have hgn := grown_setCell hg (p := ⟨g, i + j, none⟩) (.inl rfl) (.int .u32 ((T % 4294967296 : Nat) : Int))
          have hv : ((T % 4294967296 : Nat) : Int) = ((P : Int) + r + y') % 4294967296 := by omega
          have hv2 : ((T / 4294967296 : Nat) : Int) = ((P : Int) + r + y') / 4294967296 := by omega
          rw [hv] at hbn hgn
          have G1 := Lib.hid hnx
          have G2 := Lib.hid hbn
          have G3 := Lib.hid hgn
          have G4 := Lib.hid hv2
          have G5 := Lib.hid (show T / 4294967296 < 4294967296 by omega)
          clear hv hv2 hT hP hx2 hr2 hnx hbn hgn hca hR hB hg hl hsx hsy hmn
          go_wp2
          go_roundw
          case measure => simp [intOf]; omega
          case rel => exact ⟨j + 1, T / 4294967296, _, by rw [G4.out], by go_num, by omega, G5.out, G1.out, G2.out, G3.out⟩
        · obtain rfl : j = n := by omega
          have hcx := hB.cell (i + j) (by omega)
          have hfx := hB.frozen (i + j)
          have hbn := hB.set_ (i + j) y' hy'
          have hgn := grown_setCell hg (p := ⟨g, i + j, none⟩) (.inl rfl) (.int .u32 (y' : Int))
          have hrn := (show RowAt xs ys i xs.length cs' y' by rw [HX.out]; exact hR).row (by rw [HY.out]; exact him)
          rw [HX.out] at hrn
          have G1 := Lib.hid hrn
          have G2 := Lib.hid hbn
          have G3 := Lib.hid hgn
          clear hrn hbn hgn hR hB hg hl hsx hsy
          go_wp2
          go_roundw
          case measure => simp [intOf]; omega
          case rel => exact ⟨i + 1, _, by go_num, by omega, G1.out, G2.out, G3.out⟩
    · have hd := hR.done (by rw [HY.out]; omega)
      have hl : cs.length = n + m := by rw [hR.len, HX.out, HY.out]
      have H := Lib.hid (show w.grownBy wr (some g) ∧ ∃ cs, cs.length = n + m ∧ val cs = val xs * val ys ∧ Bk wr g cs from ⟨hg, cs, hl, hd, hB⟩)
      clear hd hl hR hB hg
      go_wp2
      go_end0
      exact ⟨rfl, H.out⟩
end Go.Proofs.Ytbblckaplddggaa

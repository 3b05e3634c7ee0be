import Derived.Test.YtbblckaplddggaaMk
import Derived.Test.YtbblckaplddggaaWm
import Derived.Test.YtbblckaplddggaaWu
import Derived.IntWalk
namespace Go.Proofs.Ytbblckaplddggaa
open Go.RowKit

theorem val_top {xs : List Nat} {m : Nat} (h : xs.length = m + 2) : val xs = (xs.getD (m + 1) 0 * 4294967296 + xs.getD m 0) * pw m + val (xs.take m) := by
  have h1 := val_take_step xs m
  have h2 := val_take_step xs (m + 1)
  rw [take_of_len (by omega)] at h2
  rw [h2, h1, pw_succ, Nat.add_mul, Nat.mul_comm 4294967296, Nat.mul_comm (xs.getD (m + 1) 0 * 4294967296), Nat.mul_comm (xs.getD m 0), Nat.mul_comm (xs.getD (m + 1) 0), ← Nat.mul_assoc]
  omega
theorem val_top3 {xs : List Nat} {m : Nat} (h : xs.length = m + 3) : val xs = ((xs.getD (m + 2) 0 * 4294967296 + xs.getD (m + 1) 0) * 4294967296 + xs.getD m 0) * pw m + val (xs.take m) := by
  have h1 := val_take_step xs m
  have h2 := val_top (xs := xs) (m := m + 1) (by omega)
  rw [show m + 1 + 1 = m + 2 from rfl] at h2
  obtain ⟨U, hU⟩ : ∃ U, U = xs.getD (m + 2) 0 * 4294967296 + xs.getD (m + 1) 0 := ⟨_, rfl⟩
  rw [← hU] at h2 ⊢
  rw [h2, h1, pw_succ, Nat.add_mul, ← Nat.mul_assoc, Nat.mul_comm (xs.getD m 0)]
  omega

set_option maxHeartbeats 1000000 in
set_option maxRecDepth 100000 in
theorem guess_c (R B : Option Addr) (m c d : Nat) (xs ys : List Nat) (w : World) (hr : Rd w R (m + 3) xs) (hb : Rd w B (m + 2) ys) (hm : m ≤ 17592186044416) (hb1 : 0 < ys.getD (m + 1) 0) (hlt : val xs < 4294967296 * val ys) :
    Calls Try.prog 128 #[.slice R (m + 3) c, .slice B (m + 2) d] w fun e w' => ∃ F : Nat, e = .returned (.int .u64 (F : Int)) ∧ Guessed (val ys) (val xs) F ∧ ∃ q, w' = w.drewN q := by
  obtain ⟨g, o, rfl, _, hx⟩ := hr.of (by omega)
  obtain ⟨g', o', rfl, _, hy⟩ := hb.of (by omega)
  have x0 := hx (m + 2) (by omega)
  have x1 := hx (m + 1) (by omega)
  have x2 := hx m (by omega)
  have y1 := hy (m + 1) (by omega)
  have y2 := hy m (by omega)
  have lx0 := small_get hr.sm (m + 2)
  have lx1 := small_get hr.sm (m + 1)
  have lx2 := small_get hr.sm m
  have ly1 := small_get hb.sm (m + 1)
  have ly2 := small_get hb.sm m
  have HX := val_top3 hr.len
  have HY := val_top hb.len
  have px : val (xs.take m) < pw m := by have := val_lt (small_take hr.sm m); rwa [List.length_take, hr.len, Nat.min_eq_left (by omega)] at this
  have py : val (ys.take m) < pw m := by have := val_lt (small_take hb.sm m); rwa [List.length_take, hb.len, Nat.min_eq_left (by omega)] at this
  obtain ⟨r0, h0⟩ : ∃ r, r = xs.getD (m + 2) 0 := ⟨_, rfl⟩
  obtain ⟨r1, h1⟩ : ∃ r, r = xs.getD (m + 1) 0 := ⟨_, rfl⟩
  obtain ⟨r2, h2⟩ : ∃ r, r = xs.getD m 0 := ⟨_, rfl⟩
  obtain ⟨b1, h3⟩ : ∃ r, r = ys.getD (m + 1) 0 := ⟨_, rfl⟩
  obtain ⟨b2, h4⟩ : ∃ r, r = ys.getD m 0 := ⟨_, rfl⟩
  rw [← h0] at x0 lx0 HX
  rw [← h1] at x1 lx1 HX
  rw [← h2] at x2 lx2 HX
  rw [← h3] at y1 ly1 HY hb1
  rw [← h4] at y2 ly2 HY
  obtain ⟨top, ht⟩ : ∃ t, t = r0 * 4294967296 + r1 := ⟨_, rfl⟩
  rw [← ht] at HX
  have hor : bits BinOp.or IntKind.u64 ((r0 : Int) * 4294967296) (r1 : Int) = (top : Int) := by rw [shl_or2 _ _ lx0 lx1, ht]
  have htop : top < 18446744073709551616 := by omega
  obtain ⟨X, hX⟩ : ∃ X, X = val xs := ⟨_, rfl⟩
  obtain ⟨V, hV⟩ : ∃ V, V = val ys := ⟨_, rfl⟩
  rw [← hX] at HX hlt ⊢
  rw [← hV] at HY hlt ⊢
  have Hx := Lib.hid HX
  have Hy := Lib.hid HY
  have Hpx := Lib.hid px
  have Hpy := Lib.hid py
  have Hlt := Lib.hid hlt
  have G0 := Lib.hid (show GuessAt V X b1 b2 top r2 (top / b1) (top % b1) from ⟨by rw [Nat.mul_comm]; exact (Nat.div_add_mod top b1).symm, kn_start HY HX px (Nat.div_mul_le_self X V) rfl rfl lx2 hb1, Nat.lt_trans (Nat.mod_lt _ hb1) ly1⟩)
  have HQ := Lib.hid (show X / V < 4294967296 from Nat.div_lt_of_lt_mul (by rw [Nat.mul_comm]; exact hlt))
  have w1 : IntKind.i64.wrap ((m : Int) + 2 - 1) = (m : Int) + 1 := by rw [show (m : Int) + 2 - 1 = (m : Int) + 1 by omega]; exact IntWalk.i64_in _ (by omega)
  have w2 : IntKind.i64.wrap ((m : Int) + 2 - 2) = (m : Int) := by rw [show (m : Int) + 2 - 2 = (m : Int) by omega]; exact IntWalk.i64_in _ (by omega)
  have e1 : (m : Int) + 2 - 1 = (m : Int) + 1 := by omega
  have e2 : (m : Int) + 2 - 2 = (m : Int) := by omega
  obtain ⟨F0, hF0⟩ : ∃ F0, F0 = top / b1 := ⟨_, rfl⟩
  obtain ⟨l0, hl0⟩ : ∃ l0, l0 = top % b1 := ⟨_, rfl⟩
  rw [← hF0, ← hl0] at G0
  have d1 : (top : Int) / (b1 : Int) = (F0 : Int) := by rw [hF0, Int.natCast_ediv]
  have d2 : (top : Int) % (b1 : Int) = (l0 : Int) := by rw [hl0, Int.natCast_emod]
  have hF1 : F0 < 18446744073709551616 := by rw [hF0]; exact Nat.lt_of_le_of_lt (Nat.div_le_self _ _) htop
  have d3 : IntKind.u64.wrap (F0 : Int) = (F0 : Int) := by rw [IntKind.wrap_u64]; omega
  clear hF0 hl0
  have tb : ((b1 : Int) == 0) = false := by rw [beq_eq_false_iff_ne]; omega
  have tb2 : ¬ (b1 : Int) = 0 := by omega
  have tb3 : ¬ b1 = 0 := by omega
  have Hb1 := Lib.hid hb1
  clear hx hy HX HY px py h0 h1 h2 h3 h4 hlt hX hV hr hb ht hb1
  go_enter Try.func128, Try.ntmps128
  go_wp2_with fail
  go_quiet (fail)
  go_wp2_with fail
  go_quiet (fail)
  go_wp2_with fail
  have D2 := Lib.hid d2
  clear d1 d2 d3 hor w1
  go_loopw [7, 8] (fun f l wr => ∃ F left q : Nat, f = .int .u64 F ∧ l = .int .u64 left ∧ F ≤ F0 ∧ GuessAt V X b1 b2 top r2 F left ∧ wr = w.drewN q) (fun f _ _ => (intOf f).toNat)
  case atStart => exact ⟨F0, l0, _, rfl, by rw [D2.out], Nat.le_refl _, G0.out, by first | rfl | rw [World.drewN_drewN]⟩
  case round =>
    obtain ⟨F, left, q, rfl, rfl, hF, hG, rfl⟩ := hrel
    have HG := Lib.hid hG
    have hleft := hG.lt
    clear hG G0
    have hF0 : 1 ≤ F ∨ F = 0 := by omega
    by_cases hbig : 4294967296 ≤ F
    · have tA : ((F : Int) / 4294967296 != 0) = true := by rw [bne_iff_ne]; omega
      have hmore := Lib.hid (show X / V < F from Nat.lt_of_lt_of_le HQ.out hbig)
      replace hF0 : 1 ≤ F := by omega
      by_cases hbr : 4294967296 ≤ left + b1
      · have tC : (((left : Int) + (b1 : Int)) / 4294967296 != 0) = true := by rw [bne_iff_ne]; omega
        have hend := Lib.hid (guess_early (guess_sub HG.out.eq (Nat.lt_of_le_of_lt (Nat.zero_le _) hmore.out)) (Nat.le_sub_one_of_lt hmore.out) Hy.out Hx.out Hpy.out Hb1.out ly2 Hlt.out hbr)
        clear hbr
        go_wp2_with fail
        go_quiet (fail)
        go_wp2
        go_ret
        exact ⟨F - 1, by rw [Int.natCast_sub hF0]; rfl, hend.out, _, rfl⟩
      · have tC : (((left : Int) + (b1 : Int)) / 4294967296 != 0) = false := by
          rw [bne_eq_false_iff_eq]; omega
        have hnext := Lib.hid (guess_next HG.out hmore.out (by omega))
        clear hbr
        go_wp2_with fail
        go_quiet (fail)
        go_wp2
        go_roundw
        case measure => simp [intOf]; omega
        case rel => exact ⟨F - 1, left + b1, _, by rw [Int.natCast_sub hF0]; rfl, by go_num, by omega, hnext.out, rfl⟩
    · have tA : ((F : Int) / 4294967296 != 0) = false := by rw [bne_eq_false_iff_eq]; omega
      have hp := mul_word (F := F) (w := b2) (c := 0) (by omega) ly2 (by omega)
      rw [Nat.add_zero] at hp
      have hor2 : bits BinOp.or IntKind.u64 ((left : Int) * 4294967296) (r2 : Int) = ((left * 4294967296 + r2 : Nat) : Int) := shl_or2 _ _ hleft lx2
      obtain ⟨p, hpd⟩ : ∃ p, p = F * b2 := ⟨_, rfl⟩
      obtain ⟨s, hsd⟩ : ∃ s, s = left * 4294967296 + r2 := ⟨_, rfl⟩
      rw [← hpd] at hp
      rw [← hsd] at hor2
      have d4 : (F : Int) * (b2 : Int) = (p : Int) := by rw [hpd, Int.natCast_mul]
      have d5 : IntKind.u64.wrap (p : Int) = (p : Int) := by rw [IntKind.wrap_u64]; omega
      by_cases hgt : s < p
      · have tB : decide ((s : Int) < (p : Int)) = true := by simp; exact hgt
        have hmore := Lib.hid (guess_more HG.out.eq Hy.out Hx.out Hpx.out (by rw [← hsd, ← hpd]; exact hgt))
        replace hF0 : 1 ≤ F := Nat.lt_of_le_of_lt (Nat.zero_le _) hmore.out
        clear hpd hsd
        by_cases hbr : 4294967296 ≤ left + b1
        · have tC : (((left : Int) + (b1 : Int)) / 4294967296 != 0) = true := by rw [bne_iff_ne]; omega
          have hend := Lib.hid (guess_early (guess_sub HG.out.eq (Nat.lt_of_le_of_lt (Nat.zero_le _) hmore.out)) (Nat.le_sub_one_of_lt hmore.out) Hy.out Hx.out Hpy.out Hb1.out ly2 Hlt.out hbr)
          clear hbr
          go_wp2_with fail
          go_quiet (fail)
          go_wp2
          go_ret
          exact ⟨F - 1, by rw [Int.natCast_sub hF0]; rfl, hend.out, _, rfl⟩
        · have tC : (((left : Int) + (b1 : Int)) / 4294967296 != 0) = false := by
            rw [bne_eq_false_iff_eq]; omega
          have hnext := Lib.hid (guess_next HG.out hmore.out (by omega))
          clear hbr
          go_wp2_with fail
          go_quiet (fail)
          go_wp2
          go_roundw
          case measure => simp [intOf]; omega
          case rel => exact ⟨F - 1, left + b1, _, by rw [Int.natCast_sub hF0]; rfl, by go_num, by omega, hnext.out, rfl⟩
      · have tB : decide ((s : Int) < (p : Int)) = false := by simp; omega
        have hend := Lib.hid (guess_good HG.out.eq HG.out.ge Hy.out Hx.out Hpy.out Hb1.out (by omega) (by rw [← hsd, ← hpd]; omega))
        have hle : p ≤ s := by omega
        have hle2 : (p : Int) ≤ (s : Int) := by omega
        clear hpd hsd
        go_wp2_with fail
        go_quiet (fail)
        go_wp2
        go_ret
        exact ⟨F, rfl, hend.out, _, World.drewN_drewN _ _ _⟩
end Go.Proofs.Ytbblckaplddggaa

import Derived.Test.YtbblckaplddggaaMb
import Derived.Test.YtbblckaplddggaaWm
import Derived.Test.YtbblckaplddggaaWu
import Derived.IntWalk
import Derived.Outline
import Derived.Test.YtbblckaplddggaaWg
namespace Go.Proofs.Ytbblckaplddggaa
open Go.RowKit

theorem val_top {xs : List Nat} {m : Nat} (h : xs.length = m + 2) : val xs = (xs.getD (m + 1) 0 * 4294967296 + xs.getD m 0) * pw m + val (xs.take m) := by
  have h1 := val_take_step xs m
  have h2 := val_take_step xs (m + 1)
  rw [take_of_len (by omega)] at h2
  rw [h2, h1, pw_succ, Nat.add_mul, Nat.mul_comm 4294967296, Nat.mul_comm (xs.getD (m + 1) 0 * 4294967296), Nat.mul_comm (xs.getD m 0), Nat.mul_comm (xs.getD (m + 1) 0), ← Nat.mul_assoc]
  omega
theorem val_top3 {xs : List Nat} {m : Nat} (h : xs.length = m + 3) : val xs = ((xs.getD (m + 2) 0 * 4294967296 + xs.getD (m + 1) 0) * 4294967296 + xs.getD m 0) * pw m + val (xs.take m) := by
  have h1 := val_take_step xs m
  have h2 := val_top (xs := xs) (m := m + 1) (by omega)
  rw [show m + 1 + 1 = m + 2 from rfl] at h2
  obtain ⟨U, hU⟩ : ∃ U, U = xs.getD (m + 2) 0 * 4294967296 + xs.getD (m + 1) 0 := ⟨_, rfl⟩
  rw [← hU] at h2 ⊢
  rw [h2, h1, pw_succ, Nat.add_mul, ← Nat.mul_assoc, Nat.mul_comm (xs.getD m 0)]
  omega

set_option maxHeartbeats 1000000 in
set_option maxRecDepth 100000 in
theorem guess_c (R B : Option Addr) (m c d : Nat) (xs ys : List Nat) (w : World) (hr : Rd w R (m + 3) xs) (hb : Rd w B (m + 2) ys) (hm : m ≤ 17592186044416) (hb1 : 0 < ys.getD (m + 1) 0) (hlt : val xs < 4294967296 * val ys) :
    Calls Try.prog 128 #[.slice R (m + 3) c, .slice B (m + 2) d] w fun e w' => ∃ F : Nat, e = .returned (.int .u64 (F : Int)) ∧ Guessed (val ys) (val xs) F ∧ ∃ q, w' = w.drewN q := by
  obtain ⟨g, o, rfl, _, hx⟩ := hr.of (by omega)
  obtain ⟨g', o', rfl, _, hy⟩ := hb.of (by omega)
  have x0 := hx (m + 2) (by omega)
  have x1 := hx (m + 1) (by omega)
  have x2 := hx m (by omega)
  have y1 := hy (m + 1) (by omega)
  have y2 := hy m (by omega)
  have lx0 := small_get hr.sm (m + 2)
  have lx1 := small_get hr.sm (m + 1)
  have lx2 := small_get hr.sm m
  have ly1 := small_get hb.sm (m + 1)
  have ly2 := small_get hb.sm m
  have HX := val_top3 hr.len
  have HY := val_top hb.len
  have px : val (xs.take m) < pw m := by have := val_lt (small_take hr.sm m); rwa [List.length_take, hr.len, Nat.min_eq_left (by omega)] at this
  have py : val (ys.take m) < pw m := by have := val_lt (small_take hb.sm m); rwa [List.length_take, hb.len, Nat.min_eq_left (by omega)] at this
  obtain ⟨r0, h0⟩ : ∃ r, r = xs.getD (m + 2) 0 := ⟨_, rfl⟩
  obtain ⟨r1, h1⟩ : ∃ r, r = xs.getD (m + 1) 0 := ⟨_, rfl⟩
  obtain ⟨r2, h2⟩ : ∃ r, r = xs.getD m 0 := ⟨_, rfl⟩
  obtain ⟨b1, h3⟩ : ∃ r, r = ys.getD (m + 1) 0 := ⟨_, rfl⟩
  obtain ⟨b2, h4⟩ : ∃ r, r = ys.getD m 0 := ⟨_, rfl⟩
  rw [← h0] at x0 lx0 HX
  rw [← h1] at x1 lx1 HX
  rw [← h2] at x2 lx2 HX
  rw [← h3] at y1 ly1 HY hb1
  rw [← h4] at y2 ly2 HY
  obtain ⟨top, ht⟩ : ∃ t, t = r0 * 4294967296 + r1 := ⟨_, rfl⟩
  rw [← ht] at HX
  have hor : bits BinOp.or IntKind.u64 ((r0 : Int) * 4294967296) (r1 : Int) = (top : Int) := by rw [shl_or2 _ _ lx0 lx1, ht]
  have htop : top < 18446744073709551616 := by omega
  obtain ⟨X, hX⟩ : ∃ X, X = val xs := ⟨_, rfl⟩
  obtain ⟨V, hV⟩ : ∃ V, V = val ys := ⟨_, rfl⟩
  rw [← hX] at HX hlt ⊢
  rw [← hV] at HY hlt ⊢
  have Hx := Lib.hid HX
  have Hy := Lib.hid HY
  have Hpx := Lib.hid px
  have Hpy := Lib.hid py
  have Hlt := Lib.hid hlt
  have G0 := Lib.hid (show GuessAt V X b1 b2 top r2 (top / b1) (top % b1) from ⟨by rw [Nat.mul_comm]; exact (Nat.div_add_mod top b1).symm, kn_start HY HX px (Nat.div_mul_le_self X V) rfl rfl lx2 hb1, Nat.lt_trans (Nat.mod_lt _ hb1) ly1⟩)
  have HQ := Lib.hid (show X / V < 4294967296 from Nat.div_lt_of_lt_mul (by rw [Nat.mul_comm]; exact hlt))
  have w1 : IntKind.i64.wrap ((m : Int) + 2 - 1) = (m : Int) + 1 := by rw [show (m : Int) + 2 - 1 = (m : Int) + 1 by omega]; exact IntWalk.i64_in _ (by omega)
  have w2 : IntKind.i64.wrap ((m : Int) + 2 - 2) = (m : Int) := by rw [show (m : Int) + 2 - 2 = (m : Int) by omega]; exact IntWalk.i64_in _ (by omega)
  have e1 : (m : Int) + 2 - 1 = (m : Int) + 1 := by omega
  have e2 : (m : Int) + 2 - 2 = (m : Int) := by omega
  obtain ⟨F0, hF0⟩ : ∃ F0, F0 = top / b1 := ⟨_, rfl⟩
  obtain ⟨l0, hl0⟩ : ∃ l0, l0 = top % b1 := ⟨_, rfl⟩
  rw [← hF0, ← hl0] at G0
  have d1 : (top : Int) / (b1 : Int) = (F0 : Int) := by rw [hF0, Int.natCast_ediv]
  have d2 : (top : Int) % (b1 : Int) = (l0 : Int) := by rw [hl0, Int.natCast_emod]
  have hF1 : F0 < 18446744073709551616 := by rw [hF0]; exact Nat.lt_of_le_of_lt (Nat.div_le_self _ _) htop
  have d3 : IntKind.u64.wrap (F0 : Int) = (F0 : Int) := by rw [IntKind.wrap_u64]; omega
  clear hF0 hl0
  have tb : ((b1 : Int) == 0) = false := by rw [beq_eq_false_iff_ne]; omega
  have tb2 : ¬ (b1 : Int) = 0 := by omega
  have tb3 : ¬ b1 = 0 := by omega
  have Hb1 := Lib.hid hb1
  clear hx hy HX HY px py h0 h1 h2 h3 h4 hlt hX hV hr hb ht hb1
  go_enter Try.func128, Try.ntmps128
  go_wp2_with fail
  go_quiet (fail)
  go_wp2_with fail
  go_quiet (fail)
  go_wp2_with fail
  have D2 := Lib.hid d2
  clear d1 d2 d3 hor w1
  go_loopw [7, 8] (fun f l wr => ∃ F left q : Nat, f = .int .u64 F ∧ l = .int .u64 left ∧ F ≤ F0 ∧ GuessAt V X b1 b2 top r2 F left ∧ wr = w.drewN q) (fun f _ _ => (intOf f).toNat)
  case atStart => exact ⟨F0, l0, _, rfl, by rw [D2.out], Nat.le_refl _, G0.out, by first | rfl | rw [World.drewN_drewN]⟩
  case round =>
    obtain ⟨F, left, q, rfl, rfl, hF, hG, rfl⟩ := hrel
    have HG := Lib.hid hG
    have hleft := hG.lt
    clear hG G0
    have hF0 : 1 ≤ F ∨ F = 0 := by omega
    by_cases hbig : 4294967296 ≤ F
    · have tA : ((F : Int) / 4294967296 != 0) = true := by rw [bne_iff_ne]; omega
      have hmore := Lib.hid (show X / V < F from Nat.lt_of_lt_of_le HQ.out hbig)
      replace hF0 : 1 ≤ F := by omega
      by_cases hbr : 4294967296 ≤ left + b1
      · have tC : (((left : Int) + (b1 : Int)) / 4294967296 != 0) = true := by rw [bne_iff_ne]; omega
        have hend := Lib.hid (guess_early (guess_sub HG.out.eq (Nat.lt_of_le_of_lt (Nat.zero_le _) hmore.out)) (Nat.le_sub_one_of_lt hmore.out) Hy.out Hx.out Hpy.out Hb1.out ly2 Hlt.out hbr)
        clear hbr
        go_wp2_with fail
        go_quiet (fail)
        go_wp2
        go_ret
        exact ⟨F - 1, by rw [Int.natCast_sub hF0]; rfl, hend.out, _, rfl⟩
      · have tC : (((left : Int) + (b1 : Int)) / 4294967296 != 0) = false := by
          rw [bne_eq_false_iff_eq]; omega
        have hnext := Lib.hid (guess_next HG.out hmore.out (by omega))
        clear hbr
        go_wp2_with fail
        go_quiet (fail)
        go_wp2
        go_roundw
        case measure => simp [intOf]; omega
        case rel => exact ⟨F - 1, left + b1, _, by rw [Int.natCast_sub hF0]; rfl, by go_num, by omega, hnext.out, rfl⟩
    · have tA : ((F : Int) / 4294967296 != 0) = false := by rw [bne_eq_false_iff_eq]; omega
      have hp := mul_word (F := F) (w := b2) (c := 0) (by omega) ly2 (by omega)
      rw [Nat.add_zero] at hp
      have hor2 : bits BinOp.or IntKind.u64 ((left : Int) * 4294967296) (r2 : Int) = ((left * 4294967296 + r2 : Nat) : Int) := shl_or2 _ _ hleft lx2
      obtain ⟨p, hpd⟩ : ∃ p, p = F * b2 := ⟨_, rfl⟩
      obtain ⟨s, hsd⟩ : ∃ s, s = left * 4294967296 + r2 := ⟨_, rfl⟩
      rw [← hpd] at hp
      rw [← hsd] at hor2
      have d4 : (F : Int) * (b2 : Int) = (p : Int) := by rw [hpd, Int.natCast_mul]
      have d5 : IntKind.u64.wrap (p : Int) = (p : Int) := by rw [IntKind.wrap_u64]; omega
      by_cases hgt : s < p
      · have tB : decide ((s : Int) < (p : Int)) = true := by simp; exact hgt
        have hmore := Lib.hid (guess_more HG.out.eq Hy.out Hx.out Hpx.out (by rw [← hsd, ← hpd]; exact hgt))
        replace hF0 : 1 ≤ F := Nat.lt_of_le_of_lt (Nat.zero_le _) hmore.out
        clear hpd hsd
        by_cases hbr : 4294967296 ≤ left + b1
        · have tC : (((left : Int) + (b1 : Int)) / 4294967296 != 0) = true := by rw [bne_iff_ne]; omega
          have hend := Lib.hid (guess_early (guess_sub HG.out.eq (Nat.lt_of_le_of_lt (Nat.zero_le _) hmore.out)) (Nat.le_sub_one_of_lt hmore.out) Hy.out Hx.out Hpy.out Hb1.out ly2 Hlt.out hbr)
          clear hbr
          go_wp2_with fail
          go_quiet (fail)
          go_wp2
          go_ret
          exact ⟨F - 1, by rw [Int.natCast_sub hF0]; rfl, hend.out, _, rfl⟩
        · have tC : (((left : Int) + (b1 : Int)) / 4294967296 != 0) = false := by
            rw [bne_eq_false_iff_eq]; omega
          have hnext := Lib.hid (guess_next HG.out hmore.out (by omega))
          clear hbr
          go_wp2_with fail
          go_quiet (fail)
          go_wp2
          go_roundw
          case measure => simp [intOf]; omega
          case rel => exact ⟨F - 1, left + b1, _, by rw [Int.natCast_sub hF0]; rfl, by go_num, by omega, hnext.out, rfl⟩
      · have tB : decide ((s : Int) < (p : Int)) = false := by simp; omega
        have hend := Lib.hid (guess_good HG.out.eq HG.out.ge Hy.out Hx.out Hpy.out Hb1.out (by omega) (by rw [← hsd, ← hpd]; omega))
        have hle : p ≤ s := by omega
        have hle2 : (p : Int) ≤ (s : Int) := by omega
        clear hpd hsd
        go_wp2_with fail
        go_quiet (fail)
        go_wp2
        go_ret
        exact ⟨F, rfl, hend.out, _, World.drewN_drewN _ _ _⟩
end Go.Proofs.Ytbblckaplddggaa
namespace Go.Proofs.Ytbblckaplddggaa
open Go.RowKit

theorem AddAt.over {c b cs : List Nat} {n y : Nat} (h : AddAt c b n cs y) (hn : b.length = n) (hc : c.length = n + 1) (sc : small c) (hge : pw (n + 1) ≤ val c + val b) :
    val (cs.set n ((c.getD n 0 + y) % 4294967296)) = val c + val b - pw (n + 1) := by
  have he := h.eq
  rw [take_of_len (by omega)] at he
  have hle := h.le
  have h1 := val_lt h.sm
  rw [h.len, hc] at h1
  have hx := small_get sc n
  have hg := getD_drop_eq h.rest
  have h2 := val_take_step cs n
  rw [take_of_len (by rw [h.len, hc]; exact Nat.le_refl _), hg] at h2
  have h3 := val_lt (small_take h.sm n)
  rw [List.length_take, h.len, hc, Nat.min_eq_left (by omega)] at h3
  have h4 := val_set cs n ((c.getD n 0 + y) % 4294967296) (by rw [h.len, hc]; omega)
  rw [hg] at h4
  have h5 := pw_succ n
  generalize c.getD n 0 = x at *
  generalize pw n = P at *
  have hy : y = 1 := by
    rcases Nat.eq_zero_or_pos y with h0 | h0
    · rw [h0, Nat.mul_zero] at he; omega
    · omega
  subst hy
  have hx2 : x = 4294967295 := by
    rcases Nat.lt_or_ge x 4294967295 with h0 | h0
    · exfalso
      have : P * (x + 2) ≤ P * 4294967296 := Nat.mul_le_mul_left P (by omega)
      rw [Nat.mul_add] at this
      omega
    · omega
  subst hx2
  rw [show (4294967295 + 1) % 4294967296 = 0 from rfl] at h4 ⊢
  rw [Nat.mul_zero] at h4
  omega

set_option maxHeartbeats 1000000 in
set_option maxRecDepth 100000 in
theorem giveBack_c (g o n c : Nat) (L : List Nat) (B : Option Addr) (d : Nat) (ys : List Nat) (w : World) (hL : Bk w g L) (ho : o + (n + 1) ≤ L.length) (hr : Rd w B n ys) (hoff : 0 < n → Off B g)
    (hc2 : n ≤ 9223372036854775800) (hf : pw (n + 1) ≤ val ((L.drop o).take (n + 1)) + val ys) :
    Calls Try.prog 130 #[.slice (some ⟨g, o, none⟩) (n + 1) c, .slice B n d] w (SetPost w g L o (n + 1) (val ((L.drop o).take (n + 1)) + val ys - pw (n + 1))) := by
  obtain ⟨cs0, hcs0⟩ : ∃ cs0, cs0 = (L.drop o).take (n + 1) := ⟨_, rfl⟩
  have hcl : cs0.length = n + 1 := by subst hcs0; simp; omega
  have hsc : small cs0 := by subst hcs0; exact small_take (small_drop hL.1 _) _
  have hsp : splice L o cs0 = L := by subst hcs0; exact splice_self ho
  rw [← hcs0] at hf ⊢
  have hb := hr.sm
  have hbl := hr.len
  have HCL := Lib.hid hcl
  have HBL := Lib.hid hbl
  have HSP := Lib.hid hsp
  have HF := Lib.hid hf
  clear hcs0 hcl hsp hbl hf
  go_enter Try.func130, Try.ntmps130
  go_wp2
  go_loopw [4, 9] (fun cy i wr => ∃ k y : Nat, ∃ cs, cy = .int .u32 y ∧ i = .int .i64 k ∧ k ≤ n ∧ y ≤ 1 ∧ AddAt cs0 ys k cs y ∧ Bk wr g (splice L o cs) ∧ w.grownBy wr (some g)) (fun _ i _ => n - (intOf i).toNat)
  case atStart => exact ⟨0, 0, cs0, rfl, rfl, by omega, by omega, AddAt.start ys hsc, by rw [HSP.out]; exact hL, ⟨rfl, rfl, rfl, Nat.le_refl _, fun _ _ _ => rfl⟩⟩
  case round =>
    obtain ⟨k, y, cs, rfl, rfl, hk, hy, hA, hB, hg⟩ := hrel
    have hcl : cs.length = n + 1 := hA.len.trans HCL.out
    have hsl := splice_len (L := L) (o := o) (cs := cs) (by omega)
    by_cases hkm : k < n
    · obtain ⟨x, hx⟩ : ∃ x, x = cs0.getD k 0 := ⟨_, rfl⟩
      obtain ⟨z, hz⟩ : ∃ z, z = ys.getD k 0 := ⟨_, rfl⟩
      have hx1 := small_get hsc k
      have hz1 := small_get hb k
      have hcx : wr.cell? ⟨g, o + k, none⟩ = some (.int .u32 (x : Int)) := by
        rw [hB.cell _ (by omega), splice_get (by omega) (by omega), getD_drop_eq hA.rest, ← hx]
      have hfx : wr.frozen? ⟨g, o + k, none⟩ = false := hB.frozen _
      have hr2 := hr.grown hg hoff
      obtain ⟨bb, q, rfl, hbb, hcell⟩ := hr2.of (by omega)
      have hcz := hcell k hkm
      rw [← hz] at hcz hz1
      rw [← hx] at hx1
      have hnx := hA.next hsc hb (by have := HCL.out; omega)
      rw [← hx, ← hz, Nat.add_right_comm] at hnx
      have hbn := hB.set_ (o + k) ((x + z + y) % 4294967296) (by omega)
      rw [splice_set (by omega) (by omega)] at hbn
      have hgn := grown_setCell hg (p := ⟨g, o + k, none⟩) (.inl rfl) (.int .u32 (((x + z + y) % 4294967296 : Nat) : Int))
      obtain ⟨v, hv⟩ : ∃ v, v = (x + z + y) % 4294967296 := ⟨_, rfl⟩
      obtain ⟨u, hu⟩ : ∃ u, u = (x + z + y) / 4294967296 := ⟨_, rfl⟩
      have hu1 : u ≤ 1 := by omega
      rw [← hv, ← hu] at hnx
      rw [← hv] at hbn hgn
      have HV := Lib.hid hv
      have HU := Lib.hid hu
      have H1 := Lib.hid hnx
      have H2 := Lib.hid hbn
      have H3 := Lib.hid hgn
      clear hv hu hnx hbn hgn hA hB hg hx hz hcl hsl hr hr2 hcell hoff hL
      go_wp2_with fail
      refine (add32_c x z y _ hx1 hz1 hy).mono ?_
      rw [← HV.out, ← HU.out]
      rintro e w2 ⟨rfl, rfl⟩
      go_wp2
      go_roundw
      case measure => simp [intOf]; omega
      case rel => exact ⟨k + 1, u, _, rfl, by go_num, by omega, hu1, H1.out, H2.out, H3.out⟩
    · obtain rfl : k = n := by omega
      have hover := hA.over HBL.out HCL.out hsc HF.out
      have hx1 := small_get hsc k
      obtain ⟨x, hx⟩ : ∃ x, x = cs0.getD k 0 := ⟨_, rfl⟩
      have hcx : wr.cell? ⟨g, o + k, none⟩ = some (.int .u32 (x : Int)) := by
        rw [hB.cell _ (by omega), splice_get (by omega) (by omega), getD_drop_eq hA.rest, ← hx]
      have hfx : wr.frozen? ⟨g, o + k, none⟩ = false := hB.frozen _
      rw [← hx] at hover hx1
      obtain ⟨v, hv⟩ : ∃ v, v = (x + y) % 4294967296 := ⟨_, rfl⟩
      have hv1 : v < 4294967296 := by omega
      have hvi : ((x : Int) + (y : Int)) % 4294967296 = (v : Int) := by omega
      rw [← hv] at hover
      have hbn := hB.set_ (o + k) v hv1
      rw [splice_set (by omega) (by omega)] at hbn
      have hgn := grown_setCell hg (p := ⟨g, o + k, none⟩) (.inl rfl) (.int .u32 (v : Int))
      have H1 := Lib.hid (show SetPost w g L o (k + 1) (val cs0 + val ys - pw (k + 1)) (.returned (.tuple #[])) (wr.setCell ⟨g, o + k, none⟩ (.int .u32 (v : Int))) from ⟨rfl, hgn, _, by rw [List.length_set]; exact hcl, small_set hA.sm _ _ hv1, hover, hbn⟩)
      clear hv hover hbn hgn hA hB hg hx hcl hsl hr hoff hL
      go_wp2
      go_end0
      exact H1.out
end Go.Proofs.Ytbblckaplddggaa
namespace Go.Proofs.Ytbblckaplddggaa
open Go.RowKit

/-- a digit of the quotient, and the rest in place of the words -/
def OncePost (w : World) (g : Nat) (L : List Nat) (o n q r : Nat) (e : Ending) (w' : World) : Prop :=
  e = .returned (.int .u32 (q : Int)) ∧ w.grownBy w' (some g) ∧ ∃ cs, cs.length = n ∧ small cs ∧ val cs = r ∧ Bk w' g (splice L o cs)

theorem once_exact {X V F R : Nat} (hG : Guessed V X F) (hV : 0 < V) (h : R + F * V = X) : F = X / V ∧ R = X % V := by
  have h1 := Nat.div_add_mod X V
  have h2 := Nat.mod_lt X hV
  have hF : F = X / V := by
    rcases Nat.lt_or_ge (X / V) F with h3 | h3
    · exfalso
      have : (X / V + 1) * V ≤ F * V := Nat.mul_le_mul_right V h3
      rw [Nat.add_mul, Nat.one_mul, Nat.mul_comm (X / V)] at this
      omega
    · exact Nat.le_antisymm h3 hG.ge
  subst hF
  rw [Nat.mul_comm] at h
  exact ⟨rfl, by omega⟩
theorem once_over {X V F R M : Nat} (hG : Guessed V X F) (hV : 0 < V) (hR : R < M) (h : R + F * V = X + M) : 1 ≤ F ∧ F - 1 = X / V ∧ M ≤ R + V ∧ R + V - M = X % V := by
  have h1 := Nat.div_add_mod X V
  have h2 := Nat.mod_lt X hV
  have g1 := hG.ge
  have g2 := hG.le
  generalize X / V = q at *
  generalize X % V = r at *
  have hF : F = q + 1 := by
    rcases Nat.lt_or_ge q F with h3 | h3
    · omega
    · exfalso
      have : F * V ≤ q * V := Nat.mul_le_mul_right V h3
      rw [Nat.mul_comm q] at this
      omega
  rw [hF, Nat.add_mul, Nat.one_mul, Nat.mul_comm q] at h
  omega
theorem splice_again {L cs ds : List Nat} {o : Nat} (ho : o + cs.length ≤ L.length) (h : ds.length = cs.length) : splice (splice L o cs) o ds = splice L o ds := by
  have e1 : (L.take o).length = o := by rw [List.length_take]; omega
  have e2 : (L.take o ++ cs).length = o + cs.length := by rw [List.length_append, e1]
  have t1 : (L.take o ++ cs ++ L.drop (o + cs.length)).take o = L.take o := by rw [List.append_assoc]; exact List.take_left' e1
  have t2 : (L.take o ++ cs ++ L.drop (o + cs.length)).drop (o + cs.length) = L.drop (o + cs.length) := List.drop_left' e2
  simp only [splice]
  rw [h, t1, t2]

set_option maxHeartbeats 2000000 in
set_option maxRecDepth 100000 in
theorem divideOnce_c (g o m c : Nat) (L : List Nat) (B : Option Addr) (d : Nat) (ys : List Nat) (w : World) (hL : Bk w g L) (ho : o + (m + 3) ≤ L.length) (hr : Rd w B (m + 2) ys) (hoff : Off B g)
    (hm : m ≤ 17592186044416) (hb1 : 0 < ys.getD (m + 1) 0) (hlt : val ((L.drop o).take (m + 3)) < 4294967296 * val ys) :
    Calls Try.prog 110 #[.slice (some ⟨g, o, none⟩) (m + 3) c, .slice B (m + 2) d] w (OncePost w g L o (m + 3) (val ((L.drop o).take (m + 3)) / val ys) (val ((L.drop o).take (m + 3)) % val ys)) := by
  have hrd := hL.rdAt ho
  have HGC := Lib.hid (guess_c (some ⟨g, o, none⟩) B m c d _ ys w hrd hr hm hb1 hlt)
  have HVp := Lib.hid (show 0 < val ys by
    have := val_top hr.len
    have h2 : 0 < (ys.getD (m + 1) 0 * 4294967296 + ys.getD m 0) * pw m := Nat.mul_pos (by omega) (pw_pos m)
    omega)
  obtain ⟨cs0, hcs0⟩ : ∃ cs0, cs0 = (L.drop o).take (m + 3) := ⟨_, rfl⟩
  have hcl : cs0.length = m + 3 := by subst hcs0; simp; omega
  have hsc : small cs0 := by subst hcs0; exact small_take (small_drop hL.1 _) _
  have hsp : splice L o cs0 = L := by subst hcs0; exact splice_self ho
  rw [← hcs0] at HGC ⊢
  have hb := hr.sm
  have HCL := Lib.hid hcl
  have HBL := Lib.hid hr.len
  have HSP := Lib.hid hsp
  clear hcs0 hcl hsp hrd hb1 hlt
  go_enter Try.func110, Try.ntmps110
  go_wp2_with fail
  refine HGC.out.mono ?_
  rintro e w1 ⟨F, rfl, hG, q0, rfl⟩
  have hF := hG.lt
  have HG := Lib.hid hG
  have HL := Lib.hid (hL.drewN q0)
  have HR := Lib.hid (hr.drewN q0)
  have HW := Lib.hid (show w.grownBy (w.drewN q0) (some g) from ⟨rfl, rfl, rfl, Nat.le_refl _, fun _ _ _ => rfl⟩)
  clear hG HGC hL hr
  go_wp2_with fail
  go_loopw [6, 7, 17] (fun cy bo i wr => ∃ k y u : Nat, ∃ cs, cy = .int .u64 y ∧ bo = .int .u32 u ∧ i = .int .i64 k ∧ k ≤ m + 2 ∧ MulSub cs0 ys F k cs y u ∧ Bk wr g (splice L o cs) ∧ Rd wr B (m + 2) ys ∧ w.grownBy wr (some g)) (fun _ _ i _ => m + 2 - (intOf i).toNat)
  case atStart => exact ⟨0, 0, 0, cs0, rfl, rfl, rfl, by omega, MulSub.start ys F hsc, by rw [HSP.out]; exact HL.out, HR.out, HW.out⟩
  case round =>
    obtain ⟨k, y, u, cs, rfl, rfl, rfl, hk, hA, hB, hR, hg⟩ := hrel
    clear HL HR HW
    have hcl : cs.length = m + 3 := hA.len.trans HCL.out
    have hsl := splice_len (L := L) (o := o) (cs := cs) (by omega)
    have hy1 := hA.lt
    have hu1 := hA.bo
    by_cases hkm : k < m + 2
    · obtain ⟨x, hx⟩ : ∃ x, x = cs0.getD k 0 := ⟨_, rfl⟩
      obtain ⟨z, hz⟩ : ∃ z, z = ys.getD k 0 := ⟨_, rfl⟩
      have hx1 := small_get hsc k
      have hz1 := small_get hb k
      have hcx : wr.cell? ⟨g, o + k, none⟩ = some (.int .u32 (x : Int)) := by
        rw [hB.cell _ (by omega), splice_get (by omega) (by omega), getD_drop_eq hA.rest, ← hx]
      have hfx : wr.frozen? ⟨g, o + k, none⟩ = false := hB.frozen _
      obtain ⟨bb, q, rfl, hbb, hcell⟩ := hR.of (by omega)
      have hcz := hcell k hkm
      rw [← hz] at hcz hz1
      rw [← hx] at hx1
      have hnx := hA.next hF hsc hb (by have := HBL.out; omega) (by have := HBL.out; have := HCL.out; omega)
      rw [← hx, ← hz] at hnx
      have hT := mul_word hF hz1 hy1
      obtain ⟨P, hP⟩ : ∃ P, P = F * z := ⟨_, rfl⟩
      have hP2 : (F : Int) * (z : Int) = (P : Int) := by rw [hP, Int.natCast_mul]
      rw [← hP] at hnx hT
      have hP3 : IntKind.u64.wrap (P : Int) = (P : Int) := by rw [IntKind.wrap_u64]; omega
      obtain ⟨T, hTd⟩ : ∃ T, T = P + y := ⟨_, rfl⟩
      have hT2 : (P : Int) + (y : Int) = (T : Int) := by omega
      rw [← hTd] at hnx hT
      obtain ⟨s, hs⟩ : ∃ s, s = T % 4294967296 := ⟨_, rfl⟩
      obtain ⟨y', hy'⟩ : ∃ y', y' = T / 4294967296 := ⟨_, rfl⟩
      have hs1 : s < 4294967296 := by omega
      have hs2 : (T : Int) % 4294967296 = (s : Int) := by omega
      have hy2 : (T : Int) / 4294967296 = (y' : Int) := by omega
      rw [← hs, ← hy'] at hnx
      obtain ⟨v, hv⟩ : ∃ v, v = (x + 4294967296 - s - u) % 4294967296 := ⟨_, rfl⟩
      obtain ⟨u', hu'⟩ : ∃ u', u' = (if x < s + u then 1 else 0 : Nat) := ⟨_, rfl⟩
      have hv1 : v < 4294967296 := by omega
      rw [← hv, ← hu'] at hnx
      have hbn := hB.set_ (o + k) v hv1
      rw [splice_set (by omega) (by omega)] at hbn
      have hgn := grown_setCell hg (p := ⟨g, o + k, none⟩) (.inl rfl) (.int .u32 (v : Int))
      have hrn := hR.grown (w' := wr.setCell ⟨g, o + k, none⟩ (.int .u32 (v : Int))) (g := g) (grown_setCell (g := g) ⟨rfl, rfl, rfl, Nat.le_refl _, fun _ _ _ => rfl⟩ (.inl rfl) _) (fun _ => hoff)
      have HV := Lib.hid hv
      have HU := Lib.hid hu'
      have H1 := Lib.hid hnx
      have H2 := Lib.hid hbn
      have H3 := Lib.hid hgn
      have H4 := Lib.hid hrn
      clear hv hu' hnx hbn hgn hrn hA hB hg hx hz hcl hsl hR hcell hP hTd hs hy' 
      go_wp2_with fail
      refine (sub32_c x s u _ hx1 hs1 hu1).mono ?_
      rw [← HV.out, ← HU.out]
      rintro e w2 ⟨rfl, rfl⟩
      go_wp2
      go_roundw
      case measure => simp [intOf]; omega
      case rel => exact ⟨k + 1, y', u', _, rfl, rfl, by go_num, by omega, H1.out, H2.out, H4.out, H3.out⟩
    · obtain rfl : k = m + 2 := by omega
      have htop := (by rw [HBL.out]; exact hA : MulSub cs0 ys F ys.length cs y u).top hsc (by rw [HCL.out, HBL.out])
      rw [HBL.out, HCL.out] at htop
      obtain ⟨x, hx⟩ : ∃ x, x = cs0.getD (m + 2) 0 := ⟨_, rfl⟩
      have hx1 := small_get hsc (m + 2)
      have hcx : wr.cell? ⟨g, o + (m + 2), none⟩ = some (.int .u32 (x : Int)) := by
        rw [hB.cell _ (by omega), splice_get (by omega) (by omega), getD_drop_eq hA.rest, ← hx]
      have hfx : wr.frozen? ⟨g, o + (m + 2), none⟩ = false := hB.frozen _
      rw [← hx] at hx1 htop
      obtain ⟨v, hv⟩ : ∃ v, v = (x + 4294967296 - y - u) % 4294967296 := ⟨_, rfl⟩
      have hv1 : v < 4294967296 := by omega
      rw [← hv] at htop
      have hbn := hB.set_ (o + (m + 2)) v hv1
      rw [splice_set (by omega) (by omega)] at hbn
      have hgn := grown_setCell hg (p := ⟨g, o + (m + 2), none⟩) (.inl rfl) (.int .u32 (v : Int))
      have hrn := hR.grown (w' := wr.setCell ⟨g, o + (m + 2), none⟩ (.int .u32 (v : Int))) (g := g) (grown_setCell (g := g) ⟨rfl, rfl, rfl, Nat.le_refl _, fun _ _ _ => rfl⟩ (.inl rfl) _) (fun _ => hoff)
      have hsm2 := small_set hA.sm (m + 2) v hv1
      have hcl2 : (cs.set (m + 2) v).length = m + 3 := by rw [List.length_set]; exact hcl
      have hyI : IntKind.u32.wrap (y : Int) = (y : Int) := by show (y : Int) % 4294967296 = _; omega
      have hyI2 : (y : Int) % 4294967296 = (y : Int) := by omega
      have HV := Lib.hid hv
      have H2 := Lib.hid hbn
      have H3 := Lib.hid hgn
      have H4 := Lib.hid hrn
      have H5 := Lib.hid hsm2
      have H6 := Lib.hid hcl2
      clear hv hbn hgn hrn hA hB hg hx hcl hR hsm2 hcl2
      by_cases hb0 : x < y + u
      · rw [if_pos hb0, Nat.mul_one] at htop
        have hM := val_lt H5.out
        rw [H6.out] at hM
        obtain ⟨f1, f2, f3, f4⟩ := once_over HG.out HVp.out hM htop
        have HB0 := Lib.hid (show (if x < y + u then 1 else 0 : Nat) = 1 from if_pos hb0)
        have K1 := Lib.hid f2
        have K2 := Lib.hid f3
        have K3 := Lib.hid f4
        clear hb0 htop hM f2 f3 f4
        go_wp2_with fail
        refine (sub32_c x y u _ hx1 hy1 hu1).mono ?_
        rw [← HV.out, HB0.out]
        rintro e w2 ⟨rfl, rfl⟩
        go_wp2_with fail
        have hpart := splice_part (L := L) (o := o) (cs := cs.set (m + 2) v) (by omega)
        rw [H6.out] at hpart
        have HP := Lib.hid hpart
        clear hpart
        have hsl2 := splice_len (L := L) (o := o) (cs := cs.set (m + 2) v) (by rw [H6.out]; exact ho)
        have gb := giveBack_c g o (m + 2) c _ B d ys _ H2.out (by rw [hsl2]; exact ho) H4.out (fun _ => hoff) (by omega) (by rw [HP.out]; exact K2.out)
        rw [HP.out, K3.out] at gb
        refine gb.mono ?_
        rintro e w3 ⟨rfl, g2, ds, d1, d2, d3, d4⟩
        rw [splice_again (by rw [H6.out]; exact ho) (by rw [H6.out]; exact d1)] at d4
        have G4 := Lib.hid (grown_trans H3.out g2)
        have G5 := Lib.hid d4
        clear gb g2 d4 hsl2
        go_wp2
        go_ret
        exact ⟨by rw [← K1.out, Int.natCast_sub f1]; rfl, G4.out, ds, d1, d2, d3, G5.out⟩
      · rw [if_neg hb0, Nat.mul_zero, Nat.add_zero] at htop
        obtain ⟨f1, f2⟩ := once_exact HG.out HVp.out htop
        have HB0 := Lib.hid (show (if x < y + u then 1 else 0 : Nat) = 0 from if_neg hb0)
        have K1 := Lib.hid f1
        have K2 := Lib.hid f2
        clear hb0 htop f1 f2
        go_wp2_with fail
        refine (sub32_c x y u _ hx1 hy1 hu1).mono ?_
        rw [← HV.out, HB0.out]
        rintro e w2 ⟨rfl, rfl⟩
        go_wp2
        go_ret
        exact ⟨by rw [← K1.out]; rfl, H3.out, _, H6.out, H5.out, K2.out, H2.out⟩
end Go.Proofs.Ytbblckaplddggaa
namespace Go.Proofs.Ytbblckaplddggaa
open Go.RowKit

theorem lz_c (x : Nat) (w : World) (h : x < 4294967296) : Calls Try.prog 108 #[.int .u32 (x : Int)] w fun e w' => e = .returned (.int .i64 ((32 - blen x : Nat) : Int)) ∧ w' = w := by
  have hl := len32_i (x : Int) w (by omega) (by omega)
  rw [Int.toNat_natCast, bitLen_blen x (by omega)] at hl
  have hle := blen_le.2 (show x < 2 ^ 32 by omega)
  have H := Lib.hid hl
  clear hl
  obtain ⟨b, hb⟩ : ∃ b, b = blen x := ⟨_, rfl⟩
  rw [← hb] at H hle ⊢
  clear hb
  go_enter Try.func108, Try.ntmps108
  go_wp2_with fail
  refine H.out.mono ?_
  rintro e w' ⟨rfl, rfl⟩
  go_wp2
  go_ret
  exact ⟨ret_int (by omega), rfl⟩

/-- the greatest word, shifted so that its highest binary digit is 1 -/
theorem norm_word {x : Nat} (h0 : 0 < x) (h1 : x < 4294967296) : 32 - blen x < 32 ∧ 2147483648 ≤ x * 2 ^ (32 - blen x) ∧ x * 2 ^ (32 - blen x) < 4294967296 := by
  have hle := blen_le.2 (show x < 2 ^ 32 by omega)
  have hp := blen_pos (v := x) (by omega)
  have h2 := blen_ge (v := x) (by omega)
  have h3 := blen_lt x
  have e1 : 2 ^ (blen x - 1) * 2 ^ (32 - blen x) = 2147483648 := by rw [← Nat.pow_add, show blen x - 1 + (32 - blen x) = 31 by omega]
  have e2 : 2 ^ blen x * 2 ^ (32 - blen x) = 4294967296 := by rw [← Nat.pow_add, show blen x + (32 - blen x) = 32 by omega]
  have e3 := Nat.mul_le_mul_right (2 ^ (32 - blen x)) h2
  have e4 := Nat.mul_lt_mul_of_pos_right h3 (two_pos (32 - blen x))
  exact ⟨by omega, by omega, by omega⟩
/-- the divisor, shifted: as many words, the first one not less than half -/
theorem norm_div {ys : List Nat} {m : Nat} (hs : small ys) (hl : ys.length = m + 2) (h0 : 0 < ys.getD (m + 1) 0) :
    val ys * 2 ^ (32 - blen (ys.getD (m + 1) 0)) < pw (m + 2) ∧ pw (m + 2) ≤ 2 * (val ys * 2 ^ (32 - blen (ys.getD (m + 1) 0))) := by
  obtain ⟨h1, h2, h3⟩ := norm_word h0 (small_get hs (m + 1))
  have hv := val_take_step ys (m + 1)
  rw [take_of_len (by omega)] at hv
  have ht := val_lt (small_take hs (m + 1))
  rw [List.length_take, hl, Nat.min_eq_left (by omega)] at ht
  have hp := pw_succ (m + 1)
  generalize 32 - blen (ys.getD (m + 1) 0) = s at *
  generalize ys.getD (m + 1) 0 = y at *
  have hs1 := two_pos s
  have e1 : val ys * 2 ^ s = val (ys.take (m + 1)) * 2 ^ s + pw (m + 1) * (y * 2 ^ s) := by rw [hv, Nat.add_mul, Nat.mul_assoc]
  have e2 : val (ys.take (m + 1)) * 2 ^ s < pw (m + 1) * 2 ^ s := Nat.mul_lt_mul_of_pos_right ht hs1
  have e3 : pw (m + 1) * (y * 2 ^ s + 2 ^ s) ≤ pw (m + 1) * 4294967296 := Nat.mul_le_mul_left _ (by
    have : (y + 1) * 2 ^ s ≤ 4294967296 := by
      -- 2^32 is a multiple of 2^s
      have e4 : 4294967296 = 2 ^ (32 - s) * 2 ^ s := two_split s h1
      rw [e4]
      rw [e4] at h3
      exact Nat.mul_le_mul_right _ (Nat.lt_of_mul_lt_mul_right h3)
    rw [Nat.add_mul, Nat.one_mul] at this
    exact this)
  have e5 : pw (m + 1) * 2147483648 ≤ pw (m + 1) * (y * 2 ^ s) := Nat.mul_le_mul_left _ h2
  rw [Nat.mul_add] at e3
  rw [show m + 1 + 1 = m + 2 from rfl] at hp
  exact ⟨by omega, by omega⟩

/-- where the digits from i on are found -/
structure QuoAt (X V N i : Nat) (R Q : List Nat) : Prop where
  rl : R.length = N
  rs : small R
  qs : small Q
  lt : val R < pw i * V
  eq : val R + V * val Q = X
  zero : ∀ j, j < i → Q.getD j 0 = 0
theorem QuoAt.digit {X V N i m : Nat} {R Q : List Nat} (h : QuoAt X V N (i + 1) R Q) (hi : i + (m + 3) ≤ N) (hV : V < pw (m + 2)) :
    val ((R.drop i).take (m + 3)) < 4294967296 * V ∧ val R = val (R.take i) + pw i * val ((R.drop i).take (m + 3)) := by
  have h1 := val_take_drop R i (by rw [h.rl]; omega)
  have h2 : val ((R.drop i).drop (m + 3)) = 0 := by
    rw [List.drop_drop, val_drop h.rs]
    refine Nat.div_eq_of_lt (Nat.lt_of_lt_of_le h.lt ?_)
    rw [show i + (m + 3) = i + 1 + (m + 2) by omega, pw_add (i + 1)]
    exact Nat.mul_le_mul_left _ (Nat.le_of_lt hV)
  have h3 := val_take_drop (R.drop i) (m + 3) (by rw [List.length_drop, h.rl]; omega)
  rw [h2, Nat.mul_zero, Nat.add_zero] at h3
  rw [h3] at h1
  refine ⟨?_, h1⟩
  have h4 := h.lt
  rw [pw_succ, Nat.mul_comm 4294967296, Nat.mul_assoc] at h4
  exact Nat.lt_of_mul_lt_mul_left (Nat.lt_of_le_of_lt (by omega : pw i * val ((R.drop i).take (m + 3)) ≤ val R) h4)
theorem QuoAt.next {X V N i m : Nat} {R Q cs : List Nat} (h : QuoAt X V N (i + 1) R Q) (hi : i + (m + 3) ≤ N) (hV : V < pw (m + 2)) (hV0 : 0 < V) (hq : i < Q.length) (hc : cs.length = m + 3) (hcs : small cs) (hv : val cs = val ((R.drop i).take (m + 3)) % V)
    (hd : val ((R.drop i).take (m + 3)) / V < 4294967296) : QuoAt X V N i (splice R i cs) (Q.set i (val ((R.drop i).take (m + 3)) / V)) := by
  obtain ⟨h1, h2⟩ := h.digit hi hV
  have h3 := val_splice (L := R) (cs := cs) (o := i) (by rw [hc, h.rl]; exact hi)
  rw [hc, hv] at h3
  have h4 := val_set Q i (val ((R.drop i).take (m + 3)) / V) hq
  rw [h.zero i (by omega), Nat.mul_zero, Nat.add_zero] at h4
  have h5 := Nat.div_add_mod (val ((R.drop i).take (m + 3))) V
  have h6 := Nat.mod_lt (val ((R.drop i).take (m + 3))) hV0
  have h7 := val_lt (small_take h.rs i)
  rw [List.length_take, h.rl, Nat.min_eq_left (by omega)] at h7
  have hE := h.eq
  generalize val ((R.drop i).take (m + 3)) = x at *
  generalize x / V = q at *
  generalize x % V = r at *
  have e1 : pw i * x = V * (pw i * q) + pw i * r := by rw [← h5, Nat.mul_add, Nat.mul_left_comm]
  have e2 : pw i * (r + 1) ≤ pw i * V := Nat.mul_le_mul_left _ h6
  rw [Nat.mul_add, Nat.mul_one] at e2
  refine ⟨by rw [splice_len (by rw [hc, h.rl]; exact hi)]; exact h.rl, splice_small h.rs _ hcs, small_set h.qs _ _ hd, by omega, ?_, fun j hj => ?_⟩
  · rw [h4, Nat.mul_add]; omega
  · rw [getD_set_ne (by omega)]; exact h.zero j (by omega)
theorem QuoAt.done {X V N : Nat} {R Q : List Nat} (h : QuoAt X V N 0 R Q) (hV : 0 < V) : val Q = X / V ∧ val R = X % V := by
  have h1 := h.lt
  rw [pw_zero, Nat.one_mul] at h1
  have h2 := h.eq
  have e1 : X / V = val Q := by
    rw [← h2, Nat.add_comm, Nat.mul_add_div hV, Nat.div_eq_of_lt h1, Nat.add_zero]
  have e2 : X % V = val R := by
    rw [← h2, Nat.add_comm, Nat.mul_add_mod, Nat.mod_eq_of_lt h1]
  exact ⟨e1.symm, e2.symm⟩
theorem quo_shift (a b s : Nat) : a * 2 ^ s / (b * 2 ^ s) = a / b ∧ a * 2 ^ s % (b * 2 ^ s) / 2 ^ s = a % b := by
  refine ⟨Nat.mul_div_mul_right a b (two_pos s), ?_⟩
  rw [Nat.mul_mod_mul_right, Nat.mul_div_cancel _ (two_pos s)]
end Go.Proofs.Ytbblckaplddggaa
namespace Go.Proofs.Ytbblckaplddggaa
open Go.RowKit

theorem words_exact {v k : Nat} (h1 : v < pw (k + 1)) (h2 : pw k ≤ v) : (words v).length = k + 1 :=
  Nat.le_antisymm (words_len_le.2 h1) (words_len_lt.2 h2)
set_option maxHeartbeats 4000000 in
set_option maxRecDepth 100000 in
theorem divide_long (A B : Option Addr) (n c m d : Nat) (xs ys : List Nat) (w : World) (ha : Rd w A n xs) (hb : Rd w B (m + 2) ys) (cx : canon xs) (cy : canon ys) (hn : n ≤ 17592186044416) (hm : m ≤ 17592186044416) (hle : val ys ≤ val xs) :
    Calls Try.prog 79 #[.slice A n c, .slice B (m + 2) d] w (Out2 w (val xs / val ys) (val xs % val ys)) := by
  have hxl := ha.len
  have hyl := hb.len
  have hmn : m + 2 ≤ n := by
    rcases Nat.lt_or_ge n (m + 2) with h1 | h1
    · have := cmp_len cx.1 cy (by rw [hxl, hyl]; exact h1); omega
    · exact h1
  have CM := Lib.hid (fun w' hx hy => compare_c A B n c (m + 2) d xs ys w' hx hy cx cy (by omega) (by omega))
  have ho : 0 ≤ ord (val xs) (val ys) := by
    rcases Nat.lt_or_ge (val ys) (val xs) with h1 | h1
    · rw [ord_gt (by omega)]; omega
    · rw [ord_eq (by omega)]; exact Int.le_refl _
  obtain ⟨od, hod⟩ : ∃ od, od = ord (val xs) (val ys) := ⟨_, rfl⟩
  rw [← hod] at ho CM
  clear hod
  have hlast := canon_last cy (by omega)
  rw [hyl, show m + 2 - 1 = m + 1 from rfl] at hlast
  obtain ⟨b', o', rfl, hlb, hcy⟩ := hb.of (by omega)
  have hc1 := hcy (m + 1) (by omega)
  have hy1 := small_get cy.1 (m + 1)
  have hnd := norm_div cy.1 hyl (by omega)
  obtain ⟨hs1, hs2, hs3⟩ := norm_word (x := ys.getD (m + 1) 0) (by omega) hy1
  have LZ := Lib.hid (fun w => lz_c (ys.getD (m + 1) 0) w hy1)
  obtain ⟨s, hs⟩ : ∃ s, s = 32 - blen (ys.getD (m + 1) 0) := ⟨_, rfl⟩
  rw [← hs] at hnd hs1 LZ
  clear hs2 hs3 hs
  obtain ⟨y1, hy1d⟩ : ∃ y1, y1 = ys.getD (m + 1) 0 := ⟨_, rfl⟩
  rw [← hy1d] at hc1 hy1 LZ
  clear hy1d hcy hlast
  obtain ⟨V, hV⟩ : ∃ V, V = val ys * 2 ^ s := ⟨_, rfl⟩
  rw [← hV] at hnd
  have HVd := Lib.hid hV
  have hVl := words_exact (v := V) (k := m + 1) hnd.1 (by have := pw_succ (m + 1); rw [show m + 1 + 1 = m + 2 from rfl] at this; omega)
  have HVl := Lib.hid (show (words V).length = m + 2 from hVl)
  have HV2 := Lib.hid hnd
  have HA := Lib.hid ha
  have HB := Lib.hid hb
  have HXl := Lib.hid hxl
  have e1 : (m : Int) + 2 - 1 = (m : Int) + 1 := by omega
  have t1 : ((m : Int) + 2 == 1) = false := by rw [beq_eq_false_iff_ne]; omega
  obtain ⟨K, hK⟩ : ∃ K, K = n - (m + 2) := ⟨_, rfl⟩
  have HK := Lib.hid (show n = K + (m + 2) by omega)
  have eK : (n : Int) - ((m : Int) + 2) = (K : Int) := by omega
  have hK1 : K ≤ 17592186044416 := by omega
  clear hK
  have hmk1 := mk_words (n + 1) (by omega)
  rw [show ((n + 1 : Nat) : Int) = (n : Int) + 1 from rfl] at hmk1
  have hmk2 := mk_words (K + 1) (by omega)
  rw [show ((K + 1 : Nat) : Int) = (K : Int) + 1 from rfl] at hmk2
  clear hV hVl hnd hxl hyl ha hb
  go_enter Try.func79, Try.ntmps79
  go_wp2_with fail
  refine (CM.out w HA.out HB.out).mono ?_
  rintro e w1 ⟨rfl, k, rfl⟩
  have W1 := Lib.hid (below_drewN (Below.refl w.heap.size w) k)
  go_wp2_with fail
  refine (LZ.out _).mono ?_
  rintro e w1 ⟨rfl, rfl⟩
  go_wp2_with fail
  refine (shiftUp_c _ (m + 2) d s ys _ (HB.out.below W1.out) (by omega) (by omega)).mono ?_
  rw [← HVd.out]
  rintro e w2 ⟨D, dc, rfl, d1, d2, d3, d4, -⟩
  rw [HVl.out] at d1 d2 ⊢
  have W2 := Lib.hid (W1.out.trans (d4.mono W1.out.size))
  have D1 := Lib.hid d1
  clear d1 d4 hc1
  go_wp2_with fail
  have W3 := Lib.hid (W2.out.trans (((Below.refl w2.heap.size w2).alloc (Nat.le_refl _) (row (List.replicate (n + 1) 0))).mono W2.out.size))
  refine (shiftUp_c A n c s xs _ (HA.out.below W3.out) (by omega) (by omega)).mono ?_
  rintro e w3 ⟨S, sc, rfl, s1, s2, s3, s4, -⟩
  have W4 := Lib.hid (W3.out.trans (s4.mono W3.out.size))
  obtain ⟨X, hX⟩ : ∃ X, X = val xs * 2 ^ s := ⟨_, rfl⟩
  rw [← hX] at s1 s2 ⊢
  have HXd := Lib.hid hX
  have hXlt : 2 * X < pw (n + 1) := by
    have h1 := val_lt cx.1
    rw [HXl.out] at h1
    have h2 := two_le hs1
    have h3 : val xs * 2 ^ s ≤ val xs * 2147483648 := Nat.mul_le_mul_left _ h2
    rw [pw_succ, hX]
    omega
  have hSl : (words X).length ≤ n + 1 := words_len_le.2 (by omega)
  have BR := Lib.hid ((Bk.new0 w2 (n + 1)).below s4 (by simp))
  have DR := Lib.hid ((D1.out.alloc (row (List.replicate (n + 1) 0))).below s4)
  have hOff : Off D w2.heap.size := fun a ha e => by
    have := D1.out.blk (by omega) a ha
    omega
  have hDblk := Lib.hid (fun a (ha : D = some a) => D1.out.blk (by omega) a ha)
  have hgR : w.heap.size ≤ w2.heap.size := W2.out.size
  have hz23 := Lib.hid s4.size
  have HO := Lib.hid hOff
  obtain ⟨gR, hgRd⟩ : ∃ gR, gR = w2.heap.size := ⟨_, rfl⟩
  rw [← hgRd] at BR HO hgR ⊢
  have S1 := Lib.hid s1
  have V0 := Lib.hid (show val (splice (List.replicate (n + 1) 0) 0 (words X)) = X by
    have := val_splice (L := List.replicate (n + 1) 0) (cs := words X) (o := 0) (by simp; exact hSl)
    rw [val_zeros, val_replicate, pw_zero, val_words] at this
    omega)
  have V1 := Lib.hid (show (splice (List.replicate (n + 1) 0) 0 (words X)).length = n + 1 by rw [splice_len (by simp; exact hSl)]; simp)
  have HXlt := Lib.hid hXlt
  clear hX hXlt s1 s4 hOff hgRd W3
  clear hmk1
  go_wp2_with (with_reducible refine wpList_copy_words rfl (.tmp 48) (.tmp 51) rfl _ _ _ _ _ _ rfl rfl gR 0 _ (words X) BR.out S1.out rfl hSl (by simp; exact hSl) ?_; intro w4 b4 g4)
  obtain ⟨R0, hR0⟩ : ∃ R0, R0 = splice (List.replicate (n + 1) 0) 0 (words X) := ⟨_, rfl⟩
  rw [← hR0] at V0 V1 b4
  have hgR4 : gR < w3.heap.size := BR.out.lt
  have W5 := Lib.hid (W4.out.trans (below_of_grown g4 W4.out.size hgR))
  have hgz := g4.size
  have DR4 := Lib.hid ((DR.out.grown g4 (fun _ => HO.out)).alloc (row (List.replicate (K + 1) 0)))
  have BR4 := Lib.hid (b4.alloc (row (List.replicate (K + 1) 0)))
  have BQ4 := Lib.hid (Bk.new0 w4 (K + 1))
  have W6 := Lib.hid (W5.out.alloc W5.out.size (row (List.replicate (K + 1) 0)))
  have hne : gR ≠ w4.heap.size := by omega
  have HO2 := Lib.hid (show Off D w4.heap.size from fun a ha e => by
    have h1 := hDblk.out a ha
    have h2 := hz23.out
    rw [World.size_alloc] at h2
    omega)
  have hgQ : w.heap.size ≤ w4.heap.size := W5.out.size
  have hq0 := Lib.hid (show QuoAt X V (n + 1) (K + 1) R0 (List.replicate (K + 1) 0) from
    ⟨V1.out, b4.1, fun x hx => by have := List.eq_of_mem_replicate hx; omega, by
      rw [V0.out]
      have h1 := HXlt.out
      have h2 := HV2.out.2
      have h3 : pw (n + 1) = pw (K + 1) * pw (m + 2) := by rw [← pw_add]; congr 1; have := HK.out; omega
      have h4 : pw (K + 1) * pw (m + 2) ≤ pw (K + 1) * (2 * V) := Nat.mul_le_mul_left _ h2
      have h5 : pw (K + 1) * (2 * V) = 2 * (pw (K + 1) * V) := Nat.mul_left_comm _ _ _
      omega, by rw [val_replicate, Nat.mul_zero, Nat.add_zero]; exact V0.out, fun j _ => getD_replicate _ _⟩)
  have hVpos := Lib.hid (show 0 < V by
    have := HV2.out.2
    have := pw_pos (m + 2)
    omega)
  have hVtop := Lib.hid (show 0 < (words V).getD (m + 1) 0 by
    have := canon_last (words_canon V) (by rw [HVl.out]; omega)
    rw [HVl.out] at this
    exact Nat.pos_of_ne_zero this)
  clear hR0 b4 g4 BR DR S1 hmk2 hgz t1 e1 eK
  obtain ⟨gQ, hgQd⟩ : ∃ gQ, gQ = w4.heap.size := ⟨_, rfl⟩
  rw [← hgQd] at BQ4 hne hgQ HO2 ⊢
  clear hgQd
  generalize w4.alloc (row (List.replicate (K + 1) 0)) = W at DR4 BR4 BQ4 W6 ⊢
  go_loopw [12] (fun v wr => ∃ i : Nat, ∃ R Q, v = .int .i64 ((i : Int) - 1) ∧ i ≤ K + 1 ∧ QuoAt X V (n + 1) i R Q ∧ Q.length = K + 1 ∧ Bk wr gR R ∧ Bk wr gQ Q ∧ Rd wr D (m + 2) (words V) ∧ Below w.heap.size w wr) (fun v _ => (intOf v + 1).toNat)
  case atStart => exact ⟨K + 1, R0, _, by go_num, Nat.le_refl _, hq0.out, by simp, BR4.out, BQ4.out, DR4.out, W6.out⟩
  case round =>
    obtain ⟨i, R, Q, rfl, hi, hq, hQl, hbR, hbQ, hD, hW⟩ := hrel
    clear hq0 DR4 BR4 BQ4 W6
    rcases Nat.eq_zero_or_pos i with hi0 | hi0
    · subst hi0
      obtain ⟨f1, f2⟩ := hq.done hVpos.out
      obtain ⟨u1, u2⟩ := quo_shift (val xs) (val ys) s
      rw [HXd.out, HVd.out, u1] at f1
      have f3 : val R / 2 ^ s = val xs % val ys := by rw [f2, HXd.out, HVd.out, u2]
      have F1 := Lib.hid f1
      have F3 := Lib.hid f3
      have hRl := hq.rl
      have HRd := Lib.hid hbR.rd
      rw [hRl] at HRd
      have HQd := Lib.hid hbQ.rd
      rw [hQl] at HQd
      have HQ := Lib.hid hbQ
      have HQl := Lib.hid hQl
      have HWr := Lib.hid hW
      clear f1 f2 f3 u1 u2 hbR hbQ hD hW hq hQl hRl
      go_wp2_with fail
      refine (trim_c _ (K + 1) (K + 1) Q wr HQd.out (Nat.le_refl _) (by omega)).mono ?_
      intro e w5 h5
      obtain ⟨k5, hk5⟩ : ∃ k5, w5 = wr.drewN k5 := by
        obtain ⟨_, _, _, k5, hk5⟩ := h5
        exact ⟨k5, hk5⟩
      obtain ⟨A5, c5, rfl, r1, r2, r3, r4, -⟩ := out_of_trim (w := w) HQ.out hgQ F1.out HWr.out (by rw [HQl.out]; omega) h5
      have HR5 := Lib.hid (show Rd w5 (some ⟨gR, 0, none⟩) (n + 1) R by rw [hk5]; exact HRd.out.drewN k5)
      have R1 := Lib.hid r1
      have R4 := Lib.hid r4
      clear h5 hk5 r1 r4
      go_wp2_with fail
      refine (trim_q _ (n + 1) (n + 1) R w5 HR5.out (Nat.le_refl _) (by omega)).mono ?_
      rintro e w6 ⟨rfl, k6, rfl⟩
      have T6 := Lib.hid (HR5.out.trim.drewN k6)
      have hTl := Lib.hid (show (words (val R)).length ≤ n + 1 by
        have := HR5.out.len
        rw [← this]; exact (take_words HR5.out.sm).2)
      have R6 := Lib.hid (R1.out.drewN k6)
      go_wp2_with fail
      refine (shiftDown_c _ _ _ s (words (val R)) _ T6.out (by have := hTl.out; omega) (by omega)).mono ?_
      rw [val_words, F3.out]
      rintro e w7 ⟨A7, c7, rfl, z1, z2, z3, z4, -⟩
      have R7 := Lib.hid (R6.out.below z4)
      have Z1 := Lib.hid z1
      have W7 := Lib.hid ((below_drewN R4.out k6).trans (z4.mono (below_drewN R4.out k6).size))
      clear z1 z4
      go_wp2
      go_ret2
      exact ⟨A5, c5, A7, c7, rfl, R7.out, r2, r3, Z1.out, z2, z3, W7.out⟩
    · obtain ⟨j, rfl⟩ : ∃ j, i = j + 1 := ⟨i - 1, by omega⟩
      obtain ⟨g1, g2⟩ := hq.digit (m := m) (by have := HK.out; omega) HV2.out.1
      have hd : val ((R.drop j).take (m + 3)) / V < 4294967296 := Nat.div_lt_of_lt_mul (by rw [Nat.mul_comm]; exact g1)
      have HN := Lib.hid (fun cs (hc : cs.length = m + 3) (hcs : small cs) (hv : val cs = val ((R.drop j).take (m + 3)) % V) => hq.next (by have := HK.out; omega) HV2.out.1 hVpos.out (by omega) hc hcs hv hd)
      have once := fun c2 => divideOnce_c gR j m c2 R D dc (words V) wr hbR (by rw [hq.rl]; have := HK.out; omega) hD HO.out hm hVtop.out (by rw [val_words]; exact g1)
      rw [val_words] at once
      have HOnce := Lib.hid once
      have hjn : j + (m + 3) ≤ n + 1 := by have := HK.out; omega
      have hfq := hbQ.frozen j
      have HQ := Lib.hid hbQ
      have HD := Lib.hid hD
      have HW := Lib.hid hW
      have HQl := Lib.hid hQl
      have Hd := Lib.hid hd
      clear g1 g2 hq hbR hbQ hD hW once hQl hd
      go_wp2_with fail
      rw [show j + (m + 2) + 1 - j = m + 3 by omega]
      refine (HOnce.out _).mono ?_
      rintro e w5 ⟨rfl, og, cs, o1, o2, o3, o4⟩
      obtain ⟨q, hqd⟩ : ∃ q, q = val ((R.drop j).take (m + 3)) / V := ⟨_, rfl⟩
      have hnext := HN.out cs o1 o2 o3
      rw [← hqd] at hnext Hd ⊢
      have hbq := (HQ.out.grown og (Ne.symm hne)).set_ j q Hd.out
      have hcq := (HQ.out.grown og (Ne.symm hne)).cell j (by have := HQl.out; omega)
      have hfq2 := (HQ.out.grown og (Ne.symm hne)).frozen j
      have hW5 := (HW.out.trans (below_of_grown og HW.out.size hgR)).setCell (p := ⟨gQ, j, none⟩) hgQ (.int .u32 (q : Int))
      have hD5 := (HD.out.grown og (fun _ => HO.out))
      have hbr := o4.far (p := ⟨gQ, j, none⟩) hne (.int .u32 (q : Int))
      have hrl := hnext.rl
      have hD6 : Rd (w5.setCell ⟨gQ, j, none⟩ (.int .u32 (q : Int))) D (m + 2) (words V) :=
        hD5.keep (by simp) (fun a ha hn => Below.heap_setCell w5 ⟨gQ, j, none⟩ _ a.block (HO2.out a ha))
      have N1 := Lib.hid hnext
      have N2 := Lib.hid hbq
      have N3 := Lib.hid hW5
      have N4 := Lib.hid hbr
      have N5 := Lib.hid hD6
      clear hqd hnext hbq hW5 hD5 hbr hD6 og o4 HN HOnce HQ HD HW hrl
      go_wp2
      go_roundw
      case measure => simp [intOf]
      case rel => exact ⟨j, _, _, rfl, by omega, N1.out, by rw [List.length_set]; exact HQl.out, N4.out, N2.out, N5.out, N3.out⟩
end Go.Proofs.Ytbblckaplddggaa

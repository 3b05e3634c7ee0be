import Derived.Test.YtbblckaplddggaaTa
import Derived.Outline
namespace Go.Proofs.Ytbblckaplddggaa
open Go.RowKit

theorem AddAt.over {c b cs : List Nat} {n y : Nat} (h : AddAt c b n cs y) (hn : b.length = n) (hc : c.length = n + 1) (sc : small c) (hge : pw (n + 1) ≤ val c + val b) :
    val (cs.set n ((c.getD n 0 + y) % 4294967296)) = val c + val b - pw (n + 1) := by
  have he := h.eq
  rw [take_of_len (by omega)] at he
  have hle := h.le
  have h1 := val_lt h.sm
  rw [h.len, hc] at h1
  have hx := small_get sc n
  have hg := getD_drop_eq h.rest
  have h2 := val_take_step cs n
  rw [take_of_len (by rw [h.len, hc]; exact Nat.le_refl _), hg] at h2
  have h3 := val_lt (small_take h.sm n)
  rw [List.length_take, h.len, hc, Nat.min_eq_left (by omega)] at h3
  have h4 := val_set cs n ((c.getD n 0 + y) % 4294967296) (by rw [h.len, hc]; omega)
  rw [hg] at h4
  have h5 := pw_succ n
  generalize c.getD n 0 = x at *
  generalize pw n = P at *
  have hy : y = 1 := by
    rcases Nat.eq_zero_or_pos y with h0 | h0
    · rw [h0, Nat.mul_zero] at he; omega
    · omega
  subst hy
  have hx2 : x = 4294967295 := by
    rcases Nat.lt_or_ge x 4294967295 with h0 | h0
    · exfalso
      have : P * (x + 2) ≤ P * 4294967296 := Nat.mul_le_mul_left P (by omega)
      rw [Nat.mul_add] at this
      omega
    · omega
  subst hx2
  rw [show (4294967295 + 1) % 4294967296 = 0 from rfl] at h4 ⊢
  rw [Nat.mul_zero] at h4
  omega

set_option maxHeartbeats 1000000 in
set_option maxRecDepth 100000 in
theorem giveBack_c (g o n c : Nat) (L : List Nat) (B : Option Addr) (d : Nat) (ys : List Nat) (w : World) (hL : Bk w g L) (ho : o + (n + 1) ≤ L.length) (hr : Rd w B n ys) (hoff : 0 < n → Off B g)
    (hc2 : n ≤ 9223372036854775800) (hf : pw (n + 1) ≤ val ((L.drop o).take (n + 1)) + val ys) :
    Calls Try.prog 130 #[.slice (some ⟨g, o, none⟩) (n + 1) c, .slice B n d] w (SetPost w g L o (n + 1) (val ((L.drop o).take (n + 1)) + val ys - pw (n + 1))) := by
  obtain ⟨cs0, hcs0⟩ : ∃ cs0, cs0 = (L.drop o).take (n + 1) := ⟨_, rfl⟩
  have hcl : cs0.length = n + 1 := by subst hcs0; simp; omega
  have hsc : small cs0 := by subst hcs0; exact small_take (small_drop hL.1 _) _
  have hsp : splice L o cs0 = L := by subst hcs0; exact splice_self ho
  rw [← hcs0] at hf ⊢
  have hb := hr.sm
  have hbl := hr.len
  have HCL := Lib.hid hcl
  have HBL := Lib.hid hbl
  have HSP := Lib.hid hsp
  have HF := Lib.hid hf
  clear hcs0 hcl hsp hbl hf
  go_enter Try.func130, Try.ntmps130
  go_wp2
  go_loopw [4, 9] (fun cy i wr => ∃ k y : Nat, ∃ cs, cy = .int .u32 y ∧ i = .int .i64 k ∧ k ≤ n ∧ y ≤ 1 ∧ AddAt cs0 ys k cs y ∧ Bk wr g (splice L o cs) ∧ w.grownBy wr (some g)) (fun _ i _ => n - (intOf i).toNat)
  case atStart => exact ⟨0, 0, cs0, rfl, rfl, by omega, by omega, AddAt.start ys hsc, by rw [HSP.out]; exact hL, ⟨rfl, rfl, rfl, Nat.le_refl _, fun _ _ _ => rfl⟩⟩
  case round =>
    obtain ⟨k, y, cs, rfl, rfl, hk, hy, hA, hB, hg⟩ := hrel
    have hcl : cs.length = n + 1 := hA.len.trans HCL.out
    have hsl := splice_len (L := L) (o := o) (cs := cs) (by omega)
    by_cases hkm : k < n
    · obtain ⟨x, hx⟩ : ∃ x, x = cs0.getD k 0 := ⟨_, rfl⟩
      obtain ⟨z, hz⟩ : ∃ z, z = ys.getD k 0 := ⟨_, rfl⟩
      have hx1 := small_get hsc k
      have hz1 := small_get hb k
      have hcx : wr.cell? ⟨g, o + k, none⟩ = some (.int .u32 (x : Int)) := by
        rw [hB.cell _ (by omega), splice_get (by omega) (by omega), getD_drop_eq hA.rest, ← hx]
      have hfx : wr.frozen? ⟨g, o + k, none⟩ = false := hB.frozen _
      have hr2 := hr.grown hg hoff
      obtain ⟨bb, q, rfl, hbb, hcell⟩ := hr2.of (by omega)
      have hcz := hcell k hkm
      rw [← hz] at hcz hz1
      rw [← hx] at hx1
      have hnx := hA.next hsc hb (by have := HCL.out; omega)
      rw [← hx, ← hz, Nat.add_right_comm] at hnx
      have hbn := hB.set_ (o + k) ((x + z + y) % 4294967296) (by omega)
      rw [splice_set (by omega) (by omega)] at hbn
      have hgn := grown_setCell hg (p := ⟨g, o + k, none⟩) (.inl rfl) (.int .u32 (((x + z + y) % 4294967296 : Nat) : Int))
      obtain ⟨v, hv⟩ : ∃ v, v = (x + z + y) % 4294967296 := ⟨_, rfl⟩
      obtain ⟨u, hu⟩ : ∃ u, u = (x + z + y) / 4294967296 := ⟨_, rfl⟩
      have hu1 : u ≤ 1 := by omega
      rw [← hv, ← hu] at hnx
      rw [← hv] at hbn hgn
      have HV := Lib.hid hv
      have HU := Lib.hid hu
      have H1 := Lib.hid hnx
      have H2 := Lib.hid hbn
      have H3 := Lib.hid hgn
      clear hv hu hnx hbn hgn hA hB hg hx hz hcl hsl hr hr2 hcell hoff hL
      go_wp2_with fail
      refine (add32_c x z y _ hx1 hz1 hy).mono ?_
      rw [← HV.out, ← HU.out]
      rintro e w2 ⟨rfl, rfl⟩
      go_wp2
      go_roundw
      case measure => simp [intOf]; omega
      case rel => exact ⟨k + 1, u, _, rfl, by go_num, by omega, hu1, H1.out, H2.out, H3.out⟩
    · obtain rfl : k = n := by omega
      have hover := hA.over HBL.out HCL.out hsc HF.out
      have hx1 := small_get hsc k
      obtain ⟨x, hx⟩ : ∃ x, x = cs0.getD k 0 := ⟨_, rfl⟩
      have hcx : wr.cell? ⟨g, o + k, none⟩ = some (.int .u32 (x : Int)) := by
        rw [hB.cell _ (by omega), splice_get (by omega) (by omega), getD_drop_eq hA.rest, ← hx]
      have hfx : wr.frozen? ⟨g, o + k, none⟩ = false := hB.frozen _
      rw [← hx] at hover hx1
      obtain ⟨v, hv⟩ : ∃ v, v = (x + y) % 4294967296 := ⟨_, rfl⟩
      have hv1 : v < 4294967296 := by omega
      have hvi : ((x : Int) + (y : Int)) % 4294967296 = (v : Int) := by omega
      rw [← hv] at hover
      have hbn := hB.set_ (o + k) v hv1
      rw [splice_set (by omega) (by omega)] at hbn
      have hgn := grown_setCell hg (p := ⟨g, o + k, none⟩) (.inl rfl) (.int .u32 (v : Int))
      have H1 := Lib.hid (show SetPost w g L o (k + 1) (val cs0 + val ys - pw (k + 1)) (.returned (.tuple #[])) (wr.setCell ⟨g, o + k, none⟩ (.int .u32 (v : Int))) from ⟨rfl, hgn, _, by rw [List.length_set]; exact hcl, small_set hA.sm _ _ hv1, hover, hbn⟩)
      clear hv hover hbn hgn hA hB hg hx hcl hsl hr hoff hL
      go_wp2
      go_end0
      exact H1.out
end Go.Proofs.Ytbblckaplddggaa

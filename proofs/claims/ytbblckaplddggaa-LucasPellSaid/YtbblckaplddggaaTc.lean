import Derived.Test.YtbblckaplddggaaTb
namespace Go.Proofs.Ytbblckaplddggaa
open Go.RowKit

/-- a digit of the quotient, and the rest in place of the words -/
def OncePost (w : World) (g : Nat) (L : List Nat) (o n q r : Nat) (e : Ending) (w' : World) : Prop :=
  e = .returned (.int .u32 (q : Int)) ∧ w.grownBy w' (some g) ∧ ∃ cs, cs.length = n ∧ small cs ∧ val cs = r ∧ Bk w' g (splice L o cs)

theorem once_exact {X V F R : Nat} (hG : Guessed V X F) (hV : 0 < V) (h : R + F * V = X) : F = X / V ∧ R = X % V := by
  have h1 := Nat.div_add_mod X V
  have h2 := Nat.mod_lt X hV
  have hF : F = X / V := by
    rcases Nat.lt_or_ge (X / V) F with h3 | h3
    · exfalso
      have : (X / V + 1) * V ≤ F * V := Nat.mul_le_mul_right V h3
      rw [Nat.add_mul, Nat.one_mul, Nat.mul_comm (X / V)] at this
      omega
    · exact Nat.le_antisymm h3 hG.ge
  subst hF
  rw [Nat.mul_comm] at h
  exact ⟨rfl, by omega⟩
theorem once_over {X V F R M : Nat} (hG : Guessed V X F) (hV : 0 < V) (hR : R < M) (h : R + F * V = X + M) : 1 ≤ F ∧ F - 1 = X / V ∧ M ≤ R + V ∧ R + V - M = X % V := by
  have h1 := Nat.div_add_mod X V
  have h2 := Nat.mod_lt X hV
  have g1 := hG.ge
  have g2 := hG.le
  generalize X / V = q at *
  generalize X % V = r at *
  have hF : F = q + 1 := by
    rcases Nat.lt_or_ge q F with h3 | h3
    · omega
    · exfalso
      have : F * V ≤ q * V := Nat.mul_le_mul_right V h3
      rw [Nat.mul_comm q] at this
      omega
  rw [hF, Nat.add_mul, Nat.one_mul, Nat.mul_comm q] at h
  omega
theorem splice_again {L cs ds : List Nat} {o : Nat} (ho : o + cs.length ≤ L.length) (h : ds.length = cs.length) : splice (splice L o cs) o ds = splice L o ds := by
  have e1 : (L.take o).length = o := by rw [List.length_take]; omega
  have e2 : (L.take o ++ cs).length = o + cs.length := by rw [List.length_append, e1]
  have t1 : (L.take o ++ cs ++ L.drop (o + cs.length)).take o = L.take o := by rw [List.append_assoc]; exact List.take_left' e1
  have t2 : (L.take o ++ cs ++ L.drop (o + cs.length)).drop (o + cs.length) = L.drop (o + cs.length) := List.drop_left' e2
  simp only [splice]
  rw [h, t1, t2]

set_option maxHeartbeats 2000000 in
set_option maxRecDepth 100000 in
theorem divideOnce_c (g o m c : Nat) (L : List Nat) (B : Option Addr) (d : Nat) (ys : List Nat) (w : World) (hL : Bk w g L) (ho : o + (m + 3) ≤ L.length) (hr : Rd w B (m + 2) ys) (hoff : Off B g)
    (hm : m ≤ 17592186044416) (hb1 : 0 < ys.getD (m + 1) 0) (hlt : val ((L.drop o).take (m + 3)) < 4294967296 * val ys) :
    Calls Try.prog 110 #[.slice (some ⟨g, o, none⟩) (m + 3) c, .slice B (m + 2) d] w (OncePost w g L o (m + 3) (val ((L.drop o).take (m + 3)) / val ys) (val ((L.drop o).take (m + 3)) % val ys)) := by
  have hrd := hL.rdAt ho
  have HGC := Lib.hid (guess_c (some ⟨g, o, none⟩) B m c d _ ys w hrd hr hm hb1 hlt)
  have HVp := Lib.hid (show 0 < val ys by
    have := val_top hr.len
    have h2 : 0 < (ys.getD (m + 1) 0 * 4294967296 + ys.getD m 0) * pw m := Nat.mul_pos (by omega) (pw_pos m)
    omega)
  obtain ⟨cs0, hcs0⟩ : ∃ cs0, cs0 = (L.drop o).take (m + 3) := ⟨_, rfl⟩
  have hcl : cs0.length = m + 3 := by subst hcs0; simp; omega
  have hsc : small cs0 := by subst hcs0; exact small_take (small_drop hL.1 _) _
  have hsp : splice L o cs0 = L := by subst hcs0; exact splice_self ho
  rw [← hcs0] at HGC ⊢
  have hb := hr.sm
  have HCL := Lib.hid hcl
  have HBL := Lib.hid hr.len
  have HSP := Lib.hid hsp
  clear hcs0 hcl hsp hrd hb1 hlt
  go_enter Try.func110, Try.ntmps110
  go_wp2_with fail
  refine HGC.out.mono ?_
  rintro e w1 ⟨F, rfl, hG, q0, rfl⟩
  have hF := hG.lt
  have HG := Lib.hid hG
  have HL := Lib.hid (hL.drewN q0)
  have HR := Lib.hid (hr.drewN q0)
  have HW := Lib.hid (show w.grownBy (w.drewN q0) (some g) from ⟨rfl, rfl, rfl, Nat.le_refl _, fun _ _ _ => rfl⟩)
  clear hG HGC hL hr
  go_wp2_with fail
  go_loopw [6, 7, 17] (fun cy bo i wr => ∃ k y u : Nat, ∃ cs, cy = .int .u64 y ∧ bo = .int .u32 u ∧ i = .int .i64 k ∧ k ≤ m + 2 ∧ MulSub cs0 ys F k cs y u ∧ Bk wr g (splice L o cs) ∧ Rd wr B (m + 2) ys ∧ w.grownBy wr (some g)) (fun _ _ i _ => m + 2 - (intOf i).toNat)
  case atStart => exact ⟨0, 0, 0, cs0, rfl, rfl, rfl, by omega, MulSub.start ys F hsc, by rw [HSP.out]; exact HL.out, HR.out, HW.out⟩
  case round =>
    obtain ⟨k, y, u, cs, rfl, rfl, rfl, hk, hA, hB, hR, hg⟩ := hrel
    clear HL HR HW
    have hcl : cs.length = m + 3 := hA.len.trans HCL.out
    have hsl := splice_len (L := L) (o := o) (cs := cs) (by omega)
    have hy1 := hA.lt
    have hu1 := hA.bo
    by_cases hkm : k < m + 2
    · obtain ⟨x, hx⟩ : ∃ x, x = cs0.getD k 0 := ⟨_, rfl⟩
      obtain ⟨z, hz⟩ : ∃ z, z = ys.getD k 0 := ⟨_, rfl⟩
      have hx1 := small_get hsc k
      have hz1 := small_get hb k
      have hcx : wr.cell? ⟨g, o + k, none⟩ = some (.int .u32 (x : Int)) := by
        rw [hB.cell _ (by omega), splice_get (by omega) (by omega), getD_drop_eq hA.rest, ← hx]
      have hfx : wr.frozen? ⟨g, o + k, none⟩ = false := hB.frozen _
      obtain ⟨bb, q, rfl, hbb, hcell⟩ := hR.of (by omega)
      have hcz := hcell k hkm
      rw [← hz] at hcz hz1
      rw [← hx] at hx1
      have hnx := hA.next hF hsc hb (by have := HBL.out; omega) (by have := HBL.out; have := HCL.out; omega)
      rw [← hx, ← hz] at hnx
      have hT := mul_word hF hz1 hy1
      obtain ⟨P, hP⟩ : ∃ P, P = F * z := ⟨_, rfl⟩
      have hP2 : (F : Int) * (z : Int) = (P : Int) := by rw [hP, Int.natCast_mul]
      rw [← hP] at hnx hT
      have hP3 : IntKind.u64.wrap (P : Int) = (P : Int) := by rw [IntKind.wrap_u64]; omega
      obtain ⟨T, hTd⟩ : ∃ T, T = P + y := ⟨_, rfl⟩
      have hT2 : (P : Int) + (y : Int) = (T : Int) := by omega
      rw [← hTd] at hnx hT
      obtain ⟨s, hs⟩ : ∃ s, s = T % 4294967296 := ⟨_, rfl⟩
      obtain ⟨y', hy'⟩ : ∃ y', y' = T / 4294967296 := ⟨_, rfl⟩
      have hs1 : s < 4294967296 := by omega
      have hs2 : (T : Int) % 4294967296 = (s : Int) := by omega
      have hy2 : (T : Int) / 4294967296 = (y' : Int) := by omega
      rw [← hs, ← hy'] at hnx
      obtain ⟨v, hv⟩ : ∃ v, v = (x + 4294967296 - s - u) % 4294967296 := ⟨_, rfl⟩
      obtain ⟨u', hu'⟩ : ∃ u', u' = (if x < s + u then 1 else 0 : Nat) := ⟨_, rfl⟩
      have hv1 : v < 4294967296 := by omega
      rw [← hv, ← hu'] at hnx
      have hbn := hB.set_ (o + k) v hv1
      rw [splice_set (by omega) (by omega)] at hbn
      have hgn := grown_setCell hg (p := ⟨g, o + k, none⟩) (.inl rfl) (.int .u32 (v : Int))
      have hrn := hR.grown (w' := wr.setCell ⟨g, o + k, none⟩ (.int .u32 (v : Int))) (g := g) (grown_setCell (g := g) ⟨rfl, rfl, rfl, Nat.le_refl _, fun _ _ _ => rfl⟩ (.inl rfl) _) (fun _ => hoff)
      have HV := Lib.hid hv
      have HU := Lib.hid hu'
      have H1 := Lib.hid hnx
      have H2 := Lib.hid hbn
      have H3 := Lib.hid hgn
      have H4 := Lib.hid hrn
      clear hv hu' hnx hbn hgn hrn hA hB hg hx hz hcl hsl hR hcell hP hTd hs hy' 
      go_wp2_with fail
      refine (sub32_c x s u _ hx1 hs1 hu1).mono ?_
      rw [← HV.out, ← HU.out]
      rintro e w2 ⟨rfl, rfl⟩
      go_wp2
      go_roundw
      case measure => simp [intOf]; omega
      case rel => exact ⟨k + 1, y', u', _, rfl, rfl, by go_num, by omega, H1.out, H2.out, H4.out, H3.out⟩
    · obtain rfl : k = m + 2 := by omega
      have htop := (by rw [HBL.out]; exact hA : MulSub cs0 ys F ys.length cs y u).top hsc (by rw [HCL.out, HBL.out])
      rw [HBL.out, HCL.out] at htop
      obtain ⟨x, hx⟩ : ∃ x, x = cs0.getD (m + 2) 0 := ⟨_, rfl⟩
      have hx1 := small_get hsc (m + 2)
      have hcx : wr.cell? ⟨g, o + (m + 2), none⟩ = some (.int .u32 (x : Int)) := by
        rw [hB.cell _ (by omega), splice_get (by omega) (by omega), getD_drop_eq hA.rest, ← hx]
      have hfx : wr.frozen? ⟨g, o + (m + 2), none⟩ = false := hB.frozen _
      rw [← hx] at hx1 htop
      obtain ⟨v, hv⟩ : ∃ v, v = (x + 4294967296 - y - u) % 4294967296 := ⟨_, rfl⟩
      have hv1 : v < 4294967296 := by omega
      rw [← hv] at htop
      have hbn := hB.set_ (o + (m + 2)) v hv1
      rw [splice_set (by omega) (by omega)] at hbn
      have hgn := grown_setCell hg (p := ⟨g, o + (m + 2), none⟩) (.inl rfl) (.int .u32 (v : Int))
      have hrn := hR.grown (w' := wr.setCell ⟨g, o + (m + 2), none⟩ (.int .u32 (v : Int))) (g := g) (grown_setCell (g := g) ⟨rfl, rfl, rfl, Nat.le_refl _, fun _ _ _ => rfl⟩ (.inl rfl) _) (fun _ => hoff)
      have hsm2 := small_set hA.sm (m + 2) v hv1
      have hcl2 : (cs.set (m + 2) v).length = m + 3 := by rw [List.length_set]; exact hcl
      have hyI : IntKind.u32.wrap (y : Int) = (y : Int) := by show (y : Int) % 4294967296 = _; omega
      have hyI2 : (y : Int) % 4294967296 = (y : Int) := by omega
      have HV := Lib.hid hv
      have H2 := Lib.hid hbn
      have H3 := Lib.hid hgn
      have H4 := Lib.hid hrn
      have H5 := Lib.hid hsm2
      have H6 := Lib.hid hcl2
      clear hv hbn hgn hrn hA hB hg hx hcl hR hsm2 hcl2
      by_cases hb0 : x < y + u
      · rw [if_pos hb0, Nat.mul_one] at htop
        have hM := val_lt H5.out
        rw [H6.out] at hM
        obtain ⟨f1, f2, f3, f4⟩ := once_over HG.out HVp.out hM htop
        have HB0 := Lib.hid (show (if x < y + u then 1 else 0 : Nat) = 1 from if_pos hb0)
        have K1 := Lib.hid f2
        have K2 := Lib.hid f3
        have K3 := Lib.hid f4
        clear hb0 htop hM f2 f3 f4
        go_wp2_with fail
        refine (sub32_c x y u _ hx1 hy1 hu1).mono ?_
        rw [← HV.out, HB0.out]
        rintro e w2 ⟨rfl, rfl⟩
        go_wp2_with fail
        have hpart := splice_part (L := L) (o := o) (cs := cs.set (m + 2) v) (by omega)
        rw [H6.out] at hpart
        have HP := Lib.hid hpart
        clear hpart
        have hsl2 := splice_len (L := L) (o := o) (cs := cs.set (m + 2) v) (by rw [H6.out]; exact ho)
        have gb := giveBack_c g o (m + 2) c _ B d ys _ H2.out (by rw [hsl2]; exact ho) H4.out (fun _ => hoff) (by omega) (by rw [HP.out]; exact K2.out)
        rw [HP.out, K3.out] at gb
        refine gb.mono ?_
        rintro e w3 ⟨rfl, g2, ds, d1, d2, d3, d4⟩
        rw [splice_again (by rw [H6.out]; exact ho) (by rw [H6.out]; exact d1)] at d4
        have G4 := Lib.hid (grown_trans H3.out g2)
        have G5 := Lib.hid d4
        clear gb g2 d4 hsl2
        go_wp2
        go_ret
        exact ⟨by rw [← K1.out, Int.natCast_sub f1]; rfl, G4.out, ds, d1, d2, d3, G5.out⟩
      · rw [if_neg hb0, Nat.mul_zero, Nat.add_zero] at htop
        obtain ⟨f1, f2⟩ := once_exact HG.out HVp.out htop
        have HB0 := Lib.hid (show (if x < y + u then 1 else 0 : Nat) = 0 from if_neg hb0)
        have K1 := Lib.hid f1
        have K2 := Lib.hid f2
        clear hb0 htop f1 f2
        go_wp2_with fail
        refine (sub32_c x y u _ hx1 hy1 hu1).mono ?_
        rw [← HV.out, HB0.out]
        rintro e w2 ⟨rfl, rfl⟩
        go_wp2
        go_ret
        exact ⟨by rw [← K1.out]; rfl, H3.out, _, H6.out, H5.out, K2.out, H2.out⟩
end Go.Proofs.Ytbblckaplddggaa

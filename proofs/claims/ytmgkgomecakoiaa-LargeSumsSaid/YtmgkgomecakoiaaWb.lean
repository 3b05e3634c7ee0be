import Derived.Test.YtmgkgomecakoiaaMem
namespace Go.Proofs.Ytmgkgomecakoiaa
open Go.RowKit

/-- what is left of a call that writes words at a place of a block -/
def SetPost (w : World) (g : Nat) (L : List Nat) (o n : Nat) (v : Nat) (e : Ending) (w' : World) : Prop :=
  e = .returned (.tuple #[]) ∧ w.grownBy w' (some g) ∧ ∃ cs, cs.length = n ∧ small cs ∧ val cs = v ∧ Bk w' g (splice L o cs)

set_option maxHeartbeats 400000 in
theorem addTo_c (g o n c : Nat) (L : List Nat) (B : Option Addr) (m d : Nat) (ys : List Nat) (w : World) (hL : Bk w g L) (ho : o + n ≤ L.length) (hr : Rd w B m ys) (hoff : 0 < m → Off B g) (hm : m ≤ n)
    (hc2 : n ≤ 9223372036854775800) (hd2 : m ≤ 9223372036854775800) (hf : val ((L.drop o).take n) + val ys < pw n) :
    Calls Try.prog 77 #[.slice (some ⟨g, o, none⟩) n c, .slice B m d] w (SetPost w g L o n (val ((L.drop o).take n) + val ys)) := by
  obtain ⟨cs0, hcs0⟩ : ∃ cs0, cs0 = (L.drop o).take n := ⟨_, rfl⟩
  have hcl : cs0.length = n := by subst hcs0; simp; omega
  have hsc : small cs0 := by subst hcs0; exact small_take (small_drop hL.1 _) _
  have hsp : splice L o cs0 = L := by subst hcs0; exact splice_self ho
  rw [← hcs0] at hf ⊢
  have hb := hr.sm
  have hbl := hr.len
  have HCL := Lib.hid hcl
  have HBL := Lib.hid hbl
  have HSP := Lib.hid hsp
  clear hcs0 hcl hsp hbl
  go_enter Try.func77, Try.ntmps77
  go_wp2
  go_loopw [4, 5] (fun cy i wr => ∃ k y : Nat, ∃ cs, cy = .int .u64 y ∧ i = .int .i64 k ∧ k ≤ n ∧ y ≤ 1 ∧ AddAt cs0 ys k cs y ∧ Bk wr g (splice L o cs) ∧ w.grownBy wr (some g)) (fun _ i _ => n - (intOf i).toNat)
  case atStart => exact ⟨0, 0, cs0, rfl, rfl, by omega, by omega, AddAt.start ys hsc, by rw [HSP.out]; exact hL, ⟨rfl, rfl, rfl, Nat.le_refl _, fun _ _ _ => rfl⟩⟩
  case round =>
    obtain ⟨k, y, cs, rfl, rfl, hk, hy, hA, hB, hg⟩ := hrel
    have hcl : cs.length = n := hA.len.trans HCL.out
    have hsl := splice_len (L := L) (o := o) (cs := cs) (by omega)
    by_cases hkm : k < m
    · obtain ⟨x, hx⟩ : ∃ x, x = cs0.getD k 0 := ⟨_, rfl⟩
      obtain ⟨z, hz⟩ : ∃ z, z = ys.getD k 0 := ⟨_, rfl⟩
      have hx1 := small_get hsc k
      have hz1 := small_get hb k
      have hcx : wr.cell? ⟨g, o + k, none⟩ = some (.int .u32 (x : Int)) := by
        rw [hB.cell _ (by omega), splice_get (by omega) (by omega), getD_drop_eq hA.rest, ← hx]
      have hfx : wr.frozen? ⟨g, o + k, none⟩ = false := hB.frozen _
      have hr2 := hr.grown hg hoff
      obtain ⟨bb, q, rfl, hbb, hcell⟩ := hr2.of (by omega)
      have hcz := hcell k hkm
      rw [← hz] at hcz hz1
      rw [← hx] at hx1
      have hnx := hA.next hsc hb (by have := HCL.out; omega)
      rw [← hx, ← hz] at hnx
      have hbn := hB.set_ (o + k) ((x + y + z) % 4294967296) (by omega)
      rw [splice_set (by omega) (by omega)] at hbn
      have hgn := grown_setCell hg (p := ⟨g, o + k, none⟩) (.inl rfl) (.int .u32 (((x + y + z) % 4294967296 : Nat) : Int))
      have hv : (((x + y + z) % 4294967296 : Nat) : Int) = ((x : Int) + y + z) % 4294967296 := by omega
      rw [hv] at hbn hgn
      have H1 := Lib.hid hnx
      have H2 := Lib.hid hbn
      have H3 := Lib.hid hgn
      clear hv hnx hbn hgn hA hB hg hx hz hcl hsl hr hr2 hcell hoff
      go_wp2
      go_roundw
      case measure => simp [intOf]; omega
      case rel => exact ⟨k + 1, (x + y + z) / 4294967296, _, by simp, by go_num, by omega, by omega, H1.out, H2.out, H3.out⟩
    · by_cases hy0 : y = 0
      · subst hy0
        have hd := hA.done (by have := HBL.out; omega)
        have H1 := Lib.hid (show SetPost w g L o n (val cs0 + val ys) (.returned (.tuple #[])) wr from ⟨rfl, hg, cs, hcl, hA.sm, hd, hB⟩)
        clear hd hA hB hg hcl hsl hr hoff
        go_wp2
        go_end0
        exact H1.out
      · have hkn : k < n := by
          rcases Nat.lt_or_ge k n with h1 | h1
          · exact h1
          · exact absurd (hA.stop (by rw [HCL.out]; exact hf) (by rw [HCL.out]; exact h1) (by rw [HBL.out]; omega)) hy0
        obtain ⟨x, hx⟩ : ∃ x, x = cs0.getD k 0 := ⟨_, rfl⟩
        have hx1 := small_get hsc k
        have hcx : wr.cell? ⟨g, o + k, none⟩ = some (.int .u32 (x : Int)) := by
          rw [hB.cell _ (by omega), splice_get (by omega) (by omega), getD_drop_eq hA.rest, ← hx]
        have hfx : wr.frozen? ⟨g, o + k, none⟩ = false := hB.frozen _
        have hz : ys.getD k 0 = 0 := by rw [List.getD_eq_getElem?_getD, List.getElem?_eq_none (by rw [HBL.out]; omega)]; rfl
        rw [← hx] at hx1
        have hnx := hA.next hsc hb (by have := HCL.out; omega)
        rw [← hx, hz, Nat.add_zero] at hnx
        have hbn := hB.set_ (o + k) ((x + y) % 4294967296) (by omega)
        rw [splice_set (by omega) (by omega)] at hbn
        have hgn := grown_setCell hg (p := ⟨g, o + k, none⟩) (.inl rfl) (.int .u32 (((x + y) % 4294967296 : Nat) : Int))
        have hv : (((x + y) % 4294967296 : Nat) : Int) = ((x : Int) + y) % 4294967296 := by omega
        rw [hv] at hbn hgn
        have t : ((y : Int) != 0) = true := by rw [bne_iff_ne]; omega
        have H1 := Lib.hid hnx
        have H2 := Lib.hid hbn
        have H3 := Lib.hid hgn
        clear hv hnx hbn hgn hA hB hg hx hz hcl hsl hr hoff
        go_wp2
        go_roundw
        case measure => simp [intOf]; omega
        case rel => exact ⟨k + 1, (x + y) / 4294967296, _, by simp, by go_num, by omega, by omega, H1.out, H2.out, H3.out⟩
end Go.Proofs.Ytmgkgomecakoiaa

import Derived.Test.YtmgkgomecakoiaaWa
import Derived.Test.YtmgkgomecakoiaaWb
import Derived.Test.YtmgkgomecakoiaaWd
namespace Go.Proofs.Ytmgkgomecakoiaa
open Go.RowKit

set_option maxHeartbeats 800000 in
theorem takeFrom_c (g o n c : Nat) (L : List Nat) (B : Option Addr) (m d : Nat) (ys : List Nat) (w : World) (hL : Bk w g L) (ho : o + n ≤ L.length) (hr : Rd w B m ys) (hoff : 0 < m → Off B g) (hm : m ≤ n)
    (hc2 : n ≤ 9223372036854775800) (hd2 : m ≤ 9223372036854775800) (hf : val ys ≤ val ((L.drop o).take n)) :
    Calls Try.prog 82 #[.slice (some ⟨g, o, none⟩) n c, .slice B m d] w (SetPost w g L o n (val ((L.drop o).take n) - val ys)) := by
  obtain ⟨cs0, hcs0⟩ : ∃ cs0, cs0 = (L.drop o).take n := ⟨_, rfl⟩
  have hcl : cs0.length = n := by subst hcs0; simp; omega
  have hsc : small cs0 := by subst hcs0; exact small_take (small_drop hL.1 _) _
  have hsp : splice L o cs0 = L := by subst hcs0; exact splice_self ho
  rw [← hcs0] at hf ⊢
  have hb := hr.sm
  have hbl := hr.len
  have HCL := Lib.hid hcl
  have HBL := Lib.hid hbl
  have HSP := Lib.hid hsp
  clear hcs0 hcl hsp hbl
  go_enter Try.func82, Try.ntmps82
  go_wp2
  go_loopw [4, 5] (fun cy i wr => ∃ k y : Nat, ∃ cs, cy = .int .u32 y ∧ i = .int .i64 k ∧ k ≤ n ∧ y ≤ 1 ∧ SubAt cs0 ys k cs y ∧ Bk wr g (splice L o cs) ∧ w.grownBy wr (some g)) (fun _ i _ => n - (intOf i).toNat)
  case atStart => exact ⟨0, 0, cs0, rfl, rfl, by omega, by omega, SubAt.start ys hsc, by rw [HSP.out]; exact hL, ⟨rfl, rfl, rfl, Nat.le_refl _, fun _ _ _ => rfl⟩⟩
  case round =>
    obtain ⟨k, y, cs, rfl, rfl, hk, hy, hA, hB, hg⟩ := hrel
    have hcl : cs.length = n := hA.len.trans HCL.out
    have hsl := splice_len (L := L) (o := o) (cs := cs) (by omega)
    by_cases hkm : k < m
    · obtain ⟨x, hx⟩ : ∃ x, x = cs0.getD k 0 := ⟨_, rfl⟩
      obtain ⟨z, hz⟩ : ∃ z, z = ys.getD k 0 := ⟨_, rfl⟩
      have hx1 := small_get hsc k
      have hz1 := small_get hb k
      have hcx : wr.cell? ⟨g, o + k, none⟩ = some (.int .u32 (x : Int)) := by
        rw [hB.cell _ (by omega), splice_get (by omega) (by omega), getD_drop_eq hA.rest, ← hx]
      have hfx : wr.frozen? ⟨g, o + k, none⟩ = false := hB.frozen _
      have hr2 := hr.grown hg hoff
      obtain ⟨bb, q, rfl, hbb, hcell⟩ := hr2.of (by omega)
      have hcz := hcell k hkm
      rw [← hz] at hcz hz1
      rw [← hx] at hx1
      have hnx := hA.next hsc hb (by have := HCL.out; omega)
      rw [← hx, ← hz] at hnx
      have hbn := hB.set_ (o + k) ((x + 4294967296 - z - y) % 4294967296) (by omega)
      rw [splice_set (by omega) (by omega)] at hbn
      have hgn := grown_setCell hg (p := ⟨g, o + k, none⟩) (.inl rfl) (.int .u32 (((x + 4294967296 - z - y) % 4294967296 : Nat) : Int))
      have hle : (if x < z + y then 1 else 0 : Nat) ≤ 1 := by split <;> omega
      obtain ⟨y', hy'⟩ : ∃ y' : Nat, y' = (if x < z + y then 1 else 0 : Nat) := ⟨_, rfl⟩
      obtain ⟨r, hr'⟩ : ∃ r : Nat, r = (x + 4294967296 - z - y) % 4294967296 := ⟨_, rfl⟩
      have HC := Lib.hid (fun w => sub32_c x z y w hx1 hz1 hy)
      rw [← hy'] at hle hnx HC
      rw [← hr'] at hnx hbn hgn HC
      have H1 := Lib.hid hnx
      have H2 := Lib.hid hbn
      have H3 := Lib.hid hgn
      clear hy' hr' hnx hbn hgn hA hB hg hx hz hcl hsl hr hr2 hcell hoff
      go_wp2_with (go_at_call 89; refine (HC.out _).mono ?_; rintro e w' ⟨rfl, rfl⟩)
      go_roundw
      case measure => simp [intOf]; omega
      case rel => exact ⟨k + 1, y', _, rfl, by go_num, by omega, hle, H1.out, H2.out, H3.out⟩
    · by_cases hy0 : y = 0
      · subst hy0
        have hd := hA.done (by have := HBL.out; omega)
        have H1 := Lib.hid (show SetPost w g L o n (val cs0 - val ys) (.returned (.tuple #[])) wr from ⟨rfl, hg, cs, hcl, hA.sm, hd, hB⟩)
        clear hd hA hB hg hcl hsl hr hoff
        go_wp2
        go_end0
        exact H1.out
      · have hkn : k < n := by
          rcases Nat.lt_or_ge k n with h1 | h1
          · exact h1
          · exact absurd (hA.stop (by omega) (by rw [HCL.out]; exact h1) (by rw [HBL.out]; omega)) hy0
        obtain ⟨x, hx⟩ : ∃ x, x = cs0.getD k 0 := ⟨_, rfl⟩
        have hx1 := small_get hsc k
        have hcx : wr.cell? ⟨g, o + k, none⟩ = some (.int .u32 (x : Int)) := by
          rw [hB.cell _ (by omega), splice_get (by omega) (by omega), getD_drop_eq hA.rest, ← hx]
        have hfx : wr.frozen? ⟨g, o + k, none⟩ = false := hB.frozen _
        have hz : ys.getD k 0 = 0 := by rw [List.getD_eq_getElem?_getD, List.getElem?_eq_none (by rw [HBL.out]; omega)]; rfl
        rw [← hx] at hx1
        have hnx := hA.next hsc hb (by have := HCL.out; omega)
        rw [← hx, hz] at hnx
        have hbn := hB.set_ (o + k) ((x + 4294967296 - 0 - y) % 4294967296) (by omega)
        rw [splice_set (by omega) (by omega)] at hbn
        have hgn := grown_setCell hg (p := ⟨g, o + k, none⟩) (.inl rfl) (.int .u32 (((x + 4294967296 - 0 - y) % 4294967296 : Nat) : Int))
        have hle : (if x < 0 + y then 1 else 0 : Nat) ≤ 1 := by split <;> omega
        obtain ⟨y', hy'⟩ : ∃ y' : Nat, y' = (if x < 0 + y then 1 else 0 : Nat) := ⟨_, rfl⟩
        obtain ⟨r, hr'⟩ : ∃ r : Nat, r = (x + 4294967296 - 0 - y) % 4294967296 := ⟨_, rfl⟩
        have hC := fun w => sub32_c x 0 y w hx1 (by omega) hy
        rw [← hy'] at hle hnx hC
        rw [← hr'] at hnx hbn hgn hC
        have HC : Hid (∀ w, Calls Try.prog 89 #[.int .u32 (x : Int), .int .u32 0, .int .u32 (y : Int)] w fun e w' => e = .returned (.tuple #[.int .u32 (r : Int), .int .u32 (y' : Int)]) ∧ w' = w) := hC
        have t : ((y : Int) != 0) = true := by rw [bne_iff_ne]; omega
        have H1 := Lib.hid hnx
        have H2 := Lib.hid hbn
        have H3 := Lib.hid hgn
        clear hC hy' hr' hnx hbn hgn hA hB hg hx hz hcl hsl hr hoff
        go_wp2_with (go_at_call 89; refine (HC.out _).mono ?_; rintro e w' ⟨rfl, rfl⟩)
        go_roundw
        case measure => simp [intOf]; omega
        case rel => exact ⟨k + 1, y', _, rfl, by go_num, by omega, hle, H1.out, H2.out, H3.out⟩

set_option maxHeartbeats 400000 in
theorem clone_c (A : Option Addr) (n c : Nat) (xs : List Nat) (w : World) (h : Rd w A n xs) (hn : n ≤ 70368744177664) :
    Calls Try.prog 66 #[.slice A n c] w (New w xs) := by
  have hmk := mk_words n hn
  have HL := Lib.hid h.len
  go_enter Try.func66, Try.ntmps66
  go_wp2_with (with_reducible refine wpList_copy_words rfl (.tmp 7) (.tmp 8) rfl _ _ _ _ _ _ rfl rfl w.heap.size 0 _ xs (Bk.new0 w n) (h.alloc _) rfl (Nat.le_refl _) (by simp) ?_; intro w1 hb hg)
  have HB := Lib.hid hb
  have HG := Lib.hid hg
  clear hb hg
  go_ret
  refine ⟨w.heap.size, by rw [HL.out]; rfl, Nat.le_refl _, ?_, below_new HG.out⟩
  have := HB.out
  rwa [splice_all (by rw [HL.out]; simp)] at this

set_option maxHeartbeats 800000 in
theorem add_le (A B : Option Addr) (n c m d : Nat) (xs ys : List Nat) (w : World) (ha : Rd w A n xs) (hb : Rd w B m ys) (hn : n < 70368744177664) (hm : m ≤ n) :
    Calls Try.prog 59 #[.slice A n c, .slice B m d] w (Out w (val xs + val ys)) := by
  have hmk : ∀ w : World, (Instr.makeSlice 22 (.int .i64 ((n : Int) + 1)) (.int .i64 ((n : Int) + 1))).run Try.prog w = .ok (.slice (some ⟨w.heap.size, 0, none⟩) (n + 1) (n + 1)) (w.alloc (row (List.replicate (n + 1) 0))) := mk_words (n + 1) (by omega)
  have hoff : 0 < m → Off B w.heap.size := fun h a e => by have := hb.blk h a e; omega
  have HX := Lib.hid ha.len
  have HY := Lib.hid hb.len
  go_enter Try.func59, Try.ntmps59
  go_wp2_with (with_reducible refine wpList_copy_words rfl (.tmp 17) (.tmp 18) rfl _ _ _ _ _ _ rfl rfl w.heap.size 0 _ xs (Bk.new0 w (n + 1)) (ha.alloc _) rfl (by omega) (by simp) ?_; intro w1 hb1 hg1)
  have hsl : (splice (List.replicate (n + 1) 0) 0 xs).length = n + 1 := by rw [splice_len] <;> simp [HX.out]
  have hva : val (((splice (List.replicate (n + 1) 0) 0 xs).drop 0).take (n + 1)) = val xs := by
    rw [List.drop_zero, take_of_len (by omega), splice_zero, HX.out, val_append]
    simp [val]
  have hlt := val_lt ha.sm
  have hlt2 := val_lt hb.sm
  have hpw := pw_le (show ys.length ≤ xs.length by rw [HX.out, HY.out]; exact hm)
  rw [HX.out] at hlt hpw
  refine (addTo_c w.heap.size 0 (n + 1) _ _ B m d ys w1 hb1 (by omega) ((hb.alloc _).grown hg1 hoff) hoff (by omega) (by omega) (by omega) (by rw [hva, pw_succ]; omega)).mono ?_
  rintro e w2 ⟨rfl, hg2, cs, hcl, hcs, hv, hb2⟩
  rw [hva] at hv
  rw [splice_all (by omega)] at hb2
  have HV := Lib.hid hv
  have HC := Lib.hid hcl
  have HG := Lib.hid (below_new (grown_trans hg1 hg2))
  have hrd := hb2.rd
  rw [hcl] at hrd
  clear hv hva hcl hsl hlt hlt2 hpw hg1 hg2 hb1
  go_wp2_with fail
  refine (trim_c _ _ _ cs w2 hrd (Nat.le_refl _) (by omega)).mono ?_
  intro e w3 h3
  obtain ⟨A', c', rfl, r1, r2, r3, r4, r5⟩ := out_of_trim hb2 (Nat.le_refl _) HV.out HG.out (by have := HC.out; omega) h3
  have R := Lib.hid r5
  clear r5 h3
  go_wp2
  go_ret
  exact ⟨A', c', rfl, r1, r2, r3, r4, R.out⟩
set_option maxHeartbeats 800000 in
theorem add_gt (A B : Option Addr) (n c m d : Nat) (xs ys : List Nat) (w : World) (ha : Rd w A n xs) (hb : Rd w B m ys) (hn : m < 70368744177664) (hm : n < m) :
    Calls Try.prog 59 #[.slice A n c, .slice B m d] w (Out w (val xs + val ys)) := by
  rw [Nat.add_comm (val xs)]
  have hmk : ∀ w : World, (Instr.makeSlice 22 (.int .i64 ((m : Int) + 1)) (.int .i64 ((m : Int) + 1))).run Try.prog w = .ok (.slice (some ⟨w.heap.size, 0, none⟩) (m + 1) (m + 1)) (w.alloc (row (List.replicate (m + 1) 0))) := mk_words (m + 1) (by omega)
  have hoff : 0 < n → Off A w.heap.size := fun h a e => by have := ha.blk h a e; omega
  have HY := Lib.hid hb.len
  have HX := Lib.hid ha.len
  go_enter Try.func59, Try.ntmps59
  go_wp2_with (with_reducible refine wpList_copy_words rfl (.tmp 17) (.tmp 18) rfl _ _ _ _ _ _ rfl rfl w.heap.size 0 _ ys (Bk.new0 w (m + 1)) (hb.alloc _) rfl (by omega) (by simp) ?_; intro w1 hb1 hg1)
  have hsl : (splice (List.replicate (m + 1) 0) 0 ys).length = m + 1 := by rw [splice_len] <;> simp [HY.out]
  have hva : val (((splice (List.replicate (m + 1) 0) 0 ys).drop 0).take (m + 1)) = val ys := by
    rw [List.drop_zero, take_of_len (by omega), splice_zero, HY.out, val_append]
    simp [val]
  have hlt := val_lt hb.sm
  have hlt2 := val_lt ha.sm
  have hpw := pw_le (show xs.length ≤ ys.length by rw [HY.out, HX.out]; exact Nat.le_of_lt hm)
  rw [HY.out] at hlt hpw
  refine (addTo_c w.heap.size 0 (m + 1) _ _ A n c xs w1 hb1 (by omega) ((ha.alloc _).grown hg1 hoff) hoff (by omega) (by omega) (by omega) (by rw [hva, pw_succ]; omega)).mono ?_
  rintro e w2 ⟨rfl, hg2, cs, hcl, hcs, hv, hb2⟩
  rw [hva] at hv
  rw [splice_all (by omega)] at hb2
  have HV := Lib.hid hv
  have HC := Lib.hid hcl
  have HG := Lib.hid (below_new (grown_trans hg1 hg2))
  have hrd := hb2.rd
  rw [hcl] at hrd
  clear hv hva hcl hsl hlt hlt2 hpw hg1 hg2 hb1
  go_wp2_with fail
  refine (trim_c _ _ _ cs w2 hrd (Nat.le_refl _) (by omega)).mono ?_
  intro e w3 h3
  obtain ⟨A', c', rfl, r1, r2, r3, r4, r5⟩ := out_of_trim hb2 (Nat.le_refl _) HV.out HG.out (by have := HC.out; omega) h3
  have R := Lib.hid r5
  clear r5 h3
  go_wp2
  go_ret
  exact ⟨A', c', rfl, r1, r2, r3, r4, R.out⟩

theorem add_c (A B : Option Addr) (n c m d : Nat) (xs ys : List Nat) (w : World) (ha : Rd w A n xs) (hb : Rd w B m ys) (hn : n < 70368744177664) (hm : m < 70368744177664) :
    Calls Try.prog 59 #[.slice A n c, .slice B m d] w (Out w (val xs + val ys)) := by
  rcases Nat.lt_or_ge n m with h | h
  · exact add_gt A B n c m d xs ys w ha hb hm h
  · exact add_le A B n c m d xs ys w ha hb hn h

set_option maxHeartbeats 800000 in
theorem subtract_c (A B : Option Addr) (n c m d : Nat) (xs ys : List Nat) (w : World) (ha : Rd w A n xs) (hb : Rd w B m ys) (hn : n < 70368744177664) (hm : m ≤ n) (hv : val ys ≤ val xs) :
    Calls Try.prog 60 #[.slice A n c, .slice B m d] w (Out w (val xs - val ys)) := by
  have hoff : ∀ g, w.heap.size ≤ g → 0 < m → Off B g := fun g hg h a e => by have := hb.blk h a e; omega
  have HX := Lib.hid ha.len
  have HV := Lib.hid hv
  clear hv
  go_enter Try.func60, Try.ntmps60
  go_wp2_with fail
  refine (clone_c A n c xs w ha (by omega)).mono ?_
  rintro e w1 ⟨g, rfl, hg1, hb1, hw1⟩
  rw [HX.out]
  go_wp2_with fail
  have ea : (xs.drop 0).take n = xs := by rw [List.drop_zero, take_of_len (by rw [HX.out]; omega)]
  refine (takeFrom_c g 0 n _ xs B m d ys w1 hb1 (by rw [HX.out]; omega) (hb.below hw1) (hoff g hg1) hm (by omega) (by omega) (by rw [ea]; exact HV.out)).mono ?_
  rintro e w2 ⟨rfl, hg2, cs, hcl, hcs, hv, hb2⟩
  rw [ea] at hv
  rw [splice_all (by rw [HX.out]; exact hcl)] at hb2
  have HV := Lib.hid hv
  have HC := Lib.hid hcl
  have HG := Lib.hid (hw1.trans (below_of_grown hg2 hw1.size hg1))
  have hrd := hb2.rd
  rw [hcl] at hrd
  clear ea hv hcl hg2 hb1
  go_wp2_with fail
  refine (trim_c _ _ _ cs w2 hrd (Nat.le_refl _) (by omega)).mono ?_
  intro e w3 h3
  obtain ⟨A', c', rfl, r1, r2, r3, r4, r5⟩ := out_of_trim hb2 hg1 HV.out HG.out (by have := HC.out; omega) h3
  have R := Lib.hid r5
  clear r5 h3
  go_wp2
  go_ret
  exact ⟨A', c', rfl, r1, r2, r3, r4, R.out⟩
end Go.Proofs.Ytmgkgomecakoiaa

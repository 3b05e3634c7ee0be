import Derived.Test.YtmgkgomecakoiaaWe
namespace Go.Proofs.Ytmgkgomecakoiaa
open Go.RowKit
set_option maxHeartbeats 800000 in
theorem shiftUp_pos (A : Option Addr) (n c k : Nat) (xs : List Nat) (w : World) (ha : Rd w A n xs) (hn : n < 35184372088832) (h0 : 0 < n) (hk : k < 35184372088832) :
    Calls Try.prog 68 #[.slice A n c, .int .i64 (k : Int)] w (Out w (val xs * 2 ^ k)) := by
  obtain ⟨p, hp⟩ : ∃ p, p = k / 32 := ⟨_, rfl⟩
  obtain ⟨q, hq⟩ : ∃ q, q = k % 32 := ⟨_, rfl⟩
  have hq1 : q < 32 := by omega
  have hp1 : p ≤ k := by omega
  have e1 : ((k : Int) / 32) = (p : Int) := by omega
  have e2 : ((k : Int) % 32) = (q : Int) := by omega
  have hmk : ∀ w : World, (Instr.makeSlice 22 (.int .i64 ((n : Int) + p + 1)) (.int .i64 ((n : Int) + p + 1))).run Try.prog w = .ok (.slice (some ⟨w.heap.size, 0, none⟩) (n + p + 1) (n + p + 1)) (w.alloc (row (List.replicate (n + p + 1) 0))) := mk_words (n + p + 1) (by omega)
  have HK := Lib.hid (show k = 32 * p + q by omega)
  have HL := Lib.hid ha.len
  clear hp hq
  have hs := ha.sm
  obtain ⟨b, o, rfl, hb, hcell⟩ := ha.of h0
  have t : ((n : Int) == 0) = false := by rw [beq_eq_false_iff_ne]; omega
  go_enter Try.func68, Try.ntmps68
  go_wp2
  simp only [e2]
  clear hmk e1 e2
  go_loopw [8, 27] (fun cy i wr => ∃ j y : Nat, ∃ L, cy = .int .u64 y ∧ i = .int .i64 j ∧ j ≤ n ∧ y < 4294967296 ∧ UpAt xs p q (n + p + 1) j L y ∧ Bk wr w.heap.size L ∧ Below w.heap.size w wr) (fun _ i _ => n - (intOf i).toNat)
  case atStart => exact ⟨0, 0, _, rfl, rfl, by omega, by omega, UpAt.start xs p q _, Bk.new0 _ _, (Below.refl _ _).alloc (Nat.le_refl _) _⟩
  case round =>
    obtain ⟨j, y, L, rfl, rfl, hj, hy, hU, hB, hW⟩ := hrel
    have hlen := hU.len
    by_cases hjn : j < n
    · have hcj := (hW.cell (p := ⟨b, o + j, none⟩) hb).trans (hcell j hjn)
      have hcx := hB.cell (p + j) (by omega)
      have hfx := hB.frozen (p + j)
      have hnx := hU.next hs (by omega)
      have hx1 := small_get hs j
      obtain ⟨x, hx2⟩ : ∃ x, x = xs.getD j 0 := ⟨_, rfl⟩
      rw [← hx2] at hcj hx1 hnx
      have hlt := hU.lt
      have hxq := mul_two_lt hx1 hq1
      have h2q := two_le hq1
      obtain ⟨z, hz⟩ : ∃ z, z = x * 2 ^ q + y := ⟨_, rfl⟩
      have hz1 : z < 18446744073709551616 := by omega
      have hor : bits BinOp.or IntKind.u64 (IntKind.u64.wrap ((x : Int) * 2 ^ q)) (y : Int) = (z : Int) := by
        have e3 : ((x : Int) * 2 ^ q) = ((x * 2 ^ q : Nat) : Int) := by push_cast; rfl
        rw [e3, IntKind.wrap_u64, show ((x * 2 ^ q : Nat) : Int) % 18446744073709551616 = ((x * 2 ^ q : Nat) : Int) by omega, u64_or_nat _ _ (by omega) (by omega), or_low _ _ _ hlt, hz]
      rw [← hz] at hnx
      have hbn := hB.set_ (p + j) (z % 4294967296) (by omega)
      have hwn := hW.setCell (p := ⟨w.heap.size, p + j, none⟩) (Nat.le_refl _) (.int .u32 ((z % 4294967296 : Nat) : Int))
      have hv : ((z % 4294967296 : Nat) : Int) = (z : Int) % 4294967296 := by omega
      rw [hv] at hbn hwn
      have HZ := Lib.hid (show z / 4294967296 < 4294967296 by omega)
      have H1 := Lib.hid hnx
      have H2 := Lib.hid hbn
      have H3 := Lib.hid hwn
      clear hv hnx hbn hwn hx2 hz hxq h2q hlt hU hB hW hlen hs hcell
      go_wp2
      go_roundw
      case measure => simp [intOf]; omega
      case rel => exact ⟨j + 1, z / 4294967296, _, by simp, by go_num, by omega, HZ.out, H1.out, H2.out, H3.out⟩
    · have hjn2 : j = n := by omega
      have hd := hU.done (by omega) (by rw [HL.out]; omega) k HK.out
      have hcx := hB.cell (p + j) (by omega)
      have hfx := hB.frozen (p + j)
      have hbn := hB.set_ (p + j) y hy
      have hwn := hW.setCell (p := ⟨w.heap.size, p + j, none⟩) (Nat.le_refl _) (.int .u32 (y : Int))
      have hlen2 : (L.set (p + j) y).length = n + p + 1 := by rw [List.length_set]; exact hlen
      subst hjn2
      have hrd := hbn.rd
      rw [hlen2] at hrd
      have HD := Lib.hid hd
      have H2 := Lib.hid hbn
      have H3 := Lib.hid hwn
      have H4 := Lib.hid hrd
      have H5 := Lib.hid hlen2
      clear hd hbn hwn hrd hlen2 hU hB hW hlen hs hcell
      go_wp2_with fail
      refine (trim_c _ _ _ _ _ H4.out (Nat.le_refl _) (by omega)).mono ?_
      intro e w3 h3
      obtain ⟨A', c', rfl, r1, r2, r3, r4, r5⟩ := out_of_trim H2.out (Nat.le_refl _) HD.out H3.out (by have := H5.out; omega) h3
      have R := Lib.hid r5
      clear r5 h3
      go_wp2
      go_ret
      exact ⟨A', c', rfl, r1, r2, r3, r4, R.out⟩

theorem out_zero (w : World) : Out w 0 (.returned (.slice none 0 0)) w := by
  have e : words 0 = [] := words_zero
  refine ⟨none, 0, by rw [e]; rfl, by rw [e]; exact Rd.nil _, by rw [e]; exact Nat.le_refl _, by omega, Below.refl _ _, fun h => ?_⟩
  rw [e] at h
  exact absurd h (by simp)
set_option maxHeartbeats 400000 in
theorem shiftUp_c (A : Option Addr) (n c k : Nat) (xs : List Nat) (w : World) (ha : Rd w A n xs) (hn : n < 35184372088832) (hk : k < 35184372088832) :
    Calls Try.prog 68 #[.slice A n c, .int .i64 (k : Int)] w (Out w (val xs * 2 ^ k)) := by
  rcases Nat.eq_zero_or_pos n with h0 | h0
  · subst h0
    have hx : xs = [] := List.eq_nil_of_length_eq_zero ha.len
    subst hx
    rw [val_nil, Nat.zero_mul]
    have H := Lib.hid (out_zero w)
    go_enter Try.func68, Try.ntmps68
    go_wp2
    go_ret
    exact H.out
  · exact shiftUp_pos A n c k xs w ha hn h0 hk
end Go.Proofs.Ytmgkgomecakoiaa

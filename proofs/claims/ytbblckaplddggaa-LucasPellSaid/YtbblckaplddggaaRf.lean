import Derived.Test.YtbblckaplddggaaRd
import Derived.Test.YtbblckaplddggaaRe
namespace Go.Proofs.Ytbblckaplddggaa
open Go.RowKit

/-- words made: a block of its own, of which all is known -/
def Made (w : World) (n v : Nat) (e : Ending) (w' : World) : Prop :=
  ∃ cs, e = .returned (.slice (some ⟨w.heap.size, 0, none⟩) n n) ∧ cs.length = n ∧ val cs = v ∧ Bk w' w.heap.size cs ∧ Below w.heap.size w w'
theorem u64_mask {z : Int} (h0 : 0 ≤ z) (h1 : z < 18446744073709551616) : bits .and .u64 z 4294967295 = z % 4294967296 := by
  obtain ⟨n, rfl⟩ : ∃ n : Nat, z = (n : Int) := ⟨z.toNat, by omega⟩
  show IntKind.u64.wrap ((BitVec.ofInt 64 (n : Int) &&& BitVec.ofInt 64 4294967295).toNat : Int) = _
  have e1 : (BitVec.ofInt 64 (n : Int)).toNat = n := by
    rw [BitVec.ofInt_natCast, BitVec.toNat_ofNat]; exact Nat.mod_eq_of_lt (by omega)
  have e2 : (BitVec.ofInt 64 4294967295).toNat = 4294967295 := by rfl
  have e3 : n &&& 4294967295 = n % 4294967296 := Nat.and_two_pow_sub_one_eq_mod n 32
  rw [BitVec.toNat_and, e1, e2, e3, IntKind.wrap_u64]
  omega
theorem PlusAt.done {xs ys cs : List Nat} {N y : Nat} (h : PlusAt xs ys (N + 1) (N + 1) cs y) (hx : xs.length ≤ N) (hy : ys.length ≤ N) (sx : small xs) (sy : small ys) : val cs = val xs + val ys := by
  have e := h.eq
  rw [take_of_len (by rw [h.len]; exact Nat.le_refl _), List.take_of_length_le (by omega), List.take_of_length_le (by omega)] at e
  have h1 := Nat.lt_of_lt_of_le (val_lt sx) (pw_le hx)
  have h2 := Nat.lt_of_lt_of_le (val_lt sy) (pw_le hy)
  rw [pw_succ] at e
  rcases Nat.eq_zero_or_pos y with h0 | h0
  · rw [h0, Nat.mul_zero] at e; omega
  · have : 4294967296 * pw N * 1 ≤ 4294967296 * pw N * y := Nat.mul_le_mul_left _ h0
    omega

set_option maxHeartbeats 1000000 in
set_option maxRecDepth 100000 in
theorem plus_c (A B : Option Addr) (n c m d : Nat) (xs ys : List Nat) (w : World) (ha : Rd w A n xs) (hb : Rd w B m ys) (hn : n ≤ 17592186044416) (hm : m ≤ 17592186044416) :
    ∃ N, N ≤ n + m + 1 ∧ Calls Try.prog 74 #[.slice A n c, .slice B m d] w (Made w N (val xs + val ys)) := by
  have HX := Lib.hid ha.len
  have HY := Lib.hid hb.len
  have hsx := ha.sm
  have hsy := hb.sm
  by_cases h : n < m
  · refine ⟨m + 1, by omega, ?_⟩
    have hmk : ∀ w : World, (Instr.makeSlice 22 (.int .i64 ((m : Int) + 1)) (.int .i64 ((m : Int) + 1))).run Try.prog w = .ok (.slice (some ⟨w.heap.size, 0, none⟩) (m + 1) (m + 1)) (w.alloc (row (List.replicate (m + 1) 0))) := mk_words (m + 1) (by omega)
    have HK := Lib.hid (Bk.new0 w (m + 1))
    have HB := Lib.hid (below_alloc w (row (List.replicate (m + 1) 0)))
    go_enter Try.func74, Try.ntmps74
    go_wp2
    go_loopw [7, 8] (fun cy v wr => ∃ k y : Nat, ∃ cs, cy = .int .u64 y ∧ v = .int .i64 k ∧ k ≤ m + 1 ∧ PlusAt xs ys (m + 1) k cs y ∧ Bk wr w.heap.size cs ∧ Below w.heap.size w wr) (fun _ v _ => m + 1 - (intOf v).toNat)
    case atStart => exact ⟨0, 0, _, rfl, rfl, Nat.zero_le _, PlusAt.start xs ys (m + 1), HK.out, HB.out⟩
    case round =>
      obtain ⟨k, y, cs, rfl, rfl, hk, hP, hK, hG⟩ := hrel
      have hle := hP.le
      by_cases hkN : k < m + 1
      · have hnx := hP.next hsx hsy hkN
        have hfx := hK.frozen k
        have hcx := hK.cell k (by rw [hP.len]; exact hkN)
        have hl := hP.len
        by_cases hkn : k < n
        · by_cases hkm : k < m
          · obtain ⟨b1, o1, rfl, _, hca⟩ := (ha.below hG).of (by omega)
            have hci := hca k hkn
            have hx1 := small_get hsx k
            obtain ⟨b2, o2, rfl, _, hcb⟩ := (hb.below hG).of (by omega)
            have hdi := hcb k hkm
            have hy1 := small_get hsy k
            obtain ⟨x, hx⟩ : ∃ x, x = xs.getD k 0 := ⟨_, rfl⟩
            rw [← hx] at hci hx1 hnx
            obtain ⟨z, hz⟩ : ∃ z, z = ys.getD k 0 := ⟨_, rfl⟩
            rw [← hz] at hdi hy1 hnx
            have hbn := hK.set_ k ((y + x + z) % 4294967296) (by omega)
            have hgn := hG.setCell (p := ⟨w.heap.size, k, none⟩) (Nat.le_refl _) (.int .u32 ((((y + x + z) % 4294967296 : Nat)) : Int))
            have hv : ((((y + x + z) % 4294967296 : Nat)) : Int) = ((y : Int) + x + z) % 4294967296 := by omega
            rw [hv] at hbn hgn
            have hmask : bits .and .u64 ((y : Int) + x + z) 4294967295 = ((y : Int) + x + z) % 4294967296 := u64_mask (by omega) (by omega)
            have H1 := Lib.hid hnx
            have H2 := Lib.hid hbn
            have H3 := Lib.hid hgn
            clear hv hnx hbn hgn hP hK hG ha hb hsx hsy hx hca hz hcb
            go_wp2
            go_roundw
            case measure => simp [intOf]; omega
            case rel => exact ⟨k + 1, (y + x + z) / 4294967296, _, by go_num, by go_num, by omega, H1.out, H2.out, H3.out⟩
          · exfalso; omega
        · by_cases hkm : k < m
          · have hx0 : xs.getD k 0 = 0 := by rw [List.getD_eq_getElem?_getD, List.getElem?_eq_none (by rw [HX.out]; omega)]; rfl
            obtain ⟨b2, o2, rfl, _, hcb⟩ := (hb.below hG).of (by omega)
            have hdi := hcb k hkm
            have hy1 := small_get hsy k
            simp only [hx0, Nat.add_zero] at hnx
            obtain ⟨z, hz⟩ : ∃ z, z = ys.getD k 0 := ⟨_, rfl⟩
            rw [← hz] at hdi hy1 hnx
            have hbn := hK.set_ k ((y + z) % 4294967296) (by omega)
            have hgn := hG.setCell (p := ⟨w.heap.size, k, none⟩) (Nat.le_refl _) (.int .u32 ((((y + z) % 4294967296 : Nat)) : Int))
            have hv : ((((y + z) % 4294967296 : Nat)) : Int) = ((y : Int) + z) % 4294967296 := by omega
            rw [hv] at hbn hgn
            have hmask : bits .and .u64 ((y : Int) + z) 4294967295 = ((y : Int) + z) % 4294967296 := u64_mask (by omega) (by omega)
            have H1 := Lib.hid hnx
            have H2 := Lib.hid hbn
            have H3 := Lib.hid hgn
            clear hv hnx hbn hgn hP hK hG ha hb hsx hsy hx0 hz hcb
            go_wp2
            go_roundw
            case measure => simp [intOf]; omega
            case rel => exact ⟨k + 1, (y + z) / 4294967296, _, by go_num, by go_num, by omega, H1.out, H2.out, H3.out⟩
          · have hx0 : xs.getD k 0 = 0 := by rw [List.getD_eq_getElem?_getD, List.getElem?_eq_none (by rw [HX.out]; omega)]; rfl
            have hy0 : ys.getD k 0 = 0 := by rw [List.getD_eq_getElem?_getD, List.getElem?_eq_none (by rw [HY.out]; omega)]; rfl
            simp only [hx0, Nat.add_zero] at hnx
            simp only [hy0, Nat.add_zero] at hnx
            have hbn := hK.set_ k ((y) % 4294967296) (by omega)
            have hgn := hG.setCell (p := ⟨w.heap.size, k, none⟩) (Nat.le_refl _) (.int .u32 ((((y) % 4294967296 : Nat)) : Int))
            have hv : ((((y) % 4294967296 : Nat)) : Int) = ((y : Int)) % 4294967296 := by omega
            rw [hv] at hbn hgn
            have hmask : bits .and .u64 ((y : Int)) 4294967295 = ((y : Int)) % 4294967296 := u64_mask (by omega) (by omega)
            have H1 := Lib.hid hnx
            have H2 := Lib.hid hbn
            have H3 := Lib.hid hgn
            clear hv hnx hbn hgn hP hK hG ha hb hsx hsy hx0 hy0
            go_wp2
            go_roundw
            case measure => simp [intOf]; omega
            case rel => exact ⟨k + 1, (y) / 4294967296, _, by go_num, by go_num, by omega, H1.out, H2.out, H3.out⟩
      · obtain rfl : k = m + 1 := by omega
        have hd := hP.done (by rw [HX.out]; omega) (by rw [HY.out]; omega) hsx hsy
        have H := Lib.hid (show ∃ cs, cs.length = m + 1 ∧ val cs = val xs + val ys ∧ Bk wr w.heap.size cs ∧ Below w.heap.size w wr from ⟨cs, hP.len, hd, hK, hG⟩)
        clear hP hK hG hd ha hb hsx hsy hle
        go_wp2
        go_ret
        obtain ⟨cs, h1, h2, h3, h4⟩ := H.out
        exact ⟨cs, rfl, h1, h2, h3, h4⟩
  · refine ⟨n + 1, by omega, ?_⟩
    have hmk : ∀ w : World, (Instr.makeSlice 22 (.int .i64 ((n : Int) + 1)) (.int .i64 ((n : Int) + 1))).run Try.prog w = .ok (.slice (some ⟨w.heap.size, 0, none⟩) (n + 1) (n + 1)) (w.alloc (row (List.replicate (n + 1) 0))) := mk_words (n + 1) (by omega)
    have HK := Lib.hid (Bk.new0 w (n + 1))
    have HB := Lib.hid (below_alloc w (row (List.replicate (n + 1) 0)))
    go_enter Try.func74, Try.ntmps74
    go_wp2
    go_loopw [7, 8] (fun cy v wr => ∃ k y : Nat, ∃ cs, cy = .int .u64 y ∧ v = .int .i64 k ∧ k ≤ n + 1 ∧ PlusAt xs ys (n + 1) k cs y ∧ Bk wr w.heap.size cs ∧ Below w.heap.size w wr) (fun _ v _ => n + 1 - (intOf v).toNat)
    case atStart => exact ⟨0, 0, _, rfl, rfl, Nat.zero_le _, PlusAt.start xs ys (n + 1), HK.out, HB.out⟩
    case round =>
      obtain ⟨k, y, cs, rfl, rfl, hk, hP, hK, hG⟩ := hrel
      have hle := hP.le
      by_cases hkN : k < n + 1
      · have hnx := hP.next hsx hsy hkN
        have hfx := hK.frozen k
        have hcx := hK.cell k (by rw [hP.len]; exact hkN)
        have hl := hP.len
        by_cases hkn : k < n
        · by_cases hkm : k < m
          · obtain ⟨b1, o1, rfl, _, hca⟩ := (ha.below hG).of (by omega)
            have hci := hca k hkn
            have hx1 := small_get hsx k
            obtain ⟨b2, o2, rfl, _, hcb⟩ := (hb.below hG).of (by omega)
            have hdi := hcb k hkm
            have hy1 := small_get hsy k
            obtain ⟨x, hx⟩ : ∃ x, x = xs.getD k 0 := ⟨_, rfl⟩
            rw [← hx] at hci hx1 hnx
            obtain ⟨z, hz⟩ : ∃ z, z = ys.getD k 0 := ⟨_, rfl⟩
            rw [← hz] at hdi hy1 hnx
            have hbn := hK.set_ k ((y + x + z) % 4294967296) (by omega)
            have hgn := hG.setCell (p := ⟨w.heap.size, k, none⟩) (Nat.le_refl _) (.int .u32 ((((y + x + z) % 4294967296 : Nat)) : Int))
            have hv : ((((y + x + z) % 4294967296 : Nat)) : Int) = ((y : Int) + x + z) % 4294967296 := by omega
            rw [hv] at hbn hgn
            have hmask : bits .and .u64 ((y : Int) + x + z) 4294967295 = ((y : Int) + x + z) % 4294967296 := u64_mask (by omega) (by omega)
            have H1 := Lib.hid hnx
            have H2 := Lib.hid hbn
            have H3 := Lib.hid hgn
            clear hv hnx hbn hgn hP hK hG ha hb hsx hsy hx hca hz hcb
            go_wp2
            go_roundw
            case measure => simp [intOf]; omega
            case rel => exact ⟨k + 1, (y + x + z) / 4294967296, _, by go_num, by go_num, by omega, H1.out, H2.out, H3.out⟩
          · obtain ⟨b1, o1, rfl, _, hca⟩ := (ha.below hG).of (by omega)
            have hci := hca k hkn
            have hx1 := small_get hsx k
            have hy0 : ys.getD k 0 = 0 := by rw [List.getD_eq_getElem?_getD, List.getElem?_eq_none (by rw [HY.out]; omega)]; rfl
            obtain ⟨x, hx⟩ : ∃ x, x = xs.getD k 0 := ⟨_, rfl⟩
            rw [← hx] at hci hx1 hnx
            simp only [hy0, Nat.add_zero] at hnx
            have hbn := hK.set_ k ((y + x) % 4294967296) (by omega)
            have hgn := hG.setCell (p := ⟨w.heap.size, k, none⟩) (Nat.le_refl _) (.int .u32 ((((y + x) % 4294967296 : Nat)) : Int))
            have hv : ((((y + x) % 4294967296 : Nat)) : Int) = ((y : Int) + x) % 4294967296 := by omega
            rw [hv] at hbn hgn
            have hmask : bits .and .u64 ((y : Int) + x) 4294967295 = ((y : Int) + x) % 4294967296 := u64_mask (by omega) (by omega)
            have H1 := Lib.hid hnx
            have H2 := Lib.hid hbn
            have H3 := Lib.hid hgn
            clear hv hnx hbn hgn hP hK hG ha hb hsx hsy hx hca hy0
            go_wp2
            go_roundw
            case measure => simp [intOf]; omega
            case rel => exact ⟨k + 1, (y + x) / 4294967296, _, by go_num, by go_num, by omega, H1.out, H2.out, H3.out⟩
        · by_cases hkm : k < m
          · exfalso; omega
          · have hx0 : xs.getD k 0 = 0 := by rw [List.getD_eq_getElem?_getD, List.getElem?_eq_none (by rw [HX.out]; omega)]; rfl
            have hy0 : ys.getD k 0 = 0 := by rw [List.getD_eq_getElem?_getD, List.getElem?_eq_none (by rw [HY.out]; omega)]; rfl
            simp only [hx0, Nat.add_zero] at hnx
            simp only [hy0, Nat.add_zero] at hnx
            have hbn := hK.set_ k ((y) % 4294967296) (by omega)
            have hgn := hG.setCell (p := ⟨w.heap.size, k, none⟩) (Nat.le_refl _) (.int .u32 ((((y) % 4294967296 : Nat)) : Int))
            have hv : ((((y) % 4294967296 : Nat)) : Int) = ((y : Int)) % 4294967296 := by omega
            rw [hv] at hbn hgn
            have hmask : bits .and .u64 ((y : Int)) 4294967295 = ((y : Int)) % 4294967296 := u64_mask (by omega) (by omega)
            have H1 := Lib.hid hnx
            have H2 := Lib.hid hbn
            have H3 := Lib.hid hgn
            clear hv hnx hbn hgn hP hK hG ha hb hsx hsy hx0 hy0
            go_wp2
            go_roundw
            case measure => simp [intOf]; omega
            case rel => exact ⟨k + 1, (y) / 4294967296, _, by go_num, by go_num, by omega, H1.out, H2.out, H3.out⟩
      · obtain rfl : k = n + 1 := by omega
        have hd := hP.done (by rw [HX.out]; omega) (by rw [HY.out]; omega) hsx hsy
        have H := Lib.hid (show ∃ cs, cs.length = n + 1 ∧ val cs = val xs + val ys ∧ Bk wr w.heap.size cs ∧ Below w.heap.size w wr from ⟨cs, hP.len, hd, hK, hG⟩)
        clear hP hK hG hd ha hb hsx hsy hle
        go_wp2
        go_ret
        obtain ⟨cs, h1, h2, h3, h4⟩ := H.out
        exact ⟨cs, rfl, h1, h2, h3, h4⟩
end Go.Proofs.Ytbblckaplddggaa

import Derived.Test.YtpgiifjngkekgaaRf
namespace Go.Proofs.Ytpgiifjngkekgaa
open Go.RowKit

/-- differences of words under way: k words are out -/
structure MinusAt (xs ys : List Nat) (k : Nat) (cs : List Nat) (y : Nat) : Prop where
  len : cs.length = xs.length
  sm : small cs
  eq : val (cs.take k) + val (ys.take k) = val (xs.take k) + pw k * y
  le : y ≤ 1
theorem MinusAt.start (xs ys : List Nat) : MinusAt xs ys 0 (List.replicate xs.length 0) 0 :=
  ⟨by simp, fun x hx => by have := List.eq_of_mem_replicate hx; omega, by simp [val], by omega⟩
theorem MinusAt.next {xs ys cs : List Nat} {k y r d : Nat} (h : MinusAt xs ys k cs y) (hk : k < xs.length) (hr : r < 4294967296) (hd : d ≤ 1) (key : r + ys.getD k 0 + y = xs.getD k 0 + 4294967296 * d) :
    MinusAt xs ys (k + 1) (cs.set k r) d := by
  refine ⟨by simp [h.len], small_set h.sm _ _ hr, ?_, hd⟩
  rw [val_take_step, val_take_step, val_take_step]
  have e1 : (cs.set k r).take k = cs.take k := List.take_set_of_le (Nat.le_refl _)
  have e2 : (cs.set k r).getD k 0 = r := by simp [List.getD_eq_getElem?_getD, h.len, hk]
  rw [e1, e2, pw_succ]
  have e := h.eq
  obtain ⟨X, hX⟩ : ∃ X, X = xs.getD k 0 := ⟨_, rfl⟩
  obtain ⟨Y, hY⟩ : ∃ Y, Y = ys.getD k 0 := ⟨_, rfl⟩
  rw [← hX, ← hY] at key ⊢
  obtain ⟨p, hp⟩ : ∃ p, p = pw k := ⟨_, rfl⟩
  rw [← hp] at e ⊢
  have m1 : p * (r + Y + y) = p * (X + 4294967296 * d) := by rw [key]
  have m2 : p * (4294967296 * d) = 4294967296 * p * d := by rw [← Nat.mul_assoc, Nat.mul_comm p]
  rw [Nat.mul_add, Nat.mul_add, Nat.mul_add, m2] at m1
  omega
theorem MinusAt.done {xs ys cs : List Nat} {y : Nat} (h : MinusAt xs ys xs.length cs y) (hl : ys.length ≤ xs.length) (hv : val ys ≤ val xs) : val cs = val xs - val ys := by
  have e := h.eq
  rw [take_of_len (by rw [h.len]; exact Nat.le_refl _), List.take_of_length_le hl, List.take_of_length_le (Nat.le_refl _)] at e
  have h2 := val_lt h.sm
  rw [h.len] at h2
  rcases Nat.eq_zero_or_pos y with h0 | h0
  · rw [h0, Nat.mul_zero] at e; omega
  · have : pw xs.length * 1 ≤ pw xs.length * y := Nat.mul_le_mul_left _ h0
    omega

set_option maxHeartbeats 1000000 in
set_option maxRecDepth 100000 in
theorem minus_c (A B : Option Addr) (n c m d : Nat) (xs ys : List Nat) (w : World) (ha : Rd w A n xs) (hb : Rd w B m ys) (hn : n ≤ 17592186044416) (hm : m ≤ n) (hv : val ys ≤ val xs) :
    Calls Try.prog 56 #[.slice A n c, .slice B m d] w (Made w n (val xs - val ys)) := by
  have HX := Lib.hid ha.len
  have HY := Lib.hid hb.len
  have HV := Lib.hid hv
  have hsx := ha.sm
  have hsy := hb.sm
  clear hv
  have hmk : ∀ w : World, (Instr.makeSlice 22 (.int .i64 (n : Int)) (.int .i64 (n : Int))).run Try.prog w = .ok (.slice (some ⟨w.heap.size, 0, none⟩) n n) (w.alloc (row (List.replicate n 0))) := mk_words n (by omega)
  have HK := Lib.hid (Bk.new0 w n)
  have HB := Lib.hid (below_alloc w (row (List.replicate n 0)))
  go_enter Try.func56, Try.ntmps56
  go_wp2
  go_loopw [6, 7] (fun cy v wr => ∃ k y : Nat, ∃ cs, cy = .int .u64 y ∧ v = .int .i64 k ∧ k ≤ n ∧ MinusAt xs ys k cs y ∧ Bk wr w.heap.size cs ∧ Below w.heap.size w wr) (fun _ v _ => n - (intOf v).toNat)
  case atStart => exact ⟨0, 0, List.replicate n 0, rfl, rfl, Nat.zero_le _, by rw [← HX.out]; exact MinusAt.start xs ys, HK.out, HB.out⟩
  case round =>
    obtain ⟨k, y, cs, rfl, rfl, hk, hP, hK, hG⟩ := hrel
    have hle := hP.le
    by_cases hkn : k < n
    · have hfx := hK.frozen k
      have hl : cs.length = n := hP.len.trans HX.out
      have hcx := hK.cell k (by omega)
      obtain ⟨b1, o1, rfl, _, hca⟩ := (ha.below hG).of (by omega)
      have hci := hca k hkn
      have hx1 := small_get hsx k
      obtain ⟨x, hx⟩ : ∃ x, x = xs.getD k 0 := ⟨_, rfl⟩
      rw [← hx] at hci hx1
      by_cases hkm : k < m
      · obtain ⟨b2, o2, rfl, _, hcb⟩ := (hb.below hG).of (by omega)
        have hdi := hcb k hkm
        have hy1 := small_get hsy k
        obtain ⟨z, hz⟩ : ∃ z, z = ys.getD k 0 := ⟨_, rfl⟩
        rw [← hz] at hdi hy1
        obtain ⟨T, hT⟩ : ∃ T, T = x + 4294967296 - y - z := ⟨_, rfl⟩
        have hT2 : (x : Int) + 4294967296 - y - z = (T : Int) := by omega
        have hT3 : T < 8589934592 := by omega
        obtain ⟨D, hD⟩ : ∃ D, D = 1 - T / 4294967296 := ⟨_, rfl⟩
        obtain ⟨R, hR⟩ : ∃ R, R = T % 4294967296 := ⟨_, rfl⟩
        have hR2 : R < 4294967296 := by omega
        have hD2 : D ≤ 1 := by omega
        have key : R + ys.getD k 0 + y = xs.getD k 0 + 4294967296 * D := by rw [← hz, ← hx]; omega
        have hnx := hP.next (by rw [HX.out]; exact hkn) hR2 hD2 key
        have hmask : bits .and .u64 (T : Int) 4294967295 = (R : Int) := by rw [u64_mask (by omega) (by omega)]; omega
        have hdv : 1 - (T : Int) / 4294967296 = (D : Int) := by omega
        have hbn := hK.set_ k R hR2
        have hgn := hG.setCell (p := ⟨w.heap.size, k, none⟩) (Nat.le_refl _) (.int .u32 (R : Int))
        have H1 := Lib.hid hnx
        have H2 := Lib.hid hbn
        have H3 := Lib.hid hgn
        clear hnx hbn hgn hP hK hG ha hb hsx hsy hT hx hca hD hR key hz hcb
        go_wp2
        go_roundw
        case measure => simp [intOf]; omega
        case rel => exact ⟨k + 1, D, _, by go_num, by go_num, by omega, H1.out, H2.out, H3.out⟩
      · have hz : 0 = ys.getD k 0 := by rw [List.getD_eq_getElem?_getD, List.getElem?_eq_none (by rw [HY.out]; omega)]; rfl
        obtain ⟨T, hT⟩ : ∃ T, T = x + 4294967296 - y := ⟨_, rfl⟩
        have hT2 : (x : Int) + 4294967296 - y = (T : Int) := by omega
        have hT3 : T < 8589934592 := by omega
        obtain ⟨D, hD⟩ : ∃ D, D = 1 - T / 4294967296 := ⟨_, rfl⟩
        obtain ⟨R, hR⟩ : ∃ R, R = T % 4294967296 := ⟨_, rfl⟩
        have hR2 : R < 4294967296 := by omega
        have hD2 : D ≤ 1 := by omega
        have key : R + ys.getD k 0 + y = xs.getD k 0 + 4294967296 * D := by rw [← hz, ← hx]; omega
        have hnx := hP.next (by rw [HX.out]; exact hkn) hR2 hD2 key
        have hmask : bits .and .u64 (T : Int) 4294967295 = (R : Int) := by rw [u64_mask (by omega) (by omega)]; omega
        have hdv : 1 - (T : Int) / 4294967296 = (D : Int) := by omega
        have hbn := hK.set_ k R hR2
        have hgn := hG.setCell (p := ⟨w.heap.size, k, none⟩) (Nat.le_refl _) (.int .u32 (R : Int))
        have H1 := Lib.hid hnx
        have H2 := Lib.hid hbn
        have H3 := Lib.hid hgn
        clear hnx hbn hgn hP hK hG ha hb hsx hsy hT hx hca hD hR key hz
        go_wp2
        go_roundw
        case measure => simp [intOf]; omega
        case rel => exact ⟨k + 1, D, _, by go_num, by go_num, by omega, H1.out, H2.out, H3.out⟩
    · obtain rfl : k = n := by omega
      have hd := (show MinusAt xs ys xs.length cs y by rw [HX.out]; exact hP).done (by rw [HX.out, HY.out]; exact hm) HV.out
      have H := Lib.hid (show ∃ cs, cs.length = k ∧ val cs = val xs - val ys ∧ Bk wr w.heap.size cs ∧ Below w.heap.size w wr from ⟨cs, hP.len.trans HX.out, hd, hK, hG⟩)
      clear hP hK hG hd ha hb hsx hsy hle
      go_wp2
      go_ret
      obtain ⟨cs, h1, h2, h3, h4⟩ := H.out
      exact ⟨cs, rfl, h1, h2, h3, h4⟩
end Go.Proofs.Ytpgiifjngkekgaa

import Derived.Test.YteabokkofoomkaaGreatCab
import Derived.Test.YteabokkofoomkaaGreatCah
import Derived.Deep.RegionHeld3
import Derived.Lib.Tables
import Derived.Deep.Light
import Derived.Deep.LoopGhost
import Derived.IntWalk
namespace Go.Proofs.YteabokkofoomkaaGreat
open Go.RowKit
set_option maxHeartbeats 1000000 in
theorem order_c (A B : Option Addr) (n c m d : Nat) (xs ys : List Nat) (w : World) (ha : Rd w A n xs) (hb : Rd w B m ys) (hx : canon xs) (hy : canon ys) (hn : n ≤ 9223372036854775800) (hm : m ≤ 9223372036854775800) :
    Calls Tryz.prog 106 #[.slice A n c, .slice B m d] w (Quietly w (.int .i64 (ord (val xs) (val ys)))) := by
  have hxl := ha.len
  have hyl := hb.len
  by_cases hnm : n = m
  · subst hnm
    have HX := Lib.hid hxl
    have HY := Lib.hid hyl
    clear hxl hyl
    rcases Nat.eq_zero_or_pos n with h0 | h0
    · subst h0
      have hx0 : xs = [] := List.eq_nil_of_length_eq_zero HX.out
      have hy0 : ys = [] := List.eq_nil_of_length_eq_zero HY.out
      have HV := Lib.hid (show ord (val xs) (val ys) = 0 by rw [hx0, hy0]; rfl)
      clear hx0 hy0
      go_enter Tryz.func106, Tryz.ntmps106
      go_wp2
      go_loop [5] (fun v => v = .int .i64 (-1)) (fun _ => 0)
      case atStart => rfl
      case round =>
        obtain rfl := hrel
        go_wp2
        go_ret
        exact ⟨by rw [HV.out]; rfl, 0, rfl⟩
    · obtain ⟨b, o, rfl, _, hca⟩ := ha.of h0
      obtain ⟨b', o', rfl, _, hcb⟩ := hb.of h0
      have t : ((n : Int) != (n : Int)) = false := by simp
      go_enter Tryz.func106, Tryz.ntmps106
      go_wp2
      clear t
      go_loopw [5] (fun v wr => ∃ k j : Nat, k ≤ n ∧ v = .int .i64 ((k : Int) - 1) ∧ xs.drop k = ys.drop k ∧ wr = w.drewN j) (fun v _ => (intOf v + 1).toNat)
      case atStart => exact ⟨n, 0, Nat.le_refl _, rfl, by have h1 := HX.out; have h2 := HY.out; rw [List.drop_of_length_le (by omega), List.drop_of_length_le (by omega)], rfl⟩
      case round =>
        obtain ⟨k, j, hk, rfl, hd, rfl⟩ := hrel
        have HD := Lib.hid hd
        clear hd
        rcases Nat.eq_zero_or_pos k with hk0 | hk0
        · subst hk0
          have HV := Lib.hid (show ord (val xs) (val ys) = 0 from ord_eq (by have := HD.out; simp at this; rw [this]))
          go_wp2
          go_ret
          exact ⟨by rw [HV.out]; rfl, j, rfl⟩
        · obtain ⟨i, rfl⟩ : ∃ i, k = i + 1 := ⟨k - 1, by omega⟩
          have hci := hca i (by omega)
          have hdi := hcb i (by omega)
          have ei : (((i + 1 : Nat) : Int) - 1) = (i : Int) := by omega
          rw [ei]
          have hx1 := small_get hx.1 i
          have hy1 := small_get hy.1 i
          have HF := Lib.hid (cmp_find hx hy (by rw [HX.out, HY.out]) i (by have := HX.out; omega) HD.out)
          have HS := Lib.hid (drop_step (by rw [HX.out, HY.out]) (by have := HX.out; omega) HD.out)
          obtain ⟨x, hx2⟩ : ∃ x, x = xs.getD i 0 := ⟨_, rfl⟩
          obtain ⟨y, hy2⟩ : ∃ y, y = ys.getD i 0 := ⟨_, rfl⟩
          rw [← hx2] at hci hx1 HF HS
          rw [← hy2] at hdi hy1 HF HS
          clear hx2 hy2 hca hcb ei
          rcases Nat.lt_trichotomy x y with hlt | hxy | hgt
          · have HF2 := Lib.hid ((HF.out (by omega)).symm.trans (ord_lt (by omega)))
            have t : decide ((x : Int) < (y : Int)) = true := decide_eq_true (by omega)
            go_wp2
            go_quiet (fail)
            go_wp2
            go_ret
            exact ⟨by rw [HF2.out]; rfl, _, by rw [World.drewN_drewN]⟩
          · have HS2 := Lib.hid (HS.out hxy)
            subst hxy
            go_wp2
            go_quiet (fail)
            go_wp2
            go_quiet (fail)
            go_wp2
            go_roundw
            case measure => simp [intOf]
            case rel => exact ⟨i, _, by omega, rfl, HS2.out, rfl⟩
          · have HF2 := Lib.hid ((HF.out (by omega)).symm.trans (ord_gt (by omega)))
            have t : decide ((x : Int) < (y : Int)) = false := decide_eq_false (by omega)
            have t2 : decide ((y : Int) < (x : Int)) = true := decide_eq_true (by omega)
            go_wp2
            go_quiet (fail)
            go_wp2
            go_quiet (fail)
            go_wp2
            go_ret
            exact ⟨by rw [HF2.out]; rfl, _, by rw [World.drewN_drewN, World.drewN_drewN]⟩
  · have t : ((n : Int) != (m : Int)) = true := by rw [bne_iff_ne]; omega
    rcases Nat.lt_or_ge n m with h | h
    · have HV := Lib.hid (show ord (val xs) (val ys) = -1 by
        have := cmp_len hx.1 hy (by omega)
        exact ord_lt (by omega))
      clear hxl hyl
      go_enter Tryz.func106, Tryz.ntmps106
      go_wp2
      go_ret
      exact ⟨by rw [HV.out]; rfl, 0, rfl⟩
    · have HV := Lib.hid (show ord (val xs) (val ys) = 1 by
        have := cmp_len hy.1 hx (by omega)
        exact ord_gt (by omega))
      clear hxl hyl
      go_enter Tryz.func106, Tryz.ntmps106
      go_wp2
      go_ret
      exact ⟨by rw [HV.out]; rfl, 0, rfl⟩
/-- sums of words under way: k words are out -/
structure PlusAt (xs ys : List Nat) (n k : Nat) (cs : List Nat) (y : Nat) : Prop where
  len : cs.length = n
  sm : small cs
  eq : val (cs.take k) + pw k * y = val (xs.take k) + val (ys.take k)
  le : y ≤ 1
theorem PlusAt.start (xs ys : List Nat) (n : Nat) : PlusAt xs ys n 0 (List.replicate n 0) 0 :=
  ⟨by simp, fun x hx => by have := List.eq_of_mem_replicate hx; omega, by simp [val], by omega⟩
theorem PlusAt.next {xs ys cs : List Nat} {n k y : Nat} (h : PlusAt xs ys n k cs y) (hx : small xs) (hy : small ys) (hk : k < n) :
    PlusAt xs ys n (k + 1) (cs.set k ((y + xs.getD k 0 + ys.getD k 0) % 4294967296)) ((y + xs.getD k 0 + ys.getD k 0) / 4294967296) := by
  have h1 := small_get hx k
  have h2 := small_get hy k
  have h3 := h.le
  refine ⟨by simp [h.len], small_set h.sm _ _ (by omega), ?_, by omega⟩
  rw [val_take_step, val_take_step, val_take_step]
  have e1 : (cs.set k ((y + xs.getD k 0 + ys.getD k 0) % 4294967296)).take k = cs.take k := by
    rw [List.take_set_of_le (Nat.le_refl _)]
  have e2 : (cs.set k ((y + xs.getD k 0 + ys.getD k 0) % 4294967296)).getD k 0 = (y + xs.getD k 0 + ys.getD k 0) % 4294967296 := by
    simp [List.getD_eq_getElem?_getD, h.len, hk]
  rw [e1, e2, pw_succ]
  have e := h.eq
  obtain ⟨X, hX⟩ : ∃ X, X = xs.getD k 0 := ⟨_, rfl⟩
  obtain ⟨Y, hY⟩ : ∃ Y, Y = ys.getD k 0 := ⟨_, rfl⟩
  rw [← hX, ← hY]
  obtain ⟨S, hS⟩ : ∃ S, S = y + X + Y := ⟨_, rfl⟩
  rw [← hS]
  have hd := Nat.div_add_mod S 4294967296
  have m1 : pw k * S = pw k * (S % 4294967296) + pw k * 4294967296 * (S / 4294967296) := by
    conv => lhs; rw [← hd]
    rw [Nat.mul_add, Nat.mul_assoc, Nat.add_comm]
  have m2 : pw k * S = pw k * y + pw k * X + pw k * Y := by rw [hS, Nat.mul_add, Nat.mul_add]
  have m3 : 4294967296 * pw k = pw k * 4294967296 := Nat.mul_comm _ _
  first
    | (rw [m3]; omega)
    | omega
end Go.Proofs.YteabokkofoomkaaGreat
namespace Go.Proofs.YteabokkofoomkaaGreat
open Go.RowKit
/-- words made: a block of its own, of which all is known -/
def Made (w : World) (n v : Nat) (e : Ending) (w' : World) : Prop :=
  ∃ cs, e = .returned (.slice (some ⟨w.heap.size, 0, none⟩) n n) ∧ cs.length = n ∧ val cs = v ∧ Bk w' w.heap.size cs ∧ Below w.heap.size w w'
theorem u64_mask {z : Int} (h0 : 0 ≤ z) (h1 : z < 18446744073709551616) : bits .and .u64 z 4294967295 = z % 4294967296 := by
  obtain ⟨n, rfl⟩ : ∃ n : Nat, z = (n : Int) := ⟨z.toNat, by omega⟩
  show IntKind.u64.wrap ((BitVec.ofInt 64 (n : Int) &&& BitVec.ofInt 64 4294967295).toNat : Int) = _
  have e1 : (BitVec.ofInt 64 (n : Int)).toNat = n := by
    rw [BitVec.ofInt_natCast, BitVec.toNat_ofNat]; exact Nat.mod_eq_of_lt (by omega)
  have e2 : (BitVec.ofInt 64 4294967295).toNat = 4294967295 := by rfl
  have e3 : n &&& 4294967295 = n % 4294967296 := Nat.and_two_pow_sub_one_eq_mod n 32
  rw [BitVec.toNat_and, e1, e2, e3, IntKind.wrap_u64]
  omega
theorem PlusAt.done {xs ys cs : List Nat} {N y : Nat} (h : PlusAt xs ys (N + 1) (N + 1) cs y) (hx : xs.length ≤ N) (hy : ys.length ≤ N) (sx : small xs) (sy : small ys) : val cs = val xs + val ys := by
  have e := h.eq
  rw [take_of_len (by rw [h.len]; exact Nat.le_refl _), List.take_of_length_le (by omega), List.take_of_length_le (by omega)] at e
  have h1 := Nat.lt_of_lt_of_le (val_lt sx) (pw_le hx)
  have h2 := Nat.lt_of_lt_of_le (val_lt sy) (pw_le hy)
  rw [pw_succ] at e
  rcases Nat.eq_zero_or_pos y with h0 | h0
  · rw [h0, Nat.mul_zero] at e; omega
  · have : 4294967296 * pw N * 1 ≤ 4294967296 * pw N * y := Nat.mul_le_mul_left _ h0
    omega
set_option maxHeartbeats 1000000 in
set_option maxRecDepth 100000 in
theorem plus_c (A B : Option Addr) (n c m d : Nat) (xs ys : List Nat) (w : World) (ha : Rd w A n xs) (hb : Rd w B m ys) (hn : n ≤ 17592186044416) (hm : m ≤ 17592186044416) :
    ∃ N, N ≤ n + m + 1 ∧ Calls Tryz.prog 105 #[.slice A n c, .slice B m d] w (Made w N (val xs + val ys)) := by
  have HX := Lib.hid ha.len
  have HY := Lib.hid hb.len
  have hsx := ha.sm
  have hsy := hb.sm
  by_cases h : n < m
  · refine ⟨m + 1, by omega, ?_⟩
    have hmk : ∀ w : World, (Instr.makeSlice 56 (.int .i64 ((m : Int) + 1)) (.int .i64 ((m : Int) + 1))).run Tryz.prog w = .ok (.slice (some ⟨w.heap.size, 0, none⟩) (m + 1) (m + 1)) (w.alloc (row (List.replicate (m + 1) 0))) := mk_words (m + 1) (by omega)
    have HK := Lib.hid (Bk.new0 w (m + 1))
    have HB := Lib.hid (below_alloc w (row (List.replicate (m + 1) 0)))
    go_enter Tryz.func105, Tryz.ntmps105
    go_wp2
    go_loopw [7, 8] (fun cy v wr => ∃ k y : Nat, ∃ cs, cy = .int .u64 y ∧ v = .int .i64 k ∧ k ≤ m + 1 ∧ PlusAt xs ys (m + 1) k cs y ∧ Bk wr w.heap.size cs ∧ Below w.heap.size w wr) (fun _ v _ => m + 1 - (intOf v).toNat)
    case atStart => exact ⟨0, 0, _, rfl, rfl, Nat.zero_le _, PlusAt.start xs ys (m + 1), HK.out, HB.out⟩
    case round =>
      obtain ⟨k, y, cs, rfl, rfl, hk, hP, hK, hG⟩ := hrel
      have hle := hP.le
      by_cases hkN : k < m + 1
      · have hnx := hP.next hsx hsy hkN
        have hfx := hK.frozen k
        have hcx := hK.cell k (by rw [hP.len]; exact hkN)
        have hl := hP.len
        by_cases hkn : k < n
        · by_cases hkm : k < m
          · obtain ⟨b1, o1, rfl, _, hca⟩ := (ha.below hG).of (by omega)
            have hci := hca k hkn
            have hx1 := small_get hsx k
            obtain ⟨b2, o2, rfl, _, hcb⟩ := (hb.below hG).of (by omega)
            have hdi := hcb k hkm
            have hy1 := small_get hsy k
            obtain ⟨x, hx⟩ : ∃ x, x = xs.getD k 0 := ⟨_, rfl⟩
            rw [← hx] at hci hx1 hnx
            obtain ⟨z, hz⟩ : ∃ z, z = ys.getD k 0 := ⟨_, rfl⟩
            rw [← hz] at hdi hy1 hnx
            have hbn := hK.set_ k ((y + x + z) % 4294967296) (by omega)
            have hgn := hG.setCell (p := ⟨w.heap.size, k, none⟩) (Nat.le_refl _) (.int .u32 ((((y + x + z) % 4294967296 : Nat)) : Int))
            have hv : ((((y + x + z) % 4294967296 : Nat)) : Int) = ((y : Int) + x + z) % 4294967296 := by omega
            rw [hv] at hbn hgn
            have hmask : bits .and .u64 ((y : Int) + x + z) 4294967295 = ((y : Int) + x + z) % 4294967296 := u64_mask (by omega) (by omega)
            have H1 := Lib.hid hnx
            have H2 := Lib.hid hbn
            have H3 := Lib.hid hgn
            clear hv hnx hbn hgn hP hK hG ha hb hsx hsy hx hca hz hcb
            go_wp2
            go_roundw
            case measure => simp [intOf]; omega
            case rel => exact ⟨k + 1, (y + x + z) / 4294967296, _, by go_num, by go_num, by omega, H1.out, H2.out, H3.out⟩
          · exfalso; omega
        · by_cases hkm : k < m
          · have hx0 : xs.getD k 0 = 0 := by rw [List.getD_eq_getElem?_getD, List.getElem?_eq_none (by rw [HX.out]; omega)]; rfl
            obtain ⟨b2, o2, rfl, _, hcb⟩ := (hb.below hG).of (by omega)
            have hdi := hcb k hkm
            have hy1 := small_get hsy k
            simp only [hx0, Nat.add_zero] at hnx
            obtain ⟨z, hz⟩ : ∃ z, z = ys.getD k 0 := ⟨_, rfl⟩
            rw [← hz] at hdi hy1 hnx
            have hbn := hK.set_ k ((y + z) % 4294967296) (by omega)
            have hgn := hG.setCell (p := ⟨w.heap.size, k, none⟩) (Nat.le_refl _) (.int .u32 ((((y + z) % 4294967296 : Nat)) : Int))
            have hv : ((((y + z) % 4294967296 : Nat)) : Int) = ((y : Int) + z) % 4294967296 := by omega
            rw [hv] at hbn hgn
            have hmask : bits .and .u64 ((y : Int) + z) 4294967295 = ((y : Int) + z) % 4294967296 := u64_mask (by omega) (by omega)
            have H1 := Lib.hid hnx
            have H2 := Lib.hid hbn
            have H3 := Lib.hid hgn
            clear hv hnx hbn hgn hP hK hG ha hb hsx hsy hx0 hz hcb
            go_wp2
            go_roundw
            case measure => simp [intOf]; omega
            case rel => exact ⟨k + 1, (y + z) / 4294967296, _, by go_num, by go_num, by omega, H1.out, H2.out, H3.out⟩
          · have hx0 : xs.getD k 0 = 0 := by rw [List.getD_eq_getElem?_getD, List.getElem?_eq_none (by rw [HX.out]; omega)]; rfl
            have hy0 : ys.getD k 0 = 0 := by rw [List.getD_eq_getElem?_getD, List.getElem?_eq_none (by rw [HY.out]; omega)]; rfl
            simp only [hx0, Nat.add_zero] at hnx
            simp only [hy0, Nat.add_zero] at hnx
            have hbn := hK.set_ k ((y) % 4294967296) (by omega)
            have hgn := hG.setCell (p := ⟨w.heap.size, k, none⟩) (Nat.le_refl _) (.int .u32 ((((y) % 4294967296 : Nat)) : Int))
            have hv : ((((y) % 4294967296 : Nat)) : Int) = ((y : Int)) % 4294967296 := by omega
            rw [hv] at hbn hgn
            have hmask : bits .and .u64 ((y : Int)) 4294967295 = ((y : Int)) % 4294967296 := u64_mask (by omega) (by omega)
            have H1 := Lib.hid hnx
            have H2 := Lib.hid hbn
            have H3 := Lib.hid hgn
            clear hv hnx hbn hgn hP hK hG ha hb hsx hsy hx0 hy0
            go_wp2
            go_roundw
            case measure => simp [intOf]; omega
            case rel => exact ⟨k + 1, (y) / 4294967296, _, by go_num, by go_num, by omega, H1.out, H2.out, H3.out⟩
      · obtain rfl : k = m + 1 := by omega
        have hd := hP.done (by rw [HX.out]; omega) (by rw [HY.out]; omega) hsx hsy
        have H := Lib.hid (show ∃ cs, cs.length = m + 1 ∧ val cs = val xs + val ys ∧ Bk wr w.heap.size cs ∧ Below w.heap.size w wr from ⟨cs, hP.len, hd, hK, hG⟩)
        clear hP hK hG hd ha hb hsx hsy hle
        go_wp2
        go_ret
        obtain ⟨cs, h1, h2, h3, h4⟩ := H.out
        exact ⟨cs, rfl, h1, h2, h3, h4⟩
  · refine ⟨n + 1, by omega, ?_⟩
    have hmk : ∀ w : World, (Instr.makeSlice 56 (.int .i64 ((n : Int) + 1)) (.int .i64 ((n : Int) + 1))).run Tryz.prog w = .ok (.slice (some ⟨w.heap.size, 0, none⟩) (n + 1) (n + 1)) (w.alloc (row (List.replicate (n + 1) 0))) := mk_words (n + 1) (by omega)
    have HK := Lib.hid (Bk.new0 w (n + 1))
    have HB := Lib.hid (below_alloc w (row (List.replicate (n + 1) 0)))
    go_enter Tryz.func105, Tryz.ntmps105
    go_wp2
    go_loopw [7, 8] (fun cy v wr => ∃ k y : Nat, ∃ cs, cy = .int .u64 y ∧ v = .int .i64 k ∧ k ≤ n + 1 ∧ PlusAt xs ys (n + 1) k cs y ∧ Bk wr w.heap.size cs ∧ Below w.heap.size w wr) (fun _ v _ => n + 1 - (intOf v).toNat)
    case atStart => exact ⟨0, 0, _, rfl, rfl, Nat.zero_le _, PlusAt.start xs ys (n + 1), HK.out, HB.out⟩
    case round =>
      obtain ⟨k, y, cs, rfl, rfl, hk, hP, hK, hG⟩ := hrel
      have hle := hP.le
      by_cases hkN : k < n + 1
      · have hnx := hP.next hsx hsy hkN
        have hfx := hK.frozen k
        have hcx := hK.cell k (by rw [hP.len]; exact hkN)
        have hl := hP.len
        by_cases hkn : k < n
        · by_cases hkm : k < m
          · obtain ⟨b1, o1, rfl, _, hca⟩ := (ha.below hG).of (by omega)
            have hci := hca k hkn
            have hx1 := small_get hsx k
            obtain ⟨b2, o2, rfl, _, hcb⟩ := (hb.below hG).of (by omega)
            have hdi := hcb k hkm
            have hy1 := small_get hsy k
            obtain ⟨x, hx⟩ : ∃ x, x = xs.getD k 0 := ⟨_, rfl⟩
            rw [← hx] at hci hx1 hnx
            obtain ⟨z, hz⟩ : ∃ z, z = ys.getD k 0 := ⟨_, rfl⟩
            rw [← hz] at hdi hy1 hnx
            have hbn := hK.set_ k ((y + x + z) % 4294967296) (by omega)
            have hgn := hG.setCell (p := ⟨w.heap.size, k, none⟩) (Nat.le_refl _) (.int .u32 ((((y + x + z) % 4294967296 : Nat)) : Int))
            have hv : ((((y + x + z) % 4294967296 : Nat)) : Int) = ((y : Int) + x + z) % 4294967296 := by omega
            rw [hv] at hbn hgn
            have hmask : bits .and .u64 ((y : Int) + x + z) 4294967295 = ((y : Int) + x + z) % 4294967296 := u64_mask (by omega) (by omega)
            have H1 := Lib.hid hnx
            have H2 := Lib.hid hbn
            have H3 := Lib.hid hgn
            clear hv hnx hbn hgn hP hK hG ha hb hsx hsy hx hca hz hcb
            go_wp2
            go_roundw
            case measure => simp [intOf]; omega
            case rel => exact ⟨k + 1, (y + x + z) / 4294967296, _, by go_num, by go_num, by omega, H1.out, H2.out, H3.out⟩
          · obtain ⟨b1, o1, rfl, _, hca⟩ := (ha.below hG).of (by omega)
            have hci := hca k hkn
            have hx1 := small_get hsx k
            have hy0 : ys.getD k 0 = 0 := by rw [List.getD_eq_getElem?_getD, List.getElem?_eq_none (by rw [HY.out]; omega)]; rfl
            obtain ⟨x, hx⟩ : ∃ x, x = xs.getD k 0 := ⟨_, rfl⟩
            rw [← hx] at hci hx1 hnx
            simp only [hy0, Nat.add_zero] at hnx
            have hbn := hK.set_ k ((y + x) % 4294967296) (by omega)
            have hgn := hG.setCell (p := ⟨w.heap.size, k, none⟩) (Nat.le_refl _) (.int .u32 ((((y + x) % 4294967296 : Nat)) : Int))
            have hv : ((((y + x) % 4294967296 : Nat)) : Int) = ((y : Int) + x) % 4294967296 := by omega
            rw [hv] at hbn hgn
            have hmask : bits .and .u64 ((y : Int) + x) 4294967295 = ((y : Int) + x) % 4294967296 := u64_mask (by omega) (by omega)
            have H1 := Lib.hid hnx
            have H2 := Lib.hid hbn
            have H3 := Lib.hid hgn
            clear hv hnx hbn hgn hP hK hG ha hb hsx hsy hx hca hy0
            go_wp2
            go_roundw
            case measure => simp [intOf]; omega
            case rel => exact ⟨k + 1, (y + x) / 4294967296, _, by go_num, by go_num, by omega, H1.out, H2.out, H3.out⟩
        · by_cases hkm : k < m
          · exfalso; omega
          · have hx0 : xs.getD k 0 = 0 := by rw [List.getD_eq_getElem?_getD, List.getElem?_eq_none (by rw [HX.out]; omega)]; rfl
            have hy0 : ys.getD k 0 = 0 := by rw [List.getD_eq_getElem?_getD, List.getElem?_eq_none (by rw [HY.out]; omega)]; rfl
            simp only [hx0, Nat.add_zero] at hnx
            simp only [hy0, Nat.add_zero] at hnx
            have hbn := hK.set_ k ((y) % 4294967296) (by omega)
            have hgn := hG.setCell (p := ⟨w.heap.size, k, none⟩) (Nat.le_refl _) (.int .u32 ((((y) % 4294967296 : Nat)) : Int))
            have hv : ((((y) % 4294967296 : Nat)) : Int) = ((y : Int)) % 4294967296 := by omega
            rw [hv] at hbn hgn
            have hmask : bits .and .u64 ((y : Int)) 4294967295 = ((y : Int)) % 4294967296 := u64_mask (by omega) (by omega)
            have H1 := Lib.hid hnx
            have H2 := Lib.hid hbn
            have H3 := Lib.hid hgn
            clear hv hnx hbn hgn hP hK hG ha hb hsx hsy hx0 hy0
            go_wp2
            go_roundw
            case measure => simp [intOf]; omega
            case rel => exact ⟨k + 1, (y) / 4294967296, _, by go_num, by go_num, by omega, H1.out, H2.out, H3.out⟩
      · obtain rfl : k = n + 1 := by omega
        have hd := hP.done (by rw [HX.out]; omega) (by rw [HY.out]; omega) hsx hsy
        have H := Lib.hid (show ∃ cs, cs.length = n + 1 ∧ val cs = val xs + val ys ∧ Bk wr w.heap.size cs ∧ Below w.heap.size w wr from ⟨cs, hP.len, hd, hK, hG⟩)
        clear hP hK hG hd ha hb hsx hsy hle
        go_wp2
        go_ret
        obtain ⟨cs, h1, h2, h3, h4⟩ := H.out
        exact ⟨cs, rfl, h1, h2, h3, h4⟩
end Go.Proofs.YteabokkofoomkaaGreat
namespace Go.Proofs.YteabokkofoomkaaGreat
open Go.RowKit
/-- an integer, new -/
def NumI (w : World) (z : Int) (e : Ending) (w' : World) : Prop :=
  ∃ t B m d, e = .returned (.agg #[.bool t, .slice B m d]) ∧ Is w' z t B m d ∧ Below w.heap.size w w'
theorem One.numI {w w' : World} {z : Int} {e : Ending} (h : One w z e w') : NumI w z e w' := by
  obtain ⟨A, c, he, h1, h2, h3, h4⟩ := h
  exact ⟨_, _, _, _, he, ⟨rfl, rfl, h1, h2, h3⟩, h4⟩
theorem Make_i {w : World} {s : Bool} {A : Option Addr} {n c : Nat} {xs : List Nat} (h : Rd w A n xs) (hc : n ≤ c) (hc2 : c ≤ 9223372036854775807) (hn : n ≤ 35184372088832) :
    Calls Tryz.prog 71 #[.bool s, .slice A n c] w (NumI w (sgn s (val xs))) := (Make_c s A n c xs w h hc hc2 hn).mono fun _ _ h => h.numI
theorem Is.neg_sgn {w : World} {z : Int} {t : Bool} {A : Option Addr} {n c : Nat} (h : Is w z t A n c) : sgn (!t) (val (words z.natAbs)) = -z := by
  rw [sgn_not, h.1, val_words, sgn_self]
theorem Is.pos_sgn {w : World} {z : Int} {t : Bool} {A : Option Addr} {n c : Nat} (h : Is w z t A n c) : sgn t (val (words z.natAbs)) = z := by
  rw [h.1, val_words, sgn_self]
/-- a result's box, not yet written -/
structure Res (W : World) (g : Nat) : Prop where
  lt : g < W.heap.size
  r0 : W.cell? ⟨g, 0, none⟩ = some (.bool false)
  r1 : W.cell? ⟨g, 1, none⟩ = some (.slice none 0 0)
  f0 : W.frozen? ⟨g, 0, none⟩ = false
  f1 : W.frozen? ⟨g, 1, none⟩ = false
theorem Res.next {W w1 : World} {g : Nat} (h : Res W g) (hb : Below W.heap.size W w1) : Res w1 g :=
  ⟨Nat.lt_of_lt_of_le h.lt hb.size, (hb.cell (p := ⟨g, 0, none⟩) h.lt).trans h.r0, (hb.cell (p := ⟨g, 1, none⟩) h.lt).trans h.r1, (hb.frozen (p := ⟨g, 0, none⟩) h.lt).trans h.f0, (hb.frozen (p := ⟨g, 1, none⟩) h.lt).trans h.f1⟩
theorem Res.new (W : World) : Res (W.alloc (.cells #[.bool false, .slice none 0 0] 58)) W.heap.size := ⟨by simp, by go_simp, by go_simp, by go_simp, by go_simp⟩
set_option maxHeartbeats 400000 in
theorem refNeg_c {w : World} {z : Int} {t : Bool} {A : Option Addr} {n c : Nat} (h : Is w z t A n c) (hn : n ≤ 17592186044416) :
    Calls Tryz.prog 123 #[.agg #[.bool t, .slice A n c]] w (NumI w (-z)) := by
  have HI := Lib.hid h
  have HN := Lib.hid h.neg_sgn
  clear h
  have hb : Below w.heap.size w ((w.alloc (.cells #[.bool t, .slice A n c] 58)).alloc (.cells #[.bool false, .slice none 0 0] 58)) := ((Below.refl _ _).alloc (Nat.le_refl _) _).alloc (by simp) _
  have R := Lib.hid (Res.new (w.alloc (.cells #[.bool t, .slice A n c] 58)))
  have HB := Lib.hid hb
  clear hb
  go_enter Tryz.func123, Tryz.ntmps123
  go_wp2_with fail
  refine (Make_i (HI.out.below HB.out).2.2.1 (HI.out).2.2.2.1 (HI.out).2.2.2.2 (by omega)).mono ?_
  rw [HN.out]
  rintro e w1 ⟨t', B, m, d, rfl, hi, hb1⟩
  have H := Lib.hid (HB.out.trans (hb1.mono HB.out.size))
  have R1 := Lib.hid (R.out.next hb1)
  have HH := Lib.hid hi
  clear hi hb1
  rw [World.size_alloc] at R1
  have r0 := R1.out.r0
  have r1 := R1.out.r1
  have f0 := R1.out.f0
  have f1 := R1.out.f1
  go_wp2
  refine bodyPost_ret (v := .agg #[.bool t', .slice B m d]) (by simp [results, Tryz.results123, go_sem, r0, r1]) rfl ?_
  exact ⟨t', B, m, d, rfl, HH.out.store r0 r1 _ _, below_store H.out (by omega) _ _⟩
set_option maxHeartbeats 400000 in
theorem refCmp_c {w : World} {z z' : Int} {t t' : Bool} {A A' : Option Addr} {n c n' c' : Nat} (h : Is w z t A n c) (h' : Is w z' t' A' n' c') (hn : n ≤ 17592186044416) (hn' : n' ≤ 17592186044416) :
    Calls Tryz.prog 87 #[.agg #[.bool t, .slice A n c], .agg #[.bool t', .slice A' n' c']] w (fun e w' => e = .returned (.int .i64 (ord z z')) ∧ Below w.heap.size w w') := by
  have HI := Lib.hid h
  have HJ := Lib.hid h'
  have HO := Lib.hid (show ord z z' = if t && !t' then -1 else if t' && !t then 1 else if t then ord ((val (words z'.natAbs) : Nat) : Int) ((val (words z.natAbs) : Nat) : Int) else ord ((val (words z.natAbs) : Nat) : Int) ((val (words z'.natAbs) : Nat) : Int) by
    have := ord_sgn t t' (val (words z.natAbs)) (val (words z'.natAbs)) (fun e => by rw [val_words] at e; rw [h.1, decide_eq_false (by omega)]) (fun e => by rw [val_words] at e; rw [h'.1, decide_eq_false (by omega)])
    rw [h.pos_sgn, h'.pos_sgn] at this
    exact this)
  clear h h'
  have hb : Below w.heap.size w ((w.alloc (.cells #[.bool t, .slice A n c] 58)).alloc (.cells #[.bool t', .slice A' n' c'] 58)) := ((Below.refl _ _).alloc (Nat.le_refl _) _).alloc (by simp) _
  have HB := Lib.hid hb
  have c1 := words_canon z.natAbs
  have c2 := words_canon z'.natAbs
  have r1 := (HI.out.below hb).2.2.1
  have r2 := (HJ.out.below hb).2.2.1
  have O1 := Lib.hid (order_c A A' n c n' c' _ _ _ r1 r2 c1 c2 (by omega) (by omega))
  have O2 := Lib.hid (order_c A' A n' c' n c _ _ _ r2 r1 c2 c1 (by omega) (by omega))
  clear hb c1 c2 r1 r2
  go_enter Tryz.func87, Tryz.ntmps87
  rcases t with _ | _ <;> rcases t' with _ | _
  · go_wp2_with fail
    refine (O1.out).mono ?_
    rintro e w1 ⟨rfl, j, rfl⟩
    go_wp2
    go_ret
    exact ⟨by rw [HO.out]; rfl, below_drewN HB.out j⟩
  · go_wp2
    go_ret
    exact ⟨by rw [HO.out]; rfl, HB.out⟩
  · go_wp2
    go_ret
    exact ⟨by rw [HO.out]; rfl, HB.out⟩
  · go_wp2_with fail
    refine (O2.out).mono ?_
    rintro e w1 ⟨rfl, j, rfl⟩
    go_wp2
    go_ret
    exact ⟨by rw [HO.out]; rfl, below_drewN HB.out j⟩
end Go.Proofs.YteabokkofoomkaaGreat
namespace Go.Proofs.YteabokkofoomkaaGreat
open Go.RowKit
/-- a number in a box, and a result's box, behind the world w -/
structure Env1r (w W : World) (s : Bool) (A : Option Addr) (n c : Nat) : Prop where
  size : w.heap.size + 2 ≤ W.heap.size
  a0 : W.cell? ⟨w.heap.size, 0, none⟩ = some (.bool s)
  a1 : W.cell? ⟨w.heap.size, 1, none⟩ = some (.slice A n c)
  res : Res W (w.heap.size + 1)
  below : Below w.heap.size w W
theorem Env1r.start (w : World) (s : Bool) (A : Option Addr) (n c : Nat) : Env1r w ((w.alloc (.cells #[.bool s, .slice A n c] 58)).alloc (.cells #[.bool false, .slice none 0 0] 58)) s A n c :=
  ⟨by simp, by go_simp, by go_simp, by
    have := Res.new (w.alloc (.cells #[.bool s, .slice A n c] 58))
    rw [World.size_alloc] at this
    exact this, ((Below.refl _ _).alloc (Nat.le_refl _) _).alloc (by simp) _⟩
theorem Env1r.next {w W w1 : World} {s : Bool} {A : Option Addr} {n c : Nat} (h : Env1r w W s A n c) (hb : Below W.heap.size W w1) : Env1r w w1 s A n c := by
  have hz := h.size
  have hz1 := hb.size
  exact ⟨by omega, (hb.cell (p := ⟨w.heap.size, 0, none⟩) (by simp; omega)).trans h.a0, (hb.cell (p := ⟨w.heap.size, 1, none⟩) (by simp; omega)).trans h.a1, h.res.next hb, h.below.trans (hb.mono (by omega))⟩
set_option maxHeartbeats 400000 in
theorem Bits_c {w : World} {z : Int} {t : Bool} {A : Option Addr} {n c : Nat} (h : Is w z t A n c) (hn : n ≤ 4096) :
    Calls Tryz.prog 115 #[.agg #[.bool t, .slice A n c]] w fun e w' => e = .returned (.int .i64 (blen z.natAbs)) ∧ Below w.heap.size w w' := by
  have S : Sz z 4096 := by show z.natAbs < pw 4096; exact words_len_le.1 (by rw [← h.2.1]; exact hn)
  obtain ⟨r, v, _, _, _⟩ := h.raw S (Nat.le_refl _)
  have H := Lib.hid (Box.new h)
  have B := Lib.hid (below_alloc w (.cells #[.bool t, .slice A n c] 58))
  have HR := Lib.hid r
  have HV := Lib.hid v
  clear h r v
  go_enter Tryz.func115, Tryz.ntmps115
  go_wp2_with fail
  generalize w.alloc (.cells #[.bool t, .slice A n c] 58) = W at H B ⊢
  refine (valid_c t A n c _ W (HR.out.below B.out)).mono ?_
  rintro e w1 ⟨rfl, hb⟩
  rw [HV.out]
  have H1 := Lib.hid (H.out.next hb)
  have B1 := Lib.hid (B.out.trans (hb.mono B.out.size))
  have hd := digits_c A n c _ _ H1.out.is.2.2.1 (words_canon _) (by omega)
  rw [val_words] at hd
  have HD := Lib.hid hd
  have c1 := H1.out.c1
  clear hd hb
  go_wp2_with fail
  refine HD.out.mono ?_
  rintro e w2 ⟨rfl, rfl⟩
  clear c1
  go_wp2
  go_ret
  exact ⟨rfl, B1.out⟩
end Go.Proofs.YteabokkofoomkaaGreat
namespace Go.Proofs.YteabokkofoomkaaGreat
open Go.RowKit
theorem blen_sz {z : Int} {k : Nat} (h : Sz z k) : blen z.natAbs ≤ 32 * k := blen_le.2 (by
  have h1 : z.natAbs < pw k := h
  unfold pw at h1
  rw [show (4294967296 : Nat) = 2 ^ 32 from rfl, ← Nat.pow_mul] at h1
  exact h1)
end Go.Proofs.YteabokkofoomkaaGreat
namespace Go.Proofs.YteabokkofoomkaaGreat
open Go.RowKit
end Go.Proofs.YteabokkofoomkaaGreat
namespace Go.Proofs.YteabokkofoomkaaGreat
open Go.RowKit
end Go.Proofs.YteabokkofoomkaaGreat
namespace Go.Proofs.YteabokkofoomkaaGreat
open Go.RowKit
end Go.Proofs.YteabokkofoomkaaGreat
namespace Go.Proofs.YteabokkofoomkaaGreat
open Go.RowKit
/-- where the error is ErrSize, there is no such number -/
theorem Bad.num {w w' : World} {z : Int} {e : Ending} (h : Bad w 4 e w') (hz : ¬ (words z.natAbs).length ≤ 4096) : Num w z e w' := by
  obtain ⟨rfl, hb⟩ := h
  exact ⟨false, none, 0, 0, 4, rfl, ⟨fun h => absurd h hz, fun _ => ⟨rfl, rfl, rfl, rfl, rfl⟩⟩, hb⟩
theorem long_of_blen {v k : Nat} (h : 32 * k < blen v) : ¬ (words v).length ≤ k := by
  intro hl
  have h1 := words_len_le.1 hl
  rw [pw_two] at h1
  have := blen_le.2 h1
  omega
end Go.Proofs.YteabokkofoomkaaGreat

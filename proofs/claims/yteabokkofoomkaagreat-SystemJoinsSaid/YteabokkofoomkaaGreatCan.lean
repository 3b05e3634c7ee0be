import Derived.Test.YteabokkofoomkaaGreatCab
import Derived.Test.YteabokkofoomkaaGreatCag
import Derived.Deep.RegionHeld3
import Derived.Lib.Tables
import Derived.Deep.Light
import Derived.Deep.LoopGhost
import Derived.IntWalk
namespace Go.Proofs.YteabokkofoomkaaGreat
open Go.RowKit
set_option maxHeartbeats 1000000 in
theorem order_c (A B : Option Addr) (n c m d : Nat) (xs ys : List Nat) (w : World) (ha : Rd w A n xs) (hb : Rd w B m ys) (hx : canon xs) (hy : canon ys) (hn : n ≤ 9223372036854775800) (hm : m ≤ 9223372036854775800) :
 Calls Tryz.prog 106 #[.slice A n c, .slice B m d] w (Quietly w (.int .i64 (ord (val xs) (val ys)))) := by
 have hxl := ha.len
 have hyl := hb.len
 by_cases hnm : n = m
 · subst hnm
   have HX := Lib.hid hxl
   have HY := Lib.hid hyl
   clear hxl hyl
   rcases Nat.eq_zero_or_pos n with h0 | h0
   · subst h0
     have hx0 : xs = [] := List.eq_nil_of_length_eq_zero HX.out
     have hy0 : ys = [] := List.eq_nil_of_length_eq_zero HY.out
     have HV := Lib.hid (show ord (val xs) (val ys) = 0 by rw [hx0, hy0]; rfl)
     clear hx0 hy0
     go_enter Tryz.func106, Tryz.ntmps106
     go_wp2
     go_loop [5] (fun v => v = .int .i64 (-1)) (fun _ => 0)
     case atStart => rfl
     case round =>
      obtain rfl := hrel
      go_wp2
      go_ret
      exact ⟨by rw [HV.out]; rfl, 0, rfl⟩
   · obtain ⟨b, o, rfl, _, hca⟩ := ha.of h0
     obtain ⟨b', o', rfl, _, hcb⟩ := hb.of h0
     have t : ((n : Int) != (n : Int)) = false := by simp
     go_enter Tryz.func106, Tryz.ntmps106
     go_wp2
     clear t
     go_loopw [5] (fun v wr => ∃ k j : Nat, k ≤ n ∧ v = .int .i64 ((k : Int) - 1) ∧ xs.drop k = ys.drop k ∧ wr = w.drewN j) (fun v _ => (intOf v + 1).toNat)
     case atStart => exact ⟨n, 0, Nat.le_refl _, rfl, by have h1 := HX.out; have h2 := HY.out; rw [List.drop_of_length_le (by omega), List.drop_of_length_le (by omega)], rfl⟩
     case round =>
      obtain ⟨k, j, hk, rfl, hd, rfl⟩ := hrel
      have HD := Lib.hid hd
      clear hd
      rcases Nat.eq_zero_or_pos k with hk0 | hk0
      · subst hk0
        have HV := Lib.hid (show ord (val xs) (val ys) = 0 from ord_eq (by have := HD.out; simp at this; rw [this]))
        go_wp2
        go_ret
        exact ⟨by rw [HV.out]; rfl, j, rfl⟩
      · obtain ⟨i, rfl⟩ : ∃ i, k = i + 1 := ⟨k - 1, by omega⟩
        have hci := hca i (by omega)
        have hdi := hcb i (by omega)
        have ei : (((i + 1 : Nat) : Int) - 1) = (i : Int) := by omega
        rw [ei]
        have hx1 := small_get hx.1 i
        have hy1 := small_get hy.1 i
        have HF := Lib.hid (cmp_find hx hy (by rw [HX.out, HY.out]) i (by have := HX.out; omega) HD.out)
        have HS := Lib.hid (drop_step (by rw [HX.out, HY.out]) (by have := HX.out; omega) HD.out)
        obtain ⟨x, hx2⟩ : ∃ x, x = xs.getD i 0 := ⟨_, rfl⟩
        obtain ⟨y, hy2⟩ : ∃ y, y = ys.getD i 0 := ⟨_, rfl⟩
        rw [← hx2] at hci hx1 HF HS
        rw [← hy2] at hdi hy1 HF HS
        clear hx2 hy2 hca hcb ei
        rcases Nat.lt_trichotomy x y with hlt | hxy | hgt
        · have HF2 := Lib.hid ((HF.out (by omega)).symm.trans (ord_lt (by omega)))
          have t : decide ((x : Int) < (y : Int)) = true := decide_eq_true (by omega)
          go_wp2
          go_quiet (fail)
          go_wp2
          go_ret
          exact ⟨by rw [HF2.out]; rfl, _, by rw [World.drewN_drewN]⟩
        · have HS2 := Lib.hid (HS.out hxy)
          subst hxy
          go_wp2
          go_quiet (fail)
          go_wp2
          go_quiet (fail)
          go_wp2
          go_roundw
          case measure => simp [intOf]
          case rel => exact ⟨i, _, by omega, rfl, HS2.out, rfl⟩
        · have HF2 := Lib.hid ((HF.out (by omega)).symm.trans (ord_gt (by omega)))
          have t : decide ((x : Int) < (y : Int)) = false := decide_eq_false (by omega)
          have t2 : decide ((y : Int) < (x : Int)) = true := decide_eq_true (by omega)
          go_wp2
          go_quiet (fail)
          go_wp2
          go_quiet (fail)
          go_wp2
          go_ret
          exact ⟨by rw [HF2.out]; rfl, _, by rw [World.drewN_drewN, World.drewN_drewN]⟩
 · have t : ((n : Int) != (m : Int)) = true := by rw [bne_iff_ne]; omega
   rcases Nat.lt_or_ge n m with h | h
   · have HV := Lib.hid (show ord (val xs) (val ys) = -1 by
      have := cmp_len hx.1 hy (by omega)
      exact ord_lt (by omega))
     clear hxl hyl
     go_enter Tryz.func106, Tryz.ntmps106
     go_wp2
     go_ret
     exact ⟨by rw [HV.out]; rfl, 0, rfl⟩
   · have HV := Lib.hid (show ord (val xs) (val ys) = 1 by
      have := cmp_len hy.1 hx (by omega)
      exact ord_gt (by omega))
     clear hxl hyl
     go_enter Tryz.func106, Tryz.ntmps106
     go_wp2
     go_ret
     exact ⟨by rw [HV.out]; rfl, 0, rfl⟩
structure PlusAt (xs ys : List Nat) (n k : Nat) (cs : List Nat) (y : Nat) : Prop where
 len : cs.length = n
 sm : small cs
 eq : val (cs.take k) + pw k * y = val (xs.take k) + val (ys.take k)
 le : y ≤ 1
theorem PlusAt.start (xs ys : List Nat) (n : Nat) : PlusAt xs ys n 0 (List.replicate n 0) 0 :=
 ⟨by simp, fun x hx => by have := List.eq_of_mem_replicate hx; omega, by simp [val], by omega⟩
theorem PlusAt.next {xs ys cs : List Nat} {n k y : Nat} (h : PlusAt xs ys n k cs y) (hx : small xs) (hy : small ys) (hk : k < n) :
 PlusAt xs ys n (k + 1) (cs.set k ((y + xs.getD k 0 + ys.getD k 0) % 4294967296)) ((y + xs.getD k 0 + ys.getD k 0) / 4294967296) := by
 have h1 := small_get hx k
 have h2 := small_get hy k
 have h3 := h.le
 refine ⟨by simp [h.len], small_set h.sm _ _ (by omega), ?_, by omega⟩
 rw [val_take_step, val_take_step, val_take_step]
 have e1 : (cs.set k ((y + xs.getD k 0 + ys.getD k 0) % 4294967296)).take k = cs.take k := by
  rw [List.take_set_of_le (Nat.le_refl _)]
 have e2 : (cs.set k ((y + xs.getD k 0 + ys.getD k 0) % 4294967296)).getD k 0 = (y + xs.getD k 0 + ys.getD k 0) % 4294967296 := by
  simp [List.getD_eq_getElem?_getD, h.len, hk]
 rw [e1, e2, pw_succ]
 have e := h.eq
 obtain ⟨X, hX⟩ : ∃ X, X = xs.getD k 0 := ⟨_, rfl⟩
 obtain ⟨Y, hY⟩ : ∃ Y, Y = ys.getD k 0 := ⟨_, rfl⟩
 rw [← hX, ← hY]
 obtain ⟨S, hS⟩ : ∃ S, S = y + X + Y := ⟨_, rfl⟩
 rw [← hS]
 have hd := Nat.div_add_mod S 4294967296
 have m1 : pw k * S = pw k * (S % 4294967296) + pw k * 4294967296 * (S / 4294967296) := by
  conv => lhs; rw [← hd]
  rw [Nat.mul_add, Nat.mul_assoc, Nat.add_comm]
 have m2 : pw k * S = pw k * y + pw k * X + pw k * Y := by rw [hS, Nat.mul_add, Nat.mul_add]
 have m3 : 4294967296 * pw k = pw k * 4294967296 := Nat.mul_comm _ _
 first
  | (rw [m3]; omega)
  | omega
def Made (w : World) (n v : Nat) (e : Ending) (w' : World) : Prop :=
 ∃ cs, e = .returned (.slice (some ⟨w.heap.size, 0, none⟩) n n) ∧ cs.length = n ∧ val cs = v ∧ Bk w' w.heap.size cs ∧ Below w.heap.size w w'
theorem u64_mask {z : Int} (h0 : 0 ≤ z) (h1 : z < 18446744073709551616) : bits .and .u64 z 4294967295 = z % 4294967296 := by
 obtain ⟨n, rfl⟩ : ∃ n : Nat, z = (n : Int) := ⟨z.toNat, by omega⟩
 show IntKind.u64.wrap ((BitVec.ofInt 64 (n : Int) &&& BitVec.ofInt 64 4294967295).toNat : Int) = _
 have e1 : (BitVec.ofInt 64 (n : Int)).toNat = n := by
  rw [BitVec.ofInt_natCast, BitVec.toNat_ofNat]; exact Nat.mod_eq_of_lt (by omega)
 have e2 : (BitVec.ofInt 64 4294967295).toNat = 4294967295 := by rfl
 have e3 : n &&& 4294967295 = n % 4294967296 := Nat.and_two_pow_sub_one_eq_mod n 32
 rw [BitVec.toNat_and, e1, e2, e3, IntKind.wrap_u64]
 omega
theorem PlusAt.done {xs ys cs : List Nat} {N y : Nat} (h : PlusAt xs ys (N + 1) (N + 1) cs y) (hx : xs.length ≤ N) (hy : ys.length ≤ N) (sx : small xs) (sy : small ys) : val cs = val xs + val ys := by
 have e := h.eq
 rw [take_of_len (by rw [h.len]; exact Nat.le_refl _), List.take_of_length_le (by omega), List.take_of_length_le (by omega)] at e
 have h1 := Nat.lt_of_lt_of_le (val_lt sx) (pw_le hx)
 have h2 := Nat.lt_of_lt_of_le (val_lt sy) (pw_le hy)
 rw [pw_succ] at e
 rcases Nat.eq_zero_or_pos y with h0 | h0
 · rw [h0, Nat.mul_zero] at e; omega
 · have : 4294967296 * pw N * 1 ≤ 4294967296 * pw N * y := Nat.mul_le_mul_left _ h0
   omega
set_option maxHeartbeats 1000000 in
set_option maxRecDepth 100000 in
theorem plus_c (A B : Option Addr) (n c m d : Nat) (xs ys : List Nat) (w : World) (ha : Rd w A n xs) (hb : Rd w B m ys) (hn : n ≤ 17592186044416) (hm : m ≤ 17592186044416) :
 ∃ N, N ≤ n + m + 1 ∧ Calls Tryz.prog 105 #[.slice A n c, .slice B m d] w (Made w N (val xs + val ys)) := by
 have HX := Lib.hid ha.len
 have HY := Lib.hid hb.len
 have hsx := ha.sm
 have hsy := hb.sm
 by_cases h : n < m
 · refine ⟨m + 1, by omega, ?_⟩
   have hmk : ∀ w : World, (Instr.makeSlice 56 (.int .i64 ((m : Int) + 1)) (.int .i64 ((m : Int) + 1))).run Tryz.prog w = .ok (.slice (some ⟨w.heap.size, 0, none⟩) (m + 1) (m + 1)) (w.alloc (row (List.replicate (m + 1) 0))) := mk_words (m + 1) (by omega)
   have HK := Lib.hid (Bk.new0 w (m + 1))
   have HB := Lib.hid (below_alloc w (row (List.replicate (m + 1) 0)))
   go_enter Tryz.func105, Tryz.ntmps105
   go_wp2
   go_loopw [7, 8] (fun cy v wr => ∃ k y : Nat, ∃ cs, cy = .int .u64 y ∧ v = .int .i64 k ∧ k ≤ m + 1 ∧ PlusAt xs ys (m + 1) k cs y ∧ Bk wr w.heap.size cs ∧ Below w.heap.size w wr) (fun _ v _ => m + 1 - (intOf v).toNat)
   case atStart => exact ⟨0, 0, _, rfl, rfl, Nat.zero_le _, PlusAt.start xs ys (m + 1), HK.out, HB.out⟩
   case round =>
    obtain ⟨k, y, cs, rfl, rfl, hk, hP, hK, hG⟩ := hrel
    have hle := hP.le
    by_cases hkN : k < m + 1
    · have hnx := hP.next hsx hsy hkN
      have hfx := hK.frozen k
      have hcx := hK.cell k (by rw [hP.len]; exact hkN)
      have hl := hP.len
      by_cases hkn : k < n
      · by_cases hkm : k < m
        · obtain ⟨b1, o1, rfl, _, hca⟩ := (ha.below hG).of (by omega)
          have hci := hca k hkn
          have hx1 := small_get hsx k
          obtain ⟨b2, o2, rfl, _, hcb⟩ := (hb.below hG).of (by omega)
          have hdi := hcb k hkm
          have hy1 := small_get hsy k
          obtain ⟨x, hx⟩ : ∃ x, x = xs.getD k 0 := ⟨_, rfl⟩
          rw [← hx] at hci hx1 hnx
          obtain ⟨z, hz⟩ : ∃ z, z = ys.getD k 0 := ⟨_, rfl⟩
          rw [← hz] at hdi hy1 hnx
          have hbn := hK.set_ k ((y + x + z) % 4294967296) (by omega)
          have hgn := hG.setCell (p := ⟨w.heap.size, k, none⟩) (Nat.le_refl _) (.int .u32 ((((y + x + z) % 4294967296 : Nat)) : Int))
          have hv : ((((y + x + z) % 4294967296 : Nat)) : Int) = ((y : Int) + x + z) % 4294967296 := by omega
          rw [hv] at hbn hgn
          have hmask : bits .and .u64 ((y : Int) + x + z) 4294967295 = ((y : Int) + x + z) % 4294967296 := u64_mask (by omega) (by omega)
          have H1 := Lib.hid hnx
          have H2 := Lib.hid hbn
          have H3 := Lib.hid hgn
          clear hv hnx hbn hgn hP hK hG ha hb hsx hsy hx hca hz hcb
          go_wp2
          go_roundw
          case measure => simp [intOf]; omega
          case rel => exact ⟨k + 1, (y + x + z) / 4294967296, _, by go_num, by go_num, by omega, H1.out, H2.out, H3.out⟩
        · exfalso; omega
      · by_cases hkm : k < m
        · have hx0 : xs.getD k 0 = 0 := by rw [List.getD_eq_getElem?_getD, List.getElem?_eq_none (by rw [HX.out]; omega)]; rfl
          obtain ⟨b2, o2, rfl, _, hcb⟩ := (hb.below hG).of (by omega)
          have hdi := hcb k hkm
          have hy1 := small_get hsy k
          simp only [hx0, Nat.add_zero] at hnx
          obtain ⟨z, hz⟩ : ∃ z, z = ys.getD k 0 := ⟨_, rfl⟩
          rw [← hz] at hdi hy1 hnx
          have hbn := hK.set_ k ((y + z) % 4294967296) (by omega)
          have hgn := hG.setCell (p := ⟨w.heap.size, k, none⟩) (Nat.le_refl _) (.int .u32 ((((y + z) % 4294967296 : Nat)) : Int))
          have hv : ((((y + z) % 4294967296 : Nat)) : Int) = ((y : Int) + z) % 4294967296 := by omega
          rw [hv] at hbn hgn
          have hmask : bits .and .u64 ((y : Int) + z) 4294967295 = ((y : Int) + z) % 4294967296 := u64_mask (by omega) (by omega)
          have H1 := Lib.hid hnx
          have H2 := Lib.hid hbn
          have H3 := Lib.hid hgn
          clear hv hnx hbn hgn hP hK hG ha hb hsx hsy hx0 hz hcb
          go_wp2
          go_roundw
          case measure => simp [intOf]; omega
          case rel => exact ⟨k + 1, (y + z) / 4294967296, _, by go_num, by go_num, by omega, H1.out, H2.out, H3.out⟩
        · have hx0 : xs.getD k 0 = 0 := by rw [List.getD_eq_getElem?_getD, List.getElem?_eq_none (by rw [HX.out]; omega)]; rfl
          have hy0 : ys.getD k 0 = 0 := by rw [List.getD_eq_getElem?_getD, List.getElem?_eq_none (by rw [HY.out]; omega)]; rfl
          simp only [hx0, Nat.add_zero] at hnx
          simp only [hy0, Nat.add_zero] at hnx
          have hbn := hK.set_ k ((y) % 4294967296) (by omega)
          have hgn := hG.setCell (p := ⟨w.heap.size, k, none⟩) (Nat.le_refl _) (.int .u32 ((((y) % 4294967296 : Nat)) : Int))
          have hv : ((((y) % 4294967296 : Nat)) : Int) = ((y : Int)) % 4294967296 := by omega
          rw [hv] at hbn hgn
          have hmask : bits .and .u64 ((y : Int)) 4294967295 = ((y : Int)) % 4294967296 := u64_mask (by omega) (by omega)
          have H1 := Lib.hid hnx
          have H2 := Lib.hid hbn
          have H3 := Lib.hid hgn
          clear hv hnx hbn hgn hP hK hG ha hb hsx hsy hx0 hy0
          go_wp2
          go_roundw
          case measure => simp [intOf]; omega
          case rel => exact ⟨k + 1, (y) / 4294967296, _, by go_num, by go_num, by omega, H1.out, H2.out, H3.out⟩
    · obtain rfl : k = m + 1 := by omega
      have hd := hP.done (by rw [HX.out]; omega) (by rw [HY.out]; omega) hsx hsy
      have H := Lib.hid (show ∃ cs, cs.length = m + 1 ∧ val cs = val xs + val ys ∧ Bk wr w.heap.size cs ∧ Below w.heap.size w wr from ⟨cs, hP.len, hd, hK, hG⟩)
      clear hP hK hG hd ha hb hsx hsy hle
      go_wp2
      go_ret
      obtain ⟨cs, h1, h2, h3, h4⟩ := H.out
      exact ⟨cs, rfl, h1, h2, h3, h4⟩
 · refine ⟨n + 1, by omega, ?_⟩
   have hmk : ∀ w : World, (Instr.makeSlice 56 (.int .i64 ((n : Int) + 1)) (.int .i64 ((n : Int) + 1))).run Tryz.prog w = .ok (.slice (some ⟨w.heap.size, 0, none⟩) (n + 1) (n + 1)) (w.alloc (row (List.replicate (n + 1) 0))) := mk_words (n + 1) (by omega)
   have HK := Lib.hid (Bk.new0 w (n + 1))
   have HB := Lib.hid (below_alloc w (row (List.replicate (n + 1) 0)))
   go_enter Tryz.func105, Tryz.ntmps105
   go_wp2
   go_loopw [7, 8] (fun cy v wr => ∃ k y : Nat, ∃ cs, cy = .int .u64 y ∧ v = .int .i64 k ∧ k ≤ n + 1 ∧ PlusAt xs ys (n + 1) k cs y ∧ Bk wr w.heap.size cs ∧ Below w.heap.size w wr) (fun _ v _ => n + 1 - (intOf v).toNat)
   case atStart => exact ⟨0, 0, _, rfl, rfl, Nat.zero_le _, PlusAt.start xs ys (n + 1), HK.out, HB.out⟩
   case round =>
    obtain ⟨k, y, cs, rfl, rfl, hk, hP, hK, hG⟩ := hrel
    have hle := hP.le
    by_cases hkN : k < n + 1
    · have hnx := hP.next hsx hsy hkN
      have hfx := hK.frozen k
      have hcx := hK.cell k (by rw [hP.len]; exact hkN)
      have hl := hP.len
      by_cases hkn : k < n
      · by_cases hkm : k < m
        · obtain ⟨b1, o1, rfl, _, hca⟩ := (ha.below hG).of (by omega)
          have hci := hca k hkn
          have hx1 := small_get hsx k
          obtain ⟨b2, o2, rfl, _, hcb⟩ := (hb.below hG).of (by omega)
          have hdi := hcb k hkm
          have hy1 := small_get hsy k
          obtain ⟨x, hx⟩ : ∃ x, x = xs.getD k 0 := ⟨_, rfl⟩
          rw [← hx] at hci hx1 hnx
          obtain ⟨z, hz⟩ : ∃ z, z = ys.getD k 0 := ⟨_, rfl⟩
          rw [← hz] at hdi hy1 hnx
          have hbn := hK.set_ k ((y + x + z) % 4294967296) (by omega)
          have hgn := hG.setCell (p := ⟨w.heap.size, k, none⟩) (Nat.le_refl _) (.int .u32 ((((y + x + z) % 4294967296 : Nat)) : Int))
          have hv : ((((y + x + z) % 4294967296 : Nat)) : Int) = ((y : Int) + x + z) % 4294967296 := by omega
          rw [hv] at hbn hgn
          have hmask : bits .and .u64 ((y : Int) + x + z) 4294967295 = ((y : Int) + x + z) % 4294967296 := u64_mask (by omega) (by omega)
          have H1 := Lib.hid hnx
          have H2 := Lib.hid hbn
          have H3 := Lib.hid hgn
          clear hv hnx hbn hgn hP hK hG ha hb hsx hsy hx hca hz hcb
          go_wp2
          go_roundw
          case measure => simp [intOf]; omega
          case rel => exact ⟨k + 1, (y + x + z) / 4294967296, _, by go_num, by go_num, by omega, H1.out, H2.out, H3.out⟩
        · obtain ⟨b1, o1, rfl, _, hca⟩ := (ha.below hG).of (by omega)
          have hci := hca k hkn
          have hx1 := small_get hsx k
          have hy0 : ys.getD k 0 = 0 := by rw [List.getD_eq_getElem?_getD, List.getElem?_eq_none (by rw [HY.out]; omega)]; rfl
          obtain ⟨x, hx⟩ : ∃ x, x = xs.getD k 0 := ⟨_, rfl⟩
          rw [← hx] at hci hx1 hnx
          simp only [hy0, Nat.add_zero] at hnx
          have hbn := hK.set_ k ((y + x) % 4294967296) (by omega)
          have hgn := hG.setCell (p := ⟨w.heap.size, k, none⟩) (Nat.le_refl _) (.int .u32 ((((y + x) % 4294967296 : Nat)) : Int))
          have hv : ((((y + x) % 4294967296 : Nat)) : Int) = ((y : Int) + x) % 4294967296 := by omega
          rw [hv] at hbn hgn
          have hmask : bits .and .u64 ((y : Int) + x) 4294967295 = ((y : Int) + x) % 4294967296 := u64_mask (by omega) (by omega)
          have H1 := Lib.hid hnx
          have H2 := Lib.hid hbn
          have H3 := Lib.hid hgn
          clear hv hnx hbn hgn hP hK hG ha hb hsx hsy hx hca hy0
          go_wp2
          go_roundw
          case measure => simp [intOf]; omega
          case rel => exact ⟨k + 1, (y + x) / 4294967296, _, by go_num, by go_num, by omega, H1.out, H2.out, H3.out⟩
      · by_cases hkm : k < m
        · exfalso; omega
        · have hx0 : xs.getD k 0 = 0 := by rw [List.getD_eq_getElem?_getD, List.getElem?_eq_none (by rw [HX.out]; omega)]; rfl
          have hy0 : ys.getD k 0 = 0 := by rw [List.getD_eq_getElem?_getD, List.getElem?_eq_none (by rw [HY.out]; omega)]; rfl
          simp only [hx0, Nat.add_zero] at hnx
          simp only [hy0, Nat.add_zero] at hnx
          have hbn := hK.set_ k ((y) % 4294967296) (by omega)
          have hgn := hG.setCell (p := ⟨w.heap.size, k, none⟩) (Nat.le_refl _) (.int .u32 ((((y) % 4294967296 : Nat)) : Int))
          have hv : ((((y) % 4294967296 : Nat)) : Int) = ((y : Int)) % 4294967296 := by omega
          rw [hv] at hbn hgn
          have hmask : bits .and .u64 ((y : Int)) 4294967295 = ((y : Int)) % 4294967296 := u64_mask (by omega) (by omega)
          have H1 := Lib.hid hnx
          have H2 := Lib.hid hbn
          have H3 := Lib.hid hgn
          clear hv hnx hbn hgn hP hK hG ha hb hsx hsy hx0 hy0
          go_wp2
          go_roundw
          case measure => simp [intOf]; omega
          case rel => exact ⟨k + 1, (y) / 4294967296, _, by go_num, by go_num, by omega, H1.out, H2.out, H3.out⟩
    · obtain rfl : k = n + 1 := by omega
      have hd := hP.done (by rw [HX.out]; omega) (by rw [HY.out]; omega) hsx hsy
      have H := Lib.hid (show ∃ cs, cs.length = n + 1 ∧ val cs = val xs + val ys ∧ Bk wr w.heap.size cs ∧ Below w.heap.size w wr from ⟨cs, hP.len, hd, hK, hG⟩)
      clear hP hK hG hd ha hb hsx hsy hle
      go_wp2
      go_ret
      obtain ⟨cs, h1, h2, h3, h4⟩ := H.out
      exact ⟨cs, rfl, h1, h2, h3, h4⟩
def NumI (w : World) (z : Int) (e : Ending) (w' : World) : Prop :=
 ∃ t B m d, e = .returned (.agg #[.bool t, .slice B m d]) ∧ Is w' z t B m d ∧ Below w.heap.size w w'
theorem One.numI {w w' : World} {z : Int} {e : Ending} (h : One w z e w') : NumI w z e w' := by
 obtain ⟨A, c, he, h1, h2, h3, h4⟩ := h
 exact ⟨_, _, _, _, he, ⟨rfl, rfl, h1, h2, h3⟩, h4⟩
theorem Make_i {w : World} {s : Bool} {A : Option Addr} {n c : Nat} {xs : List Nat} (h : Rd w A n xs) (hc : n ≤ c) (hc2 : c ≤ 9223372036854775807) (hn : n ≤ 35184372088832) :
 Calls Tryz.prog 71 #[.bool s, .slice A n c] w (NumI w (sgn s (val xs))) := (Make_c s A n c xs w h hc hc2 hn).mono fun _ _ h => h.numI
theorem Is.neg_sgn {w : World} {z : Int} {t : Bool} {A : Option Addr} {n c : Nat} (h : Is w z t A n c) : sgn (!t) (val (words z.natAbs)) = -z := by
 rw [sgn_not, h.1, val_words, sgn_self]
theorem Is.pos_sgn {w : World} {z : Int} {t : Bool} {A : Option Addr} {n c : Nat} (h : Is w z t A n c) : sgn t (val (words z.natAbs)) = z := by
 rw [h.1, val_words, sgn_self]
structure Res (W : World) (g : Nat) : Prop where
 lt : g < W.heap.size
 r0 : W.cell? ⟨g, 0, none⟩ = some (.bool false)
 r1 : W.cell? ⟨g, 1, none⟩ = some (.slice none 0 0)
 f0 : W.frozen? ⟨g, 0, none⟩ = false
 f1 : W.frozen? ⟨g, 1, none⟩ = false
theorem Res.next {W w1 : World} {g : Nat} (h : Res W g) (hb : Below W.heap.size W w1) : Res w1 g :=
 ⟨Nat.lt_of_lt_of_le h.lt hb.size, (hb.cell (p := ⟨g, 0, none⟩) h.lt).trans h.r0, (hb.cell (p := ⟨g, 1, none⟩) h.lt).trans h.r1, (hb.frozen (p := ⟨g, 0, none⟩) h.lt).trans h.f0, (hb.frozen (p := ⟨g, 1, none⟩) h.lt).trans h.f1⟩
theorem Res.new (W : World) : Res (W.alloc (.cells #[.bool false, .slice none 0 0] 58)) W.heap.size := ⟨by simp, by go_simp, by go_simp, by go_simp, by go_simp⟩
structure Env1r (w W : World) (s : Bool) (A : Option Addr) (n c : Nat) : Prop where
 size : w.heap.size + 2 ≤ W.heap.size
 a0 : W.cell? ⟨w.heap.size, 0, none⟩ = some (.bool s)
 a1 : W.cell? ⟨w.heap.size, 1, none⟩ = some (.slice A n c)
 res : Res W (w.heap.size + 1)
 below : Below w.heap.size w W
theorem Env1r.start (w : World) (s : Bool) (A : Option Addr) (n c : Nat) : Env1r w ((w.alloc (.cells #[.bool s, .slice A n c] 58)).alloc (.cells #[.bool false, .slice none 0 0] 58)) s A n c :=
 ⟨by simp, by go_simp, by go_simp, by
  have := Res.new (w.alloc (.cells #[.bool s, .slice A n c] 58))
  rw [World.size_alloc] at this
  exact this, ((Below.refl _ _).alloc (Nat.le_refl _) _).alloc (by simp) _⟩
theorem Env1r.next {w W w1 : World} {s : Bool} {A : Option Addr} {n c : Nat} (h : Env1r w W s A n c) (hb : Below W.heap.size W w1) : Env1r w w1 s A n c := by
 have hz := h.size
 have hz1 := hb.size
 exact ⟨by omega, (hb.cell (p := ⟨w.heap.size, 0, none⟩) (by simp; omega)).trans h.a0, (hb.cell (p := ⟨w.heap.size, 1, none⟩) (by simp; omega)).trans h.a1, h.res.next hb, h.below.trans (hb.mono (by omega))⟩
set_option maxHeartbeats 400000 in
theorem Bits_c {w : World} {z : Int} {t : Bool} {A : Option Addr} {n c : Nat} (h : Is w z t A n c) (hn : n ≤ 4096) :
 Calls Tryz.prog 115 #[.agg #[.bool t, .slice A n c]] w fun e w' => e = .returned (.int .i64 (blen z.natAbs)) ∧ Below w.heap.size w w' := by
 have S : Sz z 4096 := by show z.natAbs < pw 4096; exact words_len_le.1 (by rw [← h.2.1]; exact hn)
 obtain ⟨r, v, _, _, _⟩ := h.raw S (Nat.le_refl _)
 have H := Lib.hid (Box.new h)
 have B := Lib.hid (below_alloc w (.cells #[.bool t, .slice A n c] 58))
 have HR := Lib.hid r
 have HV := Lib.hid v
 clear h r v
 go_enter Tryz.func115, Tryz.ntmps115
 go_wp2_with fail
 generalize w.alloc (.cells #[.bool t, .slice A n c] 58) = W at H B ⊢
 refine (valid_c t A n c _ W (HR.out.below B.out)).mono ?_
 rintro e w1 ⟨rfl, hb⟩
 rw [HV.out]
 have H1 := Lib.hid (H.out.next hb)
 have B1 := Lib.hid (B.out.trans (hb.mono B.out.size))
 have hd := digits_c A n c _ _ H1.out.is.2.2.1 (words_canon _) (by omega)
 rw [val_words] at hd
 have HD := Lib.hid hd
 have c1 := H1.out.c1
 clear hd hb
 go_wp2_with fail
 refine HD.out.mono ?_
 rintro e w2 ⟨rfl, rfl⟩
 clear c1
 go_wp2
 go_ret
 exact ⟨rfl, B1.out⟩
theorem blen_sz {z : Int} {k : Nat} (h : Sz z k) : blen z.natAbs ≤ 32 * k := blen_le.2 (by
 have h1 : z.natAbs < pw k := h
 unfold pw at h1
 rw [show (4294967296 : Nat) = 2 ^ 32 from rfl, ← Nat.pow_mul] at h1
 exact h1)
theorem Bad.num {w w' : World} {z : Int} {e : Ending} (h : Bad w 4 e w') (hz : ¬ (words z.natAbs).length ≤ 4096) : Num w z e w' := by
 obtain ⟨rfl, hb⟩ := h
 exact ⟨false, none, 0, 0, 4, rfl, ⟨fun h => absurd h hz, fun _ => ⟨rfl, rfl, rfl, rfl, rfl⟩⟩, hb⟩
theorem long_of_blen {v k : Nat} (h : 32 * k < blen v) : ¬ (words v).length ≤ k := by
 intro hl
 have h1 := words_len_le.1 hl
 rw [pw_two] at h1
 have := blen_le.2 h1
 omega
theorem len_i (x : Int) (w : World) (h0 : 0 ≤ x) (h1 : x ≤ 18446744073709551615) : Calls Tryz.prog 141 #[.int .u64 x] w fun e w' => e = .returned (.int .i64 (Lib.bitLen x.toNat)) ∧ w' = w := by
 have H := Lib.hid (len64_i x w h0 h1)
 go_enter Tryz.func141, Tryz.ntmps141
 go_wp2_with fail
 refine H.out.mono ?_
 rintro e w' ⟨rfl, rfl⟩
 go_wp2
 go_ret
 exact ⟨rfl, rfl⟩
structure PowAt (w W : World) (z : Int) (t : Bool) (A : Option Addr) (n c g q : Nat) (t' : Bool) (B : Option Addr) (m d : Nat) : Prop where
 env : Env1r w W t A n c
 hg : w.heap.size + 2 ≤ g
 box : Box W g (z ^ q) t' B m d
 f0 : W.frozen? ⟨g, 0, none⟩ = false
 f1 : W.frozen? ⟨g, 1, none⟩ = false
 sz : m ≤ 4096
theorem PowAt.next {w W w1 : World} {z : Int} {t : Bool} {A : Option Addr} {n c g q : Nat} {t' : Bool} {B : Option Addr} {m d : Nat} (h : PowAt w W z t A n c g q t' B m d) (hb : Below W.heap.size W w1) : PowAt w w1 z t A n c g q t' B m d :=
 ⟨h.env.next hb, h.hg, h.box.next hb, (hb.frozen (p := ⟨g, 0, none⟩) h.box.lt).trans h.f0, (hb.frozen (p := ⟨g, 1, none⟩) h.box.lt).trans h.f1, h.sz⟩
theorem frozen_two (W : World) (g : Nat) (u v : Value) (p : Addr) : ((W.setCell ⟨g, 0, none⟩ u).setCell ⟨g, 1, none⟩ v).frozen? p = W.frozen? p := by
 rw [World.frozen?_setCell, World.frozen?_setCell]
theorem size_two (W : World) (g : Nat) (u v : Value) : ((W.setCell ⟨g, 0, none⟩ u).setCell ⟨g, 1, none⟩ v).heap.size = W.heap.size := by simp [World.setCell]
theorem own_two {W : World} {g : Nat} {x y u v : Value} (h0 : W.cell? ⟨g, 0, none⟩ = some x) (h1 : W.cell? ⟨g, 1, none⟩ = some y) :
 ((W.setCell ⟨g, 0, none⟩ u).setCell ⟨g, 1, none⟩ v).cell? ⟨g, 0, none⟩ = some u ∧ ((W.setCell ⟨g, 0, none⟩ u).setCell ⟨g, 1, none⟩ v).cell? ⟨g, 1, none⟩ = some v := by
 have e : (W.setCell ⟨g, 0, none⟩ u).cell? ⟨g, 1, none⟩ = some y := by rw [World.cell?_setCell_other _ _ _ _ (by simp)]; exact h1
 exact ⟨by rw [World.cell?_setCell_other _ _ _ _ (by simp)]; exact World.cell?_setCell_same _ _ _ h0, World.cell?_setCell_same _ _ _ e⟩
theorem Res.two {W : World} {b g : Nat} (h : Res W b) (hne : g ≠ b) (u v : Value) : Res ((W.setCell ⟨g, 0, none⟩ u).setCell ⟨g, 1, none⟩ v) b :=
 ⟨by rw [size_two]; exact h.lt, cell_two hne h.r0, cell_two hne h.r1, by rw [frozen_two]; exact h.f0, by rw [frozen_two]; exact h.f1⟩
theorem Env1r.two {w W : World} {s : Bool} {A : Option Addr} {n c g : Nat} (h : Env1r w W s A n c) (hg : w.heap.size + 2 ≤ g) (u v : Value) : Env1r w ((W.setCell ⟨g, 0, none⟩ u).setCell ⟨g, 1, none⟩ v) s A n c :=
 ⟨by rw [size_two]; exact h.size, cell_two (by omega) h.a0, cell_two (by omega) h.a1, h.res.two (by omega) u v, below_store h.below (by omega) u v⟩
theorem Box.put {W : World} {b : Nat} {z z' : Int} {t t' : Bool} {A B : Option Addr} {n c m d : Nat} (h : Box W b z t A n c) (hi : Is W z' t' B m d) : Box ((W.setCell ⟨b, 0, none⟩ (.bool t')).setCell ⟨b, 1, none⟩ (.slice B m d)) b z' t' B m d :=
 ⟨by rw [size_two]; exact h.lt, (own_two h.c0 h.c1).1, (own_two h.c0 h.c1).2, hi.store h.c0 h.c1 _ _⟩
theorem PowAt.put {w W : World} {z : Int} {t : Bool} {A : Option Addr} {n c g q : Nat} {t' : Bool} {B : Option Addr} {m d : Nat} (h : PowAt w W z t A n c g q t' B m d) {q' : Nat} {t2 : Bool} {B2 : Option Addr} {m2 d2 : Nat}
 (hi : Is W (z ^ q') t2 B2 m2 d2) (hl : m2 ≤ 4096) : PowAt w ((W.setCell ⟨g, 0, none⟩ (.bool t2)).setCell ⟨g, 1, none⟩ (.slice B2 m2 d2)) z t A n c g q' t2 B2 m2 d2 :=
 ⟨h.env.two h.hg _ _, h.hg, h.box.put hi, by rw [frozen_two]; exact h.f0, by rw [frozen_two]; exact h.f1, hl⟩
theorem Is.numIs {w : World} {z : Int} {t : Bool} {A : Option Addr} {n c : Nat} (h : Is w z t A n c) (hn : n ≤ 4096) : NumIs w z t A n c 0 :=
 ⟨fun _ => ⟨rfl, h.1, h.2.1, h.2.2.1, h.2.2.2⟩, fun hl => absurd (by rw [← h.2.1]; exact hn) hl⟩
theorem sz_of_len {z : Int} (h : (words z.natAbs).length ≤ 4096) : Sz z 4096 := words_len_le.1 h
theorem pow_len {z : Int} {p k : Nat} (hz : z ≠ 0) (hp : p ≤ k) (h : ¬ (words (z ^ p).natAbs).length ≤ 4096) : ¬ (words (z ^ k).natAbs).length ≤ 4096 := by
 intro hl
 apply h
 refine Nat.le_trans (words_mono ?_) hl
 rw [Int.natAbs_pow, Int.natAbs_pow]
 exact Nat.pow_le_pow_right (by omega) hp
theorem and_one (x : Nat) (h : x < 9223372036854775808) : bits BinOp.and IntKind.i64 (x : Int) 1 = ((x % 2 : Nat) : Int) := by
 show IntKind.i64.wrap ((BitVec.ofInt 64 (x : Int) &&& BitVec.ofInt 64 1).toNat : Int) = _
 rw [BitVec.toNat_and, BitVec.toNat_ofInt, BitVec.toNat_ofInt]
 rw [show (((x : Int) % ((2 ^ 64 : Nat) : Int)).toNat) = x by omega, show ((1 : Int) % ((2 ^ 64 : Nat) : Int)).toNat = 1 by decide, Nat.and_one_is_mod]
 exact IntWalk.i64_in _ (by omega)
theorem bit_at {K : Int} {k i : Nat} (h : K = (k : Int)) (hk : k < 131072) : bits BinOp.and IntKind.i64 (K / 2 ^ i) 1 = ((k / 2 ^ i % 2 : Nat) : Int) := by
 have e : K / 2 ^ i = ((k / 2 ^ i : Nat) : Int) := by rw [h, Int.natCast_ediv, Int.natCast_pow]; rfl
 rw [e, and_one _ (Nat.lt_of_le_of_lt (Nat.div_le_self _ _) (by omega))]
set_option maxHeartbeats 1000000 in
set_option maxRecDepth 100000 in
theorem Power_loop {w : World} {z : Int} {t : Bool} {A : Option Addr} {n c : Nat} (h : Is w z t A n c) (hn : n ≤ 4096) (hz : 1 < blen z.natAbs) (k : Nat) (hk0 : 0 < k) (hk : k < 131072) :
 Calls Tryz.prog 119 #[.agg #[.bool t, .slice A n c], .int .i64 (k : Int)] w (Num w (z ^ k)) := by
 have S : Sz z 4096 := by show z.natAbs < pw 4096; exact words_len_le.1 (by rw [← h.2.1]; exact hn)
 obtain ⟨r, v, s, hc, hc2⟩ := h.raw S (Nat.le_refl _)
 have hbl2 := blen_sz S
 have HV := Lib.hid v
 have HI := Lib.hid h
 have HR := Lib.hid r
 have E := Lib.hid (Env1r.start w t A n c)
 clear v r h s
 obtain ⟨K, hK⟩ : ∃ K : Int, K = (k : Int) := ⟨_, rfl⟩
 have hK0 : 0 < K := by omega
 have hK1 : K < 131072 := by omega
 rw [← hK]
 have HKk := Lib.hid hK
 clear hK hk0
 have t0 : (K == 0) = false := by rw [beq_eq_false_iff_ne]; omega
 have HK := Lib.hid hk
 clear hk
 go_enter Tryz.func119, Tryz.ntmps119
 go_wp2_with fail
 generalize (w.alloc (.cells #[.bool t, .slice A n c] 58)).alloc (.cells #[.bool false, .slice none 0 0] 58) = W at E ⊢
 refine (valid_c t A n c _ W (HR.out.below E.out.below)).mono ?_
 rintro e w1 ⟨rfl, hb⟩
 rw [HV.out]
 replace E := Lib.hid (E.out.next hb)
 clear hb
 have a0 := E.out.a0
 have a1 := E.out.a1
 go_wp2_with fail
 refine (Bits_c (HI.out.below E.out.below) hn).mono ?_
 rintro e w2 ⟨rfl, hb⟩
 replace E := Lib.hid (E.out.next hb)
 clear hb
 replace a0 := E.out.a0
 replace a1 := E.out.a1
 obtain ⟨b, hb0⟩ : ∃ b, b = blen z.natAbs := ⟨_, rfl⟩
 rw [← hb0]
 rw [← hb0] at hz
 have HSz := Lib.hid S
 have hz0 : z ≠ 0 := by rintro rfl; simp [blen] at hb0; omega
 have HZ := Lib.hid hz0
 clear hb0 S hbl2 hz0
 go_wp2_with fail
 refine (of_nat 1 _ (by omega)).mono ?_
 rintro e w3 ⟨B, d, rfl, o1, o2, o3, o4⟩
 replace E := Lib.hid (E.out.next o4)
 replace a0 := E.out.a0
 replace a1 := E.out.a1
 clear o4
 go_wp2_with fail
 refine (len_i K _ (by omega) (by omega)).mono ?_
 rintro e w4 ⟨rfl, rfl⟩
 have hL : Lib.bitLen K.toNat = blen k := by rw [HKk.out, Int.toNat_natCast, bitLen_blen k (by have := HK.out; omega)]
 rw [hL]
 clear hL
 have hL1 : blen k ≤ 17 := blen_le.2 (Nat.lt_of_lt_of_le HK.out (by decide))
 have hL0 := blen_pos (v := k) (by have := HKk.out; omega)
 have hL2 := blen_lt k
 obtain ⟨L, hL⟩ : ∃ L, L = blen k := ⟨_, rfl⟩
 rw [← hL]
 rw [← hL] at hL0 hL1 hL2
 have HL2 := Lib.hid hL2
 clear hL hL2
 have P : PowAt w (w3.alloc (.cells #[.bool false, .slice B (words 1).length d] 58)) z t A n c w3.heap.size (k / 2 ^ L) false B (words 1).length d := by
  rw [Nat.div_eq_of_lt HL2.out]
  refine ⟨E.out.next (below_alloc _ _), E.out.size, ?_, by go_simp, by go_simp, by rw [words_one (by omega) (by omega)]; decide⟩
  rw [Int.pow_zero]
  exact Box.new (z := 1) ⟨rfl, rfl, o1, o2, o3⟩
 have HP := Lib.hid P
 obtain ⟨g, hg⟩ : ∃ g, g = w3.heap.size := ⟨_, rfl⟩
 rw [← hg]
 rw [← hg] at HP
 obtain ⟨m, hm⟩ : ∃ m, m = (words 1).length := ⟨_, rfl⟩
 rw [← hm] at HP ⊢
 clear P o1 o2 o3 hm a0 a1 E hg
 go_wp2_with fail
 generalize w3.alloc (.cells #[.bool false, .slice B m d] 58) = W at HP ⊢
 go_loopw [8] (fun i wr => ∃ j : Nat, j ≤ L ∧ i = .int .i64 ((j : Int) - 1) ∧ ∃ t' B m d, PowAt w wr z t A n c g (k / 2 ^ j) t' B m d) (fun i _ => (intOf i + 1).toNat)
 case atStart => exact ⟨L, Nat.le_refl _, rfl, _, _, _, _, HP.out⟩
 case round =>
  obtain ⟨j, hj, rfl, t', B', m', d', hP⟩ := hrel
  clear HP
  have HP := Lib.hid hP
  clear hP
  rcases Nat.eq_zero_or_pos j with hj0 | hj0
  · subst hj0
    have hg2 := HP.out.hg
    have g1 : ¬ g = w.heap.size := by omega
    have g2 : ¬ w.heap.size = g := by omega
    have g3 : ¬ g = w.heap.size + 1 := by omega
    have g4 : ¬ w.heap.size + 1 = g := by omega
    clear hg2
    have c0 := HP.out.box.c0
    have c1 := HP.out.box.c1
    have r0 := HP.out.env.res.r0
    have r1 := HP.out.env.res.r1
    have q0 := HP.out.env.res.f0
    have q1 := HP.out.env.res.f1
    have hi := HP.out.box.is
    rw [Nat.pow_zero, Nat.div_one] at hi
    have HNI := Lib.hid (Is.numIs hi HP.out.sz)
    have HB := Lib.hid (HP.out.env.below)
    clear hi HP g1 g2 g3 g4
    go_wp2
    refine bodyPost_ret (v := .tuple #[.agg #[.bool t', .slice B' m' d'], .int .i64 0]) (by simp [results, Tryz.results119, go_sem, r0, r1]) rfl ?_
    exact ⟨t', B', m', d', 0, rfl, HNI.out.store r0 r1 _ _, below_store HB.out (by omega) _ _⟩
  · obtain ⟨i, rfl⟩ : ∃ i, j = i + 1 := ⟨j - 1, by omega⟩
    have c0 := HP.out.box.c0
    have c1 := HP.out.box.c1
    have S1 := Lib.hid (sz_of_len (by rw [← HP.out.box.is.2.1]; exact HP.out.sz) : Sz (z ^ (k / 2 ^ (i + 1))) 4096)
    go_wp2_with fail
    refine (Mul_is HP.out.box.is HP.out.box.is S1.out S1.out (Nat.le_refl _)).mono ?_
    rintro e w5 ⟨t2, B2, m2, d2, k2, rfl, hn2, hb⟩
    replace HP := Lib.hid (HP.out.next hb)
    have HN := Lib.hid hn2
    clear hn2 hb
    replace c0 := HP.out.box.c0
    replace c1 := HP.out.box.c1
    have f0 := HP.out.f0
    have f1 := HP.out.f1
    have a0 := HP.out.env.a0
    have a1 := HP.out.env.a1
    have hg2 := HP.out.hg
    have g1 : ¬ g = w.heap.size := by omega
    have g2 : ¬ w.heap.size = g := by omega
    have g3 : ¬ g = w.heap.size + 1 := by omega
    have g4 : ¬ w.heap.size + 1 = g := by omega
    clear hg2
    by_cases hl : (words (z ^ (k / 2 ^ (i + 1)) * z ^ (k / 2 ^ (i + 1))).natAbs).length ≤ 4096
    · obtain ⟨rfl, hi2⟩ := HN.out.is_ hl
      have HI2 := Lib.hid hi2
      have HL := Lib.hid hl
      clear hi2 hl HN
      by_cases hb : k / 2 ^ i % 2 = 0
      · have tb : (bits BinOp.and IntKind.i64 (K / 2 ^ i) 1 == 0) = true := by rw [bit_at HKk.out HK.out, hb]; rfl
        have hq : z ^ (k / 2 ^ (i + 1)) * z ^ (k / 2 ^ (i + 1)) = z ^ (k / 2 ^ i) := by
         rw [← Int.pow_add]; congr 1; rw [Nat.pow_succ, ← Nat.div_div_eq_div_mul]; omega
        rw [hq] at HI2 HL
        have HP2 := Lib.hid (HP.out.put HI2.out (by rw [HI2.out.2.1]; exact HL.out))
        clear hq hb HP a0 a1 g1 g2 g3 g4 hn hc hc2
        go_wp2
        go_roundw
        case measure => simp [intOf]
        case rel => exact ⟨i, by omega, by simp, _, _, _, _, HP2.out⟩
      · have tb : (bits BinOp.and IntKind.i64 (K / 2 ^ i) 1 == 0) = false := by rw [bit_at HKk.out HK.out, show k / 2 ^ i % 2 = 1 by omega]; rfl
        have HQ := Lib.hid (show z ^ (k / 2 ^ (i + 1)) * z ^ (k / 2 ^ (i + 1)) = z ^ (k / 2 ^ (i + 1) + k / 2 ^ (i + 1)) by rw [Int.pow_add])
        have HQ2 := Lib.hid (show z ^ (k / 2 ^ (i + 1) + k / 2 ^ (i + 1)) * z = z ^ (k / 2 ^ i) by
         rw [← Int.pow_succ]; congr 1; rw [Nat.pow_succ, ← Nat.div_div_eq_div_mul]; omega)
        rw [HQ.out] at HI2 HL
        have HP2 := Lib.hid (HP.out.put HI2.out (by rw [HI2.out.2.1]; exact HL.out))
        have S2 := Lib.hid (sz_of_len HL.out)
        clear hb HP HQ hn hc hc2
        go_wp2_with fail
        generalize (w5.setCell ⟨g, 0, none⟩ (.bool t2)).setCell ⟨g, 1, none⟩ (.slice B2 m2 d2) = W6 at HP2 ⊢
        refine (Mul_is HP2.out.box.is (HI.out.below HP2.out.env.below) S2.out HSz.out (Nat.le_refl _)).mono ?_
        rintro e w7 ⟨t3, B3, m3, d3, k3, rfl, hn3, hb⟩
        rw [HQ2.out] at hn3
        replace HP2 := Lib.hid (HP2.out.next hb)
        clear hb HI2 a0 a1 f0 f1 c0 c1
        have c0 := HP2.out.box.c0
        have c1 := HP2.out.box.c1
        have f0 := HP2.out.f0
        have f1 := HP2.out.f1
        by_cases hl : (words (z ^ (k / 2 ^ i)).natAbs).length ≤ 4096
        · obtain ⟨rfl, hi3⟩ := hn3.is_ hl
          have HP3 := Lib.hid (HP2.out.put hi3 (by rw [hi3.2.1]; exact hl))
          clear hi3 hl hn3 HP2
          go_wp2
          go_roundw
          case measure => simp [intOf]
          case rel => exact ⟨i, by omega, by simp, _, _, _, _, HP3.out⟩
        · obtain ⟨rfl, rfl, rfl, rfl, rfl⟩ := hn3.2 hl
          have HL3 := Lib.hid (pow_len HZ.out (Nat.div_le_self k (2 ^ i)) hl)
          clear hl hn3
          have r0 := HP2.out.env.res.r0
          have r1 := HP2.out.env.res.r1
          have q0 := HP2.out.env.res.f0
          have q1 := HP2.out.env.res.f1
          have B7 := Lib.hid (below_store (below_store HP2.out.env.below (by have := HP2.out.hg; omega : w.heap.size ≤ g) (.bool false) (.slice none 0 0)) (by omega : w.heap.size ≤ w.heap.size + 1) (.bool false) (.slice none 0 0))
          go_wp2
          refine bodyPost_ret (v := .tuple #[.agg #[.bool false, .slice none 0 0], .int .i64 4]) (by simp [results, Tryz.results119, go_sem, r0, r1]) rfl ?_
          exact Bad.num ⟨rfl, B7.out⟩ HL3.out
    · obtain ⟨rfl, rfl, rfl, rfl, rfl⟩ := HN.out.2 hl
      have HL := Lib.hid hl
      clear hl HN
      have r0 := HP.out.env.res.r0
      have r1 := HP.out.env.res.r1
      have q0 := HP.out.env.res.f0
      have q1 := HP.out.env.res.f1
      have HL3 := Lib.hid (pow_len HZ.out (show k / 2 ^ (i + 1) + k / 2 ^ (i + 1) ≤ k by rw [Nat.pow_succ, ← Nat.div_div_eq_div_mul]; have := Nat.div_le_self k (2 ^ i); omega) (by rw [Int.pow_add]; exact HL.out))
      have B7 := Lib.hid (below_store (below_store HP.out.env.below (by have := HP.out.hg; omega : w.heap.size ≤ g) (.bool false) (.slice none 0 0)) (by omega : w.heap.size ≤ w.heap.size + 1) (.bool false) (.slice none 0 0))
      go_wp2
      refine bodyPost_ret (v := .tuple #[.agg #[.bool false, .slice none 0 0], .int .i64 4]) (by simp [results, Tryz.results119, go_sem, r0, r1]) rfl ?_
      exact Bad.num ⟨rfl, B7.out⟩ HL3.out
end Go.Proofs.YteabokkofoomkaaGreat

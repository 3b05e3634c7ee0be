import Derived.Test.YtbblckaplddggaaWa
import Derived.Deep.RegionHeld3
import Derived.Lib.Tables
import Derived.Deep.Light
import Derived.Deep.LoopGhost
namespace Go.Proofs.Ytbblckaplddggaa
open Go.RowKit

set_option maxHeartbeats 1000000 in
theorem order_c (A B : Option Addr) (n c m d : Nat) (xs ys : List Nat) (w : World) (ha : Rd w A n xs) (hb : Rd w B m ys) (hx : canon xs) (hy : canon ys) (hn : n ≤ 9223372036854775800) (hm : m ≤ 9223372036854775800) :
    Calls Try.prog 64 #[.slice A n c, .slice B m d] w (Quietly w (.int .i64 (ord (val xs) (val ys)))) := by
  have hxl := ha.len
  have hyl := hb.len
  by_cases hnm : n = m
  · subst hnm
    have HX := Lib.hid hxl
    have HY := Lib.hid hyl
    clear hxl hyl
    rcases Nat.eq_zero_or_pos n with h0 | h0
    · subst h0
      have hx0 : xs = [] := List.eq_nil_of_length_eq_zero HX.out
      have hy0 : ys = [] := List.eq_nil_of_length_eq_zero HY.out
      have HV := Lib.hid (show ord (val xs) (val ys) = 0 by rw [hx0, hy0]; rfl)
      clear hx0 hy0
      go_enter Try.func64, Try.ntmps64
      go_wp2
      go_loop [5] (fun v => v = .int .i64 (-1)) (fun _ => 0)
      case atStart => rfl
      case round =>
        obtain rfl := hrel
        go_wp2
        go_ret
        exact ⟨by rw [HV.out]; rfl, 0, rfl⟩
    · obtain ⟨b, o, rfl, _, hca⟩ := ha.of h0
      obtain ⟨b', o', rfl, _, hcb⟩ := hb.of h0
      have t : ((n : Int) != (n : Int)) = false := by simp
      go_enter Try.func64, Try.ntmps64
      go_wp2
      clear t
      go_loopw [5] (fun v wr => ∃ k j : Nat, k ≤ n ∧ v = .int .i64 ((k : Int) - 1) ∧ xs.drop k = ys.drop k ∧ wr = w.drewN j) (fun v _ => (intOf v + 1).toNat)
      case atStart => exact ⟨n, 0, Nat.le_refl _, rfl, by have h1 := HX.out; have h2 := HY.out; rw [List.drop_of_length_le (by omega), List.drop_of_length_le (by omega)], rfl⟩
      case round =>
        obtain ⟨k, j, hk, rfl, hd, rfl⟩ := hrel
        have HD := Lib.hid hd
        clear hd
        rcases Nat.eq_zero_or_pos k with hk0 | hk0
        · subst hk0
          have HV := Lib.hid (show ord (val xs) (val ys) = 0 from ord_eq (by have := HD.out; simp at this; rw [this]))
          go_wp2
          go_ret
          exact ⟨by rw [HV.out]; rfl, j, rfl⟩
        · obtain ⟨i, rfl⟩ : ∃ i, k = i + 1 := ⟨k - 1, by omega⟩
          have hci := hca i (by omega)
          have hdi := hcb i (by omega)
          have ei : (((i + 1 : Nat) : Int) - 1) = (i : Int) := by omega
          rw [ei]
          have hx1 := small_get hx.1 i
          have hy1 := small_get hy.1 i
          have HF := Lib.hid (cmp_find hx hy (by rw [HX.out, HY.out]) i (by have := HX.out; omega) HD.out)
          have HS := Lib.hid (drop_step (by rw [HX.out, HY.out]) (by have := HX.out; omega) HD.out)
          obtain ⟨x, hx2⟩ : ∃ x, x = xs.getD i 0 := ⟨_, rfl⟩
          obtain ⟨y, hy2⟩ : ∃ y, y = ys.getD i 0 := ⟨_, rfl⟩
          rw [← hx2] at hci hx1 HF HS
          rw [← hy2] at hdi hy1 HF HS
          clear hx2 hy2 hca hcb ei
          rcases Nat.lt_trichotomy x y with hlt | hxy | hgt
          · have HF2 := Lib.hid ((HF.out (by omega)).symm.trans (ord_lt (by omega)))
            have t : decide ((x : Int) < (y : Int)) = true := decide_eq_true (by omega)
            go_wp2
            go_quiet (fail)
            go_wp2
            go_ret
            exact ⟨by rw [HF2.out]; rfl, _, by rw [World.drewN_drewN]⟩
          · have HS2 := Lib.hid (HS.out hxy)
            subst hxy
            go_wp2
            go_quiet (fail)
            go_wp2
            go_quiet (fail)
            go_wp2
            go_roundw
            case measure => simp [intOf]
            case rel => exact ⟨i, _, by omega, rfl, HS2.out, rfl⟩
          · have HF2 := Lib.hid ((HF.out (by omega)).symm.trans (ord_gt (by omega)))
            have t : decide ((x : Int) < (y : Int)) = false := decide_eq_false (by omega)
            have t2 : decide ((y : Int) < (x : Int)) = true := decide_eq_true (by omega)
            go_wp2
            go_quiet (fail)
            go_wp2
            go_quiet (fail)
            go_wp2
            go_ret
            exact ⟨by rw [HF2.out]; rfl, _, by rw [World.drewN_drewN, World.drewN_drewN]⟩
  · have t : ((n : Int) != (m : Int)) = true := by rw [bne_iff_ne]; omega
    rcases Nat.lt_or_ge n m with h | h
    · have HV := Lib.hid (show ord (val xs) (val ys) = -1 by
        have := cmp_len hx.1 hy (by omega)
        exact ord_lt (by omega))
      clear hxl hyl
      go_enter Try.func64, Try.ntmps64
      go_wp2
      go_ret
      exact ⟨by rw [HV.out]; rfl, 0, rfl⟩
    · have HV := Lib.hid (show ord (val xs) (val ys) = 1 by
        have := cmp_len hy.1 hx (by omega)
        exact ord_gt (by omega))
      clear hxl hyl
      go_enter Try.func64, Try.ntmps64
      go_wp2
      go_ret
      exact ⟨by rw [HV.out]; rfl, 0, rfl⟩

/-- sums of words under way: k words are out -/
structure PlusAt (xs ys : List Nat) (n k : Nat) (cs : List Nat) (y : Nat) : Prop where
  len : cs.length = n
  sm : small cs
  eq : val (cs.take k) + pw k * y = val (xs.take k) + val (ys.take k)
  le : y ≤ 1
theorem PlusAt.start (xs ys : List Nat) (n : Nat) : PlusAt xs ys n 0 (List.replicate n 0) 0 :=
  ⟨by simp, fun x hx => by have := List.eq_of_mem_replicate hx; omega, by simp [val], by omega⟩
theorem PlusAt.next {xs ys cs : List Nat} {n k y : Nat} (h : PlusAt xs ys n k cs y) (hx : small xs) (hy : small ys) (hk : k < n) :
    PlusAt xs ys n (k + 1) (cs.set k ((y + xs.getD k 0 + ys.getD k 0) % 4294967296)) ((y + xs.getD k 0 + ys.getD k 0) / 4294967296) := by
  have h1 := small_get hx k
  have h2 := small_get hy k
  have h3 := h.le
  refine ⟨by simp [h.len], small_set h.sm _ _ (by omega), ?_, by omega⟩
  rw [val_take_step, val_take_step, val_take_step]
  have e1 : (cs.set k ((y + xs.getD k 0 + ys.getD k 0) % 4294967296)).take k = cs.take k := by
    rw [List.take_set_of_le (Nat.le_refl _)]
  have e2 : (cs.set k ((y + xs.getD k 0 + ys.getD k 0) % 4294967296)).getD k 0 = (y + xs.getD k 0 + ys.getD k 0) % 4294967296 := by
    simp [List.getD_eq_getElem?_getD, h.len, hk]
  rw [e1, e2, pw_succ]
  have e := h.eq
  obtain ⟨X, hX⟩ : ∃ X, X = xs.getD k 0 := ⟨_, rfl⟩
  obtain ⟨Y, hY⟩ : ∃ Y, Y = ys.getD k 0 := ⟨_, rfl⟩
  rw [← hX, ← hY]
  obtain ⟨S, hS⟩ : ∃ S, S = y + X + Y := ⟨_, rfl⟩
  rw [← hS]
  have hd := Nat.div_add_mod S 4294967296
  have m1 : pw k * S = pw k * (S % 4294967296) + pw k * 4294967296 * (S / 4294967296) := by
    conv => lhs; rw [← hd]
    rw [Nat.mul_add, Nat.mul_assoc, Nat.add_comm]
  have m2 : pw k * S = pw k * y + pw k * X + pw k * Y := by rw [hS, Nat.mul_add, Nat.mul_add]
  have m3 : 4294967296 * pw k = pw k * 4294967296 := Nat.mul_comm _ _
  first
    | (rw [m3]; omega)
    | omega
end Go.Proofs.Ytbblckaplddggaa

import Derived.Test.YtmgkgomecakoiaaMem
import Derived.Deep.QuietTactic
import Derived.BigQuiet
namespace Go.Proofs.Ytmgkgomecakoiaa
open Go.RowKit

def ord (x y : Int) : Int := if x < y then -1 else if y < x then 1 else 0
theorem ord_lt {x y : Int} (h : x < y) : ord x y = -1 := if_pos h
theorem ord_gt {x y : Int} (h : y < x) : ord x y = 1 := by unfold ord; rw [if_neg (by omega), if_pos h]
theorem ord_eq {x y : Int} (h : x = y) : ord x y = 0 := by unfold ord; rw [if_neg (by omega), if_neg (by omega)]

set_option maxHeartbeats 400000 in
theorem cmpInt_c (x y : Int) (w : World) : Calls Try.prog 74 #[.int .i64 x, .int .i64 y] w fun e w' => e = .returned (.int .i64 (ord x y)) ∧ w' = w := by
  by_cases h1 : x < y
  · have H := Lib.hid (ord_lt h1)
    go_enter Try.func74, Try.ntmps74
    go_wp2
    go_ret
    exact ⟨by rw [H.out]; rfl, rfl⟩
  · by_cases h2 : y < x
    · have H := Lib.hid (ord_gt h2)
      go_enter Try.func74, Try.ntmps74
      go_wp2
      go_ret
      exact ⟨by rw [H.out]; rfl, rfl⟩
    · have H := Lib.hid (ord_eq (show x = y by omega))
      go_enter Try.func74, Try.ntmps74
      go_wp2
      go_ret
      exact ⟨by rw [H.out]; rfl, rfl⟩
set_option maxHeartbeats 400000 in
theorem cmpWord_c (x y : Int) (w : World) : Calls Try.prog 75 #[.int .u32 x, .int .u32 y] w fun e w' => e = .returned (.int .i64 (ord x y)) ∧ w' = w := by
  by_cases h1 : x < y
  · have H := Lib.hid (ord_lt h1)
    go_enter Try.func75, Try.ntmps75
    go_wp2
    go_ret
    exact ⟨by rw [H.out]; rfl, rfl⟩
  · by_cases h2 : y < x
    · have H := Lib.hid (ord_gt h2)
      go_enter Try.func75, Try.ntmps75
      go_wp2
      go_ret
      exact ⟨by rw [H.out]; rfl, rfl⟩
    · have H := Lib.hid (ord_eq (show x = y by omega))
      go_enter Try.func75, Try.ntmps75
      go_wp2
      go_ret
      exact ⟨by rw [H.out]; rfl, rfl⟩


theorem cmp_find {xs ys : List Nat} (hx : canon xs) (hy : canon ys) (hl : xs.length = ys.length) (k : Nat) (hk : k < xs.length)
    (he : xs.drop (k + 1) = ys.drop (k + 1)) (hne : ¬ xs.getD k 0 = ys.getD k 0) : ord ((xs.getD k 0 : Nat) : Int) ((ys.getD k 0 : Nat) : Int) = ord (val xs) (val ys) := by
  rcases Nat.lt_or_ge (xs.getD k 0) (ys.getD k 0) with h | h
  · have := cmp_top hx.1 hl k hk he h
    rw [ord_lt (by omega), ord_lt (by omega)]
  · have := cmp_top hy.1 hl.symm k (by omega) he.symm (by omega)
    rw [ord_gt (by omega), ord_gt (by omega)]
theorem drop_step {xs ys : List Nat} (hl : xs.length = ys.length) {k : Nat} (hk : k < xs.length) (he : xs.drop (k + 1) = ys.drop (k + 1)) (h : xs.getD k 0 = ys.getD k 0) : xs.drop k = ys.drop k := by
  rw [List.drop_eq_getElem_cons hk, List.drop_eq_getElem_cons (show k < ys.length by omega), he]
  simp only [List.getD_eq_getElem?_getD, List.getElem?_eq_getElem hk, List.getElem?_eq_getElem (show k < ys.length by omega), Option.getD_some] at h
  rw [h]

set_option maxHeartbeats 800000 in
theorem compare_c (A B : Option Addr) (n c m d : Nat) (xs ys : List Nat) (w : World) (ha : Rd w A n xs) (hb : Rd w B m ys) (hx : canon xs) (hy : canon ys) (hn : n ≤ 9223372036854775800) (hm : m ≤ 9223372036854775800) :
    Calls Try.prog 48 #[.slice A n c, .slice B m d] w (Quietly w (.int .i64 (ord (val xs) (val ys)))) := by
  have hxl := ha.len
  have hyl := hb.len
  by_cases hnm : n = m
  · subst hnm
    have HX := Lib.hid hxl
    have HY := Lib.hid hyl
    clear hxl hyl
    have t : ((n : Int) != (n : Int)) = false := by simp
    rcases Nat.eq_zero_or_pos n with h0 | h0
    · subst h0
      have hx0 : xs = [] := List.eq_nil_of_length_eq_zero HX.out
      have hy0 : ys = [] := List.eq_nil_of_length_eq_zero HY.out
      have HV := Lib.hid (show ord (val xs) (val ys) = 0 by rw [hx0, hy0]; rfl)
      clear hx0 hy0
      go_enter Try.func48, Try.ntmps48
      go_wp2
      go_loop [5] (fun v => v = .int .i64 (-1)) (fun _ => 0)
      case atStart => rfl
      case round =>
        obtain rfl := hrel
        go_wp2
        go_ret
        exact ⟨by rw [HV.out]; rfl, 0, rfl⟩
    · obtain ⟨b, o, rfl, _, hca⟩ := ha.of h0
      obtain ⟨b', o', rfl, _, hcb⟩ := hb.of h0
      clear t
      go_enter Try.func48, Try.ntmps48
      go_wp2
      go_loopw [5] (fun v wr => ∃ k j : Nat, k ≤ n ∧ v = .int .i64 ((k : Int) - 1) ∧ xs.drop k = ys.drop k ∧ wr = w.drewN j) (fun v _ => (intOf v + 1).toNat)
      case atStart => exact ⟨n, 0, Nat.le_refl _, rfl, by have h1 := HX.out; have h2 := HY.out; rw [List.drop_of_length_le (by omega), List.drop_of_length_le (by omega)], rfl⟩
      case round =>
        obtain ⟨k, j, hk, rfl, hd, rfl⟩ := hrel
        have HD := Lib.hid hd
        clear hd
        rcases Nat.eq_zero_or_pos k with hk0 | hk0
        · subst hk0
          have HV := Lib.hid (show ord (val xs) (val ys) = 0 from ord_eq (by have := HD.out; simp at this; rw [this]))
          go_wp2
          go_ret
          exact ⟨by rw [HV.out]; rfl, j, rfl⟩
        · obtain ⟨i, rfl⟩ : ∃ i, k = i + 1 := ⟨k - 1, by omega⟩
          have hci := hca i (by omega)
          have hdi := hcb i (by omega)
          have ei : (((i + 1 : Nat) : Int) - 1) = (i : Int) := by omega
          rw [ei]
          have hx1 := small_get hx.1 i
          have hy1 := small_get hy.1 i
          have HF := Lib.hid (cmp_find hx hy (by rw [HX.out, HY.out]) i (by have := HX.out; omega) HD.out)
          have HS := Lib.hid (drop_step (by rw [HX.out, HY.out]) (by have := HX.out; omega) HD.out)
          obtain ⟨x, hx2⟩ : ∃ x, x = xs.getD i 0 := ⟨_, rfl⟩
          obtain ⟨y, hy2⟩ : ∃ y, y = ys.getD i 0 := ⟨_, rfl⟩
          rw [← hx2] at hci hx1 HF HS
          rw [← hy2] at hdi hy1 HF HS
          clear hx2 hy2 hca hcb ei
          by_cases hxy : x = y
          · have HS2 := Lib.hid (HS.out hxy)
            subst hxy
            have t : ((x : Int) != (x : Int)) = false := by simp
            go_wp2
            go_quiet (fail)
            go_wp2
            go_roundw
            case measure => simp [intOf]
            case rel => exact ⟨i, _, by omega, rfl, HS2.out, rfl⟩
          · have HF2 := Lib.hid (HF.out hxy)
            have t : ((x : Int) != (y : Int)) = true := by rw [bne_iff_ne]; omega
            go_wp2
            go_quiet (fail)
            go_wp2
            go_quiet ((go_at_call 75; exact quiet_add_same (cmpWord_c _ _ _)))
            go_wp2
            go_ret
            exact ⟨by rw [← HF2.out]; rfl, j + (_ + _), by rw [World.drewN_drewN, World.drewN_drewN]⟩
  · have HV := Lib.hid (show ord (n : Int) (m : Int) = ord (val xs) (val ys) by
      rcases Nat.lt_or_ge n m with h | h
      · have := cmp_len hx.1 hy (by omega)
        rw [ord_lt (by omega), ord_lt (by omega)]
      · have := cmp_len hy.1 hx (by omega)
        rw [ord_gt (by omega), ord_gt (by omega)])
    have t : ((n : Int) != (m : Int)) = true := by rw [bne_iff_ne]; omega
    clear hxl hyl
    go_enter Try.func48, Try.ntmps48
    go_wp2_with (go_at_call 74; refine (cmpInt_c _ _ _).mono ?_; rintro e w' ⟨rfl, rfl⟩)
    go_ret
    exact ⟨by rw [← HV.out]; rfl, 0, rfl⟩
end Go.Proofs.Ytmgkgomecakoiaa

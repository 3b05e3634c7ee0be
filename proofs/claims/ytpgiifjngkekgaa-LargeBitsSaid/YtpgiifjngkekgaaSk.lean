import Derived.Test.YtpgiifjngkekgaaMb
import Derived.Test.YtpgiifjngkekgaaSj
import Derived.Outline
import Derived.Test.YtpgiifjngkekgaaVb
namespace Go.Proofs.Ytpgiifjngkekgaa
open Go.RowKit

set_option maxHeartbeats 400000 in
set_option maxRecDepth 100000 in
theorem refBits_c (s : Bool) (A : Option Addr) (n c : Nat) (xs : List Nat) (w : World) (h : Rd w A n xs) (hx : canon xs) (hn : n ≤ 17592186044416) :
    Calls Try.prog 36 #[.agg #[.bool s, .slice A n c]] w fun e w' => e = .returned (.int .i64 (blen (val xs))) ∧ Below w.heap.size w w' := by
  rcases Nat.eq_zero_or_pos n with h0 | h0
  · subst h0
    have hx0 : xs = [] := List.eq_nil_of_length_eq_zero h.len
    have H := Lib.hid (show blen (val xs) = 0 by rw [hx0]; rfl)
    clear hx0
    go_enter Try.func36, Try.ntmps36
    go_wp2
    go_ret
    exact ⟨by rw [H.out]; rfl, below_alloc _ _⟩
  · have hl := h.len
    have hb := blen_words hx (by omega)
    obtain ⟨b, o, rfl, hlt, hcell⟩ := h.of h0
    obtain ⟨j, rfl⟩ : ∃ j, n = j + 1 := ⟨n - 1, by omega⟩
    rw [hl, Nat.add_sub_cancel] at hb
    have hc := hcell j (by omega)
    have hx1 := small_get hx.1 j
    obtain ⟨x, hx2⟩ : ∃ x, x = xs.getD j 0 := ⟨_, rfl⟩
    rw [← hx2] at hc hx1 hb
    have hc2 : ∀ o1, (w.alloc o1).cell? ⟨b, o + j, none⟩ = some (.int .u32 (x : Int)) := fun o1 => (World.cell?_alloc_lt w o1 ⟨b, o + j, none⟩ hlt).trans hc
    have HB := Lib.hid hb
    have hle := blen_le.2 (show x < 2 ^ 32 by omega)
    have t : ((j : Int) + 1 == 0) = false := by rw [beq_eq_false_iff_ne]; omega
    clear hb hcell hl hx2 h hx hc
    go_enter Try.func36, Try.ntmps36
    go_wp2
    go_loop [4, 5] (fun k v => ∃ (i y : Nat), k = .int .i64 i ∧ v = .int .u32 y ∧ i + blen y = blen x ∧ y ≤ x) (fun _ v => (intOf v).toNat)
    case atStart => exact ⟨0, x, rfl, rfl, by omega, Nat.le_refl _⟩
    case round =>
      obtain ⟨i, y, rfl, rfl, he, hy⟩ := hrel
      by_cases hy0 : 0 < y
      · have hbh := Lib.hid (blen_half' hy0)
        have HE := Lib.hid he
        have hi : i ≤ 32 := by omega
        clear he
        go_wp2
        go_round
        case measure => simp [intOf]; omega
        case rel => exact ⟨i + 1, y / 2, by go_num, by go_num, by have := HE.out; have := hbh.out; omega, by omega⟩
      · obtain rfl : y = 0 := by omega
        have HE := Lib.hid (show i = blen x by rw [← he]; rfl)
        have hi : i ≤ 32 := by have := HE.out; omega
        clear he
        go_wp2
        go_ret
        exact ⟨ret_int (by rw [HB.out, ← HE.out]; omega), below_alloc _ _⟩

theorem u32_and (x y : Nat) (hx : x < 4294967296) (hy : y < 4294967296) : bits BinOp.and IntKind.u32 (x : Int) (y : Int) = ((x &&& y : Nat) : Int) := by
  show IntKind.u32.wrap ((BitVec.ofInt 32 (x : Int) &&& BitVec.ofInt 32 (y : Int)).toNat : Int) = _
  rw [BitVec.toNat_and, BitVec.toNat_ofInt, BitVec.toNat_ofInt]
  rw [show (((x : Int) % ((2 ^ 32 : Nat) : Int)).toNat) = x by omega, show (((y : Int) % ((2 ^ 32 : Nat) : Int)).toNat) = y by omega]
  have h : x &&& y ≤ x := Nat.and_le_left
  show ((x &&& y : Nat) : Int) % 4294967296 = _
  omega

set_option maxHeartbeats 1000000 in
set_option maxRecDepth 100000 in
theorem refUnder_c (s s' : Bool) (A A' : Option Addr) (n c n' c' : Nat) (xs ys : List Nat) (w : World) (h : Rd w A n xs) (h' : Rd w A' n' ys) (hn : n ≤ 17592186044416) (hn' : n' ≤ 17592186044416) :
    Calls Try.prog 37 #[.agg #[.bool s, .slice A n c], .agg #[.bool s', .slice A' n' c']] w fun e w' => e = .returned (.bool (decide (val xs &&& val ys = val xs))) ∧ Below w.heap.size w w' := by
  have HX := Lib.hid h.len
  have HY := Lib.hid h'.len
  have hsx := h.sm
  have hsy := h'.sm
  have HU := Lib.hid (under_iff hsx hsy)
  go_enter Try.func37, Try.ntmps37
  go_wp2
  have E := Lib.hid (Env2.start w s s' A A' n c n' c')
  generalize (w.alloc (.cells #[.bool s, .slice A n c] 24)).alloc (.cells #[.bool s', .slice A' n' c'] 24) = W at E ⊢
  have CA := Lib.hid (h.below E.out.below).at_
  have CB := Lib.hid (h'.below E.out.below).at_
  have a0 := E.out.a0
  have a1 := E.out.a1
  have b0 := E.out.b0
  have b1 := E.out.b1
  clear h h'
  go_loopw [5, 6] (fun v _ wr => ∃ i q : Nat, v = .int .i64 i ∧ i ≤ n ∧ wr = W.drewN q ∧ ∀ j, j < i → xs.getD j 0 &&& ys.getD j 0 = xs.getD j 0) (fun v _ _ => n - (intOf v).toNat)
  case atStart => exact ⟨0, 0, rfl, Nat.zero_le _, rfl, fun j hj => by omega⟩
  case round =>
    obtain ⟨i, q, rfl, hi, rfl, hall⟩ := hrel
    have HA := Lib.hid hall
    clear hall
    by_cases hin : i < n
    · obtain ⟨b, o, rfl, _, hca⟩ := CA.out (by omega)
      have hci := hca i hin
      have hx1 := small_get hsx i
      obtain ⟨x, hx2⟩ : ∃ x, x = xs.getD i 0 := ⟨_, rfl⟩
      have HX2 := Lib.hid hx2
      rw [← hx2] at hci hx1
      clear hx2 hca hsx
      by_cases hin' : i < n'
      · obtain ⟨b', o', rfl, _, hcb⟩ := CB.out (by omega)
        have hdi := hcb i (by omega)
        have hy1 := small_get hsy i
        obtain ⟨y, hy2⟩ : ∃ y, y = ys.getD i 0 := ⟨_, rfl⟩
        have HY2 := Lib.hid hy2
        rw [← hy2] at hdi hy1
        have han := u32_and x y hx1 hy1
        obtain ⟨z, hz⟩ : ∃ z, z = x &&& y := ⟨_, rfl⟩
        have HZ := Lib.hid hz
        rw [← hz] at han
        clear hy2 hcb hsy hz
        by_cases hz0 : z = x
        · have t : ((z : Int) != (x : Int)) = false := by rw [hz0]; simp
          have HZ0 := Lib.hid hz0
          clear hz0
          go_wp2
          go_quiet (fail)
          go_wp2
          go_roundw
          case measure => simp [intOf]; omega
          case rel => exact ⟨i + 1, _, by go_num, by omega, by first | rfl | rw [World.drewN_drewN], fun j hj => by
            by_cases hji : j = i
            · subst hji; rw [← HX2.out, ← HY2.out, ← HZ.out]; exact HZ0.out
            · exact HA.out j (by omega)⟩
        · have t : ((z : Int) != (x : Int)) = true := by rw [bne_iff_ne]; omega
          have HF := Lib.hid (show ¬ val xs &&& val ys = val xs from fun e => hz0 (by
            have := HU.out.2 e i (by rw [HX.out]; exact hin)
            rw [HZ.out, HX2.out, HY2.out]; exact this))
          clear hz0
          go_wp2
          go_quiet (fail)
          go_wp2
          go_ret
          exact ⟨by rw [decide_eq_false HF.out]; rfl, below_drewN (below_drewN E.out.below _) _⟩
      · have HY2 := Lib.hid (show ys.getD i 0 = 0 by rw [List.getD_eq_getElem?_getD, List.getElem?_eq_none (by rw [HY.out]; omega)]; rfl)
        have han := u32_and x 0 hx1 (by omega)
        rw [Nat.and_zero] at han
        have han2 : bits BinOp.and IntKind.u32 (x : Int) 0 = 0 := han
        clear han hsy
        by_cases hz0 : x = 0
        · subst hz0
          have HZ0 := Lib.hid HX2.out
          go_wp2
          go_quiet (fail)
          go_wp2
          go_roundw
          case measure => simp [intOf]; omega
          case rel => exact ⟨i + 1, _, by go_num, by omega, by first | rfl | rw [World.drewN_drewN], fun j hj => by
            by_cases hji : j = i
            · subst hji; rw [← HX2.out, Nat.zero_and]
            · exact HA.out j (by omega)⟩
        · have t : ((0 : Int) != (x : Int)) = true := by rw [bne_iff_ne]; omega
          have HF := Lib.hid (show ¬ val xs &&& val ys = val xs from fun e => hz0 (by
            have := HU.out.2 e i (by rw [HX.out]; exact hin)
            rw [HY2.out, Nat.and_zero] at this
            rw [HX2.out]; exact this.symm))
          clear hz0
          go_wp2
          go_quiet (fail)
          go_wp2
          go_ret
          exact ⟨by rw [decide_eq_false HF.out]; rfl, below_drewN (below_drewN E.out.below _) _⟩
    · have HF := Lib.hid (HU.out.1 (fun j hj => HA.out j (by rw [HX.out] at hj; omega)))
      go_wp2
      go_ret
      exact ⟨by rw [decide_eq_true HF.out]; rfl, below_drewN E.out.below _⟩
end Go.Proofs.Ytpgiifjngkekgaa

import Derived.Test.YthjdnidapbhdlaaDoorWa
namespace Go.Proofs.YthjdnidapbhdlaaDoor
open Go.RowKit

theorem shl_or (x y : Nat) (hx : x < 4294967296) (hy : y < 4294967296) : bits BinOp.or IntKind.u64 (x : Int) ((y : Int) * 4294967296) = ((x + 4294967296 * y : Nat) : Int) := by
  rw [show (y : Int) * 4294967296 = ((y * 2 ^ 32 : Nat) : Int) by omega, u64_or_nat _ _ (by omega) (by omega), Nat.or_comm, or_low _ _ _ (by omega)]
  omega

theorem cast_shift (T q : Nat) : ((T / 2 ^ q % 4294967296 : Nat) : Int) = (T : Int) / 2 ^ q % 4294967296 := by simp

set_option maxHeartbeats 1000000 in
theorem shiftDown_c (A : Option Addr) (n c k : Nat) (xs : List Nat) (w : World) (ha : Rd w A n xs) (hn : n < 35184372088832) (hk : k < 9223372036854775808) :
    Calls Tryd.prog 106 #[.slice A n c, .int .i64 (k : Int)] w (Out w (val xs / 2 ^ k)) := by
  obtain ⟨p, hp⟩ : ∃ p, p = k / 32 := ⟨_, rfl⟩
  obtain ⟨q, hq⟩ : ∃ q, q = k % 32 := ⟨_, rfl⟩
  have hq1 : q < 32 := by omega
  have hp1 : p ≤ k := by omega
  have e1 : ((k : Int) / 32) = (p : Int) := by omega
  have e2 : ((k : Int) % 32) = (q : Int) := by omega
  have HK := Lib.hid (show k = 32 * p + q by omega)
  have HL := Lib.hid ha.len
  have hs := ha.sm
  clear hp hq
  have hval : val (downs q (xs.drop p)) = val xs / 2 ^ k := by rw [downs_val hq1 (small_drop hs p), val_drop hs p, shift_div _ p q k HK.out]
  have HV := Lib.hid hval
  clear hval
  by_cases hpn : n ≤ p
  · have HZ := Lib.hid (show val xs / 2 ^ k = 0 by rw [← HV.out, List.drop_of_length_le (by rw [HL.out]; exact hpn)]; rfl)
    go_enter Tryd.func106, Tryd.ntmps106
    go_wp2
    go_ret
    rw [HZ.out]
    exact out_zero w
  · have hmk : ∀ w : World, (Instr.makeSlice 22 (.int .i64 ((n : Int) - p)) (.int .i64 ((n : Int) - p))).run Tryd.prog w = .ok (.slice (some ⟨w.heap.size, 0, none⟩) (n - p) (n - p)) (w.alloc (row (List.replicate (n - p) 0))) := fun w => by
      have := mk_words (n - p) (by omega) w
      rwa [show ((n - p : Nat) : Int) = (n : Int) - p by omega] at this
    obtain ⟨b, o, rfl, hb, hcell⟩ := ha.of (by omega)
    go_enter Tryd.func106, Tryd.ntmps106
    go_wp2
    simp only [e2]
    clear hmk e1 e2
    go_loopw [25] (fun i wr => ∃ j : Nat, ∃ L, i = .int .i64 j ∧ j ≤ n - p ∧ L.length = n - p ∧ L.take j = (downs q (xs.drop p)).take j ∧ Bk wr w.heap.size L ∧ Below w.heap.size w wr) (fun i _ => n - p - (intOf i).toNat)
    case atStart => exact ⟨0, List.replicate (n - p) 0, rfl, Nat.zero_le _, by simp, rfl, Bk.new0 _ _, (Below.refl _ _).alloc (Nat.le_refl _) _⟩
    case round =>
      obtain ⟨j, L, rfl, hj, hlen, hT, hB, hW⟩ := hrel
      have hdl : (downs q (xs.drop p)).length = n - p := by rw [downs_len, List.length_drop, HL.out]
      by_cases hjn : j < n - p
      · have hcj := (hW.cell (p := ⟨b, o + (p + j), none⟩) hb).trans (hcell (p + j) (by omega))
        have hcx := hB.cell j (by omega)
        have hfx := hB.frozen j
        have hget := downs_get q (xs.drop p) j (by rw [List.length_drop, HL.out]; exact hjn)
        have hstep := fill_step hT (by omega) (by rw [hlen, hdl])
        have eg : ∀ i, (xs.drop p).getD i 0 = xs.getD (p + i) 0 := fun i => by simp [List.getD_eq_getElem?_getD, List.getElem?_drop]
        rw [eg, eg] at hget
        have hx1 := small_get hs (p + j)
        have hy1 := small_get hs (p + (j + 1))
        obtain ⟨x, hx2⟩ : ∃ x, x = xs.getD (p + j) 0 := ⟨_, rfl⟩
        obtain ⟨y, hy2⟩ : ∃ y, y = xs.getD (p + (j + 1)) 0 := ⟨_, rfl⟩
        rw [← hx2] at hcj hx1 hget
        rw [← hy2] at hy1 hget
        obtain ⟨v, hv⟩ : ∃ v, v = (x + 4294967296 * y) / 2 ^ q % 4294967296 := ⟨_, rfl⟩
        rw [← hv] at hget
        rw [hget] at hstep
        have hv1 : v < 4294967296 := by omega
        have e3 : ((v : Nat) : Int) = ((x + 4294967296 * y : Nat) : Int) / 2 ^ q % 4294967296 := by rw [hv]; exact cast_shift _ _
        have hbn := hB.set_ j v hv1
        have hwn := hW.setCell (p := ⟨w.heap.size, j, none⟩) (Nat.le_refl _) (.int .u32 (v : Int))
        have hln : (L.set j v).length = n - p := by rw [List.length_set]; exact hlen
        have H1 := Lib.hid hstep
        have H4 := Lib.hid hln
        have i1 : (0 : Int) ≤ (p : Int) + j := by omega
        rw [e3] at hbn hwn
        by_cases hn1 : p + j + 1 < n
        · have hck := (hW.cell (p := ⟨b, o + (p + j + 1), none⟩) hb).trans (hcell (p + (j + 1)) (by omega))
          rw [← hy2] at hck
          have hor := shl_or x y hx1 hy1
          obtain ⟨T, hT2⟩ : ∃ T, T = x + 4294967296 * y := ⟨_, rfl⟩
          rw [← hT2] at hor hbn hwn
          have H2 := Lib.hid hbn
          have H3 := Lib.hid hwn
          clear e3 hT2 hv hx2 hy2 hget hstep hbn hwn hln hcell hB hW hlen hT hs eg hdl
          go_wp2
          go_roundw
          case measure => simp [intOf]; omega
          case rel => exact ⟨j + 1, _, by go_num, by omega, H4.out, H1.out, H2.out, H3.out⟩
        · have hy0 : y = 0 := by rw [hy2, List.getD_eq_getElem?_getD, List.getElem?_eq_none (by rw [HL.out]; omega)]; rfl
          rw [hy0, Nat.mul_zero, Nat.add_zero] at hbn hwn
          have H2 := Lib.hid hbn
          have H3 := Lib.hid hwn
          clear e3 hy0 hv hx2 hy2 hget hstep hbn hwn hln hcell hB hW hlen hT hs eg hdl
          go_wp2
          go_roundw
          case measure => simp [intOf]; omega
          case rel => exact ⟨j + 1, _, by go_num, by omega, H4.out, H1.out, H2.out, H3.out⟩
      · have hLd : L = downs q (xs.drop p) := by
          rwa [take_of_len (by omega), take_of_len (by omega)] at hT
        have H1 := Lib.hid hLd
        have hrd := hB.rd
        rw [hlen] at hrd
        have H2 := Lib.hid hB
        have H3 := Lib.hid hW
        have H4 := Lib.hid hlen
        clear hLd hB hW hlen hT hdl hcell hs
        go_wp2_with fail
        refine (trim_c _ _ _ L wr hrd (Nat.le_refl _) (by omega)).mono ?_
        intro e w3 h3
        obtain ⟨A', c', rfl, r1, r2, r3, r4, r5⟩ := out_of_trim (v := val xs / 2 ^ k) H2.out (Nat.le_refl _) (by rw [H1.out]; exact HV.out) H3.out (by have := H4.out; omega) h3
        have R := Lib.hid r5
        clear r5 h3
        go_wp2
        go_ret
        exact ⟨A', c', rfl, r1, r2, r3, r4, R.out⟩
end Go.Proofs.YthjdnidapbhdlaaDoor

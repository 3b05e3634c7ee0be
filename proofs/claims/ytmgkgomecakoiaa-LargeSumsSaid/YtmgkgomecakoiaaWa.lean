import Derived.Test.YtmgkgomecakoiaaMem
namespace Go.Proofs.Ytmgkgomecakoiaa
open Go.RowKit

theorem trim_last {xs : List Nat} {k : Nat} (hk : k < xs.length) (hz : val (xs.drop (k + 1)) = 0) (h0 : xs.getD k 0 = 0) : val (xs.drop k) = 0 := by
  rw [List.drop_eq_getElem_cons hk, val_cons, hz]
  simpa [List.getD_eq_getElem?_getD, List.getElem?_eq_getElem hk] using h0
theorem trim_len {xs : List Nat} (hs : small xs) {k : Nat} (hk : k ≤ xs.length) (hz : val (xs.drop k) = 0) (hl : k = 0 ∨ xs.getD (k - 1) 0 ≠ 0) : (words (val xs)).length = k := by
  rw [← words_of_take hs hk hz hl, List.length_take]; omega

set_option maxHeartbeats 400000 in
theorem trim_q (A : Option Addr) (n c : Nat) (xs : List Nat) (w : World) (h : Rd w A n xs) (hc : n ≤ c) (hc2 : c ≤ 9223372036854775807) :
    Calls Try.prog 72 #[.slice A n c] w (Quietly w (.slice (trimA A (words (val xs)).length) (words (val xs)).length (words (val xs)).length)) := by
  have hlen := h.len
  rcases Nat.eq_zero_or_pos n with h0 | h0
  · subst h0
    have hx : xs = [] := List.eq_nil_of_length_eq_zero hlen
    subst hx
    clear hlen
    have hw : (words (val [])).length = 0 := by rw [val_nil, words_zero]; rfl
    rw [hw]
    clear hw
    go_enter Try.func72, Try.ntmps72
    go_wp2
    go_loop [3] (fun v => v = .int .i64 0) (fun _ => 0)
    case atStart => rfl
    case round =>
      obtain rfl := hrel
      go_wp2
      go_ret
      exact ⟨rfl, 0, rfl⟩
  · obtain ⟨b, o, rfl, hb, hcell⟩ := h.of h0
    have hs := h.sm
    have H := Lib.hid h
    clear h
    have HL := Lib.hid hlen
    clear hlen
    go_enter Try.func72, Try.ntmps72
    go_wp2
    go_loop [3] (fun v => ∃ k : Nat, k ≤ n ∧ v = .int .i64 k ∧ val (xs.drop k) = 0) (fun v => (intOf v).toNat)
    case atStart => exact ⟨n, Nat.le_refl _, rfl, by rw [← HL.out, List.drop_length]; rfl⟩
    case round =>
      obtain ⟨k, hk, rfl, hz⟩ := hrel
      have HZ := Lib.hid hz
      clear hz
      rcases Nat.eq_zero_or_pos k with hk0 | hk0
      · subst hk0
        have HM := Lib.hid (trim_len hs (Nat.zero_le _) HZ.out (.inl rfl))
        go_wp2
        go_ret
        exact ⟨by rw [HM.out]; rfl, 0, rfl⟩
      · obtain ⟨j, rfl⟩ : ∃ j, k = j + 1 := ⟨k - 1, by omega⟩
        have hcj := hcell j (by omega)
        clear hcell
        obtain ⟨x, hx⟩ : ∃ x, x = xs.getD j 0 := ⟨_, rfl⟩
        rw [← hx] at hcj
        have HX := Lib.hid hx
        clear hx
        by_cases h0 : x = 0
        · have t : ((x : Int) == 0) = true := by subst h0; rfl
          have hz2 := trim_last (by have := HL.out; omega) HZ.out (by rw [← HX.out]; exact h0)
          have HZ2 := Lib.hid hz2
          clear hz2 h0
          go_wp2
          go_round
          case rel => exact ⟨j, by omega, by go_num, HZ2.out⟩
          case measure => simp [intOf]
        · have t : ((x : Int) == 0) = false := by simpa using h0
          have HM := Lib.hid (trim_len hs (by have := HL.out; omega) HZ.out (.inr (by rw [Nat.add_sub_cancel, ← HX.out]; exact h0)))
          clear h0
          go_wp2
          go_ret
          exact ⟨by rw [HM.out, trimA_pos _ (by omega)]; rfl, 0, rfl⟩
theorem trim_c (A : Option Addr) (n c : Nat) (xs : List Nat) (w : World) (h : Rd w A n xs) (hc : n ≤ c) (hc2 : c ≤ 9223372036854775807) :
    Calls Try.prog 72 #[.slice A n c] w (TrimPost A (words (val xs)).length w) :=
  (trim_q A n c xs w h hc hc2).mono fun _ _ ⟨he, hk⟩ => ⟨_, he, by
    by_cases h0 : (words (val xs)).length = 0
    · exact .inr h0
    · exact .inl (trimA_pos A h0), hk⟩
theorem Rd.trim {w : World} {A : Option Addr} {n : Nat} {xs : List Nat} (h : Rd w A n xs) : Rd w (trimA A (words (val xs)).length) (words (val xs)).length (words (val xs)) := by
  obtain ⟨t1, t2⟩ := take_words h.sm
  by_cases h0 : (words (val xs)).length = 0
  · rw [h0, List.eq_nil_of_length_eq_zero h0]; exact Rd.nil _
  · rw [trimA_pos A h0]
    have := h.take (m := (words (val xs)).length) (by rw [← h.len]; exact t2)
    rwa [t1] at this
end Go.Proofs.Ytmgkgomecakoiaa

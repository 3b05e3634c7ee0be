/- decimal texts: large's decimal, slices.Reverse, groupsOf -/
import Derived.Test.YthjdnidapbhdlaaDoorGa
import Derived.Test.YthjdnidapbhdlaaDoorWu
set_option maxRecDepth 100000
namespace Go.Proofs.YthjdnidapbhdlaaDoor
open Go.RowKit
theorem digits_take_succ {l : List UInt8} {i : Nat} (h : Digits (l.take i)) (hi : i < l.length) (h1 : 48 ≤ (l[i]).toNat) (h2 : (l[i]).toNat ≤ 57) : Digits (l.take (i + 1)) := by
  intro c hc
  rw [List.take_succ_eq_append_getElem hi] at hc
  rcases List.mem_append.1 hc with hc | hc
  · exact h c hc
  · simp only [List.mem_singleton] at hc
    subst hc
    exact ⟨h1, h2⟩
theorem not_digits {l : List UInt8} {i : Nat} (hi : i < l.length) (h : (l[i]).toNat < 48 ∨ 57 < (l[i]).toNat) : ¬ Numeral l := fun hn => by
  have := hn.1 l[i] (List.getElem_mem hi)
  omega
instance (l : List UInt8) : Decidable (Numeral l) := by unfold Numeral Digits; infer_instance
set_option maxHeartbeats 1000000 in
theorem decimal_c (s : ByteArray) (w : World) (hs : s.size ≤ 9223372036854775807) :
    Calls Tryd.prog 48 #[.string s] w fun e w' => e = .returned (.bool (decide (Numeral s.data.toList))) ∧ w' = w := by
  go_enter Tryd.func48, Tryd.ntmps48
  go_wp2
  go_loopw [6] (fun iv wr => ∃ i : Nat, iv = .int .i64 (i : Int) ∧ i ≤ s.size ∧ Digits (s.data.toList.take i) ∧ wr = w) (fun iv _ => (s.size - intOf iv).toNat)
  case atStart => exact ⟨0, rfl, Nat.zero_le _, by simp [Digits], rfl⟩
  case round =>
    obtain ⟨i, rfl, hi, hd, rfl⟩ := hrel
    rcases Nat.lt_or_ge i s.size with h | h
    · have hl : i < s.data.toList.length := by simpa using h
      obtain ⟨x, hx⟩ : ∃ x : Nat, (s.data.toList[i]).toNat = x := ⟨_, rfl⟩
      have hb : 0 ≤ (i : Int) ∧ (i : Int) < (s.size : Int) := ⟨by omega, by omega⟩
      have hxs : (s[i]'h).toNat = x := by rw [← hx]; rfl
      by_cases h1 : x < 48
      · have HR := Lib.hid (show decide (Numeral s.data.toList) = false by rw [decide_eq_false_iff_not]; exact not_digits hl (.inl (by rw [hx]; exact h1)))
        clear hd hl hx
        go_wp2
        go_ret
        rw [HR.out]
        exact ⟨rfl, rfl⟩
      · by_cases h2 : 57 < x
        · have HR := Lib.hid (show decide (Numeral s.data.toList) = false by rw [decide_eq_false_iff_not]; exact not_digits hl (.inr (by rw [hx]; exact h2)))
          clear hd hl hx
          go_wp2
          go_ret
          rw [HR.out]
          exact ⟨rfl, rfl⟩
        · have HD := Lib.hid (digits_take_succ hd hl (by omega) (by omega))
          clear hd hl hx
          go_wp2
          go_roundw
          case measure => simp [intOf]; omega
          case rel => exact ⟨i + 1, by simp, by omega, HD.out, trivial⟩
    · have e : i = s.size := by omega
      subst e
      have hd' : Digits s.data.toList := by
        rw [List.take_of_length_le (by simp)] at hd
        exact hd
      clear hd hi
      rcases Nat.eq_zero_or_pos s.size with h0 | h0
      · have en : s.data.toList = [] := by
          apply List.eq_nil_of_length_eq_zero
          simpa using h0
        have es : s = ByteArray.mk #[] := by
          apply ByteArray.ext
          apply Array.toList_inj.1
          rw [en]
        have HR := Lib.hid (show decide (Numeral s.data.toList) = false by rw [decide_eq_false_iff_not, en]; exact fun h => h.2.1 rfl)
        clear hd' en h0 h
        subst es
        go_wp2
        go_ret
        rw [HR.out]
        exact ⟨rfl, rfl⟩
      · have hl : 0 < s.data.toList.length := by simpa using h0
        obtain ⟨x, hx⟩ : ∃ x : Nat, (s.data.toList[0]).toNat = x := ⟨_, rfl⟩
        have hxs : (s[0]'h0).toNat = x := by rw [← hx]; rfl
        have hb : 0 ≤ (0 : Int) ∧ (0 : Int) < (s.size : Int) := ⟨by omega, by omega⟩
        have hne : (s.toList == ([] : List UInt8)) = false := by
          rw [ByteArray.toList_eq, beq_eq_false_iff_ne]
          intro e
          rw [e] at hl
          simp at hl
        have hne' : (s.toList == (ByteArray.mk #[]).toList) = false := by rw [show (ByteArray.mk #[]).toList = [] from ByteArray.toList_eq _]; exact hne
        by_cases h1 : x = 48
        · by_cases h2 : s.size = 1
          · have HR := Lib.hid (show decide (Numeral s.data.toList) = true by
              rw [decide_eq_true_iff]
              exact ⟨hd', by intro e; rw [e] at hl; simp at hl, fun _ => by simpa using h2⟩)
            clear hd' hl hx h
            go_wp2
            go_ret
            rw [HR.out]
            exact ⟨rfl, rfl⟩
          · have HR := Lib.hid (show decide (Numeral s.data.toList) = false by
              rw [decide_eq_false_iff_not]
              intro hn
              refine h2 ?_
              have := hn.2.2 (by
                rw [List.head?_eq_getElem?, List.getElem?_eq_getElem hl]
                exact congrArg some (UInt8.toNat_inj.1 (by rw [hx, h1]; rfl)))
              simpa using this)
            clear hd' hl hx h
            have h2' : ((s.size : Int) == 1) = false := by rw [beq_eq_false_iff_ne]; omega
            go_wp2
            go_ret
            rw [HR.out]
            exact ⟨rfl, rfl⟩
        · have HR := Lib.hid (show decide (Numeral s.data.toList) = true by
            rw [decide_eq_true_iff]
            refine ⟨hd', by intro e; rw [e] at hl; simp at hl, fun e => absurd ?_ h1⟩
            rw [List.head?_eq_getElem?, List.getElem?_eq_getElem hl] at e
            rw [← hx, Option.some.inj e]
            rfl)
          clear hd' hl hx h
          go_wp2
          go_ret
          rw [HR.out]
          exact ⟨rfl, rfl⟩
end Go.Proofs.YthjdnidapbhdlaaDoor

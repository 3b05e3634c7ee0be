/- the reference's numbers of a machine's text -/
import Derived.Test.YthjdnidapbhdlaaDoorGl
import Derived.Test.YthjdnidapbhdlaaDoorHd
set_option maxRecDepth 100000
namespace Go.Proofs.YthjdnidapbhdlaaDoor
open Go.RowKit
theorem sgn_of_abs (z : Int) : sgn (decide (z < 0)) z.natAbs = z := by
  by_cases h : z < 0
  · rw [decide_eq_true h]; simp [sgn]; omega
  · rw [decide_eq_false h]; simp [sgn]; omega
set_option maxHeartbeats 2000000 in
theorem num_c (z : Int) (w : World) (h1 : -9223372036854775808 ≤ z) (h2 : z < 9223372036854775808) :
    Calls Tryd.prog 75 #[.int .i64 z] w fun e w' => e = .returned (.string ⟨(Lib.itoa z).toArray⟩) ∧ Below w.heap.size w w' := by
  have HO := Lib.hid (refOf_c z w h1 h2)
  have hw : (words z.natAbs).length ≤ 4200 := by
    have h : (words z.natAbs).length ≤ 2 := words_len_le.2 (by rw [pw_succ, pw_one]; omega)
    omega
  have HT := Lib.hid (fun (A : Option Addr) (c : Nat) (W : World) (h : Rd W A (words z.natAbs).length (words z.natAbs)) => refText_c (decide (z < 0)) A _ c z.natAbs W h hw (fun h => by simp at h; omega))
  rw [sgn_of_abs] at HT
  clear hw h1 h2
  go_enter Tryd.func75, Tryd.ntmps75
  go_wp2_with fail
  refine HO.out.mono ?_
  rintro e w1 ⟨A, c, rfl, hr, _, _, hb⟩
  have HB := Lib.hid hb
  have HR := Lib.hid hr
  clear hb hr HO
  go_wp2_with fail
  refine (HT.out A c w1 HR.out).mono ?_
  rintro e w2 ⟨rfl, hb⟩
  have HB := Lib.hid (HB.out.trans (hb.mono HB.out.size))
  clear hb
  go_wp2
  go_ret
  exact ⟨rfl, HB.out⟩
/-- the byte of a text at a place -/
def bt (s : ByteArray) (k : Nat) : Nat := if h : k < s.size then s[k].toNat else 0
def isD (s : ByteArray) (k : Nat) : Bool := decide (k < s.size) && (decide (48 ≤ bt s k) && decide (bt s k ≤ 57))
/-- at most two digits from a place on: the number and the place behind it -/
def digN (s : ByteArray) (a : Nat) : Nat := if isD s a = true then (if isD s (a + 1) = true then 10 * (bt s a - 48) + (bt s (a + 1) - 48) else bt s a - 48) else 0
def digE (s : ByteArray) (a : Nat) : Nat := if isD s a = true then (if isD s (a + 1) = true then a + 2 else a + 1) else a
/-- what stands at the place q -/
def DigI (s : ByteArray) (a q n : Nat) : Prop := (q = a ∧ n = 0) ∨ (q = a + 1 ∧ isD s a = true ∧ n = bt s a - 48) ∨ (q = a + 2 ∧ isD s a = true ∧ isD s (a + 1) = true ∧ n = 10 * (bt s a - 48) + (bt s (a + 1) - 48))
theorem DigI.end_ {s : ByteArray} {a q n : Nat} (h : DigI s a q n) (he : q = a + 2 ∨ isD s q = false) : digN s a = n ∧ digE s a = q := by
  unfold digN digE
  rcases h with ⟨rfl, rfl⟩ | ⟨rfl, h1, rfl⟩ | ⟨rfl, h1, h2, rfl⟩
  · rcases he with h | h
    · omega
    · simp [h]
  · rcases he with h | h
    · omega
    · simp [h1, h]
  · simp [h1, h2]
theorem DigI.next {s : ByteArray} {a q n : Nat} (h : DigI s a q n) (hj : q < a + 2) (hd : isD s q = true) : DigI s a (q + 1) (10 * n + (bt s q - 48)) := by
  rcases h with ⟨rfl, rfl⟩ | ⟨rfl, h1, rfl⟩ | ⟨rfl, _⟩
  · exact .inr (.inl ⟨rfl, hd, by simp⟩)
  · exact .inr (.inr ⟨rfl, h1, hd, rfl⟩)
  · omega
theorem DigI.lt {s : ByteArray} {a q n : Nat} (h : DigI s a q n) : n < 100 ∧ a ≤ q ∧ q ≤ a + 2 := by
  have hd : ∀ k, isD s k = true → bt s k ≤ 57 := fun k h => by unfold isD at h; simp at h; omega
  rcases h with ⟨rfl, rfl⟩ | ⟨rfl, h1, rfl⟩ | ⟨rfl, h1, h2, rfl⟩
  · omega
  · have := hd _ h1; omega
  · have := hd _ h1; have := hd _ h2; omega
set_option maxHeartbeats 2000000 in
theorem refDigits_c (s : ByteArray) (a : Nat) (w : World) (ha : a ≤ 1000000) (hs : s.size ≤ 1000000) :
    Calls Tryd.prog 73 #[.string s, .int .i64 (a : Int)] w fun e w' => e = .returned (.tuple #[.int .i64 (digN s a : Int), .int .i64 (digE s a : Int)]) ∧ w' = w := by
  go_enter Tryd.func73, Tryd.ntmps73
  go_wp2
  go_loopw [1, 6] (fun v1 v6 wr => ∃ (q n : Nat), v1 = .int .i64 (q : Int) ∧ v6 = .int .i64 (n : Int) ∧ wr = w ∧ DigI s a q n) (fun v1 _ _ => a + 2 - (intOf v1).toNat)
  case atStart => exact ⟨a, 0, rfl, rfl, rfl, .inl ⟨rfl, rfl⟩⟩
  case round =>
    obtain ⟨q, n, rfl, rfl, rfl, hI⟩ := hrel
    have HI := Lib.hid hI
    obtain ⟨hn, haq, hq2⟩ := hI.lt
    clear hI
    by_cases hqs : q < s.size
    · have t1 : decide ((q : Int) < (s.size : Int)) = true := decide_eq_true (by omega)
      have HB := Lib.hid (show bt s q = s[q].toNat by unfold bt; rw [dif_pos hqs])
      by_cases hj2 : q = a + 2
      · have t2 : decide ((q : Int) < (a : Int) + 2) = false := decide_eq_false (by omega)
        have HE := Lib.hid (HI.out.end_ (.inl hj2))
        clear hj2
        go_wp2
        go_ret2
        rw [HE.out.1, HE.out.2]
        exact ⟨rfl, rfl⟩
      · have t2 : decide ((q : Int) < (a : Int) + 2) = true := decide_eq_true (by omega)
        by_cases h48 : 48 ≤ s[q].toNat
        · have t3 : decide ((48 : Int) ≤ (s[q].toNat : Int)) = true := decide_eq_true (by omega)
          by_cases h57 : s[q].toNat ≤ 57
          · have t4 : decide ((s[q].toNat : Int) ≤ 57) = true := decide_eq_true (by omega)
            have HN := Lib.hid (HI.out.next (by omega) (by unfold isD; rw [HB.out, decide_eq_true hqs, decide_eq_true h48, decide_eq_true h57]; rfl))
            rw [HB.out] at HN
            clear HB
            have h48i : (48 : Int) ≤ (s[q].toNat : Int) := by omega
            have h57i : (s[q].toNat : Int) ≤ 57 := by omega
            go_wp2
            go_roundw
            case measure => simp [intOf]; omega
            case rel => exact ⟨q + 1, _, by go_num, by go_num, trivial, HN.out⟩
          · have HE := Lib.hid (HI.out.end_ (.inr (by unfold isD; rw [HB.out, decide_eq_false h57]; simp)))
            have t4 : decide ((s[q].toNat : Int) ≤ 57) = false := decide_eq_false (by omega)
            clear h48 h57
            go_wp2
            go_ret2
            rw [HE.out.1, HE.out.2]
            exact ⟨rfl, rfl⟩
        · have HE := Lib.hid (HI.out.end_ (.inr (by unfold isD; rw [HB.out, decide_eq_false h48]; simp)))
          have t3 : decide ((48 : Int) ≤ (s[q].toNat : Int)) = false := decide_eq_false (by omega)
          clear h48
          go_wp2
          go_ret2
          rw [HE.out.1, HE.out.2]
          exact ⟨rfl, rfl⟩
    · have t1 : decide ((q : Int) < (s.size : Int)) = false := decide_eq_false (by omega)
      have HE := Lib.hid (HI.out.end_ (.inr (by unfold isD; rw [decide_eq_false hqs]; rfl)))
      go_wp2
      go_ret2
      rw [HE.out.1, HE.out.2]
      exact ⟨rfl, rfl⟩
end Go.Proofs.YthjdnidapbhdlaaDoor

import Derived.Test.YtpgiifjngkekgaaWt
import Derived.Test.YtpgiifjngkekgaaLc
namespace Go.Proofs.Ytpgiifjngkekgaa
open Go.RowKit

/-- |z| has at most k words -/
def Sz (z : Int) (k : Nat) : Prop := z.natAbs < pw k
theorem Sz.le {z : Int} {k k' : Nat} (h : Sz z k) (hk : k ≤ k') : Sz z k' := Nat.lt_of_lt_of_le h (pw_le hk)
theorem Sz.add {z z' : Int} {k : Nat} (h : Sz z k) (h' : Sz z' k) : Sz (z + z') (k + 1) := by
  have h1 : z.natAbs < pw k := h
  have h2 : z'.natAbs < pw k := h'
  show (z + z').natAbs < pw (k + 1)
  have h3 := pw_succ k
  omega
theorem Sz.sub {z z' : Int} {k : Nat} (h : Sz z k) (h' : Sz z' k) : Sz (z - z') (k + 1) := by
  have h1 : z.natAbs < pw k := h
  have h2 : z'.natAbs < pw k := h'
  show (z - z').natAbs < pw (k + 1)
  have h3 := pw_succ k
  omega
theorem Sz.mul {z z' : Int} {k k' : Nat} (h : Sz z k) (h' : Sz z' k') : Sz (z * z') (k + k') := by
  show (z * z').natAbs < pw (k + k')
  rw [Int.natAbs_mul]
  exact mul_lt_pw h h'
theorem Sz.len {z : Int} {k : Nat} (h : Sz z k) : (words z.natAbs).length ≤ k := words_len_le.2 h

theorem Is.len {w : World} {z : Int} {t : Bool} {A : Option Addr} {n c : Nat} (h : Is w z t A n c) {k : Nat} (hk : Sz z k) : n ≤ k := by
  rw [h.2.1]; exact hk.len
theorem sgn_self (z : Int) : sgn (decide (z < 0)) z.natAbs = z := by
  unfold sgn
  by_cases h : z < 0
  · rw [decide_eq_true h, if_pos rfl]; omega
  · rw [decide_eq_false h]; simp; omega
theorem Is.raw {w : World} {z : Int} {t : Bool} {A : Option Addr} {n c : Nat} (h : Is w z t A n c) {k : Nat} (hz : Sz z k) (hk : k ≤ 4096) :
    Rd w A n (words z.natAbs) ∧ validB t (words z.natAbs) = true ∧ sgn t (val (words z.natAbs)) = z ∧ n ≤ c ∧ c ≤ 9223372036854775807 := by
  have hl := hz.len
  obtain ⟨rfl, _, r, h1, h2⟩ := h
  exact ⟨r, valid_words (by omega) (fun h => by rw [decide_eq_false (by omega)]), by rw [val_words]; exact sgn_self z, h1, h2⟩
/-- numbers read in from outside are integers -/
theorem Is.of_valid {w : World} {s : Bool} {A : Option Addr} {n c : Nat} {xs : List Nat} (h : Rd w A n xs) (hv : validB s xs = true) (hn : n ≤ c) (hc : c ≤ 9223372036854775807) : Is w (sgn s (val xs)) s A n c := by
  obtain ⟨hcan, h4, h0⟩ := valid_canon h.sm hv
  have e := words_val hcan
  refine ⟨?_, ?_, ?_, hn, hc⟩
  · by_cases hz : val xs = 0
    · rw [h0 hz, hz, sgn_zero]; rfl
    · exact (sgn_lt s _ hz).symm
  · rw [sgn_abs, e, h.len]
  · rw [sgn_abs, e]; exact h

/-- a number and true, new -/
def NumT (w : World) (z : Int) (e : Ending) (w' : World) : Prop :=
  ∃ t B m d, e = .returned (.tuple #[.agg #[.bool t, .slice B m d], .bool true]) ∧ Is w' z t B m d ∧ Below w.heap.size w w'
section
variable {w : World} {z z' : Int} {t t' : Bool} {A A' : Option Addr} {n c n' c' : Nat}
theorem Add_is {k : Nat} (h : Is w z t A n c) (h' : Is w z' t' A' n' c') (hz : Sz z k) (hz' : Sz z' k) (hk : k ≤ 4096) :
    Calls Try.prog 12 #[.agg #[.bool t, .slice A n c], .agg #[.bool t', .slice A' n' c']] w (Num w (z + z')) := by
  obtain ⟨r, v, s, _, _⟩ := h.raw hz hk
  obtain ⟨r', v', s', _, _⟩ := h'.raw hz' hk
  have := Add_ok t t' A A' n c n' c' _ _ w r r' v v'
  rwa [s, s'] at this
theorem Sub_is {k : Nat} (h : Is w z t A n c) (h' : Is w z' t' A' n' c') (hz : Sz z k) (hz' : Sz z' k) (hk : k ≤ 4096) :
    Calls Try.prog 13 #[.agg #[.bool t, .slice A n c], .agg #[.bool t', .slice A' n' c']] w (Num w (z - z')) := by
  obtain ⟨r, v, s, _, _⟩ := h.raw hz hk
  obtain ⟨r', v', s', _, _⟩ := h'.raw hz' hk
  have := Sub_ok t t' A A' n c n' c' _ _ w r r' v v'
  rwa [s, s'] at this
theorem Mul_is {k : Nat} (h : Is w z t A n c) (h' : Is w z' t' A' n' c') (hz : Sz z k) (hz' : Sz z' k) (hk : k ≤ 4096) :
    Calls Try.prog 14 #[.agg #[.bool t, .slice A n c], .agg #[.bool t', .slice A' n' c']] w (Num w (z * z')) := by
  obtain ⟨r, v, s, x, y⟩ := h.raw hz hk
  obtain ⟨r', v', s', x', y'⟩ := h'.raw hz' hk
  have := Mul_ok t t' A A' n c n' c' _ _ w r r' v v' x x' y y'
  rwa [s, s'] at this
theorem Cmp_is {k : Nat} (h : Is w z t A n c) (h' : Is w z' t' A' n' c') (hz : Sz z k) (hz' : Sz z' k) (hk : k ≤ 4096) :
    Calls Try.prog 11 #[.agg #[.bool t, .slice A n c], .agg #[.bool t', .slice A' n' c']] w (fun e w' => e = .returned (.tuple #[.int .i64 (ord z z'), .int .i64 0]) ∧ Below w.heap.size w w') := by
  obtain ⟨r, v, s, _, _⟩ := h.raw hz hk
  obtain ⟨r', v', s', _, _⟩ := h'.raw hz' hk
  have := Cmp_ok t t' A A' n c n' c' _ _ w r r' v v'
  rwa [s, s'] at this
theorem same_is {k : Nat} (h : Is w z t A n c) (h' : Is w z' t' A' n' c') (hz : Sz z k) (hk : k ≤ 4096) :
    Calls Try.prog 28 #[.agg #[.bool t, .slice A n c], .agg #[.bool t', .slice A' n' c']] w (fun e w' => e = .returned (.bool (decide (z = z'))) ∧ Below w.heap.size w w') := by
  have hn := h.len hz
  obtain ⟨rfl, _, r, _, _⟩ := h
  obtain ⟨rfl, _, r', _, _⟩ := h'
  have := Same_c (decide (z < 0)) (decide (z' < 0)) A A' n c n' c' _ _ w r r' (by omega)
  rwa [same_iff] at this
theorem same_eq {k : Nat} (h : Is w z t A n c) (h' : Is w z' t' A' n' c') (hz : Sz z k) (hk : k ≤ 4096) (e : z = z') :
    Calls Try.prog 28 #[.agg #[.bool t, .slice A n c], .agg #[.bool t', .slice A' n' c']] w (fun e w' => e = .returned (.bool true) ∧ Below w.heap.size w w') := by
  have := same_is h h' hz hk
  rwa [decide_eq_true e] at this
end

set_option maxHeartbeats 400000 in
theorem add_is {w : World} {z z' : Int} {t t' : Bool} {A A' : Option Addr} {n c n' c' k : Nat} (h : Is w z t A n c) (h' : Is w z' t' A' n' c') (hz : Sz z k) (hz' : Sz z' k) (hk : k ≤ 4096) (hs : Sz (z + z') 4096) :
    Calls Try.prog 41 #[.agg #[.bool t, .slice A n c], .agg #[.bool t', .slice A' n' c']] w (NumT w (z + z')) := by
  have HL := Lib.hid hs.len
  have HI := Lib.hid h
  have HJ := Lib.hid h'
  clear h h' hs
  go_enter Try.func41, Try.ntmps41
  go_wp2_with fail
  have E := Env.start w t t' A A' n c n' c'
  refine (Add_is (HI.out.below E.below) (HJ.out.below E.below) hz hz' hk).mono ?_
  rintro e w1 ⟨x, B, m, d, k, rfl, hn, hb⟩
  obtain ⟨rfl, hi⟩ := hn.is_ HL.out
  have E1 := Lib.hid (E.next hb)
  clear E hb hn
  have E2 := Lib.hid (E1.out.alloc (.cells #[.bool x, .slice B m d] 24))
  have hj := hi.below ((Below.refl w1.heap.size w1).alloc (Nat.le_refl _) (.cells #[.bool x, .slice B m d] 24))
  have hz1 := E1.out.size
  have r0 := E2.out.r0
  have r1 := E2.out.r1
  have f0 := E2.out.f0
  have f1 := E2.out.f1
  go_wp2
  refine bodyPost_ret (v := .tuple #[.agg #[.bool x, .slice B m d], .bool true]) (by simp [results, Try.results41, go_sem, r0, r1]) rfl ?_
  exact ⟨x, B, m, d, rfl, hj.store r0 r1 _ _, below_store E2.out.below (by omega) _ _⟩
set_option maxHeartbeats 400000 in
theorem sub_is {w : World} {z z' : Int} {t t' : Bool} {A A' : Option Addr} {n c n' c' k : Nat} (h : Is w z t A n c) (h' : Is w z' t' A' n' c') (hz : Sz z k) (hz' : Sz z' k) (hk : k ≤ 4096) (hs : Sz (z - z') 4096) :
    Calls Try.prog 42 #[.agg #[.bool t, .slice A n c], .agg #[.bool t', .slice A' n' c']] w (NumT w (z - z')) := by
  have HL := Lib.hid hs.len
  have HI := Lib.hid h
  have HJ := Lib.hid h'
  clear h h' hs
  go_enter Try.func42, Try.ntmps42
  go_wp2_with fail
  have E := Env.start w t t' A A' n c n' c'
  refine (Sub_is (HI.out.below E.below) (HJ.out.below E.below) hz hz' hk).mono ?_
  rintro e w1 ⟨x, B, m, d, k, rfl, hn, hb⟩
  obtain ⟨rfl, hi⟩ := hn.is_ HL.out
  have E1 := Lib.hid (E.next hb)
  clear E hb hn
  have E2 := Lib.hid (E1.out.alloc (.cells #[.bool x, .slice B m d] 24))
  have hj := hi.below ((Below.refl w1.heap.size w1).alloc (Nat.le_refl _) (.cells #[.bool x, .slice B m d] 24))
  have hz1 := E1.out.size
  have r0 := E2.out.r0
  have r1 := E2.out.r1
  have f0 := E2.out.f0
  have f1 := E2.out.f1
  go_wp2
  refine bodyPost_ret (v := .tuple #[.agg #[.bool x, .slice B m d], .bool true]) (by simp [results, Try.results42, go_sem, r0, r1]) rfl ?_
  exact ⟨x, B, m, d, rfl, hj.store r0 r1 _ _, below_store E2.out.below (by omega) _ _⟩
set_option maxHeartbeats 400000 in
theorem mul_is {w : World} {z z' : Int} {t t' : Bool} {A A' : Option Addr} {n c n' c' k : Nat} (h : Is w z t A n c) (h' : Is w z' t' A' n' c') (hz : Sz z k) (hz' : Sz z' k) (hk : k ≤ 4096) (hs : Sz (z * z') 4096) :
    Calls Try.prog 43 #[.agg #[.bool t, .slice A n c], .agg #[.bool t', .slice A' n' c']] w (NumT w (z * z')) := by
  have HL := Lib.hid hs.len
  have HI := Lib.hid h
  have HJ := Lib.hid h'
  clear h h' hs
  go_enter Try.func43, Try.ntmps43
  go_wp2_with fail
  have E := Env.start w t t' A A' n c n' c'
  refine (Mul_is (HI.out.below E.below) (HJ.out.below E.below) hz hz' hk).mono ?_
  rintro e w1 ⟨x, B, m, d, k, rfl, hn, hb⟩
  obtain ⟨rfl, hi⟩ := hn.is_ HL.out
  have E1 := Lib.hid (E.next hb)
  clear E hb hn
  have E2 := Lib.hid (E1.out.alloc (.cells #[.bool x, .slice B m d] 24))
  have hj := hi.below ((Below.refl w1.heap.size w1).alloc (Nat.le_refl _) (.cells #[.bool x, .slice B m d] 24))
  have hz1 := E1.out.size
  have r0 := E2.out.r0
  have r1 := E2.out.r1
  have f0 := E2.out.f0
  have f1 := E2.out.f1
  go_wp2
  refine bodyPost_ret (v := .tuple #[.agg #[.bool x, .slice B m d], .bool true]) (by simp [results, Try.results43, go_sem, r0, r1]) rfl ?_
  exact ⟨x, B, m, d, rfl, hj.store r0 r1 _ _, below_store E2.out.below (by omega) _ _⟩
end Go.Proofs.Ytpgiifjngkekgaa

import Derived.Test.YtmgkgomecakoiaaWg
import Derived.Test.YtmgkgomecakoiaaMathb
namespace Go.Proofs.Ytmgkgomecakoiaa
open Go.RowKit

set_option maxHeartbeats 400000 in
theorem digits_c (A : Option Addr) (n c : Nat) (xs : List Nat) (w : World) (h : Rd w A n xs) (hx : canon xs) (hn : n ≤ 70368744177664) :
    Calls Try.prog 70 #[.slice A n c] w fun e w' => e = .returned (.int .i64 (blen (val xs))) ∧ w' = w := by
  rcases Nat.eq_zero_or_pos n with h0 | h0
  · subst h0
    have hx0 : xs = [] := List.eq_nil_of_length_eq_zero h.len
    have H := Lib.hid (show blen (val xs) = 0 by rw [hx0]; rfl)
    clear hx0
    go_enter Try.func70, Try.ntmps70
    go_wp2
    go_ret
    exact ⟨by rw [H.out]; rfl, rfl⟩
  · have hl := h.len
    have hb := blen_words hx (by omega)
    obtain ⟨b, o, rfl, _, hcell⟩ := h.of h0
    obtain ⟨j, rfl⟩ : ∃ j, n = j + 1 := ⟨n - 1, by omega⟩
    rw [hl, Nat.add_sub_cancel] at hb
    have hc := hcell j (by omega)
    have hx1 := small_get hx.1 j
    obtain ⟨x, hx2⟩ : ∃ x, x = xs.getD j 0 := ⟨_, rfl⟩
    rw [← hx2] at hc hx1 hb
    have hbl := bitLen_blen x (by omega)
    have hle := blen_le (v := x) (k := 32)
    have hle2 := hle.2 (by omega)
    have hlen := fun w => len32_i (x : Int) w (by omega) (by omega)
    rw [Int.toNat_natCast, hbl] at hlen
    obtain ⟨y, hy⟩ : ∃ y, y = blen x := ⟨_, rfl⟩
    rw [← hy] at hle2 hb hlen
    have HB := Lib.hid hb
    have HC := Lib.hid hlen
    have t : ((j : Int) + 1 == 0) = false := by rw [beq_eq_false_iff_ne]; omega
    clear hlen hle hb hbl hcell hl hx2 hy h
    go_enter Try.func70, Try.ntmps70
    go_wp2_with (go_at_call 84; refine (HC.out _).mono ?_; rintro e w' ⟨rfl, rfl⟩)
    go_ret
    exact ⟨ret_int (by rw [HB.out]; simp), rfl⟩

/-- the value reads as the integer z -/
def Ri (w : World) (v : Value) (z : Int) : Prop :=
  ∃ A c, v = .agg #[.bool (decide (z < 0)), .slice A (words z.natAbs).length c] ∧ Rd w A (words z.natAbs).length (words z.natAbs) ∧ (words z.natAbs).length ≤ c ∧ c ≤ 9223372036854775807
theorem Ri.below {w w' : World} {v : Value} {z : Int} (h : Ri w v z) (hb : Below w.heap.size w w') : Ri w' v z := by
  obtain ⟨A, c, e, r, x, y⟩ := h
  exact ⟨A, c, e, r.below hb, x, y⟩
def zero : Value := .agg #[.bool false, .slice none 0 0]
/-- a number and OK, or 0 and ErrSize -/
def NumIs (w : World) (z : Int) (t : Bool) (B : Option Addr) (m d : Nat) (k : Int) : Prop :=
  ((words z.natAbs).length ≤ 4096 → k = 0 ∧ t = decide (z < 0) ∧ m = (words z.natAbs).length ∧ Rd w B m (words z.natAbs) ∧ m ≤ d ∧ d ≤ 9223372036854775807) ∧
  (¬ (words z.natAbs).length ≤ 4096 → k = 4 ∧ t = false ∧ B = none ∧ m = 0 ∧ d = 0)
theorem NumIs.below {w w' : World} {z k : Int} {t : Bool} {B : Option Addr} {m d : Nat} (h : NumIs w z t B m d k) (hb : Below w.heap.size w w') : NumIs w' z t B m d k :=
  ⟨fun hl => by obtain ⟨a, b, c, r, x, y⟩ := h.1 hl; exact ⟨a, b, c, r.below hb, x, y⟩, h.2⟩
def Num (w : World) (z : Int) (e : Ending) (w' : World) : Prop :=
  ∃ t B m d k, e = .returned (.tuple #[.agg #[.bool t, .slice B m d], .int .i64 k]) ∧ NumIs w' z t B m d k ∧ Below w.heap.size w w'
def sgn (b : Bool) (v : Nat) : Int := if b then -(v : Int) else v
theorem sgn_abs (b : Bool) (v : Nat) : (sgn b v).natAbs = v := by cases b <;> simp [sgn]
theorem sgn_lt (b : Bool) (v : Nat) (h : v ≠ 0) : decide (sgn b v < 0) = b := by cases b <;> simp [sgn] <;> omega
theorem sgn_zero (b : Bool) : sgn b 0 = 0 := by cases b <;> rfl

theorem num_ok {w w' : World} {s b : Bool} {v m : Nat} {A' : Option Addr} (hm : m = (words v).length) (h4 : m ≤ 4096) (hb : Below w.heap.size w w') (hr : Rd w' A' m (words v)) (hs : decide (sgn s v < 0) = b) :
    Num w (sgn s v) (.returned (.tuple #[.agg #[.bool b, .slice A' m m], .int .i64 0])) w' := by
  subst hm hs
  refine ⟨_, _, _, _, _, rfl, ⟨fun _ => ?_, fun h => absurd ?_ h⟩, hb⟩
  · rw [sgn_abs]; exact ⟨rfl, rfl, rfl, hr, Nat.le_refl _, by omega⟩
  · rw [sgn_abs]; exact h4
theorem len_pos_ne {v m : Nat} (hm : m = (words v).length) (h : 0 < m) : v ≠ 0 := by
  rintro rfl; rw [words_zero] at hm; subst hm; exact absurd h (by simp)
theorem len_zero_eq {v : Nat} (hm : 0 = (words v).length) : v = 0 := words_nil.1 (List.eq_nil_of_length_eq_zero hm.symm)
set_option maxHeartbeats 400000 in
theorem number_c (s : Bool) (A : Option Addr) (n c : Nat) (xs : List Nat) (w : World) (h : Rd w A n xs) (hc : n ≤ c) (hc2 : c ≤ 9223372036854775807) :
    Calls Try.prog 50 #[.bool s, .slice A n c] w (Num w (sgn s (val xs))) := by
  have hL := sgn_abs s (val xs)
  obtain ⟨m, hm⟩ : ∃ m, m = (words (val xs)).length := ⟨_, rfl⟩
  have HM := Lib.hid hm
  obtain ⟨t1, t2⟩ := take_words h.sm
  have htl := h.len
  have hrd : ∀ w' : World, Below w.heap.size w w' → ∀ A', (A' = A ∨ m = 0) → Rd w' A' m (words (val xs)) := by
    intro w' hb A' hA
    rcases hA with rfl | h0
    · have := (h.below hb).take (m := m) (by omega)
      rwa [hm, t1, ← hm] at this
    · subst h0
      rw [List.eq_nil_of_length_eq_zero hm.symm]
      exact Rd.nil _
  have hmc : m ≤ c := by omega
  clear t1 t2 htl hm
  have HR := Lib.hid hrd
  have HL := Lib.hid hL
  clear hrd hL
  have HT := Lib.hid (fun w' hw => trim_c A n c xs w' hw hc hc2)
  go_enter Try.func50, Try.ntmps50
  go_wp2_with fail
  refine (HT.out _ (h.alloc _)).mono ?_
  rintro e w1 ⟨A', rfl, hA, k, rfl⟩
  rw [← HM.out] at hA ⊢
  have HB : Below w.heap.size w ((w.alloc (.cells #[.bool false, .slice none 0 0] 24)).drewN k) := below_drewN ((Below.refl _ _).alloc (Nat.le_refl _) _) k
  have HB2 := Lib.hid HB
  clear HB
  by_cases hm : m ≤ 4096
  · by_cases h0 : 0 < m
    · cases s
      · go_wp2
        refine bodyPost_ret (v := .tuple #[.agg #[.bool false, .slice A' m m], .int .i64 0]) (by simp [results, Try.results50, go_sem]) rfl ?_
        exact num_ok HM.out (by omega) ((HB2.out.setCell (p := ⟨w.heap.size, 0, none⟩) (Nat.le_refl _) _).setCell (p := ⟨w.heap.size, 1, none⟩) (Nat.le_refl _) _) (HR.out _ ((HB2.out.setCell (p := ⟨w.heap.size, 0, none⟩) (Nat.le_refl _) _).setCell (p := ⟨w.heap.size, 1, none⟩) (Nat.le_refl _) _) A' hA) (sgn_lt _ _ (len_pos_ne HM.out h0))
      · go_wp2
        refine bodyPost_ret (v := .tuple #[.agg #[.bool true, .slice A' m m], .int .i64 0]) (by simp [results, Try.results50, go_sem]) rfl ?_
        exact num_ok HM.out (by omega) ((HB2.out.setCell (p := ⟨w.heap.size, 0, none⟩) (Nat.le_refl _) _).setCell (p := ⟨w.heap.size, 1, none⟩) (Nat.le_refl _) _) (HR.out _ ((HB2.out.setCell (p := ⟨w.heap.size, 0, none⟩) (Nat.le_refl _) _).setCell (p := ⟨w.heap.size, 1, none⟩) (Nat.le_refl _) _) A' hA) (sgn_lt _ _ (len_pos_ne HM.out h0))
    · have hm0 : m = 0 := by omega
      subst hm0
      cases s
      · go_wp2
        refine bodyPost_ret (v := .tuple #[.agg #[.bool false, .slice A' 0 0], .int .i64 0]) (by simp [results, Try.results50, go_sem]) rfl ?_
        exact num_ok HM.out (by omega) ((HB2.out.setCell (p := ⟨w.heap.size, 0, none⟩) (Nat.le_refl _) _).setCell (p := ⟨w.heap.size, 1, none⟩) (Nat.le_refl _) _) (HR.out _ ((HB2.out.setCell (p := ⟨w.heap.size, 0, none⟩) (Nat.le_refl _) _).setCell (p := ⟨w.heap.size, 1, none⟩) (Nat.le_refl _) _) A' hA) (by rw [len_zero_eq HM.out]; rfl)
      · go_wp2
        refine bodyPost_ret (v := .tuple #[.agg #[.bool false, .slice A' 0 0], .int .i64 0]) (by simp [results, Try.results50, go_sem]) rfl ?_
        exact num_ok HM.out (by omega) ((HB2.out.setCell (p := ⟨w.heap.size, 0, none⟩) (Nat.le_refl _) _).setCell (p := ⟨w.heap.size, 1, none⟩) (Nat.le_refl _) _) (HR.out _ ((HB2.out.setCell (p := ⟨w.heap.size, 0, none⟩) (Nat.le_refl _) _).setCell (p := ⟨w.heap.size, 1, none⟩) (Nat.le_refl _) _) A' hA) (by rw [len_zero_eq HM.out]; rfl)
  · go_wp2
    refine bodyPost_ret (v := .tuple #[.agg #[.bool false, .slice none 0 0], .int .i64 4]) (by simp [results, Try.results50, go_sem]) rfl ?_
    exact ⟨_, _, _, _, _, rfl, ⟨fun h => absurd h (by rw [HL.out, ← HM.out]; exact hm), fun _ => ⟨rfl, rfl, rfl, rfl, rfl⟩⟩, (HB2.out.setCell (p := ⟨w.heap.size, 0, none⟩) (Nat.le_refl _) _).setCell (p := ⟨w.heap.size, 1, none⟩) (Nat.le_refl _) _⟩
end Go.Proofs.Ytmgkgomecakoiaa

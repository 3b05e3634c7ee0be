import Derived.Test.YthjdnidapbhdlaaDoorWt
import Derived.Test.YthjdnidapbhdlaaDoorWu
import Derived.Test.YthjdnidapbhdlaaDoorRa
namespace Go.Proofs.YthjdnidapbhdlaaDoor
open Go.RowKit

theorem valid_words {s : Bool} {m : Nat} (h : (words m).length ≤ 4096) (hs : m = 0 → s = false) : validB s (words m) = true := by
  unfold validB
  by_cases h0 : (words m).length = 0
  · rw [if_pos h0, hs (words_nil.1 (List.eq_nil_of_length_eq_zero h0))]; rfl
  · rw [if_neg h0]
    simp only [Bool.and_eq_true, decide_eq_true_eq]
    exact ⟨h, canon_last (words_canon m) (by omega)⟩
/-- a number that is not negative, new -/
def OneN (w : World) (n : Nat) (e : Ending) (w' : World) : Prop :=
  ∃ A c, e = .returned (.agg #[.bool false, .slice A (words n).length c]) ∧ Rd w' A (words n).length (words n) ∧ (words n).length ≤ c ∧ c ≤ 9223372036854775807 ∧ Below w.heap.size w w'
theorem of_nat (n : Nat) (w : World) (h : n < 9223372036854775808) : Calls Tryd.prog 13 #[.int .i64 (n : Int)] w (OneN w n) :=
  (Of_c (n : Int) w (by omega) (by omega)).mono fun e w' h => by
    obtain ⟨A, c, he, h1, h2, h3, h4⟩ := h
    rw [decide_eq_false (by omega)] at he
    exact ⟨A, c, he, h1, h2, h3, h4⟩

/-- |z| has at most k words -/
def Sz (z : Int) (k : Nat) : Prop := z.natAbs < pw k
theorem Sz.le {z : Int} {k k' : Nat} (h : Sz z k) (hk : k ≤ k') : Sz z k' := Nat.lt_of_lt_of_le h (pw_le hk)
theorem Sz.add {z z' : Int} {k : Nat} (h : Sz z k) (h' : Sz z' k) : Sz (z + z') (k + 1) := by
  have h1 : z.natAbs < pw k := h
  have h2 : z'.natAbs < pw k := h'
  show (z + z').natAbs < pw (k + 1)
  have h3 := pw_succ k
  omega
theorem Sz.sub {z z' : Int} {k : Nat} (h : Sz z k) (h' : Sz z' k) : Sz (z - z') (k + 1) := by
  have h1 : z.natAbs < pw k := h
  have h2 : z'.natAbs < pw k := h'
  show (z - z').natAbs < pw (k + 1)
  have h3 := pw_succ k
  omega
theorem Sz.mul {z z' : Int} {k k' : Nat} (h : Sz z k) (h' : Sz z' k') : Sz (z * z') (k + k') := by
  show (z * z').natAbs < pw (k + k')
  rw [Int.natAbs_mul]
  exact mul_lt_pw h h'
theorem Sz.len {z : Int} {k : Nat} (h : Sz z k) : (words z.natAbs).length ≤ k := words_len_le.2 h

theorem Is.len {w : World} {z : Int} {t : Bool} {A : Option Addr} {n c : Nat} (h : Is w z t A n c) {k : Nat} (hk : Sz z k) : n ≤ k := by
  rw [h.2.1]; exact hk.len
theorem sgn_self (z : Int) : sgn (decide (z < 0)) z.natAbs = z := by
  unfold sgn
  by_cases h : z < 0
  · rw [decide_eq_true h, if_pos rfl]; omega
  · rw [decide_eq_false h]; simp; omega
theorem Is.raw {w : World} {z : Int} {t : Bool} {A : Option Addr} {n c : Nat} (h : Is w z t A n c) {k : Nat} (hz : Sz z k) (hk : k ≤ 4096) :
    Rd w A n (words z.natAbs) ∧ validB t (words z.natAbs) = true ∧ sgn t (val (words z.natAbs)) = z ∧ n ≤ c ∧ c ≤ 9223372036854775807 := by
  have hl := hz.len
  obtain ⟨rfl, _, r, h1, h2⟩ := h
  exact ⟨r, valid_words (by omega) (fun h => by rw [decide_eq_false (by omega)]), by rw [val_words]; exact sgn_self z, h1, h2⟩
/-- numbers read in from outside are integers -/
theorem Is.of_valid {w : World} {s : Bool} {A : Option Addr} {n c : Nat} {xs : List Nat} (h : Rd w A n xs) (hv : validB s xs = true) (hn : n ≤ c) (hc : c ≤ 9223372036854775807) : Is w (sgn s (val xs)) s A n c := by
  obtain ⟨hcan, h4, h0⟩ := valid_canon h.sm hv
  have e := words_val hcan
  refine ⟨?_, ?_, ?_, hn, hc⟩
  · by_cases hz : val xs = 0
    · rw [h0 hz, hz, sgn_zero]; rfl
    · exact (sgn_lt s _ hz).symm
  · rw [sgn_abs, e, h.len]
  · rw [sgn_abs, e]; exact h

/-- a number and true, new -/
def NumT (w : World) (z : Int) (e : Ending) (w' : World) : Prop :=
  ∃ t B m d, e = .returned (.tuple #[.agg #[.bool t, .slice B m d], .bool true]) ∧ Is w' z t B m d ∧ Below w.heap.size w w'
section
variable {w : World} {z z' : Int} {t t' : Bool} {A A' : Option Addr} {n c n' c' : Nat}
theorem same_is {k : Nat} (h : Is w z t A n c) (h' : Is w z' t' A' n' c') (hz : Sz z k) (hk : k ≤ 4096) :
    Calls Tryd.prog 12 #[.agg #[.bool t, .slice A n c], .agg #[.bool t', .slice A' n' c']] w (fun e w' => e = .returned (.bool (decide (z = z'))) ∧ Below w.heap.size w w') := by
  have hn := h.len hz
  obtain ⟨rfl, _, r, _, _⟩ := h
  obtain ⟨rfl, _, r', _, _⟩ := h'
  have := Same_c (decide (z < 0)) (decide (z' < 0)) A A' n c n' c' _ _ w r r' (by omega)
  rwa [same_iff] at this
theorem same_eq {k : Nat} (h : Is w z t A n c) (h' : Is w z' t' A' n' c') (hz : Sz z k) (hk : k ≤ 4096) (e : z = z') :
    Calls Tryd.prog 12 #[.agg #[.bool t, .slice A n c], .agg #[.bool t', .slice A' n' c']] w (fun e w' => e = .returned (.bool true) ∧ Below w.heap.size w w') := by
  have := same_is h h' hz hk
  rwa [decide_eq_true e] at this
end

/-- block b is a box that holds the integer z -/
structure Box (W : World) (b : Nat) (z : Int) (t : Bool) (A : Option Addr) (n c : Nat) : Prop where
  lt : b < W.heap.size
  c0 : W.cell? ⟨b, 0, none⟩ = some (.bool t)
  c1 : W.cell? ⟨b, 1, none⟩ = some (.slice A n c)
  is : Is W z t A n c
theorem below_alloc (W : World) (o : Obj) : Below W.heap.size W (W.alloc o) := (Below.refl _ _).alloc (Nat.le_refl _) o
theorem Box.next {W w1 : World} {b : Nat} {z : Int} {t : Bool} {A : Option Addr} {n c : Nat} (h : Box W b z t A n c) (hb : Below W.heap.size W w1) : Box w1 b z t A n c :=
  ⟨Nat.lt_of_lt_of_le h.lt hb.size, (hb.cell (p := ⟨b, 0, none⟩) h.lt).trans h.c0, (hb.cell (p := ⟨b, 1, none⟩) h.lt).trans h.c1, h.is.below hb⟩
theorem Box.new {W : World} {z : Int} {t : Bool} {A : Option Addr} {n c : Nat} (h : Is W z t A n c) : Box (W.alloc (.cells #[.bool t, .slice A n c] 24)) W.heap.size z t A n c :=
  ⟨by simp, by go_simp, by go_simp, h.below (below_alloc _ _)⟩
theorem Box.alloc {W : World} {b : Nat} {z : Int} {t : Bool} {A : Option Addr} {n c : Nat} (h : Box W b z t A n c) (o : Obj) : Box (W.alloc o) b z t A n c := h.next (below_alloc _ _)
theorem sz_valid {s : Bool} {n k : Nat} {xs : List Nat} {w : World} {A : Option Addr} (h : Rd w A n xs) (hn : n ≤ k) : Sz (sgn s (val xs)) k := by
  show (sgn s (val xs)).natAbs < pw k
  rw [sgn_abs]
  have h1 := val_lt h.sm
  rw [h.len] at h1
  exact Nat.lt_of_lt_of_le h1 (pw_le hn)
theorem sz_zero {k : Nat} : Sz 0 k := by
  show (0 : Int).natAbs < pw k
  unfold pw; exact Nat.pow_pos (by omega)
set_option maxHeartbeats 400000 in
theorem zero_c (s : Bool) (A : Option Addr) (n c : Nat) (w : World) : Calls Tryd.prog 54 #[.agg #[.bool s, .slice A n c]] w fun e w' => e = .returned (.bool (decide (n = 0))) ∧ Below w.heap.size w w' := by
  by_cases h : n = 0
  · subst h
    go_enter Tryd.func54, Tryd.ntmps54
    go_wp2
    go_ret
    exact ⟨rfl, below_alloc _ _⟩
  · have H := Lib.hid (show decide (n = 0) = false from decide_eq_false h)
    have t0 : ((n : Int) == 0) = false := by rw [beq_eq_false_iff_ne]; omega
    clear h
    go_enter Tryd.func54, Tryd.ntmps54
    go_wp2
    go_ret
    exact ⟨by rw [H.out]; rfl, below_alloc _ _⟩
end Go.Proofs.YthjdnidapbhdlaaDoor

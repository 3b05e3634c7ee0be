import Derived.Test.YtbblckaplddggaaOc
set_option maxRecDepth 100000
namespace Go.Proofs.Ytbblckaplddggaa
open Go.RowKit Go.Shelf
set_option maxHeartbeats 1000000 in
theorem short_c (most g N : Nat) (A : Nat → Option Addr) (n c : Nat → Nat) (w : World) (h : ∀ i, i < N → w.cell? ⟨g, i * 2 + 1, none⟩ = some (.slice (A i) (n i) (c i))) (hN : N < 1000) :
    Calls Try.prog 14 #[.int .i64 (most : Int), .slice (some ⟨g, 0, none⟩) N N] w (IsB (decide (∀ i, i < N → n i ≤ most)) w) := by
  go_enter Try.func14, Try.ntmps14
  go_wp2
  have H1 := Lib.hid h
  go_loopw [5] (fun v wr => ∃ i : Nat, v = .int .i64 i ∧ i ≤ N ∧ wr = w ∧ ∀ j, j < i → n j ≤ most) (fun v _ => N - (intOf v).toNat)
  case atStart => exact ⟨0, rfl, Nat.zero_le _, rfl, fun j hj => by omega⟩
  case round =>
    obtain ⟨i, rfl, hi, rfl, ha⟩ := hrel
    have HA := Lib.hid ha
    clear ha h
    by_cases hin : i < N
    · have c1 := H1.out i hin
      obtain ⟨A', hA⟩ : ∃ A', A' = A i := ⟨_, rfl⟩
      obtain ⟨n', hn⟩ : ∃ n', n' = n i := ⟨_, rfl⟩
      obtain ⟨c', hc⟩ : ∃ c', c' = c i := ⟨_, rfl⟩
      rw [← hA, ← hn, ← hc] at c1
      have HE := Lib.hid hn
      clear hA hn hc
      by_cases hm : n' ≤ most
      · go_wp2
        go_roundw
        case measure => simp [intOf]; omega
        case rel => exact ⟨i + 1, by go_num, by omega, trivial, fun j hj => by
            by_cases hji : j = i
            · subst hji; rw [← HE.out]; exact hm
            · exact HA.out j (by omega)⟩
      · have HF := Lib.hid (show decide (∀ i, i < N → n i ≤ most) = false from decide_eq_false fun h => hm (by rw [HE.out]; exact h i hin))
        go_wp2
        go_ret
        exact ⟨by rw [HF.out]; rfl, Below.refl _ _⟩
    · have HF := Lib.hid (show decide (∀ i, i < N → n i ≤ most) = true from decide_eq_true fun j hj => HA.out j (by omega))
      go_wp2
      go_ret
      exact ⟨by rw [HF.out]; rfl, Below.refl _ _⟩
def of3 {α : Type} (a b c : α) (i : Nat) : α := if i = 0 then a else if i = 1 then b else c
theorem short3_c (most g : Nat) (A1 A2 A3 : Option Addr) (n1 c1 n2 c2 n3 c3 : Nat) (w : World) (h1 : w.cell? ⟨g, 1, none⟩ = some (.slice A1 n1 c1)) (h2 : w.cell? ⟨g, 3, none⟩ = some (.slice A2 n2 c2)) (h3 : w.cell? ⟨g, 5, none⟩ = some (.slice A3 n3 c3)) :
    Calls Try.prog 14 #[.int .i64 (most : Int), .slice (some ⟨g, 0, none⟩) 3 3] w (IsB (decide (n1 ≤ most ∧ n2 ≤ most ∧ n3 ≤ most)) w) := by
  have cases3 : ∀ i : Nat, i < 3 → i = 0 ∨ i = 1 ∨ i = 2 := fun i hi => by omega
  refine (short_c most g 3 (of3 A1 A2 A3) (of3 n1 n2 n3) (of3 c1 c2 c3) w ?_ (by omega)).mono ?_
  · intro i hi
    rcases cases3 i hi with rfl | rfl | rfl <;> simp only [of3] <;> assumption
  · rintro e w' ⟨rfl, hb⟩
    refine ⟨?_, hb⟩
    congr 2
    rw [decide_eq_decide]
    constructor
    · intro h; exact ⟨h 0 (by omega), h 1 (by omega), h 2 (by omega)⟩
    · intro h i hi
      rcases cases3 i hi with rfl | rfl | rfl
      · exact h.1
      · exact h.2.1
      · exact h.2.2
theorem short2_c (most g : Nat) (A1 A2 : Option Addr) (n1 c1 n2 c2 : Nat) (w : World) (h1 : w.cell? ⟨g, 1, none⟩ = some (.slice A1 n1 c1)) (h2 : w.cell? ⟨g, 3, none⟩ = some (.slice A2 n2 c2)) :
    Calls Try.prog 14 #[.int .i64 (most : Int), .slice (some ⟨g, 0, none⟩) 2 2] w (IsB (decide (n1 ≤ most ∧ n2 ≤ most)) w) := by
  have cases2 : ∀ i : Nat, i < 2 → i = 0 ∨ i = 1 := fun i hi => by omega
  refine (short_c most g 2 (of3 A1 A2 A2) (of3 n1 n2 n2) (of3 c1 c2 c2) w ?_ (by omega)).mono ?_
  · intro i hi
    rcases cases2 i hi with rfl | rfl <;> simp only [of3] <;> assumption
  · rintro e w' ⟨rfl, hb⟩
    refine ⟨?_, hb⟩
    congr 2
    rw [decide_eq_decide]
    constructor
    · intro h; exact ⟨h 0 (by omega), h 1 (by omega)⟩
    · intro h i hi
      rcases cases2 i hi with rfl | rfl
      · exact h.1
      · exact h.2
end Go.Proofs.Ytbblckaplddggaa

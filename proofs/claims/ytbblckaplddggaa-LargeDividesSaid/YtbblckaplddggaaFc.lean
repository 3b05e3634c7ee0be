import Derived.Test.YtbblckaplddggaaWm
import Derived.Test.YtbblckaplddggaaWg
import Derived.Test.YtbblckaplddggaaFb
import Derived.Deep.QuietTactic
import Derived.BigQuiet
set_option maxRecDepth 100000
namespace Go.Proofs.Ytbblckaplddggaa
open Go.RowKit
theorem words_split {V : Nat} (h : V < 18446744073709551616) : (V = 0 ∧ words V = []) ∨ (∃ x, x ≠ 0 ∧ x < 4294967296 ∧ V = x ∧ words V = [x]) ∨ (∃ x y, x < 4294967296 ∧ y < 4294967296 ∧ y ≠ 0 ∧ V = x + 4294967296 * y ∧ words V = [x, y]) := by
  by_cases h0 : V = 0
  · exact .inl ⟨h0, by rw [h0, words_zero]⟩
  · by_cases h1 : V < 4294967296
    · refine .inr (.inl ⟨V, h0, h1, rfl, ?_⟩)
      rw [words_pos h0, Nat.mod_eq_of_lt h1, Nat.div_eq_of_lt h1, words_zero]
    · refine .inr (.inr ⟨V % 4294967296, V / 4294967296, by omega, by omega, by omega, by omega, ?_⟩)
      rw [words_pos h0, words_pos (show V / 4294967296 ≠ 0 by omega), Nat.mod_eq_of_lt (show V / 4294967296 < 4294967296 by omega), Nat.div_eq_of_lt (show V / 4294967296 < 4294967296 by omega), words_zero]
/-- words whose list is known -/
def OutL (w : World) (L : List Nat) (e : Ending) (w' : World) : Prop := ∃ A c, e = .returned (.slice A L.length c) ∧ Rd w' A L.length L ∧ Below w.heap.size w w'
theorem Out.list {w w' : World} {V : Nat} {e : Ending} (h : Out w V e w') {L : List Nat} (hw : words V = L) : OutL w L e w' := by
  obtain ⟨A, c, he, hr, _, _, hb, _⟩ := h
  subst hw
  exact ⟨A, c, he, hr, hb⟩
set_option maxHeartbeats 2000000 in
theorem firstDigits_c (A : Option Addr) (n c k V : Nat) (xs : List Nat) (w : World) (ha : Rd w A n xs) (hn : n < 35184372088832) (hk : k < 9223372036854775808) (hV : V = val xs / 2 ^ k) (hs : V < 18446744073709551616) :
    Calls Try.prog 139 #[.slice A n c, .int .i64 (k : Int)] w fun e w' => e = .returned (.int .u64 (V : Int)) ∧ Below w.heap.size w w' := by
  have SC0 := shiftDown_c A n c k xs w ha hn hk
  rw [← hV] at SC0
  clear ha hV
  rcases words_split hs with ⟨rfl, hw⟩ | ⟨x, hx0, hx, hxV, hw⟩ | ⟨x, y, hx, hy, hy0, hxV, hw⟩
  · have SC := Lib.hid (SC0.mono fun _ _ h => h.list hw)
    clear hw hs SC0
    go_enter Try.func139, Try.ntmps139
    go_wp2_with fail
    refine SC.out.mono ?_
    rintro e w1 ⟨B, d, rfl, h1, h4⟩
    have HB := Lib.hid h4
    clear h1 h4 SC
    go_wp2
    go_loopw [5, 12] (fun t i wr => t = .int .u64 0 ∧ i = .int .i64 0 ∧ wr = w1) (fun _ i _ => 1 - (intOf i).toNat)
    case atStart => exact ⟨rfl, rfl, rfl⟩
    case round =>
      obtain ⟨rfl, rfl, rfl⟩ := hrel
      go_wp2
      go_ret
      exact ⟨rfl, HB.out⟩
  · subst hxV
    have SC := Lib.hid (SC0.mono fun _ _ h => h.list hw)
    clear hw hs SC0
    obtain ⟨X, hX⟩ : ∃ X : Int, X = (V : Int) := ⟨_, rfl⟩
    rw [← hX]
    have x0 : 0 < X := by omega
    have x1 : X < 4294967296 := by omega
    have HX := Lib.hid hX
    have o1 : bits BinOp.or IntKind.u64 0 X = X := by
      rw [hX, show (0 : Int) = ((0 : Nat) : Int) from rfl, u64_or_nat _ _ (by omega) (by omega)]; simp
    clear hX hx hx0
    go_enter Try.func139, Try.ntmps139
    go_wp2_with fail
    refine SC.out.mono ?_
    rintro e w1 ⟨B, d, rfl, h1, h4⟩
    obtain ⟨b, q, rfl, _, hc⟩ := h1.of (by simp)
    have hc0 := hc 0 (by simp)
    rw [Nat.add_zero, show ([V].getD 0 0 : Nat) = V from rfl, ← HX.out] at hc0
    have HB := Lib.hid h4
    clear h1 h4 SC hc HX
    go_wp2
    go_loopw [5, 12] (fun t i wr => ((t = .int .u64 0 ∧ i = .int .i64 0) ∨ (t = .int .u64 X ∧ i = .int .i64 1)) ∧ wr = w1) (fun _ i _ => 2 - (intOf i).toNat)
    case atStart => exact ⟨.inl ⟨rfl, rfl⟩, rfl⟩
    case round =>
      obtain ⟨hq, rfl⟩ := hrel
      rcases hq with ⟨rfl, rfl⟩ | ⟨rfl, rfl⟩
      · go_wp2
        go_roundw
        case measure => simp [intOf]
        case rel => exact (by simp)
      · go_wp2
        go_ret
        exact ⟨rfl, HB.out⟩
  · have SC := Lib.hid (SC0.mono fun _ _ h => h.list hw)
    clear hw SC0
    have o2 := shl_or x y hx hy
    rw [← hxV] at o2
    have hsV := hs
    obtain ⟨X, hX⟩ : ∃ X : Int, X = (x : Int) := ⟨_, rfl⟩
    obtain ⟨Y, hY⟩ : ∃ Y : Int, Y = (y : Int) := ⟨_, rfl⟩
    obtain ⟨Vi, hVi⟩ : ∃ Y : Int, Y = (V : Int) := ⟨_, rfl⟩
    have x1 : 0 ≤ X := by omega
    have x2 : X < 4294967296 := by omega
    have y1 : 0 ≤ Y := by omega
    have y2 : Y < 4294967296 := by omega
    have o1 : bits BinOp.or IntKind.u64 0 X = X := by
      rw [hX, show (0 : Int) = ((0 : Nat) : Int) from rfl, u64_or_nat _ _ (by omega) (by omega)]; simp
    rw [← hX, ← hY, ← hVi] at o2
    rw [← hVi]
    have HX := Lib.hid (And.intro hX hY)
    clear hX hY hVi hx hy hy0 hxV hs hsV
    go_enter Try.func139, Try.ntmps139
    go_wp2_with fail
    refine SC.out.mono ?_
    rintro e w1 ⟨B, d, rfl, h1, h4⟩
    obtain ⟨b, q, rfl, _, hc⟩ := h1.of (by simp)
    have hc0 := hc 0 (by simp)
    rw [Nat.add_zero, show ([x, y].getD 0 0 : Nat) = x from rfl, ← HX.out.1] at hc0
    have hc1 := hc 1 (by simp)
    rw [show ([x, y].getD 1 0 : Nat) = y from rfl, ← HX.out.2] at hc1
    have HB := Lib.hid h4
    clear h1 h4 SC hc HX
    go_wp2
    go_loopw [5, 12] (fun t i wr => ((t = .int .u64 0 ∧ i = .int .i64 0) ∨ (t = .int .u64 X ∧ i = .int .i64 1) ∨ (t = .int .u64 Vi ∧ i = .int .i64 2)) ∧ wr = w1) (fun _ i _ => 3 - (intOf i).toNat)
    case atStart => exact ⟨.inl ⟨rfl, rfl⟩, rfl⟩
    case round =>
      obtain ⟨hq, rfl⟩ := hrel
      rcases hq with ⟨rfl, rfl⟩ | ⟨rfl, rfl⟩ | ⟨rfl, rfl⟩
      · go_wp2
        go_roundw
        case measure => simp [intOf]
        case rel => exact (by simp)
      · go_wp2
        go_roundw
        case measure => simp [intOf]
        case rel => exact (by simp)
      · go_wp2
        go_ret
        exact ⟨rfl, HB.out⟩
end Go.Proofs.Ytbblckaplddggaa

/- the small numbers of a machine's text: the machine's number -/
import Derived.Test.YthjdnidapbhdlaaDoorHp
import Derived.Test.YthjdnidapbhdlaaDoorGs
import Derived.Test.YthjdnidapbhdlaaDoorGt
import Derived.Lib.SmallJoins
set_option maxRecDepth 100000
namespace Go.Proofs.YthjdnidapbhdlaaDoor
open Go.RowKit
theorem dd_one (i : Nat) (h : i < 10) : Lib.decDigits i = [UInt8.ofNat (48 + i)] := by rw [Lib.decDigits, dif_pos h]
theorem dd_two (i : Nat) (h : ¬ i < 10) (h2 : i < 100) : Lib.decDigits i = [UInt8.ofNat (48 + i / 10), UInt8.ofNat (48 + i % 10)] := by
  rw [Lib.decDigits, dif_neg h, dd_one (i / 10) (by omega)]; rfl
theorem atoi_dd (i : Nat) (h : i < 100) : Lib.atoi (Lib.decDigits i) = some (i : Int) ∧ (Lib.decDigits i).length ≤ 2 := by
  by_cases h1 : i < 10
  · rw [dd_one i h1]
    have a : ∀ k : Fin 10, Lib.atoi [UInt8.ofNat (48 + k.1)] = some (k.1 : Int) := by decide
    exact ⟨a ⟨i, h1⟩, by simp⟩
  · rw [dd_two i h1 h]
    have a : ∀ k j : Fin 10, Lib.atoi [UInt8.ofNat (48 + k.1), UInt8.ofNat (48 + j.1)] = some ((k.1 * 10 + j.1 : Nat) : Int) := by decide
    refine ⟨(a ⟨i / 10, by omega⟩ ⟨i % 10, by omega⟩).trans ?_, by simp⟩
    show some ((i / 10 * 10 + i % 10 : Nat) : Int) = some (i : Int)
    rw [show i / 10 * 10 + i % 10 = i from by omega]
/-- a text of bytes -/
abbrev tx (l : List UInt8) : ByteArray := ⟨l.toArray⟩
set_option maxHeartbeats 2000000 in
theorem number_y (i : Nat) (hi : i < 100) (w : World) :
    Calls Tryd.prog 71 #[.string (tx (Lib.decDigits i))] w fun e w' => e = .returned (.int .i64 (i : Int)) ∧ Below w.heap.size w w' := by
  obtain ⟨ha, hl⟩ := atoi_dd i hi
  have h1 := Tryd.strconv_Atoi (tx (Lib.decDigits i)) (i : Int) (by show (Lib.decDigits i).toArray.size ≤ 18; simp; omega) (by simpa using ha)
  have H1 := Lib.hid h1
  have H2 := Lib.hid (Tryd.strconv_Itoa_small i hi)
  generalize (Lib.decDigits i) = l at *
  clear h1 ha hl
  go_enter Tryd.func71, Tryd.ntmps71
  go_wp2_with fail
  refine (H1.out _).mono ?_
  rintro e w1 ⟨rfl, t, rfl⟩
  have HB := Lib.hid (Joins.below_bytesWorld w.heap.size w 5 t (Nat.le_refl _))
  generalize Lib.bytesWorld w 5 t = w1 at HB ⊢
  go_wp2_with fail
  refine (H2.out _).mono ?_
  rintro e w2 ⟨rfl, rfl⟩
  go_wp2
  go_ret
  exact ⟨rfl, HB.out⟩
end Go.Proofs.YthjdnidapbhdlaaDoor

import Derived.Test.YteabokkofoomkaaGreatCao
import Derived.Test.YteabokkofoomkaaGreatCav
namespace Go.Proofs.YteabokkofoomkaaGreat
open Go.RowKit
set_option maxHeartbeats 400000 in
theorem fits_c (s : Bool) (A : Option Addr) (n c : Nat) (w : World) : Calls Tryz.prog 65 #[.agg #[.bool s, .slice A n c]] w fun e w' => e = .returned (.bool (decide (n ≤ 4096))) ∧ Below w.heap.size w w' := by
  by_cases h : n ≤ 4096
  · have H := Lib.hid (show decide (n ≤ 4096) = true from decide_eq_true h)
    go_enter Tryz.func65, Tryz.ntmps65
    go_wp2
    go_ret
    exact ⟨by rw [H.out]; simp; omega, below_alloc _ _⟩
  · have H := Lib.hid (show decide (n ≤ 4096) = false from decide_eq_false h)
    go_enter Tryz.func65, Tryz.ntmps65
    go_wp2
    go_ret
    exact ⟨by rw [H.out]; simp; omega, below_alloc _ _⟩
end Go.Proofs.YteabokkofoomkaaGreat

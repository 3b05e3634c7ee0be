import Derived.Test.YteabokkofoomkaaCar
namespace Go.Proofs.Yteabokkofoomkaa
open Go.RowKit
set_option maxHeartbeats 400000 in
theorem Under_neg (s s' : Bool) (A A' : Option Addr) (n c n' c' : Nat) (xs ys : List Nat) (w : World) (h : Rd w A n xs) (h' : Rd w A' n' ys) (hv : (validB s xs && validB s' ys) = true) (hs : (s || s') = true) :
 Calls Try.prog 42 #[.agg #[.bool s, .slice A n c], .agg #[.bool s', .slice A' n' c']] w (fun e w' => e = .returned (.tuple #[.bool false, .int .i64 2]) ∧ Below w.heap.size w w') := by
 have HV := Lib.hid hv
 clear hv
 go_enter Try.func42, Try.ntmps42
 go_wp2_with fail
 have E := (Env2.start w s s' A A' n c n' c').alloc (.cells #[.bool s, .slice A n c, .bool s', .slice A' n' c'] 24)
 refine (allValid_c (w.heap.size + 1 + 1) s s' A A' n c n' c' xs ys _ (h.below E.below) (h'.below E.below) (by simp) (by go_simp) (by go_simp) (by go_simp) (by go_simp)).mono ?_
 rintro e w1 ⟨rfl, hb⟩
 rw [HV.out]
 have E1 := Lib.hid (E.next hb)
 clear E hb
 have a0 := E1.out.a0
 have b0 := E1.out.b0
 clear h h'
 rcases s with _ | _
 · obtain rfl : s' = true := by simpa using hs
   go_wp2
   go_ret2
   exact ⟨rfl, E1.out.below⟩
 · clear hs
   go_wp2
   go_ret2
   exact ⟨rfl, E1.out.below⟩
end Go.Proofs.Yteabokkofoomkaa

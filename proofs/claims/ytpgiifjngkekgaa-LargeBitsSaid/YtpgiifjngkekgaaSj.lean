import Derived.Test.YtpgiifjngkekgaaSh
namespace Go.Proofs.Ytpgiifjngkekgaa
open Go.RowKit

set_option maxHeartbeats 400000 in
theorem Power_bad (s : Bool) (A : Option Addr) (n c : Nat) (xs : List Nat) (K : Int) (w : World) (h : Rd w A n xs) (hv : validB s xs = false) :
    Calls Try.prog 32 #[.agg #[.bool s, .slice A n c], .int .i64 K] w (Bad w 1) := by
  have HV := Lib.hid hv
  have HR := Lib.hid h
  have E := Lib.hid (Env1r.start w s A n c)
  clear hv h
  go_enter Try.func32, Try.ntmps32
  go_wp2_with fail
  generalize (w.alloc (.cells #[.bool s, .slice A n c] 24)).alloc (.cells #[.bool false, .slice none 0 0] 24) = W at E ⊢
  refine (valid_c s A n c xs W (HR.out.below E.out.below)).mono ?_
  rintro e w1 ⟨rfl, hb⟩
  rw [HV.out]
  replace E := Lib.hid (E.out.next hb)
  clear hb
  have r0 := E.out.res.r0
  have r1 := E.out.res.r1
  have f0 := E.out.res.f0
  have f1 := E.out.res.f1
  go_wp2
  refine bodyPost_ret (v := .tuple #[.agg #[.bool false, .slice none 0 0], .int .i64 1]) (by simp [results, Try.results32, go_sem, r0, r1]) rfl ?_
  exact ⟨rfl, below_store E.out.below (by omega) _ _⟩

set_option maxHeartbeats 400000 in
theorem Shift_bad (s : Bool) (A : Option Addr) (n c : Nat) (xs : List Nat) (K : Int) (w : World) (h : Rd w A n xs) (hv : validB s xs = false) :
    Calls Try.prog 33 #[.agg #[.bool s, .slice A n c], .int .i64 K] w (Bad w 1) := by
  have HV := Lib.hid hv
  have HR := Lib.hid h
  have E := Lib.hid (Env1r.start w s A n c)
  clear hv h
  go_enter Try.func33, Try.ntmps33
  go_wp2_with fail
  generalize (w.alloc (.cells #[.bool s, .slice A n c] 24)).alloc (.cells #[.bool false, .slice none 0 0] 24) = W at E ⊢
  refine (valid_c s A n c xs W (HR.out.below E.out.below)).mono ?_
  rintro e w1 ⟨rfl, hb⟩
  rw [HV.out]
  replace E := Lib.hid (E.out.next hb)
  clear hb
  have r0 := E.out.res.r0
  have r1 := E.out.res.r1
  have f0 := E.out.res.f0
  have f1 := E.out.res.f1
  go_wp2
  refine bodyPost_ret (v := .tuple #[.agg #[.bool false, .slice none 0 0], .int .i64 1]) (by simp [results, Try.results33, go_sem, r0, r1]) rfl ?_
  exact ⟨rfl, below_store E.out.below (by omega) _ _⟩

set_option maxHeartbeats 400000 in
/-- a power by a negative number -/
theorem Power_neg (s : Bool) (A : Option Addr) (n c : Nat) (xs : List Nat) (K : Int) (w : World) (h : Rd w A n xs) (hv : validB s xs = true) (hK : K < 0) :
    Calls Try.prog 32 #[.agg #[.bool s, .slice A n c], .int .i64 K] w (Bad w 2) := by
  have HV := Lib.hid hv
  have HR := Lib.hid h
  have E := Lib.hid (Env1r.start w s A n c)
  clear hv h
  go_enter Try.func32, Try.ntmps32
  go_wp2_with fail
  generalize (w.alloc (.cells #[.bool s, .slice A n c] 24)).alloc (.cells #[.bool false, .slice none 0 0] 24) = W at E ⊢
  refine (valid_c s A n c xs W (HR.out.below E.out.below)).mono ?_
  rintro e w1 ⟨rfl, hb⟩
  rw [HV.out]
  replace E := Lib.hid (E.out.next hb)
  clear hb
  have r0 := E.out.res.r0
  have r1 := E.out.res.r1
  have f0 := E.out.res.f0
  have f1 := E.out.res.f1
  go_wp2
  refine bodyPost_ret (v := .tuple #[.agg #[.bool false, .slice none 0 0], .int .i64 2]) (by simp [results, Try.results32, go_sem, r0, r1]) rfl ?_
  exact ⟨rfl, below_store E.out.below (by omega) _ _⟩

set_option maxHeartbeats 400000 in
theorem Bits_bad (s : Bool) (A : Option Addr) (n c : Nat) (xs : List Nat) (w : World) (h : Rd w A n xs) (hv : validB s xs = false) :
    Calls Try.prog 35 #[.agg #[.bool s, .slice A n c]] w fun e w' => e = .returned (.int .i64 0) ∧ Below w.heap.size w w' := by
  have HV := Lib.hid hv
  have HR := Lib.hid h
  have B := Lib.hid (below_alloc w (.cells #[.bool s, .slice A n c] 24))
  clear hv h
  go_enter Try.func35, Try.ntmps35
  go_wp2_with fail
  refine (valid_c s A n c xs _ (HR.out.below B.out)).mono ?_
  rintro e w1 ⟨rfl, hb⟩
  rw [HV.out]
  have B1 := Lib.hid (B.out.trans (hb.mono B.out.size))
  clear hb
  go_wp2
  go_ret
  exact ⟨rfl, B1.out⟩

set_option maxHeartbeats 400000 in
theorem Under_bad (s s' : Bool) (A A' : Option Addr) (n c n' c' : Nat) (xs ys : List Nat) (w : World) (h : Rd w A n xs) (h' : Rd w A' n' ys) (hv : (validB s xs && validB s' ys) = false) :
    Calls Try.prog 34 #[.agg #[.bool s, .slice A n c], .agg #[.bool s', .slice A' n' c']] w (fun e w' => e = .returned (.tuple #[.bool false, .int .i64 1]) ∧ Below w.heap.size w w') := by
  have HV := Lib.hid hv
  clear hv
  go_enter Try.func34, Try.ntmps34
  go_wp2_with fail
  have E := (Env2.start w s s' A A' n c n' c').alloc (.cells #[.bool s, .slice A n c, .bool s', .slice A' n' c'] 24)
  refine (allValid_c (w.heap.size + 1 + 1) s s' A A' n c n' c' xs ys _ (h.below E.below) (h'.below E.below) (by simp) (by go_simp) (by go_simp) (by go_simp) (by go_simp)).mono ?_
  rintro e w1 ⟨rfl, hb⟩
  rw [HV.out]
  have E1 := Lib.hid (E.next hb)
  clear E hb
  have a0 := E1.out.a0
  have b0 := E1.out.b0
  clear h h'
  go_wp2
  go_ret2
  exact ⟨rfl, E1.out.below⟩

set_option maxHeartbeats 400000 in
theorem Under_neg (s s' : Bool) (A A' : Option Addr) (n c n' c' : Nat) (xs ys : List Nat) (w : World) (h : Rd w A n xs) (h' : Rd w A' n' ys) (hv : (validB s xs && validB s' ys) = true) (hs : (s || s') = true) :
    Calls Try.prog 34 #[.agg #[.bool s, .slice A n c], .agg #[.bool s', .slice A' n' c']] w (fun e w' => e = .returned (.tuple #[.bool false, .int .i64 2]) ∧ Below w.heap.size w w') := by
  have HV := Lib.hid hv
  clear hv
  go_enter Try.func34, Try.ntmps34
  go_wp2_with fail
  have E := (Env2.start w s s' A A' n c n' c').alloc (.cells #[.bool s, .slice A n c, .bool s', .slice A' n' c'] 24)
  refine (allValid_c (w.heap.size + 1 + 1) s s' A A' n c n' c' xs ys _ (h.below E.below) (h'.below E.below) (by simp) (by go_simp) (by go_simp) (by go_simp) (by go_simp)).mono ?_
  rintro e w1 ⟨rfl, hb⟩
  rw [HV.out]
  have E1 := Lib.hid (E.next hb)
  clear E hb
  have a0 := E1.out.a0
  have b0 := E1.out.b0
  clear h h'
  rcases s with _ | _
  · obtain rfl : s' = true := by simpa using hs
    go_wp2
    go_ret2
    exact ⟨rfl, E1.out.below⟩
  · clear hs
    go_wp2
    go_ret2
    exact ⟨rfl, E1.out.below⟩
end Go.Proofs.Ytpgiifjngkekgaa

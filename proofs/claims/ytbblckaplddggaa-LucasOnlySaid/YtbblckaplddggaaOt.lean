import Derived.Test.YtbblckaplddggaaOs
import Derived.Test.YtbblckaplddggaaOk
import Derived.Test.YtbblckaplddggaaOm
set_option maxRecDepth 100000
namespace Go.Proofs.Ytbblckaplddggaa
open Go.RowKit Go.Shelf
theorem raw_len {w : World} {s : Bool} {A : Option Addr} {n : Nat} {xs : List Nat} (h : Rd w A n xs) (h1 : validB s xs = true) : n ≤ 4096 := by
  unfold validB at h1
  rw [h.len] at h1
  split at h1
  · omega
  · simp at h1; omega
theorem raw_iv {w : World} {s : Bool} {A : Option Addr} {n c : Nat} {xs : List Nat} (h : Rd w A n xs) (h1 : validB s xs = true) (hn : n ≤ c) (hc : c ≤ 9223372036854775807) : Iv w (sgn s (val xs)) s A n c :=
  (Is.of_valid h h1 hn hc).iv_of (sz_valid h (raw_len h h1))
theorem codeV_bad {s : Bool} {xs : List Nat} {vo : Bool} (h : validB s xs = false ∨ vo = false) : codeV s xs vo = 1 := if_pos h
theorem codeV_zero {s : Bool} {xs : List Nat} {vo : Bool} (h : codeV s xs vo = 0) : validB s xs = true ∧ vo = true ∧ 2 ≤ sgn s (val xs) := by
  unfold codeV at h
  split at h
  · omega
  · rename_i hv
    split at h
    · omega
    · refine ⟨?_, ?_, by omega⟩
      · cases hb : validB s xs
        · exact absurd (.inl hb) hv
        · rfl
      · cases vo
        · exact absurd (.inr rfl) hv
        · rfl
set_option maxHeartbeats 2000000 in
theorem code_c {w : World} {s : Bool} {A : Option Addr} {n c : Nat} {xs : List Nat} (h : Rd w A n xs) (hn : n ≤ c) (hc : c ≤ 9223372036854775807) :
    Calls Try.prog 18 #[.agg #[.bool s, .slice A n c]] w fun e w' => e = .returned (.int .i64 (codeV s xs true)) ∧ Below w.heap.size w w' := by
  have b0 := below_alloc w (.cells #[.bool s, .slice A n c] 24)
  have B0 := Lib.hid (Rb.new (s := s) (c := c) h)
  have HB := Lib.hid b0
  have HN := Lib.hid (And.intro hn hc)
  obtain ⟨va, hva⟩ : ∃ va, va = validB s xs := ⟨_, rfl⟩
  have HVA := Lib.hid hva
  clear h b0 hn hc hva
  go_enter Try.func18, Try.ntmps18
  go_wp2_with fail
  generalize w.alloc (.cells #[.bool s, .slice A n c] 24) = W0 at B0 HB ⊢
  refine (refValid_c s A n c xs _ B0.out.rd).mono ?_
  rw [← HVA.out]
  rintro e w1 ⟨rfl, hb⟩
  replace HB := Lib.hid (HB.out.trans (hb.mono HB.out.size))
  replace B0 := Lib.hid (B0.out.next hb)
  clear hb
  cases va with
  | false =>
    go_wp2
    go_ret
    exact ⟨by rw [codeV_bad (.inl HVA.out.symm)]; rfl, HB.out⟩
  | true =>
    have a0 := B0.out.c0
    have a1 := B0.out.c1
    go_wp2_with fail
    refine (Right_c (Is.of_valid B0.out.rd HVA.out.symm HN.out.1 HN.out.2) (Nat.le_trans (raw_len B0.out.rd HVA.out.symm) (by omega))).mono ?_
    rintro e w2 ⟨rfl, hb⟩
    replace HB := Lib.hid (HB.out.trans (hb.mono HB.out.size))
    clear hb a0 a1 B0
    by_cases hz : 2 ≤ sgn s (val xs)
    · have HV := Lib.hid (show codeV s xs true = 0 by unfold codeV; rw [if_neg (by rw [← HVA.out]; simp), if_neg (by omega)])
      rw [decide_eq_true hz]
      clear hz
      go_wp2
      go_ret
      exact ⟨by rw [HV.out]; rfl, HB.out⟩
    · have HV := Lib.hid (show codeV s xs true = 2 by unfold codeV; rw [if_neg (by rw [← HVA.out]; simp), if_pos (by omega)])
      rw [decide_eq_false hz]
      clear hz
      go_wp2
      go_ret
      exact ⟨by rw [HV.out]; rfl, HB.out⟩
set_option maxHeartbeats 2000000 in
theorem number_err (k : Int) (hk : k ≠ 0) (t' : Bool) (A' : Option Addr) (n' c' : Nat) (w : World) :
    Calls Try.prog 19 #[.agg #[.bool false, .slice none 0 0], .int .i64 k, .agg #[.bool t', .slice A' n' c'], .int .i64 k] w (IsB true w) := by
  have HB := Lib.hid ((below_alloc w (.cells #[.bool false, .slice none 0 0] 24)).alloc (by simp) (.cells #[.bool t', .slice A' n' c'] 24))
  have t1 : (k == 0) = false := by rw [beq_eq_false_iff_ne]; exact hk
  go_enter Try.func19, Try.ntmps19
  go_wp2_with fail
  refine (zero_c false none 0 0 _).mono ?_
  rintro e w2 ⟨rfl, hb⟩
  replace HB := Lib.hid (HB.out.trans (hb.mono HB.out.size))
  clear hb
  go_wp2
  go_ret
  exact ⟨rfl, HB.out⟩
set_option maxHeartbeats 2000000 in
theorem number_ok {w : World} {z : Int} {t t' : Bool} {A A' : Option Addr} {n c n' c' : Nat} (h : Is w z t A n c) (h' : Is w z t' A' n' c') (hz : Sz z 4096) :
    Calls Try.prog 19 #[.agg #[.bool t, .slice A n c], .int .i64 0, .agg #[.bool t', .slice A' n' c'], .int .i64 0] w (IsB true w) := by
  have hb := (below_alloc w (.cells #[.bool t, .slice A n c] 24)).alloc (by simp) (.cells #[.bool t', .slice A' n' c'] 24)
  have HI := Lib.hid (h.below hb)
  have HJ := Lib.hid (h'.below hb)
  have HZ := Lib.hid hz
  have HB := Lib.hid hb
  clear h h' hz hb
  go_enter Try.func19, Try.ntmps19
  go_wp2_with fail
  refine (same_eq (k := 4096) HI.out HJ.out HZ.out (Nat.le_refl _) rfl).mono ?_
  rintro e w2 ⟨rfl, hb⟩
  replace HB := Lib.hid (HB.out.trans (hb.mono HB.out.size))
  clear hb
  go_wp2
  go_ret
  exact ⟨rfl, HB.out⟩
/-- two variables of whatever words -/
structure Rb2 (w W : World) (s : Bool) (A : Option Addr) (n c : Nat) (xs : List Nat) (s' : Bool) (A' : Option Addr) (n' c' : Nat) (ys : List Nat) : Prop where
  below : Below w.heap.size w W
  ba : Rb W w.heap.size s A n c xs
  bb : Rb W (w.heap.size + 1) s' A' n' c' ys
theorem Rb2.next {w W W' : World} {s : Bool} {A : Option Addr} {n c : Nat} {xs : List Nat} {s' : Bool} {A' : Option Addr} {n' c' : Nat} {ys : List Nat} (h : Rb2 w W s A n c xs s' A' n' c' ys) (hb : Below W.heap.size W W') : Rb2 w W' s A n c xs s' A' n' c' ys :=
  ⟨h.below.trans (hb.mono h.below.size), h.ba.next hb, h.bb.next hb⟩
theorem Rb2.start {w : World} {s : Bool} {A : Option Addr} {n c : Nat} {xs : List Nat} {s' : Bool} {A' : Option Addr} {n' c' : Nat} {ys : List Nat} (h : Rd w A n xs) (h' : Rd w A' n' ys) : Rb2 w ((w.alloc (.cells #[.bool s, .slice A n c] 24)).alloc (.cells #[.bool s', .slice A' n' c'] 24)) s A n c xs s' A' n' c' ys := by
  refine ⟨((Below.refl _ _).alloc (Nat.le_refl _) _).alloc (by simp) _, (Rb.new h).alloc _, ?_⟩
  have := Rb.new (s := s') (c := c') (h'.below (below_alloc w (.cells #[.bool s, .slice A n c] 24)))
  rwa [World.size_alloc] at this
set_option maxHeartbeats 4000000 in
theorem Index_err {w : World} {s : Bool} {A : Option Addr} {n c : Nat} {xs : List Nat} {s' : Bool} {A' : Option Addr} {n' c' : Nat} {ys : List Nat} (h : Rd w A n xs) (h' : Rd w A' n' ys) (hn : n ≤ c) (hc : c ≤ 9223372036854775807) (k : Int) (hk : codeV s xs (validB s' ys) = k) (hk0 : k ≠ 0) :
    Calls Try.prog 30 #[.agg #[.bool s, .slice A n c], .agg #[.bool s', .slice A' n' c']] w fun e w' => e = .returned (.tuple #[.int .i64 0, .int .i64 k]) ∧ Below w.heap.size w w' := by
  have E := Lib.hid (Rb2.start (s := s) (c := c) (s' := s') (c' := c') h h')
  have HN := Lib.hid (And.intro hn hc)
  have t1 : (k == 0) = false := by rw [beq_eq_false_iff_ne]; exact hk0
  have HK := Lib.hid hk
  clear h h' hn hc hk hk0
  go_enter Try.func30, Try.ntmps30
  go_upto_region 1 with (fail)
  generalize (w.alloc (.cells #[.bool s, .slice A n c] 24)).alloc (.cells #[.bool s', .slice A' n' c'] 24) = W0 at E ⊢
  have a0 := E.out.ba.c0
  have a1 := E.out.ba.c1
  have b0 := E.out.bb.c0
  have b1 := E.out.bb.c1
  go_wp2_with fail
  have hb := below_alloc W0 (.cells #[.bool s', .slice A' n' c'] 24)
  have O1 := Lib.hid (oth1_raw (Rb.new (s := s') (c := c') E.out.bb.rd))
  replace E := Lib.hid (E.out.next hb)
  clear hb a0 a1 b0 b1
  generalize W0.alloc (.cells #[.bool s', .slice A' n' c'] 24) = W1 at E O1 ⊢
  refine (check_raw E.out.ba.rd HN.out.1 HN.out.2 _ _ O1.out).mono ?_
  rw [HK.out]
  rintro e w1 ⟨rfl, hb⟩
  replace E := Lib.hid (E.out.next hb)
  clear hb O1
  go_wp2
  go_ret2
  exact ⟨rfl, E.out.below⟩
end Go.Proofs.Ytbblckaplddggaa

/- the law's steps and wide -/
import Derived.Test.YthjdnidapbhdlaaDoorHq
set_option maxRecDepth 100000
namespace Go.Proofs.YthjdnidapbhdlaaDoor
open Go.RowKit
set_option maxHeartbeats 1000000 in
theorem wide_f (R : Int) (A : Option Addr) (n c : Nat) (at_ : Int) (B : Option Addr) (m d : Nat) (C : Option Addr) (k e : Nat) (w : World) (h : n ≤ 100 ∧ m ≤ 100 ∧ k ≤ 100) :
    Calls Tryd.prog 21 #[.agg #[.int .i64 R, .slice A n c], .agg #[.int .i64 at_, .slice B m d], .slice C k e] w (RetB false w) := by
  have HB := Lib.hid (bel2 w (.cells #[.int .i64 R, .slice A n c] 43) (.cells #[.int .i64 at_, .slice B m d] 46))
  obtain ⟨h1, h2, h3⟩ := h
  have t1 : decide ((100 : Int) < (n : Int)) = false := decide_eq_false (by omega)
  have t2 : decide ((100 : Int) < (m : Int)) = false := decide_eq_false (by omega)
  have t3 : decide ((100 : Int) < (k : Int)) = false := decide_eq_false (by omega)
  have u1 : decide (100 < n) = false := decide_eq_false (by omega)
  have u2 : decide (100 < m) = false := decide_eq_false (by omega)
  have u3 : decide (100 < k) = false := decide_eq_false (by omega)
  go_enter Tryd.func21, Tryd.ntmps21
  go_wp2
  go_ret
  exact ⟨rfl, HB.out⟩
set_option maxHeartbeats 1000000 in
theorem wide_t (R : Int) (A : Option Addr) (n c : Nat) (at_ : Int) (B : Option Addr) (m d : Nat) (C : Option Addr) (k e : Nat) (w : World) (h : ¬ (n ≤ 100 ∧ m ≤ 100 ∧ k ≤ 100)) :
    Calls Tryd.prog 21 #[.agg #[.int .i64 R, .slice A n c], .agg #[.int .i64 at_, .slice B m d], .slice C k e] w (RetB true w) := by
  have HB := Lib.hid (bel2 w (.cells #[.int .i64 R, .slice A n c] 43) (.cells #[.int .i64 at_, .slice B m d] 46))
  by_cases h1 : 100 < n
  · have t1 : decide ((100 : Int) < (n : Int)) = true := decide_eq_true (by omega)
    have u1 : decide (100 < n) = true := decide_eq_true (by omega)
    clear h
    go_enter Tryd.func21, Tryd.ntmps21
    go_wp2
    go_ret
    exact ⟨rfl, HB.out⟩
  · have t1 : decide ((100 : Int) < (n : Int)) = false := decide_eq_false (by omega)
    have u1 : decide (100 < n) = false := decide_eq_false (by omega)
    by_cases h2 : 100 < m
    · have t2 : decide ((100 : Int) < (m : Int)) = true := decide_eq_true (by omega)
      have u2 : decide (100 < m) = true := decide_eq_true (by omega)
      clear h
      go_enter Tryd.func21, Tryd.ntmps21
      go_wp2
      go_ret
      exact ⟨rfl, HB.out⟩
    · have t2 : decide ((100 : Int) < (m : Int)) = false := decide_eq_false (by omega)
      have u2 : decide (100 < m) = false := decide_eq_false (by omega)
      have h3 : 100 < k := by omega
      have t3 : decide ((100 : Int) < (k : Int)) = true := decide_eq_true (by omega)
      have u3 : decide (100 < k) = true := decide_eq_true (by omega)
      clear h
      go_enter Tryd.func21, Tryd.ntmps21
      go_wp2
      go_ret
      exact ⟨rfl, HB.out⟩
theorem sameNone (w : World) : Calls Tryd.prog 35 #[.agg #[.int .i64 0, .slice none 0 0], .agg #[.int .i64 0, .slice none 0 0]] w (RetB true w) :=
  sameState_t 0 none none 0 0 0 [] w (RdI.nil _ _) (RdI.nil _ _) (by omega)
theorem sameNone2 (A B : Option Addr) (c d : Nat) (w : World) : Calls Tryd.prog 35 #[.agg #[.int .i64 0, .slice A 0 c], .agg #[.int .i64 0, .slice B 0 d]] w (RetB true w) :=
  sameState_t 0 A B 0 c d [] w (RdI.nil _ _) (RdI.nil _ _) (by omega)
set_option maxHeartbeats 8000000 in
theorem steps_bad (R : Int) (A : Option Addr) (n c : Nat) (cs : List Ins) (at_ : Int) (B : Option Addr) (m d : Nat) (zs : List Int) (N : Int) (w : World) (h : RdC w A n cs) (h' : RdI w B m zs) (hm : m ≤ 9223372036854775807) (hf : fitsM R cs at_ zs = false) :
    Calls Tryd.prog 28 #[.agg #[.int .i64 R, .slice A n c], .agg #[.int .i64 at_, .slice B m d], .int .i64 N] w (RetB true w) := by
  have E := Lib.hid (MS.start R A n c cs at_ B m d zs w h h')
  have HF := Lib.hid hf
  clear hf
  clear h h'
  go_enter Tryd.func28, Tryd.ntmps28
  go_upto_region 1 with (fail)
  generalize (w.alloc (.cells #[.int .i64 R, .slice A n c] 43)).alloc (.cells #[.int .i64 at_, .slice B m d] 46) = W0 at E ⊢
  generalize w.heap.size = g at E ⊢
  have m0 := E.out.bm.c0
  have m1 := E.out.bm.c1
  have s0 := E.out.bs.c0
  have s1 := E.out.bs.c1
  go_wp2_with fail
  refine (Step_bad R A n c cs at_ B m d zs _ E.out.rc E.out.ri hm HF.out).mono ?_
  rintro e w1 ⟨A1, c1, rfl, _, _, _, hb, _⟩
  simp only [List.length_nil]
  replace E := Lib.hid (E.out.next hb)
  clear hb m0 m1 s0 s1 
  have hb := bel_alloc w1 (.cells #[.int .i64 0, .slice A1 0 c1] 46)
  have X7 := Lib.hid (BxS.new w1 0 A1 0 c1)
  replace E := Lib.hid (E.out.next hb)
  clear hb
  go_upto_region 2 with (fail)
  generalize w1.alloc (.cells #[.int .i64 0, .slice A1 0 c1] 46) = ZX7 at E X7 ⊢
  generalize w1.heap.size = g7 at X7 ⊢
  have m0 := E.out.bm.c0
  have m1 := E.out.bm.c1
  have s0 := E.out.bs.c0
  have s1 := E.out.bs.c1
  go_wp2_with fail
  refine (Run_bad R A n c cs at_ B m d zs N _ E.out.rc E.out.ri hm HF.out).mono ?_
  rintro e w2 ⟨A2, c2, rfl, _, _, _, hb, _⟩
  simp only [List.length_nil]
  replace E := Lib.hid (E.out.next hb)
  replace X7 := Lib.hid (X7.out.next hb)
  clear hb m0 m1 s0 s1 
  have hb := bel_alloc w2 (.cells #[.int .i64 0, .slice A2 0 c2] 46)
  have X9 := Lib.hid (BxS.new w2 0 A2 0 c2)
  replace E := Lib.hid (E.out.next hb)
  replace X7 := Lib.hid (X7.out.next hb)
  clear hb
  go_upto_region 3 with (fail)
  generalize w2.alloc (.cells #[.int .i64 0, .slice A2 0 c2] 46) = ZX9 at E X7 X9 ⊢
  generalize w2.heap.size = g9 at X9 ⊢
  have hb := bel_alloc ZX9 (.cells #[.int .i64 0, .slice none 0 0] 46)
  have X12 := Lib.hid (BxS.new ZX9 0 none 0 0)
  replace E := Lib.hid (E.out.next hb)
  replace X7 := Lib.hid (X7.out.next hb)
  replace X9 := Lib.hid (X9.out.next hb)
  clear hb
  go_upto_region 4 with (fail)
  generalize ZX9.alloc (.cells #[.int .i64 0, .slice none 0 0] 46) = ZX12 at E X7 X9 X12 ⊢
  generalize ZX9.heap.size = g12 at X12 ⊢
  have m0 := E.out.bm.c0
  have m1 := E.out.bm.c1
  have s0 := E.out.bs.c0
  have s1 := E.out.bs.c1
  go_wp2_with fail
  refine (refFits_c R A n c cs at_ B m d zs _ E.out.rc E.out.ri hm).mono ?_
  rintro e w3 ⟨rfl, hb⟩
  rw [HF.out]
  replace E := Lib.hid (E.out.next hb)
  replace X7 := Lib.hid (X7.out.next hb)
  replace X9 := Lib.hid (X9.out.next hb)
  replace X12 := Lib.hid (X12.out.next hb)
  clear hb m0 m1 s0 s1 
  have m0 := E.out.bm.c0
  have m1 := E.out.bm.c1
  have s0 := E.out.bs.c0
  have s1 := E.out.bs.c1
  have X70 := X7.out.c0
  have X71 := X7.out.c1
  have X120 := X12.out.c0
  have X121 := X12.out.c1
  go_wp2_with fail
  refine (sameNone2 A1 none c1 0 _).mono ?_
  rintro e w4 ⟨rfl, hb⟩
  replace E := Lib.hid (E.out.next hb)
  replace X7 := Lib.hid (X7.out.next hb)
  replace X9 := Lib.hid (X9.out.next hb)
  replace X12 := Lib.hid (X12.out.next hb)
  clear hb m0 m1 s0 s1 X70 X71 X120 X121
  have m0 := E.out.bm.c0
  have m1 := E.out.bm.c1
  have s0 := E.out.bs.c0
  have s1 := E.out.bs.c1
  have X90 := X9.out.c0
  have X91 := X9.out.c1
  have X120 := X12.out.c0
  have X121 := X12.out.c1
  go_wp2_with fail
  refine (sameNone2 A2 none c2 0 _).mono ?_
  rintro e w5 ⟨rfl, hb⟩
  replace E := Lib.hid (E.out.next hb)
  replace X7 := Lib.hid (X7.out.next hb)
  replace X9 := Lib.hid (X9.out.next hb)
  replace X12 := Lib.hid (X12.out.next hb)
  clear hb m0 m1 s0 s1 X90 X91 X120 X121
  go_wp2
  go_ret
  exact ⟨rfl, E.out.below⟩
set_option maxHeartbeats 8000000 in
theorem steps_arg (R : Int) (A : Option Addr) (n c : Nat) (cs : List Ins) (at_ : Int) (B : Option Addr) (m d : Nat) (zs : List Int) (N : Int) (w : World) (h : RdC w A n cs) (h' : RdI w B m zs) (hm : m ≤ 9223372036854775807) (hf : FitsP R cs at_ zs) (hN : N < 0 ∨ 1000000 < N) :
    Calls Tryd.prog 28 #[.agg #[.int .i64 R, .slice A n c], .agg #[.int .i64 at_, .slice B m d], .int .i64 N] w (RetB true w) := by
  have E := Lib.hid (MS.start R A n c cs at_ B m d zs w h h')
  have HP := Lib.hid hf
  have HF := Lib.hid (p_fits hf)
  obtain ⟨sm, hsm⟩ : ∃ s, s = stepM cs at_ zs := ⟨_, rfl⟩
  obtain ⟨sa, sz, se⟩ := sm
  have HSM := Lib.hid hsm
  have HSL := Lib.hid (show sz.length ≤ 9223372036854775800 by
    have h1 := hf.bounds
    have h2 : sz = (stepM cs at_ zs).2.1 := by rw [← hsm]
    rw [h2]
    unfold stepM
    simp only
    split
    · simp
    · split
      · simp only [advZs_len]; omega
      · simp)
  clear hf hsm
  clear h h'
  go_enter Tryd.func28, Tryd.ntmps28
  go_upto_region 1 with (fail)
  generalize (w.alloc (.cells #[.int .i64 R, .slice A n c] 43)).alloc (.cells #[.int .i64 at_, .slice B m d] 46) = W0 at E ⊢
  generalize w.heap.size = g at E ⊢
  have m0 := E.out.bm.c0
  have m1 := E.out.bm.c1
  have s0 := E.out.bs.c0
  have s1 := E.out.bs.c1
  go_wp2_with fail
  refine (Step_ok R A n c cs at_ B m d zs _ E.out.rc E.out.ri hm HP.out).mono ?_
  rintro e w1 ⟨A1, c1, rfl, h1, _, _, hb, _⟩
  rw [← HSM.out] at h1 ⊢
  simp only at h1 ⊢
  have O1 := Lib.hid (h1)
  clear h1
  replace E := Lib.hid (E.out.next hb)
  clear hb m0 m1 s0 s1 
  have hb := bel_alloc w1 (.cells #[.int .i64 sa, .slice A1 sz.length c1] 46)
  have X7 := Lib.hid (BxS.new w1 sa A1 sz.length c1)
  replace E := Lib.hid (E.out.next hb)
  replace O1 := Lib.hid (O1.out.below hb)
  clear hb
  go_upto_region 2 with (fail)
  generalize w1.alloc (.cells #[.int .i64 sa, .slice A1 sz.length c1] 46) = ZX7 at E O1 X7 ⊢
  generalize w1.heap.size = g7 at X7 ⊢
  have m0 := E.out.bm.c0
  have m1 := E.out.bm.c1
  have s0 := E.out.bs.c0
  have s1 := E.out.bs.c1
  go_wp2_with fail
  refine (Run_arg R A n c cs at_ B m d zs N _ E.out.rc E.out.ri hm HF.out hN).mono ?_
  rintro e w2 ⟨A2, c2, rfl, _, _, _, hb, _⟩
  simp only [List.length_nil]
  replace E := Lib.hid (E.out.next hb)
  replace O1 := Lib.hid (O1.out.below hb)
  replace X7 := Lib.hid (X7.out.next hb)
  clear hb m0 m1 s0 s1 
  have hb := bel_alloc w2 (.cells #[.int .i64 0, .slice A2 0 c2] 46)
  have X9 := Lib.hid (BxS.new w2 0 A2 0 c2)
  replace E := Lib.hid (E.out.next hb)
  replace O1 := Lib.hid (O1.out.below hb)
  replace X7 := Lib.hid (X7.out.next hb)
  clear hb
  go_upto_region 3 with (fail)
  generalize w2.alloc (.cells #[.int .i64 0, .slice A2 0 c2] 46) = ZX9 at E O1 X7 X9 ⊢
  generalize w2.heap.size = g9 at X9 ⊢
  have hb := bel_alloc ZX9 (.cells #[.int .i64 0, .slice none 0 0] 46)
  have X12 := Lib.hid (BxS.new ZX9 0 none 0 0)
  replace E := Lib.hid (E.out.next hb)
  replace O1 := Lib.hid (O1.out.below hb)
  replace X7 := Lib.hid (X7.out.next hb)
  replace X9 := Lib.hid (X9.out.next hb)
  clear hb
  go_upto_region 4 with (fail)
  generalize ZX9.alloc (.cells #[.int .i64 0, .slice none 0 0] 46) = ZX12 at E O1 X7 X9 X12 ⊢
  generalize ZX9.heap.size = g12 at X12 ⊢
  have m0 := E.out.bm.c0
  have m1 := E.out.bm.c1
  have s0 := E.out.bs.c0
  have s1 := E.out.bs.c1
  go_wp2_with fail
  refine (refFits_c R A n c cs at_ B m d zs _ E.out.rc E.out.ri hm).mono ?_
  rintro e w3 ⟨rfl, hb⟩
  rw [HF.out]
  replace E := Lib.hid (E.out.next hb)
  replace O1 := Lib.hid (O1.out.below hb)
  replace X7 := Lib.hid (X7.out.next hb)
  replace X9 := Lib.hid (X9.out.next hb)
  replace X12 := Lib.hid (X12.out.next hb)
  clear hb m0 m1 s0 s1 
  have m0 := E.out.bm.c0
  have m1 := E.out.bm.c1
  have s0 := E.out.bs.c0
  have s1 := E.out.bs.c1
  go_wp2_with fail
  refine (refStep_c R A n c cs at_ B m d zs _ E.out.rc E.out.ri HP.out).mono ?_
  rintro e w4 ⟨A3, c3, rfl, h1, _, _, hb, _⟩
  rw [← HSM.out] at h1 ⊢
  simp only at h1 ⊢
  have O3 := Lib.hid (h1)
  clear h1
  replace E := Lib.hid (E.out.next hb)
  replace O1 := Lib.hid (O1.out.below hb)
  replace X7 := Lib.hid (X7.out.next hb)
  replace X9 := Lib.hid (X9.out.next hb)
  replace X12 := Lib.hid (X12.out.next hb)
  clear hb m0 m1 s0 s1 
  have hb := bel_alloc w4 (.cells #[.int .i64 sa, .slice A3 sz.length c3] 46)
  have X13 := Lib.hid (BxS.new w4 sa A3 sz.length c3)
  replace E := Lib.hid (E.out.next hb)
  replace O1 := Lib.hid (O1.out.below hb)
  replace X7 := Lib.hid (X7.out.next hb)
  replace X9 := Lib.hid (X9.out.next hb)
  replace X12 := Lib.hid (X12.out.next hb)
  replace O3 := Lib.hid (O3.out.below hb)
  clear hb
  go_upto_region 7 with (fail)
  generalize w4.alloc (.cells #[.int .i64 sa, .slice A3 sz.length c3] 46) = ZX13 at E O1 X7 X9 X12 O3 X13 ⊢
  generalize w4.heap.size = g13 at X13 ⊢
  have te : (se == se) = true := by simp
  have tn : (se != se) = false := by simp
  have m0 := E.out.bm.c0
  have m1 := E.out.bm.c1
  have s0 := E.out.bs.c0
  have s1 := E.out.bs.c1
  have X70 := X7.out.c0
  have X71 := X7.out.c1
  have X130 := X13.out.c0
  have X131 := X13.out.c1
  go_wp2_with fail
  refine (sameState_t sa A1 A3 sz.length c1 c3 sz _ O1.out O3.out HSL.out).mono ?_
  rintro e w5 ⟨rfl, hb⟩
  replace E := Lib.hid (E.out.next hb)
  replace O1 := Lib.hid (O1.out.below hb)
  replace X7 := Lib.hid (X7.out.next hb)
  replace X9 := Lib.hid (X9.out.next hb)
  replace X12 := Lib.hid (X12.out.next hb)
  replace O3 := Lib.hid (O3.out.below hb)
  replace X13 := Lib.hid (X13.out.next hb)
  clear hb m0 m1 s0 s1 X70 X71 X130 X131
  clear te tn
  by_cases hq : N < 0
  · have t1 : decide (N < 0) = true := decide_eq_true hq
    have m0 := E.out.bm.c0
    have m1 := E.out.bm.c1
    have s0 := E.out.bs.c0
    have s1 := E.out.bs.c1
    have X90 := X9.out.c0
    have X91 := X9.out.c1
    have X120 := X12.out.c0
    have X121 := X12.out.c1
    go_wp2_with fail
    refine (sameNone2 A2 none c2 0 _).mono ?_
    rintro e w9 ⟨rfl, hb⟩
    replace E := Lib.hid (E.out.next hb)
    clear hb m0 m1 s0 s1 X90 X91 X120 X121
    go_wp2
    go_ret
    exact ⟨rfl, E.out.below⟩
  · have t1 : decide (N < 0) = false := decide_eq_false hq
    have t2 : decide (1000000 < N) = true := decide_eq_true (by omega)
    have m0 := E.out.bm.c0
    have m1 := E.out.bm.c1
    have s0 := E.out.bs.c0
    have s1 := E.out.bs.c1
    have X90 := X9.out.c0
    have X91 := X9.out.c1
    have X120 := X12.out.c0
    have X121 := X12.out.c1
    go_wp2_with fail
    refine (sameNone2 A2 none c2 0 _).mono ?_
    rintro e w9 ⟨rfl, hb⟩
    replace E := Lib.hid (E.out.next hb)
    clear hb m0 m1 s0 s1 X90 X91 X120 X121
    go_wp2
    go_ret
    exact ⟨rfl, E.out.below⟩
set_option maxHeartbeats 8000000 in
theorem steps_ok (R : Int) (A : Option Addr) (n c : Nat) (cs : List Ins) (at_ : Int) (B : Option Addr) (m d : Nat) (zs : List Int) (N : Nat) (w : World) (h : RdC w A n cs) (h' : RdI w B m zs) (hm : m ≤ 9223372036854775807) (hf : FitsP R cs at_ zs) (hN : N ≤ 1000000) :
    Calls Tryd.prog 28 #[.agg #[.int .i64 R, .slice A n c], .agg #[.int .i64 at_, .slice B m d], .int .i64 (N : Int)] w (RetB true w) := by
  have E := Lib.hid (MS.start R A n c cs at_ B m d zs w h h')
  have HP := Lib.hid hf
  have HF := Lib.hid (p_fits hf)
  obtain ⟨sm, hsm⟩ : ∃ s, s = stepM cs at_ zs := ⟨_, rfl⟩
  obtain ⟨sa, sz, se⟩ := sm
  have HSM := Lib.hid hsm
  have HSL := Lib.hid (show sz.length ≤ 9223372036854775800 by
    have h1 := hf.bounds
    have h2 : sz = (stepM cs at_ zs).2.1 := by rw [← hsm]
    rw [h2]
    unfold stepM
    simp only
    split
    · simp
    · split
      · simp only [advZs_len]; omega
      · simp)
  obtain ⟨r, hr⟩ : ∃ r, r = runM cs N at_ zs := ⟨_, rfl⟩
  have HR := Lib.hid hr
  have HRL := Lib.hid (show r.zs.length ≤ 9223372036854775800 by
    rw [hr]
    cases hb : (runM cs N at_ zs).big
    · have h1 := (run_fits N hf hb).bounds
      omega
    · cases N with
      | zero => cases hb
      | succ N =>
        unfold runM at hb ⊢
        simp only at hb ⊢
        split
        · rename_i h1; rw [if_pos h1] at hb; cases hb
        · rename_i h1
          rw [if_neg h1] at hb
          split
          · simp
          · rename_i h2
            rw [if_neg h2] at hb
            split
            · simp
            · rename_i h3; rw [if_neg h3] at hb; cases hb)
  obtain ⟨err, herr⟩ : ∃ q : Int, q = if r.big = true then 4 else 0 := ⟨_, rfl⟩
  have HERR := Lib.hid herr
  have N0 : decide ((N : Int) < 0) = false := decide_eq_false (by omega)
  have N1 : decide ((1000000 : Int) < (N : Int)) = false := decide_eq_false (by omega)
  have HNN := Lib.hid hN
  clear hf hsm hr herr hN
  clear h h'
  go_enter Tryd.func28, Tryd.ntmps28
  go_upto_region 1 with (fail)
  generalize (w.alloc (.cells #[.int .i64 R, .slice A n c] 43)).alloc (.cells #[.int .i64 at_, .slice B m d] 46) = W0 at E ⊢
  generalize w.heap.size = g at E ⊢
  have m0 := E.out.bm.c0
  have m1 := E.out.bm.c1
  have s0 := E.out.bs.c0
  have s1 := E.out.bs.c1
  go_wp2_with fail
  refine (Step_ok R A n c cs at_ B m d zs _ E.out.rc E.out.ri hm HP.out).mono ?_
  rintro e w1 ⟨A1, c1, rfl, h1, _, _, hb, _⟩
  rw [← HSM.out] at h1 ⊢
  simp only at h1 ⊢
  have O1 := Lib.hid (h1)
  clear h1
  replace E := Lib.hid (E.out.next hb)
  clear hb m0 m1 s0 s1 
  have hb := bel_alloc w1 (.cells #[.int .i64 sa, .slice A1 sz.length c1] 46)
  have X7 := Lib.hid (BxS.new w1 sa A1 sz.length c1)
  replace E := Lib.hid (E.out.next hb)
  replace O1 := Lib.hid (O1.out.below hb)
  clear hb
  go_upto_region 2 with (fail)
  generalize w1.alloc (.cells #[.int .i64 sa, .slice A1 sz.length c1] 46) = ZX7 at E O1 X7 ⊢
  generalize w1.heap.size = g7 at X7 ⊢
  have m0 := E.out.bm.c0
  have m1 := E.out.bm.c1
  have s0 := E.out.bs.c0
  have s1 := E.out.bs.c1
  go_wp2_with fail
  refine (Run_ok R A n c cs at_ B m d zs N _ E.out.rc E.out.ri hm HP.out HNN.out).mono ?_
  rintro e w2 hq
  unfold RunR at hq
  rw [← HR.out, ← HERR.out] at hq
  obtain ⟨A2, c2, rfl, h1, _, _, hb, _⟩ := hq
  have O2 := Lib.hid h1
  clear h1
  replace E := Lib.hid (E.out.next hb)
  replace O1 := Lib.hid (O1.out.below hb)
  replace X7 := Lib.hid (X7.out.next hb)
  clear hb m0 m1 s0 s1 
  have hb := bel_alloc w2 (.cells #[.int .i64 r.at_, .slice A2 r.zs.length c2] 46)
  have X9 := Lib.hid (BxS.new w2 r.at_ A2 r.zs.length c2)
  replace E := Lib.hid (E.out.next hb)
  replace O1 := Lib.hid (O1.out.below hb)
  replace X7 := Lib.hid (X7.out.next hb)
  replace O2 := Lib.hid (O2.out.below hb)
  clear hb
  go_upto_region 3 with (fail)
  generalize w2.alloc (.cells #[.int .i64 r.at_, .slice A2 r.zs.length c2] 46) = ZX9 at E O1 X7 O2 X9 ⊢
  generalize w2.heap.size = g9 at X9 ⊢
  have hb := bel_alloc ZX9 (.cells #[.int .i64 0, .slice none 0 0] 46)
  have X12 := Lib.hid (BxS.new ZX9 0 none 0 0)
  replace E := Lib.hid (E.out.next hb)
  replace O1 := Lib.hid (O1.out.below hb)
  replace X7 := Lib.hid (X7.out.next hb)
  replace O2 := Lib.hid (O2.out.below hb)
  replace X9 := Lib.hid (X9.out.next hb)
  clear hb
  go_upto_region 4 with (fail)
  generalize ZX9.alloc (.cells #[.int .i64 0, .slice none 0 0] 46) = ZX12 at E O1 X7 O2 X9 X12 ⊢
  generalize ZX9.heap.size = g12 at X12 ⊢
  have m0 := E.out.bm.c0
  have m1 := E.out.bm.c1
  have s0 := E.out.bs.c0
  have s1 := E.out.bs.c1
  go_wp2_with fail
  refine (refFits_c R A n c cs at_ B m d zs _ E.out.rc E.out.ri hm).mono ?_
  rintro e w3 ⟨rfl, hb⟩
  rw [HF.out]
  replace E := Lib.hid (E.out.next hb)
  replace O1 := Lib.hid (O1.out.below hb)
  replace X7 := Lib.hid (X7.out.next hb)
  replace O2 := Lib.hid (O2.out.below hb)
  replace X9 := Lib.hid (X9.out.next hb)
  replace X12 := Lib.hid (X12.out.next hb)
  clear hb m0 m1 s0 s1 
  have m0 := E.out.bm.c0
  have m1 := E.out.bm.c1
  have s0 := E.out.bs.c0
  have s1 := E.out.bs.c1
  go_wp2_with fail
  refine (refStep_c R A n c cs at_ B m d zs _ E.out.rc E.out.ri HP.out).mono ?_
  rintro e w4 ⟨A3, c3, rfl, h1, _, _, hb, _⟩
  rw [← HSM.out] at h1 ⊢
  simp only at h1 ⊢
  have O3 := Lib.hid (h1)
  clear h1
  replace E := Lib.hid (E.out.next hb)
  replace O1 := Lib.hid (O1.out.below hb)
  replace X7 := Lib.hid (X7.out.next hb)
  replace O2 := Lib.hid (O2.out.below hb)
  replace X9 := Lib.hid (X9.out.next hb)
  replace X12 := Lib.hid (X12.out.next hb)
  clear hb m0 m1 s0 s1 
  have hb := bel_alloc w4 (.cells #[.int .i64 sa, .slice A3 sz.length c3] 46)
  have X13 := Lib.hid (BxS.new w4 sa A3 sz.length c3)
  replace E := Lib.hid (E.out.next hb)
  replace O1 := Lib.hid (O1.out.below hb)
  replace X7 := Lib.hid (X7.out.next hb)
  replace O2 := Lib.hid (O2.out.below hb)
  replace X9 := Lib.hid (X9.out.next hb)
  replace X12 := Lib.hid (X12.out.next hb)
  replace O3 := Lib.hid (O3.out.below hb)
  clear hb
  go_upto_region 7 with (fail)
  generalize w4.alloc (.cells #[.int .i64 sa, .slice A3 sz.length c3] 46) = ZX13 at E O1 X7 O2 X9 X12 O3 X13 ⊢
  generalize w4.heap.size = g13 at X13 ⊢
  have te : (se == se) = true := by simp
  have tn : (se != se) = false := by simp
  have m0 := E.out.bm.c0
  have m1 := E.out.bm.c1
  have s0 := E.out.bs.c0
  have s1 := E.out.bs.c1
  have X70 := X7.out.c0
  have X71 := X7.out.c1
  have X130 := X13.out.c0
  have X131 := X13.out.c1
  go_wp2_with fail
  refine (sameState_t sa A1 A3 sz.length c1 c3 sz _ O1.out O3.out HSL.out).mono ?_
  rintro e w5 ⟨rfl, hb⟩
  replace E := Lib.hid (E.out.next hb)
  replace O1 := Lib.hid (O1.out.below hb)
  replace X7 := Lib.hid (X7.out.next hb)
  replace O2 := Lib.hid (O2.out.below hb)
  replace X9 := Lib.hid (X9.out.next hb)
  replace X12 := Lib.hid (X12.out.next hb)
  replace O3 := Lib.hid (O3.out.below hb)
  replace X13 := Lib.hid (X13.out.next hb)
  clear hb m0 m1 s0 s1 X70 X71 X130 X131
  clear te tn
  have m0 := E.out.bm.c0
  have m1 := E.out.bm.c1
  have s0 := E.out.bs.c0
  have s1 := E.out.bs.c1
  go_wp2_with fail
  refine (refRun_c R A n c cs at_ B m d zs N _ E.out.rc E.out.ri HP.out HNN.out).mono ?_
  rintro e w6 hq
  unfold RunR at hq
  rw [← HR.out, ← HERR.out] at hq
  obtain ⟨A4, c4, rfl, h1, _, _, hb, _⟩ := hq
  have O4 := Lib.hid h1
  clear h1
  replace E := Lib.hid (E.out.next hb)
  replace O1 := Lib.hid (O1.out.below hb)
  replace X7 := Lib.hid (X7.out.next hb)
  replace O2 := Lib.hid (O2.out.below hb)
  replace X9 := Lib.hid (X9.out.next hb)
  replace X12 := Lib.hid (X12.out.next hb)
  replace O3 := Lib.hid (O3.out.below hb)
  replace X13 := Lib.hid (X13.out.next hb)
  clear hb m0 m1 s0 s1 
  have hb := bel_alloc w6 (.cells #[.int .i64 r.at_, .slice A4 r.zs.length c4] 46)
  have X15 := Lib.hid (BxS.new w6 r.at_ A4 r.zs.length c4)
  replace E := Lib.hid (E.out.next hb)
  replace O1 := Lib.hid (O1.out.below hb)
  replace X7 := Lib.hid (X7.out.next hb)
  replace O2 := Lib.hid (O2.out.below hb)
  replace X9 := Lib.hid (X9.out.next hb)
  replace X12 := Lib.hid (X12.out.next hb)
  replace O3 := Lib.hid (O3.out.below hb)
  replace X13 := Lib.hid (X13.out.next hb)
  replace O4 := Lib.hid (O4.out.below hb)
  clear hb
  go_upto_region 12 with (fail)
  generalize w6.alloc (.cells #[.int .i64 r.at_, .slice A4 r.zs.length c4] 46) = ZX15 at E O1 X7 O2 X9 X12 O3 X13 O4 X15 ⊢
  generalize w6.heap.size = g15 at X15 ⊢
  have te : (err == err) = true := by simp
  have m0 := E.out.bm.c0
  have m1 := E.out.bm.c1
  have s0 := E.out.bs.c0
  have s1 := E.out.bs.c1
  have X90 := X9.out.c0
  have X91 := X9.out.c1
  have X150 := X15.out.c0
  have X151 := X15.out.c1
  go_wp2_with fail
  refine (sameState_t r.at_ A2 A4 r.zs.length c2 c4 r.zs _ O2.out O4.out HRL.out).mono ?_
  rintro e w7 ⟨rfl, hb⟩
  replace E := Lib.hid (E.out.next hb)
  replace O1 := Lib.hid (O1.out.below hb)
  replace X7 := Lib.hid (X7.out.next hb)
  replace O2 := Lib.hid (O2.out.below hb)
  replace X9 := Lib.hid (X9.out.next hb)
  replace X12 := Lib.hid (X12.out.next hb)
  replace O3 := Lib.hid (O3.out.below hb)
  replace X13 := Lib.hid (X13.out.next hb)
  replace O4 := Lib.hid (O4.out.below hb)
  replace X15 := Lib.hid (X15.out.next hb)
  clear hb m0 m1 s0 s1 X90 X91 X150 X151
  have tk : ((r.k : Int) == (r.k : Int)) = true := by simp
  go_wp2
  go_ret
  exact ⟨rfl, E.out.below⟩
theorem steps_c (R : Int) (A : Option Addr) (n c : Nat) (cs : List Ins) (at_ : Int) (B : Option Addr) (m d : Nat) (zs : List Int) (N : Int) (w : World) (h : RdC w A n cs) (h' : RdI w B m zs) (hm : m ≤ 9223372036854775807) :
    Calls Tryd.prog 28 #[.agg #[.int .i64 R, .slice A n c], .agg #[.int .i64 at_, .slice B m d], .int .i64 N] w (RetB true w) := by
  cases hf : fitsM R cs at_ zs with
  | false => exact steps_bad R A n c cs at_ B m d zs N w h h' hm hf
  | true =>
    by_cases hN : N < 0 ∨ 1000000 < N
    · exact steps_arg R A n c cs at_ B m d zs N w h h' hm (fits_p hf) hN
    · obtain ⟨k, rfl⟩ := Int.eq_ofNat_of_zero_le (show 0 ≤ N by omega)
      exact steps_ok R A n c cs at_ B m d zs k w h h' hm (fits_p hf) (by omega)
end Go.Proofs.YthjdnidapbhdlaaDoor

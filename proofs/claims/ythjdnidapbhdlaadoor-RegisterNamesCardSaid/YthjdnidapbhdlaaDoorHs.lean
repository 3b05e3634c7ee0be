/- the law's start -/
import Derived.Test.YthjdnidapbhdlaaDoorHr
set_option maxRecDepth 100000
namespace Go.Proofs.YthjdnidapbhdlaaDoor
open Go.RowKit
set_option maxHeartbeats 8000000 in
theorem start_form (R : Int) (A : Option Addr) (n c : Nat) (cs : List Ins) (B : Option Addr) (m d : Nat) (zs : List Int) (N : Int) (w : World) (h : RdC w A n cs) (h' : RdI w B m zs) (hv : validM R cs = false) :
    Calls Tryd.prog 27 #[.agg #[.int .i64 R, .slice A n c], .slice B m d, .int .i64 N] w (RetB true w) := by
  have E := Lib.hid (HM.start R A n c cs B m zs w h h')
  have HL := Lib.hid (And.intro h.len h'.len)
  have HV := Lib.hid hv
  clear hv
  clear h h'
  go_enter Tryd.func27, Tryd.ntmps27
  go_upto_region 1 with (fail)
  generalize w.alloc (.cells #[.int .i64 R, .slice A n c] 43) = W0 at E ⊢
  generalize w.heap.size = g at E ⊢
  have m0 := E.out.bm.c0
  have m1 := E.out.bm.c1
  go_wp2_with fail
  refine (Start_form R A n c cs B m d zs _ E.out.rc E.out.ri HV.out).mono ?_
  rintro e w1 ⟨A1, c1, rfl, _, _, _, hb, _⟩
  simp only [List.length_nil]
  replace E := Lib.hid (E.out.next hb)
  clear hb m0 m1 
  have hb := bel_alloc w1 (.cells #[.int .i64 0, .slice A1 0 c1] 46)
  have X7 := Lib.hid (BxS.new w1 0 A1 0 c1)
  replace E := Lib.hid (E.out.next hb)
  clear hb
  go_upto_region 2 with (fail)
  generalize w1.alloc (.cells #[.int .i64 0, .slice A1 0 c1] 46) = ZX7 at E X7 ⊢
  generalize w1.heap.size = g7 at X7 ⊢
  have m0 := E.out.bm.c0
  have m1 := E.out.bm.c1
  go_wp2_with fail
  refine (Halts_form R A n c cs B m d zs N _ E.out.rc E.out.ri HV.out).mono ?_
  rintro e w2 ⟨A2, c2, rfl, _, _, _, hb⟩
  simp only [List.length_nil]
  replace E := Lib.hid (E.out.next hb)
  replace X7 := Lib.hid (X7.out.next hb)
  clear hb m0 m1 
  have m0 := E.out.bm.c0
  have m1 := E.out.bm.c1
  go_wp2_with fail
  refine (refValid13_c R A n c cs _ E.out.rc).mono ?_
  rw [HV.out]
  rintro e w3 ⟨rfl, hb⟩
  replace E := Lib.hid (E.out.next hb)
  replace X7 := Lib.hid (X7.out.next hb)
  clear hb m0 m1 
  have m0 := E.out.bm.c0
  have m1 := E.out.bm.c1
  have X70 := X7.out.c0
  have X71 := X7.out.c1
  go_wp2_with fail
  refine (sameNone2 A1 none c1 0 _).mono ?_
  rintro e w4 ⟨rfl, hb⟩
  replace E := Lib.hid (E.out.next hb)
  replace X7 := Lib.hid (X7.out.next hb)
  clear hb m0 m1 X70 X71
  go_wp2
  go_ret
  exact ⟨rfl, E.out.below⟩
set_option maxHeartbeats 8000000 in
theorem start_arg (R : Int) (A : Option Addr) (n c : Nat) (cs : List Ins) (B : Option Addr) (m d : Nat) (zs : List Int) (N : Int) (w : World) (h : RdC w A n cs) (h' : RdI w B m zs) (hm : m ≤ 9223372036854775807) (hv : validM R cs = true) (hi : inputM R zs = false) :
    Calls Tryd.prog 27 #[.agg #[.int .i64 R, .slice A n c], .slice B m d, .int .i64 N] w (RetB true w) := by
  have E := Lib.hid (HM.start R A n c cs B m zs w h h')
  have HL := Lib.hid (And.intro h.len h'.len)
  have HV := Lib.hid (And.intro hv hi)
  have hl2 := h'.len
  have HIN := Lib.hid (show (allIn 1000 zs && decide ((m : Int) = R)) = false by unfold inputM at hi; rw [hl2] at hi; exact hi)
  clear hv hi hl2
  clear h h'
  go_enter Tryd.func27, Tryd.ntmps27
  go_upto_region 1 with (fail)
  generalize w.alloc (.cells #[.int .i64 R, .slice A n c] 43) = W0 at E ⊢
  generalize w.heap.size = g at E ⊢
  have m0 := E.out.bm.c0
  have m1 := E.out.bm.c1
  go_wp2_with fail
  refine (Start_arg R A n c cs B m d zs _ E.out.rc E.out.ri hm HV.out.1 HV.out.2).mono ?_
  rintro e w1 ⟨A1, c1, rfl, _, _, _, hb, _⟩
  simp only [List.length_nil]
  replace E := Lib.hid (E.out.next hb)
  clear hb m0 m1 
  have hb := bel_alloc w1 (.cells #[.int .i64 0, .slice A1 0 c1] 46)
  have X7 := Lib.hid (BxS.new w1 0 A1 0 c1)
  replace E := Lib.hid (E.out.next hb)
  clear hb
  go_upto_region 2 with (fail)
  generalize w1.alloc (.cells #[.int .i64 0, .slice A1 0 c1] 46) = ZX7 at E X7 ⊢
  generalize w1.heap.size = g7 at X7 ⊢
  have m0 := E.out.bm.c0
  have m1 := E.out.bm.c1
  go_wp2_with fail
  refine (Halts_arg R A n c cs B m d zs N _ E.out.rc E.out.ri hm HV.out.1 HV.out.2).mono ?_
  rintro e w2 ⟨A2, c2, rfl, _, _, _, hb⟩
  simp only [List.length_nil]
  replace E := Lib.hid (E.out.next hb)
  replace X7 := Lib.hid (X7.out.next hb)
  clear hb m0 m1 
  have m0 := E.out.bm.c0
  have m1 := E.out.bm.c1
  go_wp2_with fail
  refine (refValid13_c R A n c cs _ E.out.rc).mono ?_
  rw [HV.out.1]
  rintro e w3 ⟨rfl, hb⟩
  replace E := Lib.hid (E.out.next hb)
  replace X7 := Lib.hid (X7.out.next hb)
  clear hb m0 m1 
  have m0 := E.out.bm.c0
  have m1 := E.out.bm.c1
  go_wp2_with fail
  refine (refInput_c R A n c B m d zs _ E.out.ri hm).mono ?_
  rw [HIN.out]
  rintro e w4 ⟨rfl, hb⟩
  replace E := Lib.hid (E.out.next hb)
  replace X7 := Lib.hid (X7.out.next hb)
  clear hb m0 m1 
  have m0 := E.out.bm.c0
  have m1 := E.out.bm.c1
  have X70 := X7.out.c0
  have X71 := X7.out.c1
  go_wp2_with fail
  refine (sameNone2 A1 none c1 0 _).mono ?_
  rintro e w5 ⟨rfl, hb⟩
  replace E := Lib.hid (E.out.next hb)
  replace X7 := Lib.hid (X7.out.next hb)
  clear hb m0 m1 X70 X71
  go_wp2
  go_ret
  exact ⟨rfl, E.out.below⟩
set_option maxHeartbeats 8000000 in
theorem start_n (R : Int) (A : Option Addr) (n c : Nat) (cs : List Ins) (B : Option Addr) (m d : Nat) (zs : List Int) (N : Int) (w : World) (h : RdC w A n cs) (h' : RdI w B m zs) (hm : m ≤ 9223372036854775807) (hv : validM R cs = true) (hi : inputM R zs = true) (hN : N < 0 ∨ 1000000 < N) :
    Calls Tryd.prog 27 #[.agg #[.int .i64 R, .slice A n c], .slice B m d, .int .i64 N] w (RetB true w) := by
  have E := Lib.hid (HM.start R A n c cs B m zs w h h')
  have HL := Lib.hid (And.intro h.len h'.len)
  have HV := Lib.hid (And.intro hv hi)
  have hl2 := h'.len
  have HIN := Lib.hid (show (allIn 1000 zs && decide ((m : Int) = R)) = true by unfold inputM at hi; rw [hl2] at hi; exact hi)
  have HZ := Lib.hid (show zs.length = m ∧ 0 < m ∧ m ≤ 4 by have h1 := (start_fits hv hi).1.bounds; omega)
  clear hv hi hl2
  clear h h'
  go_enter Tryd.func27, Tryd.ntmps27
  go_upto_region 1 with (fail)
  generalize w.alloc (.cells #[.int .i64 R, .slice A n c] 43) = W0 at E ⊢
  generalize w.heap.size = g at E ⊢
  have m0 := E.out.bm.c0
  have m1 := E.out.bm.c1
  go_wp2_with fail
  refine (Start_ok R A n c cs B m d zs _ E.out.rc E.out.ri hm HV.out.1 HV.out.2).mono ?_
  rintro e w1 ⟨A1, c1, rfl, h1, _, _, hb, _⟩
  have O1 := Lib.hid h1
  clear h1
  replace E := Lib.hid (E.out.next hb)
  clear hb m0 m1 
  have hb := bel_alloc w1 (.cells #[.int .i64 0, .slice A1 zs.length c1] 46)
  have X7 := Lib.hid (BxS.new w1 0 A1 zs.length c1)
  replace E := Lib.hid (E.out.next hb)
  replace O1 := Lib.hid (O1.out.below hb)
  clear hb
  go_upto_region 2 with (fail)
  generalize w1.alloc (.cells #[.int .i64 0, .slice A1 zs.length c1] 46) = ZX7 at E O1 X7 ⊢
  generalize w1.heap.size = g7 at X7 ⊢
  have m0 := E.out.bm.c0
  have m1 := E.out.bm.c1
  go_wp2_with fail
  refine (Halts_n R A n c cs B m d zs N _ E.out.rc E.out.ri hm HV.out.1 HV.out.2 hN).mono ?_
  rintro e w2 ⟨A2, c2, rfl, _, _, _, hb⟩
  simp only [List.length_nil]
  replace E := Lib.hid (E.out.next hb)
  replace O1 := Lib.hid (O1.out.below hb)
  replace X7 := Lib.hid (X7.out.next hb)
  clear hb m0 m1 
  have m0 := E.out.bm.c0
  have m1 := E.out.bm.c1
  go_wp2_with fail
  refine (refValid13_c R A n c cs _ E.out.rc).mono ?_
  rw [HV.out.1]
  rintro e w3 ⟨rfl, hb⟩
  replace E := Lib.hid (E.out.next hb)
  replace O1 := Lib.hid (O1.out.below hb)
  replace X7 := Lib.hid (X7.out.next hb)
  clear hb m0 m1 
  have m0 := E.out.bm.c0
  have m1 := E.out.bm.c1
  go_wp2_with fail
  refine (refInput_c R A n c B m d zs _ E.out.ri hm).mono ?_
  rw [HIN.out]
  rintro e w4 ⟨rfl, hb⟩
  replace E := Lib.hid (E.out.next hb)
  replace O1 := Lib.hid (O1.out.below hb)
  replace X7 := Lib.hid (X7.out.next hb)
  clear hb m0 m1 
  go_upto_region 10 with (fail)
  refine wp_region_held_drew (S := (fun w' => w'.cell? ⟨g7, 0, none⟩ = some (.int .i64 0) ∧ w'.cell? ⟨g7, 1, none⟩ = some (.slice A1 zs.length c1))) (by kernel_rfl) (⟨cell_dr X7.out.c0, cell_dr X7.out.c1⟩) (fun hHeld => ?_)
  replace E := Lib.hid (E.out.next (Below.refl w4.heap.size w4).drew)
  replace O1 := Lib.hid (O1.out.below (Below.refl w4.heap.size w4).drew)
  replace X7 := Lib.hid (X7.out.next (Below.refl w4.heap.size w4).drew)
  generalize w4.drew = D1 at E O1 X7 hHeld ⊢
  refine take_on (i := 0) (d := (some 63)) (v := ?v1) rfl rfl (by kernel_rfl) (by kernel_rfl) (by kernel_rfl) (fun c a w h => h) (by rfl) ?h1 (by assumption) ?r1
  case h1 => intro w hSw; obtain ⟨h0, h1⟩ := hSw; go_simp; rfl
  simp only [Act.put, List.setIfInBounds_toArray, List.set_cons_zero, List.set_cons_succ]
  refine take_on (i := 1) (d := (some 64)) (v := ?v2) rfl rfl (by kernel_rfl) (by kernel_rfl) (by kernel_rfl) (fun c a w h => h) (by rfl) ?h2 (by assumption) ?r2
  case h2 => intro w hSw; obtain ⟨h0, h1⟩ := hSw; go_simp; rfl
  simp only [Act.put, List.setIfInBounds_toArray, List.set_cons_zero, List.set_cons_succ]
  refine take_on (i := 2) (d := (some 65)) (v := ?v3) rfl rfl (by kernel_rfl) (by kernel_rfl) (by kernel_rfl) (fun c a w h => h) (by rfl) ?h3 (by assumption) ?r3
  case h3 => intro w hSw; obtain ⟨h0, h1⟩ := hSw; go_simp; rfl
  simp only [Act.put, List.setIfInBounds_toArray, List.set_cons_zero, List.set_cons_succ]
  refine take_on (i := 3) (d := (some 66)) (v := ?v4) rfl rfl (by kernel_rfl) (by kernel_rfl) (by kernel_rfl) (fun c a w h => h) (by rfl) ?h4 (by assumption) ?r4
  case h4 => intro w hSw; obtain ⟨h0, h1⟩ := hSw; go_simp; rfl
  simp only [Act.put, List.setIfInBounds_toArray, List.set_cons_zero, List.set_cons_succ]
  refine take_on (i := 4) (d := (some 67)) (v := ?v5) rfl rfl (by kernel_rfl) (by kernel_rfl) (by kernel_rfl) (fun c a w h => h) (by rfl) ?h5 (by assumption) ?r5
  case h5 => intro w hSw; obtain ⟨h0, h1⟩ := hSw; go_simp; rfl
  simp only [Act.put, List.setIfInBounds_toArray, List.set_cons_zero, List.set_cons_succ]
  refine wpAnyH_ready (rs := [5]) (by kernel_rfl) (by simp) ?_
  refine AllReadyH.cons rfl (fun K hK => ?_) AllReadyH.nil
  go_simp
  refine (refStart_c B m d zs D1 E.out.ri HZ.out.2.1 (by have := HZ.out; omega)).mono ?_
  rintro e v2 ⟨gr, cr, rfl, h1, _, _, _, hb⟩
  have O8 := Lib.hid h1
  replace E := Lib.hid (E.out.next hb)
  replace O1 := Lib.hid (O1.out.below hb)
  replace X7 := Lib.hid (X7.out.next hb)
  clear hb hHeld h1
  refine hK.out _ _ (⟨X7.out.c0, X7.out.c1⟩) (fun hHeld => ?_)
  clear hK K
  refine wpAnyH_ready (rs := [6]) (by kernel_rfl) (by simp) ?_
  refine AllReadyH.cons rfl (fun K hK => ?_) AllReadyH.nil
  go_simp
  refine (sameState_t 0 A1 (some ⟨gr, 0, none⟩) zs.length c1 cr zs v2 O1.out O8.out.rd (by have := HZ.out; omega)).mono ?_
  rintro e v3 ⟨rfl, hb⟩
  clear O8
  replace E := Lib.hid (E.out.next hb)
  replace O1 := Lib.hid (O1.out.below hb)
  replace X7 := Lib.hid (X7.out.next hb)
  clear hb hHeld
  refine hK.out _ _ (⟨X7.out.c0, X7.out.c1⟩) (fun hHeld => ?_)
  clear hK K
  refine take_on (i := 7) (d := (some 70)) (v := ?v6) rfl rfl (by kernel_rfl) (by kernel_rfl) (by kernel_rfl) (fun c a w h => h) (by rfl) ?h6 (by assumption) ?r6
  case h6 => intro w hSw; obtain ⟨h0, h1⟩ := hSw; go_simp; rfl
  simp only [Act.put, List.setIfInBounds_toArray, List.set_cons_zero, List.set_cons_succ]
  refine take_on (i := 8) (d := (some 71)) (v := ?v7) rfl rfl (by kernel_rfl) (by kernel_rfl) (by kernel_rfl) (fun c a w h => h) (by rfl) ?h7 (by assumption) ?r7
  case h7 => intro w hSw; obtain ⟨h0, h1⟩ := hSw; go_simp; rfl
  simp only [Act.put, List.setIfInBounds_toArray, List.set_cons_zero, List.set_cons_succ]
  clear hHeld
  refine wpAnyH_done (by kernel_rfl) ?_ _
  by_cases hq : N < 0
  · have t1 : decide (N < 0) = true := decide_eq_true hq
    go_wp2
    go_ret
    exact ⟨rfl, E.out.below⟩
  · have t1 : decide (N < 0) = false := decide_eq_false hq
    have t2 : decide (1000000 < N) = true := decide_eq_true (by omega)
    go_wp2
    go_ret
    exact ⟨rfl, E.out.below⟩
set_option maxHeartbeats 8000000 in
theorem start_ok (R : Int) (A : Option Addr) (n c : Nat) (cs : List Ins) (B : Option Addr) (m d : Nat) (zs : List Int) (N : Nat) (w : World) (h : RdC w A n cs) (h' : RdI w B m zs) (hm : m ≤ 9223372036854775807) (hv : validM R cs = true) (hi : inputM R zs = true) (hN : N ≤ 1000000) :
    Calls Tryd.prog 27 #[.agg #[.int .i64 R, .slice A n c], .slice B m d, .int .i64 (N : Int)] w (RetB true w) := by
  have E := Lib.hid (HM.start R A n c cs B m zs w h h')
  have HL := Lib.hid (And.intro h.len h'.len)
  have HV := Lib.hid (And.intro hv hi)
  have hl2 := h'.len
  have HIN := Lib.hid (show (allIn 1000 zs && decide ((m : Int) = R)) = true by unfold inputM at hi; rw [hl2] at hi; exact hi)
  have HZ := Lib.hid (show zs.length = m ∧ 0 < m ∧ m ≤ 4 by have h1 := (start_fits hv hi).1.bounds; omega)
  have HRL := Lib.hid (show (runM cs N 0 zs).zs.length ≤ 9223372036854775800 by
    obtain ⟨hf, hal⟩ := start_fits hv hi
    have h1 := (run_fits N hf (run_small N hf hal (by omega))).bounds
    omega)
  obtain ⟨r, hr⟩ : ∃ r, r = runM cs N 0 zs := ⟨_, rfl⟩
  rw [← hr] at HRL
  have HR := Lib.hid hr
  have N0 : decide ((N : Int) < 0) = false := decide_eq_false (by omega)
  have N1 : decide ((1000000 : Int) < (N : Int)) = false := decide_eq_false (by omega)
  have HNN := Lib.hid hN
  clear hv hi hl2 hr hN
  clear h h'
  go_enter Tryd.func27, Tryd.ntmps27
  go_upto_region 1 with (fail)
  generalize w.alloc (.cells #[.int .i64 R, .slice A n c] 43) = W0 at E ⊢
  generalize w.heap.size = g at E ⊢
  have m0 := E.out.bm.c0
  have m1 := E.out.bm.c1
  go_wp2_with fail
  refine (Start_ok R A n c cs B m d zs _ E.out.rc E.out.ri hm HV.out.1 HV.out.2).mono ?_
  rintro e w1 ⟨A1, c1, rfl, h1, _, _, hb, _⟩
  have O1 := Lib.hid h1
  clear h1
  replace E := Lib.hid (E.out.next hb)
  clear hb m0 m1 
  have hb := bel_alloc w1 (.cells #[.int .i64 0, .slice A1 zs.length c1] 46)
  have X7 := Lib.hid (BxS.new w1 0 A1 zs.length c1)
  replace E := Lib.hid (E.out.next hb)
  replace O1 := Lib.hid (O1.out.below hb)
  clear hb
  go_upto_region 2 with (fail)
  generalize w1.alloc (.cells #[.int .i64 0, .slice A1 zs.length c1] 46) = ZX7 at E O1 X7 ⊢
  generalize w1.heap.size = g7 at X7 ⊢
  have m0 := E.out.bm.c0
  have m1 := E.out.bm.c1
  go_wp2_with fail
  refine (Halts_ok R A n c cs B m d zs N _ E.out.rc E.out.ri hm HV.out.1 HV.out.2 HNN.out).mono ?_
  intro e w9 hq
  rw [← HR.out] at hq
  by_cases h3 : (insAt cs r.at_.toNat).op = 3
  · obtain ⟨A2, c2, rfl, h1, _, _, hb⟩ := hq.1 h3
    have O2 := Lib.hid h1
    clear h1
    have HOP := Lib.hid h3
    replace E := Lib.hid (E.out.next hb)
    replace O1 := Lib.hid (O1.out.below hb)
    replace X7 := Lib.hid (X7.out.next hb)
    clear hb hq h3 m0 m1
    have m0 := E.out.bm.c0
    have m1 := E.out.bm.c1
    go_wp2_with fail
    refine (refValid13_c R A n c cs _ E.out.rc).mono ?_
    rw [HV.out.1]
    rintro e w2 ⟨rfl, hb⟩
    replace E := Lib.hid (E.out.next hb)
    replace O1 := Lib.hid (O1.out.below hb)
    replace X7 := Lib.hid (X7.out.next hb)
    replace O2 := Lib.hid (O2.out.below hb)
    clear hb m0 m1 
    have m0 := E.out.bm.c0
    have m1 := E.out.bm.c1
    go_wp2_with fail
    refine (refInput_c R A n c B m d zs _ E.out.ri hm).mono ?_
    rw [HIN.out]
    rintro e w3 ⟨rfl, hb⟩
    replace E := Lib.hid (E.out.next hb)
    replace O1 := Lib.hid (O1.out.below hb)
    replace X7 := Lib.hid (X7.out.next hb)
    replace O2 := Lib.hid (O2.out.below hb)
    clear hb m0 m1 
    go_upto_region 10 with (fail)
    refine wp_region_held_drew (S := (fun w' => w'.cell? ⟨g7, 0, none⟩ = some (.int .i64 0) ∧ w'.cell? ⟨g7, 1, none⟩ = some (.slice A1 zs.length c1))) (by kernel_rfl) (⟨cell_dr X7.out.c0, cell_dr X7.out.c1⟩) (fun hHeld => ?_)
    replace E := Lib.hid (E.out.next (Below.refl w3.heap.size w3).drew)
    replace O1 := Lib.hid (O1.out.below (Below.refl w3.heap.size w3).drew)
    replace X7 := Lib.hid (X7.out.next (Below.refl w3.heap.size w3).drew)
    replace O2 := Lib.hid (O2.out.below (Below.refl w3.heap.size w3).drew)
    generalize w3.drew = D4 at E O1 X7 O2 hHeld ⊢
    refine take_on (i := 0) (d := (some 63)) (v := ?v8) rfl rfl (by kernel_rfl) (by kernel_rfl) (by kernel_rfl) (fun c a w h => h) (by rfl) ?h8 (by assumption) ?r8
    case h8 => intro w hSw; obtain ⟨h0, h1⟩ := hSw; go_simp; rfl
    simp only [Act.put, List.setIfInBounds_toArray, List.set_cons_zero, List.set_cons_succ]
    refine take_on (i := 1) (d := (some 64)) (v := ?v9) rfl rfl (by kernel_rfl) (by kernel_rfl) (by kernel_rfl) (fun c a w h => h) (by rfl) ?h9 (by assumption) ?r9
    case h9 => intro w hSw; obtain ⟨h0, h1⟩ := hSw; go_simp; rfl
    simp only [Act.put, List.setIfInBounds_toArray, List.set_cons_zero, List.set_cons_succ]
    refine take_on (i := 2) (d := (some 65)) (v := ?v10) rfl rfl (by kernel_rfl) (by kernel_rfl) (by kernel_rfl) (fun c a w h => h) (by rfl) ?h10 (by assumption) ?r10
    case h10 => intro w hSw; obtain ⟨h0, h1⟩ := hSw; go_simp; rfl
    simp only [Act.put, List.setIfInBounds_toArray, List.set_cons_zero, List.set_cons_succ]
    refine take_on (i := 3) (d := (some 66)) (v := ?v11) rfl rfl (by kernel_rfl) (by kernel_rfl) (by kernel_rfl) (fun c a w h => h) (by rfl) ?h11 (by assumption) ?r11
    case h11 => intro w hSw; obtain ⟨h0, h1⟩ := hSw; go_simp; rfl
    simp only [Act.put, List.setIfInBounds_toArray, List.set_cons_zero, List.set_cons_succ]
    refine take_on (i := 4) (d := (some 67)) (v := ?v12) rfl rfl (by kernel_rfl) (by kernel_rfl) (by kernel_rfl) (fun c a w h => h) (by rfl) ?h12 (by assumption) ?r12
    case h12 => intro w hSw; obtain ⟨h0, h1⟩ := hSw; go_simp; rfl
    simp only [Act.put, List.setIfInBounds_toArray, List.set_cons_zero, List.set_cons_succ]
    refine wpAnyH_ready (rs := [5]) (by kernel_rfl) (by simp) ?_
    refine AllReadyH.cons rfl (fun K hK => ?_) AllReadyH.nil
    go_simp
    refine (refStart_c B m d zs D4 E.out.ri HZ.out.2.1 (by have := HZ.out; omega)).mono ?_
    rintro e v5 ⟨gr, cr, rfl, h1, _, _, _, hb⟩
    have O8 := Lib.hid h1
    replace E := Lib.hid (E.out.next hb)
    replace O1 := Lib.hid (O1.out.below hb)
    replace X7 := Lib.hid (X7.out.next hb)
    replace O2 := Lib.hid (O2.out.below hb)
    clear hb hHeld h1
    refine hK.out _ _ (⟨X7.out.c0, X7.out.c1⟩) (fun hHeld => ?_)
    clear hK K
    refine wpAnyH_ready (rs := [6]) (by kernel_rfl) (by simp) ?_
    refine AllReadyH.cons rfl (fun K hK => ?_) AllReadyH.nil
    go_simp
    refine (sameState_t 0 A1 (some ⟨gr, 0, none⟩) zs.length c1 cr zs v5 O1.out O8.out.rd (by have := HZ.out; omega)).mono ?_
    rintro e v6 ⟨rfl, hb⟩
    clear O8
    replace E := Lib.hid (E.out.next hb)
    replace O1 := Lib.hid (O1.out.below hb)
    replace X7 := Lib.hid (X7.out.next hb)
    replace O2 := Lib.hid (O2.out.below hb)
    clear hb hHeld
    refine hK.out _ _ (⟨X7.out.c0, X7.out.c1⟩) (fun hHeld => ?_)
    clear hK K
    refine take_on (i := 7) (d := (some 70)) (v := ?v13) rfl rfl (by kernel_rfl) (by kernel_rfl) (by kernel_rfl) (fun c a w h => h) (by rfl) ?h13 (by assumption) ?r13
    case h13 => intro w hSw; obtain ⟨h0, h1⟩ := hSw; go_simp; rfl
    simp only [Act.put, List.setIfInBounds_toArray, List.set_cons_zero, List.set_cons_succ]
    refine take_on (i := 8) (d := (some 71)) (v := ?v14) rfl rfl (by kernel_rfl) (by kernel_rfl) (by kernel_rfl) (fun c a w h => h) (by rfl) ?h14 (by assumption) ?r14
    case h14 => intro w hSw; obtain ⟨h0, h1⟩ := hSw; go_simp; rfl
    simp only [Act.put, List.setIfInBounds_toArray, List.set_cons_zero, List.set_cons_succ]
    clear hHeld
    refine wpAnyH_done (by kernel_rfl) ?_ _
    have m0 := E.out.bm.c0
    have m1 := E.out.bm.c1
    go_wp2_with fail
    refine (refHalts_c R A n c cs B m d zs N _ E.out.rc E.out.ri HV.out.1 HV.out.2 HNN.out).mono ?_
    intro e w10 hq
    rw [← HR.out] at hq
    obtain ⟨A3, c3, rfl, h1, _, _, hb⟩ := hq.1 HOP.out
    have O3 := Lib.hid h1
    replace E := Lib.hid (E.out.next hb)
    replace O1 := Lib.hid (O1.out.below hb)
    replace X7 := Lib.hid (X7.out.next hb)
    replace O2 := Lib.hid (O2.out.below hb)
    clear hb hq m0 m1 h1
    have tk : ((r.k : Int) == (r.k : Int)) = true := by simp
    go_wp2_with fail
    refine (sameInts_t A2 A3 r.zs.length c2 c3 r.zs _ O2.out O3.out HRL.out).mono ?_
    rintro e w11 ⟨rfl, hb⟩
    replace E := Lib.hid (E.out.next hb)
    replace O1 := Lib.hid (O1.out.below hb)
    replace X7 := Lib.hid (X7.out.next hb)
    replace O2 := Lib.hid (O2.out.below hb)
    clear hb
    go_wp2
    go_ret
    exact ⟨rfl, E.out.below⟩
  · obtain ⟨A2, c2, rfl, _, _, _, hb⟩ := hq.2 h3
    simp only [List.length_nil]
    have HOP := Lib.hid h3
    replace E := Lib.hid (E.out.next hb)
    replace O1 := Lib.hid (O1.out.below hb)
    replace X7 := Lib.hid (X7.out.next hb)
    clear hb hq h3 m0 m1
    have m0 := E.out.bm.c0
    have m1 := E.out.bm.c1
    go_wp2_with fail
    refine (refValid13_c R A n c cs _ E.out.rc).mono ?_
    rw [HV.out.1]
    rintro e w4 ⟨rfl, hb⟩
    replace E := Lib.hid (E.out.next hb)
    replace O1 := Lib.hid (O1.out.below hb)
    replace X7 := Lib.hid (X7.out.next hb)
    clear hb m0 m1 
    have m0 := E.out.bm.c0
    have m1 := E.out.bm.c1
    go_wp2_with fail
    refine (refInput_c R A n c B m d zs _ E.out.ri hm).mono ?_
    rw [HIN.out]
    rintro e w5 ⟨rfl, hb⟩
    replace E := Lib.hid (E.out.next hb)
    replace O1 := Lib.hid (O1.out.below hb)
    replace X7 := Lib.hid (X7.out.next hb)
    clear hb m0 m1 
    go_upto_region 10 with (fail)
    refine wp_region_held_drew (S := (fun w' => w'.cell? ⟨g7, 0, none⟩ = some (.int .i64 0) ∧ w'.cell? ⟨g7, 1, none⟩ = some (.slice A1 zs.length c1))) (by kernel_rfl) (⟨cell_dr X7.out.c0, cell_dr X7.out.c1⟩) (fun hHeld => ?_)
    replace E := Lib.hid (E.out.next (Below.refl w5.heap.size w5).drew)
    replace O1 := Lib.hid (O1.out.below (Below.refl w5.heap.size w5).drew)
    replace X7 := Lib.hid (X7.out.next (Below.refl w5.heap.size w5).drew)
    generalize w5.drew = D7 at E O1 X7 hHeld ⊢
    refine take_on (i := 0) (d := (some 63)) (v := ?v15) rfl rfl (by kernel_rfl) (by kernel_rfl) (by kernel_rfl) (fun c a w h => h) (by rfl) ?h15 (by assumption) ?r15
    case h15 => intro w hSw; obtain ⟨h0, h1⟩ := hSw; go_simp; rfl
    simp only [Act.put, List.setIfInBounds_toArray, List.set_cons_zero, List.set_cons_succ]
    refine take_on (i := 1) (d := (some 64)) (v := ?v16) rfl rfl (by kernel_rfl) (by kernel_rfl) (by kernel_rfl) (fun c a w h => h) (by rfl) ?h16 (by assumption) ?r16
    case h16 => intro w hSw; obtain ⟨h0, h1⟩ := hSw; go_simp; rfl
    simp only [Act.put, List.setIfInBounds_toArray, List.set_cons_zero, List.set_cons_succ]
    refine take_on (i := 2) (d := (some 65)) (v := ?v17) rfl rfl (by kernel_rfl) (by kernel_rfl) (by kernel_rfl) (fun c a w h => h) (by rfl) ?h17 (by assumption) ?r17
    case h17 => intro w hSw; obtain ⟨h0, h1⟩ := hSw; go_simp; rfl
    simp only [Act.put, List.setIfInBounds_toArray, List.set_cons_zero, List.set_cons_succ]
    refine take_on (i := 3) (d := (some 66)) (v := ?v18) rfl rfl (by kernel_rfl) (by kernel_rfl) (by kernel_rfl) (fun c a w h => h) (by rfl) ?h18 (by assumption) ?r18
    case h18 => intro w hSw; obtain ⟨h0, h1⟩ := hSw; go_simp; rfl
    simp only [Act.put, List.setIfInBounds_toArray, List.set_cons_zero, List.set_cons_succ]
    refine take_on (i := 4) (d := (some 67)) (v := ?v19) rfl rfl (by kernel_rfl) (by kernel_rfl) (by kernel_rfl) (fun c a w h => h) (by rfl) ?h19 (by assumption) ?r19
    case h19 => intro w hSw; obtain ⟨h0, h1⟩ := hSw; go_simp; rfl
    simp only [Act.put, List.setIfInBounds_toArray, List.set_cons_zero, List.set_cons_succ]
    refine wpAnyH_ready (rs := [5]) (by kernel_rfl) (by simp) ?_
    refine AllReadyH.cons rfl (fun K hK => ?_) AllReadyH.nil
    go_simp
    refine (refStart_c B m d zs D7 E.out.ri HZ.out.2.1 (by have := HZ.out; omega)).mono ?_
    rintro e v8 ⟨gr, cr, rfl, h1, _, _, _, hb⟩
    have O8 := Lib.hid h1
    replace E := Lib.hid (E.out.next hb)
    replace O1 := Lib.hid (O1.out.below hb)
    replace X7 := Lib.hid (X7.out.next hb)
    clear hb hHeld h1
    refine hK.out _ _ (⟨X7.out.c0, X7.out.c1⟩) (fun hHeld => ?_)
    clear hK K
    refine wpAnyH_ready (rs := [6]) (by kernel_rfl) (by simp) ?_
    refine AllReadyH.cons rfl (fun K hK => ?_) AllReadyH.nil
    go_simp
    refine (sameState_t 0 A1 (some ⟨gr, 0, none⟩) zs.length c1 cr zs v8 O1.out O8.out.rd (by have := HZ.out; omega)).mono ?_
    rintro e v9 ⟨rfl, hb⟩
    clear O8
    replace E := Lib.hid (E.out.next hb)
    replace O1 := Lib.hid (O1.out.below hb)
    replace X7 := Lib.hid (X7.out.next hb)
    clear hb hHeld
    refine hK.out _ _ (⟨X7.out.c0, X7.out.c1⟩) (fun hHeld => ?_)
    clear hK K
    refine take_on (i := 7) (d := (some 70)) (v := ?v20) rfl rfl (by kernel_rfl) (by kernel_rfl) (by kernel_rfl) (fun c a w h => h) (by rfl) ?h20 (by assumption) ?r20
    case h20 => intro w hSw; obtain ⟨h0, h1⟩ := hSw; go_simp; rfl
    simp only [Act.put, List.setIfInBounds_toArray, List.set_cons_zero, List.set_cons_succ]
    refine take_on (i := 8) (d := (some 71)) (v := ?v21) rfl rfl (by kernel_rfl) (by kernel_rfl) (by kernel_rfl) (fun c a w h => h) (by rfl) ?h21 (by assumption) ?r21
    case h21 => intro w hSw; obtain ⟨h0, h1⟩ := hSw; go_simp; rfl
    simp only [Act.put, List.setIfInBounds_toArray, List.set_cons_zero, List.set_cons_succ]
    clear hHeld
    refine wpAnyH_done (by kernel_rfl) ?_ _
    have m0 := E.out.bm.c0
    have m1 := E.out.bm.c1
    go_wp2_with fail
    refine (refHalts_c R A n c cs B m d zs N _ E.out.rc E.out.ri HV.out.1 HV.out.2 HNN.out).mono ?_
    intro e w10 hq
    rw [← HR.out] at hq
    obtain ⟨A3, c3, rfl, _, _, _, hb⟩ := hq.2 HOP.out
    simp only [List.length_nil]
    replace E := Lib.hid (E.out.next hb)
    replace O1 := Lib.hid (O1.out.below hb)
    replace X7 := Lib.hid (X7.out.next hb)
    clear hb hq m0 m1
    go_wp2
    go_ret
    exact ⟨rfl, E.out.below⟩
theorem start_c (R : Int) (A : Option Addr) (n c : Nat) (cs : List Ins) (B : Option Addr) (m d : Nat) (zs : List Int) (N : Int) (w : World) (h : RdC w A n cs) (h' : RdI w B m zs) (hm : m ≤ 9223372036854775807) :
    Calls Tryd.prog 27 #[.agg #[.int .i64 R, .slice A n c], .slice B m d, .int .i64 N] w (RetB true w) := by
  cases hv : validM R cs with
  | false => exact start_form R A n c cs B m d zs N w h h' hv
  | true =>
    cases hi : inputM R zs with
    | false => exact start_arg R A n c cs B m d zs N w h h' hm hv hi
    | true =>
      by_cases hN : N < 0 ∨ 1000000 < N
      · exact start_n R A n c cs B m d zs N w h h' hm hv hi hN
      · obtain ⟨k, rfl⟩ := Int.eq_ofNat_of_zero_le (show 0 ≤ N by omega)
        exact start_ok R A n c cs B m d zs k w h h' hm hv hi (by omega)
end Go.Proofs.YthjdnidapbhdlaaDoor

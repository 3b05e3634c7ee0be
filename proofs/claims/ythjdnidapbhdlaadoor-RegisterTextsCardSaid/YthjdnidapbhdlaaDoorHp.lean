/- Halts of both -/
import Derived.Test.YthjdnidapbhdlaaDoorHo
set_option maxRecDepth 100000
namespace Go.Proofs.YthjdnidapbhdlaaDoor
open Go.RowKit
theorem allIn_mono {a b : Int} {zs : List Int} (h : allIn a zs = true) (hab : a ≤ b) : allIn b zs = true := by
  refine decide_eq_true fun i hi => ?_
  have := allIn_at h hi
  simp only [inR, Bool.and_eq_true, decide_eq_true_eq]
  omega
theorem adv_small {R : Int} {cs : List Ins} {k : Nat} {zs : List Int} (hf : FitsP R cs (k : Int) zs) (hend : endM (insAt cs k) zs = false) {b : Int} (hb : allIn b zs = true) (hb2 : b < 1099511627776) : advOk (insAt cs k) zs = true ∧ allIn (b + 1) (advZs (insAt cs k) zs) = true := by
  have hv := hf.ins
  rw [Int.toNat_natCast] at hv
  have hl := hf.len
  generalize insAt cs k = x at hv hend
  rcases valid_cases hv with ⟨h3, _⟩ | ⟨h0, r0, r1, _⟩
  · exfalso
    simp [endM, h3] at hend
  · obtain ⟨op, reg, nx, zr⟩ := x
    simp only at h0 r0 r1
    obtain ⟨r, rfl⟩ := Int.eq_ofNat_of_zero_le r0
    have hr : r < zs.length := by omega
    obtain ⟨b0, b1⟩ := allIn_at hb hr
    unfold advOk advZs rvM
    simp only [Int.toNat_natCast]
    rcases h0 with rfl | rfl | rfl
    · simp only [if_true]
      rw [set_get hr]
      exact ⟨decide_eq_true (by omega), allIn_set (allIn_mono hb (by omega)) r (by omega) (by omega)⟩
    · simp only [if_neg (show ¬ (1 : Int) = 0 by omega), if_true]
      rw [set_get hr]
      have hz : zs.getD r 0 ≠ 0 := fun e => by simp [endM, -List.getD_eq_getElem?_getD, e] at hend
      exact ⟨decide_eq_true (by omega), allIn_set (allIn_mono hb (by omega)) r (by omega) (by omega)⟩
    · simp only [if_neg (show ¬ (2 : Int) = 0 by omega), if_neg (show ¬ (2 : Int) = 1 by omega)]
      exact ⟨decide_eq_true (by omega), allIn_mono hb (by omega)⟩
/-- a run of a million steps does not become too great -/
theorem run_small {R : Int} {cs : List Ins} (n : Nat) {at_ : Int} {zs : List Int} (hf : FitsP R cs at_ zs) {b : Int} (hb : allIn b zs = true) (hb2 : b + n ≤ 1099511627776) : (runM cs n at_ zs).big = false := by
  induction n generalizing at_ zs b with
  | zero => rfl
  | succ n ih =>
    obtain ⟨k, rfl⟩ := Int.eq_ofNat_of_zero_le hf.at0
    unfold runM
    simp only [Int.toNat_natCast]
    cases hend : endM (insAt cs k) zs
    · obtain ⟨h1, h2⟩ := adv_small hf hend hb (by omega)
      have := ih (adv_fits hf hend h1) h2 (by omega)
      simp [h1, this]
    · simp
theorem run_fits {R : Int} {cs : List Ins} (n : Nat) {at_ : Int} {zs : List Int} (hf : FitsP R cs at_ zs) (h : (runM cs n at_ zs).big = false) : FitsP R cs (runM cs n at_ zs).at_ (runM cs n at_ zs).zs := by
  induction n generalizing at_ zs with
  | zero => exact hf
  | succ n ih =>
    obtain ⟨k, rfl⟩ := Int.eq_ofNat_of_zero_le hf.at0
    unfold runM at h ⊢
    simp only [Int.toNat_natCast] at h ⊢
    cases hend : endM (insAt cs k) zs
    · cases hok : advOk (insAt cs k) zs
      · simp [hend, hok] at h
      · simp only [hend, hok, Bool.false_eq_true, if_false, reduceCtorEq] at h ⊢
        cases hb : (runM cs n (advAt (insAt cs k) zs) (advZs (insAt cs k) zs)).big
        · simp only [Bool.false_eq_true, if_false]
          exact ih (adv_fits hf hend hok) hb
        · simp [hb] at h
    · simp only [if_true]
      exact hf
theorem start_fits {R : Int} {cs : List Ins} {zs : List Int} (hv : validM R cs = true) (hi : inputM R zs = true) : FitsP R cs 0 zs ∧ allIn 1000 zs = true := by
  unfold inputM at hi
  rw [Bool.and_eq_true, decide_eq_true_eq] at hi
  refine ⟨⟨hv, Int.le_refl _, ?_, hi.2, allIn_mono hi.1 (by omega)⟩, hi.1⟩
  unfold validM at hv
  rw [Bool.and_eq_true, decide_eq_true_eq] at hv
  omega
/-- the machine's variable -/
structure HM (w W : World) (g : Nat) (R : Int) (A : Option Addr) (n c : Nat) (cs : List Ins) (B : Option Addr) (m : Nat) (zs : List Int) : Prop where
  below : Below w.heap.size w W
  bm : BoxM W g R A n c
  rc : RdC W A n cs
  ri : RdI W B m zs
theorem HM.next {w W W' : World} {g : Nat} {R : Int} {A : Option Addr} {n c : Nat} {cs : List Ins} {B : Option Addr} {m : Nat} {zs : List Int} (h : HM w W g R A n c cs B m zs) (hb : Below W.heap.size W W') : HM w W' g R A n c cs B m zs :=
  ⟨h.below.trans (hb.mono h.below.size), h.bm.next hb, h.rc.below hb, h.ri.below hb⟩
theorem HM.start (R : Int) (A : Option Addr) (n c : Nat) (cs : List Ins) (B : Option Addr) (m : Nat) (zs : List Int) (w : World) (h : RdC w A n cs) (h' : RdI w B m zs) : HM w (w.alloc (.cells #[.int .i64 R, .slice A n c] 43)) w.heap.size R A n c cs B m zs :=
  ⟨bel_alloc _ _, BoxM.new w R A n c, h.below (bel_alloc _ _), h'.below (bel_alloc _ _)⟩
theorem rd_drewN {w : World} {A : Option Addr} {n : Nat} {zs : List Int} (h : RdI w A n zs) (k : Nat) : RdI (w.drewN k) A n zs := h.below (bel_drew (Below.refl _ _) k)
def HaltsP (k : Int) (zs : List Int) (err : Value) (w : World) (e : Ending) (w' : World) : Prop :=
  ∃ A c, e = .returned (.tuple #[.int .i64 k, .slice A zs.length c, err]) ∧ RdI w' A zs.length zs ∧ zs.length ≤ c ∧ c ≤ 9223372036854775807 ∧ Below w.heap.size w w'

set_option maxHeartbeats 8000000 in
theorem Halts_form (R : Int) (A : Option Addr) (n c : Nat) (cs : List Ins) (B : Option Addr) (m d : Nat) (zs : List Int) (N : Int) (w : World) (h : RdC w A n cs) (h' : RdI w B m zs) (hv : validM R cs = false) :
    Calls Tryd.prog 56 #[.agg #[.int .i64 R, .slice A n c], .slice B m d, .int .i64 N] w (HaltsP 0 [] (.int .i64 1) w) := by
  have E := Lib.hid (HM.start R A n c cs B m zs w h h')
  have HL := Lib.hid (And.intro h.len h'.len)
  have HV := Lib.hid hv
  clear hv
  clear h h'
  go_enter Tryd.func56, Tryd.ntmps56
  go_upto_region 1 with (fail)
  generalize w.alloc (.cells #[.int .i64 R, .slice A n c] 43) = W0 at E ⊢
  generalize w.heap.size = g at E ⊢
  have m0 := E.out.bm.c0
  have m1 := E.out.bm.c1
  go_wp2_with fail
  refine (Start_form R A n c cs B m d zs _ E.out.rc E.out.ri HV.out).mono ?_
  rintro e w1 ⟨A1, c1, rfl, h1, h2, h3, hb, hfr⟩
  simp only [List.length_nil]
  replace E := Lib.hid (E.out.next hb)
  clear hb h1 h2 h3 hfr m0 m1
  replace E := Lib.hid (E.out.next (bel_alloc w1 (.cells #[.int .i64 0, .slice A1 0 c1] 46)))
  go_upto_region 2 with (fail)
  generalize w1.alloc (.cells #[.int .i64 0, .slice A1 0 c1] 46) = W1 at E ⊢
  go_wp2
  go_ret3
  exact ⟨none, 0, rfl, RdI.nil _ _, Nat.le_refl _, by omega, E.out.below⟩
set_option maxHeartbeats 8000000 in
theorem Halts_arg (R : Int) (A : Option Addr) (n c : Nat) (cs : List Ins) (B : Option Addr) (m d : Nat) (zs : List Int) (N : Int) (w : World) (h : RdC w A n cs) (h' : RdI w B m zs) (hm : m ≤ 9223372036854775807) (hv : validM R cs = true) (hi : inputM R zs = false) :
    Calls Tryd.prog 56 #[.agg #[.int .i64 R, .slice A n c], .slice B m d, .int .i64 N] w (HaltsP 0 [] (.int .i64 2) w) := by
  have E := Lib.hid (HM.start R A n c cs B m zs w h h')
  have HL := Lib.hid (And.intro h.len h'.len)
  have HV := Lib.hid (And.intro hv hi)
  clear hv hi
  clear h h'
  go_enter Tryd.func56, Tryd.ntmps56
  go_upto_region 1 with (fail)
  generalize w.alloc (.cells #[.int .i64 R, .slice A n c] 43) = W0 at E ⊢
  generalize w.heap.size = g at E ⊢
  have m0 := E.out.bm.c0
  have m1 := E.out.bm.c1
  go_wp2_with fail
  refine (Start_arg R A n c cs B m d zs _ E.out.rc E.out.ri hm HV.out.1 HV.out.2).mono ?_
  rintro e w1 ⟨A1, c1, rfl, h1, h2, h3, hb, hfr⟩
  simp only [List.length_nil]
  replace E := Lib.hid (E.out.next hb)
  clear hb h1 h2 h3 hfr m0 m1
  replace E := Lib.hid (E.out.next (bel_alloc w1 (.cells #[.int .i64 0, .slice A1 0 c1] 46)))
  go_upto_region 2 with (fail)
  generalize w1.alloc (.cells #[.int .i64 0, .slice A1 0 c1] 46) = W1 at E ⊢
  go_wp2
  go_ret3
  exact ⟨none, 0, rfl, RdI.nil _ _, Nat.le_refl _, by omega, E.out.below⟩
set_option maxHeartbeats 8000000 in
theorem Halts_n (R : Int) (A : Option Addr) (n c : Nat) (cs : List Ins) (B : Option Addr) (m d : Nat) (zs : List Int) (N : Int) (w : World) (h : RdC w A n cs) (h' : RdI w B m zs) (hm : m ≤ 9223372036854775807) (hv : validM R cs = true) (hi : inputM R zs = true) (hN : N < 0 ∨ 1000000 < N) :
    Calls Tryd.prog 56 #[.agg #[.int .i64 R, .slice A n c], .slice B m d, .int .i64 N] w (HaltsP 0 [] (.int .i64 2) w) := by
  have E := Lib.hid (HM.start R A n c cs B m zs w h h')
  have HL := Lib.hid (And.intro h.len h'.len)
  have HV := Lib.hid (And.intro hv hi)
  obtain ⟨hf, hal⟩ := start_fits hv hi
  have HF := Lib.hid hf
  have HF2 := Lib.hid (p_fits hf)
  clear hv hi hf hal
  clear h h'
  go_enter Tryd.func56, Tryd.ntmps56
  go_upto_region 1 with (fail)
  generalize w.alloc (.cells #[.int .i64 R, .slice A n c] 43) = W0 at E ⊢
  generalize w.heap.size = g at E ⊢
  have m0 := E.out.bm.c0
  have m1 := E.out.bm.c1
  go_wp2_with fail
  refine (Start_ok R A n c cs B m d zs _ E.out.rc E.out.ri hm HV.out.1 HV.out.2).mono ?_
  rintro e w1 ⟨A1, c1, rfl, h1, h2, h3, hb, hfr⟩
  replace E := Lib.hid (E.out.next hb)
  have H1 := Lib.hid h1
  clear hb h1 h2 h3 hfr m0 m1
  replace E := Lib.hid (E.out.next (bel_alloc w1 (.cells #[.int .i64 0, .slice A1 zs.length c1] 46)))
  replace H1 := Lib.hid (H1.out.below (bel_alloc w1 (.cells #[.int .i64 0, .slice A1 zs.length c1] 46)))
  have X9 := Lib.hid (BxS.new w1 0 A1 zs.length c1)
  go_upto_region 4 with (fail)
  generalize w1.alloc (.cells #[.int .i64 0, .slice A1 zs.length c1] 46) = W1 at E H1 X9 ⊢
  generalize w1.heap.size = g9 at X9 ⊢
  have m0 := E.out.bm.c0
  have m1 := E.out.bm.c1
  have s0 := X9.out.c0
  have s1 := X9.out.c1
  have HZL := Lib.hid (show zs.length ≤ 9223372036854775807 by have := HF.out.bounds; omega)
  go_wp2_with fail
  refine (Run_arg R A n c cs 0 A1 zs.length c1 zs N _ E.out.rc H1.out HZL.out HF2.out hN).mono ?_
  rintro e w2 ⟨A2, c2, rfl, h1, h2, h3, hb, hfr⟩
  simp only [List.length_nil]
  replace E := Lib.hid (E.out.next hb)
  clear hb h1 h2 h3 hfr s0 s1 X9 H1 m0 m1
  replace E := Lib.hid (E.out.next (bel_alloc w2 (.cells #[.int .i64 0, .slice A2 0 c2] 46)))
  go_upto_region 5 with (fail)
  generalize w2.alloc (.cells #[.int .i64 0, .slice A2 0 c2] 46) = W2 at E ⊢
  go_wp2
  go_ret3
  exact ⟨none, 0, rfl, RdI.nil _ _, Nat.le_refl _, by omega, E.out.below⟩
def HaltsQ (cs : List Ins) (r : RunE) (w : World) (e : Ending) (w' : World) : Prop :=
  ((insAt cs r.at_.toNat).op = 3 → HaltsP (r.k : Int) r.zs (.int .i64 0) w e w') ∧ ((insAt cs r.at_.toNat).op ≠ 3 → HaltsP 0 [] (.int .i64 6) w e w')
set_option maxHeartbeats 8000000 in
theorem Halts_ok (R : Int) (A : Option Addr) (n c : Nat) (cs : List Ins) (B : Option Addr) (m d : Nat) (zs : List Int) (N : Nat) (w : World) (h : RdC w A n cs) (h' : RdI w B m zs) (hm : m ≤ 9223372036854775807) (hv : validM R cs = true) (hi : inputM R zs = true) (hN : N ≤ 1000000) :
    Calls Tryd.prog 56 #[.agg #[.int .i64 R, .slice A n c], .slice B m d, .int .i64 (N : Int)] w (HaltsQ cs (runM cs N 0 zs) w) := by
  have E := Lib.hid (HM.start R A n c cs B m zs w h h')
  have HL := Lib.hid (And.intro h.len h'.len)
  have HV := Lib.hid (And.intro hv hi)
  obtain ⟨hf, hal⟩ := start_fits hv hi
  have HF := Lib.hid hf
  have HF2 := Lib.hid (p_fits hf)
  have hbig := run_small N hf hal (by omega)
  have hrf := run_fits N hf hbig
  obtain ⟨r, hr⟩ : ∃ r, r = runM cs N 0 zs := ⟨_, rfl⟩
  rw [← hr] at hbig hrf
  have HR := Lib.hid hr
  have HBG := Lib.hid hbig
  have HRF := Lib.hid hrf
  clear hv hi hf hal hbig hrf hr
  clear h h'
  go_enter Tryd.func56, Tryd.ntmps56
  go_upto_region 1 with (fail)
  generalize w.alloc (.cells #[.int .i64 R, .slice A n c] 43) = W0 at E ⊢
  generalize w.heap.size = g at E ⊢
  have m0 := E.out.bm.c0
  have m1 := E.out.bm.c1
  go_wp2_with fail
  refine (Start_ok R A n c cs B m d zs _ E.out.rc E.out.ri hm HV.out.1 HV.out.2).mono ?_
  rintro e w1 ⟨A1, c1, rfl, h1, h2, h3, hb, hfr⟩
  replace E := Lib.hid (E.out.next hb)
  have H1 := Lib.hid h1
  clear hb h1 h2 h3 hfr m0 m1
  replace E := Lib.hid (E.out.next (bel_alloc w1 (.cells #[.int .i64 0, .slice A1 zs.length c1] 46)))
  replace H1 := Lib.hid (H1.out.below (bel_alloc w1 (.cells #[.int .i64 0, .slice A1 zs.length c1] 46)))
  have X9 := Lib.hid (BxS.new w1 0 A1 zs.length c1)
  go_upto_region 4 with (fail)
  generalize w1.alloc (.cells #[.int .i64 0, .slice A1 zs.length c1] 46) = W1 at E H1 X9 ⊢
  generalize w1.heap.size = g9 at X9 ⊢
  have m0 := E.out.bm.c0
  have m1 := E.out.bm.c1
  have s0 := X9.out.c0
  have s1 := X9.out.c1
  have HZL := Lib.hid (show zs.length ≤ 9223372036854775807 by have := HF.out.bounds; omega)
  go_wp2_with fail
  refine (Run_ok R A n c cs 0 A1 zs.length c1 zs N _ E.out.rc H1.out HZL.out HF.out hN).mono ?_
  rw [← HR.out]
  intro e w2 hq
  unfold RunR at hq
  rw [HBG.out] at hq
  simp only [Bool.false_eq_true, if_false] at hq
  obtain ⟨A2, c2, rfl, h1, h2, h3, hb, hfr⟩ := hq
  replace E := Lib.hid (E.out.next hb)
  have H2 := Lib.hid h1
  have H23 := Lib.hid (And.intro h2 h3)
  clear hb h1 h2 h3 hfr s0 s1 X9 H1 m0 m1
  obtain ⟨a, ha⟩ := Int.eq_ofNat_of_zero_le HRF.out.at0
  have HA := Lib.hid ha
  rw [ha]
  have han : a < n := by have h1 := HRF.out.at1; have h2 := HL.out.1; omega
  clear ha
  replace E := Lib.hid (E.out.next (bel_alloc w2 (.cells #[.int .i64 (a : Int), .slice A2 r.zs.length c2] 46)))
  replace H2 := Lib.hid (H2.out.below (bel_alloc w2 (.cells #[.int .i64 (a : Int), .slice A2 r.zs.length c2] 46)))
  have X11 := Lib.hid (BxS.new w2 (a : Int) A2 r.zs.length c2)
  go_upto_region 5 with (fail)
  generalize w2.alloc (.cells #[.int .i64 (a : Int), .slice A2 r.zs.length c2] 46) = W2 at E H2 X11 ⊢
  generalize w2.heap.size = g11 at X11 ⊢
  obtain ⟨b, p, rfl, hblt, hc⟩ := E.out.rc.at_ (by omega)
  obtain ⟨x0, _, _, _⟩ := hc a han
  obtain ⟨op, hop⟩ : ∃ q, q = (insAt cs a).op := ⟨_, rfl⟩
  rw [← hop] at x0
  have HOP := Lib.hid hop
  clear hc hop
  have m0 := E.out.bm.c0
  have m1 := E.out.bm.c1
  have s0 := X11.out.c0
  have s1 := X11.out.c1
  by_cases h3 : op = 3
  · have t1 : (op != 3) = false := by simp [h3]
    have HQ := Lib.hid (show (insAt cs r.at_.toNat).op = 3 by rw [HA.out]; exact (HOP.out.symm.trans h3))
    clear h3
    go_wp2
    go_quiet (fail)
    go_wp2
    go_ret3
    refine (show HaltsQ cs (runM cs N 0 zs) w _ _ from ?_)
    rw [← HR.out]
    exact ⟨fun _ => ⟨A2, c2, rfl, rd_drewN H2.out _, H23.out.1, H23.out.2, bel_drew E.out.below _⟩, fun h => absurd HQ.out h⟩
  · have t1 : (op != 3) = true := by rw [bne_iff_ne]; exact h3
    have HQ := Lib.hid (show (insAt cs r.at_.toNat).op ≠ 3 by rw [HA.out]; intro e; exact h3 (HOP.out.trans e))
    clear h3
    go_wp2
    go_ret3
    refine (show HaltsQ cs (runM cs N 0 zs) w _ _ from ?_)
    rw [← HR.out]
    exact ⟨fun h => absurd h HQ.out, fun _ => ⟨none, 0, rfl, RdI.nil _ _, Nat.le_refl _, by omega, E.out.below⟩⟩
end Go.Proofs.YthjdnidapbhdlaaDoor

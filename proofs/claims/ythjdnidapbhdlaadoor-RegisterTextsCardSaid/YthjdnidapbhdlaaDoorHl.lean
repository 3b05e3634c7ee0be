/- the machine's Run -/
import Derived.Test.YthjdnidapbhdlaaDoorHk
set_option maxRecDepth 100000
namespace Go.Proofs.YthjdnidapbhdlaaDoor
open Go.RowKit
def RunP (at_ : Int) (zs : List Int) (k : Int) (err : Int) (w : World) (e : Ending) (w' : World) : Prop :=
  ∃ A c, e = .returned (.tuple #[.agg #[.int .i64 at_, .slice A zs.length c], .int .i64 k, .int .i64 err]) ∧ RdI w' A zs.length zs ∧ zs.length ≤ c ∧ c ≤ 9223372036854775807 ∧ Below w.heap.size w w' ∧ (∀ a, A = some a → w.heap.size ≤ a.block)
/-- what Run says of a run -/
def RunR (r : RunE) (w : World) (e : Ending) (w' : World) : Prop := RunP r.at_ r.zs (r.k : Int) (if r.big = true then 4 else 0) w e w'

set_option maxHeartbeats 8000000 in
theorem Run_bad (R : Int) (A : Option Addr) (n c : Nat) (cs : List Ins) (at_ : Int) (B : Option Addr) (m d : Nat) (zs : List Int) (N : Int) (w : World) (h : RdC w A n cs) (h' : RdI w B m zs) (hm : m ≤ 9223372036854775807) (hf : fitsM R cs at_ zs = false) :
    Calls Tryd.prog 34 #[.agg #[.int .i64 R, .slice A n c], .agg #[.int .i64 at_, .slice B m d], .int .i64 N] w (RunP 0 [] 0 1 w) := by
  have E := Lib.hid (SE.start R A n c cs at_ B m d zs w h h')
  have HL := Lib.hid (And.intro h.len h'.len)

  have HF := Lib.hid hf
  clear h h' hf
  go_enter Tryd.func34, Tryd.ntmps34
  go_upto_region 1 with (fail)
  generalize ((w.alloc (.cells #[.int .i64 R, .slice A n c] 43)).alloc (.cells #[.int .i64 at_, .slice B m d] 46)).alloc (.cells #[.int .i64 0, .slice none 0 0] 46) = W0 at E ⊢
  generalize w.heap.size = g at E ⊢
  have HGE := Lib.hid E.out.ms.ge
  obtain ⟨m0, m1, s0, s1⟩ := E.out.cells
  go_wp2_with fail
  refine (Fits_c R A n c cs at_ B m d zs _ E.out.ms.rc E.out.ms.ri hm).mono ?_
  rw [HF.out]
  rintro e w1 ⟨rfl, hb⟩
  replace E := Lib.hid (E.out.next hb)
  clear hb m0 m1 s0 s1
  obtain ⟨m0, m1, s0, s1⟩ := E.out.cells
  have r0 := E.out.xr.c0
  have r1 := E.out.xr.c1
  have f0 := E.out.xr.f0
  have f1 := E.out.xr.f1
  go_wp2
  have Q := E.out.xr.put 0 none 0 0
  have y0 := Q.c0
  have y1 := Q.c1
  refine bodyPost_ret (v := .tuple #[.agg #[.int .i64 0, .slice none 0 0], .int .i64 0, .int .i64 1]) (by simp [results, Tryd.results34, go_sem, y0, y1]) rfl ?_
  exact ⟨none, 0, rfl, RdI.nil _ _, Nat.le_refl _, by omega, bel_set (bel_set E.out.ms.below (by have := E.out.ms.ge; show w.heap.size ≤ g + 1 + 1; omega) _) (by have := E.out.ms.ge; show w.heap.size ≤ g + 1 + 1; omega) _, fun a h => by cases h⟩
set_option maxHeartbeats 8000000 in
theorem Run_arg (R : Int) (A : Option Addr) (n c : Nat) (cs : List Ins) (at_ : Int) (B : Option Addr) (m d : Nat) (zs : List Int) (N : Int) (w : World) (h : RdC w A n cs) (h' : RdI w B m zs) (hm : m ≤ 9223372036854775807) (hf : fitsM R cs at_ zs = true) (hN : N < 0 ∨ 1000000 < N) :
    Calls Tryd.prog 34 #[.agg #[.int .i64 R, .slice A n c], .agg #[.int .i64 at_, .slice B m d], .int .i64 N] w (RunP 0 [] 0 2 w) := by
  have E := Lib.hid (SE.start R A n c cs at_ B m d zs w h h')
  have HL := Lib.hid (And.intro h.len h'.len)

  have HF := Lib.hid hf
  clear h h' hf
  go_enter Tryd.func34, Tryd.ntmps34
  go_upto_region 1 with (fail)
  generalize ((w.alloc (.cells #[.int .i64 R, .slice A n c] 43)).alloc (.cells #[.int .i64 at_, .slice B m d] 46)).alloc (.cells #[.int .i64 0, .slice none 0 0] 46) = W0 at E ⊢
  generalize w.heap.size = g at E ⊢
  have HGE := Lib.hid E.out.ms.ge
  obtain ⟨m0, m1, s0, s1⟩ := E.out.cells
  go_wp2_with fail
  refine (Fits_c R A n c cs at_ B m d zs _ E.out.ms.rc E.out.ms.ri hm).mono ?_
  rw [HF.out]
  rintro e w1 ⟨rfl, hb⟩
  replace E := Lib.hid (E.out.next hb)
  clear hb m0 m1 s0 s1
  by_cases hq : N < 0
  · have t1 : decide (N < 0) = true := decide_eq_true hq
    obtain ⟨m0, m1, s0, s1⟩ := E.out.cells
    have r0 := E.out.xr.c0
    have r1 := E.out.xr.c1
    have f0 := E.out.xr.f0
    have f1 := E.out.xr.f1
    go_wp2
    have Q := E.out.xr.put 0 none 0 0
    have y0 := Q.c0
    have y1 := Q.c1
    refine bodyPost_ret (v := .tuple #[.agg #[.int .i64 0, .slice none 0 0], .int .i64 0, .int .i64 2]) (by simp [results, Tryd.results34, go_sem, y0, y1]) rfl ?_
    exact ⟨none, 0, rfl, RdI.nil _ _, Nat.le_refl _, by omega, bel_set (bel_set E.out.ms.below (by have := E.out.ms.ge; show w.heap.size ≤ g + 1 + 1; omega) _) (by have := E.out.ms.ge; show w.heap.size ≤ g + 1 + 1; omega) _, fun a h => by cases h⟩
  · have t1 : decide (N < 0) = false := decide_eq_false hq
    have t2 : decide (1000000 < N) = true := decide_eq_true (by omega)
    obtain ⟨m0, m1, s0, s1⟩ := E.out.cells
    have r0 := E.out.xr.c0
    have r1 := E.out.xr.c1
    have f0 := E.out.xr.f0
    have f1 := E.out.xr.f1
    go_wp2
    have Q := E.out.xr.put 0 none 0 0
    have y0 := Q.c0
    have y1 := Q.c1
    refine bodyPost_ret (v := .tuple #[.agg #[.int .i64 0, .slice none 0 0], .int .i64 0, .int .i64 2]) (by simp [results, Tryd.results34, go_sem, y0, y1]) rfl ?_
    exact ⟨none, 0, rfl, RdI.nil _ _, Nat.le_refl _, by omega, bel_set (bel_set E.out.ms.below (by have := E.out.ms.ge; show w.heap.size ≤ g + 1 + 1; omega) _) (by have := E.out.ms.ge; show w.heap.size ≤ g + 1 + 1; omega) _, fun a h => by cases h⟩
set_option maxHeartbeats 8000000 in
theorem Run_ok (R : Int) (A : Option Addr) (n c : Nat) (cs : List Ins) (at_ : Int) (B : Option Addr) (m d : Nat) (zs : List Int) (N : Nat) (w : World) (h : RdC w A n cs) (h' : RdI w B m zs) (hm : m ≤ 9223372036854775807) (hf : FitsP R cs at_ zs) (hN : N ≤ 1000000) :
    Calls Tryd.prog 34 #[.agg #[.int .i64 R, .slice A n c], .agg #[.int .i64 at_, .slice B m d], .int .i64 (N : Int)] w (RunR (runM cs N at_ zs) w) := by
  have E := Lib.hid (SE.start R A n c cs at_ B m d zs w h h')
  have HL := Lib.hid (And.intro h.len h'.len)

  have hb0 := hf.bounds
  have hl1 := h.len
  have hl2 := h'.len
  obtain ⟨k, rfl⟩ := Int.eq_ofNat_of_zero_le hf.at0
  subst hl1 hl2
  have HF := Lib.hid (p_fits hf)
  have HP := Lib.hid hf
  have HLZ := Lib.hid (show zs.length ≤ 4 ∧ 0 < zs.length by omega)
  have t1 : decide ((N : Int) < 0) = false := decide_eq_false (by omega)
  have t2 : decide ((1000000 : Int) < (N : Int)) = false := decide_eq_false (by omega)
  clear h h' hf hb0 HL
  go_enter Tryd.func34, Tryd.ntmps34
  go_upto_region 1 with (fail)
  generalize ((w.alloc (.cells #[.int .i64 R, .slice A cs.length c] 43)).alloc (.cells #[.int .i64 (k : Int), .slice B zs.length d] 46)).alloc (.cells #[.int .i64 0, .slice none 0 0] 46) = W0 at E ⊢
  generalize w.heap.size = g at E ⊢
  have HGE := Lib.hid E.out.ms.ge
  obtain ⟨m0, m1, s0, s1⟩ := E.out.cells
  go_wp2_with fail
  refine (Fits_c R A _ c cs (k : Int) B _ d zs _ E.out.ms.rc E.out.ms.ri hm).mono ?_
  rw [HF.out]
  rintro e w1 ⟨rfl, hb⟩
  replace E := Lib.hid (E.out.next hb)
  clear hb m0 m1 s0 s1
  obtain ⟨m0, m1, s0, s1⟩ := E.out.cells
  go_upto_region 5 with (fail)
  clear m0 m1 s0 s1 t1 t2
  refine wp_region_tail (S := (fun w' => w'.cell? ⟨g + 1, 0, none⟩ = some (.int .i64 (k : Int)) ∧ w'.cell? ⟨g + 1, 1, none⟩ = some (.slice B zs.length d))) 7 (by kernel_rfl) (by kernel_rfl) (by intro c a d v w h; cases d <;> exact h) (⟨cell_dr E.out.ms.bs.c0, cell_dr E.out.ms.bs.c1⟩) (fun QT hT hP hHeld => ?_)
  simp only [List.extract_toArray, List.extract_eq_take_drop, List.drop_zero, Nat.sub_zero, List.take_succ_cons, List.take_zero]
  have HT := Lib.hid hT
  clear hT
  replace E := Lib.hid (E.out.next (Below.refl w1.heap.size w1).drew)
  generalize w1.drew = D at E hHeld ⊢
  have E0 := E
  refine take_on (i := 0) (d := (some 23)) (v := ?v1) rfl rfl (by kernel_rfl) (by kernel_rfl) (by kernel_rfl) (fun c a w h => hP c a _ _ w h) (by rfl) ?h1 (by assumption) ?r1
  case h1 => intro w hSw; obtain ⟨h0, h1⟩ := hSw; go_simp; rfl
  simp only [Act.put, List.setIfInBounds_toArray, List.set_cons_zero, List.set_cons_succ]
  refine take_on (i := 1) (d := (some 24)) (v := ?v2) rfl rfl (by kernel_rfl) (by kernel_rfl) (by kernel_rfl) (fun c a w h => hP c a _ _ w h) (by rfl) ?h2 (by assumption) ?r2
  case h2 => intro w hSw; obtain ⟨h0, h1⟩ := hSw; go_simp; rfl
  simp only [Act.put, List.setIfInBounds_toArray, List.set_cons_zero, List.set_cons_succ]
  refine take_on (i := 2) (d := (some 25)) (v := ?v3) rfl rfl (by kernel_rfl) (by kernel_rfl) (by kernel_rfl) (fun c a w h => hP c a _ _ w h) (by rfl) ?h3 (by assumption) ?r3
  case h3 => intro w hSw; obtain ⟨h0, h1⟩ := hSw; go_simp; rfl
  simp only [Act.put, List.setIfInBounds_toArray, List.set_cons_zero, List.set_cons_succ]
  refine take_on (i := 3) (d := (some 26)) (v := ?v4) rfl rfl (by kernel_rfl) (by kernel_rfl) (by kernel_rfl) (fun c a w h => hP c a _ _ w h) (by rfl) ?h4 (by assumption) ?r4
  case h4 => intro w hSw; obtain ⟨h0, h1⟩ := hSw; go_simp; rfl
  simp only [Act.put, List.setIfInBounds_toArray, List.set_cons_zero, List.set_cons_succ]
  refine wpAnyH_ready (rs := [4, 6]) (by kernel_rfl) (by simp) ?_
  refine AllReadyH.cons rfl (fun K hK => ?_) ?_
  ·
    go_simp
    refine (clone_i B _ d zs D E.out.ms.ri HLZ.out.2 (by have := HLZ.out.1; omega)).mono ?_
    rintro e v2 ⟨gr, cr, rfl, h1, h2, h3, h4, hb⟩
    have O6 := Lib.hid h1
    have HCR := Lib.hid (And.intro h3 h4)
    have HLT := Lib.hid (show gr < v2.heap.size from h1.lt)
    have HGR := Lib.hid h2
    replace E := Lib.hid (E.out.next hb)
    have HBD := Lib.hid hb
    clear hb hHeld h1 h2 h3 h4
    refine hK.out _ _ (⟨E.out.ms.bs.c0, E.out.ms.bs.c1⟩) (fun hHeld => ?_)
    clear hK K
    refine take_on (i := 5) (d := (some 28)) (v := ?v5) rfl rfl (by kernel_rfl) (by kernel_rfl) (by kernel_rfl) (fun c a w h => hP c a _ _ w h) (by rfl) ?h5 (by assumption) ?r5
    case h5 => intro w hSw; obtain ⟨h0, h1⟩ := hSw; go_simp; rfl
    simp only [Act.put, List.setIfInBounds_toArray, List.set_cons_zero, List.set_cons_succ]
    refine wpAnyH_ready (rs := [6]) (by kernel_rfl) (by simp) ?_
    refine AllReadyH.cons rfl (fun K hK => ?_) AllReadyH.nil
    go_simp
    have hb := bel_alloc v2 (.cells #[.int .i64 0, .slice none 0 0] 46)
    have X6 := Lib.hid (BxS.new v2 0 none 0 0)
    replace E := Lib.hid (E.out.next hb)
    replace O6 := Lib.hid (O6.out.next hb)
    replace HBD := Lib.hid (HBD.out.trans (hb.mono HBD.out.size))
    skip
    clear hb hHeld
    generalize hY : v2.alloc (.cells #[.int .i64 0, .slice none 0 0] 46) = Y3 at E O6 X6 HBD ⊢
    have HYS := Lib.hid (show Y3.heap.size = v2.heap.size + 1 by rw [← hY]; simp)
    clear hY
    obtain ⟨gs, hgs⟩ : ∃ g, g = v2.heap.size := ⟨_, rfl⟩
    rw [← hgs] at X6 ⊢
    have HNE := Lib.hid (show gs ≠ gr by have := HLT.out; omega)
    have HGS := Lib.hid (show D.heap.size ≤ gs by have := HGR.out; have := HLT.out; omega)
    clear hgs HYS HLT
    refine hK.out _ _ (⟨E.out.ms.bs.c0, E.out.ms.bs.c1⟩) (fun hHeld => ?_)
    clear hK K
    clear hHeld
    refine wpAnyH_done (by kernel_rfl) ?_ _
    refine HT.out _ _ ?_
    clear HT hP QT
    have r0 := X6.out.c0
    have r1 := X6.out.c1
    have f0 := X6.out.f0
    have f1 := X6.out.f1
    refine wpList_step fun K hK => ?_
    go_simp
    refine hK _ _ ?_
    clear hK K
    refine wpList_step fun K hK => ?_
    go_simp
    refine hK _ _ ?_
    clear hK K
    refine wpList_nil ?_
    clear r0 r1 f0 f1
    have X7 := Lib.hid (X6.out.put (k : Int) (some ⟨gr, 0, none⟩) zs.length cr)
    have O7 := Lib.hid ((O6.out.far (p := ⟨gs, 0, none⟩) (fun e => HNE.out e.symm) (.int .i64 (k : Int))).far (p := ⟨gs, 1, none⟩) (fun e => HNE.out e.symm) (.slice (some ⟨gr, 0, none⟩) zs.length cr))
    have B7 := Lib.hid (bel_set (bel_set HBD.out (p := ⟨gs, 0, none⟩) HGS.out (.int .i64 (k : Int))) (p := ⟨gs, 1, none⟩) HGS.out (.slice (some ⟨gr, 0, none⟩) zs.length cr))
    generalize (Y3.setCell ⟨gs, 0, none⟩ (.int .i64 (k : Int))).setCell ⟨gs, 1, none⟩ (.slice (some ⟨gr, 0, none⟩) zs.length cr) = W7 at X7 O7 B7 ⊢
    clear X6 O6 HBD E
    have E := Lib.hid (E0.out.next B7.out)
    skip
    clear E HLZ
    go_wp2
    go_loopw [10] (fun v wr => ∃ (j a : Nat) (ys : List Int), v = .int .i64 (j : Int) ∧ j ≤ N ∧ Iter cs j (k : Int) zs (a : Int) ys ∧ Below D.heap.size D wr ∧ BxS wr gs (a : Int) (some ⟨gr, 0, none⟩) zs.length cr ∧ Ow wr gr ys) (fun v _ => (N : Nat) - (intOf v).toNat)
    case atStart => exact ⟨0, k, zs, rfl, Nat.zero_le _, ⟨rfl, rfl⟩, B7.out, X7.out, O7.out⟩
    case round =>
      obtain ⟨j, a, ys, rfl, hj, hit, hb, hx7, ho7⟩ := hrel
      clear X7 O7 B7
      have X7 := Lib.hid hx7
      have O7 := Lib.hid ho7
      have B7 := Lib.hid hb
      have E := Lib.hid (E0.out.next hb)
      have hf := iter_fits HP.out hit
      have hyl : ys.length = zs.length := by have h1 := hf.len; have h2 := HP.out.len; omega
      have HYL := Lib.hid hyl
      have HIT := Lib.hid hit
      have HQ := Lib.hid hf
      have ha : a < cs.length := by have := hf.at1; omega
      have HRG := Lib.hid (show (insAt cs a).op = 1 → 0 ≤ (insAt cs a).reg ∧ (insAt cs a).reg < (zs.length : Int) from fun e => by
        have hv := hf.ins
        rw [Int.toNat_natCast] at hv
        have := HP.out.len
        rcases valid_cases hv with ⟨h3, _⟩ | ⟨h0, r0, r1, _⟩ <;> omega)
      have HE := Lib.hid (fun (W : World) (r : RdC W A cs.length cs) (i : RdI W (some ⟨gr, 0, none⟩) zs.length ys) => ended_c R A _ c cs a (some ⟨gr, 0, none⟩) _ cr ys W r i ha HRG.out)
      clear hx7 ho7 hb hf hyl hit HRG
      obtain ⟨x, hx⟩ : ∃ x, x = insAt cs a := ⟨_, rfl⟩
      have HX := Lib.hid hx
      rw [← hx] at HE
      obtain ⟨v, hv⟩ : ∃ v, v = endM x ys := ⟨_, rfl⟩
      have HV := Lib.hid hv
      rw [← hv] at HE
      clear hv hx
      obtain ⟨m0, m1, s0, s1⟩ := E.out.cells
      have z0 := X7.out.c0
      have z1 := X7.out.c1
      rcases Nat.lt_or_ge j N with hjN | hjN
      · have t1 : decide ((j : Int) < (N : Int)) = true := decide_eq_true (by omega)
        have t2 : decide (j < N) = true := decide_eq_true hjN
        go_wp2_with fail
        refine (HE.out _ E.out.ms.rc (by rw [← HYL.out]; exact O7.out.rd)).mono ?_
        rintro e w8 ⟨rfl, hb⟩
        replace B7 := Lib.hid (B7.out.trans (hb.mono B7.out.size))
        replace X7 := Lib.hid (X7.out.next hb)
        replace O7 := Lib.hid (O7.out.next hb)
        clear E hb HE z0 z1 m0 m1 s0 s1
        have E := Lib.hid (E0.out.next B7.out)
        obtain ⟨m0, m1, s0, s1⟩ := E.out.cells
        have z0 := X7.out.c0
        have z1 := X7.out.c1
        cases v with
        | true =>
          have HR := Lib.hid (show runM cs N (k : Int) zs = ⟨(a : Int), ys, j, false⟩ by
            obtain ⟨q, hq⟩ : ∃ q, N = j + (q + 1) := ⟨N - j - 1, by omega⟩
            have e : runM cs (q + 1) (a : Int) ys = ⟨(a : Int), ys, 0, false⟩ := by
              unfold runM
              simp only [Int.toNat_natCast]
              rw [← HX.out, ← HV.out, if_pos rfl]
            have e2 := run_iter (q + 1) HIT.out
            rw [e] at e2
            rw [hq, e2]
            simp)
          have r0 := E.out.xr.c0
          have r1 := E.out.xr.c1
          have f0 := E.out.xr.f0
          have f1 := E.out.xr.f1
          go_wp2
          have Q := E.out.xr.put (a : Int) (some ⟨gr, 0, none⟩) zs.length cr
          have y0 := Q.c0
          have y1 := Q.c1
          refine bodyPost_ret (v := .tuple #[.agg #[.int .i64 (a : Int), .slice (some ⟨gr, 0, none⟩) zs.length cr], .int .i64 (j : Int), .int .i64 0]) (by simp [results, Tryd.results34, go_sem, y0, y1]) rfl ?_
          refine (show RunR (runM cs N (k : Int) zs) w _ _ from ?_)
          rw [HR.out]
          have hne : gr ≠ g + 1 + 1 := by have h1 := HGR.out; have h2 := E0.out.xr.lt; omega
          exact ⟨some ⟨gr, 0, none⟩, cr, by simp only [HYL.out]; rfl, ((O7.out.far hne _).far hne _).rd, by simp only [HYL.out]; exact HCR.out.1, HCR.out.2, bel_set (bel_set E.out.ms.below (by have := E.out.ms.ge; show w.heap.size ≤ g + 1 + 1; omega) _) (by have := E.out.ms.ge; show w.heap.size ≤ g + 1 + 1; omega) _, fun a h => by injection h with h; subst h; show w.heap.size ≤ gr; have h1 := HGR.out; have h2 := E0.out.xr.lt; have h3 := E0.out.ms.ge; omega⟩
        | false =>
          go_wp2_with fail
          have ho7 := O7.out
          have hx7 := X7.out
          rw [← HYL.out] at hx7
          refine (advance_c HQ.out (by rw [← HX.out, ← HV.out]) A c gs gr cr _ E.out.ms.rc hx7 ho7 HNE.out).mono ?_
          rintro e w8 ⟨rfl, h1, h2, h3⟩
          rw [HYL.out] at h1
          rw [← HX.out] at h1 h2 ⊢
          clear X7 O7 ho7 hx7 E z0 z1 m0 m1 s0 s1
          have X8 := Lib.hid h1
          have O8 := Lib.hid h2
          have B8 := Lib.hid (B7.out.trans (h3.below B7.out.size HGS.out HGR.out))
          clear h1 h2 h3 B7
          have E := Lib.hid (E0.out.next B8.out)
          obtain ⟨vo, hvo⟩ : ∃ v, v = advOk x ys := ⟨_, rfl⟩
          have HVO := Lib.hid hvo
          rw [← hvo]
          clear hvo
          cases vo with
          | false =>
            have HR := Lib.hid (show runM cs N (k : Int) zs = ⟨0, [], 0, true⟩ by
              obtain ⟨q, hq⟩ : ∃ q, N = j + (q + 1) := ⟨N - j - 1, by omega⟩
              have e : runM cs (q + 1) (a : Int) ys = ⟨0, [], 0, true⟩ := by
                unfold runM
                simp only [Int.toNat_natCast]
                rw [← HX.out, ← HV.out, ← HVO.out, if_neg (by simp), if_pos rfl]
              have e2 := run_iter (q + 1) HIT.out
              rw [e] at e2
              rw [hq, e2]
              simp)
            obtain ⟨m0, m1, s0, s1⟩ := E.out.cells
            have r0 := E.out.xr.c0
            have r1 := E.out.xr.c1
            have f0 := E.out.xr.f0
            have f1 := E.out.xr.f1
            go_wp2
            have Q := E.out.xr.put 0 none 0 0
            have y0 := Q.c0
            have y1 := Q.c1
            refine bodyPost_ret (v := .tuple #[.agg #[.int .i64 0, .slice none 0 0], .int .i64 0, .int .i64 4]) (by simp [results, Tryd.results34, go_sem, y0, y1]) rfl ?_
            refine (show RunR (runM cs N (k : Int) zs) w _ _ from ?_)
            rw [HR.out]
            exact ⟨none, 0, rfl, RdI.nil _ _, Nat.le_refl _, by omega, bel_set (bel_set E.out.ms.below (by have := E.out.ms.ge; show w.heap.size ≤ g + 1 + 1; omega) _) (by have := E.out.ms.ge; show w.heap.size ≤ g + 1 + 1; omega) _, fun a h => by cases h⟩
          | true =>
            obtain ⟨a0, ha0⟩ := Int.eq_ofNat_of_zero_le (adv_at_bounds HQ.out (by rw [← HX.out, ← HV.out])).1
            rw [← HX.out] at ha0
            rw [ha0] at X8
            have HI2 := Lib.hid (show Iter cs (j + 1) (k : Int) zs (a0 : Int) (advZs x ys) from ⟨(a : Int), ys, HIT.out, by rw [Int.toNat_natCast, ← HX.out, ← HV.out], by rw [Int.toNat_natCast, ← HX.out, ← HVO.out], by rw [Int.toNat_natCast, ← HX.out, ← ha0], by rw [Int.toNat_natCast, ← HX.out]⟩)
            clear ha0
            go_wp2
            go_roundw
            case measure => simp [intOf]; omega
            case rel => exact ⟨j + 1, a0, advZs x ys, by go_num, by omega, HI2.out, B8.out, X8.out, O8.out⟩
      · have e : j = N := by omega
        subst e
        clear HE HV HX
        have HR := Lib.hid (show runM cs j (k : Int) zs = ⟨(a : Int), ys, j, false⟩ by
            have e2 := run_iter 0 HIT.out
            rw [Nat.add_zero] at e2
            rw [e2]
            simp [runM])
        have r0 := E.out.xr.c0
        have r1 := E.out.xr.c1
        have f0 := E.out.xr.f0
        have f1 := E.out.xr.f1
        go_wp2
        have Q := E.out.xr.put (a : Int) (some ⟨gr, 0, none⟩) zs.length cr
        have y0 := Q.c0
        have y1 := Q.c1
        refine bodyPost_ret (v := .tuple #[.agg #[.int .i64 (a : Int), .slice (some ⟨gr, 0, none⟩) zs.length cr], .int .i64 (j : Int), .int .i64 0]) (by simp [results, Tryd.results34, go_sem, y0, y1]) rfl ?_
        refine (show RunR (runM cs j (k : Int) zs) w _ _ from ?_)
        rw [HR.out]
        have hne : gr ≠ g + 1 + 1 := by have h1 := HGR.out; have h2 := E0.out.xr.lt; omega
        exact ⟨some ⟨gr, 0, none⟩, cr, by simp only [HYL.out]; rfl, ((O7.out.far hne _).far hne _).rd, by simp only [HYL.out]; exact HCR.out.1, HCR.out.2, bel_set (bel_set E.out.ms.below (by have := E.out.ms.ge; show w.heap.size ≤ g + 1 + 1; omega) _) (by have := E.out.ms.ge; show w.heap.size ≤ g + 1 + 1; omega) _, fun a h => by injection h with h; subst h; show w.heap.size ≤ gr; have h1 := HGR.out; have h2 := E0.out.xr.lt; have h3 := E0.out.ms.ge; omega⟩
  refine AllReadyH.cons rfl (fun K hK => ?_) ?_
  ·
    go_simp
    have hb := bel_alloc D (.cells #[.int .i64 0, .slice none 0 0] 46)
    have X6 := Lib.hid (BxS.new D 0 none 0 0)
    replace E := Lib.hid (E.out.next hb)
    have HBD := Lib.hid hb
    clear hb hHeld
    generalize hY : D.alloc (.cells #[.int .i64 0, .slice none 0 0] 46) = Y4 at E X6 HBD ⊢
    have HYS := Lib.hid (show Y4.heap.size = D.heap.size + 1 by rw [← hY]; simp)
    clear hY
    obtain ⟨gs, hgs⟩ : ∃ g, g = D.heap.size := ⟨_, rfl⟩
    rw [← hgs] at X6 ⊢
    have HGS := Lib.hid (show D.heap.size ≤ gs by omega)
    clear hgs HYS
    refine hK.out _ _ (⟨E.out.ms.bs.c0, E.out.ms.bs.c1⟩) (fun hHeld => ?_)
    clear hK K
    refine wpAnyH_ready (rs := [4]) (by kernel_rfl) (by simp) ?_
    refine AllReadyH.cons rfl (fun K hK => ?_) AllReadyH.nil
    go_simp
    refine (clone_i B _ d zs Y4 E.out.ms.ri HLZ.out.2 (by have := HLZ.out.1; omega)).mono ?_
    rintro e v5 ⟨gr, cr, rfl, h1, h2, h3, h4, hb⟩
    have O6 := Lib.hid h1
    have HCR := Lib.hid (And.intro h3 h4)
    have HNE := Lib.hid (show gs ≠ gr by have := X6.out.lt; omega)
    have HGR := Lib.hid (Nat.le_trans HBD.out.size h2)
    replace E := Lib.hid (E.out.next hb)
    replace X6 := Lib.hid (X6.out.next hb)
    replace HBD := Lib.hid (HBD.out.trans (hb.mono HBD.out.size))
    clear hb hHeld h1 h2 h3 h4
    refine hK.out _ _ (⟨E.out.ms.bs.c0, E.out.ms.bs.c1⟩) (fun hHeld => ?_)
    clear hK K
    refine take_on (i := 5) (d := (some 28)) (v := ?v6) rfl rfl (by kernel_rfl) (by kernel_rfl) (by kernel_rfl) (fun c a w h => hP c a _ _ w h) (by rfl) ?h6 (by assumption) ?r6
    case h6 => intro w hSw; obtain ⟨h0, h1⟩ := hSw; go_simp; rfl
    simp only [Act.put, List.setIfInBounds_toArray, List.set_cons_zero, List.set_cons_succ]
    clear hHeld
    refine wpAnyH_done (by kernel_rfl) ?_ _
    refine HT.out _ _ ?_
    clear HT hP QT
    have r0 := X6.out.c0
    have r1 := X6.out.c1
    have f0 := X6.out.f0
    have f1 := X6.out.f1
    refine wpList_step fun K hK => ?_
    go_simp
    refine hK _ _ ?_
    clear hK K
    refine wpList_step fun K hK => ?_
    go_simp
    refine hK _ _ ?_
    clear hK K
    refine wpList_nil ?_
    clear r0 r1 f0 f1
    have X7 := Lib.hid (X6.out.put (k : Int) (some ⟨gr, 0, none⟩) zs.length cr)
    have O7 := Lib.hid ((O6.out.far (p := ⟨gs, 0, none⟩) (fun e => HNE.out e.symm) (.int .i64 (k : Int))).far (p := ⟨gs, 1, none⟩) (fun e => HNE.out e.symm) (.slice (some ⟨gr, 0, none⟩) zs.length cr))
    have B7 := Lib.hid (bel_set (bel_set HBD.out (p := ⟨gs, 0, none⟩) HGS.out (.int .i64 (k : Int))) (p := ⟨gs, 1, none⟩) HGS.out (.slice (some ⟨gr, 0, none⟩) zs.length cr))
    generalize (v5.setCell ⟨gs, 0, none⟩ (.int .i64 (k : Int))).setCell ⟨gs, 1, none⟩ (.slice (some ⟨gr, 0, none⟩) zs.length cr) = W7 at X7 O7 B7 ⊢
    clear X6 O6 HBD E
    have E := Lib.hid (E0.out.next B7.out)
    skip
    clear E HLZ
    go_wp2
    go_loopw [10] (fun v wr => ∃ (j a : Nat) (ys : List Int), v = .int .i64 (j : Int) ∧ j ≤ N ∧ Iter cs j (k : Int) zs (a : Int) ys ∧ Below D.heap.size D wr ∧ BxS wr gs (a : Int) (some ⟨gr, 0, none⟩) zs.length cr ∧ Ow wr gr ys) (fun v _ => (N : Nat) - (intOf v).toNat)
    case atStart => exact ⟨0, k, zs, rfl, Nat.zero_le _, ⟨rfl, rfl⟩, B7.out, X7.out, O7.out⟩
    case round =>
      obtain ⟨j, a, ys, rfl, hj, hit, hb, hx7, ho7⟩ := hrel
      clear X7 O7 B7
      have X7 := Lib.hid hx7
      have O7 := Lib.hid ho7
      have B7 := Lib.hid hb
      have E := Lib.hid (E0.out.next hb)
      have hf := iter_fits HP.out hit
      have hyl : ys.length = zs.length := by have h1 := hf.len; have h2 := HP.out.len; omega
      have HYL := Lib.hid hyl
      have HIT := Lib.hid hit
      have HQ := Lib.hid hf
      have ha : a < cs.length := by have := hf.at1; omega
      have HRG := Lib.hid (show (insAt cs a).op = 1 → 0 ≤ (insAt cs a).reg ∧ (insAt cs a).reg < (zs.length : Int) from fun e => by
        have hv := hf.ins
        rw [Int.toNat_natCast] at hv
        have := HP.out.len
        rcases valid_cases hv with ⟨h3, _⟩ | ⟨h0, r0, r1, _⟩ <;> omega)
      have HE := Lib.hid (fun (W : World) (r : RdC W A cs.length cs) (i : RdI W (some ⟨gr, 0, none⟩) zs.length ys) => ended_c R A _ c cs a (some ⟨gr, 0, none⟩) _ cr ys W r i ha HRG.out)
      clear hx7 ho7 hb hf hyl hit HRG
      obtain ⟨x, hx⟩ : ∃ x, x = insAt cs a := ⟨_, rfl⟩
      have HX := Lib.hid hx
      rw [← hx] at HE
      obtain ⟨v, hv⟩ : ∃ v, v = endM x ys := ⟨_, rfl⟩
      have HV := Lib.hid hv
      rw [← hv] at HE
      clear hv hx
      obtain ⟨m0, m1, s0, s1⟩ := E.out.cells
      have z0 := X7.out.c0
      have z1 := X7.out.c1
      rcases Nat.lt_or_ge j N with hjN | hjN
      · have t1 : decide ((j : Int) < (N : Int)) = true := decide_eq_true (by omega)
        have t2 : decide (j < N) = true := decide_eq_true hjN
        go_wp2_with fail
        refine (HE.out _ E.out.ms.rc (by rw [← HYL.out]; exact O7.out.rd)).mono ?_
        rintro e w8 ⟨rfl, hb⟩
        replace B7 := Lib.hid (B7.out.trans (hb.mono B7.out.size))
        replace X7 := Lib.hid (X7.out.next hb)
        replace O7 := Lib.hid (O7.out.next hb)
        clear E hb HE z0 z1 m0 m1 s0 s1
        have E := Lib.hid (E0.out.next B7.out)
        obtain ⟨m0, m1, s0, s1⟩ := E.out.cells
        have z0 := X7.out.c0
        have z1 := X7.out.c1
        cases v with
        | true =>
          have HR := Lib.hid (show runM cs N (k : Int) zs = ⟨(a : Int), ys, j, false⟩ by
            obtain ⟨q, hq⟩ : ∃ q, N = j + (q + 1) := ⟨N - j - 1, by omega⟩
            have e : runM cs (q + 1) (a : Int) ys = ⟨(a : Int), ys, 0, false⟩ := by
              unfold runM
              simp only [Int.toNat_natCast]
              rw [← HX.out, ← HV.out, if_pos rfl]
            have e2 := run_iter (q + 1) HIT.out
            rw [e] at e2
            rw [hq, e2]
            simp)
          have r0 := E.out.xr.c0
          have r1 := E.out.xr.c1
          have f0 := E.out.xr.f0
          have f1 := E.out.xr.f1
          go_wp2
          have Q := E.out.xr.put (a : Int) (some ⟨gr, 0, none⟩) zs.length cr
          have y0 := Q.c0
          have y1 := Q.c1
          refine bodyPost_ret (v := .tuple #[.agg #[.int .i64 (a : Int), .slice (some ⟨gr, 0, none⟩) zs.length cr], .int .i64 (j : Int), .int .i64 0]) (by simp [results, Tryd.results34, go_sem, y0, y1]) rfl ?_
          refine (show RunR (runM cs N (k : Int) zs) w _ _ from ?_)
          rw [HR.out]
          have hne : gr ≠ g + 1 + 1 := by have h1 := HGR.out; have h2 := E0.out.xr.lt; omega
          exact ⟨some ⟨gr, 0, none⟩, cr, by simp only [HYL.out]; rfl, ((O7.out.far hne _).far hne _).rd, by simp only [HYL.out]; exact HCR.out.1, HCR.out.2, bel_set (bel_set E.out.ms.below (by have := E.out.ms.ge; show w.heap.size ≤ g + 1 + 1; omega) _) (by have := E.out.ms.ge; show w.heap.size ≤ g + 1 + 1; omega) _, fun a h => by injection h with h; subst h; show w.heap.size ≤ gr; have h1 := HGR.out; have h2 := E0.out.xr.lt; have h3 := E0.out.ms.ge; omega⟩
        | false =>
          go_wp2_with fail
          have ho7 := O7.out
          have hx7 := X7.out
          rw [← HYL.out] at hx7
          refine (advance_c HQ.out (by rw [← HX.out, ← HV.out]) A c gs gr cr _ E.out.ms.rc hx7 ho7 HNE.out).mono ?_
          rintro e w8 ⟨rfl, h1, h2, h3⟩
          rw [HYL.out] at h1
          rw [← HX.out] at h1 h2 ⊢
          clear X7 O7 ho7 hx7 E z0 z1 m0 m1 s0 s1
          have X8 := Lib.hid h1
          have O8 := Lib.hid h2
          have B8 := Lib.hid (B7.out.trans (h3.below B7.out.size HGS.out HGR.out))
          clear h1 h2 h3 B7
          have E := Lib.hid (E0.out.next B8.out)
          obtain ⟨vo, hvo⟩ : ∃ v, v = advOk x ys := ⟨_, rfl⟩
          have HVO := Lib.hid hvo
          rw [← hvo]
          clear hvo
          cases vo with
          | false =>
            have HR := Lib.hid (show runM cs N (k : Int) zs = ⟨0, [], 0, true⟩ by
              obtain ⟨q, hq⟩ : ∃ q, N = j + (q + 1) := ⟨N - j - 1, by omega⟩
              have e : runM cs (q + 1) (a : Int) ys = ⟨0, [], 0, true⟩ := by
                unfold runM
                simp only [Int.toNat_natCast]
                rw [← HX.out, ← HV.out, ← HVO.out, if_neg (by simp), if_pos rfl]
              have e2 := run_iter (q + 1) HIT.out
              rw [e] at e2
              rw [hq, e2]
              simp)
            obtain ⟨m0, m1, s0, s1⟩ := E.out.cells
            have r0 := E.out.xr.c0
            have r1 := E.out.xr.c1
            have f0 := E.out.xr.f0
            have f1 := E.out.xr.f1
            go_wp2
            have Q := E.out.xr.put 0 none 0 0
            have y0 := Q.c0
            have y1 := Q.c1
            refine bodyPost_ret (v := .tuple #[.agg #[.int .i64 0, .slice none 0 0], .int .i64 0, .int .i64 4]) (by simp [results, Tryd.results34, go_sem, y0, y1]) rfl ?_
            refine (show RunR (runM cs N (k : Int) zs) w _ _ from ?_)
            rw [HR.out]
            exact ⟨none, 0, rfl, RdI.nil _ _, Nat.le_refl _, by omega, bel_set (bel_set E.out.ms.below (by have := E.out.ms.ge; show w.heap.size ≤ g + 1 + 1; omega) _) (by have := E.out.ms.ge; show w.heap.size ≤ g + 1 + 1; omega) _, fun a h => by cases h⟩
          | true =>
            obtain ⟨a0, ha0⟩ := Int.eq_ofNat_of_zero_le (adv_at_bounds HQ.out (by rw [← HX.out, ← HV.out])).1
            rw [← HX.out] at ha0
            rw [ha0] at X8
            have HI2 := Lib.hid (show Iter cs (j + 1) (k : Int) zs (a0 : Int) (advZs x ys) from ⟨(a : Int), ys, HIT.out, by rw [Int.toNat_natCast, ← HX.out, ← HV.out], by rw [Int.toNat_natCast, ← HX.out, ← HVO.out], by rw [Int.toNat_natCast, ← HX.out, ← ha0], by rw [Int.toNat_natCast, ← HX.out]⟩)
            clear ha0
            go_wp2
            go_roundw
            case measure => simp [intOf]; omega
            case rel => exact ⟨j + 1, a0, advZs x ys, by go_num, by omega, HI2.out, B8.out, X8.out, O8.out⟩
      · have e : j = N := by omega
        subst e
        clear HE HV HX
        have HR := Lib.hid (show runM cs j (k : Int) zs = ⟨(a : Int), ys, j, false⟩ by
            have e2 := run_iter 0 HIT.out
            rw [Nat.add_zero] at e2
            rw [e2]
            simp [runM])
        have r0 := E.out.xr.c0
        have r1 := E.out.xr.c1
        have f0 := E.out.xr.f0
        have f1 := E.out.xr.f1
        go_wp2
        have Q := E.out.xr.put (a : Int) (some ⟨gr, 0, none⟩) zs.length cr
        have y0 := Q.c0
        have y1 := Q.c1
        refine bodyPost_ret (v := .tuple #[.agg #[.int .i64 (a : Int), .slice (some ⟨gr, 0, none⟩) zs.length cr], .int .i64 (j : Int), .int .i64 0]) (by simp [results, Tryd.results34, go_sem, y0, y1]) rfl ?_
        refine (show RunR (runM cs j (k : Int) zs) w _ _ from ?_)
        rw [HR.out]
        have hne : gr ≠ g + 1 + 1 := by have h1 := HGR.out; have h2 := E0.out.xr.lt; omega
        exact ⟨some ⟨gr, 0, none⟩, cr, by simp only [HYL.out]; rfl, ((O7.out.far hne _).far hne _).rd, by simp only [HYL.out]; exact HCR.out.1, HCR.out.2, bel_set (bel_set E.out.ms.below (by have := E.out.ms.ge; show w.heap.size ≤ g + 1 + 1; omega) _) (by have := E.out.ms.ge; show w.heap.size ≤ g + 1 + 1; omega) _, fun a h => by injection h with h; subst h; show w.heap.size ≤ gr; have h1 := HGR.out; have h2 := E0.out.xr.lt; have h3 := E0.out.ms.ge; omega⟩
  exact AllReadyH.nil
end Go.Proofs.YthjdnidapbhdlaaDoor

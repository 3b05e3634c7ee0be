/- the machine's Step -/
import Derived.Test.YthjdnidapbhdlaaDoorHj
set_option maxRecDepth 100000
namespace Go.Proofs.YthjdnidapbhdlaaDoor
open Go.RowKit
/-- a state and an error -/
def StP (at_ : Int) (zs : List Int) (err : Int) (w : World) (e : Ending) (w' : World) : Prop :=
  ∃ A c, e = .returned (.tuple #[.agg #[.int .i64 at_, .slice A zs.length c], .int .i64 err]) ∧ RdI w' A zs.length zs ∧ zs.length ≤ c ∧ c ≤ 9223372036854775807 ∧ Below w.heap.size w w' ∧ (∀ a, A = some a → w.heap.size ≤ a.block)
/-- machine, state and result: their variables -/
structure SE (w W : World) (g : Nat) (R : Int) (A : Option Addr) (n c : Nat) (cs : List Ins) (at_ : Int) (B : Option Addr) (m d : Nat) (zs : List Int) : Prop where
  ms : MS w W g R A n c cs at_ B m d zs
  xr : BxS W (g + 1 + 1) 0 none 0 0
theorem SE.next {w W W' : World} {g : Nat} {R : Int} {A : Option Addr} {n c : Nat} {cs : List Ins} {at_ : Int} {B : Option Addr} {m d : Nat} {zs : List Int} (h : SE w W g R A n c cs at_ B m d zs) (hb : Below W.heap.size W W') : SE w W' g R A n c cs at_ B m d zs := ⟨h.ms.next hb, h.xr.next hb⟩
theorem SE.start (R : Int) (A : Option Addr) (n c : Nat) (cs : List Ins) (at_ : Int) (B : Option Addr) (m d : Nat) (zs : List Int) (w : World) (h : RdC w A n cs) (h' : RdI w B m zs) :
    SE w (((w.alloc (.cells #[.int .i64 R, .slice A n c] 43)).alloc (.cells #[.int .i64 at_, .slice B m d] 46)).alloc (.cells #[.int .i64 0, .slice none 0 0] 46)) w.heap.size R A n c cs at_ B m d zs := by
  have h1 := BxS.new ((w.alloc (.cells #[.int .i64 R, .slice A n c] 43)).alloc (.cells #[.int .i64 at_, .slice B m d] 46)) 0 none 0 0
  simp only [World.size_alloc] at h1
  exact ⟨(MS.start R A n c cs at_ B m d zs w h h').next (bel_alloc _ _), h1⟩
theorem SE.cells {w W : World} {g : Nat} {R : Int} {A : Option Addr} {n c : Nat} {cs : List Ins} {at_ : Int} {B : Option Addr} {m d : Nat} {zs : List Int} (h : SE w W g R A n c cs at_ B m d zs) :
    W.cell? ⟨g, 0, none⟩ = some (.int .i64 R) ∧ W.cell? ⟨g, 1, none⟩ = some (.slice A n c) ∧ W.cell? ⟨g + 1, 0, none⟩ = some (.int .i64 at_) ∧ W.cell? ⟨g + 1, 1, none⟩ = some (.slice B m d) :=
  ⟨h.ms.bm.c0, h.ms.bm.c1, h.ms.bs.c0, h.ms.bs.c1⟩
def stepM (cs : List Ins) (at_ : Int) (zs : List Int) : Int × List Int × Int :=
  let x := insAt cs at_.toNat
  if endM x zs = true then (0, [], 5) else if advOk x zs = true then (advAt x zs, advZs x zs, 0) else (0, [], 4)

set_option maxHeartbeats 8000000 in
theorem Step_bad (R : Int) (A : Option Addr) (n c : Nat) (cs : List Ins) (at_ : Int) (B : Option Addr) (m d : Nat) (zs : List Int) (w : World) (h : RdC w A n cs) (h' : RdI w B m zs) (hm : m ≤ 9223372036854775807) (hf : fitsM R cs at_ zs = false) :
    Calls Tryd.prog 36 #[.agg #[.int .i64 R, .slice A n c], .agg #[.int .i64 at_, .slice B m d]] w (StP 0 [] 1 w) := by
  have E := Lib.hid (SE.start R A n c cs at_ B m d zs w h h')
  have HL := Lib.hid (And.intro h.len h'.len)

  have HF := Lib.hid hf
  clear h h' hf
  go_enter Tryd.func36, Tryd.ntmps36
  go_upto_region 1 with (fail)
  generalize ((w.alloc (.cells #[.int .i64 R, .slice A n c] 43)).alloc (.cells #[.int .i64 at_, .slice B m d] 46)).alloc (.cells #[.int .i64 0, .slice none 0 0] 46) = W0 at E ⊢
  generalize w.heap.size = g at E ⊢
  have HGE := Lib.hid E.out.ms.ge
  obtain ⟨m0, m1, s0, s1⟩ := E.out.cells
  go_wp2_with fail
  refine (Fits_c R A n c cs at_ B m d zs _ E.out.ms.rc E.out.ms.ri hm).mono ?_
  rw [HF.out]
  rintro e w1 ⟨rfl, hb⟩
  replace E := Lib.hid (E.out.next hb)
  clear hb m0 m1 s0 s1
  obtain ⟨m0, m1, s0, s1⟩ := E.out.cells
  have r0 := E.out.xr.c0
  have r1 := E.out.xr.c1
  have f0 := E.out.xr.f0
  have f1 := E.out.xr.f1
  go_wp2
  have Q := E.out.xr.put 0 none 0 0
  have y0 := Q.c0
  have y1 := Q.c1
  refine bodyPost_ret (v := .tuple #[.agg #[.int .i64 0, .slice none 0 0], .int .i64 1]) (by simp [results, Tryd.results36, go_sem, y0, y1]) rfl ?_
  exact ⟨none, 0, rfl, RdI.nil _ _, Nat.le_refl _, by omega, bel_set (bel_set E.out.ms.below (by have := E.out.ms.ge; show w.heap.size ≤ g + 1 + 1; omega) _) (by have := E.out.ms.ge; show w.heap.size ≤ g + 1 + 1; omega) _, fun a h => by cases h⟩
set_option maxHeartbeats 8000000 in
theorem Step_ok (R : Int) (A : Option Addr) (n c : Nat) (cs : List Ins) (at_ : Int) (B : Option Addr) (m d : Nat) (zs : List Int) (w : World) (h : RdC w A n cs) (h' : RdI w B m zs) (hm : m ≤ 9223372036854775807) (hf : FitsP R cs at_ zs) :
    Calls Tryd.prog 36 #[.agg #[.int .i64 R, .slice A n c], .agg #[.int .i64 at_, .slice B m d]] w (StP (stepM cs at_ zs).1 (stepM cs at_ zs).2.1 (stepM cs at_ zs).2.2 w) := by
  have E := Lib.hid (SE.start R A n c cs at_ B m d zs w h h')
  have HL := Lib.hid (And.intro h.len h'.len)

  have hb0 := hf.bounds
  have hl1 := h.len
  have hl2 := h'.len
  obtain ⟨k, rfl⟩ := Int.eq_ofNat_of_zero_le hf.at0
  have hk : k < n := by have := hf.at1; omega
  subst hl1 hl2
  have HF := Lib.hid (p_fits hf)
  have HP := Lib.hid hf
  have HLZ := Lib.hid (show zs.length ≤ 4 ∧ 0 < zs.length by omega)
  obtain ⟨x, hx⟩ : ∃ x, x = insAt cs k := ⟨_, rfl⟩
  have HX := Lib.hid hx
  have HST := Lib.hid (show stepM cs (k : Int) zs = if endM x zs = true then (0, [], 5) else if advOk x zs = true then (advAt x zs, advZs x zs, 0) else (0, [], 4) by rw [hx]; rfl)
  have HRG := Lib.hid (show (insAt cs k).op = 1 → 0 ≤ (insAt cs k).reg ∧ (insAt cs k).reg < (zs.length : Int) from fun e => by
    have hv := hf.ins
    rw [Int.toNat_natCast] at hv
    have := hf.len
    rcases valid_cases hv with ⟨h3, _⟩ | ⟨h0, r0, r1, _⟩ <;> omega)
  have HE := Lib.hid (fun (W : World) (r : RdC W A cs.length cs) (i : RdI W B zs.length zs) => ended_c R A _ c cs k B _ d zs W r i hk HRG.out)
  rw [← hx] at HE
  obtain ⟨v, hv⟩ : ∃ v, v = endM x zs := ⟨_, rfl⟩
  rw [← hv] at HE HST
  have HV := Lib.hid hv
  clear h h' hf hb0 hx hv hk HL
  go_enter Tryd.func36, Tryd.ntmps36
  go_upto_region 1 with (fail)
  generalize ((w.alloc (.cells #[.int .i64 R, .slice A cs.length c] 43)).alloc (.cells #[.int .i64 (k : Int), .slice B zs.length d] 46)).alloc (.cells #[.int .i64 0, .slice none 0 0] 46) = W0 at E ⊢
  generalize w.heap.size = g at E ⊢
  have HGE := Lib.hid E.out.ms.ge
  obtain ⟨m0, m1, s0, s1⟩ := E.out.cells
  go_wp2_with fail
  refine (Fits_c R A _ c cs (k : Int) B _ d zs _ E.out.ms.rc E.out.ms.ri hm).mono ?_
  rw [HF.out]
  rintro e w1 ⟨rfl, hb⟩
  replace E := Lib.hid (E.out.next hb)
  clear hb m0 m1 s0 s1
  obtain ⟨m0, m1, s0, s1⟩ := E.out.cells
  go_wp2_with fail
  refine (HE.out _ E.out.ms.rc E.out.ms.ri).mono ?_
  rintro e w1 ⟨rfl, hb⟩
  replace E := Lib.hid (E.out.next hb)
  clear hb m0 m1 s0 s1
  cases v with
  | true =>
    have HS := Lib.hid (show stepM cs (k : Int) zs = (0, [], 5) by rw [HST.out]; rfl)
    obtain ⟨m0, m1, s0, s1⟩ := E.out.cells
    have r0 := E.out.xr.c0
    have r1 := E.out.xr.c1
    have f0 := E.out.xr.f0
    have f1 := E.out.xr.f1
    go_wp2
    have Q := E.out.xr.put 0 none 0 0
    have y0 := Q.c0
    have y1 := Q.c1
    refine bodyPost_ret (v := .tuple #[.agg #[.int .i64 0, .slice none 0 0], .int .i64 5]) (by simp [results, Tryd.results36, go_sem, y0, y1]) rfl ?_
    refine (show StP (stepM cs (k : Int) zs).1 (stepM cs (k : Int) zs).2.1 (stepM cs (k : Int) zs).2.2 w _ _ from ?_)
    rw [HS.out]
    exact ⟨none, 0, rfl, RdI.nil _ _, Nat.le_refl _, by omega, bel_set (bel_set E.out.ms.below (by have := E.out.ms.ge; show w.heap.size ≤ g + 1 + 1; omega) _) (by have := E.out.ms.ge; show w.heap.size ≤ g + 1 + 1; omega) _, fun a h => by cases h⟩
  | false =>
    obtain ⟨m0, m1, s0, s1⟩ := E.out.cells
    go_wp2_with fail
    clear m0 m1 s0 s1
    refine wp_region_tail (S := (fun w' => w'.cell? ⟨g + 1, 0, none⟩ = some (.int .i64 (k : Int)) ∧ w'.cell? ⟨g + 1, 1, none⟩ = some (.slice B zs.length d))) 7 (by kernel_rfl) (by kernel_rfl) (by intro c a d v w h; cases d <;> exact h) (⟨cell_dr E.out.ms.bs.c0, cell_dr E.out.ms.bs.c1⟩) (fun QT hT hP hHeld => ?_)
    simp only [List.extract_toArray, List.extract_eq_take_drop, List.drop_zero, Nat.sub_zero, List.take_succ_cons, List.take_zero]
    have HT := Lib.hid hT
    clear hT
    replace E := Lib.hid (E.out.next (Below.refl w1.heap.size w1).drew)
    generalize w1.drew = D at E hHeld ⊢
    have E0 := E
    refine take_on (i := 0) (d := (some 16)) (v := ?v1) rfl rfl (by kernel_rfl) (by kernel_rfl) (by kernel_rfl) (fun c a w h => hP c a _ _ w h) (by rfl) ?h1 (by assumption) ?r1
    case h1 => intro w hSw; obtain ⟨h0, h1⟩ := hSw; go_simp; rfl
    simp only [Act.put, List.setIfInBounds_toArray, List.set_cons_zero, List.set_cons_succ]
    refine take_on (i := 1) (d := (some 17)) (v := ?v2) rfl rfl (by kernel_rfl) (by kernel_rfl) (by kernel_rfl) (fun c a w h => hP c a _ _ w h) (by rfl) ?h2 (by assumption) ?r2
    case h2 => intro w hSw; obtain ⟨h0, h1⟩ := hSw; go_simp; rfl
    simp only [Act.put, List.setIfInBounds_toArray, List.set_cons_zero, List.set_cons_succ]
    refine take_on (i := 2) (d := (some 18)) (v := ?v3) rfl rfl (by kernel_rfl) (by kernel_rfl) (by kernel_rfl) (fun c a w h => hP c a _ _ w h) (by rfl) ?h3 (by assumption) ?r3
    case h3 => intro w hSw; obtain ⟨h0, h1⟩ := hSw; go_simp; rfl
    simp only [Act.put, List.setIfInBounds_toArray, List.set_cons_zero, List.set_cons_succ]
    refine take_on (i := 3) (d := (some 19)) (v := ?v4) rfl rfl (by kernel_rfl) (by kernel_rfl) (by kernel_rfl) (fun c a w h => hP c a _ _ w h) (by rfl) ?h4 (by assumption) ?r4
    case h4 => intro w hSw; obtain ⟨h0, h1⟩ := hSw; go_simp; rfl
    simp only [Act.put, List.setIfInBounds_toArray, List.set_cons_zero, List.set_cons_succ]
    refine wpAnyH_ready (rs := [4, 6]) (by kernel_rfl) (by simp) ?_
    refine AllReadyH.cons rfl (fun K hK => ?_) ?_
    ·
      go_simp
      refine (clone_i B _ d zs D E.out.ms.ri HLZ.out.2 (by have := HLZ.out.1; omega)).mono ?_
      rintro e v2 ⟨gr, cr, rfl, h1, h2, h3, h4, hb⟩
      have O6 := Lib.hid h1
      have HCR := Lib.hid (And.intro h3 h4)
      have HLT := Lib.hid (show gr < v2.heap.size from h1.lt)
      have HGR := Lib.hid h2
      replace E := Lib.hid (E.out.next hb)
      have HBD := Lib.hid hb
      clear hb hHeld h1 h2 h3 h4
      refine hK.out _ _ (⟨E.out.ms.bs.c0, E.out.ms.bs.c1⟩) (fun hHeld => ?_)
      clear hK K
      refine take_on (i := 5) (d := (some 21)) (v := ?v5) rfl rfl (by kernel_rfl) (by kernel_rfl) (by kernel_rfl) (fun c a w h => hP c a _ _ w h) (by rfl) ?h5 (by assumption) ?r5
      case h5 => intro w hSw; obtain ⟨h0, h1⟩ := hSw; go_simp; rfl
      simp only [Act.put, List.setIfInBounds_toArray, List.set_cons_zero, List.set_cons_succ]
      refine wpAnyH_ready (rs := [6]) (by kernel_rfl) (by simp) ?_
      refine AllReadyH.cons rfl (fun K hK => ?_) AllReadyH.nil
      go_simp
      have hb := bel_alloc v2 (.cells #[.int .i64 0, .slice none 0 0] 46)
      have X6 := Lib.hid (BxS.new v2 0 none 0 0)
      replace E := Lib.hid (E.out.next hb)
      replace O6 := Lib.hid (O6.out.next hb)
      replace HBD := Lib.hid (HBD.out.trans (hb.mono HBD.out.size))
      skip
      clear hb hHeld
      generalize hY : v2.alloc (.cells #[.int .i64 0, .slice none 0 0] 46) = Y3 at E O6 X6 HBD ⊢
      have HYS := Lib.hid (show Y3.heap.size = v2.heap.size + 1 by rw [← hY]; simp)
      clear hY
      obtain ⟨gs, hgs⟩ : ∃ g, g = v2.heap.size := ⟨_, rfl⟩
      rw [← hgs] at X6 ⊢
      have HNE := Lib.hid (show gs ≠ gr by have := HLT.out; omega)
      have HGS := Lib.hid (show D.heap.size ≤ gs by have := HGR.out; have := HLT.out; omega)
      clear hgs HYS HLT
      refine hK.out _ _ (⟨E.out.ms.bs.c0, E.out.ms.bs.c1⟩) (fun hHeld => ?_)
      clear hK K
      clear hHeld
      refine wpAnyH_done (by kernel_rfl) ?_ _
      refine HT.out _ _ ?_
      clear HT hP QT
      have r0 := X6.out.c0
      have r1 := X6.out.c1
      have f0 := X6.out.f0
      have f1 := X6.out.f1
      refine wpList_step fun K hK => ?_
      go_simp
      refine hK _ _ ?_
      clear hK K
      refine wpList_nil ?_
      clear r0 r1 f0 f1
      have X7 := Lib.hid (X6.out.put (k : Int) (some ⟨gr, 0, none⟩) zs.length cr)
      have O7 := Lib.hid ((O6.out.far (p := ⟨gs, 0, none⟩) (fun e => HNE.out e.symm) (.int .i64 (k : Int))).far (p := ⟨gs, 1, none⟩) (fun e => HNE.out e.symm) (.slice (some ⟨gr, 0, none⟩) zs.length cr))
      have B7 := Lib.hid (bel_set (bel_set HBD.out (p := ⟨gs, 0, none⟩) HGS.out (.int .i64 (k : Int))) (p := ⟨gs, 1, none⟩) HGS.out (.slice (some ⟨gr, 0, none⟩) zs.length cr))
      generalize (Y3.setCell ⟨gs, 0, none⟩ (.int .i64 (k : Int))).setCell ⟨gs, 1, none⟩ (.slice (some ⟨gr, 0, none⟩) zs.length cr) = W7 at X7 O7 B7 ⊢
      clear X6 O6 HBD E
      have E := Lib.hid (E0.out.next B7.out)
      skip
      obtain ⟨m0, m1, s0, s1⟩ := E.out.cells
      go_wp2_with fail
      refine (advance_c HP.out (by rw [← HX.out, ← HV.out]) A c gs gr cr _ E.out.ms.rc X7.out O7.out HNE.out).mono ?_
      rintro e w8 ⟨rfl, h1, h2, h3⟩
      rw [← HX.out] at h1 h2 ⊢
      have X8 := Lib.hid h1
      have O8 := Lib.hid h2
      have B8 := Lib.hid (B7.out.trans (h3.below B7.out.size HGS.out HGR.out))
      clear h1 h2 h3 X7 O7 B7 E m0 m1 s0 s1
      have E := Lib.hid (E0.out.next B8.out)
      obtain ⟨va, hva⟩ : ∃ v, v = advAt x zs := ⟨_, rfl⟩
      obtain ⟨vz, hvz⟩ : ∃ v, v = advZs x zs := ⟨_, rfl⟩
      have HVL := Lib.hid (show vz.length = zs.length by rw [hvz, advZs_len])
      obtain ⟨vo, hvo⟩ : ∃ v, v = advOk x zs := ⟨_, rfl⟩
      rw [← hva] at X8 HST
      rw [← hvz] at O8 HST
      rw [← hvo] at HST ⊢
      clear hva hvz hvo
      cases vo with
      | false =>
        have HS := Lib.hid (show stepM cs (k : Int) zs = (0, [], 4) by rw [HST.out]; rfl)
        obtain ⟨m0, m1, s0, s1⟩ := E.out.cells
        have r0 := E.out.xr.c0
        have r1 := E.out.xr.c1
        have f0 := E.out.xr.f0
        have f1 := E.out.xr.f1
        go_wp2
        have Q := E.out.xr.put 0 none 0 0
        have y0 := Q.c0
        have y1 := Q.c1
        refine bodyPost_ret (v := .tuple #[.agg #[.int .i64 0, .slice none 0 0], .int .i64 4]) (by simp [results, Tryd.results36, go_sem, y0, y1]) rfl ?_
        refine (show StP (stepM cs (k : Int) zs).1 (stepM cs (k : Int) zs).2.1 (stepM cs (k : Int) zs).2.2 w _ _ from ?_)
        rw [HS.out]
        exact ⟨none, 0, rfl, RdI.nil _ _, Nat.le_refl _, by omega, bel_set (bel_set E.out.ms.below (by have := E.out.ms.ge; show w.heap.size ≤ g + 1 + 1; omega) _) (by have := E.out.ms.ge; show w.heap.size ≤ g + 1 + 1; omega) _, fun a h => by cases h⟩
      | true =>
        have HS := Lib.hid (show stepM cs (k : Int) zs = (va, vz, 0) by rw [HST.out]; rfl)
        obtain ⟨m0, m1, s0, s1⟩ := E.out.cells
        have z0 := X8.out.c0
        have z1 := X8.out.c1
        have r0 := E.out.xr.c0
        have r1 := E.out.xr.c1
        have f0 := E.out.xr.f0
        have f1 := E.out.xr.f1
        go_wp2
        have Q := E.out.xr.put va (some ⟨gr, 0, none⟩) zs.length cr
        have y0 := Q.c0
        have y1 := Q.c1
        refine bodyPost_ret (v := .tuple #[.agg #[.int .i64 va, .slice (some ⟨gr, 0, none⟩) zs.length cr], .int .i64 0]) (by simp [results, Tryd.results36, go_sem, y0, y1]) rfl ?_
        refine (show StP (stepM cs (k : Int) zs).1 (stepM cs (k : Int) zs).2.1 (stepM cs (k : Int) zs).2.2 w _ _ from ?_)
        rw [HS.out]
        have hne : gr ≠ g + 1 + 1 := by have h1 := HGR.out; have h2 := E0.out.xr.lt; omega
        exact ⟨some ⟨gr, 0, none⟩, cr, by rw [HVL.out], ((O8.out.far hne _).far hne _).rd, by rw [HVL.out]; exact HCR.out.1, HCR.out.2, bel_set (bel_set E.out.ms.below (by have := E.out.ms.ge; show w.heap.size ≤ g + 1 + 1; omega) _) (by have := E.out.ms.ge; show w.heap.size ≤ g + 1 + 1; omega) _, fun a h => by injection h with h; subst h; show w.heap.size ≤ gr; have h1 := HGR.out; have h2 := E0.out.xr.lt; have h3 := E0.out.ms.ge; omega⟩
    refine AllReadyH.cons rfl (fun K hK => ?_) ?_
    ·
      go_simp
      have hb := bel_alloc D (.cells #[.int .i64 0, .slice none 0 0] 46)
      have X6 := Lib.hid (BxS.new D 0 none 0 0)
      replace E := Lib.hid (E.out.next hb)
      have HBD := Lib.hid hb
      clear hb hHeld
      generalize hY : D.alloc (.cells #[.int .i64 0, .slice none 0 0] 46) = Y4 at E X6 HBD ⊢
      have HYS := Lib.hid (show Y4.heap.size = D.heap.size + 1 by rw [← hY]; simp)
      clear hY
      obtain ⟨gs, hgs⟩ : ∃ g, g = D.heap.size := ⟨_, rfl⟩
      rw [← hgs] at X6 ⊢
      have HGS := Lib.hid (show D.heap.size ≤ gs by omega)
      clear hgs HYS
      refine hK.out _ _ (⟨E.out.ms.bs.c0, E.out.ms.bs.c1⟩) (fun hHeld => ?_)
      clear hK K
      refine wpAnyH_ready (rs := [4]) (by kernel_rfl) (by simp) ?_
      refine AllReadyH.cons rfl (fun K hK => ?_) AllReadyH.nil
      go_simp
      refine (clone_i B _ d zs Y4 E.out.ms.ri HLZ.out.2 (by have := HLZ.out.1; omega)).mono ?_
      rintro e v5 ⟨gr, cr, rfl, h1, h2, h3, h4, hb⟩
      have O6 := Lib.hid h1
      have HCR := Lib.hid (And.intro h3 h4)
      have HNE := Lib.hid (show gs ≠ gr by have := X6.out.lt; omega)
      have HGR := Lib.hid (Nat.le_trans HBD.out.size h2)
      replace E := Lib.hid (E.out.next hb)
      replace X6 := Lib.hid (X6.out.next hb)
      replace HBD := Lib.hid (HBD.out.trans (hb.mono HBD.out.size))
      clear hb hHeld h1 h2 h3 h4
      refine hK.out _ _ (⟨E.out.ms.bs.c0, E.out.ms.bs.c1⟩) (fun hHeld => ?_)
      clear hK K
      refine take_on (i := 5) (d := (some 21)) (v := ?v6) rfl rfl (by kernel_rfl) (by kernel_rfl) (by kernel_rfl) (fun c a w h => hP c a _ _ w h) (by rfl) ?h6 (by assumption) ?r6
      case h6 => intro w hSw; obtain ⟨h0, h1⟩ := hSw; go_simp; rfl
      simp only [Act.put, List.setIfInBounds_toArray, List.set_cons_zero, List.set_cons_succ]
      clear hHeld
      refine wpAnyH_done (by kernel_rfl) ?_ _
      refine HT.out _ _ ?_
      clear HT hP QT
      have r0 := X6.out.c0
      have r1 := X6.out.c1
      have f0 := X6.out.f0
      have f1 := X6.out.f1
      refine wpList_step fun K hK => ?_
      go_simp
      refine hK _ _ ?_
      clear hK K
      refine wpList_nil ?_
      clear r0 r1 f0 f1
      have X7 := Lib.hid (X6.out.put (k : Int) (some ⟨gr, 0, none⟩) zs.length cr)
      have O7 := Lib.hid ((O6.out.far (p := ⟨gs, 0, none⟩) (fun e => HNE.out e.symm) (.int .i64 (k : Int))).far (p := ⟨gs, 1, none⟩) (fun e => HNE.out e.symm) (.slice (some ⟨gr, 0, none⟩) zs.length cr))
      have B7 := Lib.hid (bel_set (bel_set HBD.out (p := ⟨gs, 0, none⟩) HGS.out (.int .i64 (k : Int))) (p := ⟨gs, 1, none⟩) HGS.out (.slice (some ⟨gr, 0, none⟩) zs.length cr))
      generalize (v5.setCell ⟨gs, 0, none⟩ (.int .i64 (k : Int))).setCell ⟨gs, 1, none⟩ (.slice (some ⟨gr, 0, none⟩) zs.length cr) = W7 at X7 O7 B7 ⊢
      clear X6 O6 HBD E
      have E := Lib.hid (E0.out.next B7.out)
      skip
      obtain ⟨m0, m1, s0, s1⟩ := E.out.cells
      go_wp2_with fail
      refine (advance_c HP.out (by rw [← HX.out, ← HV.out]) A c gs gr cr _ E.out.ms.rc X7.out O7.out HNE.out).mono ?_
      rintro e w8 ⟨rfl, h1, h2, h3⟩
      rw [← HX.out] at h1 h2 ⊢
      have X8 := Lib.hid h1
      have O8 := Lib.hid h2
      have B8 := Lib.hid (B7.out.trans (h3.below B7.out.size HGS.out HGR.out))
      clear h1 h2 h3 X7 O7 B7 E m0 m1 s0 s1
      have E := Lib.hid (E0.out.next B8.out)
      obtain ⟨va, hva⟩ : ∃ v, v = advAt x zs := ⟨_, rfl⟩
      obtain ⟨vz, hvz⟩ : ∃ v, v = advZs x zs := ⟨_, rfl⟩
      have HVL := Lib.hid (show vz.length = zs.length by rw [hvz, advZs_len])
      obtain ⟨vo, hvo⟩ : ∃ v, v = advOk x zs := ⟨_, rfl⟩
      rw [← hva] at X8 HST
      rw [← hvz] at O8 HST
      rw [← hvo] at HST ⊢
      clear hva hvz hvo
      cases vo with
      | false =>
        have HS := Lib.hid (show stepM cs (k : Int) zs = (0, [], 4) by rw [HST.out]; rfl)
        obtain ⟨m0, m1, s0, s1⟩ := E.out.cells
        have r0 := E.out.xr.c0
        have r1 := E.out.xr.c1
        have f0 := E.out.xr.f0
        have f1 := E.out.xr.f1
        go_wp2
        have Q := E.out.xr.put 0 none 0 0
        have y0 := Q.c0
        have y1 := Q.c1
        refine bodyPost_ret (v := .tuple #[.agg #[.int .i64 0, .slice none 0 0], .int .i64 4]) (by simp [results, Tryd.results36, go_sem, y0, y1]) rfl ?_
        refine (show StP (stepM cs (k : Int) zs).1 (stepM cs (k : Int) zs).2.1 (stepM cs (k : Int) zs).2.2 w _ _ from ?_)
        rw [HS.out]
        exact ⟨none, 0, rfl, RdI.nil _ _, Nat.le_refl _, by omega, bel_set (bel_set E.out.ms.below (by have := E.out.ms.ge; show w.heap.size ≤ g + 1 + 1; omega) _) (by have := E.out.ms.ge; show w.heap.size ≤ g + 1 + 1; omega) _, fun a h => by cases h⟩
      | true =>
        have HS := Lib.hid (show stepM cs (k : Int) zs = (va, vz, 0) by rw [HST.out]; rfl)
        obtain ⟨m0, m1, s0, s1⟩ := E.out.cells
        have z0 := X8.out.c0
        have z1 := X8.out.c1
        have r0 := E.out.xr.c0
        have r1 := E.out.xr.c1
        have f0 := E.out.xr.f0
        have f1 := E.out.xr.f1
        go_wp2
        have Q := E.out.xr.put va (some ⟨gr, 0, none⟩) zs.length cr
        have y0 := Q.c0
        have y1 := Q.c1
        refine bodyPost_ret (v := .tuple #[.agg #[.int .i64 va, .slice (some ⟨gr, 0, none⟩) zs.length cr], .int .i64 0]) (by simp [results, Tryd.results36, go_sem, y0, y1]) rfl ?_
        refine (show StP (stepM cs (k : Int) zs).1 (stepM cs (k : Int) zs).2.1 (stepM cs (k : Int) zs).2.2 w _ _ from ?_)
        rw [HS.out]
        have hne : gr ≠ g + 1 + 1 := by have h1 := HGR.out; have h2 := E0.out.xr.lt; omega
        exact ⟨some ⟨gr, 0, none⟩, cr, by rw [HVL.out], ((O8.out.far hne _).far hne _).rd, by rw [HVL.out]; exact HCR.out.1, HCR.out.2, bel_set (bel_set E.out.ms.below (by have := E.out.ms.ge; show w.heap.size ≤ g + 1 + 1; omega) _) (by have := E.out.ms.ge; show w.heap.size ≤ g + 1 + 1; omega) _, fun a h => by injection h with h; subst h; show w.heap.size ≤ gr; have h1 := HGR.out; have h2 := E0.out.xr.lt; have h3 := E0.out.ms.ge; omega⟩
    exact AllReadyH.nil
end Go.Proofs.YthjdnidapbhdlaaDoor

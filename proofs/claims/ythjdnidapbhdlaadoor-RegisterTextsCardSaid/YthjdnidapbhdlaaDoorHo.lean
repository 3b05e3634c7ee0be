/- the reference's Run -/
import Derived.Test.YthjdnidapbhdlaaDoorHn
set_option maxRecDepth 100000
namespace Go.Proofs.YthjdnidapbhdlaaDoor
open Go.RowKit
theorem RdI.far {w : World} {A : Option Addr} {n : Nat} {zs : List Int} (h : RdI w A n zs) {p : Addr} (hA : ∀ x, A = some x → x.block ≠ p.block) (u : Value) : RdI (w.setCell p u) A n zs := by
  refine ⟨h.len, fun h0 => ?_⟩
  obtain ⟨b, o, e, hlt, hc⟩ := h.at_ h0
  have hb := hA _ e
  refine ⟨b, o, e, by rw [World.size_setCell]; exact hlt, fun k hk => ?_⟩
  refine (World.cell?_setCell_other w p ⟨b, o + k, none⟩ u ?_).trans (hc k hk)
  first | (intro e2; exact hb (by rw [← e2])) | (intro e2; exact hb (by rw [e2]))
theorem BoxM.off {W : World} {g : Nat} {R : Int} {A : Option Addr} {n c : Nat} (h : BoxM W g R A n c) {p : Addr} (hp : p.block ≠ g) (u : Value) : BoxM (W.setCell p u) g R A n c :=
  have e : ∀ i, (⟨g, i, none⟩ : Addr) ≠ p := fun i he => hp (by rw [← he])
  ⟨by rw [World.size_setCell]; exact h.lt, (World.cell?_setCell_other W p ⟨g, 0, none⟩ u (by first | exact e 0 | exact fun he => e 0 he.symm)).trans h.c0, (World.cell?_setCell_other W p ⟨g, 1, none⟩ u (by first | exact e 1 | exact fun he => e 1 he.symm)).trans h.c1⟩
theorem SE.put {w W : World} {g : Nat} {R : Int} {A : Option Addr} {n c : Nat} {cs : List Ins} {at_ a' : Int} {B B' : Option Addr} {m d m' d' : Nat} {zs zs' : List Int} (h : SE w W g R A n c cs at_ B m d zs) (h0 : RdC w A n cs) (hr : RdI W B' m' zs') (hB : ∀ x, B' = some x → x.block ≠ g + 1) :
    SE w ((W.setCell ⟨g + 1, 0, none⟩ (.int .i64 a')).setCell ⟨g + 1, 1, none⟩ (.slice B' m' d')) g R A n c cs a' B' m' d' zs' := by
  have hge := h.ms.ge
  have hb := bel_set (bel_set h.ms.below (p := ⟨g + 1, 0, none⟩) (by show w.heap.size ≤ g + 1; omega) (.int .i64 a')) (p := ⟨g + 1, 1, none⟩) (by show w.heap.size ≤ g + 1; omega) (.slice B' m' d')
  have n1 : (⟨g + 1, 0, none⟩ : Addr).block ≠ g := by show g + 1 ≠ g; omega
  have n2 : (⟨g + 1, 1, none⟩ : Addr).block ≠ g := by show g + 1 ≠ g; omega
  have n3 : (⟨g + 1, 0, none⟩ : Addr).block ≠ g + 1 + 1 := by show g + 1 ≠ g + 1 + 1; omega
  have n4 : (⟨g + 1, 1, none⟩ : Addr).block ≠ g + 1 + 1 := by show g + 1 ≠ g + 1 + 1; omega
  exact ⟨⟨hb, hge, (h.ms.bm.off n1 _).off n2 _, h.ms.bs.put a' B' m' d', h0.below hb, (hr.far hB _).far hB _⟩, (h.xr.off n3 _).off n4 _⟩
theorem rd_out {W : World} {g : Nat} {zs : List Int} {A : Option Addr} (h : RdI W A zs.length zs) (hA : ∀ y, A = some y → y.block ≠ g) {u v : Value} : RdI ((W.setCell ⟨g, 0, none⟩ u).setCell ⟨g, 1, none⟩ v) A zs.length zs :=
  (h.far (p := ⟨g, 0, none⟩) hA u).far (p := ⟨g, 1, none⟩) hA v
def RunX (at_ : Int) (zs : List Int) (k : Int) (err : Int) (w : World) (e : Ending) (w' : World) : Prop := RunP at_ zs k err w e w'

set_option maxHeartbeats 8000000 in
theorem refRun_c (R : Int) (A : Option Addr) (n c : Nat) (cs : List Ins) (at_ : Int) (B : Option Addr) (m d : Nat) (zs : List Int) (N : Nat) (w : World) (h : RdC w A n cs) (h' : RdI w B m zs) (hf : FitsP R cs at_ zs) (hN : N ≤ 1000000) :
    Calls Tryd.prog 67 #[.agg #[.int .i64 R, .slice A n c], .agg #[.int .i64 at_, .slice B m d], .int .i64 (N : Int)] w (RunR (runM cs N at_ zs) w) := by
  have E := Lib.hid (SE.start R A n c cs at_ B m d zs w h h')
  have HL := Lib.hid (And.intro h.len h'.len)

  have hb0 := hf.bounds
  have hl1 := h.len
  have hl2 := h'.len
  obtain ⟨k, rfl⟩ := Int.eq_ofNat_of_zero_le hf.at0
  subst hl1 hl2
  have HC0 := Lib.hid h
  have HP := Lib.hid hf
  have HLZ := Lib.hid (show zs.length ≤ 4 ∧ 0 < zs.length by omega)
  clear h h' hf hb0 HL
  go_enter Tryd.func67, Tryd.ntmps67
  go_upto_region 1 with (fail)
  generalize ((w.alloc (.cells #[.int .i64 R, .slice A cs.length c] 43)).alloc (.cells #[.int .i64 (k : Int), .slice B zs.length d] 46)).alloc (.cells #[.int .i64 0, .slice none 0 0] 46) = W0 at E ⊢
  generalize w.heap.size = g at E ⊢
  have HGE := Lib.hid E.out.ms.ge
  obtain ⟨m0, m1, s0, s1⟩ := E.out.cells
  go_wp2_with fail
  refine (copy_s (k : Int) B _ d zs _ E.out.ms.ri HLZ.out.2 (by have := HLZ.out.1; omega)).mono ?_
  rintro e w1 ⟨gr, cr, rfl, h1, h2, h3, h4, hb⟩
  have hB : ∀ x, some (⟨gr, 0, none⟩ : Addr) = some x → x.block ≠ g + 1 := fun x hx => by injection hx with hx; subst hx; show gr ≠ g + 1; have := E.out.xr.lt; omega
  have HB0 := Lib.hid (show ∀ x, some (⟨gr, 0, none⟩ : Addr) = some x → x.block ≠ g + 1 + 1 ∧ w.heap.size ≤ x.block from fun x hx => by injection hx with hx; subst hx; show gr ≠ g + 1 + 1 ∧ w.heap.size ≤ gr; have := E.out.xr.lt; have := E.out.ms.ge; omega)
  replace E := Lib.hid (E.out.next hb)
  have E2 := Lib.hid (E.out.put HC0.out (a' := (k : Int)) (d' := cr) h1.rd hB)
  have H34 := Lib.hid (And.intro h3 h4)
  have s0' := E.out.ms.bs.c0
  have s1' := E.out.ms.bs.c1
  have f0 := E.out.ms.bs.f0
  have f1 := E.out.ms.bs.f1
  clear hb h1 h2 h3 h4 hB m0 m1 s0 s1
  go_upto_region 2 with (fail)
  clear s0' s1' f0 f1 E
  generalize (w1.setCell ⟨g + 1, 0, none⟩ (.int .i64 (k : Int))).setCell ⟨g + 1, 1, none⟩ (.slice (some ⟨gr, 0, none⟩) zs.length cr) = W2 at E2 ⊢
  go_wp2
  go_loopw [9] (fun v wr => ∃ (j a : Nat) (ys : List Int) (A2 : Option Addr) (c2 : Nat), v = .int .i64 (j : Int) ∧ j ≤ N ∧ Iter cs j (k : Int) zs (a : Int) ys ∧ SE w wr g R A cs.length c cs (a : Int) A2 ys.length c2 ys ∧ ys.length ≤ c2 ∧ c2 ≤ 9223372036854775807 ∧ (∀ y, A2 = some y → y.block ≠ g + 1 + 1 ∧ w.heap.size ≤ y.block)) (fun v _ => (N : Nat) - (intOf v).toNat)
  case atStart => exact ⟨0, k, zs, _, cr, rfl, Nat.zero_le _, ⟨rfl, rfl⟩, E2.out, H34.out.1, H34.out.2, HB0.out⟩
  case round =>
    obtain ⟨j, a, ys, A2, c2, rfl, hj, hit, hE, hc1, hc2, hb2⟩ := hrel
    clear E2 H34
    have E := Lib.hid hE
    have HCC := Lib.hid (And.intro hc1 hc2)
    have HBB := Lib.hid hb2
    have hf := iter_fits HP.out hit
    have HIT := Lib.hid hit
    have HQ := Lib.hid hf
    clear hE hc1 hc2 hb2 hit hf HB0
    rcases Nat.lt_or_ge j N with hjN | hjN
    · have t1 : decide ((j : Int) < (N : Int)) = true := decide_eq_true (by omega)
      have t2 : decide (j < N) = true := decide_eq_true hjN
      obtain ⟨x, hx⟩ : ∃ x, x = insAt cs a := ⟨_, rfl⟩
      have HX := Lib.hid hx
      have HSM := Lib.hid (show stepM cs (a : Int) ys = if endM x ys = true then (0, [], 5) else if advOk x ys = true then (advAt x ys, advZs x ys, 0) else (0, [], 4) by rw [hx]; rfl)
      clear hx
      obtain ⟨m0, m1, s0, s1⟩ := E.out.cells
      go_wp2_with fail
      refine (refStep_c R A _ c cs (a : Int) A2 _ c2 ys _ E.out.ms.rc E.out.ms.ri HQ.out).mono ?_
      rintro e w3 ⟨A3, c3, rfl, h1, h2, h3, hb, hfr⟩
      have hgl := E.out.xr.lt
      replace E := Lib.hid (E.out.next hb)
      clear t1 t2 m0 m1 s0 s1
      cases hen : endM x ys with
      | true =>
        have HEN := Lib.hid hen
        have HS := Lib.hid (show stepM cs (a : Int) ys = (0, [], 5) by rw [HSM.out, if_pos hen])
        rw [HS.out] at h1 h2 ⊢
        simp only [List.length_nil] at h1 h2 ⊢
        clear hen hb h1 h2 h3 hfr hgl HSM HS
        have hb2 := bel_alloc w3 (.cells #[.int .i64 0, .slice A3 0 c3] 46)
        have XN := Lib.hid (BxS.new w3 0 A3 0 c3)
        replace E := Lib.hid (E.out.next hb2)
        clear hb2
        go_upto_region 6 with (fail)
        generalize w3.alloc (.cells #[.int .i64 0, .slice A3 0 c3] 46) = W3 at E ⊢
        clear XN
        have HR := Lib.hid (show runM cs N (k : Int) zs = ⟨(a : Int), ys, j, false⟩ by
          obtain ⟨q, hq⟩ : ∃ q, N = j + (q + 1) := ⟨N - j - 1, by omega⟩
          have e : runM cs (q + 1) (a : Int) ys = ⟨(a : Int), ys, 0, false⟩ := by
            unfold runM
            simp only [Int.toNat_natCast]
            rw [← HX.out, if_pos HEN.out]
          have e2 := run_iter (q + 1) HIT.out
          rw [e] at e2
          rw [hq, e2]
          simp)
        obtain ⟨m0, m1, s0, s1⟩ := E.out.cells
        have r0 := E.out.xr.c0
        have r1 := E.out.xr.c1
        have e0 := E.out.xr.f0
        have e1 := E.out.xr.f1
        go_wp2
        have Q := E.out.xr.put (a : Int) A2 ys.length c2
        have y0 := Q.c0
        have y1 := Q.c1
        refine bodyPost_ret (v := .tuple #[.agg #[.int .i64 (a : Int), .slice A2 ys.length c2], .int .i64 (j : Int), .int .i64 0]) (by simp [results, Tryd.results67, go_sem, y0, y1]) rfl ?_
        refine (show RunR (runM cs N (k : Int) zs) w _ _ from ?_)
        rw [HR.out]
        exact ⟨A2, c2, rfl, rd_out E.out.ms.ri (fun y hy => (HBB.out y hy).1), HCC.out.1, HCC.out.2, bel_set (bel_set E.out.ms.below (p := ⟨g + 1 + 1, 0, none⟩) (by have := E.out.ms.ge; show w.heap.size ≤ g + 1 + 1; omega) _) (p := ⟨g + 1 + 1, 1, none⟩) (by have := E.out.ms.ge; show w.heap.size ≤ g + 1 + 1; omega) _, fun y hy => (HBB.out y hy).2⟩
      | false =>
        have HEN := Lib.hid hen
        rw [hen] at HSM
        simp only [Bool.false_eq_true, if_false] at HSM
        cases hok : advOk x ys with
        | false =>
          have HOK := Lib.hid hok
          have HS := Lib.hid (show stepM cs (a : Int) ys = (0, [], 4) by rw [HSM.out, hok]; simp)
          rw [HS.out] at h1 h2 ⊢
          simp only [List.length_nil] at h1 h2 ⊢
          clear hen hok hb h1 h2 h3 hfr hgl HSM HS
          have hb2 := bel_alloc w3 (.cells #[.int .i64 0, .slice A3 0 c3] 46)
          have XN := Lib.hid (BxS.new w3 0 A3 0 c3)
          replace E := Lib.hid (E.out.next hb2)
          clear hb2
          go_upto_region 6 with (fail)
          generalize w3.alloc (.cells #[.int .i64 0, .slice A3 0 c3] 46) = W3 at E ⊢
          clear XN
          have HR := Lib.hid (show runM cs N (k : Int) zs = ⟨0, [], 0, true⟩ by
            obtain ⟨q, hq⟩ : ∃ q, N = j + (q + 1) := ⟨N - j - 1, by omega⟩
            have e : runM cs (q + 1) (a : Int) ys = ⟨0, [], 0, true⟩ := by
              unfold runM
              simp only [Int.toNat_natCast]
              rw [← HX.out, HEN.out, HOK.out, if_neg (by simp), if_pos rfl]
            have e2 := run_iter (q + 1) HIT.out
            rw [e] at e2
            rw [hq, e2]
            simp)
          obtain ⟨m0, m1, s0, s1⟩ := E.out.cells
          have r0 := E.out.xr.c0
          have r1 := E.out.xr.c1
          have e0 := E.out.xr.f0
          have e1 := E.out.xr.f1
          go_wp2
          have Q := E.out.xr.put 0 none 0 0
          have y0 := Q.c0
          have y1 := Q.c1
          refine bodyPost_ret (v := .tuple #[.agg #[.int .i64 0, .slice none 0 0], .int .i64 0, .int .i64 4]) (by simp [results, Tryd.results67, go_sem, y0, y1]) rfl ?_
          refine (show RunR (runM cs N (k : Int) zs) w _ _ from ?_)
          rw [HR.out]
          exact ⟨none, 0, rfl, RdI.nil _ _, Nat.le_refl _, by omega, bel_set (bel_set E.out.ms.below (p := ⟨g + 1 + 1, 0, none⟩) (by have := E.out.ms.ge; show w.heap.size ≤ g + 1 + 1; omega) _) (p := ⟨g + 1 + 1, 1, none⟩) (by have := E.out.ms.ge; show w.heap.size ≤ g + 1 + 1; omega) _, fun a h => by cases h⟩
        | true =>
          have HOK := Lib.hid hok
          have HS := Lib.hid (show stepM cs (a : Int) ys = (advAt x ys, advZs x ys, 0) by rw [HSM.out, hok]; simp)
          rw [HS.out] at h1 h2 ⊢
          simp only at h1 h2 ⊢
          obtain ⟨a0, ha0⟩ := Int.eq_ofNat_of_zero_le (adv_at_bounds HQ.out (by rw [← HX.out]; exact hen)).1
          rw [← HX.out] at ha0
          rw [ha0]
          have HI2 := Lib.hid (show Iter cs (j + 1) (k : Int) zs (a0 : Int) (advZs x ys) from ⟨(a : Int), ys, HIT.out, by rw [Int.toNat_natCast, ← HX.out]; exact hen, by rw [Int.toNat_natCast, ← HX.out]; exact hok, by rw [Int.toNat_natCast, ← HX.out, ← ha0], by rw [Int.toNat_natCast, ← HX.out]⟩)
          obtain ⟨vz, hvz⟩ : ∃ v, v = advZs x ys := ⟨_, rfl⟩
          rw [← hvz] at HI2 h1 h2 ⊢
          have H23 := Lib.hid (And.intro h2 h3)
          have HB3 := Lib.hid (show ∀ y, A3 = some y → y.block ≠ g + 1 from fun y hy => by have := hfr y hy; omega)
          have HB4 := Lib.hid (show ∀ y, A3 = some y → y.block ≠ g + 1 + 1 ∧ w.heap.size ≤ y.block from fun y hy => by have := hfr y hy; have := E.out.ms.ge; omega)
          have HRI := Lib.hid h1
          clear hen hok hb h1 h2 h3 hfr hgl HSM HS ha0 hvz
          have hb2 := bel_alloc w3 (.cells #[.int .i64 (a0 : Int), .slice A3 vz.length c3] 46)
          have XN := Lib.hid (BxS.new w3 (a0 : Int) A3 vz.length c3)
          replace E := Lib.hid (E.out.next hb2)
          replace HRI := Lib.hid (HRI.out.below hb2)
          skip
          clear hb2
          go_upto_region 6 with (fail)
          generalize w3.alloc (.cells #[.int .i64 (a0 : Int), .slice A3 vz.length c3] 46) = W3 at E HRI XN ⊢
          generalize w3.heap.size = g3 at XN ⊢
          have E3 := Lib.hid (E.out.put HC0.out (a' := (a0 : Int)) (d' := c3) HRI.out HB3.out)
          have z0 := XN.out.c0
          have z1 := XN.out.c1
          have s0 := E.out.ms.bs.c0
          have s1 := E.out.ms.bs.c1
          have f0 := E.out.ms.bs.f0
          have f1 := E.out.ms.bs.f1
          go_wp2
          go_roundw
          case measure => simp [intOf]; omega
          case rel => exact ⟨j + 1, a0, vz, A3, c3, by go_num, by omega, HI2.out, E3.out, H23.out.1, H23.out.2, HB4.out⟩
    · have e : j = N := by omega
      subst e
      have HR := Lib.hid (show runM cs j (k : Int) zs = ⟨(a : Int), ys, j, false⟩ by
          have e2 := run_iter 0 HIT.out
          rw [Nat.add_zero] at e2
          rw [e2]
          simp [runM])
      obtain ⟨m0, m1, s0, s1⟩ := E.out.cells
      have r0 := E.out.xr.c0
      have r1 := E.out.xr.c1
      have e0 := E.out.xr.f0
      have e1 := E.out.xr.f1
      go_wp2
      have Q := E.out.xr.put (a : Int) A2 ys.length c2
      have y0 := Q.c0
      have y1 := Q.c1
      refine bodyPost_ret (v := .tuple #[.agg #[.int .i64 (a : Int), .slice A2 ys.length c2], .int .i64 (j : Int), .int .i64 0]) (by simp [results, Tryd.results67, go_sem, y0, y1]) rfl ?_
      refine (show RunR (runM cs j (k : Int) zs) w _ _ from ?_)
      rw [HR.out]
      exact ⟨A2, c2, rfl, rd_out E.out.ms.ri (fun y hy => (HBB.out y hy).1), HCC.out.1, HCC.out.2, bel_set (bel_set E.out.ms.below (p := ⟨g + 1 + 1, 0, none⟩) (by have := E.out.ms.ge; show w.heap.size ≤ g + 1 + 1; omega) _) (p := ⟨g + 1 + 1, 1, none⟩) (by have := E.out.ms.ge; show w.heap.size ≤ g + 1 + 1; omega) _, fun y hy => (HBB.out y hy).2⟩
end Go.Proofs.YthjdnidapbhdlaaDoor

import Derived.Test.YtbblckaplddggaaDj
import Derived.Test.YtbblckaplddggaaDe
import Derived.Test.YtbblckaplddggaaMt
import Derived.Deep.DeepCutAuto
set_option maxRecDepth 100000
namespace Go.Proofs.Ytbblckaplddggaa
open Go.RowKit Go.Shelf
/-- rests of chi and psi, with no error -/
def RestsRef (a m : Int) (N : Nat) (w : World) (e : Ending) (w' : World) : Prop :=
  ∃ (t : Bool) (A : Option Addr) (n c : Nat) (t' : Bool) (A' : Option Addr) (n' c' : Nat), e = .returned (.tuple #[.agg #[.bool t, .slice A n c], .agg #[.bool t', .slice A' n' c']]) ∧ Below w.heap.size w w' ∧ Is w' (chi a N % m) t A n c ∧ Is w' (psi a N % m) t' A' n' c'
theorem even_chi (a m : Int) (k : Nat) : (chi a k % m * (chi a k % m) + (a * a - 1) % m * (psi a k % m * (psi a k % m))) % m = chi a (2 * k) % m := by
  refine Cg.eq ?_
  have h : chi a (2 * k) = chi a k * chi a k + (a * a - 1) * (psi a k * psi a k) := by rw [show 2 * k = k + k by omega]; exact (both_add a k k).2
  rw [h]
  exact ((cg_mod _ _).mul (cg_mod _ _)).add ((cg_mod _ _).mul ((cg_mod _ _).mul (cg_mod _ _)))
theorem even_psi (a m : Int) (k : Nat) : ((chi a k % m + chi a k % m) * (psi a k % m)) % m = psi a (2 * k) % m := by
  refine Cg.eq ?_
  have h : psi a (2 * k) = (chi a k + chi a k) * psi a k := by rw [psi_dbl]; grind
  rw [h]
  exact ((cg_mod _ _).add (cg_mod _ _)).mul (cg_mod _ _)
theorem odd_chi (a m : Int) (k : Nat) : (a % m * (chi a k % m) + (a * a - 1) % m * (psi a k % m)) % m = chi a (k + 1) % m := by
  refine Cg.eq ?_
  rw [chi_succ]
  exact ((cg_mod _ _).mul (cg_mod _ _)).add ((cg_mod _ _).mul (cg_mod _ _))
theorem odd_psi (a m : Int) (k : Nat) : (chi a k % m + a % m * (psi a k % m)) % m = psi a (k + 1) % m := by
  refine Cg.eq ?_
  rw [psi_succ]
  exact (cg_mod _ _).add ((cg_mod _ _).mul (cg_mod _ _))
theorem Rt.far {w W : World} {ga : Nat} {a : Int} {t : Bool} {A : Option Addr} {n c : Nat} {m : Int} {t' : Bool} {A' : Option Addr} {n' c' : Nat} (h : Rt w W ga a t A n c m t' A' n' c') {g : Nat} (hg : ga + 1 + 1 + 1 < g) {x : Bool} {b : Option Addr} {i j : Nat} (p0 : W.cell? ⟨g, 0, none⟩ = some (.bool x)) (p1 : W.cell? ⟨g, 1, none⟩ = some (.slice b i j)) (u : Bool) (B : Option Addr) (k l : Nat) : Rt w ((W.setCell ⟨g, 0, none⟩ (.bool u)).setCell ⟨g, 1, none⟩ (.slice B k l)) ga a t A n c m t' A' n' c' :=
  ⟨below_store h.below (by have := h.ge; omega) _ _, h.ge, h.ba.far (by omega) p0 p1 _ _, h.bm.far (by omega) p0 p1 _ _, h.r6.far (by omega) p0 p1 _ _, h.r7.far (by omega) p0 p1 _ _⟩
set_option maxHeartbeats 16000000 in
theorem refRests_zero {w : World} {a : Int} {t : Bool} {A : Option Addr} {n c : Nat} {m : Int} {t' : Bool} {A' : Option Addr} {n' c' : Nat} (h : Is w a t A n c) (h' : Is w m t' A' n' c') (hm : 0 < m) (hs : Sz a 4096) (hs' : Sz m 4096) :
    Calls Try.prog 28 #[.agg #[.bool t, .slice A n c], .int .i64 0, .agg #[.bool t', .slice A' n' c']] w (RestsRef a m 0 w) := by
  have E := Lib.hid (Rt.start h h')
  have HM := Lib.hid (And.intro hm (show m ≠ 0 by omega))
  have HS := Lib.hid (And.intro hs hs')
  clear h h' hm hs hs'
  go_enter Try.func28, Try.ntmps28
  go_upto_region 1 with (fail)
  generalize (((w.alloc (.cells #[.bool t, .slice A n c] 24)).alloc (.cells #[.bool t', .slice A' n' c'] 24)).alloc (.cells #[.bool false, .slice none 0 0] 24)).alloc (.cells #[.bool false, .slice none 0 0] 24) = W0 at E ⊢
  obtain ⟨ga, hga⟩ : ∃ g, g = w.heap.size := ⟨_, rfl⟩
  rw [← hga] at E ⊢
  clear hga
  go_upto_region 2 with (fail)
  have P := Lib.hid E.out.below
  have Xm := Lib.hid E.out.bm
  have R6 := Lib.hid E.out.r6
  have R7 := Lib.hid E.out.r7
  have HG := Lib.hid E.out.ge
  clear E
  refine wp_region_tail (S := (fun w' => w'.cell? ⟨ga + 1, 0, none⟩ = some (.bool t') ∧ w'.cell? ⟨ga + 1, 1, none⟩ = some (.slice A' n' c'))) 5 (by kernel_rfl) (by kernel_rfl) (by intro c a d v w h; cases d <;> exact h) ⟨cell_dr Xm.out.c0, cell_dr Xm.out.c1⟩ (fun QT hT hP hHeld => ?_)
  simp only [List.extract_toArray, List.extract_eq_take_drop, List.drop_zero, Nat.sub_zero, List.take_succ_cons, List.take_zero]
  have HT := Lib.hid hT
  clear hT
  replace P := Lib.hid (P.out.trans ((Below.refl W0.heap.size W0).drew.mono P.out.size))
  replace Xm := Lib.hid (Xm.out.next (Below.refl W0.heap.size W0).drew)
  replace R6 := Lib.hid (R6.out.next (Below.refl W0.heap.size W0).drew)
  replace R7 := Lib.hid (R7.out.next (Below.refl W0.heap.size W0).drew)
  generalize W0.drew = D1 at P Xm R6 R7 hHeld ⊢
  refine take_on (i := 1) (d := (some 17)) (v := ?v1) rfl rfl (by kernel_rfl) (by kernel_rfl) (by kernel_rfl) (fun c a w h => hP c a _ _ w h) (by rfl) ?h1 (by assumption) ?r1
  case h1 => intro w hSw; obtain ⟨h0, h1⟩ := hSw; go_simp; rfl
  simp only [Act.put, List.setIfInBounds_toArray, List.set_cons_zero, List.set_cons_succ]
  refine take_on (i := 3) (d := (some 19)) (v := ?v2) rfl rfl (by kernel_rfl) (by kernel_rfl) (by kernel_rfl) (fun c a w h => hP c a _ _ w h) (by rfl) ?h2 (by assumption) ?r2
  case h2 => intro w hSw; obtain ⟨h0, h1⟩ := hSw; go_simp; rfl
  simp only [Act.put, List.setIfInBounds_toArray, List.set_cons_zero, List.set_cons_succ]
  refine wpAnyH_ready (rs := [0]) (by kernel_rfl) (by simp) ?_
  refine AllReadyH.cons rfl (fun K hK => ?_) AllReadyH.nil
  go_simp
  refine (refOfV 1 _ (by omega) (by omega)).mono ?_
  rintro e w2 ⟨t20, A20, n20, c20, rfl, i20, hb⟩
  replace P := Lib.hid (P.out.trans (hb.mono P.out.size))
  replace Xm := Lib.hid (Xm.out.next hb)
  replace R6 := Lib.hid (R6.out.next hb)
  replace R7 := Lib.hid (R7.out.next hb)
  have J0 := Lib.hid (i20.is)
  clear hb hHeld i20
  refine hK.out _ _ ⟨Xm.out.c0, Xm.out.c1⟩ (fun hHeld => ?_)
  clear hK K
  refine wpAnyH_ready (rs := [2]) (by kernel_rfl) (by simp) ?_
  refine AllReadyH.cons rfl (fun K hK => ?_) AllReadyH.nil
  go_simp
  refine (rest_c J0.out Xm.out.is HM.out.2 (Nat.le_trans (J0.out.len (sz_one' (Nat.le_refl 1))) (by omega)) (Nat.le_trans (Xm.out.is.len HS.out.2) (by omega))).mono ?_
  rintro e w3 ⟨t21, A21, n21, c21, rfl, i21, hb⟩
  replace P := Lib.hid (P.out.trans (hb.mono P.out.size))
  replace Xm := Lib.hid (Xm.out.next hb)
  replace R6 := Lib.hid (R6.out.next hb)
  replace R7 := Lib.hid (R7.out.next hb)
  replace J0 := Lib.hid (J0.out.below hb)
  have J1 := Lib.hid (i21)
  clear hb hHeld i21
  refine hK.out _ _ ⟨Xm.out.c0, Xm.out.c1⟩ (fun hHeld => ?_)
  clear hK K
  refine wpAnyH_ready (rs := [4]) (by kernel_rfl) (by simp) ?_
  refine AllReadyH.cons rfl (fun K hK => ?_) AllReadyH.nil
  have r0 := R6.out.c0
  have r1 := R6.out.c1
  have r2 := R6.out.f0
  have r3 := R6.out.f1
  go_simp
  have p0 := R6.out.c0
  have p1 := R6.out.c1
  clear hHeld
  replace P := Lib.hid (below_store P.out (show w.heap.size ≤ ga + 1 + 1 by have := HG.out; omega) (.bool t21) (.slice A21 n21 c21))
  replace Xm := Lib.hid (Xm.out.far (show ga + 1 + 1 ≠ ga + 1 by omega) p0 p1 (.bool t21) (.slice A21 n21 c21))
  replace R7 := Lib.hid (R7.out.far (show ga + 1 + 1 ≠ ga + 1 + 1 + 1 by omega) p0 p1 (.bool t21) (.slice A21 n21 c21))
  replace R6 := Lib.hid (R6.out.put J1.out)
  clear p0 p1 J0 J1 r0 r1 r2 r3
  generalize (w3.setCell ⟨ga + 1 + 1, 0, none⟩ (.bool t21)).setCell ⟨ga + 1 + 1, 1, none⟩ (.slice A21 n21 c21) = U4 at P Xm R6 R7 ⊢
  refine hK.out _ _ ⟨Xm.out.c0, Xm.out.c1⟩ (fun hHeld => ?_)
  clear hK K
  clear hHeld
  refine wpAnyH_done (by kernel_rfl) ?_ _
  refine HT.out _ _ ?_
  clear HT hP QT
  have r0 := R7.out.c0
  have r1 := R7.out.c1
  have r2 := R7.out.f0
  have r3 := R7.out.f1
  refine wpList_step fun K hK => ?_
  go_simp
  refine hK _ _ ?_
  clear hK K
  refine wpList_nil ?_
  go_wp2
  have Q6 := R6.out.far (show ga + 1 + 1 + 1 ≠ ga + 1 + 1 by omega) r0 r1 (.bool false) (.slice none 0 0)
  have Q7 := R7.out.put (is_zero8 U4)
  have y0 := Q6.c0
  have y1 := Q6.c1
  have y2 := Q7.c0
  have y3 := Q7.c1
  refine bodyPost_ret (v := .tuple #[.agg #[.bool t21, .slice A21 n21 c21], .agg #[.bool false, .slice none 0 0]]) (by simp [results, Try.results28, go_sem, y0, y1, y2, y3]) rfl ?_
  exact ⟨_, _, _, _, _, _, _, _, rfl, below_store P.out (show w.heap.size ≤ ga + 1 + 1 + 1 by have := HG.out; omega) _ _, by rw [show chi a 0 = 1 from rfl]; exact Q6.is, by rw [show psi a 0 = 0 from rfl, Int.zero_emod]; exact Q7.is⟩
end Go.Proofs.Ytbblckaplddggaa

import Derived.Test.YteabokkofoomkaaGreatCbf
import Derived.Test.YteabokkofoomkaaGreatCbk
/- what the first example says -/
set_option maxRecDepth 100000
namespace Go.Proofs.YteabokkofoomkaaGreat
open Go.RowKit Go.Shelf Go.Deep
def pns (y : Int) : List Nmr := [nmOf 3, nmOf y]
theorem pow_valid : validS 2 powL = true := by kernel_rfl
theorem pow_all8 : allB (pns 8) = true := by kernel_rfl
theorem pow_all9 : allB (pns 9) = true := by kernel_rfl
theorem pow_nat8 : natB (pns 8) = true := by kernel_rfl
theorem pow_nat9 : natB (pns 9) = true := by kernel_rfl
theorem pow_yes : holdsB powL (pns 8) = true := by kernel_rfl
theorem pow_no : holdsB powL (pns 9) = false := by kernel_rfl
def allMost (ls : List Lnk) (ns : List Nmr) (T : Nat) : Bool := ls.all fun l => l.ps.all fun p => decide (allV p.ts (ownOf l.vs ns) p.ts.length ≤ T)
theorem pow_most8 : allMost powL (pns 8) 100 = true := by kernel_rfl
theorem pow_most9 : allMost powL (pns 9) 100 = true := by kernel_rfl
theorem pow_counts : cntL powL 0 powL.length = 0 ∧ cntL powL 1 powL.length = 0 ∧ cntL powL 2 powL.length = 1 ∧ cntL powL 3 powL.length = 0 ∧ degL powL powL.length = 0 := ⟨by kernel_rfl, by kernel_rfl, by kernel_rfl, by kernel_rfl, by kernel_rfl⟩
theorem most_at {ls : List Lnk} {ns : List Nmr} {T : Nat} (h : allMost ls ns T = true) : ∀ i, i < ls.length → ∀ j, j < (lnkAt ls i).ps.length → allV (plyAt (lnkAt ls i).ps j).ts (ownOf (lnkAt ls i).vs ns) (plyAt (lnkAt ls i).ps j).ts.length ≤ T := by
  intro i hi j hj
  have e1 : lnkAt ls i ∈ ls := by
    unfold lnkAt
    rw [List.getD_eq_getElem?_getD, List.getElem?_eq_getElem hi]
    exact List.getElem_mem hi
  have h2 := List.all_eq_true.1 h _ e1
  have e2 : plyAt (lnkAt ls i).ps j ∈ (lnkAt ls i).ps := by
    unfold plyAt
    rw [List.getD_eq_getElem?_getD, List.getElem?_eq_getElem hj]
    exact List.getElem_mem hj
  exact of_decide_eq_true (List.all_eq_true.1 h2 _ e2)
theorem small_T {k : Int} {T : Nat} (h : St T k) (hT : T < 4294967296) : k = 0 := by
  rcases h with h | ⟨_, h⟩
  · exact h
  · have h1 := pw_le (m := 1) (n := 4096) (by omega)
    rw [pw_one] at h1
    omega
end Go.Proofs.YteabokkofoomkaaGreat
/- awake of stage 9 -/
set_option maxRecDepth 100000
namespace Go.Proofs.YteabokkofoomkaaGreat
open Go.RowKit Go.Shelf Go.Deep
abbrev row2 (t : Bool) (A : Option Addr) (n c : Nat) (t' : Bool) (A' : Option Addr) (n' c' : Nat) : Obj := .cells #[.bool t, .slice A n c, .bool t', .slice A' n' c'] 58
theorem rdN_two {W : World} {z z' : Int} {t t' : Bool} {A A' : Option Addr} {n c n' c' : Nat} (h : Is W z t A n c) (h' : Is W z' t' A' n' c') : RdN (W.alloc (row2 t A n c t' A' n' c')) (some ⟨W.heap.size, 0, none⟩) 2 [nmOf z, nmOf z'] := by
  have hb := bel_alloc W (row2 t A n c t' A' n' c')
  refine ⟨rfl, fun _ => ⟨W.heap.size, 0, rfl, by simp, fun k hk => ?_⟩⟩
  rcases (show k = 0 ∨ k = 1 by omega) with rfl | rfl
  · refine ⟨A, n, c, ?_, ?_, h.2.2.1.below hb, h.2.2.2.1, h.2.2.2.2⟩
    · show _ = some (Value.bool (decide (z < 0)))
      rw [← h.1]; go_simp
    · go_simp
  · refine ⟨A', n', c', ?_, ?_, h'.2.2.1.below hb, h'.2.2.2.1, h'.2.2.2.2⟩
    · show _ = some (Value.bool (decide (z' < 0)))
      rw [← h'.1]; go_simp
    · go_simp
set_option maxHeartbeats 8000000 in
theorem awake9_c (w : World) : Calls Tryz.prog 9 #[] w (IsB true w) := by
  have P := Lib.hid (Below.refl w.heap.size w)
  go_enter Tryz.func9, Tryz.ntmps9
  go_wp2_with fail
  refine (powers_c _).mono ?_
  rintro e w11 ⟨A, n, c, rfl, hL, hn, hc, hb⟩
  replace P := Lib.hid (P.out.trans (hb.mono P.out.size))
  have RL := Lib.hid hL
  have HN := Lib.hid (And.intro hn hc)
  clear hb hL hn hc
  go_wp2_with fail
  refine (rofZ 3 _ (by omega) (by omega)).mono ?_
  rintro e w12 ⟨t1, A1, n1, c1, rfl, hi, hb⟩
  replace P := Lib.hid (P.out.trans (hb.mono P.out.size))
  replace RL := Lib.hid (RL.out.below hb)
  have I1 := Lib.hid hi
  clear hb hi
  go_wp2_with fail
  refine (rofZ 8 _ (by omega) (by omega)).mono ?_
  rintro e w13 ⟨t2, A2, n2, c2, rfl, hi, hb⟩
  replace P := Lib.hid (P.out.trans (hb.mono P.out.size))
  replace RL := Lib.hid (RL.out.below hb)
  replace I1 := Lib.hid (I1.out.below hb)
  have I2 := Lib.hid hi
  clear hb hi
  have k1 := bel_alloc w13 (row2 t1 A1 n1 c1 t2 A2 n2 c2)
  have RX := Lib.hid (rdN_two I1.out I2.out)
  replace P := Lib.hid (P.out.trans (k1.mono P.out.size))
  replace RL := Lib.hid (RL.out.below k1)
  clear k1 I1 I2
  go_wp2_with fail
  generalize w13.alloc (row2 t1 A1 n1 c1 t2 A2 n2 c2) = W1 at RX P RL ⊢
  generalize w13.heap.size = gx1 at RX ⊢
  refine (sysHolds_c 100 2 A n c powL (some ⟨gx1, 0, none⟩) 2 2 (pns 8) _ RL.out RX.out (by omega) (fun _ _ => most_at pow_most8)).mono ?_
  rintro e w14 hH
  obtain ⟨r1, k1, rfl, hst, hr, hr2, hb⟩ := hH.val (by rw [pow_valid, pow_all8]; rfl) rfl pow_nat8
  obtain rfl := small_T hst (by omega)
  have hr3 := hr rfl
  rw [pow_yes] at hr3
  subst hr3
  replace P := Lib.hid (P.out.trans (hb.mono P.out.size))
  clear hb hst hr hr2 RL RX hH HN
  go_wp2_with fail
  refine (powers_c _).mono ?_
  rintro e w21 ⟨A, n, c, rfl, hL, hn, hc, hb⟩
  replace P := Lib.hid (P.out.trans (hb.mono P.out.size))
  have RL := Lib.hid hL
  have HN := Lib.hid (And.intro hn hc)
  clear hb hL hn hc
  go_wp2_with fail
  refine (rofZ 3 _ (by omega) (by omega)).mono ?_
  rintro e w22 ⟨t1, A1, n1, c1, rfl, hi, hb⟩
  replace P := Lib.hid (P.out.trans (hb.mono P.out.size))
  replace RL := Lib.hid (RL.out.below hb)
  have I1 := Lib.hid hi
  clear hb hi
  go_wp2_with fail
  refine (rofZ 9 _ (by omega) (by omega)).mono ?_
  rintro e w23 ⟨t2, A2, n2, c2, rfl, hi, hb⟩
  replace P := Lib.hid (P.out.trans (hb.mono P.out.size))
  replace RL := Lib.hid (RL.out.below hb)
  replace I1 := Lib.hid (I1.out.below hb)
  have I2 := Lib.hid hi
  clear hb hi
  have k1 := bel_alloc w23 (row2 t1 A1 n1 c1 t2 A2 n2 c2)
  have RX := Lib.hid (rdN_two I1.out I2.out)
  replace P := Lib.hid (P.out.trans (k1.mono P.out.size))
  replace RL := Lib.hid (RL.out.below k1)
  clear k1 I1 I2
  go_wp2_with fail
  generalize w23.alloc (row2 t1 A1 n1 c1 t2 A2 n2 c2) = W2 at RX P RL ⊢
  generalize w23.heap.size = gx2 at RX ⊢
  refine (sysHolds_c 100 2 A n c powL (some ⟨gx2, 0, none⟩) 2 2 (pns 9) _ RL.out RX.out (by omega) (fun _ _ => most_at pow_most9)).mono ?_
  rintro e w24 hH
  obtain ⟨r2, k2, rfl, hst, hr, hr2, hb⟩ := hH.val (by rw [pow_valid, pow_all9]; rfl) rfl pow_nat9
  obtain rfl := small_T hst (by omega)
  have hr3 := hr rfl
  rw [pow_no] at hr3
  subst hr3
  replace P := Lib.hid (P.out.trans (hb.mono P.out.size))
  clear hb hst hr hr2 RL RX hH HN
  go_wp2_with fail
  refine (powers_c _).mono ?_
  rintro e w5 ⟨A, n, c, rfl, hL, hn, hc, hb⟩
  replace P := Lib.hid (P.out.trans (hb.mono P.out.size))
  have RL := Lib.hid hL
  clear hb hL hn hc
  go_wp2_with fail
  refine (sysCounts_c 2 A n c powL _ RL.out).mono ?_
  rintro e w6 hC
  obtain ⟨-, rfl, hb⟩ := hC.resolve_right (fun q => by have := q.1; rw [pow_valid] at this; cases this)
  replace P := Lib.hid (P.out.trans (hb.mono P.out.size))
  clear hb RL hC
  rw [pow_counts.1, pow_counts.2.1, pow_counts.2.2.1, pow_counts.2.2.2.1, pow_counts.2.2.2.2]
  have k1 := bel_alloc w6 (.cells #[.int .i64 2, .int .i64 0, .int .i64 0, .int .i64 1, .int .i64 0, .int .i64 0] 29)
  replace P := Lib.hid (P.out.trans (k1.mono P.out.size))
  clear k1
  go_wp2
  go_ret
  exact ⟨rfl, P.out⟩
end Go.Proofs.YteabokkofoomkaaGreat

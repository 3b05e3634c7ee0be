import Derived.Test.YteabokkofoomkaaGreatCbe
import Derived.Test.YteabokkofoomkaaGreatCbn
import Derived.Test.YteabokkofoomkaaGreatCak
import Derived.Test.YteabokkofoomkaaGreatCbf
import Derived.Test.YteabokkofoomkaaGreatCbl
set_option maxRecDepth 100000
namespace Go.Proofs.YteabokkofoomkaaGreat
open Go.RowKit Go.Shelf Go.Deep
def pns (y : Int) : List Nmr := [nmOf 3, nmOf y]
theorem pow_valid : validS 2 powL = true := by kernel_rfl
theorem pow_all8 : allB (pns 8) = true := by kernel_rfl
theorem pow_all9 : allB (pns 9) = true := by kernel_rfl
theorem pow_nat8 : natB (pns 8) = true := by kernel_rfl
theorem pow_nat9 : natB (pns 9) = true := by kernel_rfl
theorem pow_yes : holdsB powL (pns 8) = true := by kernel_rfl
theorem pow_no : holdsB powL (pns 9) = false := by kernel_rfl
def allMost (ls : List Lnk) (ns : List Nmr) (T : Nat) : Bool := ls.all fun l => l.ps.all fun p => decide (allV p.ts (ownOf l.vs ns) p.ts.length ≤ T)
theorem pow_most8 : allMost powL (pns 8) 100 = true := by kernel_rfl
theorem pow_most9 : allMost powL (pns 9) 100 = true := by kernel_rfl
theorem pow_counts : cntL powL 0 powL.length = 0 ∧ cntL powL 1 powL.length = 0 ∧ cntL powL 2 powL.length = 1 ∧ cntL powL 3 powL.length = 0 ∧ degL powL powL.length = 0 := ⟨by kernel_rfl, by kernel_rfl, by kernel_rfl, by kernel_rfl, by kernel_rfl⟩
theorem most_at {ls : List Lnk} {ns : List Nmr} {T : Nat} (h : allMost ls ns T = true) : ∀ i, i < ls.length → ∀ j, j < (lnkAt ls i).ps.length → allV (plyAt (lnkAt ls i).ps j).ts (ownOf (lnkAt ls i).vs ns) (plyAt (lnkAt ls i).ps j).ts.length ≤ T := by
 intro i hi j hj
 have e1 : lnkAt ls i ∈ ls := by
  unfold lnkAt
  rw [List.getD_eq_getElem?_getD, List.getElem?_eq_getElem hi]
  exact List.getElem_mem hi
 have h2 := List.all_eq_true.1 h _ e1
 have e2 : plyAt (lnkAt ls i).ps j ∈ (lnkAt ls i).ps := by
  unfold plyAt
  rw [List.getD_eq_getElem?_getD, List.getElem?_eq_getElem hj]
  exact List.getElem_mem hj
 exact of_decide_eq_true (List.all_eq_true.1 h2 _ e2)
theorem small_T {k : Int} {T : Nat} (h : St T k) (hT : T < 4294967296) : k = 0 := by
 rcases h with h | ⟨_, h⟩
 · exact h
 · have h1 := pw_le (m := 1) (n := 4096) (by omega)
   rw [pw_one] at h1
   omega
abbrev row2 (t : Bool) (A : Option Addr) (n c : Nat) (t' : Bool) (A' : Option Addr) (n' c' : Nat) : Obj := .cells #[.bool t, .slice A n c, .bool t', .slice A' n' c'] 58
theorem rdN_two {W : World} {z z' : Int} {t t' : Bool} {A A' : Option Addr} {n c n' c' : Nat} (h : Is W z t A n c) (h' : Is W z' t' A' n' c') : RdN (W.alloc (row2 t A n c t' A' n' c')) (some ⟨W.heap.size, 0, none⟩) 2 [nmOf z, nmOf z'] := by
 have hb := bel_alloc W (row2 t A n c t' A' n' c')
 refine ⟨rfl, fun _ => ⟨W.heap.size, 0, rfl, by simp, fun k hk => ?_⟩⟩
 rcases (show k = 0 ∨ k = 1 by omega) with rfl | rfl
 · refine ⟨A, n, c, ?_, ?_, h.2.2.1.below hb, h.2.2.2.1, h.2.2.2.2⟩
   · show _ = some (Value.bool (decide (z < 0)))
     rw [← h.1]; go_simp
   · go_simp
 · refine ⟨A', n', c', ?_, ?_, h'.2.2.1.below hb, h'.2.2.2.1, h'.2.2.2.2⟩
   · show _ = some (Value.bool (decide (z' < 0)))
     rw [← h'.1]; go_simp
   · go_simp
set_option maxHeartbeats 8000000 in
theorem awake9_c (w : World) : Calls Tryz.prog 9 #[] w (IsB true w) := by
 have P := Lib.hid (Below.refl w.heap.size w)
 go_enter Tryz.func9, Tryz.ntmps9
 go_wp2_with fail
 refine (powers_c _).mono ?_
 rintro e w11 ⟨A, n, c, rfl, hL, hn, hc, hb⟩
 replace P := Lib.hid (P.out.trans (hb.mono P.out.size))
 have RL := Lib.hid hL
 have HN := Lib.hid (And.intro hn hc)
 clear hb hL hn hc
 go_wp2_with fail
 refine (rofZ 3 _ (by omega) (by omega)).mono ?_
 rintro e w12 ⟨t1, A1, n1, c1, rfl, hi, hb⟩
 replace P := Lib.hid (P.out.trans (hb.mono P.out.size))
 replace RL := Lib.hid (RL.out.below hb)
 have I1 := Lib.hid hi
 clear hb hi
 go_wp2_with fail
 refine (rofZ 8 _ (by omega) (by omega)).mono ?_
 rintro e w13 ⟨t2, A2, n2, c2, rfl, hi, hb⟩
 replace P := Lib.hid (P.out.trans (hb.mono P.out.size))
 replace RL := Lib.hid (RL.out.below hb)
 replace I1 := Lib.hid (I1.out.below hb)
 have I2 := Lib.hid hi
 clear hb hi
 have k1 := bel_alloc w13 (row2 t1 A1 n1 c1 t2 A2 n2 c2)
 have RX := Lib.hid (rdN_two I1.out I2.out)
 replace P := Lib.hid (P.out.trans (k1.mono P.out.size))
 replace RL := Lib.hid (RL.out.below k1)
 clear k1 I1 I2
 go_wp2_with fail
 generalize w13.alloc (row2 t1 A1 n1 c1 t2 A2 n2 c2) = W1 at RX P RL ⊢
 generalize w13.heap.size = gx1 at RX ⊢
 refine (sysHolds_c 100 2 A n c powL (some ⟨gx1, 0, none⟩) 2 2 (pns 8) _ RL.out RX.out (by omega) (fun _ _ => most_at pow_most8)).mono ?_
 rintro e w14 hH
 obtain ⟨r1, k1, rfl, hst, hr, hr2, hb⟩ := hH.val (by rw [pow_valid, pow_all8]; rfl) rfl pow_nat8
 obtain rfl := small_T hst (by omega)
 have hr3 := hr rfl
 rw [pow_yes] at hr3
 subst hr3
 replace P := Lib.hid (P.out.trans (hb.mono P.out.size))
 clear hb hst hr hr2 RL RX hH HN
 go_wp2_with fail
 refine (powers_c _).mono ?_
 rintro e w21 ⟨A, n, c, rfl, hL, hn, hc, hb⟩
 replace P := Lib.hid (P.out.trans (hb.mono P.out.size))
 have RL := Lib.hid hL
 have HN := Lib.hid (And.intro hn hc)
 clear hb hL hn hc
 go_wp2_with fail
 refine (rofZ 3 _ (by omega) (by omega)).mono ?_
 rintro e w22 ⟨t1, A1, n1, c1, rfl, hi, hb⟩
 replace P := Lib.hid (P.out.trans (hb.mono P.out.size))
 replace RL := Lib.hid (RL.out.below hb)
 have I1 := Lib.hid hi
 clear hb hi
 go_wp2_with fail
 refine (rofZ 9 _ (by omega) (by omega)).mono ?_
 rintro e w23 ⟨t2, A2, n2, c2, rfl, hi, hb⟩
 replace P := Lib.hid (P.out.trans (hb.mono P.out.size))
 replace RL := Lib.hid (RL.out.below hb)
 replace I1 := Lib.hid (I1.out.below hb)
 have I2 := Lib.hid hi
 clear hb hi
 have k1 := bel_alloc w23 (row2 t1 A1 n1 c1 t2 A2 n2 c2)
 have RX := Lib.hid (rdN_two I1.out I2.out)
 replace P := Lib.hid (P.out.trans (k1.mono P.out.size))
 replace RL := Lib.hid (RL.out.below k1)
 clear k1 I1 I2
 go_wp2_with fail
 generalize w23.alloc (row2 t1 A1 n1 c1 t2 A2 n2 c2) = W2 at RX P RL ⊢
 generalize w23.heap.size = gx2 at RX ⊢
 refine (sysHolds_c 100 2 A n c powL (some ⟨gx2, 0, none⟩) 2 2 (pns 9) _ RL.out RX.out (by omega) (fun _ _ => most_at pow_most9)).mono ?_
 rintro e w24 hH
 obtain ⟨r2, k2, rfl, hst, hr, hr2, hb⟩ := hH.val (by rw [pow_valid, pow_all9]; rfl) rfl pow_nat9
 obtain rfl := small_T hst (by omega)
 have hr3 := hr rfl
 rw [pow_no] at hr3
 subst hr3
 replace P := Lib.hid (P.out.trans (hb.mono P.out.size))
 clear hb hst hr hr2 RL RX hH HN
 go_wp2_with fail
 refine (powers_c _).mono ?_
 rintro e w5 ⟨A, n, c, rfl, hL, hn, hc, hb⟩
 replace P := Lib.hid (P.out.trans (hb.mono P.out.size))
 have RL := Lib.hid hL
 clear hb hL hn hc
 go_wp2_with fail
 refine (sysCounts_c 2 A n c powL _ RL.out).mono ?_
 rintro e w6 hC
 obtain ⟨-, rfl, hb⟩ := hC.resolve_right (fun q => by have := q.1; rw [pow_valid] at this; cases this)
 replace P := Lib.hid (P.out.trans (hb.mono P.out.size))
 clear hb RL hC
 rw [pow_counts.1, pow_counts.2.1, pow_counts.2.2.1, pow_counts.2.2.2.1, pow_counts.2.2.2.2]
 have k1 := bel_alloc w6 (.cells #[.int .i64 2, .int .i64 0, .int .i64 0, .int .i64 1, .int .i64 0, .int .i64 0] 29)
 replace P := Lib.hid (P.out.trans (k1.mono P.out.size))
 clear k1
 go_wp2
 go_ret
 exact ⟨rfl, P.out⟩
theorem BxY.off {W : World} {g : Nat} {V : Int} {A : Option Addr} {n c : Nat} (h : BxY W g V A n c) {a : Addr} (hp : a.block ≠ g) (u : Value) : BxY (W.setCell a u) g V A n c :=
 ⟨by rw [World.size_setCell]; exact h.lt, (World.cell?_setCell_other _ _ _ _ (by intro e; subst e; exact hp rfl)).trans h.c0, (World.cell?_setCell_other _ _ _ _ (by intro e; subst e; exact hp rfl)).trans h.c1⟩
def cntA (V : Int) (ls : List Lnk) : Value := .agg #[.int .i64 V, .int .i64 (cntL ls 0 ls.length : Int), .int .i64 (cntL ls 1 ls.length : Int), .int .i64 (cntL ls 2 ls.length : Int), .int .i64 (cntL ls 3 ls.length : Int), .int .i64 (degL ls ls.length)]
set_option maxHeartbeats 8000000 in
theorem refCounts_c (V : Int) (A : Option Addr) (n c : Nat) (ls : List Lnk) (w : World) (h : RdL w A n ls) (hv : validS V ls = true) :
 Calls Tryz.prog 14 #[aggS V A n c] w (fun e w' => e = .returned (cntA V ls) ∧ Below w.heap.size w w') := by
 have k0 := bel_alloc w (boxS V A n c)
 have k1 := bel_alloc (w.alloc (boxS V A n c)) (.cells #[.int .i64 0, .int .i64 0, .int .i64 0, .int .i64 0, .int .i64 0, .int .i64 0] 29)
 have P := Lib.hid (k0.trans (k1.mono k0.size))
 have Y := Lib.hid ((BxY.new w V A n c).next k1)
 have RS := Lib.hid (CB.new (w.alloc (boxS V A n c)) 0 0 0 0 0 0)
 rw [World.size_alloc] at RS
 have HI := Lib.hid h
 have HV := Lib.hid hv
 clear k0 k1 h hv
 go_enter Tryz.func14, Tryz.ntmps14
 go_upto_region 1 with (fail)
 generalize (w.alloc (boxS V A n c)).alloc (.cells #[.int .i64 0, .int .i64 0, .int .i64 0, .int .i64 0, .int .i64 0, .int .i64 0] 29) = W0 at P Y RS ⊢
 obtain ⟨g, hg⟩ : ∃ g, g = w.heap.size := ⟨_, rfl⟩
 have HG := Lib.hid hg
 rw [← hg] at Y RS ⊢
 clear hg
 have HBD := Lib.hid (vs_bounds HV.out)
 have hnn : n ≤ 20000 := by have h1 := HBD.out.2.2; have h2 := HI.out.len; omega
 have a0 := Y.out.c0
 go_upto_region 2 with (fail)
 have k1 := bel_alloc W0 (.cells #[.int .i64 V, .int .i64 0, .int .i64 0, .int .i64 0, .int .i64 0, .int .i64 0] 29)
 have C0 := Lib.hid (CB.new W0 V 0 0 0 0 0)
 have P0 := Lib.hid (P.out.trans (k1.mono P.out.size))
 have Y0 := Lib.hid (Y.out.next k1)
 have R0 := Lib.hid (RS.out.next k1)
 have HGC := Lib.hid (show w.heap.size ≤ W0.heap.size ∧ g + 1 < W0.heap.size from ⟨P.out.size, RS.out.lt⟩)
 clear k1 P Y RS a0
 generalize W0.alloc (.cells #[.int .i64 V, .int .i64 0, .int .i64 0, .int .i64 0, .int .i64 0, .int .i64 0] 29) = W1 at C0 P0 Y0 R0 ⊢
 generalize W0.heap.size = gc at C0 HGC ⊢
 go_wp2
 go_loopw [4] (fun v wr => ∃ j : Nat, v = .int .i64 (j : Int) ∧ j ≤ n ∧ Below w.heap.size w wr ∧ BxY wr g V A n c ∧ CB wr gc V (cntL ls 0 j : Int) (cntL ls 1 j : Int) (cntL ls 2 j : Int) (cntL ls 3 j : Int) (degL ls j) ∧ CB wr (g + 1) 0 0 0 0 0 0) (fun v _ => n - (intOf v).toNat)
 case atStart => exact ⟨0, rfl, Nat.zero_le _, P0.out, Y0.out, C0.out, R0.out⟩
 case round =>
  obtain ⟨j, rfl, hj, hp, hy, hc, hr⟩ := hrel
  clear P0 C0 Y0 R0
  have P2 := Lib.hid hp
  have Y2 := Lib.hid hy
  have C2 := Lib.hid hc
  have R2 := Lib.hid hr
  clear hp hy hc hr
  have a1 := Y2.out.c1
  by_cases hjn : j < n
  · have t1 : decide ((j : Int) < (n : Int)) = true := decide_eq_true (by omega)
    have t1n : decide (j < n) = true := decide_eq_true hjn
    have hjI : (j : Int) < (n : Int) := by omega
    obtain ⟨bL, oL, rfl, hltL, hcL⟩ := HI.out.at_ (by omega)
    obtain ⟨B1, m1, d1, C1, p1, q1, hK⟩ := hcL j hjn
    obtain ⟨l, hl⟩ : ∃ x, x = lnkAt ls j := ⟨_, rfl⟩
    rw [← hl] at hK
    have HLK := Lib.hid hl
    have XK0 := Lib.hid (LkA.mk hltL hK)
    have hlk := vs_at HV.out (k := j) (by have := HI.out.len; omega)
    rw [← hl] at hlk
    obtain ⟨kind, vs, ps⟩ := l
    have RP := Lib.hid (show RdP w C1 p1 ps from hK.rp)
    have HLE := Lib.hid (vl_lens hlk)
    have HPS := Lib.hid (vl_polys hlk)
    have HKD := Lib.hid (show (lnkAt ls j).kind = kind by rw [← hl])
    clear hlk hl hK hcL hltL
    have LW := XK0.out.next P2.out
    have c0 := LW.is.c0
    dsimp only at c0
    clear LW
    have hgc := HGC.out
    have hc0 := cntL_le ls 0 j
    have hc1 := cntL_le ls 1 j
    have hc2 := cntL_le ls 2 j
    have hc3 := cntL_le ls 3 j
    have hcn : ∀ q : Int, cntL ls q (j + 1) = cntL ls q j + (if kind = q then 1 else 0) := fun q => by rw [cntL, HKD.out]
    have hcd : degL ls (j + 1) = if kind = 0 then max (degL ls j) (degP (plyAt (lnkAt ls j).ps 0).ts) else degL ls j := by rw [degL, HKD.out]
    have HCN := Lib.hid (And.intro hcn hcd)
    clear hcn hcd
    rcases (show kind = 0 ∨ kind = 1 ∨ kind = 2 ∨ kind = 3 by have h1 := HLE.out.1; have h2 := HLE.out.2.1; omega) with rfl | rfl | rfl | rfl
    · have C3 := Lib.hid (C2.out.set1 (((cntL ls 0 j : Nat) : Int) + 1))
      have Y3 := Lib.hid (Y2.out.off (a := ⟨gc, 1, none⟩) (by show gc ≠ g; omega) (.int .i64 (((cntL ls 0 j : Nat) : Int) + 1)))
      have R3 := Lib.hid (R2.out.off (p := ⟨gc, 1, none⟩) (by show gc ≠ g + 1; omega) (.int .i64 (((cntL ls 0 j : Nat) : Int) + 1)))
      have P3 := Lib.hid (bel_set6 P2.out (p := ⟨gc, 1, none⟩) hgc.1 (.int .i64 (((cntL ls 0 j : Nat) : Int) + 1)))
      have r0 := C2.out.c1
      have f0 := C2.out.fr 1
      obtain ⟨D, hD⟩ : ∃ D, D = degL ls j := ⟨_, rfl⟩
      have HD := Lib.hid hD
      have hDn := degL_nn ls j
      rw [← hD] at C3 hDn
      clear hD
      have HE := Lib.hid (show ∀ D', D' = max D (degP (plyAt (lnkAt ls j).ps 0).ts) → ∀ W', CB W' gc V (((cntL ls 0 j : Nat) : Int) + 1) (cntL ls 1 j : Int) (cntL ls 2 j : Int) (cntL ls 3 j : Int) D' → CB W' gc V (cntL ls 0 (j + 1) : Int) (cntL ls 1 (j + 1) : Int) (cntL ls 2 (j + 1) : Int) (cntL ls 3 (j + 1) : Int) (degL ls (j + 1)) from by
       intro D' hD' W' hW
       have e0 : ((cntL ls 0 (j + 1) : Nat) : Int) = ((cntL ls 0 j : Nat) : Int) + 1 := by rw [HCN.out.1 0]; simp
       have e1 : ((cntL ls 1 (j + 1) : Nat) : Int) = ((cntL ls 1 j : Nat) : Int) := by rw [HCN.out.1 1]; simp
       have e2 : ((cntL ls 2 (j + 1) : Nat) : Int) = ((cntL ls 2 j : Nat) : Int) := by rw [HCN.out.1 2]; simp
       have e3 : ((cntL ls 3 (j + 1) : Nat) : Int) = ((cntL ls 3 j : Nat) : Int) := by rw [HCN.out.1 3]; simp
       have e5 : degL ls (j + 1) = D' := by rw [HCN.out.2, hD', HD.out]; simp
       rw [e0, e1, e2, e3, e5]
       exact hW)
      clear HCN
      have hps : 0 < p1 := by
       have h1 := HLE.out.2.2.1
       have h2 := RP.out.len
       have h3 : polysOf 0 = 1 := by decide
       omega
      generalize cntL ls 0 j = x0 at C2 r0 C3 Y3 R3 P3 hc0 HE ⊢
      go_upto_region 9 with (fail)
      generalize wr.setCell ⟨gc, 1, none⟩ (.int .i64 ((x0 : Int) + 1)) = W3 at C3 Y3 R3 P3 ⊢
      have RP3 := Lib.hid (RP.out.below P3.out)
      have XK := Lib.hid (XK0.out.next P3.out)
      clear r0 f0 a1 c0 C2 Y2 R2 P2 RP XK0
      have C2 := C3
      have Y2 := Y3
      have R2 := R3
      have P2 := P3
      clear C3 Y3 R3 P3
      obtain ⟨bP, oP, rfl, hltP, hcP⟩ := RP3.out.at_ hps
      obtain ⟨A4, n4, c4, hP⟩ := hcP 0 hps
      have HPL := HPS.out 0 (by have := RP3.out.len; omega)
      have HLP := Lib.hid (show (lnkAt ls j).ps = ps by rw [← HLK.out])
      obtain ⟨pl, hpl⟩ : ∃ x, x = plyAt ps 0 := ⟨_, rfl⟩
      have HPQ := Lib.hid hpl
      rw [← hpl] at hP HPL
      obtain ⟨V', ts⟩ := pl
      have XP := Lib.hid (show PlA W3 bP oP ⟨V', ts⟩ A4 n4 c4 from ⟨hltP, by have h := hP; rwa [Nat.zero_mul, Nat.add_zero] at h⟩)
      have PT := Lib.hid hP.rt
      have HVP := Lib.hid (show validP V' ts = true from HPL.2)
      obtain ⟨dg, hdg⟩ : ∃ dg, dg = degP ts := ⟨_, rfl⟩
      have HDG := Lib.hid hdg
      have HE2 := Lib.hid (show ∀ D', D' = max D dg → D' = max D (degP (plyAt (lnkAt ls j).ps 0).ts) from fun D' h => by rw [HLP.out, ← HPQ.out, h, hdg])
      clear hpl hP hcP HPL hdg HPQ RP3
      refine wp_region_tail (S := (fun w' => w'.cell? ⟨gc, 5, none⟩ = some (.int .i64 D) ∧ w'.cell? ⟨g, 1, none⟩ = some (.slice (some ⟨bL, oL, none⟩) n c) ∧ w'.cell? ⟨bL, (oL + j * 3 + 2), none⟩ = some (.slice (some ⟨bP, oP, none⟩) p1 q1) ∧ w'.cell? ⟨bP, oP, none⟩ = some (.int .i64 V') ∧ w'.cell? ⟨bP, (oP + 1), none⟩ = some (.slice A4 n4 c4))) 12 (by kernel_rfl) (by kernel_rfl) (by intro c a d v w h; cases d <;> exact h) (⟨cell_drq C2.out.c5, cell_drq Y2.out.c1, cell_drq XK.out.is.c2, cell_drq XP.out.is.c0, cell_drq XP.out.is.c1⟩) (fun QT hT hP hHeld => ?_)
      simp only [List.extract_toArray, List.extract_eq_take_drop, List.drop_zero, Nat.sub_zero, List.take_succ_cons, List.take_zero]
      have HT := Lib.hid hT
      clear hT
      replace P2 := Lib.hid (P2.out.trans ((Below.refl W3.heap.size W3).drew.mono P2.out.size))
      replace C2 := Lib.hid (C2.out.next (Below.refl W3.heap.size W3).drew)
      replace Y2 := Lib.hid (Y2.out.next (Below.refl W3.heap.size W3).drew)
      replace R2 := Lib.hid (R2.out.next (Below.refl W3.heap.size W3).drew)
      replace XK := Lib.hid (XK.out.next (Below.refl W3.heap.size W3).drew)
      replace XP := Lib.hid (XP.out.next (Below.refl W3.heap.size W3).drew)
      replace PT := Lib.hid (PT.out.below (Below.refl W3.heap.size W3).drew)
      generalize W3.drew = D1 at P2 C2 Y2 R2 XK XP PT hHeld ⊢
      refine tkk 0 31 rfl rfl (by kernel_rfl) (hP · · _) (by rfl) (fun w h => by obtain ⟨h0, h1, h2, h3, h4⟩ := h; go_simp; rfl) (by assumption) ?_
      simp only [set0, set1]
      refine tkk 1 32 rfl rfl (by kernel_rfl) (hP · · _) (by rfl) (fun w h => by obtain ⟨h0, h1, h2, h3, h4⟩ := h; go_simp; rfl) (by assumption) ?_
      simp only [set0, set1]
      refine tkk 2 33 rfl rfl (by kernel_rfl) (hP · · _) (by rfl) (fun w h => by obtain ⟨h0, h1, h2, h3, h4⟩ := h; go_simp; rfl) (by assumption) ?_
      simp only [set0, set1]
      refine tkk 3 34 rfl rfl (by kernel_rfl) (hP · · _) (by rfl) (fun w h => by obtain ⟨h0, h1, h2, h3, h4⟩ := h; go_simp; rfl) (by assumption) ?_
      simp only [set0, set1]
      refine tkk 4 35 rfl rfl (by kernel_rfl) (hP · · _) (by rfl) (fun w h => by obtain ⟨h0, h1, h2, h3, h4⟩ := h; go_simp; rfl) (by assumption) ?_
      simp only [set0, set1]
      refine tkk 5 36 rfl rfl (by kernel_rfl) (hP · · _) (by rfl) (fun w h => by obtain ⟨h0, h1, h2, h3, h4⟩ := h; go_simp; rfl) (by assumption) ?_
      simp only [set0, set1]
      refine tkk 6 37 rfl rfl (by kernel_rfl) (hP · · _) (by rfl) (fun w h => by obtain ⟨h0, h1, h2, h3, h4⟩ := h; go_simp; rfl) (by assumption) ?_
      simp only [set0, set1]
      refine tkk 7 38 rfl rfl (by kernel_rfl) (hP · · _) (by rfl) (fun w h => by obtain ⟨h0, h1, h2, h3, h4⟩ := h; go_simp; rfl) (by assumption) ?_
      simp only [set0, set1]
      refine tkk 8 39 rfl rfl (by kernel_rfl) (hP · · _) (by rfl) (fun w h => by obtain ⟨h0, h1, h2, h3, h4⟩ := h; go_simp; rfl) (by assumption) ?_
      simp only [set0, set1]
      refine tkk 9 40 rfl rfl (by kernel_rfl) (hP · · _) (by rfl) (fun w h => by obtain ⟨h0, h1, h2, h3, h4⟩ := h; go_simp; rfl) (by assumption) ?_
      simp only [set0, set1]
      refine wpAnyH_ready (rs := [10]) (by kernel_rfl) (by simp) ?_
      refine AllReadyH.cons rfl (fun K hK => ?_) AllReadyH.nil
      go_simp
      refine (refPDegree_c V' A4 n4 c4 ts _ PT.out HVP.out).mono ?_
      rintro e v2 ⟨rfl, hb⟩
      rw [← HDG.out]
      replace P2 := Lib.hid (P2.out.trans (hb.mono P2.out.size))
      replace C2 := Lib.hid (C2.out.next hb)
      replace Y2 := Lib.hid (Y2.out.next hb)
      replace R2 := Lib.hid (R2.out.next hb)
      replace XK := Lib.hid (XK.out.next hb)
      replace XP := Lib.hid (XP.out.next hb)
      clear hb hHeld
      refine hK.out _ _ (⟨C2.out.c5, Y2.out.c1, XK.out.is.c2, XP.out.is.c0, XP.out.is.c1⟩) (fun hHeld => ?_)
      clear hK K
      refine tkk 11 42 rfl rfl (by kernel_rfl) (hP · · _) (by rfl) (fun w h => by obtain ⟨h0, h1, h2, h3, h4⟩ := h; go_simp; rfl) (by assumption) ?_
      clear hHeld
      refine wpAnyH_done (by kernel_rfl) ?_ _
      refine HT.out _ _ ?_
      clear HT hP QT
      obtain ⟨M, hM⟩ : ∃ M, M = (if D < dg then dg else D) := ⟨_, rfl⟩
      rw [← hM]
      have HMX := Lib.hid (show M = max D dg by rw [hM]; split <;> omega)
      clear hM
      have r0 := C2.out.c5
      have f0 := C2.out.fr 5
      refine wpList_step fun K hK => ?_
      go_simp
      refine hK _ _ ?_
      clear hK K
      refine wpList_step fun K hK => ?_
      go_simp
      refine hK _ _ ?_
      clear hK K
      refine wpList_nil ?_
      have C5 := Lib.hid (HE.out M (HE2.out M HMX.out) _ (C2.out.set5 M))
      have Y5 := Lib.hid (Y2.out.off (a := ⟨gc, 5, none⟩) (by show gc ≠ g; omega) (.int .i64 M))
      have R5 := Lib.hid (R2.out.off (p := ⟨gc, 5, none⟩) (by show gc ≠ g + 1; omega) (.int .i64 M))
      have P5 := Lib.hid (bel_set6 P2.out (p := ⟨gc, 5, none⟩) hgc.1 (.int .i64 M))
      clear r0 f0 C2 Y2 R2 P2 XK XP PT HE HE2 HMX
      generalize v2.setCell ⟨gc, 5, none⟩ (.int .i64 M) = W9 at C5 Y5 R5 P5 ⊢
      go_wp2
      go_roundw
      case measure => simp [intOf]; omega
      case rel => exact ⟨j + 1, by go_num, by omega, P5.out, Y5.out, C5.out, R5.out⟩
    · have C3 := Lib.hid (C2.out.set2 (((cntL ls 1 j : Nat) : Int) + 1))
      have Y3 := Lib.hid (Y2.out.off (a := ⟨gc, 2, none⟩) (by show gc ≠ g; omega) (.int .i64 (((cntL ls 1 j : Nat) : Int) + 1)))
      have R3 := Lib.hid (R2.out.off (p := ⟨gc, 2, none⟩) (by show gc ≠ g + 1; omega) (.int .i64 (((cntL ls 1 j : Nat) : Int) + 1)))
      have P3 := Lib.hid (bel_set6 P2.out (p := ⟨gc, 2, none⟩) hgc.1 (.int .i64 (((cntL ls 1 j : Nat) : Int) + 1)))
      have r0 := C2.out.c2
      have f0 := C2.out.fr 2
      obtain ⟨D, hD⟩ : ∃ D, D = degL ls j := ⟨_, rfl⟩
      have HD := Lib.hid hD
      have hDn := degL_nn ls j
      rw [← hD] at C3 hDn
      clear hD
      have C4 := Lib.hid (show CB (wr.setCell ⟨gc, 2, none⟩ (.int .i64 (((cntL ls 1 j : Nat) : Int) + 1))) gc V (cntL ls 0 (j + 1) : Int) (cntL ls 1 (j + 1) : Int) (cntL ls 2 (j + 1) : Int) (cntL ls 3 (j + 1) : Int) (degL ls (j + 1)) from by
       have e0 : ((cntL ls 0 (j + 1) : Nat) : Int) = ((cntL ls 0 j : Nat) : Int) := by rw [HCN.out.1 0]; simp
       have e1 : ((cntL ls 1 (j + 1) : Nat) : Int) = ((cntL ls 1 j : Nat) : Int) + 1 := by rw [HCN.out.1 1]; simp
       have e2 : ((cntL ls 2 (j + 1) : Nat) : Int) = ((cntL ls 2 j : Nat) : Int) := by rw [HCN.out.1 2]; simp
       have e3 : ((cntL ls 3 (j + 1) : Nat) : Int) = ((cntL ls 3 j : Nat) : Int) := by rw [HCN.out.1 3]; simp
       have e5 : degL ls (j + 1) = D := by rw [HCN.out.2, HD.out]; simp
       rw [e0, e1, e2, e3, e5]
       exact C3.out)
      clear HCN C3
      generalize cntL ls 1 j = x0 at C2 r0 C4 Y3 R3 P3 hc1 ⊢
      go_upto_region 4 with (fail)
      generalize wr.setCell ⟨gc, 2, none⟩ (.int .i64 ((x0 : Int) + 1)) = W3 at C4 Y3 R3 P3 ⊢
      clear r0 f0 c0 a1 C2 Y2 R2 P2
      go_wp2
      go_roundw
      case measure => simp [intOf]; omega
      case rel => exact ⟨j + 1, by go_num, by omega, P3.out, Y3.out, C4.out, R3.out⟩
    · have C3 := Lib.hid (C2.out.set3 (((cntL ls 2 j : Nat) : Int) + 1))
      have Y3 := Lib.hid (Y2.out.off (a := ⟨gc, 3, none⟩) (by show gc ≠ g; omega) (.int .i64 (((cntL ls 2 j : Nat) : Int) + 1)))
      have R3 := Lib.hid (R2.out.off (p := ⟨gc, 3, none⟩) (by show gc ≠ g + 1; omega) (.int .i64 (((cntL ls 2 j : Nat) : Int) + 1)))
      have P3 := Lib.hid (bel_set6 P2.out (p := ⟨gc, 3, none⟩) hgc.1 (.int .i64 (((cntL ls 2 j : Nat) : Int) + 1)))
      have r0 := C2.out.c3
      have f0 := C2.out.fr 3
      obtain ⟨D, hD⟩ : ∃ D, D = degL ls j := ⟨_, rfl⟩
      have HD := Lib.hid hD
      have hDn := degL_nn ls j
      rw [← hD] at C3 hDn
      clear hD
      have C4 := Lib.hid (show CB (wr.setCell ⟨gc, 3, none⟩ (.int .i64 (((cntL ls 2 j : Nat) : Int) + 1))) gc V (cntL ls 0 (j + 1) : Int) (cntL ls 1 (j + 1) : Int) (cntL ls 2 (j + 1) : Int) (cntL ls 3 (j + 1) : Int) (degL ls (j + 1)) from by
       have e0 : ((cntL ls 0 (j + 1) : Nat) : Int) = ((cntL ls 0 j : Nat) : Int) := by rw [HCN.out.1 0]; simp
       have e1 : ((cntL ls 1 (j + 1) : Nat) : Int) = ((cntL ls 1 j : Nat) : Int) := by rw [HCN.out.1 1]; simp
       have e2 : ((cntL ls 2 (j + 1) : Nat) : Int) = ((cntL ls 2 j : Nat) : Int) + 1 := by rw [HCN.out.1 2]; simp
       have e3 : ((cntL ls 3 (j + 1) : Nat) : Int) = ((cntL ls 3 j : Nat) : Int) := by rw [HCN.out.1 3]; simp
       have e5 : degL ls (j + 1) = D := by rw [HCN.out.2, HD.out]; simp
       rw [e0, e1, e2, e3, e5]
       exact C3.out)
      clear HCN C3
      generalize cntL ls 2 j = x0 at C2 r0 C4 Y3 R3 P3 hc2 ⊢
      go_upto_region 4 with (fail)
      generalize wr.setCell ⟨gc, 3, none⟩ (.int .i64 ((x0 : Int) + 1)) = W3 at C4 Y3 R3 P3 ⊢
      clear r0 f0 c0 a1 C2 Y2 R2 P2
      go_wp2
      go_roundw
      case measure => simp [intOf]; omega
      case rel => exact ⟨j + 1, by go_num, by omega, P3.out, Y3.out, C4.out, R3.out⟩
    · have C3 := Lib.hid (C2.out.set4 (((cntL ls 3 j : Nat) : Int) + 1))
      have Y3 := Lib.hid (Y2.out.off (a := ⟨gc, 4, none⟩) (by show gc ≠ g; omega) (.int .i64 (((cntL ls 3 j : Nat) : Int) + 1)))
      have R3 := Lib.hid (R2.out.off (p := ⟨gc, 4, none⟩) (by show gc ≠ g + 1; omega) (.int .i64 (((cntL ls 3 j : Nat) : Int) + 1)))
      have P3 := Lib.hid (bel_set6 P2.out (p := ⟨gc, 4, none⟩) hgc.1 (.int .i64 (((cntL ls 3 j : Nat) : Int) + 1)))
      have r0 := C2.out.c4
      have f0 := C2.out.fr 4
      obtain ⟨D, hD⟩ : ∃ D, D = degL ls j := ⟨_, rfl⟩
      have HD := Lib.hid hD
      have hDn := degL_nn ls j
      rw [← hD] at C3 hDn
      clear hD
      have C4 := Lib.hid (show CB (wr.setCell ⟨gc, 4, none⟩ (.int .i64 (((cntL ls 3 j : Nat) : Int) + 1))) gc V (cntL ls 0 (j + 1) : Int) (cntL ls 1 (j + 1) : Int) (cntL ls 2 (j + 1) : Int) (cntL ls 3 (j + 1) : Int) (degL ls (j + 1)) from by
       have e0 : ((cntL ls 0 (j + 1) : Nat) : Int) = ((cntL ls 0 j : Nat) : Int) := by rw [HCN.out.1 0]; simp
       have e1 : ((cntL ls 1 (j + 1) : Nat) : Int) = ((cntL ls 1 j : Nat) : Int) := by rw [HCN.out.1 1]; simp
       have e2 : ((cntL ls 2 (j + 1) : Nat) : Int) = ((cntL ls 2 j : Nat) : Int) := by rw [HCN.out.1 2]; simp
       have e3 : ((cntL ls 3 (j + 1) : Nat) : Int) = ((cntL ls 3 j : Nat) : Int) + 1 := by rw [HCN.out.1 3]; simp
       have e5 : degL ls (j + 1) = D := by rw [HCN.out.2, HD.out]; simp
       rw [e0, e1, e2, e3, e5]
       exact C3.out)
      clear HCN C3
      generalize cntL ls 3 j = x0 at C2 r0 C4 Y3 R3 P3 hc3 ⊢
      go_upto_region 4 with (fail)
      generalize wr.setCell ⟨gc, 4, none⟩ (.int .i64 ((x0 : Int) + 1)) = W3 at C4 Y3 R3 P3 ⊢
      clear r0 f0 c0 a1 C2 Y2 R2 P2
      go_wp2
      go_roundw
      case measure => simp [intOf]; omega
      case rel => exact ⟨j + 1, by go_num, by omega, P3.out, Y3.out, C4.out, R3.out⟩
  · have e : j = ls.length := by have := HI.out.len; omega
    have t1 : decide ((j : Int) < (n : Int)) = false := decide_eq_false (by omega)
    have t1n : decide (j < n) = false := decide_eq_false hjn
    rw [e] at C2
    have r0 := R2.out.c0
    have r1 := R2.out.c1
    have r2 := R2.out.c2
    have r3 := R2.out.c3
    have r4 := R2.out.c4
    have r5 := R2.out.c5
    have f0 := R2.out.fr 0
    have f1 := R2.out.fr 1
    have f2 := R2.out.fr 2
    have f3 := R2.out.fr 3
    have f4 := R2.out.fr 4
    have f5 := R2.out.fr 5
    obtain ⟨x0, hx0⟩ : ∃ x, x = ((cntL ls 0 ls.length : Nat) : Int) := ⟨_, rfl⟩
    obtain ⟨x1, hx1⟩ : ∃ x, x = ((cntL ls 1 ls.length : Nat) : Int) := ⟨_, rfl⟩
    obtain ⟨x2, hx2⟩ : ∃ x, x = ((cntL ls 2 ls.length : Nat) : Int) := ⟨_, rfl⟩
    obtain ⟨x3, hx3⟩ : ∃ x, x = ((cntL ls 3 ls.length : Nat) : Int) := ⟨_, rfl⟩
    obtain ⟨x5, hx5⟩ : ∃ x, x = degL ls ls.length := ⟨_, rfl⟩
    rw [← hx0, ← hx1, ← hx2, ← hx3, ← hx5] at C2
    have HR := Lib.hid (show ∀ W', Below w.heap.size w W' → Ending.returned (.agg #[.int .i64 V, .int .i64 x0, .int .i64 x1, .int .i64 x2, .int .i64 x3, .int .i64 x5]) = .returned (cntA V ls) ∧ Below w.heap.size w W' from fun W' hW => ⟨by rw [hx0, hx1, hx2, hx3, hx5]; rfl, hW⟩)
    clear hx0 hx1 hx2 hx3 hx5 e
    have s0 := C2.out.c0
    have s1 := C2.out.c1
    have s2 := C2.out.c2
    have s3 := C2.out.c3
    have s4 := C2.out.c4
    have s5 := C2.out.c5
    go_wp2
    have Q := R2.out.put V x0 x1 x2 x3 x5
    have q0 := Q.c0
    have q1 := Q.c1
    have q2 := Q.c2
    have q3 := Q.c3
    have q4 := Q.c4
    have q5 := Q.c5
    refine bodyPost_ret (v := .agg #[.int .i64 V, .int .i64 x0, .int .i64 x1, .int .i64 x2, .int .i64 x3, .int .i64 x5]) (by simp [results, Tryz.results14, go_sem, q0, q1, q2, q3, q4, q5]) rfl ?_
    exact HR.out _ (bel_put P2.out (by have := HG.out; omega) _ _ _ _ _ _)
theorem psi_few {a b c : Int} (ha : 2 ≤ a) (hb : 163840 < b) (hc : Sz c 4096) : ¬ psi a b.toNat = c := by
 intro e
 have h := psi_lt ha (show b.toNat - 1 < b.toNat by omega)
 rw [e] at h
 have := idx_bound ha hc h
 omega
theorem isPsi_no {a b c : Int} (hc : Sz c 4096) (h : a < 2 ∨ fewB b = false ∨ b < 1) : linkZ 1 a b c = false := by
 unfold linkZ
 rw [if_pos rfl]
 refine decide_eq_false fun q => ?_
 rcases h with h | h | h
 · omega
 · have h1 := of_decide_eq_false h
   exact psi_few q.1 (by omega) hc q.2.2
 · omega
theorem isPsi_end {a c : Int} {N i : Nat} (ha : 2 ≤ a) (hN : 1 ≤ N) (hi : i ≤ N) (h : i = N ∨ c < psi a i) : linkZ 1 a (N : Int) c = decide (psi a i = c) := by
 unfold linkZ
 rw [if_pos rfl, show ((N : Int)).toNat = N from Int.toNat_natCast N]
 rcases h with h | h
 · subst h
   by_cases q : psi a i = c
   · rw [decide_eq_true q, decide_eq_true ⟨ha, by omega, q⟩]
   · rw [decide_eq_false q, decide_eq_false (fun x => q x.2.2)]
 · have h1 := psi_le ha hi
   rw [decide_eq_false (fun x => by have := x.2.2; omega), decide_eq_false (fun x => by omega)]
end Go.Proofs.YteabokkofoomkaaGreat

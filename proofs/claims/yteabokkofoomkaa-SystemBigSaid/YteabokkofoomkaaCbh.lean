import Derived.Test.YteabokkofoomkaaCaz
import Derived.Test.YteabokkofoomkaaCbg
import Derived.Test.YteabokkofoomkaaCbf
import Derived.BigRegion
set_option maxRecDepth 100000
namespace Go.Proofs.Yteabokkofoomkaa
open Go.RowKit Go.Shelf Go.Deep
def pns (y : Int) : List Nmr := [nmOf 3, nmOf y]
theorem pow_valid : validS 2 powL = true := by kernel_rfl
theorem pow_all8 : allB (pns 8) = true := by kernel_rfl
theorem pow_all9 : allB (pns 9) = true := by kernel_rfl
theorem pow_nat8 : natB (pns 8) = true := by kernel_rfl
theorem pow_nat9 : natB (pns 9) = true := by kernel_rfl
theorem pow_yes : holdsB powL (pns 8) = true := by kernel_rfl
theorem pow_no : holdsB powL (pns 9) = false := by kernel_rfl
def allMost (ls : List Lnk) (ns : List Nmr) (T : Nat) : Bool := ls.all fun l => l.ps.all fun p => decide (allV p.ts (ownOf l.vs ns) p.ts.length ≤ T)
theorem pow_most8 : allMost powL (pns 8) 100 = true := by kernel_rfl
theorem pow_most9 : allMost powL (pns 9) 100 = true := by kernel_rfl
theorem pow_counts : cntL powL 0 powL.length = 0 ∧ cntL powL 1 powL.length = 0 ∧ cntL powL 2 powL.length = 1 ∧ cntL powL 3 powL.length = 0 ∧ degL powL powL.length = 0 := ⟨by kernel_rfl, by kernel_rfl, by kernel_rfl, by kernel_rfl, by kernel_rfl⟩
theorem most_at {ls : List Lnk} {ns : List Nmr} {T : Nat} (h : allMost ls ns T = true) : ∀ i, i < ls.length → ∀ j, j < (lnkAt ls i).ps.length → allV (plyAt (lnkAt ls i).ps j).ts (ownOf (lnkAt ls i).vs ns) (plyAt (lnkAt ls i).ps j).ts.length ≤ T := by
 intro i hi j hj
 have e1 : lnkAt ls i ∈ ls := by
  unfold lnkAt
  rw [List.getD_eq_getElem?_getD, List.getElem?_eq_getElem hi]
  exact List.getElem_mem hi
 have h2 := List.all_eq_true.1 h _ e1
 have e2 : plyAt (lnkAt ls i).ps j ∈ (lnkAt ls i).ps := by
  unfold plyAt
  rw [List.getD_eq_getElem?_getD, List.getElem?_eq_getElem hj]
  exact List.getElem_mem hj
 exact of_decide_eq_true (List.all_eq_true.1 h2 _ e2)
theorem small_T {k : Int} {T : Nat} (h : St T k) (hT : T < 4294967296) : k = 0 := by
 rcases h with h | ⟨_, h⟩
 · exact h
 · have h1 := pw_le (m := 1) (n := 4096) (by omega)
   rw [pw_one] at h1
   omega
abbrev row2 (t : Bool) (A : Option Addr) (n c : Nat) (t' : Bool) (A' : Option Addr) (n' c' : Nat) : Obj := .cells #[.bool t, .slice A n c, .bool t', .slice A' n' c'] 24
theorem rdN_two {W : World} {z z' : Int} {t t' : Bool} {A A' : Option Addr} {n c n' c' : Nat} (h : Is W z t A n c) (h' : Is W z' t' A' n' c') : RdN (W.alloc (row2 t A n c t' A' n' c')) (some ⟨W.heap.size, 0, none⟩) 2 [nmOf z, nmOf z'] := by
 have hb := bel_alloc W (row2 t A n c t' A' n' c')
 refine ⟨rfl, fun _ => ⟨W.heap.size, 0, rfl, by simp, fun k hk => ?_⟩⟩
 rcases (show k = 0 ∨ k = 1 by omega) with rfl | rfl
 · refine ⟨A, n, c, ?_, ?_, h.2.2.1.below hb, h.2.2.2.1, h.2.2.2.2⟩
   · show _ = some (Value.bool (decide (z < 0)))
     rw [← h.1]; go_simp
   · go_simp
 · refine ⟨A', n', c', ?_, ?_, h'.2.2.1.below hb, h'.2.2.2.1, h'.2.2.2.2⟩
   · show _ = some (Value.bool (decide (z' < 0)))
     rw [← h'.1]; go_simp
   · go_simp
set_option maxHeartbeats 8000000 in
theorem awake9_c (w : World) : Calls Try.prog 6 #[] w (IsB true w) := by
 have P := Lib.hid (Below.refl w.heap.size w)
 go_enter Try.func6, Try.ntmps6
 go_wp2_with fail
 refine (powers_c _).mono ?_
 rintro e w11 ⟨A, n, c, rfl, hL, hn, hc, hb⟩
 replace P := Lib.hid (P.out.trans (hb.mono P.out.size))
 have RL := Lib.hid hL
 have HN := Lib.hid (And.intro hn hc)
 clear hb hL hn hc
 go_wp2_with fail
 refine (rofZ 3 _ (by omega) (by omega)).mono ?_
 rintro e w12 ⟨t1, A1, n1, c1, rfl, hi, hb⟩
 replace P := Lib.hid (P.out.trans (hb.mono P.out.size))
 replace RL := Lib.hid (RL.out.below hb)
 have I1 := Lib.hid hi
 clear hb hi
 go_wp2_with fail
 refine (rofZ 8 _ (by omega) (by omega)).mono ?_
 rintro e w13 ⟨t2, A2, n2, c2, rfl, hi, hb⟩
 replace P := Lib.hid (P.out.trans (hb.mono P.out.size))
 replace RL := Lib.hid (RL.out.below hb)
 replace I1 := Lib.hid (I1.out.below hb)
 have I2 := Lib.hid hi
 clear hb hi
 have k1 := bel_alloc w13 (row2 t1 A1 n1 c1 t2 A2 n2 c2)
 have RX := Lib.hid (rdN_two I1.out I2.out)
 replace P := Lib.hid (P.out.trans (k1.mono P.out.size))
 replace RL := Lib.hid (RL.out.below k1)
 clear k1 I1 I2
 go_wp2_with fail
 generalize w13.alloc (row2 t1 A1 n1 c1 t2 A2 n2 c2) = W1 at RX P RL ⊢
 generalize w13.heap.size = gx1 at RX ⊢
 refine (sysHolds_c 100 2 A n c powL (some ⟨gx1, 0, none⟩) 2 2 (pns 8) _ RL.out RX.out (by omega) (fun _ _ => most_at pow_most8)).mono ?_
 rintro e w14 hH
 obtain ⟨r1, k1, rfl, hst, hr, hr2, hb⟩ := hH.val (by rw [pow_valid, pow_all8]; rfl) rfl pow_nat8
 obtain rfl := small_T hst (by omega)
 have hr3 := hr rfl
 rw [pow_yes] at hr3
 subst hr3
 replace P := Lib.hid (P.out.trans (hb.mono P.out.size))
 clear hb hst hr hr2 RL RX hH HN
 go_wp2_with fail
 refine (powers_c _).mono ?_
 rintro e w21 ⟨A, n, c, rfl, hL, hn, hc, hb⟩
 replace P := Lib.hid (P.out.trans (hb.mono P.out.size))
 have RL := Lib.hid hL
 have HN := Lib.hid (And.intro hn hc)
 clear hb hL hn hc
 go_wp2_with fail
 refine (rofZ 3 _ (by omega) (by omega)).mono ?_
 rintro e w22 ⟨t1, A1, n1, c1, rfl, hi, hb⟩
 replace P := Lib.hid (P.out.trans (hb.mono P.out.size))
 replace RL := Lib.hid (RL.out.below hb)
 have I1 := Lib.hid hi
 clear hb hi
 go_wp2_with fail
 refine (rofZ 9 _ (by omega) (by omega)).mono ?_
 rintro e w23 ⟨t2, A2, n2, c2, rfl, hi, hb⟩
 replace P := Lib.hid (P.out.trans (hb.mono P.out.size))
 replace RL := Lib.hid (RL.out.below hb)
 replace I1 := Lib.hid (I1.out.below hb)
 have I2 := Lib.hid hi
 clear hb hi
 have k1 := bel_alloc w23 (row2 t1 A1 n1 c1 t2 A2 n2 c2)
 have RX := Lib.hid (rdN_two I1.out I2.out)
 replace P := Lib.hid (P.out.trans (k1.mono P.out.size))
 replace RL := Lib.hid (RL.out.below k1)
 clear k1 I1 I2
 go_wp2_with fail
 generalize w23.alloc (row2 t1 A1 n1 c1 t2 A2 n2 c2) = W2 at RX P RL ⊢
 generalize w23.heap.size = gx2 at RX ⊢
 refine (sysHolds_c 100 2 A n c powL (some ⟨gx2, 0, none⟩) 2 2 (pns 9) _ RL.out RX.out (by omega) (fun _ _ => most_at pow_most9)).mono ?_
 rintro e w24 hH
 obtain ⟨r2, k2, rfl, hst, hr, hr2, hb⟩ := hH.val (by rw [pow_valid, pow_all9]; rfl) rfl pow_nat9
 obtain rfl := small_T hst (by omega)
 have hr3 := hr rfl
 rw [pow_no] at hr3
 subst hr3
 replace P := Lib.hid (P.out.trans (hb.mono P.out.size))
 clear hb hst hr hr2 RL RX hH HN
 go_wp2_with fail
 refine (powers_c _).mono ?_
 rintro e w5 ⟨A, n, c, rfl, hL, hn, hc, hb⟩
 replace P := Lib.hid (P.out.trans (hb.mono P.out.size))
 have RL := Lib.hid hL
 clear hb hL hn hc
 go_wp2_with fail
 refine (sysCounts_c 2 A n c powL _ RL.out).mono ?_
 rintro e w6 hC
 obtain ⟨-, rfl, hb⟩ := hC.resolve_right (fun q => by have := q.1; rw [pow_valid] at this; cases this)
 replace P := Lib.hid (P.out.trans (hb.mono P.out.size))
 clear hb RL hC
 rw [pow_counts.1, pow_counts.2.1, pow_counts.2.2.1, pow_counts.2.2.2.1, pow_counts.2.2.2.2]
 have k1 := bel_alloc w6 (.cells #[.int .i64 2, .int .i64 0, .int .i64 0, .int .i64 1, .int .i64 0, .int .i64 0] 55)
 replace P := Lib.hid (P.out.trans (k1.mono P.out.size))
 clear k1
 go_wp2
 go_ret
 exact ⟨rfl, P.out⟩
def val0 (l : Lnk) (ns : List Nmr) : Int := (valsZ l.ps (ownOf l.vs ns)).getD 0 0
def sqS (ls : List Lnk) (ns : List Nmr) : Nat → Int
 | 0 => 0
 | k + 1 => sqS ls ns k + val0 (lnkAt ls k) ns * val0 (lnkAt ls k) ns
def fitS (ls : List Lnk) (ns : List Nmr) (k : Nat) : Bool := decide (∀ i, i < k → (val0 (lnkAt ls i) ns * val0 (lnkAt ls i) ns).natAbs < pw 4096 ∧ (sqS ls ns (i + 1)).natAbs < pw 4096)
theorem cell_stp {w w' : World} {b : Nat} {k : Int} (hc : Cc w b k) (hs : Stp b w w') {q : Nat} {o : Nat} {v : Value} (hlt : q < w.heap.size) (h : w.cell? ⟨q, o, none⟩ = some v) (hv : ∀ k z, v ≠ .int k z) : w'.cell? ⟨q, o, none⟩ = some v := by
 by_cases hb : q = b
 · subst hb
   by_cases ho : o = 0
   · subst ho
     rw [hc.c0] at h
     injection h with h
     exact absurd h.symm (hv _ _)
   · rw [hs.own _ ho]; exact h
 · rw [hs.cell (p := ⟨q, o, none⟩) hlt hb]; exact h
structure CE (W : World) (b o : Nat) (s : Bool) (A : Option Addr) (n c : Nat) : Prop where
 lt : b < W.heap.size
 c0 : W.cell? ⟨b, o, none⟩ = some (.bool s)
 c1 : W.cell? ⟨b, o + 1, none⟩ = some (.slice A n c)
theorem CE.next {W W' : World} {b o : Nat} {s : Bool} {A : Option Addr} {n c : Nat} (h : CE W b o s A n c) (hb : Below W.heap.size W W') : CE W' b o s A n c :=
 ⟨Nat.lt_of_lt_of_le h.lt hb.size, (hb.cell (p := ⟨b, o, none⟩) h.lt).trans h.c0, (hb.cell (p := ⟨b, o + 1, none⟩) h.lt).trans h.c1⟩
theorem CE.stp {W W' : World} {b o : Nat} {s : Bool} {A : Option Addr} {n c : Nat} (h : CE W b o s A n c) {g : Nat} {k : Int} (hc : Cc W g k) (hs : Stp g W W') : CE W' b o s A n c :=
 ⟨Nat.lt_of_lt_of_le h.lt hs.size, cell_stp hc hs h.lt h.c0 (fun _ _ e => by cases e), cell_stp hc hs h.lt h.c1 (fun _ _ e => by cases e)⟩
def ValueP (ls : List Lnk) (ns : List Nmr) (w : World) (e : Ending) (w' : World) : Prop :=
 ∃ t B m d k, e = .returned (.tuple #[.agg #[.bool t, .slice B m d], .int .i64 k]) ∧ Below w.heap.size w w' ∧ ((k = 0 ∧ fitS ls ns ls.length = true ∧ Iv w' (sqS ls ns ls.length) t B m d) ∨ (k = 4 ∧ fitS ls ns ls.length = false ∧ t = false ∧ B = none ∧ m = 0 ∧ d = 0))
structure ValueQ (V : Int) (ls : List Lnk) (ns : List Nmr) (w : World) (e : Ending) (w' : World) : Prop where
 form : (validS V ls && allB ns) = false → Bad w 1 e w'
 arg : (validS V ls && allB ns) = true → (onlyEq ls && decide ((ns.length : Int) = V) && natB ns) = false → Bad w 2 e w'
 val : (validS V ls && allB ns) = true → (onlyEq ls && decide ((ns.length : Int) = V) && natB ns) = true → ValueP ls ns w e w'
theorem ValueQ.of_form {V : Int} {ls : List Lnk} {ns : List Nmr} {w w' : World} {e : Ending} (h : (validS V ls && allB ns) = false) (hb : Bad w 1 e w') : ValueQ V ls ns w e w' :=
 ⟨fun _ => hb, fun h' => absurd (h.symm.trans h') (by decide), fun h' => absurd (h.symm.trans h') (by decide)⟩
theorem ValueQ.of_arg {V : Int} {ls : List Lnk} {ns : List Nmr} {w w' : World} {e : Ending} (h : (validS V ls && allB ns) = true) (h2 : (onlyEq ls && decide ((ns.length : Int) = V) && natB ns) = false) (hb : Bad w 2 e w') : ValueQ V ls ns w e w' :=
 ⟨fun h' => absurd (h.symm.trans h') (by decide), fun _ _ => hb, fun _ h' => absurd (h2.symm.trans h') (by decide)⟩
theorem ValueQ.of_val {V : Int} {ls : List Lnk} {ns : List Nmr} {w w' : World} {e : Ending} (h : (validS V ls && allB ns) = true) (h2 : (onlyEq ls && decide ((ns.length : Int) = V) && natB ns) = true) (hb : ValueP ls ns w e w') : ValueQ V ls ns w e w' :=
 ⟨fun h' => absurd (h.symm.trans h') (by decide), fun _ h' => absurd (h2.symm.trans h') (by decide), fun _ _ => hb⟩
structure VV (w W : World) (b gr : Nat) (k : Int) (t : Bool) (B : Option Addr) (m d : Nat) : Prop where
 low : Below w.heap.size w W
 cc : Cc W b k
 sm : NV W (b + 1) t B m d
 rs : NV W gr false none 0 0
section
variable {w W W' : World} {b gr : Nat} {k : Int} {t : Bool} {B : Option Addr} {m d : Nat}
theorem VV.next (h : VV w W b gr k t B m d) (hb : Below W.heap.size W W') : VV w W' b gr k t B m d :=
 ⟨h.low.trans (hb.mono h.low.size), h.cc.below hb, h.sm.next hb, h.rs.next hb⟩
theorem VV.put (h : VV w W b gr k t B m d) {k' : Int} (h0 : w.heap.size ≤ b) (hr : gr ≠ b) (hs : Stp b W W') (hc : Cc W' b k') : VV w W' b gr k' t B m d :=
 ⟨h.low.trans (hs.below h.low.size h0), hc, h.sm.stp (by omega) hs, h.rs.stp hr hs⟩
theorem VV.sum (h : VV w W b gr k t B m d) (h0 : w.heap.size ≤ b) (hr : gr ≠ b + 1) (t' : Bool) (B' : Option Addr) (m' d' : Nat) : VV w ((W.setCell ⟨b + 1, 0, none⟩ (.bool t')).setCell ⟨b + 1, 1, none⟩ (.slice B' m' d')) b gr k t' B' m' d' :=
 ⟨below_store h.low (by omega) _ _, h.cc.two (by omega) _ _, h.sm.put t' B' m' d', h.rs.oth (by omega) _ _⟩
end
end Go.Proofs.Yteabokkofoomkaa

import Derived.Test.YteabokkofoomkaaGreatCak
import Derived.Test.YteabokkofoomkaaGreatCbh
set_option maxRecDepth 100000
namespace Go.Proofs.YteabokkofoomkaaGreat
open Go.RowKit Go.Shelf Go.Deep
def cntL (ls : List Lnk) (q : Int) : Nat → Nat
 | 0 => 0
 | k + 1 => cntL ls q k + (if (lnkAt ls k).kind = q then 1 else 0)
def degL (ls : List Lnk) : Nat → Int
 | 0 => 0
 | k + 1 => if (lnkAt ls k).kind = 0 then max (degL ls k) (degP (plyAt (lnkAt ls k).ps 0).ts) else degL ls k
theorem cntL_le (ls : List Lnk) (q : Int) : ∀ k, cntL ls q k ≤ k
 | 0 => Nat.le_refl _
 | k + 1 => by
   have := cntL_le ls q k
   simp only [cntL]
   split <;> omega
theorem bel_set6 {w w' : World} {B : Nat} (h : Below B w w') {p : Addr} (hp : B ≤ p.block) (u : Value) : Below B w (w'.setCell p u) := h.setCell hp u
structure CB (W : World) (g : Nat) (v0 v1 v2 v3 v4 v5 : Int) : Prop where
 lt : g < W.heap.size
 c0 : W.cell? ⟨g, 0, none⟩ = some (.int .i64 v0)
 c1 : W.cell? ⟨g, 1, none⟩ = some (.int .i64 v1)
 c2 : W.cell? ⟨g, 2, none⟩ = some (.int .i64 v2)
 c3 : W.cell? ⟨g, 3, none⟩ = some (.int .i64 v3)
 c4 : W.cell? ⟨g, 4, none⟩ = some (.int .i64 v4)
 c5 : W.cell? ⟨g, 5, none⟩ = some (.int .i64 v5)
 fr : ∀ o, W.frozen? ⟨g, o, none⟩ = false
section
variable {W W' : World} {g : Nat} {v0 v1 v2 v3 v4 v5 : Int}
theorem CB.next (h : CB W g v0 v1 v2 v3 v4 v5) (hb : Below W.heap.size W W') : CB W' g v0 v1 v2 v3 v4 v5 :=
 ⟨Nat.lt_of_lt_of_le h.lt hb.size, (hb.cell (p := ⟨g, 0, none⟩) h.lt).trans h.c0, (hb.cell (p := ⟨g, 1, none⟩) h.lt).trans h.c1, (hb.cell (p := ⟨g, 2, none⟩) h.lt).trans h.c2, (hb.cell (p := ⟨g, 3, none⟩) h.lt).trans h.c3, (hb.cell (p := ⟨g, 4, none⟩) h.lt).trans h.c4, (hb.cell (p := ⟨g, 5, none⟩) h.lt).trans h.c5, fun o => (hb.frozen (p := ⟨g, o, none⟩) h.lt).trans (h.fr o)⟩
theorem CB.new (W : World) (v0 v1 v2 v3 v4 v5 : Int) : CB (W.alloc (.cells #[.int .i64 v0, .int .i64 v1, .int .i64 v2, .int .i64 v3, .int .i64 v4, .int .i64 v5] 29)) W.heap.size v0 v1 v2 v3 v4 v5 :=
 ⟨by simp, by go_simp, by go_simp, by go_simp, by go_simp, by go_simp, by go_simp, fun o => by simp only [World.frozen?, Go.heap_alloc_new]; simp⟩
theorem CB.off (h : CB W g v0 v1 v2 v3 v4 v5) {p : Addr} (hp : p.block ≠ g) (u : Value) : CB (W.setCell p u) g v0 v1 v2 v3 v4 v5 :=
 ⟨by rw [World.size_setCell]; exact h.lt, (World.cell?_setCell_other _ _ _ _ (by intro e; subst e; exact hp rfl)).trans h.c0, (World.cell?_setCell_other _ _ _ _ (by intro e; subst e; exact hp rfl)).trans h.c1, (World.cell?_setCell_other _ _ _ _ (by intro e; subst e; exact hp rfl)).trans h.c2, (World.cell?_setCell_other _ _ _ _ (by intro e; subst e; exact hp rfl)).trans h.c3, (World.cell?_setCell_other _ _ _ _ (by intro e; subst e; exact hp rfl)).trans h.c4, (World.cell?_setCell_other _ _ _ _ (by intro e; subst e; exact hp rfl)).trans h.c5, fun o => by
  have := h.fr o
  rw [← this]
  exact World.frozen?_of_block (Below.heap_setCell W p u g (Ne.symm hp))⟩
theorem CB.set0 (h : CB W g v0 v1 v2 v3 v4 v5) (x : Int) : CB (W.setCell ⟨g, 0, none⟩ (.int .i64 x)) g x v1 v2 v3 v4 v5 :=
 ⟨by rw [World.size_setCell]; exact h.lt, World.cell?_setCell_same _ _ _ h.c0, (World.cell?_setCell_other _ _ _ _ (by intro e; injection e with e1 e2; omega)).trans h.c1, (World.cell?_setCell_other _ _ _ _ (by intro e; injection e with e1 e2; omega)).trans h.c2, (World.cell?_setCell_other _ _ _ _ (by intro e; injection e with e1 e2; omega)).trans h.c3, (World.cell?_setCell_other _ _ _ _ (by intro e; injection e with e1 e2; omega)).trans h.c4, (World.cell?_setCell_other _ _ _ _ (by intro e; injection e with e1 e2; omega)).trans h.c5, fun o => by rw [World.frozen?_setCell]; exact h.fr o⟩
theorem CB.set1 (h : CB W g v0 v1 v2 v3 v4 v5) (x : Int) : CB (W.setCell ⟨g, 1, none⟩ (.int .i64 x)) g v0 x v2 v3 v4 v5 :=
 ⟨by rw [World.size_setCell]; exact h.lt, (World.cell?_setCell_other _ _ _ _ (by intro e; injection e with e1 e2; omega)).trans h.c0, World.cell?_setCell_same _ _ _ h.c1, (World.cell?_setCell_other _ _ _ _ (by intro e; injection e with e1 e2; omega)).trans h.c2, (World.cell?_setCell_other _ _ _ _ (by intro e; injection e with e1 e2; omega)).trans h.c3, (World.cell?_setCell_other _ _ _ _ (by intro e; injection e with e1 e2; omega)).trans h.c4, (World.cell?_setCell_other _ _ _ _ (by intro e; injection e with e1 e2; omega)).trans h.c5, fun o => by rw [World.frozen?_setCell]; exact h.fr o⟩
theorem CB.set2 (h : CB W g v0 v1 v2 v3 v4 v5) (x : Int) : CB (W.setCell ⟨g, 2, none⟩ (.int .i64 x)) g v0 v1 x v3 v4 v5 :=
 ⟨by rw [World.size_setCell]; exact h.lt, (World.cell?_setCell_other _ _ _ _ (by intro e; injection e with e1 e2; omega)).trans h.c0, (World.cell?_setCell_other _ _ _ _ (by intro e; injection e with e1 e2; omega)).trans h.c1, World.cell?_setCell_same _ _ _ h.c2, (World.cell?_setCell_other _ _ _ _ (by intro e; injection e with e1 e2; omega)).trans h.c3, (World.cell?_setCell_other _ _ _ _ (by intro e; injection e with e1 e2; omega)).trans h.c4, (World.cell?_setCell_other _ _ _ _ (by intro e; injection e with e1 e2; omega)).trans h.c5, fun o => by rw [World.frozen?_setCell]; exact h.fr o⟩
theorem CB.set3 (h : CB W g v0 v1 v2 v3 v4 v5) (x : Int) : CB (W.setCell ⟨g, 3, none⟩ (.int .i64 x)) g v0 v1 v2 x v4 v5 :=
 ⟨by rw [World.size_setCell]; exact h.lt, (World.cell?_setCell_other _ _ _ _ (by intro e; injection e with e1 e2; omega)).trans h.c0, (World.cell?_setCell_other _ _ _ _ (by intro e; injection e with e1 e2; omega)).trans h.c1, (World.cell?_setCell_other _ _ _ _ (by intro e; injection e with e1 e2; omega)).trans h.c2, World.cell?_setCell_same _ _ _ h.c3, (World.cell?_setCell_other _ _ _ _ (by intro e; injection e with e1 e2; omega)).trans h.c4, (World.cell?_setCell_other _ _ _ _ (by intro e; injection e with e1 e2; omega)).trans h.c5, fun o => by rw [World.frozen?_setCell]; exact h.fr o⟩
theorem CB.set4 (h : CB W g v0 v1 v2 v3 v4 v5) (x : Int) : CB (W.setCell ⟨g, 4, none⟩ (.int .i64 x)) g v0 v1 v2 v3 x v5 :=
 ⟨by rw [World.size_setCell]; exact h.lt, (World.cell?_setCell_other _ _ _ _ (by intro e; injection e with e1 e2; omega)).trans h.c0, (World.cell?_setCell_other _ _ _ _ (by intro e; injection e with e1 e2; omega)).trans h.c1, (World.cell?_setCell_other _ _ _ _ (by intro e; injection e with e1 e2; omega)).trans h.c2, (World.cell?_setCell_other _ _ _ _ (by intro e; injection e with e1 e2; omega)).trans h.c3, World.cell?_setCell_same _ _ _ h.c4, (World.cell?_setCell_other _ _ _ _ (by intro e; injection e with e1 e2; omega)).trans h.c5, fun o => by rw [World.frozen?_setCell]; exact h.fr o⟩
theorem CB.set5 (h : CB W g v0 v1 v2 v3 v4 v5) (x : Int) : CB (W.setCell ⟨g, 5, none⟩ (.int .i64 x)) g v0 v1 v2 v3 v4 x :=
 ⟨by rw [World.size_setCell]; exact h.lt, (World.cell?_setCell_other _ _ _ _ (by intro e; injection e with e1 e2; omega)).trans h.c0, (World.cell?_setCell_other _ _ _ _ (by intro e; injection e with e1 e2; omega)).trans h.c1, (World.cell?_setCell_other _ _ _ _ (by intro e; injection e with e1 e2; omega)).trans h.c2, (World.cell?_setCell_other _ _ _ _ (by intro e; injection e with e1 e2; omega)).trans h.c3, (World.cell?_setCell_other _ _ _ _ (by intro e; injection e with e1 e2; omega)).trans h.c4, World.cell?_setCell_same _ _ _ h.c5, fun o => by rw [World.frozen?_setCell]; exact h.fr o⟩
theorem CB.put (h : CB W g v0 v1 v2 v3 v4 v5) (x0 x1 x2 x3 x4 x5 : Int) : CB ((((((W.setCell ⟨g, 0, none⟩ (.int .i64 x0)).setCell ⟨g, 1, none⟩ (.int .i64 x1)).setCell ⟨g, 2, none⟩ (.int .i64 x2)).setCell ⟨g, 3, none⟩ (.int .i64 x3)).setCell ⟨g, 4, none⟩ (.int .i64 x4)).setCell ⟨g, 5, none⟩ (.int .i64 x5)) g x0 x1 x2 x3 x4 x5 :=
 (((((h.set0 x0).set1 x1).set2 x2).set3 x3).set4 x4).set5 x5
theorem bel_put {w : World} (h : Below w.heap.size w W) (hg : w.heap.size ≤ g) (u0 u1 u2 u3 u4 u5 : Value) : Below w.heap.size w ((((((W.setCell ⟨g, 0, none⟩ u0).setCell ⟨g, 1, none⟩ u1).setCell ⟨g, 2, none⟩ u2).setCell ⟨g, 3, none⟩ u3).setCell ⟨g, 4, none⟩ u4).setCell ⟨g, 5, none⟩ u5) :=
 bel_set6 (bel_set6 (bel_set6 (bel_set6 (bel_set6 (bel_set6 h (p := ⟨g, 0, none⟩) hg u0) (p := ⟨g, 1, none⟩) hg u1) (p := ⟨g, 2, none⟩) hg u2) (p := ⟨g, 3, none⟩) hg u3) (p := ⟨g, 4, none⟩) hg u4) (p := ⟨g, 5, none⟩) hg u5
end
structure PA (W : World) (ga gc : Nat) : Prop where
 lt : ga < W.heap.size
 c0 : W.cell? ⟨ga, 0, none⟩ = some (.pointer (some ⟨gc, 1, none⟩))
 c1 : W.cell? ⟨ga, 1, none⟩ = some (.pointer (some ⟨gc, 2, none⟩))
 c2 : W.cell? ⟨ga, 2, none⟩ = some (.pointer (some ⟨gc, 3, none⟩))
 c3 : W.cell? ⟨ga, 3, none⟩ = some (.pointer (some ⟨gc, 4, none⟩))
theorem PA.next {W W' : World} {ga gc : Nat} (h : PA W ga gc) (hb : Below W.heap.size W W') : PA W' ga gc :=
 ⟨Nat.lt_of_lt_of_le h.lt hb.size, (hb.cell (p := ⟨ga, 0, none⟩) h.lt).trans h.c0, (hb.cell (p := ⟨ga, 1, none⟩) h.lt).trans h.c1, (hb.cell (p := ⟨ga, 2, none⟩) h.lt).trans h.c2, (hb.cell (p := ⟨ga, 3, none⟩) h.lt).trans h.c3⟩
theorem PA.off {W : World} {ga gc : Nat} (h : PA W ga gc) {p : Addr} (hp : p.block ≠ ga) (u : Value) : PA (W.setCell p u) ga gc :=
 ⟨by rw [World.size_setCell]; exact h.lt, (World.cell?_setCell_other _ _ _ _ (by intro e; subst e; exact hp rfl)).trans h.c0, (World.cell?_setCell_other _ _ _ _ (by intro e; subst e; exact hp rfl)).trans h.c1, (World.cell?_setCell_other _ _ _ _ (by intro e; subst e; exact hp rfl)).trans h.c2, (World.cell?_setCell_other _ _ _ _ (by intro e; subst e; exact hp rfl)).trans h.c3⟩
theorem BxL.off {W : World} {g : Nat} {kind : Int} {B : Option Addr} {m d : Nat} {C : Option Addr} {p q : Nat} (h : BxL W g kind B m d C p q) {a : Addr} (hp : a.block ≠ g) (u : Value) : BxL (W.setCell a u) g kind B m d C p q :=
 ⟨by rw [World.size_setCell]; exact h.lt, (World.cell?_setCell_other _ _ _ _ (by intro e; subst e; exact hp rfl)).trans h.c0, (World.cell?_setCell_other _ _ _ _ (by intro e; subst e; exact hp rfl)).trans h.c1, (World.cell?_setCell_other _ _ _ _ (by intro e; subst e; exact hp rfl)).trans h.c2⟩
def CountsP (V : Int) (ls : List Lnk) (w : World) (e : Ending) (w' : World) : Prop :=
 (validS V ls = true ∧ e = .returned (.tuple #[.agg #[.int .i64 V, .int .i64 (cntL ls 0 ls.length : Int), .int .i64 (cntL ls 1 ls.length : Int), .int .i64 (cntL ls 2 ls.length : Int), .int .i64 (cntL ls 3 ls.length : Int), .int .i64 (degL ls ls.length)], .int .i64 0]) ∧ Below w.heap.size w w') ∨
 (validS V ls = false ∧ e = .returned (.tuple #[.agg #[.int .i64 0, .int .i64 0, .int .i64 0, .int .i64 0, .int .i64 0, .int .i64 0], .int .i64 1]) ∧ Below w.heap.size w w')
theorem degL_nn (ls : List Lnk) : ∀ k, 0 ≤ degL ls k
 | 0 => Int.le_refl _
 | k + 1 => by
   have := degL_nn ls k
   simp only [degL]
   split <;> omega
set_option maxHeartbeats 8000000 in
theorem sysCounts_c (V : Int) (A : Option Addr) (n c : Nat) (ls : List Lnk) (w : World) (h : RdL w A n ls) :
 Calls Tryz.prog 10 #[aggS V A n c] w (CountsP V ls w) := by
 have k0 := bel_alloc w (boxS V A n c)
 have k1 := bel_alloc (w.alloc (boxS V A n c)) (.cells #[.int .i64 0, .int .i64 0, .int .i64 0, .int .i64 0, .int .i64 0, .int .i64 0] 29)
 have P := Lib.hid (k0.trans (k1.mono k0.size))
 have Y := Lib.hid ((BxY.new w V A n c).next k1)
 have RS := Lib.hid (CB.new (w.alloc (boxS V A n c)) 0 0 0 0 0 0)
 rw [World.size_alloc] at RS
 have HI := Lib.hid h
 clear k0 k1 h
 go_enter Tryz.func10, Tryz.ntmps10
 go_upto_region 1 with (fail)
 generalize (w.alloc (boxS V A n c)).alloc (.cells #[.int .i64 0, .int .i64 0, .int .i64 0, .int .i64 0, .int .i64 0, .int .i64 0] 29) = W0 at P Y RS ⊢
 obtain ⟨g, hg⟩ : ∃ g, g = w.heap.size := ⟨_, rfl⟩
 have HG := Lib.hid hg
 rw [← hg] at Y RS ⊢
 clear hg
 have a0 := Y.out.c0
 have a1 := Y.out.c1
 go_wp2_with fail
 refine (sysValid_c V A n c ls _ (HI.out.below P.out)).mono ?_
 rintro e w1 ⟨rfl, hb⟩
 replace P := Lib.hid (P.out.trans (hb.mono P.out.size))
 replace Y := Lib.hid (Y.out.next hb)
 replace RS := Lib.hid (RS.out.next hb)
 clear hb a0 a1
 obtain ⟨v, hv⟩ : ∃ v, v = validS V ls := ⟨_, rfl⟩
 rw [← hv]
 have HV := Lib.hid hv
 clear hv
 have r0 := RS.out.c0
 have r1 := RS.out.c1
 have r2 := RS.out.c2
 have r3 := RS.out.c3
 have r4 := RS.out.c4
 have r5 := RS.out.c5
 have f0 := RS.out.fr 0
 have f1 := RS.out.fr 1
 have f2 := RS.out.fr 2
 have f3 := RS.out.fr 3
 have f4 := RS.out.fr 4
 have f5 := RS.out.fr 5
 cases v with
 | false =>
   go_wp2
   have Q := RS.out.put 0 0 0 0 0 0
   have q0 := Q.c0
   have q1 := Q.c1
   have q2 := Q.c2
   have q3 := Q.c3
   have q4 := Q.c4
   have q5 := Q.c5
   refine bodyPost_ret (v := .tuple #[.agg #[.int .i64 0, .int .i64 0, .int .i64 0, .int .i64 0, .int .i64 0, .int .i64 0], .int .i64 1]) (by simp [results, Tryz.results10, go_sem, q0, q1, q2, q3, q4, q5]) rfl ?_
   exact .inr ⟨HV.out.symm, rfl, bel_put P.out (by have := HG.out; omega) _ _ _ _ _ _⟩
 | true =>
 clear r0 r1 r2 r3 r4 r5 f0 f1 f2 f3 f4 f5
 have a0 := Y.out.c0
 have HBD := Lib.hid (vs_bounds HV.out.symm)
 have hnn : n ≤ 20000 := by have h1 := HBD.out.2.2; have h2 := HI.out.len; omega
 go_upto_region 5 with (fail)
 have k1 := bel_alloc w1 (.cells #[.int .i64 V, .int .i64 0, .int .i64 0, .int .i64 0, .int .i64 0, .int .i64 0] 29)
 have k2 := bel_alloc (w1.alloc (.cells #[.int .i64 V, .int .i64 0, .int .i64 0, .int .i64 0, .int .i64 0, .int .i64 0] 29)) (.cells #[.pointer (some ⟨w1.heap.size, 1, none⟩), .pointer (some ⟨w1.heap.size, 2, none⟩), .pointer (some ⟨w1.heap.size, 3, none⟩), .pointer (some ⟨w1.heap.size, 4, none⟩)] 75)
 have C0 := Lib.hid ((CB.new w1 V 0 0 0 0 0).next k2)
 have A0 := Lib.hid (show PA ((w1.alloc (.cells #[.int .i64 V, .int .i64 0, .int .i64 0, .int .i64 0, .int .i64 0, .int .i64 0] 29)).alloc (.cells #[.pointer (some ⟨w1.heap.size, 1, none⟩), .pointer (some ⟨w1.heap.size, 2, none⟩), .pointer (some ⟨w1.heap.size, 3, none⟩), .pointer (some ⟨w1.heap.size, 4, none⟩)] 75)) (w1.heap.size + 1) w1.heap.size from by
  refine ⟨by simp, ?_, ?_, ?_, ?_⟩ <;> go_simp)
 have P0 := Lib.hid ((P.out.trans (k1.mono P.out.size)).trans (k2.mono (Nat.le_trans P.out.size k1.size)))
 have Y0 := Lib.hid ((Y.out.next k1).next k2)
 have R0 := Lib.hid ((RS.out.next k1).next k2)
 have HGC := Lib.hid (show w.heap.size ≤ w1.heap.size ∧ g + 1 < w1.heap.size from ⟨P.out.size, RS.out.lt⟩)
 clear k1 k2 P Y RS a0
 generalize (w1.alloc (.cells #[.int .i64 V, .int .i64 0, .int .i64 0, .int .i64 0, .int .i64 0, .int .i64 0] 29)).alloc (.cells #[.pointer (some ⟨w1.heap.size, 1, none⟩), .pointer (some ⟨w1.heap.size, 2, none⟩), .pointer (some ⟨w1.heap.size, 3, none⟩), .pointer (some ⟨w1.heap.size, 4, none⟩)] 75) = W1 at C0 A0 P0 Y0 R0 ⊢
 generalize w1.heap.size = gc at C0 A0 HGC ⊢
 have a1 := Y0.out.c1
 go_wp2
 clear a1 Y0
 go_loopw [23] (fun v wr => ∃ j : Nat, v = .int .i64 (j : Int) ∧ j ≤ n ∧ Below w.heap.size w wr ∧ CB wr gc V (cntL ls 0 j : Int) (cntL ls 1 j : Int) (cntL ls 2 j : Int) (cntL ls 3 j : Int) (degL ls j) ∧ PA wr (gc + 1) gc ∧ CB wr (g + 1) 0 0 0 0 0 0) (fun v _ => n - (intOf v).toNat)
 case atStart => exact ⟨0, rfl, Nat.zero_le _, P0.out, C0.out, A0.out, R0.out⟩
 case round =>
  obtain ⟨j, rfl, hj, hp, hc, ha, hr⟩ := hrel
  clear P0 C0 A0 R0
  have P := Lib.hid hp
  have CC := Lib.hid hc
  have PP := Lib.hid ha
  have RR := Lib.hid hr
  clear hp hc ha hr
  by_cases hjn : j < n
  · have t1 : decide ((j : Int) < (n : Int)) = true := decide_eq_true (by omega)
    have t1n : decide (j < n) = true := decide_eq_true hjn
    have hjI : (j : Int) < (n : Int) := by omega
    obtain ⟨bL, oL, rfl, hltL, hcL⟩ := HI.out.at_ (by omega)
    obtain ⟨B1, m1, d1, C1, p1, q1, hK⟩ := hcL j hjn
    obtain ⟨l, hl⟩ : ∃ x, x = lnkAt ls j := ⟨_, rfl⟩
    rw [← hl] at hK
    have HLK := Lib.hid hl
    have hK2 := hK.below hltL P.out
    have c0 := hK2.c0
    have c1 := hK2.c1
    have c2 := hK2.c2
    clear hK2
    have hlk := vs_at HV.out.symm (k := j) (by have := HI.out.len; omega)
    rw [← hl] at hlk
    obtain ⟨kind, vs, ps⟩ := l
    have RP := Lib.hid (show RdP w C1 p1 ps from hK.rp)
    dsimp only at c0
    have HLE := Lib.hid (vl_lens hlk)
    have HPS := Lib.hid (vl_polys hlk)
    have HKD := Lib.hid (show (lnkAt ls j).kind = kind by rw [← hl])
    have k1 := bel_alloc wr (boxL kind B1 m1 d1 C1 p1 q1)
    have XL := Lib.hid (BxL.new wr kind B1 m1 d1 C1 p1 q1)
    have P2 := Lib.hid (P.out.trans (k1.mono P.out.size))
    have C2 := Lib.hid (CC.out.next k1)
    have A2 := Lib.hid (PP.out.next k1)
    have R2 := Lib.hid (RR.out.next k1)
    have HGL := Lib.hid (show gc + 1 < wr.heap.size from PP.out.lt)
    clear k1 P CC PP RR hlk hl hK hcL
    go_upto_region 8 with (fail)
    generalize wr.alloc (boxL kind B1 m1 d1 C1 p1 q1) = W2 at XL P2 C2 A2 R2 ⊢
    generalize wr.heap.size = gl at XL HGL ⊢
    clear c0 c1 c2
    have c0 := XL.out.c0
    have hgc := HGC.out
    have hgl := HGL.out
    have hc0 := cntL_le ls 0 j
    have hc1 := cntL_le ls 1 j
    have hc2 := cntL_le ls 2 j
    have hc3 := cntL_le ls 3 j
    have hcn : ∀ q : Int, cntL ls q (j + 1) = cntL ls q j + (if kind = q then 1 else 0) := fun q => by rw [cntL, HKD.out]
    have hcd : degL ls (j + 1) = if kind = 0 then max (degL ls j) (degP (plyAt (lnkAt ls j).ps 0).ts) else degL ls j := by rw [degL, HKD.out]
    have HCN := Lib.hid (And.intro hcn hcd)
    clear hcn hcd
    rcases (show kind = 0 ∨ kind = 1 ∨ kind = 2 ∨ kind = 3 by have h1 := HLE.out.1; have h2 := HLE.out.2.1; omega) with rfl | rfl | rfl | rfl
    · have C3 := Lib.hid (C2.out.set1 (((cntL ls 0 j : Nat) : Int) + 1))
      have A3 := Lib.hid (A2.out.off (p := ⟨gc, 1, none⟩) (by show gc ≠ gc + 1; omega) (.int .i64 (((cntL ls 0 j : Nat) : Int) + 1)))
      have R3 := Lib.hid (R2.out.off (p := ⟨gc, 1, none⟩) (by show gc ≠ g + 1; omega) (.int .i64 (((cntL ls 0 j : Nat) : Int) + 1)))
      have X3 := Lib.hid (XL.out.off (a := ⟨gc, 1, none⟩) (by show gc ≠ gl; omega) (.int .i64 (((cntL ls 0 j : Nat) : Int) + 1)))
      have P3 := Lib.hid (bel_set6 P2.out (p := ⟨gc, 1, none⟩) hgc.1 (.int .i64 (((cntL ls 0 j : Nat) : Int) + 1)))
      have r0 := C2.out.c1
      have f0 := C2.out.fr 1
      have p0 := A2.out.c0
      obtain ⟨D, hD⟩ : ∃ D, D = degL ls j := ⟨_, rfl⟩
      have HD := Lib.hid hD
      have hDn := degL_nn ls j
      rw [← hD] at C3 hDn
      clear hD
      have HE := Lib.hid (show ∀ D', D' = max D (degP (plyAt (lnkAt ls j).ps 0).ts) → ∀ W', CB W' gc V (((cntL ls 0 j : Nat) : Int) + 1) (cntL ls 1 j : Int) (cntL ls 2 j : Int) (cntL ls 3 j : Int) D' → CB W' gc V (cntL ls 0 (j + 1) : Int) (cntL ls 1 (j + 1) : Int) (cntL ls 2 (j + 1) : Int) (cntL ls 3 (j + 1) : Int) (degL ls (j + 1)) from by
       intro D' hD' W' hW
       have e0 : ((cntL ls 0 (j + 1) : Nat) : Int) = ((cntL ls 0 j : Nat) : Int) + 1 := by rw [HCN.out.1 0]; simp
       have e1 : ((cntL ls 1 (j + 1) : Nat) : Int) = ((cntL ls 1 j : Nat) : Int) := by rw [HCN.out.1 1]; simp
       have e2 : ((cntL ls 2 (j + 1) : Nat) : Int) = ((cntL ls 2 j : Nat) : Int) := by rw [HCN.out.1 2]; simp
       have e3 : ((cntL ls 3 (j + 1) : Nat) : Int) = ((cntL ls 3 j : Nat) : Int) := by rw [HCN.out.1 3]; simp
       have e5 : degL ls (j + 1) = D' := by rw [HCN.out.2, hD', HD.out]; simp
       rw [e0, e1, e2, e3, e5]
       exact hW)
      clear HCN
      have hps : 0 < p1 := by
       have h1 := HLE.out.2.2.1
       have h2 := RP.out.len
       have h3 : polysOf 0 = 1 := by decide
       omega
      generalize cntL ls 0 j = x0 at C2 r0 C3 A3 R3 X3 P3 hc0 HE ⊢
      go_upto_region 9 with (fail)
      generalize W2.setCell ⟨gc, 1, none⟩ (.int .i64 ((x0 : Int) + 1)) = W3 at C3 A3 R3 X3 P3 ⊢
      have RP3 := Lib.hid (RP.out.below P3.out)
      clear r0 f0 p0 c0 C2 A2 R2 XL P2 RP
      have C2 := C3
      have A2 := A3
      have R2 := R3
      have XL := X3
      have P2 := P3
      clear C3 A3 R3 X3 P3
      have c0 := XL.out.c0
      obtain ⟨bP, oP, rfl, hltP, hcP⟩ := RP3.out.at_ hps
      obtain ⟨A4, n4, c4, hP⟩ := hcP 0 hps
      have HPL := HPS.out 0 (by have := RP3.out.len; omega)
      have HLP := Lib.hid (show (lnkAt ls j).ps = ps by rw [← HLK.out])
      obtain ⟨pl, hpl⟩ : ∃ x, x = plyAt ps 0 := ⟨_, rfl⟩
      have HPQ := Lib.hid hpl
      rw [← hpl] at hP HPL
      obtain ⟨V', ts⟩ := pl
      have XP := Lib.hid (show PlA W3 bP oP ⟨V', ts⟩ A4 n4 c4 from ⟨hltP, by have h := hP; rwa [Nat.zero_mul, Nat.add_zero] at h⟩)
      have PT := Lib.hid hP.rt
      obtain ⟨dg, hdg⟩ : ∃ dg, dg = degP ts := ⟨_, rfl⟩
      have HDG := Lib.hid (show degV V' ts = dg by rw [hdg]; unfold degV; rw [if_pos HPL.2])
      have HE2 := Lib.hid (show ∀ D', D' = max D dg → D' = max D (degP (plyAt (lnkAt ls j).ps 0).ts) from fun D' h => by rw [HLP.out, ← HPQ.out, h, hdg])
      clear hpl hP hcP HPL hdg HPQ RP3
      go_upto_region 10 with (fail)
      clear c0
      refine wp_region_tail (S := (fun w' => w'.cell? ⟨gc, 5, none⟩ = some (.int .i64 D) ∧ w'.cell? ⟨gl, 2, none⟩ = some (.slice (some ⟨bP, oP, none⟩) p1 q1) ∧ w'.cell? ⟨bP, oP, none⟩ = some (.int .i64 V') ∧ w'.cell? ⟨bP, (oP + 1), none⟩ = some (.slice A4 n4 c4))) 8 (by kernel_rfl) (by kernel_rfl) (by intro c a d v w h; cases d <;> exact h) (⟨cell_drq C2.out.c5, cell_drq XL.out.c2, cell_drq XP.out.is.c0, cell_drq XP.out.is.c1⟩) (fun QT hT hP hHeld => ?_)
      simp only [List.extract_toArray, List.extract_eq_take_drop, List.drop_zero, Nat.sub_zero, List.take_succ_cons, List.take_zero]
      have HT := Lib.hid hT
      clear hT
      replace P2 := Lib.hid (P2.out.trans ((Below.refl W3.heap.size W3).drew.mono P2.out.size))
      replace C2 := Lib.hid (C2.out.next (Below.refl W3.heap.size W3).drew)
      replace A2 := Lib.hid (A2.out.next (Below.refl W3.heap.size W3).drew)
      replace R2 := Lib.hid (R2.out.next (Below.refl W3.heap.size W3).drew)
      replace XL := Lib.hid (XL.out.next (Below.refl W3.heap.size W3).drew)
      replace XP := Lib.hid (XP.out.next (Below.refl W3.heap.size W3).drew)
      replace PT := Lib.hid (PT.out.below (Below.refl W3.heap.size W3).drew)
      generalize W3.drew = D1 at P2 C2 A2 R2 XL XP PT hHeld ⊢
      refine tkk 0 38 rfl rfl (by kernel_rfl) (hP · · _) (by rfl) (fun w h => by obtain ⟨h0, h1, h2, h3⟩ := h; go_simp; rfl) (by assumption) ?_
      simp only [set0, set1]
      refine tkk 1 39 rfl rfl (by kernel_rfl) (hP · · _) (by rfl) (fun w h => by obtain ⟨h0, h1, h2, h3⟩ := h; go_simp; rfl) (by assumption) ?_
      simp only [set0, set1]
      refine tkk 2 40 rfl rfl (by kernel_rfl) (hP · · _) (by rfl) (fun w h => by obtain ⟨h0, h1, h2, h3⟩ := h; go_simp; rfl) (by assumption) ?_
      simp only [set0, set1]
      refine tkk 3 41 rfl rfl (by kernel_rfl) (hP · · _) (by rfl) (fun w h => by obtain ⟨h0, h1, h2, h3⟩ := h; go_simp; rfl) (by assumption) ?_
      simp only [set0, set1]
      refine tkk 4 42 rfl rfl (by kernel_rfl) (hP · · _) (by rfl) (fun w h => by obtain ⟨h0, h1, h2, h3⟩ := h; go_simp; rfl) (by assumption) ?_
      simp only [set0, set1]
      refine tkk 5 43 rfl rfl (by kernel_rfl) (hP · · _) (by rfl) (fun w h => by obtain ⟨h0, h1, h2, h3⟩ := h; go_simp; rfl) (by assumption) ?_
      simp only [set0, set1]
      refine wpAnyH_ready (rs := [6]) (by kernel_rfl) (by simp) ?_
      refine AllReadyH.cons rfl (fun K hK => ?_) AllReadyH.nil
      go_simp
      refine (polyDegree_c V' A4 n4 c4 ts _ PT.out).mono ?_
      rintro e v2 ⟨rfl, hb⟩
      rw [show degV V' ts = dg from HDG.out]
      replace P2 := Lib.hid (P2.out.trans (hb.mono P2.out.size))
      replace C2 := Lib.hid (C2.out.next hb)
      replace A2 := Lib.hid (A2.out.next hb)
      replace R2 := Lib.hid (R2.out.next hb)
      replace XL := Lib.hid (XL.out.next hb)
      replace XP := Lib.hid (XP.out.next hb)
      clear hb hHeld
      refine hK.out _ _ (⟨C2.out.c5, XL.out.c2, XP.out.is.c0, XP.out.is.c1⟩) (fun hHeld => ?_)
      clear hK K
      refine tkk 7 45 rfl rfl (by kernel_rfl) (hP · · _) (by rfl) (fun w h => by obtain ⟨h0, h1, h2, h3⟩ := h; go_simp; rfl) (by assumption) ?_
      clear hHeld
      refine wpAnyH_done (by kernel_rfl) ?_ _
      refine HT.out _ _ ?_
      clear HT hP QT
      obtain ⟨M, hM⟩ : ∃ M, M = (if D < dg then dg else D) := ⟨_, rfl⟩
      rw [← hM]
      have HMX := Lib.hid (show M = max D dg by rw [hM]; split <;> omega)
      clear hM
      have r0 := C2.out.c5
      have f0 := C2.out.fr 5
      refine wpList_step fun K hK => ?_
      go_simp
      refine hK _ _ ?_
      clear hK K
      refine wpList_step fun K hK => ?_
      go_simp
      refine hK _ _ ?_
      clear hK K
      refine wpList_nil ?_
      have C5 := Lib.hid (HE.out M (HE2.out M HMX.out) _ (C2.out.set5 M))
      have A5 := Lib.hid (A2.out.off (p := ⟨gc, 5, none⟩) (by show gc ≠ gc + 1; omega) (.int .i64 M))
      have R5 := Lib.hid (R2.out.off (p := ⟨gc, 5, none⟩) (by show gc ≠ g + 1; omega) (.int .i64 M))
      have P5 := Lib.hid (bel_set6 P2.out (p := ⟨gc, 5, none⟩) hgc.1 (.int .i64 M))
      clear r0 f0 C2 A2 R2 P2 XL XP PT HE HE2 HMX
      generalize v2.setCell ⟨gc, 5, none⟩ (.int .i64 M) = W9 at C5 A5 R5 P5 ⊢
      go_wp2
      go_roundw
      case measure => simp [intOf]; omega
      case rel => exact ⟨j + 1, by go_num, by omega, P5.out, C5.out, A5.out, R5.out⟩
    · have C3 := Lib.hid (C2.out.set2 (((cntL ls 1 j : Nat) : Int) + 1))
      have A3 := Lib.hid (A2.out.off (p := ⟨gc, 2, none⟩) (by show gc ≠ gc + 1; omega) (.int .i64 (((cntL ls 1 j : Nat) : Int) + 1)))
      have R3 := Lib.hid (R2.out.off (p := ⟨gc, 2, none⟩) (by show gc ≠ g + 1; omega) (.int .i64 (((cntL ls 1 j : Nat) : Int) + 1)))
      have X3 := Lib.hid (XL.out.off (a := ⟨gc, 2, none⟩) (by show gc ≠ gl; omega) (.int .i64 (((cntL ls 1 j : Nat) : Int) + 1)))
      have P3 := Lib.hid (bel_set6 P2.out (p := ⟨gc, 2, none⟩) hgc.1 (.int .i64 (((cntL ls 1 j : Nat) : Int) + 1)))
      have r0 := C2.out.c2
      have f0 := C2.out.fr 2
      have p0 := A2.out.c1
      obtain ⟨D, hD⟩ : ∃ D, D = degL ls j := ⟨_, rfl⟩
      have HD := Lib.hid hD
      have hDn := degL_nn ls j
      rw [← hD] at C3 hDn
      clear hD
      have C4 := Lib.hid (show CB (W2.setCell ⟨gc, 2, none⟩ (.int .i64 (((cntL ls 1 j : Nat) : Int) + 1))) gc V (cntL ls 0 (j + 1) : Int) (cntL ls 1 (j + 1) : Int) (cntL ls 2 (j + 1) : Int) (cntL ls 3 (j + 1) : Int) (degL ls (j + 1)) from by
       have e0 : ((cntL ls 0 (j + 1) : Nat) : Int) = ((cntL ls 0 j : Nat) : Int) := by rw [HCN.out.1 0]; simp
       have e1 : ((cntL ls 1 (j + 1) : Nat) : Int) = ((cntL ls 1 j : Nat) : Int) + 1 := by rw [HCN.out.1 1]; simp
       have e2 : ((cntL ls 2 (j + 1) : Nat) : Int) = ((cntL ls 2 j : Nat) : Int) := by rw [HCN.out.1 2]; simp
       have e3 : ((cntL ls 3 (j + 1) : Nat) : Int) = ((cntL ls 3 j : Nat) : Int) := by rw [HCN.out.1 3]; simp
       have e5 : degL ls (j + 1) = D := by rw [HCN.out.2, HD.out]; simp
       rw [e0, e1, e2, e3, e5]
       exact C3.out)
      clear HCN C3
      generalize cntL ls 1 j = x0 at C2 r0 C4 A3 R3 X3 P3 hc1 ⊢
      go_upto_region 9 with (fail)
      generalize W2.setCell ⟨gc, 2, none⟩ (.int .i64 ((x0 : Int) + 1)) = W3 at C4 A3 R3 X3 P3 ⊢
      clear r0 f0 p0 c0 C2 A2 R2 XL P2
      have c0 := X3.out.c0
      go_wp2
      go_roundw
      case measure => simp [intOf]; omega
      case rel => exact ⟨j + 1, by go_num, by omega, P3.out, C4.out, A3.out, R3.out⟩
    · have C3 := Lib.hid (C2.out.set3 (((cntL ls 2 j : Nat) : Int) + 1))
      have A3 := Lib.hid (A2.out.off (p := ⟨gc, 3, none⟩) (by show gc ≠ gc + 1; omega) (.int .i64 (((cntL ls 2 j : Nat) : Int) + 1)))
      have R3 := Lib.hid (R2.out.off (p := ⟨gc, 3, none⟩) (by show gc ≠ g + 1; omega) (.int .i64 (((cntL ls 2 j : Nat) : Int) + 1)))
      have X3 := Lib.hid (XL.out.off (a := ⟨gc, 3, none⟩) (by show gc ≠ gl; omega) (.int .i64 (((cntL ls 2 j : Nat) : Int) + 1)))
      have P3 := Lib.hid (bel_set6 P2.out (p := ⟨gc, 3, none⟩) hgc.1 (.int .i64 (((cntL ls 2 j : Nat) : Int) + 1)))
      have r0 := C2.out.c3
      have f0 := C2.out.fr 3
      have p0 := A2.out.c2
      obtain ⟨D, hD⟩ : ∃ D, D = degL ls j := ⟨_, rfl⟩
      have HD := Lib.hid hD
      have hDn := degL_nn ls j
      rw [← hD] at C3 hDn
      clear hD
      have C4 := Lib.hid (show CB (W2.setCell ⟨gc, 3, none⟩ (.int .i64 (((cntL ls 2 j : Nat) : Int) + 1))) gc V (cntL ls 0 (j + 1) : Int) (cntL ls 1 (j + 1) : Int) (cntL ls 2 (j + 1) : Int) (cntL ls 3 (j + 1) : Int) (degL ls (j + 1)) from by
       have e0 : ((cntL ls 0 (j + 1) : Nat) : Int) = ((cntL ls 0 j : Nat) : Int) := by rw [HCN.out.1 0]; simp
       have e1 : ((cntL ls 1 (j + 1) : Nat) : Int) = ((cntL ls 1 j : Nat) : Int) := by rw [HCN.out.1 1]; simp
       have e2 : ((cntL ls 2 (j + 1) : Nat) : Int) = ((cntL ls 2 j : Nat) : Int) + 1 := by rw [HCN.out.1 2]; simp
       have e3 : ((cntL ls 3 (j + 1) : Nat) : Int) = ((cntL ls 3 j : Nat) : Int) := by rw [HCN.out.1 3]; simp
       have e5 : degL ls (j + 1) = D := by rw [HCN.out.2, HD.out]; simp
       rw [e0, e1, e2, e3, e5]
       exact C3.out)
      clear HCN C3
      generalize cntL ls 2 j = x0 at C2 r0 C4 A3 R3 X3 P3 hc2 ⊢
      go_upto_region 9 with (fail)
      generalize W2.setCell ⟨gc, 3, none⟩ (.int .i64 ((x0 : Int) + 1)) = W3 at C4 A3 R3 X3 P3 ⊢
      clear r0 f0 p0 c0 C2 A2 R2 XL P2
      have c0 := X3.out.c0
      go_wp2
      go_roundw
      case measure => simp [intOf]; omega
      case rel => exact ⟨j + 1, by go_num, by omega, P3.out, C4.out, A3.out, R3.out⟩
    · have C3 := Lib.hid (C2.out.set4 (((cntL ls 3 j : Nat) : Int) + 1))
      have A3 := Lib.hid (A2.out.off (p := ⟨gc, 4, none⟩) (by show gc ≠ gc + 1; omega) (.int .i64 (((cntL ls 3 j : Nat) : Int) + 1)))
      have R3 := Lib.hid (R2.out.off (p := ⟨gc, 4, none⟩) (by show gc ≠ g + 1; omega) (.int .i64 (((cntL ls 3 j : Nat) : Int) + 1)))
      have X3 := Lib.hid (XL.out.off (a := ⟨gc, 4, none⟩) (by show gc ≠ gl; omega) (.int .i64 (((cntL ls 3 j : Nat) : Int) + 1)))
      have P3 := Lib.hid (bel_set6 P2.out (p := ⟨gc, 4, none⟩) hgc.1 (.int .i64 (((cntL ls 3 j : Nat) : Int) + 1)))
      have r0 := C2.out.c4
      have f0 := C2.out.fr 4
      have p0 := A2.out.c3
      obtain ⟨D, hD⟩ : ∃ D, D = degL ls j := ⟨_, rfl⟩
      have HD := Lib.hid hD
      have hDn := degL_nn ls j
      rw [← hD] at C3 hDn
      clear hD
      have C4 := Lib.hid (show CB (W2.setCell ⟨gc, 4, none⟩ (.int .i64 (((cntL ls 3 j : Nat) : Int) + 1))) gc V (cntL ls 0 (j + 1) : Int) (cntL ls 1 (j + 1) : Int) (cntL ls 2 (j + 1) : Int) (cntL ls 3 (j + 1) : Int) (degL ls (j + 1)) from by
       have e0 : ((cntL ls 0 (j + 1) : Nat) : Int) = ((cntL ls 0 j : Nat) : Int) := by rw [HCN.out.1 0]; simp
       have e1 : ((cntL ls 1 (j + 1) : Nat) : Int) = ((cntL ls 1 j : Nat) : Int) := by rw [HCN.out.1 1]; simp
       have e2 : ((cntL ls 2 (j + 1) : Nat) : Int) = ((cntL ls 2 j : Nat) : Int) := by rw [HCN.out.1 2]; simp
       have e3 : ((cntL ls 3 (j + 1) : Nat) : Int) = ((cntL ls 3 j : Nat) : Int) + 1 := by rw [HCN.out.1 3]; simp
       have e5 : degL ls (j + 1) = D := by rw [HCN.out.2, HD.out]; simp
       rw [e0, e1, e2, e3, e5]
       exact C3.out)
      clear HCN C3
      generalize cntL ls 3 j = x0 at C2 r0 C4 A3 R3 X3 P3 hc3 ⊢
      go_upto_region 9 with (fail)
      generalize W2.setCell ⟨gc, 4, none⟩ (.int .i64 ((x0 : Int) + 1)) = W3 at C4 A3 R3 X3 P3 ⊢
      clear r0 f0 p0 c0 C2 A2 R2 XL P2
      have c0 := X3.out.c0
      go_wp2
      go_roundw
      case measure => simp [intOf]; omega
      case rel => exact ⟨j + 1, by go_num, by omega, P3.out, C4.out, A3.out, R3.out⟩
  · have e : j = ls.length := by have := HI.out.len; omega
    have t1 : decide ((j : Int) < (n : Int)) = false := decide_eq_false (by omega)
    have t1n : decide (j < n) = false := decide_eq_false hjn
    rw [e] at CC
    have r0 := RR.out.c0
    have r1 := RR.out.c1
    have r2 := RR.out.c2
    have r3 := RR.out.c3
    have r4 := RR.out.c4
    have r5 := RR.out.c5
    have f0 := RR.out.fr 0
    have f1 := RR.out.fr 1
    have f2 := RR.out.fr 2
    have f3 := RR.out.fr 3
    have f4 := RR.out.fr 4
    have f5 := RR.out.fr 5
    obtain ⟨x0, hx0⟩ : ∃ x, x = ((cntL ls 0 ls.length : Nat) : Int) := ⟨_, rfl⟩
    obtain ⟨x1, hx1⟩ : ∃ x, x = ((cntL ls 1 ls.length : Nat) : Int) := ⟨_, rfl⟩
    obtain ⟨x2, hx2⟩ : ∃ x, x = ((cntL ls 2 ls.length : Nat) : Int) := ⟨_, rfl⟩
    obtain ⟨x3, hx3⟩ : ∃ x, x = ((cntL ls 3 ls.length : Nat) : Int) := ⟨_, rfl⟩
    obtain ⟨x5, hx5⟩ : ∃ x, x = degL ls ls.length := ⟨_, rfl⟩
    rw [← hx0, ← hx1, ← hx2, ← hx3, ← hx5] at CC
    have HR := Lib.hid (show ∀ W', Below w.heap.size w W' → CountsP V ls w (.returned (.tuple #[.agg #[.int .i64 V, .int .i64 x0, .int .i64 x1, .int .i64 x2, .int .i64 x3, .int .i64 x5], .int .i64 0])) W' from fun W' hW => .inl ⟨HV.out.symm, by rw [hx0, hx1, hx2, hx3, hx5], hW⟩)
    clear hx0 hx1 hx2 hx3 hx5 e
    have s0 := CC.out.c0
    have s1 := CC.out.c1
    have s2 := CC.out.c2
    have s3 := CC.out.c3
    have s4 := CC.out.c4
    have s5 := CC.out.c5
    go_wp2
    have Q := RR.out.put V x0 x1 x2 x3 x5
    have q0 := Q.c0
    have q1 := Q.c1
    have q2 := Q.c2
    have q3 := Q.c3
    have q4 := Q.c4
    have q5 := Q.c5
    refine bodyPost_ret (v := .tuple #[.agg #[.int .i64 V, .int .i64 x0, .int .i64 x1, .int .i64 x2, .int .i64 x3, .int .i64 x5], .int .i64 0]) (by simp [results, Tryz.results10, go_sem, q0, q1, q2, q3, q4, q5]) rfl ?_
    exact HR.out _ (bel_put P.out (by have := HG.out; omega) _ _ _ _ _ _)
end Go.Proofs.YteabokkofoomkaaGreat

import Derived.Test.YteabokkofoomkaaGreatCba
import Derived.Test.YteabokkofoomkaaGreatCar
import Derived.Test.YteabokkofoomkaaGreatCay
import Derived.Test.YteabokkofoomkaaGreatCax
import Derived.Deep.QuietTactic
import Derived.BigQuiet
set_option maxRecDepth 100000
namespace Go.Proofs.YteabokkofoomkaaGreat
open Go.RowKit Go.Shelf Go.Deep
def varP (V i : Nat) : List Trm := [trmOf ⟨1, unitE V i⟩]
set_option maxHeartbeats 4000000 in
theorem powers1_c (i : Nat) (w : World) (hi : i < 2) :
 Calls Tryz.prog 69 #[.int .i64 (i : Int)] w (PolyR 2 (varP 2 i) w) := by
 have hb0 := bel_alloc w (boxP 0 none 0 0)
 have P := Lib.hid hb0
 have RS := Lib.hid (RP0.new w)
 have HI := Lib.hid hi
 clear hb0 hi
 go_enter Tryz.func69, Tryz.ntmps69
 go_upto_region 1 with (fail)
 generalize w.alloc (boxP 0 none 0 0) = W0 at P RS ⊢
 obtain ⟨g, hg⟩ : ∃ g, g = w.heap.size := ⟨_, rfl⟩
 have HG := Lib.hid (show w.heap.size ≤ g by rw [hg]; exact Nat.le_refl _)
 rw [← hg] at RS ⊢
 clear hg
 go_wp2_with fail
 refine (refVar_c 2 i _ (by omega) HI.out).mono ?_
 rintro e w1 ⟨A, n, c, rfl, hT, hn, hc, hb⟩
 replace P := Lib.hid (P.out.trans (hb.mono P.out.size))
 replace RS := Lib.hid (RS.out.next hb)
 have HT := Lib.hid hT
 have HN := Lib.hid (And.intro hn hc)
 clear hb hT hn hc
 have r0 := RS.out.bx.c0
 have r1 := RS.out.bx.c1
 have f0 := RS.out.fr 0
 have f1 := RS.out.fr 1
 go_wp2
 have Q := RS.out.bx.put 2 A n c
 have q0 := Q.c0
 have q1 := Q.c1
 refine bodyPost_ret (v := aggP 2 A n c) (by simp [results, Tryz.results69, go_sem, q0, q1]) rfl ?_
 exact ⟨A, n, c, rfl, rdT_two RS.out.bx HT.out (fun k hk => by
  have h1 := HT.out.len
  obtain rfl : k = 0 := by simp at h1; omega
  show (unitE 2 i).length ≠ 1
  rw [unitE_len]; omega) _ _, HN.out.1, HN.out.2, below_store P.out HG.out _ _⟩
def powL : List Lnk := [⟨2, [0, 1], [⟨2, (constZ 2 2).map trmOf⟩, ⟨2, varP 2 0⟩, ⟨2, varP 2 1⟩]⟩]
def SysR (V : Int) (ls : List Lnk) (w : World) (e : Ending) (w' : World) : Prop :=
 ∃ A n c, e = .returned (aggS V A n c) ∧ RdL w' A n ls ∧ n ≤ c ∧ c ≤ 9223372036854775807 ∧ Below w.heap.size w w'
theorem RP0.newS (W : World) : RP0 (W.alloc (boxS 0 none 0 0)) W.heap.size :=
 ⟨⟨by simp, by go_simp, by go_simp⟩, fun o => by simp only [World.frozen?, Go.heap_alloc_new]; simp⟩
structure PM (W : World) (A : Option Addr) (n c : Nat) (ts : List Trm) : Prop where
 rt : RdT W A n ts
 nc : n ≤ c
 cm : c ≤ 9223372036854775807
theorem PM.next {W W' : World} {A : Option Addr} {n c : Nat} {ts : List Trm} (h : PM W A n c ts) (hb : Below W.heap.size W W') : PM W' A n c ts := ⟨h.rt.below hb, h.nc, h.cm⟩
theorem PM.two {W : World} {A : Option Addr} {n c : Nat} {ts : List Trm} (h : PM W A n c ts) {g : Nat} {V : Int} {L : Option Addr} {j k : Nat} (hg : BxP W g V L j k) (hm : ∀ i, i < n → (trmAt ts i).es.length ≠ 1) (u v : Value) : PM ((W.setCell ⟨g, 0, none⟩ u).setCell ⟨g, 1, none⟩ v) A n c ts := ⟨rdT_two hg h.rt hm u v, h.nc, h.cm⟩
abbrev row3 (V0 : Int) (A0 : Option Addr) (n0 c0 : Nat) (V1 : Int) (A1 : Option Addr) (n1 c1 : Nat) (V2 : Int) (A2 : Option Addr) (n2 c2 : Nat) : Obj := .cells #[.int .i64 V0, .slice A0 n0 c0, .int .i64 V1, .slice A1 n1 c1, .int .i64 V2, .slice A2 n2 c2] 45
structure R3 (W : World) (g : Nat) (V0 : Int) (A0 : Option Addr) (n0 c0 : Nat) (V1 : Int) (A1 : Option Addr) (n1 c1 : Nat) (V2 : Int) (A2 : Option Addr) (n2 c2 : Nat) : Prop where
 lt : g < W.heap.size
 e0 : W.cell? ⟨g, 0, none⟩ = some (.int .i64 V0)
 e1 : W.cell? ⟨g, 1, none⟩ = some (.slice A0 n0 c0)
 e2 : W.cell? ⟨g, 2, none⟩ = some (.int .i64 V1)
 e3 : W.cell? ⟨g, 3, none⟩ = some (.slice A1 n1 c1)
 e4 : W.cell? ⟨g, 4, none⟩ = some (.int .i64 V2)
 e5 : W.cell? ⟨g, 5, none⟩ = some (.slice A2 n2 c2)
section
variable {W W' : World} {g : Nat} {V0 : Int} {A0 : Option Addr} {n0 c0 : Nat} {V1 : Int} {A1 : Option Addr} {n1 c1 : Nat} {V2 : Int} {A2 : Option Addr} {n2 c2 : Nat}
theorem R3.new : R3 (W.alloc (row3 V0 A0 n0 c0 V1 A1 n1 c1 V2 A2 n2 c2)) W.heap.size V0 A0 n0 c0 V1 A1 n1 c1 V2 A2 n2 c2 :=
 ⟨by simp, by go_simp, by go_simp, by go_simp, by go_simp, by go_simp, by go_simp⟩
theorem R3.next (h : R3 W g V0 A0 n0 c0 V1 A1 n1 c1 V2 A2 n2 c2) (hb : Below W.heap.size W W') : R3 W' g V0 A0 n0 c0 V1 A1 n1 c1 V2 A2 n2 c2 :=
 ⟨Nat.lt_of_lt_of_le h.lt hb.size, (hb.cell (p := ⟨g, 0, none⟩) h.lt).trans h.e0, (hb.cell (p := ⟨g, 1, none⟩) h.lt).trans h.e1, (hb.cell (p := ⟨g, 2, none⟩) h.lt).trans h.e2, (hb.cell (p := ⟨g, 3, none⟩) h.lt).trans h.e3, (hb.cell (p := ⟨g, 4, none⟩) h.lt).trans h.e4, (hb.cell (p := ⟨g, 5, none⟩) h.lt).trans h.e5⟩
theorem R3.off (h : R3 W g V0 A0 n0 c0 V1 A1 n1 c1 V2 A2 n2 c2) {a : Addr} (hp : a.block ≠ g) (u : Value) : R3 (W.setCell a u) g V0 A0 n0 c0 V1 A1 n1 c1 V2 A2 n2 c2 :=
 ⟨by rw [World.size_setCell]; exact h.lt, (World.cell?_setCell_other _ _ _ _ (by intro e; subst e; exact hp rfl)).trans h.e0, (World.cell?_setCell_other _ _ _ _ (by intro e; subst e; exact hp rfl)).trans h.e1, (World.cell?_setCell_other _ _ _ _ (by intro e; subst e; exact hp rfl)).trans h.e2, (World.cell?_setCell_other _ _ _ _ (by intro e; subst e; exact hp rfl)).trans h.e3, (World.cell?_setCell_other _ _ _ _ (by intro e; subst e; exact hp rfl)).trans h.e4, (World.cell?_setCell_other _ _ _ _ (by intro e; subst e; exact hp rfl)).trans h.e5⟩
theorem R3.rd (h : R3 W g V0 A0 n0 c0 V1 A1 n1 c1 V2 A2 n2 c2) {t0 t1 t2 : List Trm} (p0 : PM W A0 n0 c0 t0) (p1 : PM W A1 n1 c1 t1) (p2 : PM W A2 n2 c2 t2) : RdP W (some ⟨g, 0, none⟩) 3 [⟨V0, t0⟩, ⟨V1, t1⟩, ⟨V2, t2⟩] := by
 refine ⟨rfl, fun _ => ⟨g, 0, rfl, h.lt, fun k hk => ?_⟩⟩
 rcases (show k = 0 ∨ k = 1 ∨ k = 2 by omega) with rfl | rfl | rfl
 · exact ⟨A0, n0, c0, h.e0, h.e1, p0.rt, p0.nc, p0.cm⟩
 · exact ⟨A1, n1, c1, h.e2, h.e3, p1.rt, p1.nc, p1.cm⟩
 · exact ⟨A2, n2, c2, h.e4, h.e5, p2.rt, p2.nc, p2.cm⟩
end
theorem BxL.off2 {W : World} {g : Nat} {kind : Int} {B : Option Addr} {m d : Nat} {C : Option Addr} {p q : Nat} (h : BxL W g kind B m d C p q) {a : Addr} (hp : a.block ≠ g) (u : Value) : BxL (W.setCell a u) g kind B m d C p q :=
 ⟨by rw [World.size_setCell]; exact h.lt, (World.cell?_setCell_other _ _ _ _ (by intro e; subst e; exact hp rfl)).trans h.c0, (World.cell?_setCell_other _ _ _ _ (by intro e; subst e; exact hp rfl)).trans h.c1, (World.cell?_setCell_other _ _ _ _ (by intro e; subst e; exact hp rfl)).trans h.c2⟩
theorem rdL_one {W : World} {g : Nat} {kind : Int} {B : Option Addr} {m d : Nat} {C : Option Addr} {p q : Nat} (h : BxL W g kind B m d C p q) {vs : List Int} {ps : List Ply} (hr : RdI W B m vs) (hp : RdP W C p ps) (md : m ≤ d) (dm : d ≤ 9223372036854775807) (pq : p ≤ q) (qm : q ≤ 9223372036854775807) : RdL W (some ⟨g, 0, none⟩) 1 [⟨kind, vs, ps⟩] :=
 ⟨rfl, fun _ => ⟨g, 0, rfl, h.lt, fun k hk => by
  obtain rfl : k = 0 := by omega
  exact ⟨B, m, d, C, p, q, h.c0, h.c1, h.c2, hr, hp, md, dm, pq, qm⟩⟩⟩
theorem var_two {V i : Nat} (hV : V ≠ 1) {k n : Nat} (hl : (varP V i).length = n) (hk : k < n) : (trmAt (varP V i) k).es.length ≠ 1 := by
 obtain rfl : k = 0 := by have h1 : (varP V i).length = 1 := rfl; omega
 show (unitE V i).length ≠ 1
 rw [unitE_len]; exact hV
theorem const_two {V : Nat} {z : Int} (hV : V ≠ 1) {k n : Nat} (hl : ((constZ z V).map trmOf).length = n) (hk : k < n) : (trmAt ((constZ z V).map trmOf) k).es.length ≠ 1 := by
 have h1 : (constZ z V).length ≤ 1 := by unfold constZ; split <;> simp
 rw [List.length_map] at hl
 obtain rfl : k = 0 := by omega
 unfold constZ at hl ⊢
 split
 · rename_i hz; rw [if_pos hz] at hl; simp at hl; omega
 · simp [trmAt, trmOf]; exact hV
set_option maxHeartbeats 8000000 in
theorem powers_c (w : World) : Calls Tryz.prog 34 #[] w (SysR 2 powL w) := by
 have hb0 := bel_alloc w (boxS 0 none 0 0)
 have k1 := bel_alloc (w.alloc (boxS 0 none 0 0)) (.cells #[.int .i64 0, .int .i64 1] 3)
 have P := Lib.hid (hb0.trans (k1.mono hb0.size))
 have RS := Lib.hid ((RP0.newS w).next k1)
 have RV := Lib.hid (show RZ ((w.alloc (boxS 0 none 0 0)).alloc (.cells #[.int .i64 0, .int .i64 1] 3)) (w.alloc (boxS 0 none 0 0)).heap.size [0, 1] from RZ.new (w.alloc (boxS 0 none 0 0)) [0, 1])
 rw [World.size_alloc] at RV
 clear hb0 k1
 go_enter Tryz.func34, Tryz.ntmps34
 go_wp2_with fail
 generalize (w.alloc (boxS 0 none 0 0)).alloc (.cells #[.int .i64 0, .int .i64 1] 3) = W0 at P RS RV ⊢
 obtain ⟨g, hg⟩ : ∃ g, g = w.heap.size := ⟨_, rfl⟩
 have HG := Lib.hid (show w.heap.size ≤ g by rw [hg]; exact Nat.le_refl _)
 rw [← hg] at RS RV ⊢
 clear hg
 refine (rofZ 2 _ (by omega) (by omega)).mono ?_
 rintro e w1 ⟨t1, A1, n1, c1, rfl, hi1, hb⟩
 replace P := Lib.hid (P.out.trans (hb.mono P.out.size))
 replace RS := Lib.hid (RS.out.next hb)
 replace RV := Lib.hid (RV.out.next hb)
 have I1 := Lib.hid hi1
 clear hb hi1
 go_wp2_with fail
 refine (refConst_c 2 4096 I1.out (by show (2 : Int).natAbs < pw 4096; exact Nat.lt_of_lt_of_le (show (2 : Int).natAbs < pw 1 by rw [pw_one]; decide) (pw_le (by omega))) (by omega) (by omega) (by omega)).mono ?_
 rintro e w2 ⟨Aa, na, ca, rfl, hT, hn, hc, hb⟩
 replace P := Lib.hid (P.out.trans (hb.mono P.out.size))
 replace RS := Lib.hid (RS.out.next hb)
 replace RV := Lib.hid (RV.out.next hb)
 have PA := Lib.hid (show PM w2 Aa na ca ((constZ 2 2).map trmOf) from ⟨hT, hn, hc⟩)
 clear hb hT hn hc I1
 go_wp2_with fail
 refine (powers1_c 0 _ (by omega)).mono ?_
 rintro e w3 ⟨Ab, nb, cb, rfl, hT, hn, hc, hb⟩
 replace P := Lib.hid (P.out.trans (hb.mono P.out.size))
 replace RS := Lib.hid (RS.out.next hb)
 replace RV := Lib.hid (RV.out.next hb)
 replace PA := Lib.hid (PA.out.next hb)
 have PB := Lib.hid (show PM w3 Ab nb cb (varP 2 0) from ⟨hT, hn, hc⟩)
 clear hb hT hn hc
 go_wp2_with fail
 refine (powers1_c 1 _ (by omega)).mono ?_
 rintro e w4 ⟨Ac, nc, cc, rfl, hT, hn, hc, hb⟩
 replace P := Lib.hid (P.out.trans (hb.mono P.out.size))
 replace RS := Lib.hid (RS.out.next hb)
 replace RV := Lib.hid (RV.out.next hb)
 replace PA := Lib.hid (PA.out.next hb)
 replace PB := Lib.hid (PB.out.next hb)
 have PC := Lib.hid (show PM w4 Ac nc cc (varP 2 1) from ⟨hT, hn, hc⟩)
 clear hb hT hn hc
 have HGL := Lib.hid (show g < w4.heap.size ∧ g + 1 < w4.heap.size from ⟨RS.out.bx.lt, RV.out.lt⟩)
 have k2 := bel_alloc w4 (row3 2 Aa na ca 2 Ab nb cb 2 Ac nc cc)
 have k3 := bel_alloc (w4.alloc (row3 2 Aa na ca 2 Ab nb cb 2 Ac nc cc)) (boxL 2 (some ⟨g + 1, 0, none⟩) 2 2 (some ⟨w4.heap.size, 0, none⟩) 3 3)
 have R3L := Lib.hid ((R3.new (W := w4) (V0 := 2) (A0 := Aa) (n0 := na) (c0 := ca) (V1 := 2) (A1 := Ab) (n1 := nb) (c1 := cb) (V2 := 2) (A2 := Ac) (n2 := nc) (c2 := cc)).next k3)
 have XL := Lib.hid (BxL.new (w4.alloc (row3 2 Aa na ca 2 Ab nb cb 2 Ac nc cc)) 2 (some ⟨g + 1, 0, none⟩) 2 2 (some ⟨w4.heap.size, 0, none⟩) 3 3)
 rw [World.size_alloc] at XL
 replace P := Lib.hid ((P.out.trans (k2.mono P.out.size)).trans (k3.mono (Nat.le_trans P.out.size k2.size)))
 replace RS := Lib.hid ((RS.out.next k2).next k3)
 replace RV := Lib.hid ((RV.out.next k2).next k3)
 replace PA := Lib.hid ((PA.out.next k2).next k3)
 replace PB := Lib.hid ((PB.out.next k2).next k3)
 replace PC := Lib.hid ((PC.out.next k2).next k3)
 clear k2 k3
 have r0 := RS.out.bx.c0
 have r1 := RS.out.bx.c1
 have f0 := RS.out.fr 0
 have f1 := RS.out.fr 1
 go_wp2
 have Q := RS.out.bx.put 2 (some ⟨w4.heap.size + 1, 0, none⟩) 1 1
 have q0 := Q.c0
 have q1 := Q.c1
 refine bodyPost_ret (v := aggS 2 (some ⟨w4.heap.size + 1, 0, none⟩) 1 1) (by simp [results, Tryz.results34, go_sem, q0, q1]) rfl ?_
 have hg := HGL.out
 have pa := PA.out.two RS.out.bx (fun i hi => const_two (by omega) PA.out.rt.len hi) (.int .i64 2) (.slice (some ⟨w4.heap.size + 1, 0, none⟩) 1 1)
 have pb := PB.out.two RS.out.bx (fun i hi => var_two (by omega) PB.out.rt.len hi) (.int .i64 2) (.slice (some ⟨w4.heap.size + 1, 0, none⟩) 1 1)
 have pc := PC.out.two RS.out.bx (fun i hi => var_two (by omega) PC.out.rt.len hi) (.int .i64 2) (.slice (some ⟨w4.heap.size + 1, 0, none⟩) 1 1)
 have r3 := (R3L.out.off (a := ⟨g, 0, none⟩) (by show g ≠ w4.heap.size; omega) (.int .i64 2)).off (a := ⟨g, 1, none⟩) (by show g ≠ w4.heap.size; omega) (.slice (some ⟨w4.heap.size + 1, 0, none⟩) 1 1)
 have xl := (XL.out.off2 (a := ⟨g, 0, none⟩) (by show g ≠ w4.heap.size + 1; omega) (.int .i64 2)).off2 (a := ⟨g, 1, none⟩) (by show g ≠ w4.heap.size + 1; omega) (.slice (some ⟨w4.heap.size + 1, 0, none⟩) 1 1)
 have rv := rdI_off (rdI_off RV.out.rd (p := ⟨g, 0, none⟩) (by show g ≠ g + 1; omega) (.int .i64 2)) (p := ⟨g, 1, none⟩) (by show g ≠ g + 1; omega) (.slice (some ⟨w4.heap.size + 1, 0, none⟩) 1 1)
 exact ⟨some ⟨w4.heap.size + 1, 0, none⟩, 1, 1, rfl, rdL_one xl rv (r3.rd pa pb pc) (by simp) (by omega) (by simp) (by omega), Nat.le_refl _, by omega, below_store P.out HG.out _ _⟩
def lnkMost (l : Lnk) (ns : List Nmr) (j : Nat) (M : Int) : Prop := ∀ b, b < j → (loadP (plyAt l.ps b).ts (ownOf l.vs ns) : Int) ≤ M
def sysMost (ls : List Lnk) (ns : List Nmr) (i : Nat) (M : Int) : Prop := ∀ a, a < i → lnkMost (lnkAt ls a) ns (lnkAt ls a).ps.length M
theorem lnkMost.mono {l : Lnk} {ns : List Nmr} {j : Nat} {M M' : Int} (h : lnkMost l ns j M) (hm : M ≤ M') : lnkMost l ns j M' := fun b hb => Int.le_trans (h b hb) hm
theorem sysMost.mono {ls : List Lnk} {ns : List Nmr} {i : Nat} {M M' : Int} (h : sysMost ls ns i M) (hm : M ≤ M') : sysMost ls ns i M' := fun a ha => (h a ha).mono hm
theorem lnkMost.step {l : Lnk} {ns : List Nmr} {j : Nat} {M : Int} (h : lnkMost l ns j M) (hm : (loadP (plyAt l.ps j).ts (ownOf l.vs ns) : Int) ≤ M) : lnkMost l ns (j + 1) M := fun b hb => by
 by_cases e : b = j
 · rw [e]; exact hm
 · exact h b (by omega)
theorem sysMost.step {ls : List Lnk} {ns : List Nmr} {i : Nat} {M : Int} (h : sysMost ls ns i M) (hm : lnkMost (lnkAt ls i) ns (lnkAt ls i).ps.length M) : sysMost ls ns (i + 1) M := fun a ha => by
 by_cases e : a = i
 · rw [e]; exact hm
 · exact h a (by omega)
theorem refLoad_u (V : Int) (A : Option Addr) (n c : Nat) (ts : List Trm) (C : Option Addr) (m cd : Nat) (ns : List Nmr) (w : World) (h : RdT w A n ts) (h' : RdN w C m ns) (hv : validP V ts = true) (hm : (m : Int) = V) :
 Calls Tryz.prog 30 #[aggP V A n c, .slice C m cd] w (fun e w' => ∃ v : Int, e = .returned (.int .i64 v) ∧ Below w.heap.size w w' ∧ (allB ns = true → v = (loadP ts ns : Int))) := by
 cases hu : allB ns with
 | true =>
   refine (refLoad_c V A n c ts C m cd ns w h h' hv hm hu).mono ?_
   rintro e w' ⟨rfl, hb⟩
   exact ⟨_, rfl, hb, fun _ => rfl⟩
 | false =>
   refine (refLoad_any V A n c ts C m cd ns w h h' hv hm).mono ?_
   rintro e w' ⟨v, rfl, hb⟩
   exact ⟨v, rfl, hb, fun h => by cases h⟩
structure SL (w W : World) (g : Nat) (V : Int) (A : Option Addr) (n c : Nat) : Prop where
 low : Below w.heap.size w W
 bx : BxY W g V A n c
section
variable {w W W' : World} {g : Nat} {V : Int} {A : Option Addr} {n c : Nat}
theorem SL.next (h : SL w W g V A n c) (hb : Below W.heap.size W W') : SL w W' g V A n c :=
 ⟨h.low.trans (hb.mono h.low.size), h.bx.next hb⟩
theorem BxY.low (h : BxY W g V A n c) {Bd : Nat} (hg : g < Bd) (hb : Below Bd W W') : BxY W' g V A n c :=
 ⟨Nat.lt_of_lt_of_le h.lt hb.size, (hb.cell (p := ⟨g, 0, none⟩) hg).trans h.c0, (hb.cell (p := ⟨g, 1, none⟩) hg).trans h.c1⟩
theorem SL.under (h : SL w W g V A n c) {Bd : Nat} (hw : w.heap.size ≤ Bd) (hg : g < Bd) (hb : Below Bd W W') : SL w W' g V A n c :=
 ⟨h.low.trans (hb.mono hw), h.bx.low hg hb⟩
end
theorem vs_link {V : Int} {ls : List Lnk} (h : validS V ls = true) {k : Nat} (hk : k < ls.length) : validLnk (lnkAt ls k) V = true := by
 simp only [validS, Bool.and_eq_true, decide_eq_true_eq] at h
 exact h.2 k hk
set_option maxHeartbeats 8000000 in
theorem refSysLoad_c (V : Int) (A : Option Addr) (n c : Nat) (ls : List Lnk) (X : Option Addr) (nx cx : Nat) (ns : List Nmr) (w : World) (h : RdL w A n ls) (h' : RdN w X nx ns) (hv : validS V ls = true) (hm : (nx : Int) = V) :
 Calls Tryz.prog 33 #[aggS V A n c, .slice X nx cx] w (fun e w' => ∃ v : Int, e = .returned (.int .i64 v) ∧ Below w.heap.size w w' ∧ (allB ns = true → sysMost ls ns ls.length v)) := by
 have k1 := bel_alloc w (boxS V A n c)
 have HB := Lib.hid (show w.heap.size < (w.alloc (boxS V A n c)).heap.size by simp)
 have X0 := Lib.hid (show SL w (w.alloc (boxS V A n c)) w.heap.size V A n c from ⟨k1, BxY.new w V A n c⟩)
 have HI := Lib.hid (And.intro h h')
 have HL := Lib.hid (And.intro h.len h'.len)
 have HV := Lib.hid (And.intro hv hm)
 have HN := Lib.hid (show n ≤ 20000 by
  have h1 := h.len
  simp only [validS, Bool.and_eq_true, decide_eq_true_eq] at hv
  omega)
 clear k1 h h' hv hm
 go_enter Tryz.func33, Tryz.ntmps33
 go_upto_region 1 with (fail)
 generalize w.alloc (boxS V A n c) = W0 at HB X0 ⊢
 obtain ⟨g, hg⟩ : ∃ g, g = w.heap.size := ⟨_, rfl⟩
 have HG := Lib.hid hg
 rw [← hg] at HB X0 ⊢
 clear hg
 obtain ⟨Bd, hBd⟩ : ∃ x, x = g + 1 := ⟨_, rfl⟩
 have HBd := Lib.hid hBd
 clear hBd
 go_wp2
 go_loopw [5, 6] (fun v5 v6 wr => ∃ (i : Nat) (M : Int), v6 = .int .i64 (i : Int) ∧ v5 = .int .i64 M ∧ i ≤ n ∧ SL w wr g V A n c ∧ (allB ns = true → sysMost ls ns i M) ∧ Bd ≤ wr.heap.size) (fun _ v _ => n - (intOf v).toNat)
 case atStart => exact ⟨0, 0, rfl, rfl, Nat.zero_le _, X0.out, fun _ a ha => absurd ha (by omega), by have := HB.out; have := HBd.out; omega⟩
 case round =>
  obtain ⟨i, M, rfl, rfl, hi, hx, hmo, hsz⟩ := hrel
  clear X0 HB
  have X0 := Lib.hid hx
  have MO := Lib.hid hmo
  have SZ := Lib.hid hsz
  have hnn := HN.out
  clear hx hmo hsz
  have a1 := X0.out.bx.c1
  by_cases hin : i < n
  · have t1 : decide ((i : Int) < (n : Int)) = true := decide_eq_true (by omega)
    have t1n : decide (i < n) = true := decide_eq_true hin
    have hiI : (i : Int) < (n : Int) := by omega
    obtain ⟨bL, oL, rfl, hltL, hcL⟩ := HI.out.1.at_ (by omega)
    obtain ⟨B1, m1, d1, C1, p1, q1, hK⟩ := hcL i hin
    obtain ⟨l, hl⟩ : ∃ x, x = lnkAt ls i := ⟨_, rfl⟩
    rw [← hl] at hK
    have HLK := Lib.hid hl
    have hlk := vs_link HV.out.1 (k := i) (by have := HL.out.1; omega)
    rw [← hl] at hlk
    have LK := Lib.hid (show bL < w.heap.size ∧ LnkIs w bL (oL + i * 3) l B1 m1 d1 C1 p1 q1 from ⟨hltL, hK⟩)
    obtain ⟨kind, vs, ps⟩ := l
    have HLV := Lib.hid hlk
    have HRI := Lib.hid (show RdI w B1 m1 vs from hK.ri)
    have HRP := Lib.hid (show RdP w C1 p1 ps from hK.rp)
    have HLL := Lib.hid (show vs.length = m1 ∧ ps.length = p1 from ⟨hK.ri.len, hK.rp.len⟩)
    clear hl hK hcL hltL hlk
    go_wp2
    clear a1 t1 t1n
    go_loopw [7, 8] (fun v7 v8 wq => ∃ (k c2 : Nat) (A2 : Option Addr), v8 = .int .i64 (k : Int) ∧ v7 = .slice A2 k c2 ∧ k ≤ m1 ∧ SL w wq g V (some ⟨bL, oL, none⟩) n c ∧ OwN wq Bd A2 k c2 ((ownOf vs ns).take k) ∧ Bd ≤ wq.heap.size) (fun _ v _ => m1 - (intOf v).toNat)
    case atStart => exact ⟨0, 0, none, rfl, rfl, Nat.zero_le _, X0.out, OwN.nil _ _, SZ.out⟩
    case round =>
     obtain ⟨k, c2, A2, rfl, rfl, hk, hx, ho, hsz⟩ := hrel
     clear X0 SZ
     have X0 := Lib.hid hx
     have OW := Lib.hid ho
     have SZ := Lib.hid hsz
     have hmm : m1 ≤ 32 := by
      have h1 := HLL.out.1
      have h2 := (vl_lens HLV.out).2.2.2
      omega
     have hpp : p1 ≤ 3 := by
      have h1 := HLL.out.2
      have h2 := (vl_lens HLV.out).2.2.1
      simp only [polysOf] at h2
      split at h2
      · omega
      · split at h2 <;> omega
     clear hx ho hsz
     have a1 := X0.out.bx.c1
     have LW := LK.out.2.below LK.out.1 X0.out.low
     have b1 := LW.c1
     have b2 := LW.c2
     clear LW
     by_cases hkm : k < m1
     · have t1 : decide ((k : Int) < (m1 : Int)) = true := decide_eq_true (by omega)
       have t1n : decide (k < m1) = true := decide_eq_true hkm
       have hkI : (k : Int) < (m1 : Int) := by omega
       have hlow := X0.out.low
       obtain ⟨bE, oE, rfl, _, hcE⟩ := (HRI.out.below hlow).at_ (by omega)
       have c0 := hcE k hkm
       obtain ⟨j, hj1, hj2⟩ : ∃ j : Nat, vs.getD k 0 = (j : Int) ∧ j < nx := by
        have h1 := HLL.out.1
        have h3 := HV.out.2
        have h4 := vl_vars HLV.out k (by omega)
        exact ⟨(vs.getD k 0).toNat, by omega, by omega⟩
       rw [hj1] at c0
       have HJ := Lib.hid hj1
       obtain ⟨bN, oN, rfl, _, hcN⟩ := (HI.out.2.below hlow).at_ (by omega)
       obtain ⟨A1, n1, c1', hN⟩ := hcN j hj2
       have d0 := hN.c0
       have d1 := hN.c1
       obtain ⟨t, ht⟩ : ∃ t, t = nmAt ns j := ⟨_, rfl⟩
       rw [← ht] at d0 hN
       have HT := Lib.hid ht
       have HNN := Lib.hid hN
       clear ht hN hcE hcN hlow hj1
       obtain ⟨s, xs⟩ := t
       dsimp only at d0
       go_upto_region 9 with (fail)
       go_wp2_with (at_builtin; refine wpList_app_nm rfl (.tmp 28) (.tmp 41) rfl Bd A2 k c2 ((ownOf vs ns).take k) wr.heap.size 1 s A1 n1 c1' xs rfl rfl (OW.out.keep (bel_alloc _ _)) (by rw [World.size_alloc]; have := SZ.out; omega) (NV.new _ _ _ _ _) (HNN.out.rd.below (bel_alloc _ _)) HNN.out.nc HNN.out.cm (by omega) ?_)
       intro g' c' w9 h1 hb
       have hba := bel_alloc wr (.cells #[.bool s, .slice A1 n1 c1'] 58)
       rw [show (ownOf vs ns).take k ++ [⟨s, xs⟩] = (ownOf vs ns).take (k + 1) from by
        rw [← take_nm (by rw [ownOf_len, HLL.out.1]; exact hkm), ownOf_at (by rw [HLL.out.1]; exact hkm), HJ.out, Int.toNat_natCast, ← HT.out]] at h1
       have OW2 := Lib.hid h1
       have hs1 := HBd.out
       have hs3 := HG.out
       have X2 := Lib.hid ((X0.out.next hba).under (Bd := Bd) (by omega) (by omega) hb)
       have SZ2 := Lib.hid (show Bd ≤ w9.heap.size from Nat.le_trans SZ.out (Nat.le_trans hba.size hb.size))
       clear h1 hb hba hs1 hs3 X0 OW SZ HNN HT HJ d0 d1 c0 a1 b1 b2
       go_wp2
       go_roundw
       case measure => simp [intOf]; omega
       case rel => exact ⟨k + 1, c', some ⟨g', 0, none⟩, by go_num, by go_num, by omega, X2.out, OW2.out, SZ2.out⟩
     · have e : k = m1 := by omega
       have t1 : decide ((k : Int) < (m1 : Int)) = false := decide_eq_false (by omega)
       have t1n : decide (k < m1) = false := decide_eq_false hkm
       have OWR := Lib.hid (show RdN wr A2 m1 (ownOf vs ns) from by
        have h := OW.out.rd
        rw [e, List.take_of_length_le (by rw [ownOf_len, HLL.out.1]; exact Nat.le_refl _)] at h
        exact h)
       rw [e] at t1 t1n ⊢
       clear OW e hk hkm
       go_wp2
       clear a1 b1 b2 t1 t1n
       have X1 := Lib.hid X0.out
       clear X0
       generalize wr = W1 at X1 OWR SZ ⊢
       go_loopw [5, 9] (fun v5 v9 wq => ∃ (j : Nat) (M : Int), v9 = .int .i64 (j : Int) ∧ v5 = .int .i64 M ∧ j ≤ p1 ∧ SL w wq g V (some ⟨bL, oL, none⟩) n c ∧ Below W1.heap.size W1 wq ∧ (allB ns = true → sysMost ls ns i M ∧ lnkMost ⟨kind, vs, ps⟩ ns j M)) (fun _ v _ => p1 - (intOf v).toNat)
       case atStart => exact ⟨0, M, rfl, rfl, Nat.zero_le _, X1.out, Below.refl _ _, fun h => ⟨MO.out h, fun b hb => absurd hb (by omega)⟩⟩
       case round =>
        obtain ⟨j, M', rfl, rfl, hj, hx, hlo, hmo⟩ := hrel
        clear MO
        have X0 := Lib.hid hx
        have LO := Lib.hid hlo
        have MO := Lib.hid hmo
        clear hx hlo hmo
        have a1 := X0.out.bx.c1
        have LW := LK.out.2.below LK.out.1 X0.out.low
        have b2 := LW.c2
        clear LW
        by_cases hjp : j < p1
        · have t1 : decide ((j : Int) < (p1 : Int)) = true := decide_eq_true (by omega)
          have t1n : decide (j < p1) = true := decide_eq_true hjp
          have hjI : (j : Int) < (p1 : Int) := by omega
          obtain ⟨bP, oP, rfl, _, hcP⟩ := (HRP.out.below X0.out.low).at_ (by omega)
          obtain ⟨A4, n4, c4, hP⟩ := hcP j hjp
          obtain ⟨pl, hpl⟩ : ∃ x, x = plyAt ps j := ⟨_, rfl⟩
          have HPL := Lib.hid hpl
          rw [← hpl] at hP
          have hV1 := vl_polys HLV.out j (by have := HLL.out.2; omega)
          rw [← hpl] at hV1
          have HV1 := Lib.hid hV1
          clear hpl hcP hV1
          obtain ⟨V', ts⟩ := pl
          have d0 := hP.c0
          have d1 := hP.c1
          dsimp only at d0
          have PT := Lib.hid hP.rt
          have RO := Lib.hid (OWR.out.below LO.out)
          clear hP
          go_wp2_with fail
          refine (refLoad_u V' A4 n4 c4 ts A2 m1 c2 (ownOf vs ns) _ PT.out RO.out HV1.out.2 (by rw [HV1.out.1, HLL.out.1])).mono ?_
          rintro e W3 ⟨v, rfl, hb, hve⟩
          have X3 := Lib.hid (X0.out.next hb)
          have LO3 := Lib.hid (LO.out.trans (hb.mono LO.out.size))
          have HVE := Lib.hid (show allB ns = true → (loadP (plyAt ps j).ts (ownOf vs ns) : Int) = v from fun hq => by
           rw [← HPL.out]
           exact (hve (allB_own hq (fun k hk => by
            have h1 := vl_vars HLV.out k hk
            have h2 := HV.out.2
            have h3 := HL.out.2
            omega))).symm)
          have MO3 := Lib.hid (show ∀ M'', M' ≤ M'' → v ≤ M'' → allB ns = true → sysMost ls ns i M'' ∧ lnkMost ⟨kind, vs, ps⟩ ns (j + 1) M'' from fun M'' h1 h2 hq =>
           ⟨(MO.out hq).1.mono h1, ((MO.out hq).2.mono h1).step (by have h3 := HVE.out hq; show (loadP (plyAt ps j).ts (ownOf vs ns) : Int) ≤ M''; rw [h3]; exact h2)⟩)
          clear hb hve X0 LO MO PT RO d0 d1 a1 b2 HVE t1 t1n
          go_wp2
          go_roundw
          case measure => simp [intOf]; omega
          case rel => exact ⟨j + 1, _, by go_num, rfl, by omega, X3.out, LO3.out, MO3.out _ (by split <;> omega) (by split <;> omega)⟩
        · have e : j = p1 := by omega
          have t1 : decide ((j : Int) < (p1 : Int)) = false := decide_eq_false (by omega)
          have t1n : decide (j < p1) = false := decide_eq_false hjp
          have MO3 := Lib.hid (show allB ns = true → sysMost ls ns (i + 1) M' from fun hq => (MO.out hq).1.step (by
           have h1 := (MO.out hq).2
           rw [e, ← HLL.out.2, HLK.out] at h1
           have h2 : ps = (lnkAt ls i).ps := by rw [← HLK.out]
           rw [← h2]
           exact h1))
          have SZ3 := Lib.hid (show Bd ≤ wr.heap.size from Nat.le_trans SZ.out LO.out.size)
          go_wp2
          go_roundw
          case measure => simp [intOf]; omega
          case rel => exact ⟨i + 1, M', by go_num, rfl, by omega, X0.out, MO3.out, SZ3.out⟩
  · have t1 : decide ((i : Int) < (n : Int)) = false := decide_eq_false (by omega)
    have t1n : decide (i < n) = false := decide_eq_false hin
    obtain rfl : i = ls.length := by rw [HL.out.1]; omega
    go_wp2
    go_ret
    exact ⟨M, rfl, X0.out.low, MO.out⟩
def LightP (V : Int) (ls : List Lnk) (nx : Nat) (ns : List Nmr) (most : Int) (w : World) (e : Ending) (w' : World) : Prop :=
 ∃ b : Bool, e = .returned (.bool b) ∧ Below w.heap.size w w' ∧ (b = true → validS V ls = true → (nx : Int) = V → allB ns = true → sysMost ls ns ls.length most)
theorem LightP.no {V : Int} {ls : List Lnk} {nx : Nat} {ns : List Nmr} {most : Int} {w w' : World} (h : Below w.heap.size w w') : LightP V ls nx ns most w (.returned (.bool false)) w' :=
 ⟨false, rfl, h, fun h => by cases h⟩
set_option maxHeartbeats 8000000 in
theorem light9_c (V : Int) (A : Option Addr) (n c : Nat) (ls : List Lnk) (X : Option Addr) (nx cx : Nat) (ns : List Nmr) (most : Int) (w : World) (h : RdL w A n ls) (h' : RdN w X nx ns) (hx : nx ≤ 9223372036854775807) (hn : n ≤ 9223372036854775807) :
 Calls Tryz.prog 18 #[aggS V A n c, .slice X nx cx, .int .i64 most] w (LightP V ls nx ns most w) := by
 have k1 := bel_alloc w (boxS V A n c)
 have X0 := Lib.hid (show SL w (w.alloc (boxS V A n c)) w.heap.size V A n c from ⟨k1, BxY.new w V A n c⟩)
 have HI := Lib.hid (And.intro h h')
 have HL := Lib.hid (And.intro h.len h'.len)
 clear k1 h h'
 go_enter Tryz.func18, Tryz.ntmps18
 go_upto_region 1 with (fail)
 generalize w.alloc (boxS V A n c) = W0 at X0 ⊢
 obtain ⟨g, hg⟩ : ∃ g, g = w.heap.size := ⟨_, rfl⟩
 rw [← hg] at X0 ⊢
 clear hg
 have a1 := X0.out.bx.c1
 by_cases q1 : 400 < n
 · have t1 : decide ((400 : Int) < (n : Int)) = true := decide_eq_true (by omega)
   have t1n : decide (400 < n) = true := decide_eq_true q1
   go_wp2
   go_ret
   exact LightP.no X0.out.low
 have t1 : decide ((400 : Int) < (n : Int)) = false := decide_eq_false (by omega)
 have t1n : decide (400 < n) = false := decide_eq_false q1
 by_cases q2 : 20100 < nx
 · have t2 : decide ((20100 : Int) < (nx : Int)) = true := decide_eq_true (by omega)
   have t2n : decide (20100 < nx) = true := decide_eq_true q2
   go_wp2
   go_ret
   exact LightP.no X0.out.low
 have t2 : decide ((20100 : Int) < (nx : Int)) = false := decide_eq_false (by omega)
 have t2n : decide (20100 < nx) = false := decide_eq_false q2
 have HN := Lib.hid (show n ≤ 400 ∧ nx ≤ 20100 from ⟨by omega, by omega⟩)
 clear q1 q2 hx hn
 go_wp2
 clear a1 t1 t1n t2 t2n
 go_loopw [7, 8] (fun v7 v8 wr => ∃ (i : Nat), v8 = .int .i64 (i : Int) ∧ (∃ C : Int, v7 = .int .i64 C) ∧ i ≤ n ∧ SL w wr g V A n c) (fun _ v _ => n - (intOf v).toNat)
 case atStart => exact ⟨0, rfl, ⟨0, rfl⟩, Nat.zero_le _, X0.out⟩
 case round =>
  obtain ⟨i, rfl, ⟨C, rfl⟩, hi, hx⟩ := hrel
  clear X0
  have X0 := Lib.hid hx
  have hnn := HN.out.1
  clear hx
  have a1 := X0.out.bx.c1
  by_cases hin : i < n
  · have t1 : decide ((i : Int) < (n : Int)) = true := decide_eq_true (by omega)
    have t1n : decide (i < n) = true := decide_eq_true hin
    have hiI : (i : Int) < (n : Int) := by omega
    obtain ⟨bL, oL, rfl, hltL, hcL⟩ := HI.out.1.at_ (by omega)
    obtain ⟨B1, m1, d1, C1, p1, q1, hK⟩ := hcL i hin
    obtain ⟨l, hl⟩ : ∃ x, x = lnkAt ls i := ⟨_, rfl⟩
    rw [← hl] at hK
    have LK := Lib.hid (LkA.mk hltL hK)
    have HRP := Lib.hid hK.rp
    have HPQ := Lib.hid (show p1 ≤ 9223372036854775807 from Nat.le_trans hK.pq hK.qm)
    clear hl hK hcL hltL
    have LW := LK.out.next X0.out.low
    have b1 := LW.is.c1
    have b2 := LW.is.c2
    clear LW
    go_upto_region 7 with (fail)
    go_quiet (fail)
    have hdr := below_drewN (Below.refl wr.heap.size wr) nq
    have X1 := Lib.hid (X0.out.next hdr)
    clear hdr a1 b1 b2 X0 t1 t1n
    generalize wr.drewN nq = W1 at X1 ⊢
    go_wp2
    go_loopw [7, 9] (fun v7 v9 wq => ∃ (j : Nat), v9 = .int .i64 (j : Int) ∧ (∃ C : Int, v7 = .int .i64 C) ∧ j ≤ p1 ∧ SL w wq g V (some ⟨bL, oL, none⟩) n c) (fun _ v _ => p1 - (intOf v).toNat)
    case atStart => exact ⟨0, rfl, ⟨_, rfl⟩, Nat.zero_le _, X1.out⟩
    case round =>
     obtain ⟨j, rfl, ⟨C', rfl⟩, hj, hx⟩ := hrel
     clear X1
     have X0 := Lib.hid hx
     clear hx
     have hpp := HPQ.out
     have a1 := X0.out.bx.c1
     have LW := LK.out.next X0.out.low
     have b2 := LW.is.c2
     clear LW
     by_cases hjp : j < p1
     · have t1 : decide ((j : Int) < (p1 : Int)) = true := decide_eq_true (by omega)
       have t1n : decide (j < p1) = true := decide_eq_true hjp
       have hjI : (j : Int) < (p1 : Int) := by omega
       by_cases hC : C' ≤ 6000
       · have t2 : decide (C' ≤ 6000) = true := decide_eq_true hC
         obtain ⟨bP, oP, rfl, hltP, hcP⟩ := HRP.out.at_ (by omega)
         obtain ⟨A4, n4, c4, hP⟩ := hcP j hjp
         have d1 := (PlA.next ⟨hltP, hP⟩ X0.out.low).is.c1
         have PT := Lib.hid hP.rt
         have HN4 := Lib.hid (show n4 ≤ 9223372036854775807 from Nat.le_trans hP.nc hP.cm)
         clear hP hcP hltP hC
         go_wp2
         clear a1 b2 d1 t1 t1n t2
         go_loopw [7, 11] (fun v7 v11 wq => ∃ (k : Nat), v11 = .int .i64 (k : Int) ∧ (∃ C : Int, v7 = .int .i64 C) ∧ k ≤ n4 ∧ SL w wq g V (some ⟨bL, oL, none⟩) n c) (fun _ v _ => n4 - (intOf v).toNat)
         case atStart => exact ⟨0, rfl, ⟨_, rfl⟩, Nat.zero_le _, X0.out⟩
         case round =>
          obtain ⟨k, rfl, ⟨C'', rfl⟩, hk, hx⟩ := hrel
          clear X0
          have X0 := Lib.hid hx
          clear hx
          have hn4 := HN4.out
          by_cases hkn : k < n4
          · have t1 : decide ((k : Int) < (n4 : Int)) = true := decide_eq_true (by omega)
            have t1n : decide (k < n4) = true := decide_eq_true hkn
            have hkI : (k : Int) < (n4 : Int) := by omega
            by_cases hC : C'' ≤ 6000
            · have t2 : decide (C'' ≤ 6000) = true := decide_eq_true hC
              obtain ⟨bT, oT, rfl, hblt, hcell⟩ := PT.out.at_ (by omega)
              obtain ⟨A5, n5, c5, B5, m5, e5, hT0⟩ := hcell k hkn
              have TW := (TrA.mk hblt hT0).next X0.out.low
              have b1 := TW.is.c1
              have b2 := TW.is.c2
              clear TW hT0 hcell hC
              go_upto_region 16 with (fail)
              go_quiet (fail)
              have hdr := below_drewN (Below.refl wr.heap.size wr) nq
              have X1 := Lib.hid (X0.out.next hdr)
              clear hdr b1 b2 X0 t1 t1n t2
              generalize wr.drewN nq = W1 at X1 ⊢
              go_wp2
              go_roundw
              case measure => simp [intOf]; omega
              case rel => exact ⟨k + 1, by go_num, ⟨_, rfl⟩, by omega, X1.out⟩
            · have t2 : decide (C'' ≤ 6000) = false := decide_eq_false hC
              clear hC
              go_wp2
              go_roundw
              case measure => simp [intOf]; omega
              case rel => exact ⟨j + 1, by go_num, ⟨_, rfl⟩, by omega, X0.out⟩
          · have t1 : decide ((k : Int) < (n4 : Int)) = false := decide_eq_false (by omega)
            have t1n : decide (k < n4) = false := decide_eq_false hkn
            go_wp2
            go_roundw
            case measure => simp [intOf]; omega
            case rel => exact ⟨j + 1, by go_num, ⟨_, rfl⟩, by omega, X0.out⟩
       · have t2 : decide (C' ≤ 6000) = false := decide_eq_false hC
         have t3 : decide (6000 < C') = true := decide_eq_true (by omega)
         go_wp2
         go_ret
         exact LightP.no X0.out.low
     · have t1 : decide ((j : Int) < (p1 : Int)) = false := decide_eq_false (by omega)
       have t1n : decide (j < p1) = false := decide_eq_false hjp
       by_cases hC : 6000 < C'
       · have t3 : decide (6000 < C') = true := decide_eq_true hC
         go_wp2
         go_ret
         exact LightP.no X0.out.low
       · have t3 : decide (6000 < C') = false := decide_eq_false hC
         clear hC
         go_wp2
         go_roundw
         case measure => simp [intOf]; omega
         case rel => exact ⟨i + 1, by go_num, ⟨_, rfl⟩, by omega, X0.out⟩
  · have t1 : decide ((i : Int) < (n : Int)) = false := decide_eq_false (by omega)
    have t1n : decide (i < n) = false := decide_eq_false hin
    have a0 := X0.out.bx.c0
    go_wp2_with fail
    refine (refSysValid_c V A n c ls _ (HI.out.1.below X0.out.low)).mono ?_
    rintro e w1 ⟨rfl, hb⟩
    have X1 := Lib.hid (X0.out.next hb)
    clear hb a0 a1 X0 t1 t1n hin
    obtain ⟨v, hv⟩ : ∃ v, v = validS V ls := ⟨_, rfl⟩
    rw [← hv]
    have HV := Lib.hid hv
    clear hv
    cases v with
    | false =>
      go_wp2
      go_ret
      exact ⟨true, rfl, X1.out.low, fun _ hq => by rw [← HV.out] at hq; cases hq⟩
    | true =>
    have a0 := X1.out.bx.c0
    have a1 := X1.out.bx.c1
    by_cases hm : (nx : Int) = V
    case neg =>
     have t0 : ((nx : Int) != V) = true := by rw [bne_iff_ne]; exact hm
     have HM := Lib.hid hm
     clear hm
     go_wp2
     go_ret
     exact ⟨true, rfl, X1.out.low, fun _ _ hq => absurd hq HM.out⟩
    case pos =>
    have t0 : ((nx : Int) != V) = false := by rw [hm]; exact bne_self_eq_false _
    have HM := Lib.hid hm
    clear hm
    go_wp2_with fail
    refine (refSysLoad_c V A n c ls X nx cx ns _ (HI.out.1.below X1.out.low) (HI.out.2.below X1.out.low) HV.out.symm HM.out).mono ?_
    rintro e w2 ⟨v, rfl, hb, hs⟩
    have X2 := Lib.hid (X1.out.next hb)
    have HS := Lib.hid hs
    clear hb hs X1 a0 a1 t0
    go_wp2
    go_ret
    exact ⟨_, rfl, X2.out.low, fun hq _ _ hal => (HS.out hal).mono (of_decide_eq_true hq)⟩
theorem pw_plus (a b : Nat) : pw (a + b) = pw a * pw b := by rw [pw_two, pw_two, pw_two, Nat.mul_add, Nat.pow_add]
theorem pw_times (e a : Nat) : pw (e * a) = pw a ^ e := by
 rw [pw_two, pw_two, ← Nat.pow_mul]
 congr 1
 rw [Nat.mul_comm e a, Nat.mul_assoc]
theorem pw_up {a b : Nat} (h : a ≤ b) : pw a ≤ pw b := by
 rw [pw_two, pw_two]
 exact Nat.pow_le_pow_right (by decide) (Nat.mul_le_mul_left _ h)
theorem RdN.small {w : World} {A : Option Addr} {n : Nat} {ns : List Nmr} (h : RdN w A n ns) : ∀ i, i < ns.length → small (nmAt ns i).xs := fun i hi => by
 have hl := h.len
 obtain ⟨b, o, _, _, hc⟩ := h.at_ (by omega)
 obtain ⟨A1, n1, c1, hN⟩ := hc i (by omega)
 exact hN.rd.sm
theorem RdT.small {w : World} {A : Option Addr} {n : Nat} {ts : List Trm} (h : RdT w A n ts) : ∀ i, i < ts.length → small (trmAt ts i).xs := fun i hi => by
 have hl := h.len
 obtain ⟨b, o, _, _, hc⟩ := h.at_ (by omega)
 obtain ⟨A1, n1, c1, B1, m1, d1, hT⟩ := hc i (by omega)
 exact hT.rd.sm
theorem valid_short {s : Bool} {xs : List Nat} (h : small xs) : (sgn s (val xs)).natAbs ≤ pw xs.length := by
 rw [sgn_abs]
 exact Nat.le_of_lt (val_lt h)
theorem term_short {t : Trm} {ns : List Nmr} (ht : small t.xs) (hn : ∀ i, i < ns.length → small (nmAt ns i).xs) : ∀ k, k ≤ ns.length → (trZ t * prodI t.es ns k).natAbs * pw 1 ≤ pw (loadT t ns k)
 | 0, _ => by
   show (trZ t * 1).natAbs * pw 1 ≤ pw (t.xs.length + 1)
   rw [Int.mul_one, pw_plus]
   exact Nat.mul_le_mul_right _ (valid_short ht)
 | k + 1, hk => by
   have ih := term_short (t := t) ht hn k (by omega)
   show (trZ t * (prodI t.es ns k * nmZ (nmAt ns k) ^ (t.es.getD k 0).toNat)).natAbs * pw 1 ≤ pw (loadT t ns k + (t.es.getD k 0).toNat * (nmAt ns k).xs.length)
   rw [← Int.mul_assoc, Int.natAbs_mul, Int.natAbs_pow, pw_plus, pw_times]
   have hv := hn k (by omega)
   have h2 : (nmZ (nmAt ns k)).natAbs ^ (t.es.getD k 0).toNat ≤ pw (nmAt ns k).xs.length ^ (t.es.getD k 0).toNat := Nat.pow_le_pow_left (valid_short hv) _
   calc _ = ((trZ t * prodI t.es ns k).natAbs * pw 1) * (nmZ (nmAt ns k)).natAbs ^ (t.es.getD k 0).toNat := by rw [Nat.mul_right_comm]
    _ ≤ _ := Nat.mul_le_mul ih h2
theorem most_le (ts : List Trm) (ns : List Nmr) : ∀ k j, j < k → loadT (trmAt ts j) ns (trmAt ts j).es.length ≤ mostT ts ns k
 | 0, j, h => absurd h (by omega)
 | k + 1, j, h => by
   show _ ≤ max (mostT ts ns k) (loadT (trmAt ts k) ns (trmAt ts k).es.length)
   by_cases e : j = k
   · rw [e]; exact Nat.le_max_right _ _
   · exact Nat.le_trans (most_le ts ns k j (by omega)) (Nat.le_max_left _ _)
theorem all_short {V : Int} {ts : List Trm} {ns : List Nmr} (hv : validP V ts = true) (hm : (ns.length : Int) = V) (hs : ∀ j, j < ts.length → small (trmAt ts j).xs) (hn : ∀ i, i < ns.length → small (nmAt ns i).xs) : ∀ k, k ≤ ts.length → allV ts ns k * pw 1 ≤ k * pw (loadP ts ns)
 | 0, _ => by show 0 * pw 1 ≤ _; rw [Nat.zero_mul]; exact Nat.zero_le _
 | k + 1, hk => by
   have ih := all_short hv hm hs hn k (by omega)
   have hvt := vp_at hv (k := k) (by omega)
   have h1 := vt_exps hvt
   have h2 := term_short (t := trmAt ts k) (hs k (by omega)) hn (trmAt ts k).es.length (by omega)
   have h3 := pw_up (most_le ts ns ts.length k (by omega))
   show (allV ts ns k + (trZ (trmAt ts k) * prodI (trmAt ts k).es ns (trmAt ts k).es.length).natAbs) * pw 1 ≤ _
   rw [Nat.add_mul, Nat.add_mul, Nat.one_mul]
   exact Nat.add_le_add ih (Nat.le_trans h2 h3)
theorem load_short {V : Int} {ts : List Trm} {ns : List Nmr} (hv : validP V ts = true) (hm : (ns.length : Int) = V) (hs : ∀ j, j < ts.length → small (trmAt ts j).xs) (hn : ∀ i, i < ns.length → small (nmAt ns i).xs) : allV ts ns ts.length < pw (loadP ts ns) + 1 := by
 have h := all_short hv hm hs hn ts.length (Nat.le_refl _)
 have hb := (vp_bounds hv).2.2
 have h1 : ts.length * pw (loadP ts ns) ≤ pw (loadP ts ns) * pw 1 := by
  rw [Nat.mul_comm]
  exact Nat.mul_le_mul_left _ (Nat.le_trans hb (by rw [pw_two]; decide))
 have h2 := Nat.le_of_mul_le_mul_right (Nat.le_trans h h1) (by rw [pw_two]; decide)
 omega
theorem own_small {vs : List Int} {ps : List Ply} {kind V : Int} {ns : List Nmr} (hv : validLnk ⟨kind, vs, ps⟩ V = true) (hm : (ns.length : Int) = V) (hn : ∀ i, i < ns.length → small (nmAt ns i).xs) : ∀ i, i < (ownOf vs ns).length → small (nmAt (ownOf vs ns) i).xs := fun i hi => by
 rw [ownOf_len] at hi
 rw [ownOf_at hi]
 have h1 := vl_vars hv i hi
 exact hn _ (by omega)
theorem sys_short {w : World} {V M : Int} {A : Option Addr} {n : Nat} {ls : List Lnk} {X : Option Addr} {nx : Nat} {ns : List Nmr} (h : RdL w A n ls) (h' : RdN w X nx ns) (hv : validS V ls = true) (hm : (nx : Int) = V) (hs : sysMost ls ns ls.length M) (hM : M ≤ 600) :
 ∀ i, i < ls.length → ∀ j, j < (lnkAt ls i).ps.length → allV (plyAt (lnkAt ls i).ps j).ts (ownOf (lnkAt ls i).vs ns) (plyAt (lnkAt ls i).ps j).ts.length ≤ pw 600 := fun i hi j hj => by
 have hl := h.len
 have hl' := h'.len
 obtain ⟨b, o, _, _, hc⟩ := h.at_ (by omega)
 obtain ⟨B1, m1, d1, C1, p1, q1, hK⟩ := hc i (by omega)
 have hvl := vs_link hv hi
 have hlo := hs i hi j hj
 generalize lnkAt ls i = l at hj hK hvl hlo ⊢
 obtain ⟨kind, vs, ps⟩ := l
 dsimp only at hj hlo ⊢
 have hp : RdP w C1 p1 ps := hK.rp
 have hpl := hp.len
 obtain ⟨bP, oP, _, _, hcP⟩ := hp.at_ (by omega)
 obtain ⟨A4, n4, c4, hP⟩ := hcP j (by omega)
 have hV1 := vl_polys hvl j hj
 have h1 := load_short hV1.2 (ns := ownOf vs ns) (by rw [ownOf_len]; exact hV1.1.symm) (RdT.small hP.rt) (own_small hvl (by omega) (RdN.small h'))
 have h2 : loadP (plyAt ps j).ts (ownOf vs ns) ≤ 600 := by omega
 have h3 := pw_up h2
 omega
end Go.Proofs.YteabokkofoomkaaGreat

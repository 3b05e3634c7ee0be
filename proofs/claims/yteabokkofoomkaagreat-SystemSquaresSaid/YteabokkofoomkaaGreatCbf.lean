import Derived.Test.YteabokkofoomkaaGreatCbe
import Derived.Test.YteabokkofoomkaaGreatCay
import Derived.Test.YteabokkofoomkaaGreatCbb
import Derived.Test.YteabokkofoomkaaGreatCah
import Derived.Test.YteabokkofoomkaaGreatCas
import Derived.Test.YteabokkofoomkaaGreatCan
/- powers: the first example's system -/
set_option maxRecDepth 100000
namespace Go.Proofs.YteabokkofoomkaaGreat
open Go.RowKit Go.Shelf Go.Deep
def varP (V i : Nat) : List Trm := [trmOf ⟨1, unitE V i⟩]
set_option maxHeartbeats 4000000 in
theorem powers1_c (i : Nat) (w : World) (hi : i < 2) :
    Calls Tryz.prog 69 #[.int .i64 (i : Int)] w (PolyR 2 (varP 2 i) w) := by
  have hb0 := bel_alloc w (boxP 0 none 0 0)
  have P := Lib.hid hb0
  have RS := Lib.hid (RP0.new w)
  have HI := Lib.hid hi
  clear hb0 hi
  go_enter Tryz.func69, Tryz.ntmps69
  go_upto_region 1 with (fail)
  generalize w.alloc (boxP 0 none 0 0) = W0 at P RS ⊢
  obtain ⟨g, hg⟩ : ∃ g, g = w.heap.size := ⟨_, rfl⟩
  have HG := Lib.hid (show w.heap.size ≤ g by rw [hg]; exact Nat.le_refl _)
  rw [← hg] at RS ⊢
  clear hg
  go_wp2_with fail
  refine (refVar_c 2 i _ (by omega) HI.out).mono ?_
  rintro e w1 ⟨A, n, c, rfl, hT, hn, hc, hb⟩
  replace P := Lib.hid (P.out.trans (hb.mono P.out.size))
  replace RS := Lib.hid (RS.out.next hb)
  have HT := Lib.hid hT
  have HN := Lib.hid (And.intro hn hc)
  clear hb hT hn hc
  have r0 := RS.out.bx.c0
  have r1 := RS.out.bx.c1
  have f0 := RS.out.fr 0
  have f1 := RS.out.fr 1
  go_wp2
  have Q := RS.out.bx.put 2 A n c
  have q0 := Q.c0
  have q1 := Q.c1
  refine bodyPost_ret (v := aggP 2 A n c) (by simp [results, Tryz.results69, go_sem, q0, q1]) rfl ?_
  exact ⟨A, n, c, rfl, rdT_two RS.out.bx HT.out (fun k hk => by
    have h1 := HT.out.len
    obtain rfl : k = 0 := by simp at h1; omega
    show (unitE 2 i).length ≠ 1
    rw [unitE_len]; omega) _ _, HN.out.1, HN.out.2, below_store P.out HG.out _ _⟩
/-- the system of the first example -/
def powL : List Lnk := [⟨2, [0, 1], [⟨2, (constZ 2 2).map trmOf⟩, ⟨2, varP 2 0⟩, ⟨2, varP 2 1⟩]⟩]
def SysR (V : Int) (ls : List Lnk) (w : World) (e : Ending) (w' : World) : Prop :=
  ∃ A n c, e = .returned (aggS V A n c) ∧ RdL w' A n ls ∧ n ≤ c ∧ c ≤ 9223372036854775807 ∧ Below w.heap.size w w'
theorem RP0.newS (W : World) : RP0 (W.alloc (boxS 0 none 0 0)) W.heap.size :=
  ⟨⟨by simp, by go_simp, by go_simp⟩, fun o => by simp only [World.frozen?, Go.heap_alloc_new]; simp⟩
/-- a polynomial in memory -/
structure PM (W : World) (A : Option Addr) (n c : Nat) (ts : List Trm) : Prop where
  rt : RdT W A n ts
  nc : n ≤ c
  cm : c ≤ 9223372036854775807
theorem PM.next {W W' : World} {A : Option Addr} {n c : Nat} {ts : List Trm} (h : PM W A n c ts) (hb : Below W.heap.size W W') : PM W' A n c ts := ⟨h.rt.below hb, h.nc, h.cm⟩
theorem PM.two {W : World} {A : Option Addr} {n c : Nat} {ts : List Trm} (h : PM W A n c ts) {g : Nat} {V : Int} {L : Option Addr} {j k : Nat} (hg : BxP W g V L j k) (hm : ∀ i, i < n → (trmAt ts i).es.length ≠ 1) (u v : Value) : PM ((W.setCell ⟨g, 0, none⟩ u).setCell ⟨g, 1, none⟩ v) A n c ts := ⟨rdT_two hg h.rt hm u v, h.nc, h.cm⟩
abbrev row3 (V0 : Int) (A0 : Option Addr) (n0 c0 : Nat) (V1 : Int) (A1 : Option Addr) (n1 c1 : Nat) (V2 : Int) (A2 : Option Addr) (n2 c2 : Nat) : Obj := .cells #[.int .i64 V0, .slice A0 n0 c0, .int .i64 V1, .slice A1 n1 c1, .int .i64 V2, .slice A2 n2 c2] 45
/-- three polynomials in a row -/
structure R3 (W : World) (g : Nat) (V0 : Int) (A0 : Option Addr) (n0 c0 : Nat) (V1 : Int) (A1 : Option Addr) (n1 c1 : Nat) (V2 : Int) (A2 : Option Addr) (n2 c2 : Nat) : Prop where
  lt : g < W.heap.size
  e0 : W.cell? ⟨g, 0, none⟩ = some (.int .i64 V0)
  e1 : W.cell? ⟨g, 1, none⟩ = some (.slice A0 n0 c0)
  e2 : W.cell? ⟨g, 2, none⟩ = some (.int .i64 V1)
  e3 : W.cell? ⟨g, 3, none⟩ = some (.slice A1 n1 c1)
  e4 : W.cell? ⟨g, 4, none⟩ = some (.int .i64 V2)
  e5 : W.cell? ⟨g, 5, none⟩ = some (.slice A2 n2 c2)
section
variable {W W' : World} {g : Nat} {V0 : Int} {A0 : Option Addr} {n0 c0 : Nat} {V1 : Int} {A1 : Option Addr} {n1 c1 : Nat} {V2 : Int} {A2 : Option Addr} {n2 c2 : Nat}
theorem R3.new : R3 (W.alloc (row3 V0 A0 n0 c0 V1 A1 n1 c1 V2 A2 n2 c2)) W.heap.size V0 A0 n0 c0 V1 A1 n1 c1 V2 A2 n2 c2 :=
  ⟨by simp, by go_simp, by go_simp, by go_simp, by go_simp, by go_simp, by go_simp⟩
theorem R3.next (h : R3 W g V0 A0 n0 c0 V1 A1 n1 c1 V2 A2 n2 c2) (hb : Below W.heap.size W W') : R3 W' g V0 A0 n0 c0 V1 A1 n1 c1 V2 A2 n2 c2 :=
  ⟨Nat.lt_of_lt_of_le h.lt hb.size, (hb.cell (p := ⟨g, 0, none⟩) h.lt).trans h.e0, (hb.cell (p := ⟨g, 1, none⟩) h.lt).trans h.e1, (hb.cell (p := ⟨g, 2, none⟩) h.lt).trans h.e2, (hb.cell (p := ⟨g, 3, none⟩) h.lt).trans h.e3, (hb.cell (p := ⟨g, 4, none⟩) h.lt).trans h.e4, (hb.cell (p := ⟨g, 5, none⟩) h.lt).trans h.e5⟩
theorem R3.off (h : R3 W g V0 A0 n0 c0 V1 A1 n1 c1 V2 A2 n2 c2) {a : Addr} (hp : a.block ≠ g) (u : Value) : R3 (W.setCell a u) g V0 A0 n0 c0 V1 A1 n1 c1 V2 A2 n2 c2 :=
  ⟨by rw [World.size_setCell]; exact h.lt, (World.cell?_setCell_other _ _ _ _ (by intro e; subst e; exact hp rfl)).trans h.e0, (World.cell?_setCell_other _ _ _ _ (by intro e; subst e; exact hp rfl)).trans h.e1, (World.cell?_setCell_other _ _ _ _ (by intro e; subst e; exact hp rfl)).trans h.e2, (World.cell?_setCell_other _ _ _ _ (by intro e; subst e; exact hp rfl)).trans h.e3, (World.cell?_setCell_other _ _ _ _ (by intro e; subst e; exact hp rfl)).trans h.e4, (World.cell?_setCell_other _ _ _ _ (by intro e; subst e; exact hp rfl)).trans h.e5⟩
theorem R3.rd (h : R3 W g V0 A0 n0 c0 V1 A1 n1 c1 V2 A2 n2 c2) {t0 t1 t2 : List Trm} (p0 : PM W A0 n0 c0 t0) (p1 : PM W A1 n1 c1 t1) (p2 : PM W A2 n2 c2 t2) : RdP W (some ⟨g, 0, none⟩) 3 [⟨V0, t0⟩, ⟨V1, t1⟩, ⟨V2, t2⟩] := by
  refine ⟨rfl, fun _ => ⟨g, 0, rfl, h.lt, fun k hk => ?_⟩⟩
  rcases (show k = 0 ∨ k = 1 ∨ k = 2 by omega) with rfl | rfl | rfl
  · exact ⟨A0, n0, c0, h.e0, h.e1, p0.rt, p0.nc, p0.cm⟩
  · exact ⟨A1, n1, c1, h.e2, h.e3, p1.rt, p1.nc, p1.cm⟩
  · exact ⟨A2, n2, c2, h.e4, h.e5, p2.rt, p2.nc, p2.cm⟩
end
theorem BxL.off2 {W : World} {g : Nat} {kind : Int} {B : Option Addr} {m d : Nat} {C : Option Addr} {p q : Nat} (h : BxL W g kind B m d C p q) {a : Addr} (hp : a.block ≠ g) (u : Value) : BxL (W.setCell a u) g kind B m d C p q :=
  ⟨by rw [World.size_setCell]; exact h.lt, (World.cell?_setCell_other _ _ _ _ (by intro e; subst e; exact hp rfl)).trans h.c0, (World.cell?_setCell_other _ _ _ _ (by intro e; subst e; exact hp rfl)).trans h.c1, (World.cell?_setCell_other _ _ _ _ (by intro e; subst e; exact hp rfl)).trans h.c2⟩
theorem rdL_one {W : World} {g : Nat} {kind : Int} {B : Option Addr} {m d : Nat} {C : Option Addr} {p q : Nat} (h : BxL W g kind B m d C p q) {vs : List Int} {ps : List Ply} (hr : RdI W B m vs) (hp : RdP W C p ps) (md : m ≤ d) (dm : d ≤ 9223372036854775807) (pq : p ≤ q) (qm : q ≤ 9223372036854775807) : RdL W (some ⟨g, 0, none⟩) 1 [⟨kind, vs, ps⟩] :=
  ⟨rfl, fun _ => ⟨g, 0, rfl, h.lt, fun k hk => by
    obtain rfl : k = 0 := by omega
    exact ⟨B, m, d, C, p, q, h.c0, h.c1, h.c2, hr, hp, md, dm, pq, qm⟩⟩⟩
theorem var_two {V i : Nat} (hV : V ≠ 1) {k n : Nat} (hl : (varP V i).length = n) (hk : k < n) : (trmAt (varP V i) k).es.length ≠ 1 := by
  obtain rfl : k = 0 := by have h1 : (varP V i).length = 1 := rfl; omega
  show (unitE V i).length ≠ 1
  rw [unitE_len]; exact hV
theorem const_two {V : Nat} {z : Int} (hV : V ≠ 1) {k n : Nat} (hl : ((constZ z V).map trmOf).length = n) (hk : k < n) : (trmAt ((constZ z V).map trmOf) k).es.length ≠ 1 := by
  have h1 : (constZ z V).length ≤ 1 := by unfold constZ; split <;> simp
  rw [List.length_map] at hl
  obtain rfl : k = 0 := by omega
  unfold constZ at hl ⊢
  split
  · rename_i hz; rw [if_pos hz] at hl; simp at hl; omega
  · simp [trmAt, trmOf]; exact hV
set_option maxHeartbeats 8000000 in
theorem powers_c (w : World) : Calls Tryz.prog 34 #[] w (SysR 2 powL w) := by
  have hb0 := bel_alloc w (boxS 0 none 0 0)
  have k1 := bel_alloc (w.alloc (boxS 0 none 0 0)) (.cells #[.int .i64 0, .int .i64 1] 3)
  have P := Lib.hid (hb0.trans (k1.mono hb0.size))
  have RS := Lib.hid ((RP0.newS w).next k1)
  have RV := Lib.hid (show RZ ((w.alloc (boxS 0 none 0 0)).alloc (.cells #[.int .i64 0, .int .i64 1] 3)) (w.alloc (boxS 0 none 0 0)).heap.size [0, 1] from RZ.new (w.alloc (boxS 0 none 0 0)) [0, 1])
  rw [World.size_alloc] at RV
  clear hb0 k1
  go_enter Tryz.func34, Tryz.ntmps34
  go_wp2_with fail
  generalize (w.alloc (boxS 0 none 0 0)).alloc (.cells #[.int .i64 0, .int .i64 1] 3) = W0 at P RS RV ⊢
  obtain ⟨g, hg⟩ : ∃ g, g = w.heap.size := ⟨_, rfl⟩
  have HG := Lib.hid (show w.heap.size ≤ g by rw [hg]; exact Nat.le_refl _)
  rw [← hg] at RS RV ⊢
  clear hg
  refine (rofZ 2 _ (by omega) (by omega)).mono ?_
  rintro e w1 ⟨t1, A1, n1, c1, rfl, hi1, hb⟩
  replace P := Lib.hid (P.out.trans (hb.mono P.out.size))
  replace RS := Lib.hid (RS.out.next hb)
  replace RV := Lib.hid (RV.out.next hb)
  have I1 := Lib.hid hi1
  clear hb hi1
  go_wp2_with fail
  refine (refConst_c 2 4096 I1.out (by show (2 : Int).natAbs < pw 4096; exact Nat.lt_of_lt_of_le (show (2 : Int).natAbs < pw 1 by rw [pw_one]; decide) (pw_le (by omega))) (by omega) (by omega) (by omega)).mono ?_
  rintro e w2 ⟨Aa, na, ca, rfl, hT, hn, hc, hb⟩
  replace P := Lib.hid (P.out.trans (hb.mono P.out.size))
  replace RS := Lib.hid (RS.out.next hb)
  replace RV := Lib.hid (RV.out.next hb)
  have PA := Lib.hid (show PM w2 Aa na ca ((constZ 2 2).map trmOf) from ⟨hT, hn, hc⟩)
  clear hb hT hn hc I1
  go_wp2_with fail
  refine (powers1_c 0 _ (by omega)).mono ?_
  rintro e w3 ⟨Ab, nb, cb, rfl, hT, hn, hc, hb⟩
  replace P := Lib.hid (P.out.trans (hb.mono P.out.size))
  replace RS := Lib.hid (RS.out.next hb)
  replace RV := Lib.hid (RV.out.next hb)
  replace PA := Lib.hid (PA.out.next hb)
  have PB := Lib.hid (show PM w3 Ab nb cb (varP 2 0) from ⟨hT, hn, hc⟩)
  clear hb hT hn hc
  go_wp2_with fail
  refine (powers1_c 1 _ (by omega)).mono ?_
  rintro e w4 ⟨Ac, nc, cc, rfl, hT, hn, hc, hb⟩
  replace P := Lib.hid (P.out.trans (hb.mono P.out.size))
  replace RS := Lib.hid (RS.out.next hb)
  replace RV := Lib.hid (RV.out.next hb)
  replace PA := Lib.hid (PA.out.next hb)
  replace PB := Lib.hid (PB.out.next hb)
  have PC := Lib.hid (show PM w4 Ac nc cc (varP 2 1) from ⟨hT, hn, hc⟩)
  clear hb hT hn hc
  have HGL := Lib.hid (show g < w4.heap.size ∧ g + 1 < w4.heap.size from ⟨RS.out.bx.lt, RV.out.lt⟩)
  have k2 := bel_alloc w4 (row3 2 Aa na ca 2 Ab nb cb 2 Ac nc cc)
  have k3 := bel_alloc (w4.alloc (row3 2 Aa na ca 2 Ab nb cb 2 Ac nc cc)) (boxL 2 (some ⟨g + 1, 0, none⟩) 2 2 (some ⟨w4.heap.size, 0, none⟩) 3 3)
  have R3L := Lib.hid ((R3.new (W := w4) (V0 := 2) (A0 := Aa) (n0 := na) (c0 := ca) (V1 := 2) (A1 := Ab) (n1 := nb) (c1 := cb) (V2 := 2) (A2 := Ac) (n2 := nc) (c2 := cc)).next k3)
  have XL := Lib.hid (BxL.new (w4.alloc (row3 2 Aa na ca 2 Ab nb cb 2 Ac nc cc)) 2 (some ⟨g + 1, 0, none⟩) 2 2 (some ⟨w4.heap.size, 0, none⟩) 3 3)
  rw [World.size_alloc] at XL
  replace P := Lib.hid ((P.out.trans (k2.mono P.out.size)).trans (k3.mono (Nat.le_trans P.out.size k2.size)))
  replace RS := Lib.hid ((RS.out.next k2).next k3)
  replace RV := Lib.hid ((RV.out.next k2).next k3)
  replace PA := Lib.hid ((PA.out.next k2).next k3)
  replace PB := Lib.hid ((PB.out.next k2).next k3)
  replace PC := Lib.hid ((PC.out.next k2).next k3)
  clear k2 k3
  have r0 := RS.out.bx.c0
  have r1 := RS.out.bx.c1
  have f0 := RS.out.fr 0
  have f1 := RS.out.fr 1
  go_wp2
  have Q := RS.out.bx.put 2 (some ⟨w4.heap.size + 1, 0, none⟩) 1 1
  have q0 := Q.c0
  have q1 := Q.c1
  refine bodyPost_ret (v := aggS 2 (some ⟨w4.heap.size + 1, 0, none⟩) 1 1) (by simp [results, Tryz.results34, go_sem, q0, q1]) rfl ?_
  have hg := HGL.out
  have pa := PA.out.two RS.out.bx (fun i hi => const_two (by omega) PA.out.rt.len hi) (.int .i64 2) (.slice (some ⟨w4.heap.size + 1, 0, none⟩) 1 1)
  have pb := PB.out.two RS.out.bx (fun i hi => var_two (by omega) PB.out.rt.len hi) (.int .i64 2) (.slice (some ⟨w4.heap.size + 1, 0, none⟩) 1 1)
  have pc := PC.out.two RS.out.bx (fun i hi => var_two (by omega) PC.out.rt.len hi) (.int .i64 2) (.slice (some ⟨w4.heap.size + 1, 0, none⟩) 1 1)
  have r3 := (R3L.out.off (a := ⟨g, 0, none⟩) (by show g ≠ w4.heap.size; omega) (.int .i64 2)).off (a := ⟨g, 1, none⟩) (by show g ≠ w4.heap.size; omega) (.slice (some ⟨w4.heap.size + 1, 0, none⟩) 1 1)
  have xl := (XL.out.off2 (a := ⟨g, 0, none⟩) (by show g ≠ w4.heap.size + 1; omega) (.int .i64 2)).off2 (a := ⟨g, 1, none⟩) (by show g ≠ w4.heap.size + 1; omega) (.slice (some ⟨w4.heap.size + 1, 0, none⟩) 1 1)
  have rv := rdI_off (rdI_off RV.out.rd (p := ⟨g, 0, none⟩) (by show g ≠ g + 1; omega) (.int .i64 2)) (p := ⟨g, 1, none⟩) (by show g ≠ g + 1; omega) (.slice (some ⟨w4.heap.size + 1, 0, none⟩) 1 1)
  exact ⟨some ⟨w4.heap.size + 1, 0, none⟩, 1, 1, rfl, rdL_one xl rv (r3.rd pa pb pc) (by simp) (by omega) (by simp) (by omega), Nat.le_refl _, by omega, below_store P.out HG.out _ _⟩
end Go.Proofs.YteabokkofoomkaaGreat
/- system.isPower -/
set_option maxRecDepth 100000
namespace Go.Proofs.YteabokkofoomkaaGreat
open Go.RowKit Go.Shelf Go.Deep
/-- three boxed numbers -/
structure B3 (w W : World) (a : Int) (t0 : Bool) (A0 : Option Addr) (n0 c0 : Nat) (b : Int) (t1 : Bool) (A1 : Option Addr) (n1 c1 : Nat) (c : Int) (t2 : Bool) (A2 : Option Addr) (n2 c2 : Nat) : Prop where
  low : Below w.heap.size w W
  ba : Box W w.heap.size a t0 A0 n0 c0
  bb : Box W (w.heap.size + 1) b t1 A1 n1 c1
  bc : Box W (w.heap.size + 1 + 1) c t2 A2 n2 c2
section
variable {w W W' : World} {a : Int} {t0 : Bool} {A0 : Option Addr} {n0 c0 : Nat} {b : Int} {t1 : Bool} {A1 : Option Addr} {n1 c1 : Nat} {c : Int} {t2 : Bool} {A2 : Option Addr} {n2 c2 : Nat}
theorem B3.next (h : B3 w W a t0 A0 n0 c0 b t1 A1 n1 c1 c t2 A2 n2 c2) (hb : Below W.heap.size W W') : B3 w W' a t0 A0 n0 c0 b t1 A1 n1 c1 c t2 A2 n2 c2 :=
  ⟨h.low.trans (hb.mono h.low.size), h.ba.next hb, h.bb.next hb, h.bc.next hb⟩
theorem B3.start (h0 : Is w a t0 A0 n0 c0) (h1 : Is w b t1 A1 n1 c1) (h2 : Is w c t2 A2 n2 c2) :
    B3 w (((w.alloc (.cells #[.bool t0, .slice A0 n0 c0] 58)).alloc (.cells #[.bool t1, .slice A1 n1 c1] 58)).alloc (.cells #[.bool t2, .slice A2 n2 c2] 58)) a t0 A0 n0 c0 b t1 A1 n1 c1 c t2 A2 n2 c2 := by
  have k0 := bel_alloc w (.cells #[.bool t0, .slice A0 n0 c0] 58)
  have k1 := bel_alloc (w.alloc (.cells #[.bool t0, .slice A0 n0 c0] 58)) (.cells #[.bool t1, .slice A1 n1 c1] 58)
  have k2 := bel_alloc ((w.alloc (.cells #[.bool t0, .slice A0 n0 c0] 58)).alloc (.cells #[.bool t1, .slice A1 n1 c1] 58)) (.cells #[.bool t2, .slice A2 n2 c2] 58)
  have e1 := Box.new ((h1.below k0))
  have e2 := Box.new ((h2.below k0).below k1)
  rw [World.size_alloc] at e1 e2
  rw [World.size_alloc] at e2
  exact ⟨(k0.trans (k1.mono k0.size)).trans (k2.mono (Nat.le_trans k0.size k1.size)), ((Box.new h0).next k1).next k2, e1.next k2, e2⟩
end
theorem pow_never {a b c : Int} (ha : 2 ≤ a) (hb : 9223372036854775808 ≤ b) (hc : Sz c 4096) : ¬ a ^ b.toNat = c := by
  intro e
  have h := pow_long (z := a) (k := b.toNat) (by
    have h1 : 2 ≤ a.natAbs := by omega
    rcases Nat.lt_or_ge 1 (blen a.natAbs) with h2 | h2
    · exact h2
    · have := blen_lt a.natAbs
      have h3 := Nat.pow_le_pow_right (n := 2) (by omega) h2
      omega) (by omega)
  rw [e] at h
  exact h hc.len
set_option maxHeartbeats 8000000 in
theorem isPower_c {w : World} {a : Int} {t0 : Bool} {A0 : Option Addr} {n0 c0 : Nat} {b : Int} {t1 : Bool} {A1 : Option Addr} {n1 c1 : Nat} {c : Int} {t2 : Bool} {A2 : Option Addr} {n2 c2 : Nat} (h0 : Iv w a t0 A0 n0 c0) (h1 : Iv w b t1 A1 n1 c1) (h2 : Iv w c t2 A2 n2 c2) :
    Calls Tryz.prog 79 #[.agg #[.bool t0, .slice A0 n0 c0], .agg #[.bool t1, .slice A1 n1 c1], .agg #[.bool t2, .slice A2 n2 c2]] w (IsB (decide (1 ≤ a ∧ 0 ≤ b ∧ a ^ b.toNat = c)) w) := by
  have E := Lib.hid (B3.start h0.is h1.is h2.is)
  have HS := Lib.hid (And.intro h0.sz (And.intro h1.sz h2.sz))
  clear h0 h1 h2
  go_enter Tryz.func79, Tryz.ntmps79
  go_upto_region 1 with (fail)
  generalize ((w.alloc (.cells #[.bool t0, .slice A0 n0 c0] 58)).alloc (.cells #[.bool t1, .slice A1 n1 c1] 58)).alloc (.cells #[.bool t2, .slice A2 n2 c2] 58) = W0 at E ⊢
  go_wp2_with fail
  refine (OfV 1 _ (by omega) (by omega)).mono ?_
  rintro e w1 ⟨t3, A3, n3, c3, rfl, hi, hb⟩
  replace E := Lib.hid (E.out.next hb)
  have k1 := bel_alloc w1 (.cells #[.bool t3, .slice A3 n3 c3] 58)
  have BO := Lib.hid (Box.new hi.is)
  have HO := Lib.hid hi.sz
  replace E := Lib.hid (E.out.next k1)
  clear hi hb k1
  go_upto_region 2 with (fail)
  generalize w1.alloc (.cells #[.bool t3, .slice A3 n3 c3] 58) = W1 at E BO ⊢
  generalize w1.heap.size = go_ at BO ⊢
  have x0 := E.out.ba.c0
  have x1 := E.out.ba.c1
  have o0 := BO.out.c0
  have o1 := BO.out.c1
  go_wp2_with fail
  refine (Less_c ⟨E.out.ba.is, HS.out.1⟩ ⟨BO.out.is, HO.out⟩).mono ?_
  rintro e w2 ⟨rfl, hb⟩
  replace E := Lib.hid (E.out.next hb)
  replace BO := Lib.hid (BO.out.next hb)
  clear hb x0 x1 o0 o1
  obtain ⟨v, hv⟩ : ∃ v, v = decide (a < 1) := ⟨_, rfl⟩
  rw [← hv]
  have HV := Lib.hid hv
  clear hv
  cases v with
  | true =>
    have HF := Lib.hid (show decide (1 ≤ a ∧ 0 ≤ b ∧ a ^ b.toNat = c) = false from decide_eq_false fun q => by
      have := of_decide_eq_true HV.out.symm
      omega)
    go_wp2
    go_ret
    exact ⟨by rw [HF.out] <;> rfl, E.out.low⟩
  | false =>
  have HA1 := Lib.hid (show 1 ≤ a by have := of_decide_eq_false HV.out.symm; omega)
  clear HV
  have HT1 := Lib.hid E.out.bb.is.1
  have y0 := E.out.bb.c0
  cases t1 with
  | true =>
    have HF := Lib.hid (show decide (1 ≤ a ∧ 0 ≤ b ∧ a ^ b.toNat = c) = false from decide_eq_false fun q => by
      have := of_decide_eq_true HT1.out.symm
      omega)
    go_wp2
    go_ret
    exact ⟨by rw [HF.out] <;> rfl, E.out.low⟩
  | false =>
  have HB0 := Lib.hid (show 0 ≤ b by have := of_decide_eq_false HT1.out.symm; omega)
  clear HT1
  have x0 := E.out.ba.c0
  have x1 := E.out.ba.c1
  have o0 := BO.out.c0
  have o1 := BO.out.c1
  go_wp2_with fail
  refine (Equal_c ⟨E.out.ba.is, HS.out.1⟩ ⟨BO.out.is, HO.out⟩).mono ?_
  rintro e w3 ⟨rfl, hb⟩
  replace E := Lib.hid (E.out.next hb)
  replace BO := Lib.hid (BO.out.next hb)
  clear hb x0 x1 o0 o1 y0
  obtain ⟨v, hv⟩ : ∃ v, v = decide (a = 1) := ⟨_, rfl⟩
  rw [← hv]
  have HV := Lib.hid hv
  clear hv
  cases v with
  | true =>
    have x0 := E.out.bc.c0
    have x1 := E.out.bc.c1
    have o0 := BO.out.c0
    have o1 := BO.out.c1
    go_wp2_with fail
    refine (Equal_c ⟨E.out.bc.is, HS.out.2.2⟩ ⟨BO.out.is, HO.out⟩).mono ?_
    rintro e w4 ⟨rfl, hb⟩
    replace E := Lib.hid (E.out.next hb)
    clear hb x0 x1 o0 o1
    have HF := Lib.hid (show decide (1 ≤ a ∧ 0 ≤ b ∧ a ^ b.toNat = c) = decide (c = 1) by
      have h1 := of_decide_eq_true HV.out.symm
      have h2 := HB0.out
      rw [h1, Int.one_pow]
      by_cases h : c = 1
      · rw [decide_eq_true h, decide_eq_true ⟨by omega, h2, h.symm⟩]
      · rw [decide_eq_false h, decide_eq_false (fun q => h q.2.2.symm)])
    go_wp2
    go_ret
    exact ⟨by rw [HF.out] <;> rfl, E.out.low⟩
  | false =>
  have HA2 := Lib.hid (show 2 ≤ a by have h1 := of_decide_eq_false HV.out.symm; have h2 := HA1.out; omega)
  clear HV
  have x0 := E.out.bb.c0
  have x1 := E.out.bb.c1
  obtain ⟨V, hV⟩ : ∃ V, V = b.natAbs := ⟨_, rfl⟩
  have hraw := E.out.bb.is.raw HS.out.2.1 (Nat.le_refl _)
  rw [← hV] at hraw
  have HRAW := Lib.hid hraw
  have HVB := Lib.hid hV
  clear hraw hV
  go_wp2_with fail
  refine (Small_c false A1 n1 c1 V _ HRAW.out.1 HRAW.out.2.1).mono ?_
  rintro e w4 ⟨rfl, hb⟩
  replace E := Lib.hid (E.out.next hb)
  clear hb x0 x1 HRAW
  obtain ⟨u, hu⟩ : ∃ u, u = smallB false V := ⟨_, rfl⟩
  rw [← hu]
  have HU := Lib.hid hu
  clear hu
  cases u with
  | false =>
    have HF := Lib.hid (show decide (1 ≤ a ∧ 0 ≤ b ∧ a ^ b.toNat = c) = false from decide_eq_false fun q => by
      have h1 := HU.out.symm
      simp only [smallB, Bool.false_eq_true, if_false, decide_eq_false_iff_not] at h1
      have h2 := HVB.out
      exact pow_never HA2.out (by omega) HS.out.2.2 q.2.2)
    simp only [Bool.false_eq_true, if_false]
    go_wp2
    go_ret
    exact ⟨by rw [HF.out] <;> rfl, E.out.low⟩
  | true =>
  have HK := Lib.hid (show V < 9223372036854775808 by
    have h1 := HU.out.symm
    simp only [smallB, Bool.false_eq_true, if_false, decide_eq_true_eq] at h1
    exact h1)
  have HBV := Lib.hid (show b.toNat = V by have := HVB.out; have := HB0.out; omega)
  rw [if_pos rfl, show sgn false V = (V : Int) from rfl]
  have x0 := E.out.ba.c0
  have x1 := E.out.ba.c1
  go_wp2_with fail
  refine (Power_is E.out.ba.is (E.out.ba.is.len HS.out.1) V HK.out).mono ?_
  rintro e w5 ⟨t5, A5, m5, d5, k5, rfl, hn, hb⟩
  replace E := Lib.hid (E.out.next hb)
  clear hb x0 x1
  by_cases hz : (words (a ^ V).natAbs).length ≤ 4096
  · obtain ⟨rfl, hi⟩ := hn.is_ hz
    have BP := Lib.hid (Box.new hi)
    replace E := Lib.hid (E.out.next (bel_alloc w5 (.cells #[.bool t5, .slice A5 m5 d5] 58)))
    have HZ := Lib.hid (show Sz (a ^ V) 4096 from sz_of_len hz)
    clear hn hi hz
    go_upto_region 10 with (fail)
    generalize w5.alloc (.cells #[.bool t5, .slice A5 m5 d5] 58) = W6 at E BP ⊢
    generalize w5.heap.size = gp at BP ⊢
    have x0 := E.out.bc.c0
    have x1 := E.out.bc.c1
    have o0 := BP.out.c0
    have o1 := BP.out.c1
    go_wp2_with fail
    refine (Equal_c ⟨BP.out.is, HZ.out⟩ ⟨E.out.bc.is, HS.out.2.2⟩).mono ?_
    rintro e w6 ⟨rfl, hb⟩
    replace E := Lib.hid (E.out.next hb)
    clear hb x0 x1 o0 o1
    have HF := Lib.hid (show decide (1 ≤ a ∧ 0 ≤ b ∧ a ^ b.toNat = c) = decide (a ^ V = c) by
      rw [HBV.out]
      by_cases h : a ^ V = c
      · rw [decide_eq_true h, decide_eq_true ⟨HA1.out, HB0.out, h⟩]
      · rw [decide_eq_false h, decide_eq_false (fun q => h q.2.2)])
    generalize decide (a ^ V = c) = v at HF ⊢
    go_wp2
    go_ret
    exact ⟨by rw [HF.out] <;> rfl, E.out.low⟩
  · obtain ⟨rfl, rfl, rfl, rfl, rfl⟩ := hn.2 hz
    have HF := Lib.hid (show decide (1 ≤ a ∧ 0 ≤ b ∧ a ^ b.toNat = c) = false from decide_eq_false fun q => by
      have h1 := q.2.2
      rw [HBV.out] at h1
      rw [h1] at hz
      exact hz HS.out.2.2.len)
    clear hn hz
    replace E := Lib.hid (E.out.next (bel_alloc w5 (.cells #[.bool false, .slice none 0 0] 58)))
    go_upto_region 10 with (fail)
    generalize w5.alloc (.cells #[.bool false, .slice none 0 0] 58) = W6 at E ⊢
    go_wp2
    go_ret
    exact ⟨by rw [HF.out] <;> rfl, E.out.low⟩
end Go.Proofs.YteabokkofoomkaaGreat
namespace Go.Proofs.YteabokkofoomkaaGreat
open Go.RowKit
set_option maxHeartbeats 400000 in
theorem Under_neg (s s' : Bool) (A A' : Option Addr) (n c n' c' : Nat) (xs ys : List Nat) (w : World) (h : Rd w A n xs) (h' : Rd w A' n' ys) (hv : (validB s xs && validB s' ys) = true) (hs : (s || s') = true) :
    Calls Tryz.prog 80 #[.agg #[.bool s, .slice A n c], .agg #[.bool s', .slice A' n' c']] w (fun e w' => e = .returned (.tuple #[.bool false, .int .i64 2]) ∧ Below w.heap.size w w') := by
  have HV := Lib.hid hv
  clear hv
  go_enter Tryz.func80, Tryz.ntmps80
  go_wp2_with fail
  have E := (Env2.start w s s' A A' n c n' c').alloc (.cells #[.bool s, .slice A n c, .bool s', .slice A' n' c'] 58)
  refine (allValid_c (w.heap.size + 1 + 1) s s' A A' n c n' c' xs ys _ (h.below E.below) (h'.below E.below) (by simp) (by go_simp) (by go_simp) (by go_simp) (by go_simp)).mono ?_
  rintro e w1 ⟨rfl, hb⟩
  rw [HV.out]
  have E1 := Lib.hid (E.next hb)
  clear E hb
  have a0 := E1.out.a0
  have b0 := E1.out.b0
  clear h h'
  rcases s with _ | _
  · obtain rfl : s' = true := by simpa using hs
    go_wp2
    go_ret2
    exact ⟨rfl, E1.out.below⟩
  · clear hs
    go_wp2
    go_ret2
    exact ⟨rfl, E1.out.below⟩
end Go.Proofs.YteabokkofoomkaaGreat

import Derived.Test.YteabokkofoomkaaCay
import Derived.Test.YteabokkofoomkaaCat
import Derived.Test.YteabokkofoomkaaCaw
import Derived.Test.YteabokkofoomkaaCag
import Derived.Test.YteabokkofoomkaaCar
import Derived.Test.YteabokkofoomkaaCam
set_option maxRecDepth 100000
namespace Go.Proofs.Yteabokkofoomkaa
open Go.RowKit Go.Shelf Go.Deep
def varP (V i : Nat) : List Trm := [trmOf ⟨1, unitE V i⟩]
set_option maxHeartbeats 4000000 in
theorem powers1_c (i : Nat) (w : World) (hi : i < 2) :
 Calls Try.prog 33 #[.int .i64 (i : Int)] w (PolyR 2 (varP 2 i) w) := by
 have hb0 := bel_alloc w (boxP 0 none 0 0)
 have P := Lib.hid hb0
 have RS := Lib.hid (RP0.new w)
 have HI := Lib.hid hi
 clear hb0 hi
 go_enter Try.func33, Try.ntmps33
 go_upto_region 1 with (fail)
 generalize w.alloc (boxP 0 none 0 0) = W0 at P RS ⊢
 obtain ⟨g, hg⟩ : ∃ g, g = w.heap.size := ⟨_, rfl⟩
 have HG := Lib.hid (show w.heap.size ≤ g by rw [hg]; exact Nat.le_refl _)
 rw [← hg] at RS ⊢
 clear hg
 go_wp2_with fail
 refine (refVar_c 2 i _ (by omega) HI.out).mono ?_
 rintro e w1 ⟨A, n, c, rfl, hT, hn, hc, hb⟩
 replace P := Lib.hid (P.out.trans (hb.mono P.out.size))
 replace RS := Lib.hid (RS.out.next hb)
 have HT := Lib.hid hT
 have HN := Lib.hid (And.intro hn hc)
 clear hb hT hn hc
 have r0 := RS.out.bx.c0
 have r1 := RS.out.bx.c1
 have f0 := RS.out.fr 0
 have f1 := RS.out.fr 1
 go_wp2
 have Q := RS.out.bx.put 2 A n c
 have q0 := Q.c0
 have q1 := Q.c1
 refine bodyPost_ret (v := aggP 2 A n c) (by simp [results, Try.results33, go_sem, q0, q1]) rfl ?_
 exact ⟨A, n, c, rfl, rdT_two RS.out.bx HT.out (fun k hk => by
  have h1 := HT.out.len
  obtain rfl : k = 0 := by simp at h1; omega
  show (unitE 2 i).length ≠ 1
  rw [unitE_len]; omega) _ _, HN.out.1, HN.out.2, below_store P.out HG.out _ _⟩
def powL : List Lnk := [⟨2, [0, 1], [⟨2, (constZ 2 2).map trmOf⟩, ⟨2, varP 2 0⟩, ⟨2, varP 2 1⟩]⟩]
def SysR (V : Int) (ls : List Lnk) (w : World) (e : Ending) (w' : World) : Prop :=
 ∃ A n c, e = .returned (aggS V A n c) ∧ RdL w' A n ls ∧ n ≤ c ∧ c ≤ 9223372036854775807 ∧ Below w.heap.size w w'
theorem RP0.newS (W : World) : RP0 (W.alloc (boxS 0 none 0 0)) W.heap.size :=
 ⟨⟨by simp, by go_simp, by go_simp⟩, fun o => by simp only [World.frozen?, Go.heap_alloc_new]; simp⟩
structure PM (W : World) (A : Option Addr) (n c : Nat) (ts : List Trm) : Prop where
 rt : RdT W A n ts
 nc : n ≤ c
 cm : c ≤ 9223372036854775807
theorem PM.next {W W' : World} {A : Option Addr} {n c : Nat} {ts : List Trm} (h : PM W A n c ts) (hb : Below W.heap.size W W') : PM W' A n c ts := ⟨h.rt.below hb, h.nc, h.cm⟩
theorem PM.two {W : World} {A : Option Addr} {n c : Nat} {ts : List Trm} (h : PM W A n c ts) {g : Nat} {V : Int} {L : Option Addr} {j k : Nat} (hg : BxP W g V L j k) (hm : ∀ i, i < n → (trmAt ts i).es.length ≠ 1) (u v : Value) : PM ((W.setCell ⟨g, 0, none⟩ u).setCell ⟨g, 1, none⟩ v) A n c ts := ⟨rdT_two hg h.rt hm u v, h.nc, h.cm⟩
abbrev row3 (V0 : Int) (A0 : Option Addr) (n0 c0 : Nat) (V1 : Int) (A1 : Option Addr) (n1 c1 : Nat) (V2 : Int) (A2 : Option Addr) (n2 c2 : Nat) : Obj := .cells #[.int .i64 V0, .slice A0 n0 c0, .int .i64 V1, .slice A1 n1 c1, .int .i64 V2, .slice A2 n2 c2] 30
structure R3 (W : World) (g : Nat) (V0 : Int) (A0 : Option Addr) (n0 c0 : Nat) (V1 : Int) (A1 : Option Addr) (n1 c1 : Nat) (V2 : Int) (A2 : Option Addr) (n2 c2 : Nat) : Prop where
 lt : g < W.heap.size
 e0 : W.cell? ⟨g, 0, none⟩ = some (.int .i64 V0)
 e1 : W.cell? ⟨g, 1, none⟩ = some (.slice A0 n0 c0)
 e2 : W.cell? ⟨g, 2, none⟩ = some (.int .i64 V1)
 e3 : W.cell? ⟨g, 3, none⟩ = some (.slice A1 n1 c1)
 e4 : W.cell? ⟨g, 4, none⟩ = some (.int .i64 V2)
 e5 : W.cell? ⟨g, 5, none⟩ = some (.slice A2 n2 c2)
section
variable {W W' : World} {g : Nat} {V0 : Int} {A0 : Option Addr} {n0 c0 : Nat} {V1 : Int} {A1 : Option Addr} {n1 c1 : Nat} {V2 : Int} {A2 : Option Addr} {n2 c2 : Nat}
theorem R3.new : R3 (W.alloc (row3 V0 A0 n0 c0 V1 A1 n1 c1 V2 A2 n2 c2)) W.heap.size V0 A0 n0 c0 V1 A1 n1 c1 V2 A2 n2 c2 :=
 ⟨by simp, by go_simp, by go_simp, by go_simp, by go_simp, by go_simp, by go_simp⟩
theorem R3.next (h : R3 W g V0 A0 n0 c0 V1 A1 n1 c1 V2 A2 n2 c2) (hb : Below W.heap.size W W') : R3 W' g V0 A0 n0 c0 V1 A1 n1 c1 V2 A2 n2 c2 :=
 ⟨Nat.lt_of_lt_of_le h.lt hb.size, (hb.cell (p := ⟨g, 0, none⟩) h.lt).trans h.e0, (hb.cell (p := ⟨g, 1, none⟩) h.lt).trans h.e1, (hb.cell (p := ⟨g, 2, none⟩) h.lt).trans h.e2, (hb.cell (p := ⟨g, 3, none⟩) h.lt).trans h.e3, (hb.cell (p := ⟨g, 4, none⟩) h.lt).trans h.e4, (hb.cell (p := ⟨g, 5, none⟩) h.lt).trans h.e5⟩
theorem R3.off (h : R3 W g V0 A0 n0 c0 V1 A1 n1 c1 V2 A2 n2 c2) {a : Addr} (hp : a.block ≠ g) (u : Value) : R3 (W.setCell a u) g V0 A0 n0 c0 V1 A1 n1 c1 V2 A2 n2 c2 :=
 ⟨by rw [World.size_setCell]; exact h.lt, (World.cell?_setCell_other _ _ _ _ (by intro e; subst e; exact hp rfl)).trans h.e0, (World.cell?_setCell_other _ _ _ _ (by intro e; subst e; exact hp rfl)).trans h.e1, (World.cell?_setCell_other _ _ _ _ (by intro e; subst e; exact hp rfl)).trans h.e2, (World.cell?_setCell_other _ _ _ _ (by intro e; subst e; exact hp rfl)).trans h.e3, (World.cell?_setCell_other _ _ _ _ (by intro e; subst e; exact hp rfl)).trans h.e4, (World.cell?_setCell_other _ _ _ _ (by intro e; subst e; exact hp rfl)).trans h.e5⟩
theorem R3.rd (h : R3 W g V0 A0 n0 c0 V1 A1 n1 c1 V2 A2 n2 c2) {t0 t1 t2 : List Trm} (p0 : PM W A0 n0 c0 t0) (p1 : PM W A1 n1 c1 t1) (p2 : PM W A2 n2 c2 t2) : RdP W (some ⟨g, 0, none⟩) 3 [⟨V0, t0⟩, ⟨V1, t1⟩, ⟨V2, t2⟩] := by
 refine ⟨rfl, fun _ => ⟨g, 0, rfl, h.lt, fun k hk => ?_⟩⟩
 rcases (show k = 0 ∨ k = 1 ∨ k = 2 by omega) with rfl | rfl | rfl
 · exact ⟨A0, n0, c0, h.e0, h.e1, p0.rt, p0.nc, p0.cm⟩
 · exact ⟨A1, n1, c1, h.e2, h.e3, p1.rt, p1.nc, p1.cm⟩
 · exact ⟨A2, n2, c2, h.e4, h.e5, p2.rt, p2.nc, p2.cm⟩
end
theorem BxL.off2 {W : World} {g : Nat} {kind : Int} {B : Option Addr} {m d : Nat} {C : Option Addr} {p q : Nat} (h : BxL W g kind B m d C p q) {a : Addr} (hp : a.block ≠ g) (u : Value) : BxL (W.setCell a u) g kind B m d C p q :=
 ⟨by rw [World.size_setCell]; exact h.lt, (World.cell?_setCell_other _ _ _ _ (by intro e; subst e; exact hp rfl)).trans h.c0, (World.cell?_setCell_other _ _ _ _ (by intro e; subst e; exact hp rfl)).trans h.c1, (World.cell?_setCell_other _ _ _ _ (by intro e; subst e; exact hp rfl)).trans h.c2⟩
theorem rdL_one {W : World} {g : Nat} {kind : Int} {B : Option Addr} {m d : Nat} {C : Option Addr} {p q : Nat} (h : BxL W g kind B m d C p q) {vs : List Int} {ps : List Ply} (hr : RdI W B m vs) (hp : RdP W C p ps) (md : m ≤ d) (dm : d ≤ 9223372036854775807) (pq : p ≤ q) (qm : q ≤ 9223372036854775807) : RdL W (some ⟨g, 0, none⟩) 1 [⟨kind, vs, ps⟩] :=
 ⟨rfl, fun _ => ⟨g, 0, rfl, h.lt, fun k hk => by
  obtain rfl : k = 0 := by omega
  exact ⟨B, m, d, C, p, q, h.c0, h.c1, h.c2, hr, hp, md, dm, pq, qm⟩⟩⟩
theorem var_two {V i : Nat} (hV : V ≠ 1) {k n : Nat} (hl : (varP V i).length = n) (hk : k < n) : (trmAt (varP V i) k).es.length ≠ 1 := by
 obtain rfl : k = 0 := by have h1 : (varP V i).length = 1 := rfl; omega
 show (unitE V i).length ≠ 1
 rw [unitE_len]; exact hV
theorem const_two {V : Nat} {z : Int} (hV : V ≠ 1) {k n : Nat} (hl : ((constZ z V).map trmOf).length = n) (hk : k < n) : (trmAt ((constZ z V).map trmOf) k).es.length ≠ 1 := by
 have h1 : (constZ z V).length ≤ 1 := by unfold constZ; split <;> simp
 rw [List.length_map] at hl
 obtain rfl : k = 0 := by omega
 unfold constZ at hl ⊢
 split
 · rename_i hz; rw [if_pos hz] at hl; simp at hl; omega
 · simp [trmAt, trmOf]; exact hV
set_option maxHeartbeats 8000000 in
theorem powers_c (w : World) : Calls Try.prog 19 #[] w (SysR 2 powL w) := by
 have hb0 := bel_alloc w (boxS 0 none 0 0)
 have k1 := bel_alloc (w.alloc (boxS 0 none 0 0)) (.cells #[.int .i64 0, .int .i64 1] 3)
 have P := Lib.hid (hb0.trans (k1.mono hb0.size))
 have RS := Lib.hid ((RP0.newS w).next k1)
 have RV := Lib.hid (show RZ ((w.alloc (boxS 0 none 0 0)).alloc (.cells #[.int .i64 0, .int .i64 1] 3)) (w.alloc (boxS 0 none 0 0)).heap.size [0, 1] from RZ.new (w.alloc (boxS 0 none 0 0)) [0, 1])
 rw [World.size_alloc] at RV
 clear hb0 k1
 go_enter Try.func19, Try.ntmps19
 go_wp2_with fail
 generalize (w.alloc (boxS 0 none 0 0)).alloc (.cells #[.int .i64 0, .int .i64 1] 3) = W0 at P RS RV ⊢
 obtain ⟨g, hg⟩ : ∃ g, g = w.heap.size := ⟨_, rfl⟩
 have HG := Lib.hid (show w.heap.size ≤ g by rw [hg]; exact Nat.le_refl _)
 rw [← hg] at RS RV ⊢
 clear hg
 refine (rofZ 2 _ (by omega) (by omega)).mono ?_
 rintro e w1 ⟨t1, A1, n1, c1, rfl, hi1, hb⟩
 replace P := Lib.hid (P.out.trans (hb.mono P.out.size))
 replace RS := Lib.hid (RS.out.next hb)
 replace RV := Lib.hid (RV.out.next hb)
 have I1 := Lib.hid hi1
 clear hb hi1
 go_wp2_with fail
 refine (refConst_c 2 4096 I1.out (by show (2 : Int).natAbs < pw 4096; exact Nat.lt_of_lt_of_le (show (2 : Int).natAbs < pw 1 by rw [pw_one]; decide) (pw_le (by omega))) (by omega) (by omega) (by omega)).mono ?_
 rintro e w2 ⟨Aa, na, ca, rfl, hT, hn, hc, hb⟩
 replace P := Lib.hid (P.out.trans (hb.mono P.out.size))
 replace RS := Lib.hid (RS.out.next hb)
 replace RV := Lib.hid (RV.out.next hb)
 have PA := Lib.hid (show PM w2 Aa na ca ((constZ 2 2).map trmOf) from ⟨hT, hn, hc⟩)
 clear hb hT hn hc I1
 go_wp2_with fail
 refine (powers1_c 0 _ (by omega)).mono ?_
 rintro e w3 ⟨Ab, nb, cb, rfl, hT, hn, hc, hb⟩
 replace P := Lib.hid (P.out.trans (hb.mono P.out.size))
 replace RS := Lib.hid (RS.out.next hb)
 replace RV := Lib.hid (RV.out.next hb)
 replace PA := Lib.hid (PA.out.next hb)
 have PB := Lib.hid (show PM w3 Ab nb cb (varP 2 0) from ⟨hT, hn, hc⟩)
 clear hb hT hn hc
 go_wp2_with fail
 refine (powers1_c 1 _ (by omega)).mono ?_
 rintro e w4 ⟨Ac, nc, cc, rfl, hT, hn, hc, hb⟩
 replace P := Lib.hid (P.out.trans (hb.mono P.out.size))
 replace RS := Lib.hid (RS.out.next hb)
 replace RV := Lib.hid (RV.out.next hb)
 replace PA := Lib.hid (PA.out.next hb)
 replace PB := Lib.hid (PB.out.next hb)
 have PC := Lib.hid (show PM w4 Ac nc cc (varP 2 1) from ⟨hT, hn, hc⟩)
 clear hb hT hn hc
 have HGL := Lib.hid (show g < w4.heap.size ∧ g + 1 < w4.heap.size from ⟨RS.out.bx.lt, RV.out.lt⟩)
 have k2 := bel_alloc w4 (row3 2 Aa na ca 2 Ab nb cb 2 Ac nc cc)
 have k3 := bel_alloc (w4.alloc (row3 2 Aa na ca 2 Ab nb cb 2 Ac nc cc)) (boxL 2 (some ⟨g + 1, 0, none⟩) 2 2 (some ⟨w4.heap.size, 0, none⟩) 3 3)
 have R3L := Lib.hid ((R3.new (W := w4) (V0 := 2) (A0 := Aa) (n0 := na) (c0 := ca) (V1 := 2) (A1 := Ab) (n1 := nb) (c1 := cb) (V2 := 2) (A2 := Ac) (n2 := nc) (c2 := cc)).next k3)
 have XL := Lib.hid (BxL.new (w4.alloc (row3 2 Aa na ca 2 Ab nb cb 2 Ac nc cc)) 2 (some ⟨g + 1, 0, none⟩) 2 2 (some ⟨w4.heap.size, 0, none⟩) 3 3)
 rw [World.size_alloc] at XL
 replace P := Lib.hid ((P.out.trans (k2.mono P.out.size)).trans (k3.mono (Nat.le_trans P.out.size k2.size)))
 replace RS := Lib.hid ((RS.out.next k2).next k3)
 replace RV := Lib.hid ((RV.out.next k2).next k3)
 replace PA := Lib.hid ((PA.out.next k2).next k3)
 replace PB := Lib.hid ((PB.out.next k2).next k3)
 replace PC := Lib.hid ((PC.out.next k2).next k3)
 clear k2 k3
 have r0 := RS.out.bx.c0
 have r1 := RS.out.bx.c1
 have f0 := RS.out.fr 0
 have f1 := RS.out.fr 1
 go_wp2
 have Q := RS.out.bx.put 2 (some ⟨w4.heap.size + 1, 0, none⟩) 1 1
 have q0 := Q.c0
 have q1 := Q.c1
 refine bodyPost_ret (v := aggS 2 (some ⟨w4.heap.size + 1, 0, none⟩) 1 1) (by simp [results, Try.results19, go_sem, q0, q1]) rfl ?_
 have hg := HGL.out
 have pa := PA.out.two RS.out.bx (fun i hi => const_two (by omega) PA.out.rt.len hi) (.int .i64 2) (.slice (some ⟨w4.heap.size + 1, 0, none⟩) 1 1)
 have pb := PB.out.two RS.out.bx (fun i hi => var_two (by omega) PB.out.rt.len hi) (.int .i64 2) (.slice (some ⟨w4.heap.size + 1, 0, none⟩) 1 1)
 have pc := PC.out.two RS.out.bx (fun i hi => var_two (by omega) PC.out.rt.len hi) (.int .i64 2) (.slice (some ⟨w4.heap.size + 1, 0, none⟩) 1 1)
 have r3 := (R3L.out.off (a := ⟨g, 0, none⟩) (by show g ≠ w4.heap.size; omega) (.int .i64 2)).off (a := ⟨g, 1, none⟩) (by show g ≠ w4.heap.size; omega) (.slice (some ⟨w4.heap.size + 1, 0, none⟩) 1 1)
 have xl := (XL.out.off2 (a := ⟨g, 0, none⟩) (by show g ≠ w4.heap.size + 1; omega) (.int .i64 2)).off2 (a := ⟨g, 1, none⟩) (by show g ≠ w4.heap.size + 1; omega) (.slice (some ⟨w4.heap.size + 1, 0, none⟩) 1 1)
 have rv := rdI_off (rdI_off RV.out.rd (p := ⟨g, 0, none⟩) (by show g ≠ g + 1; omega) (.int .i64 2)) (p := ⟨g, 1, none⟩) (by show g ≠ g + 1; omega) (.slice (some ⟨w4.heap.size + 1, 0, none⟩) 1 1)
 exact ⟨some ⟨w4.heap.size + 1, 0, none⟩, 1, 1, rfl, rdL_one xl rv (r3.rd pa pb pc) (by simp) (by omega) (by simp) (by omega), Nat.le_refl _, by omega, below_store P.out HG.out _ _⟩
def nmOf (z : Int) : Nmr := ⟨decide (z < 0), words z.natAbs⟩
def ownOf (vs : List Int) (ns : List Nmr) : List Nmr := vs.map (fun v => nmAt ns v.toNat)
def valsZ (ps : List Ply) (os : List Nmr) : List Int := ps.map (fun p => pVal p.ts os)
theorem Stp.low {b Bd : Nat} {w W W' : World} (h : Stp b w W) (hb : b < Bd) (hw : w.heap.size ≤ Bd) (k : Below Bd W W') : Stp b w W' := by
 have hk := k.block b hb
 exact ⟨⟨k.os.trans h.grown.os, k.tape.trans h.grown.tape, k.output.trans h.grown.output, Nat.le_trans h.size k.size, fun i hi hne => (k.block i (Nat.lt_of_lt_of_le hi hw)).trans (h.grown.block i hi hne)⟩, fun o ho => (World.cell?_of_block hk).trans (h.own o ho), fun o => (World.frozen?_of_block hk).trans (h.frz o)⟩
theorem Cc.low {b Bd : Nat} {W W' : World} {k : Int} (h : Cc W b k) (hb : b < Bd) (q : Below Bd W W') : Cc W' b k := by
 have hk := q.block b hb
 exact ⟨Nat.lt_of_lt_of_le h.lt q.size, (World.cell?_of_block hk).trans h.c0, (World.frozen?_of_block hk).trans h.f0⟩
theorem BxL.low {W W' : World} {g Bd : Nat} {kind : Int} {B : Option Addr} {m d : Nat} {C : Option Addr} {p q : Nat} (h : BxL W g kind B m d C p q) (hg : g < Bd) (hb : Below Bd W W') : BxL W' g kind B m d C p q := by
 have hk := hb.block g hg
 exact ⟨Nat.lt_of_lt_of_le h.lt hb.size, (World.cell?_of_block hk).trans h.c0, (World.cell?_of_block hk).trans h.c1, (World.cell?_of_block hk).trans h.c2⟩
theorem BxL.stp {W W' : World} {g b : Nat} {kind : Int} {B : Option Addr} {m d : Nat} {C : Option Addr} {p q : Nat} (h : BxL W g kind B m d C p q) (hne : g ≠ b) (hs : Stp b W W') : BxL W' g kind B m d C p q :=
 ⟨Nat.lt_of_lt_of_le h.lt hs.size, (hs.cell (p := ⟨g, 0, none⟩) h.lt hne).trans h.c0, (hs.cell (p := ⟨g, 1, none⟩) h.lt hne).trans h.c1, (hs.cell (p := ⟨g, 2, none⟩) h.lt hne).trans h.c2⟩
structure VL (w0 w W : World) (b g : Nat) (k : Int) (kind : Int) (B : Option Addr) (m d : Nat) (C : Option Addr) (p q : Nat) : Prop where
 low : Below w0.heap.size w0 W
 stp : Stp b w W
 cc : Cc W b k
 bx : BxL W g kind B m d C p q
section
variable {w0 w W W' : World} {b g : Nat} {k : Int} {kind : Int} {B : Option Addr} {m d : Nat} {C : Option Addr} {p q : Nat}
theorem VL.next (h : VL w0 w W b g k kind B m d C p q) (hb : Below W.heap.size W W') : VL w0 w W' b g k kind B m d C p q :=
 ⟨h.low.trans (hb.mono h.low.size), h.stp.trans (Stp.of_below h.cc.lt hb), h.cc.below hb, h.bx.next hb⟩
theorem VL.under (h : VL w0 w W b g k kind B m d C p q) {Bd : Nat} (h0 : w0.heap.size ≤ Bd) (hw : w.heap.size ≤ Bd) (hbb : b < Bd) (hg : g < Bd) (hb : Below Bd W W') : VL w0 w W' b g k kind B m d C p q :=
 ⟨h.low.trans (hb.mono h0), h.stp.low hbb hw hb, h.cc.low hbb hb, h.bx.low hg hb⟩
theorem VL.put (h : VL w0 w W b g k kind B m d C p q) {k' : Int} (h0 : w0.heap.size ≤ b) (hne : g ≠ b) (hs : Stp b W W') (hc : Cc W' b k') : VL w0 w W' b g k' kind B m d C p q :=
 ⟨h.low.trans (hs.below h.low.size h0), h.stp.trans hs, hc, h.bx.stp hne hs⟩
end
theorem ownOf_len (vs : List Int) (ns : List Nmr) : (ownOf vs ns).length = vs.length := List.length_map ..
theorem ownOf_at {vs : List Int} {ns : List Nmr} {k : Nat} (h : k < vs.length) : nmAt (ownOf vs ns) k = nmAt ns (vs.getD k 0).toNat := by
 unfold ownOf
 rw [nmAt]
 simp [List.getD_eq_getElem?_getD, h]
theorem take_nm {l : List Nmr} {k : Nat} (h : k < l.length) : l.take k ++ [nmAt l k] = l.take (k + 1) := by
 rw [List.take_add_one]
 simp [nmAt, List.getD_eq_getElem?_getD, List.getElem?_eq_getElem h]
theorem rdN_stp {b : Nat} {k : Int} {w w' : World} {A : Option Addr} {n : Nat} {ns : List Nmr} (h : RdN w A n ns) (hc : Cc w b k) (hs : Stp b w w') : RdN w' A n ns := by
 refine ⟨h.len, fun h0 => ?_⟩
 obtain ⟨bn, o, e, hlt, hcell⟩ := h.at_ h0
 refine ⟨bn, o, e, Nat.lt_of_lt_of_le hlt hs.size, fun i hi => ?_⟩
 obtain ⟨A1, n1, c1, hN⟩ := hcell i hi
 have key : ∀ (q : Nat) (v : Value), (∀ k z, v ≠ .int k z) → w.cell? ⟨bn, q, none⟩ = some v → w'.cell? ⟨bn, q, none⟩ = some v := by
  intro q v hv hq
  by_cases hb : bn = b
  · subst hb
    by_cases ho : q = 0
    · subst ho
      rw [hc.c0] at hq
      injection hq with hq
      exact absurd hq.symm (hv _ _)
    · rw [hs.own _ ho]; exact hq
  · rw [hs.cell (p := ⟨bn, q, none⟩) hlt hb]; exact hq
 exact ⟨A1, n1, c1, key _ _ (fun k z e => by cases e) hN.c0, key _ _ (fun k z e => by cases e) hN.c1, rd_stp hN.rd hc hs, hN.nc, hN.cm⟩
theorem allB_own {vs : List Int} {ns : List Nmr} (h : allB ns = true) (hv : ∀ k, k < vs.length → (vs.getD k 0).toNat < ns.length) : allB (ownOf vs ns) = true := by
 refine decide_eq_true fun i hi => ?_
 rw [ownOf_len] at hi
 rw [ownOf_at hi]
 exact of_decide_eq_true h _ (hv i hi)
theorem vl_vars {kind : Int} {vs : List Int} {ps : List Ply} {V : Int} (h : validLnk ⟨kind, vs, ps⟩ V = true) : ∀ k, k < vs.length → 0 ≤ vs.getD k 0 ∧ vs.getD k 0 < V := by
 simp only [validLnk, headL, risesAll, Bool.and_eq_true, decide_eq_true_eq] at h
 have h4 := h.1.2
 intro i hi
 refine ⟨?_, (h4 i hi).2⟩
 induction i with
 | zero =>
   have := (h4 0 hi).1
   simp only [prevI, if_pos] at this
   omega
 | succ i ih =>
   have h5 := (h4 (i + 1) hi).1
   have h6 := ih (by omega)
   simp only [prevI, Nat.add_eq_zero_iff, Nat.one_ne_zero, and_false, if_false, Nat.add_sub_cancel] at h5
   omega
theorem vl_polys {kind : Int} {vs : List Int} {ps : List Ply} {V : Int} (h : validLnk ⟨kind, vs, ps⟩ V = true) : ∀ k, k < ps.length → (plyAt ps k).V = (vs.length : Int) ∧ validP (plyAt ps k).V (plyAt ps k).ts = true := by
 simp only [validLnk, Bool.and_eq_true, Bool.not_eq_true', anyP, decide_eq_false_iff_not] at h
 intro k hk
 have h2 := h.2
 have h3 : ¬ badPly vs.length (plyAt ps k) = true := fun q => h2 ⟨k, hk, q⟩
 simp only [badPly, Bool.not_eq_true', Bool.not_eq_false, Bool.and_eq_true, decide_eq_true_eq] at h3
 exact h3
theorem vl_lens {kind : Int} {vs : List Int} {ps : List Ply} {V : Int} (h : validLnk ⟨kind, vs, ps⟩ V = true) : 0 ≤ kind ∧ kind < 4 ∧ (ps.length : Int) = polysOf kind ∧ vs.length ≤ 32 := by
 simp only [validLnk, headL, Bool.and_eq_true, decide_eq_true_eq] at h
 exact h.1.1
theorem take_vals {ps : List Ply} {os : List Nmr} {j : Nat} (h : j < ps.length) : (valsZ ps os).take j ++ [pVal (plyAt ps j).ts os] = (valsZ ps os).take (j + 1) := by
 rw [List.take_add_one]
 simp [valsZ, plyAt, List.getD_eq_getElem?_getD, List.getElem?_eq_getElem h]
def ValsP (T b : Nat) (k : Int) (ps : List Ply) (os : List Nmr) (w : World) (e : Ending) (w' : World) : Prop :=
 ∃ A c k' rs, e = .returned (.slice A ps.length c) ∧ Stp b w w' ∧ Cc w' b k' ∧ RdN w' A ps.length rs ∧ St T k' ∧ (k' = 0 → k = 0 ∧ rs = (valsZ ps os).map nmOf ∧ ∀ i, i < ps.length → Sz (pVal (plyAt ps i).ts os) 4096)
theorem keepZ_bad (b : Nat) (k : Int) (t : Bool) (B : Option Addr) (m d : Nat) (e0 : Int) (w : World) (hc : Cc w b k) (hk : k ≠ 0) :
 Calls Try.prog 37 #[.pointer (some ⟨b, 0, none⟩), .agg #[.bool t, .slice B m d], .int .i64 e0] w (KeepPostZ b k t B m d e0 w) := by
 have HC := Lib.hid hc
 have c0 := hc.c0
 have f0 := hc.f0
 have hlt := hc.lt
 have q0 : ((w.alloc (.cells #[.bool t, .slice B m d] 24)).alloc (.cells #[.bool false, .slice none 0 0] 24)).cell? ⟨b, 0, none⟩ = some (.int .i64 k) := ((hc.alloc _).alloc _).c0
 have t0 : (k != 0) = true := by simp [hk]
 have t1 : (k == 0) = false := by simp [hk]
 have HK := Lib.hid hk
 clear hc hk
 go_enter Try.func37, Try.ntmps37
 go_wp2
 refine bodyPost_ret (v := .agg #[.bool false, .slice none 0 0]) (by simp [results, Try.results37, go_sem]) rfl ?_
 have h1 := HC.out
 exact ⟨false, none, 0, 0, k, rfl, (Stp.of_below h1.lt (below_alloc _ _)).trans (Stp.of_below (h1.alloc _).lt (below_alloc _ _)), (h1.alloc _).alloc _, fun h => absurd h HK.out, fun _ => rfl, fun h => absurd h HK.out, fun _ => ⟨rfl, rfl, rfl, rfl⟩⟩
theorem keepZ_c (b : Nat) (k : Int) (t : Bool) (B : Option Addr) (m d : Nat) (e0 : Int) (w : World) (hc : Cc w b k) (he : e0 = 0 ∨ e0 = 4) :
 Calls Try.prog 37 #[.pointer (some ⟨b, 0, none⟩), .agg #[.bool t, .slice B m d], .int .i64 e0] w (KeepPostZ b k t B m d e0 w) := by
 by_cases hk : k = 0
 · subst hk
   rcases he with rfl | rfl
   · exact KeepZ_zero b t B m d w hc
   · exact KeepZ_four b t B m d w hc
 · exact keepZ_bad b k t B m d e0 w hc hk
set_option maxHeartbeats 8000000 in
theorem values_c (T b : Nat) (k0 : Int) (w0 w : World) (kind : Int) (B : Option Addr) (m d : Nat) (vs : List Int) (C : Option Addr) (p q : Nat) (ps : List Ply) (X : Option Addr) (nx cx : Nat) (ns : List Nmr) (V : Int)
 (hlow : Below w0.heap.size w0 w) (hb0 : w0.heap.size ≤ b) (hcc : Cc w b k0) (hst : St T k0) (hri : RdI w0 B m vs) (hrp : RdP w0 C p ps) (hns : RdN w0 X nx ns) (hv : validLnk ⟨kind, vs, ps⟩ V = true) (hV : (nx : Int) = V) (hval : allB ns = true)
 (hp : p ≤ 1000) (hT : ∀ i, i < ps.length → allV (plyAt ps i).ts (ownOf vs ns) (plyAt ps i).ts.length ≤ T) :
 Calls Try.prog 27 #[.pointer (some ⟨b, 0, none⟩), aggL kind B m d C p q, .slice X nx cx] w (ValsP T b k0 ps (ownOf vs ns) w) := by
 have k1 := bel_alloc w (boxL kind B m d C p q)
 have HB := Lib.hid (show w.heap.size < (w.alloc (boxL kind B m d C p q)).heap.size ∧ b < w.heap.size ∧ w0.heap.size ≤ b from ⟨by simp, hcc.lt, hb0⟩)
 have X0 := Lib.hid (show VL w0 w (w.alloc (boxL kind B m d C p q)) b w.heap.size k0 kind B m d C p q from ⟨hlow.trans (k1.mono hlow.size), Stp.of_below hcc.lt k1, hcc.below k1, BxL.new w kind B m d C p q⟩)
 have HI := Lib.hid (And.intro hri (And.intro hrp hns))
 have HL := Lib.hid (And.intro hri.len (And.intro hrp.len hns.len))
 have HV := Lib.hid (And.intro hv (And.intro hV (And.intro hval hT)))
 have HST := Lib.hid hst
 have HP := Lib.hid hp
 clear k1 hlow hb0 hcc hst hri hrp hns hv hV hval hT hp
 go_enter Try.func27, Try.ntmps27
 go_upto_region 1 with (fail)
 obtain ⟨W0, hW0⟩ : ∃ W0, W0 = w.alloc (boxL kind B m d C p q) := ⟨_, rfl⟩
 rw [← hW0] at HB X0 ⊢
 clear hW0
 obtain ⟨g, hg⟩ : ∃ g, g = w.heap.size := ⟨_, rfl⟩
 have HG := Lib.hid hg
 rw [← hg] at HB X0 ⊢
 clear hg
 have c0 := X0.out.bx.c1
 go_upto_region 2 with (fail)
 go_wp2
 clear c0
 obtain ⟨Bd, hBd⟩ : ∃ x, x = g + 1 := ⟨_, rfl⟩
 have HBd := Lib.hid hBd
 clear hBd
 go_loopw [7, 16] (fun v7 v16 wr => ∃ (k c2 : Nat) (A2 : Option Addr), v16 = .int .i64 (k : Int) ∧ v7 = .slice A2 k c2 ∧ k ≤ m ∧ VL w0 w wr b g k0 kind B m d C p q ∧ OwN wr Bd A2 k c2 ((ownOf vs ns).take k) ∧ Bd ≤ wr.heap.size) (fun _ v _ => m - (intOf v).toNat)
 case atStart => exact ⟨0, 0, none, rfl, rfl, Nat.zero_le _, X0.out, OwN.nil _ _, by have := HB.out.1; have := HBd.out; omega⟩
 case round =>
  obtain ⟨k, c2, A2, rfl, rfl, hk, hx, ho, hsz⟩ := hrel
  clear X0
  have X0 := Lib.hid hx
  have OW := Lib.hid ho
  have SZ := Lib.hid hsz
  have hmm : m ≤ 32 := by
   have h1 := HL.out.1
   have h2 := HV.out.1
   simp only [validLnk, headL, Bool.and_eq_true, decide_eq_true_eq] at h2
   omega
  clear hx ho hsz
  by_cases hkm : k < m
  · have t1 : decide ((k : Int) < (m : Int)) = true := decide_eq_true (by omega)
    have t1n : decide (k < m) = true := decide_eq_true hkm
    have hkI : (k : Int) < (m : Int) := by omega
    have hlow := X0.out.low
    obtain ⟨bE, oE, rfl, _, hcE⟩ := (HI.out.1.below hlow).at_ (by omega)
    have c0 := hcE k hkm
    obtain ⟨j, hj1, hj2⟩ : ∃ j : Nat, vs.getD k 0 = (j : Int) ∧ j < nx := by
     have h1 := HL.out.1
     have h3 := HV.out.2.1
     have h4 := vl_vars HV.out.1 k (by omega)
     exact ⟨(vs.getD k 0).toNat, by omega, by omega⟩
    rw [hj1] at c0
    have HJ := Lib.hid hj1
    obtain ⟨bN, oN, rfl, _, hcN⟩ := (HI.out.2.2.below hlow).at_ (by omega)
    obtain ⟨A1, n1, c1, hN⟩ := hcN j hj2
    have d0 := hN.c0
    have d1 := hN.c1
    obtain ⟨t, ht⟩ : ∃ t, t = nmAt ns j := ⟨_, rfl⟩
    rw [← ht] at d0 hN
    have HT := Lib.hid ht
    have HN := Lib.hid hN
    clear ht hN hcE hcN hlow hj1
    obtain ⟨s, xs⟩ := t
    dsimp only at d0
    go_upto_region 5 with (fail)
    go_wp2_with (at_builtin; refine wpList_app_nm rfl (.tmp 20) (.tmp 25) rfl Bd A2 k c2 ((ownOf vs ns).take k) wr.heap.size 1 s A1 n1 c1 xs rfl rfl (OW.out.keep (bel_alloc _ _)) (by rw [World.size_alloc]; have := SZ.out; omega) (NV.new _ _ _ _ _) (HN.out.rd.below (bel_alloc _ _)) HN.out.nc HN.out.cm (by omega) ?_)
    intro g' c' w9 h1 hb
    have hba := bel_alloc wr (.cells #[.bool s, .slice A1 n1 c1] 24)
    rw [show (ownOf vs ns).take k ++ [⟨s, xs⟩] = (ownOf vs ns).take (k + 1) from by
     rw [← take_nm (by rw [ownOf_len, HL.out.1]; exact hkm), ownOf_at (by rw [HL.out.1]; exact hkm), HJ.out, Int.toNat_natCast, ← HT.out]] at h1
    have OW2 := Lib.hid h1
    have hs1 := HBd.out
    have hs2 := HB.out
    have hs3 := HG.out
    have hs4 := X0.out.low.size
    have X2 := Lib.hid ((X0.out.next hba).under (Bd := Bd) (by omega) (by omega) (by omega) (by omega) hb)
    have SZ2 := Lib.hid (show Bd ≤ w9.heap.size from Nat.le_trans SZ.out (Nat.le_trans hba.size hb.size))
    clear h1 hb hba hs1 hs2 hs3 hs4 X0 OW SZ HN HT HJ d0 d1 c0
    go_wp2
    go_roundw
    case measure => simp [intOf]; omega
    case rel => exact ⟨k + 1, c', some ⟨g', 0, none⟩, by go_num, by go_num, by omega, X2.out, OW2.out, SZ2.out⟩
  · have e : k = m := by omega
    have t1 : decide ((k : Int) < (m : Int)) = false := decide_eq_false (by omega)
    have t1n : decide (k < m) = false := decide_eq_false hkm
    have OWR := Lib.hid (show RdN wr A2 m (ownOf vs ns) from by
     have h := OW.out.rd
     rw [e, List.take_of_length_le (by rw [ownOf_len, HL.out.1]; exact Nat.le_refl _)] at h
     exact h)
    rw [e] at t1 t1n ⊢
    clear OW e hk hkm
    have c0 := X0.out.bx.c2
    go_wp2
    obtain ⟨B2, hB2⟩ : ∃ x, x = wr.heap.size := ⟨_, rfl⟩
    have HB2 := Lib.hid hB2
    have X1 := Lib.hid (show VL w0 wr wr b g k0 kind B m d C p q from ⟨X0.out.low, Stp.refl _ _, X0.out.cc, X0.out.bx⟩)
    clear hB2 c0
    have HS1 := Lib.hid X0.out.stp
    clear X0
    have HOS := Lib.hid (allB_own HV.out.2.2.1 (fun k hk => by
     have h1 := vl_vars HV.out.1 k hk
     have h2 := HV.out.2.1
     have h3 := HL.out.2.2
     omega))
    have hcl := X1.out.cc
    have OWR1 := Lib.hid (And.intro OWR.out hcl)
    clear OWR hcl
    generalize wr = W1 at X1 OWR1 SZ HS1 HB2 ⊢
    go_loopw [10, 31] (fun v10 v31 wq => ∃ (j c3 : Nat) (A3 : Option Addr) (k' : Int) (rs : List Nmr), v31 = .int .i64 (j : Int) ∧ v10 = .slice A3 j c3 ∧ j ≤ p ∧ VL w0 W1 wq b g k' kind B m d C p q ∧ OwN wq B2 A3 j c3 rs ∧ B2 ≤ wq.heap.size ∧ St T k' ∧ (k' = 0 → k0 = 0 ∧ rs = ((valsZ ps (ownOf vs ns)).take j).map nmOf ∧ ∀ i, i < j → Sz (pVal (plyAt ps i).ts (ownOf vs ns)) 4096)) (fun _ v _ => p - (intOf v).toNat)
    case atStart => exact ⟨0, 0, none, k0, [], rfl, rfl, Nat.zero_le _, X1.out, OwN.nil _ _, by rw [HB2.out]; exact Nat.le_refl _, HST.out, fun h => ⟨h, rfl, fun i hi => absurd hi (by omega)⟩⟩
    case round =>
     obtain ⟨j, c3, A3, k', rs, rfl, rfl, hj, hx, ho, hsz, hst, hz⟩ := hrel
     have hpp := HP.out
     have X0 := Lib.hid hx
     have OW := Lib.hid ho
     have SZ2 := Lib.hid hsz
     have ST2 := Lib.hid hst
     have HZ := Lib.hid hz
     clear hx ho hsz hst hz
     by_cases hjp : j < p
     · have t1 : decide ((j : Int) < (p : Int)) = true := decide_eq_true (by omega)
       have t1n : decide (j < p) = true := decide_eq_true hjp
       have hjI : (j : Int) < (p : Int) := by omega
       obtain ⟨bP, oP, rfl, _, hcP⟩ := (HI.out.2.1.below X0.out.low).at_ (by omega)
       obtain ⟨A4, n4, c4, hP⟩ := hcP j hjp
       obtain ⟨pl, hpl⟩ : ∃ x, x = plyAt ps j := ⟨_, rfl⟩
       have HPL := Lib.hid hpl
       rw [← hpl] at hP
       clear hpl hcP
       obtain ⟨V', ts⟩ := pl
       have d0 := hP.c0
       have d1 := hP.c1
       dsimp only at d0
       have HPI := Lib.hid hP
       clear hP
       go_upto_region 11 with (fail)
       have hba := bel_alloc wr (boxP V' A4 n4 c4)
       have XP := Lib.hid (BxP.new wr V' A4 n4 c4)
       have X2 := Lib.hid (X0.out.next hba)
       have OW2 := Lib.hid (OW.out.keep hba)
       have SZ3 := Lib.hid (show B2 ≤ (wr.alloc (boxP V' A4 n4 c4)).heap.size from Nat.le_trans SZ2.out hba.size)
       have PT := Lib.hid (HPI.out.rt.below hba)
       have HPN := Lib.hid (And.intro HPI.out.nc HPI.out.cm)
       clear X0 OW SZ2 HPI hba d0 d1
       generalize wr.alloc (boxP V' A4 n4 c4) = W2 at XP X2 OW2 SZ3 PT ⊢
       generalize wr.heap.size = gq at XP ⊢
       have d0 := XP.out.c0
       have d1 := XP.out.c1
       have hV1 := vl_polys HV.out.1 j (by have := HL.out.2.1; omega)
       rw [← HPL.out] at hV1
       have HV1 := Lib.hid hV1
       have hT1 := HV.out.2.2.2 j (by have := HL.out.2.1; omega)
       rw [← HPL.out] at hT1
       have HT1 := Lib.hid hT1
       have RO := Lib.hid (rdN_stp OWR1.out.1 OWR1.out.2 X2.out.stp)
       clear hV1 hT1
       go_wp2_with fail
       refine (polyEval_c V' A4 n4 c4 ts A2 m c2 (ownOf vs ns) _ PT.out RO.out (by omega)).mono ?_
       rintro e W3 hE
       have hE2 := hE.val (by rw [HOS.out, HV1.out.2]; rfl) (by rw [ownOf_len]; exact HV1.out.1.symm)
       clear hE
       obtain ⟨t', B', m', d', e', rfl, hE0, hEs, hEz, hb⟩ := hE2
       have X3 := Lib.hid (X2.out.next hb)
       have OW3 := Lib.hid (OW2.out.keep hb)
       have SZ4 := Lib.hid (Nat.le_trans SZ3.out hb.size)
       have HE0 := Lib.hid (And.intro hE0 (And.intro hEs hEz))
       clear hb hE0 hEs hEz XP X2 OW2 SZ3 PT d0 d1 RO
       have he04 : e' = 0 ∨ e' = 4 := HE0.out.2.1.elim .inl (fun h => .inr h.1)
       go_wp2_with fail
       refine (keepZ_c b k' t' B' m' d' e' _ X3.out.cc he04).mono ?_
       rintro e W4 ⟨t5, B5, m5, d5, k5, rfl, hs, hc, hk0, hkn, hkz, hkq⟩
       have hbg := HB.out
       have X4 := Lib.hid (X3.out.put (by omega) (by omega) hs hc)
       have hb2 : b < B2 := by have h1 := HB2.out; have h2 := HS1.out.size; have h3 := HG.out; omega
       have OW4 := Lib.hid (OW3.out.stp hb2 X3.out.cc hs)
       have SZ5 := Lib.hid (Nat.le_trans SZ4.out hs.size)
       obtain ⟨xs5, hx5⟩ : ∃ xs5, Rd W4 B5 m5 xs5 ∧ m5 ≤ d5 ∧ d5 ≤ 9223372036854775807 ∧ (k5 = 0 → k' = 0 ∧ (⟨t5, xs5⟩ : Nmr) = nmOf (pVal ts (ownOf vs ns)) ∧ Sz (pVal ts (ownOf vs ns)) 4096) := by
        by_cases h5 : k5 = 0
        · obtain ⟨a1, a2, rfl, rfl, rfl, rfl⟩ := hk0 h5
          have hI := (HE0.out.1 a2).stp X3.out.cc hs
          obtain ⟨i1, i2, i3, i4, i5⟩ := hI.is
          exact ⟨_, i3, i4, i5, fun _ => ⟨a1, by rw [i1]; rfl, hI.sz⟩⟩
        · obtain ⟨rfl, rfl, rfl, rfl⟩ := hkq h5
          exact ⟨[], ⟨rfl, small_nil, fun h => absurd h (by omega)⟩, Nat.le_refl _, by omega, fun h => absurd h h5⟩
       have HX5 := Lib.hid hx5
       have HK5 := Lib.hid (show St T k5 from by
        by_cases h5 : k' = 0
        · rw [hkz h5]; exact HE0.out.2.1.le HT1.out
        · rw [hkn h5]; exact ST2.out)
       clear hs hc hk0 hkn hkz hkq hx5 X3 OW3 SZ4 HE0 hbg hb2 he04
       go_wp2_with (at_builtin; refine wpList_app_nm rfl (.tmp 35) (.tmp 43) rfl B2 A3 j c3 rs W4.heap.size 1 t5 B5 m5 d5 xs5 rfl rfl (OW4.out.keep (bel_alloc _ _)) (by rw [World.size_alloc]; have := SZ5.out; omega) (NV.new _ _ _ _ _) (HX5.out.1.below (bel_alloc _ _)) HX5.out.2.1 HX5.out.2.2.1 (by omega) ?_)
       intro g' c' w9 h1 hb
       have hba := bel_alloc W4 (.cells #[.bool t5, .slice B5 m5 d5] 24)
       have OW5 := Lib.hid h1
       have hs1 := HB2.out
       have hs2 := HB.out
       have hs3 := HG.out
       have hs4 := HS1.out.size
       have hs5 := X1.out.bx.lt
       have X5 := Lib.hid ((X4.out.next hba).under (Bd := B2) (by omega) (by omega) (by omega) (by omega) hb)
       have SZ6 := Lib.hid (show B2 ≤ w9.heap.size from Nat.le_trans SZ5.out (Nat.le_trans hba.size hb.size))
       have HZ6 := Lib.hid (show k5 = 0 → k0 = 0 ∧ rs ++ [⟨t5, xs5⟩] = ((valsZ ps (ownOf vs ns)).take (j + 1)).map nmOf ∧ ∀ i, i < j + 1 → Sz (pVal (plyAt ps i).ts (ownOf vs ns)) 4096 from fun h5 => by
        obtain ⟨a1, a2, a3⟩ := HX5.out.2.2.2 h5
        obtain ⟨z1, z2, z3⟩ := HZ.out a1
        have hpl := HPL.out
        refine ⟨z1, ?_, fun i hi => ?_⟩
        · rw [← take_vals (by have := HL.out.2.1; omega), List.map_append, ← z2, a2, ← hpl]
          rfl
        · by_cases e : i = j
          · rw [e, ← hpl]; exact a3
          · exact z3 i (by omega))
       clear h1 hb hba hs1 hs2 hs3 hs4 hs5 X4 OW4 SZ5 HX5 HZ ST2 HPL HV1 HT1 HPN
       go_wp2
       go_roundw
       case measure => simp [intOf]; omega
       case rel => exact ⟨j + 1, c', some ⟨g', 0, none⟩, k5, _, by go_num, by go_num, by omega, X5.out, OW5.out, SZ6.out, HK5.out, HZ6.out⟩
     · have e : j = p := by omega
       have t1 : decide ((j : Int) < (p : Int)) = false := decide_eq_false (by omega)
       have t1n : decide (j < p) = false := decide_eq_false hjp
       have HR := Lib.hid (show ValsP T b k0 ps (ownOf vs ns) w (.returned (.slice A3 j c3)) wr from by
        have hl := HL.out.2.1
        refine ⟨A3, c3, k', rs, by rw [hl, e], HS1.out.trans X0.out.stp, X0.out.cc, by rw [hl, ← e]; exact OW.out.rd, ST2.out, fun h => ?_⟩
        obtain ⟨z1, z2, z3⟩ := HZ.out h
        refine ⟨z1, ?_, fun i hi => z3 i (by omega)⟩
        rw [z2, List.take_of_length_le (by unfold valsZ; rw [List.length_map]; omega)])
       go_wp2
       go_ret
       exact HR.out
structure B3 (w W : World) (a : Int) (t0 : Bool) (A0 : Option Addr) (n0 c0 : Nat) (b : Int) (t1 : Bool) (A1 : Option Addr) (n1 c1 : Nat) (c : Int) (t2 : Bool) (A2 : Option Addr) (n2 c2 : Nat) : Prop where
 low : Below w.heap.size w W
 ba : Box W w.heap.size a t0 A0 n0 c0
 bb : Box W (w.heap.size + 1) b t1 A1 n1 c1
 bc : Box W (w.heap.size + 1 + 1) c t2 A2 n2 c2
section
variable {w W W' : World} {a : Int} {t0 : Bool} {A0 : Option Addr} {n0 c0 : Nat} {b : Int} {t1 : Bool} {A1 : Option Addr} {n1 c1 : Nat} {c : Int} {t2 : Bool} {A2 : Option Addr} {n2 c2 : Nat}
theorem B3.next (h : B3 w W a t0 A0 n0 c0 b t1 A1 n1 c1 c t2 A2 n2 c2) (hb : Below W.heap.size W W') : B3 w W' a t0 A0 n0 c0 b t1 A1 n1 c1 c t2 A2 n2 c2 :=
 ⟨h.low.trans (hb.mono h.low.size), h.ba.next hb, h.bb.next hb, h.bc.next hb⟩
theorem B3.start (h0 : Is w a t0 A0 n0 c0) (h1 : Is w b t1 A1 n1 c1) (h2 : Is w c t2 A2 n2 c2) :
 B3 w (((w.alloc (.cells #[.bool t0, .slice A0 n0 c0] 24)).alloc (.cells #[.bool t1, .slice A1 n1 c1] 24)).alloc (.cells #[.bool t2, .slice A2 n2 c2] 24)) a t0 A0 n0 c0 b t1 A1 n1 c1 c t2 A2 n2 c2 := by
 have k0 := bel_alloc w (.cells #[.bool t0, .slice A0 n0 c0] 24)
 have k1 := bel_alloc (w.alloc (.cells #[.bool t0, .slice A0 n0 c0] 24)) (.cells #[.bool t1, .slice A1 n1 c1] 24)
 have k2 := bel_alloc ((w.alloc (.cells #[.bool t0, .slice A0 n0 c0] 24)).alloc (.cells #[.bool t1, .slice A1 n1 c1] 24)) (.cells #[.bool t2, .slice A2 n2 c2] 24)
 have e1 := Box.new ((h1.below k0))
 have e2 := Box.new ((h2.below k0).below k1)
 rw [World.size_alloc] at e1 e2
 rw [World.size_alloc] at e2
 exact ⟨(k0.trans (k1.mono k0.size)).trans (k2.mono (Nat.le_trans k0.size k1.size)), ((Box.new h0).next k1).next k2, e1.next k2, e2⟩
end
theorem pow_never {a b c : Int} (ha : 2 ≤ a) (hb : 9223372036854775808 ≤ b) (hc : Sz c 4096) : ¬ a ^ b.toNat = c := by
 intro e
 have h := pow_long (z := a) (k := b.toNat) (by
  have h1 : 2 ≤ a.natAbs := by omega
  rcases Nat.lt_or_ge 1 (blen a.natAbs) with h2 | h2
  · exact h2
  · have := blen_lt a.natAbs
    have h3 := Nat.pow_le_pow_right (n := 2) (by omega) h2
    omega) (by omega)
 rw [e] at h
 exact h hc.len
set_option maxHeartbeats 8000000 in
theorem isPower_c {w : World} {a : Int} {t0 : Bool} {A0 : Option Addr} {n0 c0 : Nat} {b : Int} {t1 : Bool} {A1 : Option Addr} {n1 c1 : Nat} {c : Int} {t2 : Bool} {A2 : Option Addr} {n2 c2 : Nat} (h0 : Iv w a t0 A0 n0 c0) (h1 : Iv w b t1 A1 n1 c1) (h2 : Iv w c t2 A2 n2 c2) :
 Calls Try.prog 41 #[.agg #[.bool t0, .slice A0 n0 c0], .agg #[.bool t1, .slice A1 n1 c1], .agg #[.bool t2, .slice A2 n2 c2]] w (IsB (decide (1 ≤ a ∧ 0 ≤ b ∧ a ^ b.toNat = c)) w) := by
 have E := Lib.hid (B3.start h0.is h1.is h2.is)
 have HS := Lib.hid (And.intro h0.sz (And.intro h1.sz h2.sz))
 clear h0 h1 h2
 go_enter Try.func41, Try.ntmps41
 go_upto_region 1 with (fail)
 generalize ((w.alloc (.cells #[.bool t0, .slice A0 n0 c0] 24)).alloc (.cells #[.bool t1, .slice A1 n1 c1] 24)).alloc (.cells #[.bool t2, .slice A2 n2 c2] 24) = W0 at E ⊢
 go_wp2_with fail
 refine (OfV 1 _ (by omega) (by omega)).mono ?_
 rintro e w1 ⟨t3, A3, n3, c3, rfl, hi, hb⟩
 replace E := Lib.hid (E.out.next hb)
 have k1 := bel_alloc w1 (.cells #[.bool t3, .slice A3 n3 c3] 24)
 have BO := Lib.hid (Box.new hi.is)
 have HO := Lib.hid hi.sz
 replace E := Lib.hid (E.out.next k1)
 clear hi hb k1
 go_upto_region 2 with (fail)
 generalize w1.alloc (.cells #[.bool t3, .slice A3 n3 c3] 24) = W1 at E BO ⊢
 generalize w1.heap.size = go_ at BO ⊢
 have x0 := E.out.ba.c0
 have x1 := E.out.ba.c1
 have o0 := BO.out.c0
 have o1 := BO.out.c1
 go_wp2_with fail
 refine (Less_c ⟨E.out.ba.is, HS.out.1⟩ ⟨BO.out.is, HO.out⟩).mono ?_
 rintro e w2 ⟨rfl, hb⟩
 replace E := Lib.hid (E.out.next hb)
 replace BO := Lib.hid (BO.out.next hb)
 clear hb x0 x1 o0 o1
 obtain ⟨v, hv⟩ : ∃ v, v = decide (a < 1) := ⟨_, rfl⟩
 rw [← hv]
 have HV := Lib.hid hv
 clear hv
 cases v with
 | true =>
   have HF := Lib.hid (show decide (1 ≤ a ∧ 0 ≤ b ∧ a ^ b.toNat = c) = false from decide_eq_false fun q => by
    have := of_decide_eq_true HV.out.symm
    omega)
   go_wp2
   go_ret
   exact ⟨by rw [HF.out] <;> rfl, E.out.low⟩
 | false =>
 have HA1 := Lib.hid (show 1 ≤ a by have := of_decide_eq_false HV.out.symm; omega)
 clear HV
 have HT1 := Lib.hid E.out.bb.is.1
 have y0 := E.out.bb.c0
 cases t1 with
 | true =>
   have HF := Lib.hid (show decide (1 ≤ a ∧ 0 ≤ b ∧ a ^ b.toNat = c) = false from decide_eq_false fun q => by
    have := of_decide_eq_true HT1.out.symm
    omega)
   go_wp2
   go_ret
   exact ⟨by rw [HF.out] <;> rfl, E.out.low⟩
 | false =>
 have HB0 := Lib.hid (show 0 ≤ b by have := of_decide_eq_false HT1.out.symm; omega)
 clear HT1
 have x0 := E.out.ba.c0
 have x1 := E.out.ba.c1
 have o0 := BO.out.c0
 have o1 := BO.out.c1
 go_wp2_with fail
 refine (Equal_c ⟨E.out.ba.is, HS.out.1⟩ ⟨BO.out.is, HO.out⟩).mono ?_
 rintro e w3 ⟨rfl, hb⟩
 replace E := Lib.hid (E.out.next hb)
 replace BO := Lib.hid (BO.out.next hb)
 clear hb x0 x1 o0 o1 y0
 obtain ⟨v, hv⟩ : ∃ v, v = decide (a = 1) := ⟨_, rfl⟩
 rw [← hv]
 have HV := Lib.hid hv
 clear hv
 cases v with
 | true =>
   have x0 := E.out.bc.c0
   have x1 := E.out.bc.c1
   have o0 := BO.out.c0
   have o1 := BO.out.c1
   go_wp2_with fail
   refine (Equal_c ⟨E.out.bc.is, HS.out.2.2⟩ ⟨BO.out.is, HO.out⟩).mono ?_
   rintro e w4 ⟨rfl, hb⟩
   replace E := Lib.hid (E.out.next hb)
   clear hb x0 x1 o0 o1
   have HF := Lib.hid (show decide (1 ≤ a ∧ 0 ≤ b ∧ a ^ b.toNat = c) = decide (c = 1) by
    have h1 := of_decide_eq_true HV.out.symm
    have h2 := HB0.out
    rw [h1, Int.one_pow]
    by_cases h : c = 1
    · rw [decide_eq_true h, decide_eq_true ⟨by omega, h2, h.symm⟩]
    · rw [decide_eq_false h, decide_eq_false (fun q => h q.2.2.symm)])
   go_wp2
   go_ret
   exact ⟨by rw [HF.out] <;> rfl, E.out.low⟩
 | false =>
 have HA2 := Lib.hid (show 2 ≤ a by have h1 := of_decide_eq_false HV.out.symm; have h2 := HA1.out; omega)
 clear HV
 have x0 := E.out.bb.c0
 have x1 := E.out.bb.c1
 obtain ⟨V, hV⟩ : ∃ V, V = b.natAbs := ⟨_, rfl⟩
 have hraw := E.out.bb.is.raw HS.out.2.1 (Nat.le_refl _)
 rw [← hV] at hraw
 have HRAW := Lib.hid hraw
 have HVB := Lib.hid hV
 clear hraw hV
 go_wp2_with fail
 refine (Small_c false A1 n1 c1 V _ HRAW.out.1 HRAW.out.2.1).mono ?_
 rintro e w4 ⟨rfl, hb⟩
 replace E := Lib.hid (E.out.next hb)
 clear hb x0 x1 HRAW
 obtain ⟨u, hu⟩ : ∃ u, u = smallB false V := ⟨_, rfl⟩
 rw [← hu]
 have HU := Lib.hid hu
 clear hu
 cases u with
 | false =>
   have HF := Lib.hid (show decide (1 ≤ a ∧ 0 ≤ b ∧ a ^ b.toNat = c) = false from decide_eq_false fun q => by
    have h1 := HU.out.symm
    simp only [smallB, Bool.false_eq_true, if_false, decide_eq_false_iff_not] at h1
    have h2 := HVB.out
    exact pow_never HA2.out (by omega) HS.out.2.2 q.2.2)
   simp only [Bool.false_eq_true, if_false]
   go_wp2
   go_ret
   exact ⟨by rw [HF.out] <;> rfl, E.out.low⟩
 | true =>
 have HK := Lib.hid (show V < 9223372036854775808 by
  have h1 := HU.out.symm
  simp only [smallB, Bool.false_eq_true, if_false, decide_eq_true_eq] at h1
  exact h1)
 have HBV := Lib.hid (show b.toNat = V by have := HVB.out; have := HB0.out; omega)
 rw [if_pos rfl, show sgn false V = (V : Int) from rfl]
 have x0 := E.out.ba.c0
 have x1 := E.out.ba.c1
 go_wp2_with fail
 refine (Power_is E.out.ba.is (E.out.ba.is.len HS.out.1) V HK.out).mono ?_
 rintro e w5 ⟨t5, A5, m5, d5, k5, rfl, hn, hb⟩
 replace E := Lib.hid (E.out.next hb)
 clear hb x0 x1
 by_cases hz : (words (a ^ V).natAbs).length ≤ 4096
 · obtain ⟨rfl, hi⟩ := hn.is_ hz
   have BP := Lib.hid (Box.new hi)
   replace E := Lib.hid (E.out.next (bel_alloc w5 (.cells #[.bool t5, .slice A5 m5 d5] 24)))
   have HZ := Lib.hid (show Sz (a ^ V) 4096 from sz_of_len hz)
   clear hn hi hz
   go_upto_region 10 with (fail)
   generalize w5.alloc (.cells #[.bool t5, .slice A5 m5 d5] 24) = W6 at E BP ⊢
   generalize w5.heap.size = gp at BP ⊢
   have x0 := E.out.bc.c0
   have x1 := E.out.bc.c1
   have o0 := BP.out.c0
   have o1 := BP.out.c1
   go_wp2_with fail
   refine (Equal_c ⟨BP.out.is, HZ.out⟩ ⟨E.out.bc.is, HS.out.2.2⟩).mono ?_
   rintro e w6 ⟨rfl, hb⟩
   replace E := Lib.hid (E.out.next hb)
   clear hb x0 x1 o0 o1
   have HF := Lib.hid (show decide (1 ≤ a ∧ 0 ≤ b ∧ a ^ b.toNat = c) = decide (a ^ V = c) by
    rw [HBV.out]
    by_cases h : a ^ V = c
    · rw [decide_eq_true h, decide_eq_true ⟨HA1.out, HB0.out, h⟩]
    · rw [decide_eq_false h, decide_eq_false (fun q => h q.2.2)])
   generalize decide (a ^ V = c) = v at HF ⊢
   go_wp2
   go_ret
   exact ⟨by rw [HF.out] <;> rfl, E.out.low⟩
 · obtain ⟨rfl, rfl, rfl, rfl, rfl⟩ := hn.2 hz
   have HF := Lib.hid (show decide (1 ≤ a ∧ 0 ≤ b ∧ a ^ b.toNat = c) = false from decide_eq_false fun q => by
    have h1 := q.2.2
    rw [HBV.out] at h1
    rw [h1] at hz
    exact hz HS.out.2.2.len)
   clear hn hz
   replace E := Lib.hid (E.out.next (bel_alloc w5 (.cells #[.bool false, .slice none 0 0] 24)))
   go_upto_region 10 with (fail)
   generalize w5.alloc (.cells #[.bool false, .slice none 0 0] 24) = W6 at E ⊢
   go_wp2
   go_ret
   exact ⟨by rw [HF.out] <;> rfl, E.out.low⟩
end Go.Proofs.Yteabokkofoomkaa

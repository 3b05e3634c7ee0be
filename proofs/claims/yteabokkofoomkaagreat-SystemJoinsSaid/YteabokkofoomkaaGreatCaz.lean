import Derived.Test.YteabokkofoomkaaGreatCak
import Derived.Test.YteabokkofoomkaaGreatCay
set_option maxRecDepth 100000
namespace Go.Proofs.YteabokkofoomkaaGreat
open Go.RowKit Go.Shelf Go.Deep
structure Zt where
 z : Int
 es : List Int
def trmOf (t : Zt) : Trm := ⟨decide (t.z < 0), words t.z.natAbs, t.es⟩
def ztAt (ts : List Zt) (k : Nat) : Zt := ts.getD k ⟨0, []⟩
def consZ (t : Zt) (l : List Zt) : List Zt := if t.z = 0 then l else t :: l
def mergeZ : List Zt → List Zt → List Zt
 | [], [] => []
 | a :: us, [] => consZ a (mergeZ us [])
 | [], b :: vs => consZ b (mergeZ [] vs)
 | a :: us, b :: vs => if ordT a.es b.es = 1 then consZ a (mergeZ us (b :: vs)) else if ordT a.es b.es = -1 then consZ b (mergeZ (a :: us) vs) else consZ ⟨a.z + b.z, a.es⟩ (mergeZ us vs)
termination_by us vs => us.length + vs.length
theorem drop_zt {l : List Zt} {k : Nat} (h : k < l.length) : l.drop k = ztAt l k :: l.drop (k + 1) := by
 rw [List.drop_eq_getElem_cons h]
 simp [ztAt, List.getD_eq_getElem?_getD, List.getElem?_eq_getElem h]
theorem trm_zt {l : List Zt} {k : Nat} (h : k < l.length) : trmAt (l.map trmOf) k = trmOf (ztAt l k) := by
 simp [trmAt, ztAt, List.getD_eq_getElem?_getD, List.getElem?_eq_getElem h]
theorem merge_a {us vs : List Zt} {i k : Nat} (h : i < us.length) (h' : k = vs.length) : mergeZ (us.drop i) (vs.drop k) = consZ (ztAt us i) (mergeZ (us.drop (i + 1)) (vs.drop k)) := by
 subst h'
 rw [drop_zt h, List.drop_length, mergeZ]
theorem merge_b {us vs : List Zt} {i k : Nat} (h : i = us.length) (h' : k < vs.length) : mergeZ (us.drop i) (vs.drop k) = consZ (ztAt vs k) (mergeZ (us.drop i) (vs.drop (k + 1))) := by
 subst h
 rw [drop_zt h', List.drop_length, mergeZ]
theorem merge_1 {us vs : List Zt} {i k : Nat} (h : i < us.length) (h' : k < vs.length) (ho : ordT (ztAt us i).es (ztAt vs k).es = 1) : mergeZ (us.drop i) (vs.drop k) = consZ (ztAt us i) (mergeZ (us.drop (i + 1)) (vs.drop k)) := by
 rw [drop_zt h, drop_zt h', mergeZ, if_pos ho]
theorem merge_m {us vs : List Zt} {i k : Nat} (h : i < us.length) (h' : k < vs.length) (ho : ordT (ztAt us i).es (ztAt vs k).es = -1) : mergeZ (us.drop i) (vs.drop k) = consZ (ztAt vs k) (mergeZ (us.drop i) (vs.drop (k + 1))) := by
 rw [drop_zt h, drop_zt h', mergeZ, if_neg (by rw [ho]; decide), if_pos ho]
theorem merge_0 {us vs : List Zt} {i k : Nat} (h : i < us.length) (h' : k < vs.length) (h1 : ¬ ordT (ztAt us i).es (ztAt vs k).es = 1) (h2 : ¬ ordT (ztAt us i).es (ztAt vs k).es = -1) : mergeZ (us.drop i) (vs.drop k) = consZ ⟨(ztAt us i).z + (ztAt vs k).z, (ztAt us i).es⟩ (mergeZ (us.drop (i + 1)) (vs.drop (k + 1))) := by
 rw [drop_zt h, drop_zt h', mergeZ, if_neg h1, if_neg h2]
theorem rdI_set_other {w : World} {A : Option Addr} {n : Nat} {zs : List Int} (h : RdI w A n zs) {p : Addr} {v : Value} (hp : w.cell? p = some v) (hv : ∀ k z, v ≠ .int k z) (u : Value) : RdI (w.setCell p u) A n zs := by
 refine ⟨h.len, fun h0 => ?_⟩
 obtain ⟨b, o, e, hlt, hc⟩ := h.at_ h0
 refine ⟨b, o, e, by rw [World.size_setCell]; exact hlt, fun k hk => ?_⟩
 rw [World.cell?_setCell_other _ _ _ _ (by intro e; rw [e, hc k hk] at hp; injection hp with hp; exact hv _ _ hp.symm)]
 exact hc k hk
section
variable {W : World} {g : Nat} {s : Bool} {A : Option Addr} {n c : Nat} {B : Option Addr} {m d : Nat}
theorem rd_put3 (hx : BxT W g s A n c B m d) {A' : Option Addr} {n' : Nat} {xs : List Nat} (h : Rd W A' n' xs) (u0 u1 u2 : Value) : Rd (((W.setCell ⟨g, 0, none⟩ u0).setCell ⟨g, 1, none⟩ u1).setCell ⟨g, 2, none⟩ u2) A' n' xs :=
 ((h.set_other hx.c0 (by intro z e; cases e) u0).set_other ((World.cell?_setCell_other _ _ _ _ (by intro e; injection e with e1 e2; omega)).trans hx.c1) (by intro z e; cases e) u1).set_other ((World.cell?_setCell_other _ _ _ _ (by intro e; injection e with e1 e2; omega)).trans ((World.cell?_setCell_other _ _ _ _ (by intro e; injection e with e1 e2; omega)).trans hx.c2)) (by intro z e; cases e) u2
theorem rdI_put3 (hx : BxT W g s A n c B m d) {A' : Option Addr} {n' : Nat} {xs : List Int} (h : RdI W A' n' xs) (u0 u1 u2 : Value) : RdI (((W.setCell ⟨g, 0, none⟩ u0).setCell ⟨g, 1, none⟩ u1).setCell ⟨g, 2, none⟩ u2) A' n' xs :=
 rdI_set_other (rdI_set_other (rdI_set_other h hx.c0 (by intro k z e; cases e) u0) ((World.cell?_setCell_other _ _ _ _ (by intro e; injection e with e1 e2; omega)).trans hx.c1) (by intro k z e; cases e) u1) ((World.cell?_setCell_other _ _ _ _ (by intro e; injection e with e1 e2; omega)).trans ((World.cell?_setCell_other _ _ _ _ (by intro e; injection e with e1 e2; omega)).trans hx.c2)) (by intro k z e; cases e) u2
theorem BxT.put3 (hx : BxT W g s A n c B m d) (s' : Bool) (A' : Option Addr) (n' c' : Nat) (B' : Option Addr) (m' d' : Nat) : BxT (((W.setCell ⟨g, 0, none⟩ (.bool s')).setCell ⟨g, 1, none⟩ (.slice A' n' c')).setCell ⟨g, 2, none⟩ (.slice B' m' d')) g s' A' n' c' B' m' d' := by
 refine ⟨by rw [World.size_setCell, World.size_setCell, World.size_setCell]; exact hx.lt, ?_, ?_, ?_⟩
 · rw [World.cell?_setCell_other _ _ _ _ (by intro e; injection e with e1 e2; omega), World.cell?_setCell_other _ _ _ _ (by intro e; injection e with e1 e2; omega)]
   exact World.cell?_setCell_same _ _ _ hx.c0
 · rw [World.cell?_setCell_other _ _ _ _ (by intro e; injection e with e1 e2; omega)]
   exact World.cell?_setCell_same _ _ _ ((World.cell?_setCell_other _ _ _ _ (by intro e; injection e with e1 e2; omega)).trans hx.c1)
 · exact World.cell?_setCell_same _ _ _ ((World.cell?_setCell_other _ _ _ _ (by intro e; injection e with e1 e2; omega)).trans ((World.cell?_setCell_other _ _ _ _ (by intro e; injection e with e1 e2; omega)).trans hx.c2))
end
theorem below_put3 {w W : World} {N g : Nat} (h : Below N w W) (hg : N ≤ g) (u0 u1 u2 : Value) : Below N w (((W.setCell ⟨g, 0, none⟩ u0).setCell ⟨g, 1, none⟩ u1).setCell ⟨g, 2, none⟩ u2) :=
 ((h.setCell (p := ⟨g, 0, none⟩) hg u0).setCell (p := ⟨g, 1, none⟩) hg u1).setCell (p := ⟨g, 2, none⟩) hg u2
structure TV0 (W : World) (g : Nat) : Prop where
 bx : BxT W g false none 0 0 none 0 0
 fr : ∀ o, W.frozen? ⟨g, o, none⟩ = false
theorem TV0.new (W : World) : TV0 (W.alloc (boxT false none 0 0 none 0 0)) W.heap.size :=
 ⟨BxT.new W false none 0 0 none 0 0, fun o => by simp only [World.frozen?, Go.heap_alloc_new]; simp⟩
theorem TV0.next {W W' : World} {g : Nat} (h : TV0 W g) (hb : Below W.heap.size W W') : TV0 W' g :=
 ⟨h.bx.next hb, fun o => (hb.frozen (p := ⟨g, o, none⟩) h.bx.lt).trans (h.fr o)⟩
structure TV1 (W : World) (g : Nat) (T : Zt) (s : Bool) (A : Option Addr) (n c : Nat) (B : Option Addr) (m d : Nat) : Prop where
 bx : BxT W g s A n c B m d
 is : Is W T.z s A n c
 ri : RdI W B m T.es
 md : m ≤ d
 dm : d ≤ 9223372036854775807
section
variable {W W' : World} {g : Nat} {T : Zt} {s : Bool} {A : Option Addr} {n c : Nat} {B : Option Addr} {m d : Nat}
theorem TV1.next (h : TV1 W g T s A n c B m d) (hb : Below W.heap.size W W') : TV1 W' g T s A n c B m d :=
 ⟨h.bx.next hb, h.is.below hb, h.ri.below hb, h.md, h.dm⟩
theorem TV1.of_put (h0 : TV0 W g) (hi : Is W T.z s A n c) (ri : RdI W B m T.es) (md : m ≤ d) (dm : d ≤ 9223372036854775807) : TV1 (((W.setCell ⟨g, 0, none⟩ (.bool s)).setCell ⟨g, 1, none⟩ (.slice A n c)).setCell ⟨g, 2, none⟩ (.slice B m d)) g T s A n c B m d :=
 ⟨h0.bx.put3 _ _ _ _ _ _ _, ⟨hi.1, hi.2.1, rd_put3 h0.bx hi.2.2.1 _ _ _, hi.2.2.2⟩, rdI_put3 h0.bx ri _ _ _, md, dm⟩
theorem TV1.lit (h : TV1 W g T s A n c B m d) : TB (W.alloc (boxT s A n c B m d)) W.heap.size (trmOf T) A n c B m d := by
 have hb := bel_alloc W (boxT s A n c B m d)
 have h1 := h.is.1
 have e : (trmOf T).s = s := h1.symm
 refine ⟨?_, ?_, h.is.2.2.2.1, h.is.2.2.2.2, h.ri.below hb, h.md, h.dm⟩
 · rw [e]; exact BxT.new W s A n c B m d
 · exact h.is.2.2.1.below hb
end
theorem is_of_trm {W : World} {b o : Nat} {T : Zt} {A : Option Addr} {n c : Nat} {B : Option Addr} {m d : Nat} (h : TrmIs W b o (trmOf T) A n c B m d) : Is W T.z (decide (T.z < 0)) A n c := by
 have hr : Rd W A n (words T.z.natAbs) := h.rd
 exact ⟨rfl, hr.len.symm, hr, h.nc, h.cm⟩
theorem ea_c0 {W : World} {b o : Nat} {T : Zt} {s : Bool} {A : Option Addr} {n c : Nat} {B : Option Addr} {m d : Nat} (h : TrmIs W b o (trmOf T) A n c B m d) (hs : s = decide (T.z < 0)) : W.cell? ⟨b, o, none⟩ = some (.bool s) := by
 rw [hs]; exact h.c0
def MergeP (us vs : List Zt) (w : World) (e : Ending) (w' : World) : Prop :=
 ∃ A c, e = .returned (.slice A (mergeZ us vs).length c) ∧ OwT w' w.heap.size A (mergeZ us vs).length c ((mergeZ us vs).map trmOf) ∧ Below w.heap.size w w'
structure MIn (K M : Nat) (us vs : List Zt) : Prop where
 a : ∀ i, i < us.length → ExpsIn (ztAt us i).es ∧ (ztAt us i).es.length = M ∧ Sz (ztAt us i).z K
 b : ∀ i, i < vs.length → ExpsIn (ztAt vs i).es ∧ (ztAt vs i).es.length = M ∧ Sz (ztAt vs i).z K
set_option maxHeartbeats 16000000 in
theorem merged_c (K M : Nat) (A : Option Addr) (n c : Nat) (us : List Zt) (B : Option Addr) (q d : Nat) (vs : List Zt) (w : World) (h : RdT w A n (us.map trmOf)) (h' : RdT w B q (vs.map trmOf)) (hI : MIn K M us vs) (hK : K ≤ 1000000000) (hM : M ≤ 1000000) (hn : n + q ≤ 1000000) :
 Calls Tryz.prog 101 #[.slice A n c, .slice B q d] w (MergeP us vs w) := by
 have hl := h.len
 have hl' := h'.len
 rw [List.length_map] at hl hl'
 have HI := Lib.hid (And.intro h h')
 have HL := Lib.hid (And.intro hl hl')
 have HM := Lib.hid hI
 have HK := Lib.hid (And.intro hK hM)
 clear h h' hl hl' hI hK hM
 go_enter Tryz.func101, Tryz.ntmps101
 go_wp2
 go_loopw [5, 6, 7] (fun v5 v6 v7 wr => ∃ (i k j cL : Nat) (L : Option Addr) (out : List Zt), v6 = .int .i64 (i : Int) ∧ v7 = .int .i64 (k : Int) ∧ v5 = .slice L j cL ∧ i ≤ n ∧ k ≤ q ∧ j ≤ i + k ∧ Below w.heap.size w wr ∧ OwT wr w.heap.size L j cL (out.map trmOf) ∧ out ++ mergeZ (us.drop i) (vs.drop k) = mergeZ us vs) (fun _ v u _ => (n + q) - ((intOf v).toNat + (intOf u).toNat))
 case atStart => exact ⟨0, 0, 0, 0, none, [], rfl, rfl, rfl, Nat.zero_le _, Nat.zero_le _, Nat.zero_le _, Below.refl _ _, OwT.nil _ _, rfl⟩
 case round =>
  obtain ⟨i, k, j, cL, L, out, rfl, rfl, rfl, hi, hk, hj, hp, ho, heq⟩ := hrel
  have P := Lib.hid hp
  have OW := Lib.hid ho
  have HQ := Lib.hid heq
  clear hp ho heq
  have k0 := bel_alloc wr (boxT false none 0 0 none 0 0)
  have TV := Lib.hid (TV0.new wr)
  have P0 := Lib.hid (show Below wr.heap.size wr (wr.alloc (boxT false none 0 0 none 0 0)) from k0)
  clear k0
  by_cases hin : i < n
  · have t1 : decide ((i : Int) < (n : Int)) = true := decide_eq_true (by omega)
    have t1n : decide (i < n) = true := decide_eq_true hin
    have t2 : ((i : Int) == (n : Int)) = false := by rw [beq_eq_false_iff_ne]; omega
    have t2n : (i == n) = false := by rw [beq_eq_false_iff_ne]; omega
    have hiI : (i : Int) < (n : Int) := by omega
    obtain ⟨bA, oA, rfl, hltA, hcA⟩ := HI.out.1.at_ (by omega)
    obtain ⟨A1, n1, c1, B1, m1, d1, hTA⟩ := hcA i hin
    rw [trm_zt (by have := HL.out.1; omega)] at hTA
    have HTA := Lib.hid hTA
    have hA2 := hTA.below hltA P.out
    have a0 := hA2.c0
    have a1 := hA2.c1
    have a2 := hA2.c2
    clear hTA hcA hA2
    by_cases hkq : k < q
    · have t3 : decide ((k : Int) < (q : Int)) = true := decide_eq_true (by omega)
      have t3n : decide (k < q) = true := decide_eq_true hkq
      have t4 : ((k : Int) == (q : Int)) = false := by rw [beq_eq_false_iff_ne]; omega
      have t4n : (k == q) = false := by rw [beq_eq_false_iff_ne]; omega
      have hkI : (k : Int) < (q : Int) := by omega
      obtain ⟨bB, oB, rfl, hltB, hcB⟩ := HI.out.2.at_ (by omega)
      obtain ⟨A2, n2, c2, B2, m2, d2, hTB⟩ := hcB k hkq
      rw [trm_zt (by have := HL.out.2; omega)] at hTB
      have HTB := Lib.hid hTB
      have hB2 := hTB.below hltB P.out
      have b0 := hB2.c0
      have b1 := hB2.c1
      have b2 := hB2.c2
      clear hTB hcB hB2
      have HEA := Lib.hid (HM.out.a i (by have := HL.out.1; omega))
      have HEB := Lib.hid (HM.out.b k (by have := HL.out.2; omega))
      have hmm : m2 = m1 := by
       have h1 := HTA.out.ri.len
       have h2 := HTB.out.ri.len
       have h3 := HEA.out.2.1
       have h4 := HEB.out.2.1
       have h5 : (trmOf (ztAt us i)).es = (ztAt us i).es := rfl
       have h6 : (trmOf (ztAt vs k)).es = (ztAt vs k).es := rfl
       rw [h5] at h1
       rw [h6] at h2
       omega
      subst hmm
      have HM1 := Lib.hid (show m2 ≤ 1000000 by
       have h2 := HTB.out.ri.len
       have h4 := HEB.out.2.1
       have h6 : (trmOf (ztAt vs k)).es = (ztAt vs k).es := rfl
       rw [h6] at h2
       have := HK.out.2
       omega)
      have XA := Lib.hid (show TrA wr bA (oA + i * 3) (trmOf (ztAt us i)) A1 n1 c1 B1 m2 d1 from ⟨Nat.lt_of_lt_of_le hltA P.out.size, HTA.out.below hltA P.out⟩)
      have XB := Lib.hid (show TrA wr bB (oB + k * 3) (trmOf (ztAt vs k)) A2 n2 c2 B2 m2 d2 from ⟨Nat.lt_of_lt_of_le hltB P.out.size, HTB.out.below hltB P.out⟩)
      clear a0 a1 a2 b0 b1 b2 HTA HTB P0 TV
      go_upto_region 5 with (fail)
      refine wp_region_held_drew (S := (fun w' => w'.cell? ⟨bA, (oA + i * 3 + 2), none⟩ = some (.slice B1 m2 d1) ∧ w'.cell? ⟨bB, (oB + k * 3 + 2), none⟩ = some (.slice B2 m2 d2))) (by kernel_rfl) (⟨cell_drq XA.out.is.c2, cell_drq XB.out.is.c2⟩) (fun hHeld => ?_)
      replace P := Lib.hid (P.out.trans ((Below.refl wr.heap.size wr).drew.mono P.out.size))
      replace OW := Lib.hid (OW.out.keep (Below.refl wr.heap.size wr).drew)
      replace XA := Lib.hid (XA.out.next (Below.refl wr.heap.size wr).drew)
      replace XB := Lib.hid (XB.out.next (Below.refl wr.heap.size wr).drew)
      generalize wr.drew = D1 at P OW XA XB hHeld ⊢
      refine tkk 0 20 rfl rfl (by kernel_rfl) (fun _ _ _ _ h => h) (by rfl) (fun w h => by obtain ⟨h0, h1⟩ := h; go_simp; rfl) (by assumption) ?_
      simp only [set0, set1]
      refine tkk 1 21 rfl rfl (by kernel_rfl) (fun _ _ _ _ h => h) (by rfl) (fun w h => by obtain ⟨h0, h1⟩ := h; go_simp; rfl) (by assumption) ?_
      simp only [set0, set1]
      refine tkk 2 22 rfl rfl (by kernel_rfl) (fun _ _ _ _ h => h) (by rfl) (fun w h => by obtain ⟨h0, h1⟩ := h; go_simp; rfl) (by assumption) ?_
      simp only [set0, set1]
      refine tkk 3 23 rfl rfl (by kernel_rfl) (fun _ _ _ _ h => h) (by rfl) (fun w h => by obtain ⟨h0, h1⟩ := h; go_simp; rfl) (by assumption) ?_
      simp only [set0, set1]
      refine tkk 4 24 rfl rfl (by kernel_rfl) (fun _ _ _ _ h => h) (by rfl) (fun w h => by obtain ⟨h0, h1⟩ := h; go_simp; rfl) (by assumption) ?_
      simp only [set0, set1]
      refine tkk 5 25 rfl rfl (by kernel_rfl) (fun _ _ _ _ h => h) (by rfl) (fun w h => by obtain ⟨h0, h1⟩ := h; go_simp; rfl) (by assumption) ?_
      simp only [set0, set1]
      refine tkk 6 26 rfl rfl (by kernel_rfl) (fun _ _ _ _ h => h) (by rfl) (fun w h => by obtain ⟨h0, h1⟩ := h; go_simp; rfl) (by assumption) ?_
      simp only [set0, set1]
      refine tkk 7 27 rfl rfl (by kernel_rfl) (fun _ _ _ _ h => h) (by rfl) (fun w h => by obtain ⟨h0, h1⟩ := h; go_simp; rfl) (by assumption) ?_
      simp only [set0, set1]
      refine tkk 8 28 rfl rfl (by kernel_rfl) (fun _ _ _ _ h => h) (by rfl) (fun w h => by obtain ⟨h0, h1⟩ := h; go_simp; rfl) (by assumption) ?_
      simp only [set0, set1]
      refine tkk 9 29 rfl rfl (by kernel_rfl) (fun _ _ _ _ h => h) (by rfl) (fun w h => by obtain ⟨h0, h1⟩ := h; go_simp; rfl) (by assumption) ?_
      simp only [set0, set1]
      refine wpAnyH_ready (rs := [10]) (by kernel_rfl) (by simp) ?_
      refine AllReadyH.cons rfl (fun K hK => ?_) AllReadyH.nil
      go_simp
      refine (refOrder_c B1 m2 d1 B2 d2 (ztAt us i).es (ztAt vs k).es D1 XA.out.is.ri XB.out.is.ri HEA.out.1 HEB.out.1 HM1.out).mono ?_
      rintro e v2 ⟨rfl, hb⟩
      obtain ⟨od, hod⟩ : ∃ x, x = ordT (ztAt us i).es (ztAt vs k).es := ⟨_, rfl⟩
      rw [← hod]
      have HOD := Lib.hid hod
      replace P := Lib.hid (P.out.trans (hb.mono P.out.size))
      replace OW := Lib.hid (OW.out.keep hb)
      replace XA := Lib.hid (XA.out.next hb)
      replace XB := Lib.hid (XB.out.next hb)
      clear hb hod hHeld
      refine hK.out _ _ (⟨XA.out.is.c2, XB.out.is.c2⟩) (fun hHeld => ?_)
      clear hK K
      refine tkk 11 8 rfl rfl (by kernel_rfl) (fun _ _ _ _ h => h) (by rfl) (fun w h => by obtain ⟨h0, h1⟩ := h; go_simp; rfl) (by assumption) ?_
      clear hHeld
      refine wpAnyH_done (by kernel_rfl) ?_ _
      generalize v2 = V0 at P OW XA XB ⊢
      by_cases q1 : od = 1
      case pos =>
       subst q1
       have HS := Lib.hid (merge_1 (us := us) (vs := vs) (i := i) (k := k) (by have := HL.out.1; omega) (by have := HL.out.2; omega) HOD.out.symm)
       clear XB HEA HEB HOD
       obtain ⟨T, hT⟩ : ∃ x, x = ztAt us i := ⟨_, rfl⟩
       rw [← hT] at XA HS
       clear hT
       obtain ⟨sT, hsT⟩ : ∃ x, x = decide (T.z < 0) := ⟨_, rfl⟩
       have k0 := bel_alloc V0 (boxT false none 0 0 none 0 0)
       have BP := bel_alloc V0 (boxT sT A1 n1 c1 B1 m2 d1)
       have P2 := Lib.hid (P.out.trans (BP.mono P.out.size))
       have OW2 := Lib.hid (OW.out.keep BP)
       have XN := Lib.hid (XA.out.next k0)
       have TV := Lib.hid (TV0.new V0)
       have y0 : (V0.alloc (boxT false none 0 0 none 0 0)).cell? ⟨bA, oA + i * 3, none⟩ = some (.bool sT) := by rw [hsT]; exact XN.out.is.c0
       have y1 := XN.out.is.c1
       have y2 := XN.out.is.c2
       have v0 := TV.out.bx.c0
       have v1 := TV.out.bx.c1
       have v2 := TV.out.bx.c2
       have f0 := TV.out.fr 0
       have f1 := TV.out.fr 1
       have f2 := TV.out.fr 2
       have TX := Lib.hid (show TV1 (V0.alloc (boxT sT A1 n1 c1 B1 m2 d1)) V0.heap.size T sT A1 n1 c1 B1 m2 d1 from ⟨BxT.new V0 sT A1 n1 c1 B1 m2 d1, (show Is V0 T.z sT A1 n1 c1 by rw [hsT]; exact is_of_trm XA.out.is).below BP, XA.out.is.ri.below BP, XA.out.is.md, XA.out.is.dm⟩)
       clear hsT k0 BP TV XN XA P OW
       go_upto_region 16 with (fail)
       clear y0 y1 y2 v0 v1 v2 f0 f1 f2
       generalize V0.alloc (boxT sT A1 n1 c1 B1 m2 d1) = W6 at TX P2 OW2 ⊢
       generalize V0.heap.size = gt at TX ⊢
       have P := P2
       have OW := OW2
       clear P2 OW2
       have x0 := TX.out.bx.c0
       have x1 := TX.out.bx.c1
       go_wp2_with fail
       refine (zero_c sT A1 n1 c1 _).mono ?_
       rintro e w7 ⟨rfl, hb⟩
       replace P := Lib.hid (P.out.trans (hb.mono P.out.size))
       replace OW := Lib.hid (OW.out.keep hb)
       replace TX := Lib.hid (TX.out.next hb)
       clear hb x0 x1
       by_cases hz : T.z = 0
       · rw [decide_eq_true ((zero_iff TX.out.is).2 hz)]
         have HE := Lib.hid (show out ++ mergeZ (us.drop (i + 1)) (vs.drop (k)) = mergeZ us vs by rw [← HQ.out, HS.out, consZ, if_pos hz])
         clear hz TX
         go_wp2
         go_roundw
         case measure => simp [intOf]; omega
         case rel => exact ⟨i + 1, k, j, cL, L, out, by go_num, by go_num, rfl, by omega, by omega, by omega, P.out, OW.out, HE.out⟩
       · rw [decide_eq_false (fun q => hz ((zero_iff TX.out.is).1 q))]
         have HE := Lib.hid (show (out ++ [T]) ++ mergeZ (us.drop (i + 1)) (vs.drop (k)) = mergeZ us vs by rw [← HQ.out, HS.out, consZ, if_neg hz, List.append_assoc]; rfl)
         clear hz
         have x0 := TX.out.bx.c0
         have x1 := TX.out.bx.c1
         have x2 := TX.out.bx.c2
         go_upto_region 21 with (fail)
         go_wp2_with (at_builtin; refine wpList_app_tm rfl (.tmp 84) (.tmp 86) rfl w.heap.size L j cL (out.map trmOf) w7.heap.size 1 rfl rfl (OW.out.keep (bel_alloc _ _)) (Nat.le_trans P.out.size (bel_alloc _ _).size) TX.out.lit (by omega) ?_)
         intro g' c' w9 h1 hb
         have hba := bel_alloc w7 (boxT sT A1 n1 c1 B1 m2 d1)
         rw [show out.map trmOf ++ [trmOf T] = (out ++ [T]).map trmOf by rw [List.map_append]; rfl] at h1
         have OW2 := Lib.hid h1
         have P2 := Lib.hid ((P.out.trans (hba.mono P.out.size)).trans hb)
         clear h1 hb hba x0 x1 x2 OW P TX
         go_wp2
         go_roundw
         case measure => simp [intOf]; omega
         case rel => exact ⟨i + 1, k, j + 1, c', some ⟨g', 0, none⟩, out ++ [T], by go_num, by go_num, by go_num, by omega, by omega, by omega, P2.out, OW2.out, HE.out⟩
      by_cases q2 : od = -1
      case pos =>
       subst q2
       have HS := Lib.hid (merge_m (us := us) (vs := vs) (i := i) (k := k) (by have := HL.out.1; omega) (by have := HL.out.2; omega) HOD.out.symm)
       clear XA HEA HEB HOD q1
       obtain ⟨T, hT⟩ : ∃ x, x = ztAt vs k := ⟨_, rfl⟩
       rw [← hT] at XB HS
       clear hT
       obtain ⟨sT, hsT⟩ : ∃ x, x = decide (T.z < 0) := ⟨_, rfl⟩
       have k0 := bel_alloc V0 (boxT false none 0 0 none 0 0)
       have BP := bel_alloc V0 (boxT sT A2 n2 c2 B2 m2 d2)
       have P2 := Lib.hid (P.out.trans (BP.mono P.out.size))
       have OW2 := Lib.hid (OW.out.keep BP)
       have XN := Lib.hid (XB.out.next k0)
       have TV := Lib.hid (TV0.new V0)
       have y0 : (V0.alloc (boxT false none 0 0 none 0 0)).cell? ⟨bB, oB + k * 3, none⟩ = some (.bool sT) := by rw [hsT]; exact XN.out.is.c0
       have y1 := XN.out.is.c1
       have y2 := XN.out.is.c2
       have v0 := TV.out.bx.c0
       have v1 := TV.out.bx.c1
       have v2 := TV.out.bx.c2
       have f0 := TV.out.fr 0
       have f1 := TV.out.fr 1
       have f2 := TV.out.fr 2
       have TX := Lib.hid (show TV1 (V0.alloc (boxT sT A2 n2 c2 B2 m2 d2)) V0.heap.size T sT A2 n2 c2 B2 m2 d2 from ⟨BxT.new V0 sT A2 n2 c2 B2 m2 d2, (show Is V0 T.z sT A2 n2 c2 by rw [hsT]; exact is_of_trm XB.out.is).below BP, XB.out.is.ri.below BP, XB.out.is.md, XB.out.is.dm⟩)
       clear hsT k0 BP TV XN XB P OW
       go_upto_region 19 with (fail)
       clear y0 y1 y2 v0 v1 v2 f0 f1 f2
       generalize V0.alloc (boxT sT A2 n2 c2 B2 m2 d2) = W6 at TX P2 OW2 ⊢
       generalize V0.heap.size = gt at TX ⊢
       have P := P2
       have OW := OW2
       clear P2 OW2
       have x0 := TX.out.bx.c0
       have x1 := TX.out.bx.c1
       go_wp2_with fail
       refine (zero_c sT A2 n2 c2 _).mono ?_
       rintro e w7 ⟨rfl, hb⟩
       replace P := Lib.hid (P.out.trans (hb.mono P.out.size))
       replace OW := Lib.hid (OW.out.keep hb)
       replace TX := Lib.hid (TX.out.next hb)
       clear hb x0 x1
       by_cases hz : T.z = 0
       · rw [decide_eq_true ((zero_iff TX.out.is).2 hz)]
         have HE := Lib.hid (show out ++ mergeZ (us.drop (i)) (vs.drop (k + 1)) = mergeZ us vs by rw [← HQ.out, HS.out, consZ, if_pos hz])
         clear hz TX
         go_wp2
         go_roundw
         case measure => simp [intOf]; omega
         case rel => exact ⟨i, k + 1, j, cL, L, out, by go_num, by go_num, rfl, by omega, by omega, by omega, P.out, OW.out, HE.out⟩
       · rw [decide_eq_false (fun q => hz ((zero_iff TX.out.is).1 q))]
         have HE := Lib.hid (show (out ++ [T]) ++ mergeZ (us.drop (i)) (vs.drop (k + 1)) = mergeZ us vs by rw [← HQ.out, HS.out, consZ, if_neg hz, List.append_assoc]; rfl)
         clear hz
         have x0 := TX.out.bx.c0
         have x1 := TX.out.bx.c1
         have x2 := TX.out.bx.c2
         go_upto_region 21 with (fail)
         go_wp2_with (at_builtin; refine wpList_app_tm rfl (.tmp 84) (.tmp 86) rfl w.heap.size L j cL (out.map trmOf) w7.heap.size 1 rfl rfl (OW.out.keep (bel_alloc _ _)) (Nat.le_trans P.out.size (bel_alloc _ _).size) TX.out.lit (by omega) ?_)
         intro g' c' w9 h1 hb
         have hba := bel_alloc w7 (boxT sT A2 n2 c2 B2 m2 d2)
         rw [show out.map trmOf ++ [trmOf T] = (out ++ [T]).map trmOf by rw [List.map_append]; rfl] at h1
         have OW2 := Lib.hid h1
         have P2 := Lib.hid ((P.out.trans (hba.mono P.out.size)).trans hb)
         clear h1 hb hba x0 x1 x2 OW P TX
         go_wp2
         go_roundw
         case measure => simp [intOf]; omega
         case rel => exact ⟨i, k + 1, j + 1, c', some ⟨g', 0, none⟩, out ++ [T], by go_num, by go_num, by go_num, by omega, by omega, by omega, P2.out, OW2.out, HE.out⟩
      have HS := Lib.hid (merge_0 (us := us) (vs := vs) (i := i) (k := k) (by have := HL.out.1; omega) (by have := HL.out.2; omega) (by rw [← HOD.out]; exact q1) (by rw [← HOD.out]; exact q2))
      have s1 : (od == 1) = false := by rw [beq_eq_false_iff_ne]; exact q1
      have s2 : (od == -1) = false := by rw [beq_eq_false_iff_ne]; exact q2
      clear q1 q2 HOD
      have HZA := Lib.hid (And.intro HEA.out.2.2 HEB.out.2.2)
      clear HEA HEB
      have TV := Lib.hid (TV0.new V0)
      have PB := Lib.hid (bel_alloc V0 (boxT false none 0 0 none 0 0))
      have XA2 := Lib.hid (XA.out.next (bel_alloc V0 (boxT false none 0 0 none 0 0)))
      have XB2 := Lib.hid (XB.out.next (bel_alloc V0 (boxT false none 0 0 none 0 0)))
      clear XA XB
      have XA := XA2
      have XB := XB2
      clear XA2 XB2
      obtain ⟨za, hza⟩ : ∃ x, x = ztAt us i := ⟨_, rfl⟩
      obtain ⟨zb, hzb⟩ : ∃ x, x = ztAt vs k := ⟨_, rfl⟩
      rw [← hza] at XA HS HZA
      rw [← hzb] at XB HS HZA
      clear hza hzb
      obtain ⟨sA, hsA⟩ : ∃ x, x = decide (za.z < 0) := ⟨_, rfl⟩
      obtain ⟨sB, hsB⟩ : ∃ x, x = decide (zb.z < 0) := ⟨_, rfl⟩
      have HSA := Lib.hid hsA
      have HSB := Lib.hid hsB
      clear hsA hsB
      go_upto_region 12 with (fail)
      generalize V0.alloc (boxT false none 0 0 none 0 0) = W5 at TV PB XA XB ⊢
      obtain ⟨gt, hgt⟩ : ∃ x, x = V0.heap.size := ⟨_, rfl⟩
      have HGT := Lib.hid hgt
      rw [← hgt] at TV ⊢
      clear hgt s1 s2
      refine wp_region_tail (S := (fun w' => w'.cell? ⟨bA, (oA + i * 3), none⟩ = some (.bool sA) ∧ w'.cell? ⟨bA, (oA + i * 3 + 1), none⟩ = some (.slice A1 n1 c1) ∧ w'.cell? ⟨bA, (oA + i * 3 + 2), none⟩ = some (.slice B1 m2 d1) ∧ w'.cell? ⟨bB, (oB + k * 3), none⟩ = some (.bool sB) ∧ w'.cell? ⟨bB, (oB + k * 3 + 1), none⟩ = some (.slice A2 n2 c2))) 17 (by kernel_rfl) (by kernel_rfl) (by intro c a d v w h; cases d <;> exact h) (⟨cell_drq (ea_c0 XA.out.is HSA.out), cell_drq XA.out.is.c1, cell_drq XA.out.is.c2, cell_drq (ea_c0 XB.out.is HSB.out), cell_drq XB.out.is.c1⟩) (fun QT hT hP hHeld => ?_)
      simp only [List.extract_toArray, List.extract_eq_take_drop, List.drop_zero, Nat.sub_zero, List.take_succ_cons, List.take_zero]
      have HT := Lib.hid hT
      clear hT
      replace PB := Lib.hid (PB.out.trans ((Below.refl W5.heap.size W5).drew.mono PB.out.size))
      replace XA := Lib.hid (XA.out.next (Below.refl W5.heap.size W5).drew)
      replace XB := Lib.hid (XB.out.next (Below.refl W5.heap.size W5).drew)
      replace TV := Lib.hid (TV.out.next (Below.refl W5.heap.size W5).drew)
      generalize W5.drew = D3 at PB XA XB TV hHeld ⊢
      refine tkk 0 43 rfl rfl (by kernel_rfl) (hP · · _) (by rfl) (fun w h => by obtain ⟨h0, h1, h2, h3, h4⟩ := h; go_simp; rfl) (by assumption) ?_
      simp only [set0, set1]
      refine tkk 1 44 rfl rfl (by kernel_rfl) (hP · · _) (by rfl) (fun w h => by obtain ⟨h0, h1, h2, h3, h4⟩ := h; go_simp; rfl) (by assumption) ?_
      simp only [set0, set1]
      refine tkk 2 45 rfl rfl (by kernel_rfl) (hP · · _) (by rfl) (fun w h => by obtain ⟨h0, h1, h2, h3, h4⟩ := h; go_simp; rfl) (by assumption) ?_
      simp only [set0, set1]
      refine tkk 3 46 rfl rfl (by kernel_rfl) (hP · · _) (by rfl) (fun w h => by obtain ⟨h0, h1, h2, h3, h4⟩ := h; go_simp; rfl) (by assumption) ?_
      simp only [set0, set1]
      refine tkk 4 47 rfl rfl (by kernel_rfl) (hP · · _) (by rfl) (fun w h => by obtain ⟨h0, h1, h2, h3, h4⟩ := h; go_simp; rfl) (by assumption) ?_
      simp only [set0, set1]
      refine tkk 5 48 rfl rfl (by kernel_rfl) (hP · · _) (by rfl) (fun w h => by obtain ⟨h0, h1, h2, h3, h4⟩ := h; go_simp; rfl) (by assumption) ?_
      simp only [set0, set1]
      refine tkk 6 49 rfl rfl (by kernel_rfl) (hP · · _) (by rfl) (fun w h => by obtain ⟨h0, h1, h2, h3, h4⟩ := h; go_simp; rfl) (by assumption) ?_
      simp only [set0, set1]
      refine tkk 7 50 rfl rfl (by kernel_rfl) (hP · · _) (by rfl) (fun w h => by obtain ⟨h0, h1, h2, h3, h4⟩ := h; go_simp; rfl) (by assumption) ?_
      simp only [set0, set1]
      refine tkk 8 51 rfl rfl (by kernel_rfl) (hP · · _) (by rfl) (fun w h => by obtain ⟨h0, h1, h2, h3, h4⟩ := h; go_simp; rfl) (by assumption) ?_
      simp only [set0, set1]
      refine tkk 9 52 rfl rfl (by kernel_rfl) (hP · · _) (by rfl) (fun w h => by obtain ⟨h0, h1, h2, h3, h4⟩ := h; go_simp; rfl) (by assumption) ?_
      simp only [set0, set1]
      refine tkk 11 54 rfl rfl (by kernel_rfl) (hP · · _) (by rfl) (fun w h => by obtain ⟨h0, h1, h2, h3, h4⟩ := h; go_simp; rfl) (by assumption) ?_
      simp only [set0, set1]
      refine tkk 12 55 rfl rfl (by kernel_rfl) (hP · · _) (by rfl) (fun w h => by obtain ⟨h0, h1, h2, h3, h4⟩ := h; go_simp; rfl) (by assumption) ?_
      simp only [set0, set1]
      refine tkk 13 56 rfl rfl (by kernel_rfl) (hP · · _) (by rfl) (fun w h => by obtain ⟨h0, h1, h2, h3, h4⟩ := h; go_simp; rfl) (by assumption) ?_
      simp only [set0, set1]
      refine tkk 14 57 rfl rfl (by kernel_rfl) (hP · · _) (by rfl) (fun w h => by obtain ⟨h0, h1, h2, h3, h4⟩ := h; go_simp; rfl) (by assumption) ?_
      simp only [set0, set1]
      refine tkk 15 58 rfl rfl (by kernel_rfl) (hP · · _) (by rfl) (fun w h => by obtain ⟨h0, h1, h2, h3, h4⟩ := h; go_simp; rfl) (by assumption) ?_
      simp only [set0, set1]
      refine wpAnyH_ready (rs := [10]) (by kernel_rfl) (by simp) ?_
      refine AllReadyH.cons rfl (fun K hK => ?_) AllReadyH.nil
      go_simp
      have iA := is_of_trm XA.out.is
      have iB := is_of_trm XB.out.is
      rw [← HSA.out] at iA
      rw [← HSB.out] at iB
      refine (refAdd_c iA iB (Nat.le_trans (iA.len HZA.out.1) (by have := HK.out.1; omega)) (Nat.le_trans (iB.len HZA.out.2) (by have := HK.out.1; omega))).mono ?_
      rintro e v4 ⟨sT, At, nt, ct, rfl, hi9, hb⟩
      have IT := Lib.hid hi9
      clear iA iB hi9
      replace PB := Lib.hid (PB.out.trans (hb.mono PB.out.size))
      replace XA := Lib.hid (XA.out.next hb)
      replace XB := Lib.hid (XB.out.next hb)
      replace TV := Lib.hid (TV.out.next hb)
      clear hb hHeld
      refine hK.out _ _ (⟨(ea_c0 XA.out.is HSA.out), XA.out.is.c1, XA.out.is.c2, (ea_c0 XB.out.is HSB.out), XB.out.is.c1⟩) (fun hHeld => ?_)
      clear hK K
      refine tkk 16 59 rfl rfl (by kernel_rfl) (hP · · _) (by rfl) (fun w h => by obtain ⟨h0, h1, h2, h3, h4⟩ := h; go_simp; rfl) (by assumption) ?_
      clear hHeld
      refine wpAnyH_done (by kernel_rfl) ?_ _
      refine HT.out _ _ ?_
      clear HT hP QT
      have v0 := TV.out.bx.c0
      have v1 := TV.out.bx.c1
      have v2 := TV.out.bx.c2
      have f0 := TV.out.fr 0
      have f1 := TV.out.fr 1
      have f2 := TV.out.fr 2
      have BP := below_put3 PB.out (show V0.heap.size ≤ gt by rw [HGT.out]; exact Nat.le_refl _) (.bool sT) (.slice At nt ct) (.slice B1 m2 d1)
      have P2 := Lib.hid (P.out.trans (BP.mono P.out.size))
      have OW2 := Lib.hid (OW.out.keep BP)
      have TX := Lib.hid (show TV1 (((v4.setCell ⟨gt, 0, none⟩ (.bool sT)).setCell ⟨gt, 1, none⟩ (.slice At nt ct)).setCell ⟨gt, 2, none⟩ (.slice B1 m2 d1)) gt ⟨za.z + zb.z, za.es⟩ sT At nt ct B1 m2 d1 from TV1.of_put TV.out IT.out XA.out.is.ri XA.out.is.md XA.out.is.dm)
      refine wpList_step fun K hK => ?_
      go_simp
      refine hK _ _ ?_
      clear hK K
      refine wpList_nil ?_
      clear v0 v1 v2 f0 f1 f2 BP TV XA XB IT P OW PB
      generalize ((v4.setCell ⟨gt, 0, none⟩ (.bool sT)).setCell ⟨gt, 1, none⟩ (.slice At nt ct)).setCell ⟨gt, 2, none⟩ (.slice B1 m2 d1) = W6 at TX P2 OW2 ⊢
      have P := P2
      have OW := OW2
      clear P2 OW2
      obtain ⟨T, hT⟩ : ∃ x, x = (⟨za.z + zb.z, za.es⟩ : Zt) := ⟨_, rfl⟩
      rw [← hT] at TX HS
      clear hT
      have x0 := TX.out.bx.c0
      have x1 := TX.out.bx.c1
      go_wp2_with fail
      refine (zero_c sT At nt ct _).mono ?_
      rintro e w7 ⟨rfl, hb⟩
      replace P := Lib.hid (P.out.trans (hb.mono P.out.size))
      replace OW := Lib.hid (OW.out.keep hb)
      replace TX := Lib.hid (TX.out.next hb)
      clear hb x0 x1
      by_cases hz : T.z = 0
      · rw [decide_eq_true ((zero_iff TX.out.is).2 hz)]
        have HE := Lib.hid (show out ++ mergeZ (us.drop (i + 1)) (vs.drop (k + 1)) = mergeZ us vs by rw [← HQ.out, HS.out, consZ, if_pos hz])
        clear hz TX
        go_wp2
        go_roundw
        case measure => simp [intOf]; omega
        case rel => exact ⟨i + 1, k + 1, j, cL, L, out, by go_num, by go_num, rfl, by omega, by omega, by omega, P.out, OW.out, HE.out⟩
      · rw [decide_eq_false (fun q => hz ((zero_iff TX.out.is).1 q))]
        have HE := Lib.hid (show (out ++ [T]) ++ mergeZ (us.drop (i + 1)) (vs.drop (k + 1)) = mergeZ us vs by rw [← HQ.out, HS.out, consZ, if_neg hz, List.append_assoc]; rfl)
        clear hz
        have x0 := TX.out.bx.c0
        have x1 := TX.out.bx.c1
        have x2 := TX.out.bx.c2
        go_upto_region 21 with (fail)
        go_wp2_with (at_builtin; refine wpList_app_tm rfl (.tmp 84) (.tmp 86) rfl w.heap.size L j cL (out.map trmOf) w7.heap.size 1 rfl rfl (OW.out.keep (bel_alloc _ _)) (Nat.le_trans P.out.size (bel_alloc _ _).size) TX.out.lit (by omega) ?_)
        intro g' c' w9 h1 hb
        have hba := bel_alloc w7 (boxT sT At nt ct B1 m2 d1)
        rw [show out.map trmOf ++ [trmOf T] = (out ++ [T]).map trmOf by rw [List.map_append]; rfl] at h1
        have OW2 := Lib.hid h1
        have P2 := Lib.hid ((P.out.trans (hba.mono P.out.size)).trans hb)
        clear h1 hb hba x0 x1 x2 OW P TX
        go_wp2
        go_roundw
        case measure => simp [intOf]; omega
        case rel => exact ⟨i + 1, k + 1, j + 1, c', some ⟨g', 0, none⟩, out ++ [T], by go_num, by go_num, by go_num, by omega, by omega, by omega, P2.out, OW2.out, HE.out⟩
    · have e : k = vs.length := by have := HL.out.2; omega
      have t3 : decide ((k : Int) < (q : Int)) = false := decide_eq_false (by omega)
      have t3n : decide (k < q) = false := decide_eq_false hkq
      have t4 : ((k : Int) == (q : Int)) = true := by rw [beq_iff_eq]; omega
      have t4n : (k == q) = true := by rw [beq_iff_eq]; omega
      have XA := Lib.hid (show TrA wr bA (oA + i * 3) (trmOf (ztAt us i)) A1 n1 c1 B1 m1 d1 from ⟨Nat.lt_of_lt_of_le hltA P.out.size, HTA.out.below hltA P.out⟩)
      have HS := Lib.hid (merge_a (us := us) (vs := vs) (i := i) (k := k) (by have := HL.out.1; omega) e)
      clear a0 a1 a2 HTA e
      clear TV P0
      obtain ⟨T, hT⟩ : ∃ x, x = ztAt us i := ⟨_, rfl⟩
      rw [← hT] at XA HS
      clear hT
      obtain ⟨sT, hsT⟩ : ∃ x, x = decide (T.z < 0) := ⟨_, rfl⟩
      have k0 := bel_alloc wr (boxT false none 0 0 none 0 0)
      have BP := bel_alloc wr (boxT sT A1 n1 c1 B1 m1 d1)
      have P2 := Lib.hid (P.out.trans (BP.mono P.out.size))
      have OW2 := Lib.hid (OW.out.keep BP)
      have XN := Lib.hid (XA.out.next k0)
      have TV := Lib.hid (TV0.new wr)
      have y0 : (wr.alloc (boxT false none 0 0 none 0 0)).cell? ⟨bA, oA + i * 3, none⟩ = some (.bool sT) := by rw [hsT]; exact XN.out.is.c0
      have y1 := XN.out.is.c1
      have y2 := XN.out.is.c2
      have v0 := TV.out.bx.c0
      have v1 := TV.out.bx.c1
      have v2 := TV.out.bx.c2
      have f0 := TV.out.fr 0
      have f1 := TV.out.fr 1
      have f2 := TV.out.fr 2
      have TX := Lib.hid (show TV1 (wr.alloc (boxT sT A1 n1 c1 B1 m1 d1)) wr.heap.size T sT A1 n1 c1 B1 m1 d1 from ⟨BxT.new wr sT A1 n1 c1 B1 m1 d1, (show Is wr T.z sT A1 n1 c1 by rw [hsT]; exact is_of_trm XA.out.is).below BP, XA.out.is.ri.below BP, XA.out.is.md, XA.out.is.dm⟩)
      clear hsT k0 BP TV XN XA P OW
      go_upto_region 16 with (fail)
      clear y0 y1 y2 v0 v1 v2 f0 f1 f2
      generalize wr.alloc (boxT sT A1 n1 c1 B1 m1 d1) = W6 at TX P2 OW2 ⊢
      generalize wr.heap.size = gt at TX ⊢
      have P := P2
      have OW := OW2
      clear P2 OW2
      have x0 := TX.out.bx.c0
      have x1 := TX.out.bx.c1
      go_wp2_with fail
      refine (zero_c sT A1 n1 c1 _).mono ?_
      rintro e w7 ⟨rfl, hb⟩
      replace P := Lib.hid (P.out.trans (hb.mono P.out.size))
      replace OW := Lib.hid (OW.out.keep hb)
      replace TX := Lib.hid (TX.out.next hb)
      clear hb x0 x1
      by_cases hz : T.z = 0
      · rw [decide_eq_true ((zero_iff TX.out.is).2 hz)]
        have HE := Lib.hid (show out ++ mergeZ (us.drop (i + 1)) (vs.drop (k)) = mergeZ us vs by rw [← HQ.out, HS.out, consZ, if_pos hz])
        clear hz TX
        go_wp2
        go_roundw
        case measure => simp [intOf]; omega
        case rel => exact ⟨i + 1, k, j, cL, L, out, by go_num, by go_num, rfl, by omega, by omega, by omega, P.out, OW.out, HE.out⟩
      · rw [decide_eq_false (fun q => hz ((zero_iff TX.out.is).1 q))]
        have HE := Lib.hid (show (out ++ [T]) ++ mergeZ (us.drop (i + 1)) (vs.drop (k)) = mergeZ us vs by rw [← HQ.out, HS.out, consZ, if_neg hz, List.append_assoc]; rfl)
        clear hz
        have x0 := TX.out.bx.c0
        have x1 := TX.out.bx.c1
        have x2 := TX.out.bx.c2
        go_upto_region 21 with (fail)
        go_wp2_with (at_builtin; refine wpList_app_tm rfl (.tmp 84) (.tmp 86) rfl w.heap.size L j cL (out.map trmOf) w7.heap.size 1 rfl rfl (OW.out.keep (bel_alloc _ _)) (Nat.le_trans P.out.size (bel_alloc _ _).size) TX.out.lit (by omega) ?_)
        intro g' c' w9 h1 hb
        have hba := bel_alloc w7 (boxT sT A1 n1 c1 B1 m1 d1)
        rw [show out.map trmOf ++ [trmOf T] = (out ++ [T]).map trmOf by rw [List.map_append]; rfl] at h1
        have OW2 := Lib.hid h1
        have P2 := Lib.hid ((P.out.trans (hba.mono P.out.size)).trans hb)
        clear h1 hb hba x0 x1 x2 OW P TX
        go_wp2
        go_roundw
        case measure => simp [intOf]; omega
        case rel => exact ⟨i + 1, k, j + 1, c', some ⟨g', 0, none⟩, out ++ [T], by go_num, by go_num, by go_num, by omega, by omega, by omega, P2.out, OW2.out, HE.out⟩
  · have e : i = us.length := by have := HL.out.1; omega
    have t1 : decide ((i : Int) < (n : Int)) = false := decide_eq_false (by omega)
    have t1n : decide (i < n) = false := decide_eq_false hin
    have t2 : ((i : Int) == (n : Int)) = true := by rw [beq_iff_eq]; omega
    have t2n : (i == n) = true := by rw [beq_iff_eq]; omega
    by_cases hkq : k < q
    · have t3 : decide ((k : Int) < (q : Int)) = true := decide_eq_true (by omega)
      have t3n : decide (k < q) = true := decide_eq_true hkq
      have t4 : ((k : Int) == (q : Int)) = false := by rw [beq_eq_false_iff_ne]; omega
      have t4n : (k == q) = false := by rw [beq_eq_false_iff_ne]; omega
      have hkI : (k : Int) < (q : Int) := by omega
      obtain ⟨bB, oB, rfl, hltB, hcB⟩ := HI.out.2.at_ (by omega)
      obtain ⟨A2, n2, c2, B2, m2, d2, hTB⟩ := hcB k hkq
      rw [trm_zt (by have := HL.out.2; omega)] at hTB
      have XB := Lib.hid (show TrA wr bB (oB + k * 3) (trmOf (ztAt vs k)) A2 n2 c2 B2 m2 d2 from ⟨Nat.lt_of_lt_of_le hltB P.out.size, hTB.below hltB P.out⟩)
      have HS := Lib.hid (merge_b (us := us) (vs := vs) (i := i) (k := k) e (by have := HL.out.2; omega))
      clear hTB hcB e
      clear TV P0
      obtain ⟨T, hT⟩ : ∃ x, x = ztAt vs k := ⟨_, rfl⟩
      rw [← hT] at XB HS
      clear hT
      obtain ⟨sT, hsT⟩ : ∃ x, x = decide (T.z < 0) := ⟨_, rfl⟩
      have k0 := bel_alloc wr (boxT false none 0 0 none 0 0)
      have BP := bel_alloc wr (boxT sT A2 n2 c2 B2 m2 d2)
      have P2 := Lib.hid (P.out.trans (BP.mono P.out.size))
      have OW2 := Lib.hid (OW.out.keep BP)
      have XN := Lib.hid (XB.out.next k0)
      have TV := Lib.hid (TV0.new wr)
      have y0 : (wr.alloc (boxT false none 0 0 none 0 0)).cell? ⟨bB, oB + k * 3, none⟩ = some (.bool sT) := by rw [hsT]; exact XN.out.is.c0
      have y1 := XN.out.is.c1
      have y2 := XN.out.is.c2
      have v0 := TV.out.bx.c0
      have v1 := TV.out.bx.c1
      have v2 := TV.out.bx.c2
      have f0 := TV.out.fr 0
      have f1 := TV.out.fr 1
      have f2 := TV.out.fr 2
      have TX := Lib.hid (show TV1 (wr.alloc (boxT sT A2 n2 c2 B2 m2 d2)) wr.heap.size T sT A2 n2 c2 B2 m2 d2 from ⟨BxT.new wr sT A2 n2 c2 B2 m2 d2, (show Is wr T.z sT A2 n2 c2 by rw [hsT]; exact is_of_trm XB.out.is).below BP, XB.out.is.ri.below BP, XB.out.is.md, XB.out.is.dm⟩)
      clear hsT k0 BP TV XN XB P OW
      go_upto_region 19 with (fail)
      clear y0 y1 y2 v0 v1 v2 f0 f1 f2
      generalize wr.alloc (boxT sT A2 n2 c2 B2 m2 d2) = W6 at TX P2 OW2 ⊢
      generalize wr.heap.size = gt at TX ⊢
      have P := P2
      have OW := OW2
      clear P2 OW2
      have x0 := TX.out.bx.c0
      have x1 := TX.out.bx.c1
      go_wp2_with fail
      refine (zero_c sT A2 n2 c2 _).mono ?_
      rintro e w7 ⟨rfl, hb⟩
      replace P := Lib.hid (P.out.trans (hb.mono P.out.size))
      replace OW := Lib.hid (OW.out.keep hb)
      replace TX := Lib.hid (TX.out.next hb)
      clear hb x0 x1
      by_cases hz : T.z = 0
      · rw [decide_eq_true ((zero_iff TX.out.is).2 hz)]
        have HE := Lib.hid (show out ++ mergeZ (us.drop (i)) (vs.drop (k + 1)) = mergeZ us vs by rw [← HQ.out, HS.out, consZ, if_pos hz])
        clear hz TX
        go_wp2
        go_roundw
        case measure => simp [intOf]; omega
        case rel => exact ⟨i, k + 1, j, cL, L, out, by go_num, by go_num, rfl, by omega, by omega, by omega, P.out, OW.out, HE.out⟩
      · rw [decide_eq_false (fun q => hz ((zero_iff TX.out.is).1 q))]
        have HE := Lib.hid (show (out ++ [T]) ++ mergeZ (us.drop (i)) (vs.drop (k + 1)) = mergeZ us vs by rw [← HQ.out, HS.out, consZ, if_neg hz, List.append_assoc]; rfl)
        clear hz
        have x0 := TX.out.bx.c0
        have x1 := TX.out.bx.c1
        have x2 := TX.out.bx.c2
        go_upto_region 21 with (fail)
        go_wp2_with (at_builtin; refine wpList_app_tm rfl (.tmp 84) (.tmp 86) rfl w.heap.size L j cL (out.map trmOf) w7.heap.size 1 rfl rfl (OW.out.keep (bel_alloc _ _)) (Nat.le_trans P.out.size (bel_alloc _ _).size) TX.out.lit (by omega) ?_)
        intro g' c' w9 h1 hb
        have hba := bel_alloc w7 (boxT sT A2 n2 c2 B2 m2 d2)
        rw [show out.map trmOf ++ [trmOf T] = (out ++ [T]).map trmOf by rw [List.map_append]; rfl] at h1
        have OW2 := Lib.hid h1
        have P2 := Lib.hid ((P.out.trans (hba.mono P.out.size)).trans hb)
        clear h1 hb hba x0 x1 x2 OW P TX
        go_wp2
        go_roundw
        case measure => simp [intOf]; omega
        case rel => exact ⟨i, k + 1, j + 1, c', some ⟨g', 0, none⟩, out ++ [T], by go_num, by go_num, by go_num, by omega, by omega, by omega, P2.out, OW2.out, HE.out⟩
    · have e2 : k = vs.length := by have := HL.out.2; omega
      have t3 : decide ((k : Int) < (q : Int)) = false := decide_eq_false (by omega)
      have t3n : decide (k < q) = false := decide_eq_false hkq
      have HR := Lib.hid (show out = mergeZ us vs by
       have h1 := HQ.out
       rw [e, e2, List.drop_length, List.drop_length, mergeZ, List.append_nil] at h1
       exact h1)
      have HJ := Lib.hid (show (mergeZ us vs).length = j by rw [← HR.out]; have := OW.out.len; rwa [List.length_map] at this)
      have HF := Lib.hid (show MergeP us vs w (.returned (.slice L j cL)) wr from ⟨L, cL, by rw [HJ.out], by rw [HJ.out, ← HR.out]; exact OW.out, P.out⟩)
      clear e e2 TV P0
      go_wp2
      go_ret
      exact HF.out
end Go.Proofs.YteabokkofoomkaaGreat

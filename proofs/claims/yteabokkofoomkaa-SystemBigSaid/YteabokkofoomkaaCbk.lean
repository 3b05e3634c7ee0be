import Derived.Test.YteabokkofoomkaaCao
import Derived.Test.YteabokkofoomkaaCbj
import Derived.BigRegion
set_option maxRecDepth 100000
namespace Go.Proofs.Yteabokkofoomkaa
open Go.RowKit Go.Shelf Go.Deep
def timesZ (us : List Zt) (t : Zt) : List Zt := if t.z = 0 then [] else us.map (fun u => prodZ u t)
theorem timesZ_len (us : List Zt) (t : Zt) : (timesZ us t).length ≤ us.length := by unfold timesZ; split <;> simp
structure TS (w W : World) (g V : Nat) (A : Option Addr) (n c : Nat) (s : Bool) (A1 : Option Addr) (n1 c1 : Nat) (B1 : Option Addr) (d1 : Nat) (L : Option Addr) (j cL : Nat) : Prop where
 low : Below w.heap.size w W
 bp : BxP W g V A n c
 bt : BxT W (g + 1) s A1 n1 c1 B1 V d1
 rr : RP0 W (g + 2)
 ob : BxP W (g + 3) V L j cL
 fr : ∀ o, W.frozen? ⟨g + 3, o, none⟩ = false
section
variable {w W W' : World} {g V : Nat} {A : Option Addr} {n c : Nat} {s : Bool} {A1 : Option Addr} {n1 c1 : Nat} {B1 : Option Addr} {d1 : Nat} {L : Option Addr} {j cL : Nat}
theorem TS.next (h : TS w W g V A n c s A1 n1 c1 B1 d1 L j cL) (hb : Below W.heap.size W W') : TS w W' g V A n c s A1 n1 c1 B1 d1 L j cL :=
 ⟨h.low.trans (hb.mono h.low.size), h.bp.next hb, h.bt.next hb, h.rr.next hb, h.ob.next hb, fun o => (hb.frozen (p := ⟨g + 3, o, none⟩) h.ob.lt).trans (h.fr o)⟩
theorem TS.under (h : TS w W g V A n c s A1 n1 c1 B1 d1 L j cL) (hg : w.heap.size ≤ g) (hb : Below (g + 4) W W') : TS w W' g V A n c s A1 n1 c1 B1 d1 L j cL :=
 ⟨h.low.trans (hb.mono (by omega)),
  ⟨Nat.lt_of_lt_of_le h.bp.lt hb.size, (hb.cell (p := ⟨g, 0, none⟩) (by show g < g + 4; omega)).trans h.bp.c0, (hb.cell (p := ⟨g, 1, none⟩) (by show g < g + 4; omega)).trans h.bp.c1⟩,
  ⟨Nat.lt_of_lt_of_le h.bt.lt hb.size, (hb.cell (p := ⟨g + 1, 0, none⟩) (by show g + 1 < g + 4; omega)).trans h.bt.c0, (hb.cell (p := ⟨g + 1, 1, none⟩) (by show g + 1 < g + 4; omega)).trans h.bt.c1, (hb.cell (p := ⟨g + 1, 2, none⟩) (by show g + 1 < g + 4; omega)).trans h.bt.c2⟩,
  ⟨⟨Nat.lt_of_lt_of_le h.rr.bx.lt hb.size, (hb.cell (p := ⟨g + 2, 0, none⟩) (by show g + 2 < g + 4; omega)).trans h.rr.bx.c0, (hb.cell (p := ⟨g + 2, 1, none⟩) (by show g + 2 < g + 4; omega)).trans h.rr.bx.c1⟩, fun o => (hb.frozen (p := ⟨g + 2, o, none⟩) (by show g + 2 < g + 4; omega)).trans (h.rr.fr o)⟩,
  ⟨Nat.lt_of_lt_of_le h.ob.lt hb.size, (hb.cell (p := ⟨g + 3, 0, none⟩) (by show g + 3 < g + 4; omega)).trans h.ob.c0, (hb.cell (p := ⟨g + 3, 1, none⟩) (by show g + 3 < g + 4; omega)).trans h.ob.c1⟩,
  fun o => (hb.frozen (p := ⟨g + 3, o, none⟩) (by show g + 3 < g + 4; omega)).trans (h.fr o)⟩
theorem TS.put (h : TS w W g V A n c s A1 n1 c1 B1 d1 L j cL) (hg : w.heap.size ≤ g) (L' : Option Addr) (j' c' : Nat) : TS w (W.setCell ⟨g + 3, 1, none⟩ (.slice L' j' c')) g V A n c s A1 n1 c1 B1 d1 L' j' c' := by
 have ne : ∀ (x q : Nat), x ≠ g + 3 → (⟨x, q, none⟩ : Addr) ≠ ⟨g + 3, 1, none⟩ := fun x q hx e => hx (by injection e)
 refine ⟨h.low.setCell (p := ⟨g + 3, 1, none⟩) (by show w.heap.size ≤ g + 3; omega) _, ⟨by rw [World.size_setCell]; exact h.bp.lt, ?_, ?_⟩, ⟨by rw [World.size_setCell]; exact h.bt.lt, ?_, ?_, ?_⟩, ⟨⟨by rw [World.size_setCell]; exact h.rr.bx.lt, ?_, ?_⟩, fun o => by rw [World.frozen?_setCell]; exact h.rr.fr o⟩, ⟨by rw [World.size_setCell]; exact h.ob.lt, ?_, ?_⟩, fun o => by rw [World.frozen?_setCell]; exact h.fr o⟩
 · rw [World.cell?_setCell_other _ _ _ _ (ne _ _ (by omega)).symm]; exact h.bp.c0
 · rw [World.cell?_setCell_other _ _ _ _ (ne _ _ (by omega)).symm]; exact h.bp.c1
 · rw [World.cell?_setCell_other _ _ _ _ (ne _ _ (by omega)).symm]; exact h.bt.c0
 · rw [World.cell?_setCell_other _ _ _ _ (ne _ _ (by omega)).symm]; exact h.bt.c1
 · rw [World.cell?_setCell_other _ _ _ _ (ne _ _ (by omega)).symm]; exact h.bt.c2
 · rw [World.cell?_setCell_other _ _ _ _ (ne _ _ (by omega)).symm]; exact h.rr.bx.c0
 · rw [World.cell?_setCell_other _ _ _ _ (ne _ _ (by omega)).symm]; exact h.rr.bx.c1
 · rw [World.cell?_setCell_other _ _ _ _ (by intro e; injection e with e1 e2; omega)]; exact h.ob.c0
 · exact World.cell?_setCell_same _ _ _ h.ob.c1
end
def PolyN (V : Nat) (res : List Zt) (w : World) (e : Ending) (w' : World) : Prop :=
 ∃ L c, e = .returned (aggP (V : Int) L res.length c) ∧ PolyX w' w.heap.size L c res ∧ Below w.heap.size w w'
theorem addE_ext {a b zs : List Int} {V : Nat} (ha : a.length = V) (hz : zs.length = V) (h : ∀ x, x < V → zs.getD x 0 = a.getD x 0 + b.getD x 0) : zs = addE a b := by
 refine List.ext_getElem (by rw [addE_len, ha, hz]) fun i h1 h2 => ?_
 have h3 := h i (by omega)
 have h4 := addE_at (a := a) (b := b) (i := i) (by omega)
 rw [List.getD_eq_getElem?_getD, List.getElem?_eq_getElem h1] at h3
 rw [List.getD_eq_getElem?_getD, List.getElem?_eq_getElem h2] at h4
 simp only [Option.getD_some] at h3 h4
 rw [h3, h4]
set_option maxHeartbeats 16000000 in
theorem refTimes_c (V K K' : Nat) (A : Option Addr) (n c : Nat) (us : List Zt) (t : Zt) (s : Bool) (A1 : Option Addr) (n1 c1 : Nat) (B1 : Option Addr) (d1 : Nat) (w : World) (h : RdT w A n (us.map trmOf)) (hI : TIn K V us) (hn : n ≤ 500000) (hnc : n ≤ c) (hcm : c ≤ 9223372036854775807)
 (hi : Is w t.z s A1 n1 c1) (hr : RdI w B1 V t.es) (hd : V ≤ d1) (hdm : d1 ≤ 9223372036854775807) (he : ExpsIn t.es) (hz : Sz t.z K') (hK : K ≤ 1000000000) (hK' : K' ≤ 1000000000) (hV : V ≤ 100000) :
 Calls Try.prog 22 #[aggP (V : Int) A n c, aggT s A1 n1 c1 B1 V d1] w (PolyN V (timesZ us t) w) := by
 have hmk := mk_z V (by omega)
 have k0 := bel_alloc w (boxP V A n c)
 have k1 := bel_alloc (w.alloc (boxP V A n c)) (boxT s A1 n1 c1 B1 V d1)
 have k2 := bel_alloc ((w.alloc (boxP V A n c)).alloc (boxT s A1 n1 c1 B1 V d1)) (boxP 0 none 0 0)
 have k3 := bel_alloc (((w.alloc (boxP V A n c)).alloc (boxT s A1 n1 c1 B1 V d1)).alloc (boxP 0 none 0 0)) (boxP V none 0 0)
 obtain ⟨g, hg⟩ : ∃ g, g = w.heap.size := ⟨_, rfl⟩
 have X := Lib.hid (show TS w ((((w.alloc (boxP V A n c)).alloc (boxT s A1 n1 c1 B1 V d1)).alloc (boxP 0 none 0 0)).alloc (boxP V none 0 0)) g V A n c s A1 n1 c1 B1 d1 none 0 0 from by
  have e0 : (w.alloc (boxP V A n c)).heap.size = g + 1 := by rw [World.size_alloc, hg]
  have e1 : ((w.alloc (boxP V A n c)).alloc (boxT s A1 n1 c1 B1 V d1)).heap.size = g + 2 := by rw [World.size_alloc, e0]
  have e2 : (((w.alloc (boxP V A n c)).alloc (boxT s A1 n1 c1 B1 V d1)).alloc (boxP 0 none 0 0)).heap.size = g + 3 := by rw [World.size_alloc, e1]
  refine ⟨((k0.trans (k1.mono k0.size)).trans (k2.mono (Nat.le_trans k0.size k1.size))).trans (k3.mono (Nat.le_trans (Nat.le_trans k0.size k1.size) k2.size)), ?_, ?_, ?_, ?_, ?_⟩
  · rw [hg]; exact (((BxP.new w V A n c).next k1).next k2).next k3
  · rw [← e0]; exact ((BxT.new _ s A1 n1 c1 B1 V d1).next k2).next k3
  · rw [← e1]; exact (RP0.new _).next k3
  · rw [← e2]; exact BxP.new _ V none 0 0
  · intro o
    rw [← e2]
    simp only [World.frozen?, Go.heap_alloc_new]
    simp)
 have HI := Lib.hid (And.intro h (And.intro hi hr))
 have HL := Lib.hid (show us.length = n by have := h.len; rwa [List.length_map] at this)
 have HTI := Lib.hid (And.intro hI (And.intro he hz))
 have HK := Lib.hid (And.intro hK (And.intro hK' hV))
 have HN := Lib.hid (And.intro hn (And.intro hnc hcm))
 have HD := Lib.hid (And.intro hd hdm)
 have HE := Lib.hid (show t.es.length = V from hr.len)
 have HG := Lib.hid hg
 clear k0 k1 k2 k3 h hi hr hI he hz hK hK' hV hn hnc hcm hd hdm
 go_enter Try.func22, Try.ntmps22
 go_upto_region 3 with (fail)
 generalize (((w.alloc (boxP V A n c)).alloc (boxT s A1 n1 c1 B1 V d1)).alloc (boxP 0 none 0 0)).alloc (boxP V none 0 0) = W0 at X ⊢
 rw [← hg]
 clear hg
 have hn5 := HN.out.1
 have hV5 := HK.out.2.2
 go_loopw [6] (fun v6 wr => ∃ (j cL : Nat) (L : Option Addr), v6 = .int .i64 (j : Int) ∧ j ≤ n ∧ (t.z = 0 → j = 0) ∧ TS w wr g V A n c s A1 n1 c1 B1 d1 L j cL ∧ OwX wr (g + 4) (g + 4) L j cL (((us.take j).map (fun u => prodZ u t)).map trmOf)) (fun v _ => n - (intOf v).toNat)
 case atStart => exact ⟨0, 0, none, rfl, Nat.zero_le _, fun _ => rfl, X.out, OwX.nil _ _ _⟩
 case round =>
  obtain ⟨j, cL, L, rfl, hj, hj0, hx, ho⟩ := hrel
  clear X
  have X := Lib.hid hx
  have OX := Lib.hid ho
  have HJ := Lib.hid hj0
  clear hx ho hj0
  have a1 := X.out.bp.c1
  by_cases hjn : j < n
  · have t1 : decide ((j : Int) < (n : Int)) = true := decide_eq_true (by omega)
    have t1n : decide (j < n) = true := decide_eq_true hjn
    have hjI : (j : Int) < (n : Int) := by omega
    have b0 := X.out.bt.c0
    have b1 := X.out.bt.c1
    go_wp2_with fail
    refine (zero_c s A1 n1 c1 _).mono ?_
    rintro e w1 ⟨rfl, hb⟩
    have OX2 := Lib.hid (OX.out.keep hb)
    have X2 := Lib.hid (X.out.next hb)
    clear hb X OX a1 b0 b1
    have X := X2
    have OX := OX2
    clear X2 OX2
    by_cases q0 : t.z = 0
    · rw [decide_eq_true ((zero_iff HI.out.2.1).2 q0)]
      obtain rfl := HJ.out q0
      have HF := Lib.hid (show timesZ us t = [] by unfold timesZ; rw [if_pos q0])
      clear q0
      have r0 := X.out.rr.bx.c0
      have r1 := X.out.rr.bx.c1
      have f0 := X.out.rr.fr 0
      have f1 := X.out.rr.fr 1
      have o0 := X.out.ob.c0
      have o1 := X.out.ob.c1
      go_wp2
      have Q := X.out.rr.bx.put V L 0 cL
      have z0 := Q.c0
      have z1 := Q.c1
      refine bodyPost_ret (v := aggP V L 0 cL) (by simp [results, Try.results22, go_sem, z0, z1]) rfl ?_
      refine ⟨L, cL, by rw [HF.out]; rfl, ?_, below_store X.out.low (by have := HG.out; omega) _ _⟩
      rw [HF.out]
      exact ⟨⟨rfl, fun h => absurd h (Nat.lt_irrefl 0)⟩, fun a ha => by have := (OX.out.cap.2.2 a ha).1; have := HG.out; omega, Nat.zero_le _, OX.out.cap.2.1⟩
    · rw [decide_eq_false (fun q => q0 ((zero_iff HI.out.2.1).1 q))]
      have HNZ := Lib.hid q0
      clear q0
      have HM2 := Lib.hid hmk
      obtain ⟨b, o, rfl, hlt, hc⟩ := HI.out.1.at_ (by omega)
      obtain ⟨A2, n2, c2, B2, m2, d2, hT⟩ := hc j hjn
      rw [trm_zt (by rw [HL.out]; exact hjn)] at hT
      have HU := Lib.hid (HTI.out.1 _ (ztAt_mem (ts := us) (i := j) (by rw [HL.out]; exact hjn)))
      have hmV : m2 = V := by
       have h1 := hT.ri.len
       have h2 := HU.out.2.1
       have h3 : (trmOf (ztAt us j)).es = (ztAt us j).es := rfl
       rw [h3] at h1
       omega
      subst hmV
      have HTA := Lib.hid (show ∀ W, Below w.heap.size w W → TrmIs W b (o + j * 3) (trmOf (ztAt us j)) A2 n2 c2 B2 m2 d2 from fun W hb => hT.below hlt hb)
      obtain ⟨u, hu⟩ : ∃ u, u = ztAt us j := ⟨_, rfl⟩
      have HRU := Lib.hid (show RdI w B2 m2 u.es from by rw [hu]; exact hT.ri)
      rw [← hu] at HTA HU
      have HUU := Lib.hid hu
      clear hc hT hu
      have a0 := X.out.bp.c0
      go_upto_region 7 with (fail)
      have kb := bel_alloc w1 (rowZ (List.replicate m2 0))
      have Z := Lib.hid (RZ.new w1 (List.replicate m2 0))
      have B9 := Lib.hid kb
      obtain ⟨ge, hge⟩ : ∃ x, x = w1.heap.size := ⟨_, rfl⟩
      have HGE := Lib.hid hge
      rw [← hge] at Z ⊢
      clear kb hge a0 hmk
      generalize w1.alloc (rowZ (List.replicate m2 0)) = W8 at Z B9 ⊢
      generalize w1 = W9 at X OX HGE B9
      go_loopw [8] (fun v8 wr => ∃ (k : Nat) (zs : List Int), v8 = .int .i64 (k : Int) ∧ k ≤ m2 ∧ Below W9.heap.size W9 wr ∧ RZ wr ge zs ∧ zs.length = m2 ∧ ∀ x, x < k → zs.getD x 0 = u.es.getD x 0 + t.es.getD x 0) (fun v _ => m2 - (intOf v).toNat)
      case atStart => exact ⟨0, _, rfl, Nat.zero_le _, B9.out, Z.out, List.length_replicate .., fun x hx => absurd hx (by omega)⟩
      case round =>
       obtain ⟨k, zs, rfl, hk, h9, hz, hzl, hza⟩ := hrel
       clear Z B9
       have Z := Lib.hid hz
       have B9 := Lib.hid h9
       have XK := Lib.hid (X.out.next h9)
       have HZ := Lib.hid (And.intro hzl hza)
       clear hz h9 hzl hza
       have a0 := XK.out.bp.c0
       by_cases hkm : k < m2
       · have t2 : decide ((k : Int) < (m2 : Int)) = true := decide_eq_true (by omega)
         have t2n : decide (k < m2) = true := decide_eq_true hkm
         have hkI : (k : Int) < (m2 : Int) := by omega
         obtain ⟨bE, oE, rfl, hltE, hcE⟩ := HRU.out.at_ (by omega)
         obtain ⟨bF, oF, rfl, hltF, hcF⟩ := HI.out.2.2.at_ (by omega)
         obtain ⟨z1, hz1⟩ : ∃ x, x = u.es.getD k 0 := ⟨_, rfl⟩
         obtain ⟨z2, hz2⟩ : ∃ x, x = t.es.getD k 0 := ⟨_, rfl⟩
         have HE1 := Lib.hid (show ∀ W, Below w.heap.size w W → W.cell? ⟨bE, oE + k, none⟩ = some (.int .i64 z1) from fun W hb => by rw [hz1]; exact (hb.cell (p := ⟨bE, oE + k, none⟩) hltE).trans (hcE k hkm))
         have HE2 := Lib.hid (show ∀ W, Below w.heap.size w W → W.cell? ⟨bF, oF + k, none⟩ = some (.int .i64 z2) from fun W hb => by rw [hz2]; exact (hb.cell (p := ⟨bF, oF + k, none⟩) hltF).trans (hcF k hkm))
         have hb1 := HU.out.1 k (by rw [HU.out.2.1]; exact hkm)
         have hb2 := HTI.out.2.1 k (by rw [HE.out]; exact hkm)
         rw [← hz1] at hb1
         rw [← hz2] at hb2
         have wz : IntKind.i64.wrap (z1 + z2) = z1 + z2 := IntWalk.i64_in _ (by omega)
         have HZZ := Lib.hid (And.intro hz1 hz2)
         clear hz1 hz2 hb1 hb2 hcE hcF
         go_upto_region 9 with (fail)
         clear a0
         refine wp_region_tail (S := (fun w' => w'.cell? ⟨g, 1, none⟩ = some (.slice (some ⟨b, o, none⟩) n c) ∧ w'.cell? ⟨b, (o + j * 3 + 2), none⟩ = some (.slice (some ⟨bE, oE, none⟩) m2 d2) ∧ w'.cell? ⟨bE, (oE + k), none⟩ = some (.int .i64 z1) ∧ w'.cell? ⟨(g + 1), 2, none⟩ = some (.slice (some ⟨bF, oF, none⟩) m2 d1) ∧ w'.cell? ⟨bF, (oF + k), none⟩ = some (.int .i64 z2))) 18 (by kernel_rfl) (by kernel_rfl) (by intro c a d v w h; cases d <;> exact h) (⟨cell_drq XK.out.bp.c1, cell_drq (HTA.out _ XK.out.low).c2, cell_drq (HE1.out _ XK.out.low), cell_drq XK.out.bt.c2, cell_drq (HE2.out _ XK.out.low)⟩) (fun QT hT hP hHeld => ?_)
         simp only [List.extract_toArray, List.extract_eq_take_drop, List.drop_zero, Nat.sub_zero, List.take_succ_cons, List.take_zero]
         have HT := Lib.hid hT
         clear hT
         replace B9 := Lib.hid (B9.out.trans ((Below.refl wr.heap.size wr).drew.mono B9.out.size))
         replace XK := Lib.hid (XK.out.next (Below.refl wr.heap.size wr).drew)
         replace Z := Lib.hid (Z.out.next (Below.refl wr.heap.size wr).drew)
         generalize wr.drew = D1 at B9 XK Z hHeld ⊢
         refine tkk 0 34 rfl rfl (by kernel_rfl) (hP · · _) (by rfl) (fun w h => by obtain ⟨h0, h1, h2, h3, h4⟩ := h; go_simp; rfl) (by assumption) ?_
         simp only [set0, set1]
         refine tkk 1 35 rfl rfl (by kernel_rfl) (hP · · _) (by rfl) (fun w h => by obtain ⟨h0, h1, h2, h3, h4⟩ := h; go_simp; rfl) (by assumption) ?_
         simp only [set0, set1]
         refine tkk 2 36 rfl rfl (by kernel_rfl) (hP · · _) (by rfl) (fun w h => by obtain ⟨h0, h1, h2, h3, h4⟩ := h; go_simp; rfl) (by assumption) ?_
         simp only [set0, set1]
         refine tkk 3 37 rfl rfl (by kernel_rfl) (hP · · _) (by rfl) (fun w h => by obtain ⟨h0, h1, h2, h3, h4⟩ := h; go_simp; rfl) (by assumption) ?_
         simp only [set0, set1]
         refine tkk 4 38 rfl rfl (by kernel_rfl) (hP · · _) (by rfl) (fun w h => by obtain ⟨h0, h1, h2, h3, h4⟩ := h; go_simp; rfl) (by assumption) ?_
         simp only [set0, set1]
         refine tkk 5 39 rfl rfl (by kernel_rfl) (hP · · _) (by rfl) (fun w h => by obtain ⟨h0, h1, h2, h3, h4⟩ := h; go_simp; rfl) (by assumption) ?_
         simp only [set0, set1]
         refine tkk 6 40 rfl rfl (by kernel_rfl) (hP · · _) (by rfl) (fun w h => by obtain ⟨h0, h1, h2, h3, h4⟩ := h; go_simp; rfl) (by assumption) ?_
         simp only [set0, set1]
         refine tkk 7 41 rfl rfl (by kernel_rfl) (hP · · _) (by rfl) (fun w h => by obtain ⟨h0, h1, h2, h3, h4⟩ := h; go_simp; rfl) (by assumption) ?_
         simp only [set0, set1]
         refine tkk 8 42 rfl rfl (by kernel_rfl) (hP · · _) (by rfl) (fun w h => by obtain ⟨h0, h1, h2, h3, h4⟩ := h; go_simp; rfl) (by assumption) ?_
         simp only [set0, set1]
         refine tkk 9 43 rfl rfl (by kernel_rfl) (hP · · _) (by rfl) (fun w h => by obtain ⟨h0, h1, h2, h3, h4⟩ := h; go_simp; rfl) (by assumption) ?_
         simp only [set0, set1]
         refine tkk 10 44 rfl rfl (by kernel_rfl) (hP · · _) (by rfl) (fun w h => by obtain ⟨h0, h1, h2, h3, h4⟩ := h; go_simp; rfl) (by assumption) ?_
         simp only [set0, set1]
         refine tkk 11 45 rfl rfl (by kernel_rfl) (hP · · _) (by rfl) (fun w h => by obtain ⟨h0, h1, h2, h3, h4⟩ := h; go_simp; rfl) (by assumption) ?_
         simp only [set0, set1]
         refine tkk 12 46 rfl rfl (by kernel_rfl) (hP · · _) (by rfl) (fun w h => by obtain ⟨h0, h1, h2, h3, h4⟩ := h; go_simp; rfl) (by assumption) ?_
         simp only [set0, set1]
         refine tkk 13 47 rfl rfl (by kernel_rfl) (hP · · _) (by rfl) (fun w h => by obtain ⟨h0, h1, h2, h3, h4⟩ := h; go_simp; rfl) (by assumption) ?_
         simp only [set0, set1]
         refine tkk 14 48 rfl rfl (by kernel_rfl) (hP · · _) (by rfl) (fun w h => by obtain ⟨h0, h1, h2, h3, h4⟩ := h; go_simp; rfl) (by assumption) ?_
         simp only [set0, set1]
         refine tkk 15 49 rfl rfl (by kernel_rfl) (hP · · _) (by rfl) (fun w h => by obtain ⟨h0, h1, h2, h3, h4⟩ := h; go_simp; rfl) (by assumption) ?_
         simp only [set0, set1]
         refine tkk 16 50 rfl rfl (by kernel_rfl) (hP · · _) (by rfl) (fun w h => by obtain ⟨h0, h1, h2, h3, h4⟩ := h; go_simp; rfl) (by assumption) ?_
         simp only [set0, set1]
         refine tkk 17 51 rfl rfl (by kernel_rfl) (hP · · _) (by rfl) (fun w h => by obtain ⟨h0, h1, h2, h3, h4⟩ := h; go_simp; rfl) (by assumption) ?_
         simp only [set0, set1]
         clear hHeld
         refine wpAnyH_done (by kernel_rfl) ?_ _
         refine HT.out _ _ ?_
         clear HT hP QT
         have c9 := Z.out.at_ k (by rw [HZ.out.1]; exact hkm)
         have f9 := Z.out.fr k
         refine wpList_step fun K hK => ?_
         go_simp
         refine hK _ _ ?_
         clear hK K
         refine wpList_nil ?_
         have Z2 := Lib.hid (Z.out.set_ (i := k) (by rw [HZ.out.1]; exact hkm) (z1 + z2))
         have B2 := Lib.hid (B9.out.setCell (p := ⟨ge, k, none⟩) (by show W9.heap.size ≤ ge; rw [HGE.out]; exact Nat.le_refl _) (.int .i64 (z1 + z2)))
         clear c9 f9 Z B9 XK
         generalize D1.setCell ⟨ge, k, none⟩ (.int .i64 (z1 + z2)) = W7 at Z2 B2 ⊢
         go_wp2
         go_roundw
         case measure => simp [intOf]; omega
         case rel => exact ⟨k + 1, zs.set k (z1 + z2), by go_num, by omega, B2.out, Z2.out, by rw [List.length_set]; exact HZ.out.1, fun x hx => by
          by_cases q : x = k
          · subst q
            rw [List.getD_eq_getElem?_getD, List.getElem?_set_self (by rw [HZ.out.1]; exact hkm), HZZ.out.1, HZZ.out.2]; rfl
          · rw [List.getD_eq_getElem?_getD, List.getElem?_set_ne (by omega), ← List.getD_eq_getElem?_getD]
            exact HZ.out.2 x (by omega)⟩
       · have e : k = m2 := by omega
         subst e
         have t2 : decide ((k : Int) < (k : Int)) = false := decide_eq_false (by omega)
         have t2n : decide (k < k) = false := decide_eq_false (by omega)
         have HZE := Lib.hid (show zs = addE u.es t.es from addE_ext HU.out.2.1 HZ.out.1 HZ.out.2)
         have ZE := Lib.hid (show RZ wr ge (addE u.es t.es) by rw [← HZE.out]; exact Z.out)
         have OK := Lib.hid (OX.out.keep B9.out)
         have SZ := Lib.hid (show g + 4 ≤ wr.heap.size by
          have h1 := X.out.ob.lt
          have h2 := B9.out.size
          omega)
         have HG2 := Lib.hid (show g + 4 ≤ ge by
          have h1 := X.out.ob.lt
          have h3 := HGE.out
          omega)
         clear X OX Z HZ HZE B9
         have X := XK
         have OX := OK
         clear XK OK
         obtain ⟨sU, hsU⟩ : ∃ x, x = decide (u.z < 0) := ⟨_, rfl⟩
         have HSU := Lib.hid hsU
         clear hsU
         go_upto_region 10 with (fail)
         clear a0
         refine wp_region_tail (S := (fun w' => w'.cell? ⟨(g + 3), 1, none⟩ = some (.slice L j cL) ∧ w'.cell? ⟨g, 1, none⟩ = some (.slice (some ⟨b, o, none⟩) n c) ∧ w'.cell? ⟨b, (o + j * 3), none⟩ = some (.bool sU) ∧ w'.cell? ⟨b, (o + j * 3 + 1), none⟩ = some (.slice A2 n2 c2) ∧ w'.cell? ⟨(g + 1), 0, none⟩ = some (.bool s) ∧ w'.cell? ⟨(g + 1), 1, none⟩ = some (.slice A1 n1 c1))) 16 (by kernel_rfl) (by kernel_rfl) (by intro c a d v w h; cases d <;> exact h) (⟨cell_drq X.out.ob.c1, cell_drq X.out.bp.c1, cell_drq (ea_c0 (HTA.out _ X.out.low) HSU.out), cell_drq (HTA.out _ X.out.low).c1, cell_drq X.out.bt.c0, cell_drq X.out.bt.c1⟩) (fun QT hT hP hHeld => ?_)
         simp only [List.extract_toArray, List.extract_eq_take_drop, List.drop_zero, Nat.sub_zero, List.take_succ_cons, List.take_zero]
         have HT := Lib.hid hT
         clear hT
         replace X := Lib.hid (X.out.next (Below.refl wr.heap.size wr).drew)
         replace OX := Lib.hid (OX.out.keep (Below.refl wr.heap.size wr).drew)
         replace ZE := Lib.hid (ZE.out.next (Below.refl wr.heap.size wr).drew)
         replace SZ := Lib.hid (Nat.le_trans SZ.out (Below.refl wr.heap.size wr).drew.size)
         generalize wr.drew = D2 at X OX ZE SZ hHeld ⊢
         refine tkk 0 52 rfl rfl (by kernel_rfl) (hP · · _) (by rfl) (fun w h => by obtain ⟨h0, h1, h2, h3, h4, h5⟩ := h; go_simp; rfl) (by assumption) ?_
         simp only [set0, set1]
         refine tkk 1 53 rfl rfl (by kernel_rfl) (hP · · _) (by rfl) (fun w h => by obtain ⟨h0, h1, h2, h3, h4, h5⟩ := h; go_simp; rfl) (by assumption) ?_
         simp only [set0, set1]
         refine tkk 2 54 rfl rfl (by kernel_rfl) (hP · · _) (by rfl) (fun w h => by obtain ⟨h0, h1, h2, h3, h4, h5⟩ := h; go_simp; rfl) (by assumption) ?_
         simp only [set0, set1]
         refine tkk 3 55 rfl rfl (by kernel_rfl) (hP · · _) (by rfl) (fun w h => by obtain ⟨h0, h1, h2, h3, h4, h5⟩ := h; go_simp; rfl) (by assumption) ?_
         simp only [set0, set1]
         refine tkk 4 56 rfl rfl (by kernel_rfl) (hP · · _) (by rfl) (fun w h => by obtain ⟨h0, h1, h2, h3, h4, h5⟩ := h; go_simp; rfl) (by assumption) ?_
         simp only [set0, set1]
         refine tkk 5 57 rfl rfl (by kernel_rfl) (hP · · _) (by rfl) (fun w h => by obtain ⟨h0, h1, h2, h3, h4, h5⟩ := h; go_simp; rfl) (by assumption) ?_
         simp only [set0, set1]
         refine tkk 6 58 rfl rfl (by kernel_rfl) (hP · · _) (by rfl) (fun w h => by obtain ⟨h0, h1, h2, h3, h4, h5⟩ := h; go_simp; rfl) (by assumption) ?_
         simp only [set0, set1]
         refine tkk 7 59 rfl rfl (by kernel_rfl) (hP · · _) (by rfl) (fun w h => by obtain ⟨h0, h1, h2, h3, h4, h5⟩ := h; go_simp; rfl) (by assumption) ?_
         simp only [set0, set1]
         refine tkk 8 60 rfl rfl (by kernel_rfl) (hP · · _) (by rfl) (fun w h => by obtain ⟨h0, h1, h2, h3, h4, h5⟩ := h; go_simp; rfl) (by assumption) ?_
         simp only [set0, set1]
         refine tkk 9 61 rfl rfl (by kernel_rfl) (hP · · _) (by rfl) (fun w h => by obtain ⟨h0, h1, h2, h3, h4, h5⟩ := h; go_simp; rfl) (by assumption) ?_
         simp only [set0, set1]
         refine tkk 11 63 rfl rfl (by kernel_rfl) (hP · · _) (by rfl) (fun w h => by obtain ⟨h0, h1, h2, h3, h4, h5⟩ := h; go_simp; rfl) (by assumption) ?_
         simp only [set0, set1]
         refine wpAnyH_ready (rs := [10]) (by kernel_rfl) (by simp) ?_
         refine AllReadyH.cons rfl (fun K hK => ?_) AllReadyH.nil
         go_simp
         have iU := is_of_trm (HTA.out _ X.out.low)
         rw [← HSU.out] at iU
         have iT := HI.out.2.1.below X.out.low
         refine (refMul_c iU iT (Nat.le_trans (iU.len HU.out.2.2) (by have := HK.out.1; omega)) (Nat.le_trans (iT.len HTI.out.2.2) (by have := HK.out.2.1; omega))).mono ?_
         rintro e v3 ⟨sT, At, nt, ct, rfl, hi9, hb⟩
         have IT := Lib.hid hi9
         clear iU iT hi9
         replace X := Lib.hid (X.out.next hb)
         replace OX := Lib.hid (OX.out.keep hb)
         replace ZE := Lib.hid (ZE.out.next hb)
         replace SZ := Lib.hid (Nat.le_trans SZ.out hb.size)
         clear hb hHeld
         refine hK.out _ _ (⟨X.out.ob.c1, X.out.bp.c1, (ea_c0 (HTA.out _ X.out.low) HSU.out), (HTA.out _ X.out.low).c1, X.out.bt.c0, X.out.bt.c1⟩) (fun hHeld => ?_)
         clear hK K
         refine tkk 12 64 rfl rfl (by kernel_rfl) (hP · · _) (by rfl) (fun w h => by obtain ⟨h0, h1, h2, h3, h4, h5⟩ := h; go_simp; rfl) (by assumption) ?_
         simp only [set0, set1]
         refine wpAnyH_ready (rs := [13]) (by kernel_rfl) (by simp) ?_
         refine AllReadyH.cons rfl (fun K hK => ?_) AllReadyH.nil
         go_simp
         have hb := bel_alloc v3 (boxT sT At nt ct (some ⟨ge, 0, none⟩) k k)
         have T3 := Lib.hid (show TB (v3.alloc (boxT sT At nt ct (some ⟨ge, 0, none⟩) k k)) v3.heap.size (trmOf (prodZ u t)) At nt ct (some ⟨ge, 0, none⟩) k k from by
          have hi := IT.out
          have e : (trmOf (prodZ u t)).s = sT := hi.1.symm
          refine ⟨by rw [e]; exact BxT.new v3 sT At nt ct _ k k, hi.2.2.1.below hb, hi.2.2.2.1, hi.2.2.2.2, ?_, Nat.le_refl _, by have := HK.out.2.2; omega⟩
          have h := (ZE.out.next hb).rd
          rw [addE_len, HU.out.2.1] at h
          exact h)
         replace X := Lib.hid (X.out.next hb)
         replace OX := Lib.hid (OX.out.keep hb)
         replace ZE := Lib.hid (ZE.out.next hb)
         replace SZ := Lib.hid (Nat.le_trans SZ.out hb.size)
         clear hb hHeld IT ZE
         generalize v3.alloc (boxT sT At nt ct (some ⟨ge, 0, none⟩) k k) = v4 at X OX SZ T3 ⊢
         generalize v3.heap.size = gt at T3 ⊢
         refine hK.out _ _ (⟨X.out.ob.c1, X.out.bp.c1, (ea_c0 (HTA.out _ X.out.low) HSU.out), (HTA.out _ X.out.low).c1, X.out.bt.c0, X.out.bt.c1⟩) (fun hHeld => ?_)
         clear hK K
         refine wpAnyH_ready (rs := [14]) (by kernel_rfl) (by simp) ?_
         refine AllReadyH.cons rfl (fun K hK => ?_) AllReadyH.nil
         refine step_app_tx rfl (.tmp 53) (.tmp 65) rfl (g + 4) (g + 4) L j cL (((us.take j).map (fun u => prodZ u t)).map trmOf) gt 1 rfl rfl OX.out SZ.out T3.out (fun a ha => by injection ha with ha; subst ha; exact HG2.out) (by have := HN.out.1; omega) ?_
         intro g' c' v5 h1 hb
         replace X := Lib.hid (X.out.under (by have := HG.out; omega) hb)
         rw [show ((us.take j).map (fun u => prodZ u t)).map trmOf ++ [trmOf (prodZ u t)] = ((us.take (j + 1)).map (fun u => prodZ u t)).map trmOf by rw [List.take_add_one, List.map_append, List.map_append, List.getElem?_eq_getElem (by rw [HL.out]; exact hjn), HUU.out]; unfold ztAt; rw [List.getD_eq_getElem?_getD, List.getElem?_eq_getElem (by rw [HL.out]; exact hjn)]; rfl] at h1
         replace OX := Lib.hid h1
         clear h1 hb hHeld T3 SZ
         refine hK.out _ _ (⟨X.out.ob.c1, X.out.bp.c1, (ea_c0 (HTA.out _ X.out.low) HSU.out), (HTA.out _ X.out.low).c1, X.out.bt.c0, X.out.bt.c1⟩) (fun hHeld => ?_)
         clear hK K
         refine tkk 15 67 rfl rfl (by kernel_rfl) (hP · · _) (by rfl) (fun w h => by obtain ⟨h0, h1, h2, h3, h4, h5⟩ := h; go_simp; rfl) (by assumption) ?_
         clear hHeld
         refine wpAnyH_done (by kernel_rfl) ?_ _
         refine HT.out _ _ ?_
         clear HT hP QT
         have o1 := X.out.ob.c1
         have f1 := X.out.fr 1
         refine wpList_step fun K hK => ?_
         go_simp
         refine hK _ _ ?_
         clear hK K
         refine wpList_nil ?_
         have X2 := Lib.hid (X.out.put (by have := HG.out; omega) (some ⟨g', 0, none⟩) (j + 1) c')
         have OX2 := Lib.hid (OX.out.slot (p := ⟨g + 3, 1, none⟩) (by show g + 3 < g + 4; omega) o1 (.slice (some ⟨g', 0, none⟩) (j + 1) c'))
         clear o1 f1 X OX
         generalize v5.setCell ⟨g + 3, 1, none⟩ (.slice (some ⟨g', 0, none⟩) (j + 1) c') = W7 at X2 OX2 ⊢
         go_wp2
         go_roundw
         case measure => simp [intOf]; omega
         case rel => exact ⟨j + 1, c', some ⟨g', 0, none⟩, by go_num, by omega, fun q => absurd q HNZ.out, X2.out, OX2.out⟩
  · have e : j = n := by omega
    subst e
    have t1 : decide ((j : Int) < (j : Int)) = false := decide_eq_false (by omega)
    have t1n : decide (j < j) = false := decide_eq_false (by omega)
    have HF := Lib.hid (show (us.take j).map (fun u => prodZ u t) = timesZ us t by
     rw [List.take_of_length_le (by rw [HL.out]; exact Nat.le_refl _)]
     unfold timesZ
     by_cases q0 : t.z = 0
     · rw [if_pos q0, List.length_eq_zero_iff.1 (HL.out.trans (HJ.out q0))]; rfl
     · rw [if_neg q0])
    rw [HF.out] at OX
    have HLN := Lib.hid (show (timesZ us t).length = j by have := OX.out.len; rwa [List.length_map] at this)
    have r0 := X.out.rr.bx.c0
    have r1 := X.out.rr.bx.c1
    have f0 := X.out.rr.fr 0
    have f1 := X.out.rr.fr 1
    have o0 := X.out.ob.c0
    have o1 := X.out.ob.c1
    have HPX := Lib.hid (show PolyX wr (g + 4) L cL (timesZ us t) from ⟨by rw [HLN.out]; exact OX.out.rd, fun a ha => (OX.out.cap.2.2 a ha).1, by rw [HLN.out]; exact OX.out.cap.1, OX.out.cap.2.1⟩)
    go_wp2
    have Q := X.out.rr.bx.put V L j cL
    have z0 := Q.c0
    have z1 := Q.c1
    refine bodyPost_ret (v := aggP V L j cL) (by simp [results, Try.results22, go_sem, z0, z1]) rfl ?_
    exact ⟨L, cL, by rw [HLN.out], (HPX.out.two (by omega) X.out.rr.bx _ _).low (by have := HG.out; omega), below_store X.out.low (by have := HG.out; omega) _ _⟩
end Go.Proofs.Yteabokkofoomkaa
